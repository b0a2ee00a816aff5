import PyProof.Rows.All
import Wide.All
import OpenK.AllK
import Wide.FinOn
import Lean
import PyProof.EqAt
import PyProof.EqKinds
import PyProof.TupleCall
import KE.KTryMore
import OpenK.KOwn
import PyProof.Rows.CatchOwn
import PyProof.StrLawsTight
import PyProof.StrLawsJoin
import PyProof.ExcInit
import PyProof.ExcClass2
import PyProof.InstStore
import PyProof.AttrMissSeq
import PySem.Challenge.RW_fallsum_k51_whole_often_and_walks
set_option Elab.async false
set_option linter.all false
set_option maxRecDepth 100000
section
open Or renaming inl->Qa,inr->Qs
open PySem.W renaming Frag->Qb,findIn->Xr,fnOf->Xy,nsIn->Ua,keepIn->Uf,mg_of->Ug,kia_one->Uj,kitOne->Uq,emptyDict->U3,instObj->J28,codeIn->J3b,clsIn->J3s,isFn->J4e,mroIn->J4f,exmOne->J4s,lookIn->J45,plainGet->J46,callWith_K->J48,excIn->J5m,methodObj->J54,hasDictIn->J59,plainGet_of->J6a,takerIn->J6b,makesIn->J6c,specialIn->J6f,takesIn->J6g,OpenLaw->J6l,hideAll->J7z,hideAll_get->J70,of_hideAll->J71,handedIn->J76,plainOver->J77,kitx_list->J78,kitx_dict->J79,methodCall_KW->J8a,cellsFrom_some->J8b,WalkO->J8e
open List renaming length_map->Qc,mem_cons->Qd,getElem?_eq_getElem->Qf,range->Qg,getD_eq_getElem?_getD->Qi,mem_cons_of_mem->Qj,mem_cons_self->Qk,getElem?_map->Qm,replicate->Qo,length_set->Qp,mem_map->Qq,mem_singleton->Qu,getElem?_eq_some_iff->Qv,getElem?_eq_none->Qx,length_range->Qz,map_map->Q0,getElem?_set_ne->Q1,size_toArray->Q2,mem_range->Q5,getElem?_set_self->Q7,map_cons->Xb,map_append->Xd,mem_append->Xh,mem_append_right->Xk,mem_of_getElem?->Xm,length_append->Xn,mem_append_left->Xo,ext_getElem?->Xq,nodup_cons->Xs,getElem_mem->Xt,mem_filter->Xw,length_replicate->X2,getElem?_range->X4,map_set->X5,length_cons->X9,not_mem_nil->Ub,mem_iff_getElem?->Uh,length_eraseIdx_of_lt->Ui,append_nil->Ur,all_eq_true->Uv,length_singleton->U0,lookup_cons->U5,map_congr_left->U7,getElem?_append_left->J3a,lookup->J3l,of_mem_zip->J3n,getElem?_append_right->J3o,getElem?_replicate->J3p,map_take->J3r,getElem?_zipWith->J3u,map_nil->J30,replicate_succ->J31,zipWith->J35,getElem?_set->J37,cons_append->J38,all_cons->J4h,any_cons->J4i,flatten_cons->J4j,foldl->J4k,nil_append->J4l,map_drop->J4p,range_succ->J4r,getElem?_mapIdx->J4t,map_singleton->J4u,getElem?_eraseIdx->J4v,filterMap_cons->J44,length_take->J5a,take_of_length_le->J5f,length_drop->J5g,length_zipWith->J5p,mem_replicate->J5q,map_replicate->J5s,length_zip->J5y,getElem_inj->J55,forIn_cons->J6m,forIn_nil->J6w,length_eq_zero_iff->J60,countP->J63,drop_eq_getElem_cons->J67,drop_length->J68,length_pos_iff->J69,pairwise_iff_getElem->J7a,take_add_one->J7c,zip_cons_cons->J7d,zip->J7e,map_zipWith->J7f,range_add->J7l,count->J7s,count_cons->J7t,take_length->J7u,set_comm->J74,mem_filterMap->J75,drop_of_length_le->J8t,dropLast_concat_getLast->J8u,getElem_of_mem->J8y,getElem?_drop->J82,length_mapIdx->J83,getLast?_eq_getElem?->J84,range_succ_eq_map->J85,filter_cons_of_pos->J86,filter_cons_of_neg->J87,nodup_append->J88,sum_append->J89,sum_singleton->J9a,zipWith_cons_cons->J9b,lookup_cons_self->J9c,set_set->J9d,sum_cons->J9i,pairwise_map->J9s,mem_of_mem_take->J9t,mem_of_mem_drop->J9u,nodup_range->J9v,eq_of_mem_replicate->J9w,take_range->J9y,any_eq_true->J9z
open Ne renaming symm->Qh
open Nat renaming le_refl->Ql,lt_of_lt_of_le->Qy,lt_irrefl->Q9,le_of_ble_eq_true->Xf,ne_of_lt->Xg,le_trans->Xj,zero_le->Xl,gcd->X7,le_of_lt->Ue,lt_of_le_of_lt->Us,lt_or_ge->Uw,two_pow_pos->J3g,le_of_not_lt->J32,ne_of_gt->J4c,le_add_right->J4q,mul_le_mul->J4x,mul_comm->J5d,min_eq_left->J5l,pow_le_pow_right->J5z,le_of_eq->J6d,lt_succ_self->J6e,le_succ->J6j,log2_lt->J6n,mul_le_mul_left->J6y,le_total->J6z,not_lt_zero->J64,lt_succ_of_lt->J65,le_of_succ_le->J66,lt_trichotomy->J7g,lt_of_succ_lt->J7k,pow_add->J7m,min_eq_right->J8s,add_mul_mod_self_left->J9e,mod_eq_of_lt->J9f,dvd_trans->J9g,mul_le_mul_right->J9o,mul_lt_mul_of_pos_right->J9p
open PySem.PyData renaming int->Qn,canLayAll0->Ut,eqv->Uu,list->Ux,tuple->Uy,canLay0->U6,depthAll->J5k,bool->J5o,weightAll->J6x,str->J8f,intsShortAll->J8q,showableAll->J8r
open PySem.Heap renaming lt_size->Qr,get?_push_of_some->Qt,get?_push_size->Xa,SameBut->Xz,size_push->X0,get?_update_other->U4,get?_update_self->J5b,FlyingW->J61
open PySem.Value renaming ref->Qw,bool->X8,builtin->Ul,int->Uo,none->Up,str->U2,type->U9,float->J52,bytes->J7x
open Int renaming mul_comm->Q3,zero_mul->Q6,toNat_natCast->Q8,mul_zero->Xc,mul_assoc->Xe,natCast_nonneg->Xi,le_refl->X6,mul_left_comm->Uc,one_mul->Um,mul_add->U8,natAbs_of_nonneg->J3c,mul_neg->J3f,emod_nonneg->J3h,mul_one->J3j,lt_or_le->J3t,natAbs_mul->J3v,mul_nonneg->J3y,emod_lt_of_pos->J3z,toNat_of_nonneg->J36,le_of_lt->J39,mul_le_mul_of_nonneg_right->J4o,add_zero->J4w,zero_add->J4y,mul_sub->J4z,nonneg_of_mul_nonneg_right->J40,mul_pos->J41,add_mul->J5t,neg_mul->J5u,ne_of_gt->J5v,sub_mul->J5w,sub_zero->J5x,le_trans->J50,mul_le_mul_of_nonneg_left->J51,natCast_mul->J6q,lt_of_le_of_lt->J6t,eq_of_mul_eq_mul_left->J7h,neg_sub->J7n,pos_of_mul_pos_right->J7o,mul_eq_zero->J7p,mul_nonpos_of_nonpos_of_nonneg->J7q,le_of_mul_le_mul_right->J7r,ofNat_dvd_left->J9h,natAbs_neg->J9m,zero_ediv->J9q,mul_nonpos_of_nonneg_of_nonpos->J9r
open Bool renaming false_ne_true->Q4,and_eq_true->X3,eq_iff_iff->J3k,false_eq_true->J34,or_eq_true->J5n,false_and->J56,noConfusion->J6u,false_or->J62,true_and->J7b,and_false->J8v,true_or->J9x
open Option.some renaming inj->Xp
open Option renaming some_ne_none->Xu,map_eq_some_iff->J4a,isSome_iff_exists->J49
open PySem.PassesOwn renaming never->Xv
open False renaming elim->Xx
open PySem renaming mem_of_lookup->X1,boot_len->Ud,Within->J53,call->J6k,seqSlot_of->J6o,Value->Yak,PyData->Yal,Shared->Yam,wpAny->Yan,World->Yao,Program->Yap,Around->Yaq,sizeLine_eq->Yar,mainGlobals->Yas,Scope->Yat,IsPair->Yau,NameKind->Yav,FuncData->Yaw,IsZip->Yax,codeAny->Yay,standAt->Yaz,wpAny_loadPart'->Ya3,wpAny_passesOwn->Ya5,Result->Ya6,wpAny_Call_Name_kw->Ya7,callerA->Ya8,wpAny_ite_false->Ya9,seqItems?->Yba,bootBuiltins->Ybb,wpAny_execs_nil->Ybc,swapsWith->Ybd,bindName->Ybe,BindsTo->Ybf,bindArgs->Ybg,Keyword->Ybh,Operator->Ybj,builtinsNs->Ybl,wpAny_pyIter_tuple->Ybm,behindInMarks->Ybn,attributeBase->Ybo,closureFor->Ybp,wpAny_callSpecial?_slot->Ybq,codeAny_builtin->Ybr,wpAny_execs_cons->Ybs,rangeSize_one->Ybt,foldedSetIterable->Ybu,seqIndex_neg->Ybv,wpAny_binaryOp_repeat_ref->Ybx
open PySem.NameKind renaming free->Uk,cell->U1
open Sum renaming inr->Uz,inl->J4b
open PyProof.Rows renaming callWith_type1->J29,boot_tuple->Ya0,boot_isinstance->Ya1,AllBare->Ya2,boot_list->Ya4,IntsAre->Ybi,boot_int->Ybk,subscriptTail_builtinR->Ybw
open PySem.Builtin.SmallTypes renaming nextOf->J3d,ownedTupleIsFree->J5i,ownedTupleHandOut->J8n
open PySem.Str renaming ofString->J3e
open PySem.F renaming plainAttrs_list->J3i,plain_min_loop->J3w,slot_tuple_mul->J4n,slot_list_append->J42,type_list_append->J43,slot_tuple_iterator_next->J5h,slot_zip_next->J5j,entry_tuple_mul->J6r,args_tuple_mul_2->J6s,entry_min_loop->J7i,slot_int_rmul->J8d,slot_tuple_rmul->J8g,slot_int_rmul->J8i,entry_tuple_iterator_next->J8l,args_tuple_iterator_next_1->J8m,entry_zip_next->J8o,args_zip_next_1->J8p,excAttr_ValueError->J8w,excBase_ValueError->J8x,slot_list_count->J8z,entry_list_count->J80,args_list_count_2->J81,slot_tuple_lt->J9j,slot_list_iadd->J9l,slot_list_count->J90,type_list_count->J91
open True renaming intro->J3m
open PySem.AutoSeq1 renaming wpAny_loadPart'->J3q,idx_int->J6p
open Classical renaming byContradiction->J3x
open ForInStep renaming yield->J33
open PySem.Data renaming cell->J4d,seq->J4m,fields->J57
open PySem.Obj renaming mapSeq->J4g,data_mapFields->J8j
open PySem.Around renaming under->J47,under_plainId->J7j
open PySem.Builtin.List renaming listTooLong->J5c
open Eq renaming trans->J5e
open PySem.Builtin.Int renaming intBits->J5r
open PySem.IsRange renaming new->J58
open PySem.Calls renaming spliced_nil->J6h,spliced_cons->J6i,Name_function_global->J72,evalArgs_plain->J8c
open PySem.Shared renaming heap->J6v
open PySem.SeqAt.EqAt renaming int_str->J7v,str_int->J7w
open PySem.Paired renaming length->J7y
open Array renaming toList->J73
open PySem.Builtin.Tuple renaming tupleTooMany->J8h
open PySem.Heap.SameBut renaming update->J8k
open PySem.Builtin.Builtins renaming bindParams->J9k
open PySem.BindsTo renaming of_defaults->J9n
open PySem.Builtin.Range renaming rangeSize->J92
open PySem.EqMixed renaming eq_bool_str->J93,eq_int_str->J94,eq_str_bool->J95,eq_str_int->J96,ne_bool_str->J97,ne_int_str->J98,ne_str_bool->J99,ne_str_int->Yaa
open PySem.W.Looks renaming here->Yab
open PySem.Heap.IsSliceOf renaming new->Yac
open List.Pairwise renaming nil->Yad,imp_of_mem->Yai
open PySem.Heap.UpToSlots renaming of_keeps->Yae
open PySem.Builtin.ObjectAttr renaming find->Yaf,getOf->Yag,dataDescriptor?->Yah
open PySem.Challenge renaming pw_fallsum_k51_whole_often_and_walks->Yaj
open PySem PySem.Spec PyProof.Rows
namespace L2
abbrev Key:=Sum Int Str
noncomputable def Jw2:Key->Yak->Bool
 | .inl k,v=>Value.isInt k v
 | .inr x,v=>Value.isStrOf x v
noncomputable def J17 (w:Yao):Key->Int
 | .inl k=>hashInt k
 | .inr x=>hashStr w x
theorem Zr:∀ {k:Key}{v:Yak},Jw2 k v=true->(∃ i t,k=J4b i/\v=Uo i t)\/(∃ x t,k=Uz x/\v=U2 x t)
 | .inl i,v,h=>by
  obtain ⟨t,e⟩:=Value.isInt_shape (k:=i) (v:=v) h
  exact .inl ⟨i,t,rfl,e⟩
 | .inr x,v,h=>by
  obtain ⟨t,e⟩:=Value.isStrOf_shape (x:=x) (v:=v) h
  exact .inr ⟨x,t,rfl,e⟩
theorem Jx8 (a b:Int):decide ((J4b a:Key)=J4b b)=(a==b):=by grind
theorem Jx9 (a b:Str):decide ((Uz a:Key)=Uz b)=decide (a=b):=by grind
theorem Jya (a:Int) (b:Str):decide ((J4b a:Key)=Uz b)=false:=decide_eq_false (λ q=>nomatch q)
theorem Jyb (a:Str) (b:Int):decide ((Uz a:Key)=J4b b)=false:=decide_eq_false (λ q=>nomatch q)
noncomputable def Jjd (prog:Yap) (w:Yao):PySem.KeyKind prog w Key where
 is:=Jw2
 hash:=J17 w
 inj:=λ v a b ha hb=>by
  rcases Zr ha with ⟨i,t,rfl,rfl⟩ | ⟨x,t,rfl,rfl⟩
  . rcases Zr hb with ⟨j,u,rfl,e⟩ | ⟨y,u,rfl,e⟩
    . injection e with e1 _;rw [e1]
    . exact nomatch e
  . rcases Zr hb with ⟨j,u,rfl,e⟩ | ⟨y,u,rfl,e⟩
    . exact nomatch e
    . injection e with e1 _;rw [e1]
 byValue:=λ k v h=>by
  rcases Zr h with ⟨i,t,rfl,rfl⟩ | ⟨x,t,rfl,rfl⟩<;>rfl
 pyHash:=λ hv h=>by
  rcases Zr hv with ⟨i,t,rfl,rfl⟩ | ⟨x,t,rfl,rfl⟩
  . exact wpAny_pyHash_int h
  . exact wpAny_pyHash_str h
 eqBool:=λ hu hv h=>by
  rcases Zr hu with ⟨i,t,rfl,rfl⟩ | ⟨x,t,rfl,rfl⟩
  . rcases Zr hv with ⟨j,u,rfl,rfl⟩ | ⟨y,u,rfl,rfl⟩
    . rw [Jx8] at h;exact wpAny_eqBool_int h
    . rw [Jya] at h;exact J7v i t y u _ _ _ _ h
  . rcases Zr hv with ⟨j,u,rfl,rfl⟩ | ⟨y,u,rfl,rfl⟩
    . rw [Jyb] at h;exact J7w x t j u _ _ _ _ h
    . rw [Jx9] at h;exact wpAny_eqBool_str h
 «strs»:=λ k x t v h=>by
  rcases Zr h with ⟨i,u,rfl,e⟩ | ⟨y,u,rfl,e⟩
  . exact nomatch e
  . injection e with e1 _
    subst e1
    cases v<;>rfl
inductive V where
 | non | bl (b:Bool) | int (i:Int) | str (x:Str) | byt (b:Array UInt8) | flt (b:UInt64) | ref (a:Addr) | ty (n:String)
 deriving DecidableEq
def Yy:V->Yak->Prop
 | .non,u=>u=Up
 | .bl b,u=>u=X8 b
 | .int i,u=>∃ t,u=Uo i t
 | .str x,u=>∃ t,u=U2 x t
 | .byt b,u=>∃ t,u=J7x b t
 | .flt b,u=>∃ t,u=J52 b t
 | .ref a,u=>u=Qw a
 | .ty n,u=>u=U9 n
abbrev J4:List V->List Yak->Prop:=Paired Yy
theorem J4.length {xs:List V}{us:List Yak}(r:J4 xs us):xs.length=us.length:=J7y r
theorem J4.get:∀ {xs:List V}{us:List Yak}{i:Nat}{x:V},J4 xs us->xs[i]? = some x->∃ u,us[i]? = some u/\Yy x u
 | _,_,_,_,.nil,e=>by simp at e
 | _,_,0,_,.cons r _,e=>by simp at e;subst e;exact ⟨_,rfl,r⟩
 | _,_,i+1,x,.cons _ t,e=>by
  obtain ⟨u,h1,h2⟩:=J4.get (i:=i) (x:=x) t (by simpa using e)
  exact ⟨u,by simpa using h1,h2⟩
theorem J4.set {x:V}{u:Yak}(r:Yy x u):∀ {xs:List V}{us:List Yak}(i:Nat),J4 xs us->J4 (xs.set i x) (us.set i u)
 | _,_,_,.nil=>.nil
 | _,_,0,.cons _ t=>.cons r t
 | _,_,i+1,.cons q t=>.cons q (J4.set r i t)
theorem J4.append:∀ {xs ys:List V}{us ws:List Yak},J4 xs us->J4 ys ws->J4 (xs++ys) (us++ws)
 | _,_,_,_,.nil,s=>s
 | _,_,_,_,.cons r t,s=>.cons r (J4.append t s)
theorem J4.take:∀ {xs:List V}{us:List Yak}(n:Nat),J4 xs us->J4 (xs.take n) (us.take n)
 | _,_,0,_=>.nil
 | _,_,_+1,.nil=>.nil
 | _,_,n+1,.cons r t=>.cons r (J4.take n t)
theorem J4.drop:∀ {xs:List V}{us:List Yak}(n:Nat),J4 xs us->J4 (xs.drop n) (us.drop n)
 | _,_,0,r=>r
 | _,_,_+1,.nil=>.nil
 | _,_,n+1,.cons _ t=>J4.drop n t
def Jgg:Option V->Option Yak->Prop
 | some v,some u=>Yy v u
 | none,none=>True
 | _,_=>False
def KV {κ:Type}:List (κ×V)->List (κ×Yak)->Prop:=Paired λ (p:κ×V) (q:κ×Yak)=>p.1=q.1/\Yy p.2 q.2
noncomputable def kV:Key->V
 | .inl i=>.int i
 | .inr x=>.str x
inductive HO where
 /-- a list -/
 | lst (xs:List V)
 /-- a tuple (never changes) -/
 | tup (xs:List V)
 /-- a dict whose keys are ints and texts;one whose keys are tuples of ints and texts (the empty one is both) -/
 | dK (kvs:List (Key×V)) | dT (kvs:List (List Key×V))
 /-- a set of ints: its members,its size -/
 | set (S:Int->Bool) (n:Nat)
 /-- an instance of the class at C,its dict at dx,its attributes -/
 | ins (C dx:Addr) (fs:List (Str×V))
 /-- the dict of the instance at x -/
 | own (x:Addr)
 /-- the dict of an exception -/
 | xd (fs:List (Str×V))
 /-- a bound method,f of x -/
 | met (f x:Addr)
 /-- a range object lo,lo+1,.. below hi -/
 | rng (lo hi:Int)
 /-- a thing that is known to the object (the script;a dict while a loop walks it): read,never written while it is so -/
 | frz (o:Obj) (u:HO)
 /-- a code object's table -/
 | tbl (ps:Array Yak)
 /-- any other thing,by what is true of its one object (a def of one's own: SetO a S n:=HO.ext λ h=>..) -/
 | ext (φ:Heap->Prop)
abbrev Hp:=Addr->Option HO
noncomputable def upd (H:Hp) (a:Addr) (o:HO):Hp:=λ b=>if b=a then some o else H b
theorem Jf {H:Hp}{a:Addr}{o:HO}:upd H a o a=some o:=by unfold upd;rw [if_pos rfl]
theorem Je {H:Hp}{a b:Addr}{o:HO}(h:b≠a):upd H a o b=H b:=by unfold upd;rw [if_neg h]
theorem Jf2 {H:Hp}{a:Addr}{o u:HO}:upd (upd H a o) a u=upd H a u:=by
 funext b;unfold upd;split<;>rfl
theorem Jl {H:Hp}{a b:Addr}{o:HO}(h:H a=some o) (h':H b=none):a≠b:=by
 intro e;subst e;rw [h] at h';cases h'
section
variable (P:Yap) (w:Yao)
def Zs (H:Hp) (h:Heap) (a:Addr):HO->Prop
 | .lst xs=>xs.length<=sizeLine/\∃ (its:List Yak) (n:Nat),J4 xs its/\h.get? a=some { cls:=.type "list",data:=.seq its.toArray n }
 | .tup xs=>xs.length<=sizeLine/\∃ its:List Yak,J4 xs its/\IsTup h a its.toArray
 | .dK kvs=>kvs.length<=sizeLine/\(a==sysModules)=false/\∃ vs,KV kvs vs/\h.DictOf (Jjd P w) a vs
 | .dT kvs=>kvs.length<=sizeLine/\(a==sysModules)=false/\∃ xs:List (List Key×Addr×Yak),
  Paired (λ (p:List Key×V) (q:List Key×Addr×Yak)=>p.1=q.1/\H q.2.1=some (.tup (p.1.map kV))/\Yy p.2 q.2.2) kvs xs /\
  ∃ o es ep,h.get? a=some o/\o.ExactDict/\o.data = .dict es ep/\es.toList=xs.map (entryOfKey (tupleKind (Jjd P w)))/\(xs.map (·.1)).Nodup
 | .set S n=>h.SetOf (intKind P w) a S n
 | .ins C dx fs=>H dx=some (.own a)/\fs.length<=1000/\dx≠a/\h.get? a=some (J28 C dx) /\
  ∃ mA,h.Ns1 dx mA/\(∀ f,Jgg (fs.lookup f) (mA f))/\J53 mA (fs.map (·.1))
 | .own _=>∃ o,h.get? a=some o
 | .xd fs=>∃ mA,h.Ns1 a mA/\∀ f,Jgg (fs.lookup f) (mA f)
 | .rng lo hi=>∃ t u v,h.get? a=some { cls:=.type "range",data:=.fields #[.int lo t,.int hi u,.int 1 v] }
 | .frz o u=>h.get? a=some o/\Zs H h a u
 | .tbl ps=>h.get? a=some { cls:=.none,data:=.fields ps }
 | .met f x=>h.get? a=some (J54 (.ref f) (.ref x))
 | .ext φ=>φ h/\(∃ o,h.get? a=some o)/\∀ h1 h2:Heap,φ h1->(∀ o,h1.get? a=some o->h2.get? a=some o)->φ h2
def HOk (H:Hp) (h:Heap):Prop:=∀ a o,H a=some o->Zs P w H h a o
end
section
variable {P:Yap}{w:Yao}{H H':Hp}{h h':Heap}{a:Addr}{o:HO}
theorem Zs.lt (x:Zs P w H h a o):a<h.objs.size:=by
 cases o with
 | lst xs=>obtain ⟨_,_,_,_,e⟩:=x;exact Qr e
 | tup xs=>obtain ⟨_,_,_,p⟩:=x;exact p.lt
 | dK kvs=>obtain ⟨_,_,_,_,o,_,_,e,_⟩:=x;exact Qr e
 | dT kvs=>obtain ⟨_,_,_,_,o,_,_,e,_⟩:=x;exact Qr e
 | set S n=>obtain ⟨o,_,_,_,e,_⟩:=x;exact Qr e
 | ins C dx fs=>obtain ⟨_,_,_,e,_⟩:=x;exact Qr e
 | own y=>obtain ⟨_,e⟩:=x;exact Qr e
 | xd fs=>obtain ⟨_,⟨_,_,_,e,_⟩,_⟩:=x;exact Qr e
 | rng lo hi=>obtain ⟨_,_,_,e⟩:=x;exact Qr e
 | frz ob u=>obtain ⟨e,_⟩:=x;exact Qr e
 | tbl ps=>exact Qr (show h.get? a=some _ from x)
 | met f y=>exact Qr (show h.get? a=some _ from x)
 | ext φ=>obtain ⟨_,⟨_,e⟩,_⟩:=x;exact Qr e
theorem Paired.mapP {α β:Type}{F G:α->β->Prop}:∀ {l₁:List α}{l₂:List β},Paired F l₁ l₂->(∀ a b,F a b->G a b)->Paired G l₁ l₂
 | _,_,.nil,_=>.nil
 | _,_,.cons r t,f=>.cons (f _ _ r) (Paired.mapP t f)
theorem Zs.stay (x:Zs P w H h a o) (k:∀ b u,(b=a\/H b=some (.own a))->h.get? b=some u->h'.get? b=some u)
 (ho:∀ b,H b=some (.own a)->H' b=some (.own a)) (ht:∀ b xs,H b=some (.tup xs)->H' b=some (.tup xs)):Zs P w H' h' a o:=by
 induction o with
 | lst xs=>obtain ⟨z,its,n,r,e⟩:=x;exact ⟨z,its,n,r,k _ _ (.inl rfl) e⟩
 | tup xs=>obtain ⟨z,its,r,ob,e,c⟩:=x;exact ⟨z,its,r,ob,k _ _ (.inl rfl) e,c⟩
 | dK kvs=>obtain ⟨z,y,vs,r,ob,es,ep,e,c⟩:=x;exact ⟨z,y,vs,r,ob,es,ep,k _ _ (.inl rfl) e,c⟩
 | dT kvs=>
  obtain ⟨z,y,xs,r,ob,es,ep,e,c⟩:=x
  exact ⟨z,y,xs,Paired.mapP r λ p q z=>⟨z.1,ht _ _ z.2.1,z.2.2⟩,ob,es,ep,k _ _ (.inl rfl) e,c⟩
 | set S n=>obtain ⟨ob,es,ep,t,e,c⟩:=x;exact ⟨ob,es,ep,t,k _ _ (.inl rfl) e,c⟩
 | ins C dx fs=>
  obtain ⟨d,z,ne,e,mA,⟨od,es,ep,e2,c⟩,r⟩:=x
  exact ⟨ho _ d,z,ne,k _ _ (.inl rfl) e,mA,⟨od,es,ep,k _ _ (.inr d) e2,c⟩,r⟩
 | own y=>obtain ⟨ob,e⟩:=x;exact ⟨ob,k _ _ (.inl rfl) e⟩
 | xd fs=>obtain ⟨mA,⟨od,es,ep,e,c⟩,r⟩:=x;exact ⟨mA,⟨od,es,ep,k _ _ (.inl rfl) e,c⟩,r⟩
 | rng lo hi=>obtain ⟨t,u,v,e⟩:=x;exact ⟨t,u,v,k _ _ (.inl rfl) e⟩
 | frz ob u ih=>obtain ⟨e,q⟩:=x;exact ⟨k _ _ (.inl rfl) e,ih q⟩
 | tbl ps=>
  have e:h.get? a=some { cls:=.none,data:=.fields ps }:=x
  show h'.get? a=some { cls:=.none,data:=.fields ps }
  exact k a _ (.inl rfl) e
 | met f y=>
  have e:h.get? a=some (J54 (.ref f) (.ref y)):=x
  show h'.get? a=some (J54 (.ref f) (.ref y))
  exact k a _ (.inl rfl) e
 | ext φ=>obtain ⟨p,⟨o,e⟩,st⟩:=x;exact ⟨st _ _ p λ o q=>k _ _ (.inl rfl) q,⟨o,k _ _ (.inl rfl) e⟩,st⟩
theorem HOk.lt (x:HOk P w H h) (e:H a=some o):a<h.objs.size:=(x a o e).lt
theorem HOk.fresh (x:HOk P w H h) (e:h.objs.size<=a):H a=none:=by
 cases q:H a with
 | none=>rfl
 | some u=>exact absurd (Qy (x.lt q) e) (Q9 _)
theorem HOk.kept (x:HOk P w H h) (k:∀ b u,h.get? b=some u->h'.get? b=some u):HOk P w H h':=λ a o e=>
 (x a o e).stay (λ b u _ q=>k b u q) (λ _ q=>q) λ _ _ q=>q
theorem HOk.laid (x:HOk P w H h) (k:∀ b u,h.get? b=some u->h'.get? b=some u) (hp:h.objs.size<=a) (new:Zs P w (upd H a o) h' a o):HOk P w (upd H a o) h':=λ b u e=>by
 have hn:=x.fresh hp
 by_cases hb:b=a
 . subst hb;rw [Jf] at e;cases e;exact new
 . rw [Je hb] at e
   exact (x b u e).stay (λ c v _ q=>k c v q) (λ c q=>by rw [Je (Jl q hn)];exact q) λ c xs q=>by rw [Je (Jl q hn)];exact q
end
def Rd (H:Hp) (a:Addr) (u:HO):Prop:=H a=some u\/∃ o,H a=some (.frz o u)
theorem Rd.ok {P:Yap}{w:Yao}{H:Hp}{h:Heap}{a:Addr}{u:HO}(r:Rd H a u) (x:HOk P w H h):Zs P w H h a u:=by
 rcases r with r | ⟨o,r⟩
 . exact x a u r
 . obtain ⟨_,q⟩:=x a _ r
   exact q
def Mut:Option HO->Prop
 | some (.lst _)=>True
 | some (.dK _)=>True
 | some (.dT _)=>True
 | some (.set _ _)=>True
 | some (.ins _ _ _)=>True
 | some (.ext _)=>True
 | _=>False
section
variable {P:Yap}{w:Yao}{H:Hp}{h h':Heap}{x e:Addr}{o':HO}
theorem HOk.write (ok:HOk P w H h) (mu:Mut (H x)) (he:e=x\/H e=some (.own x)) (k:∀ b u,b≠e->h.get? b=some u->h'.get? b=some u) (heo:∃ u,h'.get? e=some u)
 (new:Zs P w (upd H x o') h' x o'):HOk P w (upd H x o') h':=λ b u q=>by
 have nown:∀ c y,H c=some (.own y)->c≠x:=λ c y r z=>by subst z;rw [r] at mu;exact mu
 have ntup:∀ c xs,H c=some (.tup xs)->c≠x:=λ c xs r z=>by subst z;rw [r] at mu;exact mu
 by_cases hb:b=x
 . subst hb;rw [Jf] at q;cases q;exact new
 . rw [Je hb] at q
   by_cases hbe:b=e
   . have q':H b=some (.own x):=by
      rcases he with z | z
      . exact absurd (hbe.trans z) hb
      . rw [hbe];exact z
     rw [q] at q';cases q'
     obtain ⟨v,hv⟩:=heo
     exact ⟨v,by rw [hbe];exact hv⟩
   . refine (ok b u q).stay (λ c v hc r=>k c v ?_ r) (λ c r=>by rw [Je (nown c b r)];exact r) λ c xs r=>by rw [Je (ntup c xs r)];exact r
     rcases hc with rfl | hc
     . exact hbe
     . rintro rfl
       rcases he with z | z
       . exact nown c b hc z
       . rw [hc] at z;cases z;exact hb rfl
end
structure Un (fs ex:List Addr) (H H':Hp) (h h':Heap):Prop where
 keep:∀ b o,h.get? b=some o->H b=none->b∉fs->b∉ex->h'.get? b=some o
 slot:∀ b o,h.get? b=some o->H b=none->b∈fs->b∉ex->∃ sl,h'.get? b=some { o with slots:=sl }
 free:∀ b o,h.get? b=some o->H b=none->b∉ex->H' b=none
 there:∀ b o,h.get? b=some o->b∉ex->∃ o',h'.get? b=some o'
 tups:∀ b xs,H b=some (.tup xs)->H' b=some (.tup xs)
 frzs:∀ b o u,H b=some (.frz o u)->H' b=some (.frz o u)
 tbls:∀ b ps,H b=some (.tbl ps)->∃ more,H' b=some (.tbl (ps++more))
section
variable {fs fs' ex ex':List Addr}{H H1 H2:Hp}{h h1 h2 h':Heap}{a x e:Addr}{o:HO}
theorem Un.any (u:Un fs ex H H1 h h1) {b:Addr}{ob:Obj}(q:h.get? b=some ob) (n:H b=none) (hx:b∉ex):∃ sl,h1.get? b=some { ob with slots:=sl }:=by
 by_cases hb:b∈fs
 . exact u.slot b ob q n hb hx
 . exact ⟨ob.slots,u.keep b ob q n hb hx⟩
theorem Un.kept (k:∀ b u,h.get? b=some u->h'.get? b=some u):Un fs ex H H h h':=
 ⟨λ b ob q _ _ _=>k b ob q,λ b ob q _ _ _=>⟨ob.slots,k b ob q⟩,λ _ _ _ n _=>n,λ b ob q _=>⟨ob,k b ob q⟩,λ _ _ q=>q,λ _ _ _ q=>q,λ _ ps q=>⟨#[],by rw [q];simp⟩⟩
theorem Un.refl:Un fs ex H H h h:=Un.kept λ _ _ q=>q
theorem Un.laid (k:∀ b u,h.get? b=some u->h'.get? b=some u) (hp:h.objs.size<=a) (hn:H a=none):Un fs ex H (upd H a o) h h' where
 keep:=λ b u q _ _ _=>k b u q
 slot:=λ b u q _ _ _=>⟨u.slots,k b u q⟩
 free:=λ b u q n _=>by rw [Je (Xg (Qy (Qr q) hp))];exact n
 there:=λ b u q _=>⟨u,k b u q⟩
 tups:=λ b xs q=>by rw [Je (Jl q hn)];exact q
 frzs:=λ b u xs q=>by rw [Je (Jl q hn)];exact q
 tbls:=λ b ps q=>⟨#[],by rw [Je (Jl q hn),q];simp⟩
theorem Un.write (mu:Mut (H x)) (he:e=x\/H e=some (.own x)) (k:∀ b u,b≠e->h.get? b=some u->h'.get? b=some u) (heo:∃ u,h'.get? e=some u):Un fs ex H (upd H x o) h h':=by
 have hx:∀ b,H b=none->b≠x:=λ b n z=>by subst z;rw [n] at mu;exact mu
 have hb:∀ b,H b=none->b≠e:=λ b n z=>by
  subst z
  rcases he with r | r
  . exact hx b n r
  . rw [n] at r;cases r
 have hm:∀ b u,H b=some u->¬ Mut (some u)->b≠x:=λ b u q nm z=>by subst z;rw [q] at mu;exact nm mu
 refine ⟨λ b u q n _ _=>k b u (hb b n) q,λ b u q n _ _=>⟨u.slots,k b u (hb b n) q⟩,λ b u q n _=>by rw [Je (hx b n)];exact n,λ b u q _=>?_,
  λ b xs q=>by rw [Je (hm b _ q λ z=>z)];exact q,λ b u xs q=>by rw [Je (hm b _ q λ z=>z)];exact q,λ b ps q=>⟨#[],by rw [Je (hm b _ q λ z=>z),q];simp⟩⟩
 by_cases hbe:b=e
 . subst hbe;exact heo
 . exact ⟨u,k b u hbe q⟩
end
noncomputable def trk (h:Heap) (H:Hp):List Addr:=(Qg h.objs.size).filter λ a=>(H a).isSome
noncomputable def Jje (h:Heap) (H:Hp):Heap:=J7z h (trk h H)
theorem Jp3 (h:Heap) (H:Hp):(Jje h H).objs.size=h.objs.size:=PySem.W.hideAll_size _ _
theorem Jrk {h:Heap}{H:Hp}{b:Addr}{o:Obj}(e:h.get? b=some o) (n:H b=none):(Jje h H).get? b=some o:=
 J70 _ e λ hm=>by
  have q:(H b).isSome=true:=(Xw.mp hm).2
  rw [n] at q;simp at q
theorem Ju1 {h:Heap}{H:Hp}{b:Addr}{o:Obj}(e:(Jje h H).get? b=some o):h.get? b=some o/\H b=none:=by
 have e':h.get? b=some o:=J71 (trk h H) e
 refine ⟨e',?_⟩
 cases q:H b with
 | none=>rfl
 | some x=>
  have hm:b∈trk h H:=Xw.mpr ⟨Q5.mpr (Qr e'),by simp [q]⟩
  have z:(Jje h H).get? b=none:=PySem.W.hideAll_none (trk h H) hm
  rw [z] at e;cases e
noncomputable def Ju2 (g h:Heap) (L:Addr):List (Addr×Obj):=(Qg h.objs.size).filterMap λ a=>if a=L\/(g.get? a).isSome=true then none else (h.get? a).map λ o=>(a,o)
noncomputable def rest (g h:Heap) (L d:Addr):List (Addr×Obj):=(Ju2 g h L).filter λ p=>decide (p.1≠d)
structure Mod (K:Qb) (mg:Str->Option Yak) (base:Heap):Prop where
 kin:K.In base
 glob:base.Ns Yas mg
 blt:∃ mb,base.Ns Ybl mb/\∀ x:Str,x≠"__name__"->mb x=Ybb x
 nolimit:base.NoLimit
structure Cx where
 prog:Yap
 w:Yao
 K:Qb
 mg:Str->Option Yak
 base:Heap
 A:Yaq
 N:List Str
 s₀:Yam
 H₀:Hp
 env:Env
 outer:List Env
 stack:List Env
 ex:List Addr
 fn:Str->Bool
 calm:Bool
 pn:List (Addr×Obj)
 xe:Yak->Yam->Prop
noncomputable def frs (l:List Env):List Addr:=l.filterMap (·.frame)
noncomputable abbrev Cx.fs (X:Cx):List Addr:=frs X.outer
def Vis (sc:Yat) (x:Str):Prop:=sc.names.lookup x=some .local \/ sc.names.lookup x=some .cell\/sc.names.lookup x=some .free
def Loc (sc:Yat) (x:Str):Prop:=sc.names.lookup x=some .local \/ sc.names.lookup x=some .cell
def J18 (env:Env) (h:Heap) (m:Str->Option Yak) (x:Str) (u:Yak):Prop:=
 (env.kindOf x=some .local /\ m x=some u)\/((env.kindOf x=some .cell\/env.kindOf x=some .free)/\∃ c,env.cells.lookup x=some c/\h.IsCell c (some u))
structure Cx.Ok (X:Cx):Prop where
 mod:Mod X.K X.mg X.base
 kind:X.env.scope.kind = .function
 glob:X.env.globals=Yas
 blt:X.env.builtins=Ybl
 above:X.s₀.heap.objs.size<=X.env.locals
 inj:∀ x y c,X.env.cells.lookup x=some c->X.env.cells.lookup y=some c->x=y
 has:∀ x,(X.env.kindOf x=some .cell\/X.env.kindOf x=some .free)->∃ c,X.env.cells.lookup x=some c
 cab:∀ x c,X.fn x=true->X.env.cells.lookup x=some c->X.s₀.heap.objs.size<=c
 hd:X.calm=true->X.A.handled=none
 frames:X.A.frames=some X.stack
 stk:X.stack=X.outer\/(X.stack=X.env::X.outer/\X.env.frame=some X.env.locals)
 exf:∀ b∈X.ex,b≠X.env.locals/\∀ x c,X.env.cells.lookup x=some c->c≠b
 bs:∀ b o,X.base.get? b=some o->X.s₀.heap.get? b=some o/\X.H₀ b=none
 bsz:X.base.objs.size<=X.s₀.heap.objs.size
 noex:∀ b o,X.base.get? b=some o->b∉X.ex
 exfs:∀ b∈X.ex,b∉X.fs
 funs:X.s₀.heap.FunFrames X.base X.outer
 frf:∀ b∈X.fs,X.H₀ b=none
structure Inv (X:Cx) (pins:List (Addr×Obj)) (σ:List (Option V)) (H:Hp) (s:Yam):Prop where
 ok:X.Ok
 os:s.os=X.s₀.os
 bare:Ya2 s.gens
 base:Un X.fs X.ex X.H₀ H X.s₀.heap s.heap
 loc:∃ m,s.heap.Ns X.env.locals m/\∀ (i:Nat) (x:Str) (v:V),X.N[i]? = some x->σ[i]? = some (some v)->Vis X.env.scope x->∃ u,Yy v u/\J18 X.env s.heap m x u
 cell:∀ x c,X.env.cells.lookup x=some c->∃ v,s.heap.IsCell c v
 free:H X.env.locals=none
 freeC:∀ x c,X.env.cells.lookup x=some c->H c=none
 pin:∀ p∈X.pn++pins,s.heap.get? p.1=some p.2/\H p.1=none/\p.1≠X.env.locals/\p.1∉X.fs/\∀ v,p.2.data≠.cell v
 hok:HOk X.prog X.w H s.heap
 len:σ.length=X.N.length
section
variable {X:Cx}{pins:List (Addr×Obj)}{σ:List (Option V)}{H H':Hp}{s:Yam}{h':Heap}
theorem Cx.Ok.nofr (ok:X.Ok) {b:Addr}{o:Obj}(e:X.base.get? b=some o):b∉X.fs:=λ hb=>by
 have:=(ok.funs.mem hb).1
 rw [e] at this;cases this
theorem Inv.bs (I:Inv X pins σ H s):∀ b o,X.base.get? b=some o->s.heap.get? b=some o/\H b=none:=λ b o e=>
 ⟨I.base.keep b o (I.ok.bs b o e).1 (I.ok.bs b o e).2 (I.ok.nofr e) (I.ok.noex b o e),I.base.free b o (I.ok.bs b o e).1 (I.ok.bs b o e).2 (I.ok.noex b o e)⟩
theorem Inv.bk (I:Inv X pins σ H s):∀ b o,X.base.get? b=some o->s.heap.get? b=some o:=λ b o e=>(I.bs b o e).1
theorem Inv.mod (I:Inv X pins σ H s):Mod X.K X.mg X.base:=I.ok.mod
theorem Inv.kIn (I:Inv X pins σ H s):X.K.In s.heap:=I.ok.mod.kin.keeps I.bk
theorem Inv.lt (I:Inv X pins σ H s):X.env.locals<s.heap.objs.size:=let ⟨_,hn,_⟩:=I.loc;hn.lt
theorem Inv.sz (I:Inv X pins σ H s):X.s₀.heap.objs.size<=s.heap.objs.size:=Xj I.ok.above (Ue I.lt)
theorem Inv.nofs (I:Inv X pins σ H s) {a:Addr}(h:s.heap.objs.size<=a):a∉X.fs:=λ hb=>by
 obtain ⟨_,o,ho,_⟩:=I.ok.funs.mem hb
 exact absurd (Qy (Qr ho) (Xj I.sz h)) (Q9 _)
theorem Inv.cne (I:Inv X pins σ H s):∀ x c,X.env.cells.lookup x=some c->c≠X.env.locals:=λ x c e z=>by
 obtain ⟨v,o,ho,hd⟩:=I.cell x c e
 obtain ⟨m,⟨o',es,ep,ho',hd',_⟩,_⟩:=I.loc
 rw [z,ho'] at ho;cases ho;rw [hd'] at hd;cases hd
theorem Inv.funs (I:Inv X pins σ H s):s.heap.FunFrames X.base X.outer:=by
 have all:∀ (l:List Env),(∀ b∈frs l,b∈X.fs)->X.s₀.heap.FunFrames X.base l->s.heap.FunFrames X.base l:=by
  intro l
  induction l with
  | nil=>intro _ _;trivial
  | cons env r ih=>
   intro hs hl
   obtain ⟨hk,⟨L,o,hf,hn,ho,hd⟩,hr⟩:=hl
   have hL:L∈X.fs:=hs L (by unfold frs;rw [J44,hf];exact Qk)
   obtain ⟨sl,e⟩:=I.base.slot L o ho (I.ok.frf L hL) hL λ z=>I.ok.exfs L z hL
   exact ⟨hk,⟨L,_,hf,hn,e,hd⟩,ih (λ b hb=>hs b (by unfold frs;rw [J44,hf];exact Qj _ hb)) hr⟩
 exact all X.outer (λ _ hb=>hb) I.ok.funs
theorem Inv.stack (I:Inv X pins σ H s):s.heap.FunFrames X.base X.stack:=by
 rcases I.ok.stk with e | ⟨e,hf⟩
 . rw [e];exact I.funs
 . rw [e]
   obtain ⟨m,hn,_⟩:=I.loc
   refine .cons (by rw [I.ok.kind];decide) hf hn ?_ I.funs
   exact Heap.get?_none_of_le (Xj I.ok.bsz I.ok.above)
theorem Inv.stkSub (I:Inv X pins σ H s):∀ b∈frs X.stack,b∈X.env.locals::X.fs:=λ b hb=>by
 rcases I.ok.stk with e | ⟨e,hf⟩
 . rw [e] at hb;exact Qj _ hb
 . rw [e] at hb
   unfold frs at hb
   rw [J44,hf] at hb
   exact hb
theorem Inv.stkFree (I:Inv X pins σ H s):∀ b∈frs X.stack,H b=none:=λ b hb=>by
 rcases Qd.mp (I.stkSub b hb) with e | hb
 . rw [e];exact I.free
 . obtain ⟨_,o,ho,_⟩:=I.ok.funs.mem hb
   exact I.base.free b o ho (I.ok.frf b hb) λ z=>I.ok.exfs b z hb
theorem Inv.step {g':Array GenState}{t':Nat}{d':Drawn}{ch:List Addr}(I:Inv X pins σ H s)
 (hch:∀ b∈ch,(b∈X.ex\/X.s₀.heap.objs.size<=b)/\b≠X.env.locals/\(∀ x c,X.env.cells.lookup x=some c->c≠b)/\∀ p∈X.pn++pins,p.1≠b)
 (keep:∀ b o,b≠X.env.locals->b∉X.fs->b∉ch->s.heap.get? b=some o->H b=none->h'.get? b=some o)
 (slot:∀ b o,b≠X.env.locals->b∈X.fs->b∉ch->s.heap.get? b=some o->H b=none->∃ sl,h'.get? b=some { o with slots:=sl }) (free:∀ b o,b∉ch->s.heap.get? b=some o->H b=none->H' b=none)
 (there:∀ b o,b∉ch->s.heap.get? b=some o->∃ o',h'.get? b=some o')
 (tups:∀ b xs,H b=some (.tup xs)->H' b=some (.tup xs)) (frzs:∀ b o u,H b=some (.frz o u)->H' b=some (.frz o u)) (tbls:∀ b ps,H b=some (.tbl ps)->∃ more,H' b=some (.tbl (ps++more)))
 (ns:∀ m,s.heap.Ns X.env.locals m->h'.Ns X.env.locals m) (hok:HOk X.prog X.w H' h') (hg:Ya2 g') :
 Inv X pins σ H' { s with heap:=h',gens:=g',drawn:=d',toks:=t' }:=by
 have neL:∀ b o,X.s₀.heap.get? b=some o->b≠X.env.locals:=λ b o e=>Xg (Qy (Qr e) I.ok.above)
 have neC:∀ b o,X.s₀.heap.get? b=some o->b∉X.ex->b∉ch:=λ b o e hx hb=>by
  rcases (hch b hb).1 with z | z
  . exact hx z
  . exact absurd (Qy (Qr e) z) (Q9 _)
 have cellK:∀ x c,X.env.cells.lookup x=some c->∀ v,s.heap.IsCell c v->h'.IsCell c v:=λ x c e v ⟨o,ho,hd⟩=>by
  have nch:c∉ch:=λ z=>(hch c z).2.2.1 x c e rfl
  by_cases hc:c∈X.fs
  . obtain ⟨sl,q⟩:=slot c o (I.cne x c e) hc nch ho (I.freeC x c e)
    exact ⟨_,q,hd⟩
  . exact ⟨o,keep c o (I.cne x c e) hc nch ho (I.freeC x c e),hd⟩
 refine ⟨I.ok,I.os,hg,⟨λ b o e n hb hx=>?_,λ b o e n hb hx=>?_,λ b o e n hx=>?_,λ b o e hx=>?_,λ b xs e=>tups b xs (I.base.tups b xs e),λ b o xs e=>frzs b o xs (I.base.frzs b o xs e),λ b ps e=>?_⟩,?_,λ x c e=>?_,?_,λ x c e=>?_,λ p hp=>?_,hok,I.len⟩
 . exact keep b o (neL b o e) hb (neC b o e hx) (I.base.keep b o e n hb hx) (I.base.free b o e n hx)
 . obtain ⟨sl,e1⟩:=I.base.slot b o e n hb hx
   obtain ⟨sl',e2⟩:=slot b _ (neL b o e) hb (neC b o e hx) e1 (I.base.free b o e n hx)
   exact ⟨sl',e2⟩
 . obtain ⟨o',e1⟩:=I.base.there b o e hx
   exact free b o' (neC b o e hx) e1 (I.base.free b o e n hx)
 . obtain ⟨o',e1⟩:=I.base.there b o e hx
   exact there b o' (neC b o e hx) e1
 . obtain ⟨m1,e1⟩:=I.base.tbls b ps e
   obtain ⟨m2,e2⟩:=tbls b _ e1
   exact ⟨m1++m2,by rw [e2,Array.append_assoc]⟩
 . obtain ⟨m,hn,hl⟩:=I.loc
   refine ⟨m,ns m hn,λ i x v e1 e2 e3=>?_⟩
   obtain ⟨u,r,l⟩:=hl i x v e1 e2 e3
   refine ⟨u,r,?_⟩
   rcases l with l | ⟨k,c,e,z⟩
   . exact .inl l
   . exact .inr ⟨k,c,e,cellK x c e _ z⟩
 . obtain ⟨v,z⟩:=I.cell x c e
   exact ⟨v,cellK x c e v z⟩
 . obtain ⟨m,⟨o,_,_,ho,_⟩,_⟩:=I.loc
   exact free _ o (λ z=>(hch _ z).2.1 rfl) ho I.free
 . obtain ⟨v,o,ho,hd⟩:=I.cell x c e
   exact free c o (λ z=>(hch c z).2.2.1 x c e rfl) ho (I.freeC x c e)
 . obtain ⟨e,n,ne,nf,d⟩:=I.pin p hp
   have nch:p.1∉ch:=λ z=>(hch p.1 z).2.2.2 p hp rfl
   exact ⟨keep p.1 p.2 ne nf nch e n,free p.1 p.2 nch e n,ne,nf,d⟩
theorem Inv.un {t':Nat}(I:Inv X pins σ H s) (u:Un X.fs [] H H' s.heap h') (hok:HOk X.prog X.w H' h'):Inv X pins σ H' { s with heap:=h',toks:=t' }:=by
 obtain ⟨m,⟨o,es,ep,ho,r⟩,_⟩:=id I.loc
 obtain ⟨sl,hL⟩:=u.any ho I.free (by simp)
 exact I.step (g':=s.gens) (d':=s.drawn) (ch:=[]) (λ _ z=>nomatch z) (λ b o _ hb _ e n=>u.keep b o e n hb (by simp)) (λ b o _ hb _ e n=>u.slot b o e n hb (by simp)) (λ b o _ e n=>u.free b o e n (by simp)) (λ b o _ e=>u.there b o e (by simp)) u.tups u.frzs u.tbls (λ m' hm=>by
  obtain ⟨o',es',ep',ho',r'⟩:=hm
  rw [ho] at ho';cases ho'
  exact ⟨_,es',ep',hL,r'⟩) hok I.bare
theorem Inv.call {g':Array GenState}{t':Nat}{d':Drawn}{ch:List Addr}(I:Inv X pins σ H s) (u:Un (frs X.stack) ch H H' s.heap h') (hok:HOk X.prog X.w H' h') (hg:Ya2 g')
 (hch:∀ b∈ch,(b∈X.ex\/X.s₀.heap.objs.size<=b)/\b≠X.env.locals/\(∀ x c,X.env.cells.lookup x=some c->c≠b)/\∀ p∈X.pn++pins,p.1≠b) :
 Inv X pins σ H' { s with heap:=h',gens:=g',drawn:=d',toks:=t' }:=by
 obtain ⟨m,⟨o,es,ep,ho,r⟩,_⟩:=id I.loc
 obtain ⟨sl,hL⟩:=u.any ho I.free λ z=>(hch _ z).2.1 rfl
 exact I.step (ch:=ch) hch (λ b o hL hb hc e n=>u.keep b o e n (λ z=>(Qd.mp (I.stkSub b z)).elim hL hb) hc) (λ b o _ _ hc e n=>u.any e n hc) (λ b o hc e n=>u.free b o e n hc) (λ b o hc e=>u.there b o e hc) u.tups u.frzs u.tbls (λ m' hm=>by
  obtain ⟨o',es',ep',ho',r'⟩:=hm
  rw [ho] at ho';cases ho'
  exact ⟨_,es',ep',hL,r'⟩) hok hg
theorem Inv.turned {t':Nat}{it:Addr}(I:Inv X pins σ H s) (k:∀ b o,b≠it->s.heap.get? b=some o->h'.get? b=some o) (hn:H it=none) (hL:it≠X.env.locals)
 (h1:it∈X.ex\/X.s₀.heap.objs.size<=it) (h2:∀ x c,X.env.cells.lookup x=some c->c≠it) (h3:∀ p∈X.pn++pins,p.1≠it):Inv X pins σ H { s with heap:=h',toks:=t' }:=by
 have nit:∀ b u,H b=some u->b≠it:=λ b u e z=>by rw [z,hn] at e;cases e
 refine I.step (g':=s.gens) (d':=s.drawn) (ch:=[it]) (λ b hb=>?_) (λ b o _ _ hc e _=>k b o (λ z=>hc (by simp [z])) e) (λ b o _ _ hc e _=>⟨o.slots,k b o (λ z=>hc (by simp [z])) e⟩) (λ _ _ _ _ n=>n)
  (λ b o hc e=>⟨o,k b o (λ z=>hc (by simp [z])) e⟩) (λ _ _ e=>e) (λ _ _ _ e=>e) (λ b ps e=>⟨#[],by rw [e];simp⟩) (λ m hm=>?_) (λ b u e=>?_) I.bare
 . have e:b=it:=by simpa using hb
   subst e
   exact ⟨h1,hL,h2,h3⟩
 . obtain ⟨o,es,ep,ho,r⟩:=hm
   exact ⟨o,es,ep,k _ o (Qh hL) ho,r⟩
 . refine (I.hok b u e).stay (λ c v hc q=>k c v ?_ q) (λ _ q=>q) λ _ _ q=>q
   rcases hc with z | z
   . rw [z];exact nit b u e
   . exact nit c _ z
theorem Inv.tok (I:Inv X pins σ H s) (t:Nat):Inv X pins σ H { s with toks:=t }:=I.un (h':=s.heap) (t':=t) Un.refl I.hok
theorem Inv.kept {t':Nat}(I:Inv X pins σ H s) (k:∀ b u,s.heap.get? b=some u->h'.get? b=some u):Inv X pins σ H { s with heap:=h',toks:=t' }:=I.un (Un.kept k) (I.hok.kept k)
theorem Inv.laid {a:Addr}{o:HO}{t':Nat}(I:Inv X pins σ H s) (k:∀ b u,s.heap.get? b=some u->h'.get? b=some u) (hp:s.heap.objs.size<=a) (new:Zs X.prog X.w (upd H a o) h' a o) :
 Inv X pins σ (upd H a o) { s with heap:=h',toks:=t' }:=I.un (Un.laid k hp (I.hok.fresh hp)) (I.hok.laid k hp new)
theorem Inv.write {x e:Addr}{o:HO}{t':Nat}(I:Inv X pins σ H s) (mu:Mut (H x)) (he:e=x\/H e=some (.own x)) (k:∀ b u,b≠e->s.heap.get? b=some u->h'.get? b=some u) (heo:∃ u,h'.get? e=some u)
 (new:Zs X.prog X.w (upd H x o) h' x o):Inv X pins σ (upd H x o) { s with heap:=h',toks:=t' }:=I.un (Un.write mu he k heo) (I.hok.write mu he k heo new)
theorem Inv.pins_of {pins':List (Addr×Obj)}(I:Inv X pins σ H s) (h:∀ p∈pins',s.heap.get? p.1=some p.2/\H p.1=none/\p.1≠X.env.locals/\p.1∉X.fs/\∀ v,p.2.data≠.cell v):Inv X pins' σ H s:=
 ⟨I.ok,I.os,I.bare,I.base,I.loc,I.cell,I.free,I.freeC,λ p hp=>(Xh.mp hp).elim (λ z=>I.pin p (Xo _ z)) (h p),I.hok,I.len⟩
theorem Jgh {N:List Str}(hN:N.Nodup) {i j:Nat}{x:Str}(a:N[i]? = some x) (b:N[j]? = some x):i=j:=by grind [Qv,J55]
theorem Jio {M:Model}{A:Yaq}{E:Yak->Yam->Prop}{i:Nat}{x:Str}{v:V}{u:Yak}{Q:Unit->Yam->Prop}(I:Inv X pins σ H s) (hN:X.N.Nodup) (hi:X.N[i]? = some x) (hx:Loc X.env.scope x) (r:Yy v u)
 (h:∀ s',Inv X pins (σ.set i (some v)) H s'->(∃ a,Xz a s.heap s'.heap/\(a=X.env.locals\/X.env.cells.lookup x=some a))->Q () s') (hf:X.fn x=true\/X.env.scope.names.lookup x=some .local := by first | exact .inl rfl | exact .inr rfl | assumption):Yan M A (storeName X.env x u) Q E s:=by
 obtain ⟨m,hn,hl⟩:=id I.loc
 have hcls:(X.env.scope.kind == .class||(X.env.scope.kind == .module&&X.env.locals != X.env.globals))=false:=by rw [I.ok.kind];rfl
 have hiσ:i < σ.length:=by rw [I.len];exact (Qv.mp hi).1
 have cne:=I.cne
 have tracked:∀ {a:Addr} {h':Heap},(∃ o,s.heap.get? a=some o/\H a=none)->Xz a s.heap h'->HOk X.prog X.w H h':=λ {a h'} ha hs b ob e=>by
  obtain ⟨_,_,hfree⟩:=ha
  refine (I.hok b ob e).stay (λ c w' hc q=>(hs.2 c ?_).trans q) (λ _ q=>q) λ _ _ q=>q
  rintro rfl
  rcases hc with rfl | hc
  . rw [hfree] at e;cases e
  . rw [hfree] at hc;cases hc
 rcases hx with hk | hk
 . refine wpAny_storeName_local hk hn (λ h' hn' hs=>?_) hcls
   obtain ⟨oL,_,_,hoL,_⟩:=id hn
   refine h _ ⟨I.ok,I.os,I.bare,⟨λ b o e n hb hx=>?_,λ b o e n hb hx=>?_,I.base.free,λ b o e hx=>?_,I.base.tups,I.base.frzs,I.base.tbls⟩,⟨_,hn',λ j y v' e1 e2 e3=>?_⟩,λ y c e=>?_,I.free,I.freeC,λ p hp=>?_,tracked ⟨oL,hoL,I.free⟩ hs,by simpa using I.len⟩ ⟨_,hs,.inl rfl⟩
   . exact (hs.2 b (Xg (Qy (Qr e) I.ok.above))).trans (I.base.keep b o e n hb hx)
   . obtain ⟨sl,e1⟩:=I.base.slot b o e n hb hx
     exact ⟨sl,(hs.2 b (Xg (Qy (Qr e) I.ok.above))).trans e1⟩
   . obtain ⟨o',e1⟩:=I.base.there b o e hx
     exact ⟨o',(hs.2 b (Xg (Qy (Qr e) I.ok.above))).trans e1⟩
   . by_cases hj:j=i
     . subst hj
       rw [hi] at e1;cases e1
       rw [Q7 hiσ] at e2
       cases e2
       exact ⟨u,r,.inl ⟨hk,by simp⟩⟩
     . rw [Q1 (Qh hj)] at e2
       obtain ⟨u',r',q⟩:=hl j y v' e1 e2 e3
       refine ⟨u',r',?_⟩
       rcases q with ⟨k,e⟩ | ⟨k,c,e,z⟩
       . refine .inl ⟨k,?_⟩
         have:y≠x:=λ e=>hj (Jgh hN e1 (e▸hi))
         simp [this,e]
       . exact .inr ⟨k,c,e,z.sameBut hs (cne y c e)⟩
   . obtain ⟨w',z⟩:=I.cell y c e
     exact ⟨w',z.sameBut hs (cne y c e)⟩
   . obtain ⟨e,n,ne,nf,d⟩:=I.pin p hp
     exact ⟨(hs.2 p.1 ne).trans e,n,ne,nf,d⟩
 . have hfn:X.fn x=true:=by
    rcases hf with z | z
    . exact z
    . rw [z] at hk;cases hk
   obtain ⟨c,hc⟩:=I.ok.has x (.inl hk)
   obtain ⟨w',z⟩:=I.cell x c hc
   refine wpAny_storeName_cell I.ok.kind hk hc z (λ h' hc' hs=>?_)
   obtain ⟨oc,hoc,hocd⟩:=id z
   refine h { s with heap:=h' } ⟨I.ok,I.os,I.bare,⟨λ b o e n hb hx=>?_,λ b o e n hb hx=>?_,I.base.free,λ b o e hx=>?_,I.base.tups,I.base.frzs,I.base.tbls⟩,⟨m,hn.sameBut hs (Qh (cne x c hc)),λ j y v' e1 e2 e3=>?_⟩,λ y c' e=>?_,I.free,I.freeC,λ p hp=>?_,tracked ⟨oc,hoc,I.freeC x c hc⟩ hs,by simpa using I.len⟩ ⟨c,hs,.inr hc⟩
   . exact (hs.2 b (Xg (Qy (Qr e) (I.ok.cab x c hfn hc)))).trans (I.base.keep b o e n hb hx)
   . obtain ⟨sl,e1⟩:=I.base.slot b o e n hb hx
     exact ⟨sl,(hs.2 b (Xg (Qy (Qr e) (I.ok.cab x c hfn hc)))).trans e1⟩
   . obtain ⟨o',e1⟩:=I.base.there b o e hx
     exact ⟨o',(hs.2 b (Xg (Qy (Qr e) (I.ok.cab x c hfn hc)))).trans e1⟩
   . by_cases hj:j=i
     . subst hj
       rw [hi] at e1;cases e1
       rw [Q7 hiσ] at e2
       cases e2
       exact ⟨u,r,.inr ⟨.inl hk,c,hc,hc'⟩⟩
     . rw [Q1 (Qh hj)] at e2
       obtain ⟨u',r',q⟩:=hl j y v' e1 e2 e3
       refine ⟨u',r',?_⟩
       rcases q with q | ⟨k,c',e,z'⟩
       . exact .inl q
       . refine .inr ⟨k,c',e,z'.sameBut hs ?_⟩
         rintro rfl
         exact hj (Jgh hN e1 (I.ok.inj _ _ _ e hc▸hi))
   . by_cases hcc:c'=c
     . subst hcc;exact ⟨_,hc'⟩
     . obtain ⟨w2,z2⟩:=I.cell y c' e
       exact ⟨w2,z2.sameBut hs hcc⟩
   . obtain ⟨e,n,ne,nf,d⟩:=I.pin p hp
     refine ⟨(hs.2 p.1 ?_).trans e,n,ne,nf,d⟩
     intro q
     rw [q,hoc] at e
     have q':oc=p.2:=Xp e
     exact d w' (by rw [<- q'];exact hocd)
theorem Bh {M:Model}{A:Yaq}{E:Yak->Yam->Prop}{i:Nat}{x:Str}{v:V}{u:Yak}{Q:Unit->Yam->Prop}(I:Inv X pins σ H s) (hN:X.N.Nodup) (hi:X.N[i]? = some x) (hx:Loc X.env.scope x) (r:Yy v u)
 (h:∀ s',Inv X pins (σ.set i (some v)) H s'->Q () s') (hf:X.fn x=true\/X.env.scope.names.lookup x=some .local := by first | exact .inl rfl | exact .inr rfl | assumption):Yan M A (storeName X.env x u) Q E s:=
 Jio I hN hi hx r (λ s' I' _=>h s' I') hf
theorem Inv.call' {s':Yam}{ch:List Addr}(I:Inv X pins σ H s) (ho:s'.os=s.os) (u:Un (frs X.stack) ch H H' s.heap s'.heap) (hok:HOk X.prog X.w H' s'.heap) (hg:Ya2 s'.gens)
 (hch:∀ b∈ch,(b∈X.ex\/X.s₀.heap.objs.size<=b)/\b≠X.env.locals/\(∀ x c,X.env.cells.lookup x=some c->c≠b)/\∀ p∈X.pn++pins,p.1≠b):Inv X pins σ H' s':=by
 obtain ⟨h',g',d',t',o'⟩:=s'
 have e:o'=s.os:=ho
 subst e
 exact I.call (g':=g') (t':=t') (d':=d') u hok hg hch
end
abbrev XK:=Yak->Option Addr->Hp->Prop
abbrev St:=List (Option V)
abbrev VK:=V->Hp->Prop
abbrev TE:=St->Hp->VK->Prop
abbrev TT:=St->Hp->(Bool->Hp->Prop)->Prop
abbrev TA:=St->Hp->(List V->Hp->Prop)->Prop
structure Ends where
 nx:St->Hp->Prop
 rt:VK
 bk:St->Hp->Prop:=λ _ _=>False
 ct:St->Hp->Prop:=λ _ _=>False
abbrev TS:=Ends->St->Hp->Prop
def EP (X:Cx) (pins:List (Addr×Obj)) (σ:St) (Q:VK) (u:Yak) (s':Yam):Prop:=∃ v H',Inv X pins σ H' s'/\Yy v u/\Q v H'
def TP (X:Cx) (pins:List (Addr×Obj)) (σ:St) (Q:Bool->Hp->Prop) (b:Bool) (s':Yam):Prop:=∃ H',Inv X pins σ H' s'/\Q b H'
def AP (X:Cx) (pins:List (Addr×Obj)) (σ:St) (Q:List V->Hp->Prop) (us:List Yak) (s':Yam):Prop:=∃ vs H',Inv X pins σ H' s'/\J4 vs us/\Q vs H'
def SP (X:Cx) (pins:List (Addr×Obj)) (D:Ends) (f:Flow) (s':Yam):Prop:=
 match f with
 | .next=>∃ σ' H',Inv X pins σ' H' s'/\D.nx σ' H'
 | .brk=>∃ σ' H',Inv X pins σ' H' s'/\D.bk σ' H'
 | .cont=>∃ σ' H',Inv X pins σ' H' s'/\D.ct σ' H'
 | .ret u=>∃ v σ' H',Inv X pins σ' H' s'/\Yy v u/\D.rt v H'
def PE (X:Cx) (e:Expr) (t:TE):Prop:=
 ∀ (pins:List (Addr×Obj)) (s:Yam) (σ:St) (H:Hp) (Q:VK),Inv X pins σ H s->t σ H Q->Yan (model X.prog X.w) X.A (eval e X.env) (EP X pins σ Q) X.xe s
def PT (X:Cx) (e:Expr) (t:TT):Prop:=
 ∀ (pins:List (Addr×Obj)) (s:Yam) (σ:St) (H:Hp) (Q:Bool->Hp->Prop),Inv X pins σ H s->t σ H Q->Yan (model X.prog X.w) X.A (isTrue e X.env (eval e X.env)) (TP X pins σ Q) X.xe s
def PW (X:Cx) (e:Expr) (t:TT):Prop:=
 ∀ (whole:Sem Yak) (pins:List (Addr×Obj)) (s:Yam) (σ:St) (H:Hp) (Q:Bool->Hp->Prop),Inv X pins σ H s->t σ H Q->Yan (model X.prog X.w) X.A (isTrue e X.env whole) (TP X pins σ Q) X.xe s
theorem PW.pt {X:Cx}{e:Expr}{t:TT}(h:PW X e t):PT X e t:=h _
def PA (X:Cx) (es:List Expr) (t:TA):Prop:=
 ∀ (pos:Pos) (pins:List (Addr×Obj)) (s:Yam) (σ:St) (H:Hp) (Q:List V->Hp->Prop),Inv X pins σ H s->t σ H Q->Yan (model X.prog X.w) X.A (spliced (backTo pos (starEach es X.env))) (AP X pins σ Q) X.xe s
def PS (X:Cx) (st:Stmt) (t:TS):Prop:=
 ∀ (pins:List (Addr×Obj)) (s:Yam) (σ:St) (H:Hp) (D:Ends),Inv X pins σ H s->t D σ H->Yan (model X.prog X.w) X.A (exec st X.env) (SP X pins D) X.xe s
def PSs (X:Cx) (st:List Stmt) (t:TS):Prop:=
 ∀ (pins:List (Addr×Obj)) (s:Yam) (σ:St) (H:Hp) (D:Ends),Inv X pins σ H s->t D σ H->Yan (model X.prog X.w) X.A (execs st X.env) (SP X pins D) X.xe s
theorem thn {α:Type}{t:Sem α}{Q Q':α->Yam->Prop}{M:Model}{A:Yaq}{E:Yak->Yam->Prop}{s:Yam}(h:Yan M A t Q E s) (hQ:∀ a s,Q a s->Q' a s):Yan M A t Q' E s:=wpAny_mono h hQ λ _ _ x=>x
section
variable {X:Cx}
def Z4 (i:Nat):TE:=λ σ H Q=>∃ v,σ[i]? = some (some v)/\Q v H
def tC (v:V):TE:=λ _ H Q=>Q v H
theorem Jyc {i:Nat}{x:Str}{pos:Pos}(hN:X.N[i]? = some x) (hv:Vis X.env.scope x) (hd:(x==("__debug__":Str))=false:=by decide) (hcd:(x==("__classdict__":Str))=false:=by decide):PE X (.Name x pos) (Z4 i):=by
 intro pins s σ H Q I h
 obtain ⟨v,e,h⟩:=h
 obtain ⟨m,hn,hl⟩:=I.loc
 obtain ⟨u,r,l⟩:=hl i x v hN e hv
 have fin:EP X pins σ Q u s:=⟨v,H,I,r,h⟩
 rcases l with ⟨hk,hm⟩ | ⟨hk,c,hc,hcell⟩
 . exact wpAny_Name (wpAny_loadName_local I.ok.kind hk hn hm fin) hd
 . rcases hk with hk | hk
   . exact wpAny_Name (wpAny_loadName_cell I.ok.kind hk hc hcell fin) hd
   . exact wpAny_Name (wpAny_loadName_free I.ok.kind hk hc hcell fin hcd) hd
theorem Jg {i j pos}:PE X (.Constant (.int i) j pos) (tC (.int i)):=λ _ _ _ H _ I h=>wpAny_Constant_int ⟨.int i,H,I.tok _,⟨_,rfl⟩,h⟩
theorem Jdj {b j pos}:PE X (.Constant (.bool b) j pos) (tC (.bl b)):=λ _ _ _ H _ I h=>Constant_bool ⟨.bl b,H,I,rfl,h⟩
theorem Jay {j pos}:PE X (.Constant .none j pos) (tC .non):=λ _ _ _ H _ I h=>Constant_none ⟨.non,H,I,rfl,h⟩
theorem Jcz {x j pos}:PE X (.Constant (.str x) j pos) (tC (.str x)):=λ _ _ _ H _ I h=>Calls.Constant_str ⟨.str x,H,I.tok _,⟨_,rfl⟩,h⟩
def Gl (X:Cx) (x:Str):Prop:=X.env.kindOf x=some .globalImplicit
theorem Jcj {E:Yak->Yam->Prop}{pins:List (Addr×Obj)}{s:Yam}{σ:St}{H:Hp}{x:Str}{u:Yak}{pos:Pos}{Q:Yak->Yam->Prop}(I:Inv X pins σ H s) (hg:Gl X x) (hm:X.mg x=some u) (h:Q u s)
 (hd:(x==("__debug__":Str))=false:=by decide):Yan (model X.prog X.w) X.A (eval (.Name x pos) X.env) Q E s:=
 J72 I.ok.kind hg (Calls.loadGlobal_global (by rw [I.ok.glob];exact I.mod.glob.keeps I.bk) hm h) hd
theorem Jad {E:Yak->Yam->Prop}{pins:List (Addr×Obj)}{s:Yam}{σ:St}{H:Hp}{x:Str}{u:Yak}{pos:Pos}{Q:Yak->Yam->Prop}(I:Inv X pins σ H s) (hg:Gl X x) (hm:X.mg x=none) (hv:Ybb x=some u) (h:Q u s)
 (hn:x≠"__name__":=by decide) (hd:(x==("__debug__":Str))=false:=by decide):Yan (model X.prog X.w) X.A (eval (.Name x pos) X.env) Q E s:=by
 obtain ⟨mb,h1,h2⟩:=I.mod.blt
 exact J72 I.ok.kind hg (Calls.loadGlobal_builtin (by rw [I.ok.glob];exact I.mod.glob.keeps I.bk) hm (by rw [I.ok.blt];exact h1.keeps I.bk) ((h2 x hn).trans hv) h) hd
theorem Bc {x:Str}{v:V}{u:Yak}{pos:Pos}(hg:Gl X x) (hm:X.mg x=some u) (r:Yy v u) (hd:(x==("__debug__":Str))=false:=by decide):PE X (.Name x pos) (tC v):=
 λ _ _ _ H _ I h=>Jcj I hg hm ⟨v,H,I,r,h⟩ hd
theorem Jjf {x:Str}{v:V}{u:Yak}{pos:Pos}(hg:Gl X x) (hm:X.mg x=none) (hv:Ybb x=some u) (r:Yy v u) (hn:x≠"__name__":=by decide) (hd:(x==("__debug__":Str))=false:=by decide):PE X (.Name x pos) (tC v):=
 λ _ _ _ H _ I h=>Jad I hg hm hv ⟨v,H,I,r,h⟩ hn hd
variable {a b:Expr}{ta tb:TE}{pos:Pos}
def tB (t:TE):TT:=λ σ H Q=>t σ H λ x H1=>∃ c,x = .bl c/\Q c H1
theorem Jbo {e:Expr}{t:TE}(h:PE X e t) (he:∀ whole,isTrue e X.env whole=(do let v <- whole;Yaz e.pos;holding [v] (truthy v)):=by intro _;rfl):PT X e (tB t):=by
 intro pins s σ H Q I hw
 refine isTrue_plain (thn (h pins s σ H _ I hw) λ v s1 ⟨x,H1,I1,r1,q1⟩=>?_) (he _)
 obtain ⟨d,rfl,q⟩:=q1
 cases r1
 exact wpAny_truthy_bool ⟨H1,I1,q⟩
variable {tA tB':TT}{rest:List Expr}
def J0c (t u:TT):TT:=λ σ H Q=>t σ H λ c H1=>if c=true then u σ H1 Q else Q false H1
def tOr (t u:TT):TT:=λ σ H Q=>t σ H λ c H1=>if c=true then Q true H1 else u σ H1 Q
def J0d (t:TT):TT:=λ σ H Q=>t σ H λ c H1=>Q (!c) H1
theorem Jjg (ha:PT X a tA):PW X (.BoolOp .And [a] pos) tA:=by
 intro wh pins s σ H Q I h
 refine isTrue_and (thn (ha pins s σ H Q I h) λ c s1 e=>?_)
 cases c with
 | true=>exact isTrue_and_nil e
 | false=>exact e
theorem Jyd (ha:PT X a tA):PW X (.BoolOp .Or [a] pos) tA:=by
 intro wh pins s σ H Q I h
 refine isTrue_or (thn (ha pins s σ H Q I h) λ c s1 e=>?_)
 cases c with
 | false=>exact isTrue_or_nil e
 | true=>exact e
theorem Jmx (ha:PT X a tA) (hb:PW X (.BoolOp .And (b::rest) pos) tB'):PW X (.BoolOp .And (a::b::rest) pos) (J0c tA tB'):=by
 intro wh pins s σ H Q I h
 refine isTrue_and (thn (ha pins s σ H _ I h) λ c s1 ⟨H1,I1,q1⟩=>?_)
 cases c with
 | true=>exact hb wh pins s1 σ H1 Q I1 q1
 | false=>exact ⟨H1,I1,q1⟩
theorem J0e (ha:PT X a tA) (hb:PW X (.BoolOp .Or (b::rest) pos) tB'):PW X (.BoolOp .Or (a::b::rest) pos) (tOr tA tB'):=by
 intro wh pins s σ H Q I h
 refine isTrue_or (thn (ha pins s σ H _ I h) λ c s1 ⟨H1,I1,q1⟩=>?_)
 cases c with
 | true=>exact ⟨H1,I1,q1⟩
 | false=>exact hb wh pins s1 σ H1 Q I1 q1
theorem Jjh (ha:PT X a tA):PT X (.UnaryOp .Not a pos) (J0d tA):=by
 intro pins s σ H Q I h
 exact isTrue_not (ha pins s σ H (λ c H1=>Q (!c) H1) I h)
def Jw3 (ta tb:TE):TE:=λ σ H Q=>ta σ H λ x H1=>∃ c,x = .bl c/\if c=true then tb σ H1 Q else Q (.bl false) H1
def J0f (ta tb:TE):TE:=λ σ H Q=>ta σ H λ x H1=>∃ c,x = .bl c/\if c=true then Q (.bl true) H1 else tb σ H1 Q
def Jw4 (ta:TE):TE:=λ σ H Q=>ta σ H λ x H1=>∃ c,x = .bl c/\Q (.bl (!c)) H1
theorem Jel {op} {t:TE}(h:PE X a t):PE X (.BoolOp op [a] pos) t:=λ pins s σ H Q I hw=>BoolOp_one (h pins s σ H Q I hw)
theorem Jji (ha:PE X a ta) (hb:PE X (.BoolOp .And (b::rest) pos) tb):PE X (.BoolOp .And (a::b::rest) pos) (Jw3 ta tb):=by
 intro pins s σ H Q I h
 refine BoolOp_and (thn (ha pins s σ H _ I h) λ v s1 ⟨x,H1,I1,r1,q1⟩=>?_)
 obtain ⟨c,rfl,q1⟩:=q1
 cases r1
 refine wpAny_truthy_bool ?_
 cases c with
 | true=>exact hb pins s1 σ H1 Q I1 q1
 | false=>exact ⟨.bl false,H1,I1,rfl,q1⟩
theorem Jw5 (ha:PE X a ta) (hb:PE X (.BoolOp .Or (b::rest) pos) tb):PE X (.BoolOp .Or (a::b::rest) pos) (J0f ta tb):=by
 intro pins s σ H Q I h
 refine BoolOp_or (thn (ha pins s σ H _ I h) λ v s1 ⟨x,H1,I1,r1,q1⟩=>?_)
 obtain ⟨c,rfl,q1⟩:=q1
 cases r1
 refine wpAny_truthy_bool ?_
 cases c with
 | false=>exact hb pins s1 σ H1 Q I1 q1
 | true=>exact ⟨.bl true,H1,I1,rfl,q1⟩
theorem Jrl (ha:PE X a ta):PE X (.UnaryOp .Not a pos) (Jw4 ta):=by
 intro pins s σ H Q I h
 refine UnaryOp_ (thn (ha pins s σ H _ I h) λ v s1 ⟨x,H1,I1,r1,q1⟩=>?_)
 obtain ⟨c,rfl,q1⟩:=q1
 cases r1
 exact not_of (wpAny_truthy_bool ⟨.bl (!c),H1,I1,rfl,q1⟩)
def tIf (t:TT) (ta tb:TE):TE:=λ σ H Q=>t σ H λ c H1=>if c=true then ta σ H1 Q else tb σ H1 Q
theorem Jgi {c:Expr}(hc:PT X c tA) (ha:PE X a ta) (hb:PE X b tb):PE X (.IfExp c a b pos) (tIf tA ta tb):=by
 intro pins s σ H Q I h
 refine wpAny_IfExp (thn (hc pins s σ H _ I h) λ d s1 ⟨H1,I1,q1⟩=>?_)
 cases d with
 | true=>exact ha pins s1 σ H1 Q I1 q1
 | false=>exact hb pins s1 σ H1 Q I1 q1
end
def SqL (K:Qb) (H:Hp) (a:Addr) (xs:List V):Prop:=
 Rd H a (.lst xs) \/
  ∃ (o:Obj) (its:Array Yak) (n:Nat),K.lookup a=some o/\o.cls = .type "list"/\o.dict=none/\o.data = .seq its n/\its.size<=sizeLine/\J4 xs its.toList
def SqT (K:Qb) (H:Hp) (a:Addr) (xs:List V):Prop:=
 Rd H a (.tup xs) \/
  ∃ (o:Obj) (its:Array Yak) (n:Nat),K.lookup a=some o/\o.cls = .type "tuple"/\o.data = .seq its n/\its.size<=sizeLine/\J4 xs its.toList
noncomputable def J19:Yak->Option V
 | .none=>some .non
 | .bool b=>some (.bl b)
 | .int i _=>some (.int i)
 | .str x _=>some (.str x)
 | .bytes b _=>some (.byt b)
 | .float b _=>some (.flt b)
 | .ref a=>some (.ref a)
 | .type n=>some (.ty n)
 | _=>none
theorem Yy.abs {x:V}{u:Yak}(r:Yy x u):J19 u=some x:=by
 cases x with
 | non=>cases r;rfl
 | bl _=>cases r;rfl
 | int _=>obtain ⟨t,rfl⟩:=r;rfl
 | str _=>obtain ⟨t,rfl⟩:=r;rfl
 | byt _=>obtain ⟨t,rfl⟩:=r;rfl
 | flt _=>obtain ⟨t,rfl⟩:=r;rfl
 | ref _=>cases r;rfl
 | ty _=>cases r;rfl
theorem Yy.inj {x y:V}{u:Yak}(r:Yy x u) (q:Yy y u):x=y:=Xp (r.abs.symm.trans q.abs)
theorem J4.inj:∀ {xs ys:List V}{us:List Yak},J4 xs us->J4 ys us->xs=ys
 | _,_,_,.nil,.nil=>rfl
 | _,_,_,.cons r t,.cons r' t'=>by rw [r.inj r',J4.inj t t']
section
variable {X:Cx}{pins:List (Addr×Obj)}{σ:St}{H:Hp}{s:Yam}{a:Addr}{xs ys:List V}
theorem SqL.of {K:Qb}(h:H a=some (.lst xs)):SqL K H a xs:=.inl (.inl h)
theorem SqT.of {K:Qb}(h:H a=some (.tup xs)):SqT K H a xs:=.inl (.inl h)
theorem Inv.list (I:Inv X pins σ H s) (h:SqL X.K H a xs):∃ its:List Yak,J4 xs its/\PlainL s.heap a its.toArray/\xs.length<=sizeLine:=by
 rcases h with h | ⟨o,its,n,hk,hc,hd,hs,hz,r⟩
 . obtain ⟨z,its,n,r,e⟩:=h.ok I.hok
   exact ⟨its,r,⟨_,n,e,rfl,rfl,rfl⟩,z⟩
 . refine ⟨its.toList,r,⟨o,n,I.kIn a o hk,hc,hd,by simpa using hs⟩,?_⟩
   have e:=r.length
   simp only [Array.length_toList] at e
   omega
theorem Inv.tuple (I:Inv X pins σ H s) (h:SqT X.K H a xs):∃ its:List Yak,J4 xs its/\IsTup s.heap a its.toArray/\xs.length<=sizeLine:=by
 rcases h with h | ⟨o,its,n,hk,hc,hs,hz,r⟩
 . obtain ⟨z,its,r,p⟩:=h.ok I.hok
   exact ⟨its,r,p,z⟩
 . refine ⟨its.toList,r,⟨o,I.kIn a o hk,hc,n,by simpa using hs⟩,?_⟩
   have e:=r.length
   simp only [Array.length_toList] at e
   omega
theorem Inv.list_inj (I:Inv X pins σ H s) (h:SqL X.K H a xs) (h':SqL X.K H a ys):xs=ys:=by
 obtain ⟨its,r,⟨o,n,e,_,_,d⟩,_⟩:=I.list h
 obtain ⟨its',r',⟨o',n',e',_,_,d'⟩,_⟩:=I.list h'
 rw [e] at e';cases e'
 rw [d] at d'
 injection d' with d1 _
 have:its=its':=by simpa using congrArg J73 d1
 subst this
 exact r.inj r'
theorem Inv.tuple_inj (I:Inv X pins σ H s) (h:SqT X.K H a xs) (h':SqT X.K H a ys):xs=ys:=by
 obtain ⟨its,r,⟨o,e,_,n,d⟩,_⟩:=I.tuple h
 obtain ⟨its',r',⟨o',e',_,n',d'⟩,_⟩:=I.tuple h'
 rw [e] at e';cases e'
 rw [d] at d'
 injection d' with d1 _
 have:its=its':=by simpa using congrArg J73 d1
 subst this
 exact r.inj r'
end
noncomputable abbrev Cx.wish (X:Cx) (E:Yak->Yam->Prop):Cx:={ X with xe:=E }
noncomputable abbrev Cx.nox (X:Cx):Cx:=X.wish λ _ _=>False
theorem Cx.Ok.wish {X:Cx}(ok:X.Ok) (E:Yak->Yam->Prop):(X.wish E).Ok:=
 ⟨ok.mod,ok.kind,ok.glob,ok.blt,ok.above,ok.inj,ok.has,ok.cab,ok.hd,ok.frames,ok.stk,ok.exf,ok.bs,ok.bsz,ok.noex,ok.exfs,ok.funs,ok.frf⟩
theorem Cx.Ok.unwish {X:Cx}{E:Yak->Yam->Prop}(ok:(X.wish E).Ok):X.Ok:=
 ⟨ok.mod,ok.kind,ok.glob,ok.blt,ok.above,ok.inj,ok.has,ok.cab,ok.hd,ok.frames,ok.stk,ok.exf,ok.bs,ok.bsz,ok.noex,ok.exfs,ok.funs,ok.frf⟩
section
variable {X:Cx}{pins:List (Addr×Obj)}{σ:St}{H:Hp}{s:Yam}{E:Yak->Yam->Prop}
theorem Inv.wish (I:Inv X pins σ H s) (E:Yak->Yam->Prop):Inv (X.wish E) pins σ H s:=⟨I.ok.wish E,I.os,I.bare,I.base,I.loc,I.cell,I.free,I.freeC,I.pin,I.hok,I.len⟩
theorem Inv.unwish (I:Inv (X.wish E) pins σ H s):Inv X pins σ H s:=⟨I.ok.unwish,I.os,I.bare,I.base,I.loc,I.cell,I.free,I.freeC,I.pin,I.hok,I.len⟩
theorem SP.unwish {D:Ends}{f:Flow}{s':Yam}(h:SP (X.wish E) pins D f s'):SP X pins D f s':=by
 cases f with
 | next=>obtain ⟨σ',H',I,q⟩:=h;exact ⟨σ',H',I.unwish,q⟩
 | brk=>obtain ⟨σ',H',I,q⟩:=h;exact ⟨σ',H',I.unwish,q⟩
 | cont=>obtain ⟨σ',H',I,q⟩:=h;exact ⟨σ',H',I.unwish,q⟩
 | ret u=>obtain ⟨v,σ',H',I,r,q⟩:=h;exact ⟨v,σ',H',I.unwish,r,q⟩
theorem PSs.nox {st:List Stmt}{t:TS}(h:PSs X.nox st t):PSs X st t:=λ pins s σ H D I hw=>
 wpAny_mono (h pins s σ H D (I.wish _) hw) (λ _ _ q=>q.unwish) λ _ _ z=>Xx z
end
section
variable {X:Cx}{st:Stmt}{rest:List Stmt}{t u:TS}{e:Expr}{te:TE}{pos:Pos}
def Joo:TS:=λ D σ H=>D.nx σ H
def Jae (t u:TS):TS:=λ D σ H=>t { D with nx:=u D } σ H
theorem Yr:PSs X [] Joo:=λ _ _ σ H _ I h=>Ybc ⟨σ,H,I,h⟩
theorem Jb (h1:PS X st t) (h2:PSs X rest u):PSs X (st::rest) (Jae t u):=by
 intro pins s σ H D I h
 refine Ybs (thn (h1 pins s σ H { D with nx:=u D } I h) λ f s1 q=>?_)
 cases f with
 | next=>
  obtain ⟨σ',H',I',q⟩:=q
  exact h2 pins s1 σ' H' D I' q
 | ret v=>exact q
 | brk=>exact q
 | cont=>exact q
theorem Ji (h1:PS X st t):PSs X [st] t:=by
 intro pins s σ H D I h
 refine Ybs (thn (h1 pins s σ H D I h) λ f s1 q=>?_)
 cases f with
 | next=>exact Ybc q
 | ret v=>exact q
 | brk=>exact q
 | cont=>exact q
theorem Inv.quiet {pins:List (Addr×Obj)}{σ:St}{H:Hp}{s:Yam}(I:Inv X pins σ H s):interactive X.env=false:=by simp [interactive,I.ok.kind]
def Jw6 (te:TE):TS:=λ D σ H=>te σ H λ _ H1=>D.nx σ H1
theorem Jck (he:PE X e te) (hs:Ybd e none pos.line X.env=pure false:=by rfl):PS X (.Expr e pos) (Jw6 te):=by
 intro pins s σ H D I h
 exact wpAny_Expr_any (thn (he pins s σ H _ I h) λ v s1 ⟨x,H1,I1,r1,q1⟩=>⟨σ,H1,I1,q1⟩) I.quiet hs
def Jrm (te:TE):TS:=λ D σ H=>te σ H D.rt
theorem Jy (he:PE X e te):PS X (.Return (some e) pos) (Jrm te):=by
 intro pins s σ H D I h
 exact wpAny_Return_some (thn (he pins s σ H _ I h) λ v s1 ⟨x,H1,I1,r1,q1⟩=>⟨x,σ,H1,I1,r1,q1⟩)
def J0g (c:TT) (t u:TS):TS:=λ D σ H=>c σ H λ b H1=>if b=true then t D σ H1 else u D σ H1
theorem Wl {c:Expr}{a b:List Stmt}{tc:TT}(hc:PT X c tc) (ha:PSs X a t) (hb:PSs X b u):PS X (.If c a b pos) (J0g tc t u):=by
 intro pins s σ H D I h
 refine wpAny_If (thn (hc pins s σ H _ I h) λ d s1 ⟨H1,I1,q1⟩=>?_)
 cases d with
 | true=>exact ha pins s1 σ H1 D I1 q1
 | false=>exact hb pins s1 σ H1 D I1 q1
def Jrn:TS:=λ _ _ _=>False
theorem Jip {sts:List Stmt}:PSs X sts Jrn:=λ _ _ _ _ _ _ h=>h.elim
end
abbrev TG:=V->St->Hp->(St->Hp->Prop)->Prop
abbrev TGs:=List V->St->Hp->(St->Hp->Prop)->Prop
def PG (X:Cx) (target:Expr) (t:TG):Prop:=
 ∀ (pins:List (Addr×Obj)) (s:Yam) (σ:St) (H:Hp) (v:V) (u:Yak) (Q:St->Hp->Prop),Inv X pins σ H s->Yy v u->t v σ H Q ->
  Yan (model X.prog X.w) X.A (assign target X.env u) (λ _ s'=>∃ σ' H',Inv X pins σ' H' s'/\Q σ' H') X.xe s
def PGs (X:Cx) (ts:List Expr) (t:TGs):Prop:=
 ∀ (pins:List (Addr×Obj)) (s:Yam) (σ:St) (H:Hp) (vs:List V) (us:List Yak) (Q:St->Hp->Prop),Inv X pins σ H s->J4 vs us->t vs σ H Q ->
  Yan (model X.prog X.w) X.A (assignInOrder ((assignEach ts X.env).map (·.2)) us) (λ _ s'=>∃ σ' H',Inv X pins σ' H' s'/\Q σ' H') X.xe s
abbrev Jye:=V->V->V->Hp->(Hp->Prop)->Prop
def J0h (X:Cx) (t:Jye):Prop:=
 ∀ (pins:List (Addr×Obj)) (s:Yam) (σ:St) (H:Hp) (o i v:V) (ov iv u:Yak) (Q:Hp->Prop),Inv X pins σ H s->Yy o ov->Yy i iv->Yy v u->t o i v H Q ->
  Yan (model X.prog X.w) X.A (setItem ov iv u) (λ _ s'=>∃ H',Inv X pins σ H' s'/\Q H') X.xe s
abbrev TIp:=V->V->Hp->VK->Prop
def PIp (X:Cx) (op:Ybj) (t:TIp):Prop:=
 ∀ (pins:List (Addr×Obj)) (s:Yam) (σ:St) (H:Hp) (x y:V) (v u:Yak) (Q:VK),Inv X pins σ H s->Yy x v->Yy y u->t x y H Q ->
  Yan (model X.prog X.w) X.A (inplaceOp op v u) (EP X pins σ Q) X.xe s
section
variable {X:Cx}{pos:Pos}
def Ba (i:Nat):TG:=λ v σ H Q=>Q (σ.set i (some v)) H
theorem J0 {i:Nat}{x:Str}(hN:X.N.Nodup) (hi:X.N[i]? = some x) (hx:Loc X.env.scope x) (hf:X.fn x=true\/X.env.scope.names.lookup x=some .local := by first | exact .inl rfl | exact .inr rfl | assumption):PG X (.Name x pos) (Ba i):=by
 intro pins s σ H v u Q I r h
 exact wpAny_assign_Name (Bh I hN hi hx r (λ s' I'=>⟨_,H,I',h⟩) hf)
def gNil:TGs:=λ vs σ H Q=>vs=[]/\Q σ H
def gCons (t:TG) (u:TGs):TGs:=λ vs σ H Q=>∃ v r,vs=v::r/\t v σ H λ σ' H'=>u r σ' H' Q
theorem Jdk:PGs X [] gNil:=by
 intro pins s σ H vs us Q I r h
 obtain ⟨e,h⟩:=h
 subst e
 cases r
 exact assignInOrder_nil ⟨σ,H,I,h⟩
theorem Y8 {e:Expr}{es:List Expr}{t:TG}{u:TGs}(h1:PG X e t) (h2:PGs X es u)
 (hs:(assignEach (e::es) X.env).map (·.2)=assign e X.env::(assignEach es X.env).map (·.2):=by rfl):PGs X (e::es) (gCons t u):=by
 intro pins s σ H vs us Q I r h
 obtain ⟨v,vr,e1,h⟩:=h
 subst e1
 cases r with
 | cons r rr=>
  rw [hs]
  refine assignInOrder_cons (thn (h1 pins s σ H _ _ _ I r h) λ _ s1 ⟨σ1,H1,I1,q1⟩=>?_)
  exact h2 pins s1 σ1 H1 _ _ Q I1 rr q1
def Jro (K:Qb) (n:Nat) (t:TGs):TG:=λ v σ H Q=>∃ a xs,v = .ref a/\SqT K H a xs/\xs.length=n/\t xs σ H Q
theorem Jjj {es:List Expr}{k:Nat}{t:TGs}{n:Nat}(hc:X.calm=true) (h:PGs X es t)
 (hn:(assignEach es X.env).length=n:=by rfl) (hst:(assignEach es X.env).findIdx? (·.1)=none:=by rfl):PG X (.Tuple es k pos) (Jro X.K n t):=by
 intro pins s σ H v u Q I r hw
 obtain ⟨a,xs,e1,hq,hl,hw⟩:=hw
 subst e1
 cases r
 obtain ⟨its,rv,ht,hz⟩:=I.tuple hq
 refine assign_Tuple_tuple (I.ok.hd hc) ht (by simp [hn,<- hl,rv.length]) hst λ h' hx=>?_
 have I1:Inv X pins σ H { s with heap:=h' }:=I.kept (t':=s.toks) λ b o e=>hx b o (Xg (Qr e)) e
 exact h pins _ σ H xs _ Q I1 (by simpa using rv) hw
def Jmy (to ti:TE) (t:Jye):TG:=λ v σ H Q=>to σ H λ o H1=>ti σ H1 λ i H2=>t o i v H2 λ H3=>Q σ H3
theorem Wg {o i:Expr}{to ti:TE}{t:Jye}(ho:PE X o to) (hi:PE X i ti) (hs:J0h X t)
 (ha:∀ v,assign (.Subscript o i pos) X.env v=(do
  let ov <- holding [v] (eval o X.env)
  let iv <- holding [v,ov] (eval i X.env)
  Yaz pos
  holding [v,ov,iv] (setItem ov iv v)
  release [v,ov,iv] []):=by intro _;rfl):PG X (.Subscript o i pos) (Jmy to ti t):=by
 intro pins s σ H v u Q I r h
 rw [ha]
 refine wpAny_bind (wpAny_holding (thn (ho pins s σ H _ I h) λ ov s1 ⟨x,H1,I1,r1,q1⟩=>?_))
 refine wpAny_bind (wpAny_holding (thn (hi pins s1 σ H1 _ I1 q1) λ iv s2 ⟨y,H2,I2,r2,q2⟩=>?_))
 refine wpAny_bind (wpAny_standAt (wpAny_bind (wpAny_holding (thn (hs pins s2 σ H2 x y v ov iv u _ I2 r1 r2 r q2) λ _ s3 ⟨H3,I3,q3⟩=>?_))))
 exact wpAny_release ⟨σ,H3,I3,q3⟩
def Jdl (te:TE) (g:TG):TS:=λ D σ H=>te σ H λ x H1=>g x σ H1 D.nx
theorem Yf {tg e:Expr}{te:TE}{g:TG}(he:PE X e te) (hg:PG X tg g) (hs:swapsWithSole [tg] e pos.line X.env=pure false:=by rfl) (hw:swappedStores [tg] e X.env=pure none:=by rfl)
 (h1:(assignEach [tg] X.env).map (·.2)=[assign tg X.env]:=by rfl):PS X (.Assign [tg] e pos) (Jdl te g):=by
 intro pins s σ H D I h
 refine wpAny_Assign_stores (thn (he pins s σ H _ I h) λ v s1 ⟨x,H1,I1,r1,q1⟩=>?_) hs hw
 rw [h1]
 exact thn (hg pins s1 σ H1 x v _ I1 r1 q1) λ _ s2 q=>q
theorem Jw {i:Nat}{x:Str}{e:Expr}{te:TE}{pos':Pos}(hN:X.N.Nodup) (hi:X.N[i]? = some x) (hx:Loc X.env.scope x) (he:PE X e te) (hs:Ybd e (some (.Name x pos')) pos.line X.env=pure false:=by rfl) (hf:X.fn x=true\/X.env.scope.names.lookup x=some .local := by first | exact .inl rfl | exact .inr rfl | assumption) :
 PS X (.Assign [.Name x pos'] e pos) (Jdl te (Ba i)):=by
 intro pins s σ H D I h
 refine wpAny_Assign_Name (thn (he pins s σ H _ I h) λ v s1 ⟨y,H1,I1,r1,q1⟩=>?_) hs
 exact Bh I1 hN hi hx r1 (λ s2 I2=>⟨_,H1,I2,q1⟩) hf
def J0i (i j:Nat) (ta:TA):TS:=λ D σ H=>ta σ H λ vs H1=>∃ v w,vs=[v,w]/\D.nx ((σ.set i (some v)).set j (some w)) H1
theorem Jmz {i j:Nat}{x y:Str}{a b:Expr}{ta:TA}{px py pt:Pos}{kt k2 pt2} (hc:X.calm=true) (hN:X.N.Nodup) (hi:X.N[i]? = some x) (hj:X.N[j]? = some y) (hij:i≠j)
 (hx:X.env.scope.names.lookup x=some .local) (hy:X.env.scope.names.lookup y=some .local) (ha:PA X [a,b] ta)
 (hw:swappedStores [.Tuple [.Name x px,.Name y py] kt pt] (.Tuple [a,b] k2 pt2) X.env=pure (some [x,y]))
 (hs:swapsWithSole [.Tuple [.Name x px,.Name y py] kt pt] (.Tuple [a,b] k2 pt2) pos.line X.env=pure false:=by rfl) :
 PS X (.Assign [.Tuple [.Name x px,.Name y py] kt pt] (.Tuple [a,b] k2 pt2) pos) (J0i i j ta):=by
 intro pins s σ H D I h
 rw [exec_Assign_arm]
 refine wpAny_bind (wpAny_standAt ?_)
 rw [hs]
 refine wpAny_bind (wpAny_pure ?_)
 rw [if_neg (by decide)]
 refine wpAny_bind (Tuple_ (thn (ha _ pins s σ H _ I h) λ us s1 ⟨vs,H1,I1,r1,q1⟩=>?_))
 obtain ⟨v,w,e1,q1⟩:=q1
 subst e1
 obtain ⟨u1,u2,rfl,rv,rw'⟩:∃ u1 u2,us=[u1,u2]/\Yy v u1/\Yy w u2:=by
  cases r1 with
  | cons p q=>
   cases q with
   | cons p' q'=>
    cases q'
    exact ⟨_,_,rfl,p,p'⟩
 refine wpAny_newObj_type ?_ (by show 2<=sizeLine;decide)
 have I2:Inv X pins σ H1 { s1 with heap:=s1.heap.push { cls:=.type "tuple",data:=.seq [u1,u2].toArray } }:=I1.kept (t':=s1.toks) λ b o e=>Qt _ e
 rw [hw]
 refine wpAny_bind (wpAny_pure ?_)
 show Yan (model X.prog X.w) X.A (do rule "assign.swapped-stores";let items <- unpackItems (.ref s1.heap.objs.size) 2 none;assignInOrder [λ v=>Ybe X.env y v,λ v=>Ybe X.env x v] items.reverse;pure Flow.next) _ _ _
 refine wpAny_bind (wpAny_rule (wpAny_bind (unpackItems_tuple (items:=#[u1,u2]) (I.ok.hd hc) (IsTup.new s1.heap _) λ h' hx'=>?_)))
 have I3:=I2.kept (h':=h') (t':=s1.toks) λ b o e=>hx' b o (Xg (Qr e)) e
 show Yan _ _ (assignInOrder [λ v=>Ybe X.env y v,λ v=>Ybe X.env x v] [u2,u1] >>= λ _=>pure Flow.next) _ _ _
 refine wpAny_bind (assignInOrder_cons (wpAny_bindName (Bh I3 hN hj (.inl hy) rw' (λ s2 I4=>?_) (.inr hy))))
 refine assignInOrder_cons (wpAny_bindName (Bh I4 hN hi (.inl hx) rv (λ s3 I5=>assignInOrder_nil (wpAny_pure ?_)) (.inr hx)))
 rw [J74 _ _ (Qh hij)] at I5
 exact ⟨_,H1,I5,q1⟩
def J0j (i:Nat) (te:TE) (ti:TIp):TS:=λ D σ H=>∃ x,σ[i]? = some (some x)/\te σ H λ y H1=>ti x y H1 λ z H2=>D.nx (σ.set i (some z)) H2
theorem Jyf {i:Nat}{x:Str}{e:Expr}{te:TE}{op:Ybj}{ti:TIp}{pos':Pos}(hN:X.N.Nodup) (hi:X.N[i]? = some x) (hx:Loc X.env.scope x) (he:PE X e te) (ho:PIp X op ti) (hf:X.fn x=true\/X.env.scope.names.lookup x=some .local := by first | exact .inl rfl | exact .inr rfl | assumption) :
 PS X (.AugAssign (.Name x pos') op e pos) (J0j i te ti):=by
 intro pins s σ H D I h
 obtain ⟨v,e1,h⟩:=h
 obtain ⟨m,hn,hl⟩:=I.loc
 have vis:Vis X.env.scope x:=by rcases hx with k | k;exact .inl k;exact .inr (.inl k)
 obtain ⟨u,r,l⟩:=hl i x v hi e1 vis
 refine wpAny_AugAssign_Name ?_
 have go:Yan (model X.prog X.w) X.A (eval e X.env) (λ w s₂=>Yan (model X.prog X.w) X.A (inplaceOp op u w) (λ r s₃=>Yan (model X.prog X.w) X.A (storeName X.env x r) (λ _=>SP X pins D .next) X.xe s₃) X.xe s₂) X.xe s:=by
  refine thn (he pins s σ H _ I h) λ w s1 ⟨y,H1,I1,r1,q1⟩=>?_
  refine thn (ho pins s1 σ H1 v y u w _ I1 r r1 q1) λ z s2 ⟨zv,H2,I2,r2,q2⟩=>?_
  exact Bh I2 hN hi hx r2 (λ s3 I3=>⟨_,H2,I3,q2⟩) hf
 rcases l with ⟨hk,hm⟩ | ⟨hk,c,hc,hcell⟩
 . exact wpAny_loadName_local I.ok.kind hk hn hm go
 . rcases hk with hk | hk
   . exact wpAny_loadName_cell I.ok.kind hk hc hcell go
   . rcases hx with k | k
     . have:X.env.scope.names.lookup x=some .free:=hk
       rw [k] at this;cases this
     . have:X.env.scope.names.lookup x=some .free:=hk
       rw [k] at this;cases this
end
section
variable {X:Cx}{pos:Pos}
def Jrp (c:TT) (tb:TS):TS:=λ D σ H=>∃ W:Nat->St->Hp->Prop,(∃ m,W m σ H)/\∀ m σ H,W m σ H ->
 c σ H λ b H1=>if b=true then ∃ N:St->Hp->Prop,(∀ σ' H',N σ' H'->∃ m',m'<m/\W m' σ' H')/\tb { D with nx:=N,ct:=N,bk:=D.nx } σ H1 else D.nx σ H1
theorem Jgj {c:Expr}{body:List Stmt}{tc:TT}{tb:TS}(hp:PassesOwn (model X.prog X.w) X.A X.env X.xe) (hc:PT X c tc) (hb:PSs X body tb):PS X (.While c body [] pos) (Jrp tc tb):=by
 intro pins s σ H D I h
 obtain ⟨W,⟨m0,w0⟩,turn⟩:=h
 refine wpAny_While (codeAny_whileLoop (λ n s'=>∃ σ' H',Inv X pins σ' H' s'/\W n σ' H') ?_ m0 ⟨σ,H,I,w0⟩)
 rintro n s1 ⟨σ1,H1,I1,w1⟩
 refine Ya5 hp (thn (hc pins s1 σ1 H1 _ I1 (turn n σ1 H1 w1)) λ b s2 ⟨H2,I2,q2⟩=>?_)
 cases b with
 | true=>
  obtain ⟨N,hN,q2⟩:=q2
  rw [if_pos rfl]
  refine Ya5 hp (thn (hb pins s2 σ1 H2 _ I2 q2) λ f s3 q3=>?_)
  cases f with
  | next=>
   obtain ⟨σ3,H3,I3,n3⟩:=q3
   obtain ⟨m',hm,w3⟩:=hN σ3 H3 n3
   exact ⟨m',hm,σ3,H3,I3,w3⟩
  | cont=>
   obtain ⟨σ3,H3,I3,n3⟩:=q3
   obtain ⟨m',hm,w3⟩:=hN σ3 H3 n3
   exact ⟨m',hm,σ3,H3,I3,w3⟩
  | brk=>exact q3
  | ret v=>exact q3
 | false=>
  rw [if_neg Q4]
  exact Ybc ⟨σ1,H2,I2,q2⟩
end
structure It where
 go:Nat->Hp->Prop
 yld:Nat->Hp->V->Hp->Prop
 stop:Nat->Hp->Prop
def Jfs (X:Cx) (pins:List (Addr×Obj)) (H:Hp) (b:Addr):Prop:=
 H b=none/\b≠X.env.locals/\b∉X.fs/\(b∈X.ex\/X.s₀.heap.objs.size<=b)/\(∀ x c,X.env.cells.lookup x=some c->c≠b)/\∀ p∈X.pn++pins,p.1≠b
theorem Inv.fpOk {X:Cx}{pins:List (Addr×Obj)}{σ:St}{H H':Hp}{s:Yam}{b:Addr}(I:Inv X pins σ H s) (hb:s.heap.objs.size<=b) (hn:H' b=none):Jfs X pins H' b:=by
 refine ⟨hn,J4c (Qy I.lt hb),I.nofs hb,.inr (Xj I.sz hb),λ x c e z=>?_,λ p hp z=>?_⟩
 . obtain ⟨v,q⟩:=I.cell x c e
   exact absurd (Qy q.lt (by rw [z];exact hb)) (Q9 _)
 . exact absurd (Qy (Qr (I.pin p hp).1) (by rw [z];exact hb)) (Q9 _)
structure Turn (P:Yap) (w:Yao) (K:Qb) (tg:Expr) (J:It) (fp:List Addr) (it:Addr) (tn:Nat->Heap->Prop):Prop where
 mem:it∈fp
 obj:∀ i h,tn i h->∀ b∈fp,∃ o,h.get? b=some o/\∀ v,o.data≠.cell v
 keep:∀ i h h',tn i h->(∀ b∈fp,∀ o,h.get? b=some o->h'.get? b=some o)->tn i h'
 item:∀ (X:Cx),X.prog=P->X.w=w->X.K=K->X.calm=true->∀ (i:Nat) (pins:List (Addr×Obj)) (s:Yam) (σ:St) (H:Hp) (E:Yak->Yam->Prop),Inv X pins σ H s->(∀ b∈fp,Jfs X pins H b)->tn i s.heap->J.go i H ->
  Yan (model P w) X.A (pyNext (.ref it)) (λ r s1=>∃ u,r=some u /\
   Yan (model P w) X.A (letOwnedTupleGo tg (.ref it) u) (λ _ s2=>∃ x H',Inv X pins σ H' s2/\Yy x u/\J.yld i H x H'/\tn (i+1) s2.heap/\∀ b∈fp,H' b=none) E s1) E s
 done:∀ (X:Cx),X.prog=P->X.w=w->X.K=K->X.calm=true->∀ (i:Nat) (pins:List (Addr×Obj)) (s:Yam) (σ:St) (H:Hp) (E:Yak->Yam->Prop),Inv X pins σ H s->(∀ b∈fp,Jfs X pins H b)->tn i s.heap->J.stop i H ->
  Yan (model P w) X.A (pyNext (.ref it)) (λ r s1=>r=none/\Inv X pins σ H s1) E s
 self:∀ (A:Yaq) (i:Nat) (s:Yam) (Q:Yak->Yam->Prop) (E:Yak->Yam->Prop),tn i s.heap->Q (.ref it) s->Yan (model P w) A (pyIter (.ref it)) Q E s
abbrev TI:=St->Hp->(It->Hp->Prop)->Prop
def PIE (X:Cx) (pins:List (Addr×Obj)) (σ:St) (tg:Expr) (R:It->Hp->Prop) (itv:Yak) (s2:Yam):Prop:=
 ∃ (it:Addr) (fp:List Addr) (tn:Nat->Heap->Prop) (J:It) (H':Hp),itv = .ref it/\Inv X pins σ H' s2/\Turn X.prog X.w X.K tg J fp it tn/\tn 0 s2.heap/\(∀ b∈fp,Jfs X pins H' b)/\R J H'
def PI (X:Cx) (tg iter:Expr) (wi:TI):Prop:=
 ∀ (pins:List (Addr×Obj)) (s:Yam) (σ:St) (H:Hp) (R:It->Hp->Prop),Inv X pins σ H s->wi σ H R ->
  Yan (model X.prog X.w) X.A (eval iter X.env) (λ v s1=>Yan (model X.prog X.w) X.A (pyIter v) (PIE X pins σ tg R) X.xe s1) X.xe s
theorem Jrq {M:Model}{A:Yaq}{E:Yak->Yam->Prop}{s:Yam}{tg:Expr}{it:Addr}{u:Yak}{o:Obj}{n:String}{vs:Array Yak}{Q:Unit->Yam->Prop}(ho:s.heap.get? it=some o) (hc:o.cls = .type n) (hd:o.data = .fields vs)
 (hn:["enumerate","zip","dict_itemiterator","dict_reverseitemiterator","odict_iterator","itertools.zip_longest","itertools.pairwise"].contains n=false) (hQ:Q () s):Yan M A (letOwnedTupleGo tg (.ref it) u) Q E s:=by
 unfold letOwnedTupleGo
 cases tg<;>first
  | exact wpAny_pure hQ
  | (cases u<;>first
   | exact wpAny_pure hQ
   | (refine wpAny_bind (wpAny_load ho ?_)
      rw [hc,hd]
      show Yan M A (if (["enumerate","zip","dict_itemiterator","dict_reverseitemiterator","odict_iterator","itertools.zip_longest","itertools.pairwise"].contains n&&vs[0]? == some (rawInt _))=true then _ else _) Q E s
      rw [if_neg (by intro h;rw [hn,J56] at h;cases h)]
      exact wpAny_pure hQ))
noncomputable def Itl (K:Qb) (a:Addr):It:=
 ⟨λ i H=>∃ xs x,SqL K H a xs/\xs[i]? = some x,λ i H x H'=>H'=H/\∀ xs,SqL K H a xs->xs[i]? = some x,λ i H=>∃ xs,SqL K H a xs/\xs.length<=i⟩
noncomputable def Itt (K:Qb) (a:Addr):It:=
 ⟨λ i H=>∃ xs x,SqT K H a xs/\xs[i]? = some x,λ i H x H'=>H'=H/\∀ xs,SqT K H a xs->xs[i]? = some x,λ i H=>∃ xs,SqT K H a xs/\xs.length<=i⟩
noncomputable def Itr (lo:Int) (n:Nat):It:=⟨λ i _=>i<n,λ i H x H'=>H'=H/\x = .int (lo+i),λ i _=>n<=i⟩
theorem Jp4 {P:Yap}{w:Yao}{K:Qb}{tg:Expr}(a it:Addr):Turn P w K tg (Itl K a) [it] it (λ i h=>h.IsListIter it a i) where
 mem:=by simp
 obj:=λ i h st b hb=>by
  have e:b=it:=by simpa using hb
  subst e
  obtain ⟨o,e,c,d⟩:=st
  exact ⟨o,e,λ v z=>by rw [d] at z;cases z⟩
 keep:=λ i h h' st k=>st.at λ o e=>k it (by simp) o e
 item:=by
  intro X hP hw hK hc i pins s σ H E I hf st hg
  subst hP hw hK
  obtain ⟨xs,x,hq,hx⟩:=hg
  obtain ⟨its,rv,p,hz⟩:=I.list hq
  obtain ⟨u,hu,ru⟩:=rv.get hx
  obtain ⟨f0,f1,f2,f3,f4,f5⟩:=hf it (by simp)
  refine wpAny_pyNext_list_item st p.isList (x:=u) (by simpa using hu) λ h' st' sb=>?_
  have I1:Inv X pins σ H { s with heap:=h' }:=I.turned (t':=s.toks) (λ b o hb e=>(sb.2 b hb).trans e) f0 f1 f3 f4 f5
  obtain ⟨o,e,c,d⟩:=id st'
  exact ⟨u,rfl,Jrq (s:={ s with heap:=h' }) e c d (by decide) ⟨x,H,I1,ru,⟨rfl,λ ys hy=>by rw [I.list_inj hy hq];exact hx⟩,st',λ b hb=>(hf b hb).1⟩⟩
 done:=by
  intro X hP hw hK hc i pins s σ H E I hf st hg
  subst hP hw hK
  obtain ⟨xs,hq,hx⟩:=hg
  obtain ⟨its,rv,p,hz⟩:=I.list hq
  obtain ⟨f0,f1,f2,f3,f4,f5⟩:=hf it (by simp)
  have hl:=rv.length
  exact wpAny_pyNext_list_end (I.ok.hd hc) st p.isList (by simp;omega) λ h' eb=>⟨rfl,I.turned (t':=s.toks) (λ b o hb e=>eb b o hb e) f0 f1 f3 f4 f5⟩
 self:=λ _ _ _ _ _ st h=>wpAny_pyIter_listiter st h
theorem Jm0 {P:Yap}{w:Yao}{K:Qb}{tg:Expr}(a it:Addr):Turn P w K tg (Itt K a) [it] it (λ i h=>h.IsTupleIter it a i) where
 mem:=by simp
 obj:=λ i h st b hb=>by
  have e:b=it:=by simpa using hb
  subst e
  obtain ⟨o,e,c,d⟩:=st
  exact ⟨o,e,λ v z=>by rw [d] at z;cases z⟩
 keep:=λ i h h' st k=>st.at λ o e=>k it (by simp) o e
 item:=by
  intro X hP hw hK hc i pins s σ H E I hf st hg
  subst hP hw hK
  obtain ⟨xs,x,hq,hx⟩:=hg
  obtain ⟨its,rv,p,hz⟩:=I.tuple hq
  obtain ⟨u,hu,ru⟩:=rv.get hx
  obtain ⟨f0,f1,f2,f3,f4,f5⟩:=hf it (by simp)
  refine wpAny_pyNext_tuple_item st (show s.heap.IsTuple a its.toArray from p) (x:=u) (by simpa using hu) λ h' st' sb=>?_
  have I1:Inv X pins σ H { s with heap:=h' }:=I.turned (t':=s.toks) (λ b o hb e=>(sb.2 b hb).trans e) f0 f1 f3 f4 f5
  obtain ⟨o,e,c,d⟩:=id st'
  exact ⟨u,rfl,Jrq (s:={ s with heap:=h' }) e c d (by decide) ⟨x,H,I1,ru,⟨rfl,λ ys hy=>by rw [I.tuple_inj hy hq];exact hx⟩,st',λ b hb=>(hf b hb).1⟩⟩
 done:=by
  intro X hP hw hK hc i pins s σ H E I hf st hg
  subst hP hw hK
  obtain ⟨xs,hq,hx⟩:=hg
  obtain ⟨its,rv,p,hz⟩:=I.tuple hq
  obtain ⟨f0,f1,f2,f3,f4,f5⟩:=hf it (by simp)
  have hl:=rv.length
  exact wpAny_pyNext_tuple_end (I.ok.hd hc) st (show s.heap.IsTuple a its.toArray from p) (by simp;omega) λ h' eb=>⟨rfl,I.turned (t':=s.toks) (λ b o hb e=>eb b o hb e) f0 f1 f3 f4 f5⟩
 self:=λ _ _ _ _ _ st h=>wpAny_pyIter_tupleiter st h
theorem Jm1 {P:Yap}{w:Yao}{K:Qb}{tg:Expr}(it:Addr) (lo:Int) (n:Nat):Turn P w K tg (Itr lo n) [it] it (λ i h=>IsRangeIter h it (lo+(i:Nat)*1) ((n:Int)-(i:Nat)) 1) where
 mem:=by simp
 obj:=λ i h st b hb=>by
  have e:b=it:=by simpa using hb
  subst e
  exact ⟨_,st,λ v z=>by
   have z':J57 _=J4d v:=z
   cases z'⟩
 keep:=λ i h h' st k=>k it (by simp) _ st
 item:=by
  intro X hP hw hK hc i pins s σ H E I hf st hg
  subst hP hw hK
  obtain ⟨f0,f1,f2,f3,f4,f5⟩:=hf it (by simp)
  have W:=Walks.range (prog:=X.prog) (w:=X.w) (I.ok.hd hc) it lo 1 n
  refine W.item i s _ _ hg st λ v h' tk hv st' kk=>?_
  obtain ⟨t,rfl⟩:=hv
  have I1:Inv X pins σ H { s with heap:=h',toks:=tk }:=I.turned (λ b o hb e=>kk b o (by simpa using hb) e) f0 f1 f3 f4 f5
  refine ⟨_,rfl,Jrq (s:={ s with heap:=h',toks:=tk }) (n:="range_iterator") st' rfl rfl (by decide) ⟨.int (lo+i),H,I1,⟨t,?_⟩,⟨rfl,rfl⟩,st',λ b hb=>(hf b hb).1⟩⟩
  rw [J3j]
 done:=by
  intro X hP hw hK hc i pins s σ H E I hf st hg
  subst hP hw hK
  obtain ⟨f0,f1,f2,f3,f4,f5⟩:=hf it (by simp)
  exact wpAny_pyNext_range_end (I.ok.hd hc) st (by have:n<=i:=hg;omega) λ h' eb=>⟨rfl,I.turned (t':=s.toks) (λ b o hb e=>eb b o hb e) f0 f1 f3 f4 f5⟩
 self:=λ _ _ _ _ _ st h=>wpAny_pyIter_rangeiter st h
section
variable {X:Cx}{tg:Expr}
def Jop (K:Qb) (tl:TE):TI:=λ σ H R=>tl σ H λ x H1=>∃ a,x = .ref a/\(∃ xs,SqL K H1 a xs)/\R (Itl K a) H1
def J0k (K:Qb) (tl:TE):TI:=λ σ H R=>tl σ H λ x H1=>∃ a,x = .ref a/\(∃ xs,SqT K H1 a xs)/\R (Itt K a) H1
theorem B1 {l:Expr}{tl:TE}(hl:PE X l tl):PI X tg l (Jop X.K tl):=by
 intro pins s σ H R I h
 refine thn (hl pins s σ H _ I h) λ v s1 ⟨x,H1,I1,r1,q1⟩=>?_
 obtain ⟨a,e,⟨xs,hq⟩,q⟩:=q1
 subst e
 cases r1
 obtain ⟨its,rv,p,hz⟩:=I1.list hq
 refine wpAny_pyIter_list p.isList ?_
 refine ⟨s1.heap.objs.size,[s1.heap.objs.size],_,_,H1,rfl,I1.kept (t':=s1.toks) λ b o e=>Qt _ e,Jp4 a _,⟨_,Xa _ rfl,rfl,rfl⟩,λ b hb=>?_,q⟩
 have e:b=s1.heap.objs.size:=by simpa using hb
 subst e
 exact I1.fpOk (Ql _) (I1.hok.fresh (Ql _))
theorem Jrr {l:Expr}{tl:TE}(hl:PE X l tl):PI X tg l (J0k X.K tl):=by
 intro pins s σ H R I h
 refine thn (hl pins s σ H _ I h) λ v s1 ⟨x,H1,I1,r1,q1⟩=>?_
 obtain ⟨a,e,⟨xs,hq⟩,q⟩:=q1
 subst e
 cases r1
 obtain ⟨its,rv,p,hz⟩:=I1.tuple hq
 refine Ybm (show s1.heap.IsTuple a its.toArray from p) ?_
 refine ⟨s1.heap.objs.size,[s1.heap.objs.size],_,_,H1,rfl,I1.kept (t':=s1.toks) λ b o e=>Qt _ e,Jm0 a _,⟨_,Xa _ rfl,rfl,rfl⟩,λ b hb=>?_,q⟩
 have e:b=s1.heap.objs.size:=by simpa using hb
 subst e
 exact I1.fpOk (Ql _) (I1.hok.fresh (Ql _))
theorem Jrs {pins:List (Addr×Obj)}{σ:St}{H:Hp}{s:Yam}{R:It->Hp->Prop}{E:Yak->Yam->Prop}{lo hi:Int}{t u v:Tok}{tk:Nat}(I:Inv X pins σ H s) (h1:-(2^62)<=lo) (h2:lo<2^62) (h3:-(2^62)<=hi) (h4:hi<2^62)
 (q:R (Itr lo (hi-lo).toNat) H):Yan (model X.prog X.w) X.A (pyIter (.ref s.heap.objs.size)) (PIE X pins σ tg R) E { s with heap:=s.heap.push { cls:=.type "range",data:=.fields #[.int lo t,.int hi u,.int 1 v] },toks:=tk }:=by
 refine wpAny_pyIter_range (J58 ..) (small_one h1 h2 h3 h4) ?_
 have I1:Inv X pins σ H { s with heap:=s.heap.push { cls:=.type "range",data:=.fields #[.int lo t,.int hi u,.int 1 v] },toks:=tk }:=I.kept λ b o e=>Qt _ e
 refine ⟨(s.heap.push { cls:=.type "range",data:=.fields #[.int lo t,.int hi u,.int 1 v] }).objs.size,[(s.heap.push { cls:=.type "range",data:=.fields #[.int lo t,.int hi u,.int 1 v] }).objs.size],_,_,H,rfl,
  I1.kept (t':=tk) λ b o e=>Qt _ e,Jm1 _ lo (hi-lo).toNat,?_,λ b hb=>?_,q⟩
 . have e1:lo+((0:Nat):Int)*1=lo:=by simp
   have e2:(((hi-lo).toNat:Nat):Int)-((0:Nat):Int)=J92 lo hi 1:=by rw [Ybt];split<;>omega
   show IsRangeIter _ _ (lo+((0:Nat):Int)*1) ((((hi-lo).toNat:Nat):Int)-((0:Nat):Int)) 1
   rw [e1,e2]
   exact Xa _ rfl
 . have e:b=(s.heap.push { cls:=.type "range",data:=.fields #[.int lo t,.int hi u,.int 1 v] }).objs.size:=by simpa using hb
   subst e
   exact I1.fpOk (Ql _) (I1.hok.fresh (Ql _))
def Jw7 (ta:TA):TI:=λ σ H R=>ta σ H λ vs H1=>∃ j:Int,vs=[.int j]/\-(2^62)<=j/\j<2^62/\R (Itr 0 j.toNat) H1
theorem Zg {a:Expr}{ta:TA}{p pos:Pos}(hg:Gl X "range") (hm:X.mg "range" = none) (ha:PA X [a] ta) (hs:starEach [a] X.env=[(false,eval a X.env)]:=by rfl):PI X tg (.Call (.Name "range" p) [a] [] pos) (Jw7 ta):=by
 intro pins s σ H R I h
 refine Call_ (Jad I hg hm boot_range (J29 (thn (ha pos pins s σ H _ I h) λ us s1 ⟨vs,H1,I1,r1,q1⟩=>?_) hs rfl))
 obtain ⟨j,e,q1,q2,q⟩:=q1
 subst e
 cases r1 with
 | cons r rr=>
  cases rr
  obtain ⟨t,rfl⟩:=r
  exact call_range_1 (Jrs I1 (by omega) (by omega) q1 q2 (by simpa using q))
def J0l (wi:TI) (g:TG) (tb:TS):TS:=λ D σ H=>wi σ H λ J H1=>∃ W:Nat->Nat->St->Hp->Prop,(∃ m,W 0 m σ H1)/\∀ i m σ H,W i m σ H ->
 (J.stop i H/\D.nx σ H)\/(J.go i H/\∃ N:St->Hp->Prop,(∀ σ' H',N σ' H'->∃ m',m'<m/\W (i+1) m' σ' H')/\∀ x H',J.yld i H x H'->g x σ H' λ σ2 H2=>tb { D with nx:=N,ct:=N,bk:=D.nx } σ2 H2)
noncomputable def Jem (fp:List Addr) (h:Heap):List (Addr×Obj):=fp.filterMap λ b=>(h.get? b).map λ o=>(b,o)
theorem Jaz {fp:List Addr}{h:Heap}{b:Addr}{o:Obj}(hb:b∈fp) (e:h.get? b=some o):(b,o)∈Jem fp h:=by grind [Jem]
theorem Jp5 {fp:List Addr}{h:Heap}{p:Addr×Obj}(hp:p∈Jem fp h):p.1∈fp/\h.get? p.1=some p.2:=by
 obtain ⟨b,hb,e⟩:=J75.mp hp
 cases q:h.get? b with
 | none=>rw [q] at e;cases e
 | some o=>
  rw [q] at e
  have e':(b,o)=p:=Xp e
  subst e'
  exact ⟨hb,q⟩
theorem Inv.pinned {pins:List (Addr×Obj)}{σ:St}{H:Hp}{s:Yam}{fp:List Addr}(I:Inv X pins σ H s) (hf:∀ b∈fp,Jfs X pins H b) (ho:∀ b∈fp,∃ o,s.heap.get? b=some o/\∀ v,o.data≠.cell v):Inv X (pins++Jem fp s.heap) σ H s:=
 I.pins_of λ p hp=>(Xh.mp hp).elim (λ z=>I.pin p (Xk _ z)) λ z=>by
  obtain ⟨hb,e⟩:=Jp5 z
  obtain ⟨f0,f1,f2,_⟩:=hf p.1 hb
  obtain ⟨o,e',d⟩:=ho p.1 hb
  rw [e] at e';cases e'
  exact ⟨e,f0,f1,f2,d⟩
theorem Inv.unpinned {pins pl:List (Addr×Obj)}{σ:St}{H:Hp}{s:Yam}(I:Inv X (pins++pl) σ H s):Inv X pins σ H s:=I.pins_of λ p hp=>I.pin p (Xk _ (Xo _ hp))
theorem Vf {iter:Expr}{body:List Stmt}{wi:TI}{g:TG}{tb:TS}{pos:Pos}(hp:PassesOwn (model X.prog X.w) X.A X.env X.xe) (hc:X.calm=true) (hi:PI X tg iter wi) (hg:PG X tg g) (hb:PSs X body tb)
 (hs:∀ x,Ybu iter X.env x=pure x:=by intro _;rfl):PS X (.For tg iter body [] pos) (J0l wi g tb):=by
 intro pins s σ H D I h
 refine wpAny_For (thn (hi pins s σ H _ I h) λ v s1 h1=>thn h1 λ itv s2 h2=>?_) hs
 obtain ⟨it,fp,tn,J,H2,e,I2,T,st2,f2,W,⟨m0,w0⟩,turn⟩:=h2
 subst e
 -- what stays true of the iterator's objects through the loop
 have stat:∀ {H':Hp},(∀ b∈fp,H' b=none)->∀ b∈fp,Jfs X pins H' b:=λ hn b hb=>⟨hn b hb,(f2 b hb).2⟩
 refine codeAny_forLoop_any (λ n s'=>∃ i σ' H',Inv X pins σ' H' s'/\tn i s'.heap/\(∀ b∈fp,H' b=none)/\W i n σ' H') ?_ m0 ⟨0,σ,H2,I2,st2,λ b hb=>(f2 b hb).1,w0⟩
 rintro n s3 ⟨i,σ3,H3,I3,st3,fr3,w3⟩
 rcases turn i n σ3 H3 w3 with ⟨stop,qn⟩ | ⟨go,N,hN,step⟩
 . refine Ya5 hp (thn (T.done X rfl rfl rfl hc i pins s3 σ3 H3 X.xe I3 (stat fr3) st3 stop) λ r s4 ⟨hr,I4⟩=>?_)
   subst hr
   exact Ybc ⟨σ3,H3,I4,qn⟩
 . refine Ya5 hp (thn (T.item X rfl rfl rfl hc i pins s3 σ3 H3 X.xe I3 (stat fr3) st3 go) λ r s4 ⟨u,hr,h4⟩=>?_)
   subst hr
   refine Ya5 hp (thn h4 λ _ s5 ⟨x,H5,I5,r5,y5,st5,fr5⟩=>?_)
   have I5':=I5.pinned (stat fr5) (T.obj _ _ st5)
   refine Ya5 hp (thn (hg _ s5 σ3 H5 x u _ I5' r5 (step x H5 y5)) λ _ s6 ⟨σ6,H6,I6,q6⟩=>?_)
   refine Ya5 hp (thn (hb _ s6 σ6 H6 _ I6 q6) λ f s7 q7=>?_)
   have again:∀ {σ7:St} {H7:Hp},Inv X (pins++Jem fp s5.heap) σ7 H7 s7->N σ7 H7->∃ m,m<n/\∃ i σ' H',Inv X pins σ' H' s7/\tn i s7.heap/\(∀ b∈fp,H' b=none)/\W i m σ' H':=λ {σ7 H7} I7 n7=>by
    obtain ⟨m',hm,w7⟩:=hN σ7 H7 n7
    refine ⟨m',hm,i+1,σ7,H7,I7.unpinned,T.keep _ _ _ st5 λ b hb o e=>(I7.pin (b,o) (Xk _ (Xk _ (Jaz hb e)))).1,λ b hb=>?_,w7⟩
    obtain ⟨o,e,d⟩:=T.obj _ _ st5 b hb
    exact (I7.pin (b,o) (Xk _ (Xk _ (Jaz hb e)))).2.1
   cases f with
   | next=>obtain ⟨σ7,H7,I7,n7⟩:=q7;exact again I7 n7
   | cont=>obtain ⟨σ7,H7,I7,n7⟩:=q7;exact again I7 n7
   | brk=>obtain ⟨σ7,H7,I7,q7⟩:=q7;exact ⟨σ7,H7,I7.unpinned,q7⟩
   | ret v=>obtain ⟨x7,σ7,H7,I7,r7,q7⟩:=q7;exact ⟨x7,σ7,H7,I7.unpinned,r7,q7⟩
end
abbrev R2:=V->V->Hp->VK->Prop
def OpR (X:Cx) (f:Yak->Yak->Sem Yak) (r:R2):Prop:=
 ∀ (pins:List (Addr×Obj)) (s:Yam) (σ:St) (H:Hp) (x y:V) (v u:Yak) (Q:VK),Inv X pins σ H s->Yy x v->Yy y u->r x y H Q ->
  Yan (model X.prog X.w) X.A (f v u) (EP X pins σ Q) X.xe s
def UnR (X:Cx) (f:Yak->Sem Yak) (r:V->Hp->VK->Prop):Prop:=
 ∀ (pins:List (Addr×Obj)) (s:Yam) (σ:St) (H:Hp) (x:V) (v:Yak) (Q:VK),Inv X pins σ H s->Yy x v->r x H Q ->
  Yan (model X.prog X.w) X.A (f v) (EP X pins σ Q) X.xe s
def V1 (X:Cx) (f:Yak) (r:List V->Hp->VK->Prop):Prop:=
 ∀ (pins:List (Addr×Obj)) (s:Yam) (σ:St) (H:Hp) (xs:List V) (us:List Yak) (Q:VK),Inv X pins σ H s->J4 xs us->r xs H Q ->
  Yan (model X.prog X.w) X.A (call f us) (EP X pins σ Q) X.xe s
def J2a (X:Cx) (r:V->Hp->(Bool->Hp->Prop)->Prop):Prop:=
 ∀ (pins:List (Addr×Obj)) (s:Yam) (σ:St) (H:Hp) (x:V) (v:Yak) (Q:Bool->Hp->Prop),Inv X pins σ H s->Yy x v->r x H Q ->
  Yan (model X.prog X.w) X.A (truthy v) (TP X pins σ Q) X.xe s
def tOp (r:R2) (ta tb:TE):TE:=λ σ H Q=>ta σ H λ x H1=>tb σ H1 λ y H2=>r x y H2 Q
def tUn (r:V->Hp->VK->Prop) (ta:TE):TE:=λ σ H Q=>ta σ H λ x H1=>r x H1 Q
def rI (C:Int->Int->Prop) (g:Int->Int->V):R2:=λ x y H Q=>∃ i j,x = .int i/\y = .int j/\C i j/\Q (g i j) H
def rI0 (g:Int->Int->V):R2:=λ x y H Q=>∃ i j,x = .int i/\y = .int j/\Q (g i j) H
def rU (g:Int->V):V->Hp->VK->Prop:=λ x H Q=>∃ i,x = .int i/\Q (g i) H
section
variable {X:Cx}{a b c:Expr}{ta tb tc:TE}{pos:Pos}
theorem Jyg (ha:PE X a ta) (hb:PE X b tb) {pins:List (Addr×Obj)}{s:Yam}{σ:St}{H:Hp}{R:V->V->Hp->Prop}(I:Inv X pins σ H s)
 (h:ta σ H λ x H1=>tb σ H1 λ y H2=>R x y H2) {Q:Yak->Yam->Prop} {f:Yak->Yak->Sem Yak}
 (hf:∀ v u s2 x y H2,Inv X pins σ H2 s2->Yy x v->Yy y u->R x y H2->Yan (model X.prog X.w) X.A (f v u) Q X.xe s2) :
 Yan (model X.prog X.w) X.A (eval a X.env) (λ v s₁=>Yan (model X.prog X.w) X.A (eval b X.env) (λ u s₂=>Yan (model X.prog X.w) X.A (f v u) Q X.xe s₂) X.xe s₁) X.xe s:=by
 refine thn (ha pins s σ H _ I h) λ v s1 ⟨x,H1,I1,r1,q1⟩=>?_
 refine thn (hb pins s1 σ H1 _ I1 q1) λ u s2 ⟨y,H2,I2,r2,q2⟩=>?_
 exact hf v u s2 x y H2 I2 r1 r2 q2
theorem Jv {op:Ybj}{r:R2}(ho:OpR X (binaryOp op) r) (ha:PE X a ta) (hb:PE X b tb):PE X (.BinOp a op b pos) (tOp r ta tb):=by
 intro pins s σ H Q I h
 exact wpAny_BinOp (Jyg ha hb I h λ v u s2 x y H2 I2 rx ry q=>ho pins s2 σ H2 x y v u Q I2 rx ry q)
theorem Vg {op:UnaryOp}{r:V->Hp->VK->Prop}(ho:UnR X (unaryOp op) r) (ha:PE X a ta):PE X (.UnaryOp op a pos) (tUn r ta):=by
 intro pins s σ H Q I h
 exact UnaryOp_ (thn (ha pins s σ H _ I h) λ v s1 ⟨x,H1,I1,r1,q1⟩=>ho pins s1 σ H1 x v Q I1 r1 q1)
theorem opI {f:Yak->Yak->Sem Yak}{C:Int->Int->Prop}{g:Int->Int->Int}
 (rule:∀ (i j:Int) (t u:Tok) (s:Yam) (Q:Yak->Yam->Prop) (E:Yak->Yam->Prop),C i j->Q (.int (g i j) s.toks) { s with toks:=s.toks+1 }->Yan (model X.prog X.w) X.A (f (.int i t) (.int j u)) Q E s) :
 OpR X f (rI C λ i j=>.int (g i j)):=by
 intro pins s σ H x y v u Q I rx ry h
 obtain ⟨i,j,rfl,rfl,hc,q⟩:=h
 obtain ⟨t,rfl⟩:=rx
 obtain ⟨t',rfl⟩:=ry
 exact rule i j t t' s _ _ hc ⟨.int (g i j),H,I.tok _,⟨_,rfl⟩,q⟩
theorem J0m {f:Yak->Yak->Sem Yak}{g:Int->Int->Int}
 (rule:∀ (i j:Int) (t u:Tok) (s:Yam) (Q:Yak->Yam->Prop) (E:Yak->Yam->Prop),Q (.int (g i j) s.toks) { s with toks:=s.toks+1 }->Yan (model X.prog X.w) X.A (f (.int i t) (.int j u)) Q E s) :
 OpR X f (rI0 λ i j=>.int (g i j)):=by
 intro pins s σ H x y v u Q I rx ry h
 obtain ⟨i,j,rfl,rfl,q⟩:=h
 obtain ⟨t,rfl⟩:=rx
 obtain ⟨t',rfl⟩:=ry
 exact rule i j t t' s _ _ ⟨.int (g i j),H,I.tok _,⟨_,rfl⟩,q⟩
theorem Ju3 {f:Yak->Yak->Sem Yak}{g:Int->Int->Bool}
 (rule:∀ (i j:Int) (t u:Tok) (s:Yam) (Q:Yak->Yam->Prop) (E:Yak->Yam->Prop),Q (.bool (g i j)) s->Yan (model X.prog X.w) X.A (f (.int i t) (.int j u)) Q E s) :
 OpR X f (rI0 λ i j=>.bl (g i j)):=by
 intro pins s σ H x y v u Q I rx ry h
 obtain ⟨i,j,rfl,rfl,q⟩:=h
 obtain ⟨t,rfl⟩:=rx
 obtain ⟨t',rfl⟩:=ry
 exact rule i j t t' s _ _ ⟨.bl (g i j),H,I,rfl,q⟩
def J2b (i j:Int):Prop:=0<=j/\j<=1000000/\i.natAbs<2^64
def Jyh (i j:Int):Prop:=(-(2^64)<i/\i<2^64)\/(-(2^64)<j/\j<2^64)
theorem Jyh.ok {i j:Int}(h:Jyh i j):IntMulOk i j:=by
 rcases h with ⟨h1,h2⟩ | ⟨h1,h2⟩
 . exact .of_left (intBits_le_64 h1 h2)
 . exact .of_right (intBits_le_64 h1 h2)
theorem Wh:OpR X (binaryOp .Add) (rI0 λ i j=>.int (i+j)):=J0m λ _ _ _ _ _ _ _ q=>add_int q
theorem Ja0:OpR X (binaryOp .Sub) (rI0 λ i j=>.int (i-j)):=J0m λ _ _ _ _ _ _ _ q=>sub_int q
theorem Jen:OpR X (binaryOp .Mult) (rI Jyh λ i j=>.int (i*j)):=opI λ _ _ _ _ _ _ _ hc q=>mul_int q hc.ok
theorem Bi:OpR X (binaryOp .Mod) (rI (λ _ j=>0<j) λ i j=>.int (i%j)):=opI λ i j _ _ _ _ _ hc q=>by
 have h1:(0:Int)<j:=hc
 exact mod_int' (by omega) (by rw [Int.fmod_eq_emod_of_nonneg i (by omega)];exact q)
theorem Jrt:OpR X (binaryOp .Pow) (rI J2b λ i j=>.int (i^j.toNat)):=opI λ _ _ _ _ _ _ _ hc q=>pow_int_small hc.1 hc.2.1 hc.2.2 q
theorem unI {f:Yak->Sem Yak}{g:Int->Int}
 (rule:∀ (i:Int) (t:Tok) (s:Yam) (Q:Yak->Yam->Prop) (E:Yak->Yam->Prop),Q (.int (g i) s.toks) { s with toks:=s.toks+1 }->Yan (model X.prog X.w) X.A (f (.int i t)) Q E s) :
 UnR X f (rU λ i=>.int (g i)):=by
 intro pins s σ H x v Q I rx h
 obtain ⟨i,rfl,q⟩:=h
 obtain ⟨t,rfl⟩:=rx
 exact rule i t s _ _ ⟨.int (g i),H,I.tok _,⟨_,rfl⟩,q⟩
theorem Z8:UnR X (unaryOp .USub) (rU λ i=>.int (-i)):=unI λ _ _ _ _ _ q=>neg_int q
end
noncomputable def Ju4:V->V->Bool
 | .non,.non=>true | .non,.int _=>true | .int _,.non=>true | .non,.bl _=>true | .bl _,.non=>true | .non,.str _=>true | .str _,.non=>true
 | .int _,.int _=>true | .bl _,.bl _=>true | .str _,.str _=>true | .byt _,.byt _=>true
 | .int _,.str _=>true | .str _,.int _=>true | .bl _,.str _=>true | .str _,.bl _=>true
 | _,_=>false
def rEq:R2:=λ x y H Q=>Ju4 x y=true/\Q (.bl (decide (x=y))) H
def rNe:R2:=λ x y H Q=>Ju4 x y=true/\Q (.bl (!decide (x=y))) H
theorem Joq {i j:Int}:decide (V.int i=V.int j)=(i==j):=by
 rw [J3k]
 simp
theorem Jru {i j:Bool}:decide (V.bl i=V.bl j)=(i==j):=by
 rw [J3k]
 simp
theorem Jor {i j:Str}:decide (V.str i=V.str j)=(i==j):=by
 rw [J3k]
 simp
theorem Jos {i j:Array UInt8}:decide (V.byt i=V.byt j)=(i.toList==j.toList):=by
 rw [J3k]
 cases i
 cases j
 simp
section
variable {X:Cx}{a b c:Expr}{ta tb tc:TE}{pos:Pos}
theorem Yl {pins:List (Addr×Obj)}{σ:St}{H:Hp}{s:Yam}{Q:VK}{k k':Bool}(I:Inv X pins σ H s) (q:Q (.bl k) H) (e:k=k'):EP X pins σ Q (.bool k') s:=by
 subst e
 exact ⟨.bl k,H,I,rfl,q⟩
theorem Jbp:OpR X (compareOp .Eq) rEq:=by
 intro pins s σ H x y v u Q I rx ry h
 obtain ⟨hs,q⟩:=h
 cases x with
 | non=>
  cases rx
  cases y with
  | non=>cases ry;exact PySem.EqNone.eq_none_none (Yl I q (by simp))
  | bl j=>cases ry;exact PySem.EqNone.eq_none_bool (Yl I q (by simp))
  | int j=>obtain ⟨t',rfl⟩:=ry;exact PySem.EqNone.eq_none_int (Yl I q (by simp))
  | str j=>obtain ⟨t',rfl⟩:=ry;exact PySem.EqNone.eq_none_str (Yl I q (by simp))
  | _=>exact absurd (show false=true from hs) Q4
 | bl i=>
  cases rx
  cases y with
  | non=>cases ry;exact PySem.EqNone.eq_bool_none (Yl I q (by simp))
  | bl j=>cases ry;exact eq_bool (Yl I q Jru)
  | str j=>obtain ⟨t',rfl⟩:=ry;exact J93 (Yl I q (by simp))
  | _=>exact absurd (show false=true from hs) Q4
 | int i=>
  obtain ⟨t,rfl⟩:=rx
  cases y with
  | non=>cases ry;exact PySem.EqNone.eq_int_none (Yl I q (by simp))
  | int j=>obtain ⟨t',rfl⟩:=ry;exact eq_int (Yl I q Joq)
  | str j=>obtain ⟨t',rfl⟩:=ry;exact J94 (Yl I q (by simp))
  | _=>exact absurd (show false=true from hs) Q4
 | str i=>
  obtain ⟨t,rfl⟩:=rx
  cases y with
  | non=>cases ry;exact PySem.EqNone.eq_str_none (Yl I q (by simp))
  | bl j=>cases ry;exact J95 (Yl I q (by simp))
  | int j=>obtain ⟨t',rfl⟩:=ry;exact J96 (Yl I q (by simp))
  | str j=>obtain ⟨t',rfl⟩:=ry;exact eq_str (Yl I q Jor)
  | _=>exact absurd (show false=true from hs) Q4
 | byt i=>
  obtain ⟨t,rfl⟩:=rx
  cases y with
  | byt j=>obtain ⟨t',rfl⟩:=ry;exact PySem.W.eq_bytes (Yl I q Jos)
  | _=>exact absurd (show false=true from hs) Q4
 | _=>cases y<;>exact absurd (show false=true from hs) Q4
theorem Jrv:OpR X (compareOp .NotEq) rNe:=by
 intro pins s σ H x y v u Q I rx ry h
 obtain ⟨hs,q⟩:=h
 cases x with
 | non=>
  cases rx
  cases y with
  | non=>cases ry;exact PySem.EqNone.ne_none_none (Yl I q (by simp))
  | bl j=>cases ry;exact PySem.EqNone.ne_none_bool (Yl I q (by simp))
  | int j=>obtain ⟨t',rfl⟩:=ry;exact PySem.EqNone.ne_none_int (Yl I q (by simp))
  | str j=>obtain ⟨t',rfl⟩:=ry;exact PySem.EqNone.ne_none_str (Yl I q (by simp))
  | _=>exact absurd (show false=true from hs) Q4
 | bl i=>
  cases rx
  cases y with
  | non=>cases ry;exact PySem.EqNone.ne_bool_none (Yl I q (by simp))
  | bl j=>cases ry;exact ne_bool (Yl I q (congrArg not Jru))
  | str j=>obtain ⟨t',rfl⟩:=ry;exact J97 (Yl I q (by simp))
  | _=>exact absurd (show false=true from hs) Q4
 | int i=>
  obtain ⟨t,rfl⟩:=rx
  cases y with
  | non=>cases ry;exact PySem.EqNone.ne_int_none (Yl I q (by simp))
  | int j=>obtain ⟨t',rfl⟩:=ry;exact ne_int (Yl I q (congrArg not Joq))
  | str j=>obtain ⟨t',rfl⟩:=ry;exact J98 (Yl I q (by simp))
  | _=>exact absurd (show false=true from hs) Q4
 | str i=>
  obtain ⟨t,rfl⟩:=rx
  cases y with
  | non=>cases ry;exact PySem.EqNone.ne_str_none (Yl I q (by simp))
  | bl j=>cases ry;exact J99 (Yl I q (by simp))
  | int j=>obtain ⟨t',rfl⟩:=ry;exact Yaa (Yl I q (by simp))
  | str j=>obtain ⟨t',rfl⟩:=ry;exact ne_str (Yl I q (congrArg not Jor))
  | _=>exact absurd (show false=true from hs) Q4
 | byt i=>
  obtain ⟨t,rfl⟩:=rx
  cases y with
  | byt j=>obtain ⟨t',rfl⟩:=ry;exact PySem.W.ne_bytes (Yl I q (congrArg not Jos))
  | _=>exact absurd (show false=true from hs) Q4
 | _=>cases y<;>exact absurd (show false=true from hs) Q4
theorem Jot:OpR X (compareOp .Lt) (rI0 λ i j=>.bl (decide (i<j))):=Ju3 λ _ _ _ _ _ _ _ q=>lt_int q
theorem Jrw:OpR X (compareOp .LtE) (rI0 λ i j=>.bl (decide (i<=j))):=Ju3 λ _ _ _ _ _ _ _ q=>le_int q
theorem Jgk:OpR X (compareOp .Gt) (rI0 λ i j=>.bl (decide (j<i))):=Ju3 λ _ _ _ _ _ _ _ q=>gt_int q
theorem Jw8:OpR X (compareOp .GtE) (rI0 λ i j=>.bl (decide (j<=i))):=Ju3 λ _ _ _ _ _ _ _ q=>ge_int q
theorem Jjk:OpR X (compareOp .Is) (λ x y H Q=>y = .non/\Q (.bl (decide (x = .non))) H):=by
 intro pins s σ H x y v u Q I rx ry h
 obtain ⟨rfl,q⟩:=h
 cases ry
 refine is_none_gen (Yl I q ?_)
 cases x<;>first
  | (cases rx;rfl)
  | (obtain ⟨t,rfl⟩:=rx;rfl)
theorem Ju5:OpR X (compareOp .IsNot) (λ x y H Q=>y = .non/\Q (.bl (!decide (x = .non))) H):=by
 intro pins s σ H x y v u Q I rx ry h
 obtain ⟨rfl,q⟩:=h
 cases ry
 refine isnot_none_gen (Yl I q ?_)
 cases x<;>first
  | (cases rx;rfl)
  | (obtain ⟨t,rfl⟩:=rx;rfl)
theorem J9 (b:Expr) {op:CmpOp}(h:op≠.In:=by decide) (h2:op≠.NotIn:=by decide):Ybn op b=false:=by
 have e1:(op==CmpOp.In)=false:=by cases op<;>first | rfl | exact absurd rfl h
 have e2:(op==CmpOp.NotIn)=false:=by cases op<;>first | rfl | exact absurd rfl h2
 cases b<;>simp [Ybn,e1,e2]
theorem Vh {op:CmpOp}{r:R2}(ho:OpR X (compareOp op) r) (ha:PE X a ta) (hb:PE X b tb) (hm:Ybn op b=false):PE X (.Compare a [op] [b] pos) (tOp r ta tb):=by
 intro pins s σ H Q I h
 exact wpAny_Compare1 (Jyg ha hb I h λ v u s2 x y H2 I2 rx ry q=>ho pins s2 σ H2 x y v u Q I2 rx ry q) hm
def Jw9 (t:TE):TT:=λ σ H Q=>t σ H λ x H'=>∃ k,x = .bl k/\Q k H'
theorem Ya {op:CmpOp}{r:R2}(ho:OpR X (compareOp op) r) (ha:PE X a ta) (hb:PE X b tb) (hm:Ybn op b=false):PT X (.Compare a [op] [b] pos) (Jw9 (tOp r ta tb)):=by
 intro pins s σ H Q I h
 refine wpAny_isTrue_Compare1 (thn (ha pins s σ H _ I h) λ v s1 ⟨x,H1,I1,r1,q1⟩=>thn (hb pins s1 σ H1 _ I1 q1) λ u s2 ⟨y,H2,I2,r2,q2⟩=>
  thn (ho pins s2 σ H2 x y v u _ I2 r1 r2 q2) λ c s3 ⟨z,H3,I3,r3,k,e,q3⟩=>?_) hm
 subst e
 cases r3
 exact wpAny_truthy_bool ⟨H3,I3,q3⟩
def Jrx (r r':R2) (ta tb tc:TE):TE:=λ σ H Q=>ta σ H λ x H1=>tb σ H1 λ y H2=>r x y H2 λ z H3=>∃ k,z = .bl k /\
 (if k=true then tc σ H3 λ w' H4=>r' y w' H4 Q else Q (.bl false) H3)
theorem Jry {op op':CmpOp}{r r':R2}(ho:OpR X (compareOp op) r) (ho':OpR X (compareOp op') r') (ha:PE X a ta) (hb:PE X b tb) (hc:PE X c tc)
 (hm:lastMarks [op,op'] [b,c]=false:=by with_unfolding_all rfl):PE X (.Compare a [op,op'] [b,c] pos) (Jrx r r' ta tb tc):=by
 intro pins s σ H Q I h
 refine Compare_chain (thn (ha pins s σ H _ I h) λ v s1 ⟨x,H1,I1,r1,q1⟩=>chain_link (thn (hb pins s1 σ H1 _ I1 q1) λ u s2 ⟨y,H2,I2,r2,q2⟩=>
  thn (ho pins s2 σ H2 x y v u _ I2 r1 r2 q2) λ d s3 ⟨z,H3,I3,r3,k,e,q3⟩=>?_)) hm
 subst e
 cases r3
 refine wpAny_truthy_bool ?_
 cases k with
 | false=>exact ite_ff ⟨.bl false,H3,I3,rfl,q3⟩
 | true=>exact ite_tt (chain_last (thn (hc pins s3 σ H3 _ I3 q3) λ w' s4 ⟨z',H4,I4,r4,q4⟩=>ho' pins s4 σ H4 y z' u w' Q I4 r2 r4 q4))
def Jyi (K:Qb) (x:V) (H:Hp) (k:Bool):Prop:=
 match x with
 | .non=>k=false
 | .bl b=>k=b
 | .int i=>k=(i != 0)
 | .str y=>y.length<=sizeLine/\k=((y.length:Int) != 0)
 | .byt y=>y.size<=sizeLine/\k=((y.size:Int) != 0)
 | .ref p=>(∃ xs,SqL K H p xs/\k = !xs.isEmpty)\/(∃ xs,SqT K H p xs/\k = !xs.isEmpty)\/∃ kvs,H p=some (.dK kvs)/\k = !kvs.isEmpty
 | _=>False
theorem Jm2 {κ:Type}{kvs:List (κ×V)}{vs:List (κ×Yak)}(r:KV kvs vs):(!vs.isEmpty) = !kvs.isEmpty:=by
 cases r<;>rfl
theorem Jgl {xs:List V}{its:List Yak}(r:J4 xs its):(!its.toArray.isEmpty) = !xs.isEmpty:=by
 cases r<;>simp
theorem Jgm:(sizeLine:Nat)<2^63:=by rw [Yar];decide
theorem Jyj:J2a X (λ x H Q=>∃ k,Jyi X.K x H k/\Q k H):=by
 intro pins s σ H x v Q I rx h
 obtain ⟨k,e,q⟩:=h
 have hl:=Jgm
 have hs:sizeLine=16777216:=Yar
 cases x with
 | non=>
  cases rx
  have e':k=false:=e
  subst e'
  exact truthy_none ⟨H,I,q⟩
 | bl b=>
  cases rx
  have e':k=b:=e
  subst e'
  exact wpAny_truthy_bool ⟨H,I,q⟩
 | int i=>
  obtain ⟨t,rfl⟩:=rx
  have e':k=(i != 0):=e
  subst e'
  exact PySem.P.truthy_int ⟨H,I,q⟩
 | str y=>
  obtain ⟨t,rfl⟩:=rx
  obtain ⟨hy,e'⟩:y.length<=sizeLine/\k=((y.length:Int) != 0):=e
  subst e'
  exact PySem.P.truthy_str (by omega) ⟨H,I.tok _,q⟩
 | byt y=>
  obtain ⟨t,rfl⟩:=rx
  obtain ⟨hy,e'⟩:y.size<=sizeLine/\k=((y.size:Int) != 0):=e
  subst e'
  exact PySem.W.truthy_bytes (by omega) ⟨H,I.tok _,q⟩
 | ref p=>
  cases rx
  have e':(∃ xs,SqL X.K H p xs/\k = !xs.isEmpty)\/(∃ xs,SqT X.K H p xs/\k = !xs.isEmpty)\/∃ kvs,H p=some (.dK kvs)/\k = !kvs.isEmpty:=e
  rcases e' with ⟨xs,hx,e'⟩ | ⟨xs,hx,e'⟩ | ⟨kvs,hx,e'⟩
  . subst e'
    obtain ⟨its,r,pl,hz⟩:=I.list hx
    have hlen:=r.length
    exact wpAny_truthy_list pl.isList (by simp only [Q2];omega) ⟨H,I.tok _,by rw [Jgl r];exact q⟩
  . subst e'
    obtain ⟨its,r,pl,hz⟩:=I.tuple hx
    have hlen:=r.length
    exact truthy_tuple pl (by simp only [Q2];omega) ⟨H,I.tok _,by rw [Jgl r];exact q⟩
  . subst e'
    obtain ⟨hz,hS,vs,r,m⟩:kvs.length<=sizeLine/\(p==sysModules)=false/\∃ vs,KV kvs vs/\s.heap.DictOf (Jjd X.prog X.w) p vs:=I.hok p _ hx
    have hlen:kvs.length=vs.length:=J7y r
    exact wpAny_truthy_dict hS m (by omega) ⟨H,I.tok _,by rw [Jm2 r];exact q⟩
 | _=>exact (show False from e).elim
theorem Jrz (ha:PE X a ta) (he:∀ whole,isTrue a X.env whole=(do let v <- whole;Yaz a.pos;holding [v] (truthy v))) :
 PT X a (λ σ H Q=>ta σ H λ x H'=>∃ k,Jyi X.K x H' k/\Q k H'):=by
 intro pins s σ H Q I h
 exact isTrue_plain (thn (ha pins s σ H _ I h) λ v s1 ⟨x,H1,I1,r1,q1⟩=>Jyj pins s1 σ H1 x v Q I1 r1 q1) (he _)
theorem Jbq {x:V}{us:List Yak}(r:J4 [x] us):∃ u,us=[u]/\Yy x u:=by
 cases r with
 | cons r1 r2=>cases r2;exact ⟨_,rfl,r1⟩
theorem Jk7 {x y:V}{us:List Yak}(r:J4 [x,y] us):∃ u w',us=[u,w']/\Yy x u/\Yy y w':=by
 cases r with
 | cons r1 r2=>
  cases r2 with
  | cons r3 r4=>cases r4;exact ⟨_,_,rfl,r1,r3⟩
theorem Jr0:V1 X (.builtin "abs") (λ xs H Q=>∃ i,xs=[.int i]/\Q (.int (if i<0 then -i else i)) H):=by
 intro pins s σ H xs us Q I r h
 obtain ⟨i,rfl,q⟩:=h
 obtain ⟨u,rfl,t,rfl⟩:=Jbq r
 exact call_abs_int λ u tk=>⟨.int (if i<0 then -i else i),H,I.tok _,⟨_,rfl⟩,q⟩
theorem Jp6 (hc:X.calm=true):V1 X (.builtin "max") (λ xs H Q=>∃ i j,xs=[.int i,.int j]/\Q (.int (if j>i then j else i)) H):=by
 intro pins s σ H xs us Q I r h
 obtain ⟨i,j,rfl,q⟩:=h
 obtain ⟨u,w',rfl,⟨t,rfl⟩,⟨t',rfl⟩⟩:=Jk7 r
 refine max_two_ints (I.ok.hd hc) λ h' tk k=>⟨_,H,I.kept k,?_,q⟩
 by_cases hj:j>i
 . rw [if_pos hj,if_pos hj];exact ⟨_,rfl⟩
 . rw [if_neg hj,if_neg hj];exact ⟨_,rfl⟩
theorem Jp7 (hc:X.calm=true):V1 X (.builtin "min") (λ xs H Q=>∃ i j,xs=[.int i,.int j]/\Q (.int (if j<i then j else i)) H):=by
 intro pins s σ H xs us Q I r h
 obtain ⟨i,j,rfl,q⟩:=h
 obtain ⟨u,w',rfl,⟨t,rfl⟩,⟨t',rfl⟩⟩:=Jk7 r
 refine min_two_ints (I.ok.hd hc) λ h' tk k=>⟨_,H,I.kept k,?_,q⟩
 by_cases hj:j<i
 . rw [if_pos hj,if_pos hj];exact ⟨_,rfl⟩
 . rw [if_neg hj,if_neg hj];exact ⟨_,rfl⟩
theorem Jcl:V1 X (.type "int") (λ xs H Q=>(∃ i,xs=[.int i]/\Q (.int i) H)\/∃ k,xs=[.bl k]/\Q (.int (if k then 1 else 0)) H):=by
 intro pins s σ H xs us Q I r h
 rcases h with ⟨i,rfl,q⟩ | ⟨k,rfl,q⟩
 . obtain ⟨u,rfl,t,rfl⟩:=Jbq r
   exact call_int_int ⟨.int i,H,I,⟨_,rfl⟩,q⟩
 . obtain ⟨u,rfl,r1⟩:=Jbq r
   cases r1
   exact call_int_bool ⟨.int (if k then 1 else 0),H,I.tok _,⟨_,rfl⟩,q⟩
end
structure ObjM (h:Heap) (x dx C:Addr) (mA:Str->Option Yak):Prop where
 obj:h.get? x=some (J28 C dx)
 ns:h.Ns1 dx mA
 ne:dx≠x
theorem Jp8 {h:Heap}{dx:Addr}{mA:Str->Option Yak}(n:h.Ns1 dx mA):∃ od,h.get? dx=some od/\∀ name,J45 name od=some (mA name):=by
 obtain ⟨o,es,ep,ho,hd,hk,_,hm⟩:=n
 refine ⟨o,ho,λ name=>?_⟩
 have e:=hm name
 unfold nsFind findBy at e
 rw [<- Array.find?_toList] at e
 unfold J45
 rw [hd]
 dsimp only
 split
 . rename_i y q
   rw [q] at e
   exact congrArg some e
 . rename_i q
   rw [q] at e
   have a:es.toList.any (·.refKey)=false:=by
    rw [List.any_eq_false]
    intro y hy
    obtain ⟨z,t,hkey⟩:=hk y (Array.mem_toList_iff.mp hy)
    simp [DictEntry.refKey,hkey]
   have a':¬ es.toList.any (·.refKey)=true:=by rw [a];exact Q4
   rw [if_neg a']
   exact congrArg some e
theorem ObjM.look {h:Heap}{x dx C:Addr}{mA:Str->Option Yak}(I:ObjM h x dx C mA):∃ od,PySem.W.InstAt h x (J28 C dx) C (some od)/\∀ name,J45 name od=some (mA name):=
 let ⟨od,ho,hl⟩:=Jp8 I.ns
 ⟨od,⟨I.obj,rfl,rfl,ho⟩,hl⟩
section
variable {prog:Yap}{w:Yao}{A:Yaq}{E:Yak->Yam->Prop}{s:Yam}{K:Qb}{x dx C f:Addr}{mA:Str->Option Yak}{name:Str}{v:Yak}
theorem Ju6 {expr:Bool}{Q:Yak->Yam->Prop}(X:K.In s.heap) (I:ObjM s.heap x dx C mA) (hg:J46 K C name=true) (hh:J59 K C=true)
 (ha:Xr K (.ref C) name=some none) (hv:mA name=some v) (hv':J76 v=true) (h:Q v { s with toks:=s.toks+1 }) :
 Yan (model prog w) A (getAttr (.ref x) name expr) Q E s:=by
 obtain ⟨od,J,hl⟩:=I.look
 exact PySem.W.get_value X J (J6a hg).1 (PySem.W.findObj_own hh ha rfl (by rw [hl,hv])) hv' h
theorem Jr1 {pl:Sem Bool}{Q:Yak×List Yak->Yam->Prop}(X:K.In s.heap) (I:ObjM s.heap x dx C mA) (hg:J46 K C name=true)
 (hf:Xr K (.ref C) name=some (some (.ref f))) (ht:J4e K (.ref f)=true) (hv:mA name=none) (h:Q (.ref f,[.ref x]) s) :
 Yan (model prog w) A (getMethod (.ref x) name pl) Q E s:=by
 obtain ⟨od,J,hl⟩:=I.look
 exact PySem.W.method_fn X J (J6a hg).1 (J6a hg).2 hf (beq_iff_eq.mp ht) (by show (J45 name od).map (·.isSome)=some false;rw [hl,hv];rfl) h
theorem Ju7 {ns:List Str}{Q:Unit->Yam->Prop}(X:K.In s.heap) (I:ObjM s.heap x dx C mA)
 (hs:Xr K (.ref C) "__setattr__" = some (some (.builtin "object.__setattr__"))) (hp:J77 K C=true) (ht:J6b K C name=some none) (hh:J59 K C=true)
 (hw:J53 mA ns) (hsz:ns.length<=sizeLine)
 (h:∀ h',ObjM h' x dx C (λ y=>if y=name then some v else mA y)->Xz dx s.heap h'->Q () { s with heap:=h',toks:=s.toks+2 }) :
 Yan (model prog w) A (setAttr (.ref x) name v) Q E s:=by
 obtain ⟨od,J,hl⟩:=I.look
 refine PySem.W.set_plain X J hs (PySem.W.osa_open (s:={ s with toks:=s.toks+1 }) (r:=none) X J hp ht λ b=>?_)
 obtain ⟨cd,hc,hd'⟩:=PySem.W.any_some hh
 have hx:s.heap.get? x=some ⟨.ref C,some dx,.plain,#[]⟩:=I.obj
 refine wpAny_bind (wpAny_pure (wpAny_bind (wpAny_bind (wpAny_loadPart hx (wpAny_bind (Yab (s:={ s with toks:=s.toks+1 }) (PySem.W.looks_clsIn X hc) ?_))))))
 rw [hd']
 refine wpAny_pure (a:=some dx) (wpAny_bind (wpAny_pure (wpAny_bind ?_)))
 refine wpAny_nsSet1 (s:={ s with toks:=s.toks+1 }) I.ns λ h' hn2 hs2=>?_
 obtain ⟨oD,esD,epD,hoD,hdD,hcD⟩:=hn2.count (J53.cons name v hw)
 refine wpAny_bind (wpAny_lookBehind hoD (by rw [hdD];exact pastItsLine_dict (Xj hcD (by rw [X9];omega))) ?_)
 exact wpAny_pure (h _ ⟨(hs2.2 _ (Qh I.ne)).trans I.obj,hn2,I.ne⟩ hs2)
theorem Jr2 {R:Ya6->Yam->Prop}{vs:List Yak}{kw:List (Str×Yak)}(X:K.In s.heap) (hm:J6c K C=true)
 (hi:Xr K (.ref C) "__init__" = some (some (.ref f))) (hf:PySem.W.typeIn K (.ref f)=some (.type "function"))
 (h:Yay (model prog w) (A.under (.builtin "type.__call__" ⟨.ref C::vs,kw⟩)) (.call (.ref f) ⟨.ref (s.heap.objs.size+1)::vs,kw⟩) (PySem.W.InitBack (s.heap.objs.size+1) R)
  { s with heap:=(s.heap.push U3).push (J28 C s.heap.objs.size) }) :
 Yay (model prog w) A (.call (.ref C) ⟨vs,kw⟩) R s:=by
 obtain ⟨hh,g,d,t,os⟩:=s
 exact PySem.W.make_core (PySem.W.makes_of X hm) (PySem.W.looks_findIn X hi) (λ self=>PySem.W.bind_fn X self hf) (.inl rfl) h
end
noncomputable def putF (f:Str) (v:V):List (Str×V)->List (Str×V)
 | []=>[(f,v)]
 | (g,x)::r=>if g=f then (g,v)::r else (g,x)::putF f v r
theorem Jfg (f g:Str) (v:V):∀ fs:List (Str×V),(putF f v fs).lookup g=if g=f then some v else fs.lookup g
 | []=>by
  show J3l g [(f,v)]=_
  by_cases h:g=f
  . have hb:(g==f)=true:=beq_iff_eq.mpr h
    simp only [J3l,hb,if_pos h]
  . have hb:(g==f)=false:=beq_eq_false_iff_ne.mpr h
    simp only [J3l,hb,if_neg h]
 | (k,x)::r=>by
  have ih:=Jfg f g v r
  rw [show putF f v ((k,x)::r)=(if k=f then (k,v)::r else (k,x)::putF f v r) from rfl]
  by_cases hk:k=f
  . rw [if_pos hk]
    by_cases h:g=k
    . have hb:(g==k)=true:=beq_iff_eq.mpr h
      simp only [J3l,hb,if_pos (h.trans hk)]
    . have hb:(g==k)=false:=beq_eq_false_iff_ne.mpr h
      simp only [J3l,hb,if_neg (λ e:g=f=>h (e.trans hk.symm))]
  . rw [if_neg hk]
    by_cases h:g=k
    . have hb:(g==k)=true:=beq_iff_eq.mpr h
      simp only [J3l,hb,if_neg (λ e:g=f=>hk (h.symm.trans e))]
    . have hb:(g==k)=false:=beq_eq_false_iff_ne.mpr h
      simp only [J3l,hb]
      exact ih
theorem Jeo (f:Str) (v:V):∀ fs:List (Str×V),f∈(putF f v fs).map (·.1)/\∀ g,g∈fs.map (·.1)->g∈(putF f v fs).map (·.1)
 | []=>⟨by simp [putF],λ g h=>by simp at h⟩
 | (k,x)::r=>by
  obtain ⟨i1,i2⟩:=Jeo f v r
  rw [show putF f v ((k,x)::r)=(if k=f then (k,v)::r else (k,x)::putF f v r) from rfl]
  by_cases hk:k=f
  . rw [if_pos hk]
    subst hk
    exact ⟨by simp,λ g h=>by simpa using h⟩
  . rw [if_neg hk]
    refine ⟨?_,λ g h=>?_⟩
    . rw [Xb]
      exact Qj _ i1
    . rw [Xb] at h ⊢
      rcases Qd.mp h with e | e
      . exact Qd.mpr (.inl e)
      . exact Qj _ (i2 g e)
theorem Jfh (f:Str) (v:V):∀ fs:List (Str×V),(putF f v fs).length<=fs.length+1
 | []=>by simp [putF]
 | (k,x)::r=>by
  have ih:=Jfh f v r
  rw [show putF f v ((k,x)::r)=(if k=f then (k,v)::r else (k,x)::putF f v r) from rfl]
  by_cases hk:k=f
  . rw [if_pos hk,X9,X9];omega
  . rw [if_neg hk,X9,X9];omega
theorem Jgg.some_of {v:V}{o:Option Yak}(r:Jgg (some v) o):∃ u,o=some u/\Yy v u:=by
 cases o with
 | none=>exact (show False from r).elim
 | some u=>exact ⟨u,rfl,r⟩
theorem Jgg.none_of {o:Option Yak}(r:Jgg none o):o=none:=by grind [Jgg]
theorem Jp9 {v:V}{u:Yak}(r:Yy v u):J76 u=true:=by
 cases v with
 | non=>cases (show u=Up from r);rfl
 | bl b=>cases (show u=X8 b from r);rfl
 | int i=>obtain ⟨t,e⟩:=(show ∃ t,u=Uo i t from r);cases e;rfl
 | str x=>obtain ⟨t,e⟩:=(show ∃ t,u=U2 x t from r);cases e;rfl
 | byt b=>obtain ⟨t,e⟩:=(show ∃ t,u=J7x b t from r);cases e;rfl
 | flt b=>obtain ⟨t,e⟩:=(show ∃ t,u=J52 b t from r);cases e;rfl
 | ref a=>cases (show u=Qw a from r);rfl
 | ty n=>cases (show u=U9 n from r);rfl
section
variable {P:Yap}{w:Yao}{H H':Hp}{h h':Heap}{a C dx:Addr}{fs fs':List (Str×V)}
theorem Jf3 (hok:HOk P w H h) (e:H a=some (.ins C dx fs)):∃ mA,ObjM h a dx C mA/\(∀ f,Jgg (fs.lookup f) (mA f))/\J53 mA (fs.map (·.1))/\fs.length<=1000/\H dx=some (.own a):=by
 obtain ⟨d,z,ne,ob,mA,n,r,q⟩:=(show Zs P w H h a (.ins C dx fs) from hok a _ e)
 exact ⟨mA,⟨ob,n,ne⟩,r,q,z,d⟩
end
structure Cls (K:Qb) (C:Addr):Prop where
 pg:J46 K C Str.empty=true
 hd:J59 K C=true
 po:J77 K C=true
 sa:Xr K (.ref C) "__setattr__" = some (some (.builtin "object.__setattr__"))
theorem Cls.get {K:Qb}{C:Addr}(c:Cls K C) (f:Str):J46 K C f=true:=c.pg
def NoAttr (K:Qb) (C:Addr) (f:Str):Prop:=Xr K (.ref C) f=some none
theorem NoAttr.taker {K:Qb}{C:Addr}{f:Str}(n:NoAttr K C f):J6b K C f=some none:=by
 unfold J6b
 rw [show Xr K (.ref C) f=some none from n]
 rfl
structure Meth (K:Qb) (C:Addr) (m:Str) (f:Addr):Prop where
 at_:Xr K (.ref C) m=some (some (.ref f))
 fn:J4e K (.ref f)=true
 kp:Uf K (.ref f)=true
section
variable {X:Cx}{pins:List (Addr×Obj)}{σ:St}{H:Hp}{s:Yam}{a C dx:Addr}{fs:List (Str×V)}{f:Str}{v:V}{A:Yaq}{E:Yak->Yam->Prop}
theorem Jm3 {b:Bool}{Q:Yak->Yam->Prop}(I:Inv X pins σ H s) (e:H a=some (.ins C dx fs)) (c:Cls X.K C) (n:NoAttr X.K C f) (l:fs.lookup f=some v)
 (h:∀ u s',Inv X pins σ H s'->Yy v u->Q u s'):Yan (model X.prog X.w) A (getAttr (.ref a) f b) Q E s:=by
 obtain ⟨mA,O,r,_,_,_⟩:=Jf3 I.hok e
 obtain ⟨u,hu,ru⟩:=Jgg.some_of (v:=v) (o:=mA f) (by rw [<- l];exact r f)
 exact Ju6 I.kIn O (c.get f) c.hd n hu (Jp9 ru) (h u _ (I.tok _) ru)
theorem Jgn {m:Str}{g:Addr}{pl:Sem Bool}{Q:Yak×List Yak->Yam->Prop}(I:Inv X pins σ H s) (e:H a=some (.ins C dx fs)) (c:Cls X.K C) (k:Meth X.K C m g) (l:fs.lookup m=none)
 (h:Q (.ref g,[.ref a]) s):Yan (model X.prog X.w) A (getMethod (.ref a) m pl) Q E s:=by
 obtain ⟨mA,O,r,_,_,_⟩:=Jf3 I.hok e
 have hn:mA m=none:=Jgg.none_of (by rw [<- l];exact r m)
 exact Jr1 I.kIn O (c.get m) k.at_ k.fn hn h
theorem Jm4 {y:V}{u:Yak}{Q:Unit->Yam->Prop}(I:Inv X pins σ H s) (e:H a=some (.ins C dx fs)) (c:Cls X.K C) (n:NoAttr X.K C f) (hl:fs.length<1000) (ry:Yy y u)
 (h:∀ s',Inv X pins σ (upd H a (.ins C dx (putF f y fs))) s'->Q () s'):Yan (model X.prog X.w) A (setAttr (.ref a) f u) Q E s:=by
 obtain ⟨mA,O,r,wi,_,ho⟩:=Jf3 I.hok e
 have hz:(fs.map (·.1)).length<=sizeLine:=by rw [Qc,Yar];omega
 refine Ju7 I.kIn O c.sa c.po n.taker c.hd wi hz λ h' O' sb=>h _ ?_
 have hd:∃ o,h'.get? dx=some o:=let ⟨o,_,_,e',_⟩:=O'.ns;⟨o,e'⟩
 refine I.write (x:=a) (e:=dx) (by rw [e];exact J3m) (.inr ho) (λ b q hb z=>(sb.2 b hb).trans z) hd ?_
 refine ⟨by rw [Je O.ne];exact ho,?_,O.ne,O'.obj,_,O'.ns,λ g=>?_,λ g hg=>?_⟩
 . have:=Jfh f y fs;omega
 . show Jgg ((putF f y fs).lookup g) (if g=f then some u else mA g)
   rw [Jfg]
   by_cases q:g=f
   . rw [if_pos q,if_pos q];exact ry
   . rw [if_neg q,if_neg q];exact r g
 . by_cases q:g=f
   . rw [q];exact (Jeo f y fs).1
   . refine (Jeo f y fs).2 g (wi g λ z=>hg ?_)
     show (if g=f then some u else mA g)=none
     rw [if_neg q];exact z
theorem Inv.made (I:Inv X pins σ H s):Inv X pins σ (upd (upd H s.heap.objs.size (.own (s.heap.objs.size+1))) (s.heap.objs.size+1) (.ins C s.heap.objs.size []))
 { s with heap:=(s.heap.push U3).push (J28 C s.heap.objs.size) }:=by
 have e1:(s.heap.push U3).get? s.heap.objs.size=some U3:=Xa s.heap rfl
 have e2:((s.heap.push U3).push (J28 C s.heap.objs.size)).get? (s.heap.objs.size+1)=some (J28 C s.heap.objs.size):=by
  have:=Xa (s.heap.push U3) (o:=J28 C s.heap.objs.size) rfl
  rwa [X0] at this
 have e3:(s.heap.push U3).Ns s.heap.objs.size (λ _=>none):=⟨U3,#[],_,e1,rfl,(λ e he=>absurd he (by simp)),λ _=>rfl⟩
 have I1:=I.laid (a:=s.heap.objs.size) (o:=.own (s.heap.objs.size+1)) (h':=s.heap.push U3) (t':=s.toks) (λ b u q=>Qt _ q) (Ql _) ⟨_,e1⟩
 refine I1.laid (a:=s.heap.objs.size+1) (o:=.ins C s.heap.objs.size []) (t':=s.toks) (λ b u q=>Qt _ q) (J6d (X0 _ _)) ?_
 have ne:s.heap.objs.size≠s.heap.objs.size+1:=Xg (J6e _)
 refine ⟨by rw [Je ne,Jf],Xl _,ne,e2,λ _=>none,(Heap.Ns1.of_empty e3).at λ o q=>Qt _ q,λ _=>J3m,λ y hy=>absurd rfl hy⟩
theorem Ju8 {prog:Yap}{w:Yao}{env:Env}{e:Expr}{f:Str}{pos:Pos}{s:Yam}{Q:Yak->Yam->Prop}(hb:Ybo e f env (eval e env)=eval e env)
 (h:Yan (model prog w) A (eval e env) (λ o s₁=>Yan (model prog w) A (getAttr o f true) Q E s₁) E s):Yan (model prog w) A (eval (.Attribute e f pos) env) Q E s:=
 Attribute_any_ h (by rw [arm_eval_Attribute,hb])
end
def Jm5 (K:Qb) (ta:TE) (f:Str):TE:=λ σ H Q=>ta σ H λ x H1=>∃ a C dx fs v,x = .ref a/\H1 a=some (.ins C dx fs)/\Cls K C/\NoAttr K C f/\fs.lookup f=some v/\Q v H1
def Ju9 (K:Qb) (ta tv:TE) (f:Str):TS:=λ D σ H=>tv σ H λ y H1=>ta σ H1 λ x H2=>∃ a C dx fs,x = .ref a/\H2 a=some (.ins C dx fs)/\Cls K C/\NoAttr K C f/\fs.length<1000 /\
 D.nx σ (upd H2 a (.ins C dx (putF f y fs)))
section
variable {X:Cx}{o e value:Expr}{f:Str}{pos pos' tpos:Pos}{ta tv:TE}
theorem Jyk (he:PE X e ta) (hb:Ybo e f X.env (eval e X.env)=eval e X.env):PE X (.Attribute e f pos) (Jm5 X.K ta f):=by
 intro pins s σ H Q I h
 refine Ju8 hb (thn (he pins s σ H _ I h) λ u s1 ⟨x,H1,I1,rx,a,C,dx,fs,v,ex,ea,c,n,l,q⟩=>?_)
 subst ex
 obtain rfl:u=Qw a:=rx
 exact Jm3 I1 ea c n l λ u' s2 I2 ru=>⟨v,H1,I2,ru,q⟩
theorem Ja1 (ha:PE X o ta) (hv:PE X value tv) (hs:Ybd value (some (.Attribute o f pos')) pos.line X.env=pure false):PS X (.Assign [.Attribute o f pos'] value pos) (Ju9 X.K ta tv f):=by
 intro pins s σ H D I h
 refine plainObj_wpAny_Assign_Attribute (thn (hv pins s σ H _ I h) λ u s1 ⟨y,H1,I1,ry,q⟩=>thn (ha pins s1 σ H1 _ I1 q) λ ov s2 ⟨x,H2,I2,rx,a,C,dx,fs,ex,ea,c,n,l,q2⟩=>?_) hs
 subst ex
 obtain rfl:ov=Qw a:=rx
 exact Jm4 I2 ea c n l ry λ s3 I3=>⟨σ,_,I3,q2⟩
end
section
variable {X:Cx}{pins:List (Addr×Obj)}{σ:St}{H:Hp}{s:Yam}{A:Yaq}{E:Yak->Yam->Prop}{Q:Yak->Yam->Prop}{c:Yak}{b:Bool}
inductive TyOf (K:Qb) (H:Hp):V->Yak->Prop where
 | non:TyOf K H .non (.type "NoneType")
 | bl (x:Bool):TyOf K H (.bl x) (.type "bool")
 | int (i:Int):TyOf K H (.int i) (.type "int")
 | str (x:Str):TyOf K H (.str x) (.type "str")
 | flt (x:UInt64):TyOf K H (.flt x) (.type "float")
 | lst {a:Addr} {xs:List V} (e:H a=some (.lst xs)):TyOf K H (.ref a) (.type "list")
 | frz {a:Addr} {o:Obj} {xs:List V} (e:H a=some (.frz o (.lst xs))):TyOf K H (.ref a) (.type "list")
 | tup {a:Addr} {xs:List V} (e:H a=some (.tup xs)):TyOf K H (.ref a) (.type "tuple")
 | dK {a:Addr} {kvs:List (Key×V)} (e:H a=some (.dK kvs)):TyOf K H (.ref a) (.type "dict")
 | dT {a:Addr} {kvs:List (List Key×V)} (e:H a=some (.dT kvs)):TyOf K H (.ref a) (.type "dict")
 | ins {a C dx:Addr} {fs:List (Str×V)} (e:H a=some (.ins C dx fs)) (cl:Cls K C) (ha:Xr K (.ref C) "__class__" = some (some (.builtin "object.__class__")))
  (hn:J6f K (.builtin "object.__class__") "__get__" = some (some (.builtin "getset_descriptor.__get__"))) (htk:J6g K (.builtin "object.__class__")=some true)
  (hm:J4f K C (.type "object")=some true):TyOf K H (.ref a) (.ref C)
theorem Jqa {x:V}{u t:Yak}(I:Inv X pins σ H s) (rx:Yy x u) (ty:TyOf X.K H x t) (e:Uq X.K t c=some b) (h:∀ tk,Q (.bool b) { s with toks:=tk }) :
 Yan (model X.prog X.w) A (call (.builtin "isinstance") [u,c]) Q E s:=by
 cases ty with
 | non=>cases (show u=Up from rx);exact Uj PySem.W.kitx_none I.kIn J3m e (λ z=>nomatch z) h
 | bl y=>cases (show u=X8 y from rx);exact Uj PySem.W.kitx_bool I.kIn J3m e (λ z=>nomatch z) h
 | int i=>obtain ⟨t,q⟩:=(show ∃ t,u=Uo i t from rx);cases q;exact Uj PySem.W.kitx_int I.kIn J3m e (λ z=>nomatch z) h
 | str y=>obtain ⟨t,q⟩:=(show ∃ t,u=U2 y t from rx);cases q;exact Uj PySem.W.kitx_str I.kIn J3m e (λ z=>nomatch z) h
 | flt y=>obtain ⟨t,q⟩:=(show ∃ t,u=J52 y t from rx);cases q;exact Uj PySem.W.kitx_float I.kIn J3m e (λ z=>nomatch z) h
 | @lst a xs ea=>
  cases (show u=Qw a from rx)
  obtain ⟨_,_,n,_,h1⟩:=(show Zs X.prog X.w H s.heap a (.lst xs) from I.hok a _ ea)
  exact Uj J78 I.kIn ⟨_,h1,rfl⟩ e (λ z=>nomatch z) h
 | @frz a ob xs ea=>
  cases (show u=Qw a from rx)
  obtain ⟨_,_,_,n,_,h1⟩:=(show Zs X.prog X.w H s.heap a (.frz ob (.lst xs)) from I.hok a _ ea)
  exact Uj J78 I.kIn ⟨_,h1,rfl⟩ e (λ z=>nomatch z) h
 | @tup a xs ea=>
  cases (show u=Qw a from rx)
  obtain ⟨_,_,_,p⟩:=(show Zs X.prog X.w H s.heap a (.tup xs) from I.hok a _ ea)
  obtain ⟨o,h1,h2,_⟩:=p
  exact Uj PySem.W.kitx_tuple I.kIn ⟨o,h1,h2⟩ e (λ z=>nomatch z) h
 | @dK a kvs ea=>
  cases (show u=Qw a from rx)
  obtain ⟨_,_,vs,_,p⟩:=(show Zs X.prog X.w H s.heap a (.dK kvs) from I.hok a _ ea)
  obtain ⟨o,es,ep,h1,h2,_⟩:=p
  exact Uj J79 I.kIn ⟨o,h1,h2.1⟩ e (λ z=>nomatch z) h
 | @dT a kvs ea=>
  cases (show u=Qw a from rx)
  obtain ⟨_,_,xs,_,o,es,ep,h1,h2,_⟩:=(show Zs X.prog X.w H s.heap a (.dT kvs) from I.hok a _ ea)
  exact Uj J79 I.kIn ⟨o,h1,h2.1⟩ e (λ z=>nomatch z) h
 | @ins a C dx fs ea cl ha hn htk hm=>
  cases (show u=Qw a from rx)
  obtain ⟨mA,O,_⟩:=Jf3 I.hok ea
  obtain ⟨od,J,_⟩:=O.look
  exact Uj (PySem.W.kitx_own (cl.get _) cl.hd ha hn htk hm) I.kIn J e (λ z=>nomatch z) h
end
structure Room (k:Nat) (A:Yaq):Prop where
 hd:A.handled=none
 dp:A.depth+3*k+5<recursionLimit
 un:A.units+16*k+200<cLine
 gd:A.guards=some []
theorem Room.mono {j k:Nat}{A:Yaq}(r:Room k A) (h:j<=k):Room j A:=⟨r.hd,by have:=r.dp;omega,by have:=r.un;omega,r.gd⟩
theorem Room.deeper {k:Nat}{A:Yaq}(r:Room (k+1) A) (env:Env):Room k (A.deeper env):=
 ⟨r.hd,by have:=r.dp;show A.depth+1+3*k+5<_;omega,by have:=r.un;show A.units+3+16*k+200<_;omega,r.gd⟩
theorem Jm6 {A:Yaq}{C:Addr}{us:List Yak}{kw:List (Str×Yak)}:(A.under (.builtin "type.__call__" ⟨.ref C::us,kw⟩)).depth=A.depth+1:=by
 first | rfl | simp [J47,Code.weight,Code.isCreation,Code.isGuard,Code.isCaller,Code.frames,Code.isFrame,guardIds]
theorem Jm7 {A:Yaq}{C:Addr}{us:List Yak}{kw:List (Str×Yak)}:(A.under (.builtin "type.__call__" ⟨.ref C::us,kw⟩)).units=A.units+1:=by
 first | rfl | simp [J47,Code.cUnits,Code.frames,Code.isFrame]
theorem Room.make {k:Nat}{A:Yaq}(r:Room (k+1) A) (C:Addr) (us:List Yak) (kw:List (Str×Yak)):Room k (A.under (.builtin "type.__call__" ⟨.ref C::us,kw⟩)):=
 ⟨r.hd,by have:=r.dp;rw [Jm6];omega,by have:=r.un;rw [Jm7];omega,by first | exact r.gd | (simpa [J47,Code.guards,pushGuards,Code.isGuard,guardIds] using r.gd)⟩
theorem Room.depth {k:Nat}{A:Yaq}(r:Room k A):A.depth<recursionLimit:=by have:=r.dp;omega
theorem Room.units {k:Nat}{A:Yaq}(r:Room k A):A.units+64<cLine:=by have:=r.un;omega
def Ja2:TA:=λ _ H Q=>Q [] H
def Yo (ta:TE) (tr:TA):TA:=λ σ H Q=>ta σ H λ x H1=>tr σ H1 λ xs H2=>Q (x::xs) H2
section
variable {X:Cx}{e:Expr}{es:List Expr}{te:TE}{t:TA}{pos:Pos}
theorem Jc:PA X [] Ja2:=λ _ _ _ _ H Q I h=>J6h ⟨[],H,I,.nil,h⟩
theorem Vi (ha:PE X e te) (hr:PA X es t) (hs:starEach (e::es) X.env=(false,eval e X.env)::starEach es X.env:=by rfl):PA X (e::es) (Yo te t):=by
 intro pos pins s σ H Q I h
 rw [hs]
 show Yan _ _ (spliced ((false,eval e X.env)::backTo pos (starEach es X.env))) _ _ s
 refine J6i (thn (ha pins s σ H _ I h) λ u s1 ⟨x,H1,I1,r1,q1⟩=>?_)
 exact thn (hr pos pins s1 σ H1 _ I1 q1) λ us s2 ⟨xs,H2,I2,r2,q2⟩=>⟨x::xs,H2,I2,.cons r1 r2,q2⟩
def Jva (t:TA):TE:=λ σ H Q=>t σ H λ xs H1=>xs.length<=sizeLine/\∀ p,H1 p=none->Q (.ref p) (upd H1 p (.tup xs))
def Jyl (t:TA):TE:=λ σ H Q=>t σ H λ xs H1=>xs.length<=sizeLine/\∀ p,H1 p=none->Q (.ref p) (upd H1 p (.lst xs))
theorem Jym {x1} (h:PA X es t):PE X (.Tuple es x1 pos) (Jva t):=by
 intro pins s σ H Q I hq
 refine wpAny_Tuple_spliced (thn (h pos pins s σ H _ I hq) λ us s1 ⟨xs,H1,I1,r,z,q⟩=>⟨by rw [<- r.length];exact z,?_⟩)
 have hf:H1 s1.heap.objs.size=none:=I1.hok.fresh (Ql _)
 refine ⟨.ref s1.heap.objs.size,upd H1 s1.heap.objs.size (.tup xs),I1.laid (t':=s1.toks) (λ b u e=>Qt _ e) (Ql _) ?_,rfl,q _ hf⟩
 exact ⟨z,us,r,⟨_,Xa _ rfl,rfl,_,rfl⟩⟩
theorem Jyn (h:PA X es t):PE X (.List es pos) (Jyl t):=by
 intro pins s σ H Q I hq
 refine wpAny_List_spliced (thn (h pos pins s σ H _ I hq) λ us s1 ⟨xs,H1,I1,r,z,q⟩=>⟨by rw [<- r.length];exact z,?_⟩)
 have hf:H1 s1.heap.objs.size=none:=I1.hok.fresh (Ql _)
 refine ⟨.ref s1.heap.objs.size,upd H1 s1.heap.objs.size (.lst xs),I1.laid (t':=s1.toks) (λ b u e=>Qt _ e) (Ql _) ?_,rfl,q _ hf⟩
 exact ⟨z,us,0,r,Xa _ rfl⟩
end
abbrev Sp:=List V->Hp->VK->XK->Prop
abbrev CXT:=List Env->Hp->Yam->XK->Yak->Yam->Prop
structure Env0 (P:Yap) (w:Yao) (K:Qb) (mg:Str->Option Yak) (base:Heap) (A:Yaq) (outer:List Env) (s:Yam) (H:Hp):Prop where
 frames:A.frames=some outer
 mod:Mod K mg base
 bs:∀ b o,base.get? b=some o->s.heap.get? b=some o/\H b=none
 bsz:base.objs.size<=s.heap.objs.size
 funs:s.heap.FunFrames base outer
 frf:∀ b∈frs outer,H b=none
 hok:HOk P w H s.heap
 bare:Ya2 s.gens
def CE (outer:List Env) (P:Yap) (w:Yao) (H:Hp) (s:Yam) (Q:VK) (u:Yak) (s':Yam):Prop:=
 ∃ v H',s'.os=s.os/\Ya2 s'.gens/\Un (frs outer) [] H H' s.heap s'.heap/\HOk P w H' s'.heap/\Yy v u/\Q v H'
def CR (CX:CXT) (outer:List Env) (P:Yap) (w:Yao) (H:Hp) (s:Yam) (Q:VK) (E:XK) (r:Ya6) (s':Yam):Prop:=
 match r with
 | .ok (.ret u)=>CE outer P w H s Q u s'
 | .ok _=>False
 | .error e=>CX outer H s E e s'
structure FnOk (P:Yap) (w:Yao) (K:Qb) (mg:Str->Option Yak) (base:Heap) (CX:CXT) (k:Nat) (f:Addr) (fd:Yaw) (ps:List Str) (sp:Sp):Prop where
 len:∀ vs H Q E,sp vs H Q E->vs.length=ps.length
 run:∀ (A:Yaq) (outer:List Env) (s:Yam) (H:Hp) (args:Args) (us:List Yak) (vs:List V) (Q:VK) (E:XK),Room k A->Env0 P w K mg base A outer s H->Ybf s fd args (ps.zip us)->J4 vs us->sp vs H Q E ->
  Yay (model P w) A (.call (.ref f) args) (CR CX outer P w H s Q E) s
theorem FnOk.imp {P:Yap}{w:Yao}{K:Qb}{mg:Str->Option Yak}{base:Heap}{CX:CXT}{k:Nat}{f:Addr}{fd:Yaw}{ps:List Str}{sp sp':Sp}(F:FnOk P w K mg base CX k f fd ps sp)
 (h:∀ vs H Q E,sp' vs H Q E->sp vs H Q E):FnOk P w K mg base CX k f fd ps sp':=
 ⟨λ vs H Q E q=>F.len vs H Q E (h _ _ _ _ q),λ A outer s H args us vs Q E hr he hb hv hs=>F.run A outer s H args us vs Q E hr he hb hv (h _ _ _ _ hs)⟩
theorem Env0.make {P:Yap}{w:Yao}{K:Qb}{mg:Str->Option Yak}{base:Heap}{A:Yaq}{outer:List Env}{s:Yam}{H:Hp}(e:Env0 P w K mg base A outer s H) (C:Addr) (us:List Yak) (kw:List (Str×Yak)) :
 Env0 P w K mg base (A.under (.builtin "type.__call__" ⟨.ref C::us,kw⟩)) outer s H:=⟨by first | exact e.frames | (simpa [J47,Code.envs,Code.isFrame,pushEnvs] using e.frames),e.mod,e.bs,e.bsz,e.funs,e.frf,e.hok,e.bare⟩
section
variable {X:Cx}{pins:List (Addr×Obj)}{σ:St}{H:Hp}{s s':Yam}
theorem Inv.env0 (I:Inv X pins σ H s):Env0 X.prog X.w X.K X.mg X.base X.A X.stack s H:=
 ⟨I.ok.frames,I.ok.mod,I.bs,Xj I.ok.bsz I.sz,I.stack,I.stkFree,I.hok,I.bare⟩
theorem Inv.after {Q:VK}{u:Yak}(I:Inv X pins σ H s) (h:CE X.stack X.prog X.w H s Q u s'):EP X pins σ Q u s':=by
 obtain ⟨v,H',os,bare,un,hok,r,q⟩:=h
 obtain ⟨hh,g,d,t,os'⟩:=s'
 obtain rfl:os'=s.os:=os
 exact ⟨v,H',I.call (h':=hh) (g':=g) (d':=d) (t':=t) (ch:=[]) un hok bare (λ b z=>absurd z (by simp)),r,q⟩
end
def Jdm (sp:Sp) (dvs:List V) (E:XK) (t:TA):TE:=λ σ H Q=>t σ H λ vs H1=>sp (vs++dvs) H1 Q E
def Jfi (C:Addr) (m:Str) (sp:Sp) (dvs:List V) (E:XK) (ta:TE) (t:TA):TE:=λ σ H Q=>ta σ H λ x H1=>∃ a dx fs,x = .ref a/\H1 a=some (.ins C dx fs)/\fs.lookup m=none /\
 t σ H1 λ vs H2=>sp (x::(vs++dvs)) H2 Q E
def Jxa (C:Addr) (sp:Sp) (dvs:List V) (E:XK) (t:TA):TE:=λ σ H Q=>t σ H λ vs H1=>∀ x dx,H1 x=none->H1 dx=none->dx≠x ->
 sp (.ref x::(vs++dvs)) (upd (upd H1 dx (.own x)) x (.ins C dx [])) (λ v H2=>v = .non/\Q (.ref x) H2) E
def Vb (K:Qb) (fd:Yaw) (ps:List Str) (ds:List Yak):Prop:=
 ∀ (s:Yam) (us:List Yak),K.In s.heap->(us++ds).length=ps.length->Ybf s fd ⟨us,[]⟩ (ps.zip (us++ds))
theorem Vb.all {K:Qb}{fd:Yaw}{ps:List Str}(h:∀ us:List Yak,us.length=ps.length->Ybg fd ⟨us,[]⟩=pure (ps.zip us)):Vb K fd ps []:=λ s us _ hl=>by
 rw [Ur] at hl ⊢
 exact .of_eq (h us hl)
def Jaf (CX:CXT) (X:Cx) (E:XK):Prop:=∀ (pins:List (Addr×Obj)) (σ:St) (H:Hp) (s:Yam) (e:Yak) (s':Yam),Inv X pins σ H s->CX X.stack H s E e s'->X.xe e s'
section
variable {X:Cx}{CX:CXT}{k:Nat}{f C:Addr}{fd:Yaw}{ps:List Str}{sp:Sp}{dvs:List V}{ds:List Yak}{E:XK}{x m:Str}{p pos apos:Pos}{e o:Expr}{es:List Expr}{ta:TE}{t:TA}
theorem Jm8 {pins:List (Addr×Obj)}{σ:St}{H:Hp}{s:Yam}{Q:VK}{us:List Yak}{vs:List V}(F:FnOk X.prog X.w X.K X.mg X.base CX k f fd ps sp) (hr:Room k X.A) (hb:Vb X.K fd ps ds) (hd:J4 dvs ds) (hx:Jaf CX X E)
 (I:Inv X pins σ H s) (r:J4 vs us) (h:sp (vs++dvs) H Q E):Yan (model X.prog X.w) X.A (call (.ref f) us) (EP X pins σ Q) X.xe s:=by
 have r2:J4 (vs++dvs) (us++ds):=r.append hd
 have hl:(us++ds).length=ps.length:=by rw [<- r2.length];exact F.len _ _ _ _ h
 refine wpAny_call (codeAny_mono (F.run X.A X.stack s H ⟨us,[]⟩ (us++ds) (vs++dvs) Q E hr I.env0 (hb s us I.kIn hl) r2 h) λ r s' hq=>?_)
 cases r with
 | error e=>exact hx pins σ H s e s' I hq
 | ok fl=>
  cases fl with
  | ret u=>exact I.after hq
  | next=>exact Xx hq
  | brk=>exact Xx hq
  | cont=>exact Xx hq
theorem Jou (F:FnOk X.prog X.w X.K X.mg X.base CX k f fd ps sp) (hr:Room k X.A) (hg:Gl X x) (hm:X.mg x=some (.ref f)) (hk:Uf X.K (.ref f)=true) (hb:Vb X.K fd ps ds) (hd:J4 dvs ds) (hx:Jaf CX X E)
 (ha:PA X (e::es) t) (hdb:(x==("__debug__":Str))=false:=by decide) (he:starEach (e::es) X.env=(false,eval e X.env)::starEach es X.env:=by rfl) (hpl:(backTo pos (starEach es X.env)).any (·.1)=false:=by rfl) :
 PE X (.Call (.Name x p) (e::es) [] pos) (Jdm sp dvs E t):=by
 intro pins s σ H Q I h
 refine Ya7 (Jcj I hg hm ?_ hdb)
 refine J48 (h₀:=X.base) I.ok.mod.kin hk (thn (ha pos pins s σ H _ I h) λ us s1 ⟨vs,H1,I1,r,q⟩=>⟨I1.kIn,?_⟩) he hpl
 exact Jm8 F hr hb hd hx I1 r q
theorem Jvb {pl:Sem Bool}(he:PE X o ta) (c:Cls X.K C) (hm:Meth X.K C m f) (F:FnOk X.prog X.w X.K X.mg X.base CX k f fd ps sp) (hr:Room k X.A) (hb:Vb X.K fd ps ds) (hd:J4 dvs ds) (hx:Jaf CX X E) (ha:PA X (e::es) t)
 (hst:starEach (e::es) X.env=(false,eval e X.env)::starEach es X.env:=by rfl) (hpl:(backTo pos (starEach es X.env)).any (·.1)=false:=by rfl)
 (ht:eval (.Call (.Attribute o m apos) (e::es) [] pos) X.env=(do
  let ov <- eval o X.env
  Yaz apos.atName
  let (f,first) <- holding [ov] (getMethod ov m pl)
  callWith pos f first (backTo pos (starEach (e::es) X.env)) (backToKw pos (keywordEach [] X.env))):=by rfl) :
 PE X (.Call (.Attribute o m apos) (e::es) [] pos) (Jfi C m sp dvs E ta t):=by
 intro pins s σ H Q I h
 refine J8a (pl:=pl) (thn (he pins s σ H _ I h) λ u s1 ⟨x,H1,I1,rx,a,dx,fs,ex,ea,l,q⟩=>?_) ht
 subst ex
 obtain rfl:u=Qw a:=rx
 refine Jgn I1 ea c hm l ?_
 refine J48 (first:=[.ref a]) (h₀:=X.base) I.ok.mod.kin hm.kp (thn (ha pos pins s1 σ H1 _ I1 q) λ us s2 ⟨vs,H2,I2,r,q2⟩=>⟨I2.kIn,?_⟩) hst hpl
 exact Jm8 (us:=.ref a::us) (vs:=.ref a::vs) F hr hb hd hx I2 (.cons rfl r) q2
theorem Jr3 {pl:Sem Bool}(he:PE X o ta) (c:Cls X.K C) (hm:Meth X.K C m f) (F:FnOk X.prog X.w X.K X.mg X.base CX k f fd ps sp) (hr:Room k X.A) (hb:Vb X.K fd ps ds) (hd:J4 dvs ds) (hx:Jaf CX X E)
 (ht:eval (.Call (.Attribute o m apos) [] [] pos) X.env=(do
  let ov <- eval o X.env
  Yaz apos.atName
  let (f,first) <- holding [ov] (getMethod ov m pl)
  callWith pos f first (backTo pos (starEach [] X.env)) (backToKw pos (keywordEach [] X.env))):=by rfl) :
 PE X (.Call (.Attribute o m apos) [] [] pos) (Jfi C m sp dvs E ta Ja2):=by
 intro pins s σ H Q I h
 refine J8a (pl:=pl) (thn (he pins s σ H _ I h) λ u s1 ⟨x,H1,I1,rx,a,dx,fs,ex,ea,l,q⟩=>?_) ht
 subst ex
 obtain rfl:u=Qw a:=rx
 refine Jgn I1 ea c hm l ?_
 exact PySem.W.callWith_K0 (first:=[.ref a]) I1.kIn hm.kp (Jm8 (us:=[.ref a]) (vs:=[.ref a]) F hr hb hd hx I1 (.cons rfl .nil) q)
structure Mk (K:Qb) (C f:Addr):Prop where
 makes:J6c K C=true
 init:Xr K (.ref C) "__init__" = some (some (.ref f))
 fn:J4e K (.ref f)=true
 kp:Uf K (.ref C)=true
theorem Jr4 {pins:List (Addr×Obj)}{σ:St}{H:Hp}{s:Yam}{Q:VK}{us:List Yak}{vs:List V}(M:Mk X.K C f) (F:FnOk X.prog X.w X.K X.mg X.base CX k f fd ps sp) (hr:Room (k+1) X.A) (hb:Vb X.K fd ps ds) (hd:J4 dvs ds)
 (hx:Jaf CX X E) (I:Inv X pins σ H s) (r:J4 vs us)
 (h:∀ x dx,H x=none->H dx=none->dx≠x->sp (.ref x::(vs++dvs)) (upd (upd H dx (.own x)) x (.ins C dx [])) (λ v H2=>v = .non/\Q (.ref x) H2) E) :
 Yan (model X.prog X.w) X.A (call (.ref C) us) (EP X pins σ Q) X.xe s:=by
 have hq:=h (s.heap.objs.size+1) s.heap.objs.size (I.hok.fresh (J6j _)) (I.hok.fresh (Ql _)) (Xg (J6e _))
 have I2:=Inv.made (C:=C) I
 have r2:J4 (V.ref (s.heap.objs.size+1)::(vs++dvs)) (Qw (s.heap.objs.size+1)::(us++ds)):=.cons rfl (r.append hd)
 have hl:(Qw (s.heap.objs.size+1)::us++ds).length=ps.length:=by
  have e:=r2.length
  rw [F.len _ _ _ _ hq] at e
  exact e.symm
 refine wpAny_call (Jr2 (f:=f) I.kIn M.makes M.init (beq_iff_eq.mp M.fn) (codeAny_mono (F.run _ X.stack _ _ ⟨Qw (s.heap.objs.size+1)::us,[]⟩ (Qw (s.heap.objs.size+1)::(us++ds)) _ _ E (hr.make C us [])
  (I2.env0.make C us []) (hb _ (Qw (s.heap.objs.size+1)::us) I2.kIn hl) r2 hq) λ r s' hq'=>?_))
 cases r with
 | error e=>exact hx pins σ _ _ e s' I2 hq'
 | ok fl=>
  cases fl with
  | ret u=>
   obtain ⟨v,H',I3,rv,ev,q3⟩:=I2.after hq'
   subst ev
   exact ⟨rv,⟨V.ref (s.heap.objs.size+1),H',I3,rfl,q3⟩⟩
  | next=>exact Xx hq'
  | brk=>exact Xx hq'
  | cont=>exact Xx hq'
theorem Jvc (M:Mk X.K C f) (F:FnOk X.prog X.w X.K X.mg X.base CX k f fd ps sp) (hr:Room (k+1) X.A) (hg:Gl X x) (hm:X.mg x=some (.ref C)) (hb:Vb X.K fd ps ds) (hd:J4 dvs ds) (hx:Jaf CX X E)
 (ha:PA X (e::es) t) (hdb:(x==("__debug__":Str))=false:=by decide) (he:starEach (e::es) X.env=(false,eval e X.env)::starEach es X.env:=by rfl) (hpl:(backTo pos (starEach es X.env)).any (·.1)=false:=by rfl) :
 PE X (.Call (.Name x p) (e::es) [] pos) (Jxa C sp dvs E t):=by
 intro pins s σ H Q I h
 refine Ya7 (Jcj I hg hm ?_ hdb)
 refine J48 (h₀:=X.base) I.ok.mod.kin M.kp (thn (ha pos pins s σ H _ I h) λ us s1 ⟨vs,H1,I1,r,q⟩=>⟨I1.kIn,?_⟩) he hpl
 exact Jr4 M F hr hb hd hx I1 r q
end
section
variable {X:Cx}{CX:CXT}{k:Nat}{f C:Addr}{fd:Yaw}{ps ks:List Str}{sp:Sp}{E:XK}{x m:Str}{p pos apos kpos:Pos}{e o:Expr}{es:List Expr}{kws:List Ybh}{te ta:TE}{t tk:TA}{nm:Option Str}
variable {g:List Yak->List Yak->List Yak}{gV:List V->List V->List V}
end
structure FnScope (N P:List Str) (sc:Yat):Prop where
 kind:sc.kind = .function
 co:sc.isCoroutine=false
 gen:sc.isGenerator=false
 nd:N.Nodup
 pre:N.take P.length=P
 par:∀ x∈P,sc.names.lookup x=some .local \/ sc.names.lookup x=some .cell
 nofree:∀ y∈sc.names,y.2≠.free
theorem Jiq {kindOf:Str->Option Yav}{x:Str}:∀ {binds:List (Str×Yak)}{m:Str->Option Yak},(∀ v,(x,v)∉binds)->bindL kindOf binds m x=m x
 | [],_,_=>rfl
 | (n,v)::r,m,h=>by
  unfold bindL
  rw [Jiq λ w hw=>h w (Qj _ hw)]
  split
  . have:x≠n:=by rintro rfl;exact h v Qk
    simp [this]
  . rfl
theorem Jir {kindOf:Str->Option Yav}{x:Str}:∀ {binds:List (Str×Yak)}{m:Str->Option Yak},(∀ v,(x,v)∉binds)->bindC kindOf binds m x=m x
 | [],_,_=>rfl
 | (n,v)::r,m,h=>by
  unfold bindC
  rw [Jir λ w hw=>h w (Qj _ hw)]
  split
  . rfl
  . have:x≠n:=by rintro rfl;exact h v Qk
    simp [this]
theorem Jis {kindOf:Str->Option Yav}{x:Str}{v:Yak}:∀ {P:List Str}{vs:List Yak}{i:Nat}{m:Str->Option Yak},P.Nodup->P[i]? = some x->vs[i]? = some v->kindOf x=some .local ->
 bindL kindOf (P.zip vs) m x=some v
 | [],_,_,_,_,h,_,_=>by simp at h
 | _::_,[],_,_,_,_,h,_=>by simp at h
 | p::P,w::vs,0,m,nd,h1,h2,hk=>by
  simp at h1 h2;subst h1;subst h2
  show bindL kindOf ((p,w)::P.zip vs) m p=_
  unfold bindL
  rw [Jiq λ v hv=>(Xs.mp nd).1 (J3n hv).1,if_pos hk]
  simp
 | p::P,w::vs,i+1,m,nd,h1,h2,hk=>by
  show bindL kindOf ((p,w)::P.zip vs) m x=_
  unfold bindL
  exact Jis (i:=i) (Xs.mp nd).2 (by simpa using h1) (by simpa using h2) hk
theorem Jit {kindOf:Str->Option Yav}{x:Str}{v:Yak}:∀ {P:List Str}{vs:List Yak}{i:Nat}{m:Str->Option Yak},P.Nodup->P[i]? = some x->vs[i]? = some v->kindOf x≠some .local ->
 bindC kindOf (P.zip vs) m x=some v
 | [],_,_,_,_,h,_,_=>by simp at h
 | _::_,[],_,_,_,_,h,_=>by simp at h
 | p::P,w::vs,0,m,nd,h1,h2,hk=>by
  simp at h1 h2;subst h1;subst h2
  show bindC kindOf ((p,w)::P.zip vs) m p=_
  unfold bindC
  rw [Jir λ v hv=>(Xs.mp nd).1 (J3n hv).1,if_neg hk]
  simp
 | p::P,w::vs,i+1,m,nd,h1,h2,hk=>by
  show bindC kindOf ((p,w)::P.zip vs) m x=_
  unfold bindC
  exact Jit (i:=i) (Xs.mp nd).2 (by simpa using h1) (by simpa using h2) hk
noncomputable def start (N:List Str) (vs:List V):St:=vs.map some++Qo (N.length-vs.length) none
noncomputable def By (CX:CXT) (P:Yap) (w:Yao) (K:Qb) (mg:Str->Option Yak) (base:Heap) (N:List Str) (qual:Str) (scope:Yat) (f:Addr) (cd:Yak) (A:Yaq) (outer:List Env) (s:Yam) (H:Hp) (E:XK):Cx where
 prog:=P
 w:=w
 K:=K
 mg:=mg
 base:=base
 A:=A.deeper (envOfC qual scope s.heap.objs.size f cd)
 N:=N
 s₀:=s
 H₀:=H
 env:=envOfC qual scope s.heap.objs.size f cd
 outer:=outer
 stack:=envOfC qual scope s.heap.objs.size f cd::outer
 ex:=[]
 calm:=true
 fn:=λ _=>true
 pn:=[]
 xe:=λ e s'=>Yan (model P w) (A.deeper (envOfC qual scope s.heap.objs.size f cd)) (leaving (envOfC qual scope s.heap.objs.size f cd) e) (λ _ s''=>CX outer H s E e s'') (λ e' s''=>CX outer H s E e' s'') s'
theorem Jk8 {sc:Yat}{n:Nat}{x:Str}(h:sc.names.lookup x=some .cell):∃ c,(cellsFrom n sc.names []).lookup x=some c:=by
 have q:=J8b sc.names n [] (.inl h)
 exact J49.mp q
theorem Jqb {CX:CXT}{P:Yap}{w:Yao}{K:Qb}{mg:Str->Option Yak}{base:Heap}{N ps:List Str}{qual:Str}{scope:Yat}{f:Addr}{cd:Yak}{A:Yaq}{outer:List Env}{s s1:Yam}{H:Hp}{E:XK}{us:List Yak}{vs:List V}
 (S:FnScope N ps scope) (hd:A.handled=none) (e0:Env0 P w K mg base A outer s H) (hl:vs.length=ps.length) (r:J4 vs us)
 (x:InCallC s s.heap.objs.size (bindL (envOfC qual scope s.heap.objs.size f cd).kindOf (ps.zip us) λ _=>none) (cellsFrom (s.heap.objs.size+1) scope.names []) (bindC (envOfC qual scope s.heap.objs.size f cd).kindOf (ps.zip us) λ _=>none) s1) :
 Inv (By CX P w K mg base N qual scope f cd A outer s H E) [] (start N vs) H s1:=by
 have hpl:ps.length<=N.length:=by have:=congrArg List.length S.pre;rw [J5a] at this;omega
 obtain ⟨h1,tk,rfl,hk⟩:=x.done
 have noA:∀ b:Addr,b∉(By CX P w K mg base N qual scope f cd A outer s H E).ex:=λ b z=>absurd (show b∈([]:List Addr) from z) (by simp)
 refine ⟨⟨e0.mod,S.kind,rfl,rfl,Ql _,λ y z c h1 h2=>?_,λ y hy=>?_,λ y c _ h=>?_,λ _=>hd,Around.frames_deeper e0.frames,.inr ⟨rfl,rfl⟩,λ b z=>absurd z (noA b),e0.bs,e0.bsz,λ b _ _=>noA b,λ b z=>absurd z (noA b),e0.funs,e0.frf⟩,
  rfl,e0.bare,Un.kept hk,⟨_,x.toInCall.ns,λ i y v h1 h2 h3=>?_⟩,λ y c h=>⟨_,x.cell y c h⟩,e0.hok.fresh (Ql _),λ y c h=>?_,λ p hp=>absurd (show p∈([]:List (Addr×Obj)) from hp) (by simp),e0.hok.kept hk,?_⟩
 . exact name_of_addr x.apart (X1 h1) (X1 h2)
 . have hy:scope.names.lookup y=some .cell\/scope.names.lookup y=some .free:=hy
   rcases hy with hy | hy
   . exact Jk8 hy
   . exact absurd rfl (S.nofree _ (X1 hy))
 . exact Ue (x.above y c (X1 h))
 . have hi:i<vs.length:=by
    unfold start at h2
    by_cases hi:i<vs.length
    . exact hi
    . rw [J3o (by simpa using hi)] at h2
      rw [J3p] at h2
      split at h2<;>cases h2
   have ha:vs[i]? = some v:=by
    unfold start at h2
    rw [J3a (by simpa using hi),Qm] at h2
    cases e:vs[i]? with
    | none=>rw [e] at h2;cases h2
    | some a=>rw [e] at h2;cases h2;rfl
   obtain ⟨u,hu,rv⟩:=r.get ha
   have hp:ps[i]? = some y:=by
    rw [<- S.pre,List.getElem?_take_of_lt (by omega)];exact h1
   have ndP:ps.Nodup:=by rw [<- S.pre];exact S.nd.sublist (List.take_sublist _ _)
   refine ⟨u,rv,?_⟩
   rcases S.par y (Xm hp) with k | k
   . exact .inl ⟨k,Jis ndP hp hu k⟩
   . obtain ⟨c,e⟩:=Jk8 (n:=s.heap.objs.size+1) k
     refine .inr ⟨.inl k,c,e,?_⟩
     have q:=x.cell y c e
     rw [Jit ndP hp hu (by show scope.names.lookup y≠_;rw [k];decide)] at q
     exact q
 . exact e0.hok.fresh (Ue (x.above y c (X1 h)))
 . unfold start
   show _=N.length
   rw [Xn,Qc,X2]
   omega
theorem Jr5 {CX:CXT}{P:Yap}{w:Yao}{K:Qb}{mg:Str->Option Yak}{base:Heap}{k:Nat}{f:Addr}{name qual:Str}{params:Arguments}{body:List Stmt}{scope:Yat}{dV kV doc pm cdv ct oc:Yak}{an od:Option Addr}
 {osl:Array (Option Yak)} {N ps:List Str} {sp:Sp} (lk:K.lookup f=some ⟨oc,od,.func (Xy name qual params body scope dV kV doc pm an cdv ct),osl⟩) (hcd:J3b K cdv qual=true) (S:FnScope N ps scope)
 (len:∀ vs H Q E,sp vs H Q E->vs.length=ps.length)
 (hbody:∀ (A:Yaq) (outer:List Env) (s:Yam) (H:Hp) (vs:List V) (Q:VK) (E:XK),Room k (A.deeper (envOfC qual scope s.heap.objs.size f cdv))->sp vs H Q E ->
  ∃ t,PSs (By CX P w K mg base N qual scope f cdv A outer s H E) body t/\t { nx:=λ _ H'=>Q .non H',rt:=Q } (start N vs) H) :
 FnOk P w K mg base CX (k+1) f (Xy name qual params body scope dV kV doc pm an cdv ct) ps sp:=by
 refine ⟨len,λ A outer s H args us vs Q E hr e0 hb r hsp=>?_⟩
 have hl:=len _ _ _ _ hsp
 have KX:K.In s.heap:=e0.mod.kin.keeps λ b o e=>(e0.bs b o e).1
 have lim:s.heap.NoLimit:=e0.mod.nolimit.keeps λ b o e=>(e0.bs b o e).1
 have hkind:∀ y∈ps.zip us,scope.names.lookup y.1=some .local \/ (scope.names.lookup y.1=some .cell/\((cellsFrom (s.heap.objs.size+1) scope.names []).lookup y.1).isSome=true):=λ ⟨n,v⟩ hy=>by
  rcases S.par n (J3n hy).1 with q | q
  . exact .inl q
  . exact .inr ⟨q,J8b _ _ _ (.inl q)⟩
 refine codeAny_call_function hr.depth (KX _ _ lk) rfl S.co S.gen rfl (PySem.W.codeRec_of KX hcd) (hb _ _ _ _ ?_)
 refine wpAny_newFunctionEnv_cells S.kind hkind λ env he s1 x=>?_
 subst he
 refine ⟨lim.keeps x.toInCall.keep,codeAny_func ?_⟩
 obtain ⟨t,ht,hq⟩:=hbody A outer s H vs Q E (hr.deeper _) hsp
 have I:Inv (By CX P w K mg base N qual scope f cdv A outer s H E) [] (start N vs) H s1:=Jqb S hr.hd e0 hl r x
 refine wpAny_mono (ht [] s1 (start N vs) H _ I hq) (λ fl s' hs=>?_) λ e s' hs=>hs
 have fin:∀ {σ':St} {H':Hp} {v:V} {u:Yak},Inv (By CX P w K mg base N qual scope f cdv A outer s H E) [] σ' H' s'->Yy v u->Q v H'->CE outer P w H s Q u s':=
  λ {σ' H' v u} J rv q=>⟨v,H',J.os,J.bare,J.base,J.hok,rv,q⟩
 cases fl with
 | ret u=>
  obtain ⟨v,σ',H',J,rv,q⟩:=hs
  exact fin J rv q
 | next=>
  obtain ⟨σ',H',J,q⟩:=hs
  exact fin (v:=V.non) (u:=Up) J rfl q
 | brk=>
  obtain ⟨_,_,_,q⟩:=hs
  exact Xx q
 | cont=>
  obtain ⟨_,_,_,q⟩:=hs
  exact Xx q
section
variable {X:Cx}{x:Str}{p pos:Pos}{e:Expr}{es:List Expr}{t:TA}{id T:String}{r:List V->Hp->VK->Prop}
def tCB (r:List V->Hp->VK->Prop) (t:TA):TE:=λ σ H Q=>t σ H λ vs H1=>r vs H1 Q
theorem Jx (hc:V1 X (.builtin id) r) (hg:Gl X x) (hm:X.mg x=none) (hv:Ybb x=some (.builtin id)) (ha:PA X (e::es) t) (hn:x≠"__name__":=by decide) (hdb:(x==("__debug__":Str))=false:=by decide)
 (he:starEach (e::es) X.env=(false,eval e X.env)::starEach es X.env:=by rfl) (hpl:(backTo pos (starEach es X.env)).any (·.1)=false:=by rfl):PE X (.Call (.Name x p) (e::es) [] pos) (tCB r t):=by
 intro pins s σ H Q I h
 refine Ya7 (Jad I hg hm hv ?_ hn hdb)
 exact PyProof.Rows.callWith_builtin1 (thn (ha pos pins s σ H _ I h) λ us s1 ⟨vs,H1,I1,r1,q1⟩=>hc pins s1 σ H1 vs us Q I1 r1 q1) he hpl
theorem J5 (hc:V1 X (.type T) r) (hg:Gl X x) (hm:X.mg x=none) (hv:Ybb x=some (.type T)) (ha:PA X (e::es) t) (hn:x≠"__name__":=by decide) (hdb:(x==("__debug__":Str))=false:=by decide)
 (he:starEach (e::es) X.env=(false,eval e X.env)::starEach es X.env:=by rfl) (hpl:(backTo pos (starEach es X.env)).any (·.1)=false:=by rfl):PE X (.Call (.Name x p) (e::es) [] pos) (tCB r t):=by
 intro pins s σ H Q I h
 refine Ya7 (Jad I hg hm hv ?_ hn hdb)
 exact J29 (thn (ha pos pins s σ H _ I h) λ us s1 ⟨vs,H1,I1,r1,q1⟩=>hc pins s1 σ H1 vs us Q I1 r1 q1) he hpl
end
end L2
namespace HT
open PySem PyProof.Rows
section
open PySem.SeqAt
open PySem.AutoSeq1 (wpAny_loadPart')
open PySem.MeetsSeq PySem.MeetsSeq2 PySem.MeetsSeq3
end
section
variable {prog:Yap}{w:Yao}{A:Yaq}{E:Yak->Yam->Prop}{s:Yam}
noncomputable def sIx (n d:Nat):Option Int->Nat
 | none=>d
 | some v=>if v<0 then (v+(n:Int)).toNat else min v.toNat n
theorem sIx_none (n d:Nat):sIx n d none=d:=rfl
theorem sIx_nat (n d k:Nat):sIx n d (some (k:Int))=min k n:=by grind [HT.sIx]
end
end HT
namespace L2
abbrev TO:=St->Hp->(Option Int->Hp->Prop)->Prop
def PO (X:Cx) (e:Option Expr) (t:TO):Prop:=
 ∀ (pins:List (Addr×Obj)) (s:Yam) (σ:St) (H:Hp) (Q:Option Int->Hp->Prop),Inv X pins σ H s->t σ H Q ->
  Yan (model X.prog X.w) X.A (evalPart e X.env) (λ u s'=>∃ o H',Inv X pins σ H' s'/\IsPart u o/\Q o H') X.xe s
def Jov:TO:=λ _ H Q=>Q none H
def Jxb (t:TE):TO:=λ σ H Q=>t σ H λ x H1=>∃ i,x = .int i/\Q (some i) H1
theorem Jm9 {ns:List Int}:∀ {us:List Yak},J4 (ns.map V.int) us->Ybi us ns:=by
 induction ns with
 | nil=>intro us r;rw [J30] at r;cases r;exact .nil
 | cons n ns ih=>
  intro us r
  rw [Xb] at r
  cases r with
  | cons r1 r2=>
   obtain ⟨t,e⟩:=r1
   subst e
   exact .cons n t (ih r2)
section
variable {X:Cx}{e:Expr}{te:TE}{lo hi:Option Expr}{tl th:TO}{pos p2:Pos}
theorem B2:PO X none Jov:=by
 intro pins s σ H Q I h
 rw [evalPart_none]
 exact wpAny_pure ⟨none,H,I,.none,h⟩
theorem B3 (h:PE X e te):PO X (some e) (Jxb te):=by
 intro pins s σ H Q I hw
 rw [evalPart_some]
 refine thn (h pins s σ H _ I hw) λ u s1 ⟨x,H1,I1,r1,q1⟩=>?_
 obtain ⟨i,rfl,q⟩:=q1
 obtain ⟨t,rfl⟩:=r1
 exact ⟨some i,H1,I1,.int i t,q⟩
def SlR (X:Cx) (r:V->Option Int->Option Int->Hp->VK->Prop):Prop:=
 ∀ (pins:List (Addr×Obj)) (s:Yam) (σ:St) (H:Hp) (x:V) (v vl vu:Yak) (lo hi:Option Int) (sl:Addr) (Q:VK),Inv X pins σ H s->Yy x v->s.heap.IsSliceOf sl vl vu .none->IsPart vl lo->IsPart vu hi->r x lo hi H Q ->
  ∃ T id,typeLookup (.type T) "__getitem__" = pure (some (.builtin id))/\s.TypeIs v T/\Yan (model X.prog X.w) X.A (getItem v (.ref sl)) (EP X pins σ Q) X.xe s
def tSl (r:V->Option Int->Option Int->Hp->VK->Prop) (te:TE) (tl th:TO):TE:=λ σ H Q=>te σ H λ x H1=>tl σ H1 λ l H2=>th σ H2 λ u H3=>r x l u H3 Q
theorem V2 {r:V->Option Int->Option Int->Hp->VK->Prop}(hr:SlR X r) (he:PE X e te) (hl:PO X lo tl) (hu:PO X hi th):PE X (.Subscript e (.Slice lo hi none p2) pos) (tSl r te tl th):=by
 intro pins s σ H Q I h
 refine Subscript_ (thn (he pins s σ H _ I h) λ v s1 ⟨x,H1,I1,r1,q1⟩=>?_)
 refine wpAny_Slice (thn (hl pins s1 σ H1 _ I1 q1) λ vl s2 ⟨l,H2,I2,pl,q2⟩=>thn (hu pins s2 σ H2 _ I2 q2) λ vu s3 ⟨u,H3,I3,pu,q3⟩=>?_)
 rw [evalPart_none]
 refine wpAny_pure ?_
 have I4:Inv X pins σ H3 { s3 with heap:=s3.heap.push { cls:=.type "slice",data:=.fields #[vl,vu,.none] } }:=I3.kept (t':=s3.toks) λ b ob q=>Qt _ q
 obtain ⟨T,id,hT,ht,hg⟩:=hr pins { s3 with heap:=s3.heap.push { cls:=.type "slice",data:=.fields #[vl,vu,.none] } } σ H3 x v vl vu l u s3.heap.objs.size Q I4 r1 (Yac ..) pl pu q3
 show Yan (model X.prog X.w) X.A (subscriptTail e (.Slice lo hi none p2) v (.ref s3.heap.objs.size)) (EP X pins σ Q) X.xe { s3 with heap:=s3.heap.push { cls:=.type "slice",data:=.fields #[vl,vu,.none] } }
 exact tail_any (ops:=[.ref s3.heap.objs.size,v]) ht hT hg (by with_unfolding_all rfl)
noncomputable def Jk9 (xs:List V) (lo hi:Option Int):List V:=(xs.drop (HT.sIx xs.length 0 lo)).take (HT.sIx xs.length xs.length hi-HT.sIx xs.length 0 lo)
theorem Jfj (xs:List V) (lo hi:Option Int):(Jk9 xs lo hi).length<=xs.length:=by grind [Jk9]
end
noncomputable def ixN (n:Nat) (i:Int):Option Nat:=if 0<=i then (if i<n then some i.toNat else none) else if -(n:Int)<=i then some (i+n).toNat else none
noncomputable def atI {α:Type}(xs:List α) (i:Int):Option α:=(ixN xs.length i).bind λ j=>xs[j]?
theorem Jow {n:Nat}{i:Int}{j:Nat}(h:ixN n i=some j):seqIndex? i n=some j/\j<n/\-(n:Int)<=i/\i<n:=by
 unfold ixN at h
 by_cases h0:0<=i
 . rw [if_pos h0] at h
   by_cases h1:i<n
   . rw [if_pos h1] at h
     have e:i.toNat=j:=Xp h
     exact ⟨by rw [seqIndex_of h0 h1,e],by omega,by omega,h1⟩
   . rw [if_neg h1] at h;cases h
 . rw [if_neg h0] at h
   by_cases h1:-(n:Int)<=i
   . rw [if_pos h1] at h
     have e:(i+n).toNat=j:=Xp h
     exact ⟨by rw [Ybv (by omega) h1,e],by omega,h1,by omega⟩
   . rw [if_neg h1] at h;cases h
theorem Jox {α:Type}{xs:List α}{i:Int}{v:α}(h:atI xs i=some v):∃ j,seqIndex? i xs.length=some j/\xs[j]? = some v/\j<xs.length/\-(xs.length:Int)<=i/\i<xs.length:=by grind [Jow,atI,ixN]
theorem Joy {α:Type}{xs:List α}{j:Nat}{v:α}(h:xs[j]? = some v):atI xs (j:Int)=some v:=by grind [atI,ixN]
def Jvd (b:Expr):Prop:=∀ o i,subscripted b false o i=operate [o,i] (getItem o i)
def IxR (X:Cx) (r:R2):Prop:=
 ∀ (value slice:Expr) (pins:List (Addr×Obj)) (s:Yam) (σ:St) (H:Hp) (x y:V) (v u:Yak) (Q:VK),Inv X pins σ H s->Yy x v->Yy y u->r x y H Q ->
  subscripted slice false v u=operate [v,u] (getItem v u)->Yan (model X.prog X.w) X.A (subscriptTail value slice v u) (EP X pins σ Q) X.xe s
def MtR (X:Cx) (id:String) (r:V->List V->Hp->VK->Prop):Prop:=
 ∀ (pins:List (Addr×Obj)) (s:Yam) (σ:St) (H:Hp) (x:V) (xs:List V) (v:Yak) (us:List Yak) (Q:VK),Inv X pins σ H s->Yy x v->J4 xs us->r x xs H Q ->
  Yan (model X.prog X.w) X.A (call (.builtin id) (v::us)) (EP X pins σ Q) X.xe s
section
variable {X:Cx}{a b:Expr}{ta tb:TE}{pos:Pos}
theorem Jp {r:R2}(hr:IxR X r) (ha:PE X a ta) (hb:PE X b tb) (hs:Jvd b):PE X (.Subscript a b pos) (tOp r ta tb):=by
 intro pins s σ H Q I h
 exact Subscript_ (Jyg ha hb I h λ v u s2 x y H2 I2 rx ry q=>hr a b pins s2 σ H2 x y v u Q I2 rx ry q (hs _ _))
def Jla (K:Qb):R2:=λ x y H Q=>∃ p xs i v,x = .ref p/\y = .int i/\SqL K H p xs/\atI xs i=some v/\Q v H
def Jyo (K:Qb):R2:=λ x y H Q=>∃ p xs i v,x = .ref p/\y = .int i/\SqT K H p xs/\atI xs i=some v/\Q v H
theorem Js:IxR X (Jla X.K):=by
 intro value slice pins s σ H x y v u Q I rx ry h hs
 obtain ⟨p,xs,i,z,rfl,rfl,hq,he,q⟩:=h
 cases rx
 obtain ⟨t,rfl⟩:=ry
 obtain ⟨its,r,pl,hz⟩:=I.list hq
 obtain ⟨j,h1,h2,h3,h4,h5⟩:=Jox he
 obtain ⟨w,ew,rw'⟩:=r.get h2
 have hl:=r.length
 have hn:=Jgm
 have fin:EP X pins σ Q w s:=⟨z,H,I,rw',q⟩
 by_cases h0:0<=i
 . have hj:i.toNat=j:=by
    rw [seqIndex_of h0 h5] at h1
    exact Xp h1
   exact item_listR pl.isList h0 (by omega) (by rw [hj];simpa using ew) fin hs
 . have hj:(i+(its.toArray.size:Int)).toNat=j:=by
    rw [Ybv (by omega) h4] at h1
    rw [Q2,<- hl]
    exact Xp h1
   exact Ybw (x:=w) pl.isList.typeIs slot_list_getitem.lookup
    (wpAny_getItem_list_neg (Q:=λ r s'=>r=w/\EP X pins σ Q r s') pl.isList (by omega) (by rw [Q2]<;>omega) (by omega) (by rw [hj];simpa using ew) ⟨rfl,fin⟩) hs
theorem Yg:IxR X (Jyo X.K):=by
 intro value slice pins s σ H x y v u Q I rx ry h hs
 obtain ⟨p,xs,i,z,rfl,rfl,hq,he,q⟩:=h
 cases rx
 obtain ⟨t,rfl⟩:=ry
 obtain ⟨its,r,pl,hz⟩:=I.tuple hq
 obtain ⟨j,h1,h2,h3,h4,h5⟩:=Jox he
 obtain ⟨w,ew,rw'⟩:=r.get h2
 have hl:=r.length
 have hn:=Jgm
 have fin:EP X pins σ Q w s:=⟨z,H,I,rw',q⟩
 exact Ybw (x:=w) pl.typeIs slot_tuple_getitem.lookup
  (getItem_tuple (j:=j) (Q:=λ r s'=>r=w/\EP X pins σ Q r s') pl (by omega) (by omega) (by rw [Q2,<- hl];exact h1) (by simpa using ew) ⟨rfl,fin⟩) hs
theorem Jna (its:List Yak) (n j:Nat) (u:Yak):J4g (·.setIfInBounds j u) { cls:=.type "list",data:=.seq its.toArray n } = { cls:=.type "list",data:=.seq (its.set j u).toArray n }:=by
 simp [J4g]
theorem Inv.lst {pins:List (Addr×Obj)}{σ:St}{H:Hp}{s:Yam}{p:Addr}{xs:List V}(I:Inv X pins σ H s) (h:H p=some (.lst xs)) :
 ∃ (its:List Yak) (n:Nat),J4 xs its/\s.heap.get? p=some { cls:=.type "list",data:=.seq its.toArray n }/\xs.length<=sizeLine:=by
 obtain ⟨z,its,n,r,e⟩:=I.hok p _ h
 exact ⟨its,n,r,e,z⟩
theorem Inv.lstUpd {pins:List (Addr×Obj)}{σ:St}{H:Hp}{s:Yam}{p:Addr}{xs ys:List V}{its its':List Yak}{n n':Nat}{f:Obj->Obj}(I:Inv X pins σ H s) (h:H p=some (.lst xs))
 (ho:s.heap.get? p=some { cls:=.type "list",data:=.seq its.toArray n }) (hf:f { cls:=.type "list",data:=.seq its.toArray n } = { cls:=.type "list",data:=.seq its'.toArray n' }) (r:J4 ys its') (hz:ys.length<=sizeLine) (t:Nat) :
 Inv X pins σ (upd H p (.lst ys)) { s with heap:=s.heap.update p f,toks:=t }:=by
 have e:(s.heap.update p f).get? p=some { cls:=.type "list",data:=.seq its'.toArray n' }:=by
  rw [J5b f ho (by rw [hf]<;>rfl),hf]
 refine I.write (x:=p) (e:=p) (by rw [h];trivial) (.inl rfl) (λ b u hb q=>(U4 _ _ (Qh hb)).trans q) ⟨_,e⟩ ?_
 exact ⟨hz,its',n',r,e⟩
def Jgo:V->V->V->Hp->(Hp->Prop)->Prop:=λ o i v H Q=>∃ p xs k j,o = .ref p/\i = .int k/\H p=some (.lst xs)/\ixN xs.length k=some j/\Q (upd H p (.lst (xs.set j v)))
theorem Yv:J0h X Jgo:=by
 intro pins s σ H o i v ov iv u Q I ro ri rv h
 obtain ⟨p,xs,k,j,rfl,rfl,hp,hj,q⟩:=h
 cases ro
 obtain ⟨t,rfl⟩:=ri
 obtain ⟨its,n,r,ho,hz⟩:=I.lst hp
 obtain ⟨h1,h2,h3,h4⟩:=Jow hj
 have hl:=r.length
 have hn:=Jgm
 have I':Inv X pins σ (upd H p (.lst (xs.set j v))) { s with heap:=s.heap.update p (J4g (·.setIfInBounds j u)) }:=
  I.lstUpd hp ho (Jna its n j u) (r.set rv j) (by rw [Qp];exact hz) s.toks
 by_cases h0:0<=k
 . have hk:k.toNat=j:=by
    rw [seqIndex_of h0 h4] at h1
    exact Xp h1
   exact PySem.W.ki_setAt ho h0 (by omega) (by rw [Q2,<- hl];exact h4) (by rw [hk];exact ⟨_,I',q⟩)
 . have hk:(k+(its.toArray.size:Int)).toNat=j:=by
    rw [Ybv (by omega) h3] at h1
    rw [Q2,<- hl]
    exact Xp h1
   exact PySem.W.ki_setBack ho (by omega) (by rw [Q2,<- hl];exact h3) (by omega) (by rw [hk];exact ⟨_,I',q⟩)
theorem Jjl (lo hi:Option Int) (n:Nat):(sliceBounds lo hi none n).1=((HT.sIx n 0 lo:Nat):Int)/\(sliceBounds lo hi none n).2.1=((HT.sIx n n hi:Nat):Int)/\(sliceBounds lo hi none n).2.2=1:=by
 refine ⟨?_,?_,rfl⟩
 . cases lo with
   | none=>simp [sliceBounds,HT.sIx]
   | some i=>
    simp only [sliceBounds,HT.sIx,Option.getD_none,show (1:Int)>0 by decide,if_true]
    by_cases h:i<0
    . simp only [h,if_true]<;>omega
    . simp only [h,if_false]<;>omega
 . cases hi with
   | none=>simp [sliceBounds,HT.sIx]
   | some i=>
    simp only [sliceBounds,HT.sIx,Option.getD_none,show (1:Int)>0 by decide,if_true]
    by_cases h:i<0
    . simp only [h,if_true]<;>omega
    . simp only [h,if_false]<;>omega
theorem Jic (its:List Yak) (lo hi:Option Int):slicePick its.toArray lo hi none=((its.drop (HT.sIx its.length 0 lo)).take (HT.sIx its.length its.length hi-HT.sIx its.length 0 lo)).toArray:=by
 obtain ⟨h1,h2,h3⟩:=Jjl lo hi its.toArray.size
 unfold slicePick
 rw [h1,h2,h3]
 simp only [sliceRange_one,pick_run,Q2]<;>rfl
def J0n (K:Qb):V->Option Int->Option Int->Hp->VK->Prop:=λ x lo hi H Q=>∃ a xs,x = .ref a/\SqL K H a xs/\∀ p,H p=none->Q (.ref p) (upd H p (.lst (Jk9 xs lo hi)))
theorem B4:SlR X (J0n X.K):=by
 intro pins s σ H x v vl vu lo hi sl Q I rx hs pl pu h
 obtain ⟨a,xs,rfl,hx,q⟩:=h
 cases rx
 obtain ⟨its,r,ht,hz⟩:=I.list hx
 have hlen:=r.length
 refine ⟨"list",_,slot_list_getitem.lookup,ht.isList.typeIs,?_⟩
 refine wpAny_getItem_list_slice ht.isList hs pl pu .none (by simp) ?_ (by rw [Q2]<;>omega)
 rw [Jic,<- hlen]
 refine ⟨.ref s.heap.objs.size,_,I.laid (t':=s.toks) (o:=.lst (Jk9 xs lo hi)) (λ b ob q=>Qt _ q) (Ql _) ?_,rfl,q _ (I.hok.fresh (Ql _))⟩
 exact ⟨Xj (Jfj xs lo hi) hz,_,0,(r.drop (HT.sIx xs.length 0 lo)).take (HT.sIx xs.length xs.length hi-HT.sIx xs.length 0 lo),Xa _ rfl⟩
noncomputable def Jcw:V->Bool
 | .non=>true
 | .bl _=>true
 | .int _=>true
 | .str _=>true
 | _=>false
noncomputable def eqV:V->V->Bool
 | .non,.non=>true
 | .bl a,.bl b=>a==b
 | .bl a,.int b=>(if a then 1 else 0)==b
 | .int a,.bl b=>a==(if b then 1 else 0)
 | .int a,.int b=>a==b
 | .str a,.str b=>a==b
 | _,_=>false
theorem Jyp {A:Yaq}{s:Yam}{y x:V}{u v:Yak}(ry:Yy y u) (rx:Yy x v) (fy:Jcw y=true) (fx:Jcw x=true):SeqAt.EqAt A s u v (eqV y x):=by
 cases y with
 | non=>
  cases ry
  cases x with
  | non=>cases rx;exact SeqAt.EqAt.same _
  | bl b=>cases rx;exact SeqAt.EqAt.none_bool b
  | int b=>obtain ⟨t,rfl⟩:=rx;exact SeqAt.EqAt.none_int b t
  | str b=>obtain ⟨t,rfl⟩:=rx;exact SeqAt.EqAt.none_str b t
  | _=>exact absurd (show false=true from fx) Q4
 | bl a=>
  cases ry
  cases x with
  | non=>cases rx;exact SeqAt.EqAt.bool_none a
  | bl b=>cases rx;exact SeqAt.EqAt.bool_bool a b
  | int b=>obtain ⟨t,rfl⟩:=rx;exact SeqAt.EqAt.bool_int a b t
  | str b=>obtain ⟨t,rfl⟩:=rx;exact SeqAt.EqAt.bool_str a b t
  | _=>exact absurd (show false=true from fx) Q4
 | int a=>
  obtain ⟨t',rfl⟩:=ry
  cases x with
  | non=>cases rx;exact SeqAt.EqAt.int_none a t'
  | bl b=>cases rx;exact SeqAt.EqAt.int_bool a t' b
  | int b=>obtain ⟨t,rfl⟩:=rx;exact SeqAt.EqAt.int_int a t' b t
  | str b=>obtain ⟨t,rfl⟩:=rx;exact J7v a t' b t
  | _=>exact absurd (show false=true from fx) Q4
 | str a=>
  obtain ⟨t',rfl⟩:=ry
  cases x with
  | non=>cases rx;exact SeqAt.EqAt.str_none a t'
  | bl b=>cases rx;exact SeqAt.EqAt.str_bool a t' b
  | int b=>obtain ⟨t,rfl⟩:=rx;exact J7w a t' b t
  | str b=>obtain ⟨t,rfl⟩:=rx;exact SeqAt.EqAt.str_str a t' b t
  | _=>exact absurd (show false=true from fx) Q4
 | _=>exact absurd (show false=true from fy) Q4
noncomputable def eqU (x:V) (u:Yak):Bool:=match u with
 | .none=>eqV .non x
 | .bool b=>eqV (.bl b) x
 | .int i _=>eqV (.int i) x
 | .str z _=>eqV (.str z) x
 | _=>false
theorem Jr6 {x y:V}{u:Yak}(r:Yy y u) (f:Jcw y=true):eqU x u=eqV y x:=by
 cases y with
 | non=>cases r;rfl
 | bl b=>cases r;rfl
 | int i=>obtain ⟨t,rfl⟩:=r;rfl
 | str z=>obtain ⟨t,rfl⟩:=r;rfl
 | _=>exact absurd (show false=true from f) Q4
theorem Jdn {x:V}:∀ {xs:List V}{us:List Yak},J4 xs us->xs.all Jcw=true->us.any (eqU x)=xs.any λ y=>eqV y x
 | _,_,.nil,_=>rfl
 | y::xs,u::us,.cons r t,f=>by
  rw [J4h,X3] at f
  rw [J4i,J4i,Jr6 r f.1,Jdn t f.2]
theorem Jbr {A:Yaq}{s:Yam}{x:V}{v:Yak}(rx:Yy x v) (fx:Jcw x=true):∀ {xs:List V}{us:List Yak},J4 xs us->xs.all Jcw=true->∀ u∈us,SeqAt.EqAt A s u v (eqU x u)
 | _,_,.nil,_=>λ u hu=>by cases hu
 | y::xs,u::us,.cons r t,f=>λ u' hu=>by
  rw [J4h,X3] at f
  rcases Qd.mp hu with rfl | hu
  . rw [Jr6 r f.1];exact Jyp r rx f.1 fx
  . exact Jbr rx fx t f.2 u' hu
noncomputable def inV (x:V) (xs:List V):Bool:=xs.any λ y=>eqV y x
def rIn (K:Qb) (neg:Bool):R2:=λ x y H Q=>∃ p xs,y = .ref p/\(SqL K H p xs\/SqT K H p xs)/\Jcw x=true/\xs.all Jcw=true/\Q (.bl (if neg then !inV x xs else inV x xs)) H
theorem Jiu:OpR X (compareOp .In) (rIn X.K false):=by
 intro pins s σ H x y v u Q I rx ry h
 obtain ⟨p,xs,rfl,hq,fx,fs,q⟩:=h
 cases ry
 rcases hq with hq | hq
 . obtain ⟨its,r,pl,hz⟩:=I.list hq
   refine SeqAt.in_listAt (eqU x) pl.isList (λ w hw=>Jbr rx fx r fs w (by simpa using hw)) ⟨.bl _,H,I,rfl,?_⟩
   rw [show its.toArray.any (eqU x)=its.any (eqU x) by simp,Jdn r fs]
   exact q
 . obtain ⟨its,r,pl,hz⟩:=I.tuple hq
   refine SeqAt.in_tupleAt (eqU x) pl (λ w hw=>Jbr rx fx r fs w (by simpa using hw)) ⟨.bl _,H,I,rfl,?_⟩
   rw [show its.toArray.any (eqU x)=its.any (eqU x) by simp,Jdn r fs]
   exact q
theorem Jjm:OpR X (compareOp .NotIn) (rIn X.K true):=by
 intro pins s σ H x y v u Q I rx ry h
 obtain ⟨p,xs,rfl,hq,fx,fs,q⟩:=h
 cases ry
 rcases hq with hq | hq
 . obtain ⟨its,r,pl,hz⟩:=I.list hq
   refine SeqAt.notIn_listAt (eqU x) pl.isList (λ w hw=>Jbr rx fx r fs w (by simpa using hw)) ⟨.bl _,H,I,rfl,?_⟩
   rw [show its.toArray.any (eqU x)=its.any (eqU x) by simp,Jdn r fs]
   exact q
 . obtain ⟨its,r,pl,hz⟩:=I.tuple hq
   refine SeqAt.notIn_tupleAt (eqU x) pl (λ w hw=>Jbr rx fx r fs w (by simpa using hw)) ⟨.bl _,H,I,rfl,?_⟩
   rw [show its.toArray.any (eqU x)=its.any (eqU x) by simp,Jdn r fs]
   exact q
theorem J7:V1 X (.builtin "len") (λ xs H Q=>∃ p ys,xs=[.ref p]/\(SqL X.K H p ys\/SqT X.K H p ys)/\Q (.int ys.length) H):=by
 intro pins s σ H xs us Q I r h
 obtain ⟨p,ys,rfl,hq,q⟩:=h
 obtain ⟨u,rfl,rx⟩:=Jbq r
 cases rx
 have hn:=Jgm
 rcases hq with hq | hq
 . obtain ⟨its,r',pl,hz⟩:=I.list hq
   have hlen:=r'.length
   exact Calls.call_len_list pl.isList (by simp only [Q2]<;>omega) ⟨.int ys.length,H,I.tok _,⟨s.toks+1,by rw [Q2,hlen]⟩,q⟩
 . obtain ⟨its,r',pl,hz⟩:=I.tuple hq
   have hlen:=r'.length
   exact len_tuple pl (by simp only [Q2]<;>omega) ⟨.int ys.length,H,I.tok _,⟨s.toks+1,by rw [Q2,hlen]⟩,q⟩
theorem Wu:V1 X (.type "list") (λ xs H Q=>∃ p ys,xs=[.ref p]/\(SqL X.K H p ys\/SqT X.K H p ys)/\∀ l,H l=none->Q (.ref l) (upd H l (.lst ys))):=by
 intro pins s σ H xs us Q I r h
 obtain ⟨p,ys,rfl,hq,q⟩:=h
 obtain ⟨u,rfl,rx⟩:=Jbq r
 cases rx
 have fin:∀ (its:List Yak),J4 ys its->ys.length<=sizeLine->∀ (h':Heap) (c':Nat),(∀ b o',s.heap.get? b=some o'->h'.get? b=some o') ->
  h'.get? s.heap.objs.size=some { cls:=.type "list",dict:=none,data:=.seq its.toArray c',slots:=#[] }->EP X pins σ Q (.ref s.heap.objs.size) { s with heap:=h' }:=λ its r' hz h' c' kp e=>
  ⟨.ref s.heap.objs.size,_,I.laid (t':=s.toks) kp (Ql _) (show Zs X.prog X.w _ h' _ (.lst ys) from ⟨hz,its,c',r',e⟩),rfl,q _ (I.hok.fresh (Ql _))⟩
 rcases hq with hq | hq
 . obtain ⟨its,r',pl,hz⟩:=I.list hq
   have hlen:=r'.length
   obtain ⟨o,ho,hc,n,hd⟩:=pl.isList
   exact call_list_seq p (.inl rfl) ho hc hd (λ h' c' kp e=>fin its r' hz h' c' kp e) (by simp only [Q2]<;>omega)
 . obtain ⟨its,r',pl,hz⟩:=I.tuple hq
   have hlen:=r'.length
   obtain ⟨o,ho,hc,n,hd⟩:=pl
   exact call_list_seq p (.inr rfl) ho hc hd (λ h' c' kp e=>fin its r' hz h' c' kp e) (by simp only [Q2]<;>omega)
theorem Ye:V1 X (.type "tuple") (λ xs H Q=>∃ p ys,xs=[.ref p]/\((SqL X.K H p ys/\∀ l,H l=none->Q (.ref l) (upd H l (.tup ys)))\/(SqT X.K H p ys/\Q (.ref p) H))):=by
 intro pins s σ H xs us Q I r h
 obtain ⟨p,ys,rfl,h⟩:=h
 obtain ⟨u,rfl,rx⟩:=Jbq r
 cases rx
 rcases h with ⟨hq,q⟩ | ⟨hq,q⟩
 . obtain ⟨its,r',pl,hz⟩:=I.list hq
   have hlen:=r'.length
   refine call_tuple_list pl.isList (λ h' kp=>?_) (by simp only [Q2]<;>omega)
   have I1:Inv X pins σ H { s with heap:=h' }:=I.kept (t':=s.toks) kp
   have I2:Inv X pins σ (upd H h'.objs.size (.tup ys)) { s with heap:=h'.push { cls:=.type "tuple",data:=.seq its.toArray } }:=
    I1.laid (t':=s.toks) (λ b o e=>Qt _ e) (Ql _) (show Zs X.prog X.w _ _ _ (.tup ys) from ⟨hz,its,r',IsTup.new _ _⟩)
   exact ⟨.ref h'.objs.size,_,I2,rfl,q _ (I1.hok.fresh (Ql _))⟩
 . obtain ⟨its,r',pl,hz⟩:=I.tuple hq
   exact call_tuple_same pl ⟨.ref p,H,I,rfl,q⟩
def tyV (K:Qb) (T:String) (x:V) (H:Hp):Prop:=match x with
 | .str _=>T = "str"
 | .int _=>T = "int"
 | .ref p=>(T = "list"/\∃ xs,SqL K H p xs)\/(T = "tuple"/\∃ o,K.lookup p=some o/\o.cls = .type "tuple"/\o.dict=none) \/
  (T = "dict"/\((∃ kvs,H p=some (.dK kvs))\/∃ kvs,H p=some (.dT kvs)))\/(T = "set"/\∃ S n,H p=some (.set S n))
 | _=>False
theorem Jyq {pins:List (Addr×Obj)}{σ:St}{H:Hp}{s:Yam}{T:String}{x:V}{v:Yak}(I:Inv X pins σ H s) (r:Yy x v) (ty:tyV X.K T x H) :
 s.TypeIs v T/\∀ a,v = .ref a->∃ ob,s.heap.get? a=some ob/\ob.dict=none:=by
 cases x with
 | str z=>
  obtain ⟨t,rfl⟩:=r
  cases (show T = "str" from ty)
  exact ⟨typeIs_str s z t,λ _ e=>nomatch e⟩
 | int i=>
  obtain ⟨t,rfl⟩:=r
  cases (show T = "int" from ty)
  exact ⟨typeIs_int s i t,λ _ e=>nomatch e⟩
 | ref p=>
  cases r
  rcases ty with ⟨rfl,xs,hq⟩ | ⟨rfl,o,hk,hc,hd⟩ | ⟨rfl,hk⟩ | ⟨rfl,S,n,hk⟩
  . obtain ⟨its,_,pl,_⟩:=I.list hq
    refine ⟨pl.isList.typeIs,λ a e=>?_⟩
    cases e
    obtain ⟨o,n,e,c,hd,_⟩:=pl
    exact ⟨o,e,hd⟩
  . refine ⟨⟨o,I.kIn p o hk,hc⟩,λ a e=>?_⟩
    cases e
    exact ⟨o,I.kIn _ o hk,hd⟩
  . have z:∃ o,s.heap.get? p=some o/\o.ExactDict:=by
     rcases hk with ⟨kvs,hk⟩ | ⟨kvs,hk⟩
     . obtain ⟨_,_,_,_,o,_,_,e,ex,_⟩:=I.hok p _ hk
       exact ⟨o,e,ex⟩
     . obtain ⟨_,_,_,_,o,_,_,e,ex,_⟩:=I.hok p _ hk
       exact ⟨o,e,ex⟩
    obtain ⟨o,e,ex⟩:=z
    refine ⟨⟨o,e,ex.1⟩,λ a e2=>?_⟩
    cases e2
    exact ⟨o,e,ex.2.1⟩
  . obtain ⟨o,_,_,_,e,ex,_⟩:=I.hok p _ hk
    refine ⟨⟨o,e,ex.1⟩,λ a e2=>?_⟩
    cases e2
    exact ⟨o,e,ex.2.1⟩
 | _=>exact Xx ty
def tBM (K:Qb) (T:String) (r:V->List V->Hp->VK->Prop) (to:TE) (t:TA):TE:=λ σ H Q=>to σ H λ x H1=>tyV K T x H1/\t σ H1 λ xs H2=>r x xs H2 Q
variable {o e:Expr}{es:List Expr}{to:TE}{t:TA}{name:Str}{apos cpos:Pos}{T id:String}{r:V->List V->Hp->VK->Prop}
theorem Jfk (pa:PlainAttrs T) (slot:Slot T name id) (hty:typeOf (.builtin id)=pure (.type "method_descriptor")) (hm:MtR X id r) (ho:PE X o to) (ha:PA X (e::es) t)
 (hbase:Ybo o name X.env (eval o X.env)=eval o X.env:=by rfl)
 (hfew:((backTo cpos (starEach (e::es) X.env)).all (λ x=>!x.1)&&(backToKw cpos (keywordEach [] X.env)).all (λ x=>x.1.isSome)
  && decide ((e::es).length+([]:List Ybh).length+(if ([]:List Ybh).isEmpty then 0 else 1)<30))=true:=by rfl)
 (hline:(apos.endLine==cpos.line)=true:=by rfl) (hs:starEach (e::es) X.env=(false,eval e X.env)::starEach es X.env:=by rfl) (hplain:(backTo cpos (starEach es X.env)).any (·.1)=false:=by rfl) :
 PE X (.Call (.Attribute o name apos) (e::es) [] cpos) (tBM X.K T r to t):=by
 intro pins s σ H Q I h
 refine wpAny_Call_method_late hbase hfew hline rfl (thn (ho pins s σ H _ I h) λ v s1 ⟨x,H1,I1,r1,ty,q1⟩=>?_)
 obtain ⟨h1,h2⟩:=Jyq I1 r1 ty
 refine ⟨T,id,pa,slot,hty,h1,h2,?_⟩
 have hA:=ha cpos pins s1 σ H1 _ I1 q1
 rw [hs] at hA ⊢
 refine Calls.callWith_builtin (by show (false||(backTo cpos (starEach es X.env)).any (·.1))=false;rw [hplain]<;>rfl) (J8c ?_)
 exact thn hA λ us s2 ⟨vs,H2,I2,r2,q2⟩=>hm pins s2 σ H2 x vs v us Q I2 r1 r2 q2
end
def MtM (X:Cx) (id:String) (r:V->List V->Hp->VK->Prop):Prop:=
 ∀ (pins:List (Addr×Obj)) (s:Yam) (σ:St) (H:Hp) (x:V) (xs:List V) (v:Yak) (us:List Yak) (Q:VK),Inv X pins σ H s->Yy x v->J4 xs us->r x xs H Q ->
  Yan (model X.prog X.w) X.A (call (.builtin id) (v::us)) (EP X pins σ Q) X.xe s
theorem J4.one:∀ {x:V}{us:List Yak},J4 [x] us->∃ u,us=[u]/\Yy x u
 | _,_,.cons r .nil=>⟨_,rfl,r⟩
theorem J4.rep {xs:List V}{us:List Yak}(h:J4 xs us):∀ k:Nat,J4 (Qo k xs).flatten (Qo k us).flatten
 | 0=>.nil
 | k+1=>by
  rw [J31,J31,J4j,J4j]
  exact J4.append h (J4.rep h k)
theorem Jcm (its:List Yak):∀ (k:Nat) (acc:List Yak),
 J4k (λ x1 x2=>x1++x2) acc.toArray (Qo k its.toArray)=(acc++(Qo k its).flatten).toArray
 | 0,acc=>by simp
 | k+1,acc=>by
  have e:acc.toArray++its.toArray=(acc++its).toArray:=by simp
  have e2:(acc++its)++(Qo k its).flatten=acc++(Qo (k+1) its).flatten:=by
   rw [J31,J4j,List.append_assoc]
  rw [<- e2,<- Jcm its k (acc++its),<- e,J31,List.foldl_cons]
section
variable {X:Cx}{pins:List (Addr×Obj)}{σ:St}{H:Hp}{s:Yam}{l b:Addr}{xs ys zs:List V}
theorem Inv.lset {its its':List Yak}{n:Nat}{f:Array Yak->Array Yak}{t':Nat}(I:Inv X pins σ H s) (hH:H l=some (.lst xs))
 (e:s.heap.get? l=some { cls:=.type "list",data:=.seq its.toArray n }) (hf:f its.toArray=its'.toArray) (hv:J4 ys its') (hz:ys.length<=sizeLine) :
 Inv X pins σ (upd H l (.lst ys)) { s with heap:=s.heap.update l (J4g f),toks:=t' }:=by
 have q:=PySem.IsL.update e f
 rw [hf] at q
 refine I.write (x:=l) (e:=l) (by rw [hH];exact trivial) (.inl rfl) (λ b' u hb hu=>(U4 s.heap (J4g f) (Qh hb)).trans hu) ⟨_,q⟩ ?_
 exact ⟨hz,its',_,hv,q⟩
theorem Inv.lnew {its:List Yak}{t':Nat}(I:Inv X pins σ H s) (hv:J4 ys its) (hz:ys.length<=sizeLine) :
 Inv X pins σ (upd H s.heap.objs.size (.lst ys)) { s with heap:=s.heap.push { cls:=.type "list",data:=.seq its.toArray },toks:=t' }:=
 I.laid (λ _ _ q=>Qt _ q) (Ql _) ⟨hz,its,0,hv,Xa _ rfl⟩
theorem Inv.fresh (I:Inv X pins σ H s):H s.heap.objs.size=none:=I.hok.fresh (Ql _)
theorem Inv.lstM (I:Inv X pins σ H s) (hH:H l=some (.lst xs)):xs.length<=sizeLine/\∃ (its:List Yak) (n:Nat),J4 xs its/\xs.length=its.length/\s.heap.get? l=some { cls:=.type "list",data:=.seq its.toArray n }:=by
 obtain ⟨z,its,n,r,e⟩:=I.hok l _ hH
 exact ⟨z,its,n,r,r.length,e⟩
theorem Jlb {n:Nat}(h:n<=sizeLine):J5c n=false:=by
 unfold J5c
 exact decide_eq_false (by omega)
end
section
variable {X:Cx}
def Joz:V->List V->Hp->VK->Prop:=λ x vs H Q=>∃ l xs y,x = .ref l/\vs=[y]/\H l=some (.lst xs)/\xs.length<sizeLine/\Q .non (upd H l (.lst (xs++[y])))
theorem Bg:MtM X "list.append" Joz:=by
 intro pins s σ H x vs v us Q I rx rv h
 obtain ⟨l,xs,y,rfl,rfl,hH,hz,q⟩:=h
 cases rx
 obtain ⟨u,rfl,ru⟩:=rv.one
 obtain ⟨z,its,n,r,hl,e⟩:=I.lstM hH
 refine call_meets F.slot_list_append ⟨_,e,rfl⟩ F.entry_list_append (F.args_list_append_2 _ _) (PySem.list_append l its.toArray n u (by rw [Q2];omega)) ⟨e,?_⟩
 refine ⟨.non,_,I.lset (its':=its++[u]) hH e (by simp) (r.append (.cons ru .nil)) ?_,rfl,q⟩
 rw [Xn,U0]
 omega
def J0o:R2:=λ x y H Q=>∃ l b xs zs,x = .ref l/\y = .ref b/\H l=some (.lst xs)/\H b=some (.lst zs)/\xs.length+zs.length<=sizeLine/\∀ p,H p=none->Q (.ref p) (upd H p (.lst (xs++zs)))
theorem Jep:OpR X (binaryOp .Add) J0o:=by
 intro pins s σ H x y v u Q I rx ry h
 obtain ⟨l,b,xs,zs,rfl,rfl,hH,hB,hz,q⟩:=h
 cases rx
 cases ry
 obtain ⟨z,its,n,r,hl,e⟩:=I.lstM hH
 obtain ⟨z2,its2,n2,r2,hl2,e2⟩:=I.lstM hB
 refine PySem.P.add_list e e2 ?_ (by rw [Q2,Q2];omega)
 have ea:its.toArray++its2.toArray=(its++its2).toArray:=by simp
 rw [ea]
 exact ⟨.ref _,_,I.lnew (t':=s.toks) (r.append r2) (by rw [Xn];omega),rfl,q _ I.fresh⟩
def J0p:R2:=λ x y H Q=>∃ l k xs,x = .ref l/\y = .int k/\H l=some (.lst xs)/\-(2^63)<=k/\k<2^63/\xs.length*k.toNat<=sizeLine /\
 ∀ p,H p=none->Q (.ref p) (upd H p (.lst (Qo k.toNat xs).flatten))
theorem Jdo {α:Type}(xs:List α) (k:Nat):(Qo k xs).flatten.length=k*xs.length:=by (intros;simp_all)
theorem Jgp:OpR X (binaryOp .Mult) J0p:=by
 intro pins s σ H x y v u Q I rx ry h
 obtain ⟨l,k,xs,rfl,rfl,hH,h1,h2,hz,q⟩:=h
 cases rx
 obtain ⟨t,rfl⟩:=ry
 obtain ⟨z,its,n,r,hl,e⟩:=I.lstM hH
 have hlen:its.toArray.size*k.toNat<=sizeLine:=by rw [Q2,<- hl];exact hz
 have hcap:¬ its.toArray.size*k.toNat>(2^63-1)/8:=by
  have:(sizeLine:Nat)<=(2^63-1)/8:=by decide
  omega
 have hfit:¬ (!Builtin.List.listFitsIndex k)=true:=by
  rw [fitsIndex_both h1 h2]
  exact Q4
 have hlong:¬ J5c (its.toArray.size*k.toNat)=true:=by
  rw [Jlb hlen]
  exact Q4
 have hnew:J4k (λ x1 x2=>x1++x2) #[] (Qo (if its.toArray.isEmpty=true then 0 else k.toNat) its.toArray)=(Qo k.toNat its).flatten.toArray:=by
  have f0:∀ m:Nat,J4k (λ x1 x2=>x1++x2) #[] (Qo m its.toArray)=(Qo m its).flatten.toArray:=λ m=>by
   have:=Jcm its m []
   rw [J4l] at this
   exact this
  rw [f0]
  cases its with
  | nil=>simp
  | cons a r'=>rw [if_neg (by simp)]
 refine Ybx (T:="list") (U:="int") (by decide) ⟨_,e,rfl⟩ (λ s'=>typeIs_int s' k t) noFill_list_mul F.fills_int_mul J8d repeat_list F.slot_int_index.lookup
  (call_meets J8d (typeIs_int s k t) F.entry_int_rmul (F.args_int_rmul_2 _ _) (int___rmul___int_list k t l its.toArray n)
   ⟨e,rfl,⟨_,e,rfl⟩,call_meets F.slot_list_mul ⟨_,e,rfl⟩ F.entry_list_mul (F.args_list_mul_2 _ _) (AutoListH.list___mul___list_int_3 l its.toArray n k t hfit hcap hlong) ⟨e,?_⟩⟩)
 rw [hnew]
 exact ⟨.ref _,_,I.lnew (t':=s.toks) (r.rep k.toNat) (by rw [Jdo,J5d];exact hz),rfl,q _ I.fresh⟩
end
section
variable {prog:Yap}{w:Yao}{A:Yaq}{E:Yak->Yam->Prop}{s:Yam}
end
section
variable {X:Cx}
end
section
variable {κ:Type} [DecidableEq κ]
end
section
variable {P:Yap}{w:Yao}{H:Hp}{h:Heap}{a:Addr}
end
section
variable {X:Cx}{pins:List (Addr×Obj)}{σ:St}{H:Hp}{s:Yam}{a:Addr}{y v:V}{u r:Yak}{o:Option V}{A:Yaq}{E:Yak->Yam->Prop}
end
section
variable {X:Cx}{pins:List (Addr×Obj)}{σ:St}{H:Hp}{s:Yam}{a:Addr}{kvs:List (Key×V)}{k:Key}{u:Yak}{A:Yaq}{E:Yak->Yam->Prop}
end
section
variable {X:Cx}{o i e value:Expr}{pos pos' tpos:Pos}{td ty tv:TE}
end
section
variable {X:Cx}{pos:Pos}
end
section
variable {X:Cx}{pins:List (Addr×Obj)}{σ:St}{H:Hp}{s:Yam}{a:Addr}{y d:V}{u r:Yak}{o:Option V}{A:Yaq}{E:Yak->Yam->Prop}
end
section
variable {X:Cx}{o e f:Expr}{apos cpos:Pos}{td ty tx:TE}
end
section
variable {X:Cx}{pins:List (Addr×Obj)}{σ:St}{H:Hp}{s:Yam}{a:Addr}{kvs:List (Key×V)}{A:Yaq}{E:Yak->Yam->Prop}
end
section
variable {X:Cx}{pins:List (Addr×Obj)}{σ:St}{H:Hp}{s:Yam}{a:Addr}{y:V}{u:Yak}{A:Yaq}{E:Yak->Yam->Prop}
end
end L2
namespace Att
open PySem PySem.W PySem.Calls PyProof.Rows
theorem Jft {P:Params}{h:Heap}:∀ (ns:List Int) (vs:List Yak),WellAll P h vs (ns.map WData.int)->Ybi vs ns:=by
 intro ns
 induction ns with
 | nil=>
  intro vs w
  rw [J30] at w
  cases w
  exact .nil
 | cons n ns ih=>
  intro vs w
  rw [Xb] at w
  cases w with
  | cons a b=>
   cases a
   exact .cons _ _ (ih _ b)
theorem Jqc {l:OpenLaw}{n:Nat}(hn:l.most=some n) {P:Params}{h:Heap}{args:List WData}{vals:List Yak}
 (hpre:l.row.toRowW.claim.pre args=true) (hwl:WellAll P h vals args) :
 ∃ a vs ns,vals=[Qw a]/\args=[WData.list (ns.map WData.int)]/\h.get? a=some { cls:=.type "list",data:=.seq vs.toArray }/\Ybi vs ns/\ns.length<=n:=by
 have hsh:WShape.hasAll [] args [.list .int]=true:=(pre_splitW hpre).1
 have hc:l.pre.holds [] { args:=args }=true:=(pre_splitW hpre).2
 obtain ⟨d,r,rfl,h1,h2⟩:=hasAllW_cons hsh
 obtain rfl:=hasAllW_nil h2
 obtain ⟨xs,rfl,h3⟩:=hasW_list h1
 obtain ⟨ns,rfl⟩:=items_int h3
 have hlen:ns.length<=n:=by
  unfold OpenLaw.pre at hc
  have h4:(WTm.not (.lt (.lit (.int (n:Int))) (.len (.arg 0)))).holds [] { args:=[.list (ns.map .int)] }=true:=by
   have h4:=(holds_andW hc).1
   rw [hn] at h4
   exact h4
  have h5:=condW_of h4 (w_not (w_lt w_lit (w_len_list (w_arg rfl))))
  rw [Qc] at h5
  refine J32 λ q=>?_
  have q':(n:Int)<((ns.length:Nat):Int):=by omega
  first
   | (rw [decide_eq_true q'] at h5;exact absurd h5 (by decide))
   | (simp at h5;omega)
 cases hwl with
 | cons w1 w2=>
  cases w2
  cases w1 with
  | list ho hall=>exact ⟨_,_,ns,rfl,rfl,ho,Jft ns _ hall,hlen⟩
theorem Jqd (l:OpenLaw) (args:List WData):l.row.toRowW.claim.post args (.bool true) args=true:=
 postW_of (r:=l.row.toRowW) (X:=(true==true))
  (show WShape.has [] (.bool true) .bool=true by first | rfl | decide | simp [WShape.has,WShape.arms,WShape.armsAll])
  (show (WTm.eq .res (.lit (.bool true))).value [] { args:=args,res:=some (.bool true),after:=args }=some (.bool (true==true)) from w_eq_bool (w_res rfl) w_lit) rfl
theorem attach_call {l:OpenLaw}{n:Nat}{q:Yap}{loose:List Str}{XP:(Str->Option Yak)->Heap->Prop}{YP:Yao->Heap->Prop}{d:DefRec}
 (hn:l.most=some n) (hdf:d.params.defaults=[])
 (call:∀ (w:Yao) (s₀ s₁:Yam) (mg mb:Str->Option Yak) (fa:Addr) (o:Obj) (pm cd doc:Yak) (a:Addr) (vs:List Yak) (ns:List Int),
  Ground q loose [] XP w s₀ mg mb s₁.heap->YP w s₁.heap ->
  s₁.heap.get? fa=some o->o.data = .func (docDef d.name d.params d.body d.scope pm cd doc)->s₁.heap.CodeRec cd d.name->mg d.name=some (.ref fa) ->
  s₁.heap.get? a=some { cls:=.type "list",data:=.seq vs.toArray }->Ybi vs ns->ns.length<=n->s₁.gens = #[] ->
  Yay (model l.prog w) Ya8 (.call (.ref fa) ⟨[.ref a],[]⟩) (λ r s'=>r = .ok (.ret (.bool true))/\OldK s₁.heap s'.heap/\s'.os=s₁.os/\Ya2 s'.gens) s₁) :
 WalkO q loose XP YP l.row.toRowW d [] (λ f vs=>J6k f vs):=by
 intro w s₀ s₁ mg mb G Y fa o pm cd doc dV kV ho hd hcd hD hmg hg args vals as hpre hlay hrd hwl hlo
 obtain rfl:dV = .none:=Dflts.none hD hdf
 obtain rfl:kV = .none:=Dflts.noKw hD
 obtain ⟨a,vs,ns,rfl,rfl,hobj,hints,hlen⟩:=Jqc hn hpre hwl
 refine enter_call (codeAny_mono (call w s₀ s₁ mg mb fa o pm cd doc a vs ns G Y ho (fd_plain hd) hcd hmg hobj hints hlen hg) λ r s' hq=>?_)
 obtain ⟨rfl,h2,h3,h4⟩:=hq
 exact ⟨.inl ⟨.bool true,.bool true,[],rfl,λ _=>rfl,.bool true,Jqd l _,λ _=>⟨Yad,λ _ hm=>(nomatch hm)⟩⟩,h2,h3,h4⟩
section
variable {prog:Yap}{w:Yao}{A:Yaq}{E:Yak->Yam->Prop}{s:Yam}{K:Frag}
end
end Att
namespace L2
theorem Jiv:∀ {vs:List Yak}{ns:List Int},Ybi vs ns->J4 (ns.map V.int) vs
 | _,_,.nil=>.nil
 | _,_,.cons n t h=>.cons ⟨t,rfl⟩ (Jiv h)
def Jyr (H:Hp):Prop:=∀ b,H b=none\/∃ o xs,H b=some (.frz o (.lst xs))
theorem Jr7 {P:Yap}{w:Yao}{K:Qb}{mg mb:Str->Option Yak}{CX:CXT}{k:Nat}{fa a:Addr}{fd:Yaw}{x:Str}{sp:Sp}{s₁:Yam}{vs:List Yak}{ns:List Int}
 (KX:K.In s₁.heap) (hns:s₁.heap.Ns Yas mg) (hb:s₁.heap.Ns Ybl mb) (hbb:∀ x:Str,x≠"__name__"->mb x=Ybb x) (hlim:s₁.heap.NoLimit) (hg:s₁.gens = #[])
 (ha:s₁.heap.get? a=some { cls:=.type "list",data:=.seq vs.toArray }) (hi:Ybi vs ns) (hl:ns.length<=sizeLine) (hr:Room k Ya8)
 (F:∀ base:Heap,K.In base->base.Ns Yas mg->FnOk P w K mg base CX k fa fd [x] sp) (hbind:∀ (s:Yam) (u:Yak),Ybf s fd ⟨[u],[]⟩ [(x,u)])
 (hsp:∀ H:Hp,Jyr H->SqL K H a (ns.map V.int)->sp [.ref a] H (λ v _=>v = .bl true) λ _ _ _=>False)
 (hCX:∀ H e s',CX [] H s₁ (λ _ _ _=>False) e s'->False) :
 Yay (model P w) Ya8 (.call (.ref fa) ⟨[.ref a],[]⟩) (λ r s'=>r = .ok (.ret (.bool true))/\OldK s₁.heap s'.heap/\s'.os=s₁.os/\Ya2 s'.gens) s₁:=by
 have rv:=Jiv hi
 have lenV:=hi.length
 -- from an abstract heap in which nothing but the script may be tracked
 have core:∀ H:Hp,Jyr H->SqL K H a (ns.map V.int)->HOk P w H s₁.heap->(∀ b,H b≠none->b=a)->(H a≠none->K.lookup a=none) ->
  Yay (model P w) Ya8 (.call (.ref fa) ⟨[.ref a],[]⟩) (λ r s'=>r = .ok (.ret (.bool true))/\OldK s₁.heap s'.heap/\s'.os=s₁.os/\Ya2 s'.gens) s₁:=by
  intro H hO hS hok hA hK
  have base_of:∀ {b:Addr} {o:Obj},s₁.heap.get? b=some o->H b=none->(Jje s₁.heap H).get? b=some o:=λ e n=>Jrk e n
  have noA:∀ {b:Addr} {o:Obj} {es:Array DictEntry} {ep:Nat},s₁.heap.get? b=some o->o.data = .dict es ep->H b=none:=λ {b o es ep} e d=>by
   cases q:H b with
   | none=>rfl
   | some u=>
    have e':b=a:=hA b (by rw [q];simp)
    subst e'
    rw [ha] at e;cases e
    have d':J4m vs.toArray _=Data.dict es ep:=d
    cases d'
  have nsK:∀ {b:Addr} {m:Str->Option Yak},s₁.heap.Ns b m->(Jje s₁.heap H).Ns b m:=λ {b m} ⟨o,es,ep,e,d,r⟩=>⟨o,es,ep,base_of e (noA e d),d,r⟩
  have hKb:K.In (Jje s₁.heap H):=λ b o e=>base_of (KX b o e) (by
   cases q:H b with
   | none=>rfl
   | some u=>
    have e':b=a:=hA b (by rw [q];simp)
    subst e'
    rw [hK (by rw [q];simp)] at e;cases e)
  have hM:Mod K mg (Jje s₁.heap H):=⟨hKb,nsK hns,⟨mb,nsK hb,hbb⟩,let ⟨mc,h1,h2⟩:=hlim;⟨mc,nsK h1,h2⟩⟩
  have e0:Env0 P w K mg (Jje s₁.heap H) Ya8 [] s₁ H:=⟨rfl,hM,λ b o e=>Ju1 e,J6d (Jp3 _ _),trivial,λ b hb=>absurd (show b∈([]:List Addr) from hb) (by simp),hok,.of_eq hg⟩
  refine codeAny_mono ((F _ hKb (nsK hns)).run Ya8 [] s₁ H ⟨[.ref a],[]⟩ [.ref a] [.ref a] _ _ hr e0 (hbind s₁ (.ref a)) (.cons rfl .nil) (hsp H hO hS)) λ r s' h=>?_
  cases r with
  | error e=>exact (hCX H e s' h).elim
  | ok fl=>
   cases fl with
   | next=>exact Xx h
   | brk=>exact Xx h
   | cont=>exact Xx h
   | ret u=>
    obtain ⟨v,H',os,bare,un,hok',r',q⟩:=h
    have q':v = .bl true:=q
    subst q'
    obtain rfl:u=X8 true:=r'
    refine ⟨rfl,OldK.of_keep λ b o e=>?_,os,bare⟩
    cases q:H b with
    | none=>exact un.keep b o e q (by intro z;exact absurd (show b∈([]:List Addr) from z) (by simp)) (by simp)
    | some u=>
     rcases hO b with z | ⟨ob,xs,z⟩
     . rw [q] at z;cases z
     . have z2:=un.frzs b ob _ z
       obtain ⟨e1,_⟩:=hok b _ z
       obtain ⟨e2,_⟩:=hok' b _ z2
       rw [e] at e1;cases e1
       exact e2
 cases hk:K.lookup a with
 | some o=>
  -- the script is one of the module's own objects
  have e:=KX a o hk
  rw [ha] at e
  cases e
  refine core (λ _=>none) (λ _=>.inl rfl) (.inr ⟨_,vs.toArray,_,hk,rfl,rfl,rfl,by rw [Q2,lenV];exact hl,by simpa using rv⟩) (λ b u z=>by have z':(none:Option HO)=some u:=z;cases z') (λ b z=>absurd rfl z) λ z=>absurd rfl z
 | none=>
  refine core (λ b=>if b=a then some (.frz { cls:=.type "list",data:=.seq vs.toArray } (.lst (ns.map V.int))) else none) (λ b=>?_) (.inl (.inr ⟨{ cls:=.type "list",data:=.seq vs.toArray },if_pos rfl⟩)) (λ b u z=>?_) (λ b z=>?_) λ _=>hk
  . by_cases hb:b=a
    . exact .inr ⟨_,_,if_pos hb⟩
    . exact .inl (if_neg hb)
  . by_cases hb:b=a
    . have z':=(if_pos hb).symm.trans z
      cases z'
      subst hb
      exact ⟨ha,by rw [Qc];exact hl,vs,_,rv,ha⟩
    . have z':=(if_neg hb).symm.trans z
      cases z'
  . by_cases hb:b=a
    . exact hb
    . exact absurd (if_neg hb) z
theorem walk_of {l:J6l}{n k:Nat}{q:Yap}{loose:List Str}{XP:(Str->Option Yak)->Heap->Prop}{YP:Yao->Heap->Prop}{d:DefRec}{K:Params->Qb}{CX:Yao->CXT}{sp:Yao->Sp}{x:Str}
 (hn:l.most=some n) (hn2:n<=sizeLine) (hdf:d.params.defaults=[]) (hr:Room k Ya8)
 (hY:∀ (w:Yao) (h:Heap),YP w h->(K w.params).In h)
 (F:∀ (w:Yao) (mg:Str->Option Yak) (fa:Addr) (h:Heap),(K w.params).In h->h.Ns Yas mg->mg d.name=some (.ref fa) ->
  ∃ fd:Yaw,(∀ (s:Yam) (u:Yak),Ybf s fd ⟨[u],[]⟩ [(x,u)]) /\
   ∀ base:Heap,(K w.params).In base->base.Ns Yas mg->FnOk l.prog w (K w.params) mg base (CX w) k fa fd [x] (sp w))
 (hsp:∀ (w:Yao) (H:Hp) (a:Addr) (ns:List Int),ns.length<=n->Jyr H->SqL (K w.params) H a (ns.map V.int)->sp w [.ref a] H (λ v _=>v = .bl true) λ _ _ _=>False)
 (hCX:∀ (w:Yao) (H:Hp) (s:Yam) (e:Yak) (s':Yam),CX w [] H s (λ _ _ _=>False) e s'->False) :
 J8e q loose XP YP l.row.toRowW d [] (λ f vs=>J6k f vs):=by
 refine Att.attach_call hn hdf λ w s₀ s₁ mg mb fa o pm cd doc a vs ns G Y ho hd hcd hmg hobj hints hlen hg=>?_
 have KX:=hY w _ Y
 obtain ⟨fd,hb,hF⟩:=F w mg fa _ KX G.T.g hmg
 exact Jr7 KX G.T.g G.T.b G.T.builtins G.T.nolimit hg hobj hints (Xj hlen hn2) hr hF hb (λ H hO hS=>hsp w H a ns hlen hO hS) λ H e s'=>hCX w H s₁ e s'
noncomputable def Z9 (s:Stmt):Arguments:=match s with
 | .FunctionDef _ a _ _ _ _ _ _ _ _=>a
 | _=>{ posonlyargs:=[],args:=[],vararg:=none,kwonlyargs:=[],kw_defaults:=[],kwarg:=none,defaults:=[] }
noncomputable def Zm (s:Stmt):List Stmt:=match s with
 | .FunctionDef _ _ b _ _ _ _ _ _ _=>b
 | _=>[]
noncomputable def Jd (s:Stmt):Yat:=match s with
 | .FunctionDef _ _ _ _ _ _ sc _ _ _=>sc
 | _=>{ kind:=.function,names:=[],isGenerator:=false,isCoroutine:=false }
abbrev CX0:CXT:=λ _ _ _ _ _ _=>False
abbrev E0:XK:=λ _ _ _=>False
theorem Jo0 {X:Cx}:Jaf CX0 X E0:=λ _ _ _ _ _ _ _ h=>h.elim
structure Fun (K:Qb) (x qual:Str) (st:Stmt) (f:Addr) (fd:Yaw):Prop where
 ex:∃ (oc:Yak) (od:Option Addr) (kV doc pm:Yak) (an:Option Addr) (cdv ct:Yak) (osl:Array (Option Yak)),
  fd=Xy x qual (Z9 st) (Zm st) (Jd st) .none kV doc pm an cdv ct/\K.lookup f=some ⟨oc,od,.func fd,osl⟩/\J3b K cdv qual=true
 kp:Uf K (.ref f)=true
section
variable {P:Yap}{w:Yao}{K:Qb}{mg:Str->Option Yak}{base:Heap}
theorem Fun.ok {x qual:Str}{st:Stmt}{f:Addr}{fd:Yaw}{N ps:List Str}{k:Nat}{sp:Sp}(F:Fun K x qual st f fd) (S:FnScope N ps (Jd st)) (len:∀ vs H Q E,sp vs H Q E->vs.length=ps.length)
 (hbody:∀ (cdv:Yak) (A:Yaq) (outer:List Env) (s:Yam) (H:Hp) (vs:List V) (Q:VK) (E:XK),Room k (A.deeper (envOfC qual (Jd st) s.heap.objs.size f cdv))->sp vs H Q E ->
  ∃ t,PSs (By CX0 P w K mg base N qual (Jd st) f cdv A outer s H E).nox (Zm st) t/\t { nx:=λ _ H'=>Q .non H',rt:=Q } (start N vs) H):FnOk P w K mg base CX0 (k+1) f fd ps sp:=by
 obtain ⟨oc,od,kV,doc,pm,an,cdv,ct,osl,rfl,lk,hcd⟩:=F.ex
 refine Jr5 lk hcd S len λ A outer s H vs Q E hr hsp=>?_
 obtain ⟨t,h,q⟩:=hbody cdv A outer s H vs Q E hr hsp
 exact ⟨t,h.nox,q⟩
theorem Fun.binds {x qual:Str}{st:Stmt}{f:Addr}{fd:Yaw}{ps:List Str}(F:Fun K x qual st f fd)
 (h:∀ (kV doc pm:Yak) (an:Option Addr) (cdv ct:Yak) (us:List Yak),us.length=ps.length->Ybg (Xy x qual (Z9 st) (Zm st) (Jd st) .none kV doc pm an cdv ct) ⟨us,[]⟩=pure (ps.zip us)):Vb K fd ps []:=by grind [Fun.ex,Vb.all,Z9,Zm,Jd,Vb]
theorem Jgq {x qual:Str}{st:Stmt}{f:Addr}{oc:Yak}{od an:Option Addr}{osl:Array (Option Yak)}{kV doc pm cdv ct:Yak}(l:K.lookup f=some ⟨oc,od,.func (Xy x qual (Z9 st) (Zm st) (Jd st) .none kV doc pm an cdv ct),osl⟩)
 (c:J3b K cdv qual=true) (k:Uf K (.ref f)=true):Fun K x qual st f (Xy x qual (Z9 st) (Zm st) (Jd st) .none kV doc pm an cdv ct):=⟨⟨oc,od,kV,doc,pm,an,cdv,ct,osl,rfl,l,c⟩,k⟩
end
theorem Jqe {n:Nat}(h:n<=1000):n<sizeLine:=Us h (by decide)
section
variable {X:Cx}
theorem pv (i:Nat) {x:Str}{pos:Pos}(hN:X.N[i]? = some x:=by rfl) (hv:Vis X.env.scope x:=by first | exact Qa rfl | exact Qs (Qa rfl) | exact Qs (Qs rfl)) (hd:(x==("__debug__":Str))=false:=by decide)
 (hcd:(x==("__classdict__":Str))=false:=by decide):PE X (.Name x pos) (Z4 i):=Jyc hN hv hd hcd
end
theorem Jc0 {A B:Prop}(h:B):if false=true then A else B:=by
 rw [if_neg Q4]
 exact h
theorem V3 {A B:Prop}(h:A):if true=true then A else B:=by
 rw [if_pos rfl]
 exact h
section
variable {κ:Type} [DecidableEq κ]
end
end L2
set_option maxHeartbeats 4000000
namespace L2
abbrev NoE:Yak->Yam->Prop:=λ _ _=>False
theorem Jlc {prog:Yap}{w:Yao}{A:Yaq}{R:Ya6->Yam->Prop}{s:Yam}{elt target iter:Expr}{ifs:List Expr}{scope:Yat}{pos:Pos}{it acc:Yak}{env:Env}(I:Nat->Yam->Prop)
 (turn:∀ n s,I n s->Yan (model prog w) A (pyNext it) (λ r s₁=>match r with
  | none=>R (.ok .next) s₁
  | some v=>Yan (model prog w) A (letOwnedTupleGo target it v) (λ _ s₁'=>Yan (model prog w) A (assign target env v) (λ _ s₂=>
   Yan (model prog w) A (forIn ifs true λ c r=>if r=true then do let ok <- isTrue c env (eval c env);pure (J33 ok) else pure (J33 r)) (λ ok s₃=>
    if ok=true then Yan (model prog w) A (eval elt env) (λ x s₄=>
     Yan (model prog w) A (call (.builtin "list.append") [acc,x]) (λ _ s₅=>∃ m,m<n/\I m s₅) NoE s₄) NoE s₃
    else ∃ m,m<n/\I m s₃) NoE s₂) NoE s₁') NoE s₁) NoE s)
 (n:Nat) (h:I n s) :
 Yay (model prog w) A (.compLoop (.ListComp elt [⟨target,iter,ifs,0⟩] scope pos) 0 it acc env) R s:=by
 refine codeAny_loop rfl I (λ n s hI=>?_) n h
 show Yan _ A ((compTurn (.ListComp elt [⟨target,iter,ifs,0⟩] scope pos) 0 it acc env).onRaise (λ x=>do noteFrame x env;theTreesLotGoes x)) _ _ s
 refine wpAny_noted ?_
 rw [compTurn_list]
 refine wpAny_bind (wpAny_standAt (wpAny_bind (wpAny_mono (turn n s hI) (λ r s₁ h₁=>?_) λ _ _ f=>f.elim)))
 cases r with
 | none=>exact wpAny_pure h₁
 | some v=>
  refine wpAny_bind (wpAny_mono h₁ (λ _ s₁' h₁'=>wpAny_bind (wpAny_mono h₁' (λ _ s₂ h₂=>wpAny_bind (wpAny_mono h₂ (λ ok s₃ h₃=>?_) λ _ _ f=>f.elim)) λ _ _ f=>f.elim)) λ _ _ f=>f.elim)
  cases ok with
  | false=>exact wpAny_pure ⟨rfl,h₃⟩
  | true=>
   exact wpAny_bind (wpAny_bind (wpAny_mono h₃ (λ x s₄ h₄=>wpAny_bind (wpAny_mono h₄ (λ _ s₅ h₅=>wpAny_pure (wpAny_pure ⟨rfl,h₅⟩)) λ _ _ f=>f.elim)) λ _ _ f=>f.elim))
noncomputable def Yz (env:Env):List (Str×Yav)->List (Str×Addr)->List (Str×Addr)
 | [],cs=>cs
 | (n,k)::r,cs=>Yz env r (if (k==Uk)=true then (n,(env.cells.lookup n).getD 0)::cs else cs)
theorem Jcx {scope:Yat}{env:Env}(h:∀ x∈scope.names,x.2 = .free->∃ c,env.cells.lookup x.1=some c):Ybp scope env=pure (Yz env scope.names []):=by
 have key:∀ (l:List (Str×Yav)) (cs:List (Str×Addr)),(∀ x∈l,x.2 = .free->∃ c,env.cells.lookup x.1=some c) ->
  (forIn (m:=Sem) l cs λ (x:Str×Yav) (r:List (Str×Addr))=>if (x.2==Uk)=true then (do let c <- cellOf env x.1;pure (J33 ((x.1,c)::r))) else (do pure PUnit.unit;pure (J33 r)))=pure (Yz env l cs):=by
  intro l
  induction l with
  | nil=>intro cs _;rfl
  | cons x r ih=>
   intro cs hx
   obtain ⟨n,k⟩:=x
   rw [J6m]
   by_cases hk:k = .free
   . subst hk
     obtain ⟨c,hc⟩:=hx _ Qk rfl
     have e:cellOf env n=pure c:=by unfold cellOf;rw [show env.cells.lookup n=some c from hc]
     simp only [beq_self_eq_true,if_true,e,pure_bind]
     rw [ih _ λ y hy=>hx y (Qj _ hy)]
     simp only [Yz,beq_self_eq_true,if_true]
     rw [show env.cells.lookup n=some c from hc]
     rfl
   . have hb:(k==Uk)=false:=by simpa using hk
     simp only [hb,J34,if_false,pure_bind]
     rw [ih _ λ y hy=>hx y (Qj _ hy)]
     simp only [Yz,hb,J34,if_false]
 unfold Ybp
 have:=key scope.names [] h
 show ((forIn (m:=Sem) scope.names ([]:List (Str×Addr)) _) >>= _)=_
 refine J5e (congrArg (λ z=>z >>= _) (J5e ?_ this)) ?_
 . congr 1
 . rfl
theorem Jgr {env:Env}:∀ {l:List (Str×Yav)}{cs:List (Str×Addr)},(∀ x∈l,x.2 = .free->∃ c,env.cells.lookup x.1=some c)->(∀ p∈cs,env.cells.lookup p.1=some p.2)->∀ p∈Yz env l cs,env.cells.lookup p.1=some p.2
 | [],_,_,hc=>hc
 | (n,k)::r,cs,hx,hc=>by
  unfold Yz
  refine Jgr (λ y hy=>hx y (Qj _ hy)) λ p hp=>?_
  by_cases hk:k = .free
  . subst hk
    simp only [beq_self_eq_true,if_true] at hp
    rcases Qd.mp hp with rfl | hp
    . obtain ⟨c,e⟩:=hx _ Qk rfl
      have e:env.cells.lookup n=some c:=e
      show env.cells.lookup n=some ((env.cells.lookup n).getD 0)
      rw [e]
      rfl
    . exact hc p hp
  . have hb:(k==Uk)=false:=by simpa using hk
    simp only [hb,J34,if_false] at hp
    exact hc p hp
theorem Jgs {env:Env}:∀ {l:List (Str×Yav)}{cs:List (Str×Addr)}{p:Str×Addr},p∈cs->p∈Yz env l cs
 | [],_,_,h=>h
 | (n,k)::r,cs,p,h=>by
  unfold Yz
  refine Jgs ?_
  split
  . exact Qj _ h
  . exact h
theorem Jc1 {env:Env}:∀ {l:List (Str×Yav)}{cs:List (Str×Addr)}{x:Str},(x,Uk)∈l->∃ c,(x,c)∈Yz env l cs
 | [],_,_,h=>by cases h
 | (n,k)::r,cs,x,h=>by
  unfold Yz
  rcases Qd.mp h with e | h
  . cases e
    simp only [beq_self_eq_true,if_true]
    exact ⟨_,Jgs Qk⟩
  . exact Jc1 h
theorem W5 {α:Type}{x:Str}{c:α}:∀ {l:List (Str×α)},(x,c)∈l->∃ d,l.lookup x=some d
 | [],h=>by cases h
 | (n,k)::r,h=>by
  rw [U5]
  cases hx:x==n with
  | true=>exact ⟨k,rfl⟩
  | false=>
   rcases Qd.mp h with e | h
   . cases e;simp at hx
   . exact W5 h
theorem Jag {env:Env}{x:Str}:∀ {names:List (Str×Yav)}{k:Yav},
 (names.map λ (n,k)=>if (k==Uk&&env.scope.kind == .function&&env.kindOf n==some .cell) then (n,U1) else (n,k)).lookup x=some k->names.lookup x=some k\/(k = .cell/\names.lookup x=some .free)
 | [],_,h=>by simp at h
 | (n,j)::r,k,h=>by
  have ih:=@Jag env x r k
  rw [Xb] at h
  rw [U5]
  dsimp only at h
  by_cases hc:(j==Uk&&env.scope.kind == .function&&env.kindOf n==some .cell)=true
  . rw [if_pos hc,U5] at h
    cases hx:x==n with
    | true=>
     rw [hx] at h
     simp only [X3] at hc
     have:j = .free:=by simpa using hc.1.1
     subst this
     cases h
     exact .inr ⟨rfl,rfl⟩
    | false=>rw [hx] at h;exact ih h
  . rw [if_neg hc,U5] at h
    cases hx:x==n with
    | true=>rw [hx] at h;exact .inl h
    | false=>rw [hx] at h;exact ih h
theorem Jdp {env:Env}{x:Str}:∀ {names:List (Str×Yav)},names.lookup x=some .free ->
 (names.map λ (n,k)=>if (k==Uk&&env.scope.kind == .function&&env.kindOf n==some .cell) then (n,U1) else (n,k)).lookup x=some .cell \/
 (names.map λ (n,k)=>if (k==Uk&&env.scope.kind == .function&&env.kindOf n==some .cell) then (n,U1) else (n,k)).lookup x=some .free
 | [],h=>by simp at h
 | (n,j)::r,h=>by
  have ih:=@Jdp env x r
  rw [U5] at h
  rw [Xb]
  dsimp only
  by_cases hc:(j==Uk&&env.scope.kind == .function&&env.kindOf n==some .cell)=true
  . rw [if_pos hc,U5]
    cases hx:x==n with
    | true=>exact .inl rfl
    | false=>rw [hx] at h;exact ih h
  . rw [if_neg hc,U5]
    cases hx:x==n with
    | true=>rw [hx] at h;cases h;exact .inr rfl
    | false=>rw [hx] at h;exact ih h
noncomputable def Jys (X:Cx) (N':List Str) (scope:Yat) (C:Addr) (s:Yam) (H:Hp) (fp:List Addr):Cx where
 prog:=X.prog
 w:=X.w
 K:=X.K
 mg:=X.mg
 base:=X.base
 A:=X.A
 N:=N'
 s₀:=s
 H₀:=H
 env:=compEnvC scope (Yz X.env scope.names []) C X.env
 outer:=X.stack
 stack:=X.stack
 ex:=fp
 fn:=λ _=>false
 calm:=X.calm
 pn:=[]
 xe:=NoE
noncomputable def Zh (k:Nat) (idx:List Nat) (σ:St):St:=Qo k none++idx.map λ i=>(σ[i]?).join
section
variable {X:Cx}{pins:List (Addr×Obj)}{σ:St}{H:Hp}{s:Yam}{scope:Yat}{N':List Str}{k:Nat}{idx:List Nat}{sc:Yat}{N:List Str}
end
def PTs (X:Cx) (ifs:List Expr) (t:TT):Prop:=
 ∀ (pins:List (Addr×Obj)) (s:Yam) (σ:St) (H:Hp) (Q:Bool->Hp->Prop),Inv X pins σ H s->t σ H Q ->
  Yan (model X.prog X.w) X.A (forIn ifs true λ c r=>if r=true then do let ok <- isTrue c X.env (eval c X.env);pure (J33 ok) else pure (J33 r)) (TP X pins σ Q) X.xe s
def Jf4:TT:=λ _ H Q=>Q true H
theorem Yu {X:Cx}:PTs X [] Jf4:=λ pins s σ H Q I h=>wpAny_tests_nil ⟨H,I,h⟩
theorem Jjn {X:Cx}{c:Expr}{t:TT}(h:PT X c t):PTs X [c] t:=λ pins s σ H Q I q=>wpAny_tests_one (h pins s σ H Q I q)
def Jnb (J:It) (g:TG) (tt:TT) (te:TE) (l:Addr) (σ0:St) (H0:Hp) (Q:Hp->Prop):Prop:=
 ∃ W:Nat->Nat->St->Hp->Prop,(∃ m,W 0 m σ0 H0)/\∀ i m σ H,W i m σ H ->
  (J.stop i H/\Q H)\/(J.go i H/\∀ x H',J.yld i H x H'->g x σ H' λ σ2 H2=>tt σ2 H2 λ c H3=>
   if c=true then te σ2 H3 λ y H4=>∃ xs,H4 l=some (.lst xs)/\xs.length<sizeLine/\∃ m',m'<m/\W (i+1) m' σ2 (upd H4 l (.lst (xs++[y])))
   else ∃ m',m'<m/\W (i+1) m' σ2 H3)
def Jbi (wi:TI) (k:Nat) (idx:List Nat) (g:TG) (tt:TT) (te:TE):TE:=λ σ H Q=>wi σ H λ J H1=>∀ l,H1 l=none->Jnb J g tt te l (Zh k idx σ) (upd H1 l (.lst [])) λ H2=>Q (.ref l) H2
section
variable {X:Cx}{tg iter elt:Expr}{ifs:List Expr}{scope sc:Yat}{N N':List Str}{k:Nat}{idx:List Nat}{wi:TI}{g:TG}{tt:TT}{te:TE}{pos:Pos}
structure Free1 (X:Cx) (pins:List (Addr×Obj)) (H:Hp) (C:Addr):Prop where
 loc:C≠X.env.locals
 cel:∀ x c,X.env.cells.lookup x=some c->c≠C
 fr:H C=none
 new:X.s₀.heap.objs.size<=C
 pin:∀ p∈X.pn++pins,p.1≠C
theorem Inv.freed {X:Cx}{pins:List (Addr×Obj)}{σ:St}{H:Hp}{s:Yam}{C:Addr}{h':Heap}(I:Inv X pins σ H s) (f:Free1 X pins H C) (hs:Xz C s.heap h'):Inv X pins σ H { s with heap:=h' }:=
 I.turned (t':=s.toks) (it:=C) (λ b o hb e=>(hs.2 b hb).trans e) f.fr f.loc (.inr f.new) f.cel f.pin
def Bj (i:Nat) (wi:TI) (k:Nat) (idx:List Nat) (g:TG) (tt:TT) (te:TE):TS:=λ D σ H=>wi σ H λ J H1=>∀ l,H1 l=none->Jnb J g tt te l (Zh k idx σ) (upd H1 l (.lst [])) λ H2=>D.nx (σ.set i (some (.ref l))) H2
end
noncomputable def J2c:Key->Yal
 | .inl i=>.int i
 | .inr s=>.str s
noncomputable def epO (o:Obj):Nat:=match o.data with
 | .dict _ ep=>ep
 | _=>0
noncomputable def fzK (ep:Nat) (ks:List Key) (ds:List Yal):List (Yal×Yal):=(.none,.int (ep:Nat))::J35 (λ k d=>(J2c k,d)) ks ds
noncomputable def Jah (C:Addr) (ns:List Str) (ds:List Yal):List (Yal×Yal):=(.int (C:Nat),.none)::J35 (λ n d=>(J8f n,d)) ns ds
mutual
inductive Rep (ex:List Addr) (H:Hp):Yal->V->Prop
 | none:Rep ex H .none .non
 | bool (b:Bool):Rep ex H (.bool b) (.bl b)
 | int (i:Int):Rep ex H (.int i) (.int i)
 | str (x:Str):Rep ex H (.str x) (.str x)
 | tuple {a:Addr} {xs:List V} {ds:List Yal} (e:H a=some (.tup xs)) (n:a∉ex) (z:xs.length<=sizeLine) (r:Reps ex H ds xs):Rep ex H (.tuple ds) (.ref a)
 | list {a:Addr} {xs:List V} {ds:List Yal} (e:H a=some (.lst xs)) (n:a∉ex) (z:xs.length<=sizeLine) (r:Reps ex H ds xs):Rep ex H (.list ds) (.ref a)
 | obj {a C dx:Addr} {fs:List (Str×V)} {ds:List Yal} {kvs:List (Yal×Yal)} (e:H a=some (.ins C dx fs)) (n:a∉ex) (k:kvs=Jah C (fs.map (·.1)) ds) (r:Reps ex H ds (fs.map (·.2))):Rep ex H (.dict kvs) (.ref a)
 | dctf {a:Addr} {ob:Obj} {kws:List (Key×V)} {ds:List Yal} {kvs:List (Yal×Yal)} (e:H a=some (.frz ob (.dK kws))) (n:a∉ex) (k:kvs=fzK (epO ob) (kws.map (·.1)) ds) (r:Reps ex H ds (kws.map (·.2))):Rep ex H (.dict kvs) (.ref a)
inductive Reps (ex:List Addr) (H:Hp):List Yal->List V->Prop
 | nil:Reps ex H [] []
 | cons {d:Yal} {v:V} {ds:List Yal} {vs:List V}:Rep ex H d v->Reps ex H ds vs->Reps ex H (d::ds) (v::vs)
end
def Kp (ex:List Addr) (H H':Hp):Prop:=∀ b o,H b=some o->b∉ex->H' b=some o
theorem Kp.refl {ex:List Addr}{H:Hp}:Kp ex H H:=λ _ _ e _=>e
theorem Kp.trans {ex:List Addr}{H H1 H2:Hp}(a:Kp ex H H1) (b:Kp ex H1 H2):Kp ex H H2:=λ c o e n=>b c o (a c o e n) n
theorem Kp.of {ex:List Addr}{H H':Hp}(a:Kp [] H H'):Kp ex H H':=λ c o e _=>a c o e (by simp)
theorem Kp.mono {ex ex':List Addr}{H H':Hp}(a:Kp ex H H') (h:∀ b∈ex,b∈ex'):Kp ex' H H':=λ c o e n=>a c o e λ z=>n (h c z)
theorem Kp.new {ex:List Addr}{H:Hp}{p:Addr}(h:H p=none) (o:HO):Kp ex H (upd H p o):=λ b u q _=>by rw [Je (Jl q h)];exact q
theorem Kp.at {ex:List Addr}{H:Hp}{p:Addr}(h:p∈ex) (o:HO):Kp ex H (upd H p o):=λ b u q n=>by rw [Je (λ (z:b=p)=>n (by rw [z];exact h))];exact q
mutual
theorem Rep.keep {ex:List Addr}{H H':Hp}(k:Kp ex H H'):∀ {d:Yal}{v:V},Rep ex H d v->Rep ex H' d v
 | _,_,.none=>.none
 | _,_,.bool b=>.bool b
 | _,_,.int i=>.int i
 | _,_,.str x=>.str x
 | _,_,.tuple e n z r=>.tuple (k _ _ e n) n z (Reps.keep k r)
 | _,_,.list e n z r=>.list (k _ _ e n) n z (Reps.keep k r)
 | _,_,.obj e n q r=>.obj (k _ _ e n) n q (Reps.keep k r)
 | _,_,.dctf e n q r=>.dctf (k _ _ e n) n q (Reps.keep k r)
theorem Reps.keep {ex:List Addr}{H H':Hp}(k:Kp ex H H'):∀ {ds:List Yal}{vs:List V},Reps ex H ds vs->Reps ex H' ds vs
 | _,_,.nil=>.nil
 | _,_,.cons r t=>.cons (Rep.keep k r) (Reps.keep k t)
end
theorem Reps.length {ex:List Addr}{H:Hp}:∀ {ds:List Yal}{vs:List V},Reps ex H ds vs->ds.length=vs.length
 | _,_,.nil=>rfl
 | _,_,.cons _ t=>by simp [Reps.length t]
theorem Reps.get {ex:List Addr}{H:Hp}:∀ {ds:List Yal}{vs:List V}{i:Nat}{d:Yal},Reps ex H ds vs->ds[i]? = some d->∃ v,vs[i]? = some v/\Rep ex H d v
 | _,_,_,_,.nil,e=>by simp at e
 | _,_,0,_,.cons r _,e=>by simp at e;subst e;exact ⟨_,rfl,r⟩
 | _,_,i+1,d,.cons _ t,e=>by
  obtain ⟨u,h1,h2⟩:=Reps.get (i:=i) (d:=d) t (by simpa using e)
  exact ⟨u,by simpa using h1,h2⟩
theorem Reps.append {ex:List Addr}{H:Hp}:∀ {ds es:List Yal}{vs ws:List V},Reps ex H ds vs->Reps ex H es ws->Reps ex H (ds++es) (vs++ws)
 | _,_,_,_,.nil,s=>s
 | _,_,_,_,.cons r t,s=>.cons r (Reps.append t s)
theorem Reps.take {ex:List Addr}{H:Hp}:∀ {ds:List Yal}{vs:List V}(n:Nat),Reps ex H ds vs->Reps ex H (ds.take n) (vs.take n)
 | _,_,0,_=>.nil
 | _,_,_+1,.nil=>.nil
 | _,_,n+1,.cons r t=>.cons r (Reps.take n t)
theorem Reps.drop {ex:List Addr}{H:Hp}:∀ {ds:List Yal}{vs:List V}(n:Nat),Reps ex H ds vs->Reps ex H (ds.drop n) (vs.drop n)
 | _,_,0,r=>r
 | _,_,_+1,.nil=>.nil
 | _,_,n+1,.cons _ t=>Reps.drop n t
theorem Reps.ints {ex:List Addr}{H:Hp}:∀ ns:List Int,Reps ex H (ns.map Qn) (ns.map V.int)
 | []=>.nil
 | n::r=>.cons (.int n) (Reps.ints r)
theorem Reps.ints_inv {ex:List Addr}{H:Hp}:∀ {ns:List Int}{vs:List V},Reps ex H (ns.map Qn) vs->vs=ns.map V.int
 | [],_,.nil=>rfl
 | n::r,_,.cons (.int _) t=>by rw [Reps.ints_inv t];rfl
theorem Reps.rep {ex:List Addr}{H:Hp}{ds:List Yal}{vs:List V}(h:Reps ex H ds vs):∀ k:Nat,Reps ex H (Qo k ds).flatten (Qo k vs).flatten
 | 0=>.nil
 | k+1=>by
  rw [J31,J31,J4j,J4j]
  exact Reps.append h (Reps.rep h k)
theorem Jld {d:Yal}{ds:List Yal}(h:Ut (d::ds)=true):d.canLay0=true/\Ut ds=true:=by rw [Ut,X3] at h;exact h
mutual
theorem Rep.reads {ex:List Addr}{P:Yap}{w:Yao}{H:Hp}{h:Heap}(ok:HOk P w H h):∀ {d:Yal}{v:V}{u:Yak},d.canLay0=true->Rep ex H d v->Yy v u->∃ as,Reads h u d as
 | _,_,_,_,.none,r=>by cases (show _=Up from r);exact ⟨_,.none⟩
 | _,_,_,_,.bool b,r=>by cases (show _=X8 b from r);exact ⟨_,.bool b⟩
 | _,_,_,_,.int i,r=>by obtain ⟨t,rfl⟩:=(show ∃ t,_=Uo i t from r);exact ⟨_,.int i t⟩
 | _,_,_,_,.str x,r=>by obtain ⟨t,rfl⟩:=(show ∃ t,_=U2 x t from r);exact ⟨_,.str x t⟩
 | _,_,_,hc,.tuple (a:=a) (xs:=xs) e n _ rs,r=>by
  cases (show _=Qw a from r)
  obtain ⟨z,its,rv,o,e1,e2,n',e3⟩:=(show Zs P w H h a (.tup xs) from ok a _ e)
  obtain ⟨as,ra⟩:=Reps.reads ok (by rw [U6] at hc;exact hc) rs rv
  exact ⟨as,.tuple e1 e2 e3 (by simpa using ra)⟩
 | _,_,_,hc,.list (a:=a) (xs:=xs) e n _ rs,r=>by
  cases (show _=Qw a from r)
  obtain ⟨z,its,n',rv,e1⟩:=(show Zs P w H h a (.lst xs) from ok a _ e)
  obtain ⟨as,ra⟩:=Reps.reads ok (by rw [U6] at hc;exact hc) rs rv
  exact ⟨_,.list e1 rfl rfl (by simpa using ra)⟩
 | _,_,_,hc,.obj _ _ _ _,r=>by rw [U6] at hc;cases hc
 | _,_,_,hc,.dctf _ _ _ _,r=>by rw [U6] at hc;cases hc
theorem Reps.reads {ex:List Addr}{P:Yap}{w:Yao}{H:Hp}{h:Heap}(ok:HOk P w H h):∀ {ds:List Yal}{vs:List V}{us:List Yak},Ut ds=true->Reps ex H ds vs->J4 vs us->∃ as,ReadsAll h us ds as
 | _,_,_,_,.nil,r=>by cases r;exact ⟨_,.nil⟩
 | _,_,_,hc,.cons q t,r=>by
  cases r with
  | cons r1 r2=>
   obtain ⟨as,h1⟩:=Rep.reads ok (Jld hc).1 q r1
   obtain ⟨bs,h2⟩:=Reps.reads ok (Jld hc).2 t r2
   exact ⟨_,.cons h1 h2⟩
end
section
variable {X:Cx}
def J2d:R2:=λ x y H Q=>∃ ex da db,Rep ex H da x/\Rep ex H db y/\da.canLay0=true/\db.canLay0=true/\min da.depth db.depth<=50/\Q (.bl (Uu da db)) H
def J0q:R2:=λ x y H Q=>∃ ex da db,Rep ex H da x/\Rep ex H db y/\da.canLay0=true/\db.canLay0=true/\min da.depth db.depth<=50/\Q (.bl (!Uu da db)) H
theorem Jyt (hu:X.A.units+64<cLine):OpR X (compareOp .Eq) J2d:=by
 intro pins s σ H x y v u Q I rx ry h
 obtain ⟨ex,da,db,r1,r2,c1,c2,hd,q⟩:=h
 obtain ⟨as,h1⟩:=Rep.reads I.hok c1 r1 rx
 obtain ⟨bs,h2⟩:=Rep.reads I.hok c2 r2 ry
 exact SeqAt.compareEq_reads h1 h2 c1 c2 (by omega) ⟨.bl (Uu da db),H,I,rfl,q⟩
theorem Jr8:V1 X (.builtin "all") (λ xs H Q=>X.calm=true/\∃ (p:Addr) (bs:List Bool),xs=[.ref p]/\SqL X.K H p (bs.map V.bl)/\Q (.bl (bs.all id)) H):=by
 intro pins s σ H xs us Q I r h
 obtain ⟨hc,p,bs,rfl,hq,q⟩:=h
 obtain ⟨u,rfl,ru⟩:=Jbq r
 cases ru
 obtain ⟨its,rv,pl,hz⟩:=I.list hq
 have hl:=pl.isList
 have hlt:p<s.heap.objs.size:=by obtain ⟨_,e,_⟩:=hl;exact Qr e
 refine call_all_walk (wpAny_pyIter_list hl ?_)
 refine ⟨_,_,_,_,_,_,λ i=>bs.getD i true,rfl,Walks.list (A:=X.A.in1) (I.ok.hd hc) _ p (Xg hlt) its.toArray,⟨⟨_,Xa _ rfl,rfl,rfl⟩,hl.push _⟩,?_,λ h' tk hk=>?_⟩
 . intro i v s' Q' E' hP hQ
   have hP:its[i]? = some v:=by simpa using hP
   have hi:i<its.length:=(Qv.mp hP).1
   have hlen:=rv.length
   have hb:(bs.map V.bl)[i]? = some (V.bl (bs.getD i true)):=by
    rw [Qc] at hlen
    rw [Qm,Qf (by omega),Qi,Qf (by omega)]
    rfl
   obtain ⟨u,hu,ru⟩:=rv.get hb
   rw [hP] at hu
   cases hu
   cases (show v=X8 _ from ru)
   exact wpAny_truthy_bool hQ
 . have e:((Qg its.toArray.size).all λ i=>bs.getD i true)=bs.all id:=by
    have hlen:=rv.length
    rw [Qc] at hlen
    rw [Q2,<- hlen,J3k]
    simp only [Uv,Q5]
    constructor
    . intro h b hb
      obtain ⟨i,hi,rfl⟩:=List.mem_iff_getElem.mp hb
      have:=h i hi
      rw [Qi,Qf hi] at this
      exact this
    . intro h i hi
      rw [Qi,Qf hi]
      exact h _ (Xt hi)
   rw [e]
   exact ⟨.bl (bs.all id),H,I.kept (t':=tk) (old_kept hk),rfl,q⟩
theorem Jle:V1 X (.builtin "sum") (λ xs H Q=>X.calm=true/\∃ (p:Addr) (ns:List Int),xs=[.ref p]/\SqL X.K H p (ns.map V.int)/\Q (.int ns.sum) H):=by
 intro pins s σ H xs us Q I r h
 obtain ⟨hc,p,ns,rfl,hq,q⟩:=h
 obtain ⟨u,rfl,ru⟩:=Jbq r
 cases ru
 obtain ⟨its,rv,pl,hz⟩:=I.list hq
 have hl:=pl.isList
 have hi:=Jm9 rv
 obtain ⟨xs,e⟩:=hi.allInts.items
 rw [e] at hl
 refine sum_intListG (I.ok.hd hc) hl λ h' tk t' hk=>?_
 have e2:preSum (numAt xs) xs.size=ns.sum:=by
  have h1:=hi.numsOf
  have h2:numsOf its.toArray.toList=(xs.toList.map (·.1)):=by rw [e,nums_intItems]
  rw [preSum_eq,J5f (by simp)]
  have h2':numsOf its=(xs.toList.map (·.1)):=by simpa using h2
  rw [<- h2',h1]
 rw [e2]
 exact ⟨.int ns.sum,H,I.kept (t':=tk) hk,⟨_,rfl⟩,q⟩
theorem Jlf:V1 X (.builtin "isinstance") (λ xs H Q=>∃ x T t b,xs=[x,.ty T]/\TyOf X.K H x t/\Uq X.K t (.type T)=some b/\Q (.bl b) H):=by
 intro pins s σ H xs us Q I r h
 obtain ⟨x,T,t,b,rfl,ty,e,q⟩:=h
 obtain ⟨u,w',rfl,ru,rw'⟩:=Jk7 r
 cases (show w'=U9 T from rw')
 exact Jqa I ru ty e λ tk=>⟨.bl b,H,I.tok tk,rfl,q⟩
noncomputable def Jjo:Yal->String
 | .none=>"NoneType"
 | .bool _=>"bool"
 | .int _=>"int"
 | .str _=>"str"
 | .list _=>"list"
 | .tuple _=>"tuple"
 | .dict _=>"dict"
noncomputable def noD:Yal->Bool
 | .dict _=>false
 | _=>true
theorem Rep.tyOf {ex:List Addr}{H:Hp}{K:Qb}{d:Yal}{v:V}(hn:noD d=true) (r:Rep ex H d v):TyOf K H v (.type (Jjo d)):=by
 cases r with
 | none=>exact .non
 | bool b=>exact .bl b
 | int i=>exact .int i
 | str x=>exact .str x
 | tuple e n z r=>exact .tup e
 | list e n z r=>exact .lst e
 | obj=>cases hn
 | dctf=>cases hn
def Jxc (i j:Int):Prop:=0<j/\j.natAbs.log2<9000
theorem Jbs:OpR X (binaryOp .FloorDiv) (rI Jxc λ i j=>.int (i/j)):=opI λ i j _ _ _ _ _ hc q=>by
 have h1:(0:Int)<j:=hc.1
 exact floordiv_int (by omega) (by rw [Int.fdiv_eq_ediv_of_nonneg i (by omega)];exact q) (.inl (PyProof.noPylong_of_log2 hc.2))
end
theorem Jbt {i j:Int}(h0:0<j) (h1:j<2^9000):Jxc i j:=by
 refine ⟨h0,?_⟩
 have hn:j.natAbs≠0:=by omega
 rw [J6n hn]
 have:(j.natAbs:Int)=j:=J3c (by omega)
 have h2:((j.natAbs:Nat):Int)<((2^9000:Nat):Int):=by rw [this];exact_mod_cast h1
 exact_mod_cast h2
def Cal (P:Yap) (w:Yao) (K:Qb) (mg:Str->Option Yak) (base:Heap) (name:Str) (k:Nat) (ps:List Str) (sp:Sp):Prop:=
 ∃ f fd,mg name=some (.ref f)/\Uf K (.ref f)=true/\Vb K fd ps []/\FnOk P w K mg base CX0 k f fd ps sp
def Def (K:Qb) (mg:Str->Option Yak) (name:Str) (st:Stmt) (ps:List Str):Prop:=
 ∃ f fd,mg name=some (.ref f)/\Fun K name name st f fd/\Vb K fd ps []
theorem Def.cal {P:Yap}{w:Yao}{K:Qb}{mg:Str->Option Yak}{base:Heap}{name:Str}{st:Stmt}{ps:List Str}{k:Nat}{sp:Sp}(d:Def K mg name st ps)
 (h:∀ f fd,Fun K name name st f fd->FnOk P w K mg base CX0 k f fd ps sp):Cal P w K mg base name k ps sp:=by
 obtain ⟨f,fd,hm,F,b⟩:=d
 exact ⟨f,fd,hm,F.kp,b,h f fd F⟩
theorem Cal.imp {P:Yap}{w:Yao}{K:Qb}{mg:Str->Option Yak}{base:Heap}{name:Str}{k:Nat}{ps:List Str}{sp sp':Sp}(c:Cal P w K mg base name k ps sp) (h:∀ vs H Q E,sp' vs H Q E->sp vs H Q E):Cal P w K mg base name k ps sp':=by
 obtain ⟨f,fd,hm,hk,b,F⟩:=c
 exact ⟨f,fd,hm,hk,b,F.imp h⟩
section
variable {X:Cx}{x:Str}{e:Expr}{es:List Expr}{p pos:Pos}{t:TA}{k:Nat}{ps:List Str}{sp:Sp}
theorem Y7 (c:Cal X.prog X.w X.K X.mg X.base x k ps sp) (hr:Room k X.A) (hg:Gl X x) (ha:PA X (e::es) t) (hdb:(x==("__debug__":Str))=false:=by decide)
 (he:starEach (e::es) X.env=(false,eval e X.env)::starEach es X.env:=by rfl) (hpl:(backTo pos (starEach es X.env)).any (·.1)=false:=by rfl) :
 PE X (.Call (.Name x p) (e::es) [] pos) (Jdm sp [] E0 t):=by
 obtain ⟨f,fd,hm,hk,b,F⟩:=c
 exact Jou F hr hg hm hk b .nil Jo0 ha hdb he hpl
end
section
variable {X:Cx}
theorem Jr9 (hu:X.A.units+64<cLine):OpR X (compareOp .NotEq) J0q:=by
 intro pins s σ H x y v u Q I rx ry h
 obtain ⟨ex,da,db,r1,r2,c1,c2,hd,q⟩:=h
 obtain ⟨as,h1⟩:=Rep.reads I.hok c1 r1 rx
 obtain ⟨bs,h2⟩:=Rep.reads I.hok c2 r2 ry
 exact SeqAt.compareNe_reads h1 h2 c1 c2 (by omega) ⟨.bl (!Uu da db),H,I,rfl,q⟩
end
theorem Jeq:fillsNumberSlot (.type "tuple") "mul" = pure false:=
 PySem.fillsNumberSlot_seq (id:="tuple.__mul__") (r:=some (.builtin "tuple.__rmul__")) J4n.lookup (by decide +kernel) J8g.lookup (by decide +kernel)
theorem Jjp:seqRepeat? (.type "tuple")=pure (some (.builtin "tuple.__mul__")):=by
 unfold seqRepeat?
 rw [J6o (T:="tuple") (name:="__mul__") (id:="tuple.__mul__") J4n.lookup (by decide +kernel),J6o (T:="tuple") (name:="__rmul__") (id:="tuple.__rmul__") J8g.lookup (by decide +kernel)]
 rfl
theorem Jgt (a:Int) (t:Tok) (l:Addr) (items:Array Yak) (n:Nat) (dd:Option Addr) (sl:Array (Option Yak)) :
 Meets (Builtin.«int.__rmul__» ⟨[.int a t,.ref l],[]⟩) (λ _ R s=>s.heap.get? l=some { cls:=.type "tuple",dict:=dd,data:=.seq items n,slots:=sl }/\R (.ok (.ret Value.notImplemented)) s):=
 .of_wp λ prog w A R s h=>by obtain ⟨hp,g,d,tk,os⟩:=s;obtain ⟨hl,h⟩:=h;wp_walk;exact ⟨_,rfl,h⟩
theorem Jnc (l:Addr) (items:Array Yak) (n:Nat) (dd:Option Addr) (sl:Array (Option Yak)) (u:Tok) :
 Meets (Builtin.«tuple.__mul__» ⟨[.ref l,.int 1 u],[]⟩) (λ _ R s=>s.heap.get? l=some { cls:=.type "tuple",dict:=dd,data:=.seq items n,slots:=sl }/\R (.ok (.ret (Qw l))) s):=
 .of_wp λ prog w A R s h=>by
  obtain ⟨hp,g,d,tk,os⟩:=s;obtain ⟨hl,h⟩:=h
  have f1:=J6p
  wp_walk using J3q hl
  exact ⟨_,rfl,h⟩
theorem Jnd (l:Addr) (items:Array Yak) (n:Nat) (dd:Option Addr) (sl:Array (Option Yak)) (x:Int) (u:Tok) (he:¬ items.isEmpty=true) (h0:x<=0) (h1:-(2^63)<=x) :
 Meets (Builtin.«tuple.__mul__» ⟨[.ref l,.int x u],[]⟩) (λ _ R s=>s.heap.get? l=some { cls:=.type "tuple",dict:=dd,data:=.seq items n,slots:=sl }/\R (.ok (.ret (Qw s.heap.objs.size))) { s with heap:=s.heap.push { cls:=U9 "tuple",data:=J4m #[] },toks:=s.toks }):=
 .of_wp λ prog w A R s h=>by
  obtain ⟨hp,g,d,tk,os⟩:=s;obtain ⟨hl,h⟩:=h
  have f1:=J6p
  have c0:¬ (decide (x < -2^63)||decide (x≥2^63))=true:=by simp;omega
  have c1:¬ (items.isEmpty||x==1)=true:=by
   have:¬ x=1:=by omega
   simp_all
  have c2:(decide (x<=0)||items.isEmpty)=true:=by simp [h0]
  wp_walk using J3q hl
  refine Ya9 (decide_eq_false c0) ?_
  wp_walk using J3q hl
  refine Ya9 (decide_eq_false c1) ?_
  wp_walk using J3q hl
  exact ⟨_,rfl,h⟩
theorem Jne (l:Addr) (items:Array Yak) (n:Nat) (dd:Option Addr) (sl:Array (Option Yak)) (x:Int) (u:Tok) (he:¬ items.isEmpty=true) (h0:2<=x) (hz:(items.size:Int)*x<=sizeLine) :
 Meets (Builtin.«tuple.__mul__» ⟨[.ref l,.int x u],[]⟩) (λ _ R s=>s.heap.get? l=some { cls:=.type "tuple",dict:=dd,data:=.seq items n,slots:=sl }/\R (.ok (.ret (Qw s.heap.objs.size))) { s with heap:=s.heap.push { cls:=U9 "tuple",data:=J4m ((Qo x.toNat items).foldl (· ++ ·) #[]) },toks:=s.toks }):=
 .of_wp λ prog w A R s h=>by
  obtain ⟨hp,g,d,tk,os⟩:=s;obtain ⟨hl,h⟩:=h
  have f1:=J6p
  have hs:sizeLine=16777216:=Yar
  have hpos:1<=(items.size:Int):=by
   have:items.size≠0:=λ z=>he (by simpa using z)
   omega
  have hx:x<=(items.size:Int)*x:=by
   have:=J4o hpos (show 0<=x by omega)
   omega
  have c0:¬ (decide (x < -2^63)||decide (x≥2^63))=true:=by simp;omega
  have c1:¬ (items.isEmpty||x==1)=true:=by
   have:¬ x=1:=by omega
   simp_all
  have c2:¬ (decide (x<=0)||items.isEmpty)=true:=by
   have:¬ x<=0:=by omega
   simp_all
  have c3:¬ (items.size:Int)*x>(2^63-1)/8:=by omega
  have c4:¬ J8h ((items.size:Int)*x)=true:=by unfold J8h;simp;omega
  have c5:¬ (J4k (λ x1 x2=>x1++x2) #[] (Qo x.toNat items)).size>sizeLine:=by
   have e:=Jcm items.toList x.toNat []
   have e2:items.toList.toArray=items:=rfl
   rw [J4l,e2] at e
   rw [e,Q2,Jdo]
   have e3:(((x.toNat*items.toList.length:Nat)):Int)=(items.size:Int)*x:=by
    rw [J6q,J36 (by omega),Q3];rfl
   omega
  wp_walk using J3q hl
  refine Ya9 (decide_eq_false c0) ?_
  wp_walk using J3q hl
  refine Ya9 (decide_eq_false c1) ?_
  wp_walk using J3q hl
  refine Ya9 (decide_eq_false c2) ?_
  wp_walk
  refine Ya9 (decide_eq_false c3) ?_
  wp_walk
  refine Ya9 (decide_eq_false c5) ?_
  wp_walk
  exact ⟨_,rfl,h⟩
section
variable {X:Cx}
def Jsa (K:Qb):R2:=λ x y H Q=>∃ a k xs,x = .ref a/\y = .int k/\SqT K H a xs/\xs≠[]/\-(2^63)<=k/\(xs.length:Int)*k<=sizeLine /\
 (k=1->Q (.ref a) H)/\(k≠1->∀ p,H p=none->Q (.ref p) (upd H p (.tup (Qo k.toNat xs).flatten)))
theorem Jjq:OpR X (binaryOp .Mult) (Jsa X.K):=by
 intro pins s σ H x y v u Q I rx ry h
 obtain ⟨a,k,xs,rfl,rfl,hq,hne,h1,hz,q1,q2⟩:=h
 cases rx
 obtain ⟨t,rfl⟩:=ry
 obtain ⟨its,r,pl,hz'⟩:=I.tuple hq
 have hl:=r.length
 obtain ⟨⟨cls,dd,data,sl⟩,ho,hc,n,hd⟩:=id pl
 simp only at hc hd
 subst hc hd
 have hne':¬ its.toArray.isEmpty=true:=by
  cases xs with
  | nil=>exact absurd rfl hne
  | cons z zs=>cases its with
   | nil=>simp at hl
   | cons _ _=>simp
 have f0:∀ m:Nat,J4k (λ x1 x2=>x1++x2) #[] (Qo m its.toArray)=(Qo m its).flatten.toArray:=λ m=>by
  have:=Jcm its m []
  rw [J4l] at this
  exact this
 have road:∀ {R:Yak->Yam->Prop},Yan (model X.prog X.w) X.A (call (.builtin "tuple.__mul__") [.ref a,.int k t]) R X.xe s->Yan (model X.prog X.w) X.A (binaryOp .Mult (.ref a) (.int k t)) R X.xe s:=λ {R} hw=>
  Ybx (T:="tuple") (U:="int") (by decide) ⟨_,ho,rfl⟩ (λ s'=>typeIs_int s' k t) Jeq PySem.F.fills_int_mul J8i Jjp PySem.F.slot_int_index.lookup
   (call_meets J8i (typeIs_int s k t) PySem.F.entry_int_rmul (PySem.F.args_int_rmul_2 _ _) (Jgt k t a its.toArray n dd sl) ⟨ho,rfl,⟨_,ho,rfl⟩,hw⟩)
 refine road ?_
 have new:∀ (zs:List V) (ws:List Yak),J4 zs ws->zs.length<=sizeLine->Q (.ref s.heap.objs.size) (upd H s.heap.objs.size (.tup zs)) ->
  EP X pins σ Q (.ref s.heap.objs.size) { s with heap:=s.heap.push { cls:=.type "tuple",data:=.seq ws.toArray },toks:=s.toks }:=λ zs ws rv hz q=>
  ⟨.ref s.heap.objs.size,_,I.laid (t':=s.toks) (λ b u e=>Qt _ e) (Ql _) (show Zs _ _ _ _ _ (.tup zs) from ⟨hz,ws,rv,_,Xa _ rfl,rfl,0,rfl⟩),rfl,q⟩
 have hs:sizeLine=16777216:=Yar
 by_cases k1:k=1
 . subst k1
   exact call_meets J4n ⟨_,ho,rfl⟩ J6r (J6s _ _) (Jnc a its.toArray n dd sl t) ⟨ho,.ref a,H,I,rfl,q1 rfl⟩
 . by_cases k0:k<=0
   . refine call_meets J4n ⟨_,ho,rfl⟩ J6r (J6s _ _) (Jnd a its.toArray n dd sl k t hne' k0 h1) ⟨ho,?_⟩
     have:=q2 k1 _ I.fresh
     rw [show k.toNat=0 by omega] at this
     exact new [] [] .nil (by simp) this
   . have hz2:((its.toArray.size:Nat):Int)*k<=sizeLine:=by rw [Q2,<- hl];exact hz
     refine call_meets J4n ⟨_,ho,rfl⟩ J6r (J6s _ _) (Jne a its.toArray n dd sl k t hne' (by omega) hz2) ⟨ho,?_⟩
     rw [f0]
     refine new _ _ (r.rep k.toNat) ?_ (q2 k1 _ I.fresh)
     rw [Jdo]
     have e:(((k.toNat*xs.length:Nat)):Int)=(xs.length:Int)*k:=by
      rw [J6q,J36 (by omega),Q3]
     omega
end
noncomputable def Jiw (d:Yal) (T:String):Bool:=Jjo d==T||(Jjo d == "bool" && T == "int")
theorem J0r (K:Qb) (d:Yal) (T:String) (hT:T = "int"\/T = "bool"\/T = "str"\/T = "tuple"\/T = "list"):Uq K (.type (Jjo d)) (.type T)=some (Jiw d T):=by
 rcases hT with rfl | rfl | rfl | rfl | rfl<;>cases d<;>first | rfl | kernel_rfl
theorem Jlg {X:Cx}:V1 X (.builtin "isinstance") (λ xs H Q=>∃ ex d x T,xs=[x,.ty T]/\Rep ex H d x/\noD d=true/\(T = "int"\/T = "bool"\/T = "str"\/T = "tuple"\/T = "list")/\Q (.bl (Jiw d T)) H):=by
 intro pins s σ H xs us Q I r h
 obtain ⟨ex,d,x,T,rfl,rd,hn,hT,q⟩:=h
 exact Jlf pins s σ H _ us Q I r ⟨x,T,_,_,rfl,Rep.tyOf hn rd,J0r _ _ _ hT,q⟩
end L2
namespace My
open L2
theorem Jo1 {ex:List Addr}{H:Hp}{ds:List Yal}{v:V}(r:Rep ex H (.tuple ds) v):∃ a xs,v = .ref a/\H a=some (.tup xs)/\a∉ex/\xs.length<=sizeLine/\Reps ex H ds xs:=by
 cases r with | tuple e n z rs=>exact ⟨_,_,rfl,e,n,z,rs⟩
theorem Jve {ex:List Addr}{H:Hp}{ds:List Yal}{v:V}(r:Rep ex H (.list ds) v):∃ a xs,v = .ref a/\H a=some (.lst xs)/\a∉ex/\xs.length<=sizeLine/\Reps ex H ds xs:=by
 cases r with | list e n z rs=>exact ⟨_,_,rfl,e,n,z,rs⟩
theorem Jyu {ex:List Addr}{H:Hp}{a b c:Yal}{vs:List V}(r:Reps ex H [a,b,c] vs):∃ x y z,vs=[x,y,z]/\Rep ex H a x/\Rep ex H b y/\Rep ex H c z:=by
 cases r with | cons r1 r=>cases r with | cons r2 r=>cases r with | cons r3 r=>cases r;exact ⟨_,_,_,rfl,r1,r2,r3⟩
theorem Jsb {ex:List Addr}{H:Hp}{a b c:Yal}{v:V}(r:Rep ex H (.tuple [a,b,c]) v):∃ at' x y z,v = .ref at'/\H at'=some (.tup [x,y,z])/\at'∉ex/\Rep ex H a x/\Rep ex H b y/\Rep ex H c z:=by
 obtain ⟨at',xs,rfl,e,n,_,rs⟩:=Jo1 r
 obtain ⟨x,y,z,rfl,r1,r2,r3⟩:=Jyu rs
 exact ⟨at',x,y,z,rfl,e,n,r1,r2,r3⟩
theorem Jo2 {ex:List Addr}{H:Hp}{i:Int}{v:V}(r:Rep ex H (.int i) v):v = .int i:=by cases r;rfl
theorem Vc {c:Bool}{A B:Prop}(h1:c=true->A) (h2:c=false->B):if c=true then A else B:=by grind
noncomputable def Jyv:Option Int->List (Key×V)
 | none=>[]
 | some m=>[(Uz "most",V.int m)]
noncomputable def Jxd (c:Addr) (rest seed:Int) (turn:Int×Option Int):List (Key×V):=(Uz "cells",V.ref c)::(Uz "rest",V.int rest)::(Uz "seed",V.int seed)::(Uz "turn",V.int turn.1)::Jyv turn.2
structure Jar (H:Hp) (p c:Addr):Prop where
 ex:∃ (ns:List Int) (rest seed:Int) (turn:Int×Option Int),H p=some (.dK (Jxd c rest seed turn))/\H c=some (.lst (ns.map V.int))/\ns.length<=63/\0<=seed/\seed<2^64
theorem Jar.fresh {H:Hp}{p c l:Addr}(J:Jar H p c) (h:H l=none):l∉[p,c]:=by
 obtain ⟨ns,r,s,t,h1,h2,_⟩:=J.ex
 intro z
 rcases Qd.mp z with rfl | z
 . rw [h] at h1;cases h1
 . cases Qu.mp z;rw [h] at h2;cases h2
section
variable (c:Addr) (r s:Int) (t:Int×Option Int) (x:Int)
end
structure JarX (H:Hp) (p c:Addr) (ns:List Int) (r sd:Int) (tn:Int×Option Int):Prop where
 d:H p=some (.dK (Jxd c r sd tn))
 l:H c=some (.lst (ns.map V.int))
theorem JarX.jar {H:Hp}{p c:Addr}{ns:List Int}{r sd:Int}{tn:Int×Option Int}(J:JarX H p c ns r sd tn) (h1:ns.length<=63) (h2:0<=sd) (h3:sd<2^64):Jar H p c:=⟨ns,r,sd,tn,J.d,J.l,h1,h2,h3⟩
def Jyw (H:Hp) (p c:Addr) (e:Option Int):Prop:=∃ ns r sd tn,JarX H p c ns r sd (tn,e)/\ns.length<=63/\0<=sd/\sd<2^64
theorem Jyw.jar {H:Hp}{p c:Addr}{e:Option Int}(J:Jyw H p c e):Jar H p c:=by
 obtain ⟨ns,r,sd,tn,X,h1,h2,h3⟩:=J
 exact X.jar h1 h2 h3
theorem Zp {t u:TS}{D:Ends}{σ:L2.St}{H:Hp}(Mid:L2.St->Hp->Prop) (h1:∀ N:L2.St->Hp->Prop,(∀ σ' H',Mid σ' H'->N σ' H')->t { D with nx:=N } σ H) (h2:∀ σ' H',Mid σ' H'->u D σ' H'):Jae t u D σ H:=h1 _ h2
theorem Jqf (ns:List Int) (lo hi:Option Int):∃ ms:List Int,Jk9 (ns.map V.int) lo hi=ms.map V.int/\ms.length<=ns.length:=by
 unfold Jk9
 refine ⟨_,by rw [<- J4p,<- J3r],?_⟩
 rw [J5a,J5g]
 omega
theorem Jfl:∀ ns:List Int,Ut (ns.map Qn)=true
 | []=>rfl
 | n::r=>by rw [Xb];unfold Ut;rw [Jfl r];rfl
mutual
theorem Rep.mono {ex ex':List Addr}{H:Hp}(h:∀ b∈ex,b∈ex'):∀ {d:Yal}{v:V},Rep ex' H d v->Rep ex H d v
 | _,_,.none=>.none
 | _,_,.bool b=>.bool b
 | _,_,.int i=>.int i
 | _,_,.str x=>.str x
 | _,_,.tuple e n z r=>.tuple e (λ q=>n (h _ q)) z (Reps.mono h r)
 | _,_,.list e n z r=>.list e (λ q=>n (h _ q)) z (Reps.mono h r)
 | _,_,.obj e n k r=>.obj e (λ q=>n (h _ q)) k (Reps.mono h r)
 | _,_,.dctf e n k r=>.dctf e (λ q=>n (h _ q)) k (Reps.mono h r)
theorem Reps.mono {ex ex':List Addr}{H:Hp}(h:∀ b∈ex,b∈ex'):∀ {ds:List Yal}{vs:List V},Reps ex' H ds vs->Reps ex H ds vs
 | _,_,.nil=>.nil
 | _,_,.cons r t=>.cons (Rep.mono h r) (Reps.mono h t)
end
theorem J0s {P:Int->Prop}(ns:List Int) {i:Int}(h:∀ n∈ns,P n) (h0:0<=i) (h1:i<ns.length):∃ n,atI (ns.map V.int) i=some (V.int n)/\P n:=by
 have hk:i.toNat<ns.length:=by omega
 have e:i=((i.toNat:Nat):Int):=by omega
 refine ⟨ns[i.toNat],?_,h _ (Xt hk)⟩
 have q:atI (ns.map V.int) ((i.toNat:Nat):Int)=some (V.int ns[i.toNat]):=Joy (by rw [Qm,Qf hk];rfl)
 rw [<- e] at q
 exact q
theorem Jsc {K:Qb}{a:Addr}{k:Int}{xs:List V}{H:Hp}{Q:VK}(e:H a=some (.tup xs)) (hne:xs≠[]) (h1:-(2^63)<=k) (hz:(xs.length:Int)*k<=sizeLine)
 (h:∀ t H',Kp [] H H'->H' t=some (.tup (Qo k.toNat xs).flatten)->(t=a\/H t=none)->Q (.ref t) H'):Jsa K (.ref a) (.int k) H Q:=by
 refine ⟨a,k,xs,rfl,rfl,SqT.of e,hne,h1,hz,λ k1=>?_,λ _ p hp=>h p _ (Kp.new hp _) Jf (.inr hp)⟩
 subst k1
 exact h a H .refl (by rw [e];simp) (.inl rfl)
theorem Jc2 {n:Nat}{i:Int}(h0:0<=i) (h1:i<n):ixN n i=some i.toNat:=by
 unfold ixN;rw [if_pos h0,if_pos h1]
def Jlh (K:Qb):Sp:=λ vs H Q _=>∃ (a:Addr) (ns:List Int),vs=[.ref a]/\SqL K H a (ns.map V.int)/\ns.length<=63/\∀ H',Q (.bl true) H'
theorem Bk {α:Type}{l:List α}(h:l.length<=1000):l.length<=sizeLine:=Ue (Jqe h)
end My
namespace L2
theorem Bl (o i:Expr) (pos:Pos) (env:Env) (v:Yak):assign (.Subscript o i pos) env v=(do
 let ov <- holding [v] (eval o env)
 let iv <- holding [v,ov] (eval i env)
 Yaz pos
 holding [v,ov,iv] (setItem ov iv v)
 release (match i with | .Slice _ _ none _=>[iv,v,ov] | _=>[v,ov,iv]) []):=rfl
theorem Jfu (o f:Expr) (args:List Expr) (kws:List Ybh) (p pos:Pos) (env:Env) (v:Yak):assign (.Subscript o (.Call f args kws p) pos) env v=(do
 let ov <- holding [v] (eval o env)
 let iv <- holding [v,ov] (eval (.Call f args kws p) env)
 Yaz pos
 holding [v,ov,iv] (setItem ov iv v)
 release [v,ov,iv] []):=Bl _ _ _ _ _
theorem J2 (o:Expr) (x:Str) (p pos:Pos) (env:Env) (v:Yak):assign (.Subscript o (.Name x p) pos) env v=(do
 let ov <- holding [v] (eval o env)
 let iv <- holding [v,ov] (eval (.Name x p) env)
 Yaz pos
 holding [v,ov,iv] (setItem ov iv v)
 release [v,ov,iv] []):=Bl _ _ _ _ _
section
variable {X:Cx}{es:List Expr}{te:TE}{t:TA}{pos:Pos}
theorem Jam {xs:List Expr}{k:Nat}(ha:PE X (.Tuple xs k pos) te) (hr:PA X es t):PA X (.Tuple xs k pos::es) (Yo te t):=Vi ha hr rfl
theorem Jjr {xs:List Expr}(ha:PE X (.List xs pos) te) (hr:PA X es t):PA X (.List xs pos::es) (Yo te t):=Vi ha hr rfl
theorem Y9 {k:Const}{j:Nat}(ha:PE X (.Constant k j pos) te) (hr:PA X es t):PA X (.Constant k j pos::es) (Yo te t):=Vi ha hr rfl
theorem Ja {x:Str}(ha:PE X (.Name x pos) te) (hr:PA X es t):PA X (.Name x pos::es) (Yo te t):=Vi ha hr rfl
theorem Wa {f:Expr}{xs:List Expr}{ks:List Ybh}(ha:PE X (.Call f xs ks pos) te) (hr:PA X es t):PA X (.Call f xs ks pos::es) (Yo te t):=Vi ha hr rfl
theorem V4 {a b:Expr}{op:Ybj}(ha:PE X (.BinOp a op b pos) te) (hr:PA X es t):PA X (.BinOp a op b pos::es) (Yo te t):=Vi ha hr rfl
theorem Jli {a:Expr}{op:UnaryOp}(ha:PE X (.UnaryOp op a pos) te) (hr:PA X es t):PA X (.UnaryOp op a pos::es) (Yo te t):=Vi ha hr rfl
theorem Jjs {a:Expr}{ops:List CmpOp}{bs:List Expr}(ha:PE X (.Compare a ops bs pos) te) (hr:PA X es t):PA X (.Compare a ops bs pos::es) (Yo te t):=Vi ha hr rfl
theorem Ym {a b:Expr}(ha:PE X (.Subscript a b pos) te) (hr:PA X es t):PA X (.Subscript a b pos::es) (Yo te t):=Vi ha hr rfl
theorem Ja3 {e:Expr}{gs:List Comprehension}{sc:Yat}(ha:PE X (.ListComp e gs sc pos) te) (hr:PA X es t):PA X (.ListComp e gs sc pos::es) (Yo te t):=Vi ha hr rfl
end
structure PEs (X:Cx) (e:Expr) (t:TE):Prop where
 out:PE X e t
structure PAs (X:Cx) (es:List Expr) (t:TA):Prop where
 out:PA X es t
section
variable {X:Cx}{es:List Expr}{te:TE}{t:TA}{pos:Pos}
theorem Jr {e:Expr}(h:PE X e te):PEs X e te:=⟨h⟩
theorem Zd {k:Nat}(h:PAs X es t):PEs X (.Tuple es k pos) (Jva t):=⟨Jym h.out⟩
theorem Yb (h:PAs X es t):PEs X (.List es pos) (Jyl t):=⟨Jyn h.out⟩
theorem Yc {i:Int}{j:Nat}:PEs X (.Constant (.int i) j pos) (tC (.int i)):=⟨Jg⟩
theorem Wv {i:Str}{j:Nat}:PEs X (.Constant (.str i) j pos) (tC (.str i)):=⟨Jcz⟩
theorem Jt:PAs X [] Ja2:=⟨Jc⟩
theorem Jqg {xs:List Expr}{k:Nat}(ha:PEs X (.Tuple xs k pos) te) (hr:PAs X es t):PAs X (.Tuple xs k pos::es) (Yo te t):=⟨Jam ha.out hr.out⟩
theorem Jm {k:Const}{j:Nat}(ha:PEs X (.Constant k j pos) te) (hr:PAs X es t):PAs X (.Constant k j pos::es) (Yo te t):=⟨Y9 ha.out hr.out⟩
theorem Ys {x:Str}(ha:PEs X (.Name x pos) te) (hr:PAs X es t):PAs X (.Name x pos::es) (Yo te t):=⟨Ja ha.out hr.out⟩
theorem Yh {f:Expr}{xs:List Expr}{ks:List Ybh}(ha:PEs X (.Call f xs ks pos) te) (hr:PAs X es t):PAs X (.Call f xs ks pos::es) (Yo te t):=⟨Wa ha.out hr.out⟩
theorem Jan {a b:Expr}{op:Ybj}(ha:PEs X (.BinOp a op b pos) te) (hr:PAs X es t):PAs X (.BinOp a op b pos::es) (Yo te t):=⟨V4 ha.out hr.out⟩
theorem Wc {a:Expr}{op:UnaryOp}(ha:PEs X (.UnaryOp op a pos) te) (hr:PAs X es t):PAs X (.UnaryOp op a pos::es) (Yo te t):=⟨Jli ha.out hr.out⟩
theorem B5 {a b:Expr}(ha:PEs X (.Subscript a b pos) te) (hr:PAs X es t):PAs X (.Subscript a b pos::es) (Yo te t):=⟨Ym ha.out hr.out⟩
end
theorem def_mk {K:Qb}{h:Heap}{mg:Str->Option Yak}{x:Str}{st:Stmt}{ps:List Str}{f:Addr}{oc:Yak}{od an:Option Addr}{osl:Array (Option Yak)}{kV doc pm cdv ct:Yak}(X:K.In h) (G:h.Ns Yas mg)
 (a:Ua K Yas x=some (some (.ref f))) (l:K.lookup f=some ⟨oc,od,.func (Xy x x (Z9 st) (Zm st) (Jd st) .none kV doc pm an cdv ct),osl⟩) (c:J3b K cdv x=true) (k:Uf K (.ref f)=true)
 (hb:∀ (kV doc pm:Yak) (an:Option Addr) (cdv ct:Yak) (us:List Yak),us.length=ps.length->Ybg (Xy x x (Z9 st) (Zm st) (Jd st) .none kV doc pm an cdv ct) ⟨us,[]⟩=pure (ps.zip us)):Def K mg x st ps:=
 ⟨f,_,Ug X G a,Jgq (st:=st) l c k,(Jgq (st:=st) l c k).binds hb⟩
end L2
namespace My
open L2
structure Way where
 a:Int
 b:Int
 g:List Int
noncomputable def Y2 (w:Way):Yal:=.tuple [.int w.a,.int w.b,.tuple (w.g.map Qn)]
noncomputable def J3 (R P:Int) (ws:List Way):Yal:=.tuple [.int R,.int P,.tuple (ws.map Y2)]
structure WayOk (R P:Int) (w:Way):Prop where
 a0:0<=w.a
 a1:w.a<R
 b0:0<=w.b
 b1:w.b<R
 len:(w.g.length:Int)=P
 small:∀ x∈w.g,-99<=x/\x<=99
structure BookOk (R P:Int) (ws:List Way):Prop where
 r0:1<=R
 r1:R<=12
 p0:1<=P
 p1:P<=6
 len:ws.length<=60
 ways:∀ w∈ws,WayOk R P w
theorem Vv {n:Int}(h:n<=100000):n<2^9000:=J6t h (by decide +kernel)
end My
namespace L2
section
variable {α:Type}{a b c d e f x:α}{l:List α}
theorem mm0:a∈a::l:=Qk
theorem mm1:b∈a::b::l:=Qj _ mm0
theorem mm2:c∈a::b::c::l:=Qj _ mm1
theorem mm3:d∈a::b::c::d::l:=Qj _ mm2
theorem mm4:e∈a::b::c::d::e::l:=Qj _ mm3
theorem mm5:f∈a::b::c::d::e::f::l:=Qj _ mm4
theorem mn0 (h:¬ x∈a::l):x≠a:=λ e=>h (e▸mm0)
theorem mn1 (h:¬ x∈a::b::l):x≠b:=λ e=>h (e▸mm1)
theorem mn2 (h:¬ x∈a::b::c::l):x≠c:=λ e=>h (e▸mm2)
theorem mn3 (h:¬ x∈a::b::c::d::l):x≠d:=λ e=>h (e▸mm3)
theorem mn4 (h:¬ x∈a::b::c::d::e::l):x≠e:=λ e=>h (e▸mm4)
theorem mn5 (h:¬ x∈a::b::c::d::e::f::l):x≠f:=λ e=>h (e▸mm5)
end
section
variable {prog:Yap}{w:Yao}{A:Yaq}{E:Yak->Yam->Prop}{s:Yam}
theorem Jnf {j t:Addr}{i:Nat}{vs:Array Yak}{y:Yak}{Q:Yak->Yam->Prop}(g:s.heap.IsTupleIter j t i) (gt:s.heap.IsTuple t vs) (gy:vs[i]? = some y)
 (q:∀ h',h'.IsTupleIter j t (i+1)->Xz j s.heap h'->Q y { s with heap:=h' }):Yan (model prog w) A (J3d (.ref j)) Q E s:=by
 obtain ⟨oj,e1,e2,e3⟩:=id g
 obtain ⟨ot,e4,_,n4,e5⟩:=gt
 have goal2:Yan (model prog w) A.in1 (Builtin.«tuple_iterator.__next__» ⟨[.ref j],[]⟩) (λ fin s'=>∃ v,fin = .done (.ret v)/\Yan (model prog w) A (pure v) Q E s') E s:=by
  show Yan _ _ (field (.ref j) 0 >>= _) _ _ s
  refine wpAny_bind (wpAny_field e1 e3 (x:=.ref t) rfl ?_)
  show Yan _ _ (if (Qw t==Up)=true then _ else _) _ _ s;rw [if_neg (show ¬ ((Qw t==Up)=true) from λ z=>J6u z)]
  show Yan _ _ (field (.ref j) 1 >>= _) _ _ s
  refine wpAny_bind (wpAny_field e1 e3 (x:=.int i 0) rfl ?_)
  show Yan _ _ (Yba (.ref t) >>= _) _ _ s
  refine wpAny_bind (wpAny_seqItems e4 e5 ?_)
  simp only [Q8,gy]
  refine wpAny_bind (wpAny_setField e1 e3 (by first | exact mm0 | exact mm1 | exact mm2 | exact mm3 | exact mm4 | exact mm5 | simp) (wpAny_pure ⟨y,rfl,wpAny_pure (q _ ⟨_,J5b _ e1 (Obj.isFreed_of_fields (J8j e3 _)),(Obj.cls_mapFields ..).trans e2,?_⟩ (J8k ..))⟩))
  rw [J8j e3];simp [rawInt]
 unfold J3d
 exact wpAny_bind (Ybq (name:=J3e "__next__") g.typeIs J5h (wpAny_call_entry J5h g.typeIs J8l goal2 (J8m _)))
theorem Jqh {j t:Addr}{i:Nat}{vs:Array Yak}{Q:Yak->Yam->Prop}(hh:A.handled=none) (g:s.heap.IsTupleIter j t i) (gt:s.heap.IsTuple t vs) (gy:vs[i]? = none)
 (q:∀ h' e,Heap.ExtBut j s.heap h'->(∃ o,h'.get? e=some o/\o.cls = .type "StopIteration")->E (.ref e) { s with heap:=h' }):Yan (model prog w) A (J3d (.ref j)) Q E s:=by
 obtain ⟨oj,e1,e2,e3⟩:=id g
 obtain ⟨ot,e4,_,n4,e5⟩:=gt
 unfold J3d
 refine wpAny_bind (Ybq (name:=J3e "__next__") g.typeIs J5h (wpAny_call_entry J5h g.typeIs J8l ?_ (J8m _)))
 show Yan _ _ (field (.ref j) 0 >>= _) _ _ s
 refine wpAny_bind (wpAny_field e1 e3 (x:=.ref t) rfl ?_)
 show Yan _ _ (if (Qw t==Up)=true then _ else _) _ _ s;rw [if_neg (show ¬ ((Qw t==Up)=true) from λ z=>J6u z)]
 show Yan _ _ (field (.ref j) 1 >>= _) _ _ s
 refine wpAny_bind (wpAny_field e1 e3 (x:=.int i 0) rfl ?_)
 show Yan _ _ (Yba (.ref t) >>= _) _ _ s
 refine wpAny_bind (wpAny_seqItems e4 e5 ?_)
 simp only [Q8,gy]
 refine wpAny_bind (wpAny_rule (wpAny_bind (wpAny_setField e1 e3 (by first | exact mm0 | exact mm1 | exact mm2 | exact mm3 | exact mm4 | exact mm5 | simp) ?_)))
 show Yan _ _ (newExc (.type "StopIteration") [] >>= _) _ _ _;refine wpAny_bind ?_;simp only [newExc,newTuple]
 refine wpAny_bind (wpAny_newObj_type ?_ (by size_fits));refine wpAny_bind (m:=firstArgMember _ _) (wpAny_of_eq (a:=Up) (by first | rfl | (simp only [firstArgMember];rfl)) ?_);refine wpAny_newObj_type ?_ (by size_fits)
 simp only [raiseNew];refine wpAny_bind (wpAny_handled ?_);first | rw [show A.in1.handled=none from hh] | rw [hh]
 refine wpAny_bind (wpAny_pure (wpAny_throw (q _ _ (((J8k ..).extBut.push _).push _) ⟨_,Xa _ rfl,rfl⟩)))
end
def Jcs (b:Bool) (h:Heap) (a:Addr) (vs:Array Yak):Prop:=match b with | true=>h.IsTuple a vs | false=>h.IsList a vs
def ItAt (b:Bool) (h:Heap) (j a:Addr) (i:Nat):Prop:=match b with | true=>h.IsTupleIter j a i | false=>h.IsListIter j a i
theorem Jcs.at {b:Bool}{h h':Heap}{a:Addr}{vs:Array Yak}(x:Jcs b h a vs) (k:∀ o,h.get? a=some o->h'.get? a=some o):Jcs b h' a vs:=by
 cases b with
 | true=>exact let ⟨o,e,r⟩:=x;⟨o,k o e,r⟩
 | false=>exact let ⟨o,e,r⟩:=x;⟨o,k o e,r⟩
theorem ItAt.at {b:Bool}{h h':Heap}{j a:Addr}{i:Nat}(x:ItAt b h j a i) (k:∀ o,h.get? j=some o->h'.get? j=some o):ItAt b h' j a i:=by
 cases b with
 | true=>exact let ⟨o,e,r⟩:=x;⟨o,k o e,r⟩
 | false=>exact let ⟨o,e,r⟩:=x;⟨o,k o e,r⟩
theorem ItAt.obj {b:Bool}{h:Heap}{j a:Addr}{i:Nat}(x:ItAt b h j a i):∃ o,h.get? j=some o/\∀ v,o.data≠.cell v:=by
 cases b with
 | true=>exact let ⟨o,e,_,d⟩:=x;⟨o,e,λ v z=>by rw [d] at z;cases z⟩
 | false=>exact let ⟨o,e,_,d⟩:=x;⟨o,e,λ v z=>by rw [d] at z;cases z⟩
theorem Jao {prog:Yap}{w:Yao}{A:Yaq}(b:Bool) (hh:A.handled=none) (j a:Addr) (hne:a≠j) (vs:Array Yak) :
 Draws prog w A j [j,a] vs.size (λ i v=>vs[i]? = some v) (λ i h=>ItAt b h j a i/\Jcs b h a vs):=by
 cases b with
 | false=>exact Draws.list hh j a hne vs
 | true=>exact {
  live:=λ _ _ st=>let ⟨o,ho,_⟩:=st.1;⟨o,ho⟩
  frame:=λ _ _ _ st hk=>⟨ItAt.at (b:=true) st.1 λ o e=>hk j (by first | exact mm0 | exact mm1 | exact mm2 | exact mm3 | exact mm4 | exact mm5 | simp) o e,Jcs.at (b:=true) st.2 λ o e=>hk a (by first | exact mm0 | exact mm1 | exact mm2 | exact mm3 | exact mm4 | exact mm5 | simp) o e⟩
  item:=λ i s Q E hi st hQ=>by
   have e:vs[i]? = some vs[i]:=by simp [hi]
   exact Jnf st.1 st.2 e λ h' g' sb=>hQ _ h' s.toks e ⟨g',Jcs.at (b:=true) st.2 λ o z=>(sb.2 a hne).trans z⟩ sb
  done:=λ s Q E st hE=>Jqh hh st.1 st.2 (by first | exact mm0 | exact mm1 | exact mm2 | exact mm3 | exact mm4 | exact mm5 | simp) hE }
section
open AutoSeq1 (wpAny_loadPart')
theorem Jqi (l:Addr) (vs:Array Yak) (n:Nat) (dc:Option Addr) (sl:Array (Option Yak)) :
 Meets (Builtin.«enumerate.__new__» ⟨[.type "enumerate",.ref l],[]⟩) (λ _ R s=>s.heap.get? l=some { cls:=.type "tuple",dict:=dc,data:=.seq vs n,slots:=sl } /\
  R (.ok (.ret (.ref (s.heap.push { cls:=.type "tuple_iterator",data:=.fields #[.ref l,.int 0 0] }).objs.size)))
   { s with heap:=(s.heap.push { cls:=.type "tuple_iterator",data:=.fields #[.ref l,.int 0 0] }).push { cls:=.type "enumerate",data:=.fields #[.none,.bool false,.ref s.heap.objs.size,rawInt 0,.none,.none] } }):=
 .of_wp λ prog w A R s h=>by
  obtain ⟨hp,g,d,tk,os⟩:=s;obtain ⟨hl,h⟩:=h;have hsub:=sub_enumerate
  have hL:Heap.IsTuple (J6v ⟨hp,g,d,tk,os⟩) l vs:=⟨_,hl,rfl,n,rfl⟩
  wp_walk using Ya3 hl
  refine wpAny_stack_any λ st=>wpAny_pure ?_
  split
  . rename_i c _ _ _ _ _
    cases (c==U9 "enumerate")<;>(wp_walk using Ya3 hl,Ybm hL;exact ⟨_,rfl,h⟩)
  . wp_walk using Ya3 hl,Ybm hL
    exact ⟨_,rfl,h⟩
end
theorem Jqj {prog:Yap}{w:Yao}{A:Yaq}{E:Yak->Yam->Prop}{s:Yam}(b:Bool) {l:Addr}{vs:Array Yak}{Q:Yak->Yam->Prop}(x:Jcs b s.heap l vs)
 (q:∀ h',IsEnum h' (s.heap.objs.size+1) s.heap.objs.size 0 .none->ItAt b h' s.heap.objs.size l 0->h'.objs.size=s.heap.objs.size+2 ->
  (∀ c o,s.heap.get? c=some o->h'.get? c=some o)->Q (.ref (s.heap.objs.size+1)) { s with heap:=h' }) :
 Yan (model prog w) A (call (.type "enumerate") [.ref l]) Q E s:=by
 cases b with
 | false=>exact call_enumerate_list x q
 | true=>
  obtain ⟨⟨c,dc,dt,sl⟩,hl,hc,n,hd⟩:=x
  replace hc:c = .type "tuple":=hc
  replace hd:dt = .seq vs n:=hd
  subst hc hd
  refine callType_new F.called_enumerate (by decide) (F.typeCall_enumerate_1 _) (F.newCall_enumerate_1 _) (λ obj=>F.args_object_init_2 obj _) F.entry_enumerate_new (Jqi l vs n dc sl) ⟨hl,?_⟩
  have hz:(s.heap.push { cls:=.type "tuple_iterator",data:=.fields #[.ref l,.int 0 0] }).objs.size=s.heap.objs.size+1:=X0 ..
  show _/\_
  rw [hz]
  have he:IsEnum ((s.heap.push { cls:=.type "tuple_iterator",data:=.fields #[.ref l,.int 0 0] }).push { cls:=.type "enumerate",data:=.fields #[.none,.bool false,.ref s.heap.objs.size,rawInt 0,.none,.none] }) (s.heap.objs.size+1) s.heap.objs.size 0 .none:=by
   have z:=Xa (s.heap.push { cls:=.type "tuple_iterator",data:=.fields #[.ref l,.int 0 0] }) (o:={ cls:=.type "enumerate",data:=.fields #[.none,.bool false,.ref s.heap.objs.size,rawInt 0,.none,.none] }) rfl
   rw [hz] at z;exact z
  exact ⟨⟨_,he,rfl⟩,q _ he ⟨_,Qt _ (Xa _ rfl),rfl,rfl⟩ (by rw [X0,hz]) λ c o y=>Qt _ (Qt _ y)⟩
noncomputable def Jix (b:Bool) (l:Addr):Obj:={ cls:=.type (match b with | true=>"tuple_iterator" | false=>"list_iterator"),data:=.fields #[.ref l,.int 0 0] }
theorem Jlj {b:Bool}{h:Heap}{j l:Addr}(e:h.get? j=some (Jix b l)):ItAt b h j l 0:=by
 cases b with
 | true=>exact ⟨_,e,rfl,rfl⟩
 | false=>exact ⟨_,e,rfl,rfl⟩
theorem Jdq {prog:Yap}{w:Yao}{A:Yaq}{E:Yak->Yam->Prop}{s:Yam}{b:Bool}{a:Addr}{vs:Array Yak}{Q:Yak->Yam->Prop}(x:Jcs b s.heap a vs)
 (q:Q (.ref s.heap.objs.size) { s with heap:=s.heap.push (Jix b a) }):Yan (model prog w) A (pyIter (.ref a)) Q E s:=by
 cases b with
 | true=>exact Ybm x q
 | false=>exact wpAny_pyIter_list x q
noncomputable abbrev zz1 (b:Bool) (h:Heap) (l:Addr):Heap:=h.push (Jix b l)
noncomputable abbrev zz2 (b b':Bool) (h:Heap) (l m:Addr):Heap:=(zz1 b h l).push (Jix b' m)
noncomputable abbrev zz3 (b b':Bool) (h:Heap) (l m:Addr):Heap:=(zz2 b b' h l m).push { cls:=.type "tuple",data:=.seq #[.ref h.objs.size,.ref (zz1 b h l).objs.size] }
noncomputable abbrev zz4 (b b':Bool) (h:Heap) (l m:Addr):Heap:=(zz3 b b' h l m).push { cls:=.type "tuple",data:=.seq #[.none,.none] }
noncomputable abbrev zz5 (b b':Bool) (h:Heap) (l m:Addr):Heap:=(zz4 b b' h l m).push { cls:=.type "zip",data:=.fields #[.none,.bool false,.bool false,.ref (zz2 b b' h l m).objs.size,.ref (zz3 b b' h l m).objs.size] }
theorem Jvf (b b':Bool) (l m:Addr) (xs ys:Array Yak) :
 Meets (Builtin.«zip.__new__» ⟨[.type "zip",.ref l,.ref m],[]⟩) (λ _ R s=>Jcs b s.heap l xs/\Jcs b' s.heap m ys /\
  R (.ok (.ret (.ref (zz4 b b' s.heap l m).objs.size))) { s with heap:=zz5 b b' s.heap l m }):=
 .of_wp λ prog w A R s h=>by
  obtain ⟨hp,g,d,tk,os⟩:=s;obtain ⟨x1,x2,h⟩:=h
  have hsub:=sub_zip
  have x1':Jcs b (J6v ⟨hp,g,d,tk,os⟩) l xs:=x1
  have x2':Jcs b' (J6v ⟨hp.push (Jix b l),g,d,tk,os⟩) m ys:=Jcs.at x2 λ o e=>Qt _ e
  wp_walk using Jdq x1',Jdq x2'
  exact ⟨_,rfl,h⟩
structure ZApart (z TI TO j1 j2:Addr) (f1 f2:List Addr):Prop where
 m1:j1∈f1
 m2:j2∈f2
 z1:z∉f1
 z2:z∉f2
 o1:TO∉f1
 o2:TO∉f2
 q1:j1∉f2
 q2:j2∉f1
 iz:TI≠z
 io:TI≠TO
 i1:TI≠j1
 i2:TI≠j2
 oz:TO≠z
theorem ZApart.j1z {z TI TO j1 j2:Addr}{f1 f2:List Addr}(D:ZApart z TI TO j1 j2 f1 f2):j1≠z:=λ e=>D.z1 (e▸D.m1)
theorem ZApart.j2z {z TI TO j1 j2:Addr}{f1 f2:List Addr}(D:ZApart z TI TO j1 j2 f1 f2):j2≠z:=λ e=>D.z2 (e▸D.m2)
theorem ZApart.j1o {z TI TO j1 j2:Addr}{f1 f2:List Addr}(D:ZApart z TI TO j1 j2 f1 f2):j1≠TO:=λ e=>D.o1 (e▸D.m1)
theorem ZApart.j2o {z TI TO j1 j2:Addr}{f1 f2:List Addr}(D:ZApart z TI TO j1 j2 f1 f2):j2≠TO:=λ e=>D.o2 (e▸D.m2)
theorem Vj {a b:Addr}{l:List Addr}(h:a∉l) (hb:b∈l):b≠a:=λ e=>h (e▸hb)
section
variable {prog:Yap}{w:Yao}{A:Yaq}{E:Yak->Yam->Prop}{s:Yam}{z TI TO j1 j2:Addr}{f1 f2:List Addr}{n1 n2 i:Nat}{P1 P2:Nat->Yak->Prop}{St1 St2:Nat->Heap->Prop}{a b:Yak}
theorem Jqk {Q:Yak->Yam->Prop}(D:ZApart z TI TO j1 j2 f1 f2) (D1:Draws prog w A j1 f1 n1 P1 St1) (D2:Draws prog w A j2 f2 n2 P2 St2) (hz:Yax s.heap z TI TO .none) (hI:Yau s.heap TI (.ref j1) (.ref j2)) (hO:Yau s.heap TO a b)
 (st1:St1 i s.heap) (st2:St2 i s.heap) (l1:i<n1) (l2:i<n2)
 (q:∀ x y h' tk,P1 i x->P2 i y->Yax h' z TI TO (rawInt s.heap.objs.size)->Yau h' TO x y->St1 (i+1) h'->St2 (i+1) h'->Yau h' s.heap.objs.size x y->h'.objs.size=s.heap.objs.size+1 ->
  (∀ c o,c≠z->c≠TO->c≠j1->c≠j2->s.heap.get? c=some o->h'.get? c=some o)->Q (.ref s.heap.objs.size) { s with heap:=h',toks:=tk }) :
 Yan (model prog w) A (Builtin.«zip.__next__» ⟨[.ref z],[]⟩) (λ fin s'=>∃ v,fin = .done (.ret v)/\Q v s') E s:=by
 obtain ⟨hp,gg,dd,t0,os⟩:=s
 show Yan _ _ (field (.ref z) 2 >>= _) _ _ _;refine wpAny_bind (wpAny_field hz rfl (x:=.bool false) rfl ?_)
 show Yan _ _ (field (.ref z) 3 >>= _) _ _ _;refine wpAny_bind (wpAny_field hz rfl (x:=.ref TI) rfl ?_)
 refine wpAny_bind (wpAny_seqItems hI rfl ?_)
 show Yan _ _ (J5i (.ref z) >>= _) _ _ _;refine wpAny_bind ?_;unfold J5i
 refine wpAny_bind (wpAny_field hz rfl (x:=.none) rfl (wpAny_pure ?_));simp only [if_true];refine wpAny_bind (wpAny_rule ?_)
 refine wpAny_bind (wpAny_field hz rfl (x:=.ref TO) rfl ?_)
 refine wpAny_bind (wpAny_setField_rec hz (by first | exact mm0 | exact mm1 | exact mm2 | exact mm3 | exact mm4 | exact mm5 | simp) λ g1 z1 b1=>?_);replace z1:Yax g1 z TI TO .ellipsis:=z1;replace b1:Xz z hp g1:=b1
 refine wpAny_bind ?_;simp only [List.zipIdx_cons,List.zipIdx_nil,J6m,J6w]
 refine wpAny_bind (wpAny_bind (wpAny_onRaise ?_))
 show Yan _ _ (J3d (.ref j1) >>= _) _ _ _
 refine wpAny_bind (D1.item i _ _ _ l1 (D1.frame _ _ _ st1 λ c hc o e=>b1.extBut c o (Vj D.z1 hc) e) λ x g2 t2 px s12 b2=>wpAny_pure ?_);replace b2:Xz j1 g1 g2:=b2
 have o2:Yau g2 TO a b:=b2.extBut _ _ (Qh D.j1o) (b1.extBut _ _ D.oz hO)
 refine wpAny_bind (wpAny_seqItems o2 rfl ?_)
 refine wpAny_bind (wpAny_updateSeq_pair o2 λ g3 o3 b3=>?_);replace o3:Yau g3 TO x b:=o3;replace b3:Xz TO g2 g3:=b3
 refine wpAny_bind (wpAny_letGo (wpAny_pure ?_));refine wpAny_bind (wpAny_bind (wpAny_onRaise ?_))
 show Yan _ _ (J3d (.ref j2) >>= _) _ _ _
 refine wpAny_bind (D2.item i _ _ _ l2 (D2.frame _ _ _ st2 λ c hc o e=>b3.extBut c o (Vj D.o2 hc) (b2.extBut c o (Vj D.q1 hc) (b1.extBut c o (Vj D.z2 hc) e))) λ y g4 t4 py s24 b4=>wpAny_pure ?_);replace b4:Xz j2 g3 g4:=b4
 have o4:Yau g4 TO x b:=b4.extBut _ _ (Qh D.j2o) o3
 refine wpAny_bind (wpAny_seqItems o4 rfl ?_)
 refine wpAny_bind (wpAny_updateSeq_pair o4 λ g5 o5 b5=>?_);replace o5:Yau g5 TO x y:=o5;replace b5:Xz TO g4 g5:=b5
 refine wpAny_bind (wpAny_letGo (wpAny_pure (wpAny_pure ?_)))
 refine wpAny_bind (wpAny_seqItems o5 rfl ?_);refine wpAny_bind (wpAny_newTuple ?_)
 have sz:g5.objs.size=hp.objs.size:=by rw [b5.1,b4.1,b3.1,b2.1,b1.1]
 have z5:Yax g5 z TI TO .ellipsis:=b5.extBut _ _ (Qh D.oz) (b4.extBut _ _ (Qh D.j2z) (b3.extBut _ _ (Qh D.oz) (b2.extBut _ _ (Qh D.j1z) z1)))
 have k5:∀ c o,c≠z->c≠TO->c≠j1->c≠j2->hp.get? c=some o->g5.get? c=some o:=λ c o c1 c2 c3 c4 e=>b5.extBut _ _ c2 (b4.extBut _ _ c4 (b3.extBut _ _ c2 (b2.extBut _ _ c3 (b1.extBut _ _ c1 e))))
 have s15:St1 (i+1) g5:=D1.frame _ _ _ s12 λ c hc o e=>b5.extBut c o (Vj D.o1 hc) (b4.extBut c o (Vj D.q2 hc) (b3.extBut c o (Vj D.o1 hc) e))
 have s25:St2 (i+1) g5:=D2.frame _ _ _ s24 λ c hc o e=>b5.extBut c o (Vj D.o2 hc) e
 have zl:z<g5.objs.size:=Qr z5
 show Yan _ _ (J8n (.ref z) (.ref g5.objs.size) >>= _) _ _ _;refine wpAny_bind ?_;unfold J8n
 have z6:Yax (g5.push { cls:=.type "tuple",data:=.seq #[x,y] }) z TI TO .ellipsis:=Qt _ z5
 refine wpAny_bind (wpAny_setField_rec z6 (by first | exact mm0 | exact mm1 | exact mm2 | exact mm3 | exact mm4 | exact mm5 | simp) λ g7 z7 b7=>?_);replace z7:Yax g7 z TI TO (rawInt g5.objs.size):=z7
 refine wpAny_setField_rec z7 (by first | exact mm0 | exact mm1 | exact mm2 | exact mm3 | exact mm4 | exact mm5 | simp) λ g8 z8 b8=>?_;replace z8:Yax g8 z TI TO (rawInt g5.objs.size):=z8
 have up:∀ c o,c≠z->g5.get? c=some o->g8.get? c=some o:=λ c o c1 e=>b8.extBut _ _ c1 (b7.extBut _ _ c1 (Qt _ e))
 have t8:Yau g8 g5.objs.size x y:=b8.extBut _ _ (J4c zl) (b7.extBut _ _ (J4c zl) (Xa _ rfl))
 have s8:g8.objs.size=g5.objs.size+1:=by rw [b8.1,b7.1,X0]
 rw [sz] at z8 t8 s8
 refine wpAny_pure ⟨_,rfl,?_⟩;show Q (.ref g5.objs.size) _;rw [sz]
 exact q x y g8 t4 px py z8 (up _ _ D.oz o5) (D1.frame _ _ _ s15 λ c hc o e=>up c o (Vj D.z1 hc) e) (D2.frame _ _ _ s25 λ c hc o e=>up c o (Vj D.z2 hc) e) t8 s8 λ c o c1 c2 c3 c4 e=>up c o c1 (k5 c o c1 c2 c3 c4 e)
theorem Jsd {Q:Fin->Yam->Prop}(D:ZApart z TI TO j1 j2 f1 f2) (D1:Draws prog w A j1 f1 n1 P1 St1) (D2:Draws prog w A j2 f2 n2 P2 St2) (hz:Yax s.heap z TI TO .none) (hI:Yau s.heap TI (.ref j1) (.ref j2)) (hO:Yau s.heap TO a b)
 (st1:St1 i s.heap) (st2:St2 i s.heap) (hend:i=n1\/(i<n1/\i=n2))
 (q:∀ h' e tk,(∀ c o,c≠z->c≠TO->c≠j1->c≠j2->s.heap.get? c=some o->h'.get? c=some o)->(∃ o,h'.get? e=some o/\o.cls = .type "StopIteration")->E (.ref e) { s with heap:=h',toks:=tk }) :
 Yan (model prog w) A (Builtin.«zip.__next__» ⟨[.ref z],[]⟩) Q E s:=by
 obtain ⟨hp,gg,dd,t0,os⟩:=s
 show Yan _ _ (field (.ref z) 2 >>= _) _ _ _;refine wpAny_bind (wpAny_field hz rfl (x:=.bool false) rfl ?_)
 show Yan _ _ (field (.ref z) 3 >>= _) _ _ _;refine wpAny_bind (wpAny_field hz rfl (x:=.ref TI) rfl ?_)
 refine wpAny_bind (wpAny_seqItems hI rfl ?_)
 show Yan _ _ (J5i (.ref z) >>= _) _ _ _;refine wpAny_bind ?_;unfold J5i
 refine wpAny_bind (wpAny_field hz rfl (x:=.none) rfl (wpAny_pure ?_));simp only [if_true];refine wpAny_bind (wpAny_rule ?_)
 refine wpAny_bind (wpAny_field hz rfl (x:=.ref TO) rfl ?_)
 refine wpAny_bind (wpAny_setField_rec hz (by first | exact mm0 | exact mm1 | exact mm2 | exact mm3 | exact mm4 | exact mm5 | simp) λ g1 z1 b1=>?_);replace z1:Yax g1 z TI TO .ellipsis:=z1;replace b1:Xz z hp g1:=b1
 refine wpAny_bind ?_;simp only [List.zipIdx_cons,List.zipIdx_nil,J6m,J6w]
 refine wpAny_bind (wpAny_bind (wpAny_onRaise ?_))
 show Yan _ _ (J3d (.ref j1) >>= _) _ _ _
 have s11:=D1.frame _ _ _ st1 λ c hc o e=>b1.extBut c o (Vj D.z1 hc) e
 rcases hend with he | ⟨l1,he⟩
 . subst he
   refine wpAny_bind (D1.done _ _ _ s11 λ g2 e b2 he=>?_)
   obtain ⟨oe,hoe,hce⟩:=he
   have z2:Yax g2 z TI TO .ellipsis:=b2 _ _ (Qh D.j1z) z1
   have ez:e≠z:=λ x=>by subst x;rw [z2] at hoe;cases hoe;simp at hce
   refine wpAny_setField_rec z2 (by first | exact mm0 | exact mm1 | exact mm2 | exact mm3 | exact mm4 | exact mm5 | simp) λ g3 _ b3=>?_
   exact q g3 e t0 (λ c o c1 _ c3 _ x=>b3.extBut _ _ c1 (b2 _ _ c3 (b1.extBut _ _ c1 x))) ⟨oe,b3.extBut _ _ ez hoe,hce⟩
 . subst he
   refine wpAny_bind (D1.item i _ _ _ l1 s11 λ x g2 t2 px s12 b2=>wpAny_pure ?_);replace b2:Xz j1 g1 g2:=b2
   have o2:Yau g2 TO a b:=b2.extBut _ _ (Qh D.j1o) (b1.extBut _ _ D.oz hO)
   refine wpAny_bind (wpAny_seqItems o2 rfl ?_)
   refine wpAny_bind (wpAny_updateSeq_pair o2 λ g3 o3 b3=>?_);replace b3:Xz TO g2 g3:=b3
   refine wpAny_bind (wpAny_letGo (wpAny_pure ?_));refine wpAny_bind (wpAny_bind (wpAny_onRaise ?_))
   show Yan _ _ (J3d (.ref j2) >>= _) _ _ _
   refine wpAny_bind (D2.done _ _ _ (D2.frame _ _ _ st2 λ c hc o e=>b3.extBut c o (Vj D.o2 hc) (b2.extBut c o (Vj D.q1 hc) (b1.extBut c o (Vj D.z2 hc) e))) λ g4 e b4 he=>?_)
   obtain ⟨oe,hoe,hce⟩:=he
   have z4:Yax g4 z TI TO .ellipsis:=b4 _ _ (Qh D.j2z) (b3.extBut _ _ (Qh D.oz) (b2.extBut _ _ (Qh D.j1z) z1))
   have ez:e≠z:=λ x=>by subst x;rw [z4] at hoe;cases hoe;simp at hce
   refine wpAny_setField_rec z4 (by first | exact mm0 | exact mm1 | exact mm2 | exact mm3 | exact mm4 | exact mm5 | simp) λ g5 _ b5=>?_
   exact q g5 e t2 (λ c o c1 c2 c3 c4 x=>b5.extBut _ _ c1 (b4 _ _ c4 (b3.extBut _ _ c2 (b2.extBut _ _ c3 (b1.extBut _ _ c1 x))))) ⟨oe,b5.extBut _ _ ez hoe,hce⟩
theorem Jgu {Q:Option Yak->Yam->Prop}(D:ZApart z TI TO j1 j2 f1 f2) (D1:Draws prog w A.in1 j1 f1 n1 P1 St1) (D2:Draws prog w A.in1 j2 f2 n2 P2 St2) (hz:Yax s.heap z TI TO .none) (hI:Yau s.heap TI (.ref j1) (.ref j2)) (hO:Yau s.heap TO a b)
 (st1:St1 i s.heap) (st2:St2 i s.heap) (l1:i<n1) (l2:i<n2)
 (q:∀ x y h' tk,P1 i x->P2 i y->Yax h' z TI TO (rawInt s.heap.objs.size)->Yau h' TO x y->St1 (i+1) h'->St2 (i+1) h'->Yau h' s.heap.objs.size x y->h'.objs.size=s.heap.objs.size+1 ->
  (∀ c o,c≠z->c≠TO->c≠j1->c≠j2->s.heap.get? c=some o->h'.get? c=some o)->Q (some (.ref s.heap.objs.size)) { s with heap:=h',toks:=tk }) :
 Yan (model prog w) A (pyNext (.ref z)) Q E s:=by
 have hT:s.TypeIs (.ref z) "zip":=⟨_,hz,rfl⟩
 unfold pyNext
 exact wpAny_bind (wpAny_attempt (Ybq (name:=J3e "__next__") hT J5j (wpAny_call_entry J5j hT J8o
  (Jqk D D1 D2 hz hI hO st1 st2 l1 l2 λ x y h' tk a1 a2 a3 a4 a5 a6 a7 a8 a9=>wpAny_pure (q x y h' tk a1 a2 a3 a4 a5 a6 a7 a8 a9)) (J8p _))))
theorem Jid {Q:Option Yak->Yam->Prop}(D:ZApart z TI TO j1 j2 f1 f2) (D1:Draws prog w A.in1 j1 f1 n1 P1 St1) (D2:Draws prog w A.in1 j2 f2 n2 P2 St2) (hz:Yax s.heap z TI TO .none) (hI:Yau s.heap TI (.ref j1) (.ref j2)) (hO:Yau s.heap TO a b)
 (st1:St1 i s.heap) (st2:St2 i s.heap) (hend:i=n1\/(i<n1/\i=n2))
 (q:∀ h' tk,(∀ c o,c≠z->c≠TO->c≠j1->c≠j2->s.heap.get? c=some o->h'.get? c=some o)->Q none { s with heap:=h',toks:=tk }):Yan (model prog w) A (pyNext (.ref z)) Q E s:=by
 have hT:s.TypeIs (.ref z) "zip":=⟨_,hz,rfl⟩
 unfold pyNext
 refine wpAny_bind (wpAny_attempt (Ybq (name:=J3e "__next__") hT J5j (wpAny_call_entry J5j hT J8o (Jsd D D1 D2 hz hI hO st1 st2 hend λ h' e tk hk he=>?_) (J8p _))))
 obtain ⟨o,ho,hc⟩:=he
 refine wpAny_bind (wpAny_isInstance (T:="StopIteration") (b:=true) ⟨o,ho,hc⟩ isSubtype_stop ?_)
 exact wpAny_pure (q _ _ hk)
end
theorem Jql {prog:Yap}{w:Yao}{A:Yaq}{E:Yak->Yam->Prop}{s:Yam}(b b':Bool) {l m:Addr}{xs ys:Array Yak}{Q:Yak->Yam->Prop}(x1:Jcs b s.heap l xs) (x2:Jcs b' s.heap m ys)
 (q:∀ h',Yax h' (s.heap.objs.size+4) (s.heap.objs.size+2) (s.heap.objs.size+3) .none->Yau h' (s.heap.objs.size+2) (.ref s.heap.objs.size) (.ref (s.heap.objs.size+1)) ->
  Yau h' (s.heap.objs.size+3) .none .none->ItAt b h' s.heap.objs.size l 0->ItAt b' h' (s.heap.objs.size+1) m 0->h'.objs.size=s.heap.objs.size+5 ->
  (∀ c o,s.heap.get? c=some o->h'.get? c=some o)->Q (.ref (s.heap.objs.size+4)) { s with heap:=h' }) :
 Yan (model prog w) A (call (.type "zip") [.ref l,.ref m]) Q E s:=by
 refine callType_new F.called_zip (by decide) (F.typeCall_zip_2 _ _) (F.newCall_zip_2 _ _) (λ obj=>F.args_object_init_3 obj _ _) F.entry_zip_new (Jvf b b' l m xs ys) ⟨x1,x2,?_⟩
 have y1:(zz1 b s.heap l).objs.size=s.heap.objs.size+1:=X0 ..
 have y2:(zz2 b b' s.heap l m).objs.size=s.heap.objs.size+2:=by rw [X0,y1]
 have y3:(zz3 b b' s.heap l m).objs.size=s.heap.objs.size+3:=by rw [X0,y2]
 have y4:(zz4 b b' s.heap l m).objs.size=s.heap.objs.size+4:=by rw [X0,y3]
 have y5:(zz5 b b' s.heap l m).objs.size=s.heap.objs.size+5:=by rw [X0,y4]
 have fr:∀ b l,(Jix b l).isFreed=false:=λ b l=>by cases b<;>rfl
 have g5:(zz5 b b' s.heap l m).get? (zz4 b b' s.heap l m).objs.size=some _:=Xa _ rfl
 have g4:(zz5 b b' s.heap l m).get? (zz3 b b' s.heap l m).objs.size=some _:=Qt _ (Xa _ rfl)
 have g3:(zz5 b b' s.heap l m).get? (zz2 b b' s.heap l m).objs.size=some _:=Qt _ (Qt _ (Xa _ rfl))
 have g2:(zz5 b b' s.heap l m).get? (zz1 b s.heap l).objs.size=some _:=Qt _ (Qt _ (Qt _ (Xa _ (fr b' m))))
 have g1:(zz5 b b' s.heap l m).get? s.heap.objs.size=some _:=Qt _ (Qt _ (Qt _ (Qt _ (Xa _ (fr b l)))))
 show _/\_
 rw [y2,y3,y4] at g5;rw [y1,y2] at g3;rw [y3] at g4;rw [y1] at g2;rw [y4]
 exact ⟨⟨_,g5,rfl⟩,q _ g5 g3 g4 (Jlj g1) (Jlj g2) y5 λ c o x=>Qt _ (Qt _ (Qt _ (Qt _ (Qt _ x))))⟩
def SqK (b:Bool) (K:Qb) (H:Hp) (a:Addr) (xs:List V):Prop:=match b with | true=>SqT K H a xs | false=>SqL K H a xs
section
variable {X:Cx}{pins:List (Addr×Obj)}{σ:St}{H:Hp}{s:Yam}{a c:Addr}{xs ys:List V}{b:Bool}{h':Heap}
theorem Inv.seqK (I:Inv X pins σ H s) (h:SqK b X.K H a xs):∃ its:List Yak,J4 xs its/\Jcs b s.heap a its.toArray/\xs.length<=sizeLine:=by
 cases b with
 | true=>exact let ⟨its,r,p,z⟩:=I.tuple h;⟨its,r,p,z⟩
 | false=>exact let ⟨its,r,p,z⟩:=I.list h;⟨its,r,p.isList,z⟩
theorem Inv.seqK_inj (I:Inv X pins σ H s) (h:SqK b X.K H a xs) (h':SqK b X.K H a ys):xs=ys:=by
 cases b with
 | true=>exact I.tuple_inj h h'
 | false=>exact I.list_inj h h'
theorem Inv.seqK_ne (I:Inv X pins σ H s) (h:SqK b X.K H a xs) (f:Jfs X pins H c):a≠c:=by
 have base:∀ o,X.K.lookup a=some o->a≠c:=λ o hk e=>by
  have e1:=I.ok.mod.kin a o hk
  rcases f.2.2.2.1 with z | z
  . exact I.ok.noex a o e1 (e▸z)
  . exact absurd (Qy (Qr e1) (Xj I.ok.bsz (e▸z))) (Q9 _)
 cases b with
 | true=>
  rcases h with (q | ⟨o,q⟩) | ⟨o,_,_,hk,_⟩
  . exact Jl q f.1
  . exact Jl q f.1
  . exact base o hk
 | false=>
  rcases h with (q | ⟨o,q⟩) | ⟨o,_,_,hk,_⟩
  . exact Jl q f.1
  . exact Jl q f.1
  . exact base o hk
theorem Inv.turnedL {t':Nat}{fp:List Addr}(I:Inv X pins σ H s) (k:∀ b o,b∉fp->s.heap.get? b=some o->h'.get? b=some o) (hf:∀ b∈fp,Jfs X pins H b):Inv X pins σ H { s with heap:=h',toks:=t' }:=by
 refine I.step (g':=s.gens) (d':=s.drawn) (ch:=fp) (λ b hb=>⟨(hf b hb).2.2.2.1,(hf b hb).2.1,(hf b hb).2.2.2.2.1,(hf b hb).2.2.2.2.2⟩) (λ b o _ _ hc e _=>k b o hc e) (λ b o _ _ hc e _=>⟨o.slots,k b o hc e⟩) (λ _ _ _ _ n=>n)
  (λ b o hc e=>⟨o,k b o hc e⟩) (λ _ _ e=>e) (λ _ _ _ e=>e) (λ b ps e=>⟨#[],by rw [e];simp⟩) (λ m hm=>?_) (λ b u e=>?_) I.bare
 . obtain ⟨o,es,ep,ho,r⟩:=hm
   exact ⟨o,es,ep,k _ o (λ z=>(hf _ z).2.1 rfl) ho,r⟩
 . refine (I.hok b u e).stay (λ c v hc q=>k c v (λ z=>?_) q) (λ _ q=>q) λ _ _ q=>q
   have hn:=(hf c z).1
   rcases hc with hc | hc
   . rw [hc,e] at hn;cases hn
   . rw [hc] at hn;cases hn
theorem Inv.turnLay {t':Nat}{fp:List Addr}{p:Addr}{o:HO}(I:Inv X pins σ H s) (k:∀ b o,b∉fp->s.heap.get? b=some o->h'.get? b=some o) (hf:∀ b∈fp,Jfs X pins H b)
 (hp:s.heap.objs.size<=p) (new:Zs X.prog X.w (upd H p o) h' p o):Inv X pins σ (upd H p o) { s with heap:=h',toks:=t' }:=by
 have hn:=I.hok.fresh hp
 refine I.step (g':=s.gens) (d':=s.drawn) (ch:=fp) (λ b hb=>⟨(hf b hb).2.2.2.1,(hf b hb).2.1,(hf b hb).2.2.2.2.1,(hf b hb).2.2.2.2.2⟩) (λ b o _ _ hc e _=>k b o hc e) (λ b o _ _ hc e _=>⟨o.slots,k b o hc e⟩) (λ b ob _ e n=>?_)
  (λ b o hc e=>⟨o,k b o hc e⟩) (λ b xs e=>?_) (λ b _ _ e=>?_) (λ b ps e=>⟨#[],?_⟩) (λ m hm=>?_) (λ b u e=>?_) I.bare
 . have hbp:b≠p:=Xg (Qy (Qr e) hp);rw [Je hbp];exact n
 . rw [Je (Jl e hn)];exact e
 . rw [Je (Jl e hn)];exact e
 . rw [Je (Jl e hn)];simpa using e
 . obtain ⟨o,es,ep,ho,r⟩:=hm
   exact ⟨o,es,ep,k _ o (λ z=>(hf _ z).2.1 rfl) ho,r⟩
 . by_cases hb:b=p
   . subst hb
     rw [Jf] at e;cases e
     exact new
   . rw [Je hb] at e
     refine (I.hok b u e).stay (λ c v hc q=>k c v (λ z=>?_) q) (λ c q=>by rw [Je (Jl q hn)];exact q) λ c _ q=>by rw [Je (Jl q hn)];exact q
     have hn:=(hf c z).1
     rcases hc with hc | hc
     . rw [hc,e] at hn;cases hn
     . rw [hc] at hn;cases hn
end
noncomputable def Ite (b:Bool) (K:Qb) (a:Addr):It:=
 ⟨λ i H=>∃ xs x,SqK b K H a xs/\xs[i]? = some x,λ i H v H'=>∃ p y,H p=none/\H'=upd H p (.tup [.int i,y])/\v = .ref p/\∀ xs,SqK b K H a xs->xs[i]? = some y,λ i H=>∃ xs,SqK b K H a xs/\xs.length=i⟩
noncomputable def Itz (b b':Bool) (K:Qb) (a c:Addr):It:=
 ⟨λ i H=>∃ xs ys x y,SqK b K H a xs/\SqK b' K H c ys/\xs[i]? = some x/\ys[i]? = some y,λ i H v H'=>∃ p x y,H p=none/\H'=upd H p (.tup [x,y])/\v = .ref p/\(∀ xs,SqK b K H a xs->xs[i]? = some x)/\∀ ys,SqK b' K H c ys->ys[i]? = some y,
  λ i H=>∃ xs ys,SqK b K H a xs/\SqK b' K H c ys/\min xs.length ys.length=i⟩
theorem Jqm {P:Yap}{w:Yao}{K:Qb}{es:List Expr}{kk:Nat}{tp:Pos}(b:Bool) (a e j:Addr) (hej:e≠j):Turn P w K (.Tuple es kk tp) (Ite b K a) [e,j] e (λ i h=>(∃ old,IsEnum h e j i old)/\ItAt b h j a i) where
 mem:=by simp
 obj:=λ i h st c hc=>by
  obtain ⟨⟨old,he⟩,hj⟩:=st
  rcases Qd.mp hc with rfl | hc
  . exact ⟨_,he,λ v z=>by have z':J57 _=J4d v:=z;cases z'⟩
  . rw [Qu.mp hc];exact hj.obj
 keep:=λ i h h' st k=>by
  obtain ⟨⟨old,he⟩,hj⟩:=st
  exact ⟨⟨old,k e (by first | exact mm0 | exact mm1 | exact mm2 | exact mm3 | exact mm4 | exact mm5 | simp) _ he⟩,hj.at λ o q=>k j (by first | exact mm0 | exact mm1 | exact mm2 | exact mm3 | exact mm4 | exact mm5 | simp) o q⟩
 item:=by
  intro X hP hw hK hc i pins s σ H E I hf st hg
  subst hP hw hK
  obtain ⟨xs,x,hq,hx⟩:=hg
  obtain ⟨its,rv,p,hz⟩:=I.seqK hq
  obtain ⟨u,hu,ru⟩:=rv.get hx
  obtain ⟨⟨old,he⟩,hj⟩:=st
  have nae:=I.seqK_ne hq (hf e (by first | exact mm0 | exact mm1 | exact mm2 | exact mm3 | exact mm4 | exact mm5 | simp))
  have naj:=I.seqK_ne hq (hf j (by first | exact mm0 | exact mm1 | exact mm2 | exact mm3 | exact mm4 | exact mm5 | simp))
  have hlt:i<its.toArray.size:=by
   have:=(Qv.mp hu).1
   simpa using this
  refine wpAny_pyNext_enum_itemD (Jao b (A:=X.A.in1) (I.ok.hd hc) j a naj its.toArray) he ⟨hj,p⟩ hlt hej (by simp;exact ⟨hej,Qh nae⟩) λ y h1 tk hP ho st1 hT hsz hk=>?_
  have ey:y=u:=by
   have hP:its.toArray[i]? = some y:=hP
   have:its[i]? = some y:=by simpa using hP
   rw [hu] at this;exact (Xp this).symm
  subst ey
  refine ⟨_,rfl,wpAny_letOwnedTupleGo_enum ho λ h2 he2 hs2=>?_⟩
  replace hs2:Xz e h1 h2:=hs2
  have hes:e<s.heap.objs.size:=Qr he
  have hjs:j<s.heap.objs.size:=by obtain ⟨o,q,_⟩:=hj.obj;exact Qr q
  have kk:∀ c o,c∉[e,j]->s.heap.get? c=some o->h2.get? c=some o:=λ c o hc q=>by
   have h1':c≠e:=λ z=>hc (by simp [z])
   exact hs2.extBut _ _ h1' (hk c o h1' (λ z=>hc (by simp [z])) q)
  refine ⟨.ref s.heap.objs.size,upd H s.heap.objs.size (.tup [.int i,x]),I.turnLay (t':=tk+1) kk hf (Ql _) ?_,rfl,⟨_,x,I.hok.fresh (Ql _),rfl,rfl,λ ys hy=>by rw [I.seqK_inj hy hq];exact hx⟩,⟨⟨y,by simpa using he2⟩,st1.1.at λ o q=>hs2.extBut _ _ (Qh hej) q⟩,λ c hc=>?_⟩
  . exact ⟨by simp [Yar],[.int i tk,y],.cons ⟨tk,rfl⟩ (.cons ru .nil),_,hs2.extBut _ _ (J4c hes) hT,rfl,0,rfl⟩
  . rw [Je]
    . exact (hf c hc).1
    . rcases Qd.mp hc with rfl | hc
      . exact Xg hes
      . rw [Qu.mp hc];exact Xg hjs
 done:=by
  intro X hP hw hK hc i pins s σ H E I hf st hg
  subst hP hw hK
  obtain ⟨xs,hq,hx⟩:=hg
  obtain ⟨its,rv,p,hz⟩:=I.seqK hq
  obtain ⟨⟨old,he⟩,hj⟩:=st
  have naj:=I.seqK_ne hq (hf j (by first | exact mm0 | exact mm1 | exact mm2 | exact mm3 | exact mm4 | exact mm5 | simp))
  have hl:=rv.length
  have hn:its.toArray.size=i:=by simp;omega
  refine wpAny_pyNext_enum_endD (Jao b (A:=X.A.in1) (I.ok.hd hc) j a naj its.toArray) he (by rw [hn];exact ⟨hj,p⟩) λ h1 hk=>⟨rfl,?_⟩
  exact I.turnedL (t':=s.toks) (λ c o hc q=>hk c o (λ z=>hc (by simp [z])) q) hf
 self:=λ _ _ _ _ _ st q=>by
  obtain ⟨⟨old,he⟩,_⟩:=st
  exact wpAny_pyIter_enum he q
theorem Jse {P:Yap}{w:Yao}{K:Qb}{es:List Expr}{kk:Nat}{tp:Pos}(b b':Bool) (a c z TI TO j1 j2:Addr) (dz:[z,TI,TO,j1,j2].Nodup) :
 Turn P w K (.Tuple es kk tp) (Itz b b' K a c) [z,TI,TO,j1,j2] z (λ i h=>Yax h z TI TO .none/\Yau h TI (.ref j1) (.ref j2)/\(∃ u v,Yau h TO u v)/\ItAt b h j1 a i/\ItAt b' h j2 c i) where
 mem:=by simp
 obj:=λ i h st d hd=>by
  obtain ⟨hz,hI,⟨u,v,hO⟩,h1,h2⟩:=st
  have notup:∀ (o:Obj) {w:Yak} {vs:Array Yak} {n:Nat},o.data = .seq vs n->o.data≠.cell w:=λ o w vs n e z=>by rw [e] at z;cases z
  rcases Qd.mp hd with rfl | hd
  . exact ⟨_,hz,λ v z=>by have z':J57 _=J4d v:=z;cases z'⟩
  . rcases Qd.mp hd with rfl | hd
    . exact ⟨_,hI,λ w z=>by have z':J4m _ _=J4d w:=z;cases z'⟩
    . rcases Qd.mp hd with rfl | hd
      . exact ⟨_,hO,λ w z=>by have z':J4m _ _=J4d w:=z;cases z'⟩
      . rcases Qd.mp hd with rfl | hd
        . exact h1.obj
        . rw [Qu.mp hd];exact h2.obj
 keep:=λ i h h' st k=>by
  obtain ⟨hz,hI,⟨u,v,hO⟩,h1,h2⟩:=st
  exact ⟨k z (by first | exact mm0 | exact mm1 | exact mm2 | exact mm3 | exact mm4 | exact mm5 | simp) _ hz,k TI (by first | exact mm0 | exact mm1 | exact mm2 | exact mm3 | exact mm4 | exact mm5 | simp) _ hI,⟨u,v,k TO (by first | exact mm0 | exact mm1 | exact mm2 | exact mm3 | exact mm4 | exact mm5 | simp) _ hO⟩,h1.at λ o q=>k j1 (by first | exact mm0 | exact mm1 | exact mm2 | exact mm3 | exact mm4 | exact mm5 | simp) o q,h2.at λ o q=>k j2 (by first | exact mm0 | exact mm1 | exact mm2 | exact mm3 | exact mm4 | exact mm5 | simp) o q⟩
 item:=by
  intro X hP hw hK hc i pins s σ H E I hf st hg
  subst hP hw hK
  obtain ⟨xs,ys,x,y,hq,hq',hx,hy⟩:=hg
  obtain ⟨its,rv,p,_⟩:=I.seqK hq
  obtain ⟨its',rv',p',_⟩:=I.seqK hq'
  obtain ⟨u,hu,ru⟩:=rv.get hx
  obtain ⟨u',hu',ru'⟩:=rv'.get hy
  obtain ⟨hz,hI,⟨o1,o2,hO⟩,h1,h2⟩:=st
  have na:=λ d hd=>I.seqK_ne hq (hf d hd)
  have na':=λ d hd=>I.seqK_ne hq' (hf d hd)
  simp only [Xs,Qd,Ub,or_false,not_or] at dz
  obtain ⟨⟨d1,d2,d3,d4⟩,⟨d5,d6,d7⟩,⟨d8,d9⟩,d10,_⟩:=dz
  have hlt:i<its.toArray.size:=by have:=(Qv.mp hu).1;simpa using this
  have hlt':i<its'.toArray.size:=by have:=(Qv.mp hu').1;simpa using this
  have D:ZApart z TI TO j1 j2 [j1,a] [j2,c]:=⟨by simp,by simp,by simp;exact ⟨d3,Qh (na z (by first | exact mm0 | exact mm1 | exact mm2 | exact mm3 | exact mm4 | exact mm5 | simp))⟩,by simp;exact ⟨d4,Qh (na' z (by first | exact mm0 | exact mm1 | exact mm2 | exact mm3 | exact mm4 | exact mm5 | simp))⟩,by simp;exact ⟨d8,Qh (na TO (by first | exact mm0 | exact mm1 | exact mm2 | exact mm3 | exact mm4 | exact mm5 | simp))⟩,by simp;exact ⟨d9,Qh (na' TO (by first | exact mm0 | exact mm1 | exact mm2 | exact mm3 | exact mm4 | exact mm5 | simp))⟩,
   by simp;exact ⟨d10,Qh (na' j1 (by first | exact mm0 | exact mm1 | exact mm2 | exact mm3 | exact mm4 | exact mm5 | simp))⟩,by simp;exact ⟨Qh d10,Qh (na j2 (by first | exact mm0 | exact mm1 | exact mm2 | exact mm3 | exact mm4 | exact mm5 | simp))⟩,Qh d1,d5,d6,d7,Qh d2⟩
  refine Jgu D (Jao b (A:=X.A.in1) (I.ok.hd hc) j1 a (na j1 (by first | exact mm0 | exact mm1 | exact mm2 | exact mm3 | exact mm4 | exact mm5 | simp)) its.toArray) (Jao b' (A:=X.A.in1) (I.ok.hd hc) j2 c (na' j2 (by first | exact mm0 | exact mm1 | exact mm2 | exact mm3 | exact mm4 | exact mm5 | simp)) its'.toArray) hz hI hO ⟨h1,p⟩ ⟨h2,p'⟩ hlt hlt' λ v v' g1 tk e1 e2 z1 O1 s1 s2 T1 sz1 k1=>?_
  have ev:v=u:=by
   have e1:its.toArray[i]? = some v:=e1
   have:its[i]? = some v:=by simpa using e1
   rw [hu] at this;exact (Xp this).symm
  have ev':v'=u':=by
   have e2:its'.toArray[i]? = some v':=e2
   have:its'[i]? = some v':=by simpa using e2
   rw [hu'] at this;exact (Xp this).symm
  subst ev ev'
  refine ⟨_,rfl,wpAny_letOwnedTupleGo_zip z1 λ g2 z2 b2=>?_⟩
  replace b2:Xz z g1 g2:=b2
  have hzs:z<s.heap.objs.size:=Qr hz
  have kk:∀ d o,d∉[z,TI,TO,j1,j2]->s.heap.get? d=some o->g2.get? d=some o:=λ d o hd q=>by
   have h1':d≠z:=(by first | exact mn0 hd | exact mn1 hd | exact mn2 hd | exact mn3 hd | exact mn4 hd | exact mn5 hd)
   exact b2.extBut _ _ h1' (k1 d o h1' (by first | exact mn0 hd | exact mn1 hd | exact mn2 hd | exact mn3 hd | exact mn4 hd | exact mn5 hd) (by first | exact mn0 hd | exact mn1 hd | exact mn2 hd | exact mn3 hd | exact mn4 hd | exact mn5 hd) (by first | exact mn0 hd | exact mn1 hd | exact mn2 hd | exact mn3 hd | exact mn4 hd | exact mn5 hd) q)
  refine ⟨.ref s.heap.objs.size,upd H s.heap.objs.size (.tup [x,y]),I.turnLay (t':=tk) kk hf (Ql _) ?_,rfl,⟨_,x,y,I.hok.fresh (Ql _),rfl,rfl,λ zs hy=>by rw [I.seqK_inj hy hq];exact hx,λ zs hy'=>by rw [I.seqK_inj hy' hq'];exact hy⟩,
   ⟨z2,b2.extBut _ _ (Qh d1) (k1 _ _ (Qh d1) d5 d6 d7 hI),⟨_,_,b2.extBut _ _ (Qh d2) O1⟩,s1.1.at λ o q=>b2.extBut _ _ (Qh d3) q,s2.1.at λ o q=>b2.extBut _ _ (Qh d4) q⟩,λ d hd=>?_⟩
  . exact ⟨by simp [Yar],[v,v'],.cons ru (.cons ru' .nil),_,b2.extBut _ _ (J4c hzs) T1,rfl,0,rfl⟩
  . have lt:d<s.heap.objs.size:=by
     rcases Qd.mp hd with rfl | hd
     . exact hzs
     . rcases Qd.mp hd with rfl | hd
       . exact Qr hI
       . rcases Qd.mp hd with rfl | hd
         . exact Qr hO
         . rcases Qd.mp hd with rfl | hd
           . obtain ⟨o,q,_⟩:=h1.obj;exact Qr q
           . rw [Qu.mp hd];obtain ⟨o,q,_⟩:=h2.obj;exact Qr q
    rw [Je (Xg lt)]
    exact (hf d hd).1
 done:=by
  intro X hP hw hK hc i pins s σ H E I hf st hg
  subst hP hw hK
  obtain ⟨xs,ys,hq,hq',hm⟩:=hg
  obtain ⟨its,rv,p,_⟩:=I.seqK hq
  obtain ⟨its',rv',p',_⟩:=I.seqK hq'
  obtain ⟨hz,hI,⟨o1,o2,hO⟩,h1,h2⟩:=st
  have na:=λ d hd=>I.seqK_ne hq (hf d hd)
  have na':=λ d hd=>I.seqK_ne hq' (hf d hd)
  simp only [Xs,Qd,Ub,or_false,not_or] at dz
  obtain ⟨⟨d1,d2,d3,d4⟩,⟨d5,d6,d7⟩,⟨d8,d9⟩,d10,_⟩:=dz
  have D:ZApart z TI TO j1 j2 [j1,a] [j2,c]:=⟨by simp,by simp,by simp;exact ⟨d3,Qh (na z (by first | exact mm0 | exact mm1 | exact mm2 | exact mm3 | exact mm4 | exact mm5 | simp))⟩,by simp;exact ⟨d4,Qh (na' z (by first | exact mm0 | exact mm1 | exact mm2 | exact mm3 | exact mm4 | exact mm5 | simp))⟩,by simp;exact ⟨d8,Qh (na TO (by first | exact mm0 | exact mm1 | exact mm2 | exact mm3 | exact mm4 | exact mm5 | simp))⟩,by simp;exact ⟨d9,Qh (na' TO (by first | exact mm0 | exact mm1 | exact mm2 | exact mm3 | exact mm4 | exact mm5 | simp))⟩,
   by simp;exact ⟨d10,Qh (na' j1 (by first | exact mm0 | exact mm1 | exact mm2 | exact mm3 | exact mm4 | exact mm5 | simp))⟩,by simp;exact ⟨Qh d10,Qh (na j2 (by first | exact mm0 | exact mm1 | exact mm2 | exact mm3 | exact mm4 | exact mm5 | simp))⟩,Qh d1,d5,d6,d7,Qh d2⟩
  have hl:=rv.length
  have hl':=rv'.length
  refine Jid D (Jao b (A:=X.A.in1) (I.ok.hd hc) j1 a (na j1 (by first | exact mm0 | exact mm1 | exact mm2 | exact mm3 | exact mm4 | exact mm5 | simp)) its.toArray) (Jao b' (A:=X.A.in1) (I.ok.hd hc) j2 c (na' j2 (by first | exact mm0 | exact mm1 | exact mm2 | exact mm3 | exact mm4 | exact mm5 | simp)) its'.toArray) hz hI hO ⟨h1,p⟩ ⟨h2,p'⟩ (by simp;omega) λ g1 tk k1=>⟨rfl,?_⟩
  exact I.turnedL (t':=tk) (λ d o hd q=>k1 d o (by first | exact mn0 hd | exact mn1 hd | exact mn2 hd | exact mn3 hd | exact mn4 hd | exact mn5 hd) (by first | exact mn0 hd | exact mn1 hd | exact mn2 hd | exact mn3 hd | exact mn4 hd | exact mn5 hd) (by first | exact mn0 hd | exact mn1 hd | exact mn2 hd | exact mn3 hd | exact mn4 hd | exact mn5 hd) (by first | exact mn0 hd | exact mn1 hd | exact mn2 hd | exact mn3 hd | exact mn4 hd | exact mn5 hd) q) hf
 self:=λ _ _ _ _ _ st q=>wpAny_pyIter_zip st.1 q
section
variable {X:Cx}{es:List Expr}{kk:Nat}{tp:Pos}
def Jxe (K:Qb) (ta:TA):TI:=λ σ H R=>ta σ H λ vs H1=>∃ b l xs,vs=[.ref l]/\SqK b K H1 l xs/\R (Ite b K l) H1
def Jng (K:Qb) (ta:TA):TI:=λ σ H R=>ta σ H λ vs H1=>∃ b b' l m xs ys,vs=[.ref l,.ref m]/\SqK b K H1 l xs/\SqK b' K H1 m ys/\R (Itz b b' K l m) H1
theorem Jdr {a:Expr}{ta:TA}{p pos:Pos}(hg:Gl X "enumerate") (hm:X.mg "enumerate" = none) (ha:PA X [a] ta) (hs:starEach [a] X.env=[(false,eval a X.env)]:=by rfl):PI X (.Tuple es kk tp) (.Call (.Name "enumerate" p) [a] [] pos) (Jxe X.K ta):=by
 intro pins s σ H R I h
 refine Call_ (Jad I hg hm boot_enumerate (J29 (thn (ha pos pins s σ H _ I h) λ us s1 ⟨vs,H1,I1,r1,q1⟩=>?_) hs rfl))
 obtain ⟨b,l,xs,e,hq,q⟩:=q1
 subst e
 obtain ⟨u,rfl,ru⟩:=Jbq r1
 cases ru
 obtain ⟨its,rv,p,_⟩:=I1.seqK hq
 refine Jqj b p λ h1 he hj hsz hk=>wpAny_pyIter_enum he ?_
 refine ⟨_,[s1.heap.objs.size+1,s1.heap.objs.size],_,_,H1,rfl,I1.kept (t':=s1.toks) hk,Jqm b l _ _ (Nat.succ_ne_self _),⟨⟨_,he⟩,hj⟩,λ c hc=>?_,q⟩
 rcases Qd.mp hc with rfl | hc
 . exact I1.fpOk (J6j _) (I1.hok.fresh (J6j _))
 . rw [Qu.mp hc];exact I1.fpOk (Ql _) (I1.hok.fresh (Ql _))
theorem Jai {a b:Expr}{ta:TA}{p pos:Pos}(hg:Gl X "zip") (hm:X.mg "zip" = none) (ha:PA X [a,b] ta) (hs:starEach [a,b] X.env=[(false,eval a X.env),(false,eval b X.env)]:=by rfl) (hs2:starEach [b] X.env=[(false,eval b X.env)]:=by rfl) :
 PI X (.Tuple es kk tp) (.Call (.Name "zip" p) [a,b] [] pos) (Jng X.K ta):=by
 intro pins s σ H R I h
 refine Call_ (Jad I hg hm boot_zip (J29 (thn (ha pos pins s σ H _ I h) λ us s1 ⟨vs,H1,I1,r1,q1⟩=>?_) (by rw [hs,hs2]) (by rw [hs2];rfl)))
 obtain ⟨b,b',l,m,xs,ys,e,hq,hq',q⟩:=q1
 subst e
 obtain ⟨u,u',rfl,ru,ru'⟩:=Jk7 r1
 cases ru
 cases ru'
 obtain ⟨its,rv,p,_⟩:=I1.seqK hq
 obtain ⟨its',rv',p',_⟩:=I1.seqK hq'
 refine Jql b b' p p' λ h1 hz hI hO i1 i2 hsz hk=>wpAny_pyIter_zip hz ?_
 refine ⟨_,[s1.heap.objs.size+4,s1.heap.objs.size+2,s1.heap.objs.size+3,s1.heap.objs.size,s1.heap.objs.size+1],_,_,H1,rfl,I1.kept (t':=s1.toks) hk,Jse b b' l m _ _ _ _ _ (by first | exact mm0 | exact mm1 | exact mm2 | exact mm3 | exact mm4 | exact mm5 | simp),⟨hz,hI,⟨_,_,hO⟩,i1,i2⟩,λ c hc=>?_,q⟩
 have hc':s1.heap.objs.size<=c:=by
  simp only [Qd,Ub,or_false] at hc
  rcases hc with rfl | rfl | rfl | rfl | rfl
  . exact J4q _ _
  . exact J4q _ _
  . exact J4q _ _
  . exact Ql _
  . exact J4q _ _
 exact I1.fpOk hc' (I1.hok.fresh hc')
end
section
variable {X:Cx}{pos:Pos}{k:Nat}
abbrev Sto (X:Cx) (i:Nat) (x:Str):Prop:=X.N[i]? = some x/\Loc X.env.scope x/\(X.fn x=true\/X.env.scope.names.lookup x=some .local)
theorem Y4 {K':Qb}{i j:Nat}{x y:Str}{px py:Pos}(hc:X.calm=true) (hN:X.N.Nodup) (hx:Sto X i x) (hy:Sto X j y) (hK:X.K=K'):PG X (.Tuple [.Name x px,.Name y py] k pos) (Jro K' 2 (gCons (Ba i) (gCons (Ba j) gNil))):=
 hK▸Jjj hc (Y8 (J0 hN hx.1 hx.2.1 hx.2.2) (Y8 (J0 hN hy.1 hy.2.1 hy.2.2) Jdk))
theorem B6 {K':Qb}{i j m:Nat}{x y z:Str}{px py pz:Pos}(hc:X.calm=true) (hN:X.N.Nodup) (hx:Sto X i x) (hy:Sto X j y) (hz:Sto X m z) (hK:X.K=K'):PG X (.Tuple [.Name x px,.Name y py,.Name z pz] k pos) (Jro K' 3 (gCons (Ba i) (gCons (Ba j) (gCons (Ba m) gNil)))):=
 hK▸Jjj hc (Y8 (J0 hN hx.1 hx.2.1 hx.2.2) (Y8 (J0 hN hy.1 hy.2.1 hy.2.2) (Y8 (J0 hN hz.1 hz.2.1 hz.2.2) Jdk)))
end
end L2
namespace My
open L2
noncomputable def Jj (ws:List Way) (k:Int):Way:=ws.getD k.toNat ⟨0,0,[]⟩
structure BkAt (ex:List Addr) (H:Hp) (R U:Int) (ws:List Way) (bv:V) (ba wa:Addr) (vs:List V):Prop where
 e:bv = .ref ba
 b:H ba=some (.tup [.int R,.int U,.ref wa])
 w:H wa=some (.tup vs)
 r:Reps ex H (ws.map Y2) vs
 nb:ba∉ex
 nw:wa∉ex
 z:vs.length<=sizeLine
theorem Jsf {ex:List Addr}{H:Hp}{R U:Int}{ws:List Way}{bv:V}(r:Rep ex H (J3 R U ws) bv):∃ ba wa vs,BkAt ex H R U ws bv ba wa vs:=by
 obtain ⟨ba,x,y,z,rfl,hb,nb,r1,r2,r3⟩:=Jsb r
 obtain ⟨wa,vs,rfl,hw,nw,hz,rs⟩:=Jo1 r3
 rw [Jo2 r1,Jo2 r2] at hb
 exact ⟨ba,wa,vs,rfl,hb,hw,rs,nb,nw,hz⟩
theorem BkAt.len {ex:List Addr}{H:Hp}{R U:Int}{ws:List Way}{bv:V}{ba wa:Addr}{vs:List V}(B:BkAt ex H R U ws bv ba wa vs):vs.length=ws.length:=by
 rw [<- B.r.length,Qc]
theorem at_map (ns:List Int) {i:Int}(h0:0<=i) (h1:i<ns.length):∃ n∈ns,atI (ns.map V.int) i=some (V.int n):=by
 obtain ⟨n,e,h⟩:=J0s (P:=λ n=>n∈ns) ns (λ _ h=>h) h0 h1
 exact ⟨n,h,e⟩
theorem range_getD {α β:Type}(f:α->β) (xs:List α) (dflt:α):((Qg xs.length).map λ i=>f (xs.getD i dflt))=xs.map f:=by
 refine List.ext_getElem (by simp) λ i h1 h2=>?_
 have hi:i<xs.length:=by simpa using h1
 simp [Qi,Qf hi]
theorem at0 (x y z:V):atI [x,y,z] 0=some x:=Joy (j:=0) rfl
end My
namespace L2
section
variable {X:Cx}{K':Qb}
theorem B7 (hK:X.K=K'):IxR X (Jyo K'):=hK▸Yg
theorem Jlk (hK:X.K=K'):IxR X (Jla K'):=hK▸Js
end
section
variable {X:Cx}{e st:Expr}{te:TE}{ts:TO}{pos p2:Pos}
end
theorem Vk {X:Cx}:OpR X (binaryOp .Mult) (rI IntMulOk λ i j=>.int (i*j)):=opI λ _ _ _ _ _ _ _ hc q=>mul_int q hc
theorem B8 {X:Cx}{pos:Pos}{i:Nat}{x:Str}{e:Expr}{te:TE}{pos':Pos}(hN:X.N.Nodup) (hi:X.N[i]? = some x) (hx:Loc X.env.scope x) (he:PEs X e te) (hs:Ybd e (some (.Name x pos')) pos.line X.env=pure false:=by rfl) (hf:X.fn x=true\/X.env.scope.names.lookup x=some .local := by first | exact .inl rfl | exact .inr rfl | assumption):PS X (.Assign [.Name x pos'] e pos) (Jdl te (Ba i)):=Jw hN hi hx he.out hs hf
end L2
namespace My
open L2
end My
namespace L2
section
variable {X:Cx}
end
end L2
namespace My
open L2
end My
namespace L2
section
variable {prog:Yap}{w:Yao}{A:Yaq}{E:Yak->Yam->Prop}{s:Yam}{z TI TO j1 j2 j3:Addr}{f1 f2 f3:List Addr}{n1 n2 n3 i:Nat}{P1 P2 P3:Nat->Yak->Prop}{St1 St2 St3:Nat->Heap->Prop}{a b c:Yak}
end
section
variable {X:Cx}{es:List Expr}{kk:Nat}{tp:Pos}
end
end L2
namespace My
open L2
noncomputable def Jbk (xs gs:List Int):List Int:=J35 (· + ·) xs gs
theorem Jll (xs gs:List Int):(Jbk xs gs).length=min xs.length gs.length:=by unfold Jbk;simp
noncomputable def Z0 (r:Int) (xs:List Int):Yal:=.tuple [.int r,.tuple (xs.map Qn)]
noncomputable def Jiy (a r:Int) (xs gs:List Int):Bool:=decide (a=r)&&(Jbk xs gs).all λ x=>decide (0<=x)
end My
namespace L2
section
variable {X:Cx}
def Jsg (d:Yal):Prop:=d.canLay0=true/\d.showable=true/\d.depth<=50/\d.shown.length<=sizeLine
theorem Jiz (hg:X.A.guards=some []) (hu:X.A.units+64<cLine):V1 X (.builtin "repr") (λ xs H Q=>∃ ex d v,xs=[v]/\Rep ex H d v/\Jsg d/\Q (.str d.shown) H):=by
 intro pins s σ H xs us Q I r h
 obtain ⟨ex,d,v,rfl,rd,⟨hc,hs,hd,hz⟩,q⟩:=h
 obtain ⟨u,rfl,ru⟩:=Jbq r
 obtain ⟨as,rr⟩:=Rep.reads I.hok hc rd ru
 have hnd:=PyData.hasDict_of_canLay d hc
 have fin:∀ {h':Heap} {t tk:Nat},(∀ b o,s.heap.get? b=some o->h'.get? b=some o)->EP X pins σ Q (.str d.shown t) { s with heap:=h',toks:=tk }:=λ hk=>⟨.str d.shown,H,I.kept hk,⟨_,rfl⟩,q⟩
 have ref:∀ a,u = .ref a->Yan (model X.prog X.w) X.A (call (.builtin "repr") [u]) (EP X pins σ Q) X.xe s:=λ a e=>by
  subst e
  exact repr_of_reads' rr hs (PyData.noDict_hsm hnd) hg (by omega) (λ _ _ e=>e) (λ h' t tk hk=>fin hk) hz
 cases rd with
 | none=>cases (show u=Up from ru);exact P.repr_of_none (fin λ _ _ e=>e)
 | bool b=>cases (show u=X8 b from ru);exact P.repr_of_bool (fin λ _ _ e=>e)
 | int i=>
  obtain ⟨t,rfl⟩:=(show ∃ t,u=Uo i t from ru)
  exact P.repr_of_int (by simpa [PyData.showable] using hs) (fin λ _ _ e=>e)
 | str x=>
  obtain ⟨t,rfl⟩:=(show ∃ t,u=U2 x t from ru)
  exact P.repr_of_str (fin λ _ _ e=>e) hz
 | tuple e n z rs=>exact ref _ ru
 | list e n z rs=>exact ref _ ru
 | obj=>rw [U6] at hc;cases hc
 | dctf=>rw [U6] at hc;cases hc
end
end L2
namespace My
open L2
structure SDs (h n:Nat) (ds:List Yal):Prop where
 c:Ut ds=true
 i:J8q 101 ds=true
 s:J8r ds=true
 d:J5k ds<=h
 w:J6x ds<=n
def SD (h n:Nat) (d:Yal):Prop:=SDs h (n+1) [d]
theorem SD.show {h n:Nat}{d:Yal}(a:SD h n d) (hh:h<=50) (hn:n<=150000):Jsg d:=by
 obtain ⟨c1,i1,s1,d1,w1⟩:=a
 simp only [Ut,J8q,J8r,J5k,J6x,Bool.and_true] at c1 i1 s1 d1 w1
 refine ⟨c1,s1,by omega,?_⟩
 have h1:=PyData.shown_le 101 (by decide) d (PyData.leavesShort_of_canLay0 101 d c1 i1)
 have hs:sizeLine=16777216:=Yar
 have:(101+2)*d.weight<=103*150001:=J6y _ (by omega)
 omega
noncomputable def Jds (xs:List Yal) (lo hi:Option Int):List Yal:=(xs.drop (HT.sIx xs.length 0 lo)).take (HT.sIx xs.length xs.length hi-HT.sIx xs.length 0 lo)
theorem Jer (xs:List Yal) (k:Nat):Jds xs none (some (k:Int))=xs.take k:=by
 unfold Jds
 rw [HT.sIx_none,HT.sIx_nat,List.drop_zero,Nat.sub_zero]
 rcases J6z k xs.length with h | h
 . rw [J5l h]
 . rw [J8s h,J5f (Ql _),J5f h]
theorem Jes (xs:List Yal) (k:Nat):Jds xs (some (k:Int)) none=xs.drop k:=by
 unfold Jds
 rw [HT.sIx_none,HT.sIx_nat]
 rcases J6z k xs.length with h | h
 . rw [J5l h,J5f (by rw [J5g];omega)]
 . rw [J8s h,J8t (Ql _),J8t h];simp
theorem SD.str {h n:Nat}{x:Str}(hok:PyData.strOk x=true) (hs:x.cps.size<=n):SD h n (.str x):=
 ⟨by simp [Ut,U6,hok],rfl,rfl,Xl _,by simp [J6x,PyData.weight];exact hs⟩
theorem Vw (o:Expr) (k:Const) (j:Nat) (p pos:Pos) (env:Env) (v:Yak):assign (.Subscript o (.Constant k j p) pos) env v=(do
 let ov <- holding [v] (eval o env)
 let iv <- holding [v,ov] (eval (.Constant k j p) env)
 Yaz pos
 holding [v,ov,iv] (setItem ov iv v)
 release [v,ov,iv] []):=Bl _ _ _ _ _
structure Tape (H:Hp) (p c:Addr) (n:Nat):Prop where
 ex:∃ (ns:List Int) (k g:Int),H p=some (.lst [.ref c,.int k,.int g])/\H c=some (.lst (ns.map V.int))/\ns.length<=63/\0<=k/\k<=n
theorem Tape.ne {H:Hp}{p c:Addr}{n:Nat}(J:Tape H p c n):p≠c:=by
 obtain ⟨ns,k,g,h1,h2,_⟩:=J.ex
 rintro rfl
 rw [h1] at h2
 cases ns with
 | nil=>cases h2
 | cons a r=>cases h2
theorem Tape.fresh {H:Hp}{p c l:Addr}{n:Nat}(J:Tape H p c n) (h:H l=none):l∉[p,c]:=by
 obtain ⟨ns,k,g,h1,h2,_⟩:=J.ex
 intro z
 rcases Qd.mp z with rfl | z
 . rw [h] at h1;cases h1
 . cases Qu.mp z;rw [h] at h2;cases h2
def Jjt (K:Qb):Sp:=λ vs H Q _=>∃ (a:Addr) (ns:List Int),vs=[.ref a]/\SqL K H a (ns.map V.int)/\ns.length<=63/\∀ p c H',Kp [] H H'->H p=none->H c=none->Tape H' p c 0->Q (.ref p) H'
def Jnh:Sp:=λ vs H Q _=>∃ (p c:Addr) (n:Nat) (many:Int),vs=[.ref p,.int many]/\Tape H p c n/\n<2^40/\0<many/\many<2^9000/\∀ (r:Int) (H':Hp),0<=r->r<many->Tape H' p c (n+1)->Kp [p,c] H H'->Q (.int r) H'
theorem Kp.late {ex:List Addr}{H1 H2:Hp}{a:Addr}(k:Kp ex H1 H2) (h:H1 a=none) (o:HO):Kp ex H1 (upd H2 a o):=λ b v e n=>by
 rw [Je (Jl e h)];exact k b v e n
theorem Jni {n:Nat}{i:Int}(h0:0<=i) (h1:i<n):ixN n i=some i.toNat:=by
 unfold ixN
 rw [if_pos h0,if_pos (by omega)]
def Jsh (K:Qb) (n:Nat) (t:TGs):TG:=λ v σ H Q=>∃ a xs,v = .ref a/\SqL K H a xs/\xs.length=n/\t xs σ H Q
section
variable {X:Cx}{pos:Pos}{k:Nat}
theorem Jvg {es:List Expr}{t:TGs}{n:Nat}(hc:X.calm=true) (h:PGs X es t)
 (hn:(assignEach es X.env).length=n:=by rfl) (hst:(assignEach es X.env).findIdx? (·.1)=none:=by rfl):PG X (.Tuple es k pos) (Jsh X.K n t):=by
 intro pins s σ H v u Q I r hw
 obtain ⟨a,xs,e1,hq,hl,hw⟩:=hw
 subst e1
 cases r
 obtain ⟨its,rv,pl,hz⟩:=I.list hq
 rw [assign_Tuple]
 refine wpAny_bind (wpAny_standAt ?_)
 unfold unpack
 have hsz:(assignEach es X.env).length=its.toArray.size:=by simp [hn,<- hl,rv.length]
 rw [hsz,hst]
 refine wpAny_bind (wpAny_holding (PySem.W.kun_itemsOf (I.ok.hd hc) pl.isList λ h' hx=>?_))
 have I1:Inv X pins σ H { s with heap:=h' }:=I.kept (t':=s.toks) λ b o e=>hx b o (Xg (Qr e)) e
 exact h pins _ σ H xs _ Q I1 (by simpa using rv) hw
theorem Jlm {K':Qb}{i j:Nat}{x y:Str}{px py:Pos}(hc:X.calm=true) (hN:X.N.Nodup) (hx:Sto X i x) (hy:Sto X j y) (hK:X.K=K'):PG X (.Tuple [.Name x px,.Name y py] k pos) (Jsh K' 2 (gCons (Ba i) (gCons (Ba j) gNil))):=
 hK▸Jvg hc (Y8 (J0 hN hx.1 hx.2.1 hx.2.2) (Y8 (J0 hN hy.1 hy.2.1 hy.2.2) Jdk))
end
end My
namespace L2
noncomputable def Jnj (n:Nat):List V:=(Qg n).map λ (i:Nat)=>V.int (i:Int)
def tLR (ta:TA):TE:=λ σ H Q=>ta σ H λ vs H1=>∃ j:Int,vs=[.int j]/\0<=j/\j<=1000000/\∀ l,H1 l=none->Q (.ref l) (upd H1 l (.lst (Jnj j.toNat)))
theorem Jsi:∀ (n:Nat) (us:List Yak),us.length=n->(∀ (k:Nat) (u:Yak),us[k]? = some u->∃ t,u=Uo ((k:Nat):Int) t)->J4 (Jnj n) us:=by
 intro n
 induction n with
 | zero=>intro us h _;rw [J60.mp h];exact .nil
 | succ n ih=>
  intro us h hk
  have hne:us≠[]:=λ e=>by rw [e] at h;cases h
  obtain ⟨l,x,rfl⟩:∃ l x,us=l++[x]:=⟨us.dropLast,us.getLast hne,(J8u hne).symm⟩
  have hl:l.length=n:=by simpa using h
  have e:Jnj (n+1)=Jnj n++[V.int n]:=by unfold Jnj;rw [J4r,Xd];rfl
  rw [e]
  obtain ⟨t,et⟩:=hk n x (by rw [<- hl];simp)
  subst et
  exact (ih l hl λ k u hu=>hk k u (by rw [J3a (by exact (Qv.mp hu).1)];exact hu)).append (.cons ⟨t,rfl⟩ .nil)
section
variable {X:Cx}
theorem Jju {a:Expr}{ta:TA}{p1 p2 pos1 pos2:Pos}(hc:X.calm=true) (hg1:Gl X "list") (hm1:X.mg "list" = none) (hg2:Gl X "range") (hm2:X.mg "range" = none) (ha:PA X [a] ta) (hs:starEach [a] X.env=[(false,eval a X.env)]:=by rfl)
 (hs1:starEach [.Call (.Name "range" p2) [a] [] pos2] X.env=[(false,eval (.Call (.Name "range" p2) [a] [] pos2) X.env)]:=by rfl):PE X (.Call (.Name "list" p1) [.Call (.Name "range" p2) [a] [] pos2] [] pos1) (tLR ta):=by
 intro pins s σ H Q I h
 refine Ya7 (Jad I hg1 hm1 Ya4 ?_)
 refine J29 ?_ hs1 rfl
 rw [hs1]
 show Yan _ _ (spliced ((false,eval (.Call (.Name "range" p2) [a] [] pos2) X.env)::[])) _ _ s
 refine J6i ?_
 refine Call_ (Jad I hg2 hm2 boot_range (J29 (thn (ha pos2 pins s σ H _ I h) λ us s1 ⟨vs,H1,I1,r1,q1⟩=>?_) hs rfl))
 obtain ⟨j,e,b1,b2,q⟩:=q1
 subst e
 cases r1 with
 | cons r rr=>
  cases rr
  obtain ⟨t,rfl⟩:=r
  refine call_range_1 (J6h ?_)
  have I2:Inv X pins σ H1 { s1 with heap:=s1.heap.push { cls:=.type "range",data:=.fields #[.int 0 s1.toks,.int j t,.int 1 (s1.toks+1)] },toks:=s1.toks+1+1 }:=I1.kept λ b o e=>Qt _ e
  have hs:=Yar
  refine call_list_range (n:=j.toNat) (I2.ok.hd hc) (J58 ..) (small_one (by omega) (by omega) (by omega) (by omega)) (by rw [Ybt];split<;>omega) (by omega) λ h' tk acc' c' hk hS' hacc=>?_
  refine ⟨.ref _,_,I2.laid (t':=tk) hk (Ql _) (show Zs X.prog X.w _ h' _ (.lst (Jnj j.toNat)) from ⟨by unfold Jnj;simp;omega,acc'.toList,c',Jsi _ _ (by simp [hacc.1]) (λ k u hu=>?_),by simpa using hS'⟩),rfl,q _ (I2.hok.fresh (Ql _))⟩
  obtain ⟨t,et⟩:=hacc.2 k u (by simpa using hu)
  exact ⟨t,by rw [et];simp⟩
end
end L2
namespace My
open L2
noncomputable def Bz (xs ys:List Int) (n:Nat):Int:=((Qg n).map λ i=>xs.getD i 0*ys.getD i 0).sum
noncomputable def Z5 (ws:List Way) (wts hts:List Int) (k:Int):Int:=hts.getD (Jj ws k).a.toNat 0-hts.getD (Jj ws k).b.toNat 0-Bz wts (Jj ws k).g wts.length
noncomputable def Zi (wts hts:List Int) (r:Int) (ns:List Int):Int:=hts.getD r.toNat 0+Bz wts ns wts.length
theorem Jvh {X:Cx}{es:List Expr}{kk:Nat}{tp:Pos}{K':Qb}{a b:Expr}{ta:TA}{p pos:Pos}(hK:X.K=K') (hg:Gl X "zip") (hm:X.mg "zip" = none) (ha:PA X [a,b] ta) (hs:starEach [a,b] X.env=[(false,eval a X.env),(false,eval b X.env)]:=by rfl) (hs2:starEach [b] X.env=[(false,eval b X.env)]:=by rfl) :
 PI X (.Tuple es kk tp) (.Call (.Name "zip" p) [a,b] [] pos) (Jng K' ta):=hK▸Jai hg hm ha hs hs2
section
variable {p c sl:Addr}{R U:Int}{ws:List Way}{bv:V}{sums:List (List Int×List Int)}{svs:List V}{H H':Hp}{n m:Nat}
end
end My
namespace L2
section
variable {P:Yap}{w:Yao}{H H':Hp}{h h':Heap}{a:Addr}{o:HO}
theorem Zs.there (x:Zs P w H h a o):∃ ob,h.get? a=some ob:=by
 cases o with
 | lst xs=>obtain ⟨_,_,_,_,e⟩:=x;exact ⟨_,e⟩
 | tup xs=>obtain ⟨_,_,_,ob,e,_⟩:=x;exact ⟨_,e⟩
 | dK kvs=>obtain ⟨_,_,_,_,o,_,_,e,_⟩:=x;exact ⟨_,e⟩
 | dT kvs=>obtain ⟨_,_,_,_,o,_,_,e,_⟩:=x;exact ⟨_,e⟩
 | set S n=>obtain ⟨o,_,_,_,e,_⟩:=x;exact ⟨_,e⟩
 | ins C dx fs=>obtain ⟨_,_,_,e,_⟩:=x;exact ⟨_,e⟩
 | own y=>obtain ⟨_,e⟩:=x;exact ⟨_,e⟩
 | xd fs=>obtain ⟨_,⟨_,_,_,e,_⟩,_⟩:=x;exact ⟨_,e⟩
 | rng lo hi=>obtain ⟨_,_,_,e⟩:=x;exact ⟨_,e⟩
 | frz ob u=>obtain ⟨e,_⟩:=x;exact ⟨_,e⟩
 | tbl ps=>exact ⟨_,(show h.get? a=some _ from x)⟩
 | met f y=>exact ⟨_,(show h.get? a=some _ from x)⟩
 | ext φ=>obtain ⟨_,e,_⟩:=x;exact e
theorem HOk.there (x:HOk P w H h) (e:H a=some o):∃ ob,h.get? a=some ob:=(x a o e).there
theorem HOk.keptT (x:HOk P w H h) (k:∀ b u,(H b).isSome=true->h.get? b=some u->h'.get? b=some u):HOk P w H h':=λ a o e=>
 (x a o e).stay (λ b u hb q=>k b u (by
  rcases hb with rfl | hb
  . rw [e];rfl
  . rw [hb];rfl) q) (λ _ q=>q) λ _ _ q=>q
theorem HOk.more {φ:Heap->Prop}(x:HOk P w H h) (hn:H a=none) (hp:φ h) (ht:∃ ob,h.get? a=some ob) (st:∀ h1 h2:Heap,φ h1->(∀ o,h1.get? a=some o->h2.get? a=some o)->φ h2):HOk P w (upd H a (.ext φ)) h:=λ b u e=>by
 by_cases hb:b=a
 . subst hb;rw [Jf] at e;cases e;exact ⟨hp,ht,st⟩
 . rw [Je hb] at e
   exact (x b u e).stay (λ _ _ _ q=>q) (λ c q=>by rw [Je (Jl q hn)];exact q) λ c xs q=>by rw [Je (Jl q hn)];exact q
end
structure Fly (P:Yap) (w:Yao) (outer:List Env) (H:Hp) (s:Yam) (H':Hp) (ea:Addr) (cls:Yak) (s':Yam):Prop where
 os:s'.os=s.os
 bare:Ya2 s'.gens
 un:Un (frs outer) [] H H' s.heap s'.heap
 hok:HOk P w H' s'.heap
 fl:∃ (B:Heap) (t:Addr),(∀ b o,s'.heap.get? b=some o->((H' b).isSome=true\/∃ o₀,s.heap.get? b=some o₀)->b∉frs outer->B.get? b=some o)/\J61 B outer ea cls (.ref t) s'.heap
def CX1 (P:Yap) (w:Yao):CXT:=λ outer H s E e s'=>∃ ea cls H',e = .ref ea/\Fly P w outer H s H' ea cls s'/\E cls none H'
section
variable {X:Cx}{pins:List (Addr×Obj)}{σ:St}{H H':Hp}{s s':Yam}
theorem Inv.old_ne (I:Inv X pins σ H s) {b:Addr}{o:Obj}(q:X.s₀.heap.get? b=some o):b≠X.env.locals:=λ z=>by
 have:=Qr q
 rw [z] at this
 exact absurd (Qy this I.ok.above) (Q9 _)
theorem Inv.old_stk (I:Inv X pins σ H s) {b:Addr}{o:Obj}(q:X.s₀.heap.get? b=some o) (n:b∉X.fs):b∉frs X.stack:=λ z=>by
 rcases Qd.mp (I.stkSub b z) with z | z
 . exact I.old_ne q z
 . exact n z
theorem Inv.fly (I:Inv X pins σ H s) (hex:X.ex=[]) {B h':Heap}{ea t:Addr}{cls:Yak}(hB:∀ b o,s.heap.get? b=some o->((H b).isSome=true\/∃ o₀,X.s₀.heap.get? b=some o₀)->b∉frs X.stack->B.get? b=some o)
 (fl:J61 B X.outer ea cls (.ref t) h') (us:s.heap.UpToSlots h') (os:s'.os=s.os) (hg:Ya2 s'.gens) (hh:s'.heap=h'):Fly X.prog X.w X.outer X.H₀ X.s₀ H ea cls s':=by
 subst hh
 have nex:∀ b,b∉X.ex:=λ b=>by rw [hex];simp
 have fdata:∀ b o,X.s₀.heap.get? b=some o->b∈X.fs->∀ vs,o.data≠.fields vs:=λ b o q hb vs=>by
  obtain ⟨_,o',ho',hd⟩:=I.ok.funs.mem hb
  rw [q] at ho';cases ho'
  exact hd vs
 have trk:∀ b,(H b).isSome=true->b∉frs X.stack:=λ b hb z=>by rw [I.stkFree b z] at hb;cases hb
 have kt:∀ b u,(H b).isSome=true->s.heap.get? b=some u->s'.heap.get? b=some u:=λ b u hb q=>fl.1 b u (hB b u q (.inl hb) (trk b hb))
 refine ⟨os.trans I.os,hg,⟨λ b o q n hb _=>?_,λ b o q n hb _=>?_,λ b o q n _=>I.base.free b o q n (nex b),λ b o q _=>?_,I.base.tups,I.base.frzs,I.base.tbls⟩,I.hok.keptT kt,B,t,λ b o q hb hn=>?_,fl⟩
 . exact fl.1 b o (hB b o (I.base.keep b o q n hb (nex b)) (.inr ⟨o,q⟩) (I.old_stk q hb))
 . obtain ⟨sl,e⟩:=I.base.slot b o q n hb (nex b)
   obtain ⟨sl',e'⟩:=us b _ e (fdata b o q hb)
   exact ⟨sl',e'⟩
 . obtain ⟨o',e⟩:=I.base.there b o q (nex b)
   by_cases hb:b∈X.fs
   . obtain ⟨sl,e2⟩:=I.base.slot b o q (I.ok.frf b hb) hb (nex b)
     obtain ⟨sl',e'⟩:=us b _ e2 (fdata b o q hb)
     exact ⟨_,e'⟩
   . exact ⟨o',fl.1 b o' (hB b o' e (.inr ⟨o,q⟩) (I.old_stk q hb))⟩
 . rcases hb with hb | ⟨o₀,hb⟩
   . obtain ⟨v,hv⟩:=J49.mp hb
     obtain ⟨u,hu⟩:=I.hok.there hv
     have e:=hB b u hu (.inl hb) (trk b hb)
     have e2:=fl.1 b u e
     rw [q] at e2;cases e2
     exact e
   . obtain ⟨u,hu⟩:=I.base.there b o₀ hb (nex b)
     have e:=hB b u hu (.inr ⟨o₀,hb⟩) (I.old_stk hb hn)
     have e2:=fl.1 b u e
     rw [q] at e2;cases e2
     exact e
end
section
variable {P:Yap}{w:Yao}{K:Qb}{mg:Str->Option Yak}{base:Heap}{N:List Str}{qual:Str}{scope:Yat}{f:Addr}{cd:Yak}{A:Yaq}{outer:List Env}{s₀:Yam}{H₀:Hp}{E:XK}
theorem J0t:Jaf (CX1 P w) (By (CX1 P w) P w K mg base N qual scope f cd A outer s₀ H₀ E) E:=by
 rintro pins σ H s e s' I ⟨ea,cls,H',rfl,F,hE⟩
 obtain ⟨B,t,hB,fl⟩:=F.fl
 have I':Inv (By (CX1 P w) P w K mg base N qual scope f cd A outer s₀ H₀ E) pins σ H' s':=I.call' F.os F.un F.hok F.bare λ b z=>absurd z (by simp)
 refine wpAny_leaves_onW (L:=s₀.heap.objs.size) I.ok.frames rfl fl λ h' x1 x2=>⟨ea,cls,H',rfl,?_,hE⟩
 refine I'.fly rfl (λ b o q hb hn=>hB b o q ?_ hn) x1 x2 rfl F.bare rfl
 rcases hb with hb | ⟨o₀,hb⟩
 . exact .inl hb
 . obtain ⟨o',e'⟩:=I.base.there b o₀ hb (λ z=>absurd (show b∈([]:List Addr) from z) (by simp))
   exact .inr ⟨o',e'⟩
theorem Jvi {pins:List (Addr×Obj)}{σ:St}{H:Hp}{s:Yam}{h1:Heap}{ea:Addr}{cls:Yak}{vs:List Yak}(I:Inv (By (CX1 P w) P w K mg base N qual scope f cd A outer s₀ H₀ E) pins σ H s) (hx:Heap.MadeExcOf s.heap h1 ea cls vs) (hE:E cls none H) :
 (By (CX1 P w) P w K mg base N qual scope f cd A outer s₀ H₀ E).xe (.ref ea) { s with heap:=h1 }:=by
 have hin:∀ env∈(By (CX1 P w) P w K mg base N qual scope f cd A outer s₀ H₀ E).stack,∀ a,env.frame=some a->a∈frs (By (CX1 P w) P w K mg base N qual scope f cd A outer s₀ H₀ E).stack:=λ env he b hb=>J75.mpr ⟨env,he,hb⟩
 refine wpAny_leaves_madeW (L:=s₀.heap.objs.size) (base:=J7z s.heap (frs (By (CX1 P w) P w K mg base N qual scope f cd A outer s₀ H₀ E).stack)) (h:=s.heap) I.ok.frames rfl (λ b o q=>J71 _ q) (PySem.W.funFrames_hide I.stack hin) hx λ h' t x1 x2 x3 x4=>⟨ea,cls,H,rfl,?_,hE⟩
 exact I.fly rfl (λ b o q _ hn=>J70 _ q hn) x1 ((Yae hx.keeps).trans x4) rfl I.bare rfl
end
open PySem.W Builtin Builtin.ObjectAttr Builtin.Getset_descriptor
structure ExC (K:Qb) (D:Addr):Prop where
 ga:Xr K (.ref D) "__getattribute__" = some (some (.builtin "BaseException.__getattribute__"))
 gn:Xr K (.ref D) "__getattr__" = some none
 ca:Xr K (.ref D) "__class__" = some (some (.builtin "object.__class__"))
 cg:J6f K (.builtin "object.__class__") "__get__" = some (some (.builtin "getset_descriptor.__get__"))
 ct:J6g K (.builtin "object.__class__")=some true
 mo:J4f K D (.type "object")=some true
 mb:J4f K D (.type "BaseException")=some true
def OfC (x D:Addr) (h:Heap):Prop:=∃ o,h.get? x=some o/\o.cls = .ref D
section
variable {prog:Yap}{w:Yao}{A:Yaq}{E:Yak->Yam->Prop}{s:Yam}{K:Qb}{x D:Addr}{R:Ya6->Yam->Prop}
theorem OfC.ty {M:Model}{h:Heap}(I:OfC x D h):Looks M h (typeOf (.ref x)) (.ref D):=by
 obtain ⟨o,e,c⟩:=I
 exact c▸(Looks.ld e).andThen .now
theorem Jqn {tp:Yak}(X:K.In s.heap) (I:OfC x D s.heap) (C:ExC K D) (h:R (.ok (.ret (.ref D))) s):Yay (model prog w) A (.call (.builtin "getset_descriptor.__get__") ⟨[.builtin "object.__class__",.ref x,tp],[]⟩) R s:=by
 obtain ⟨hh,g,dr,t,os⟩:=s
 have L0:=I.ty (M:=model prog w)
 have L1:=looks_mroIn (M:=model prog w) X C.mo
 have key:=λ q=>codeAny_call_builtin (prog:=prog) (w:=w) (A:=A) (R:=R) (s:=⟨hh,g,dr,t,os⟩) KF.slot_gs.plain KF.entry_gs (KF.slot_gs.check _ _ _ _ (Ul "object.__class__") _ _ _ (show (Shared.mk hh g dr t os).TypeIs (Ul "object.__class__") "getset_descriptor" from KF.type_class) (KF.args_gs (Ul "object.__class__") (Qw x) tp) q)
 apply key
 unfold Builtin.«getset_descriptor.__get__» descrGet;rw [dga_obj];refine wpAny_bind (wpAny_pure ?_)
 unfold descrGetter descrCheckInstance descrNameAndClass isInstance;simp only [KF.owner_class]
 repeat lk
 have key2:=λ q=>Ybr (prog:=prog) (w:=w) (A:=A) (R:=R) (s:=⟨hh,g,dr,t,os⟩) (args:=⟨[Qw x],[]⟩) KF.entry_class q
 refine ⟨Code.quiet_builtin _ (by decide +kernel),key2 ?_⟩
 unfold Builtin.«object.__class__» shownTypeOf;repeat lk
 exact h
theorem Jqo {Q:Option Yak->Yam->Prop}(X:K.In s.heap) (I:OfC x D s.heap) (C:ExC K D)
 (h:Q (some (.ref D)) { s with toks:=s.toks+1 }):Yan (model prog w) A (getAttr? (.ref x) "__class__") Q E s:=by
 obtain ⟨hh,g,d,t,os⟩:=s
 have L0:=I.ty (M:=model prog w)
 have L1:=looks_findIn (M:=model prog w) X C.ga
 have L2:=looks_findIn (M:=model prog w) X C.gn
 have T3:=looks_takesIn (M:=model prog w) X C.ct
 have L3:Looks (model prog w) hh (Yaf (.ref x) (.ref D) "__class__") (.bind (.builtin "getset_descriptor.__get__") (.builtin "object.__class__")):=
  (looks_findIn (M:=model prog w) X C.ca).andThen ((show Looks (model prog w) hh (Yag (some (.builtin "object.__class__"))) _ from looks_specialIn X C.cg).andThen ((show Looks (model prog w) hh (Yah (some (.builtin "object.__class__")) (some (.builtin "getset_descriptor.__get__"))) (some (.builtin "getset_descriptor.__get__",.builtin "object.__class__")) from T3.andThen .now).andThen (Looks.tag .now)))
 have L4:=looks_mroIn (M:=model prog w) X C.mb
 have hx2:(Ul "BaseException.__getattribute__" == Ul "object.__getattribute__")=false:=by decide +kernel
 unfold getAttr? getAttrBy? getAttrBy
 refine wpAny_bind (wpAny_mkText (wpAny_bind (wpAny_attempt (wpAny_holding (wpAny_bind (L0.at (wpAny_bind (L1.at ?_))))))))
 simp only [hx2,J8v,J34,if_false]
 unfold getAttrByItsOwn hookBefore
 refine wpAny_bind ?_
 show Yan _ _ (typeLookup (Qw D) (J3e "__getattr__")) _ _ _
 refine L2.at ?_
 refine wpAny_bind (wpAny_attempt (wpAny_holding ?_))
 show Yan _ _ (boundAndCalled (Ul "BaseException.__getattribute__") (Qw x) (U2 (J3e "__class__") t)) _ _ _
 have fb:bindSpecial (Ul "BaseException.__getattribute__") (Qw x)=pure (Ul "BaseException.__getattribute__",[Qw x]):=J8w.ga.bind (.ref x)
 unfold boundAndCalled
 rw [fb]
 refine wpAny_bind (wpAny_pure ?_)
 show Yan _ _ (call (Ul "BaseException.__getattribute__") [Qw x,U2 (J3e "__class__") t]) _ _ _
 refine wpAny_call (codeAny_call_builtin J8w.ga.plain F.entry_bexc_ga ?_)
 have hk':builtinKind "BaseException.__getattribute__" = some .slot:=by decide +kernel
 have hs':splitId "BaseException.__getattribute__" = some ("BaseException","__getattribute__"):=by decide +kernel
 have ha:=F.args_bexc_ga (.ref x) (U2 (J3e "__class__") t)
 simp only [checkBuiltinCall,hk',hs']
 refine wpAny_bind ?_
 unfold isInstance
 refine wpAny_bind (L0.at (L4.at ?_))
 repeat (first | assumption | wp_step)
 obtain ⟨ox,ex,cx⟩:=id I
 refine wpAny_loadPart ex (wpAny_pure ?_)
 rw [cx]
 refine wpAny_bind (L3.at ?_)
 show Yan _ _ (holding [Ul "object.__class__"] (call (Ul "getset_descriptor.__get__") [Ul "object.__class__",Qw x,Qw D]) >>= ret) _ _ _
 refine wpAny_bind (wpAny_holding (wpAny_call (Jqn (s:=⟨hh,g,d,t+1,os⟩) X I C ?_)))
 exact wpAny_pure (handed_on rfl (wpAny_pure h))
end
theorem Jsj {K:Qb}{x D:Addr}{cd:ClassData}(C:ExC K D) (hc:J3s K D=some cd):PySem.W.KitX K (.ref x) (.ref D) (OfC x D) where
 ty:=λ _ _ _ I=>I.ty
 it:=λ _ _ X _=>by
  unfold J3s at hc
  split at hc
  . rename_i c' d' cd' sl' ho
    intro A' Q' E' s' k q
    exact (show Yan _ _ (loadHead D >>= _) _ _ _ from wpAny_bind (wpAny_loadPart (k _ _ (X _ _ ho)) (wpAny_pure q)))
  . cases hc
 ne:=λ h tp dd its n sl X htp=>by
  cases hb:(Qw D==Qw tp) with
  | false=>rfl
  | true=>
   cases (Qw.inj (beq_iff_eq.mp hb))
   unfold J3s at hc
   split at hc
   . rename_i c' d' cd' sl' ho
     have z:=(X _ _ ho).symm.trans htp
     cases z
   . cases hc
 ca:=λ X I q=>Jqo X I C q
noncomputable def Jvj:List Yak:=[.type "ValueError",.type "Exception",.type "BaseException",.type "object"]
structure RCl (K:Qb) (mg:Str->Option Yak) (x:Str) (C:Addr):Prop where
 b:mg x=some (.ref C)
 e:J5m K C Jvj "ValueError.__new__" = true
theorem RCl.own {K:Qb}{mg:Str->Option Yak}{x:Str}{C:Addr}{h:Heap}(r:RCl K mg x C) (X:K.In h):OwnCls x C Jvj "ValueError.__new__" mg h:=by
 have z:=r.e
 unfold J5m at z
 split at z
 case h_2=>cases z
 case h_1 dd cd sl ho=>
  split at z
  case h_2=>cases z
  case h_1 C' bm k0 k1 k2 k3 n k5 hm hs=>
   simp only [X3,beq_iff_eq,Bool.not_eq_true'] at z
   obtain ⟨⟨⟨⟨⟨rfl,rfl⟩,hdel⟩,ht⟩,hok⟩,hni⟩:=z
   obtain ⟨nm,bs,mro,ns,qn,hd,sn,sub,ab,col,del⟩:=cd
   dsimp only at hm hdel hok hni
   have es:sl = #[k0,k1,k2,k3,some (.builtin "ValueError.__new__"),k5]:=by
    cases sl with | mk l=>exact congrArg Array.mk hs
   subst hm hdel es
   exact ⟨r.b,bm,ns,nm,qn,bs,hd,sn,sub,ab,col,dd,k0,k1,k2,k3,k5,_,X _ _ ho,.of_isNs (PySem.W.isNs_of_in X hok),PySem.W.nsMap_none_of_in X hok hni,PySem.W.tail_of_in X ht⟩
def Jyx (C:Addr) (E:XK) (t:TA):TS:=λ D σ H=>t σ H λ vs H1=>vs.length<=sizeLine/\E (.ref C) none H1
section
variable {P:Yap}{w:Yao}{K:Qb}{mg:Str->Option Yak}{base:Heap}{N:List Str}{qual:Str}{scope:Yat}{f:Addr}{cd:Yak}{A:Yaq}{outer:List Env}{s₀:Yam}{H₀:Hp}{E:XK}
 {x:Str} {C:Addr} {e:Expr} {es:List Expr} {np cpos pos:Pos} {t:TA}
theorem Jsk (r:RCl K mg x C) (hg:Gl (By (CX1 P w) P w K mg base N qual scope f cd A outer s₀ H₀ E) x) (ha:PA (By (CX1 P w) P w K mg base N qual scope f cd A outer s₀ H₀ E) (e::es) t)
 (he:starEach (e::es) (By (CX1 P w) P w K mg base N qual scope f cd A outer s₀ H₀ E).env=(false,eval e (By (CX1 P w) P w K mg base N qual scope f cd A outer s₀ H₀ E).env)::starEach es (By (CX1 P w) P w K mg base N qual scope f cd A outer s₀ H₀ E).env:=by rfl)
 (hpl:(backTo cpos (starEach es (By (CX1 P w) P w K mg base N qual scope f cd A outer s₀ H₀ E).env)).any (·.1)=false:=by rfl) (hdb:(x==("__debug__":Str))=false:=by decide) :
 PS (By (CX1 P w) P w K mg base N qual scope f cd A outer s₀ H₀ E) (.Raise (some (.Call (.Name x np) (e::es) [] cpos)) none pos) (Jyx C E t):=by
 intro pins s σ H D I h
 obtain ⟨tl,Nn,nm,q,bs,hdct,sn,sub,ab,col,dd,k0,k1,k2,k3,k5,mN,hC,hN,hni,T⟩:=(r.own I.ok.mod.kin).obj
 refine wpAny_Raise_call_subT (C:=C) (nm:=nm) (q:=q) (N:=Nn) (bs:=bs) (bm:=tl) (hdct:=hdct) (sn:=sn) (sub:=sub) (ab:=ab) (col:=col) (dd:=dd) (k0:=k0) (k1:=k1) (k2:=k2) (k3:=k3) (k5:=k5)
  J8x (mN:=mN) (T.hasType J8x.hasBase) (I.ok.hd rfl) (by rw [he];exact (J62 _).trans hpl) hni (Jcj I hg r.b ⟨rfl,?_⟩ hdb)
 have hA:=ha cpos pins s σ H _ I h
 rw [he] at hA ⊢
 refine J8c (thn hA λ us s1 ⟨vs,H1,I1,rv,hz,hE⟩=>?_)
 exact ⟨rfl,by show us.length<=_;rw [<- rv.length];exact hz,I1.bk _ _ hC,hN.keeps I1.bk,T.keeps I1.bk,λ h' ea hm=>Jvi I1 hm hE⟩
end
section
variable {P:Yap}{w:Yao}{K:Qb}{mg:Str->Option Yak}{base:Heap}
def Jgv (P:Yap) (w:Yao) (K:Qb) (mg:Str->Option Yak) (base:Heap) (name:Str) (k:Nat) (ps:List Str) (sp:Sp):Prop:=
 ∃ f fd,mg name=some (.ref f)/\Uf K (.ref f)=true/\Vb K fd ps []/\FnOk P w K mg base (CX1 P w) k f fd ps sp
theorem Fun.okX {x qual:Str}{st:Stmt}{f:Addr}{fd:Yaw}{N ps:List Str}{k:Nat}{sp:Sp}(F:Fun K x qual st f fd) (S:FnScope N ps (Jd st)) (len:∀ vs H Q E,sp vs H Q E->vs.length=ps.length)
 (hbody:∀ (cdv:Yak) (A:Yaq) (outer:List Env) (s:Yam) (H:Hp) (vs:List V) (Q:VK) (E:XK),Room k (A.deeper (envOfC qual (Jd st) s.heap.objs.size f cdv))->sp vs H Q E ->
  ∃ t,PSs (By (CX1 P w) P w K mg base N qual (Jd st) f cdv A outer s H E) (Zm st) t/\t { nx:=λ _ H'=>Q .non H',rt:=Q } (start N vs) H):FnOk P w K mg base (CX1 P w) (k+1) f fd ps sp:=by
 obtain ⟨oc,od,kV,doc,pm,an,cdv,ct,osl,rfl,lk,hcd⟩:=F.ex
 exact Jr5 lk hcd S len λ A outer s H vs Q E hr hsp=>hbody cdv A outer s H vs Q E hr hsp
theorem Def.calX {name:Str}{st:Stmt}{ps:List Str}{k:Nat}{sp:Sp}(d:Def K mg name st ps) (h:∀ f fd,Fun K name name st f fd->FnOk P w K mg base (CX1 P w) k f fd ps sp):Jgv P w K mg base name k ps sp:=by
 obtain ⟨f,fd,hm,F,b⟩:=d
 exact ⟨f,fd,hm,F.kp,b,h f fd F⟩
end
section
variable {X:Cx}{x:Str}{e:Expr}{es:List Expr}{p pos:Pos}{t:TA}{k:Nat}{ps:List Str}{sp:Sp}{E:XK}
theorem Jsl (c:Jgv X.prog X.w X.K X.mg X.base x k ps sp) (hr:Room k X.A) (hg:Gl X x) (hp:Jaf (CX1 X.prog X.w) X E) (ha:PA X (e::es) t) (hdb:(x==("__debug__":Str))=false:=by decide)
 (he:starEach (e::es) X.env=(false,eval e X.env)::starEach es X.env:=by rfl) (hpl:(backTo pos (starEach es X.env)).any (·.1)=false:=by rfl) :
 PE X (.Call (.Name x p) (e::es) [] pos) (Jdm sp [] E t):=by
 obtain ⟨f,fd,hm,hk,b,F⟩:=c
 exact Jou F hr hg hm hk b .nil hp ha hdb he hpl
end
abbrev XW:=St->Yak->Hp->Prop
def XP (X:Cx) (pins:List (Addr×Obj)) (W:XW) (e:Yak) (s':Yam):Prop:=∃ ea cls σ' H H' s,e = .ref ea/\Inv X pins σ' H s/\Fly X.prog X.w X.stack H s H' ea cls s'/\W σ' cls H'
abbrev TSX:=Ends->XW->St->Hp->Prop
def PSX (X:Cx) (st:List Stmt) (t:TSX):Prop:=∀ (pins:List (Addr×Obj)) (s:Yam) (σ:St) (H:Hp) (D:Ends) (W:XW),Inv X pins σ H s->t D W σ H->Yan (model X.prog X.w) X.A (execs st X.env) (SP X pins D) (XP X pins W) s
section
variable {X:Cx}{x y:Str}{e:Expr}{es:List Expr}{p p' pos apos:Pos}{t:TA}{k:Nat}{ps:List Str}{sp:Sp}
theorem Jvk {pins:List (Addr×Obj)}{s:Yam}{σ:St}{H:Hp}{Q:VK}{W:XW}(c:Jgv X.prog X.w X.K X.mg X.base x k ps sp) (hr:Room k X.A) (hg:Gl X x) (ha:PA X.nox (e::es) t) (I:Inv X pins σ H s) (h:t σ H λ vs H1=>sp vs H1 Q λ cls _ H2=>W σ cls H2)
 (hdb:(x==("__debug__":Str))=false:=by decide) (he:starEach (e::es) X.env=(false,eval e X.env)::starEach es X.env:=by rfl) (hpl:(backTo pos (starEach es X.env)).any (·.1)=false:=by rfl) :
 Yan (model X.prog X.w) X.A (eval (.Call (.Name x p) (e::es) [] pos) X.env) (EP X pins σ Q) (XP X pins W) s:=by
 obtain ⟨f,fd,hm,hk,b,F⟩:=c
 refine Ya7 (Jcj I hg hm ?_ hdb)
 have hA:=wpAny_mono (ha pos pins s σ H _ (I.wish _) h) (λ us s1 q=>q) (E':=XP X pins W) λ _ _ z=>z.elim
 refine J48 (h₀:=X.base) I.ok.mod.kin hk (thn hA λ us s1 ⟨vs,H1,I1',r,q⟩=>⟨I1'.kIn,?_⟩) he hpl
 have I1:Inv X pins σ H1 s1:=I1'.unwish
 have r2:J4 (vs++[]) (us++[]):=r.append .nil
 have q':sp (vs++[]) H1 Q λ cls _ H2=>W σ cls H2:=by rw [Ur];exact q
 have hl:(us++[]).length=ps.length:=by rw [<- r2.length];exact F.len _ _ _ _ q'
 refine wpAny_call (codeAny_mono (F.run X.A X.stack s1 H1 ⟨us,[]⟩ (us++[]) (vs++[]) Q _ hr I1.env0 (b s1 us I1.kIn hl) r2 q') λ r s' hq=>?_)
 cases r with
 | error e=>
  obtain ⟨ea,cls,H',rfl,Fl,hW⟩:=hq
  exact ⟨ea,cls,σ,H1,H',s1,rfl,I1,Fl,hW⟩
 | ok fl=>
  cases fl with
  | ret u=>exact I1.after hq
  | next=>exact Xx hq
  | brk=>exact Xx hq
  | cont=>exact Xx hq
def J0u (i:Nat) (sp:Sp) (t:TA):TSX:=λ D W σ H=>t σ H λ vs H1=>sp vs H1 (λ v H2=>D.nx (σ.set i (some v)) H2) λ cls _ H2=>W σ cls H2
theorem Jvl {i:Nat}(c:Jgv X.prog X.w X.K X.mg X.base x k ps sp) (hr:Room k X.A) (hg:Gl X x) (ha:PA X.nox (e::es) t) (hN:X.N.Nodup) (hi:X.N[i]? = some y) (hy:Loc X.env.scope y)
 (hdb:(x==("__debug__":Str))=false:=by decide) (he:starEach (e::es) X.env=(false,eval e X.env)::starEach es X.env:=by rfl) (hpl:(backTo pos (starEach es X.env)).any (·.1)=false:=by rfl)
 (hs:Ybd (.Call (.Name x p) (e::es) [] pos) (some (.Name y p')) apos.line X.env=pure false:=by rfl) (hf:X.fn y=true\/X.env.scope.names.lookup y=some .local := by first | exact .inl rfl | exact .inr rfl | assumption) :
 PSX X [.Assign [.Name y p'] (.Call (.Name x p) (e::es) [] pos) apos] (J0u i sp t):=by
 intro pins s σ H D W I h
 refine Ybs ?_
 refine wpAny_Assign_Name (thn (Jvk c hr hg ha I h hdb he hpl) λ v s1 ⟨z,H1,I1,r1,q1⟩=>?_) hs
 exact Bh I1 hN hi hy r1 (λ s2 I2=>Ybc ⟨_,H1,I2,q1⟩) hf
end
def HB (X:Cx) (s0:Yam) (H:Hp) (h B:Heap):Prop:=∀ b o,h.get? b=some o->((H b).isSome=true\/∃ o₀,s0.heap.get? b=some o₀)->b∉frs X.stack->B.get? b=some o
section
variable {X:Cx}{pins:List (Addr×Obj)}{σ σ0:St}{H H0:Hp}{s s0:Yam}{B h':Heap}
theorem Inv.fdata (I:Inv X pins σ H s) {b:Addr}{o:Obj}(q:X.s₀.heap.get? b=some o) (hb:b∈X.fs):∀ vs,o.data≠.fields vs:=λ vs=>by
 obtain ⟨_,o',ho',hd⟩:=I.ok.funs.mem hb
 rw [q] at ho';cases ho'
 exact hd vs
theorem Inv.trkF (I:Inv X pins σ H s) {b:Addr}(hb:(H b).isSome=true):b∉frs X.stack:=λ z=>by rw [I.stkFree b z] at hb;cases hb
theorem Inv.cellF (I:Inv X pins σ H s) {x:Str}{c:Addr}(e:X.env.cells.lookup x=some c) (nf:c∉X.fs):c∉frs X.stack:=λ z=>by
 rcases Qd.mp (I.stkSub c z) with z | z
 . exact I.cne x c e z
 . exact nf z
theorem Inv.move (I0:Inv X pins σ0 H0 s0) (I:Inv X pins σ H s) (hcf:∀ x c,X.env.cells.lookup x=some c->c∉X.fs) (hB:HB X s0 H s.heap B) (st:B.StaysIn h') (us:s.heap.UpToSlots h'):Inv X pins σ H { s with heap:=h' }:=by
 have kt:∀ b u,(H b).isSome=true->s.heap.get? b=some u->h'.get? b=some u:=λ b u hb q=>st b u (hB b u q (.inl hb) (I.trkF hb))
 have ko:∀ b u,(∃ o₀,s0.heap.get? b=some o₀)->b∉frs X.stack->s.heap.get? b=some u->h'.get? b=some u:=λ b u ho hb q=>st b u (hB b u q (.inr ho) hb)
 have cellK:∀ x c v,X.env.cells.lookup x=some c->s.heap.IsCell c v->h'.IsCell c v:=λ x c v e z=>by
  obtain ⟨o,ho,hd⟩:=z
  obtain ⟨v0,o0,ho0,_⟩:=I0.cell x c e
  exact ⟨o,ko c o ⟨o0,ho0⟩ (I.cellF e (hcf x c e)) ho,hd⟩
 have old:∀ b o,X.s₀.heap.get? b=some o->b∉X.ex->∃ o₀,s0.heap.get? b=some o₀:=λ b o q hx=>I0.base.there b o q hx
 refine ⟨I.ok,I.os,I.bare,⟨λ b o q n hb hx=>?_,λ b o q n hb hx=>?_,I.base.free,λ b o q hx=>?_,I.base.tups,I.base.frzs,I.base.tbls⟩,?_,λ x c e=>?_,I.free,I.freeC,λ p hp=>?_,I.hok.keptT kt,I.len⟩
 . exact ko b o (old b o q hx) (I.old_stk q hb) (I.base.keep b o q n hb hx)
 . obtain ⟨sl,e⟩:=I.base.slot b o q n hb hx
   obtain ⟨sl',e'⟩:=us b _ e (show ∀ vs,o.data≠.fields vs from I.fdata q hb)
   exact ⟨sl',e'⟩
 . obtain ⟨o',e⟩:=I.base.there b o q hx
   by_cases hb:b∈X.fs
   . obtain ⟨sl,e2⟩:=I.base.slot b o q (I.ok.frf b hb) hb hx
     obtain ⟨sl',e'⟩:=us b _ e2 (show ∀ vs,o.data≠.fields vs from I.fdata q hb)
     exact ⟨_,e'⟩
   . exact ⟨o',ko b o' (old b o q hx) (I.old_stk q hb) e⟩
 . obtain ⟨m,hn,hl⟩:=I.loc
   refine ⟨m,us.ns hn,λ i x v e1 e2 e3=>?_⟩
   obtain ⟨u,r,l⟩:=hl i x v e1 e2 e3
   refine ⟨u,r,?_⟩
   rcases l with l | ⟨k,c,e,z⟩
   . exact .inl l
   . exact .inr ⟨k,c,e,cellK x c _ e z⟩
 . obtain ⟨v,z⟩:=I.cell x c e
   exact ⟨v,cellK x c v e z⟩
 . obtain ⟨e,n,ne,nf,d⟩:=I.pin p hp
   obtain ⟨e0,_⟩:=I0.pin p hp
   refine ⟨ko p.1 p.2 ⟨_,e0⟩ (λ z=>?_) e,n,ne,nf,d⟩
   rcases Qd.mp (I.stkSub p.1 z) with z | z
   . exact ne z
   . exact nf z
theorem HB.move (I0:Inv X pins σ0 H0 s0) (I:Inv X pins σ H s) (hth:∀ b o₀,s0.heap.get? b=some o₀->∃ o,s.heap.get? b=some o) (hB:HB X s0 H s.heap B) (st:B.StaysIn h'):HB X s0 H h' B:=λ b o q hb hn=>by
 have ex:∃ u,s.heap.get? b=some u:=by
  rcases hb with hb | ⟨o₀,hb⟩
  . obtain ⟨v,hv⟩:=J49.mp hb
    exact I.hok.there hv
  . exact hth b o₀ hb
 obtain ⟨u,hu⟩:=ex
 have e:=hB b u hu hb hn
 have e2:=st b u e
 rw [q] at e2;cases e2
 exact e
theorem Inv.track {ea C:Addr}(I:Inv X pins σ H s) (hn:H ea=none) (ho:OfC ea C s.heap) (n0:X.s₀.heap.get? ea=none) (nl:ea≠X.env.locals) (nc:∀ x c,X.env.cells.lookup x=some c->c≠ea) (np:∀ p∈X.pn++pins,p.1≠ea) :
 Inv X pins σ (upd H ea (.ext (OfC ea C))) s:=by
 have ne0:∀ b o,X.s₀.heap.get? b=some o->b≠ea:=λ b o q z=>by rw [z,n0] at q;cases q
 refine ⟨I.ok,I.os,I.bare,⟨I.base.keep,I.base.slot,λ b o q n hx=>?_,I.base.there,λ b xs q=>?_,λ b o u q=>?_,λ b ps q=>?_⟩,I.loc,I.cell,?_,λ x c e=>?_,λ p hp=>?_,?_,I.len⟩
 . rw [Je (ne0 b o q)];exact I.base.free b o q n hx
 . have e:=I.base.tups b xs q;rw [Je (Jl e hn)];exact e
 . have e:=I.base.frzs b o u q;rw [Je (Jl e hn)];exact e
 . obtain ⟨m,e⟩:=I.base.tbls b ps q;exact ⟨m,by rw [Je (Jl e hn)];exact e⟩
 . rw [Je (Qh nl)];exact I.free
 . rw [Je (nc x c e)];exact I.freeC x c e
 . obtain ⟨e,n,ne,nf,d⟩:=I.pin p hp
   exact ⟨e,by rw [Je (np p hp)];exact n,ne,nf,d⟩
 . obtain ⟨o,e,c⟩:=id ho
   exact I.hok.more hn ho ⟨o,e⟩ λ h1 h2 ⟨o1,e1,c1⟩ k=>⟨o1,k o1 e1,c1⟩
noncomputable abbrev Cx.inH (X:Cx) (ea:Addr):Cx:={ X with A:=X.A.mark (some (.ref ea)),calm:=false }
theorem Inv.inH (I:Inv X pins σ H s) (ea:Addr) (hfr:(X.A.mark (some (.ref ea))).frames=X.A.frames):Inv (X.inH ea) pins σ H s:=
 ⟨⟨I.ok.mod,I.ok.kind,I.ok.glob,I.ok.blt,I.ok.above,I.ok.inj,I.ok.has,I.ok.cab,λ z=>J6u z,hfr.trans I.ok.frames,I.ok.stk,I.ok.exf,I.ok.bs,I.ok.bsz,I.ok.noex,I.ok.exfs,I.ok.funs,I.ok.frf⟩,I.os,I.bare,I.base,I.loc,I.cell,I.free,I.freeC,I.pin,I.hok,I.len⟩
theorem Inv.outH {ea:Addr}(I:Inv (X.inH ea) pins σ H s) (hd:X.calm=true->X.A.handled=none) (hfr:(X.A.mark (some (.ref ea))).frames=X.A.frames):Inv X pins σ H s:=
 ⟨⟨I.ok.mod,I.ok.kind,I.ok.glob,I.ok.blt,I.ok.above,I.ok.inj,I.ok.has,I.ok.cab,hd,hfr.symm.trans I.ok.frames,I.ok.stk,I.ok.exf,I.ok.bs,I.ok.bsz,I.ok.noex,I.ok.exfs,I.ok.funs,I.ok.frf⟩,I.os,I.bare,I.base,I.loc,I.cell,I.free,I.freeC,I.pin,I.hok,I.len⟩
theorem Jsm {M:Model}{A:Yaq}{E:Yak->Yam->Prop}{i:Nat}{n:Str}{pos:Pos}{Q:Unit->Yam->Prop}(I:Inv X pins σ H s) (hN:X.N.Nodup) (hi:X.N[i]? = some n) (hl:X.env.scope.names.lookup n=some .local)
 (h:∀ s',Inv X pins (σ.set i none) H s'->Q () s'):Yan M A (do Ybe X.env n .none;unbindBehindTheSuite X.env n pos) Q E s:=by
 obtain ⟨m,hn,hv⟩:=id I.loc
 have hiσ:i < σ.length:=by rw [I.len];exact (Qv.mp hi).1
 refine wpAny_nameGoes_keeps (m:=m) hl hn (by rw [I.ok.kind];rfl) λ h' v hn' hs=>h _ ?_
 have ne:∀ b o,X.s₀.heap.get? b=some o->b≠X.env.locals:=λ b o q=>I.old_ne q
 have kt:∀ b u,(H b).isSome=true->s.heap.get? b=some u->h'.get? b=some u:=λ b u hb q=>(hs.2 b (λ z=>by rw [z,I.free] at hb;cases hb)).trans q
 refine ⟨I.ok,I.os,I.bare,⟨λ b o q n hb hx=>(hs.2 b (ne b o q)).trans (I.base.keep b o q n hb hx),λ b o q n hb hx=>?_,I.base.free,λ b o q hx=>?_,I.base.tups,I.base.frzs,I.base.tbls⟩,⟨_,hn',λ j y v' e1 e2 e3=>?_⟩,λ y c e=>?_,I.free,I.freeC,λ p hp=>?_,I.hok.keptT kt,by simpa using I.len⟩
 . obtain ⟨sl,e⟩:=I.base.slot b o q n hb hx
   exact ⟨sl,(hs.2 b (ne b o q)).trans e⟩
 . obtain ⟨o',e⟩:=I.base.there b o q hx
   exact ⟨o',(hs.2 b (ne b o q)).trans e⟩
 . have hj:j≠i:=λ z=>by rw [z,Q7 hiσ] at e2;cases e2
   rw [Q1 (Qh hj)] at e2
   obtain ⟨u,r,l⟩:=hv j y v' e1 e2 e3
   refine ⟨u,r,?_⟩
   rcases l with ⟨k,e⟩ | ⟨k,c,e,z⟩
   . have hy:y≠n:=λ z=>hj (Jgh hN e1 (z▸hi))
     exact .inl ⟨k,by simp [hy,e]⟩
   . exact .inr ⟨k,c,e,z.sameBut hs (I.cne y c e)⟩
 . obtain ⟨w',z⟩:=I.cell y c e
   exact ⟨w',z.sameBut hs (I.cne y c e)⟩
 . obtain ⟨e,n',ne',nf,d⟩:=I.pin p hp
   exact ⟨(hs.2 p.1 ne').trans e,n',ne',nf,d⟩
end
noncomputable def unE (i:Nat) (D:Ends):Ends:={ nx:=λ σ H=>D.nx (σ.set i none) H,rt:=D.rt,bk:=λ σ H=>D.bk (σ.set i none) H,ct:=λ σ H=>D.ct (σ.set i none) H }
def J2e (K:Qb) (C:Addr) (i:Nat) (tb:TSX) (ts:TS):TS:=λ D σ H=>tb D (λ σ' cls H'=>∃ C0,cls = .ref C0/\J4s K (.ref C0) (.ref C)=some true/\∀ ea,H' ea=none->ts (unE i D) (σ'.set i (some (.ref ea))) (upd H' ea (.ext (OfC ea C0)))) σ H
theorem Jyy {X:Cx}{pins:List (Addr×Obj)}{σ:St}{H0 H:Hp}{s0 s:Yam}{ea:Addr}{cls:Yak}{E:Yak->Yam->Prop}{Q:Yam->Prop}(hst:X.stack=X.env::X.outer) (hf:X.env.frame=some X.env.locals) (hfn:∀ x,X.fn x=true) (I0:Inv X pins σ H0 s0) (F:Fly X.prog X.w X.stack H0 s0 H ea cls s)
 (h:∀ s3 B t,Inv X pins σ H s3->HB X s0 H s3.heap B->(∀ b o₀,s0.heap.get? b=some o₀->∃ o,s3.heap.get? b=some o)->J61 B X.stack ea cls (.ref t) s3.heap->Q s3) :
 Yan (model X.prog X.w) X.A (noteFrame (.ref ea) X.env) (λ _ s₂=>Yan (model X.prog X.w) X.A (setFlight (.ref ea) none) (λ _ s₃=>Q s₃) E s₂) E s:=by
 obtain ⟨B,t,hB,fl⟩:=F.fl
 have I:Inv X pins σ H s:=I0.call' F.os F.un F.hok F.bare λ b z=>absurd z (by simp)
 have hcf:∀ x c,X.env.cells.lookup x=some c->c∉X.fs:=λ x c e z=>by
  obtain ⟨_,o,ho,_⟩:=I0.ok.funs.mem z
  exact absurd (Qy (Qr ho) (I0.ok.cab x c (hfn x) e)) (Q9 _)
 have th:∀ b o₀,s0.heap.get? b=some o₀->∃ o,s.heap.get? b=some o:=λ b o₀ q=>F.un.there b o₀ q (by simp)
 have hB0:HB X s0 H s.heap B:=hB
 have fl0:=fl
 rw [hst] at fl
 refine wpAny_looks_onW (by rw [I0.ok.frames,hst]) hf fl λ h4 held4 us4=>?_
 refine wpAny_landsW held4 λ h5 fl5 us5=>?_
 have us:=us4.trans us5
 rw [<- hst] at fl5
 have I5:Inv X pins σ H { s with heap:=h5 }:=Inv.move I0 I hcf hB0 fl5.1 us
 have hB5:HB X s0 H h5 B:=HB.move I0 I th hB0 fl5.1
 refine h _ B t I5 hB5 (λ b o₀ q=>?_) fl5
 by_cases hb:b∈frs X.stack
 . have:=(fl5.2.2.1.mem hb).2
   exact ⟨_,this.choose_spec.1⟩
 . obtain ⟨o,e⟩:=th b o₀ q
   exact ⟨o,fl5.1 b o (hB0 b o e (.inr ⟨o₀,q⟩) hb)⟩
section
variable {X:Cx}{body:List Stmt}{tb:TSX}{ts:TS}{b₀:Stmt}{suite:List Stmt}{c n:Str}{C:Addr}{i:Nat}{np hpos pos:Pos}
theorem Jyz (hxe:X.xe=λ _ _=>False) (hst:X.stack=X.env::X.outer) (hf:X.env.frame=some X.env.locals) (hfn:∀ x,X.fn x=true) (hex:X.ex=[]) (hfr:∀ ea,(X.A.mark (some (.ref ea))).frames=X.A.frames) (hN:X.N.Nodup) (hi:X.N[i]? = some n) (hl:X.env.scope.names.lookup n=some .local) (hg:Gl X c) (hc:X.mg c=some (.ref C))
 (hb:PSX X body tb) (hs:∀ ea,PSs (X.inH ea) (b₀ :: suite) ts) (hdb:(c==("__debug__":Str))=false:=by decide) :
 PS X (.Try body [.ExceptHandler (some (.Name c np)) (some n) (b₀ :: suite) hpos] [] [] pos) (J2e X.K C i tb ts):=by
 intro pins s σ H D I h
 refine wpAny_Try_except (wpAny_mono (hb pins s σ H D _ I h) (λ f s1 q=>?_) λ e s1 hx=>?_)
 . cases f with
   | next=>exact Ybc q
   | brk=>exact q
   | cont=>exact q
   | ret u=>exact q
 . obtain ⟨ea,cls,σ',H0,H',s0,rfl,I0,F,C0,rfl,hm,hw⟩:=hx
   refine Jyy hst hf hfn I0 F λ s3 B t I3 hB3 th3 fl3=>?_
   have I3h:Inv (X.inH ea) pins σ' H' s3:=I3.inH ea (hfr ea)
   have hcf:∀ x c,X.env.cells.lookup x=some c->c∉X.fs:=λ x c e z=>by
    obtain ⟨_,o,ho,_⟩:=I0.ok.funs.mem z
    exact absurd (Qy (Qr ho) (I0.ok.cab x c (hfn x) e)) (Q9 _)
   -- what B holds is not the exception
   have nB:∀ b o,B.get? b=some o->b≠ea:=λ b o q z=>by rw [z,fl3.2.1] at q;cases q
   have nfe:ea∉frs X.stack:=λ z=>by
    obtain ⟨_,o,ho,hd⟩:=fl3.2.2.1.mem z
    obtain ⟨oe,vs,he,_,hde,_⟩:=fl3.first
    rw [he] at ho;cases ho
    exact hd vs hde
   have n00:∀ o,s0.heap.get? ea≠some o:=λ o q=>by
    obtain ⟨u,hu⟩:=th3 ea o q
    have:=hB3 ea u hu (.inr ⟨o,q⟩) nfe
    rw [fl3.2.1] at this;cases this
   have n0:X.s₀.heap.get? ea=none:=by
    cases q:X.s₀.heap.get? ea with
    | none=>rfl
    | some o=>
     obtain ⟨u,hu⟩:=I0.base.there ea o q (by rw [hex];simp)
     exact absurd hu (n00 u)
   have hne:H' ea=none:=by
    cases q:H' ea with
    | none=>rfl
    | some o=>
     obtain ⟨u,hu⟩:=I3.hok.there q
     have:=hB3 ea u hu (.inl (by rw [q];rfl)) nfe
     rw [fl3.2.1] at this;cases this
   refine wpAny_handleBy_cons (codeAny_handlers_test ?_) (by intro z;cases z)
   refine Jcj (X:=X.inH ea) I3h hg hc ?_ hdb
   obtain ⟨oe,hoe,hce⟩:=fl3.there
   have ofc:OfC ea C0 s3.heap:=⟨oe,hoe,hce⟩
   refine (PySem.W.exm_one I3.kIn ofc.ty hm).here ?_
   show Yay _ _ (.handlers (.ref ea) [.ExceptHandler none (some n) (b₀ :: suite) hpos] X.env) _ _
   refine codeAny_handlers_suite_as ?_
   refine lands_againW fl3 λ h6 fl6 us6=>?_
   have I6:Inv X pins σ' H' { s3 with heap:=h6 }:=Inv.move I0 I3 hcf hB3 fl6.1 us6
   obtain ⟨oe6,hoe6,hce6⟩:=fl6.there
   have I6t:Inv X pins σ' (upd H' ea (.ext (OfC ea C0))) { s3 with heap:=h6 }:=I6.track hne ⟨oe6,hoe6,hce6⟩ n0 (λ z=>nfe (by rw [hst,z];unfold frs;rw [J44,hf];exact Qk)) (λ x c e z=>by
    obtain ⟨v,o,ho,_⟩:=I0.cell x c e
    exact n00 o (z▸ho)) (λ p hp z=>by
    obtain ⟨e,_⟩:=I0.pin p hp
    exact n00 p.2 (z▸e))
   refine Bh (X:=X.inH ea) (I6t.inH ea (hfr ea)) hN hi (.inl hl) (v:=.ref ea) rfl (λ s7 I7=>?_) (.inr hl)
   have hS:=hs ea pins s7 _ _ (unE i D) I7 (hw ea hne)
   refine wpAny_mono hS (λ f s8 q=>?_) λ e s8 z=>?_
   . have go:∀ {σ8:St} {H8:Hp},Inv (X.inH ea) pins σ8 H8 s8->∀ {R:Flow->Yam->Prop},(∀ s9,Inv X pins (σ8.set i none) H8 s9->R f s9)->Yan (model X.prog X.w) X.A (do Ybe X.env n .none;unbindBehindTheSuite X.env n hpos) (λ _ s9=>R f s9) X.xe s8:=λ I8 _ k=>Jsm (I8.outH I.ok.hd (hfr ea)) hN hi hl λ s9 I9=>k s9 I9
     cases f with
     | next=>obtain ⟨σ8,H8,I8,q⟩:=q;exact go I8 λ s9 I9=>⟨_,H8,I9,q⟩
     | brk=>obtain ⟨σ8,H8,I8,q⟩:=q;exact go I8 λ s9 I9=>⟨_,H8,I9,q⟩
     | cont=>obtain ⟨σ8,H8,I8,q⟩:=q;exact go I8 λ s9 I9=>⟨_,H8,I9,q⟩
     | ret u=>obtain ⟨v,σ8,H8,I8,r,q⟩:=q;exact go I8 λ s9 I9=>⟨v,_,H8,I9,r,q⟩
   . have z:X.xe e s8:=z
     rw [hxe] at z
     exact z.elim
end
open PySem.SeqAt
section
variable {P:Yap}{w:Yao}{K:Qb}{mg:Str->Option Yak}{base:Heap}
end
section
variable {X:Cx}{x:Str}{e:Expr}{es:List Expr}{p pos:Pos}{t:TA}{k:Nat}{ps:List Str}{sp:Sp}
theorem Jsn:V1 X (.builtin "isinstance") (λ xs H Q=>∃ ea C0 c u cd b,xs=[.ref ea,c]/\H ea=some (.ext (OfC ea C0))/\ExC X.K C0/\J3s X.K C0=some cd/\((∃ C,c = .ref C/\u=Qw C)\/(∃ T,c = .ty T/\u=U9 T))/\Uq X.K (.ref C0) u=some b/\Q (.bl b) H):=by
 intro pins s σ H xs us Q I r h
 obtain ⟨ea,C0,c,u,cd,b,rfl,he,ec,hcd,hc,hk,q⟩:=h
 obtain ⟨v1,v2,rfl,r1,r2⟩:=Jk7 r
 cases (show v1=Qw ea from r1)
 have e2:v2=u:=by
  rcases hc with ⟨C,rfl,rfl⟩ | ⟨T,rfl,rfl⟩
  . exact r2
  . exact r2
 subst e2
 exact Uj (Jsj ec hcd) I.kIn (I.hok ea _ he).1 hk (λ z=>nomatch z) λ tk=>⟨.bl b,H,I.tok tk,rfl,q⟩
theorem eqB {A:Yaq}{s:Yam}{bs:List Bool}{us:List Yak}(r:J4 (bs.map V.bl) us) (e:Yak->Bool) (hE:∀ b,e (.bool b)=b):∀ y,y∈us.toArray->EqAt A s y (.bool true) (e y):=by
 intro y hy
 have hy:y∈us:=by simpa using hy
 obtain ⟨i,hi,rfl⟩:=J8y hy
 have hl:=r.length
 rw [Qc] at hl
 obtain ⟨u,hu,ru⟩:=r.get (i:=i) (x:=.bl (bs[i]'(by omega))) (by rw [Qm,Qf];rfl)
 rw [Qf hi] at hu
 cases hu
 rw [show us[i]=X8 (bs[i]'(by omega)) from ru,hE]
 have:=EqAt.bool_bool (A:=A) (s:=s) (bs[i]'(by omega)) true
 rw [show ((bs[i]'(by omega))==true)=(bs[i]'(by omega)) by simp] at this
 exact this
noncomputable def Jc3:Yak->Bool | .bool b=>b | _=>false
theorem Jo3 {bs:List Bool}:∀ {us:List Yak},J4 (bs.map V.bl) us->us=bs.map X8:=by
 induction bs with
 | nil=>intro us r;cases r;rfl
 | cons b bs ih=>
  intro us r
  cases r with
  | cons r t=>rw [show _=X8 b from r,ih t];rfl
def Jvm (K:Qb):V->List V->Hp->VK->Prop:=λ x vs H Q=>∃ (l:Addr) (bs:List Bool),x = .ref l/\vs=[.bl true]/\H l=some (.lst (bs.map V.bl))/\Q (.int (bs.countP id:Nat)) H
theorem Jqp:MtM X "list.count" (Jvm X.K):=by
 intro pins s σ H x vs v us Q I rx rv h
 obtain ⟨l,bs,rfl,rfl,hH,q⟩:=h
 cases rx
 obtain ⟨u,rfl,ru⟩:=rv.one
 cases (show u=X8 true from ru)
 obtain ⟨z,its,n,r,hl,e⟩:=I.lstM hH
 refine call_meets J8z ⟨_,e,rfl⟩ J80 (J81 _ _) (list_countAt l its.toArray n none #[] (.bool true) Jc3) ⟨e,eqB r Jc3 (λ _=>rfl),?_⟩
 refine ⟨.int _,H,I.tok _,⟨_,rfl⟩,?_⟩
 rw [Jo3 r]
 have:J63 Jc3 (bs.map X8).toArray.toList=bs.countP id:=by simp [List.countP_map];rfl
 rw [this];exact q
def Jvn (K:Qb):V->List V->Hp->VK->Prop:=λ x vs H Q=>∃ (l:Addr) (bs:List Bool) (j:Nat),x = .ref l/\vs=[.bl true]/\H l=some (.lst (bs.map V.bl))/\bs[j]? = some true/\(∀ m,m<j->bs[m]? = some false)/\Q (.int (j:Nat)) H
theorem Jqq:MtM X "list.index" (Jvn X.K):=by
 intro pins s σ H x vs v us Q I rx rv h
 obtain ⟨l,bs,j,rfl,rfl,hH,hj,hno,q⟩:=h
 cases rx
 obtain ⟨u,rfl,ru⟩:=rv.one
 cases (show u=X8 true from ru)
 obtain ⟨z,its,n,r,hl,e⟩:=I.lstM hH
 have eb:=Jo3 r
 subst eb
 have hs:=Yar
 have hjl:j<bs.length:=(Qv.mp hj).1
 rw [Qc] at z
 refine call_meets F.slot_list_index ⟨_,e,rfl⟩ F.entry_list_index (F.args_list_index_2 _ _) (list_indexAt l (bs.map X8).toArray n none #[] (.bool true) Jc3 j (by simpa using hjl) (by omega) ?_ ?_) ⟨e,eqB r Jc3 (λ _=>rfl),?_⟩
 . have:bs[j]=true:=by rw [Qf hjl] at hj;exact Xp hj
   simp [Jc3,this]
 . intro m hm hmj
   have hml:m<bs.length:=by omega
   have:=hno m hmj
   rw [Qf hml] at this
   simp [Jc3,Xp this]
 . exact ⟨.int _,H,I.tok _,⟨_,rfl⟩,q⟩
end
structure Er where
 fall:Addr
 way:Addr
 round:Addr
 ring:Addr
 purse:Addr
 end_:Addr
 stand:Addr
 many:Addr
 line:Addr
 row:Addr
noncomputable def Er.all (z:Er):List Addr:=[z.way,z.round,z.ring,z.purse,z.end_,z.stand,z.many,z.line,z.row]
noncomputable def Er.able (z:Er):List Addr:=[z.way,z.round,z.ring,z.purse,z.end_,z.stand,z.many,z.line]
noncomputable def Jie (K:Qb) (x:Str):Addr:=match Ua K Yas x with
 | some (some (.ref a))=>a
 | _=>0
noncomputable def J0v (K:Qb):Er:=⟨Jie K "FallError",Jie K "NoWay",Jie K "NoRound",Jie K "NoRing",Jie K "NoPurse",Jie K "NoEnd",Jie K "NoStand",Jie K "TooMany",Jie K "NoLine",Jie K "NoRow"⟩
noncomputable def Jy0 (K:Qb) (D:Addr):Bool:=Xr K (.ref D) "__getattribute__" == some (some (.builtin "BaseException.__getattribute__"))&&Xr K (.ref D) "__getattr__" == some none&&Xr K (.ref D) "__class__" == some (some (.builtin "object.__class__"))
 && J6f K (.builtin "object.__class__") "__get__" == some (some (.builtin "getset_descriptor.__get__"))&&J6g K (.builtin "object.__class__")==some true&&J4f K D (.type "object")==some true&&J4f K D (.type "BaseException")==some true
theorem Jy1 {K:Qb}{D:Addr}(h:Jy0 K D=true):ExC K D:=by
 unfold Jy0 at h
 simp only [X3,beq_iff_eq] at h
 obtain ⟨⟨⟨⟨⟨⟨h1,h2⟩,h3⟩,h4⟩,h5⟩,h6⟩,h7⟩:=h
 exact ⟨h1,h2,h3,h4,h5,h6,h7⟩
noncomputable def erB (K:Qb) (z:Er):Bool:=
 (Ua K Yas "FallError" == some (some (.ref z.fall))&&Ua K Yas "NoWay" == some (some (.ref z.way))&&Ua K Yas "NoRound" == some (some (.ref z.round))&&Ua K Yas "NoRing" == some (some (.ref z.ring))&&Ua K Yas "NoPurse" == some (some (.ref z.purse))
  && Ua K Yas "NoEnd" == some (some (.ref z.end_))&&Ua K Yas "NoStand" == some (some (.ref z.stand))&&Ua K Yas "TooMany" == some (some (.ref z.many))&&Ua K Yas "NoLine" == some (some (.ref z.line))&&Ua K Yas "NoRow" == some (some (.ref z.row)))
 && (z.able.all λ c=>J5m K c Jvj "ValueError.__new__")
 && (z.all.all λ c=>Jy0 K c&&(J3s K c).isSome&&Uq K (.ref c) (.type "ValueError")==some true&&J4s K (.ref c) (.ref z.fall)==some true&&J4s K (.ref c) (.ref c)==some true&&z.all.all λ d=>Uq K (.ref c) (.ref d)==some (c==d))
 && decide z.all.Nodup
structure ErOk (K:Qb) (mg:Str->Option Yak) (z:Er):Prop where
 fall:mg "FallError" = some (.ref z.fall)
 way:mg "NoWay" = some (.ref z.way)
 round:mg "NoRound" = some (.ref z.round)
 ring:mg "NoRing" = some (.ref z.ring)
 purse:mg "NoPurse" = some (.ref z.purse)
 end_:mg "NoEnd" = some (.ref z.end_)
 stand:mg "NoStand" = some (.ref z.stand)
 many:mg "TooMany" = some (.ref z.many)
 line:mg "NoLine" = some (.ref z.line)
 row:mg "NoRow" = some (.ref z.row)
 ab:∀ c∈z.able,J5m K c Jvj "ValueError.__new__" = true
 ex:∀ c∈z.all,ExC K c
 cl:∀ c∈z.all,∃ cd,J3s K c=some cd
 va:∀ c∈z.all,Uq K (.ref c) (.type "ValueError")=some true
 xm:∀ c∈z.all,J4s K (.ref c) (.ref z.fall)=some true
 xs:∀ c∈z.all,J4s K (.ref c) (.ref c)=some true
 ki:∀ c∈z.all,∀ d∈z.all,Uq K (.ref c) (.ref d)=some (c==d)
 nd:z.all.Nodup
theorem Jvo {K:Qb}{mg:Str->Option Yak}{h:Heap}{z:Er}(X:K.In h) (G:h.Ns Yas mg) (e:erB K z=true):ErOk K mg z:=by
 unfold erB at e
 simp only [X3,beq_iff_eq,Uv,decide_eq_true_eq] at e
 obtain ⟨⟨⟨⟨⟨⟨⟨⟨⟨⟨⟨⟨n1,n2⟩,n3⟩,n4⟩,n5⟩,n6⟩,n7⟩,n8⟩,n9⟩,n10⟩,ha⟩,hall⟩,nd⟩:=e
 exact ⟨Ug X G n1,Ug X G n2,Ug X G n3,Ug X G n4,Ug X G n5,Ug X G n6,Ug X G n7,Ug X G n8,Ug X G n9,Ug X G n10,ha,
  λ c hc=>Jy1 (hall c hc).1.1.1.1.1,λ c hc=>J49.mp (hall c hc).1.1.1.1.2,λ c hc=>(hall c hc).1.1.1.2,λ c hc=>(hall c hc).1.1.2,λ c hc=>(hall c hc).1.2,λ c hc d hd=>(hall c hc).2 d hd,nd⟩
theorem erOk_mk {K:Qb}{mg:Str->Option Yak}{h:Heap}(X:K.In h) (G:h.Ns Yas mg) (e:erB K (J0v K)=true):ErOk K mg (J0v K):=Jvo X G e
section
variable {K:Qb}{mg:Str->Option Yak}{z:Er}
theorem ErOk.rWay (e:ErOk K mg z):RCl K mg "NoWay" z.way:=⟨e.way,e.ab _ (by simp [Er.able])⟩
end
section
variable {X:Cx}{v:Expr}{te:TE}{a b:Str}{ja jb:Nat}{pa pb pf pos:Pos}
theorem Vm {o:Expr}{n:Str}{es:List Expr}{t:TA}(ha:PE X (.Attribute o n pos) te) (hr:PA X es t):PA X (.Attribute o n pos::es) (Yo te t):=Vi ha hr rfl
end
theorem Jso {P:Yap}{w:Yao}{X:Cx}:Jaf (CX1 P w) X E0:=λ _ _ _ _ _ _ _ ⟨_,_,_,_,_,h⟩=>h.elim
section
variable {X:Cx}{x:Str}{e:Expr}{es:List Expr}{p pos apos:Pos}{t:TA}{k:Nat}{ps:List Str}{sp:Sp}
variable {body:List Stmt}{tb:TSX}{ts:TS}{b₀:Stmt}{suite:List Stmt}{c:Str}{C:Addr}{np hpos:Pos}
end
end L2
namespace My
open L2
theorem kno {K:Qb}{mg:Str->Option Yak}{z:Er}(Z:ErOk K mg z) {c d:Addr}(hc:c∈z.all) (hd:d∈z.all) (h:c≠d):Uq K (.ref c) (.ref d)=some false:=by
 rw [Z.ki c hc d hd,beq_eq_false_iff_ne.mpr h]
theorem J2f {K:Qb}{mg:Str->Option Yak}{z:Er}(Z:ErOk K mg z) {c:Addr}(hc:c∈z.all):Uq K (.ref c) (.ref c)=some true:=by
 rw [Z.ki c hc c hc,beq_self_eq_true]
end My
namespace HT
section
variable {prog:Yap}{w:Yao}{A:Yaq}{E:Yak->Yam->Prop}{s:Yam}
end
end HT
namespace L2
end L2
namespace My
open L2
theorem sIx_none (n d:Nat):HT.sIx n d none=d:=rfl
end My
namespace L2
end L2
namespace My
open L2
section
variable {p c wl:Addr}{R U:Int}{ws:List Way}{bv fv hv:V}{r:Int}{xs:List Int}{Hs H H':Hp}{ns:List Int}
end
end My
namespace L2
section
variable {prog:Yap}{w:Yao}{A:Yaq}{E:Yak->Yam->Prop}{s:Yam}{l:Addr}{xs:Array (Int×Tok)}
end
section
variable {X:Cx}
end
end L2
namespace My
open L2
structure L3 (ws:List Way):Prop where
 len:ws.length=3
 ok:∀ w∈ws,WayOk 2 1 w
 a0:(Jj ws 0).a=0
 b0:(Jj ws 0).b=0
 a1:(Jj ws 1).a=0
 b1:(Jj ws 1).b=1
 a2:(Jj ws 2).a=1
 b2:(Jj ws 2).b=0
theorem nodup_le:∀ (n:Nat) (l:List Nat),l.Nodup->(∀ x∈l,x<n)->l.length<=n:=by
 intro n
 induction n with
 | zero=>
  intro l _ h
  cases l with
  | nil=>exact Ql _
  | cons a l=>exact absurd (h a Qk) (J64 _)
 | succ n ih=>
  intro l nd h
  by_cases hm:n∈l
  . have e:=ih (l.erase n) (nd.erase n) λ x hx=>by
     have hx':=(List.Nodup.mem_erase_iff nd).mp hx
     have:=h x hx'.2
     omega
    rw [List.length_erase_of_mem hm] at e
    omega
  . have:=ih l nd λ x hx=>by
     have:=h x hx
     have:x≠n:=λ z=>hm (z▸hx)
     omega
    omega
end My
namespace L2
section
variable {X:Cx}
end
end L2
namespace My
open L2
noncomputable def Vu (ws:List Way) (cs:List Int):Nat->Int->Int
 | 0,_=>0
 | i+1,r=>Vu ws cs i r-(if (Jj ws (i:Nat)).a=r then cs.getD i 0 else 0)+(if (Jj ws (i:Nat)).b=r then cs.getD i 0 else 0)
theorem Bm {n:Nat}{k:Int}(h0:0<=k) (h1:k<n):ixN n k=some k.toNat:=by
 unfold ixN;rw [if_pos h0,if_pos h1]
theorem Jvp {α:Type}(xs:List α) (x:α):atI (xs++[x]) (-1)=some x:=by
 unfold atI ixN
 rw [Xn,U0,if_neg (by omega),if_pos (by omega)]
 show (xs++[x])[(-1+((xs.length+1:Nat):Int)).toNat]? = some x
 rw [show (-1+((xs.length+1:Nat):Int)).toNat=xs.length by omega]
 simp
inductive Rt (es:List (Nat×Nat)):Nat->Nat->Prop
 | refl (a:Nat):Rt es a a
 | step {a b c:Nat}:Rt es a b->(b,c)∈es->Rt es a c
theorem Rt.trans {es:List (Nat×Nat)}{a b c:Nat}(h:Rt es a b) (g:Rt es b c):Rt es a c:=by
 induction g with
 | refl=>exact h
 | step _ e ih=>exact ih.step e
noncomputable def Pw (es:List (Nat×Nat)):Nat->Nat->Nat->Bool
 | 0,a,b=>decide (a=b)||decide ((a,b)∈es)
 | m+1,a,b=>Pw es m a b||(Pw es m a m&&Pw es m m b)
theorem Pw.mono {es:List (Nat×Nat)}{m a b:Nat}(h:Pw es m a b=true):Pw es (m+1) a b=true:=by
 rw [Pw,h];rfl
theorem Pw.zero {es:List (Nat×Nat)}{a b:Nat}(h:Pw es 0 a b=true):∀ m,Pw es m a b=true
 | 0=>h
 | m+1=>Pw.mono (Pw.zero h m)
theorem Pw.cut {es:List (Nat×Nat)}{m a b:Nat}(h:Pw es (m+1) a b=true):Pw es m a b=true\/(Pw es m a m=true/\Pw es m m b=true):=by grind [Pw]
theorem Pw.via {es:List (Nat×Nat)}{m a b:Nat}(h:Pw es m a m=true) (g:Pw es m m b=true):Pw es (m+1) a b=true:=by grind [Pw]
theorem Pw.trans {es:List (Nat×Nat)}:∀ {m a b k:Nat},k<m->Pw es m a k=true->Pw es m k b=true->Pw es m a b=true
 | 0,_,_,_,h,_,_=>absurd h (J64 _)
 | m+1,a,b,k,hk,h,g=>by
  by_cases e:k=m
  . subst e
    have h':Pw es k a k=true:=by rcases (Pw.cut h) with h | h;exact h;exact h.1
    have g':Pw es k k b=true:=by rcases (Pw.cut g) with g | g;exact g;exact g.2
    exact Pw.via h' g'
  . have hk':k<m:=by omega
    rcases (Pw.cut h) with h | ⟨h1,h2⟩
    . rcases (Pw.cut g) with g | ⟨g1,g2⟩
      . exact Pw.mono (Pw.trans hk' h g)
      . exact Pw.via (Pw.trans hk' h g1) g2
    . rcases (Pw.cut g) with g | ⟨g1,g2⟩
      . exact Pw.via h1 (Pw.trans hk' h2 g)
      . exact Pw.via h1 g2
theorem Pw.rt {es:List (Nat×Nat)}:∀ {m a b:Nat},Pw es m a b=true->Rt es a b
 | 0,a,b,h=>by
  rw [Pw,J5n] at h
  rcases h with h | h
  . obtain rfl:=of_decide_eq_true h;exact .refl a
  . exact .step (.refl a) (of_decide_eq_true h)
 | m+1,a,b,h=>by
  rcases (Pw.cut h) with h | ⟨h,g⟩
  . exact Pw.rt h
  . exact (Pw.rt h).trans (Pw.rt g)
theorem Rt.pw {es:List (Nat×Nat)}{R a b:Nat}(hr:∀ e∈es,e.1<R/\e.2<R) (h:Rt es a b):Pw es R a b=true:=by
 induction h with
 | refl=>exact Pw.zero (by rw [Pw];simp) R
 | step _ e ih=>exact Pw.trans (hr _ e).1 ih (Pw.zero (by rw [Pw];simp [e]) R)
theorem Jy2 {es:List (Nat×Nat)}{R a b:Nat}(hr:∀ e∈es,e.1<R/\e.2<R):Pw es R a b=true↔Rt es a b:=⟨Pw.rt,Rt.pw hr⟩
end My
namespace L2
section
variable {M:Model}{A:Yaq}{E:Yak->Yam->Prop}{s:Yam}
theorem Jjv {scope:Yat}{globals:Addr}{closure:List (Str×Addr)}{qual:Str}{func:Option Addr}{code:Yak}{outer:Env}{builtins:Addr}{Q:Env->Yam->Prop}
 (hQ:Q (newEnv scope s.heap.objs.size globals (cellsFrom (s.heap.objs.size+1) scope.names closure) qual func code (some outer) builtins) { s with heap:=pushCells (s.heap.push { cls:=.type "dict",data:=.dict #[] }) scope.names }) :
 Yan M A (newFunctionEnv scope globals closure [] qual func code (some outer) builtins) Q E s:=by
 simp only [newFunctionEnv,Option.isSome_some,if_true]
 refine wpAny_bind (wpAny_alloc ?_)
 refine wpAny_bind (wpAny_layCells _ (λ name kind cells=>by cases hkc:kind==U1<;>simp [hkc]) _ _ _ _ ?_)
 rw [show ({ s with heap:=s.heap.push { cls:=.type "dict",data:=.dict #[] } }:Yam).heap.objs.size=s.heap.objs.size+1 from X0 ..]
 refine wpAny_bind ?_
 rw [J6w]
 exact wpAny_pure (wpAny_pure hQ)
end
theorem Jaj:∀ (names:List (Str×Yav)) (n:Nat) (acc:List (Str×Addr)) (x:Str) (c:Addr),(x,c)∈cellsFrom n names acc->(x,c)∈acc\/(n<=c/\(x,U1)∈names)
 | [],n,acc,x,c,h=>.inl h
 | (name,kind)::r,n,acc,x,c,h=>by
  unfold cellsFrom at h
  split at h
  . rename_i hk
    have hk:kind = .cell:=by simpa using hk
    subst hk
    rcases Jaj r (n+1) _ x c h with h | ⟨h1,h2⟩
    . rcases Qd.mp h with e | h
      . cases e;exact .inr ⟨Ql _,Qk⟩
      . exact .inl h
    . exact .inr ⟨by omega,Qj _ h2⟩
  . rcases Jaj r n acc x c h with h | ⟨h1,h2⟩
    . exact .inl h
    . exact .inr ⟨h1,Qj _ h2⟩
theorem V6:∀ (names:List (Str×Yav)) (n:Nat) (acc:List (Str×Addr)),(∀ p∈acc,p.2<n)->∀ x y c,(x,c)∈cellsFrom n names acc->(y,c)∈cellsFrom n names acc->(∀ x y c,(x,c)∈acc->(y,c)∈acc->x=y)->x=y
 | [],n,acc,_,x,y,c,h,g,inj=>inj x y c h g
 | (name,kind)::r,n,acc,ha,x,y,c,h,g,inj=>by
  unfold cellsFrom at h g
  split at h
  . rename_i hk
    rw [if_pos hk] at g
    refine V6 r (n+1) ((name,n)::acc) (λ p hp=>?_) x y c h g λ x y c h g=>?_
    . rcases Qd.mp hp with rfl | hp
      . exact J6e _
      . exact J65 (ha p hp)
    . rcases Qd.mp h with e | h<;>rcases Qd.mp g with e' | g
      . cases e;cases e';rfl
      . cases e;exact absurd (ha _ g) (Q9 _)
      . cases e';exact absurd (ha _ h) (Q9 _)
      . exact inj x y c h g
  . rename_i hk
    rw [if_neg hk] at g
    exact V6 r n acc ha x y c h g inj
theorem W3:∀ (names:List (Str×Yav)) (n:Nat) (acc:List (Str×Addr)) (p:Str×Addr),p∈acc->p∈cellsFrom n names acc
 | [],n,acc,p,h=>h
 | (name,kind)::r,n,acc,p,h=>by
  unfold cellsFrom
  split
  . exact W3 r _ _ p (Qj _ h)
  . exact W3 r _ _ p h
theorem Jak:∀ (names:List (Str×Yav)) (n:Nat) (acc:List (Str×Addr)) (x:Str),(x,U1)∈names->∃ c,(x,c)∈cellsFrom n names acc
 | (name,kind)::r,n,acc,x,h=>by
  unfold cellsFrom
  rcases Qd.mp h with e | h
  . cases e
    exact ⟨n,W3 r _ _ _ Qk⟩
  . split
    . exact Jak r _ _ x h
    . exact Jak r _ _ x h
theorem Bn:∀ (names:List (Str×Yav)) (h:Heap) (acc:List (Str×Addr)) (x:Str) (c:Addr),(x,c)∈cellsFrom h.objs.size names acc->(x,c)∈acc\/(pushCells h names).IsCell c none
 | [],h,acc,x,c,m=>.inl m
 | (name,kind)::r,h,acc,x,c,m=>by
  unfold cellsFrom at m
  unfold pushCells
  split at m
  . rename_i hk
    rw [if_pos hk]
    have e:h.objs.size+1=(h.push { cls:=.type "cell",data:=.cell none }).objs.size:=by rw [X0]
    rw [e] at m
    rcases Bn r _ _ x c m with m | m
    . rcases Qd.mp m with z | m
      . cases z
        exact .inr ⟨_,pushCells_keeps r _ _ _ (Xa _ rfl),rfl⟩
      . exact .inl m
    . exact .inr m
  . rename_i hk
    rw [if_neg hk]
    exact Bn r h acc x c m
theorem Jfm {env:Env}:∀ (l:List (Str×Yav)) (cs:List (Str×Addr)) (x:Str) (c:Addr),(x,c)∈Yz env l cs->(x,c)∈cs\/(x,Uk)∈l
 | [],cs,x,c,h=>.inl h
 | (n,k)::r,cs,x,c,h=>by
  unfold Yz at h
  rcases Jfm r _ x c h with g | g
  . split at g
    . rename_i hk
      have hk:k = .free:=by simpa using hk
      subst hk
      rcases Qd.mp g with e | g
      . cases e;exact .inr Qk
      . exact .inl g
    . exact .inl g
  . exact .inr (Qj _ g)
theorem Ji0 {l:List (Str×Yav)}(u:(l.map (·.1)).Nodup) {x:Str}{j k:Yav}(h:(x,j)∈l) (g:(x,k)∈l):j=k:=by
 induction l with
 | nil=>cases h
 | cons p l ih=>
  rw [Xb,Xs] at u
  rcases Qd.mp h with e | h<;>rcases Qd.mp g with e' | g
  . rw [<- e] at e';cases e';rfl
  . exact absurd (Qq.mpr ⟨_,g,by rw [<- e]⟩) u.1
  . exact absurd (Qq.mpr ⟨_,h,by rw [<- e']⟩) u.1
  . exact ih u.2 h g
noncomputable def Zn (X:Cx) (N':List Str) (scope:Yat) (C:Addr) (s:Yam) (H:Hp) (fp:List Addr):Cx:=
 { Jys X N' scope C s H fp with env:=compEnvC scope (cellsFrom (C+1) scope.names (Yz X.env scope.names [])) C X.env,fn:=λ x=>scope.names.lookup x==some U1 }
structure CompScopeC (sc:Yat) (N:List Str) (scope:Yat) (N':List Str) (k:Nat) (idx:List Nat):Prop where
 kind:scope.kind = .function
 uniq:(scope.names.map (·.1)).Nodup
 loc:∀ x∈scope.names,x.2 = .local -> scope.names.lookup x.1=some .local
 fr:∀ x∈scope.names,x.2 = .free->sc.names.lookup x.1=some .cell\/sc.names.lookup x.1=some .free
 nd:N'.Nodup
 free:∀ x∈N'.drop k,scope.names.lookup x=some .free
 ix:(N'.drop k).map some=idx.map λ i=>N[i]?
 len:N'.length=k+idx.length
section
variable {X:Cx}{pins:List (Addr×Obj)}{σ:St}{H:Hp}{s:Yam}{scope:Yat}{N':List Str}{k:Nat}{idx:List Nat}{sc:Yat}{N:List Str}
theorem Jln (I:Inv X pins σ H s) (S:CompScopeC sc N scope N' k idx) (hsc:X.env.scope=sc) (hNN:X.N=N) {fp:List Addr}(hf:∀ b∈fp,Jfs X pins H b) (hlt:∀ b∈fp,b<s.heap.objs.size) {t':Nat} :
 Inv (Zn X N' scope s.heap.objs.size s H fp) [] (Zh k idx σ) H { s with heap:=pushCells (s.heap.push { cls:=.type "dict",data:=.dict #[] }) scope.names,toks:=t' }:=by
 have hcell:∀ x∈scope.names,x.2 = .free->∃ c,X.env.cells.lookup x.1=some c:=λ x hx hfree=>I.ok.has x.1 (by
  show X.env.scope.names.lookup x.1=_\/X.env.scope.names.lookup x.1=_
  rw [hsc];exact S.fr x hx hfree)
 have hclm:∀ x c,(x,c)∈Yz X.env scope.names []->X.env.cells.lookup x=some c:=λ x c e=>Jgr hcell (λ p hp=>by cases hp) (x,c) e
 have hold:∀ x c,(x,c)∈Yz X.env scope.names []->c<s.heap.objs.size:=λ x c e=>by
  obtain ⟨v,o,ho,_⟩:=I.cell x c (hclm x c e)
  exact Qr ho
 have hk:∀ b o,s.heap.get? b=some o->(pushCells (s.heap.push { cls:=.type "dict",data:=.dict #[] }) scope.names).get? b=some o:=λ b o e=>pushCells_keeps _ _ b o (Qt _ e)
 have hsp:∀ x c,(cellsFrom (s.heap.objs.size+1) scope.names (Yz X.env scope.names [])).lookup x=some c->((x,c)∈Yz X.env scope.names []\/(s.heap.objs.size+1<=c/\(x,U1)∈scope.names)):=λ x c e=>
  Jaj _ _ _ x c (X1 e)
 have hok:(Zn X N' scope s.heap.objs.size s H fp).Ok:={
  mod:=I.ok.mod
  kind:=S.kind
  glob:=I.ok.glob
  blt:=I.ok.blt
  above:=Ql _
  inj:=λ x y c e1 e2=>V6 _ _ _ (λ p hp=>J65 (hold p.1 p.2 hp)) x y c (X1 e1) (X1 e2) λ x y c h g=>I.ok.inj x y c (hclm x c h) (hclm y c g)
  has:=λ x hx=>by
   have hcf:scope.names.lookup x=some .cell\/scope.names.lookup x=some .free:=by
    rcases hx with hx | hx
    . rcases Jag (env:=X.env) (names:=scope.names) hx with h | ⟨_,h⟩
      . exact .inl h
      . exact .inr h
    . rcases Jag (env:=X.env) (names:=scope.names) hx with h | ⟨h,_⟩
      . exact .inr h
      . cases h
   rcases hcf with h | h
   . obtain ⟨c,hc⟩:=Jak scope.names (s.heap.objs.size+1) (Yz X.env scope.names []) x (X1 h)
     exact W5 hc
   . obtain ⟨c,hc⟩:=Jc1 (env:=X.env) (cs:=[]) (X1 h)
     exact W5 (W3 scope.names (s.heap.objs.size+1) _ _ hc)
  cab:=λ x c h e=>by
   rcases hsp x c e with m | m
   . rcases Jfm _ _ x c m with z | z
     . cases z
     . have hx:scope.names.lookup x=some .cell:=by simpa using (show (scope.names.lookup x==some U1)=true from h)
       have:=Ji0 S.uniq z (X1 hx)
       cases this
   . exact J66 m.1
  hd:=I.ok.hd
  frames:=I.ok.frames
  stk:=.inl rfl
  exf:=λ b hb=>⟨Xg (hlt b hb),λ x c e=>by
   rcases hsp x c e with m | m
   . exact (hf b hb).2.2.2.2.1 x c (hclm x c m)
   . intro z
     have h2:=m.1
     rw [z] at h2
     exact absurd (Qy (hlt b hb) (J66 h2)) (Q9 _)⟩
  bs:=I.bs
  bsz:=Xj I.ok.bsz I.sz
  noex:=λ b o e hb=>by
   rcases (hf b hb).2.2.2.1 with z | z
   . exact I.ok.noex b o e z
   . exact absurd (Qy (Qr e) (Xj I.ok.bsz z)) (Q9 _)
  exfs:=λ b hb hz=>by
   rcases Qd.mp (I.stkSub b hz) with e | e
   . exact (hf b hb).2.1 e
   . exact (hf b hb).2.2.1 e
  funs:=I.stack
  frf:=I.stkFree }
 refine ⟨hok,rfl,I.bare,Un.kept hk,⟨_,(Heap.Ns.new s.heap (.type "dict")).keeps (pushCells_keeps _ _),λ i x v e1 e2 e3=>?_⟩,λ x c e=>?_,I.hok.fresh (Ql _),λ x c e=>?_,(λ p hp=>by cases hp),I.hok.kept hk,?_⟩
 . have hi:k<=i:=by
    rcases Uw i k with h | h
    . have e2:(Zh k idx σ)[i]? = some (some v):=e2
      unfold Zh at e2
      rw [J3a (by simpa using h),J3p] at e2
      split at e2<;>cases e2
    . exact h
   have e1':(N'.drop k)[i-k]? = some x:=by
    rw [J82,show k+(i-k)=i by omega];exact e1
   have hfree:=S.free x (Xm e1')
   have e2':(idx.map λ i=>(σ[i]?).join)[i-k]? = some (some v):=by
    have e2:(Zh k idx σ)[i]? = some (some v):=e2
    unfold Zh at e2
    rw [J3o (by simpa using hi),X2] at e2
    exact e2
   rw [Qm] at e2'
   cases hj:idx[i-k]? with
   | none=>rw [hj] at e2';cases e2'
   | some j=>
    rw [hj] at e2'
    have e3':(σ[j]?).join=some v:=by simpa using e2'
    have eσ:σ[j]? = some (some v):=by
     cases q:σ[j]? with
     | none=>rw [q] at e3';cases e3'
     | some o=>rw [q] at e3';cases o with
      | none=>cases e3'
      | some z=>cases e3';rfl
    have eN:X.N[j]? = some x:=by
     rw [hNN]
     have:=congrArg (λ l=>l[i-k]?) S.ix
     simp only [Qm,e1',hj,Option.map_some] at this
     exact (Xp this).symm
    have hvk:=S.fr _ (X1 hfree) rfl
    obtain ⟨m,hm,hl⟩:=I.loc
    obtain ⟨u,ru,lk⟩:=hl j x v eN eσ (by rw [hsc];exact .inr hvk)
    refine ⟨u,ru,.inr ⟨Jdp (env:=X.env) hfree,?_⟩⟩
    rcases lk with ⟨kl,_⟩ | ⟨_,c,ec,z⟩
    . have kl:X.env.scope.names.lookup x=some .local := kl
      rw [hsc] at kl
      rcases hvk with q | q<;>(rw [kl] at q;cases q)
    . obtain ⟨d,hd⟩:=Jc1 (env:=X.env) (cs:=[]) (X1 hfree)
      obtain ⟨d',hd'⟩:=W5 (W3 scope.names (s.heap.objs.size+1) _ _ hd)
      have e:d'=c:=by
       rcases hsp x d' hd' with m | m
       . have:=hclm x d' m
         rw [ec] at this
         cases this;rfl
       . have:=Ji0 S.uniq m.2 (X1 hfree)
         cases this
      subst e
      obtain ⟨o,ho,hod⟩:=z
      exact ⟨d',hd',o,hk d' o ho,hod⟩
 . have e0:s.heap.objs.size+1=(s.heap.push { cls:=.type "dict",data:=.dict #[] }).objs.size:=by rw [X0]
   have m:=X1 (show (cellsFrom (s.heap.objs.size+1) scope.names (Yz X.env scope.names [])).lookup x=some c from e)
   rw [e0] at m
   rcases Bn _ _ _ x c m with m | m
   . obtain ⟨v,o,ho,hod⟩:=I.cell x c (hclm x c m)
     exact ⟨v,o,hk c o ho,hod⟩
   . exact ⟨none,m⟩
 . rcases hsp x c e with m | m
   . exact I.freeC x c (hclm x c m)
   . exact I.hok.fresh (J66 m.1)
 . show (Zh k idx σ).length=N'.length
   unfold Zh
   rw [S.len,Xn,X2,Qc]
end
section
variable {X:Cx}{tg iter elt:Expr}{ifs:List Expr}{scope sc:Yat}{N N':List Str}{k:Nat}{idx:List Nat}{wi:TI}{g:TG}{tt:TT}{te:TE}{pos:Pos}
theorem Jfn {pins:List (Addr×Obj)}{s:Yam}{σ:St}{E:Yak->Yam->Prop}{RR:Yak->Addr->Ya6->Yam->Prop}{itv:Yak}{Qe:Addr->Hp->Prop}
 (hc:X.calm=true) (S:CompScopeC sc N scope N' k idx) (hsc:X.env.scope=sc) (hNN:X.N=N)
 (hg:∀ C s H fp,PG (Zn X N' scope C s H fp) tg g) (ht:∀ C s H fp,PTs (Zn X N' scope C s H fp) ifs tt) (he:∀ C s H fp,PE (Zn X N' scope C s H fp) elt te)
 (hit:PIE X pins σ tg (λ J H1=>∀ l,H1 l=none->Jnb J g tt te l (Zh k idx σ) (upd H1 l (.lst [])) λ H2=>Qe l H2) itv s)
 (hRR:∀ l H2 C s2,Inv X pins σ H2 s2->(∃ m,s2.heap.Ns C m)->Free1 X pins H2 C->Qe l H2->RR (.ref l) C (.ok .next) s2) :
 Yan (model X.prog X.w) X.A (newList []) (λ acc s₃=>Yan (model X.prog X.w) X.A (newFunctionEnv scope X.env.globals (Yz X.env scope.names []) [] X.env.qual none .none (some X.env)) (λ cenv s₄=>
  Yay (model X.prog X.w) X.A (.compStart (.ListComp elt [⟨tg,iter,ifs,0⟩] scope pos) 0 itv acc { cenv with scope:=relabel scope X.env }) (RR acc cenv.locals) s₄) E s₃) E s:=by
 obtain ⟨it,fp,tn,J,H1,rfl,I1,T,st1,f1,q⟩:=hit
 refine wpAny_newObj_type ?_
 have hf0:H1 s.heap.objs.size=none:=I1.hok.fresh (Ql _)
 have hflt:∀ b∈fp,b<s.heap.objs.size:=λ b hb=>let ⟨_,e,_⟩:=T.obj _ _ st1 b hb;Qr e
 generalize hl:s.heap.objs.size=l at *
 have I2:Inv X pins σ (upd H1 l (.lst [])) { s with heap:=s.heap.push { cls:=.type "list",dict:=none,data:=.seq ([]:List Yak).toArray } }:=
  I1.laid (t':=s.toks) (λ b u e=>Qt _ e) (J6d hl) (show Zs _ _ _ _ l (.lst []) from ⟨Xl _,[],0,.nil,by rw [<- hl];exact Xa _ rfl⟩)
 have st2:tn 0 (s.heap.push { cls:=.type "list",dict:=none,data:=.seq ([]:List Yak).toArray }):=T.keep _ _ _ st1 λ b _ o e=>Qt _ e
 have f2:∀ b∈fp,Jfs X pins (upd H1 l (.lst [])) b:=λ b hb=>⟨by rw [Je (Xg (hflt b hb))];exact (f1 b hb).1,(f1 b hb).2⟩
 have hsz2:(s.heap.push { cls:=.type "list",dict:=none,data:=.seq ([]:List Yak).toArray }).objs.size=l+1:=by rw [X0,hl]
 have q2:=q l hf0
 generalize hs2:({ s with heap:=s.heap.push { cls:=.type "list",dict:=none,data:=.seq ([]:List Yak).toArray } }:Yam)=s2 at I2 ⊢
 have st2:tn 0 s2.heap:=by rw [<- hs2];exact st2
 have hsz2:s2.heap.objs.size=l+1:=by rw [<- hs2];exact hsz2
 refine Jjv ?_
 have hk1:∀ b o,s2.heap.get? b=some o->(pushCells (s2.heap.push { cls:=.type "dict",data:=.dict #[] }) scope.names).get? b=some o:=λ b o e=>pushCells_keeps _ _ b o (Qt _ e)
 have hlt2:∀ b∈fp,b<s2.heap.objs.size:=λ b hb=>by rw [hsz2];exact J65 (hflt b hb)
 have I3:=Jln (t':=s2.toks) I2 S hsc hNN f2 hlt2
 generalize pushCells (s2.heap.push { cls:=.type "dict",data:=.dict #[] }) scope.names=h₁ at *
 generalize hC:s2.heap.objs.size=C at *
 have st3:tn 0 h₁:=T.keep _ _ _ st2 λ b _ o e=>hk1 b o e
 obtain ⟨W,⟨m0,w0⟩,turn⟩:=q2
 -- back to the frame around
 have back:∀ {σ':St} {H':Hp} {s':Yam},Inv (Zn X N' scope C s2 (upd H1 l (.lst [])) fp) [] σ' H' s'->Inv X pins σ H' s':=λ {σ' H' s'} I'=>
  I2.call' I'.os I'.base I'.hok I'.bare λ b hb=>⟨(f2 b hb).2.2.2.1,(f2 b hb).2.1,(f2 b hb).2.2.2.2.1,(f2 b hb).2.2.2.2.2⟩
 have loop:∀ s₃:Yam,s₃ = { s2 with heap:=h₁,toks:=s2.toks } ->
  Yay (model X.prog X.w) X.A (.compLoop (.ListComp elt [⟨tg,iter,ifs,0⟩] scope pos) 0 (.ref it) (.ref l) (compEnvC scope (cellsFrom (C+1) scope.names (Yz X.env scope.names [])) C X.env)) (RR (.ref l) C) s₃:=by
  rintro s₃ rfl
  refine Jlc (λ n s'=>∃ i σ' H',Inv (Zn X N' scope C s2 (upd H1 l (.lst [])) fp) [] σ' H' s'/\tn i s'.heap/\(∀ b∈fp,H' b=none)/\W i n σ' H') ?_ m0 ⟨0,_,_,I3,st3,λ b hb=>(f2 b hb).1,w0⟩
  rintro n s4 ⟨i,σ4,H4,I4,st4,fr4,w4⟩
  have stat:∀ {H':Hp},(∀ b∈fp,H' b=none)->∀ b∈fp,Jfs (Zn X N' scope C s2 (upd H1 l (.lst [])) fp) [] H' b:=λ {H'} hn b hb=>
   ⟨hn b hb,(I4.ok.exf b hb).1,I4.ok.exfs b hb,.inl hb,(I4.ok.exf b hb).2,λ p hp=>by cases hp⟩
  rcases turn i n σ4 H4 w4 with ⟨stop,qn⟩ | ⟨go,step⟩
  . refine thn (T.done (Zn X N' scope C s2 (upd H1 l (.lst [])) fp) rfl rfl rfl hc i [] s4 σ4 H4 NoE I4 (stat fr4) st4 stop) λ r s5 ⟨hr,I5⟩=>?_
    subst hr
    have IX:=back I5
    have hCl:C≠X.env.locals:=λ e=>by
     have:=I2.lt
     rw [hC,<- e] at this
     exact Q9 _ this
    have hCc:∀ x c,X.env.cells.lookup x=some c->c≠C:=λ x c e z=>by
     obtain ⟨v,o,ho,_⟩:=I2.cell x c e
     have:=Qr ho
     rw [hC,z] at this
     exact Q9 _ this
    obtain ⟨m5,hm5,_⟩:=I5.loc
    refine hRR l H4 C s5 IX ⟨m5,hm5⟩ ⟨hCl,hCc,I5.free,by rw [<- hC];exact I2.sz,λ p hp z=>?_⟩ qn
    obtain ⟨e,_⟩:=I2.pin p hp
    have:=Qr e
    rw [hC,z] at this
    exact Q9 _ this
  . refine thn (T.item (Zn X N' scope C s2 (upd H1 l (.lst [])) fp) rfl rfl rfl hc i [] s4 σ4 H4 NoE I4 (stat fr4) st4 go) λ r s5 ⟨u,hr,h5⟩=>?_
    subst hr
    refine thn h5 λ _ s6 ⟨x,H6,I6,r6,y6,st6,fr6⟩=>?_
    have I6':=I6.pinned (stat fr6) (T.obj _ _ st6)
    have keepT:∀ {σ7:St} {H7:Hp} {s7:Yam},Inv (Zn X N' scope C s2 (upd H1 l (.lst [])) fp) ([]++Jem fp s6.heap) σ7 H7 s7->tn (i+1) s7.heap/\∀ b∈fp,H7 b=none:=λ {σ7 H7 s7} I7=>
     ⟨T.keep _ _ _ st6 λ b hb o e=>(I7.pin (b,o) (Xk _ (Xk _ (Jaz hb e)))).1,λ b hb=>by
      obtain ⟨o,e,d⟩:=T.obj _ _ st6 b hb
      exact (I7.pin (b,o) (Xk _ (Xk _ (Jaz hb e)))).2.1⟩
    refine thn (hg C s2 (upd H1 l (.lst [])) fp _ s6 σ4 H6 x u _ I6' r6 (step x H6 y6)) λ _ s7 ⟨σ7,H7,I7,q7⟩=>?_
    refine thn (ht C s2 (upd H1 l (.lst [])) fp _ s7 σ7 H7 _ I7 q7) λ ok s8 ⟨H8,I8,q8⟩=>?_
    cases ok with
    | false=>
     rw [if_neg (by decide)] at q8 ⊢
     obtain ⟨m',hm,w8⟩:=q8
     have kt:=keepT I8
     exact ⟨m',hm,i+1,σ7,H8,I8.unpinned,kt.1,kt.2,w8⟩
    | true=>
     rw [if_pos rfl] at q8 ⊢
     refine thn (he C s2 (upd H1 l (.lst [])) fp _ s8 σ7 H8 _ I8 q8) λ v s9 ⟨y,H9,I9,r9,xs,e9,z9,m',hm,w9⟩=>?_
     refine thn (Bg _ s9 σ7 H9 (.ref l) [y] (.ref l) [v] (λ z H10=>z = .non/\H10=upd H9 l (.lst (xs++[y]))) I9 rfl (.cons r9 .nil) ⟨l,xs,y,rfl,rfl,e9,z9,rfl,rfl⟩) λ _ s10 ⟨z,H10,I10,_,_,e10⟩=>?_
     subst e10
     have kt:=keepT I10
     exact ⟨m',hm,i+1,σ7,_,I10.unpinned,kt.1,kt.2,w9⟩
 have e2:(newEnv scope C X.env.globals (cellsFrom (C+1) scope.names (Yz X.env scope.names [])) X.env.qual none .none (some X.env) Ybl).locals=C:=rfl
 show Yay _ _ (.compStart _ 0 (.ref it) (.ref l) (compEnvC scope (cellsFrom (C+1) scope.names (Yz X.env scope.names [])) C X.env)) (RR (.ref l) C) _
 exact codeAny_compStart_list (loop _ rfl) (T.self _ 0 _ _ _ st3 (loop _ rfl))
theorem Yw (hc:X.calm=true) (S:CompScopeC sc N scope N' k idx) (hsc:X.env.scope=sc) (hNN:X.N=N) (hi:PI X tg iter wi)
 (hg:∀ C s H fp,PG (Zn X N' scope C s H fp) tg g) (ht:∀ C s H fp,PTs (Zn X N' scope C s H fp) ifs tt) (he:∀ C s H fp,PE (Zn X N' scope C s H fp) elt te)
 (hs:∀ x,Ybu iter X.env x=pure x:=by intro _;rfl):PE X (.ListComp elt [⟨tg,iter,ifs,0⟩] scope pos) (Jbi wi k idx g tt te):=by
 intro pins s σ H Q I h
 rw [eval_ListComp]
 have hclos:Ybp scope X.env=pure (Yz X.env scope.names []):=Jcx λ x hx hfree=>I.ok.has x.1 (by
  show X.env.scope.names.lookup x.1=_\/X.env.scope.names.lookup x.1=_
  rw [hsc];exact S.fr x hx hfree)
 refine wpAny_comprehension_free (use:=none) rfl hs hclos S.kind S.loc (thn (hi pins s σ H _ I h) λ v s1 h1=>thn h1 λ itv s2 h2=>?_)
 refine Jfn (RR:=λ acc C=>compPost (model X.prog X.w) X.A X.xe none (EP X pins σ Q) acc C) (Qe:=λ l H2=>Q (.ref l) H2) hc S hsc hNN hg ht he h2 ?_
 intro l H2 C s2 I2 hm f q
 obtain ⟨m,hm⟩:=hm
 exact ⟨m,hm,λ h' hs'=>⟨.ref l,H2,I2.freed f hs',rfl,q⟩⟩
theorem Wo {i:Nat}{y:Str}{py spos:Pos}(hc:X.calm=true) (hN:X.N.Nodup) (hiN:X.N[i]? = some y) (hy:X.env.scope.names.lookup y=some .local) (S:CompScopeC sc N scope N' k idx) (hsc:X.env.scope=sc) (hNN:X.N=N) (hi:PI X tg iter wi)
 (hg:∀ C s H fp,PG (Zn X N' scope C s H fp) tg g) (ht:∀ C s H fp,PTs (Zn X N' scope C s H fp) ifs tt) (he:∀ C s H fp,PE (Zn X N' scope C s H fp) elt te)
 (hsw:Ybd (.ListComp elt [⟨tg,iter,ifs,0⟩] scope pos) (some (.Name y py)) spos.line X.env=pure true:=by rfl)
 (hs:∀ x,Ybu iter X.env x=pure x:=by intro _;rfl):PS X (.Assign [.Name y py] (.ListComp elt [⟨tg,iter,ifs,0⟩] scope pos) spos) (Bj i wi k idx g tt te):=by
 intro pins s σ H D I h
 rw [exec_Assign_Name_used _ _ _ _ hsw]
 refine wpAny_bind (wpAny_standAt (wpAny_bind ?_))
 show Yan _ X.A (do let _ <- comprehension (.ListComp elt [⟨tg,iter,ifs,0⟩] scope pos) scope X.env _ (newList []) false (eval iter X.env) (some (assign (.Name y py) X.env))) _ _ s
 have hclos:Ybp scope X.env=pure (Yz X.env scope.names []):=Jcx λ x hx hfree=>I.ok.has x.1 (by
  show X.env.scope.names.lookup x.1=_\/X.env.scope.names.lookup x.1=_
  rw [hsc];exact S.fr x hx hfree)
 refine wpAny_bind (wpAny_mono (wpAny_comprehension_free (use:=some (assign (.Name y py) X.env)) (Q:=λ _ s'=>SP X pins D .next s') rfl hs hclos S.kind S.loc (thn (hi pins s σ H _ I h) λ v s1 h1=>thn h1 λ itv s2 h2=>?_))
  (λ _ s' hq=>wpAny_pure (wpAny_pure hq)) λ _ _ e=>e)
 refine Jfn (RR:=λ acc C=>compPost (model X.prog X.w) X.A X.xe (some (assign (.Name y py) X.env)) (λ _ s'=>SP X pins D .next s') acc C) (Qe:=λ l H2=>D.nx (σ.set i (some (.ref l))) H2) hc S hsc hNN hg ht he h2 ?_
 intro l H2 C s2 I2 hm f q
 obtain ⟨m,hm⟩:=hm
 show Yan _ X.A (assign (.Name y py) X.env (.ref l)) _ _ _
 refine wpAny_assign_Name (Jio (v:=.ref l) I2 hN hiN (.inl hy) rfl (λ s' I' hch=>?_) (.inr hy))
 obtain ⟨a,hsb,ha⟩:=hch
 have haC:C≠a:=λ z=>by
  rcases ha with e | e
  . exact f.loc (z.trans e)
  . exact f.cel y a e z.symm
 exact ⟨m,hm.sameBut hsb haC,λ h' hs'=>⟨_,H2,I'.freed f hs',q⟩⟩
end
noncomputable def Jvq (scope osc:Yat):Yat:={ scope with names:=scope.names.map λ (n,k)=>if (k==Uk&&osc.kind == .function&&osc.names.lookup n==some .cell) then (n,U1) else (n,k) }
theorem Jy3 {X:Cx}{N':List Str}{scope osc:Yat}{C:Addr}{s:Yam}{H:Hp}{fp:List Addr}(h:X.env.scope=osc):(Zn X N' scope C s H fp).env.scope=Jvq scope osc:=by
 subst h;rfl
end L2
namespace My
open L2
noncomputable def Jet (ws:List Way) (cs:List Int) (p:Nat):List Int:=(Qg ws.length).map λ i=>cs.getD i 0*(Jj ws (i:Nat)).g.getD p 0
inductive Vl where
 | jnk | jar | tape | d (x:Yal) | own (xs:List Yal) | dct (kvs:List (Key×Yal)) | own2 (ks:Option (List Key)) (ps:List (Addr×List Yal)) | pin (v:V) (x:Yal)
structure Src where
 jv:V
 ch:List Addr
 inv:Nat->Hp->Prop
 keep:∀ {n:Nat} {H H':Hp},inv n H->(∀ b∈ch,∀ o,H b=some o->H' b=some o)->inv n H'
 dom:∀ {n:Nat} {H:Hp},inv n H->∀ b∈ch,H b≠none
noncomputable def Src.no:Src:=⟨.non,[],λ _ _=>True,λ _ _=>trivial,λ _ _ h=>by cases h⟩
def Jqr (H:Hp) (p c:Addr) (n:Nat):Prop:=∃ e,Jyw H p c e/\(n=0\/e=some (n:Int))
theorem Jqr.jar {H:Hp}{p c:Addr}{n:Nat}(J:Jqr H p c n):Jar H p c:=J.choose_spec.1.jar
theorem Jvr {H:Hp}{p c:Addr}{n:Nat}(J:Jqr H p c n):∀ b∈[p,c],H b≠none:=λ b hb z=>J.jar.fresh z hb
theorem Jsp {H H':Hp}{p c:Addr}{n:Nat}(J:Jqr H p c n) (h:∀ b∈[p,c],∀ o,H b=some o->H' b=some o):Jqr H' p c n:=by
 obtain ⟨e,⟨ns,r,s,t,X,h3⟩,hn⟩:=J
 exact ⟨e,⟨ns,r,s,t,⟨h _ (by simp) _ X.d,h _ (by simp) _ X.l⟩,h3⟩,hn⟩
noncomputable def Src.jar (p c:Addr):Src:=⟨.ref p,[p,c],λ n H=>Jqr H p c n,λ J h=>Jsp J h,λ J=>Jvr J⟩
theorem Jqs {H H':Hp}{p c:Addr}{n:Nat}(J:Tape H p c n) (h:∀ b∈[p,c],∀ o,H b=some o->H' b=some o):Tape H' p c n:=by
 obtain ⟨ns,a,g,h1,h2,h3⟩:=J.ex
 exact ⟨ns,a,g,h _ (by simp) _ h1,h _ (by simp) _ h2,h3⟩
noncomputable def Src.tape (p c:Addr):Src:=⟨.ref p,[p,c],λ n H=>Tape H p c n,λ J h=>Jqs J h,λ J b hb z=>J.fresh z hb⟩
def Y0 (S:Src) (n':Nat) (H H':Hp):Prop:=Kp S.ch H H'/\S.inv n' H'
section
variable {S:Src}{n m:Nat}{H H1 H2 H':Hp}{ex:List Addr}
theorem Y0.refl (h:S.inv n H):Y0 S n H H:=⟨.refl,h⟩
theorem Y0.trans (a:Y0 S n H H1) (b:Y0 S m H1 H2):Y0 S m H H2:=⟨a.1.trans b.1,b.2⟩
theorem Y0.new (h:S.inv n H) (k:Kp [] H H'):Y0 S n H H':=⟨k.of,S.keep h λ b _ o e=>k b o e (by simp)⟩
theorem Y0.then (a:Y0 S n H H1) (k:Kp [] H1 H2):Y0 S n H H2:=a.trans (.new a.2 k)
theorem Y0.free {p:Addr}(a:Y0 S n H H1) (h:H1 p=none):H p=none:=by
 cases e:H p with
 | none=>rfl
 | some o=>
  by_cases hp:p∈S.ch
  . exact absurd h (S.dom a.2 p hp)
  . rw [a.1 p o e hp] at h;cases h
def Alc (ex:List Addr) (H:Hp):Prop:=∀ a∈ex,H a≠none
theorem Alc.nm {p:Addr}(h:Alc ex H) (e:H p=none):p∉ex:=λ z=>h p z e
theorem Alc.kp (h:Alc ex H) (k:Kp [] H H'):Alc ex H':=λ a ha z=>by
 cases e:H a with
 | none=>exact h a ha e
 | some o=>rw [k a o e (by simp)] at z;cases z
theorem Alc.step (h:Alc ex H) (k:Y0 S n H H'):Alc ex H':=λ a ha z=>h a ha (k.free z)
mutual
theorem Rep.add {l:Addr}(h:H l=none):∀ {d:Yal}{v:V},Rep ex H d v->Rep (l::ex) H d v
 | _,_,.none=>.none
 | _,_,.bool b=>.bool b
 | _,_,.int i=>.int i
 | _,_,.str x=>.str x
 | _,_,.tuple e n z r=>.tuple e (λ q=>(Qd.mp q).elim (λ q=>by rw [q,h] at e;cases e) n) z (Reps.add h r)
 | _,_,.list e n z r=>.list e (λ q=>(Qd.mp q).elim (λ q=>by rw [q,h] at e;cases e) n) z (Reps.add h r)
 | _,_,.obj e n k r=>.obj e (λ q=>(Qd.mp q).elim (λ q=>by rw [q,h] at e;cases e) n) k (Reps.add h r)
 | _,_,.dctf e n k r=>.dctf e (λ q=>(Qd.mp q).elim (λ q=>by rw [q,h] at e;cases e) n) k (Reps.add h r)
theorem Reps.add {l:Addr}(h:H l=none):∀ {ds:List Yal}{vs:List V},Reps ex H ds vs->Reps (l::ex) H ds vs
 | _,_,.nil=>.nil
 | _,_,.cons r t=>.cons (Rep.add h r) (Reps.add h t)
end
theorem Rep.sub {l:Addr}{d:Yal}{v:V}(r:Rep (l::ex) H d v):Rep ex H d v:=Rep.mono (λ b hb=>Qj _ hb) r
theorem Reps.sub {l:Addr}{d:List Yal}{v:List V}(r:Reps (l::ex) H d v):Reps ex H d v:=Reps.mono (λ b hb=>Qj _ hb) r
end
noncomputable def exm (m:Bool) (S:Src) (ex:List Addr):List Addr:=match m with | true=>ex | false=>S.ch
def KvR (ex:List Addr) (H:Hp) (kvs:List (Key×Yal)) (kws:List (Key×V)):Prop:=kws.map (·.1)=kvs.map (·.1)/\Reps ex H (kvs.map (·.2)) (kws.map (·.2))
noncomputable def J0w (ks:Option (List Key)) (rs:List V):HO:=match ks with
 | none=>.lst rs
 | some ks=>.dK (ks.zip rs)
structure In2 (S:Src) (ex:List Addr) (H:Hp) (p:Addr×List Yal):Prop where
 m:p.1∈ex
 c:p.1∉S.ch
 h:∃ vs,H p.1=some (.lst vs)/\vs.length<=sizeLine/\Reps ex H p.2 vs
noncomputable def Wi (ps:List (Addr×List Yal)):List V:=ps.map λ p=>.ref p.1
structure Own2 (S:Src) (ex:List Addr) (H:Hp) (ks:Option (List Key)) (ps:List (Addr×List Yal)) (a:Addr):Prop where
 h:H a=some (J0w ks (Wi ps))
 z:ps.length<=1000000
 k:∀ l,ks=some l->l.length=ps.length
 nd:(a::ps.map (·.1)).Nodup
 m:a∈ex
 c:a∉S.ch
 i:∀ p∈ps,In2 S ex H p
def SlR (S:Src) (ex:List Addr) (H:Hp):Vl->Option V->Prop
 | .jnk,_=>True
 | .jar,o=>∃ p c,S=Src.jar p c/\o=some (.ref p)
 | .tape,o=>∃ p c,S=Src.tape p c/\o=some (.ref p)
 | .d x,o=>∃ v,o=some v/\Rep ex H x v
 | .own xs,o=>∃ a vs,o=some (.ref a)/\H a=some (.lst vs)/\vs.length<=sizeLine/\Reps ex H xs vs/\a∈ex/\a∉S.ch
 | .dct kvs,o=>∃ a kws,o=some (.ref a)/\H a=some (.dK kws)/\KvR ex H kvs kws/\a∈ex/\a∉S.ch
 | .own2 ks ps,o=>∃ a,o=some (.ref a)/\Own2 S ex H ks ps a
 | .pin v x,o=>o=some v/\Rep ex H x v
structure Ev (S:Src) (ex:List Addr) (env:List Vl) (σ:L2.St) (H:Hp) (n:Nat):Prop where
 len:env.length<=σ.length
 sl:∀ (i:Nat) (w:Vl),env[i]? = some w->SlR S ex H w (σ[i]?).join
 ch:∀ a∈S.ch,a∈ex
 al:Alc ex H
 inv:S.inv n H
section
variable {S:Src}{n m:Nat}{H H1 H2 H':Hp}{ex:List Addr}{env:List Vl}{σ:L2.St}
theorem SlR.kp {w:Vl}{o:Option V}(hc:∀ a∈S.ch,a∈ex) (k:Kp S.ch H H') (h:SlR S ex H w o):SlR S ex H' w o:=by
 have kx:Kp ex H H':=k.mono hc
 cases w with
 | jnk=>trivial
 | jar=>exact h
 | tape=>exact h
 | d x=>obtain ⟨v,e,r⟩:=h;exact ⟨v,e,r.keep kx⟩
 | pin v x=>obtain ⟨e,r⟩:=h;exact ⟨e,r.keep kx⟩
 | own xs=>obtain ⟨a,vs,e,h1,h2,h3,h4,h5⟩:=h;exact ⟨a,vs,e,k _ _ h1 h5,h2,h3.keep kx,h4,h5⟩
 | dct kvs=>obtain ⟨a,kws,e,h1,⟨h2,h3⟩,h4,h5⟩:=h;exact ⟨a,kws,e,k _ _ h1 h5,⟨h2,h3.keep kx⟩,h4,h5⟩
 | own2 ks ps=>obtain ⟨a,e,q⟩:=h;exact ⟨a,e,k _ _ q.h q.c,q.z,q.k,q.nd,q.m,q.c,λ p hp=>let w:=q.i p hp;⟨w.m,w.c,let ⟨vs,h1,h2,h3⟩:=w.h;⟨vs,k _ _ h1 w.c,h2,h3.keep kx⟩⟩⟩
theorem Ev.step (E:Ev S ex env σ H n) (k:Y0 S m H H'):Ev S ex env σ H' m:=⟨E.len,λ i w e=>(E.sl i w e).kp E.ch k.1,E.ch,E.al.step k,k.2⟩
theorem Ev.rep (E:Ev S ex env σ H n) (k:Y0 S m H H') {d:Yal}{v:V}(r:Rep ex H d v):Rep ex H' d v:=r.keep (k.1.mono E.ch)
theorem Ev.reps (E:Ev S ex env σ H n) (k:Y0 S m H H') {d:List Yal}{v:List V}(r:Reps ex H d v):Reps ex H' d v:=r.keep (k.1.mono E.ch)
theorem Ev.sub (E:Ev S ex env σ H n) (b:Bool):∀ a∈exm b S ex,a∈ex:=by
 cases b with
 | true=>exact λ a h=>h
 | false=>exact E.ch
theorem Ev.sup (E:Ev S ex env σ H n) (b:Bool):∀ a∈S.ch,a∈exm b S ex:=by
 cases b with
 | true=>exact E.ch
 | false=>exact λ a h=>h
theorem Ev.alm (E:Ev S ex env σ H n) (b:Bool):Alc (exm b S ex) H:=λ a h=>E.al a (E.sub b a h)
theorem Ev.repm (E:Ev S ex env σ H n) (b:Bool) (k:Y0 S m H H') {d:Yal}{v:V}(r:Rep (exm b S ex) H d v):Rep (exm b S ex) H' d v:=r.keep (k.1.mono (E.sup b))
theorem Rep.nil {d:Yal}{v:V}(r:Rep ex H d v):Rep [] H d v:=Rep.mono (λ b hb=>by cases hb) r
theorem Reps.nil' {d:List Yal}{v:List V}(r:Reps ex H d v):Reps [] H d v:=Reps.mono (λ b hb=>by cases hb) r
theorem Jo {i:Nat}{v:V}(h:(σ[i]?).join=some v):σ[i]? = some (some v):=by
 cases e:σ[i]? with
 | none=>rw [e] at h;cases h
 | some o=>rw [e] at h;cases o with
  | none=>cases h
  | some u=>cases h;rfl
end
abbrev GE:=List Vl->Nat->(Yal->Nat->Prop)->Prop
abbrev GT:=List Vl->Nat->(Bool->Nat->Prop)->Prop
abbrev GA:=List Vl->Nat->(List Vl->Nat->Prop)->Prop
abbrev GN:=List Vl->Nat->(List Yal->Nat->Prop)->Prop
abbrev GSp:=List Vl->Nat->(Yal->Nat->Prop)->Prop
abbrev GSn:=List Vl->Nat->(List Yal->Nat->Prop)->Prop
def Bo (S:Src) (ex:List Addr) (H:Hp):List Vl->List V->Prop
 | [],[]=>True
 | a::as,v::vs=>SlR S ex H a (some v)/\Bo S ex H as vs
 | _,_=>False
class EV (m:Bool) (te:TE) (g:outParam GE):Prop where
 ev:∀ {S:Src} {ex:List Addr} {env:List Vl} {σ:L2.St} {H:Hp} {n:Nat} {Q:VK} {P:Yal->Nat->Prop},Ev S ex env σ H n->g env n P->(∀ d n' v H',P d n'->Y0 S n' H H'->Rep (exm m S ex) H' d v->Q v H')->te σ H Q
class NV (te:TE) (g:outParam GN):Prop where
 nv:∀ {S:Src} {ex:List Addr} {env:List Vl} {σ:L2.St} {H:Hp} {n:Nat} {Q:VK} {P:List Yal->Nat->Prop},Ev S ex env σ H n->g env n P->(∀ ds n' a vs H',P ds n'->Y0 S n' H H'->H a=none->H' a=some (.lst vs)->vs.length<=sizeLine->Reps (a::ex) H' ds vs->Q (.ref a) H')->te σ H Q
class TV (tt:TT) (g:outParam GT):Prop where
 tv:∀ {S:Src} {ex:List Addr} {env:List Vl} {σ:L2.St} {H:Hp} {n:Nat} {Q:Bool->Hp->Prop} {P:Bool->Nat->Prop},Ev S ex env σ H n->g env n P->(∀ b n' H',P b n'->Y0 S n' H H'->Q b H')->tt σ H Q
class AV (m:Bool) (ta:TA) (g:outParam GA):Prop where
 av:∀ {S:Src} {ex:List Addr} {env:List Vl} {σ:L2.St} {H:Hp} {n:Nat} {Q:List V->Hp->Prop} {P:List Vl->Nat->Prop},Ev S ex env σ H n->g env n P->(∀ as n' vs H',P as n'->Y0 S n' H H'->Bo S (exm m S ex) H' as vs->Q vs H')->ta σ H Q
class DV (m:Bool) (ta:TA) (g:outParam GN):Prop where
 dv:∀ {S:Src} {ex:List Addr} {env:List Vl} {σ:L2.St} {H:Hp} {n:Nat} {Q:List V->Hp->Prop} {P:List Yal->Nat->Prop},Ev S ex env σ H n->g env n P->(∀ ds n' vs H',P ds n'->Y0 S n' H H'->Reps (exm m S ex) H' ds vs->Q vs H')->ta σ H Q
abbrev G2:=Yal->Yal->(Yal->Prop)->Prop
class OV (r:R2) (f:outParam G2):Prop where
 ov:∀ {ex:List Addr} {H:Hp} {x y:V} {dx dy:Yal} {Q:VK} {P:Yal->Prop},Alc ex H->Rep ex H dx x->Rep ex H dy y->f dx dy P->(∀ d v H',P d->Kp [] H H'->Rep ex H' d v->Q v H')->r x y H Q
class OS (r:R2) (f:outParam G2):Prop where
 os:∀ {H:Hp} {x y:V} {dx dy:Yal} {Q:VK} {P:Yal->Prop},Rep [] H dx x->Rep [] H dy y->f dx dy P->(∀ d v,P d->(∀ ex,Rep ex H d v)->Q v H)->r x y H Q
class ON (r:R2) (f:outParam (Yal->Yal->(List Yal->Prop)->Prop)):Prop where
 on:∀ {ex:List Addr} {H:Hp} {x y:V} {dx dy:Yal} {Q:VK} {P:List Yal->Prop},Rep ex H dx x->Rep ex H dy y->f dx dy P->(∀ ds p vs,P ds->H p=none->vs.length<=sizeLine->Reps ex H ds vs->Q (.ref p) (upd H p (.lst vs)))->r x y H Q
abbrev G1:=List Yal->(Yal->Prop)->Prop
class CS (r:List V->Hp->VK->Prop) (f:outParam G1):Prop where
 cs:∀ {H:Hp} {xs:List V} {ds:List Yal} {Q:VK} {P:Yal->Prop},Reps [] H ds xs->f ds P->(∀ d v,P d->(∀ ex,Rep ex H d v)->Q v H)->r xs H Q
class CO (r:List V->Hp->VK->Prop) (f:outParam G1):Prop where
 co:∀ {ex:List Addr} {H:Hp} {xs:List V} {ds:List Yal} {Q:VK} {P:Yal->Prop},Alc ex H->Reps ex H ds xs->f ds P->(∀ d v H',P d->Kp [] H H'->Rep ex H' d v->Q v H')->r xs H Q
class CN (r:List V->Hp->VK->Prop) (f:outParam (List Yal->(List Yal->Prop)->Prop)):Prop where
 cn:∀ {ex:List Addr} {H:Hp} {xs:List V} {ds:List Yal} {Q:VK} {P:List Yal->Prop},Reps ex H ds xs->f ds P->(∀ es p vs,P es->H p=none->vs.length<=sizeLine->Reps ex H es vs->Q (.ref p) (upd H p (.lst vs)))->r xs H Q
abbrev Jvs (i:Nat):GE:=λ env n Q=>match env[i]? with
 | some (.d x)=>Q x n
 | some (.pin _ x)=>Q x n
 | _=>False
abbrev Jsq (i:Nat):GE:=λ env n Q=>match env[i]? with
 | some (.d x)=>Q x n
 | some (.pin _ x)=>Q x n
 | some (.own xs)=>Q (.list xs) n
 | some (.own2 none ps)=>Q (.list (ps.map λ p=>.list p.2)) n
 | _=>False
theorem Jeu {S:Src}{ex:List Addr}{H:Hp}:∀ {ps:List (Addr×List Yal)},(∀ a∈S.ch,a∈ex)->(∀ p∈ps,In2 S ex H p)->Reps S.ch H (ps.map λ p=>Ux p.2) (Wi ps)
 | [],_,_=>.nil
 | p::ps,hc,h=>by
  have w:=h p Qk
  obtain ⟨vs,h1,h2,h3⟩:=w.h
  exact .cons (.list h1 w.c h2 (Reps.mono hc h3)) (Jeu hc λ q hq=>h q (Qj _ hq))
abbrev gC (d:Yal):GE:=λ _ n Q=>Q d n
section
variable {S:Src}{n m:Nat}{H H1 H2 H':Hp}{ex:List Addr}{env:List Vl}{σ:L2.St}{b:Bool}{te ta tb tc:TE}{g ga gb gc:GE}
instance ev_var {i:Nat}:EV true (Z4 i) (Jvs i):=⟨λ {S ex env σ H n Q P} E h k=>by
 unfold Jvs at h
 split at h
 . rename_i x e
   obtain ⟨v,ev,r⟩:=E.sl i _ e
   exact ⟨v,Jo ev,k _ _ v H h (.refl E.inv) r⟩
 . rename_i v x e
   obtain ⟨ev,r⟩:=E.sl i _ e
   exact ⟨v,Jo ev,k _ _ v H h (.refl E.inv) r⟩
 . exact h.elim⟩
instance pv_var {i:Nat}:EV false (Z4 i) (Jsq i):=⟨λ {S ex env σ H n Q P} E h k=>by
 unfold Jsq at h
 split at h
 . rename_i x e
   obtain ⟨v,ev,r⟩:=E.sl i _ e
   exact ⟨v,Jo ev,k _ _ v H h (.refl E.inv) (Rep.mono E.ch r)⟩
 . rename_i v x e
   obtain ⟨ev,r⟩:=E.sl i _ e
   exact ⟨v,Jo ev,k _ _ v H h (.refl E.inv) (Rep.mono E.ch r)⟩
 . rename_i xs e
   obtain ⟨a,vs,ev,h1,h2,h3,h4,h5⟩:=E.sl i _ e
   exact ⟨_,Jo ev,k _ _ _ H h (.refl E.inv) (.list h1 h5 h2 (Reps.mono E.ch h3))⟩
 . rename_i ps e
   obtain ⟨a,ev,q⟩:=E.sl i _ e
   have hs:sizeLine=16777216:=Yar
   exact ⟨_,Jo ev,k _ _ _ H h (.refl E.inv) (.list q.h q.c (by unfold Wi;rw [Qc];have:=q.z;omega) (Jeu E.ch q.i))⟩
 . exact h.elim⟩
instance ev_int {i:Int}:EV b (tC (.int i)) (gC (.int i)):=⟨λ E h k=>k _ _ _ _ h (.refl E.inv) (.int i)⟩
instance ev_bl {i:Bool}:EV b (tC (.bl i)) (gC (.bool i)):=⟨λ E h k=>k _ _ _ _ h (.refl E.inv) (.bool i)⟩
instance ev_str {i:Str}:EV b (tC (.str i)) (gC (.str i)):=⟨λ E h k=>k _ _ _ _ h (.refl E.inv) (.str i)⟩
instance ev_non:EV b (tC .non) (gC .none):=⟨λ E h k=>k _ _ _ _ h (.refl E.inv) .none⟩
abbrev gOp (f:G2) (ga gb:GE):GE:=λ env n Q=>ga env n λ x n1=>gb env n1 λ y n2=>f x y λ d=>Q d n2
instance ev_opS {r:R2}{f:G2} [O:OS r f] [A:EV false ta ga] [B:EV false tb gb]:EV b (tOp r ta tb) (gOp f ga gb):=⟨λ {S ex env σ H n Q P} E h k=>by
 refine A.ev E h λ x n1 v1 H1 h1 s1 r1=>B.ev (E.step s1) h1 λ y n2 v2 H2 h2 s2 r2=>?_
 exact O.os (Rep.nil ((E.step s1).repm false s2 r1)) (Rep.nil r2) h2 λ d v p r=>k _ _ _ _ p (s1.trans s2) (r _)⟩
instance (priority:=low) ev_op {r:R2}{f:G2} [O:OV r f] [A:EV b ta ga] [B:EV b tb gb]:EV b (tOp r ta tb) (gOp f ga gb):=⟨λ {S ex env σ H n Q P} E h k=>by
 refine A.ev E h λ x n1 v1 H1 h1 s1 r1=>B.ev (E.step s1) h1 λ y n2 v2 H2 h2 s2 r2=>?_
 exact O.ov ((E.step (s1.trans s2)).alm b) ((E.step s1).repm b s2 r1) r2 h2 λ d v H' p kp r=>k _ _ _ _ p ((s1.trans s2).then kp) r⟩
abbrev J2g (g:GN):GE:=λ env n Q=>g env n λ ds n'=>Q (.list ds) n'
instance (priority:=low) ev_nv {g:GN} [N:NV te g]:EV b te (J2g g):=⟨λ {S ex env σ H n Q P} E h k=>
 N.nv E h λ ds n' a vs H' p st ha hl hz r=>k _ _ _ _ p st (.list hl (λ z=>E.alm b a z ha) hz (Reps.mono (λ c hc=>Qj _ (E.sub b c hc)) r))⟩
abbrev J2h (f:Yal->Yal->(List Yal->Prop)->Prop) (ga gb:GE):GN:=λ env n Q=>ga env n λ x n1=>gb env n1 λ y n2=>f x y λ d=>Q d n2
theorem Bp {S:Src}{ex:List Addr}{env:List Vl}{σ:L2.St}{H H1:Hp}{n n1:Nat}{p:Addr}{vs:List V}{ds:List Yal}(E:Ev S ex env σ H n) (s:Y0 S n1 H H1) (hp:H1 p=none) (r:Reps ex H1 ds vs) :
 Y0 S n1 H (upd H1 p (.lst vs))/\H p=none/\Reps (p::ex) (upd H1 p (.lst vs)) ds vs:=
 ⟨s.then (Kp.new hp _),s.free hp,(Reps.add hp r).keep (Kp.new hp _)⟩
instance nv_op {r:R2}{f:Yal->Yal->(List Yal->Prop)->Prop} [O:ON r f] [A:EV true ta ga] [B:EV true tb gb]:NV (tOp r ta tb) (J2h f ga gb):=⟨λ {S ex env σ H n Q P} E h k=>by
 refine A.ev E h λ x n1 v1 H1 h1 s1 r1=>B.ev (E.step s1) h1 λ y n2 v2 H2 h2 s2 r2=>?_
 refine O.on ((E.step s1).repm true s2 r1) r2 h2 λ ds p vs pp hp hz r=>?_
 obtain ⟨c1,c2,c3⟩:=Bp E (s1.trans s2) hp r
 exact k _ _ _ _ _ pp c1 c2 Jf hz c3⟩
abbrev J0x:GA:=λ _ n Q=>Q [] n
abbrev J0y (i:Nat) (rest:GA):GA:=λ env n Q=>match env[i]? with
 | some (.d x)=>rest env n λ as n'=>Q (.d x::as) n'
 | some .jar=>rest env n λ as n'=>Q (.jar::as) n'
 | some .tape=>rest env n λ as n'=>Q (.tape::as) n'
 | _=>False
abbrev Jxf (i:Nat) (rest:GA):GA:=λ env n Q=>match env[i]? with
 | some (.d x)=>rest env n λ as n'=>Q (.d x::as) n'
 | some (.own xs)=>rest env n λ as n'=>Q (.d (.list xs)::as) n'
 | some (.own2 none ps)=>rest env n λ as n'=>Q (.d (.list (ps.map λ p=>.list p.2))::as) n'
 | some .jar=>rest env n λ as n'=>Q (.jar::as) n'
 | some .tape=>rest env n λ as n'=>Q (.tape::as) n'
 | _=>False
abbrev Jy4 (g:GE) (rest:GA):GA:=λ env n Q=>g env n λ d n1=>rest env n1 λ as n2=>Q (.d d::as) n2
abbrev J0z:GN:=λ _ n Q=>Q [] n
abbrev Jy5 (g:GE) (rest:GN):GN:=λ env n Q=>g env n λ d n1=>rest env n1 λ as n2=>Q (d::as) n2
instance av_nil:AV b Ja2 J0x:=⟨λ E h k=>k _ _ _ _ h (.refl E.inv) trivial⟩
instance (priority:=low) av_cons {t:TA}{gt:GA} [A:EV b te g] [B:AV b t gt]:AV b (Yo te t) (Jy4 g gt):=⟨λ {S ex env σ H n Q P} E h k=>
 A.ev E h λ x n1 v1 H1 h1 s1 r1=>B.av (E.step s1) h1 λ as n2 vs H2 h2 s2 r2=>k _ _ _ _ h2 (s1.trans s2) ⟨⟨_,rfl,(E.step s1).repm b s2 r1⟩,r2⟩⟩
instance av_var {t:TA}{gt:GA}{i:Nat} [B:AV true t gt]:AV true (Yo (Z4 i) t) (J0y i gt):=⟨λ {S ex env σ H n Q P} E h k=>by
 unfold J0y at h
 split at h
 . rename_i x e
   obtain ⟨v,ev,r⟩:=E.sl i _ e
   exact ⟨v,Jo ev,B.av E h λ as n2 vs H2 h2 s2 r2=>k _ _ _ _ h2 s2 ⟨⟨_,rfl,E.repm true s2 r⟩,r2⟩⟩
 . rename_i e
   obtain ⟨p,c,hS,ev⟩:=E.sl i _ e
   exact ⟨_,Jo ev,B.av E h λ as n2 vs H2 h2 s2 r2=>k _ _ _ _ h2 s2 ⟨⟨p,c,hS,rfl⟩,r2⟩⟩
 . rename_i e
   obtain ⟨p,c,hS,ev⟩:=E.sl i _ e
   exact ⟨_,Jo ev,B.av E h λ as n2 vs H2 h2 s2 r2=>k _ _ _ _ h2 s2 ⟨⟨p,c,hS,rfl⟩,r2⟩⟩
 . exact h.elim⟩
instance av_look {t:TA}{gt:GA}{i:Nat} [B:AV false t gt]:AV false (Yo (Z4 i) t) (Jxf i gt):=⟨λ {S ex env σ H n Q P} E h k=>by
 unfold Jxf at h
 split at h
 . rename_i x e
   obtain ⟨v,ev,r⟩:=E.sl i _ e
   exact ⟨v,Jo ev,B.av E h λ as n2 vs H2 h2 s2 r2=>k _ _ _ _ h2 s2 ⟨⟨_,rfl,E.repm false s2 (Rep.mono E.ch r)⟩,r2⟩⟩
 . rename_i xs e
   obtain ⟨a,vs,ev,h1,h2,h3,h4,h5⟩:=E.sl i _ e
   exact ⟨_,Jo ev,B.av E h λ as n2 vs' H2 hh s2 r2=>k _ _ _ _ hh s2 ⟨⟨_,rfl,E.repm false s2 (.list h1 h5 h2 (Reps.mono E.ch h3))⟩,r2⟩⟩
 . rename_i ps e
   obtain ⟨a,ev,q⟩:=E.sl i _ e
   exact ⟨_,Jo ev,B.av E h λ as n2 vs' H2 hh s2 r2=>k _ _ _ _ hh s2 ⟨⟨_,rfl,E.repm false s2 (.list q.h q.c (by unfold Wi;rw [Qc,Yar];have:=q.z;omega) (Jeu E.ch q.i))⟩,r2⟩⟩
 . rename_i e
   obtain ⟨p,c,hS,ev⟩:=E.sl i _ e
   exact ⟨_,Jo ev,B.av E h λ as n2 vs H2 h2 s2 r2=>k _ _ _ _ h2 s2 ⟨⟨p,c,hS,rfl⟩,r2⟩⟩
 . rename_i e
   obtain ⟨p,c,hS,ev⟩:=E.sl i _ e
   exact ⟨_,Jo ev,B.av E h λ as n2 vs H2 h2 s2 r2=>k _ _ _ _ h2 s2 ⟨⟨p,c,hS,rfl⟩,r2⟩⟩
 . exact h.elim⟩
instance dv_nil:DV b Ja2 J0z:=⟨λ E h k=>k _ _ _ _ h (.refl E.inv) .nil⟩
instance dv_cons {t:TA}{gt:GN} [A:EV b te g] [B:DV b t gt]:DV b (Yo te t) (Jy5 g gt):=⟨λ {S ex env σ H n Q P} E h k=>
 A.ev E h λ x n1 v1 H1 h1 s1 r1=>B.dv (E.step s1) h1 λ as n2 vs H2 h2 s2 r2=>k _ _ _ _ h2 (s1.trans s2) (.cons ((E.step s1).repm b s2 r1) r2)⟩
abbrev J00 (t:GN):GE:=λ env n Q=>t env n λ ds n1=>ds.length<=sizeLine/\Q (.tuple ds) n1
abbrev J01 (t:GN):GN:=λ env n Q=>t env n λ ds n1=>ds.length<=sizeLine/\Q ds n1
instance ev_tup {t:TA}{gt:GN} [A:DV b t gt]:EV b (Jva t) (J00 gt):=⟨λ {S ex env σ H n Q P} E h k=>
 A.dv E h λ ds n1 vs H1 h1 s1 r1=>⟨by rw [<- r1.length];exact h1.1,λ p hp=>k _ _ _ _ h1.2 (s1.then (Kp.new hp _)) (.tuple Jf ((E.step s1).alm b |>.nm hp) (by rw [<- r1.length];exact h1.1) (r1.keep (Kp.new hp _)))⟩⟩
instance nv_lst {t:TA}{gt:GN} [A:DV true t gt]:NV (Jyl t) (J01 gt):=⟨λ {S ex env σ H n Q P} E h k=>
 A.dv E h λ ds n1 vs H1 h1 s1 r1=>⟨by rw [<- r1.length];exact h1.1,λ p hp=>by
  obtain ⟨c1,c2,c3⟩:=Bp E s1 hp r1
  exact k _ _ _ _ _ h1.2 c1 c2 Jf (by rw [<- r1.length];exact h1.1) c3⟩⟩
abbrev gCB (f:G1) (t:GN):GE:=λ env n Q=>t env n λ ds n1=>f ds λ d=>Q d n1
abbrev J2i (f:List Yal->(List Yal->Prop)->Prop) (t:GN):GN:=λ env n Q=>t env n λ ds n1=>f ds λ d=>Q d n1
instance ev_cs {r:List V->Hp->VK->Prop}{f:G1}{t:TA}{gt:GN} [C:CS r f] [A:DV false t gt]:EV b (tCB r t) (gCB f gt):=⟨λ {S ex env σ H n Q P} E h k=>
 A.dv E h λ ds n1 vs H1 h1 s1 r1=>C.cs (Reps.nil' r1) h1 λ d v p r=>k _ _ _ _ p s1 (r _)⟩
instance (priority:=low) ev_co {r:List V->Hp->VK->Prop}{f:G1}{t:TA}{gt:GN} [C:CO r f] [A:DV b t gt]:EV b (tCB r t) (gCB f gt):=⟨λ {S ex env σ H n Q P} E h k=>
 A.dv E h λ ds n1 vs H1 h1 s1 r1=>C.co ((E.step s1).alm b) r1 h1 λ d v H' p kp r=>k _ _ _ _ p (s1.then kp) r⟩
instance nv_cn {r:List V->Hp->VK->Prop}{f:List Yal->(List Yal->Prop)->Prop}{t:TA}{gt:GN} [C:CN r f] [A:DV true t gt]:NV (tCB r t) (J2i f gt):=⟨λ {S ex env σ H n Q P} E h k=>
 A.dv E h λ ds n1 vs H1 h1 s1 r1=>C.cn r1 h1 λ es p ws pp hp hz r=>by
  obtain ⟨c1,c2,c3⟩:=Bp E s1 hp r
  exact k _ _ _ _ _ pp c1 c2 Jf hz c3⟩
def Jn (sp:GSp):Sp:=λ vs H Q _=>∃ (S:Src) (ex:List Addr) (as:List Vl) (n:Nat) (P:Yal->Nat->Prop),Bo S ex H as vs/\(∀ a∈S.ch,a∈ex)/\Alc ex H/\S.inv n H/\sp as n P/\∀ d n' v H',P d n'->Y0 S n' H H'->Rep ex H' d v->Q v H'
def Y3 (sp:GSn):Sp:=λ vs H Q _=>∃ (S:Src) (ex:List Addr) (as:List Vl) (n:Nat) (P:List Yal->Nat->Prop),Bo S ex H as vs/\(∀ a∈S.ch,a∈ex)/\Alc ex H/\S.inv n H/\sp as n P/\∀ ds n' a ws H',P ds n'->Y0 S n' H H'->H a=none->H' a=some (.lst ws)->ws.length<=sizeLine->Reps (a::ex) H' ds ws->Q (.ref a) H'
noncomputable def Vn:Yal->Bool
 | .none | .bool _ | .int _ | .str _=>true
 | _=>false
theorem Jgw {d:Yal}{v:V}(h:Vn d=true) (r:Rep ex H d v):∀ ex',Rep ex' H d v:=λ ex'=>by
 cases r with
 | none=>exact .none
 | bool b=>exact .bool b
 | int i=>exact .int i
 | str x=>exact .str x
 | tuple=>cases h
 | list=>cases h
 | obj=>cases h
 | dctf=>cases h
class Scal (sp:GSp):Prop where
 sc:∀ {as:List Vl} {n:Nat} {P:Yal->Nat->Prop},sp as n P->sp as n λ d n'=>Vn d=true/\P d n'
abbrev Jxg (sp:GSp) (ga:GA):GE:=λ env n Q=>ga env n λ as n1=>sp as n1 Q
abbrev Jy6 (sp:GSn) (ga:GA):GN:=λ env n Q=>ga env n λ as n1=>sp as n1 Q
instance ev_callS {sp:GSp}{E':XK}{t:TA}{gt:GA} [Z:Scal sp] [A:AV false t gt]:EV b (Jdm (Jn sp) [] E' t) (Jxg sp gt):=⟨λ {S ex env σ H n Q P} E h k=>
 A.av E h λ as n1 vs H1 h1 s1 r1=>by
  rw [Ur]
  exact ⟨S,S.ch,as,n1,_,r1,λ _ h=>h,λ a ha=>(E.step s1).al a (E.ch a ha),s1.2,Z.sc h1,λ d n' v H' p s2 r=>k _ _ _ _ p.2 (s1.trans s2) (Jgw p.1 r _)⟩⟩
instance (priority:=low) ev_call {sp:GSp}{E':XK}{t:TA}{gt:GA} [A:AV b t gt]:EV b (Jdm (Jn sp) [] E' t) (Jxg sp gt):=⟨λ {S ex env σ H n Q P} E h k=>
 A.av E h λ as n1 vs H1 h1 s1 r1=>by
  rw [Ur]
  exact ⟨S,exm b S ex,as,n1,_,r1,E.sup b,(E.step s1).alm b,s1.2,h1,λ d n' v H' p s2 r=>k _ _ _ _ p (s1.trans s2) r⟩⟩
instance nv_call {sp:GSn}{E':XK}{t:TA}{gt:GA} [A:AV true t gt]:NV (Jdm (Y3 sp) [] E' t) (Jy6 sp gt):=⟨λ {S ex env σ H n Q P} E h k=>
 A.av E h λ as n1 vs H1 h1 s1 r1=>by
  rw [Ur]
  exact ⟨S,ex,as,n1,_,r1,E.ch,(E.step s1).al,s1.2,h1,λ ds n' a ws H' p s2 ha hl hz r=>k _ _ _ _ _ p (s1.trans s2) (s1.free ha) hl hz r⟩⟩
abbrev Jxh (g:GE):GT:=λ env n Q=>g env n λ d n1=>match d with
 | .bool c=>Q c n1
 | _=>False
theorem Jbu {d:Yal}{n:Nat}{Q:Bool->Nat->Prop}{v:V}(h:match d with | .bool c=>Q c n | _=>False) (r:Rep ex H d v):∃ c,v = .bl c/\Q c n:=by
 cases r with
 | bool c=>exact ⟨c,rfl,h⟩
 | none=>exact h.elim
 | obj=>exact h.elim
 | dctf=>exact h.elim
 | int=>exact h.elim
 | str=>exact h.elim
 | tuple=>exact h.elim
 | list=>exact h.elim
instance tv_test [A:EV false te g]:TV (Jw9 te) (Jxh g):=⟨λ {S ex env σ H n Q P} E h k=>A.ev E h λ d n1 v H1 h1 s1 r1=>by
 obtain ⟨c,e,q⟩:=Jbu h1 r1
 exact ⟨c,e,k _ _ _ q s1⟩⟩
instance tv_b [A:EV false te g]:TV (tB te) (Jxh g):=⟨λ {S ex env σ H n Q P} E h k=>A.ev E h λ d n1 v H1 h1 s1 r1=>by
 obtain ⟨c,e,q⟩:=Jbu h1 r1
 exact ⟨c,e,k _ _ _ q s1⟩⟩
abbrev J2j (a b:GT):GT:=λ env n Q=>a env n λ c n1=>if c=true then b env n1 Q else Q false n1
abbrev gOr (a b:GT):GT:=λ env n Q=>a env n λ c n1=>if c=true then Q true n1 else b env n1 Q
abbrev J2k (a:GT):GT:=λ env n Q=>a env n λ c n1=>Q (!c) n1
instance tv_and {t u:TT}{gt gu:GT} [A:TV t gt] [B:TV u gu]:TV (J0c t u) (J2j gt gu):=⟨λ {S ex env σ H n Q P} E h k=>A.tv E h λ c n1 H1 h1 s1=>by
 cases c with
 | true=>exact B.tv (E.step s1) h1 λ c n2 H2 h2 s2=>k _ _ _ h2 (s1.trans s2)
 | false=>exact k _ _ _ h1 s1⟩
instance tv_or {t u:TT}{gt gu:GT} [A:TV t gt] [B:TV u gu]:TV (tOr t u) (gOr gt gu):=⟨λ {S ex env σ H n Q P} E h k=>A.tv E h λ c n1 H1 h1 s1=>by
 cases c with
 | false=>exact B.tv (E.step s1) h1 λ c n2 H2 h2 s2=>k _ _ _ h2 (s1.trans s2)
 | true=>exact k _ _ _ h1 s1⟩
instance tv_not {t:TT}{gt:GT} [A:TV t gt]:TV (J0d t) (J2k gt):=⟨λ {S ex env σ H n Q P} E h k=>A.tv E h λ c n1 H1 h1 s1=>k _ _ _ h1 s1⟩
instance tv_noTest:TV Jf4 (λ _ n Q=>Q true n):=⟨λ {S ex env σ H n Q P} E h k=>k _ _ _ h (.refl E.inv)⟩
abbrev gIf (t:GT) (a b:GE):GE:=λ env n Q=>t env n λ c n1=>if c=true then a env n1 Q else b env n1 Q
instance ev_if {t:TT}{gt:GT} [T:TV t gt] [A:EV b ta ga] [B:EV b tb gb]:EV b (tIf t ta tb) (gIf gt ga gb):=⟨λ {S ex env σ H n Q P} E h k=>T.tv E h λ c n1 H1 h1 s1=>by
 cases c with
 | true=>exact A.ev (E.step s1) h1 λ d n2 v H2 h2 s2 r=>k _ _ _ _ h2 (s1.trans s2) r
 | false=>exact B.ev (E.step s1) h1 λ d n2 v H2 h2 s2 r=>k _ _ _ _ h2 (s1.trans s2) r⟩
abbrev J02 (a b:GE):GE:=λ env n Q=>a env n λ d n1=>match d with
 | .bool c=>if c=true then b env n1 Q else Q (.bool false) n1
 | _=>False
abbrev J2l (a b:GE):GE:=λ env n Q=>a env n λ d n1=>match d with
 | .bool c=>if c=true then Q (.bool true) n1 else b env n1 Q
 | _=>False
abbrev J03 (a:GE):GE:=λ env n Q=>a env n λ d n1=>match d with
 | .bool c=>Q (.bool (!c)) n1
 | _=>False
instance ev_andV [A:EV false ta ga] [B:EV b tb gb]:EV b (Jw3 ta tb) (J02 ga gb):=⟨λ {S ex env σ H n Q P} E h k=>A.ev E h λ d n1 v H1 h1 s1 r1=>by
 obtain ⟨c,e,q⟩:=Jbu (Q:=λ c n1=>if c=true then gb env n1 P else P (.bool false) n1) h1 r1
 refine ⟨c,e,?_⟩
 cases c with
 | true=>exact B.ev (E.step s1) q λ d n2 v H2 h2 s2 r=>k _ _ _ _ h2 (s1.trans s2) r
 | false=>exact k _ _ _ _ q s1 (.bool _)⟩
instance ev_orV [A:EV false ta ga] [B:EV b tb gb]:EV b (J0f ta tb) (J2l ga gb):=⟨λ {S ex env σ H n Q P} E h k=>A.ev E h λ d n1 v H1 h1 s1 r1=>by
 obtain ⟨c,e,q⟩:=Jbu (Q:=λ c n1=>if c=true then P (.bool true) n1 else gb env n1 P) h1 r1
 refine ⟨c,e,?_⟩
 cases c with
 | false=>exact B.ev (E.step s1) q λ d n2 v H2 h2 s2 r=>k _ _ _ _ h2 (s1.trans s2) r
 | true=>exact k _ _ _ _ q s1 (.bool _)⟩
instance ev_notV [A:EV false ta ga]:EV b (Jw4 ta) (J03 ga):=⟨λ {S ex env σ H n Q P} E h k=>A.ev E h λ d n1 v H1 h1 s1 r1=>by
 obtain ⟨c,e,q⟩:=Jbu (Q:=λ c n1=>P (.bool (!c)) n1) h1 r1
 exact ⟨c,e,k _ _ _ _ q s1 (.bool _)⟩⟩
abbrev gUn (f:Yal->(Yal->Prop)->Prop) (a:GE):GE:=λ env n Q=>a env n λ d n1=>f d λ e=>Q e n1
abbrev fU (f:Int->V):Yal->(Yal->Prop)->Prop:=λ d Q=>match d with
 | .int i=>(match f i with | .int k=>Q (.int k) | _=>False)
 | _=>False
instance ev_unI {f:Int->V} [A:EV false ta ga]:EV b (tUn (rU f) ta) (gUn (fU f) ga):=⟨λ {S ex env σ H n Q P} E h k=>A.ev E h λ d n1 v H1 h1 s1 r1=>by
 cases r1 with
 | int i=>
  unfold fU at h1
  refine ⟨i,rfl,?_⟩
  dsimp only at h1
  split at h1
  . rename_i j e;rw [e];exact k _ _ _ _ h1 s1 (.int _)
  . exact h1.elim
 | none=>exact h1.elim
 | obj=>exact h1.elim
 | dctf=>exact h1.elim
 | bool=>exact h1.elim
 | str=>exact h1.elim
 | tuple=>exact h1.elim
 | list=>exact h1.elim⟩
end
abbrev ofV:V->(Yal->Prop)->Prop
 | .int k,Q=>Q (.int k)
 | .bl c,Q=>Q (.bool c)
 | .str s,Q=>Q (.str s)
 | .non,Q=>Q .none
 | _,_=>False
theorem Jo4 {v:V}{P:Yal->Prop}{H:Hp}(h:ofV v P):∃ d,P d/\∀ ex,Rep ex H d v:=by
 cases v with
 | int k=>exact ⟨_,h,λ _=>.int k⟩
 | bl k=>exact ⟨_,h,λ _=>.bool k⟩
 | str k=>exact ⟨_,h,λ _=>.str k⟩
 | non=>exact ⟨_,h,λ _=>.none⟩
 | byt _=>exact h.elim
 | flt _=>exact h.elim
 | ref _=>exact h.elim
 | ty _=>exact h.elim
abbrev fI0 (f:Int->Int->V):G2:=λ x y Q=>match x,y with
 | .int i,.int j=>ofV (f i j) Q
 | _,_=>False
abbrev fI (C:Int->Int->Prop) (f:Int->Int->V):G2:=λ x y Q=>match x,y with
 | .int i,.int j=>C i j/\ofV (f i j) Q
 | _,_=>False
theorem ints_inv {ex:List Addr}{H:Hp}{dx dy:Yal}{x y:V}{A:Int->Int->Prop}(h:match dx,dy with | .int i,.int j=>A i j | _,_=>False) (r1:Rep ex H dx x) (r2:Rep ex H dy y):∃ i j,x = .int i/\y = .int j/\A i j:=by
 split at h
 . cases r1;cases r2;exact ⟨_,_,rfl,rfl,h⟩
 . exact h.elim
instance os_I0 {f:Int->Int->V}:OS (rI0 f) (fI0 f):=⟨λ {H x y dx dy Q P} r1 r2 h k=>by
 obtain ⟨i,j,rfl,rfl,h⟩:=ints_inv (A:=λ i j=>ofV (f i j) P) h r1 r2
 obtain ⟨d,p,r⟩:=Jo4 (H:=H) h
 exact ⟨i,j,rfl,rfl,k _ _ p r⟩⟩
instance os_I {C:Int->Int->Prop}{f:Int->Int->V}:OS (rI C f) (fI C f):=⟨λ {H x y dx dy Q P} r1 r2 h k=>by
 obtain ⟨i,j,rfl,rfl,hc,h⟩:=ints_inv (A:=λ i j=>C i j/\ofV (f i j) P) h r1 r2
 obtain ⟨d,p,r⟩:=Jo4 (H:=H) h
 exact ⟨i,j,rfl,rfl,hc,k _ _ p r⟩⟩
noncomputable def eqS:Yal->Yal->Option Bool
 | .int i,.int j=>some (decide (i=j))
 | .str a,.str b=>some (decide (a=b))
 | .bool a,.bool b=>some (decide (a=b))
 | .none,.none=>some true
 | .none,.int _ | .none,.bool _ | .none,.str _ | .int _,.none | .bool _,.none | .str _,.none=>some false
 | .int _,.str _ | .str _,.int _ | .bool _,.str _ | .str _,.bool _=>some false
 | _,_=>none
def fEq (neg:Bool):G2:=λ x y Q=>match eqS x y with
 | some c=>Q (.bool (if neg then !c else c))
 | none=>False
theorem Jsr {ex:List Addr}{H:Hp}{dx dy:Yal}{x y:V}{c:Bool}(h:eqS dx dy=some c) (r1:Rep ex H dx x) (r2:Rep ex H dy y):Ju4 x y=true/\decide (x=y)=c:=by
 cases r1<;>cases r2<;>simp [eqS] at h<;>subst h<;>simp [Ju4]
instance os_eq:OS rEq (fEq false):=⟨λ {H x y dx dy Q P} r1 r2 h k=>by
 unfold fEq at h
 split at h
 . rename_i c e
   obtain ⟨h1,h2⟩:=Jsr e r1 r2
   exact ⟨h1,by rw [h2];exact k _ _ h λ _=>.bool _⟩
 . exact h.elim⟩
instance os_ne:OS rNe (fEq true):=⟨λ {H x y dx dy Q P} r1 r2 h k=>by
 unfold fEq at h
 split at h
 . rename_i c e
   obtain ⟨h1,h2⟩:=Jsr e r1 r2
   exact ⟨h1,by rw [h2];exact k _ _ h λ _=>.bool _⟩
 . exact h.elim⟩
def J04 (x y:Yal):Prop:=x.canLay0=true/\y.canLay0=true/\min x.depth y.depth<=50
def Jvt (neg:Bool):G2:=λ x y Q=>J04 x y/\Q (.bool (if neg then !Uu x y else Uu x y))
instance os_neD:OS J0q (Jvt true):=⟨λ {H x y dx dy Q P} r1 r2 h k=>⟨[],dx,dy,r1,r2,h.1.1,h.1.2.1,h.1.2.2,k _ _ h.2 λ _=>.bool _⟩⟩
noncomputable def Jc4:Yal->Bool
 | .none=>true
 | _=>false
abbrev J2m (neg:Bool):G2:=λ x y Q=>Jc4 y=true/\Q (.bool (if neg then !Jc4 x else Jc4 x))
theorem Jqt {ex:List Addr}{H:Hp}{d:Yal}{v:V}(r:Rep ex H d v):decide (v = .non)=Jc4 d:=by
 cases r<;>simp [Jc4]
theorem Jss {ex:List Addr}{H:Hp}{d:Yal}{v:V}(r:Rep ex H d v) (h:Jc4 d=true):v = .non:=by
 cases r<;>simp [Jc4] at h<;>rfl
instance os_isN:OS (λ x y H Q=>y = .non/\Q (.bl (decide (x = .non))) H) (J2m false):=⟨λ {H x y dx dy Q P} r1 r2 h k=>⟨Jss r2 h.1,by rw [Jqt r1];exact k _ _ h.2 λ _=>.bool _⟩⟩
noncomputable def inD (x:Yal) (xs:List Yal):Bool:=xs.any λ y=>Uu y x
def fIn (neg:Bool):G2:=λ x y Q=>match y with
 | .list xs=>Vn x=true/\xs.all Vn=true/\Q (.bool (if neg then !inD x xs else inD x xs))
 | .tuple xs=>Vn x=true/\xs.all Vn=true/\Q (.bool (if neg then !inD x xs else inD x xs))
 | _=>False
theorem Jjw {ex:List Addr}{H:Hp}{d:Yal}{v:V}(r:Rep ex H d v) (h:Vn d=true):Jcw v=true:=by
 cases r<;>first | rfl | cases h
theorem Jgx {ex:List Addr}{H:Hp}:∀ {ds:List Yal}{vs:List V},Reps ex H ds vs->ds.all Vn=true->vs.all Jcw=true
 | _,_,.nil,_=>rfl
 | _,_,.cons r t,h=>by
  simp only [J4h,X3] at h ⊢
  exact ⟨Jjw r h.1,Jgx t h.2⟩
theorem Jy7 {ex:List Addr}{H:Hp}{d e:Yal}{v w:V}(r:Rep ex H d v) (s:Rep ex H e w) (h:Vn d=true) (g:Vn e=true):eqV v w=Uu d e:=by
 cases r<;>cases s<;>first | rfl | (cases h;done) | (cases g;done) | simp [eqV,Uu]
theorem Jst {ex:List Addr}{H:Hp}{d:Yal}{v:V}(r:Rep ex H d v) (h:Vn d=true):∀ {ds:List Yal}{vs:List V},Reps ex H ds vs->ds.all Vn=true->inV v vs=inD d ds
 | _,_,.nil,_=>rfl
 | _,_,.cons s t,g=>by
  simp only [J4h,X3] at g
  have:=Jst r h t g.2
  unfold inV inD at this ⊢
  rw [J4i,J4i,this,Jy7 s r g.1 h]
instance os_in {K:Qb}{neg:Bool}:OS (rIn K neg) (fIn neg):=⟨λ {H x y dx dy Q P} r1 r2 h k=>by
 cases r2 with
 | list e _ _ rs=>exact ⟨_,_,rfl,.inl (SqL.of e),Jjw r1 h.1,Jgx rs h.2.1,by rw [Jst r1 h.1 rs h.2.1];exact k _ _ h.2.2 λ _=>.bool _⟩
 | tuple e _ _ rs=>exact ⟨_,_,rfl,.inr (SqT.of e),Jjw r1 h.1,Jgx rs h.2.1,by rw [Jst r1 h.1 rs h.2.1];exact k _ _ h.2.2 λ _=>.bool _⟩
 | none=>exact h.elim
 | obj=>exact h.elim
 | dctf=>exact h.elim
 | bool=>exact h.elim
 | int=>exact h.elim
 | str=>exact h.elim⟩
theorem Jjx {ex:List Addr}{H:Hp}{ds:List Yal}{vs:List V}{i:Int}{d:Yal}(r:Reps ex H ds vs) (h:atI ds i=some d):∃ v,atI vs i=some v/\Rep ex H d v:=by
 unfold atI at h ⊢
 rw [<- r.length]
 cases e:ixN ds.length i with
 | none=>rw [e] at h;cases h
 | some j=>rw [e] at h;exact r.get h
abbrev Jvu:G2:=λ x y Q=>match x,y with
 | .list xs,.int i=>∃ d,atI xs i=some d/\Q d
 | _,_=>False
abbrev J05:G2:=λ x y Q=>match x,y with
 | .tuple xs,.int i=>∃ d,atI xs i=some d/\Q d
 | _,_=>False
instance ov_ixL {K:Qb}:OV (Jla K) Jvu:=⟨λ {ex H x y dx dy Q P} al r1 r2 h k=>by
 unfold Jvu at h
 split at h
 . obtain ⟨d,e,p⟩:=h
   cases r2
   cases r1 with
   | list e1 _ _ rs=>
    obtain ⟨v,ev,r⟩:=Jjx rs e
    exact ⟨_,_,_,v,rfl,rfl,SqL.of e1,ev,k _ _ _ p .refl r⟩
 . exact h.elim⟩
instance ov_ixT {K:Qb}:OV (Jyo K) J05:=⟨λ {ex H x y dx dy Q P} al r1 r2 h k=>by
 unfold J05 at h
 split at h
 . obtain ⟨d,e,p⟩:=h
   cases r2
   cases r1 with
   | tuple e1 _ _ rs=>
    obtain ⟨v,ev,r⟩:=Jjx rs e
    exact ⟨_,_,_,v,rfl,rfl,SqT.of e1,ev,k _ _ _ p .refl r⟩
 . exact h.elim⟩
abbrev J06 (i:Nat) (gb:GE):GE:=λ env n Q=>match env[i]? with
 | some (.own xs)=>gb env n λ y n1=>Jvu (.list xs) y λ d=>Q d n1
 | some (.d x)=>gb env n λ y n1=>Jvu x y λ d=>Q d n1
 | _=>False
instance (priority:=high) ev_ixO {K:Qb}{i:Nat}{tb:TE}{gb:GE} [B:EV true tb gb]:EV true (tOp (Jla K) (Z4 i) tb) (J06 i gb):=⟨λ {S ex env σ H n Q P} E h k=>by
 unfold J06 at h
 split at h
 . rename_i xs e
   obtain ⟨a,vs,ev,h1,h2,h3,h4,h5⟩:=E.sl i _ e
   refine ⟨_,Jo ev,B.ev E h λ y n1 v1 H1 hh s1 r1=>?_⟩
   cases r1 with
   | int j=>
    obtain ⟨d,ed,p⟩:=hh
    obtain ⟨v,ev2,r⟩:=Jjx (E.reps s1 h3) ed
    exact ⟨_,_,_,v,rfl,rfl,SqL.of (s1.1 _ _ h1 h5),ev2,k _ _ _ _ p s1 r⟩
   | none=>exact hh.elim
   | obj=>exact hh.elim
   | dctf=>exact hh.elim
   | bool=>exact hh.elim
   | str=>exact hh.elim
   | tuple=>exact hh.elim
   | list=>exact hh.elim
 . rename_i x e
   obtain ⟨v,ev,r⟩:=E.sl i _ e
   refine ⟨v,Jo ev,B.ev E h λ y n1 v1 H1 hh s1 r1=>?_⟩
   exact (ov_ixL (K:=K)).ov (E.step s1).al (E.rep s1 r) r1 hh λ d v H' p kp r=>k _ _ _ _ p (s1.then kp) r
 . exact h.elim⟩
instance on_rep:ON J0p (λ x y Q=>match x,y with | .list xs,.int k=>(-(2^63)<=k/\k<2^63/\xs.length*k.toNat<=sizeLine)/\Q (Qo k.toNat xs).flatten | _,_=>False):=⟨λ {ex H x y dx dy Q P} r1 r2 h k=>by
 split at h
 . cases r1 with
   | list e1 _ _ rs=>
    cases r2
    have l1:=rs.length
    refine ⟨_,_,_,rfl,rfl,e1,h.1.1,h.1.2.1,by rw [<- l1];exact h.1.2.2,λ p hp=>k _ p _ h.2 hp ?_ (rs.rep _)⟩
    rw [Jdo,<- l1,J5d];exact h.1.2.2
 . exact h.elim⟩
def Jxi:G2:=λ x y Q=>match x,y with
 | .tuple xs,.int k=>xs≠[]/\-(2^63)<=k/\(xs.length:Int)*k<=sizeLine/\Q (.tuple (Qo k.toNat xs).flatten)
 | _,_=>False
instance ov_repT {K:Qb}:OV (Jsa K) Jxi:=⟨λ {ex H x y dx dy Q P} al r1 r2 h k=>by
 unfold Jxi at h
 split at h
 . obtain ⟨h1,h2,h3,h4⟩:=h
   rename_i xs k0
   cases r2
   cases r1 with
   | tuple e1 n1 z1 rs=>
    have l1:=rs.length
    refine Jsc e1 (λ z=>h1 (J60.mp (by rw [l1,z];rfl))) h2 (by rw [<- l1];exact h3) λ t H' kp ht hf=>k _ _ _ h4 kp (.tuple ht ?_ ?_ ((rs.rep _).keep kp.of))
    . rcases hf with rfl | hf
      . exact n1
      . exact al.nm hf
    . rw [Jdo,<- l1]
      rcases J3t k0 0 with hk | hk
      . rw [show k0.toNat=0 by omega];simp
      . have:((k0.toNat*xs.length:Nat):Int)<=sizeLine:=by rw [J6q,J36 hk,Q3];exact h3
        exact_mod_cast this
 . exact h.elim⟩
abbrev J07:G1:=λ ds Q=>match ds with
 | [.list xs]=>Q (.int xs.length)
 | [.tuple xs]=>Q (.int xs.length)
 | _=>False
instance cs_len {K:Qb}:CS (λ xs H Q=>∃ p ys,xs=[.ref p]/\(SqL K H p ys\/SqT K H p ys)/\Q (.int ys.length) H) J07:=⟨λ {H xs ds Q P} r h k=>by
 unfold J07 at h
 split at h
 . cases r with
   | cons r1 t=>
    cases t
    cases r1 with
    | list e _ _ rs=>exact ⟨_,_,rfl,.inl (SqL.of e),by rw [<- rs.length];exact k _ _ h λ _=>.int _⟩
 . cases r with
   | cons r1 t=>
    cases t
    cases r1 with
    | tuple e _ _ rs=>exact ⟨_,_,rfl,.inr (SqT.of e),by rw [<- rs.length];exact k _ _ h λ _=>.int _⟩
 . exact h.elim⟩
abbrev Jjy (ds:List Yal) (Q:List Yal->Prop):Prop:=match ds with
 | [.list xs]=>Q xs
 | [.tuple xs]=>Q xs
 | _=>False
instance cn_list {K:Qb}:CN (λ xs H Q=>∃ p ys,xs=[.ref p]/\(SqL K H p ys\/SqT K H p ys)/\∀ l,H l=none->Q (.ref l) (upd H l (.lst ys))) Jjy:=⟨λ {ex H xs ds Q P} r h k=>by
 unfold Jjy at h
 split at h
 . cases r with
   | cons r1 t=>
    cases t
    cases r1 with
    | list e _ z rs=>exact ⟨_,_,rfl,.inl (SqL.of e),λ l hl=>k _ l _ h hl z rs⟩
 . cases r with
   | cons r1 t=>
    cases t
    cases r1 with
    | tuple e _ z rs=>exact ⟨_,_,rfl,.inr (SqT.of e),λ l hl=>k _ l _ h hl z rs⟩
 . exact h.elim⟩
abbrev Jlo:G1:=λ ds Q=>match ds with
 | [.list xs]=>Q (.tuple xs)
 | [.tuple xs]=>Q (.tuple xs)
 | _=>False
instance co_tuple {K:Qb}:CO (λ xs H Q=>∃ p ys,xs=[.ref p]/\((SqL K H p ys/\∀ l,H l=none->Q (.ref l) (upd H l (.tup ys)))\/(SqT K H p ys/\Q (.ref p) H))) Jlo:=⟨λ {ex H xs ds Q P} al r h k=>by
 unfold Jlo at h
 split at h
 . cases r with
   | cons r1 t=>
    cases t
    cases r1 with
    | list e _ z rs=>exact ⟨_,_,rfl,.inl ⟨SqL.of e,λ l hl=>k _ _ _ h (Kp.new hl _) (.tuple Jf (al.nm hl) z (rs.keep (Kp.new hl _)))⟩⟩
 . cases r with
   | cons r1 t=>
    cases t
    cases r1 with
    | tuple e n z rs=>exact ⟨_,_,rfl,.inr ⟨SqT.of e,k _ _ _ h .refl (.tuple e n z rs)⟩⟩
 . exact h.elim⟩
def J2n (c:Bool):G1:=λ ds Q=>∃ ns:List Int,ds=[.list (ns.map .int)]/\c=true/\Q (.int ns.sum)
instance cs_sum {K:Qb}{c:Bool}:CS (λ xs H Q=>c=true/\∃ (p:Addr) (ns:List Int),xs=[.ref p]/\SqL K H p (ns.map V.int)/\Q (.int ns.sum) H) (J2n c):=⟨λ {H xs ds Q P} r h k=>by
 obtain ⟨ns,rfl,hc,q⟩:=h
 cases r with
 | cons r1 t=>
  cases t
  cases r1 with
  | list e _ _ rs=>
   cases rs.ints_inv
   exact ⟨hc,_,ns,rfl,SqL.of e,k _ _ q λ _=>.int _⟩⟩
theorem Reps.bools_inv {ex:List Addr}{H:Hp}:∀ {ns:List Bool}{vs:List V},Reps ex H (ns.map J5o) vs->vs=ns.map V.bl
 | [],_,.nil=>rfl
 | n::r,_,.cons (.bool _) t=>by rw [Reps.bools_inv t];rfl
def J2o (c:Bool):G1:=λ ds Q=>∃ bs:List Bool,ds=[.list (bs.map .bool)]/\c=true/\Q (.bool (bs.all id))
instance cs_all {K:Qb}{c:Bool}:CS (λ xs H Q=>c=true/\∃ (p:Addr) (bs:List Bool),xs=[.ref p]/\SqL K H p (bs.map V.bl)/\Q (.bl (bs.all id)) H) (J2o c):=⟨λ {H xs ds Q P} r h k=>by
 obtain ⟨ns,rfl,hc,q⟩:=h
 cases r with
 | cons r1 t=>
  cases t
  cases r1 with
  | list e _ _ rs=>
   cases Reps.bools_inv rs
   exact ⟨hc,_,ns,rfl,SqL.of e,k _ _ q λ _=>.bool _⟩⟩
abbrev J08 (f:Int->Int->Int):G1:=λ ds Q=>match ds with
 | [.int i,.int j]=>Q (.int (f i j))
 | _=>False
theorem Jo5 {ex:List Addr}{H:Hp}{ds:List Yal}{xs:List V}{A:Int->Int->Prop}(h:match ds with | [.int i,.int j]=>A i j | _=>False) (r:Reps ex H ds xs):∃ i j,xs=[.int i,.int j]/\A i j:=by
 split at h
 . cases r with
   | cons r1 t=>cases t with
    | cons r2 t=>cases t;cases r1;cases r2;exact ⟨_,_,rfl,h⟩
 . exact h.elim
instance cs_max2:CS (λ xs H Q=>∃ i j,xs=[.int i,.int j]/\Q (.int (if j>i then j else i)) H) (J08 λ i j=>if j>i then j else i):=⟨λ {H xs ds Q P} r h k=>by
 obtain ⟨i,j,rfl,q⟩:=Jo5 (A:=λ i j=>P (.int (if j>i then j else i))) h r
 exact ⟨i,j,rfl,k _ _ q λ _=>.int _⟩⟩
instance cs_min2:CS (λ xs H Q=>∃ i j,xs=[.int i,.int j]/\Q (.int (if j<i then j else i)) H) (J08 λ i j=>if j<i then j else i):=⟨λ {H xs ds Q P} r h k=>by
 obtain ⟨i,j,rfl,q⟩:=Jo5 (A:=λ i j=>P (.int (if j<i then j else i))) h r
 exact ⟨i,j,rfl,k _ _ q λ _=>.int _⟩⟩
abbrev Jsu (T:String) (g:GE):GE:=λ env n Q=>g env n λ d n1=>noD d=true/\Q (.bool (Jiw d T)) n1
section
variable {b:Bool}{te:TE}{g:GE}
theorem Jo6 (T:String) (hT:T = "int"\/T = "bool"\/T = "str"\/T = "tuple"\/T = "list") [A:EV false te g]:EV b (tCB (λ xs H Q=>∃ ex d x T,xs=[x,.ty T]/\Rep ex H d x/\noD d=true/\(T = "int"\/T = "bool"\/T = "str"\/T = "tuple"\/T = "list")/\Q (.bl (Jiw d T)) H) (Yo te (Yo (tC (.ty T)) Ja2))) (Jsu T g):=⟨λ {S ex env σ H n Q P} E h k=>
 A.ev E h λ d n1 v H1 h1 s1 r1=>⟨_,d,v,T,rfl,r1,h1.1,hT,k _ _ _ _ h1.2 s1 (.bool _)⟩⟩
instance (priority:=high) ev_instI [A:EV false te g]:EV b (tCB (λ xs H Q=>∃ ex d x T,xs=[x,.ty T]/\Rep ex H d x/\noD d=true/\(T = "int"\/T = "bool"\/T = "str"\/T = "tuple"\/T = "list")/\Q (.bl (Jiw d T)) H) (Yo te (Yo (tC (.ty "int")) Ja2))) (Jsu "int" g):=Jo6 _ (by simp)
instance (priority:=high) ev_instB [A:EV false te g]:EV b (tCB (λ xs H Q=>∃ ex d x T,xs=[x,.ty T]/\Rep ex H d x/\noD d=true/\(T = "int"\/T = "bool"\/T = "str"\/T = "tuple"\/T = "list")/\Q (.bl (Jiw d T)) H) (Yo te (Yo (tC (.ty "bool")) Ja2))) (Jsu "bool" g):=Jo6 _ (by simp)
abbrev gLR (t:GN):GN:=λ env n Q=>t env n λ ds n1=>∃ j:Int,ds=[.int j]/\0<=j/\j<=1000000/\Q ((Qg j.toNat).map λ (i:Nat)=>.int (i:Int)) n1
theorem Jlp {ex:List Addr}{H:Hp}(f:Nat->Int):∀ l:List Nat,Reps ex H (l.map λ i=>.int (f i)) (l.map λ i=>.int (f i))
 | []=>.nil
 | _::r=>.cons (.int _) (Jlp f r)
instance nv_lr {t:TA}{gt:GN} [A:DV true t gt]:NV (tLR t) (gLR gt):=⟨λ {S ex env σ H n Q P} E h k=>
 A.dv E h λ ds n1 vs H1 h1 s1 r1=>by
  obtain ⟨j,rfl,h2,h3,q⟩:=h1
  cases r1 with
  | cons r1 t=>
   cases t
   cases r1
   have hs:sizeLine=16777216:=Yar
   refine ⟨j,rfl,h2,h3,λ l hl=>?_⟩
   obtain ⟨c1,c2,c3⟩:=Bp E s1 hl (Jlp (λ i:Nat=>(i:Int)) (Qg j.toNat))
   exact k _ _ _ _ _ q c1 c2 Jf (by show ((Qg j.toNat).map _).length<=_;rw [Qc,Qz];omega) c3⟩
class OPV (t:TO) (g:outParam (List Vl->Nat->(Option Int->Nat->Prop)->Prop)):Prop where
 op:∀ {S:Src} {ex:List Addr} {env:List Vl} {σ:L2.St} {H:Hp} {n:Nat} {Q:Option Int->Hp->Prop} {P:Option Int->Nat->Prop},Ev S ex env σ H n->g env n P->(∀ o n' H',P o n'->Y0 S n' H H'->Q o H')->t σ H Q
instance op_no:OPV Jov (λ _ n Q=>Q none n):=⟨λ E h k=>k _ _ _ h (.refl E.inv)⟩
abbrev J09 (g:GE):List Vl->Nat->(Option Int->Nat->Prop)->Prop:=λ env n Q=>g env n λ d n1=>match d with
 | .int i=>Q (some i) n1
 | _=>False
instance op_part [A:EV false te g]:OPV (Jxb te) (J09 g):=⟨λ {S ex env σ H n Q P} E h k=>A.ev E h λ d n1 v H1 h1 s1 r1=>by
 cases r1 with
 | int i=>exact ⟨i,rfl,k _ _ _ h1 s1⟩
 | none=>exact h1.elim
 | obj=>exact h1.elim
 | dctf=>exact h1.elim
 | bool=>exact h1.elim
 | str=>exact h1.elim
 | tuple=>exact h1.elim
 | list=>exact h1.elim⟩
theorem Jsv {ex:List Addr}{H:Hp}{ds:List Yal}{vs:List V}(r:Reps ex H ds vs) (lo hi:Option Int):Reps ex H (Jds ds lo hi) (Jk9 vs lo hi):=by
 unfold Jds Jk9
 rw [r.length]
 exact Reps.take _ (Reps.drop _ r)
abbrev Jy8 (f f':G2) (ga gb gc:GE):GE:=λ env n Q=>ga env n λ x n1=>gb env n1 λ y n2=>f x y λ d=>match d with
 | .bool true=>gc env n2 λ z n3=>f' y z λ e=>Q e n3
 | .bool false=>Q (.bool false) n2
 | _=>False
instance ev_chain {r r':R2}{f f':G2}{ta tb tc:TE}{ga gb gc:GE} [O:OS r f] [O':OS r' f'] [A:EV false ta ga] [B:EV false tb gb] [C:EV false tc gc]:EV b (Jrx r r' ta tb tc) (Jy8 f f' ga gb gc):=⟨λ {S ex env σ H n Q P} E h k=>by
 refine A.ev E h λ x n1 v1 H1 h1 s1 r1=>B.ev (E.step s1) h1 λ y n2 v2 H2 h2 s2 r2=>?_
 refine O.os (Rep.nil ((E.step s1).repm false s2 r1)) (Rep.nil r2) h2 λ d v p r=>?_
 cases r [] with
 | bool c=>
  refine ⟨c,rfl,?_⟩
  cases c with
  | true=>exact C.ev (E.step (s1.trans s2)) p λ z n3 v3 H3 h3 s3 r3=>O'.os (Rep.nil ((E.step (s1.trans s2)).repm false s3 r2)) (Rep.nil r3) h3 λ d v p r=>k _ _ _ _ p ((s1.trans s2).trans s3) (r _)
  | false=>exact k _ _ _ _ p (s1.trans s2) (.bool _)
 | none=>exact p.elim
 | obj=>exact p.elim
 | dctf=>exact p.elim
 | int=>exact p.elim
 | str=>exact p.elim
 | tuple=>exact p.elim
 | list=>exact p.elim⟩
end
def ItAt (ex:List Addr) (J:It) (items:List Yal) (H:Hp):Prop:=J.stop items.length H/\∀ (i:Nat) (d:Yal),items[i]? = some d->J.go i H/\∀ x H',J.yld i H x H'->Kp [] H H'/\Rep ex H' d x
class IV (wi:TI) (g:outParam GN):Prop where
 iv:∀ {S:Src} {ex:List Addr} {env:List Vl} {σ:L2.St} {H:Hp} {n:Nat} {R:It->Hp->Prop} {P:List Yal->Nat->Prop},Ev S ex env σ H n->g env n P ->
  (∀ items n' J (hd:List (Yal×V)) H',P items n'->Y0 S n' H H'->(∀ h∈hd,Rep ex H' h.1 h.2)->(∀ ex' H2,Alc ex' H2->(∀ h∈hd,Rep ex' H2 h.1 h.2)->ItAt ex' J items H2)->R J H')->wi σ H R
class IC (wi:TI) (g:outParam GN):Prop where
 ic:∀ {S:Src} {ex:List Addr} {env:List Vl} {σ:L2.St} {H:Hp} {n:Nat} {R:It->Hp->Prop} {P:List Yal->Nat->Prop},Ev S ex env σ H n->g env n P ->
  (∀ items n' J H',P items n'->Y0 S n' H H'->(∀ l H2,H' l=none->Kp (l::S.ch) H' H2->Alc (l::ex) H2->ItAt (l::ex) J items H2)->R J H')->wi σ H R
section
variable {K:Qb}{S:Src}{n m:Nat}{H H1 H2 H':Hp}{ex:List Addr}{env:List Vl}{σ:L2.St}{b:Bool}{te ta tb tc:TE}{g ga gb gc:GE}{wi:TI}{gi:GN}
theorem Jcn {l:Addr}(hc:∀ a∈S.ch,a∈ex) (k:Kp (l::S.ch) H H'):Kp (l::ex) H H':=k.mono λ b hb=>(Qd.mp hb).elim (λ e=>by rw [e];exact Qk) λ h=>Qj _ (hc b h)
instance (priority:=low) ic_iv [I:IV wi gi]:IC wi gi:=⟨λ {S ex env σ H n R P} E h k=>I.iv E h λ items n' J hd H' p s hr hit=>k _ _ _ _ p s λ l H2 hl kp al=>
 hit _ _ al λ x hx=>(Rep.add hl (hr x hx)).keep (Jcn E.ch kp)⟩
theorem Jjz {a:Addr}{vs:List V}{ds:List Yal}(ha:H a=some (.lst vs)) (r:Reps ex H ds vs):ItAt ex (Itl K a) ds H:=by
 refine ⟨⟨vs,SqL.of ha,by rw [r.length];exact Ql _⟩,λ i d e=>?_⟩
 obtain ⟨v,ev,rv⟩:=r.get e
 refine ⟨⟨vs,v,SqL.of ha,ev⟩,λ x H' y=>?_⟩
 obtain ⟨rfl,hx⟩:=y
 have:=hx vs (SqL.of ha)
 rw [ev] at this
 cases this
 exact ⟨.refl,rv⟩
theorem Jy9 {a:Addr}{vs:List V}{ds:List Yal}(ha:H a=some (.tup vs)) (r:Reps ex H ds vs):ItAt ex (Itt K a) ds H:=by
 refine ⟨⟨vs,SqT.of ha,by rw [r.length];exact Ql _⟩,λ i d e=>?_⟩
 obtain ⟨v,ev,rv⟩:=r.get e
 refine ⟨⟨vs,v,SqT.of ha,ev⟩,λ x H' y=>?_⟩
 obtain ⟨rfl,hx⟩:=y
 have:=hx vs (SqT.of ha)
 rw [ev] at this
 cases this
 exact ⟨.refl,rv⟩
noncomputable def Jif (lo:Int) (k:Nat):List Yal:=(Qg k).map λ (i:Nat)=>.int (lo+(i:Int))
theorem Yq (lo:Int) (k:Nat):(Jif lo k).length=k:=by unfold Jif;rw [Qc,Qz]
theorem Jza {lo:Int}{k:Nat}:ItAt ex (Itr lo k) (Jif lo k) H:=by
 refine ⟨by rw [Yq];exact Ql _,λ i d e=>?_⟩
 have hi:i<k:=by
  have:=(Qv.mp e).1
  rw [Yq] at this
  exact this
 unfold Jif at e
 rw [Qm,X4 hi] at e
 cases e
 refine ⟨hi,λ x H' y=>?_⟩
 obtain ⟨rfl,rfl⟩:=y
 exact ⟨.refl,.int _⟩
noncomputable def Jnk:Yal->Option (List Yal)
 | .list xs=>some xs
 | .tuple xs=>some xs
 | _=>none
theorem Jdt {d:Yal}{v:V}{ds:List Yal}(r:Rep ex H d v) (h:Jnk d=some ds):∃ (c:Bool) (a:Addr) (vs:List V),v = .ref a/\(∀ K,SqK c K H a vs)/\Reps ex H ds vs/\((c=true/\H a=some (.tup vs))\/(c=false/\H a=some (.lst vs)))/\a∉ex:=by
 cases r with
 | tuple e n z rs=>cases h;exact ⟨true,_,_,rfl,λ K=>SqT.of e,rs,.inl ⟨rfl,e⟩,n⟩
 | list e n z rs=>cases h;exact ⟨false,_,_,rfl,λ K=>SqL.of e,rs,.inr ⟨rfl,e⟩,n⟩
 | none=>cases h
 | obj=>cases h
 | dctf=>cases h
 | bool=>cases h
 | int=>cases h
 | str=>cases h
noncomputable def Jap (ds:List Yal):List Yal:=ds.mapIdx λ i d=>.tuple [.int (i:Int),d]
theorem Jaq:(2:Nat)<=sizeLine:=by rw [Yar];decide
theorem Bq:(3:Nat)<=sizeLine:=by rw [Yar];decide
theorem Jvv {c:Bool}{a:Addr}{vs:List V}{ds:List Yal}(al:Alc ex H) (ha:SqK c K H a vs) (r:Reps ex H ds vs):ItAt ex (Ite c K a) (Jap ds) H:=by
 unfold Jap
 refine ⟨⟨vs,ha,by rw [J83,r.length]⟩,λ i d e=>?_⟩
 rw [J4t] at e
 cases hd:ds[i]? with
 | none=>rw [hd] at e;cases e
 | some d0=>
  rw [hd] at e
  cases e
  obtain ⟨v,ev,rv⟩:=r.get hd
  refine ⟨⟨vs,v,ha,ev⟩,λ x H' y=>?_⟩
  obtain ⟨p,y,hp,rfl,rfl,hy⟩:=y
  have:=hy vs ha
  rw [ev] at this
  cases this
  exact ⟨Kp.new hp _,.tuple Jf (al.nm hp) Jaq (.cons (.int _) (.cons (rv.keep (Kp.new hp _)) .nil))⟩
noncomputable def Br (ds es:List Yal):List Yal:=J35 (λ x y=>.tuple [x,y]) ds es
theorem Jnl {c c':Bool}{a a':Addr}{vs vs':List V}{ds es:List Yal}(al:Alc ex H) (ha:SqK c K H a vs) (r:Reps ex H ds vs) (ha':SqK c' K H a' vs') (r':Reps ex H es vs'):ItAt ex (Itz c c' K a a') (Br ds es) H:=by
 unfold Br
 refine ⟨⟨vs,vs',ha,ha',by rw [J5p,r.length,r'.length]⟩,λ i d e=>?_⟩
 rw [J3u] at e
 cases hd:ds[i]? with
 | none=>rw [hd] at e;cases e
 | some d0=>
  cases he:es[i]? with
  | none=>rw [hd,he] at e;cases e
  | some e0=>
   rw [hd,he] at e
   cases e
   obtain ⟨v,ev,rv⟩:=r.get hd
   obtain ⟨v',ev',rv'⟩:=r'.get he
   refine ⟨⟨vs,vs',v,v',ha,ha',ev,ev'⟩,λ x H' y=>?_⟩
   obtain ⟨p,y,y',hp,rfl,rfl,hy,hy'⟩:=y
   have:=hy vs ha
   rw [ev] at this
   cases this
   have:=hy' vs' ha'
   rw [ev'] at this
   cases this
   exact ⟨Kp.new hp _,.tuple Jf (al.nm hp) Jaq (.cons (rv.keep (Kp.new hp _)) (.cons (rv'.keep (Kp.new hp _)) .nil))⟩
abbrev Jxj (f:Yal->Option (List Yal)) (g:GE):GN:=λ env n Q=>g env n λ d n1=>match f d with
 | some ds=>Q ds n1
 | none=>False
noncomputable def J2p:Yal->Option (List Yal)
 | .list xs=>some xs
 | _=>none
noncomputable def J1a:Yal->Option (List Yal)
 | .tuple xs=>some xs
 | _=>none
instance iv_list [A:EV true te g]:IV (Jop K te) (Jxj J2p g):=⟨λ {S ex env σ H n R P} E h k=>A.ev E h λ d n1 v H1 h1 s1 r1=>by
 cases r1 with
 | list e m z rs=>
  refine ⟨_,rfl,⟨_,SqL.of e⟩,k _ _ _ [(Ux _,V.ref _)] _ h1 s1 (λ h hh=>by rw [Qu.mp hh];exact .list e m z rs) λ ex' H2 al hr=>?_⟩
  have:=hr _ (Qu.mpr rfl)
  cases this with
  | list e m z rs=>exact Jjz e rs
 | none=>exact h1.elim
 | obj=>exact h1.elim
 | dctf=>exact h1.elim
 | bool=>exact h1.elim
 | str=>exact h1.elim
 | int=>exact h1.elim
 | tuple=>exact h1.elim⟩
instance iv_tup [A:EV true te g]:IV (J0k K te) (Jxj J1a g):=⟨λ {S ex env σ H n R P} E h k=>A.ev E h λ d n1 v H1 h1 s1 r1=>by
 cases r1 with
 | tuple e m z rs=>
  refine ⟨_,rfl,⟨_,SqT.of e⟩,k _ _ _ [(Uy _,V.ref _)] _ h1 s1 (λ h hh=>by rw [Qu.mp hh];exact .tuple e m z rs) λ ex' H2 al hr=>?_⟩
  have:=hr _ (Qu.mpr rfl)
  cases this with
  | tuple e m z rs=>exact Jy9 e rs
 | none=>exact h1.elim
 | obj=>exact h1.elim
 | dctf=>exact h1.elim
 | bool=>exact h1.elim
 | str=>exact h1.elim
 | int=>exact h1.elim
 | list=>exact h1.elim⟩
abbrev Jsw (i:Nat):GN:=λ env n Q=>match env[i]? with
 | some (.own xs)=>Q xs n
 | some (.d (.list xs))=>Q xs n
 | _=>False
instance (priority:=high) ic_own {i:Nat}:IC (Jop K (Z4 i)) (Jsw i):=⟨λ {S ex env σ H n R P} E h k=>by
 unfold Jsw at h
 split at h
 . rename_i xs e
   obtain ⟨a,vs,ev,h1,h2,h3,h4,h5⟩:=E.sl i _ e
   refine ⟨_,Jo ev,_,rfl,⟨_,SqL.of h1⟩,k _ _ _ _ h (.refl E.inv) λ l H2 hl kp al=>?_⟩
   have na:a≠l:=Jl h1 hl
   exact Jjz (kp _ _ h1 λ z=>(Qd.mp z).elim na h5) ((Reps.add hl h3).keep (Jcn E.ch kp))
 . rename_i xs e
   obtain ⟨v,ev,r⟩:=E.sl i _ e
   cases r with
   | list e1 m z rs=>
    refine ⟨_,Jo ev,_,rfl,⟨_,SqL.of e1⟩,k _ _ _ _ h (.refl E.inv) λ l H2 hl kp al=>?_⟩
    have:=(Rep.add hl (.list e1 m z rs)).keep (Jcn E.ch kp)
    cases this with
    | list e m z rs=>exact Jjz e rs
 . exact h.elim⟩
abbrev J1b (t:GN):GN:=λ env n Q=>t env n λ ds n1=>∃ j:Int,ds=[.int j]/\(-(2^62)<=j/\j<2^62)/\Q (Jif 0 j.toNat) n1
instance iv_rng1 {t:TA}{gt:GN} [A:DV false t gt]:IV (Jw7 t) (J1b gt):=⟨λ {S ex env σ H n R P} E h k=>A.dv E h λ ds n1 vs H1 h1 s1 r1=>by
 obtain ⟨j,rfl,h2,q⟩:=h1
 cases r1 with
 | cons r1 t=>
  cases t
  cases r1
  exact ⟨j,rfl,h2.1,h2.2,k _ _ _ [] _ q s1 (λ h hh=>by cases hh) λ ex' H2 al _=>Jza⟩⟩
abbrev J1c (t:GN):GN:=λ env n Q=>t env n λ ds n1=>∃ d xs,ds=[d]/\Jnk d=some xs/\Q (Jap xs) n1
abbrev J2q (t:GN):GN:=λ env n Q=>t env n λ ds n1=>∃ d e xs ys,ds=[d,e]/\Jnk d=some xs/\Jnk e=some ys/\Q (Br xs ys) n1
theorem Jbv {d:Yal}{ds:List Yal}{c:Bool}{a:Addr}{vs:List V}(hs:Jnk d=some ds) (hc:(c=true/\H a=some (.tup vs))\/(c=false/\H a=some (.lst vs))) (r:Rep ex H d (.ref a)) (ex':List Addr) (H2:Hp) (r2:Rep ex' H2 d (.ref a)):∃ vs',(∀ K,SqK c K H2 a vs')/\Reps ex' H2 ds vs':=by
 cases r2 with
 | obj=>cases hs
 | dctf=>cases hs
 | tuple e n z rs=>
  cases hs
  refine ⟨_,λ K=>?_,rs⟩
  rcases hc with ⟨rfl,_⟩ | ⟨_,h⟩
  . exact SqT.of e
  . cases r with | tuple e' _ _ _=>rw [h] at e';cases e'
 | list e n z rs=>
  cases hs
  refine ⟨_,λ K=>?_,rs⟩
  rcases hc with ⟨_,h⟩ | ⟨rfl,_⟩
  . cases r with | list e' _ _ _=>rw [h] at e';cases e'
  . exact SqL.of e
instance iv_enum {t:TA}{gt:GN} [A:DV true t gt]:IV (Jxe K t) (J1c gt):=⟨λ {S ex env σ H n R P} E h k=>A.dv E h λ ds n1 vs H1 h1 s1 r1=>by
 obtain ⟨d,xs,rfl,hs,q⟩:=h1
 cases r1 with
 | cons r1 t=>
  cases t
  obtain ⟨c,a,ws,rfl,hq,rs,hc,na⟩:=Jdt r1 hs
  refine ⟨c,a,ws,rfl,hq K,k _ _ _ [(d,V.ref a)] _ q s1 (λ h hh=>by rw [Qu.mp hh];exact r1) λ ex' H2 al hr=>?_⟩
  obtain ⟨vs',h3,h4⟩:=Jbv hs hc r1 ex' H2 (hr _ (Qu.mpr rfl))
  exact Jvv al (h3 K) h4⟩
instance iv_zip {t:TA}{gt:GN} [A:DV true t gt]:IV (Jng K t) (J2q gt):=⟨λ {S ex env σ H n R P} E h k=>A.dv E h λ ds n1 vs H1 h1 s1 r1=>by
 obtain ⟨d,e,xs,ys,rfl,hs,hs',q⟩:=h1
 cases r1 with
 | cons r1 t=>
  cases t with
  | cons r2 t=>
   cases t
   obtain ⟨c,a,ws,rfl,hq,rs,hc,na⟩:=Jdt r1 hs
   obtain ⟨c',a',ws',rfl,hq',rs',hc',na'⟩:=Jdt r2 hs'
   refine ⟨c,c',a,a',ws,ws',rfl,hq K,hq' K,k _ _ _ [(d,V.ref a),(e,V.ref a')] _ q s1 (λ h hh=>?_) λ ex' H2 al hr=>?_⟩
   . rcases Qd.mp hh with e | hh
     . rw [e];exact r1
     . rw [Qu.mp hh];exact r2
   obtain ⟨v1,h3,h4⟩:=Jbv hs hc r1 ex' H2 (hr _ Qk)
   obtain ⟨v2,h5,h6⟩:=Jbv hs' hc' r2 ex' H2 (hr _ (Qj _ (Qu.mpr rfl)))
   exact Jnl al (h3 K) h4 (h5 K) h6⟩
end
noncomputable def Jq (env:List Vl) (σ:L2.St) (i:Nat):List Addr:=match env[i]?,(σ[i]?).join with
 | some (.own _),some (.ref a)=>[a]
 | some (.dct _),some (.ref a)=>[a]
 | some (.own2 _ ps),some (.ref a)=>a::ps.map (·.1)
 | _,_=>[]
abbrev GG:=Yal->List Vl->(List Vl->Prop)->Prop
abbrev GGs:=List Yal->List Vl->(List Vl->Prop)->Prop
class GV (g:TG) (bd:outParam GG) (ks:outParam (List Nat)):Prop where
 gv:∀ {S:Src} {ex:List Addr} {env:List Vl} {σ:L2.St} {H:Hp} {n:Nat} {d:Yal} {v:V} {Q:L2.St->Hp->Prop} {P:List Vl->Prop},Ev S ex env σ H n->Rep ex H d v->bd d env P ->
  (∀ env' σ',P env'->Ev S ex env' σ' H n->(∀ i a,a∈Jq env' σ' i->a∈Jq env σ i)->(∀ i:Nat,i∉ks->σ'[i]? = σ[i]?)->σ'.length = σ.length->Q σ' H)->g v σ H Q
class GVs (g:TGs) (bd:outParam GGs) (ks:outParam (List Nat)):Prop where
 gvs:∀ {S:Src} {ex:List Addr} {env:List Vl} {σ:L2.St} {H:Hp} {n:Nat} {d:List Yal} {v:List V} {Q:L2.St->Hp->Prop} {P:List Vl->Prop},Ev S ex env σ H n->Reps ex H d v->bd d env P ->
  (∀ env' σ',P env'->Ev S ex env' σ' H n->(∀ i a,a∈Jq env' σ' i->a∈Jq env σ i)->(∀ i:Nat,i∉ks->σ'[i]? = σ[i]?)->σ'.length = σ.length->Q σ' H)->g v σ H Q
abbrev J1d (i:Nat):GG:=λ d env P=>P (env.set i (.d d))
theorem Ev.put {S:Src}{ex:List Addr}{env:List Vl}{σ:L2.St}{H:Hp}{n i:Nat}{w:Vl}{v:V}(E:Ev S ex env σ H n) (h:SlR S ex H w (some v)):Ev S ex (env.set i w) (σ.set i (some v)) H n:=by
 refine ⟨by rw [Qp,Qp];exact E.len,λ j u e=>?_,E.ch,E.al,E.inv⟩
 by_cases hj:i=j
 . subst hj
   have hl:i<env.length:=by
    have:=(Qv.mp e).1
    rw [Qp] at this;exact this
   rw [Q7 hl] at e
   cases e
   rw [Q7 (Qy hl E.len)]
   exact h
 . rw [Q1 hj] at e ⊢
   exact E.sl j u e
theorem Jf5 {env:List Vl}{σ:L2.St}{i:Nat}{d:Yal}{v:V}:∀ j a,a∈Jq (env.set i (.d d)) (σ.set i (some v)) j->a∈Jq env σ j:=λ j a h=>by
 unfold Jq at h ⊢
 by_cases hj:i=j
 . subst hj
   by_cases hl:i<env.length
   . rw [Q7 hl] at h
     cases h
   . rw [Qx (by rw [Qp];omega)] at h
     cases h
 . rw [Q1 hj,Q1 hj] at h
   exact h
instance gv_name {i:Nat}:GV (Ba i) (J1d i) [i]:=⟨λ {S ex env σ H n d v Q P} E r h k=>k _ _ h (E.put ⟨v,rfl,r⟩) Jf5 (λ j hj=>Q1 (λ z=>hj (by rw [z];exact Qu.mpr rfl))) Qp⟩
abbrev J2r:GGs:=λ ds env P=>ds=[]/\P env
abbrev J1e (t:GG) (u:GGs):GGs:=λ ds env P=>match ds with
 | d::r=>t d env λ env1=>u r env1 P
 | []=>False
instance gvs_nil:GVs L2.gNil J2r []:=⟨λ {S ex env σ H n d v Q P} E r h k=>by
 obtain ⟨rfl,h⟩:=h
 cases r
 exact ⟨rfl,k _ _ h E (λ _ _ h=>h) (λ _ _=>rfl) rfl⟩⟩
instance gvs_cons {t:TG}{u:TGs}{bt:GG}{bu:GGs}{k1 k2:List Nat} [A:GV t bt k1] [B:GVs u bu k2]:GVs (L2.gCons t u) (J1e bt bu) (k1++k2):=⟨λ {S ex env σ H n d v Q P} E r h k=>by
 cases r with
 | nil=>exact h.elim
 | cons r1 t=>
  refine ⟨_,_,rfl,A.gv E r1 h λ env1 σ1 h1 E1 o1 f1 z1=>B.gvs E1 t h1 λ env2 σ2 h2 E2 o2 f2 z2=>k _ _ h2 E2 (λ i a ha=>o1 i a (o2 i a ha)) (λ i hi=>?_) (z2.trans z1)⟩
  rw [f2 i λ z=>hi (Xk _ z),f1 i λ z=>hi (Xo _ z)]⟩
abbrev J2s (k:Nat) (bs:GGs):GG:=λ d env P=>match d with
 | .tuple ds=>ds.length=k/\bs ds env P
 | _=>False
abbrev J2t (k:Nat) (bs:GGs):GG:=λ d env P=>match d with
 | .list ds=>ds.length=k/\bs ds env P
 | _=>False
instance gv_tup {K:Qb}{k:Nat}{t:TGs}{bs:GGs}{ks:List Nat} [A:GVs t bs ks]:GV (Jro K k t) (J2s k bs) ks:=⟨λ {S ex env σ H n d v Q P} E r h k=>by
 cases r with
 | tuple e m z rs=>exact ⟨_,_,rfl,SqT.of e,by rw [<- rs.length];exact h.1,A.gvs E rs h.2 k⟩
 | none=>exact h.elim
 | obj=>exact h.elim
 | dctf=>exact h.elim
 | bool=>exact h.elim
 | str=>exact h.elim
 | int=>exact h.elim
 | list=>exact h.elim⟩
instance gv_lst {K:Qb}{k:Nat}{t:TGs}{bs:GGs}{ks:List Nat} [A:GVs t bs ks]:GV (Jsh K k t) (J2t k bs) ks:=⟨λ {S ex env σ H n d v Q P} E r h k=>by
 cases r with
 | list e m z rs=>exact ⟨_,_,rfl,SqL.of e,by rw [<- rs.length];exact h.1,A.gvs E rs h.2 k⟩
 | none=>exact h.elim
 | obj=>exact h.elim
 | dctf=>exact h.elim
 | bool=>exact h.elim
 | str=>exact h.elim
 | int=>exact h.elim
 | tuple=>exact h.elim⟩
def Jgy (f:Yal->Nat->(Option Yal->Nat->Prop)->Prop):List Yal->Nat->(List Yal->Nat->Prop)->Prop
 | [],n,Q=>Q [] n
 | x::xs,n,Q=>f x n λ o n1=>Jgy f xs n1 λ ys n2=>Q (o.toList++ys) n2
noncomputable def Jc5 (k:Nat) (idx:List Nat) (env:List Vl):List Vl:=Qo k .jnk++idx.map λ i=>(env[i]?).getD .jnk
abbrev Jxk (bd:GG) (gt:GT) (ge:GE) (env:List Vl):Yal->Nat->(Option Yal->Nat->Prop)->Prop:=λ x n Q=>bd x env λ env'=>gt env' n λ c n1=>if c=true then ge env' n1 λ y n2=>Q (some y) n2 else Q none n1
abbrev J1f (gi:GN) (k:Nat) (idx:List Nat) (ks:List Nat) (bd:GG) (gt:GT) (ge:GE):GN:=λ env n Q=>gi env n λ items n1=>(ks.all (λ i=>decide (i<k))=true/\items.length<=sizeLine)/\Jgy (Jxk bd gt ge (Jc5 k idx env)) items n1 Q
theorem SlR.add {S:Src}{ex:List Addr}{H:Hp}{l:Addr}{w:Vl}{o:Option V}(hl:H l=none) (h:SlR S ex H w o):SlR S (l::ex) H w o:=by
 cases w with
 | jnk=>trivial
 | jar=>exact h
 | tape=>exact h
 | d x=>obtain ⟨v,e,r⟩:=h;exact ⟨v,e,Rep.add hl r⟩
 | pin v x=>obtain ⟨e,r⟩:=h;exact ⟨e,Rep.add hl r⟩
 | own xs=>obtain ⟨a,vs,e,h1,h2,h3,h4,h5⟩:=h;exact ⟨a,vs,e,h1,h2,Reps.add hl h3,Qj _ h4,h5⟩
 | dct kvs=>obtain ⟨a,kws,e,h1,⟨h2,h3⟩,h4,h5⟩:=h;exact ⟨a,kws,e,h1,⟨h2,Reps.add hl h3⟩,Qj _ h4,h5⟩
 | own2 ks ps=>obtain ⟨a,e,q⟩:=h;exact ⟨a,e,q.h,q.z,q.k,q.nd,Qj _ q.m,q.c,λ p hp=>let w:=q.i p hp;⟨Qj _ w.m,w.c,let ⟨vs,h1,h2,h3⟩:=w.h;⟨vs,h1,h2,Reps.add hl h3⟩⟩⟩
theorem SlR.upd {S:Src}{ex:List Addr}{H:Hp}{l:Addr}{w:Vl}{o:Option V}{u:HO}(hl:l∈ex) (hn:∀ b∈Jq [w] [o] 0,b≠l) (h:SlR S ex H w o):SlR S ex (upd H l u) w o:=by
 cases w with
 | jnk=>trivial
 | jar=>exact h
 | tape=>exact h
 | d x=>obtain ⟨v,e,r⟩:=h;exact ⟨v,e,r.keep (Kp.at hl _)⟩
 | pin v x=>obtain ⟨e,r⟩:=h;exact ⟨e,r.keep (Kp.at hl _)⟩
 | own xs=>obtain ⟨a,vs,e,h1,h2,h3,h4,h5⟩:=h;subst e;exact ⟨a,vs,rfl,by rw [Je (hn a Qk)];exact h1,h2,h3.keep (Kp.at hl _),h4,h5⟩
 | dct kvs=>obtain ⟨a,kws,e,h1,⟨h2,h3⟩,h4,h5⟩:=h;subst e;exact ⟨a,kws,rfl,by rw [Je (hn a Qk)];exact h1,⟨h2,h3.keep (Kp.at hl _)⟩,h4,h5⟩
 | own2 ks ps=>obtain ⟨a,e,q⟩:=h;subst e;exact ⟨a,rfl,by rw [Je (hn a Qk)];exact q.h,q.z,q.k,q.nd,q.m,q.c,λ p hp=>let w:=q.i p hp;⟨w.m,w.c,let ⟨vs,h1,h2,h3⟩:=w.h;⟨vs,by rw [Je (hn p.1 (Qj _ (Qq.mpr ⟨p,hp,rfl⟩)))];exact h1,h2,h3.keep (Kp.at hl _)⟩⟩⟩
theorem Jgz {S:Src}{ex:List Addr}{env:List Vl}{σ:L2.St}{H:Hp}{n:Nat}(E:Ev S ex env σ H n) (k:Nat) (idx:List Nat):Ev S ex (Jc5 k idx env) (Zh k idx σ) H n:=by
 refine ⟨by unfold Jc5 Zh;simp,λ i w e=>?_,E.ch,E.al,E.inv⟩
 unfold Jc5 at e
 by_cases hi:i<k
 . rw [J3a (by simpa using hi),J3p,if_pos hi] at e
   cases e
   trivial
 . rw [J3o (by simpa using J32 hi),Qm] at e
   rw [X2] at e
   cases hj:idx[i-k]? with
   | none=>rw [hj] at e;cases e
   | some j=>
    rw [hj] at e
    cases e
    have e2:(Zh k idx σ)[i]? = some ((σ[j]?).join):=by
     unfold Zh
     rw [J3o (by simpa using J32 hi),X2,Qm,hj];rfl
    rw [e2]
    show SlR S ex H ((env[j]?).getD .jnk) (σ[j]?).join
    cases hw:env[j]? with
    | none=>exact trivial
    | some w=>exact E.sl j w hw
theorem Jvw {S:Src}{ex:List Addr}{je:List Vl}{σ0 σ':L2.St}{H1 H2:Hp}{n1 n2 k:Nat}{l:Addr}(E:Ev S ex je σ0 H1 n1) (hl:H1 l=none) (kp:Kp (l::S.ch) H1 H2) (h2:H2 l≠none) (iv:S.inv n2 H2) (hj:∀ j:Nat,j<k->je[j]? = none\/je[j]? = some .jnk) (hs:∀ j:Nat,k<=j->σ'[j]? = σ0[j]?) (hz:σ'.length = σ0.length):Ev S (l::ex) je σ' H2 n2:=by
 have hc:∀ a∈S.ch,a∈l::ex:=λ a h=>Qj _ (E.ch a h)
 have kx:Kp (l::ex) H1 H2:=Jcn E.ch kp
 refine ⟨by rw [hz];exact E.len,λ j w e=>?_,hc,λ a ha=>?_,iv⟩
 . by_cases hjk:j<k
   . rcases hj j hjk with h | h
     . rw [h] at e;cases e
     . rw [h] at e;cases e;trivial
   . rw [hs j (J32 hjk)]
     have h:=SlR.add hl (E.sl j w e)
     cases w with
     | jnk=>trivial
     | jar=>exact h
     | tape=>exact h
     | d x=>obtain ⟨v,e,r⟩:=h;exact ⟨v,e,r.keep kx⟩
     | pin v x=>obtain ⟨e,r⟩:=h;exact ⟨e,r.keep kx⟩
     | own xs=>obtain ⟨a,vs,e,h1,h2,h3,h4,h5⟩:=h;exact ⟨a,vs,e,kp _ _ h1 λ z=>(Qd.mp z).elim (Jl h1 hl) h5,h2,h3.keep kx,h4,h5⟩
     | dct kvs=>obtain ⟨a,kws,e,h1,⟨h2,h3⟩,h4,h5⟩:=h;exact ⟨a,kws,e,kp _ _ h1 λ z=>(Qd.mp z).elim (Jl h1 hl) h5,⟨h2,h3.keep kx⟩,h4,h5⟩
     | own2 ks ps=>obtain ⟨a,e,q⟩:=h;exact ⟨a,e,kp _ _ q.h λ z=>(Qd.mp z).elim (Jl q.h hl) q.c,q.z,q.k,q.nd,q.m,q.c,λ p hp=>let w:=q.i p hp;⟨w.m,w.c,let ⟨vs,h1,h2,h3⟩:=w.h;⟨vs,kp _ _ h1 λ z=>(Qd.mp z).elim (Jl h1 hl) w.c,h2,h3.keep kx⟩⟩⟩
 . rcases Qd.mp ha with rfl | ha
   . exact h2
   . by_cases hac:a∈S.ch
     . exact S.dom iv a hac
     . intro z
       cases e:H1 a with
       | none=>exact E.al a ha e
       | some o=>
        rw [kp a o e λ q=>(Qd.mp q).elim (Jl e hl) hac] at z
        cases z
theorem Jg0 {k:Nat}{idx:List Nat}{env:List Vl}(j:Nat) (h:j<k):(Jc5 k idx env)[j]? = none\/(Jc5 k idx env)[j]? = some .jnk:=by grind [Jc5]
instance nv_comp {wi:TI}{gi:GN}{k:Nat}{idx ks:List Nat}{g:TG}{bd:GG}{tt:TT}{gt:GT}{te:TE}{ge:GE} [I:IC wi gi] [G:GV g bd ks] [T:TV tt gt] [A:EV true te ge]:NV (Jbi wi k idx g tt te) (J1f gi k idx ks bd gt ge):=⟨λ {S ex env σ H n Q P} E h kk=>by
 refine I.ic E h λ items n1 J H1 hc s1 hit l hl=>?_
 obtain ⟨⟨hk,hz⟩,hc⟩:=hc
 have E1:=Jgz (E.step s1) k idx
 have lch:l∉S.ch:=λ z=>S.dom s1.2 l z hl
 have hkk:∀ i∈ks,i<k:=λ i hi=>of_decide_eq_true (Uv.mp hk i hi)
 refine ⟨λ i m σ' H2=>i<=items.length/\m=items.length-i/\∃ (n2:Nat) (ds:List Yal) (vs:List V),Jgy (Jxk bd gt ge (Jc5 k idx env)) (items.drop i) n2 (λ ys n'=>P (ds++ys) n')/\Kp (l::S.ch) H1 H2/\H2 l=some (.lst vs)/\vs.length<=i/\Reps (l::ex) H2 ds vs/\S.inv n2 H2/\(∀ j:Nat,k<=j->σ'[j]? = (Zh k idx σ)[j]?)/\σ'.length=(Zh k idx σ).length,
  ⟨items.length,Xl _,rfl,n1,[],[],by simpa using hc,Kp.new hl _,Jf,Ql _,.nil,S.keep s1.2 λ b _ o' e=>Kp.new (ex:=[]) hl _ _ _ e (by simp),λ _ _=>rfl,rfl⟩,?_⟩
 rintro i m σ' H2 ⟨hi,rfl,n2,ds,vs,hcm,kp,h2l,hvl,rs,iv2,hsl,hln⟩
 have E2:Ev S (l::ex) (Jc5 k idx env) σ' H2 n2:=Jvw E1 hl kp (by rw [h2l];intro z;cases z) iv2 Jg0 hsl hln
 have IT:=hit l H2 hl kp E2.al
 rcases Uw i items.length with hlt | hge
 . refine .inr ⟨(IT.2 i items[i] (Qf hlt)).1,λ x H3 y=>?_⟩
   obtain ⟨kp3,rx⟩:=(IT.2 i items[i] (Qf hlt)).2 x H3 y
   rw [J67 hlt] at hcm
   have st3:Y0 S n2 H2 H3:=Y0.new E2.inv kp3
   have E3:=E2.step st3
   refine G.gv E3 rx hcm λ env' σ2 ht E4 _ hs hl2=>T.tv E4 ht λ c n4 H4 h4 s4=>?_
   have hs2:∀ j:Nat,k<=j->σ2[j]? = (Zh k idx σ)[j]?:=λ j hj=>by
    rw [hs j λ z=>by have:=hkk j z;omega];exact hsl j hj
   cases c with
   | true=>
    refine A.ev (E4.step s4) h4 λ d n5 v H5 h5 s5 r5=>?_
    have s25:=st3.trans (s4.trans s5)
    have k5:Kp S.ch H2 H5:=s25.1
    have h5l:H5 l=some (.lst vs):=k5 _ _ h2l lch
    refine ⟨vs,h5l,by omega,_,(?_:items.length-(i+1)<_),hlt,rfl,n5,ds++[d],vs++[v],?_,?_,Jf,?_,?_,?_,hs2,hl2.trans hln⟩
    . omega
    . simpa using h5
    . exact (kp.trans (k5.mono λ b hb=>Qj _ hb)).trans (Kp.at Qk _)
    . rw [Xn,U0];omega
    . have q1:Reps (l::ex) H5 ds vs:=rs.keep (k5.mono E2.ch)
      exact (Reps.append q1 (.cons r5 .nil)).keep (Kp.at Qk _)
    . exact S.keep s25.2 λ b hb o e=>by rw [Je (λ z=>lch (by rw [<- z];exact hb))];exact e
   | false=>
    have s24:=st3.trans s4
    refine ⟨_,(?_:items.length-(i+1)<_),hlt,rfl,n4,ds,vs,by simpa using h4,kp.trans (s24.1.mono λ b hb=>Qj _ hb),s24.1 _ _ h2l lch,by omega,rs.keep (s24.1.mono E2.ch),s24.2,hs2,hl2.trans hln⟩
    omega
 . have e:i=items.length:=by omega
   subst e
   rw [J68] at hcm
   refine .inl ⟨IT.1,kk _ _ _ _ _ (by simpa [Jgy] using hcm) ⟨λ b o e nb=>kp b o (s1.1 b o e nb) λ z=>(Qd.mp z).elim (λ e2=>by rw [e2,s1.free hl] at e;cases e) nb,iv2⟩ (s1.free hl) h2l (Xj hvl hz) rs⟩⟩
structure VEnds where
 nx:List Vl->Nat->Prop
 rt:Yal->Nat->Prop
 rtn:List Yal->Nat->Prop
 bk:List Vl->Nat->Prop:=λ _ _=>False
 ct:List Vl->Nat->Prop:=λ _ _=>False
 xc:XK->Addr->Nat->Prop:=λ _ _ _=>False
 rt2:List (List Yal)->Nat->Prop:=λ _ _=>False
abbrev GS:=VEnds->List Vl->Nat->Prop
structure Cv where
 S:Src
 ex0:List Addr
 H0:Hp
 held:List (Yal×V)
structure At (C:Cv) (ex:List Addr) (env:List Vl) (σ:L2.St) (H:Hp) (n:Nat):Prop where
 ev:Ev C.S ex env σ H n
 ex0:∀ a∈C.ex0,a∈ex
 al0:Alc C.ex0 C.H0
 sep:∀ i j a,a∈Jq env σ i->a∈Jq env σ j->i=j
 new:∀ i a,a∈Jq env σ i->C.H0 a=none
 kp:Kp C.S.ch C.H0 H
 held:∀ h∈C.held,Rep ex H h.1 h.2
structure Ret (C:Cv) (d:Yal) (n:Nat) (v:V) (H:Hp):Prop where
 kp:Kp C.S.ch C.H0 H
 inv:C.S.inv n H
 r:Rep C.ex0 H d v
structure RetN (C:Cv) (ds:List Yal) (n:Nat) (a:Addr) (H:Hp):Prop where
 kp:Kp C.S.ch C.H0 H
 inv:C.S.inv n H
 fr:C.H0 a=none
 r:∃ vs,H a=some (.lst vs)/\vs.length<=sizeLine/\Reps (a::C.ex0) H ds vs
structure Ret2 (C:Cv) (ps:List (Addr×List Yal)) (n:Nat) (a:Addr) (H:Hp):Prop where
 kp:Kp C.S.ch C.H0 H
 inv:C.S.inv n H
 fr:C.H0 a=none
 frs:∀ p∈ps,C.H0 p.1=none
 o:Own2 C.S (a::ps.map (·.1)++C.ex0) H none ps a
structure EndsOk (C:Cv) (G:VEnds) (D:Ends):Prop where
 nx:∀ {ex env σ H n},At C ex env σ H n->G.nx env n->D.nx σ H
 bk:∀ {ex env σ H n},At C ex env σ H n->G.bk env n->D.bk σ H
 ct:∀ {ex env σ H n},At C ex env σ H n->G.ct env n->D.ct σ H
 rt:∀ {d n v H},Ret C d n v H->G.rt d n->D.rt v H
 rtn:∀ {ds n a H},RetN C ds n a H->G.rtn ds n->D.rt (.ref a) H
 xc:∀ {E c n H},Kp C.S.ch C.H0 H->C.S.inv n H->G.xc E c n->E (.ref c) none H
 r2:∀ {ps n a H},Ret2 C ps n a H->G.rt2 (ps.map (·.2)) n->D.rt (.ref a) H
class SV (ts:TS) (gs:outParam GS):Prop where
 sv:∀ {C:Cv} {G:VEnds} {D:Ends},EndsOk C G D->∀ {ex env σ H n},At C ex env σ H n->gs G env n->ts D σ H
section
variable {C:Cv}{ex:List Addr}{env:List Vl}{σ:L2.St}{H H':Hp}{n m:Nat}
theorem At.step (A:At C ex env σ H n) (s:Y0 C.S m H H'):At C ex env σ H' m:=⟨A.ev.step s,A.ex0,A.al0,A.sep,A.new,A.kp.trans s.1,λ h hh=>A.ev.rep s (A.held h hh)⟩
theorem Jbw {i:Nat}{a:Addr}(E:Ev C.S ex env σ H n) (h:a∈Jq env σ i):H a≠none/\a∈ex/\a∉C.S.ch:=by
 unfold Jq at h
 split at h
 . rename_i xs b e1 e2
   obtain ⟨c,vs,e,h1,h2,h3,h4,h5⟩:=E.sl i _ e1
   rw [e2] at e
   cases e
   rw [Qu.mp h]
   exact ⟨(by rw [h1];intro z;cases z),h4,h5⟩
 . rename_i xs b e1 e2
   obtain ⟨c,vs,e,h1,h2,h4,h5⟩:=E.sl i _ e1
   rw [e2] at e
   cases e
   rw [Qu.mp h]
   exact ⟨(by rw [h1];intro z;cases z),h4,h5⟩
 . rename_i ks ps b e1 e2
   obtain ⟨c,e,q⟩:=E.sl i _ e1
   rw [e2] at e
   cases e
   rcases Qd.mp h with rfl | h
   . exact ⟨(by rw [q.h];exact Xu _),q.m,q.c⟩
   . obtain ⟨p,hp,rfl⟩:=Qq.mp h
     have w:=q.i p hp
     obtain ⟨vs,h1,_⟩:=w.h
     exact ⟨(by rw [h1];exact Xu _),w.m,w.c⟩
 . cases h
theorem B9 {α:Type}{l:List α}{i:Nat}{a b:α}(h:(l.set i a)[i]? = some b):b=a:=by grind
theorem Jco {j:Nat}{w:Vl}(e:env[j]? = some w):Jq env σ j=Jq [w] [(σ[j]?).join] 0:=by
 unfold Jq
 rw [e]
 rfl
theorem At.put (A:At C ex env σ H n) {i:Nat}{d:Yal}{v:V}(r:Rep ex H d v):At C ex (env.set i (.d d)) (σ.set i (some v)) H n:=
 ⟨A.ev.put ⟨v,rfl,r⟩,A.ex0,A.al0,λ j k a h1 h2=>A.sep j k a (Jf5 j a h1) (Jf5 k a h2),λ j a h=>A.new j a (Jf5 j a h),A.kp,A.held⟩
theorem At.bind (A:At C ex env σ H n) {env':List Vl}{σ':L2.St}(E:Ev C.S ex env' σ' H n) (o:∀ i a,a∈Jq env' σ' i->a∈Jq env σ i):At C ex env' σ' H n:=
 ⟨E,A.ex0,A.al0,λ j k a h1 h2=>A.sep j k a (o j a h1) (o k a h2),λ j a h=>A.new j a (o j a h),A.kp,A.held⟩
theorem At.free (A:At C ex env σ H n) {a:Addr}(h:H a=none):C.H0 a=none:=by
 cases e:C.H0 a with
 | none=>rfl
 | some o=>
  by_cases hp:a∈C.S.ch
  . exact absurd h (C.S.dom A.ev.inv a hp)
  . rw [A.kp a o e hp] at h;cases h
theorem Vd {i j:Nat}{w:Vl}{o:Option V}(h:i≠j):Jq (env.set i w) (σ.set i o) j=Jq env σ j:=by
 unfold Jq
 rw [Q1 h,Q1 h]
theorem Jnm {i:Nat}{ds:List Yal}{a b:Addr}(h:b∈Jq (env.set i (.own ds)) (σ.set i (some (.ref a))) i):b=a:=by
 unfold Jq at h
 split at h
 . rename_i c e1 e2
   have e3:(σ.set i (some (.ref a)))[i]? = some (some (.ref c)):=Jo e2
   have:=B9 e3
   cases this
   exact Qu.mp h
 . rename_i e1 e2
   have:=B9 e1
   cases this
 . rename_i e1 e2
   have:=B9 e1
   cases this
 . cases h
theorem At.own (A:At C ex env σ H n) {i:Nat}{ds:List Yal}{vs:List V}{a:Addr}(s:Y0 C.S m H H') (ha:H a=none) (hl:H' a=some (.lst vs)) (hz:vs.length<=sizeLine) (r:Reps (a::ex) H' ds vs) :
 At C (a::ex) (env.set i (.own ds)) (σ.set i (some (.ref a))) H' m:=by
 have ac:a∉C.S.ch:=λ z=>C.S.dom A.ev.inv a z ha
 have hc:∀ b∈C.S.ch,b∈a::ex:=λ b h=>Qj _ (A.ev.ch b h)
 have E1:Ev C.S (a::ex) env σ H' m:=by
  refine ⟨A.ev.len,λ j w e=>(SlR.add ha (A.ev.sl j w e)).kp hc s.1,hc,λ b hb=>?_,s.2⟩
  rcases Qd.mp hb with rfl | hb
  . rw [hl];intro z;cases z
  . exact A.ev.al.step s b hb
 refine ⟨E1.put ⟨a,vs,rfl,hl,hz,r,Qk,ac⟩,λ b h=>Qj _ (A.ex0 b h),A.al0,λ j k b h1 h2=>?_,λ j b h=>?_,A.kp.trans s.1,λ h hh=>(Rep.add ha (A.held h hh)).keep (s.1.mono hc)⟩
 . by_cases hj:i=j
   . subst hj
     have e:=Jnm h1
     subst e
     by_cases hk:i=k
     . exact hk
     . rw [Vd hk] at h2
       exact absurd ha (Jbw A.ev h2).1
   . rw [Vd hj] at h1
     by_cases hk:i=k
     . subst hk
       have e:=Jnm h2
       subst e
       exact absurd ha (Jbw A.ev h1).1
     . rw [Vd hk] at h2
       exact A.sep j k b h1 h2
 . by_cases hj:i=j
   . subst hj
     have e:=Jnm h
     subst e
     exact A.free ha
   . rw [Vd hj] at h
     exact A.new j b h
theorem Jlq {i:Nat}{xs ys:List Yal}(h:env[i]? = some (.own xs)):∀ j,Jq (env.set i (.own ys)) σ j=Jq env σ j:=λ j=>by
 unfold Jq
 by_cases hj:i=j
 . subst hj
   rw [Q7 (Qv.mp h).1,h]
   cases (σ[i]?).join with
   | none=>rfl
   | some v=>cases v<;>rfl
 . rw [Q1 hj]
theorem At.re (A:At C ex env σ H n) {i:Nat}{xs ys:List Yal}{ws:List V}{a:Addr}(h:env[i]? = some (.own xs)) (hs:(σ[i]?).join=some (.ref a)) (r:Reps ex H ys ws) (hz:ws.length<=sizeLine) :
 At C ex (env.set i (.own ys)) σ (upd H a (.lst ws)) n:=by
 have ha:a∈Jq env σ i:=by unfold Jq;rw [h,hs];exact Qu.mpr rfl
 obtain ⟨h1,h2,h3⟩:=Jbw A.ev ha
 have h0:=A.new i a ha
 have kx:Kp ex H (upd H a (.lst ws)):=Kp.at h2 _
 refine ⟨⟨by rw [Qp];exact A.ev.len,λ j w e=>?_,A.ev.ch,λ b hb=>?_,C.S.keep A.ev.inv λ b hb o e=>by rw [Je (λ z=>h3 (by rw [<- z];exact hb))];exact e⟩,A.ex0,A.al0,λ j k b q1 q2=>?_,λ j b q=>?_,Kp.late A.kp h0 _,λ x hx=>(A.held x hx).keep kx⟩
 . by_cases hj:i=j
   . subst hj
     rw [Q7 (Qv.mp h).1] at e
     cases e
     exact ⟨a,ws,hs,Jf,hz,r.keep kx,h2,h3⟩
   . rw [Q1 hj] at e
     exact SlR.upd h2 (λ b hb z=>hj (A.sep i j a ha (by rw [Jco e,<- z];exact hb))) (A.ev.sl j w e)
 . by_cases hb2:b=a
   . rw [hb2,Jf];intro z;cases z
   . rw [Je hb2];exact A.ev.al b hb
 . rw [Jlq h] at q1 q2;exact A.sep j k b q1 q2
 . rw [Jlq h] at q;exact A.new j b q
inductive Fz:List Vl->List Vl->Prop
 | refl {env:List Vl}:Fz env env
 | fz {env env':List Vl} (i:Nat) (xs:List Yal) (h:env[i]? = some (.own xs)) (t:Fz (env.set i (.d (.list xs))) env'):Fz env env'
 | jnk {env env':List Vl} (i:Nat) (t:Fz (env.set i .jnk) env'):Fz env env'
 | fz2 {env env':List Vl} (i:Nat) (ps:List (Addr×List Yal)) (h:env[i]? = some (.own2 none ps)) (t:Fz (env.set i (.d (.list (ps.map λ p=>.list p.2)))) env'):Fz env env'
 | fzh {env env':List Vl} (i:Nat) (ps:List (Addr×List Yal)) (h:env[i]? = some (.own2 none ps)) (t:Fz (env.set i (.own (ps.map λ p=>.list p.2))) env'):Fz env env'
theorem At.fz1 (A:At C ex env σ H n) {i:Nat}{xs:List Yal}(h:env[i]? = some (.own xs)):∃ ex',At C ex' (env.set i (.d (.list xs))) σ H n:=by
 obtain ⟨a,vs,e,h1,h2,h3,h4,h5⟩:=A.ev.sl i _ h
 have ha:a∈Jq env σ i:=by unfold Jq;rw [h,e];exact Qu.mpr rfl
 have hsub:∀ b∈ex.filter (λ b=>decide (b≠a)),b∈ex:=λ b hb=>(Xw.mp hb).1
 have hin:∀ b∈ex,b≠a->b∈ex.filter (λ b=>decide (b≠a)):=λ b hb hn=>Xw.mpr ⟨hb,decide_eq_true hn⟩
 have hn:a∉ex.filter (λ b=>decide (b≠a)):=λ z=>(of_decide_eq_true (Xw.mp z).2) rfl
 have oo:∀ j b,b∈Jq (env.set i (.d (.list xs))) σ j->b∈Jq env σ j/\b≠a:=λ j b hb=>by
  by_cases hj:i=j
  . subst hj
    unfold Jq at hb
    rw [Q7 (Qv.mp h).1] at hb
    cases hb
  . have:Jq (env.set i (.d (.list xs))) σ j=Jq env σ j:=by unfold Jq;rw [Q1 hj]
    rw [this] at hb
    exact ⟨hb,λ z=>hj (A.sep i j a ha (by rw [<- z];exact hb))⟩
 refine ⟨ex.filter λ b=>decide (b≠a),⟨by rw [Qp];exact A.ev.len,λ j w ew=>?_,λ b hb=>hin b (A.ev.ch b hb) λ z=>h5 (by rw [<- z];exact hb),λ b hb=>A.ev.al b (hsub b hb),A.ev.inv⟩,λ b hb=>hin b (A.ex0 b hb) λ z=>?_,A.al0,λ j k b q1 q2=>A.sep j k b (oo j b q1).1 (oo k b q2).1,λ j b q=>A.new j b (oo j b q).1,A.kp,λ x hx=>Rep.mono hsub (A.held x hx)⟩
 . by_cases hj:i=j
   . subst hj
     rw [Q7 (Qv.mp h).1] at ew
     cases ew
     exact ⟨_,e,.list h1 hn h2 (Reps.mono hsub h3)⟩
   . rw [Q1 hj] at ew
     have q:=A.ev.sl j w ew
     have ne:∀ b∈Jq [w] [(σ[j]?).join] 0,b≠a:=λ b hb z=>hj (A.sep i j a ha (by rw [Jco ew,<- z];exact hb))
     cases w with
     | jnk=>trivial
     | jar=>exact q
     | tape=>exact q
     | d x=>obtain ⟨v,e,r⟩:=q;exact ⟨v,e,Rep.mono hsub r⟩
     | pin v x=>obtain ⟨e,r⟩:=q;exact ⟨e,Rep.mono hsub r⟩
     | own ys=>obtain ⟨b,ws,e,g1,g2,g3,g4,g5⟩:=q;exact ⟨b,ws,e,g1,g2,Reps.mono hsub g3,hin b g4 (ne b (by rw [e];exact Qk)),g5⟩
     | dct kvs=>obtain ⟨b,ws,e,g1,⟨g2,g3⟩,g4,g5⟩:=q;exact ⟨b,ws,e,g1,⟨g2,Reps.mono hsub g3⟩,hin b g4 (ne b (by rw [e];exact Qk)),g5⟩
     | own2 ks ps=>obtain ⟨b,e,q⟩:=q;exact ⟨b,e,q.h,q.z,q.k,q.nd,hin b q.m (ne b (by rw [e];exact Qk)),q.c,λ p hp=>let w:=q.i p hp;⟨hin p.1 w.m (ne p.1 (by rw [e];exact Qj _ (Qq.mpr ⟨p,hp,rfl⟩))),w.c,let ⟨vs,h1,h2,h3⟩:=w.h;⟨vs,h1,h2,Reps.mono hsub h3⟩⟩⟩
 . subst z
   exact A.al0 b hb (A.new i b ha)
theorem At.fz2 (A:At C ex env σ H n) {i:Nat}{ps:List (Addr×List Yal)}(h:env[i]? = some (.own2 none ps)):∃ ex',At C ex' (env.set i (.d (.list (ps.map λ p=>.list p.2)))) σ H n:=by
 obtain ⟨a,e,o⟩:=A.ev.sl i _ h
 have hL:∀ b∈a::ps.map (·.1),b∈Jq env σ i:=λ b hb=>by unfold Jq;rw [h,e];exact hb
 have hsub:∀ b∈ex.filter (λ b=>decide (b∉a::ps.map (·.1))),b∈ex:=λ b hb=>(Xw.mp hb).1
 have hin:∀ b∈ex,b∉a::ps.map (·.1)->b∈ex.filter (λ b=>decide (b∉a::ps.map (·.1))):=λ b hb hn=>Xw.mpr ⟨hb,decide_eq_true hn⟩
 have hn:∀ b∈a::ps.map (·.1),b∉ex.filter (λ b=>decide (b∉a::ps.map (·.1))):=λ b hb z=>(of_decide_eq_true (Xw.mp z).2) hb
 have hc:∀ b∈a::ps.map (·.1),b∉C.S.ch:=λ b hb=>by
  rcases Qd.mp hb with rfl | hb
  . exact o.c
  . obtain ⟨p,hp,rfl⟩:=Qq.mp hb;exact (o.i p hp).c
 have oo:∀ j b,b∈Jq (env.set i (.d (.list (ps.map λ p=>.list p.2)))) σ j->b∈Jq env σ j/\b∉a::ps.map (·.1):=λ j b hb=>by
  by_cases hj:i=j
  . subst hj
    unfold Jq at hb
    rw [Q7 (Qv.mp h).1] at hb
    cases hb
  . have:Jq (env.set i (.d (.list (ps.map λ p=>.list p.2)))) σ j=Jq env σ j:=by unfold Jq;rw [Q1 hj]
    rw [this] at hb
    exact ⟨hb,λ z=>hj (A.sep i j b (hL b z) hb)⟩
 refine ⟨ex.filter λ b=>decide (b∉a::ps.map (·.1)),⟨by rw [Qp];exact A.ev.len,λ j w ew=>?_,λ b hb=>hin b (A.ev.ch b hb) λ z=>hc b z hb,λ b hb=>A.ev.al b (hsub b hb),A.ev.inv⟩,λ b hb=>hin b (A.ex0 b hb) λ z=>?_,A.al0,λ j k b q1 q2=>A.sep j k b (oo j b q1).1 (oo k b q2).1,λ j b q=>A.new j b (oo j b q).1,A.kp,λ x hx=>Rep.mono hsub (A.held x hx)⟩
 . by_cases hj:i=j
   . subst hj
     rw [Q7 (Qv.mp h).1] at ew
     cases ew
     refine ⟨_,e,.list o.h (hn a Qk) (by unfold Wi;rw [Qc,Yar];have:=o.z;omega) ?_⟩
     have:∀ qs:List (Addr×List Yal),(∀ q∈qs,q∈ps)->Reps (ex.filter λ b=>decide (b∉a::ps.map (·.1))) H (qs.map λ p=>Ux p.2) (Wi qs):=by
      intro qs
      induction qs with
      | nil=>exact λ _=>.nil
      | cons q qs ih=>
       intro hq
       have hm:=hq q Qk
       obtain ⟨vs,g1,g2,g3⟩:=(o.i q hm).h
       exact .cons (.list g1 (hn q.1 (Qj _ (Qq.mpr ⟨q,hm,rfl⟩))) g2 (Reps.mono hsub g3)) (ih λ x hx=>hq x (Qj _ hx))
     exact this ps λ _ h=>h
   . rw [Q1 hj] at ew
     have q:=A.ev.sl j w ew
     have ne:∀ b∈Jq [w] [(σ[j]?).join] 0,b∉a::ps.map (·.1):=λ b hb z=>hj (A.sep i j b (hL b z) (by rw [Jco ew];exact hb))
     cases w with
     | jnk=>trivial
     | jar=>exact q
     | tape=>exact q
     | d x=>obtain ⟨v,e,r⟩:=q;exact ⟨v,e,Rep.mono hsub r⟩
     | pin v x=>obtain ⟨e,r⟩:=q;exact ⟨e,Rep.mono hsub r⟩
     | own ys=>obtain ⟨b,ws,e,g1,g2,g3,g4,g5⟩:=q;exact ⟨b,ws,e,g1,g2,Reps.mono hsub g3,hin b g4 (ne b (by rw [e];exact Qk)),g5⟩
     | dct kvs=>obtain ⟨b,ws,e,g1,⟨g2,g3⟩,g4,g5⟩:=q;exact ⟨b,ws,e,g1,⟨g2,Reps.mono hsub g3⟩,hin b g4 (ne b (by rw [e];exact Qk)),g5⟩
     | own2 ks qs=>obtain ⟨b,e,q⟩:=q;exact ⟨b,e,q.h,q.z,q.k,q.nd,hin b q.m (ne b (by rw [e];exact Qk)),q.c,λ p hp=>let w:=q.i p hp;⟨hin p.1 w.m (ne p.1 (by rw [e];exact Qj _ (Qq.mpr ⟨p,hp,rfl⟩))),w.c,let ⟨vs,h1,h2,h3⟩:=w.h;⟨vs,h1,h2,Reps.mono hsub h3⟩⟩⟩
 . exact A.al0 b hb (A.new i b (hL b z))
theorem At.fzh (A:At C ex env σ H n) {i:Nat}{ps:List (Addr×List Yal)}(h:env[i]? = some (.own2 none ps)):∃ ex',At C ex' (env.set i (.own (ps.map λ p=>.list p.2))) σ H n:=by
 obtain ⟨a,e,o⟩:=A.ev.sl i _ h
 have hL:∀ b∈ps.map (·.1),b∈Jq env σ i:=λ b hb=>by unfold Jq;rw [h,e];exact Qj _ hb
 have hsub:∀ b∈ex.filter (λ b=>decide (b∉ps.map (·.1))),b∈ex:=λ b hb=>(Xw.mp hb).1
 have hin:∀ b∈ex,b∉ps.map (·.1)->b∈ex.filter (λ b=>decide (b∉ps.map (·.1))):=λ b hb hn=>Xw.mpr ⟨hb,decide_eq_true hn⟩
 have hn:∀ b∈ps.map (·.1),b∉ex.filter (λ b=>decide (b∉ps.map (·.1))):=λ b hb z=>(of_decide_eq_true (Xw.mp z).2) hb
 have hc:∀ b∈ps.map (·.1),b∉C.S.ch:=λ b hb=>by
  obtain ⟨p,hp,rfl⟩:=Qq.mp hb;exact (o.i p hp).c
 have ha:a∈Jq env σ i:=by unfold Jq;rw [h,e];exact Qk
 have hna:a∉ps.map (·.1):=(Xs.mp o.nd).1
 have oo:∀ j b,b∈Jq (env.set i (.own (ps.map λ p=>.list p.2))) σ j->b∈Jq env σ j/\b∉ps.map (·.1):=λ j b hb=>by
  by_cases hj:i=j
  . subst hj
    unfold Jq at hb
    rw [Q7 (Qv.mp h).1,e] at hb
    have hb':b=a:=Qu.mp hb
    rw [hb']
    exact ⟨ha,hna⟩
  . have:Jq (env.set i (.own (ps.map λ p=>.list p.2))) σ j=Jq env σ j:=by unfold Jq;rw [Q1 hj]
    rw [this] at hb
    exact ⟨hb,λ z=>hj (A.sep i j b (hL b z) hb)⟩
 refine ⟨ex.filter λ b=>decide (b∉ps.map (·.1)),⟨by rw [Qp];exact A.ev.len,λ j w ew=>?_,λ b hb=>hin b (A.ev.ch b hb) λ z=>hc b z hb,λ b hb=>A.ev.al b (hsub b hb),A.ev.inv⟩,λ b hb=>hin b (A.ex0 b hb) λ z=>?_,A.al0,λ j k b q1 q2=>A.sep j k b (oo j b q1).1 (oo k b q2).1,λ j b q=>A.new j b (oo j b q).1,A.kp,λ x hx=>Rep.mono hsub (A.held x hx)⟩
 . by_cases hj:i=j
   . subst hj
     rw [Q7 (Qv.mp h).1] at ew
     cases ew
     refine ⟨a,Wi ps,e,o.h,by unfold Wi;rw [Qc,Yar];have:=o.z;omega,?_,hin a o.m hna,o.c⟩
     have:∀ qs:List (Addr×List Yal),(∀ q∈qs,q∈ps)->Reps (ex.filter λ b=>decide (b∉ps.map (·.1))) H (qs.map λ p=>Ux p.2) (Wi qs):=by
      intro qs
      induction qs with
      | nil=>exact λ _=>.nil
      | cons q qs ih=>
       intro hq
       have hm:=hq q Qk
       obtain ⟨vs,g1,g2,g3⟩:=(o.i q hm).h
       exact .cons (.list g1 (hn q.1 (Qq.mpr ⟨q,hm,rfl⟩)) g2 (Reps.mono hsub g3)) (ih λ x hx=>hq x (Qj _ hx))
     exact this ps λ _ h=>h
   . rw [Q1 hj] at ew
     have q:=A.ev.sl j w ew
     have ne:∀ b∈Jq [w] [(σ[j]?).join] 0,b∉ps.map (·.1):=λ b hb z=>hj (A.sep i j b (hL b z) (by rw [Jco ew];exact hb))
     cases w with
     | jnk=>trivial
     | jar=>exact q
     | tape=>exact q
     | d x=>obtain ⟨v,e,r⟩:=q;exact ⟨v,e,Rep.mono hsub r⟩
     | pin v x=>obtain ⟨e,r⟩:=q;exact ⟨e,Rep.mono hsub r⟩
     | own ys=>obtain ⟨b,ws,e,g1,g2,g3,g4,g5⟩:=q;exact ⟨b,ws,e,g1,g2,Reps.mono hsub g3,hin b g4 (ne b (by rw [e];exact Qk)),g5⟩
     | dct kvs=>obtain ⟨b,ws,e,g1,⟨g2,g3⟩,g4,g5⟩:=q;exact ⟨b,ws,e,g1,⟨g2,Reps.mono hsub g3⟩,hin b g4 (ne b (by rw [e];exact Qk)),g5⟩
     | own2 ks qs=>obtain ⟨b,e,q⟩:=q;exact ⟨b,e,q.h,q.z,q.k,q.nd,hin b q.m (ne b (by rw [e];exact Qk)),q.c,λ p hp=>let w:=q.i p hp;⟨hin p.1 w.m (ne p.1 (by rw [e];exact Qj _ (Qq.mpr ⟨p,hp,rfl⟩))),w.c,let ⟨vs,h1,h2,h3⟩:=w.h;⟨vs,h1,h2,Reps.mono hsub h3⟩⟩⟩
 . exact A.al0 b hb (A.new i b (hL b z))
theorem At.jnk (A:At C ex env σ H n) (i:Nat):At C ex (env.set i .jnk) σ H n:=by
 have oo:∀ j b,b∈Jq (env.set i .jnk) σ j->b∈Jq env σ j:=λ j b hb=>by
  by_cases hj:i=j
  . subst hj
    unfold Jq at hb
    by_cases hl:i<env.length
    . rw [Q7 hl] at hb;cases hb
    . rw [Qx (by rw [Qp];omega)] at hb;cases hb
  . have:Jq (env.set i .jnk) σ j=Jq env σ j:=by unfold Jq;rw [Q1 hj]
    rw [this] at hb
    exact hb
 refine A.bind ⟨by rw [Qp];exact A.ev.len,λ j w e=>?_,A.ev.ch,A.ev.al,A.ev.inv⟩ oo
 by_cases hj:i=j
 . subst hj
   have hl:i<env.length:=by
    have:=(Qv.mp e).1
    rw [Qp] at this;exact this
   rw [Q7 hl] at e
   cases e
   trivial
 . rw [Q1 hj] at e
   exact A.ev.sl j w e
theorem At.fz {env':List Vl}(f:Fz env env'):∀ {ex:List Addr},At C ex env σ H n->∃ ex',At C ex' env' σ H n:=by
 induction f with
 | refl=>exact λ A=>⟨_,A⟩
 | fz i xs h t ih=>exact λ A=>let ⟨_,B⟩:=A.fz1 h;ih B
 | jnk i t ih=>exact λ A=>ih (A.jnk i)
 | fz2 i ps h t ih=>exact λ A=>let ⟨_,B⟩:=A.fz2 h;ih B
 | fzh i ps h t ih=>exact λ A=>let ⟨_,B⟩:=A.fzh h;ih B
end
section
variable {te ta:TE}{ge ga:GE}{gn:GN}{t u tb:TS}{gt gu gb:GS}{i j:Nat}{K:Qb}
instance sv_next:SV Joo (λ G env n=>G.nx env n):=⟨λ {C G D} O {ex env σ H n} A h=>O.nx A h⟩
instance sv_never:SV Jrn (λ _ _ _=>False):=⟨λ {C G D} O {ex env σ H n} A h=>h⟩
abbrev Jzb (t u:GS):GS:=λ G env n=>t { G with nx:=λ env1 n1=>∃ env2,Fz env1 env2/\u G env2 n1 } env n
instance sv_seq [T:SV t gt] [U:SV u gu]:SV (Jae t u) (Jzb gt gu):=⟨λ {C G D} O {ex env σ H n} A h=>by
 refine T.sv (C:=C) (G:={ G with nx:=λ env1 n1=>∃ env2,Fz env1 env2/\gu G env2 n1 }) (D:={ D with nx:=u D }) ⟨λ {ex1 env1 σ1 H1 n1} A1 h1=>?_,O.bk,O.ct,O.rt,O.rtn,O.xc,O.r2⟩ A h
 obtain ⟨env2,f,h2⟩:=h1
 obtain ⟨ex2,A2⟩:=A1.fz f
 exact U.sv O A2 h2⟩
abbrev J2u (i:Nat) (g:GE):GS:=λ G env n=>g env n λ d n1=>G.nx (env.set i (.d d)) n1
abbrev Jxl (i:Nat) (g:GN):GS:=λ G env n=>g env n λ ds n1=>G.nx (env.set i (.own ds)) n1
instance sv_setN [E:NV te gn]:SV (Jdl te (Ba i)) (Jxl i gn):=⟨λ {C G D} O {ex env σ H n} A h=>E.nv A.ev h λ ds n1 a vs H1 h1 s1 ha hl hz r=>O.nx (A.own s1 ha hl hz r) h1⟩
instance (priority:=low) sv_set [E:EV true te ge]:SV (Jdl te (Ba i)) (J2u i ge):=⟨λ {C G D} O {ex env σ H n} A h=>E.ev A.ev h λ d n1 v H1 h1 s1 r=>O.nx ((A.step s1).put r) h1⟩
instance sv_setC {wi:TI}{k:Nat}{idx:List Nat}{g:TG}{tt:TT} [E:NV (Jbi wi k idx g tt te) gn]:SV (Bj i wi k idx g tt te) (Jxl i gn):=⟨λ {C G D} O {ex env σ H n} A h=>
 show Jbi wi k idx g tt te σ H (λ v H2=>D.nx (σ.set i (some v)) H2) from E.nv A.ev h λ ds n1 a vs H1 h1 s1 ha hl hz r=>O.nx (A.own s1 ha hl hz r) h1⟩
abbrev J2v (bd:GG) (g:GE):GS:=λ G env n=>g env n λ d n1=>bd d env λ env1=>G.nx env1 n1
instance (priority:=low) sv_asg {g:TG}{bd:GG}{ks:List Nat} [E:EV true te ge] [B:GV g bd ks]:SV (Jdl te g) (J2v bd ge):=⟨λ {C G D} O {ex env σ H n} A h=>E.ev A.ev h λ d n1 v H1 h1 s1 r=>
 B.gv (A.step s1).ev r h1 λ env' σ' p E' o _ _=>O.nx ((A.step s1).bind E' o) p⟩
abbrev J2w (g:GE):GS:=λ G env n=>g env n λ d n1=>G.rt d n1
abbrev J1g (g:GN):GS:=λ G env n=>g env n λ ds n1=>G.rtn ds n1
abbrev Jxm (i:Nat):GS:=λ G env n=>match env[i]? with
 | some (.d x)=>G.rt x n
 | some (.own xs)=>G.rtn xs n
 | _=>False
instance (priority:=low) sv_ret [E:EV true te ge]:SV (Jrm te) (J2w ge):=⟨λ {C G D} O {ex env σ H n} A h=>E.ev A.ev h λ d n1 v H1 h1 s1 r=>O.rt ⟨(A.step s1).kp,s1.2,Rep.mono A.ex0 r⟩ h1⟩
instance sv_retN [E:NV te gn]:SV (Jrm te) (J1g gn):=⟨λ {C G D} O {ex env σ H n} A h=>E.nv A.ev h λ ds n1 a vs H1 h1 s1 ha hl hz r=>
 O.rtn ⟨(A.step s1).kp,s1.2,A.free ha,vs,hl,hz,Reps.mono (λ b hb=>(Qd.mp hb).elim (λ e=>by rw [e];exact Qk) λ h=>Qj _ (A.ex0 b h)) r⟩ h1⟩
instance (priority:=high) sv_retV:SV (Jrm (Z4 i)) (Jxm i):=⟨λ {C G D} O {ex env σ H n} A h=>by
 unfold Jxm at h
 split at h
 . rename_i x e
   obtain ⟨v,ev,r⟩:=A.ev.sl i _ e
   exact ⟨v,Jo ev,O.rt ⟨A.kp,A.ev.inv,Rep.mono A.ex0 r⟩ h⟩
 . rename_i xs e
   obtain ⟨a,vs,ev,h1,h2,h3,h4,h5⟩:=A.ev.sl i _ e
   have ha:a∈Jq env σ i:=by unfold Jq;rw [e,ev];exact Qu.mpr rfl
   obtain ⟨ex',A'⟩:=A.fz1 e
   obtain ⟨v',ev',r'⟩:=A'.ev.sl i _ (Q7 (Qv.mp e).1)
   rw [ev] at ev'
   cases ev'
   have:=A.new i a ha
   refine ⟨_,Jo ev,O.rtn ⟨A.kp,A.ev.inv,this,vs,h1,h2,Reps.mono (λ b hb=>?_) h3⟩ h⟩
   rcases Qd.mp hb with rfl | hb
   . exact h4
   . exact A.ex0 b hb
 . exact h.elim⟩
abbrev J2x (c:GT) (t u:GS):GS:=λ G env n=>c env n λ b n1=>if b=true then t G env n1 else u G env n1
instance sv_if {c:TT}{gc:GT} [X:TV c gc] [T:SV t gt] [U:SV u gu]:SV (J0g c t u) (J2x gc gt gu):=⟨λ {C G D} O {ex env σ H n} A h=>X.tv A.ev h λ b n1 H1 h1 s1=>by
 cases b with
 | true=>exact T.sv O (A.step s1) h1
 | false=>exact U.sv O (A.step s1) h1⟩
abbrev J2y (gi:GN) (bd:GG) (gb:GS):GS:=λ G env n=>gi env n λ items n1=>∃ W:Nat->List Vl->Nat->Prop,W 0 env n1 /\
 (∀ i x env n,items[i]? = some x->W i env n->bd x env λ env1=>gb { G with nx:=W (i+1),ct:=W (i+1),bk:=G.nx } env1 n)/\∀ env n,W items.length env n->G.nx env n
instance sv_for {wi:TI}{gi:GN}{g:TG}{bd:GG}{ks:List Nat} [I:IV wi gi] [B:GV g bd ks] [T:SV tb gb]:SV (J0l wi g tb) (J2y gi bd gb):=⟨λ {C G D} O {ex env σ H n} A h=>I.iv A.ev h λ items n1 J hd H1 h1 s1 hr hit=>by
 obtain ⟨W,w0,wt,wd⟩:=h1
 have A1:=A.step s1
 have dropd:∀ {ex2 env2 σ2 H2 n2},At { C with held:=hd++C.held } ex2 env2 σ2 H2 n2->At C ex2 env2 σ2 H2 n2:=λ {_ _ _ _ _} B=>⟨B.ev,B.ex0,B.al0,B.sep,B.new,B.kp,λ h hh=>B.held h (Xk _ hh)⟩
 refine ⟨λ i m σ2 H2=>i<=items.length/\m=items.length-i/\∃ ex2 env2 n2,At { C with held:=hd++C.held } ex2 env2 σ2 H2 n2/\W i env2 n2,⟨_,Xl _,rfl,ex,env,n1,⟨A1.ev,A1.ex0,A1.al0,A1.sep,A1.new,A1.kp,λ h hh=>(Xh.mp hh).elim (hr h) (A1.held h)⟩,w0⟩,?_⟩
 rintro i m σ2 H2 ⟨hi,rfl,ex2,env2,n2,A2,w2⟩
 have IT:=hit ex2 H2 A2.ev.al λ h hh=>A2.held h (Xo _ hh)
 rcases Uw i items.length with hlt | hge
 . refine .inr ⟨(IT.2 i items[i] (Qf hlt)).1,λ σ' H'=>∃ ex3 env3 n3,At { C with held:=hd++C.held } ex3 env3 σ' H' n3/\W (i+1) env3 n3,λ σ' H' h=>⟨items.length-(i+1),by omega,hlt,rfl,h⟩,λ x H3 y=>?_⟩
   obtain ⟨kp3,rx⟩:=(IT.2 i items[i] (Qf hlt)).2 x H3 y
   have A3:=A2.step (Y0.new A2.ev.inv kp3)
   refine B.gv A3.ev rx (wt i _ env2 n2 (Qf hlt) w2) λ env' σ' p E' o _ _=>?_
   refine T.sv (C:={ C with held:=hd++C.held }) (G:={ G with nx:=W (i+1),ct:=W (i+1),bk:=G.nx }) (D:={ D with nx:=λ σ' H'=>∃ ex3 env3 n3,At { C with held:=hd++C.held } ex3 env3 σ' H' n3/\W (i+1) env3 n3,ct:=λ σ' H'=>∃ ex3 env3 n3,At { C with held:=hd++C.held } ex3 env3 σ' H' n3/\W (i+1) env3 n3,bk:=D.nx }) ⟨λ A4 w4=>⟨_,_,_,A4,w4⟩,λ A4 q4=>O.nx (dropd A4) q4,λ A4 w4=>⟨_,_,_,A4,w4⟩,λ R q=>O.rt ⟨R.kp,R.inv,R.r⟩ q,λ R q=>O.rtn ⟨R.kp,R.inv,R.fr,R.r⟩ q,O.xc,λ R q=>O.r2 ⟨R.kp,R.inv,R.fr,R.frs,R.o⟩ q⟩ (A3.bind E' o) p
 . have e:i=items.length:=by omega
   subst e
   exact .inl ⟨IT.1,O.nx (dropd A2) (wd _ _ w2)⟩⟩
abbrev Jzc (c:GT) (gb:GS):GS:=λ G env n=>∃ W:Nat->List Vl->Nat->Prop,(∃ m,W m env n)/\∀ m env n,W m env n->c env n λ b n1=>
 if b=true then gb { G with nx:=λ env1 n2=>∃ m',m'<m/\W m' env1 n2,ct:=λ env1 n2=>∃ m',m'<m/\W m' env1 n2,bk:=G.nx } env n1 else G.nx env n1
instance sv_while {c:TT}{gc:GT} [X:TV c gc] [T:SV tb gb]:SV (Jrp c tb) (Jzc gc gb):=⟨λ {C G D} O {ex env σ H n} A h=>by
 obtain ⟨W,⟨m0,w0⟩,wt⟩:=h
 refine ⟨λ m σ2 H2=>∃ ex2 env2 n2,At C ex2 env2 σ2 H2 n2/\W m env2 n2,⟨m0,ex,env,n,A,w0⟩,?_⟩
 rintro m σ2 H2 ⟨ex2,env2,n2,A2,w2⟩
 refine X.tv A2.ev (wt m env2 n2 w2) λ b n3 H3 h3 s3=>?_
 cases b with
 | true=>
  refine V3 ⟨λ σ' H'=>∃ m',m'<m/\∃ ex2 env2 n2,At C ex2 env2 σ' H' n2/\W m' env2 n2,λ σ' H' h=>h,?_⟩
  exact T.sv (C:=C) (G:={ G with nx:=λ env1 n2=>∃ m',m'<m/\W m' env1 n2,ct:=λ env1 n2=>∃ m',m'<m/\W m' env1 n2,bk:=G.nx }) (D:={ D with nx:=λ σ' H'=>∃ m',m'<m/\∃ ex2 env2 n2,At C ex2 env2 σ' H' n2/\W m' env2 n2,ct:=λ σ' H'=>∃ m',m'<m/\∃ ex2 env2 n2,At C ex2 env2 σ' H' n2/\W m' env2 n2,bk:=D.nx }) ⟨λ A4 ⟨m',hm,w4⟩=>⟨m',hm,_,_,_,A4,w4⟩,λ A4 q4=>O.nx A4 q4,λ A4 ⟨m',hm,w4⟩=>⟨m',hm,_,_,_,A4,w4⟩,O.rt,O.rtn,O.xc,O.r2⟩ (A2.step s3) h3
 | false=>exact Jc0 (O.nx (A2.step s3) h3)⟩
theorem At.at_own {C:Cv}{ex:List Addr}{env:List Vl}{σ:L2.St}{H:Hp}{n:Nat}(A:At C ex env σ H n) {i:Nat}{xs:List Yal}(e:env[i]? = some (.own xs)):∃ a vs,(σ[i]?).join=some (.ref a)/\H a=some (.lst vs)/\vs.length<=sizeLine/\Reps ex H xs vs:=by
 obtain ⟨a,vs,ev,h1,h2,h3,h4,h5⟩:=A.ev.sl i _ e
 exact ⟨a,vs,ev,h1,h2,h3⟩
abbrev J1h (i:Nat) (g:GE):GS:=λ G env n=>match env[i]? with
 | some (.own xs)=>g env n λ d n1=>xs.length<sizeLine/\G.nx (env.set i (.own (xs++[d]))) n1
 | _=>False
theorem Jlr {C:Cv}{ex:List Addr}{env:List Vl}{σ:L2.St}{H H1:Hp}{n n1:Nat}{i:Nat}{xs:List Yal}{a:Addr}{vs:List V}(A:At C ex env σ H n) (e:env[i]? = some (.own xs)) (ev:(σ[i]?).join=some (.ref a)) (h1:H a=some (.lst vs)) (r:Reps ex H xs vs) (s:Y0 C.S n1 H H1):H1 a=some (.lst vs)/\Reps ex H1 xs vs:=by
 have ha:a∈Jq env σ i:=by unfold Jq;rw [e,ev];exact Qu.mpr rfl
 exact ⟨s.1 _ _ h1 (Jbw A.ev ha).2.2,A.ev.reps s r⟩
instance sv_app [E:EV true te ge]:SV (Jw6 (tBM K "list" Joz (Z4 i) (Yo te Ja2))) (J1h i ge):=⟨λ {C G D} O {ex env σ H n} A h=>by
 unfold J1h at h
 split at h
 . rename_i xs e
   obtain ⟨a,vs,ev,h1,h2,h3⟩:=A.at_own e
   refine ⟨_,Jo ev,.inl ⟨rfl,_,SqL.of h1⟩,E.ev A.ev h λ d n1 v H1 hd s1 r=>?_⟩
   obtain ⟨g1,g2⟩:=Jlr A e ev h1 h3 s1
   have l:=g2.length
   exact ⟨a,vs,v,rfl,rfl,g1,by rw [<- l];exact hd.1,O.nx ((A.step s1).re e ev (Reps.append g2 (.cons r .nil)) (by rw [Xn,U0,<- l];exact hd.1)) hd.2⟩
 . exact h.elim⟩
theorem Jg1 {ex:List Addr}{H:Hp}{d:Yal}{v:V}(r:Rep ex H d v):∀ {ds:List Yal}{vs:List V}(k:Nat),Reps ex H ds vs->Reps ex H (ds.set k d) (vs.set k v)
 | _,_,_,.nil=>.nil
 | _,_,0,.cons _ t=>.cons r t
 | _,_,k+1,.cons q t=>.cons q (Jg1 r k t)
abbrev J1i (i:Nat) (gx ge:GE):GS:=λ G env n=>ge env n λ d n1=>match env[i]? with
 | some (.own xs)=>gx env n1 λ k n2=>(match k with
  | .int z=>∃ m,ixN xs.length z=some m/\G.nx (env.set i (.own (xs.set m d))) n2
  | _=>False)
 | _=>False
instance sv_setI {tx:TE}{gx:GE} [E:EV true te ge] [X:EV true tx gx]:SV (Jdl te (Jmy (Z4 i) tx Jgo)) (J1i i gx ge):=⟨λ {C G D} O {ex env σ H n} A h=>by
 refine E.ev A.ev h λ d n1 v H1 hd s1 r=>?_
 have A1:=A.step s1
 split at hd
 . rename_i xs e
   obtain ⟨a,vs,ev,h1,h2,h3⟩:=A1.at_own e
   refine ⟨_,Jo ev,X.ev A1.ev hd λ k n2 kv H2 hk s2 rk=>?_⟩
   obtain ⟨g1,g2⟩:=Jlr A1 e ev h1 h3 s2
   have l:=g2.length
   cases rk with
   | int z=>
    obtain ⟨m,hm,q⟩:=hk
    exact ⟨a,vs,z,m,rfl,rfl,g1,by rw [<- l];exact hm,O.nx ((A1.step s2).re e ev (Jg1 (A1.ev.rep s2 r) m g2) (by rw [Qp];exact h2)) q⟩
   | none=>exact hk.elim
   | obj=>exact hk.elim
   | dctf=>exact hk.elim
   | bool=>exact hk.elim
   | str=>exact hk.elim
   | tuple=>exact hk.elim
   | list=>exact hk.elim
 . exact hd.elim⟩
end
theorem Bo.len {S:Src}{ex:List Addr}{H:Hp}:∀ {as:List Vl}{vs:List V},Bo S ex H as vs->as.length=vs.length
 | [],[],_=>rfl
 | _::_,_::_,h=>by rw [X9,X9,Bo.len h.2]
 | [],_::_,h=>h.elim
 | _::_,[],h=>h.elim
theorem Bo.get {S:Src}{ex:List Addr}{H:Hp}:∀ {as:List Vl}{vs:List V}{i:Nat}{w:Vl},Bo S ex H as vs->as[i]? = some w->∃ v,vs[i]? = some v/\SlR S ex H w (some v)
 | [],[],_,_,_,e=>by simp at e
 | _::_,v::_,0,_,h,e=>by simp at e;subst e;exact ⟨v,rfl,h.1⟩
 | _::_,_::_,i+1,_,h,e=>by simpa using Bo.get (i:=i) h.2 (by simpa using e)
 | [],_::_,_,_,h,_=>h.elim
 | _::_,[],_,_,h,_=>h.elim
noncomputable def Jev:Vl->Bool
 | .own _ | .dct _ | .own2 _ _=>false
 | _=>true
noncomputable def Jdu (N:List Str) (as:List Vl):List Vl:=as++Qo (N.length-as.length) .jnk
theorem Jdv {S:Src}{ex:List Addr}{H:Hp}{as:List Vl}{vs:List V}{n:Nat}{N:List Str}(r:Bo S ex H as vs) (hp:as.all Jev=true) (hc:∀ a∈S.ch,a∈ex) (al:Alc ex H) (iv:S.inv n H):At ⟨S,ex,H,[]⟩ ex (Jdu N as) (start N vs) H n:=by
 have l:=r.len
 have no:∀ i,Jq (Jdu N as) (start N vs) i=[]:=λ i=>by
  unfold Jq Jdu
  cases e:(as++Qo (N.length-as.length) Vl.jnk)[i]? with
  | none=>rfl
  | some w=>
   have:w∈as++Qo (N.length-as.length) Vl.jnk:=Xm e
   have hw:Jev w=true:=by
    rcases Xh.mp this with h | h
    . exact Uv.mp hp w h
    . rw [(J5q.mp h).2];rfl
   cases w with
   | own _=>cases hw
   | dct _=>cases hw
   | own2 _ _=>cases hw
   | _=>rfl
 refine ⟨⟨?_,λ i w e=>?_,hc,al,iv⟩,λ a h=>h,al,λ i j a h=>?_,λ i a h=>?_,.refl,λ h hh=>by cases hh⟩
 . unfold Jdu L2.start
   rw [Xn,Xn,X2,X2,Qc,l];exact Ql _
 . unfold Jdu at e
   by_cases hi:i<as.length
   . rw [J3a hi] at e
     obtain ⟨v,hv,sr⟩:=r.get e
     have:(start N vs)[i]? = some (some v):=by
      unfold L2.start
      rw [J3a (by rw [Qc,<- l];exact hi),Qm,hv];rfl
     rw [this]
     exact sr
   . rw [J3o (J32 hi)] at e
     have:w = .jnk:=(J5q.mp (Xm e)).2
     subst this
     trivial
 . rw [no] at h;cases h
 . rw [no] at h;cases h
noncomputable def Jxn (P:Yal->Nat->Prop):VEnds:={ nx:=λ _ n=>P .none n,rt:=P,rtn:=λ ds n=>P (.list ds) n,rt2:=λ xss n=>P (.list (xss.map .list)) n }
noncomputable def Jxo (P:List Yal->Nat->Prop):VEnds:={ nx:=λ _ _=>False,rt:=λ _ _=>False,rtn:=P }
theorem Jsx {C:Cv}{ps:List (Addr×List Yal)}{n:Nat}{a:Addr}{H:Hp}(al:Alc C.ex0 C.H0) (R:Ret2 C ps n a H):Rep C.ex0 H (.list ((ps.map (·.2)).map .list)) (.ref a):=by
 refine .list R.o.h (al.nm R.fr) (by unfold Wi;rw [Qc,Yar];have:=R.o.z;omega) ?_
 have:∀ qs:List (Addr×List Yal),(∀ q∈qs,q∈ps)->Reps C.ex0 H ((qs.map (·.2)).map .list) (Wi qs):=by
  intro qs
  induction qs with
  | nil=>exact λ _=>.nil
  | cons q qs ih=>
   intro hq
   have hm:=hq q Qk
   obtain ⟨vs,g1,g2,g3⟩:=(R.o.i q hm).h
   exact .cons (.list g1 (al.nm (R.frs q hm)) g2 (Reps.mono (λ b hb=>Xk _ hb) g3)) (ih λ x hx=>hq x (Qj _ hx))
 exact this ps λ _ h=>h
theorem J6 {sp:GSp}{gs:GS}{ts:TS}{N:List Str}{vs:List V}{H:Hp}{Q:VK}{E:XK} [T:SV ts gs] (h:Jn sp vs H Q E) (hs:∀ as n P,sp as n P->as.all Jev=true/\gs (Jxn P) (Jdu N as) n):ts { nx:=λ _ H'=>Q .non H',rt:=Q } (start N vs) H:=by
 obtain ⟨S,ex,as,n,P,r,hc,al,iv,p,q⟩:=h
 obtain ⟨hp,g⟩:=hs as n P p
 refine T.sv (C:=⟨S,ex,H,[]⟩) (G:=Jxn P) ⟨λ {ex' env σ H' n'} A h=>?_,λ _ h=>h.elim,λ _ h=>h.elim,λ R h=>?_,λ {ds n' a H'} R h=>?_,λ _ _ h=>h.elim,λ {ps n' a H'} R h=>?_⟩ (Jdv r hp hc al iv) g
 . exact q _ _ _ _ h ⟨A.kp,A.ev.inv⟩ .none
 . exact q _ _ _ _ h ⟨R.kp,R.inv⟩ R.r
 . obtain ⟨ws,h1,h2,h3⟩:=R.r
   exact q _ _ _ _ h ⟨R.kp,R.inv⟩ (.list h1 (al.nm R.fr) h2 (Reps.sub h3))
 . exact q _ _ _ _ h ⟨R.kp,R.inv⟩ (Jsx al R)
theorem Zw {sp:GSn}{gs:GS}{ts:TS}{N:List Str}{vs:List V}{H:Hp}{Q:VK}{E:XK} [T:SV ts gs] (h:Y3 sp vs H Q E) (hs:∀ as n P,sp as n P->as.all Jev=true/\gs (Jxo P) (Jdu N as) n):ts { nx:=λ _ H'=>Q .non H',rt:=Q } (start N vs) H:=by
 obtain ⟨S,ex,as,n,P,r,hc,al,iv,p,q⟩:=h
 obtain ⟨hp,g⟩:=hs as n P p
 refine T.sv (C:=⟨S,ex,H,[]⟩) (G:=Jxo P) ⟨λ _ h=>h.elim,λ _ h=>h.elim,λ _ h=>h.elim,λ _ h=>h.elim,λ {ds n' a H'} R h=>?_,λ _ _ h=>h.elim,λ _ h=>h.elim⟩ (Jdv r hp hc al iv) g
 obtain ⟨ws,h1,h2,h3⟩:=R.r
 exact q _ _ _ _ _ h ⟨R.kp,R.inv⟩ R.fr h1 h2 h3
theorem Yd {sp:GSp}{k:Nat}(h:∀ as n P,sp as n P->as.length=k):∀ vs H Q E,Jn sp vs H Q E->vs.length=k:=λ vs H Q E ⟨S,ex,as,n,P,r,_,_,_,p,_⟩=>by rw [<- r.len];exact h _ _ _ p
theorem Wd {sp:GSn}{k:Nat}(h:∀ as n P,sp as n P->as.length=k):∀ vs H Q E,Y3 sp vs H Q E->vs.length=k:=λ vs H Q E ⟨S,ex,as,n,P,r,_,_,_,p,_⟩=>by rw [<- r.len];exact h _ _ _ p
section
variable {turn:Yal->Nat->(Option Yal->Nat->Prop)->Prop}{items:List Yal}{n:Nat}{Q:List Yal->Nat->Prop}
end
theorem Fz.eq {a b:List Vl}(h:a=b):Fz a b:=h ▸ .refl
noncomputable abbrev Jnn (ns:List Int):Yal:=.list (ns.map .int)
theorem J1j {S:Src}{ex:List Addr}{H:Hp}{a b:Vl}{vs:List V}(h:Bo S ex H [a,b] vs):∃ u v,vs=[u,v]/\SlR S ex H a (some u)/\SlR S ex H b (some v):=by
 match vs,h with
 | [u,v],h=>exact ⟨u,v,rfl,h.1,h.2.1⟩
 | [],h=>exact h.elim
 | [_],h=>exact h.2.elim
 | _::_::_::_,h=>exact h.2.2.elim
theorem Yi {α:Type}{xs:List α}{i:Int}{d:α}(h0:0<=i) (h:xs[i.toNat]? = some d):atI xs i=some d:=by
 have:=(Qv.mp h).1
 unfold atI
 rw [Jc2 h0 (by omega)]
 exact h
class SQ (te:TE) (g:outParam GN):Prop where
 sq:∀ {S:Src} {ex:List Addr} {env:List Vl} {σ:L2.St} {H:Hp} {n:Nat} {Q:VK} {P:List Yal->Nat->Prop},Ev S ex env σ H n->g env n P->(∀ ds n' a vs H',P ds n'->Y0 S n' H H'->a∉S.ch->H' a=some (.lst vs)->vs.length<=sizeLine->Reps ex H' ds vs->Q (.ref a) H')->te σ H Q
abbrev gSq (i:Nat):GN:=λ env n Q=>match env[i]? with
 | some (.own xs)=>Q xs n
 | some (.d (.list xs))=>Q xs n
 | _=>False
instance (priority:=high) sq_var {i:Nat}:SQ (Z4 i) (gSq i):=⟨λ {S ex env σ H n Q P} E h k=>by
 unfold gSq at h
 split at h
 . rename_i xs e
   obtain ⟨a,vs,ev,h1,h2,h3,h4,h5⟩:=E.sl i _ e
   exact ⟨_,Jo ev,k _ _ _ _ _ h (.refl E.inv) h5 h1 h2 h3⟩
 . rename_i xs e
   obtain ⟨v,ev,r⟩:=E.sl i _ e
   cases r with
   | list e1 m z rs=>exact ⟨_,Jo ev,k _ _ _ _ _ h (.refl E.inv) (λ z=>m (E.ch _ z)) e1 z rs⟩
 . exact h.elim⟩
instance sq_nv {te:TE}{g:GN} [A:NV te g]:SQ te g:=⟨λ {S ex env σ H n Q P} E h k=>A.nv E h λ ds n1 a vs H1 h1 s1 ha hl hz r=>k _ _ _ _ _ h1 s1 (λ z=>S.dom E.inv a z ha) hl hz (Reps.sub r)⟩
abbrev J1k (ga gb:GN):GN:=λ env n Q=>ga env n λ xs n1=>gb env n1 λ ys n2=>xs.length+ys.length<=sizeLine/\Q (xs++ys) n2
instance (priority:=high) nv_catS {ta tb:TE}{ga gb:GN} [A:SQ ta ga] [B:SQ tb gb]:NV (tOp J0o ta tb) (J1k ga gb):=⟨λ {S ex env σ H n Q P} E h k=>
 A.sq E h λ xs n1 a vs H1 h1 s1 na ha hz r1=>B.sq (E.step s1) h1 λ ys n2 b us H2 h2 s2 nb hb hz2 r2=>by
  have r1':=(E.step s1).reps s2 r1
  have l1:=r1'.length
  have l2:=r2.length
  refine ⟨a,b,vs,us,rfl,rfl,s2.1 _ _ ha na,hb,by rw [<- l1,<- l2];exact h2.1,λ p hp=>?_⟩
  obtain ⟨c1,c2,c3⟩:=Bp E (s1.trans s2) hp (Reps.append r1' r2)
  exact k _ _ _ _ _ h2.2 c1 c2 Jf (by rw [Xn,<- l1,<- l2];exact h2.1) c3⟩
abbrev J2z (g:GN) (gl gh:List Vl->Nat->(Option Int->Nat->Prop)->Prop):GN:=λ env n Q=>g env n λ xs n1=>gl env n1 λ lo n2=>gh env n2 λ hi n3=>Q (Jds xs lo hi) n3
instance (priority:=high) nv_slS {K:Qb}{te:TE}{g:GN}{tl th:TO}{gl gh:List Vl->Nat->(Option Int->Nat->Prop)->Prop} [A:SQ te g] [B:OPV tl gl] [C:OPV th gh]:NV (tSl (J0n K) te tl th) (J2z g gl gh):=⟨λ {S ex env σ H n Q P} E h k=>
 A.sq E h λ xs n1 a vs H1 h1 s1 na ha hz r1=>B.op (E.step s1) h1 λ lo n2 H2 h2 s2=>C.op (E.step (s1.trans s2)) h2 λ hi n3 H3 h3 s3=>by
  have r3:=(E.step s1).reps (s2.trans s3) r1
  refine ⟨a,vs,rfl,SqL.of ((s2.trans s3).1 _ _ ha na),λ p hp=>?_⟩
  obtain ⟨c1,c2,c3⟩:=Bp E ((s1.trans s2).trans s3) hp (Jsv r3 lo hi)
  exact k _ _ _ _ _ h3 c1 c2 Jf (Xj (Jfj _ _ _) hz) c3⟩
section
variable {X:Cx}
end
section
variable {K:Qb}{H:Hp}{ex:List Addr}
end
noncomputable def fl (u:Nat) (f:Nat->Int):List Yal:=(Qg u).map λ i=>.int (f i)
theorem Jj0 (u:Nat) (f:Nat->Int):(fl u f).length=u:=by unfold fl;rw [Qc,Qz]
theorem Jsy {u:Nat}{f:Nat->Int}{i:Nat}(h:i<u):(fl u f)[i]? = some (.int (f i)):=by grind [fl]
theorem Zj {a b:Int}(ha:a.natAbs<2^9000) (hb:b.natAbs<2^9000):IntMulOk a b:=by
 have la:a.natAbs.log2<9000:=by
  by_cases h:a.natAbs=0
  . rw [h];decide
  . exact (J6n h).mpr ha
 have lb:b.natAbs.log2<9000:=by
  by_cases h:b.natAbs=0
  . rw [h];decide
  . exact (J6n h).mpr hb
 unfold IntMulOk
 intro h
 rw [X3,X3] at h
 have h3:=h.2
 have e1:J5r a<=9001:=by unfold J5r;split<;>omega
 have e2:J5r b<=9001:=by unfold J5r;split<;>omega
 have hbl:20000<=bitsLine:=by decide +kernel
 unfold Builtin.Int.intTooBig at h3
 simp at h3
 omega
theorem Yp {ws:List Way}{k:Int}(h0:0<=k) (h1:k<ws.length):Jj ws k∈ws:=by grind [Jj]
noncomputable abbrev Jew (U:Int) (f:Nat->Int):Yal:=.tuple (fl U.toNat f)
theorem Jc6 {ws:List Way}{k:Int}(h0:0<=k) (h1:k<ws.length):atI (ws.map Y2) k=some (Y2 (Jj ws k)):=by
 refine Yi h0 ?_
 rw [Qm,Qf (by omega)]
 unfold Jj
 rw [Qi,Qf (by omega)]
 rfl
theorem Jvx {α:Type}{xs:List α}{x:α}(h:xs≠[]) (e:xs.getLast? = some x):atI xs (-1)=some x:=by
 have hl:0<xs.length:=J69.mpr h
 unfold atI ixN
 rw [if_neg (by omega),if_pos (by omega)]
 show xs[(-1+(xs.length:Int)).toNat]? = some x
 rw [show (-1+(xs.length:Int)).toNat=xs.length-1 by omega,<- J84]
 exact e
theorem Bs (xs ys:List Yal):(Br xs ys).length=min xs.length ys.length:=by unfold Br;exact J5p
theorem J1l (U:Int):(Qo U.toNat [Qn 0]).flatten=fl U.toNat λ _=>0:=by
 unfold fl
 induction U.toNat with
 | zero=>rfl
 | succ n ih=>rw [List.replicate_succ',J4r,Xd,List.flatten_append,ih];rfl
theorem Ve {turn:Yal->Nat->(Option Yal->Nat->Prop)->Prop}{u n:Nat}{Q:List Yal->Nat->Prop}{e:Nat->Yal}(f:Nat->Yal) (h:∀ i,i<u->∀ n K,K (some (f i)) n->turn (e i) n K) (q:Q ((Qg u).map f) n):Jgy turn ((Qg u).map e) n Q:=by
 have key:∀ (l:List Nat) (n:Nat) (Q:List Yal->Nat->Prop),(∀ i∈l,i<u)->Q (l.map f) n->Jgy turn (l.map e) n Q:=by
  intro l
  induction l with
  | nil=>intro n Q _ q;exact q
  | cons x xs ih=>intro n Q hl q;exact h x (hl x Qk) _ _ (ih _ _ (λ i hi=>hl i (Qj _ hi)) q)
 exact key _ _ _ (λ i hi=>Q5.mp hi) q
theorem Jls {c:Bool}{A B:Prop}(h:c=true) (a:A):if c=true then A else B:=by rw [if_pos h];exact a
theorem Jg2 {c:Bool}{A B:Prop}(h:c=false) (b:B):if c=true then A else B:=by grind
theorem Jg3 {i j:Int}{Q:Yal->Prop}(h:Q (.bool (decide (i=j)))):fEq false (.int i) (.int j) Q:=h
theorem Jsz (ns:List Int):J04 (Jnn ns) (.list []):=⟨by rw [U6];exact Jfl ns,rfl,Xj (Nat.min_le_right _ _) (by decide)⟩
theorem Js0 (ns:List Int):Uu (Jnn ns) (.list [])=ns.isEmpty:=by cases ns<;>rfl
theorem Jxp {ns:List Int}{Q:Yal->Prop}(h1:ns≠[]->Q (.bool true)) (h2:ns=[]->Q (.bool false)):Jvt true (Jnn ns) (.list []) Q:=by
 refine ⟨Jsz ns,?_⟩
 rw [Js0]
 cases ns with
 | nil=>exact h2 rfl
 | cons _ _=>exact h1 (by simp)
noncomputable def Js1:VEnds:={ nx:=λ _ _=>False,rt:=λ d _=>d = .bool true,rtn:=λ _ _=>False }
end My
namespace L2
structure FunD (K:Qb) (x qual:Str) (st:Stmt) (f:Addr) (fd:Yaw):Prop where
 ex:∃ (oc:Yak) (od:Option Addr) (dV kV doc pm:Yak) (an:Option Addr) (cdv ct:Yak) (osl:Array (Option Yak)),
  fd=Xy x qual (Z9 st) (Zm st) (Jd st) dV kV doc pm an cdv ct/\K.lookup f=some ⟨oc,od,.func fd,osl⟩/\J3b K cdv qual=true
 kp:Uf K (.ref f)=true
theorem FunD.ok {P:Yap}{w:Yao}{K:Qb}{mg:Str->Option Yak}{base:Heap}{x qual:Str}{st:Stmt}{f:Addr}{fd:Yaw}{N ps:List Str}{k:Nat}{sp:Sp}(F:FunD K x qual st f fd) (S:FnScope N ps (Jd st)) (len:∀ vs H Q E,sp vs H Q E->vs.length=ps.length)
 (hbody:∀ (cdv:Yak) (A:Yaq) (outer:List Env) (s:Yam) (H:Hp) (vs:List V) (Q:VK) (E:XK),Room k (A.deeper (envOfC qual (Jd st) s.heap.objs.size f cdv))->sp vs H Q E ->
  ∃ t,PSs (By CX0 P w K mg base N qual (Jd st) f cdv A outer s H E).nox (Zm st) t/\t { nx:=λ _ H'=>Q .non H',rt:=Q } (start N vs) H):FnOk P w K mg base CX0 (k+1) f fd ps sp:=by
 obtain ⟨oc,od,dV,kV,doc,pm,an,cdv,ct,osl,rfl,lk,hcd⟩:=F.ex
 refine Jr5 lk hcd S len λ A outer s H vs Q E hr hsp=>?_
 obtain ⟨t,h,q⟩:=hbody cdv A outer s H vs Q E hr hsp
 exact ⟨t,h.nox,q⟩
section
variable {X:Cx}{x:Str}{e:Expr}{es:List Expr}{p pos:Pos}{t:TA}{k:Nat}{ps:List Str}{sp:Sp}{i:Int}
end
end L2
namespace My
open L2
theorem Jqu {t u:GS}{G:VEnds}{env:List Vl}{n:Nat}(Mid:List Vl->Nat->Prop) (h1:∀ N:List Vl->Nat->Prop,(∀ e k,Mid e k->N e k)->t { G with nx:=N } env n) (h2:∀ e k,Mid e k->∃ e2,Fz e e2/\u G e2 k):Jzb t u G env n:=h1 _ h2
abbrev Jxq:G1:=λ ds Q=>match ds with
 | [d]=>Jsg d/\Q (.str d.shown)
 | _=>False
instance cs_repr:CS (λ xs H Q=>∃ ex d v,xs=[v]/\Rep ex H d v/\Jsg d/\Q (.str d.shown) H) Jxq:=⟨λ {H xs ds Q P} r h k=>by
 unfold Jxq at h
 split at h
 . cases r with
   | cons r1 t=>cases t;exact ⟨_,_,_,rfl,r1,h.1,k _ _ h.2 λ _=>.str _⟩
 . exact h.elim⟩
theorem Jxr {s:Str}{Q:Yal->Prop}(h:Q (.bool false)):fEq true (.str s) (.str s) Q:=by
 unfold fEq
 simp only [eqS,decide_true]
 exact h
abbrev GSx:=List Vl->Nat->(Yal->Nat->Prop)->(Addr->Nat->Prop)->Prop
def Jbx (sp:GSx):Sp:=λ vs H Q E=>∃ (S:Src) (ex:List Addr) (as:List Vl) (n:Nat) (P:Yal->Nat->Prop) (X:Addr->Nat->Prop),Bo S ex H as vs/\(∀ a∈S.ch,a∈ex)/\Alc ex H/\S.inv n H/\sp as n P X/\(∀ d n' v H',P d n'->Y0 S n' H H'->Rep ex H' d v->Q v H')/\∀ c n' H',X c n'->Y0 S n' H H'->E (.ref c) none H'
abbrev J1m (i:Nat) (E:XK) (sp:GSx) (ga:GA):GS:=λ G env n=>ga env n λ as n1=>sp as n1 (λ d n2=>G.nx (env.set i (.d d)) n2) λ c n2=>G.xc E c n2
instance (priority:=high) sv_setX {i:Nat}{sp:GSx}{E:XK}{t:TA}{gt:GA} [T:AV true t gt]:SV (Jdl (Jdm (Jbx sp) [] E t) (Ba i)) (J1m i E sp gt):=⟨λ {C G D} O {ex env σ H n} A h=>
 T.av A.ev h λ as n1 vs H1 h1 s1 r1=>by
  rw [Ur]
  exact ⟨C.S,ex,as,n1,_,_,r1,A.ev.ch,(A.step s1).ev.al,s1.2,h1,λ d n' v H' p s2 r=>O.nx ((A.step (s1.trans s2)).put r) p,λ c n' H' x s2=>O.xc (A.step (s1.trans s2)).kp s2.2 x⟩⟩
noncomputable def Jxs (E:XK) (P:Yal->Nat->Prop) (X:Addr->Nat->Prop):VEnds:={ nx:=λ _ n=>P .none n,rt:=P,rtn:=λ ds n=>P (.list ds) n,xc:=λ E' c n=>E'=E/\X c n }
theorem Jno {sp:GSx}{gs:GS}{ts:TS}{N:List Str}{vs:List V}{H:Hp}{Q:VK}{E:XK} [T:SV ts gs] (h:Jbx sp vs H Q E) (hs:∀ as n P X,sp as n P X->as.all Jev=true/\gs (Jxs E P X) (Jdu N as) n):ts { nx:=λ _ H'=>Q .non H',rt:=Q } (L2.start N vs) H:=by
 obtain ⟨S,ex,as,n,P,X,r,hc,al,iv,p,q,qx⟩:=h
 obtain ⟨hp,g⟩:=hs as n P X p
 refine T.sv (C:=⟨S,ex,H,[]⟩) (G:=Jxs E P X) ⟨λ {ex' env σ H' n'} A h=>?_,λ _ h=>h.elim,λ _ h=>h.elim,λ R h=>?_,λ {ds n' a H'} R h=>?_,λ {E' c n' H'} kp iv' h=>?_,λ {ps n' a H'} R h=>h.elim⟩ (Jdv r hp hc al iv) g
 . exact q _ _ _ _ h ⟨A.kp,A.ev.inv⟩ .none
 . exact q _ _ _ _ h ⟨R.kp,R.inv⟩ R.r
 . obtain ⟨ws,h1,h2,h3⟩:=R.r
   exact q _ _ _ _ h ⟨R.kp,R.inv⟩ (.list h1 (al.nm R.fr) h2 (Reps.sub h3))
 . obtain ⟨rfl,x⟩:=h
   exact qx _ _ _ x ⟨kp,iv'⟩
theorem Ji1 {sp:GSx}{k:Nat}(h:∀ as n P X,sp as n P X->as.length=k):∀ vs H Q E,Jbx sp vs H Q E->vs.length=k:=λ vs H Q E ⟨S,ex,as,n,P,X,r,_,_,_,p,_,_⟩=>by rw [<- r.len];exact h _ _ _ _ p
theorem Jg4 {ex:List Addr}{H:Hp}:∀ bs:List Bool,Reps ex H (bs.map .bool) (bs.map V.bl)
 | []=>.nil
 | b::r=>.cons (.bool b) (Jg4 r)
theorem J1n (xs:List Yal) (u:Nat) (hl:xs.length=u) (h:∀ x∈xs,∃ i:Int,x = .int i):∃ f:Nat->Int,xs=fl u f:=by
 subst hl
 induction xs with
 | nil=>exact ⟨λ _=>0,rfl⟩
 | cons x xs ih=>
  obtain ⟨i,rfl⟩:=h x Qk
  obtain ⟨f,hf⟩:=ih λ y hy=>h y (Qj _ hy)
  refine ⟨λ k=>match k with | 0=>i | k+1=>f k,?_⟩
  unfold fl at hf ⊢
  rw [X9,J85,Xb,Q0]
  exact congrArg (Qn i :: ·) hf
noncomputable def putF (f:Nat->Int) (k:Nat) (v:Int):Nat->Int:=λ i=>if i=k then v else f i
theorem Jnp (u:Nat) (f:Nat->Int) (k:Nat) (v:Int):(fl u f).set k (.int v)=fl u (putF f k v):=by
 apply Xq
 intro i
 unfold fl putF
 rw [J37,Qm,Qm]
 by_cases hk:k=i
 . subst hk
   rw [if_pos rfl,Qc,Qz]
   by_cases hu:k<u
   . rw [if_pos hu,X4 hu]
     simp
   . rw [if_neg hu,Qx (by simp;omega)]
     rfl
 . rw [if_neg hk]
   by_cases hu:i<u
   . rw [X4 hu]
     simp [show ¬ i=k from λ e=>hk e.symm]
   . rw [Qx (by simp;omega)]
     rfl
theorem Jj1 {turn:Yal->Nat->(Option Yal->Nat->Prop)->Prop}{u n:Nat}{Q:List Yal->Nat->Prop}{e:Nat->Yal}(p:Nat->Bool) (f:Nat->Yal) (h:∀ i,i<u->∀ n K,(p i=true->K (some (f i)) n)->(p i=false->K none n)->turn (e i) n K) (q:Q (((Qg u).filter p).map f) n):Jgy turn ((Qg u).map e) n Q:=by
 have key:∀ (l:List Nat) (n:Nat) (Q:List Yal->Nat->Prop),(∀ i∈l,i<u)->Q ((l.filter p).map f) n->Jgy turn (l.map e) n Q:=by
  intro l
  induction l with
  | nil=>intro n Q _ q;exact q
  | cons x xs ih=>
   intro n Q hl q
   refine h x (hl x Qk) _ _ (λ hp=>?_) (λ hp=>?_)
   . rw [J86 hp] at q
     exact ih _ _ (λ i hi=>hl i (Qj _ hi)) q
   . rw [J87 (by rw [hp];exact Q4)] at q
     exact ih _ _ (λ i hi=>hl i (Qj _ hi)) q
 exact key _ _ _ (λ i hi=>Q5.mp hi) q
def Jg5:GSp:=λ as n Q=>∃ (R U:Int) (ws:List Way) (k:Int),as=[.d (J3 R U ws),.d (.int k)]/\(0<=k/\k<ws.length)/\Q (.bool true) n
def Jex:GSp:=λ as n Q=>∃ (x a b:Int),as=[.d (.int x),.d (.int a),.d (.int b)]/\Q (.bool (decide (a<=x)&&decide (x<=b))) n
def Jj2:GSp:=λ as n Q=>∃ (x:Int),as=[.d (.int x)]/\Q (.bool true) n
theorem Jzd {x:Yal}{Q:Yal->Prop}(h:x.canLay0=true) (hd:x.depth<=50) (q:Q (.bool false)):Jvt true x x Q:=⟨⟨h,h,Xj (Nat.min_le_left _ _) hd⟩,by rw [PySem.SeqAt.eqv_refl _ h];exact q⟩
theorem Jqv (u:Nat) (f:Nat->Int):fl u f=((Qg u).map f).map .int:=by unfold fl;rw [Q0];rfl
theorem Jj3 {k i:Nat}{y:Yal}(h:(Jif 0 k)[i]? = some y):i<k/\y = .int i:=by grind [Jif]
def Jby:GSp:=λ as n Q=>∃ many:Int,as=[.tape,.d (.int many)]/\n<2^40/\0<many/\many<2^9000/\∀ r:Int,0<=r->r<many->Q (.int r) (n+1)
instance scal_draw:Scal Jby:=⟨λ {as n P} h=>by
 obtain ⟨many,e,hn,h0,h1,q⟩:=h
 exact ⟨many,e,hn,h0,h1,λ r r0 r1=>⟨rfl,q r r0 r1⟩⟩⟩
theorem Js2:∀ (vs:List V) (H:Hp) (Q:VK) (E:XK),Jn Jby vs H Q E->Jnh vs H Q E:=λ vs H Q E h=>by
 obtain ⟨S,ex,as,n,P,r,hc,al,iv,⟨many,rfl,hn,h0,h1,q⟩,k⟩:=h
 obtain ⟨u,v,rfl,⟨p,c,rfl,eu⟩,⟨w,ew,rw'⟩⟩:=J1j r
 cases eu
 cases ew
 cases rw'
 exact ⟨p,c,n,many,rfl,iv,hn,h0,h1,λ r H' r0 r1 J' kp=>k _ _ _ _ (q r r0 r1) ⟨kp,J'⟩ (.int r)⟩
theorem Jnq {K:Qb}{N:List Str}{vs:List V}{H:Hp}{Q:VK}{E E':XK}{rest:TS}{gs:GS} [T:SV rest gs] (hN:2<=N.length) (h:Jlh K vs H Q E) (hs:gs Js1 (.jnk :: .tape::Qo (N.length-2) .jnk) 0) :
 Jae (Jdl (Jdm (Jjt K) [] E' (Yo (Z4 0) Ja2)) (Ba 1)) rest { nx:=λ _ H'=>Q .non H',rt:=Q } (L2.start N vs) H:=by
 obtain ⟨a,ns,rfl,hS,hlen,q⟩:=h
 have est:L2.start N [V.ref a]=some (V.ref a)::none::Qo (N.length-2) none:=by
  unfold L2.start
  rw [show N.length-[V.ref a].length=(N.length-2)+1 by simp;omega]
  rfl
 rw [est]
 refine ⟨_,rfl,a,ns,rfl,hS,hlen,λ p c H1 k1 _ _ J=>?_⟩
 have al:Alc [p,c] H1:=λ b hb z=>J.fresh z hb
 have no:∀ i,Jq (.jnk :: .tape::Qo (N.length-2) .jnk) (some (V.ref a)::some (V.ref p)::Qo (N.length-2) none) i=[]:=λ i=>by
  unfold Jq
  cases e:((.jnk :: .tape::Qo (N.length-2) .jnk:List Vl))[i]? with
  | none=>rfl
  | some w=>
   have hm:=Xm e
   have:w = .jnk\/w = .tape:=by
    rcases Qd.mp hm with h | h
    . exact .inl h
    . rcases Qd.mp h with h | h
      . exact .inr h
      . exact .inl (J5q.mp h).2
   rcases this with rfl | rfl<;>rfl
 refine T.sv (C:=⟨Src.tape p c,[p,c],H1,[]⟩) (G:=Js1) ⟨λ _ h=>h.elim,λ _ h=>h.elim,λ _ h=>h.elim,λ {d n v H'} R h=>?_,λ _ h=>h.elim,λ _ _ h=>h.elim,λ _ h=>h.elim⟩ (ex:=[p,c]) (env:=.jnk :: .tape::Qo (N.length-2) .jnk) (σ:=some (V.ref a)::some (V.ref p)::Qo (N.length-2) none) ⟨⟨?_,λ i w e=>?_,λ b h=>h,al,J⟩,λ b h=>h,al,λ i j b h=>?_,λ i b h=>?_,.refl,λ x hx=>by cases hx⟩ hs
 . cases h
   have r:=R.r
   cases r
   exact q _
 . simp
 . match i with
   | 0=>cases e;trivial
   | 1=>cases e;exact ⟨p,c,rfl,rfl⟩
   | i+2=>
    have:w = .jnk:=(J5q.mp (Xm (by simpa using e))).2
    subst this
    trivial
 . rw [no] at h;cases h
 . rw [no] at h;cases h
def Jf6:GSp:=λ as n Q=>as=[.tape]/\n<2^39/\∀ (r:Int) (m:Nat),-9<=r->r<=9->m<=n+2->Q (.int r) m
instance scal_gainV:Scal Jf6:=⟨λ {as n P} h=>⟨h.1,h.2.1,λ r m r0 r1 hm=>⟨rfl,h.2.2 r m r0 r1 hm⟩⟩⟩
def Jdw:GSp:=λ as n Q=>∃ U:Int,as=[.tape,.d (.int U)]/\n<2^38/\0<=U/\U<=6/\∀ (f:Nat->Int) (m:Nat),(∀ i,i<U.toNat->-9<=f i/\f i<=9)->m<=n+12->Q (Jew U f) m
def Jey:GSn:=λ as n Q=>∃ R U:Int,as=[.tape,.d (.int R),.d (.int U)]/\n<2^37/\(1<=R/\R<=12)/\(1<=U/\U<=6)/\∀ (ws:List Way) (m:Nat),(∀ w∈ws,WayOk R U w)->ws.length<=24->m<=n+60->Q (ws.map Y2) m
def Jj4:GSp:=λ as n Q=>∃ mr mu mw:Int,as=[.tape,.d (.tuple [.int mr,.int mu,.int mw])]/\n<2^30/\(1<=mr/\mr<=12)/\(1<=mu/\mu<=6)/\(0<=mw/\mw<=36)/\∀ (R U:Int) (ws:List Way) (m:Nat),BookOk R U ws->R<=mr->U<=mu->m<=n+2000->Q (J3 R U ws) m
theorem Jg6 {turn:Yal->Nat->(Option Yal->Nat->Prop)->Prop}{items:List Yal}{n:Nat}{Q:List Yal->Nat->Prop}(c B:Nat) (R:Yal->Prop) (h:∀ x∈items,∀ n K,n<=B->(∀ y n',R y->n'<=n+c->K (some y) n')->turn x n K) (hB:n+c*items.length<=B) (q:∀ ys n',ys.length=items.length->(∀ y∈ys,R y)->n'<=n+c*items.length->Q ys n'):Jgy turn items n Q:=by
 induction items generalizing n Q with
 | nil=>exact q [] n rfl (λ y hy=>by cases hy) (J4q _ _)
 | cons x xs ih=>
  rw [X9,Nat.mul_add] at hB
  refine h x Qk _ _ (by omega) λ y n' hy hn=>ih (λ z hz=>h z (Qj _ hz)) (by omega) λ ys n2 hl hr hn2=>q _ _ (by simp [hl]) (λ z hz=>?_) (by rw [X9,Nat.mul_add];omega)
  rcases Qd.mp hz with rfl | hz
  . exact hy
  . exact hr z hz
noncomputable def Jfo (a b U:Int) (f:Nat->Int):Way:=⟨a,b,(Qg U.toNat).map f⟩
theorem Jg7 (a b U:Int) (f:Nat->Int):Uy [.int a,.int b,Jew U f]=Y2 (Jfo a b U f):=by
 unfold Y2 Jfo Jew
 rw [Jqv]
theorem Jg8 {R a b U:Int}{f:Nat->Int}(ha:0<=a/\a<R) (hb:0<=b/\b<R) (hU:0<=U) (hf:∀ i,i<U.toNat->-99<=f i/\f i<=99):WayOk R U (Jfo a b U f):=by
 refine ⟨ha.1,ha.2,hb.1,hb.2,?_,λ x hx=>?_⟩
 . show (((Qg U.toNat).map f).length:Int)=U
   rw [Qc,Qz];omega
 . obtain ⟨i,hi,rfl⟩:=Qq.mp hx
   exact hf i (Q5.mp hi)
theorem Jze (ys:List Yal) (u:Nat) {lo hi:Int}(hl:ys.length=u) (h:∀ y∈ys,∃ i:Int,y = .int i/\lo<=i/\i<=hi):∃ f:Nat->Int,ys=fl u f/\∀ i,i<u->lo<=f i/\f i<=hi:=by
 obtain ⟨f,rfl⟩:=J1n ys u hl λ y hy=>(h y hy).imp λ i hi=>hi.1
 refine ⟨f,rfl,λ i hi=>?_⟩
 have hm:Qn (f i)∈fl u f:=by unfold fl;exact Qq.mpr ⟨i,Q5.mpr hi,rfl⟩
 obtain ⟨j,e,h1⟩:=h _ hm
 cases e
 exact h1
theorem Jj5 {u:Nat}{f:Nat->Int}{k:Nat}{v lo hi:Int}(h:∀ i,i<u->lo<=f i/\f i<=hi) (hv:lo<=v/\v<=hi):∀ i,i<u->lo<=putF f k v i/\putF f k v i<=hi:=by grind [putF]
abbrev J20 (g:GE):GT:=λ env n Q=>g env n λ d n1=>match d with
 | .list xs=>Q (!xs.isEmpty) n1
 | .tuple xs=>Q (!xs.isEmpty) n1
 | _=>False
theorem Jg9 {ex:List Addr}{H:Hp}{ds:List Yal}{vs:List V}(r:Reps ex H ds vs):ds.isEmpty=vs.isEmpty:=by
 cases r<;>rfl
def J1o (K:Qb) (te:TE):TT:=λ σ H Q=>te σ H λ x H'=>∃ k,Jyi K x H' k/\Q k H'
theorem Jzf {X:Cx}{a:Expr}{ta:TE}(ha:PE X a ta) (he:∀ whole,isTrue a X.env whole=(do let v <- whole;Yaz a.pos;holding [v] (truthy v))):PT X a (J1o X.K ta):=Jrz ha he
instance tv_tru {K:Qb}{te:TE}{g:GE} [A:EV false te g]:TV (J1o K te) (J20 g):=⟨λ {S ex env σ H n Q P} E h k=>A.ev E h λ d n1 v H1 h1 s1 r1=>by
 cases r1 with
 | list e m z rs=>exact ⟨_,.inl ⟨_,SqL.of e,rfl⟩,by rw [<- Jg9 rs];exact k _ _ _ h1 s1⟩
 | tuple e m z rs=>exact ⟨_,.inr (.inl ⟨_,SqT.of e,rfl⟩),by rw [<- Jg9 rs];exact k _ _ _ h1 s1⟩
 | none=>exact h1.elim
 | obj=>exact h1.elim
 | dctf=>exact h1.elim
 | bool=>exact h1.elim
 | str=>exact h1.elim
 | int=>exact h1.elim⟩
noncomputable abbrev MT:Int:=10^100-1
theorem Jdx (n:Nat) (d:Yal):(Qo n [d]).flatten=Qo n d:=by (intros;simp_all)
mutual
noncomputable def nd:Yal->Nat
 | .tuple ds=>1+nds ds
 | _=>0
noncomputable def nds:List Yal->Nat
 | []=>0
 | d::r=>nd d+nds r
end
mutual
noncomputable def smI:Yal->Bool
 | .int i=>decide (i<=MT)
 | .tuple ds=>Jzg ds
 | .list ds=>Jzg ds
 | _=>true
noncomputable def Jzg:List Yal->Bool
 | []=>true
 | d::r=>smI d&&Jzg r
end
end My
namespace HT
section
variable {prog:Yap}{w:Yao}{A:Yaq}{E:Yak->Yam->Prop}{s:Yam}
end
end HT
namespace L2
section
variable {X:Cx}{e st:Expr}{te:TE}{ts:TO}{pos p2:Pos}
end
end L2
namespace My
open L2
section
variable {b:Bool}{te:TE}{g:GE}
end
noncomputable def gdB (d:Yal):Bool:=d.canLay0&&(d.intsShort 101&&(d.showable&&smI d))
theorem Js3 {s t:Str}{Q:Yal->Prop}(h:Q (.bool (decide (s=t)))):fEq false (.str s) (.str t) Q:=h
section
variable {d:Yal}{k n g:Int}(hg:gdB d=true) (gk:gdB (.int k)=true) (wk:(Qn k).weight<=10) (gn:gdB (.int n)=true) (wn:(Qn n).weight<=10) (gg:gdB (.int g)=true) (wg:(Qn g).weight<=333)
include hg gk wk gn wn gg wg
end
end My
namespace L2
section
variable {X:Cx}
end
end L2
namespace My
open L2
section
variable {S:Src}{ex L:List Addr}{H H1 H2:Hp}{w:Vl}{o:Option V}
theorem SlR.adds:∀ {L:List Addr},(∀ b∈L,H b=none)->SlR S ex H w o->SlR S (L++ex) H w o
 | [],_,r=>r
 | l::L,h,r=>SlR.add (h l Qk) (SlR.adds (λ b hb=>h b (Qj _ hb)) r)
theorem Jlt {je:List Vl}{σ0 σ':L2.St}{n1 n2 k:Nat}(E:Ev S ex je σ0 H1 n1) (hL:∀ b∈L,H1 b=none) (kp:Kp (L++S.ch) H1 H2) (h2:∀ b∈L,H2 b≠none) (iv:S.inv n2 H2) (hj:∀ j:Nat,j<k->je[j]? = none\/je[j]? = some .jnk) (hs:∀ j:Nat,k<=j->σ'[j]? = σ0[j]?) (hz:σ'.length = σ0.length):Ev S (L++ex) je σ' H2 n2:=by
 have hc:∀ a∈S.ch,a∈L++ex:=λ a h=>Xk _ (E.ch a h)
 have kx:Kp (L++ex) H1 H2:=kp.mono λ b hb=>(Xh.mp hb).elim (λ h=>Xo _ h) λ h=>hc b h
 have st:∀ {a:Addr} {u:HO},H1 a=some u->a∉S.ch->H2 a=some u:=λ {a u} e nc=>kp _ _ e λ z=>(Xh.mp z).elim (λ h=>by rw [hL a h] at e;cases e) nc
 refine ⟨by rw [hz];exact E.len,λ j w e=>?_,hc,λ a ha=>?_,iv⟩
 . by_cases hjk:j<k
   . rcases hj j hjk with h | h
     . rw [h] at e;cases e
     . rw [h] at e;cases e;trivial
   . rw [hs j (J32 hjk)]
     have h:=SlR.adds hL (E.sl j w e)
     cases w with
     | jnk=>trivial
     | jar=>exact h
     | tape=>exact h
     | d x=>obtain ⟨v,e,r⟩:=h;exact ⟨v,e,r.keep kx⟩
     | pin v x=>obtain ⟨e,r⟩:=h;exact ⟨e,r.keep kx⟩
     | own xs=>obtain ⟨a,vs,e,h1,h2,h3,h4,h5⟩:=h;exact ⟨a,vs,e,st h1 h5,h2,h3.keep kx,h4,h5⟩
     | dct kvs=>obtain ⟨a,kws,e,h1,⟨h2,h3⟩,h4,h5⟩:=h;exact ⟨a,kws,e,st h1 h5,⟨h2,h3.keep kx⟩,h4,h5⟩
     | own2 ks ps=>obtain ⟨a,e,q⟩:=h;exact ⟨a,e,st q.h q.c,q.z,q.k,q.nd,q.m,q.c,λ p hp=>let w:=q.i p hp;⟨w.m,w.c,let ⟨vs,h1,h2,h3⟩:=w.h;⟨vs,st h1 w.c,h2,h3.keep kx⟩⟩⟩
 . rcases Xh.mp ha with ha | ha
   . exact h2 a ha
   . by_cases hac:a∈S.ch
     . exact S.dom iv a hac
     . intro z
       cases e:H1 a with
       | none=>exact E.al a ha e
       | some u=>rw [st e hac] at z;cases z
end
abbrev GN2:=List Vl->Nat->(List (List Yal)->Nat->Prop)->Prop
class N2 (te:TE) (g:outParam GN2):Prop where
 n2:∀ {S:Src} {ex:List Addr} {env:List Vl} {σ:L2.St} {H:Hp} {n:Nat} {Q:VK} {P:List (List Yal)->Nat->Prop},Ev S ex env σ H n->g env n P ->
  (∀ (ps:List (Addr×List Yal)) (n':Nat) (a:Addr) (H':Hp),P (ps.map (·.2)) n'->Y0 S n' H H'->H a=none->(∀ p∈ps,H p.1=none)->Own2 S (a::ps.map (·.1)++ex) H' none ps a->Q (.ref a) H')->te σ H Q
def Jj6 (f:Yal->Nat->(List Yal->Nat->Prop)->Prop):List Yal->Nat->(List (List Yal)->Nat->Prop)->Prop
 | [],n,Q=>Q [] n
 | x::xs,n,Q=>f x n λ d n1=>Jj6 f xs n1 λ ys n2=>Q (d::ys) n2
abbrev Jj7 (bd:GG) (gn:GN) (env:List Vl):Yal->Nat->(List Yal->Nat->Prop)->Prop:=λ x n Q=>bd x env λ env'=>gn env' n Q
abbrev Jzh (gi:GN) (k:Nat) (idx ks:List Nat) (bd:GG) (gn:GN):GN2:=λ env n Q=>gi env n λ items n1=>(ks.all (λ i=>decide (i<k))=true/\items.length<=1000000/\items.all Vn=true)/\Jj6 (Jj7 bd gn (Jc5 k idx env)) items n1 Q
instance n2_comp {wi:TI}{gi:GN}{k:Nat}{idx ks:List Nat}{g:TG}{bd:GG}{te:TE}{gn:GN} [I:IC wi gi] [G:GV g bd ks] [A:NV te gn]:N2 (Jbi wi k idx g Jf4 te) (Jzh gi k idx ks bd gn):=⟨λ {S ex env σ H n Q P} E h kk=>by
 refine I.ic E h λ items n1 J H1 hc s1 hit l hl=>?_
 obtain ⟨⟨hk,hz,hsc⟩,hc⟩:=hc
 have hs:sizeLine=16777216:=Yar
 have E1:=Jgz (E.step s1) k idx
 have lch:l∉S.ch:=λ z=>S.dom s1.2 l z hl
 have hkk:∀ i∈ks,i<k:=λ i hi=>of_decide_eq_true (Uv.mp hk i hi)
 refine ⟨λ i m σ' H2=>i<=items.length/\m=items.length-i/\∃ (n2:Nat) (ps:List (Addr×List Yal)),Jj6 (Jj7 bd gn (Jc5 k idx env)) (items.drop i) n2 (λ ys n'=>P (ps.map (·.2)++ys) n')/\Kp (l::S.ch) H1 H2/\H2 l=some (.lst (Wi ps))/\ps.length<=i/\(∀ p∈ps,H1 p.1=none)/\(l::ps.map (·.1)).Nodup/\(∀ p∈ps,In2 S (l::ps.map (·.1)++ex) H2 p)/\S.inv n2 H2/\(∀ j:Nat,k<=j->σ'[j]? = (Zh k idx σ)[j]?)/\σ'.length=(Zh k idx σ).length,
  ⟨items.length,Xl _,rfl,n1,[],by simpa using hc,Kp.new hl _,Jf,Ql _,(λ p hp=>by cases hp),by simp,(λ p hp=>by cases hp),S.keep s1.2 λ b _ o' e=>Kp.new (ex:=[]) hl _ _ _ e (by simp),λ _ _=>rfl,rfl⟩,?_⟩
 rintro i m σ' H2 ⟨hi,rfl,n2,ps,hcm,kp,h2l,hvl,hno,hnd,hin,iv2,hsl,hln⟩
 have hL:∀ b∈l::ps.map (·.1),H1 b=none:=λ b hb=>by
  rcases Qd.mp hb with rfl | hb
  . exact hl
  . obtain ⟨p,hp,rfl⟩:=Qq.mp hb
    exact hno p hp
 have hL2:∀ b∈l::ps.map (·.1),H2 b≠none:=λ b hb=>by
  rcases Qd.mp hb with rfl | hb
  . rw [h2l];exact Xu _
  . obtain ⟨p,hp,rfl⟩:=Qq.mp hb
    obtain ⟨vs,h1,_⟩:=(hin p hp).h
    rw [h1];exact Xu _
 have E2:Ev S (l::ps.map (·.1)++ex) (Jc5 k idx env) σ' H2 n2:=Jlt E1 hL (kp.mono λ b hb=>(Qd.mp hb).elim (λ e=>by rw [e];exact Xo _ Qk) λ h=>Xk _ h) hL2 iv2 Jg0 hsl hln
 have IT:=hit l H2 hl kp λ a ha=>(Qd.mp ha).elim (λ e=>by rw [e,h2l];exact Xu _) λ h=>E2.al a (Xk _ h)
 rcases Uw i items.length with hlt | hge
 . refine .inr ⟨(IT.2 i items[i] (Qf hlt)).1,λ x H3 y=>?_⟩
   obtain ⟨kp3,rx⟩:=(IT.2 i items[i] (Qf hlt)).2 x H3 y
   have rx':=Jgw (Uv.mp hsc items[i] (Xt hlt)) rx (l::ps.map (·.1)++ex)
   rw [J67 hlt] at hcm
   have st3:Y0 S n2 H2 H3:=Y0.new E2.inv kp3
   have E3:=E2.step st3
   refine G.gv E3 rx' hcm λ env' σ2 ht E4 _ hs2' hl2=>tv_noTest.tv E4 (P:=λ c n'=>c=true/\n'=n2) ⟨rfl,rfl⟩ λ c n4 H4 h4 s4=>?_
   obtain ⟨rfl,rfl⟩:=h4
   have hs2:∀ j:Nat,k<=j->σ2[j]? = (Zh k idx σ)[j]?:=λ j hj=>by
    rw [hs2' j λ z=>by have:=hkk j z;omega];exact hsl j hj
   refine A.nv (E4.step s4) ht λ ds n5 a vs H5 h5 s5 ha hla hzv r5=>?_
   have s24:=st3.trans s4
   have s25:=s24.trans s5
   have k5:Kp S.ch H2 H5:=s25.1
   have h5l:H5 l=some (.lst (Wi ps)):=k5 _ _ h2l lch
   have an:a∉l::ps.map (·.1)++ex:=λ z=>(E4.step s4).al a z ha
   have ac:a∉S.ch:=λ z=>an (E4.ch a z)
   have ha1:H1 a=none:=by
    cases e:H1 a with
    | none=>rfl
    | some u=>
     have e2:=kp a u e λ z=>(Qd.mp z).elim (λ q=>an (by rw [q];exact Xo _ Qk)) ac
     rw [s24.1 a u e2 ac] at ha;cases ha
   have al:a≠l:=λ e=>an (by rw [e];exact Xo _ Qk)
   have msub:∀ b∈l::(ps++[(a,ds)]).map (·.1)++ex,b∈a::(l::ps.map (·.1)++ex):=λ b hb=>by
    simp only [Xd,Xb,J30,J38,Qd,Xh,Ub,or_false] at hb ⊢
    rcases hb with h | (h | h) | h
    . exact .inr (.inl h)
    . exact .inr (.inr (.inl h))
    . exact .inl h
    . exact .inr (.inr (.inr h))
   have mup:∀ b∈l::ps.map (·.1)++ex,b∈l::(ps++[(a,ds)]).map (·.1)++ex:=λ b hb=>by
    simp only [Xd,Xb,J30,J38,Qd,Xh,Ub,or_false] at hb ⊢
    rcases hb with h | h | h
    . exact .inl h
    . exact .inr (.inl (.inl h))
    . exact .inr (.inr h)
   have lin:l∈l::(ps++[(a,ds)]).map (·.1)++ex:=Xo _ Qk
   refine ⟨Wi ps,h5l,by unfold Wi;rw [Qc];omega,_,(?_:items.length-(i+1)<_),hlt,rfl,n5,ps++[(a,ds)],?_,?_,?_,?_,?_,?_,?_,?_,hs2,hl2.trans hln⟩
   . omega
   . simpa using h5
   . exact (kp.trans (k5.mono λ b hb=>Qj _ hb)).trans (Kp.at Qk _)
   . rw [Jf];unfold Wi;rw [Xd];rfl
   . rw [Xn,U0];omega
   . intro p hp
     rcases Xh.mp hp with hp | hp
     . exact hno p hp
     . rw [Qu.mp hp];exact ha1
   . rw [Xd,<- J38]
     refine J88.mpr ⟨hnd,by simp,?_⟩
     intro b hb c hc e
     have e':b=a:=e.trans (Qu.mp hc)
     exact an (Xo _ (e'▸hb))
   . intro p hp
     rcases Xh.mp hp with hp | hp
     . have w:=hin p hp
       obtain ⟨us,g1,g2,g3⟩:=w.h
       have pl:p.1≠l:=λ e=>(Xs.mp hnd).1 (by rw [<- e];exact Qq.mpr ⟨p,hp,rfl⟩)
       refine ⟨mup p.1 w.m,w.c,us,by rw [Je pl];exact k5 _ _ g1 w.c,g2,?_⟩
       have q4:Reps (l::ps.map (·.1)++ex) H4 p.2 us:=g3.keep (s24.1.mono E2.ch)
       have q5:Reps (a::(l::ps.map (·.1)++ex)) H5 p.2 us:=(Reps.add ha q4).keep (s5.1.mono λ b hb=>Qj _ (E2.ch b hb))
       exact (Reps.mono msub q5).keep (Kp.at lin _)
     . rw [Qu.mp hp]
       refine ⟨?_,ac,vs,by rw [Je al];exact hla,hzv,(Reps.mono msub r5).keep (Kp.at lin _)⟩
       simp
   . exact S.keep s25.2 λ b hb o e=>by rw [Je (λ z=>lch (by rw [<- z];exact hb))];exact e
 . have e:i=items.length:=by omega
   subst e
   rw [J68] at hcm
   have hcm':P (ps.map (·.2)) n2:=by simpa [Jj6] using hcm
   refine .inl ⟨IT.1,kk ps n2 l H2 hcm' ⟨λ b o e nb=>kp b o (s1.1 b o e nb) λ z=>(Qd.mp z).elim (λ e2=>by rw [e2,s1.free hl] at e;cases e) nb,iv2⟩ (s1.free hl) (λ p hp=>s1.free (hno p hp)) ⟨h2l,by omega,(λ _ h=>by cases h),hnd,Xo _ Qk,lch,hin⟩⟩⟩
theorem Rep.adds {ex:List Addr}{H:Hp}{d:Yal}{v:V}:∀ {L:List Addr},(∀ b∈L,H b=none)->Rep ex H d v->Rep (L++ex) H d v
 | [],_,r=>r
 | l::L,h,r=>Rep.add (h l Qk) (Rep.adds (λ b hb=>h b (Qj _ hb)) r)
section
variable {C:Cv}{ex:List Addr}{env:List Vl}{σ:L2.St}{H H':Hp}{n m:Nat}
theorem Jj8 {i:Nat}{ks:Option (List Key)}{ps:List (Addr×List Yal)}{a b:Addr}(h:b∈Jq (env.set i (.own2 ks ps)) (σ.set i (some (.ref a))) i):b∈a::ps.map (·.1):=by
 unfold Jq at h
 split at h
 . rename_i e1 e2
   have:=B9 e1
   cases this
 . rename_i e1 e2
   have:=B9 e1
   cases this
 . rename_i c e1 e2
   have e3:(σ.set i (some (.ref a)))[i]? = some (some (.ref c)):=Jo e2
   have h3:=B9 e3
   cases h3
   have h4:=B9 e1
   cases h4
   exact h
 . cases h
theorem At.own2 (A:At C ex env σ H n) {i:Nat}{ks:Option (List Key)}{ps:List (Addr×List Yal)}{a:Addr}(s:Y0 C.S m H H') (ha:H a=none) (hp:∀ p∈ps,H p.1=none) (q:Own2 C.S (a::ps.map (·.1)++ex) H' ks ps a) :
 At C (a::ps.map (·.1)++ex) (env.set i (.own2 ks ps)) (σ.set i (some (.ref a))) H' m:=by
 have hL:∀ b∈a::ps.map (·.1),H b=none:=λ b hb=>by
  rcases Qd.mp hb with rfl | hb
  . exact ha
  . obtain ⟨p,h,rfl⟩:=Qq.mp hb
    exact hp p h
 have hL2:∀ b∈a::ps.map (·.1),H' b≠none:=λ b hb=>by
  rcases Qd.mp hb with rfl | hb
  . rw [q.h];exact Xu _
  . obtain ⟨p,h,rfl⟩:=Qq.mp hb
    obtain ⟨vs,h1,_⟩:=(q.i p h).h
    rw [h1];exact Xu _
 have hc:∀ b∈C.S.ch,b∈a::ps.map (·.1)++ex:=λ b h=>Xk _ (A.ev.ch b h)
 have E1:Ev C.S (a::ps.map (·.1)++ex) env σ H' m:=by
  refine ⟨A.ev.len,λ j w e=>(SlR.adds hL (A.ev.sl j w e)).kp hc s.1,hc,λ b hb=>?_,s.2⟩
  rcases Xh.mp hb with hb | hb
  . exact hL2 b hb
  . exact A.ev.al.step s b hb
 refine ⟨E1.put ⟨a,rfl,q⟩,λ b h=>Xk _ (A.ex0 b h),A.al0,λ j k b h1 h2=>?_,λ j b h=>?_,A.kp.trans s.1,λ h hh=>(Rep.adds hL (A.held h hh)).keep (s.1.mono hc)⟩
 . by_cases hj:i=j
   . subst hj
     have e:=hL b (Jj8 h1)
     by_cases hk:i=k
     . exact hk
     . rw [Vd hk] at h2
       exact absurd e (Jbw A.ev h2).1
   . rw [Vd hj] at h1
     by_cases hk:i=k
     . subst hk
       exact absurd (hL b (Jj8 h2)) (Jbw A.ev h1).1
     . rw [Vd hk] at h2
       exact A.sep j k b h1 h2
 . by_cases hj:i=j
   . subst hj
     exact A.free (hL b (Jj8 h))
   . rw [Vd hj] at h
     exact A.new j b h
theorem Ji2 {i:Nat}{ks:Option (List Key)}{ps qs:List (Addr×List Yal)}(h:env[i]? = some (.own2 ks ps)) (e:qs.map (·.1)=ps.map (·.1)):∀ j,Jq (env.set i (.own2 ks qs)) σ j=Jq env σ j:=λ j=>by
 unfold Jq
 by_cases hj:i=j
 . subst hj
   rw [Q7 (Qv.mp h).1,h]
   cases (σ[i]?).join with
   | none=>rfl
   | some v=>cases v<;>first | rfl | (show _::_=_::_;rw [e])
 . rw [Q1 hj]
theorem Jdy {α:Type}{l:List α}{m:Nat}{a b:α}(h:b∈l.set m a):b=a\/∃ k,k≠m/\l[k]? = some b:=by
 obtain ⟨k,hk⟩:=Uh.mp h
 by_cases e:m=k
 . subst e
   exact .inl (B9 hk)
 . rw [Q1 e] at hk
   exact .inr ⟨k,λ z=>e z.symm,hk⟩
theorem J1p {l:List Addr}(hn:l.Nodup) {k m:Nat}{a b:Addr}(h:l[k]? = some a) (g:l[m]? = some b) (e:k≠m):a≠b:=by grind [Qv,J7a,Nat.lt_or_gt_of_ne]
theorem At.re2 (A:At C ex env σ H n) {i j:Nat}{ks:Option (List Key)}{ps:List (Addr×List Yal)}{p:Addr×List Yal}{ys:List Yal}{ws:List V}{a:Addr}(h:env[i]? = some (.own2 ks ps)) (hs:(σ[i]?).join=some (.ref a)) (hp:ps[j]? = some p) (r:Reps ex H ys ws) (hz:ws.length<=sizeLine) :
 At C ex (env.set i (.own2 ks (ps.set j (p.1,ys)))) σ (upd H p.1 (.lst ws)) n:=by
 obtain ⟨a',e',q⟩:=A.ev.sl i _ h
 rw [hs] at e'
 cases e'
 have hpm:=Xm hp
 have hmap:(ps.set j (p.1,ys)).map (·.1)=ps.map (·.1):=by
  rw [X5]
  refine Xq λ k=>?_
  by_cases e:j=k
  . subst e
    rw [Q7 (by rw [Qc];exact (Qv.mp hp).1),Qm,hp];rfl
  . rw [Q1 e]
 have hrefs:Wi (ps.set j (p.1,ys))=Wi ps:=by
  have e1:∀ l:List (Addr×List Yal),Wi l=(l.map (·.1)).map V.ref:=λ l=>by unfold Wi;rw [Q0];rfl
  rw [e1,e1,hmap]
 have ha:p.1∈Jq env σ i:=by unfold Jq;rw [h,hs];exact Qj _ (Qq.mpr ⟨p,hpm,rfl⟩)
 obtain ⟨h1,h2,h3⟩:=Jbw A.ev ha
 have h0:=A.new i p.1 ha
 have kx:Kp ex H (upd H p.1 (.lst ws)):=Kp.at h2 _
 have pa:a≠p.1:=λ z=>(Xs.mp q.nd).1 (by rw [z];exact Qq.mpr ⟨p,hpm,rfl⟩)
 have hn2:=(Xs.mp q.nd).2
 refine ⟨⟨by rw [Qp];exact A.ev.len,λ k w e=>?_,A.ev.ch,λ b hb=>?_,C.S.keep A.ev.inv λ b hb o e=>by rw [Je (λ z=>h3 (by rw [<- z];exact hb))];exact e⟩,A.ex0,A.al0,λ k l b q1 q2=>?_,λ k b q=>?_,Kp.late A.kp h0 _,λ x hx=>(A.held x hx).keep kx⟩
 . by_cases hk:i=k
   . subst hk
     rw [Q7 (Qv.mp h).1] at e
     cases e
     refine ⟨a,hs,⟨by rw [Je pa,hrefs];exact q.h,by rw [Qp];exact q.z,λ l hl=>by rw [Qp];exact q.k l hl,by rw [hmap];exact q.nd,q.m,q.c,λ t ht=>?_⟩⟩
     rcases Jdy ht with rfl | ⟨k,hkj,hk⟩
     . exact ⟨h2,h3,ws,Jf,hz,r.keep kx⟩
     . have w:=q.i t (Xm hk)
       have tp:t.1≠p.1:=J1p hn2 (k:=k) (m:=j) (by rw [Qm,hk];rfl) (by rw [Qm,hp];rfl) hkj
       obtain ⟨us,g1,g2,g3⟩:=w.h
       exact ⟨w.m,w.c,us,by rw [Je tp];exact g1,g2,g3.keep kx⟩
   . rw [Q1 hk] at e
     exact SlR.upd h2 (λ b hb z=>hk (A.sep i k p.1 ha (by rw [Jco e,<- z];exact hb))) (A.ev.sl k w e)
 . by_cases hb2:b=p.1
   . rw [hb2,Jf];intro z;cases z
   . rw [Je hb2];exact A.ev.al b hb
 . rw [Ji2 h hmap] at q1 q2;exact A.sep k l b q1 q2
 . rw [Ji2 h hmap] at q;exact A.new k b q
end
def Ji3 (i:Nat) (wi:TI) (k:Nat) (idx:List Nat) (g:TG) (tt:TT) (te:TE):TS:=Bj i wi k idx g tt te
theorem Jvy {X:Cx}{st:Stmt}{i:Nat}{wi:TI}{k:Nat}{idx:List Nat}{g:TG}{tt:TT}{te:TE}(h:PS X st (Bj i wi k idx g tt te)):PS X st (Ji3 i wi k idx g tt te):=h
abbrev Jxt (i:Nat) (g:GN2):GS:=λ G env n=>g env n λ xss n1=>∀ ps:List (Addr×List Yal),ps.map (·.2)=xss->G.nx (env.set i (.own2 none ps)) n1
instance sv_set2 {i:Nat}{wi:TI}{k:Nat}{idx:List Nat}{g:TG}{tt:TT}{te:TE}{gn:GN2} [E:N2 (Jbi wi k idx g tt te) gn]:SV (Ji3 i wi k idx g tt te) (Jxt i gn):=⟨λ {C G D} O {ex env σ H n} A h=>
 show Jbi wi k idx g tt te σ H (λ v H2=>D.nx (σ.set i (some v)) H2) from E.n2 A.ev h λ ps n1 a H1 h1 s1 ha hp q=>O.nx (A.own2 s1 ha hp q) (h1 ps rfl)⟩
abbrev Jzi (i:Nat) (gx gy ge:GE):GS:=λ G env n=>ge env n λ d n1=>match env[i]? with
 | some (.own2 none ps)=>gx env n1 λ x n2=>(match x with
  | .int x=>∃ m p,ixN ps.length x=some m/\ps[m]? = some p/\gy env n2 λ y n3=>(match y with
   | .int y=>∃ m',ixN p.2.length y=some m'/\G.nx (env.set i (.own2 none (ps.set m (p.1,p.2.set m' d)))) n3
   | _=>False)
  | _=>False)
 | _=>False
theorem Jvz {ps:List (Addr×List Yal)}{x:Int}{m:Nat}{p:Addr×List Yal}(h:ixN ps.length x=some m) (hp:ps[m]? = some p):atI (Wi ps) x=some (V.ref p.1):=by grind [ixN,atI,Wi]
instance sv_set2I {K:Qb}{i:Nat}{te tx ty:TE}{ge gx gy:GE} [E:EV true te ge] [X:EV false tx gx] [Y:EV false ty gy]:SV (Jdl te (Jmy (tOp (Jla K) (Z4 i) tx) ty Jgo)) (Jzi i gx gy ge):=⟨λ {C G D} O {ex env σ H n} A h=>by
 refine E.ev A.ev h λ d n1 v H1 hd s1 r=>?_
 have A1:=A.step s1
 split at hd
 . rename_i ps e
   obtain ⟨a,ev,q⟩:=A1.ev.sl i _ e
   refine ⟨_,Jo ev,X.ev A1.ev hd λ x n2 xv H2 hx s2 rx=>?_⟩
   have A2:=A1.step s2
   cases rx with
   | int x=>
    obtain ⟨m,p,hm,hp,hy⟩:=hx
    obtain ⟨a2,ev2,q2⟩:=A2.ev.sl i _ e
    rw [ev] at ev2
    cases ev2
    refine ⟨a,Wi ps,x,_,rfl,rfl,SqL.of q2.h,Jvz hm hp,Y.ev A2.ev hy λ y n3 yv H3 hy' s3 ry=>?_⟩
    have A3:=A2.step s3
    obtain ⟨a3,ev3,q3⟩:=A3.ev.sl i _ e
    rw [ev] at ev3
    cases ev3
    cases ry with
    | int y=>
     obtain ⟨m',hm',hq⟩:=hy'
     obtain ⟨vs,g1,g2,g3⟩:=(q3.i p (Xm hp)).h
     have l:=g3.length
     have r3:Rep ex H3 d v:=A2.ev.rep s3 (A1.ev.rep s2 r)
     exact ⟨p.1,vs,y,m',rfl,rfl,g1,by rw [<- l];exact hm',O.nx (A3.re2 e ev hp (Jg1 r3 m' g3) (by rw [Qp];exact g2)) hq⟩
    | none=>exact hy'.elim
    | obj=>exact hy'.elim
    | dctf=>exact hy'.elim
    | bool=>exact hy'.elim
    | str=>exact hy'.elim
    | tuple=>exact hy'.elim
    | list=>exact hy'.elim
   | none=>exact hx.elim
   | obj=>exact hx.elim
   | dctf=>exact hx.elim
   | bool=>exact hx.elim
   | str=>exact hx.elim
   | tuple=>exact hx.elim
   | list=>exact hx.elim
 . exact hd.elim⟩
section
variable {C:Cv}{ex:List Addr}{env:List Vl}{σ:L2.St}{H H':Hp}{n m:Nat}
theorem At.more (A:At C ex env σ H n) {b:Addr}(s:Y0 C.S m H H') (hb:H b=none) (h2:H' b≠none):At C (b::ex) env σ H' m:=by
 have hc:∀ c∈C.S.ch,c∈b::ex:=λ c h=>Qj _ (A.ev.ch c h)
 refine ⟨⟨A.ev.len,λ j w e=>(SlR.add hb (A.ev.sl j w e)).kp hc s.1,hc,λ c hc=>?_,s.2⟩,λ c h=>Qj _ (A.ex0 c h),A.al0,A.sep,A.new,A.kp.trans s.1,λ h hh=>(Rep.add hb (A.held h hh)).keep (s.1.mono hc)⟩
 rcases Qd.mp hc with rfl | hc
 . exact h2
 . exact A.ev.al.step s c hc
theorem Js4 {ps:List (Addr×List Yal)}{j:Nat}{b:Addr}{ds:List Yal}:Wi (ps.set j (b,ds))=(Wi ps).set j (.ref b):=by unfold Wi;rw [X5]
theorem Jqw {l:List Addr}(h:l.Nodup) {b:Addr}(hb:b∉l) (j:Nat):(l.set j b).Nodup:=by
 induction l generalizing j with
 | nil=>simp
 | cons x xs ih=>
  have h1:=Xs.mp h
  cases j with
  | zero=>exact Xs.mpr ⟨λ z=>hb (Qj _ z),h1.2⟩
  | succ j=>
   refine Xs.mpr ⟨λ z=>?_,ih h1.2 (λ z=>hb (Qj _ z)) j⟩
   rcases Jdy z with e | ⟨k,_,hk⟩
   . exact hb (by rw [<- e];exact Qk)
   . exact h1.1 (Xm hk)
theorem At.row2 (A:At C ex env σ H n) {i j:Nat}{ps:List (Addr×List Yal)}{ds:List Yal}{vs:List V}{a b:Addr}(h:env[i]? = some (.own2 none ps)) (hs:(σ[i]?).join=some (.ref a)) (bm:b∈ex) (bc:b∉C.S.ch) (hb:H b=some (.lst vs)) (hz:vs.length<=sizeLine) (r:Reps ex H ds vs) (bo:∀ k,b∉Jq env σ k) (b0:C.H0 b=none) :
 At C ex (env.set i (.own2 none (ps.set j (b,ds)))) σ (upd H a (.lst ((Wi ps).set j (.ref b)))) n:=by
 obtain ⟨a',e',q⟩:=A.ev.sl i _ h
 rw [hs] at e'
 cases e'
 have oi:Jq env σ i=a::ps.map (·.1):=by unfold Jq;rw [h,hs]
 have ha:a∈Jq env σ i:=by rw [oi];exact Qk
 have bi:=bo i
 rw [oi] at bi
 have ba:b≠a:=λ z=>bi (by rw [z];exact Qk)
 have bp:b∉ps.map (·.1):=λ z=>bi (Qj _ z)
 have h0:=A.new i a ha
 have kx:Kp ex H (upd H a (.lst ((Wi ps).set j (.ref b)))):=Kp.at q.m _
 have hmap:(ps.set j (b,ds)).map (·.1)=(ps.map (·.1)).set j b:=by rw [X5]
 have nd2:=Xs.mp q.nd
 have oo:∀ k c,c∈Jq (env.set i (.own2 none (ps.set j (b,ds)))) σ k->c∈Jq env σ k\/(c=b/\k=i):=λ k c hc=>by
  by_cases hk:i=k
  . subst hk
    have e2:Jq (env.set i (.own2 none (ps.set j (b,ds)))) σ i=a::(ps.set j (b,ds)).map (·.1):=by unfold Jq;rw [Q7 (Qv.mp h).1,hs]
    rw [e2,hmap] at hc
    rw [oi]
    rcases Qd.mp hc with e | hc
    . exact .inl (by rw [e];exact Qk)
    . rcases Jdy hc with e | ⟨t,_,ht⟩
      . exact .inr ⟨e,rfl⟩
      . exact .inl (Qj _ (Xm ht))
  . have e2:Jq (env.set i (.own2 none (ps.set j (b,ds)))) σ k=Jq env σ k:=by unfold Jq;rw [Q1 hk]
    rw [e2] at hc
    exact .inl hc
 refine ⟨⟨by rw [Qp];exact A.ev.len,λ k w e=>?_,A.ev.ch,λ c hc=>?_,C.S.keep A.ev.inv λ c hc o e=>by rw [Je (λ z=>q.c (by rw [<- z];exact hc))];exact e⟩,A.ex0,A.al0,λ k l c q1 q2=>?_,λ k c q=>?_,Kp.late A.kp h0 _,λ x hx=>(A.held x hx).keep kx⟩
 . by_cases hk:i=k
   . subst hk
     rw [Q7 (Qv.mp h).1] at e
     cases e
     refine ⟨a,hs,⟨by rw [Jf,Js4];rfl,by rw [Qp];exact q.z,(λ l hl=>by cases hl),?_,q.m,q.c,λ t ht=>?_⟩⟩
     . rw [hmap]
       refine Xs.mpr ⟨λ z=>?_,Jqw nd2.2 bp j⟩
       rcases Jdy z with e | ⟨t,_,ht⟩
       . exact ba e.symm
       . exact nd2.1 (Xm ht)
     . rcases Jdy ht with rfl | ⟨k,_,hk⟩
       . exact ⟨bm,bc,vs,by rw [Je ba];exact hb,hz,r.keep kx⟩
       . have w:=q.i t (Xm hk)
         have ta:t.1≠a:=λ z=>nd2.1 (by rw [<- z];exact Qq.mpr ⟨t,Xm hk,rfl⟩)
         obtain ⟨us,g1,g2,g3⟩:=w.h
         exact ⟨w.m,w.c,us,by rw [Je ta];exact g1,g2,g3.keep kx⟩
   . rw [Q1 hk] at e
     exact SlR.upd q.m (λ c hc z=>hk (A.sep i k a ha (by rw [Jco e,<- z];exact hc))) (A.ev.sl k w e)
 . by_cases hc2:c=a
   . rw [hc2,Jf];intro z;cases z
   . rw [Je hc2];exact A.ev.al c hc
 . rcases oo k c q1 with h1 | ⟨rfl,rfl⟩
   . rcases oo l c q2 with h2 | ⟨rfl,rfl⟩
     . exact A.sep k l c h1 h2
     . exact absurd h1 (bo k)
   . rcases oo l c q2 with h2 | ⟨_,rfl⟩
     . exact absurd h2 (bo l)
     . rfl
 . rcases oo k c q with h1 | ⟨rfl,_⟩
   . exact A.new k c h1
   . exact b0
end
def Js5 (te:TE) (i:Nat) (tx:TE):TS:=Jdl te (Jmy (Z4 i) tx Jgo)
theorem Jo7 {X:Cx}{st:Stmt}{te tx:TE}{i:Nat}(h:PS X st (Jdl te (Jmy (Z4 i) tx Jgo))):PS X st (Js5 te i tx):=h
abbrev Jzj (i:Nat) (gx:GE) (gn:GN):GS:=λ G env n=>gn env n λ ds n1=>match env[i]? with
 | some (.own2 none ps)=>gx env n1 λ x n2=>(match x with
  | .int x=>∃ j,ixN ps.length x=some j/\∀ b:Addr,G.nx (env.set i (.own2 none (ps.set j (b,ds)))) n2
  | _=>False)
 | _=>False
instance sv_set2R {i:Nat}{te tx:TE}{gn:GN}{gx:GE} [E:NV te gn] [X:EV false tx gx]:SV (Js5 te i tx) (Jzj i gx gn):=⟨λ {C G D} O {ex env σ H n} A h=>by
 refine E.nv A.ev h λ ds n1 b vs H1 hd s1 hb hl hz r=>?_
 have A1:=A.more s1 hb (by rw [hl];exact Xu _)
 split at hd
 . rename_i ps e
   obtain ⟨a,ev,q⟩:=A1.ev.sl i _ e
   refine ⟨_,Jo ev,X.ev A1.ev hd λ x n2 xv H2 hx s2 rx=>?_⟩
   have A2:=A1.step s2
   have bc:b∉C.S.ch:=λ z=>C.S.dom A.ev.inv b z hb
   cases rx with
   | int x=>
    obtain ⟨j,hj,hq⟩:=hx
    obtain ⟨a2,ev2,q2⟩:=A2.ev.sl i _ e
    rw [ev] at ev2
    cases ev2
    refine ⟨a,Wi ps,x,j,rfl,rfl,q2.h,by unfold Wi;rw [Qc];exact hj,?_⟩
    exact O.nx (A2.row2 e ev Qk bc (s2.1 _ _ hl bc) hz (A1.ev.reps s2 r) (λ k z=>(Jbw A.ev z).1 hb) (A.free hb)) (hq b)
   | none=>exact hx.elim
   | obj=>exact hx.elim
   | dctf=>exact hx.elim
   | bool=>exact hx.elim
   | str=>exact hx.elim
   | tuple=>exact hx.elim
   | list=>exact hx.elim
 . exact hd.elim⟩
theorem Jez {ex:List Addr}{H:Hp}:∀ {ds:List Yal}{vs:List V},ds.all Vn=true->Reps ex H ds vs->∀ ex',Reps ex' H ds vs
 | _,_,_,.nil,_=>.nil
 | d::ds,_,h,.cons r rs,ex'=>by
  rw [J4h,X3] at h
  exact .cons (Jgw h.1 r ex') (Jez h.2 rs ex')
def Jxu (K:Qb) (ta:TA):TI:=Jng K ta
theorem Jv0 {X:Cx}{tg e:Expr}{K:Qb}{ta:TA}(h:PI X tg e (Jng K ta)):PI X tg e (Jxu K ta):=h
abbrev J1q (t:GN):GN:=λ env n Q=>t env n λ ds n1=>∃ d e xs ys,ds=[d,e]/\Jnk d=some xs/\Jnk e=some ys/\(xs.all Vn=true/\ys.all Vn=true)/\Q (Br xs ys) n1
instance ic_zip2 {K:Qb}{t:TA}{gt:GN} [A:DV false t gt]:IC (Jxu K t) (J1q gt):=⟨λ {S ex env σ H n R P} E h k=>A.dv E h λ ds n1 vs H1 h1 s1 r1=>by
 obtain ⟨d,e,xs,ys,rfl,hs,hs',⟨c1,c2⟩,q⟩:=h1
 cases r1 with
 | cons r1 t=>
  cases t with
  | cons r2 t=>
   cases t
   obtain ⟨c,a,ws,rfl,hq,rs,hc,na⟩:=Jdt r1 hs
   obtain ⟨c',a',ws',rfl,hq',rs',hc',na'⟩:=Jdt r2 hs'
   refine ⟨c,c',a,a',ws,ws',rfl,hq K,hq' K,k _ _ _ _ q s1 λ l H2 hl kp al=>?_⟩
   have w1:=(Rep.add hl r1).keep kp
   have w2:=(Rep.add hl r2).keep kp
   obtain ⟨v1,h3,h4⟩:=Jbv hs hc r1 _ H2 w1
   obtain ⟨v2,h5,h6⟩:=Jbv hs' hc' r2 _ H2 w2
   exact Jnl al (h3 K) (Jez c1 h4 _) (h5 K) (Jez c2 h6 _)⟩
noncomputable def Bd (R:Nat) (f:Nat->Nat->Bool) (a:Nat):List Yal:=(Qg R).map λ b=>.bool (f a b)
noncomputable def Vx (R:Nat) (f:Nat->Nat->Bool):List (List Yal):=(Qg R).map (Bd R f)
section
variable {R a x y:Nat}{f g:Nat->Nat->Bool}
theorem Jbz:(Bd R f a).length=R:=by unfold Bd;rw [Qc,Qz]
theorem Bt:(Vx R f).length=R:=by unfold Vx;rw [Qc,Qz]
theorem Jdz (h:y<R):(Bd R f a)[y]? = some (.bool (f a y)):=by
 unfold Bd;rw [Qm,X4 h];rfl
theorem Jas (h:x<R):(Vx R f)[x]? = some (Bd R f x):=by
 unfold Vx;rw [Qm,X4 h];rfl
theorem Jha (h:∀ b,b<R->f a b=g x b):Bd R f a=Bd R g x:=by
 unfold Bd
 exact U7 λ b hb=>by rw [h b (Q5.mp hb)]
theorem Jhb (h:∀ a,a<R->∀ b,b<R->f a b=g a b):Vx R f=Vx R g:=by grind [Jha,Vx,U7,Q5]
theorem Jlu (hx:x<R) (h2:∀ a,a<R->a≠x->∀ b,b<R->g a b=f a b) {r:List Yal}(hr:r=Bd R g x):(Vx R f).set x r=Vx R g:=by
 apply Xq
 intro i
 by_cases hi:x=i
 . subst hi
   rw [Q7 (by rw [Bt];exact hx),Jas hx,hr]
 . rw [Q1 hi]
   by_cases hl:i<R
   . rw [Jas hl,Jas hl,Jha λ b hb=>(h2 i hl (λ z=>hi z.symm) b hb).symm]
   . rw [Qx (by rw [Bt];omega),Qx (by rw [Bt];omega)]
theorem Js6 (hy:y<R) {v:Bool}(h1:g a y=v) (h2:∀ b,b<R->b≠y->g a b=f a b):(Bd R f a).set y (.bool v)=Bd R g a:=by
 apply Xq
 intro i
 by_cases hi:y=i
 . subst hi
   rw [Q7 (by rw [Jbz];exact hy),Jdz hy,h1]
 . rw [Q1 hi]
   by_cases hl:i<R
   . rw [Jdz hl,Jdz hl,h2 i hl λ z=>hi z.symm]
   . rw [Qx (by rw [Jbz];omega),Qx (by rw [Jbz];omega)]
theorem Ji4:(Bd R f a).all Vn=true:=by grind [Bd,Vn]
theorem Jo8:(Br (Bd R f a) (Bd R f x))=(Qg R).map λ b=>.tuple [.bool (f a b),.bool (f x b)]:=by grind [Br,Bd,List.zipWith_map_left,List.zipWith_map_right,List.zipWith_self]
end
theorem Jlv {ps:List (Addr×List Yal)}{m:List (List Yal)}(h:ps.map (·.2)=m) {x:Nat}{r:List Yal}(hr:m[x]? = some r):∃ p,ps[x]? = some p/\p.2=r:=by grind
theorem Jhc {ps:List (Addr×List Yal)}{m:List (List Yal)}(h:ps.map (·.2)=m):ps.length=m.length:=by grind
theorem Jlw {ps:List (Addr×List Yal)}{m m':List (List Yal)}(h:ps.map (·.2)=m) {x:Nat}{b:Addr}{r:List Yal}(hr:m.set x r=m'):(ps.set x (b,r)).map (·.2)=m':=by rw [X5,h];exact hr
theorem Jj9 {ps:List (Addr×List Yal)}{R:Nat}{f:Nat->Nat->Bool}(h:ps.map (·.2)=Vx R f) {x:Int}(h0:0<=x) (h1:x<R):atI (ps.map λ p=>Ux p.2) x=some (.list (Bd R f x.toNat)):=by
 have hx:x.toNat<R:=by omega
 obtain ⟨p,hp,e⟩:=Jlv h (Jas (f:=f) hx)
 unfold atI
 rw [Qc,Jc2 h0 (by rw [Jhc h,Bt];exact h1)]
 show (ps.map λ p=>Ux p.2)[x.toNat]? = _
 rw [Qm,hp,<- e];rfl
theorem Js7 {R a:Nat}{f:Nat->Nat->Bool}{y:Int}(h0:0<=y) (h1:y<R):atI (Bd R f a) y=some (.bool (f a y.toNat)):=by
 unfold atI
 rw [Jbz,Jc2 h0 h1]
 exact Jdz (by omega)
theorem Jlx {turn:Yal->Nat->(List Yal->Nat->Prop)->Prop}{n:Nat}(f:Nat->List Yal) {e:Nat->Yal}:∀ (l:List Nat) {Q:List (List Yal)->Nat->Prop},(∀ i∈l,∀ K:List Yal->Nat->Prop,K (f i) n->turn (e i) n K)->Q (l.map f) n->Jj6 turn (l.map e) n Q
 | [],_,_,q=>q
 | i::l,Q,h,q=>by
  show turn (e i) n _
  exact h i Qk _ (Jlx f l (λ j hj=>h j (Qj _ hj)) q)
noncomputable def Jct (ws:List Way) (ks:List Int):List (Nat×Nat):=ks.map λ k=>((Jj ws k).a.toNat,(Jj ws k).b.toNat)
noncomputable def pw0 (es:List (Nat×Nat)) (a b:Nat):Bool:=decide (a=b)||decide ((a,b)∈es)
noncomputable def pwR (es:List (Nat×Nat)) (m r a b:Nat):Bool:=if a<r then Pw es (m+1) a b else Pw es m a b
theorem Jv1 {es:List (Nat×Nat)}{m r b:Nat}:pwR es m r m b=Pw es m m b:=by grind [pwR,Pw]
theorem Jv2 {es:List (Nat×Nat)}{a b x y:Nat}:pw0 (es++[(a,b)]) x y=(pw0 es x y||decide (x=a/\y=b)):=by grind [pw0]
theorem Jv3 {R a b:Nat}{es:List (Nat×Nat)}(ha:a<R) (hb:b<R):(Vx R (pw0 es)).set a ((Bd R (pw0 es) a).set b (.bool true))=Vx R (pw0 (es++[(a,b)])):=by grind [Jlu,Jv2,Js6,Vx,pw0,Bd]
theorem Jhd {es:List (Nat×Nat)}{m r b:Nat}:pwR es m r r b=Pw es m r b:=if_neg (Q9 r)
theorem Jv4 {R m r:Nat}{es:List (Nat×Nat)}(hr:r<R) (h:Pw es m r m=true):(Vx R (pwR es m r)).set r ((Qg R).map λ b=>.bool (pwR es m r r b||pwR es m r m b))=Vx R (pwR es m (r+1)):=by
 refine Jlu hr (λ x _ hx y _=>?_) ?_
 . unfold pwR
   by_cases c:x<r
   . rw [if_pos c,if_pos (by omega)]
   . rw [if_neg c,if_neg (by omega)]
 . unfold Bd
   refine U7 λ b _=>?_
   rw [Jhd,Jv1,pwR,if_pos (by omega),Pw,h,J7b]
theorem Jzk {R m r:Nat}{es:List (Nat×Nat)}(h:Pw es m r m=false):Vx R (pwR es m r)=Vx R (pwR es m (r+1)):=by grind [Jhb,Pw.eq_2,Pw,Vx,pwR]
theorem J1r {es:List (Nat×Nat)}{m:Nat}:pwR es m 0=Pw es m:=by
 funext a b
 exact if_neg (J64 a)
theorem Jv5 {R m:Nat}{es:List (Nat×Nat)}:Vx R (pwR es m R)=Vx R (Pw es (m+1)):=Jhb λ _ hx _ _=>if_pos hx
theorem Jzl {es:List (Nat×Nat)}:pw0 es=Pw es 0:=by
 funext a b
 rw [Pw];rfl
theorem Jo9 {k i:Nat}{x:Yal}(h:(Jif 0 k)[i]? = some x):i<k/\x = .int (i:Int):=by grind [Jif]
noncomputable def Jnr (R:Nat) (es:List (Nat×Nat)):Yal:=.list ((Vx R (Pw es R)).map .list)
def Jka:GSp:=λ as n Q=>∃ (R U:Int) (ws:List Way) (ks:List Int),as=[.d (J3 R U ws),.d (.list (ks.map .int))]/\BookOk R U ws/\(∀ k∈ks,0<=k/\k<ws.length)/\Q (Jnr R.toNat (Jct ws ks)) n
theorem Js8 {ps:List (Addr×List Yal)}{R:Nat}{es:List (Nat×Nat)}(h:ps.map (·.2)=Vx R (Pw es R)):Ux (ps.map λ p=>.list p.2)=Jnr R es:=by
 unfold Jnr
 rw [<- h,Q0];rfl
theorem Jqx {ws:List Way}{ks:List Int}{i:Nat}{k:Int}(h:ks[i]? = some k):Jct ws (ks.take (i+1))=Jct ws (ks.take i)++[((Jj ws k).a.toNat,(Jj ws k).b.toNat)]:=by
 unfold Jct
 rw [J7c,h,Xd];rfl
section
variable {X:Cx}{pins:List (Addr×Obj)}{σ:L2.St}{H:Hp}{s:Yam}{a:Addr}{kvs:List (Key×V)}{k:Key}{u:Yak}{A:Yaq}{E:Yak->Yam->Prop}
end
section
variable {X:Cx}{o e f:Expr}{apos cpos p pos:Pos}{td ty tx:TE}
end
section
variable {C:Cv}{ex:List Addr}{env:List Vl}{σ:L2.St}{H H':Hp}{n m:Nat}
end
theorem Js9 {R:Nat}{f:Nat->Nat->Bool}{x:Int}(h0:0<=x) (h1:x<R):atI ((Vx R f).map Ux) x=some (.list (Bd R f x.toNat)):=by
 unfold atI
 rw [Qc,Bt,Jc2 h0 h1]
 show ((Vx R f).map Ux)[x.toNat]? = _
 rw [Qm,Jas (by omega)];rfl
theorem Jpa {cs:List Int}{i:Nat}(h:i<cs.length):(cs.map Qn)[i]? = some (.int (cs.getD i 0)):=by grind
noncomputable def Jfv (x r:Int):Int:=if x=r then 1 else 0
theorem Jd0 {ws:List Way}{cs:List Int}{r:Int}:∀ i,Vu ws cs i r=((Qg i).map λ j=>cs.getD j 0*(Jfv (Jj ws (j:Nat)).b r-Jfv (Jj ws (j:Nat)).a r)).sum
 | 0=>rfl
 | i+1=>by
  rw [Vu,Jd0 i,J4r,Xd,J89,J4u,J9a]
  unfold Jfv
  by_cases h1:(Jj ws (i:Nat)).a=r
  . by_cases h2:(Jj ws (i:Nat)).b=r
    . rw [if_pos h1,if_pos h2,if_pos h1,if_pos h2];simp
    . rw [if_pos h1,if_neg h2,if_pos h1,if_neg h2];omega
  . by_cases h2:(Jj ws (i:Nat)).b=r
    . rw [if_neg h1,if_pos h2,if_neg h1,if_pos h2];omega
    . rw [if_neg h1,if_neg h2,if_neg h1,if_neg h2];omega
theorem Ji5 {ex:List Addr}{H:Hp}:∀ (ns:List Int),Reps ex H (ns.map Qn) (ns.map V.int)
 | []=>.nil
 | n::ns=>.cons (.int n) (Ji5 ns)
theorem Jns {X:Cx}{K':Qb}(hK:X.K=K'):OpR X (compareOp .In) (rIn K' false):=hK▸Jiu
theorem Jta:∀ ns:List Int,Ut (ns.map Qn)=true
 | []=>rfl
 | n::ns=>by rw [Xb,Ut,Jta ns];rfl
theorem Jtb:∀ ns:List Int,J5k (ns.map Qn)=0
 | []=>rfl
 | n::ns=>by rw [Xb,J5k,Jtb ns];rfl
theorem neL {ns:List Int}{Q:Yal->Prop}(q:Q (.bool false)):Jvt true (Jnn ns) (Jnn ns) Q:=Jzd (by unfold Jnn;rw [U6];exact Jta ns) (by unfold Jnn;rw [PyData.depth,Jtb];decide) q
theorem J1s {k:Int}{ns:List Int}:inD (.int k) (ns.map .int)=decide (k∈ns):=by
 unfold inD
 induction ns with
 | nil=>rfl
 | cons n ns ih=>
  rw [Xb,J4i,ih]
  have:Uu (.int n) (.int k)=decide (n=k):=rfl
  rw [this,J3k,J5n,decide_eq_true_iff,decide_eq_true_iff,decide_eq_true_iff,Qd]
  constructor
  . rintro (h | h)
    . exact .inl h.symm
    . exact .inr h
  . rintro (h | h)
    . exact .inl h.symm
    . exact .inr h
noncomputable abbrev J21:=List Vl->Nat->(List (List Yal)->Nat->Prop)->Prop
section
variable {b:Bool}{i:Nat}{sp:J21}{E':XK}{t:TA}{gt:GA}
end
end My
namespace L2
open My
section
variable {X:Cx}
end
end L2
namespace My
open L2
end My
namespace L2
open My
section
variable {X:Cx}{x y:Str}{e:Expr}{es:List Expr}{p p' pos apos:Pos}{t:TA}{k:Nat}{ps:List Str}{sp:Sp}{i:Int}
end
end L2
namespace My
open L2
noncomputable abbrev J22:=List Vl->Nat->(List Yal->Nat->Prop)->(Addr->Nat->Prop)->Prop
section
variable {i:Nat}{sp:J22}{t:TA}{gt:GA}{tv:TE}{gv:GE}{d:Int}
end
end My
namespace L2
open My
section
variable {X:Cx}{tg iter kx vx:Expr}{ifs:List Expr}{scope sc:Yat}{N N':List Str}{k:Nat}{idx:List Nat}{wi:TI}{g:TG}{tt:TT}{tk tv:TE}{pos:Pos}
end
section
variable {X:Cx}
end
end L2
namespace My
open L2
section
variable {C:Cv}{ex:List Addr}{env:List Vl}{σ:L2.St}{H H':Hp}{n m:Nat}
end
theorem Vo {cs:List Int}(h:∀ c∈cs,0<=c) (i:Nat):0<=cs.getD i 0:=by
 rw [Qi]
 cases e:cs[i]? with
 | none=>exact X6 _
 | some c=>exact h c (Xm e)
structure RoundOk (R:Int) (ws:List Way) (cs:List Int):Prop where
 len:cs.length=ws.length
 nn:∀ c∈cs,0<=c
 bal:∀ r:Nat,r<R.toNat->Vu ws cs ws.length (r:Nat)=0
end My
namespace L2
section
variable {X:Cx}{pos p2:Pos}
end
end L2
namespace My
open L2
end My
namespace L2
open PySem.SeqAt
section
variable {X:Cx}
noncomputable def Jtc (y:Int):Yak->Bool | .int a _=>a==y | _=>false
theorem Jtd {ns:List Int}:∀ {us:List Yak},J4 (ns.map V.int) us->∀ i (h:i<us.length),∃ t,us[i]=Uo (ns.getD i 0) t:=by
 induction ns with
 | nil=>intro us r i h;cases r;cases h
 | cons n ns ih=>
  intro us r i h
  cases r with
  | cons r t=>
   obtain ⟨tk,e⟩:=r
   cases i with
   | zero=>exact ⟨tk,e⟩
   | succ i=>
    obtain ⟨t2,e2⟩:=ih t i (by simpa using h)
    exact ⟨t2,by simpa using e2⟩
end
end L2
namespace My
open L2
theorem Jxv {ex:List Addr}{H:Hp}:∀ {ns:List Int}{vs:List V},Reps ex H (ns.map .int) vs->vs=ns.map V.int
 | [],_,.nil=>rfl
 | n::ns,_,.cons r t=>by
  cases r
  rw [Jxv t];rfl
abbrev Jxw (i:Nat):GE:=λ env n Q=>match env[i]? with
 | some (.own xs)=>Q (.tuple xs) n
 | some (.d (.list xs))=>Q (.tuple xs) n
 | some (.d (.tuple xs))=>Q (.tuple xs) n
 | _=>False
instance (priority:=high) ev_tupO {K:Qb}{i:Nat}:EV true (tCB (λ xs H Q=>∃ p ys,xs=[.ref p]/\((SqL K H p ys/\∀ l,H l=none->Q (.ref l) (upd H l (.tup ys)))\/(SqT K H p ys/\Q (.ref p) H))) (Yo (Z4 i) Ja2)) (Jxw i):=⟨λ {S ex env σ H n Q P} E h k=>by
 unfold Jxw at h
 split at h
 . rename_i xs e
   obtain ⟨a,vs,ev,h1,h2,h3,h4,h5⟩:=E.sl i _ e
   exact ⟨_,Jo ev,_,_,rfl,.inl ⟨SqL.of h1,λ l hl=>k _ _ _ _ h (Y0.new E.inv (Kp.new hl _)) (.tuple Jf (E.al.nm hl) h2 (h3.keep (Kp.new hl _)))⟩⟩
 . rename_i xs e
   obtain ⟨v,ev,r⟩:=E.sl i _ e
   cases r with
   | list h1 _ h2 h3=>exact ⟨_,Jo ev,_,_,rfl,.inl ⟨SqL.of h1,λ l hl=>k _ _ _ _ h (Y0.new E.inv (Kp.new hl _)) (.tuple Jf (E.al.nm hl) h2 (h3.keep (Kp.new hl _)))⟩⟩
 . rename_i xs e
   obtain ⟨v,ev,r⟩:=E.sl i _ e
   cases r with
   | tuple h1 hn h2 h3=>exact ⟨_,Jo ev,_,_,rfl,.inr ⟨SqT.of h1,k _ _ _ _ h (.refl E.inv) (.tuple h1 hn h2 h3)⟩⟩
 . exact h.elim⟩
def Jxx:G1:=λ ds Q=>match ds with
 | [.int i]=>Q (.int i)
 | [.bool b]=>Q (.int (if b=true then 1 else 0))
 | _=>False
instance cs_intB:CS (λ xs H Q=>(∃ i,xs=[V.int i]/\Q (V.int i) H)\/∃ k,xs=[V.bl k]/\Q (V.int (if k=true then 1 else 0)) H) Jxx:=⟨λ {H xs ds Q P} r h k=>by
 unfold Jxx at h
 split at h
 . cases r with
   | cons r1 t=>
    cases t
    cases r1
    exact .inl ⟨_,rfl,k _ _ h λ ex=>.int _⟩
 . cases r with
   | cons r1 t=>
    cases t
    cases r1
    exact .inr ⟨_,rfl,k _ _ h λ ex=>.int _⟩
 . exact h.elim⟩
noncomputable def inN (rs:List (List Int)) (k:Int):Int:=((rs.countP λ r=>decide (k∈r):Nat):Int)
end My
namespace L2
section
variable {X:Cx}
end
end L2
namespace My
open L2
section
variable {n:Nat}{key:Nat->Int}
structure PA (n:Nat) (p:Array Nat):Prop where
 size:p.size=n
 perm:p.toList.Perm (Qg n)
noncomputable def kv (key:Nat->Int) (p:Array Nat) (i:Nat):Int:=key (p.getD i 0)
end
end My
namespace L2
open PySem.SeqAt
open AutoSeq1 (wpAny_loadPart')
section
variable {prog:Yap}{w:Yao}{A:Yaq}{E:Yak->Yam->Prop}{s:Yam}
end
section
variable {prog:Yap}{w:Yao}{A:Yaq}{E:Yak->Yam->Prop}{s:Yam}
end
theorem Jqy:∀ {as:List Addr}{us:List Yak},J4 (as.map V.ref) us->us=as.map Qw:=by
 intro as
 induction as with
 | nil=>intro us r;cases r;rfl
 | cons a as ih=>
  intro us r
  cases r with
  | cons r t=>
   cases r
   rw [ih t];rfl
section
variable {X:Cx}
end
section
variable {X:Cx}
end
end L2
namespace My
open L2
noncomputable abbrev rt (ws:List Way) (ks:List Int) (i j:Int):Prop:=Rt (Jct ws ks) (Jj ws i).b.toNat (Jj ws j).a.toNat
noncomputable def Jv6 (ks:List Int) (k:Int):List Int:=ks.filter λ j=>decide (j≠k)
end My
namespace L2
open PySem.SeqAt
section
variable {X:Cx}
end
section
variable {X:Cx}{v:Expr}{te:TE}{a:Str}{ja:Nat}{pa pf pos:Pos}
end
end L2
namespace My
open L2
end My
namespace L2
open PySem.SeqAt
section
open AutoSeq1 (wpAny_loadPart')
end
section
variable {prog:Yap}{w:Yao}{A:Yaq}{E:Yak->Yam->Prop}{s:Yam}
end
section
variable {X:Cx}{es:List Expr}{kk:Nat}{tp:Pos}
end
end L2
namespace My
open L2
section
variable {K:Qb}{ex:List Addr}{H:Hp}
end
open PySem.StrLaws PySem.Builtin.Str
end My
namespace L2
open PySem.SeqAt
end L2
namespace My
open L2
theorem Ww {α:Type}{turn:Yal->Nat->(Option Yal->Nat->Prop)->Prop}{n:Nat}{Q:List Yal->Nat->Prop}{f:α->Yal}(g:α->Yal) {xs:List α}(h:∀ x∈xs,∀ n K,K (some (g x)) n->turn (f x) n K) (q:Q (xs.map g) n):Jgy turn (xs.map f) n Q:=by
 induction xs generalizing n Q with
 | nil=>exact q
 | cons x xs ih=>exact h x Qk _ _ (ih (λ y hy=>h y (Qj _ hy)) q)
end My
namespace PySem
open PySem.Sem (wp)
section
variable {prog:Yap}{w:Yao}{A:Yaq}{E:Yak->Yam->Prop}{h:Heap}{g:Array GenState}{d:Drawn}{t:Nat}{os:OsState}
variable {nm q:Str}{C N:Addr}{bs bm bmB:List Yak}{hdct:Bool}{sn:List Str}{sub:List Yak}{ab:Bool}{col:Option Bool}{dd:Option Addr}{k0 k1 k2 k3 k5:Option Yak}{B newId initId:String}
end
end PySem
namespace L2
section
variable {prog:Yap}{w:Yao}{A:Yaq}{E:Yak->Yam->Prop}{s:Yam}{l:Addr}{xs:Array (Int×Tok)}
end
section
variable {X:Cx}
end
end L2
namespace My
open L2
section
variable {R:Int}{ws:List Way}{ks:List Int}{x:Int}{l:List Int}{i j:Nat}
end
end My
namespace L2
open PySem.SeqAt
section
variable {X:Cx}{pins:List (Addr×Obj)}{σ:St}{A:Yaq}{R:Ya6->Yam->Prop}{it l d:Addr}{ps:List (Key×V×Addr)}
end
section
variable {prog:Yap}{w:Yao}{A:Yaq}{E:Yak->Yam->Prop}{s:Yam}
end
section
variable {X:Cx}
end
end L2
namespace My
open L2 PySem.SeqAt PySem.MeetsSeq
section
variable {X:Cx}
end
abbrev Jte (i:Nat):GN:=λ env n Q=>match env[i]? with
 | some (.own xs)=>Q xs n
 | some (.d x)=>Jjy [x] λ d=>Q d n
 | _=>False
instance (priority:=high) nv_listO {K:Qb}{i:Nat}:NV (tCB (λ xs H Q=>∃ p ys,xs=[.ref p]/\(SqL K H p ys\/SqT K H p ys)/\∀ l,H l=none->Q (.ref l) (upd H l (.lst ys))) (Yo (Z4 i) Ja2)) (Jte i):=⟨λ {S ex env σ H n Q P} E h k=>by
 unfold Jte at h
 split at h
 . rename_i xs e
   obtain ⟨a,vs,ev,h1,h2,h3,h4,h5⟩:=E.sl i _ e
   refine ⟨_,Jo ev,_,_,rfl,.inl (SqL.of h1),λ p hp=>?_⟩
   obtain ⟨c1,c2,c3⟩:=Bp E (.refl E.inv) hp h3
   exact k _ _ _ _ _ h c1 c2 Jf h2 c3
 . rename_i x e
   refine (nv_cn (r:=λ xs H Q=>∃ p ys,xs=[.ref p]/\(SqL K H p ys\/SqT K H p ys)/\∀ l,H l=none->Q (.ref l) (upd H l (.lst ys))) (t:=Yo (Z4 i) Ja2)).nv E ?_ k
   show Jvs i env n _
   unfold Jvs
   rw [e]
   exact h
 . exact h.elim⟩
open L2
section
variable {R U:Int}{ws:List Way}{ks:List Int}
end
end My
namespace L2
def DefM (K:Qb) (C:Addr) (m qual:Str) (st:Stmt) (ps:List Str):Prop:=∃ f fd,Meth K C m f/\Fun K m qual st f fd/\Vb K fd ps []
def Wj (P:Yap) (w:Yao) (K:Qb) (mg:Str->Option Yak) (base:Heap) (C:Addr) (m:Str) (k:Nat) (ps:List Str) (sp:Sp):Prop:=
 ∃ f fd,Cls K C/\Meth K C m f/\Vb K fd ps []/\FnOk P w K mg base CX0 k f fd ps sp
section
variable {P:Yap}{w:Yao}{K:Qb}{mg:Str->Option Yak}{base:Heap}{C:Addr}{x m qual:Str}{st:Stmt}{ps:List Str}{k:Nat}{sp:Sp}
theorem DefM.cal (d:DefM K C m qual st ps) (c:Cls K C) (h:∀ f fd,Fun K m qual st f fd->FnOk P w K mg base CX0 k f fd ps sp):Wj P w K mg base C m k ps sp:=by
 obtain ⟨f,fd,hm,F,b⟩:=d
 exact ⟨f,fd,c,hm,b,h f fd F⟩
theorem defM_mk {f:Addr}{oc:Yak}{od an:Option Addr}{osl:Array (Option Yak)}{kV doc pm cdv ct:Yak}
 (a:Xr K (.ref C) m=some (some (.ref f))) (i:J4e K (.ref f)=true) (l:K.lookup f=some ⟨oc,od,.func (Xy m qual (Z9 st) (Zm st) (Jd st) .none kV doc pm an cdv ct),osl⟩) (c:J3b K cdv qual=true) (kp:Uf K (.ref f)=true)
 (hb:∀ (kV doc pm:Yak) (an:Option Addr) (cdv ct:Yak) (us:List Yak),us.length=ps.length->Ybg (Xy m qual (Z9 st) (Zm st) (Jd st) .none kV doc pm an cdv ct) ⟨us,[]⟩=pure (ps.zip us)):DefM K C m qual st ps:=
 ⟨f,_,⟨a,i,kp⟩,Jgq (st:=st) l c kp,(Jgq (st:=st) l c kp).binds hb⟩
end
section
variable {X:Cx}{x m:Str}{C:Addr}{o e:Expr}{es:List Expr}{p pos apos:Pos}{ta:TE}{t:TA}{k:Nat}{ps:List Str}{sp:Sp}
theorem J1t {pl:Sem Bool}(c:Wj X.prog X.w X.K X.mg X.base C m k ps sp) (hr:Room k X.A) (he:PE X o ta)
 (ht:eval (.Call (.Attribute o m apos) [] [] pos) X.env=(do
  let ov <- eval o X.env
  Yaz apos.atName
  let (f,first) <- holding [ov] (getMethod ov m pl)
  callWith pos f first (backTo pos (starEach [] X.env)) (backToKw pos (keywordEach [] X.env))):=by rfl):PE X (.Call (.Attribute o m apos) [] [] pos) (Jfi C m sp [] E0 ta Ja2):=by
 obtain ⟨f,fd,hc,hm,b,F⟩:=c
 exact Jr3 he hc hm F hr b .nil Jo0 ht
theorem Jz {K':Qb}{f:Str}(hK:X.K=K') (he:PE X e ta) (hb:Ybo e f X.env (eval e X.env)=eval e X.env:=by rfl):PE X (.Attribute e f pos) (Jm5 K' ta f):=hK▸Jyk he hb
theorem Jfw {pl:Sem Bool}(c:Wj X.prog X.w X.K X.mg X.base C m k ps sp) (hr:Room k X.A) (he:PE X o ta) (ha:PA X (e::es) t)
 (hst:starEach (e::es) X.env=(false,eval e X.env)::starEach es X.env:=by rfl) (hpl:(backTo pos (starEach es X.env)).any (·.1)=false:=by rfl)
 (ht:eval (.Call (.Attribute o m apos) (e::es) [] pos) X.env=(do
  let ov <- eval o X.env
  Yaz apos.atName
  let (f,first) <- holding [ov] (getMethod ov m pl)
  callWith pos f first (backTo pos (starEach (e::es) X.env)) (backToKw pos (keywordEach [] X.env))):=by rfl):PE X (.Call (.Attribute o m apos) (e::es) [] pos) (Jfi C m sp [] E0 ta t):=by
 obtain ⟨f,fd,hc,hm,b,F⟩:=c
 exact Jvb he hc hm F hr b .nil Jo0 ha hst hpl ht
end
end L2
namespace My
open L2
theorem Jly {C C':Addr}{ns ns':List Str}{ds ds':List Yal}(hl:ns.length=ds.length) (hl':ns'.length=ds'.length) (h:Jah C ns ds=Jah C' ns' ds'):C=C'/\ns=ns'/\ds=ds':=by
 unfold Jah at h
 injection h with h1 h2
 injection h1 with h1 _
 injection h1 with h1
 refine ⟨by exact_mod_cast h1,?_⟩
 clear h1
 induction ns generalizing ds ns' ds' with
 | nil=>
  cases ds with
  | cons _ _=>cases hl
  | nil=>
   cases ns' with
   | nil=>
    cases ds' with
    | nil=>exact ⟨rfl,rfl⟩
    | cons _ _=>cases hl'
   | cons _ _=>
    cases ds' with
    | nil=>cases hl'
    | cons _ _=>cases h2
 | cons n ns ih=>
  cases ds with
  | nil=>cases hl
  | cons d ds=>
   cases ns' with
   | nil=>
    cases ds' with
    | nil=>cases h2
    | cons _ _=>cases hl'
   | cons n' ns'=>
    cases ds' with
    | nil=>cases hl'
    | cons d' ds'=>
     rw [J9b,J9b] at h2
     injection h2 with h3 h4
     injection h3 with h5 h6
     injection h5 with h5
     obtain ⟨e1,e2⟩:=ih (by simpa using hl) (by simpa using hl') h4
     exact ⟨by rw [h5,e1],by rw [h6,e2]⟩
noncomputable def Jig (ns:List Str) (ds:List Yal) (f:Str):Option Yal:=(ns.zip ds).lookup f
theorem Jpb {ex:List Addr}{H:Hp}{f:Str}{x:Yal}:∀ {fs:List (Str×V)}{ds:List Yal},Reps ex H ds (fs.map (·.2))->Jig (fs.map (·.1)) ds f=some x->∃ v,fs.lookup f=some v/\Rep ex H x v
 | [],ds,r,h=>by cases h
 | p::fs,ds,r,h=>by
  cases r with
  | cons r1 t=>
   unfold Jig at h
   rw [Xb,J7d] at h
   by_cases e:f=p.1
   . subst e
     rw [J9c] at h
     cases h
     exact ⟨p.2,J9c,r1⟩
   . have hb:(f==p.1)=false:=beq_eq_false_iff_ne.mpr e
     rw [U5,hb] at h
     obtain ⟨v,hv,rv⟩:=Jpb t h
     exact ⟨v,by rw [U5,hb];exact hv,rv⟩
theorem Jzm {f:Str}:∀ {fs:List (Str×V)},f∉fs.map (·.1)->fs.lookup f=none:=by grind
section
variable {b:Bool}{te ta:TE}{g:GE}
theorem Jpc {C:Addr}{ns:List Str}{ds es:List Yal}{ep:Nat}{ks:List Key}(h:Jah C ns ds=fzK ep ks es):False:=by (intros;simp_all [Key,Jah,fzK])
abbrev J23 (K:Qb) (f:Str) (g:GE):GE:=λ env n Q=>g env n λ d n1=>∃ (C:Addr) (ns:List Str) (ds:List Yal) (x:Yal),d = .dict (Jah C ns ds)/\Cls K C/\NoAttr K C f/\ns.length=ds.length/\Jig ns ds f=some x/\Q x n1
instance ev_fld {K:Qb}{f:Str} [A:EV b te g]:EV b (Jm5 K te f) (J23 K f g):=⟨λ {S ex env σ H n Q P} E h k=>A.ev E h λ d n1 v H1 h1 s1 r1=>by
 obtain ⟨C,ns,ds,x,rfl,hc,hn,hl,hx,q⟩:=h1
 cases r1 with
 | obj e m ek r=>
  have hr:=r.length
  rw [Qc] at hr
  obtain ⟨rfl,rfl,rfl⟩:=Jly hl (by rw [Qc,hr]) ek
  obtain ⟨v',hv,rv⟩:=Jpb r hx
  exact ⟨_,_,_,_,v',rfl,e,hc,hn,hv,k _ _ _ _ q s1 rv⟩
 | dctf e m ek r=>exact (Jpc ek).elim⟩
abbrev J1u (C:Addr) (m:Str) (sp:GSp) (g:GE) (ga:GA):GE:=λ env n Q=>g env n λ d n1=>(∃ (ns:List Str) (ds:List Yal),d = .dict (Jah C ns ds)/\ns.length=ds.length/\m∉ns)/\ga env n1 λ as n2=>sp (.d d::as) n2 Q
abbrev Jzn (C:Addr) (m:Str) (sp:GSn) (g:GE) (ga:GA):GN:=λ env n Q=>g env n λ d n1=>(∃ (ns:List Str) (ds:List Yal),d = .dict (Jah C ns ds)/\ns.length=ds.length/\m∉ns)/\ga env n1 λ as n2=>sp (.d d::as) n2 Q
theorem Jtf {ex:List Addr}{H:Hp}{C:Addr}{m:Str}{ns:List Str}{ds:List Yal}{v:V}(hl:ns.length=ds.length) (hm:m∉ns) (r:Rep ex H (.dict (Jah C ns ds)) v):∃ a dx fs,v = .ref a/\H a=some (.ins C dx fs)/\fs.lookup m=none:=by
 cases r with
 | obj e n ek r=>
  have hr:=r.length
  rw [Qc] at hr
  obtain ⟨rfl,rfl,rfl⟩:=Jly hl (by rw [Qc,hr]) ek
  exact ⟨_,_,_,rfl,e,Jzm hm⟩
 | dctf e n ek r=>exact (Jpc ek).elim
instance ev_meth {C:Addr}{m:Str}{sp:GSp}{E':XK}{t:TA}{gt:GA} [A:EV b ta g] [B:AV b t gt]:EV b (Jfi C m (Jn sp) [] E' ta t) (J1u C m sp g gt):=⟨λ {S ex env σ H n Q P} E h k=>A.ev E h λ d n1 v H1 h1 s1 r1=>by
 obtain ⟨⟨ns,ds,rfl,hl,hm⟩,h2⟩:=h1
 obtain ⟨a,dx,fs,rfl,e,hf⟩:=Jtf hl hm r1
 refine ⟨a,dx,fs,rfl,e,hf,B.av (E.step s1) h2 λ as n2 vs H2 h3 s2 r2=>?_⟩
 rw [Ur]
 exact ⟨S,exm b S ex,.d (.dict (Jah C ns ds))::as,n2,_,⟨⟨_,rfl,(E.step s1).repm b s2 r1⟩,r2⟩,E.sup b,(E.step (s1.trans s2)).alm b,s2.2,h3,λ d n' v H' p s3 r=>k _ _ _ _ p ((s1.trans s2).trans s3) r⟩⟩
instance nv_meth {C:Addr}{m:Str}{sp:GSn}{E':XK}{t:TA}{gt:GA} [A:EV true ta g] [B:AV true t gt]:NV (Jfi C m (Y3 sp) [] E' ta t) (Jzn C m sp g gt):=⟨λ {S ex env σ H n Q P} E h k=>A.ev E h λ d n1 v H1 h1 s1 r1=>by
 obtain ⟨⟨ns,ds,rfl,hl,hm⟩,h2⟩:=h1
 obtain ⟨a,dx,fs,rfl,e,hf⟩:=Jtf hl hm r1
 refine ⟨a,dx,fs,rfl,e,hf,B.av (E.step s1) h2 λ as n2 vs H2 h3 s2 r2=>?_⟩
 rw [Ur]
 exact ⟨S,ex,.d (.dict (Jah C ns ds))::as,n2,_,⟨⟨_,rfl,(E.step s1).repm true s2 r1⟩,r2⟩,E.ch,(E.step (s1.trans s2)).al,s2.2,h3,λ ds n' a ws H' p s3 ha hl hz r=>k _ _ _ _ _ p ((s1.trans s2).trans s3) ((s1.trans s2).free ha) hl hz r⟩⟩
end
noncomputable def Jv7:Stmt->List Stmt
 | .ClassDef (body:=b) ..=>b
 | _=>[]
abbrev St':=Int×List Int
noncomputable def stD (s:St'):Yal:=Z0 s.1 s.2
noncomputable abbrev Kn:=List (Int×St')
noncomputable def Vt (ws:List Way) (s:St'):List Int:=((Qg ws.length).filter λ i=>Jiy (Jj ws ((i:Nat):Int)).a s.1 s.2 (Jj ws ((i:Nat):Int)).g).map λ i=>((i:Nat):Int)
noncomputable def B0 (ws:List Way) (s:St') (k:Int):St':=((Jj ws k).b,Jbk s.2 (Jj ws k).g)
def Jkb:GSp:=λ as n Q=>∃ (xs gs:List Int),as=[.d (.tuple (xs.map .int)),.d (.tuple (gs.map .int))]/\xs.length<=1000/\xs.length=gs.length/\Q (.tuple ((Jbk xs gs).map .int)) n
def Jd1:GSp:=λ as n Q=>∃ (w:Way) (s:St'),as=[.d (Y2 w),.d (stD s)]/\s.2.length<=1000/\s.2.length=w.g.length/\Q (.bool (Jiy w.a s.1 s.2 w.g)) n
noncomputable instance:Scal Jd1:=⟨λ {as n P} h=>by obtain ⟨w,s,e,h1,h2,q⟩:=h;exact ⟨w,s,e,h1,h2,rfl,q⟩⟩
def Jnt:GSn:=λ as n Q=>∃ (R U:Int) (ws:List Way) (s:St'),as=[.d (J3 R U ws),.d (stD s)]/\BookOk R U ws/\(s.2.length:Int)=U/\Q ((Vt ws s).map .int) n
def Jkc:GSp:=λ as n Q=>∃ (R U:Int) (ws:List Way) (s:St') (k:Int),as=[.d (J3 R U ws),.d (stD s),.d (.int k)]/\BookOk R U ws/\(s.2.length:Int)=U/\k∈Vt ws s/\Q (stD (B0 ws s k)) n
theorem Jv8 {ws:List Way}{s:St'}{k:Int}(h:k∈Vt ws s):(0<=k/\k<ws.length)/\Jiy (Jj ws k).a s.1 s.2 (Jj ws k).g=true:=by
 obtain ⟨i,hi,rfl⟩:=Qq.mp h
 obtain ⟨h1,h2⟩:=Xw.mp hi
 have:=Q5.mp h1
 exact ⟨⟨by omega,by omega⟩,h2⟩
end My
namespace L2
open My
section
variable {X:Cx}{x:Str}{e:Expr}{es:List Expr}{p pos:Pos}{t:TA}{k:Nat}{ps:List Str}{sp:Sp}{i:Int}{E:XK}
end
end L2
namespace My
open L2
section
variable {i:Nat}{sp:GSx}{t:TA}{gt:GA}{tv:TE}{gv:GE}{d:Int}{b:Bool}{E':XK}
end
theorem Vy:∀ xs gs:List Int,Br (xs.map Qn) (gs.map Qn)=(xs.zip gs).map λ p=>.tuple [.int p.1,.int p.2]
 | [],_=>by simp [Br]
 | _::_,[]=>by simp [Br]
 | x::xs,g::gs=>by
  rw [Xb,Xb,J7d,Xb,<- Vy xs gs]
  simp [Br]
theorem Jc7 (ws:List Way):Jap (ws.map Y2)=(Qg ws.length).map λ i=>.tuple [.int ((i:Nat):Int),Y2 (Jj ws ((i:Nat):Int))]:=by
 apply Xq
 intro i
 unfold Jap
 rw [J4t,Qm,Qm]
 by_cases h:i<ws.length
 . rw [X4 h,Qf h]
   have:Jj ws ((i:Nat):Int)=ws[i]:=by
    have h2:=Jc6 (ws:=ws) (k:=((i:Nat):Int)) (by omega) (by omega)
    unfold Jj
    simp [h]
   show some (Uy [.int ((i:Nat):Int),Y2 ws[i]])=some (Uy [.int ((i:Nat):Int),Y2 (Jj ws ((i:Nat):Int))])
   rw [this]
 . rw [Qx (by omega),Qx (by rw [Qz];omega)];rfl
theorem Jf7 {β:Type}{turn:Yal->Nat->(Option Yal->Nat->Prop)->Prop}{n:Nat}{g h:β->Yal}{p:β->Bool}:∀ {ks:List β}{Q:List Yal->Nat->Prop},(∀ k∈ks,∀ K:Option Yal->Nat->Prop,(p k=true->K (some (h k)) n)->(p k=false->K none n)->turn (g k) n K)->Q ((ks.filter p).map h) n->Jgy turn (ks.map g) n Q
 | [],_,_,q=>q
 | k::ks,Q,ht,q=>by
  refine ht k Qk _ (λ c=>?_) (λ c=>?_)
  . rw [J86 c] at q
    exact Jf7 (λ k hk=>ht k (Qj _ hk)) q
  . rw [J87 (by rw [c];exact Q4)] at q
    exact Jf7 (λ k hk=>ht k (Qj _ hk)) q
theorem Jtg (xs gs:List Int):Jbk xs gs=(xs.zip gs).map λ p=>p.1+p.2:=by
 unfold Jbk
 rw [J7e,J7f]
section
variable {K:Qb}{C:Addr}{s0:St'}{p:Kn}{Q:Yal->Prop}
end
section
variable {x t:Int}{xr gr:List Int}{N:Nat}
end
theorem Jhe {k:Int}:(Qo k.toNat [Qn 0]).flatten=(Qo k.toNat (0:Int)).map .int:=by
 rw [Jdx,J5s]
end My
namespace Tb
abbrev Vec:=Nat->Int
noncomputable def Jk:Nat->(Nat->Int)->Int
 | 0,_=>0
 | n+1,f=>Jk n f+f n
theorem Jh {n:Nat}{f g:Nat->Int}(h:∀ i,i<n->f i=g i):Jk n f=Jk n g:=by
 induction n with
 | zero=>rfl
 | succ n ih=>rw [Jk,Jk,ih λ i hi=>h i (by omega),h n (by omega)]
theorem We (n:Nat):Jk n (λ _=>0)=0:=by
 induction n with
 | zero=>rfl
 | succ n ih=>rw [Jk,ih];rfl
theorem Zk (n:Nat) (f g:Nat->Int):Jk n (λ i=>f i+g i)=Jk n f+Jk n g:=by
 induction n with
 | zero=>rfl
 | succ n ih=>rw [Jk,Jk,Jk,ih];omega
theorem Yn (n:Nat) (c:Int) (f:Nat->Int):Jk n (λ i=>c*f i)=c*Jk n f:=by
 induction n with
 | zero=>simp [Jk]
 | succ n ih=>rw [Jk,Jk,ih,U8]
theorem Je0 (n:Nat) (c:Int) (f:Nat->Int):Jk n (λ i=>f i*c)=Jk n f*c:=by grind [Tb.Yn,Tb.Jh,Tb.Jk,Q3]
theorem Za (n:Nat) (f:Nat->Int):Jk n (λ i=>-f i) = -Jk n f:=by
 induction n with
 | zero=>rfl
 | succ n ih=>rw [Jk,Jk,ih];omega
theorem J1 {n a:Nat}{f:Nat->Int}(ha:a<n) (h:∀ i,i<n->i≠a->f i=0):Jk n f=f a:=by
 induction n with
 | zero=>omega
 | succ n ih=>
  rw [Jk]
  by_cases e:a=n
  . subst e
    have:Jk a f=0:=by rw [Jh (g:=λ _=>0) λ i hi=>h i (by omega) (by omega),We]
    rw [this];omega
  . rw [ih (by omega) λ i hi hne=>h i (by omega) hne,h n (by omega) λ z=>e z.symm];omega
theorem Jlz {n a b:Nat}{f:Nat->Int}(ha:a<n) (hb:b<n) (hab:a≠b) (h:∀ i,i<n->i≠a->i≠b->f i=0):Jk n f=f a+f b:=by
 have e:Jk n f=Jk n (λ i=>(if i=a then f a else 0)+(if i=b then f b else 0)):=Jh λ i hi=>by
  by_cases h1:i=a
  . subst h1;rw [if_pos rfl,if_neg hab];omega
  . by_cases h2:i=b
    . subst h2;rw [if_neg h1,if_pos rfl];omega
    . rw [if_neg h1,if_neg h2,h i hi h1 h2];rfl
 rw [e,Zk,J1 (a:=a) ha (λ i _ hi=>if_neg hi),J1 (a:=b) hb (λ i _ hi=>if_neg hi),if_pos rfl,if_pos rfl]
theorem Jat (n m:Nat) (f:Nat->Nat->Int):Jk n (λ i=>Jk m (λ j=>f i j))=Jk m (λ j=>Jk n (λ i=>f i j)):=by
 induction n with
 | zero=>show 0=Jk m (λ _=>0);rw [We]
 | succ n ih=>
  show Jk n _+Jk m (λ j=>f n j)=Jk m (λ j=>Jk n (λ i=>f i j)+f n j)
  rw [ih,Zk]
noncomputable def sg (j:Nat):Int:=if j%2=0 then 1 else -1
theorem Jv9 (j:Nat):sg (j+1) = -sg j:=by unfold sg;split<;>split<;>omega
noncomputable def atV (vs:List Vec) (j:Nat):Vec:=vs.getD j (λ _=>0)
noncomputable def D:Nat->List Vec->Int
 | 0,_=>1
 | k+1,vs=>Jk vs.length λ j=>sg (j+k)*atV vs j k*D k (vs.eraseIdx j)
theorem Yt {vs:List Vec}{a:Nat}{v:Vec}(h:a<vs.length):atV (vs.set a v) a=v:=by (intros;simp_all [Tb.Vec,Tb.atV])
theorem Yj {vs:List Vec}{a b:Nat}{v:Vec}(h:a≠b):atV (vs.set a v) b=atV vs b:=by
 unfold atV;rw [Qi,Q1 h,<- Qi]
theorem Bu (vs:List Vec) (a:Nat) (v:Vec):(vs.set a v).eraseIdx a=vs.eraseIdx a:=by grind
theorem Ja4 (vs:List Vec) {a j:Nat}(v:Vec) (h:j<a):(vs.set a v).eraseIdx j=(vs.eraseIdx j).set (a-1) v:=by grind
theorem Ja5 (vs:List Vec) {a j:Nat}(v:Vec) (h:a<j):(vs.set a v).eraseIdx j=(vs.eraseIdx j).set a v:=by grind
theorem Jkd:∀ (k:Nat) (vs us:List Vec),vs.length=us.length->(∀ j,j<vs.length->∀ r,r<k->atV vs j r=atV us j r)->D k vs=D k us
 | 0,_,_,_,_=>rfl
 | k+1,vs,us,hl,h=>by
  rw [D,D,hl]
  refine Jh λ j hj=>?_
  rw [h j (by omega) k (by omega)]
  congr 1
  refine Jkd k _ _ (by rw [Ui (by omega),Ui hj,hl]) λ i hi r hr=>?_
  rw [Ui (by omega)] at hi
  have e:∀ ws:List Vec,atV (ws.eraseIdx j) i=if i<j then atV ws i else atV ws (i+1):=λ ws=>by
   unfold atV
   rw [Qi,J4v]
   split<;>rw [<- Qi]
  rw [e,e]
  split
  . exact h i (by omega) r (by omega)
  . exact h (i+1) (by omega) r (by omega)
theorem Jhf:∀ (k:Nat) (vs:List Vec) (a:Nat) (c d:Int) (u w:Vec),a<vs.length->vs.length=k->D k (vs.set a λ r=>c*u r+d*w r)=c*D k (vs.set a u)+d*D k (vs.set a w)
 | 0,vs,a,_,_,_,_,h,hk=>by omega
 | k+1,vs,a,c,d,u,w,h,hk=>by
  rw [D,D,D,Qp,Qp,Qp,<- Yn,<- Yn,<- Zk]
  refine Jh λ j hj=>?_
  rcases J7g j a with z | z | z
  . rw [Yj (by omega),Yj (by omega),Yj (by omega),Ja4 vs _ z,Ja4 vs _ z,Ja4 vs _ z,Jhf k _ (a-1) c d u w (by rw [Ui hj];omega) (by rw [Ui hj];omega)]
    rw [U8,Uc _ c,Uc _ d]
  . subst z
    rw [Yt h,Yt h,Yt h,Bu,Bu,Bu]
    rw [U8,J5t,Uc (sg (j+k)) c,Uc (sg (j+k)) d,Xe c,Xe d]
  . rw [Yj (by omega),Yj (by omega),Yj (by omega),Ja5 vs _ z,Ja5 vs _ z,Ja5 vs _ z,Jhf k _ a c d u w (by rw [Ui hj];omega) (by rw [Ui hj];omega)]
    rw [U8,Uc _ c,Uc _ d]
theorem Jpd:∀ (k:Nat) (vs:List Vec) (a:Nat),a+1<vs.length->vs.length=k->atV vs a=atV vs (a+1)->D k vs=0
 | 0,vs,a,h,hk,_=>by omega
 | k+1,vs,a,h,hk,e=>by
  have er:vs.eraseIdx a=vs.eraseIdx (a+1):=by
   apply Xq
   intro i
   rw [J4v,J4v]
   by_cases c1:i<a
   . rw [if_pos c1,if_pos (by omega)]
   . rw [if_neg c1]
     by_cases c2:i=a
     . subst c2
       rw [if_pos (by omega),Qf h,Qf (show i<vs.length by omega)]
       unfold atV at e
       rw [Qi,Qi,Qf h,Qf (show i<vs.length by omega)] at e
       exact congrArg some e.symm
     . rw [if_neg (by omega)]
  rw [D,Jlz (a:=a) (b:=a+1) (by omega) h (by omega) λ j hj h1 h2=>?_]
  . rw [show a+1+k=a+k+1 by omega,Jv9,<- er,e,J5u,J5u];omega
  . have:D k (vs.eraseIdx j)=0:=by
     have el:∀ i,atV (vs.eraseIdx j) i=if i<j then atV vs i else atV vs (i+1):=λ i=>by
      unfold atV
      rw [Qi,J4v]
      split<;>rw [<- Qi]
     rcases Uw j a with z | z
     . refine Jpd k _ (a-1) (by rw [Ui hj];omega) (by rw [Ui hj];omega) ?_
       rw [el,el,if_neg (by omega),if_neg (by omega),show a-1+1=a by omega];exact e
     . refine Jpd k _ a (by rw [Ui hj];omega) (by rw [Ui hj];omega) ?_
       rw [el,el,if_pos (by omega),if_pos (by omega)];exact e
    rw [this,Xc]
theorem Jke (vs:List Vec) {a:Nat}(h:a<vs.length):vs.set a (atV vs a)=vs:=by (intros;simp_all [Tb.Vec,Tb.atV])
theorem Jth {k:Nat}{vs:List Vec}{a:Nat}(u w:Vec) (h:a<vs.length) (hk:vs.length=k):D k (vs.set a λ r=>u r+w r)=D k (vs.set a u)+D k (vs.set a w):=by
 have:=Jhf k vs a 1 1 u w h hk
 rw [Um,Um] at this
 rw [<- this]
 congr 1;congr 1;funext r
 rw [Um,Um]
theorem Jpe {k:Nat}{vs:List Vec}{a b:Nat}(ha:a<vs.length) (hb:b<vs.length) (hab:a≠b) (hk:vs.length=k) (zero:∀ us:List Vec,us.length=k->atV us a=atV us b->D k us=0) (u w:Vec):D k ((vs.set a u).set b w) = -D k ((vs.set a w).set b u):=by
 have la:∀ (x:Vec),a<(vs.set b x).length:=λ x=>by rw [Qp];exact ha
 have lb:∀ (x:Vec),b<(vs.set a x).length:=λ x=>by rw [Qp];exact hb
 have z:∀ x:Vec,D k ((vs.set a x).set b x)=0:=λ x=>zero _ (by rw [Qp,Qp];exact hk) (by rw [Yj (Qh hab),Yt ha,Yt (lb x)])
 have h1:=z (λ r=>u r+w r)
 rw [Jth u w (lb _) (by rw [Qp];exact hk)] at h1
 have c:∀ x y:Vec,(vs.set a x).set b y=(vs.set b y).set a x:=λ x y=>J74 _ _ hab
 rw [c,c,Jth u w (la _) (by rw [Qp];exact hk),Jth u w (la _) (by rw [Qp];exact hk),<- c,<- c,<- c,<- c,z u,z w] at h1
 omega
theorem Jti {k:Nat}:∀ (d a:Nat) (vs:List Vec),a+d+1<vs.length->vs.length=k->atV vs a=atV vs (a+d+1)->D k vs=0
 | 0,a,vs,h,hk,e=>Jpd k vs a h hk e
 | d+1,a,vs,h,hk,e=>by
  have hz:∀ us:List Vec,us.length=k->atV us (a+d+1)=atV us (a+d+2)->D k us=0:=λ us hu he=>Jpd k us (a+d+1) (by omega) hu he
  have p:=Jpe (vs:=vs) (a:=a+d+1) (b:=a+d+2) (by omega) (by omega) (by omega) hk hz (atV vs (a+d+1)) (atV vs (a+d+2))
  rw [Jke vs (by omega),Jke vs (by omega)] at p
  rw [p,Jti d a _ (by rw [Qp,Qp];omega) (by rw [Qp,Qp];exact hk) ?_]
  . rfl
  . rw [Yj (by omega),Yj (by omega),Yj (by omega),Yt (by omega)]
    exact e
theorem Jtj {k:Nat}{vs:List Vec}{a b:Nat}(ha:a<vs.length) (hb:b<vs.length) (hab:a≠b) (hk:vs.length=k) (e:atV vs a=atV vs b):D k vs=0:=by
 rcases J7g a b with z | z | z
 . exact Jti (b-a-1) a vs (by omega) hk (by rw [show a+(b-a-1)+1=b by omega];exact e)
 . exact absurd z hab
 . exact Jti (a-b-1) b vs (by omega) hk (by rw [show b+(a-b-1)+1=a by omega];exact e.symm)
theorem Jzo {k:Nat}{vs:List Vec}{a b:Nat}(ha:a<vs.length) (hb:b<vs.length) (hab:a≠b) (hk:vs.length=k) (u w:Vec):D k ((vs.set a u).set b w) = -D k ((vs.set a w).set b u):=
 Jpe ha hb hab hk (λ us hu he=>Jtj (by omega) (by omega) hab hu he) u w
theorem Jxy {k:Nat}{vs:List Vec}{a:Nat}(ha:a<vs.length) (hk:vs.length=k) (c:Nat->Int) (u:Nat->Vec):∀ n,D k (vs.set a λ r=>Jk n λ i=>c i*u i r)=Jk n λ i=>c i*D k (vs.set a (u i))
 | 0=>by
  have:=Jhf k vs a 0 0 (λ _=>0) (λ _=>0) ha hk
  simp only [Q6,J4w] at this
  exact this
 | n+1=>by
  have:=Jhf k vs a 1 (c n) (λ r=>Jk n λ i=>c i*u i r) (u n) ha hk
  rw [Um,Jxy ha hk c u n] at this
  show D k (vs.set a λ r=>Jk n (λ i=>c i*u i r)+c n*u n r)=Jk n (λ i=>c i*D k (vs.set a (u i)))+c n*D k (vs.set a (u n))
  rw [<- this]
  congr 1;congr 1;funext r
  rw [Um]
theorem Jpf {k:Nat}{vs:List Vec}{a:Nat}(ha:a<vs.length) (hk:vs.length=k) (c:Int) (u:Vec):D k (vs.set a λ r=>c*u r)=c*D k (vs.set a u):=by
 have:=Jhf k vs a c 0 u (λ _=>0) ha hk
 simp only [Q6,J4w] at this
 exact this
theorem Jzp {k:Nat}{vs:List Vec}{a:Nat}(ha:a<vs.length) (hk:vs.length=k) (h:∀ r,r<k->atV vs a r=0):D k vs=0:=by
 have:=Jpf ha hk 0 (atV vs a)
 rw [Q6] at this
 rw [<- this]
 refine Jkd k _ _ (by rw [Qp]) λ j hj r hr=>?_
 by_cases e:a=j
 . subst e;rw [Yt ha,h r hr,Q6]
 . rw [Yj e]
theorem Jtk (k:Nat):sg (k+k)=1:=by unfold sg;rw [if_pos (by omega)]
noncomputable def cr (m:Nat) (B:List Vec) (i:Nat) (v:Vec):Int:=D m (B.set i v)
structure Base (m:Nat) (B:List Vec):Prop where
 len:B.length=m
 pos:0<D m B
 cra:∀ (v:Vec) (r:Nat),r<m->D m B*v r=Jk m λ i=>cr m B i v*atV B i r
section
variable {m:Nat}{B:List Vec}
theorem Jd2 (hB:B.length=m) {i:Nat}(hi:i<m):cr m B i (atV B i)=D m B:=by unfold cr;rw [Jke B (by omega)]
theorem Jd3 (hB:B.length=m) {i r:Nat}(hi:i<m) (hr:r<m) (h:i≠r):cr m B i (atV B r)=0:=by
 unfold cr
 refine Jtj (a:=i) (b:=r) (by rw [Qp];omega) (by rw [Qp];omega) h (by rw [Qp];exact hB) ?_
 rw [Yt (by omega),Yj h]
theorem Jb0 (hB:B.length=m) {i:Nat}(hi:i<m) {v w:Vec}(h:∀ r,r<m->v r=w r):cr m B i v=cr m B i w:=by
 unfold cr
 refine Jkd m _ _ (by rw [Qp,Qp]) λ j hj r hr=>?_
 by_cases e:i=j
 . subst e;rw [Yt (by omega),Yt (by omega)];exact h r hr
 . rw [Yj e,Yj e]
theorem Jzq (hB:B.length=m) {i:Nat}(hi:i<m) (c d:Int) (v w:Vec):cr m B i (λ r=>c*v r+d*w r)=c*cr m B i v+d*cr m B i w:=Jhf m B i c d v w (by omega) hB
theorem Jhg (hB:B.length=m) {i:Nat}(hi:i<m) (c:Int) (v:Vec):cr m B i (λ r=>c*v r)=c*cr m B i v:=Jpf (by omega) hB c v
theorem Jhh (hB:B.length=m) {i:Nat}(hi:i<m) (c:Nat->Int) (u:Nat->Vec) (n:Nat):cr m B i (λ r=>Jk n λ j=>c j*u j r)=Jk n λ j=>c j*cr m B i (u j):=Jxy (by omega) hB c u n
theorem Jb1 (hb:Base m B) {l i:Nat}(hl:l<m) (hi:i<m) (hil:i≠l) (c v:Vec):D m B*cr m (B.set l c) i v=cr m B l c*cr m B i v-cr m B i c*cr m B l v:=by
 have hB:=hb.len
 have hB':(B.set l c).length=m:=by rw [Qp];exact hB
 rw [<- Jhg hB' hi,Jb0 hB' hi (hb.cra v)]
 rw [Jhh hB' hi]
 rw [Jlz (a:=i) (b:=l) hi hl hil λ r hr h1 h2=>?_]
 . have e1:cr m (B.set l c) i (atV B i)=cr m B l c:=by
    have:atV B i=atV (B.set l c) i:=(Yj (Qh hil)).symm
    rw [this,Jd2 hB' hi];rfl
   have e2:cr m (B.set l c) i (atV B l) = -cr m B i c:=by
    unfold cr
    rw [Jzo (a:=l) (b:=i) (by omega) (by omega) (Qh hil) hB c (atV B l)]
    rw [Jke B (by omega)]
   rw [e1,e2,Q3 (cr m B i v),J3f,Q3 (cr m B l v)];omega
 . have:atV B r=atV (B.set l c) r:=(Yj (Qh h2)).symm
   rw [this,Jd3 hB' hi hr (Qh h1),Xc]
theorem Jkf (hB:B.length=m) {l:Nat}(hl:l<m) (c v:Vec):cr m (B.set l c) l v=cr m B l v:=by
 unfold cr
 rw [J9d]
theorem Base.swap (hb:Base m B) {l:Nat}(hl:l<m) {c:Vec}(hp:0<cr m B l c):Base m (B.set l c):=by
 have hB:=hb.len
 have hq:=hb.pos
 refine ⟨by rw [Qp];exact hB,hp,λ v r hr=>?_⟩
 refine J7h (J5v hq) ?_
 rw [<- Yn]
 have e0:D m (B.set l c)=cr m B l c:=rfl
 rw [e0,Uc,hb.cra v r hr]
 have step:∀ i,i<m->D m B*(cr m (B.set l c) i v*atV (B.set l c) i r)=cr m B l c*(cr m B i v*atV B i r)+(if i=l then cr m B l v*(D m B*c r)-cr m B l v*(cr m B l c*atV B l r) else -(cr m B l v*(cr m B i c*atV B i r))):=λ i hi=>by
  by_cases e:i=l
  . subst e
    rw [if_pos rfl,Jkf hB hi,Yt (by omega),Uc,Uc (cr m B i c)]
    omega
  . rw [if_neg e,Yj (Qh e),<- Xe,Jb1 hb hl hi e,J5w,Xe,Q3 (cr m B i c),Xe]
    omega
 rw [Jh step,Zk,Yn]
 have key:Jk m (λ i=>if i=l then cr m B l v*(D m B*c r)-cr m B l v*(cr m B l c*atV B l r) else -(cr m B l v*(cr m B i c*atV B i r)))=0:=by
  have e2:∀ i,i<m->(if i=l then cr m B l v*(D m B*c r)-cr m B l v*(cr m B l c*atV B l r) else -(cr m B l v*(cr m B i c*atV B i r)))=(if i=l then cr m B l v*(D m B*c r) else 0) + -(cr m B l v*(cr m B i c*atV B i r)):=λ i _=>by
   by_cases e:i=l
   . subst e;rw [if_pos rfl,if_pos rfl];omega
   . rw [if_neg e,if_neg e];omega
  rw [Jh e2,Zk,J1 (a:=l) hl (λ i _ hi=>if_neg hi),if_pos rfl,Za,Yn,<- hb.cra c r hr]
  omega
 rw [key];omega
noncomputable def Z6 (i:Nat):Vec:=λ r=>if r=i then 1 else 0
end
theorem Jau (vs:List Vec) (j i:Nat):atV (vs.eraseIdx j) i=if i<j then atV vs i else atV vs (i+1):=by
 unfold atV
 rw [Qi,J4v]
 split<;>rw [<- Qi]
theorem Ja6:∀ (k:Nat) (vs:List Vec) (i:Nat),vs.length=k->i<k->(∀ j,j<k->j≠i->atV vs j=Z6 j)->D k vs=atV vs i i
 | 0,_,_,_,h,_=>by omega
 | k+1,vs,i,hl,hi,hu=>by
  rw [D,hl]
  have le:∀ j,j<k+1->(vs.eraseIdx j).length=k:=λ j hj=>by rw [Ui (by omega)];omega
  by_cases e:i=k
  . subst e
    have one:D i (vs.eraseIdx i)=1:=by
     cases i with
     | zero=>rfl
     | succ i=>
      rw [Ja6 (i+1) _ 0 (le _ (by omega)) (by omega) λ j hj _=>?_,Jau,if_pos (by omega),hu 0 (by omega) (by omega)]
      . rfl
      . rw [Jau,if_pos hj,hu j (by omega) (by omega)]
    rw [J1 (a:=i) (by omega) λ j hj hne=>?_,Jtk,one]
    . omega
    . rw [hu j hj hne]
      have:Z6 j i=0:=if_neg (by omega)
      rw [this,Xc,Q6]
  . have hik:i<k:=by omega
    rw [J1 (a:=k) (by omega) λ j hj hne=>?_,Jtk,hu k (by omega) (λ z=>e z.symm),Ja6 k _ i (le k (by omega)) hik λ j hj hne=>?_,Jau,if_pos hik]
    . have:Z6 k k=1:=if_pos rfl
      rw [this];omega
    . rw [Jau,if_pos hj,hu j (by omega) hne]
    . by_cases ej:j=i
      . subst ej
        rw [Jzp (a:=k-1) (by rw [le j hj];omega) (le j hj) λ r hr=>?_,Xc]
        rw [Jau,if_neg (by omega),show k-1+1=k by omega,hu k (by omega) (by omega)]
        exact if_neg (by omega)
      . rw [hu j hj ej]
        have:Z6 j k=0:=if_neg (by omega)
        rw [this,Xc,Q6]
noncomputable def Jb2 (m:Nat):List Vec:=(Qg m).map Z6
theorem Jd4 {m i:Nat}(h:i<m):atV (Jb2 m) i=Z6 i:=by
 unfold atV Jb2
 rw [Qi,Qm,X4 h];rfl
theorem Jkg {m i:Nat}(h:i<m) (v:Vec):cr m (Jb2 m) i v=v i:=by
 have hl:(Jb2 m).length=m:=by unfold Jb2;rw [Qc,Qz]
 unfold cr
 rw [Ja6 m _ i (by rw [Qp];exact hl) h λ j hj hne=>by rw [Yj (Qh hne),Jd4 hj]]
 rw [Yt (by omega)]
theorem Jnu (m:Nat):D m (Jb2 m)=1:=by
 cases m with
 | zero=>rfl
 | succ m=>
  have hl:(Jb2 (m+1)).length=m+1:=by unfold Jb2;rw [Qc,Qz]
  rw [Ja6 (m+1) _ 0 hl (by omega) λ j hj _=>Jd4 hj,Jd4 (by omega)];rfl
theorem Jqz (m:Nat):Base m (Jb2 m):=by
 refine ⟨by unfold Jb2;rw [Qc,Qz],by rw [Jnu];decide,λ v r hr=>?_⟩
 rw [Jnu,Um,J1 (a:=r) hr λ i hi hne=>?_]
 . rw [Jkg hr,Jd4 hr]
   have:Z6 r r=1:=if_pos rfl
   rw [this,J3j]
 . rw [Jd4 hi]
   have:Z6 i r=0:=if_neg (Qh hne)
   rw [this,Xc]
noncomputable def Jd5 (b:Nat):Nat->Nat
 | 0=>1
 | k+1=>(k+1)*b*Jd5 b k
theorem Jd6 {n:Nat}{f:Nat->Int}{b:Nat}(h:∀ i,i<n->(f i).natAbs<=b):(Jk n f).natAbs<=n*b:=by
 induction n with
 | zero=>simp [Jk]
 | succ n ih=>
  rw [Jk,Nat.succ_mul]
  have h1:=ih λ i hi=>h i (by omega)
  have h2:=h n (by omega)
  have:=Int.natAbs_add_le (Jk n f) (f n)
  omega
theorem Jl0 {b:Nat}:∀ (k:Nat) (vs:List Vec),vs.length=k->(∀ j,j<k->∀ r,r<k->(atV vs j r).natAbs<=b)->(D k vs).natAbs<=Jd5 b k
 | 0,_,_,_=>Ql _
 | k+1,vs,hl,h=>by
  rw [D,hl,Jd5,Nat.mul_assoc]
  refine Jd6 λ j hj=>?_
  rw [J3v,J3v]
  have s1:(sg (j+k)).natAbs=1:=by unfold sg;split<;>rfl
  rw [s1,Nat.one_mul]
  refine J4x (h j hj k (by omega)) (Jl0 k _ (by rw [Ui (by omega)];omega) λ i hi r hr=>?_)
  rw [Jau]
  split
  . exact h i (by omega) r (by omega)
  . exact h (i+1) (by omega) r (by omega)
structure Tab where
 fr:List Nat
 bd:List Nat
 rows:List (List Int)
 q:Int
noncomputable def Tab.f (T:Tab) (j:Nat):Nat:=T.fr.getD j 0
noncomputable def Tab.b (T:Tab) (i:Nat):Nat:=T.bd.getD i 0
noncomputable def Tab.row (T:Tab) (i:Nat):List Int:=T.rows.getD i []
noncomputable def Tab.e (T:Tab) (i j:Nat):Int:=(T.row i).getD j 0
noncomputable def Jb3 (q:Int) (row other:List Int) (k:Nat):List Int:=(J35 (λ x y=>(row.getD k 0*x-other.getD k 0*y)/q) other row).set k (-(other.getD k 0))
noncomputable def Tab.ex (T:Tab) (l k:Nat):Tab:=⟨T.fr.set k (T.b l),T.bd.set l (T.f k),(T.rows.map λ o=>Jb3 T.q (T.row l) o k).set l ((T.row l).set k T.q),T.e l k⟩
structure TabOk (m n:Nat) (c:Nat->Vec) (rhs:Vec) (T:Tab):Prop where
 lb:T.bd.length=m
 lf:T.fr.length=n
 lr:T.rows.length=m
 lw:∀ i,i<m->(T.row i).length=n+1
 base:Base m (T.bd.map c)
 qq:T.q=D m (T.bd.map c)
 en:∀ i,i<m->∀ j,j<n->T.e i j=cr m (T.bd.map c) i (c (T.f j))
 el:∀ i,i<m->T.e i n=cr m (T.bd.map c) i rhs
 bi:∀ i i',i<m->i'<m->T.b i=T.b i'->i=i'
 fi:∀ j j',j<n->j'<n->T.f j=T.f j'->j=j'
 ne:∀ i j,i<m->j<n->T.b i≠T.f j
section
variable {m n:Nat}{c:Nat->Vec}{rhs:Vec}{T:Tab}
theorem Zx {α:Type}{l:List α}{i:Nat}{x d:α}(h:i<l.length):(l.set i x).getD i d=x:=by grind
theorem Z7 {α:Type}{l:List α}{i j:Nat}{x d:α}(h:i≠j):(l.set i x).getD j d=l.getD j d:=by grind
theorem at_map {l:List Nat}{c:Nat->Vec}{i:Nat}(h:i<l.length):atV (l.map c) i=c (l.getD i 0):=by (intros;simp_all [Tb.Vec,Tb.atV])
theorem Jtl {f:Int->Int->Int}{xs ys:List Int}{j:Nat}(hx:j<xs.length) (hy:j<ys.length):(J35 f xs ys).getD j 0=f (xs.getD j 0) (ys.getD j 0):=by grind
theorem TabOk.qpos (h:TabOk m n c rhs T):0<T.q:=by rw [h.qq];exact h.base.pos
theorem TabOk.at_b (h:TabOk m n c rhs T) {i:Nat}(hi:i<m):atV (T.bd.map c) i=c (T.b i):=at_map (by rw [h.lb];exact hi)
theorem Jhi (h:TabOk m n c rhs T) {l k:Nat}(hl:l<m):(T.ex l k).row l=(T.row l).set k T.q:=by
 unfold Tab.ex Tab.row
 exact Zx (by rw [Qc,h.lr];exact hl)
theorem Jnv (h:TabOk m n c rhs T) {l k i:Nat}(hi:i<m) (hil:i≠l):(T.ex l k).row i=Jb3 T.q (T.row l) (T.row i) k:=by
 have hi':i<T.rows.length:=by rw [h.lr];exact hi
 show (((T.rows.map λ o=>Jb3 T.q (T.row l) o k).set l _).getD i [])=Jb3 T.q (T.row l) (T.rows.getD i []) k
 rw [Z7 (Qh hil),Qi,Qm,Qf hi',Qi,Qf hi']
 rfl
theorem Jb4 (h:TabOk m n c rhs T) {l k:Nat}(hk:k<n):(T.ex l k).f k=T.b l:=Zx (by rw [h.lf];exact hk)
theorem Jih {l k j:Nat}(hj:j≠k):(T.ex l k).f j=T.f j:=Z7 (Qh hj)
theorem Jb5 (h:TabOk m n c rhs T) {l k:Nat}(hl:l<m):(T.ex l k).b l=T.f k:=Zx (by rw [h.lb];exact hl)
theorem Jfx {l k i:Nat}(hi:i≠l):(T.ex l k).b i=T.b i:=Z7 (Qh hi)
theorem Jd7 (l k:Nat):(T.ex l k).bd.map c=(T.bd.map c).set l (c (T.f k)):=by
 show (T.bd.set l (T.f k)).map c=_
 rw [X5]
theorem Jwa (h:TabOk m n c rhs T) {l k:Nat}(hl:l<m) (hk:k<n):(T.ex l k).e l k=T.q:=by
 unfold Tab.e
 rw [Jhi h hl,Zx (by rw [h.lw l hl];omega)]
theorem Jkh (h:TabOk m n c rhs T) {l k j:Nat}(hl:l<m) (hj:j≠k):(T.ex l k).e l j=T.e l j:=by
 unfold Tab.e
 rw [Jhi h hl,Z7 (Qh hj)]
theorem Jwb (h:TabOk m n c rhs T) {l k i:Nat}(hi:i<m) (hl:l<m) (hk:k<n) (hil:i≠l):(T.ex l k).e i k = -T.e i k:=by
 unfold Tab.e
 rw [Jnv h hi hil]
 unfold Jb3
 rw [Zx (by rw [J5p,h.lw i hi,h.lw l hl];omega)]
theorem J1v (h:TabOk m n c rhs T) {l k i j:Nat}(hi:i<m) (hl:l<m) (hj:j<n+1) (hil:i≠l) (hjk:j≠k):(T.ex l k).e i j=(T.e l k*T.e i j-T.e i k*T.e l j)/T.q:=by
 unfold Tab.e
 rw [Jnv h hi hil]
 unfold Jb3
 rw [Z7 (Qh hjk),Jtl (by rw [h.lw i hi];exact hj) (by rw [h.lw l hl];exact hj)]
theorem TabOk.ex (h:TabOk m n c rhs T) {l k:Nat}(hl:l<m) (hk:k<n) (hp:0<T.e l k):TabOk m n c rhs (T.ex l k):=by
 have hB:=h.base.len
 have el:T.e l k=cr m (T.bd.map c) l (c (T.f k)):=h.en l hl k hk
 have qne:T.q≠0:=J5v h.qpos
 have div:∀ {x y:Int},T.q*x=y->y/T.q=x:=λ {x y} e=>by rw [<- e,Int.mul_ediv_cancel_left _ qne]
 refine ⟨by show (T.bd.set l _).length=m;rw [Qp];exact h.lb,by show (T.fr.set k _).length=n;rw [Qp];exact h.lf,by show ((T.rows.map _).set l _).length=m;rw [Qp,Qc];exact h.lr,λ i hi=>?_,?_,?_,λ i hi j hj=>?_,λ i hi=>?_,λ i i' hi hi' e=>?_,λ j j' hj hj' e=>?_,λ i j hi hj e=>?_⟩
 . by_cases e:i=l
   . subst e;rw [Jhi h hi,Qp];exact h.lw i hi
   . rw [Jnv h hi e]
     unfold Jb3
     rw [Qp,J5p,h.lw i hi,h.lw l hl];omega
 . rw [Jd7]
   exact h.base.swap hl (by rw [<- el];exact hp)
 . rw [Jd7];exact el
 . rw [Jd7]
   by_cases e:i=l
   . subst e
     rw [Jkf hB hl]
     by_cases e2:j=k
     . subst e2
       rw [Jwa h hi hj,Jb4 h hj,h.qq,<- h.at_b hi,Jd2 hB hi]
     . rw [Jkh h hi e2,Jih e2];exact h.en i hi j hj
   . by_cases e2:j=k
     . subst e2
       rw [Jwb h hi hl hj e,Jb4 h hj,h.en i hi j hj]
       have:=Jb1 h.base hl hi e (c (T.f j)) (c (T.b l))
       rw [<- h.at_b hl,Jd3 hB hi hl e,Jd2 hB hl,<- h.qq] at this
       refine (J7h qne ?_).symm
       rw [<- h.at_b hl,this,Xc,J3f,Q3 T.q];omega
     . rw [J1v h hi hl (by omega) e e2,Jih e2]
       refine div ?_
       rw [h.qq,Jb1 h.base hl hi e,<- el,<- h.en i hi j hj,<- h.en i hi k hk,<- h.en l hl j hj]
 . rw [Jd7]
   by_cases e:i=l
   . subst e
     rw [Jkf hB hl,Jkh h hi (by omega)];exact h.el i hi
   . rw [J1v h hi hl (by omega) e (by omega)]
     refine div ?_
     rw [h.qq,Jb1 h.base hl hi e,<- el,<- h.el i hi,<- h.en i hi k hk,<- h.el l hl]
 . by_cases a:i=l
   . by_cases b:i'=l
     . rw [a,b]
     . subst a
       rw [Jb5 h hi,Jfx b] at e
       exact absurd e.symm (h.ne i' k hi' hk)
   . by_cases b:i'=l
     . subst b
       rw [Jb5 h hi',Jfx a] at e
       exact absurd e (h.ne i k hi hk)
     . rw [Jfx a,Jfx b] at e
       exact h.bi i i' hi hi' e
 . by_cases a:j=k
   . by_cases b:j'=k
     . rw [a,b]
     . subst a
       rw [Jb4 h hj,Jih b] at e
       exact absurd e (h.ne l j' hl hj')
   . by_cases b:j'=k
     . subst b
       rw [Jb4 h hj',Jih a] at e
       exact absurd e.symm (h.ne l j hl hj)
     . rw [Jih a,Jih b] at e
       exact h.fi j j' hj hj' e
 . by_cases a:i=l
   . subst a
     rw [Jb5 h hi] at e
     by_cases b:j=k
     . subst b;rw [Jb4 h hj] at e;exact h.ne i j hi hj e.symm
     . rw [Jih b] at e
       exact b (h.fi k j hk hj e).symm
   . rw [Jfx a] at e
     by_cases b:j=k
     . subst b;rw [Jb4 h hj] at e;exact a (h.bi i l hi hl e)
     . rw [Jih b] at e;exact h.ne i j hi hj e
noncomputable def Tab.tot (T:Tab) (m n:Nat) (g:Nat->Int):Int:=Jk m (λ i=>g (T.b i))+Jk n (λ j=>g (T.f j))
theorem Jhj {n k:Nat}{f g:Nat->Int}(hk:k<n) (h:∀ i,i<n->i≠k->f i=g i):Jk n f=Jk n g+(f k-g k):=by
 have:Jk n f=Jk n (λ i=>g i+(if i=k then f k-g k else 0)):=Jh λ i hi=>by
  by_cases e:i=k
  . subst e;rw [if_pos rfl];omega
  . rw [if_neg e,h i hi e];omega
 rw [this,Zk,J1 (a:=k) hk (λ i _ hi=>if_neg hi),if_pos rfl]
theorem Jtm (h:TabOk m n c rhs T) {l k:Nat}(hl:l<m) (hk:k<n) (g:Nat->Int):(T.ex l k).tot m n g=T.tot m n g:=by
 unfold Tab.tot
 rw [Jhj (k:=l) (f:=λ i=>g ((T.ex l k).b i)) (g:=λ i=>g (T.b i)) hl (λ i _ hne=>by rw [Jfx hne]),Jhj (k:=k) (f:=λ j=>g ((T.ex l k).f j)) (g:=λ j=>g (T.f j)) hk (λ j _ hne=>by rw [Jih hne])]
 rw [Jb5 h hl,Jb4 h hk]
 omega
end
noncomputable def ind (W:List Nat) (ν:Nat) (x:Int):Int:=if ν∈W then x else 0
noncomputable def Tab.rise (T:Tab) (m:Nat) (W:List Nat) (j:Nat):Int:=ind W (T.f j) T.q-Jk m λ i=>ind W (T.b i) (T.e i j)
def Sol (m n:Nat) (c:Nat->Vec) (T:Tab) (x:Nat->Int):Prop:=∀ r,r<m->T.tot m n (λ ν=>x ν * c ν r)=0
theorem Jki (W:List Nat) (ν:Nat) (a b:Int):ind W ν a*b=ind W ν (a*b):=by unfold ind;split;rfl;exact Q6 _
theorem Jb6 (W:List Nat) (ν:Nat) (a b:Int):a*ind W ν b=ind W ν (a*b):=by unfold ind;split;rfl;exact Xc _
section
variable {m n:Nat}{c:Nat->Vec}{rhs:Vec}{T:Tab}{W:List Nat}{x:Nat->Int}
theorem Jwc (h:TabOk m n c rhs T) (s:Sol m n c T x) {i:Nat}(hi:i<m):T.q*x (T.b i) = -Jk n λ j=>T.e i j*x (T.f j):=by
 have hB:=h.base.len
 have z:cr m (T.bd.map c) i (λ r=>Jk m (λ t=>x (T.b t)*c (T.b t) r)+Jk n (λ j=>x (T.f j)*c (T.f j) r))=0:=by
  rw [Jb0 hB hi (w:=λ r=>0*(λ _=>0:Vec) r) (λ r hr=>by rw [Q6];exact s r hr),Jhg hB hi,Q6]
 have e:=Jzq hB hi 1 1 (λ r=>Jk m (λ t=>x (T.b t)*c (T.b t) r)) (λ r=>Jk n (λ j=>x (T.f j)*c (T.f j) r))
 simp only [Um] at e
 rw [z,Jhh hB hi,Jhh hB hi] at e
 rw [J1 (a:=i) hi (λ t ht hne=>by rw [<- h.at_b ht,Jd3 hB hi ht (Qh hne),Xc]),<- h.at_b hi,Jd2 hB hi,<- h.qq] at e
 have e2:Jk n (λ j=>x (T.f j)*cr m (T.bd.map c) i (c (T.f j)))=Jk n λ j=>T.e i j*x (T.f j):=Jh λ j hj=>by rw [h.en i hi j hj,Q3]
 rw [e2,Q3] at e
 omega
theorem Jhk (h:TabOk m n c rhs T) (s:Sol m n c T x):T.q*T.tot m n (λ ν=>ind W ν (x ν))=Jk n λ j=>T.rise m W j*x (T.f j):=by
 unfold Tab.tot
 rw [U8,<- Yn,<- Yn]
 have e1:Jk m (λ i=>T.q*ind W (T.b i) (x (T.b i))) = -Jk n (λ j=>Jk m (λ i=>ind W (T.b i) (T.e i j))*x (T.f j)):=by
  have:∀ i,i<m->T.q*ind W (T.b i) (x (T.b i)) = -Jk n (λ j=>ind W (T.b i) (T.e i j)*x (T.f j)):=λ i hi=>by
   rw [Jb6,Jwc h s hi]
   by_cases w:T.b i∈W
   . unfold ind;rw [if_pos w]
     congr 1
     exact Jh λ j _=>by rw [if_pos w]
   . unfold ind;rw [if_neg w]
     rw [Jh (g:=λ _=>0) λ j _=>by rw [if_neg w,Q6],We];rfl
  rw [Jh this,Za,Jat]
  congr 1
  exact Jh λ j _=>Je0 m (x (T.f j)) _
 rw [e1]
 have e2:Jk n (λ j=>T.rise m W j*x (T.f j))=Jk n (λ j=>T.q*ind W (T.f j) (x (T.f j)) + -(Jk m (λ i=>ind W (T.b i) (T.e i j))*x (T.f j))):=Jh λ j _=>by
  unfold Tab.rise
  rw [J5w,Jki,Jb6];omega
 rw [e2,Zk,Za]
 exact Int.add_comm _ _
noncomputable def Tab.dir (T:Tab) (m k:Nat) (ν:Nat):Int:=(if ν = T.f k then T.q else 0)-Jk m λ i=>if T.b i = ν then T.e i k else 0
theorem Jtn (h:TabOk m n c rhs T) {k i:Nat}(hk:k<n) (hi:i<m):T.dir m k (T.b i) = -T.e i k:=by
 unfold Tab.dir
 rw [if_neg (h.ne i k hi hk),J1 (a:=i) hi (λ t ht hne=>if_neg λ z=>hne (h.bi t i ht hi z)),if_pos rfl];omega
theorem Jpg (h:TabOk m n c rhs T) {k:Nat}(hk:k<n):T.dir m k (T.f k)=T.q:=by
 unfold Tab.dir
 rw [if_pos rfl,Jh (g:=λ _=>0) (λ i hi=>if_neg (h.ne i k hi hk)),We];omega
theorem Jto (h:TabOk m n c rhs T) {k j:Nat}(hk:k<n) (hj:j<n) (hne:j≠k):T.dir m k (T.f j)=0:=by
 unfold Tab.dir
 rw [if_neg (λ z=>hne (h.fi j k hj hk z)),Jh (g:=λ _=>0) (λ i hi=>if_neg (h.ne i j hi hj)),We];rfl
theorem Jf8 (h:TabOk m n c rhs T) {k:Nat}(hk:k<n):Sol m n c T (T.dir m k):=λ r hr=>by
 unfold Tab.tot
 rw [J1 (f:=λ j=>T.dir m k (T.f j)*c (T.f j) r) (a:=k) hk (λ j hj hne=>by rw [Jto h hk hj hne,Q6]),Jpg h hk]
 rw [h.qq,h.base.cra (c (T.f k)) r hr,Jh (f:=λ i=>T.dir m k (T.b i)*c (T.b i) r) (g:=λ i=>-(cr m (T.bd.map c) i (c (T.f k))*atV (T.bd.map c) i r)) (λ i hi=>by rw [Jtn h hk hi,h.at_b hi,h.en i hi k hk,J5u]),Za]
 omega
theorem Jc8 (h:TabOk m n c rhs T) {k:Nat}(hk:k<n):T.tot m n (λ ν=>ind W ν (T.dir m k ν))=T.rise m W k:=by
 have e:=Jhk (W:=W) h (Jf8 h hk)
 rw [J1 (a:=k) hk (λ j hj hne=>by rw [Jto h hk hj hne,Xc]),Jpg h hk,Q3] at e
 exact Int.eq_of_mul_eq_mul_right (J5v h.qpos) e
theorem Jzr {T':Tab}(p:∀ g,T'.tot m n g=T.tot m n g):Sol m n c T x->Sol m n c T' x:=λ s r hr=>by rw [p];exact s r hr
structure Y0 (m n:Nat) (W:List Nat) (T:Tab) (l k:Nat):Prop where
 hl:l<m
 hk:k<n
 rise:0<T.rise m W k
 first:∀ j,j<n->0<T.rise m W j->T.f k<=T.f j
 pos:0<T.e l k
 low:∀ i,i<m->0<T.e i k->T.b l<=T.b i
theorem W8 {n:Nat}{f:Nat->Int}(h:0<Jk n f):∃ j,j<n/\0<f j:=by
 induction n with
 | zero=>exact absurd h (by simp [Jk])
 | succ n ih=>
  rw [Jk] at h
  by_cases e:0<f n
  . exact ⟨n,by omega,e⟩
  . obtain ⟨j,hj,hp⟩:=ih (by omega)
    exact ⟨j,by omega,hp⟩
end
structure Path (m n:Nat) (c:Nat->Vec) (rhs:Vec) (W:List Nat) (N:Nat) (st:Nat->Tab) (l k:Nat->Nat):Prop where
 ok:∀ t,t<=N->TabOk m n c rhs (st t)
 sp:∀ t,t<N->Y0 m n W (st t) (l t) (k t)
 ex:∀ t,t<N->st (t+1)=(st t).ex (l t) (k t)
section
variable {m n:Nat}{c:Nat->Vec}{rhs:Vec}{W:List Nat}{N:Nat}{st:Nat->Tab}{l k:Nat->Nat}
def inB (m:Nat) (T:Tab) (ν:Nat):Prop:=∃ i,i<m/\T.b i = ν
theorem Jtp (f:Nat->Nat) (a:Nat):∀ d,∃ t,a<=t/\t<a+d+1/\∀ s,a<=s->s<a+d+1->f s<=f t
 | 0=>⟨a,Ql _,by omega,λ s h1 h2=>by rw [show s=a by omega];exact Ql _⟩
 | d+1=>by
  obtain ⟨t,h1,h2,h3⟩:=Jtp f a d
  by_cases e:f t<=f (a+d+1)
  . refine ⟨a+d+1,by omega,by omega,λ s s1 s2=>?_⟩
    rcases Uw s (a+d+1) with z | z
    . exact Xj (h3 s s1 z) e
    . rw [show s=a+d+1 by omega];exact Ql _
  . refine ⟨t,h1,by omega,λ s s1 s2=>?_⟩
    rcases Uw s (a+d+1) with z | z
    . exact h3 s s1 z
    . rw [show s=a+d+1 by omega];omega
end
noncomputable def Bb (K:Nat):List Nat->Nat
 | []=>0
 | x::l=>x+K*Bb K l
theorem Jph {K:Nat}:∀ {l:List Nat},(∀ x∈l,x<K)->Bb K l<K^l.length
 | [],_=>by simp [Bb]
 | x::l,h=>by
  have h1:=h x Qk
  have h2:=Jph (l:=l) λ y hy=>h y (Qj _ hy)
  rw [Bb,X9,Nat.pow_succ,J5d (K^l.length)]
  have:K*Bb K l+K<=K*K^l.length:=by
   have:=J6y K h2
   rwa [Nat.mul_succ] at this
  omega
theorem Jl1 {K:Nat}:∀ {l l':List Nat},l.length=l'.length->(∀ x∈l,x<K)->(∀ x∈l',x<K)->Bb K l=Bb K l'->l=l'
 | [],[],_,_,_,_=>rfl
 | [],_::_,h,_,_,_=>by cases h
 | _::_,[],h,_,_,_=>by cases h
 | x::l,y::l',hl,h1,h2,e=>by
  have a:=h1 x Qk
  have b:=h2 y Qk
  rw [Bb,Bb] at e
  have em:(x+K*Bb K l)%K=(y+K*Bb K l')%K:=by rw [e]
  rw [J9e,J9e,J9f a,J9f b] at em
  subst em
  have ec:Bb K l=Bb K l':=by
   have:K*Bb K l=K*Bb K l':=by omega
   exact Nat.eq_of_mul_eq_mul_left (by omega) this
  rw [Jl1 (by simpa using hl) (λ z hz=>h1 z (Qj _ hz)) (λ z hz=>h2 z (Qj _ hz)) ec]
structure Cols (nw m:Nat) (c:Nat->Vec):Prop where
 un:∀ s,s<m->c (nw+s)=Z6 s
noncomputable def Vp (nw m:Nat) (c:Nat->Vec) (rhs:Vec) (some:List Nat):Tab:=⟨some,(Qg m).map (nw + ·),(Qg m).map λ i=>some.map (λ k=>c k i)++[rhs i],1⟩
theorem range_getD {m i:Nat}{f:Nat->Nat}(h:i<m):((Qg m).map f).getD i 0=f i:=by grind
section
variable {nw m:Nat}{c:Nat->Vec}{rhs:Vec}{some:List Nat}
theorem Jd8 {i:Nat}(h:i<m):(Vp nw m c rhs some).b i=nw+i:=range_getD h
theorem Jcp {i:Nat}(h:i<m):(Vp nw m c rhs some).row i=some.map (λ k=>c k i)++[rhs i]:=by (intros;simp_all [Tb.Vec,Tb.Tab.row,Tb.Vp])
theorem Jtq (C:Cols nw m c) (hn:some.Nodup) (hs:∀ k∈some,k<nw):TabOk m some.length c rhs (Vp nw m c rhs some):=by
 have hbd:((Vp nw m c rhs some).bd.map c)=Jb2 m:=by
  show ((Qg m).map (nw + ·)).map c=_
  rw [Q0]
  exact U7 λ i hi=>C.un i (Q5.mp hi)
 have fj:∀ j,j<some.length->(Vp nw m c rhs some).f j=some[j]!:=λ j hj=>by
  show some.getD j 0=_
  rw [Qi,Qf hj]
  simp [hj]
 have mem:∀ j,j<some.length->(Vp nw m c rhs some).f j∈some:=λ j hj=>by
  show some.getD j 0∈some
  rw [Qi,Qf hj]
  exact Xt _
 refine ⟨by show ((Qg m).map _).length=m;rw [Qc,Qz],rfl,by show ((Qg m).map _).length=m;rw [Qc,Qz],λ i hi=>by rw [Jcp hi,Xn,Qc];rfl,by rw [hbd];exact Jqz m,by rw [hbd,Jnu];rfl,λ i hi j hj=>?_,λ i hi=>?_,λ i i' hi hi' e=>?_,λ j j' hj hj' e=>?_,λ i j hi hj e=>?_⟩
 . rw [hbd,Jkg hi]
   unfold Tab.e
   rw [Jcp hi,Qi,J3a (by rw [Qc];exact hj),Qm,Qf hj]
   show c some[j] i=c (some.getD j 0) i
   rw [Qi,Qf hj];rfl
 . rw [hbd,Jkg hi]
   unfold Tab.e
   rw [Jcp hi,Qi,J3o (by rw [Qc];exact Ql _),Qc,Nat.sub_self];rfl
 . rw [Jd8 hi,Jd8 hi'] at e;omega
 . have e:some.getD j 0=some.getD j' 0:=e
   rw [Qi,Qi,Qf hj,Qf hj'] at e
   exact (J55 hn).mp e
 . rw [Jd8 hi] at e
   have:=hs _ (mem j hj)
   omega
theorem Ji6 (g:Nat->Int):(Vp nw m c rhs some).tot m some.length g=Jk m (λ s=>g (nw+s))+Jk some.length (λ j=>g (some.getD j 0)):=by
 unfold Tab.tot
 rw [Jh (f:=λ i=>g ((Vp nw m c rhs some).b i)) λ i hi=>by rw [Jd8 hi]]
 rfl
end
section
variable {nw m n:Nat}{c:Nat->Vec}{rhs:Vec}{T:Tab}{W:List Nat}
def inN (m n:Nat) (T:Tab) (ν:Nat):Prop:=(∃ i,i<m/\T.b i = ν)\/∃ j,j<n/\T.f j = ν
noncomputable def Tab.L (T:Tab) (m:Nat) (c:Nat->Vec) (W:List Nat) (v:Vec):Int:=Jk m λ i=>ind W (T.b i) (cr m (T.bd.map c) i v)
theorem Jtr (h:TabOk m n c rhs T) {j:Nat}(hj:j<n):T.L m c W (c (T.f j))=ind W (T.f j) T.q-T.rise m W j:=by
 unfold Tab.L Tab.rise
 rw [Jh (g:=λ i=>ind W (T.b i) (T.e i j)) λ i hi=>by rw [h.en i hi j hj]]
 omega
theorem Jpi (h:TabOk m n c rhs T) {t:Nat}(ht:t<m):T.L m c W (c (T.b t))=ind W (T.b t) T.q:=by
 unfold Tab.L
 rw [J1 (a:=t) ht λ i hi hne=>?_,<- h.at_b ht,Jd2 h.base.len ht,<- h.qq]
 rw [<- h.at_b ht,Jd3 h.base.len hi ht hne]
 unfold ind;split<;>rfl
theorem Jxz (h:TabOk m n c rhs T) (v:Vec):T.L m c W v=Jk m λ s=>v s*T.L m c W (Z6 s):=by
 have hB:=h.base.len
 unfold Tab.L
 have:∀ i,i<m->ind W (T.b i) (cr m (T.bd.map c) i v)=Jk m λ s=>v s*ind W (T.b i) (cr m (T.bd.map c) i (Z6 s)):=λ i hi=>by
  have e:cr m (T.bd.map c) i v=Jk m λ s=>v s*cr m (T.bd.map c) i (Z6 s):=by
   rw [<- Jhh hB hi]
   refine Jb0 hB hi λ r hr=>?_
   rw [J1 (a:=r) hr λ s _ hne=>?_]
   . have:Z6 r r=1:=if_pos rfl
     rw [this,J3j]
   . have:Z6 s r=0:=if_neg (Qh hne)
     rw [this,Xc]
  rw [e]
  unfold ind
  split
  . rfl
  . rw [Jh (g:=λ _=>0) λ s _=>Xc _,We]
 rw [Jh this,Jat]
 exact Jh λ s _=>Yn m (v s) _
structure Last (m n:Nat) (W:List Nat) (T:Tab):Prop where
 no:∀ j,j<n->T.rise m W j<=0
theorem J24 (h:TabOk m n c rhs T) (l:Last m n W T) {ν:Nat}(i:inN m n T ν):ind W ν T.q<=T.L m c W (c ν):=by
 rcases i with ⟨i,hi,rfl⟩ | ⟨j,hj,rfl⟩
 . rw [Jpi h hi];exact X6 _
 . rw [Jtr h hj];have:=l.no j hj;omega
noncomputable def Tab.share (T:Tab) (m n:Nat) (W:List Nat) (ν:Nat):Int:=Jk n (λ j=>if T.f j = ν then -T.rise m W j else 0)+(if (∃ j,j<n/\T.f j = ν) then 0 else ind W ν T.q)
theorem Jc9 (h:TabOk m n c rhs T) {j:Nat}(hj:j<n):T.share m n W (T.f j) = -T.rise m W j:=by
 unfold Tab.share
 rw [if_pos ⟨j,hj,rfl⟩,J1 (a:=j) hj λ i hi hne=>if_neg λ z=>hne (h.fi i j hi hj z),if_pos rfl];omega
theorem Jb7 (h:TabOk m n c rhs T) {i:Nat}(hi:i<m):T.share m n W (T.b i)=ind W (T.b i) T.q:=by
 unfold Tab.share
 rw [if_neg λ ⟨j,hj,e⟩=>h.ne i j hi hj e.symm,Jh (g:=λ _=>0) λ j hj=>if_neg λ e=>h.ne i j hi hj e.symm,We];omega
theorem Jpj (h:TabOk m n c rhs T) {ν:Nat}(i:inN m n T ν) (hw:ν∉W\/∃ i,i<m/\T.b i = ν):T.share m n W ν = T.L m c W (c ν):=by
 rcases i with ⟨i,hi,rfl⟩ | ⟨j,hj,rfl⟩
 . rw [Jb7 h hi,Jpi h hi]
 . rw [Jc9 h hj,Jtr h hj]
   rcases hw with hw | ⟨i,hi,e⟩
   . unfold ind;rw [if_neg hw];omega
   . exact absurd e (h.ne i j hi hj)
theorem Jq0 (C:Cols nw m c) (h:TabOk m n c rhs T) (l:Last m n W T) (hu:∀ s,s<m->inN m n T (nw+s)) (hw:∀ s,s<m->nw+s∉W\/∃ i,i<m/\T.b i=nw+s) {k:Nat}(hk:inN m n T k) :
 ind W k T.q<=Jk m (λ s=>c k s*T.share m n W (nw+s)):=by
 have e:Jk m (λ s=>c k s*T.share m n W (nw+s))=T.L m c W (c k):=by
  rw [Jxz h]
  exact Jh λ s hs=>by rw [Jpj h (hu s hs) (hw s hs),C.un s hs]
 rw [e]
 exact J24 h l hk
theorem Jts (h:TabOk m n c rhs T) (l:Last m n W T) {ν:Nat}(i:inN m n T ν):0<=T.share m n W ν:=by
 rcases i with ⟨i,hi,rfl⟩ | ⟨j,hj,rfl⟩
 . rw [Jb7 h hi]
   unfold ind
   split
   . exact J39 h.qpos
   . exact X6 _
 . rw [Jc9 h hj];have:=l.no j hj;omega
structure Ray (m n:Nat) (W:List Nat) (T:Tab) (k:Nat):Prop where
 hk:k<n
 rise:0<T.rise m W k
 no:∀ i,i<m->T.e i k<=0
theorem Jtt (h:TabOk m n c rhs T) {k:Nat}(r:Ray m n W T k) (ν:Nat):0<=T.dir m k ν:=by
 unfold Tab.dir
 have:Jk m (λ i=>if T.b i = ν then T.e i k else 0)<=0:=by
  have:∀ M,M<=m->Jk M (λ i=>if T.b i = ν then T.e i k else 0)<=0:=by
   intro M
   induction M with
   | zero=>intro _;exact X6 _
   | succ M ih=>
    intro hM
    have a:=ih (by omega)
    have b:(if T.b M = ν then T.e M k else 0)<=0:=by
     split
     . exact r.no M (by omega)
     . exact X6 _
    show Jk M (λ i=>if T.b i = ν then T.e i k else 0)+(if T.b M = ν then T.e M k else 0)<=0
    omega
  exact this m (Ql _)
 have:=h.qpos
 split<;>omega
end
end Tb
namespace My
open L2
end My
namespace L2
variable {X:Cx}
end L2
namespace My
open L2
abbrev J25 (i j:Nat) (ga:GN):GS:=λ G env n=>ga env n λ ds n1=>∃ x y,ds=[x,y]/\G.nx ((env.set i (.d x)).set j (.d y)) n1
instance sv_par {i j:Nat}{t:TA}{gt:GN} [T:DV true t gt]:SV (J0i i j t) (J25 i j gt):=⟨λ {C G D} O {ex env σ H n} A h=>
 T.dv A.ev h λ ds n1 vs H1 h1 s1 r1=>by
  obtain ⟨x,y,rfl,q⟩:=h1
  cases r1 with
  | cons r1 r2=>
   cases r2 with
   | cons r2 r3=>
    cases r3
    exact ⟨_,_,rfl,O.nx (((A.step s1).put r1).put r2) q⟩⟩
def J1w:G1:=λ ds Q=>match ds with
 | [.int i]=>Q (.int (if i<0 then -i else i))
 | _=>False
instance cs_abs:CS (λ xs H Q=>∃ i,xs=[.int i]/\Q (.int (if i<0 then -i else i)) H) J1w:=⟨λ {H xs ds Q P} r h k=>by
 unfold J1w at h
 split at h
 . cases r with
   | cons r1 t=>
    cases t
    cases r1
    exact ⟨_,rfl,k _ _ h λ _=>.int _⟩
 . exact h.elim⟩
noncomputable def Zb (ns:List Int):Nat:=ns.foldl (λ g x=>X7 g x.natAbs) 0
def Jd9:GSp:=λ as n Q=>∃ ns:List Int,as=[.d (.list (ns.map .int))]/\Q (.int ((Zb ns:Nat):Int)) n
noncomputable instance:Scal Jd9:=⟨λ {as n P} h=>by obtain ⟨w,e,q⟩:=h;exact ⟨w,e,rfl,q⟩⟩
def Jf9:GSn:=λ as n Q=>∃ ns:List Int,as=[.d (.list (ns.map .int))]/\ns.length<=100000/\Zb ns≠0/\((Zb ns:Nat):Int)<2^9000/\Q ((ns.map λ x=>x/((Zb ns:Nat):Int)).map .int) n
theorem Jtu (ns:List Int) (x:Int):Zb (ns++[x])=X7 (Zb ns) x.natAbs:=by unfold Zb;rw [List.foldl_append];rfl
theorem Jtv {ns:List Int}{i:Nat}{x:Int}(h:ns[i]? = some x):Zb (ns.take (i+1))=X7 (Zb (ns.take i)) x.natAbs:=by grind [Jtu,Zb,J7c]
noncomputable abbrev Ju (k:Nat):Yal:=.int (k:Int)
noncomputable abbrev Jtw (wt ht:List Int):Yal:=.tuple [.tuple (wt.map .int),.tuple (ht.map .int)]
def Jx0 (K:Qb) (ta:TA):TI:=Jng K ta
theorem Jwd {X:Cx}{tg e:Expr}{K:Qb}{ta:TA}(h:PI X tg e (Jng K ta)):PI X tg e (Jx0 K ta):=h
abbrev Jpk (env:List Vl) (i:Nat) (k:List Yal->Prop):Prop:=match env[i]? with
 | some (.own xs)=>k xs
 | some (.d (.list xs))=>k xs
 | _=>False
abbrev J1x (i j:Nat):GN:=λ env n Q=>Jpk env i λ xs=>Jpk env j λ ys=>Q (Br xs ys) n
theorem Jpl {S:Src}{ex:List Addr}{env:List Vl}{σ:L2.St}{H:Hp}{n i:Nat}{k:List Yal->Prop}(E:Ev S ex env σ H n) (h:Jpk env i k):∃ (xs:List Yal) (a:Addr) (vs:List V),k xs/\σ[i]? = some (some (.ref a))/\H a=some (.lst vs)/\∀ l H2,H l=none->Kp (l::S.ch) H H2->∃ vs',H2 a=some (.lst vs')/\Reps (l::ex) H2 xs vs':=by
 unfold Jpk at h
 split at h
 . rename_i xs e
   obtain ⟨a,vs,ev,h1,h2,h3,h4,h5⟩:=E.sl i _ e
   refine ⟨xs,a,vs,h,Jo ev,h1,λ l H2 hl kp=>?_⟩
   have na:a≠l:=Jl h1 hl
   exact ⟨vs,kp _ _ h1 λ z=>(Qd.mp z).elim na h5,(Reps.add hl h3).keep (Jcn E.ch kp)⟩
 . rename_i xs e
   obtain ⟨v,ev,r⟩:=E.sl i _ e
   cases r with
   | list e1 m z rs=>
    refine ⟨xs,_,_,h,Jo ev,e1,λ l H2 hl kp=>?_⟩
    have:=(Rep.add hl (.list e1 m z rs)).keep (Jcn E.ch kp)
    cases this with
    | list e m z rs=>exact ⟨_,e,rs⟩
 . exact h.elim
instance ic_zipO {K:Qb}{i j:Nat}:IC (Jx0 K (Yo (Z4 i) (Yo (Z4 j) Ja2))) (J1x i j):=⟨λ {S ex env σ H n R P} E h k=>by
 obtain ⟨xs,a,vs,h,s1,h1,r1⟩:=Jpl E h
 obtain ⟨ys,b,us,h,s2,h2,r2⟩:=Jpl E h
 refine ⟨_,s1,_,s2,false,false,a,b,vs,us,rfl,SqL.of h1,SqL.of h2,k _ _ _ _ h (.refl E.inv) λ l H2 hl kp al=>?_⟩
 obtain ⟨v1,w1,w2⟩:=r1 l H2 hl kp
 obtain ⟨v2,w3,w4⟩:=r2 l H2 hl kp
 exact Jnl al (c:=false) (c':=false) (SqL.of w1) w2 (SqL.of w3) w4⟩
theorem Jkj {ns:List Int}:∀ x∈ns,((Zb ns:Nat):Int) ∣ x:=by
 have key:∀ (l:List Int) (g:Nat),(l.foldl (λ g x=>X7 g x.natAbs) g ∣ g)/\∀ x∈l,l.foldl (λ g x=>X7 g x.natAbs) g ∣ x.natAbs:=by
  intro l
  induction l with
  | nil=>exact λ g=>⟨Nat.dvd_refl _,λ x hx=>by cases hx⟩
  | cons y l ih=>
   intro g
   obtain ⟨h1,h2⟩:=ih (X7 g y.natAbs)
   refine ⟨J9g h1 (Nat.gcd_dvd_left _ _),λ x hx=>?_⟩
   rcases Qd.mp hx with rfl | hx
   . exact J9g h1 (Nat.gcd_dvd_right _ _)
   . exact h2 x hx
 intro x hx
 exact J9h.mpr ((key ns 0).2 x hx)
theorem Ja7 {ns:List Int}{x:Int}(hx:x∈ns) (h:x≠0):Zb ns≠0:=λ z=>by
 have:=Jkj x hx
 rw [z] at this
 exact h (Int.zero_dvd.mp this)
theorem Jpm {ns:List Int}{x:Int}(hx:x∈ns):x/((Zb ns:Nat):Int)*((Zb ns:Nat):Int)=x:=Int.ediv_mul_cancel (Jkj x hx)
theorem Jpn:∀ (xs gs:List Int),xs.length=gs.length->((xs.zip gs).map λ p=>p.1*p.2).sum=Bz xs gs xs.length
 | [],[],_=>rfl
 | [],_::_,h=>by cases h
 | _::_,[],h=>by cases h
 | x::xs,g::gs,h=>by
  rw [J7d,Xb,J9i,Jpn xs gs (by simpa using h)]
  unfold Bz
  rw [X9,J85,Xb,J9i,Q0]
  rfl
end My
namespace L2
open PySem.SeqAt
open AutoSeq1 (wpAny_loadPart')
theorem Jwe (l b:Addr) (n n2:Nat) (dd dd2:Option Addr) (sl sl2:Array (Option Yak)) {x y:Int}{tx ty:Tok}{u u2:Yak}(hne:x≠y) :
 Meets (Builtin.«tuple.__lt__» ⟨[.ref l,.ref b],[]⟩) (λ A R s=>s.heap.get? l=some { cls:=.type "tuple",dict:=dd,data:=.seq #[.int x tx,u] n,slots:=sl }/\s.heap.get? b=some { cls:=.type "tuple",dict:=dd2,data:=.seq #[.int y ty,u2] n2,slots:=sl2 }/\R (.ok (.ret (.bool (decide (x<y))))) s):=
 .of_wp λ prog w A R s h=>by
  obtain ⟨hp,g,d,tk,os⟩:=s
  obtain ⟨hl,hb,hR⟩:=h
  have f2:=AutoSeq1.sub_tuple_tuple
  wp_walk using Ya3 hl,Ya3 hb,wpAny_forIn_list _ (λ rest b s'=>b.1=none/\s'=⟨hp,g,d,tk,os⟩/\rest=[(Uo x tx,Uo y ty),(u,u2)]) _
  case turn=>
   rintro ⟨p,q⟩ rest b s' ⟨hb',rfl,hz⟩
   injection hz with h1 h2
   cases h1
   refine wpAny_bind (EqAt.int_int x tx y ty prog w _ _ ?_)
   rw [show (x==y)=false from beq_eq_false_iff_ne.mpr hne]
   show Yan _ _ (rule "tuple.compare.by-the-first-pair-that-differs" >>= λ _=>richCompare .Lt (.int x tx) (.int y ty) >>= _) _ _ _
   wp_step
   wp_step
   refine wpAny_bind (wpAny_richCompare_same (op:=.Lt) (T:="int") (typeIs_int _ x tx) (typeIs_int _ y ty) slot_int_lt (call_int_lt ⟨by simp,?_⟩))
   wp_walk
   exact ⟨_,rfl,hR⟩
  case fin=>
   rintro ⟨b1,b2⟩ s' ⟨hb',rfl,hz⟩
   cases hz
  case h=>exact ⟨rfl,rfl,rfl⟩
section
variable {prog:Yap}{w:Yao}{A:Yaq}{E:Yak->Yam->Prop}{s:Yam}{R:Ya6->Yam->Prop}
theorem Jtx {l b:Addr}{x y:Int}{tx ty:Tok}{u u2:Yak}{Q:Yak->Yam->Prop}(hu:A.units<cLine) (hne:x≠y) (hl:s.heap.IsTuple l #[.int x tx,u]) (hb:s.heap.IsTuple b #[.int y ty,u2]) (q:Q (.bool (decide (x<y))) s):Yan (model prog w) A (richCompare .Lt (.ref l) (.ref b)) Q E s:=by
 obtain ⟨⟨c1,d1,e1,f1⟩,h1,rfl,n1,rfl⟩:=hl
 obtain ⟨⟨c2,d2,e2,f2⟩,h2,rfl,n2,rfl⟩:=hb
 exact wpAny_richCompare_same_room (op:=.Lt) (T:="tuple") ⟨_,h1,rfl⟩ ⟨_,h2,rfl⟩ J9j (call_meets J9j ⟨_,h1,rfl⟩ F.entry_tuple_lt (F.args_tuple_lt_2 _ _) (Jwe l b n1 n2 d1 d2 f1 f2 hne) ⟨h1,h2,by simp,q⟩) hu
theorem Jpo (bt:Nat->Nat->Bool):∀ k,argBest bt k<=k
 | 0=>Ql _
 | k+1=>by
  have:=Jpo bt k
  rw [argBest]
  split<;>omega
theorem Jl2 {I S:Addr}{fp wr:List Addr}{n:Nat}{P:Nat->Yak->Prop}{St:Nat->Heap->Prop}(W:Walks prog w A.in1 I fp wr n P St) (bt:Nat->Nat->Bool) (G:Heap->Prop) (hSf:S∉fp)
 (keep:∀ h h',G h->(∀ b o,b∉wr->b≠S->h.get? b=some o->h'.get? b=some o)->G h')
 (ask:∀ i j vi vj (s:Yam) (Q:Yak->Yam->Prop) (E:Yak->Yam->Prop),i≠j->P i vi->P j vj->G s.heap->Q (.bool (bt i j)) s->Yan (model prog w) A.in1 (richCompare .Lt vi vj) Q E s) :
 ∀ (k j:Nat) (s:Yam) (vb:Yak) (c:Nat),n-(j+1)=k->j+1<=n->St (j+1) s.heap->P (argBest bt j) vb->G s.heap ->
 s.heap.get? S=some { cls:=.type "list",dict:=none,data:=.seq #[vb,vb] c,slots:=#[] } ->
 (∀ v h' tk,P (argBest bt (n-1)) v->(∀ b o,b∉wr->b≠S->s.heap.get? b=some o->h'.get? b=some o)->R (.ok (.ret v)) { s with heap:=h',toks:=tk }) ->
 Yay (model prog w) A (.builtin "min.loop" ⟨[.ref I,.none,.ref S],[]⟩) R s:=by
 have off:S∉wr:=λ h=>hSf (W.sub _ h)
 have nm:(toString "min" ++ toString ".loop":String) = "min.loop":=by decide
 intro k
 induction k with
 | zero=>
  intro j s vb c hk hj st hv hg hS fin
  have last:j+1=n:=by omega
  refine Ybr J7i ?_
  rw [J7j J3w _]
  show Yan _ A.in1 (Yba (.ref S) >>= _) _ _ s
  refine wpAny_bind (wpAny_seqItems hS rfl ?_)
  show Yan _ A.in1 (tryCatch (pyNext (.ref I)) _ >>= _) _ _ s
  refine wpAny_bind (wpAny_tryCatch (W.done s _ _ (last▸st) λ h' tk kp=>?_))
  have hS':=kp S _ off hS
  show Yan _ A.in1 (updateSeq S (λ _=>#[]) >>= _) _ _ _
  refine wpAny_bind (wpAny_updateSeq hS' rfl (wpAny_bind (wpAny_letGo (wpAny_pure ?_))))
  exact fin vb _ tk (by rw [<- last];exact hv) λ b o hbw hbS e=>(U4 _ _ (Qh hbS)).trans (kp b o hbw e)
 | succ k ih=>
  intro j s vb c hk hj st hv hg hS fin
  have more:j+1<n:=by omega
  refine Ybr J7i ?_
  rw [J7j J3w _]
  show Yan _ A.in1 (Yba (.ref S) >>= _) _ _ s
  refine wpAny_bind (wpAny_seqItems hS rfl ?_)
  show Yan _ A.in1 (tryCatch (pyNext (.ref I)) _ >>= _) _ _ s
  refine wpAny_bind (wpAny_tryCatch (W.item (j+1) s _ _ more st λ v h' tk hp st' kp=>?_))
  have hS':=kp S _ off hS
  have hg':G h':=keep _ _ hg λ b o hbw _ e=>kp b o hbw e
  have ne:j+1≠argBest bt j:=by have:=Jpo bt j;omega
  show Yan _ A.in1 (tryCatch (holding [v,v] (richCompare .Lt v vb >>= _)) _ >>= _) _ _ _
  refine wpAny_bind (wpAny_tryCatch (wpAny_holding (wpAny_bind (ask (j+1) (argBest bt j) v vb _ _ _ ne hp hv hg' ?_))))
  refine wpAny_bind (wpAny_holding (wpAny_truthy_bool ?_))
  refine wpAny_bind (wpAny_letGo (wpAny_pure ?_))
  cases hb:bt (j+1) (argBest bt j) with
  | true=>
   simp only [if_true]
   refine wpAny_bind (wpAny_updateSeq hS' rfl (wpAny_bind (wpAny_letGo ?_)))
   rw [nm]
   refine wpAny_pure ⟨plainId_quiet J3w _,ih (j+1) _ v _ (by omega) more (W.frame _ _ _ st' λ b hbf o e=>?_) (by simp only [argBest,hb,if_true];exact hp) (keep _ _ hg' λ b o _ hbS e=>(U4 _ _ (Qh hbS)).trans e) (J5b _ hS' rfl) λ v' h2 t2 hp' k2=>?_⟩
   . exact (U4 _ _ (λ h:S=b=>hSf (by rw [h];exact hbf))).trans e
   . exact fin v' h2 t2 hp' λ b o hbw hbS e=>k2 b o hbw hbS ((U4 _ _ (Qh hbS)).trans (kp b o hbw e))
  | false=>
   simp only [J34,if_false]
   refine wpAny_bind (wpAny_letGo ?_)
   rw [nm]
   refine wpAny_pure ⟨plainId_quiet J3w _,ih (j+1) _ vb c (by omega) more st' (by simp only [argBest,hb,J34,if_false];exact hv) hg' hS' λ v' h2 t2 hp' k2=>?_⟩
   exact fin v' h2 t2 hp' λ b o hbw hbS e=>k2 b o hbw hbS (kp b o hbw e)
theorem Jl3 {I S:Addr}{fp wr:List Addr}{n:Nat}{P:Nat->Yak->Prop}{St:Nat->Heap->Prop}(W:Walks prog w A.in1 I fp wr n P St) (bt:Nat->Nat->Bool) (G:Heap->Prop) (hSf:S∉fp)
 (keep:∀ h h',G h->(∀ b o,b∉wr->b≠S->h.get? b=some o->h'.get? b=some o)->G h')
 (ask:∀ i j vi vj (s:Yam) (Q:Yak->Yam->Prop) (E:Yak->Yam->Prop),i≠j->P i vi->P j vj->G s.heap->Q (.bool (bt i j)) s->Yan (model prog w) A.in1 (richCompare .Lt vi vj) Q E s)
 (hn:0<n) {c:Nat} (st:St 0 s.heap) (hg:G s.heap) (hS:s.heap.get? S=some { cls:=.type "list",dict:=none,data:=.seq #[] c,slots:=#[] })
 (fin:∀ v h' tk,P (argBest bt (n-1)) v->(∀ b o,b∉wr->b≠S->s.heap.get? b=some o->h'.get? b=some o)->R (.ok (.ret v)) { s with heap:=h',toks:=tk }) :
 Yay (model prog w) A (.builtin "min.loop" ⟨[.ref I,.none,.ref S],[]⟩) R s:=by
 have off:S∉wr:=λ h=>hSf (W.sub _ h)
 have nm:(toString "min" ++ toString ".loop":String) = "min.loop":=by decide
 refine Ybr J7i ?_
 rw [J7j J3w _]
 show Yan _ A.in1 (Yba (.ref S) >>= _) _ _ s
 refine wpAny_bind (wpAny_seqItems hS rfl ?_)
 show Yan _ A.in1 (tryCatch (pyNext (.ref I)) _ >>= _) _ _ s
 refine wpAny_bind (wpAny_tryCatch (W.item 0 s _ _ hn st λ v h' tk hp st' kp=>?_))
 have hS':=kp S _ off hS
 have hg':G h':=keep _ _ hg λ b o hbw _ e=>kp b o hbw e
 show Yan _ A.in1 (updateSeq S (λ _=>#[v,v]) >>= _) _ _ _
 refine wpAny_bind (wpAny_updateSeq hS' rfl ?_)
 rw [nm]
 refine wpAny_pure ⟨plainId_quiet J3w _,Jl2 W bt G hSf keep ask _ 0 _ v _ rfl hn (W.frame _ _ _ st' λ b hbf o e=>?_) hp (keep _ _ hg' λ b o _ hbS e=>(U4 _ _ (Qh hbS)).trans e) (J5b _ hS' rfl) λ v' h2 t2 hp' k2=>?_⟩
 . exact (U4 _ _ (λ h:S=b=>hSf (by rw [h];exact hbf))).trans e
 . exact fin v' h2 t2 hp' λ b o hbw hbS e=>k2 b o hbw hbS ((U4 _ _ (Qh hbS)).trans (kp b o hbw e))
theorem Jty {l:Addr}{vs:List Yak}{Q:Yak->Yam->Prop}(bt:Nat->Nat->Bool) (G:Heap->Prop) (hh:A.handled=none) (hl:s.heap.IsList l vs.toArray) (hne:0<vs.length) (hg:G s.heap)
 (keep:∀ h h',G h->(∀ b o,b<s.heap.objs.size->h.get? b=some o->h'.get? b=some o)->G h')
 (ask:∀ i j vi vj (s:Yam) (Q:Yak->Yam->Prop) (E:Yak->Yam->Prop),i≠j->vs[i]? = some vi->vs[j]? = some vj->G s.heap->Q (.bool (bt i j)) s->Yan (model prog w) A.in1 (richCompare .Lt vi vj) Q E s)
 (h:∀ v h' tk,vs[argBest bt (vs.length-1)]? = some v->(∀ b o,s.heap.get? b=some o->h'.get? b=some o)->Q v { s with heap:=h',toks:=tk }) :
 Yan (model prog w) A (call (.builtin "min") [.ref l]) Q E s:=by
 have nm:(toString "min" ++ toString ".loop":String) = "min.loop":=by decide
 have hlt:l<s.heap.objs.size:=by obtain ⟨_,e,_⟩:=hl;exact Qr e
 refine call_function_tree F.kind_min F.plain_min F.entry_min (F.args_min1 _) ?_
 show Yan _ A.in1 (J9k "min" ["key","default"] 0 ⟨[],[]⟩ >>= _) _ _ s
 refine wpAny_bind (wpAny_of_eq (show J9k "min" ["key","default"] 0 ⟨[],[]⟩=pure [none,none] from rfl) ?_)
 refine wpAny_bind (wpAny_pure ?_)
 refine wpAny_bind (wpAny_pyIter_list hl ?_)
 refine wpAny_bind (wpAny_newObj_type ?_)
 rw [nm]
 have ne:l≠s.heap.objs.size:=Xg hlt
 have z1:∀ o,(s.heap.push o).objs.size=s.heap.objs.size+1:=λ o=>X0 ..
 refine wpAny_pure ⟨plainId_quiet J3w _,Jl3 (Walks.list (A:=A.in1) hh _ l ne vs.toArray) bt G (λ hm=>?_) (λ h h' g k=>keep h h' g λ b o hb e=>k b o (λ hm=>?_) (λ hm=>?_) e) (λ i j vi vj s Q E d h1 h2=>ask i j vi vj s Q E d (by simpa using h1) (by simpa using h2)) (by simpa using hne) ⟨⟨_,Qt _ (Xa _ rfl),rfl,rfl⟩,(hl.push _).push _⟩ (keep _ _ hg λ b o _ e=>Qt _ (Qt _ e)) (Xa _ rfl) λ v h' tk hp k=>?_⟩
 . simp only [Qd,Ub,or_false] at hm
   rcases hm with hm | hm
   . have hm':(s.heap.objs.size+1:Nat)=s.heap.objs.size:=(z1 _).symm.trans hm
     omega
   . have hm':(s.heap.objs.size+1:Nat)=l:=(z1 _).symm.trans hm
     rw [<- hm'] at hlt
     exact Q9 _ (J7k hlt)
 . rw [Qu.mp hm] at hb
   exact Q9 _ hb
 . rw [show b=s.heap.objs.size+1 from J5e hm (z1 _)] at hb
   exact Q9 _ (J7k hb)
 . refine h v h' tk (by simpa using hp) λ b o e=>k b o (λ hm=>?_) ?_ (Qt _ (Qt _ e))
   . have:=Qr e
     rw [Qu.mp hm] at this
     exact Q9 _ this
   . intro hm
     have:=Qr e
     rw [show b=s.heap.objs.size+1 from J5e hm (z1 _)] at this
     exact Q9 _ (J7k this)
end
section
variable {X:Cx}
def Jx1:List V->Hp->VK->Prop:=λ xs H Q=>∃ (p:Addr) (as:List Addr) (rs:List (Int×Int)),xs=[.ref p]/\H p=some (.lst (as.map V.ref))/\as.length=rs.length/\(∀ (i:Nat) (a:Addr) (r:Int×Int),as[i]? = some a->rs[i]? = some r->H a=some (.tup [.int r.1,.int r.2]))/\rs≠[]/\(rs.map (·.1)).Nodup /\
 ∀ (i:Nat) (a:Addr) (r:Int×Int),as[i]? = some a->rs[i]? = some r->(∀ r'∈rs,r.1<=r'.1)->Q (.ref a) H
theorem Jq1 (hc:X.calm=true) (hu:X.A.units+64<cLine):V1 X (.builtin "min") Jx1:=by
 intro pins s σ H xs us Q I r h
 obtain ⟨p,as,rs,rfl,hp,hln,hi,hne,hnd,q⟩:=h
 obtain ⟨u,rfl,ru⟩:=Jbq r
 cases ru
 obtain ⟨z,its,n,rv,hl,e⟩:=I.lstM hp
 have ei:its=as.map Qw:=Jqy rv
 subst ei
 have pos:0<rs.length:=J69.mpr hne
 have gd:∀ i,i<rs.length->∃ (a:Addr) (r:Int×Int) (t1 t2:Tok),as[i]? = some a/\rs[i]? = some r/\rs.getD i (0,0)=r/\s.heap.IsTuple a #[.int r.1 t1,.int r.2 t2]:=λ i h2=>by
  have ha:as[i]? = some (as[i]'(by omega)):=Qf _
  have hr:rs[i]? = some rs[i]:=Qf h2
  obtain ⟨it,rv2,pl,_⟩:=I.tuple (SqT.of (hi i _ _ ha hr))
  cases rv2 with
  | cons p1 q1=>
   cases q1 with
   | cons p2 q2=>
    cases q2
    obtain ⟨t1,rfl⟩:=p1
    obtain ⟨t2,rfl⟩:=p2
    exact ⟨_,rs[i],t1,t2,ha,hr,by rw [Qi,hr];rfl,pl⟩
 refine Jty (λ i j=>decide ((rs.getD i (0,0)).1<(rs.getD j (0,0)).1)) (λ h=>∀ b o,s.heap.get? b=some o->h.get? b=some o) (I.ok.hd hc) ⟨_,e,rfl,n,rfl⟩ (by rw [Qc];omega) (λ b o e=>e) (λ h h' g k b o e=>k b o (Qr e) (g b o e)) (λ i j vi vj s' Q' E' d h1 h2 g q'=>?_) (λ v h' tk hv k=>?_)
 . rw [Qm] at h1 h2
   obtain ⟨a1,e1,rfl⟩:=J4a.mp h1
   obtain ⟨a2,e2,rfl⟩:=J4a.mp h2
   have l1:=(Qv.mp e1).1
   have l2:=(Qv.mp e2).1
   obtain ⟨b1,r1,t1,t2,w1,w2,w3,w4⟩:=gd i (by omega)
   obtain ⟨b2,r2,t3,t4,v1,v2,v3,v4⟩:=gd j (by omega)
   cases e1.symm.trans w1
   cases e2.symm.trans v1
   rw [w3,v3] at q'
   refine Jtx (by show X.A.units+1<cLine;omega) (λ ez=>?_) (w4.at λ o=>g _ o) (v4.at λ o=>g _ o) q'
   have m1:(rs.map (·.1))[i]? = some r1.1:=by rw [Qm,w2];rfl
   have m2:(rs.map (·.1))[j]? = some r2.1:=by rw [Qm,v2];rfl
   obtain ⟨n1,m1⟩:=Qv.mp m1
   obtain ⟨n2,m2⟩:=Qv.mp m2
   rcases J7g i j with z | z | z
   . exact J7a.mp hnd i j n1 n2 z (by rw [m1,m2];exact ez)
   . exact d z
   . exact J7a.mp hnd j i n2 n1 z (by rw [m1,m2];exact ez.symm)
 . obtain ⟨b1,b2⟩:=argBest_lt (λ i=>(rs.getD i (0,0)).1) ((as.map Qw).length-1)
   rw [Qm] at hv
   obtain ⟨a,ha,rfl⟩:=J4a.mp hv
   have l1:=(Qv.mp ha).1
   obtain ⟨a',r,t1,t2,w1,w2,w3,w4⟩:=gd _ (show _<rs.length by rw [<- hln];exact l1)
   refine ⟨.ref a,H,I.kept (t':=tk) k,rfl,q _ a r ha w2 λ r' hr'=>?_⟩
   obtain ⟨j,hj⟩:=Uh.mp hr'
   have lj:=(Qv.mp hj).1
   have:=b2 j (by rw [Qc];omega)
   rw [Qi (l:=rs) (i:=j),hj] at this
   rw [<- w3]
   exact this
end
end L2
namespace My
open L2
noncomputable def Jhl (r:Int×Int):Yal:=.tuple [.int r.1,.int r.2]
theorem Jhm {ex:List Addr}{H:Hp}:∀ {rs:List (Int×Int)}{vs:List V},Reps ex H (rs.map Jhl) vs->∃ as:List Addr,vs=as.map V.ref/\as.length=rs.length/\∀ (i:Nat) (a:Addr) (r:Int×Int),as[i]? = some a->rs[i]? = some r->H a=some (.tup [.int r.1,.int r.2])/\Rep ex H (Jhl r) (.ref a)
 | [],vs,h=>by
  cases h
  exact ⟨[],rfl,rfl,λ i a r h=>by simp at h⟩
 | r::rs,vs,h=>by
  cases h with
  | cons h1 h2=>
   obtain ⟨as,rfl,hl,ha⟩:=Jhm h2
   have hr:=h1
   cases h1 with
   | @tuple p us _ e nm z rr=>
    cases rr with
    | cons r1 r2=>
     cases r2 with
     | cons r2 r3=>
      cases r3
      cases r1
      cases r2
      refine ⟨p::as,rfl,by simp [hl],λ i a r' h3 h4=>?_⟩
      cases i with
      | zero=>
       cases h3
       cases h4
       exact ⟨e,hr⟩
      | succ i=>exact ha i a r' h3 h4
def J1y:G1:=λ ds Q=>∃ rs:List (Int×Int),ds=[.list (rs.map Jhl)]/\rs≠[]/\(rs.map (·.1)).Nodup/\∀ r∈rs,(∀ r'∈rs,r.1<=r'.1)->Q (Jhl r)
instance co_minP:CO Jx1 J1y:=⟨λ {ex H xs ds Q P} al r h k=>by
 obtain ⟨rs,rfl,hne,hnd,q⟩:=h
 cases r with
 | cons r1 t=>
  cases t
  cases r1 with
  | @list p vs _ e nm z rr=>
   obtain ⟨as,rfl,hl,ha⟩:=Jhm rr
   exact ⟨p,as,rs,rfl,e,hl,λ i a r h1 h2=>(ha i a r h1 h2).1,hne,hnd,λ i a r h1 h2 h3=>k _ _ _ (q r (Xm h2) h3) Kp.refl (ha i a r h1 h2).2⟩⟩
noncomputable abbrev Yx (r:List Int):Yal:=.list (r.map .int)
noncomputable abbrev Jii:List Str:=["first_purse","first_room","behind_all","free","bound","rows","divisor"]
structure Siz where
 fp:Int
 fr:Int
 be:Int
noncomputable def Zz (C:Addr) (z:Siz) (T:Tb.Tab):Yal:=.dict (Jah C Jii [.int z.fp,.int z.fr,.int z.be,.list (T.fr.map Ju),.list (T.bd.map Ju),.list (T.rows.map Yx),.int T.q])
structure TableOk (K:Qb) (C:Addr):Prop where
 c:Cls K C
 n1:NoAttr K C "first_purse"
 n2:NoAttr K C "first_room"
 n3:NoAttr K C "behind_all"
 n4:NoAttr K C "free"
 n5:NoAttr K C "bound"
 n6:NoAttr K C "rows"
 n7:NoAttr K C "divisor"
section
variable {K:Qb}{C:Addr}{z:Siz}{T:Tb.Tab}{Q:Yal->Prop}
theorem Jpp (Y:TableOk K C) (q:Q (.int z.fp)):∃ (C':Addr) (ns:List Str) (ds:List Yal) (x:Yal),Zz C z T = .dict (Jah C' ns ds)/\Cls K C'/\NoAttr K C' "first_purse"/\ns.length=ds.length/\Jig ns ds "first_purse" = some x/\Q x:=⟨C,Jii,_,_,rfl,Y.c,Y.n1,rfl,rfl,q⟩
theorem J1z (Y:TableOk K C) (q:Q (.int z.fr)):∃ (C':Addr) (ns:List Str) (ds:List Yal) (x:Yal),Zz C z T = .dict (Jah C' ns ds)/\Cls K C'/\NoAttr K C' "first_room"/\ns.length=ds.length/\Jig ns ds "first_room" = some x/\Q x:=⟨C,Jii,_,_,rfl,Y.c,Y.n2,rfl,rfl,q⟩
theorem Jtz (Y:TableOk K C) (q:Q (.int z.be)):∃ (C':Addr) (ns:List Str) (ds:List Yal) (x:Yal),Zz C z T = .dict (Jah C' ns ds)/\Cls K C'/\NoAttr K C' "behind_all"/\ns.length=ds.length/\Jig ns ds "behind_all" = some x/\Q x:=⟨C,Jii,_,_,rfl,Y.c,Y.n3,rfl,rfl,q⟩
theorem Jga (Y:TableOk K C) (q:Q (.list (T.fr.map Ju))):∃ (C':Addr) (ns:List Str) (ds:List Yal) (x:Yal),Zz C z T = .dict (Jah C' ns ds)/\Cls K C'/\NoAttr K C' "free"/\ns.length=ds.length/\Jig ns ds "free" = some x/\Q x:=⟨C,Jii,_,_,rfl,Y.c,Y.n4,rfl,rfl,q⟩
theorem Jb8 (Y:TableOk K C) (q:Q (.list (T.bd.map Ju))):∃ (C':Addr) (ns:List Str) (ds:List Yal) (x:Yal),Zz C z T = .dict (Jah C' ns ds)/\Cls K C'/\NoAttr K C' "bound"/\ns.length=ds.length/\Jig ns ds "bound" = some x/\Q x:=⟨C,Jii,_,_,rfl,Y.c,Y.n5,rfl,rfl,q⟩
theorem Jaa (Y:TableOk K C) (q:Q (.list (T.rows.map Yx))):∃ (C':Addr) (ns:List Str) (ds:List Yal) (x:Yal),Zz C z T = .dict (Jah C' ns ds)/\Cls K C'/\NoAttr K C' "rows"/\ns.length=ds.length/\Jig ns ds "rows" = some x/\Q x:=⟨C,Jii,_,_,rfl,Y.c,Y.n6,rfl,rfl,q⟩
theorem Jl4 (Y:TableOk K C) (q:Q (.int T.q)):∃ (C':Addr) (ns:List Str) (ds:List Yal) (x:Yal),Zz C z T = .dict (Jah C' ns ds)/\Cls K C'/\NoAttr K C' "divisor"/\ns.length=ds.length/\Jig ns ds "divisor" = some x/\Q x:=⟨C,Jii,_,_,rfl,Y.c,Y.n7,rfl,rfl,q⟩
theorem Ja8 {m:Str}(hm:m∉Jii):∃ (ns:List Str) (ds:List Yal),Zz C z T = .dict (Jah C ns ds)/\ns.length=ds.length/\m∉ns:=⟨Jii,_,rfl,rfl,hm⟩
end
structure Shape (m n:Nat) (T:Tb.Tab):Prop where
 lb:T.bd.length=m
 lf:T.fr.length=n
 lr:T.rows.length=m
 lw:∀ i,i<m->(T.row i).length=n+1
 mm:m<=20
 nn:n<=100
 small:∀ r∈T.rows,∀ x∈r,x.natAbs<2^4000
 q0:0<T.q
 q1:T.q<2^4000
def Jnw (C:Addr):GSn:=λ as n Q=>∃ (z:Siz) (T:Tb.Tab) (other row:List Int) (k:Nat),as=[.d (Zz C z T),.d (Yx other),.d (Yx row),.d (Ju k)]/\k<other.length/\k<row.length/\other.length<=1000/\(∀ x∈other,x.natAbs<2^4000)/\(∀ x∈row,x.natAbs<2^4000)/\0<T.q/\T.q<2^4000/\Q ((Tb.Jb3 T.q row other k).map .int) n
def Jgb (C:Addr):GSn:=λ as n' Q=>∃ (z:Siz) (T:Tb.Tab) (m n:Nat) (W:List Nat),as=[.d (Zz C z T),.d (.list (W.map Ju))]/\Shape m n T/\Q (((Qg n).map (T.rise m W)).map .int) n'
def Jcq (C:Addr):GSp:=λ as n' Q=>∃ (z:Siz) (T:Tb.Tab) (m n:Nat) (W:List Nat),as=[.d (Zz C z T),.d (.list (W.map Ju))]/\Shape m n T/\(∀ j j',j<n->j'<n->T.f j=T.f j'->j=j')/\(∀ k,k<n->0<T.rise m W k->(∀ j,j<n->0<T.rise m W j->T.f k<=T.f j)->Q (Ju k) n')/\((∀ j,j<n->T.rise m W j<=0)->Q .none n')
noncomputable def tl (T:Tb.Tab) (n:Nat) (W:List Nat) (i:Nat):List Int:=(Qg n).map λ j=>Tb.ind W (T.f j) T.q-Tb.Jk i λ i=>Tb.ind W (T.b i) (T.e i j)
section
variable {m n i:Nat}{T:Tb.Tab}{W:List Nat}
theorem Jnx:(tl T n W i).length=n:=by unfold tl;rw [Qc,Qz]
theorem Jny {j:Nat}(hj:j<n):(tl T n W i)[j]? = some (Tb.ind W (T.f j) T.q-Tb.Jk i λ i=>Tb.ind W (T.b i) (T.e i j)):=by unfold tl;rw [Qm,X4 hj];rfl
theorem Jwf (sh:Shape m n T):T.fr.map (λ ν=>Tb.ind W ν T.q)=tl T n W 0:=by
 apply Xq
 intro j
 by_cases hj:j<n
 . have h1:j<T.fr.length:=by rw [sh.lf];exact hj
   rw [Jny hj,Qm,Qf h1]
   have:T.f j=T.fr[j]:=by unfold Tb.Tab.f;rw [Qi,Qf h1];rfl
   rw [this]
   show some _=some (_-(0:Int))
   rw [J5x]
 . rw [Qx (by rw [Qc,sh.lf];omega),Qx (by rw [Jnx];omega)]
theorem J10 (sh:Shape m n T) (hi:i<m) (c:T.b i∈W):((tl T n W i).zip (T.row i)).map (λ p=>p.1-p.2)=tl T n W (i+1):=by
 have lw:=sh.lw i hi
 apply Xq
 intro j
 by_cases hj:j<n
 . have h1:j<(T.row i).length:=by omega
   rw [J7e,Qm,J3u,Jny hj,Jny hj,Qf h1]
   have e:Tb.ind W (T.b i) (T.e i j)=(T.row i)[j]:=by
    unfold Tb.ind Tb.Tab.e
    rw [if_pos c,Qi,Qf h1];rfl
   show some (_-(T.row i)[j])=some (_-(Tb.Jk i (λ i=>Tb.ind W (T.b i) (T.e i j))+Tb.ind W (T.b i) (T.e i j)))
   rw [e]
   congr 1
   omega
 . rw [Qx (by rw [Qc,J5y,Jnx];omega),Qx (by rw [Jnx];omega)]
theorem Jzs (c:T.b i∉W):tl T n W (i+1)=tl T n W i:=by
 unfold tl
 refine U7 λ j _=>?_
 show _-(Tb.Jk i (λ i=>Tb.ind W (T.b i) (T.e i j))+Tb.ind W (T.b i) (T.e i j))=_
 have:Tb.ind W (T.b i) (T.e i j)=0:=by unfold Tb.ind;rw [if_neg c]
 rw [this]
 omega
theorem Jnz {x:Yal}(sh:Shape m n T) (h:(Br (T.bd.map Ju) (T.rows.map Yx))[i]? = some x):i<m/\x = .tuple [Ju (T.b i),Yx (T.row i)]:=by
 unfold Br at h
 rw [J3u,Qm,Qm] at h
 by_cases hi:i<m
 . have h1:i<T.bd.length:=by rw [sh.lb];exact hi
   have h2:i<T.rows.length:=by rw [sh.lr];exact hi
   rw [Qf h1,Qf h2] at h
   refine ⟨hi,?_⟩
   have e1:T.b i=T.bd[i]:=by unfold Tb.Tab.b;rw [Qi,Qf h1];rfl
   have e2:T.row i=T.rows[i]:=by unfold Tb.Tab.row;rw [Qi,Qf h2];rfl
   rw [e1,e2]
   exact (Xp h).symm
 . rw [Qx (by rw [sh.lb];omega)] at h
   cases h
end
theorem Jwg (n:Nat) (f:Nat->Int):Jap (((Qg n).map f).map .int)=(Qg n).map λ j=>.tuple [Ju j,.int (f j)]:=by
 apply Xq
 intro i
 unfold Jap
 rw [J4t,Qm,Qm,Qm]
 by_cases h:i<n
 . rw [X4 h];rfl
 . rw [Qx (by rw [Qz];omega)];rfl
noncomputable def Jhn (T:Tb.Tab) (n a o k:Nat):Bool:=decide (T.e a n*T.e o k<T.e o n*T.e a k)||(decide (T.e a n*T.e o k=T.e o n*T.e a k)&&decide (T.b a<T.b o))
noncomputable def rf (T:Tb.Tab) (n k:Nat):Nat->Option Nat
 | 0=>none
 | i+1=>match rf T n k i with
  | none=>if 0<T.e i k then some i else none
  | some o=>if 0<T.e i k/\Jhn T n i o k=true then some i else some o
noncomputable def Jzt:Option Nat->Yal
 | none=>.none
 | some i=>Ju i
def Jkk (C:Addr):GSp:=λ as n' Q=>∃ (z:Siz) (T:Tb.Tab) (m n a o k:Nat),as=[.d (Zz C z T),.d (Ju a),.d (Ju o),.d (Ju k)]/\Shape m n T/\a<m/\o<m/\k<n/\Q (.bool (Jhn T n a o k)) n'
def Je1 (C:Addr):GSp:=λ as n' Q=>∃ (z:Siz) (T:Tb.Tab) (m n k:Nat),as=[.d (Zz C z T),.d (Ju k)]/\Shape m n T/\k<n/\Q (Jzt (rf T n k m)) n'
def Jkl (C:Addr):GSp:=λ as n' Q=>∃ (z:Siz) (T:Tb.Tab) (u:Nat) (xs:List Int),as=[.d (Zz C z T),.d (Yx xs)]/\z.fr-z.fp=(u:Int)/\xs.length<=1000/\Q (.tuple [.tuple ((xs.take u).map .int),.tuple ((xs.drop u).map .int)]) n'
section
variable {m n:Nat}{T:Tb.Tab}
theorem Jho (sh:Shape m n T) {i:Nat}(hi:i<m):atI (T.rows.map Yx) ((i:Nat):Int)=some (Yx (T.row i)):=by
 have h2:i<T.rows.length:=by rw [sh.lr];exact hi
 refine Yi (by omega) ?_
 unfold Tb.Tab.row
 rw [Q8,Qm,Qf h2,Qi,Qf h2]
 rfl
theorem Jx2 (sh:Shape m n T) {i:Nat}(hi:i<m):atI (T.bd.map Ju) ((i:Nat):Int)=some (Ju (T.b i)):=by
 have h2:i<T.bd.length:=by rw [sh.lb];exact hi
 refine Yi (by omega) ?_
 unfold Tb.Tab.b
 rw [Q8,Qm,Qf h2,Qi,Qf h2]
 rfl
theorem J11 (sh:Shape m n T) {j:Nat}(hj:j<n):atI (T.fr.map Ju) ((j:Nat):Int)=some (Ju (T.f j)):=by
 have h2:j<T.fr.length:=by rw [sh.lf];exact hj
 refine Yi (by omega) ?_
 unfold Tb.Tab.f
 rw [Q8,Qm,Qf h2,Qi,Qf h2]
 rfl
theorem Jwh (sh:Shape m n T) {i j:Nat}(hi:i<m) (hj:j<=n):atI ((T.row i).map Qn) ((j:Nat):Int)=some (.int (T.e i j)):=by
 have h2:j<(T.row i).length:=by rw [sh.lw i hi];omega
 refine Yi (by omega) ?_
 unfold Tb.Tab.e
 rw [Q8,Qm,Qf h2,Qi,Qf h2]
 rfl
theorem Jn0 (sh:Shape m n T) {i:Nat}(hi:i<m):atI ((T.row i).map Qn) (-1)=some (.int (T.e i n)):=by
 have hl:=sh.lw i hi
 have h2:n<(T.row i).length:=by omega
 refine Jvx (by intro h;rw [List.map_eq_nil_iff] at h;rw [h] at hl;cases hl) ?_
 rw [List.getLast?_map,J84,hl,show n+1-1=n by omega,Qf h2]
 unfold Tb.Tab.e
 rw [Qi,Qf h2]
 rfl
theorem Jgc (sh:Shape m n T) {i j:Nat}(hi:i<m) (hj:j<=n):(T.e i j).natAbs<2^9000:=by
 have h2:j<(T.row i).length:=by rw [sh.lw i hi];omega
 have h3:i<T.rows.length:=by rw [sh.lr];exact hi
 have hr:T.row i∈T.rows:=by unfold Tb.Tab.row;rw [Qi,Qf h3];exact Xt _
 refine Qy (sh.small _ hr (T.e i j) ?_) (J5z (by decide) (by decide))
 unfold Tb.Tab.e
 rw [Qi,Qf h2]
 exact Xt _
theorem Jwi (sh:Shape m n T) {i:Nat}{x:Yal}(h:(Jap (T.rows.map Yx))[i]? = some x):i<m/\x = .tuple [Ju i,Yx (T.row i)]:=by
 unfold Jap at h
 rw [J4t,Qm] at h
 by_cases hi:i<m
 . have h2:i<T.rows.length:=by rw [sh.lr];exact hi
   rw [Qf h2] at h
   refine ⟨hi,?_⟩
   have e2:T.row i=T.rows[i]:=by unfold Tb.Tab.row;rw [Qi,Qf h2];rfl
   rw [e2]
   exact (Xp h).symm
 . rw [Qx (by rw [sh.lr];omega)] at h
   cases h
theorem Jt0 (k:Nat):∀ {i o:Nat},rf T n k i=some o->o<i
 | i+1,o,h=>by
  rw [rf] at h
  cases e:rf T n k i with
  | none=>
   rw [e] at h
   simp only at h
   split at h
   . cases h;omega
   . cases h
  | some p=>
   rw [e] at h
   simp only at h
   have:=Jt0 k e
   split at h
   . cases h;omega
   . cases h;omega
end
structure Names (m n be:Nat) (T:Tb.Tab):Prop where
 bi:∀ i i',i<m->i'<m->T.b i=T.b i'->i=i'
 fi:∀ j j',j<n->j'<n->T.f j=T.f j'->j=j'
 ne:∀ i j,i<m->j<n->T.b i≠T.f j
 bl:∀ i,i<m->T.b i<be
 fl:∀ j,j<n->T.f j<be
noncomputable def Jkm (T:Tb.Tab) (k i ν:Nat):Int:=(if ν = T.f k then T.q else 0)-Tb.Jk i λ i=>if T.b i = ν then T.e i k else 0
noncomputable def dl (T:Tb.Tab) (be k i:Nat):List Int:=(Qg be).map (Jkm T k i)
theorem Jhp {T:Tb.Tab}{be k i:Nat}:(dl T be k i).length=be:=by unfold dl;rw [Qc,Qz]
theorem Jn1 {T:Tb.Tab}{be k i ν:Nat}(h:ν < be):(dl T be k i)[ν]? = some (Jkm T k i ν):=by grind [dl,Jkm]
theorem Jwj {T:Tb.Tab}{be k:Nat}(h:T.f k<be):(Qo be (0:Int)).set (T.f k) T.q=dl T be k 0:=by
 apply Xq
 intro i
 by_cases hi:i<be
 . rw [Jn1 hi,J37,X2,J3p,if_pos hi]
   unfold Jkm
   show _=some (_-(0:Int))
   rw [J5x]
   by_cases e:T.f k=i
   . rw [if_pos e,if_pos h,if_pos e.symm]
   . rw [if_neg e,if_neg (Qh e)]
 . rw [Qx (by rw [Qp,X2];omega),Qx (by rw [Jhp];omega)]
theorem Jzu {m n be:Nat}{T:Tb.Tab}(N:Names m n be T) {k:Nat}(hk:k<n) {i:Nat}(hi:i<m):∀ c,c<=i->Jkm T k c (T.b i)=0:=by
 intro c hc
 unfold Jkm
 rw [if_neg (N.ne i k hi hk)]
 have:Tb.Jk c (λ j=>if T.b j=T.b i then T.e j k else 0)=0:=by
  induction c with
  | zero=>rfl
  | succ c ih=>
   show Tb.Jk c _+(if T.b c=T.b i then T.e c k else 0)=0
   rw [ih (by omega),if_neg λ e=>by have:=N.bi c i (by omega) hi e;omega]
   rfl
 rw [this]
 rfl
theorem Jwk {m n be:Nat}{T:Tb.Tab}(N:Names m n be T) {k:Nat}(hk:k<n) {i:Nat}(hi:i<m):(dl T be k i).set (T.b i) (-(T.e i k))=dl T be k (i+1):=by
 apply Xq
 intro ν
 by_cases hν:ν < be
 . rw [Jn1 hν,J37,Jhp,Jn1 hν]
   have st:Jkm T k (i+1) ν = Jkm T k i ν - (if T.b i = ν then T.e i k else 0):=by
    unfold Jkm
    show _-(Tb.Jk i _+(if T.b i = ν then T.e i k else 0))=_
    omega
   rw [st]
   by_cases e:T.b i = ν
   . rw [if_pos e,if_pos e,if_pos (N.bl i hi),<- e,Jzu N hk hi i (Ql _)]
     congr 1
     omega
   . rw [if_neg e,if_neg e,J5x]
 . rw [Qx (by rw [Qp,Jhp];omega),Qx (by rw [Jhp];omega)]
theorem Jwl {T:Tb.Tab}{be k m:Nat}:dl T be k m=(Qg be).map (T.dir m k):=rfl
def Jea (C:Addr):GSp:=λ as n' Q=>∃ (T:Tb.Tab) (m n k nw nr be:Nat),as=[.d (Zz C ⟨(nw:Int),(nr:Int),(be:Int)⟩ T),.d (Ju k)]/\Shape m n T/\Names m n be T/\k<n/\nw<=be/\be<=1000/\Zb ((Qg nw).map (T.dir m k))≠0/\((Zb ((Qg nw).map (T.dir m k)):Nat):Int)<2^9000/\Q (.tuple (((Qg nw).map (T.dir m k)).map λ x=>.int (x/((Zb ((Qg nw).map (T.dir m k)):Nat):Int)))) n'
noncomputable def wl (q:Int) (be:Nat) (W:List Nat):List Int:=(Qg be).map λ ν=>Tb.ind W ν q
theorem Jhq {q:Int}{be:Nat}{W:List Nat}:(wl q be W).length=be:=by unfold wl;rw [Qc,Qz]
theorem Jn2 {q:Int}{be ν:Nat}{W:List Nat}(h:ν < be):(wl q be W)[ν]? = some (Tb.ind W ν q):=by grind [wl,Tb.ind]
theorem Jzv {q:Int}{be:Nat}:Qo be (0:Int)=wl q be []:=by
 apply Xq
 intro i
 by_cases h:i<be
 . rw [Jn2 h,J3p,if_pos h]
   unfold Tb.ind
   rw [if_neg Ub]
 . rw [Qx (by rw [X2];omega),Qx (by rw [Jhq];omega)]
theorem Jwm {q:Int}{be w:Nat}{W:List Nat}(h:w<be):(wl q be W).set w q=wl q be (W++[w]):=by
 apply Xq
 intro ν
 by_cases hν:ν < be
 . rw [Jn2 hν,J37,Jhq,Jn2 hν]
   unfold Tb.ind
   by_cases e:w = ν
   . rw [if_pos e,if_pos h,if_pos (by rw [<- e];simp)]
   . rw [if_neg e]
     by_cases c:ν∈W
     . rw [if_pos c,if_pos (Xo _ c)]
     . rw [if_neg c,if_neg]
       intro z
       rcases Xh.mp z with z | z
       . exact c z
       . exact e (Qu.mp z).symm
 . rw [Qx (by rw [Qp,Jhq];omega),Qx (by rw [Jhq];omega)]
open Classical in
noncomputable def shN (T:Tb.Tab) (m:Nat) (W:List Nat) (i ν:Nat):Int:=Tb.Jk i (λ j=>if T.f j = ν then -T.rise m W j else 0)+(if (∃ j,j<i/\T.f j = ν) then 0 else Tb.ind W ν T.q)
noncomputable def sl (T:Tb.Tab) (m be:Nat) (W:List Nat) (i:Nat):List Int:=(Qg be).map (shN T m W i)
theorem Jkn {T:Tb.Tab}{m be i:Nat}{W:List Nat}:(sl T m be W i).length=be:=by unfold sl;rw [Qc,Qz]
theorem Jt1 {T:Tb.Tab}{m be i ν:Nat}{W:List Nat}(h:ν < be):(sl T m be W i)[ν]? = some (shN T m W i ν):=by grind [sl,shN]
theorem Jwn {T:Tb.Tab}{m be:Nat}{W:List Nat}:wl T.q be W=sl T m be W 0:=by
 unfold wl sl
 refine U7 λ ν _=>?_
 unfold shN
 show _=(0:Int)+_
 rw [if_neg (by rintro ⟨j,hj,_⟩;omega),J4y]
theorem Jwo {m n be i:Nat}{T:Tb.Tab}{W:List Nat}(N:Names m n be T) (hi:i<n):(sl T m be W i).set (T.f i) (-(T.rise m W i))=sl T m be W (i+1):=by
 apply Xq
 intro ν
 by_cases hν:ν < be
 . rw [Jt1 hν,J37,Jkn,Jt1 hν]
   by_cases e:T.f i = ν
   . rw [if_pos e,if_pos (N.fl i hi)]
     unfold shN
     rw [if_pos ⟨i,by omega,e⟩]
     show _=some (Tb.Jk i (λ j=>if T.f j = ν then -T.rise m W j else 0)+(if T.f i = ν then -T.rise m W i else 0)+0)
     have z:∀ c,c<=i->Tb.Jk c (λ j=>if T.f j = ν then -T.rise m W j else 0)=0:=by
      intro c hc
      induction c with
      | zero=>rfl
      | succ c ih=>
       show Tb.Jk c _+(if T.f c = ν then -T.rise m W c else 0)=0
       rw [ih (by omega),if_neg λ h=>by have:=N.fi c i (by omega) hi (h.trans e.symm);omega]
       rfl
     rw [z i (Ql _),if_pos e]
     congr 1
     omega
   . rw [if_neg e]
     unfold shN
     show some (_+_)=some (Tb.Jk i (λ j=>if T.f j = ν then -T.rise m W j else 0)+(if T.f i = ν then -T.rise m W i else 0)+_)
     rw [if_neg e,J4w]
     congr 2
     by_cases c:∃ j,j<i/\T.f j = ν
     . obtain ⟨j,h1,h2⟩:=c
       rw [if_pos ⟨j,h1,h2⟩,if_pos ⟨j,by omega,h2⟩]
     . rw [if_neg c,if_neg]
       rintro ⟨j,h1,h2⟩
       by_cases z:j=i
       . rw [z] at h2;exact e h2
       . exact c ⟨j,by omega,h2⟩
 . rw [Qx (by rw [Qp,Jkn];omega),Qx (by rw [Jkn];omega)]
def Jhr (C:Addr):GSn:=λ as n' Q=>∃ (T:Tb.Tab) (m n nw nr be:Nat) (W:List Nat),as=[.d (Zz C ⟨(nw:Int),(nr:Int),(be:Int)⟩ T),.d (.list (W.map Ju))]/\Shape m n T/\Names m n be T/\(∀ w∈W,w<be)/\nw<=be/\be<=1000/\Q (((sl T m be W n).drop nw).map .int) n'
theorem Jzw {m n i:Nat}{T:Tb.Tab}{x:Yal}{f:Nat->Int}(sh:Shape m n T) (h:(Br (T.fr.map Ju) (((Qg n).map f).map .int))[i]? = some x):i<n/\x = .tuple [Ju (T.f i),.int (f i)]:=by
 unfold Br at h
 rw [J3u,Qm,Qm,Qm] at h
 by_cases hi:i<n
 . have h1:i<T.fr.length:=by rw [sh.lf];exact hi
   rw [Qf h1,X4 hi] at h
   refine ⟨hi,?_⟩
   have e1:T.f i=T.fr[i]:=by unfold Tb.Tab.f;rw [Qi,Qf h1];rfl
   rw [e1]
   exact (Xp h).symm
 . rw [Qx (by rw [sh.lf];omega)] at h
   cases h
section
variable {T:Tb.Tab}{n k:Nat}
theorem Jko:∀ {i:Nat},rf T n k i=none->∀ j,j<i->T.e j k<=0
 | 0,_,j,hj=>by omega
 | i+1,h,j,hj=>by
  rw [rf] at h
  cases e:rf T n k i with
  | none=>
   rw [e] at h
   simp only at h
   split at h
   . cases h
   . rename_i c
     by_cases z:j=i
     . rw [z];omega
     . exact Jko e j (by omega)
  | some o=>
   rw [e] at h
   simp only at h
   split at h<;>cases h
end
section
variable {m n be:Nat}{c:Nat->Tb.Vec}{rhs:Tb.Vec}{T:Tb.Tab}{W:List Nat}
theorem Jhs (b:Nat) (hb:1<=b):∀ k d,Tb.Jd5 b k<=Tb.Jd5 b (k+d)
 | k,0=>Ql _
 | k,d+1=>by
  refine Xj (Jhs b hb k d) ?_
  show Tb.Jd5 b (k+d)<=(k+d+1)*b*Tb.Jd5 b (k+d)
  exact Nat.le_mul_of_pos_left _ (Nat.mul_pos (by omega) hb)
theorem Ji7 (hm:m<=18):Tb.Jd5 100 m<2^4000:=by
 have h1:=Jhs 100 (by decide) m (18-m)
 rw [show m+(18-m)=18 by omega] at h1
 exact Us h1 (by decide +kernel)
structure Small (m:Nat) (c:Nat->Tb.Vec) (rhs:Tb.Vec):Prop where
 c:∀ ν r,r<m->(c ν r).natAbs<=100
 r:∀ r,r<m->(rhs r).natAbs<=100
theorem Jht (S:Small m c rhs) (h:Tb.TabOk m n c rhs T) {i:Nat}{v:Tb.Vec}(hv:∀ r,r<m->(v r).natAbs<=100):(Tb.cr m (T.bd.map c) i v).natAbs<=Tb.Jd5 100 m:=by
 unfold Tb.cr
 refine Tb.Jl0 m _ (by rw [Qp,Qc,h.lb]) λ j hj r hr=>?_
 unfold Tb.atV
 have hl:j<(T.bd.map c).length:=by rw [Qc,h.lb];exact hj
 by_cases e:i=j
 . subst e
   rw [Tb.Zx hl]
   exact hv r hr
 . rw [Tb.Z7 e]
   have:=Tb.at_map (c:=c) (l:=T.bd) (i:=j) (by rw [h.lb];exact hj)
   unfold Tb.atV at this
   rw [this]
   exact S.c _ r hr
theorem Jt2 (S:Small m c rhs) (h:Tb.TabOk m n c rhs T) (hm:m<=18) (hn:n<=100):Shape m n T:=by
 have fs:=Ji7 hm
 refine ⟨h.lb,h.lf,h.lr,h.lw,by omega,hn,λ r hr x hx=>?_,h.qpos,?_⟩
 . obtain ⟨i,hi⟩:=Uh.mp hr
   obtain ⟨j,hj⟩:=Uh.mp hx
   have il:=(Qv.mp hi).1
   rw [h.lr] at il
   have er:T.row i=r:=by unfold Tb.Tab.row;rw [Qi,hi];rfl
   have jl:=(Qv.mp hj).1
   rw [<- er,h.lw i il] at jl
   have ex:T.e i j=x:=by unfold Tb.Tab.e;rw [er,Qi,hj];rfl
   rw [<- ex]
   refine Us ?_ fs
   by_cases z:j<n
   . rw [h.en i il j z]
     exact Jht S h λ r hr=>S.c _ r hr
   . rw [show j=n by omega,h.el i il]
     exact Jht S h S.r
 . have:T.q.natAbs<=Tb.Jd5 100 m:=by
    rw [h.qq]
    refine Tb.Jl0 m _ (by rw [Qc,h.lb]) λ j hj r hr=>?_
    rw [Tb.at_map (by rw [h.lb];exact hj)]
    exact S.c _ r hr
   have q0:=h.qpos
   have:T.q.natAbs<2^4000:=Us this fs
   have e:((T.q.natAbs:Nat):Int)=T.q:=J3c (by omega)
   rw [<- e]
   exact_mod_cast this
theorem Jl5 (h:Tb.TabOk m n c rhs T) (bl:∀ i,i<m->T.b i<be) (fl:∀ j,j<n->T.f j<be):Names m n be T:=⟨h.bi,h.fi,h.ne,bl,fl⟩
theorem Jt3 (h:Tb.TabOk m n c rhs T) (N:Names m n be T) {l k:Nat}(hl:l<m) (hk:k<n) (hp:0<T.e l k):Names m n be (T.ex l k):=by
 refine Jl5 (h.ex hl hk hp) (λ i hi=>?_) (λ j hj=>?_)
 . by_cases e:i=l
   . rw [e,Tb.Jb5 h hl];exact N.fl k hk
   . rw [Tb.Jfx e];exact N.bl i hi
 . by_cases e:j=k
   . rw [e,Tb.Jb4 h hk];exact N.bl l hl
   . rw [Tb.Jih e];exact N.fl j hj
theorem Jt4 (ν:Nat):shN T m W n ν = T.share m n W ν:=by
 unfold shN Tb.Tab.share
 congr 1
end
section
variable {m n be:Nat}{c:Nat->Tb.Vec}{T:Tb.Tab}{W:List Nat}
noncomputable abbrev Jhu:Tb.Vec:=λ _=>0
theorem Jzx {k:Nat}(hk:k<n) (hr:0<T.rise m W k) (hl:rf T n k m=none):Tb.Ray m n W T k:=⟨hk,hr,λ i hi=>Jko hl i hi⟩
end
noncomputable abbrev Y5 (k:Nat):V:=.int (k:Int)
noncomputable def Jl6 (z:Siz) (q:Int) (fa ba:Addr) (rv:V):List (Str×V):=[("first_purse",.int z.fp),("first_room",.int z.fr),("behind_all",.int z.be),("free",.ref fa),("bound",.ref ba),("rows",rv),("divisor",.int q)]
structure TabH (C:Addr) (ex:List Addr) (p fa ba:Addr) (z:Siz) (T:Tb.Tab) (H:Hp):Prop where
 o:∃ (dx:Addr) (rv:V),H p=some (.ins C dx (Jl6 z T.q fa ba rv))/\Rep (p::fa::ba::ex) H (.list (T.rows.map Yx)) rv
 f:H fa=some (.lst (T.fr.map Y5))
 b:H ba=some (.lst (T.bd.map Y5))
 pf:p≠fa
 pb:p≠ba
 fb:fa≠ba
 np:p∉ex
 nf:fa∉ex
 nb:ba∉ex
 al:Alc ex H
theorem Ji8 {ex:List Addr}{H:Hp}(ks:List Nat):Reps ex H (ks.map Ju) (ks.map Y5):=by
 have:=Ji5 (ex:=ex) (H:=H) (ks.map λ k:Nat=>(k:Int))
 rw [Q0,Q0] at this
 exact this
theorem TabH.rep {C p fa ba:Addr}{ex:List Addr}{z:Siz}{T:Tb.Tab}{H:Hp}(h:TabH C ex p fa ba z T H) (lf:T.fr.length<=sizeLine) (lb:T.bd.length<=sizeLine):Rep ex H (Zz C z T) (.ref p):=by
 obtain ⟨dx,rv,h1,h2⟩:=h.o
 refine .obj (fs:=Jl6 z T.q fa ba rv) (ds:=[.int z.fp,.int z.fr,.int z.be,.list (T.fr.map Ju),.list (T.bd.map Ju),.list (T.rows.map Yx),.int T.q]) h1 h.np rfl ?_
 refine .cons (.int _) (.cons (.int _) (.cons (.int _) (.cons (.list h.f h.nf (by rw [Qc];exact lf) (Ji8 _)) (.cons (.list h.b h.nb (by rw [Qc];exact lb) (Ji8 _)) (.cons (Rep.sub (Rep.sub (Rep.sub h2))) (.cons (.int _) .nil))))))
theorem TabH.keep {C p fa ba:Addr}{ex:List Addr}{z:Siz}{T:Tb.Tab}{H H':Hp}(h:TabH C ex p fa ba z T H) (k:Kp [] H H'):TabH C ex p fa ba z T H':=by
 obtain ⟨dx,rv,h1,h2⟩:=h.o
 exact ⟨⟨dx,rv,k _ _ h1 (by simp),h2.keep (k.mono λ a ha=>by cases ha)⟩,k _ _ h.f (by simp),k _ _ h.b (by simp),h.pf,h.pb,h.fb,h.np,h.nf,h.nb,h.al.kp k⟩
def Jzy (C:Addr):Sp:=λ vs H Q _=>∃ (ex:List Addr) (p fa ba:Addr) (z:Siz) (T:Tb.Tab) (m n l k:Nat),vs=[.ref p,Y5 l,Y5 k]/\TabH C ex p fa ba z T H/\Shape m n T/\l<m/\k<n/\∀ H',TabH C ex p fa ba z (T.ex l k) H'->Kp [p,fa,ba] H H'->Q .non H'
structure Kept (m n be:Nat) (c:Nat->Tb.Vec) (T0 T:Tb.Tab):Prop where
 ok:Tb.TabOk m n c Jhu T
 nm:Names m n be T
 tot:∀ g,T.tot m n g=T0.tot m n g
structure Fit (nw m n:Nat) (c:Nat->Tb.Vec) (some:List Nat) (T:Tb.Tab):Prop where
 cols:Tb.Cols nw m c
 sm:∀ k∈some,k<nw
 len:some.length=n
 tot:∀ g:Nat->Int,T.tot m n g=Tb.Jk m (λ s=>g (nw+s))+Tb.Jk n (λ j=>g (some.getD j 0))
theorem Jeb {sp:GSp}{C p fa ba:Addr}{ex:List Addr}{z:Siz}{T:Tb.Tab}{H:Hp}{as:List Vl}{vs:List V}{Q:VK}{E:XK}{P:Yal->Nat->Prop}(h:TabH C ex p fa ba z T H) (lf:T.fr.length<=sizeLine) (lb:T.bd.length<=sizeLine) (ra:Bo Src.no ex H as vs) (hs:sp (.d (Zz C z T)::as) 0 P) (k:∀ d n' v H',P d n'->Kp [] H H'->Rep ex H' d v->Q v H'):Jn sp (.ref p::vs) H Q E:=
 ⟨Src.no,ex,.d (Zz C z T)::as,0,P,⟨⟨_,rfl,h.rep lf lb⟩,ra⟩,λ a ha=>(by cases ha),h.al,trivial,hs,λ d n' v H' p s r=>k d n' v H' p s.1 r⟩
structure Turn (C:Addr) (ex:List Addr) (p fa ba:Addr) (z:Siz) (m n be:Nat) (c:Nat->Tb.Vec) (W:List Nat) (T0:Tb.Tab) (H0:Hp) (wv:V) (N:Nat) (T:Tb.Tab) (H:Hp):Prop where
 h:TabH C ex p fa ba z T H
 k:Kept m n be c T0 T
 kp:Kp [p,fa,ba] H0 H
 w:Rep (p::fa::ba::ex) H (.list (W.map Ju)) wv
 path:∃ st l k,Tb.Path m n c Jhu W N st l k/\st N=T/\∀ t,t<=N->Names m n be (st t)
theorem J26 {s1 s2 s3 s4 r:TS}{D:Ends}{σ:L2.St}{H:Hp}(h:Jae s1 (Jae s2 (Jae s3 s4)) { D with nx:=r D } σ H):Jae s1 (Jae s2 (Jae s3 (Jae s4 r))) D σ H:=h
theorem Jzz {ts:TS}{gs:GS}{N:List Str}{as:List Vl}{vs:List V}{H:Hp}{D:Ends}{P:List Vl->Prop} [T:SV ts gs] (r:Bo Src.no [] H as vs) (hp:as.all Jev=true) (g:gs { nx:=λ env _=>P env,rt:=λ _ _=>False,rtn:=λ _ _=>False } (Jdu N as) 0) (k:∀ ex env σ H' n,At ⟨Src.no,[],H,[]⟩ ex env σ H' n->P env->D.nx σ H'):ts D (start N vs) H:=
 T.sv (C:=⟨Src.no,[],H,[]⟩) (G:={ nx:=λ env _=>P env,rt:=λ _ _=>False,rtn:=λ _ _=>False }) ⟨λ A h=>k _ _ _ _ _ A h,λ _ h=>h.elim,λ _ h=>h.elim,λ _ h=>h.elim,λ _ h=>h.elim,λ _ _ h=>h.elim,λ _ h=>h.elim⟩ (Jdv r hp (λ a ha=>by cases ha) (λ a ha=>by cases ha) trivial) g
def Jx3 (C p:Addr) (z:Siz) (T:Tb.Tab) (l k:Nat) (env:List Vl):Prop:=∃ ps:List (Addr×List Yal),env=[.pin (.ref p) (Zz C z T),.d (Ju l),.d (Ju k),.d (Yx (T.row l)),.own2 none ps]/\ps.map (·.2)=(T.ex l k).rows.map (·.map .int)
theorem Jt5 {a p fa ba:Addr}{xx:List Addr}(h1:a≠p) (h2:a≠fa) (h3:a≠ba) (h4:a∉xx):a∉p::fa::ba::xx:=by grind
theorem Jl7 (ks:List Nat) (i j:Nat):(ks.map Y5).set i (Y5 j)=(ks.set i j).map Y5:=by rw [X5]
theorem Jwp {K:Qb}{C p fa ba:Addr}{xx:List Addr}{z:Siz}{T:Tb.Tab}{m n l k nn:Nat}{H H':Hp}{σ:L2.St}{Q:VK}{ex:List Addr}{env:List Vl}{rt:VK}(Y:TableOk K C) (hT:TabH C xx p fa ba z T H) (sh:Shape m n T) (hl:l<m) (hk:k<n) (A:At ⟨Src.no,[],H,[]⟩ ex env σ H' nn) (hP:Jx3 C p z T l k env) (q:∀ H',TabH C xx p fa ba z (T.ex l k) H'->Kp [p,fa,ba] H H'->Q .non H') :
 Jae (Ju9 K (Z4 0) (Z4 4) "rows") (Jae (Ju9 K (Z4 0) (tOp (Jla K) (Z4 3) (Z4 2)) "divisor") (Jdl (Jva (Yo (tOp (Jla K) (Jm5 K (Z4 0) "bound") (Z4 1)) (Yo (tOp (Jla K) (Jm5 K (Z4 0) "free") (Z4 2)) Ja2))) (Jro K 2 (gCons (Jmy (Jm5 K (Z4 0) "free") (Z4 2) Jgo) (gCons (Jmy (Jm5 K (Z4 0) "bound") (Z4 1) Jgo) gNil))))) { nx:=λ _ H'=>Q .non H',rt:=rt } σ H':=by
 obtain ⟨ps,rfl,hps⟩:=hP
 obtain ⟨e0,_⟩:=A.ev.sl 0 _ rfl
 obtain ⟨v1,e1,r1⟩:=A.ev.sl 1 _ rfl
 cases r1
 obtain ⟨v2,e2,r2⟩:=A.ev.sl 2 _ rfl
 cases r2
 obtain ⟨v3,e3,r3⟩:=A.ev.sl 3 _ rfl
 obtain ⟨a,e4,o4⟩:=A.ev.sl 4 _ rfl
 have s0:=Jo e0
 have s1:=Jo e1
 have s2:=Jo e2
 have s3:=Jo e3
 have s4:=Jo e4
 have kp:=A.kp
 have kp:Kp [] H H':=kp
 obtain ⟨dx,rv,o1,o2⟩:=hT.o
 have p1:=kp _ _ o1 (by simp)
 have f1:=kp _ _ hT.f (by simp)
 have b1:=kp _ _ hT.b (by simp)
 have oi:Jq [Vl.pin (.ref p) (Zz C z T),.d (Ju l),.d (Ju k),.d (Yx (T.row l)),.own2 none ps] σ 4=a::ps.map (·.1):=by
  unfold Jq;rw [e4];rfl
 have new:∀ b,b∈a::ps.map (·.1)->H b=none:=λ b hb=>A.new 4 b (by rw [oi];exact hb)
 have ne:∀ b,b∈a::ps.map (·.1)->b≠p/\b≠fa/\b≠ba:=λ b hb=>by
  have h:=new b hb
  refine ⟨λ z=>?_,λ z=>?_,λ z=>?_⟩
  . rw [z,o1] at h;cases h
  . rw [z,hT.f] at h;cases h
  . rw [z,hT.b] at h;cases h
 cases r3 with
 | @list ra rvs _ re rn rz rr=>
 have rp:ra≠p:=λ z=>by rw [z,p1] at re;cases re
 have rin:=Reps.ints_inv rr
 subst rin
 have hkr:k<(T.row l).length:=by rw [sh.lw l hl];omega
 have el:atI ((T.row l).map V.int) ((k:Nat):Int)=some (.int (T.e l k)):=by
  refine Yi (by omega) ?_
  unfold Tb.Tab.e
  rw [Q8,Qm,Qf hkr,Qi,Qf hkr]
  rfl
 have lb:l<T.bd.length:=by rw [sh.lb];exact hl
 have lf:k<T.fr.length:=by rw [sh.lf];exact hk
 have eb:atI (T.bd.map Y5) ((l:Nat):Int)=some (Y5 (T.b l)):=by
  refine Yi (by omega) ?_
  unfold Tb.Tab.b
  rw [Q8,Qm,Qf lb,Qi,Qf lb]
  rfl
 have ef:atI (T.fr.map Y5) ((k:Nat):Int)=some (Y5 (T.f k)):=by
  refine Yi (by omega) ?_
  unfold Tb.Tab.f
  rw [Q8,Qm,Qf lf,Qi,Qf lf]
  rfl
 have one:(2:Nat)<=sizeLine:=by rw [Yar];decide
 refine ⟨_,s4,_,s0,p,C,dx,_,rfl,p1,Y.c,Y.n6,Xf rfl,?_⟩
 have pu:L2.putF "rows" (V.ref a) (Jl6 z T.q fa ba rv)=Jl6 z T.q fa ba (.ref a):=rfl
 rw [pu]
 refine ⟨_,s3,_,s2,ra,_,_,_,rfl,rfl,SqL.of (by rw [Je rp];exact re),el,_,s0,p,C,dx,_,rfl,Jf,Y.c,Y.n7,Xf rfl,?_⟩
 have pu2:L2.putF "divisor" (V.int (T.e l k)) (Jl6 z T.q fa ba (.ref a))=Jl6 z (T.e l k) fa ba (.ref a):=rfl
 rw [pu2,Jf2]
 have fp:fa≠p:=Qh hT.pf
 have bp:ba≠p:=Qh hT.pb
 refine ⟨_,s0,p,C,dx,_,_,rfl,Jf,Y.c,Y.n5,rfl,_,s1,ba,_,_,_,rfl,rfl,SqL.of (by rw [Je bp];exact b1),eb,_,s0,p,C,dx,_,_,rfl,Jf,Y.c,Y.n4,rfl,_,s2,fa,_,_,_,rfl,rfl,SqL.of (by rw [Je fp];exact f1),ef,one,λ pt hpt=>?_⟩
 have ptp:pt≠p:=λ z=>by rw [z,Jf] at hpt;cases hpt
 have hpt':H' pt=none:=by rw [Je ptp] at hpt;exact hpt
 have ptf:pt≠fa:=λ z=>by rw [z,f1] at hpt';cases hpt'
 have ptb:pt≠ba:=λ z=>by rw [z,b1] at hpt';cases hpt'
 refine ⟨pt,_,rfl,SqT.of Jf,rfl,_,_,rfl,_,s0,p,C,dx,_,_,rfl,by rw [Je (Qh ptp),Jf],Y.c,Y.n4,rfl,_,s2,fa,_,_,k,rfl,rfl,by rw [Je (Qh ptf),Je fp];exact f1,Bm (by omega) (by rw [Qc];omega),?_⟩
 refine ⟨_,_,rfl,_,s0,p,C,dx,_,_,rfl,by rw [Je hT.pf,Je (Qh ptp),Jf],Y.c,Y.n5,rfl,_,s1,ba,_,_,l,rfl,rfl,by rw [Je (Qh hT.fb),Je (Qh ptb),Je bp];exact b1,Bm (by omega) (by rw [Qc];omega),rfl,?_⟩
 rw [Jl7,Jl7]
 have same:∀ b o,H' b=some o->b≠p->b≠fa->b≠ba->upd (upd (upd (upd H' p (.ins C dx (Jl6 z (T.e l k) fa ba (.ref a)))) pt (.tup [Y5 (T.b l),Y5 (T.f k)])) fa (.lst ((T.fr.set k (T.b l)).map Y5))) ba (.lst ((T.bd.set l (T.f k)).map Y5)) b=some o:=λ b o e n1 n2 n3=>by
  rw [Je n3,Je n2,Je (Jl e hpt'),Je n1];exact e
 refine q _ ⟨⟨dx,.ref a,?_,?_⟩,?_,?_,hT.pf,hT.pb,hT.fb,hT.np,hT.nf,hT.nb,λ b hb=>?_⟩ λ b o e nb=>?_
 . rw [Je hT.pb,Je hT.pf,Je (Qh ptp),Jf];rfl
 . have na:=ne a Qk
   refine .list (same a _ o4.h na.1 na.2.1 na.2.2) (Jt5 na.1 na.2.1 na.2.2 λ z=>hT.al a z (new a Qk)) (by unfold Wi;rw [Qc,Yar];have:=o4.z;omega) ?_
   have go:∀ (qs:List (Addr×List Yal)) (rs:List (List Int)),(∀ x∈qs,x∈ps)->qs.map (·.2)=rs.map (·.map .int)->Reps (p::fa::ba::xx) (upd (upd (upd (upd H' p (.ins C dx (Jl6 z (T.e l k) fa ba (.ref a)))) pt (.tup [Y5 (T.b l),Y5 (T.f k)])) fa (.lst ((T.fr.set k (T.b l)).map Y5))) ba (.lst ((T.bd.set l (T.f k)).map Y5))) (rs.map Yx) (Wi qs):=by
    intro qs
    induction qs with
    | nil=>
     intro rs _ e
     cases rs with
     | nil=>exact .nil
     | cons r rs=>cases e
    | cons x qs ih=>
     intro rs hm e
     cases rs with
     | nil=>cases e
     | cons r rs=>
      rw [Xb,Xb] at e
      injection e with e1 e2
      have hx:=hm x Qk
      obtain ⟨vs,g1,g2,g3⟩:=(o4.i x hx).h
      have nx:=ne x.1 (Qj _ (Qq.mpr ⟨x,hx,rfl⟩))
      rw [e1] at g3
      have:=Reps.ints_inv g3
      subst this
      exact .cons (.list (same _ _ g1 nx.1 nx.2.1 nx.2.2) (Jt5 nx.1 nx.2.1 nx.2.2 λ z=>hT.al x.1 z (new x.1 (Qj _ (Qq.mpr ⟨x,hx,rfl⟩)))) g2 (Reps.ints r)) (ih rs (λ y hy=>hm y (Qj _ hy)) e2)
   exact go ps _ (λ _ h=>h) hps
 . rw [Je hT.fb,Jf];rfl
 . rw [Jf];rfl
 . cases e:H b with
   | none=>exact absurd e (hT.al b hb)
   | some o=>
    rw [same b o (kp b o e (by simp)) (λ z=>hT.np (by rw [<- z];exact hb)) (λ z=>hT.nf (by rw [<- z];exact hb)) (λ z=>hT.nb (by rw [<- z];exact hb))]
    exact Xu _
 . simp only [Qd,Ub,or_false,not_or] at nb
   exact same b o (kp b o e (by simp)) nb.1 nb.2.1 nb.2.2
end My
namespace L2
theorem Jij {M:Model}{A:Yaq}{E:Yak->Yam->Prop}{s:Yam}{a b:Yak}{Q:Yak->Yam->Prop}(ha:s.TypeIs a "list") (hb:s.TypeIs b "list") (hc:Yan M A (call (.builtin "list.__iadd__") [a,b]) Q E s):Yan M A (inplaceOp .Add a b) Q E s:=by
 have hl:typeLookup (.type "list") (dunderI "add")=pure (some (.builtin "list.__iadd__")):=J9l.lookup
 unfold inplaceOp
 refine wpAny_holding ?_
 have hfi:fillsInplaceSlot (.type "list") "add" (Operator.Add == .Add)=pure false:=by
  unfold fillsInplaceSlot
  show (typeLookup (.type "list") (dunderI "add") >>= λ fi=>pure (fi.isSome && !isSeqSlot fi))=pure false
  rw [hl];rfl
 refine wpAny_bind (wpAny_typeOf ha (wpAny_bind (wpAny_of_eq hfi ?_)))
 show Yan M A (if false=true then _ else _) Q E s
 rw [if_neg Q4]
 refine wpAny_bind (wpAny_binaryOp1_none (nm:="add") ha hb PySem.noFill_list_add ?_)
 refine wpAny_bind (wpAny_of_eq (J6o hl (by decide +kernel)) ?_)
 exact wpAny_bind (wpAny_rule hc)
def ipL:TIp:=λ x y H Q=>∃ l b xs zs,x = .ref l/\y = .ref b/\H l=some (.lst xs)/\H b=some (.lst zs)/\xs.length+zs.length<=sizeLine/\Q (.ref l) (upd H l (.lst (xs++zs)))
theorem Jwq {X:Cx}:PIp X .Add ipL:=by
 intro pins s σ H x y v u Q I rx ru h
 obtain ⟨l,b,xs,zs,rfl,rfl,hH,hB,hz,q⟩:=h
 cases rx
 cases ru
 obtain ⟨z,its,n,r,hl,e⟩:=I.lstM hH
 obtain ⟨z2,its2,n2,r2,hl2,e2⟩:=I.lstM hB
 have hsz:its.toArray.size+its2.toArray.size<=sizeLine:=by rw [Q2,Q2];omega
 have hlong:¬ (!its.toArray.isEmpty&&J5c (its.toArray.size+its2.toArray.size))=true:=by
  rw [Jlb hsz,J8v]
  exact Q4
 refine Jij (a:=.ref l) (b:=.ref b) (s:=s) ⟨_,e,rfl⟩ ⟨_,e2,rfl⟩ ?_
 refine call_meets J9l ⟨_,e,rfl⟩ F.entry_list_iadd (F.args_list_iadd_2 _ _)
  (AutoSeq1.list___iadd___list_list_0 l its.toArray n b its2.toArray n2 hlong (by rw [Q2];omega) (by omega)) ⟨e,e2,?_⟩
 refine ⟨.ref l,_,I.lset (its':=its++its2) hH e (by simp) (r.append r2) ?_,rfl,q⟩
 rw [Xn]
 omega
end L2
namespace My
open L2
class N2V (te:TE) (g:outParam GN2):Prop where
 n2:∀ {S:Src} {ex:List Addr} {env:List Vl} {σ:L2.St} {H:Hp} {n:Nat} {Q:VK} {P:List (List Yal)->Nat->Prop},Ev S ex env σ H n->g env n P ->
  (∀ (ps:List (Addr×List Yal)) (n':Nat) (a:Addr) (H':Hp),P (ps.map (·.2)) n'->Y0 S n' H H'->H a=none->(∀ p∈ps,H p.1=none)->Own2 S (a::ps.map (·.1)++ex) H' none ps a->Q (.ref a) H')->te σ H Q
abbrev Jwr (gi:GN) (k:Nat) (idx ks:List Nat) (bd:GG) (gn:GN):GN2:=λ env n Q=>gi env n λ items n1=>(ks.all (λ i=>decide (i<k))=true/\items.length<=1000000)/\Jj6 (Jj7 bd gn (Jc5 k idx env)) items n1 Q
instance n2v_comp {wi:TI}{gi:GN}{k:Nat}{idx ks:List Nat}{g:TG}{bd:GG}{te:TE}{gn:GN} [I:IV wi gi] [G:GV g bd ks] [A:NV te gn]  :N2V (Jbi wi k idx g Jf4 te) (Jwr gi k idx ks bd gn):=⟨λ {S ex env σ H n Q P} E h kk=>by
 refine I.iv E h λ items n1 J hd H1 hc s1 hrd hit l hl=>?_
 obtain ⟨⟨hk,hz⟩,hc⟩:=hc
 have hs:sizeLine=16777216:=Yar
 have E1:=Jgz (E.step s1) k idx
 have lch:l∉S.ch:=λ z=>S.dom s1.2 l z hl
 have hkk:∀ i∈ks,i<k:=λ i hi=>of_decide_eq_true (Uv.mp hk i hi)
 refine ⟨λ i m σ' H2=>i<=items.length/\m=items.length-i/\∃ (n2:Nat) (ps:List (Addr×List Yal)),Jj6 (Jj7 bd gn (Jc5 k idx env)) (items.drop i) n2 (λ ys n'=>P (ps.map (·.2)++ys) n')/\Kp (l::S.ch) H1 H2/\H2 l=some (.lst (Wi ps))/\ps.length<=i/\(∀ p∈ps,H1 p.1=none)/\(l::ps.map (·.1)).Nodup/\(∀ p∈ps,In2 S (l::ps.map (·.1)++ex) H2 p)/\S.inv n2 H2/\(∀ j:Nat,k<=j->σ'[j]? = (Zh k idx σ)[j]?)/\σ'.length=(Zh k idx σ).length,
  ⟨items.length,Xl _,rfl,n1,[],by simpa using hc,Kp.new hl _,Jf,Ql _,(λ p hp=>by cases hp),by simp,(λ p hp=>by cases hp),S.keep s1.2 λ b _ o' e=>Kp.new (ex:=[]) hl _ _ _ e (by simp),λ _ _=>rfl,rfl⟩,?_⟩
 rintro i m σ' H2 ⟨hi,rfl,n2,ps,hcm,kp,h2l,hvl,hno,hnd,hin,iv2,hsl,hln⟩
 have hL:∀ b∈l::ps.map (·.1),H1 b=none:=λ b hb=>by
  rcases Qd.mp hb with rfl | hb
  . exact hl
  . obtain ⟨p,hp,rfl⟩:=Qq.mp hb
    exact hno p hp
 have hL2:∀ b∈l::ps.map (·.1),H2 b≠none:=λ b hb=>by
  rcases Qd.mp hb with rfl | hb
  . rw [h2l];exact Xu _
  . obtain ⟨p,hp,rfl⟩:=Qq.mp hb
    obtain ⟨vs,h1,_⟩:=(hin p hp).h
    rw [h1];exact Xu _
 have E2:Ev S (l::ps.map (·.1)++ex) (Jc5 k idx env) σ' H2 n2:=Jlt E1 hL (kp.mono λ b hb=>(Qd.mp hb).elim (λ e=>by rw [e];exact Xo _ Qk) λ h=>Xk _ h) hL2 iv2 Jg0 hsl hln
 have kpx:Kp (l::ps.map (·.1)++ex) H1 H2:=kp.mono λ b hb=>(Qd.mp hb).elim (λ e=>by rw [e];exact Xo _ Qk) λ h=>Xk _ (E.ch b h)
 have IT:=hit (l::ps.map (·.1)++ex) H2 E2.al λ h hh=>(Rep.adds hL (hrd h hh)).keep kpx
 rcases Uw i items.length with hlt | hge
 . refine .inr ⟨(IT.2 i items[i] (Qf hlt)).1,λ x H3 y=>?_⟩
   obtain ⟨kp3,rx⟩:=(IT.2 i items[i] (Qf hlt)).2 x H3 y
   have rx':=rx
   rw [J67 hlt] at hcm
   have st3:Y0 S n2 H2 H3:=Y0.new E2.inv kp3
   have E3:=E2.step st3
   refine G.gv E3 rx' hcm λ env' σ2 ht E4 _ hs2' hl2=>tv_noTest.tv E4 (P:=λ c n'=>c=true/\n'=n2) ⟨rfl,rfl⟩ λ c n4 H4 h4 s4=>?_
   obtain ⟨rfl,rfl⟩:=h4
   have hs2:∀ j:Nat,k<=j->σ2[j]? = (Zh k idx σ)[j]?:=λ j hj=>by
    rw [hs2' j λ z=>by have:=hkk j z;omega];exact hsl j hj
   refine A.nv (E4.step s4) ht λ ds n5 a vs H5 h5 s5 ha hla hzv r5=>?_
   have s24:=st3.trans s4
   have s25:=s24.trans s5
   have k5:Kp S.ch H2 H5:=s25.1
   have h5l:H5 l=some (.lst (Wi ps)):=k5 _ _ h2l lch
   have an:a∉l::ps.map (·.1)++ex:=λ z=>(E4.step s4).al a z ha
   have ac:a∉S.ch:=λ z=>an (E4.ch a z)
   have ha1:H1 a=none:=by
    cases e:H1 a with
    | none=>rfl
    | some u=>
     have e2:=kp a u e λ z=>(Qd.mp z).elim (λ q=>an (by rw [q];exact Xo _ Qk)) ac
     rw [s24.1 a u e2 ac] at ha;cases ha
   have al:a≠l:=λ e=>an (by rw [e];exact Xo _ Qk)
   have msub:∀ b∈l::(ps++[(a,ds)]).map (·.1)++ex,b∈a::(l::ps.map (·.1)++ex):=λ b hb=>by
    simp only [Xd,Xb,J30,J38,Qd,Xh,Ub,or_false] at hb ⊢
    rcases hb with h | (h | h) | h
    . exact .inr (.inl h)
    . exact .inr (.inr (.inl h))
    . exact .inl h
    . exact .inr (.inr (.inr h))
   have mup:∀ b∈l::ps.map (·.1)++ex,b∈l::(ps++[(a,ds)]).map (·.1)++ex:=λ b hb=>by
    simp only [Xd,Xb,J30,J38,Qd,Xh,Ub,or_false] at hb ⊢
    rcases hb with h | h | h
    . exact .inl h
    . exact .inr (.inl (.inl h))
    . exact .inr (.inr h)
   have lin:l∈l::(ps++[(a,ds)]).map (·.1)++ex:=Xo _ Qk
   refine ⟨Wi ps,h5l,by unfold Wi;rw [Qc];omega,_,(?_:items.length-(i+1)<_),hlt,rfl,n5,ps++[(a,ds)],?_,?_,?_,?_,?_,?_,?_,?_,hs2,hl2.trans hln⟩
   . omega
   . simpa using h5
   . exact (kp.trans (k5.mono λ b hb=>Qj _ hb)).trans (Kp.at Qk _)
   . rw [Jf];unfold Wi;rw [Xd];rfl
   . rw [Xn,U0];omega
   . intro p hp
     rcases Xh.mp hp with hp | hp
     . exact hno p hp
     . rw [Qu.mp hp];exact ha1
   . rw [Xd,<- J38]
     refine J88.mpr ⟨hnd,by simp,?_⟩
     intro b hb c hc e
     have e':b=a:=e.trans (Qu.mp hc)
     exact an (Xo _ (e'▸hb))
   . intro p hp
     rcases Xh.mp hp with hp | hp
     . have w:=hin p hp
       obtain ⟨us,g1,g2,g3⟩:=w.h
       have pl:p.1≠l:=λ e=>(Xs.mp hnd).1 (by rw [<- e];exact Qq.mpr ⟨p,hp,rfl⟩)
       refine ⟨mup p.1 w.m,w.c,us,by rw [Je pl];exact k5 _ _ g1 w.c,g2,?_⟩
       have q4:Reps (l::ps.map (·.1)++ex) H4 p.2 us:=g3.keep (s24.1.mono E2.ch)
       have q5:Reps (a::(l::ps.map (·.1)++ex)) H5 p.2 us:=(Reps.add ha q4).keep (s5.1.mono λ b hb=>Qj _ (E2.ch b hb))
       exact (Reps.mono msub q5).keep (Kp.at lin _)
     . rw [Qu.mp hp]
       refine ⟨?_,ac,vs,by rw [Je al];exact hla,hzv,(Reps.mono msub r5).keep (Kp.at lin _)⟩
       simp
   . exact S.keep s25.2 λ b hb o e=>by rw [Je (λ z=>lch (by rw [<- z];exact hb))];exact e
 . have e:i=items.length:=by omega
   subst e
   rw [J68] at hcm
   have hcm':P (ps.map (·.2)) n2:=by simpa [Jj6] using hcm
   refine .inl ⟨IT.1,kk ps n2 l H2 hcm' ⟨λ b o e nb=>kp b o (s1.1 b o e nb) λ z=>(Qd.mp z).elim (λ e2=>by rw [e2,s1.free hl] at e;cases e) nb,iv2⟩ (s1.free hl) (λ p hp=>s1.free (hno p hp)) ⟨h2l,by omega,(λ _ h=>by cases h),hnd,Xo _ Qk,lch,hin⟩⟩⟩
def Jhv (i:Nat) (wi:TI) (k:Nat) (idx:List Nat) (g:TG) (tt:TT) (te:TE):TS:=Bj i wi k idx g tt te
theorem Jt6 {X:Cx}{st:Stmt}{i:Nat}{wi:TI}{k:Nat}{idx:List Nat}{g:TG}{tt:TT}{te:TE}(h:PS X st (Bj i wi k idx g tt te)):PS X st (Jhv i wi k idx g tt te):=h
instance sv_set2V {i:Nat}{wi:TI}{k:Nat}{idx:List Nat}{g:TG}{tt:TT}{te:TE}{gn:GN2} [E:N2V (Jbi wi k idx g tt te) gn]:SV (Jhv i wi k idx g tt te) (Jxt i gn):=⟨λ {C G D} O {ex env σ H n} A h=>
 show Jbi wi k idx g tt te σ H (λ v H2=>D.nx (σ.set i (some v)) H2) from E.n2 A.ev h λ ps n1 a H1 h1 s1 ha hp q=>O.nx (A.own2 s1 ha hp q) (h1 ps rfl)⟩
theorem Jl8 {α:Type}{turn:Yal->Nat->(List Yal->Nat->Prop)->Prop}{n:Nat}(f:α->List Yal) {e:α->Yal}:∀ (l:List α) {Q:List (List Yal)->Nat->Prop},(∀ i∈l,∀ K:List Yal->Nat->Prop,K (f i) n->turn (e i) n K)->Q (l.map f) n->Jj6 turn (l.map e) n Q
 | [],_,_,q=>q
 | i::l,Q,h,q=>h i Qk _ (Jl8 f l (Q:=λ ys n2=>Q (f i::ys) n2) (λ j hj=>h j (Qj _ hj)) q)
theorem Ja9 {n:Nat}{f:Nat->Int}(h:∀ i,i<n->0<=f i):0<=Tb.Jk n f:=by
 induction n with
 | zero=>exact X6 _
 | succ n ih=>
  have:=ih λ i hi=>h i (by omega)
  have:=h n (by omega)
  show 0<=Tb.Jk n f+f n
  omega
theorem Jba {n a:Nat}{f:Nat->Int}(ha:a<n) (h:∀ i,i<n->0<=f i):f a<=Tb.Jk n f:=by
 induction n with
 | zero=>omega
 | succ n ih=>
  have h1:=h n (by omega)
  show f a<=Tb.Jk n f+f n
  by_cases e:a=n
  . subst e
    have:=Ja9 (f:=f) λ i (hi:i<a)=>h i (by omega)
    omega
  . have:=ih (by omega) λ i hi=>h i (by omega)
    omega
section
variable {nw m n:Nat}{c:Nat->Tb.Vec}{rhs:Tb.Vec}{some W:List Nat}{T T0:Tb.Tab}
noncomputable def one (ν:Nat):Nat->Int:=λ μ=>if μ = ν then 1 else 0
theorem Jb9 (ν μ:Nat):0<=one ν μ:=by unfold one;split<;>decide
theorem Jz0 {ν:Nat}:Tb.inN m n T ν↔0<T.tot m n (one ν):=by
 have b:=Ja9 (n:=m) (f:=λ i=>one ν (T.b i)) λ i _=>Jb9 _ _
 have f:=Ja9 (n:=n) (f:=λ j=>one ν (T.f j)) λ i _=>Jb9 _ _
 unfold Tb.Tab.tot
 constructor
 . rintro (⟨i,hi,e⟩ | ⟨j,hj,e⟩)
   . have:=Jba (f:=λ i=>one ν (T.b i)) hi λ i _=>Jb9 _ _
     have e1:one ν (T.b i)=1:=if_pos e
     simp only [e1] at this
     omega
   . have:=Jba (f:=λ j=>one ν (T.f j)) hj λ i _=>Jb9 _ _
     have e1:one ν (T.f j)=1:=if_pos e
     simp only [e1] at this
     omega
 . intro h
   have pos:∀ μ,0<one ν μ->μ = ν:=λ μ h=>by
    unfold one at h
    split at h
    . assumption
    . exact absurd h (by decide)
   by_cases c:0<Tb.Jk m (λ i=>one ν (T.b i))
   . obtain ⟨i,hi,hp⟩:=Tb.W8 c
     exact .inl ⟨i,hi,pos _ hp⟩
   . obtain ⟨j,hj,hp⟩:=Tb.W8 (n:=n) (f:=λ j=>one ν (T.f j)) (by omega)
     exact .inr ⟨j,hj,pos _ hp⟩
theorem Fit.names (F:Fit nw m n c some T0) (tot:∀ g,T.tot m n g=T0.tot m n g) (ν:Nat):Tb.inN m n T ν↔((∃ s,s<m/\ν = nw+s)\/ν∈some):=by
 rw [Jz0,tot,F.tot]
 have b:=Ja9 (n:=m) (f:=λ s=>one ν (nw+s)) λ i _=>Jb9 _ _
 have f:=Ja9 (n:=n) (f:=λ j=>one ν (some.getD j 0)) λ i _=>Jb9 _ _
 have pos:∀ μ,0<one ν μ->μ = ν:=λ μ h=>by
  unfold one at h
  split at h
  . assumption
  . exact absurd h (by decide)
 constructor
 . intro h
   by_cases c:0<Tb.Jk m (λ s=>one ν (nw+s))
   . obtain ⟨i,hi,hp⟩:=Tb.W8 c
     exact .inl ⟨i,hi,(pos _ hp).symm⟩
   . obtain ⟨j,hj,hp⟩:=Tb.W8 (n:=n) (f:=λ j=>one ν (some.getD j 0)) (by omega)
     have e:=pos _ hp
     right
     have hl:j<some.length:=by rw [F.len];exact hj
     rw [Qi,Qf hl] at e
     rw [<- e]
     exact Xt _
 . rintro (⟨s,hs,e⟩ | e)
   . have:=Jba (f:=λ s=>one ν (nw+s)) hs λ i _=>Jb9 _ _
     have e1:one ν (nw+s)=1:=if_pos e.symm
     simp only [e1] at this
     omega
   . obtain ⟨j,hj⟩:=Uh.mp e
     have hl:=(Qv.mp hj).1
     have:=Jba (n:=n) (a:=j) (f:=λ j=>one ν (some.getD j 0)) (by rw [<- F.len];exact hl) λ i _=>Jb9 _ _
     have e1:one ν (some.getD j 0)=1:=by
      rw [Qi,hj]
      exact if_pos rfl
     simp only [e1] at this
     omega
theorem Zl {n:Nat}{f:Nat->Int}(h:∀ i,i<n->f i=0):Tb.Jk n f=0:=by rw [Tb.Jh (g:=λ _=>0) h,Tb.We]
theorem Je2 {j:Nat}(h:j<some.length):some.getD j 0∈some:=by grind
theorem Jpq (F:Fit nw m n c some T0) (tot:∀ g,T.tot m n g=T0.tot m n g) (h:Tb.TabOk m n c rhs T) {k:Nat}(r:Tb.Ray m n W T k):∃ j∈some,0<T.dir m k j:=by
 refine J3x λ no=>?_
 have z:∀ j∈some,T.dir m k j=0:=λ j hj=>by
  have:=Tb.Jtt h r j
  rcases J3t 0 (T.dir m k j) with q | q
  . exact absurd ⟨j,hj,q⟩ no
  . omega
 have zm:∀ j,j<n->some.getD j 0∈some:=λ j hj=>Je2 (by rw [F.len];exact hj)
 have zu:∀ s,s<m->T.dir m k (nw+s)=0:=λ s hs=>by
  have e:=Tb.Jf8 h r.hk s hs
  rw [tot,F.tot,Zl (n:=n) (λ j hj=>by rw [z _ (zm j hj),Q6]),Tb.J1 (a:=s) hs (λ i hi hne=>?_)] at e
  . rw [F.cols.un s hs] at e
    have:Tb.Z6 s s=1:=if_pos rfl
    rw [this] at e
    omega
  . rw [F.cols.un i hi]
    have:Tb.Z6 i s=0:=if_neg (Qh hne)
    rw [this,Xc]
 have w:=Tb.Jc8 (W:=W) h r.hk
 have rp:=r.rise
 rw [<- w,tot,F.tot,Zl (n:=m) (λ s hs=>by rw [zu s hs];unfold Tb.ind;split<;>rfl),Zl (n:=n) (λ j hj=>by rw [z _ (zm j hj)];unfold Tb.ind;split<;>rfl)] at rp
 exact absurd rp (by decide)
theorem Jhw (sh:Shape m n T) {i j:Nat}(hi:i<m) (hj:j<=n):(T.e i j).natAbs<2^4000:=by
 have h2:j<(T.row i).length:=by rw [sh.lw i hi];omega
 have h3:i<T.rows.length:=by rw [sh.lr];exact hi
 have hr:T.row i∈T.rows:=by unfold Tb.Tab.row;rw [Qi,Qf h3];exact Xt _
 refine sh.small _ hr (T.e i j) ?_
 unfold Tb.Tab.e
 rw [Qi,Qf h2]
 exact Xt _
theorem Ji9 (sh:Shape m n T) (h:Tb.TabOk m n c rhs T) {k ν:Nat}(hk:k<n) (i:Tb.inN m n T ν):(T.dir m k ν).natAbs<2^4000:=by
 rcases i with ⟨i,hi,rfl⟩ | ⟨j,hj,rfl⟩
 . rw [Tb.Jtn h hk hi,J9m]
   exact Jhw sh hi (by omega)
 . by_cases e:j=k
   . subst e
     rw [Tb.Jpg h hk]
     have q0:=sh.q0
     have q1:=sh.q1
     have:((T.q.natAbs:Nat):Int)<((2^4000:Nat):Int):=by
      rw [J3c (by omega)]
      exact_mod_cast q1
     exact_mod_cast this
   . rw [Tb.Jto h hk hj e]
     exact J3g _
end
theorem Jt7 {ns:List Int}{x:Int}(hx:x∈ns) (h:x≠0) (hb:x.natAbs<2^9000):((Zb ns:Nat):Int)<2^9000:=by
 have d:=J9h.mp (Jkj x hx)
 have:=Nat.le_of_dvd (by omega) d
 have h2:Zb ns<2^9000:=by omega
 exact_mod_cast h2
end My
namespace L2
def DefI2 (K:Qb) (mg:Str->Option Yak) (x:Str) (C:Addr) (qual:Str) (st:Stmt) (ps:List Str):Prop:=∃ f fd,mg x=some (.ref C)/\Mk K C f/\FunD K "__init__" qual st f fd/\Vb K fd ps [.none]/\Vb K fd ps []
def Jl9 (P:Yap) (w:Yao) (K:Qb) (mg:Str->Option Yak) (base:Heap) (x:Str) (C:Addr) (k:Nat) (ps:List Str) (sp:Sp):Prop:=
 ∃ f fd,mg x=some (.ref C)/\Mk K C f/\Vb K fd ps [.none]/\Vb K fd ps []/\FnOk P w K mg base CX0 k f fd ps sp
section
variable {P:Yap}{w:Yao}{K:Qb}{mg:Str->Option Yak}{base:Heap}{C:Addr}{x m qual:Str}{st:Stmt}{ps:List Str}{k:Nat}{sp:Sp}
theorem DefI2.cal (d:DefI2 K mg x C qual st ps) (h:∀ f fd,FunD K "__init__" qual st f fd->FnOk P w K mg base CX0 k f fd ps sp):Jl9 P w K mg base x C k ps sp:=by
 obtain ⟨f,fd,hg,hm,F,b1,b2⟩:=d
 exact ⟨f,fd,hg,hm,b1,b2,h f fd F⟩
theorem defI2_mk {h:Heap}{f T:Addr}{oc oc':Yak}{od an od':Option Addr}{osl osl':Array (Option Yak)}{kV doc pm cdv ct:Yak}{nn:Nat}(X:K.In h) (G:h.Ns Yas mg) (aC:Ua K Yas x=some (some (.ref C)))
 (mk:J6c K C=true) (kc:Uf K (.ref C)=true)
 (a:Xr K (.ref C) "__init__" = some (some (.ref f))) (i:J4e K (.ref f)=true) (l:K.lookup f=some ⟨oc,od,.func (Xy "__init__" qual (Z9 st) (Zm st) (Jd st) (.ref T) kV doc pm an cdv ct),osl⟩) (c:J3b K cdv qual=true) (kp:Uf K (.ref f)=true)
 (lT:K.lookup T=some ⟨oc',od',.seq #[.none] nn,osl'⟩)
 (hb:∀ (T:Addr) (d kV doc pm:Yak) (an:Option Addr) (cdv ct:Yak) (us:List Yak),us.length=ps.length-1->∃ q,Ybg (Xy "__init__" qual (Z9 st) (Zm st) (Jd st) (.ref T) kV doc pm an cdv ct) ⟨us,[]⟩=Yba (.ref T) >>= q/\q (some #[d])=pure (ps.zip (us++[d])))
 (hb2:∀ (T:Addr) (d kV doc pm:Yak) (an:Option Addr) (cdv ct:Yak) (us:List Yak),us.length=ps.length->∃ q,Ybg (Xy "__init__" qual (Z9 st) (Zm st) (Jd st) (.ref T) kV doc pm an cdv ct) ⟨us,[]⟩=Yba (.ref T) >>= q/\q (some #[d])=pure (ps.zip us)):DefI2 K mg x C qual st ps:=by
 refine ⟨f,_,Ug X G aC,⟨mk,a,i,kc⟩,⟨⟨oc,od,.ref T,kV,doc,pm,an,cdv,ct,osl,rfl,l,c⟩,kp⟩,λ s us KX hl=>?_,λ s us KX hl=>?_⟩
 . obtain ⟨q,h1,h2⟩:=hb T .none kV doc pm an cdv ct us (by rw [Xn,U0] at hl;omega)
   exact J9n rfl (KX _ _ lT) rfl h1 h2
 . obtain ⟨q,h1,h2⟩:=hb2 T .none kV doc pm an cdv ct us (by rw [Ur] at hl;exact hl)
   rw [Ur]
   exact J9n rfl (KX _ _ lT) rfl h1 h2
end
section
variable {X:Cx}{x:Str}{C:Addr}{e:Expr}{es:List Expr}{p pos:Pos}{t:TA}{k:Nat}{ps:List Str}{sp:Sp}
theorem J12 (c:Jl9 X.prog X.w X.K X.mg X.base x C k ps sp) (hr:Room (k+1) X.A) (hg:Gl X x) (ha:PA X (e::es) t) (hdb:(x==("__debug__":Str))=false:=by decide)
 (he:starEach (e::es) X.env=(false,eval e X.env)::starEach es X.env:=by rfl) (hpl:(backTo pos (starEach es X.env)).any (·.1)=false:=by rfl):PE X (.Call (.Name x p) (e::es) [] pos) (Jxa C sp [] E0 t):=by
 obtain ⟨f,fd,hm,M,_,b,F⟩:=c
 exact Jvc M F hr hg hm b .nil Jo0 ha hdb he hpl
end
section
variable {X:Cx}{tg e:Expr}{te:TE}{K':Qb}
theorem Jma (hK:X.K=K') (he:PE X e te):PI X tg e (Jop K' te):=hK▸B1 he
end
noncomputable def Jec (i:Int) (n:Nat):List V:=(Qg n).map λ (k:Nat)=>V.int (i+(k:Int))
def J27 (ta:TA):TE:=λ σ H Q=>ta σ H λ vs H1=>∃ i j:Int,vs=[.int i,.int j]/\0<=i/\i<=j/\j<=1000000/\∀ l,H1 l=none->Q (.ref l) (upd H1 l (.lst (Jec i (j-i).toNat)))
theorem Jq2 (i:Int):∀ (n:Nat) (us:List Yak),us.length=n->(∀ (k:Nat) (u:Yak),us[k]? = some u->∃ t,u=Uo (i+((k:Nat):Int)) t)->J4 (Jec i n) us:=by
 intro n
 induction n with
 | zero=>intro us h _;rw [J60.mp h];exact .nil
 | succ n ih=>
  intro us h hk
  have hne:us≠[]:=λ e=>by rw [e] at h;cases h
  obtain ⟨l,x,rfl⟩:∃ l x,us=l++[x]:=⟨us.dropLast,us.getLast hne,(J8u hne).symm⟩
  have hl:l.length=n:=by simpa using h
  have e:Jec i (n+1)=Jec i n++[V.int (i+n)]:=by unfold Jec;rw [J4r,Xd];rfl
  rw [e]
  obtain ⟨t,et⟩:=hk n x (by rw [<- hl];simp)
  subst et
  exact (ih l hl λ k u hu=>hk k u (by rw [J3a (by exact (Qv.mp hu).1)];exact hu)).append (.cons ⟨t,rfl⟩ .nil)
theorem Jik {X:Cx}{a b:Expr}{ta:TA}{p1 p2 pos1 pos2:Pos}(hc:X.calm=true) (hg1:Gl X "list") (hm1:X.mg "list" = none) (hg2:Gl X "range") (hm2:X.mg "range" = none) (ha:PA X [a,b] ta) (hs:starEach [a,b] X.env=[(false,eval a X.env),(false,eval b X.env)]:=by rfl) (hs2:starEach [b] X.env=[(false,eval b X.env)]:=by rfl)
 (hs1:starEach [.Call (.Name "range" p2) [a,b] [] pos2] X.env=[(false,eval (.Call (.Name "range" p2) [a,b] [] pos2) X.env)]:=by rfl):PE X (.Call (.Name "list" p1) [.Call (.Name "range" p2) [a,b] [] pos2] [] pos1) (J27 ta):=by
 intro pins s σ H Q I h
 refine Ya7 (Jad I hg1 hm1 Ya4 ?_)
 refine J29 ?_ hs1 rfl
 rw [hs1]
 show Yan _ _ (spliced ((false,eval (.Call (.Name "range" p2) [a,b] [] pos2) X.env)::[])) _ _ s
 refine J6i ?_
 refine Call_ (Jad I hg2 hm2 boot_range (J29 (thn (ha pos2 pins s σ H _ I h) λ us s1 ⟨vs,H1,I1,r1,q1⟩=>?_) (by rw [hs,hs2]) (by rw [hs2];rfl)))
 obtain ⟨i,j,e,b0,b1,b2,q⟩:=q1
 subst e
 cases r1 with
 | cons r rr=>
  cases rr with
  | cons r' rr=>
   cases rr
   obtain ⟨t,rfl⟩:=r
   obtain ⟨t',rfl⟩:=r'
   refine call_range_2 (J6h ?_)
   have I2:Inv X pins σ H1 { s1 with heap:=s1.heap.push { cls:=.type "range",data:=.fields #[.int i t,.int j t',.int 1 s1.toks] },toks:=s1.toks+1 }:=I1.kept λ b o e=>Qt _ e
   have hs:=Yar
   refine call_list_range (n:=(j-i).toNat) (I2.ok.hd hc) (J58 ..) (small_one (by omega) (by omega) (by omega) (by omega)) (by rw [Ybt];split<;>omega) (by omega) λ h' tk acc' c' hk hS' hacc=>?_
   refine ⟨.ref _,_,I2.laid (t':=tk) hk (Ql _) (show Zs X.prog X.w _ h' _ (.lst (Jec i (j-i).toNat)) from ⟨by unfold Jec;simp;omega,acc'.toList,c',Jq2 i _ _ (by simp [hacc.1]) (λ k u hu=>?_),by simpa using hS'⟩),rfl,q _ (I2.hok.fresh (Ql _))⟩
   obtain ⟨t,et⟩:=hacc.2 k u (by simpa using hu)
   exact ⟨t,by rw [et];simp⟩
end L2
namespace My
open L2
def Jfy (ex:List Addr) (H:Hp):List Vl->L2.St->Prop
 | [],_=>True
 | w::ws,o :: σ=>SlR Src.no ex H w o/\Jfy ex H ws σ
 | _::_,[]=>False
theorem Jfy.len {ex:List Addr}{H:Hp}:∀ {env:List Vl}{σ:L2.St},Jfy ex H env σ->env.length<=σ.length
 | [],_,_=>Xl _
 | _::_,_::_,h=>Nat.succ_le_succ h.2.len
 | _::_,[],h=>h.elim
theorem Jfy.sl {ex:List Addr}{H:Hp}:∀ {env:List Vl}{σ:L2.St}(i:Nat) (w:Vl),Jfy ex H env σ->env[i]? = some w->SlR Src.no ex H w (σ[i]?).join
 | [],_,_,_,_,e=>by cases e
 | _::_,_::_,0,_,h,e=>by cases e;exact h.1
 | _::_,_::_,i+1,w,h,e=>Jfy.sl i w h.2 e
 | _::_,[],_,_,h,_=>h.elim
theorem Jfy.ev {ex:List Addr}{H:Hp}{env:List Vl}{σ:L2.St}(h:Jfy ex H env σ) (al:Alc ex H):Ev Src.no ex env σ H 0:=⟨h.len,λ i w e=>h.sl i w e,λ a ha=>(by cases ha),al,trivial⟩
theorem Jt8 {S:Src}{ex:List Addr}{env:List Vl}{σ:L2.St}{H:Hp}{n i k:Nat}{wi:TI}{idx:List Nat}{g:TG}{tt:TT}{te:TE}{r:TS}{D:Ends}{gn:GN} [N:NV (Jbi wi k idx g tt te) gn] (P:List Yal->Nat->Prop) (E:Ev S ex env σ H n) (h:gn env n P) (q:∀ ds n' a vs H',P ds n'->Y0 S n' H H'->H a=none->H' a=some (.lst vs)->vs.length<=sizeLine->Reps (a::ex) H' ds vs->r D (σ.set i (some (.ref a))) H'):Jae (Bj i wi k idx g tt te) r D σ H:=
 show Jbi wi k idx g tt te σ H (λ v H2=>r D (σ.set i (some v)) H2) from N.nv E h q
theorem Jt9 {S:Src}{ex:List Addr}{env:List Vl}{σ:L2.St}{H:Hp}{n i:Nat}{te:TE}{r:TS}{D:Ends}{gn:GN}{a:Addr}{vs:List V} [N:NV te gn] (P:List Yal->Nat->Prop) (E:Ev S ex env σ H n) (h:gn env n P) (hi:σ[i]? = some (some (.ref a))) (ha:H a=some (.lst vs)) (ac:a∉S.ch) (q:∀ ds n' b us H',P ds n'->Y0 S n' H H'->H b=none->H' b=some (.lst us)->us.length<=sizeLine->Reps (b::ex) H' ds us->H' a=some (.lst vs)->vs.length+us.length<=sizeLine/\r D (σ.set i (some (.ref a))) (upd H' a (.lst (vs++us)))):Jae (J0j i te ipL) r D σ H:=
 ⟨_,hi,N.nv E h λ ds n' b us H' p s hb hl hz rr=>⟨a,b,vs,us,rfl,rfl,s.1 _ _ ha ac,hl,(q ds n' b us H' p s hb hl hz rr (s.1 _ _ ha ac)).1,(q ds n' b us H' p s hb hl hz rr (s.1 _ _ ha ac)).2⟩⟩
theorem Jua {K:Qb}{S:Src}{ex:List Addr}{env:List Vl}{σ:L2.St}{H:Hp}{n i:Nat}{te:TE}{f:Str}{r:TS}{D:Ends}{gn:GN}{x C dx:Addr}{fs:List (Str×V)} [N:NV te gn] (P:List Yal->Nat->Prop) (E:Ev S ex env σ H n) (h:gn env n P) (hi:σ[i]? = some (some (.ref x))) (hx:H x=some (.ins C dx fs)) (xc:x∉S.ch) (c:Cls K C) (no:NoAttr K C f) (lf:fs.length<1000) (q:∀ ds n' b us H',P ds n'->Y0 S n' H H'->H b=none->H' b=some (.lst us)->us.length<=sizeLine->Reps (b::ex) H' ds us->H' x=some (.ins C dx fs)->r D σ (upd H' x (.ins C dx (L2.putF f (.ref b) fs)))):Jae (Ju9 K (Z4 i) te f) r D σ H:=
 N.nv E h λ ds n' b us H' p s hb hl hz rr=>⟨_,hi,x,C,dx,fs,rfl,s.1 _ _ hx xc,c,no,lf,q ds n' b us H' p s hb hl hz rr (s.1 _ _ hx xc)⟩
noncomputable def Zc (U:Int) (ws:List Way):Nat->Tb.Vec:=λ ν r=>if ν < ws.length then (if (r:Int)<U then -((Jj ws (ν:Int)).g.getD r 0) else (if (Jj ws (ν:Int)).a=(r:Int)-U then 1 else 0)-(if (Jj ws (ν:Int)).b=(r:Int)-U then 1 else 0)) else Tb.Z6 (ν - ws.length) r
noncomputable def Jz1 (R U:Int) (ws:List Way) (some:List Nat):Tb.Tab:=Tb.Vp ws.length (U+R).toNat (Zc U ws) Jhu some
noncomputable def Jkp (R U:Int) (ws:List Way):Siz:=⟨(ws.length:Int),(ws.length:Int)+U,(ws.length:Int)+U+R⟩
noncomputable def nI (ks:List Nat):List Int:=ks.map λ k:Nat=>(k:Int)
theorem Yk (f:Nat->Int):∀ n,Tb.Jk n f=((Qg n).map f).sum
 | 0=>rfl
 | n+1=>by rw [Tb.Jk,Yk f n,J4r,Xd,J89,J4u,J9a]
theorem Jda (f:Nat->Int) (a:Nat):∀ b,Tb.Jk (a+b) f=Tb.Jk a f+Tb.Jk b λ i=>f (a+i)
 | 0=>by show Tb.Jk a f=Tb.Jk a f+0;omega
 | b+1=>by
  show Tb.Jk (a+b) f+f (a+b)=Tb.Jk a f+(Tb.Jk b (λ i=>f (a+i))+f (a+b))
  rw [Jda f a b];omega
section
variable {R U:Int}{ws:List Way}
theorem Jhx {k r:Nat}(hk:k<ws.length) (hr:(r:Int)<U):Zc U ws k r = -((Jj ws (k:Int)).g.getD r 0):=by
 unfold Zc;rw [if_pos hk,if_pos hr]
theorem Je3 {k a:Nat}(hk:k<ws.length) (hU:0<=U):Zc U ws k (U.toNat+a)=(if (Jj ws (k:Int)).a=(a:Int) then 1 else 0)-(if (Jj ws (k:Int)).b=(a:Int) then 1 else 0):=by
 unfold Zc;rw [if_pos hk,if_neg (by omega),show ((U.toNat+a:Nat):Int)-U=(a:Int) by omega]
theorem Wx (m:Nat):Tb.Cols ws.length m (Zc U ws):=⟨λ s _=>by
 funext r
 unfold Zc
 rw [if_neg (by omega),show ws.length+s-ws.length=s by omega]⟩
theorem Jhy (ok:BookOk R U ws):Small (U+R).toNat (Zc U ws) Jhu:=by
 refine ⟨λ ν r _=>?_,λ r _=>by show (0:Int).natAbs<=100;decide⟩
 unfold Zc
 split
 . rename_i h
   have wok:=ok.ways _ (Yp (Xi ν) (by omega))
   split
   . by_cases hr:r<(Jj ws (ν:Int)).g.length
     . have:=wok.small _ (Xt hr)
       rw [Qi,Qf hr]
       show (-(Jj ws (ν:Int)).g[r]).natAbs<=100
       omega
     . rw [Qi,Qx (by omega)]
       show (-(0:Int)).natAbs<=100
       decide
   . split<;>split<;>decide
 . unfold Tb.Z6
   split<;>decide
variable {ks:List Nat}
theorem Jub (lt:∀ k∈ks,k<ws.length):Fit ws.length (U+R).toNat ks.length (Zc U ws) ks (Jz1 R U ws ks):=⟨Wx _,lt,rfl,λ g=>Tb.Ji6 g⟩
end
theorem Jmb {ks:List Nat}(nd:ks.Nodup) {nw:Nat}(lt:∀ k∈ks,k<nw) {F:Nat->Int}(z:∀ i,i<nw->i∉ks->F i=0):Tb.Jk ks.length (λ j=>F (ks.getD j 0))=Tb.Jk nw F:=by
 have e:∀ j,j<ks.length->F (ks.getD j 0)=Tb.Jk nw λ i=>(if ks.getD j 0=i then 1 else 0)*F i:=λ j hj=>by
  rw [Tb.J1 (a:=ks.getD j 0) (lt _ (Je2 hj)) (λ i _ hne=>by rw [if_neg (Qh hne),Q6]),if_pos rfl,Um]
 rw [Tb.Jh e,Tb.Jat]
 refine Tb.Jh λ i hi=>?_
 rw [Tb.Je0]
 by_cases h:i∈ks
 . obtain ⟨j,hj⟩:=Uh.mp h
   obtain ⟨jl,je⟩:=Qv.mp hj
   rw [Tb.J1 (a:=j) jl (λ t ht hne=>if_neg λ e=>hne (by
    have e2:ks.getD t 0=ks[t]:=by rw [Qi,Qf ht];rfl
    exact (J55 nd).mp (by rw [<- e2,e,je]))),if_pos (by rw [Qi,hj];rfl),Um]
 . rw [z i hi h,Xc]
section
variable {R U:Int}{ws:List Way}{ks W:List Nat}{T:Tb.Tab}
theorem Juc (ok:BookOk R U ws) {S:Nat->Int}{k:Nat}(hk:k<ws.length) {wt ht:List Int}{g:Int}(lw:(wt.length:Int)=U) (hw:∀ p:Nat,(p:Int)<U->g*wt.getD p 0=S p) (hh:∀ a:Nat,(a:Int)<R->g*ht.getD a 0=S (U.toNat+a)):g*Z5 ws wt ht (k:Int)=Tb.Jk (U+R).toNat λ s=>Zc U ws k s*S s:=by
 have r0:=ok.r0
 have p0:=ok.p0
 have wok:=ok.ways _ (Yp (k:=(k:Int)) (Xi k) (by omega))
 have a0:=wok.a0
 have a1:=wok.a1
 have b0:=wok.b0
 have b1:=wok.b1
 rw [show (U+R).toNat=U.toNat+R.toNat by omega,Jda]
 have e1:Tb.Jk U.toNat (λ s=>Zc U ws k s*S s) = -(g*Bz wt (Jj ws (k:Int)).g wt.length):=by
  unfold Bz
  rw [<- Yk,<- Tb.Yn,<- Tb.Za,show wt.length=U.toNat by omega]
  refine Tb.Jh λ s hs=>?_
  rw [Jhx hk (by omega),<- hw s (by omega)]
  generalize wt.getD s 0=x
  generalize (Jj ws (k:Int)).g.getD s 0=y
  rw [J5u,<- Xe,Q3 y,Xe,Q3 y]
 have e2:Tb.Jk R.toNat (λ i=>Zc U ws k (U.toNat+i)*S (U.toNat+i))=g*ht.getD (Jj ws (k:Int)).a.toNat 0-g*ht.getD (Jj ws (k:Int)).b.toNat 0:=by
  have e3:∀ i,i<R.toNat->Zc U ws k (U.toNat+i)*S (U.toNat+i)=(if i=(Jj ws (k:Int)).a.toNat then S (U.toNat+i) else 0) + -(if i=(Jj ws (k:Int)).b.toNat then S (U.toNat+i) else 0):=λ i hi=>by
   rw [Je3 hk (by omega),J5w]
   have h1:((Jj ws (k:Int)).a=(i:Int))↔i=(Jj ws (k:Int)).a.toNat:=by omega
   have h2:((Jj ws (k:Int)).b=(i:Int))↔i=(Jj ws (k:Int)).b.toNat:=by omega
   by_cases c1:i=(Jj ws (k:Int)).a.toNat<;>by_cases c2:i=(Jj ws (k:Int)).b.toNat
   . rw [if_pos (h1.mpr c1),if_pos (h2.mpr c2),if_pos c1,if_pos c2];omega
   . rw [if_pos (h1.mpr c1),if_neg (mt h2.mp c2),if_pos c1,if_neg c2];omega
   . rw [if_neg (mt h1.mp c1),if_pos (h2.mpr c2),if_neg c1,if_pos c2];omega
   . rw [if_neg (mt h1.mp c1),if_neg (mt h2.mp c2),if_neg c1,if_neg c2];omega
  rw [Tb.Jh e3,Tb.Zk,Tb.Za,Tb.J1 (a:=(Jj ws (k:Int)).a.toNat) (by omega) (λ i _ h=>if_neg h),Tb.J1 (a:=(Jj ws (k:Int)).b.toNat) (by omega) (λ i _ h=>if_neg h),if_pos rfl,if_pos rfl,<- hh _ (by omega),<- hh _ (by omega)]
  omega
 rw [e1,e2]
 unfold Z5
 rw [J4z,J4z]
 omega
theorem Jn3 (be nw m n:Nat) (h:be=nw+m):(sl T m be W n).drop nw=(Qg m).map λ s=>T.share m n W (nw+s):=by
 subst h
 unfold sl
 rw [<- J4p,J7l,List.drop_append_of_le_length (by rw [Qz];exact Ql _),List.drop_eq_nil_of_le (by rw [Qz];exact Ql _),J4l,Q0]
 refine U7 λ s _=>?_
 exact Jt4 _
end
section
variable {R U:Int}{ws:List Way}{ks W:List Nat}{T:Tb.Tab}
theorem Z1 {a b:Nat}(h:a<=b):2^a<=2^b:=J5z (by decide) h
theorem Jn4 {m n:Nat}(sh:Shape m n T) {j:Nat}(hj:j<n):(T.rise m W j).natAbs<2^4100:=by
 have q0:=sh.q0
 have q1:T.q.natAbs<2^4000:=by
  have:=sh.q1
  have h:((T.q.natAbs:Nat):Int)<((2^4000:Nat):Int):=by
   rw [J3c (by omega)]
   exact_mod_cast this
  exact_mod_cast h
 have mm:=sh.mm
 have s1:(Tb.Jk m λ i=>Tb.ind W (T.b i) (T.e i j)).natAbs<=m*2^4000:=Tb.Jd6 λ i hi=>by
  unfold Tb.ind
  split
  . exact Ue (Jhw sh hi (by omega))
  . exact Xl _
 have s2:(Tb.ind W (T.f j) T.q).natAbs<=2^4000:=by
  unfold Tb.ind
  split
  . exact Ue q1
  . exact Xl _
 have s3:m*2^4000<=20*2^4000:=J9o _ mm
 have s4:21*2^4000<2^4100:=by
  have:(2:Nat)^4100=2^100*2^4000:=by rw [<- J7m]
  rw [this]
  exact J9p (by decide) (J3g _)
 unfold Tb.Tab.rise
 generalize (Tb.Jk m λ i=>Tb.ind W (T.b i) (T.e i j))=a at *
 generalize Tb.ind W (T.f j) T.q=b at *
 generalize 2^4000=c at *
 generalize 2^4100=d at *
 omega
theorem Jmc {m n:Nat}{c:Nat->Tb.Vec}{rhs:Tb.Vec}(sh:Shape m n T) (h:Tb.TabOk m n c rhs T) {ν:Nat}(i:Tb.inN m n T ν):(T.share m n W ν).natAbs<2^4100:=by
 rcases i with ⟨i,hi,rfl⟩ | ⟨j,hj,rfl⟩
 . rw [Tb.Jb7 h hi]
   unfold Tb.ind
   split
   . have q0:=sh.q0
     have:=sh.q1
     have h:((T.q.natAbs:Nat):Int)<((2^4000:Nat):Int):=by
      rw [J3c (by omega)]
      exact_mod_cast this
     exact Qy (by exact_mod_cast h) (Z1 (by decide))
   . exact J3g _
 . rw [Tb.Jc9 h hj,J9m]
   exact Jn4 sh hj
theorem Jz2 {g x:Int}(g0:0<g) (h:0<=x):0<=x/g:=Int.ediv_nonneg h (by omega)
theorem Jja {g x:Int}{b:Nat}(g0:0<g) (h:x.natAbs<b):(x/g).natAbs<b:=by
 refine Us ?_ h
 have:=Int.natAbs_ediv_le_natAbs x g
 exact this
noncomputable def shL (R U:Int) (ws:List Way) (n:Nat) (W:List Nat) (T:Tb.Tab):List Int:=(Qg (U+R).toNat).map λ s=>T.share (U+R).toNat n W (ws.length+s)
structure Told (R U:Int) (ws:List Way) (ks W:List Nat) (T:Tb.Tab):Prop where
 ok:BookOk R U ws
 kept:Kept (U+R).toNat ks.length (ws.length+(U+R).toNat) (Zc U ws) (Jz1 R U ws ks) T
 nd:ks.Nodup
 lt:∀ k∈ks,k<ws.length
theorem Told.m (t:Told R U ws ks W T):(U+R).toNat<=18:=by have:=t.ok.r1;have:=t.ok.p1;omega
theorem Told.n (t:Told R U ws ks W T):ks.length<=100:=by have:=nodup_le _ _ t.nd t.lt;have:=t.ok.len;omega
theorem Told.shape (t:Told R U ws ks W T):Shape (U+R).toNat ks.length T:=Jt2 (Jhy t.ok) t.kept.ok t.m t.n
theorem Told.fit (t:Told R U ws ks W T):Fit ws.length (U+R).toNat ks.length (Zc U ws) ks (Jz1 R U ws ks):=Jub t.lt
theorem Told.way (t:Told R U ws ks W T) {k:Nat}(hk:k∈ks):Tb.inN (U+R).toNat ks.length T k:=(t.fit.names t.kept.tot _).mpr (.inr hk)
theorem Jws {n s:Nat}(hs:s<(U+R).toNat):T.share (U+R).toNat n W (ws.length+s)∈shL R U ws n W T:=by grind [shL,Tb.Tab.share]
theorem Jpr {n:Nat}:(shL R U ws n W T).length=(U+R).toNat:=by unfold shL;rw [Qc,Qz]
end
section
variable {R U:Int}{ws:List Way}{ks W:List Nat}{T:Tb.Tab}
structure RoundK (R U:Int) (ws:List Way) (ks:List Nat) (cs:List Int):Prop where
 ro:RoundOk R ws cs
 sub:∀ k:Nat,cs.getD k 0≠0->k∈ks
 gn:∀ p:Nat,(p:Int)<U->0<=(Jet ws cs p).sum
 bd:∀ c∈cs,c.natAbs<2^8000
 ne:∃ k∈ks,0<cs.getD k 0
noncomputable def drL (ws:List Way) (m:Nat) (T:Tb.Tab) (k:Nat):List Int:=(Qg ws.length).map (T.dir m k)
noncomputable def drQ (ws:List Way) (m:Nat) (T:Tb.Tab) (k:Nat):List Int:=(drL ws m T k).map λ x=>x/((Zb (drL ws m T k):Nat):Int)
theorem Jkq {m k:Nat}:(drQ ws m T k).length=ws.length:=by unfold drQ drL;rw [Qc,Qc,Qz]
theorem Jps {m k i:Nat}(h:i<ws.length):T.dir m k i∈drL ws m T k:=Qq.mpr ⟨i,Q5.mpr h,rfl⟩
theorem Jpt {m k i:Nat}(h:i<ws.length):(drQ ws m T k)[i]? = some (T.dir m k i/((Zb (drL ws m T k):Nat):Int)):=by grind [drQ,Tb.Tab.dir,Zb,drL]
theorem Jwt {m k i:Nat}(h:i<ws.length):((Zb (drL ws m T k):Nat):Int)*(drQ ws m T k).getD i 0=T.dir m k i:=by
 rw [Qi,Jpt h,Q3]
 exact Jpm (Jps h)
theorem Jmd (ok:BookOk R U ws) (cs:List Int):∀ i,i<=ws.length->Tb.Jk R.toNat (λ r=>Vu ws cs i (r:Nat))=0
 | 0,_=>Tb.We _
 | i+1,hi=>by
  have wok:=ok.ways _ (Yp (k:=(i:Int)) (Xi i) (by omega))
  have r0:=ok.r0
  have a0:=wok.a0
  have a1:=wok.a1
  have b0:=wok.b0
  have b1:=wok.b1
  have e:∀ r,r<R.toNat->Vu ws cs (i+1) (r:Nat)=Vu ws cs i (r:Nat)+(-(if r=(Jj ws (i:Nat)).a.toNat then cs.getD i 0 else 0)+(if r=(Jj ws (i:Nat)).b.toNat then cs.getD i 0 else 0)):=λ r hr=>by
   rw [Vu]
   have h1:((Jj ws (i:Nat)).a=((r:Nat):Int))↔r=(Jj ws (i:Nat)).a.toNat:=by omega
   have h2:((Jj ws (i:Nat)).b=((r:Nat):Int))↔r=(Jj ws (i:Nat)).b.toNat:=by omega
   by_cases c1:r=(Jj ws (i:Nat)).a.toNat<;>by_cases c2:r=(Jj ws (i:Nat)).b.toNat
   . rw [if_pos (h1.mpr c1),if_pos (h2.mpr c2),if_pos c1,if_pos c2];omega
   . rw [if_pos (h1.mpr c1),if_neg (mt h2.mp c2),if_pos c1,if_neg c2];omega
   . rw [if_neg (mt h1.mp c1),if_pos (h2.mpr c2),if_neg c1,if_pos c2];omega
   . rw [if_neg (mt h1.mp c1),if_neg (mt h2.mp c2),if_neg c1,if_neg c2];omega
  rw [Tb.Jh e,Tb.Zk,Jmd ok cs i (by omega),Tb.Zk,Tb.Za,Tb.J1 (a:=(Jj ws (i:Nat)).a.toNat) (by omega) (λ r _ h=>if_neg h),Tb.J1 (a:=(Jj ws (i:Nat)).b.toNat) (by omega) (λ r _ h=>if_neg h),if_pos rfl,if_pos rfl]
  omega
theorem Jud {n:Nat}{f:Nat->Int}(h:∀ i,i<n->0<=f i) (z:Tb.Jk n f=0) {i:Nat}(hi:i<n):f i=0:=by
 have:=Jba hi h
 have:=h i hi
 omega
theorem Jjb (t:Told R U ws ks W T) {k:Nat}(hk:k<ks.length) {r:Nat}(hr:r<(U+R).toNat):T.dir (U+R).toNat k (ws.length+r) = -Tb.Jk ws.length λ i=>T.dir (U+R).toNat k i*Zc U ws i r:=by
 have e:=Tb.Jf8 t.kept.ok hk r hr
 have ze:∀ i,i<ws.length->i∉ks->T.dir (U+R).toNat k i*Zc U ws i r=0:=λ i hi hn=>by
  have no:¬ Tb.inN (U+R).toNat ks.length T i:=λ z=>by
   rcases (t.fit.names t.kept.tot i).mp z with ⟨s,_,e⟩ | h
   . omega
   . exact hn h
  have:T.dir (U+R).toNat k i=0:=by
   unfold Tb.Tab.dir
   rw [if_neg (λ z=>no (.inr ⟨k,hk,z.symm⟩)),Zl λ j hj=>if_neg λ z=>no (.inl ⟨j,hj,z⟩)]
   rfl
  rw [this,Q6]
 rw [t.kept.tot,t.fit.tot,Jmb t.nd t.lt ze,Tb.J1 (a:=r) hr (λ s hs hne=>?_)] at e
 . rw [(Wx (U:=U) (ws:=ws) (U+R).toNat).un r hr] at e
   have:Tb.Z6 r r=1:=if_pos rfl
   rw [this] at e
   omega
 . rw [(Wx (U:=U) (ws:=ws) (U+R).toNat).un s hs]
   have:Tb.Z6 s r=0:=if_neg (Qh hne)
   rw [this,Xc]
theorem Jn5 (t:Told R U ws ks W T) {k:Nat}(ry:Tb.Ray (U+R).toNat ks.length W T k):RoundK R U ws ks (drQ ws (U+R).toNat T k)/\(∀ i,i<ws.length->0<T.dir (U+R).toNat k i->1<=(drQ ws (U+R).toNat T k).getD i 0)/\(∀ p:Nat,(p:Int)<U->0<T.dir (U+R).toNat k (ws.length+p)->1<=(Jet ws (drQ ws (U+R).toNat T k) p).sum)/\∃ ν∈W,Tb.inN (U+R).toNat ks.length T ν/\0<T.dir (U+R).toNat k ν:=by
 have r0:=t.ok.r0
 have p0:=t.ok.p0
 obtain ⟨j,hj,jp⟩:=Jpq t.fit t.kept.tot t.kept.ok ry
 have jl:=t.lt j hj
 have g0:=Ja7 (Jps (m:=(U+R).toNat) (T:=T) (k:=k) jl) (by omega)
 have gp:(0:Int)<((Zb (drL ws (U+R).toNat T k):Nat):Int):=by omega
 have mul:=λ {i:Nat} (h:i<ws.length)=>Jwt (m:=(U+R).toNat) (T:=T) (k:=k) h
 have dn:∀ i,0<=T.dir (U+R).toNat k i:=λ i=>Tb.Jtt t.kept.ok ry i
 have no:∀ i,i<ws.length->i∉ks->T.dir (U+R).toNat k i=0:=λ i hi hn=>by
  have no:¬ Tb.inN (U+R).toNat ks.length T i:=λ z=>by
   rcases (t.fit.names t.kept.tot i).mp z with ⟨s,_,e⟩ | h
   . omega
   . exact hn h
  unfold Tb.Tab.dir
  rw [if_neg (λ z=>no (.inr ⟨k,ry.hk,z.symm⟩)),Zl λ j hj=>if_neg λ z=>no (.inl ⟨j,hj,z⟩)]
  rfl
 have purse:∀ p:Nat,(p:Int)<U->T.dir (U+R).toNat k (ws.length+p)=((Zb (drL ws (U+R).toNat T k):Nat):Int)*(Jet ws (drQ ws (U+R).toNat T k) p).sum:=λ p hp=>by
  rw [Jjb t ry.hk (by omega)]
  unfold Jet
  rw [<- Yk,<- Tb.Yn,<- Tb.Za]
  refine Tb.Jh λ i hi=>?_
  rw [Jhx hi hp,<- mul hi,J3f,Int.neg_neg,Xe]
 have room:∀ a:Nat,a<R.toNat->T.dir (U+R).toNat k (ws.length+(U.toNat+a))=((Zb (drL ws (U+R).toNat T k):Nat):Int)*Vu ws (drQ ws (U+R).toNat T k) ws.length (a:Nat):=λ a ha=>by
  rw [Jjb t ry.hk (by omega),Jd0,<- Yk,<- Tb.Yn,<- Tb.Za]
  refine Tb.Jh λ i hi=>?_
  rw [Je3 hi (by omega),<- mul hi]
  unfold Jfv
  generalize (drQ ws (U+R).toNat T k).getD i 0=x
  generalize (if (Jj ws ((i:Nat):Int)).a=((a:Nat):Int) then (1:Int) else 0)=y
  generalize (if (Jj ws ((i:Nat):Int)).b=((a:Nat):Int) then (1:Int) else 0)=z
  rw [<- J3f,J7n,Xe]
 have bal:∀ a:Nat,a<R.toNat->Vu ws (drQ ws (U+R).toNat T k) ws.length (a:Nat)=0:=λ a ha=>
  Jud (f:=λ a=>Vu ws (drQ ws (U+R).toNat T k) ws.length (a:Nat)) (λ a ha=>J40 (by rw [<- room a ha];exact dn _) gp) (Jmd t.ok _ _ (Ql _)) ha
 have at0:∀ i,i<ws.length->0<=(drQ ws (U+R).toNat T k).getD i 0:=λ i hi=>J40 (by rw [mul hi];exact dn _) gp
 have ps:∀ i,i<ws.length->0<T.dir (U+R).toNat k i->1<=(drQ ws (U+R).toNat T k).getD i 0:=λ i hi h=>by
  rw [<- mul hi] at h
  exact J7o h gp
 have memi:∀ c∈drQ ws (U+R).toNat T k,∃ i,i<ws.length/\c=(drQ ws (U+R).toNat T k).getD i 0/\c=T.dir (U+R).toNat k i/((Zb (drL ws (U+R).toNat T k):Nat):Int):=λ c hc=>by
  obtain ⟨i,hi⟩:=Uh.mp hc
  have il:=(Qv.mp hi).1
  rw [Jkq] at il
  refine ⟨i,il,by rw [Qi,hi];rfl,?_⟩
  rw [Jpt il] at hi
  exact (Xp hi).symm
 refine ⟨⟨⟨Jkq,λ c hc=>?_,bal⟩,λ i hi=>?_,λ p hp=>?_,λ c hc=>?_,j,hj,ps j jl jp⟩,ps,λ p hp h=>?_,?_⟩
 . obtain ⟨i,il,e,_⟩:=memi c hc
   rw [e];exact at0 i il
 . refine J3x λ hn=>hi ?_
   by_cases il:i<ws.length
   . have:=mul il
     rw [no i il hn] at this
     rcases J7p.mp this with z | z
     . omega
     . exact z
   . rw [Qi,Qx (by rw [Jkq];omega)];rfl
 . exact J40 (by rw [<- purse p hp];exact dn _) gp
 . obtain ⟨i,il,_,e⟩:=memi c hc
   rw [e]
   by_cases h:i∈ks
   . exact Jja gp (Qy (Ji9 t.shape t.kept.ok ry.hk (t.way h)) (Z1 (by decide)))
   . rw [no i il h,J9q];exact J3g _
 . rw [purse p hp] at h
   exact J7o h gp
 . have w:=Tb.Jc8 (W:=W) t.kept.ok ry.hk
   have rp:=ry.rise
   rw [<- w] at rp
   have pos:∀ ν,0<Tb.ind W ν (T.dir (U+R).toNat k ν)->ν∈W/\0<T.dir (U+R).toNat k ν:=λ ν h=>by
    unfold Tb.ind at h
    split at h
    . exact ⟨by assumption,h⟩
    . exact absurd h (by decide)
   unfold Tb.Tab.tot at rp
   dsimp only at rp
   by_cases c:0<Tb.Jk (U+R).toNat (λ i=>Tb.ind W (T.b i) (T.dir (U+R).toNat k (T.b i)))
   . obtain ⟨i,hi,hp⟩:=Tb.W8 c
     obtain ⟨a,b⟩:=pos _ hp
     exact ⟨_,a,.inl ⟨i,hi,rfl⟩,b⟩
   . obtain ⟨j,hj,hp⟩:=Tb.W8 (n:=ks.length) (f:=λ j=>Tb.ind W (T.f j) (T.dir (U+R).toNat k (T.f j))) (by omega)
     obtain ⟨a,b⟩:=pos _ hp
     exact ⟨_,a,.inr ⟨j,hj,rfl⟩,b⟩
end
section
variable {R U:Int}{ws:List Way}{ks W W':List Nat}{T T':Tb.Tab}{C p fa ba:Addr}{ex:List Addr}{H:Hp}{wv:V}{Q:VK}{E:XK}
theorem Jgd (ok:BookOk R U ws):Jkp R U ws=⟨((ws.length:Nat):Int),((ws.length+U.toNat:Nat):Int),((ws.length+(U+R).toNat:Nat):Int)⟩:=by
 have r0:=ok.r0
 have p0:=ok.p0
 unfold Jkp
 congr 1<;>omega
end
section
variable {R U:Int}{ws:List Way}{ks W:List Nat}{T:Tb.Tab}
theorem Jue {xs ys:List Int}(h:xs.length=ys.length) (i:Nat):(Jbk xs ys).getD i 0=xs.getD i 0+ys.getD i 0:=by
 unfold Jbk
 rw [Qi,J3u,Qi,Qi]
 by_cases c:i<xs.length
 . rw [Qf c,Qf (by omega)];rfl
 . rw [Qx (by omega),Qx (by omega)];rfl
end
structure SumC (R U:Int) (wt ht:List Int):Prop where
 lw:(wt.length:Int)=U
 lh:(ht.length:Int)=R
 nn:∀ x∈wt,0<=x
 bw:∀ x∈wt,x.natAbs<2^8900
 bh:∀ x∈ht,x.natAbs<2^8900
def Jed:GSp:=λ as n Q=>∃ (xs gs:List Int),as=[.d (.tuple (xs.map .int)),.d (.tuple (gs.map .int))]/\xs.length=gs.length/\xs.length<=1000/\(∀ x∈xs,x.natAbs<2^9000)/\(∀ x∈gs,x.natAbs<2^9000)/\Q (.int (Bz xs gs xs.length)) n
noncomputable instance:Scal Jed:=⟨λ {as n P} h=>by obtain ⟨a,b,e,h1,h2,h3,h4,q⟩:=h;exact ⟨a,b,e,h1,h2,h3,h4,rfl,q⟩⟩
def Jge:GSp:=λ as n Q=>∃ (R U:Int) (ws:List Way) (wt ht:List Int) (k:Nat),as=[.d (J3 R U ws),.d (Jtw wt ht),.d (Ju k)]/\BookOk R U ws/\SumC R U wt ht/\k<ws.length/\Q (.int (Z5 ws wt ht (k:Int))) n
noncomputable instance:Scal Jge:=⟨λ {as n P} h=>by obtain ⟨R,U,ws,wt,ht,k,e,h1,h2,h3,q⟩:=h;exact ⟨R,U,ws,wt,ht,k,e,h1,h2,h3,rfl,q⟩⟩
theorem Jq3 {xs gs:List Int}{n a b:Nat}(hx:∀ i,(xs.getD i 0).natAbs<=a) (hg:∀ i,(gs.getD i 0).natAbs<=b):(Bz xs gs n).natAbs<=n*(a*b):=by
 unfold Bz
 rw [<- Yk]
 refine Tb.Jd6 λ i _=>?_
 rw [J3v]
 exact J4x (hx i) (hg i)
theorem Jdb {xs:List Int}{b:Nat}(h:∀ x∈xs,x.natAbs<=b) (i:Nat):(xs.getD i 0).natAbs<=b:=by
 rw [Qi]
 by_cases c:i<xs.length
 . rw [Qf c];exact h _ (Xt c)
 . rw [Qx (by omega)];exact Xl _
theorem Jn6 {R U:Int}{ws:List Way}{wt ht:List Int}(ok:BookOk R U ws) (sc:SumC R U wt ht) {k:Nat}(hk:k<ws.length):(Z5 ws wt ht (k:Int)).natAbs<2^9000:=by
 have wok:=ok.ways _ (Yp (k:=(k:Int)) (Xi k) (by omega))
 have p1:=ok.p1
 have lw:=sc.lw
 have g:∀ i,((Jj ws (k:Int)).g.getD i 0).natAbs<=100:=Jdb λ x hx=>by have:=wok.small x hx;omega
 have w:=Jdb (xs:=wt) (b:=2^8900) λ x hx=>Ue (sc.bw x hx)
 have h:=Jdb (xs:=ht) (b:=2^8900) λ x hx=>Ue (sc.bh x hx)
 have d:=Jq3 (n:=wt.length) w g
 have d2:wt.length*(2^8900*100)<=6*(2^8900*100):=J9o _ (by omega)
 have e:(602:Nat)*2^8900<2^9000:=by
  have:(2:Nat)^9000=2^100*2^8900:=by rw [<- J7m]
  rw [this]
  exact J9p (by decide) (J3g _)
 have ha:=h (Jj ws (k:Int)).a.toNat
 have hb:=h (Jj ws (k:Int)).b.toNat
 unfold Z5
 generalize ht.getD (Jj ws (k:Int)).a.toNat 0=x at *
 generalize ht.getD (Jj ws (k:Int)).b.toNat 0=y at *
 generalize Bz wt (Jj ws (k:Int)).g wt.length=z at *
 generalize 2^8900=c at *
 generalize 2^9000=f at *
 omega
noncomputable abbrev Ans:=Sum (List Int×List Int) (List Int)
section
variable {R U:Int}{ws:List Way}{ks L:List Nat}
end
def Jee:GSp:=λ as n Q=>∃ (R U:Int) (wt ht:List Int) (s:St'),as=[.d (Jtw wt ht),.d (stD s)]/\SumC R U wt ht/\U<=6/\(0<=s.1/\s.1<R)/\(s.2.length:Int)=U/\(∀ x∈s.2,x.natAbs<2^9000)/\Q (.int (Zi wt ht s.1 s.2)) n
noncomputable instance:Scal Jee:=⟨λ {as n P} h=>by obtain ⟨R,U,wt,ht,s,e,h1,h2,h3,h4,h5,q⟩:=h;exact ⟨R,U,wt,ht,s,e,h1,h2,h3,h4,h5,rfl,q⟩⟩
section
variable {R U:Int}{ws:List Way}{ks:List Nat}{an:List Ans}
theorem Jhz {s:St'}{k:Int}(h:k∈Vt ws s):∃ i:Nat,k=(i:Int)/\i<ws.length/\(Jj ws (i:Int)).a=s.1/\∀ x∈Jbk s.2 (Jj ws (i:Int)).g,0<=x:=by
 obtain ⟨i,hi,rfl⟩:=Qq.mp h
 obtain ⟨h1,h2⟩:=Xw.mp hi
 have h2:=Bool.and_eq_true_iff.mp h2
 exact ⟨i,rfl,Q5.mp h1,of_decide_eq_true h2.1,λ x hx=>of_decide_eq_true (Uv.mp h2.2 x hx)⟩
end
theorem Jpu {P:Int->Prop}:∀ {ys:List Yal},(∀ y∈ys,∃ i:Int,y = .int i/\P i)->∃ gs:List Int,ys=gs.map .int/\∀ g∈gs,P g
 | [],_=>⟨[],rfl,λ _ h=>by cases h⟩
 | y::ys,h=>by
  obtain ⟨i,rfl,p⟩:=h y Qk
  obtain ⟨gs,rfl,q⟩:=Jpu (ys:=ys) λ z hz=>h z (Qj _ hz)
  refine ⟨i::gs,rfl,λ g hg=>?_⟩
  rcases Qd.mp hg with rfl | hg
  . exact p
  . exact q g hg
end My
namespace Tb
structure StepG (m n:Nat) (W:List Nat) (T:Tab) (l k:Nat):Prop where
 hl:l<m
 hk:k<n
 rise:0<T.rise m W k
 first:∀ j,j<n->0<T.rise m W j->T.f k<=T.f j
 pos:0<T.e l k
 low:∀ i,i<m->0<T.e i k->T.e l n*T.e i k<=T.e i n*T.e l k/\(T.e l n*T.e i k=T.e i n*T.e l k->T.b l<=T.b i)
def Jn7 (m n:Nat) (T:Tab):Prop:=∀ i,i<m->0<=T.e i n
noncomputable def Tab.obj (T:Tab) (m n:Nat) (W:List Nat):Int:=Jk m λ i=>ind W (T.b i) (T.e i n)
section
variable {m n:Nat}{c:Nat->Vec}{rhs:Vec}{T:Tab}{W:List Nat}
theorem Jkr (h:TabOk m n c rhs T) {l k i:Nat}(hl:l<m) (hk:k<n) (hp:0<T.e l k) (hi:i<m) (hil:i≠l):T.q*(T.ex l k).e i n=T.e l k*T.e i n-T.e i k*T.e l n:=by
 rw [(h.ex hl hk hp).el i hi,Jd7,h.qq,Jb1 h.base hl hi hil,h.en l hl k hk,h.en i hi k hk,h.el i hi,h.el l hl]
theorem Je4 (h:TabOk m n c rhs T) {l k:Nat}(hl:l<m) (hk:k<n):(T.ex l k).e l n=T.e l n:=Jkh h hl (by omega)
theorem Jpv (h:TabOk m n c rhs T) {l k:Nat}(s:StepG m n W T l k) (f:Jn7 m n T):Jn7 m n (T.ex l k):=λ i hi=>by
 by_cases e:i=l
 . subst e;rw [Je4 h hi s.hk];exact f i hi
 . have q:=Jkr h s.hl s.hk s.pos hi e
   have:0<=T.q*(T.ex l k).e i n:=by
    rw [q]
    rcases J3t 0 (T.e i k) with z | z
    . have:=(s.low i hi z).1
      rw [Q3 (T.e l k),Q3 (T.e i k)];omega
    . have a:=J3y (J39 s.pos) (f i hi)
      have b:=J7q z (f l s.hl)
      omega
   rcases J3t ((T.ex l k).e i n) 0 with z | z
   . have:=Int.mul_neg_of_pos_of_neg h.qpos z
     omega
   . exact z
theorem Jz3 (h:TabOk m n c rhs T) {l k:Nat}(hl:l<m) (hk:k<n) (hp:0<T.e l k):T.q*(T.ex l k).obj m n W=T.e l k*T.obj m n W+T.rise m W k*T.e l n:=by
 have e1:T.q*(T.ex l k).obj m n W=Jk m λ i=>(ind W (T.b i) (T.e l k*T.e i n-T.e i k*T.e l n))+(if i=l then ind W (T.f k) (T.q*T.e l n) else 0):=by
  unfold Tab.obj
  rw [<- Yn]
  refine Jh λ i hi=>?_
  by_cases e:i=l
  . subst e
    rw [Jb5 h hi,Je4 h hi hk,Jb6,if_pos rfl]
    have:T.e i k*T.e i n-T.e i k*T.e i n=0:=by omega
    rw [this]
    have:ind W (T.b i) 0=0:=by unfold ind;split<;>rfl
    rw [this];omega
  . rw [Jfx e,Jb6,Jkr h hl hk hp hi e,if_neg e];omega
 rw [e1,Zk,J1 (f:=λ i=>if i=l then ind W (T.f k) (T.q*T.e l n) else 0) (a:=l) hl (λ i _ hne=>if_neg hne),if_pos rfl]
 have e2:(Jk m λ i=>ind W (T.b i) (T.e l k*T.e i n-T.e i k*T.e l n))=T.e l k*T.obj m n W + -((Jk m λ i=>ind W (T.b i) (T.e i k))*T.e l n):=by
  unfold Tab.obj
  rw [<- Yn,<- Je0,<- Za,<- Zk]
  refine Jh λ i hi=>?_
  rw [Jb6,Jki]
  unfold ind
  split<;>omega
 rw [e2]
 unfold Tab.rise
 rw [J5w,Jki]
 omega
theorem Jn8 {T T':Tab}{l k l' k':Nat}(h:TabOk m n c rhs T) (h':TabOk m n c rhs T') (p:∀ g,T'.tot m n g=T.tot m n g) (s:StepG m n W T l k) (s':StepG m n W T' l' k')
 (out:T.b l=T'.f k') (e1:T.f k<T.b l) (mid:∀ i j,i<m->j<n->T.b i=T'.f j->T.b i<=T.b l/\T.e i n=0):False:=by
 have sol':Sol m n c T' (T.dir m k):=Jzr p (Jf8 h s.hk)
 have w:=Jc8 (W:=W) h s.hk
 have w':=Jhk (W:=W) h' sol'
 rw [p,w] at w'
 have pos:0<T'.q*T.rise m W k:=J41 h'.qpos s.rise
 rw [w'] at pos
 obtain ⟨j,hj,hp⟩:=W8 pos
 have nz:T.dir m k (T'.f j)≠0:=λ z=>by rw [z,Xc] at hp;exact absurd hp (by decide)
 have neg_of:∀ {a b:Int},0<a*b->a<=0->b<0:=λ {a b} hab ha=>by
  rcases Int.lt_trichotomy b 0 with z | z | z
  . exact z
  . rw [z,Xc] at hab;exact absurd hab (by decide)
  . have:a*b<=0:=J7q ha (by omega)
    omega
 have pos_of:∀ {a b:Int},0<a*b->0<b->0<a:=λ {a b} hab hb=>by
  rcases J3t 0 a with z | z
  . exact z
  . have:a*b<=0:=J7q z (by omega)
    omega
 by_cases ek:T'.f j=T.f k
 . rw [ek,Jpg h s.hk] at hp
   have r1:=pos_of hp h.qpos
   have:=s'.first j hj r1
   omega
 . have:∃ i,i<m/\T.b i=T'.f j:=by
    refine J3x λ no=>nz ?_
    unfold Tab.dir
    rw [if_neg ek,Jh (g:=λ _=>0) (λ i hi=>if_neg λ z=>no ⟨i,hi,z⟩),We];rfl
   obtain ⟨i,hi,eb⟩:=this
   rw [<- eb,Jtn h s.hk hi] at hp
   obtain ⟨le,zi⟩:=mid i j hi hj eb
   by_cases el:T.b i=T.b l
   . have il:=h.bi i l hi s.hl el
     subst il
     have jk:j=k':=h'.fi j k' hj s'.hk (by rw [<- eb,el];exact out)
     subst jk
     have:T'.rise m W j * -T.e i k<=0:=J9r (J39 s'.rise) (by have:=s.pos;omega)
     omega
   . have r1:T'.rise m W j<=0:=by
      rcases J3t 0 (T'.rise m W j) with z | z
      . have:=s'.first j hj z
        omega
      . exact z
     have:=neg_of hp r1
     have zl:T.e l n=0:=(mid l k' s.hl s'.hk out).2
     have:=(s.low i hi (by omega)).2 (by rw [zi,zl,Q6,Q6])
     omega
end
structure PathG (m n:Nat) (c:Nat->Vec) (rhs:Vec) (W:List Nat) (N:Nat) (st:Nat->Tab) (l k:Nat->Nat):Prop where
 ok:∀ t,t<=N->TabOk m n c rhs (st t)
 sp:∀ t,t<N->StepG m n W (st t) (l t) (k t)
 ex:∀ t,t<N->st (t+1)=(st t).ex (l t) (k t)
 f0:Jn7 m n (st 0)
section
variable {m n:Nat}{c:Nat->Vec}{rhs:Vec}{W:List Nat}{N:Nat}{st:Nat->Tab}{l k:Nat->Nat}
theorem PathG.tot (h:PathG m n c rhs W N st l k) (g:Nat->Int):∀ t,t<=N->(st t).tot m n g=(st 0).tot m n g
 | 0,_=>rfl
 | t+1,ht=>by
  rw [h.ex t (by omega),Jtm (h.ok t (by omega)) (h.sp t (by omega)).hl (h.sp t (by omega)).hk]
  exact h.tot g t (by omega)
theorem PathG.feas (h:PathG m n c rhs W N st l k):∀ t,t<=N->Jn7 m n (st t)
 | 0,_=>h.f0
 | t+1,ht=>by
  rw [h.ex t (by omega)]
  exact Jpv (h.ok t (by omega)) (h.sp t (by omega)) (h.feas t (by omega))
theorem PathG.stay (h:PathG m n c rhs W N st l k) {t:Nat}(ht:t<N) {ν:Nat}:inB m (st (t+1)) ν↔(inB m (st t) ν/\ν≠(st t).b (l t))\/ν = (st t).f (k t):=by
 have o:=h.ok t (by omega)
 have s:=h.sp t ht
 rw [h.ex t ht]
 constructor
 . rintro ⟨i,hi,e⟩
   by_cases il:i=l t
   . subst il
     rw [Jb5 o hi] at e
     exact .inr e.symm
   . rw [Jfx il] at e
     exact .inl ⟨⟨i,hi,e⟩,λ z=>il (o.bi i (l t) hi s.hl (by rw [e,z]))⟩
 . rintro (⟨⟨i,hi,e⟩,ne⟩ | e)
   . have il:i≠l t:=λ z=>ne (by rw [<- e,z])
     exact ⟨i,hi,by rw [Jfx il];exact e⟩
   . exact ⟨l t,s.hl,by rw [Jb5 o s.hl];exact e.symm⟩
theorem PathG.leave (h:PathG m n c rhs W N st l k) {ν:Nat}:∀ (d s:Nat),s+d<=N->inB m (st s) ν->¬ inB m (st (s+d)) ν->∃ t,s<=t/\t<s+d/\(st t).b (l t) = ν
 | 0,s,_,h1,h2=>absurd h1 h2
 | d+1,s,hs,h1,h2=>by
  by_cases e:inB m (st (s+d)) ν
  . refine ⟨s+d,by omega,by omega,J3x λ z=>h2 ?_⟩
    exact (h.stay (t:=s+d) (by omega)).mpr (.inl ⟨e,λ y=>z y.symm⟩)
  . obtain ⟨t,a,b,e⟩:=h.leave d s (by omega) h1 e
    exact ⟨t,a,by omega,e⟩
theorem PathG.enter (h:PathG m n c rhs W N st l k) {ν:Nat}:∀ (d s:Nat),s+d<=N->¬ inB m (st s) ν->inB m (st (s+d)) ν->∃ t,s<=t/\t<s+d/\(st t).f (k t) = ν
 | 0,s,_,h1,h2=>absurd h2 h1
 | d+1,s,hs,h1,h2=>by
  by_cases e:inB m (st (s+d)) ν
  . obtain ⟨t,a,b,e⟩:=h.enter d s (by omega) h1 e
    exact ⟨t,a,by omega,e⟩
  . refine ⟨s+d,by omega,by omega,?_⟩
    rcases (h.stay (t:=s+d) (by omega)).mp h2 with z | z
    . exact absurd z.1 e
    . exact z.symm
theorem PathG.lv (h:PathG m n c rhs W N st l k) {s u:Nat}{ν:Nat}(hsu:s<=u) (hu:u<=N) (h1:inB m (st s) ν) (h2:¬ inB m (st u) ν):∃ t,s<=t/\t<u/\(st t).b (l t) = ν:=by
 have:=h.leave (ν:=ν) (u-s) s (by omega) h1 (by rw [show s+(u-s)=u by omega];exact h2)
 rwa [show s+(u-s)=u by omega] at this
theorem PathG.en (h:PathG m n c rhs W N st l k) {s u:Nat}{ν:Nat}(hsu:s<=u) (hu:u<=N) (h1:¬ inB m (st s) ν) (h2:inB m (st u) ν):∃ t,s<=t/\t<u/\(st t).f (k t) = ν:=by
 have:=h.enter (ν:=ν) (u-s) s (by omega) h1 (by rw [show s+(u-s)=u by omega];exact h2)
 rwa [show s+(u-s)=u by omega] at this
theorem Bv {a b c d e f:Int}(hb:0<b) (hd:0<d) (hf:0<f) (h1:a*d<=c*b) (h2:c*f<=e*d):a*f<=e*b:=by
 have a1:a*d*f<=c*b*f:=J4o h1 (J39 hf)
 have a2:c*f*b<=e*d*b:=J4o h2 (J39 hb)
 have e1:c*b*f=c*f*b:=by rw [Xe,Q3 b f,<- Xe]
 have e2:a*d*f=a*f*d:=by rw [Xe,Q3 d f,<- Xe]
 have e3:e*d*b=e*b*d:=by rw [Xe,Q3 d b,<- Xe]
 rw [e1] at a1
 have a3:=J50 a1 a2
 rw [e2,e3] at a3
 exact J7r a3 hd
theorem PathG.up1 (h:PathG m n c rhs W N st l k) {t:Nat}(ht:t<N):(st (t+1)).q=(st t).e (l t) (k t)/\(st t).q*(st (t+1)).obj m n W=(st (t+1)).q*(st t).obj m n W+(st t).rise m W (k t)*(st t).e (l t) n:=by
 have s:=h.sp t ht
 have e:=Jz3 (W:=W) (h.ok t (by omega)) s.hl s.hk s.pos
 rw [h.ex t ht]
 exact ⟨rfl,e⟩
theorem PathG.up (h:PathG m n c rhs W N st l k):∀ (d s:Nat),s+d<=N->(st s).obj m n W*(st (s+d)).q<=(st (s+d)).obj m n W*(st s).q
 | 0,s,_=>X6 _
 | d+1,s,hs=>by
  have ih:=h.up d s (by omega)
  have s1:=h.sp (s+d) (by omega)
  obtain ⟨_,e⟩:=h.up1 (t:=s+d) (by omega)
  have nn:=J3y (J39 s1.rise) (h.feas (s+d) (by omega) _ s1.hl)
  refine Bv (h.ok s (by omega)).qpos (h.ok (s+d) (by omega)).qpos (h.ok (s+(d+1)) (by omega)).qpos ih ?_
  rw [Q3 ((st (s+(d+1))).obj m n W),Q3 ((st (s+d)).obj m n W)]
  show (st (s+d+1)).q*_<=(st (s+d)).q*(st (s+d+1)).obj m n W
  omega
theorem Jq4 {T T':Tab}(h:TabOk m n c rhs T) (h':TabOk m n c rhs T') (e:T.bd=T'.bd):T.q=T'.q/\T.obj m n W=T'.obj m n W:=by
 refine ⟨by rw [h.qq,h'.qq,e],?_⟩
 unfold Tab.obj
 refine Jh λ i hi=>?_
 rw [h.el i hi,h'.el i hi,e]
 unfold Tab.b
 rw [e]
theorem PathG.flat (h:PathG m n c rhs W N st l k) {a b:Nat}(hb:b<=N) (same:(st a).bd=(st b).bd) {t:Nat}(h1:a<=t) (h2:t<b):(st t).e (l t) n=0:=by
 obtain ⟨eq,eo⟩:=Jq4 (W:=W) (h.ok a (by omega)) (h.ok b hb) same
 have u1:=h.up (t-a) a (by omega)
 have u2:=h.up (b-(t+1)) (t+1) (by omega)
 rw [show a+(t-a)=t by omega] at u1
 rw [show t+1+(b-(t+1))=b by omega,<- eq,<- eo] at u2
 have qt:=(h.ok t (by omega)).qpos
 have qa:=(h.ok a (by omega)).qpos
 have qn:=(h.ok (t+1) (by omega)).qpos
 obtain ⟨_,e⟩:=h.up1 (t:=t) (by omega)
 have s:=h.sp t (by omega)
 have f:=h.feas t (by omega) _ s.hl
 have u3:=Bv qn qa qt u2 u1
 rw [Q3 ((st (t+1)).obj m n W),Q3 ((st t).obj m n W),e] at u3
 have z:(st t).rise m W (k t)*(st t).e (l t) n<=0:=by omega
 rcases J3t 0 ((st t).e (l t) n) with y | y
 . have:=J41 s.rise y
   omega
 . omega
def Juf (m n:Nat) (T:Tab) (ν:Nat):Prop:=∀ i,i<m->T.b i = ν->T.e i n=0
theorem PathG.zero1 (h:PathG m n c rhs W N st l k) {t ν:Nat}(ht:t<N) (z:(st t).e (l t) n=0):Juf m n (st (t+1)) ν↔Juf m n (st t) ν:=by
 have o:=h.ok t (by omega)
 have s:=h.sp t ht
 rw [h.ex t ht]
 have q:∀ i,i<m->i≠l t->(st t).q*((st t).ex (l t) (k t)).e i n=(st t).e (l t) (k t)*(st t).e i n:=λ i hi hne=>by
  rw [Jkr o s.hl s.hk s.pos hi hne,z,Xc,J5x]
 constructor
 . intro g i hi e
   by_cases il:i=l t
   . rw [il];exact z
   . have:=q i hi il
     rw [g i hi (by rw [Jfx il];exact e),Xc] at this
     rcases J7p.mp this.symm with y | y
     . have:=s.pos;omega
     . exact y
 . intro g i hi e
   by_cases il:i=l t
   . rw [il,Je4 o s.hl s.hk];exact z
   . rw [Jfx il] at e
     have:=q i hi il
     rw [g i hi e,Xc] at this
     rcases J7p.mp this with y | y
     . have:=o.qpos;omega
     . exact y
theorem PathG.zeros (h:PathG m n c rhs W N st l k) {a b ν:Nat}(hb:b<=N) (same:(st a).bd=(st b).bd):∀ d,a+d<=b->(Juf m n (st (a+d)) ν↔Juf m n (st a) ν)
 | 0,_=>Iff.rfl
 | d+1,hd=>(h.zero1 (t:=a+d) (by omega) (h.flat hb same (by omega) (by omega))).trans (h.zeros hb same d (by omega))
theorem PathG.differ (h:PathG m n c rhs W N st l k) {a b:Nat}(hab:a<b) (hb:b<=N):(st a).bd≠(st b).bd:=by
 intro same
 have sb:∀ ν,inB m (st a) ν↔inB m (st b) ν:=λ ν=>by unfold inB Tab.b;rw [same]
 obtain ⟨t0,h1,h2,h3⟩:=Jtp (λ t=>max ((st t).b (l t)) ((st t).f (k t))) a (b-a-1)
 rw [show a+(b-a-1)+1=b by omega] at h2 h3
 have top:∀ t,a<=t->t<b->(st t).b (l t)<=max ((st t0).b (l t0)) ((st t0).f (k t0))/\(st t).f (k t)<=max ((st t0).b (l t0)) ((st t0).f (k t0)):=λ t x y=>by
  have:=h3 t x y
  exact ⟨by omega,by omega⟩
 have inl:∀ t,t<N->inB m (st t) ((st t).b (l t)):=λ t ht=>⟨l t,(h.sp t ht).hl,rfl⟩
 have notf:∀ t,t<N->¬ inB m (st t) ((st t).f (k t)):=λ t ht ⟨i,hi,e⟩=>(h.ok t (by omega)).ne i (k t) hi (h.sp t ht).hk e
 have outl:∀ t,t<N->¬ inB m (st (t+1)) ((st t).b (l t)):=λ t ht z=>by
  rcases (h.stay ht).mp z with z | z
  . exact z.2 rfl
  . exact (h.ok t (by omega)).ne (l t) (k t) (h.sp t ht).hl (h.sp t ht).hk z
 have inf:∀ t,t<N->inB m (st (t+1)) ((st t).f (k t)):=λ t ht=>(h.stay ht).mpr (.inr rfl)
 generalize hτ:max ((st t0).b (l t0)) ((st t0).f (k t0)) = τ at top
 have both:(∃ t1,a<=t1/\t1<b/\(st t1).b (l t1) = τ)/\∃ t2,a<=t2/\t2<b/\(st t2).f (k t2) = τ:=by
  rcases J6z ((st t0).b (l t0)) ((st t0).f (k t0)) with z | z
  . have e:(st t0).f (k t0) = τ:=by omega
    refine ⟨?_,t0,h1,h2,e⟩
    by_cases q:inB m (st b) τ
    . obtain ⟨t,x,y,w⟩:=h.lv (s:=a) (u:=t0) h1 (by omega) ((sb τ).mpr q) (by rw [<- e];exact notf t0 (by omega))
      exact ⟨t,x,by omega,w⟩
    . obtain ⟨t,x,y,w⟩:=h.lv (s:=t0+1) (u:=b) (by omega) hb (by rw [<- e];exact inf t0 (by omega)) q
      exact ⟨t,by omega,y,w⟩
  . have e:(st t0).b (l t0) = τ:=by omega
    refine ⟨⟨t0,h1,h2,e⟩,?_⟩
    by_cases q:inB m (st b) τ
    . obtain ⟨t,x,y,w⟩:=h.en (s:=t0+1) (u:=b) (by omega) hb (by rw [<- e];exact outl t0 (by omega)) q
      exact ⟨t,by omega,y,w⟩
    . obtain ⟨t,x,y,w⟩:=h.en (s:=a) (u:=t0) h1 (by omega) (λ z=>q ((sb τ).mp z)) (by rw [<- e];exact inl t0 (by omega))
      exact ⟨t,x,by omega,w⟩
 obtain ⟨⟨t1,x1,y1,w1⟩,t2,x2,y2,w2⟩:=both
 have o1:=h.ok t1 (by omega)
 have s1:=h.sp t1 (by omega)
 refine Jn8 o1 (h.ok t2 (by omega)) (λ g=>by rw [h.tot g t2 (by omega),h.tot g t1 (by omega)]) s1 (h.sp t2 (by omega)) (by rw [w1,w2]) ?_ λ i j hi hj e=>?_
 . have:=(top t1 x1 y1).2
   have:=o1.ne (l t1) (k t1) s1.hl s1.hk
   omega
 . rw [w1]
   have b1:inB m (st t1) ((st t1).b i):=⟨i,hi,rfl⟩
   have b2:¬ inB m (st t2) ((st t1).b i):=λ ⟨i',hi',e'⟩=>(h.ok t2 (by omega)).ne i' j hi' hj (by rw [e',e])
   have z2:Juf m n (st t2) ((st t1).b i):=λ i' hi' e'=>absurd ⟨i',hi',e'⟩ b2
   have y1':=h.zeros (ν:=(st t1).b i) hb same (t1-a) (by omega)
   have y2':=h.zeros (ν:=(st t1).b i) hb same (t2-a) (by omega)
   rw [show a+(t1-a)=t1 by omega] at y1'
   rw [show a+(t2-a)=t2 by omega] at y2'
   refine ⟨?_,y1'.mpr (y2'.mp z2) i hi rfl⟩
   rcases Uw t1 t2 with z | z
   . obtain ⟨t,x,y,w⟩:=h.lv (Ue z) (by omega) b1 b2
     rw [<- w];exact (top t (by omega) (by omega)).1
   . obtain ⟨t,x,y,w⟩:=h.en z (by omega) b2 b1
     rw [<- w];exact (top t (by omega) (by omega)).2
theorem PathG.bound {K:Nat}(h:PathG m n c rhs W N st l k) (hK:∀ t,t<=N->∀ x∈(st t).bd,x<K):N<K^m:=by
 have nd:((Qg (N+1)).map λ t=>Bb K (st t).bd).Nodup:=by
  rw [List.Nodup,J9s]
  refine Yai ?_ List.pairwise_lt_range
  intro a b ha hb hab e
  have ha:=Q5.mp ha
  have hb:=Q5.mp hb
  exact h.differ hab (by omega) (Jl1 (by rw [(h.ok a (by omega)).lb,(h.ok b (by omega)).lb]) (hK a (by omega)) (hK b (by omega)) e)
 have:=My.nodup_le (K^m) _ nd λ x hx=>by
  obtain ⟨t,ht,rfl⟩:=Qq.mp hx
  have ht:=Q5.mp ht
  have:=Jph (hK t (by omega))
  rwa [(h.ok t (by omega)).lb] at this
 rw [Qc,Qz] at this
 omega
end
end Tb
namespace My
open L2
section
variable {m n be:Nat}{c:Nat->Tb.Vec}{rhs:Tb.Vec}{T:Tb.Tab}{W:List Nat}
structure SmallG (m:Nat) (c:Nat->Tb.Vec) (rhs:Tb.Vec):Prop where
 c:∀ ν r,r<m->(c ν r).natAbs<=100
 r:∀ r,r<m->(rhs r).natAbs<=10^100
 nn:∀ r,r<m->0<=rhs r
theorem Jn9 (hm:m<=18):m*(10^100*Tb.Jd5 100 m)<2^4000:=by
 have h1:=Jhs 100 (by decide) m (18-m)
 rw [show m+(18-m)=18 by omega] at h1
 exact Us (J4x hm (J6y _ h1)) (by decide +kernel)
theorem Jfp (S:SmallG m c rhs) (h:Tb.TabOk m n c rhs T) {i:Nat}{v:Tb.Vec}(hv:∀ r,r<m->(v r).natAbs<=100):(Tb.cr m (T.bd.map c) i v).natAbs<=Tb.Jd5 100 m:=by
 unfold Tb.cr
 refine Tb.Jl0 m _ (by rw [Qp,Qc,h.lb]) λ j hj r hr=>?_
 unfold Tb.atV
 have hl:j<(T.bd.map c).length:=by rw [Qc,h.lb];exact hj
 by_cases e:i=j
 . subst e
   rw [Tb.Zx hl]
   exact hv r hr
 . rw [Tb.Z7 e]
   have:=Tb.at_map (c:=c) (l:=T.bd) (i:=j) (by rw [h.lb];exact hj)
   unfold Tb.atV at this
   rw [this]
   exact S.c _ r hr
theorem Jug (h:Tb.TabOk m n c rhs T) {i:Nat}(hi:i<m) (v:Tb.Vec):Tb.cr m (T.bd.map c) i v=Tb.Jk m λ s=>v s*Tb.cr m (T.bd.map c) i (Tb.Z6 s):=by
 have hB:=h.base.len
 rw [<- Tb.Jhh hB hi]
 refine Tb.Jb0 hB hi λ r hr=>?_
 rw [Tb.J1 (a:=r) hr λ s _ hne=>?_]
 . have:Tb.Z6 r r=1:=if_pos rfl
   rw [this,J3j]
 . have:Tb.Z6 s r=0:=if_neg (Qh hne)
   rw [this,Xc]
theorem Jme (S:SmallG m c rhs) (h:Tb.TabOk m n c rhs T) {i:Nat}(hi:i<m):(Tb.cr m (T.bd.map c) i rhs).natAbs<=m*(10^100*Tb.Jd5 100 m):=by
 rw [Jug h hi]
 refine Tb.Jd6 λ s hs=>?_
 rw [J3v]
 refine J4x (S.r s hs) (Jfp S h λ r _=>?_)
 unfold Tb.Z6
 split<;>decide
theorem Jav (S:SmallG m c rhs) (h:Tb.TabOk m n c rhs T) (hm:m<=18) (hn:n<=100):Shape m n T:=by
 have fs:=Ji7 hm
 refine ⟨h.lb,h.lf,h.lr,h.lw,by omega,hn,λ r hr x hx=>?_,h.qpos,?_⟩
 . obtain ⟨i,hi⟩:=Uh.mp hr
   obtain ⟨j,hj⟩:=Uh.mp hx
   have il:=(Qv.mp hi).1
   rw [h.lr] at il
   have er:T.row i=r:=by unfold Tb.Tab.row;rw [Qi,hi];rfl
   have jl:=(Qv.mp hj).1
   rw [<- er,h.lw i il] at jl
   have ex:T.e i j=x:=by unfold Tb.Tab.e;rw [er,Qi,hj];rfl
   rw [<- ex]
   by_cases z:j<n
   . rw [h.en i il j z]
     exact Us (Jfp S h λ r hr=>S.c _ r hr) fs
   . rw [show j=n by omega,h.el i il]
     exact Us (Jme S h il) (Jn9 hm)
 . have:T.q.natAbs<=Tb.Jd5 100 m:=by
    rw [h.qq]
    refine Tb.Jl0 m _ (by rw [Qc,h.lb]) λ j hj r hr=>?_
    rw [Tb.at_map (by rw [h.lb];exact hj)]
    exact S.c _ r hr
   have q0:=h.qpos
   have:T.q.natAbs<2^4000:=Us this fs
   have e:((T.q.natAbs:Nat):Int)=T.q:=J3c (by omega)
   rw [<- e]
   exact_mod_cast this
end
section
variable {T:Tb.Tab}{n k:Nat}
theorem Jmf:∀ {i l:Nat},rf T n k i=some l->0<T.e l k/\∀ j,j<i->0<T.e j k->T.e l n*T.e j k<=T.e j n*T.e l k/\(T.e l n*T.e j k=T.e j n*T.e l k->T.b l<=T.b j)
 | 0,l,h=>by cases h
 | i+1,l,h=>by
  rw [rf] at h
  cases e:rf T n k i with
  | none=>
   rw [e] at h
   simp only at h
   split at h
   . rename_i c
     cases h
     refine ⟨c,λ j hj hp=>?_⟩
     by_cases y:j=i
     . rw [y];exact ⟨X6 _,λ _=>Ql _⟩
     . have:=Jko e j (by omega)
       omega
   . cases h
  | some o=>
   rw [e] at h
   simp only at h
   obtain ⟨p1,p2⟩:=Jmf (i:=i) e
   split at h
   . rename_i c
     cases h
     obtain ⟨c0,c1⟩:=c
     unfold Jhn at c1
     simp only [J5n,X3,decide_eq_true_eq] at c1
     refine ⟨c0,λ j hj hp=>?_⟩
     by_cases y:j=i
     . rw [y];exact ⟨X6 _,λ _=>Ql _⟩
     . obtain ⟨g1,g2⟩:=p2 j (by omega) hp
       have h1:T.e i n*T.e o k<=T.e o n*T.e i k:=by omega
       refine ⟨Tb.Bv c0 p1 hp h1 g1,λ eq=>?_⟩
       have r1:T.e o n*T.e i k<=T.e i n*T.e o k:=Tb.Bv p1 hp c0 g1 (Int.le_of_eq eq.symm)
       have r2:T.e j n*T.e o k<=T.e o n*T.e j k:=Tb.Bv hp c0 p1 (Int.le_of_eq eq.symm) h1
       have:=g2 (by omega)
       omega
   . rename_i c
     cases h
     refine ⟨p1,λ j hj hp=>?_⟩
     by_cases y:j=i
     . rw [y] at hp ⊢
       unfold Jhn at c
       simp only [J5n,X3,decide_eq_true_eq] at c
       have c1:¬ (T.e i n*T.e l k<T.e l n*T.e i k\/(T.e i n*T.e l k=T.e l n*T.e i k/\T.b i<T.b l)):=λ z=>c ⟨hp,z⟩
       have c2:¬ T.e i n*T.e l k<T.e l n*T.e i k:=λ z=>c1 (.inl z)
       refine ⟨by omega,λ eq=>?_⟩
       rcases Uw (T.b i) (T.b l) with q | q
       . exact absurd (.inr ⟨eq.symm,q⟩) c1
       . exact q
     . exact p2 j (by omega) hp
theorem Juh {m:Nat}{W:List Nat}{l:Nat}(hk:k<n) (hr:0<T.rise m W k) (hf:∀ j,j<n->0<T.rise m W j->T.f k<=T.f j) (hl:rf T n k m=some l):Tb.StepG m n W T l k:=by
 obtain ⟨p1,p2⟩:=Jmf hl
 exact ⟨Jt0 k hl,hk,hr,hf,p1,p2⟩
end
theorem Joa {m n:Nat}{c:Nat->Tb.Vec}{rhs:Tb.Vec}{W:List Nat}{N:Nat}{st:Nat->Tb.Tab}{l k:Nat->Nat}(h:Tb.PathG m n c rhs W N st l k) {l' k':Nat}(s:Tb.StepG m n W (st N) l' k'):∃ st' l2 k2,Tb.PathG m n c rhs W (N+1) st' l2 k2/\st' (N+1)=(st N).ex l' k'/\∀ t,t<=N->st' t=st t:=by
 refine ⟨λ t=>if t<=N then st t else (st N).ex l' k',λ t=>if t<N then l t else l',λ t=>if t<N then k t else k',⟨λ t ht=>?_,λ t ht=>?_,λ t ht=>?_,?_⟩,?_,λ t ht=>if_pos ht⟩
 . by_cases z:t<=N
   . simp only [if_pos z];exact h.ok t z
   . simp only [if_neg z];exact (h.ok N (Ql _)).ex s.hl s.hk s.pos
 . by_cases z:t<N
   . simp only [if_pos z,if_pos (Ue z)];exact h.sp t z
   . have e:t=N:=by omega
     subst e
     simp only [if_neg (Q9 _),if_pos (Ql _)];exact s
 . by_cases z:t<N
   . simp only [if_pos z,if_pos (Ue z),if_pos (show t+1<=N by omega)];exact h.ex t z
   . have e:t=N:=by omega
     subst e
     simp only [if_neg (Q9 _),if_pos (Ql _),if_neg (show ¬ t+1<=t by omega)]
 . simp only [if_pos (Xl N)];exact h.f0
 . simp only [if_neg (show ¬ N+1<=N by omega)]
theorem Jq5 {m n:Nat}{c:Nat->Tb.Vec}{rhs:Tb.Vec}{W:List Nat}{T:Tb.Tab}(h:Tb.TabOk m n c rhs T) (f:Tb.Jn7 m n T):Tb.PathG m n c rhs W 0 (λ _=>T) (λ _=>0) (λ _=>0):=⟨λ _ _=>h,λ t ht=>by omega,λ t ht=>by omega,f⟩
structure KeptG (m n be:Nat) (c:Nat->Tb.Vec) (rhs:Tb.Vec) (T0 T:Tb.Tab):Prop where
 ok:Tb.TabOk m n c rhs T
 nm:Names m n be T
 tot:∀ g,T.tot m n g=T0.tot m n g
 fe:Tb.Jn7 m n T
def Jgf (C:Addr):Sp:=λ vs H Q _=>∃ (ex:List Addr) (p fa ba:Addr) (nw nr be m n:Nat) (c:Nat->Tb.Vec) (rhs:Tb.Vec) (T:Tb.Tab) (W some:List Nat) (wv:V),vs=[.ref p,wv]/\TabH C ex p fa ba ⟨(nw:Int),(nr:Int),(be:Int)⟩ T H/\Rep (p::fa::ba::ex) H (.list (W.map Ju)) wv/\SmallG m c rhs/\m<=18/\n<=100/\nw<=be/\be<=1000/\KeptG m n be c rhs T T/\Fit nw m n c some T /\
 (∀ (H':Hp) (T':Tb.Tab) (k:Nat) (v:V),TabH C ex p fa ba ⟨(nw:Int),(nr:Int),(be:Int)⟩ T' H'->KeptG m n be c rhs T T'->Tb.Ray m n W T' k->Kp [p,fa,ba] H H'->Rep ex H' (.tuple (((Qg nw).map (T'.dir m k)).map λ x=>.int (x/((Zb ((Qg nw).map (T'.dir m k)):Nat):Int)))) v->Q v H') /\
 (∀ (H':Hp) (T':Tb.Tab),TabH C ex p fa ba ⟨(nw:Int),(nr:Int),(be:Int)⟩ T' H'->KeptG m n be c rhs T T'->Tb.Last m n W T'->Kp [p,fa,ba] H H'->Q .non H')
theorem Jmg {m n be:Nat}{c:Nat->Tb.Vec}{rhs:Tb.Vec}{T0 T:Tb.Tab}{W:List Nat}{l k:Nat}(h:KeptG m n be c rhs T0 T) (s:Tb.StepG m n W T l k):KeptG m n be c rhs T0 (T.ex l k):=
 ⟨h.ok.ex s.hl s.hk s.pos,Jt3 h.ok h.nm s.hl s.hk s.pos,λ g=>by rw [Tb.Jtm h.ok s.hl s.hk];exact h.tot g,Tb.Jpv h.ok s h.fe⟩
structure TurnG (C:Addr) (ex:List Addr) (p fa ba:Addr) (z:Siz) (m n be:Nat) (c:Nat->Tb.Vec) (rhs:Tb.Vec) (W:List Nat) (T0:Tb.Tab) (H0:Hp) (wv:V) (N:Nat) (T:Tb.Tab) (H:Hp):Prop where
 h:TabH C ex p fa ba z T H
 k:KeptG m n be c rhs T0 T
 kp:Kp [p,fa,ba] H0 H
 w:Rep (p::fa::ba::ex) H (.list (W.map Ju)) wv
 path:∃ st l k,Tb.PathG m n c rhs W N st l k/\st N=T/\∀ t,t<=N->Names m n be (st t)
theorem TurnG.few {C p fa ba:Addr}{ex:List Addr}{z:Siz}{m n be N:Nat}{c:Nat->Tb.Vec}{rhs:Tb.Vec}{W:List Nat}{T0 T:Tb.Tab}{H0 H:Hp}{wv:V}(t:TurnG C ex p fa ba z m n be c rhs W T0 H0 wv N T H):N<be^m:=by
 obtain ⟨st,l,k,hp,_,hn⟩:=t.path
 refine hp.bound λ s hs x hx=>?_
 obtain ⟨i,hi⟩:=Uh.mp hx
 have lt:=(Qv.mp hi).1
 rw [(hp.ok s hs).lb] at lt
 have:=(hn s hs).bl i lt
 unfold Tb.Tab.b at this
 rwa [Qi,hi] at this
theorem TurnG.next {C p fa ba:Addr}{ex:List Addr}{z:Siz}{m n be N l k:Nat}{c:Nat->Tb.Vec}{rhs:Tb.Vec}{W:List Nat}{T0 T:Tb.Tab}{H0 H H':Hp}{wv:V}(t:TurnG C ex p fa ba z m n be c rhs W T0 H0 wv N T H) (s:Tb.StepG m n W T l k) (h':TabH C ex p fa ba z (T.ex l k) H') (k':Kp [p,fa,ba] H H'):TurnG C ex p fa ba z m n be c rhs W T0 H0 wv (N+1) (T.ex l k) H':=by
 obtain ⟨st,l1,k1,hp,e,hn⟩:=t.path
 subst e
 obtain ⟨st',l2,k2,hp',e',same⟩:=Joa hp s
 refine ⟨h',Jmg t.k s,t.kp.trans k',t.w.keep (k'.mono λ b hb=>by simp only [Qd,Ub,or_false] at hb ⊢;rcases hb with h | h | h<;>simp [h]),st',l2,k2,hp',e',λ u hu=>?_⟩
 by_cases y:u<=N
 . rw [same u y];exact hn u y
 . rw [show u=N+1 by omega,e']
   exact (Jmg t.k s).nm
theorem Jfq {E:XK}{C p fa ba:Addr}{ex:List Addr}{z:Siz}{m n be N:Nat}{c:Nat->Tb.Vec}{rhs:Tb.Vec}{W:List Nat}{T0 T:Tb.Tab}{H0 H:Hp}{wv:V}{σ:L2.St}{Q:VK}(S:SmallG m c rhs) (hm:m<=18) (hn:n<=100) (t:TurnG C ex p fa ba z m n be c rhs W T0 H0 wv N T H) (s0:σ[0]? = some (some (.ref p))) (s1:σ[1]? = some (some wv))
 (q1:∀ (k:Nat) (H':Hp),k<n->0<T.rise m W k->(∀ j,j<n->0<T.rise m W j->T.f k<=T.f j)->Kp [] H H'->Q (Y5 k) H') (q2:∀ H',Tb.Last m n W T->Kp [] H H'->Q .non H'):Jfi C "place_to_raise" (Jn (Jcq C)) [] E (Z4 0) (Yo (Z4 1) Ja2) σ H Q:=by
 have sh:=Jav S t.k.ok hm hn
 have hs:sizeLine=16777216:=Yar
 obtain ⟨dx,rv,h1,h2⟩:=t.h.o
 refine ⟨_,s0,p,dx,_,rfl,h1,rfl,_,s1,?_⟩
 show Jn (Jcq C) [.ref p,wv] H Q E
 refine Jeb (sp:=Jcq C) (E:=E) (vs:=[wv]) (as:=[.d (.list (W.map Ju))]) t.h (by rw [sh.lf];omega) (by rw [sh.lb];omega) ⟨⟨_,rfl,Rep.sub (Rep.sub (Rep.sub t.w))⟩,trivial⟩ (P:=λ d _=>(∃ k,d=Ju k/\k<n/\0<T.rise m W k/\∀ j,j<n->0<T.rise m W j->T.f k<=T.f j)\/(d = .none/\Tb.Last m n W T)) ⟨z,T,m,n,W,rfl,sh,t.k.ok.fi,λ k a b c=>.inl ⟨k,rfl,a,b,c⟩,λ h=>.inr ⟨rfl,⟨h⟩⟩⟩ λ d n' v H' hp kp r=>?_
 rcases hp with ⟨k,rfl,a,b,c⟩ | ⟨rfl,h⟩
 . cases r
   exact q1 k H' a b c kp
 . cases r
   exact q2 H' h kp
theorem Job {E:XK}{C p fa ba:Addr}{ex:List Addr}{z:Siz}{m n be N k:Nat}{c:Nat->Tb.Vec}{rhs:Tb.Vec}{W:List Nat}{T0 T:Tb.Tab}{H0 H:Hp}{wv:V}{σ:L2.St}{Q:VK}(S:SmallG m c rhs) (hm:m<=18) (hn:n<=100) (t:TurnG C ex p fa ba z m n be c rhs W T0 H0 wv N T H) (s0:σ[0]? = some (some (.ref p))) (s2:σ[2]? = some (some (Y5 k))) (hk:k<n)
 (q1:∀ (l:Nat) (H':Hp),rf T n k m=some l->Kp [] H H'->Q (Y5 l) H') (q2:∀ H',rf T n k m=none->Kp [] H H'->Q .non H'):Jfi C "row_to_free" (Jn (Je1 C)) [] E (Z4 0) (Yo (Z4 2) Ja2) σ H Q:=by
 have sh:=Jav S t.k.ok hm hn
 have hs:sizeLine=16777216:=Yar
 obtain ⟨dx,rv,h1,h2⟩:=t.h.o
 refine ⟨_,s0,p,dx,_,rfl,h1,rfl,_,s2,?_⟩
 show Jn (Je1 C) [.ref p,Y5 k] H Q E
 refine Jeb (sp:=Je1 C) (E:=E) (vs:=[Y5 k]) (as:=[.d (Ju k)]) t.h (by rw [sh.lf];omega) (by rw [sh.lb];omega) ⟨⟨_,rfl,.int _⟩,trivial⟩ (P:=λ d _=>d=Jzt (rf T n k m)) ⟨z,T,m,n,k,rfl,sh,hk,rfl⟩ λ d n' v H' hp kp r=>?_
 subst hp
 cases e:rf T n k m with
 | none=>
  rw [e] at r
  cases r
  exact q2 H' e kp
 | some l=>
  rw [e] at r
  cases r
  exact q1 l H' e kp
theorem TurnG.keep {C p fa ba:Addr}{ex:List Addr}{z:Siz}{m n be N:Nat}{c:Nat->Tb.Vec}{rhs:Tb.Vec}{W:List Nat}{T0 T:Tb.Tab}{H0 H H':Hp}{wv:V}(t:TurnG C ex p fa ba z m n be c rhs W T0 H0 wv N T H) (k:Kp [] H H'):TurnG C ex p fa ba z m n be c rhs W T0 H0 wv N T H':=
 ⟨t.h.keep k,t.k,t.kp.trans (k.mono λ a ha=>by cases ha),t.w.keep (k.mono λ a ha=>by cases ha),t.path⟩
section
variable {m n be:Nat}{c:Nat->Tb.Vec}{rhs:Tb.Vec}{T:Tb.Tab}{W:List Nat}
noncomputable def Jbj (n:Nat) (T:Tb.Tab):Tb.Tab:=⟨T.fr,T.bd,T.rows.map λ r=>r.set n 0,T.q⟩
theorem Jh0 {i:Nat}:(Jbj n T).row i=(T.row i).set n 0:=by grind [Tb.Tab.row,Jbj]
theorem Jks {i j:Nat}(h:j<n):(Jbj n T).e i j=T.e i j:=by
 unfold Tb.Tab.e
 rw [Jh0,Tb.Z7 (by omega)]
theorem Jz4 {i:Nat}:(Jbj n T).e i n=0:=by grind [Jh0,Tb.Tab.e,Jbj]
theorem Jwu (h:Tb.TabOk m n c rhs T):Tb.TabOk m n c Jhu (Jbj n T):=
 ⟨h.lb,h.lf,by show (T.rows.map _).length=m;rw [Qc];exact h.lr,λ i hi=>by rw [Jh0,Qp];exact h.lw i hi,h.base,h.qq,λ i hi j hj=>by rw [Jks hj];exact h.en i hi j hj,λ i hi=>by
  rw [Jz4]
  have:=Tb.Jhg h.base.len (i:=i) hi 0 (Jhu)
  rw [Q6] at this
  exact this.symm.trans (Tb.Jb0 h.base.len hi λ r _=>Q6 (Jhu r)),h.bi,h.fi,h.ne⟩
theorem Jq6 {j:Nat}(hj:j<n):(Jbj n T).rise m W j=T.rise m W j:=by
 unfold Tb.Tab.rise
 rw [Tb.Jh (g:=λ i=>Tb.ind W (T.b i) (T.e i j)) λ i _=>by rw [Jks hj];rfl]
 rfl
theorem Jui {k ν:Nat}(hk:k<n):(Jbj n T).dir m k ν = T.dir m k ν:=by
 unfold Tb.Tab.dir
 rw [Tb.Jh (g:=λ i=>if T.b i = ν then T.e i k else 0) λ i _=>by rw [Jks hk];rfl]
 rfl
theorem Juj {k:Nat}(r:Tb.Ray m n W T k):Tb.Ray m n W (Jbj n T) k:=⟨r.hk,by rw [Jq6 r.hk];exact r.rise,λ i hi=>by rw [Jks r.hk];exact r.no i hi⟩
noncomputable def J8 (T:Tb.Tab) (n i ν:Nat):Int:=Tb.Jk i λ i=>if T.b i = ν then T.e i n else 0
noncomputable def Jfz (T:Tb.Tab) (be n i:Nat):List Int:=(Qg be).map (J8 T n i)
theorem Jca {i:Nat}:(Jfz T be n i).length=be:=by unfold Jfz;rw [Qc,Qz]
theorem Jh1 {i ν:Nat}(h:ν < be):(Jfz T be n i)[ν]? = some (J8 T n i ν):=by unfold Jfz;rw [Qm,X4 h];rfl
theorem Jq7:Qo be (0:Int)=Jfz T be n 0:=by
 apply Xq
 intro i
 by_cases hi:i<be
 . rw [Jh1 hi,J3p,if_pos hi];rfl
 . rw [Qx (by rw [X2];omega),Qx (by rw [Jca];omega)]
theorem Jx4 (N:Names m n be T) {i:Nat}(hi:i<m):J8 T n m (T.b i)=T.e i n:=by grind [Tb.J1,Names.bi,J8,Tb.Tab.b,Tb.Tab.e]
theorem Jz5 (N:Names m n be T) {i:Nat}(hi:i<m):∀ c,c<=i->J8 T n c (T.b i)=0:=λ c hc=>by
 unfold J8
 exact Zl λ j hj=>if_neg λ e=>by have:=N.bi j i (by omega) hi e;omega
theorem Jkt {ν:Nat}(h:∀ i,i<m->T.b i≠ν):J8 T n m ν = 0:=Zl λ i hi=>if_neg (h i hi)
theorem J13 (N:Names m n be T) {j:Nat}(hj:j<n):J8 T n m (T.f j)=0:=Jkt λ i hi=>N.ne i j hi hj
theorem Jq8 (N:Names m n be T) {i:Nat}(hi:i<m):(Jfz T be n i).set (T.b i) (T.e i n)=Jfz T be n (i+1):=by
 apply Xq
 intro ν
 by_cases hν:ν < be
 . rw [Jh1 hν,J37,Jca,Jh1 hν]
   have st:J8 T n (i+1) ν = J8 T n i ν + (if T.b i = ν then T.e i n else 0):=rfl
   rw [st]
   by_cases e:T.b i = ν
   . rw [if_pos e,if_pos e,if_pos (N.bl i hi),<- e,Jz5 N hi i (Ql _)]
     congr 1
     omega
   . rw [if_neg e,if_neg e,J4w]
 . rw [Qx (by rw [Qp,Jca];omega),Qx (by rw [Jca];omega)]
theorem Jz6 (f:Tb.Jn7 m n T) (ν:Nat):0<=J8 T n m ν:=by
 unfold J8
 have:∀ M,M<=m->0<=Tb.Jk M (λ i=>if T.b i = ν then T.e i n else 0):=by
  intro M
  induction M with
  | zero=>intro _;exact X6 _
  | succ M ih=>
   intro hM
   have a:=ih (by omega)
   have b:0<=(if T.b M = ν then T.e M n else 0):=by
    split
    . exact f M (by omega)
    . exact X6 _
   show 0<=Tb.Jk M (λ i=>if T.b i = ν then T.e i n else 0)+(if T.b M = ν then T.e M n else 0)
   omega
 exact this m (Ql _)
theorem Jq9 (sh:Shape m n T) (N:Names m n be T) (ν:Nat):(J8 T n m ν).natAbs<2^4000:=by
 by_cases h:∃ i,i<m/\T.b i = ν
 . obtain ⟨i,hi,rfl⟩:=h
   rw [Jx4 N hi]
   exact Jhw sh hi (Ql _)
 . rw [Jkt λ i hi e=>h ⟨i,hi,e⟩]
   exact J3g _
theorem J14 (h:Tb.TabOk m n c rhs T):T.L m c W rhs=T.obj m n W:=by
 unfold Tb.Tab.L Tb.Tab.obj
 exact Tb.Jh λ i hi=>by rw [h.el i hi]
theorem Jwv (N:Names m n be T) {k:Nat}:T.obj m n [k]=J8 T n m k:=by grind [Tb.Tab.obj,J8,Tb.Jk,Tb.ind,Tb.Tab.b,Tb.Tab.e]
theorem Jww (h:Tb.TabOk m n c rhs T) (N:Names m n be T) {r:Nat}(hr:r<m):T.q*rhs r=T.tot m n λ ν=>J8 T n m ν * c ν r:=by
 rw [h.qq,h.base.cra rhs r hr]
 unfold Tb.Tab.tot
 rw [Zl (n:=n) (f:=λ j=>(λ ν=>J8 T n m ν * c ν r) (T.f j)) λ j hj=>by show J8 T n m (T.f j)*_=0;rw [J13 N hj,Q6],J4w]
 exact Tb.Jh λ i hi=>by show _=J8 T n m (T.b i)*c (T.b i) r;rw [Jx4 N hi,h.at_b hi,h.el i hi]
end
structure SdOk (R U room:Int) (nums:List Int):Prop where
 a0:0<=room
 a1:room<R
 len:(nums.length:Int)=U
 nn:∀ x∈nums,0<=x
 bd:∀ x∈nums,x<=10^99
noncomputable def rhS (U room:Int) (nums:List Int):Tb.Vec:=λ r=>if (r:Int)<U then nums.getD r 0 else if (r:Int)-U=room then 1 else 0
noncomputable def Jcu (R U:Int) (ws:List Way) (room:Int) (nums:List Int) (ks:List Nat):Tb.Tab:=Tb.Vp ws.length (U+R).toNat (Zc U ws) (rhS U room nums) ks
structure ToldG (R U:Int) (ws:List Way) (room:Int) (nums:List Int) (ks:List Nat) (T:Tb.Tab):Prop where
 ok:BookOk R U ws
 sd:SdOk R U room nums
 kept:KeptG (U+R).toNat ks.length (ws.length+(U+R).toNat) (Zc U ws) (rhS U room nums) (Jcu R U ws room nums ks) T
 nd:ks.Nodup
 lt:∀ k∈ks,k<ws.length
section
variable {R U:Int}{ws:List Way}{room:Int}{nums:List Int}{ks W:List Nat}{T T':Tb.Tab}
theorem Joc (s:SdOk R U room nums) (r:Nat):0<=rhS U room nums r:=by
 unfold rhS
 split
 . rename_i h
   have:=s.len
   have hr:r<nums.length:=by omega
   rw [Qi,Qf hr]
   exact s.nn _ (Xt hr)
 . split<;>decide
theorem Jpw (ok:BookOk R U ws) (s:SdOk R U room nums):SmallG (U+R).toNat (Zc U ws) (rhS U room nums):=by
 refine ⟨(Jhy ok).c,λ r _=>?_,λ r _=>Joc s r⟩
 have h0:=Joc s r
 have h1:rhS U room nums r<=10^99:=by
  unfold rhS
  split
  . rename_i h
    have:=s.len
    have hr:r<nums.length:=by omega
    rw [Qi,Qf hr]
    exact s.bd _ (Xt hr)
  . split<;>decide
 have h2:(10:Int)^99<=((10^100:Nat):Int):=by decide
 omega
theorem Jod (ok:BookOk R U ws) (s:SdOk R U room nums) (nd:ks.Nodup) (lt:∀ k∈ks,k<ws.length):ToldG R U ws room nums ks (Jcu R U ws room nums ks):=by
 have tk:Tb.TabOk (U+R).toNat ks.length (Zc U ws) (rhS U room nums) (Jcu R U ws room nums ks):=Tb.Jtq (Wx _) nd lt
 refine ⟨ok,s,⟨tk,?_,λ _=>rfl,λ i hi=>?_⟩,nd,lt⟩
 . refine Jl5 tk (λ i hi=>?_) (λ j hj=>?_)
   . show (Tb.Vp _ _ _ _ _).b i<_
     rw [Tb.Jd8 hi];omega
   . have:(Jcu R U ws room nums ks).f j=ks.getD j 0:=rfl
     rw [this]
     have:=lt _ (Je2 hj)
     omega
 . have:(Jcu R U ws room nums ks).e i ks.length=rhS U room nums i:=by
    unfold Tb.Tab.e
    rw [show (Jcu R U ws room nums ks).row i=_ from Tb.Jcp hi,Qi,J3o (by rw [Qc];exact Ql _),Qc,Nat.sub_self]
    rfl
   rw [this]
   exact Joc s i
theorem ToldG.m (t:ToldG R U ws room nums ks T):(U+R).toNat<=18:=by have:=t.ok.r1;have:=t.ok.p1;omega
theorem ToldG.n (t:ToldG R U ws room nums ks T):ks.length<=100:=by have:=nodup_le _ _ t.nd t.lt;have:=t.ok.len;omega
theorem ToldG.shape (t:ToldG R U ws room nums ks T):Shape (U+R).toNat ks.length T:=Jav (Jpw t.ok t.sd) t.kept.ok t.m t.n
theorem ToldG.fit (t:ToldG R U ws room nums ks T):Fit ws.length (U+R).toNat ks.length (Zc U ws) ks T:=⟨Wx _,t.lt,rfl,λ g=>by rw [t.kept.tot];exact Tb.Ji6 g⟩
theorem ToldG.self (t:ToldG R U ws room nums ks T):KeptG (U+R).toNat ks.length (ws.length+(U+R).toNat) (Zc U ws) (rhS U room nums) T T:=⟨t.kept.ok,t.kept.nm,λ _=>rfl,t.kept.fe⟩
theorem ToldG.next (t:ToldG R U ws room nums ks T) (k:KeptG (U+R).toNat ks.length (ws.length+(U+R).toNat) (Zc U ws) (rhS U room nums) T T'):ToldG R U ws room nums ks T':=⟨t.ok,t.sd,⟨k.ok,k.nm,λ g=>by rw [k.tot,t.kept.tot],k.fe⟩,t.nd,t.lt⟩
theorem ToldG.z (t:ToldG R U ws room nums ks T):Told R U ws ks W (Jbj ks.length T):=⟨t.ok,⟨Jwu t.kept.ok,⟨t.kept.nm.bi,t.kept.nm.fi,t.kept.nm.ne,t.kept.nm.bl,t.kept.nm.fl⟩,λ g=>t.kept.tot g⟩,t.nd,t.lt⟩
theorem Joe {C p fa ba:Addr}{ex:List Addr}{H:Hp}{wv:V}{Q:VK}{E:XK}(t:ToldG R U ws room nums ks T) (hT:TabH C ex p fa ba (Jkp R U ws) T H) (hw:Rep (p::fa::ba::ex) H (.list (W.map Ju)) wv)
 (qr:∀ H' T' k v,TabH C ex p fa ba (Jkp R U ws) T' H'->ToldG R U ws room nums ks T'->Tb.Ray (U+R).toNat ks.length W T' k->Kp [p,fa,ba] H H'->Rep ex H' (.tuple ((drQ ws (U+R).toNat T' k).map .int)) v->Q v H')
 (ql:∀ H' T',TabH C ex p fa ba (Jkp R U ws) T' H'->ToldG R U ws room nums ks T'->Tb.Last (U+R).toNat ks.length W T'->Kp [p,fa,ba] H H'->Q .non H'):Jgf C [.ref p,wv] H Q E:=by
 rw [Jgd t.ok] at hT
 have wl:=t.ok.len
 have m18:=t.m
 refine ⟨ex,p,fa,ba,ws.length,ws.length+U.toNat,ws.length+(U+R).toNat,(U+R).toNat,ks.length,Zc U ws,rhS U room nums,T,W,ks,wv,rfl,hT,hw,Jpw t.ok t.sd,t.m,t.n,by omega,by omega,t.self,t.fit,λ H' T' k v h1 h2 h3 h4 h5=>?_,λ H' T' h1 h2 h3 h4=>?_⟩
 . refine qr H' T' k v (by rw [Jgd t.ok];exact h1) (t.next h2) h3 h4 ?_
   unfold drQ drL
   rw [Q0]
   exact h5
 . exact ql H' T' (by rw [Jgd t.ok];exact h1) (t.next h2) h3 h4
theorem Juk {m n k:Nat}(hk:k<n):drQ ws m (Jbj n T) k=drQ ws m T k:=by
 unfold drQ drL
 rw [show (Jbj n T).dir m k=T.dir m k from funext λ ν=>Jui hk]
theorem Jmh (t:ToldG R U ws room nums ks T) {j k:Nat}(ry:Tb.Ray (U+R).toNat ks.length [k] T j) (hk:k<ws.length):RoundK R U ws ks (drQ ws (U+R).toNat T j)/\1<=(drQ ws (U+R).toNat T j).getD k 0:=by
 obtain ⟨rk,ps,_,ν,hν,_,pos⟩:=Jn5 (t.z (W:=[k])) (Juj ry)
 rw [Qu.mp hν] at pos
 rw [Juk ry.hk] at rk ps
 exact ⟨rk,ps k hk pos⟩
end
noncomputable def qz (L:List Int) (x:Int):Int:=x/((Zb L:Nat):Int)
structure MostK (R U:Int) (ws:List Way) (room:Int) (nums:List Int) (ks:List Nat) (k:Nat) (n d:Int) (wt ht:List Int) (u:Int) (F:List Int) (e:Int):Prop where
 lw:(wt.length:Int)=U
 lh:(ht.length:Int)=R
 w0:∀ x∈wt,0<=x
 bw:∀ x∈wt,x.natAbs<2^4200
 h0:∀ x∈ht,0<=x
 bh:∀ x∈ht,x.natAbs<2^4200
 kp:∀ i∈ks,0<=Z5 ws wt ht (i:Nat)
 fl:u<=Z5 ws wt ht (k:Nat)
 u1:1<=u/\u.natAbs<2^4200
 d1:1<=d/\d.natAbs<2^4200
 n0:0<=n/\n.natAbs<2^4200
 gc:X7 n.natAbs d.natAbs=1
 wo:Zi wt ht room nums*d=n*u
 e1:1<=e/\e.natAbs<2^4200
 lF:F.length=ws.length
 F0:∀ x∈F,0<=x
 bF:∀ x∈F,x.natAbs<2^4200
 sub:∀ i:Nat,F.getD i 0≠0->i∈ks
 ou:∀ r:Nat,(r:Int)<R->-(Vu ws F ws.length (r:Nat))-(if (r:Int)=room then e else 0)<=0
 nu:∀ p:Nat,(p:Int)<U->0<=e*nums.getD p 0+(Jet ws F p).sum
 fk:F.getD k 0*d=n*e
noncomputable def Jcb (n d:Int) (wt ht:List Int) (u:Int) (F:List Int) (e:Int):Yal:=.tuple [.str "most",.int n,.int d,Jtw wt ht,.int u,.tuple (F.map .int),.int e]
theorem Jwx (a b:Int):Zb [a,b]=X7 a.natAbs b.natAbs:=by
 show X7 (X7 0 a.natAbs) b.natAbs=_
 rw [Nat.gcd_zero_left]
theorem Jbb {L:List Int}{x:Int}(h:x∈L):((Zb L:Nat):Int)*qz L x=x:=by
 unfold qz
 rw [Q3]
 exact Jpm h
theorem Jz7 {a b:Int}(hb:0<b):X7 (qz [a,b] a).natAbs (qz [a,b] b).natAbs=1:=by
 have hg:0<X7 a.natAbs b.natAbs:=Nat.gcd_pos_of_pos_right _ (by omega)
 have e:∀ x:Int,x∈[a,b]->(qz [a,b] x).natAbs=x.natAbs/X7 a.natAbs b.natAbs:=λ x hx=>by
  have h1:=Jbb hx
  rw [Jwx] at h1
  have h2:X7 a.natAbs b.natAbs*(qz [a,b] x).natAbs=x.natAbs:=by
   rw [<- h1,J3v,h1];rfl
  rw [<- h2,Nat.mul_div_cancel_left _ hg]
 rw [e a (by simp),e b (by simp)]
 exact Nat.coprime_div_gcd_div_gcd hg
theorem Jul {L:List Int}{x y:Int}(hy:y∈L) (y0:y≠0) (h:0<=x):0<=qz L x:=Jz2 (by have:=Ja7 hy y0;omega) h
theorem Jof {L:List Int}{x:Int}(h:x∈L) (h0:0<x):1<=qz L x:=by
 have e:=Jbb h
 have:0<((Zb L:Nat):Int)*qz L x:=by omega
 exact J7o this (by have:=Ja7 h (by omega);omega)
theorem Jaw {L:List Int}{x y:Int}{b:Nat}(hy:y∈L) (y0:y≠0) (h:x.natAbs<b):(qz L x).natAbs<b:=Jja (by have:=Ja7 hy y0;omega) h
section
variable {R U:Int}{ws:List Way}{room:Int}{nums:List Int}{ks:List Nat}{T:Tb.Tab}
noncomputable def Jbl (ws:List Way) (m n:Nat) (T:Tb.Tab):List Int:=(Qg ws.length).map (J8 T n m)
theorem Jum {m n i:Nat}(h:i<ws.length):J8 T n m i∈Jbl ws m n T:=Qq.mpr ⟨i,Q5.mpr h,rfl⟩
theorem Jra (t:ToldG R U ws room nums ks T) {r:Nat}(hr:r<(U+R).toNat):J8 T ks.length (U+R).toNat (ws.length+r)=T.q*rhS U room nums r-Tb.Jk ws.length λ i=>J8 T ks.length (U+R).toNat i*Zc U ws i r:=by
 have e:=Jww t.kept.ok t.kept.nm hr
 have ze:∀ i,i<ws.length->i∉ks->J8 T ks.length (U+R).toNat i*Zc U ws i r=0:=λ i hi hn=>by
  have no:¬ Tb.inN (U+R).toNat ks.length T i:=λ z=>by
   rcases (t.fit.names (λ _=>rfl) i).mp z with ⟨s,_,e⟩ | h
   . omega
   . exact hn h
  rw [Jkt λ j hj z=>no (.inl ⟨j,hj,z⟩),Q6]
 rw [t.fit.tot,Jmb t.nd t.lt (F:=λ i=>J8 T ks.length (U+R).toNat i*Zc U ws i r) ze,Tb.J1 (a:=r) hr (λ s hs hne=>?_)] at e
 . rw [(Wx (U:=U) (ws:=ws) (U+R).toNat).un r hr] at e
   have:Tb.Z6 r r=1:=if_pos rfl
   rw [this] at e
   omega
 . rw [(Wx (U:=U) (ws:=ws) (U+R).toNat).un s hs]
   have:Tb.Z6 s r=0:=if_neg (Qh hne)
   rw [this,Xc]
theorem Jab {f:Int->Int}{L:List Int}{i:Nat}(h:i<L.length):(L.map f).getD i 0=f (L.getD i 0):=by grind
theorem Jmi {n s:Nat}{W:List Nat}(h:s<(U+R).toNat):(shL R U ws n W T).getD s 0=T.share (U+R).toNat n W (ws.length+s):=by grind [shL,Tb.Tab.share]
theorem Jjc {m n i:Nat}(h:i<ws.length):(Jbl ws m n T).getD i 0=J8 T n m i:=by grind [Jbl,J8]
theorem Jef {m n:Nat}:(Jbl ws m n T).length=ws.length:=by unfold Jbl;rw [Qc,Qz]
theorem Jrb (t:ToldG R U ws room nums ks T) {k:Nat}(kl:k<ws.length) {wt ht:List Int}{g:Int}(lw:(wt.length:Int)=U)
 (hw:∀ p:Nat,(p:Int)<U->g*wt.getD p 0=T.share (U+R).toNat ks.length [k] (ws.length+p)) (hh:∀ a:Nat,(a:Int)<R->g*ht.getD a 0=T.share (U+R).toNat ks.length [k] (ws.length+(U.toNat+a))):g*Zi wt ht room nums=J8 T ks.length (U+R).toNat k:=by
 have r0:=t.ok.r0
 have p0:=t.ok.p0
 have a0:=t.sd.a0
 have a1:=t.sd.a1
 have C:=Wx (U:=U) (ws:=ws) (U+R).toNat
 have e:Tb.Jk (U+R).toNat (λ s=>rhS U room nums s*T.share (U+R).toNat ks.length [k] (ws.length+s))=J8 T ks.length (U+R).toNat k:=by
  rw [<- Jwv t.kept.nm,<- J14 t.kept.ok,Tb.Jxz t.kept.ok]
  refine Tb.Jh λ s hs=>?_
  rw [Tb.Jpj t.kept.ok ((t.fit.names (λ _=>rfl) _).mpr (.inl ⟨s,hs,rfl⟩)) (.inl (by rw [Qu];omega)),C.un s hs]
 rw [show (U+R).toNat=U.toNat+R.toNat by omega,Jda] at e
 rw [<- show (U+R).toNat=U.toNat+R.toNat by omega] at e
 rw [<- e]
 unfold Zi Bz
 rw [<- Yk,U8,<- Tb.Yn,show wt.length=U.toNat by omega,Int.add_comm]
 congr 1
 . refine Tb.Jh λ s hs=>?_
   have:rhS U room nums s=nums.getD s 0:=if_pos (by omega)
   rw [this,<- hw s (by omega),<- Xe,Q3]
 . have e3:∀ i,i<R.toNat->rhS U room nums (U.toNat+i)*T.share (U+R).toNat ks.length [k] (ws.length+(U.toNat+i))=if i=room.toNat then T.share (U+R).toNat ks.length [k] (ws.length+(U.toNat+i)) else 0:=λ i hi=>by
    unfold rhS
    rw [if_neg (by omega)]
    by_cases c:i=room.toNat
    . rw [if_pos (by omega),if_pos c,Um]
    . rw [if_neg (by omega),if_neg c,Q6]
   rw [Tb.Jh e3,Tb.J1 (a:=room.toNat) (by omega) (λ i _ h=>if_neg h),if_pos rfl,<- hh _ (by omega)]
theorem Jx5 {a b x n d u c q:Int}(ha:0<a) (hb:0<b) (h1:a*x=c) (h2:b*n=c) (h3:b*d=q) (h4:a*u=q):x*d=n*u:=by
 have e:(a*b)*(x*d)=(a*b)*(n*u):=by
  have e1:(a*b)*(x*d)=(a*x)*(b*d):=by rw [Xe,Xe,Uc b]
  have e2:(a*b)*(n*u)=(b*n)*(a*u):=by rw [Q3 a b,Xe,Xe,Uc a]
  rw [e1,e2,h1,h2,h3,h4]
 exact J7h (J5v (J41 ha hb)) e
theorem Jrc (t:ToldG R U ws room nums ks T) {k:Nat}(hk:k∈ks) (l:Tb.Last (U+R).toNat ks.length [k] T) {nd us ec:List Int}(hnd:nd=[J8 T ks.length (U+R).toNat k,T.q]) (hus:us=T.q::shL R U ws ks.length [k] T) (hec:ec=T.q::Jbl ws (U+R).toNat ks.length T) :
 MostK R U ws room nums ks k (qz nd (J8 T ks.length (U+R).toNat k)) (qz nd T.q) (((shL R U ws ks.length [k] T).take U.toNat).map (qz us)) (((shL R U ws ks.length [k] T).drop U.toNat).map (qz us)) (qz us T.q) ((Jbl ws (U+R).toNat ks.length T).map (qz ec)) (qz ec T.q):=by
 have r0:=t.ok.r0
 have p0:=t.ok.p0
 have a0:=t.sd.a0
 have a1:=t.sd.a1
 have kl:=t.lt k hk
 have q0:=t.kept.ok.qpos
 have sh:=t.shape
 have hT:=t.kept.ok
 have C:=Wx (U:=U) (ws:=ws) (U+R).toNat
 have un:∀ s,s<(U+R).toNat->Tb.inN (U+R).toNat ks.length T (ws.length+s):=λ s hs=>(t.fit.names (λ _=>rfl) _).mpr (.inl ⟨s,hs,rfl⟩)
 have qn:T.q∈nd:=by rw [hnd];simp
 have cn:J8 T ks.length (U+R).toNat k∈nd:=by rw [hnd];simp
 have qu:T.q∈us:=by rw [hus];simp
 have qe:T.q∈ec:=by rw [hec];simp
 have sl:=Jpr (R:=R) (U:=U) (ws:=ws) (n:=ks.length) (W:=[k]) (T:=T)
 have su:∀ s,s<(U+R).toNat->T.share (U+R).toNat ks.length [k] (ws.length+s)∈us:=λ s hs=>by rw [hus];exact Qj _ (Jws hs)
 have ce:∀ i,i<ws.length->J8 T ks.length (U+R).toNat i∈ec:=λ i hi=>by rw [hec];exact Qj _ (Jum hi)
 have qs:T.q.natAbs<2^4200:=by
  have h1:=sh.q1
  have:T.q.natAbs<2^4000:=by
   have h:((T.q.natAbs:Nat):Int)<((2^4000:Nat):Int):=by
    rw [J3c (by omega)]
    exact_mod_cast h1
   exact_mod_cast h
  exact Qy this (Z1 (by decide))
 have vs:∀ ν,(J8 T ks.length (U+R).toNat ν).natAbs<2^4200:=λ ν=>Qy (Jq9 sh t.kept.nm ν) (Z1 (by decide))
 have vn:∀ ν,0<=J8 T ks.length (U+R).toNat ν:=Jz6 t.kept.fe
 have ms:∀ x∈shL R U ws ks.length [k] T,0<=qz us x/\(qz us x).natAbs<2^4200:=λ x hx=>by
  obtain ⟨s,hs,rfl⟩:=Qq.mp hx
  have hs:=Q5.mp hs
  exact ⟨Jul qu (by omega) (Tb.Jts hT l (un s hs)),Jaw qu (by omega) (Qy (Jmc sh hT (un s hs)) (Z1 (by decide)))⟩
 have lw:(((((shL R U ws ks.length [k] T).take U.toNat).map (qz us)).length:Nat):Int)=U:=by rw [Qc,J5a,sl];omega
 have gw:∀ p:Nat,(p:Int)<U->((Zb us:Nat):Int)*(((shL R U ws ks.length [k] T).take U.toNat).map (qz us)).getD p 0=T.share (U+R).toNat ks.length [k] (ws.length+p):=λ p hp=>by
  rw [Jab (by rw [J5a,sl];omega),Qi,List.getElem?_take,if_pos (by omega),<- Qi,Jmi (by omega)]
  exact Jbb (su _ (by omega))
 have gh:∀ a:Nat,(a:Int)<R->((Zb us:Nat):Int)*(((shL R U ws ks.length [k] T).drop U.toNat).map (qz us)).getD a 0=T.share (U+R).toNat ks.length [k] (ws.length+(U.toNat+a)):=λ a ha=>by
  rw [Jab (by rw [J5g,sl];omega),Qi,J82,<- Qi,Jmi (by omega)]
  exact Jbb (su _ (by omega))
 have gu:(0:Int)<((Zb us:Nat):Int):=by have:=Ja7 qu (by omega);omega
 have ge:(0:Int)<((Zb ec:Nat):Int):=by have:=Ja7 qe (by omega);omega
 have gn:(0:Int)<((Zb nd:Nat):Int):=by have:=Ja7 qn (by omega);omega
 have mu:=Jbb qu
 have mn:=Jbb cn
 have md:=Jbb qn
 have me:=Jbb qe
 have fl:∀ i∈ks,Tb.ind [k] i T.q<=((Zb us:Nat):Int)*Z5 ws (((shL R U ws ks.length [k] T).take U.toNat).map (qz us)) (((shL R U ws ks.length [k] T).drop U.toNat).map (qz us)) (i:Int):=λ i hi=>by
  rw [Juc t.ok (S:=λ s=>T.share (U+R).toNat ks.length [k] (ws.length+s)) (t.lt i hi) lw gw gh]
  exact Tb.Jq0 C hT l un (λ s _=>.inl (by rw [Qu];omega)) ((t.fit.names (λ _=>rfl) _).mpr (.inr hi))
 have wo:=Jrb t kl lw gw gh
 have Fg:∀ i,i<ws.length->((Zb ec:Nat):Int)*((Jbl ws (U+R).toNat ks.length T).map (qz ec)).getD i 0=J8 T ks.length (U+R).toNat i:=λ i hi=>by
  rw [Jab (by rw [Jef];exact hi),Jjc hi]
  exact Jbb (ce i hi)
 have row:∀ r,r<(U+R).toNat->0<=qz ec T.q*rhS U room nums r-Tb.Jk ws.length λ i=>((Jbl ws (U+R).toNat ks.length T).map (qz ec)).getD i 0*Zc U ws i r:=λ r hr=>by
  have e:=Jra t hr
  have h0:=vn (ws.length+r)
  have e2:((Zb ec:Nat):Int)*(qz ec T.q*rhS U room nums r-Tb.Jk ws.length λ i=>((Jbl ws (U+R).toNat ks.length T).map (qz ec)).getD i 0*Zc U ws i r)=J8 T ks.length (U+R).toNat (ws.length+r):=by
   rw [e,J4z,<- Xe,me,<- Tb.Yn]
   congr 1
   exact Tb.Jh λ i hi=>by rw [<- Xe,Fg i hi]
  rw [<- e2] at h0
  exact J40 h0 ge
 have lF:((Jbl ws (U+R).toNat ks.length T).map (qz ec)).length=ws.length:=by rw [Qc,Jef]
 refine ⟨lw,by rw [Qc,J5g,sl];omega,λ x hx=>?_,λ x hx=>?_,λ x hx=>?_,λ x hx=>?_,λ i hi=>?_,?_,⟨Jof qu q0,Jaw qu (by omega) qs⟩,⟨Jof qn q0,Jaw qn (by omega) qs⟩,⟨Jul qn (by omega) (vn k),Jaw qn (by omega) (vs k)⟩,by rw [hnd];exact Jz7 q0,?_,⟨Jof qe q0,Jaw qe (by omega) qs⟩,lF,λ x hx=>?_,λ x hx=>?_,λ i hi=>?_,λ r hr=>?_,λ p hp=>?_,?_⟩
 . obtain ⟨y,hy,rfl⟩:=Qq.mp hx
   exact (ms y (J9t hy)).1
 . obtain ⟨y,hy,rfl⟩:=Qq.mp hx
   exact (ms y (J9t hy)).2
 . obtain ⟨y,hy,rfl⟩:=Qq.mp hx
   exact (ms y (J9u hy)).1
 . obtain ⟨y,hy,rfl⟩:=Qq.mp hx
   exact (ms y (J9u hy)).2
 . have h1:=fl i hi
   have i0:0<=Tb.ind [k] i T.q:=by unfold Tb.ind;split<;>omega
   exact J40 (J50 i0 h1) gu
 . have h1:=fl k hk
   unfold Tb.ind at h1
   rw [if_pos (Qu.mpr rfl),<- mu] at h1
   exact Int.le_of_mul_le_mul_left h1 gu
 . exact Jx5 gu gn wo mn md mu
 . obtain ⟨y,hy,rfl⟩:=Qq.mp hx
   obtain ⟨s,_,rfl⟩:=Qq.mp hy
   exact Jul qe (by omega) (vn s)
 . obtain ⟨y,hy,rfl⟩:=Qq.mp hx
   obtain ⟨s,_,rfl⟩:=Qq.mp hy
   exact Jaw qe (by omega) (vs s)
 . have il:i<ws.length:=J3x λ z=>hi (by rw [Qi,Qx (by omega)];rfl)
   refine J3x λ z=>hi ?_
   have no:¬ Tb.inN (U+R).toNat ks.length T i:=λ y=>by
    rcases (t.fit.names (λ _=>rfl) i).mp y with ⟨s,_,e⟩ | h
    . omega
    . exact z h
   have v0:=Jkt (T:=T) (n:=ks.length) (m:=(U+R).toNat) (ν:=i) λ j hj y=>no (.inl ⟨j,hj,y⟩)
   rw [Jab (by rw [Jef];exact il),Jjc il,v0]
   exact J9q _
 . have h:=row (U.toNat+r) (by omega)
   have e:Tb.Jk ws.length (λ i=>((Jbl ws (U+R).toNat ks.length T).map (qz ec)).getD i 0*Zc U ws i (U.toNat+r)) = -(Vu ws ((Jbl ws (U+R).toNat ks.length T).map (qz ec)) ws.length (r:Nat)):=by
    rw [Jd0,<- Yk,<- Tb.Za]
    refine Tb.Jh λ i hi=>?_
    rw [Je3 hi (by omega)]
    unfold Jfv
    rw [<- J3f,J7n]
   rw [e] at h
   have e2:qz ec T.q*rhS U room nums (U.toNat+r)=if (r:Int)=room then qz ec T.q else 0:=by
    unfold rhS
    rw [if_neg (by omega)]
    by_cases c:(r:Int)=room
    . rw [if_pos (by omega),if_pos c,J3j]
    . rw [if_neg (by omega),if_neg c,Xc]
   rw [e2] at h
   generalize (if (r:Int)=room then qz ec T.q else 0)=z at h ⊢
   omega
 . have h:=row p (by omega)
   have e:Tb.Jk ws.length (λ i=>((Jbl ws (U+R).toNat ks.length T).map (qz ec)).getD i 0*Zc U ws i p) = -(Jet ws ((Jbl ws (U+R).toNat ks.length T).map (qz ec)) p).sum:=by
    unfold Jet
    rw [<- Yk,<- Tb.Za]
    refine Tb.Jh λ i hi=>?_
    rw [Jhx hi hp,J3f]
   rw [e] at h
   have:rhS U room nums p=nums.getD p 0:=if_pos hp
   rw [this] at h
   omega
 . exact Jx5 ge gn (Fg k kl) mn md me
end
end My
namespace L2
open PySem
theorem Jh2 {X:Cx}{o:Expr}{n:Str}{es:List Expr}{t:TA}{te:TE}{pos:Pos}(ha:PEs X (.Attribute o n pos) te) (hr:PAs X es t):PAs X (.Attribute o n pos::es) (Yo te t):=⟨Vm ha.out hr.out⟩
end L2
namespace My
open L2
noncomputable def Z2 (R room:Int) (ws:List Way):List Nat:=(Qg ws.length).filter λ k=>Pw (Jct ws (nI (Qg ws.length))) R.toNat room.toNat (Jj ws (k:Int)).a.toNat
theorem Jpx {R room:Int}{ws:List Way}:∀ k∈Z2 R room ws,k<ws.length:=λ k h=>Q5.mp (Xw.mp h).1
theorem Jwy {R room:Int}{ws:List Way}:(Z2 R room ws).Nodup:=List.Nodup.sublist List.filter_sublist J9v
theorem Jun {R room:Int}{ws:List Way}:(Z2 R room ws).length<=ws.length:=by grind [Z2]
def Je5:GSn:=λ as n Q=>∃ (R U:Int) (ws:List Way) (room:Int),as=[.d (J3 R U ws),.d (.int room)]/\BookOk R U ws/\(0<=room/\room<R)/\Q ((Z2 R room ws).map Ju) n
noncomputable def Jx6 (R U:Int) (ws:List Way):Yal:=Jcb 0 1 (Qo U.toNat 0) (Qo R.toNat 0) 1 (Qo ws.length 0) 1
def Jh3:GSp:=λ as n Q=>∃ (R U:Int) (ws:List Way),as=[.d (J3 R U ws)]/\BookOk R U ws/\Q (Jx6 R U ws) n
def Jh4:GSn:=λ as n Q=>∃ (R U:Int) (ws:List Way) (room:Int) (nums:List Int),as=[.d (J3 R U ws),.d (Z0 room nums)]/\BookOk R U ws/\SdOk R U room nums/\Q (((Qg (U+R).toNat).map (rhS U room nums)).map .int) n
def Jku (C:Addr):Sp:=λ vs H Q _=>∃ (ex:List Addr) (x dx:Addr) (R U:Int) (ws:List Way) (room:Int) (nums:List Int) (ks:List Nat) (bv sv tv:V),vs=[.ref x,bv,sv,tv]/\H x=some (.ins C dx [])/\Alc ex H/\x∉ex/\Rep (x::ex) H (J3 R U ws) bv/\Rep (x::ex) H (.list (ks.map Ju)) sv/\Rep (x::ex) H (Z0 room nums) tv/\BookOk R U ws/\SdOk R U room nums/\(∀ k∈ks,k<ws.length)/\ks.length<=100 /\
 ∀ H' fa ba,H fa=none->H ba=none->TabH C ex x fa ba (Jkp R U ws) (Jcu R U ws room nums ks) H'->Kp [x] H H'->Q .non H'
def Juo (C:Addr):GSn:=λ as n' Q=>∃ (T:Tb.Tab) (m n nw nr be:Nat),as=[.d (Zz C ⟨(nw:Int),(nr:Int),(be:Int)⟩ T)]/\Shape m n T/\Names m n be T/\nw<=be/\be<=1000/\Q (((Qg nw).map (J8 T n m)).map .int) n'
def Jbc (C:Addr):GSp:=λ as n' Q=>∃ (R U:Int) (ws:List Way) (room:Int) (nums:List Int) (ks:List Nat) (k:Nat) (T:Tb.Tab),as=[.d (Zz C (Jkp R U ws) T),.d (Ju k)]/\ToldG R U ws room nums ks T/\k∈ks/\Tb.Last (U+R).toNat ks.length [k] T/\∀ n d wt ht u F e,MostK R U ws room nums ks k n d wt ht u F e->Q (Jcb n d wt ht u F e) n'
noncomputable def Jx7 (cs:List Int):Yal:=.tuple [.str "none",.tuple (cs.map .int)]
theorem Jz8 {S:Src}{ex:List Addr}{env:List Vl}{σ:L2.St}{H:Hp}{n i:Nat}{te:TE}{r:TS}{D:Ends}{gn:GN} [N:NV te gn] (P:List Yal->Nat->Prop) (E:Ev S ex env σ H n) (h:gn env n P) (q:∀ ds n' a vs H',P ds n'->Y0 S n' H H'->H a=none->H' a=some (.lst vs)->vs.length<=sizeLine->Reps (a::ex) H' ds vs->r D (σ.set i (some (.ref a))) H'):Jae (Jdl te (Ba i)) r D σ H:=
 show te σ H (λ v H2=>r D (σ.set i (some v)) H2) from N.nv E h q
theorem Jup {ex:List Addr}{H:Hp}{ks:List Nat}{vs:List V}(r:Reps ex H (ks.map Ju) vs):vs=ks.map Y5:=by
 have:=Reps.ints_inv (ns:=ks.map λ k:Nat=>(k:Int)) (vs:=vs) (by rw [Q0];exact r)
 rw [this,Q0];rfl
theorem Jmj {R U:Int}{ws:List Way}{room:Int}{nums:List Int}{ks:List Nat}{k:Nat}{m d:Int}{wt ht:List Int}{u:Int}{F:List Int}{e:Int}(M:MostK R U ws room nums ks k m d wt ht u F e):(Zi wt ht room nums).natAbs<2^9000:=by
 have h1:=congrArg Int.natAbs M.wo
 rw [J3v,J3v] at h1
 have h2:(Zi wt ht room nums).natAbs<=(Zi wt ht room nums).natAbs*d.natAbs:=Nat.le_mul_of_pos_right _ (by have:=M.d1.1;omega)
 have h3:m.natAbs*u.natAbs<=2^4200*2^4200:=J4x (Ue M.n0.2) (Ue M.u1.2)
 rw [<- J7m] at h3
 have h4:2^(4200+4200)<2^9000:=Nat.pow_lt_pow_right (by decide) (by decide)
 exact Us (Xj h2 (by rw [h1];exact h3)) h4
section
variable {R U:Int}{ws:List Way}{ks:List Nat}
theorem Jmk (ok:BookOk R U ws) {wt ht cs:List Int}(lw:(wt.length:Int)=U):Tb.Jk ws.length (λ i=>cs.getD i 0*Z5 ws wt ht (i:Nat))=(Tb.Jk R.toNat λ r=>ht.getD r 0 * -(Vu ws cs ws.length (r:Nat)))-Tb.Jk U.toNat λ p=>wt.getD p 0*(Jet ws cs p).sum:=by
 have p0:=ok.p0
 have r0:=ok.r0
 have e:∀ i,i<ws.length->cs.getD i 0*Z5 ws wt ht (i:Nat)=Tb.Jk R.toNat (λ r=>ht.getD r 0*(cs.getD i 0*(Jfv (Jj ws (i:Nat)).a (r:Nat)-Jfv (Jj ws (i:Nat)).b (r:Nat)))) + -Tb.Jk U.toNat (λ p=>wt.getD p 0*(cs.getD i 0*(Jj ws (i:Nat)).g.getD p 0)):=λ i hi=>by
  have wok:=ok.ways _ (Yp (k:=(i:Int)) (Xi i) (by omega))
  have a0:=wok.a0
  have a1:=wok.a1
  have b0:=wok.b0
  have b1:=wok.b1
  have e1:Tb.Jk R.toNat (λ r=>ht.getD r 0*(cs.getD i 0*(Jfv (Jj ws (i:Nat)).a (r:Nat)-Jfv (Jj ws (i:Nat)).b (r:Nat))))=cs.getD i 0*(ht.getD (Jj ws (i:Nat)).a.toNat 0-ht.getD (Jj ws (i:Nat)).b.toNat 0):=by
   have e2:∀ r,r<R.toNat->ht.getD r 0*(cs.getD i 0*(Jfv (Jj ws (i:Nat)).a (r:Nat)-Jfv (Jj ws (i:Nat)).b (r:Nat)))=cs.getD i 0*((if r=(Jj ws (i:Nat)).a.toNat then ht.getD r 0 else 0) + -(if r=(Jj ws (i:Nat)).b.toNat then ht.getD r 0 else 0)):=λ r hr=>by
    rw [Uc]
    congr 1
    unfold Jfv
    have h1:((Jj ws (i:Nat)).a=((r:Nat):Int))↔r=(Jj ws (i:Nat)).a.toNat:=by omega
    have h2:((Jj ws (i:Nat)).b=((r:Nat):Int))↔r=(Jj ws (i:Nat)).b.toNat:=by omega
    by_cases c1:r=(Jj ws (i:Nat)).a.toNat<;>by_cases c2:r=(Jj ws (i:Nat)).b.toNat
    . rw [if_pos (h1.mpr c1),if_pos (h2.mpr c2),if_pos c1,if_pos c2];omega
    . rw [if_pos (h1.mpr c1),if_neg (mt h2.mp c2),if_pos c1,if_neg c2];omega
    . rw [if_neg (mt h1.mp c1),if_pos (h2.mpr c2),if_neg c1,if_pos c2];omega
    . rw [if_neg (mt h1.mp c1),if_neg (mt h2.mp c2),if_neg c1,if_neg c2];omega
   rw [Tb.Jh e2,Tb.Yn,Tb.Zk,Tb.Za,Tb.J1 (a:=(Jj ws (i:Nat)).a.toNat) (by omega) (λ r _ h=>if_neg h),Tb.J1 (a:=(Jj ws (i:Nat)).b.toNat) (by omega) (λ r _ h=>if_neg h),if_pos rfl,if_pos rfl]
   rfl
  have e3:Tb.Jk U.toNat (λ p=>wt.getD p 0*(cs.getD i 0*(Jj ws (i:Nat)).g.getD p 0))=cs.getD i 0*Bz wt (Jj ws (i:Nat)).g wt.length:=by
   unfold Bz
   rw [<- Yk,<- Tb.Yn,show wt.length=U.toNat by omega]
   exact Tb.Jh λ p _=>Uc _ _ _
  rw [e1,e3]
  unfold Z5
  rw [J4z]
  omega
 rw [Tb.Jh e,Tb.Zk,Tb.Za,Tb.Jat ws.length R.toNat,Tb.Jat ws.length U.toNat,<- Int.sub_eq_add_neg]
 congr 1
 . refine Tb.Jh λ r hr=>?_
   rw [Tb.Yn,Jd0,<- Yk,<- Tb.Za]
   congr 1
   refine Tb.Jh λ i _=>?_
   rw [<- J3f,J7n]
 . refine Tb.Jh λ p _=>?_
   rw [Tb.Yn]
   congr 1
   unfold Jet
   exact Yk _ _
theorem Jpy {n:Nat}{f g:Nat->Int}(h:∀ i,i<n->f i<=g i):Tb.Jk n f<=Tb.Jk n g:=by
 induction n with
 | zero=>exact X6 _
 | succ n ih=>
  have:=ih λ i hi=>h i (by omega)
  have:=h n (by omega)
  show Tb.Jk n f+f n<=Tb.Jk n g+g n
  omega
theorem Jpz (ok:BookOk R U ws) {room:Int}{nums wt ht F:List Int}{e:Int}(lw:(wt.length:Int)=U) (w0:∀ x∈wt,0<=x) (h0:∀ x∈ht,0<=x) (a0:0<=room) (a1:room<R)
 (ou:∀ r:Nat,(r:Int)<R->-(Vu ws F ws.length (r:Nat))-(if (r:Int)=room then e else 0)<=0) (nu:∀ p:Nat,(p:Int)<U->0<=e*nums.getD p 0+(Jet ws F p).sum) :
 Tb.Jk ws.length (λ i=>F.getD i 0*Z5 ws wt ht (i:Nat))<=e*Zi wt ht room nums:=by
 have p0:=ok.p0
 have r0:=ok.r0
 rw [Jmk ok lw]
 have s1:(Tb.Jk R.toNat λ r=>ht.getD r 0 * -(Vu ws F ws.length (r:Nat)))<=e*ht.getD room.toNat 0:=by
  refine J50 (Jpy (g:=λ r=>if r=room.toNat then e*ht.getD r 0 else 0) λ r hr=>?_) ?_
  . have o:=ou r (by omega)
    have hn:=Vo h0 r
    by_cases c:r=room.toNat
    . rw [if_pos c]
      rw [if_pos (by omega)] at o
      rw [Q3 e]
      exact J51 (by omega) hn
    . rw [if_neg c]
      rw [if_neg (by omega)] at o
      exact J9r hn (by omega)
  . rw [Tb.J1 (a:=room.toNat) (by omega) (λ r _ h=>if_neg h),if_pos rfl]
    exact X6 _
 have s2:-(Tb.Jk U.toNat λ p=>wt.getD p 0*(Jet ws F p).sum)<=e*Bz wt nums wt.length:=by
  unfold Bz
  rw [<- Yk,<- Tb.Yn,<- Tb.Za,show wt.length=U.toNat by omega]
  refine Jpy λ p hp=>?_
  have n:=nu p (by omega)
  have wn:=Vo w0 p
  rw [<- J3f,Uc]
  exact J51 (by omega) wn
 unfold Zi
 rw [U8]
 omega
end
section
variable {R U:Int}{ws:List Way}
inductive GoneS (ws:List Way) (s0:St'):List Nat->St'->Prop
 | nil:GoneS ws s0 [] s0
 | snoc {ns:List Nat} {s:St'} {k:Nat} (h:GoneS ws s0 ns s) (hk:((k:Nat):Int)∈Vt ws s):GoneS ws s0 (ns++[k]) (B0 ws s (k:Int))
theorem Jh5 (ok:BookOk R U ws) {s:St'}(hl:(s.2.length:Int)=U) {k:Nat}(hc:((k:Nat):Int)∈Vt ws s) (wt ht:List Int):Zi wt ht (B0 ws s (k:Int)).1 (B0 ws s (k:Int)).2=Zi wt ht s.1 s.2-Z5 ws wt ht (k:Int):=by
 obtain ⟨i,e,hi,ha,hp⟩:=Jhz hc
 have e:i=k:=by omega
 subst e
 have wok:=ok.ways _ (Yp (k:=(i:Int)) (Xi i) (by omega))
 have gl:=wok.len
 have l2:s.2.length=(Jj ws (i:Int)).g.length:=by omega
 show Zi wt ht (Jj ws (i:Int)).b (Jbk s.2 (Jj ws (i:Int)).g)=_
 unfold Zi Z5
 have e:Bz wt (Jbk s.2 (Jj ws (i:Int)).g) wt.length=Bz wt s.2 wt.length+Bz wt (Jj ws (i:Int)).g wt.length:=by
  unfold Bz
  rw [<- Yk,<- Yk,<- Yk,<- Tb.Zk]
  exact Tb.Jh λ i _=>by rw [Jue l2,U8]
 rw [e,<- ha]
 omega
noncomputable def esA (ws:List Way):List (Nat×Nat):=Jct ws (nI (Qg ws.length))
theorem Jz9 (ok:BookOk R U ws):∀ e∈esA ws,e.1<R.toNat/\e.2<R.toNat:=λ e he=>by
 unfold esA Jct at he
 obtain ⟨i,hi,rfl⟩:=Qq.mp he
 obtain ⟨j,hj,rfl⟩:=Qq.mp hi
 have:=Q5.mp hj
 have wok:=ok.ways _ (Yp (k:=(j:Int)) (Xi j) (by omega))
 have a0:=wok.a0
 have a1:=wok.a1
 have b0:=wok.b0
 have b1:=wok.b1
 exact ⟨by omega,by omega⟩
theorem Jp0 (ok:BookOk R U ws) {room:Int}{k:Nat}:k∈Z2 R room ws↔k<ws.length/\Rt (esA ws) room.toNat (Jj ws (k:Int)).a.toNat:=by
 unfold Z2
 rw [Xw,Q5,show Jct ws (nI (Qg ws.length))=esA ws from rfl,Jy2 (Jz9 ok)]
theorem J0a {k:Nat}(h:k<ws.length):((Jj ws (k:Int)).a.toNat,(Jj ws (k:Int)).b.toNat)∈esA ws:=Qq.mpr ⟨(k:Int),Qq.mpr ⟨k,Q5.mpr h,rfl⟩,rfl⟩
structure WalkO (R U:Int) (ws:List Way) (s0:St') (ns:List Nat) (s:St'):Prop where
 len:(s.2.length:Int)=U
 a0:0<=s.1
 a1:s.1<R
 nn:∀ x∈s.2,0<=x
 bd:∀ x∈s.2,x<=1000+99*(ns.length:Int)
 rt:Rt (esA ws) s0.1.toNat s.1.toNat
 met:∀ k∈ns,k∈Z2 R s0.1 ws
theorem WalkO.sd {s0 s:St'}{ns:List Nat}(w:WalkO R U ws s0 ns s) (h:ns.length<=1000):SdOk R U s.1 s.2:=⟨w.a0,w.a1,w.len,w.nn,λ x hx=>by
 have:=w.bd x hx
 have e:(100000:Int)<=10^99:=by decide
 omega⟩
theorem V5 (ok:BookOk R U ws) {s0 s:St'}{ns:List Nat}(w:WalkO R U ws s0 ns s) {k:Nat}(hc:((k:Nat):Int)∈Vt ws s):WalkO R U ws s0 (ns++[k]) (B0 ws s (k:Int)):=by
 obtain ⟨i,e,hi,ha,hp⟩:=Jhz hc
 have e:i=k:=by omega
 subst e
 have wok:=ok.ways _ (Yp (k:=(i:Int)) (Xi i) (by omega))
 have gl:=wok.len
 have hl:=w.len
 refine ⟨by show ((Jbk s.2 _).length:Int)=U;rw [Jll];omega,wok.b0,wok.b1,hp,λ x hx=>?_,?_,λ j hj=>?_⟩
 . obtain ⟨p,hp⟩:=Uh.mp hx
   have hp:(Jbk s.2 (Jj ws (i:Int)).g)[p]? = some x:=hp
   unfold Jbk at hp
   rw [J3u] at hp
   split at hp
   . rename_i a b ea eb
     cases hp
     have h1:=w.bd a (Xm ea)
     have h2:=wok.small b (Xm eb)
     rw [Xn,U0]
     omega
   . cases hp
 . have:=w.rt
   rw [<- ha] at this
   exact .step this (J0a hi)
 . rcases Xh.mp hj with hj | hj
   . exact w.met j hj
   . rw [Qu.mp hj,Jp0 ok]
     exact ⟨hi,by rw [ha];exact w.rt⟩
theorem Jkv (ok:BookOk R U ws) {s0:St'}(w0:WalkO R U ws s0 [] s0) {ns:List Nat}{s:St'}(g:GoneS ws s0 ns s):WalkO R U ws s0 ns s:=by
 induction g with
 | nil=>exact w0
 | snoc _ hk ih=>exact V5 ok ih hk
theorem Jkw (ok:BookOk R U ws) {s0 s:St'}{ns:List Nat}(w:WalkO R U ws s0 ns s) {k:Nat}(h:k∈Z2 R s.1 ws):k∈Z2 R s0.1 ws:=by
 rw [Jp0 ok] at h ⊢
 exact ⟨h.1,w.rt.trans h.2⟩
theorem Juq {s:St'}{wt ht:List Int}(nn:∀ x∈s.2,0<=x) (w0:∀ x∈wt,0<=x) (h0:∀ x∈ht,0<=x):0<=Zi wt ht s.1 s.2:=by
 unfold Zi Bz
 have h1:=Vo h0 s.1.toNat
 rw [<- Yk]
 have h2:0<=Tb.Jk wt.length λ i=>wt.getD i 0*s.2.getD i 0:=Ja9 λ i _=>J3y (Vo w0 i) (Vo nn i)
 omega
theorem Jur (ok:BookOk R U ws) {s0:St'}(w0:WalkO R U ws s0 [] s0) {k:Nat}{n d:Int}{wt ht:List Int}{u:Int}{F:List Int}{e:Int}(M:MostK R U ws s0.1 s0.2 (Z2 R s0.1 ws) k n d wt ht u F e) {ns:List Nat}{s:St'}(g:GoneS ws s0 ns s):(ns.count k:Int)*u+Zi wt ht s.1 s.2<=Zi wt ht s0.1 s0.2:=by
 induction g with
 | nil=>show ((0:Nat):Int)*u+_<=_;omega
 | snoc g hk ih=>
  rename_i ns s j
  have w:=Jkv ok w0 g
  have w':=V5 ok w hk
  rw [Jh5 ok w.len hk,List.count_append]
  have jm:=w'.met j (by simp)
  by_cases c:j=k
  . subst c
    have fl:=M.fl
    rw [show J7s j [j]=1 by simp,Int.natCast_add,J5t]
    omega
  . have kp:=M.kp j jm
    rw [show J7s k [j]=0 by simp [c],Nat.add_zero]
    omega
theorem Jml (ok:BookOk R U ws) {s0:St'}(w0:WalkO R U ws s0 [] s0) {k:Nat}{n d:Int}{wt ht:List Int}{u:Int}{F:List Int}{e:Int}(M:MostK R U ws s0.1 s0.2 (Z2 R s0.1 ws) k n d wt ht u F e) {ns:List Nat}{s:St'}(g:GoneS ws s0 ns s):(ns.count k:Int)*d<=n:=by
 have h1:=Jur ok w0 M g
 have h2:=Juq (Jkv ok w0 g).nn M.w0 M.h0
 have h3:(ns.count k:Int)*u<=Zi wt ht s0.1 s0.2:=by omega
 have h4:=J4o h3 (show 0<=d by have:=M.d1.1;omega)
 rw [M.wo] at h4
 have h5:((ns.count k:Int)*d)*u<=n*u:=by rw [Int.mul_right_comm];exact h4
 exact J7r h5 (by have:=M.u1.1;omega)
theorem Jmm (ok:BookOk R U ws) {ks:List Nat}{wt ht cs:List Int}(lw:(wt.length:Int)=U) (nn:∀ x∈wt,0<=x) (kept:∀ k∈ks,0<=Z5 ws wt ht (k:Int)) (ro:RoundOk R ws cs) (sub:∀ k:Nat,cs.getD k 0≠0->k∈ks) (gn:∀ p:Nat,(p:Int)<U->0<=(Jet ws cs p).sum) {k:Nat}(kl:k<ws.length) (hk:0<cs.getD k 0):Z5 ws wt ht (k:Int)<=0:=by
 have cn:∀ i,0<=cs.getD i 0:=λ i=>Vo ro.nn i
 have tn:∀ i,i<ws.length->0<=cs.getD i 0*Z5 ws wt ht (i:Nat):=λ i hi=>by
  by_cases z:cs.getD i 0=0
  . rw [z,Q6];exact X6 _
  . exact J3y (cn i) (kept i (sub i z))
 have m:=Jmk (ht:=ht) (cs:=cs) ok lw
 rw [Zl (n:=R.toNat) (f:=λ r=>ht.getD r 0 * -(Vu ws cs ws.length (r:Nat))) λ r hr=>by show ht.getD r 0 * -(Vu ws cs ws.length (r:Nat))=0;rw [ro.bal r hr,Int.neg_zero,Xc]] at m
 have s2:0<=Tb.Jk U.toNat λ p=>wt.getD p 0*(Jet ws cs p).sum:=Ja9 λ p hp=>J3y (Vo nn p) (gn p (by omega))
 have h:=Jba kl tn
 exact J3x λ z=>by
  have:=J41 hk (show 0<Z5 ws wt ht (k:Int) by omega)
  omega
theorem Jus (ok:BookOk R U ws) {s0 s:St'}{ns:List Nat}(w:WalkO R U ws s0 ns s) {k:Nat}{n d:Int}{wt ht:List Int}{u:Int}{F:List Int}{e:Int}(M:MostK R U ws s0.1 s0.2 (Z2 R s0.1 ws) k n d wt ht u F e) {cs:List Int}(rk:RoundK R U ws (Z2 R s.1 ws) cs) (hk:1<=cs.getD k 0):False:=by
 have kl:k<ws.length:=by
  rcases Uw k ws.length with h | h
  . exact h
  . rw [Qi,Qx (by rw [rk.ro.len];exact h)] at hk
    exact absurd hk (by decide)
 have:=Jmm ok M.lw M.w0 M.kp rk.ro (λ j hj=>Jkw ok w (rk.sub j hj)) rk.gn kl (by omega)
 have h1:=M.fl
 have h2:=M.u1.1
 omega
theorem Jut (ok:BookOk R U ws) {s0:St'}(w0:WalkO R U ws s0 [] s0) {j:Nat}(hj:((j:Nat):Int)∈Vt ws s0) {k:Nat}{n d:Int}{wt ht:List Int}{u:Int}{F:List Int}{e:Int}(M:MostK R U ws s0.1 s0.2 (Z2 R s0.1 ws) k n d wt ht u F e)
 {n' d':Int} {wt' ht':List Int} {u':Int} {F':List Int} {e':Int} (M':MostK R U ws (B0 ws s0 (j:Int)).1 (B0 ws s0 (j:Int)).2 (Z2 R (B0 ws s0 (j:Int)).1 ws) k n' d' wt' ht' u' F' e') (kl:k<ws.length):(n'+(if j=k then 1 else 0)*d')*d<=n*d':=by
 have w:=V5 ok w0 hj
 have f:=Jpz ok (nums:=(B0 ws s0 (j:Int)).2) (F:=F') (e:=e') M.lw M.w0 M.h0 w.a0 w.a1 M'.ou M'.nu
 rw [Jh5 ok w0.len hj] at f
 have jm:=w.met j (by simp)
 have lb:F'.getD k 0*u<=Tb.Jk ws.length (λ i=>F'.getD i 0*Z5 ws wt ht (i:Nat)):=by
  have tn:∀ i,i<ws.length->0<=F'.getD i 0*Z5 ws wt ht (i:Nat):=λ i hi=>by
   by_cases z:F'.getD i 0=0
   . rw [z,Q6];exact X6 _
   . exact J3y (Vo M'.F0 i) (M.kp i (Jkw ok w (M'.sub i z)))
  refine J50 ?_ (Jba kl tn)
  exact J51 M.fl (Vo M'.F0 k)
 have Jv6:(if j=k then 1 else 0)*u<=Z5 ws wt ht (j:Int):=by
  by_cases c:j=k
  . rw [if_pos c,Um,c];exact M.fl
  . rw [if_neg c,Q6];exact M.kp j jm
 have d1:=M.d1.1
 have u1:=M.u1.1
 have e1:=M'.e1.1
 have d2:=M'.d1.1
 generalize (if j=k then (1:Int) else 0)=l at Jv6 ⊢
 have wo:=M.wo
 generalize Zi wt ht s0.1 s0.2=W at f wo
 have fk:=M'.fk
 generalize F'.getD k 0=x at lb fk
 generalize Z5 ws wt ht (j:Int)=fj at f Jv6
 have h1:x*u+l*u*e'<=e'*W:=by
  have h2:=J4o Jv6 (show 0<=e' by omega)
  rw [J4z,Q3 e' fj] at f
  omega
 have k1:((n'+l*d')*d)*(e'*u)=(d'*d)*(x*u+l*u*e'):=by
  rw [J5t,J5t,U8]
  have a1:n'*d*(e'*u)=(n'*e')*(d*u):=by ac_rfl
  rw [a1,<- fk]
  congr 1<;>ac_rfl
 have k2:(n*d')*(e'*u)=(d'*d)*(e'*W):=by
  have a1:(d'*d)*(e'*W)=(W*d)*(d'*e'):=by ac_rfl
  rw [a1,wo];ac_rfl
 have k3:=J51 h1 (show 0<=d'*d from J3y (by omega) (by omega))
 rw [<- k1,<- k2] at k3
 exact J7r k3 (J41 (by omega) (by omega))
end
end My
namespace L2
open PySem
theorem Wf {X:Cx}{K':Qb}(hK:X.K=K'):V1 X (.builtin "isinstance") (λ xs H Q=>∃ ea C0 c u cd b,xs=[.ref ea,c]/\H ea=some (.ext (OfC ea C0))/\ExC K' C0/\J3s K' C0=some cd/\((∃ C,c = .ref C/\u=Qw C)\/(∃ T,c = .ty T/\u=U9 T))/\Uq K' (.ref C0) u=some b/\Q (.bl b) H):=hK▸Jsn
end L2
namespace My
open L2
def Jkx:GSp:=λ as n Q=>∃ (R U:Int) (ws:List Way) (k:Int),as=[.d (J3 R U ws),.d (.int k)]/\Q (.bool (decide (0<=k)&&decide (k<=(ws.length:Int)-1))) n
theorem Juu:∀ (vs:List V) (H:Hp) (Q:VK) (E:XK),Jn Jg5 vs H Q E->Jn Jkx vs H Q E:=λ vs H Q E h=>by
 obtain ⟨S,ex,as,n,P,r,hc,al,iv,⟨R,U,ws,k,rfl,hk,q⟩,kk⟩:=h
 refine ⟨S,ex,_,n,P,r,hc,al,iv,⟨R,U,ws,k,rfl,?_⟩,kk⟩
 rw [decide_eq_true hk.1,decide_eq_true (by omega)]
 exact q
def Jky (z:Er):GSx:=λ as n P X=>∃ (R U:Int) (ws:List Way) (room:Int) (nums:List Int) (k:Int),as=[.d (J3 R U ws),.d (Z0 room nums),.d (.int k)]/\BookOk R U ws/\SdOk R U room nums /\
 (∀ j:Nat,k=(j:Int)->j<ws.length->(j∉Z2 R room ws->P (Jx6 R U ws) n)/\(j∈Z2 R room ws->(∀ m d wt ht u F e,MostK R U ws room nums (Z2 R room ws) j m d wt ht u F e->P (Jcb m d wt ht u F e) n)/\∀ cs,RoundK R U ws (Z2 R room ws) cs->1<=cs.getD j 0->P (Jx7 cs) n)) /\
 (¬(0<=k/\k<ws.length)->X z.way n)
noncomputable def Jp1 (R U:Int) (ws:List Way) (room:Int) (nums:List Int) (k:Int):Yal:=.tuple [J3 R U ws,Z0 room nums,.int k]
def Jh6 (z:Er):GSx:=λ as n _ X=>∃ (word:Str) (R U:Int) (ws:List Way) (room:Int) (nums:List Int) (k:Int),as=[.d (.str word),.d (Jp1 R U ws room nums k)]/\BookOk R U ws/\SdOk R U room nums/\¬(0<=k/\k<ws.length)/\X z.way n
def Jog:GSp:=λ as n Q=>∃ (word:Str) (R U:Int) (ws:List Way) (room:Int) (nums:List Int) (k:Int),as=[.d (.str word),.d (Jp1 R U ws room nums k)]/\BookOk R U ws/\SdOk R U room nums/\¬(0<=k/\k<ws.length)/\Q (.str "noway") n
abbrev J15 (E:XK) (sp:GSx) (ga:GA):GS:=λ G env n=>ga env n λ as n1=>sp as n1 (λ d n2=>G.rt d n2) λ c n2=>G.xc E c n2
instance (priority:=high) sv_retX {sp:GSx}{E:XK}{t:TA}{gt:GA} [T:AV true t gt]:SV (Jrm (Jdm (Jbx sp) [] E t)) (J15 E sp gt):=⟨λ {C G D} O {ex env σ H n} A h=>
 T.av A.ev h λ as n1 vs H1 h1 s1 r1=>by
  rw [Ur]
  exact ⟨C.S,ex,as,n1,_,_,r1,A.ev.ch,(A.step s1).ev.al,s1.2,h1,λ d n' v H' p s2 r=>O.rt ⟨(A.step (s1.trans s2)).kp,s2.2,Rep.mono A.ex0 r⟩ p,λ c n' H' x s2=>O.xc (A.step (s1.trans s2)).kp s2.2 x⟩⟩
noncomputable def Jwz:List Bool:=[false,false,false,false,false,false,false,true,false,false]
theorem Juv {ws:List Way}{s0:St'}{ns:List Nat}{s:St'}(g:GoneS ws s0 ns s):ns=[]->s=s0:=by
 cases g with
 | nil=>exact λ _=>rfl
 | snoc _ _=>intro h;simp at h
theorem Jrd {ws:List Way}{s0:St'}{ns:List Nat}{s:St'}(g:GoneS ws s0 ns s):∀ k,ns[0]? = some k->((k:Nat):Int)∈Vt ws s0:=by
 induction g with
 | nil=>intro k h;cases h
 | snoc g hk ih=>
  rename_i ns s j
  intro k h
  cases ns with
  | nil=>
   rw [Juv g rfl] at hk
   cases h
   exact hk
  | cons a t=>exact ih k h
def Jdc:GSn:=λ as n Q=>∃ (R U:Int) (ws:List Way) (s0:St'),as=[.tape,.d (J3 R U ws),.d (stD s0)]/\n<2^30/\BookOk R U ws/\WalkO R U ws s0 [] s0/\∀ (ns:List Nat) (s:St') (m:Nat),GoneS ws s0 ns s->ns.length<=60->m<=n+60->Q (ns.map Ju) m
structure MeetK (R U:Int) (ws:List Way) (s0:St') (wt ht F:List Int) (e:Int):Prop where
 c:SumC R U wt ht
 lF:F.length=ws.length
 bF:∀ x∈F,x.natAbs<2^9000
 be:e.natAbs<2^9000
 bw:(Zi wt ht s0.1 s0.2).natAbs<2^9000
 le:Tb.Jk ws.length (λ i=>F.getD i 0*Z5 ws wt ht (i:Nat))<=e*Zi wt ht s0.1 s0.2
def Jeg:GSp:=λ as n Q=>∃ (R U:Int) (ws:List Way) (s0:St') (m d:Int) (wt ht:List Int) (u:Int) (F:List Int) (e:Int),as=[.d (J3 R U ws),.d (stD s0),.d (Jcb m d wt ht u F e)]/\BookOk R U ws/\SdOk R U s0.1 s0.2/\MeetK R U ws s0 wt ht F e/\Q (.bool true) n
noncomputable instance:Scal Jeg:=⟨λ {as n P} h=>by obtain ⟨a1,a2,a3,a4,a6,a7,a8,a9,a10,a11,a12,e,h1,h2,h3,q⟩:=h;exact ⟨a1,a2,a3,a4,a6,a7,a8,a9,a10,a11,a12,e,h1,h2,h3,rfl,q⟩⟩
theorem MostK.c {R U:Int}{ws:List Way}{room:Int}{nums:List Int}{ks:List Nat}{k:Nat}{m d:Int}{wt ht:List Int}{u:Int}{F:List Int}{e:Int}(M:MostK R U ws room nums ks k m d wt ht u F e):SumC R U wt ht:=⟨M.lw,M.lh,M.w0,λ x hx=>Qy (M.bw x hx) (Z1 (by decide)),λ x hx=>Qy (M.bh x hx) (Z1 (by decide))⟩
theorem J16 {x:Int}(h0:0<=x) (h1:x<=10^99):x.natAbs<2^9000:=by
 have h2:x.natAbs<=10^99:=by
  have:(10:Int)^99=((10^99:Nat):Int):=by decide
  omega
 exact Us h2 (Qy (show 10^99<2^400 by decide) (Z1 (by decide)))
end My
namespace L2
open PySem.SeqAt
section
variable {X:Cx}
theorem Jh7 {y:Int}:∀ {ns:List Int}{us:List Yak},J4 (ns.map V.int) us->J63 (Jtc y) us=ns.count y
 | [],us,r=>by cases r;rfl
 | m::ns,us,r=>by
  cases r with
  | cons r t=>
   obtain ⟨tk,e⟩:=r
   subst e
   rw [List.countP_cons,Jh7 t,J7t]
   rfl
def Jp2 (K:Qb):V->List V->Hp->VK->Prop:=λ x vs H Q=>∃ (l:Addr) (ns:List Int) (y:Int),x = .ref l/\vs=[.int y]/\H l=some (.lst (ns.map V.int))/\Q (.int (ns.count y:Nat)) H
theorem Jre:MtM X "list.count" (Jp2 X.K):=by
 intro pins s σ H x vs v us Q I rx rv h
 obtain ⟨l,ns,y,rfl,rfl,hH,q⟩:=h
 cases rx
 obtain ⟨u,rfl,ru⟩:=rv.one
 obtain ⟨ty,rfl⟩:=ru
 obtain ⟨z,its,n,r,hl,e⟩:=I.lstM hH
 refine call_meets J8z ⟨_,e,rfl⟩ J80 (J81 _ _) (list_countAt l its.toArray n none #[] (.int y ty) (Jtc y)) ⟨e,?_,?_⟩
 . intro a ha
   have ha:a∈its:=by simpa using ha
   obtain ⟨i,hi,rfl⟩:=J8y ha
   obtain ⟨t,e2⟩:=Jtd r i hi
   rw [e2]
   exact EqAt.int_int _ _ _ _
 . refine ⟨.int _,H,I.tok _,⟨_,rfl⟩,?_⟩
   have:J63 (Jtc y) its.toArray.toList=ns.count y:=Jh7 r
   rw [this];exact q
end
end L2
namespace My
open L2
abbrev Jw0 (i:Nat) (gy:GE):GE:=λ env n Q=>Jsq i env n λ d n1=>∃ ns:List Int,d = .list (ns.map .int)/\gy env n1 λ y n2=>match y with
 | .int k=>Q (.int ((ns.count k:Nat):Int)) n2
 | _=>False
instance ev_countI {b:Bool}{K:Qb}{i:Nat}{ty:TE}{gy:GE} [Y:EV false ty gy]:EV b (tBM K "list" (Jp2 K) (Z4 i) (Yo ty Ja2)) (Jw0 i gy):=⟨λ {S ex env σ H n Q P} E h k=>
 (pv_var (i:=i)).ev E h λ d n1 v H1 hd s1 r=>by
  obtain ⟨ns,rfl,hy⟩:=hd
  cases r with
  | list e nm z rs=>
   refine ⟨.inl ⟨rfl,_,SqL.of e⟩,Y.ev (E.step s1) hy λ y n2 yv H2 hy2 s2 ry=>?_⟩
   cases ry with
   | int x=>
    have hl:=s2.1 _ _ e nm
    rw [Jxv rs] at hl
    exact ⟨_,ns,x,rfl,rfl,hl,k _ _ _ _ hy2 (s1.trans s2) (.int _)⟩
   | none=>exact hy2.elim
   | obj=>exact hy2.elim
   | dctf=>exact hy2.elim
   | bool=>exact hy2.elim
   | str=>exact hy2.elim
   | tuple=>exact hy2.elim
   | list=>exact hy2.elim⟩
theorem Juw (ns:List Nat) (k:Nat):(nI ns).count (k:Int)=ns.count k:=by
 induction ns with
 | nil=>rfl
 | cons a t ih=>
  show J7s (k:Int) ((a:Int)::nI t)=_
  rw [J7t,J7t,ih]
  congr 1
  by_cases h:a=k
  . subst h;simp
  . have h2:¬ ((a:Nat):Int)=(k:Int):=by omega
    simp [h,h2]
section
variable {R U:Int}{ws:List Way}{s0:St'}{k:Nat}
structure AnsF (R U:Int) (ws:List Way) (s0:St') (k:Nat) (n d:Int) (wt ht:List Int) (u:Int) (F:List Int) (e:Int):Prop where
 n0:n.natAbs<2^4200
 d0:1<=d
 db:d.natAbs<2^4200
 meet:MeetK R U ws s0 wt ht F e
 cnt:∀ ns s,GoneS ws s0 ns s->(ns.count k:Int)*d<=n
 oz:∀ j:Nat,((j:Nat):Int)∈Vt ws s0->k∉Z2 R (B0 ws s0 (j:Int)).1 ws->(0+(if j=k then 1 else 0)*1)*d<=n*1
 om:∀ j:Nat,((j:Nat):Int)∈Vt ws s0->k∈Z2 R (B0 ws s0 (j:Int)).1 ws->∀ n' d' wt' ht' u' F' e',MostK R U ws (B0 ws s0 (j:Int)).1 (B0 ws s0 (j:Int)).2 (Z2 R (B0 ws s0 (j:Int)).1 ws) k n' d' wt' ht' u' F' e'->(n'+(if j=k then 1 else 0)*d')*d<=n*d'
 on:∀ j:Nat,((j:Nat):Int)∈Vt ws s0->k∈Z2 R (B0 ws s0 (j:Int)).1 ws->∀ cs,RoundK R U ws (Z2 R (B0 ws s0 (j:Int)).1 ws) cs->1<=cs.getD k 0->False
theorem Jux (ok:BookOk R U ws) (w0:WalkO R U ws s0 [] s0) (kl:k<ws.length) {n d:Int}{wt ht:List Int}{u:Int}{F:List Int}{e:Int}(M:MostK R U ws s0.1 s0.2 (Z2 R s0.1 ws) k n d wt ht u F e):AnsF R U ws s0 k n d wt ht u F e:=by
 refine ⟨M.n0.2,M.d1.1,M.d1.2,⟨M.c,M.lF,λ x hx=>Qy (M.bF x hx) (Z1 (by decide)),Qy M.e1.2 (Z1 (by decide)),Jmj M,Jpz ok M.lw M.w0 M.h0 w0.a0 w0.a1 M.ou M.nu⟩,λ ns s g=>Jml ok w0 M g,λ j hj _=>?_,λ j hj _ n' d' wt' ht' u' F' e' M'=>Jut ok w0 hj M M' kl,λ j hj _ cs rk hk=>Jus ok (V5 ok w0 hj) M rk hk⟩
 have h:=Jml ok w0 M (.snoc .nil hj)
 rw [J4l] at h
 have e:(([j]:List Nat).count k:Int)=if j=k then 1 else 0:=by
  by_cases c:j=k
  . subst c;simp
  . rw [if_neg c];simp [c]
 rw [e] at h
 rw [J4y,J3j,J3j]
 exact h
theorem Je6 (n i:Nat):(Qo n (0:Int)).getD i 0=0:=by
 rw [Qi,J3p]
 split<;>rfl
theorem Juy {xs ys:List Int}(h:∀ i,xs.getD i 0=0) (n:Nat):Bz xs ys n=0:=by
 unfold Bz
 rw [<- Yk]
 exact Zl λ i _=>by rw [h i,Q6]
theorem Juz (ok:BookOk R U ws) (w0:WalkO R U ws s0 [] s0) (hk:k∉Z2 R s0.1 ws):AnsF R U ws s0 k 0 1 (Qo U.toNat 0) (Qo R.toNat 0) 1 (Qo ws.length 0) 1:=by
 have r0:=ok.r0
 have p0:=ok.p0
 have pz:∀ m,0<2^m:=λ m=>J3g m
 have mz:∀ (n:Nat) (m:Nat),∀ x∈Qo n (0:Int),x.natAbs<2^m:=λ n m x hx=>by rw [J9w hx];exact pz m
 have wz:Zi (Qo U.toNat 0) (Qo R.toNat 0) s0.1 s0.2=0:=by
  unfold Zi
  rw [Je6,Juy (Je6 _),J4y]
 have one:(1:Int).natAbs<2^4200:=Qy (show 1<2^1 by decide) (Z1 (by decide))
 have nj:∀ j:Nat,((j:Nat):Int)∈Vt ws s0->j≠k:=λ j hj e=>hk (by have:=(V5 ok w0 hj).met j (by simp);rwa [e] at this)
 have sub:∀ j:Nat,((j:Nat):Int)∈Vt ws s0->k∈Z2 R (B0 ws s0 (j:Int)).1 ws->False:=λ j hj h=>hk (Jkw ok (V5 ok w0 hj) h)
 refine ⟨pz _,by decide,one,⟨⟨by rw [X2];omega,by rw [X2];omega,λ x hx=>by rw [J9w hx];decide,mz _ _,mz _ _⟩,X2,mz _ _,Qy one (Z1 (by decide)),by rw [wz];exact pz _,?_⟩,λ ns s g=>?_,λ j hj _=>?_,λ j hj h=>(sub j hj h).elim,λ j hj h=>(sub j hj h).elim⟩
 . rw [wz,Zl λ i _=>by rw [Je6,Q6]]
   decide
 . have w:=Jkv ok w0 g
   have:ns.count k=0:=List.count_eq_zero.mpr λ h=>hk (w.met k h)
   rw [this]
   decide
 . rw [if_neg (nj j hj)]
   decide
end
end My
set_option synthInstance.maxSize 100000
set_option synthInstance.maxHeartbeats 4000000
namespace My
open L2
noncomputable def top (i:Nat):Stmt:=Yaj.main.body.getD i (.Pass ⟨0,0,0,0⟩)
noncomputable def Jf0 (i j:Nat):Stmt:=(Jv7 (top i)).getD j (.Pass ⟨0,0,0,0⟩)
noncomputable abbrev Jdd:Stmt:=top 13
noncomputable abbrev Jbd:Stmt:=top 14
noncomputable abbrev Je7:Stmt:=top 15
noncomputable abbrev Jeh:Stmt:=top 16
noncomputable abbrev Jbe:Stmt:=top 17
noncomputable abbrev Jei:Stmt:=top 18
noncomputable abbrev Jh8:Stmt:=top 19
noncomputable abbrev Vz:Stmt:=top 21
noncomputable abbrev Wm:Stmt:=top 22
noncomputable abbrev Zq:Stmt:=top 24
noncomputable abbrev W6:Stmt:=top 26
noncomputable abbrev Ze:Stmt:=Jf0 27 0
noncomputable abbrev Wn:Stmt:=Jf0 27 1
noncomputable abbrev Wy:Stmt:=Jf0 27 2
noncomputable abbrev Wp:Stmt:=Jf0 27 3
noncomputable abbrev Y6:Stmt:=Jf0 27 4
noncomputable abbrev Wq:Stmt:=Jf0 27 5
noncomputable abbrev Wr:Stmt:=Jf0 27 6
noncomputable abbrev W9:Stmt:=Jf0 27 7
noncomputable abbrev W0:Stmt:=Jf0 27 8
noncomputable abbrev V7:Stmt:=Jf0 27 9
noncomputable abbrev V8:Stmt:=Jf0 27 11
noncomputable abbrev W1:Stmt:=Jf0 27 12
noncomputable abbrev Jbf:Stmt:=top 29
noncomputable abbrev Je8:Stmt:=top 30
noncomputable abbrev Jcc:Stmt:=top 31
noncomputable abbrev Jcd:Stmt:=top 32
noncomputable abbrev Jcr:Stmt:=top 34
noncomputable abbrev Jkz:Stmt:=top 35
noncomputable abbrev Joh:Stmt:=top 36
noncomputable abbrev Jde:Stmt:=top 38
noncomputable abbrev Jdf:Stmt:=top 39
noncomputable abbrev Jdg:Stmt:=top 40
noncomputable abbrev Jac:Stmt:=top 41
noncomputable abbrev Be:Stmt:=top 42
noncomputable abbrev Jbg:Stmt:=top 43
noncomputable abbrev Je9:Stmt:=top 44
noncomputable abbrev Jce:Stmt:=top 45
noncomputable abbrev V9:Stmt:=top 46
noncomputable abbrev Jbh:Stmt:=top 47
noncomputable abbrev Jcy:Stmt:=top 48
structure Txt (mg:Str->Option Yak):Prop where
 b_isinstance:mg "isinstance" = none
 b_int:mg "int" = none
 b_bool:mg "bool" = none
 b_str:mg "str" = none
 b_tuple:mg "tuple" = none
 b_len:mg "len" = none
 b_all:mg "all" = none
 b_sum:mg "sum" = none
 b_range:mg "range" = none
 b_list:mg "list" = none
 b_zip:mg "zip" = none
 b_enumerate:mg "enumerate" = none
 b_min:mg "min" = none
 b_max:mg "max" = none
 b_abs:mg "abs" = none
 b_repr:mg "repr" = none
 b_ValueError:mg "ValueError" = none
variable {z:Er}
section
variable {P:Yap}{w:Yao}{K:Qb}{mg:Str->Option Yak}{base:Heap}
theorem Jmn:FnScope ["_law_script"] ["_law_script"] (Jd Jde):=⟨rfl,rfl,rfl,by decide +kernel,rfl,by decide +kernel,by decide +kernel⟩
theorem Jmo (T:Txt mg) (D:Def K mg "_law_tape" Jde ["_law_script"]):Cal P w K mg base "_law_tape" 1 ["_law_script"] (Jjt K):=by
 refine D.cal λ f fd F=>F.ok Jmn (λ vs H Q E h=>?_) (λ cdv A outer s H vs Q E hr h=>?_)
 . obtain ⟨a,ns,rfl,_⟩:=h
   rfl
 obtain ⟨a,ns,rfl,hS,hlen,q⟩:=h
 refine ⟨_,(@Ji _ _ _ (@Jy _ _ _ _ (@PEs.out _ _ _ (Yb (Yh (Jr (J5 Wu rfl T.b_list Ya4 (Ym (V2 B4 (pv 0) B2 (B3 Jg)) Jc))) (Jm Yc (Jm Yc Jt))))))),?_⟩
 obtain ⟨ms,ems,lms⟩:=Jqf ns none (some 63)
 refine ⟨_,rfl,_,rfl,a,_,rfl,hS,λ l1 hl1=>?_⟩
 rw [ems]
 refine ⟨l1,_,rfl,.inl (SqL.of Jf),λ l2 hl2=>⟨Bk (Xf rfl),λ p hp=>?_⟩⟩
 have n1:l2≠l1:=λ z=>by rw [z,Jf] at hl2;cases hl2
 have n2:p≠l2:=λ z=>by rw [z,Jf] at hp;cases hp
 have n3:p≠l1:=λ z=>by rw [z,Je (Qh n1),Jf] at hp;cases hp
 rw [Je n1] at hl2
 rw [Je n2,Je n3] at hp
 refine q p l2 _ (λ b o e _=>?_) hp hl2 ⟨ms,0,0,Jf,by rw [Je (Qh n2),Jf],by omega,by decide,by decide⟩
 rw [Je (Jl e hp),Je (Jl e hl2),Je (Jl e hl1)];exact e
theorem Ws:FnScope ["_law_tape_here","_law_many","_law_digit","_law_at","_law_cell","_law_mixed"] ["_law_tape_here","_law_many"] (Jd Jdf):=⟨rfl,rfl,rfl,by decide +kernel,rfl,by decide +kernel,by decide +kernel⟩
theorem Jmp (T:Txt mg) (D:Def K mg "_law_draw" Jdf ["_law_tape_here","_law_many"]):Cal P w K mg base "_law_draw" 1 ["_law_tape_here","_law_many"] Jnh:=by
 refine D.cal λ f fd F=>F.ok Ws (λ vs H Q E h=>?_) (λ cdv A outer s H vs Q E hr h=>?_)
 . obtain ⟨p,c,n,m,rfl,_⟩:=h
   rfl
 obtain ⟨p,c,n,m,rfl,J,hn,h0,h1,q⟩:=h
 refine ⟨_,(@Jb _ _ _ _ _ (Wl (Ya Jgk (Jp Js (pv 0) Jg (λ _ _=>rfl)) Jg (J9 _)) (@Jb _ _ _ _ _ (Jw (i:=2) Ws.nd rfl (Qa rfl) (Jv Bi (Jp Js (pv 0) Jg (λ _ _=>rfl)) (pv 1)))
  (@Jb _ _ _ _ _ (Yf (Jv Jbs (Jp Js (pv 0) Jg (λ _ _=>rfl)) (pv 1)) (Wg (pv 0) Jg Yv (λ v=>Vw _ _ _ _ _ _ v)))
  (@Ji _ _ _ (@Jy _ _ _ _ (pv 2))))) Yr)
  (@Jb _ _ _ _ _ (Jw (i:=3) Ws.nd rfl (Qa rfl) (Jp Js (pv 0) Jg (λ _ _=>rfl)))
  (@Jb _ _ _ _ _ (Yf (Jv Wh (pv 3) Jg) (Wg (pv 0) Jg Yv (λ v=>Vw _ _ _ _ _ _ v)))
  (@Jb _ _ _ _ _ (Jw (i:=4) Ws.nd rfl (Qa rfl) Jg)
  (@Jb _ _ _ _ _ (Wl (Ya Jgk (Jx J7 rfl T.b_len Ud (Ym (Jp Js (pv 0) Jg (λ _ _=>rfl)) Jc)) Jg (J9 _)) (@Ji _ _ _ (Jw (i:=4) Ws.nd rfl (Qa rfl) (Jp Js (Jp Js (pv 0) Jg (λ _ _=>rfl)) (Jv Bi (pv 3) (Jx J7 rfl T.b_len Ud (Ym (Jp Js (pv 0) Jg (λ _ _=>rfl)) Jc))) (λ _ _=>rfl)))) Yr)
  (@Jb _ _ _ _ _ (Wl (PW.pt (Jmx (Ya Jot (pv 3) (Jx J7 rfl T.b_len Ud (Ym (Jp Js (pv 0) Jg (λ _ _=>rfl)) Jc)) (J9 _)) (Jjg (Ya Jw8 (pv 4) (Jv Jrt Jg Jg) (J9 _))))) (@Jb _ _ _ _ _ (Yf (Jv Jbs (pv 4) (pv 1)) (Wg (pv 0) Jg Yv (λ v=>Vw _ _ _ _ _ _ v)))
  (@Ji _ _ _ (@Jy _ _ _ _ (Jv Bi (pv 4) (pv 1))))) Yr)
  (@Jb _ _ _ _ _ (Jw (i:=5) Ws.nd rfl (Qa rfl) (Jv Bi (Jv Jen (Jv Wh (Jv Bi (pv 4) Jg) Jg) (Jv Wh (Jv Wh (Jv Jen (Jv Jen Jg (pv 3)) (pv 3)) (Jv Jen Jg (pv 3))) Jg)) Jg))
  (@Jb _ _ _ _ _ (Jw (i:=5) Ws.nd rfl (Qa rfl) (Jv Bi (Jv Wh (Jv Wh (Jv Jen (pv 5) (pv 5)) (Jv Jen Jg (pv 3))) (Jv Bi (pv 4) Jg)) Jg))
  (@Ji _ _ _ (@Jy _ _ _ _ (Jv Bi (Jv Jbs (pv 5) Jg) (pv 1)))))))))))),?_⟩
 have npc:=J.ne
 obtain ⟨ns,k,g,hp,hc,hl,k0,k1⟩:=J.ex
 refine Zp (λ σ' H'=>σ'=[some (.ref p),some (.int m),none,none,none,none]/\H=H') (λ N hN=>?_) ?_
 . refine ⟨_,rfl,p,_,2,_,rfl,rfl,SqL.of hp,rfl,_,_,rfl,rfl,_,rfl,Vc (λ cc=>?_) (λ cc=>hN _ _ ⟨rfl,rfl⟩)⟩
   refine ⟨_,rfl,p,_,2,_,rfl,rfl,SqL.of hp,rfl,_,rfl,_,_,rfl,rfl,h0,?_⟩
   refine ⟨_,rfl,p,_,2,_,rfl,rfl,SqL.of hp,rfl,_,rfl,_,_,rfl,rfl,Jbt h0 h1,_,rfl,p,_,2,2,rfl,rfl,hp,rfl,?_⟩
   refine ⟨_,rfl,q _ _ (J3h _ (by omega)) (J3z _ h0) ⟨ns,k,_,Jf,by rw [Je (Qh npc)];exact hc,hl,k0,by omega⟩ (Kp.at (by simp) _)⟩
 rintro _ _ ⟨rfl,rfl⟩
 refine Zp (λ σ' H'=>σ'=[some (.ref p),some (.int m),none,some (.int k),none,none]/\H=H') (λ N hN=>⟨_,rfl,p,_,1,_,rfl,rfl,SqL.of hp,rfl,hN _ _ ⟨rfl,rfl⟩⟩) ?_
 rintro _ _ ⟨rfl,rfl⟩
 refine Zp (λ σ' H'=>σ'=[some (.ref p),some (.int m),none,some (.int k),none,none]/\H' p=some (.lst [.ref c,.int (k+1),.int g])/\H' c=some (.lst (ns.map V.int))/\Kp [p,c] H H') (λ N hN=>?_) ?_
 . refine ⟨_,rfl,_,_,rfl,rfl,_,rfl,p,_,1,1,rfl,rfl,hp,rfl,hN _ _ ⟨rfl,Jf,by rw [Je (Qh npc)];exact hc,Kp.at (by simp) _⟩⟩
 rintro _ H1 ⟨rfl,hp1,hc1,kp1⟩
 have nl:((ns.map V.int).length:Int)=ns.length:=by rw [Qc]
 refine Zp (λ σ' H'=>σ'=[some (.ref p),some (.int m),none,some (.int k),some (.int 0),none]/\H1=H') (λ N hN=>hN _ _ ⟨rfl,rfl⟩) ?_
 rintro _ _ ⟨rfl,rfl⟩
 refine Zp (λ σ' H'=>∃ x:Int,σ'=[some (.ref p),some (.int m),none,some (.int k),some (.int x),none]/\H1=H') (λ N hN=>?_) ?_
 . refine ⟨_,rfl,p,_,0,_,rfl,rfl,SqL.of hp1,rfl,c,_,rfl,.inl (SqL.of hc1),_,_,rfl,rfl,_,rfl,Vc (λ cc=>?_) (λ cc=>hN _ _ ⟨0,rfl,rfl⟩)⟩
   have cc:(0:Int)<ns.length:=by simpa using cc
   refine ⟨_,rfl,p,_,0,_,rfl,rfl,SqL.of hp1,rfl,_,rfl,_,rfl,p,_,0,_,rfl,rfl,SqL.of hp1,rfl,c,_,rfl,.inl (SqL.of hc1),_,_,rfl,rfl,by rw [nl];exact cc,?_⟩
   obtain ⟨x,hx,_⟩:=J0s (P:=λ _=>True) ns (i:=k%((ns.map V.int).length:Int)) (by simp) (J3h _ (by rw [nl];omega)) (by rw [nl];exact J3z _ cc)
   exact ⟨c,_,_,_,rfl,rfl,SqL.of hc1,hx,hN _ _ ⟨x,rfl,rfl⟩⟩
 rintro _ _ ⟨x,rfl,rfl⟩
 refine Zp (λ σ' H'=>σ'=[some (.ref p),some (.int m),none,some (.int k),some (.int x),none]/\H1=H') (λ N hN=>?_) ?_
 . refine ⟨_,rfl,_,rfl,p,_,0,_,rfl,rfl,SqL.of hp1,rfl,c,_,rfl,.inl (SqL.of hc1),_,_,rfl,rfl,_,rfl,?_⟩
   refine Vc (λ cc=>?_) (λ cc=>Jc0 (hN _ _ ⟨rfl,rfl⟩))
   refine ⟨_,rfl,_,_,rfl,rfl,⟨by decide,by decide,by decide⟩,_,_,rfl,rfl,_,rfl,Vc (λ cc=>?_) (λ cc=>hN _ _ ⟨rfl,rfl⟩)⟩
   refine ⟨_,rfl,_,rfl,_,_,rfl,rfl,Jbt h0 h1,_,rfl,p,_,2,2,rfl,rfl,hp1,rfl,?_⟩
   refine ⟨_,rfl,_,rfl,_,_,rfl,rfl,h0,?_⟩
   exact q _ _ (J3h _ (by omega)) (J3z _ h0) ⟨ns,k+1,_,Jf,by rw [Je (Qh npc)];exact hc1,hl,by omega,by omega⟩ (kp1.trans (Kp.at (by simp) _))
 rintro _ _ ⟨rfl,rfl⟩
 have kb:k<2^41:=by omega
 refine Zp (λ σ' H'=>∃ y:Int,σ'=[some (.ref p),some (.int m),none,some (.int k),some (.int x),some (.int y)]/\H1=H'/\0<=y/\y<2147483647) (λ N hN=>?_) ?_
 . refine ⟨_,rfl,_,_,rfl,rfl,(show (0:Int)<1000003 by decide),_,_,rfl,rfl,_,rfl,_,_,rfl,rfl,.inl ⟨by decide,by decide⟩,_,rfl,_,_,rfl,rfl,.inr ⟨by omega,by omega⟩,_,rfl,_,_,rfl,rfl,.inl ⟨by decide,by decide⟩,_,_,rfl,rfl,_,_,rfl,rfl,_,_,rfl,rfl,.inl ⟨?_,?_⟩,_,_,rfl,rfl,(show (0:Int)<2147483647 by decide),hN _ _ ⟨_,rfl,rfl,J3h _ (by decide),J3z _ (by decide)⟩⟩
   all_goals (have:=J3h x (show (1000003:Int)≠0 by decide);have:=J3z x (show (0:Int)<1000003 by decide);omega)
 rintro _ _ ⟨y,rfl,rfl,y0,y1⟩
 refine Zp (λ σ' H'=>∃ y:Int,σ'=[some (.ref p),some (.int m),none,some (.int k),some (.int x),some (.int y)]/\H1=H'/\0<=y) (λ N hN=>?_) ?_
 . refine ⟨_,rfl,_,rfl,_,_,rfl,rfl,.inl ⟨by omega,by omega⟩,_,rfl,_,_,rfl,rfl,.inl ⟨by decide,by decide⟩,_,_,rfl,rfl,_,rfl,_,_,rfl,rfl,(show (0:Int)<65537 by decide),_,_,rfl,rfl,_,_,rfl,rfl,(show (0:Int)<2147483629 by decide),hN _ _ ⟨_,rfl,rfl,J3h _ (by decide)⟩⟩
 rintro _ _ ⟨y,rfl,rfl,y0⟩
 refine ⟨_,rfl,_,_,rfl,rfl,Jbt (by decide) (by decide +kernel),_,rfl,_,_,rfl,rfl,h0,?_⟩
 exact q _ _ (J3h _ (by omega)) (J3z _ h0) ⟨ns,k+1,g,hp1,hc1,hl,by omega,by omega⟩ kp1
theorem Jfr:FnScope ["_law_tape_here","_law_way"] ["_law_tape_here"] (Jd Jdg):=⟨rfl,rfl,rfl,by decide +kernel,rfl,by decide +kernel,by decide +kernel⟩
theorem Jmq (T:Txt mg) (D:Def K mg "_law_gain" Jdg ["_law_tape_here"]) (Ga:Cal P w K mg base "_law_draw" 1 ["_law_tape_here","_law_many"] (Jn Jby)):Cal P w K mg base "_law_gain" 2 ["_law_tape_here"] (Jn Jf6):=by
 refine D.cal λ f fd F=>F.ok Jfr (Yd ?_) (λ cdv A outer s H vs Q E hr h=>?_)
 . rintro as n P ⟨rfl,_⟩
   rfl
 refine ⟨_,(@Jb _ _ _ _ _ (Jw (i:=1) Jfr.nd rfl (Qa rfl) (Y7 Ga (hr.mono (by decide)) rfl (Ja (pv 0) (Y9 Jg Jc))))
  (@Jb _ _ _ _ _ (Wl (Ya Jbp (pv 1) Jg (J9 _)) (@Ji _ _ _ (@Jy _ _ _ _ (Jv Ja0 (Y7 Ga (hr.mono (by decide)) rfl (Ja (pv 0) (Y9 Jg Jc))) Jg))) Yr)
  (@Ji _ _ _ (@Jy _ _ _ _ (Jp Js (@PEs.out _ _ _ (Yb (Jm Yc (Jm Yc (Wc (Jr (Vg Z8 Jg)) (Wc (Jr (Vg Z8 Jg)) (Wc (Jr (Vg Z8 Jg)) (Jm Yc (Jm Yc (Jm Yc (Wc (Jr (Vg Z8 Jg)) Jt))))))))))) (pv 1) (λ _ _=>rfl)))))),J6 h ?_⟩
 rintro as n P ⟨rfl,hn,q⟩
 refine ⟨rfl,10,rfl,by omega,by decide,by decide +kernel,λ r r0 r1=>⟨[.tape,.d (.int r)],.eq rfl,?_⟩⟩
 refine Jg3 (Vc (λ c=>?_) (λ c=>⟨_,.refl,?_⟩))
 . exact ⟨19,rfl,by omega,by decide,by decide +kernel,λ z z0 z1=>q _ _ (by omega) (by omega) (by omega)⟩
 . have hr9:r≠9:=of_decide_eq_false c
   refine ⟨Bk (Xf rfl),?_⟩
   have:r=0\/r=1\/r=2\/r=3\/r=4\/r=5\/r=6\/r=7\/r=8:=by omega
   rcases this with rfl | rfl | rfl | rfl | rfl | rfl | rfl | rfl | rfl<;>exact ⟨_,rfl,q _ _ (by decide) (by decide) (by omega)⟩
theorem Jk0:FnScope ["_law_tape_here","_law_purses"] ["_law_tape_here","_law_purses"] (Jd Jac):=⟨rfl,rfl,rfl,by decide +kernel,rfl,by decide +kernel,by decide +kernel⟩
theorem Jk1 (T:Txt mg) (D:Def K mg "_law_gains" Jac ["_law_tape_here","_law_purses"]) (Gz:Cal P w K mg base "_law_gain" 2 ["_law_tape_here"] (Jn Jf6)):Cal P w K mg base "_law_gains" 3 ["_law_tape_here","_law_purses"] (Jn Jdw):=by
 refine D.cal λ f fd F=>F.ok Jk0 (Yd ?_) (λ cdv A outer s H vs Q E hr h=>?_)
 . rintro as n P ⟨U,rfl,_⟩
   rfl
 refine ⟨_,(@Ji _ _ _ (@Jy _ _ _ _ (J5 Ye rfl T.b_tuple Ya0 (Ja3 (Yw (sc:=(Jd Jac)) (N:=["_law_tape_here","_law_purses"]) (N':=["_law_p","_law_tape_here"]) (k:=1) (idx:=[0]) rfl (by exact ⟨rfl,by decide +kernel,by decide +kernel,by decide +kernel,by decide +kernel,by decide +kernel,rfl,rfl⟩) rfl rfl (Zg rfl T.b_range (Ja (pv 1) Jc)) (λ _ _ _ _=>(J0 (i:=0) (show (["_law_p","_law_tape_here"]:List Str).Nodup by decide +kernel) rfl (Qa rfl) (Qs rfl))) (λ _ _ _ _=>Yu) (λ _ _ _ _=>(Y7 Gz (hr.mono (by decide)) rfl (Ja (pv 1) Jc)))) Jc)))),J6 h ?_⟩
 rintro as n P ⟨U,rfl,hn,u0,u1,q⟩
 have hs:sizeLine=16777216:=Yar
 refine ⟨rfl,U,rfl,⟨by omega,by omega⟩,⟨rfl,by rw [Yq];omega⟩,?_⟩
 refine Jg6 2 (n+12) (λ y=>∃ i:Int,y = .int i/\-9<=i/\i<=9) (λ x _ k K hk h=>V3 ⟨rfl,by omega,λ r m r0 r1 hm=>h _ _ ⟨r,rfl,r0,r1⟩ hm⟩) (by rw [Yq];omega) (λ ys k hy hg hk=>?_)
 rw [Yq] at hy hk
 obtain ⟨f,rfl,hf⟩:=Jze ys _ hy hg
 exact q f k hf (by omega)
theorem Zy:FnScope ["_law_tape_here","_law_rooms","_law_purses","_law_ways","_law_pair","_law_extra","_law_room","_law_one","_law_step"] ["_law_tape_here","_law_rooms","_law_purses"] (Jd Be):=⟨rfl,rfl,rfl,by decide +kernel,rfl,by decide +kernel,by decide +kernel⟩
theorem Jil (T:Txt mg) (D:Def K mg "_law_nested" Be ["_law_tape_here","_law_rooms","_law_purses"]) (Gk:Cal P w K mg base "_law_gains" 3 ["_law_tape_here","_law_purses"] (Jn Jdw)) (Ga:Cal P w K mg base "_law_draw" 1 ["_law_tape_here","_law_many"] (Jn Jby)):Cal P w K mg base "_law_nested" 4 ["_law_tape_here","_law_rooms","_law_purses"] (Y3 Jey):=by
 refine D.cal λ f fd F=>F.ok Zy (Wd ?_) (λ cdv A outer s H vs Q E hr h=>?_)
 . rintro as n P ⟨R,U,rfl,_⟩
   rfl
 refine ⟨_,(@Jb _ _ _ _ _ (@B8 _ _ 3 _ _ _ _ Zy.nd rfl (Qa rfl) (Yb Jt) rfl (Qa rfl))
  (@Jb _ _ _ _ _ (@B8 _ _ 4 _ _ _ _ Zy.nd rfl (Qa rfl) (Yb (Yh (Jr (Y7 Gk (hr.mono (by decide)) rfl (Ja (pv 0) (Ja (pv 2) Jc)))) Jt)) rfl (Qa rfl))
  (@Jb _ _ _ _ _ (Jck (Jfk J3i J42 J43 Bg (pv 4) (Wa (J5 Ye rfl T.b_tuple Ya0 (Ja3 (Yw (sc:=(Jd Be)) (N:=["_law_tape_here","_law_rooms","_law_purses","_law_ways","_law_pair","_law_extra","_law_room","_law_one","_law_step"]) (N':=["_law_number"]) (k:=1) (idx:=[]) rfl (by exact ⟨rfl,by decide +kernel,by decide +kernel,by decide +kernel,by decide +kernel,by decide +kernel,rfl,rfl⟩) rfl rfl (Jrr (Jp Js (pv 4) Jg (λ _ _=>rfl))) (λ _ _ _ _=>(J0 (i:=0) (show (["_law_number"]:List Str).Nodup by decide +kernel) rfl (Qa rfl) (Qs rfl))) (λ _ _ _ _=>Yu) (λ _ _ _ _=>(Vg Z8 (pv 0)))) Jc)) Jc)))
  (@Jb _ _ _ _ _ (Jw (i:=5) Zy.nd rfl (Qa rfl) (Y7 Ga (hr.mono (by decide)) rfl (Ja (pv 0) (Ja (pv 2) Jc))))
  (@Jb _ _ _ _ _ (Vf Xv rfl (Zg rfl T.b_range (Ja (pv 1) Jc)) (J0 (i:=6) Zy.nd rfl (Qa rfl) (Qa rfl))
  (@Jb _ _ _ _ _ (Jw (i:=7) Zy.nd rfl (Qa rfl) (J5 Wu rfl T.b_list Ya4 (Ym (Jp Js (pv 4) (Jv Bi (pv 6) Jg) (λ _ _=>rfl)) Jc)))
  (@Jb _ _ _ _ _ (Yf (Jv Wh (Jp Js (pv 7) (pv 5) (λ _ _=>rfl)) (Jp Js (@PEs.out _ _ _ (Yb (Jm Yc (Jm Yc (Jm Yc (Jm Yc (Wc (Jr (Vg Z8 Jg)) Jt))))))) (Y7 Ga (hr.mono (by decide)) rfl (Ja (pv 0) (Y9 Jg Jc))) (λ _ _=>rfl))) (Wg (pv 7) (pv 5) Yv (λ v=>J2 _ _ _ _ _ v)))
  (@Jb _ _ _ _ _ (Jck (Jfk J3i J42 J43 Bg (pv 3) (Jam (@PEs.out _ _ _ (Zd (Ys (Jr (pv 6)) (Ys (Jr (pv 6)) (Yh (Jr (J5 Ye rfl T.b_tuple Ya0 (Ja (pv 7) Jc))) Jt))))) Jc)))
  (@Jb _ _ _ _ _ (Jw (i:=8) Zy.nd rfl (Qa rfl) (Jv Jgp (@PEs.out _ _ _ (Yb (Jm Yc Jt))) (pv 2)))
  (@Jb _ _ _ _ _ (Yf (Jp Js (@PEs.out _ _ _ (Yb (Wc (Jr (Vg Z8 Jg)) (Wc (Jr (Vg Z8 Jg)) (Wc (Jr (Vg Z8 Jg)) (Jm Yc (Jm Yc Jt))))))) (Y7 Ga (hr.mono (by decide)) rfl (Ja (pv 0) (Y9 Jg Jc))) (λ _ _=>rfl)) (Wg (pv 8) (Y7 Ga (hr.mono (by decide)) rfl (Ja (pv 0) (Ja (pv 2) Jc))) Yv (λ v=>Jfu _ _ _ _ _ _ _ v)))
  (@Ji _ _ _ (Jck (Jfk J3i J42 J43 Bg (pv 3) (Jam (@PEs.out _ _ _ (Zd (Ys (Jr (pv 6)) (Jan (Jr (Jv Bi (Jv Wh (pv 6) Jg) (pv 1))) (Yh (Jr (J5 Ye rfl T.b_tuple Ya0 (Ja (pv 8) Jc))) Jt))))) Jc))))))))))
  (@Ji _ _ _ (@Jy _ _ _ _ (pv 3)))))))),Zw h ?_⟩
 rintro as n P ⟨R,U,rfl,hn,hR,hU,q⟩
 have hs:sizeLine=16777216:=Yar
 refine ⟨rfl,Xl _,⟨[.tape,.d (.int R),.d (.int U),.own [],.jnk,.jnk,.jnk,.jnk,.jnk],.eq rfl,?_⟩⟩
 refine ⟨U,rfl,by omega,by omega,by omega,λ f m hf hm=>⟨Bk (Xf rfl),⟨[.tape,.d (.int R),.d (.int U),.own [],.own [Jew U f],.jnk,.jnk,.jnk,.jnk],.eq rfl,?_⟩⟩⟩
 refine ⟨_,rfl,⟨rfl,by rw [Jj0];omega⟩,?_⟩
 refine Ve (λ i=>.int (-(f i))) (λ i hi n K hk=>V3 hk) ⟨show 1<sizeLine by omega,⟨[.tape,.d (.int R),.d (.int U),.own [],.own [Jew U f,Jew U λ i=>-(f i)],.jnk,.jnk,.jnk,.jnk],.eq rfl,?_⟩⟩
 refine ⟨U,rfl,by omega,by omega,Vv (by omega),λ e e0 e1=>⟨_,.refl,?_⟩⟩
 refine ⟨R,rfl,⟨by omega,by omega⟩,?_⟩
 refine ⟨λ i env k=>∃ (ws:List Way) (x y z:Vl),env=[.tape,.d (.int R),.d (.int U),.own (ws.map Y2),.own [Jew U f,Jew U λ i=>-(f i)],.d (.int e),x,y,z]/\ws.length=2*i/\(∀ w∈ws,WayOk R U w)/\k<=n+13+3*i,⟨[],_,_,_,rfl,rfl,(λ w hw=>by cases hw),by omega⟩,?_,?_⟩
 . rintro i x env k hx ⟨ws,_,_,_,rfl,hl,hw,hk⟩
   obtain ⟨hi,rfl⟩:=Jj3 hx
   have hi12:i<12:=by omega
   obtain ⟨g,hg,hgb⟩:∃ g:Nat->Int,atI [Jew U f,Jew U λ i=>-(f i)] ((i:Int)%2)=some (Jew U g)/\∀ j,j<U.toNat->-9<=g j/\g j<=9:=by
    have:(i:Int)%2=0\/(i:Int)%2=1:=by omega
    rcases this with h | h
    . exact ⟨f,by rw [h];rfl,hf⟩
    . exact ⟨λ i=>-(f i),by rw [h];rfl,λ j hj=>by have:=hf j hj;show -9<=-(f j)/\-(f j)<=9;omega⟩
   refine ⟨show (0:Int)<2 by decide,_,hg,⟨_,.refl,?_⟩⟩
   refine ⟨_,Yi e0 (Jsy (by omega)),Bk (Xf rfl),5,rfl,by omega,by decide,by decide +kernel,λ r r0 r1=>?_⟩
   obtain ⟨v,hv,v0,v1⟩:∃ v:Int,atI [Qn 0,.int 0,.int 0,.int 1,.int (-1)] r=some (.int v)/\-1<=v/\v<=1:=by
    have:r=0\/r=1\/r=2\/r=3\/r=4:=by omega
    rcases this with rfl | rfl | rfl | rfl | rfl<;>exact ⟨_,rfl,by decide,by decide⟩
   refine ⟨_,hv,_,Jni e0 (by rw [Jj0];omega),?_⟩
   rw [Jnp]
   have ge:=hgb e.toNat (by omega)
   have b1:∀ j,j<U.toNat->-99<=putF g e.toNat (g e.toNat+v) j/\putF g e.toNat (g e.toNat+v) j<=99:=Jj5 (λ j hj=>by have:=hgb j hj;omega) (by omega)
   generalize putF g e.toNat (g e.toNat+v)=g1 at b1
   refine ⟨_,.fz 7 _ rfl .refl,Bq,by rw [Qc];omega,?_⟩
   refine ⟨[.tape,.d (.int R),.d (.int U),.own ((ws++[Jfo i i U g1]).map Y2),.own [Jew U f,Jew U λ i=>-(f i)],.d (.int e),.d (.int i),.d (.list (fl U.toNat g1)),_],.eq (by rw [Xd,J4u,<- Jg7];rfl),?_⟩
   refine ⟨Bk (Xf rfl),⟨by omega,by omega,by simp;omega⟩,?_⟩
   rw [J1l]
   refine ⟨_,.refl,Bk (Xf rfl),5,rfl,by omega,by decide,by decide +kernel,λ r r0 r1=>?_⟩
   obtain ⟨v2,hv2,v20,v21⟩:∃ v:Int,atI [Qn (-1),.int (-1),.int (-1),.int 0,.int 1] r=some (.int v)/\-1<=v/\v<=1:=by
    have:r=0\/r=1\/r=2\/r=3\/r=4:=by omega
    rcases this with rfl | rfl | rfl | rfl | rfl<;>exact ⟨_,rfl,by decide,by decide⟩
   refine ⟨_,hv2,U,rfl,by omega,by omega,Vv (by omega),λ z z0 z1=>⟨_,Jni z0 (by rw [Jj0];omega),?_⟩⟩
   rw [Jnp]
   have b2:∀ j,j<U.toNat->-99<=putF (λ _=>0) z.toNat v2 j/\putF (λ _=>0) z.toNat v2 j<=99:=Jj5 (λ j hj=>by omega) (by omega)
   generalize putF (λ _=>0) z.toNat v2=g2 at b2
   refine ⟨_,.fz 8 _ rfl .refl,show (0:Int)<R by omega,Bq,by rw [Qc,Xn];simp;omega,?_⟩
   refine ⟨ws++[Jfo i i U g1]++[Jfo i ((i+1:Int)%R) U g2],.d (.int i),.d (.list (fl U.toNat g1)),.d (.list (fl U.toNat g2)),?_,by simp;omega,λ w hw'=>?_,by omega⟩
   . rw [Xd (l₂:=[Jfo i ((i+1:Int)%R) U g2]),J4u,<- Jg7];rfl
   . have hmod:0<=(i+1:Int)%R/\(i+1:Int)%R<R:=⟨J3h _ (by omega),J3z _ (by omega)⟩
     rcases Xh.mp hw' with hw' | hw'
     . rcases Xh.mp hw' with hw' | hw'
       . exact hw w hw'
       . rw [Qu.mp hw']
         exact Jg8 (by omega) (by omega) (by omega) b1
     . rw [Qu.mp hw']
       exact Jg8 (by omega) hmod (by omega) b2
 . rintro env k ⟨ws,_,_,_,rfl,hl,hw,hk⟩
   rw [Yq] at hl hk
   exact ⟨_,.refl,q ws k hw (by omega) (by omega)⟩
theorem Zf:FnScope ["_law_tape_here","_law_most","_law_rooms","_law_purses","_law_ways","_law_down","_law_k","_law_one","_law_at","_law_a","_law_b"] ["_law_tape_here","_law_most"] (Jd Jbg):=⟨rfl,rfl,rfl,by decide +kernel,rfl,by decide +kernel,by decide +kernel⟩
theorem Jmr (T:Txt mg) (D:Def K mg "_law_book" Jbg ["_law_tape_here","_law_most"]) (Ga:Cal P w K mg base "_law_draw" 1 ["_law_tape_here","_law_many"] (Jn Jby)) (G0:Cal P w K mg base "_law_nested" 4 ["_law_tape_here","_law_rooms","_law_purses"] (Y3 Jey)) (Gk:Cal P w K mg base "_law_gains" 3 ["_law_tape_here","_law_purses"] (Jn Jdw)):Cal P w K mg base "_law_book" 5 ["_law_tape_here","_law_most"] (Jn Jj4):=by
 refine D.cal λ f fd F=>F.ok Zf (Yd ?_) (λ cdv A outer s H vs Q E hr h=>?_)
 . rintro as n P ⟨mr,mu,mw,rfl,_⟩
   rfl
 refine ⟨_,(@Jb _ _ _ _ _ (Jw (i:=2) Zf.nd rfl (Qs rfl) (Jv Wh Jg (Y7 Ga (hr.mono (by decide)) rfl (Ja (pv 0) (Ym (Jp Yg (pv 1) Jg (λ _ _=>rfl)) Jc)))))
  (@Jb _ _ _ _ _ (Jw (i:=3) Zf.nd rfl (Qa rfl) (Jv Wh Jg (Y7 Ga (hr.mono (by decide)) rfl (Ja (pv 0) (Ym (Jp Yg (pv 1) Jg (λ _ _=>rfl)) Jc)))))
  (@Jb _ _ _ _ _ (@B8 _ _ 4 _ _ _ _ Zf.nd rfl (Qa rfl) (Yb Jt) rfl (Qa rfl))
  (@Jb _ _ _ _ _ (Wl (Ya Jbp (Y7 Ga (hr.mono (by decide)) rfl (Ja (pv 0) (Y9 Jg Jc))) Jg (J9 _)) (@Ji _ _ _ (Jw (i:=4) Zf.nd rfl (Qa rfl) (Y7 G0 (hr.mono (by decide)) rfl (Ja (pv 0) (Ja (pv 2) (Ja (pv 3) Jc)))))) Yr)
  (@Jb _ _ _ _ _ (Jw (i:=5) Zf.nd rfl (Qa rfl) (Y7 Ga (hr.mono (by decide)) rfl (Ja (pv 0) (Y9 Jg Jc))))
  (@Jb _ _ _ _ _ (Vf Xv rfl (Zg rfl T.b_range (Wa (Y7 Ga (hr.mono (by decide)) rfl (Ja (pv 0) (Wa (Jx (Jp6 rfl) rfl T.b_max boot_max (Y9 Jg (V4 (Jv Ja0 (Jv Wh (Jp Yg (pv 1) Jg (λ _ _=>rfl)) Jg) (Jx J7 rfl T.b_len Ud (Ja (pv 4) Jc))) Jc))) Jc))) Jc)) (J0 (i:=6) Zf.nd rfl (Qa rfl) (Qa rfl))
  (@Jb _ _ _ _ _ (Jw (i:=7) Zf.nd rfl (Qa rfl) (J5 Wu rfl T.b_list Ya4 (Wa (Y7 Gk (hr.mono (by decide)) rfl (Ja (pv 0) (Ja (pv 3) Jc))) Jc)))
  (@Jb _ _ _ _ _ (Wl (Ya Jbp (pv 5) Jg (J9 _)) (@Jb _ _ _ _ _ (Jw (i:=8) Zf.nd rfl (Qa rfl) (Y7 Ga (hr.mono (by decide)) rfl (Ja (pv 0) (Ja (pv 3) Jc))))
  (@Ji _ _ _ (Yf (Jx (Jp7 rfl) rfl T.b_min boot_min (Ym (Jp Js (pv 7) (pv 8) (λ _ _=>rfl)) (Jli (Vg Z8 Jg) Jc))) (Wg (pv 7) (pv 8) Yv (λ v=>J2 _ _ _ _ _ v))))) Yr)
  (@Jb _ _ _ _ _ (Yf (Yw (sc:=(Jd Jbg)) (N:=["_law_tape_here","_law_most","_law_rooms","_law_purses","_law_ways","_law_down","_law_k","_law_one","_law_at","_law_a","_law_b"]) (N':=["_law_end","_law_tape_here","_law_rooms"]) (k:=1) (idx:=[0,2]) rfl (by exact ⟨rfl,by decide +kernel,by decide +kernel,by decide +kernel,by decide +kernel,by decide +kernel,rfl,rfl⟩) rfl rfl (Zg rfl T.b_range (Y9 Jg Jc)) (λ _ _ _ _=>(J0 (i:=0) (show (["_law_end","_law_tape_here","_law_rooms"]:List Str).Nodup by decide +kernel) rfl (Qa rfl) (Qs rfl))) (λ _ _ _ _=>Yu) (λ _ _ _ _=>(Y7 Ga (hr.mono (by decide)) rfl (Ja (pv 1) (Ja (pv 2) Jc))))) (Jlm (K':=K) (i:=9) (j:=10) rfl Zf.nd ⟨rfl,(Qa rfl),(Qa rfl)⟩ ⟨rfl,(Qa rfl),(Qa rfl)⟩ rfl))
  (@Ji _ _ _ (Jck (Jfk J3i J42 J43 Bg (pv 4) (Jam (@PEs.out _ _ _ (Zd (Ys (Jr (pv 9)) (Ys (Jr (pv 10)) (Yh (Jr (J5 Ye rfl T.b_tuple Ya0 (Ja (pv 7) Jc))) Jt))))) Jc))))))))
  (@Ji _ _ _ (@Jy _ _ _ _ (@PEs.out _ _ _ (Zd (Ys (Jr (pv 2)) (Ys (Jr (pv 3)) (Yh (Jr (J5 Ye rfl T.b_tuple Ya0 (Ja (pv 4) Jc))) Jt))))))))))))),J6 h ?_⟩
 rintro as n P ⟨mr,mu,mw,rfl,hn,hr,hu,hw,q⟩
 have hs:sizeLine=16777216:=Yar
 refine ⟨rfl,_,rfl,mr,rfl,by omega,by omega,Vv (by omega),λ r r0 r1=>⟨_,.refl,_,rfl,mu,rfl,by omega,by omega,Vv (by omega),λ u u0 u1=>⟨_,.refl,Xl _,?_⟩⟩⟩
 refine ⟨[.tape,.d (.tuple [.int mr,.int mu,.int mw]),.d (.int (1+r)),.d (.int (1+u)),.own [],.jnk,.jnk,.jnk,.jnk,.jnk,.jnk],.eq rfl,?_⟩
 generalize hR:1+r=R
 generalize hU:1+u=U
 refine Jqu (λ e k=>∃ ws:List Way,e=[.tape,.d (.tuple [.int mr,.int mu,.int mw]),.d (.int R),.d (.int U),.own (ws.map Y2),.jnk,.jnk,.jnk,.jnk,.jnk,.jnk]/\(∀ w∈ws,WayOk R U w)/\ws.length<=24/\k<=n+63) (λ N hN=>?_) ?_
 . refine ⟨3,rfl,by omega,by decide,by decide +kernel,λ z z0 z1=>Jg3 (Vc (λ c=>?_) (λ c=>?_))⟩
   . exact ⟨R,U,rfl,by omega,by omega,by omega,λ ws m hw hl hm=>hN _ _ ⟨ws,rfl,hw,hl,by omega⟩⟩
   . exact hN _ _ ⟨[],rfl,(λ w hw=>by cases hw),by decide,by omega⟩
 rintro _ k ⟨ws,rfl,hw0,hl0,hk⟩
 refine ⟨_,.refl,3,rfl,by omega,by decide,by decide +kernel,λ dn d0 d1=>⟨_,.refl,_,rfl,?_⟩⟩
 generalize hmm:(if mw+1-((ws.map Y2).length:Int)>1 then mw+1-((ws.map Y2).length:Int) else 1)=mm
 have hmm2:1<=mm/\mm<=37/\(mm=1\/mm+ws.length=mw+1):=by
  rw [Qc] at hmm
  split at hmm<;>omega
 refine ⟨mm,by rw [<- hmm],by omega,by omega,Vv (by omega),λ t t0 t1=>⟨t,rfl,⟨by omega,by omega⟩,?_⟩⟩
 refine ⟨λ i env k'=>∃ (vs:List Way) (a b c d e:Vl),env=[.tape,.d (.tuple [.int mr,.int mu,.int mw]),.d (.int R),.d (.int U),.own (vs.map Y2),.d (.int dn),a,b,c,d,e]/\(∀ w∈vs,WayOk R U w)/\vs.length=ws.length+i/\k'<=n+65+15*i,⟨ws,_,_,_,_,_,rfl,hw0,rfl,by omega⟩,?_,?_⟩
 . rintro i x env k' hx ⟨vs,xa,xb,xc,xd,xe,rfl,hw,hl,hk'⟩
   obtain ⟨hi,rfl⟩:=Jj3 hx
   refine ⟨U,rfl,by omega,by omega,by omega,λ f m hf hm=>⟨_,.refl,?_⟩⟩
   refine Jqu (λ e j=>∃ (g:Nat->Int) (x:Vl),e=[.tape,.d (.tuple [.int mr,.int mu,.int mw]),.d (.int R),.d (.int U),.own (vs.map Y2),.d (.int dn),.d (.int i),.own (fl U.toNat g),x,xd,xe]/\(∀ j,j<U.toNat->-99<=g j/\g j<=99)/\j<=m+1) (λ N hN=>?_) ?_
   . refine Jg3 (Vc (λ c=>?_) (λ c=>hN _ _ ⟨f,_,rfl,λ j hj=>by have:=hf j hj;omega,by omega⟩))
     refine ⟨U,rfl,by omega,by omega,Vv (by omega),λ p p0 p1=>⟨_,.refl,_,Yi p0 (Jsy (by omega)),_,Jni p0 (by rw [Jj0];omega),?_⟩⟩
     rw [Jnp]
     have fp:=hf p.toNat (by omega)
     exact hN _ _ ⟨_,_,rfl,Jj5 (λ j hj=>by have:=hf j hj;omega) (by show -99<=(if (-1:Int)<f p.toNat then (-1:Int) else f p.toNat)/\(if (-1:Int)<f p.toNat then (-1:Int) else f p.toNat)<=99;split<;>omega),by omega⟩
   rintro _ j ⟨g,y,rfl,hg,hj⟩
   refine ⟨_,.fz 7 _ rfl .refl,2,rfl,⟨by decide,by decide⟩,⟨rfl,by rw [Yq];decide⟩,?_⟩
   refine Jg6 1 (m+3) (λ y=>∃ i:Int,y = .int i/\0<=i/\i<=R-1) (λ x _ k K hk h=>V3 ⟨R,rfl,by omega,by omega,Vv (by omega),λ r r0 r1=>h _ _ ⟨r,rfl,r0,by omega⟩ (by omega)⟩) (by rw [Yq];show j+1*2<=m+3;omega) (λ ys k hy hgy hk=>?_)
   rw [Yq] at hy hk
   match ys,hy with
   | [y0,y1],_=>
    obtain ⟨a,rfl,a0,a1⟩:=hgy _ Qk
    obtain ⟨b,rfl,b0,b1⟩:=hgy _ (Qj _ Qk)
    refine ⟨rfl,rfl,⟨_,.refl,Bq,by rw [Qc];omega,?_⟩⟩
    have hk2:k<=j+1*2:=hk
    refine ⟨vs++[Jfo a b U g],.d (.int i),.d (.list (fl U.toNat g)),y,.d (.int a),.d (.int b),?_,λ w hw'=>?_,by simp;omega,by omega⟩
    . rw [Xd,J4u,<- Jg7];rfl
    . rcases Xh.mp hw' with hw' | hw'
      . exact hw w hw'
      . rw [Qu.mp hw']
        exact Jg8 (by omega) (by omega) (by omega) hg
 . rintro env k' ⟨vs,_,_,_,_,_,rfl,hw,hl,hk'⟩
   rw [Yq] at hl hk'
   refine ⟨_,.fz 4 _ rfl .refl,Bq,q R U vs k' ⟨by omega,by omega,by omega,by omega,by omega,hw⟩ (by omega) (by omega) (by omega)⟩
theorem Jms:FnScope ["thing"] ["thing"] (Jd Jdd):=⟨rfl,rfl,rfl,by decide +kernel,rfl,by decide +kernel,by decide +kernel⟩
theorem Jmt (T:Txt mg) (D:Def K mg "is_whole" Jdd ["thing"]):Cal P w K mg base "is_whole" 1 ["thing"] (Jn Jj2):=by
 refine D.cal λ f fd F=>F.ok Jms (Yd ?_) (λ cdv A outer s H vs Q E hr h=>?_)
 . rintro as n P ⟨x,rfl,_⟩
   rfl
 refine ⟨_,(@Ji _ _ _ (@Jy _ _ _ _ (Jji (Jx Jlg rfl T.b_isinstance Ya1 (Ja (pv 0) (Ja (Jjf rfl T.b_int Ybk (v:=.ty "int") rfl) Jc))) (Jel (Jrl (Jx Jlg rfl T.b_isinstance Ya1 (Ja (pv 0) (Ja (Jjf rfl T.b_bool boot_bool (v:=.ty "bool") rfl) Jc)))))))),J6 h ?_⟩
 rintro as n P ⟨x,rfl,q⟩
 exact ⟨rfl,rfl,rfl,q⟩
theorem Jim:FnScope ["thing","least","most"] ["thing","least","most"] (Jd Jbd):=⟨rfl,rfl,rfl,by decide +kernel,rfl,by decide +kernel,by decide +kernel⟩
theorem Jin (T:Txt mg) (D:Def K mg "is_between" Jbd ["thing","least","most"]) (Gm:Cal P w K mg base "is_whole" 1 ["thing"] (Jn Jj2)):Cal P w K mg base "is_between" 2 ["thing","least","most"] (Jn Jex):=by
 refine D.cal λ f fd F=>F.ok Jim (Yd ?_) (λ cdv A outer s H vs Q E hr h=>?_)
 . rintro as n P ⟨x,a,b,rfl,_⟩
   rfl
 refine ⟨_,(@Ji _ _ _ (@Jy _ _ _ _ (Jji (Y7 Gm (hr.mono (by decide)) rfl (Ja (pv 0) Jc)) (Jel (Jry Jrw Jrw (pv 1) (pv 0) (pv 2)))))),J6 h ?_⟩
 rintro as n P ⟨x,a,b,rfl,q⟩
 refine ⟨rfl,x,rfl,?_⟩
 by_cases h:a<=x
 . rw [decide_eq_true h] at q
   show match J5o (decide (a<=x)) with | .bool true=>_ | .bool false=>_ | _=>_
   rw [decide_eq_true h]
   exact q
 . rw [decide_eq_false h] at q
   show match J5o (decide (a<=x)) with | .bool true=>_ | .bool false=>_ | _=>_
   rw [decide_eq_false h]
   exact q
theorem Joi:FnScope ["book","k"] ["book","k"] (Jd Je7):=⟨rfl,rfl,rfl,by decide +kernel,rfl,by decide +kernel,by decide +kernel⟩
theorem Joj (T:Txt mg) (D:Def K mg "has_way" Je7 ["book","k"]) (Gn:Cal P w K mg base "is_between" 2 ["thing","least","most"] (Jn Jex)):Cal P w K mg base "has_way" 3 ["book","k"] (Jn Jkx):=by
 refine D.cal λ f fd F=>F.ok Joi (Yd ?_) (λ cdv A outer s H vs Q E hr h=>?_)
 . rintro as n P ⟨R,U,ws,k,rfl,_⟩
   rfl
 refine ⟨_,(@Ji _ _ _ (@Jy _ _ _ _ (Y7 Gn (hr.mono (by decide)) rfl (Ja (pv 1) (Y9 Jg (V4 (Jv Ja0 (Jx J7 rfl T.b_len Ud (Ym (Jp Yg (pv 0) Jg (λ _ _=>rfl)) Jc)) Jg) Jc)))))),J6 h ?_⟩
 rintro as n P ⟨R,U,ws,k,rfl,q⟩
 refine ⟨rfl,_,rfl,k,0,_,rfl,?_⟩
 rw [Qc]
 exact q
theorem Jrf:FnScope ["numbers","gains"] ["numbers","gains"] (Jd Jeh):=⟨rfl,rfl,rfl,by decide +kernel,rfl,by decide +kernel,by decide +kernel⟩
theorem Jrg (T:Txt mg) (D:Def K mg "put_to" Jeh ["numbers","gains"]):Cal P w K mg base "put_to" 1 ["numbers","gains"] (Jn Jkb):=by
 refine D.cal λ f fd F=>F.ok Jrf (Yd ?_) (λ cdv A outer s H vs Q E hr h=>?_)
 . rintro as n P ⟨xs,gs,rfl,_⟩
   rfl
 refine ⟨_,(@Ji _ _ _ (@Jy _ _ _ _ (J5 Ye rfl T.b_tuple Ya0 (Ja3 (Yw (sc:=(Jd Jeh)) (N:=["numbers","gains"]) (N':=["number","more"]) (k:=2) (idx:=[]) rfl (by exact ⟨rfl,by decide +kernel,by decide +kernel,by decide +kernel,by decide +kernel,by decide +kernel,rfl,rfl⟩) rfl rfl (Jai rfl T.b_zip (Ja (pv 0) (Ja (pv 1) Jc))) (λ _ _ _ _=>(Y4 (K':=K) (i:=0) (j:=1) rfl (show (["number","more"]:List Str).Nodup by decide +kernel) ⟨rfl,(Qa rfl),(Qs rfl)⟩ ⟨rfl,(Qa rfl),(Qs rfl)⟩ rfl)) (λ _ _ _ _=>Yu) (λ _ _ _ _=>(Jv Wh (pv 0) (pv 1)))) Jc)))),J6 h ?_⟩
 rintro as n P ⟨xs,gs,rfl,h1,h2,q⟩
 have hs:sizeLine=16777216:=Yar
 refine ⟨rfl,_,_,_,_,rfl,rfl,rfl,⟨rfl,by rw [Vy,Qc,J5y];omega⟩,?_⟩
 rw [Vy]
 refine Ww (f:=λ p:Int×Int=>Uy [.int p.1,.int p.2]) (λ p:Int×Int=>Qn (p.1+p.2)) (λ p hp m K hK=>⟨rfl,rfl,V3 hK⟩) ?_
 have e:((xs.zip gs).map λ p=>Qn (p.1+p.2))=(Jbk xs gs).map .int:=by rw [Jtg,Q0];rfl
 rw [e]
 exact q
theorem Jcf:FnScope ["way","stand","a","b","gains","room","numbers"] ["way","stand"] (Jd Jbe):=⟨rfl,rfl,rfl,by decide +kernel,rfl,by decide +kernel,by decide +kernel⟩
theorem Jmu (T:Txt mg) (D:Def K mg "leads_on" Jbe ["way","stand"]) (Gd:Cal P w K mg base "put_to" 1 ["numbers","gains"] (Jn Jkb)):Cal P w K mg base "leads_on" 2 ["way","stand"] (Jn Jd1):=by
 refine D.cal λ f fd F=>F.ok Jcf (Yd ?_) (λ cdv A outer s H vs Q E hr h=>?_)
 . rintro as n P ⟨way,st,rfl,_⟩
   rfl
 refine ⟨_,(@Jb _ _ _ _ _ (Yf (pv 0) (B6 (K':=K) (i:=2) (j:=3) (m:=4) rfl Jcf.nd ⟨rfl,(Qa rfl),(Qa rfl)⟩ ⟨rfl,(Qa rfl),(Qa rfl)⟩ ⟨rfl,(Qa rfl),(Qa rfl)⟩ rfl))
  (@Jb _ _ _ _ _ (Yf (pv 1) (Y4 (K':=K) (i:=5) (j:=6) rfl Jcf.nd ⟨rfl,(Qa rfl),(Qa rfl)⟩ ⟨rfl,(Qa rfl),(Qa rfl)⟩ rfl))
  (@Ji _ _ _ (@Jy _ _ _ _ (Jji (Vh Jbp (pv 2) (pv 5) (J9 _)) (Jel (Jx Jr8 rfl T.b_all boot_all (Ja3 (Yw (sc:=(Jd Jbe)) (N:=["way","stand","a","b","gains","room","numbers"]) (N':=["number"]) (k:=1) (idx:=[]) rfl (by exact ⟨rfl,by decide +kernel,by decide +kernel,by decide +kernel,by decide +kernel,by decide +kernel,rfl,rfl⟩) rfl rfl (Jrr (Y7 Gd (hr.mono (by decide)) rfl (Ja (pv 6) (Ja (pv 4) Jc)))) (λ _ _ _ _=>(J0 (i:=0) (show (["number"]:List Str).Nodup by decide +kernel) rfl (Qa rfl) (Qs rfl))) (λ _ _ _ _=>Yu) (λ _ _ _ _=>(Vh Jw8 (pv 0) Jg (J9 _)))) Jc)))))))),J6 h ?_⟩
 rintro as n P ⟨way,⟨room,xs⟩,rfl,h1,h2,q⟩
 have hs:sizeLine=16777216:=Yar
 have h1:xs.length<=1000:=h1
 have h2:xs.length=way.g.length:=h2
 have q:P (.bool (decide (way.a=room)&&(Jbk xs way.g).all λ x=>decide (0<=x))) n:=q
 refine ⟨rfl,rfl,rfl,⟨[.d (Y2 way),.d (Z0 room xs),.d (.int way.a),.d (.int way.b),.d (.tuple (way.g.map .int)),.jnk,.jnk],.eq rfl,rfl,rfl,⟨[.d (Y2 way),.d (Z0 room xs),.d (.int way.a),.d (.int way.b),.d (.tuple (way.g.map .int)),.d (.int room),.d (.tuple (xs.map .int))],.eq rfl,?_⟩⟩⟩
 refine Jg3 ?_
 by_cases e:way.a=room
 . rw [decide_eq_true e]
   rw [decide_eq_true e,J7b] at q
   refine ⟨xs,way.g,rfl,h1,h2,⟨rfl,by rw [Qc,Jll];omega⟩,?_⟩
   refine Ww (λ x=>J5o (decide (0<=x))) (λ x hx m K hK=>V3 hK) ?_
   refine ⟨(Jbk xs way.g).map λ x=>decide (0<=x),by rw [Q0];rfl,rfl,?_⟩
   rw [List.all_map]
   exact q
 . rw [decide_eq_false e]
   rw [decide_eq_false e,J56] at q
   exact q
theorem Jrh:FnScope ["book","stand"] ["book","stand"] (Jd Jei):=⟨rfl,rfl,rfl,by decide +kernel,rfl,by decide +kernel,by decide +kernel⟩
theorem Jri (T:Txt mg) (D:Def K mg "can_do" Jei ["book","stand"]) (Ge:Cal P w K mg base "leads_on" 2 ["way","stand"] (Jn Jd1)):Cal P w K mg base "can_do" 3 ["book","stand"] (Y3 Jnt):=by
 refine D.cal λ f fd F=>F.ok Jrh (Wd ?_) (λ cdv A outer s H vs Q E hr h=>?_)
 . rintro as n P ⟨R,U,ws,st,rfl,_⟩
   rfl
 refine ⟨_,(@Ji _ _ _ (@Jy _ _ _ _ (Yw (sc:=(Jd Jei)) (N:=["book","stand"]) (N':=["k","way","stand"]) (k:=2) (idx:=[1]) rfl (by exact ⟨rfl,by decide +kernel,by decide +kernel,by decide +kernel,by decide +kernel,by decide +kernel,rfl,rfl⟩) rfl rfl (Jdr rfl T.b_enumerate (Ym (Jp Yg (pv 0) Jg (λ _ _=>rfl)) Jc)) (λ _ _ _ _=>(Y4 (K':=K) (i:=0) (j:=1) rfl (show (["k","way","stand"]:List Str).Nodup by decide +kernel) ⟨rfl,(Qa rfl),(Qs rfl)⟩ ⟨rfl,(Qa rfl),(Qs rfl)⟩ rfl)) (λ _ _ _ _=>Jjn (Jbo (Y7 Ge (hr.mono (by decide)) rfl (Ja (pv 1) (Ja (pv 2) Jc))))) (λ _ _ _ _=>(pv 0))))),Zw h ?_⟩
 rintro as n P ⟨R,U,ws,st,rfl,ok,hU,q⟩
 have hs:sizeLine=16777216:=Yar
 have wl:=ok.len
 have p1:=ok.p1
 refine ⟨rfl,_,Yi (by decide) rfl,_,_,rfl,rfl,⟨rfl,by rw [Jc7,Qc,Qz];omega⟩,?_⟩
 rw [Jc7]
 refine Jf7 (p:=λ i=>Jiy (Jj ws ((i:Nat):Int)).a st.1 st.2 (Jj ws ((i:Nat):Int)).g) (h:=λ i=>Qn ((i:Nat):Int)) (λ i hi K h1 h2=>?_) ?_
 . have hi:=Q5.mp hi
   have wok:=(ok.ways _ (Yp (ws:=ws) (k:=((i:Nat):Int)) (by omega) (by omega))).len
   exact ⟨rfl,rfl,Jj ws ((i:Nat):Int),st,rfl,by omega,by omega,Vc (λ c=>h1 c) (λ c=>h2 c)⟩
 . unfold Vt at q
   rw [Q0] at q
   exact q
theorem Jfa:FnScope ["book","stand","k","way","a","b","gains"] ["book","stand","k"] (Jd Jh8):=⟨rfl,rfl,rfl,by decide +kernel,rfl,by decide +kernel,by decide +kernel⟩
theorem Jrj (T:Txt mg) (D:Def K mg "behind" Jh8 ["book","stand","k"]) (Gh:Cal P w K mg base "has_way" 3 ["book","k"] (Jn Jg5)) (Ge:Cal P w K mg base "leads_on" 2 ["way","stand"] (Jn Jd1)) (Gd:Cal P w K mg base "put_to" 1 ["numbers","gains"] (Jn Jkb)):Cal P w K mg base "behind" 4 ["book","stand","k"] (Jn Jkc):=by
 refine D.cal λ f fd F=>F.ok Jfa (Yd ?_) (λ cdv A outer s H vs Q E hr h=>?_)
 . rintro as n P ⟨R,U,ws,st,k,rfl,_⟩
   rfl
 refine ⟨_,(@Jb _ _ _ _ _ (Wl (Jjh (Jbo (Y7 Gh (hr.mono (by decide)) rfl (Ja (pv 0) (Ja (pv 2) Jc))))) Jip Yr)
  (@Jb _ _ _ _ _ (Jw (i:=3) Jfa.nd rfl (Qa rfl) (Jp Yg (Jp Yg (pv 0) Jg (λ _ _=>rfl)) (pv 2) (λ _ _=>rfl)))
  (@Jb _ _ _ _ _ (Wl (Jjh (Jbo (Y7 Ge (hr.mono (by decide)) rfl (Ja (pv 3) (Ja (pv 1) Jc))))) Jip Yr)
  (@Jb _ _ _ _ _ (Yf (pv 3) (B6 (K':=K) (i:=4) (j:=5) (m:=6) rfl Jfa.nd ⟨rfl,(Qa rfl),(Qa rfl)⟩ ⟨rfl,(Qa rfl),(Qa rfl)⟩ ⟨rfl,(Qa rfl),(Qa rfl)⟩ rfl))
  (@Ji _ _ _ (@Jy _ _ _ _ (@PEs.out _ _ _ (Zd (Ys (Jr (pv 5)) (Yh (Jr (Y7 Gd (hr.mono (by decide)) rfl (Ym (Jp Yg (pv 1) Jg (λ _ _=>rfl)) (Ja (pv 6) Jc)))) Jt)))))))))),J6 h ?_⟩
 rintro as n P ⟨R,U,ws,⟨room,xs⟩,k,rfl,ok,hU,hk,q⟩
 obtain ⟨⟨k0,k1⟩,hl⟩:=Jv8 hk
 have hU:(xs.length:Int)=U:=hU
 have hl:Jiy (Jj ws k).a room xs (Jj ws k).g=true:=hl
 have wok:=(ok.ways _ (Yp k0 k1)).len
 have p1:=ok.p1
 refine ⟨rfl,R,U,ws,k,rfl,⟨k0,k1⟩,Jc0 ⟨_,.refl,_,Yi (by decide) rfl,_,Jc6 k0 k1,⟨[.d (J3 R U ws),.d (Z0 room xs),.d (.int k),.d (Y2 (Jj ws k)),.jnk,.jnk,.jnk],.eq rfl,?_⟩⟩⟩
 refine ⟨Jj ws k,(room,xs),rfl,by show xs.length<=1000;omega,by show xs.length=_;omega,?_⟩
 show if (!Jiy (Jj ws k).a room xs (Jj ws k).g)=true then _ else _
 rw [hl]
 refine Jc0 ⟨_,.refl,rfl,rfl,⟨[.d (J3 R U ws),.d (Z0 room xs),.d (.int k),.d (Y2 (Jj ws k)),.d (.int (Jj ws k).a),.d (.int (Jj ws k).b),.d (.tuple ((Jj ws k).g.map .int))],.eq rfl,?_⟩⟩
 exact ⟨_,Yi (by decide) rfl,xs,(Jj ws k).g,rfl,by omega,by omega,Jaq,q⟩
theorem Y1:FnScope ["book","some","rooms","purses","ways","leads","k","a","b","gains","middle","room"] ["book","some"] (Jd Zq):=⟨rfl,rfl,rfl,by decide +kernel,rfl,by decide +kernel,by decide +kernel⟩
theorem Jfb (T:Txt mg) (D:Def K mg "rooms_reached" Zq ["book","some"]):Cal P w K mg base "rooms_reached" 1 ["book","some"] (Jn Jka):=by
 refine D.cal λ f fd F=>F.ok Y1 (Yd ?_) (λ cdv A outer s H vs Q E hr h=>?_)
 . rintro as n P ⟨R,U,ws,ks,rfl,_⟩
   rfl
 refine ⟨_,(@Jb _ _ _ _ _ (Yf (pv 0) (B6 (K':=K) (i:=2) (j:=3) (m:=4) rfl Y1.nd ⟨rfl,(Qs rfl),(Qa rfl)⟩ ⟨rfl,(Qa rfl),(Qa rfl)⟩ ⟨rfl,(Qa rfl),(Qa rfl)⟩ rfl))
  (@Jb _ _ _ _ _ (Jvy (Wo (i:=5) (sc:=(Jd Zq)) (N:=["book","some","rooms","purses","ways","leads","k","a","b","gains","middle","room"]) (N':=["room","rooms"]) (k:=1) (idx:=[2]) rfl Y1.nd rfl rfl (by exact ⟨rfl,by decide +kernel,by decide +kernel,by decide +kernel,by decide +kernel,by decide +kernel,rfl,rfl⟩) rfl rfl (Zg rfl T.b_range (Ja (pv 2) Jc)) (λ _ _ _ _=>(J0 (i:=0) (show (["room","rooms"]:List Str).Nodup by decide +kernel) rfl (Qs rfl) (Qa rfl))) (λ _ _ _ _=>Yu) (λ _ _ _ _=>(Yw (sc:=Jvq _ (Jd Zq)) (N:=["room","rooms"]) (N':=["other","room"]) (k:=1) (idx:=[0]) rfl (by exact ⟨rfl,by decide +kernel,by decide +kernel,by decide +kernel,by decide +kernel,by decide +kernel,rfl,rfl⟩) (Jy3 rfl) rfl (by exact (Zg rfl T.b_range (Ja (pv 1) Jc))) (λ _ _ _ _=>(J0 (i:=0) (show (["other","room"]:List Str).Nodup by decide +kernel) rfl (Qa rfl) (Qs rfl))) (λ _ _ _ _=>Yu) (λ _ _ _ _=>(Vh Jbp (pv 1) (pv 0) (J9 _)))))))
  (@Jb _ _ _ _ _ (Vf Xv rfl (B1 (pv 1)) (J0 (i:=6) Y1.nd rfl (Qa rfl) (Qa rfl))
  (@Jb _ _ _ _ _ (Yf (Jp Yg (pv 4) (pv 6) (λ _ _=>rfl)) (B6 (K':=K) (i:=7) (j:=8) (m:=9) rfl Y1.nd ⟨rfl,(Qa rfl),(Qa rfl)⟩ ⟨rfl,(Qa rfl),(Qa rfl)⟩ ⟨rfl,(Qa rfl),(Qa rfl)⟩ rfl))
  (@Ji _ _ _ (Yf Jdj (Wg (Jp Js (pv 5) (pv 7) (λ _ _=>rfl)) (pv 8) Yv (λ v=>J2 _ _ _ _ _ v))))))
  (@Jb _ _ _ _ _ (Vf Xv rfl (Zg rfl T.b_range (Ja (pv 2) Jc)) (J0 (i:=10) Y1.nd rfl (Qa rfl) (Qa rfl))
  (@Ji _ _ _ (Vf Xv rfl (Zg rfl T.b_range (Ja (pv 2) Jc)) (J0 (i:=11) Y1.nd rfl (Qa rfl) (Qa rfl))
  (@Ji _ _ _ (Wl (Jbo (Jp Js (Jp Js (pv 5) (pv 11) (λ _ _=>rfl)) (pv 10) (λ _ _=>rfl))) (@Ji _ _ _ (Jo7 (Yf (Yw (sc:=(Jd Zq)) (N:=["book","some","rooms","purses","ways","leads","k","a","b","gains","middle","room"]) (N':=["now","then"]) (k:=2) (idx:=[]) rfl (by exact ⟨rfl,by decide +kernel,by decide +kernel,by decide +kernel,by decide +kernel,by decide +kernel,rfl,rfl⟩) rfl rfl (Jv0 (Jvh (K':=K) rfl rfl T.b_zip (Ym (Jp Js (pv 5) (pv 11) (λ _ _=>rfl)) (Ym (Jp Js (pv 5) (pv 10) (λ _ _=>rfl)) Jc)))) (λ _ _ _ _=>(Y4 (K':=K) (i:=0) (j:=1) rfl (show (["now","then"]:List Str).Nodup by decide +kernel) ⟨rfl,(Qa rfl),(Qs rfl)⟩ ⟨rfl,(Qa rfl),(Qs rfl)⟩ rfl)) (λ _ _ _ _=>Yu) (λ _ _ _ _=>(Jw5 (pv 0) (Jel (pv 1))))) (Wg (pv 5) (pv 11) Yv (λ v=>J2 _ _ _ _ _ v))))) Yr)))))
  (@Ji _ _ _ (@Jy _ _ _ _ (pv 5))))))),J6 h ?_⟩
 rintro as n P ⟨R,U,ws,ks,rfl,ok,hk,q⟩
 have r0:=ok.r0
 have r1:=ok.r1
 have hs:sizeLine=16777216:=Yar
 have hR:((R.toNat:Nat):Int)=R:=J36 (by omega)
 refine ⟨rfl,rfl,rfl,⟨_,.refl,?_⟩⟩
 refine ⟨R,rfl,⟨by omega,by omega⟩,⟨rfl,by rw [Yq];omega,?_⟩,?_⟩
 . unfold Jif
   rw [Uv]
   intro x hx
   obtain ⟨b,_,rfl⟩:=Qq.mp hx
   rfl
 refine Jlx (λ a=>Bd R.toNat (pw0 []) a) (Qg R.toNat) (λ i hi K hK=>?_) ?_
 . refine ⟨R,rfl,⟨by omega,by omega⟩,⟨rfl,by rw [Yq];omega⟩,?_⟩
   refine Ve (λ j=>.bool (pw0 [] i j)) (λ j hj n K hK=>V3 (Jg3 ?_)) hK
   have:decide ((0+(i:Int))=0+(j:Int))=pw0 [] i j:=by
    unfold pw0
    rw [decide_eq_false (p:=(i,j)∈[]) (by simp),Bool.or_false]
    exact decide_eq_decide.mpr (by omega)
   rw [this]
   exact hK
 intro ps hps
 refine ⟨_,.refl,?_⟩
 refine ⟨λ i env n'=>n'=n/\∃ (ps:List (Addr×List Yal)) (x6 x7 x8 x9:Vl),env=[.d (J3 R U ws),.d (.list (ks.map .int)),.d (.int R),.d (.int U),.d (.tuple (ws.map Y2)),.own2 none ps,x6,x7,x8,x9,.jnk,.jnk]/\ps.map (·.2)=Vx R.toNat (pw0 (Jct ws (ks.take i))),⟨rfl,ps,_,_,_,_,rfl,hps⟩,?_,?_⟩
 . rintro i x env n' hx ⟨rfl,ps,x6,x7,x8,x9,rfl,hps⟩
   rw [Qm] at hx
   obtain ⟨k,hki,rfl⟩:=J4a.mp hx
   obtain ⟨k0,k1⟩:=hk k (Xm hki)
   have wok:=ok.ways _ (Yp k0 k1)
   have a0:=wok.a0
   have a1:=wok.a1
   have b0:=wok.b0
   have b1:=wok.b1
   have ha:(Jj ws k).a.toNat<R.toNat:=by omega
   have hb:(Jj ws k).b.toNat<R.toNat:=by omega
   obtain ⟨p,hp,ep⟩:=Jlv hps (Jas (f:=pw0 (Jct ws (ks.take i))) ha)
   refine ⟨_,Jc6 k0 k1,rfl,rfl,⟨_,.refl,?_⟩⟩
   refine ⟨_,p,Jc2 a0 (by rw [Jhc hps,Bt];omega),hp,_,Jc2 b0 (by rw [ep,Jbz];omega),rfl,_,_,_,_,_,rfl,?_⟩
   rw [Jqx hki,ep]
   exact Jlw hps (Jv3 ha hb)
 . rintro env _ ⟨rfl,ps,x6,x7,x8,x9,rfl,hps⟩
   rw [Qc,J7u,Jzl] at hps
   refine ⟨_,.refl,R,rfl,⟨by omega,by omega⟩,λ m env k=>k=_/\∃ (ps:List (Addr×List Yal)) (x6 x7 x8 x9 x10 x11:Vl),env=[.d (J3 R U ws),.d (.list (ks.map .int)),.d (.int R),.d (.int U),.d (.tuple (ws.map Y2)),.own2 none ps,x6,x7,x8,x9,x10,x11]/\ps.map (·.2)=Vx R.toNat (Pw (Jct ws ks) m),⟨rfl,ps,_,_,_,_,_,_,rfl,hps⟩,?_,?_⟩
   . rintro m x env _ hx ⟨rfl,ps,x6,x7,x8,x9,x10,x11,rfl,hps⟩
     obtain ⟨hm,rfl⟩:=Jo9 hx
     refine ⟨R,rfl,⟨by omega,by omega⟩,λ r env k=>k=_/\∃ (ps:List (Addr×List Yal)) (x11:Vl),env=[.d (J3 R U ws),.d (.list (ks.map .int)),.d (.int R),.d (.int U),.d (.tuple (ws.map Y2)),.own2 none ps,x6,x7,x8,x9,.d (.int m),x11]/\ps.map (·.2)=Vx R.toNat (pwR (Jct ws ks) m r),⟨rfl,ps,_,rfl,by rw [J1r];exact hps⟩,?_,?_⟩
     . rintro r x env _ hx ⟨rfl,ps,x11,rfl,hps⟩
       obtain ⟨hr',rfl⟩:=Jo9 hx
       refine ⟨_,Jj9 hps (Xi r) (by omega),_,Js7 (Xi m) (by omega),Vc (λ c=>?_) (λ c=>?_)⟩
       . rw [Q8,Q8,Jhd] at c
         refine ⟨_,Jj9 hps (Xi r) (by omega),_,Jj9 hps (Xi m) (by omega),_,_,_,_,rfl,rfl,rfl,⟨Ji4,Ji4⟩,⟨rfl,?_⟩,?_⟩
         . rw [Jo8,Qc,Qz];omega
         rw [Q8,Q8,Jo8]
         refine Ve (λ b=>.bool (pwR (Jct ws ks) m r r b||pwR (Jct ws ks) m r m b)) (λ j hj n K hK=>⟨rfl,rfl,V3 (Vc (λ e=>?_) (λ e=>?_))⟩) ?_
         . rw [e,J9x] at hK;exact hK
         . rw [e,J62] at hK;exact hK
         . exact ⟨r,by rw [Jc2 (Xi r) (by rw [Jhc hps,Bt];omega),Q8],λ b=>⟨rfl,_,_,rfl,Jlw hps (Jv4 hr' c)⟩⟩
       . rw [Q8,Q8,Jhd] at c
         exact ⟨rfl,ps,_,rfl,by rw [hps];exact Jzk c⟩
     . rintro env _ ⟨rfl,ps,x11,rfl,hps⟩
       rw [Yq,Jv5] at hps
       exact ⟨rfl,ps,_,_,_,_,_,_,rfl,hps⟩
   . rintro env _ ⟨rfl,ps,x6,x7,x8,x9,x10,x11,rfl,hps⟩
     rw [Yq] at hps
     refine ⟨_,.fz2 5 ps rfl .refl,?_⟩
     show P _ _
     rw [Js8 hps]
     exact q
theorem Zt:FnScope ["numbers","divisor","number","rest"] ["numbers"] (Jd Vz):=⟨rfl,rfl,rfl,by decide +kernel,rfl,by decide +kernel,by decide +kernel⟩
theorem Jej (T:Txt mg) (D:Def K mg "common_divisor" Vz ["numbers"]):Cal P w K mg base "common_divisor" 1 ["numbers"] (Jn Jd9):=by
 refine D.cal λ f fd F=>F.ok Zt (Yd ?_) (λ cdv A outer s H vs Q E hr h=>?_)
 . rintro as n P ⟨ns,rfl,_⟩
   rfl
 refine ⟨_,(@Jb _ _ _ _ _ (Jw (i:=1) Zt.nd rfl (Qa rfl) Jg)
  (@Jb _ _ _ _ _ (Vf Xv rfl (B1 (pv 0)) (J0 (i:=2) Zt.nd rfl (Qa rfl) (Qa rfl))
  (@Jb _ _ _ _ _ (Jw (i:=3) Zt.nd rfl (Qa rfl) (Jx Jr0 rfl T.b_abs boot_abs (Ja (pv 2) Jc)))
  (@Ji _ _ _ (Jgj Xv (Ya Jgk (pv 3) Jg (J9 _))
  (@Ji _ _ _ (Jmz (i:=1) (j:=3) rfl Zt.nd rfl rfl (by decide) rfl rfl (Ja (pv 3) (V4 (Jv Bi (pv 1) (pv 3)) Jc)) rfl))))))
  (@Ji _ _ _ (@Jy _ _ _ _ (pv 1))))),J6 h ?_⟩
 rintro as n P ⟨ns,rfl,q⟩
 refine ⟨rfl,_,.refl,?_⟩
 refine ⟨λ i env n'=>n'=n/\∃ x y:Vl,env=[.d (.list (ns.map .int)),.d (.int ((Zb (ns.take i):Nat):Int)),x,y],⟨rfl,_,_,rfl⟩,?_,?_⟩
 . rintro i x env n' hx ⟨rfl,_,_,rfl⟩
   rw [Qm] at hx
   obtain ⟨k,hk,rfl⟩:=J4a.mp hx
   refine ⟨_,.refl,?_⟩
   refine ⟨λ m env j=>j=n'/\∃ g:Nat,env=[.d (.list (ns.map .int)),.d (.int ((g:Nat):Int)),.d (.int k),.d (.int ((m:Nat):Int))]/\X7 g m=Zb (ns.take (i+1)),⟨k.natAbs,rfl,Zb (ns.take i),?_,(Jtv hk).symm⟩,?_⟩
   . show [Vl.d (.list (ns.map .int)),_,_,Vl.d (.int (if k<0 then -k else k))]=_
     rw [show (if k<0 then -k else k)=(k.natAbs:Int) by split<;>omega]
   . rintro m _ _ ⟨rfl,g,rfl,hg⟩
     refine Vc (λ c=>?_) (λ c=>?_)
     . have hm:0<m:=by have:=of_decide_eq_true c;omega
       refine ⟨by omega,_,_,rfl,g%m,Nat.mod_lt _ hm,rfl,m,?_,?_⟩
       . rfl
       . rw [<- hg,Nat.gcd_comm m,<- Nat.gcd_rec,Nat.gcd_comm]
     . have hm:m=0:=by have:=of_decide_eq_false c;omega
       subst hm
       rw [Nat.gcd_zero_right] at hg
       exact ⟨rfl,_,_,by rw [hg]⟩
 . rintro env n' ⟨rfl,_,_,rfl⟩
   rw [Qc,J7u]
   exact ⟨_,.refl,q⟩
theorem Bw:FnScope ["numbers","divisor"] ["numbers"] (Jd Wm):=⟨rfl,rfl,rfl,by decide +kernel,rfl,by decide +kernel,by decide +kernel⟩
theorem Jdh (T:Txt mg) (D:Def K mg "without_divisor" Wm ["numbers"]) (Go:Cal P w K mg base "common_divisor" 1 ["numbers"] (Jn Jd9)):Cal P w K mg base "without_divisor" 2 ["numbers"] (Y3 Jf9):=by
 refine D.cal λ f fd F=>F.ok Bw (Wd ?_) (λ cdv A outer s H vs Q E hr h=>?_)
 . rintro as n P ⟨ns,rfl,_⟩
   rfl
 refine ⟨_,(@Jb _ _ _ _ _ (Jw (i:=1) Bw.nd rfl (Qs rfl) (Y7 Go (hr.mono (by decide)) rfl (Ja (pv 0) Jc)))
  (@Ji _ _ _ (@Jy _ _ _ _ (Yw (sc:=(Jd Wm)) (N:=["numbers","divisor"]) (N':=["number","divisor"]) (k:=1) (idx:=[1]) rfl (by exact ⟨rfl,by decide +kernel,by decide +kernel,by decide +kernel,by decide +kernel,by decide +kernel,rfl,rfl⟩) rfl rfl (B1 (pv 0)) (λ _ _ _ _=>(J0 (i:=0) (show (["number","divisor"]:List Str).Nodup by decide +kernel) rfl (Qa rfl) (Qs rfl))) (λ _ _ _ _=>Yu) (λ _ _ _ _=>(Jv Jbs (pv 0) (pv 1))))))),Zw h ?_⟩
 rintro as n P ⟨ns,rfl,hl,h0,h1,q⟩
 have hs:sizeLine=16777216:=Yar
 refine ⟨rfl,ns,rfl,_,.refl,⟨rfl,by rw [Qc];omega⟩,?_⟩
 refine Ww (f:=Qn) (λ x=>.int (x/((Zb ns:Nat):Int))) (λ x hx n K hk=>V3 ⟨Jbt (by omega) h1,hk⟩) ?_
 rw [Q0] at q
 exact q
theorem Vq:FnScope ["self","other","row","place","by","times","fresh"] ["self","other","row","place"] (Jd Wy):=⟨rfl,rfl,rfl,by decide +kernel,rfl,by decide +kernel,by decide +kernel⟩
theorem Jek {C:Addr}(T:Txt mg) (Y:TableOk K C) (D:DefM K C "without" "Table.without" Wy ["self","other","row","place"]):Wj P w K mg base C "without" 1 ["self","other","row","place"] (Y3 (Jnw C)):=by
 refine D.cal Y.c λ f fd F=>F.ok Vq (Wd ?_) (λ cdv A outer s H vs Q E hr h=>?_)
 . rintro as n P ⟨z,T,other,row,k,rfl,_⟩
   rfl
 refine ⟨_,(@Jb _ _ _ _ _ (Yf (@PEs.out _ _ _ (Zd (B5 (Jr (Jp Js (pv 2) (pv 3) (λ _ _=>rfl))) (B5 (Jr (Jp Js (pv 1) (pv 3) (λ _ _=>rfl))) Jt)))) (Y4 (K':=K) (i:=4) (j:=5) rfl Vq.nd ⟨rfl,(Qs rfl),(Qa rfl)⟩ ⟨rfl,(Qs rfl),(Qa rfl)⟩ rfl))
  (@Jb _ _ _ _ _ (Wo (i:=6) (sc:=(Jd Wy)) (N:=["self","other","row","place","by","times","fresh"]) (N':=["number","more","by","times","self"]) (k:=2) (idx:=[4,5,0]) rfl Vq.nd rfl rfl (by exact ⟨rfl,by decide +kernel,by decide +kernel,by decide +kernel,by decide +kernel,by decide +kernel,rfl,rfl⟩) rfl rfl (Jai rfl T.b_zip (Ja (pv 1) (Ja (pv 2) Jc))) (λ _ _ _ _=>(Y4 (K':=K) (i:=0) (j:=1) rfl (show (["number","more","by","times","self"]:List Str).Nodup by decide +kernel) ⟨rfl,(Qa rfl),(Qs rfl)⟩ ⟨rfl,(Qa rfl),(Qs rfl)⟩ rfl)) (λ _ _ _ _=>Yu) (λ _ _ _ _=>(Jv Jbs (Jv Ja0 (Jv Vk (pv 2) (pv 0)) (Jv Vk (pv 3) (pv 1))) (Jz (K':=K) rfl (pv 4)))))
  (@Jb _ _ _ _ _ (Yf (Vg Z8 (pv 5)) (Wg (pv 6) (pv 3) Yv (λ v=>J2 _ _ _ _ _ v)))
  (@Ji _ _ _ (@Jy _ _ _ _ (pv 6)))))),Zw h ?_⟩
 rintro as n P ⟨z,T,other,row,k,rfl,k1,k2,ol,so,sr,q0,q1,q⟩
 have hs:sizeLine=16777216:=Yar
 have big:∀ {x:Int},x.natAbs<2^4000->x.natAbs<2^9000:=λ h=>Qy h (J5z (by decide) (by decide))
 have a1:atI (row.map Qn) ((k:Nat):Int)=some (.int (row.getD k 0)):=Yi (by omega) (by rw [Q8,Qm,Qf k2,Qi,Qf k2];rfl)
 have a2:atI (other.map Qn) ((k:Nat):Int)=some (.int (other.getD k 0)):=Yi (by omega) (by rw [Q8,Qm,Qf k1,Qi,Qf k1];rfl)
 have by1:(row.getD k 0).natAbs<2^4000:=sr _ (by rw [Qi,Qf k2];exact Xt _)
 have by2:(other.getD k 0).natAbs<2^4000:=so _ (by rw [Qi,Qf k1];exact Xt _)
 refine ⟨rfl,_,a1,_,a2,Jaq,rfl,rfl,⟨[.d (Zz C z T),.d (Yx other),.d (Yx row),.d (Ju k),.d (.int (row.getD k 0)),.d (.int (other.getD k 0)),.jnk],.eq rfl,?_⟩⟩
 refine ⟨_,_,_,_,rfl,rfl,rfl,⟨rfl,by rw [Bs,Qc];omega⟩,?_⟩
 rw [Vy]
 refine Ww (f:=λ p:Int×Int=>Uy [.int p.1,.int p.2]) (λ p=>.int ((row.getD k 0*p.1-other.getD k 0*p.2)/T.q)) (λ p hp n K hk=>⟨rfl,rfl,V3 ⟨Zj (big by1) (big (so _ (J3n hp).1)),Zj (big by2) (big (sr _ (J3n hp).2)),?_⟩⟩) ?_
 . exact Jl4 Y ⟨Jbt q0 (Int.lt_of_lt_of_le q1 (by decide +kernel)),hk⟩
 refine ⟨_,.refl,k,Bm (by omega) (by rw [Qc,J5y];omega),_,.refl,?_⟩
 have e:((other.zip row).map λ p=>Qn ((row.getD k 0*p.1-other.getD k 0*p.2)/T.q)).set k (.int (-(other.getD k 0)))=(Tb.Jb3 T.q row other k).map .int:=by
  unfold Tb.Jb3
  rw [X5,J7e,J7f,J7f]
 show P (List.set _ k _) n
 rw [e]
 exact q
theorem W7:FnScope ["self","wanted","told","name","row"] ["self","wanted"] (Jd Wp):=⟨rfl,rfl,rfl,by decide +kernel,rfl,by decide +kernel,by decide +kernel⟩
theorem Jf1 {C:Addr}(T:Txt mg) (Y:TableOk K C) (D:DefM K C "rises" "Table.rises" Wp ["self","wanted"]):Wj P w K mg base C "rises" 1 ["self","wanted"] (Y3 (Jgb C)):=by
 refine D.cal Y.c λ f fd F=>F.ok W7 (Wd ?_) (λ cdv A outer s H vs Q E hr h=>?_)
 . rintro as n P ⟨z,T,m,n,W,rfl,_⟩
   rfl
 refine ⟨_,(@Jb _ _ _ _ _ (Wo (i:=2) (sc:=(Jd Wp)) (N:=["self","wanted","told","name","row"]) (N':=["name","wanted","self"]) (k:=1) (idx:=[1,0]) rfl W7.nd rfl rfl (by exact ⟨rfl,by decide +kernel,by decide +kernel,by decide +kernel,by decide +kernel,by decide +kernel,rfl,rfl⟩) rfl rfl (B1 (Jz (K':=K) rfl (pv 0))) (λ _ _ _ _=>(J0 (i:=0) (show (["name","wanted","self"]:List Str).Nodup by decide +kernel) rfl (Qa rfl) (Qs rfl))) (λ _ _ _ _=>Yu) (λ _ _ _ _=>(Jgi (Ya (Jns (K':=K) rfl) (pv 0) (pv 1) (by with_unfolding_all rfl)) (Jz (K':=K) rfl (pv 2)) Jg)))
  (@Jb _ _ _ _ _ (Vf Xv rfl (Jai rfl T.b_zip (Vm (Jz (K':=K) rfl (pv 0)) (Vm (Jz (K':=K) rfl (pv 0)) Jc))) (Y4 (K':=K) (i:=3) (j:=4) rfl W7.nd ⟨rfl,(Qa rfl),(Qa rfl)⟩ ⟨rfl,(Qa rfl),(Qa rfl)⟩ rfl)
  (@Ji _ _ _ (Wl (Ya Jiu (pv 3) (pv 1) (by with_unfolding_all rfl)) (@Ji _ _ _ (Wo (i:=2) (sc:=(Jd Wp)) (N:=["self","wanted","told","name","row"]) (N':=["rise","number"]) (k:=2) (idx:=[]) rfl W7.nd rfl rfl (by exact ⟨rfl,by decide +kernel,by decide +kernel,by decide +kernel,by decide +kernel,by decide +kernel,rfl,rfl⟩) rfl rfl (Jwd (Jai rfl T.b_zip (Ja (pv 2) (Ja (pv 4) Jc)))) (λ _ _ _ _=>(Y4 (K':=K) (i:=0) (j:=1) rfl (show (["rise","number"]:List Str).Nodup by decide +kernel) ⟨rfl,(Qa rfl),(Qs rfl)⟩ ⟨rfl,(Qa rfl),(Qs rfl)⟩ rfl)) (λ _ _ _ _=>Yu) (λ _ _ _ _=>(Jv Ja0 (pv 0) (pv 1))))) Yr)))
  (@Ji _ _ _ (@Jy _ _ _ _ (pv 2))))),Zw h ?_⟩
 rintro as n' P ⟨z,T,m,n,W,rfl,sh,q⟩
 have hs:sizeLine=16777216:=Yar
 have mm:=sh.mm
 have nn:=sh.nn
 have isin:∀ ν:Nat,inD (Ju ν) (W.map Ju)=decide (ν∈W):=λ ν=>by
  have:=J1s (k:=(ν:Int)) (ns:=W.map λ k:Nat=>(k:Int))
  rw [Q0] at this
  rw [show W.map Ju=W.map (Qn∘λ k:Nat=>(k:Int)) from rfl,this]
  exact decide_eq_decide.mpr ⟨λ h=>by obtain ⟨k,hk,e⟩:=Qq.mp h;rwa [<- show k = ν by exact_mod_cast e],λ h=>Qq.mpr ⟨ν,h,rfl⟩⟩
 have scw:(W.map Ju).all Vn=true:=Uv.mpr λ x hx=>by obtain ⟨k,_,rfl⟩:=Qq.mp hx;rfl
 refine ⟨rfl,Jga Y ⟨⟨rfl,by rw [Qc,sh.lf];omega⟩,?_⟩⟩
 refine Ww (f:=Ju) (λ ν=>.int (Tb.ind W ν T.q)) (λ ν hν n K hk=>V3 ⟨rfl,scw,?_⟩) ?_
 . show if inD (Ju ν) (W.map Ju)=true then _ else _
   rw [isin]
   unfold Tb.ind at hk
   refine Vc (λ c=>Jl4 Y ?_) (λ c=>?_)
   . rw [if_pos (of_decide_eq_true c)] at hk
     exact hk
   . rw [if_neg (of_decide_eq_false c)] at hk
     exact hk
 rw [show T.fr.map (λ ν=>Qn (Tb.ind W ν T.q))=(tl T n W 0).map .int by rw [<- Jwf sh,Q0];rfl]
 refine ⟨_,.refl,Jb8 Y (Jaa Y ⟨_,_,_,_,rfl,rfl,rfl,?_⟩)⟩
 refine ⟨λ i env k=>k=n'/\∃ x y:Vl,env=[.d (Zz C z T),.d (.list (W.map Ju)),.own ((tl T n W i).map .int),x,y],⟨rfl,_,_,rfl⟩,?_,?_⟩
 . rintro i x env k hx ⟨rfl,_,_,rfl⟩
   obtain ⟨hi,rfl⟩:=Jnz sh hx
   refine ⟨rfl,rfl,rfl,scw,?_⟩
   show if inD (Ju (T.b i)) (W.map Ju)=true then _ else _
   rw [isin]
   refine Vc (λ c=>?_) (λ c=>⟨rfl,_,_,by rw [Jzs (of_decide_eq_false c)];rfl⟩)
   refine ⟨⟨rfl,?_⟩,?_⟩
   . rw [Bs,Qc,Qc]
     unfold tl
     rw [Qc,Qz]
     omega
   . rw [Vy]
     refine Ww (f:=λ p:Int×Int=>Uy [.int p.1,.int p.2]) (λ p=>.int (p.1-p.2)) (λ p hp n K hk=>⟨rfl,rfl,V3 hk⟩) ⟨rfl,.d (Ju (T.b i)),.d (Yx (T.row i)),?_⟩
     rw [<- J10 sh hi (of_decide_eq_true c),Q0]
     rfl
 . rintro env k ⟨rfl,_,_,rfl⟩
   refine ⟨_,.refl,?_⟩
   have:(Br (T.bd.map Ju) (T.rows.map Yx)).length=m:=by rw [Bs,Qc,Qc,sh.lb,sh.lr];omega
   rw [this]
   exact q
theorem W4:FnScope ["self","wanted","names"] ["self","wanted"] (Jd Y6):=⟨rfl,rfl,rfl,by decide +kernel,rfl,by decide +kernel,by decide +kernel⟩
theorem Jal {C:Addr}(T:Txt mg) (Y:TableOk K C) (D:DefM K C "place_to_raise" "Table.place_to_raise" Y6 ["self","wanted"]) (c_Table__rises:Wj P w K mg base C "rises" 1 ["self","wanted"] (Y3 (Jgb C))):Wj P w K mg base C "place_to_raise" 2 ["self","wanted"] (Jn (Jcq C)):=by
 refine D.cal Y.c λ f fd F=>F.ok W4 (Yd ?_) (λ cdv A outer s H vs Q E hr h=>?_)
 . rintro as n P ⟨z,T,m,n,W,rfl,_⟩
   rfl
 refine ⟨_,(@Jb _ _ _ _ _ (Wo (i:=2) (sc:=(Jd Y6)) (N:=["self","wanted","names"]) (N':=["place","rise","self"]) (k:=2) (idx:=[0]) rfl W4.nd rfl rfl (by exact ⟨rfl,by decide +kernel,by decide +kernel,by decide +kernel,by decide +kernel,by decide +kernel,rfl,rfl⟩) rfl rfl (Jdr rfl T.b_enumerate (Wa (Jfw c_Table__rises (hr.mono (by decide)) (pv 0) (Ja (pv 1) Jc)) Jc)) (λ _ _ _ _=>(Y4 (K':=K) (i:=0) (j:=1) rfl (show (["place","rise","self"]:List Str).Nodup by decide +kernel) ⟨rfl,(Qa rfl),(Qs rfl)⟩ ⟨rfl,(Qa rfl),(Qs rfl)⟩ rfl)) (λ _ _ _ _=>Jjn (Ya Jgk (pv 1) Jg (J9 _))) (λ _ _ _ _=>(@PEs.out _ _ _ (Zd (B5 (Jr (Jp (Jlk (K':=K) rfl) (Jz (K':=K) rfl (pv 2)) (pv 0) (λ _ _=>rfl))) (Ys (Jr (pv 0)) Jt))))))
  (@Ji _ _ _ (@Jy _ _ _ _ (Jgi (Jzf (pv 2) (λ _=>rfl)) (Jp Yg (Jx (Jq1 rfl hr.units) rfl T.b_min boot_min (Ja (pv 2) Jc)) Jg (λ _ _=>rfl)) Jay)))),J6 h ?_⟩
 rintro as n' P ⟨z,T,m,n,W,rfl,sh,inj,q1,q2⟩
 have hs:sizeLine=16777216:=Yar
 have mm:=sh.mm
 have nn:=sh.nn
 refine ⟨rfl,?_⟩
 refine ⟨Ja8 (m:="rises") (by decide),z,T,m,n,W,rfl,sh,_,_,rfl,rfl,?_⟩
 rw [Jwg]
 refine ⟨⟨rfl,by rw [Qc,Qz];omega⟩,?_⟩
 have fat:∀ {j:Nat},j<n->atI (T.fr.map Ju) ((j:Nat):Int)=some (Ju (T.f j)):=λ {j} hj=>by
  have h1:j<T.fr.length:=by rw [sh.lf];exact hj
  refine Yi (by omega) ?_
  unfold Tb.Tab.f
  rw [Q8,Qm,Qf h1,Qi,Qf h1]
  rfl
 refine Jf7 (p:=λ j=>decide (0<T.rise m W j)) (h:=λ j=>Jhl ((T.f j:Int),(j:Int))) (λ j hj K k1 k2=>⟨rfl,rfl,Vc (λ c=>Jga Y ⟨_,fat (Q5.mp hj),Jaq,k1 c⟩) (λ c=>k2 c)⟩) ?_
 refine ⟨_,.fz 2 _ rfl .refl,?_⟩
 have mem:∀ {j:Nat},j∈(Qg n).filter (λ j=>decide (0<T.rise m W j))↔j<n/\0<T.rise m W j:=λ {j}=>by rw [Xw,Q5,decide_eq_true_iff]
 have nd:((Qg n).filter λ j=>decide (0<T.rise m W j)).Nodup:=J9v.filter _
 generalize (Qg n).filter (λ j=>decide (0<T.rise m W j))=js at *
 have nrm:js.map (λ j=>Jhl ((T.f j:Int),(j:Int)))=(js.map λ j=>((T.f j:Int),(j:Int))).map Jhl:=by rw [Q0];rfl
 rw [nrm]
 by_cases hn:js=[]
 . subst hn
   refine Jg2 rfl (q2 λ j hj=>?_)
   have:=mt (λ h=>mem.mpr ⟨hj,h⟩) (Ub)
   omega
 . refine Jls ?_ ⟨_,rfl,by simpa using hn,?_,λ r hr hmin=>⟨_,rfl,?_⟩⟩
   . cases js with
     | nil=>exact absurd rfl hn
     | cons a l=>rfl
   . rw [Q0]
     refine J9s.mpr (nd.imp_of_mem λ {a b} ha hb hne e=>hne ?_)
     have e:(T.f a:Int)=(T.f b:Int):=e
     exact inj a b (mem.mp ha).1 (mem.mp hb).1 (by exact_mod_cast e)
   . obtain ⟨k,hk,rfl⟩:=Qq.mp hr
     refine q1 k (mem.mp hk).1 (mem.mp hk).2 λ j hj hp=>?_
     have:(T.f k:Int)<=(T.f j:Int):=hmin _ (Qq.mpr ⟨j,mem.mpr ⟨hj,hp⟩,rfl⟩)
     exact_mod_cast this
theorem Wk:FnScope ["self","at","other","place","row","than","soon","late"] ["self","at","other","place"] (Jd Wq):=⟨rfl,rfl,rfl,by decide +kernel,rfl,by decide +kernel,by decide +kernel⟩
theorem Jbm {C:Addr}(T:Txt mg) (Y:TableOk K C) (D:DefM K C "comes_first" "Table.comes_first" Wq ["self","at","other","place"]):Wj P w K mg base C "comes_first" 1 ["self","at","other","place"] (Jn (Jkk C)):=by
 refine D.cal Y.c λ f fd F=>F.ok Wk (Yd ?_) (λ cdv A outer s H vs Q E hr h=>?_)
 . rintro as n P ⟨z,T,m,n,a,o,k,rfl,_⟩
   rfl
 refine ⟨_,(@Jb _ _ _ _ _ (Jmz (i:=4) (j:=5) rfl Wk.nd rfl rfl (by decide) rfl rfl (Ym (Jp Js (Jz (K':=K) rfl (pv 0)) (pv 1) (λ _ _=>rfl)) (Ym (Jp Js (Jz (K':=K) rfl (pv 0)) (pv 2) (λ _ _=>rfl)) Jc)) rfl)
  (@Jb _ _ _ _ _ (Jmz (i:=6) (j:=7) rfl Wk.nd rfl rfl (by decide) rfl rfl (V4 (Jv Vk (Jp Js (pv 4) (Vg Z8 Jg) (λ _ _=>rfl)) (Jp Js (pv 5) (pv 3) (λ _ _=>rfl))) (V4 (Jv Vk (Jp Js (pv 5) (Vg Z8 Jg) (λ _ _=>rfl)) (Jp Js (pv 4) (pv 3) (λ _ _=>rfl))) Jc)) rfl)
  (@Ji _ _ _ (@Jy _ _ _ _ (Jw5 (Vh Jot (pv 6) (pv 7) (J9 _)) (Jel (Jji (Vh Jbp (pv 6) (pv 7) (J9 _)) (Jel (Vh Jot (Jp Js (Jz (K':=K) rfl (pv 0)) (pv 1) (λ _ _=>rfl)) (Jp Js (Jz (K':=K) rfl (pv 0)) (pv 2) (λ _ _=>rfl)) (J9 _)))))))))),J6 h ?_⟩
 rintro as n' P ⟨z,T,m,n,a,o,k,rfl,sh,ha,ho,hk,q⟩
 refine ⟨rfl,Jaa Y ⟨_,Jho sh ha,Jaa Y ⟨_,Jho sh ho,_,_,rfl,⟨[.d (Zz C z T),.d (Ju a),.d (Ju o),.d (Ju k),.d (Yx (T.row a)),.d (Yx (T.row o)),.jnk,.jnk],.eq rfl,?_⟩⟩⟩⟩
 refine ⟨_,Jn0 sh ha,_,Jwh sh ho (by omega),Zj (Jgc sh ha (Ql _)) (Jgc sh ho (by omega)),_,Jn0 sh ho,_,Jwh sh ha (by omega),Zj (Jgc sh ho (Ql _)) (Jgc sh ha (by omega)),_,_,rfl,⟨[.d (Zz C z T),.d (Ju a),.d (Ju o),.d (Ju k),.d (Yx (T.row a)),.d (Yx (T.row o)),.d (.int (T.e a n*T.e o k)),.d (.int (T.e o n*T.e a k))],.eq rfl,?_⟩⟩
 unfold Jhn at q
 generalize T.e a n*T.e o k=soon at *
 generalize T.e o n*T.e a k=late at *
 refine Vc (λ c1=>?_) (λ c1=>?_)
 . rw [c1,J9x] at q
   exact q
 . rw [c1,J62] at q
   refine Jg3 (Vc (λ c2=>?_) (λ c2=>?_))
   . rw [c2,J7b] at q
     refine Jb8 Y ⟨_,Jx2 sh ha,Jb8 Y ⟨_,Jx2 sh ho,?_⟩⟩
     show P (.bool (decide ((T.b a:Int)<(T.b o:Int)))) n'
     rw [show decide ((T.b a:Int)<(T.b o:Int))=decide (T.b a<T.b o) from decide_eq_decide.mpr ⟨λ h=>by omega,λ h=>by omega⟩]
     exact q
   . rw [c2,J56] at q
     exact q
theorem Zo:FnScope ["self","place","first","at","row"] ["self","place"] (Jd Wr):=⟨rfl,rfl,rfl,by decide +kernel,rfl,by decide +kernel,by decide +kernel⟩
theorem Jbn {C:Addr}(T:Txt mg) (Y:TableOk K C) (D:DefM K C "row_to_free" "Table.row_to_free" Wr ["self","place"]) (c_Table__comes_first:Wj P w K mg base C "comes_first" 1 ["self","at","other","place"] (Jn (Jkk C))):Wj P w K mg base C "row_to_free" 2 ["self","place"] (Jn (Je1 C)):=by
 refine D.cal Y.c λ f fd F=>F.ok Zo (Yd ?_) (λ cdv A outer s H vs Q E hr h=>?_)
 . rintro as n P ⟨z,T,m,n,k,rfl,_⟩
   rfl
 refine ⟨_,(@Jb _ _ _ _ _ (Jw (i:=2) Zo.nd rfl (Qa rfl) Jay)
  (@Jb _ _ _ _ _ (Vf Xv rfl (Jdr rfl T.b_enumerate (Vm (Jz (K':=K) rfl (pv 0)) Jc)) (Y4 (K':=K) (i:=3) (j:=4) rfl Zo.nd ⟨rfl,(Qa rfl),(Qa rfl)⟩ ⟨rfl,(Qa rfl),(Qa rfl)⟩ rfl)
  (@Ji _ _ _ (Wl (PW.pt (Jmx (Ya Jgk (Jp Js (pv 4) (pv 1) (λ _ _=>rfl)) Jg (J9 _)) (Jjg (PW.pt (J0e (Ya Jjk (pv 2) Jay (J9 _)) (Jyd (Jbo (Jfw c_Table__comes_first (hr.mono (by decide)) (pv 0) (Ja (pv 3) (Ja (pv 2) (Ja (pv 1) Jc))))))))))) (@Ji _ _ _ (Jw (i:=2) Zo.nd rfl (Qa rfl) (pv 3))) Yr)))
  (@Ji _ _ _ (@Jy _ _ _ _ (pv 2))))),J6 h ?_⟩
 rintro as n' P ⟨z,T,m,n,k,rfl,sh,hk,q⟩
 refine ⟨rfl,_,.refl,Jaa Y ⟨_,_,rfl,rfl,?_⟩⟩
 refine ⟨λ i env j=>j=n'/\∃ x y:Vl,env=[.d (Zz C z T),.d (Ju k),.d (Jzt (rf T n k i)),x,y],⟨rfl,_,_,rfl⟩,?_,?_⟩
 . rintro i x env j hx ⟨rfl,_,_,rfl⟩
   obtain ⟨hi,rfl⟩:=Jwi sh hx
   refine ⟨rfl,rfl,_,Jwh sh hi (by omega),?_⟩
   refine Vc (λ c=>?_) (λ c=>?_)
   . have c:=of_decide_eq_true c
     cases e:rf T n k i with
     | none=>
      refine ⟨rfl,V3 ⟨rfl,.d (Ju i),.d (Yx (T.row i)),?_⟩⟩
      rw [show rf T n k (i+1)=some i by rw [rf,e];simp only;rw [if_pos c]]
      rfl
     | some o=>
      have ho:=Jt0 k e
      refine ⟨rfl,Jc0 ⟨Ja8 (m:="comes_first") (by decide),z,T,m,n,i,o,k,rfl,sh,hi,by omega,hk,?_⟩⟩
      refine Vc (λ c2=>⟨rfl,.d (Ju i),.d (Yx (T.row i)),?_⟩) (λ c2=>⟨rfl,.d (Ju i),.d (Yx (T.row i)),?_⟩)
      . rw [show rf T n k (i+1)=some i by rw [rf,e];simp only;rw [if_pos ⟨c,c2⟩]]
        rfl
      . rw [show rf T n k (i+1)=some o by rw [rf,e];simp only;rw [if_neg λ z=>by rw [z.2] at c2;cases c2]]
        rfl
   . have c:=of_decide_eq_false c
     refine ⟨rfl,.d (Ju i),.d (Yx (T.row i)),?_⟩
     rw [show rf T n k (i+1)=rf T n k i by
      rw [rf]
      cases rf T n k i with
      | none=>simp only;rw [if_neg c]
      | some o=>simp only;rw [if_neg λ z=>c z.1]]
     rfl
 . rintro env j ⟨rfl,_,_,rfl⟩
   have:(Jap (T.rows.map Yx)).length=m:=by unfold Jap;rw [J83,Qc,sh.lr]
   rw [this]
   exact ⟨_,.refl,q⟩
theorem Jax:FnScope ["self","shares","purses"] ["self","shares"] (Jd V8):=⟨rfl,rfl,rfl,by decide +kernel,rfl,by decide +kernel,by decide +kernel⟩
theorem Jfc {C:Addr}(T:Txt mg) (Y:TableOk K C) (D:DefM K C "as_sum" "Table.as_sum" V8 ["self","shares"]):Wj P w K mg base C "as_sum" 1 ["self","shares"] (Jn (Jkl C)):=by
 refine D.cal Y.c λ f fd F=>F.ok Jax (Yd ?_) (λ cdv A outer s H vs Q E hr h=>?_)
 . rintro as n P ⟨z,T,u,xs,rfl,_⟩
   rfl
 refine ⟨_,(@Jb _ _ _ _ _ (Jw (i:=2) Jax.nd rfl (Qa rfl) (Jv Ja0 (Jz (K':=K) rfl (pv 0)) (Jz (K':=K) rfl (pv 0))))
  (@Ji _ _ _ (@Jy _ _ _ _ (@PEs.out _ _ _ (Zd (Yh (Jr (J5 Ye rfl T.b_tuple Ya0 (Ym (V2 B4 (pv 1) B2 (B3 (pv 2))) Jc))) (Yh (Jr (J5 Ye rfl T.b_tuple Ya0 (Ym (V2 B4 (pv 1) (B3 (pv 2)) B2) Jc))) Jt))))))),J6 h ?_⟩
 rintro as n' P ⟨z,T,u,xs,rfl,hu,hl,q⟩
 refine ⟨rfl,J1z Y (Jpp Y ⟨[.d (Zz C z T),.d (Yx xs),.d (Ju u)],.eq (by rw [hu];rfl),?_⟩)⟩
 have hs:sizeLine=16777216:=Yar
 refine ⟨Jaq,?_⟩
 rw [Jer,Jes,<- J3r,<- J4p]
 exact q
theorem W2:FnScope ["self","place","told","name","row"] ["self","place"] (Jd W9):=⟨rfl,rfl,rfl,by decide +kernel,rfl,by decide +kernel,by decide +kernel⟩
theorem Jcv {C:Addr}(T:Txt mg) (Y:TableOk K C) (D:DefM K C "counts_by" "Table.counts_by" W9 ["self","place"]) (Gb:Cal P w K mg base "without_divisor" 2 ["numbers"] (Y3 Jf9)):Wj P w K mg base C "counts_by" 3 ["self","place"] (Jn (Jea C)):=by
 refine D.cal Y.c λ f fd F=>F.ok W2 (Yd ?_) (λ cdv A outer s H vs Q E hr h=>?_)
 . rintro as n P ⟨T,m,n,k,nw,nr,be,rfl,_⟩
   rfl
 refine ⟨_,(@Jb _ _ _ _ _ (Jw (i:=2) W2.nd rfl (Qa rfl) (Jv Jgp (@PEs.out _ _ _ (Yb (Jm Yc Jt))) (Jz (K':=K) rfl (pv 0))))
  (@Jb _ _ _ _ _ (Yf (Jz (K':=K) rfl (pv 0)) (Wg (pv 2) (Jp Js (Jz (K':=K) rfl (pv 0)) (pv 1) (λ _ _=>rfl)) Yv ))
  (@Jb _ _ _ _ _ (Vf Xv rfl (Jai rfl T.b_zip (Vm (Jz (K':=K) rfl (pv 0)) (Vm (Jz (K':=K) rfl (pv 0)) Jc))) (Y4 (K':=K) (i:=3) (j:=4) rfl W2.nd ⟨rfl,(Qa rfl),(Qa rfl)⟩ ⟨rfl,(Qa rfl),(Qa rfl)⟩ rfl)
  (@Ji _ _ _ (Yf (Vg Z8 (Jp Js (pv 4) (pv 1) (λ _ _=>rfl))) (Wg (pv 2) (pv 3) Yv (λ v=>J2 _ _ _ _ _ v)))))
  (@Ji _ _ _ (@Jy _ _ _ _ (J5 Ye rfl T.b_tuple Ya0 (Wa (Y7 Gb (hr.mono (by decide)) rfl (Ym (V2 B4 (pv 2) B2 (B3 (Jz (K':=K) rfl (pv 0)))) Jc)) Jc))))))),J6 h ?_⟩
 rintro as n' P ⟨T,m,n,k,nw,nr,be,rfl,sh,N,hk,h1,h2,g0,g1,q⟩
 have hs:sizeLine=16777216:=Yar
 have one:(1:Nat)<=sizeLine:=by rw [hs];decide
 refine ⟨rfl,one,Jtz Y ⟨⟨by show (-2^63:Int)<=(be:Int);omega,by show (be:Int)<2^63;omega,by show 1*(be:Int).toNat<=_;omega⟩,?_⟩⟩
 rw [show ((be:Nat):Int).toNat=be from Q8 _,Jdx]
 refine ⟨_,.refl,Jl4 Y (Jga Y ⟨_,J11 sh hk,T.f k,Bm (by omega) (by rw [X2];have:=N.fl k hk;omega),?_⟩)⟩
 rw [show (Qo be (Qn 0)).set (T.f k) (.int T.q)=(dl T be k 0).map .int by rw [<- Jwj (N.fl k hk),X5,J5s]]
 refine ⟨[.d (Zz C ⟨(nw:Int),(nr:Int),(be:Int)⟩ T),.d (Ju k),.own ((dl T be k 0).map .int),.jnk,.jnk],.eq rfl,Jb8 Y (Jaa Y ⟨_,_,_,_,rfl,rfl,rfl,?_⟩)⟩
 refine ⟨λ i env j=>j=n'/\∃ x y:Vl,env=[.d (Zz C ⟨(nw:Int),(nr:Int),(be:Int)⟩ T),.d (Ju k),.own ((dl T be k i).map .int),x,y],⟨rfl,_,_,rfl⟩,?_,?_⟩
 . rintro i x env j hx ⟨rfl,_,_,rfl⟩
   obtain ⟨hi,rfl⟩:=Jnz sh hx
   refine ⟨rfl,rfl,_,Jwh sh hi (by omega),T.b i,Bm (by omega) (by rw [Qc,Jhp];have:=N.bl i hi;omega),rfl,.d (Ju (T.b i)),.d (Yx (T.row i)),?_⟩
   rw [<- Jwk N hk hi,X5]
   rfl
 . rintro env j ⟨rfl,_,_,rfl⟩
   have lz:(Br (T.bd.map Ju) (T.rows.map Yx)).length=m:=by rw [Bs,Qc,Qc,sh.lb,sh.lr];omega
   rw [lz]
   have cut:Jds ((dl T be k m).map Qn) none (some ((nw:Nat):Int))=((Qg nw).map (T.dir m k)).map .int:=by
    rw [Jer,Jwl,<- J3r,<- J3r,J9y,J5l h1]
   refine ⟨_,.refl,Jpp Y ⟨(Qg nw).map (T.dir m k),by rw [cut],by rw [Qc,Qz];omega,g0,g1,?_⟩⟩
   rw [Q0]
   exact q
theorem Wz:FnScope ["self","wanted","told","name","rise"] ["self","wanted"] (Jd V7):=⟨rfl,rfl,rfl,by decide +kernel,rfl,by decide +kernel,by decide +kernel⟩
theorem Jfd {C:Addr}(T:Txt mg) (Y:TableOk K C) (D:DefM K C "shares" "Table.shares" V7 ["self","wanted"]) (c_Table__rises:Wj P w K mg base C "rises" 1 ["self","wanted"] (Y3 (Jgb C))):Wj P w K mg base C "shares" 2 ["self","wanted"] (Y3 (Jhr C)):=by
 refine D.cal Y.c λ f fd F=>F.ok Wz (Wd ?_) (λ cdv A outer s H vs Q E hr h=>?_)
 . rintro as n P ⟨T,m,n,nw,nr,be,W,rfl,_⟩
   rfl
 refine ⟨_,(@Jb _ _ _ _ _ (Jw (i:=2) Wz.nd rfl (Qa rfl) (Jv Jgp (@PEs.out _ _ _ (Yb (Jm Yc Jt))) (Jz (K':=K) rfl (pv 0))))
  (@Jb _ _ _ _ _ (Vf Xv rfl (B1 (pv 1)) (J0 (i:=3) Wz.nd rfl (Qa rfl) (Qa rfl))
  (@Ji _ _ _ (Yf (Jz (K':=K) rfl (pv 0)) (Wg (pv 2) (pv 3) Yv (λ v=>J2 _ _ _ _ _ v)))))
  (@Jb _ _ _ _ _ (Vf Xv rfl (Jai rfl T.b_zip (Vm (Jz (K':=K) rfl (pv 0)) (Wa (Jfw c_Table__rises (hr.mono (by decide)) (pv 0) (Ja (pv 1) Jc)) Jc))) (Y4 (K':=K) (i:=3) (j:=4) rfl Wz.nd ⟨rfl,(Qa rfl),(Qa rfl)⟩ ⟨rfl,(Qa rfl),(Qa rfl)⟩ rfl)
  (@Ji _ _ _ (Yf (Vg Z8 (pv 4)) (Wg (pv 2) (pv 3) Yv (λ v=>J2 _ _ _ _ _ v)))))
  (@Ji _ _ _ (@Jy _ _ _ _ (V2 B4 (pv 2) (B3 (Jz (K':=K) rfl (pv 0))) B2)))))),Zw h ?_⟩
 rintro as n' P ⟨T,m,n,nw,nr,be,W,rfl,sh,N,hw,h1,h2,q⟩
 have hs:sizeLine=16777216:=Yar
 have one:(1:Nat)<=sizeLine:=by rw [hs];decide
 refine ⟨rfl,one,Jtz Y ⟨⟨by show (-2^63:Int)<=(be:Int);omega,by show (be:Int)<2^63;omega,by show 1*(be:Int).toNat<=_;omega⟩,?_⟩⟩
 rw [show ((be:Nat):Int).toNat=be from Q8 _,Jdx,show Qo be (Qn 0)=(wl T.q be []).map .int by rw [<- Jzv,J5s]]
 refine ⟨_,.refl,?_⟩
 refine Jqu (λ e j=>j=n'/\∃ x:Vl,e=[.d (Zz C ⟨(nw:Int),(nr:Int),(be:Int)⟩ T),.d (.list (W.map Ju)),.own ((wl T.q be W).map .int),x,.jnk]) (λ M hM=>?_) ?_
 . refine ⟨λ i env j=>j=n'/\∃ x:Vl,env=[.d (Zz C ⟨(nw:Int),(nr:Int),(be:Int)⟩ T),.d (.list (W.map Ju)),.own ((wl T.q be (W.take i)).map .int),x,.jnk],⟨rfl,_,rfl⟩,?_,?_⟩
   . rintro i x env j hx ⟨rfl,_,rfl⟩
     rw [Qm] at hx
     obtain ⟨w0,hw0,rfl⟩:=J4a.mp hx
     have lt:=hw w0 (Xm hw0)
     refine Jl4 Y ⟨w0,Bm (by omega) (by rw [Qc,Jhq];omega),rfl,.d (Ju w0),?_⟩
     rw [J7c,hw0]
     show _=[_,_,Vl.own ((wl T.q be (W.take i++[w0])).map .int),_,_]
     rw [<- Jwm lt,X5]
     rfl
   . rintro env j ⟨rfl,x,rfl⟩
     rw [Qc,J7u]
     exact hM _ _ ⟨rfl,x,rfl⟩
 rintro _ j ⟨rfl,x,rfl⟩
 rw [Jwn (m:=m)]
 refine ⟨_,.refl,Jga Y ⟨Ja8 (m:="rises") (by decide),_,T,m,n,W,rfl,sh,_,_,_,_,rfl,rfl,rfl,?_⟩⟩
 refine ⟨λ i env k=>k=j/\∃ x y:Vl,env=[.d (Zz C ⟨(nw:Int),(nr:Int),(be:Int)⟩ T),.d (.list (W.map Ju)),.own ((sl T m be W i).map .int),x,y],⟨rfl,_,_,rfl⟩,?_,?_⟩
 . rintro i x env k hx ⟨rfl,_,_,rfl⟩
   obtain ⟨hi,rfl⟩:=Jzw sh hx
   refine ⟨rfl,rfl,T.f i,Bm (by omega) (by rw [Qc,Jkn];have:=N.fl i hi;omega),rfl,.d (Ju (T.f i)),.d (.int (T.rise m W i)),?_⟩
   rw [<- Jwo N hi,X5]
   rfl
 . rintro env k ⟨rfl,_,_,rfl⟩
   have lz:(Br (T.fr.map Ju) (((Qg n).map (T.rise m W)).map .int)).length=n:=by rw [Bs,Qc,Qc,Qc,Qz,sh.lf];omega
   rw [lz]
   refine ⟨_,.refl,Jpp Y ?_⟩
   show P (Jds ((sl T m be W n).map Qn) (some ((nw:Nat):Int)) none) k
   rw [Jes,<- J4p]
   exact q
theorem Va:FnScope ["self","at","place","row","rows"] ["self","at","place"] (Jd Wn):=⟨rfl,rfl,rfl,by decide +kernel,rfl,by decide +kernel,by decide +kernel⟩
theorem Jdi {C:Addr}(T:Txt mg) (Y:TableOk K C) (D:DefM K C "exchange" "Table.exchange" Wn ["self","at","place"]) (c_Table__without:Wj P w K mg base C "without" 1 ["self","other","row","place"] (Y3 (Jnw C))):Wj P w K mg base C "exchange" 2 ["self","at","place"] (Jzy C):=by
 refine D.cal Y.c λ f fd F=>F.ok Va (λ vs H Q E h=>by obtain ⟨xx,p,fa,ba,z,T,m,n,l,k,rfl,_⟩:=h;rfl) (λ cdv A outer s H vs Q E hr h=>?_)
 refine ⟨_,(@Jb _ _ _ _ _ (Jw (i:=3) Va.nd rfl (Qs rfl) (Jp Js (Jz (K':=K) rfl (pv 0)) (pv 1) (λ _ _=>rfl)))
  (@Jb _ _ _ _ _ (Jt6 (Wo (i:=4) (sc:=(Jd Wn)) (N:=["self","at","place","row","rows"]) (N':=["other","self","row","place"]) (k:=1) (idx:=[0,3,2]) rfl Va.nd rfl rfl (by exact ⟨rfl,by decide +kernel,by decide +kernel,by decide +kernel,by decide +kernel,by decide +kernel,rfl,rfl⟩) rfl rfl (B1 (Jz (K':=K) rfl (pv 0))) (λ _ _ _ _=>(J0 (i:=0) (show (["other","self","row","place"]:List Str).Nodup by decide +kernel) rfl (Qa rfl) (Qs rfl))) (λ _ _ _ _=>Yu) (λ _ _ _ _=>(Jfw c_Table__without (hr.mono (by decide)) (pv 1) (Ja (pv 0) (Ja (pv 2) (Ja (pv 3) Jc)))))))
  (@Jb _ _ _ _ _ (Jo7 (Yf (J5 Wu rfl T.b_list Ya4 (Ja (pv 3) Jc)) (Wg (pv 4) (pv 1) Yv (λ v=>J2 _ _ _ _ _ v))))
  (@Jb _ _ _ _ _ (Yf (Jz (K':=K) rfl (pv 0)) (Wg (Jp Js (pv 4) (pv 1) (λ _ _=>rfl)) (pv 2) Yv (λ v=>J2 _ _ _ _ _ v)))
  (@Jb _ _ _ _ _ (Ja1 (pv 0) (pv 4) rfl)
  (@Jb _ _ _ _ _ (Ja1 (pv 0) (Jp Js (pv 3) (pv 2) (λ _ _=>rfl)) rfl)
  (@Ji _ _ _ (Yf (@PEs.out _ _ _ (Zd (B5 (Jr (Jp Js (Jz (K':=K) rfl (pv 0)) (pv 1) (λ _ _=>rfl))) (B5 (Jr (Jp Js (Jz (K':=K) rfl (pv 0)) (pv 2) (λ _ _=>rfl))) Jt)))) (Jjj (n:=2) rfl (Y8 (Wg (Jz (K':=K) rfl (pv 0)) (pv 2) Yv (λ v=>J2 _ _ _ _ _ v)) (Y8 (Wg (Jz (K':=K) rfl (pv 0)) (pv 1) Yv (λ v=>J2 _ _ _ _ _ v)) Jdk))))))))))),?_⟩
 obtain ⟨xx,p,fa,ba,z,T,m,n,l,k,rfl,hT,sh,hl,hk,q⟩:=h
 have hs:sizeLine=16777216:=Yar
 have mm:=sh.mm
 have nn:=sh.nn
 refine J26 (Jzz (N:=["self","at","place","row","rows"]) (as:=[.pin (.ref p) (Zz C z T),.d (Ju l),.d (Ju k)]) (P:=Jx3 C p z T l k) ⟨⟨rfl,Rep.nil (hT.rep (by rw [sh.lf];omega) (by rw [sh.lb];omega))⟩,⟨_,rfl,.int _⟩,⟨_,rfl,.int _⟩,trivial⟩ rfl ?_ (λ ex env σ H' n' A hP=>Jwp Y hT sh hl hk A hP q))
 have hlr:l<T.rows.length:=by rw [sh.lr];exact hl
 refine Jaa Y ⟨_,Jho sh hl,_,.refl,Jaa Y ⟨⟨rfl,by rw [Qc,sh.lr];omega⟩,?_⟩⟩
 refine Jl8 (λ o=>(Tb.Jb3 T.q (T.row l) o k).map .int) T.rows (λ o ho K hK=>⟨Ja8 (m:="without") (by decide),z,T,o,T.row l,k,rfl,?_,?_,?_,sh.small o ho,sh.small _ ?_,sh.q0,sh.q1,hK⟩) ?_
 . obtain ⟨i,hi⟩:=Uh.mp ho
   have il:=(Qv.mp hi).1
   rw [sh.lr] at il
   have:=sh.lw i il
   unfold Tb.Tab.row at this
   rw [Qi,hi] at this
   have this:o.length=n+1:=this
   omega
 . rw [sh.lw l hl];omega
 . obtain ⟨i,hi⟩:=Uh.mp ho
   have il:=(Qv.mp hi).1
   rw [sh.lr] at il
   have:=sh.lw i il
   unfold Tb.Tab.row at this
   rw [Qi,hi] at this
   have this:o.length=n+1:=this
   omega
 . unfold Tb.Tab.row
   rw [Qi,Qf hlr]
   exact Xt _
 intro ps hps
 have lps:ps.length=T.rows.length:=by have:=congrArg List.length hps;rwa [Qc,Qc] at this
 refine ⟨_,.refl,?_⟩
 refine ⟨l,Bm (by omega) (by omega),λ b=>?_⟩
 refine ⟨_,.refl,Jl4 Y ⟨l,(b,(T.row l).map .int),Bm (by omega) (by rw [Qp];omega),by rw [Q7 (by omega)],k,Bm (by omega) (by rw [Qc,sh.lw l hl];omega),?_⟩⟩
 refine ⟨_,rfl,?_⟩
 rw [J9d,X5,hps]
 unfold Tb.Tab.ex
 rw [X5,X5,Q0]
 rfl
theorem Zu:FnScope ["self","wanted","place","at"] ["self","wanted"] (Jd W0):=⟨rfl,rfl,rfl,by decide +kernel,rfl,by decide +kernel,by decide +kernel⟩
theorem Jcg {C:Addr}(T:Txt mg) (Y:TableOk K C) (D:DefM K C "find_round" "Table.find_round" W0 ["self","wanted"]) (c_Table__place_to_raise:Wj P w K mg base C "place_to_raise" 2 ["self","wanted"] (Jn (Jcq C))) (c_Table__row_to_free:Wj P w K mg base C "row_to_free" 2 ["self","place"] (Jn (Je1 C))) (c_Table__counts_by:Wj P w K mg base C "counts_by" 3 ["self","place"] (Jn (Jea C))) (c_Table__exchange:Wj P w K mg base C "exchange" 2 ["self","at","place"] (Jzy C)):Wj P w K mg base C "find_round" 4 ["self","wanted"] (Jgf C):=by
 refine D.cal Y.c λ f fd F=>F.ok Zu (λ vs H Q E h=>by obtain ⟨ex,p,fa,ba,nw,nr,be,m,n,c,rhs,T,W,some,wv,rfl,_⟩:=h;rfl) (λ cdv A outer s H vs Q E hr h=>?_)
 refine ⟨_,(@Jb _ _ _ _ _ (Jw (i:=2) Zu.nd rfl (Qa rfl) (Jfw c_Table__place_to_raise (hr.mono (by decide)) (pv 0) (Ja (pv 1) Jc)))
  (@Jb _ _ _ _ _ (Jgj Xv (Ya Ju5 (pv 2) Jay (J9 _))
  (@Jb _ _ _ _ _ (Jw (i:=3) Zu.nd rfl (Qa rfl) (Jfw c_Table__row_to_free (hr.mono (by decide)) (pv 0) (Ja (pv 2) Jc)))
  (@Jb _ _ _ _ _ (Wl (Ya Jjk (pv 3) Jay (J9 _)) (@Ji _ _ _ (@Jy _ _ _ _ (Jfw c_Table__counts_by (hr.mono (by decide)) (pv 0) (Ja (pv 2) Jc)))) Yr)
  (@Jb _ _ _ _ _ (Jck (Jfw c_Table__exchange (hr.mono (by decide)) (pv 0) (Ja (pv 3) (Ja (pv 2) Jc))))
  (@Ji _ _ _ (Jw (i:=2) Zu.nd rfl (Qa rfl) (Jfw c_Table__place_to_raise (hr.mono (by decide)) (pv 0) (Ja (pv 1) Jc))))))))
  (@Ji _ _ _ (@Jy _ _ _ _ Jay)))),?_⟩
 obtain ⟨ex,p,fa,ba,nw,nr,be,m,n,c,rhs,T0,W,ways,wv,rfl,hT,hw,S,hm,hn,h1,h2,hk,fit,qr,ql⟩:=h
 have t0:TurnG C ex p fa ba ⟨(nw:Int),(nr:Int),(be:Int)⟩ m n be c rhs W T0 H wv 0 T0 H:=⟨hT,hk,.refl,hw,λ _=>T0,λ _=>0,λ _=>0,Jq5 hk.ok hk.fe,rfl,λ _ _=>hk.nm⟩
 let Pl:V->Tb.Tab->Prop:=λ pv T'=>(pv = .non/\Tb.Last m n W T')\/∃ k,pv=Y5 k/\k<n/\0<T'.rise m W k/\∀ j,j<n->0<T'.rise m W j->T'.f k<=T'.f j
 show Jae _ _ _ [some (.ref p),some wv,none,none] H
 refine Zp (λ σ' H'=>∃ pv,σ'=[some (.ref p),some wv,some pv,none]/\TurnG C ex p fa ba ⟨(nw:Int),(nr:Int),(be:Int)⟩ m n be c rhs W T0 H wv 0 T0 H'/\Pl pv T0) (λ N hN=>?_) ?_
 . exact Jfq S hm hn t0 rfl rfl (λ k H' a b c kp=>hN _ _ ⟨Y5 k,rfl,t0.keep kp,.inr ⟨k,rfl,a,b,c⟩⟩) (λ H' hl kp=>hN _ _ ⟨.non,rfl,t0.keep kp,.inl ⟨rfl,hl⟩⟩)
 rintro σ' H' ⟨pv,rfl,t1,pl⟩
 refine Zp (λ σ2 H2=>∃ N T',TurnG C ex p fa ba ⟨(nw:Int),(nr:Int),(be:Int)⟩ m n be c rhs W T0 H wv N T' H2/\Tb.Last m n W T') (λ N hN=>?_) ?_
 . refine ⟨λ μ σ2 H2=>∃ pv av N T',σ2=[some (.ref p),some wv,some pv,av]/\TurnG C ex p fa ba ⟨(nw:Int),(nr:Int),(be:Int)⟩ m n be c rhs W T0 H wv N T' H2/\Pl pv T'/\μ = be^m-N,⟨_,pv,none,0,T0,rfl,t1,pl,rfl⟩,?_⟩
   rintro μ σ2 H2 ⟨pv,av,N1,T1,rfl,t2,pl,rfl⟩
   rcases pl with ⟨rfl,hl⟩ | ⟨k,rfl,a,b,cf⟩
   . exact ⟨_,rfl,rfl,_,rfl,Jg2 (by simp) (hN _ _ ⟨N1,T1,t2,hl⟩)⟩
   . refine ⟨_,rfl,rfl,_,rfl,Jls (by simp) ⟨λ σ' H'=>∃ μ',μ'<be^m-N1/\∃ pv av N T',σ'=[some (.ref p),some wv,some pv,av]/\TurnG C ex p fa ba ⟨(nw:Int),(nr:Int),(be:Int)⟩ m n be c rhs W T0 H wv N T' H'/\Pl pv T'/\μ'=be^m-N,λ σ' H' h=>h,?_⟩⟩
     refine Zp (λ σ' H'=>∃ av',σ'=[some (.ref p),some wv,some (Y5 k),some av']/\TurnG C ex p fa ba ⟨(nw:Int),(nr:Int),(be:Int)⟩ m n be c rhs W T0 H wv N1 T1 H'/\((av' = .non/\rf T1 n k m=none)\/∃ l,av'=Y5 l/\rf T1 n k m=some l)) (λ M hM=>?_) ?_
     . exact Job S hm hn t2 rfl rfl a (λ l H' e kp=>hM _ _ ⟨_,rfl,t2.keep kp,.inr ⟨l,rfl,e⟩⟩) (λ H' e kp=>hM _ _ ⟨_,rfl,t2.keep kp,.inl ⟨rfl,e⟩⟩)
     rintro σ3 H3 ⟨av',rfl,t3,hf⟩
     rcases hf with ⟨rfl,e⟩ | ⟨l,rfl,e⟩
     . refine ⟨_,rfl,rfl,_,rfl,Jls (by simp) ?_⟩
       have ry:=Jzx a b e
       have sh:=Jav S t3.k.ok hm hn
       have hs:sizeLine=16777216:=Yar
       obtain ⟨dx,rv,o1,o2⟩:=t3.h.o
       obtain ⟨j,hj,jp⟩:=Jpq fit t3.k.tot t3.k.ok ry
       have jn:=fit.sm j hj
       have jm:T1.dir m k j∈(Qg nw).map (T1.dir m k):=Qq.mpr ⟨j,Q5.mpr jn,rfl⟩
       have jb:(T1.dir m k j).natAbs<2^9000:=Qy (Ji9 sh t3.k.ok a ((fit.names t3.k.tot j).mpr (.inr hj))) (J5z (by decide) (by decide))
       have j0:T1.dir m k j≠0:=by omega
       refine ⟨_,rfl,p,dx,_,rfl,o1,rfl,_,rfl,?_⟩
       refine Jeb (sp:=Jea C) (E:=E0) (vs:=[Y5 k]) (as:=[.d (Ju k)]) t3.h (by rw [sh.lf];omega) (by rw [sh.lb];omega) ⟨⟨_,rfl,.int _⟩,trivial⟩ (P:=λ d _=>d = .tuple (((Qg nw).map (T1.dir m k)).map λ x=>.int (x/((Zb ((Qg nw).map (T1.dir m k)):Nat):Int)))) ⟨T1,m,n,k,nw,nr,be,rfl,sh,t3.k.nm,a,h1,h2,Ja7 jm j0,Jt7 jm j0 jb,rfl⟩ λ d n' v H' hp kp r=>?_
       subst hp
       exact qr H' T1 k v (t3.keep kp).h t3.k ry (t3.keep kp).kp r
     . refine ⟨_,rfl,rfl,_,rfl,Jg2 (by simp) ?_⟩
       have st:=Juh a b cf e
       have sh:=Jav S t3.k.ok hm hn
       obtain ⟨dx,rv,o1,o2⟩:=t3.h.o
       unfold Joo
       dsimp only
       refine Zp (λ σ' H'=>σ'=[some (.ref p),some wv,some (Y5 k),some (Y5 l)]/\TurnG C ex p fa ba ⟨(nw:Int),(nr:Int),(be:Int)⟩ m n be c rhs W T0 H wv (N1+1) (T1.ex l k) H') (λ M hM=>?_) ?_
       . exact ⟨_,rfl,p,dx,_,rfl,o1,rfl,_,rfl,_,rfl,ex,p,fa,ba,_,T1,m,n,l,k,rfl,t3.h,sh,st.hl,a,λ H' hT' kp=>hM _ _ ⟨rfl,t3.next st hT' kp⟩⟩
       rintro σ4 H4 ⟨rfl,t4⟩
       have few:=t4.few
       refine Jfq S hm hn t4 rfl rfl (λ k' H' a b c kp=>⟨_,?_,Y5 k',_,_,_,rfl,t4.keep kp,.inr ⟨k',rfl,a,b,c⟩,rfl⟩) (λ H' hl kp=>⟨_,?_,.non,_,_,_,rfl,t4.keep kp,.inl ⟨rfl,hl⟩,rfl⟩)
       . omega
       . omega
 . rintro σ2 H2 ⟨N,T',t,hl⟩
   exact ql H2 T' t.h t.k hl t.kp
theorem V0:FnScope ["book","stand","rooms","purses","ways","room","numbers"] ["book","stand"] (Jd W6):=⟨rfl,rfl,rfl,by decide +kernel,rfl,by decide +kernel,by decide +kernel⟩
theorem Jfe (T:Txt mg) (D:Def K mg "first_numbers" W6 ["book","stand"]):Cal P w K mg base "first_numbers" 1 ["book","stand"] (Y3 Jh4):=by
 refine D.cal λ f fd F=>F.ok V0 (Wd ?_) (λ cdv A outer s H vs Q E hr h=>?_)
 . rintro as n P ⟨R,U,ws,room,nums,rfl,_⟩
   rfl
 refine ⟨_,(@Jb _ _ _ _ _ (Yf (pv 0) (B6 (K':=K) (i:=2) (j:=3) (m:=4) rfl V0.nd ⟨rfl,(Qa rfl),(Qa rfl)⟩ ⟨rfl,(Qa rfl),(Qa rfl)⟩ ⟨rfl,(Qa rfl),(Qa rfl)⟩ rfl))
  (@Jb _ _ _ _ _ (Wl (Ya Jjk (pv 1) Jay (J9 _)) (@Ji _ _ _ (@Jy _ _ _ _ (Jv Jgp (@PEs.out _ _ _ (Yb (Jm Yc Jt))) (Jv Wh (pv 3) (pv 2))))) Yr)
  (@Jb _ _ _ _ _ (Yf (pv 1) (Y4 (K':=K) (i:=5) (j:=6) rfl V0.nd ⟨rfl,(Qs rfl),(Qa rfl)⟩ ⟨rfl,(Qa rfl),(Qa rfl)⟩ rfl))
  (@Ji _ _ _ (@Jy _ _ _ _ (Jv Jep (J5 Wu rfl T.b_list Ya4 (Ja (pv 6) Jc)) (Yw (sc:=(Jd W6)) (N:=["book","stand","rooms","purses","ways","room","numbers"]) (N':=["other","room"]) (k:=1) (idx:=[5]) rfl (by exact ⟨rfl,by decide +kernel,by decide +kernel,by decide +kernel,by decide +kernel,by decide +kernel,rfl,rfl⟩) rfl rfl (Zg rfl T.b_range (Ja (pv 2) Jc)) (λ _ _ _ _=>(J0 (i:=0) (show (["other","room"]:List Str).Nodup by decide +kernel) rfl (Qa rfl) (Qs rfl))) (λ _ _ _ _=>Yu) (λ _ _ _ _=>(J5 Jcl rfl T.b_int Ybk (Jjs (Vh Jbp (pv 0) (pv 1) (J9 _)) Jc)))))))))),Zw h ?_⟩
 rintro as n P ⟨R,U,ws,room,nums,rfl,ok,sd,q⟩
 have hs:sizeLine=16777216:=Yar
 have one:(1:Nat)<=sizeLine:=by rw [hs];decide
 have r0:=ok.r0
 have r1:=ok.r1
 have p0:=ok.p0
 have p1:=ok.p1
 have sl:=sd.len
 refine ⟨rfl,rfl,rfl,_,.refl,rfl,Jc0 ⟨_,.refl,?_⟩⟩
 refine ⟨rfl,rfl,_,.refl,R,rfl,⟨by omega,by omega⟩,⟨rfl,by rw [Yq];omega⟩,?_⟩
 refine Ve (λ i=>.int (if decide ((i:Int)=room)=true then 1 else 0)) (λ i hi n K hK=>V3 ?_) ?_
 . rw [show ((i:Nat):Int)=0+(i:Int) from (J4y _).symm] at hK
   exact hK
 . have e:nums.map Qn++(Qg R.toNat).map (λ i=>.int (if decide ((i:Int)=room)=true then 1 else 0))=((Qg (U+R).toNat).map (rhS U room nums)).map .int:=by
    rw [show (U+R).toNat=U.toNat+R.toNat by omega,J7l,Xd,Xd,Q0,Q0,Q0]
    congr 1
    . apply Xq
      intro i
      rw [Qm,Qm]
      by_cases hi:i<U.toNat
      . have il:i<nums.length:=by omega
        rw [X4 hi,Qf il]
        show some (Qn nums[i])=some (Qn (rhS U room nums i))
        unfold rhS
        rw [if_pos (by omega),Qi,Qf il];rfl
      . rw [Qx (by omega),Qx (by rw [Qz];omega)];rfl
    . refine U7 λ i hi=>?_
      show Qn _=Qn (rhS U room nums (U.toNat+i))
      have h1:rhS U room nums (U.toNat+i)=if (i:Int)=room then 1 else 0:=by
       unfold rhS
       rw [if_neg (by omega),show ((U.toNat+i:Nat):Int)-U=(i:Int) by omega]
      rw [h1]
      simp only [decide_eq_true_eq]
   rw [e]
   refine ⟨by rw [Qc,Qc,Qz];omega,q⟩
theorem Vr:FnScope ["self","book","some","stand","rooms","purses","ways","rows"] ["self","book","some","stand"] (Jd Ze):=⟨rfl,rfl,rfl,by decide +kernel,rfl,by decide +kernel,by decide +kernel⟩
theorem Jh9 {C:Addr}(T:Txt mg) (Y:TableOk K C) (D:DefI2 K mg "Table" C "Table.__init__" Ze ["self","book","some","stand"]) (Gp:Cal P w K mg base "first_numbers" 1 ["book","stand"] (Y3 Jh4)):Jl9 P w K mg base "Table" C 2 ["self","book","some","stand"] (Jku C):=by
 refine D.cal λ f fd F=>F.ok Vr (λ vs H Q E h=>by obtain ⟨ex,x,dx,R,U,ws,room,nums,ks,bv,sv,tv,rfl,_⟩:=h;rfl) (λ cdv A outer s H vs Q E hr h=>?_)
 refine ⟨_,(@Jb _ _ _ _ _ (Yf (pv 1) (B6 (K':=K) (i:=4) (j:=5) (m:=6) rfl Vr.nd ⟨rfl,(Qa rfl),(Qa rfl)⟩ ⟨rfl,(Qa rfl),(Qa rfl)⟩ ⟨rfl,(Qs rfl),(Qa rfl)⟩ rfl))
  (@Jb _ _ _ _ _ (Ja1 (pv 0) (Jx J7 rfl T.b_len Ud (Ja (pv 6) Jc)) rfl)
  (@Jb _ _ _ _ _ (Ja1 (pv 0) (Jv Wh (Jx J7 rfl T.b_len Ud (Ja (pv 6) Jc)) (pv 5)) rfl)
  (@Jb _ _ _ _ _ (Ja1 (pv 0) (Jv Wh (Jv Wh (Jx J7 rfl T.b_len Ud (Ja (pv 6) Jc)) (pv 5)) (pv 4)) rfl)
  (@Jb _ _ _ _ _ (Ja1 (pv 0) (J5 Wu rfl T.b_list Ya4 (Ja (pv 2) Jc)) rfl)
  (@Jb _ _ _ _ _ (Ja1 (pv 0) (Jik rfl rfl T.b_list rfl T.b_range (Vm (Jz (K':=K) rfl (pv 0)) (Vm (Jz (K':=K) rfl (pv 0)) Jc))) rfl)
  (@Jb _ _ _ _ _ (Wo (i:=7) (sc:=(Jd Ze)) (N:=["self","book","some","stand","rooms","purses","ways","rows"]) (N':=["p","some","ways"]) (k:=1) (idx:=[2,6]) rfl Vr.nd rfl rfl (by exact ⟨rfl,by decide +kernel,by decide +kernel,by decide +kernel,by decide +kernel,by decide +kernel,rfl,rfl⟩) rfl rfl (Zg rfl T.b_range (Ja (pv 5) Jc)) (λ _ _ _ _=>(J0 (i:=0) (show (["p","some","ways"]:List Str).Nodup by decide +kernel) rfl (Qs rfl) (Qa rfl))) (λ _ _ _ _=>Yu) (λ _ _ _ _=>(Yw (sc:=Jvq _ (Jd Ze)) (N:=["p","some","ways"]) (N':=["k","ways","p"]) (k:=1) (idx:=[2,0]) rfl (by exact ⟨rfl,by decide +kernel,by decide +kernel,by decide +kernel,by decide +kernel,by decide +kernel,rfl,rfl⟩) (Jy3 rfl) rfl (by exact (Jma (K':=K) rfl (pv 1))) (λ _ _ _ _=>(J0 (i:=0) (show (["k","ways","p"]:List Str).Nodup by decide +kernel) rfl (Qa rfl) (Qs rfl))) (λ _ _ _ _=>Yu) (λ _ _ _ _=>(Vg Z8 (Jp (B7 (K':=K) rfl) (Jp (B7 (K':=K) rfl) (Jp (B7 (K':=K) rfl) (pv 1) (pv 0) (λ _ _=>rfl)) Jg (λ _ _=>rfl)) (pv 2) (λ _ _=>rfl)))))))
  (@Jb _ _ _ _ _ (Jyf (i:=7) Vr.nd rfl (Qa rfl) (Yw (sc:=(Jd Ze)) (N:=["self","book","some","stand","rooms","purses","ways","rows"]) (N':=["room","some","ways"]) (k:=1) (idx:=[2,6]) rfl (by exact ⟨rfl,by decide +kernel,by decide +kernel,by decide +kernel,by decide +kernel,by decide +kernel,rfl,rfl⟩) rfl rfl (Zg rfl T.b_range (Ja (pv 4) Jc)) (λ _ _ _ _=>(J0 (i:=0) (show (["room","some","ways"]:List Str).Nodup by decide +kernel) rfl (Qs rfl) (Qa rfl))) (λ _ _ _ _=>Yu) (λ _ _ _ _=>(Yw (sc:=Jvq _ (Jd Ze)) (N:=["room","some","ways"]) (N':=["k","ways","room"]) (k:=1) (idx:=[2,0]) rfl (by exact ⟨rfl,by decide +kernel,by decide +kernel,by decide +kernel,by decide +kernel,by decide +kernel,rfl,rfl⟩) (Jy3 rfl) rfl (by exact (Jma (K':=K) rfl (pv 1))) (λ _ _ _ _=>(J0 (i:=0) (show (["k","ways","room"]:List Str).Nodup by decide +kernel) rfl (Qa rfl) (Qs rfl))) (λ _ _ _ _=>Yu) (λ _ _ _ _=>(Jv Ja0 (J5 Jcl rfl T.b_int Ybk (Jjs (Vh Jbp (Jp (B7 (K':=K) rfl) (Jp (B7 (K':=K) rfl) (pv 1) (pv 0) (λ _ _=>rfl)) Jg (λ _ _=>rfl)) (pv 2) (J9 _)) Jc)) (J5 Jcl rfl T.b_int Ybk (Jjs (Vh Jbp (Jp (B7 (K':=K) rfl) (Jp (B7 (K':=K) rfl) (pv 1) (pv 0) (λ _ _=>rfl)) Jg (λ _ _=>rfl)) (pv 2) (J9 _)) Jc))))))) Jwq)
  (@Jb _ _ _ _ _ (Ja1 (pv 0) (Yw (sc:=(Jd Ze)) (N:=["self","book","some","stand","rooms","purses","ways","rows"]) (N':=["row","first"]) (k:=2) (idx:=[]) rfl (by exact ⟨rfl,by decide +kernel,by decide +kernel,by decide +kernel,by decide +kernel,by decide +kernel,rfl,rfl⟩) rfl rfl (Jai rfl T.b_zip (Ja (pv 7) (Wa (Y7 Gp (hr.mono (by decide)) rfl (Ja (pv 1) (Ja (pv 3) Jc))) Jc))) (λ _ _ _ _=>(Y4 (K':=K) (i:=0) (j:=1) rfl (show (["row","first"]:List Str).Nodup by decide +kernel) ⟨rfl,(Qa rfl),(Qs rfl)⟩ ⟨rfl,(Qa rfl),(Qs rfl)⟩ rfl)) (λ _ _ _ _=>Yu) (λ _ _ _ _=>(Jv Jep (pv 0) (@PEs.out _ _ _ (Yb (Ys (Jr (pv 1)) Jt)))))) rfl)
  (@Ji _ _ _ (Ja1 (pv 0) Jg rfl))))))))))),?_⟩
 obtain ⟨ex,x,dx,R,U,ws,room,nums,ks,bv,sv,tv,rfl,hx,alx,nxe,rb,rs,rt,ok,sd,hk,kl,q⟩:=h
 have hs:sizeLine=16777216:=Yar
 have r0:=ok.r0
 have r1:=ok.r1
 have p0:=ok.p0
 have p1:=ok.p1
 have wl:=ok.len
 obtain ⟨ba,wa,vs,B⟩:=Jsf rb
 have bl:=B.len
 obtain ⟨sa,svs,rfl,hsa,nsa,zsa,rsa⟩:=Jve rs
 have bx:ba≠x:=λ z=>B.nb (by rw [z];exact Qk)
 have wx:wa≠x:=λ z=>B.nw (by rw [z];exact Qk)
 have sx:sa≠x:=λ z=>nsa (by rw [z];exact Qk)
 refine ⟨_,rfl,ba,_,B.e,SqT.of B.b,rfl,_,_,rfl,_,_,rfl,_,_,rfl,rfl,?_⟩
 show Jae _ _ _ [some (.ref x),some bv,some (.ref sa),some tv,some (.int R),some (.int U),some (.ref wa),none] H
 refine ⟨_,rfl,wa,vs,rfl,.inr (SqT.of B.w),_,rfl,x,C,dx,_,rfl,hx,Y.c,Y.n1,Xf rfl,?_⟩
 refine ⟨_,rfl,wa,vs,rfl,.inr (SqT.of (by rw [Je wx];exact B.w)),_,rfl,_,_,rfl,rfl,_,rfl,x,C,dx,_,rfl,Jf,Y.c,Y.n2,Xf rfl,?_⟩
 rw [Jf2]
 refine ⟨_,rfl,wa,vs,rfl,.inr (SqT.of (by rw [Je wx];exact B.w)),_,rfl,_,_,rfl,rfl,_,rfl,_,_,rfl,rfl,_,rfl,x,C,dx,_,rfl,Jf,Y.c,Y.n3,Xf rfl,?_⟩
 rw [Jf2,bl]
 refine ⟨_,rfl,sa,svs,rfl,.inl (SqL.of (by rw [Je sx];exact hsa)),λ fa hfa=>?_⟩
 have fx:fa≠x:=λ z=>by rw [z,Jf] at hfa;cases hfa
 rw [Je fx] at hfa
 refine ⟨_,rfl,x,C,dx,_,rfl,by rw [Je (Qh fx),Jf],Y.c,Y.n4,Xf rfl,?_⟩
 refine ⟨_,rfl,x,C,dx,_,_,rfl,Jf,Y.c,Y.n1,rfl,_,rfl,x,C,dx,_,_,rfl,Jf,Y.c,Y.n3,rfl,_,_,rfl,by omega,by omega,by omega,λ ba' hba=>?_⟩
 have bx':ba'≠x:=λ z=>by rw [z,Jf] at hba;cases hba
 rw [Je bx'] at hba
 have bf:ba'≠fa:=λ z=>by rw [z,Jf] at hba;cases hba
 rw [Je bf,Je bx'] at hba
 refine ⟨_,rfl,x,C,dx,_,rfl,by rw [Je (Qh bx'),Jf],Y.c,Y.n5,Xf rfl,?_⟩
 have svs':svs=ks.map Y5:=by
  have:=Reps.ints_inv (ns:=ks.map λ k:Nat=>(k:Int)) (vs:=svs) (by rw [Q0];exact rsa)
  rw [this,Q0];rfl
 have bds:Jec (ws.length:Int) ((ws.length:Int)+U+R-(ws.length:Int)).toNat=(Jcu R U ws room nums ks).bd.map Y5:=by
  unfold Jec Jcu Tb.Vp
  rw [Q0,show ((ws.length:Int)+U+R-(ws.length:Int)).toNat=(U+R).toNat by omega]
  refine U7 λ i _=>?_
  show V.int _=V.int _
  congr 1
 subst svs'
 rw [bds]
 let fs5:List (Str×V):=[("first_purse",.int ws.length),("first_room",.int (ws.length+U)),("behind_all",.int (ws.length+U+R)),("free",.ref fa),("bound",.ref ba')]
 obtain ⟨H6,e6,h6x,h6f,h6b,k6⟩:∃ H6:Hp,H6=upd (upd (upd (upd (upd H x (.ins C dx (L2.putF "behind_all" (.int ((ws.length:Int)+U+R)) (L2.putF "first_room" (.int ((ws.length:Int)+U)) (L2.putF "first_purse" (.int (ws.length:Int)) []))))) fa (.lst (ks.map Y5))) x (.ins C dx (L2.putF "free" (.ref fa) (L2.putF "behind_all" (.int ((ws.length:Int)+U+R)) (L2.putF "first_room" (.int ((ws.length:Int)+U)) (L2.putF "first_purse" (.int (ws.length:Int)) [])))))) ba' (.lst ((Jcu R U ws room nums ks).bd.map Y5))) x (.ins C dx fs5)/\H6 x=some (.ins C dx fs5)/\H6 fa=some (.lst (ks.map Y5))/\H6 ba'=some (.lst ((Jcu R U ws room nums ks).bd.map Y5))/\Kp [x] H H6:=by
  refine ⟨_,rfl,Jf,by rw [Je fx,Je (Qh bf),Je fx,Jf],by rw [Je bx',Jf],λ b o e nb=>?_⟩
  have nx:b≠x:=λ z=>nb (by rw [z];exact Qk)
  rw [Je nx,Je (Jl e hba),Je nx,Je (Jl e hfa),Je nx]
  exact e
 dsimp only
 have go:∀ {a b:TS} {D:Ends} {σ:L2.St} (H':Hp),H'=H6->Jae a b D σ H6->Jae a b D σ H':=λ {a b D σ} H' e g=>by rw [e];exact g
 refine go _ e6.symm ?_
 clear go
 have kx6:Kp (fa::ba'::x::ex) H H6:=k6.mono λ b hb=>by rw [Qu.mp hb];simp
 have frx:∀ b∈[fa,ba'],H b=none:=λ b hb=>by
  rcases Qd.mp hb with rfl | hb
  . exact hfa
  . rw [Qu.mp hb];exact hba
 have rb6:Rep (fa::ba'::x::ex) H6 (J3 R U ws) bv:=(Rep.adds (L:=[fa,ba']) frx rb).keep kx6
 have rs6:Rep (fa::ba'::x::ex) H6 (.list (ks.map Ju)) (.ref sa):=(Rep.adds (L:=[fa,ba']) frx rs).keep kx6
 have rt6:Rep (fa::ba'::x::ex) H6 (Z0 room nums) tv:=(Rep.adds (L:=[fa,ba']) frx rt).keep kx6
 have rw6:Rep (fa::ba'::x::ex) H6 (.tuple (ws.map Y2)) (.ref wa):=(Rep.adds (L:=[fa,ba']) frx (.tuple B.w B.nw B.z B.r)).keep kx6
 have al6:Alc (fa::ba'::x::ex) H6:=λ b hb=>by
  rcases Qd.mp hb with rfl | hb
  . rw [h6f];exact Xu _
  . rcases Qd.mp hb with rfl | hb
    . rw [h6b];exact Xu _
    . rcases Qd.mp hb with rfl | hb
      . rw [h6x];exact Xu _
      . cases e:H b with
        | none=>exact absurd e (alx b hb)
        | some o=>rw [k6 b o e (λ z=>nxe (by rw [<- Qu.mp z];exact hb))];exact Xu _
 have hU:((U.toNat:Nat):Int)=U:=J36 (by omega)
 have hR:((R.toNat:Nat):Int)=R:=J36 (by omega)
 have E6:Ev Src.no (fa::ba'::x::ex) [.jnk,.d (J3 R U ws),.d (.list (ks.map Ju)),.d (Z0 room nums),.d (.int R),.d (.int U),.d (.tuple (ws.map Y2))] [some (.ref x),some bv,some (.ref sa),some tv,some (.int R),some (.int U),some (.ref wa),none] H6 0:=Jfy.ev ⟨trivial,⟨_,rfl,rb6⟩,⟨_,rfl,rs6⟩,⟨_,rfl,rt6⟩,⟨_,rfl,.int _⟩,⟨_,rfl,.int _⟩,⟨_,rfl,rw6⟩,trivial⟩ al6
 refine Jt8 (λ ds _=>ds=(Qg U.toNat).map λ i=>.list (ks.map λ k=>.int (Zc U ws k i))) E6 ?_ ?_
 . refine ⟨U,rfl,⟨by omega,by omega⟩,⟨rfl,by rw [Yq];omega⟩,?_⟩
   refine Ve (λ i=>.list (ks.map λ k=>.int (Zc U ws k i))) (λ i hi n K hK=>V3 ⟨⟨rfl,by rw [Qc];omega⟩,?_⟩) rfl
   refine Ww (f:=Ju) (λ k=>.int (Zc U ws k i)) (λ k hkk n K hK=>V3 ?_) hK
   have k1:=hk k hkk
   have wok:=ok.ways _ (Yp (Xi k) (by omega))
   have gl:i<(Jj ws (k:Int)).g.length:=by have:=wok.len;omega
   refine ⟨_,Jc6 (Xi k) (by omega),_,rfl,_,Yi (by omega) (by rw [J4y,Q8,Qm,Qf gl];rfl),?_⟩
   have e:Zc U ws k i = -(Jj ws (k:Int)).g[i]:=by
    unfold Zc
    rw [if_pos k1,if_pos (by omega),Qi,Qf gl];rfl
   rw [e] at hK
   exact hK
 rintro ds n7 ra rvs H7 rfl st7 hra h7a z7 r7
 have k7:Kp [] H6 H7:=st7.1
 have E7:=E6.step st7
 have kx7:Kp (ra::fa::ba'::x::ex) H6 H7:=k7.mono λ a ha=>by cases ha
 have al7:Alc (ra::fa::ba'::x::ex) H7:=λ b hb=>by
  rcases Qd.mp hb with rfl | hb
  . rw [h7a];exact Xu _
  . exact E7.al b hb
 have rb7:Rep (ra::fa::ba'::x::ex) H7 (J3 R U ws) bv:=(Rep.add hra rb6).keep kx7
 have rs7:Rep (ra::fa::ba'::x::ex) H7 (.list (ks.map Ju)) (.ref sa):=(Rep.add hra rs6).keep kx7
 have rt7:Rep (ra::fa::ba'::x::ex) H7 (Z0 room nums) tv:=(Rep.add hra rt6).keep kx7
 have rw7:Rep (ra::fa::ba'::x::ex) H7 (.tuple (ws.map Y2)) (.ref wa):=(Rep.add hra rw6).keep kx7
 have E7':Ev Src.no (ra::fa::ba'::x::ex) [.jnk,.d (J3 R U ws),.d (.list (ks.map Ju)),.d (Z0 room nums),.d (.int R),.d (.int U),.d (.tuple (ws.map Y2))] [some (.ref x),some bv,some (.ref sa),some tv,some (.int R),some (.int U),some (.ref wa),some (.ref ra)] H7 0:=Jfy.ev ⟨trivial,⟨_,rfl,rb7⟩,⟨_,rfl,rs7⟩,⟨_,rfl,rt7⟩,⟨_,rfl,.int _⟩,⟨_,rfl,.int _⟩,⟨_,rfl,rw7⟩,trivial⟩ al7
 refine Jt9 (λ ds _=>ds=(Qg R.toNat).map λ i=>.list (ks.map λ k=>.int (Zc U ws k (U.toNat+i)))) E7' ?_ rfl h7a (by simp [Src.no]) ?_
 . refine ⟨R,rfl,⟨by omega,by omega⟩,⟨rfl,by rw [Yq];omega⟩,?_⟩
   refine Ve (λ i=>.list (ks.map λ k=>.int (Zc U ws k (U.toNat+i)))) (λ i hi n K hK=>V3 ⟨⟨rfl,by rw [Qc];omega⟩,?_⟩) rfl
   refine Ww (f:=Ju) (λ k=>.int (Zc U ws k (U.toNat+i))) (λ k hkk n K hK=>V3 ?_) hK
   have k1:=hk k hkk
   have wok:=ok.ways _ (Yp (Xi k) (by omega))
   have e:Zc U ws k (U.toNat+i)=(if decide ((Jj ws (k:Int)).a=0+(i:Int))=true then 1 else 0)-(if decide ((Jj ws (k:Int)).b=0+(i:Int))=true then 1 else 0):=by
    unfold Zc
    rw [if_pos k1,if_neg (by omega),show ((U.toNat+i:Nat):Int)-U=0+(i:Int) by omega]
    simp only [decide_eq_true_eq]
   rw [e] at hK
   exact ⟨_,Jc6 (Xi k) (by omega),_,rfl,_,Jc6 (Xi k) (by omega),_,rfl,hK⟩
 rintro ds n8 rb us H8 rfl st8 hrb h8b z8 r8 h8a
 have k8:Kp [] H7 H8:=st8.1
 have l7:=r7.length
 rw [Qc,Qz] at l7
 have l8:=r8.length
 rw [Qc,Qz] at l8
 refine ⟨by omega,?_⟩
 have nra:ra∉(fa::ba'::x::ex):=λ z=>E6.al ra z hra
 have nrb:ra≠rb:=λ z=>by rw [z,hrb] at h7a;cases h7a
 have ram:ra∈(ra::fa::ba'::x::ex):=Qk
 have k8':Kp (ra::fa::ba'::x::ex) H7 (upd H8 ra (.lst (rvs++us))):=(k8.mono λ a ha=>by cases ha).trans (Kp.at ram _)
 have rows8:Reps (ra::fa::ba'::x::ex) (upd H8 ra (.lst (rvs++us))) ((Qg (U+R).toNat).map λ i=>.list (ks.map λ k=>.int (Zc U ws k i))) (rvs++us):=by
  rw [show (U+R).toNat=U.toNat+R.toNat by omega,J7l,Xd,Q0]
  exact Reps.append (r7.keep k8') ((Reps.sub r8).keep (Kp.at ram _))
 have al8:Alc (fa::ba'::x::ex) (upd H8 ra (.lst (rvs++us))):=λ b hb=>by
  by_cases e:b=ra
  . rw [e,Jf];exact Xu _
  . rw [Je e];exact (E7'.step st8).al b (Qj _ hb)
 have E8:Ev Src.no (fa::ba'::x::ex) [.jnk,.d (J3 R U ws),.d (.list (ks.map Ju)),.d (Z0 room nums),.d (.int R),.d (.int U),.d (.tuple (ws.map Y2)),.d (.list ((Qg (U+R).toNat).map λ i=>.list (ks.map λ k=>.int (Zc U ws k i))))] [some (.ref x),some bv,some (.ref sa),some tv,some (.int R),some (.int U),some (.ref wa),some (.ref ra)] (upd H8 ra (.lst (rvs++us))) 0:=Jfy.ev ⟨trivial,⟨_,rfl,Rep.sub (rb7.keep k8')⟩,⟨_,rfl,Rep.sub (rs7.keep k8')⟩,⟨_,rfl,Rep.sub (rt7.keep k8')⟩,⟨_,rfl,.int _⟩,⟨_,rfl,.int _⟩,⟨_,rfl,Rep.sub (rw7.keep k8')⟩,⟨_,rfl,.list Jf nra (by rw [Xn];omega) (Reps.sub rows8)⟩,trivial⟩ al8
 have xra:x≠ra:=λ z=>nra (by rw [<- z];simp)
 have fra:fa≠ra:=λ z=>nra (by rw [<- z];simp)
 have bra:ba'≠ra:=λ z=>nra (by rw [<- z];simp)
 have h8x:(upd H8 ra (.lst (rvs++us))) x=some (.ins C dx fs5):=by rw [Je xra];exact k8 _ _ (k7 _ _ h6x (by simp)) (by simp)
 refine Jua (λ ds _=>ds=(Jcu R U ws room nums ks).rows.map Yx) E8 ?_ rfl h8x (by simp [Src.no]) Y.c Y.n6 (Xf rfl) ?_
 . refine ⟨R,U,ws,room,nums,rfl,ok,sd,_,_,_,_,rfl,rfl,rfl,⟨rfl,by rw [Bs,Qc,Qz];omega⟩,?_⟩
   have ez:Br ((Qg (U+R).toNat).map λ i=>Ux (ks.map λ k=>.int (Zc U ws k i))) (((Qg (U+R).toNat).map (rhS U room nums)).map .int)=(Qg (U+R).toNat).map λ i=>Uy [.list (ks.map λ k=>.int (Zc U ws k i)),.int (rhS U room nums i)]:=by
    apply Xq
    intro i
    unfold Br
    rw [J3u,Qm,Qm,Qm,Qm]
    by_cases hi:i<(U+R).toNat
    . rw [X4 hi];rfl
    . rw [Qx (by rw [Qz];omega)];rfl
   rw [ez]
   refine Ve (λ i=>Yx (ks.map (λ k=>Zc U ws k i)++[rhS U room nums i])) (λ i hi n K hK=>⟨rfl,rfl,V3 ?_⟩) ?_
   . have e:Yx (ks.map (λ k=>Zc U ws k i)++[rhS U room nums i]) = .list ((ks.map λ k=>.int (Zc U ws k i))++[.int (rhS U room nums i)]):=by
      show Ux _=_
      rw [Xd,Q0];rfl
     rw [e] at hK
     exact ⟨Xf rfl,by rw [Qc];show ks.length+1<=sizeLine;omega,hK⟩
   . unfold Jcu Tb.Vp
     rw [Q0]
     rfl
 rintro ds n9 rr vs9 H9 rfl st9 hrr h9r z9 r9 h9x
 have k9:Kp [] (upd H8 ra (.lst (rvs++us))) H9:=st9.1
 refine ⟨_,rfl,x,C,dx,_,rfl,Jf,Y.c,Y.n7,Xf rfl,?_⟩
 rw [Jf2]
 have h8f:(upd H8 ra (.lst (rvs++us))) fa=some (.lst (ks.map Y5)):=by rw [Je fra];exact k8 _ _ (k7 _ _ h6f (by simp)) (by simp)
 have h8b':(upd H8 ra (.lst (rvs++us))) ba'=some (.lst ((Jcu R U ws room nums ks).bd.map Y5)):=by rw [Je bra];exact k8 _ _ (k7 _ _ h6b (by simp)) (by simp)
 have xr:rr≠x:=λ z=>by rw [z,h8x] at hrr;cases hrr
 have fr:rr≠fa:=λ z=>by rw [z,h8f] at hrr;cases hrr
 have br:rr≠ba':=λ z=>by rw [z,h8b'] at hrr;cases hrr
 have nrx:rr∉fa::ba'::x::ex:=λ z=>E8.al rr z hrr
 have mv:∀ b,b∈x::fa::ba'::ex->b∈fa::ba'::x::ex:=λ b hb=>by
  simp only [Qd] at hb ⊢
  rcases hb with h | h | h | h
  . exact .inr (.inr (.inl h))
  . exact .inl h
  . exact .inr (.inl h)
  . exact .inr (.inr (.inr h))
 refine q _ fa ba' hfa hba ⟨⟨dx,.ref rr,?_,?_⟩,?_,?_,Qh fx,Qh bx',Qh bf,nxe,λ z=>alx fa z hfa,λ z=>alx ba' z hba,λ b hb=>?_⟩ λ b o e nb=>?_
 . rw [Jf];rfl
 . refine .list (by rw [Je xr];exact h9r) (λ z=>nrx (mv rr z)) z9 ?_
   exact (Reps.mono (λ b hb=>Qj _ (mv b hb)) r9).keep (Kp.at Qk _)
 . rw [Je fx];exact k9 _ _ h8f (by simp)
 . rw [Je bx'];exact k9 _ _ h8b' (by simp)
 . by_cases e:b=x
   . rw [e,Jf];exact Xu _
   . rw [Je e]
     exact E8.al.kp k9 b (Qj _ (Qj _ (Qj _ hb)))
 . have nx:b≠x:=λ z=>nb (by rw [z];exact Qk)
   rw [Je nx]
   refine k9 _ _ ?_ (by simp)
   have e6':=k6 b o e nb
   rw [Je (Jl e6' hra)]
   exact k8 _ _ (k7 _ _ e6' (by simp)) (by simp)
theorem Wt:FnScope ["self","told","name","row"] ["self"] (Jd W1):=⟨rfl,rfl,rfl,by decide +kernel,rfl,by decide +kernel,by decide +kernel⟩
theorem Jch {C:Addr}(T:Txt mg) (Y:TableOk K C) (D:DefM K C "counts_now" "Table.counts_now" W1 ["self"]):Wj P w K mg base C "counts_now" 1 ["self"] (Y3 (Juo C)):=by
 refine D.cal Y.c λ f fd F=>F.ok Wt (Wd ?_) (λ cdv A outer s H vs Q E hr h=>?_)
 . rintro as n P ⟨T,m,n,nw,nr,be,rfl,_⟩
   rfl
 refine ⟨_,(@Jb _ _ _ _ _ (Jw (i:=1) Wt.nd rfl (Qa rfl) (Jv Jgp (@PEs.out _ _ _ (Yb (Jm Yc Jt))) (Jz (K':=K) rfl (pv 0))))
  (@Jb _ _ _ _ _ (Vf Xv rfl (Jai rfl T.b_zip (Vm (Jz (K':=K) rfl (pv 0)) (Vm (Jz (K':=K) rfl (pv 0)) Jc))) (Y4 (K':=K) (i:=2) (j:=3) rfl Wt.nd ⟨rfl,(Qa rfl),(Qa rfl)⟩ ⟨rfl,(Qa rfl),(Qa rfl)⟩ rfl)
  (@Ji _ _ _ (Yf (Jp Js (pv 3) (Vg Z8 Jg) (λ _ _=>rfl)) (Wg (pv 1) (pv 2) Yv (λ v=>J2 _ _ _ _ _ v)))))
  (@Ji _ _ _ (@Jy _ _ _ _ (V2 B4 (pv 1) B2 (B3 (Jz (K':=K) rfl (pv 0)))))))),Zw h ?_⟩
 rintro as n' P ⟨T,m,n,nw,nr,be,rfl,sh,N,h1,h2,q⟩
 have hs:sizeLine=16777216:=Yar
 have one:(1:Nat)<=sizeLine:=by rw [hs];decide
 refine ⟨rfl,one,Jtz Y ⟨⟨by show (-2^63:Int)<=(be:Int);omega,by show (be:Int)<2^63;omega,by show 1*(be:Int).toNat<=_;omega⟩,?_⟩⟩
 rw [show ((be:Nat):Int).toNat=be from Q8 _,Jdx,show Qo be (Qn 0)=(Jfz T be n 0).map .int by rw [<- Jq7,J5s]]
 refine ⟨[.d (Zz C ⟨(nw:Int),(nr:Int),(be:Int)⟩ T),.own ((Jfz T be n 0).map .int),.jnk,.jnk],.eq rfl,Jb8 Y (Jaa Y ⟨_,_,_,_,rfl,rfl,rfl,?_⟩)⟩
 refine ⟨λ i env j=>j=n'/\∃ x y:Vl,env=[.d (Zz C ⟨(nw:Int),(nr:Int),(be:Int)⟩ T),.own ((Jfz T be n i).map .int),x,y],⟨rfl,_,_,rfl⟩,?_,?_⟩
 . rintro i x env j hx ⟨rfl,_,_,rfl⟩
   obtain ⟨hi,rfl⟩:=Jnz sh hx
   refine ⟨rfl,rfl,_,Jn0 sh hi,T.b i,Bm (by omega) (by rw [Qc,Jca];have:=N.bl i hi;omega),rfl,.d (Ju (T.b i)),.d (Yx (T.row i)),?_⟩
   rw [<- Jq8 N hi,X5]
   rfl
 . rintro env j ⟨rfl,_,_,rfl⟩
   have lz:(Br (T.bd.map Ju) (T.rows.map Yx)).length=m:=by rw [Bs,Qc,Qc,sh.lb,sh.lr];omega
   rw [lz]
   have cut:Jds ((Jfz T be n m).map Qn) none (some ((nw:Nat):Int))=((Qg nw).map (J8 T n m)).map .int:=by
    show Jds (((Qg be).map (J8 T n m)).map Qn) none (some ((nw:Nat):Int))=_
    rw [Jer,<- J3r,<- J3r,J9y,J5l h1]
   refine ⟨_,.refl,Jpp Y ?_⟩
   show P (Jds ((Jfz T be n m).map Qn) none (some ((nw:Nat):Int))) _
   rw [cut]
   exact q
theorem Jci:FnScope ["book","room","ways","reached"] ["book","room"] (Jd Jbf):=⟨rfl,rfl,rfl,by decide +kernel,rfl,by decide +kernel,by decide +kernel⟩
theorem Jmv (T:Txt mg) (D:Def K mg "ways_met" Jbf ["book","room"]) (Gq:Cal P w K mg base "rooms_reached" 1 ["book","some"] (Jn Jka)):Cal P w K mg base "ways_met" 2 ["book","room"] (Y3 Je5):=by
 refine D.cal λ f fd F=>F.ok Jci (Wd ?_) (λ cdv A outer s H vs Q E hr h=>?_)
 . rintro as n P ⟨R,U,ws,room,rfl,_⟩
   rfl
 refine ⟨_,(@Jb _ _ _ _ _ (Jw (i:=2) Jci.nd rfl (Qa rfl) (Jp Yg (pv 0) Jg (λ _ _=>rfl)))
  (@Jb _ _ _ _ _ (Jw (i:=3) Jci.nd rfl (Qs rfl) (Jp Js (Y7 Gq (hr.mono (by decide)) rfl (Ja (pv 0) (Wa (Jju rfl rfl T.b_list rfl T.b_range (Wa (Jx J7 rfl T.b_len Ud (Ja (pv 2) Jc)) Jc)) Jc))) (pv 1) (λ _ _=>rfl)))
  (@Ji _ _ _ (@Jy _ _ _ _ (Yw (sc:=(Jd Jbf)) (N:=["book","room","ways","reached"]) (N':=["k","way","reached"]) (k:=2) (idx:=[3]) rfl (by exact ⟨rfl,by decide +kernel,by decide +kernel,by decide +kernel,by decide +kernel,by decide +kernel,rfl,rfl⟩) rfl rfl (Jdr rfl T.b_enumerate (Ja (pv 2) Jc)) (λ _ _ _ _=>(Y4 (K':=K) (i:=0) (j:=1) rfl (show (["k","way","reached"]:List Str).Nodup by decide +kernel) ⟨rfl,(Qa rfl),(Qs rfl)⟩ ⟨rfl,(Qa rfl),(Qs rfl)⟩ rfl)) (λ _ _ _ _=>Jjn (Jbo (Jp (Jlk (K':=K) rfl) (pv 2) (Jp (B7 (K':=K) rfl) (pv 1) Jg (λ _ _=>rfl)) (λ _ _=>rfl)))) (λ _ _ _ _=>(pv 0))))))),Zw h ?_⟩
 rintro as n P ⟨R,U,ws,room,rfl,ok,ro,q⟩
 have hs:sizeLine=16777216:=Yar
 have r0:=ok.r0
 have wl:=ok.len
 have lt:∀ k∈nI (Qg ws.length),0<=k/\k<ws.length:=λ k hk=>by
  obtain ⟨i,hi,rfl⟩:=Qq.mp hk
  have:=Q5.mp hi
  omega
 refine ⟨rfl,_,rfl,_,.refl,?_⟩
 have wm:(ws.map Y2).length=ws.length:=Qc _
 have e:((Qg (((ws.map Y2).length:Nat):Int).toNat).map λ (i:Nat)=>Qn (i:Int))=(nI (Qg ws.length)).map .int:=by
  rw [Q8,wm];unfold nI;rw [Q0];rfl
 refine ⟨_,rfl,by omega,by omega,R,U,ws,nI (Qg ws.length),congrArg (λ xs=>[Vl.d (J3 R U ws),Vl.d (.list xs)]) e,ok,lt,?_⟩
 refine ⟨_,Js9 (R:=R.toNat) ro.1 (by omega),_,.refl,_,_,rfl,rfl,?_⟩
 rw [Jc7]
 refine ⟨⟨rfl,by rw [Qc,Qz,hs];omega⟩,?_⟩
 refine Jj1 (λ k=>Pw (Jct ws (nI (Qg ws.length))) R.toNat room.toNat (Jj ws (k:Int)).a.toNat) Ju (λ k hk n K h1 h2=>?_) q
 have wok:=ok.ways _ (Yp (k:=(k:Int)) (Xi k) (by omega))
 refine ⟨rfl,rfl,⟨_,rfl,⟨_,Js7 (R:=R.toNat) wok.a0 (by have:=wok.a1;omega),Vc h1 h2⟩⟩⟩
theorem Jia:FnScope ["book","rooms","purses","ways"] ["book"] (Jd Je8):=⟨rfl,rfl,rfl,by decide +kernel,rfl,by decide +kernel,by decide +kernel⟩
theorem Jok (T:Txt mg) (D:Def K mg "not_met" Je8 ["book"]):Cal P w K mg base "not_met" 1 ["book"] (Jn Jh3):=by
 refine D.cal λ f fd F=>F.ok Jia (Yd ?_) (λ cdv A outer s H vs Q E hr h=>?_)
 . rintro as n P ⟨R,U,ws,rfl,_⟩
   rfl
 refine ⟨_,(@Jb _ _ _ _ _ (Yf (pv 0) (B6 (K':=K) (i:=1) (j:=2) (m:=3) rfl Jia.nd ⟨rfl,(Qa rfl),(Qa rfl)⟩ ⟨rfl,(Qa rfl),(Qa rfl)⟩ ⟨rfl,(Qa rfl),(Qa rfl)⟩ rfl))
  (@Ji _ _ _ (@Jy _ _ _ _ (@PEs.out _ _ _ (Zd (Jm Wv (Jm Yc (Jm Yc (Jqg (Zd (Jan (Jr (Jv Jjq (@PEs.out _ _ _ (Zd (Jm Yc Jt))) (pv 2))) (Jan (Jr (Jv Jjq (@PEs.out _ _ _ (Zd (Jm Yc Jt))) (pv 1))) Jt))) (Jm Yc (Jan (Jr (Jv Jjq (@PEs.out _ _ _ (Zd (Jm Yc Jt))) (Jx J7 rfl T.b_len Ud (Ja (pv 3) Jc)))) (Jm Yc Jt)))))))))))),J6 h ?_⟩
 rintro as n P ⟨R,U,ws,rfl,ok,q⟩
 have hs:sizeLine=16777216:=Yar
 have r0:=ok.r0
 have r1:=ok.r1
 have p0:=ok.p0
 have p1:=ok.p1
 have wl:=ok.len
 have one:(1:Nat)<=sizeLine:=by rw [hs];decide
 refine ⟨rfl,rfl,rfl,_,.refl,?_⟩
 have wm:(ws.map Y2).length=ws.length:=Qc _
 have fin:P (.tuple [.str "most",.int 0,.int 1,.tuple [.tuple (Qo U.toNat [Qn 0]).flatten,.tuple (Qo R.toNat [Qn 0]).flatten],.int 1,.tuple (Qo (((ws.map Y2).length:Nat):Int).toNat [Qn 0]).flatten,.int 1]) n:=by
  rw [Jhe,Jhe,Jhe,wm]
  exact q
 have two:(2:Nat)<=sizeLine:=by rw [hs];decide
 have seven:(7:Nat)<=sizeLine:=by rw [hs];decide
 refine ⟨one,⟨by simp,by omega,by show 1*U<=_;omega,⟨one,⟨by simp,by omega,by show 1*R<=_;omega,⟨two,⟨one,⟨by simp,by omega,by show (1:Int)*(((ws.map Y2).length:Nat):Int)<=_;omega,⟨seven,fin⟩⟩⟩⟩⟩⟩⟩⟩
theorem Vs:FnScope ["table","k","counts","n","d","u_and_shares","e_and_counts"] ["table","k"] (Jd Jcc):=⟨rfl,rfl,rfl,by decide +kernel,rfl,by decide +kernel,by decide +kernel⟩
theorem Jk2 {C:Addr}(T:Txt mg) (Y:TableOk K C) (D:Def K mg "read_most" Jcc ["table","k"]) (c_Table__counts_now:Wj P w K mg base C "counts_now" 1 ["self"] (Y3 (Juo C))) (Gb:Cal P w K mg base "without_divisor" 2 ["numbers"] (Y3 Jf9)) (c_Table__shares:Wj P w K mg base C "shares" 2 ["self","wanted"] (Y3 (Jhr C))) (c_Table__as_sum:Wj P w K mg base C "as_sum" 1 ["self","shares"] (Jn (Jkl C))):Cal P w K mg base "read_most" 4 ["table","k"] (Jn (Jbc C)):=by
 refine D.cal λ f fd F=>F.ok Vs (Yd ?_) (λ cdv A outer s H vs Q E hr h=>?_)
 . rintro as n P ⟨R,U,ws,room,nums,ks,k,T,rfl,_⟩
   rfl
 refine ⟨_,(@Jb _ _ _ _ _ (Jw (i:=2) Vs.nd rfl (Qa rfl) (J1t c_Table__counts_now (hr.mono (by decide)) (pv 0)))
  (@Jb _ _ _ _ _ (Yf (Y7 Gb (hr.mono (by decide)) rfl (Jjr (@PEs.out _ _ _ (Yb (B5 (Jr (Jp Js (pv 2) (pv 1) (λ _ _=>rfl))) (Jh2 (Jr (Jz (K':=K) rfl (pv 0))) Jt)))) Jc)) (Jlm (K':=K) (i:=3) (j:=4) rfl Vs.nd ⟨rfl,(Qa rfl),(Qa rfl)⟩ ⟨rfl,(Qa rfl),(Qa rfl)⟩ rfl))
  (@Jb _ _ _ _ _ (Jw (i:=5) Vs.nd rfl (Qa rfl) (Y7 Gb (hr.mono (by decide)) rfl (V4 (Jv Jep (@PEs.out _ _ _ (Yb (Jh2 (Jr (Jz (K':=K) rfl (pv 0))) Jt))) (Jfw c_Table__shares (hr.mono (by decide)) (pv 0) (Jjr (@PEs.out _ _ _ (Yb (Ys (Jr (pv 1)) Jt))) Jc))) Jc)))
  (@Jb _ _ _ _ _ (Jw (i:=6) Vs.nd rfl (Qa rfl) (Y7 Gb (hr.mono (by decide)) rfl (V4 (Jv Jep (@PEs.out _ _ _ (Yb (Jh2 (Jr (Jz (K':=K) rfl (pv 0))) Jt))) (pv 2)) Jc)))
  (@Ji _ _ _ (@Jy _ _ _ _ (@PEs.out _ _ _ (Zd (Jm Wv (Ys (Jr (pv 3)) (Ys (Jr (pv 4)) (Yh (Jr (Jfw c_Table__as_sum (hr.mono (by decide)) (pv 0) (Ym (V2 B4 (pv 5) (B3 Jg) B2) Jc))) (B5 (Jr (Jp Js (pv 5) Jg (λ _ _=>rfl))) (Yh (Jr (J5 Ye rfl T.b_tuple Ya0 (Ym (V2 B4 (pv 6) (B3 Jg) B2) Jc))) (B5 (Jr (Jp Js (pv 6) Jg (λ _ _=>rfl))) Jt))))))))))))))),J6 h ?_⟩
 rintro as n' P ⟨R,U,ws,room,nums,ks,k,T,rfl,t,hk,l,q⟩
 have hs:sizeLine=16777216:=Yar
 have sh:=t.shape
 have N:=t.kept.nm
 have wl:=t.ok.len
 have r0:=t.ok.r0
 have r1:=t.ok.r1
 have p0:=t.ok.p0
 have p1:=t.ok.p1
 have m18:=t.m
 have kl:=t.lt k hk
 have one:(1:Nat)<=sizeLine:=by rw [hs];decide
 rw [Jgd t.ok]
 refine ⟨rfl,Ja8 (m:="counts_now") (by decide),T,(U+R).toNat,ks.length,ws.length,ws.length+U.toNat,ws.length+(U+R).toNat,rfl,sh,N,by omega,by omega,?_⟩
 have q0:=t.kept.ok.qpos
 have two:(2:Nat)<=sizeLine:=by rw [hs];decide
 have qb:T.q.natAbs<2^9000:=by
  have h1:=sh.q1
  have:T.q.natAbs<2^4000:=by
   have h:((T.q.natAbs:Nat):Int)<((2^4000:Nat):Int):=by
    rw [J3c (by omega)]
    exact_mod_cast h1
   exact_mod_cast h
  exact Qy this (Z1 (by decide))
 have gd:∀ L:List Int,T.q∈L->Zb L≠0/\((Zb L:Nat):Int)<2^9000:=λ L h=>⟨Ja7 h (by omega),Jt7 h (by omega) qb⟩
 let z:Siz:=⟨((ws.length:Nat):Int),((ws.length+U.toNat:Nat):Int),((ws.length+(U+R).toNat:Nat):Int)⟩
 let cs:=Jbl ws (U+R).toNat ks.length T
 have csl:cs.length=ws.length:=Jef
 have hat:atI (cs.map Qn) ((k:Nat):Int)=some (.int (J8 T ks.length (U+R).toNat k)):=Yi (by omega) (by rw [Q8,Qm];show Option.map Qn (Jbl ws (U+R).toNat ks.length T)[k]? = _;unfold Jbl;rw [Qm,X4 kl];rfl)
 obtain ⟨a1,a2⟩:=gd [J8 T ks.length (U+R).toNat k,T.q] (by simp)
 refine ⟨[.d (Zz C z T),.d (Ju k),.own (cs.map .int),.jnk,.jnk,.jnk,.jnk],.eq rfl,?_⟩
 refine ⟨_,hat,Jl4 Y ⟨two,[J8 T ks.length (U+R).toNat k,T.q],rfl,Xf rfl,a1,a2,?_⟩⟩
 generalize hnd:[J8 T ks.length (U+R).toNat k,T.q]=nd at a1 a2
 have ev:(nd.map λ x=>x/((Zb nd:Nat):Int)).map Qn=[.int (qz nd (J8 T ks.length (U+R).toNat k)),.int (qz nd T.q)]:=by rw [<- hnd];rfl
 rw [ev]
 have sl0:(sl T (U+R).toNat (ws.length+(U+R).toNat) [k] ks.length).drop ws.length=shL R U ws ks.length [k] T:=Jn3 _ _ _ _ rfl
 have slen:=Jpr (R:=R) (U:=U) (ws:=ws) (n:=ks.length) (W:=[k]) (T:=T)
 refine ⟨rfl,rfl,[.d (Zz C z T),.d (Ju k),.own (cs.map .int),.d (.int (qz nd (J8 T ks.length (U+R).toNat k))),.d (.int (qz nd T.q)),.jnk,.jnk],.eq rfl,?_⟩
 obtain ⟨b1,b2⟩:=gd (T.q::shL R U ws ks.length [k] T) (by simp)
 obtain ⟨e1,e2⟩:=gd (T.q::cs) (by simp)
 refine Jl4 Y ⟨one,Ja8 (m:="shares") (by decide),one,T,(U+R).toNat,ks.length,ws.length,ws.length+U.toNat,ws.length+(U+R).toNat,[k],rfl,sh,N,λ w hw=>by rw [Qu.mp hw];omega,by omega,by omega,?_⟩
 rw [sl0]
 have sm:((shL R U ws ks.length [k] T).map Qn).length=(U+R).toNat:=by rw [Qc,slen]
 have cm:(cs.map Qn).length=ws.length:=by rw [Qc,csl]
 refine ⟨by rw [sm];show 1+_<=_;omega,T.q::shL R U ws ks.length [k] T,rfl,by rw [X9,slen];omega,b1,b2,?_⟩
 generalize hus:T.q::shL R U ws ks.length [k] T=us at b1 b2
 have eu:us.map (λ x=>x/((Zb us:Nat):Int))=qz us T.q::(shL R U ws ks.length [k] T).map (qz us):=by rw [<- hus];rfl
 rw [eu]
 refine ⟨[.d (Zz C z T),.d (Ju k),.own (cs.map .int),.d (.int (qz nd (J8 T ks.length (U+R).toNat k))),.d (.int (qz nd T.q)),.own ((qz us T.q::(shL R U ws ks.length [k] T).map (qz us)).map .int),.jnk],.eq rfl,?_⟩
 refine Jl4 Y ⟨one,by show 1+(cs.map Qn).length<=_;omega,T.q::cs,rfl,by rw [X9,csl];omega,e1,e2,?_⟩
 generalize hec:T.q::cs=ec at e1 e2
 have ee:ec.map (λ x=>x/((Zb ec:Nat):Int))=qz ec T.q::cs.map (qz ec):=by rw [<- hec];rfl
 rw [ee]
 refine ⟨[.d (Zz C z T),.d (Ju k),.own (cs.map .int),.d (.int (qz nd (J8 T ks.length (U+R).toNat k))),.d (.int (qz nd T.q)),.own ((qz us T.q::(shL R U ws ks.length [k] T).map (qz us)).map .int),.own ((qz ec T.q::cs.map (qz ec)).map .int)],.eq rfl,?_⟩
 have M:=Jrc t hk l hnd.symm hus.symm hec.symm
 have c5:∀ (x:Int) (l:List Int),Jds ((x::l).map Qn) (some 1) none=l.map .int:=λ x l=>Jes ((x::l).map Qn) 1
 have uf:z.fr-z.fp=((U.toNat:Nat):Int):=by show ((ws.length+U.toNat:Nat):Int)-((ws.length:Nat):Int)=_;omega
 refine ⟨Ja8 (m:="as_sum") (by decide),z,T,U.toNat,(shL R U ws ks.length [k] T).map (qz us),congrArg (λ l=>[Vl.d (Zz C z T),Vl.d (.list l)]) (c5 _ _),uf,by rw [Qc,slen];omega,?_⟩
 have a0:∀ (x:Int) (l:List Int),atI ((x::l).map Qn) 0=some (.int x):=λ x l=>Yi (by decide) rfl
 have seven:(7:Nat)<=sizeLine:=by rw [hs];decide
 have q':=q _ _ _ _ _ _ _ M
 rw [J3r,J4p] at q'
 have fin:P (.tuple [.str "most",.int (qz nd (J8 T ks.length (U+R).toNat k)),.int (qz nd T.q),.tuple [.tuple ((((shL R U ws ks.length [k] T).map (qz us)).take U.toNat).map .int),.tuple ((((shL R U ws ks.length [k] T).map (qz us)).drop U.toNat).map .int)],.int (qz us T.q),.tuple (Jds ((qz ec T.q::cs.map (qz ec)).map Qn) (some 1) none),.int (qz ec T.q)]) n':=by
  rw [c5]
  exact q'
 exact ⟨_,a0 _ _,_,a0 _ _,seven,fin⟩
theorem Bf:FnScope ["book","stand","k","met","table","counts"] ["book","stand","k"] (Jd Jcd):=⟨rfl,rfl,rfl,by decide +kernel,rfl,by decide +kernel,by decide +kernel⟩
theorem Jk3 {C:Addr}(T:Txt mg) (Z:ErOk K mg z) (Y:TableOk K C) (D:Def K mg "how_often" Jcd ["book","stand","k"]) (Gh:Cal P w K mg base "has_way" 3 ["book","k"] (Jn Jkx)) (Gr:Cal P w K mg base "ways_met" 2 ["book","room"] (Y3 Je5)) (Gs:Cal P w K mg base "not_met" 1 ["book"] (Jn Jh3)) (c_Table__init:Jl9 P w K mg base "Table" C 2 ["self","book","some","stand"] (Jku C)) (c_Table__find_round:Wj P w K mg base C "find_round" 4 ["self","wanted"] (Jgf C)) (Gu:Cal P w K mg base "read_most" 4 ["table","k"] (Jn (Jbc C))):Jgv P w K mg base "how_often" 6 ["book","stand","k"] (Jbx (Jky z)):=by
 refine D.calX λ f fd F=>F.okX Bf (Ji1 ?_) (λ cdv A outer s H vs Q E hr h=>?_)
 . rintro as n P X ⟨R,U,ws,room,nums,k,rfl,_⟩
   rfl
 refine ⟨_,(@Jb _ _ _ _ _ (Wl (Jjh (Jbo (Y7 Gh (hr.mono (by decide)) rfl (Ja (pv 0) (Ja (pv 2) Jc))))) (@Ji _ _ _ (Jsk Z.rWay rfl (Y9 Jcz Jc))) Yr)
  (@Jb _ _ _ _ _ (Jw (i:=3) Bf.nd rfl (Qa rfl) (Y7 Gr (hr.mono (by decide)) rfl (Ja (pv 0) (Ym (Jp Yg (pv 1) Jg (λ _ _=>rfl)) Jc))))
  (@Jb _ _ _ _ _ (Wl (Ya Jjm (pv 2) (pv 3) (by with_unfolding_all rfl)) (@Ji _ _ _ (@Jy _ _ _ _ (Y7 Gs (hr.mono (by decide)) rfl (Ja (pv 0) Jc)))) Yr)
  (@Jb _ _ _ _ _ (Jw (i:=4) Bf.nd rfl (Qa rfl) (J12 c_Table__init (hr.mono (by decide)) rfl (Ja (pv 0) (Ja (pv 3) (Ja (pv 1) Jc)))))
  (@Jb _ _ _ _ _ (Jw (i:=5) Bf.nd rfl (Qa rfl) (Jfw c_Table__find_round (hr.mono (by decide)) (pv 4) (Jjr (@PEs.out _ _ _ (Yb (Ys (Jr (pv 2)) Jt))) Jc)))
  (@Jb _ _ _ _ _ (Wl (Ya Jjk (pv 5) Jay (J9 _)) (@Ji _ _ _ (@Jy _ _ _ _ (Y7 Gu (hr.mono (by decide)) rfl (Ja (pv 4) (Ja (pv 2) Jc))))) Yr)
  (@Ji _ _ _ (@Jy _ _ _ _ (@PEs.out _ _ _ (Zd (Jm Wv (Ys (Jr (pv 5)) Jt)))))))))))),?_⟩
 obtain ⟨S,ex,as,n,P,X,ra,hc,al,iv,⟨R,U,ws,room,nums,ki,rfl,ok,sd,qk,qb⟩,q,qx⟩:=h
 obtain ⟨bv,tv,kv,rfl,rb,rt,rfl⟩:∃ bv tv kv,vs=[bv,tv,kv]/\Rep ex H (J3 R U ws) bv/\Rep ex H (Z0 room nums) tv/\kv = .int ki:=by
  cases vs with
  | nil=>exact ra.elim
  | cons bv vs=>
   cases vs with
   | nil=>exact ra.2.elim
   | cons sv vs=>
    cases vs with
    | nil=>exact ra.2.2.elim
    | cons kv vs=>
     cases vs with
     | cons _ _=>exact ra.2.2.2.elim
     | nil=>
      obtain ⟨⟨_,e1,r1⟩,⟨_,e2,r2⟩,⟨_,e3,r3⟩,_⟩:=ra
      cases e1
      cases e2
      cases e3
      cases r3
      exact ⟨_,_,_,rfl,r1,r2,rfl⟩
 have hs:sizeLine=16777216:=Yar
 have one:(1:Nat)<=sizeLine:=by rw [hs];decide
 have two:(2:Nat)<=sizeLine:=by rw [hs];decide
 have wl:=ok.len
 refine Zp (λ σ' H1=>∃ k:Nat,ki=(k:Int)/\k<ws.length/\σ'=[some bv,some tv,some (Y5 k),none,none,none]/\Kp [] H H1) (λ N hN=>?_) ?_
 . refine ⟨_,rfl,_,rfl,Src.no,ex,[.d (J3 R U ws),.d (.int ki)],0,λ d _=>d = .bool (decide (0<=ki)&&decide (ki<=(ws.length:Int)-1)),⟨⟨_,rfl,rb⟩,⟨_,rfl,.int _⟩,trivial⟩,λ a ha=>(by cases ha),al,trivial,⟨R,U,ws,ki,rfl,rfl⟩,λ d n' v H1 hd st r=>?_⟩
   subst hd
   cases r
   refine ⟨_,rfl,?_⟩
   by_cases hk:0<=ki/\ki<ws.length
   . obtain ⟨k,rfl⟩:=Int.eq_ofNat_of_zero_le hk.1
     rw [decide_eq_true hk.1,decide_eq_true (show ((k:Nat):Int)<=(ws.length:Int)-1 by omega)]
     exact Jc0 (hN _ _ ⟨k,rfl,by omega,rfl,st.1⟩)
   . have:(decide (0<=ki)&&decide (ki<=(ws.length:Int)-1))=false:=by
      rw [Bool.eq_false_iff]
      intro z
      simp only [X3,decide_eq_true_eq] at z
      exact hk ⟨z.1,by omega⟩
     rw [this]
     refine V3 ?_
     exact ⟨one,qx _ n _ (qb hk) (.new iv st.1)⟩
 rintro σ1 H1 ⟨k,rfl,kl,rfl,k1⟩
 obtain ⟨q0,q1⟩:=qk k rfl kl
 have kx1:Kp ex H H1:=k1.mono λ a ha=>by cases ha
 have al1:=al.kp k1
 have rb1:=rb.keep kx1
 have rt1:=rt.keep kx1
 have E1:Ev Src.no ex [.d (J3 R U ws),.d (Z0 room nums),.d (Ju k),.jnk,.jnk,.jnk] [some bv,some tv,some (Y5 k),none,none,none] H1 0:=Jfy.ev ⟨⟨_,rfl,rb1⟩,⟨_,rfl,rt1⟩,⟨_,rfl,.int _⟩,trivial,trivial,trivial,trivial⟩ al1
 refine Jz8 (λ ds _=>ds=(Z2 R room ws).map Ju) E1 ⟨_,rfl,R,U,ws,room,rfl,ok,⟨sd.a0,sd.a1⟩,rfl⟩ ?_
 rintro ds n2 ma mvs H2 rfl st2 hma h2a z2 r2
 have k2:Kp [] H1 H2:=st2.1
 cases Jup r2
 have kx2:Kp ex H1 H2:=k2.mono λ a ha=>by cases ha
 have rb2:=rb1.keep kx2
 have rt2:=rt1.keep kx2
 have al2:=al1.kp k2
 have k02:Kp [] H H2:=k1.trans k2
 have nma:ma∉ex:=λ z=>al1 ma z hma
 have rm2:Rep ex H2 (.list ((Z2 R room ws).map Ju)) (.ref ma):=.list h2a nma z2 (Reps.sub r2)
 have inm:inV (Y5 k) ((Z2 R room ws).map Y5)=decide (k∈Z2 R room ws):=by
  rw [J3k,decide_eq_true_eq]
  constructor
  . intro h
    obtain ⟨v,hv,e⟩:=J9z.mp h
    obtain ⟨j,hj,rfl⟩:=Qq.mp hv
    have e:decide (((j:Nat):Int)=((k:Nat):Int))=true:=e
    have:=of_decide_eq_true e
    rw [show k=j by omega];exact hj
  . intro h
    refine J9z.mpr ⟨Y5 k,Qq.mpr ⟨k,h,rfl⟩,?_⟩
    show decide (((k:Nat):Int)=((k:Nat):Int))=true
    exact decide_eq_true rfl
 refine ⟨_,rfl,_,rfl,ma,_,rfl,.inl (SqL.of h2a),rfl,?_,_,rfl,?_⟩
 . exact Uv.mpr λ x hx=>by obtain ⟨j,_,rfl⟩:=Qq.mp hx;rfl
 rw [inm]
 by_cases hk:k∈Z2 R room ws
 . rw [decide_eq_true hk]
   refine Jc0 ?_
   unfold Joo
   dsimp only
   obtain ⟨q1,q2⟩:=q1 hk
   have t0:ToldG R U ws room nums (Z2 R room ws) (Jcu R U ws room nums (Z2 R room ws)):=Jod ok sd Jwy Jpx
   refine Zp (λ σ' H3=>∃ p fa ba,σ'=[some bv,some tv,some (Y5 k),some (.ref ma),some (.ref p),none]/\TabH C ex p fa ba (Jkp R U ws) (Jcu R U ws room nums (Z2 R room ws)) H3/\Kp [] H2 H3/\H2 p=none/\H2 fa=none/\H2 ba=none) (λ N hN=>?_) ?_
   . refine ⟨_,rfl,_,rfl,_,rfl,λ x dx hx hdx hne=>?_⟩
     have lifted:∀ {b:Addr} {H':Hp},Kp [] H2 H'->H' b=none->H2 b=none:=λ {b H'} kk hb=>by
      cases e:H2 b with
      | none=>rfl
      | some o=>rw [kk b o e (by simp)] at hb;cases hb
     have kn:Kp [] H2 (upd (upd H2 dx (.own x)) x (.ins C dx [])):=λ b o e _=>by rw [Je (Jl e hx),Je (Jl e hdx)];exact e
     have nx:x∉ex:=λ z=>al2 x z hx
     have kxx:Kp (x::ex) H2 (upd (upd H2 dx (.own x)) x (.ins C dx [])):=kn.mono λ a ha=>by cases ha
     have ml:=Jun (R:=R) (room:=room) (ws:=ws)
     refine ⟨ex,x,dx,R,U,ws,room,nums,Z2 R room ws,bv,.ref ma,tv,rfl,Jf,al2.kp kn,nx,(Rep.add hx rb2).keep kxx,(Rep.add hx rm2).keep kxx,(Rep.add hx rt2).keep kxx,ok,sd,Jpx,by omega,λ H' fa ba hfa hba hT kp=>⟨rfl,hN _ _ ⟨x,fa,ba,rfl,hT,λ b o e _=>?_,hx,lifted kn hfa,lifted kn hba⟩⟩⟩
     exact kp b o (kn b o e (by simp)) (λ z=>by rw [Qu.mp z,hx] at e;cases e)
   rintro σ3 H3 ⟨p,fa,ba,rfl,hT,k3,hp,hfa,hba⟩
   refine Zp (λ σ' H4=>∃ v T',σ'=[some bv,some tv,some (Y5 k),some (.ref ma),some (.ref p),some v]/\TabH C ex p fa ba (Jkp R U ws) T' H4/\ToldG R U ws room nums (Z2 R room ws) T'/\Kp [p,fa,ba] H3 H4/\((v = .non/\Tb.Last (U+R).toNat (Z2 R room ws).length [k] T')\/∃ j,Tb.Ray (U+R).toNat (Z2 R room ws).length [k] T' j/\v≠.non/\Rep ex H4 (.tuple ((drQ ws (U+R).toNat T' j).map .int)) v)) (λ N hN=>?_) ?_
   . obtain ⟨dx,rv,o1,o2⟩:=hT.o
     refine ⟨_,rfl,p,dx,_,rfl,o1,rfl,_,rfl,one,λ l hl=>?_⟩
     have kl:Kp [] H3 (upd H3 l (.lst [Y5 k])):=Kp.new hl _
     have nl:l∉p::fa::ba::ex:=Jt5 (λ z=>by rw [z,o1] at hl;cases hl) (λ z=>by rw [z,hT.f] at hl;cases hl) (λ z=>by rw [z,hT.b] at hl;cases hl) (λ z=>hT.al l z hl)
     have hw:Rep (p::fa::ba::ex) (upd H3 l (.lst [Y5 k])) (.list ([k].map Ju)) (.ref l):=.list Jf nl one (.cons (.int _) .nil)
     have kup:∀ {H4:Hp},Kp [p,fa,ba] (upd H3 l (.lst [Y5 k])) H4->Kp [p,fa,ba] H3 H4:=λ {H4} k4=>(kl.mono λ a ha=>by cases ha).trans k4
     exact Joe (E:=E0) t0 (hT.keep kl) hw (λ H4 T' j v h1 h2 h3 h4 h5=>hN _ _ ⟨v,T',rfl,h1,h2,kup h4,.inr ⟨j,h3,(λ z=>by subst z;cases h5),h5⟩⟩) (λ H4 T' h1 h2 h3 h4=>hN _ _ ⟨.non,T',rfl,h1,h2,kup h4,.inl ⟨rfl,h3⟩⟩)
   rintro σ4 H4 ⟨v,T',rfl,hT4,t4,k4,hv⟩
   have k04:Kp [] H H4:=λ b o e _=>k4 b o (k3 b o (k02 b o e (by simp)) (by simp)) (λ z=>by
    have e2:=k02 b o e (by simp)
    simp only [Qd,Ub,or_false] at z
    rcases z with z | z | z
    . rw [z,hp] at e2;cases e2
    . rw [z,hfa] at e2;cases e2
    . rw [z,hba] at e2;cases e2)
   rcases hv with ⟨rfl,hl⟩ | ⟨j,ry,nn,rc⟩
   . refine ⟨_,rfl,rfl,_,rfl,Jls (by simp) ?_⟩
     have sh:=t4.shape
     have m18:=t4.m
     have n100:=t4.n
     refine ⟨_,rfl,_,rfl,?_⟩
     refine Jeb (sp:=Jbc C) (E:=E0) (vs:=[Y5 k]) (as:=[.d (Ju k)]) hT4 (by rw [sh.lf];omega) (by rw [sh.lb];omega) ⟨⟨_,rfl,.int _⟩,trivial⟩ (P:=λ d _=>P d n) ⟨R,U,ws,room,nums,Z2 R room ws,k,T',rfl,t4,hk,hl,q1⟩ λ d n' v H5 hp kp r=>?_
     exact q _ n _ _ hp (.new iv (k04.trans kp)) r
   . refine ⟨_,rfl,rfl,_,rfl,Jg2 (by simp [nn]) ?_⟩
     obtain ⟨rk,pos⟩:=Jmh t4 ry kl
     refine ⟨_,rfl,two,λ tp htp=>?_⟩
     have kt:Kp [] H4 (upd H4 tp (.tup [.str "none",v])):=Kp.new htp _
     exact q _ n _ _ (q2 _ rk pos) (.new iv (k04.trans kt)) (.tuple Jf (λ z=>(al.kp k04) tp z htp) two (.cons (.str _) (.cons (rc.keep (kt.mono λ a ha=>by cases ha)) .nil)))
 . rw [decide_eq_false hk]
   refine V3 ?_
   refine ⟨_,rfl,Src.no,ex,[.d (J3 R U ws)],0,λ d _=>P d n,⟨⟨_,rfl,rb2⟩,trivial⟩,λ a ha=>(by cases ha),al2,trivial,⟨R,U,ws,rfl,ok,q0 hk⟩,λ d n' v H3 hd st r=>?_⟩
   exact q _ n _ _ hd (.new iv (k02.trans st.1)) r
theorem Jol:FnScope ["weights","numbers"] ["weights","numbers"] (Jd Jcr):=⟨rfl,rfl,rfl,by decide +kernel,rfl,by decide +kernel,by decide +kernel⟩
theorem Jom (T:Txt mg) (D:Def K mg "weighed" Jcr ["weights","numbers"]):Cal P w K mg base "weighed" 1 ["weights","numbers"] (Jn Jed):=by
 refine D.cal λ f fd F=>F.ok Jol (Yd ?_) (λ cdv A outer s H vs Q E hr h=>?_)
 . rintro as n P ⟨xs,gs,rfl,_⟩
   rfl
 refine ⟨_,(@Ji _ _ _ (@Jy _ _ _ _ (Jx Jle rfl T.b_sum boot_sum (Ja3 (Yw (sc:=(Jd Jcr)) (N:=["weights","numbers"]) (N':=["weight","number"]) (k:=2) (idx:=[]) rfl (by exact ⟨rfl,by decide +kernel,by decide +kernel,by decide +kernel,by decide +kernel,by decide +kernel,rfl,rfl⟩) rfl rfl (Jai rfl T.b_zip (Ja (pv 0) (Ja (pv 1) Jc))) (λ _ _ _ _=>(Y4 (K':=K) (i:=0) (j:=1) rfl (show (["weight","number"]:List Str).Nodup by decide +kernel) ⟨rfl,(Qa rfl),(Qs rfl)⟩ ⟨rfl,(Qa rfl),(Qs rfl)⟩ rfl)) (λ _ _ _ _=>Yu) (λ _ _ _ _=>(Jv Vk (pv 0) (pv 1)))) Jc)))),J6 h ?_⟩
 rintro as n P ⟨xs,gs,rfl,hl,h1,bx,bg,q⟩
 have hs:sizeLine=16777216:=Yar
 refine ⟨rfl,_,_,_,_,rfl,rfl,rfl,⟨rfl,by rw [Vy,Qc,J5y];omega⟩,?_⟩
 rw [Vy]
 refine Ww (f:=λ p:Int×Int=>Uy [.int p.1,.int p.2]) (λ p:Int×Int=>Qn (p.1*p.2)) (λ p hp m K hK=>⟨rfl,rfl,V3 ⟨Zj (bx _ (J3n hp).1) (bg _ (J3n hp).2),hK⟩⟩) ?_
 refine ⟨(xs.zip gs).map λ p=>p.1*p.2,by rw [Q0];rfl,rfl,?_⟩
 rw [Jpn xs gs hl]
 exact q
theorem Jk4:FnScope ["book","tally","k","weights","heights","a","b","gains"] ["book","tally","k"] (Jd Joh):=⟨rfl,rfl,rfl,by decide +kernel,rfl,by decide +kernel,by decide +kernel⟩
theorem Jw1 (T:Txt mg) (D:Def K mg "fall" Joh ["book","tally","k"]) (Gf:Cal P w K mg base "weighed" 1 ["weights","numbers"] (Jn Jed)):Cal P w K mg base "fall" 2 ["book","tally","k"] (Jn Jge):=by
 refine D.cal λ f fd F=>F.ok Jk4 (Yd ?_) (λ cdv A outer s H vs Q E hr h=>?_)
 . rintro as n P ⟨R,U,ws,wt,ht,k,rfl,_⟩
   rfl
 refine ⟨_,(@Jb _ _ _ _ _ (Yf (pv 1) (Y4 (K':=K) (i:=3) (j:=4) rfl Jk4.nd ⟨rfl,(Qa rfl),(Qa rfl)⟩ ⟨rfl,(Qa rfl),(Qa rfl)⟩ rfl))
  (@Jb _ _ _ _ _ (Yf (Jp Yg (Jp Yg (pv 0) Jg (λ _ _=>rfl)) (pv 2) (λ _ _=>rfl)) (B6 (K':=K) (i:=5) (j:=6) (m:=7) rfl Jk4.nd ⟨rfl,(Qa rfl),(Qa rfl)⟩ ⟨rfl,(Qa rfl),(Qa rfl)⟩ ⟨rfl,(Qa rfl),(Qa rfl)⟩ rfl))
  (@Ji _ _ _ (@Jy _ _ _ _ (Jv Ja0 (Jv Ja0 (Jp Yg (pv 4) (pv 5) (λ _ _=>rfl)) (Jp Yg (pv 4) (pv 6) (λ _ _=>rfl))) (Y7 Gf (hr.mono (by decide)) rfl (Ja (pv 3) (Ja (pv 7) Jc)))))))),J6 h ?_⟩
 rintro as n P ⟨R,U,ws,wt,ht,k,rfl,ok,sc,hk,q⟩
 have hs:sizeLine=16777216:=Yar
 have lw:=sc.lw
 have lh:=sc.lh
 have p1:=ok.p1
 have wok:=ok.ways _ (Yp (k:=(k:Int)) (Xi k) (by omega))
 have a0:=wok.a0
 have a1:=wok.a1
 have b0:=wok.b0
 have b1:=wok.b1
 have gl:=wok.len
 have hat:∀ {x:Int},0<=x->x<R->atI (ht.map Qn) x=some (.int (ht.getD x.toNat 0)):=λ {x} x0 x1=>Yi x0 (Jpa (by omega))
 refine ⟨rfl,rfl,rfl,⟨_,.refl,_,rfl,_,Jc6 (Xi k) (by omega),rfl,rfl,⟨_,.refl,_,hat a0 a1,_,hat b0 b1,wt,(Jj ws (k:Int)).g,rfl,by omega,by omega,λ x hx=>Qy (sc.bw x hx) (Z1 (by decide)),λ x hx=>?_,q⟩⟩⟩
 have:=wok.small x hx
 have e:(100:Nat)<=2^9000:=Xj (by decide) (Z1 (a:=7) (by decide))
 generalize 2^9000=z at e ⊢
 omega
theorem Jib:FnScope ["tally","stand","weights","heights","room","numbers"] ["tally","stand"] (Jd Jkz):=⟨rfl,rfl,rfl,by decide +kernel,rfl,by decide +kernel,by decide +kernel⟩
theorem Ju0 (T:Txt mg) (D:Def K mg "worth" Jkz ["tally","stand"]) (Gf:Cal P w K mg base "weighed" 1 ["weights","numbers"] (Jn Jed)):Cal P w K mg base "worth" 2 ["tally","stand"] (Jn Jee):=by
 refine D.cal λ f fd F=>F.ok Jib (Yd ?_) (λ cdv A outer s H vs Q E hr h=>?_)
 . rintro as n P ⟨R,U,wt,ht,st,rfl,_⟩
   rfl
 refine ⟨_,(@Jb _ _ _ _ _ (Yf (pv 0) (Y4 (K':=K) (i:=2) (j:=3) rfl Jib.nd ⟨rfl,(Qa rfl),(Qa rfl)⟩ ⟨rfl,(Qa rfl),(Qa rfl)⟩ rfl))
  (@Jb _ _ _ _ _ (Yf (pv 1) (Y4 (K':=K) (i:=4) (j:=5) rfl Jib.nd ⟨rfl,(Qa rfl),(Qa rfl)⟩ ⟨rfl,(Qa rfl),(Qa rfl)⟩ rfl))
  (@Ji _ _ _ (@Jy _ _ _ _ (Jv Wh (Jp Yg (pv 3) (pv 4) (λ _ _=>rfl)) (Y7 Gf (hr.mono (by decide)) rfl (Ja (pv 2) (Ja (pv 5) Jc)))))))),J6 h ?_⟩
 rintro as n P ⟨R,U,wt,ht,⟨room,xs⟩,rfl,sc,u6,hr,sl,sb,q⟩
 have hr:0<=room/\room<R:=hr
 have sl:(xs.length:Int)=U:=sl
 have lw:=sc.lw
 have lh:=sc.lh
 have ar:atI (ht.map Qn) room=some (.int (ht.getD room.toNat 0)):=Yi hr.1 (Jpa (by omega))
 exact ⟨rfl,rfl,rfl,⟨_,.refl,rfl,rfl,⟨_,.refl,_,ar,wt,xs,rfl,by omega,by omega,λ x hx=>Qy (sc.bw x hx) (Z1 (by decide)),sb,q⟩⟩⟩
theorem Jk5:FnScope ["_law_word","_law_call"] ["_law_word","_law_call"] (Jd Jce):=⟨rfl,rfl,rfl,by decide +kernel,rfl,by decide +kernel,by decide +kernel⟩
theorem Jk6 (T:Txt mg) (Z:ErOk K mg z) (D:Def K mg "_law_asked" Jce ["_law_word","_law_call"]) (Gc:Jgv P w K mg base "how_often" 6 ["book","stand","k"] (Jbx (Jky z))):Jgv P w K mg base "_law_asked" 7 ["_law_word","_law_call"] (Jbx (Jh6 z)):=by
 refine D.calX λ f fd F=>F.okX Jk5 (Ji1 ?_) (λ cdv A outer s H vs Q E hr h=>?_)
 . rintro as n P X ⟨word,R,U,ws,room,nums,k,rfl,_⟩
   rfl
 refine ⟨_,(@Ji _ _ _ (@Jy _ _ _ _ (Jsl Gc (hr.mono (by decide)) rfl J0t (Ym (Jp Yg (pv 1) Jg (λ _ _=>rfl)) (Ym (Jp Yg (pv 1) Jg (λ _ _=>rfl)) (Ym (Jp Yg (pv 1) Jg (λ _ _=>rfl)) Jc)))))),Jno h ?_⟩
 rintro as n P X ⟨word,R,U,ws,room,nums,k,rfl,ok,sd,hk,x⟩
 exact ⟨rfl,_,Yi (by decide) rfl,_,Yi (by decide) rfl,_,Yi (by decide) rfl,R,U,ws,room,nums,k,rfl,ok,sd,λ j e hj=>absurd ⟨by omega,by omega⟩ hk,λ _=>⟨rfl,x⟩⟩
theorem Wb:FnScope ["_law_word","_law_call","_law_answer","_law_kinds","e","_law_words"] ["_law_word","_law_call"] (Jd Je9):=⟨rfl,rfl,rfl,by decide +kernel,rfl,by decide +kernel,by decide +kernel⟩
theorem Jon (T:Txt mg) (Z:ErOk K mg z) (D:Def K mg "_law_did" Je9 ["_law_word","_law_call"]) (G3:Jgv P w K mg base "_law_asked" 7 ["_law_word","_law_call"] (Jbx (Jh6 z))):Cal P w K mg base "_law_did" 8 ["_law_word","_law_call"] (Jn Jog):=by
 refine D.cal λ f fd F=>F.ok Wb (Yd ?_) (λ cdv A outer s H vs Q E hr h=>?_)
 . rintro as n P ⟨word,R,U,ws,room,nums,k,rfl,_⟩
   rfl
 refine ⟨_,(@Jb _ _ _ _ _ (Jw (i:=2) Wb.nd rfl (Qa rfl) Jay)
  (@Jb _ _ _ _ _ (@B8 _ _ 3 _ _ _ _ Wb.nd rfl (Qa rfl) (Yb Jt) rfl (Qa rfl))
  (@Jb _ _ _ _ _ (Jyz (i:=4) rfl rfl rfl (λ _=>rfl) rfl (λ _=>rfl) Wb.nd rfl rfl rfl Z.fall (Jvl (i:=2) G3 (hr.mono (by decide)) rfl (Ja (pv 0) (Ja (pv 1) Jc)) Wb.nd rfl (Qa rfl))
  (λ ea=>(@Jb _ _ _ _ _ (@B8 _ _ 3 _ _ _ _ Wb.nd rfl (Qa rfl) (Yb (Yh (Jr (Jx (Wf (K':=K) rfl) rfl T.b_isinstance Ya1 (Ja (pv 4) (Ja (Bc (v:=.ref z.end_) rfl Z.end_ rfl) Jc)))) (Yh (Jr (Jx (Wf (K':=K) rfl) rfl T.b_isinstance Ya1 (Ja (pv 4) (Ja (Bc (v:=.ref z.line) rfl Z.line rfl) Jc)))) (Yh (Jr (Jx (Wf (K':=K) rfl) rfl T.b_isinstance Ya1 (Ja (pv 4) (Ja (Bc (v:=.ref z.purse) rfl Z.purse rfl) Jc)))) (Yh (Jr (Jx (Wf (K':=K) rfl) rfl T.b_isinstance Ya1 (Ja (pv 4) (Ja (Bc (v:=.ref z.ring) rfl Z.ring rfl) Jc)))) Jt))))) rfl (Qa rfl))
  (@Jb _ _ _ _ _ (Jw (i:=3) Wb.nd rfl (Qa rfl) (Jv Jep (pv 3) (@PEs.out _ _ _ (Yb (Yh (Jr (Jx (Wf (K':=K) rfl) rfl T.b_isinstance Ya1 (Ja (pv 4) (Ja (Bc (v:=.ref z.round) rfl Z.round rfl) Jc)))) (Yh (Jr (Jx (Wf (K':=K) rfl) rfl T.b_isinstance Ya1 (Ja (pv 4) (Ja (Bc (v:=.ref z.row) rfl Z.row rfl) Jc)))) (Yh (Jr (Jx (Wf (K':=K) rfl) rfl T.b_isinstance Ya1 (Ja (pv 4) (Ja (Bc (v:=.ref z.stand) rfl Z.stand rfl) Jc)))) Jt)))))))
  (@Ji _ _ _ (Jw (i:=3) Wb.nd rfl (Qa rfl) (Jv Jep (pv 3) (@PEs.out _ _ _ (Yb (Yh (Jr (Jx (Wf (K':=K) rfl) rfl T.b_isinstance Ya1 (Ja (pv 4) (Ja (Bc (v:=.ref z.way) rfl Z.way rfl) Jc)))) (Yh (Jr (Jx (Wf (K':=K) rfl) rfl T.b_isinstance Ya1 (Ja (pv 4) (Ja (Bc (v:=.ref z.many) rfl Z.many rfl) Jc)))) (Wc (Jr (Jrl (Jx (Wf (K':=K) rfl) rfl T.b_isinstance Ya1 (Ja (pv 4) (Ja (Jjf rfl T.b_ValueError PyProof.Rows.Boot.«ValueError» (v:=.ty "ValueError") rfl) Jc))))) Jt))))))))))))
  (@Jb _ _ _ _ _ (Wl (Ya (Jyt hr.units) (pv 3) (@PEs.out _ _ _ (Yb Jt)) (J9 _)) (@Ji _ _ _ (@Jy _ _ _ _ (pv 2))) Yr)
  (@Jb _ _ _ _ _ (@B8 _ _ 5 _ _ _ _ Wb.nd rfl (Qa rfl) (Yb (Jm Wv (Jm Wv (Jm Wv (Jm Wv (Jm Wv (Jm Wv (Jm Wv (Jm Wv (Jm Wv (Jm Wv Jt))))))))))) rfl (Qa rfl))
  (@Ji _ _ _ (@Jy _ _ _ _ (Jgi (Ya Jrv (Jfk J3i J90 J91 Jqp (pv 3) (Y9 Jdj Jc)) Jg (J9 _)) Jcz (Jp Js (pv 5) (Jfk J3i PySem.F.slot_list_index PySem.F.type_list_index Jqq (pv 3) (Y9 Jdj Jc)) (λ _ _=>rfl)))))))))),?_⟩
 obtain ⟨S,ex,as,n,P,ra,hc,al,iv,⟨word,R,U,ws,room,nums,k,rfl,ok,sd,hk,q⟩,kq⟩:=h
 obtain ⟨cv,rfl,rc⟩:∃ cv,vs=[.str word,cv]/\Rep ex H (Jp1 R U ws room nums k) cv:=by
  cases vs with
  | nil=>exact ra.elim
  | cons wv vs=>
   cases vs with
   | nil=>exact ra.2.elim
   | cons cv vs=>
    cases vs with
    | cons _ _=>exact ra.2.2.elim
    | nil=>
     obtain ⟨⟨_,e1,r1⟩,⟨_,e2,r2⟩,_⟩:=ra
     cases e1
     cases e2
     cases r1
     exact ⟨_,rfl,r2⟩
 have hs:sizeLine=16777216:=Yar
 have nd:=Z.nd
 simp only [Er.all,Xs,Qd,Ub,or_false,not_or] at nd
 obtain ⟨⟨n1,n2,n3,n4,n5,n6,n7,n8⟩,_⟩:=nd
 have m0:z.way∈z.all:=by simp [Er.all]
 have m1:z.round∈z.all:=by simp [Er.all]
 have m2:z.ring∈z.all:=by simp [Er.all]
 have m3:z.purse∈z.all:=by simp [Er.all]
 have m4:z.end_∈z.all:=by simp [Er.all]
 have m5:z.stand∈z.all:=by simp [Er.all]
 have m6:z.many∈z.all:=by simp [Er.all]
 have m7:z.line∈z.all:=by simp [Er.all]
 have m8:z.row∈z.all:=by simp [Er.all]
 have ec:=Z.ex _ m0
 obtain ⟨cd,hcd⟩:=Z.cl _ m0
 refine Zp (λ σ' H'=>σ'=[some (.str word),some cv,some .non,none,none,none]/\H=H') (λ N hN=>?_) ?_
 . exact hN _ _ ⟨rfl,rfl⟩
 rintro _ _ ⟨rfl,rfl⟩
 refine Zp (λ σ' H'=>∃ l0,σ'=[some (.str word),some cv,some .non,some (.ref l0),none,none]/\Kp [] H H') (λ N hN=>?_) ?_
 . exact ⟨Xl _,λ l0 hl0=>hN _ _ ⟨l0,rfl,Kp.new hl0 _⟩⟩
 rintro _ H0 ⟨l0,rfl,k0⟩
 refine Zp (λ σ' H'=>∃ l,σ'=[some (.str word),some cv,some .non,some (.ref l),none,none]/\Kp [] H H'/\H' l=some (.lst (Jwz.map V.bl))) (λ N hN=>?_) ?_
 . refine ⟨_,rfl,_,rfl,Src.no,ex,[.d (.str word),.d (Jp1 R U ws room nums k)],0,λ _ _=>False,λ c _=>c=z.way,⟨⟨_,rfl,.str _⟩,⟨_,rfl,rc.keep (k0.mono λ a ha=>by cases ha)⟩,trivial⟩,λ a ha=>(by cases ha),al.kp k0,trivial,⟨word,R,U,ws,room,nums,k,rfl,ok,sd,hk,rfl⟩,λ d n' v H' hp=>hp.elim,λ c n' H' hc2 st=>?_⟩
   subst hc2
   have k1:Kp [] H H':=k0.trans st.1
   refine ⟨z.way,rfl,Z.xm z.way m0,λ ea hea=>?_⟩
   have he:(upd H' ea (.ext (OfC ea z.way))) ea=some (.ext (OfC ea z.way)):=Jf
   have k2:Kp [] H (upd H' ea (.ext (OfC ea z.way))):=k1.trans (Kp.new hea _)
   generalize upd H' ea (.ext (OfC ea z.way))=H2 at he k2 ⊢
   refine Zp (λ σ' H'=>∃ l,σ'=[some (.str word),some cv,some .non,some (.ref l),some (.ref ea),none]/\Kp [] H2 H'/\H' l=some (.lst ([false,false,false,false].map V.bl))) (λ M hM=>?_) ?_
   . exact ⟨_,rfl,ea,_,_,_,cd,_,rfl,he,ec,hcd,.inl ⟨_,rfl,rfl⟩,kno Z m0 m4 n4,_,rfl,ea,_,_,_,cd,_,rfl,he,ec,hcd,.inl ⟨_,rfl,rfl⟩,kno Z m0 m7 n7,_,rfl,ea,_,_,_,cd,_,rfl,he,ec,hcd,.inl ⟨_,rfl,rfl⟩,kno Z m0 m3 n3,_,rfl,ea,_,_,_,cd,_,rfl,he,ec,hcd,.inl ⟨_,rfl,rfl⟩,kno Z m0 m2 n2,Bk (Xf rfl),λ l hl=>hM _ _ ⟨l,rfl,Kp.new hl _,Jf⟩⟩
   rintro _ H3 ⟨l,rfl,k3,h3⟩
   have he3:=k3 _ _ he (by simp)
   refine Zp (λ σ' H'=>∃ l,σ'=[some (.str word),some cv,some .non,some (.ref l),some (.ref ea),none]/\Kp [] H2 H'/\H' l=some (.lst ([false,false,false,false,false,false,false].map V.bl))) (λ M hM=>?_) ?_
   . refine ⟨_,rfl,_,rfl,ea,_,_,_,cd,_,rfl,he3,ec,hcd,.inl ⟨_,rfl,rfl⟩,kno Z m0 m1 n1,_,rfl,ea,_,_,_,cd,_,rfl,he3,ec,hcd,.inl ⟨_,rfl,rfl⟩,kno Z m0 m8 n8,_,rfl,ea,_,_,_,cd,_,rfl,he3,ec,hcd,.inl ⟨_,rfl,rfl⟩,kno Z m0 m5 n5,Bk (Xf rfl),λ l2 hl2=>?_⟩
     exact ⟨l,l2,_,_,rfl,rfl,Kp.new (ex:=[]) hl2 _ _ _ h3 (by simp),Jf,by simp;omega,λ l3 hl3=>hM _ _ ⟨l3,rfl,(k3.trans (Kp.new hl2 _)).trans (Kp.new hl3 _),by rw [Jf];rfl⟩⟩
   clear h3 he3 k3
   rintro _ H4 ⟨l,rfl,k4,h4⟩
   have he4:=k4 _ _ he (by simp)
   refine ⟨_,rfl,_,rfl,ea,_,_,_,cd,_,rfl,he4,ec,hcd,.inl ⟨_,rfl,rfl⟩,J2f Z m0,_,rfl,ea,_,_,_,cd,_,rfl,he4,ec,hcd,.inl ⟨_,rfl,rfl⟩,kno Z m0 m6 n6,_,rfl,ea,_,_,_,cd,_,rfl,he4,ec,hcd,.inr ⟨_,rfl,rfl⟩,Z.va _ m0,_,rfl,Bk (Xf rfl),λ l2 hl2=>?_⟩
   exact ⟨l,l2,_,_,rfl,rfl,Kp.new (ex:=[]) hl2 _ _ _ h4 (by simp),Jf,by simp;omega,λ l3 hl3=>hN _ _ ⟨l3,rfl,((k2.trans k4).trans (Kp.new hl2 _)).trans (Kp.new hl3 _),by rw [Jf];rfl⟩⟩
 rintro _ H1 ⟨l,rfl,k1,h1⟩
 refine Zp (λ σ' H'=>σ'=[some (.str word),some cv,some .non,some (.ref l),none,none]/\Kp [] H1 H') (λ N hN=>?_) ?_
 . refine ⟨_,rfl,Xl _,λ p hp=>?_⟩
   have kp:Kp [] H1 (upd H1 p (.lst [])):=Kp.new hp _
   refine ⟨[],.list (Jwz.map .bool),.list [],.list (kp _ _ h1 (by simp)) (by simp) (Bk (Xf rfl)) (Jg4 _),.list Jf (by simp) (Xl _) .nil,rfl,rfl,by decide,_,rfl,Jc0 (hN _ _ ⟨rfl,kp⟩)⟩
 rintro _ H2 ⟨rfl,k2⟩
 have h2:=k2 _ _ h1 (by simp)
 refine Zp (λ σ' H'=>∃ ws,σ'=[some (.str word),some cv,some .non,some (.ref l),none,some (.ref ws)]/\Kp [] H2 H'/\H' ws=some (.lst [.str "noend",.str "noline",.str "nopurse",.str "noring",.str "noround",.str "norow",.str "nostand",.str "noway",.str "toomany",.str "odd"])) (λ N hN=>?_) ?_
 . exact ⟨Bk (Xf rfl),λ l hl=>hN _ _ ⟨l,rfl,Kp.new hl _,Jf⟩⟩
 rintro _ H3 ⟨ws,rfl,k3,h3⟩
 have h4:=k3 _ _ h2 (by simp)
 refine ⟨_,rfl,.inl ⟨rfl,_,SqL.of h4⟩,l,Jwz,rfl,rfl,h4,rfl,_,rfl,Jc0 ?_⟩
 refine ⟨_,rfl,_,rfl,.inl ⟨rfl,_,SqL.of h4⟩,l,Jwz,7,rfl,rfl,h4,rfl,λ m hm=>?_,ws,_,_,_,rfl,rfl,SqL.of h3,rfl,kq _ n _ _ q (.new iv ((k1.trans k2).trans k3)) (.str _)⟩
 have:m=0\/m=1\/m=2\/m=3\/m=4\/m=5\/m=6:=by omega
 rcases this with rfl | rfl | rfl | rfl | rfl | rfl | rfl<;>exact (by decide)
theorem Z3:FnScope ["_law_tape_here","_law_book_here","_law_stand_here","_law_found","_law_some"] ["_law_tape_here","_law_book_here","_law_stand_here"] (Jd V9):=⟨rfl,rfl,rfl,by decide +kernel,rfl,by decide +kernel,by decide +kernel⟩
theorem Jff (T:Txt mg) (D:Def K mg "_law_some_walk" V9 ["_law_tape_here","_law_book_here","_law_stand_here"]) (Ga:Cal P w K mg base "_law_draw" 1 ["_law_tape_here","_law_many"] (Jn Jby)) (Gj:Cal P w K mg base "can_do" 3 ["book","stand"] (Y3 Jnt)) (Gg:Cal P w K mg base "behind" 4 ["book","stand","k"] (Jn Jkc)):Cal P w K mg base "_law_some_walk" 5 ["_law_tape_here","_law_book_here","_law_stand_here"] (Y3 Jdc):=by
 refine D.cal λ f fd F=>F.ok Z3 (Wd ?_) (λ cdv A outer s H vs Q E hr h=>?_)
 . rintro as n P ⟨R,U,ws,s0,rfl,_⟩
   rfl
 refine ⟨_,(@Jb _ _ _ _ _ (@B8 _ _ 3 _ _ _ _ Z3.nd rfl (Qa rfl) (Yb Jt) rfl (Qa rfl))
  (@Jb _ _ _ _ _ (Jw (i:=4) Z3.nd rfl (Qa rfl) (Y7 Gj (hr.mono (by decide)) rfl (Ja (pv 1) (Ja (pv 2) Jc))))
  (@Jb _ _ _ _ _ (Jgj Xv (PW.pt (Jmx (Ya (Jr9 hr.units) (pv 4) (@PEs.out _ _ _ (Yb Jt)) (J9 _)) (Jjg (Ya Jot (Jx J7 rfl T.b_len Ud (Ja (pv 3) Jc)) Jg (J9 _)))))
  (@Jb _ _ _ _ _ (Jck (Jfk J3i J42 J43 Bg (pv 3) (Ym (Jp Js (pv 4) (Y7 Ga (hr.mono (by decide)) rfl (Ja (pv 0) (Wa (Jx J7 rfl T.b_len Ud (Ja (pv 4) Jc)) Jc))) (λ _ _=>rfl)) Jc)))
  (@Jb _ _ _ _ _ (Jw (i:=2) Z3.nd rfl (Qa rfl) (Y7 Gg (hr.mono (by decide)) rfl (Ja (pv 1) (Ja (pv 2) (Ym (Jp Js (pv 3) (Vg Z8 Jg) (λ _ _=>rfl)) Jc)))))
  (@Ji _ _ _ (Jw (i:=4) Z3.nd rfl (Qa rfl) (Y7 Gj (hr.mono (by decide)) rfl (Ja (pv 1) (Ja (pv 2) Jc))))))))
  (@Ji _ _ _ (@Jy _ _ _ _ (pv 3)))))),Zw h ?_⟩
 rintro as n P ⟨R,U,ws,s0,rfl,hn,ok,w0,q⟩
 have hs:sizeLine=16777216:=Yar
 have wl:=ok.len
 refine ⟨rfl,Xl _,[.tape,.d (J3 R U ws),.d (stD s0),.own (([]:List Nat).map Ju),.jnk],.eq rfl,R,U,ws,s0,rfl,ok,w0.len,[.tape,.d (J3 R U ws),.d (stD s0),.own (([]:List Nat).map Ju),.own ((Vt ws s0).map .int)],.eq rfl,?_⟩
 refine ⟨λ m env k=>∃ (ns:List Nat) (s:St'),GoneS ws s0 ns s/\ns.length+m=60/\k<=n+ns.length/\env=[.tape,.d (J3 R U ws),.d (stD s),.own (ns.map Ju),.own ((Vt ws s).map .int)],⟨60,[],s0,.nil,rfl,by show n<=n+0;omega,rfl⟩,?_⟩
 rintro m _ k ⟨ns,s,g,hm,hk,rfl⟩
 have w:=Jkv ok w0 g
 refine ⟨Xl _,Jxp (λ hne=>V3 ?_) (λ he=>Jc0 ?_)⟩
 . refine Vc (λ c=>?_) (λ c=>?_)
   . have hl:0<(Vt ws s).length:=J69.mpr hne
     have c:ns.length<60:=by
      have c:=of_decide_eq_true c
      rw [Qc] at c
      omega
     have kl:(Vt ws s).length<=ws.length:=by
      unfold Vt
      rw [Qc]
      refine Xj (List.length_filter_le _ _) ?_
      rw [Qz]
      exact Ql _
     refine ⟨(((Vt ws s).map Qn).length:Int),rfl,by omega,by rw [Qc];omega,J6t (show _<=(60:Int) by rw [Qc];omega) (by decide +kernel),λ r r0 r1=>?_⟩
     rw [Qc] at r1
     have rl:r.toNat<(Vt ws s).length:=by omega
     have km:(Vt ws s)[r.toNat]∈Vt ws s:=Xt rl
     obtain ⟨j,ej,hj,_,_⟩:=Jhz km
     have ar:atI ((Vt ws s).map Qn) r=some (Ju j):=Yi r0 (by rw [Qm,Qf rl,ej];rfl)
     have hc:((j:Nat):Int)∈Vt ws s:=by rw [<- ej];exact km
     have en:ns.map Ju++[Ju j]=(ns++[j]).map Ju:=by rw [Xd];rfl
     refine ⟨_,ar,by rw [Qc];omega,?_⟩
     refine ⟨[.tape,.d (J3 R U ws),.d (stD s),.own ((ns++[j]).map Ju),.own ((Vt ws s).map .int)],.eq (by show [_,_,_,Vl.own _,_]=[_,_,_,Vl.own _,_];rw [en]),?_⟩
     have al:atI ((ns++[j]).map Ju) (-1)=some (Ju j):=by rw [<- en];exact Jvp _ _
     refine ⟨_,al,R,U,ws,s,(j:Int),rfl,ok,w.len,hc,?_⟩
     have w':=V5 ok w hc
     refine ⟨[.tape,.d (J3 R U ws),.d (stD (B0 ws s (j:Int))),.own ((ns++[j]).map Ju),.own ((Vt ws s).map .int)],.eq rfl,R,U,ws,B0 ws s (j:Int),rfl,ok,w'.len,m-1,by omega,ns++[j],B0 ws s (j:Int),.snoc g hc,?_,?_,rfl⟩
     . rw [Xn,U0];omega
     . rw [Xn,U0];omega
   . exact ⟨_,.refl,q ns s k g (by omega) (by omega)⟩
 . exact ⟨_,.refl,q ns s k g (by omega) (by omega)⟩
theorem Zv:FnScope ["_law_book_here","_law_stand_here","_law_answer","_law_word","_law_n","_law_d","_law_total","_law_u","_law_flow","_law_e","_law_lost"] ["_law_book_here","_law_stand_here","_law_answer"] (Jd Jbh):=⟨rfl,rfl,rfl,by decide +kernel,rfl,by decide +kernel,by decide +kernel⟩
theorem Jmw (T:Txt mg) (D:Def K mg "_law_meet" Jbh ["_law_book_here","_law_stand_here","_law_answer"]) (Gv:Cal P w K mg base "fall" 2 ["book","tally","k"] (Jn Jge)) (Gw:Cal P w K mg base "worth" 2 ["tally","stand"] (Jn Jee)):Cal P w K mg base "_law_meet" 3 ["_law_book_here","_law_stand_here","_law_answer"] (Jn Jeg):=by
 refine D.cal λ f fd F=>F.ok Zv (Yd ?_) (λ cdv A outer s H vs Q E hr h=>?_)
 . rintro as n P ⟨R,U,ws,s0,m,d,wt,ht,u,cs,e,rfl,_⟩
   rfl
 refine ⟨_,(@Jb _ _ _ _ _ (Yf (pv 2) (Jjj (n:=7) rfl (Y8 (J0 (i:=3) Zv.nd rfl (Qa rfl) (Qa rfl)) (Y8 (J0 (i:=4) Zv.nd rfl (Qa rfl) (Qa rfl)) (Y8 (J0 (i:=5) Zv.nd rfl (Qa rfl) (Qa rfl)) (Y8 (J0 (i:=6) Zv.nd rfl (Qs rfl) (Qa rfl)) (Y8 (J0 (i:=7) Zv.nd rfl (Qa rfl) (Qa rfl)) (Y8 (J0 (i:=8) Zv.nd rfl (Qa rfl) (Qa rfl)) (Y8 (J0 (i:=9) Zv.nd rfl (Qa rfl) (Qa rfl)) Jdk)))))))))
  (@Jb _ _ _ _ _ (Jw (i:=10) Zv.nd rfl (Qa rfl) (Jx Jle rfl T.b_sum boot_sum (Ja3 (Yw (sc:=(Jd Jbh)) (N:=["_law_book_here","_law_stand_here","_law_answer","_law_word","_law_n","_law_d","_law_total","_law_u","_law_flow","_law_e","_law_lost"]) (N':=["_law_k","_law_count","_law_book_here","_law_total"]) (k:=2) (idx:=[0,6]) rfl (by exact ⟨rfl,by decide +kernel,by decide +kernel,by decide +kernel,by decide +kernel,by decide +kernel,rfl,rfl⟩) rfl rfl (Jdr rfl T.b_enumerate (Ja (pv 8) Jc)) (λ _ _ _ _=>(Y4 (K':=K) (i:=0) (j:=1) rfl (show (["_law_k","_law_count","_law_book_here","_law_total"]:List Str).Nodup by decide +kernel) ⟨rfl,(Qa rfl),(Qs rfl)⟩ ⟨rfl,(Qa rfl),(Qs rfl)⟩ rfl)) (λ _ _ _ _=>Yu) (λ _ _ _ _=>(Jv Vk (pv 1) (Y7 Gv (hr.mono (by decide)) rfl (Ja (pv 2) (Ja (pv 3) (Ja (pv 0) Jc))))))) Jc)))
  (@Ji _ _ _ (@Jy _ _ _ _ (Vh Jrw (pv 10) (Jv Vk (pv 9) (Y7 Gw (hr.mono (by decide)) rfl (Ja (pv 6) (Ja (pv 1) Jc)))) (J9 _)))))),J6 h ?_⟩
 rintro as n P ⟨R,U,ws,s0,m,d,wt,ht,u,cs,e,rfl,ok,sd,M,q⟩
 have hs:sizeLine=16777216:=Yar
 have wl:=ok.len
 have p1:=ok.p1
 have cl:=M.lF
 refine ⟨rfl,rfl,rfl,[.d (J3 R U ws),.d (stD s0),.d (Jcb m d wt ht u cs e),.d (.str "most"),.d (.int m),.d (.int d),.d (Jtw wt ht),.d (.int u),.d (.tuple (cs.map .int)),.d (.int e),.jnk],.eq rfl,?_⟩
 have en:Jap (cs.map Qn)=(Qg cs.length).map λ i=>.tuple [.int ((i:Nat):Int),.int (cs.getD i 0)]:=by
  apply Xq
  intro i
  unfold Jap
  rw [J4t,Qm,Qm]
  by_cases hi:i<cs.length
  . rw [X4 hi,Qf hi]
    show some (Uy [.int ((i:Nat):Int),.int cs[i]])=some (Uy [.int ((i:Nat):Int),.int (cs.getD i 0)])
    rw [Qi,Qf hi];rfl
  . rw [Qx (by omega),Qx (by rw [Qz];omega)];rfl
 refine ⟨_,_,rfl,rfl,?_⟩
 rw [en]
 refine ⟨⟨rfl,by rw [Qc,Qz];omega⟩,?_⟩
 refine Ve (λ i=>.int (cs.getD i 0*Z5 ws wt ht (i:Nat))) (λ i hi n K hK=>⟨rfl,rfl,V3 ⟨R,U,ws,wt,ht,i,rfl,ok,M.c,by omega,?_⟩⟩) ?_
 . refine ⟨Zj ?_ (Jn6 ok M.c (by omega)),hK⟩
   rw [Qi,Qf hi];exact M.bF _ (Xt hi)
 refine ⟨(Qg cs.length).map λ i=>cs.getD i 0*Z5 ws wt ht (i:Nat),by rw [Q0];rfl,rfl,?_⟩
 rw [<- Yk,cl]
 refine ⟨[.d (J3 R U ws),.d (stD s0),.d (Jcb m d wt ht u cs e),.d (.str "most"),.d (.int m),.d (.int d),.d (Jtw wt ht),.d (.int u),.d (.tuple (cs.map .int)),.d (.int e),.d (.int (Tb.Jk ws.length λ i=>cs.getD i 0*Z5 ws wt ht (i:Nat)))],.eq rfl,?_⟩
 refine ⟨R,U,wt,ht,s0,rfl,M.c,p1,⟨sd.a0,sd.a1⟩,sd.len,λ x hx=>J16 (sd.nn x hx) (sd.bd x hx),Zj M.be M.bw,?_⟩
 have f:=M.le
 have q':=q
 rw [<- decide_eq_true f] at q'
 exact q'
theorem Bx:FnScope ["_law_script","_law_tape_here","_law_book_here","_law_numbers","_law_stand_here","_law_walk","_law_k","_law_answer","_law_other","_law_less"] ["_law_script"] (Jd Jcy):=⟨rfl,rfl,rfl,by decide +kernel,rfl,by decide +kernel,by decide +kernel⟩
theorem J0b {f:Addr}{fd:Yaw}(T:Txt mg) (F:Fun K "law" "law" Jcy f fd) (G4:Cal P w K mg base "_law_tape" 1 ["_law_script"] (Jjt K)) (Ga:Cal P w K mg base "_law_draw" 1 ["_law_tape_here","_law_many"] (Jn Jby)) (G5:Cal P w K mg base "_law_book" 5 ["_law_tape_here","_law_most"] (Jn Jj4)) (G6:Cal P w K mg base "_law_some_walk" 5 ["_law_tape_here","_law_book_here","_law_stand_here"] (Y3 Jdc)) (Gc:Jgv P w K mg base "how_often" 6 ["book","stand","k"] (Jbx (Jky z))) (G7:Cal P w K mg base "_law_meet" 3 ["_law_book_here","_law_stand_here","_law_answer"] (Jn Jeg)) (Gg:Cal P w K mg base "behind" 4 ["book","stand","k"] (Jn Jkc)) (G8:Cal P w K mg base "_law_did" 8 ["_law_word","_law_call"] (Jn Jog)):FnOk P w K mg base CX0 14 f fd ["_law_script"] (Jlh K):=by
 refine F.ok Bx (λ vs H Q E h=>?_) (λ cdv A outer s H vs Q E hr h=>?_)
 . obtain ⟨a,ns,rfl,_⟩:=h
   rfl
 refine ⟨_,(@Jb _ _ _ _ _ (Jw (i:=1) Bx.nd rfl (Qs rfl) (Y7 G4 (hr.mono (by decide)) rfl (Ja (pv 0) Jc)))
  (@Jb _ _ _ _ _ (Jw (i:=2) Bx.nd rfl (Qa rfl) (Y7 G5 (hr.mono (by decide)) rfl (Ja (pv 1) (Jam (@PEs.out _ _ _ (Zd (Jm Yc (Jm Yc (Jm Yc Jt))))) Jc))))
  (@Jb _ _ _ _ _ (Jw (i:=3) Bx.nd rfl (Qa rfl) (J5 Ye rfl T.b_tuple Ya0 (Ja3 (Yw (sc:=(Jd Jcy)) (N:=["_law_script","_law_tape_here","_law_book_here","_law_numbers","_law_stand_here","_law_walk","_law_k","_law_answer","_law_other","_law_less"]) (N':=["_law_p","_law_tape_here"]) (k:=1) (idx:=[1]) rfl (by exact ⟨rfl,by decide +kernel,by decide +kernel,by decide +kernel,by decide +kernel,by decide +kernel,rfl,rfl⟩) rfl rfl (Zg rfl T.b_range (Ym (Jp Yg (pv 2) Jg (λ _ _=>rfl)) Jc)) (λ _ _ _ _=>(J0 (i:=0) (show (["_law_p","_law_tape_here"]:List Str).Nodup by decide +kernel) rfl (Qa rfl) (Qs rfl))) (λ _ _ _ _=>Yu) (λ _ _ _ _=>(Y7 Ga (hr.mono (by decide)) rfl (Ja (pv 1) (Y9 Jg Jc))))) Jc)))
  (@Jb _ _ _ _ _ (@B8 _ _ 4 _ _ _ _ Bx.nd rfl (Qa rfl) (Zd (Yh (Jr (Y7 Ga (hr.mono (by decide)) rfl (Ja (pv 1) (Ym (Jp Yg (pv 2) Jg (λ _ _=>rfl)) Jc)))) (Ys (Jr (pv 3)) Jt))) rfl (Qa rfl))
  (@Jb _ _ _ _ _ (Jw (i:=5) Bx.nd rfl (Qa rfl) (Y7 G6 (hr.mono (by decide)) rfl (Ja (pv 1) (Ja (pv 2) (Ja (pv 4) Jc)))))
  (@Jb _ _ _ _ _ (Vf Xv rfl (Zg rfl T.b_range (Wa (Jx J7 rfl T.b_len Ud (Ym (Jp Yg (pv 2) Jg (λ _ _=>rfl)) Jc)) Jc)) (J0 (i:=6) Bx.nd rfl (Qa rfl) (Qa rfl))
  (@Jb _ _ _ _ _ (Jw (i:=7) Bx.nd rfl (Qa rfl) (Jsl Gc (hr.mono (by decide)) rfl Jso (Ja (pv 2) (Ja (pv 4) (Ja (pv 6) Jc)))))
  (@Ji _ _ _ (Wl (Ya Jbp (Jp Yg (pv 7) Jg (λ _ _=>rfl)) Jcz (J9 _)) (@Jb _ _ _ _ _ (Wl (Ya Jgk (Jv Vk (Jfk J3i J90 J91 Jre (pv 5) (Ja (pv 6) Jc)) (Jp Yg (pv 7) Jg (λ _ _=>rfl))) (Jp Yg (pv 7) Jg (λ _ _=>rfl)) (J9 _)) (@Ji _ _ _ (@Jy _ _ _ _ Jdj)) Yr)
  (@Jb _ _ _ _ _ (Wl (Jjh (Jbo (Y7 G7 (hr.mono (by decide)) rfl (Ja (pv 2) (Ja (pv 4) (Ja (pv 7) Jc)))))) (@Ji _ _ _ (@Jy _ _ _ _ Jdj)) Yr)
  (@Ji _ _ _ (Wl (Ya (Jr9 hr.units) (pv 5) (@PEs.out _ _ _ (Yb Jt)) (J9 _)) (@Jb _ _ _ _ _ (Jw (i:=8) Bx.nd rfl (Qa rfl) (Jsl Gc (hr.mono (by decide)) rfl Jso (Ja (pv 2) (Wa (Y7 Gg (hr.mono (by decide)) rfl (Ja (pv 2) (Ja (pv 4) (Ym (Jp Js (pv 5) Jg (λ _ _=>rfl)) Jc)))) (Ja (pv 6) Jc)))))
  (@Jb _ _ _ _ _ (Wl (Ya Jrv (Jp Yg (pv 8) Jg (λ _ _=>rfl)) Jcz (J9 _)) (@Ji _ _ _ (@Jy _ _ _ _ Jdj)) Yr)
  (@Jb _ _ _ _ _ (Jw (i:=9) Bx.nd rfl (Qa rfl) (J5 Jcl rfl T.b_int Ybk (Jjs (Vh Jbp (Jp Js (pv 5) Jg (λ _ _=>rfl)) (pv 6) (J9 _)) Jc)))
  (@Ji _ _ _ (Wl (Ya Jgk (Jv Vk (Jv Wh (Jp Yg (pv 8) Jg (λ _ _=>rfl)) (Jv Vk (pv 9) (Jp Yg (pv 8) Jg (λ _ _=>rfl)))) (Jp Yg (pv 7) Jg (λ _ _=>rfl))) (Jv Vk (Jp Yg (pv 7) Jg (λ _ _=>rfl)) (Jp Yg (pv 8) Jg (λ _ _=>rfl))) (J9 _)) (@Ji _ _ _ (@Jy _ _ _ _ Jdj)) Yr))))) Yr)))) Yr))))
  (@Jb _ _ _ _ _ (Vf Xv rfl (B1 (@PEs.out _ _ _ (Yb (Wc (Jr (Vg Z8 Jg)) (Yh (Jr (Jx J7 rfl T.b_len Ud (Ym (Jp Yg (pv 2) Jg (λ _ _=>rfl)) Jc))) (Jan (Jr (Jv Jrt Jg Jg)) Jt)))))) (J0 (i:=6) Bx.nd rfl (Qa rfl) (Qa rfl))
  (@Ji _ _ _ (Wl (Ya Jrv (Jx (Jiz hr.gd hr.units) rfl T.b_repr boot_repr (Wa (Y7 G8 (hr.mono (by decide)) rfl (Y9 Jcz (Jam (@PEs.out _ _ _ (Zd (Ys (Jr (pv 2)) (Ys (Jr (pv 4)) (Ys (Jr (pv 6)) Jt))))) Jc))) Jc)) (Jx (Jiz hr.gd hr.units) rfl T.b_repr boot_repr (Y9 Jcz Jc)) (J9 _)) (@Ji _ _ _ (@Jy _ _ _ _ Jdj)) Yr)))
  (@Ji _ _ _ (@Jy _ _ _ _ Jdj))))))))),Jnq (by decide) h ?_⟩
 have hs:sizeLine=16777216:=Yar
 show Jzb _ _ Js1 [.jnk,.tape,.jnk,.jnk,.jnk,.jnk,.jnk,.jnk,.jnk,.jnk] 0
 refine ⟨Bq,4,3,9,rfl,by decide,by decide,by decide,by decide,λ R U ws m0 ok _ _ hm0=>?_⟩
 have r0:=ok.r0
 have r1:=ok.r1
 have p0:=ok.p0
 have p1:=ok.p1
 have wl:=ok.len
 have one:(1:Nat)<=sizeLine:=by rw [hs];decide
 have two:(2:Nat)<=sizeLine:=by rw [hs];decide
 have three:(3:Nat)<=sizeLine:=by rw [hs];decide
 refine ⟨[.jnk,.tape,.d (J3 R U ws),.jnk,.jnk,.jnk,.jnk,.jnk,.jnk,.jnk],.eq rfl,?_⟩
 refine ⟨_,rfl,U,rfl,⟨by omega,by omega⟩,⟨rfl,by rw [Yq];omega⟩,?_⟩
 refine Jg6 1 (m0+6) (λ y=>∃ i:Int,y = .int i/\0<=i/\i<=9) (λ x _ k K hk h=>V3 ⟨7,rfl,by omega,by decide,by decide +kernel,λ r r0 r1=>h _ _ ⟨r,rfl,r0,by omega⟩ (by omega)⟩) (by rw [Yq];omega) (λ ys k hy hg hk=>?_)
 rw [Yq] at hy hk
 obtain ⟨xs,rfl,hxs⟩:=Jpu hg
 rw [Qc] at hy
 refine ⟨[.jnk,.tape,.d (J3 R U ws),.d (.tuple (xs.map .int)),.jnk,.jnk,.jnk,.jnk,.jnk,.jnk],.eq rfl,?_⟩
 refine ⟨_,rfl,R,rfl,by omega,by omega,J6t r1 (by decide +kernel),λ room a0 a1=>?_⟩
 let s0:St':=(room,xs)
 have w0:WalkO R U ws s0 [] s0:=⟨by show (xs.length:Int)=U;omega,a0,a1,λ x hx=>(hxs x hx).1,λ x hx=>by have:=(hxs x hx).2;show x<=1000+99*0;omega,.refl _,λ k hk=>by cases hk⟩
 have sd0:SdOk R U room xs:=w0.sd (by decide)
 refine ⟨two,[.jnk,.tape,.d (J3 R U ws),.d (.tuple (xs.map .int)),.d (stD s0),.jnk,.jnk,.jnk,.jnk,.jnk],.eq rfl,?_⟩
 refine ⟨R,U,ws,s0,rfl,by omega,ok,w0,λ wk s1 m1 g wkl hm1=>?_⟩
 have we:wk.map Ju=(nI wk).map .int:=by unfold nI;rw [Q0];rfl
 rw [we]
 let B:List Vl:=[.jnk,.tape,.d (J3 R U ws),.d (.tuple (xs.map .int)),.d (stD s0),.own ((nI wk).map .int)]
 refine ⟨B++[.jnk,.jnk,.jnk,.jnk],.eq rfl,?_⟩
 refine Jqu (λ env k=>∃ a b c d:Vl,env=B++[a,b,c,d]) (λ N hN=>?_) ?_
 . refine ⟨_,rfl,_,rfl,⟨by omega,by rw [Qc];omega⟩,?_⟩
   refine ⟨λ i env k=>∃ a b c d:Vl,env=B++[a,b,c,d],⟨_,_,_,_,rfl⟩,?_,λ env k ⟨a,b,c,d,he⟩=>hN _ _ ⟨a,b,c,d,he⟩⟩
   rintro k x env kk hx ⟨a,b,c,d,rfl⟩
   rw [Qc] at hx
   obtain ⟨hk2,rfl⟩:=Jj3 hx
   have kl:k<ws.length:=by omega
   have up:∀ {x:Int},x.natAbs<2^4200->x.natAbs<2^9000:=λ {x} h=>Qy h (Z1 (by decide))
   have sm:∀ {x:Int},0<=x->x<=100->x.natAbs<2^9000:=λ {x} h0 h1=>Qy (show x.natAbs<2^7 by omega) (Z1 (by decide))
   refine Jqu (λ env j=>∃ ans,((∃ n d wt ht u F e,AnsF R U ws s0 k n d wt ht u F e/\ans=Jcb n d wt ht u F e)\/∃ cs,ans=Jx7 cs)/\env=B++[.d (Ju k),.d ans,c,d]) (λ M hM=>?_) ?_
   . refine ⟨R,U,ws,room,xs,(k:Int),rfl,ok,sd0,λ j ej hj=>?_,λ h=>absurd ⟨by omega,by omega⟩ h⟩
     have ej:j=k:=by omega
     subst ej
     exact ⟨λ hn=>hM _ _ ⟨_,.inl ⟨_,_,_,_,_,_,_,Juz ok w0 hn,rfl⟩,rfl⟩,λ hm=>⟨λ m d wt ht u F e Mo=>hM _ _ ⟨_,.inl ⟨_,_,_,_,_,_,_,Jux ok w0 kl Mo,rfl⟩,rfl⟩,λ cs rk ck=>hM _ _ ⟨_,.inr ⟨cs,rfl⟩,rfl⟩⟩⟩
   rintro _ j ⟨ans,⟨n,d',wt,ht,u,F,e,A,rfl⟩ | ⟨cs,rfl⟩,rfl⟩
   . refine ⟨_,.refl,_,rfl,Js3 (Jls (decide_eq_true rfl) ?_)⟩
     have hc:=A.cnt wk s1 g
     rw [<- Juw] at hc
     have cb:(((nI wk).count (k:Int):Nat):Int)<=100:=by
      have:=List.count_le_length (a:=(k:Int)) (l:=nI wk)
      unfold nI at this ⊢
      rw [Qc] at this
      omega
     refine ⟨nI wk,rfl,_,rfl,Zj (sm (by omega) cb) (up A.db),_,rfl,Jg2 (decide_eq_false (by omega)) ⟨_,.refl,?_⟩⟩
     refine ⟨R,U,ws,s0,n,d',wt,ht,u,F,e,rfl,ok,sd0,A.meet,Jc0 ⟨_,.refl,?_⟩⟩
     refine ⟨Xl _,Jxp (λ hne=>V3 ?_) (λ he=>Jc0 ⟨_,_,_,_,rfl⟩)⟩
     obtain ⟨j0,tl,rfl⟩:∃ j0 tl,wk=j0::tl:=by
      cases wk with
      | nil=>exact absurd rfl hne
      | cons a b=>exact ⟨a,b,rfl⟩
     have hc0:=Jrd g j0 rfl
     have w1:=V5 ok w0 hc0
     have sd1:=w1.sd (show ([]++[j0]).length<=1000 from (by decide:1<=1000))
     have at0:atI ((nI (j0::tl)).map Qn) 0=some (.int (j0:Int)):=Yi (by decide) rfl
     refine Jqu (λ env j=>∃ n2 d2 wt2 ht2 u2 F2 e2,n2.natAbs<2^4200/\d2.natAbs<2^4200/\(n2+(if j0=k then 1 else 0)*d2)*d'<=n*d2/\env=B++[.d (Ju k),.d (Jcb n d' wt ht u F e),.d (Jcb n2 d2 wt2 ht2 u2 F2 e2),d]) (λ M hM=>?_) ?_
     . refine ⟨_,at0,R,U,ws,s0,(j0:Int),rfl,ok,w0.len,hc0,R,U,ws,(B0 ws s0 (j0:Int)).1,(B0 ws s0 (j0:Int)).2,(k:Int),rfl,ok,sd1,λ i ei hi=>?_,λ h=>absurd ⟨by omega,by omega⟩ h⟩
       have ei:i=k:=by omega
       subst ei
       exact ⟨λ hn=>hM _ _ ⟨0,1,_,_,_,_,_,J3g _,Qy (show 1<2^1 by decide) (Z1 (by decide)),A.oz j0 hc0 hn,rfl⟩,λ hm=>⟨λ n2 d2 wt2 ht2 u2 F2 e2 Mo=>hM _ _ ⟨n2,d2,_,_,_,_,_,Mo.n0.2,Mo.d1.2,A.om j0 hc0 hm _ _ _ _ _ _ _ Mo,rfl⟩,λ cs rk ck=>(A.on j0 hc0 hm cs rk ck).elim⟩⟩
     rintro _ j2 ⟨n2,d2,wt2,ht2,u2,F2,e2,hn2,hd2,hle,rfl⟩
     refine ⟨_,.refl,_,rfl,Jxr (Jc0 ⟨_,.refl,?_⟩)⟩
     refine ⟨_,at0,Jg3 ?_⟩
     have el:(if decide ((j0:Int)=(k:Int))=true then (1:Int) else 0)=if j0=k then 1 else 0:=by
      by_cases hjk:j0=k
      . subst hjk;rw [if_pos rfl,decide_eq_true rfl,if_pos rfl]
      . rw [if_neg hjk,decide_eq_false (by omega),if_neg (by decide)]
     have l0:0<=(if j0=k then (1:Int) else 0)/\(if j0=k then (1:Int) else 0)<=1:=by split<;>decide
     have h2:(n2+(if j0=k then 1 else 0)*d2).natAbs<2^9000:=by
      have h3:(n2+(if j0=k then 1 else 0)*d2).natAbs<=n2.natAbs+d2.natAbs:=by split<;>omega
      have h4:2*2^4200<=2^9000:=by
       have:(2:Nat)^4201=2^4200*2:=Nat.pow_succ ..
       rw [J5d,<- this]
       exact Z1 (by decide)
      generalize (n2+(if j0=k then 1 else 0)*d2)=y at *
      generalize 2^4200=c2 at *
      generalize 2^9000=c9 at *
      omega
     refine ⟨B++[.d (Ju k),.d (Jcb n d' wt ht u F e),.d (Jcb n2 d2 wt2 ht2 u2 F2 e2),.d (.int (if j0=k then 1 else 0))],.eq (by rw [<- el];rfl),?_⟩
     refine ⟨_,rfl,_,rfl,Zj (sm l0.1 (by omega)) (up hd2),_,rfl,Zj h2 (up A.db),_,rfl,_,rfl,Zj (up A.n0) (up hd2),Jg2 (decide_eq_false (by omega)) ⟨_,_,_,_,rfl⟩⟩
   . exact ⟨_,.refl,_,rfl,Js3 (Jg2 (by decide +kernel) ⟨_,_,_,_,rfl⟩)⟩
 rintro _ kk ⟨a,b,c,d,rfl⟩
 refine ⟨_,.refl,?_⟩
 have shw:Jsg (.str "noway"):=(SD.str (h:=1) (n:=5) (by decide +kernel) (by decide +kernel)).show (by decide) (by decide)
 refine ⟨_,rfl,⟨by decide,by decide,by decide⟩,three,?_⟩
 refine ⟨λ i env k=>∃ a b c d:Vl,env=B++[a,b,c,d],⟨_,_,_,_,rfl⟩,?_,λ env k ⟨a,b,c,d,he⟩=>by subst he;exact ⟨_,.refl,rfl⟩⟩
 rintro i x env k hx ⟨a,b,c,d,rfl⟩
 obtain ⟨ki,rfl,hki⟩:∃ ki:Int,x = .int ki/\¬(0<=ki/\ki<ws.length):=by
  match i,hx with
  | 0,hx=>cases hx;exact ⟨-1,rfl,by omega⟩
  | 1,hx=>cases hx;exact ⟨_,rfl,by rw [Qc];omega⟩
  | 2,hx=>
   cases hx
   refine ⟨_,rfl,λ h=>?_⟩
   have e:(100:Int)<=10^(40:Int).toNat:=by decide
   omega
  | i+3,hx=>cases hx
 refine ⟨three,"often",R,U,ws,room,xs,ki,rfl,ok,sd0,hki,shw,shw,?_⟩
 generalize (J8f "noway").shown=sh
 exact Jxr (Jc0 ⟨_,_,_,_,rfl⟩)
end
theorem all_mk {l:J6l}{w:Yao}{K:Qb}{h:Heap}{mg:Str->Option Yak}{fa f4:Addr}(X:K.In h) (G:h.Ns Yas mg) (hfa:mg "law" = some (.ref fa)) (T:Txt mg) {z:L2.Er}(Z:L2.ErOk K mg z)
 {C_Table:Addr} (Y_Table:TableOk K C_Table) (G9:Def K mg "_law_tape" Jde ["_law_script"]) (Ma:Def K mg "_law_draw" Jdf ["_law_tape_here","_law_many"]) (Mb:Def K mg "_law_gain" Jdg ["_law_tape_here"]) (Mc:Def K mg "_law_gains" Jac ["_law_tape_here","_law_purses"]) (Md:Def K mg "_law_nested" Be ["_law_tape_here","_law_rooms","_law_purses"]) (Me:Def K mg "_law_book" Jbg ["_law_tape_here","_law_most"]) (Mf:Def K mg "is_whole" Jdd ["thing"]) (Mg:Def K mg "is_between" Jbd ["thing","least","most"]) (Mh:Def K mg "has_way" Je7 ["book","k"]) (Mi:Def K mg "put_to" Jeh ["numbers","gains"]) (Mj:Def K mg "leads_on" Jbe ["way","stand"]) (Ml:Def K mg "can_do" Jei ["book","stand"]) (Mm:Def K mg "behind" Jh8 ["book","stand","k"]) (Mn:Def K mg "rooms_reached" Zq ["book","some"]) (Mp:Def K mg "common_divisor" Vz ["numbers"]) (Mq:Def K mg "without_divisor" Wm ["numbers"]) (Mr:Def K mg "first_numbers" W6 ["book","stand"]) (D_Table__init:L2.DefI2 K mg "Table" C_Table "Table.__init__" Ze ["self","book","some","stand"]) (D_Table__without:L2.DefM K C_Table "without" "Table.without" Wy ["self","other","row","place"]) (D_Table__exchange:L2.DefM K C_Table "exchange" "Table.exchange" Wn ["self","at","place"]) (D_Table__rises:L2.DefM K C_Table "rises" "Table.rises" Wp ["self","wanted"]) (D_Table__place_to_raise:L2.DefM K C_Table "place_to_raise" "Table.place_to_raise" Y6 ["self","wanted"]) (D_Table__comes_first:L2.DefM K C_Table "comes_first" "Table.comes_first" Wq ["self","at","other","place"]) (D_Table__row_to_free:L2.DefM K C_Table "row_to_free" "Table.row_to_free" Wr ["self","place"]) (D_Table__counts_by:L2.DefM K C_Table "counts_by" "Table.counts_by" W9 ["self","place"]) (D_Table__find_round:L2.DefM K C_Table "find_round" "Table.find_round" W0 ["self","wanted"]) (D_Table__shares:L2.DefM K C_Table "shares" "Table.shares" V7 ["self","wanted"]) (D_Table__as_sum:L2.DefM K C_Table "as_sum" "Table.as_sum" V8 ["self","shares"]) (D_Table__counts_now:L2.DefM K C_Table "counts_now" "Table.counts_now" W1 ["self"]) (Ms:Def K mg "ways_met" Jbf ["book","room"]) (Mt:Def K mg "not_met" Je8 ["book"]) (Mu:Def K mg "read_most" Jcc ["table","k"]) (Mv:Def K mg "how_often" Jcd ["book","stand","k"]) (Mw:Def K mg "weighed" Jcr ["weights","numbers"]) (Mx:Def K mg "fall" Joh ["book","tally","k"]) (Mz:Def K mg "worth" Jkz ["tally","stand"]) (M0:Def K mg "_law_asked" Jce ["_law_word","_law_call"]) (M1:Def K mg "_law_did" Je9 ["_law_word","_law_call"]) (M2:Def K mg "_law_some_walk" V9 ["_law_tape_here","_law_book_here","_law_stand_here"]) (M3:Def K mg "_law_meet" Jbh ["_law_book_here","_law_stand_here","_law_answer"])
 {od4 an4:Option Addr} {sl4:Array (Option Yak)} {oc4 kV4 dc4 pm4 cd4 ct4:Yak} (a4:Ua K Yas "law" = some (some (.ref f4)))
 (l4:K.lookup f4=some ⟨oc4,od4,.func (Xy "law" "law" (Z9 Jcy) (Zm Jcy) (Jd Jcy) .none kV4 dc4 pm4 an4 cd4 ct4),sl4⟩) (c4:J3b K cd4 "law" = true) (k4:Uf K (.ref f4)=true) :
 ∃ fd:Yaw,(∀ (s:Yam) (v:Yak),Ybf s fd ⟨[v],[]⟩ [("_law_script",v)])/\∀ base:Heap,K.In base->base.Ns Yas mg->FnOk l.prog w K mg base CX0 14 fa fd ["_law_script"] (Jlh K):=by
 have e:=hfa.symm.trans (Ug X G a4)
 cases e
 have F4:=Jgq (st:=Jcy) l4 c4 k4
 refine ⟨Xy "law" "law" (Z9 Jcy) (Zm Jcy) (Jd Jcy) .none kV4 dc4 pm4 an4 cd4 ct4,λ s v=>.of_eq rfl,λ base _ _=>?_⟩
 have M4:Cal l.prog w K mg base "_law_tape" 1 ["_law_script"] (Jjt K):=Jmo T G9
 have M5:Cal l.prog w K mg base "_law_draw" 1 ["_law_tape_here","_law_many"] Jnh:=Jmp T Ma
 have Gi:Cal l.prog w K mg base "_law_draw" 1 ["_law_tape_here","_law_many"] (Jn Jby):=M5.imp Js2
 have M6:Cal l.prog w K mg base "_law_gain" 2 ["_law_tape_here"] (Jn Jf6):=Jmq T Mb Gi
 have Gx:Cal l.prog w K mg base "_law_gains" 3 ["_law_tape_here","_law_purses"] (Jn Jdw):=Jk1 T Mc M6
 have M7:Cal l.prog w K mg base "_law_nested" 4 ["_law_tape_here","_law_rooms","_law_purses"] (Y3 Jey):=Jil T Md Gx Gi
 have M8:Cal l.prog w K mg base "_law_book" 5 ["_law_tape_here","_law_most"] (Jn Jj4):=Jmr T Me Gi M7 Gx
 have Gm:Cal l.prog w K mg base "is_whole" 1 ["thing"] (Jn Jj2):=Jmt T Mf
 have Gn:Cal l.prog w K mg base "is_between" 2 ["thing","least","most"] (Jn Jex):=Jin T Mg Gm
 have Gy:Cal l.prog w K mg base "has_way" 3 ["book","k"] (Jn Jkx):=Joj T Mh Gn
 have Gh:Cal l.prog w K mg base "has_way" 3 ["book","k"] (Jn Jg5):=Gy.imp Juu
 have Gd:Cal l.prog w K mg base "put_to" 1 ["numbers","gains"] (Jn Jkb):=Jrg T Mi
 have Ge:Cal l.prog w K mg base "leads_on" 2 ["way","stand"] (Jn Jd1):=Jmu T Mj Gd
 have Gj:Cal l.prog w K mg base "can_do" 3 ["book","stand"] (Y3 Jnt):=Jri T Ml Ge
 have Gg:Cal l.prog w K mg base "behind" 4 ["book","stand","k"] (Jn Jkc):=Jrj T Mm Gh Ge Gd
 have Gq:Cal l.prog w K mg base "rooms_reached" 1 ["book","some"] (Jn Jka):=Jfb T Mn
 have Go:Cal l.prog w K mg base "common_divisor" 1 ["numbers"] (Jn Jd9):=Jej T Mp
 have Gb:Cal l.prog w K mg base "without_divisor" 2 ["numbers"] (Y3 Jf9):=Jdh T Mq Go
 have Gp:Cal l.prog w K mg base "first_numbers" 1 ["book","stand"] (Y3 Jh4):=Jfe T Mr
 have c_Table__init:Jl9 l.prog w K mg base "Table" C_Table 2 ["self","book","some","stand"] (Jku C_Table):=Jh9 T Y_Table D_Table__init Gp
 have c_Table__without:Wj l.prog w K mg base C_Table "without" 1 ["self","other","row","place"] (Y3 (Jnw C_Table)):=Jek T Y_Table D_Table__without
 have c_Table__exchange:Wj l.prog w K mg base C_Table "exchange" 2 ["self","at","place"] (Jzy C_Table):=Jdi T Y_Table D_Table__exchange c_Table__without
 have c_Table__rises:Wj l.prog w K mg base C_Table "rises" 1 ["self","wanted"] (Y3 (Jgb C_Table)):=Jf1 T Y_Table D_Table__rises
 have c_Table__place_to_raise:Wj l.prog w K mg base C_Table "place_to_raise" 2 ["self","wanted"] (Jn (Jcq C_Table)):=Jal T Y_Table D_Table__place_to_raise c_Table__rises
 have c_Table__comes_first:Wj l.prog w K mg base C_Table "comes_first" 1 ["self","at","other","place"] (Jn (Jkk C_Table)):=Jbm T Y_Table D_Table__comes_first
 have c_Table__row_to_free:Wj l.prog w K mg base C_Table "row_to_free" 2 ["self","place"] (Jn (Je1 C_Table)):=Jbn T Y_Table D_Table__row_to_free c_Table__comes_first
 have c_Table__counts_by:Wj l.prog w K mg base C_Table "counts_by" 3 ["self","place"] (Jn (Jea C_Table)):=Jcv T Y_Table D_Table__counts_by Gb
 have c_Table__find_round:Wj l.prog w K mg base C_Table "find_round" 4 ["self","wanted"] (Jgf C_Table):=Jcg T Y_Table D_Table__find_round c_Table__place_to_raise c_Table__row_to_free c_Table__counts_by c_Table__exchange
 have c_Table__shares:Wj l.prog w K mg base C_Table "shares" 2 ["self","wanted"] (Y3 (Jhr C_Table)):=Jfd T Y_Table D_Table__shares c_Table__rises
 have c_Table__as_sum:Wj l.prog w K mg base C_Table "as_sum" 1 ["self","shares"] (Jn (Jkl C_Table)):=Jfc T Y_Table D_Table__as_sum
 have c_Table__counts_now:Wj l.prog w K mg base C_Table "counts_now" 1 ["self"] (Y3 (Juo C_Table)):=Jch T Y_Table D_Table__counts_now
 have Gr:Cal l.prog w K mg base "ways_met" 2 ["book","room"] (Y3 Je5):=Jmv T Ms Gq
 have Gs:Cal l.prog w K mg base "not_met" 1 ["book"] (Jn Jh3):=Jok T Mt
 have Gu:Cal l.prog w K mg base "read_most" 4 ["table","k"] (Jn (Jbc C_Table)):=Jk2 T Y_Table Mu c_Table__counts_now Gb c_Table__shares c_Table__as_sum
 have Gc:Jgv l.prog w K mg base "how_often" 6 ["book","stand","k"] (Jbx (Jky z)):=Jk3 T Z Y_Table Mv Gy Gr Gs c_Table__init c_Table__find_round Gu
 have Gf:Cal l.prog w K mg base "weighed" 1 ["weights","numbers"] (Jn Jed):=Jom T Mw
 have Gv:Cal l.prog w K mg base "fall" 2 ["book","tally","k"] (Jn Jge):=Jw1 T Mx Gf
 have Gw:Cal l.prog w K mg base "worth" 2 ["tally","stand"] (Jn Jee):=Ju0 T Mz Gf
 have M9:Jgv l.prog w K mg base "_law_asked" 7 ["_law_word","_law_call"] (Jbx (Jh6 z)):=Jk6 T Z M0 Gc
 have Ta:Cal l.prog w K mg base "_law_did" 8 ["_law_word","_law_call"] (Jn Jog):=Jon T Z M1 M9
 have Tc:Cal l.prog w K mg base "_law_some_walk" 5 ["_law_tape_here","_law_book_here","_law_stand_here"] (Y3 Jdc):=Jff T M2 Gi Gj Gg
 have Td:Cal l.prog w K mg base "_law_meet" 3 ["_law_book_here","_law_stand_here","_law_answer"] (Jn Jeg):=Jmw T M3 Gv Gw
 exact J0b T F4 M4 Gi M8 Tc Gc Td Gg Ta
theorem walk {l:J6l}{q:Yap}{loose:List Str}{XP:(Str->Option Yak)->Heap->Prop}{YP:Yao->Heap->Prop}{d:DefRec}{K:Params->Qb}(hn:l.most=some 63) (hdf:d.params.defaults=[])
 (hY:∀ (w:Yao) (h:Heap),YP w h->(K w.params).In h)
 (F:∀ (w:Yao) (mg:Str->Option Yak) (fa:Addr) (h:Heap),(K w.params).In h->h.Ns Yas mg->mg d.name=some (.ref fa) ->
  ∃ fd:Yaw,(∀ (s:Yam) (u:Yak),Ybf s fd ⟨[u],[]⟩ [("_law_script",u)])/\∀ base:Heap,(K w.params).In base->base.Ns Yas mg->FnOk l.prog w (K w.params) mg base CX0 14 fa fd ["_law_script"] (Jlh (K w.params))) :
 J8e q loose XP YP l.row.toRowW d [] (λ f vs=>J6k f vs):=
 L2.walk_of (n:=63) (k:=14) (x:="_law_script") (CX:=λ _=>CX0) (sp:=λ w=>Jlh (K w.params)) hn (by decide) hdf ⟨rfl,by decide,by decide,rfl⟩ hY F (λ _ _ a ns hl _ hS=>⟨a,ns,rfl,hS,hl,λ _=>rfl⟩) λ _ _ _ _ _ z=>z
end My
end
theorem PySem.W.Fast.tw6131718521500410524 : True := trivial
theorem PySem.W.Fast.tw15804232127014119081 : True := trivial
theorem PySem.W.Fast.tw4077521445184014665 : True := trivial
theorem PySem.W.Fast.tw290248341826924272 : True := trivial
theorem PySem.W.Fast.tw697540272216307219 : True := trivial
theorem PySem.W.Fast.tw10863679280054807527 : True := trivial
theorem PySem.W.Fast.tw17300138904254110056 : True := trivial
theorem PySem.W.Fast.tw11721377688589544868 : True := trivial
theorem PySem.W.Fast.tw7386083541457506457 : True := trivial
theorem PySem.W.Fast.tw4912363066660719072 : True := trivial
theorem PySem.W.Fast.tw2717347389399362007 : True := trivial
theorem PySem.W.Fast.tw12893559857369390404 : True := trivial
theorem PySem.W.Fast.tw7861553293621226571 : True := trivial
theorem PySem.W.Fast.tw646159832071585540 : True := trivial
theorem PySem.W.Fast.tw7448978072352876248 : True := trivial
theorem PySem.W.Fast.tw8225632629951245205 : True := trivial
theorem PySem.W.Fast.tw6040066477320604304 : True := trivial
theorem PySem.W.Fast.tw16070377419488901798 : True := trivial
theorem PySem.W.Fast.tw8303191731979706851 : True := trivial
theorem PySem.W.Fast.tw14200707730848992920 : True := trivial
theorem PySem.W.Fast.tw18153623699331139331 : True := trivial
theorem PySem.W.Fast.tw7514615645350622501 : True := trivial
theorem PySem.W.Fast.tw16708824634828055473 : True := trivial
theorem PySem.W.Fast.tw4842953217169126450 : True := trivial
theorem PySem.W.Fast.tw9486784227160071257 : True := trivial
theorem PySem.W.Fast.tw16067441223749268987 : True := trivial
theorem PySem.W.Fast.tw10722309732385664505 : True := trivial
theorem PySem.W.Fast.tw2261468369227335947 : True := trivial
theorem PySem.W.Fast.tw5742243047266686052 : True := trivial
theorem PySem.W.Fast.tw6416745621641318928 : True := trivial
theorem PySem.W.Fast.tw18109301976996496491 : True := trivial
theorem PySem.W.Fast.tw13501748286612997411 : True := trivial
theorem PySem.W.Fast.tw17445366552120558109 : True := trivial
theorem PySem.W.Fast.tw18198601434080140219 : True := trivial
theorem PySem.W.Fast.tw18339229814738234969 : True := trivial
theorem PySem.W.Fast.tw4943557773365559693 : True := trivial
theorem PySem.W.Fast.tw17187221925720691643 : True := trivial
theorem PySem.W.Fast.tw15270971648636182408 : True := trivial
theorem PySem.W.Fast.tw3917746639848319024 : True := trivial
theorem PySem.W.Fast.tw948507300029997632 : True := trivial
theorem PySem.W.Fast.tw7097050786020917385 : True := trivial
theorem PySem.W.Fast.tw6295023493045367982 : True := trivial
theorem PySem.W.Fast.tw16230673517532356185 : True := trivial
theorem PySem.W.Fast.tw14380483423136721195 : True := trivial
theorem PySem.W.Fast.tw1292399158340969230 : True := trivial
theorem PySem.W.Fast.tw7019827915174017808 : True := trivial
theorem PySem.W.Fast.tw5336050745723342630 : True := trivial
theorem PySem.W.Fast.tw3097436771163547123 : True := trivial
theorem PySem.W.Fast.tw4579511955305289421 : True := trivial
theorem PySem.W.Fast.tw11103512751436994243 : True := trivial
theorem PySem.W.Fast.tw5116397828991371412 : True := trivial
theorem PySem.W.Fast.tw2467408007617802251 : True := trivial
theorem PySem.W.Fast.tw14830433604225388707 : True := trivial
theorem PySem.W.Fast.tw16008930500736776073 : True := trivial
theorem PySem.W.Fast.tw1255586188060481018 : True := trivial
theorem PySem.W.Fast.tw2948334660419913983 : True := trivial
theorem PySem.W.Fast.tw13885137096509909141 : True := trivial
theorem PySem.W.Fast.tw13380777460995564709 : True := trivial
theorem PySem.W.Fast.tw10198649568998295942 : True := trivial
theorem PySem.W.Fast.tw4321636852741339556 : True := trivial
theorem PySem.W.Fast.tw6767647093452289365 : True := trivial
theorem PySem.W.Fast.tw3286763023257809322 : True := trivial
theorem PySem.W.Fast.tw15213764974753557984 : True := trivial
theorem PySem.W.Fast.tw17797391517832354721 : True := trivial
theorem PySem.W.Fast.tw18027674712684000515 : True := trivial
theorem PySem.W.Fast.tw11789121423178814843 : True := trivial
theorem PySem.W.Fast.tw1398244608119157841 : True := trivial
theorem PySem.W.Fast.tw3003190051036922732 : True := trivial
theorem PySem.W.Fast.tw1649244493326740894 : True := trivial
theorem PySem.W.Fast.tw3517484485800422272 : True := trivial
theorem PySem.W.Fast.tw5536179284571314928 : True := trivial
theorem PySem.W.Fast.tw12981773166179654665 : True := trivial
theorem PySem.W.Fast.tw8723013083158916390 : True := trivial
theorem PySem.W.Fast.tw5547434907839578585 : True := trivial
theorem PySem.W.Fast.tw2610977141433059236 : True := trivial
theorem PySem.W.Fast.tw17594275401563115668 : True := trivial
theorem PySem.W.Fast.tw14890272013697557849 : True := trivial
theorem PySem.W.Fast.tw10992002732374774229 : True := trivial
theorem PySem.W.Fast.tw8979487381128002586 : True := trivial
theorem PySem.W.Fast.tw7878193656591309304 : True := trivial
theorem PySem.W.Fast.tw4771520480350294758 : True := trivial
theorem PySem.W.Fast.tw2636560102980792864 : True := trivial
theorem PySem.W.Fast.tw5266515017971004627 : True := trivial
theorem PySem.W.Fast.tw742096436854698571 : True := trivial
theorem PySem.W.Fast.tw3628675384135824342 : True := trivial
theorem PySem.W.Fast.tw17679000157363456082 : True := trivial
theorem PySem.W.Fast.tw3862423558717930737 : True := trivial
theorem PySem.W.Fast.tw6317389529785116563 : True := trivial
theorem PySem.W.Fast.tw16156796388931487003 : True := trivial
theorem PySem.W.Fast.tw5862231519677159775 : True := trivial
theorem PySem.W.Fast.tw5794063994193257141 : True := trivial
theorem PySem.W.Fast.tw5854600367182158990 : True := trivial
theorem PySem.W.Fast.tw5392996400135131750 : True := trivial
theorem PySem.W.Fast.tw10740255102338637915 : True := trivial
theorem PySem.W.Fast.tw16648445600882103993 : True := trivial
theorem PySem.W.Fast.tw13308433266454624232 : True := trivial
theorem PySem.W.Fast.tw1524757014579194848 : True := trivial
theorem PySem.W.Fast.tw7432532471470194914 : True := trivial
theorem PySem.W.Fast.tw7375710396084570500 : True := trivial
theorem PySem.W.Fast.tw5807530207893696547 : True := trivial
theorem PySem.W.Fast.tw931060727043400290 : True := trivial
theorem PySem.W.Fast.tw7337088244366347254 : True := trivial
theorem PySem.W.Fast.tw12155474706862278769 : True := trivial
theorem PySem.W.Fast.tw7187410035810825712 : True := trivial
theorem PySem.W.Fast.tw15841444089829245942 : True := trivial
theorem PySem.W.Fast.tw17426485183539206097 : True := trivial
theorem PySem.W.Fast.tw16612689332453083832 : True := trivial
theorem PySem.W.Fast.tw13715032272260445511 : True := trivial
theorem PySem.W.Fast.tw9375731244556412028 : True := trivial
theorem PySem.W.Fast.tw1749086854641397859 : True := trivial
theorem PySem.W.Fast.tw17788662991024047201 : True := trivial
theorem PySem.W.Fast.tw13285948450517321956 : True := trivial
theorem PySem.W.Fast.tw2662258658687647140 : True := trivial
theorem PySem.W.Fast.tw12070323854381530148 : True := trivial
theorem PySem.W.Fast.tw3116388340890333747 : True := trivial
theorem PySem.W.Fast.tw10252098998856255645 : True := trivial
theorem PySem.W.Fast.tw14540994792196940612 : True := trivial
theorem PySem.W.Fast.tw5662453189498982804 : True := trivial
theorem PySem.W.Fast.tw4986096076659368937 : True := trivial
theorem PySem.W.Fast.tw11118673234492341915 : True := trivial
theorem PySem.W.Fast.tw3098978219166479504 : True := trivial
theorem PySem.W.Fast.tw15020209506661927888 : True := trivial
theorem PySem.W.Fast.tw14019175578460170482 : True := trivial
theorem PySem.W.Fast.tw16317552937038453381 : True := trivial
theorem PySem.W.Fast.tw3143171974389975872 : True := trivial
theorem PySem.W.Fast.tw1033034650112109360 : True := trivial
theorem PySem.W.Fast.tw6570833610644008602 : True := trivial
theorem PySem.W.Fast.tw6446536202175754636 : True := trivial
theorem PySem.W.Fast.tw914243858835084200 : True := trivial
theorem PySem.W.Fast.tw7945370920863498324 : True := trivial
theorem PySem.W.Fast.tw15061164169633644402 : True := trivial
theorem PySem.W.Fast.tw8384721682269524161 : True := trivial
theorem PySem.W.Fast.tw4816751539711637007 : True := trivial
theorem PySem.W.Fast.tw683384663351554425 : True := trivial
theorem PySem.W.Fast.tw15837918878671388624 : True := trivial
theorem PySem.W.Fast.tw2155661134012635749 : True := trivial
theorem PySem.W.Fast.tw13611857585566301712 : True := trivial
theorem PySem.W.Fast.tw8663240347528569782 : True := trivial
theorem PySem.W.Fast.tw10995042854385700807 : True := trivial
theorem PySem.W.Fast.tw2197460699199572174 : True := trivial
theorem PySem.W.Fast.tw2899577466175092103 : True := trivial
theorem PySem.W.Fast.tw15032802441708303193 : True := trivial
theorem PySem.W.Fast.tw17569782307958833673 : True := trivial
theorem PySem.W.Fast.tw16390191118432443889 : True := trivial
theorem PySem.W.Fast.tw3582001797645782881 : True := trivial
theorem PySem.W.Fast.tw2520350539122074384 : True := trivial
theorem PySem.W.Fast.tw13847406751085132713 : True := trivial
theorem PySem.W.Fast.tw2021443307312444048 : True := trivial
theorem PySem.W.Fast.tw7197762566324351439 : True := trivial
theorem PySem.W.Fast.tw16885730755510670007 : True := trivial
theorem PySem.W.Fast.tw3197257140493317750 : True := trivial
theorem PySem.W.Fast.tw2286713270590923878 : True := trivial
theorem PySem.W.Fast.tw5127588008282667088 : True := trivial
theorem PySem.W.Fast.tw5325500375346243971 : True := trivial
theorem PySem.W.Fast.tw10135956434088861460 : True := trivial
theorem PySem.W.Fast.tw15435428812107897330 : True := trivial
theorem PySem.W.Fast.tw3677277222984303601 : True := trivial
theorem PySem.W.Fast.tw9142555248456399390 : True := trivial
theorem PySem.W.Fast.tw10290837295016191935 : True := trivial
theorem PySem.W.Fast.tw3302342709174895957 : True := trivial
theorem PySem.W.Fast.tw3167001533177793266 : True := trivial
theorem PySem.W.Fast.tw8990295913414623575 : True := trivial
theorem PySem.W.Fast.tw108527167997986699 : True := trivial
theorem PySem.W.Fast.tw15803557145668956015 : True := trivial
theorem PySem.W.Fast.tw2844517261206203216 : True := trivial
theorem PySem.W.Fast.tw1835162454556700805 : True := trivial
theorem PySem.W.Fast.tw11888901659410688902 : True := trivial
theorem PySem.W.Fast.tw5239194203524007895 : True := trivial
theorem PySem.W.Fast.tw16629141029764743277 : True := trivial
theorem PySem.W.Fast.tw708434604716470680 : True := trivial
theorem PySem.W.Fast.tw8198752236637488438 : True := trivial
theorem PySem.W.Fast.tw8229060200521333745 : True := trivial
theorem PySem.W.Fast.tw618322559374342043 : True := trivial
theorem PySem.W.Fast.tw17587578648905599376 : True := trivial
theorem PySem.W.Fast.tw15870485013227812290 : True := trivial
theorem PySem.W.Fast.tw4684866157058779071 : True := trivial
theorem PySem.W.Fast.tw7031362929896416265 : True := trivial
theorem PySem.W.Fast.tw9172709931643855450 : True := trivial
theorem PySem.W.Fast.tw1597293717735041636 : True := trivial
theorem PySem.W.Fast.tw3824875182822262510 : True := trivial
theorem PySem.W.Fast.tw11410192016513121166 : True := trivial
theorem PySem.W.Fast.tw3188520181753287961 : True := trivial
theorem PySem.W.Fast.tw15026875431168515615 : True := trivial
theorem PySem.W.Fast.tw6972500769502634000 : True := trivial
theorem PySem.W.Fast.tw6859449784720971985 : True := trivial
theorem PySem.W.Fast.tw3836375482479462309 : True := trivial
theorem PySem.W.Fast.tw6474801145611658822 : True := trivial
theorem PySem.W.Fast.tw9391771039005896219 : True := trivial
theorem PySem.W.Fast.tw10785065788024578673 : True := trivial
theorem PySem.W.Fast.tw2836531948895984681 : True := trivial
theorem PySem.W.Fast.tw15476469859551517917 : True := trivial
theorem PySem.W.Fast.tw3556426961109045943 : True := trivial
theorem PySem.W.Fast.tw3483226457167857712 : True := trivial
theorem PySem.W.Fast.tw1745576330098084470 : True := trivial
theorem PySem.W.Fast.tw10285362788905768266 : True := trivial
theorem PySem.W.Fast.tw16106321212535750231 : True := trivial
theorem PySem.W.Fast.tw16952067888116309422 : True := trivial
theorem PySem.W.Fast.tw5972935915541896977 : True := trivial
theorem PySem.W.Fast.tw12607903192812479866 : True := trivial
theorem PySem.W.Fast.tw16092150594917797737 : True := trivial
open PySem PySem.W PyProof.Rows
set_option maxRecDepth 100000 in
set_option maxHeartbeats 0 in
theorem PySem.Challenge.cw_fallsum_k51_whole_often_and_walks_holds : PySem.Challenge.rw_fallsum_k51_whole_often_and_walks.Holds := by
  w_on; o_law; k_head; (case hw => w_witness2)
  k_fill
  refine My.walk (l := PySem.Challenge.rw_fallsum_k51_whole_often_and_walks) rfl rfl (fun w h Y => PySem.W.kIn_of Y) ?F
  case F =>
    intro w mg fa h KX G hmg
    refine' My.all_mk KX G hmg ⟨PySem.W.mg_none_of KX G ?z_isinstance, PySem.W.mg_none_of KX G ?z_int, PySem.W.mg_none_of KX G ?z_bool, PySem.W.mg_none_of KX G ?z_str, PySem.W.mg_none_of KX G ?z_tuple, PySem.W.mg_none_of KX G ?z_len, PySem.W.mg_none_of KX G ?z_all, PySem.W.mg_none_of KX G ?z_sum, PySem.W.mg_none_of KX G ?z_range, PySem.W.mg_none_of KX G ?z_list, PySem.W.mg_none_of KX G ?z_zip, PySem.W.mg_none_of KX G ?z_enumerate, PySem.W.mg_none_of KX G ?z_min, PySem.W.mg_none_of KX G ?z_max, PySem.W.mg_none_of KX G ?z_abs, PySem.W.mg_none_of KX G ?z_repr, PySem.W.mg_none_of KX G ?z_ValueError⟩ (L2.erOk_mk KX G ?er)
      (C_Table := ?C_Table) (⟨⟨?pg_Table, ?hd_Table, ?po_Table, ?sa_Table⟩, ?n0_Table, ?n1_Table, ?n2_Table, ?n3_Table, ?n4_Table, ?n5_Table, ?n6_Table⟩)
      (L2.def_mk KX G ?a_law_tape ?l_law_tape ?c_law_tape ?k_law_tape (fun _ _ _ _ _ _ us hl => match us, hl with | [_], _ => rfl))
      (L2.def_mk KX G ?a_law_draw ?l_law_draw ?c_law_draw ?k_law_draw (fun _ _ _ _ _ _ us hl => match us, hl with | [_, _], _ => rfl))
      (L2.def_mk KX G ?a_law_gain ?l_law_gain ?c_law_gain ?k_law_gain (fun _ _ _ _ _ _ us hl => match us, hl with | [_], _ => rfl))
      (L2.def_mk KX G ?a_law_gains ?l_law_gains ?c_law_gains ?k_law_gains (fun _ _ _ _ _ _ us hl => match us, hl with | [_, _], _ => rfl))
      (L2.def_mk KX G ?a_law_nested ?l_law_nested ?c_law_nested ?k_law_nested (fun _ _ _ _ _ _ us hl => match us, hl with | [_, _, _], _ => rfl))
      (L2.def_mk KX G ?a_law_book ?l_law_book ?c_law_book ?k_law_book (fun _ _ _ _ _ _ us hl => match us, hl with | [_, _], _ => rfl))
      (L2.def_mk KX G ?a_is_whole ?l_is_whole ?c_is_whole ?k_is_whole (fun _ _ _ _ _ _ us hl => match us, hl with | [_], _ => rfl))
      (L2.def_mk KX G ?a_is_between ?l_is_between ?c_is_between ?k_is_between (fun _ _ _ _ _ _ us hl => match us, hl with | [_, _, _], _ => rfl))
      (L2.def_mk KX G ?a_has_way ?l_has_way ?c_has_way ?k_has_way (fun _ _ _ _ _ _ us hl => match us, hl with | [_, _], _ => rfl))
      (L2.def_mk KX G ?a_put_to ?l_put_to ?c_put_to ?k_put_to (fun _ _ _ _ _ _ us hl => match us, hl with | [_, _], _ => rfl))
      (L2.def_mk KX G ?a_leads_on ?l_leads_on ?c_leads_on ?k_leads_on (fun _ _ _ _ _ _ us hl => match us, hl with | [_, _], _ => rfl))
      (L2.def_mk KX G ?a_can_do ?l_can_do ?c_can_do ?k_can_do (fun _ _ _ _ _ _ us hl => match us, hl with | [_, _], _ => rfl))
      (L2.def_mk KX G ?a_behind ?l_behind ?c_behind ?k_behind (fun _ _ _ _ _ _ us hl => match us, hl with | [_, _, _], _ => rfl))
      (L2.def_mk KX G ?a_rooms_reached ?l_rooms_reached ?c_rooms_reached ?k_rooms_reached (fun _ _ _ _ _ _ us hl => match us, hl with | [_, _], _ => rfl))
      (L2.def_mk KX G ?a_common_divisor ?l_common_divisor ?c_common_divisor ?k_common_divisor (fun _ _ _ _ _ _ us hl => match us, hl with | [_], _ => rfl))
      (L2.def_mk KX G ?a_without_divisor ?l_without_divisor ?c_without_divisor ?k_without_divisor (fun _ _ _ _ _ _ us hl => match us, hl with | [_], _ => rfl))
      (L2.def_mk KX G ?a_first_numbers ?l_first_numbers ?c_first_numbers ?k_first_numbers (fun _ _ _ _ _ _ us hl => match us, hl with | [_, _], _ => rfl))
      (L2.defI2_mk KX G ?aC_Table__init ?mk_Table__init ?kc_Table__init ?a_Table__init ?i_Table__init ?l_Table__init ?c_Table__init ?k_Table__init ?t_Table__init (fun _ _ _ _ _ _ _ _ us hl => match us, hl with | [_, _, _], _ => ⟨_, rfl, rfl⟩) (fun _ _ _ _ _ _ _ _ us hl => match us, hl with | [_, _, _, _], _ => ⟨_, rfl, rfl⟩))
      (L2.defM_mk ?a_Table__without ?i_Table__without ?l_Table__without ?c_Table__without ?k_Table__without (fun _ _ _ _ _ _ us hl => match us, hl with | [_, _, _, _], _ => rfl))
      (L2.defM_mk ?a_Table__exchange ?i_Table__exchange ?l_Table__exchange ?c_Table__exchange ?k_Table__exchange (fun _ _ _ _ _ _ us hl => match us, hl with | [_, _, _], _ => rfl))
      (L2.defM_mk ?a_Table__rises ?i_Table__rises ?l_Table__rises ?c_Table__rises ?k_Table__rises (fun _ _ _ _ _ _ us hl => match us, hl with | [_, _], _ => rfl))
      (L2.defM_mk ?a_Table__place_to_raise ?i_Table__place_to_raise ?l_Table__place_to_raise ?c_Table__place_to_raise ?k_Table__place_to_raise (fun _ _ _ _ _ _ us hl => match us, hl with | [_, _], _ => rfl))
      (L2.defM_mk ?a_Table__comes_first ?i_Table__comes_first ?l_Table__comes_first ?c_Table__comes_first ?k_Table__comes_first (fun _ _ _ _ _ _ us hl => match us, hl with | [_, _, _, _], _ => rfl))
      (L2.defM_mk ?a_Table__row_to_free ?i_Table__row_to_free ?l_Table__row_to_free ?c_Table__row_to_free ?k_Table__row_to_free (fun _ _ _ _ _ _ us hl => match us, hl with | [_, _], _ => rfl))
      (L2.defM_mk ?a_Table__counts_by ?i_Table__counts_by ?l_Table__counts_by ?c_Table__counts_by ?k_Table__counts_by (fun _ _ _ _ _ _ us hl => match us, hl with | [_, _], _ => rfl))
      (L2.defM_mk ?a_Table__find_round ?i_Table__find_round ?l_Table__find_round ?c_Table__find_round ?k_Table__find_round (fun _ _ _ _ _ _ us hl => match us, hl with | [_, _], _ => rfl))
      (L2.defM_mk ?a_Table__shares ?i_Table__shares ?l_Table__shares ?c_Table__shares ?k_Table__shares (fun _ _ _ _ _ _ us hl => match us, hl with | [_, _], _ => rfl))
      (L2.defM_mk ?a_Table__as_sum ?i_Table__as_sum ?l_Table__as_sum ?c_Table__as_sum ?k_Table__as_sum (fun _ _ _ _ _ _ us hl => match us, hl with | [_, _], _ => rfl))
      (L2.defM_mk ?a_Table__counts_now ?i_Table__counts_now ?l_Table__counts_now ?c_Table__counts_now ?k_Table__counts_now (fun _ _ _ _ _ _ us hl => match us, hl with | [_], _ => rfl))
      (L2.def_mk KX G ?a_ways_met ?l_ways_met ?c_ways_met ?k_ways_met (fun _ _ _ _ _ _ us hl => match us, hl with | [_, _], _ => rfl))
      (L2.def_mk KX G ?a_not_met ?l_not_met ?c_not_met ?k_not_met (fun _ _ _ _ _ _ us hl => match us, hl with | [_], _ => rfl))
      (L2.def_mk KX G ?a_read_most ?l_read_most ?c_read_most ?k_read_most (fun _ _ _ _ _ _ us hl => match us, hl with | [_, _], _ => rfl))
      (L2.def_mk KX G ?a_how_often ?l_how_often ?c_how_often ?k_how_often (fun _ _ _ _ _ _ us hl => match us, hl with | [_, _, _], _ => rfl))
      (L2.def_mk KX G ?a_weighed ?l_weighed ?c_weighed ?k_weighed (fun _ _ _ _ _ _ us hl => match us, hl with | [_, _], _ => rfl))
      (L2.def_mk KX G ?a_fall ?l_fall ?c_fall ?k_fall (fun _ _ _ _ _ _ us hl => match us, hl with | [_, _, _], _ => rfl))
      (L2.def_mk KX G ?a_worth ?l_worth ?c_worth ?k_worth (fun _ _ _ _ _ _ us hl => match us, hl with | [_, _], _ => rfl))
      (L2.def_mk KX G ?a_law_asked ?l_law_asked ?c_law_asked ?k_law_asked (fun _ _ _ _ _ _ us hl => match us, hl with | [_, _], _ => rfl))
      (L2.def_mk KX G ?a_law_did ?l_law_did ?c_law_did ?k_law_did (fun _ _ _ _ _ _ us hl => match us, hl with | [_, _], _ => rfl))
      (L2.def_mk KX G ?a_law_some_walk ?l_law_some_walk ?c_law_some_walk ?k_law_some_walk (fun _ _ _ _ _ _ us hl => match us, hl with | [_, _, _], _ => rfl))
      (L2.def_mk KX G ?a_law_meet ?l_law_meet ?c_law_meet ?k_law_meet (fun _ _ _ _ _ _ us hl => match us, hl with | [_, _, _], _ => rfl))
      ?a4 ?l4 ?c4 ?k4
    (case aC_Table__init => k_is)
    (case z_isinstance => k_is)
    (case z_int => k_is)
    (case z_bool => k_is)
    (case z_str => k_is)
    (case z_tuple => k_is)
    (case z_len => k_is)
    (case z_all => k_is)
    (case z_sum => k_is)
    (case z_range => k_is)
    (case z_list => k_is)
    (case z_zip => k_is)
    (case z_enumerate => k_is)
    (case z_min => k_is)
    (case z_max => k_is)
    (case z_abs => k_is)
    (case z_repr => k_is)
    (case z_ValueError => k_is)
    (case a_law_tape => k_is)
    (case l_law_tape => k_is)
    (case c_law_tape => k_is)
    (case k_law_tape => k_is)
    (case a_law_draw => k_is)
    (case l_law_draw => k_is)
    (case c_law_draw => k_is)
    (case k_law_draw => k_is)
    (case a_law_gain => k_is)
    (case l_law_gain => k_is)
    (case c_law_gain => k_is)
    (case k_law_gain => k_is)
    (case a_law_gains => k_is)
    (case l_law_gains => k_is)
    (case c_law_gains => k_is)
    (case k_law_gains => k_is)
    (case a_law_nested => k_is)
    (case l_law_nested => k_is)
    (case c_law_nested => k_is)
    (case k_law_nested => k_is)
    (case a_law_book => k_is)
    (case l_law_book => k_is)
    (case c_law_book => k_is)
    (case k_law_book => k_is)
    (case a_is_whole => k_is)
    (case l_is_whole => k_is)
    (case c_is_whole => k_is)
    (case k_is_whole => k_is)
    (case a_is_between => k_is)
    (case l_is_between => k_is)
    (case c_is_between => k_is)
    (case k_is_between => k_is)
    (case a_has_way => k_is)
    (case l_has_way => k_is)
    (case c_has_way => k_is)
    (case k_has_way => k_is)
    (case a_put_to => k_is)
    (case l_put_to => k_is)
    (case c_put_to => k_is)
    (case k_put_to => k_is)
    (case a_leads_on => k_is)
    (case l_leads_on => k_is)
    (case c_leads_on => k_is)
    (case k_leads_on => k_is)
    (case a_can_do => k_is)
    (case l_can_do => k_is)
    (case c_can_do => k_is)
    (case k_can_do => k_is)
    (case a_behind => k_is)
    (case l_behind => k_is)
    (case c_behind => k_is)
    (case k_behind => k_is)
    (case a_rooms_reached => k_is)
    (case l_rooms_reached => k_is)
    (case c_rooms_reached => k_is)
    (case k_rooms_reached => k_is)
    (case a_common_divisor => k_is)
    (case l_common_divisor => k_is)
    (case c_common_divisor => k_is)
    (case k_common_divisor => k_is)
    (case a_without_divisor => k_is)
    (case l_without_divisor => k_is)
    (case c_without_divisor => k_is)
    (case k_without_divisor => k_is)
    (case a_first_numbers => k_is)
    (case l_first_numbers => k_is)
    (case c_first_numbers => k_is)
    (case k_first_numbers => k_is)
    (case mk_Table__init => k_is)
    (case kc_Table__init => k_is)
    (case a_Table__init => k_is)
    (case i_Table__init => k_is)
    (case l_Table__init => k_is)
    (case c_Table__init => k_is)
    (case k_Table__init => k_is)
    (case t_Table__init => k_is)
    (case a_Table__without => k_is)
    (case i_Table__without => k_is)
    (case l_Table__without => k_is)
    (case c_Table__without => k_is)
    (case k_Table__without => k_is)
    (case a_Table__exchange => k_is)
    (case i_Table__exchange => k_is)
    (case l_Table__exchange => k_is)
    (case c_Table__exchange => k_is)
    (case k_Table__exchange => k_is)
    (case a_Table__rises => k_is)
    (case i_Table__rises => k_is)
    (case l_Table__rises => k_is)
    (case c_Table__rises => k_is)
    (case k_Table__rises => k_is)
    (case a_Table__place_to_raise => k_is)
    (case i_Table__place_to_raise => k_is)
    (case l_Table__place_to_raise => k_is)
    (case c_Table__place_to_raise => k_is)
    (case k_Table__place_to_raise => k_is)
    (case a_Table__comes_first => k_is)
    (case i_Table__comes_first => k_is)
    (case l_Table__comes_first => k_is)
    (case c_Table__comes_first => k_is)
    (case k_Table__comes_first => k_is)
    (case a_Table__row_to_free => k_is)
    (case i_Table__row_to_free => k_is)
    (case l_Table__row_to_free => k_is)
    (case c_Table__row_to_free => k_is)
    (case k_Table__row_to_free => k_is)
    (case a_Table__counts_by => k_is)
    (case i_Table__counts_by => k_is)
    (case l_Table__counts_by => k_is)
    (case c_Table__counts_by => k_is)
    (case k_Table__counts_by => k_is)
    (case a_Table__find_round => k_is)
    (case i_Table__find_round => k_is)
    (case l_Table__find_round => k_is)
    (case c_Table__find_round => k_is)
    (case k_Table__find_round => k_is)
    (case a_Table__shares => k_is)
    (case i_Table__shares => k_is)
    (case l_Table__shares => k_is)
    (case c_Table__shares => k_is)
    (case k_Table__shares => k_is)
    (case a_Table__as_sum => k_is)
    (case i_Table__as_sum => k_is)
    (case l_Table__as_sum => k_is)
    (case c_Table__as_sum => k_is)
    (case k_Table__as_sum => k_is)
    (case a_Table__counts_now => k_is)
    (case i_Table__counts_now => k_is)
    (case l_Table__counts_now => k_is)
    (case c_Table__counts_now => k_is)
    (case k_Table__counts_now => k_is)
    (case a_ways_met => k_is)
    (case l_ways_met => k_is)
    (case c_ways_met => k_is)
    (case k_ways_met => k_is)
    (case a_not_met => k_is)
    (case l_not_met => k_is)
    (case c_not_met => k_is)
    (case k_not_met => k_is)
    (case a_read_most => k_is)
    (case l_read_most => k_is)
    (case c_read_most => k_is)
    (case k_read_most => k_is)
    (case a_how_often => k_is)
    (case l_how_often => k_is)
    (case c_how_often => k_is)
    (case k_how_often => k_is)
    (case a_weighed => k_is)
    (case l_weighed => k_is)
    (case c_weighed => k_is)
    (case k_weighed => k_is)
    (case a_fall => k_is)
    (case l_fall => k_is)
    (case c_fall => k_is)
    (case k_fall => k_is)
    (case a_worth => k_is)
    (case l_worth => k_is)
    (case c_worth => k_is)
    (case k_worth => k_is)
    (case a_law_asked => k_is)
    (case l_law_asked => k_is)
    (case c_law_asked => k_is)
    (case k_law_asked => k_is)
    (case a_law_did => k_is)
    (case l_law_did => k_is)
    (case c_law_did => k_is)
    (case k_law_did => k_is)
    (case a_law_some_walk => k_is)
    (case l_law_some_walk => k_is)
    (case c_law_some_walk => k_is)
    (case k_law_some_walk => k_is)
    (case a_law_meet => k_is)
    (case l_law_meet => k_is)
    (case c_law_meet => k_is)
    (case k_law_meet => k_is)
    (case a4 => k_is)
    (case l4 => k_is)
    (case c4 => k_is)
    (case k4 => k_is)
    (case pg_Table => k_is)
    (case hd_Table => k_is)
    (case po_Table => k_is)
    (case sa_Table => k_is)
    (case n0_Table => (unfold L2.NoAttr; k_is))
    (case n1_Table => (unfold L2.NoAttr; k_is))
    (case n2_Table => (unfold L2.NoAttr; k_is))
    (case n3_Table => (unfold L2.NoAttr; k_is))
    (case n4_Table => (unfold L2.NoAttr; k_is))
    (case n5_Table => (unfold L2.NoAttr; k_is))
    (case n6_Table => (unfold L2.NoAttr; k_is))
    (case er => kernel_rfl)
