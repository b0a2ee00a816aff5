import PyProof.Rows.All
import Wide.All
import OpenK.AllK
import Wide.FinOn
import Lean
import PyProof.EqAt
import PyProof.EqKinds
import PyProof.TupleCall
import KE.KTryMore
import OpenK.KOwn
import PyProof.Rows.CatchOwn
import PyProof.StrLawsTight
import PyProof.StrLawsJoin
import PyProof.ExcInit
import PyProof.ExcClass2
import PyProof.InstStore
import PyProof.AttrMissSeq
import PySem.Challenge.RW_fallsum_k35_sum_or_round
set_option Elab.async false
set_option linter.all false
set_option maxRecDepth 100000
section
open Or renaming inl->Qa,inr->Qw
open List renaming length_map->Qb,mem_cons->Qd,getElem?_eq_getElem->Qf,mem_cons_self->Qg,mem_cons_of_mem->Qh,getD_eq_getElem?_getD->Qi,getElem?_map->Qk,range->Qn,mem_map->Qo,mem_singleton->Qq,replicate->Qr,length_set->Qs,getElem?_eq_some_iff->Qt,map_map->Qy,map_cons->Qz,map_append->Q1,length_range->Q2,mem_append->Q4,getElem?_eq_none->Q7,getElem?_set_self->Q8,getElem?_set_ne->Q9,size_toArray->Xa,mem_of_getElem?->Xb,length_append->Xc,mem_append_right->Xh,mem_range->Xj,mem_append_left->Xk,nodup_cons->Xn,getElem_mem->Xp,getElem?_range->Xs,length_cons->Xu,ext_getElem?->X5,map_set->X6,mem_filter->X7,all_eq_true->X9,length_replicate->Ub,not_mem_nil->Uf,map_congr_left->Ug,length_eraseIdx_of_lt->Uh,getElem?_append_left->Up,length_singleton->Uq,mem_iff_getElem?->Ur,append_nil->Uu,lookup_cons->Uv,getElem?_replicate->U2,any_cons->U4,replicate_succ->U5,flatten_cons->U6,getElem?_append_right->J2m,getElem?_zipWith->J2q,map_replicate->J2r,lookup->J2v,map_nil->J2w,range_succ->J2y,mem_replicate->J2z,of_mem_zip->J3a,all_cons->J3b,cons_append->J3h,map_singleton->J3i,length->J3p,length_drop->J3q,foldl->J3s,map_drop->J3y,getElem?_set->J3z,nodup_append->J30,pairwise_map->J32,getElem?_eraseIdx->J35,length_take->J4d,nil_append->J4f,zipWith->J4i,map_take->J4j,sum_append->J4o,length_zipWith->J4q,drop_eq_getElem_cons->J4r,drop_length->J4s,pairwise_iff_getElem->J4v,take_add_one->J4x,take_length->J47,map_const'->J48,filterMap_cons->J5d,getElem_inj->J5e,foldl_cons->J5r,forIn_cons->J5v,getElem?_drop->J5w,forIn_nil->J56,length_pos_iff->J57,take_of_length_le->J6a,length_eq_zero_iff->J6b,getElem?_mapIdx->J6f,filter_cons_of_pos->J6g,filter_cons_of_neg->J6h,length_zip->J6k,set_set->J6m,pairwise_lt_range->J6n,sum_singleton->J6o,find?_cons_of_pos->J6q,find?_cons_of_neg->J6r,any_eq_true->J6s,zipWith_cons_cons->J6v,zip_cons_cons->J6w,zip->J63,filter_eq_nil_iff->J64,set_comm->J7c,mem_filterMap->J7d,any_eq_false->J7e,append_assoc->J7l,length_nil->J7o,mem_iff_getElem->J7q,drop_zero->J72,drop_of_length_le->J74,dropLast_concat_getLast->J75,length_mapIdx->J77,getLast?_eq_getElem?->J78,flatten_append->J79,foldl_append->J8e,find?_eq_none->J8g,find?_some->J8h,getElem?_of_mem->J8j,lookup_cons_self->J8k,map_eq_nil_iff->J8t,range_add->J8z,mem_of_mem_take->J80,map_zipWith->J83
open PySem.W renaming Frag->Qc,fnOf->X0,findIn->Uj,keepIn->Uk,kia_one->Uo,emptyDict->U1,instObj->J2k,codeIn->J2n,isFn->J3n,lookIn->J38,plainGet->J39,methodObj->J5c,hasDictIn->J5j,plainGet_of->J5k,takerIn->J5l,makesIn->J5m,kitOne->J5n,callWith_K->J5o,OpenLaw->J5u,nsIn->J53,mg_of->J54,handedIn->J7f,plainOver->J7g,kitx_list->J7h,kitx_dict->J7i,cellsFrom_some->J7j,WalkO->J7p
open Ne renaming symm->Qj
open Nat renaming le_refl->Ql,le_of_ble_eq_true->Q5,lt_of_lt_of_le->Xd,lt_irrefl->Xf,ne_of_lt->Xg,le_trans->Xl,zero_le->Xr,lt_or_ge->Ud,le_of_lt->Uz,gcd->J22,le_of_not_lt->J3c,lt_of_le_of_lt->J3d,le_add_right->J3f,not_lt_zero->J3g,ne_of_gt->J3l,le_succ_of_le->J31,le_of_eq->J4a,lt_succ_self->J4b,lt_succ_of_lt->J4h,min_le_left->J4u,mul_succ->J41,pow_le_pow_right->J43,two_pow_pos->J44,le_succ->J5p,mul_comm->J5s,log2_lt->J5x,le_total->J58,min_eq_left->J59,le_of_succ_le->J6d,sub_self->J6l,lt_succ_iff_lt_or_eq->J6t,lt_trichotomy->J6x,lt_of_succ_lt->J62,min_eq_right->J73,mul_le_mul->J8n,add_mul_mod_self_left->J8p,mod_eq_of_lt->J8q,dvd_trans->J8w
open PySem renaming Spec->Qm,mem_of_lookup->Xo,boot_len->Xy,Within->J5b,call->J5t,seqSlot_of->J5y,PyData->J9i,Value->J9j,Shared->J9k,wpAny->J9l,World->J9m,Program->J9n,Around->J9o,sizeLine_eq->J9p,Scope->J9q,IsPair->J9r,NameKind->J9s,mainGlobals->J9t,codeAny->J9u,FuncData->J9v,IsZip->J9w,sysModules->J9y,standAt->J90,cLine->J91,wpAny_loadPart'->J92,Result->J94,Keyword->J95,wpAny_passesOwn->J97,wpAny_Call_Name_kw->J98,callerA->J99,wpAny_ite_false->Yaa,seqItems?->Yab,bootBuiltins->Yac,swapsWith->Yad,attributeBase->Yae,BindsTo->Yaf,bindArgs->Yag,closureFor->Yai,codeAny_builtin->Yaj,builtinsNs->Yal,Operator->Yam,foldedSetIterable->Yan,wpAny_execs_nil->Yao,wpAny_pyIter_tuple->Yap,behindInMarks->Yaq,wpAny_callSpecial?_slot->Yar,wpAny_assign_Name->Yas,rangeSize_one->Yat,seqIndex_neg->Yau,typeLookup_type->Yav,builtinLookup_eq_fast->Yaw,wpAny_binaryOp_repeat_ref->Yay,codeAny_compStart_list->Yaz,exec_Assign_Name_used->Ya0
open PySem.PyData renaming int->Qp,list->X4,eqv->X8,canLay0->Ue,tuple->Ux,canLayAll0->J2x,depth->J21,bool->J6e,depthAll->J6p,eqvAll->J8f
open PySem.Heap renaming get?_push_of_some->Qu,lt_size->Qv,get?_push_size->Xe,SameBut->Xw,size_push->Xz,get?_update_other->U3,get?_update_self->J4e
open Sum renaming inl->Qx,inr->Ui
open Int renaming toNat_natCast->Q0,natCast_nonneg->Xq,mul_zero->Xv,mul_comm->Xx,zero_mul->X1,toNat_of_nonneg->X3,one_mul->Uy,mul_left_comm->U7,mul_assoc->U8,emod_nonneg->J2s,zero_add->J20,emod_lt_of_pos->J24,le_refl->J3j,natAbs_of_nonneg->J3w,mul_add->J34,lt_or_le->J4p,toNat->J4y,neg_mul->J4z,mul_neg->J40,sub_zero->J42,nonneg_of_mul_nonneg_right->J45,pos_of_mul_pos_right->J46,mul_one->J5h,natCast_mul->J50,add_zero->J6y,ne_of_gt->J6z,sub_mul->J60,eq_of_mul_eq_mul_left->J8l,natAbs_mul->J8m,mul_nonpos_of_nonpos_of_nonneg->J8o,natAbs_neg->J8v,ofNat_dvd_left->J8x
open PySem.Value renaming ref->Q3,int->Us,none->Ut,type->U9,str->J27,bool->J28,float->J49,isInt->J65,isStrOf->J66,bytes->J69
open Bool renaming false_ne_true->Q6,and_eq_true->Uc,eq_iff_iff->J2l,false_eq_true->J3v,false_and->J37,or_false->J4w,or_eq_true->J6c,true_and->J6j,and_false->J7m,noConfusion->J7u,or_true->J76,true_or->J81,false_or->J82
open Option.some renaming inj->Xi
open PySem.PassesOwn renaming never->Xm
open Option renaming some_ne_none->Xt,map_eq_some_iff->X2
open False renaming elim->Ua
open PySem.NameKind renaming free->Ul,cell->Uw
open True renaming intro->Um
open PyProof.Rows renaming callWith_type1->U0,boot_tuple->J9x,AllBare->J9z,boot_list->J93,boot_isinstance->J96,IntsAre->Yah,boot_int->Yak,subscriptTail_builtinR->Yax
open PySem.AutoSeq1 renaming wpAny_loadPart'->J2o,idx_int->J5z
open PySem.Builtin.SmallTypes renaming nextOf->J2p,ownedTupleIsFree->J4m,ownedTupleHandOut->J7z
open PySem.F renaming plainAttrs_list->J2t,plain_min_loop->J23,slot_list_append->J25,type_list_append->J26,slot_tuple_mul->J3x,slot_tuple_iterator_next->J4l,slot_zip_next->J4n,entry_tuple_mul->J51,args_tuple_mul_2->J52,slot_list_getattribute->J6u,entry_min_loop->J61,slot_int_rmul->J7n,slot_tuple_rmul->J7r,slot_int_rmul->J7t,entry_tuple_iterator_next->J7x,args_tuple_iterator_next_1->J7y,entry_zip_next->J70,args_zip_next_1->J71,slot_dict_setdefault->J8a,plainAttrs_dict->J8b,slot_dict_values->J8c,slot_tuple_lt->J8r,slot_list_iadd->J8u
open Classical renaming propDecidable->J2u,byContradiction->J3k
open PySem.Calls renaming spliced_cons->J29,spliced_nil->J3o,callWith_builtin->J5q,Name_function_global->J7a,evalArgs_plain->J7k
open ForInStep renaming yield->J3e
open PySem.Data renaming cell->J3m,seq->J3u,fields->J5g
open PySem.Obj renaming mapSeq->J3r,data_mapFields->J7v
open PySem.Builtin.List renaming listTooLong->J3t
open PySem.Around renaming under_plainId->J33,under->J4c
open Sum.inl renaming inj->J36
open Eq renaming trans->J4g
open PySem.Str renaming ofString->J4k
open PySem.Builtin.Int renaming intBits->J4t
open PySem.Paired renaming length->J5a
open Array renaming length_toList->J5f,toList->J7b
open PySem.IsRange renaming new->J5i
open PySem.Shared renaming heap->J55
open PySem.SeqAt renaming eqv_refl->J6i
open PySem.SeqAt.EqAt renaming int_str->J67,str_int->J68
open PySem.Builtin.Tuple renaming tupleTooMany->J7s
open PySem.Heap.SameBut renaming update->J7w
open Nat.succ renaming inj->J8d
open List.Pairwise renaming imp_of_mem->J8i,nil->J9f,filter->J9g
open PySem.Builtin.Builtins renaming bindParams->J8s
open PySem.BindsTo renaming of_defaults->J8y
open PySem.Builtin.Range renaming rangeSize->J84
open PySem.EqMixed renaming eq_bool_str->J85,eq_int_str->J86,eq_str_bool->J87,eq_str_int->J88,ne_bool_str->J89,ne_int_str->J9a,ne_str_bool->J9b,ne_str_int->J9c
open PySem.W.Looks renaming here->J9d
open PySem.Heap.IsSliceOf renaming new->J9e
open PySem.Challenge renaming pw_fallsum_k35_sum_or_round->J9h
open PySem PySem.Spec PyProof.Rows
namespace L2
abbrev Key:=Sum Int Str
noncomputable def Ji4:Key->J9j->Bool
 | .inl k,v=>J65 k v
 | .inr x,v=>J66 x v
noncomputable def J1l (w:J9m):Key->Int
 | .inl k=>hashInt k
 | .inr x=>hashStr w x
theorem Zi:∀ {k:Key}{v:J9j},Ji4 k v=true->(∃ i t,k=Qx i/\v=Us i t)\/(∃ x t,k=Ui x/\v=J27 x t)
 | .inl i,v,h=>by
  obtain ⟨t,e⟩:=Value.isInt_shape (k:=i) (v:=v) h
  exact .inl ⟨i,t,rfl,e⟩
 | .inr x,v,h=>by
  obtain ⟨t,e⟩:=Value.isStrOf_shape (x:=x) (v:=v) h
  exact .inr ⟨x,t,rfl,e⟩
theorem Jqf (i:Int) (t:Tok):Ji4 (.inl i) (.int i t)=true:=by simp [Ji4,J65]
theorem Jqg (x:Str) (t:Tok):Ji4 (.inr x) (.str x t)=true:=by simp [Ji4,J66]
theorem Jx3 (a b:Int):decide ((Qx a:Key)=Qx b)=(a==b):=by
 by_cases e:a=b
 . subst e;simp
 . have h:¬ (Qx a:Key)=Qx b:=λ q=>e (J36 q)
   rw [decide_eq_false h]
   exact (beq_eq_false_iff_ne.mpr e).symm
theorem Jx4 (a b:Str):decide ((Ui a:Key)=Ui b)=decide (a=b):=by
 by_cases e:a=b
 . subst e;simp
 . have h:¬ (Ui a:Key)=Ui b:=λ q=>e (Ui.inj q)
   rw [decide_eq_false h,decide_eq_false e]
theorem Jx5 (a:Int) (b:Str):decide ((Qx a:Key)=Ui b)=false:=decide_eq_false (λ q=>nomatch q)
theorem Jx6 (a:Str) (b:Int):decide ((Ui a:Key)=Qx b)=false:=decide_eq_false (λ q=>nomatch q)
noncomputable def Zp (prog:J9n) (w:J9m):PySem.KeyKind prog w Key where
 is:=Ji4
 hash:=J1l w
 inj:=λ v a b ha hb=>by
  rcases Zi ha with ⟨i,t,rfl,rfl⟩ | ⟨x,t,rfl,rfl⟩
  . rcases Zi hb with ⟨j,u,rfl,e⟩ | ⟨y,u,rfl,e⟩
    . injection e with e1 _;rw [e1]
    . exact nomatch e
  . rcases Zi hb with ⟨j,u,rfl,e⟩ | ⟨y,u,rfl,e⟩
    . exact nomatch e
    . injection e with e1 _;rw [e1]
 byValue:=λ k v h=>by
  rcases Zi h with ⟨i,t,rfl,rfl⟩ | ⟨x,t,rfl,rfl⟩<;>rfl
 pyHash:=λ hv h=>by
  rcases Zi hv with ⟨i,t,rfl,rfl⟩ | ⟨x,t,rfl,rfl⟩
  . exact wpAny_pyHash_int h
  . exact wpAny_pyHash_str h
 eqBool:=λ hu hv h=>by
  rcases Zi hu with ⟨i,t,rfl,rfl⟩ | ⟨x,t,rfl,rfl⟩
  . rcases Zi hv with ⟨j,u,rfl,rfl⟩ | ⟨y,u,rfl,rfl⟩
    . rw [Jx3] at h;exact wpAny_eqBool_int h
    . rw [Jx5] at h;exact J67 i t y u _ _ _ _ h
  . rcases Zi hv with ⟨j,u,rfl,rfl⟩ | ⟨y,u,rfl,rfl⟩
    . rw [Jx6] at h;exact J68 x t j u _ _ _ _ h
    . rw [Jx4] at h;exact wpAny_eqBool_str h
 «strs»:=λ k x t v h=>by
  rcases Zi h with ⟨i,u,rfl,e⟩ | ⟨y,u,rfl,e⟩
  . exact nomatch e
  . injection e with e1 _
    subst e1
    cases v<;>rfl
theorem Jlm (prog:J9n) (w:J9m) (i:Int) (t:Tok):(Zp prog w).is (.inl i) (.int i t)=true:=Jqf i t
theorem Jln (prog:J9n) (w:J9m) (x:Str) (t:Tok):(Zp prog w).is (.inr x) (.str x t)=true:=Jqg x t
inductive V where
 | non | bl (b:Bool) | int (i:Int) | str (x:Str) | byt (b:Array UInt8) | flt (b:UInt64) | ref (a:Addr) | ty (n:String)
 deriving DecidableEq
def Yl:V->J9j->Prop
 | .non,u=>u=Ut
 | .bl b,u=>u=J28 b
 | .int i,u=>∃ t,u=Us i t
 | .str x,u=>∃ t,u=J27 x t
 | .byt b,u=>∃ t,u=J69 b t
 | .flt b,u=>∃ t,u=J49 b t
 | .ref a,u=>u=Q3 a
 | .ty n,u=>u=U9 n
abbrev Yb:List V->List J9j->Prop:=Paired Yl
theorem Yb.length {xs:List V}{us:List J9j}(r:Yb xs us):xs.length=us.length:=J5a r
theorem Yb.get:∀ {xs:List V}{us:List J9j}{i:Nat}{x:V},Yb xs us->xs[i]? = some x->∃ u,us[i]? = some u/\Yl x u
 | _,_,_,_,.nil,e=>by simp at e
 | _,_,0,_,.cons r _,e=>by simp at e;subst e;exact ⟨_,rfl,r⟩
 | _,_,i+1,x,.cons _ t,e=>by
  obtain ⟨u,h1,h2⟩:=Yb.get (i:=i) (x:=x) t (by simpa using e)
  exact ⟨u,by simpa using h1,h2⟩
theorem Yb.set {x:V}{u:J9j}(r:Yl x u):∀ {xs:List V}{us:List J9j}(i:Nat),Yb xs us->Yb (xs.set i x) (us.set i u)
 | _,_,_,.nil=>.nil
 | _,_,0,.cons _ t=>.cons r t
 | _,_,i+1,.cons q t=>.cons q (Yb.set r i t)
theorem Yb.append:∀ {xs ys:List V}{us ws:List J9j},Yb xs us->Yb ys ws->Yb (xs++ys) (us++ws)
 | _,_,_,_,.nil,s=>s
 | _,_,_,_,.cons r t,s=>.cons r (Yb.append t s)
theorem Yb.take:∀ {xs:List V}{us:List J9j}(n:Nat),Yb xs us->Yb (xs.take n) (us.take n)
 | _,_,0,_=>.nil
 | _,_,_+1,.nil=>.nil
 | _,_,n+1,.cons r t=>.cons r (Yb.take n t)
theorem Yb.drop:∀ {xs:List V}{us:List J9j}(n:Nat),Yb xs us->Yb (xs.drop n) (us.drop n)
 | _,_,0,r=>r
 | _,_,_+1,.nil=>.nil
 | _,_,n+1,.cons _ t=>Yb.drop n t
def Jbv:Option V->Option J9j->Prop
 | some v,some u=>Yl v u
 | none,none=>True
 | _,_=>False
def KV {κ:Type}:List (κ×V)->List (κ×J9j)->Prop:=Paired λ (p:κ×V) (q:κ×J9j)=>p.1=q.1/\Yl p.2 q.2
noncomputable def kV:Key->V
 | .inl i=>.int i
 | .inr x=>.str x
inductive HO where
 /-- a list -/
 | lst (xs:List V)
 /-- a tuple (never changes) -/
 | tup (xs:List V)
 /-- a dict whose keys are ints and texts;one whose keys are tuples of ints and texts (the empty one is both) -/
 | dK (kvs:List (Key×V)) | dT (kvs:List (List Key×V))
 /-- a set of ints: its members,its size -/
 | set (S:Int->Bool) (n:Nat)
 /-- an instance of the class at C,its dict at dx,its attributes -/
 | ins (C dx:Addr) (fs:List (Str×V))
 /-- the dict of the instance at x -/
 | own (x:Addr)
 /-- the dict of an exception -/
 | xd (fs:List (Str×V))
 /-- a bound method,f of x -/
 | met (f x:Addr)
 /-- a range object lo,lo+1,.. below hi -/
 | rng (lo hi:Int)
 /-- a thing that is known to the object (the script;a dict while a loop walks it): read,never written while it is so -/
 | frz (o:Obj) (u:HO)
 /-- a code object's table -/
 | tbl (ps:Array J9j)
 /-- any other thing,by what is true of its one object (a def of one's own: SetO a S n:=HO.ext λ h=>..) -/
 | ext (φ:Heap->Prop)
abbrev Hp:=Addr->Option HO
noncomputable def upd (H:Hp) (a:Addr) (o:HO):Hp:=λ b=>if b=a then some o else H b
theorem Jg {H:Hp}{a:Addr}{o:HO}:upd H a o a=some o:=by unfold upd;rw [if_pos rfl]
theorem Jf {H:Hp}{a b:Addr}{o:HO}(h:b≠a):upd H a o b=H b:=by unfold upd;rw [if_neg h]
theorem Jga {H:Hp}{a:Addr}{o u:HO}:upd (upd H a o) a u=upd H a u:=by
 funext b;unfold upd;split<;>rfl
theorem Jw2 {H:Hp}{a b:Addr}{o u:HO}(h:H a=some o) (h':H b=some u) (d:o≠u):a≠b:=by
 intro e;subst e;rw [h] at h';exact d (Xi h')
theorem Jn {H:Hp}{a b:Addr}{o:HO}(h:H a=some o) (h':H b=none):a≠b:=by
 intro e;subst e;rw [h] at h';cases h'
section
variable (P:J9n) (w:J9m)
def Yw (H:Hp) (h:Heap) (a:Addr):HO->Prop
 | .lst xs=>xs.length<=sizeLine/\∃ (its:List J9j) (n:Nat),Yb xs its/\h.get? a=some { cls:=.type "list",data:=.seq its.toArray n }
 | .tup xs=>xs.length<=sizeLine/\∃ its:List J9j,Yb xs its/\IsTup h a its.toArray
 | .dK kvs=>kvs.length<=sizeLine/\(a==J9y)=false/\∃ vs,KV kvs vs/\h.DictOf (Zp P w) a vs
 | .dT kvs=>kvs.length<=sizeLine/\(a==J9y)=false/\∃ xs:List (List Key×Addr×J9j),
  Paired (λ (p:List Key×V) (q:List Key×Addr×J9j)=>p.1=q.1/\H q.2.1=some (.tup (p.1.map kV))/\Yl p.2 q.2.2) kvs xs /\
  ∃ o es ep,h.get? a=some o/\o.ExactDict/\o.data = .dict es ep/\es.toList=xs.map (entryOfKey (tupleKind (Zp P w)))/\(xs.map (·.1)).Nodup
 | .set S n=>h.SetOf (intKind P w) a S n
 | .ins C dx fs=>H dx=some (.own a)/\fs.length<=1000/\dx≠a/\h.get? a=some (J2k C dx) /\
  ∃ mA,h.Ns1 dx mA/\(∀ f,Jbv (fs.lookup f) (mA f))/\J5b mA (fs.map (·.1))
 | .own _=>∃ o,h.get? a=some o
 | .xd fs=>∃ mA,h.Ns1 a mA/\∀ f,Jbv (fs.lookup f) (mA f)
 | .rng lo hi=>∃ t u v,h.get? a=some { cls:=.type "range",data:=.fields #[.int lo t,.int hi u,.int 1 v] }
 | .frz o u=>h.get? a=some o/\Yw H h a u
 | .tbl ps=>h.get? a=some { cls:=.none,data:=.fields ps }
 | .met f x=>h.get? a=some (J5c (.ref f) (.ref x))
 | .ext φ=>φ h/\(∃ o,h.get? a=some o)/\∀ h1 h2:Heap,φ h1->(∀ o,h1.get? a=some o->h2.get? a=some o)->φ h2
def HOk (H:Hp) (h:Heap):Prop:=∀ a o,H a=some o->Yw P w H h a o
end
section
variable {P:J9n}{w:J9m}{H H':Hp}{h h':Heap}{a:Addr}{o:HO}
theorem Yw.lt (x:Yw P w H h a o):a<h.objs.size:=by
 cases o with
 | lst xs=>obtain ⟨_,_,_,_,e⟩:=x;exact Qv e
 | tup xs=>obtain ⟨_,_,_,p⟩:=x;exact p.lt
 | dK kvs=>obtain ⟨_,_,_,_,o,_,_,e,_⟩:=x;exact Qv e
 | dT kvs=>obtain ⟨_,_,_,_,o,_,_,e,_⟩:=x;exact Qv e
 | set S n=>obtain ⟨o,_,_,_,e,_⟩:=x;exact Qv e
 | ins C dx fs=>obtain ⟨_,_,_,e,_⟩:=x;exact Qv e
 | own y=>obtain ⟨_,e⟩:=x;exact Qv e
 | xd fs=>obtain ⟨_,⟨_,_,_,e,_⟩,_⟩:=x;exact Qv e
 | rng lo hi=>obtain ⟨_,_,_,e⟩:=x;exact Qv e
 | frz ob u=>obtain ⟨e,_⟩:=x;exact Qv e
 | tbl ps=>exact Qv (show h.get? a=some _ from x)
 | met f y=>exact Qv (show h.get? a=some _ from x)
 | ext φ=>obtain ⟨_,⟨_,e⟩,_⟩:=x;exact Qv e
theorem Paired.mapP {α β:Type}{F G:α->β->Prop}:∀ {l₁:List α}{l₂:List β},Paired F l₁ l₂->(∀ a b,F a b->G a b)->Paired G l₁ l₂
 | _,_,.nil,_=>.nil
 | _,_,.cons r t,f=>.cons (f _ _ r) (Paired.mapP t f)
theorem Yw.stay (x:Yw P w H h a o) (k:∀ b u,(b=a\/H b=some (.own a))->h.get? b=some u->h'.get? b=some u)
 (ho:∀ b,H b=some (.own a)->H' b=some (.own a)) (ht:∀ b xs,H b=some (.tup xs)->H' b=some (.tup xs)):Yw P w H' h' a o:=by
 induction o with
 | lst xs=>obtain ⟨z,its,n,r,e⟩:=x;exact ⟨z,its,n,r,k _ _ (.inl rfl) e⟩
 | tup xs=>obtain ⟨z,its,r,ob,e,c⟩:=x;exact ⟨z,its,r,ob,k _ _ (.inl rfl) e,c⟩
 | dK kvs=>obtain ⟨z,y,vs,r,ob,es,ep,e,c⟩:=x;exact ⟨z,y,vs,r,ob,es,ep,k _ _ (.inl rfl) e,c⟩
 | dT kvs=>
  obtain ⟨z,y,xs,r,ob,es,ep,e,c⟩:=x
  exact ⟨z,y,xs,Paired.mapP r λ p q z=>⟨z.1,ht _ _ z.2.1,z.2.2⟩,ob,es,ep,k _ _ (.inl rfl) e,c⟩
 | set S n=>obtain ⟨ob,es,ep,t,e,c⟩:=x;exact ⟨ob,es,ep,t,k _ _ (.inl rfl) e,c⟩
 | ins C dx fs=>
  obtain ⟨d,z,ne,e,mA,⟨od,es,ep,e2,c⟩,r⟩:=x
  exact ⟨ho _ d,z,ne,k _ _ (.inl rfl) e,mA,⟨od,es,ep,k _ _ (.inr d) e2,c⟩,r⟩
 | own y=>obtain ⟨ob,e⟩:=x;exact ⟨ob,k _ _ (.inl rfl) e⟩
 | xd fs=>obtain ⟨mA,⟨od,es,ep,e,c⟩,r⟩:=x;exact ⟨mA,⟨od,es,ep,k _ _ (.inl rfl) e,c⟩,r⟩
 | rng lo hi=>obtain ⟨t,u,v,e⟩:=x;exact ⟨t,u,v,k _ _ (.inl rfl) e⟩
 | frz ob u ih=>obtain ⟨e,q⟩:=x;exact ⟨k _ _ (.inl rfl) e,ih q⟩
 | tbl ps=>
  have e:h.get? a=some { cls:=.none,data:=.fields ps }:=x
  show h'.get? a=some { cls:=.none,data:=.fields ps }
  exact k a _ (.inl rfl) e
 | met f y=>
  have e:h.get? a=some (J5c (.ref f) (.ref y)):=x
  show h'.get? a=some (J5c (.ref f) (.ref y))
  exact k a _ (.inl rfl) e
 | ext φ=>obtain ⟨p,⟨o,e⟩,st⟩:=x;exact ⟨st _ _ p λ o q=>k _ _ (.inl rfl) q,⟨o,k _ _ (.inl rfl) e⟩,st⟩
theorem HOk.lt (x:HOk P w H h) (e:H a=some o):a<h.objs.size:=(x a o e).lt
theorem HOk.fresh (x:HOk P w H h) (e:h.objs.size<=a):H a=none:=by
 cases q:H a with
 | none=>rfl
 | some u=>exact absurd (Xd (x.lt q) e) (Xf _)
theorem HOk.kept (x:HOk P w H h) (k:∀ b u,h.get? b=some u->h'.get? b=some u):HOk P w H h':=λ a o e=>
 (x a o e).stay (λ b u _ q=>k b u q) (λ _ q=>q) λ _ _ q=>q
theorem HOk.laid (x:HOk P w H h) (k:∀ b u,h.get? b=some u->h'.get? b=some u) (hp:h.objs.size<=a) (new:Yw P w (upd H a o) h' a o):HOk P w (upd H a o) h':=λ b u e=>by
 have hn:=x.fresh hp
 by_cases hb:b=a
 . subst hb;rw [Jg] at e;cases e;exact new
 . rw [Jf hb] at e
   exact (x b u e).stay (λ c v _ q=>k c v q) (λ c q=>by rw [Jf (Jn q hn)];exact q) λ c xs q=>by rw [Jf (Jn q hn)];exact q
end
def Rd (H:Hp) (a:Addr) (u:HO):Prop:=H a=some u\/∃ o,H a=some (.frz o u)
theorem Rd.ok {P:J9n}{w:J9m}{H:Hp}{h:Heap}{a:Addr}{u:HO}(r:Rd H a u) (x:HOk P w H h):Yw P w H h a u:=by
 rcases r with r | ⟨o,r⟩
 . exact x a u r
 . obtain ⟨_,q⟩:=x a _ r
   exact q
def Mut:Option HO->Prop
 | some (.lst _)=>True
 | some (.dK _)=>True
 | some (.dT _)=>True
 | some (.set _ _)=>True
 | some (.ins _ _ _)=>True
 | some (.ext _)=>True
 | _=>False
section
variable {P:J9n}{w:J9m}{H:Hp}{h h':Heap}{x e:Addr}{o':HO}
theorem HOk.write (ok:HOk P w H h) (mu:Mut (H x)) (he:e=x\/H e=some (.own x)) (k:∀ b u,b≠e->h.get? b=some u->h'.get? b=some u) (heo:∃ u,h'.get? e=some u)
 (new:Yw P w (upd H x o') h' x o'):HOk P w (upd H x o') h':=λ b u q=>by
 have nown:∀ c y,H c=some (.own y)->c≠x:=λ c y r z=>by subst z;rw [r] at mu;exact mu
 have ntup:∀ c xs,H c=some (.tup xs)->c≠x:=λ c xs r z=>by subst z;rw [r] at mu;exact mu
 by_cases hb:b=x
 . subst hb;rw [Jg] at q;cases q;exact new
 . rw [Jf hb] at q
   by_cases hbe:b=e
   . have q':H b=some (.own x):=by
      rcases he with z | z
      . exact absurd (hbe.trans z) hb
      . rw [hbe];exact z
     rw [q] at q';cases q'
     obtain ⟨v,hv⟩:=heo
     exact ⟨v,by rw [hbe];exact hv⟩
   . refine (ok b u q).stay (λ c v hc r=>k c v ?_ r) (λ c r=>by rw [Jf (nown c b r)];exact r) λ c xs r=>by rw [Jf (ntup c xs r)];exact r
     rcases hc with rfl | hc
     . exact hbe
     . rintro rfl
       rcases he with z | z
       . exact nown c b hc z
       . rw [hc] at z;cases z;exact hb rfl
end
structure Un (fs ex:List Addr) (H H':Hp) (h h':Heap):Prop where
 keep:∀ b o,h.get? b=some o->H b=none->b∉fs->b∉ex->h'.get? b=some o
 slot:∀ b o,h.get? b=some o->H b=none->b∈fs->b∉ex->∃ sl,h'.get? b=some { o with slots:=sl }
 free:∀ b o,h.get? b=some o->H b=none->b∉ex->H' b=none
 there:∀ b o,h.get? b=some o->b∉ex->∃ o',h'.get? b=some o'
 tups:∀ b xs,H b=some (.tup xs)->H' b=some (.tup xs)
 frzs:∀ b o u,H b=some (.frz o u)->H' b=some (.frz o u)
 tbls:∀ b ps,H b=some (.tbl ps)->∃ more,H' b=some (.tbl (ps++more))
section
variable {fs fs' ex ex':List Addr}{H H1 H2:Hp}{h h1 h2 h':Heap}{a x e:Addr}{o:HO}
theorem Un.any (u:Un fs ex H H1 h h1) {b:Addr}{ob:Obj}(q:h.get? b=some ob) (n:H b=none) (hx:b∉ex):∃ sl,h1.get? b=some { ob with slots:=sl }:=by
 by_cases hb:b∈fs
 . exact u.slot b ob q n hb hx
 . exact ⟨ob.slots,u.keep b ob q n hb hx⟩
theorem Un.kept (k:∀ b u,h.get? b=some u->h'.get? b=some u):Un fs ex H H h h':=
 ⟨λ b ob q _ _ _=>k b ob q,λ b ob q _ _ _=>⟨ob.slots,k b ob q⟩,λ _ _ _ n _=>n,λ b ob q _=>⟨ob,k b ob q⟩,λ _ _ q=>q,λ _ _ _ q=>q,λ _ ps q=>⟨#[],by rw [q];simp⟩⟩
theorem Un.refl:Un fs ex H H h h:=Un.kept λ _ _ q=>q
theorem Un.laid (k:∀ b u,h.get? b=some u->h'.get? b=some u) (hp:h.objs.size<=a) (hn:H a=none):Un fs ex H (upd H a o) h h' where
 keep:=λ b u q _ _ _=>k b u q
 slot:=λ b u q _ _ _=>⟨u.slots,k b u q⟩
 free:=λ b u q n _=>by rw [Jf (Xg (Xd (Qv q) hp))];exact n
 there:=λ b u q _=>⟨u,k b u q⟩
 tups:=λ b xs q=>by rw [Jf (Jn q hn)];exact q
 frzs:=λ b u xs q=>by rw [Jf (Jn q hn)];exact q
 tbls:=λ b ps q=>⟨#[],by rw [Jf (Jn q hn),q];simp⟩
theorem Un.write (mu:Mut (H x)) (he:e=x\/H e=some (.own x)) (k:∀ b u,b≠e->h.get? b=some u->h'.get? b=some u) (heo:∃ u,h'.get? e=some u):Un fs ex H (upd H x o) h h':=by
 have hx:∀ b,H b=none->b≠x:=λ b n z=>by subst z;rw [n] at mu;exact mu
 have hb:∀ b,H b=none->b≠e:=λ b n z=>by
  subst z
  rcases he with r | r
  . exact hx b n r
  . rw [n] at r;cases r
 have hm:∀ b u,H b=some u->¬ Mut (some u)->b≠x:=λ b u q nm z=>by subst z;rw [q] at mu;exact nm mu
 refine ⟨λ b u q n _ _=>k b u (hb b n) q,λ b u q n _ _=>⟨u.slots,k b u (hb b n) q⟩,λ b u q n _=>by rw [Jf (hx b n)];exact n,λ b u q _=>?_,
  λ b xs q=>by rw [Jf (hm b _ q λ z=>z)];exact q,λ b u xs q=>by rw [Jf (hm b _ q λ z=>z)];exact q,λ b ps q=>⟨#[],by rw [Jf (hm b _ q λ z=>z),q];simp⟩⟩
 by_cases hbe:b=e
 . subst hbe;exact heo
 . exact ⟨u,k b u hbe q⟩
end
noncomputable def trk (h:Heap) (H:Hp):List Addr:=(Qn h.objs.size).filter λ a=>(H a).isSome
noncomputable def Jjy (h:Heap) (H:Hp):Heap:=PySem.W.hideAll h (trk h H)
theorem Jqh (h:Heap) (H:Hp):(Jjy h H).objs.size=h.objs.size:=PySem.W.hideAll_size _ _
theorem Jrp {h:Heap}{H:Hp}{b:Addr}{o:Obj}(e:h.get? b=some o) (n:H b=none):(Jjy h H).get? b=some o:=
 PySem.W.hideAll_get _ e λ hm=>by
  have q:(H b).isSome=true:=(X7.mp hm).2
  rw [n] at q;simp at q
theorem Ju1 {h:Heap}{H:Hp}{b:Addr}{o:Obj}(e:(Jjy h H).get? b=some o):h.get? b=some o/\H b=none:=by
 have e':h.get? b=some o:=PySem.W.of_hideAll (trk h H) e
 refine ⟨e',?_⟩
 cases q:H b with
 | none=>rfl
 | some x=>
  have hm:b∈trk h H:=X7.mpr ⟨Xj.mpr (Qv e'),by simp [q]⟩
  have z:(Jjy h H).get? b=none:=PySem.W.hideAll_none (trk h H) hm
  rw [z] at e;cases e
noncomputable def Ju2 (g h:Heap) (L:Addr):List (Addr×Obj):=(Qn h.objs.size).filterMap λ a=>if a=L\/(g.get? a).isSome=true then none else (h.get? a).map λ o=>(a,o)
noncomputable def rest (g h:Heap) (L d:Addr):List (Addr×Obj):=(Ju2 g h L).filter λ p=>decide (p.1≠d)
structure Mod (K:Qc) (mg:Str->Option J9j) (base:Heap):Prop where
 kin:K.In base
 glob:base.Ns J9t mg
 blt:∃ mb,base.Ns Yal mb/\∀ x:Str,x≠"__name__"->mb x=Yac x
 nolimit:base.NoLimit
structure Cx where
 prog:J9n
 w:J9m
 K:Qc
 mg:Str->Option J9j
 base:Heap
 A:J9o
 N:List Str
 s₀:J9k
 H₀:Hp
 env:Env
 outer:List Env
 stack:List Env
 ex:List Addr
 fn:Str->Bool
 calm:Bool
 pn:List (Addr×Obj)
 xe:J9j->J9k->Prop
noncomputable def frs (l:List Env):List Addr:=l.filterMap (·.frame)
noncomputable abbrev Cx.fs (X:Cx):List Addr:=frs X.outer
def Vis (sc:J9q) (x:Str):Prop:=sc.names.lookup x=some .local \/ sc.names.lookup x=some .cell\/sc.names.lookup x=some .free
def Loc (sc:J9q) (x:Str):Prop:=sc.names.lookup x=some .local \/ sc.names.lookup x=some .cell
def J1m (env:Env) (h:Heap) (m:Str->Option J9j) (x:Str) (u:J9j):Prop:=
 (env.kindOf x=some .local /\ m x=some u)\/((env.kindOf x=some .cell\/env.kindOf x=some .free)/\∃ c,env.cells.lookup x=some c/\h.IsCell c (some u))
structure Cx.Ok (X:Cx):Prop where
 mod:Mod X.K X.mg X.base
 kind:X.env.scope.kind = .function
 glob:X.env.globals=J9t
 blt:X.env.builtins=Yal
 above:X.s₀.heap.objs.size<=X.env.locals
 inj:∀ x y c,X.env.cells.lookup x=some c->X.env.cells.lookup y=some c->x=y
 has:∀ x,(X.env.kindOf x=some .cell\/X.env.kindOf x=some .free)->∃ c,X.env.cells.lookup x=some c
 cab:∀ x c,X.fn x=true->X.env.cells.lookup x=some c->X.s₀.heap.objs.size<=c
 hd:X.calm=true->X.A.handled=none
 frames:X.A.frames=some X.stack
 stk:X.stack=X.outer\/(X.stack=X.env::X.outer/\X.env.frame=some X.env.locals)
 exf:∀ b∈X.ex,b≠X.env.locals/\∀ x c,X.env.cells.lookup x=some c->c≠b
 bs:∀ b o,X.base.get? b=some o->X.s₀.heap.get? b=some o/\X.H₀ b=none
 bsz:X.base.objs.size<=X.s₀.heap.objs.size
 noex:∀ b o,X.base.get? b=some o->b∉X.ex
 exfs:∀ b∈X.ex,b∉X.fs
 funs:X.s₀.heap.FunFrames X.base X.outer
 frf:∀ b∈X.fs,X.H₀ b=none
structure Inv (X:Cx) (pins:List (Addr×Obj)) (σ:List (Option V)) (H:Hp) (s:J9k):Prop where
 ok:X.Ok
 os:s.os=X.s₀.os
 bare:J9z s.gens
 base:Un X.fs X.ex X.H₀ H X.s₀.heap s.heap
 loc:∃ m,s.heap.Ns X.env.locals m/\∀ (i:Nat) (x:Str) (v:V),X.N[i]? = some x->σ[i]? = some (some v)->Vis X.env.scope x->∃ u,Yl v u/\J1m X.env s.heap m x u
 cell:∀ x c,X.env.cells.lookup x=some c->∃ v,s.heap.IsCell c v
 free:H X.env.locals=none
 freeC:∀ x c,X.env.cells.lookup x=some c->H c=none
 pin:∀ p∈X.pn++pins,s.heap.get? p.1=some p.2/\H p.1=none/\p.1≠X.env.locals/\p.1∉X.fs/\∀ v,p.2.data≠.cell v
 hok:HOk X.prog X.w H s.heap
 len:σ.length=X.N.length
section
variable {X:Cx}{pins:List (Addr×Obj)}{σ:List (Option V)}{H H':Hp}{s:J9k}{h':Heap}
theorem Cx.Ok.nofr (ok:X.Ok) {b:Addr}{o:Obj}(e:X.base.get? b=some o):b∉X.fs:=λ hb=>by
 have:=(ok.funs.mem hb).1
 rw [e] at this;cases this
theorem Inv.bs (I:Inv X pins σ H s):∀ b o,X.base.get? b=some o->s.heap.get? b=some o/\H b=none:=λ b o e=>
 ⟨I.base.keep b o (I.ok.bs b o e).1 (I.ok.bs b o e).2 (I.ok.nofr e) (I.ok.noex b o e),I.base.free b o (I.ok.bs b o e).1 (I.ok.bs b o e).2 (I.ok.noex b o e)⟩
theorem Inv.bk (I:Inv X pins σ H s):∀ b o,X.base.get? b=some o->s.heap.get? b=some o:=λ b o e=>(I.bs b o e).1
theorem Inv.mod (I:Inv X pins σ H s):Mod X.K X.mg X.base:=I.ok.mod
theorem Inv.kIn (I:Inv X pins σ H s):X.K.In s.heap:=I.ok.mod.kin.keeps I.bk
theorem Inv.lt (I:Inv X pins σ H s):X.env.locals<s.heap.objs.size:=let ⟨_,hn,_⟩:=I.loc;hn.lt
theorem Inv.sz (I:Inv X pins σ H s):X.s₀.heap.objs.size<=s.heap.objs.size:=Xl I.ok.above (Uz I.lt)
theorem Inv.nofs (I:Inv X pins σ H s) {a:Addr}(h:s.heap.objs.size<=a):a∉X.fs:=λ hb=>by
 obtain ⟨_,o,ho,_⟩:=I.ok.funs.mem hb
 exact absurd (Xd (Qv ho) (Xl I.sz h)) (Xf _)
theorem Inv.cne (I:Inv X pins σ H s):∀ x c,X.env.cells.lookup x=some c->c≠X.env.locals:=λ x c e z=>by
 obtain ⟨v,o,ho,hd⟩:=I.cell x c e
 obtain ⟨m,⟨o',es,ep,ho',hd',_⟩,_⟩:=I.loc
 rw [z,ho'] at ho;cases ho;rw [hd'] at hd;cases hd
theorem Inv.funs (I:Inv X pins σ H s):s.heap.FunFrames X.base X.outer:=by
 have all:∀ (l:List Env),(∀ b∈frs l,b∈X.fs)->X.s₀.heap.FunFrames X.base l->s.heap.FunFrames X.base l:=by
  intro l
  induction l with
  | nil=>intro _ _;trivial
  | cons env r ih=>
   intro hs hl
   obtain ⟨hk,⟨L,o,hf,hn,ho,hd⟩,hr⟩:=hl
   have hL:L∈X.fs:=hs L (by unfold frs;rw [J5d,hf];exact Qg)
   obtain ⟨sl,e⟩:=I.base.slot L o ho (I.ok.frf L hL) hL λ z=>I.ok.exfs L z hL
   exact ⟨hk,⟨L,_,hf,hn,e,hd⟩,ih (λ b hb=>hs b (by unfold frs;rw [J5d,hf];exact Qh _ hb)) hr⟩
 exact all X.outer (λ _ hb=>hb) I.ok.funs
theorem Inv.stack (I:Inv X pins σ H s):s.heap.FunFrames X.base X.stack:=by
 rcases I.ok.stk with e | ⟨e,hf⟩
 . rw [e];exact I.funs
 . rw [e]
   obtain ⟨m,hn,_⟩:=I.loc
   refine .cons (by rw [I.ok.kind];decide) hf hn ?_ I.funs
   exact Heap.get?_none_of_le (Xl I.ok.bsz I.ok.above)
theorem Inv.stkSub (I:Inv X pins σ H s):∀ b∈frs X.stack,b∈X.env.locals::X.fs:=λ b hb=>by
 rcases I.ok.stk with e | ⟨e,hf⟩
 . rw [e] at hb;exact Qh _ hb
 . rw [e] at hb
   unfold frs at hb
   rw [J5d,hf] at hb
   exact hb
theorem Inv.stkFree (I:Inv X pins σ H s):∀ b∈frs X.stack,H b=none:=λ b hb=>by
 rcases Qd.mp (I.stkSub b hb) with e | hb
 . rw [e];exact I.free
 . obtain ⟨_,o,ho,_⟩:=I.ok.funs.mem hb
   exact I.base.free b o ho (I.ok.frf b hb) λ z=>I.ok.exfs b z hb
theorem Inv.step {g':Array GenState}{t':Nat}{d':Drawn}{ch:List Addr}(I:Inv X pins σ H s)
 (hch:∀ b∈ch,(b∈X.ex\/X.s₀.heap.objs.size<=b)/\b≠X.env.locals/\(∀ x c,X.env.cells.lookup x=some c->c≠b)/\∀ p∈X.pn++pins,p.1≠b)
 (keep:∀ b o,b≠X.env.locals->b∉X.fs->b∉ch->s.heap.get? b=some o->H b=none->h'.get? b=some o)
 (slot:∀ b o,b≠X.env.locals->b∈X.fs->b∉ch->s.heap.get? b=some o->H b=none->∃ sl,h'.get? b=some { o with slots:=sl }) (free:∀ b o,b∉ch->s.heap.get? b=some o->H b=none->H' b=none)
 (there:∀ b o,b∉ch->s.heap.get? b=some o->∃ o',h'.get? b=some o')
 (tups:∀ b xs,H b=some (.tup xs)->H' b=some (.tup xs)) (frzs:∀ b o u,H b=some (.frz o u)->H' b=some (.frz o u)) (tbls:∀ b ps,H b=some (.tbl ps)->∃ more,H' b=some (.tbl (ps++more)))
 (ns:∀ m,s.heap.Ns X.env.locals m->h'.Ns X.env.locals m) (hok:HOk X.prog X.w H' h') (hg:J9z g') :
 Inv X pins σ H' { s with heap:=h',gens:=g',drawn:=d',toks:=t' }:=by
 have neL:∀ b o,X.s₀.heap.get? b=some o->b≠X.env.locals:=λ b o e=>Xg (Xd (Qv e) I.ok.above)
 have neC:∀ b o,X.s₀.heap.get? b=some o->b∉X.ex->b∉ch:=λ b o e hx hb=>by
  rcases (hch b hb).1 with z | z
  . exact hx z
  . exact absurd (Xd (Qv e) z) (Xf _)
 have cellK:∀ x c,X.env.cells.lookup x=some c->∀ v,s.heap.IsCell c v->h'.IsCell c v:=λ x c e v ⟨o,ho,hd⟩=>by
  have nch:c∉ch:=λ z=>(hch c z).2.2.1 x c e rfl
  by_cases hc:c∈X.fs
  . obtain ⟨sl,q⟩:=slot c o (I.cne x c e) hc nch ho (I.freeC x c e)
    exact ⟨_,q,hd⟩
  . exact ⟨o,keep c o (I.cne x c e) hc nch ho (I.freeC x c e),hd⟩
 refine ⟨I.ok,I.os,hg,⟨λ b o e n hb hx=>?_,λ b o e n hb hx=>?_,λ b o e n hx=>?_,λ b o e hx=>?_,λ b xs e=>tups b xs (I.base.tups b xs e),λ b o xs e=>frzs b o xs (I.base.frzs b o xs e),λ b ps e=>?_⟩,?_,λ x c e=>?_,?_,λ x c e=>?_,λ p hp=>?_,hok,I.len⟩
 . exact keep b o (neL b o e) hb (neC b o e hx) (I.base.keep b o e n hb hx) (I.base.free b o e n hx)
 . obtain ⟨sl,e1⟩:=I.base.slot b o e n hb hx
   obtain ⟨sl',e2⟩:=slot b _ (neL b o e) hb (neC b o e hx) e1 (I.base.free b o e n hx)
   exact ⟨sl',e2⟩
 . obtain ⟨o',e1⟩:=I.base.there b o e hx
   exact free b o' (neC b o e hx) e1 (I.base.free b o e n hx)
 . obtain ⟨o',e1⟩:=I.base.there b o e hx
   exact there b o' (neC b o e hx) e1
 . obtain ⟨m1,e1⟩:=I.base.tbls b ps e
   obtain ⟨m2,e2⟩:=tbls b _ e1
   exact ⟨m1++m2,by rw [e2,Array.append_assoc]⟩
 . obtain ⟨m,hn,hl⟩:=I.loc
   refine ⟨m,ns m hn,λ i x v e1 e2 e3=>?_⟩
   obtain ⟨u,r,l⟩:=hl i x v e1 e2 e3
   refine ⟨u,r,?_⟩
   rcases l with l | ⟨k,c,e,z⟩
   . exact .inl l
   . exact .inr ⟨k,c,e,cellK x c e _ z⟩
 . obtain ⟨v,z⟩:=I.cell x c e
   exact ⟨v,cellK x c e v z⟩
 . obtain ⟨m,⟨o,_,_,ho,_⟩,_⟩:=I.loc
   exact free _ o (λ z=>(hch _ z).2.1 rfl) ho I.free
 . obtain ⟨v,o,ho,hd⟩:=I.cell x c e
   exact free c o (λ z=>(hch c z).2.2.1 x c e rfl) ho (I.freeC x c e)
 . obtain ⟨e,n,ne,nf,d⟩:=I.pin p hp
   have nch:p.1∉ch:=λ z=>(hch p.1 z).2.2.2 p hp rfl
   exact ⟨keep p.1 p.2 ne nf nch e n,free p.1 p.2 nch e n,ne,nf,d⟩
theorem Inv.un {t':Nat}(I:Inv X pins σ H s) (u:Un X.fs [] H H' s.heap h') (hok:HOk X.prog X.w H' h'):Inv X pins σ H' { s with heap:=h',toks:=t' }:=by
 obtain ⟨m,⟨o,es,ep,ho,r⟩,_⟩:=id I.loc
 obtain ⟨sl,hL⟩:=u.any ho I.free (by simp)
 exact I.step (g':=s.gens) (d':=s.drawn) (ch:=[]) (λ _ z=>nomatch z) (λ b o _ hb _ e n=>u.keep b o e n hb (by simp)) (λ b o _ hb _ e n=>u.slot b o e n hb (by simp)) (λ b o _ e n=>u.free b o e n (by simp)) (λ b o _ e=>u.there b o e (by simp)) u.tups u.frzs u.tbls (λ m' hm=>by
  obtain ⟨o',es',ep',ho',r'⟩:=hm
  rw [ho] at ho';cases ho'
  exact ⟨_,es',ep',hL,r'⟩) hok I.bare
theorem Inv.call {g':Array GenState}{t':Nat}{d':Drawn}{ch:List Addr}(I:Inv X pins σ H s) (u:Un (frs X.stack) ch H H' s.heap h') (hok:HOk X.prog X.w H' h') (hg:J9z g')
 (hch:∀ b∈ch,(b∈X.ex\/X.s₀.heap.objs.size<=b)/\b≠X.env.locals/\(∀ x c,X.env.cells.lookup x=some c->c≠b)/\∀ p∈X.pn++pins,p.1≠b) :
 Inv X pins σ H' { s with heap:=h',gens:=g',drawn:=d',toks:=t' }:=by
 obtain ⟨m,⟨o,es,ep,ho,r⟩,_⟩:=id I.loc
 obtain ⟨sl,hL⟩:=u.any ho I.free λ z=>(hch _ z).2.1 rfl
 exact I.step (ch:=ch) hch (λ b o hL hb hc e n=>u.keep b o e n (λ z=>(Qd.mp (I.stkSub b z)).elim hL hb) hc) (λ b o _ _ hc e n=>u.any e n hc) (λ b o hc e n=>u.free b o e n hc) (λ b o hc e=>u.there b o e hc) u.tups u.frzs u.tbls (λ m' hm=>by
  obtain ⟨o',es',ep',ho',r'⟩:=hm
  rw [ho] at ho';cases ho'
  exact ⟨_,es',ep',hL,r'⟩) hok hg
theorem Inv.turned {t':Nat}{it:Addr}(I:Inv X pins σ H s) (k:∀ b o,b≠it->s.heap.get? b=some o->h'.get? b=some o) (hn:H it=none) (hL:it≠X.env.locals)
 (h1:it∈X.ex\/X.s₀.heap.objs.size<=it) (h2:∀ x c,X.env.cells.lookup x=some c->c≠it) (h3:∀ p∈X.pn++pins,p.1≠it):Inv X pins σ H { s with heap:=h',toks:=t' }:=by
 have nit:∀ b u,H b=some u->b≠it:=λ b u e z=>by rw [z,hn] at e;cases e
 refine I.step (g':=s.gens) (d':=s.drawn) (ch:=[it]) (λ b hb=>?_) (λ b o _ _ hc e _=>k b o (λ z=>hc (by simp [z])) e) (λ b o _ _ hc e _=>⟨o.slots,k b o (λ z=>hc (by simp [z])) e⟩) (λ _ _ _ _ n=>n)
  (λ b o hc e=>⟨o,k b o (λ z=>hc (by simp [z])) e⟩) (λ _ _ e=>e) (λ _ _ _ e=>e) (λ b ps e=>⟨#[],by rw [e];simp⟩) (λ m hm=>?_) (λ b u e=>?_) I.bare
 . have e:b=it:=by simpa using hb
   subst e
   exact ⟨h1,hL,h2,h3⟩
 . obtain ⟨o,es,ep,ho,r⟩:=hm
   exact ⟨o,es,ep,k _ o (Qj hL) ho,r⟩
 . refine (I.hok b u e).stay (λ c v hc q=>k c v ?_ q) (λ _ q=>q) λ _ _ q=>q
   rcases hc with z | z
   . rw [z];exact nit b u e
   . exact nit c _ z
theorem Inv.tok (I:Inv X pins σ H s) (t:Nat):Inv X pins σ H { s with toks:=t }:=I.un (h':=s.heap) (t':=t) Un.refl I.hok
theorem Inv.kept {t':Nat}(I:Inv X pins σ H s) (k:∀ b u,s.heap.get? b=some u->h'.get? b=some u):Inv X pins σ H { s with heap:=h',toks:=t' }:=I.un (Un.kept k) (I.hok.kept k)
theorem Inv.laid {a:Addr}{o:HO}{t':Nat}(I:Inv X pins σ H s) (k:∀ b u,s.heap.get? b=some u->h'.get? b=some u) (hp:s.heap.objs.size<=a) (new:Yw X.prog X.w (upd H a o) h' a o) :
 Inv X pins σ (upd H a o) { s with heap:=h',toks:=t' }:=I.un (Un.laid k hp (I.hok.fresh hp)) (I.hok.laid k hp new)
theorem Inv.write {x e:Addr}{o:HO}{t':Nat}(I:Inv X pins σ H s) (mu:Mut (H x)) (he:e=x\/H e=some (.own x)) (k:∀ b u,b≠e->s.heap.get? b=some u->h'.get? b=some u) (heo:∃ u,h'.get? e=some u)
 (new:Yw X.prog X.w (upd H x o) h' x o):Inv X pins σ (upd H x o) { s with heap:=h',toks:=t' }:=I.un (Un.write mu he k heo) (I.hok.write mu he k heo new)
theorem Inv.pins_of {pins':List (Addr×Obj)}(I:Inv X pins σ H s) (h:∀ p∈pins',s.heap.get? p.1=some p.2/\H p.1=none/\p.1≠X.env.locals/\p.1∉X.fs/\∀ v,p.2.data≠.cell v):Inv X pins' σ H s:=
 ⟨I.ok,I.os,I.bare,I.base,I.loc,I.cell,I.free,I.freeC,λ p hp=>(Q4.mp hp).elim (λ z=>I.pin p (Xk _ z)) (h p),I.hok,I.len⟩
theorem Jlo {N:List Str}(hN:N.Nodup) {i j:Nat}{x:Str}(a:N[i]? = some x) (b:N[j]? = some x):i=j:=by
 obtain ⟨h1,e1⟩:=Qt.mp a
 obtain ⟨h2,e2⟩:=Qt.mp b
 exact (J5e hN).mp (e1.trans e2.symm)
theorem Jer {M:Model}{A:J9o}{E:J9j->J9k->Prop}{i:Nat}{x:Str}{v:V}{u:J9j}{Q:Unit->J9k->Prop}(I:Inv X pins σ H s) (hN:X.N.Nodup) (hi:X.N[i]? = some x) (hx:Loc X.env.scope x) (r:Yl v u)
 (h:∀ s',Inv X pins (σ.set i (some v)) H s'->(∃ a,Xw a s.heap s'.heap/\(a=X.env.locals\/X.env.cells.lookup x=some a))->Q () s') (hf:X.fn x=true\/X.env.scope.names.lookup x=some .local := by first | exact .inl rfl | exact .inr rfl | assumption):J9l M A (storeName X.env x u) Q E s:=by
 obtain ⟨m,hn,hl⟩:=id I.loc
 have hcls:(X.env.scope.kind == .class||(X.env.scope.kind == .module&&X.env.locals != X.env.globals))=false:=by rw [I.ok.kind];rfl
 have hiσ:i < σ.length:=by rw [I.len];exact (Qt.mp hi).1
 have cne:=I.cne
 have tracked:∀ {a:Addr} {h':Heap},(∃ o,s.heap.get? a=some o/\H a=none)->Xw a s.heap h'->HOk X.prog X.w H h':=λ {a h'} ha hs b ob e=>by
  obtain ⟨_,_,hfree⟩:=ha
  refine (I.hok b ob e).stay (λ c w' hc q=>(hs.2 c ?_).trans q) (λ _ q=>q) λ _ _ q=>q
  rintro rfl
  rcases hc with rfl | hc
  . rw [hfree] at e;cases e
  . rw [hfree] at hc;cases hc
 rcases hx with hk | hk
 . refine wpAny_storeName_local hk hn (λ h' hn' hs=>?_) hcls
   obtain ⟨oL,_,_,hoL,_⟩:=id hn
   refine h _ ⟨I.ok,I.os,I.bare,⟨λ b o e n hb hx=>?_,λ b o e n hb hx=>?_,I.base.free,λ b o e hx=>?_,I.base.tups,I.base.frzs,I.base.tbls⟩,⟨_,hn',λ j y v' e1 e2 e3=>?_⟩,λ y c e=>?_,I.free,I.freeC,λ p hp=>?_,tracked ⟨oL,hoL,I.free⟩ hs,by simpa using I.len⟩ ⟨_,hs,.inl rfl⟩
   . exact (hs.2 b (Xg (Xd (Qv e) I.ok.above))).trans (I.base.keep b o e n hb hx)
   . obtain ⟨sl,e1⟩:=I.base.slot b o e n hb hx
     exact ⟨sl,(hs.2 b (Xg (Xd (Qv e) I.ok.above))).trans e1⟩
   . obtain ⟨o',e1⟩:=I.base.there b o e hx
     exact ⟨o',(hs.2 b (Xg (Xd (Qv e) I.ok.above))).trans e1⟩
   . by_cases hj:j=i
     . subst hj
       rw [hi] at e1;cases e1
       rw [Q8 hiσ] at e2
       cases e2
       exact ⟨u,r,.inl ⟨hk,by simp⟩⟩
     . rw [Q9 (Qj hj)] at e2
       obtain ⟨u',r',q⟩:=hl j y v' e1 e2 e3
       refine ⟨u',r',?_⟩
       rcases q with ⟨k,e⟩ | ⟨k,c,e,z⟩
       . refine .inl ⟨k,?_⟩
         have:y≠x:=λ e=>hj (Jlo hN e1 (e▸hi))
         simp [this,e]
       . exact .inr ⟨k,c,e,z.sameBut hs (cne y c e)⟩
   . obtain ⟨w',z⟩:=I.cell y c e
     exact ⟨w',z.sameBut hs (cne y c e)⟩
   . obtain ⟨e,n,ne,nf,d⟩:=I.pin p hp
     exact ⟨(hs.2 p.1 ne).trans e,n,ne,nf,d⟩
 . have hfn:X.fn x=true:=by
    rcases hf with z | z
    . exact z
    . rw [z] at hk;cases hk
   obtain ⟨c,hc⟩:=I.ok.has x (.inl hk)
   obtain ⟨w',z⟩:=I.cell x c hc
   refine wpAny_storeName_cell I.ok.kind hk hc z (λ h' hc' hs=>?_)
   obtain ⟨oc,hoc,hocd⟩:=id z
   refine h { s with heap:=h' } ⟨I.ok,I.os,I.bare,⟨λ b o e n hb hx=>?_,λ b o e n hb hx=>?_,I.base.free,λ b o e hx=>?_,I.base.tups,I.base.frzs,I.base.tbls⟩,⟨m,hn.sameBut hs (Qj (cne x c hc)),λ j y v' e1 e2 e3=>?_⟩,λ y c' e=>?_,I.free,I.freeC,λ p hp=>?_,tracked ⟨oc,hoc,I.freeC x c hc⟩ hs,by simpa using I.len⟩ ⟨c,hs,.inr hc⟩
   . exact (hs.2 b (Xg (Xd (Qv e) (I.ok.cab x c hfn hc)))).trans (I.base.keep b o e n hb hx)
   . obtain ⟨sl,e1⟩:=I.base.slot b o e n hb hx
     exact ⟨sl,(hs.2 b (Xg (Xd (Qv e) (I.ok.cab x c hfn hc)))).trans e1⟩
   . obtain ⟨o',e1⟩:=I.base.there b o e hx
     exact ⟨o',(hs.2 b (Xg (Xd (Qv e) (I.ok.cab x c hfn hc)))).trans e1⟩
   . by_cases hj:j=i
     . subst hj
       rw [hi] at e1;cases e1
       rw [Q8 hiσ] at e2
       cases e2
       exact ⟨u,r,.inr ⟨.inl hk,c,hc,hc'⟩⟩
     . rw [Q9 (Qj hj)] at e2
       obtain ⟨u',r',q⟩:=hl j y v' e1 e2 e3
       refine ⟨u',r',?_⟩
       rcases q with q | ⟨k,c',e,z'⟩
       . exact .inl q
       . refine .inr ⟨k,c',e,z'.sameBut hs ?_⟩
         rintro rfl
         exact hj (Jlo hN e1 (I.ok.inj _ _ _ e hc▸hi))
   . by_cases hcc:c'=c
     . subst hcc;exact ⟨_,hc'⟩
     . obtain ⟨w2,z2⟩:=I.cell y c' e
       exact ⟨w2,z2.sameBut hs hcc⟩
   . obtain ⟨e,n,ne,nf,d⟩:=I.pin p hp
     refine ⟨(hs.2 p.1 ?_).trans e,n,ne,nf,d⟩
     intro q
     rw [q,hoc] at e
     have q':oc=p.2:=Xi e
     exact d w' (by rw [<- q'];exact hocd)
theorem Jbw {M:Model}{A:J9o}{E:J9j->J9k->Prop}{i:Nat}{x:Str}{v:V}{u:J9j}{Q:Unit->J9k->Prop}(I:Inv X pins σ H s) (hN:X.N.Nodup) (hi:X.N[i]? = some x) (hx:Loc X.env.scope x) (r:Yl v u)
 (h:∀ s',Inv X pins (σ.set i (some v)) H s'->Q () s') (hf:X.fn x=true\/X.env.scope.names.lookup x=some .local := by first | exact .inl rfl | exact .inr rfl | assumption):J9l M A (storeName X.env x u) Q E s:=
 Jer I hN hi hx r (λ s' I' _=>h s' I') hf
theorem Inv.call' {s':J9k}{ch:List Addr}(I:Inv X pins σ H s) (ho:s'.os=s.os) (u:Un (frs X.stack) ch H H' s.heap s'.heap) (hok:HOk X.prog X.w H' s'.heap) (hg:J9z s'.gens)
 (hch:∀ b∈ch,(b∈X.ex\/X.s₀.heap.objs.size<=b)/\b≠X.env.locals/\(∀ x c,X.env.cells.lookup x=some c->c≠b)/\∀ p∈X.pn++pins,p.1≠b):Inv X pins σ H' s':=by
 obtain ⟨h',g',d',t',o'⟩:=s'
 have e:o'=s.os:=ho
 subst e
 exact I.call (g':=g') (t':=t') (d':=d') u hok hg hch
end
abbrev XK:=J9j->Option Addr->Hp->Prop
abbrev St:=List (Option V)
abbrev VK:=V->Hp->Prop
abbrev TE:=St->Hp->VK->Prop
abbrev TT:=St->Hp->(Bool->Hp->Prop)->Prop
abbrev TA:=St->Hp->(List V->Hp->Prop)->Prop
structure Ends where
 nx:St->Hp->Prop
 rt:VK
 bk:St->Hp->Prop:=λ _ _=>False
 ct:St->Hp->Prop:=λ _ _=>False
abbrev TS:=Ends->St->Hp->Prop
def EP (X:Cx) (pins:List (Addr×Obj)) (σ:St) (Q:VK) (u:J9j) (s':J9k):Prop:=∃ v H',Inv X pins σ H' s'/\Yl v u/\Q v H'
def TP (X:Cx) (pins:List (Addr×Obj)) (σ:St) (Q:Bool->Hp->Prop) (b:Bool) (s':J9k):Prop:=∃ H',Inv X pins σ H' s'/\Q b H'
def AP (X:Cx) (pins:List (Addr×Obj)) (σ:St) (Q:List V->Hp->Prop) (us:List J9j) (s':J9k):Prop:=∃ vs H',Inv X pins σ H' s'/\Yb vs us/\Q vs H'
def SP (X:Cx) (pins:List (Addr×Obj)) (D:Ends) (f:Flow) (s':J9k):Prop:=
 match f with
 | .next=>∃ σ' H',Inv X pins σ' H' s'/\D.nx σ' H'
 | .brk=>∃ σ' H',Inv X pins σ' H' s'/\D.bk σ' H'
 | .cont=>∃ σ' H',Inv X pins σ' H' s'/\D.ct σ' H'
 | .ret u=>∃ v σ' H',Inv X pins σ' H' s'/\Yl v u/\D.rt v H'
def PE (X:Cx) (e:Expr) (t:TE):Prop:=
 ∀ (pins:List (Addr×Obj)) (s:J9k) (σ:St) (H:Hp) (Q:VK),Inv X pins σ H s->t σ H Q->J9l (model X.prog X.w) X.A (eval e X.env) (EP X pins σ Q) X.xe s
def PT (X:Cx) (e:Expr) (t:TT):Prop:=
 ∀ (pins:List (Addr×Obj)) (s:J9k) (σ:St) (H:Hp) (Q:Bool->Hp->Prop),Inv X pins σ H s->t σ H Q->J9l (model X.prog X.w) X.A (isTrue e X.env (eval e X.env)) (TP X pins σ Q) X.xe s
def PW (X:Cx) (e:Expr) (t:TT):Prop:=
 ∀ (whole:Sem J9j) (pins:List (Addr×Obj)) (s:J9k) (σ:St) (H:Hp) (Q:Bool->Hp->Prop),Inv X pins σ H s->t σ H Q->J9l (model X.prog X.w) X.A (isTrue e X.env whole) (TP X pins σ Q) X.xe s
theorem PW.pt {X:Cx}{e:Expr}{t:TT}(h:PW X e t):PT X e t:=h _
def PA (X:Cx) (es:List Expr) (t:TA):Prop:=
 ∀ (pos:Pos) (pins:List (Addr×Obj)) (s:J9k) (σ:St) (H:Hp) (Q:List V->Hp->Prop),Inv X pins σ H s->t σ H Q->J9l (model X.prog X.w) X.A (spliced (backTo pos (starEach es X.env))) (AP X pins σ Q) X.xe s
def PS (X:Cx) (st:Stmt) (t:TS):Prop:=
 ∀ (pins:List (Addr×Obj)) (s:J9k) (σ:St) (H:Hp) (D:Ends),Inv X pins σ H s->t D σ H->J9l (model X.prog X.w) X.A (exec st X.env) (SP X pins D) X.xe s
def PSs (X:Cx) (st:List Stmt) (t:TS):Prop:=
 ∀ (pins:List (Addr×Obj)) (s:J9k) (σ:St) (H:Hp) (D:Ends),Inv X pins σ H s->t D σ H->J9l (model X.prog X.w) X.A (execs st X.env) (SP X pins D) X.xe s
theorem thn {α:Type}{t:Sem α}{Q Q':α->J9k->Prop}{M:Model}{A:J9o}{E:J9j->J9k->Prop}{s:J9k}(h:J9l M A t Q E s) (hQ:∀ a s,Q a s->Q' a s):J9l M A t Q' E s:=wpAny_mono h hQ λ _ _ x=>x
section
variable {X:Cx}
def Ze (i:Nat):TE:=λ σ H Q=>∃ v,σ[i]? = some (some v)/\Q v H
def tC (v:V):TE:=λ _ H Q=>Q v H
theorem Jx7 {i:Nat}{x:Str}{pos:Pos}(hN:X.N[i]? = some x) (hv:Vis X.env.scope x) (hd:(x==("__debug__":Str))=false:=by decide) (hcd:(x==("__classdict__":Str))=false:=by decide):PE X (.Name x pos) (Ze i):=by
 intro pins s σ H Q I h
 obtain ⟨v,e,h⟩:=h
 obtain ⟨m,hn,hl⟩:=I.loc
 obtain ⟨u,r,l⟩:=hl i x v hN e hv
 have fin:EP X pins σ Q u s:=⟨v,H,I,r,h⟩
 rcases l with ⟨hk,hm⟩ | ⟨hk,c,hc,hcell⟩
 . exact wpAny_Name (wpAny_loadName_local I.ok.kind hk hn hm fin) hd
 . rcases hk with hk | hk
   . exact wpAny_Name (wpAny_loadName_cell I.ok.kind hk hc hcell fin) hd
   . exact wpAny_Name (wpAny_loadName_free I.ok.kind hk hc hcell fin hcd) hd
theorem Jd {i j pos}:PE X (.Constant (.int i) j pos) (tC (.int i)):=λ _ _ _ H _ I h=>wpAny_Constant_int ⟨.int i,H,I.tok _,⟨_,rfl⟩,h⟩
theorem Jbr {b j pos}:PE X (.Constant (.bool b) j pos) (tC (.bl b)):=λ _ _ _ H _ I h=>Constant_bool ⟨.bl b,H,I,rfl,h⟩
theorem Ba {j pos}:PE X (.Constant .none j pos) (tC .non):=λ _ _ _ H _ I h=>Constant_none ⟨.non,H,I,rfl,h⟩
theorem Jnk {x j pos}:PE X (.Constant (.str x) j pos) (tC (.str x)):=λ _ _ _ H _ I h=>Calls.Constant_str ⟨.str x,H,I.tok _,⟨_,rfl⟩,h⟩
def Gl (X:Cx) (x:Str):Prop:=X.env.kindOf x=some .globalImplicit
theorem Jo6 {E:J9j->J9k->Prop}{pins:List (Addr×Obj)}{s:J9k}{σ:St}{H:Hp}{x:Str}{u:J9j}{pos:Pos}{Q:J9j->J9k->Prop}(I:Inv X pins σ H s) (hg:Gl X x) (hm:X.mg x=some u) (h:Q u s)
 (hd:(x==("__debug__":Str))=false:=by decide):J9l (model X.prog X.w) X.A (eval (.Name x pos) X.env) Q E s:=
 J7a I.ok.kind hg (Calls.loadGlobal_global (by rw [I.ok.glob];exact I.mod.glob.keeps I.bk) hm h) hd
theorem Bw {E:J9j->J9k->Prop}{pins:List (Addr×Obj)}{s:J9k}{σ:St}{H:Hp}{x:Str}{u:J9j}{pos:Pos}{Q:J9j->J9k->Prop}(I:Inv X pins σ H s) (hg:Gl X x) (hm:X.mg x=none) (hv:Yac x=some u) (h:Q u s)
 (hn:x≠"__name__":=by decide) (hd:(x==("__debug__":Str))=false:=by decide):J9l (model X.prog X.w) X.A (eval (.Name x pos) X.env) Q E s:=by
 obtain ⟨mb,h1,h2⟩:=I.mod.blt
 exact J7a I.ok.kind hg (Calls.loadGlobal_builtin (by rw [I.ok.glob];exact I.mod.glob.keeps I.bk) hm (by rw [I.ok.blt];exact h1.keeps I.bk) ((h2 x hn).trans hv) h) hd
theorem Jae {x:Str}{v:V}{u:J9j}{pos:Pos}(hg:Gl X x) (hm:X.mg x=none) (hv:Yac x=some u) (r:Yl v u) (hn:x≠"__name__":=by decide) (hd:(x==("__debug__":Str))=false:=by decide):PE X (.Name x pos) (tC v):=
 λ _ _ _ H _ I h=>Bw I hg hm hv ⟨v,H,I,r,h⟩ hn hd
variable {a b:Expr}{ta tb:TE}{pos:Pos}
def tB (t:TE):TT:=λ σ H Q=>t σ H λ x H1=>∃ c,x = .bl c/\Q c H1
theorem Z3 {e:Expr}{t:TE}(h:PE X e t) (he:∀ whole,isTrue e X.env whole=(do let v <- whole;J90 e.pos;holding [v] (truthy v)):=by intro _;rfl):PT X e (tB t):=by
 intro pins s σ H Q I hw
 refine isTrue_plain (thn (h pins s σ H _ I hw) λ v s1 ⟨x,H1,I1,r1,q1⟩=>?_) (he _)
 obtain ⟨d,rfl,q⟩:=q1
 cases r1
 exact wpAny_truthy_bool ⟨H1,I1,q⟩
variable {tA tB':TT}{rest:List Expr}
def Jzy (t u:TT):TT:=λ σ H Q=>t σ H λ c H1=>if c=true then u σ H1 Q else Q false H1
def tOr (t u:TT):TT:=λ σ H Q=>t σ H λ c H1=>if c=true then Q true H1 else u σ H1 Q
def Jzz (t:TT):TT:=λ σ H Q=>t σ H λ c H1=>Q (!c) H1
theorem Ja4 (ha:PT X a tA):PW X (.BoolOp .And [a] pos) tA:=by
 intro wh pins s σ H Q I h
 refine isTrue_and (thn (ha pins s σ H Q I h) λ c s1 e=>?_)
 cases c with
 | true=>exact isTrue_and_nil e
 | false=>exact e
theorem Jal (ha:PT X a tA):PW X (.BoolOp .Or [a] pos) tA:=by
 intro wh pins s σ H Q I h
 refine isTrue_or (thn (ha pins s σ H Q I h) λ c s1 e=>?_)
 cases c with
 | false=>exact isTrue_or_nil e
 | true=>exact e
theorem Jc4 (ha:PT X a tA) (hb:PW X (.BoolOp .And (b::rest) pos) tB'):PW X (.BoolOp .And (a::b::rest) pos) (Jzy tA tB'):=by
 intro wh pins s σ H Q I h
 refine isTrue_and (thn (ha pins s σ H _ I h) λ c s1 ⟨H1,I1,q1⟩=>?_)
 cases c with
 | true=>exact hb wh pins s1 σ H1 Q I1 q1
 | false=>exact ⟨H1,I1,q1⟩
theorem Jbs (ha:PT X a tA) (hb:PW X (.BoolOp .Or (b::rest) pos) tB'):PW X (.BoolOp .Or (a::b::rest) pos) (tOr tA tB'):=by
 intro wh pins s σ H Q I h
 refine isTrue_or (thn (ha pins s σ H _ I h) λ c s1 ⟨H1,I1,q1⟩=>?_)
 cases c with
 | true=>exact ⟨H1,I1,q1⟩
 | false=>exact hb wh pins s1 σ H1 Q I1 q1
theorem Vn (ha:PT X a tA):PT X (.UnaryOp .Not a pos) (Jzz tA):=by
 intro pins s σ H Q I h
 exact isTrue_not (ha pins s σ H (λ c H1=>Q (!c) H1) I h)
def Jw3 (ta tb:TE):TE:=λ σ H Q=>ta σ H λ x H1=>∃ c,x = .bl c/\if c=true then tb σ H1 Q else Q (.bl false) H1
def Jz0 (ta tb:TE):TE:=λ σ H Q=>ta σ H λ x H1=>∃ c,x = .bl c/\if c=true then Q (.bl true) H1 else tb σ H1 Q
def Jw4 (ta:TE):TE:=λ σ H Q=>ta σ H λ x H1=>∃ c,x = .bl c/\Q (.bl (!c)) H1
theorem Jes {op} {t:TE}(h:PE X a t):PE X (.BoolOp op [a] pos) t:=λ pins s σ H Q I hw=>BoolOp_one (h pins s σ H Q I hw)
theorem Jjz (ha:PE X a ta) (hb:PE X (.BoolOp .And (b::rest) pos) tb):PE X (.BoolOp .And (a::b::rest) pos) (Jw3 ta tb):=by
 intro pins s σ H Q I h
 refine BoolOp_and (thn (ha pins s σ H _ I h) λ v s1 ⟨x,H1,I1,r1,q1⟩=>?_)
 obtain ⟨c,rfl,q1⟩:=q1
 cases r1
 refine wpAny_truthy_bool ?_
 cases c with
 | true=>exact hb pins s1 σ H1 Q I1 q1
 | false=>exact ⟨.bl false,H1,I1,rfl,q1⟩
theorem Jw5 (ha:PE X a ta) (hb:PE X (.BoolOp .Or (b::rest) pos) tb):PE X (.BoolOp .Or (a::b::rest) pos) (Jz0 ta tb):=by
 intro pins s σ H Q I h
 refine BoolOp_or (thn (ha pins s σ H _ I h) λ v s1 ⟨x,H1,I1,r1,q1⟩=>?_)
 obtain ⟨c,rfl,q1⟩:=q1
 cases r1
 refine wpAny_truthy_bool ?_
 cases c with
 | false=>exact hb pins s1 σ H1 Q I1 q1
 | true=>exact ⟨.bl true,H1,I1,rfl,q1⟩
theorem Jrq (ha:PE X a ta):PE X (.UnaryOp .Not a pos) (Jw4 ta):=by
 intro pins s σ H Q I h
 refine UnaryOp_ (thn (ha pins s σ H _ I h) λ v s1 ⟨x,H1,I1,r1,q1⟩=>?_)
 obtain ⟨c,rfl,q1⟩:=q1
 cases r1
 exact not_of (wpAny_truthy_bool ⟨.bl (!c),H1,I1,rfl,q1⟩)
def tIf (t:TT) (ta tb:TE):TE:=λ σ H Q=>t σ H λ c H1=>if c=true then ta σ H1 Q else tb σ H1 Q
theorem Jgq {c:Expr}(hc:PT X c tA) (ha:PE X a ta) (hb:PE X b tb):PE X (.IfExp c a b pos) (tIf tA ta tb):=by
 intro pins s σ H Q I h
 refine wpAny_IfExp (thn (hc pins s σ H _ I h) λ d s1 ⟨H1,I1,q1⟩=>?_)
 cases d with
 | true=>exact ha pins s1 σ H1 Q I1 q1
 | false=>exact hb pins s1 σ H1 Q I1 q1
end
def SqL (K:Qc) (H:Hp) (a:Addr) (xs:List V):Prop:=
 Rd H a (.lst xs) \/
  ∃ (o:Obj) (its:Array J9j) (n:Nat),K.lookup a=some o/\o.cls = .type "list"/\o.dict=none/\o.data = .seq its n/\its.size<=sizeLine/\Yb xs its.toList
def SqT (K:Qc) (H:Hp) (a:Addr) (xs:List V):Prop:=
 Rd H a (.tup xs) \/
  ∃ (o:Obj) (its:Array J9j) (n:Nat),K.lookup a=some o/\o.cls = .type "tuple"/\o.data = .seq its n/\its.size<=sizeLine/\Yb xs its.toList
noncomputable def J1n:J9j->Option V
 | .none=>some .non
 | .bool b=>some (.bl b)
 | .int i _=>some (.int i)
 | .str x _=>some (.str x)
 | .bytes b _=>some (.byt b)
 | .float b _=>some (.flt b)
 | .ref a=>some (.ref a)
 | .type n=>some (.ty n)
 | _=>none
theorem Yl.abs {x:V}{u:J9j}(r:Yl x u):J1n u=some x:=by
 cases x with
 | non=>cases r;rfl
 | bl _=>cases r;rfl
 | int _=>obtain ⟨t,rfl⟩:=r;rfl
 | str _=>obtain ⟨t,rfl⟩:=r;rfl
 | byt _=>obtain ⟨t,rfl⟩:=r;rfl
 | flt _=>obtain ⟨t,rfl⟩:=r;rfl
 | ref _=>cases r;rfl
 | ty _=>cases r;rfl
theorem Yl.inj {x y:V}{u:J9j}(r:Yl x u) (q:Yl y u):x=y:=Xi (r.abs.symm.trans q.abs)
theorem Yb.inj:∀ {xs ys:List V}{us:List J9j},Yb xs us->Yb ys us->xs=ys
 | _,_,_,.nil,.nil=>rfl
 | _,_,_,.cons r t,.cons r' t'=>by rw [r.inj r',Yb.inj t t']
section
variable {X:Cx}{pins:List (Addr×Obj)}{σ:St}{H:Hp}{s:J9k}{a:Addr}{xs ys:List V}
theorem SqL.of {K:Qc}(h:H a=some (.lst xs)):SqL K H a xs:=.inl (.inl h)
theorem SqT.of {K:Qc}(h:H a=some (.tup xs)):SqT K H a xs:=.inl (.inl h)
theorem Inv.list (I:Inv X pins σ H s) (h:SqL X.K H a xs):∃ its:List J9j,Yb xs its/\PlainL s.heap a its.toArray/\xs.length<=sizeLine:=by
 rcases h with h | ⟨o,its,n,hk,hc,hd,hs,hz,r⟩
 . obtain ⟨z,its,n,r,e⟩:=h.ok I.hok
   exact ⟨its,r,⟨_,n,e,rfl,rfl,rfl⟩,z⟩
 . refine ⟨its.toList,r,⟨o,n,I.kIn a o hk,hc,hd,by simpa using hs⟩,?_⟩
   have e:=r.length
   simp only [J5f] at e
   omega
theorem Inv.tuple (I:Inv X pins σ H s) (h:SqT X.K H a xs):∃ its:List J9j,Yb xs its/\IsTup s.heap a its.toArray/\xs.length<=sizeLine:=by
 rcases h with h | ⟨o,its,n,hk,hc,hs,hz,r⟩
 . obtain ⟨z,its,r,p⟩:=h.ok I.hok
   exact ⟨its,r,p,z⟩
 . refine ⟨its.toList,r,⟨o,I.kIn a o hk,hc,n,by simpa using hs⟩,?_⟩
   have e:=r.length
   simp only [J5f] at e
   omega
theorem Inv.list_inj (I:Inv X pins σ H s) (h:SqL X.K H a xs) (h':SqL X.K H a ys):xs=ys:=by
 obtain ⟨its,r,⟨o,n,e,_,_,d⟩,_⟩:=I.list h
 obtain ⟨its',r',⟨o',n',e',_,_,d'⟩,_⟩:=I.list h'
 rw [e] at e';cases e'
 rw [d] at d'
 injection d' with d1 _
 have:its=its':=by simpa using congrArg J7b d1
 subst this
 exact r.inj r'
theorem Inv.tuple_inj (I:Inv X pins σ H s) (h:SqT X.K H a xs) (h':SqT X.K H a ys):xs=ys:=by
 obtain ⟨its,r,⟨o,e,_,n,d⟩,_⟩:=I.tuple h
 obtain ⟨its',r',⟨o',e',_,n',d'⟩,_⟩:=I.tuple h'
 rw [e] at e';cases e'
 rw [d] at d'
 injection d' with d1 _
 have:its=its':=by simpa using congrArg J7b d1
 subst this
 exact r.inj r'
end
noncomputable abbrev Cx.wish (X:Cx) (E:J9j->J9k->Prop):Cx:={ X with xe:=E }
noncomputable abbrev Cx.nox (X:Cx):Cx:=X.wish λ _ _=>False
theorem Cx.Ok.wish {X:Cx}(ok:X.Ok) (E:J9j->J9k->Prop):(X.wish E).Ok:=
 ⟨ok.mod,ok.kind,ok.glob,ok.blt,ok.above,ok.inj,ok.has,ok.cab,ok.hd,ok.frames,ok.stk,ok.exf,ok.bs,ok.bsz,ok.noex,ok.exfs,ok.funs,ok.frf⟩
theorem Cx.Ok.unwish {X:Cx}{E:J9j->J9k->Prop}(ok:(X.wish E).Ok):X.Ok:=
 ⟨ok.mod,ok.kind,ok.glob,ok.blt,ok.above,ok.inj,ok.has,ok.cab,ok.hd,ok.frames,ok.stk,ok.exf,ok.bs,ok.bsz,ok.noex,ok.exfs,ok.funs,ok.frf⟩
section
variable {X:Cx}{pins:List (Addr×Obj)}{σ:St}{H:Hp}{s:J9k}{E:J9j->J9k->Prop}
theorem Inv.wish (I:Inv X pins σ H s) (E:J9j->J9k->Prop):Inv (X.wish E) pins σ H s:=⟨I.ok.wish E,I.os,I.bare,I.base,I.loc,I.cell,I.free,I.freeC,I.pin,I.hok,I.len⟩
theorem Inv.unwish (I:Inv (X.wish E) pins σ H s):Inv X pins σ H s:=⟨I.ok.unwish,I.os,I.bare,I.base,I.loc,I.cell,I.free,I.freeC,I.pin,I.hok,I.len⟩
theorem SP.unwish {D:Ends}{f:Flow}{s':J9k}(h:SP (X.wish E) pins D f s'):SP X pins D f s':=by
 cases f with
 | next=>obtain ⟨σ',H',I,q⟩:=h;exact ⟨σ',H',I.unwish,q⟩
 | brk=>obtain ⟨σ',H',I,q⟩:=h;exact ⟨σ',H',I.unwish,q⟩
 | cont=>obtain ⟨σ',H',I,q⟩:=h;exact ⟨σ',H',I.unwish,q⟩
 | ret u=>obtain ⟨v,σ',H',I,r,q⟩:=h;exact ⟨v,σ',H',I.unwish,r,q⟩
theorem PSs.nox {st:List Stmt}{t:TS}(h:PSs X.nox st t):PSs X st t:=λ pins s σ H D I hw=>
 wpAny_mono (h pins s σ H D (I.wish _) hw) (λ _ _ q=>q.unwish) λ _ _ z=>Ua z
end
section
variable {X:Cx}{st:Stmt}{rest:List Stmt}{t u:TS}{e:Expr}{te:TE}{pos:Pos}
def Jrr:TS:=λ D σ H=>D.nx σ H
def Jaq (t u:TS):TS:=λ D σ H=>t { D with nx:=u D } σ H
theorem J9:PSs X [] Jrr:=λ _ _ σ H _ I h=>Yao ⟨σ,H,I,h⟩
theorem Ja (h1:PS X st t) (h2:PSs X rest u):PSs X (st::rest) (Jaq t u):=by
 intro pins s σ H D I h
 refine wpAny_execs_cons (thn (h1 pins s σ H { D with nx:=u D } I h) λ f s1 q=>?_)
 cases f with
 | next=>
  obtain ⟨σ',H',I',q⟩:=q
  exact h2 pins s1 σ' H' D I' q
 | ret v=>exact q
 | brk=>exact q
 | cont=>exact q
theorem Ji (h1:PS X st t):PSs X [st] t:=by
 intro pins s σ H D I h
 refine wpAny_execs_cons (thn (h1 pins s σ H D I h) λ f s1 q=>?_)
 cases f with
 | next=>exact Yao q
 | ret v=>exact q
 | brk=>exact q
 | cont=>exact q
theorem Inv.quiet {pins:List (Addr×Obj)}{σ:St}{H:Hp}{s:J9k}(I:Inv X pins σ H s):interactive X.env=false:=by simp [interactive,I.ok.kind]
def Jo7 (te:TE):TS:=λ D σ H=>te σ H λ _ H1=>D.nx σ H1
theorem Bo (he:PE X e te) (hs:Yad e none pos.line X.env=pure false:=by rfl):PS X (.Expr e pos) (Jo7 te):=by
 intro pins s σ H D I h
 exact wpAny_Expr_any (thn (he pins s σ H _ I h) λ v s1 ⟨x,H1,I1,r1,q1⟩=>⟨σ,H1,I1,q1⟩) I.quiet hs
def Jrs (te:TE):TS:=λ D σ H=>te σ H D.rt
theorem Js (he:PE X e te):PS X (.Return (some e) pos) (Jrs te):=by
 intro pins s σ H D I h
 exact wpAny_Return_some (thn (he pins s σ H _ I h) λ v s1 ⟨x,H1,I1,r1,q1⟩=>⟨x,σ,H1,I1,r1,q1⟩)
def Jz1 (c:TT) (t u:TS):TS:=λ D σ H=>c σ H λ b H1=>if b=true then t D σ H1 else u D σ H1
theorem Zd {c:Expr}{a b:List Stmt}{tc:TT}(hc:PT X c tc) (ha:PSs X a t) (hb:PSs X b u):PS X (.If c a b pos) (Jz1 tc t u):=by
 intro pins s σ H D I h
 refine wpAny_If (thn (hc pins s σ H _ I h) λ d s1 ⟨H1,I1,q1⟩=>?_)
 cases d with
 | true=>exact ha pins s1 σ H1 D I1 q1
 | false=>exact hb pins s1 σ H1 D I1 q1
def Jx8:TS:=λ _ _ _=>False
theorem Ji5 {sts:List Stmt}:PSs X sts Jx8:=λ _ _ _ _ _ _ h=>h.elim
end
abbrev TG:=V->St->Hp->(St->Hp->Prop)->Prop
abbrev TGs:=List V->St->Hp->(St->Hp->Prop)->Prop
def PG (X:Cx) (target:Expr) (t:TG):Prop:=
 ∀ (pins:List (Addr×Obj)) (s:J9k) (σ:St) (H:Hp) (v:V) (u:J9j) (Q:St->Hp->Prop),Inv X pins σ H s->Yl v u->t v σ H Q ->
  J9l (model X.prog X.w) X.A (assign target X.env u) (λ _ s'=>∃ σ' H',Inv X pins σ' H' s'/\Q σ' H') X.xe s
def PGs (X:Cx) (ts:List Expr) (t:TGs):Prop:=
 ∀ (pins:List (Addr×Obj)) (s:J9k) (σ:St) (H:Hp) (vs:List V) (us:List J9j) (Q:St->Hp->Prop),Inv X pins σ H s->Yb vs us->t vs σ H Q ->
  J9l (model X.prog X.w) X.A (assignInOrder ((assignEach ts X.env).map (·.2)) us) (λ _ s'=>∃ σ' H',Inv X pins σ' H' s'/\Q σ' H') X.xe s
abbrev Jx9:=V->V->V->Hp->(Hp->Prop)->Prop
def Jz2 (X:Cx) (t:Jx9):Prop:=
 ∀ (pins:List (Addr×Obj)) (s:J9k) (σ:St) (H:Hp) (o i v:V) (ov iv u:J9j) (Q:Hp->Prop),Inv X pins σ H s->Yl o ov->Yl i iv->Yl v u->t o i v H Q ->
  J9l (model X.prog X.w) X.A (setItem ov iv u) (λ _ s'=>∃ H',Inv X pins σ H' s'/\Q H') X.xe s
abbrev TIp:=V->V->Hp->VK->Prop
def PIp (X:Cx) (op:Yam) (t:TIp):Prop:=
 ∀ (pins:List (Addr×Obj)) (s:J9k) (σ:St) (H:Hp) (x y:V) (v u:J9j) (Q:VK),Inv X pins σ H s->Yl x v->Yl y u->t x y H Q ->
  J9l (model X.prog X.w) X.A (inplaceOp op v u) (EP X pins σ Q) X.xe s
section
variable {X:Cx}{pos:Pos}
def V2 (i:Nat):TG:=λ v σ H Q=>Q (σ.set i (some v)) H
theorem Jv {i:Nat}{x:Str}(hN:X.N.Nodup) (hi:X.N[i]? = some x) (hx:Loc X.env.scope x) (hf:X.fn x=true\/X.env.scope.names.lookup x=some .local := by first | exact .inl rfl | exact .inr rfl | assumption):PG X (.Name x pos) (V2 i):=by
 intro pins s σ H v u Q I r h
 exact Yas (Jbw I hN hi hx r (λ s' I'=>⟨_,H,I',h⟩) hf)
def gNil:TGs:=λ vs σ H Q=>vs=[]/\Q σ H
def gCons (t:TG) (u:TGs):TGs:=λ vs σ H Q=>∃ v r,vs=v::r/\t v σ H λ σ' H'=>u r σ' H' Q
theorem Jgb:PGs X [] gNil:=by
 intro pins s σ H vs us Q I r h
 obtain ⟨e,h⟩:=h
 subst e
 cases r
 exact assignInOrder_nil ⟨σ,H,I,h⟩
theorem Vc {e:Expr}{es:List Expr}{t:TG}{u:TGs}(h1:PG X e t) (h2:PGs X es u)
 (hs:(assignEach (e::es) X.env).map (·.2)=assign e X.env::(assignEach es X.env).map (·.2):=by rfl):PGs X (e::es) (gCons t u):=by
 intro pins s σ H vs us Q I r h
 obtain ⟨v,vr,e1,h⟩:=h
 subst e1
 cases r with
 | cons r rr=>
  rw [hs]
  refine assignInOrder_cons (thn (h1 pins s σ H _ _ _ I r h) λ _ s1 ⟨σ1,H1,I1,q1⟩=>?_)
  exact h2 pins s1 σ1 H1 _ _ Q I1 rr q1
def Jrt (K:Qc) (n:Nat) (t:TGs):TG:=λ v σ H Q=>∃ a xs,v = .ref a/\SqT K H a xs/\xs.length=n/\t xs σ H Q
theorem Jnl {es:List Expr}{k:Nat}{t:TGs}{n:Nat}(hc:X.calm=true) (h:PGs X es t)
 (hn:(assignEach es X.env).length=n:=by rfl) (hst:(assignEach es X.env).findIdx? (·.1)=none:=by rfl):PG X (.Tuple es k pos) (Jrt X.K n t):=by
 intro pins s σ H v u Q I r hw
 obtain ⟨a,xs,e1,hq,hl,hw⟩:=hw
 subst e1
 cases r
 obtain ⟨its,rv,ht,hz⟩:=I.tuple hq
 refine assign_Tuple_tuple (I.ok.hd hc) ht (by simp [hn,<- hl,rv.length]) hst λ h' hx=>?_
 have I1:Inv X pins σ H { s with heap:=h' }:=I.kept (t':=s.toks) λ b o e=>hx b o (Xg (Qv e)) e
 exact h pins _ σ H xs _ Q I1 (by simpa using rv) hw
def Jnm (to ti:TE) (t:Jx9):TG:=λ v σ H Q=>to σ H λ o H1=>ti σ H1 λ i H2=>t o i v H2 λ H3=>Q σ H3
theorem Zs {o i:Expr}{to ti:TE}{t:Jx9}(ho:PE X o to) (hi:PE X i ti) (hs:Jz2 X t)
 (ha:∀ v,assign (.Subscript o i pos) X.env v=(do
  let ov <- holding [v] (eval o X.env)
  let iv <- holding [v,ov] (eval i X.env)
  J90 pos
  holding [v,ov,iv] (setItem ov iv v)
  release [v,ov,iv] []):=by intro _;rfl):PG X (.Subscript o i pos) (Jnm to ti t):=by
 intro pins s σ H v u Q I r h
 rw [ha]
 refine wpAny_bind (wpAny_holding (thn (ho pins s σ H _ I h) λ ov s1 ⟨x,H1,I1,r1,q1⟩=>?_))
 refine wpAny_bind (wpAny_holding (thn (hi pins s1 σ H1 _ I1 q1) λ iv s2 ⟨y,H2,I2,r2,q2⟩=>?_))
 refine wpAny_bind (wpAny_standAt (wpAny_bind (wpAny_holding (thn (hs pins s2 σ H2 x y v ov iv u _ I2 r1 r2 r q2) λ _ s3 ⟨H3,I3,q3⟩=>?_))))
 exact wpAny_release ⟨σ,H3,I3,q3⟩
def Jc5 (te:TE) (g:TG):TS:=λ D σ H=>te σ H λ x H1=>g x σ H1 D.nx
theorem Yn {tg e:Expr}{te:TE}{g:TG}(he:PE X e te) (hg:PG X tg g) (hs:swapsWithSole [tg] e pos.line X.env=pure false:=by rfl) (hw:swappedStores [tg] e X.env=pure none:=by rfl)
 (h1:(assignEach [tg] X.env).map (·.2)=[assign tg X.env]:=by rfl):PS X (.Assign [tg] e pos) (Jc5 te g):=by
 intro pins s σ H D I h
 refine wpAny_Assign_stores (thn (he pins s σ H _ I h) λ v s1 ⟨x,H1,I1,r1,q1⟩=>?_) hs hw
 rw [h1]
 exact thn (hg pins s1 σ H1 x v _ I1 r1 q1) λ _ s2 q=>q
theorem J0 {i:Nat}{x:Str}{e:Expr}{te:TE}{pos':Pos}(hN:X.N.Nodup) (hi:X.N[i]? = some x) (hx:Loc X.env.scope x) (he:PE X e te) (hs:Yad e (some (.Name x pos')) pos.line X.env=pure false:=by rfl) (hf:X.fn x=true\/X.env.scope.names.lookup x=some .local := by first | exact .inl rfl | exact .inr rfl | assumption) :
 PS X (.Assign [.Name x pos'] e pos) (Jc5 te (V2 i)):=by
 intro pins s σ H D I h
 refine wpAny_Assign_Name (thn (he pins s σ H _ I h) λ v s1 ⟨y,H1,I1,r1,q1⟩=>?_) hs
 exact Jbw I1 hN hi hx r1 (λ s2 I2=>⟨_,H1,I2,q1⟩) hf
def Jz3 (i j:Nat) (ta:TA):TS:=λ D σ H=>ta σ H λ vs H1=>∃ v w,vs=[v,w]/\D.nx ((σ.set i (some v)).set j (some w)) H1
theorem Jnn {i j:Nat}{x y:Str}{a b:Expr}{ta:TA}{px py pt:Pos}{kt k2 pt2} (hc:X.calm=true) (hN:X.N.Nodup) (hi:X.N[i]? = some x) (hj:X.N[j]? = some y) (hij:i≠j)
 (hx:X.env.scope.names.lookup x=some .local) (hy:X.env.scope.names.lookup y=some .local) (ha:PA X [a,b] ta)
 (hw:swappedStores [.Tuple [.Name x px,.Name y py] kt pt] (.Tuple [a,b] k2 pt2) X.env=pure (some [x,y]))
 (hs:swapsWithSole [.Tuple [.Name x px,.Name y py] kt pt] (.Tuple [a,b] k2 pt2) pos.line X.env=pure false:=by rfl) :
 PS X (.Assign [.Tuple [.Name x px,.Name y py] kt pt] (.Tuple [a,b] k2 pt2) pos) (Jz3 i j ta):=by
 intro pins s σ H D I h
 rw [exec_Assign_arm]
 refine wpAny_bind (wpAny_standAt ?_)
 rw [hs]
 refine wpAny_bind (wpAny_pure ?_)
 rw [if_neg (by decide)]
 refine wpAny_bind (Tuple_ (thn (ha _ pins s σ H _ I h) λ us s1 ⟨vs,H1,I1,r1,q1⟩=>?_))
 obtain ⟨v,w,e1,q1⟩:=q1
 subst e1
 obtain ⟨u1,u2,rfl,rv,rw'⟩:∃ u1 u2,us=[u1,u2]/\Yl v u1/\Yl w u2:=by
  cases r1 with
  | cons p q=>
   cases q with
   | cons p' q'=>
    cases q'
    exact ⟨_,_,rfl,p,p'⟩
 refine wpAny_newObj_type ?_ (by show 2<=sizeLine;decide)
 have I2:Inv X pins σ H1 { s1 with heap:=s1.heap.push { cls:=.type "tuple",data:=.seq [u1,u2].toArray } }:=I1.kept (t':=s1.toks) λ b o e=>Qu _ e
 rw [hw]
 refine wpAny_bind (wpAny_pure ?_)
 show J9l (model X.prog X.w) X.A (do rule "assign.swapped-stores";let items <- unpackItems (.ref s1.heap.objs.size) 2 none;assignInOrder [λ v=>bindName X.env y v,λ v=>bindName X.env x v] items.reverse;pure Flow.next) _ _ _
 refine wpAny_bind (wpAny_rule (wpAny_bind (unpackItems_tuple (items:=#[u1,u2]) (I.ok.hd hc) (IsTup.new s1.heap _) λ h' hx'=>?_)))
 have I3:=I2.kept (h':=h') (t':=s1.toks) λ b o e=>hx' b o (Xg (Qv e)) e
 show J9l _ _ (assignInOrder [λ v=>bindName X.env y v,λ v=>bindName X.env x v] [u2,u1] >>= λ _=>pure Flow.next) _ _ _
 refine wpAny_bind (assignInOrder_cons (wpAny_bindName (Jbw I3 hN hj (.inl hy) rw' (λ s2 I4=>?_) (.inr hy))))
 refine assignInOrder_cons (wpAny_bindName (Jbw I4 hN hi (.inl hx) rv (λ s3 I5=>assignInOrder_nil (wpAny_pure ?_)) (.inr hx)))
 rw [J7c _ _ (Qj hij)] at I5
 exact ⟨_,H1,I5,q1⟩
def Jz4 (i:Nat) (te:TE) (ti:TIp):TS:=λ D σ H=>∃ x,σ[i]? = some (some x)/\te σ H λ y H1=>ti x y H1 λ z H2=>D.nx (σ.set i (some z)) H2
theorem Jya {i:Nat}{x:Str}{e:Expr}{te:TE}{op:Yam}{ti:TIp}{pos':Pos}(hN:X.N.Nodup) (hi:X.N[i]? = some x) (hx:Loc X.env.scope x) (he:PE X e te) (ho:PIp X op ti) (hf:X.fn x=true\/X.env.scope.names.lookup x=some .local := by first | exact .inl rfl | exact .inr rfl | assumption) :
 PS X (.AugAssign (.Name x pos') op e pos) (Jz4 i te ti):=by
 intro pins s σ H D I h
 obtain ⟨v,e1,h⟩:=h
 obtain ⟨m,hn,hl⟩:=I.loc
 have vis:Vis X.env.scope x:=by rcases hx with k | k;exact .inl k;exact .inr (.inl k)
 obtain ⟨u,r,l⟩:=hl i x v hi e1 vis
 refine wpAny_AugAssign_Name ?_
 have go:J9l (model X.prog X.w) X.A (eval e X.env) (λ w s₂=>J9l (model X.prog X.w) X.A (inplaceOp op u w) (λ r s₃=>J9l (model X.prog X.w) X.A (storeName X.env x r) (λ _=>SP X pins D .next) X.xe s₃) X.xe s₂) X.xe s:=by
  refine thn (he pins s σ H _ I h) λ w s1 ⟨y,H1,I1,r1,q1⟩=>?_
  refine thn (ho pins s1 σ H1 v y u w _ I1 r r1 q1) λ z s2 ⟨zv,H2,I2,r2,q2⟩=>?_
  exact Jbw I2 hN hi hx r2 (λ s3 I3=>⟨_,H2,I3,q2⟩) hf
 rcases l with ⟨hk,hm⟩ | ⟨hk,c,hc,hcell⟩
 . exact wpAny_loadName_local I.ok.kind hk hn hm go
 . rcases hk with hk | hk
   . exact wpAny_loadName_cell I.ok.kind hk hc hcell go
   . rcases hx with k | k
     . have:X.env.scope.names.lookup x=some .free:=hk
       rw [k] at this;cases this
     . have:X.env.scope.names.lookup x=some .free:=hk
       rw [k] at this;cases this
end
section
variable {X:Cx}{pos:Pos}
def Jru (c:TT) (tb:TS):TS:=λ D σ H=>∃ W:Nat->St->Hp->Prop,(∃ m,W m σ H)/\∀ m σ H,W m σ H ->
 c σ H λ b H1=>if b=true then ∃ N:St->Hp->Prop,(∀ σ' H',N σ' H'->∃ m',m'<m/\W m' σ' H')/\tb { D with nx:=N,ct:=N,bk:=D.nx } σ H1 else D.nx σ H1
theorem Jgr {c:Expr}{body:List Stmt}{tc:TT}{tb:TS}(hp:PassesOwn (model X.prog X.w) X.A X.env X.xe) (hc:PT X c tc) (hb:PSs X body tb):PS X (.While c body [] pos) (Jru tc tb):=by
 intro pins s σ H D I h
 obtain ⟨W,⟨m0,w0⟩,turn⟩:=h
 refine wpAny_While (codeAny_whileLoop (λ n s'=>∃ σ' H',Inv X pins σ' H' s'/\W n σ' H') ?_ m0 ⟨σ,H,I,w0⟩)
 rintro n s1 ⟨σ1,H1,I1,w1⟩
 refine J97 hp (thn (hc pins s1 σ1 H1 _ I1 (turn n σ1 H1 w1)) λ b s2 ⟨H2,I2,q2⟩=>?_)
 cases b with
 | true=>
  obtain ⟨N,hN,q2⟩:=q2
  rw [if_pos rfl]
  refine J97 hp (thn (hb pins s2 σ1 H2 _ I2 q2) λ f s3 q3=>?_)
  cases f with
  | next=>
   obtain ⟨σ3,H3,I3,n3⟩:=q3
   obtain ⟨m',hm,w3⟩:=hN σ3 H3 n3
   exact ⟨m',hm,σ3,H3,I3,w3⟩
  | cont=>
   obtain ⟨σ3,H3,I3,n3⟩:=q3
   obtain ⟨m',hm,w3⟩:=hN σ3 H3 n3
   exact ⟨m',hm,σ3,H3,I3,w3⟩
  | brk=>exact q3
  | ret v=>exact q3
 | false=>
  rw [if_neg Q6]
  exact Yao ⟨σ1,H2,I2,q2⟩
end
structure It where
 go:Nat->Hp->Prop
 yld:Nat->Hp->V->Hp->Prop
 stop:Nat->Hp->Prop
def Jcx (X:Cx) (pins:List (Addr×Obj)) (H:Hp) (b:Addr):Prop:=
 H b=none/\b≠X.env.locals/\b∉X.fs/\(b∈X.ex\/X.s₀.heap.objs.size<=b)/\(∀ x c,X.env.cells.lookup x=some c->c≠b)/\∀ p∈X.pn++pins,p.1≠b
theorem Inv.fpOk {X:Cx}{pins:List (Addr×Obj)}{σ:St}{H H':Hp}{s:J9k}{b:Addr}(I:Inv X pins σ H s) (hb:s.heap.objs.size<=b) (hn:H' b=none):Jcx X pins H' b:=by
 refine ⟨hn,J3l (Xd I.lt hb),I.nofs hb,.inr (Xl I.sz hb),λ x c e z=>?_,λ p hp z=>?_⟩
 . obtain ⟨v,q⟩:=I.cell x c e
   exact absurd (Xd q.lt (by rw [z];exact hb)) (Xf _)
 . exact absurd (Xd (Qv (I.pin p hp).1) (by rw [z];exact hb)) (Xf _)
structure Turn (P:J9n) (w:J9m) (K:Qc) (tg:Expr) (J:It) (fp:List Addr) (it:Addr) (tn:Nat->Heap->Prop):Prop where
 mem:it∈fp
 obj:∀ i h,tn i h->∀ b∈fp,∃ o,h.get? b=some o/\∀ v,o.data≠.cell v
 keep:∀ i h h',tn i h->(∀ b∈fp,∀ o,h.get? b=some o->h'.get? b=some o)->tn i h'
 item:∀ (X:Cx),X.prog=P->X.w=w->X.K=K->X.calm=true->∀ (i:Nat) (pins:List (Addr×Obj)) (s:J9k) (σ:St) (H:Hp) (E:J9j->J9k->Prop),Inv X pins σ H s->(∀ b∈fp,Jcx X pins H b)->tn i s.heap->J.go i H ->
  J9l (model P w) X.A (pyNext (.ref it)) (λ r s1=>∃ u,r=some u /\
   J9l (model P w) X.A (letOwnedTupleGo tg (.ref it) u) (λ _ s2=>∃ x H',Inv X pins σ H' s2/\Yl x u/\J.yld i H x H'/\tn (i+1) s2.heap/\∀ b∈fp,H' b=none) E s1) E s
 done:∀ (X:Cx),X.prog=P->X.w=w->X.K=K->X.calm=true->∀ (i:Nat) (pins:List (Addr×Obj)) (s:J9k) (σ:St) (H:Hp) (E:J9j->J9k->Prop),Inv X pins σ H s->(∀ b∈fp,Jcx X pins H b)->tn i s.heap->J.stop i H ->
  J9l (model P w) X.A (pyNext (.ref it)) (λ r s1=>r=none/\Inv X pins σ H s1) E s
 self:∀ (A:J9o) (i:Nat) (s:J9k) (Q:J9j->J9k->Prop) (E:J9j->J9k->Prop),tn i s.heap->Q (.ref it) s->J9l (model P w) A (pyIter (.ref it)) Q E s
abbrev TI:=St->Hp->(It->Hp->Prop)->Prop
def PIE (X:Cx) (pins:List (Addr×Obj)) (σ:St) (tg:Expr) (R:It->Hp->Prop) (itv:J9j) (s2:J9k):Prop:=
 ∃ (it:Addr) (fp:List Addr) (tn:Nat->Heap->Prop) (J:It) (H':Hp),itv = .ref it/\Inv X pins σ H' s2/\Turn X.prog X.w X.K tg J fp it tn/\tn 0 s2.heap/\(∀ b∈fp,Jcx X pins H' b)/\R J H'
def PI (X:Cx) (tg iter:Expr) (wi:TI):Prop:=
 ∀ (pins:List (Addr×Obj)) (s:J9k) (σ:St) (H:Hp) (R:It->Hp->Prop),Inv X pins σ H s->wi σ H R ->
  J9l (model X.prog X.w) X.A (eval iter X.env) (λ v s1=>J9l (model X.prog X.w) X.A (pyIter v) (PIE X pins σ tg R) X.xe s1) X.xe s
theorem Jrv {M:Model}{A:J9o}{E:J9j->J9k->Prop}{s:J9k}{tg:Expr}{it:Addr}{u:J9j}{o:Obj}{n:String}{vs:Array J9j}{Q:Unit->J9k->Prop}(ho:s.heap.get? it=some o) (hc:o.cls = .type n) (hd:o.data = .fields vs)
 (hn:["enumerate","zip","dict_itemiterator","dict_reverseitemiterator","odict_iterator","itertools.zip_longest","itertools.pairwise"].contains n=false) (hQ:Q () s):J9l M A (letOwnedTupleGo tg (.ref it) u) Q E s:=by
 unfold letOwnedTupleGo
 cases tg<;>first
  | exact wpAny_pure hQ
  | (cases u<;>first
   | exact wpAny_pure hQ
   | (refine wpAny_bind (wpAny_load ho ?_)
      rw [hc,hd]
      show J9l M A (if (["enumerate","zip","dict_itemiterator","dict_reverseitemiterator","odict_iterator","itertools.zip_longest","itertools.pairwise"].contains n&&vs[0]? == some (rawInt _))=true then _ else _) Q E s
      rw [if_neg (by intro h;rw [hn,J37] at h;cases h)]
      exact wpAny_pure hQ))
noncomputable def Itl (K:Qc) (a:Addr):It:=
 ⟨λ i H=>∃ xs x,SqL K H a xs/\xs[i]? = some x,λ i H x H'=>H'=H/\∀ xs,SqL K H a xs->xs[i]? = some x,λ i H=>∃ xs,SqL K H a xs/\xs.length<=i⟩
noncomputable def Itt (K:Qc) (a:Addr):It:=
 ⟨λ i H=>∃ xs x,SqT K H a xs/\xs[i]? = some x,λ i H x H'=>H'=H/\∀ xs,SqT K H a xs->xs[i]? = some x,λ i H=>∃ xs,SqT K H a xs/\xs.length<=i⟩
noncomputable def Itr (lo:Int) (n:Nat):It:=⟨λ i _=>i<n,λ i H x H'=>H'=H/\x = .int (lo+i),λ i _=>n<=i⟩
theorem Jqi {P:J9n}{w:J9m}{K:Qc}{tg:Expr}(a it:Addr):Turn P w K tg (Itl K a) [it] it (λ i h=>h.IsListIter it a i) where
 mem:=by simp
 obj:=λ i h st b hb=>by
  have e:b=it:=by simpa using hb
  subst e
  obtain ⟨o,e,c,d⟩:=st
  exact ⟨o,e,λ v z=>by rw [d] at z;cases z⟩
 keep:=λ i h h' st k=>st.at λ o e=>k it (by simp) o e
 item:=by
  intro X hP hw hK hc i pins s σ H E I hf st hg
  subst hP hw hK
  obtain ⟨xs,x,hq,hx⟩:=hg
  obtain ⟨its,rv,p,hz⟩:=I.list hq
  obtain ⟨u,hu,ru⟩:=rv.get hx
  obtain ⟨f0,f1,f2,f3,f4,f5⟩:=hf it (by simp)
  refine wpAny_pyNext_list_item st p.isList (x:=u) (by simpa using hu) λ h' st' sb=>?_
  have I1:Inv X pins σ H { s with heap:=h' }:=I.turned (t':=s.toks) (λ b o hb e=>(sb.2 b hb).trans e) f0 f1 f3 f4 f5
  obtain ⟨o,e,c,d⟩:=id st'
  exact ⟨u,rfl,Jrv (s:={ s with heap:=h' }) e c d (by decide) ⟨x,H,I1,ru,⟨rfl,λ ys hy=>by rw [I.list_inj hy hq];exact hx⟩,st',λ b hb=>(hf b hb).1⟩⟩
 done:=by
  intro X hP hw hK hc i pins s σ H E I hf st hg
  subst hP hw hK
  obtain ⟨xs,hq,hx⟩:=hg
  obtain ⟨its,rv,p,hz⟩:=I.list hq
  obtain ⟨f0,f1,f2,f3,f4,f5⟩:=hf it (by simp)
  have hl:=rv.length
  exact wpAny_pyNext_list_end (I.ok.hd hc) st p.isList (by simp;omega) λ h' eb=>⟨rfl,I.turned (t':=s.toks) (λ b o hb e=>eb b o hb e) f0 f1 f3 f4 f5⟩
 self:=λ _ _ _ _ _ st h=>wpAny_pyIter_listiter st h
theorem Jno {P:J9n}{w:J9m}{K:Qc}{tg:Expr}(a it:Addr):Turn P w K tg (Itt K a) [it] it (λ i h=>h.IsTupleIter it a i) where
 mem:=by simp
 obj:=λ i h st b hb=>by
  have e:b=it:=by simpa using hb
  subst e
  obtain ⟨o,e,c,d⟩:=st
  exact ⟨o,e,λ v z=>by rw [d] at z;cases z⟩
 keep:=λ i h h' st k=>st.at λ o e=>k it (by simp) o e
 item:=by
  intro X hP hw hK hc i pins s σ H E I hf st hg
  subst hP hw hK
  obtain ⟨xs,x,hq,hx⟩:=hg
  obtain ⟨its,rv,p,hz⟩:=I.tuple hq
  obtain ⟨u,hu,ru⟩:=rv.get hx
  obtain ⟨f0,f1,f2,f3,f4,f5⟩:=hf it (by simp)
  refine wpAny_pyNext_tuple_item st (show s.heap.IsTuple a its.toArray from p) (x:=u) (by simpa using hu) λ h' st' sb=>?_
  have I1:Inv X pins σ H { s with heap:=h' }:=I.turned (t':=s.toks) (λ b o hb e=>(sb.2 b hb).trans e) f0 f1 f3 f4 f5
  obtain ⟨o,e,c,d⟩:=id st'
  exact ⟨u,rfl,Jrv (s:={ s with heap:=h' }) e c d (by decide) ⟨x,H,I1,ru,⟨rfl,λ ys hy=>by rw [I.tuple_inj hy hq];exact hx⟩,st',λ b hb=>(hf b hb).1⟩⟩
 done:=by
  intro X hP hw hK hc i pins s σ H E I hf st hg
  subst hP hw hK
  obtain ⟨xs,hq,hx⟩:=hg
  obtain ⟨its,rv,p,hz⟩:=I.tuple hq
  obtain ⟨f0,f1,f2,f3,f4,f5⟩:=hf it (by simp)
  have hl:=rv.length
  exact wpAny_pyNext_tuple_end (I.ok.hd hc) st (show s.heap.IsTuple a its.toArray from p) (by simp;omega) λ h' eb=>⟨rfl,I.turned (t':=s.toks) (λ b o hb e=>eb b o hb e) f0 f1 f3 f4 f5⟩
 self:=λ _ _ _ _ _ st h=>wpAny_pyIter_tupleiter st h
theorem Jnp {P:J9n}{w:J9m}{K:Qc}{tg:Expr}(it:Addr) (lo:Int) (n:Nat):Turn P w K tg (Itr lo n) [it] it (λ i h=>IsRangeIter h it (lo+(i:Nat)*1) ((n:Int)-(i:Nat)) 1) where
 mem:=by simp
 obj:=λ i h st b hb=>by
  have e:b=it:=by simpa using hb
  subst e
  exact ⟨_,st,λ v z=>by
   have z':J5g _=J3m v:=z
   cases z'⟩
 keep:=λ i h h' st k=>k it (by simp) _ st
 item:=by
  intro X hP hw hK hc i pins s σ H E I hf st hg
  subst hP hw hK
  obtain ⟨f0,f1,f2,f3,f4,f5⟩:=hf it (by simp)
  have W:=Walks.range (prog:=X.prog) (w:=X.w) (I.ok.hd hc) it lo 1 n
  refine W.item i s _ _ hg st λ v h' tk hv st' kk=>?_
  obtain ⟨t,rfl⟩:=hv
  have I1:Inv X pins σ H { s with heap:=h',toks:=tk }:=I.turned (λ b o hb e=>kk b o (by simpa using hb) e) f0 f1 f3 f4 f5
  refine ⟨_,rfl,Jrv (s:={ s with heap:=h',toks:=tk }) (n:="range_iterator") st' rfl rfl (by decide) ⟨.int (lo+i),H,I1,⟨t,?_⟩,⟨rfl,rfl⟩,st',λ b hb=>(hf b hb).1⟩⟩
  rw [J5h]
 done:=by
  intro X hP hw hK hc i pins s σ H E I hf st hg
  subst hP hw hK
  obtain ⟨f0,f1,f2,f3,f4,f5⟩:=hf it (by simp)
  exact wpAny_pyNext_range_end (I.ok.hd hc) st (by have:n<=i:=hg;omega) λ h' eb=>⟨rfl,I.turned (t':=s.toks) (λ b o hb e=>eb b o hb e) f0 f1 f3 f4 f5⟩
 self:=λ _ _ _ _ _ st h=>wpAny_pyIter_rangeiter st h
section
variable {X:Cx}{tg:Expr}
def Jo8 (K:Qc) (tl:TE):TI:=λ σ H R=>tl σ H λ x H1=>∃ a,x = .ref a/\(∃ xs,SqL K H1 a xs)/\R (Itl K a) H1
def Jz5 (K:Qc) (tl:TE):TI:=λ σ H R=>tl σ H λ x H1=>∃ a,x = .ref a/\(∃ xs,SqT K H1 a xs)/\R (Itt K a) H1
theorem Zq {l:Expr}{tl:TE}(hl:PE X l tl):PI X tg l (Jo8 X.K tl):=by
 intro pins s σ H R I h
 refine thn (hl pins s σ H _ I h) λ v s1 ⟨x,H1,I1,r1,q1⟩=>?_
 obtain ⟨a,e,⟨xs,hq⟩,q⟩:=q1
 subst e
 cases r1
 obtain ⟨its,rv,p,hz⟩:=I1.list hq
 refine wpAny_pyIter_list p.isList ?_
 refine ⟨s1.heap.objs.size,[s1.heap.objs.size],_,_,H1,rfl,I1.kept (t':=s1.toks) λ b o e=>Qu _ e,Jqi a _,⟨_,Xe _ rfl,rfl,rfl⟩,λ b hb=>?_,q⟩
 have e:b=s1.heap.objs.size:=by simpa using hb
 subst e
 exact I1.fpOk (Ql _) (I1.hok.fresh (Ql _))
theorem Jnq {l:Expr}{tl:TE}(hl:PE X l tl):PI X tg l (Jz5 X.K tl):=by
 intro pins s σ H R I h
 refine thn (hl pins s σ H _ I h) λ v s1 ⟨x,H1,I1,r1,q1⟩=>?_
 obtain ⟨a,e,⟨xs,hq⟩,q⟩:=q1
 subst e
 cases r1
 obtain ⟨its,rv,p,hz⟩:=I1.tuple hq
 refine Yap (show s1.heap.IsTuple a its.toArray from p) ?_
 refine ⟨s1.heap.objs.size,[s1.heap.objs.size],_,_,H1,rfl,I1.kept (t':=s1.toks) λ b o e=>Qu _ e,Jno a _,⟨_,Xe _ rfl,rfl,rfl⟩,λ b hb=>?_,q⟩
 have e:b=s1.heap.objs.size:=by simpa using hb
 subst e
 exact I1.fpOk (Ql _) (I1.hok.fresh (Ql _))
theorem Jrw {pins:List (Addr×Obj)}{σ:St}{H:Hp}{s:J9k}{R:It->Hp->Prop}{E:J9j->J9k->Prop}{lo hi:Int}{t u v:Tok}{tk:Nat}(I:Inv X pins σ H s) (h1:-(2^62)<=lo) (h2:lo<2^62) (h3:-(2^62)<=hi) (h4:hi<2^62)
 (q:R (Itr lo (hi-lo).toNat) H):J9l (model X.prog X.w) X.A (pyIter (.ref s.heap.objs.size)) (PIE X pins σ tg R) E { s with heap:=s.heap.push { cls:=.type "range",data:=.fields #[.int lo t,.int hi u,.int 1 v] },toks:=tk }:=by
 refine wpAny_pyIter_range (J5i ..) (small_one h1 h2 h3 h4) ?_
 have I1:Inv X pins σ H { s with heap:=s.heap.push { cls:=.type "range",data:=.fields #[.int lo t,.int hi u,.int 1 v] },toks:=tk }:=I.kept λ b o e=>Qu _ e
 refine ⟨(s.heap.push { cls:=.type "range",data:=.fields #[.int lo t,.int hi u,.int 1 v] }).objs.size,[(s.heap.push { cls:=.type "range",data:=.fields #[.int lo t,.int hi u,.int 1 v] }).objs.size],_,_,H,rfl,
  I1.kept (t':=tk) λ b o e=>Qu _ e,Jnp _ lo (hi-lo).toNat,?_,λ b hb=>?_,q⟩
 . have e1:lo+((0:Nat):Int)*1=lo:=by simp
   have e2:(((hi-lo).toNat:Nat):Int)-((0:Nat):Int)=J84 lo hi 1:=by rw [Yat];split<;>omega
   show IsRangeIter _ _ (lo+((0:Nat):Int)*1) ((((hi-lo).toNat:Nat):Int)-((0:Nat):Int)) 1
   rw [e1,e2]
   exact Xe _ rfl
 . have e:b=(s.heap.push { cls:=.type "range",data:=.fields #[.int lo t,.int hi u,.int 1 v] }).objs.size:=by simpa using hb
   subst e
   exact I1.fpOk (Ql _) (I1.hok.fresh (Ql _))
def Jw6 (ta:TA):TI:=λ σ H R=>ta σ H λ vs H1=>∃ j:Int,vs=[.int j]/\-(2^62)<=j/\j<2^62/\R (Itr 0 j.toNat) H1
theorem Yp {a:Expr}{ta:TA}{p pos:Pos}(hg:Gl X "range") (hm:X.mg "range" = none) (ha:PA X [a] ta) (hs:starEach [a] X.env=[(false,eval a X.env)]:=by rfl):PI X tg (.Call (.Name "range" p) [a] [] pos) (Jw6 ta):=by
 intro pins s σ H R I h
 refine Call_ (Bw I hg hm boot_range (U0 (thn (ha pos pins s σ H _ I h) λ us s1 ⟨vs,H1,I1,r1,q1⟩=>?_) hs rfl))
 obtain ⟨j,e,q1,q2,q⟩:=q1
 subst e
 cases r1 with
 | cons r rr=>
  cases rr
  obtain ⟨t,rfl⟩:=r
  exact call_range_1 (Jrw I1 (by omega) (by omega) q1 q2 (by simpa using q))
def Jz6 (wi:TI) (g:TG) (tb:TS):TS:=λ D σ H=>wi σ H λ J H1=>∃ W:Nat->Nat->St->Hp->Prop,(∃ m,W 0 m σ H1)/\∀ i m σ H,W i m σ H ->
 (J.stop i H/\D.nx σ H)\/(J.go i H/\∃ N:St->Hp->Prop,(∀ σ' H',N σ' H'->∃ m',m'<m/\W (i+1) m' σ' H')/\∀ x H',J.yld i H x H'->g x σ H' λ σ2 H2=>tb { D with nx:=N,ct:=N,bk:=D.nx } σ2 H2)
noncomputable def Jet (fp:List Addr) (h:Heap):List (Addr×Obj):=fp.filterMap λ b=>(h.get? b).map λ o=>(b,o)
theorem Vo {fp:List Addr}{h:Heap}{b:Addr}{o:Obj}(hb:b∈fp) (e:h.get? b=some o):(b,o)∈Jet fp h:=J7d.mpr ⟨b,hb,by rw [e];rfl⟩
theorem Jqj {fp:List Addr}{h:Heap}{p:Addr×Obj}(hp:p∈Jet fp h):p.1∈fp/\h.get? p.1=some p.2:=by
 obtain ⟨b,hb,e⟩:=J7d.mp hp
 cases q:h.get? b with
 | none=>rw [q] at e;cases e
 | some o=>
  rw [q] at e
  have e':(b,o)=p:=Xi e
  subst e'
  exact ⟨hb,q⟩
theorem Inv.pinned {pins:List (Addr×Obj)}{σ:St}{H:Hp}{s:J9k}{fp:List Addr}(I:Inv X pins σ H s) (hf:∀ b∈fp,Jcx X pins H b) (ho:∀ b∈fp,∃ o,s.heap.get? b=some o/\∀ v,o.data≠.cell v):Inv X (pins++Jet fp s.heap) σ H s:=
 I.pins_of λ p hp=>(Q4.mp hp).elim (λ z=>I.pin p (Xh _ z)) λ z=>by
  obtain ⟨hb,e⟩:=Jqj z
  obtain ⟨f0,f1,f2,_⟩:=hf p.1 hb
  obtain ⟨o,e',d⟩:=ho p.1 hb
  rw [e] at e';cases e'
  exact ⟨e,f0,f1,f2,d⟩
theorem Inv.unpinned {pins pl:List (Addr×Obj)}{σ:St}{H:Hp}{s:J9k}(I:Inv X (pins++pl) σ H s):Inv X pins σ H s:=I.pins_of λ p hp=>I.pin p (Xh _ (Xk _ hp))
theorem Zt {iter:Expr}{body:List Stmt}{wi:TI}{g:TG}{tb:TS}{pos:Pos}(hp:PassesOwn (model X.prog X.w) X.A X.env X.xe) (hc:X.calm=true) (hi:PI X tg iter wi) (hg:PG X tg g) (hb:PSs X body tb)
 (hs:∀ x,Yan iter X.env x=pure x:=by intro _;rfl):PS X (.For tg iter body [] pos) (Jz6 wi g tb):=by
 intro pins s σ H D I h
 refine wpAny_For (thn (hi pins s σ H _ I h) λ v s1 h1=>thn h1 λ itv s2 h2=>?_) hs
 obtain ⟨it,fp,tn,J,H2,e,I2,T,st2,f2,W,⟨m0,w0⟩,turn⟩:=h2
 subst e
 -- what stays true of the iterator's objects through the loop
 have stat:∀ {H':Hp},(∀ b∈fp,H' b=none)->∀ b∈fp,Jcx X pins H' b:=λ hn b hb=>⟨hn b hb,(f2 b hb).2⟩
 refine codeAny_forLoop_any (λ n s'=>∃ i σ' H',Inv X pins σ' H' s'/\tn i s'.heap/\(∀ b∈fp,H' b=none)/\W i n σ' H') ?_ m0 ⟨0,σ,H2,I2,st2,λ b hb=>(f2 b hb).1,w0⟩
 rintro n s3 ⟨i,σ3,H3,I3,st3,fr3,w3⟩
 rcases turn i n σ3 H3 w3 with ⟨stop,qn⟩ | ⟨go,N,hN,step⟩
 . refine J97 hp (thn (T.done X rfl rfl rfl hc i pins s3 σ3 H3 X.xe I3 (stat fr3) st3 stop) λ r s4 ⟨hr,I4⟩=>?_)
   subst hr
   exact Yao ⟨σ3,H3,I4,qn⟩
 . refine J97 hp (thn (T.item X rfl rfl rfl hc i pins s3 σ3 H3 X.xe I3 (stat fr3) st3 go) λ r s4 ⟨u,hr,h4⟩=>?_)
   subst hr
   refine J97 hp (thn h4 λ _ s5 ⟨x,H5,I5,r5,y5,st5,fr5⟩=>?_)
   have I5':=I5.pinned (stat fr5) (T.obj _ _ st5)
   refine J97 hp (thn (hg _ s5 σ3 H5 x u _ I5' r5 (step x H5 y5)) λ _ s6 ⟨σ6,H6,I6,q6⟩=>?_)
   refine J97 hp (thn (hb _ s6 σ6 H6 _ I6 q6) λ f s7 q7=>?_)
   have again:∀ {σ7:St} {H7:Hp},Inv X (pins++Jet fp s5.heap) σ7 H7 s7->N σ7 H7->∃ m,m<n/\∃ i σ' H',Inv X pins σ' H' s7/\tn i s7.heap/\(∀ b∈fp,H' b=none)/\W i m σ' H':=λ {σ7 H7} I7 n7=>by
    obtain ⟨m',hm,w7⟩:=hN σ7 H7 n7
    refine ⟨m',hm,i+1,σ7,H7,I7.unpinned,T.keep _ _ _ st5 λ b hb o e=>(I7.pin (b,o) (Xh _ (Xh _ (Vo hb e)))).1,λ b hb=>?_,w7⟩
    obtain ⟨o,e,d⟩:=T.obj _ _ st5 b hb
    exact (I7.pin (b,o) (Xh _ (Xh _ (Vo hb e)))).2.1
   cases f with
   | next=>obtain ⟨σ7,H7,I7,n7⟩:=q7;exact again I7 n7
   | cont=>obtain ⟨σ7,H7,I7,n7⟩:=q7;exact again I7 n7
   | brk=>obtain ⟨σ7,H7,I7,q7⟩:=q7;exact ⟨σ7,H7,I7.unpinned,q7⟩
   | ret v=>obtain ⟨x7,σ7,H7,I7,r7,q7⟩:=q7;exact ⟨x7,σ7,H7,I7.unpinned,r7,q7⟩
end
abbrev R2:=V->V->Hp->VK->Prop
def OpR (X:Cx) (f:J9j->J9j->Sem J9j) (r:R2):Prop:=
 ∀ (pins:List (Addr×Obj)) (s:J9k) (σ:St) (H:Hp) (x y:V) (v u:J9j) (Q:VK),Inv X pins σ H s->Yl x v->Yl y u->r x y H Q ->
  J9l (model X.prog X.w) X.A (f v u) (EP X pins σ Q) X.xe s
def UnR (X:Cx) (f:J9j->Sem J9j) (r:V->Hp->VK->Prop):Prop:=
 ∀ (pins:List (Addr×Obj)) (s:J9k) (σ:St) (H:Hp) (x:V) (v:J9j) (Q:VK),Inv X pins σ H s->Yl x v->r x H Q ->
  J9l (model X.prog X.w) X.A (f v) (EP X pins σ Q) X.xe s
def Bj (X:Cx) (f:J9j) (r:List V->Hp->VK->Prop):Prop:=
 ∀ (pins:List (Addr×Obj)) (s:J9k) (σ:St) (H:Hp) (xs:List V) (us:List J9j) (Q:VK),Inv X pins σ H s->Yb xs us->r xs H Q ->
  J9l (model X.prog X.w) X.A (call f us) (EP X pins σ Q) X.xe s
def J1o (X:Cx) (r:V->Hp->(Bool->Hp->Prop)->Prop):Prop:=
 ∀ (pins:List (Addr×Obj)) (s:J9k) (σ:St) (H:Hp) (x:V) (v:J9j) (Q:Bool->Hp->Prop),Inv X pins σ H s->Yl x v->r x H Q ->
  J9l (model X.prog X.w) X.A (truthy v) (TP X pins σ Q) X.xe s
def tOp (r:R2) (ta tb:TE):TE:=λ σ H Q=>ta σ H λ x H1=>tb σ H1 λ y H2=>r x y H2 Q
def tUn (r:V->Hp->VK->Prop) (ta:TE):TE:=λ σ H Q=>ta σ H λ x H1=>r x H1 Q
def rI (C:Int->Int->Prop) (g:Int->Int->V):R2:=λ x y H Q=>∃ i j,x = .int i/\y = .int j/\C i j/\Q (g i j) H
def rI0 (g:Int->Int->V):R2:=λ x y H Q=>∃ i j,x = .int i/\y = .int j/\Q (g i j) H
def rU (g:Int->V):V->Hp->VK->Prop:=λ x H Q=>∃ i,x = .int i/\Q (g i) H
section
variable {X:Cx}{a b c:Expr}{ta tb tc:TE}{pos:Pos}
theorem Jyb (ha:PE X a ta) (hb:PE X b tb) {pins:List (Addr×Obj)}{s:J9k}{σ:St}{H:Hp}{R:V->V->Hp->Prop}(I:Inv X pins σ H s)
 (h:ta σ H λ x H1=>tb σ H1 λ y H2=>R x y H2) {Q:J9j->J9k->Prop} {f:J9j->J9j->Sem J9j}
 (hf:∀ v u s2 x y H2,Inv X pins σ H2 s2->Yl x v->Yl y u->R x y H2->J9l (model X.prog X.w) X.A (f v u) Q X.xe s2) :
 J9l (model X.prog X.w) X.A (eval a X.env) (λ v s₁=>J9l (model X.prog X.w) X.A (eval b X.env) (λ u s₂=>J9l (model X.prog X.w) X.A (f v u) Q X.xe s₂) X.xe s₁) X.xe s:=by
 refine thn (ha pins s σ H _ I h) λ v s1 ⟨x,H1,I1,r1,q1⟩=>?_
 refine thn (hb pins s1 σ H1 _ I1 q1) λ u s2 ⟨y,H2,I2,r2,q2⟩=>?_
 exact hf v u s2 x y H2 I2 r1 r2 q2
theorem Ju {op:Yam}{r:R2}(ho:OpR X (binaryOp op) r) (ha:PE X a ta) (hb:PE X b tb):PE X (.BinOp a op b pos) (tOp r ta tb):=by
 intro pins s σ H Q I h
 exact wpAny_BinOp (Jyb ha hb I h λ v u s2 x y H2 I2 rx ry q=>ho pins s2 σ H2 x y v u Q I2 rx ry q)
theorem Bk {op:UnaryOp}{r:V->Hp->VK->Prop}(ho:UnR X (unaryOp op) r) (ha:PE X a ta):PE X (.UnaryOp op a pos) (tUn r ta):=by
 intro pins s σ H Q I h
 exact UnaryOp_ (thn (ha pins s σ H _ I h) λ v s1 ⟨x,H1,I1,r1,q1⟩=>ho pins s1 σ H1 x v Q I1 r1 q1)
theorem opI {f:J9j->J9j->Sem J9j}{C:Int->Int->Prop}{g:Int->Int->Int}
 (rule:∀ (i j:Int) (t u:Tok) (s:J9k) (Q:J9j->J9k->Prop) (E:J9j->J9k->Prop),C i j->Q (.int (g i j) s.toks) { s with toks:=s.toks+1 }->J9l (model X.prog X.w) X.A (f (.int i t) (.int j u)) Q E s) :
 OpR X f (rI C λ i j=>.int (g i j)):=by
 intro pins s σ H x y v u Q I rx ry h
 obtain ⟨i,j,rfl,rfl,hc,q⟩:=h
 obtain ⟨t,rfl⟩:=rx
 obtain ⟨t',rfl⟩:=ry
 exact rule i j t t' s _ _ hc ⟨.int (g i j),H,I.tok _,⟨_,rfl⟩,q⟩
theorem Jz7 {f:J9j->J9j->Sem J9j}{g:Int->Int->Int}
 (rule:∀ (i j:Int) (t u:Tok) (s:J9k) (Q:J9j->J9k->Prop) (E:J9j->J9k->Prop),Q (.int (g i j) s.toks) { s with toks:=s.toks+1 }->J9l (model X.prog X.w) X.A (f (.int i t) (.int j u)) Q E s) :
 OpR X f (rI0 λ i j=>.int (g i j)):=by
 intro pins s σ H x y v u Q I rx ry h
 obtain ⟨i,j,rfl,rfl,q⟩:=h
 obtain ⟨t,rfl⟩:=rx
 obtain ⟨t',rfl⟩:=ry
 exact rule i j t t' s _ _ ⟨.int (g i j),H,I.tok _,⟨_,rfl⟩,q⟩
theorem Ju3 {f:J9j->J9j->Sem J9j}{g:Int->Int->Bool}
 (rule:∀ (i j:Int) (t u:Tok) (s:J9k) (Q:J9j->J9k->Prop) (E:J9j->J9k->Prop),Q (.bool (g i j)) s->J9l (model X.prog X.w) X.A (f (.int i t) (.int j u)) Q E s) :
 OpR X f (rI0 λ i j=>.bl (g i j)):=by
 intro pins s σ H x y v u Q I rx ry h
 obtain ⟨i,j,rfl,rfl,q⟩:=h
 obtain ⟨t,rfl⟩:=rx
 obtain ⟨t',rfl⟩:=ry
 exact rule i j t t' s _ _ ⟨.bl (g i j),H,I,rfl,q⟩
def J1p (i j:Int):Prop:=0<=j/\j<=1000000/\i.natAbs<2^64
def Jyc (i j:Int):Prop:=(-(2^64)<i/\i<2^64)\/(-(2^64)<j/\j<2^64)
theorem Jyc.ok {i j:Int}(h:Jyc i j):IntMulOk i j:=by
 rcases h with ⟨h1,h2⟩ | ⟨h1,h2⟩
 . exact .of_left (intBits_le_64 h1 h2)
 . exact .of_right (intBits_le_64 h1 h2)
theorem Zw:OpR X (binaryOp .Add) (rI0 λ i j=>.int (i+j)):=Jz7 λ _ _ _ _ _ _ _ q=>add_int q
theorem Bx:OpR X (binaryOp .Sub) (rI0 λ i j=>.int (i-j)):=Jz7 λ _ _ _ _ _ _ _ q=>sub_int q
theorem Jeu:OpR X (binaryOp .Mult) (rI Jyc λ i j=>.int (i*j)):=opI λ _ _ _ _ _ _ _ hc q=>mul_int q hc.ok
theorem By:OpR X (binaryOp .Mod) (rI (λ _ j=>0<j) λ i j=>.int (i%j)):=opI λ i j _ _ _ _ _ hc q=>by
 have h1:(0:Int)<j:=hc
 exact mod_int' (by omega) (by rw [Int.fmod_eq_emod_of_nonneg i (by omega)];exact q)
theorem Jyd:OpR X (binaryOp .Pow) (rI J1p λ i j=>.int (i^j.toNat)):=opI λ _ _ _ _ _ _ _ hc q=>pow_int_small hc.1 hc.2.1 hc.2.2 q
theorem unI {f:J9j->Sem J9j}{g:Int->Int}
 (rule:∀ (i:Int) (t:Tok) (s:J9k) (Q:J9j->J9k->Prop) (E:J9j->J9k->Prop),Q (.int (g i) s.toks) { s with toks:=s.toks+1 }->J9l (model X.prog X.w) X.A (f (.int i t)) Q E s) :
 UnR X f (rU λ i=>.int (g i)):=by
 intro pins s σ H x v Q I rx h
 obtain ⟨i,rfl,q⟩:=h
 obtain ⟨t,rfl⟩:=rx
 exact rule i t s _ _ ⟨.int (g i),H,I.tok _,⟨_,rfl⟩,q⟩
theorem Wr:UnR X (unaryOp .USub) (rU λ i=>.int (-i)):=unI λ _ _ _ _ _ q=>neg_int q
end
noncomputable def Ju4:V->V->Bool
 | .non,.non=>true | .non,.int _=>true | .int _,.non=>true | .non,.bl _=>true | .bl _,.non=>true | .non,.str _=>true | .str _,.non=>true
 | .int _,.int _=>true | .bl _,.bl _=>true | .str _,.str _=>true | .byt _,.byt _=>true
 | .int _,.str _=>true | .str _,.int _=>true | .bl _,.str _=>true | .str _,.bl _=>true
 | _,_=>false
def rEq:R2:=λ x y H Q=>Ju4 x y=true/\Q (.bl (decide (x=y))) H
def rNe:R2:=λ x y H Q=>Ju4 x y=true/\Q (.bl (!decide (x=y))) H
theorem Jo9 {i j:Int}:decide (V.int i=V.int j)=(i==j):=by
 rw [J2l]
 simp
theorem Jrx {i j:Bool}:decide (V.bl i=V.bl j)=(i==j):=by
 rw [J2l]
 simp
theorem Jpa {i j:Str}:decide (V.str i=V.str j)=(i==j):=by
 rw [J2l]
 simp
theorem Jpb {i j:Array UInt8}:decide (V.byt i=V.byt j)=(i.toList==j.toList):=by
 rw [J2l]
 cases i
 cases j
 simp
section
variable {X:Cx}{a b c:Expr}{ta tb tc:TE}{pos:Pos}
theorem Ym {pins:List (Addr×Obj)}{σ:St}{H:Hp}{s:J9k}{Q:VK}{k k':Bool}(I:Inv X pins σ H s) (q:Q (.bl k) H) (e:k=k'):EP X pins σ Q (.bool k') s:=by
 subst e
 exact ⟨.bl k,H,I,rfl,q⟩
theorem Jc0:OpR X (compareOp .Eq) rEq:=by
 intro pins s σ H x y v u Q I rx ry h
 obtain ⟨hs,q⟩:=h
 cases x with
 | non=>
  cases rx
  cases y with
  | non=>cases ry;exact PySem.EqNone.eq_none_none (Ym I q (by simp))
  | bl j=>cases ry;exact PySem.EqNone.eq_none_bool (Ym I q (by simp))
  | int j=>obtain ⟨t',rfl⟩:=ry;exact PySem.EqNone.eq_none_int (Ym I q (by simp))
  | str j=>obtain ⟨t',rfl⟩:=ry;exact PySem.EqNone.eq_none_str (Ym I q (by simp))
  | _=>exact absurd (show false=true from hs) Q6
 | bl i=>
  cases rx
  cases y with
  | non=>cases ry;exact PySem.EqNone.eq_bool_none (Ym I q (by simp))
  | bl j=>cases ry;exact eq_bool (Ym I q Jrx)
  | str j=>obtain ⟨t',rfl⟩:=ry;exact J85 (Ym I q (by simp))
  | _=>exact absurd (show false=true from hs) Q6
 | int i=>
  obtain ⟨t,rfl⟩:=rx
  cases y with
  | non=>cases ry;exact PySem.EqNone.eq_int_none (Ym I q (by simp))
  | int j=>obtain ⟨t',rfl⟩:=ry;exact eq_int (Ym I q Jo9)
  | str j=>obtain ⟨t',rfl⟩:=ry;exact J86 (Ym I q (by simp))
  | _=>exact absurd (show false=true from hs) Q6
 | str i=>
  obtain ⟨t,rfl⟩:=rx
  cases y with
  | non=>cases ry;exact PySem.EqNone.eq_str_none (Ym I q (by simp))
  | bl j=>cases ry;exact J87 (Ym I q (by simp))
  | int j=>obtain ⟨t',rfl⟩:=ry;exact J88 (Ym I q (by simp))
  | str j=>obtain ⟨t',rfl⟩:=ry;exact eq_str (Ym I q Jpa)
  | _=>exact absurd (show false=true from hs) Q6
 | byt i=>
  obtain ⟨t,rfl⟩:=rx
  cases y with
  | byt j=>obtain ⟨t',rfl⟩:=ry;exact PySem.W.eq_bytes (Ym I q Jpb)
  | _=>exact absurd (show false=true from hs) Q6
 | _=>cases y<;>exact absurd (show false=true from hs) Q6
theorem Jlp:OpR X (compareOp .NotEq) rNe:=by
 intro pins s σ H x y v u Q I rx ry h
 obtain ⟨hs,q⟩:=h
 cases x with
 | non=>
  cases rx
  cases y with
  | non=>cases ry;exact PySem.EqNone.ne_none_none (Ym I q (by simp))
  | bl j=>cases ry;exact PySem.EqNone.ne_none_bool (Ym I q (by simp))
  | int j=>obtain ⟨t',rfl⟩:=ry;exact PySem.EqNone.ne_none_int (Ym I q (by simp))
  | str j=>obtain ⟨t',rfl⟩:=ry;exact PySem.EqNone.ne_none_str (Ym I q (by simp))
  | _=>exact absurd (show false=true from hs) Q6
 | bl i=>
  cases rx
  cases y with
  | non=>cases ry;exact PySem.EqNone.ne_bool_none (Ym I q (by simp))
  | bl j=>cases ry;exact ne_bool (Ym I q (congrArg not Jrx))
  | str j=>obtain ⟨t',rfl⟩:=ry;exact J89 (Ym I q (by simp))
  | _=>exact absurd (show false=true from hs) Q6
 | int i=>
  obtain ⟨t,rfl⟩:=rx
  cases y with
  | non=>cases ry;exact PySem.EqNone.ne_int_none (Ym I q (by simp))
  | int j=>obtain ⟨t',rfl⟩:=ry;exact ne_int (Ym I q (congrArg not Jo9))
  | str j=>obtain ⟨t',rfl⟩:=ry;exact J9a (Ym I q (by simp))
  | _=>exact absurd (show false=true from hs) Q6
 | str i=>
  obtain ⟨t,rfl⟩:=rx
  cases y with
  | non=>cases ry;exact PySem.EqNone.ne_str_none (Ym I q (by simp))
  | bl j=>cases ry;exact J9b (Ym I q (by simp))
  | int j=>obtain ⟨t',rfl⟩:=ry;exact J9c (Ym I q (by simp))
  | str j=>obtain ⟨t',rfl⟩:=ry;exact ne_str (Ym I q (congrArg not Jpa))
  | _=>exact absurd (show false=true from hs) Q6
 | byt i=>
  obtain ⟨t,rfl⟩:=rx
  cases y with
  | byt j=>obtain ⟨t',rfl⟩:=ry;exact PySem.W.ne_bytes (Ym I q (congrArg not Jpb))
  | _=>exact absurd (show false=true from hs) Q6
 | _=>cases y<;>exact absurd (show false=true from hs) Q6
theorem Jbx:OpR X (compareOp .Lt) (rI0 λ i j=>.bl (decide (i<j))):=Ju3 λ _ _ _ _ _ _ _ q=>lt_int q
theorem Jw7:OpR X (compareOp .LtE) (rI0 λ i j=>.bl (decide (i<=j))):=Ju3 λ _ _ _ _ _ _ _ q=>le_int q
theorem Ji6:OpR X (compareOp .Gt) (rI0 λ i j=>.bl (decide (j<i))):=Ju3 λ _ _ _ _ _ _ _ q=>gt_int q
theorem Jw8:OpR X (compareOp .GtE) (rI0 λ i j=>.bl (decide (j<=i))):=Ju3 λ _ _ _ _ _ _ _ q=>ge_int q
theorem Jgs:OpR X (compareOp .Is) (λ x y H Q=>y = .non/\Q (.bl (decide (x = .non))) H):=by
 intro pins s σ H x y v u Q I rx ry h
 obtain ⟨rfl,q⟩:=h
 cases ry
 refine is_none_gen (Ym I q ?_)
 cases x<;>first
  | (cases rx;rfl)
  | (obtain ⟨t,rfl⟩:=rx;rfl)
theorem Ju5:OpR X (compareOp .IsNot) (λ x y H Q=>y = .non/\Q (.bl (!decide (x = .non))) H):=by
 intro pins s σ H x y v u Q I rx ry h
 obtain ⟨rfl,q⟩:=h
 cases ry
 refine isnot_none_gen (Ym I q ?_)
 cases x<;>first
  | (cases rx;rfl)
  | (obtain ⟨t,rfl⟩:=rx;rfl)
theorem J2 (b:Expr) {op:CmpOp}(h:op≠.In:=by decide) (h2:op≠.NotIn:=by decide):Yaq op b=false:=by
 have e1:(op==CmpOp.In)=false:=by cases op<;>first | rfl | exact absurd rfl h
 have e2:(op==CmpOp.NotIn)=false:=by cases op<;>first | rfl | exact absurd rfl h2
 cases b<;>simp [Yaq,e1,e2]
theorem Wi {op:CmpOp}{r:R2}(ho:OpR X (compareOp op) r) (ha:PE X a ta) (hb:PE X b tb) (hm:Yaq op b=false):PE X (.Compare a [op] [b] pos) (tOp r ta tb):=by
 intro pins s σ H Q I h
 exact wpAny_Compare1 (Jyb ha hb I h λ v u s2 x y H2 I2 rx ry q=>ho pins s2 σ H2 x y v u Q I2 rx ry q) hm
def Jw9 (t:TE):TT:=λ σ H Q=>t σ H λ x H'=>∃ k,x = .bl k/\Q k H'
theorem Jx {op:CmpOp}{r:R2}(ho:OpR X (compareOp op) r) (ha:PE X a ta) (hb:PE X b tb) (hm:Yaq op b=false):PT X (.Compare a [op] [b] pos) (Jw9 (tOp r ta tb)):=by
 intro pins s σ H Q I h
 refine wpAny_isTrue_Compare1 (thn (ha pins s σ H _ I h) λ v s1 ⟨x,H1,I1,r1,q1⟩=>thn (hb pins s1 σ H1 _ I1 q1) λ u s2 ⟨y,H2,I2,r2,q2⟩=>
  thn (ho pins s2 σ H2 x y v u _ I2 r1 r2 q2) λ c s3 ⟨z,H3,I3,r3,k,e,q3⟩=>?_) hm
 subst e
 cases r3
 exact wpAny_truthy_bool ⟨H3,I3,q3⟩
def Jry (r r':R2) (ta tb tc:TE):TE:=λ σ H Q=>ta σ H λ x H1=>tb σ H1 λ y H2=>r x y H2 λ z H3=>∃ k,z = .bl k /\
 (if k=true then tc σ H3 λ w' H4=>r' y w' H4 Q else Q (.bl false) H3)
theorem Jrz {op op':CmpOp}{r r':R2}(ho:OpR X (compareOp op) r) (ho':OpR X (compareOp op') r') (ha:PE X a ta) (hb:PE X b tb) (hc:PE X c tc)
 (hm:lastMarks [op,op'] [b,c]=false:=by with_unfolding_all rfl):PE X (.Compare a [op,op'] [b,c] pos) (Jry r r' ta tb tc):=by
 intro pins s σ H Q I h
 refine Compare_chain (thn (ha pins s σ H _ I h) λ v s1 ⟨x,H1,I1,r1,q1⟩=>chain_link (thn (hb pins s1 σ H1 _ I1 q1) λ u s2 ⟨y,H2,I2,r2,q2⟩=>
  thn (ho pins s2 σ H2 x y v u _ I2 r1 r2 q2) λ d s3 ⟨z,H3,I3,r3,k,e,q3⟩=>?_)) hm
 subst e
 cases r3
 refine wpAny_truthy_bool ?_
 cases k with
 | false=>exact ite_ff ⟨.bl false,H3,I3,rfl,q3⟩
 | true=>exact ite_tt (chain_last (thn (hc pins s3 σ H3 _ I3 q3) λ w' s4 ⟨z',H4,I4,r4,q4⟩=>ho' pins s4 σ H4 y z' u w' Q I4 r2 r4 q4))
def Jye (K:Qc) (x:V) (H:Hp) (k:Bool):Prop:=
 match x with
 | .non=>k=false
 | .bl b=>k=b
 | .int i=>k=(i != 0)
 | .str y=>y.length<=sizeLine/\k=((y.length:Int) != 0)
 | .byt y=>y.size<=sizeLine/\k=((y.size:Int) != 0)
 | .ref p=>(∃ xs,SqL K H p xs/\k = !xs.isEmpty)\/(∃ xs,SqT K H p xs/\k = !xs.isEmpty)\/∃ kvs,H p=some (.dK kvs)/\k = !kvs.isEmpty
 | _=>False
theorem Jnr {κ:Type}{kvs:List (κ×V)}{vs:List (κ×J9j)}(r:KV kvs vs):(!vs.isEmpty) = !kvs.isEmpty:=by
 cases r<;>rfl
theorem Jgt {xs:List V}{its:List J9j}(r:Yb xs its):(!its.toArray.isEmpty) = !xs.isEmpty:=by
 cases r<;>simp
theorem Jgu:(sizeLine:Nat)<2^63:=by rw [J9p];decide
theorem Jyf:J1o X (λ x H Q=>∃ k,Jye X.K x H k/\Q k H):=by
 intro pins s σ H x v Q I rx h
 obtain ⟨k,e,q⟩:=h
 have hl:=Jgu
 have hs:sizeLine=16777216:=J9p
 cases x with
 | non=>
  cases rx
  have e':k=false:=e
  subst e'
  exact truthy_none ⟨H,I,q⟩
 | bl b=>
  cases rx
  have e':k=b:=e
  subst e'
  exact wpAny_truthy_bool ⟨H,I,q⟩
 | int i=>
  obtain ⟨t,rfl⟩:=rx
  have e':k=(i != 0):=e
  subst e'
  exact PySem.P.truthy_int ⟨H,I,q⟩
 | str y=>
  obtain ⟨t,rfl⟩:=rx
  obtain ⟨hy,e'⟩:y.length<=sizeLine/\k=((y.length:Int) != 0):=e
  subst e'
  exact PySem.P.truthy_str (by omega) ⟨H,I.tok _,q⟩
 | byt y=>
  obtain ⟨t,rfl⟩:=rx
  obtain ⟨hy,e'⟩:y.size<=sizeLine/\k=((y.size:Int) != 0):=e
  subst e'
  exact PySem.W.truthy_bytes (by omega) ⟨H,I.tok _,q⟩
 | ref p=>
  cases rx
  have e':(∃ xs,SqL X.K H p xs/\k = !xs.isEmpty)\/(∃ xs,SqT X.K H p xs/\k = !xs.isEmpty)\/∃ kvs,H p=some (.dK kvs)/\k = !kvs.isEmpty:=e
  rcases e' with ⟨xs,hx,e'⟩ | ⟨xs,hx,e'⟩ | ⟨kvs,hx,e'⟩
  . subst e'
    obtain ⟨its,r,pl,hz⟩:=I.list hx
    have hlen:=r.length
    exact wpAny_truthy_list pl.isList (by simp only [Xa];omega) ⟨H,I.tok _,by rw [Jgt r];exact q⟩
  . subst e'
    obtain ⟨its,r,pl,hz⟩:=I.tuple hx
    have hlen:=r.length
    exact truthy_tuple pl (by simp only [Xa];omega) ⟨H,I.tok _,by rw [Jgt r];exact q⟩
  . subst e'
    obtain ⟨hz,hS,vs,r,m⟩:kvs.length<=sizeLine/\(p==J9y)=false/\∃ vs,KV kvs vs/\s.heap.DictOf (Zp X.prog X.w) p vs:=I.hok p _ hx
    have hlen:kvs.length=vs.length:=J5a r
    exact wpAny_truthy_dict hS m (by omega) ⟨H,I.tok _,by rw [Jnr r];exact q⟩
 | _=>exact (show False from e).elim
theorem Jr0 (ha:PE X a ta) (he:∀ whole,isTrue a X.env whole=(do let v <- whole;J90 a.pos;holding [v] (truthy v))) :
 PT X a (λ σ H Q=>ta σ H λ x H'=>∃ k,Jye X.K x H' k/\Q k H'):=by
 intro pins s σ H Q I h
 exact isTrue_plain (thn (ha pins s σ H _ I h) λ v s1 ⟨x,H1,I1,r1,q1⟩=>Jyf pins s1 σ H1 x v Q I1 r1 q1) (he _)
theorem Jby {x:V}{us:List J9j}(r:Yb [x] us):∃ u,us=[u]/\Yl x u:=by
 cases r with
 | cons r1 r2=>cases r2;exact ⟨_,rfl,r1⟩
theorem Jlq {x y:V}{us:List J9j}(r:Yb [x,y] us):∃ u w',us=[u,w']/\Yl x u/\Yl y w':=by
 cases r with
 | cons r1 r2=>
  cases r2 with
  | cons r3 r4=>cases r4;exact ⟨_,_,rfl,r1,r3⟩
theorem Jr1:Bj X (.builtin "abs") (λ xs H Q=>∃ i,xs=[.int i]/\Q (.int (if i<0 then -i else i)) H):=by
 intro pins s σ H xs us Q I r h
 obtain ⟨i,rfl,q⟩:=h
 obtain ⟨u,rfl,t,rfl⟩:=Jby r
 exact call_abs_int λ u tk=>⟨.int (if i<0 then -i else i),H,I.tok _,⟨_,rfl⟩,q⟩
theorem Jqk (hc:X.calm=true):Bj X (.builtin "max") (λ xs H Q=>∃ i j,xs=[.int i,.int j]/\Q (.int (if j>i then j else i)) H):=by
 intro pins s σ H xs us Q I r h
 obtain ⟨i,j,rfl,q⟩:=h
 obtain ⟨u,w',rfl,⟨t,rfl⟩,⟨t',rfl⟩⟩:=Jlq r
 refine max_two_ints (I.ok.hd hc) λ h' tk k=>⟨_,H,I.kept k,?_,q⟩
 by_cases hj:j>i
 . rw [if_pos hj,if_pos hj];exact ⟨_,rfl⟩
 . rw [if_neg hj,if_neg hj];exact ⟨_,rfl⟩
theorem Jql (hc:X.calm=true):Bj X (.builtin "min") (λ xs H Q=>∃ i j,xs=[.int i,.int j]/\Q (.int (if j<i then j else i)) H):=by
 intro pins s σ H xs us Q I r h
 obtain ⟨i,j,rfl,q⟩:=h
 obtain ⟨u,w',rfl,⟨t,rfl⟩,⟨t',rfl⟩⟩:=Jlq r
 refine min_two_ints (I.ok.hd hc) λ h' tk k=>⟨_,H,I.kept k,?_,q⟩
 by_cases hj:j<i
 . rw [if_pos hj,if_pos hj];exact ⟨_,rfl⟩
 . rw [if_neg hj,if_neg hj];exact ⟨_,rfl⟩
theorem Jck:Bj X (.type "int") (λ xs H Q=>(∃ i,xs=[.int i]/\Q (.int i) H)\/∃ k,xs=[.bl k]/\Q (.int (if k then 1 else 0)) H):=by
 intro pins s σ H xs us Q I r h
 rcases h with ⟨i,rfl,q⟩ | ⟨k,rfl,q⟩
 . obtain ⟨u,rfl,t,rfl⟩:=Jby r
   exact call_int_int ⟨.int i,H,I,⟨_,rfl⟩,q⟩
 . obtain ⟨u,rfl,r1⟩:=Jby r
   cases r1
   exact call_int_bool ⟨.int (if k then 1 else 0),H,I.tok _,⟨_,rfl⟩,q⟩
end
structure ObjM (h:Heap) (x dx C:Addr) (mA:Str->Option J9j):Prop where
 obj:h.get? x=some (J2k C dx)
 ns:h.Ns1 dx mA
 ne:dx≠x
theorem Jqm {h:Heap}{dx:Addr}{mA:Str->Option J9j}(n:h.Ns1 dx mA):∃ od,h.get? dx=some od/\∀ name,J38 name od=some (mA name):=by
 obtain ⟨o,es,ep,ho,hd,hk,_,hm⟩:=n
 refine ⟨o,ho,λ name=>?_⟩
 have e:=hm name
 unfold nsFind findBy at e
 rw [<- Array.find?_toList] at e
 unfold J38
 rw [hd]
 dsimp only
 split
 . rename_i y q
   rw [q] at e
   exact congrArg some e
 . rename_i q
   rw [q] at e
   have a:es.toList.any (·.refKey)=false:=by
    rw [J7e]
    intro y hy
    obtain ⟨z,t,hkey⟩:=hk y (Array.mem_toList_iff.mp hy)
    simp [DictEntry.refKey,hkey]
   have a':¬ es.toList.any (·.refKey)=true:=by rw [a];exact Q6
   rw [if_neg a']
   exact congrArg some e
theorem ObjM.look {h:Heap}{x dx C:Addr}{mA:Str->Option J9j}(I:ObjM h x dx C mA):∃ od,PySem.W.InstAt h x (J2k C dx) C (some od)/\∀ name,J38 name od=some (mA name):=
 let ⟨od,ho,hl⟩:=Jqm I.ns
 ⟨od,⟨I.obj,rfl,rfl,ho⟩,hl⟩
section
variable {prog:J9n}{w:J9m}{A:J9o}{E:J9j->J9k->Prop}{s:J9k}{K:Qc}{x dx C f:Addr}{mA:Str->Option J9j}{name:Str}{v:J9j}
theorem Ju6 {expr:Bool}{Q:J9j->J9k->Prop}(X:K.In s.heap) (I:ObjM s.heap x dx C mA) (hg:J39 K C name=true) (hh:J5j K C=true)
 (ha:Uj K (.ref C) name=some none) (hv:mA name=some v) (hv':J7f v=true) (h:Q v { s with toks:=s.toks+1 }) :
 J9l (model prog w) A (getAttr (.ref x) name expr) Q E s:=by
 obtain ⟨od,J,hl⟩:=I.look
 exact PySem.W.get_value X J (J5k hg).1 (PySem.W.findObj_own hh ha rfl (by rw [hl,hv])) hv' h
theorem Jr2 {pl:Sem Bool}{Q:J9j×List J9j->J9k->Prop}(X:K.In s.heap) (I:ObjM s.heap x dx C mA) (hg:J39 K C name=true)
 (hf:Uj K (.ref C) name=some (some (.ref f))) (ht:J3n K (.ref f)=true) (hv:mA name=none) (h:Q (.ref f,[.ref x]) s) :
 J9l (model prog w) A (getMethod (.ref x) name pl) Q E s:=by
 obtain ⟨od,J,hl⟩:=I.look
 exact PySem.W.method_fn X J (J5k hg).1 (J5k hg).2 hf (beq_iff_eq.mp ht) (by show (J38 name od).map (·.isSome)=some false;rw [hl,hv];rfl) h
theorem Ju7 {ns:List Str}{Q:Unit->J9k->Prop}(X:K.In s.heap) (I:ObjM s.heap x dx C mA)
 (hs:Uj K (.ref C) "__setattr__" = some (some (.builtin "object.__setattr__"))) (hp:J7g K C=true) (ht:J5l K C name=some none) (hh:J5j K C=true)
 (hw:J5b mA ns) (hsz:ns.length<=sizeLine)
 (h:∀ h',ObjM h' x dx C (λ y=>if y=name then some v else mA y)->Xw dx s.heap h'->Q () { s with heap:=h',toks:=s.toks+2 }) :
 J9l (model prog w) A (setAttr (.ref x) name v) Q E s:=by
 obtain ⟨od,J,hl⟩:=I.look
 refine PySem.W.set_plain X J hs (PySem.W.osa_open (s:={ s with toks:=s.toks+1 }) (r:=none) X J hp ht λ b=>?_)
 obtain ⟨cd,hc,hd'⟩:=PySem.W.any_some hh
 have hx:s.heap.get? x=some ⟨.ref C,some dx,.plain,#[]⟩:=I.obj
 refine wpAny_bind (wpAny_pure (wpAny_bind (wpAny_bind (wpAny_loadPart hx (wpAny_bind (J9d (s:={ s with toks:=s.toks+1 }) (PySem.W.looks_clsIn X hc) ?_))))))
 rw [hd']
 refine wpAny_pure (a:=some dx) (wpAny_bind (wpAny_pure (wpAny_bind ?_)))
 refine wpAny_nsSet1 (s:={ s with toks:=s.toks+1 }) I.ns λ h' hn2 hs2=>?_
 obtain ⟨oD,esD,epD,hoD,hdD,hcD⟩:=hn2.count (J5b.cons name v hw)
 refine wpAny_bind (wpAny_lookBehind hoD (by rw [hdD];exact pastItsLine_dict (Xl hcD (by rw [Xu];omega))) ?_)
 exact wpAny_pure (h _ ⟨(hs2.2 _ (Qj I.ne)).trans I.obj,hn2,I.ne⟩ hs2)
theorem Jr3 {R:J94->J9k->Prop}{vs:List J9j}{kw:List (Str×J9j)}(X:K.In s.heap) (hm:J5m K C=true)
 (hi:Uj K (.ref C) "__init__" = some (some (.ref f))) (hf:PySem.W.typeIn K (.ref f)=some (.type "function"))
 (h:J9u (model prog w) (A.under (.builtin "type.__call__" ⟨.ref C::vs,kw⟩)) (.call (.ref f) ⟨.ref (s.heap.objs.size+1)::vs,kw⟩) (PySem.W.InitBack (s.heap.objs.size+1) R)
  { s with heap:=(s.heap.push U1).push (J2k C s.heap.objs.size) }) :
 J9u (model prog w) A (.call (.ref C) ⟨vs,kw⟩) R s:=by
 obtain ⟨hh,g,d,t,os⟩:=s
 exact PySem.W.make_core (PySem.W.makes_of X hm) (PySem.W.looks_findIn X hi) (λ self=>PySem.W.bind_fn X self hf) (.inl rfl) h
end
noncomputable def putF (f:Str) (v:V):List (Str×V)->List (Str×V)
 | []=>[(f,v)]
 | (g,x)::r=>if g=f then (g,v)::r else (g,x)::putF f v r
theorem Jfq (f g:Str) (v:V):∀ fs:List (Str×V),(putF f v fs).lookup g=if g=f then some v else fs.lookup g
 | []=>by
  show J2v g [(f,v)]=_
  by_cases h:g=f
  . have hb:(g==f)=true:=beq_iff_eq.mpr h
    simp only [J2v,hb,if_pos h]
  . have hb:(g==f)=false:=beq_eq_false_iff_ne.mpr h
    simp only [J2v,hb,if_neg h]
 | (k,x)::r=>by
  have ih:=Jfq f g v r
  rw [show putF f v ((k,x)::r)=(if k=f then (k,v)::r else (k,x)::putF f v r) from rfl]
  by_cases hk:k=f
  . rw [if_pos hk]
    by_cases h:g=k
    . have hb:(g==k)=true:=beq_iff_eq.mpr h
      simp only [J2v,hb,if_pos (h.trans hk)]
    . have hb:(g==k)=false:=beq_eq_false_iff_ne.mpr h
      simp only [J2v,hb,if_neg (λ e:g=f=>h (e.trans hk.symm))]
  . rw [if_neg hk]
    by_cases h:g=k
    . have hb:(g==k)=true:=beq_iff_eq.mpr h
      simp only [J2v,hb,if_neg (λ e:g=f=>hk (h.symm.trans e))]
    . have hb:(g==k)=false:=beq_eq_false_iff_ne.mpr h
      simp only [J2v,hb]
      exact ih
theorem Jev (f:Str) (v:V):∀ fs:List (Str×V),f∈(putF f v fs).map (·.1)/\∀ g,g∈fs.map (·.1)->g∈(putF f v fs).map (·.1)
 | []=>⟨by simp [putF],λ g h=>by simp at h⟩
 | (k,x)::r=>by
  obtain ⟨i1,i2⟩:=Jev f v r
  rw [show putF f v ((k,x)::r)=(if k=f then (k,v)::r else (k,x)::putF f v r) from rfl]
  by_cases hk:k=f
  . rw [if_pos hk]
    subst hk
    exact ⟨by simp,λ g h=>by simpa using h⟩
  . rw [if_neg hk]
    refine ⟨?_,λ g h=>?_⟩
    . rw [Qz]
      exact Qh _ i1
    . rw [Qz] at h ⊢
      rcases Qd.mp h with e | e
      . exact Qd.mpr (.inl e)
      . exact Qh _ (i2 g e)
theorem Jfr (f:Str) (v:V):∀ fs:List (Str×V),(putF f v fs).length<=fs.length+1
 | []=>by simp [putF]
 | (k,x)::r=>by
  have ih:=Jfr f v r
  rw [show putF f v ((k,x)::r)=(if k=f then (k,v)::r else (k,x)::putF f v r) from rfl]
  by_cases hk:k=f
  . rw [if_pos hk,Xu,Xu];omega
  . rw [if_neg hk,Xu,Xu];omega
theorem Jbv.some_of {v:V}{o:Option J9j}(r:Jbv (some v) o):∃ u,o=some u/\Yl v u:=by
 cases o with
 | none=>exact (show False from r).elim
 | some u=>exact ⟨u,rfl,r⟩
theorem Jbv.none_of {o:Option J9j}(r:Jbv none o):o=none:=by
 cases o with
 | none=>rfl
 | some u=>exact (show False from r).elim
theorem Jqn {v:V}{u:J9j}(r:Yl v u):J7f u=true:=by
 cases v with
 | non=>cases (show u=Ut from r);rfl
 | bl b=>cases (show u=J28 b from r);rfl
 | int i=>obtain ⟨t,e⟩:=(show ∃ t,u=Us i t from r);cases e;rfl
 | str x=>obtain ⟨t,e⟩:=(show ∃ t,u=J27 x t from r);cases e;rfl
 | byt b=>obtain ⟨t,e⟩:=(show ∃ t,u=J69 b t from r);cases e;rfl
 | flt b=>obtain ⟨t,e⟩:=(show ∃ t,u=J49 b t from r);cases e;rfl
 | ref a=>cases (show u=Q3 a from r);rfl
 | ty n=>cases (show u=U9 n from r);rfl
section
variable {P:J9n}{w:J9m}{H H':Hp}{h h':Heap}{a C dx:Addr}{fs fs':List (Str×V)}
theorem Jgc (hok:HOk P w H h) (e:H a=some (.ins C dx fs)):∃ mA,ObjM h a dx C mA/\(∀ f,Jbv (fs.lookup f) (mA f))/\J5b mA (fs.map (·.1))/\fs.length<=1000/\H dx=some (.own a):=by
 obtain ⟨d,z,ne,ob,mA,n,r,q⟩:=(show Yw P w H h a (.ins C dx fs) from hok a _ e)
 exact ⟨mA,⟨ob,n,ne⟩,r,q,z,d⟩
end
structure Cls (K:Qc) (C:Addr):Prop where
 pg:J39 K C Str.empty=true
 hd:J5j K C=true
 po:J7g K C=true
 sa:Uj K (.ref C) "__setattr__" = some (some (.builtin "object.__setattr__"))
theorem Cls.get {K:Qc}{C:Addr}(c:Cls K C) (f:Str):J39 K C f=true:=c.pg
def NoAttr (K:Qc) (C:Addr) (f:Str):Prop:=Uj K (.ref C) f=some none
theorem NoAttr.taker {K:Qc}{C:Addr}{f:Str}(n:NoAttr K C f):J5l K C f=some none:=by
 unfold J5l
 rw [show Uj K (.ref C) f=some none from n]
 rfl
structure Meth (K:Qc) (C:Addr) (m:Str) (f:Addr):Prop where
 at_:Uj K (.ref C) m=some (some (.ref f))
 fn:J3n K (.ref f)=true
 kp:Uk K (.ref f)=true
section
variable {X:Cx}{pins:List (Addr×Obj)}{σ:St}{H:Hp}{s:J9k}{a C dx:Addr}{fs:List (Str×V)}{f:Str}{v:V}{A:J9o}{E:J9j->J9k->Prop}
theorem Jns {b:Bool}{Q:J9j->J9k->Prop}(I:Inv X pins σ H s) (e:H a=some (.ins C dx fs)) (c:Cls X.K C) (n:NoAttr X.K C f) (l:fs.lookup f=some v)
 (h:∀ u s',Inv X pins σ H s'->Yl v u->Q u s'):J9l (model X.prog X.w) A (getAttr (.ref a) f b) Q E s:=by
 obtain ⟨mA,O,r,_,_,_⟩:=Jgc I.hok e
 obtain ⟨u,hu,ru⟩:=Jbv.some_of (v:=v) (o:=mA f) (by rw [<- l];exact r f)
 exact Ju6 I.kIn O (c.get f) c.hd n hu (Jqn ru) (h u _ (I.tok _) ru)
theorem Jnt {m:Str}{g:Addr}{pl:Sem Bool}{Q:J9j×List J9j->J9k->Prop}(I:Inv X pins σ H s) (e:H a=some (.ins C dx fs)) (c:Cls X.K C) (k:Meth X.K C m g) (l:fs.lookup m=none)
 (h:Q (.ref g,[.ref a]) s):J9l (model X.prog X.w) A (getMethod (.ref a) m pl) Q E s:=by
 obtain ⟨mA,O,r,_,_,_⟩:=Jgc I.hok e
 have hn:mA m=none:=Jbv.none_of (by rw [<- l];exact r m)
 exact Jr2 I.kIn O (c.get m) k.at_ k.fn hn h
theorem Jnu {y:V}{u:J9j}{Q:Unit->J9k->Prop}(I:Inv X pins σ H s) (e:H a=some (.ins C dx fs)) (c:Cls X.K C) (n:NoAttr X.K C f) (hl:fs.length<1000) (ry:Yl y u)
 (h:∀ s',Inv X pins σ (upd H a (.ins C dx (putF f y fs))) s'->Q () s'):J9l (model X.prog X.w) A (setAttr (.ref a) f u) Q E s:=by
 obtain ⟨mA,O,r,wi,_,ho⟩:=Jgc I.hok e
 have hz:(fs.map (·.1)).length<=sizeLine:=by rw [Qb,J9p];omega
 refine Ju7 I.kIn O c.sa c.po n.taker c.hd wi hz λ h' O' sb=>h _ ?_
 have hd:∃ o,h'.get? dx=some o:=let ⟨o,_,_,e',_⟩:=O'.ns;⟨o,e'⟩
 refine I.write (x:=a) (e:=dx) (by rw [e];exact Um) (.inr ho) (λ b q hb z=>(sb.2 b hb).trans z) hd ?_
 refine ⟨by rw [Jf O.ne];exact ho,?_,O.ne,O'.obj,_,O'.ns,λ g=>?_,λ g hg=>?_⟩
 . have:=Jfr f y fs;omega
 . show Jbv ((putF f y fs).lookup g) (if g=f then some u else mA g)
   rw [Jfq]
   by_cases q:g=f
   . rw [if_pos q,if_pos q];exact ry
   . rw [if_neg q,if_neg q];exact r g
 . by_cases q:g=f
   . rw [q];exact (Jev f y fs).1
   . refine (Jev f y fs).2 g (wi g λ z=>hg ?_)
     show (if g=f then some u else mA g)=none
     rw [if_neg q];exact z
theorem Inv.made (I:Inv X pins σ H s):Inv X pins σ (upd (upd H s.heap.objs.size (.own (s.heap.objs.size+1))) (s.heap.objs.size+1) (.ins C s.heap.objs.size []))
 { s with heap:=(s.heap.push U1).push (J2k C s.heap.objs.size) }:=by
 have e1:(s.heap.push U1).get? s.heap.objs.size=some U1:=Xe s.heap rfl
 have e2:((s.heap.push U1).push (J2k C s.heap.objs.size)).get? (s.heap.objs.size+1)=some (J2k C s.heap.objs.size):=by
  have:=Xe (s.heap.push U1) (o:=J2k C s.heap.objs.size) rfl
  rwa [Xz] at this
 have e3:(s.heap.push U1).Ns s.heap.objs.size (λ _=>none):=⟨U1,#[],_,e1,rfl,(λ e he=>absurd he (by simp)),λ _=>rfl⟩
 have I1:=I.laid (a:=s.heap.objs.size) (o:=.own (s.heap.objs.size+1)) (h':=s.heap.push U1) (t':=s.toks) (λ b u q=>Qu _ q) (Ql _) ⟨_,e1⟩
 refine I1.laid (a:=s.heap.objs.size+1) (o:=.ins C s.heap.objs.size []) (t':=s.toks) (λ b u q=>Qu _ q) (J4a (Xz _ _)) ?_
 have ne:s.heap.objs.size≠s.heap.objs.size+1:=Xg (J4b _)
 refine ⟨by rw [Jf ne,Jg],Xr _,ne,e2,λ _=>none,(Heap.Ns1.of_empty e3).at λ o q=>Qu _ q,λ _=>Um,λ y hy=>absurd rfl hy⟩
theorem Ju8 {prog:J9n}{w:J9m}{env:Env}{e:Expr}{f:Str}{pos:Pos}{s:J9k}{Q:J9j->J9k->Prop}(hb:Yae e f env (eval e env)=eval e env)
 (h:J9l (model prog w) A (eval e env) (λ o s₁=>J9l (model prog w) A (getAttr o f true) Q E s₁) E s):J9l (model prog w) A (eval (.Attribute e f pos) env) Q E s:=
 Attribute_any_ h (by rw [arm_eval_Attribute,hb])
end
def Jnv (K:Qc) (ta:TE) (f:Str):TE:=λ σ H Q=>ta σ H λ x H1=>∃ a C dx fs v,x = .ref a/\H1 a=some (.ins C dx fs)/\Cls K C/\NoAttr K C f/\fs.lookup f=some v/\Q v H1
def Ju9 (K:Qc) (ta tv:TE) (f:Str):TS:=λ D σ H=>tv σ H λ y H1=>ta σ H1 λ x H2=>∃ a C dx fs,x = .ref a/\H2 a=some (.ins C dx fs)/\Cls K C/\NoAttr K C f/\fs.length<1000 /\
 D.nx σ (upd H2 a (.ins C dx (putF f y fs)))
section
variable {X:Cx}{o e value:Expr}{f:Str}{pos pos' tpos:Pos}{ta tv:TE}
theorem Jyg (he:PE X e ta) (hb:Yae e f X.env (eval e X.env)=eval e X.env):PE X (.Attribute e f pos) (Jnv X.K ta f):=by
 intro pins s σ H Q I h
 refine Ju8 hb (thn (he pins s σ H _ I h) λ u s1 ⟨x,H1,I1,rx,a,C,dx,fs,v,ex,ea,c,n,l,q⟩=>?_)
 subst ex
 obtain rfl:u=Q3 a:=rx
 exact Jns I1 ea c n l λ u' s2 I2 ru=>⟨v,H1,I2,ru,q⟩
theorem Ja5 (ha:PE X o ta) (hv:PE X value tv) (hs:Yad value (some (.Attribute o f pos')) pos.line X.env=pure false):PS X (.Assign [.Attribute o f pos'] value pos) (Ju9 X.K ta tv f):=by
 intro pins s σ H D I h
 refine plainObj_wpAny_Assign_Attribute (thn (hv pins s σ H _ I h) λ u s1 ⟨y,H1,I1,ry,q⟩=>thn (ha pins s1 σ H1 _ I1 q) λ ov s2 ⟨x,H2,I2,rx,a,C,dx,fs,ex,ea,c,n,l,q2⟩=>?_) hs
 subst ex
 obtain rfl:ov=Q3 a:=rx
 exact Jnu I2 ea c n l ry λ s3 I3=>⟨σ,_,I3,q2⟩
end
section
variable {X:Cx}{pins:List (Addr×Obj)}{σ:St}{H:Hp}{s:J9k}{A:J9o}{E:J9j->J9k->Prop}{Q:J9j->J9k->Prop}{c:J9j}{b:Bool}
inductive TyOf (K:Qc) (H:Hp):V->J9j->Prop where
 | non:TyOf K H .non (.type "NoneType")
 | bl (x:Bool):TyOf K H (.bl x) (.type "bool")
 | int (i:Int):TyOf K H (.int i) (.type "int")
 | str (x:Str):TyOf K H (.str x) (.type "str")
 | flt (x:UInt64):TyOf K H (.flt x) (.type "float")
 | lst {a:Addr} {xs:List V} (e:H a=some (.lst xs)):TyOf K H (.ref a) (.type "list")
 | frz {a:Addr} {o:Obj} {xs:List V} (e:H a=some (.frz o (.lst xs))):TyOf K H (.ref a) (.type "list")
 | tup {a:Addr} {xs:List V} (e:H a=some (.tup xs)):TyOf K H (.ref a) (.type "tuple")
 | dK {a:Addr} {kvs:List (Key×V)} (e:H a=some (.dK kvs)):TyOf K H (.ref a) (.type "dict")
 | dT {a:Addr} {kvs:List (List Key×V)} (e:H a=some (.dT kvs)):TyOf K H (.ref a) (.type "dict")
 | ins {a C dx:Addr} {fs:List (Str×V)} (e:H a=some (.ins C dx fs)) (cl:Cls K C) (ha:Uj K (.ref C) "__class__" = some (some (.builtin "object.__class__")))
  (hn:PySem.W.specialIn K (.builtin "object.__class__") "__get__" = some (some (.builtin "getset_descriptor.__get__"))) (htk:PySem.W.takesIn K (.builtin "object.__class__")=some true)
  (hm:PySem.W.mroIn K C (.type "object")=some true):TyOf K H (.ref a) (.ref C)
theorem Jqo {x:V}{u t:J9j}(I:Inv X pins σ H s) (rx:Yl x u) (ty:TyOf X.K H x t) (e:J5n X.K t c=some b) (h:∀ tk,Q (.bool b) { s with toks:=tk }) :
 J9l (model X.prog X.w) A (call (.builtin "isinstance") [u,c]) Q E s:=by
 cases ty with
 | non=>cases (show u=Ut from rx);exact Uo PySem.W.kitx_none I.kIn Um e (λ z=>nomatch z) h
 | bl y=>cases (show u=J28 y from rx);exact Uo PySem.W.kitx_bool I.kIn Um e (λ z=>nomatch z) h
 | int i=>obtain ⟨t,q⟩:=(show ∃ t,u=Us i t from rx);cases q;exact Uo PySem.W.kitx_int I.kIn Um e (λ z=>nomatch z) h
 | str y=>obtain ⟨t,q⟩:=(show ∃ t,u=J27 y t from rx);cases q;exact Uo PySem.W.kitx_str I.kIn Um e (λ z=>nomatch z) h
 | flt y=>obtain ⟨t,q⟩:=(show ∃ t,u=J49 y t from rx);cases q;exact Uo PySem.W.kitx_float I.kIn Um e (λ z=>nomatch z) h
 | @lst a xs ea=>
  cases (show u=Q3 a from rx)
  obtain ⟨_,_,n,_,h1⟩:=(show Yw X.prog X.w H s.heap a (.lst xs) from I.hok a _ ea)
  exact Uo J7h I.kIn ⟨_,h1,rfl⟩ e (λ z=>nomatch z) h
 | @frz a ob xs ea=>
  cases (show u=Q3 a from rx)
  obtain ⟨_,_,_,n,_,h1⟩:=(show Yw X.prog X.w H s.heap a (.frz ob (.lst xs)) from I.hok a _ ea)
  exact Uo J7h I.kIn ⟨_,h1,rfl⟩ e (λ z=>nomatch z) h
 | @tup a xs ea=>
  cases (show u=Q3 a from rx)
  obtain ⟨_,_,_,p⟩:=(show Yw X.prog X.w H s.heap a (.tup xs) from I.hok a _ ea)
  obtain ⟨o,h1,h2,_⟩:=p
  exact Uo PySem.W.kitx_tuple I.kIn ⟨o,h1,h2⟩ e (λ z=>nomatch z) h
 | @dK a kvs ea=>
  cases (show u=Q3 a from rx)
  obtain ⟨_,_,vs,_,p⟩:=(show Yw X.prog X.w H s.heap a (.dK kvs) from I.hok a _ ea)
  obtain ⟨o,es,ep,h1,h2,_⟩:=p
  exact Uo J7i I.kIn ⟨o,h1,h2.1⟩ e (λ z=>nomatch z) h
 | @dT a kvs ea=>
  cases (show u=Q3 a from rx)
  obtain ⟨_,_,xs,_,o,es,ep,h1,h2,_⟩:=(show Yw X.prog X.w H s.heap a (.dT kvs) from I.hok a _ ea)
  exact Uo J7i I.kIn ⟨o,h1,h2.1⟩ e (λ z=>nomatch z) h
 | @ins a C dx fs ea cl ha hn htk hm=>
  cases (show u=Q3 a from rx)
  obtain ⟨mA,O,_⟩:=Jgc I.hok ea
  obtain ⟨od,J,_⟩:=O.look
  exact Uo (PySem.W.kitx_own (cl.get _) cl.hd ha hn htk hm) I.kIn J e (λ z=>nomatch z) h
end
structure Room (k:Nat) (A:J9o):Prop where
 hd:A.handled=none
 dp:A.depth+3*k+5<recursionLimit
 un:A.units+16*k+200<J91
 gd:A.guards=some []
theorem Room.mono {j k:Nat}{A:J9o}(r:Room k A) (h:j<=k):Room j A:=⟨r.hd,by have:=r.dp;omega,by have:=r.un;omega,r.gd⟩
theorem Room.deeper {k:Nat}{A:J9o}(r:Room (k+1) A) (env:Env):Room k (A.deeper env):=
 ⟨r.hd,by have:=r.dp;show A.depth+1+3*k+5<_;omega,by have:=r.un;show A.units+3+16*k+200<_;omega,r.gd⟩
theorem Jnw {A:J9o}{C:Addr}{us:List J9j}{kw:List (Str×J9j)}:(A.under (.builtin "type.__call__" ⟨.ref C::us,kw⟩)).depth=A.depth+1:=by
 first | rfl | simp [J4c,Code.weight,Code.isCreation,Code.isGuard,Code.isCaller,Code.frames,Code.isFrame,guardIds]
theorem Jnx {A:J9o}{C:Addr}{us:List J9j}{kw:List (Str×J9j)}:(A.under (.builtin "type.__call__" ⟨.ref C::us,kw⟩)).units=A.units+1:=by
 first | rfl | simp [J4c,Code.cUnits,Code.frames,Code.isFrame]
theorem Room.make {k:Nat}{A:J9o}(r:Room (k+1) A) (C:Addr) (us:List J9j) (kw:List (Str×J9j)):Room k (A.under (.builtin "type.__call__" ⟨.ref C::us,kw⟩)):=
 ⟨r.hd,by have:=r.dp;rw [Jnw];omega,by have:=r.un;rw [Jnx];omega,by first | exact r.gd | (simpa [J4c,Code.guards,pushGuards,Code.isGuard,guardIds] using r.gd)⟩
theorem Room.depth {k:Nat}{A:J9o}(r:Room k A):A.depth<recursionLimit:=by have:=r.dp;omega
theorem Room.units {k:Nat}{A:J9o}(r:Room k A):A.units+64<J91:=by have:=r.un;omega
def Jam:TA:=λ _ H Q=>Q [] H
def Ye (ta:TE) (tr:TA):TA:=λ σ H Q=>ta σ H λ x H1=>tr σ H1 λ xs H2=>Q (x::xs) H2
section
variable {X:Cx}{e:Expr}{es:List Expr}{te:TE}{t:TA}{pos:Pos}
theorem Jc:PA X [] Jam:=λ _ _ _ _ H Q I h=>J3o ⟨[],H,I,.nil,h⟩
theorem Vd (ha:PE X e te) (hr:PA X es t) (hs:starEach (e::es) X.env=(false,eval e X.env)::starEach es X.env:=by rfl):PA X (e::es) (Ye te t):=by
 intro pos pins s σ H Q I h
 rw [hs]
 show J9l _ _ (spliced ((false,eval e X.env)::backTo pos (starEach es X.env))) _ _ s
 refine J29 (thn (ha pins s σ H _ I h) λ u s1 ⟨x,H1,I1,r1,q1⟩=>?_)
 exact thn (hr pos pins s1 σ H1 _ I1 q1) λ us s2 ⟨xs,H2,I2,r2,q2⟩=>⟨x::xs,H2,I2,.cons r1 r2,q2⟩
def Jva (t:TA):TE:=λ σ H Q=>t σ H λ xs H1=>xs.length<=sizeLine/\∀ p,H1 p=none->Q (.ref p) (upd H1 p (.tup xs))
def Jyh (t:TA):TE:=λ σ H Q=>t σ H λ xs H1=>xs.length<=sizeLine/\∀ p,H1 p=none->Q (.ref p) (upd H1 p (.lst xs))
theorem Jyi {x1} (h:PA X es t):PE X (.Tuple es x1 pos) (Jva t):=by
 intro pins s σ H Q I hq
 refine wpAny_Tuple_spliced (thn (h pos pins s σ H _ I hq) λ us s1 ⟨xs,H1,I1,r,z,q⟩=>⟨by rw [<- r.length];exact z,?_⟩)
 have hf:H1 s1.heap.objs.size=none:=I1.hok.fresh (Ql _)
 refine ⟨.ref s1.heap.objs.size,upd H1 s1.heap.objs.size (.tup xs),I1.laid (t':=s1.toks) (λ b u e=>Qu _ e) (Ql _) ?_,rfl,q _ hf⟩
 exact ⟨z,us,r,⟨_,Xe _ rfl,rfl,_,rfl⟩⟩
theorem Jyj (h:PA X es t):PE X (.List es pos) (Jyh t):=by
 intro pins s σ H Q I hq
 refine wpAny_List_spliced (thn (h pos pins s σ H _ I hq) λ us s1 ⟨xs,H1,I1,r,z,q⟩=>⟨by rw [<- r.length];exact z,?_⟩)
 have hf:H1 s1.heap.objs.size=none:=I1.hok.fresh (Ql _)
 refine ⟨.ref s1.heap.objs.size,upd H1 s1.heap.objs.size (.lst xs),I1.laid (t':=s1.toks) (λ b u e=>Qu _ e) (Ql _) ?_,rfl,q _ hf⟩
 exact ⟨z,us,0,r,Xe _ rfl⟩
end
abbrev Sp:=List V->Hp->VK->XK->Prop
abbrev CXT:=List Env->Hp->J9k->XK->J9j->J9k->Prop
structure Env0 (P:J9n) (w:J9m) (K:Qc) (mg:Str->Option J9j) (base:Heap) (A:J9o) (outer:List Env) (s:J9k) (H:Hp):Prop where
 frames:A.frames=some outer
 mod:Mod K mg base
 bs:∀ b o,base.get? b=some o->s.heap.get? b=some o/\H b=none
 bsz:base.objs.size<=s.heap.objs.size
 funs:s.heap.FunFrames base outer
 frf:∀ b∈frs outer,H b=none
 hok:HOk P w H s.heap
 bare:J9z s.gens
def CE (outer:List Env) (P:J9n) (w:J9m) (H:Hp) (s:J9k) (Q:VK) (u:J9j) (s':J9k):Prop:=
 ∃ v H',s'.os=s.os/\J9z s'.gens/\Un (frs outer) [] H H' s.heap s'.heap/\HOk P w H' s'.heap/\Yl v u/\Q v H'
def CR (CX:CXT) (outer:List Env) (P:J9n) (w:J9m) (H:Hp) (s:J9k) (Q:VK) (E:XK) (r:J94) (s':J9k):Prop:=
 match r with
 | .ok (.ret u)=>CE outer P w H s Q u s'
 | .ok _=>False
 | .error e=>CX outer H s E e s'
structure FnOk (P:J9n) (w:J9m) (K:Qc) (mg:Str->Option J9j) (base:Heap) (CX:CXT) (k:Nat) (f:Addr) (fd:J9v) (ps:List Str) (sp:Sp):Prop where
 len:∀ vs H Q E,sp vs H Q E->vs.length=ps.length
 run:∀ (A:J9o) (outer:List Env) (s:J9k) (H:Hp) (args:Args) (us:List J9j) (vs:List V) (Q:VK) (E:XK),Room k A->Env0 P w K mg base A outer s H->Yaf s fd args (ps.zip us)->Yb vs us->sp vs H Q E ->
  J9u (model P w) A (.call (.ref f) args) (CR CX outer P w H s Q E) s
theorem FnOk.imp {P:J9n}{w:J9m}{K:Qc}{mg:Str->Option J9j}{base:Heap}{CX:CXT}{k:Nat}{f:Addr}{fd:J9v}{ps:List Str}{sp sp':Sp}(F:FnOk P w K mg base CX k f fd ps sp)
 (h:∀ vs H Q E,sp' vs H Q E->sp vs H Q E):FnOk P w K mg base CX k f fd ps sp':=
 ⟨λ vs H Q E q=>F.len vs H Q E (h _ _ _ _ q),λ A outer s H args us vs Q E hr he hb hv hs=>F.run A outer s H args us vs Q E hr he hb hv (h _ _ _ _ hs)⟩
theorem Env0.make {P:J9n}{w:J9m}{K:Qc}{mg:Str->Option J9j}{base:Heap}{A:J9o}{outer:List Env}{s:J9k}{H:Hp}(e:Env0 P w K mg base A outer s H) (C:Addr) (us:List J9j) (kw:List (Str×J9j)) :
 Env0 P w K mg base (A.under (.builtin "type.__call__" ⟨.ref C::us,kw⟩)) outer s H:=⟨by first | exact e.frames | (simpa [J4c,Code.envs,Code.isFrame,pushEnvs] using e.frames),e.mod,e.bs,e.bsz,e.funs,e.frf,e.hok,e.bare⟩
section
variable {X:Cx}{pins:List (Addr×Obj)}{σ:St}{H:Hp}{s s':J9k}
theorem Inv.env0 (I:Inv X pins σ H s):Env0 X.prog X.w X.K X.mg X.base X.A X.stack s H:=
 ⟨I.ok.frames,I.ok.mod,I.bs,Xl I.ok.bsz I.sz,I.stack,I.stkFree,I.hok,I.bare⟩
theorem Inv.after {Q:VK}{u:J9j}(I:Inv X pins σ H s) (h:CE X.stack X.prog X.w H s Q u s'):EP X pins σ Q u s':=by
 obtain ⟨v,H',os,bare,un,hok,r,q⟩:=h
 obtain ⟨hh,g,d,t,os'⟩:=s'
 obtain rfl:os'=s.os:=os
 exact ⟨v,H',I.call (h':=hh) (g':=g) (d':=d) (t':=t) (ch:=[]) un hok bare (λ b z=>absurd z (by simp)),r,q⟩
end
def Ji7 (sp:Sp) (dvs:List V) (E:XK) (t:TA):TE:=λ σ H Q=>t σ H λ vs H1=>sp (vs++dvs) H1 Q E
def Ji8 (C:Addr) (m:Str) (sp:Sp) (dvs:List V) (E:XK) (ta:TE) (t:TA):TE:=λ σ H Q=>ta σ H λ x H1=>∃ a dx fs,x = .ref a/\H1 a=some (.ins C dx fs)/\fs.lookup m=none /\
 t σ H1 λ vs H2=>sp (x::(vs++dvs)) H2 Q E
def Jxa (C:Addr) (sp:Sp) (dvs:List V) (E:XK) (t:TA):TE:=λ σ H Q=>t σ H λ vs H1=>∀ x dx,H1 x=none->H1 dx=none->dx≠x ->
 sp (.ref x::(vs++dvs)) (upd (upd H1 dx (.own x)) x (.ins C dx [])) (λ v H2=>v = .non/\Q (.ref x) H2) E
def Bl (K:Qc) (fd:J9v) (ps:List Str) (ds:List J9j):Prop:=
 ∀ (s:J9k) (us:List J9j),K.In s.heap->(us++ds).length=ps.length->Yaf s fd ⟨us,[]⟩ (ps.zip (us++ds))
theorem Bl.all {K:Qc}{fd:J9v}{ps:List Str}(h:∀ us:List J9j,us.length=ps.length->Yag fd ⟨us,[]⟩=pure (ps.zip us)):Bl K fd ps []:=λ s us _ hl=>by
 rw [Uu] at hl ⊢
 exact .of_eq (h us hl)
def Jew (CX:CXT) (X:Cx) (E:XK):Prop:=∀ (pins:List (Addr×Obj)) (σ:St) (H:Hp) (s:J9k) (e:J9j) (s':J9k),Inv X pins σ H s->CX X.stack H s E e s'->X.xe e s'
section
variable {X:Cx}{CX:CXT}{k:Nat}{f C:Addr}{fd:J9v}{ps:List Str}{sp:Sp}{dvs:List V}{ds:List J9j}{E:XK}{x m:Str}{p pos apos:Pos}{e o:Expr}{es:List Expr}{ta:TE}{t:TA}
theorem Jr4 {pins:List (Addr×Obj)}{σ:St}{H:Hp}{s:J9k}{Q:VK}{us:List J9j}{vs:List V}(F:FnOk X.prog X.w X.K X.mg X.base CX k f fd ps sp) (hr:Room k X.A) (hb:Bl X.K fd ps ds) (hd:Yb dvs ds) (hx:Jew CX X E)
 (I:Inv X pins σ H s) (r:Yb vs us) (h:sp (vs++dvs) H Q E):J9l (model X.prog X.w) X.A (call (.ref f) us) (EP X pins σ Q) X.xe s:=by
 have r2:Yb (vs++dvs) (us++ds):=r.append hd
 have hl:(us++ds).length=ps.length:=by rw [<- r2.length];exact F.len _ _ _ _ h
 refine wpAny_call (codeAny_mono (F.run X.A X.stack s H ⟨us,[]⟩ (us++ds) (vs++dvs) Q E hr I.env0 (hb s us I.kIn hl) r2 h) λ r s' hq=>?_)
 cases r with
 | error e=>exact hx pins σ H s e s' I hq
 | ok fl=>
  cases fl with
  | ret u=>exact I.after hq
  | next=>exact Ua hq
  | brk=>exact Ua hq
  | cont=>exact Ua hq
theorem Jvb (F:FnOk X.prog X.w X.K X.mg X.base CX k f fd ps sp) (hr:Room k X.A) (hg:Gl X x) (hm:X.mg x=some (.ref f)) (hk:Uk X.K (.ref f)=true) (hb:Bl X.K fd ps ds) (hd:Yb dvs ds) (hx:Jew CX X E)
 (ha:PA X (e::es) t) (hdb:(x==("__debug__":Str))=false:=by decide) (he:starEach (e::es) X.env=(false,eval e X.env)::starEach es X.env:=by rfl) (hpl:(backTo pos (starEach es X.env)).any (·.1)=false:=by rfl) :
 PE X (.Call (.Name x p) (e::es) [] pos) (Ji7 sp dvs E t):=by
 intro pins s σ H Q I h
 refine J98 (Jo6 I hg hm ?_ hdb)
 refine J5o (h₀:=X.base) I.ok.mod.kin hk (thn (ha pos pins s σ H _ I h) λ us s1 ⟨vs,H1,I1,r,q⟩=>⟨I1.kIn,?_⟩) he hpl
 exact Jr4 F hr hb hd hx I1 r q
theorem Jvc {pl:Sem Bool}(he:PE X o ta) (c:Cls X.K C) (hm:Meth X.K C m f) (F:FnOk X.prog X.w X.K X.mg X.base CX k f fd ps sp) (hr:Room k X.A) (hb:Bl X.K fd ps ds) (hd:Yb dvs ds) (hx:Jew CX X E) (ha:PA X (e::es) t)
 (hst:starEach (e::es) X.env=(false,eval e X.env)::starEach es X.env:=by rfl) (hpl:(backTo pos (starEach es X.env)).any (·.1)=false:=by rfl)
 (ht:eval (.Call (.Attribute o m apos) (e::es) [] pos) X.env=(do
  let ov <- eval o X.env
  J90 apos.atName
  let (f,first) <- holding [ov] (getMethod ov m pl)
  callWith pos f first (backTo pos (starEach (e::es) X.env)) (backToKw pos (keywordEach [] X.env))):=by rfl) :
 PE X (.Call (.Attribute o m apos) (e::es) [] pos) (Ji8 C m sp dvs E ta t):=by
 intro pins s σ H Q I h
 refine PySem.W.methodCall_KW (pl:=pl) (thn (he pins s σ H _ I h) λ u s1 ⟨x,H1,I1,rx,a,dx,fs,ex,ea,l,q⟩=>?_) ht
 subst ex
 obtain rfl:u=Q3 a:=rx
 refine Jnt I1 ea c hm l ?_
 refine J5o (first:=[.ref a]) (h₀:=X.base) I.ok.mod.kin hm.kp (thn (ha pos pins s1 σ H1 _ I1 q) λ us s2 ⟨vs,H2,I2,r,q2⟩=>⟨I2.kIn,?_⟩) hst hpl
 exact Jr4 (us:=.ref a::us) (vs:=.ref a::vs) F hr hb hd hx I2 (.cons rfl r) q2
structure Mk (K:Qc) (C f:Addr):Prop where
 makes:J5m K C=true
 init:Uj K (.ref C) "__init__" = some (some (.ref f))
 fn:J3n K (.ref f)=true
 kp:Uk K (.ref C)=true
theorem Jr5 {pins:List (Addr×Obj)}{σ:St}{H:Hp}{s:J9k}{Q:VK}{us:List J9j}{vs:List V}(M:Mk X.K C f) (F:FnOk X.prog X.w X.K X.mg X.base CX k f fd ps sp) (hr:Room (k+1) X.A) (hb:Bl X.K fd ps ds) (hd:Yb dvs ds)
 (hx:Jew CX X E) (I:Inv X pins σ H s) (r:Yb vs us)
 (h:∀ x dx,H x=none->H dx=none->dx≠x->sp (.ref x::(vs++dvs)) (upd (upd H dx (.own x)) x (.ins C dx [])) (λ v H2=>v = .non/\Q (.ref x) H2) E) :
 J9l (model X.prog X.w) X.A (call (.ref C) us) (EP X pins σ Q) X.xe s:=by
 have hq:=h (s.heap.objs.size+1) s.heap.objs.size (I.hok.fresh (J5p _)) (I.hok.fresh (Ql _)) (Xg (J4b _))
 have I2:=Inv.made (C:=C) I
 have r2:Yb (V.ref (s.heap.objs.size+1)::(vs++dvs)) (Q3 (s.heap.objs.size+1)::(us++ds)):=.cons rfl (r.append hd)
 have hl:(Q3 (s.heap.objs.size+1)::us++ds).length=ps.length:=by
  have e:=r2.length
  rw [F.len _ _ _ _ hq] at e
  exact e.symm
 refine wpAny_call (Jr3 (f:=f) I.kIn M.makes M.init (beq_iff_eq.mp M.fn) (codeAny_mono (F.run _ X.stack _ _ ⟨Q3 (s.heap.objs.size+1)::us,[]⟩ (Q3 (s.heap.objs.size+1)::(us++ds)) _ _ E (hr.make C us [])
  (I2.env0.make C us []) (hb _ (Q3 (s.heap.objs.size+1)::us) I2.kIn hl) r2 hq) λ r s' hq'=>?_))
 cases r with
 | error e=>exact hx pins σ _ _ e s' I2 hq'
 | ok fl=>
  cases fl with
  | ret u=>
   obtain ⟨v,H',I3,rv,ev,q3⟩:=I2.after hq'
   subst ev
   exact ⟨rv,⟨V.ref (s.heap.objs.size+1),H',I3,rfl,q3⟩⟩
  | next=>exact Ua hq'
  | brk=>exact Ua hq'
  | cont=>exact Ua hq'
theorem Jvd (M:Mk X.K C f) (F:FnOk X.prog X.w X.K X.mg X.base CX k f fd ps sp) (hr:Room (k+1) X.A) (hg:Gl X x) (hm:X.mg x=some (.ref C)) (hb:Bl X.K fd ps ds) (hd:Yb dvs ds) (hx:Jew CX X E)
 (ha:PA X (e::es) t) (hdb:(x==("__debug__":Str))=false:=by decide) (he:starEach (e::es) X.env=(false,eval e X.env)::starEach es X.env:=by rfl) (hpl:(backTo pos (starEach es X.env)).any (·.1)=false:=by rfl) :
 PE X (.Call (.Name x p) (e::es) [] pos) (Jxa C sp dvs E t):=by
 intro pins s σ H Q I h
 refine J98 (Jo6 I hg hm ?_ hdb)
 refine J5o (h₀:=X.base) I.ok.mod.kin M.kp (thn (ha pos pins s σ H _ I h) λ us s1 ⟨vs,H1,I1,r,q⟩=>⟨I1.kIn,?_⟩) he hpl
 exact Jr5 M F hr hb hd hx I1 r q
end
section
variable {X:Cx}{CX:CXT}{k:Nat}{f C:Addr}{fd:J9v}{ps ks:List Str}{sp:Sp}{E:XK}{x m:Str}{p pos apos kpos:Pos}{e o:Expr}{es:List Expr}{kws:List J95}{te ta:TE}{t tk:TA}{nm:Option Str}
variable {g:List J9j->List J9j->List J9j}{gV:List V->List V->List V}
end
structure FnScope (N P:List Str) (sc:J9q):Prop where
 kind:sc.kind = .function
 co:sc.isCoroutine=false
 gen:sc.isGenerator=false
 nd:N.Nodup
 pre:N.take P.length=P
 par:∀ x∈P,sc.names.lookup x=some .local \/ sc.names.lookup x=some .cell
 nofree:∀ y∈sc.names,y.2≠.free
theorem Ji9 {kindOf:Str->Option J9s}{x:Str}:∀ {binds:List (Str×J9j)}{m:Str->Option J9j},(∀ v,(x,v)∉binds)->bindL kindOf binds m x=m x
 | [],_,_=>rfl
 | (n,v)::r,m,h=>by
  unfold bindL
  rw [Ji9 λ w hw=>h w (Qh _ hw)]
  split
  . have:x≠n:=by rintro rfl;exact h v Qg
    simp [this]
  . rfl
theorem Jja {kindOf:Str->Option J9s}{x:Str}:∀ {binds:List (Str×J9j)}{m:Str->Option J9j},(∀ v,(x,v)∉binds)->bindC kindOf binds m x=m x
 | [],_,_=>rfl
 | (n,v)::r,m,h=>by
  unfold bindC
  rw [Jja λ w hw=>h w (Qh _ hw)]
  split
  . rfl
  . have:x≠n:=by rintro rfl;exact h v Qg
    simp [this]
theorem Jjb {kindOf:Str->Option J9s}{x:Str}{v:J9j}:∀ {P:List Str}{vs:List J9j}{i:Nat}{m:Str->Option J9j},P.Nodup->P[i]? = some x->vs[i]? = some v->kindOf x=some .local ->
 bindL kindOf (P.zip vs) m x=some v
 | [],_,_,_,_,h,_,_=>by simp at h
 | _::_,[],_,_,_,_,h,_=>by simp at h
 | p::P,w::vs,0,m,nd,h1,h2,hk=>by
  simp at h1 h2;subst h1;subst h2
  show bindL kindOf ((p,w)::P.zip vs) m p=_
  unfold bindL
  rw [Ji9 λ v hv=>(Xn.mp nd).1 (J3a hv).1,if_pos hk]
  simp
 | p::P,w::vs,i+1,m,nd,h1,h2,hk=>by
  show bindL kindOf ((p,w)::P.zip vs) m x=_
  unfold bindL
  exact Jjb (i:=i) (Xn.mp nd).2 (by simpa using h1) (by simpa using h2) hk
theorem Jjc {kindOf:Str->Option J9s}{x:Str}{v:J9j}:∀ {P:List Str}{vs:List J9j}{i:Nat}{m:Str->Option J9j},P.Nodup->P[i]? = some x->vs[i]? = some v->kindOf x≠some .local ->
 bindC kindOf (P.zip vs) m x=some v
 | [],_,_,_,_,h,_,_=>by simp at h
 | _::_,[],_,_,_,_,h,_=>by simp at h
 | p::P,w::vs,0,m,nd,h1,h2,hk=>by
  simp at h1 h2;subst h1;subst h2
  show bindC kindOf ((p,w)::P.zip vs) m p=_
  unfold bindC
  rw [Jja λ v hv=>(Xn.mp nd).1 (J3a hv).1,if_neg hk]
  simp
 | p::P,w::vs,i+1,m,nd,h1,h2,hk=>by
  show bindC kindOf ((p,w)::P.zip vs) m x=_
  unfold bindC
  exact Jjc (i:=i) (Xn.mp nd).2 (by simpa using h1) (by simpa using h2) hk
noncomputable def start (N:List Str) (vs:List V):St:=vs.map some++Qr (N.length-vs.length) none
noncomputable def Jny (CX:CXT) (P:J9n) (w:J9m) (K:Qc) (mg:Str->Option J9j) (base:Heap) (N:List Str) (qual:Str) (scope:J9q) (f:Addr) (cd:J9j) (A:J9o) (outer:List Env) (s:J9k) (H:Hp) (E:XK):Cx where
 prog:=P
 w:=w
 K:=K
 mg:=mg
 base:=base
 A:=A.deeper (envOfC qual scope s.heap.objs.size f cd)
 N:=N
 s₀:=s
 H₀:=H
 env:=envOfC qual scope s.heap.objs.size f cd
 outer:=outer
 stack:=envOfC qual scope s.heap.objs.size f cd::outer
 ex:=[]
 calm:=true
 fn:=λ _=>true
 pn:=[]
 xe:=λ e s'=>J9l (model P w) (A.deeper (envOfC qual scope s.heap.objs.size f cd)) (leaving (envOfC qual scope s.heap.objs.size f cd) e) (λ _ s''=>CX outer H s E e s'') (λ e' s''=>CX outer H s E e' s'') s'
theorem Jlr {sc:J9q}{n:Nat}{x:Str}(h:sc.names.lookup x=some .cell):∃ c,(cellsFrom n sc.names []).lookup x=some c:=by
 have q:=J7j sc.names n [] (.inl h)
 exact Option.isSome_iff_exists.mp q
theorem Jqp {CX:CXT}{P:J9n}{w:J9m}{K:Qc}{mg:Str->Option J9j}{base:Heap}{N ps:List Str}{qual:Str}{scope:J9q}{f:Addr}{cd:J9j}{A:J9o}{outer:List Env}{s s1:J9k}{H:Hp}{E:XK}{us:List J9j}{vs:List V}
 (S:FnScope N ps scope) (hd:A.handled=none) (e0:Env0 P w K mg base A outer s H) (hl:vs.length=ps.length) (r:Yb vs us)
 (x:InCallC s s.heap.objs.size (bindL (envOfC qual scope s.heap.objs.size f cd).kindOf (ps.zip us) λ _=>none) (cellsFrom (s.heap.objs.size+1) scope.names []) (bindC (envOfC qual scope s.heap.objs.size f cd).kindOf (ps.zip us) λ _=>none) s1) :
 Inv (Jny CX P w K mg base N qual scope f cd A outer s H E) [] (start N vs) H s1:=by
 have hpl:ps.length<=N.length:=by have:=congrArg J3p S.pre;rw [J4d] at this;omega
 obtain ⟨h1,tk,rfl,hk⟩:=x.done
 have noA:∀ b:Addr,b∉(Jny CX P w K mg base N qual scope f cd A outer s H E).ex:=λ b z=>absurd (show b∈([]:List Addr) from z) (by simp)
 refine ⟨⟨e0.mod,S.kind,rfl,rfl,Ql _,λ y z c h1 h2=>?_,λ y hy=>?_,λ y c _ h=>?_,λ _=>hd,Around.frames_deeper e0.frames,.inr ⟨rfl,rfl⟩,λ b z=>absurd z (noA b),e0.bs,e0.bsz,λ b _ _=>noA b,λ b z=>absurd z (noA b),e0.funs,e0.frf⟩,
  rfl,e0.bare,Un.kept hk,⟨_,x.toInCall.ns,λ i y v h1 h2 h3=>?_⟩,λ y c h=>⟨_,x.cell y c h⟩,e0.hok.fresh (Ql _),λ y c h=>?_,λ p hp=>absurd (show p∈([]:List (Addr×Obj)) from hp) (by simp),e0.hok.kept hk,?_⟩
 . exact name_of_addr x.apart (Xo h1) (Xo h2)
 . have hy:scope.names.lookup y=some .cell\/scope.names.lookup y=some .free:=hy
   rcases hy with hy | hy
   . exact Jlr hy
   . exact absurd rfl (S.nofree _ (Xo hy))
 . exact Uz (x.above y c (Xo h))
 . have hi:i<vs.length:=by
    unfold start at h2
    by_cases hi:i<vs.length
    . exact hi
    . rw [J2m (by simpa using hi)] at h2
      rw [U2] at h2
      split at h2<;>cases h2
   have ha:vs[i]? = some v:=by
    unfold start at h2
    rw [Up (by simpa using hi),Qk] at h2
    cases e:vs[i]? with
    | none=>rw [e] at h2;cases h2
    | some a=>rw [e] at h2;cases h2;rfl
   obtain ⟨u,hu,rv⟩:=r.get ha
   have hp:ps[i]? = some y:=by
    rw [<- S.pre,List.getElem?_take_of_lt (by omega)];exact h1
   have ndP:ps.Nodup:=by rw [<- S.pre];exact S.nd.sublist (List.take_sublist _ _)
   refine ⟨u,rv,?_⟩
   rcases S.par y (Xb hp) with k | k
   . exact .inl ⟨k,Jjb ndP hp hu k⟩
   . obtain ⟨c,e⟩:=Jlr (n:=s.heap.objs.size+1) k
     refine .inr ⟨.inl k,c,e,?_⟩
     have q:=x.cell y c e
     rw [Jjc ndP hp hu (by show scope.names.lookup y≠_;rw [k];decide)] at q
     exact q
 . exact e0.hok.fresh (Uz (x.above y c (Xo h)))
 . unfold start
   show _=N.length
   rw [Xc,Qb,Ub]
   omega
theorem Jxb {CX:CXT}{P:J9n}{w:J9m}{K:Qc}{mg:Str->Option J9j}{base:Heap}{k:Nat}{f:Addr}{name qual:Str}{params:Arguments}{body:List Stmt}{scope:J9q}{dV kV doc pm cdv ct oc:J9j}{an od:Option Addr}
 {osl:Array (Option J9j)} {N ps:List Str} {sp:Sp} (lk:K.lookup f=some ⟨oc,od,.func (X0 name qual params body scope dV kV doc pm an cdv ct),osl⟩) (hcd:J2n K cdv qual=true) (S:FnScope N ps scope)
 (len:∀ vs H Q E,sp vs H Q E->vs.length=ps.length)
 (hbody:∀ (A:J9o) (outer:List Env) (s:J9k) (H:Hp) (vs:List V) (Q:VK) (E:XK),Room k (A.deeper (envOfC qual scope s.heap.objs.size f cdv))->sp vs H Q E ->
  ∃ t,PSs (Jny CX P w K mg base N qual scope f cdv A outer s H E) body t/\t { nx:=λ _ H'=>Q .non H',rt:=Q } (start N vs) H) :
 FnOk P w K mg base CX (k+1) f (X0 name qual params body scope dV kV doc pm an cdv ct) ps sp:=by
 refine ⟨len,λ A outer s H args us vs Q E hr e0 hb r hsp=>?_⟩
 have hl:=len _ _ _ _ hsp
 have KX:K.In s.heap:=e0.mod.kin.keeps λ b o e=>(e0.bs b o e).1
 have lim:s.heap.NoLimit:=e0.mod.nolimit.keeps λ b o e=>(e0.bs b o e).1
 have hkind:∀ y∈ps.zip us,scope.names.lookup y.1=some .local \/ (scope.names.lookup y.1=some .cell/\((cellsFrom (s.heap.objs.size+1) scope.names []).lookup y.1).isSome=true):=λ ⟨n,v⟩ hy=>by
  rcases S.par n (J3a hy).1 with q | q
  . exact .inl q
  . exact .inr ⟨q,J7j _ _ _ (.inl q)⟩
 refine codeAny_call_function hr.depth (KX _ _ lk) rfl S.co S.gen rfl (PySem.W.codeRec_of KX hcd) (hb _ _ _ _ ?_)
 refine wpAny_newFunctionEnv_cells S.kind hkind λ env he s1 x=>?_
 subst he
 refine ⟨lim.keeps x.toInCall.keep,codeAny_func ?_⟩
 obtain ⟨t,ht,hq⟩:=hbody A outer s H vs Q E (hr.deeper _) hsp
 have I:Inv (Jny CX P w K mg base N qual scope f cdv A outer s H E) [] (start N vs) H s1:=Jqp S hr.hd e0 hl r x
 refine wpAny_mono (ht [] s1 (start N vs) H _ I hq) (λ fl s' hs=>?_) λ e s' hs=>hs
 have fin:∀ {σ':St} {H':Hp} {v:V} {u:J9j},Inv (Jny CX P w K mg base N qual scope f cdv A outer s H E) [] σ' H' s'->Yl v u->Q v H'->CE outer P w H s Q u s':=
  λ {σ' H' v u} J rv q=>⟨v,H',J.os,J.bare,J.base,J.hok,rv,q⟩
 cases fl with
 | ret u=>
  obtain ⟨v,σ',H',J,rv,q⟩:=hs
  exact fin J rv q
 | next=>
  obtain ⟨σ',H',J,q⟩:=hs
  exact fin (v:=V.non) (u:=Ut) J rfl q
 | brk=>
  obtain ⟨_,_,_,q⟩:=hs
  exact Ua q
 | cont=>
  obtain ⟨_,_,_,q⟩:=hs
  exact Ua q
section
variable {X:Cx}{x:Str}{p pos:Pos}{e:Expr}{es:List Expr}{t:TA}{id T:String}{r:List V->Hp->VK->Prop}
def tCB (r:List V->Hp->VK->Prop) (t:TA):TE:=λ σ H Q=>t σ H λ vs H1=>r vs H1 Q
theorem Jy (hc:Bj X (.builtin id) r) (hg:Gl X x) (hm:X.mg x=none) (hv:Yac x=some (.builtin id)) (ha:PA X (e::es) t) (hn:x≠"__name__":=by decide) (hdb:(x==("__debug__":Str))=false:=by decide)
 (he:starEach (e::es) X.env=(false,eval e X.env)::starEach es X.env:=by rfl) (hpl:(backTo pos (starEach es X.env)).any (·.1)=false:=by rfl):PE X (.Call (.Name x p) (e::es) [] pos) (tCB r t):=by
 intro pins s σ H Q I h
 refine J98 (Bw I hg hm hv ?_ hn hdb)
 exact PyProof.Rows.callWith_builtin1 (thn (ha pos pins s σ H _ I h) λ us s1 ⟨vs,H1,I1,r1,q1⟩=>hc pins s1 σ H1 vs us Q I1 r1 q1) he hpl
theorem Yc (hc:Bj X (.type T) r) (hg:Gl X x) (hm:X.mg x=none) (hv:Yac x=some (.type T)) (ha:PA X (e::es) t) (hn:x≠"__name__":=by decide) (hdb:(x==("__debug__":Str))=false:=by decide)
 (he:starEach (e::es) X.env=(false,eval e X.env)::starEach es X.env:=by rfl) (hpl:(backTo pos (starEach es X.env)).any (·.1)=false:=by rfl):PE X (.Call (.Name x p) (e::es) [] pos) (tCB r t):=by
 intro pins s σ H Q I h
 refine J98 (Bw I hg hm hv ?_ hn hdb)
 exact U0 (thn (ha pos pins s σ H _ I h) λ us s1 ⟨vs,H1,I1,r1,q1⟩=>hc pins s1 σ H1 vs us Q I1 r1 q1) he hpl
end
end L2
namespace HT
open PySem PyProof.Rows
section
open PySem.SeqAt
open PySem.AutoSeq1 (wpAny_loadPart')
open PySem.MeetsSeq PySem.MeetsSeq2 PySem.MeetsSeq3
end
section
variable {prog:J9n}{w:J9m}{A:J9o}{E:J9j->J9k->Prop}{s:J9k}
noncomputable def sIx (n d:Nat):Option Int->Nat
 | none=>d
 | some v=>if v<0 then (v+(n:Int)).toNat else min v.toNat n
theorem sIx_none (n d:Nat):sIx n d none=d:=rfl
theorem sIx_nat (n d k:Nat):sIx n d (some (k:Int))=min k n:=by
 show (if (k:Int)<0 then ((k:Int)+(n:Int)).toNat else min (k:Int).toNat n)=min k n
 rw [if_neg (by omega),Q0]
end
end HT
namespace L2
abbrev TO:=St->Hp->(Option Int->Hp->Prop)->Prop
def PO (X:Cx) (e:Option Expr) (t:TO):Prop:=
 ∀ (pins:List (Addr×Obj)) (s:J9k) (σ:St) (H:Hp) (Q:Option Int->Hp->Prop),Inv X pins σ H s->t σ H Q ->
  J9l (model X.prog X.w) X.A (evalPart e X.env) (λ u s'=>∃ o H',Inv X pins σ H' s'/\IsPart u o/\Q o H') X.xe s
def Jpc:TO:=λ _ H Q=>Q none H
def Jxc (t:TE):TO:=λ σ H Q=>t σ H λ x H1=>∃ i,x = .int i/\Q (some i) H1
theorem Jnz {ns:List Int}:∀ {us:List J9j},Yb (ns.map V.int) us->Yah us ns:=by
 induction ns with
 | nil=>intro us r;rw [J2w] at r;cases r;exact .nil
 | cons n ns ih=>
  intro us r
  rw [Qz] at r
  cases r with
  | cons r1 r2=>
   obtain ⟨t,e⟩:=r1
   subst e
   exact .cons n t (ih r2)
section
variable {X:Cx}{e:Expr}{te:TE}{lo hi:Option Expr}{tl th:TO}{pos p2:Pos}
theorem Jcl:PO X none Jpc:=by
 intro pins s σ H Q I h
 rw [evalPart_none]
 exact wpAny_pure ⟨none,H,I,.none,h⟩
theorem Jcm (h:PE X e te):PO X (some e) (Jxc te):=by
 intro pins s σ H Q I hw
 rw [evalPart_some]
 refine thn (h pins s σ H _ I hw) λ u s1 ⟨x,H1,I1,r1,q1⟩=>?_
 obtain ⟨i,rfl,q⟩:=q1
 obtain ⟨t,rfl⟩:=r1
 exact ⟨some i,H1,I1,.int i t,q⟩
def SlR (X:Cx) (r:V->Option Int->Option Int->Hp->VK->Prop):Prop:=
 ∀ (pins:List (Addr×Obj)) (s:J9k) (σ:St) (H:Hp) (x:V) (v vl vu:J9j) (lo hi:Option Int) (sl:Addr) (Q:VK),Inv X pins σ H s->Yl x v->s.heap.IsSliceOf sl vl vu .none->IsPart vl lo->IsPart vu hi->r x lo hi H Q ->
  ∃ T id,typeLookup (.type T) "__getitem__" = pure (some (.builtin id))/\s.TypeIs v T/\J9l (model X.prog X.w) X.A (getItem v (.ref sl)) (EP X pins σ Q) X.xe s
def tSl (r:V->Option Int->Option Int->Hp->VK->Prop) (te:TE) (tl th:TO):TE:=λ σ H Q=>te σ H λ x H1=>tl σ H1 λ l H2=>th σ H2 λ u H3=>r x l u H3 Q
theorem Jas {r:V->Option Int->Option Int->Hp->VK->Prop}(hr:SlR X r) (he:PE X e te) (hl:PO X lo tl) (hu:PO X hi th):PE X (.Subscript e (.Slice lo hi none p2) pos) (tSl r te tl th):=by
 intro pins s σ H Q I h
 refine Subscript_ (thn (he pins s σ H _ I h) λ v s1 ⟨x,H1,I1,r1,q1⟩=>?_)
 refine wpAny_Slice (thn (hl pins s1 σ H1 _ I1 q1) λ vl s2 ⟨l,H2,I2,pl,q2⟩=>thn (hu pins s2 σ H2 _ I2 q2) λ vu s3 ⟨u,H3,I3,pu,q3⟩=>?_)
 rw [evalPart_none]
 refine wpAny_pure ?_
 have I4:Inv X pins σ H3 { s3 with heap:=s3.heap.push { cls:=.type "slice",data:=.fields #[vl,vu,.none] } }:=I3.kept (t':=s3.toks) λ b ob q=>Qu _ q
 obtain ⟨T,id,hT,ht,hg⟩:=hr pins { s3 with heap:=s3.heap.push { cls:=.type "slice",data:=.fields #[vl,vu,.none] } } σ H3 x v vl vu l u s3.heap.objs.size Q I4 r1 (J9e ..) pl pu q3
 show J9l (model X.prog X.w) X.A (subscriptTail e (.Slice lo hi none p2) v (.ref s3.heap.objs.size)) (EP X pins σ Q) X.xe { s3 with heap:=s3.heap.push { cls:=.type "slice",data:=.fields #[vl,vu,.none] } }
 exact tail_any (ops:=[.ref s3.heap.objs.size,v]) ht hT hg (by with_unfolding_all rfl)
noncomputable def Jls (xs:List V) (lo hi:Option Int):List V:=(xs.drop (HT.sIx xs.length 0 lo)).take (HT.sIx xs.length xs.length hi-HT.sIx xs.length 0 lo)
theorem Jfs (xs:List V) (lo hi:Option Int):(Jls xs lo hi).length<=xs.length:=by
 unfold Jls
 rw [J4d,J3q]
 omega
end
noncomputable def ixN (n:Nat) (i:Int):Option Nat:=if 0<=i then (if i<n then some i.toNat else none) else if -(n:Int)<=i then some (i+n).toNat else none
noncomputable def atI {α:Type}(xs:List α) (i:Int):Option α:=(ixN xs.length i).bind λ j=>xs[j]?
theorem Jpd {n:Nat}{i:Int}{j:Nat}(h:ixN n i=some j):seqIndex? i n=some j/\j<n/\-(n:Int)<=i/\i<n:=by
 unfold ixN at h
 by_cases h0:0<=i
 . rw [if_pos h0] at h
   by_cases h1:i<n
   . rw [if_pos h1] at h
     have e:i.toNat=j:=Xi h
     exact ⟨by rw [seqIndex_of h0 h1,e],by omega,by omega,h1⟩
   . rw [if_neg h1] at h;cases h
 . rw [if_neg h0] at h
   by_cases h1:-(n:Int)<=i
   . rw [if_pos h1] at h
     have e:(i+n).toNat=j:=Xi h
     exact ⟨by rw [Yau (by omega) h1,e],by omega,h1,by omega⟩
   . rw [if_neg h1] at h;cases h
theorem Jpe {α:Type}{xs:List α}{i:Int}{v:α}(h:atI xs i=some v):∃ j,seqIndex? i xs.length=some j/\xs[j]? = some v/\j<xs.length/\-(xs.length:Int)<=i/\i<xs.length:=by
 unfold atI at h
 cases e:ixN xs.length i with
 | none=>rw [e] at h;cases h
 | some j=>
  rw [e] at h
  obtain ⟨h1,h2,h3,h4⟩:=Jpd e
  exact ⟨j,h1,h,h2,h3,h4⟩
theorem Jj0 {α:Type}{xs:List α}{j:Nat}{v:α}(h:xs[j]? = some v):atI xs (j:Int)=some v:=by
 have hj:j<xs.length:=(Qt.mp h).1
 have e:ixN xs.length (j:Int)=some j:=by
  unfold ixN
  rw [if_pos (by omega),if_pos (by omega)];simp
 unfold atI;rw [e];exact h
def Jve (b:Expr):Prop:=∀ o i,subscripted b false o i=operate [o,i] (getItem o i)
def IxR (X:Cx) (r:R2):Prop:=
 ∀ (value slice:Expr) (pins:List (Addr×Obj)) (s:J9k) (σ:St) (H:Hp) (x y:V) (v u:J9j) (Q:VK),Inv X pins σ H s->Yl x v->Yl y u->r x y H Q ->
  subscripted slice false v u=operate [v,u] (getItem v u)->J9l (model X.prog X.w) X.A (subscriptTail value slice v u) (EP X pins σ Q) X.xe s
def MtR (X:Cx) (id:String) (r:V->List V->Hp->VK->Prop):Prop:=
 ∀ (pins:List (Addr×Obj)) (s:J9k) (σ:St) (H:Hp) (x:V) (xs:List V) (v:J9j) (us:List J9j) (Q:VK),Inv X pins σ H s->Yl x v->Yb xs us->r x xs H Q ->
  J9l (model X.prog X.w) X.A (call (.builtin id) (v::us)) (EP X pins σ Q) X.xe s
section
variable {X:Cx}{a b:Expr}{ta tb:TE}{pos:Pos}
theorem Jj {r:R2}(hr:IxR X r) (ha:PE X a ta) (hb:PE X b tb) (hs:Jve b):PE X (.Subscript a b pos) (tOp r ta tb):=by
 intro pins s σ H Q I h
 exact Subscript_ (Jyb ha hb I h λ v u s2 x y H2 I2 rx ry q=>hr a b pins s2 σ H2 x y v u Q I2 rx ry q (hs _ _))
def Jlt (K:Qc):R2:=λ x y H Q=>∃ p xs i v,x = .ref p/\y = .int i/\SqL K H p xs/\atI xs i=some v/\Q v H
def Jyk (K:Qc):R2:=λ x y H Q=>∃ p xs i v,x = .ref p/\y = .int i/\SqT K H p xs/\atI xs i=some v/\Q v H
theorem Jr:IxR X (Jlt X.K):=by
 intro value slice pins s σ H x y v u Q I rx ry h hs
 obtain ⟨p,xs,i,z,rfl,rfl,hq,he,q⟩:=h
 cases rx
 obtain ⟨t,rfl⟩:=ry
 obtain ⟨its,r,pl,hz⟩:=I.list hq
 obtain ⟨j,h1,h2,h3,h4,h5⟩:=Jpe he
 obtain ⟨w,ew,rw'⟩:=r.get h2
 have hl:=r.length
 have hn:=Jgu
 have fin:EP X pins σ Q w s:=⟨z,H,I,rw',q⟩
 by_cases h0:0<=i
 . have hj:i.toNat=j:=by
    rw [seqIndex_of h0 h5] at h1
    exact Xi h1
   exact item_listR pl.isList h0 (by omega) (by rw [hj];simpa using ew) fin hs
 . have hj:(i+(its.toArray.size:Int)).toNat=j:=by
    rw [Yau (by omega) h4] at h1
    rw [Xa,<- hl]
    exact Xi h1
   exact Yax (x:=w) pl.isList.typeIs slot_list_getitem.lookup
    (wpAny_getItem_list_neg (Q:=λ r s'=>r=w/\EP X pins σ Q r s') pl.isList (by omega) (by rw [Xa]<;>omega) (by omega) (by rw [hj];simpa using ew) ⟨rfl,fin⟩) hs
theorem Jz:IxR X (Jyk X.K):=by
 intro value slice pins s σ H x y v u Q I rx ry h hs
 obtain ⟨p,xs,i,z,rfl,rfl,hq,he,q⟩:=h
 cases rx
 obtain ⟨t,rfl⟩:=ry
 obtain ⟨its,r,pl,hz⟩:=I.tuple hq
 obtain ⟨j,h1,h2,h3,h4,h5⟩:=Jpe he
 obtain ⟨w,ew,rw'⟩:=r.get h2
 have hl:=r.length
 have hn:=Jgu
 have fin:EP X pins σ Q w s:=⟨z,H,I,rw',q⟩
 exact Yax (x:=w) pl.typeIs slot_tuple_getitem.lookup
  (getItem_tuple (j:=j) (Q:=λ r s'=>r=w/\EP X pins σ Q r s') pl (by omega) (by omega) (by rw [Xa,<- hl];exact h1) (by simpa using ew) ⟨rfl,fin⟩) hs
theorem Jn0 (its:List J9j) (n j:Nat) (u:J9j):J3r (·.setIfInBounds j u) { cls:=.type "list",data:=.seq its.toArray n } = { cls:=.type "list",data:=.seq (its.set j u).toArray n }:=by
 simp [J3r]
theorem Inv.lst {pins:List (Addr×Obj)}{σ:St}{H:Hp}{s:J9k}{p:Addr}{xs:List V}(I:Inv X pins σ H s) (h:H p=some (.lst xs)) :
 ∃ (its:List J9j) (n:Nat),Yb xs its/\s.heap.get? p=some { cls:=.type "list",data:=.seq its.toArray n }/\xs.length<=sizeLine:=by
 obtain ⟨z,its,n,r,e⟩:=I.hok p _ h
 exact ⟨its,n,r,e,z⟩
theorem Inv.lstUpd {pins:List (Addr×Obj)}{σ:St}{H:Hp}{s:J9k}{p:Addr}{xs ys:List V}{its its':List J9j}{n n':Nat}{f:Obj->Obj}(I:Inv X pins σ H s) (h:H p=some (.lst xs))
 (ho:s.heap.get? p=some { cls:=.type "list",data:=.seq its.toArray n }) (hf:f { cls:=.type "list",data:=.seq its.toArray n } = { cls:=.type "list",data:=.seq its'.toArray n' }) (r:Yb ys its') (hz:ys.length<=sizeLine) (t:Nat) :
 Inv X pins σ (upd H p (.lst ys)) { s with heap:=s.heap.update p f,toks:=t }:=by
 have e:(s.heap.update p f).get? p=some { cls:=.type "list",data:=.seq its'.toArray n' }:=by
  rw [J4e f ho (by rw [hf]<;>rfl),hf]
 refine I.write (x:=p) (e:=p) (by rw [h];trivial) (.inl rfl) (λ b u hb q=>(U3 _ _ (Qj hb)).trans q) ⟨_,e⟩ ?_
 exact ⟨hz,its',n',r,e⟩
def Jgv:V->V->V->Hp->(Hp->Prop)->Prop:=λ o i v H Q=>∃ p xs k j,o = .ref p/\i = .int k/\H p=some (.lst xs)/\ixN xs.length k=some j/\Q (upd H p (.lst (xs.set j v)))
theorem Yq:Jz2 X Jgv:=by
 intro pins s σ H o i v ov iv u Q I ro ri rv h
 obtain ⟨p,xs,k,j,rfl,rfl,hp,hj,q⟩:=h
 cases ro
 obtain ⟨t,rfl⟩:=ri
 obtain ⟨its,n,r,ho,hz⟩:=I.lst hp
 obtain ⟨h1,h2,h3,h4⟩:=Jpd hj
 have hl:=r.length
 have hn:=Jgu
 have I':Inv X pins σ (upd H p (.lst (xs.set j v))) { s with heap:=s.heap.update p (J3r (·.setIfInBounds j u)) }:=
  I.lstUpd hp ho (Jn0 its n j u) (r.set rv j) (by rw [Qs];exact hz) s.toks
 by_cases h0:0<=k
 . have hk:k.toNat=j:=by
    rw [seqIndex_of h0 h4] at h1
    exact Xi h1
   exact PySem.W.ki_setAt ho h0 (by omega) (by rw [Xa,<- hl];exact h4) (by rw [hk];exact ⟨_,I',q⟩)
 . have hk:(k+(its.toArray.size:Int)).toNat=j:=by
    rw [Yau (by omega) h3] at h1
    rw [Xa,<- hl]
    exact Xi h1
   exact PySem.W.ki_setBack ho (by omega) (by rw [Xa,<- hl];exact h3) (by omega) (by rw [hk];exact ⟨_,I',q⟩)
theorem Jj1 (lo hi:Option Int) (n:Nat):(sliceBounds lo hi none n).1=((HT.sIx n 0 lo:Nat):Int)/\(sliceBounds lo hi none n).2.1=((HT.sIx n n hi:Nat):Int)/\(sliceBounds lo hi none n).2.2=1:=by
 refine ⟨?_,?_,rfl⟩
 . cases lo with
   | none=>simp [sliceBounds,HT.sIx]
   | some i=>
    simp only [sliceBounds,HT.sIx,Option.getD_none,show (1:Int)>0 by decide,if_true]
    by_cases h:i<0
    . simp only [h,if_true]<;>omega
    . simp only [h,if_false]<;>omega
 . cases hi with
   | none=>simp [sliceBounds,HT.sIx]
   | some i=>
    simp only [sliceBounds,HT.sIx,Option.getD_none,show (1:Int)>0 by decide,if_true]
    by_cases h:i<0
    . simp only [h,if_true]<;>omega
    . simp only [h,if_false]<;>omega
theorem Jij (its:List J9j) (lo hi:Option Int):slicePick its.toArray lo hi none=((its.drop (HT.sIx its.length 0 lo)).take (HT.sIx its.length its.length hi-HT.sIx its.length 0 lo)).toArray:=by
 obtain ⟨h1,h2,h3⟩:=Jj1 lo hi its.toArray.size
 unfold slicePick
 rw [h1,h2,h3]
 simp only [sliceRange_one,pick_run,Xa]<;>rfl
def Jz8 (K:Qc):V->Option Int->Option Int->Hp->VK->Prop:=λ x lo hi H Q=>∃ a xs,x = .ref a/\SqL K H a xs/\∀ p,H p=none->Q (.ref p) (upd H p (.lst (Jls xs lo hi)))
theorem Jcn:SlR X (Jz8 X.K):=by
 intro pins s σ H x v vl vu lo hi sl Q I rx hs pl pu h
 obtain ⟨a,xs,rfl,hx,q⟩:=h
 cases rx
 obtain ⟨its,r,ht,hz⟩:=I.list hx
 have hlen:=r.length
 refine ⟨"list",_,slot_list_getitem.lookup,ht.isList.typeIs,?_⟩
 refine wpAny_getItem_list_slice ht.isList hs pl pu .none (by simp) ?_ (by rw [Xa]<;>omega)
 rw [Jij,<- hlen]
 refine ⟨.ref s.heap.objs.size,_,I.laid (t':=s.toks) (o:=.lst (Jls xs lo hi)) (λ b ob q=>Qu _ q) (Ql _) ?_,rfl,q _ (I.hok.fresh (Ql _))⟩
 exact ⟨Xl (Jfs xs lo hi) hz,_,0,(r.drop (HT.sIx xs.length 0 lo)).take (HT.sIx xs.length xs.length hi-HT.sIx xs.length 0 lo),Xe _ rfl⟩
noncomputable def Jc1:V->Bool
 | .non=>true
 | .bl _=>true
 | .int _=>true
 | .str _=>true
 | _=>false
noncomputable def eqV:V->V->Bool
 | .non,.non=>true
 | .bl a,.bl b=>a==b
 | .bl a,.int b=>(if a then 1 else 0)==b
 | .int a,.bl b=>a==(if b then 1 else 0)
 | .int a,.int b=>a==b
 | .str a,.str b=>a==b
 | _,_=>false
theorem Jyl {A:J9o}{s:J9k}{y x:V}{u v:J9j}(ry:Yl y u) (rx:Yl x v) (fy:Jc1 y=true) (fx:Jc1 x=true):SeqAt.EqAt A s u v (eqV y x):=by
 cases y with
 | non=>
  cases ry
  cases x with
  | non=>cases rx;exact SeqAt.EqAt.same _
  | bl b=>cases rx;exact SeqAt.EqAt.none_bool b
  | int b=>obtain ⟨t,rfl⟩:=rx;exact SeqAt.EqAt.none_int b t
  | str b=>obtain ⟨t,rfl⟩:=rx;exact SeqAt.EqAt.none_str b t
  | _=>exact absurd (show false=true from fx) Q6
 | bl a=>
  cases ry
  cases x with
  | non=>cases rx;exact SeqAt.EqAt.bool_none a
  | bl b=>cases rx;exact SeqAt.EqAt.bool_bool a b
  | int b=>obtain ⟨t,rfl⟩:=rx;exact SeqAt.EqAt.bool_int a b t
  | str b=>obtain ⟨t,rfl⟩:=rx;exact SeqAt.EqAt.bool_str a b t
  | _=>exact absurd (show false=true from fx) Q6
 | int a=>
  obtain ⟨t',rfl⟩:=ry
  cases x with
  | non=>cases rx;exact SeqAt.EqAt.int_none a t'
  | bl b=>cases rx;exact SeqAt.EqAt.int_bool a t' b
  | int b=>obtain ⟨t,rfl⟩:=rx;exact SeqAt.EqAt.int_int a t' b t
  | str b=>obtain ⟨t,rfl⟩:=rx;exact J67 a t' b t
  | _=>exact absurd (show false=true from fx) Q6
 | str a=>
  obtain ⟨t',rfl⟩:=ry
  cases x with
  | non=>cases rx;exact SeqAt.EqAt.str_none a t'
  | bl b=>cases rx;exact SeqAt.EqAt.str_bool a t' b
  | int b=>obtain ⟨t,rfl⟩:=rx;exact J68 a t' b t
  | str b=>obtain ⟨t,rfl⟩:=rx;exact SeqAt.EqAt.str_str a t' b t
  | _=>exact absurd (show false=true from fx) Q6
 | _=>exact absurd (show false=true from fy) Q6
noncomputable def eqU (x:V) (u:J9j):Bool:=match u with
 | .none=>eqV .non x
 | .bool b=>eqV (.bl b) x
 | .int i _=>eqV (.int i) x
 | .str z _=>eqV (.str z) x
 | _=>false
theorem Jr6 {x y:V}{u:J9j}(r:Yl y u) (f:Jc1 y=true):eqU x u=eqV y x:=by
 cases y with
 | non=>cases r;rfl
 | bl b=>cases r;rfl
 | int i=>obtain ⟨t,rfl⟩:=r;rfl
 | str z=>obtain ⟨t,rfl⟩:=r;rfl
 | _=>exact absurd (show false=true from f) Q6
theorem Jds {x:V}:∀ {xs:List V}{us:List J9j},Yb xs us->xs.all Jc1=true->us.any (eqU x)=xs.any λ y=>eqV y x
 | _,_,.nil,_=>rfl
 | y::xs,u::us,.cons r t,f=>by
  rw [J3b,Uc] at f
  rw [U4,U4,Jr6 r f.1,Jds t f.2]
theorem Jbz {A:J9o}{s:J9k}{x:V}{v:J9j}(rx:Yl x v) (fx:Jc1 x=true):∀ {xs:List V}{us:List J9j},Yb xs us->xs.all Jc1=true->∀ u∈us,SeqAt.EqAt A s u v (eqU x u)
 | _,_,.nil,_=>λ u hu=>by cases hu
 | y::xs,u::us,.cons r t,f=>λ u' hu=>by
  rw [J3b,Uc] at f
  rcases Qd.mp hu with rfl | hu
  . rw [Jr6 r f.1];exact Jyl r rx f.1 fx
  . exact Jbz rx fx t f.2 u' hu
noncomputable def inV (x:V) (xs:List V):Bool:=xs.any λ y=>eqV y x
def rIn (K:Qc) (neg:Bool):R2:=λ x y H Q=>∃ p xs,y = .ref p/\(SqL K H p xs\/SqT K H p xs)/\Jc1 x=true/\xs.all Jc1=true/\Q (.bl (if neg then !inV x xs else inV x xs)) H
theorem Jex:OpR X (compareOp .In) (rIn X.K false):=by
 intro pins s σ H x y v u Q I rx ry h
 obtain ⟨p,xs,rfl,hq,fx,fs,q⟩:=h
 cases ry
 rcases hq with hq | hq
 . obtain ⟨its,r,pl,hz⟩:=I.list hq
   refine SeqAt.in_listAt (eqU x) pl.isList (λ w hw=>Jbz rx fx r fs w (by simpa using hw)) ⟨.bl _,H,I,rfl,?_⟩
   rw [show its.toArray.any (eqU x)=its.any (eqU x) by simp,Jds r fs]
   exact q
 . obtain ⟨its,r,pl,hz⟩:=I.tuple hq
   refine SeqAt.in_tupleAt (eqU x) pl (λ w hw=>Jbz rx fx r fs w (by simpa using hw)) ⟨.bl _,H,I,rfl,?_⟩
   rw [show its.toArray.any (eqU x)=its.any (eqU x) by simp,Jds r fs]
   exact q
theorem Ja6:OpR X (compareOp .NotIn) (rIn X.K true):=by
 intro pins s σ H x y v u Q I rx ry h
 obtain ⟨p,xs,rfl,hq,fx,fs,q⟩:=h
 cases ry
 rcases hq with hq | hq
 . obtain ⟨its,r,pl,hz⟩:=I.list hq
   refine SeqAt.notIn_listAt (eqU x) pl.isList (λ w hw=>Jbz rx fx r fs w (by simpa using hw)) ⟨.bl _,H,I,rfl,?_⟩
   rw [show its.toArray.any (eqU x)=its.any (eqU x) by simp,Jds r fs]
   exact q
 . obtain ⟨its,r,pl,hz⟩:=I.tuple hq
   refine SeqAt.notIn_tupleAt (eqU x) pl (λ w hw=>Jbz rx fx r fs w (by simpa using hw)) ⟨.bl _,H,I,rfl,?_⟩
   rw [show its.toArray.any (eqU x)=its.any (eqU x) by simp,Jds r fs]
   exact q
theorem J4:Bj X (.builtin "len") (λ xs H Q=>∃ p ys,xs=[.ref p]/\(SqL X.K H p ys\/SqT X.K H p ys)/\Q (.int ys.length) H):=by
 intro pins s σ H xs us Q I r h
 obtain ⟨p,ys,rfl,hq,q⟩:=h
 obtain ⟨u,rfl,rx⟩:=Jby r
 cases rx
 have hn:=Jgu
 rcases hq with hq | hq
 . obtain ⟨its,r',pl,hz⟩:=I.list hq
   have hlen:=r'.length
   exact Calls.call_len_list pl.isList (by simp only [Xa]<;>omega) ⟨.int ys.length,H,I.tok _,⟨s.toks+1,by rw [Xa,hlen]⟩,q⟩
 . obtain ⟨its,r',pl,hz⟩:=I.tuple hq
   have hlen:=r'.length
   exact len_tuple pl (by simp only [Xa]<;>omega) ⟨.int ys.length,H,I.tok _,⟨s.toks+1,by rw [Xa,hlen]⟩,q⟩
theorem Zx:Bj X (.type "list") (λ xs H Q=>∃ p ys,xs=[.ref p]/\(SqL X.K H p ys\/SqT X.K H p ys)/\∀ l,H l=none->Q (.ref l) (upd H l (.lst ys))):=by
 intro pins s σ H xs us Q I r h
 obtain ⟨p,ys,rfl,hq,q⟩:=h
 obtain ⟨u,rfl,rx⟩:=Jby r
 cases rx
 have fin:∀ (its:List J9j),Yb ys its->ys.length<=sizeLine->∀ (h':Heap) (c':Nat),(∀ b o',s.heap.get? b=some o'->h'.get? b=some o') ->
  h'.get? s.heap.objs.size=some { cls:=.type "list",dict:=none,data:=.seq its.toArray c',slots:=#[] }->EP X pins σ Q (.ref s.heap.objs.size) { s with heap:=h' }:=λ its r' hz h' c' kp e=>
  ⟨.ref s.heap.objs.size,_,I.laid (t':=s.toks) kp (Ql _) (show Yw X.prog X.w _ h' _ (.lst ys) from ⟨hz,its,c',r',e⟩),rfl,q _ (I.hok.fresh (Ql _))⟩
 rcases hq with hq | hq
 . obtain ⟨its,r',pl,hz⟩:=I.list hq
   have hlen:=r'.length
   obtain ⟨o,ho,hc,n,hd⟩:=pl.isList
   exact call_list_seq p (.inl rfl) ho hc hd (λ h' c' kp e=>fin its r' hz h' c' kp e) (by simp only [Xa]<;>omega)
 . obtain ⟨its,r',pl,hz⟩:=I.tuple hq
   have hlen:=r'.length
   obtain ⟨o,ho,hc,n,hd⟩:=pl
   exact call_list_seq p (.inr rfl) ho hc hd (λ h' c' kp e=>fin its r' hz h' c' kp e) (by simp only [Xa]<;>omega)
theorem Yx:Bj X (.type "tuple") (λ xs H Q=>∃ p ys,xs=[.ref p]/\((SqL X.K H p ys/\∀ l,H l=none->Q (.ref l) (upd H l (.tup ys)))\/(SqT X.K H p ys/\Q (.ref p) H))):=by
 intro pins s σ H xs us Q I r h
 obtain ⟨p,ys,rfl,h⟩:=h
 obtain ⟨u,rfl,rx⟩:=Jby r
 cases rx
 rcases h with ⟨hq,q⟩ | ⟨hq,q⟩
 . obtain ⟨its,r',pl,hz⟩:=I.list hq
   have hlen:=r'.length
   refine call_tuple_list pl.isList (λ h' kp=>?_) (by simp only [Xa]<;>omega)
   have I1:Inv X pins σ H { s with heap:=h' }:=I.kept (t':=s.toks) kp
   have I2:Inv X pins σ (upd H h'.objs.size (.tup ys)) { s with heap:=h'.push { cls:=.type "tuple",data:=.seq its.toArray } }:=
    I1.laid (t':=s.toks) (λ b o e=>Qu _ e) (Ql _) (show Yw X.prog X.w _ _ _ (.tup ys) from ⟨hz,its,r',IsTup.new _ _⟩)
   exact ⟨.ref h'.objs.size,_,I2,rfl,q _ (I1.hok.fresh (Ql _))⟩
 . obtain ⟨its,r',pl,hz⟩:=I.tuple hq
   exact call_tuple_same pl ⟨.ref p,H,I,rfl,q⟩
def tyV (K:Qc) (T:String) (x:V) (H:Hp):Prop:=match x with
 | .str _=>T = "str"
 | .int _=>T = "int"
 | .ref p=>(T = "list"/\∃ xs,SqL K H p xs)\/(T = "tuple"/\∃ o,K.lookup p=some o/\o.cls = .type "tuple"/\o.dict=none) \/
  (T = "dict"/\((∃ kvs,H p=some (.dK kvs))\/∃ kvs,H p=some (.dT kvs)))\/(T = "set"/\∃ S n,H p=some (.set S n))
 | _=>False
theorem Jym {pins:List (Addr×Obj)}{σ:St}{H:Hp}{s:J9k}{T:String}{x:V}{v:J9j}(I:Inv X pins σ H s) (r:Yl x v) (ty:tyV X.K T x H) :
 s.TypeIs v T/\∀ a,v = .ref a->∃ ob,s.heap.get? a=some ob/\ob.dict=none:=by
 cases x with
 | str z=>
  obtain ⟨t,rfl⟩:=r
  cases (show T = "str" from ty)
  exact ⟨typeIs_str s z t,λ _ e=>nomatch e⟩
 | int i=>
  obtain ⟨t,rfl⟩:=r
  cases (show T = "int" from ty)
  exact ⟨typeIs_int s i t,λ _ e=>nomatch e⟩
 | ref p=>
  cases r
  rcases ty with ⟨rfl,xs,hq⟩ | ⟨rfl,o,hk,hc,hd⟩ | ⟨rfl,hk⟩ | ⟨rfl,S,n,hk⟩
  . obtain ⟨its,_,pl,_⟩:=I.list hq
    refine ⟨pl.isList.typeIs,λ a e=>?_⟩
    cases e
    obtain ⟨o,n,e,c,hd,_⟩:=pl
    exact ⟨o,e,hd⟩
  . refine ⟨⟨o,I.kIn p o hk,hc⟩,λ a e=>?_⟩
    cases e
    exact ⟨o,I.kIn _ o hk,hd⟩
  . have z:∃ o,s.heap.get? p=some o/\o.ExactDict:=by
     rcases hk with ⟨kvs,hk⟩ | ⟨kvs,hk⟩
     . obtain ⟨_,_,_,_,o,_,_,e,ex,_⟩:=I.hok p _ hk
       exact ⟨o,e,ex⟩
     . obtain ⟨_,_,_,_,o,_,_,e,ex,_⟩:=I.hok p _ hk
       exact ⟨o,e,ex⟩
    obtain ⟨o,e,ex⟩:=z
    refine ⟨⟨o,e,ex.1⟩,λ a e2=>?_⟩
    cases e2
    exact ⟨o,e,ex.2.1⟩
  . obtain ⟨o,_,_,_,e,ex,_⟩:=I.hok p _ hk
    refine ⟨⟨o,e,ex.1⟩,λ a e2=>?_⟩
    cases e2
    exact ⟨o,e,ex.2.1⟩
 | _=>exact Ua ty
def tBM (K:Qc) (T:String) (r:V->List V->Hp->VK->Prop) (to:TE) (t:TA):TE:=λ σ H Q=>to σ H λ x H1=>tyV K T x H1/\t σ H1 λ xs H2=>r x xs H2 Q
variable {o e:Expr}{es:List Expr}{to:TE}{t:TA}{name:Str}{apos cpos:Pos}{T id:String}{r:V->List V->Hp->VK->Prop}
theorem Jft (pa:PlainAttrs T) (slot:Slot T name id) (hty:typeOf (.builtin id)=pure (.type "method_descriptor")) (hm:MtR X id r) (ho:PE X o to) (ha:PA X (e::es) t)
 (hbase:Yae o name X.env (eval o X.env)=eval o X.env:=by rfl)
 (hfew:((backTo cpos (starEach (e::es) X.env)).all (λ x=>!x.1)&&(backToKw cpos (keywordEach [] X.env)).all (λ x=>x.1.isSome)
  && decide ((e::es).length+([]:List J95).length+(if ([]:List J95).isEmpty then 0 else 1)<30))=true:=by rfl)
 (hline:(apos.endLine==cpos.line)=true:=by rfl) (hs:starEach (e::es) X.env=(false,eval e X.env)::starEach es X.env:=by rfl) (hplain:(backTo cpos (starEach es X.env)).any (·.1)=false:=by rfl) :
 PE X (.Call (.Attribute o name apos) (e::es) [] cpos) (tBM X.K T r to t):=by
 intro pins s σ H Q I h
 refine wpAny_Call_method_late hbase hfew hline rfl (thn (ho pins s σ H _ I h) λ v s1 ⟨x,H1,I1,r1,ty,q1⟩=>?_)
 obtain ⟨h1,h2⟩:=Jym I1 r1 ty
 refine ⟨T,id,pa,slot,hty,h1,h2,?_⟩
 have hA:=ha cpos pins s1 σ H1 _ I1 q1
 rw [hs] at hA ⊢
 refine J5q (by show (false||(backTo cpos (starEach es X.env)).any (·.1))=false;rw [hplain]<;>rfl) (J7k ?_)
 exact thn hA λ us s2 ⟨vs,H2,I2,r2,q2⟩=>hm pins s2 σ H2 x vs v us Q I2 r1 r2 q2
end
def MtM (X:Cx) (id:String) (r:V->List V->Hp->VK->Prop):Prop:=
 ∀ (pins:List (Addr×Obj)) (s:J9k) (σ:St) (H:Hp) (x:V) (xs:List V) (v:J9j) (us:List J9j) (Q:VK),Inv X pins σ H s->Yl x v->Yb xs us->r x xs H Q ->
  J9l (model X.prog X.w) X.A (call (.builtin id) (v::us)) (EP X pins σ Q) X.xe s
theorem Yb.one:∀ {x:V}{us:List J9j},Yb [x] us->∃ u,us=[u]/\Yl x u
 | _,_,.cons r .nil=>⟨_,rfl,r⟩
theorem Yb.rep {xs:List V}{us:List J9j}(h:Yb xs us):∀ k:Nat,Yb (Qr k xs).flatten (Qr k us).flatten
 | 0=>.nil
 | k+1=>by
  rw [U5,U5,U6,U6]
  exact Yb.append h (Yb.rep h k)
theorem Jco (its:List J9j):∀ (k:Nat) (acc:List J9j),
 J3s (λ x1 x2=>x1++x2) acc.toArray (Qr k its.toArray)=(acc++(Qr k its).flatten).toArray
 | 0,acc=>by simp
 | k+1,acc=>by
  have e:acc.toArray++its.toArray=(acc++its).toArray:=by simp
  have e2:(acc++its)++(Qr k its).flatten=acc++(Qr (k+1) its).flatten:=by
   rw [U5,U6,J7l]
  rw [<- e2,<- Jco its k (acc++its),<- e,U5,J5r]
section
variable {X:Cx}{pins:List (Addr×Obj)}{σ:St}{H:Hp}{s:J9k}{l b:Addr}{xs ys zs:List V}
theorem Inv.lset {its its':List J9j}{n:Nat}{f:Array J9j->Array J9j}{t':Nat}(I:Inv X pins σ H s) (hH:H l=some (.lst xs))
 (e:s.heap.get? l=some { cls:=.type "list",data:=.seq its.toArray n }) (hf:f its.toArray=its'.toArray) (hv:Yb ys its') (hz:ys.length<=sizeLine) :
 Inv X pins σ (upd H l (.lst ys)) { s with heap:=s.heap.update l (J3r f),toks:=t' }:=by
 have q:=PySem.IsL.update e f
 rw [hf] at q
 refine I.write (x:=l) (e:=l) (by rw [hH];exact trivial) (.inl rfl) (λ b' u hb hu=>(U3 s.heap (J3r f) (Qj hb)).trans hu) ⟨_,q⟩ ?_
 exact ⟨hz,its',_,hv,q⟩
theorem Inv.lnew {its:List J9j}{t':Nat}(I:Inv X pins σ H s) (hv:Yb ys its) (hz:ys.length<=sizeLine) :
 Inv X pins σ (upd H s.heap.objs.size (.lst ys)) { s with heap:=s.heap.push { cls:=.type "list",data:=.seq its.toArray },toks:=t' }:=
 I.laid (λ _ _ q=>Qu _ q) (Ql _) ⟨hz,its,0,hv,Xe _ rfl⟩
theorem Inv.fresh (I:Inv X pins σ H s):H s.heap.objs.size=none:=I.hok.fresh (Ql _)
theorem Inv.lstM (I:Inv X pins σ H s) (hH:H l=some (.lst xs)):xs.length<=sizeLine/\∃ (its:List J9j) (n:Nat),Yb xs its/\xs.length=its.length/\s.heap.get? l=some { cls:=.type "list",data:=.seq its.toArray n }:=by
 obtain ⟨z,its,n,r,e⟩:=I.hok l _ hH
 exact ⟨z,its,n,r,r.length,e⟩
theorem Jgw {n:Nat}(h:n<=sizeLine):J3t n=false:=by
 unfold J3t
 exact decide_eq_false (by omega)
end
section
variable {X:Cx}
def Jj2:V->List V->Hp->VK->Prop:=λ x vs H Q=>∃ l xs y,x = .ref l/\vs=[y]/\H l=some (.lst xs)/\xs.length<sizeLine/\Q .non (upd H l (.lst (xs++[y])))
theorem Wj:MtM X "list.append" Jj2:=by
 intro pins s σ H x vs v us Q I rx rv h
 obtain ⟨l,xs,y,rfl,rfl,hH,hz,q⟩:=h
 cases rx
 obtain ⟨u,rfl,ru⟩:=rv.one
 obtain ⟨z,its,n,r,hl,e⟩:=I.lstM hH
 refine call_meets F.slot_list_append ⟨_,e,rfl⟩ F.entry_list_append (F.args_list_append_2 _ _) (PySem.list_append l its.toArray n u (by rw [Xa];omega)) ⟨e,?_⟩
 refine ⟨.non,_,I.lset (its':=its++[u]) hH e (by simp) (r.append (.cons ru .nil)) ?_,rfl,q⟩
 rw [Xc,Uq]
 omega
def Jpf:V->List V->Hp->VK->Prop:=λ x vs H Q=>∃ l b xs zs,x = .ref l/\vs=[.ref b]/\H l=some (.lst xs)/\H b=some (.lst zs)/\xs.length+zs.length<=sizeLine/\Q .non (upd H l (.lst (xs++zs)))
theorem Jqq:MtM X "list.extend" Jpf:=by
 intro pins s σ H x vs v us Q I rx rv h
 obtain ⟨l,b,xs,zs,rfl,rfl,hH,hB,hz,q⟩:=h
 cases rx
 obtain ⟨u,rfl,ru⟩:=rv.one
 cases ru
 obtain ⟨z,its,n,r,hl,e⟩:=I.lstM hH
 obtain ⟨z2,its2,n2,r2,hl2,e2⟩:=I.lstM hB
 have hsz:its.toArray.size+its2.toArray.size<=sizeLine:=by rw [Xa,Xa];omega
 have hlong:¬ (!its.toArray.isEmpty&&J3t (its.toArray.size+its2.toArray.size))=true:=by
  rw [Jgw hsz,J7m]
  exact Q6
 refine call_meets F.slot_list_extend ⟨_,e,rfl⟩ F.entry_list_extend (F.args_list_extend_2 _ _)
  (AutoSeq1.list_extend_list_list_0 l its.toArray n b its2.toArray n2 hlong (by rw [Xa];omega) (by omega)) ⟨e,e2,?_⟩
 refine ⟨.non,_,I.lset (its':=its++its2) hH e (by simp) (r.append r2) ?_,rfl,q⟩
 rw [Xc]
 omega
def Jz9:R2:=λ x y H Q=>∃ l b xs zs,x = .ref l/\y = .ref b/\H l=some (.lst xs)/\H b=some (.lst zs)/\xs.length+zs.length<=sizeLine/\∀ p,H p=none->Q (.ref p) (upd H p (.lst (xs++zs)))
theorem Jgx:OpR X (binaryOp .Add) Jz9:=by
 intro pins s σ H x y v u Q I rx ry h
 obtain ⟨l,b,xs,zs,rfl,rfl,hH,hB,hz,q⟩:=h
 cases rx
 cases ry
 obtain ⟨z,its,n,r,hl,e⟩:=I.lstM hH
 obtain ⟨z2,its2,n2,r2,hl2,e2⟩:=I.lstM hB
 refine PySem.P.add_list e e2 ?_ (by rw [Xa,Xa];omega)
 have ea:its.toArray++its2.toArray=(its++its2).toArray:=by simp
 rw [ea]
 exact ⟨.ref _,_,I.lnew (t':=s.toks) (r.append r2) (by rw [Xc];omega),rfl,q _ I.fresh⟩
def J0a:R2:=λ x y H Q=>∃ l k xs,x = .ref l/\y = .int k/\H l=some (.lst xs)/\-(2^63)<=k/\k<2^63/\xs.length*k.toNat<=sizeLine /\
 ∀ p,H p=none->Q (.ref p) (upd H p (.lst (Qr k.toNat xs).flatten))
theorem Jdt {α:Type}(xs:List α) (k:Nat):(Qr k xs).flatten.length=k*xs.length:=by
 induction k with
 | zero=>simp
 | succ k ih=>rw [U5,U6,Xc,ih,Nat.succ_mul,Nat.add_comm]
theorem Ja7:OpR X (binaryOp .Mult) J0a:=by
 intro pins s σ H x y v u Q I rx ry h
 obtain ⟨l,k,xs,rfl,rfl,hH,h1,h2,hz,q⟩:=h
 cases rx
 obtain ⟨t,rfl⟩:=ry
 obtain ⟨z,its,n,r,hl,e⟩:=I.lstM hH
 have hlen:its.toArray.size*k.toNat<=sizeLine:=by rw [Xa,<- hl];exact hz
 have hcap:¬ its.toArray.size*k.toNat>(2^63-1)/8:=by
  have:(sizeLine:Nat)<=(2^63-1)/8:=by decide
  omega
 have hfit:¬ (!Builtin.List.listFitsIndex k)=true:=by
  rw [fitsIndex_both h1 h2]
  exact Q6
 have hlong:¬ J3t (its.toArray.size*k.toNat)=true:=by
  rw [Jgw hlen]
  exact Q6
 have hnew:J3s (λ x1 x2=>x1++x2) #[] (Qr (if its.toArray.isEmpty=true then 0 else k.toNat) its.toArray)=(Qr k.toNat its).flatten.toArray:=by
  have f0:∀ m:Nat,J3s (λ x1 x2=>x1++x2) #[] (Qr m its.toArray)=(Qr m its).flatten.toArray:=λ m=>by
   have:=Jco its m []
   rw [J4f] at this
   exact this
  rw [f0]
  cases its with
  | nil=>simp
  | cons a r'=>rw [if_neg (by simp)]
 refine Yay (T:="list") (U:="int") (by decide) ⟨_,e,rfl⟩ (λ s'=>typeIs_int s' k t) noFill_list_mul F.fills_int_mul J7n repeat_list F.slot_int_index.lookup
  (call_meets J7n (typeIs_int s k t) F.entry_int_rmul (F.args_int_rmul_2 _ _) (int___rmul___int_list k t l its.toArray n)
   ⟨e,rfl,⟨_,e,rfl⟩,call_meets F.slot_list_mul ⟨_,e,rfl⟩ F.entry_list_mul (F.args_list_mul_2 _ _) (AutoListH.list___mul___list_int_3 l its.toArray n k t hfit hcap hlong) ⟨e,?_⟩⟩)
 rw [hnew]
 exact ⟨.ref _,_,I.lnew (t':=s.toks) (r.rep k.toNat) (by rw [Jdt,J5s];exact hz),rfl,q _ I.fresh⟩
end
section
variable {prog:J9n}{w:J9m}{A:J9o}{E:J9j->J9k->Prop}{s:J9k}
end
section
variable {X:Cx}
end
section
variable {κ:Type} [DecidableEq κ]
noncomputable def Jac (kvs:List (κ×V)) (k:κ):Option V:=(kvs.find? λ kv=>decide (kv.1=k)).map (·.2)
noncomputable def V3 (kvs:List (κ×V)) (k:κ) (v:V):List (κ×V):=
 if (kvs.any λ kv=>decide (kv.1=k))=true then kvs.map (λ kv=>if kv.1=k then (kv.1,v) else kv) else kvs++[(k,v)]
theorem Jb0 {p:κ×V}{r:List (κ×V)}{k:κ}(e:p.1=k):Jac (p::r) k=some p.2:=by simp [Jac,List.find?_cons,e]
theorem Jb1 {p:κ×V}{r:List (κ×V)}{k:κ}(e:¬ p.1=k):Jac (p::r) k=Jac r k:=by simp [Jac,List.find?_cons,e]
theorem Jb2 (kvs:List (κ×V)) (k:κ) (v:V):(V3 kvs k v).length<=kvs.length+1:=by
 unfold V3
 split
 . rw [Qb];omega
 . rw [Xc,Xu,J7o];omega
theorem KV.val {kvs:List (κ×V)}{vs:List (κ×J9j)}(r:KV kvs vs) (k:κ):Jbv (Jac kvs k) (valueAt vs k):=by
 unfold KV at r
 induction r with
 | nil=>exact Um
 | @cons p q ps qs h t ih=>
  obtain ⟨h1,h2⟩:=h
  by_cases e:p.1=k
  . have e':q.1=k:=h1.symm.trans e
    have b:valueAt (q::qs) k=some q.2:=by simp [valueAt,List.find?_cons,e']
    rw [Jb0 e,b];exact h2
  . have e':¬ q.1=k:=λ z=>e (h1.trans z)
    have b:valueAt (q::qs) k=valueAt qs k:=by simp [valueAt,List.find?_cons,e']
    rw [Jb1 e,b];exact ih
theorem KV.any {kvs:List (κ×V)}{vs:List (κ×J9j)}(r:KV kvs vs) (k:κ):(kvs.any λ kv=>decide (kv.1=k))=vs.any λ kv=>decide (kv.1=k):=by
 unfold KV at r
 induction r with
 | nil=>rfl
 | cons h t ih=>rw [U4,U4,ih,h.1]
theorem KV.repl {kvs:List (κ×V)}{vs:List (κ×J9j)}(r:KV kvs vs) (k:κ) {y:V}{u:J9j}(ry:Yl y u) :
 KV (kvs.map λ kv=>if kv.1=k then (kv.1,y) else kv) (vs.map λ kv=>if kv.1=k then (kv.1,u) else kv):=by
 unfold KV at r ⊢
 induction r with
 | nil=>exact .nil
 | @cons p q ps qs h t ih=>
  rw [Qz,Qz]
  refine .cons ?_ ih
  obtain ⟨h1,h2⟩:=h
  by_cases e:p.1=k
  . rw [if_pos e,if_pos (h1.symm.trans e)];exact ⟨h1,ry⟩
  . rw [if_neg e,if_neg (λ z=>e (h1.trans z))];exact ⟨h1,h2⟩
theorem KV.put {kvs:List (κ×V)}{vs:List (κ×J9j)}(r:KV kvs vs) (k:κ) {y:V}{u:J9j}(ry:Yl y u):KV (V3 kvs k y) (stored vs k u):=by
 unfold V3 stored
 rw [r.any k]
 by_cases e:(vs.any λ kv=>decide (kv.1=k))=true
 . rw [if_pos e,if_pos e];exact r.repl k ry
 . rw [if_neg e,if_neg e];exact Paired.snoc r ⟨rfl,ry⟩
theorem KV.length {kvs:List (κ×V)}{vs:List (κ×J9j)}(r:KV kvs vs):kvs.length=vs.length:=J5a r
end
theorem Jpg {P:J9n}{w:J9m}{k:Key}{u:J9j}(r:Yl (kV k) u):(Zp P w).is k u=true:=by
 cases k with
 | inl i=>obtain ⟨t,e⟩:=(show ∃ t,u=Us i t from r);subst e;exact Jlm P w i t
 | inr x=>obtain ⟨t,e⟩:=(show ∃ t,u=J27 x t from r);subst e;exact Jln P w x t
theorem Jjd {P:J9n}{w:J9m}:∀ {ks:List Key}{us:List J9j},Yb (ks.map kV) us->ItemsAre (Zp P w) ks us
 | [],_,r=>by rw [J2w] at r;cases r;exact .nil
 | k::ks,_,r=>by
  rw [Qz] at r
  cases r with
  | cons h t=>exact .cons (Jpg h) (Jjd t)
abbrev KT (H:Hp):List (List Key×V)->List (List Key×Addr×J9j)->Prop:=Paired λ p q=>p.1=q.1/\H q.2.1=some (.tup (p.1.map kV))/\Yl p.2 q.2.2
theorem KT.val {H:Hp}{kvs:List (List Key×V)}{xs:List (List Key×Addr×J9j)}(r:KT H kvs xs) (k:List Key):Jbv (Jac kvs k) ((atKey xs k).map (·.2)):=by
 induction r with
 | nil=>exact Um
 | @cons p q ps qs h t ih=>
  obtain ⟨h1,_,h2⟩:=h
  by_cases e:p.1=k
  . have e':q.1=k:=h1.symm.trans e
    have b:atKey (q::qs) k=some q.2:=by simp [atKey,List.find?_cons,e']
    rw [Jb0 e,b];exact h2
  . have e':¬ q.1=k:=λ z=>e (h1.trans z)
    have b:atKey (q::qs) k=atKey qs k:=by simp [atKey,List.find?_cons,e']
    rw [Jb1 e,b];exact ih
section
variable {P:J9n}{w:J9m}{H:Hp}{h:Heap}{a:Addr}
theorem Jxd {u:HO}(ok:HOk P w H h) (e:Rd H a u):Yw P w H h a u:=e.ok ok
theorem Jph {kvs:List (Key×V)}(ok:HOk P w H h) (e:Rd H a (.dK kvs)):kvs.length<=sizeLine/\(a==J9y)=false/\∃ vs,KV kvs vs/\h.DictOf (Zp P w) a vs:=
 show Yw P w H h a (.dK kvs) from Jxd ok e
theorem Jr7 {kvs:List (Key×V)}(ok:HOk P w H h) (e:H a=some (.dK kvs)):kvs.length<=sizeLine/\(a==J9y)=false/\∃ vs,KV kvs vs/\h.DictOf (Zp P w) a vs:=Jph ok (.inl e)
theorem Jr8 {ks:List Key}(ok:HOk P w H h) (e:H a=some (.tup (ks.map kV))):(tupleKind (Zp P w)).is h ks a:=by
 obtain ⟨_,its,r,o,h1,h2,n,h3⟩:=(show Yw P w H h a (.tup (ks.map kV)) from ok a _ e)
 exact ⟨o,its.toArray,n,h1,h2,h3,by simpa using Jjd r⟩
theorem Jr9 {kvs:List (List Key×V)}(ok:HOk P w H h) (e:Rd H a (.dT kvs)):kvs.length<=sizeLine/\(a==J9y)=false /\
 ∃ xs,KT H kvs xs/\h.DictOfH (tupleKind (Zp P w)) a xs:=by
 obtain ⟨z,y,xs,r,o,es,ep,h1,h2,h3,h4,h5⟩:=(show Yw P w H h a (.dT kvs) from Jxd ok e)
 refine ⟨z,y,xs,r,o,es,ep,h1,h2,h3,h4,λ x hx=>?_,h5⟩
 have all:∀ {l:List (List Key×V)} {m:List (List Key×Addr×J9j)},KT H l m->∀ x∈m,(tupleKind (Zp P w)).is h x.1 x.2.1:=by
  intro l m q
  induction q with
  | nil=>intro x hx;exact nomatch hx
  | @cons p q ps qs hq t ih=>
   intro x hx
   rcases Qd.mp hx with e | hx
   . subst e
     exact Jr8 ok (by rw [<- hq.1];exact hq.2.1)
   . exact ih x hx
 exact all r x hx
end
def Jn1 (H:Hp) (a:Addr) (y:V) (r:Option V):Prop:=
 (∃ kvs k,Rd H a (.dK kvs)/\y=kV k/\r=Jac kvs k)\/∃ kvs k b,Rd H a (.dT kvs)/\y = .ref b/\H b=some (.tup (k.map kV))/\r=Jac kvs k
theorem Jn1.k {H:Hp}{a:Addr}{kvs:List (Key×V)}{k:Key}(e:H a=some (.dK kvs)):Jn1 H a (kV k) (Jac kvs k):=.inl ⟨kvs,k,.inl e,rfl,rfl⟩
section
variable {X:Cx}{pins:List (Addr×Obj)}{σ:St}{H:Hp}{s:J9k}{a:Addr}{y v:V}{u r:J9j}{o:Option V}{A:J9o}{E:J9j->J9k->Prop}
theorem Inv.big (I:Inv X pins σ H s):J9y<s.heap.objs.size:=by
 have h:J9t<s.heap.objs.size:=(I.mod.glob.keeps I.bk).lt
 exact Nat.lt_trans (by decide) h
theorem Jqr {Q:J9j->J9k->Prop}(hu:A.units+1<J91) (I:Inv X pins σ H s) (g:Jn1 H a y (some v)) (ry:Yl y u) (h:∀ w' s',Inv X pins σ H s'->Yl v w'->Q w' s') :
 J9l (model X.prog X.w) A (getItem (.ref a) u) Q E s:=by
 rcases g with ⟨kvs,k,e,ey,l⟩ | ⟨kvs,k,b,e,ey,eb,l⟩
 . subst ey
   obtain ⟨z,hd,vs,rel,dd⟩:=Jph I.hok e
   obtain ⟨w',hw,rw'⟩:=Jbv.some_of (v:=v) (o:=valueAt vs k) (by rw [l];exact rel.val k)
   exact wpAny_getItem_of (Jpg ry) dd.mapOf hw (h w' _ (I.tok _) rw')
 . subst ey
   cases (show u=Q3 b from ry)
   obtain ⟨z,hd,xs,rel,dd⟩:=Jr9 I.hok e
   obtain ⟨w',hw,rw'⟩:=Jbv.some_of (v:=v) (o:=(atKey xs k).map (·.2)) (by rw [l];exact rel.val k)
   obtain ⟨p,hp,hp2⟩:=X2.mp hw
   refine wpAny_getItem_heap (tupleKind_room_in1 hu) (Jr8 I.hok eb) dd hp ?_
   rw [hp2]
   exact h w' _ (I.tok _) rw'
theorem Jpi {h':Heap}{t':Nat}{ob:HO}(I:Inv X pins σ H s) (mu:Mut (H a)) (hs:Xw a s.heap h') (he:∃ q,h'.get? a=some q) (new:Yw X.prog X.w (upd H a ob) h' a ob) :
 Inv X pins σ (upd H a ob) { s with heap:=h',toks:=t' }:=
 I.write (x:=a) (e:=a) mu (.inl rfl) (λ b q hb z=>(hs.2 b hb).trans z) he new
theorem Jsa {P:J9n}{w:J9m}{H':Hp}{h':Heap}{kvs:List (Key×V)}{vs:List (Key×J9j)}(z:kvs.length<=sizeLine) (hd:(a==J9y)=false) (rel:KV kvs vs) (dd:h'.DictOf (Zp P w) a vs) :
 Yw P w H' h' a (.dK kvs):=⟨z,hd,vs,rel,dd⟩
end
section
variable {X:Cx}{pins:List (Addr×Obj)}{σ:St}{H:Hp}{s:J9k}{a:Addr}{kvs:List (Key×V)}{k:Key}{u:J9j}{A:J9o}{E:J9j->J9k->Prop}
end
def J0b (i:Expr):Prop:=∀ ov iv,subscripted i false ov iv=operate [ov,iv] (getItem ov iv)
theorem Jvf {prog:J9n}{w:J9m}{A:J9o}{E:J9j->J9k->Prop}{s:J9k}{env:Env}{value slice:Expr}{pos:Pos}{T id:String}{Q:J9j->J9k->Prop}
 (hl:typeLookup (.type T) "__getitem__" = pure (some (.builtin id))) (hs:J0b slice)
 (h:J9l (model prog w) A (eval value env) (λ o s₁=>J9l (model prog w) A (eval slice env) (λ i s₂=>s₂.TypeIs o T/\J9l (model prog w) A (getItem o i) Q E s₂) E s₁) E s) :
 J9l (model prog w) A (eval (.Subscript value slice pos) env) Q E s:=by
 refine Subscript_ (wpAny_mono h (λ o s₁ h₁=>wpAny_mono h₁ (λ i s₂ h₂=>?_) λ _ _ x=>x) λ _ _ x=>x)
 obtain ⟨hT,h₂⟩:=h₂
 unfold subscriptTail
 refine wpAny_bind ?_
 rw [getitemInPython_of_ne hT.not_modules]
 refine wpAny_bind (wpAny_specialOf hT hl ?_)
 have fin:J9l (model prog w) A (subscripted slice false o i) (λ r s₃=>J9l (model prog w) A (letTemporaryGo value o r >>= λ _=>pure r) Q E s₃) E s₂:=by
  rw [hs o i]
  exact wpAny_operating (wpAny_mono h₂ (λ r s₃ h₃=>wpAny_bind (wpAny_letTemporaryGo (wpAny_pure h₃))) λ _ _ x=>x)
 first
  | exact wpAny_pure (wpAny_bind fin)
  | exact wpAny_bind (wpAny_pure (wpAny_bind fin))
  | exact wpAny_bind fin
theorem Jlu {X:Cx}{pins:List (Addr×Obj)}{σ:St}{H:Hp}{s:J9k}{a:Addr}{y:V}{o:Option V}(I:Inv X pins σ H s) (g:Jn1 H a y o):s.TypeIs (.ref a) "dict":=by
 rcases g with ⟨kvs,k,e,_,_⟩ | ⟨kvs,k,b,e,_,_,_⟩
 . obtain ⟨_,_,vs,_,dd⟩:=Jph I.hok e
   exact dd.typeIs
 . obtain ⟨_,_,xs,_,dd⟩:=Jr9 I.hok e
   exact dd.typeIs
def Jpj (td ty:TE):TE:=λ σ H Q=>td σ H λ x H1=>ty σ H1 λ y H2=>∃ a v,x = .ref a/\Jn1 H2 a y (some v)/\Q v H2
section
variable {X:Cx}{o i e value:Expr}{pos pos' tpos:Pos}{td ty tv:TE}
theorem Jj3 (hu:X.A.units+1<J91) (ho:PE X o td) (hi:PE X i ty) (hs:J0b i):PE X (.Subscript o i pos) (Jpj td ty):=by
 intro pins s σ H Q I h
 refine Jvf PySem.F.slot_dict_getitem.lookup hs (thn (ho pins s σ H _ I h) λ u s1 ⟨x,H1,I1,rx,q1⟩=>thn (hi pins s1 σ H1 _ I1 q1) λ iv s2 ⟨y,H2,I2,ry,a,v,ex,g,q2⟩=>?_)
 subst ex
 obtain rfl:u=Q3 a:=rx
 exact ⟨Jlu I2 g,Jqr hu I2 g ry λ w' s3 I3 rw'=>⟨v,H2,I3,rw',q2⟩⟩
end
theorem Jlv {P:J9n}{w:J9m}{H:Hp}(h:Heap) (hb:J9y<h.objs.size):Yw P w H (h.push { cls:=.type "dict",data:=.dict #[] }) h.objs.size (.dK []):=
 ⟨Xr _,beq_eq_false_iff_ne.mpr (Qj (Xg hb)),[],.nil,Heap.DictOf.new h⟩
def Jn2:TE:=λ _ H Q=>∀ p,H p=none->Q (.ref p) (upd H p (.dK []))
section
variable {X:Cx}{pos:Pos}
theorem Jsb:PE X (.Dict [] [] pos) Jn2:=λ pins s σ H Q I h=>
 wpAny_Dict_empty ⟨.ref s.heap.objs.size,_,I.laid (a:=s.heap.objs.size) (o:=.dK []) (t':=s.toks) (λ _ _ q=>Qu _ q) (Ql _) (Jlv s.heap I.big),rfl,h _ (I.hok.fresh (Ql _))⟩
end
structure M2 (X:Cx) (o:Expr) (m:Str) (apos:Pos) (e f:Expr) (cpos:Pos):Prop where
 base:Yae o m X.env (eval o X.env)=eval o X.env
 few:((backTo cpos (starEach [e,f] X.env)).all (λ x=>!x.1)&&(backToKw cpos (keywordEach [] X.env)).all (λ x=>x.1.isSome)
  && decide (([e,f]:List Expr).length+([]:List J95).length+(if ([]:List J95).isEmpty then 0 else 1)<30))=true
 line:(apos.endLine==cpos.line)=true
 trees:backTo cpos (starEach [e,f] X.env)=[(false,eval e X.env),(false,eval f X.env)]
def IsD (H:Hp) (a:Addr):Prop:=(∃ kvs,Rd H a (.dK kvs))\/∃ kvs,Rd H a (.dT kvs)
theorem Jsc {X:Cx}{pins:List (Addr×Obj)}{σ:St}{H:Hp}{s:J9k}{a:Addr}(I:Inv X pins σ H s) (d:IsD H a) :
 s.TypeIs (.ref a) "dict"/\(∀ b,Q3 a = .ref b->∃ ob,s.heap.get? b=some ob/\ob.dict=none)/\(a==J9y)=false:=by
 rcases d with ⟨kvs,e⟩ | ⟨kvs,e⟩
 . obtain ⟨_,hd,vs,_,dd⟩:=Jph I.hok e
   refine ⟨dd.typeIs,λ b q=>?_,hd⟩
   cases q
   obtain ⟨ob,_,_,h1,h2,_⟩:=dd
   exact ⟨ob,h1,h2.2.1⟩
 . obtain ⟨_,hd,xs,_,dd⟩:=Jr9 I.hok e
   refine ⟨dd.typeIs,λ b q=>?_,hd⟩
   cases q
   obtain ⟨ob,_,_,h1,h2,_⟩:=dd
   exact ⟨ob,h1,h2.2.1⟩
section
variable {X:Cx}{pins:List (Addr×Obj)}{σ:St}{H:Hp}{s:J9k}{a:Addr}{y d:V}{u r:J9j}{o:Option V}{A:J9o}{E:J9j->J9k->Prop}
end
section
variable {X:Cx}{o e f:Expr}{apos cpos:Pos}{td ty tx:TE}
end
section
variable {X:Cx}{pins:List (Addr×Obj)}{σ:St}{H:Hp}{s:J9k}{a:Addr}{kvs:List (Key×V)}{A:J9o}{E:J9j->J9k->Prop}
end
section
variable {X:Cx}{pins:List (Addr×Obj)}{σ:St}{H:Hp}{s:J9k}{a:Addr}{y:V}{u:J9j}{A:J9o}{E:J9j->J9k->Prop}
end
end L2
namespace Att
open PySem PySem.W PySem.Calls PyProof.Rows
theorem Jf3 {P:Params}{h:Heap}:∀ (ns:List Int) (vs:List J9j),WellAll P h vs (ns.map WData.int)->Yah vs ns:=by
 intro ns
 induction ns with
 | nil=>
  intro vs w
  rw [J2w] at w
  cases w
  exact .nil
 | cons n ns ih=>
  intro vs w
  rw [Qz] at w
  cases w with
  | cons a b=>
   cases a
   exact .cons _ _ (ih _ b)
theorem Jqs {l:OpenLaw}{n:Nat}(hn:l.most=some n) {P:Params}{h:Heap}{args:List WData}{vals:List J9j}
 (hpre:l.row.toRowW.claim.pre args=true) (hwl:WellAll P h vals args) :
 ∃ a vs ns,vals=[Q3 a]/\args=[WData.list (ns.map WData.int)]/\h.get? a=some { cls:=.type "list",data:=.seq vs.toArray }/\Yah vs ns/\ns.length<=n:=by
 have hsh:WShape.hasAll [] args [.list .int]=true:=(pre_splitW hpre).1
 have hc:l.pre.holds [] { args:=args }=true:=(pre_splitW hpre).2
 obtain ⟨d,r,rfl,h1,h2⟩:=hasAllW_cons hsh
 obtain rfl:=hasAllW_nil h2
 obtain ⟨xs,rfl,h3⟩:=hasW_list h1
 obtain ⟨ns,rfl⟩:=items_int h3
 have hlen:ns.length<=n:=by
  unfold OpenLaw.pre at hc
  have h4:(WTm.not (.lt (.lit (.int (n:Int))) (.len (.arg 0)))).holds [] { args:=[.list (ns.map .int)] }=true:=by
   have h4:=(holds_andW hc).1
   rw [hn] at h4
   exact h4
  have h5:=condW_of h4 (w_not (w_lt w_lit (w_len_list (w_arg rfl))))
  rw [Qb] at h5
  refine J3c λ q=>?_
  have q':(n:Int)<((ns.length:Nat):Int):=by omega
  first
   | (rw [decide_eq_true q'] at h5;exact absurd h5 (by decide))
   | (simp at h5;omega)
 cases hwl with
 | cons w1 w2=>
  cases w2
  cases w1 with
  | list ho hall=>exact ⟨_,_,ns,rfl,rfl,ho,Jf3 ns _ hall,hlen⟩
theorem Jqt (l:OpenLaw) (args:List WData):l.row.toRowW.claim.post args (.bool true) args=true:=
 postW_of (r:=l.row.toRowW) (X:=(true==true))
  (show WShape.has [] (.bool true) .bool=true by first | rfl | decide | simp [WShape.has,WShape.arms,WShape.armsAll])
  (show (WTm.eq .res (.lit (.bool true))).value [] { args:=args,res:=some (.bool true),after:=args }=some (.bool (true==true)) from w_eq_bool (w_res rfl) w_lit) rfl
theorem attach_call {l:OpenLaw}{n:Nat}{q:J9n}{loose:List Str}{XP:(Str->Option J9j)->Heap->Prop}{YP:J9m->Heap->Prop}{d:DefRec}
 (hn:l.most=some n) (hdf:d.params.defaults=[])
 (call:∀ (w:J9m) (s₀ s₁:J9k) (mg mb:Str->Option J9j) (fa:Addr) (o:Obj) (pm cd doc:J9j) (a:Addr) (vs:List J9j) (ns:List Int),
  Ground q loose [] XP w s₀ mg mb s₁.heap->YP w s₁.heap ->
  s₁.heap.get? fa=some o->o.data = .func (docDef d.name d.params d.body d.scope pm cd doc)->s₁.heap.CodeRec cd d.name->mg d.name=some (.ref fa) ->
  s₁.heap.get? a=some { cls:=.type "list",data:=.seq vs.toArray }->Yah vs ns->ns.length<=n->s₁.gens = #[] ->
  J9u (model l.prog w) J99 (.call (.ref fa) ⟨[.ref a],[]⟩) (λ r s'=>r = .ok (.ret (.bool true))/\OldK s₁.heap s'.heap/\s'.os=s₁.os/\J9z s'.gens) s₁) :
 WalkO q loose XP YP l.row.toRowW d [] (λ f vs=>J5t f vs):=by
 intro w s₀ s₁ mg mb G Y fa o pm cd doc dV kV ho hd hcd hD hmg hg args vals as hpre hlay hrd hwl hlo
 obtain rfl:dV = .none:=Dflts.none hD hdf
 obtain rfl:kV = .none:=Dflts.noKw hD
 obtain ⟨a,vs,ns,rfl,rfl,hobj,hints,hlen⟩:=Jqs hn hpre hwl
 refine enter_call (codeAny_mono (call w s₀ s₁ mg mb fa o pm cd doc a vs ns G Y ho (fd_plain hd) hcd hmg hobj hints hlen hg) λ r s' hq=>?_)
 obtain ⟨rfl,h2,h3,h4⟩:=hq
 exact ⟨.inl ⟨.bool true,.bool true,[],rfl,λ _=>rfl,.bool true,Jqt l _,λ _=>⟨J9f,λ _ hm=>(nomatch hm)⟩⟩,h2,h3,h4⟩
section
variable {prog:J9n}{w:J9m}{A:J9o}{E:J9j->J9k->Prop}{s:J9k}{K:Frag}
end
end Att
namespace L2
theorem Jje:∀ {vs:List J9j}{ns:List Int},Yah vs ns->Yb (ns.map V.int) vs
 | _,_,.nil=>.nil
 | _,_,.cons n t h=>.cons ⟨t,rfl⟩ (Jje h)
def Jyn (H:Hp):Prop:=∀ b,H b=none\/∃ o xs,H b=some (.frz o (.lst xs))
theorem Jsd {P:J9n}{w:J9m}{K:Qc}{mg mb:Str->Option J9j}{CX:CXT}{k:Nat}{fa a:Addr}{fd:J9v}{x:Str}{sp:Sp}{s₁:J9k}{vs:List J9j}{ns:List Int}
 (KX:K.In s₁.heap) (hns:s₁.heap.Ns J9t mg) (hb:s₁.heap.Ns Yal mb) (hbb:∀ x:Str,x≠"__name__"->mb x=Yac x) (hlim:s₁.heap.NoLimit) (hg:s₁.gens = #[])
 (ha:s₁.heap.get? a=some { cls:=.type "list",data:=.seq vs.toArray }) (hi:Yah vs ns) (hl:ns.length<=sizeLine) (hr:Room k J99)
 (F:∀ base:Heap,K.In base->base.Ns J9t mg->FnOk P w K mg base CX k fa fd [x] sp) (hbind:∀ (s:J9k) (u:J9j),Yaf s fd ⟨[u],[]⟩ [(x,u)])
 (hsp:∀ H:Hp,Jyn H->SqL K H a (ns.map V.int)->sp [.ref a] H (λ v _=>v = .bl true) λ _ _ _=>False)
 (hCX:∀ H e s',CX [] H s₁ (λ _ _ _=>False) e s'->False) :
 J9u (model P w) J99 (.call (.ref fa) ⟨[.ref a],[]⟩) (λ r s'=>r = .ok (.ret (.bool true))/\OldK s₁.heap s'.heap/\s'.os=s₁.os/\J9z s'.gens) s₁:=by
 have rv:=Jje hi
 have lenV:=hi.length
 -- from an abstract heap in which nothing but the script may be tracked
 have core:∀ H:Hp,Jyn H->SqL K H a (ns.map V.int)->HOk P w H s₁.heap->(∀ b,H b≠none->b=a)->(H a≠none->K.lookup a=none) ->
  J9u (model P w) J99 (.call (.ref fa) ⟨[.ref a],[]⟩) (λ r s'=>r = .ok (.ret (.bool true))/\OldK s₁.heap s'.heap/\s'.os=s₁.os/\J9z s'.gens) s₁:=by
  intro H hO hS hok hA hK
  have base_of:∀ {b:Addr} {o:Obj},s₁.heap.get? b=some o->H b=none->(Jjy s₁.heap H).get? b=some o:=λ e n=>Jrp e n
  have noA:∀ {b:Addr} {o:Obj} {es:Array DictEntry} {ep:Nat},s₁.heap.get? b=some o->o.data = .dict es ep->H b=none:=λ {b o es ep} e d=>by
   cases q:H b with
   | none=>rfl
   | some u=>
    have e':b=a:=hA b (by rw [q];simp)
    subst e'
    rw [ha] at e;cases e
    have d':J3u vs.toArray _=Data.dict es ep:=d
    cases d'
  have nsK:∀ {b:Addr} {m:Str->Option J9j},s₁.heap.Ns b m->(Jjy s₁.heap H).Ns b m:=λ {b m} ⟨o,es,ep,e,d,r⟩=>⟨o,es,ep,base_of e (noA e d),d,r⟩
  have hKb:K.In (Jjy s₁.heap H):=λ b o e=>base_of (KX b o e) (by
   cases q:H b with
   | none=>rfl
   | some u=>
    have e':b=a:=hA b (by rw [q];simp)
    subst e'
    rw [hK (by rw [q];simp)] at e;cases e)
  have hM:Mod K mg (Jjy s₁.heap H):=⟨hKb,nsK hns,⟨mb,nsK hb,hbb⟩,let ⟨mc,h1,h2⟩:=hlim;⟨mc,nsK h1,h2⟩⟩
  have e0:Env0 P w K mg (Jjy s₁.heap H) J99 [] s₁ H:=⟨rfl,hM,λ b o e=>Ju1 e,J4a (Jqh _ _),trivial,λ b hb=>absurd (show b∈([]:List Addr) from hb) (by simp),hok,.of_eq hg⟩
  refine codeAny_mono ((F _ hKb (nsK hns)).run J99 [] s₁ H ⟨[.ref a],[]⟩ [.ref a] [.ref a] _ _ hr e0 (hbind s₁ (.ref a)) (.cons rfl .nil) (hsp H hO hS)) λ r s' h=>?_
  cases r with
  | error e=>exact (hCX H e s' h).elim
  | ok fl=>
   cases fl with
   | next=>exact Ua h
   | brk=>exact Ua h
   | cont=>exact Ua h
   | ret u=>
    obtain ⟨v,H',os,bare,un,hok',r',q⟩:=h
    have q':v = .bl true:=q
    subst q'
    obtain rfl:u=J28 true:=r'
    refine ⟨rfl,OldK.of_keep λ b o e=>?_,os,bare⟩
    cases q:H b with
    | none=>exact un.keep b o e q (by intro z;exact absurd (show b∈([]:List Addr) from z) (by simp)) (by simp)
    | some u=>
     rcases hO b with z | ⟨ob,xs,z⟩
     . rw [q] at z;cases z
     . have z2:=un.frzs b ob _ z
       obtain ⟨e1,_⟩:=hok b _ z
       obtain ⟨e2,_⟩:=hok' b _ z2
       rw [e] at e1;cases e1
       exact e2
 cases hk:K.lookup a with
 | some o=>
  -- the script is one of the module's own objects
  have e:=KX a o hk
  rw [ha] at e
  cases e
  refine core (λ _=>none) (λ _=>.inl rfl) (.inr ⟨_,vs.toArray,_,hk,rfl,rfl,rfl,by rw [Xa,lenV];exact hl,by simpa using rv⟩) (λ b u z=>by have z':(none:Option HO)=some u:=z;cases z') (λ b z=>absurd rfl z) λ z=>absurd rfl z
 | none=>
  refine core (λ b=>if b=a then some (.frz { cls:=.type "list",data:=.seq vs.toArray } (.lst (ns.map V.int))) else none) (λ b=>?_) (.inl (.inr ⟨{ cls:=.type "list",data:=.seq vs.toArray },if_pos rfl⟩)) (λ b u z=>?_) (λ b z=>?_) λ _=>hk
  . by_cases hb:b=a
    . exact .inr ⟨_,_,if_pos hb⟩
    . exact .inl (if_neg hb)
  . by_cases hb:b=a
    . have z':=(if_pos hb).symm.trans z
      cases z'
      subst hb
      exact ⟨ha,by rw [Qb];exact hl,vs,_,rv,ha⟩
    . have z':=(if_neg hb).symm.trans z
      cases z'
  . by_cases hb:b=a
    . exact hb
    . exact absurd (if_neg hb) z
theorem walk_of {l:J5u}{n k:Nat}{q:J9n}{loose:List Str}{XP:(Str->Option J9j)->Heap->Prop}{YP:J9m->Heap->Prop}{d:DefRec}{K:Params->Qc}{CX:J9m->CXT}{sp:J9m->Sp}{x:Str}
 (hn:l.most=some n) (hn2:n<=sizeLine) (hdf:d.params.defaults=[]) (hr:Room k J99)
 (hY:∀ (w:J9m) (h:Heap),YP w h->(K w.params).In h)
 (F:∀ (w:J9m) (mg:Str->Option J9j) (fa:Addr) (h:Heap),(K w.params).In h->h.Ns J9t mg->mg d.name=some (.ref fa) ->
  ∃ fd:J9v,(∀ (s:J9k) (u:J9j),Yaf s fd ⟨[u],[]⟩ [(x,u)]) /\
   ∀ base:Heap,(K w.params).In base->base.Ns J9t mg->FnOk l.prog w (K w.params) mg base (CX w) k fa fd [x] (sp w))
 (hsp:∀ (w:J9m) (H:Hp) (a:Addr) (ns:List Int),ns.length<=n->Jyn H->SqL (K w.params) H a (ns.map V.int)->sp w [.ref a] H (λ v _=>v = .bl true) λ _ _ _=>False)
 (hCX:∀ (w:J9m) (H:Hp) (s:J9k) (e:J9j) (s':J9k),CX w [] H s (λ _ _ _=>False) e s'->False) :
 J7p q loose XP YP l.row.toRowW d [] (λ f vs=>J5t f vs):=by
 refine Att.attach_call hn hdf λ w s₀ s₁ mg mb fa o pm cd doc a vs ns G Y ho hd hcd hmg hobj hints hlen hg=>?_
 have KX:=hY w _ Y
 obtain ⟨fd,hb,hF⟩:=F w mg fa _ KX G.T.g hmg
 exact Jsd KX G.T.g G.T.b G.T.builtins G.T.nolimit hg hobj hints (Xl hlen hn2) hr hF hb (λ H hO hS=>hsp w H a ns hlen hO hS) λ H e s'=>hCX w H s₁ e s'
noncomputable def Z6 (s:Stmt):Arguments:=match s with
 | .FunctionDef _ a _ _ _ _ _ _ _ _=>a
 | _=>{ posonlyargs:=[],args:=[],vararg:=none,kwonlyargs:=[],kw_defaults:=[],kwarg:=none,defaults:=[] }
noncomputable def Zr (s:Stmt):List Stmt:=match s with
 | .FunctionDef _ _ b _ _ _ _ _ _ _=>b
 | _=>[]
noncomputable def Je (s:Stmt):J9q:=match s with
 | .FunctionDef _ _ _ _ _ _ sc _ _ _=>sc
 | _=>{ kind:=.function,names:=[],isGenerator:=false,isCoroutine:=false }
abbrev CX0:CXT:=λ _ _ _ _ _ _=>False
abbrev E0:XK:=λ _ _ _=>False
theorem Jse {X:Cx}:Jew CX0 X E0:=λ _ _ _ _ _ _ _ h=>h.elim
structure Fun (K:Qc) (x qual:Str) (st:Stmt) (f:Addr) (fd:J9v):Prop where
 ex:∃ (oc:J9j) (od:Option Addr) (kV doc pm:J9j) (an:Option Addr) (cdv ct:J9j) (osl:Array (Option J9j)),
  fd=X0 x qual (Z6 st) (Zr st) (Je st) .none kV doc pm an cdv ct/\K.lookup f=some ⟨oc,od,.func fd,osl⟩/\J2n K cdv qual=true
 kp:Uk K (.ref f)=true
section
variable {P:J9n}{w:J9m}{K:Qc}{mg:Str->Option J9j}{base:Heap}
theorem Fun.ok {x qual:Str}{st:Stmt}{f:Addr}{fd:J9v}{N ps:List Str}{k:Nat}{sp:Sp}(F:Fun K x qual st f fd) (S:FnScope N ps (Je st)) (len:∀ vs H Q E,sp vs H Q E->vs.length=ps.length)
 (hbody:∀ (cdv:J9j) (A:J9o) (outer:List Env) (s:J9k) (H:Hp) (vs:List V) (Q:VK) (E:XK),Room k (A.deeper (envOfC qual (Je st) s.heap.objs.size f cdv))->sp vs H Q E ->
  ∃ t,PSs (Jny CX0 P w K mg base N qual (Je st) f cdv A outer s H E).nox (Zr st) t/\t { nx:=λ _ H'=>Q .non H',rt:=Q } (start N vs) H):FnOk P w K mg base CX0 (k+1) f fd ps sp:=by
 obtain ⟨oc,od,kV,doc,pm,an,cdv,ct,osl,rfl,lk,hcd⟩:=F.ex
 refine Jxb lk hcd S len λ A outer s H vs Q E hr hsp=>?_
 obtain ⟨t,h,q⟩:=hbody cdv A outer s H vs Q E hr hsp
 exact ⟨t,h.nox,q⟩
theorem Fun.binds {x qual:Str}{st:Stmt}{f:Addr}{fd:J9v}{ps:List Str}(F:Fun K x qual st f fd)
 (h:∀ (kV doc pm:J9j) (an:Option Addr) (cdv ct:J9j) (us:List J9j),us.length=ps.length->Yag (X0 x qual (Z6 st) (Zr st) (Je st) .none kV doc pm an cdv ct) ⟨us,[]⟩=pure (ps.zip us)):Bl K fd ps []:=by
 obtain ⟨oc,od,kV,doc,pm,an,cdv,ct,osl,rfl,lk,hcd⟩:=F.ex
 exact .all (h kV doc pm an cdv ct)
theorem Jgy {x qual:Str}{st:Stmt}{f:Addr}{oc:J9j}{od an:Option Addr}{osl:Array (Option J9j)}{kV doc pm cdv ct:J9j}(l:K.lookup f=some ⟨oc,od,.func (X0 x qual (Z6 st) (Zr st) (Je st) .none kV doc pm an cdv ct),osl⟩)
 (c:J2n K cdv qual=true) (k:Uk K (.ref f)=true):Fun K x qual st f (X0 x qual (Z6 st) (Zr st) (Je st) .none kV doc pm an cdv ct):=⟨⟨oc,od,kV,doc,pm,an,cdv,ct,osl,rfl,l,c⟩,k⟩
end
theorem Jsf {A:J9o}{k:Nat}(hr:Room k A):A.units+1<J91:=J3d (Nat.add_le_add_left (by decide:1<=64) _) hr.units
theorem Jqu {n:Nat}(h:n<=1000):n<sizeLine:=J3d h (by decide)
section
variable {X:Cx}
theorem pv (i:Nat) {x:Str}{pos:Pos}(hN:X.N[i]? = some x:=by rfl) (hv:Vis X.env.scope x:=by first | exact Qa rfl | exact Qw (Qa rfl) | exact Qw (Qw rfl)) (hd:(x==("__debug__":Str))=false:=by decide)
 (hcd:(x==("__classdict__":Str))=false:=by decide):PE X (.Name x pos) (Ze i):=Jx7 hN hv hd hcd
end
theorem Wk {A B:Prop}(h:B):if false=true then A else B:=by
 rw [if_neg Q6]
 exact h
theorem Jad {A B:Prop}(h:A):if true=true then A else B:=by
 rw [if_pos rfl]
 exact h
section
variable {κ:Type} [DecidableEq κ]
end
end L2
set_option maxHeartbeats 4000000
namespace L2
abbrev NoE:J9j->J9k->Prop:=λ _ _=>False
theorem Jfu {prog:J9n}{w:J9m}{A:J9o}{R:J94->J9k->Prop}{s:J9k}{elt target iter:Expr}{ifs:List Expr}{scope:J9q}{pos:Pos}{it acc:J9j}{env:Env}(I:Nat->J9k->Prop)
 (turn:∀ n s,I n s->J9l (model prog w) A (pyNext it) (λ r s₁=>match r with
  | none=>R (.ok .next) s₁
  | some v=>J9l (model prog w) A (letOwnedTupleGo target it v) (λ _ s₁'=>J9l (model prog w) A (assign target env v) (λ _ s₂=>
   J9l (model prog w) A (forIn ifs true λ c r=>if r=true then do let ok <- isTrue c env (eval c env);pure (J3e ok) else pure (J3e r)) (λ ok s₃=>
    if ok=true then J9l (model prog w) A (eval elt env) (λ x s₄=>
     J9l (model prog w) A (call (.builtin "list.append") [acc,x]) (λ _ s₅=>∃ m,m<n/\I m s₅) NoE s₄) NoE s₃
    else ∃ m,m<n/\I m s₃) NoE s₂) NoE s₁') NoE s₁) NoE s)
 (n:Nat) (h:I n s) :
 J9u (model prog w) A (.compLoop (.ListComp elt [⟨target,iter,ifs,0⟩] scope pos) 0 it acc env) R s:=by
 refine codeAny_loop rfl I (λ n s hI=>?_) n h
 show J9l _ A ((compTurn (.ListComp elt [⟨target,iter,ifs,0⟩] scope pos) 0 it acc env).onRaise (λ x=>do noteFrame x env;theTreesLotGoes x)) _ _ s
 refine wpAny_noted ?_
 rw [compTurn_list]
 refine wpAny_bind (wpAny_standAt (wpAny_bind (wpAny_mono (turn n s hI) (λ r s₁ h₁=>?_) λ _ _ f=>f.elim)))
 cases r with
 | none=>exact wpAny_pure h₁
 | some v=>
  refine wpAny_bind (wpAny_mono h₁ (λ _ s₁' h₁'=>wpAny_bind (wpAny_mono h₁' (λ _ s₂ h₂=>wpAny_bind (wpAny_mono h₂ (λ ok s₃ h₃=>?_) λ _ _ f=>f.elim)) λ _ _ f=>f.elim)) λ _ _ f=>f.elim)
  cases ok with
  | false=>exact wpAny_pure ⟨rfl,h₃⟩
  | true=>
   exact wpAny_bind (wpAny_bind (wpAny_mono h₃ (λ x s₄ h₄=>wpAny_bind (wpAny_mono h₄ (λ _ s₅ h₅=>wpAny_pure (wpAny_pure ⟨rfl,h₅⟩)) λ _ _ f=>f.elim)) λ _ _ f=>f.elim))
noncomputable def Yg (env:Env):List (Str×J9s)->List (Str×Addr)->List (Str×Addr)
 | [],cs=>cs
 | (n,k)::r,cs=>Yg env r (if (k==Ul)=true then (n,(env.cells.lookup n).getD 0)::cs else cs)
theorem V1 {scope:J9q}{env:Env}(h:∀ x∈scope.names,x.2 = .free->∃ c,env.cells.lookup x.1=some c):Yai scope env=pure (Yg env scope.names []):=by
 have key:∀ (l:List (Str×J9s)) (cs:List (Str×Addr)),(∀ x∈l,x.2 = .free->∃ c,env.cells.lookup x.1=some c) ->
  (forIn (m:=Sem) l cs λ (x:Str×J9s) (r:List (Str×Addr))=>if (x.2==Ul)=true then (do let c <- cellOf env x.1;pure (J3e ((x.1,c)::r))) else (do pure PUnit.unit;pure (J3e r)))=pure (Yg env l cs):=by
  intro l
  induction l with
  | nil=>intro cs _;rfl
  | cons x r ih=>
   intro cs hx
   obtain ⟨n,k⟩:=x
   rw [J5v]
   by_cases hk:k = .free
   . subst hk
     obtain ⟨c,hc⟩:=hx _ Qg rfl
     have e:cellOf env n=pure c:=by unfold cellOf;rw [show env.cells.lookup n=some c from hc]
     simp only [beq_self_eq_true,if_true,e,pure_bind]
     rw [ih _ λ y hy=>hx y (Qh _ hy)]
     simp only [Yg,beq_self_eq_true,if_true]
     rw [show env.cells.lookup n=some c from hc]
     rfl
   . have hb:(k==Ul)=false:=by simpa using hk
     simp only [hb,J3v,if_false,pure_bind]
     rw [ih _ λ y hy=>hx y (Qh _ hy)]
     simp only [Yg,hb,J3v,if_false]
 unfold Yai
 have:=key scope.names [] h
 show ((forIn (m:=Sem) scope.names ([]:List (Str×Addr)) _) >>= _)=_
 refine J4g (congrArg (λ z=>z >>= _) (J4g ?_ this)) ?_
 . congr 1
 . rfl
theorem Jc6 {env:Env}:∀ {l:List (Str×J9s)}{cs:List (Str×Addr)},(∀ x∈l,x.2 = .free->∃ c,env.cells.lookup x.1=some c)->(∀ p∈cs,env.cells.lookup p.1=some p.2)->∀ p∈Yg env l cs,env.cells.lookup p.1=some p.2
 | [],_,_,hc=>hc
 | (n,k)::r,cs,hx,hc=>by
  unfold Yg
  refine Jc6 (λ y hy=>hx y (Qh _ hy)) λ p hp=>?_
  by_cases hk:k = .free
  . subst hk
    simp only [beq_self_eq_true,if_true] at hp
    rcases Qd.mp hp with rfl | hp
    . obtain ⟨c,e⟩:=hx _ Qg rfl
      have e:env.cells.lookup n=some c:=e
      show env.cells.lookup n=some ((env.cells.lookup n).getD 0)
      rw [e]
      rfl
    . exact hc p hp
  . have hb:(k==Ul)=false:=by simpa using hk
    simp only [hb,J3v,if_false] at hp
    exact hc p hp
theorem Jgz {env:Env}:∀ {l:List (Str×J9s)}{cs:List (Str×Addr)}{p:Str×Addr},p∈cs->p∈Yg env l cs
 | [],_,_,h=>h
 | (n,k)::r,cs,p,h=>by
  unfold Yg
  refine Jgz ?_
  split
  . exact Qh _ h
  . exact h
theorem Bz {env:Env}:∀ {l:List (Str×J9s)}{cs:List (Str×Addr)}{x:Str},(x,Ul)∈l->∃ c,(x,c)∈Yg env l cs
 | [],_,_,h=>by cases h
 | (n,k)::r,cs,x,h=>by
  unfold Yg
  rcases Qd.mp h with e | h
  . cases e
    simp only [beq_self_eq_true,if_true]
    exact ⟨_,Jgz Qg⟩
  . exact Bz h
theorem Zf {α:Type}{x:Str}{c:α}:∀ {l:List (Str×α)},(x,c)∈l->∃ d,l.lookup x=some d
 | [],h=>by cases h
 | (n,k)::r,h=>by
  rw [Uv]
  cases hx:x==n with
  | true=>exact ⟨k,rfl⟩
  | false=>
   rcases Qd.mp h with e | h
   . cases e;simp at hx
   . exact Zf h
theorem Wu {env:Env}{x:Str}:∀ {names:List (Str×J9s)}{k:J9s},
 (names.map λ (n,k)=>if (k==Ul&&env.scope.kind == .function&&env.kindOf n==some .cell) then (n,Uw) else (n,k)).lookup x=some k->names.lookup x=some k\/(k = .cell/\names.lookup x=some .free)
 | [],_,h=>by simp at h
 | (n,j)::r,k,h=>by
  have ih:=@Wu env x r k
  rw [Qz] at h
  rw [Uv]
  dsimp only at h
  by_cases hc:(j==Ul&&env.scope.kind == .function&&env.kindOf n==some .cell)=true
  . rw [if_pos hc,Uv] at h
    cases hx:x==n with
    | true=>
     rw [hx] at h
     simp only [Uc] at hc
     have:j = .free:=by simpa using hc.1.1
     subst this
     cases h
     exact .inr ⟨rfl,rfl⟩
    | false=>rw [hx] at h;exact ih h
  . rw [if_neg hc,Uv] at h
    cases hx:x==n with
    | true=>rw [hx] at h;exact .inl h
    | false=>rw [hx] at h;exact ih h
theorem Ja8 {env:Env}{x:Str}:∀ {names:List (Str×J9s)},names.lookup x=some .free ->
 (names.map λ (n,k)=>if (k==Ul&&env.scope.kind == .function&&env.kindOf n==some .cell) then (n,Uw) else (n,k)).lookup x=some .cell \/
 (names.map λ (n,k)=>if (k==Ul&&env.scope.kind == .function&&env.kindOf n==some .cell) then (n,Uw) else (n,k)).lookup x=some .free
 | [],h=>by simp at h
 | (n,j)::r,h=>by
  have ih:=@Ja8 env x r
  rw [Uv] at h
  rw [Qz]
  dsimp only
  by_cases hc:(j==Ul&&env.scope.kind == .function&&env.kindOf n==some .cell)=true
  . rw [if_pos hc,Uv]
    cases hx:x==n with
    | true=>exact .inl rfl
    | false=>rw [hx] at h;exact ih h
  . rw [if_neg hc,Uv]
    cases hx:x==n with
    | true=>rw [hx] at h;cases h;exact .inr rfl
    | false=>rw [hx] at h;exact ih h
noncomputable def Z4 (X:Cx) (N':List Str) (scope:J9q) (C:Addr) (s:J9k) (H:Hp) (fp:List Addr):Cx where
 prog:=X.prog
 w:=X.w
 K:=X.K
 mg:=X.mg
 base:=X.base
 A:=X.A
 N:=N'
 s₀:=s
 H₀:=H
 env:=compEnvC scope (Yg X.env scope.names []) C X.env
 outer:=X.stack
 stack:=X.stack
 ex:=fp
 fn:=λ _=>false
 calm:=X.calm
 pn:=[]
 xe:=NoE
structure CompScope (sc:J9q) (N:List Str) (scope:J9q) (N':List Str) (k:Nat) (idx:List Nat):Prop where
 kind:scope.kind = .function
 nocell:∀ x∈scope.names,x.2≠.cell
 loc:∀ x∈scope.names,x.2 = .local -> scope.names.lookup x.1=some .local
 fr:∀ x∈scope.names,x.2 = .free->sc.names.lookup x.1=some .cell\/sc.names.lookup x.1=some .free
 nd:N'.Nodup
 free:∀ x∈N'.drop k,scope.names.lookup x=some .free
 ix:(N'.drop k).map some=idx.map λ i=>N[i]?
 len:N'.length=k+idx.length
noncomputable def Yo (k:Nat) (idx:List Nat) (σ:St):St:=Qr k none++idx.map λ i=>(σ[i]?).join
section
variable {X:Cx}{pins:List (Addr×Obj)}{σ:St}{H:Hp}{s:J9k}{scope:J9q}{N':List Str}{k:Nat}{idx:List Nat}{sc:J9q}{N:List Str}
theorem Jn3 (I:Inv X pins σ H s) (S:CompScope sc N scope N' k idx) (hsc:X.env.scope=sc) (hNN:X.N=N) {fp:List Addr}(hf:∀ b∈fp,Jcx X pins H b) (hlt:∀ b∈fp,b<s.heap.objs.size) {h':Heap}{t':Nat}
 (hn:h'.Ns s.heap.objs.size (λ _=>none)) (hk:∀ b o,s.heap.get? b=some o->h'.get? b=some o) :
 Inv (Z4 X N' scope s.heap.objs.size s H fp) [] (Yo k idx σ) H { s with heap:=h',toks:=t' }:=by
 have hcell:∀ x∈scope.names,x.2 = .free->∃ c,X.env.cells.lookup x.1=some c:=λ x hx hfree=>I.ok.has x.1 (by
  show X.env.scope.names.lookup x.1=_\/X.env.scope.names.lookup x.1=_
  rw [hsc];exact S.fr x hx hfree)
 have hcl:∀ x c,(Yg X.env scope.names []).lookup x=some c->X.env.cells.lookup x=some c:=λ x c e=>Jc6 hcell (λ p hp=>by cases hp) (x,c) (Xo e)
 have hok:(Z4 X N' scope s.heap.objs.size s H fp).Ok:={
  mod:=I.ok.mod
  kind:=S.kind
  glob:=I.ok.glob
  blt:=I.ok.blt
  above:=Ql _
  inj:=λ x y c e1 e2=>I.ok.inj x y c (hcl x c e1) (hcl y c e2)
  has:=λ x hx=>by
   have hfree:scope.names.lookup x=some .free:=by
    rcases hx with hx | hx
    . rcases Wu (env:=X.env) (names:=scope.names) hx with h | ⟨_,h⟩
      . exact absurd rfl (S.nocell _ (Xo h))
      . exact h
    . rcases Wu (env:=X.env) (names:=scope.names) hx with h | ⟨h,_⟩
      . exact h
      . cases h
   obtain ⟨c,hc⟩:=Bz (env:=X.env) (cs:=[]) (Xo hfree)
   exact Zf hc
  cab:=λ x c h=>by cases h
  hd:=I.ok.hd
  frames:=I.ok.frames
  stk:=.inl rfl
  exf:=λ b hb=>⟨Xg (hlt b hb),λ x c e=>(hf b hb).2.2.2.2.1 x c (hcl x c e)⟩
  bs:=I.bs
  bsz:=Xl I.ok.bsz I.sz
  noex:=λ b o e hb=>by
   rcases (hf b hb).2.2.2.1 with z | z
   . exact I.ok.noex b o e z
   . exact absurd (Xd (Qv e) (Xl I.ok.bsz z)) (Xf _)
  exfs:=λ b hb hz=>by
   rcases Qd.mp (I.stkSub b hz) with e | e
   . exact (hf b hb).2.1 e
   . exact (hf b hb).2.2.1 e
  funs:=I.stack
  frf:=I.stkFree }
 refine ⟨hok,rfl,I.bare,Un.kept hk,⟨_,hn,λ i x v e1 e2 e3=>?_⟩,λ x c e=>?_,I.hok.fresh (Ql _),λ x c e=>I.freeC x c (hcl x c e),(λ p hp=>by cases hp),I.hok.kept hk,?_⟩
 . -- a name with a value is one of the others
   have hi:k<=i:=by
    rcases Ud i k with h | h
    . have e2:(Yo k idx σ)[i]? = some (some v):=e2
      unfold Yo at e2
      rw [Up (by simpa using h),U2] at e2
      split at e2<;>cases e2
    . exact h
   have e1':(N'.drop k)[i-k]? = some x:=by
    rw [J5w,show k+(i-k)=i by omega];exact e1
   have hfree:=S.free x (Xb e1')
   have e2':(idx.map λ i=>(σ[i]?).join)[i-k]? = some (some v):=by
    have e2:(Yo k idx σ)[i]? = some (some v):=e2
    unfold Yo at e2
    rw [J2m (by simpa using hi),Ub] at e2
    exact e2
   rw [Qk] at e2'
   cases hj:idx[i-k]? with
   | none=>rw [hj] at e2';cases e2'
   | some j=>
    rw [hj] at e2'
    have e3':(σ[j]?).join=some v:=by simpa using e2'
    have eσ:σ[j]? = some (some v):=by
     cases q:σ[j]? with
     | none=>rw [q] at e3';cases e3'
     | some o=>rw [q] at e3';cases o with
      | none=>cases e3'
      | some z=>cases e3';rfl
    have eN:X.N[j]? = some x:=by
     rw [hNN]
     have:=congrArg (λ l=>l[i-k]?) S.ix
     simp only [Qk,e1',hj,Option.map_some] at this
     exact (Xi this).symm
    have hvk:=S.fr _ (Xo hfree) rfl
    obtain ⟨m,hm,hl⟩:=I.loc
    obtain ⟨u,ru,lk⟩:=hl j x v eN eσ (by rw [hsc];exact .inr hvk)
    refine ⟨u,ru,.inr ⟨Ja8 (env:=X.env) hfree,?_⟩⟩
    rcases lk with ⟨kl,_⟩ | ⟨_,c,ec,z⟩
    . have kl:X.env.scope.names.lookup x=some .local := kl
      rw [hsc] at kl
      rcases hvk with q | q<;>(rw [kl] at q;cases q)
    . obtain ⟨d,hd⟩:=Bz (env:=X.env) (cs:=[]) (Xo hfree)
      obtain ⟨d',hd'⟩:=Zf hd
      have e:=hcl x d' hd'
      rw [ec] at e
      cases e
      obtain ⟨o,ho,hod⟩:=z
      exact ⟨c,hd',o,hk c o ho,hod⟩
 . obtain ⟨v,o,ho,hod⟩:=I.cell x c (hcl x c e)
   exact ⟨v,o,hk c o ho,hod⟩
 . show (Yo k idx σ).length=N'.length
   unfold Yo
   rw [S.len,Xc,Ub,Qb]
end
def PTs (X:Cx) (ifs:List Expr) (t:TT):Prop:=
 ∀ (pins:List (Addr×Obj)) (s:J9k) (σ:St) (H:Hp) (Q:Bool->Hp->Prop),Inv X pins σ H s->t σ H Q ->
  J9l (model X.prog X.w) X.A (forIn ifs true λ c r=>if r=true then do let ok <- isTrue c X.env (eval c X.env);pure (J3e ok) else pure (J3e r)) (TP X pins σ Q) X.xe s
def Jgd:TT:=λ _ H Q=>Q true H
theorem Yy {X:Cx}:PTs X [] Jgd:=λ pins s σ H Q I h=>wpAny_tests_nil ⟨H,I,h⟩
theorem Ja9 {X:Cx}{c:Expr}{t:TT}(h:PT X c t):PTs X [c] t:=λ pins s σ H Q I q=>wpAny_tests_one (h pins s σ H Q I q)
def Jj4 (J:It) (g:TG) (tt:TT) (te:TE) (l:Addr) (σ0:St) (H0:Hp) (Q:Hp->Prop):Prop:=
 ∃ W:Nat->Nat->St->Hp->Prop,(∃ m,W 0 m σ0 H0)/\∀ i m σ H,W i m σ H ->
  (J.stop i H/\Q H)\/(J.go i H/\∀ x H',J.yld i H x H'->g x σ H' λ σ2 H2=>tt σ2 H2 λ c H3=>
   if c=true then te σ2 H3 λ y H4=>∃ xs,H4 l=some (.lst xs)/\xs.length<sizeLine/\∃ m',m'<m/\W (i+1) m' σ2 (upd H4 l (.lst (xs++[y])))
   else ∃ m',m'<m/\W (i+1) m' σ2 H3)
def Jat (wi:TI) (k:Nat) (idx:List Nat) (g:TG) (tt:TT) (te:TE):TE:=λ σ H Q=>wi σ H λ J H1=>∀ l,H1 l=none->Jj4 J g tt te l (Yo k idx σ) (upd H1 l (.lst [])) λ H2=>Q (.ref l) H2
section
variable {X:Cx}{tg iter elt:Expr}{ifs:List Expr}{scope sc:J9q}{N N':List Str}{k:Nat}{idx:List Nat}{wi:TI}{g:TG}{tt:TT}{te:TE}{pos:Pos}
structure Free1 (X:Cx) (pins:List (Addr×Obj)) (H:Hp) (C:Addr):Prop where
 loc:C≠X.env.locals
 cel:∀ x c,X.env.cells.lookup x=some c->c≠C
 fr:H C=none
 new:X.s₀.heap.objs.size<=C
 pin:∀ p∈X.pn++pins,p.1≠C
theorem Inv.freed {X:Cx}{pins:List (Addr×Obj)}{σ:St}{H:Hp}{s:J9k}{C:Addr}{h':Heap}(I:Inv X pins σ H s) (f:Free1 X pins H C) (hs:Xw C s.heap h'):Inv X pins σ H { s with heap:=h' }:=
 I.turned (t':=s.toks) (it:=C) (λ b o hb e=>(hs.2 b hb).trans e) f.fr f.loc (.inr f.new) f.cel f.pin
theorem Jg0 {pins:List (Addr×Obj)}{s:J9k}{σ:St}{E:J9j->J9k->Prop}{RR:J9j->Addr->J94->J9k->Prop}{itv:J9j}{Qe:Addr->Hp->Prop}
 (hc:X.calm=true) (S:CompScope sc N scope N' k idx) (hsc:X.env.scope=sc) (hNN:X.N=N)
 (hg:∀ C s H fp,PG (Z4 X N' scope C s H fp) tg g) (ht:∀ C s H fp,PTs (Z4 X N' scope C s H fp) ifs tt) (he:∀ C s H fp,PE (Z4 X N' scope C s H fp) elt te)
 (hit:PIE X pins σ tg (λ J H1=>∀ l,H1 l=none->Jj4 J g tt te l (Yo k idx σ) (upd H1 l (.lst [])) λ H2=>Qe l H2) itv s)
 (hRR:∀ l H2 C s2,Inv X pins σ H2 s2->(∃ m,s2.heap.Ns C m)->Free1 X pins H2 C->Qe l H2->RR (.ref l) C (.ok .next) s2) :
 J9l (model X.prog X.w) X.A (newList []) (λ acc s₃=>J9l (model X.prog X.w) X.A (newFunctionEnv scope X.env.globals (Yg X.env scope.names []) [] X.env.qual none .none (some X.env)) (λ cenv s₄=>
  J9u (model X.prog X.w) X.A (.compStart (.ListComp elt [⟨tg,iter,ifs,0⟩] scope pos) 0 itv acc { cenv with scope:=relabel scope X.env }) (RR acc cenv.locals) s₄) E s₃) E s:=by
 obtain ⟨it,fp,tn,J,H1,rfl,I1,T,st1,f1,q⟩:=hit
 refine wpAny_newObj_type ?_
 have hf0:H1 s.heap.objs.size=none:=I1.hok.fresh (Ql _)
 have hflt:∀ b∈fp,b<s.heap.objs.size:=λ b hb=>let ⟨_,e,_⟩:=T.obj _ _ st1 b hb;Qv e
 generalize hl:s.heap.objs.size=l at *
 have I2:Inv X pins σ (upd H1 l (.lst [])) { s with heap:=s.heap.push { cls:=.type "list",dict:=none,data:=.seq ([]:List J9j).toArray } }:=
  I1.laid (t':=s.toks) (λ b u e=>Qu _ e) (J4a hl) (show Yw _ _ _ _ l (.lst []) from ⟨Xr _,[],0,.nil,by rw [<- hl];exact Xe _ rfl⟩)
 have st2:tn 0 (s.heap.push { cls:=.type "list",dict:=none,data:=.seq ([]:List J9j).toArray }):=T.keep _ _ _ st1 λ b _ o e=>Qu _ e
 have f2:∀ b∈fp,Jcx X pins (upd H1 l (.lst [])) b:=λ b hb=>⟨by rw [Jf (Xg (hflt b hb))];exact (f1 b hb).1,(f1 b hb).2⟩
 have hsz2:(s.heap.push { cls:=.type "list",dict:=none,data:=.seq ([]:List J9j).toArray }).objs.size=l+1:=by rw [Xz,hl]
 have q2:=q l hf0
 generalize hs2:({ s with heap:=s.heap.push { cls:=.type "list",dict:=none,data:=.seq ([]:List J9j).toArray } }:J9k)=s2 at I2 ⊢
 have st2:tn 0 s2.heap:=by rw [<- hs2];exact st2
 have hsz2:s2.heap.objs.size=l+1:=by rw [<- hs2];exact hsz2
 refine wpAny_newFunctionEnv S.nocell (by intro y hy;simp at hy) (λ h₁ hns₁ hsb₁=>?_) S.kind
 have hk1:∀ b o,s2.heap.get? b=some o->h₁.get? b=some o:=λ b o e=>hsb₁.extBut b o (Xg (Qv e)) (Qu _ e)
 have hlt2:∀ b∈fp,b<s2.heap.objs.size:=λ b hb=>by rw [hsz2];exact J4h (hflt b hb)
 have I3:=Jn3 (t':=s2.toks+([]:List (Str×J9j)).length) I2 S hsc hNN f2 hlt2 (by simpa using hns₁) hk1
 generalize hC:s2.heap.objs.size=C at *
 have st3:tn 0 h₁:=T.keep _ _ _ st2 λ b _ o e=>hk1 b o e
 obtain ⟨W,⟨m0,w0⟩,turn⟩:=q2
 -- back to the frame around
 have back:∀ {σ':St} {H':Hp} {s':J9k},Inv (Z4 X N' scope C s2 (upd H1 l (.lst [])) fp) [] σ' H' s'->Inv X pins σ H' s':=λ {σ' H' s'} I'=>
  I2.call' I'.os I'.base I'.hok I'.bare λ b hb=>⟨(f2 b hb).2.2.2.1,(f2 b hb).2.1,(f2 b hb).2.2.2.2.1,(f2 b hb).2.2.2.2.2⟩
 have loop:∀ s₃:J9k,s₃ = { s2 with heap:=h₁,toks:=s2.toks+([]:List (Str×J9j)).length } ->
  J9u (model X.prog X.w) X.A (.compLoop (.ListComp elt [⟨tg,iter,ifs,0⟩] scope pos) 0 (.ref it) (.ref l) (compEnvC scope (Yg X.env scope.names []) C X.env)) (RR (.ref l) C) s₃:=by
  rintro s₃ rfl
  refine Jfu (λ n s'=>∃ i σ' H',Inv (Z4 X N' scope C s2 (upd H1 l (.lst [])) fp) [] σ' H' s'/\tn i s'.heap/\(∀ b∈fp,H' b=none)/\W i n σ' H') ?_ m0 ⟨0,_,_,I3,st3,λ b hb=>(f2 b hb).1,w0⟩
  rintro n s4 ⟨i,σ4,H4,I4,st4,fr4,w4⟩
  have stat:∀ {H':Hp},(∀ b∈fp,H' b=none)->∀ b∈fp,Jcx (Z4 X N' scope C s2 (upd H1 l (.lst [])) fp) [] H' b:=λ {H'} hn b hb=>
   ⟨hn b hb,(I4.ok.exf b hb).1,I4.ok.exfs b hb,.inl hb,(I4.ok.exf b hb).2,λ p hp=>by cases hp⟩
  rcases turn i n σ4 H4 w4 with ⟨stop,qn⟩ | ⟨go,step⟩
  . refine thn (T.done (Z4 X N' scope C s2 (upd H1 l (.lst [])) fp) rfl rfl rfl hc i [] s4 σ4 H4 NoE I4 (stat fr4) st4 stop) λ r s5 ⟨hr,I5⟩=>?_
    subst hr
    have IX:=back I5
    have hCl:C≠X.env.locals:=λ e=>by
     have:=I2.lt
     rw [hC,<- e] at this
     exact Xf _ this
    have hCc:∀ x c,X.env.cells.lookup x=some c->c≠C:=λ x c e z=>by
     obtain ⟨v,o,ho,_⟩:=I2.cell x c e
     have:=Qv ho
     rw [hC,z] at this
     exact Xf _ this
    obtain ⟨m5,hm5,_⟩:=I5.loc
    refine hRR l H4 C s5 IX ⟨m5,hm5⟩ ⟨hCl,hCc,I5.free,by rw [<- hC];exact I2.sz,λ p hp z=>?_⟩ qn
    obtain ⟨e,_⟩:=I2.pin p hp
    have:=Qv e
    rw [hC,z] at this
    exact Xf _ this
  . refine thn (T.item (Z4 X N' scope C s2 (upd H1 l (.lst [])) fp) rfl rfl rfl hc i [] s4 σ4 H4 NoE I4 (stat fr4) st4 go) λ r s5 ⟨u,hr,h5⟩=>?_
    subst hr
    refine thn h5 λ _ s6 ⟨x,H6,I6,r6,y6,st6,fr6⟩=>?_
    have I6':=I6.pinned (stat fr6) (T.obj _ _ st6)
    have keepT:∀ {σ7:St} {H7:Hp} {s7:J9k},Inv (Z4 X N' scope C s2 (upd H1 l (.lst [])) fp) ([]++Jet fp s6.heap) σ7 H7 s7->tn (i+1) s7.heap/\∀ b∈fp,H7 b=none:=λ {σ7 H7 s7} I7=>
     ⟨T.keep _ _ _ st6 λ b hb o e=>(I7.pin (b,o) (Xh _ (Xh _ (Vo hb e)))).1,λ b hb=>by
      obtain ⟨o,e,d⟩:=T.obj _ _ st6 b hb
      exact (I7.pin (b,o) (Xh _ (Xh _ (Vo hb e)))).2.1⟩
    refine thn (hg C s2 (upd H1 l (.lst [])) fp _ s6 σ4 H6 x u _ I6' r6 (step x H6 y6)) λ _ s7 ⟨σ7,H7,I7,q7⟩=>?_
    refine thn (ht C s2 (upd H1 l (.lst [])) fp _ s7 σ7 H7 _ I7 q7) λ ok s8 ⟨H8,I8,q8⟩=>?_
    cases ok with
    | false=>
     rw [if_neg (by decide)] at q8 ⊢
     obtain ⟨m',hm,w8⟩:=q8
     have kt:=keepT I8
     exact ⟨m',hm,i+1,σ7,H8,I8.unpinned,kt.1,kt.2,w8⟩
    | true=>
     rw [if_pos rfl] at q8 ⊢
     refine thn (he C s2 (upd H1 l (.lst [])) fp _ s8 σ7 H8 _ I8 q8) λ v s9 ⟨y,H9,I9,r9,xs,e9,z9,m',hm,w9⟩=>?_
     refine thn (Wj _ s9 σ7 H9 (.ref l) [y] (.ref l) [v] (λ z H10=>z = .non/\H10=upd H9 l (.lst (xs++[y]))) I9 rfl (.cons r9 .nil) ⟨l,xs,y,rfl,rfl,e9,z9,rfl,rfl⟩) λ _ s10 ⟨z,H10,I10,_,_,e10⟩=>?_
     subst e10
     have kt:=keepT I10
     exact ⟨m',hm,i+1,σ7,_,I10.unpinned,kt.1,kt.2,w9⟩
 have e2:(newEnv scope C X.env.globals (Yg X.env scope.names []) X.env.qual none .none (some X.env) Yal).locals=C:=rfl
 show J9u _ _ (.compStart _ 0 (.ref it) (.ref l) (compEnvC scope (Yg X.env scope.names []) C X.env)) (RR (.ref l) C) _
 exact Yaz (loop _ rfl) (T.self _ 0 _ _ _ st3 (loop _ rfl))
theorem Y9 (hc:X.calm=true) (S:CompScope sc N scope N' k idx) (hsc:X.env.scope=sc) (hNN:X.N=N) (hi:PI X tg iter wi)
 (hg:∀ C s H fp,PG (Z4 X N' scope C s H fp) tg g) (ht:∀ C s H fp,PTs (Z4 X N' scope C s H fp) ifs tt) (he:∀ C s H fp,PE (Z4 X N' scope C s H fp) elt te)
 (hs:∀ x,Yan iter X.env x=pure x:=by intro _;rfl):PE X (.ListComp elt [⟨tg,iter,ifs,0⟩] scope pos) (Jat wi k idx g tt te):=by
 intro pins s σ H Q I h
 rw [eval_ListComp]
 have hclos:Yai scope X.env=pure (Yg X.env scope.names []):=V1 λ x hx hfree=>I.ok.has x.1 (by
  show X.env.scope.names.lookup x.1=_\/X.env.scope.names.lookup x.1=_
  rw [hsc];exact S.fr x hx hfree)
 refine wpAny_comprehension_free (use:=none) rfl hs hclos S.kind S.loc (thn (hi pins s σ H _ I h) λ v s1 h1=>thn h1 λ itv s2 h2=>?_)
 refine Jg0 (RR:=λ acc C=>compPost (model X.prog X.w) X.A X.xe none (EP X pins σ Q) acc C) (Qe:=λ l H2=>Q (.ref l) H2) hc S hsc hNN hg ht he h2 ?_
 intro l H2 C s2 I2 hm f q
 obtain ⟨m,hm⟩:=hm
 exact ⟨m,hm,λ h' hs'=>⟨.ref l,H2,I2.freed f hs',rfl,q⟩⟩
def V4 (i:Nat) (wi:TI) (k:Nat) (idx:List Nat) (g:TG) (tt:TT) (te:TE):TS:=λ D σ H=>wi σ H λ J H1=>∀ l,H1 l=none->Jj4 J g tt te l (Yo k idx σ) (upd H1 l (.lst [])) λ H2=>D.nx (σ.set i (some (.ref l))) H2
theorem W2 {i:Nat}{y:Str}{py spos:Pos}(hc:X.calm=true) (hN:X.N.Nodup) (hiN:X.N[i]? = some y) (hy:X.env.scope.names.lookup y=some .local) (S:CompScope sc N scope N' k idx) (hsc:X.env.scope=sc) (hNN:X.N=N) (hi:PI X tg iter wi)
 (hg:∀ C s H fp,PG (Z4 X N' scope C s H fp) tg g) (ht:∀ C s H fp,PTs (Z4 X N' scope C s H fp) ifs tt) (he:∀ C s H fp,PE (Z4 X N' scope C s H fp) elt te)
 (hsw:Yad (.ListComp elt [⟨tg,iter,ifs,0⟩] scope pos) (some (.Name y py)) spos.line X.env=pure true:=by rfl)
 (hs:∀ x,Yan iter X.env x=pure x:=by intro _;rfl):PS X (.Assign [.Name y py] (.ListComp elt [⟨tg,iter,ifs,0⟩] scope pos) spos) (V4 i wi k idx g tt te):=by
 intro pins s σ H D I h
 rw [Ya0 _ _ _ _ hsw]
 refine wpAny_bind (wpAny_standAt (wpAny_bind ?_))
 show J9l _ X.A (do let _ <- comprehension (.ListComp elt [⟨tg,iter,ifs,0⟩] scope pos) scope X.env _ (newList []) false (eval iter X.env) (some (assign (.Name y py) X.env))) _ _ s
 have hclos:Yai scope X.env=pure (Yg X.env scope.names []):=V1 λ x hx hfree=>I.ok.has x.1 (by
  show X.env.scope.names.lookup x.1=_\/X.env.scope.names.lookup x.1=_
  rw [hsc];exact S.fr x hx hfree)
 refine wpAny_bind (wpAny_mono (wpAny_comprehension_free (use:=some (assign (.Name y py) X.env)) (Q:=λ _ s'=>SP X pins D .next s') rfl hs hclos S.kind S.loc (thn (hi pins s σ H _ I h) λ v s1 h1=>thn h1 λ itv s2 h2=>?_))
  (λ _ s' hq=>wpAny_pure (wpAny_pure hq)) λ _ _ e=>e)
 refine Jg0 (RR:=λ acc C=>compPost (model X.prog X.w) X.A X.xe (some (assign (.Name y py) X.env)) (λ _ s'=>SP X pins D .next s') acc C) (Qe:=λ l H2=>D.nx (σ.set i (some (.ref l))) H2) hc S hsc hNN hg ht he h2 ?_
 intro l H2 C s2 I2 hm f q
 obtain ⟨m,hm⟩:=hm
 show J9l _ X.A (assign (.Name y py) X.env (.ref l)) _ _ _
 refine Yas (Jer (v:=.ref l) I2 hN hiN (.inl hy) rfl (λ s' I' hch=>?_) (.inr hy))
 obtain ⟨a,hsb,ha⟩:=hch
 have haC:C≠a:=λ z=>by
  rcases ha with e | e
  . exact f.loc (z.trans e)
  . exact f.cel y a e z.symm
 exact ⟨m,hm.sameBut hsb haC,λ h' hs'=>⟨_,H2,I'.freed f hs',q⟩⟩
end
noncomputable def Jba (C:Addr) (ns:List Str) (ds:List J9i):List (J9i×J9i):=(.int (C:Nat),.none)::J4i (λ n d=>(PyData.str n,d)) ns ds
mutual
inductive Rep (ex:List Addr) (H:Hp):J9i->V->Prop
 | none:Rep ex H .none .non
 | bool (b:Bool):Rep ex H (.bool b) (.bl b)
 | int (i:Int):Rep ex H (.int i) (.int i)
 | str (x:Str):Rep ex H (.str x) (.str x)
 | tuple {a:Addr} {xs:List V} {ds:List J9i} (e:H a=some (.tup xs)) (n:a∉ex) (z:xs.length<=sizeLine) (r:Reps ex H ds xs):Rep ex H (.tuple ds) (.ref a)
 | list {a:Addr} {xs:List V} {ds:List J9i} (e:H a=some (.lst xs)) (n:a∉ex) (z:xs.length<=sizeLine) (r:Reps ex H ds xs):Rep ex H (.list ds) (.ref a)
 | obj {a C dx:Addr} {fs:List (Str×V)} {ds:List J9i} {kvs:List (J9i×J9i)} (e:H a=some (.ins C dx fs)) (n:a∉ex) (k:kvs=Jba C (fs.map (·.1)) ds) (r:Reps ex H ds (fs.map (·.2))):Rep ex H (.dict kvs) (.ref a)
inductive Reps (ex:List Addr) (H:Hp):List J9i->List V->Prop
 | nil:Reps ex H [] []
 | cons {d:J9i} {v:V} {ds:List J9i} {vs:List V}:Rep ex H d v->Reps ex H ds vs->Reps ex H (d::ds) (v::vs)
end
def Kp (ex:List Addr) (H H':Hp):Prop:=∀ b o,H b=some o->b∉ex->H' b=some o
theorem Kp.refl {ex:List Addr}{H:Hp}:Kp ex H H:=λ _ _ e _=>e
theorem Kp.trans {ex:List Addr}{H H1 H2:Hp}(a:Kp ex H H1) (b:Kp ex H1 H2):Kp ex H H2:=λ c o e n=>b c o (a c o e n) n
theorem Kp.of {ex:List Addr}{H H':Hp}(a:Kp [] H H'):Kp ex H H':=λ c o e _=>a c o e (by simp)
theorem Kp.mono {ex ex':List Addr}{H H':Hp}(a:Kp ex H H') (h:∀ b∈ex,b∈ex'):Kp ex' H H':=λ c o e n=>a c o e λ z=>n (h c z)
theorem Kp.new {ex:List Addr}{H:Hp}{p:Addr}(h:H p=none) (o:HO):Kp ex H (upd H p o):=λ b u q _=>by rw [Jf (Jn q h)];exact q
theorem Kp.at {ex:List Addr}{H:Hp}{p:Addr}(h:p∈ex) (o:HO):Kp ex H (upd H p o):=λ b u q n=>by rw [Jf (λ (z:b=p)=>n (by rw [z];exact h))];exact q
mutual
theorem Rep.keep {ex:List Addr}{H H':Hp}(k:Kp ex H H'):∀ {d:J9i}{v:V},Rep ex H d v->Rep ex H' d v
 | _,_,.none=>.none
 | _,_,.bool b=>.bool b
 | _,_,.int i=>.int i
 | _,_,.str x=>.str x
 | _,_,.tuple e n z r=>.tuple (k _ _ e n) n z (Reps.keep k r)
 | _,_,.list e n z r=>.list (k _ _ e n) n z (Reps.keep k r)
 | _,_,.obj e n q r=>.obj (k _ _ e n) n q (Reps.keep k r)
theorem Reps.keep {ex:List Addr}{H H':Hp}(k:Kp ex H H'):∀ {ds:List J9i}{vs:List V},Reps ex H ds vs->Reps ex H' ds vs
 | _,_,.nil=>.nil
 | _,_,.cons r t=>.cons (Rep.keep k r) (Reps.keep k t)
end
theorem Reps.length {ex:List Addr}{H:Hp}:∀ {ds:List J9i}{vs:List V},Reps ex H ds vs->ds.length=vs.length
 | _,_,.nil=>rfl
 | _,_,.cons _ t=>by simp [Reps.length t]
theorem Reps.get {ex:List Addr}{H:Hp}:∀ {ds:List J9i}{vs:List V}{i:Nat}{d:J9i},Reps ex H ds vs->ds[i]? = some d->∃ v,vs[i]? = some v/\Rep ex H d v
 | _,_,_,_,.nil,e=>by simp at e
 | _,_,0,_,.cons r _,e=>by simp at e;subst e;exact ⟨_,rfl,r⟩
 | _,_,i+1,d,.cons _ t,e=>by
  obtain ⟨u,h1,h2⟩:=Reps.get (i:=i) (d:=d) t (by simpa using e)
  exact ⟨u,by simpa using h1,h2⟩
theorem Reps.append {ex:List Addr}{H:Hp}:∀ {ds es:List J9i}{vs ws:List V},Reps ex H ds vs->Reps ex H es ws->Reps ex H (ds++es) (vs++ws)
 | _,_,_,_,.nil,s=>s
 | _,_,_,_,.cons r t,s=>.cons r (Reps.append t s)
theorem Reps.take {ex:List Addr}{H:Hp}:∀ {ds:List J9i}{vs:List V}(n:Nat),Reps ex H ds vs->Reps ex H (ds.take n) (vs.take n)
 | _,_,0,_=>.nil
 | _,_,_+1,.nil=>.nil
 | _,_,n+1,.cons r t=>.cons r (Reps.take n t)
theorem Reps.drop {ex:List Addr}{H:Hp}:∀ {ds:List J9i}{vs:List V}(n:Nat),Reps ex H ds vs->Reps ex H (ds.drop n) (vs.drop n)
 | _,_,0,r=>r
 | _,_,_+1,.nil=>.nil
 | _,_,n+1,.cons _ t=>Reps.drop n t
theorem Reps.ints {ex:List Addr}{H:Hp}:∀ ns:List Int,Reps ex H (ns.map Qp) (ns.map V.int)
 | []=>.nil
 | n::r=>.cons (.int n) (Reps.ints r)
theorem Reps.ints_inv {ex:List Addr}{H:Hp}:∀ {ns:List Int}{vs:List V},Reps ex H (ns.map Qp) vs->vs=ns.map V.int
 | [],_,.nil=>rfl
 | n::r,_,.cons (.int _) t=>by rw [Reps.ints_inv t];rfl
theorem Reps.rep {ex:List Addr}{H:Hp}{ds:List J9i}{vs:List V}(h:Reps ex H ds vs):∀ k:Nat,Reps ex H (Qr k ds).flatten (Qr k vs).flatten
 | 0=>.nil
 | k+1=>by
  rw [U5,U5,U6,U6]
  exact Reps.append h (Reps.rep h k)
theorem Jlw {d:J9i}{ds:List J9i}(h:J2x (d::ds)=true):d.canLay0=true/\J2x ds=true:=by rw [J2x,Uc] at h;exact h
mutual
theorem Rep.reads {ex:List Addr}{P:J9n}{w:J9m}{H:Hp}{h:Heap}(ok:HOk P w H h):∀ {d:J9i}{v:V}{u:J9j},d.canLay0=true->Rep ex H d v->Yl v u->∃ as,Reads h u d as
 | _,_,_,_,.none,r=>by cases (show _=Ut from r);exact ⟨_,.none⟩
 | _,_,_,_,.bool b,r=>by cases (show _=J28 b from r);exact ⟨_,.bool b⟩
 | _,_,_,_,.int i,r=>by obtain ⟨t,rfl⟩:=(show ∃ t,_=Us i t from r);exact ⟨_,.int i t⟩
 | _,_,_,_,.str x,r=>by obtain ⟨t,rfl⟩:=(show ∃ t,_=J27 x t from r);exact ⟨_,.str x t⟩
 | _,_,_,hc,.tuple (a:=a) (xs:=xs) e n _ rs,r=>by
  cases (show _=Q3 a from r)
  obtain ⟨z,its,rv,o,e1,e2,n',e3⟩:=(show Yw P w H h a (.tup xs) from ok a _ e)
  obtain ⟨as,ra⟩:=Reps.reads ok (by rw [Ue] at hc;exact hc) rs rv
  exact ⟨as,.tuple e1 e2 e3 (by simpa using ra)⟩
 | _,_,_,hc,.list (a:=a) (xs:=xs) e n _ rs,r=>by
  cases (show _=Q3 a from r)
  obtain ⟨z,its,n',rv,e1⟩:=(show Yw P w H h a (.lst xs) from ok a _ e)
  obtain ⟨as,ra⟩:=Reps.reads ok (by rw [Ue] at hc;exact hc) rs rv
  exact ⟨_,.list e1 rfl rfl (by simpa using ra)⟩
 | _,_,_,hc,.obj _ _ _ _,r=>by rw [Ue] at hc;cases hc
theorem Reps.reads {ex:List Addr}{P:J9n}{w:J9m}{H:Hp}{h:Heap}(ok:HOk P w H h):∀ {ds:List J9i}{vs:List V}{us:List J9j},J2x ds=true->Reps ex H ds vs->Yb vs us->∃ as,ReadsAll h us ds as
 | _,_,_,_,.nil,r=>by cases r;exact ⟨_,.nil⟩
 | _,_,_,hc,.cons q t,r=>by
  cases r with
  | cons r1 r2=>
   obtain ⟨as,h1⟩:=Rep.reads ok (Jlw hc).1 q r1
   obtain ⟨bs,h2⟩:=Reps.reads ok (Jlw hc).2 t r2
   exact ⟨_,.cons h1 h2⟩
end
section
variable {X:Cx}
def J0c:R2:=λ x y H Q=>∃ ex da db,Rep ex H da x/\Rep ex H db y/\da.canLay0=true/\db.canLay0=true/\min da.depth db.depth<=50/\Q (.bl (X8 da db)) H
def J0d:R2:=λ x y H Q=>∃ ex da db,Rep ex H da x/\Rep ex H db y/\da.canLay0=true/\db.canLay0=true/\min da.depth db.depth<=50/\Q (.bl (!X8 da db)) H
theorem Jg1 (hu:X.A.units+64<J91):OpR X (compareOp .Eq) J0c:=by
 intro pins s σ H x y v u Q I rx ry h
 obtain ⟨ex,da,db,r1,r2,c1,c2,hd,q⟩:=h
 obtain ⟨as,h1⟩:=Rep.reads I.hok c1 r1 rx
 obtain ⟨bs,h2⟩:=Rep.reads I.hok c2 r2 ry
 exact SeqAt.compareEq_reads h1 h2 c1 c2 (by omega) ⟨.bl (X8 da db),H,I,rfl,q⟩
theorem Jg2:Bj X (.builtin "all") (λ xs H Q=>X.calm=true/\∃ (p:Addr) (bs:List Bool),xs=[.ref p]/\SqL X.K H p (bs.map V.bl)/\Q (.bl (bs.all id)) H):=by
 intro pins s σ H xs us Q I r h
 obtain ⟨hc,p,bs,rfl,hq,q⟩:=h
 obtain ⟨u,rfl,ru⟩:=Jby r
 cases ru
 obtain ⟨its,rv,pl,hz⟩:=I.list hq
 have hl:=pl.isList
 have hlt:p<s.heap.objs.size:=by obtain ⟨_,e,_⟩:=hl;exact Qv e
 refine call_all_walk (wpAny_pyIter_list hl ?_)
 refine ⟨_,_,_,_,_,_,λ i=>bs.getD i true,rfl,Walks.list (A:=X.A.in1) (I.ok.hd hc) _ p (Xg hlt) its.toArray,⟨⟨_,Xe _ rfl,rfl,rfl⟩,hl.push _⟩,?_,λ h' tk hk=>?_⟩
 . intro i v s' Q' E' hP hQ
   have hP:its[i]? = some v:=by simpa using hP
   have hi:i<its.length:=(Qt.mp hP).1
   have hlen:=rv.length
   have hb:(bs.map V.bl)[i]? = some (V.bl (bs.getD i true)):=by
    rw [Qb] at hlen
    rw [Qk,Qf (by omega),Qi,Qf (by omega)]
    rfl
   obtain ⟨u,hu,ru⟩:=rv.get hb
   rw [hP] at hu
   cases hu
   cases (show v=J28 _ from ru)
   exact wpAny_truthy_bool hQ
 . have e:((Qn its.toArray.size).all λ i=>bs.getD i true)=bs.all id:=by
    have hlen:=rv.length
    rw [Qb] at hlen
    rw [Xa,<- hlen,J2l]
    simp only [X9,Xj]
    constructor
    . intro h b hb
      obtain ⟨i,hi,rfl⟩:=J7q.mp hb
      have:=h i hi
      rw [Qi,Qf hi] at this
      exact this
    . intro h i hi
      rw [Qi,Qf hi]
      exact h _ (Xp hi)
   rw [e]
   exact ⟨.bl (bs.all id),H,I.kept (t':=tk) (old_kept hk),rfl,q⟩
theorem Jlx:Bj X (.builtin "isinstance") (λ xs H Q=>∃ x T t b,xs=[x,.ty T]/\TyOf X.K H x t/\J5n X.K t (.type T)=some b/\Q (.bl b) H):=by
 intro pins s σ H xs us Q I r h
 obtain ⟨x,T,t,b,rfl,ty,e,q⟩:=h
 obtain ⟨u,w',rfl,ru,rw'⟩:=Jlq r
 cases (show w'=U9 T from rw')
 exact Jqo I ru ty e λ tk=>⟨.bl b,H,I.tok tk,rfl,q⟩
noncomputable def Jj5:J9i->String
 | .none=>"NoneType"
 | .bool _=>"bool"
 | .int _=>"int"
 | .str _=>"str"
 | .list _=>"list"
 | .tuple _=>"tuple"
 | .dict _=>"dict"
noncomputable def noD:J9i->Bool
 | .dict _=>false
 | _=>true
theorem Rep.tyOf {ex:List Addr}{H:Hp}{K:Qc}{d:J9i}{v:V}(hn:noD d=true) (r:Rep ex H d v):TyOf K H v (.type (Jj5 d)):=by
 cases r with
 | none=>exact .non
 | bool b=>exact .bl b
 | int i=>exact .int i
 | str x=>exact .str x
 | tuple e n z r=>exact .tup e
 | list e n z r=>exact .lst e
 | obj=>cases hn
def Jxe (i j:Int):Prop:=0<j/\j.natAbs.log2<9000
theorem Jau:OpR X (binaryOp .FloorDiv) (rI Jxe λ i j=>.int (i/j)):=opI λ i j _ _ _ _ _ hc q=>by
 have h1:(0:Int)<j:=hc.1
 exact floordiv_int (by omega) (by rw [Int.fdiv_eq_ediv_of_nonneg i (by omega)];exact q) (.inl (PyProof.noPylong_of_log2 hc.2))
end
theorem Jav {i j:Int}(h0:0<j) (h1:j<2^9000):Jxe i j:=by
 refine ⟨h0,?_⟩
 have hn:j.natAbs≠0:=by omega
 rw [J5x hn]
 have:(j.natAbs:Int)=j:=J3w (by omega)
 have h2:((j.natAbs:Nat):Int)<((2^9000:Nat):Int):=by rw [this];exact_mod_cast h1
 exact_mod_cast h2
def Cal (P:J9n) (w:J9m) (K:Qc) (mg:Str->Option J9j) (base:Heap) (name:Str) (k:Nat) (ps:List Str) (sp:Sp):Prop:=
 ∃ f fd,mg name=some (.ref f)/\Uk K (.ref f)=true/\Bl K fd ps []/\FnOk P w K mg base CX0 k f fd ps sp
def Def (K:Qc) (mg:Str->Option J9j) (name:Str) (st:Stmt) (ps:List Str):Prop:=
 ∃ f fd,mg name=some (.ref f)/\Fun K name name st f fd/\Bl K fd ps []
theorem Def.cal {P:J9n}{w:J9m}{K:Qc}{mg:Str->Option J9j}{base:Heap}{name:Str}{st:Stmt}{ps:List Str}{k:Nat}{sp:Sp}(d:Def K mg name st ps)
 (h:∀ f fd,Fun K name name st f fd->FnOk P w K mg base CX0 k f fd ps sp):Cal P w K mg base name k ps sp:=by
 obtain ⟨f,fd,hm,F,b⟩:=d
 exact ⟨f,fd,hm,F.kp,b,h f fd F⟩
theorem Cal.imp {P:J9n}{w:J9m}{K:Qc}{mg:Str->Option J9j}{base:Heap}{name:Str}{k:Nat}{ps:List Str}{sp sp':Sp}(c:Cal P w K mg base name k ps sp) (h:∀ vs H Q E,sp' vs H Q E->sp vs H Q E):Cal P w K mg base name k ps sp':=by
 obtain ⟨f,fd,hm,hk,b,F⟩:=c
 exact ⟨f,fd,hm,hk,b,F.imp h⟩
section
variable {X:Cx}{x:Str}{e:Expr}{es:List Expr}{p pos:Pos}{t:TA}{k:Nat}{ps:List Str}{sp:Sp}
theorem Y2 (c:Cal X.prog X.w X.K X.mg X.base x k ps sp) (hr:Room k X.A) (hg:Gl X x) (ha:PA X (e::es) t) (hdb:(x==("__debug__":Str))=false:=by decide)
 (he:starEach (e::es) X.env=(false,eval e X.env)::starEach es X.env:=by rfl) (hpl:(backTo pos (starEach es X.env)).any (·.1)=false:=by rfl) :
 PE X (.Call (.Name x p) (e::es) [] pos) (Ji7 sp [] E0 t):=by
 obtain ⟨f,fd,hm,hk,b,F⟩:=c
 exact Jvb F hr hg hm hk b .nil Jse ha hdb he hpl
end
section
variable {X:Cx}
theorem Jsg (hu:X.A.units+64<J91):OpR X (compareOp .NotEq) J0d:=by
 intro pins s σ H x y v u Q I rx ry h
 obtain ⟨ex,da,db,r1,r2,c1,c2,hd,q⟩:=h
 obtain ⟨as,h1⟩:=Rep.reads I.hok c1 r1 rx
 obtain ⟨bs,h2⟩:=Rep.reads I.hok c2 r2 ry
 exact SeqAt.compareNe_reads h1 h2 c1 c2 (by omega) ⟨.bl (!X8 da db),H,I,rfl,q⟩
end
theorem Jey:fillsNumberSlot (.type "tuple") "mul" = pure false:=
 PySem.fillsNumberSlot_seq (id:="tuple.__mul__") (r:=some (.builtin "tuple.__rmul__")) J3x.lookup (by decide +kernel) J7r.lookup (by decide +kernel)
theorem Jj6:seqRepeat? (.type "tuple")=pure (some (.builtin "tuple.__mul__")):=by
 unfold seqRepeat?
 rw [J5y (T:="tuple") (name:="__mul__") (id:="tuple.__mul__") J3x.lookup (by decide +kernel),J5y (T:="tuple") (name:="__rmul__") (id:="tuple.__rmul__") J7r.lookup (by decide +kernel)]
 rfl
theorem Jg3 (a:Int) (t:Tok) (l:Addr) (items:Array J9j) (n:Nat) (dd:Option Addr) (sl:Array (Option J9j)) :
 Meets (Builtin.«int.__rmul__» ⟨[.int a t,.ref l],[]⟩) (λ _ R s=>s.heap.get? l=some { cls:=.type "tuple",dict:=dd,data:=.seq items n,slots:=sl }/\R (.ok (.ret Value.notImplemented)) s):=
 .of_wp λ prog w A R s h=>by obtain ⟨hp,g,d,tk,os⟩:=s;obtain ⟨hl,h⟩:=h;wp_walk;exact ⟨_,rfl,h⟩
theorem Jn4 (l:Addr) (items:Array J9j) (n:Nat) (dd:Option Addr) (sl:Array (Option J9j)) (u:Tok) :
 Meets (Builtin.«tuple.__mul__» ⟨[.ref l,.int 1 u],[]⟩) (λ _ R s=>s.heap.get? l=some { cls:=.type "tuple",dict:=dd,data:=.seq items n,slots:=sl }/\R (.ok (.ret (Q3 l))) s):=
 .of_wp λ prog w A R s h=>by
  obtain ⟨hp,g,d,tk,os⟩:=s;obtain ⟨hl,h⟩:=h
  have f1:=J5z
  wp_walk using J2o hl
  exact ⟨_,rfl,h⟩
theorem Jn5 (l:Addr) (items:Array J9j) (n:Nat) (dd:Option Addr) (sl:Array (Option J9j)) (x:Int) (u:Tok) (he:¬ items.isEmpty=true) (h0:x<=0) (h1:-(2^63)<=x) :
 Meets (Builtin.«tuple.__mul__» ⟨[.ref l,.int x u],[]⟩) (λ _ R s=>s.heap.get? l=some { cls:=.type "tuple",dict:=dd,data:=.seq items n,slots:=sl }/\R (.ok (.ret (Q3 s.heap.objs.size))) { s with heap:=s.heap.push { cls:=U9 "tuple",data:=J3u #[] },toks:=s.toks }):=
 .of_wp λ prog w A R s h=>by
  obtain ⟨hp,g,d,tk,os⟩:=s;obtain ⟨hl,h⟩:=h
  have f1:=J5z
  have c0:¬ (decide (x < -2^63)||decide (x≥2^63))=true:=by simp;omega
  have c1:¬ (items.isEmpty||x==1)=true:=by
   have:¬ x=1:=by omega
   simp_all
  have c2:(decide (x<=0)||items.isEmpty)=true:=by simp [h0]
  wp_walk using J2o hl
  refine Yaa (decide_eq_false c0) ?_
  wp_walk using J2o hl
  refine Yaa (decide_eq_false c1) ?_
  wp_walk using J2o hl
  exact ⟨_,rfl,h⟩
theorem Jn6 (l:Addr) (items:Array J9j) (n:Nat) (dd:Option Addr) (sl:Array (Option J9j)) (x:Int) (u:Tok) (he:¬ items.isEmpty=true) (h0:2<=x) (hz:(items.size:Int)*x<=sizeLine) :
 Meets (Builtin.«tuple.__mul__» ⟨[.ref l,.int x u],[]⟩) (λ _ R s=>s.heap.get? l=some { cls:=.type "tuple",dict:=dd,data:=.seq items n,slots:=sl }/\R (.ok (.ret (Q3 s.heap.objs.size))) { s with heap:=s.heap.push { cls:=U9 "tuple",data:=J3u ((Qr x.toNat items).foldl (· ++ ·) #[]) },toks:=s.toks }):=
 .of_wp λ prog w A R s h=>by
  obtain ⟨hp,g,d,tk,os⟩:=s;obtain ⟨hl,h⟩:=h
  have f1:=J5z
  have hs:sizeLine=16777216:=J9p
  have hpos:1<=(items.size:Int):=by
   have:items.size≠0:=λ z=>he (by simpa using z)
   omega
  have hx:x<=(items.size:Int)*x:=by
   have:=Int.mul_le_mul_of_nonneg_right hpos (show 0<=x by omega)
   omega
  have c0:¬ (decide (x < -2^63)||decide (x≥2^63))=true:=by simp;omega
  have c1:¬ (items.isEmpty||x==1)=true:=by
   have:¬ x=1:=by omega
   simp_all
  have c2:¬ (decide (x<=0)||items.isEmpty)=true:=by
   have:¬ x<=0:=by omega
   simp_all
  have c3:¬ (items.size:Int)*x>(2^63-1)/8:=by omega
  have c4:¬ J7s ((items.size:Int)*x)=true:=by unfold J7s;simp;omega
  have c5:¬ (J3s (λ x1 x2=>x1++x2) #[] (Qr x.toNat items)).size>sizeLine:=by
   have e:=Jco items.toList x.toNat []
   have e2:items.toList.toArray=items:=rfl
   rw [J4f,e2] at e
   rw [e,Xa,Jdt]
   have e3:(((x.toNat*items.toList.length:Nat)):Int)=(items.size:Int)*x:=by
    rw [J50,X3 (by omega),Xx];rfl
   omega
  wp_walk using J2o hl
  refine Yaa (decide_eq_false c0) ?_
  wp_walk using J2o hl
  refine Yaa (decide_eq_false c1) ?_
  wp_walk using J2o hl
  refine Yaa (decide_eq_false c2) ?_
  wp_walk
  refine Yaa (decide_eq_false c3) ?_
  wp_walk
  refine Yaa (decide_eq_false c5) ?_
  wp_walk
  exact ⟨_,rfl,h⟩
section
variable {X:Cx}
def Jsh (K:Qc):R2:=λ x y H Q=>∃ a k xs,x = .ref a/\y = .int k/\SqT K H a xs/\xs≠[]/\-(2^63)<=k/\(xs.length:Int)*k<=sizeLine /\
 (k=1->Q (.ref a) H)/\(k≠1->∀ p,H p=none->Q (.ref p) (upd H p (.tup (Qr k.toNat xs).flatten)))
theorem Jvg:OpR X (binaryOp .Mult) (Jsh X.K):=by
 intro pins s σ H x y v u Q I rx ry h
 obtain ⟨a,k,xs,rfl,rfl,hq,hne,h1,hz,q1,q2⟩:=h
 cases rx
 obtain ⟨t,rfl⟩:=ry
 obtain ⟨its,r,pl,hz'⟩:=I.tuple hq
 have hl:=r.length
 obtain ⟨⟨cls,dd,data,sl⟩,ho,hc,n,hd⟩:=id pl
 simp only at hc hd
 subst hc hd
 have hne':¬ its.toArray.isEmpty=true:=by
  cases xs with
  | nil=>exact absurd rfl hne
  | cons z zs=>cases its with
   | nil=>simp at hl
   | cons _ _=>simp
 have f0:∀ m:Nat,J3s (λ x1 x2=>x1++x2) #[] (Qr m its.toArray)=(Qr m its).flatten.toArray:=λ m=>by
  have:=Jco its m []
  rw [J4f] at this
  exact this
 have road:∀ {R:J9j->J9k->Prop},J9l (model X.prog X.w) X.A (call (.builtin "tuple.__mul__") [.ref a,.int k t]) R X.xe s->J9l (model X.prog X.w) X.A (binaryOp .Mult (.ref a) (.int k t)) R X.xe s:=λ {R} hw=>
  Yay (T:="tuple") (U:="int") (by decide) ⟨_,ho,rfl⟩ (λ s'=>typeIs_int s' k t) Jey PySem.F.fills_int_mul J7t Jj6 PySem.F.slot_int_index.lookup
   (call_meets J7t (typeIs_int s k t) PySem.F.entry_int_rmul (PySem.F.args_int_rmul_2 _ _) (Jg3 k t a its.toArray n dd sl) ⟨ho,rfl,⟨_,ho,rfl⟩,hw⟩)
 refine road ?_
 have new:∀ (zs:List V) (ws:List J9j),Yb zs ws->zs.length<=sizeLine->Q (.ref s.heap.objs.size) (upd H s.heap.objs.size (.tup zs)) ->
  EP X pins σ Q (.ref s.heap.objs.size) { s with heap:=s.heap.push { cls:=.type "tuple",data:=.seq ws.toArray },toks:=s.toks }:=λ zs ws rv hz q=>
  ⟨.ref s.heap.objs.size,_,I.laid (t':=s.toks) (λ b u e=>Qu _ e) (Ql _) (show Yw _ _ _ _ _ (.tup zs) from ⟨hz,ws,rv,_,Xe _ rfl,rfl,0,rfl⟩),rfl,q⟩
 have hs:sizeLine=16777216:=J9p
 by_cases k1:k=1
 . subst k1
   exact call_meets J3x ⟨_,ho,rfl⟩ J51 (J52 _ _) (Jn4 a its.toArray n dd sl t) ⟨ho,.ref a,H,I,rfl,q1 rfl⟩
 . by_cases k0:k<=0
   . refine call_meets J3x ⟨_,ho,rfl⟩ J51 (J52 _ _) (Jn5 a its.toArray n dd sl k t hne' k0 h1) ⟨ho,?_⟩
     have:=q2 k1 _ I.fresh
     rw [show k.toNat=0 by omega] at this
     exact new [] [] .nil (by simp) this
   . have hz2:((its.toArray.size:Nat):Int)*k<=sizeLine:=by rw [Xa,<- hl];exact hz
     refine call_meets J3x ⟨_,ho,rfl⟩ J51 (J52 _ _) (Jn6 a its.toArray n dd sl k t hne' (by omega) hz2) ⟨ho,?_⟩
     rw [f0]
     refine new _ _ (r.rep k.toNat) ?_ (q2 k1 _ I.fresh)
     rw [Jdt]
     have e:(((k.toNat*xs.length:Nat)):Int)=(xs.length:Int)*k:=by
      rw [J50,X3 (by omega),Xx]
     omega
end
noncomputable def Jfv (d:J9i) (T:String):Bool:=Jj5 d==T||(Jj5 d == "bool" && T == "int")
theorem J0e (K:Qc) (d:J9i) (T:String) (hT:T = "int"\/T = "bool"\/T = "str"\/T = "tuple"\/T = "list"):J5n K (.type (Jj5 d)) (.type T)=some (Jfv d T):=by
 rcases hT with rfl | rfl | rfl | rfl | rfl<;>cases d<;>first | rfl | kernel_rfl
theorem V5 {X:Cx}:Bj X (.builtin "isinstance") (λ xs H Q=>∃ ex d x T,xs=[x,.ty T]/\Rep ex H d x/\noD d=true/\(T = "int"\/T = "bool"\/T = "str"\/T = "tuple"\/T = "list")/\Q (.bl (Jfv d T)) H):=by
 intro pins s σ H xs us Q I r h
 obtain ⟨ex,d,x,T,rfl,rd,hn,hT,q⟩:=h
 exact Jlx pins s σ H _ us Q I r ⟨x,T,_,_,rfl,Rep.tyOf hn rd,J0e _ _ _ hT,q⟩
end L2
namespace My
open L2
theorem Jpk {ex:List Addr}{H:Hp}{ds:List J9i}{v:V}(r:Rep ex H (.tuple ds) v):∃ a xs,v = .ref a/\H a=some (.tup xs)/\a∉ex/\xs.length<=sizeLine/\Reps ex H ds xs:=by
 cases r with | tuple e n z rs=>exact ⟨_,_,rfl,e,n,z,rs⟩
theorem Jpl {ex:List Addr}{H:Hp}{ds:List J9i}{v:V}(r:Rep ex H (.list ds) v):∃ a xs,v = .ref a/\H a=some (.lst xs)/\a∉ex/\xs.length<=sizeLine/\Reps ex H ds xs:=by
 cases r with | list e n z rs=>exact ⟨_,_,rfl,e,n,z,rs⟩
theorem Jyo {ex:List Addr}{H:Hp}{a b c:J9i}{vs:List V}(r:Reps ex H [a,b,c] vs):∃ x y z,vs=[x,y,z]/\Rep ex H a x/\Rep ex H b y/\Rep ex H c z:=by
 cases r with | cons r1 r=>cases r with | cons r2 r=>cases r with | cons r3 r=>cases r;exact ⟨_,_,_,rfl,r1,r2,r3⟩
theorem Jsi {ex:List Addr}{H:Hp}{a b c:J9i}{v:V}(r:Rep ex H (.tuple [a,b,c]) v):∃ at' x y z,v = .ref at'/\H at'=some (.tup [x,y,z])/\at'∉ex/\Rep ex H a x/\Rep ex H b y/\Rep ex H c z:=by
 obtain ⟨at',xs,rfl,e,n,_,rs⟩:=Jpk r
 obtain ⟨x,y,z,rfl,r1,r2,r3⟩:=Jyo rs
 exact ⟨at',x,y,z,rfl,e,n,r1,r2,r3⟩
theorem Jpm {ex:List Addr}{H:Hp}{i:Int}{v:V}(r:Rep ex H (.int i) v):v = .int i:=by cases r;rfl
theorem Y4 {c:Bool}{A B:Prop}(h1:c=true->A) (h2:c=false->B):if c=true then A else B:=by
 cases c with
 | true=>exact h1 rfl
 | false=>exact h2 rfl
noncomputable def Jyp:Option Int->List (Key×V)
 | none=>[]
 | some m=>[(Ui "most",V.int m)]
noncomputable def Jxf (c:Addr) (rest seed:Int) (turn:Int×Option Int):List (Key×V):=(Ui "cells",V.ref c)::(Ui "rest",V.int rest)::(Ui "seed",V.int seed)::(Ui "turn",V.int turn.1)::Jyp turn.2
structure Jar (H:Hp) (p c:Addr):Prop where
 ex:∃ (ns:List Int) (rest seed:Int) (turn:Int×Option Int),H p=some (.dK (Jxf c rest seed turn))/\H c=some (.lst (ns.map V.int))/\ns.length<=63/\0<=seed/\seed<2^64
theorem Jar.fresh {H:Hp}{p c l:Addr}(J:Jar H p c) (h:H l=none):l∉[p,c]:=by
 obtain ⟨ns,r,s,t,h1,h2,_⟩:=J.ex
 intro z
 rcases Qd.mp z with rfl | z
 . rw [h] at h1;cases h1
 . cases Qq.mp z;rw [h] at h2;cases h2
section
variable (c:Addr) (r s:Int) (t:Int×Option Int) (x:Int)
end
structure JarX (H:Hp) (p c:Addr) (ns:List Int) (r sd:Int) (tn:Int×Option Int):Prop where
 d:H p=some (.dK (Jxf c r sd tn))
 l:H c=some (.lst (ns.map V.int))
theorem JarX.jar {H:Hp}{p c:Addr}{ns:List Int}{r sd:Int}{tn:Int×Option Int}(J:JarX H p c ns r sd tn) (h1:ns.length<=63) (h2:0<=sd) (h3:sd<2^64):Jar H p c:=⟨ns,r,sd,tn,J.d,J.l,h1,h2,h3⟩
def Jyq (H:Hp) (p c:Addr) (e:Option Int):Prop:=∃ ns r sd tn,JarX H p c ns r sd (tn,e)/\ns.length<=63/\0<=sd/\sd<2^64
theorem Jyq.jar {H:Hp}{p c:Addr}{e:Option Int}(J:Jyq H p c e):Jar H p c:=by
 obtain ⟨ns,r,sd,tn,X,h1,h2,h3⟩:=J
 exact X.jar h1 h2 h3
theorem W3 {t u:TS}{D:Ends}{σ:L2.St}{H:Hp}(Mid:L2.St->Hp->Prop) (h1:∀ N:L2.St->Hp->Prop,(∀ σ' H',Mid σ' H'->N σ' H')->t { D with nx:=N } σ H) (h2:∀ σ' H',Mid σ' H'->u D σ' H'):Jaq t u D σ H:=h1 _ h2
theorem Jqv (ns:List Int) (lo hi:Option Int):∃ ms:List Int,Jls (ns.map V.int) lo hi=ms.map V.int/\ms.length<=ns.length:=by
 unfold Jls
 refine ⟨_,by rw [<- J3y,<- J4j],?_⟩
 rw [J4d,J3q]
 omega
mutual
theorem Rep.mono {ex ex':List Addr}{H:Hp}(h:∀ b∈ex,b∈ex'):∀ {d:J9i}{v:V},Rep ex' H d v->Rep ex H d v
 | _,_,.none=>.none
 | _,_,.bool b=>.bool b
 | _,_,.int i=>.int i
 | _,_,.str x=>.str x
 | _,_,.tuple e n z r=>.tuple e (λ q=>n (h _ q)) z (Reps.mono h r)
 | _,_,.list e n z r=>.list e (λ q=>n (h _ q)) z (Reps.mono h r)
 | _,_,.obj e n k r=>.obj e (λ q=>n (h _ q)) k (Reps.mono h r)
theorem Reps.mono {ex ex':List Addr}{H:Hp}(h:∀ b∈ex,b∈ex'):∀ {ds:List J9i}{vs:List V},Reps ex' H ds vs->Reps ex H ds vs
 | _,_,.nil=>.nil
 | _,_,.cons r t=>.cons (Rep.mono h r) (Reps.mono h t)
end
theorem J0f {P:Int->Prop}(ns:List Int) {i:Int}(h:∀ n∈ns,P n) (h0:0<=i) (h1:i<ns.length):∃ n,atI (ns.map V.int) i=some (V.int n)/\P n:=by
 have hk:i.toNat<ns.length:=by omega
 have e:i=((i.toNat:Nat):Int):=by omega
 refine ⟨ns[i.toNat],?_,h _ (Xp hk)⟩
 have q:atI (ns.map V.int) ((i.toNat:Nat):Int)=some (V.int ns[i.toNat]):=Jj0 (by rw [Qk,Qf hk];rfl)
 rw [<- e] at q
 exact q
theorem Jsj {K:Qc}{a:Addr}{k:Int}{xs:List V}{H:Hp}{Q:VK}(e:H a=some (.tup xs)) (hne:xs≠[]) (h1:-(2^63)<=k) (hz:(xs.length:Int)*k<=sizeLine)
 (h:∀ t H',Kp [] H H'->H' t=some (.tup (Qr k.toNat xs).flatten)->(t=a\/H t=none)->Q (.ref t) H'):Jsh K (.ref a) (.int k) H Q:=by
 refine ⟨a,k,xs,rfl,rfl,SqT.of e,hne,h1,hz,λ k1=>?_,λ _ p hp=>h p _ (Kp.new hp _) Jg (.inr hp)⟩
 subst k1
 exact h a H .refl (by rw [e];simp) (.inl rfl)
theorem Jb3 {n:Nat}{i:Int}(h0:0<=i) (h1:i<n):ixN n i=some i.toNat:=by
 unfold ixN;rw [if_pos h0,if_pos h1]
def Jly (K:Qc):Sp:=λ vs H Q _=>∃ (a:Addr) (ns:List Int),vs=[.ref a]/\SqL K H a (ns.map V.int)/\ns.length<=63/\∀ H',Q (.bl true) H'
theorem Vp {α:Type}{l:List α}(h:l.length<=1000):l.length<=sizeLine:=Uz (Jqu h)
end My
namespace L2
theorem B0 (o i:Expr) (pos:Pos) (env:Env) (v:J9j):assign (.Subscript o i pos) env v=(do
 let ov <- holding [v] (eval o env)
 let iv <- holding [v,ov] (eval i env)
 J90 pos
 holding [v,ov,iv] (setItem ov iv v)
 release (match i with | .Slice _ _ none _=>[iv,v,ov] | _=>[v,ov,iv]) []):=rfl
theorem Jf4 (o f:Expr) (args:List Expr) (kws:List J95) (p pos:Pos) (env:Env) (v:J9j):assign (.Subscript o (.Call f args kws p) pos) env v=(do
 let ov <- holding [v] (eval o env)
 let iv <- holding [v,ov] (eval (.Call f args kws p) env)
 J90 pos
 holding [v,ov,iv] (setItem ov iv v)
 release [v,ov,iv] []):=B0 _ _ _ _ _
theorem J3 (o:Expr) (x:Str) (p pos:Pos) (env:Env) (v:J9j):assign (.Subscript o (.Name x p) pos) env v=(do
 let ov <- holding [v] (eval o env)
 let iv <- holding [v,ov] (eval (.Name x p) env)
 J90 pos
 holding [v,ov,iv] (setItem ov iv v)
 release [v,ov,iv] []):=B0 _ _ _ _ _
section
variable {X:Cx}{es:List Expr}{te:TE}{t:TA}{pos:Pos}
theorem Jdu {xs:List Expr}{k:Nat}(ha:PE X (.Tuple xs k pos) te) (hr:PA X es t):PA X (.Tuple xs k pos::es) (Ye te t):=Vd ha hr rfl
theorem Jpn {xs:List Expr}(ha:PE X (.List xs pos) te) (hr:PA X es t):PA X (.List xs pos::es) (Ye te t):=Vd ha hr rfl
theorem Zj {k:Const}{j:Nat}(ha:PE X (.Constant k j pos) te) (hr:PA X es t):PA X (.Constant k j pos::es) (Ye te t):=Vd ha hr rfl
theorem Jb {x:Str}(ha:PE X (.Name x pos) te) (hr:PA X es t):PA X (.Name x pos::es) (Ye te t):=Vd ha hr rfl
theorem Z7 {f:Expr}{xs:List Expr}{ks:List J95}(ha:PE X (.Call f xs ks pos) te) (hr:PA X es t):PA X (.Call f xs ks pos::es) (Ye te t):=Vd ha hr rfl
theorem B1 {a b:Expr}{op:Yam}(ha:PE X (.BinOp a op b pos) te) (hr:PA X es t):PA X (.BinOp a op b pos::es) (Ye te t):=Vd ha hr rfl
theorem Jlz {a:Expr}{op:UnaryOp}(ha:PE X (.UnaryOp op a pos) te) (hr:PA X es t):PA X (.UnaryOp op a pos::es) (Ye te t):=Vd ha hr rfl
theorem Jj7 {a:Expr}{ops:List CmpOp}{bs:List Expr}(ha:PE X (.Compare a ops bs pos) te) (hr:PA X es t):PA X (.Compare a ops bs pos::es) (Ye te t):=Vd ha hr rfl
theorem Yh {a b:Expr}(ha:PE X (.Subscript a b pos) te) (hr:PA X es t):PA X (.Subscript a b pos::es) (Ye te t):=Vd ha hr rfl
theorem Jbb {e:Expr}{gs:List Comprehension}{sc:J9q}(ha:PE X (.ListComp e gs sc pos) te) (hr:PA X es t):PA X (.ListComp e gs sc pos::es) (Ye te t):=Vd ha hr rfl
end
structure PEs (X:Cx) (e:Expr) (t:TE):Prop where
 out:PE X e t
structure PAs (X:Cx) (es:List Expr) (t:TA):Prop where
 out:PA X es t
section
variable {X:Cx}{es:List Expr}{te:TE}{t:TA}{pos:Pos}
theorem J6 {e:Expr}(h:PE X e te):PEs X e te:=⟨h⟩
theorem Zy {k:Nat}(h:PAs X es t):PEs X (.Tuple es k pos) (Jva t):=⟨Jyi h.out⟩
theorem Yd (h:PAs X es t):PEs X (.List es pos) (Jyh t):=⟨Jyj h.out⟩
theorem Ya {i:Int}{j:Nat}:PEs X (.Constant (.int i) j pos) (tC (.int i)):=⟨Jd⟩
theorem Jpo {i:Str}{j:Nat}:PEs X (.Constant (.str i) j pos) (tC (.str i)):=⟨Jnk⟩
theorem Jw:PAs X [] Jam:=⟨Jc⟩
theorem Jez {xs:List Expr}{k:Nat}(ha:PEs X (.Tuple xs k pos) te) (hr:PAs X es t):PAs X (.Tuple xs k pos::es) (Ye te t):=⟨Jdu ha.out hr.out⟩
theorem Jt {k:Const}{j:Nat}(ha:PEs X (.Constant k j pos) te) (hr:PAs X es t):PAs X (.Constant k j pos::es) (Ye te t):=⟨Zj ha.out hr.out⟩
theorem Y7 {x:Str}(ha:PEs X (.Name x pos) te) (hr:PAs X es t):PAs X (.Name x pos::es) (Ye te t):=⟨Jb ha.out hr.out⟩
theorem Wv {f:Expr}{xs:List Expr}{ks:List J95}(ha:PEs X (.Call f xs ks pos) te) (hr:PAs X es t):PAs X (.Call f xs ks pos::es) (Ye te t):=⟨Z7 ha.out hr.out⟩
theorem Je0 {a b:Expr}{op:Yam}(ha:PEs X (.BinOp a op b pos) te) (hr:PAs X es t):PAs X (.BinOp a op b pos::es) (Ye te t):=⟨B1 ha.out hr.out⟩
theorem W8 {a:Expr}{op:UnaryOp}(ha:PEs X (.UnaryOp op a pos) te) (hr:PAs X es t):PAs X (.UnaryOp op a pos::es) (Ye te t):=⟨Jlz ha.out hr.out⟩
theorem Jdv {a b:Expr}(ha:PEs X (.Subscript a b pos) te) (hr:PAs X es t):PAs X (.Subscript a b pos::es) (Ye te t):=⟨Yh ha.out hr.out⟩
end
theorem def_mk {K:Qc}{h:Heap}{mg:Str->Option J9j}{x:Str}{st:Stmt}{ps:List Str}{f:Addr}{oc:J9j}{od an:Option Addr}{osl:Array (Option J9j)}{kV doc pm cdv ct:J9j}(X:K.In h) (G:h.Ns J9t mg)
 (a:J53 K J9t x=some (some (.ref f))) (l:K.lookup f=some ⟨oc,od,.func (X0 x x (Z6 st) (Zr st) (Je st) .none kV doc pm an cdv ct),osl⟩) (c:J2n K cdv x=true) (k:Uk K (.ref f)=true)
 (hb:∀ (kV doc pm:J9j) (an:Option Addr) (cdv ct:J9j) (us:List J9j),us.length=ps.length->Yag (X0 x x (Z6 st) (Zr st) (Je st) .none kV doc pm an cdv ct) ⟨us,[]⟩=pure (ps.zip us)):Def K mg x st ps:=
 ⟨f,_,J54 X G a,Jgy (st:=st) l c k,(Jgy (st:=st) l c k).binds hb⟩
end L2
namespace My
open L2
structure Way where
 a:Int
 b:Int
 g:List Int
noncomputable def Y8 (w:Way):J9i:=.tuple [.int w.a,.int w.b,.tuple (w.g.map Qp)]
noncomputable def J7 (R P:Int) (ws:List Way):J9i:=.tuple [.int R,.int P,.tuple (ws.map Y8)]
structure WayOk (R P:Int) (w:Way):Prop where
 a0:0<=w.a
 a1:w.a<R
 b0:0<=w.b
 b1:w.b<R
 len:(w.g.length:Int)=P
 small:∀ x∈w.g,-99<=x/\x<=99
structure BookOk (R P:Int) (ws:List Way):Prop where
 r0:1<=R
 r1:R<=12
 p0:1<=P
 p1:P<=6
 len:ws.length<=60
 ways:∀ w∈ws,WayOk R P w
theorem Vq {n:Int}(h:n<=100000):n<2^9000:=Int.lt_of_le_of_lt h (by decide +kernel)
end My
namespace L2
section
variable {α:Type}{a b c d e f x:α}{l:List α}
theorem mm0:a∈a::l:=Qg
theorem mm1:b∈a::b::l:=Qh _ mm0
theorem mm2:c∈a::b::c::l:=Qh _ mm1
theorem mm3:d∈a::b::c::d::l:=Qh _ mm2
theorem mm4:e∈a::b::c::d::e::l:=Qh _ mm3
theorem mm5:f∈a::b::c::d::e::f::l:=Qh _ mm4
theorem mn0 (h:¬ x∈a::l):x≠a:=λ e=>h (e▸mm0)
theorem mn1 (h:¬ x∈a::b::l):x≠b:=λ e=>h (e▸mm1)
theorem mn2 (h:¬ x∈a::b::c::l):x≠c:=λ e=>h (e▸mm2)
theorem mn3 (h:¬ x∈a::b::c::d::l):x≠d:=λ e=>h (e▸mm3)
theorem mn4 (h:¬ x∈a::b::c::d::e::l):x≠e:=λ e=>h (e▸mm4)
theorem mn5 (h:¬ x∈a::b::c::d::e::f::l):x≠f:=λ e=>h (e▸mm5)
end
section
variable {prog:J9n}{w:J9m}{A:J9o}{E:J9j->J9k->Prop}{s:J9k}
theorem Jn7 {j t:Addr}{i:Nat}{vs:Array J9j}{y:J9j}{Q:J9j->J9k->Prop}(g:s.heap.IsTupleIter j t i) (gt:s.heap.IsTuple t vs) (gy:vs[i]? = some y)
 (q:∀ h',h'.IsTupleIter j t (i+1)->Xw j s.heap h'->Q y { s with heap:=h' }):J9l (model prog w) A (J2p (.ref j)) Q E s:=by
 obtain ⟨oj,e1,e2,e3⟩:=id g
 obtain ⟨ot,e4,_,n4,e5⟩:=gt
 have goal2:J9l (model prog w) A.in1 (Builtin.«tuple_iterator.__next__» ⟨[.ref j],[]⟩) (λ fin s'=>∃ v,fin = .done (.ret v)/\J9l (model prog w) A (pure v) Q E s') E s:=by
  show J9l _ _ (field (.ref j) 0 >>= _) _ _ s
  refine wpAny_bind (wpAny_field e1 e3 (x:=.ref t) rfl ?_)
  show J9l _ _ (if (Q3 t==Ut)=true then _ else _) _ _ s;rw [if_neg (show ¬ ((Q3 t==Ut)=true) from λ z=>J7u z)]
  show J9l _ _ (field (.ref j) 1 >>= _) _ _ s
  refine wpAny_bind (wpAny_field e1 e3 (x:=.int i 0) rfl ?_)
  show J9l _ _ (Yab (.ref t) >>= _) _ _ s
  refine wpAny_bind (wpAny_seqItems e4 e5 ?_)
  simp only [Q0,gy]
  refine wpAny_bind (wpAny_setField e1 e3 (by first | exact mm0 | exact mm1 | exact mm2 | exact mm3 | exact mm4 | exact mm5 | simp) (wpAny_pure ⟨y,rfl,wpAny_pure (q _ ⟨_,J4e _ e1 (Obj.isFreed_of_fields (J7v e3 _)),(Obj.cls_mapFields ..).trans e2,?_⟩ (J7w ..))⟩))
  rw [J7v e3];simp [rawInt]
 unfold J2p
 exact wpAny_bind (Yar (name:=J4k "__next__") g.typeIs J4l (wpAny_call_entry J4l g.typeIs J7x goal2 (J7y _)))
theorem Jqw {j t:Addr}{i:Nat}{vs:Array J9j}{Q:J9j->J9k->Prop}(hh:A.handled=none) (g:s.heap.IsTupleIter j t i) (gt:s.heap.IsTuple t vs) (gy:vs[i]? = none)
 (q:∀ h' e,Heap.ExtBut j s.heap h'->(∃ o,h'.get? e=some o/\o.cls = .type "StopIteration")->E (.ref e) { s with heap:=h' }):J9l (model prog w) A (J2p (.ref j)) Q E s:=by
 obtain ⟨oj,e1,e2,e3⟩:=id g
 obtain ⟨ot,e4,_,n4,e5⟩:=gt
 unfold J2p
 refine wpAny_bind (Yar (name:=J4k "__next__") g.typeIs J4l (wpAny_call_entry J4l g.typeIs J7x ?_ (J7y _)))
 show J9l _ _ (field (.ref j) 0 >>= _) _ _ s
 refine wpAny_bind (wpAny_field e1 e3 (x:=.ref t) rfl ?_)
 show J9l _ _ (if (Q3 t==Ut)=true then _ else _) _ _ s;rw [if_neg (show ¬ ((Q3 t==Ut)=true) from λ z=>J7u z)]
 show J9l _ _ (field (.ref j) 1 >>= _) _ _ s
 refine wpAny_bind (wpAny_field e1 e3 (x:=.int i 0) rfl ?_)
 show J9l _ _ (Yab (.ref t) >>= _) _ _ s
 refine wpAny_bind (wpAny_seqItems e4 e5 ?_)
 simp only [Q0,gy]
 refine wpAny_bind (wpAny_rule (wpAny_bind (wpAny_setField e1 e3 (by first | exact mm0 | exact mm1 | exact mm2 | exact mm3 | exact mm4 | exact mm5 | simp) ?_)))
 show J9l _ _ (newExc (.type "StopIteration") [] >>= _) _ _ _;refine wpAny_bind ?_;simp only [newExc,newTuple]
 refine wpAny_bind (wpAny_newObj_type ?_ (by size_fits));refine wpAny_bind (m:=firstArgMember _ _) (wpAny_of_eq (a:=Ut) (by first | rfl | (simp only [firstArgMember];rfl)) ?_);refine wpAny_newObj_type ?_ (by size_fits)
 simp only [raiseNew];refine wpAny_bind (wpAny_handled ?_);first | rw [show A.in1.handled=none from hh] | rw [hh]
 refine wpAny_bind (wpAny_pure (wpAny_throw (q _ _ (((J7w ..).extBut.push _).push _) ⟨_,Xe _ rfl,rfl⟩)))
end
def Jcy (b:Bool) (h:Heap) (a:Addr) (vs:Array J9j):Prop:=match b with | true=>h.IsTuple a vs | false=>h.IsList a vs
def ItAt (b:Bool) (h:Heap) (j a:Addr) (i:Nat):Prop:=match b with | true=>h.IsTupleIter j a i | false=>h.IsListIter j a i
theorem Jcy.at {b:Bool}{h h':Heap}{a:Addr}{vs:Array J9j}(x:Jcy b h a vs) (k:∀ o,h.get? a=some o->h'.get? a=some o):Jcy b h' a vs:=by
 cases b with
 | true=>exact let ⟨o,e,r⟩:=x;⟨o,k o e,r⟩
 | false=>exact let ⟨o,e,r⟩:=x;⟨o,k o e,r⟩
theorem ItAt.at {b:Bool}{h h':Heap}{j a:Addr}{i:Nat}(x:ItAt b h j a i) (k:∀ o,h.get? j=some o->h'.get? j=some o):ItAt b h' j a i:=by
 cases b with
 | true=>exact let ⟨o,e,r⟩:=x;⟨o,k o e,r⟩
 | false=>exact let ⟨o,e,r⟩:=x;⟨o,k o e,r⟩
theorem ItAt.obj {b:Bool}{h:Heap}{j a:Addr}{i:Nat}(x:ItAt b h j a i):∃ o,h.get? j=some o/\∀ v,o.data≠.cell v:=by
 cases b with
 | true=>exact let ⟨o,e,_,d⟩:=x;⟨o,e,λ v z=>by rw [d] at z;cases z⟩
 | false=>exact let ⟨o,e,_,d⟩:=x;⟨o,e,λ v z=>by rw [d] at z;cases z⟩
theorem Jaw {prog:J9n}{w:J9m}{A:J9o}(b:Bool) (hh:A.handled=none) (j a:Addr) (hne:a≠j) (vs:Array J9j) :
 Draws prog w A j [j,a] vs.size (λ i v=>vs[i]? = some v) (λ i h=>ItAt b h j a i/\Jcy b h a vs):=by
 cases b with
 | false=>exact Draws.list hh j a hne vs
 | true=>exact {
  live:=λ _ _ st=>let ⟨o,ho,_⟩:=st.1;⟨o,ho⟩
  frame:=λ _ _ _ st hk=>⟨ItAt.at (b:=true) st.1 λ o e=>hk j (by first | exact mm0 | exact mm1 | exact mm2 | exact mm3 | exact mm4 | exact mm5 | simp) o e,Jcy.at (b:=true) st.2 λ o e=>hk a (by first | exact mm0 | exact mm1 | exact mm2 | exact mm3 | exact mm4 | exact mm5 | simp) o e⟩
  item:=λ i s Q E hi st hQ=>by
   have e:vs[i]? = some vs[i]:=by simp [hi]
   exact Jn7 st.1 st.2 e λ h' g' sb=>hQ _ h' s.toks e ⟨g',Jcy.at (b:=true) st.2 λ o z=>(sb.2 a hne).trans z⟩ sb
  done:=λ s Q E st hE=>Jqw hh st.1 st.2 (by first | exact mm0 | exact mm1 | exact mm2 | exact mm3 | exact mm4 | exact mm5 | simp) hE }
section
open AutoSeq1 (wpAny_loadPart')
theorem Jqx (l:Addr) (vs:Array J9j) (n:Nat) (dc:Option Addr) (sl:Array (Option J9j)) :
 Meets (Builtin.«enumerate.__new__» ⟨[.type "enumerate",.ref l],[]⟩) (λ _ R s=>s.heap.get? l=some { cls:=.type "tuple",dict:=dc,data:=.seq vs n,slots:=sl } /\
  R (.ok (.ret (.ref (s.heap.push { cls:=.type "tuple_iterator",data:=.fields #[.ref l,.int 0 0] }).objs.size)))
   { s with heap:=(s.heap.push { cls:=.type "tuple_iterator",data:=.fields #[.ref l,.int 0 0] }).push { cls:=.type "enumerate",data:=.fields #[.none,.bool false,.ref s.heap.objs.size,rawInt 0,.none,.none] } }):=
 .of_wp λ prog w A R s h=>by
  obtain ⟨hp,g,d,tk,os⟩:=s;obtain ⟨hl,h⟩:=h;have hsub:=sub_enumerate
  have hL:Heap.IsTuple (J55 ⟨hp,g,d,tk,os⟩) l vs:=⟨_,hl,rfl,n,rfl⟩
  wp_walk using J92 hl
  refine wpAny_stack_any λ st=>wpAny_pure ?_
  split
  . rename_i c _ _ _ _ _
    cases (c==U9 "enumerate")<;>(wp_walk using J92 hl,Yap hL;exact ⟨_,rfl,h⟩)
  . wp_walk using J92 hl,Yap hL
    exact ⟨_,rfl,h⟩
end
theorem Jqy {prog:J9n}{w:J9m}{A:J9o}{E:J9j->J9k->Prop}{s:J9k}(b:Bool) {l:Addr}{vs:Array J9j}{Q:J9j->J9k->Prop}(x:Jcy b s.heap l vs)
 (q:∀ h',IsEnum h' (s.heap.objs.size+1) s.heap.objs.size 0 .none->ItAt b h' s.heap.objs.size l 0->h'.objs.size=s.heap.objs.size+2 ->
  (∀ c o,s.heap.get? c=some o->h'.get? c=some o)->Q (.ref (s.heap.objs.size+1)) { s with heap:=h' }) :
 J9l (model prog w) A (call (.type "enumerate") [.ref l]) Q E s:=by
 cases b with
 | false=>exact call_enumerate_list x q
 | true=>
  obtain ⟨⟨c,dc,dt,sl⟩,hl,hc,n,hd⟩:=x
  replace hc:c = .type "tuple":=hc
  replace hd:dt = .seq vs n:=hd
  subst hc hd
  refine callType_new F.called_enumerate (by decide) (F.typeCall_enumerate_1 _) (F.newCall_enumerate_1 _) (λ obj=>F.args_object_init_2 obj _) F.entry_enumerate_new (Jqx l vs n dc sl) ⟨hl,?_⟩
  have hz:(s.heap.push { cls:=.type "tuple_iterator",data:=.fields #[.ref l,.int 0 0] }).objs.size=s.heap.objs.size+1:=Xz ..
  show _/\_
  rw [hz]
  have he:IsEnum ((s.heap.push { cls:=.type "tuple_iterator",data:=.fields #[.ref l,.int 0 0] }).push { cls:=.type "enumerate",data:=.fields #[.none,.bool false,.ref s.heap.objs.size,rawInt 0,.none,.none] }) (s.heap.objs.size+1) s.heap.objs.size 0 .none:=by
   have z:=Xe (s.heap.push { cls:=.type "tuple_iterator",data:=.fields #[.ref l,.int 0 0] }) (o:={ cls:=.type "enumerate",data:=.fields #[.none,.bool false,.ref s.heap.objs.size,rawInt 0,.none,.none] }) rfl
   rw [hz] at z;exact z
  exact ⟨⟨_,he,rfl⟩,q _ he ⟨_,Qu _ (Xe _ rfl),rfl,rfl⟩ (by rw [Xz,hz]) λ c o y=>Qu _ (Qu _ y)⟩
noncomputable def Jjf (b:Bool) (l:Addr):Obj:={ cls:=.type (match b with | true=>"tuple_iterator" | false=>"list_iterator"),data:=.fields #[.ref l,.int 0 0] }
theorem Jl0 {b:Bool}{h:Heap}{j l:Addr}(e:h.get? j=some (Jjf b l)):ItAt b h j l 0:=by
 cases b with
 | true=>exact ⟨_,e,rfl,rfl⟩
 | false=>exact ⟨_,e,rfl,rfl⟩
theorem Jdw {prog:J9n}{w:J9m}{A:J9o}{E:J9j->J9k->Prop}{s:J9k}{b:Bool}{a:Addr}{vs:Array J9j}{Q:J9j->J9k->Prop}(x:Jcy b s.heap a vs)
 (q:Q (.ref s.heap.objs.size) { s with heap:=s.heap.push (Jjf b a) }):J9l (model prog w) A (pyIter (.ref a)) Q E s:=by
 cases b with
 | true=>exact Yap x q
 | false=>exact wpAny_pyIter_list x q
noncomputable abbrev zz1 (b:Bool) (h:Heap) (l:Addr):Heap:=h.push (Jjf b l)
noncomputable abbrev zz2 (b b':Bool) (h:Heap) (l m:Addr):Heap:=(zz1 b h l).push (Jjf b' m)
noncomputable abbrev zz3 (b b':Bool) (h:Heap) (l m:Addr):Heap:=(zz2 b b' h l m).push { cls:=.type "tuple",data:=.seq #[.ref h.objs.size,.ref (zz1 b h l).objs.size] }
noncomputable abbrev zz4 (b b':Bool) (h:Heap) (l m:Addr):Heap:=(zz3 b b' h l m).push { cls:=.type "tuple",data:=.seq #[.none,.none] }
noncomputable abbrev zz5 (b b':Bool) (h:Heap) (l m:Addr):Heap:=(zz4 b b' h l m).push { cls:=.type "zip",data:=.fields #[.none,.bool false,.bool false,.ref (zz2 b b' h l m).objs.size,.ref (zz3 b b' h l m).objs.size] }
theorem Jvh (b b':Bool) (l m:Addr) (xs ys:Array J9j) :
 Meets (Builtin.«zip.__new__» ⟨[.type "zip",.ref l,.ref m],[]⟩) (λ _ R s=>Jcy b s.heap l xs/\Jcy b' s.heap m ys /\
  R (.ok (.ret (.ref (zz4 b b' s.heap l m).objs.size))) { s with heap:=zz5 b b' s.heap l m }):=
 .of_wp λ prog w A R s h=>by
  obtain ⟨hp,g,d,tk,os⟩:=s;obtain ⟨x1,x2,h⟩:=h
  have hsub:=sub_zip
  have x1':Jcy b (J55 ⟨hp,g,d,tk,os⟩) l xs:=x1
  have x2':Jcy b' (J55 ⟨hp.push (Jjf b l),g,d,tk,os⟩) m ys:=Jcy.at x2 λ o e=>Qu _ e
  wp_walk using Jdw x1',Jdw x2'
  exact ⟨_,rfl,h⟩
structure ZApart (z TI TO j1 j2:Addr) (f1 f2:List Addr):Prop where
 m1:j1∈f1
 m2:j2∈f2
 z1:z∉f1
 z2:z∉f2
 o1:TO∉f1
 o2:TO∉f2
 q1:j1∉f2
 q2:j2∉f1
 iz:TI≠z
 io:TI≠TO
 i1:TI≠j1
 i2:TI≠j2
 oz:TO≠z
theorem ZApart.j1z {z TI TO j1 j2:Addr}{f1 f2:List Addr}(D:ZApart z TI TO j1 j2 f1 f2):j1≠z:=λ e=>D.z1 (e▸D.m1)
theorem ZApart.j2z {z TI TO j1 j2:Addr}{f1 f2:List Addr}(D:ZApart z TI TO j1 j2 f1 f2):j2≠z:=λ e=>D.z2 (e▸D.m2)
theorem ZApart.j1o {z TI TO j1 j2:Addr}{f1 f2:List Addr}(D:ZApart z TI TO j1 j2 f1 f2):j1≠TO:=λ e=>D.o1 (e▸D.m1)
theorem ZApart.j2o {z TI TO j1 j2:Addr}{f1 f2:List Addr}(D:ZApart z TI TO j1 j2 f1 f2):j2≠TO:=λ e=>D.o2 (e▸D.m2)
theorem Ve {a b:Addr}{l:List Addr}(h:a∉l) (hb:b∈l):b≠a:=λ e=>h (e▸hb)
section
variable {prog:J9n}{w:J9m}{A:J9o}{E:J9j->J9k->Prop}{s:J9k}{z TI TO j1 j2:Addr}{f1 f2:List Addr}{n1 n2 i:Nat}{P1 P2:Nat->J9j->Prop}{St1 St2:Nat->Heap->Prop}{a b:J9j}
theorem Jqz {Q:J9j->J9k->Prop}(D:ZApart z TI TO j1 j2 f1 f2) (D1:Draws prog w A j1 f1 n1 P1 St1) (D2:Draws prog w A j2 f2 n2 P2 St2) (hz:J9w s.heap z TI TO .none) (hI:J9r s.heap TI (.ref j1) (.ref j2)) (hO:J9r s.heap TO a b)
 (st1:St1 i s.heap) (st2:St2 i s.heap) (l1:i<n1) (l2:i<n2)
 (q:∀ x y h' tk,P1 i x->P2 i y->J9w h' z TI TO (rawInt s.heap.objs.size)->J9r h' TO x y->St1 (i+1) h'->St2 (i+1) h'->J9r h' s.heap.objs.size x y->h'.objs.size=s.heap.objs.size+1 ->
  (∀ c o,c≠z->c≠TO->c≠j1->c≠j2->s.heap.get? c=some o->h'.get? c=some o)->Q (.ref s.heap.objs.size) { s with heap:=h',toks:=tk }) :
 J9l (model prog w) A (Builtin.«zip.__next__» ⟨[.ref z],[]⟩) (λ fin s'=>∃ v,fin = .done (.ret v)/\Q v s') E s:=by
 obtain ⟨hp,gg,dd,t0,os⟩:=s
 show J9l _ _ (field (.ref z) 2 >>= _) _ _ _;refine wpAny_bind (wpAny_field hz rfl (x:=.bool false) rfl ?_)
 show J9l _ _ (field (.ref z) 3 >>= _) _ _ _;refine wpAny_bind (wpAny_field hz rfl (x:=.ref TI) rfl ?_)
 refine wpAny_bind (wpAny_seqItems hI rfl ?_)
 show J9l _ _ (J4m (.ref z) >>= _) _ _ _;refine wpAny_bind ?_;unfold J4m
 refine wpAny_bind (wpAny_field hz rfl (x:=.none) rfl (wpAny_pure ?_));simp only [if_true];refine wpAny_bind (wpAny_rule ?_)
 refine wpAny_bind (wpAny_field hz rfl (x:=.ref TO) rfl ?_)
 refine wpAny_bind (wpAny_setField_rec hz (by first | exact mm0 | exact mm1 | exact mm2 | exact mm3 | exact mm4 | exact mm5 | simp) λ g1 z1 b1=>?_);replace z1:J9w g1 z TI TO .ellipsis:=z1;replace b1:Xw z hp g1:=b1
 refine wpAny_bind ?_;simp only [List.zipIdx_cons,List.zipIdx_nil,J5v,J56]
 refine wpAny_bind (wpAny_bind (wpAny_onRaise ?_))
 show J9l _ _ (J2p (.ref j1) >>= _) _ _ _
 refine wpAny_bind (D1.item i _ _ _ l1 (D1.frame _ _ _ st1 λ c hc o e=>b1.extBut c o (Ve D.z1 hc) e) λ x g2 t2 px s12 b2=>wpAny_pure ?_);replace b2:Xw j1 g1 g2:=b2
 have o2:J9r g2 TO a b:=b2.extBut _ _ (Qj D.j1o) (b1.extBut _ _ D.oz hO)
 refine wpAny_bind (wpAny_seqItems o2 rfl ?_)
 refine wpAny_bind (wpAny_updateSeq_pair o2 λ g3 o3 b3=>?_);replace o3:J9r g3 TO x b:=o3;replace b3:Xw TO g2 g3:=b3
 refine wpAny_bind (wpAny_letGo (wpAny_pure ?_));refine wpAny_bind (wpAny_bind (wpAny_onRaise ?_))
 show J9l _ _ (J2p (.ref j2) >>= _) _ _ _
 refine wpAny_bind (D2.item i _ _ _ l2 (D2.frame _ _ _ st2 λ c hc o e=>b3.extBut c o (Ve D.o2 hc) (b2.extBut c o (Ve D.q1 hc) (b1.extBut c o (Ve D.z2 hc) e))) λ y g4 t4 py s24 b4=>wpAny_pure ?_);replace b4:Xw j2 g3 g4:=b4
 have o4:J9r g4 TO x b:=b4.extBut _ _ (Qj D.j2o) o3
 refine wpAny_bind (wpAny_seqItems o4 rfl ?_)
 refine wpAny_bind (wpAny_updateSeq_pair o4 λ g5 o5 b5=>?_);replace o5:J9r g5 TO x y:=o5;replace b5:Xw TO g4 g5:=b5
 refine wpAny_bind (wpAny_letGo (wpAny_pure (wpAny_pure ?_)))
 refine wpAny_bind (wpAny_seqItems o5 rfl ?_);refine wpAny_bind (wpAny_newTuple ?_)
 have sz:g5.objs.size=hp.objs.size:=by rw [b5.1,b4.1,b3.1,b2.1,b1.1]
 have z5:J9w g5 z TI TO .ellipsis:=b5.extBut _ _ (Qj D.oz) (b4.extBut _ _ (Qj D.j2z) (b3.extBut _ _ (Qj D.oz) (b2.extBut _ _ (Qj D.j1z) z1)))
 have k5:∀ c o,c≠z->c≠TO->c≠j1->c≠j2->hp.get? c=some o->g5.get? c=some o:=λ c o c1 c2 c3 c4 e=>b5.extBut _ _ c2 (b4.extBut _ _ c4 (b3.extBut _ _ c2 (b2.extBut _ _ c3 (b1.extBut _ _ c1 e))))
 have s15:St1 (i+1) g5:=D1.frame _ _ _ s12 λ c hc o e=>b5.extBut c o (Ve D.o1 hc) (b4.extBut c o (Ve D.q2 hc) (b3.extBut c o (Ve D.o1 hc) e))
 have s25:St2 (i+1) g5:=D2.frame _ _ _ s24 λ c hc o e=>b5.extBut c o (Ve D.o2 hc) e
 have zl:z<g5.objs.size:=Qv z5
 show J9l _ _ (J7z (.ref z) (.ref g5.objs.size) >>= _) _ _ _;refine wpAny_bind ?_;unfold J7z
 have z6:J9w (g5.push { cls:=.type "tuple",data:=.seq #[x,y] }) z TI TO .ellipsis:=Qu _ z5
 refine wpAny_bind (wpAny_setField_rec z6 (by first | exact mm0 | exact mm1 | exact mm2 | exact mm3 | exact mm4 | exact mm5 | simp) λ g7 z7 b7=>?_);replace z7:J9w g7 z TI TO (rawInt g5.objs.size):=z7
 refine wpAny_setField_rec z7 (by first | exact mm0 | exact mm1 | exact mm2 | exact mm3 | exact mm4 | exact mm5 | simp) λ g8 z8 b8=>?_;replace z8:J9w g8 z TI TO (rawInt g5.objs.size):=z8
 have up:∀ c o,c≠z->g5.get? c=some o->g8.get? c=some o:=λ c o c1 e=>b8.extBut _ _ c1 (b7.extBut _ _ c1 (Qu _ e))
 have t8:J9r g8 g5.objs.size x y:=b8.extBut _ _ (J3l zl) (b7.extBut _ _ (J3l zl) (Xe _ rfl))
 have s8:g8.objs.size=g5.objs.size+1:=by rw [b8.1,b7.1,Xz]
 rw [sz] at z8 t8 s8
 refine wpAny_pure ⟨_,rfl,?_⟩;show Q (.ref g5.objs.size) _;rw [sz]
 exact q x y g8 t4 px py z8 (up _ _ D.oz o5) (D1.frame _ _ _ s15 λ c hc o e=>up c o (Ve D.z1 hc) e) (D2.frame _ _ _ s25 λ c hc o e=>up c o (Ve D.z2 hc) e) t8 s8 λ c o c1 c2 c3 c4 e=>up c o c1 (k5 c o c1 c2 c3 c4 e)
theorem Jsk {Q:Fin->J9k->Prop}(D:ZApart z TI TO j1 j2 f1 f2) (D1:Draws prog w A j1 f1 n1 P1 St1) (D2:Draws prog w A j2 f2 n2 P2 St2) (hz:J9w s.heap z TI TO .none) (hI:J9r s.heap TI (.ref j1) (.ref j2)) (hO:J9r s.heap TO a b)
 (st1:St1 i s.heap) (st2:St2 i s.heap) (hend:i=n1\/(i<n1/\i=n2))
 (q:∀ h' e tk,(∀ c o,c≠z->c≠TO->c≠j1->c≠j2->s.heap.get? c=some o->h'.get? c=some o)->(∃ o,h'.get? e=some o/\o.cls = .type "StopIteration")->E (.ref e) { s with heap:=h',toks:=tk }) :
 J9l (model prog w) A (Builtin.«zip.__next__» ⟨[.ref z],[]⟩) Q E s:=by
 obtain ⟨hp,gg,dd,t0,os⟩:=s
 show J9l _ _ (field (.ref z) 2 >>= _) _ _ _;refine wpAny_bind (wpAny_field hz rfl (x:=.bool false) rfl ?_)
 show J9l _ _ (field (.ref z) 3 >>= _) _ _ _;refine wpAny_bind (wpAny_field hz rfl (x:=.ref TI) rfl ?_)
 refine wpAny_bind (wpAny_seqItems hI rfl ?_)
 show J9l _ _ (J4m (.ref z) >>= _) _ _ _;refine wpAny_bind ?_;unfold J4m
 refine wpAny_bind (wpAny_field hz rfl (x:=.none) rfl (wpAny_pure ?_));simp only [if_true];refine wpAny_bind (wpAny_rule ?_)
 refine wpAny_bind (wpAny_field hz rfl (x:=.ref TO) rfl ?_)
 refine wpAny_bind (wpAny_setField_rec hz (by first | exact mm0 | exact mm1 | exact mm2 | exact mm3 | exact mm4 | exact mm5 | simp) λ g1 z1 b1=>?_);replace z1:J9w g1 z TI TO .ellipsis:=z1;replace b1:Xw z hp g1:=b1
 refine wpAny_bind ?_;simp only [List.zipIdx_cons,List.zipIdx_nil,J5v,J56]
 refine wpAny_bind (wpAny_bind (wpAny_onRaise ?_))
 show J9l _ _ (J2p (.ref j1) >>= _) _ _ _
 have s11:=D1.frame _ _ _ st1 λ c hc o e=>b1.extBut c o (Ve D.z1 hc) e
 rcases hend with he | ⟨l1,he⟩
 . subst he
   refine wpAny_bind (D1.done _ _ _ s11 λ g2 e b2 he=>?_)
   obtain ⟨oe,hoe,hce⟩:=he
   have z2:J9w g2 z TI TO .ellipsis:=b2 _ _ (Qj D.j1z) z1
   have ez:e≠z:=λ x=>by subst x;rw [z2] at hoe;cases hoe;simp at hce
   refine wpAny_setField_rec z2 (by first | exact mm0 | exact mm1 | exact mm2 | exact mm3 | exact mm4 | exact mm5 | simp) λ g3 _ b3=>?_
   exact q g3 e t0 (λ c o c1 _ c3 _ x=>b3.extBut _ _ c1 (b2 _ _ c3 (b1.extBut _ _ c1 x))) ⟨oe,b3.extBut _ _ ez hoe,hce⟩
 . subst he
   refine wpAny_bind (D1.item i _ _ _ l1 s11 λ x g2 t2 px s12 b2=>wpAny_pure ?_);replace b2:Xw j1 g1 g2:=b2
   have o2:J9r g2 TO a b:=b2.extBut _ _ (Qj D.j1o) (b1.extBut _ _ D.oz hO)
   refine wpAny_bind (wpAny_seqItems o2 rfl ?_)
   refine wpAny_bind (wpAny_updateSeq_pair o2 λ g3 o3 b3=>?_);replace b3:Xw TO g2 g3:=b3
   refine wpAny_bind (wpAny_letGo (wpAny_pure ?_));refine wpAny_bind (wpAny_bind (wpAny_onRaise ?_))
   show J9l _ _ (J2p (.ref j2) >>= _) _ _ _
   refine wpAny_bind (D2.done _ _ _ (D2.frame _ _ _ st2 λ c hc o e=>b3.extBut c o (Ve D.o2 hc) (b2.extBut c o (Ve D.q1 hc) (b1.extBut c o (Ve D.z2 hc) e))) λ g4 e b4 he=>?_)
   obtain ⟨oe,hoe,hce⟩:=he
   have z4:J9w g4 z TI TO .ellipsis:=b4 _ _ (Qj D.j2z) (b3.extBut _ _ (Qj D.oz) (b2.extBut _ _ (Qj D.j1z) z1))
   have ez:e≠z:=λ x=>by subst x;rw [z4] at hoe;cases hoe;simp at hce
   refine wpAny_setField_rec z4 (by first | exact mm0 | exact mm1 | exact mm2 | exact mm3 | exact mm4 | exact mm5 | simp) λ g5 _ b5=>?_
   exact q g5 e t2 (λ c o c1 c2 c3 c4 x=>b5.extBut _ _ c1 (b4 _ _ c4 (b3.extBut _ _ c2 (b2.extBut _ _ c3 (b1.extBut _ _ c1 x))))) ⟨oe,b5.extBut _ _ ez hoe,hce⟩
theorem Jg4 {Q:Option J9j->J9k->Prop}(D:ZApart z TI TO j1 j2 f1 f2) (D1:Draws prog w A.in1 j1 f1 n1 P1 St1) (D2:Draws prog w A.in1 j2 f2 n2 P2 St2) (hz:J9w s.heap z TI TO .none) (hI:J9r s.heap TI (.ref j1) (.ref j2)) (hO:J9r s.heap TO a b)
 (st1:St1 i s.heap) (st2:St2 i s.heap) (l1:i<n1) (l2:i<n2)
 (q:∀ x y h' tk,P1 i x->P2 i y->J9w h' z TI TO (rawInt s.heap.objs.size)->J9r h' TO x y->St1 (i+1) h'->St2 (i+1) h'->J9r h' s.heap.objs.size x y->h'.objs.size=s.heap.objs.size+1 ->
  (∀ c o,c≠z->c≠TO->c≠j1->c≠j2->s.heap.get? c=some o->h'.get? c=some o)->Q (some (.ref s.heap.objs.size)) { s with heap:=h',toks:=tk }) :
 J9l (model prog w) A (pyNext (.ref z)) Q E s:=by
 have hT:s.TypeIs (.ref z) "zip":=⟨_,hz,rfl⟩
 unfold pyNext
 exact wpAny_bind (wpAny_attempt (Yar (name:=J4k "__next__") hT J4n (wpAny_call_entry J4n hT J70
  (Jqz D D1 D2 hz hI hO st1 st2 l1 l2 λ x y h' tk a1 a2 a3 a4 a5 a6 a7 a8 a9=>wpAny_pure (q x y h' tk a1 a2 a3 a4 a5 a6 a7 a8 a9)) (J71 _))))
theorem Jik {Q:Option J9j->J9k->Prop}(D:ZApart z TI TO j1 j2 f1 f2) (D1:Draws prog w A.in1 j1 f1 n1 P1 St1) (D2:Draws prog w A.in1 j2 f2 n2 P2 St2) (hz:J9w s.heap z TI TO .none) (hI:J9r s.heap TI (.ref j1) (.ref j2)) (hO:J9r s.heap TO a b)
 (st1:St1 i s.heap) (st2:St2 i s.heap) (hend:i=n1\/(i<n1/\i=n2))
 (q:∀ h' tk,(∀ c o,c≠z->c≠TO->c≠j1->c≠j2->s.heap.get? c=some o->h'.get? c=some o)->Q none { s with heap:=h',toks:=tk }):J9l (model prog w) A (pyNext (.ref z)) Q E s:=by
 have hT:s.TypeIs (.ref z) "zip":=⟨_,hz,rfl⟩
 unfold pyNext
 refine wpAny_bind (wpAny_attempt (Yar (name:=J4k "__next__") hT J4n (wpAny_call_entry J4n hT J70 (Jsk D D1 D2 hz hI hO st1 st2 hend λ h' e tk hk he=>?_) (J71 _))))
 obtain ⟨o,ho,hc⟩:=he
 refine wpAny_bind (wpAny_isInstance (T:="StopIteration") (b:=true) ⟨o,ho,hc⟩ isSubtype_stop ?_)
 exact wpAny_pure (q _ _ hk)
end
theorem Jq0 {prog:J9n}{w:J9m}{A:J9o}{E:J9j->J9k->Prop}{s:J9k}(b b':Bool) {l m:Addr}{xs ys:Array J9j}{Q:J9j->J9k->Prop}(x1:Jcy b s.heap l xs) (x2:Jcy b' s.heap m ys)
 (q:∀ h',J9w h' (s.heap.objs.size+4) (s.heap.objs.size+2) (s.heap.objs.size+3) .none->J9r h' (s.heap.objs.size+2) (.ref s.heap.objs.size) (.ref (s.heap.objs.size+1)) ->
  J9r h' (s.heap.objs.size+3) .none .none->ItAt b h' s.heap.objs.size l 0->ItAt b' h' (s.heap.objs.size+1) m 0->h'.objs.size=s.heap.objs.size+5 ->
  (∀ c o,s.heap.get? c=some o->h'.get? c=some o)->Q (.ref (s.heap.objs.size+4)) { s with heap:=h' }) :
 J9l (model prog w) A (call (.type "zip") [.ref l,.ref m]) Q E s:=by
 refine callType_new F.called_zip (by decide) (F.typeCall_zip_2 _ _) (F.newCall_zip_2 _ _) (λ obj=>F.args_object_init_3 obj _ _) F.entry_zip_new (Jvh b b' l m xs ys) ⟨x1,x2,?_⟩
 have y1:(zz1 b s.heap l).objs.size=s.heap.objs.size+1:=Xz ..
 have y2:(zz2 b b' s.heap l m).objs.size=s.heap.objs.size+2:=by rw [Xz,y1]
 have y3:(zz3 b b' s.heap l m).objs.size=s.heap.objs.size+3:=by rw [Xz,y2]
 have y4:(zz4 b b' s.heap l m).objs.size=s.heap.objs.size+4:=by rw [Xz,y3]
 have y5:(zz5 b b' s.heap l m).objs.size=s.heap.objs.size+5:=by rw [Xz,y4]
 have fr:∀ b l,(Jjf b l).isFreed=false:=λ b l=>by cases b<;>rfl
 have g5:(zz5 b b' s.heap l m).get? (zz4 b b' s.heap l m).objs.size=some _:=Xe _ rfl
 have g4:(zz5 b b' s.heap l m).get? (zz3 b b' s.heap l m).objs.size=some _:=Qu _ (Xe _ rfl)
 have g3:(zz5 b b' s.heap l m).get? (zz2 b b' s.heap l m).objs.size=some _:=Qu _ (Qu _ (Xe _ rfl))
 have g2:(zz5 b b' s.heap l m).get? (zz1 b s.heap l).objs.size=some _:=Qu _ (Qu _ (Qu _ (Xe _ (fr b' m))))
 have g1:(zz5 b b' s.heap l m).get? s.heap.objs.size=some _:=Qu _ (Qu _ (Qu _ (Qu _ (Xe _ (fr b l)))))
 show _/\_
 rw [y2,y3,y4] at g5;rw [y1,y2] at g3;rw [y3] at g4;rw [y1] at g2;rw [y4]
 exact ⟨⟨_,g5,rfl⟩,q _ g5 g3 g4 (Jl0 g1) (Jl0 g2) y5 λ c o x=>Qu _ (Qu _ (Qu _ (Qu _ (Qu _ x))))⟩
def SqK (b:Bool) (K:Qc) (H:Hp) (a:Addr) (xs:List V):Prop:=match b with | true=>SqT K H a xs | false=>SqL K H a xs
section
variable {X:Cx}{pins:List (Addr×Obj)}{σ:St}{H:Hp}{s:J9k}{a c:Addr}{xs ys:List V}{b:Bool}{h':Heap}
theorem Inv.seqK (I:Inv X pins σ H s) (h:SqK b X.K H a xs):∃ its:List J9j,Yb xs its/\Jcy b s.heap a its.toArray/\xs.length<=sizeLine:=by
 cases b with
 | true=>exact let ⟨its,r,p,z⟩:=I.tuple h;⟨its,r,p,z⟩
 | false=>exact let ⟨its,r,p,z⟩:=I.list h;⟨its,r,p.isList,z⟩
theorem Inv.seqK_inj (I:Inv X pins σ H s) (h:SqK b X.K H a xs) (h':SqK b X.K H a ys):xs=ys:=by
 cases b with
 | true=>exact I.tuple_inj h h'
 | false=>exact I.list_inj h h'
theorem Inv.seqK_ne (I:Inv X pins σ H s) (h:SqK b X.K H a xs) (f:Jcx X pins H c):a≠c:=by
 have base:∀ o,X.K.lookup a=some o->a≠c:=λ o hk e=>by
  have e1:=I.ok.mod.kin a o hk
  rcases f.2.2.2.1 with z | z
  . exact I.ok.noex a o e1 (e▸z)
  . exact absurd (Xd (Qv e1) (Xl I.ok.bsz (e▸z))) (Xf _)
 cases b with
 | true=>
  rcases h with (q | ⟨o,q⟩) | ⟨o,_,_,hk,_⟩
  . exact Jn q f.1
  . exact Jn q f.1
  . exact base o hk
 | false=>
  rcases h with (q | ⟨o,q⟩) | ⟨o,_,_,hk,_⟩
  . exact Jn q f.1
  . exact Jn q f.1
  . exact base o hk
theorem Inv.turnedL {t':Nat}{fp:List Addr}(I:Inv X pins σ H s) (k:∀ b o,b∉fp->s.heap.get? b=some o->h'.get? b=some o) (hf:∀ b∈fp,Jcx X pins H b):Inv X pins σ H { s with heap:=h',toks:=t' }:=by
 refine I.step (g':=s.gens) (d':=s.drawn) (ch:=fp) (λ b hb=>⟨(hf b hb).2.2.2.1,(hf b hb).2.1,(hf b hb).2.2.2.2.1,(hf b hb).2.2.2.2.2⟩) (λ b o _ _ hc e _=>k b o hc e) (λ b o _ _ hc e _=>⟨o.slots,k b o hc e⟩) (λ _ _ _ _ n=>n)
  (λ b o hc e=>⟨o,k b o hc e⟩) (λ _ _ e=>e) (λ _ _ _ e=>e) (λ b ps e=>⟨#[],by rw [e];simp⟩) (λ m hm=>?_) (λ b u e=>?_) I.bare
 . obtain ⟨o,es,ep,ho,r⟩:=hm
   exact ⟨o,es,ep,k _ o (λ z=>(hf _ z).2.1 rfl) ho,r⟩
 . refine (I.hok b u e).stay (λ c v hc q=>k c v (λ z=>?_) q) (λ _ q=>q) λ _ _ q=>q
   have hn:=(hf c z).1
   rcases hc with hc | hc
   . rw [hc,e] at hn;cases hn
   . rw [hc] at hn;cases hn
theorem Inv.turnLay {t':Nat}{fp:List Addr}{p:Addr}{o:HO}(I:Inv X pins σ H s) (k:∀ b o,b∉fp->s.heap.get? b=some o->h'.get? b=some o) (hf:∀ b∈fp,Jcx X pins H b)
 (hp:s.heap.objs.size<=p) (new:Yw X.prog X.w (upd H p o) h' p o):Inv X pins σ (upd H p o) { s with heap:=h',toks:=t' }:=by
 have hn:=I.hok.fresh hp
 refine I.step (g':=s.gens) (d':=s.drawn) (ch:=fp) (λ b hb=>⟨(hf b hb).2.2.2.1,(hf b hb).2.1,(hf b hb).2.2.2.2.1,(hf b hb).2.2.2.2.2⟩) (λ b o _ _ hc e _=>k b o hc e) (λ b o _ _ hc e _=>⟨o.slots,k b o hc e⟩) (λ b ob _ e n=>?_)
  (λ b o hc e=>⟨o,k b o hc e⟩) (λ b xs e=>?_) (λ b _ _ e=>?_) (λ b ps e=>⟨#[],?_⟩) (λ m hm=>?_) (λ b u e=>?_) I.bare
 . have hbp:b≠p:=Xg (Xd (Qv e) hp);rw [Jf hbp];exact n
 . rw [Jf (Jn e hn)];exact e
 . rw [Jf (Jn e hn)];exact e
 . rw [Jf (Jn e hn)];simpa using e
 . obtain ⟨o,es,ep,ho,r⟩:=hm
   exact ⟨o,es,ep,k _ o (λ z=>(hf _ z).2.1 rfl) ho,r⟩
 . by_cases hb:b=p
   . subst hb
     rw [Jg] at e;cases e
     exact new
   . rw [Jf hb] at e
     refine (I.hok b u e).stay (λ c v hc q=>k c v (λ z=>?_) q) (λ c q=>by rw [Jf (Jn q hn)];exact q) λ c _ q=>by rw [Jf (Jn q hn)];exact q
     have hn:=(hf c z).1
     rcases hc with hc | hc
     . rw [hc,e] at hn;cases hn
     . rw [hc] at hn;cases hn
end
noncomputable def Ite (b:Bool) (K:Qc) (a:Addr):It:=
 ⟨λ i H=>∃ xs x,SqK b K H a xs/\xs[i]? = some x,λ i H v H'=>∃ p y,H p=none/\H'=upd H p (.tup [.int i,y])/\v = .ref p/\∀ xs,SqK b K H a xs->xs[i]? = some y,λ i H=>∃ xs,SqK b K H a xs/\xs.length=i⟩
noncomputable def Itz (b b':Bool) (K:Qc) (a c:Addr):It:=
 ⟨λ i H=>∃ xs ys x y,SqK b K H a xs/\SqK b' K H c ys/\xs[i]? = some x/\ys[i]? = some y,λ i H v H'=>∃ p x y,H p=none/\H'=upd H p (.tup [x,y])/\v = .ref p/\(∀ xs,SqK b K H a xs->xs[i]? = some x)/\∀ ys,SqK b' K H c ys->ys[i]? = some y,
  λ i H=>∃ xs ys,SqK b K H a xs/\SqK b' K H c ys/\min xs.length ys.length=i⟩
theorem Jq1 {P:J9n}{w:J9m}{K:Qc}{es:List Expr}{kk:Nat}{tp:Pos}(b:Bool) (a e j:Addr) (hej:e≠j):Turn P w K (.Tuple es kk tp) (Ite b K a) [e,j] e (λ i h=>(∃ old,IsEnum h e j i old)/\ItAt b h j a i) where
 mem:=by simp
 obj:=λ i h st c hc=>by
  obtain ⟨⟨old,he⟩,hj⟩:=st
  rcases Qd.mp hc with rfl | hc
  . exact ⟨_,he,λ v z=>by have z':J5g _=J3m v:=z;cases z'⟩
  . rw [Qq.mp hc];exact hj.obj
 keep:=λ i h h' st k=>by
  obtain ⟨⟨old,he⟩,hj⟩:=st
  exact ⟨⟨old,k e (by first | exact mm0 | exact mm1 | exact mm2 | exact mm3 | exact mm4 | exact mm5 | simp) _ he⟩,hj.at λ o q=>k j (by first | exact mm0 | exact mm1 | exact mm2 | exact mm3 | exact mm4 | exact mm5 | simp) o q⟩
 item:=by
  intro X hP hw hK hc i pins s σ H E I hf st hg
  subst hP hw hK
  obtain ⟨xs,x,hq,hx⟩:=hg
  obtain ⟨its,rv,p,hz⟩:=I.seqK hq
  obtain ⟨u,hu,ru⟩:=rv.get hx
  obtain ⟨⟨old,he⟩,hj⟩:=st
  have nae:=I.seqK_ne hq (hf e (by first | exact mm0 | exact mm1 | exact mm2 | exact mm3 | exact mm4 | exact mm5 | simp))
  have naj:=I.seqK_ne hq (hf j (by first | exact mm0 | exact mm1 | exact mm2 | exact mm3 | exact mm4 | exact mm5 | simp))
  have hlt:i<its.toArray.size:=by
   have:=(Qt.mp hu).1
   simpa using this
  refine wpAny_pyNext_enum_itemD (Jaw b (A:=X.A.in1) (I.ok.hd hc) j a naj its.toArray) he ⟨hj,p⟩ hlt hej (by simp;exact ⟨hej,Qj nae⟩) λ y h1 tk hP ho st1 hT hsz hk=>?_
  have ey:y=u:=by
   have hP:its.toArray[i]? = some y:=hP
   have:its[i]? = some y:=by simpa using hP
   rw [hu] at this;exact (Xi this).symm
  subst ey
  refine ⟨_,rfl,wpAny_letOwnedTupleGo_enum ho λ h2 he2 hs2=>?_⟩
  replace hs2:Xw e h1 h2:=hs2
  have hes:e<s.heap.objs.size:=Qv he
  have hjs:j<s.heap.objs.size:=by obtain ⟨o,q,_⟩:=hj.obj;exact Qv q
  have kk:∀ c o,c∉[e,j]->s.heap.get? c=some o->h2.get? c=some o:=λ c o hc q=>by
   have h1':c≠e:=λ z=>hc (by simp [z])
   exact hs2.extBut _ _ h1' (hk c o h1' (λ z=>hc (by simp [z])) q)
  refine ⟨.ref s.heap.objs.size,upd H s.heap.objs.size (.tup [.int i,x]),I.turnLay (t':=tk+1) kk hf (Ql _) ?_,rfl,⟨_,x,I.hok.fresh (Ql _),rfl,rfl,λ ys hy=>by rw [I.seqK_inj hy hq];exact hx⟩,⟨⟨y,by simpa using he2⟩,st1.1.at λ o q=>hs2.extBut _ _ (Qj hej) q⟩,λ c hc=>?_⟩
  . exact ⟨by simp [J9p],[.int i tk,y],.cons ⟨tk,rfl⟩ (.cons ru .nil),_,hs2.extBut _ _ (J3l hes) hT,rfl,0,rfl⟩
  . rw [Jf]
    . exact (hf c hc).1
    . rcases Qd.mp hc with rfl | hc
      . exact Xg hes
      . rw [Qq.mp hc];exact Xg hjs
 done:=by
  intro X hP hw hK hc i pins s σ H E I hf st hg
  subst hP hw hK
  obtain ⟨xs,hq,hx⟩:=hg
  obtain ⟨its,rv,p,hz⟩:=I.seqK hq
  obtain ⟨⟨old,he⟩,hj⟩:=st
  have naj:=I.seqK_ne hq (hf j (by first | exact mm0 | exact mm1 | exact mm2 | exact mm3 | exact mm4 | exact mm5 | simp))
  have hl:=rv.length
  have hn:its.toArray.size=i:=by simp;omega
  refine wpAny_pyNext_enum_endD (Jaw b (A:=X.A.in1) (I.ok.hd hc) j a naj its.toArray) he (by rw [hn];exact ⟨hj,p⟩) λ h1 hk=>⟨rfl,?_⟩
  exact I.turnedL (t':=s.toks) (λ c o hc q=>hk c o (λ z=>hc (by simp [z])) q) hf
 self:=λ _ _ _ _ _ st q=>by
  obtain ⟨⟨old,he⟩,_⟩:=st
  exact wpAny_pyIter_enum he q
theorem Jsl {P:J9n}{w:J9m}{K:Qc}{es:List Expr}{kk:Nat}{tp:Pos}(b b':Bool) (a c z TI TO j1 j2:Addr) (dz:[z,TI,TO,j1,j2].Nodup) :
 Turn P w K (.Tuple es kk tp) (Itz b b' K a c) [z,TI,TO,j1,j2] z (λ i h=>J9w h z TI TO .none/\J9r h TI (.ref j1) (.ref j2)/\(∃ u v,J9r h TO u v)/\ItAt b h j1 a i/\ItAt b' h j2 c i) where
 mem:=by simp
 obj:=λ i h st d hd=>by
  obtain ⟨hz,hI,⟨u,v,hO⟩,h1,h2⟩:=st
  have notup:∀ (o:Obj) {w:J9j} {vs:Array J9j} {n:Nat},o.data = .seq vs n->o.data≠.cell w:=λ o w vs n e z=>by rw [e] at z;cases z
  rcases Qd.mp hd with rfl | hd
  . exact ⟨_,hz,λ v z=>by have z':J5g _=J3m v:=z;cases z'⟩
  . rcases Qd.mp hd with rfl | hd
    . exact ⟨_,hI,λ w z=>by have z':J3u _ _=J3m w:=z;cases z'⟩
    . rcases Qd.mp hd with rfl | hd
      . exact ⟨_,hO,λ w z=>by have z':J3u _ _=J3m w:=z;cases z'⟩
      . rcases Qd.mp hd with rfl | hd
        . exact h1.obj
        . rw [Qq.mp hd];exact h2.obj
 keep:=λ i h h' st k=>by
  obtain ⟨hz,hI,⟨u,v,hO⟩,h1,h2⟩:=st
  exact ⟨k z (by first | exact mm0 | exact mm1 | exact mm2 | exact mm3 | exact mm4 | exact mm5 | simp) _ hz,k TI (by first | exact mm0 | exact mm1 | exact mm2 | exact mm3 | exact mm4 | exact mm5 | simp) _ hI,⟨u,v,k TO (by first | exact mm0 | exact mm1 | exact mm2 | exact mm3 | exact mm4 | exact mm5 | simp) _ hO⟩,h1.at λ o q=>k j1 (by first | exact mm0 | exact mm1 | exact mm2 | exact mm3 | exact mm4 | exact mm5 | simp) o q,h2.at λ o q=>k j2 (by first | exact mm0 | exact mm1 | exact mm2 | exact mm3 | exact mm4 | exact mm5 | simp) o q⟩
 item:=by
  intro X hP hw hK hc i pins s σ H E I hf st hg
  subst hP hw hK
  obtain ⟨xs,ys,x,y,hq,hq',hx,hy⟩:=hg
  obtain ⟨its,rv,p,_⟩:=I.seqK hq
  obtain ⟨its',rv',p',_⟩:=I.seqK hq'
  obtain ⟨u,hu,ru⟩:=rv.get hx
  obtain ⟨u',hu',ru'⟩:=rv'.get hy
  obtain ⟨hz,hI,⟨o1,o2,hO⟩,h1,h2⟩:=st
  have na:=λ d hd=>I.seqK_ne hq (hf d hd)
  have na':=λ d hd=>I.seqK_ne hq' (hf d hd)
  simp only [Xn,Qd,Uf,or_false,not_or] at dz
  obtain ⟨⟨d1,d2,d3,d4⟩,⟨d5,d6,d7⟩,⟨d8,d9⟩,d10,_⟩:=dz
  have hlt:i<its.toArray.size:=by have:=(Qt.mp hu).1;simpa using this
  have hlt':i<its'.toArray.size:=by have:=(Qt.mp hu').1;simpa using this
  have D:ZApart z TI TO j1 j2 [j1,a] [j2,c]:=⟨by simp,by simp,by simp;exact ⟨d3,Qj (na z (by first | exact mm0 | exact mm1 | exact mm2 | exact mm3 | exact mm4 | exact mm5 | simp))⟩,by simp;exact ⟨d4,Qj (na' z (by first | exact mm0 | exact mm1 | exact mm2 | exact mm3 | exact mm4 | exact mm5 | simp))⟩,by simp;exact ⟨d8,Qj (na TO (by first | exact mm0 | exact mm1 | exact mm2 | exact mm3 | exact mm4 | exact mm5 | simp))⟩,by simp;exact ⟨d9,Qj (na' TO (by first | exact mm0 | exact mm1 | exact mm2 | exact mm3 | exact mm4 | exact mm5 | simp))⟩,
   by simp;exact ⟨d10,Qj (na' j1 (by first | exact mm0 | exact mm1 | exact mm2 | exact mm3 | exact mm4 | exact mm5 | simp))⟩,by simp;exact ⟨Qj d10,Qj (na j2 (by first | exact mm0 | exact mm1 | exact mm2 | exact mm3 | exact mm4 | exact mm5 | simp))⟩,Qj d1,d5,d6,d7,Qj d2⟩
  refine Jg4 D (Jaw b (A:=X.A.in1) (I.ok.hd hc) j1 a (na j1 (by first | exact mm0 | exact mm1 | exact mm2 | exact mm3 | exact mm4 | exact mm5 | simp)) its.toArray) (Jaw b' (A:=X.A.in1) (I.ok.hd hc) j2 c (na' j2 (by first | exact mm0 | exact mm1 | exact mm2 | exact mm3 | exact mm4 | exact mm5 | simp)) its'.toArray) hz hI hO ⟨h1,p⟩ ⟨h2,p'⟩ hlt hlt' λ v v' g1 tk e1 e2 z1 O1 s1 s2 T1 sz1 k1=>?_
  have ev:v=u:=by
   have e1:its.toArray[i]? = some v:=e1
   have:its[i]? = some v:=by simpa using e1
   rw [hu] at this;exact (Xi this).symm
  have ev':v'=u':=by
   have e2:its'.toArray[i]? = some v':=e2
   have:its'[i]? = some v':=by simpa using e2
   rw [hu'] at this;exact (Xi this).symm
  subst ev ev'
  refine ⟨_,rfl,wpAny_letOwnedTupleGo_zip z1 λ g2 z2 b2=>?_⟩
  replace b2:Xw z g1 g2:=b2
  have hzs:z<s.heap.objs.size:=Qv hz
  have kk:∀ d o,d∉[z,TI,TO,j1,j2]->s.heap.get? d=some o->g2.get? d=some o:=λ d o hd q=>by
   have h1':d≠z:=(by first | exact mn0 hd | exact mn1 hd | exact mn2 hd | exact mn3 hd | exact mn4 hd | exact mn5 hd)
   exact b2.extBut _ _ h1' (k1 d o h1' (by first | exact mn0 hd | exact mn1 hd | exact mn2 hd | exact mn3 hd | exact mn4 hd | exact mn5 hd) (by first | exact mn0 hd | exact mn1 hd | exact mn2 hd | exact mn3 hd | exact mn4 hd | exact mn5 hd) (by first | exact mn0 hd | exact mn1 hd | exact mn2 hd | exact mn3 hd | exact mn4 hd | exact mn5 hd) q)
  refine ⟨.ref s.heap.objs.size,upd H s.heap.objs.size (.tup [x,y]),I.turnLay (t':=tk) kk hf (Ql _) ?_,rfl,⟨_,x,y,I.hok.fresh (Ql _),rfl,rfl,λ zs hy=>by rw [I.seqK_inj hy hq];exact hx,λ zs hy'=>by rw [I.seqK_inj hy' hq'];exact hy⟩,
   ⟨z2,b2.extBut _ _ (Qj d1) (k1 _ _ (Qj d1) d5 d6 d7 hI),⟨_,_,b2.extBut _ _ (Qj d2) O1⟩,s1.1.at λ o q=>b2.extBut _ _ (Qj d3) q,s2.1.at λ o q=>b2.extBut _ _ (Qj d4) q⟩,λ d hd=>?_⟩
  . exact ⟨by simp [J9p],[v,v'],.cons ru (.cons ru' .nil),_,b2.extBut _ _ (J3l hzs) T1,rfl,0,rfl⟩
  . have lt:d<s.heap.objs.size:=by
     rcases Qd.mp hd with rfl | hd
     . exact hzs
     . rcases Qd.mp hd with rfl | hd
       . exact Qv hI
       . rcases Qd.mp hd with rfl | hd
         . exact Qv hO
         . rcases Qd.mp hd with rfl | hd
           . obtain ⟨o,q,_⟩:=h1.obj;exact Qv q
           . rw [Qq.mp hd];obtain ⟨o,q,_⟩:=h2.obj;exact Qv q
    rw [Jf (Xg lt)]
    exact (hf d hd).1
 done:=by
  intro X hP hw hK hc i pins s σ H E I hf st hg
  subst hP hw hK
  obtain ⟨xs,ys,hq,hq',hm⟩:=hg
  obtain ⟨its,rv,p,_⟩:=I.seqK hq
  obtain ⟨its',rv',p',_⟩:=I.seqK hq'
  obtain ⟨hz,hI,⟨o1,o2,hO⟩,h1,h2⟩:=st
  have na:=λ d hd=>I.seqK_ne hq (hf d hd)
  have na':=λ d hd=>I.seqK_ne hq' (hf d hd)
  simp only [Xn,Qd,Uf,or_false,not_or] at dz
  obtain ⟨⟨d1,d2,d3,d4⟩,⟨d5,d6,d7⟩,⟨d8,d9⟩,d10,_⟩:=dz
  have D:ZApart z TI TO j1 j2 [j1,a] [j2,c]:=⟨by simp,by simp,by simp;exact ⟨d3,Qj (na z (by first | exact mm0 | exact mm1 | exact mm2 | exact mm3 | exact mm4 | exact mm5 | simp))⟩,by simp;exact ⟨d4,Qj (na' z (by first | exact mm0 | exact mm1 | exact mm2 | exact mm3 | exact mm4 | exact mm5 | simp))⟩,by simp;exact ⟨d8,Qj (na TO (by first | exact mm0 | exact mm1 | exact mm2 | exact mm3 | exact mm4 | exact mm5 | simp))⟩,by simp;exact ⟨d9,Qj (na' TO (by first | exact mm0 | exact mm1 | exact mm2 | exact mm3 | exact mm4 | exact mm5 | simp))⟩,
   by simp;exact ⟨d10,Qj (na' j1 (by first | exact mm0 | exact mm1 | exact mm2 | exact mm3 | exact mm4 | exact mm5 | simp))⟩,by simp;exact ⟨Qj d10,Qj (na j2 (by first | exact mm0 | exact mm1 | exact mm2 | exact mm3 | exact mm4 | exact mm5 | simp))⟩,Qj d1,d5,d6,d7,Qj d2⟩
  have hl:=rv.length
  have hl':=rv'.length
  refine Jik D (Jaw b (A:=X.A.in1) (I.ok.hd hc) j1 a (na j1 (by first | exact mm0 | exact mm1 | exact mm2 | exact mm3 | exact mm4 | exact mm5 | simp)) its.toArray) (Jaw b' (A:=X.A.in1) (I.ok.hd hc) j2 c (na' j2 (by first | exact mm0 | exact mm1 | exact mm2 | exact mm3 | exact mm4 | exact mm5 | simp)) its'.toArray) hz hI hO ⟨h1,p⟩ ⟨h2,p'⟩ (by simp;omega) λ g1 tk k1=>⟨rfl,?_⟩
  exact I.turnedL (t':=tk) (λ d o hd q=>k1 d o (by first | exact mn0 hd | exact mn1 hd | exact mn2 hd | exact mn3 hd | exact mn4 hd | exact mn5 hd) (by first | exact mn0 hd | exact mn1 hd | exact mn2 hd | exact mn3 hd | exact mn4 hd | exact mn5 hd) (by first | exact mn0 hd | exact mn1 hd | exact mn2 hd | exact mn3 hd | exact mn4 hd | exact mn5 hd) (by first | exact mn0 hd | exact mn1 hd | exact mn2 hd | exact mn3 hd | exact mn4 hd | exact mn5 hd) q) hf
 self:=λ _ _ _ _ _ st q=>wpAny_pyIter_zip st.1 q
section
variable {X:Cx}{es:List Expr}{kk:Nat}{tp:Pos}
def Jxg (K:Qc) (ta:TA):TI:=λ σ H R=>ta σ H λ vs H1=>∃ b l xs,vs=[.ref l]/\SqK b K H1 l xs/\R (Ite b K l) H1
def Jn8 (K:Qc) (ta:TA):TI:=λ σ H R=>ta σ H λ vs H1=>∃ b b' l m xs ys,vs=[.ref l,.ref m]/\SqK b K H1 l xs/\SqK b' K H1 m ys/\R (Itz b b' K l m) H1
theorem Jpp {a:Expr}{ta:TA}{p pos:Pos}(hg:Gl X "enumerate") (hm:X.mg "enumerate" = none) (ha:PA X [a] ta) (hs:starEach [a] X.env=[(false,eval a X.env)]:=by rfl):PI X (.Tuple es kk tp) (.Call (.Name "enumerate" p) [a] [] pos) (Jxg X.K ta):=by
 intro pins s σ H R I h
 refine Call_ (Bw I hg hm boot_enumerate (U0 (thn (ha pos pins s σ H _ I h) λ us s1 ⟨vs,H1,I1,r1,q1⟩=>?_) hs rfl))
 obtain ⟨b,l,xs,e,hq,q⟩:=q1
 subst e
 obtain ⟨u,rfl,ru⟩:=Jby r1
 cases ru
 obtain ⟨its,rv,p,_⟩:=I1.seqK hq
 refine Jqy b p λ h1 he hj hsz hk=>wpAny_pyIter_enum he ?_
 refine ⟨_,[s1.heap.objs.size+1,s1.heap.objs.size],_,_,H1,rfl,I1.kept (t':=s1.toks) hk,Jq1 b l _ _ (Nat.succ_ne_self _),⟨⟨_,he⟩,hj⟩,λ c hc=>?_,q⟩
 rcases Qd.mp hc with rfl | hc
 . exact I1.fpOk (J5p _) (I1.hok.fresh (J5p _))
 . rw [Qq.mp hc];exact I1.fpOk (Ql _) (I1.hok.fresh (Ql _))
theorem Jbc {a b:Expr}{ta:TA}{p pos:Pos}(hg:Gl X "zip") (hm:X.mg "zip" = none) (ha:PA X [a,b] ta) (hs:starEach [a,b] X.env=[(false,eval a X.env),(false,eval b X.env)]:=by rfl) (hs2:starEach [b] X.env=[(false,eval b X.env)]:=by rfl) :
 PI X (.Tuple es kk tp) (.Call (.Name "zip" p) [a,b] [] pos) (Jn8 X.K ta):=by
 intro pins s σ H R I h
 refine Call_ (Bw I hg hm boot_zip (U0 (thn (ha pos pins s σ H _ I h) λ us s1 ⟨vs,H1,I1,r1,q1⟩=>?_) (by rw [hs,hs2]) (by rw [hs2];rfl)))
 obtain ⟨b,b',l,m,xs,ys,e,hq,hq',q⟩:=q1
 subst e
 obtain ⟨u,u',rfl,ru,ru'⟩:=Jlq r1
 cases ru
 cases ru'
 obtain ⟨its,rv,p,_⟩:=I1.seqK hq
 obtain ⟨its',rv',p',_⟩:=I1.seqK hq'
 refine Jq0 b b' p p' λ h1 hz hI hO i1 i2 hsz hk=>wpAny_pyIter_zip hz ?_
 refine ⟨_,[s1.heap.objs.size+4,s1.heap.objs.size+2,s1.heap.objs.size+3,s1.heap.objs.size,s1.heap.objs.size+1],_,_,H1,rfl,I1.kept (t':=s1.toks) hk,Jsl b b' l m _ _ _ _ _ (by first | exact mm0 | exact mm1 | exact mm2 | exact mm3 | exact mm4 | exact mm5 | simp),⟨hz,hI,⟨_,_,hO⟩,i1,i2⟩,λ c hc=>?_,q⟩
 have hc':s1.heap.objs.size<=c:=by
  simp only [Qd,Uf,or_false] at hc
  rcases hc with rfl | rfl | rfl | rfl | rfl
  . exact J3f _ _
  . exact J3f _ _
  . exact J3f _ _
  . exact Ql _
  . exact J3f _ _
 exact I1.fpOk hc' (I1.hok.fresh hc')
end
section
variable {X:Cx}{pos:Pos}{k:Nat}
abbrev Sto (X:Cx) (i:Nat) (x:Str):Prop:=X.N[i]? = some x/\Loc X.env.scope x/\(X.fn x=true\/X.env.scope.names.lookup x=some .local)
theorem Wl {K':Qc}{i j:Nat}{x y:Str}{px py:Pos}(hc:X.calm=true) (hN:X.N.Nodup) (hx:Sto X i x) (hy:Sto X j y) (hK:X.K=K'):PG X (.Tuple [.Name x px,.Name y py] k pos) (Jrt K' 2 (gCons (V2 i) (gCons (V2 j) gNil))):=
 hK▸Jnl hc (Vc (Jv hN hx.1 hx.2.1 hx.2.2) (Vc (Jv hN hy.1 hy.2.1 hy.2.2) Jgb))
theorem Bp {K':Qc}{i j m:Nat}{x y z:Str}{px py pz:Pos}(hc:X.calm=true) (hN:X.N.Nodup) (hx:Sto X i x) (hy:Sto X j y) (hz:Sto X m z) (hK:X.K=K'):PG X (.Tuple [.Name x px,.Name y py,.Name z pz] k pos) (Jrt K' 3 (gCons (V2 i) (gCons (V2 j) (gCons (V2 m) gNil)))):=
 hK▸Jnl hc (Vc (Jv hN hx.1 hx.2.1 hx.2.2) (Vc (Jv hN hy.1 hy.2.1 hy.2.2) (Vc (Jv hN hz.1 hz.2.1 hz.2.2) Jgb)))
end
end L2
namespace My
open L2
noncomputable def Jh (ws:List Way) (k:Int):Way:=ws.getD k.toNat ⟨0,0,[]⟩
structure BkAt (ex:List Addr) (H:Hp) (R U:Int) (ws:List Way) (bv:V) (ba wa:Addr) (vs:List V):Prop where
 e:bv = .ref ba
 b:H ba=some (.tup [.int R,.int U,.ref wa])
 w:H wa=some (.tup vs)
 r:Reps ex H (ws.map Y8) vs
 nb:ba∉ex
 nw:wa∉ex
 z:vs.length<=sizeLine
theorem Jsm {ex:List Addr}{H:Hp}{R U:Int}{ws:List Way}{bv:V}(r:Rep ex H (J7 R U ws) bv):∃ ba wa vs,BkAt ex H R U ws bv ba wa vs:=by
 obtain ⟨ba,x,y,z,rfl,hb,nb,r1,r2,r3⟩:=Jsi r
 obtain ⟨wa,vs,rfl,hw,nw,hz,rs⟩:=Jpk r3
 rw [Jpm r1,Jpm r2] at hb
 exact ⟨ba,wa,vs,rfl,hb,hw,rs,nb,nw,hz⟩
theorem BkAt.len {ex:List Addr}{H:Hp}{R U:Int}{ws:List Way}{bv:V}{ba wa:Addr}{vs:List V}(B:BkAt ex H R U ws bv ba wa vs):vs.length=ws.length:=by
 rw [<- B.r.length,Qb]
theorem at_map (ns:List Int) {i:Int}(h0:0<=i) (h1:i<ns.length):∃ n∈ns,atI (ns.map V.int) i=some (V.int n):=by
 obtain ⟨n,e,h⟩:=J0f (P:=λ n=>n∈ns) ns (λ _ h=>h) h0 h1
 exact ⟨n,h,e⟩
theorem range_getD {α β:Type}(f:α->β) (xs:List α) (dflt:α):((Qn xs.length).map λ i=>f (xs.getD i dflt))=xs.map f:=by
 refine List.ext_getElem (by simp) λ i h1 h2=>?_
 have hi:i<xs.length:=by simpa using h1
 simp [Qi,Qf hi]
theorem at0 (x y z:V):atI [x,y,z] 0=some x:=Jj0 (j:=0) rfl
end My
namespace L2
section
variable {X:Cx}{K':Qc}
theorem Z8 (hK:X.K=K'):IxR X (Jyk K'):=hK▸Jz
theorem Jb4 (hK:X.K=K'):IxR X (Jlt K'):=hK▸Jr
end
section
variable {X:Cx}{e st:Expr}{te:TE}{ts:TO}{pos p2:Pos}
end
theorem Jcp {X:Cx}:OpR X (binaryOp .Mult) (rI IntMulOk λ i j=>.int (i*j)):=opI λ _ _ _ _ _ _ _ hc q=>mul_int q hc
theorem Jbd {X:Cx}{pos:Pos}{i:Nat}{x:Str}{e:Expr}{te:TE}{pos':Pos}(hN:X.N.Nodup) (hi:X.N[i]? = some x) (hx:Loc X.env.scope x) (he:PEs X e te) (hs:Yad e (some (.Name x pos')) pos.line X.env=pure false:=by rfl) (hf:X.fn x=true\/X.env.scope.names.lookup x=some .local := by first | exact .inl rfl | exact .inr rfl | assumption):PS X (.Assign [.Name x pos'] e pos) (Jc5 te (V2 i)):=J0 hN hi hx he.out hs hf
end L2
namespace My
open L2
end My
namespace L2
section
variable {X:Cx}
theorem Jjg (hc:X.calm=true):Bj X (.builtin "min") (λ xs H Q=>∃ (p:Addr) (ns:List Int),xs=[.ref p]/\SqL X.K H p (ns.map V.int)/\ns≠[]/\∀ m∈ns,(∀ n∈ns,m<=n)->Q (.int m) H):=by
 intro pins s σ H xs us Q I r h
 obtain ⟨p,ns,rfl,hq,hne,q⟩:=h
 obtain ⟨u,rfl,ru⟩:=Jby r
 cases ru
 obtain ⟨its,rv,pl,hz⟩:=I.list hq
 have hl:=pl.isList
 have hi:=Jnz rv
 obtain ⟨xs,e⟩:=hi.allInts.items
 have h1:=hi.numsOf
 have h2:numsOf its.toArray.toList=(xs.toList.map (·.1)):=by rw [e,nums_intItems]
 have h2':(xs.toList.map (·.1))=ns:=by rw [<- h2];simpa using h1
 have hlen:xs.size=ns.length:=by rw [<- h2'];simp
 have hpos:0<ns.length:=J57.mpr hne
 rw [e] at hl
 refine min_intList (I.ok.hd hc) hl (by omega) λ v h' tk hv hk=>?_
 obtain ⟨b1,b2⟩:=argBest_lt (numAt xs) (xs.size-1)
 generalize argBest (λ i j=>decide (numAt xs i<numAt xs j)) (xs.size-1)=m at hv b1 b2
 obtain ⟨t,rfl⟩:=intItems_at hv
 have num:∀ i (hi:i<ns.length),numAt xs i=ns[i]:=λ i hi=>by
  have hix:i<xs.size:=by omega
  have e1:numAt xs i=xs[i].1:=by unfold numAt;rw [Array.getElem?_eq_getElem hix];rfl
  rw [e1]
  have e2:(xs.toList.map (·.1))[i]'(by simpa using hix)=xs[i].1:=by simp
  rw [<- e2]
  congr 1
 refine ⟨.int (numAt xs m),H,I.kept (t':=tk) hk,⟨t,rfl⟩,q _ ?_ λ n hn=>?_⟩
 . rw [num m (by omega)];exact Xp _
 . obtain ⟨i,hi,rfl⟩:=J7q.mp hn
   rw [<- num i hi]
   exact b2 i (by omega)
end
end L2
namespace My
open L2
end My
namespace L2
section
variable {prog:J9n}{w:J9m}{A:J9o}{E:J9j->J9k->Prop}{s:J9k}{z TI TO j1 j2 j3:Addr}{f1 f2 f3:List Addr}{n1 n2 n3 i:Nat}{P1 P2 P3:Nat->J9j->Prop}{St1 St2 St3:Nat->Heap->Prop}{a b c:J9j}
end
section
variable {X:Cx}{es:List Expr}{kk:Nat}{tp:Pos}
end
end L2
namespace My
open L2
end My
namespace L2
section
variable {X:Cx}
end
end L2
namespace My
open L2
noncomputable def Jil (xs:List J9i) (lo hi:Option Int):List J9i:=(xs.drop (HT.sIx xs.length 0 lo)).take (HT.sIx xs.length xs.length hi-HT.sIx xs.length 0 lo)
theorem Jjh (xs:List J9i) (k:Nat):Jil xs none (some (k:Int))=xs.take k:=by
 unfold Jil
 rw [HT.sIx_none,HT.sIx_nat,J72,Nat.sub_zero]
 rcases J58 k xs.length with h | h
 . rw [J59 h]
 . rw [J73 h,J6a (Ql _),J6a h]
theorem Je1 (xs:List J9i) (k:Nat):Jil xs (some (k:Int)) none=xs.drop k:=by
 unfold Jil
 rw [HT.sIx_none,HT.sIx_nat]
 rcases J58 k xs.length with h | h
 . rw [J59 h,J6a (by rw [J3q];omega)]
 . rw [J73 h,J74 (Ql _),J74 h];simp
theorem Vr (o:Expr) (k:Const) (j:Nat) (p pos:Pos) (env:Env) (v:J9j):assign (.Subscript o (.Constant k j p) pos) env v=(do
 let ov <- holding [v] (eval o env)
 let iv <- holding [v,ov] (eval (.Constant k j p) env)
 J90 pos
 holding [v,ov,iv] (setItem ov iv v)
 release [v,ov,iv] []):=B0 _ _ _ _ _
structure Tape (H:Hp) (p c:Addr) (n:Nat):Prop where
 ex:∃ (ns:List Int) (k g:Int),H p=some (.lst [.ref c,.int k,.int g])/\H c=some (.lst (ns.map V.int))/\ns.length<=63/\0<=k/\k<=n
theorem Tape.ne {H:Hp}{p c:Addr}{n:Nat}(J:Tape H p c n):p≠c:=by
 obtain ⟨ns,k,g,h1,h2,_⟩:=J.ex
 rintro rfl
 rw [h1] at h2
 cases ns with
 | nil=>cases h2
 | cons a r=>cases h2
theorem Tape.fresh {H:Hp}{p c l:Addr}{n:Nat}(J:Tape H p c n) (h:H l=none):l∉[p,c]:=by
 obtain ⟨ns,k,g,h1,h2,_⟩:=J.ex
 intro z
 rcases Qd.mp z with rfl | z
 . rw [h] at h1;cases h1
 . cases Qq.mp z;rw [h] at h2;cases h2
def Jj8 (K:Qc):Sp:=λ vs H Q _=>∃ (a:Addr) (ns:List Int),vs=[.ref a]/\SqL K H a (ns.map V.int)/\ns.length<=63/\∀ p c H',Kp [] H H'->H p=none->H c=none->Tape H' p c 0->Q (.ref p) H'
def Jn9:Sp:=λ vs H Q _=>∃ (p c:Addr) (n:Nat) (many:Int),vs=[.ref p,.int many]/\Tape H p c n/\n<2^40/\0<many/\many<2^9000/\∀ (r:Int) (H':Hp),0<=r->r<many->Tape H' p c (n+1)->Kp [p,c] H H'->Q (.int r) H'
theorem Kp.late {ex:List Addr}{H1 H2:Hp}{a:Addr}(k:Kp ex H1 H2) (h:H1 a=none) (o:HO):Kp ex H1 (upd H2 a o):=λ b v e n=>by
 rw [Jf (Jn e h)];exact k b v e n
theorem Jg5 {n:Nat}{i:Int}(h0:0<=i) (h1:i<n):ixN n i=some i.toNat:=by
 unfold ixN
 rw [if_pos h0,if_pos (by omega)]
def Jsn (K:Qc) (n:Nat) (t:TGs):TG:=λ v σ H Q=>∃ a xs,v = .ref a/\SqL K H a xs/\xs.length=n/\t xs σ H Q
section
variable {X:Cx}{pos:Pos}{k:Nat}
theorem Jvi {es:List Expr}{t:TGs}{n:Nat}(hc:X.calm=true) (h:PGs X es t)
 (hn:(assignEach es X.env).length=n:=by rfl) (hst:(assignEach es X.env).findIdx? (·.1)=none:=by rfl):PG X (.Tuple es k pos) (Jsn X.K n t):=by
 intro pins s σ H v u Q I r hw
 obtain ⟨a,xs,e1,hq,hl,hw⟩:=hw
 subst e1
 cases r
 obtain ⟨its,rv,pl,hz⟩:=I.list hq
 rw [assign_Tuple]
 refine wpAny_bind (wpAny_standAt ?_)
 unfold unpack
 have hsz:(assignEach es X.env).length=its.toArray.size:=by simp [hn,<- hl,rv.length]
 rw [hsz,hst]
 refine wpAny_bind (wpAny_holding (PySem.W.kun_itemsOf (I.ok.hd hc) pl.isList λ h' hx=>?_))
 have I1:Inv X pins σ H { s with heap:=h' }:=I.kept (t':=s.toks) λ b o e=>hx b o (Xg (Qv e)) e
 exact h pins _ σ H xs _ Q I1 (by simpa using rv) hw
theorem Jso {K':Qc}{i j:Nat}{x y:Str}{px py:Pos}(hc:X.calm=true) (hN:X.N.Nodup) (hx:Sto X i x) (hy:Sto X j y) (hK:X.K=K'):PG X (.Tuple [.Name x px,.Name y py] k pos) (Jsn K' 2 (gCons (V2 i) (gCons (V2 j) gNil))):=
 hK▸Jvi hc (Vc (Jv hN hx.1 hx.2.1 hx.2.2) (Vc (Jv hN hy.1 hy.2.1 hy.2.2) Jgb))
end
end My
namespace L2
noncomputable def Joa (n:Nat):List V:=(Qn n).map λ (i:Nat)=>V.int (i:Int)
def tLR (ta:TA):TE:=λ σ H Q=>ta σ H λ vs H1=>∃ j:Int,vs=[.int j]/\0<=j/\j<=1000000/\∀ l,H1 l=none->Q (.ref l) (upd H1 l (.lst (Joa j.toNat)))
theorem Jsp:∀ (n:Nat) (us:List J9j),us.length=n->(∀ (k:Nat) (u:J9j),us[k]? = some u->∃ t,u=Us ((k:Nat):Int) t)->Yb (Joa n) us:=by
 intro n
 induction n with
 | zero=>intro us h _;rw [J6b.mp h];exact .nil
 | succ n ih=>
  intro us h hk
  have hne:us≠[]:=λ e=>by rw [e] at h;cases h
  obtain ⟨l,x,rfl⟩:∃ l x,us=l++[x]:=⟨us.dropLast,us.getLast hne,(J75 hne).symm⟩
  have hl:l.length=n:=by simpa using h
  have e:Joa (n+1)=Joa n++[V.int n]:=by unfold Joa;rw [J2y,Q1];rfl
  rw [e]
  obtain ⟨t,et⟩:=hk n x (by rw [<- hl];simp)
  subst et
  exact (ih l hl λ k u hu=>hk k u (by rw [Up (by exact (Qt.mp hu).1)];exact hu)).append (.cons ⟨t,rfl⟩ .nil)
section
variable {X:Cx}
theorem Jj9 {a:Expr}{ta:TA}{p1 p2 pos1 pos2:Pos}(hc:X.calm=true) (hg1:Gl X "list") (hm1:X.mg "list" = none) (hg2:Gl X "range") (hm2:X.mg "range" = none) (ha:PA X [a] ta) (hs:starEach [a] X.env=[(false,eval a X.env)]:=by rfl)
 (hs1:starEach [.Call (.Name "range" p2) [a] [] pos2] X.env=[(false,eval (.Call (.Name "range" p2) [a] [] pos2) X.env)]:=by rfl):PE X (.Call (.Name "list" p1) [.Call (.Name "range" p2) [a] [] pos2] [] pos1) (tLR ta):=by
 intro pins s σ H Q I h
 refine J98 (Bw I hg1 hm1 J93 ?_)
 refine U0 ?_ hs1 rfl
 rw [hs1]
 show J9l _ _ (spliced ((false,eval (.Call (.Name "range" p2) [a] [] pos2) X.env)::[])) _ _ s
 refine J29 ?_
 refine Call_ (Bw I hg2 hm2 boot_range (U0 (thn (ha pos2 pins s σ H _ I h) λ us s1 ⟨vs,H1,I1,r1,q1⟩=>?_) hs rfl))
 obtain ⟨j,e,b1,b2,q⟩:=q1
 subst e
 cases r1 with
 | cons r rr=>
  cases rr
  obtain ⟨t,rfl⟩:=r
  refine call_range_1 (J3o ?_)
  have I2:Inv X pins σ H1 { s1 with heap:=s1.heap.push { cls:=.type "range",data:=.fields #[.int 0 s1.toks,.int j t,.int 1 (s1.toks+1)] },toks:=s1.toks+1+1 }:=I1.kept λ b o e=>Qu _ e
  have hs:=J9p
  refine call_list_range (n:=j.toNat) (I2.ok.hd hc) (J5i ..) (small_one (by omega) (by omega) (by omega) (by omega)) (by rw [Yat];split<;>omega) (by omega) λ h' tk acc' c' hk hS' hacc=>?_
  refine ⟨.ref _,_,I2.laid (t':=tk) hk (Ql _) (show Yw X.prog X.w _ h' _ (.lst (Joa j.toNat)) from ⟨by unfold Joa;simp;omega,acc'.toList,c',Jsp _ _ (by simp [hacc.1]) (λ k u hu=>?_),by simpa using hS'⟩),rfl,q _ (I2.hok.fresh (Ql _))⟩
  obtain ⟨t,et⟩:=hacc.2 k u (by simpa using hu)
  exact ⟨t,by rw [et];simp⟩
end
end L2
namespace My
open L2
noncomputable def Job (xs ys:List Int) (n:Nat):Int:=((Qn n).map λ i=>xs.getD i 0*ys.getD i 0).sum
theorem Jq2 (xs ys:List Int) (n:Nat):Job xs ys (n+1)=Job xs ys n+xs.getD n 0*ys.getD n 0:=by
 unfold Job
 rw [J2y,Q1,J4o]
 simp
noncomputable def Jaf (ws:List Way) (wts hts:List Int) (k:Int):Int:=hts.getD (Jh ws k).a.toNat 0-hts.getD (Jh ws k).b.toNat 0-Job wts (Jh ws k).g wts.length
theorem Jvj {X:Cx}{es:List Expr}{kk:Nat}{tp:Pos}{K':Qc}{a b:Expr}{ta:TA}{p pos:Pos}(hK:X.K=K') (hg:Gl X "zip") (hm:X.mg "zip" = none) (ha:PA X [a,b] ta) (hs:starEach [a,b] X.env=[(false,eval a X.env),(false,eval b X.env)]:=by rfl) (hs2:starEach [b] X.env=[(false,eval b X.env)]:=by rfl) :
 PI X (.Tuple es kk tp) (.Call (.Name "zip" p) [a,b] [] pos) (Jn8 K' ta):=hK▸Jbc hg hm ha hs hs2
section
variable {p c sl:Addr}{R U:Int}{ws:List Way}{bv:V}{sums:List (List Int×List Int)}{svs:List V}{H H':Hp}{n m:Nat}
end
end My
namespace L2
section
variable {P:J9n}{w:J9m}{H H':Hp}{h h':Heap}{a:Addr}{o:HO}
end
structure Fly (P:J9n) (w:J9m) (outer:List Env) (H:Hp) (s:J9k) (H':Hp) (ea:Addr) (cls:J9j) (s':J9k):Prop where
 os:s'.os=s.os
 bare:J9z s'.gens
 un:Un (frs outer) [] H H' s.heap s'.heap
 hok:HOk P w H' s'.heap
 fl:∃ (B:Heap) (t:Addr),(∀ b o,s'.heap.get? b=some o->((H' b).isSome=true\/∃ o₀,s.heap.get? b=some o₀)->b∉frs outer->B.get? b=some o)/\Heap.FlyingW B outer ea cls (.ref t) s'.heap
section
variable {X:Cx}{pins:List (Addr×Obj)}{σ:St}{H H':Hp}{s s':J9k}
end
section
variable {P:J9n}{w:J9m}{K:Qc}{mg:Str->Option J9j}{base:Heap}{N:List Str}{qual:Str}{scope:J9q}{f:Addr}{cd:J9j}{A:J9o}{outer:List Env}{s₀:J9k}{H₀:Hp}{E:XK}
end
open PySem.W Builtin Builtin.ObjectAttr Builtin.Getset_descriptor
section
variable {prog:J9n}{w:J9m}{A:J9o}{E:J9j->J9k->Prop}{s:J9k}{K:Qc}{x D:Addr}{R:J94->J9k->Prop}
end
section
variable {P:J9n}{w:J9m}{K:Qc}{mg:Str->Option J9j}{base:Heap}{N:List Str}{qual:Str}{scope:J9q}{f:Addr}{cd:J9j}{A:J9o}{outer:List Env}{s₀:J9k}{H₀:Hp}{E:XK}
 {x:Str} {C:Addr} {e:Expr} {es:List Expr} {np cpos pos:Pos} {t:TA}
end
section
variable {P:J9n}{w:J9m}{K:Qc}{mg:Str->Option J9j}{base:Heap}
end
section
variable {X:Cx}{x:Str}{e:Expr}{es:List Expr}{p pos:Pos}{t:TA}{k:Nat}{ps:List Str}{sp:Sp}{E:XK}
end
noncomputable abbrev XW:=St->J9j->Hp->Prop
noncomputable def XP (X:Cx) (pins:List (Addr×Obj)) (W:XW) (e:J9j) (s':J9k):Prop:=∃ ea cls σ' H H' s,e = .ref ea/\Inv X pins σ' H s/\Fly X.prog X.w X.stack H s H' ea cls s'/\W σ' cls H'
noncomputable abbrev TSX:=Ends->XW->St->Hp->Prop
section
variable {X:Cx}{x y:Str}{e:Expr}{es:List Expr}{p p' pos apos:Pos}{t:TA}{k:Nat}{ps:List Str}{sp:Sp}
end
section
variable {X:Cx}{pins:List (Addr×Obj)}{σ σ0:St}{H H0:Hp}{s s0:J9k}{B h':Heap}
end
section
variable {X:Cx}{body:List Stmt}{tb:TSX}{ts:TS}{b₀:Stmt}{suite:List Stmt}{c n:Str}{C:Addr}{i:Nat}{np hpos pos:Pos}
end
open PySem.SeqAt
section
variable {P:J9n}{w:J9m}{K:Qc}{mg:Str->Option J9j}{base:Heap}
end
section
variable {X:Cx}{x:Str}{e:Expr}{es:List Expr}{p pos:Pos}{t:TA}{k:Nat}{ps:List Str}{sp:Sp}
end
structure Er where
 fall:Addr
 way:Addr
 round:Addr
 ring:Addr
 purse:Addr
 end_:Addr
 stand:Addr
 many:Addr
 line:Addr
 row:Addr
section
variable {K:Qc}{mg:Str->Option J9j}{z:Er}
end
section
variable {X:Cx}{v:Expr}{te:TE}{a b:Str}{ja jb:Nat}{pa pb pf pos:Pos}
theorem Jag {o:Expr}{n:Str}{es:List Expr}{t:TA}(ha:PE X (.Attribute o n pos) te) (hr:PA X es t):PA X (.Attribute o n pos::es) (Ye te t):=Vd ha hr rfl
end
section
variable {X:Cx}{x:Str}{e:Expr}{es:List Expr}{p pos apos:Pos}{t:TA}{k:Nat}{ps:List Str}{sp:Sp}
variable {body:List Stmt}{tb:TSX}{ts:TS}{b₀:Stmt}{suite:List Stmt}{c:Str}{C:Addr}{np hpos:Pos}
end
end L2
namespace My
open L2
theorem Jl1 {α:Type}{xs:List α}{j:Nat}{v:α}(h:atI xs (j:Int)=some v):xs[j]? = some v:=by
 cases e:xs[j]? with
 | some u=>
  rw [Jj0 e] at h
  exact h
 | none=>
  have hl:xs.length<=j:=List.getElem?_eq_none_iff.mp e
  unfold atI ixN at h
  rw [if_pos (by omega),if_neg (by omega)] at h
  cases h
end My
namespace HT
section
variable {prog:J9n}{w:J9m}{A:J9o}{E:J9j->J9k->Prop}{s:J9k}
end
end HT
namespace L2
end L2
namespace My
open L2
theorem sIx_none (n d:Nat):HT.sIx n d none=d:=rfl
end My
namespace L2
end L2
namespace My
open L2
section
variable {p c wl:Addr}{R U:Int}{ws:List Way}{bv fv hv:V}{r:Int}{xs:List Int}{Hs H H':Hp}{ns:List Int}
end
end My
namespace L2
section
variable {prog:J9n}{w:J9m}{A:J9o}{E:J9j->J9k->Prop}{s:J9k}{l:Addr}{xs:Array (Int×Tok)}
end
section
variable {X:Cx}
end
end L2
namespace My
open L2
theorem nodup_le:∀ (n:Nat) (l:List Nat),l.Nodup->(∀ x∈l,x<n)->l.length<=n:=by
 intro n
 induction n with
 | zero=>
  intro l _ h
  cases l with
  | nil=>exact Ql _
  | cons a l=>exact absurd (h a Qg) (J3g _)
 | succ n ih=>
  intro l nd h
  by_cases hm:n∈l
  . have e:=ih (l.erase n) (nd.erase n) λ x hx=>by
     have hx':=(List.Nodup.mem_erase_iff nd).mp hx
     have:=h x hx'.2
     omega
    rw [List.length_erase_of_mem hm] at e
    omega
  . have:=ih l nd λ x hx=>by
     have:=h x hx
     have:x≠n:=λ z=>hm (z▸hx)
     omega
    omega
end My
namespace L2
section
variable {X:Cx}
end
end L2
namespace My
open L2
noncomputable def Wq (ws:List Way) (cs:List Int):Nat->Int->Int
 | 0,_=>0
 | i+1,r=>Wq ws cs i r-(if (Jh ws (i:Nat)).a=r then cs.getD i 0 else 0)+(if (Jh ws (i:Nat)).b=r then cs.getD i 0 else 0)
theorem B2 {n:Nat}{k:Int}(h0:0<=k) (h1:k<n):ixN n k=some k.toNat:=by
 unfold ixN;rw [if_pos h0,if_pos h1]
inductive Rt (es:List (Nat×Nat)):Nat->Nat->Prop
 | refl (a:Nat):Rt es a a
 | step {a b c:Nat}:Rt es a b->(b,c)∈es->Rt es a c
theorem Rt.trans {es:List (Nat×Nat)}{a b c:Nat}(h:Rt es a b) (g:Rt es b c):Rt es a c:=by
 induction g with
 | refl=>exact h
 | step _ e ih=>exact ih.step e
noncomputable def Pw (es:List (Nat×Nat)):Nat->Nat->Nat->Bool
 | 0,a,b=>decide (a=b)||decide ((a,b)∈es)
 | m+1,a,b=>Pw es m a b||(Pw es m a m&&Pw es m m b)
theorem Pw.mono {es:List (Nat×Nat)}{m a b:Nat}(h:Pw es m a b=true):Pw es (m+1) a b=true:=by
 rw [Pw,h];rfl
theorem Pw.zero {es:List (Nat×Nat)}{a b:Nat}(h:Pw es 0 a b=true):∀ m,Pw es m a b=true
 | 0=>h
 | m+1=>Pw.mono (Pw.zero h m)
theorem Pw.cut {es:List (Nat×Nat)}{m a b:Nat}(h:Pw es (m+1) a b=true):Pw es m a b=true\/(Pw es m a m=true/\Pw es m m b=true):=by
 rw [Pw,J6c,Uc] at h;exact h
theorem Pw.via {es:List (Nat×Nat)}{m a b:Nat}(h:Pw es m a m=true) (g:Pw es m m b=true):Pw es (m+1) a b=true:=by
 rw [Pw,h,g,Bool.and_self,J76]
theorem Pw.trans {es:List (Nat×Nat)}:∀ {m a b k:Nat},k<m->Pw es m a k=true->Pw es m k b=true->Pw es m a b=true
 | 0,_,_,_,h,_,_=>absurd h (J3g _)
 | m+1,a,b,k,hk,h,g=>by
  by_cases e:k=m
  . subst e
    have h':Pw es k a k=true:=by rcases (Pw.cut h) with h | h;exact h;exact h.1
    have g':Pw es k k b=true:=by rcases (Pw.cut g) with g | g;exact g;exact g.2
    exact Pw.via h' g'
  . have hk':k<m:=by omega
    rcases (Pw.cut h) with h | ⟨h1,h2⟩
    . rcases (Pw.cut g) with g | ⟨g1,g2⟩
      . exact Pw.mono (Pw.trans hk' h g)
      . exact Pw.via (Pw.trans hk' h g1) g2
    . rcases (Pw.cut g) with g | ⟨g1,g2⟩
      . exact Pw.via h1 (Pw.trans hk' h2 g)
      . exact Pw.via h1 g2
theorem Pw.rt {es:List (Nat×Nat)}:∀ {m a b:Nat},Pw es m a b=true->Rt es a b
 | 0,a,b,h=>by
  rw [Pw,J6c] at h
  rcases h with h | h
  . obtain rfl:=of_decide_eq_true h;exact .refl a
  . exact .step (.refl a) (of_decide_eq_true h)
 | m+1,a,b,h=>by
  rcases (Pw.cut h) with h | ⟨h,g⟩
  . exact Pw.rt h
  . exact (Pw.rt h).trans (Pw.rt g)
theorem Rt.pw {es:List (Nat×Nat)}{R a b:Nat}(hr:∀ e∈es,e.1<R/\e.2<R) (h:Rt es a b):Pw es R a b=true:=by
 induction h with
 | refl=>exact Pw.zero (by rw [Pw];simp) R
 | step _ e ih=>exact Pw.trans (hr _ e).1 ih (Pw.zero (by rw [Pw];simp [e]) R)
theorem Je2 {es:List (Nat×Nat)}{R a b:Nat}(hr:∀ e∈es,e.1<R/\e.2<R):Pw es R a b=true↔Rt es a b:=⟨Pw.rt,Rt.pw hr⟩
end My
namespace L2
section
variable {M:Model}{A:J9o}{E:J9j->J9k->Prop}{s:J9k}
theorem Jka {scope:J9q}{globals:Addr}{closure:List (Str×Addr)}{qual:Str}{func:Option Addr}{code:J9j}{outer:Env}{builtins:Addr}{Q:Env->J9k->Prop}
 (hQ:Q (newEnv scope s.heap.objs.size globals (cellsFrom (s.heap.objs.size+1) scope.names closure) qual func code (some outer) builtins) { s with heap:=pushCells (s.heap.push { cls:=.type "dict",data:=.dict #[] }) scope.names }) :
 J9l M A (newFunctionEnv scope globals closure [] qual func code (some outer) builtins) Q E s:=by
 simp only [newFunctionEnv,Option.isSome_some,if_true]
 refine wpAny_bind (wpAny_alloc ?_)
 refine wpAny_bind (wpAny_layCells _ (λ name kind cells=>by cases hkc:kind==Uw<;>simp [hkc]) _ _ _ _ ?_)
 rw [show ({ s with heap:=s.heap.push { cls:=.type "dict",data:=.dict #[] } }:J9k).heap.objs.size=s.heap.objs.size+1 from Xz ..]
 refine wpAny_bind ?_
 rw [J56]
 exact wpAny_pure (wpAny_pure hQ)
end
theorem Jan:∀ (names:List (Str×J9s)) (n:Nat) (acc:List (Str×Addr)) (x:Str) (c:Addr),(x,c)∈cellsFrom n names acc->(x,c)∈acc\/(n<=c/\(x,Uw)∈names)
 | [],n,acc,x,c,h=>.inl h
 | (name,kind)::r,n,acc,x,c,h=>by
  unfold cellsFrom at h
  split at h
  . rename_i hk
    have hk:kind = .cell:=by simpa using hk
    subst hk
    rcases Jan r (n+1) _ x c h with h | ⟨h1,h2⟩
    . rcases Qd.mp h with e | h
      . cases e;exact .inr ⟨Ql _,Qg⟩
      . exact .inl h
    . exact .inr ⟨by omega,Qh _ h2⟩
  . rcases Jan r n acc x c h with h | ⟨h1,h2⟩
    . exact .inl h
    . exact .inr ⟨h1,Qh _ h2⟩
theorem Bb:∀ (names:List (Str×J9s)) (n:Nat) (acc:List (Str×Addr)),(∀ p∈acc,p.2<n)->∀ x y c,(x,c)∈cellsFrom n names acc->(y,c)∈cellsFrom n names acc->(∀ x y c,(x,c)∈acc->(y,c)∈acc->x=y)->x=y
 | [],n,acc,_,x,y,c,h,g,inj=>inj x y c h g
 | (name,kind)::r,n,acc,ha,x,y,c,h,g,inj=>by
  unfold cellsFrom at h g
  split at h
  . rename_i hk
    rw [if_pos hk] at g
    refine Bb r (n+1) ((name,n)::acc) (λ p hp=>?_) x y c h g λ x y c h g=>?_
    . rcases Qd.mp hp with rfl | hp
      . exact J4b _
      . exact J4h (ha p hp)
    . rcases Qd.mp h with e | h<;>rcases Qd.mp g with e' | g
      . cases e;cases e';rfl
      . cases e;exact absurd (ha _ g) (Xf _)
      . cases e';exact absurd (ha _ h) (Xf _)
      . exact inj x y c h g
  . rename_i hk
    rw [if_neg hk] at g
    exact Bb r n acc ha x y c h g inj
theorem Ww:∀ (names:List (Str×J9s)) (n:Nat) (acc:List (Str×Addr)) (p:Str×Addr),p∈acc->p∈cellsFrom n names acc
 | [],n,acc,p,h=>h
 | (name,kind)::r,n,acc,p,h=>by
  unfold cellsFrom
  split
  . exact Ww r _ _ p (Qh _ h)
  . exact Ww r _ _ p h
theorem Jao:∀ (names:List (Str×J9s)) (n:Nat) (acc:List (Str×Addr)) (x:Str),(x,Uw)∈names->∃ c,(x,c)∈cellsFrom n names acc
 | (name,kind)::r,n,acc,x,h=>by
  unfold cellsFrom
  rcases Qd.mp h with e | h
  . cases e
    exact ⟨n,Ww r _ _ _ Qg⟩
  . split
    . exact Jao r _ _ x h
    . exact Jao r _ _ x h
theorem B3:∀ (names:List (Str×J9s)) (h:Heap) (acc:List (Str×Addr)) (x:Str) (c:Addr),(x,c)∈cellsFrom h.objs.size names acc->(x,c)∈acc\/(pushCells h names).IsCell c none
 | [],h,acc,x,c,m=>.inl m
 | (name,kind)::r,h,acc,x,c,m=>by
  unfold cellsFrom at m
  unfold pushCells
  split at m
  . rename_i hk
    rw [if_pos hk]
    have e:h.objs.size+1=(h.push { cls:=.type "cell",data:=.cell none }).objs.size:=by rw [Xz]
    rw [e] at m
    rcases B3 r _ _ x c m with m | m
    . rcases Qd.mp m with z | m
      . cases z
        exact .inr ⟨_,pushCells_keeps r _ _ _ (Xe _ rfl),rfl⟩
      . exact .inl m
    . exact .inr m
  . rename_i hk
    rw [if_neg hk]
    exact B3 r h acc x c m
theorem Jfw {env:Env}:∀ (l:List (Str×J9s)) (cs:List (Str×Addr)) (x:Str) (c:Addr),(x,c)∈Yg env l cs->(x,c)∈cs\/(x,Ul)∈l
 | [],cs,x,c,h=>.inl h
 | (n,k)::r,cs,x,c,h=>by
  unfold Yg at h
  rcases Jfw r _ x c h with g | g
  . split at g
    . rename_i hk
      have hk:k = .free:=by simpa using hk
      subst hk
      rcases Qd.mp g with e | g
      . cases e;exact .inr Qg
      . exact .inl g
    . exact .inl g
  . exact .inr (Qh _ g)
theorem Jji {l:List (Str×J9s)}(u:(l.map (·.1)).Nodup) {x:Str}{j k:J9s}(h:(x,j)∈l) (g:(x,k)∈l):j=k:=by
 induction l with
 | nil=>cases h
 | cons p l ih=>
  rw [Qz,Xn] at u
  rcases Qd.mp h with e | h<;>rcases Qd.mp g with e' | g
  . rw [<- e] at e';cases e';rfl
  . exact absurd (Qo.mpr ⟨_,g,by rw [<- e]⟩) u.1
  . exact absurd (Qo.mpr ⟨_,h,by rw [<- e']⟩) u.1
  . exact ih u.2 h g
noncomputable def Za (X:Cx) (N':List Str) (scope:J9q) (C:Addr) (s:J9k) (H:Hp) (fp:List Addr):Cx:=
 { Z4 X N' scope C s H fp with env:=compEnvC scope (cellsFrom (C+1) scope.names (Yg X.env scope.names [])) C X.env,fn:=λ x=>scope.names.lookup x==some Uw }
structure CompScopeC (sc:J9q) (N:List Str) (scope:J9q) (N':List Str) (k:Nat) (idx:List Nat):Prop where
 kind:scope.kind = .function
 uniq:(scope.names.map (·.1)).Nodup
 loc:∀ x∈scope.names,x.2 = .local -> scope.names.lookup x.1=some .local
 fr:∀ x∈scope.names,x.2 = .free->sc.names.lookup x.1=some .cell\/sc.names.lookup x.1=some .free
 nd:N'.Nodup
 free:∀ x∈N'.drop k,scope.names.lookup x=some .free
 ix:(N'.drop k).map some=idx.map λ i=>N[i]?
 len:N'.length=k+idx.length
section
variable {X:Cx}{pins:List (Addr×Obj)}{σ:St}{H:Hp}{s:J9k}{scope:J9q}{N':List Str}{k:Nat}{idx:List Nat}{sc:J9q}{N:List Str}
theorem Jl2 (I:Inv X pins σ H s) (S:CompScopeC sc N scope N' k idx) (hsc:X.env.scope=sc) (hNN:X.N=N) {fp:List Addr}(hf:∀ b∈fp,Jcx X pins H b) (hlt:∀ b∈fp,b<s.heap.objs.size) {t':Nat} :
 Inv (Za X N' scope s.heap.objs.size s H fp) [] (Yo k idx σ) H { s with heap:=pushCells (s.heap.push { cls:=.type "dict",data:=.dict #[] }) scope.names,toks:=t' }:=by
 have hcell:∀ x∈scope.names,x.2 = .free->∃ c,X.env.cells.lookup x.1=some c:=λ x hx hfree=>I.ok.has x.1 (by
  show X.env.scope.names.lookup x.1=_\/X.env.scope.names.lookup x.1=_
  rw [hsc];exact S.fr x hx hfree)
 have hclm:∀ x c,(x,c)∈Yg X.env scope.names []->X.env.cells.lookup x=some c:=λ x c e=>Jc6 hcell (λ p hp=>by cases hp) (x,c) e
 have hold:∀ x c,(x,c)∈Yg X.env scope.names []->c<s.heap.objs.size:=λ x c e=>by
  obtain ⟨v,o,ho,_⟩:=I.cell x c (hclm x c e)
  exact Qv ho
 have hk:∀ b o,s.heap.get? b=some o->(pushCells (s.heap.push { cls:=.type "dict",data:=.dict #[] }) scope.names).get? b=some o:=λ b o e=>pushCells_keeps _ _ b o (Qu _ e)
 have hsp:∀ x c,(cellsFrom (s.heap.objs.size+1) scope.names (Yg X.env scope.names [])).lookup x=some c->((x,c)∈Yg X.env scope.names []\/(s.heap.objs.size+1<=c/\(x,Uw)∈scope.names)):=λ x c e=>
  Jan _ _ _ x c (Xo e)
 have hok:(Za X N' scope s.heap.objs.size s H fp).Ok:={
  mod:=I.ok.mod
  kind:=S.kind
  glob:=I.ok.glob
  blt:=I.ok.blt
  above:=Ql _
  inj:=λ x y c e1 e2=>Bb _ _ _ (λ p hp=>J4h (hold p.1 p.2 hp)) x y c (Xo e1) (Xo e2) λ x y c h g=>I.ok.inj x y c (hclm x c h) (hclm y c g)
  has:=λ x hx=>by
   have hcf:scope.names.lookup x=some .cell\/scope.names.lookup x=some .free:=by
    rcases hx with hx | hx
    . rcases Wu (env:=X.env) (names:=scope.names) hx with h | ⟨_,h⟩
      . exact .inl h
      . exact .inr h
    . rcases Wu (env:=X.env) (names:=scope.names) hx with h | ⟨h,_⟩
      . exact .inr h
      . cases h
   rcases hcf with h | h
   . obtain ⟨c,hc⟩:=Jao scope.names (s.heap.objs.size+1) (Yg X.env scope.names []) x (Xo h)
     exact Zf hc
   . obtain ⟨c,hc⟩:=Bz (env:=X.env) (cs:=[]) (Xo h)
     exact Zf (Ww scope.names (s.heap.objs.size+1) _ _ hc)
  cab:=λ x c h e=>by
   rcases hsp x c e with m | m
   . rcases Jfw _ _ x c m with z | z
     . cases z
     . have hx:scope.names.lookup x=some .cell:=by simpa using (show (scope.names.lookup x==some Uw)=true from h)
       have:=Jji S.uniq z (Xo hx)
       cases this
   . exact J6d m.1
  hd:=I.ok.hd
  frames:=I.ok.frames
  stk:=.inl rfl
  exf:=λ b hb=>⟨Xg (hlt b hb),λ x c e=>by
   rcases hsp x c e with m | m
   . exact (hf b hb).2.2.2.2.1 x c (hclm x c m)
   . intro z
     have h2:=m.1
     rw [z] at h2
     exact absurd (Xd (hlt b hb) (J6d h2)) (Xf _)⟩
  bs:=I.bs
  bsz:=Xl I.ok.bsz I.sz
  noex:=λ b o e hb=>by
   rcases (hf b hb).2.2.2.1 with z | z
   . exact I.ok.noex b o e z
   . exact absurd (Xd (Qv e) (Xl I.ok.bsz z)) (Xf _)
  exfs:=λ b hb hz=>by
   rcases Qd.mp (I.stkSub b hz) with e | e
   . exact (hf b hb).2.1 e
   . exact (hf b hb).2.2.1 e
  funs:=I.stack
  frf:=I.stkFree }
 refine ⟨hok,rfl,I.bare,Un.kept hk,⟨_,(Heap.Ns.new s.heap (.type "dict")).keeps (pushCells_keeps _ _),λ i x v e1 e2 e3=>?_⟩,λ x c e=>?_,I.hok.fresh (Ql _),λ x c e=>?_,(λ p hp=>by cases hp),I.hok.kept hk,?_⟩
 . have hi:k<=i:=by
    rcases Ud i k with h | h
    . have e2:(Yo k idx σ)[i]? = some (some v):=e2
      unfold Yo at e2
      rw [Up (by simpa using h),U2] at e2
      split at e2<;>cases e2
    . exact h
   have e1':(N'.drop k)[i-k]? = some x:=by
    rw [J5w,show k+(i-k)=i by omega];exact e1
   have hfree:=S.free x (Xb e1')
   have e2':(idx.map λ i=>(σ[i]?).join)[i-k]? = some (some v):=by
    have e2:(Yo k idx σ)[i]? = some (some v):=e2
    unfold Yo at e2
    rw [J2m (by simpa using hi),Ub] at e2
    exact e2
   rw [Qk] at e2'
   cases hj:idx[i-k]? with
   | none=>rw [hj] at e2';cases e2'
   | some j=>
    rw [hj] at e2'
    have e3':(σ[j]?).join=some v:=by simpa using e2'
    have eσ:σ[j]? = some (some v):=by
     cases q:σ[j]? with
     | none=>rw [q] at e3';cases e3'
     | some o=>rw [q] at e3';cases o with
      | none=>cases e3'
      | some z=>cases e3';rfl
    have eN:X.N[j]? = some x:=by
     rw [hNN]
     have:=congrArg (λ l=>l[i-k]?) S.ix
     simp only [Qk,e1',hj,Option.map_some] at this
     exact (Xi this).symm
    have hvk:=S.fr _ (Xo hfree) rfl
    obtain ⟨m,hm,hl⟩:=I.loc
    obtain ⟨u,ru,lk⟩:=hl j x v eN eσ (by rw [hsc];exact .inr hvk)
    refine ⟨u,ru,.inr ⟨Ja8 (env:=X.env) hfree,?_⟩⟩
    rcases lk with ⟨kl,_⟩ | ⟨_,c,ec,z⟩
    . have kl:X.env.scope.names.lookup x=some .local := kl
      rw [hsc] at kl
      rcases hvk with q | q<;>(rw [kl] at q;cases q)
    . obtain ⟨d,hd⟩:=Bz (env:=X.env) (cs:=[]) (Xo hfree)
      obtain ⟨d',hd'⟩:=Zf (Ww scope.names (s.heap.objs.size+1) _ _ hd)
      have e:d'=c:=by
       rcases hsp x d' hd' with m | m
       . have:=hclm x d' m
         rw [ec] at this
         cases this;rfl
       . have:=Jji S.uniq m.2 (Xo hfree)
         cases this
      subst e
      obtain ⟨o,ho,hod⟩:=z
      exact ⟨d',hd',o,hk d' o ho,hod⟩
 . have e0:s.heap.objs.size+1=(s.heap.push { cls:=.type "dict",data:=.dict #[] }).objs.size:=by rw [Xz]
   have m:=Xo (show (cellsFrom (s.heap.objs.size+1) scope.names (Yg X.env scope.names [])).lookup x=some c from e)
   rw [e0] at m
   rcases B3 _ _ _ x c m with m | m
   . obtain ⟨v,o,ho,hod⟩:=I.cell x c (hclm x c m)
     exact ⟨v,o,hk c o ho,hod⟩
   . exact ⟨none,m⟩
 . rcases hsp x c e with m | m
   . exact I.freeC x c (hclm x c m)
   . exact I.hok.fresh (J6d m.1)
 . show (Yo k idx σ).length=N'.length
   unfold Yo
   rw [S.len,Xc,Ub,Qb]
end
section
variable {X:Cx}{tg iter elt:Expr}{ifs:List Expr}{scope sc:J9q}{N N':List Str}{k:Nat}{idx:List Nat}{wi:TI}{g:TG}{tt:TT}{te:TE}{pos:Pos}
theorem Jfx {pins:List (Addr×Obj)}{s:J9k}{σ:St}{E:J9j->J9k->Prop}{RR:J9j->Addr->J94->J9k->Prop}{itv:J9j}{Qe:Addr->Hp->Prop}
 (hc:X.calm=true) (S:CompScopeC sc N scope N' k idx) (hsc:X.env.scope=sc) (hNN:X.N=N)
 (hg:∀ C s H fp,PG (Za X N' scope C s H fp) tg g) (ht:∀ C s H fp,PTs (Za X N' scope C s H fp) ifs tt) (he:∀ C s H fp,PE (Za X N' scope C s H fp) elt te)
 (hit:PIE X pins σ tg (λ J H1=>∀ l,H1 l=none->Jj4 J g tt te l (Yo k idx σ) (upd H1 l (.lst [])) λ H2=>Qe l H2) itv s)
 (hRR:∀ l H2 C s2,Inv X pins σ H2 s2->(∃ m,s2.heap.Ns C m)->Free1 X pins H2 C->Qe l H2->RR (.ref l) C (.ok .next) s2) :
 J9l (model X.prog X.w) X.A (newList []) (λ acc s₃=>J9l (model X.prog X.w) X.A (newFunctionEnv scope X.env.globals (Yg X.env scope.names []) [] X.env.qual none .none (some X.env)) (λ cenv s₄=>
  J9u (model X.prog X.w) X.A (.compStart (.ListComp elt [⟨tg,iter,ifs,0⟩] scope pos) 0 itv acc { cenv with scope:=relabel scope X.env }) (RR acc cenv.locals) s₄) E s₃) E s:=by
 obtain ⟨it,fp,tn,J,H1,rfl,I1,T,st1,f1,q⟩:=hit
 refine wpAny_newObj_type ?_
 have hf0:H1 s.heap.objs.size=none:=I1.hok.fresh (Ql _)
 have hflt:∀ b∈fp,b<s.heap.objs.size:=λ b hb=>let ⟨_,e,_⟩:=T.obj _ _ st1 b hb;Qv e
 generalize hl:s.heap.objs.size=l at *
 have I2:Inv X pins σ (upd H1 l (.lst [])) { s with heap:=s.heap.push { cls:=.type "list",dict:=none,data:=.seq ([]:List J9j).toArray } }:=
  I1.laid (t':=s.toks) (λ b u e=>Qu _ e) (J4a hl) (show Yw _ _ _ _ l (.lst []) from ⟨Xr _,[],0,.nil,by rw [<- hl];exact Xe _ rfl⟩)
 have st2:tn 0 (s.heap.push { cls:=.type "list",dict:=none,data:=.seq ([]:List J9j).toArray }):=T.keep _ _ _ st1 λ b _ o e=>Qu _ e
 have f2:∀ b∈fp,Jcx X pins (upd H1 l (.lst [])) b:=λ b hb=>⟨by rw [Jf (Xg (hflt b hb))];exact (f1 b hb).1,(f1 b hb).2⟩
 have hsz2:(s.heap.push { cls:=.type "list",dict:=none,data:=.seq ([]:List J9j).toArray }).objs.size=l+1:=by rw [Xz,hl]
 have q2:=q l hf0
 generalize hs2:({ s with heap:=s.heap.push { cls:=.type "list",dict:=none,data:=.seq ([]:List J9j).toArray } }:J9k)=s2 at I2 ⊢
 have st2:tn 0 s2.heap:=by rw [<- hs2];exact st2
 have hsz2:s2.heap.objs.size=l+1:=by rw [<- hs2];exact hsz2
 refine Jka ?_
 have hk1:∀ b o,s2.heap.get? b=some o->(pushCells (s2.heap.push { cls:=.type "dict",data:=.dict #[] }) scope.names).get? b=some o:=λ b o e=>pushCells_keeps _ _ b o (Qu _ e)
 have hlt2:∀ b∈fp,b<s2.heap.objs.size:=λ b hb=>by rw [hsz2];exact J4h (hflt b hb)
 have I3:=Jl2 (t':=s2.toks) I2 S hsc hNN f2 hlt2
 generalize pushCells (s2.heap.push { cls:=.type "dict",data:=.dict #[] }) scope.names=h₁ at *
 generalize hC:s2.heap.objs.size=C at *
 have st3:tn 0 h₁:=T.keep _ _ _ st2 λ b _ o e=>hk1 b o e
 obtain ⟨W,⟨m0,w0⟩,turn⟩:=q2
 -- back to the frame around
 have back:∀ {σ':St} {H':Hp} {s':J9k},Inv (Za X N' scope C s2 (upd H1 l (.lst [])) fp) [] σ' H' s'->Inv X pins σ H' s':=λ {σ' H' s'} I'=>
  I2.call' I'.os I'.base I'.hok I'.bare λ b hb=>⟨(f2 b hb).2.2.2.1,(f2 b hb).2.1,(f2 b hb).2.2.2.2.1,(f2 b hb).2.2.2.2.2⟩
 have loop:∀ s₃:J9k,s₃ = { s2 with heap:=h₁,toks:=s2.toks } ->
  J9u (model X.prog X.w) X.A (.compLoop (.ListComp elt [⟨tg,iter,ifs,0⟩] scope pos) 0 (.ref it) (.ref l) (compEnvC scope (cellsFrom (C+1) scope.names (Yg X.env scope.names [])) C X.env)) (RR (.ref l) C) s₃:=by
  rintro s₃ rfl
  refine Jfu (λ n s'=>∃ i σ' H',Inv (Za X N' scope C s2 (upd H1 l (.lst [])) fp) [] σ' H' s'/\tn i s'.heap/\(∀ b∈fp,H' b=none)/\W i n σ' H') ?_ m0 ⟨0,_,_,I3,st3,λ b hb=>(f2 b hb).1,w0⟩
  rintro n s4 ⟨i,σ4,H4,I4,st4,fr4,w4⟩
  have stat:∀ {H':Hp},(∀ b∈fp,H' b=none)->∀ b∈fp,Jcx (Za X N' scope C s2 (upd H1 l (.lst [])) fp) [] H' b:=λ {H'} hn b hb=>
   ⟨hn b hb,(I4.ok.exf b hb).1,I4.ok.exfs b hb,.inl hb,(I4.ok.exf b hb).2,λ p hp=>by cases hp⟩
  rcases turn i n σ4 H4 w4 with ⟨stop,qn⟩ | ⟨go,step⟩
  . refine thn (T.done (Za X N' scope C s2 (upd H1 l (.lst [])) fp) rfl rfl rfl hc i [] s4 σ4 H4 NoE I4 (stat fr4) st4 stop) λ r s5 ⟨hr,I5⟩=>?_
    subst hr
    have IX:=back I5
    have hCl:C≠X.env.locals:=λ e=>by
     have:=I2.lt
     rw [hC,<- e] at this
     exact Xf _ this
    have hCc:∀ x c,X.env.cells.lookup x=some c->c≠C:=λ x c e z=>by
     obtain ⟨v,o,ho,_⟩:=I2.cell x c e
     have:=Qv ho
     rw [hC,z] at this
     exact Xf _ this
    obtain ⟨m5,hm5,_⟩:=I5.loc
    refine hRR l H4 C s5 IX ⟨m5,hm5⟩ ⟨hCl,hCc,I5.free,by rw [<- hC];exact I2.sz,λ p hp z=>?_⟩ qn
    obtain ⟨e,_⟩:=I2.pin p hp
    have:=Qv e
    rw [hC,z] at this
    exact Xf _ this
  . refine thn (T.item (Za X N' scope C s2 (upd H1 l (.lst [])) fp) rfl rfl rfl hc i [] s4 σ4 H4 NoE I4 (stat fr4) st4 go) λ r s5 ⟨u,hr,h5⟩=>?_
    subst hr
    refine thn h5 λ _ s6 ⟨x,H6,I6,r6,y6,st6,fr6⟩=>?_
    have I6':=I6.pinned (stat fr6) (T.obj _ _ st6)
    have keepT:∀ {σ7:St} {H7:Hp} {s7:J9k},Inv (Za X N' scope C s2 (upd H1 l (.lst [])) fp) ([]++Jet fp s6.heap) σ7 H7 s7->tn (i+1) s7.heap/\∀ b∈fp,H7 b=none:=λ {σ7 H7 s7} I7=>
     ⟨T.keep _ _ _ st6 λ b hb o e=>(I7.pin (b,o) (Xh _ (Xh _ (Vo hb e)))).1,λ b hb=>by
      obtain ⟨o,e,d⟩:=T.obj _ _ st6 b hb
      exact (I7.pin (b,o) (Xh _ (Xh _ (Vo hb e)))).2.1⟩
    refine thn (hg C s2 (upd H1 l (.lst [])) fp _ s6 σ4 H6 x u _ I6' r6 (step x H6 y6)) λ _ s7 ⟨σ7,H7,I7,q7⟩=>?_
    refine thn (ht C s2 (upd H1 l (.lst [])) fp _ s7 σ7 H7 _ I7 q7) λ ok s8 ⟨H8,I8,q8⟩=>?_
    cases ok with
    | false=>
     rw [if_neg (by decide)] at q8 ⊢
     obtain ⟨m',hm,w8⟩:=q8
     have kt:=keepT I8
     exact ⟨m',hm,i+1,σ7,H8,I8.unpinned,kt.1,kt.2,w8⟩
    | true=>
     rw [if_pos rfl] at q8 ⊢
     refine thn (he C s2 (upd H1 l (.lst [])) fp _ s8 σ7 H8 _ I8 q8) λ v s9 ⟨y,H9,I9,r9,xs,e9,z9,m',hm,w9⟩=>?_
     refine thn (Wj _ s9 σ7 H9 (.ref l) [y] (.ref l) [v] (λ z H10=>z = .non/\H10=upd H9 l (.lst (xs++[y]))) I9 rfl (.cons r9 .nil) ⟨l,xs,y,rfl,rfl,e9,z9,rfl,rfl⟩) λ _ s10 ⟨z,H10,I10,_,_,e10⟩=>?_
     subst e10
     have kt:=keepT I10
     exact ⟨m',hm,i+1,σ7,_,I10.unpinned,kt.1,kt.2,w9⟩
 have e2:(newEnv scope C X.env.globals (cellsFrom (C+1) scope.names (Yg X.env scope.names [])) X.env.qual none .none (some X.env) Yal).locals=C:=rfl
 show J9u _ _ (.compStart _ 0 (.ref it) (.ref l) (compEnvC scope (cellsFrom (C+1) scope.names (Yg X.env scope.names [])) C X.env)) (RR (.ref l) C) _
 exact Yaz (loop _ rfl) (T.self _ 0 _ _ _ st3 (loop _ rfl))
theorem Jsq (hc:X.calm=true) (S:CompScopeC sc N scope N' k idx) (hsc:X.env.scope=sc) (hNN:X.N=N) (hi:PI X tg iter wi)
 (hg:∀ C s H fp,PG (Za X N' scope C s H fp) tg g) (ht:∀ C s H fp,PTs (Za X N' scope C s H fp) ifs tt) (he:∀ C s H fp,PE (Za X N' scope C s H fp) elt te)
 (hs:∀ x,Yan iter X.env x=pure x:=by intro _;rfl):PE X (.ListComp elt [⟨tg,iter,ifs,0⟩] scope pos) (Jat wi k idx g tt te):=by
 intro pins s σ H Q I h
 rw [eval_ListComp]
 have hclos:Yai scope X.env=pure (Yg X.env scope.names []):=V1 λ x hx hfree=>I.ok.has x.1 (by
  show X.env.scope.names.lookup x.1=_\/X.env.scope.names.lookup x.1=_
  rw [hsc];exact S.fr x hx hfree)
 refine wpAny_comprehension_free (use:=none) rfl hs hclos S.kind S.loc (thn (hi pins s σ H _ I h) λ v s1 h1=>thn h1 λ itv s2 h2=>?_)
 refine Jfx (RR:=λ acc C=>compPost (model X.prog X.w) X.A X.xe none (EP X pins σ Q) acc C) (Qe:=λ l H2=>Q (.ref l) H2) hc S hsc hNN hg ht he h2 ?_
 intro l H2 C s2 I2 hm f q
 obtain ⟨m,hm⟩:=hm
 exact ⟨m,hm,λ h' hs'=>⟨.ref l,H2,I2.freed f hs',rfl,q⟩⟩
theorem Jfy {i:Nat}{y:Str}{py spos:Pos}(hc:X.calm=true) (hN:X.N.Nodup) (hiN:X.N[i]? = some y) (hy:X.env.scope.names.lookup y=some .local) (S:CompScopeC sc N scope N' k idx) (hsc:X.env.scope=sc) (hNN:X.N=N) (hi:PI X tg iter wi)
 (hg:∀ C s H fp,PG (Za X N' scope C s H fp) tg g) (ht:∀ C s H fp,PTs (Za X N' scope C s H fp) ifs tt) (he:∀ C s H fp,PE (Za X N' scope C s H fp) elt te)
 (hsw:Yad (.ListComp elt [⟨tg,iter,ifs,0⟩] scope pos) (some (.Name y py)) spos.line X.env=pure true:=by rfl)
 (hs:∀ x,Yan iter X.env x=pure x:=by intro _;rfl):PS X (.Assign [.Name y py] (.ListComp elt [⟨tg,iter,ifs,0⟩] scope pos) spos) (V4 i wi k idx g tt te):=by
 intro pins s σ H D I h
 rw [Ya0 _ _ _ _ hsw]
 refine wpAny_bind (wpAny_standAt (wpAny_bind ?_))
 show J9l _ X.A (do let _ <- comprehension (.ListComp elt [⟨tg,iter,ifs,0⟩] scope pos) scope X.env _ (newList []) false (eval iter X.env) (some (assign (.Name y py) X.env))) _ _ s
 have hclos:Yai scope X.env=pure (Yg X.env scope.names []):=V1 λ x hx hfree=>I.ok.has x.1 (by
  show X.env.scope.names.lookup x.1=_\/X.env.scope.names.lookup x.1=_
  rw [hsc];exact S.fr x hx hfree)
 refine wpAny_bind (wpAny_mono (wpAny_comprehension_free (use:=some (assign (.Name y py) X.env)) (Q:=λ _ s'=>SP X pins D .next s') rfl hs hclos S.kind S.loc (thn (hi pins s σ H _ I h) λ v s1 h1=>thn h1 λ itv s2 h2=>?_))
  (λ _ s' hq=>wpAny_pure (wpAny_pure hq)) λ _ _ e=>e)
 refine Jfx (RR:=λ acc C=>compPost (model X.prog X.w) X.A X.xe (some (assign (.Name y py) X.env)) (λ _ s'=>SP X pins D .next s') acc C) (Qe:=λ l H2=>D.nx (σ.set i (some (.ref l))) H2) hc S hsc hNN hg ht he h2 ?_
 intro l H2 C s2 I2 hm f q
 obtain ⟨m,hm⟩:=hm
 show J9l _ X.A (assign (.Name y py) X.env (.ref l)) _ _ _
 refine Yas (Jer (v:=.ref l) I2 hN hiN (.inl hy) rfl (λ s' I' hch=>?_) (.inr hy))
 obtain ⟨a,hsb,ha⟩:=hch
 have haC:C≠a:=λ z=>by
  rcases ha with e | e
  . exact f.loc (z.trans e)
  . exact f.cel y a e z.symm
 exact ⟨m,hm.sameBut hsb haC,λ h' hs'=>⟨_,H2,I'.freed f hs',q⟩⟩
end
noncomputable def Jvk (scope osc:J9q):J9q:={ scope with names:=scope.names.map λ (n,k)=>if (k==Ul&&osc.kind == .function&&osc.names.lookup n==some .cell) then (n,Uw) else (n,k) }
theorem Jyr {X:Cx}{N':List Str}{scope osc:J9q}{C:Addr}{s:J9k}{H:Hp}{fp:List Addr}(h:X.env.scope=osc):(Za X N' scope C s H fp).env.scope=Jvk scope osc:=by
 subst h;rfl
end L2
namespace My
open L2
noncomputable def Jsr (ws:List Way) (cs:List Int) (p:Nat):List Int:=(Qn ws.length).map λ i=>cs.getD i 0*(Jh ws (i:Nat)).g.getD p 0
noncomputable def rgI (ws:List Way) (cs:List Int) (U:Int):List Int:=(Qn U.toNat).map λ p=>(Jsr ws cs p).sum
inductive Vl where
 | jnk | jar | tape | d (x:J9i) | own (xs:List J9i) | dct (kvs:List (Key×J9i)) | own2 (ks:Option (List Key)) (ps:List (Addr×List J9i)) | pin (v:V) (x:J9i)
structure Src where
 jv:V
 ch:List Addr
 inv:Nat->Hp->Prop
 keep:∀ {n:Nat} {H H':Hp},inv n H->(∀ b∈ch,∀ o,H b=some o->H' b=some o)->inv n H'
 dom:∀ {n:Nat} {H:Hp},inv n H->∀ b∈ch,H b≠none
noncomputable def Src.no:Src:=⟨.non,[],λ _ _=>True,λ _ _=>trivial,λ _ _ h=>by cases h⟩
def Jq3 (H:Hp) (p c:Addr) (n:Nat):Prop:=∃ e,Jyq H p c e/\(n=0\/e=some (n:Int))
theorem Jq3.jar {H:Hp}{p c:Addr}{n:Nat}(J:Jq3 H p c n):Jar H p c:=J.choose_spec.1.jar
theorem Jvl {H:Hp}{p c:Addr}{n:Nat}(J:Jq3 H p c n):∀ b∈[p,c],H b≠none:=λ b hb z=>J.jar.fresh z hb
theorem Jss {H H':Hp}{p c:Addr}{n:Nat}(J:Jq3 H p c n) (h:∀ b∈[p,c],∀ o,H b=some o->H' b=some o):Jq3 H' p c n:=by
 obtain ⟨e,⟨ns,r,s,t,X,h3⟩,hn⟩:=J
 exact ⟨e,⟨ns,r,s,t,⟨h _ (by simp) _ X.d,h _ (by simp) _ X.l⟩,h3⟩,hn⟩
noncomputable def Src.jar (p c:Addr):Src:=⟨.ref p,[p,c],λ n H=>Jq3 H p c n,λ J h=>Jss J h,λ J=>Jvl J⟩
theorem Jq4 {H H':Hp}{p c:Addr}{n:Nat}(J:Tape H p c n) (h:∀ b∈[p,c],∀ o,H b=some o->H' b=some o):Tape H' p c n:=by
 obtain ⟨ns,a,g,h1,h2,h3⟩:=J.ex
 exact ⟨ns,a,g,h _ (by simp) _ h1,h _ (by simp) _ h2,h3⟩
noncomputable def Src.tape (p c:Addr):Src:=⟨.ref p,[p,c],λ n H=>Tape H p c n,λ J h=>Jq4 J h,λ J b hb z=>J.fresh z hb⟩
def Ys (S:Src) (n':Nat) (H H':Hp):Prop:=Kp S.ch H H'/\S.inv n' H'
section
variable {S:Src}{n m:Nat}{H H1 H2 H':Hp}{ex:List Addr}
theorem Ys.refl (h:S.inv n H):Ys S n H H:=⟨.refl,h⟩
theorem Ys.trans (a:Ys S n H H1) (b:Ys S m H1 H2):Ys S m H H2:=⟨a.1.trans b.1,b.2⟩
theorem Ys.new (h:S.inv n H) (k:Kp [] H H'):Ys S n H H':=⟨k.of,S.keep h λ b _ o e=>k b o e (by simp)⟩
theorem Ys.then (a:Ys S n H H1) (k:Kp [] H1 H2):Ys S n H H2:=a.trans (.new a.2 k)
theorem Ys.free {p:Addr}(a:Ys S n H H1) (h:H1 p=none):H p=none:=by
 cases e:H p with
 | none=>rfl
 | some o=>
  by_cases hp:p∈S.ch
  . exact absurd h (S.dom a.2 p hp)
  . rw [a.1 p o e hp] at h;cases h
def Alc (ex:List Addr) (H:Hp):Prop:=∀ a∈ex,H a≠none
theorem Alc.nm {p:Addr}(h:Alc ex H) (e:H p=none):p∉ex:=λ z=>h p z e
theorem Alc.kp (h:Alc ex H) (k:Kp [] H H'):Alc ex H':=λ a ha z=>by
 cases e:H a with
 | none=>exact h a ha e
 | some o=>rw [k a o e (by simp)] at z;cases z
theorem Alc.step (h:Alc ex H) (k:Ys S n H H'):Alc ex H':=λ a ha z=>h a ha (k.free z)
mutual
theorem Rep.add {l:Addr}(h:H l=none):∀ {d:J9i}{v:V},Rep ex H d v->Rep (l::ex) H d v
 | _,_,.none=>.none
 | _,_,.bool b=>.bool b
 | _,_,.int i=>.int i
 | _,_,.str x=>.str x
 | _,_,.tuple e n z r=>.tuple e (λ q=>(Qd.mp q).elim (λ q=>by rw [q,h] at e;cases e) n) z (Reps.add h r)
 | _,_,.list e n z r=>.list e (λ q=>(Qd.mp q).elim (λ q=>by rw [q,h] at e;cases e) n) z (Reps.add h r)
 | _,_,.obj e n k r=>.obj e (λ q=>(Qd.mp q).elim (λ q=>by rw [q,h] at e;cases e) n) k (Reps.add h r)
theorem Reps.add {l:Addr}(h:H l=none):∀ {ds:List J9i}{vs:List V},Reps ex H ds vs->Reps (l::ex) H ds vs
 | _,_,.nil=>.nil
 | _,_,.cons r t=>.cons (Rep.add h r) (Reps.add h t)
end
theorem Rep.sub {l:Addr}{d:J9i}{v:V}(r:Rep (l::ex) H d v):Rep ex H d v:=Rep.mono (λ b hb=>Qh _ hb) r
theorem Reps.sub {l:Addr}{d:List J9i}{v:List V}(r:Reps (l::ex) H d v):Reps ex H d v:=Reps.mono (λ b hb=>Qh _ hb) r
end
noncomputable def exm (m:Bool) (S:Src) (ex:List Addr):List Addr:=match m with | true=>ex | false=>S.ch
def KvR (ex:List Addr) (H:Hp) (kvs:List (Key×J9i)) (kws:List (Key×V)):Prop:=kws.map (·.1)=kvs.map (·.1)/\Reps ex H (kvs.map (·.2)) (kws.map (·.2))
noncomputable def J0g (ks:Option (List Key)) (rs:List V):HO:=match ks with
 | none=>.lst rs
 | some ks=>.dK (ks.zip rs)
structure In2 (S:Src) (ex:List Addr) (H:Hp) (p:Addr×List J9i):Prop where
 m:p.1∈ex
 c:p.1∉S.ch
 h:∃ vs,H p.1=some (.lst vs)/\vs.length<=sizeLine/\Reps ex H p.2 vs
noncomputable def Yt (ps:List (Addr×List J9i)):List V:=ps.map λ p=>.ref p.1
structure Own2 (S:Src) (ex:List Addr) (H:Hp) (ks:Option (List Key)) (ps:List (Addr×List J9i)) (a:Addr):Prop where
 h:H a=some (J0g ks (Yt ps))
 z:ps.length<=1000000
 k:∀ l,ks=some l->l.length=ps.length
 nd:(a::ps.map (·.1)).Nodup
 m:a∈ex
 c:a∉S.ch
 i:∀ p∈ps,In2 S ex H p
def SlR (S:Src) (ex:List Addr) (H:Hp):Vl->Option V->Prop
 | .jnk,_=>True
 | .jar,o=>∃ p c,S=Src.jar p c/\o=some (.ref p)
 | .tape,o=>∃ p c,S=Src.tape p c/\o=some (.ref p)
 | .d x,o=>∃ v,o=some v/\Rep ex H x v
 | .own xs,o=>∃ a vs,o=some (.ref a)/\H a=some (.lst vs)/\vs.length<=sizeLine/\Reps ex H xs vs/\a∈ex/\a∉S.ch
 | .dct kvs,o=>∃ a kws,o=some (.ref a)/\H a=some (.dK kws)/\KvR ex H kvs kws/\a∈ex/\a∉S.ch
 | .own2 ks ps,o=>∃ a,o=some (.ref a)/\Own2 S ex H ks ps a
 | .pin v x,o=>o=some v/\Rep ex H x v
structure Ev (S:Src) (ex:List Addr) (env:List Vl) (σ:L2.St) (H:Hp) (n:Nat):Prop where
 len:env.length<=σ.length
 sl:∀ (i:Nat) (w:Vl),env[i]? = some w->SlR S ex H w (σ[i]?).join
 ch:∀ a∈S.ch,a∈ex
 al:Alc ex H
 inv:S.inv n H
section
variable {S:Src}{n m:Nat}{H H1 H2 H':Hp}{ex:List Addr}{env:List Vl}{σ:L2.St}
theorem SlR.kp {w:Vl}{o:Option V}(hc:∀ a∈S.ch,a∈ex) (k:Kp S.ch H H') (h:SlR S ex H w o):SlR S ex H' w o:=by
 have kx:Kp ex H H':=k.mono hc
 cases w with
 | jnk=>trivial
 | jar=>exact h
 | tape=>exact h
 | d x=>obtain ⟨v,e,r⟩:=h;exact ⟨v,e,r.keep kx⟩
 | pin v x=>obtain ⟨e,r⟩:=h;exact ⟨e,r.keep kx⟩
 | own xs=>obtain ⟨a,vs,e,h1,h2,h3,h4,h5⟩:=h;exact ⟨a,vs,e,k _ _ h1 h5,h2,h3.keep kx,h4,h5⟩
 | dct kvs=>obtain ⟨a,kws,e,h1,⟨h2,h3⟩,h4,h5⟩:=h;exact ⟨a,kws,e,k _ _ h1 h5,⟨h2,h3.keep kx⟩,h4,h5⟩
 | own2 ks ps=>obtain ⟨a,e,q⟩:=h;exact ⟨a,e,k _ _ q.h q.c,q.z,q.k,q.nd,q.m,q.c,λ p hp=>let w:=q.i p hp;⟨w.m,w.c,let ⟨vs,h1,h2,h3⟩:=w.h;⟨vs,k _ _ h1 w.c,h2,h3.keep kx⟩⟩⟩
theorem Ev.step (E:Ev S ex env σ H n) (k:Ys S m H H'):Ev S ex env σ H' m:=⟨E.len,λ i w e=>(E.sl i w e).kp E.ch k.1,E.ch,E.al.step k,k.2⟩
theorem Ev.rep (E:Ev S ex env σ H n) (k:Ys S m H H') {d:J9i}{v:V}(r:Rep ex H d v):Rep ex H' d v:=r.keep (k.1.mono E.ch)
theorem Ev.reps (E:Ev S ex env σ H n) (k:Ys S m H H') {d:List J9i}{v:List V}(r:Reps ex H d v):Reps ex H' d v:=r.keep (k.1.mono E.ch)
theorem Ev.sub (E:Ev S ex env σ H n) (b:Bool):∀ a∈exm b S ex,a∈ex:=by
 cases b with
 | true=>exact λ a h=>h
 | false=>exact E.ch
theorem Ev.sup (E:Ev S ex env σ H n) (b:Bool):∀ a∈S.ch,a∈exm b S ex:=by
 cases b with
 | true=>exact E.ch
 | false=>exact λ a h=>h
theorem Ev.alm (E:Ev S ex env σ H n) (b:Bool):Alc (exm b S ex) H:=λ a h=>E.al a (E.sub b a h)
theorem Ev.repm (E:Ev S ex env σ H n) (b:Bool) (k:Ys S m H H') {d:J9i}{v:V}(r:Rep (exm b S ex) H d v):Rep (exm b S ex) H' d v:=r.keep (k.1.mono (E.sup b))
theorem Rep.nil {d:J9i}{v:V}(r:Rep ex H d v):Rep [] H d v:=Rep.mono (λ b hb=>by cases hb) r
theorem Reps.nil' {d:List J9i}{v:List V}(r:Reps ex H d v):Reps [] H d v:=Reps.mono (λ b hb=>by cases hb) r
theorem Jl {i:Nat}{v:V}(h:(σ[i]?).join=some v):σ[i]? = some (some v):=by
 cases e:σ[i]? with
 | none=>rw [e] at h;cases h
 | some o=>rw [e] at h;cases o with
  | none=>cases h
  | some u=>cases h;rfl
end
abbrev GE:=List Vl->Nat->(J9i->Nat->Prop)->Prop
abbrev GT:=List Vl->Nat->(Bool->Nat->Prop)->Prop
abbrev GA:=List Vl->Nat->(List Vl->Nat->Prop)->Prop
abbrev GN:=List Vl->Nat->(List J9i->Nat->Prop)->Prop
abbrev GSp:=List Vl->Nat->(J9i->Nat->Prop)->Prop
abbrev GSn:=List Vl->Nat->(List J9i->Nat->Prop)->Prop
def B4 (S:Src) (ex:List Addr) (H:Hp):List Vl->List V->Prop
 | [],[]=>True
 | a::as,v::vs=>SlR S ex H a (some v)/\B4 S ex H as vs
 | _,_=>False
class EV (m:Bool) (te:TE) (g:outParam GE):Prop where
 ev:∀ {S:Src} {ex:List Addr} {env:List Vl} {σ:L2.St} {H:Hp} {n:Nat} {Q:VK} {P:J9i->Nat->Prop},Ev S ex env σ H n->g env n P->(∀ d n' v H',P d n'->Ys S n' H H'->Rep (exm m S ex) H' d v->Q v H')->te σ H Q
class NV (te:TE) (g:outParam GN):Prop where
 nv:∀ {S:Src} {ex:List Addr} {env:List Vl} {σ:L2.St} {H:Hp} {n:Nat} {Q:VK} {P:List J9i->Nat->Prop},Ev S ex env σ H n->g env n P->(∀ ds n' a vs H',P ds n'->Ys S n' H H'->H a=none->H' a=some (.lst vs)->vs.length<=sizeLine->Reps (a::ex) H' ds vs->Q (.ref a) H')->te σ H Q
class TV (tt:TT) (g:outParam GT):Prop where
 tv:∀ {S:Src} {ex:List Addr} {env:List Vl} {σ:L2.St} {H:Hp} {n:Nat} {Q:Bool->Hp->Prop} {P:Bool->Nat->Prop},Ev S ex env σ H n->g env n P->(∀ b n' H',P b n'->Ys S n' H H'->Q b H')->tt σ H Q
class AV (m:Bool) (ta:TA) (g:outParam GA):Prop where
 av:∀ {S:Src} {ex:List Addr} {env:List Vl} {σ:L2.St} {H:Hp} {n:Nat} {Q:List V->Hp->Prop} {P:List Vl->Nat->Prop},Ev S ex env σ H n->g env n P->(∀ as n' vs H',P as n'->Ys S n' H H'->B4 S (exm m S ex) H' as vs->Q vs H')->ta σ H Q
class DV (m:Bool) (ta:TA) (g:outParam GN):Prop where
 dv:∀ {S:Src} {ex:List Addr} {env:List Vl} {σ:L2.St} {H:Hp} {n:Nat} {Q:List V->Hp->Prop} {P:List J9i->Nat->Prop},Ev S ex env σ H n->g env n P->(∀ ds n' vs H',P ds n'->Ys S n' H H'->Reps (exm m S ex) H' ds vs->Q vs H')->ta σ H Q
abbrev G2:=J9i->J9i->(J9i->Prop)->Prop
class OV (r:R2) (f:outParam G2):Prop where
 ov:∀ {ex:List Addr} {H:Hp} {x y:V} {dx dy:J9i} {Q:VK} {P:J9i->Prop},Alc ex H->Rep ex H dx x->Rep ex H dy y->f dx dy P->(∀ d v H',P d->Kp [] H H'->Rep ex H' d v->Q v H')->r x y H Q
class OS (r:R2) (f:outParam G2):Prop where
 os:∀ {H:Hp} {x y:V} {dx dy:J9i} {Q:VK} {P:J9i->Prop},Rep [] H dx x->Rep [] H dy y->f dx dy P->(∀ d v,P d->(∀ ex,Rep ex H d v)->Q v H)->r x y H Q
class ON (r:R2) (f:outParam (J9i->J9i->(List J9i->Prop)->Prop)):Prop where
 on:∀ {ex:List Addr} {H:Hp} {x y:V} {dx dy:J9i} {Q:VK} {P:List J9i->Prop},Rep ex H dx x->Rep ex H dy y->f dx dy P->(∀ ds p vs,P ds->H p=none->vs.length<=sizeLine->Reps ex H ds vs->Q (.ref p) (upd H p (.lst vs)))->r x y H Q
abbrev G1:=List J9i->(J9i->Prop)->Prop
class CS (r:List V->Hp->VK->Prop) (f:outParam G1):Prop where
 cs:∀ {H:Hp} {xs:List V} {ds:List J9i} {Q:VK} {P:J9i->Prop},Reps [] H ds xs->f ds P->(∀ d v,P d->(∀ ex,Rep ex H d v)->Q v H)->r xs H Q
class CO (r:List V->Hp->VK->Prop) (f:outParam G1):Prop where
 co:∀ {ex:List Addr} {H:Hp} {xs:List V} {ds:List J9i} {Q:VK} {P:J9i->Prop},Alc ex H->Reps ex H ds xs->f ds P->(∀ d v H',P d->Kp [] H H'->Rep ex H' d v->Q v H')->r xs H Q
class CN (r:List V->Hp->VK->Prop) (f:outParam (List J9i->(List J9i->Prop)->Prop)):Prop where
 cn:∀ {ex:List Addr} {H:Hp} {xs:List V} {ds:List J9i} {Q:VK} {P:List J9i->Prop},Reps ex H ds xs->f ds P->(∀ es p vs,P es->H p=none->vs.length<=sizeLine->Reps ex H es vs->Q (.ref p) (upd H p (.lst vs)))->r xs H Q
abbrev Jvm (i:Nat):GE:=λ env n Q=>match env[i]? with
 | some (.d x)=>Q x n
 | some (.pin _ x)=>Q x n
 | _=>False
abbrev Jxh (i:Nat):GE:=λ env n Q=>match env[i]? with
 | some (.d x)=>Q x n
 | some (.pin _ x)=>Q x n
 | some (.own xs)=>Q (.list xs) n
 | some (.own2 none ps)=>Q (.list (ps.map λ p=>.list p.2)) n
 | _=>False
theorem Je3 {S:Src}{ex:List Addr}{H:Hp}:∀ {ps:List (Addr×List J9i)},(∀ a∈S.ch,a∈ex)->(∀ p∈ps,In2 S ex H p)->Reps S.ch H (ps.map λ p=>X4 p.2) (Yt ps)
 | [],_,_=>.nil
 | p::ps,hc,h=>by
  have w:=h p Qg
  obtain ⟨vs,h1,h2,h3⟩:=w.h
  exact .cons (.list h1 w.c h2 (Reps.mono hc h3)) (Je3 hc λ q hq=>h q (Qh _ hq))
abbrev gC (d:J9i):GE:=λ _ n Q=>Q d n
section
variable {S:Src}{n m:Nat}{H H1 H2 H':Hp}{ex:List Addr}{env:List Vl}{σ:L2.St}{b:Bool}{te ta tb tc:TE}{g ga gb gc:GE}
instance ev_var {i:Nat}:EV true (Ze i) (Jvm i):=⟨λ {S ex env σ H n Q P} E h k=>by
 unfold Jvm at h
 split at h
 . rename_i x e
   obtain ⟨v,ev,r⟩:=E.sl i _ e
   exact ⟨v,Jl ev,k _ _ v H h (.refl E.inv) r⟩
 . rename_i v x e
   obtain ⟨ev,r⟩:=E.sl i _ e
   exact ⟨v,Jl ev,k _ _ v H h (.refl E.inv) r⟩
 . exact h.elim⟩
instance pv_var {i:Nat}:EV false (Ze i) (Jxh i):=⟨λ {S ex env σ H n Q P} E h k=>by
 unfold Jxh at h
 split at h
 . rename_i x e
   obtain ⟨v,ev,r⟩:=E.sl i _ e
   exact ⟨v,Jl ev,k _ _ v H h (.refl E.inv) (Rep.mono E.ch r)⟩
 . rename_i v x e
   obtain ⟨ev,r⟩:=E.sl i _ e
   exact ⟨v,Jl ev,k _ _ v H h (.refl E.inv) (Rep.mono E.ch r)⟩
 . rename_i xs e
   obtain ⟨a,vs,ev,h1,h2,h3,h4,h5⟩:=E.sl i _ e
   exact ⟨_,Jl ev,k _ _ _ H h (.refl E.inv) (.list h1 h5 h2 (Reps.mono E.ch h3))⟩
 . rename_i ps e
   obtain ⟨a,ev,q⟩:=E.sl i _ e
   have hs:sizeLine=16777216:=J9p
   exact ⟨_,Jl ev,k _ _ _ H h (.refl E.inv) (.list q.h q.c (by unfold Yt;rw [Qb];have:=q.z;omega) (Je3 E.ch q.i))⟩
 . exact h.elim⟩
instance ev_int {i:Int}:EV b (tC (.int i)) (gC (.int i)):=⟨λ E h k=>k _ _ _ _ h (.refl E.inv) (.int i)⟩
instance ev_bl {i:Bool}:EV b (tC (.bl i)) (gC (.bool i)):=⟨λ E h k=>k _ _ _ _ h (.refl E.inv) (.bool i)⟩
instance ev_str {i:Str}:EV b (tC (.str i)) (gC (.str i)):=⟨λ E h k=>k _ _ _ _ h (.refl E.inv) (.str i)⟩
instance ev_non:EV b (tC .non) (gC .none):=⟨λ E h k=>k _ _ _ _ h (.refl E.inv) .none⟩
abbrev gOp (f:G2) (ga gb:GE):GE:=λ env n Q=>ga env n λ x n1=>gb env n1 λ y n2=>f x y λ d=>Q d n2
instance ev_opS {r:R2}{f:G2} [O:OS r f] [A:EV false ta ga] [B:EV false tb gb]:EV b (tOp r ta tb) (gOp f ga gb):=⟨λ {S ex env σ H n Q P} E h k=>by
 refine A.ev E h λ x n1 v1 H1 h1 s1 r1=>B.ev (E.step s1) h1 λ y n2 v2 H2 h2 s2 r2=>?_
 exact O.os (Rep.nil ((E.step s1).repm false s2 r1)) (Rep.nil r2) h2 λ d v p r=>k _ _ _ _ p (s1.trans s2) (r _)⟩
instance (priority:=low) ev_op {r:R2}{f:G2} [O:OV r f] [A:EV b ta ga] [B:EV b tb gb]:EV b (tOp r ta tb) (gOp f ga gb):=⟨λ {S ex env σ H n Q P} E h k=>by
 refine A.ev E h λ x n1 v1 H1 h1 s1 r1=>B.ev (E.step s1) h1 λ y n2 v2 H2 h2 s2 r2=>?_
 exact O.ov ((E.step (s1.trans s2)).alm b) ((E.step s1).repm b s2 r1) r2 h2 λ d v H' p kp r=>k _ _ _ _ p ((s1.trans s2).then kp) r⟩
abbrev J1q (g:GN):GE:=λ env n Q=>g env n λ ds n'=>Q (.list ds) n'
instance (priority:=low) ev_nv {g:GN} [N:NV te g]:EV b te (J1q g):=⟨λ {S ex env σ H n Q P} E h k=>
 N.nv E h λ ds n' a vs H' p st ha hl hz r=>k _ _ _ _ p st (.list hl (λ z=>E.alm b a z ha) hz (Reps.mono (λ c hc=>Qh _ (E.sub b c hc)) r))⟩
abbrev J1r (f:J9i->J9i->(List J9i->Prop)->Prop) (ga gb:GE):GN:=λ env n Q=>ga env n λ x n1=>gb env n1 λ y n2=>f x y λ d=>Q d n2
theorem B5 {S:Src}{ex:List Addr}{env:List Vl}{σ:L2.St}{H H1:Hp}{n n1:Nat}{p:Addr}{vs:List V}{ds:List J9i}(E:Ev S ex env σ H n) (s:Ys S n1 H H1) (hp:H1 p=none) (r:Reps ex H1 ds vs) :
 Ys S n1 H (upd H1 p (.lst vs))/\H p=none/\Reps (p::ex) (upd H1 p (.lst vs)) ds vs:=
 ⟨s.then (Kp.new hp _),s.free hp,(Reps.add hp r).keep (Kp.new hp _)⟩
instance nv_op {r:R2}{f:J9i->J9i->(List J9i->Prop)->Prop} [O:ON r f] [A:EV true ta ga] [B:EV true tb gb]:NV (tOp r ta tb) (J1r f ga gb):=⟨λ {S ex env σ H n Q P} E h k=>by
 refine A.ev E h λ x n1 v1 H1 h1 s1 r1=>B.ev (E.step s1) h1 λ y n2 v2 H2 h2 s2 r2=>?_
 refine O.on ((E.step s1).repm true s2 r1) r2 h2 λ ds p vs pp hp hz r=>?_
 obtain ⟨c1,c2,c3⟩:=B5 E (s1.trans s2) hp r
 exact k _ _ _ _ _ pp c1 c2 Jg hz c3⟩
abbrev J0h:GA:=λ _ n Q=>Q [] n
abbrev J0i (i:Nat) (rest:GA):GA:=λ env n Q=>match env[i]? with
 | some (.d x)=>rest env n λ as n'=>Q (.d x::as) n'
 | some .jar=>rest env n λ as n'=>Q (.jar::as) n'
 | some .tape=>rest env n λ as n'=>Q (.tape::as) n'
 | _=>False
abbrev Jxi (i:Nat) (rest:GA):GA:=λ env n Q=>match env[i]? with
 | some (.d x)=>rest env n λ as n'=>Q (.d x::as) n'
 | some (.own xs)=>rest env n λ as n'=>Q (.d (.list xs)::as) n'
 | some (.own2 none ps)=>rest env n λ as n'=>Q (.d (.list (ps.map λ p=>.list p.2))::as) n'
 | some .jar=>rest env n λ as n'=>Q (.jar::as) n'
 | some .tape=>rest env n λ as n'=>Q (.tape::as) n'
 | _=>False
abbrev Jys (g:GE) (rest:GA):GA:=λ env n Q=>g env n λ d n1=>rest env n1 λ as n2=>Q (.d d::as) n2
abbrev J0j:GN:=λ _ n Q=>Q [] n
abbrev Jyt (g:GE) (rest:GN):GN:=λ env n Q=>g env n λ d n1=>rest env n1 λ as n2=>Q (d::as) n2
instance av_nil:AV b Jam J0h:=⟨λ E h k=>k _ _ _ _ h (.refl E.inv) trivial⟩
instance (priority:=low) av_cons {t:TA}{gt:GA} [A:EV b te g] [B:AV b t gt]:AV b (Ye te t) (Jys g gt):=⟨λ {S ex env σ H n Q P} E h k=>
 A.ev E h λ x n1 v1 H1 h1 s1 r1=>B.av (E.step s1) h1 λ as n2 vs H2 h2 s2 r2=>k _ _ _ _ h2 (s1.trans s2) ⟨⟨_,rfl,(E.step s1).repm b s2 r1⟩,r2⟩⟩
instance av_var {t:TA}{gt:GA}{i:Nat} [B:AV true t gt]:AV true (Ye (Ze i) t) (J0i i gt):=⟨λ {S ex env σ H n Q P} E h k=>by
 unfold J0i at h
 split at h
 . rename_i x e
   obtain ⟨v,ev,r⟩:=E.sl i _ e
   exact ⟨v,Jl ev,B.av E h λ as n2 vs H2 h2 s2 r2=>k _ _ _ _ h2 s2 ⟨⟨_,rfl,E.repm true s2 r⟩,r2⟩⟩
 . rename_i e
   obtain ⟨p,c,hS,ev⟩:=E.sl i _ e
   exact ⟨_,Jl ev,B.av E h λ as n2 vs H2 h2 s2 r2=>k _ _ _ _ h2 s2 ⟨⟨p,c,hS,rfl⟩,r2⟩⟩
 . rename_i e
   obtain ⟨p,c,hS,ev⟩:=E.sl i _ e
   exact ⟨_,Jl ev,B.av E h λ as n2 vs H2 h2 s2 r2=>k _ _ _ _ h2 s2 ⟨⟨p,c,hS,rfl⟩,r2⟩⟩
 . exact h.elim⟩
instance av_look {t:TA}{gt:GA}{i:Nat} [B:AV false t gt]:AV false (Ye (Ze i) t) (Jxi i gt):=⟨λ {S ex env σ H n Q P} E h k=>by
 unfold Jxi at h
 split at h
 . rename_i x e
   obtain ⟨v,ev,r⟩:=E.sl i _ e
   exact ⟨v,Jl ev,B.av E h λ as n2 vs H2 h2 s2 r2=>k _ _ _ _ h2 s2 ⟨⟨_,rfl,E.repm false s2 (Rep.mono E.ch r)⟩,r2⟩⟩
 . rename_i xs e
   obtain ⟨a,vs,ev,h1,h2,h3,h4,h5⟩:=E.sl i _ e
   exact ⟨_,Jl ev,B.av E h λ as n2 vs' H2 hh s2 r2=>k _ _ _ _ hh s2 ⟨⟨_,rfl,E.repm false s2 (.list h1 h5 h2 (Reps.mono E.ch h3))⟩,r2⟩⟩
 . rename_i ps e
   obtain ⟨a,ev,q⟩:=E.sl i _ e
   exact ⟨_,Jl ev,B.av E h λ as n2 vs' H2 hh s2 r2=>k _ _ _ _ hh s2 ⟨⟨_,rfl,E.repm false s2 (.list q.h q.c (by unfold Yt;rw [Qb,J9p];have:=q.z;omega) (Je3 E.ch q.i))⟩,r2⟩⟩
 . rename_i e
   obtain ⟨p,c,hS,ev⟩:=E.sl i _ e
   exact ⟨_,Jl ev,B.av E h λ as n2 vs H2 h2 s2 r2=>k _ _ _ _ h2 s2 ⟨⟨p,c,hS,rfl⟩,r2⟩⟩
 . rename_i e
   obtain ⟨p,c,hS,ev⟩:=E.sl i _ e
   exact ⟨_,Jl ev,B.av E h λ as n2 vs H2 h2 s2 r2=>k _ _ _ _ h2 s2 ⟨⟨p,c,hS,rfl⟩,r2⟩⟩
 . exact h.elim⟩
instance dv_nil:DV b Jam J0j:=⟨λ E h k=>k _ _ _ _ h (.refl E.inv) .nil⟩
instance dv_cons {t:TA}{gt:GN} [A:EV b te g] [B:DV b t gt]:DV b (Ye te t) (Jyt g gt):=⟨λ {S ex env σ H n Q P} E h k=>
 A.ev E h λ x n1 v1 H1 h1 s1 r1=>B.dv (E.step s1) h1 λ as n2 vs H2 h2 s2 r2=>k _ _ _ _ h2 (s1.trans s2) (.cons ((E.step s1).repm b s2 r1) r2)⟩
abbrev J0k (t:GN):GE:=λ env n Q=>t env n λ ds n1=>ds.length<=sizeLine/\Q (.tuple ds) n1
abbrev J0l (t:GN):GN:=λ env n Q=>t env n λ ds n1=>ds.length<=sizeLine/\Q ds n1
instance ev_tup {t:TA}{gt:GN} [A:DV b t gt]:EV b (Jva t) (J0k gt):=⟨λ {S ex env σ H n Q P} E h k=>
 A.dv E h λ ds n1 vs H1 h1 s1 r1=>⟨by rw [<- r1.length];exact h1.1,λ p hp=>k _ _ _ _ h1.2 (s1.then (Kp.new hp _)) (.tuple Jg ((E.step s1).alm b |>.nm hp) (by rw [<- r1.length];exact h1.1) (r1.keep (Kp.new hp _)))⟩⟩
instance nv_lst {t:TA}{gt:GN} [A:DV true t gt]:NV (Jyh t) (J0l gt):=⟨λ {S ex env σ H n Q P} E h k=>
 A.dv E h λ ds n1 vs H1 h1 s1 r1=>⟨by rw [<- r1.length];exact h1.1,λ p hp=>by
  obtain ⟨c1,c2,c3⟩:=B5 E s1 hp r1
  exact k _ _ _ _ _ h1.2 c1 c2 Jg (by rw [<- r1.length];exact h1.1) c3⟩⟩
abbrev gCB (f:G1) (t:GN):GE:=λ env n Q=>t env n λ ds n1=>f ds λ d=>Q d n1
abbrev J1s (f:List J9i->(List J9i->Prop)->Prop) (t:GN):GN:=λ env n Q=>t env n λ ds n1=>f ds λ d=>Q d n1
instance ev_cs {r:List V->Hp->VK->Prop}{f:G1}{t:TA}{gt:GN} [C:CS r f] [A:DV false t gt]:EV b (tCB r t) (gCB f gt):=⟨λ {S ex env σ H n Q P} E h k=>
 A.dv E h λ ds n1 vs H1 h1 s1 r1=>C.cs (Reps.nil' r1) h1 λ d v p r=>k _ _ _ _ p s1 (r _)⟩
instance (priority:=low) ev_co {r:List V->Hp->VK->Prop}{f:G1}{t:TA}{gt:GN} [C:CO r f] [A:DV b t gt]:EV b (tCB r t) (gCB f gt):=⟨λ {S ex env σ H n Q P} E h k=>
 A.dv E h λ ds n1 vs H1 h1 s1 r1=>C.co ((E.step s1).alm b) r1 h1 λ d v H' p kp r=>k _ _ _ _ p (s1.then kp) r⟩
instance nv_cn {r:List V->Hp->VK->Prop}{f:List J9i->(List J9i->Prop)->Prop}{t:TA}{gt:GN} [C:CN r f] [A:DV true t gt]:NV (tCB r t) (J1s f gt):=⟨λ {S ex env σ H n Q P} E h k=>
 A.dv E h λ ds n1 vs H1 h1 s1 r1=>C.cn r1 h1 λ es p ws pp hp hz r=>by
  obtain ⟨c1,c2,c3⟩:=B5 E s1 hp r
  exact k _ _ _ _ _ pp c1 c2 Jg hz c3⟩
def Jm (sp:GSp):Sp:=λ vs H Q _=>∃ (S:Src) (ex:List Addr) (as:List Vl) (n:Nat) (P:J9i->Nat->Prop),B4 S ex H as vs/\(∀ a∈S.ch,a∈ex)/\Alc ex H/\S.inv n H/\sp as n P/\∀ d n' v H',P d n'->Ys S n' H H'->Rep ex H' d v->Q v H'
def Z9 (sp:GSn):Sp:=λ vs H Q _=>∃ (S:Src) (ex:List Addr) (as:List Vl) (n:Nat) (P:List J9i->Nat->Prop),B4 S ex H as vs/\(∀ a∈S.ch,a∈ex)/\Alc ex H/\S.inv n H/\sp as n P/\∀ ds n' a ws H',P ds n'->Ys S n' H H'->H a=none->H' a=some (.lst ws)->ws.length<=sizeLine->Reps (a::ex) H' ds ws->Q (.ref a) H'
noncomputable def W9:J9i->Bool
 | .none | .bool _ | .int _ | .str _=>true
 | _=>false
theorem Jg6 {d:J9i}{v:V}(h:W9 d=true) (r:Rep ex H d v):∀ ex',Rep ex' H d v:=λ ex'=>by
 cases r with
 | none=>exact .none
 | bool b=>exact .bool b
 | int i=>exact .int i
 | str x=>exact .str x
 | tuple=>cases h
 | list=>cases h
 | obj=>cases h
class Scal (sp:GSp):Prop where
 sc:∀ {as:List Vl} {n:Nat} {P:J9i->Nat->Prop},sp as n P->sp as n λ d n'=>W9 d=true/\P d n'
abbrev Jxj (sp:GSp) (ga:GA):GE:=λ env n Q=>ga env n λ as n1=>sp as n1 Q
abbrev Jyu (sp:GSn) (ga:GA):GN:=λ env n Q=>ga env n λ as n1=>sp as n1 Q
instance ev_callS {sp:GSp}{E':XK}{t:TA}{gt:GA} [Z:Scal sp] [A:AV false t gt]:EV b (Ji7 (Jm sp) [] E' t) (Jxj sp gt):=⟨λ {S ex env σ H n Q P} E h k=>
 A.av E h λ as n1 vs H1 h1 s1 r1=>by
  rw [Uu]
  exact ⟨S,S.ch,as,n1,_,r1,λ _ h=>h,λ a ha=>(E.step s1).al a (E.ch a ha),s1.2,Z.sc h1,λ d n' v H' p s2 r=>k _ _ _ _ p.2 (s1.trans s2) (Jg6 p.1 r _)⟩⟩
instance (priority:=low) ev_call {sp:GSp}{E':XK}{t:TA}{gt:GA} [A:AV b t gt]:EV b (Ji7 (Jm sp) [] E' t) (Jxj sp gt):=⟨λ {S ex env σ H n Q P} E h k=>
 A.av E h λ as n1 vs H1 h1 s1 r1=>by
  rw [Uu]
  exact ⟨S,exm b S ex,as,n1,_,r1,E.sup b,(E.step s1).alm b,s1.2,h1,λ d n' v H' p s2 r=>k _ _ _ _ p (s1.trans s2) r⟩⟩
instance nv_call {sp:GSn}{E':XK}{t:TA}{gt:GA} [A:AV true t gt]:NV (Ji7 (Z9 sp) [] E' t) (Jyu sp gt):=⟨λ {S ex env σ H n Q P} E h k=>
 A.av E h λ as n1 vs H1 h1 s1 r1=>by
  rw [Uu]
  exact ⟨S,ex,as,n1,_,r1,E.ch,(E.step s1).al,s1.2,h1,λ ds n' a ws H' p s2 ha hl hz r=>k _ _ _ _ _ p (s1.trans s2) (s1.free ha) hl hz r⟩⟩
abbrev Jxk (g:GE):GT:=λ env n Q=>g env n λ d n1=>match d with
 | .bool c=>Q c n1
 | _=>False
theorem Jb5 {d:J9i}{n:Nat}{Q:Bool->Nat->Prop}{v:V}(h:match d with | .bool c=>Q c n | _=>False) (r:Rep ex H d v):∃ c,v = .bl c/\Q c n:=by
 cases r with
 | bool c=>exact ⟨c,rfl,h⟩
 | none=>exact h.elim
 | obj=>exact h.elim
 | int=>exact h.elim
 | str=>exact h.elim
 | tuple=>exact h.elim
 | list=>exact h.elim
instance tv_test [A:EV false te g]:TV (Jw9 te) (Jxk g):=⟨λ {S ex env σ H n Q P} E h k=>A.ev E h λ d n1 v H1 h1 s1 r1=>by
 obtain ⟨c,e,q⟩:=Jb5 h1 r1
 exact ⟨c,e,k _ _ _ q s1⟩⟩
instance tv_b [A:EV false te g]:TV (tB te) (Jxk g):=⟨λ {S ex env σ H n Q P} E h k=>A.ev E h λ d n1 v H1 h1 s1 r1=>by
 obtain ⟨c,e,q⟩:=Jb5 h1 r1
 exact ⟨c,e,k _ _ _ q s1⟩⟩
abbrev J1t (a b:GT):GT:=λ env n Q=>a env n λ c n1=>if c=true then b env n1 Q else Q false n1
abbrev gOr (a b:GT):GT:=λ env n Q=>a env n λ c n1=>if c=true then Q true n1 else b env n1 Q
abbrev J1u (a:GT):GT:=λ env n Q=>a env n λ c n1=>Q (!c) n1
instance tv_and {t u:TT}{gt gu:GT} [A:TV t gt] [B:TV u gu]:TV (Jzy t u) (J1t gt gu):=⟨λ {S ex env σ H n Q P} E h k=>A.tv E h λ c n1 H1 h1 s1=>by
 cases c with
 | true=>exact B.tv (E.step s1) h1 λ c n2 H2 h2 s2=>k _ _ _ h2 (s1.trans s2)
 | false=>exact k _ _ _ h1 s1⟩
instance tv_or {t u:TT}{gt gu:GT} [A:TV t gt] [B:TV u gu]:TV (tOr t u) (gOr gt gu):=⟨λ {S ex env σ H n Q P} E h k=>A.tv E h λ c n1 H1 h1 s1=>by
 cases c with
 | false=>exact B.tv (E.step s1) h1 λ c n2 H2 h2 s2=>k _ _ _ h2 (s1.trans s2)
 | true=>exact k _ _ _ h1 s1⟩
instance tv_not {t:TT}{gt:GT} [A:TV t gt]:TV (Jzz t) (J1u gt):=⟨λ {S ex env σ H n Q P} E h k=>A.tv E h λ c n1 H1 h1 s1=>k _ _ _ h1 s1⟩
instance tv_noTest:TV Jgd (λ _ n Q=>Q true n):=⟨λ {S ex env σ H n Q P} E h k=>k _ _ _ h (.refl E.inv)⟩
abbrev gIf (t:GT) (a b:GE):GE:=λ env n Q=>t env n λ c n1=>if c=true then a env n1 Q else b env n1 Q
instance ev_if {t:TT}{gt:GT} [T:TV t gt] [A:EV b ta ga] [B:EV b tb gb]:EV b (tIf t ta tb) (gIf gt ga gb):=⟨λ {S ex env σ H n Q P} E h k=>T.tv E h λ c n1 H1 h1 s1=>by
 cases c with
 | true=>exact A.ev (E.step s1) h1 λ d n2 v H2 h2 s2 r=>k _ _ _ _ h2 (s1.trans s2) r
 | false=>exact B.ev (E.step s1) h1 λ d n2 v H2 h2 s2 r=>k _ _ _ _ h2 (s1.trans s2) r⟩
abbrev J0m (a b:GE):GE:=λ env n Q=>a env n λ d n1=>match d with
 | .bool c=>if c=true then b env n1 Q else Q (.bool false) n1
 | _=>False
abbrev J1v (a b:GE):GE:=λ env n Q=>a env n λ d n1=>match d with
 | .bool c=>if c=true then Q (.bool true) n1 else b env n1 Q
 | _=>False
abbrev J0n (a:GE):GE:=λ env n Q=>a env n λ d n1=>match d with
 | .bool c=>Q (.bool (!c)) n1
 | _=>False
instance ev_andV [A:EV false ta ga] [B:EV b tb gb]:EV b (Jw3 ta tb) (J0m ga gb):=⟨λ {S ex env σ H n Q P} E h k=>A.ev E h λ d n1 v H1 h1 s1 r1=>by
 obtain ⟨c,e,q⟩:=Jb5 (Q:=λ c n1=>if c=true then gb env n1 P else P (.bool false) n1) h1 r1
 refine ⟨c,e,?_⟩
 cases c with
 | true=>exact B.ev (E.step s1) q λ d n2 v H2 h2 s2 r=>k _ _ _ _ h2 (s1.trans s2) r
 | false=>exact k _ _ _ _ q s1 (.bool _)⟩
instance ev_orV [A:EV false ta ga] [B:EV b tb gb]:EV b (Jz0 ta tb) (J1v ga gb):=⟨λ {S ex env σ H n Q P} E h k=>A.ev E h λ d n1 v H1 h1 s1 r1=>by
 obtain ⟨c,e,q⟩:=Jb5 (Q:=λ c n1=>if c=true then P (.bool true) n1 else gb env n1 P) h1 r1
 refine ⟨c,e,?_⟩
 cases c with
 | false=>exact B.ev (E.step s1) q λ d n2 v H2 h2 s2 r=>k _ _ _ _ h2 (s1.trans s2) r
 | true=>exact k _ _ _ _ q s1 (.bool _)⟩
instance ev_notV [A:EV false ta ga]:EV b (Jw4 ta) (J0n ga):=⟨λ {S ex env σ H n Q P} E h k=>A.ev E h λ d n1 v H1 h1 s1 r1=>by
 obtain ⟨c,e,q⟩:=Jb5 (Q:=λ c n1=>P (.bool (!c)) n1) h1 r1
 exact ⟨c,e,k _ _ _ _ q s1 (.bool _)⟩⟩
abbrev gUn (f:J9i->(J9i->Prop)->Prop) (a:GE):GE:=λ env n Q=>a env n λ d n1=>f d λ e=>Q e n1
abbrev fU (f:Int->V):J9i->(J9i->Prop)->Prop:=λ d Q=>match d with
 | .int i=>(match f i with | .int k=>Q (.int k) | _=>False)
 | _=>False
instance ev_unI {f:Int->V} [A:EV false ta ga]:EV b (tUn (rU f) ta) (gUn (fU f) ga):=⟨λ {S ex env σ H n Q P} E h k=>A.ev E h λ d n1 v H1 h1 s1 r1=>by
 cases r1 with
 | int i=>
  unfold fU at h1
  refine ⟨i,rfl,?_⟩
  dsimp only at h1
  split at h1
  . rename_i j e;rw [e];exact k _ _ _ _ h1 s1 (.int _)
  . exact h1.elim
 | none=>exact h1.elim
 | obj=>exact h1.elim
 | bool=>exact h1.elim
 | str=>exact h1.elim
 | tuple=>exact h1.elim
 | list=>exact h1.elim⟩
end
abbrev ofV:V->(J9i->Prop)->Prop
 | .int k,Q=>Q (.int k)
 | .bl c,Q=>Q (.bool c)
 | .str s,Q=>Q (.str s)
 | .non,Q=>Q .none
 | _,_=>False
theorem Jpq {v:V}{P:J9i->Prop}{H:Hp}(h:ofV v P):∃ d,P d/\∀ ex,Rep ex H d v:=by
 cases v with
 | int k=>exact ⟨_,h,λ _=>.int k⟩
 | bl k=>exact ⟨_,h,λ _=>.bool k⟩
 | str k=>exact ⟨_,h,λ _=>.str k⟩
 | non=>exact ⟨_,h,λ _=>.none⟩
 | byt _=>exact h.elim
 | flt _=>exact h.elim
 | ref _=>exact h.elim
 | ty _=>exact h.elim
abbrev fI0 (f:Int->Int->V):G2:=λ x y Q=>match x,y with
 | .int i,.int j=>ofV (f i j) Q
 | _,_=>False
abbrev fI (C:Int->Int->Prop) (f:Int->Int->V):G2:=λ x y Q=>match x,y with
 | .int i,.int j=>C i j/\ofV (f i j) Q
 | _,_=>False
theorem ints_inv {ex:List Addr}{H:Hp}{dx dy:J9i}{x y:V}{A:Int->Int->Prop}(h:match dx,dy with | .int i,.int j=>A i j | _,_=>False) (r1:Rep ex H dx x) (r2:Rep ex H dy y):∃ i j,x = .int i/\y = .int j/\A i j:=by
 split at h
 . cases r1;cases r2;exact ⟨_,_,rfl,rfl,h⟩
 . exact h.elim
instance os_I0 {f:Int->Int->V}:OS (rI0 f) (fI0 f):=⟨λ {H x y dx dy Q P} r1 r2 h k=>by
 obtain ⟨i,j,rfl,rfl,h⟩:=ints_inv (A:=λ i j=>ofV (f i j) P) h r1 r2
 obtain ⟨d,p,r⟩:=Jpq (H:=H) h
 exact ⟨i,j,rfl,rfl,k _ _ p r⟩⟩
instance os_I {C:Int->Int->Prop}{f:Int->Int->V}:OS (rI C f) (fI C f):=⟨λ {H x y dx dy Q P} r1 r2 h k=>by
 obtain ⟨i,j,rfl,rfl,hc,h⟩:=ints_inv (A:=λ i j=>C i j/\ofV (f i j) P) h r1 r2
 obtain ⟨d,p,r⟩:=Jpq (H:=H) h
 exact ⟨i,j,rfl,rfl,hc,k _ _ p r⟩⟩
noncomputable def eqS:J9i->J9i->Option Bool
 | .int i,.int j=>some (decide (i=j))
 | .str a,.str b=>some (decide (a=b))
 | .bool a,.bool b=>some (decide (a=b))
 | .none,.none=>some true
 | .none,.int _ | .none,.bool _ | .none,.str _ | .int _,.none | .bool _,.none | .str _,.none=>some false
 | .int _,.str _ | .str _,.int _ | .bool _,.str _ | .str _,.bool _=>some false
 | _,_=>none
def fEq (neg:Bool):G2:=λ x y Q=>match eqS x y with
 | some c=>Q (.bool (if neg then !c else c))
 | none=>False
theorem Jst {ex:List Addr}{H:Hp}{dx dy:J9i}{x y:V}{c:Bool}(h:eqS dx dy=some c) (r1:Rep ex H dx x) (r2:Rep ex H dy y):Ju4 x y=true/\decide (x=y)=c:=by
 cases r1<;>cases r2<;>simp [eqS] at h<;>subst h<;>simp [Ju4]
instance os_eq:OS rEq (fEq false):=⟨λ {H x y dx dy Q P} r1 r2 h k=>by
 unfold fEq at h
 split at h
 . rename_i c e
   obtain ⟨h1,h2⟩:=Jst e r1 r2
   exact ⟨h1,by rw [h2];exact k _ _ h λ _=>.bool _⟩
 . exact h.elim⟩
instance os_ne:OS rNe (fEq true):=⟨λ {H x y dx dy Q P} r1 r2 h k=>by
 unfold fEq at h
 split at h
 . rename_i c e
   obtain ⟨h1,h2⟩:=Jst e r1 r2
   exact ⟨h1,by rw [h2];exact k _ _ h λ _=>.bool _⟩
 . exact h.elim⟩
def J1w (x y:J9i):Prop:=x.canLay0=true/\y.canLay0=true/\min x.depth y.depth<=50
def Jvn (neg:Bool):G2:=λ x y Q=>J1w x y/\Q (.bool (if neg then !X8 x y else X8 x y))
instance os_eqD:OS J0c (Jvn false):=⟨λ {H x y dx dy Q P} r1 r2 h k=>⟨[],dx,dy,r1,r2,h.1.1,h.1.2.1,h.1.2.2,k _ _ h.2 λ _=>.bool _⟩⟩
instance os_neD:OS J0d (Jvn true):=⟨λ {H x y dx dy Q P} r1 r2 h k=>⟨[],dx,dy,r1,r2,h.1.1,h.1.2.1,h.1.2.2,k _ _ h.2 λ _=>.bool _⟩⟩
noncomputable def Jc7:J9i->Bool
 | .none=>true
 | _=>false
abbrev J1x (neg:Bool):G2:=λ x y Q=>Jc7 y=true/\Q (.bool (if neg then !Jc7 x else Jc7 x))
theorem Jq5 {ex:List Addr}{H:Hp}{d:J9i}{v:V}(r:Rep ex H d v):decide (v = .non)=Jc7 d:=by
 cases r<;>simp [Jc7]
theorem Jsu {ex:List Addr}{H:Hp}{d:J9i}{v:V}(r:Rep ex H d v) (h:Jc7 d=true):v = .non:=by
 cases r<;>simp [Jc7] at h<;>rfl
instance os_isN:OS (λ x y H Q=>y = .non/\Q (.bl (decide (x = .non))) H) (J1x false):=⟨λ {H x y dx dy Q P} r1 r2 h k=>⟨Jsu r2 h.1,by rw [Jq5 r1];exact k _ _ h.2 λ _=>.bool _⟩⟩
noncomputable def inD (x:J9i) (xs:List J9i):Bool:=xs.any λ y=>X8 y x
def fIn (neg:Bool):G2:=λ x y Q=>match y with
 | .list xs=>W9 x=true/\xs.all W9=true/\Q (.bool (if neg then !inD x xs else inD x xs))
 | .tuple xs=>W9 x=true/\xs.all W9=true/\Q (.bool (if neg then !inD x xs else inD x xs))
 | _=>False
theorem Jkb {ex:List Addr}{H:Hp}{d:J9i}{v:V}(r:Rep ex H d v) (h:W9 d=true):Jc1 v=true:=by
 cases r<;>first | rfl | cases h
theorem Jg7 {ex:List Addr}{H:Hp}:∀ {ds:List J9i}{vs:List V},Reps ex H ds vs->ds.all W9=true->vs.all Jc1=true
 | _,_,.nil,_=>rfl
 | _,_,.cons r t,h=>by
  simp only [J3b,Uc] at h ⊢
  exact ⟨Jkb r h.1,Jg7 t h.2⟩
theorem Jyv {ex:List Addr}{H:Hp}{d e:J9i}{v w:V}(r:Rep ex H d v) (s:Rep ex H e w) (h:W9 d=true) (g:W9 e=true):eqV v w=X8 d e:=by
 cases r<;>cases s<;>first | rfl | (cases h;done) | (cases g;done) | simp [eqV,X8]
theorem Jsv {ex:List Addr}{H:Hp}{d:J9i}{v:V}(r:Rep ex H d v) (h:W9 d=true):∀ {ds:List J9i}{vs:List V},Reps ex H ds vs->ds.all W9=true->inV v vs=inD d ds
 | _,_,.nil,_=>rfl
 | _,_,.cons s t,g=>by
  simp only [J3b,Uc] at g
  have:=Jsv r h t g.2
  unfold inV inD at this ⊢
  rw [U4,U4,this,Jyv s r g.1 h]
instance os_in {K:Qc}{neg:Bool}:OS (rIn K neg) (fIn neg):=⟨λ {H x y dx dy Q P} r1 r2 h k=>by
 cases r2 with
 | list e _ _ rs=>exact ⟨_,_,rfl,.inl (SqL.of e),Jkb r1 h.1,Jg7 rs h.2.1,by rw [Jsv r1 h.1 rs h.2.1];exact k _ _ h.2.2 λ _=>.bool _⟩
 | tuple e _ _ rs=>exact ⟨_,_,rfl,.inr (SqT.of e),Jkb r1 h.1,Jg7 rs h.2.1,by rw [Jsv r1 h.1 rs h.2.1];exact k _ _ h.2.2 λ _=>.bool _⟩
 | none=>exact h.elim
 | obj=>exact h.elim
 | bool=>exact h.elim
 | int=>exact h.elim
 | str=>exact h.elim⟩
theorem Jkc {ex:List Addr}{H:Hp}{ds:List J9i}{vs:List V}{i:Int}{d:J9i}(r:Reps ex H ds vs) (h:atI ds i=some d):∃ v,atI vs i=some v/\Rep ex H d v:=by
 unfold atI at h ⊢
 rw [<- r.length]
 cases e:ixN ds.length i with
 | none=>rw [e] at h;cases h
 | some j=>rw [e] at h;exact r.get h
abbrev Jvo:G2:=λ x y Q=>match x,y with
 | .list xs,.int i=>∃ d,atI xs i=some d/\Q d
 | _,_=>False
abbrev J0o:G2:=λ x y Q=>match x,y with
 | .tuple xs,.int i=>∃ d,atI xs i=some d/\Q d
 | _,_=>False
instance ov_ixL {K:Qc}:OV (Jlt K) Jvo:=⟨λ {ex H x y dx dy Q P} al r1 r2 h k=>by
 unfold Jvo at h
 split at h
 . obtain ⟨d,e,p⟩:=h
   cases r2
   cases r1 with
   | list e1 _ _ rs=>
    obtain ⟨v,ev,r⟩:=Jkc rs e
    exact ⟨_,_,_,v,rfl,rfl,SqL.of e1,ev,k _ _ _ p .refl r⟩
 . exact h.elim⟩
instance ov_ixT {K:Qc}:OV (Jyk K) J0o:=⟨λ {ex H x y dx dy Q P} al r1 r2 h k=>by
 unfold J0o at h
 split at h
 . obtain ⟨d,e,p⟩:=h
   cases r2
   cases r1 with
   | tuple e1 _ _ rs=>
    obtain ⟨v,ev,r⟩:=Jkc rs e
    exact ⟨_,_,_,v,rfl,rfl,SqT.of e1,ev,k _ _ _ p .refl r⟩
 . exact h.elim⟩
abbrev J0p (i:Nat) (gb:GE):GE:=λ env n Q=>match env[i]? with
 | some (.own xs)=>gb env n λ y n1=>Jvo (.list xs) y λ d=>Q d n1
 | some (.d x)=>gb env n λ y n1=>Jvo x y λ d=>Q d n1
 | _=>False
instance (priority:=high) ev_ixO {K:Qc}{i:Nat}{tb:TE}{gb:GE} [B:EV true tb gb]:EV true (tOp (Jlt K) (Ze i) tb) (J0p i gb):=⟨λ {S ex env σ H n Q P} E h k=>by
 unfold J0p at h
 split at h
 . rename_i xs e
   obtain ⟨a,vs,ev,h1,h2,h3,h4,h5⟩:=E.sl i _ e
   refine ⟨_,Jl ev,B.ev E h λ y n1 v1 H1 hh s1 r1=>?_⟩
   cases r1 with
   | int j=>
    obtain ⟨d,ed,p⟩:=hh
    obtain ⟨v,ev2,r⟩:=Jkc (E.reps s1 h3) ed
    exact ⟨_,_,_,v,rfl,rfl,SqL.of (s1.1 _ _ h1 h5),ev2,k _ _ _ _ p s1 r⟩
   | none=>exact hh.elim
   | obj=>exact hh.elim
   | bool=>exact hh.elim
   | str=>exact hh.elim
   | tuple=>exact hh.elim
   | list=>exact hh.elim
 . rename_i x e
   obtain ⟨v,ev,r⟩:=E.sl i _ e
   refine ⟨v,Jl ev,B.ev E h λ y n1 v1 H1 hh s1 r1=>?_⟩
   exact (ov_ixL (K:=K)).ov (E.step s1).al (E.rep s1 r) r1 hh λ d v H' p kp r=>k _ _ _ _ p (s1.then kp) r
 . exact h.elim⟩
instance on_rep:ON J0a (λ x y Q=>match x,y with | .list xs,.int k=>(-(2^63)<=k/\k<2^63/\xs.length*k.toNat<=sizeLine)/\Q (Qr k.toNat xs).flatten | _,_=>False):=⟨λ {ex H x y dx dy Q P} r1 r2 h k=>by
 split at h
 . cases r1 with
   | list e1 _ _ rs=>
    cases r2
    have l1:=rs.length
    refine ⟨_,_,_,rfl,rfl,e1,h.1.1,h.1.2.1,by rw [<- l1];exact h.1.2.2,λ p hp=>k _ p _ h.2 hp ?_ (rs.rep _)⟩
    rw [Jdt,<- l1,J5s];exact h.1.2.2
 . exact h.elim⟩
def Jxl:G2:=λ x y Q=>match x,y with
 | .tuple xs,.int k=>xs≠[]/\-(2^63)<=k/\(xs.length:Int)*k<=sizeLine/\Q (.tuple (Qr k.toNat xs).flatten)
 | _,_=>False
instance ov_repT {K:Qc}:OV (Jsh K) Jxl:=⟨λ {ex H x y dx dy Q P} al r1 r2 h k=>by
 unfold Jxl at h
 split at h
 . obtain ⟨h1,h2,h3,h4⟩:=h
   rename_i xs k0
   cases r2
   cases r1 with
   | tuple e1 n1 z1 rs=>
    have l1:=rs.length
    refine Jsj e1 (λ z=>h1 (J6b.mp (by rw [l1,z];rfl))) h2 (by rw [<- l1];exact h3) λ t H' kp ht hf=>k _ _ _ h4 kp (.tuple ht ?_ ?_ ((rs.rep _).keep kp.of))
    . rcases hf with rfl | hf
      . exact n1
      . exact al.nm hf
    . rw [Jdt,<- l1]
      rcases J4p k0 0 with hk | hk
      . rw [show k0.toNat=0 by omega];simp
      . have:((k0.toNat*xs.length:Nat):Int)<=sizeLine:=by rw [J50,X3 hk,Xx];exact h3
        exact_mod_cast this
 . exact h.elim⟩
abbrev J0q:G1:=λ ds Q=>match ds with
 | [.list xs]=>Q (.int xs.length)
 | [.tuple xs]=>Q (.int xs.length)
 | _=>False
instance cs_len {K:Qc}:CS (λ xs H Q=>∃ p ys,xs=[.ref p]/\(SqL K H p ys\/SqT K H p ys)/\Q (.int ys.length) H) J0q:=⟨λ {H xs ds Q P} r h k=>by
 unfold J0q at h
 split at h
 . cases r with
   | cons r1 t=>
    cases t
    cases r1 with
    | list e _ _ rs=>exact ⟨_,_,rfl,.inl (SqL.of e),by rw [<- rs.length];exact k _ _ h λ _=>.int _⟩
 . cases r with
   | cons r1 t=>
    cases t
    cases r1 with
    | tuple e _ _ rs=>exact ⟨_,_,rfl,.inr (SqT.of e),by rw [<- rs.length];exact k _ _ h λ _=>.int _⟩
 . exact h.elim⟩
abbrev Jkd (ds:List J9i) (Q:List J9i->Prop):Prop:=match ds with
 | [.list xs]=>Q xs
 | [.tuple xs]=>Q xs
 | _=>False
instance cn_list {K:Qc}:CN (λ xs H Q=>∃ p ys,xs=[.ref p]/\(SqL K H p ys\/SqT K H p ys)/\∀ l,H l=none->Q (.ref l) (upd H l (.lst ys))) Jkd:=⟨λ {ex H xs ds Q P} r h k=>by
 unfold Jkd at h
 split at h
 . cases r with
   | cons r1 t=>
    cases t
    cases r1 with
    | list e _ z rs=>exact ⟨_,_,rfl,.inl (SqL.of e),λ l hl=>k _ l _ h hl z rs⟩
 . cases r with
   | cons r1 t=>
    cases t
    cases r1 with
    | tuple e _ z rs=>exact ⟨_,_,rfl,.inr (SqT.of e),λ l hl=>k _ l _ h hl z rs⟩
 . exact h.elim⟩
abbrev Jl3:G1:=λ ds Q=>match ds with
 | [.list xs]=>Q (.tuple xs)
 | [.tuple xs]=>Q (.tuple xs)
 | _=>False
instance co_tuple {K:Qc}:CO (λ xs H Q=>∃ p ys,xs=[.ref p]/\((SqL K H p ys/\∀ l,H l=none->Q (.ref l) (upd H l (.tup ys)))\/(SqT K H p ys/\Q (.ref p) H))) Jl3:=⟨λ {ex H xs ds Q P} al r h k=>by
 unfold Jl3 at h
 split at h
 . cases r with
   | cons r1 t=>
    cases t
    cases r1 with
    | list e _ z rs=>exact ⟨_,_,rfl,.inl ⟨SqL.of e,λ l hl=>k _ _ _ h (Kp.new hl _) (.tuple Jg (al.nm hl) z (rs.keep (Kp.new hl _)))⟩⟩
 . cases r with
   | cons r1 t=>
    cases t
    cases r1 with
    | tuple e n z rs=>exact ⟨_,_,rfl,.inr ⟨SqT.of e,k _ _ _ h .refl (.tuple e n z rs)⟩⟩
 . exact h.elim⟩
theorem Reps.bools_inv {ex:List Addr}{H:Hp}:∀ {ns:List Bool}{vs:List V},Reps ex H (ns.map J6e) vs->vs=ns.map V.bl
 | [],_,.nil=>rfl
 | n::r,_,.cons (.bool _) t=>by rw [Reps.bools_inv t];rfl
def J1y (c:Bool):G1:=λ ds Q=>∃ bs:List Bool,ds=[.list (bs.map .bool)]/\c=true/\Q (.bool (bs.all id))
instance cs_all {K:Qc}{c:Bool}:CS (λ xs H Q=>c=true/\∃ (p:Addr) (bs:List Bool),xs=[.ref p]/\SqL K H p (bs.map V.bl)/\Q (.bl (bs.all id)) H) (J1y c):=⟨λ {H xs ds Q P} r h k=>by
 obtain ⟨ns,rfl,hc,q⟩:=h
 cases r with
 | cons r1 t=>
  cases t
  cases r1 with
  | list e _ _ rs=>
   cases Reps.bools_inv rs
   exact ⟨hc,_,ns,rfl,SqL.of e,k _ _ q λ _=>.bool _⟩⟩
def J1z (tup:Bool):G1:=λ ds Q=>∃ ns:List Int,ds=[if tup then .tuple (ns.map .int) else .list (ns.map .int)]/\ns≠[]/\∀ m∈ns,(∀ n∈ns,m<=n)->Q (.int m)
instance cs_minL {K:Qc}:CS (λ xs H Q=>∃ (p:Addr) (ns:List Int),xs=[.ref p]/\SqL K H p (ns.map V.int)/\ns≠[]/\∀ m∈ns,(∀ n∈ns,m<=n)->Q (.int m) H) (J1z false):=⟨λ {H xs ds Q P} r h k=>by
 obtain ⟨ns,rfl,hne,q⟩:=h
 cases r with
 | cons r1 t=>
  cases t
  cases r1 with
  | list e _ _ rs=>
   cases rs.ints_inv
   exact ⟨_,ns,rfl,SqL.of e,hne,λ m h1 h2=>k _ _ (q m h1 h2) λ _=>.int _⟩⟩
abbrev J0r (f:Int->Int->Int):G1:=λ ds Q=>match ds with
 | [.int i,.int j]=>Q (.int (f i j))
 | _=>False
theorem Jpr {ex:List Addr}{H:Hp}{ds:List J9i}{xs:List V}{A:Int->Int->Prop}(h:match ds with | [.int i,.int j]=>A i j | _=>False) (r:Reps ex H ds xs):∃ i j,xs=[.int i,.int j]/\A i j:=by
 split at h
 . cases r with
   | cons r1 t=>cases t with
    | cons r2 t=>cases t;cases r1;cases r2;exact ⟨_,_,rfl,h⟩
 . exact h.elim
instance cs_max2:CS (λ xs H Q=>∃ i j,xs=[.int i,.int j]/\Q (.int (if j>i then j else i)) H) (J0r λ i j=>if j>i then j else i):=⟨λ {H xs ds Q P} r h k=>by
 obtain ⟨i,j,rfl,q⟩:=Jpr (A:=λ i j=>P (.int (if j>i then j else i))) h r
 exact ⟨i,j,rfl,k _ _ q λ _=>.int _⟩⟩
instance cs_min2:CS (λ xs H Q=>∃ i j,xs=[.int i,.int j]/\Q (.int (if j<i then j else i)) H) (J0r λ i j=>if j<i then j else i):=⟨λ {H xs ds Q P} r h k=>by
 obtain ⟨i,j,rfl,q⟩:=Jpr (A:=λ i j=>P (.int (if j<i then j else i))) h r
 exact ⟨i,j,rfl,k _ _ q λ _=>.int _⟩⟩
abbrev Jl4 (T:String) (g:GE):GE:=λ env n Q=>g env n λ d n1=>noD d=true/\Q (.bool (Jfv d T)) n1
section
variable {b:Bool}{te:TE}{g:GE}
theorem Jge (T:String) (hT:T = "int"\/T = "bool"\/T = "str"\/T = "tuple"\/T = "list") [A:EV false te g]:EV b (tCB (λ xs H Q=>∃ ex d x T,xs=[x,.ty T]/\Rep ex H d x/\noD d=true/\(T = "int"\/T = "bool"\/T = "str"\/T = "tuple"\/T = "list")/\Q (.bl (Jfv d T)) H) (Ye te (Ye (tC (.ty T)) Jam))) (Jl4 T g):=⟨λ {S ex env σ H n Q P} E h k=>
 A.ev E h λ d n1 v H1 h1 s1 r1=>⟨_,d,v,T,rfl,r1,h1.1,hT,k _ _ _ _ h1.2 s1 (.bool _)⟩⟩
instance (priority:=high) ev_instI [A:EV false te g]:EV b (tCB (λ xs H Q=>∃ ex d x T,xs=[x,.ty T]/\Rep ex H d x/\noD d=true/\(T = "int"\/T = "bool"\/T = "str"\/T = "tuple"\/T = "list")/\Q (.bl (Jfv d T)) H) (Ye te (Ye (tC (.ty "int")) Jam))) (Jl4 "int" g):=Jge _ (by simp)
instance (priority:=high) ev_instB [A:EV false te g]:EV b (tCB (λ xs H Q=>∃ ex d x T,xs=[x,.ty T]/\Rep ex H d x/\noD d=true/\(T = "int"\/T = "bool"\/T = "str"\/T = "tuple"\/T = "list")/\Q (.bl (Jfv d T)) H) (Ye te (Ye (tC (.ty "bool")) Jam))) (Jl4 "bool" g):=Jge _ (by simp)
instance (priority:=high) ev_instS [A:EV false te g]:EV b (tCB (λ xs H Q=>∃ ex d x T,xs=[x,.ty T]/\Rep ex H d x/\noD d=true/\(T = "int"\/T = "bool"\/T = "str"\/T = "tuple"\/T = "list")/\Q (.bl (Jfv d T)) H) (Ye te (Ye (tC (.ty "str")) Jam))) (Jl4 "str" g):=Jge _ (by simp)
instance (priority:=high) ev_instT [A:EV false te g]:EV b (tCB (λ xs H Q=>∃ ex d x T,xs=[x,.ty T]/\Rep ex H d x/\noD d=true/\(T = "int"\/T = "bool"\/T = "str"\/T = "tuple"\/T = "list")/\Q (.bl (Jfv d T)) H) (Ye te (Ye (tC (.ty "tuple")) Jam))) (Jl4 "tuple" g):=Jge _ (by simp)
abbrev gLR (t:GN):GN:=λ env n Q=>t env n λ ds n1=>∃ j:Int,ds=[.int j]/\0<=j/\j<=1000000/\Q ((Qn j.toNat).map λ (i:Nat)=>.int (i:Int)) n1
theorem Jl5 {ex:List Addr}{H:Hp}(f:Nat->Int):∀ l:List Nat,Reps ex H (l.map λ i=>.int (f i)) (l.map λ i=>.int (f i))
 | []=>.nil
 | _::r=>.cons (.int _) (Jl5 f r)
instance nv_lr {t:TA}{gt:GN} [A:DV true t gt]:NV (tLR t) (gLR gt):=⟨λ {S ex env σ H n Q P} E h k=>
 A.dv E h λ ds n1 vs H1 h1 s1 r1=>by
  obtain ⟨j,rfl,h2,h3,q⟩:=h1
  cases r1 with
  | cons r1 t=>
   cases t
   cases r1
   have hs:sizeLine=16777216:=J9p
   refine ⟨j,rfl,h2,h3,λ l hl=>?_⟩
   obtain ⟨c1,c2,c3⟩:=B5 E s1 hl (Jl5 (λ i:Nat=>(i:Int)) (Qn j.toNat))
   exact k _ _ _ _ _ q c1 c2 Jg (by show ((Qn j.toNat).map _).length<=_;rw [Qb,Q2];omega) c3⟩
class OPV (t:TO) (g:outParam (List Vl->Nat->(Option Int->Nat->Prop)->Prop)):Prop where
 op:∀ {S:Src} {ex:List Addr} {env:List Vl} {σ:L2.St} {H:Hp} {n:Nat} {Q:Option Int->Hp->Prop} {P:Option Int->Nat->Prop},Ev S ex env σ H n->g env n P->(∀ o n' H',P o n'->Ys S n' H H'->Q o H')->t σ H Q
instance op_no:OPV Jpc (λ _ n Q=>Q none n):=⟨λ E h k=>k _ _ _ h (.refl E.inv)⟩
abbrev J0s (g:GE):List Vl->Nat->(Option Int->Nat->Prop)->Prop:=λ env n Q=>g env n λ d n1=>match d with
 | .int i=>Q (some i) n1
 | _=>False
instance op_part [A:EV false te g]:OPV (Jxc te) (J0s g):=⟨λ {S ex env σ H n Q P} E h k=>A.ev E h λ d n1 v H1 h1 s1 r1=>by
 cases r1 with
 | int i=>exact ⟨i,rfl,k _ _ _ h1 s1⟩
 | none=>exact h1.elim
 | obj=>exact h1.elim
 | bool=>exact h1.elim
 | str=>exact h1.elim
 | tuple=>exact h1.elim
 | list=>exact h1.elim⟩
theorem Jsw {ex:List Addr}{H:Hp}{ds:List J9i}{vs:List V}(r:Reps ex H ds vs) (lo hi:Option Int):Reps ex H (Jil ds lo hi) (Jls vs lo hi):=by
 unfold Jil Jls
 rw [r.length]
 exact Reps.take _ (Reps.drop _ r)
abbrev Jyw (f f':G2) (ga gb gc:GE):GE:=λ env n Q=>ga env n λ x n1=>gb env n1 λ y n2=>f x y λ d=>match d with
 | .bool true=>gc env n2 λ z n3=>f' y z λ e=>Q e n3
 | .bool false=>Q (.bool false) n2
 | _=>False
instance ev_chain {r r':R2}{f f':G2}{ta tb tc:TE}{ga gb gc:GE} [O:OS r f] [O':OS r' f'] [A:EV false ta ga] [B:EV false tb gb] [C:EV false tc gc]:EV b (Jry r r' ta tb tc) (Jyw f f' ga gb gc):=⟨λ {S ex env σ H n Q P} E h k=>by
 refine A.ev E h λ x n1 v1 H1 h1 s1 r1=>B.ev (E.step s1) h1 λ y n2 v2 H2 h2 s2 r2=>?_
 refine O.os (Rep.nil ((E.step s1).repm false s2 r1)) (Rep.nil r2) h2 λ d v p r=>?_
 cases r [] with
 | bool c=>
  refine ⟨c,rfl,?_⟩
  cases c with
  | true=>exact C.ev (E.step (s1.trans s2)) p λ z n3 v3 H3 h3 s3 r3=>O'.os (Rep.nil ((E.step (s1.trans s2)).repm false s3 r2)) (Rep.nil r3) h3 λ d v p r=>k _ _ _ _ p ((s1.trans s2).trans s3) (r _)
  | false=>exact k _ _ _ _ p (s1.trans s2) (.bool _)
 | none=>exact p.elim
 | obj=>exact p.elim
 | int=>exact p.elim
 | str=>exact p.elim
 | tuple=>exact p.elim
 | list=>exact p.elim⟩
end
def ItAt (ex:List Addr) (J:It) (items:List J9i) (H:Hp):Prop:=J.stop items.length H/\∀ (i:Nat) (d:J9i),items[i]? = some d->J.go i H/\∀ x H',J.yld i H x H'->Kp [] H H'/\Rep ex H' d x
class IV (wi:TI) (g:outParam GN):Prop where
 iv:∀ {S:Src} {ex:List Addr} {env:List Vl} {σ:L2.St} {H:Hp} {n:Nat} {R:It->Hp->Prop} {P:List J9i->Nat->Prop},Ev S ex env σ H n->g env n P ->
  (∀ items n' J (hd:List (J9i×V)) H',P items n'->Ys S n' H H'->(∀ h∈hd,Rep ex H' h.1 h.2)->(∀ ex' H2,Alc ex' H2->(∀ h∈hd,Rep ex' H2 h.1 h.2)->ItAt ex' J items H2)->R J H')->wi σ H R
class IC (wi:TI) (g:outParam GN):Prop where
 ic:∀ {S:Src} {ex:List Addr} {env:List Vl} {σ:L2.St} {H:Hp} {n:Nat} {R:It->Hp->Prop} {P:List J9i->Nat->Prop},Ev S ex env σ H n->g env n P ->
  (∀ items n' J H',P items n'->Ys S n' H H'->(∀ l H2,H' l=none->Kp (l::S.ch) H' H2->Alc (l::ex) H2->ItAt (l::ex) J items H2)->R J H')->wi σ H R
section
variable {K:Qc}{S:Src}{n m:Nat}{H H1 H2 H':Hp}{ex:List Addr}{env:List Vl}{σ:L2.St}{b:Bool}{te ta tb tc:TE}{g ga gb gc:GE}{wi:TI}{gi:GN}
theorem Jcq {l:Addr}(hc:∀ a∈S.ch,a∈ex) (k:Kp (l::S.ch) H H'):Kp (l::ex) H H':=k.mono λ b hb=>(Qd.mp hb).elim (λ e=>by rw [e];exact Qg) λ h=>Qh _ (hc b h)
instance (priority:=low) ic_iv [I:IV wi gi]:IC wi gi:=⟨λ {S ex env σ H n R P} E h k=>I.iv E h λ items n' J hd H' p s hr hit=>k _ _ _ _ p s λ l H2 hl kp al=>
 hit _ _ al λ x hx=>(Rep.add hl (hr x hx)).keep (Jcq E.ch kp)⟩
theorem Jke {a:Addr}{vs:List V}{ds:List J9i}(ha:H a=some (.lst vs)) (r:Reps ex H ds vs):ItAt ex (Itl K a) ds H:=by
 refine ⟨⟨vs,SqL.of ha,by rw [r.length];exact Ql _⟩,λ i d e=>?_⟩
 obtain ⟨v,ev,rv⟩:=r.get e
 refine ⟨⟨vs,v,SqL.of ha,ev⟩,λ x H' y=>?_⟩
 obtain ⟨rfl,hx⟩:=y
 have:=hx vs (SqL.of ha)
 rw [ev] at this
 cases this
 exact ⟨.refl,rv⟩
theorem Jyx {a:Addr}{vs:List V}{ds:List J9i}(ha:H a=some (.tup vs)) (r:Reps ex H ds vs):ItAt ex (Itt K a) ds H:=by
 refine ⟨⟨vs,SqT.of ha,by rw [r.length];exact Ql _⟩,λ i d e=>?_⟩
 obtain ⟨v,ev,rv⟩:=r.get e
 refine ⟨⟨vs,v,SqT.of ha,ev⟩,λ x H' y=>?_⟩
 obtain ⟨rfl,hx⟩:=y
 have:=hx vs (SqT.of ha)
 rw [ev] at this
 cases this
 exact ⟨.refl,rv⟩
noncomputable def Jf5 (lo:Int) (k:Nat):List J9i:=(Qn k).map λ (i:Nat)=>.int (lo+(i:Int))
theorem Yf (lo:Int) (k:Nat):(Jf5 lo k).length=k:=by unfold Jf5;rw [Qb,Q2]
theorem Jyy {lo:Int}{k:Nat}:ItAt ex (Itr lo k) (Jf5 lo k) H:=by
 refine ⟨by rw [Yf];exact Ql _,λ i d e=>?_⟩
 have hi:i<k:=by
  have:=(Qt.mp e).1
  rw [Yf] at this
  exact this
 unfold Jf5 at e
 rw [Qk,Xs hi] at e
 cases e
 refine ⟨hi,λ x H' y=>?_⟩
 obtain ⟨rfl,rfl⟩:=y
 exact ⟨.refl,.int _⟩
noncomputable def Joc:J9i->Option (List J9i)
 | .list xs=>some xs
 | .tuple xs=>some xs
 | _=>none
theorem Jdx {d:J9i}{v:V}{ds:List J9i}(r:Rep ex H d v) (h:Joc d=some ds):∃ (c:Bool) (a:Addr) (vs:List V),v = .ref a/\(∀ K,SqK c K H a vs)/\Reps ex H ds vs/\((c=true/\H a=some (.tup vs))\/(c=false/\H a=some (.lst vs)))/\a∉ex:=by
 cases r with
 | tuple e n z rs=>cases h;exact ⟨true,_,_,rfl,λ K=>SqT.of e,rs,.inl ⟨rfl,e⟩,n⟩
 | list e n z rs=>cases h;exact ⟨false,_,_,rfl,λ K=>SqL.of e,rs,.inr ⟨rfl,e⟩,n⟩
 | none=>cases h
 | obj=>cases h
 | bool=>cases h
 | int=>cases h
 | str=>cases h
noncomputable def Jdy (ds:List J9i):List J9i:=ds.mapIdx λ i d=>.tuple [.int (i:Int),d]
theorem Jax:(2:Nat)<=sizeLine:=by rw [J9p];decide
theorem W4:(3:Nat)<=sizeLine:=by rw [J9p];decide
theorem Jvp {c:Bool}{a:Addr}{vs:List V}{ds:List J9i}(al:Alc ex H) (ha:SqK c K H a vs) (r:Reps ex H ds vs):ItAt ex (Ite c K a) (Jdy ds) H:=by
 unfold Jdy
 refine ⟨⟨vs,ha,by rw [J77,r.length]⟩,λ i d e=>?_⟩
 rw [J6f] at e
 cases hd:ds[i]? with
 | none=>rw [hd] at e;cases e
 | some d0=>
  rw [hd] at e
  cases e
  obtain ⟨v,ev,rv⟩:=r.get hd
  refine ⟨⟨vs,v,ha,ev⟩,λ x H' y=>?_⟩
  obtain ⟨p,y,hp,rfl,rfl,hy⟩:=y
  have:=hy vs ha
  rw [ev] at this
  cases this
  exact ⟨Kp.new hp _,.tuple Jg (al.nm hp) Jax (.cons (.int _) (.cons (rv.keep (Kp.new hp _)) .nil))⟩
noncomputable def Vf (ds es:List J9i):List J9i:=J4i (λ x y=>.tuple [x,y]) ds es
theorem Jod {c c':Bool}{a a':Addr}{vs vs':List V}{ds es:List J9i}(al:Alc ex H) (ha:SqK c K H a vs) (r:Reps ex H ds vs) (ha':SqK c' K H a' vs') (r':Reps ex H es vs'):ItAt ex (Itz c c' K a a') (Vf ds es) H:=by
 unfold Vf
 refine ⟨⟨vs,vs',ha,ha',by rw [J4q,r.length,r'.length]⟩,λ i d e=>?_⟩
 rw [J2q] at e
 cases hd:ds[i]? with
 | none=>rw [hd] at e;cases e
 | some d0=>
  cases he:es[i]? with
  | none=>rw [hd,he] at e;cases e
  | some e0=>
   rw [hd,he] at e
   cases e
   obtain ⟨v,ev,rv⟩:=r.get hd
   obtain ⟨v',ev',rv'⟩:=r'.get he
   refine ⟨⟨vs,vs',v,v',ha,ha',ev,ev'⟩,λ x H' y=>?_⟩
   obtain ⟨p,y,y',hp,rfl,rfl,hy,hy'⟩:=y
   have:=hy vs ha
   rw [ev] at this
   cases this
   have:=hy' vs' ha'
   rw [ev'] at this
   cases this
   exact ⟨Kp.new hp _,.tuple Jg (al.nm hp) Jax (.cons (rv.keep (Kp.new hp _)) (.cons (rv'.keep (Kp.new hp _)) .nil))⟩
abbrev Jxm (f:J9i->Option (List J9i)) (g:GE):GN:=λ env n Q=>g env n λ d n1=>match f d with
 | some ds=>Q ds n1
 | none=>False
noncomputable def J10:J9i->Option (List J9i)
 | .list xs=>some xs
 | _=>none
noncomputable def J0t:J9i->Option (List J9i)
 | .tuple xs=>some xs
 | _=>none
instance iv_list [A:EV true te g]:IV (Jo8 K te) (Jxm J10 g):=⟨λ {S ex env σ H n R P} E h k=>A.ev E h λ d n1 v H1 h1 s1 r1=>by
 cases r1 with
 | list e m z rs=>
  refine ⟨_,rfl,⟨_,SqL.of e⟩,k _ _ _ [(X4 _,V.ref _)] _ h1 s1 (λ h hh=>by rw [Qq.mp hh];exact .list e m z rs) λ ex' H2 al hr=>?_⟩
  have:=hr _ (Qq.mpr rfl)
  cases this with
  | list e m z rs=>exact Jke e rs
 | none=>exact h1.elim
 | obj=>exact h1.elim
 | bool=>exact h1.elim
 | str=>exact h1.elim
 | int=>exact h1.elim
 | tuple=>exact h1.elim⟩
instance iv_tup [A:EV true te g]:IV (Jz5 K te) (Jxm J0t g):=⟨λ {S ex env σ H n R P} E h k=>A.ev E h λ d n1 v H1 h1 s1 r1=>by
 cases r1 with
 | tuple e m z rs=>
  refine ⟨_,rfl,⟨_,SqT.of e⟩,k _ _ _ [(Ux _,V.ref _)] _ h1 s1 (λ h hh=>by rw [Qq.mp hh];exact .tuple e m z rs) λ ex' H2 al hr=>?_⟩
  have:=hr _ (Qq.mpr rfl)
  cases this with
  | tuple e m z rs=>exact Jyx e rs
 | none=>exact h1.elim
 | obj=>exact h1.elim
 | bool=>exact h1.elim
 | str=>exact h1.elim
 | int=>exact h1.elim
 | list=>exact h1.elim⟩
abbrev Jsx (i:Nat):GN:=λ env n Q=>match env[i]? with
 | some (.own xs)=>Q xs n
 | some (.d (.list xs))=>Q xs n
 | _=>False
instance (priority:=high) ic_own {i:Nat}:IC (Jo8 K (Ze i)) (Jsx i):=⟨λ {S ex env σ H n R P} E h k=>by
 unfold Jsx at h
 split at h
 . rename_i xs e
   obtain ⟨a,vs,ev,h1,h2,h3,h4,h5⟩:=E.sl i _ e
   refine ⟨_,Jl ev,_,rfl,⟨_,SqL.of h1⟩,k _ _ _ _ h (.refl E.inv) λ l H2 hl kp al=>?_⟩
   have na:a≠l:=Jn h1 hl
   exact Jke (kp _ _ h1 λ z=>(Qd.mp z).elim na h5) ((Reps.add hl h3).keep (Jcq E.ch kp))
 . rename_i xs e
   obtain ⟨v,ev,r⟩:=E.sl i _ e
   cases r with
   | list e1 m z rs=>
    refine ⟨_,Jl ev,_,rfl,⟨_,SqL.of e1⟩,k _ _ _ _ h (.refl E.inv) λ l H2 hl kp al=>?_⟩
    have:=(Rep.add hl (.list e1 m z rs)).keep (Jcq E.ch kp)
    cases this with
    | list e m z rs=>exact Jke e rs
 . exact h.elim⟩
abbrev J0u (t:GN):GN:=λ env n Q=>t env n λ ds n1=>∃ j:Int,ds=[.int j]/\(-(2^62)<=j/\j<2^62)/\Q (Jf5 0 j.toNat) n1
instance iv_rng1 {t:TA}{gt:GN} [A:DV false t gt]:IV (Jw6 t) (J0u gt):=⟨λ {S ex env σ H n R P} E h k=>A.dv E h λ ds n1 vs H1 h1 s1 r1=>by
 obtain ⟨j,rfl,h2,q⟩:=h1
 cases r1 with
 | cons r1 t=>
  cases t
  cases r1
  exact ⟨j,rfl,h2.1,h2.2,k _ _ _ [] _ q s1 (λ h hh=>by cases hh) λ ex' H2 al _=>Jyy⟩⟩
abbrev J0v (t:GN):GN:=λ env n Q=>t env n λ ds n1=>∃ d xs,ds=[d]/\Joc d=some xs/\Q (Jdy xs) n1
abbrev J11 (t:GN):GN:=λ env n Q=>t env n λ ds n1=>∃ d e xs ys,ds=[d,e]/\Joc d=some xs/\Joc e=some ys/\Q (Vf xs ys) n1
theorem Jb6 {d:J9i}{ds:List J9i}{c:Bool}{a:Addr}{vs:List V}(hs:Joc d=some ds) (hc:(c=true/\H a=some (.tup vs))\/(c=false/\H a=some (.lst vs))) (r:Rep ex H d (.ref a)) (ex':List Addr) (H2:Hp) (r2:Rep ex' H2 d (.ref a)):∃ vs',(∀ K,SqK c K H2 a vs')/\Reps ex' H2 ds vs':=by
 cases r2 with
 | obj=>cases hs
 | tuple e n z rs=>
  cases hs
  refine ⟨_,λ K=>?_,rs⟩
  rcases hc with ⟨rfl,_⟩ | ⟨_,h⟩
  . exact SqT.of e
  . cases r with | tuple e' _ _ _=>rw [h] at e';cases e'
 | list e n z rs=>
  cases hs
  refine ⟨_,λ K=>?_,rs⟩
  rcases hc with ⟨_,h⟩ | ⟨rfl,_⟩
  . cases r with | list e' _ _ _=>rw [h] at e';cases e'
  . exact SqL.of e
instance iv_enum {t:TA}{gt:GN} [A:DV true t gt]:IV (Jxg K t) (J0v gt):=⟨λ {S ex env σ H n R P} E h k=>A.dv E h λ ds n1 vs H1 h1 s1 r1=>by
 obtain ⟨d,xs,rfl,hs,q⟩:=h1
 cases r1 with
 | cons r1 t=>
  cases t
  obtain ⟨c,a,ws,rfl,hq,rs,hc,na⟩:=Jdx r1 hs
  refine ⟨c,a,ws,rfl,hq K,k _ _ _ [(d,V.ref a)] _ q s1 (λ h hh=>by rw [Qq.mp hh];exact r1) λ ex' H2 al hr=>?_⟩
  obtain ⟨vs',h3,h4⟩:=Jb6 hs hc r1 ex' H2 (hr _ (Qq.mpr rfl))
  exact Jvp al (h3 K) h4⟩
instance iv_zip {t:TA}{gt:GN} [A:DV true t gt]:IV (Jn8 K t) (J11 gt):=⟨λ {S ex env σ H n R P} E h k=>A.dv E h λ ds n1 vs H1 h1 s1 r1=>by
 obtain ⟨d,e,xs,ys,rfl,hs,hs',q⟩:=h1
 cases r1 with
 | cons r1 t=>
  cases t with
  | cons r2 t=>
   cases t
   obtain ⟨c,a,ws,rfl,hq,rs,hc,na⟩:=Jdx r1 hs
   obtain ⟨c',a',ws',rfl,hq',rs',hc',na'⟩:=Jdx r2 hs'
   refine ⟨c,c',a,a',ws,ws',rfl,hq K,hq' K,k _ _ _ [(d,V.ref a),(e,V.ref a')] _ q s1 (λ h hh=>?_) λ ex' H2 al hr=>?_⟩
   . rcases Qd.mp hh with e | hh
     . rw [e];exact r1
     . rw [Qq.mp hh];exact r2
   obtain ⟨v1,h3,h4⟩:=Jb6 hs hc r1 ex' H2 (hr _ Qg)
   obtain ⟨v2,h5,h6⟩:=Jb6 hs' hc' r2 ex' H2 (hr _ (Qh _ (Qq.mpr rfl)))
   exact Jod al (h3 K) h4 (h5 K) h6⟩
end
noncomputable def Jk (env:List Vl) (σ:L2.St) (i:Nat):List Addr:=match env[i]?,(σ[i]?).join with
 | some (.own _),some (.ref a)=>[a]
 | some (.dct _),some (.ref a)=>[a]
 | some (.own2 _ ps),some (.ref a)=>a::ps.map (·.1)
 | _,_=>[]
abbrev GG:=J9i->List Vl->(List Vl->Prop)->Prop
abbrev GGs:=List J9i->List Vl->(List Vl->Prop)->Prop
class GV (g:TG) (bd:outParam GG) (ks:outParam (List Nat)):Prop where
 gv:∀ {S:Src} {ex:List Addr} {env:List Vl} {σ:L2.St} {H:Hp} {n:Nat} {d:J9i} {v:V} {Q:L2.St->Hp->Prop} {P:List Vl->Prop},Ev S ex env σ H n->Rep ex H d v->bd d env P ->
  (∀ env' σ',P env'->Ev S ex env' σ' H n->(∀ i a,a∈Jk env' σ' i->a∈Jk env σ i)->(∀ i:Nat,i∉ks->σ'[i]? = σ[i]?)->σ'.length = σ.length->Q σ' H)->g v σ H Q
class GVs (g:TGs) (bd:outParam GGs) (ks:outParam (List Nat)):Prop where
 gvs:∀ {S:Src} {ex:List Addr} {env:List Vl} {σ:L2.St} {H:Hp} {n:Nat} {d:List J9i} {v:List V} {Q:L2.St->Hp->Prop} {P:List Vl->Prop},Ev S ex env σ H n->Reps ex H d v->bd d env P ->
  (∀ env' σ',P env'->Ev S ex env' σ' H n->(∀ i a,a∈Jk env' σ' i->a∈Jk env σ i)->(∀ i:Nat,i∉ks->σ'[i]? = σ[i]?)->σ'.length = σ.length->Q σ' H)->g v σ H Q
abbrev J0w (i:Nat):GG:=λ d env P=>P (env.set i (.d d))
theorem Ev.put {S:Src}{ex:List Addr}{env:List Vl}{σ:L2.St}{H:Hp}{n i:Nat}{w:Vl}{v:V}(E:Ev S ex env σ H n) (h:SlR S ex H w (some v)):Ev S ex (env.set i w) (σ.set i (some v)) H n:=by
 refine ⟨by rw [Qs,Qs];exact E.len,λ j u e=>?_,E.ch,E.al,E.inv⟩
 by_cases hj:i=j
 . subst hj
   have hl:i<env.length:=by
    have:=(Qt.mp e).1
    rw [Qs] at this;exact this
   rw [Q8 hl] at e
   cases e
   rw [Q8 (Xd hl E.len)]
   exact h
 . rw [Q9 hj] at e ⊢
   exact E.sl j u e
theorem Jgf {env:List Vl}{σ:L2.St}{i:Nat}{d:J9i}{v:V}:∀ j a,a∈Jk (env.set i (.d d)) (σ.set i (some v)) j->a∈Jk env σ j:=λ j a h=>by
 unfold Jk at h ⊢
 by_cases hj:i=j
 . subst hj
   by_cases hl:i<env.length
   . rw [Q8 hl] at h
     cases h
   . rw [Q7 (by rw [Qs];omega)] at h
     cases h
 . rw [Q9 hj,Q9 hj] at h
   exact h
instance gv_name {i:Nat}:GV (V2 i) (J0w i) [i]:=⟨λ {S ex env σ H n d v Q P} E r h k=>k _ _ h (E.put ⟨v,rfl,r⟩) Jgf (λ j hj=>Q9 (λ z=>hj (by rw [z];exact Qq.mpr rfl))) Qs⟩
abbrev J12:GGs:=λ ds env P=>ds=[]/\P env
abbrev J0x (t:GG) (u:GGs):GGs:=λ ds env P=>match ds with
 | d::r=>t d env λ env1=>u r env1 P
 | []=>False
instance gvs_nil:GVs L2.gNil J12 []:=⟨λ {S ex env σ H n d v Q P} E r h k=>by
 obtain ⟨rfl,h⟩:=h
 cases r
 exact ⟨rfl,k _ _ h E (λ _ _ h=>h) (λ _ _=>rfl) rfl⟩⟩
instance gvs_cons {t:TG}{u:TGs}{bt:GG}{bu:GGs}{k1 k2:List Nat} [A:GV t bt k1] [B:GVs u bu k2]:GVs (L2.gCons t u) (J0x bt bu) (k1++k2):=⟨λ {S ex env σ H n d v Q P} E r h k=>by
 cases r with
 | nil=>exact h.elim
 | cons r1 t=>
  refine ⟨_,_,rfl,A.gv E r1 h λ env1 σ1 h1 E1 o1 f1 z1=>B.gvs E1 t h1 λ env2 σ2 h2 E2 o2 f2 z2=>k _ _ h2 E2 (λ i a ha=>o1 i a (o2 i a ha)) (λ i hi=>?_) (z2.trans z1)⟩
  rw [f2 i λ z=>hi (Xh _ z),f1 i λ z=>hi (Xk _ z)]⟩
abbrev J13 (k:Nat) (bs:GGs):GG:=λ d env P=>match d with
 | .tuple ds=>ds.length=k/\bs ds env P
 | _=>False
abbrev J14 (k:Nat) (bs:GGs):GG:=λ d env P=>match d with
 | .list ds=>ds.length=k/\bs ds env P
 | _=>False
instance gv_tup {K:Qc}{k:Nat}{t:TGs}{bs:GGs}{ks:List Nat} [A:GVs t bs ks]:GV (Jrt K k t) (J13 k bs) ks:=⟨λ {S ex env σ H n d v Q P} E r h k=>by
 cases r with
 | tuple e m z rs=>exact ⟨_,_,rfl,SqT.of e,by rw [<- rs.length];exact h.1,A.gvs E rs h.2 k⟩
 | none=>exact h.elim
 | obj=>exact h.elim
 | bool=>exact h.elim
 | str=>exact h.elim
 | int=>exact h.elim
 | list=>exact h.elim⟩
instance gv_lst {K:Qc}{k:Nat}{t:TGs}{bs:GGs}{ks:List Nat} [A:GVs t bs ks]:GV (Jsn K k t) (J14 k bs) ks:=⟨λ {S ex env σ H n d v Q P} E r h k=>by
 cases r with
 | list e m z rs=>exact ⟨_,_,rfl,SqL.of e,by rw [<- rs.length];exact h.1,A.gvs E rs h.2 k⟩
 | none=>exact h.elim
 | obj=>exact h.elim
 | bool=>exact h.elim
 | str=>exact h.elim
 | int=>exact h.elim
 | tuple=>exact h.elim⟩
def Jc8 (f:J9i->Nat->(Option J9i->Nat->Prop)->Prop):List J9i->Nat->(List J9i->Nat->Prop)->Prop
 | [],n,Q=>Q [] n
 | x::xs,n,Q=>f x n λ o n1=>Jc8 f xs n1 λ ys n2=>Q (o.toList++ys) n2
noncomputable def Jc9 (k:Nat) (idx:List Nat) (env:List Vl):List Vl:=Qr k .jnk++idx.map λ i=>(env[i]?).getD .jnk
abbrev Jxn (bd:GG) (gt:GT) (ge:GE) (env:List Vl):J9i->Nat->(Option J9i->Nat->Prop)->Prop:=λ x n Q=>bd x env λ env'=>gt env' n λ c n1=>if c=true then ge env' n1 λ y n2=>Q (some y) n2 else Q none n1
abbrev J0y (gi:GN) (k:Nat) (idx:List Nat) (ks:List Nat) (bd:GG) (gt:GT) (ge:GE):GN:=λ env n Q=>gi env n λ items n1=>(ks.all (λ i=>decide (i<k))=true/\items.length<=sizeLine)/\Jc8 (Jxn bd gt ge (Jc9 k idx env)) items n1 Q
theorem SlR.add {S:Src}{ex:List Addr}{H:Hp}{l:Addr}{w:Vl}{o:Option V}(hl:H l=none) (h:SlR S ex H w o):SlR S (l::ex) H w o:=by
 cases w with
 | jnk=>trivial
 | jar=>exact h
 | tape=>exact h
 | d x=>obtain ⟨v,e,r⟩:=h;exact ⟨v,e,Rep.add hl r⟩
 | pin v x=>obtain ⟨e,r⟩:=h;exact ⟨e,Rep.add hl r⟩
 | own xs=>obtain ⟨a,vs,e,h1,h2,h3,h4,h5⟩:=h;exact ⟨a,vs,e,h1,h2,Reps.add hl h3,Qh _ h4,h5⟩
 | dct kvs=>obtain ⟨a,kws,e,h1,⟨h2,h3⟩,h4,h5⟩:=h;exact ⟨a,kws,e,h1,⟨h2,Reps.add hl h3⟩,Qh _ h4,h5⟩
 | own2 ks ps=>obtain ⟨a,e,q⟩:=h;exact ⟨a,e,q.h,q.z,q.k,q.nd,Qh _ q.m,q.c,λ p hp=>let w:=q.i p hp;⟨Qh _ w.m,w.c,let ⟨vs,h1,h2,h3⟩:=w.h;⟨vs,h1,h2,Reps.add hl h3⟩⟩⟩
theorem SlR.upd {S:Src}{ex:List Addr}{H:Hp}{l:Addr}{w:Vl}{o:Option V}{u:HO}(hl:l∈ex) (hn:∀ b∈Jk [w] [o] 0,b≠l) (h:SlR S ex H w o):SlR S ex (upd H l u) w o:=by
 cases w with
 | jnk=>trivial
 | jar=>exact h
 | tape=>exact h
 | d x=>obtain ⟨v,e,r⟩:=h;exact ⟨v,e,r.keep (Kp.at hl _)⟩
 | pin v x=>obtain ⟨e,r⟩:=h;exact ⟨e,r.keep (Kp.at hl _)⟩
 | own xs=>obtain ⟨a,vs,e,h1,h2,h3,h4,h5⟩:=h;subst e;exact ⟨a,vs,rfl,by rw [Jf (hn a Qg)];exact h1,h2,h3.keep (Kp.at hl _),h4,h5⟩
 | dct kvs=>obtain ⟨a,kws,e,h1,⟨h2,h3⟩,h4,h5⟩:=h;subst e;exact ⟨a,kws,rfl,by rw [Jf (hn a Qg)];exact h1,⟨h2,h3.keep (Kp.at hl _)⟩,h4,h5⟩
 | own2 ks ps=>obtain ⟨a,e,q⟩:=h;subst e;exact ⟨a,rfl,by rw [Jf (hn a Qg)];exact q.h,q.z,q.k,q.nd,q.m,q.c,λ p hp=>let w:=q.i p hp;⟨w.m,w.c,let ⟨vs,h1,h2,h3⟩:=w.h;⟨vs,by rw [Jf (hn p.1 (Qh _ (Qo.mpr ⟨p,hp,rfl⟩)))];exact h1,h2,h3.keep (Kp.at hl _)⟩⟩⟩
theorem Jg8 {S:Src}{ex:List Addr}{env:List Vl}{σ:L2.St}{H:Hp}{n:Nat}(E:Ev S ex env σ H n) (k:Nat) (idx:List Nat):Ev S ex (Jc9 k idx env) (Yo k idx σ) H n:=by
 refine ⟨by unfold Jc9 Yo;simp,λ i w e=>?_,E.ch,E.al,E.inv⟩
 unfold Jc9 at e
 by_cases hi:i<k
 . rw [Up (by simpa using hi),U2,if_pos hi] at e
   cases e
   trivial
 . rw [J2m (by simpa using J3c hi),Qk] at e
   rw [Ub] at e
   cases hj:idx[i-k]? with
   | none=>rw [hj] at e;cases e
   | some j=>
    rw [hj] at e
    cases e
    have e2:(Yo k idx σ)[i]? = some ((σ[j]?).join):=by
     unfold Yo
     rw [J2m (by simpa using J3c hi),Ub,Qk,hj];rfl
    rw [e2]
    show SlR S ex H ((env[j]?).getD .jnk) (σ[j]?).join
    cases hw:env[j]? with
    | none=>exact trivial
    | some w=>exact E.sl j w hw
theorem Jvq {S:Src}{ex:List Addr}{je:List Vl}{σ0 σ':L2.St}{H1 H2:Hp}{n1 n2 k:Nat}{l:Addr}(E:Ev S ex je σ0 H1 n1) (hl:H1 l=none) (kp:Kp (l::S.ch) H1 H2) (h2:H2 l≠none) (iv:S.inv n2 H2) (hj:∀ j:Nat,j<k->je[j]? = none\/je[j]? = some .jnk) (hs:∀ j:Nat,k<=j->σ'[j]? = σ0[j]?) (hz:σ'.length = σ0.length):Ev S (l::ex) je σ' H2 n2:=by
 have hc:∀ a∈S.ch,a∈l::ex:=λ a h=>Qh _ (E.ch a h)
 have kx:Kp (l::ex) H1 H2:=Jcq E.ch kp
 refine ⟨by rw [hz];exact E.len,λ j w e=>?_,hc,λ a ha=>?_,iv⟩
 . by_cases hjk:j<k
   . rcases hj j hjk with h | h
     . rw [h] at e;cases e
     . rw [h] at e;cases e;trivial
   . rw [hs j (J3c hjk)]
     have h:=SlR.add hl (E.sl j w e)
     cases w with
     | jnk=>trivial
     | jar=>exact h
     | tape=>exact h
     | d x=>obtain ⟨v,e,r⟩:=h;exact ⟨v,e,r.keep kx⟩
     | pin v x=>obtain ⟨e,r⟩:=h;exact ⟨e,r.keep kx⟩
     | own xs=>obtain ⟨a,vs,e,h1,h2,h3,h4,h5⟩:=h;exact ⟨a,vs,e,kp _ _ h1 λ z=>(Qd.mp z).elim (Jn h1 hl) h5,h2,h3.keep kx,h4,h5⟩
     | dct kvs=>obtain ⟨a,kws,e,h1,⟨h2,h3⟩,h4,h5⟩:=h;exact ⟨a,kws,e,kp _ _ h1 λ z=>(Qd.mp z).elim (Jn h1 hl) h5,⟨h2,h3.keep kx⟩,h4,h5⟩
     | own2 ks ps=>obtain ⟨a,e,q⟩:=h;exact ⟨a,e,kp _ _ q.h λ z=>(Qd.mp z).elim (Jn q.h hl) q.c,q.z,q.k,q.nd,q.m,q.c,λ p hp=>let w:=q.i p hp;⟨w.m,w.c,let ⟨vs,h1,h2,h3⟩:=w.h;⟨vs,kp _ _ h1 λ z=>(Qd.mp z).elim (Jn h1 hl) w.c,h2,h3.keep kx⟩⟩⟩
 . rcases Qd.mp ha with rfl | ha
   . exact h2
   . by_cases hac:a∈S.ch
     . exact S.dom iv a hac
     . intro z
       cases e:H1 a with
       | none=>exact E.al a ha e
       | some o=>
        rw [kp a o e λ q=>(Qd.mp q).elim (Jn e hl) hac] at z
        cases z
theorem Jg9 {k:Nat}{idx:List Nat}{env:List Vl}(j:Nat) (h:j<k):(Jc9 k idx env)[j]? = none\/(Jc9 k idx env)[j]? = some .jnk:=by
 right
 unfold Jc9
 rw [Up (by simpa using h),U2,if_pos h]
instance nv_comp {wi:TI}{gi:GN}{k:Nat}{idx ks:List Nat}{g:TG}{bd:GG}{tt:TT}{gt:GT}{te:TE}{ge:GE} [I:IC wi gi] [G:GV g bd ks] [T:TV tt gt] [A:EV true te ge]:NV (Jat wi k idx g tt te) (J0y gi k idx ks bd gt ge):=⟨λ {S ex env σ H n Q P} E h kk=>by
 refine I.ic E h λ items n1 J H1 hc s1 hit l hl=>?_
 obtain ⟨⟨hk,hz⟩,hc⟩:=hc
 have E1:=Jg8 (E.step s1) k idx
 have lch:l∉S.ch:=λ z=>S.dom s1.2 l z hl
 have hkk:∀ i∈ks,i<k:=λ i hi=>of_decide_eq_true (X9.mp hk i hi)
 refine ⟨λ i m σ' H2=>i<=items.length/\m=items.length-i/\∃ (n2:Nat) (ds:List J9i) (vs:List V),Jc8 (Jxn bd gt ge (Jc9 k idx env)) (items.drop i) n2 (λ ys n'=>P (ds++ys) n')/\Kp (l::S.ch) H1 H2/\H2 l=some (.lst vs)/\vs.length<=i/\Reps (l::ex) H2 ds vs/\S.inv n2 H2/\(∀ j:Nat,k<=j->σ'[j]? = (Yo k idx σ)[j]?)/\σ'.length=(Yo k idx σ).length,
  ⟨items.length,Xr _,rfl,n1,[],[],by simpa using hc,Kp.new hl _,Jg,Ql _,.nil,S.keep s1.2 λ b _ o' e=>Kp.new (ex:=[]) hl _ _ _ e (by simp),λ _ _=>rfl,rfl⟩,?_⟩
 rintro i m σ' H2 ⟨hi,rfl,n2,ds,vs,hcm,kp,h2l,hvl,rs,iv2,hsl,hln⟩
 have E2:Ev S (l::ex) (Jc9 k idx env) σ' H2 n2:=Jvq E1 hl kp (by rw [h2l];intro z;cases z) iv2 Jg9 hsl hln
 have IT:=hit l H2 hl kp E2.al
 rcases Ud i items.length with hlt | hge
 . refine .inr ⟨(IT.2 i items[i] (Qf hlt)).1,λ x H3 y=>?_⟩
   obtain ⟨kp3,rx⟩:=(IT.2 i items[i] (Qf hlt)).2 x H3 y
   rw [J4r hlt] at hcm
   have st3:Ys S n2 H2 H3:=Ys.new E2.inv kp3
   have E3:=E2.step st3
   refine G.gv E3 rx hcm λ env' σ2 ht E4 _ hs hl2=>T.tv E4 ht λ c n4 H4 h4 s4=>?_
   have hs2:∀ j:Nat,k<=j->σ2[j]? = (Yo k idx σ)[j]?:=λ j hj=>by
    rw [hs j λ z=>by have:=hkk j z;omega];exact hsl j hj
   cases c with
   | true=>
    refine A.ev (E4.step s4) h4 λ d n5 v H5 h5 s5 r5=>?_
    have s25:=st3.trans (s4.trans s5)
    have k5:Kp S.ch H2 H5:=s25.1
    have h5l:H5 l=some (.lst vs):=k5 _ _ h2l lch
    refine ⟨vs,h5l,by omega,_,(?_:items.length-(i+1)<_),hlt,rfl,n5,ds++[d],vs++[v],?_,?_,Jg,?_,?_,?_,hs2,hl2.trans hln⟩
    . omega
    . simpa using h5
    . exact (kp.trans (k5.mono λ b hb=>Qh _ hb)).trans (Kp.at Qg _)
    . rw [Xc,Uq];omega
    . have q1:Reps (l::ex) H5 ds vs:=rs.keep (k5.mono E2.ch)
      exact (Reps.append q1 (.cons r5 .nil)).keep (Kp.at Qg _)
    . exact S.keep s25.2 λ b hb o e=>by rw [Jf (λ z=>lch (by rw [<- z];exact hb))];exact e
   | false=>
    have s24:=st3.trans s4
    refine ⟨_,(?_:items.length-(i+1)<_),hlt,rfl,n4,ds,vs,by simpa using h4,kp.trans (s24.1.mono λ b hb=>Qh _ hb),s24.1 _ _ h2l lch,by omega,rs.keep (s24.1.mono E2.ch),s24.2,hs2,hl2.trans hln⟩
    omega
 . have e:i=items.length:=by omega
   subst e
   rw [J4s] at hcm
   refine .inl ⟨IT.1,kk _ _ _ _ _ (by simpa [Jc8] using hcm) ⟨λ b o e nb=>kp b o (s1.1 b o e nb) λ z=>(Qd.mp z).elim (λ e2=>by rw [e2,s1.free hl] at e;cases e) nb,iv2⟩ (s1.free hl) h2l (Xl hvl hz) rs⟩⟩
structure VEnds where
 nx:List Vl->Nat->Prop
 rt:J9i->Nat->Prop
 rtn:List J9i->Nat->Prop
 bk:List Vl->Nat->Prop:=λ _ _=>False
 ct:List Vl->Nat->Prop:=λ _ _=>False
 xc:XK->Addr->Nat->Prop:=λ _ _ _=>False
 rt2:List (List J9i)->Nat->Prop:=λ _ _=>False
abbrev GS:=VEnds->List Vl->Nat->Prop
structure Cv where
 S:Src
 ex0:List Addr
 H0:Hp
 held:List (J9i×V)
structure At (C:Cv) (ex:List Addr) (env:List Vl) (σ:L2.St) (H:Hp) (n:Nat):Prop where
 ev:Ev C.S ex env σ H n
 ex0:∀ a∈C.ex0,a∈ex
 al0:Alc C.ex0 C.H0
 sep:∀ i j a,a∈Jk env σ i->a∈Jk env σ j->i=j
 new:∀ i a,a∈Jk env σ i->C.H0 a=none
 kp:Kp C.S.ch C.H0 H
 held:∀ h∈C.held,Rep ex H h.1 h.2
structure Ret (C:Cv) (d:J9i) (n:Nat) (v:V) (H:Hp):Prop where
 kp:Kp C.S.ch C.H0 H
 inv:C.S.inv n H
 r:Rep C.ex0 H d v
structure RetN (C:Cv) (ds:List J9i) (n:Nat) (a:Addr) (H:Hp):Prop where
 kp:Kp C.S.ch C.H0 H
 inv:C.S.inv n H
 fr:C.H0 a=none
 r:∃ vs,H a=some (.lst vs)/\vs.length<=sizeLine/\Reps (a::C.ex0) H ds vs
structure Ret2 (C:Cv) (ps:List (Addr×List J9i)) (n:Nat) (a:Addr) (H:Hp):Prop where
 kp:Kp C.S.ch C.H0 H
 inv:C.S.inv n H
 fr:C.H0 a=none
 frs:∀ p∈ps,C.H0 p.1=none
 o:Own2 C.S (a::ps.map (·.1)++C.ex0) H none ps a
structure EndsOk (C:Cv) (G:VEnds) (D:Ends):Prop where
 nx:∀ {ex env σ H n},At C ex env σ H n->G.nx env n->D.nx σ H
 bk:∀ {ex env σ H n},At C ex env σ H n->G.bk env n->D.bk σ H
 ct:∀ {ex env σ H n},At C ex env σ H n->G.ct env n->D.ct σ H
 rt:∀ {d n v H},Ret C d n v H->G.rt d n->D.rt v H
 rtn:∀ {ds n a H},RetN C ds n a H->G.rtn ds n->D.rt (.ref a) H
 xc:∀ {E c n H},Kp C.S.ch C.H0 H->C.S.inv n H->G.xc E c n->E (.ref c) none H
 r2:∀ {ps n a H},Ret2 C ps n a H->G.rt2 (ps.map (·.2)) n->D.rt (.ref a) H
class SV (ts:TS) (gs:outParam GS):Prop where
 sv:∀ {C:Cv} {G:VEnds} {D:Ends},EndsOk C G D->∀ {ex env σ H n},At C ex env σ H n->gs G env n->ts D σ H
section
variable {C:Cv}{ex:List Addr}{env:List Vl}{σ:L2.St}{H H':Hp}{n m:Nat}
theorem At.step (A:At C ex env σ H n) (s:Ys C.S m H H'):At C ex env σ H' m:=⟨A.ev.step s,A.ex0,A.al0,A.sep,A.new,A.kp.trans s.1,λ h hh=>A.ev.rep s (A.held h hh)⟩
theorem Bc {i:Nat}{a:Addr}(E:Ev C.S ex env σ H n) (h:a∈Jk env σ i):H a≠none/\a∈ex/\a∉C.S.ch:=by
 unfold Jk at h
 split at h
 . rename_i xs b e1 e2
   obtain ⟨c,vs,e,h1,h2,h3,h4,h5⟩:=E.sl i _ e1
   rw [e2] at e
   cases e
   rw [Qq.mp h]
   exact ⟨(by rw [h1];intro z;cases z),h4,h5⟩
 . rename_i xs b e1 e2
   obtain ⟨c,vs,e,h1,h2,h4,h5⟩:=E.sl i _ e1
   rw [e2] at e
   cases e
   rw [Qq.mp h]
   exact ⟨(by rw [h1];intro z;cases z),h4,h5⟩
 . rename_i ks ps b e1 e2
   obtain ⟨c,e,q⟩:=E.sl i _ e1
   rw [e2] at e
   cases e
   rcases Qd.mp h with rfl | h
   . exact ⟨(by rw [q.h];exact Xt _),q.m,q.c⟩
   . obtain ⟨p,hp,rfl⟩:=Qo.mp h
     have w:=q.i p hp
     obtain ⟨vs,h1,_⟩:=w.h
     exact ⟨(by rw [h1];exact Xt _),w.m,w.c⟩
 . cases h
theorem Vg {α:Type}{l:List α}{i:Nat}{a b:α}(h:(l.set i a)[i]? = some b):b=a:=by
 have hl:=(Qt.mp h).1
 rw [Qs] at hl
 rw [Q8 hl] at h
 exact (Xi h).symm
theorem Jbe {j:Nat}{w:Vl}(e:env[j]? = some w):Jk env σ j=Jk [w] [(σ[j]?).join] 0:=by
 unfold Jk
 rw [e]
 rfl
theorem At.put (A:At C ex env σ H n) {i:Nat}{d:J9i}{v:V}(r:Rep ex H d v):At C ex (env.set i (.d d)) (σ.set i (some v)) H n:=
 ⟨A.ev.put ⟨v,rfl,r⟩,A.ex0,A.al0,λ j k a h1 h2=>A.sep j k a (Jgf j a h1) (Jgf k a h2),λ j a h=>A.new j a (Jgf j a h),A.kp,A.held⟩
theorem At.bind (A:At C ex env σ H n) {env':List Vl}{σ':L2.St}(E:Ev C.S ex env' σ' H n) (o:∀ i a,a∈Jk env' σ' i->a∈Jk env σ i):At C ex env' σ' H n:=
 ⟨E,A.ex0,A.al0,λ j k a h1 h2=>A.sep j k a (o j a h1) (o k a h2),λ j a h=>A.new j a (o j a h),A.kp,A.held⟩
theorem At.free (A:At C ex env σ H n) {a:Addr}(h:H a=none):C.H0 a=none:=by
 cases e:C.H0 a with
 | none=>rfl
 | some o=>
  by_cases hp:a∈C.S.ch
  . exact absurd h (C.S.dom A.ev.inv a hp)
  . rw [A.kp a o e hp] at h;cases h
theorem Zg {i j:Nat}{w:Vl}{o:Option V}(h:i≠j):Jk (env.set i w) (σ.set i o) j=Jk env σ j:=by
 unfold Jk
 rw [Q9 h,Q9 h]
theorem Joe {i:Nat}{ds:List J9i}{a b:Addr}(h:b∈Jk (env.set i (.own ds)) (σ.set i (some (.ref a))) i):b=a:=by
 unfold Jk at h
 split at h
 . rename_i c e1 e2
   have e3:(σ.set i (some (.ref a)))[i]? = some (some (.ref c)):=Jl e2
   have:=Vg e3
   cases this
   exact Qq.mp h
 . rename_i e1 e2
   have:=Vg e1
   cases this
 . rename_i e1 e2
   have:=Vg e1
   cases this
 . cases h
theorem At.own (A:At C ex env σ H n) {i:Nat}{ds:List J9i}{vs:List V}{a:Addr}(s:Ys C.S m H H') (ha:H a=none) (hl:H' a=some (.lst vs)) (hz:vs.length<=sizeLine) (r:Reps (a::ex) H' ds vs) :
 At C (a::ex) (env.set i (.own ds)) (σ.set i (some (.ref a))) H' m:=by
 have ac:a∉C.S.ch:=λ z=>C.S.dom A.ev.inv a z ha
 have hc:∀ b∈C.S.ch,b∈a::ex:=λ b h=>Qh _ (A.ev.ch b h)
 have E1:Ev C.S (a::ex) env σ H' m:=by
  refine ⟨A.ev.len,λ j w e=>(SlR.add ha (A.ev.sl j w e)).kp hc s.1,hc,λ b hb=>?_,s.2⟩
  rcases Qd.mp hb with rfl | hb
  . rw [hl];intro z;cases z
  . exact A.ev.al.step s b hb
 refine ⟨E1.put ⟨a,vs,rfl,hl,hz,r,Qg,ac⟩,λ b h=>Qh _ (A.ex0 b h),A.al0,λ j k b h1 h2=>?_,λ j b h=>?_,A.kp.trans s.1,λ h hh=>(Rep.add ha (A.held h hh)).keep (s.1.mono hc)⟩
 . by_cases hj:i=j
   . subst hj
     have e:=Joe h1
     subst e
     by_cases hk:i=k
     . exact hk
     . rw [Zg hk] at h2
       exact absurd ha (Bc A.ev h2).1
   . rw [Zg hj] at h1
     by_cases hk:i=k
     . subst hk
       have e:=Joe h2
       subst e
       exact absurd ha (Bc A.ev h1).1
     . rw [Zg hk] at h2
       exact A.sep j k b h1 h2
 . by_cases hj:i=j
   . subst hj
     have e:=Joe h
     subst e
     exact A.free ha
   . rw [Zg hj] at h
     exact A.new j b h
theorem Jl6 {i:Nat}{xs ys:List J9i}(h:env[i]? = some (.own xs)):∀ j,Jk (env.set i (.own ys)) σ j=Jk env σ j:=λ j=>by
 unfold Jk
 by_cases hj:i=j
 . subst hj
   rw [Q8 (Qt.mp h).1,h]
   cases (σ[i]?).join with
   | none=>rfl
   | some v=>cases v<;>rfl
 . rw [Q9 hj]
theorem At.re (A:At C ex env σ H n) {i:Nat}{xs ys:List J9i}{ws:List V}{a:Addr}(h:env[i]? = some (.own xs)) (hs:(σ[i]?).join=some (.ref a)) (r:Reps ex H ys ws) (hz:ws.length<=sizeLine) :
 At C ex (env.set i (.own ys)) σ (upd H a (.lst ws)) n:=by
 have ha:a∈Jk env σ i:=by unfold Jk;rw [h,hs];exact Qq.mpr rfl
 obtain ⟨h1,h2,h3⟩:=Bc A.ev ha
 have h0:=A.new i a ha
 have kx:Kp ex H (upd H a (.lst ws)):=Kp.at h2 _
 refine ⟨⟨by rw [Qs];exact A.ev.len,λ j w e=>?_,A.ev.ch,λ b hb=>?_,C.S.keep A.ev.inv λ b hb o e=>by rw [Jf (λ z=>h3 (by rw [<- z];exact hb))];exact e⟩,A.ex0,A.al0,λ j k b q1 q2=>?_,λ j b q=>?_,Kp.late A.kp h0 _,λ x hx=>(A.held x hx).keep kx⟩
 . by_cases hj:i=j
   . subst hj
     rw [Q8 (Qt.mp h).1] at e
     cases e
     exact ⟨a,ws,hs,Jg,hz,r.keep kx,h2,h3⟩
   . rw [Q9 hj] at e
     exact SlR.upd h2 (λ b hb z=>hj (A.sep i j a ha (by rw [Jbe e,<- z];exact hb))) (A.ev.sl j w e)
 . by_cases hb2:b=a
   . rw [hb2,Jg];intro z;cases z
   . rw [Jf hb2];exact A.ev.al b hb
 . rw [Jl6 h] at q1 q2;exact A.sep j k b q1 q2
 . rw [Jl6 h] at q;exact A.new j b q
inductive Fz:List Vl->List Vl->Prop
 | refl {env:List Vl}:Fz env env
 | fz {env env':List Vl} (i:Nat) (xs:List J9i) (h:env[i]? = some (.own xs)) (t:Fz (env.set i (.d (.list xs))) env'):Fz env env'
 | jnk {env env':List Vl} (i:Nat) (t:Fz (env.set i .jnk) env'):Fz env env'
 | fz2 {env env':List Vl} (i:Nat) (ps:List (Addr×List J9i)) (h:env[i]? = some (.own2 none ps)) (t:Fz (env.set i (.d (.list (ps.map λ p=>.list p.2)))) env'):Fz env env'
 | fzh {env env':List Vl} (i:Nat) (ps:List (Addr×List J9i)) (h:env[i]? = some (.own2 none ps)) (t:Fz (env.set i (.own (ps.map λ p=>.list p.2))) env'):Fz env env'
theorem At.fz1 (A:At C ex env σ H n) {i:Nat}{xs:List J9i}(h:env[i]? = some (.own xs)):∃ ex',At C ex' (env.set i (.d (.list xs))) σ H n:=by
 obtain ⟨a,vs,e,h1,h2,h3,h4,h5⟩:=A.ev.sl i _ h
 have ha:a∈Jk env σ i:=by unfold Jk;rw [h,e];exact Qq.mpr rfl
 have hsub:∀ b∈ex.filter (λ b=>decide (b≠a)),b∈ex:=λ b hb=>(X7.mp hb).1
 have hin:∀ b∈ex,b≠a->b∈ex.filter (λ b=>decide (b≠a)):=λ b hb hn=>X7.mpr ⟨hb,decide_eq_true hn⟩
 have hn:a∉ex.filter (λ b=>decide (b≠a)):=λ z=>(of_decide_eq_true (X7.mp z).2) rfl
 have oo:∀ j b,b∈Jk (env.set i (.d (.list xs))) σ j->b∈Jk env σ j/\b≠a:=λ j b hb=>by
  by_cases hj:i=j
  . subst hj
    unfold Jk at hb
    rw [Q8 (Qt.mp h).1] at hb
    cases hb
  . have:Jk (env.set i (.d (.list xs))) σ j=Jk env σ j:=by unfold Jk;rw [Q9 hj]
    rw [this] at hb
    exact ⟨hb,λ z=>hj (A.sep i j a ha (by rw [<- z];exact hb))⟩
 refine ⟨ex.filter λ b=>decide (b≠a),⟨by rw [Qs];exact A.ev.len,λ j w ew=>?_,λ b hb=>hin b (A.ev.ch b hb) λ z=>h5 (by rw [<- z];exact hb),λ b hb=>A.ev.al b (hsub b hb),A.ev.inv⟩,λ b hb=>hin b (A.ex0 b hb) λ z=>?_,A.al0,λ j k b q1 q2=>A.sep j k b (oo j b q1).1 (oo k b q2).1,λ j b q=>A.new j b (oo j b q).1,A.kp,λ x hx=>Rep.mono hsub (A.held x hx)⟩
 . by_cases hj:i=j
   . subst hj
     rw [Q8 (Qt.mp h).1] at ew
     cases ew
     exact ⟨_,e,.list h1 hn h2 (Reps.mono hsub h3)⟩
   . rw [Q9 hj] at ew
     have q:=A.ev.sl j w ew
     have ne:∀ b∈Jk [w] [(σ[j]?).join] 0,b≠a:=λ b hb z=>hj (A.sep i j a ha (by rw [Jbe ew,<- z];exact hb))
     cases w with
     | jnk=>trivial
     | jar=>exact q
     | tape=>exact q
     | d x=>obtain ⟨v,e,r⟩:=q;exact ⟨v,e,Rep.mono hsub r⟩
     | pin v x=>obtain ⟨e,r⟩:=q;exact ⟨e,Rep.mono hsub r⟩
     | own ys=>obtain ⟨b,ws,e,g1,g2,g3,g4,g5⟩:=q;exact ⟨b,ws,e,g1,g2,Reps.mono hsub g3,hin b g4 (ne b (by rw [e];exact Qg)),g5⟩
     | dct kvs=>obtain ⟨b,ws,e,g1,⟨g2,g3⟩,g4,g5⟩:=q;exact ⟨b,ws,e,g1,⟨g2,Reps.mono hsub g3⟩,hin b g4 (ne b (by rw [e];exact Qg)),g5⟩
     | own2 ks ps=>obtain ⟨b,e,q⟩:=q;exact ⟨b,e,q.h,q.z,q.k,q.nd,hin b q.m (ne b (by rw [e];exact Qg)),q.c,λ p hp=>let w:=q.i p hp;⟨hin p.1 w.m (ne p.1 (by rw [e];exact Qh _ (Qo.mpr ⟨p,hp,rfl⟩))),w.c,let ⟨vs,h1,h2,h3⟩:=w.h;⟨vs,h1,h2,Reps.mono hsub h3⟩⟩⟩
 . subst z
   exact A.al0 b hb (A.new i b ha)
theorem At.fz2 (A:At C ex env σ H n) {i:Nat}{ps:List (Addr×List J9i)}(h:env[i]? = some (.own2 none ps)):∃ ex',At C ex' (env.set i (.d (.list (ps.map λ p=>.list p.2)))) σ H n:=by
 obtain ⟨a,e,o⟩:=A.ev.sl i _ h
 have hL:∀ b∈a::ps.map (·.1),b∈Jk env σ i:=λ b hb=>by unfold Jk;rw [h,e];exact hb
 have hsub:∀ b∈ex.filter (λ b=>decide (b∉a::ps.map (·.1))),b∈ex:=λ b hb=>(X7.mp hb).1
 have hin:∀ b∈ex,b∉a::ps.map (·.1)->b∈ex.filter (λ b=>decide (b∉a::ps.map (·.1))):=λ b hb hn=>X7.mpr ⟨hb,decide_eq_true hn⟩
 have hn:∀ b∈a::ps.map (·.1),b∉ex.filter (λ b=>decide (b∉a::ps.map (·.1))):=λ b hb z=>(of_decide_eq_true (X7.mp z).2) hb
 have hc:∀ b∈a::ps.map (·.1),b∉C.S.ch:=λ b hb=>by
  rcases Qd.mp hb with rfl | hb
  . exact o.c
  . obtain ⟨p,hp,rfl⟩:=Qo.mp hb;exact (o.i p hp).c
 have oo:∀ j b,b∈Jk (env.set i (.d (.list (ps.map λ p=>.list p.2)))) σ j->b∈Jk env σ j/\b∉a::ps.map (·.1):=λ j b hb=>by
  by_cases hj:i=j
  . subst hj
    unfold Jk at hb
    rw [Q8 (Qt.mp h).1] at hb
    cases hb
  . have:Jk (env.set i (.d (.list (ps.map λ p=>.list p.2)))) σ j=Jk env σ j:=by unfold Jk;rw [Q9 hj]
    rw [this] at hb
    exact ⟨hb,λ z=>hj (A.sep i j b (hL b z) hb)⟩
 refine ⟨ex.filter λ b=>decide (b∉a::ps.map (·.1)),⟨by rw [Qs];exact A.ev.len,λ j w ew=>?_,λ b hb=>hin b (A.ev.ch b hb) λ z=>hc b z hb,λ b hb=>A.ev.al b (hsub b hb),A.ev.inv⟩,λ b hb=>hin b (A.ex0 b hb) λ z=>?_,A.al0,λ j k b q1 q2=>A.sep j k b (oo j b q1).1 (oo k b q2).1,λ j b q=>A.new j b (oo j b q).1,A.kp,λ x hx=>Rep.mono hsub (A.held x hx)⟩
 . by_cases hj:i=j
   . subst hj
     rw [Q8 (Qt.mp h).1] at ew
     cases ew
     refine ⟨_,e,.list o.h (hn a Qg) (by unfold Yt;rw [Qb,J9p];have:=o.z;omega) ?_⟩
     have:∀ qs:List (Addr×List J9i),(∀ q∈qs,q∈ps)->Reps (ex.filter λ b=>decide (b∉a::ps.map (·.1))) H (qs.map λ p=>X4 p.2) (Yt qs):=by
      intro qs
      induction qs with
      | nil=>exact λ _=>.nil
      | cons q qs ih=>
       intro hq
       have hm:=hq q Qg
       obtain ⟨vs,g1,g2,g3⟩:=(o.i q hm).h
       exact .cons (.list g1 (hn q.1 (Qh _ (Qo.mpr ⟨q,hm,rfl⟩))) g2 (Reps.mono hsub g3)) (ih λ x hx=>hq x (Qh _ hx))
     exact this ps λ _ h=>h
   . rw [Q9 hj] at ew
     have q:=A.ev.sl j w ew
     have ne:∀ b∈Jk [w] [(σ[j]?).join] 0,b∉a::ps.map (·.1):=λ b hb z=>hj (A.sep i j b (hL b z) (by rw [Jbe ew];exact hb))
     cases w with
     | jnk=>trivial
     | jar=>exact q
     | tape=>exact q
     | d x=>obtain ⟨v,e,r⟩:=q;exact ⟨v,e,Rep.mono hsub r⟩
     | pin v x=>obtain ⟨e,r⟩:=q;exact ⟨e,Rep.mono hsub r⟩
     | own ys=>obtain ⟨b,ws,e,g1,g2,g3,g4,g5⟩:=q;exact ⟨b,ws,e,g1,g2,Reps.mono hsub g3,hin b g4 (ne b (by rw [e];exact Qg)),g5⟩
     | dct kvs=>obtain ⟨b,ws,e,g1,⟨g2,g3⟩,g4,g5⟩:=q;exact ⟨b,ws,e,g1,⟨g2,Reps.mono hsub g3⟩,hin b g4 (ne b (by rw [e];exact Qg)),g5⟩
     | own2 ks qs=>obtain ⟨b,e,q⟩:=q;exact ⟨b,e,q.h,q.z,q.k,q.nd,hin b q.m (ne b (by rw [e];exact Qg)),q.c,λ p hp=>let w:=q.i p hp;⟨hin p.1 w.m (ne p.1 (by rw [e];exact Qh _ (Qo.mpr ⟨p,hp,rfl⟩))),w.c,let ⟨vs,h1,h2,h3⟩:=w.h;⟨vs,h1,h2,Reps.mono hsub h3⟩⟩⟩
 . exact A.al0 b hb (A.new i b (hL b z))
theorem At.fzh (A:At C ex env σ H n) {i:Nat}{ps:List (Addr×List J9i)}(h:env[i]? = some (.own2 none ps)):∃ ex',At C ex' (env.set i (.own (ps.map λ p=>.list p.2))) σ H n:=by
 obtain ⟨a,e,o⟩:=A.ev.sl i _ h
 have hL:∀ b∈ps.map (·.1),b∈Jk env σ i:=λ b hb=>by unfold Jk;rw [h,e];exact Qh _ hb
 have hsub:∀ b∈ex.filter (λ b=>decide (b∉ps.map (·.1))),b∈ex:=λ b hb=>(X7.mp hb).1
 have hin:∀ b∈ex,b∉ps.map (·.1)->b∈ex.filter (λ b=>decide (b∉ps.map (·.1))):=λ b hb hn=>X7.mpr ⟨hb,decide_eq_true hn⟩
 have hn:∀ b∈ps.map (·.1),b∉ex.filter (λ b=>decide (b∉ps.map (·.1))):=λ b hb z=>(of_decide_eq_true (X7.mp z).2) hb
 have hc:∀ b∈ps.map (·.1),b∉C.S.ch:=λ b hb=>by
  obtain ⟨p,hp,rfl⟩:=Qo.mp hb;exact (o.i p hp).c
 have ha:a∈Jk env σ i:=by unfold Jk;rw [h,e];exact Qg
 have hna:a∉ps.map (·.1):=(Xn.mp o.nd).1
 have oo:∀ j b,b∈Jk (env.set i (.own (ps.map λ p=>.list p.2))) σ j->b∈Jk env σ j/\b∉ps.map (·.1):=λ j b hb=>by
  by_cases hj:i=j
  . subst hj
    unfold Jk at hb
    rw [Q8 (Qt.mp h).1,e] at hb
    have hb':b=a:=Qq.mp hb
    rw [hb']
    exact ⟨ha,hna⟩
  . have:Jk (env.set i (.own (ps.map λ p=>.list p.2))) σ j=Jk env σ j:=by unfold Jk;rw [Q9 hj]
    rw [this] at hb
    exact ⟨hb,λ z=>hj (A.sep i j b (hL b z) hb)⟩
 refine ⟨ex.filter λ b=>decide (b∉ps.map (·.1)),⟨by rw [Qs];exact A.ev.len,λ j w ew=>?_,λ b hb=>hin b (A.ev.ch b hb) λ z=>hc b z hb,λ b hb=>A.ev.al b (hsub b hb),A.ev.inv⟩,λ b hb=>hin b (A.ex0 b hb) λ z=>?_,A.al0,λ j k b q1 q2=>A.sep j k b (oo j b q1).1 (oo k b q2).1,λ j b q=>A.new j b (oo j b q).1,A.kp,λ x hx=>Rep.mono hsub (A.held x hx)⟩
 . by_cases hj:i=j
   . subst hj
     rw [Q8 (Qt.mp h).1] at ew
     cases ew
     refine ⟨a,Yt ps,e,o.h,by unfold Yt;rw [Qb,J9p];have:=o.z;omega,?_,hin a o.m hna,o.c⟩
     have:∀ qs:List (Addr×List J9i),(∀ q∈qs,q∈ps)->Reps (ex.filter λ b=>decide (b∉ps.map (·.1))) H (qs.map λ p=>X4 p.2) (Yt qs):=by
      intro qs
      induction qs with
      | nil=>exact λ _=>.nil
      | cons q qs ih=>
       intro hq
       have hm:=hq q Qg
       obtain ⟨vs,g1,g2,g3⟩:=(o.i q hm).h
       exact .cons (.list g1 (hn q.1 (Qo.mpr ⟨q,hm,rfl⟩)) g2 (Reps.mono hsub g3)) (ih λ x hx=>hq x (Qh _ hx))
     exact this ps λ _ h=>h
   . rw [Q9 hj] at ew
     have q:=A.ev.sl j w ew
     have ne:∀ b∈Jk [w] [(σ[j]?).join] 0,b∉ps.map (·.1):=λ b hb z=>hj (A.sep i j b (hL b z) (by rw [Jbe ew];exact hb))
     cases w with
     | jnk=>trivial
     | jar=>exact q
     | tape=>exact q
     | d x=>obtain ⟨v,e,r⟩:=q;exact ⟨v,e,Rep.mono hsub r⟩
     | pin v x=>obtain ⟨e,r⟩:=q;exact ⟨e,Rep.mono hsub r⟩
     | own ys=>obtain ⟨b,ws,e,g1,g2,g3,g4,g5⟩:=q;exact ⟨b,ws,e,g1,g2,Reps.mono hsub g3,hin b g4 (ne b (by rw [e];exact Qg)),g5⟩
     | dct kvs=>obtain ⟨b,ws,e,g1,⟨g2,g3⟩,g4,g5⟩:=q;exact ⟨b,ws,e,g1,⟨g2,Reps.mono hsub g3⟩,hin b g4 (ne b (by rw [e];exact Qg)),g5⟩
     | own2 ks qs=>obtain ⟨b,e,q⟩:=q;exact ⟨b,e,q.h,q.z,q.k,q.nd,hin b q.m (ne b (by rw [e];exact Qg)),q.c,λ p hp=>let w:=q.i p hp;⟨hin p.1 w.m (ne p.1 (by rw [e];exact Qh _ (Qo.mpr ⟨p,hp,rfl⟩))),w.c,let ⟨vs,h1,h2,h3⟩:=w.h;⟨vs,h1,h2,Reps.mono hsub h3⟩⟩⟩
 . exact A.al0 b hb (A.new i b (hL b z))
theorem At.jnk (A:At C ex env σ H n) (i:Nat):At C ex (env.set i .jnk) σ H n:=by
 have oo:∀ j b,b∈Jk (env.set i .jnk) σ j->b∈Jk env σ j:=λ j b hb=>by
  by_cases hj:i=j
  . subst hj
    unfold Jk at hb
    by_cases hl:i<env.length
    . rw [Q8 hl] at hb;cases hb
    . rw [Q7 (by rw [Qs];omega)] at hb;cases hb
  . have:Jk (env.set i .jnk) σ j=Jk env σ j:=by unfold Jk;rw [Q9 hj]
    rw [this] at hb
    exact hb
 refine A.bind ⟨by rw [Qs];exact A.ev.len,λ j w e=>?_,A.ev.ch,A.ev.al,A.ev.inv⟩ oo
 by_cases hj:i=j
 . subst hj
   have hl:i<env.length:=by
    have:=(Qt.mp e).1
    rw [Qs] at this;exact this
   rw [Q8 hl] at e
   cases e
   trivial
 . rw [Q9 hj] at e
   exact A.ev.sl j w e
theorem At.fz {env':List Vl}(f:Fz env env'):∀ {ex:List Addr},At C ex env σ H n->∃ ex',At C ex' env' σ H n:=by
 induction f with
 | refl=>exact λ A=>⟨_,A⟩
 | fz i xs h t ih=>exact λ A=>let ⟨_,B⟩:=A.fz1 h;ih B
 | jnk i t ih=>exact λ A=>ih (A.jnk i)
 | fz2 i ps h t ih=>exact λ A=>let ⟨_,B⟩:=A.fz2 h;ih B
 | fzh i ps h t ih=>exact λ A=>let ⟨_,B⟩:=A.fzh h;ih B
end
section
variable {te ta:TE}{ge ga:GE}{gn:GN}{t u tb:TS}{gt gu gb:GS}{i j:Nat}{K:Qc}
instance sv_next:SV Jrr (λ G env n=>G.nx env n):=⟨λ {C G D} O {ex env σ H n} A h=>O.nx A h⟩
abbrev Jyz (t u:GS):GS:=λ G env n=>t { G with nx:=λ env1 n1=>∃ env2,Fz env1 env2/\u G env2 n1 } env n
instance sv_seq [T:SV t gt] [U:SV u gu]:SV (Jaq t u) (Jyz gt gu):=⟨λ {C G D} O {ex env σ H n} A h=>by
 refine T.sv (C:=C) (G:={ G with nx:=λ env1 n1=>∃ env2,Fz env1 env2/\gu G env2 n1 }) (D:={ D with nx:=u D }) ⟨λ {ex1 env1 σ1 H1 n1} A1 h1=>?_,O.bk,O.ct,O.rt,O.rtn,O.xc,O.r2⟩ A h
 obtain ⟨env2,f,h2⟩:=h1
 obtain ⟨ex2,A2⟩:=A1.fz f
 exact U.sv O A2 h2⟩
abbrev J15 (i:Nat) (g:GE):GS:=λ G env n=>g env n λ d n1=>G.nx (env.set i (.d d)) n1
abbrev Jxo (i:Nat) (g:GN):GS:=λ G env n=>g env n λ ds n1=>G.nx (env.set i (.own ds)) n1
instance sv_setN [E:NV te gn]:SV (Jc5 te (V2 i)) (Jxo i gn):=⟨λ {C G D} O {ex env σ H n} A h=>E.nv A.ev h λ ds n1 a vs H1 h1 s1 ha hl hz r=>O.nx (A.own s1 ha hl hz r) h1⟩
instance (priority:=low) sv_set [E:EV true te ge]:SV (Jc5 te (V2 i)) (J15 i ge):=⟨λ {C G D} O {ex env σ H n} A h=>E.ev A.ev h λ d n1 v H1 h1 s1 r=>O.nx ((A.step s1).put r) h1⟩
instance sv_setC {wi:TI}{k:Nat}{idx:List Nat}{g:TG}{tt:TT} [E:NV (Jat wi k idx g tt te) gn]:SV (V4 i wi k idx g tt te) (Jxo i gn):=⟨λ {C G D} O {ex env σ H n} A h=>
 show Jat wi k idx g tt te σ H (λ v H2=>D.nx (σ.set i (some v)) H2) from E.nv A.ev h λ ds n1 a vs H1 h1 s1 ha hl hz r=>O.nx (A.own s1 ha hl hz r) h1⟩
abbrev J16 (bd:GG) (g:GE):GS:=λ G env n=>g env n λ d n1=>bd d env λ env1=>G.nx env1 n1
instance (priority:=low) sv_asg {g:TG}{bd:GG}{ks:List Nat} [E:EV true te ge] [B:GV g bd ks]:SV (Jc5 te g) (J16 bd ge):=⟨λ {C G D} O {ex env σ H n} A h=>E.ev A.ev h λ d n1 v H1 h1 s1 r=>
 B.gv (A.step s1).ev r h1 λ env' σ' p E' o _ _=>O.nx ((A.step s1).bind E' o) p⟩
abbrev J17 (g:GE):GS:=λ G env n=>g env n λ d n1=>G.rt d n1
abbrev J0z (g:GN):GS:=λ G env n=>g env n λ ds n1=>G.rtn ds n1
abbrev Jxp (i:Nat):GS:=λ G env n=>match env[i]? with
 | some (.d x)=>G.rt x n
 | some (.own xs)=>G.rtn xs n
 | _=>False
instance (priority:=low) sv_ret [E:EV true te ge]:SV (Jrs te) (J17 ge):=⟨λ {C G D} O {ex env σ H n} A h=>E.ev A.ev h λ d n1 v H1 h1 s1 r=>O.rt ⟨(A.step s1).kp,s1.2,Rep.mono A.ex0 r⟩ h1⟩
instance sv_retN [E:NV te gn]:SV (Jrs te) (J0z gn):=⟨λ {C G D} O {ex env σ H n} A h=>E.nv A.ev h λ ds n1 a vs H1 h1 s1 ha hl hz r=>
 O.rtn ⟨(A.step s1).kp,s1.2,A.free ha,vs,hl,hz,Reps.mono (λ b hb=>(Qd.mp hb).elim (λ e=>by rw [e];exact Qg) λ h=>Qh _ (A.ex0 b h)) r⟩ h1⟩
instance (priority:=high) sv_retV:SV (Jrs (Ze i)) (Jxp i):=⟨λ {C G D} O {ex env σ H n} A h=>by
 unfold Jxp at h
 split at h
 . rename_i x e
   obtain ⟨v,ev,r⟩:=A.ev.sl i _ e
   exact ⟨v,Jl ev,O.rt ⟨A.kp,A.ev.inv,Rep.mono A.ex0 r⟩ h⟩
 . rename_i xs e
   obtain ⟨a,vs,ev,h1,h2,h3,h4,h5⟩:=A.ev.sl i _ e
   have ha:a∈Jk env σ i:=by unfold Jk;rw [e,ev];exact Qq.mpr rfl
   obtain ⟨ex',A'⟩:=A.fz1 e
   obtain ⟨v',ev',r'⟩:=A'.ev.sl i _ (Q8 (Qt.mp e).1)
   rw [ev] at ev'
   cases ev'
   have:=A.new i a ha
   refine ⟨_,Jl ev,O.rtn ⟨A.kp,A.ev.inv,this,vs,h1,h2,Reps.mono (λ b hb=>?_) h3⟩ h⟩
   rcases Qd.mp hb with rfl | hb
   . exact h4
   . exact A.ex0 b hb
 . exact h.elim⟩
abbrev J18 (c:GT) (t u:GS):GS:=λ G env n=>c env n λ b n1=>if b=true then t G env n1 else u G env n1
instance sv_if {c:TT}{gc:GT} [X:TV c gc] [T:SV t gt] [U:SV u gu]:SV (Jz1 c t u) (J18 gc gt gu):=⟨λ {C G D} O {ex env σ H n} A h=>X.tv A.ev h λ b n1 H1 h1 s1=>by
 cases b with
 | true=>exact T.sv O (A.step s1) h1
 | false=>exact U.sv O (A.step s1) h1⟩
abbrev J19 (gi:GN) (bd:GG) (gb:GS):GS:=λ G env n=>gi env n λ items n1=>∃ W:Nat->List Vl->Nat->Prop,W 0 env n1 /\
 (∀ i x env n,items[i]? = some x->W i env n->bd x env λ env1=>gb { G with nx:=W (i+1),ct:=W (i+1),bk:=G.nx } env1 n)/\∀ env n,W items.length env n->G.nx env n
instance sv_for {wi:TI}{gi:GN}{g:TG}{bd:GG}{ks:List Nat} [I:IV wi gi] [B:GV g bd ks] [T:SV tb gb]:SV (Jz6 wi g tb) (J19 gi bd gb):=⟨λ {C G D} O {ex env σ H n} A h=>I.iv A.ev h λ items n1 J hd H1 h1 s1 hr hit=>by
 obtain ⟨W,w0,wt,wd⟩:=h1
 have A1:=A.step s1
 have dropd:∀ {ex2 env2 σ2 H2 n2},At { C with held:=hd++C.held } ex2 env2 σ2 H2 n2->At C ex2 env2 σ2 H2 n2:=λ {_ _ _ _ _} B=>⟨B.ev,B.ex0,B.al0,B.sep,B.new,B.kp,λ h hh=>B.held h (Xh _ hh)⟩
 refine ⟨λ i m σ2 H2=>i<=items.length/\m=items.length-i/\∃ ex2 env2 n2,At { C with held:=hd++C.held } ex2 env2 σ2 H2 n2/\W i env2 n2,⟨_,Xr _,rfl,ex,env,n1,⟨A1.ev,A1.ex0,A1.al0,A1.sep,A1.new,A1.kp,λ h hh=>(Q4.mp hh).elim (hr h) (A1.held h)⟩,w0⟩,?_⟩
 rintro i m σ2 H2 ⟨hi,rfl,ex2,env2,n2,A2,w2⟩
 have IT:=hit ex2 H2 A2.ev.al λ h hh=>A2.held h (Xk _ hh)
 rcases Ud i items.length with hlt | hge
 . refine .inr ⟨(IT.2 i items[i] (Qf hlt)).1,λ σ' H'=>∃ ex3 env3 n3,At { C with held:=hd++C.held } ex3 env3 σ' H' n3/\W (i+1) env3 n3,λ σ' H' h=>⟨items.length-(i+1),by omega,hlt,rfl,h⟩,λ x H3 y=>?_⟩
   obtain ⟨kp3,rx⟩:=(IT.2 i items[i] (Qf hlt)).2 x H3 y
   have A3:=A2.step (Ys.new A2.ev.inv kp3)
   refine B.gv A3.ev rx (wt i _ env2 n2 (Qf hlt) w2) λ env' σ' p E' o _ _=>?_
   refine T.sv (C:={ C with held:=hd++C.held }) (G:={ G with nx:=W (i+1),ct:=W (i+1),bk:=G.nx }) (D:={ D with nx:=λ σ' H'=>∃ ex3 env3 n3,At { C with held:=hd++C.held } ex3 env3 σ' H' n3/\W (i+1) env3 n3,ct:=λ σ' H'=>∃ ex3 env3 n3,At { C with held:=hd++C.held } ex3 env3 σ' H' n3/\W (i+1) env3 n3,bk:=D.nx }) ⟨λ A4 w4=>⟨_,_,_,A4,w4⟩,λ A4 q4=>O.nx (dropd A4) q4,λ A4 w4=>⟨_,_,_,A4,w4⟩,λ R q=>O.rt ⟨R.kp,R.inv,R.r⟩ q,λ R q=>O.rtn ⟨R.kp,R.inv,R.fr,R.r⟩ q,O.xc,λ R q=>O.r2 ⟨R.kp,R.inv,R.fr,R.frs,R.o⟩ q⟩ (A3.bind E' o) p
 . have e:i=items.length:=by omega
   subst e
   exact .inl ⟨IT.1,O.nx (dropd A2) (wd _ _ w2)⟩⟩
abbrev Jy0 (c:GT) (gb:GS):GS:=λ G env n=>∃ W:Nat->List Vl->Nat->Prop,(∃ m,W m env n)/\∀ m env n,W m env n->c env n λ b n1=>
 if b=true then gb { G with nx:=λ env1 n2=>∃ m',m'<m/\W m' env1 n2,ct:=λ env1 n2=>∃ m',m'<m/\W m' env1 n2,bk:=G.nx } env n1 else G.nx env n1
instance sv_while {c:TT}{gc:GT} [X:TV c gc] [T:SV tb gb]:SV (Jru c tb) (Jy0 gc gb):=⟨λ {C G D} O {ex env σ H n} A h=>by
 obtain ⟨W,⟨m0,w0⟩,wt⟩:=h
 refine ⟨λ m σ2 H2=>∃ ex2 env2 n2,At C ex2 env2 σ2 H2 n2/\W m env2 n2,⟨m0,ex,env,n,A,w0⟩,?_⟩
 rintro m σ2 H2 ⟨ex2,env2,n2,A2,w2⟩
 refine X.tv A2.ev (wt m env2 n2 w2) λ b n3 H3 h3 s3=>?_
 cases b with
 | true=>
  refine Jad ⟨λ σ' H'=>∃ m',m'<m/\∃ ex2 env2 n2,At C ex2 env2 σ' H' n2/\W m' env2 n2,λ σ' H' h=>h,?_⟩
  exact T.sv (C:=C) (G:={ G with nx:=λ env1 n2=>∃ m',m'<m/\W m' env1 n2,ct:=λ env1 n2=>∃ m',m'<m/\W m' env1 n2,bk:=G.nx }) (D:={ D with nx:=λ σ' H'=>∃ m',m'<m/\∃ ex2 env2 n2,At C ex2 env2 σ' H' n2/\W m' env2 n2,ct:=λ σ' H'=>∃ m',m'<m/\∃ ex2 env2 n2,At C ex2 env2 σ' H' n2/\W m' env2 n2,bk:=D.nx }) ⟨λ A4 ⟨m',hm,w4⟩=>⟨m',hm,_,_,_,A4,w4⟩,λ A4 q4=>O.nx A4 q4,λ A4 ⟨m',hm,w4⟩=>⟨m',hm,_,_,_,A4,w4⟩,O.rt,O.rtn,O.xc,O.r2⟩ (A2.step s3) h3
 | false=>exact Wk (O.nx (A2.step s3) h3)⟩
theorem At.at_own {C:Cv}{ex:List Addr}{env:List Vl}{σ:L2.St}{H:Hp}{n:Nat}(A:At C ex env σ H n) {i:Nat}{xs:List J9i}(e:env[i]? = some (.own xs)):∃ a vs,(σ[i]?).join=some (.ref a)/\H a=some (.lst vs)/\vs.length<=sizeLine/\Reps ex H xs vs:=by
 obtain ⟨a,vs,ev,h1,h2,h3,h4,h5⟩:=A.ev.sl i _ e
 exact ⟨a,vs,ev,h1,h2,h3⟩
abbrev J00 (i:Nat) (g:GE):GS:=λ G env n=>match env[i]? with
 | some (.own xs)=>g env n λ d n1=>xs.length<sizeLine/\G.nx (env.set i (.own (xs++[d]))) n1
 | _=>False
theorem Jha {C:Cv}{ex:List Addr}{env:List Vl}{σ:L2.St}{H H1:Hp}{n n1:Nat}{i:Nat}{xs:List J9i}{a:Addr}{vs:List V}(A:At C ex env σ H n) (e:env[i]? = some (.own xs)) (ev:(σ[i]?).join=some (.ref a)) (h1:H a=some (.lst vs)) (r:Reps ex H xs vs) (s:Ys C.S n1 H H1):H1 a=some (.lst vs)/\Reps ex H1 xs vs:=by
 have ha:a∈Jk env σ i:=by unfold Jk;rw [e,ev];exact Qq.mpr rfl
 exact ⟨s.1 _ _ h1 (Bc A.ev ha).2.2,A.ev.reps s r⟩
instance sv_app [E:EV true te ge]:SV (Jo7 (tBM K "list" Jj2 (Ze i) (Ye te Jam))) (J00 i ge):=⟨λ {C G D} O {ex env σ H n} A h=>by
 unfold J00 at h
 split at h
 . rename_i xs e
   obtain ⟨a,vs,ev,h1,h2,h3⟩:=A.at_own e
   refine ⟨_,Jl ev,.inl ⟨rfl,_,SqL.of h1⟩,E.ev A.ev h λ d n1 v H1 hd s1 r=>?_⟩
   obtain ⟨g1,g2⟩:=Jha A e ev h1 h3 s1
   have l:=g2.length
   exact ⟨a,vs,v,rfl,rfl,g1,by rw [<- l];exact hd.1,O.nx ((A.step s1).re e ev (Reps.append g2 (.cons r .nil)) (by rw [Xc,Uq,<- l];exact hd.1)) hd.2⟩
 . exact h.elim⟩
abbrev J01 (i:Nat) (g:GE):GS:=λ G env n=>match env[i]? with
 | some (.own xs)=>g env n λ d n1=>(match d with | .list ys=>xs.length+ys.length<=sizeLine/\G.nx (env.set i (.own (xs++ys))) n1 | _=>False)
 | _=>False
instance sv_ext [E:EV true te ge]:SV (Jo7 (tBM K "list" Jpf (Ze i) (Ye te Jam))) (J01 i ge):=⟨λ {C G D} O {ex env σ H n} A h=>by
 unfold J01 at h
 split at h
 . rename_i xs e
   obtain ⟨a,vs,ev,h1,h2,h3⟩:=A.at_own e
   refine ⟨_,Jl ev,.inl ⟨rfl,_,SqL.of h1⟩,E.ev A.ev h λ d n1 v H1 hd s1 r=>?_⟩
   obtain ⟨g1,g2⟩:=Jha A e ev h1 h3 s1
   have l:=g2.length
   cases r with
   | list e2 m2 z2 rs=>
    have l2:=rs.length
    exact ⟨a,_,vs,_,rfl,rfl,g1,e2,by rw [<- l,<- l2];exact hd.1,O.nx ((A.step s1).re e ev (Reps.append g2 rs) (by rw [Xc,<- l,<- l2];exact hd.1)) hd.2⟩
   | none=>exact hd.elim
   | obj=>exact hd.elim
   | bool=>exact hd.elim
   | str=>exact hd.elim
   | tuple=>exact hd.elim
   | int=>exact hd.elim
 . exact h.elim⟩
theorem Jhb {ex:List Addr}{H:Hp}{d:J9i}{v:V}(r:Rep ex H d v):∀ {ds:List J9i}{vs:List V}(k:Nat),Reps ex H ds vs->Reps ex H (ds.set k d) (vs.set k v)
 | _,_,_,.nil=>.nil
 | _,_,0,.cons _ t=>.cons r t
 | _,_,k+1,.cons q t=>.cons q (Jhb r k t)
abbrev J02 (i:Nat) (gx ge:GE):GS:=λ G env n=>ge env n λ d n1=>match env[i]? with
 | some (.own xs)=>gx env n1 λ k n2=>(match k with
  | .int z=>∃ m,ixN xs.length z=some m/\G.nx (env.set i (.own (xs.set m d))) n2
  | _=>False)
 | _=>False
instance sv_setI {tx:TE}{gx:GE} [E:EV true te ge] [X:EV true tx gx]:SV (Jc5 te (Jnm (Ze i) tx Jgv)) (J02 i gx ge):=⟨λ {C G D} O {ex env σ H n} A h=>by
 refine E.ev A.ev h λ d n1 v H1 hd s1 r=>?_
 have A1:=A.step s1
 split at hd
 . rename_i xs e
   obtain ⟨a,vs,ev,h1,h2,h3⟩:=A1.at_own e
   refine ⟨_,Jl ev,X.ev A1.ev hd λ k n2 kv H2 hk s2 rk=>?_⟩
   obtain ⟨g1,g2⟩:=Jha A1 e ev h1 h3 s2
   have l:=g2.length
   cases rk with
   | int z=>
    obtain ⟨m,hm,q⟩:=hk
    exact ⟨a,vs,z,m,rfl,rfl,g1,by rw [<- l];exact hm,O.nx ((A1.step s2).re e ev (Jhb (A1.ev.rep s2 r) m g2) (by rw [Qs];exact h2)) q⟩
   | none=>exact hk.elim
   | obj=>exact hk.elim
   | bool=>exact hk.elim
   | str=>exact hk.elim
   | tuple=>exact hk.elim
   | list=>exact hk.elim
 . exact hd.elim⟩
end
theorem B4.len {S:Src}{ex:List Addr}{H:Hp}:∀ {as:List Vl}{vs:List V},B4 S ex H as vs->as.length=vs.length
 | [],[],_=>rfl
 | _::_,_::_,h=>by rw [Xu,Xu,B4.len h.2]
 | [],_::_,h=>h.elim
 | _::_,[],h=>h.elim
theorem B4.get {S:Src}{ex:List Addr}{H:Hp}:∀ {as:List Vl}{vs:List V}{i:Nat}{w:Vl},B4 S ex H as vs->as[i]? = some w->∃ v,vs[i]? = some v/\SlR S ex H w (some v)
 | [],[],_,_,_,e=>by simp at e
 | _::_,v::_,0,_,h,e=>by simp at e;subst e;exact ⟨v,rfl,h.1⟩
 | _::_,_::_,i+1,_,h,e=>by simpa using B4.get (i:=i) h.2 (by simpa using e)
 | [],_::_,_,_,h,_=>h.elim
 | _::_,[],_,_,h,_=>h.elim
noncomputable def Jhc:Vl->Bool
 | .own _ | .dct _ | .own2 _ _=>false
 | _=>true
noncomputable def Jfz (N:List Str) (as:List Vl):List Vl:=as++Qr (N.length-as.length) .jnk
theorem Jhd {S:Src}{ex:List Addr}{H:Hp}{as:List Vl}{vs:List V}{n:Nat}{N:List Str}(r:B4 S ex H as vs) (hp:as.all Jhc=true) (hc:∀ a∈S.ch,a∈ex) (al:Alc ex H) (iv:S.inv n H):At ⟨S,ex,H,[]⟩ ex (Jfz N as) (start N vs) H n:=by
 have l:=r.len
 have no:∀ i,Jk (Jfz N as) (start N vs) i=[]:=λ i=>by
  unfold Jk Jfz
  cases e:(as++Qr (N.length-as.length) Vl.jnk)[i]? with
  | none=>rfl
  | some w=>
   have:w∈as++Qr (N.length-as.length) Vl.jnk:=Xb e
   have hw:Jhc w=true:=by
    rcases Q4.mp this with h | h
    . exact X9.mp hp w h
    . rw [(J2z.mp h).2];rfl
   cases w with
   | own _=>cases hw
   | dct _=>cases hw
   | own2 _ _=>cases hw
   | _=>rfl
 refine ⟨⟨?_,λ i w e=>?_,hc,al,iv⟩,λ a h=>h,al,λ i j a h=>?_,λ i a h=>?_,.refl,λ h hh=>by cases hh⟩
 . unfold Jfz L2.start
   rw [Xc,Xc,Ub,Ub,Qb,l];exact Ql _
 . unfold Jfz at e
   by_cases hi:i<as.length
   . rw [Up hi] at e
     obtain ⟨v,hv,sr⟩:=r.get e
     have:(start N vs)[i]? = some (some v):=by
      unfold L2.start
      rw [Up (by rw [Qb,<- l];exact hi),Qk,hv];rfl
     rw [this]
     exact sr
   . rw [J2m (J3c hi)] at e
     have:w = .jnk:=(J2z.mp (Xb e)).2
     subst this
     trivial
 . rw [no] at h;cases h
 . rw [no] at h;cases h
noncomputable def Jxq (P:J9i->Nat->Prop):VEnds:={ nx:=λ _ n=>P .none n,rt:=P,rtn:=λ ds n=>P (.list ds) n,rt2:=λ xss n=>P (.list (xss.map .list)) n }
noncomputable def Jxr (P:List J9i->Nat->Prop):VEnds:={ nx:=λ _ _=>False,rt:=λ _ _=>False,rtn:=P }
theorem Jsy {C:Cv}{ps:List (Addr×List J9i)}{n:Nat}{a:Addr}{H:Hp}(al:Alc C.ex0 C.H0) (R:Ret2 C ps n a H):Rep C.ex0 H (.list ((ps.map (·.2)).map .list)) (.ref a):=by
 refine .list R.o.h (al.nm R.fr) (by unfold Yt;rw [Qb,J9p];have:=R.o.z;omega) ?_
 have:∀ qs:List (Addr×List J9i),(∀ q∈qs,q∈ps)->Reps C.ex0 H ((qs.map (·.2)).map .list) (Yt qs):=by
  intro qs
  induction qs with
  | nil=>exact λ _=>.nil
  | cons q qs ih=>
   intro hq
   have hm:=hq q Qg
   obtain ⟨vs,g1,g2,g3⟩:=(R.o.i q hm).h
   exact .cons (.list g1 (al.nm (R.frs q hm)) g2 (Reps.mono (λ b hb=>Xh _ hb) g3)) (ih λ x hx=>hq x (Qh _ hx))
 exact this ps λ _ h=>h
theorem J1 {sp:GSp}{gs:GS}{ts:TS}{N:List Str}{vs:List V}{H:Hp}{Q:VK}{E:XK} [T:SV ts gs] (h:Jm sp vs H Q E) (hs:∀ as n P,sp as n P->as.all Jhc=true/\gs (Jxq P) (Jfz N as) n):ts { nx:=λ _ H'=>Q .non H',rt:=Q } (start N vs) H:=by
 obtain ⟨S,ex,as,n,P,r,hc,al,iv,p,q⟩:=h
 obtain ⟨hp,g⟩:=hs as n P p
 refine T.sv (C:=⟨S,ex,H,[]⟩) (G:=Jxq P) ⟨λ {ex' env σ H' n'} A h=>?_,λ _ h=>h.elim,λ _ h=>h.elim,λ R h=>?_,λ {ds n' a H'} R h=>?_,λ _ _ h=>h.elim,λ {ps n' a H'} R h=>?_⟩ (Jhd r hp hc al iv) g
 . exact q _ _ _ _ h ⟨A.kp,A.ev.inv⟩ .none
 . exact q _ _ _ _ h ⟨R.kp,R.inv⟩ R.r
 . obtain ⟨ws,h1,h2,h3⟩:=R.r
   exact q _ _ _ _ h ⟨R.kp,R.inv⟩ (.list h1 (al.nm R.fr) h2 (Reps.sub h3))
 . exact q _ _ _ _ h ⟨R.kp,R.inv⟩ (Jsy al R)
theorem Vs {sp:GSn}{gs:GS}{ts:TS}{N:List Str}{vs:List V}{H:Hp}{Q:VK}{E:XK} [T:SV ts gs] (h:Z9 sp vs H Q E) (hs:∀ as n P,sp as n P->as.all Jhc=true/\gs (Jxr P) (Jfz N as) n):ts { nx:=λ _ H'=>Q .non H',rt:=Q } (start N vs) H:=by
 obtain ⟨S,ex,as,n,P,r,hc,al,iv,p,q⟩:=h
 obtain ⟨hp,g⟩:=hs as n P p
 refine T.sv (C:=⟨S,ex,H,[]⟩) (G:=Jxr P) ⟨λ _ h=>h.elim,λ _ h=>h.elim,λ _ h=>h.elim,λ _ h=>h.elim,λ {ds n' a H'} R h=>?_,λ _ _ h=>h.elim,λ _ h=>h.elim⟩ (Jhd r hp hc al iv) g
 obtain ⟨ws,h1,h2,h3⟩:=R.r
 exact q _ _ _ _ _ h ⟨R.kp,R.inv⟩ R.fr h1 h2 h3
theorem J5 {sp:GSp}{k:Nat}(h:∀ as n P,sp as n P->as.length=k):∀ vs H Q E,Jm sp vs H Q E->vs.length=k:=λ vs H Q E ⟨S,ex,as,n,P,r,_,_,_,p,_⟩=>by rw [<- r.len];exact h _ _ _ p
theorem Bu {sp:GSn}{k:Nat}(h:∀ as n P,sp as n P->as.length=k):∀ vs H Q E,Z9 sp vs H Q E->vs.length=k:=λ vs H Q E ⟨S,ex,as,n,P,r,_,_,_,p,_⟩=>by rw [<- r.len];exact h _ _ _ p
section
variable {turn:J9i->Nat->(Option J9i->Nat->Prop)->Prop}{items:List J9i}{n:Nat}{Q:List J9i->Nat->Prop}
theorem Jl7 (p:J9i->Bool) (f:J9i->J9i) (h:∀ x∈items,∀ n K,(p x=true->K (some (f x)) n)->(p x=false->K none n)->turn x n K) (q:Q ((items.filter p).map f) n):Jc8 turn items n Q:=by
 induction items generalizing n Q with
 | nil=>exact q
 | cons x xs ih=>
  refine h x Qg _ _ (λ hp=>?_) (λ hp=>?_)
  . rw [J6g hp] at q
    exact ih (λ y hy=>h y (Qh _ hy)) q
  . rw [J6h (by rw [hp];exact Q6)] at q
    exact ih (λ y hy=>h y (Qh _ hy)) q
end
theorem Fz.eq {a b:List Vl}(h:a=b):Fz a b:=h ▸ .refl
noncomputable abbrev Jvr (ns:List Int):J9i:=.list (ns.map .int)
theorem J03 {S:Src}{ex:List Addr}{H:Hp}{a b:Vl}{vs:List V}(h:B4 S ex H [a,b] vs):∃ u v,vs=[u,v]/\SlR S ex H a (some u)/\SlR S ex H b (some v):=by
 match vs,h with
 | [u,v],h=>exact ⟨u,v,rfl,h.1,h.2.1⟩
 | [],h=>exact h.elim
 | [_],h=>exact h.2.elim
 | _::_::_::_,h=>exact h.2.2.elim
theorem Yi {α:Type}{xs:List α}{i:Int}{d:α}(h0:0<=i) (h:xs[i.toNat]? = some d):atI xs i=some d:=by
 have:=(Qt.mp h).1
 unfold atI
 rw [Jb3 h0 (by omega)]
 exact h
class SQ (te:TE) (g:outParam GN):Prop where
 sq:∀ {S:Src} {ex:List Addr} {env:List Vl} {σ:L2.St} {H:Hp} {n:Nat} {Q:VK} {P:List J9i->Nat->Prop},Ev S ex env σ H n->g env n P->(∀ ds n' a vs H',P ds n'->Ys S n' H H'->a∉S.ch->H' a=some (.lst vs)->vs.length<=sizeLine->Reps ex H' ds vs->Q (.ref a) H')->te σ H Q
abbrev gSq (i:Nat):GN:=λ env n Q=>match env[i]? with
 | some (.own xs)=>Q xs n
 | some (.d (.list xs))=>Q xs n
 | _=>False
instance (priority:=high) sq_var {i:Nat}:SQ (Ze i) (gSq i):=⟨λ {S ex env σ H n Q P} E h k=>by
 unfold gSq at h
 split at h
 . rename_i xs e
   obtain ⟨a,vs,ev,h1,h2,h3,h4,h5⟩:=E.sl i _ e
   exact ⟨_,Jl ev,k _ _ _ _ _ h (.refl E.inv) h5 h1 h2 h3⟩
 . rename_i xs e
   obtain ⟨v,ev,r⟩:=E.sl i _ e
   cases r with
   | list e1 m z rs=>exact ⟨_,Jl ev,k _ _ _ _ _ h (.refl E.inv) (λ z=>m (E.ch _ z)) e1 z rs⟩
 . exact h.elim⟩
abbrev J2a (g:GE):GN:=λ env n Q=>g env n λ d n1=>match d with
 | .list xs=>Q xs n1
 | _=>False
instance (priority:=low) sq_ev {te:TE}{g:GE} [A:EV true te g]:SQ te (J2a g):=⟨λ {S ex env σ H n Q P} E h k=>A.ev E h λ d n1 v H1 h1 s1 r1=>by
 cases r1 with
 | list e m z rs=>exact k _ _ _ _ _ h1 s1 (λ z=>m (E.ch _ z)) e z rs
 | none=>exact h1.elim
 | obj=>exact h1.elim
 | bool=>exact h1.elim
 | str=>exact h1.elim
 | int=>exact h1.elim
 | tuple=>exact h1.elim⟩
instance sq_nv {te:TE}{g:GN} [A:NV te g]:SQ te g:=⟨λ {S ex env σ H n Q P} E h k=>A.nv E h λ ds n1 a vs H1 h1 s1 ha hl hz r=>k _ _ _ _ _ h1 s1 (λ z=>S.dom E.inv a z ha) hl hz (Reps.sub r)⟩
abbrev J04 (ga gb:GN):GN:=λ env n Q=>ga env n λ xs n1=>gb env n1 λ ys n2=>xs.length+ys.length<=sizeLine/\Q (xs++ys) n2
instance (priority:=high) nv_catS {ta tb:TE}{ga gb:GN} [A:SQ ta ga] [B:SQ tb gb]:NV (tOp Jz9 ta tb) (J04 ga gb):=⟨λ {S ex env σ H n Q P} E h k=>
 A.sq E h λ xs n1 a vs H1 h1 s1 na ha hz r1=>B.sq (E.step s1) h1 λ ys n2 b us H2 h2 s2 nb hb hz2 r2=>by
  have r1':=(E.step s1).reps s2 r1
  have l1:=r1'.length
  have l2:=r2.length
  refine ⟨a,b,vs,us,rfl,rfl,s2.1 _ _ ha na,hb,by rw [<- l1,<- l2];exact h2.1,λ p hp=>?_⟩
  obtain ⟨c1,c2,c3⟩:=B5 E (s1.trans s2) hp (Reps.append r1' r2)
  exact k _ _ _ _ _ h2.2 c1 c2 Jg (by rw [Xc,<- l1,<- l2];exact h2.1) c3⟩
abbrev J2b (g:GN) (gl gh:List Vl->Nat->(Option Int->Nat->Prop)->Prop):GN:=λ env n Q=>g env n λ xs n1=>gl env n1 λ lo n2=>gh env n2 λ hi n3=>Q (Jil xs lo hi) n3
instance (priority:=high) nv_slS {K:Qc}{te:TE}{g:GN}{tl th:TO}{gl gh:List Vl->Nat->(Option Int->Nat->Prop)->Prop} [A:SQ te g] [B:OPV tl gl] [C:OPV th gh]:NV (tSl (Jz8 K) te tl th) (J2b g gl gh):=⟨λ {S ex env σ H n Q P} E h k=>
 A.sq E h λ xs n1 a vs H1 h1 s1 na ha hz r1=>B.op (E.step s1) h1 λ lo n2 H2 h2 s2=>C.op (E.step (s1.trans s2)) h2 λ hi n3 H3 h3 s3=>by
  have r3:=(E.step s1).reps (s2.trans s3) r1
  refine ⟨a,vs,rfl,SqL.of ((s2.trans s3).1 _ _ ha na),λ p hp=>?_⟩
  obtain ⟨c1,c2,c3⟩:=B5 E ((s1.trans s2).trans s3) hp (Jsw r3 lo hi)
  exact k _ _ _ _ _ h3 c1 c2 Jg (Xl (Jfs _ _ _) hz) c3⟩
section
variable {X:Cx}
end
section
variable {K:Qc}{H:Hp}{ex:List Addr}
end
def Jy1 {α β:Type}(R:α->β->Prop):List α->List β->Prop
 | [],[]=>True
 | x::xs,y::ys=>R x y/\Jy1 R xs ys
 | _,_=>False
noncomputable def fl (u:Nat) (f:Nat->Int):List J9i:=(Qn u).map λ i=>.int (f i)
theorem Jda (u:Nat) (f:Nat->Int):(fl u f).length=u:=by unfold fl;rw [Qb,Q2]
theorem Jhe {u:Nat}{f:Nat->Int}{i:Nat}(h:i<u):(fl u f)[i]? = some (.int (f i)):=by
 unfold fl;rw [Qk,Xs h];rfl
theorem Jkf {u:Nat}{f g:Nat->Int}(h:∀ i,i<u->f i=g i):fl u f=fl u g:=by
 unfold fl
 exact Ug λ i hi=>by rw [h i (Xj.mp hi)]
theorem Vt {a b:Int}(ha:a.natAbs<2^9000) (hb:b.natAbs<2^9000):IntMulOk a b:=by
 have la:a.natAbs.log2<9000:=by
  by_cases h:a.natAbs=0
  . rw [h];decide
  . exact (J5x h).mpr ha
 have lb:b.natAbs.log2<9000:=by
  by_cases h:b.natAbs=0
  . rw [h];decide
  . exact (J5x h).mpr hb
 unfold IntMulOk
 intro h
 rw [Uc,Uc] at h
 have h3:=h.2
 have e1:J4t a<=9001:=by unfold J4t;split<;>omega
 have e2:J4t b<=9001:=by unfold J4t;split<;>omega
 have hbl:20000<=bitsLine:=by decide +kernel
 unfold Builtin.Int.intTooBig at h3
 simp at h3
 omega
theorem Y3 {ws:List Way}{k:Int}(h0:0<=k) (h1:k<ws.length):Jh ws k∈ws:=by
 unfold Jh
 rw [Qi,Qf (by omega)]
 exact Xp _
noncomputable abbrev Je4 (U:Int) (f:Nat->Int):J9i:=.tuple (fl U.toNat f)
theorem B6 {ws:List Way}{k:Int}(h0:0<=k) (h1:k<ws.length):atI (ws.map Y8) k=some (Y8 (Jh ws k)):=by
 refine Yi h0 ?_
 rw [Qk,Qf (by omega)]
 unfold Jh
 rw [Qi,Qf (by omega)]
 rfl
theorem Jvs {α:Type}{xs:List α}{x:α}(h:xs≠[]) (e:xs.getLast? = some x):atI xs (-1)=some x:=by
 have hl:0<xs.length:=J57.mpr h
 unfold atI ixN
 rw [if_neg (by omega),if_pos (by omega)]
 show xs[(-1+(xs.length:Int)).toNat]? = some x
 rw [show (-1+(xs.length:Int)).toNat=xs.length-1 by omega,<- J78]
 exact e
theorem V6 (xs ys:List J9i):(Vf xs ys).length=min xs.length ys.length:=by unfold Vf;exact J4q
theorem Jsz (U:Int):(Qr U.toNat [Qp 0]).flatten=fl U.toNat λ _=>0:=by
 unfold fl
 induction U.toNat with
 | zero=>rfl
 | succ n ih=>rw [List.replicate_succ',J2y,Q1,J79,ih];rfl
theorem Bv {turn:J9i->Nat->(Option J9i->Nat->Prop)->Prop}{u n:Nat}{Q:List J9i->Nat->Prop}{e:Nat->J9i}(f:Nat->J9i) (h:∀ i,i<u->∀ n K,K (some (f i)) n->turn (e i) n K) (q:Q ((Qn u).map f) n):Jc8 turn ((Qn u).map e) n Q:=by
 have key:∀ (l:List Nat) (n:Nat) (Q:List J9i->Nat->Prop),(∀ i∈l,i<u)->Q (l.map f) n->Jc8 turn (l.map e) n Q:=by
  intro l
  induction l with
  | nil=>intro n Q _ q;exact q
  | cons x xs ih=>intro n Q hl q;exact h x (hl x Qg) _ _ (ih _ _ (λ i hi=>hl i (Qh _ hi)) q)
 exact key _ _ _ (λ i hi=>Xj.mp hi) q
theorem Jl8 {c:Bool}{A B:Prop}(h:c=true) (a:A):if c=true then A else B:=by rw [if_pos h];exact a
theorem Jdz {c:Bool}{A B:Prop}(h:c=false) (b:B):if c=true then A else B:=by rw [if_neg (by rw [h];exact Q6)];exact b
theorem Jjj {i j:Int}{Q:J9i->Prop}(h:Q (.bool (decide (i=j)))):fEq false (.int i) (.int j) Q:=h
theorem Jl9 {i j:Int}{Q:J9i->Prop}(h:Q (.bool (!decide (i=j)))):fEq true (.int i) (.int j) Q:=h
noncomputable def Js0:VEnds:={ nx:=λ _ _=>False,rt:=λ d _=>d = .bool true,rtn:=λ _ _=>False }
end My
namespace L2
structure FunD (K:Qc) (x qual:Str) (st:Stmt) (f:Addr) (fd:J9v):Prop where
 ex:∃ (oc:J9j) (od:Option Addr) (dV kV doc pm:J9j) (an:Option Addr) (cdv ct:J9j) (osl:Array (Option J9j)),
  fd=X0 x qual (Z6 st) (Zr st) (Je st) dV kV doc pm an cdv ct/\K.lookup f=some ⟨oc,od,.func fd,osl⟩/\J2n K cdv qual=true
 kp:Uk K (.ref f)=true
theorem FunD.ok {P:J9n}{w:J9m}{K:Qc}{mg:Str->Option J9j}{base:Heap}{x qual:Str}{st:Stmt}{f:Addr}{fd:J9v}{N ps:List Str}{k:Nat}{sp:Sp}(F:FunD K x qual st f fd) (S:FnScope N ps (Je st)) (len:∀ vs H Q E,sp vs H Q E->vs.length=ps.length)
 (hbody:∀ (cdv:J9j) (A:J9o) (outer:List Env) (s:J9k) (H:Hp) (vs:List V) (Q:VK) (E:XK),Room k (A.deeper (envOfC qual (Je st) s.heap.objs.size f cdv))->sp vs H Q E ->
  ∃ t,PSs (Jny CX0 P w K mg base N qual (Je st) f cdv A outer s H E).nox (Zr st) t/\t { nx:=λ _ H'=>Q .non H',rt:=Q } (start N vs) H):FnOk P w K mg base CX0 (k+1) f fd ps sp:=by
 obtain ⟨oc,od,dV,kV,doc,pm,an,cdv,ct,osl,rfl,lk,hcd⟩:=F.ex
 refine Jxb lk hcd S len λ A outer s H vs Q E hr hsp=>?_
 obtain ⟨t,h,q⟩:=hbody cdv A outer s H vs Q E hr hsp
 exact ⟨t,h.nox,q⟩
section
variable {X:Cx}{x:Str}{e:Expr}{es:List Expr}{p pos:Pos}{t:TA}{k:Nat}{ps:List Str}{sp:Sp}{i:Int}
end
end L2
namespace My
open L2
theorem Jy2 {t u:GS}{G:VEnds}{env:List Vl}{n:Nat}(Mid:List Vl->Nat->Prop) (h1:∀ N:List Vl->Nat->Prop,(∀ e k,Mid e k->N e k)->t { G with nx:=N } env n) (h2:∀ e k,Mid e k->∃ e2,Fz e e2/\u G e2 k):Jyz t u G env n:=h1 _ h2
noncomputable abbrev GSx:=List Vl->Nat->(J9i->Nat->Prop)->(Addr->Nat->Prop)->Prop
theorem J05 (xs:List J9i) (u:Nat) (hl:xs.length=u) (h:∀ x∈xs,∃ i:Int,x = .int i):∃ f:Nat->Int,xs=fl u f:=by
 subst hl
 induction xs with
 | nil=>exact ⟨λ _=>0,rfl⟩
 | cons x xs ih=>
  obtain ⟨i,rfl⟩:=h x Qg
  obtain ⟨f,hf⟩:=ih λ y hy=>h y (Qh _ hy)
  refine ⟨λ k=>match k with | 0=>i | k+1=>f k,?_⟩
  unfold fl at hf ⊢
  rw [Xu,List.range_succ_eq_map,Qz,Qy]
  exact congrArg (Qp i :: ·) hf
noncomputable def putF (f:Nat->Int) (k:Nat) (v:Int):Nat->Int:=λ i=>if i=k then v else f i
theorem Je5 (u:Nat) (f:Nat->Int) (k:Nat) (v:Int):(fl u f).set k (.int v)=fl u (putF f k v):=by
 apply X5
 intro i
 unfold fl putF
 rw [J3z,Qk,Qk]
 by_cases hk:k=i
 . subst hk
   rw [if_pos rfl,Qb,Q2]
   by_cases hu:k<u
   . rw [if_pos hu,Xs hu]
     simp
   . rw [if_neg hu,Q7 (by simp;omega)]
     rfl
 . rw [if_neg hk]
   by_cases hu:i<u
   . rw [Xs hu]
     simp [show ¬ i=k from λ e=>hk e.symm]
   . rw [Q7 (by simp;omega)]
     rfl
theorem Jd0 {turn:J9i->Nat->(Option J9i->Nat->Prop)->Prop}{u n:Nat}{Q:List J9i->Nat->Prop}{e:Nat->J9i}(p:Nat->Bool) (f:Nat->J9i) (h:∀ i,i<u->∀ n K,(p i=true->K (some (f i)) n)->(p i=false->K none n)->turn (e i) n K) (q:Q (((Qn u).filter p).map f) n):Jc8 turn ((Qn u).map e) n Q:=by
 have key:∀ (l:List Nat) (n:Nat) (Q:List J9i->Nat->Prop),(∀ i∈l,i<u)->Q ((l.filter p).map f) n->Jc8 turn (l.map e) n Q:=by
  intro l
  induction l with
  | nil=>intro n Q _ q;exact q
  | cons x xs ih=>
   intro n Q hl q
   refine h x (hl x Qg) _ _ (λ hp=>?_) (λ hp=>?_)
   . rw [J6g hp] at q
     exact ih _ _ (λ i hi=>hl i (Qh _ hi)) q
   . rw [J6h (by rw [hp];exact Q6)] at q
     exact ih _ _ (λ i hi=>hl i (Qh _ hi)) q
 exact key _ _ _ (λ i hi=>Xj.mp hi) q
def Jhf:GSp:=λ as n Q=>∃ (R U:Int) (ws:List Way) (k:Int),as=[.d (J7 R U ws),.d (.int k)]/\(0<=k/\k<ws.length)/\Q (.bool true) n
def Je6:GSp:=λ as n Q=>∃ (x a b:Int),as=[.d (.int x),.d (.int a),.d (.int b)]/\Q (.bool (decide (a<=x)&&decide (x<=b))) n
def Jbf:GSp:=λ as n Q=>∃ (x:Int),as=[.d (.int x)]/\Q (.bool true) n
theorem Jof {x:J9i}{Q:J9i->Prop}(h:x.canLay0=true) (hd:x.depth<=50) (q:Q (.bool false)):Jvn true x x Q:=⟨⟨h,h,Xl (J4u _ _) hd⟩,by rw [J6i _ h];exact q⟩
theorem Jq6 (u:Nat) (f:Nat->Int):fl u f=((Qn u).map f).map .int:=by unfold fl;rw [Qy];rfl
theorem Jgg {k i:Nat}{y:J9i}(h:(Jf5 0 k)[i]? = some y):i<k/\y = .int i:=by
 have hi:=(Qt.mp h).1
 rw [Yf] at hi
 refine ⟨hi,?_⟩
 unfold Jf5 at h
 rw [Qk,Xs hi] at h
 cases h
 simp
def Jb7:GSp:=λ as n Q=>∃ many:Int,as=[.tape,.d (.int many)]/\n<2^40/\0<many/\many<2^9000/\∀ r:Int,0<=r->r<many->Q (.int r) (n+1)
instance scal_draw:Scal Jb7:=⟨λ {as n P} h=>by
 obtain ⟨many,e,hn,h0,h1,q⟩:=h
 exact ⟨many,e,hn,h0,h1,λ r r0 r1=>⟨rfl,q r r0 r1⟩⟩⟩
theorem Js1:∀ (vs:List V) (H:Hp) (Q:VK) (E:XK),Jm Jb7 vs H Q E->Jn9 vs H Q E:=λ vs H Q E h=>by
 obtain ⟨S,ex,as,n,P,r,hc,al,iv,⟨many,rfl,hn,h0,h1,q⟩,k⟩:=h
 obtain ⟨u,v,rfl,⟨p,c,rfl,eu⟩,⟨w,ew,rw'⟩⟩:=J03 r
 cases eu
 cases ew
 cases rw'
 exact ⟨p,c,n,many,rfl,iv,hn,h0,h1,λ r H' r0 r1 J' kp=>k _ _ _ _ (q r r0 r1) ⟨kp,J'⟩ (.int r)⟩
theorem Jog {K:Qc}{N:List Str}{vs:List V}{H:Hp}{Q:VK}{E E':XK}{rest:TS}{gs:GS} [T:SV rest gs] (hN:2<=N.length) (h:Jly K vs H Q E) (hs:gs Js0 (.jnk :: .tape::Qr (N.length-2) .jnk) 0) :
 Jaq (Jc5 (Ji7 (Jj8 K) [] E' (Ye (Ze 0) Jam)) (V2 1)) rest { nx:=λ _ H'=>Q .non H',rt:=Q } (L2.start N vs) H:=by
 obtain ⟨a,ns,rfl,hS,hlen,q⟩:=h
 have est:L2.start N [V.ref a]=some (V.ref a)::none::Qr (N.length-2) none:=by
  unfold L2.start
  rw [show N.length-[V.ref a].length=(N.length-2)+1 by simp;omega]
  rfl
 rw [est]
 refine ⟨_,rfl,a,ns,rfl,hS,hlen,λ p c H1 k1 _ _ J=>?_⟩
 have al:Alc [p,c] H1:=λ b hb z=>J.fresh z hb
 have no:∀ i,Jk (.jnk :: .tape::Qr (N.length-2) .jnk) (some (V.ref a)::some (V.ref p)::Qr (N.length-2) none) i=[]:=λ i=>by
  unfold Jk
  cases e:((.jnk :: .tape::Qr (N.length-2) .jnk:List Vl))[i]? with
  | none=>rfl
  | some w=>
   have hm:=Xb e
   have:w = .jnk\/w = .tape:=by
    rcases Qd.mp hm with h | h
    . exact .inl h
    . rcases Qd.mp h with h | h
      . exact .inr h
      . exact .inl (J2z.mp h).2
   rcases this with rfl | rfl<;>rfl
 refine T.sv (C:=⟨Src.tape p c,[p,c],H1,[]⟩) (G:=Js0) ⟨λ _ h=>h.elim,λ _ h=>h.elim,λ _ h=>h.elim,λ {d n v H'} R h=>?_,λ _ h=>h.elim,λ _ _ h=>h.elim,λ _ h=>h.elim⟩ (ex:=[p,c]) (env:=.jnk :: .tape::Qr (N.length-2) .jnk) (σ:=some (V.ref a)::some (V.ref p)::Qr (N.length-2) none) ⟨⟨?_,λ i w e=>?_,λ b h=>h,al,J⟩,λ b h=>h,al,λ i j b h=>?_,λ i b h=>?_,.refl,λ x hx=>by cases hx⟩ hs
 . cases h
   have r:=R.r
   cases r
   exact q _
 . simp
 . match i with
   | 0=>cases e;trivial
   | 1=>cases e;exact ⟨p,c,rfl,rfl⟩
   | i+2=>
    have:w = .jnk:=(J2z.mp (Xb (by simpa using e))).2
    subst this
    trivial
 . rw [no] at h;cases h
 . rw [no] at h;cases h
def Jkg:GSp:=λ as n Q=>∃ mr mu mw:Int,as=[.tape,.d (.tuple [.int mr,.int mu,.int mw])]/\n<2^30/\(1<=mr/\mr<=12)/\(1<=mu/\mu<=6)/\(0<=mw/\mw<=36)/\∀ (R U:Int) (ws:List Way) (m:Nat),BookOk R U ws->R<=mr->U<=mu->m<=n+2000->Q (J7 R U ws) m
theorem Jma {turn:J9i->Nat->(Option J9i->Nat->Prop)->Prop}{items:List J9i}{n:Nat}{Q:List J9i->Nat->Prop}(c B:Nat) (R:J9i->Prop) (h:∀ x∈items,∀ n K,n<=B->(∀ y n',R y->n'<=n+c->K (some y) n')->turn x n K) (hB:n+c*items.length<=B) (q:∀ ys n',ys.length=items.length->(∀ y∈ys,R y)->n'<=n+c*items.length->Q ys n'):Jc8 turn items n Q:=by
 induction items generalizing n Q with
 | nil=>exact q [] n rfl (λ y hy=>by cases hy) (J3f _ _)
 | cons x xs ih=>
  rw [Xu,Nat.mul_add] at hB
  refine h x Qg _ _ (by omega) λ y n' hy hn=>ih (λ z hz=>h z (Qh _ hz)) (by omega) λ ys n2 hl hr hn2=>q _ _ (by simp [hl]) (λ z hz=>?_) (by rw [Xu,Nat.mul_add];omega)
  rcases Qd.mp hz with rfl | hz
  . exact hy
  . exact hr z hz
noncomputable def Jf0 (a b U:Int) (f:Nat->Int):Way:=⟨a,b,(Qn U.toNat).map f⟩
theorem Jhg (a b U:Int) (f:Nat->Int):Ux [.int a,.int b,Je4 U f]=Y8 (Jf0 a b U f):=by
 unfold Y8 Jf0 Je4
 rw [Jq6]
theorem Jhh {R a b U:Int}{f:Nat->Int}(ha:0<=a/\a<R) (hb:0<=b/\b<R) (hU:0<=U) (hf:∀ i,i<U.toNat->-99<=f i/\f i<=99):WayOk R U (Jf0 a b U f):=by
 refine ⟨ha.1,ha.2,hb.1,hb.2,?_,λ x hx=>?_⟩
 . show (((Qn U.toNat).map f).length:Int)=U
   rw [Qb,Q2];omega
 . obtain ⟨i,hi,rfl⟩:=Qo.mp hx
   exact hf i (Xj.mp hi)
theorem Jy3 (ys:List J9i) (u:Nat) {lo hi:Int}(hl:ys.length=u) (h:∀ y∈ys,∃ i:Int,y = .int i/\lo<=i/\i<=hi):∃ f:Nat->Int,ys=fl u f/\∀ i,i<u->lo<=f i/\f i<=hi:=by
 obtain ⟨f,rfl⟩:=J05 ys u hl λ y hy=>(h y hy).imp λ i hi=>hi.1
 refine ⟨f,rfl,λ i hi=>?_⟩
 have hm:Qp (f i)∈fl u f:=by unfold fl;exact Qo.mpr ⟨i,Xj.mpr hi,rfl⟩
 obtain ⟨j,e,h1⟩:=h _ hm
 cases e
 exact h1
theorem Jkh {u:Nat}{f:Nat->Int}{k:Nat}{v lo hi:Int}(h:∀ i,i<u->lo<=f i/\f i<=hi) (hv:lo<=v/\v<=hi):∀ i,i<u->lo<=putF f k v i/\putF f k v i<=hi:=λ i hi'=>by
 unfold putF
 split
 . exact hv
 . exact h i hi'
abbrev J2c (g:GE):GT:=λ env n Q=>g env n λ d n1=>match d with
 | .list xs=>Q (!xs.isEmpty) n1
 | .tuple xs=>Q (!xs.isEmpty) n1
 | _=>False
theorem Jhi {ex:List Addr}{H:Hp}{ds:List J9i}{vs:List V}(r:Reps ex H ds vs):ds.isEmpty=vs.isEmpty:=by
 cases r<;>rfl
def J06 (K:Qc) (te:TE):TT:=λ σ H Q=>te σ H λ x H'=>∃ k,Jye K x H' k/\Q k H'
theorem Jy4 {X:Cx}{a:Expr}{ta:TE}(ha:PE X a ta) (he:∀ whole,isTrue a X.env whole=(do let v <- whole;J90 a.pos;holding [v] (truthy v))):PT X a (J06 X.K ta):=Jr0 ha he
instance tv_tru {K:Qc}{te:TE}{g:GE} [A:EV false te g]:TV (J06 K te) (J2c g):=⟨λ {S ex env σ H n Q P} E h k=>A.ev E h λ d n1 v H1 h1 s1 r1=>by
 cases r1 with
 | list e m z rs=>exact ⟨_,.inl ⟨_,SqL.of e,rfl⟩,by rw [<- Jhi rs];exact k _ _ _ h1 s1⟩
 | tuple e m z rs=>exact ⟨_,.inr (.inl ⟨_,SqT.of e,rfl⟩),by rw [<- Jhi rs];exact k _ _ _ h1 s1⟩
 | none=>exact h1.elim
 | obj=>exact h1.elim
 | bool=>exact h1.elim
 | str=>exact h1.elim
 | int=>exact h1.elim⟩
noncomputable abbrev MT:Int:=10^100-1
theorem Jd1 (n:Nat) (d:J9i):(Qr n [d]).flatten=Qr n d:=by
 induction n with
 | zero=>rfl
 | succ n ih=>rw [U5,U6,ih,U5];rfl
mutual
noncomputable def nd:J9i->Nat
 | .tuple ds=>1+nds ds
 | _=>0
noncomputable def nds:List J9i->Nat
 | []=>0
 | d::r=>nd d+nds r
end
mutual
noncomputable def smI:J9i->Bool
 | .int i=>decide (i<=MT)
 | .tuple ds=>Jy5 ds
 | .list ds=>Jy5 ds
 | _=>true
noncomputable def Jy5:List J9i->Bool
 | []=>true
 | d::r=>smI d&&Jy5 r
end
end My
namespace HT
section
variable {prog:J9n}{w:J9m}{A:J9o}{E:J9j->J9k->Prop}{s:J9k}
end
end HT
namespace L2
section
variable {X:Cx}{e st:Expr}{te:TE}{ts:TO}{pos p2:Pos}
end
end L2
namespace My
open L2
section
variable {b:Bool}{te:TE}{g:GE}
end
noncomputable def gdB (d:J9i):Bool:=d.canLay0&&(d.intsShort 101&&(d.showable&&smI d))
theorem Js2 {s t:Str}{Q:J9i->Prop}(h:Q (.bool (decide (s=t)))):fEq false (.str s) (.str t) Q:=h
section
variable {d:J9i}{k n g:Int}(hg:gdB d=true) (gk:gdB (.int k)=true) (wk:(Qp k).weight<=10) (gn:gdB (.int n)=true) (wn:(Qp n).weight<=10) (gg:gdB (.int g)=true) (wg:(Qp g).weight<=333)
include hg gk wk gn wn gg wg
end
end My
namespace L2
section
variable {X:Cx}
end
end L2
namespace My
open L2
theorem Jmb {turn:J9i->Nat->(Option J9i->Nat->Prop)->Prop}{n:Nat}{R:J9i->J9i->Prop}:∀ {items:List J9i}{Q:List J9i->Nat->Prop},(∀ x∈items,∀ K,(∀ y,R x y->K (some y) n)->turn x n K)->(∀ ys,Jy1 R items ys->Q ys n)->Jc8 turn items n Q
 | [],Q,_,q=>q [] trivial
 | x::xs,Q,h,q=>h x Qg _ λ y hy=>Jmb (R:=R) (λ z hz=>h z (Qh _ hz)) λ ys hys=>q (y::ys) ⟨hy,hys⟩
section
variable {S:Src}{ex L:List Addr}{H H1 H2:Hp}{w:Vl}{o:Option V}
theorem SlR.adds:∀ {L:List Addr},(∀ b∈L,H b=none)->SlR S ex H w o->SlR S (L++ex) H w o
 | [],_,r=>r
 | l::L,h,r=>SlR.add (h l Qg) (SlR.adds (λ b hb=>h b (Qh _ hb)) r)
theorem Jmc {je:List Vl}{σ0 σ':L2.St}{n1 n2 k:Nat}(E:Ev S ex je σ0 H1 n1) (hL:∀ b∈L,H1 b=none) (kp:Kp (L++S.ch) H1 H2) (h2:∀ b∈L,H2 b≠none) (iv:S.inv n2 H2) (hj:∀ j:Nat,j<k->je[j]? = none\/je[j]? = some .jnk) (hs:∀ j:Nat,k<=j->σ'[j]? = σ0[j]?) (hz:σ'.length = σ0.length):Ev S (L++ex) je σ' H2 n2:=by
 have hc:∀ a∈S.ch,a∈L++ex:=λ a h=>Xh _ (E.ch a h)
 have kx:Kp (L++ex) H1 H2:=kp.mono λ b hb=>(Q4.mp hb).elim (λ h=>Xk _ h) λ h=>hc b h
 have st:∀ {a:Addr} {u:HO},H1 a=some u->a∉S.ch->H2 a=some u:=λ {a u} e nc=>kp _ _ e λ z=>(Q4.mp z).elim (λ h=>by rw [hL a h] at e;cases e) nc
 refine ⟨by rw [hz];exact E.len,λ j w e=>?_,hc,λ a ha=>?_,iv⟩
 . by_cases hjk:j<k
   . rcases hj j hjk with h | h
     . rw [h] at e;cases e
     . rw [h] at e;cases e;trivial
   . rw [hs j (J3c hjk)]
     have h:=SlR.adds hL (E.sl j w e)
     cases w with
     | jnk=>trivial
     | jar=>exact h
     | tape=>exact h
     | d x=>obtain ⟨v,e,r⟩:=h;exact ⟨v,e,r.keep kx⟩
     | pin v x=>obtain ⟨e,r⟩:=h;exact ⟨e,r.keep kx⟩
     | own xs=>obtain ⟨a,vs,e,h1,h2,h3,h4,h5⟩:=h;exact ⟨a,vs,e,st h1 h5,h2,h3.keep kx,h4,h5⟩
     | dct kvs=>obtain ⟨a,kws,e,h1,⟨h2,h3⟩,h4,h5⟩:=h;exact ⟨a,kws,e,st h1 h5,⟨h2,h3.keep kx⟩,h4,h5⟩
     | own2 ks ps=>obtain ⟨a,e,q⟩:=h;exact ⟨a,e,st q.h q.c,q.z,q.k,q.nd,q.m,q.c,λ p hp=>let w:=q.i p hp;⟨w.m,w.c,let ⟨vs,h1,h2,h3⟩:=w.h;⟨vs,st h1 w.c,h2,h3.keep kx⟩⟩⟩
 . rcases Q4.mp ha with ha | ha
   . exact h2 a ha
   . by_cases hac:a∈S.ch
     . exact S.dom iv a hac
     . intro z
       cases e:H1 a with
       | none=>exact E.al a ha e
       | some u=>rw [st e hac] at z;cases z
end
abbrev GN2:=List Vl->Nat->(List (List J9i)->Nat->Prop)->Prop
class N2 (te:TE) (g:outParam GN2):Prop where
 n2:∀ {S:Src} {ex:List Addr} {env:List Vl} {σ:L2.St} {H:Hp} {n:Nat} {Q:VK} {P:List (List J9i)->Nat->Prop},Ev S ex env σ H n->g env n P ->
  (∀ (ps:List (Addr×List J9i)) (n':Nat) (a:Addr) (H':Hp),P (ps.map (·.2)) n'->Ys S n' H H'->H a=none->(∀ p∈ps,H p.1=none)->Own2 S (a::ps.map (·.1)++ex) H' none ps a->Q (.ref a) H')->te σ H Q
def Jki (f:J9i->Nat->(List J9i->Nat->Prop)->Prop):List J9i->Nat->(List (List J9i)->Nat->Prop)->Prop
 | [],n,Q=>Q [] n
 | x::xs,n,Q=>f x n λ d n1=>Jki f xs n1 λ ys n2=>Q (d::ys) n2
abbrev Jkj (bd:GG) (gn:GN) (env:List Vl):J9i->Nat->(List J9i->Nat->Prop)->Prop:=λ x n Q=>bd x env λ env'=>gn env' n Q
abbrev Jy6 (gi:GN) (k:Nat) (idx ks:List Nat) (bd:GG) (gn:GN):GN2:=λ env n Q=>gi env n λ items n1=>(ks.all (λ i=>decide (i<k))=true/\items.length<=1000000/\items.all W9=true)/\Jki (Jkj bd gn (Jc9 k idx env)) items n1 Q
instance n2_comp {wi:TI}{gi:GN}{k:Nat}{idx ks:List Nat}{g:TG}{bd:GG}{te:TE}{gn:GN} [I:IC wi gi] [G:GV g bd ks] [A:NV te gn]:N2 (Jat wi k idx g Jgd te) (Jy6 gi k idx ks bd gn):=⟨λ {S ex env σ H n Q P} E h kk=>by
 refine I.ic E h λ items n1 J H1 hc s1 hit l hl=>?_
 obtain ⟨⟨hk,hz,hsc⟩,hc⟩:=hc
 have hs:sizeLine=16777216:=J9p
 have E1:=Jg8 (E.step s1) k idx
 have lch:l∉S.ch:=λ z=>S.dom s1.2 l z hl
 have hkk:∀ i∈ks,i<k:=λ i hi=>of_decide_eq_true (X9.mp hk i hi)
 refine ⟨λ i m σ' H2=>i<=items.length/\m=items.length-i/\∃ (n2:Nat) (ps:List (Addr×List J9i)),Jki (Jkj bd gn (Jc9 k idx env)) (items.drop i) n2 (λ ys n'=>P (ps.map (·.2)++ys) n')/\Kp (l::S.ch) H1 H2/\H2 l=some (.lst (Yt ps))/\ps.length<=i/\(∀ p∈ps,H1 p.1=none)/\(l::ps.map (·.1)).Nodup/\(∀ p∈ps,In2 S (l::ps.map (·.1)++ex) H2 p)/\S.inv n2 H2/\(∀ j:Nat,k<=j->σ'[j]? = (Yo k idx σ)[j]?)/\σ'.length=(Yo k idx σ).length,
  ⟨items.length,Xr _,rfl,n1,[],by simpa using hc,Kp.new hl _,Jg,Ql _,(λ p hp=>by cases hp),by simp,(λ p hp=>by cases hp),S.keep s1.2 λ b _ o' e=>Kp.new (ex:=[]) hl _ _ _ e (by simp),λ _ _=>rfl,rfl⟩,?_⟩
 rintro i m σ' H2 ⟨hi,rfl,n2,ps,hcm,kp,h2l,hvl,hno,hnd,hin,iv2,hsl,hln⟩
 have hL:∀ b∈l::ps.map (·.1),H1 b=none:=λ b hb=>by
  rcases Qd.mp hb with rfl | hb
  . exact hl
  . obtain ⟨p,hp,rfl⟩:=Qo.mp hb
    exact hno p hp
 have hL2:∀ b∈l::ps.map (·.1),H2 b≠none:=λ b hb=>by
  rcases Qd.mp hb with rfl | hb
  . rw [h2l];exact Xt _
  . obtain ⟨p,hp,rfl⟩:=Qo.mp hb
    obtain ⟨vs,h1,_⟩:=(hin p hp).h
    rw [h1];exact Xt _
 have E2:Ev S (l::ps.map (·.1)++ex) (Jc9 k idx env) σ' H2 n2:=Jmc E1 hL (kp.mono λ b hb=>(Qd.mp hb).elim (λ e=>by rw [e];exact Xk _ Qg) λ h=>Xh _ h) hL2 iv2 Jg9 hsl hln
 have IT:=hit l H2 hl kp λ a ha=>(Qd.mp ha).elim (λ e=>by rw [e,h2l];exact Xt _) λ h=>E2.al a (Xh _ h)
 rcases Ud i items.length with hlt | hge
 . refine .inr ⟨(IT.2 i items[i] (Qf hlt)).1,λ x H3 y=>?_⟩
   obtain ⟨kp3,rx⟩:=(IT.2 i items[i] (Qf hlt)).2 x H3 y
   have rx':=Jg6 (X9.mp hsc items[i] (Xp hlt)) rx (l::ps.map (·.1)++ex)
   rw [J4r hlt] at hcm
   have st3:Ys S n2 H2 H3:=Ys.new E2.inv kp3
   have E3:=E2.step st3
   refine G.gv E3 rx' hcm λ env' σ2 ht E4 _ hs2' hl2=>tv_noTest.tv E4 (P:=λ c n'=>c=true/\n'=n2) ⟨rfl,rfl⟩ λ c n4 H4 h4 s4=>?_
   obtain ⟨rfl,rfl⟩:=h4
   have hs2:∀ j:Nat,k<=j->σ2[j]? = (Yo k idx σ)[j]?:=λ j hj=>by
    rw [hs2' j λ z=>by have:=hkk j z;omega];exact hsl j hj
   refine A.nv (E4.step s4) ht λ ds n5 a vs H5 h5 s5 ha hla hzv r5=>?_
   have s24:=st3.trans s4
   have s25:=s24.trans s5
   have k5:Kp S.ch H2 H5:=s25.1
   have h5l:H5 l=some (.lst (Yt ps)):=k5 _ _ h2l lch
   have an:a∉l::ps.map (·.1)++ex:=λ z=>(E4.step s4).al a z ha
   have ac:a∉S.ch:=λ z=>an (E4.ch a z)
   have ha1:H1 a=none:=by
    cases e:H1 a with
    | none=>rfl
    | some u=>
     have e2:=kp a u e λ z=>(Qd.mp z).elim (λ q=>an (by rw [q];exact Xk _ Qg)) ac
     rw [s24.1 a u e2 ac] at ha;cases ha
   have al:a≠l:=λ e=>an (by rw [e];exact Xk _ Qg)
   have msub:∀ b∈l::(ps++[(a,ds)]).map (·.1)++ex,b∈a::(l::ps.map (·.1)++ex):=λ b hb=>by
    simp only [Q1,Qz,J2w,J3h,Qd,Q4,Uf,or_false] at hb ⊢
    rcases hb with h | (h | h) | h
    . exact .inr (.inl h)
    . exact .inr (.inr (.inl h))
    . exact .inl h
    . exact .inr (.inr (.inr h))
   have mup:∀ b∈l::ps.map (·.1)++ex,b∈l::(ps++[(a,ds)]).map (·.1)++ex:=λ b hb=>by
    simp only [Q1,Qz,J2w,J3h,Qd,Q4,Uf,or_false] at hb ⊢
    rcases hb with h | h | h
    . exact .inl h
    . exact .inr (.inl (.inl h))
    . exact .inr (.inr h)
   have lin:l∈l::(ps++[(a,ds)]).map (·.1)++ex:=Xk _ Qg
   refine ⟨Yt ps,h5l,by unfold Yt;rw [Qb];omega,_,(?_:items.length-(i+1)<_),hlt,rfl,n5,ps++[(a,ds)],?_,?_,?_,?_,?_,?_,?_,?_,hs2,hl2.trans hln⟩
   . omega
   . simpa using h5
   . exact (kp.trans (k5.mono λ b hb=>Qh _ hb)).trans (Kp.at Qg _)
   . rw [Jg];unfold Yt;rw [Q1];rfl
   . rw [Xc,Uq];omega
   . intro p hp
     rcases Q4.mp hp with hp | hp
     . exact hno p hp
     . rw [Qq.mp hp];exact ha1
   . rw [Q1,<- J3h]
     refine J30.mpr ⟨hnd,by simp,?_⟩
     intro b hb c hc e
     have e':b=a:=e.trans (Qq.mp hc)
     exact an (Xk _ (e'▸hb))
   . intro p hp
     rcases Q4.mp hp with hp | hp
     . have w:=hin p hp
       obtain ⟨us,g1,g2,g3⟩:=w.h
       have pl:p.1≠l:=λ e=>(Xn.mp hnd).1 (by rw [<- e];exact Qo.mpr ⟨p,hp,rfl⟩)
       refine ⟨mup p.1 w.m,w.c,us,by rw [Jf pl];exact k5 _ _ g1 w.c,g2,?_⟩
       have q4:Reps (l::ps.map (·.1)++ex) H4 p.2 us:=g3.keep (s24.1.mono E2.ch)
       have q5:Reps (a::(l::ps.map (·.1)++ex)) H5 p.2 us:=(Reps.add ha q4).keep (s5.1.mono λ b hb=>Qh _ (E2.ch b hb))
       exact (Reps.mono msub q5).keep (Kp.at lin _)
     . rw [Qq.mp hp]
       refine ⟨?_,ac,vs,by rw [Jf al];exact hla,hzv,(Reps.mono msub r5).keep (Kp.at lin _)⟩
       simp
   . exact S.keep s25.2 λ b hb o e=>by rw [Jf (λ z=>lch (by rw [<- z];exact hb))];exact e
 . have e:i=items.length:=by omega
   subst e
   rw [J4s] at hcm
   have hcm':P (ps.map (·.2)) n2:=by simpa [Jki] using hcm
   refine .inl ⟨IT.1,kk ps n2 l H2 hcm' ⟨λ b o e nb=>kp b o (s1.1 b o e nb) λ z=>(Qd.mp z).elim (λ e2=>by rw [e2,s1.free hl] at e;cases e) nb,iv2⟩ (s1.free hl) (λ p hp=>s1.free (hno p hp)) ⟨h2l,by omega,(λ _ h=>by cases h),hnd,Xk _ Qg,lch,hin⟩⟩⟩
theorem Rep.adds {ex:List Addr}{H:Hp}{d:J9i}{v:V}:∀ {L:List Addr},(∀ b∈L,H b=none)->Rep ex H d v->Rep (L++ex) H d v
 | [],_,r=>r
 | l::L,h,r=>Rep.add (h l Qg) (Rep.adds (λ b hb=>h b (Qh _ hb)) r)
section
variable {C:Cv}{ex:List Addr}{env:List Vl}{σ:L2.St}{H H':Hp}{n m:Nat}
theorem Jkk {i:Nat}{ks:Option (List Key)}{ps:List (Addr×List J9i)}{a b:Addr}(h:b∈Jk (env.set i (.own2 ks ps)) (σ.set i (some (.ref a))) i):b∈a::ps.map (·.1):=by
 unfold Jk at h
 split at h
 . rename_i e1 e2
   have:=Vg e1
   cases this
 . rename_i e1 e2
   have:=Vg e1
   cases this
 . rename_i c e1 e2
   have e3:(σ.set i (some (.ref a)))[i]? = some (some (.ref c)):=Jl e2
   have h3:=Vg e3
   cases h3
   have h4:=Vg e1
   cases h4
   exact h
 . cases h
theorem At.own2 (A:At C ex env σ H n) {i:Nat}{ks:Option (List Key)}{ps:List (Addr×List J9i)}{a:Addr}(s:Ys C.S m H H') (ha:H a=none) (hp:∀ p∈ps,H p.1=none) (q:Own2 C.S (a::ps.map (·.1)++ex) H' ks ps a) :
 At C (a::ps.map (·.1)++ex) (env.set i (.own2 ks ps)) (σ.set i (some (.ref a))) H' m:=by
 have hL:∀ b∈a::ps.map (·.1),H b=none:=λ b hb=>by
  rcases Qd.mp hb with rfl | hb
  . exact ha
  . obtain ⟨p,h,rfl⟩:=Qo.mp hb
    exact hp p h
 have hL2:∀ b∈a::ps.map (·.1),H' b≠none:=λ b hb=>by
  rcases Qd.mp hb with rfl | hb
  . rw [q.h];exact Xt _
  . obtain ⟨p,h,rfl⟩:=Qo.mp hb
    obtain ⟨vs,h1,_⟩:=(q.i p h).h
    rw [h1];exact Xt _
 have hc:∀ b∈C.S.ch,b∈a::ps.map (·.1)++ex:=λ b h=>Xh _ (A.ev.ch b h)
 have E1:Ev C.S (a::ps.map (·.1)++ex) env σ H' m:=by
  refine ⟨A.ev.len,λ j w e=>(SlR.adds hL (A.ev.sl j w e)).kp hc s.1,hc,λ b hb=>?_,s.2⟩
  rcases Q4.mp hb with hb | hb
  . exact hL2 b hb
  . exact A.ev.al.step s b hb
 refine ⟨E1.put ⟨a,rfl,q⟩,λ b h=>Xh _ (A.ex0 b h),A.al0,λ j k b h1 h2=>?_,λ j b h=>?_,A.kp.trans s.1,λ h hh=>(Rep.adds hL (A.held h hh)).keep (s.1.mono hc)⟩
 . by_cases hj:i=j
   . subst hj
     have e:=hL b (Jkk h1)
     by_cases hk:i=k
     . exact hk
     . rw [Zg hk] at h2
       exact absurd e (Bc A.ev h2).1
   . rw [Zg hj] at h1
     by_cases hk:i=k
     . subst hk
       exact absurd (hL b (Jkk h2)) (Bc A.ev h1).1
     . rw [Zg hk] at h2
       exact A.sep j k b h1 h2
 . by_cases hj:i=j
   . subst hj
     exact A.free (hL b (Jkk h))
   . rw [Zg hj] at h
     exact A.new j b h
theorem Jjk {i:Nat}{ks:Option (List Key)}{ps qs:List (Addr×List J9i)}(h:env[i]? = some (.own2 ks ps)) (e:qs.map (·.1)=ps.map (·.1)):∀ j,Jk (env.set i (.own2 ks qs)) σ j=Jk env σ j:=λ j=>by
 unfold Jk
 by_cases hj:i=j
 . subst hj
   rw [Q8 (Qt.mp h).1,h]
   cases (σ[i]?).join with
   | none=>rfl
   | some v=>cases v<;>first | rfl | (show _::_=_::_;rw [e])
 . rw [Q9 hj]
theorem Jd2 {α:Type}{l:List α}{m:Nat}{a b:α}(h:b∈l.set m a):b=a\/∃ k,k≠m/\l[k]? = some b:=by
 obtain ⟨k,hk⟩:=Ur.mp h
 by_cases e:m=k
 . subst e
   exact .inl (Vg hk)
 . rw [Q9 e] at hk
   exact .inr ⟨k,λ z=>e z.symm,hk⟩
theorem J07 {l:List Addr}(hn:l.Nodup) {k m:Nat}{a b:Addr}(h:l[k]? = some a) (g:l[m]? = some b) (e:k≠m):a≠b:=by
 intro z
 subst z
 obtain ⟨h1,h2⟩:=Qt.mp h
 obtain ⟨g1,g2⟩:=Qt.mp g
 have pw:=J4v.mp hn
 rcases Nat.lt_or_gt_of_ne e with lt | gt
 . exact pw k m h1 g1 lt (h2.trans g2.symm)
 . exact pw m k g1 h1 gt (g2.trans h2.symm)
theorem At.re2 (A:At C ex env σ H n) {i j:Nat}{ks:Option (List Key)}{ps:List (Addr×List J9i)}{p:Addr×List J9i}{ys:List J9i}{ws:List V}{a:Addr}(h:env[i]? = some (.own2 ks ps)) (hs:(σ[i]?).join=some (.ref a)) (hp:ps[j]? = some p) (r:Reps ex H ys ws) (hz:ws.length<=sizeLine) :
 At C ex (env.set i (.own2 ks (ps.set j (p.1,ys)))) σ (upd H p.1 (.lst ws)) n:=by
 obtain ⟨a',e',q⟩:=A.ev.sl i _ h
 rw [hs] at e'
 cases e'
 have hpm:=Xb hp
 have hmap:(ps.set j (p.1,ys)).map (·.1)=ps.map (·.1):=by
  rw [X6]
  refine X5 λ k=>?_
  by_cases e:j=k
  . subst e
    rw [Q8 (by rw [Qb];exact (Qt.mp hp).1),Qk,hp];rfl
  . rw [Q9 e]
 have hrefs:Yt (ps.set j (p.1,ys))=Yt ps:=by
  have e1:∀ l:List (Addr×List J9i),Yt l=(l.map (·.1)).map V.ref:=λ l=>by unfold Yt;rw [Qy];rfl
  rw [e1,e1,hmap]
 have ha:p.1∈Jk env σ i:=by unfold Jk;rw [h,hs];exact Qh _ (Qo.mpr ⟨p,hpm,rfl⟩)
 obtain ⟨h1,h2,h3⟩:=Bc A.ev ha
 have h0:=A.new i p.1 ha
 have kx:Kp ex H (upd H p.1 (.lst ws)):=Kp.at h2 _
 have pa:a≠p.1:=λ z=>(Xn.mp q.nd).1 (by rw [z];exact Qo.mpr ⟨p,hpm,rfl⟩)
 have hn2:=(Xn.mp q.nd).2
 refine ⟨⟨by rw [Qs];exact A.ev.len,λ k w e=>?_,A.ev.ch,λ b hb=>?_,C.S.keep A.ev.inv λ b hb o e=>by rw [Jf (λ z=>h3 (by rw [<- z];exact hb))];exact e⟩,A.ex0,A.al0,λ k l b q1 q2=>?_,λ k b q=>?_,Kp.late A.kp h0 _,λ x hx=>(A.held x hx).keep kx⟩
 . by_cases hk:i=k
   . subst hk
     rw [Q8 (Qt.mp h).1] at e
     cases e
     refine ⟨a,hs,⟨by rw [Jf pa,hrefs];exact q.h,by rw [Qs];exact q.z,λ l hl=>by rw [Qs];exact q.k l hl,by rw [hmap];exact q.nd,q.m,q.c,λ t ht=>?_⟩⟩
     rcases Jd2 ht with rfl | ⟨k,hkj,hk⟩
     . exact ⟨h2,h3,ws,Jg,hz,r.keep kx⟩
     . have w:=q.i t (Xb hk)
       have tp:t.1≠p.1:=J07 hn2 (k:=k) (m:=j) (by rw [Qk,hk];rfl) (by rw [Qk,hp];rfl) hkj
       obtain ⟨us,g1,g2,g3⟩:=w.h
       exact ⟨w.m,w.c,us,by rw [Jf tp];exact g1,g2,g3.keep kx⟩
   . rw [Q9 hk] at e
     exact SlR.upd h2 (λ b hb z=>hk (A.sep i k p.1 ha (by rw [Jbe e,<- z];exact hb))) (A.ev.sl k w e)
 . by_cases hb2:b=p.1
   . rw [hb2,Jg];intro z;cases z
   . rw [Jf hb2];exact A.ev.al b hb
 . rw [Jjk h hmap] at q1 q2;exact A.sep k l b q1 q2
 . rw [Jjk h hmap] at q;exact A.new k b q
end
def Jjl (i:Nat) (wi:TI) (k:Nat) (idx:List Nat) (g:TG) (tt:TT) (te:TE):TS:=V4 i wi k idx g tt te
theorem Jvt {X:Cx}{st:Stmt}{i:Nat}{wi:TI}{k:Nat}{idx:List Nat}{g:TG}{tt:TT}{te:TE}(h:PS X st (V4 i wi k idx g tt te)):PS X st (Jjl i wi k idx g tt te):=h
abbrev Jxs (i:Nat) (g:GN2):GS:=λ G env n=>g env n λ xss n1=>∀ ps:List (Addr×List J9i),ps.map (·.2)=xss->G.nx (env.set i (.own2 none ps)) n1
instance sv_set2 {i:Nat}{wi:TI}{k:Nat}{idx:List Nat}{g:TG}{tt:TT}{te:TE}{gn:GN2} [E:N2 (Jat wi k idx g tt te) gn]:SV (Jjl i wi k idx g tt te) (Jxs i gn):=⟨λ {C G D} O {ex env σ H n} A h=>
 show Jat wi k idx g tt te σ H (λ v H2=>D.nx (σ.set i (some v)) H2) from E.n2 A.ev h λ ps n1 a H1 h1 s1 ha hp q=>O.nx (A.own2 s1 ha hp q) (h1 ps rfl)⟩
abbrev Jy7 (i:Nat) (gx gy ge:GE):GS:=λ G env n=>ge env n λ d n1=>match env[i]? with
 | some (.own2 none ps)=>gx env n1 λ x n2=>(match x with
  | .int x=>∃ m p,ixN ps.length x=some m/\ps[m]? = some p/\gy env n2 λ y n3=>(match y with
   | .int y=>∃ m',ixN p.2.length y=some m'/\G.nx (env.set i (.own2 none (ps.set m (p.1,p.2.set m' d)))) n3
   | _=>False)
  | _=>False)
 | _=>False
theorem Jvu {ps:List (Addr×List J9i)}{x:Int}{m:Nat}{p:Addr×List J9i}(h:ixN ps.length x=some m) (hp:ps[m]? = some p):atI (Yt ps) x=some (V.ref p.1):=by
 unfold atI Yt
 rw [Qb,h]
 show (ps.map λ p=>V.ref p.1)[m]? = _
 rw [Qk,hp];rfl
instance sv_set2I {K:Qc}{i:Nat}{te tx ty:TE}{ge gx gy:GE} [E:EV true te ge] [X:EV false tx gx] [Y:EV false ty gy]:SV (Jc5 te (Jnm (tOp (Jlt K) (Ze i) tx) ty Jgv)) (Jy7 i gx gy ge):=⟨λ {C G D} O {ex env σ H n} A h=>by
 refine E.ev A.ev h λ d n1 v H1 hd s1 r=>?_
 have A1:=A.step s1
 split at hd
 . rename_i ps e
   obtain ⟨a,ev,q⟩:=A1.ev.sl i _ e
   refine ⟨_,Jl ev,X.ev A1.ev hd λ x n2 xv H2 hx s2 rx=>?_⟩
   have A2:=A1.step s2
   cases rx with
   | int x=>
    obtain ⟨m,p,hm,hp,hy⟩:=hx
    obtain ⟨a2,ev2,q2⟩:=A2.ev.sl i _ e
    rw [ev] at ev2
    cases ev2
    refine ⟨a,Yt ps,x,_,rfl,rfl,SqL.of q2.h,Jvu hm hp,Y.ev A2.ev hy λ y n3 yv H3 hy' s3 ry=>?_⟩
    have A3:=A2.step s3
    obtain ⟨a3,ev3,q3⟩:=A3.ev.sl i _ e
    rw [ev] at ev3
    cases ev3
    cases ry with
    | int y=>
     obtain ⟨m',hm',hq⟩:=hy'
     obtain ⟨vs,g1,g2,g3⟩:=(q3.i p (Xb hp)).h
     have l:=g3.length
     have r3:Rep ex H3 d v:=A2.ev.rep s3 (A1.ev.rep s2 r)
     exact ⟨p.1,vs,y,m',rfl,rfl,g1,by rw [<- l];exact hm',O.nx (A3.re2 e ev hp (Jhb r3 m' g3) (by rw [Qs];exact g2)) hq⟩
    | none=>exact hy'.elim
    | obj=>exact hy'.elim
    | bool=>exact hy'.elim
    | str=>exact hy'.elim
    | tuple=>exact hy'.elim
    | list=>exact hy'.elim
   | none=>exact hx.elim
   | obj=>exact hx.elim
   | bool=>exact hx.elim
   | str=>exact hx.elim
   | tuple=>exact hx.elim
   | list=>exact hx.elim
 . exact hd.elim⟩
section
variable {C:Cv}{ex:List Addr}{env:List Vl}{σ:L2.St}{H H':Hp}{n m:Nat}
theorem At.more (A:At C ex env σ H n) {b:Addr}(s:Ys C.S m H H') (hb:H b=none) (h2:H' b≠none):At C (b::ex) env σ H' m:=by
 have hc:∀ c∈C.S.ch,c∈b::ex:=λ c h=>Qh _ (A.ev.ch c h)
 refine ⟨⟨A.ev.len,λ j w e=>(SlR.add hb (A.ev.sl j w e)).kp hc s.1,hc,λ c hc=>?_,s.2⟩,λ c h=>Qh _ (A.ex0 c h),A.al0,A.sep,A.new,A.kp.trans s.1,λ h hh=>(Rep.add hb (A.held h hh)).keep (s.1.mono hc)⟩
 rcases Qd.mp hc with rfl | hc
 . exact h2
 . exact A.ev.al.step s c hc
theorem Js3 {ps:List (Addr×List J9i)}{j:Nat}{b:Addr}{ds:List J9i}:Yt (ps.set j (b,ds))=(Yt ps).set j (.ref b):=by unfold Yt;rw [X6]
theorem Jq7 {l:List Addr}(h:l.Nodup) {b:Addr}(hb:b∉l) (j:Nat):(l.set j b).Nodup:=by
 induction l generalizing j with
 | nil=>simp
 | cons x xs ih=>
  have h1:=Xn.mp h
  cases j with
  | zero=>exact Xn.mpr ⟨λ z=>hb (Qh _ z),h1.2⟩
  | succ j=>
   refine Xn.mpr ⟨λ z=>?_,ih h1.2 (λ z=>hb (Qh _ z)) j⟩
   rcases Jd2 z with e | ⟨k,_,hk⟩
   . exact hb (by rw [<- e];exact Qg)
   . exact h1.1 (Xb hk)
theorem At.row2 (A:At C ex env σ H n) {i j:Nat}{ps:List (Addr×List J9i)}{ds:List J9i}{vs:List V}{a b:Addr}(h:env[i]? = some (.own2 none ps)) (hs:(σ[i]?).join=some (.ref a)) (bm:b∈ex) (bc:b∉C.S.ch) (hb:H b=some (.lst vs)) (hz:vs.length<=sizeLine) (r:Reps ex H ds vs) (bo:∀ k,b∉Jk env σ k) (b0:C.H0 b=none) :
 At C ex (env.set i (.own2 none (ps.set j (b,ds)))) σ (upd H a (.lst ((Yt ps).set j (.ref b)))) n:=by
 obtain ⟨a',e',q⟩:=A.ev.sl i _ h
 rw [hs] at e'
 cases e'
 have oi:Jk env σ i=a::ps.map (·.1):=by unfold Jk;rw [h,hs]
 have ha:a∈Jk env σ i:=by rw [oi];exact Qg
 have bi:=bo i
 rw [oi] at bi
 have ba:b≠a:=λ z=>bi (by rw [z];exact Qg)
 have bp:b∉ps.map (·.1):=λ z=>bi (Qh _ z)
 have h0:=A.new i a ha
 have kx:Kp ex H (upd H a (.lst ((Yt ps).set j (.ref b)))):=Kp.at q.m _
 have hmap:(ps.set j (b,ds)).map (·.1)=(ps.map (·.1)).set j b:=by rw [X6]
 have nd2:=Xn.mp q.nd
 have oo:∀ k c,c∈Jk (env.set i (.own2 none (ps.set j (b,ds)))) σ k->c∈Jk env σ k\/(c=b/\k=i):=λ k c hc=>by
  by_cases hk:i=k
  . subst hk
    have e2:Jk (env.set i (.own2 none (ps.set j (b,ds)))) σ i=a::(ps.set j (b,ds)).map (·.1):=by unfold Jk;rw [Q8 (Qt.mp h).1,hs]
    rw [e2,hmap] at hc
    rw [oi]
    rcases Qd.mp hc with e | hc
    . exact .inl (by rw [e];exact Qg)
    . rcases Jd2 hc with e | ⟨t,_,ht⟩
      . exact .inr ⟨e,rfl⟩
      . exact .inl (Qh _ (Xb ht))
  . have e2:Jk (env.set i (.own2 none (ps.set j (b,ds)))) σ k=Jk env σ k:=by unfold Jk;rw [Q9 hk]
    rw [e2] at hc
    exact .inl hc
 refine ⟨⟨by rw [Qs];exact A.ev.len,λ k w e=>?_,A.ev.ch,λ c hc=>?_,C.S.keep A.ev.inv λ c hc o e=>by rw [Jf (λ z=>q.c (by rw [<- z];exact hc))];exact e⟩,A.ex0,A.al0,λ k l c q1 q2=>?_,λ k c q=>?_,Kp.late A.kp h0 _,λ x hx=>(A.held x hx).keep kx⟩
 . by_cases hk:i=k
   . subst hk
     rw [Q8 (Qt.mp h).1] at e
     cases e
     refine ⟨a,hs,⟨by rw [Jg,Js3];rfl,by rw [Qs];exact q.z,(λ l hl=>by cases hl),?_,q.m,q.c,λ t ht=>?_⟩⟩
     . rw [hmap]
       refine Xn.mpr ⟨λ z=>?_,Jq7 nd2.2 bp j⟩
       rcases Jd2 z with e | ⟨t,_,ht⟩
       . exact ba e.symm
       . exact nd2.1 (Xb ht)
     . rcases Jd2 ht with rfl | ⟨k,_,hk⟩
       . exact ⟨bm,bc,vs,by rw [Jf ba];exact hb,hz,r.keep kx⟩
       . have w:=q.i t (Xb hk)
         have ta:t.1≠a:=λ z=>nd2.1 (by rw [<- z];exact Qo.mpr ⟨t,Xb hk,rfl⟩)
         obtain ⟨us,g1,g2,g3⟩:=w.h
         exact ⟨w.m,w.c,us,by rw [Jf ta];exact g1,g2,g3.keep kx⟩
   . rw [Q9 hk] at e
     exact SlR.upd q.m (λ c hc z=>hk (A.sep i k a ha (by rw [Jbe e,<- z];exact hc))) (A.ev.sl k w e)
 . by_cases hc2:c=a
   . rw [hc2,Jg];intro z;cases z
   . rw [Jf hc2];exact A.ev.al c hc
 . rcases oo k c q1 with h1 | ⟨rfl,rfl⟩
   . rcases oo l c q2 with h2 | ⟨rfl,rfl⟩
     . exact A.sep k l c h1 h2
     . exact absurd h1 (bo k)
   . rcases oo l c q2 with h2 | ⟨_,rfl⟩
     . exact absurd h2 (bo l)
     . rfl
 . rcases oo k c q with h1 | ⟨rfl,_⟩
   . exact A.new k c h1
   . exact b0
end
def Js4 (te:TE) (i:Nat) (tx:TE):TS:=Jc5 te (Jnm (Ze i) tx Jgv)
theorem Jps {X:Cx}{st:Stmt}{te tx:TE}{i:Nat}(h:PS X st (Jc5 te (Jnm (Ze i) tx Jgv))):PS X st (Js4 te i tx):=h
abbrev Jy8 (i:Nat) (gx:GE) (gn:GN):GS:=λ G env n=>gn env n λ ds n1=>match env[i]? with
 | some (.own2 none ps)=>gx env n1 λ x n2=>(match x with
  | .int x=>∃ j,ixN ps.length x=some j/\∀ b:Addr,G.nx (env.set i (.own2 none (ps.set j (b,ds)))) n2
  | _=>False)
 | _=>False
instance sv_set2R {i:Nat}{te tx:TE}{gn:GN}{gx:GE} [E:NV te gn] [X:EV false tx gx]:SV (Js4 te i tx) (Jy8 i gx gn):=⟨λ {C G D} O {ex env σ H n} A h=>by
 refine E.nv A.ev h λ ds n1 b vs H1 hd s1 hb hl hz r=>?_
 have A1:=A.more s1 hb (by rw [hl];exact Xt _)
 split at hd
 . rename_i ps e
   obtain ⟨a,ev,q⟩:=A1.ev.sl i _ e
   refine ⟨_,Jl ev,X.ev A1.ev hd λ x n2 xv H2 hx s2 rx=>?_⟩
   have A2:=A1.step s2
   have bc:b∉C.S.ch:=λ z=>C.S.dom A.ev.inv b z hb
   cases rx with
   | int x=>
    obtain ⟨j,hj,hq⟩:=hx
    obtain ⟨a2,ev2,q2⟩:=A2.ev.sl i _ e
    rw [ev] at ev2
    cases ev2
    refine ⟨a,Yt ps,x,j,rfl,rfl,q2.h,by unfold Yt;rw [Qb];exact hj,?_⟩
    exact O.nx (A2.row2 e ev Qg bc (s2.1 _ _ hl bc) hz (A1.ev.reps s2 r) (λ k z=>(Bc A.ev z).1 hb) (A.free hb)) (hq b)
   | none=>exact hx.elim
   | obj=>exact hx.elim
   | bool=>exact hx.elim
   | str=>exact hx.elim
   | tuple=>exact hx.elim
   | list=>exact hx.elim
 . exact hd.elim⟩
theorem Je7 {ex:List Addr}{H:Hp}:∀ {ds:List J9i}{vs:List V},ds.all W9=true->Reps ex H ds vs->∀ ex',Reps ex' H ds vs
 | _,_,_,.nil,_=>.nil
 | d::ds,_,h,.cons r rs,ex'=>by
  rw [J3b,Uc] at h
  exact .cons (Jg6 h.1 r ex') (Je7 h.2 rs ex')
def Jxt (K:Qc) (ta:TA):TI:=Jn8 K ta
theorem Jvv {X:Cx}{tg e:Expr}{K:Qc}{ta:TA}(h:PI X tg e (Jn8 K ta)):PI X tg e (Jxt K ta):=h
abbrev J08 (t:GN):GN:=λ env n Q=>t env n λ ds n1=>∃ d e xs ys,ds=[d,e]/\Joc d=some xs/\Joc e=some ys/\(xs.all W9=true/\ys.all W9=true)/\Q (Vf xs ys) n1
instance ic_zip2 {K:Qc}{t:TA}{gt:GN} [A:DV false t gt]:IC (Jxt K t) (J08 gt):=⟨λ {S ex env σ H n R P} E h k=>A.dv E h λ ds n1 vs H1 h1 s1 r1=>by
 obtain ⟨d,e,xs,ys,rfl,hs,hs',⟨c1,c2⟩,q⟩:=h1
 cases r1 with
 | cons r1 t=>
  cases t with
  | cons r2 t=>
   cases t
   obtain ⟨c,a,ws,rfl,hq,rs,hc,na⟩:=Jdx r1 hs
   obtain ⟨c',a',ws',rfl,hq',rs',hc',na'⟩:=Jdx r2 hs'
   refine ⟨c,c',a,a',ws,ws',rfl,hq K,hq' K,k _ _ _ _ q s1 λ l H2 hl kp al=>?_⟩
   have w1:=(Rep.add hl r1).keep kp
   have w2:=(Rep.add hl r2).keep kp
   obtain ⟨v1,h3,h4⟩:=Jb6 hs hc r1 _ H2 w1
   obtain ⟨v2,h5,h6⟩:=Jb6 hs' hc' r2 _ H2 w2
   exact Jod al (h3 K) (Je7 c1 h4 _) (h5 K) (Je7 c2 h6 _)⟩
noncomputable def B7 (R:Nat) (f:Nat->Nat->Bool) (a:Nat):List J9i:=(Qn R).map λ b=>.bool (f a b)
noncomputable def Bd (R:Nat) (f:Nat->Nat->Bool):List (List J9i):=(Qn R).map (B7 R f)
section
variable {R a x y:Nat}{f g:Nat->Nat->Bool}
theorem Jb8:(B7 R f a).length=R:=by unfold B7;rw [Qb,Q2]
theorem B8:(Bd R f).length=R:=by unfold Bd;rw [Qb,Q2]
theorem Jd3 (h:y<R):(B7 R f a)[y]? = some (.bool (f a y)):=by
 unfold B7;rw [Qk,Xs h];rfl
theorem Jay (h:x<R):(Bd R f)[x]? = some (B7 R f x):=by
 unfold Bd;rw [Qk,Xs h];rfl
theorem Jhj (h:∀ b,b<R->f a b=g x b):B7 R f a=B7 R g x:=by
 unfold B7
 exact Ug λ b hb=>by rw [h b (Xj.mp hb)]
theorem Jhk (h:∀ a,a<R->∀ b,b<R->f a b=g a b):Bd R f=Bd R g:=by
 unfold Bd
 exact Ug λ a ha=>Jhj (h a (Xj.mp ha))
theorem Jmd (hx:x<R) (h2:∀ a,a<R->a≠x->∀ b,b<R->g a b=f a b) {r:List J9i}(hr:r=B7 R g x):(Bd R f).set x r=Bd R g:=by
 apply X5
 intro i
 by_cases hi:x=i
 . subst hi
   rw [Q8 (by rw [B8];exact hx),Jay hx,hr]
 . rw [Q9 hi]
   by_cases hl:i<R
   . rw [Jay hl,Jay hl,Jhj λ b hb=>(h2 i hl (λ z=>hi z.symm) b hb).symm]
   . rw [Q7 (by rw [B8];omega),Q7 (by rw [B8];omega)]
theorem Js5 (hy:y<R) {v:Bool}(h1:g a y=v) (h2:∀ b,b<R->b≠y->g a b=f a b):(B7 R f a).set y (.bool v)=B7 R g a:=by
 apply X5
 intro i
 by_cases hi:y=i
 . subst hi
   rw [Q8 (by rw [Jb8];exact hy),Jd3 hy,h1]
 . rw [Q9 hi]
   by_cases hl:i<R
   . rw [Jd3 hl,Jd3 hl,h2 i hl λ z=>hi z.symm]
   . rw [Q7 (by rw [Jb8];omega),Q7 (by rw [Jb8];omega)]
theorem Jjm:(B7 R f a).all W9=true:=by
 unfold B7
 rw [X9]
 intro x hx
 obtain ⟨b,_,rfl⟩:=Qo.mp hx
 rfl
theorem Jpt:(Vf (B7 R f a) (B7 R f x))=(Qn R).map λ b=>.tuple [.bool (f a b),.bool (f x b)]:=by
 unfold Vf B7
 rw [List.zipWith_map_left,List.zipWith_map_right,List.zipWith_self]
end
theorem Jme {ps:List (Addr×List J9i)}{m:List (List J9i)}(h:ps.map (·.2)=m) {x:Nat}{r:List J9i}(hr:m[x]? = some r):∃ p,ps[x]? = some p/\p.2=r:=by
 subst h
 rw [Qk] at hr
 exact X2.mp hr
theorem Jhl {ps:List (Addr×List J9i)}{m:List (List J9i)}(h:ps.map (·.2)=m):ps.length=m.length:=by rw [<- h,Qb]
theorem Jmf {ps:List (Addr×List J9i)}{m m':List (List J9i)}(h:ps.map (·.2)=m) {x:Nat}{b:Addr}{r:List J9i}(hr:m.set x r=m'):(ps.set x (b,r)).map (·.2)=m':=by rw [X6,h];exact hr
theorem Jkl {ps:List (Addr×List J9i)}{R:Nat}{f:Nat->Nat->Bool}(h:ps.map (·.2)=Bd R f) {x:Int}(h0:0<=x) (h1:x<R):atI (ps.map λ p=>X4 p.2) x=some (.list (B7 R f x.toNat)):=by
 have hx:x.toNat<R:=by omega
 obtain ⟨p,hp,e⟩:=Jme h (Jay (f:=f) hx)
 unfold atI
 rw [Qb,Jb3 h0 (by rw [Jhl h,B8];exact h1)]
 show (ps.map λ p=>X4 p.2)[x.toNat]? = _
 rw [Qk,hp,<- e];rfl
theorem Jkm {R a:Nat}{f:Nat->Nat->Bool}{y:Int}(h0:0<=y) (h1:y<R):atI (B7 R f a) y=some (.bool (f a y.toNat)):=by
 unfold atI
 rw [Jb8,Jb3 h0 h1]
 exact Jd3 (by omega)
theorem Jmg {turn:J9i->Nat->(List J9i->Nat->Prop)->Prop}{n:Nat}(f:Nat->List J9i) {e:Nat->J9i}:∀ (l:List Nat) {Q:List (List J9i)->Nat->Prop},(∀ i∈l,∀ K:List J9i->Nat->Prop,K (f i) n->turn (e i) n K)->Q (l.map f) n->Jki turn (l.map e) n Q
 | [],_,_,q=>q
 | i::l,Q,h,q=>by
  show turn (e i) n _
  exact h i Qg _ (Jmg f l (λ j hj=>h j (Qh _ hj)) q)
noncomputable def Yr (ws:List Way) (ks:List Int):List (Nat×Nat):=ks.map λ k=>((Jh ws k).a.toNat,(Jh ws k).b.toNat)
noncomputable def pw0 (es:List (Nat×Nat)) (a b:Nat):Bool:=decide (a=b)||decide ((a,b)∈es)
noncomputable def pwR (es:List (Nat×Nat)) (m r a b:Nat):Bool:=if a<r then Pw es (m+1) a b else Pw es m a b
theorem Jvw {es:List (Nat×Nat)}{m r b:Nat}:pwR es m r m b=Pw es m m b:=by
 unfold pwR
 split
 . rw [Pw]
   cases Pw es m m b<;>simp
 . rfl
theorem Jkn {es:List (Nat×Nat)}{a b x y:Nat}:pw0 (es++[(a,b)]) x y=(pw0 es x y||decide (x=a/\y=b)):=by
 unfold pw0
 rw [Bool.or_assoc]
 congr 1
 rw [<- Bool.decide_or]
 exact decide_eq_decide.mpr (by rw [Q4,Qq,Prod.mk.injEq])
theorem Jvx {R a b:Nat}{es:List (Nat×Nat)}(ha:a<R) (hb:b<R):(Bd R (pw0 es)).set a ((B7 R (pw0 es) a).set b (.bool true))=Bd R (pw0 (es++[(a,b)])):=by
 refine Jmd ha (λ x _ hx y _=>?_) (Js5 hb ?_ λ y _ hy=>?_)
 . rw [Jkn,decide_eq_false λ z=>hx z.1,J4w]
 . rw [Jkn,decide_eq_true ⟨rfl,rfl⟩,J76]
 . rw [Jkn,decide_eq_false λ z=>hy z.2,J4w]
theorem Jhm {es:List (Nat×Nat)}{m r b:Nat}:pwR es m r r b=Pw es m r b:=if_neg (Xf r)
theorem Jvy {R m r:Nat}{es:List (Nat×Nat)}(hr:r<R) (h:Pw es m r m=true):(Bd R (pwR es m r)).set r ((Qn R).map λ b=>.bool (pwR es m r r b||pwR es m r m b))=Bd R (pwR es m (r+1)):=by
 refine Jmd hr (λ x _ hx y _=>?_) ?_
 . unfold pwR
   by_cases c:x<r
   . rw [if_pos c,if_pos (by omega)]
   . rw [if_neg c,if_neg (by omega)]
 . unfold B7
   refine Ug λ b _=>?_
   rw [Jhm,Jvw,pwR,if_pos (by omega),Pw,h,J6j]
theorem Jy9 {R m r:Nat}{es:List (Nat×Nat)}(h:Pw es m r m=false):Bd R (pwR es m r)=Bd R (pwR es m (r+1)):=by
 refine Jhk λ x _ y _=>?_
 unfold pwR
 by_cases c:x<r
 . rw [if_pos c,if_pos (by omega)]
 . rw [if_neg c]
   by_cases e:x=r
   . subst e
     rw [if_pos (by omega),Pw,h,J37,J4w]
   . rw [if_neg (by omega)]
theorem J09 {es:List (Nat×Nat)}{m:Nat}:pwR es m 0=Pw es m:=by
 funext a b
 exact if_neg (J3g a)
theorem Jvz {R m:Nat}{es:List (Nat×Nat)}:Bd R (pwR es m R)=Bd R (Pw es (m+1)):=Jhk λ _ hx _ _=>if_pos hx
theorem Jza {es:List (Nat×Nat)}:pw0 es=Pw es 0:=by
 funext a b
 rw [Pw];rfl
theorem Jpu {k i:Nat}{x:J9i}(h:(Jf5 0 k)[i]? = some x):i<k/\x = .int (i:Int):=by
 unfold Jf5 at h
 rw [Qk] at h
 obtain ⟨j,hj,rfl⟩:=X2.mp h
 obtain ⟨hi,e⟩:=Qt.mp hj
 rw [List.getElem_range] at e
 subst e
 rw [Q2] at hi
 exact ⟨hi,by rw [J20]⟩
noncomputable def Jko (R:Nat) (es:List (Nat×Nat)):J9i:=.list ((Bd R (Pw es R)).map .list)
def Jkp:GSp:=λ as n Q=>∃ (R U:Int) (ws:List Way) (ks:List Int),as=[.d (J7 R U ws),.d (.list (ks.map .int))]/\BookOk R U ws/\(∀ k∈ks,0<=k/\k<ws.length)/\Q (Jko R.toNat (Yr ws ks)) n
theorem Js6 {ps:List (Addr×List J9i)}{R:Nat}{es:List (Nat×Nat)}(h:ps.map (·.2)=Bd R (Pw es R)):X4 (ps.map λ p=>.list p.2)=Jko R es:=by
 unfold Jko
 rw [<- h,Qy];rfl
theorem Jq8 {ws:List Way}{ks:List Int}{i:Nat}{k:Int}(h:ks[i]? = some k):Yr ws (ks.take (i+1))=Yr ws (ks.take i)++[((Jh ws k).a.toNat,(Jh ws k).b.toNat)]:=by
 unfold Yr
 rw [J4x,h,Q1];rfl
section
variable {X:Cx}{pins:List (Addr×Obj)}{σ:L2.St}{H:Hp}{s:J9k}{a:Addr}{kvs:List (Key×V)}{k:Key}{u:J9j}{A:J9o}{E:J9j->J9k->Prop}
theorem Js7 {r:J9j}{z:V}{Q:J9j->J9k->Prop}(I:Inv X pins σ H s) (e:H a=some (.dK kvs)) (hl:kvs.length<sizeLine) (ry:Yl (kV k) u) (rz:Yl z r)
 (h1:∀ v w' s',Jac kvs k=some v->Inv X pins σ H s'->Yl v w'->Q w' s') (h2:Jac kvs k=none->∀ s',Inv X pins σ (upd H a (.dK (V3 kvs k z))) s'->Q r s') :
 J9l (model X.prog X.w) A (call (.builtin "dict.setdefault") [.ref a,u,r]) Q E s:=by
 obtain ⟨zz,hd,vs,rel,dd⟩:=Jr7 I.hok e
 refine call_meetsIn J8a dd.typeIs PySem.F.entry_dict_setdefault (PySem.F.args_dict_setdefault_3 _ _ _) (kt_meets_setdefault (Zp X.prog X.w) a (Jpg ry) hd r) ⟨vs,dd,by rw [<- rel.length];exact zz,λ w' hw=>?_,λ hn h' dd' hs=>?_⟩
 . cases l:Jac kvs k with
   | none=>
    have:=Jbv.none_of (o:=valueAt vs k) (by rw [<- l];exact rel.val k)
    rw [this] at hw
    cases hw
   | some v=>
    obtain ⟨w2,e2,r2⟩:=Jbv.some_of (v:=v) (o:=valueAt vs k) (by rw [<- l];exact rel.val k)
    rw [e2] at hw
    cases hw
    exact h1 v _ _ l (I.tok _) r2
 . cases l:Jac kvs k with
   | some v=>
    obtain ⟨w2,e2,r2⟩:=Jbv.some_of (v:=v) (o:=valueAt vs k) (by rw [<- l];exact rel.val k)
    rw [e2] at hn
    cases hn
   | none=>
    refine h2 l _ ?_
    have he:∃ q,h'.get? a=some q:=let ⟨q,_,_,hq,_⟩:=dd';⟨q,hq⟩
    have hl':(V3 kvs k z).length<=sizeLine:=by have:=Jb2 kvs k z;omega
    exact Jpi I (by rw [e];exact Um) hs he (Jsa hl' hd (rel.put k rz) dd')
end
def Js8 (td ty tx:TE):TE:=λ σ H Q=>td σ H λ x H1=>∃ a,x = .ref a/\IsD H1 a/\ty σ H1 λ y H2=>tx σ H2 λ z H3=>∃ kvs k,H3 a=some (.dK kvs)/\y=kV k/\kvs.length<sizeLine /\
 (∀ v,Jac kvs k=some v->Q v H3)/\(Jac kvs k=none->Q z (upd H3 a (.dK (V3 kvs k z))))
def Js9 (td:TE):TE:=λ σ H Q=>td σ H λ x H1=>∃ a kvs,x = .ref a/\H1 a=some (.dK kvs)/\∀ p,H1 p=none->Q (.ref p) (upd H1 p (.lst (kvs.map (·.2))))
theorem Jv0:∀ {kvs:List (Key×V)}{vs:List (Key×J9j)},KV kvs vs->Yb (kvs.map (·.2)) (vs.map (·.2)):=by
 intro kvs vs r
 unfold KV at r
 induction r with
 | nil=>exact .nil
 | cons h _ ih=>exact .cons h.2 ih
section
variable {X:Cx}{o e f:Expr}{apos cpos p pos:Pos}{td ty tx:TE}
theorem Jta (ho:PE X o td) (he:PE X e ty) (hf:PE X f tx) (m:M2 X o "setdefault" apos e f cpos):PE X (.Call (.Attribute o "setdefault" apos) [e,f] [] cpos) (Js8 td ty tx):=by
 intro pins s σ H Q I h
 refine wpAny_Call_method m.base m.few m.line J8b J8a PySem.F.type_dict_setdefault (thn (ho pins s σ H _ I h) λ u s1 ⟨x,H1,I1,rx,a,ex,d,q1⟩=>?_)
 subst ex
 obtain rfl:u=Q3 a:=rx
 obtain ⟨t1,t2,_⟩:=Jsc I1 d
 refine ⟨t1,t2,?_⟩
 rw [m.trees]
 refine J5q rfl (J7k (J29 (thn (he pins s1 σ H1 _ I1 q1) λ iv s2 ⟨y,H2,I2,ry,q2⟩=>
  J29 (thn (hf pins s2 σ H2 _ I2 q2) λ fv s3 ⟨z,H3,I3,rz,kvs,k,ea,ey,hl,q3,q4⟩=>J3o ?_))))
 subst ey
 exact Js7 I3 ea hl ry rz (λ v w' s4 l I4 rw'=>⟨v,H3,I4,rw',q3 v l⟩) λ l s4 I4=>⟨z,_,I4,rz,q4 l⟩
theorem Jtb (hh:X.A.handled=none) (hg:Gl X "list") (hm:X.mg "list" = none) (ho:PE X o td)
 (hbase:Yae o "values" X.env (eval o X.env)=eval o X.env:=by rfl) (hline:(apos.endLine==cpos.line)=true:=by rfl)
 (he:starEach [.Call (.Attribute o "values" apos) [] [] cpos] X.env=[(false,eval (.Call (.Attribute o "values" apos) [] [] cpos) X.env)]:=by rfl)
 (ht:backTo pos (starEach [.Call (.Attribute o "values" apos) [] [] cpos] X.env)=[(false,eval (.Call (.Attribute o "values" apos) [] [] cpos) X.env)]:=by rfl) :
 PE X (.Call (.Name "list" p) [.Call (.Attribute o "values" apos) [] [] cpos] [] pos) (Js9 td):=by
 intro pins s σ H Q I h
 refine J98 (Bw I hg hm J93 ?_ (by decide) (by decide))
 refine U0 ?_ he rfl
 rw [ht]
 refine J29 (wpAny_Call_method0_late hbase hline (thn (ho pins s σ H _ I h) λ v s1 ⟨x,H1,I1,r1,a,kvs,ex,ea,q1⟩=>?_))
 subst ex
 obtain rfl:v=Q3 a:=r1
 obtain ⟨t1,t2,hd⟩:=Jsc I1 (.inl ⟨kvs,.inl ea⟩)
 obtain ⟨z,_,vs,rel,dd⟩:=Jr7 I1.hok ea
 refine ⟨"dict","dict.values",J8b,J8c,PySem.F.type_dict_values,t1,t2,J5q rfl (PySem.evalArgs_none ?_)⟩
 refine call_meetsIn J8c dd.typeIs PySem.F.entry_dict_values (PySem.F.args_dict_values_1 _) (meets_dict_values (Zp X.prog X.w) a hd) ⟨⟨vs,dd⟩,?_⟩
 refine J3o ?_
 obtain ⟨ep,hat⟩:=dd.dictAt
 refine PySem.W.kdl_call (PySem.W.kdl_values (knd:=Zp X.prog X.w) (kvs:=vs) (ep:=ep)) hh ⟨⟨_,Xe _ rfl,rfl,rfl⟩,hat.push _⟩ (by rw [<- rel.length];exact z) λ h' tk acc' c' hk hD hacc=>?_
 have ev:=PySem.W.kdl_vals_eq acc'.toList (by rw [J5f];exact hacc.1) λ j v e=>hacc.2 j v (by rw [<- Array.getElem?_toList];exact e)
 have hsz:s1.heap.objs.size<=(s1.heap.push { cls:=.type "dict_values",data:=.fields #[.ref a] }).objs.size:=by
  show s1.heap.objs.size<=(s1.heap.objs.push _).size
  rw [Array.size_push];omega
 exact ⟨.ref _,_,I1.laid (t':=tk) (λ b o' q=>hk b o' (Qu _ q)) hsz (show Yw X.prog X.w _ h' _ (.lst (kvs.map (·.2))) from ⟨by rw [Qb];exact z,acc'.toList,c',by rw [ev];exact Jv0 rel,by rw [Array.toArray_toList];exact hD⟩),rfl,q1 _ (I1.hok.fresh hsz)⟩
end
theorem Jhn {ps:List (Addr×List J9i)}:(Yt ps).length=ps.length:=by unfold Yt;rw [Qb]
theorem Jtc {ps qs:List (Addr×List J9i)}:Yt (ps++qs)=Yt ps++Yt qs:=by unfold Yt;rw [Q1]
theorem Jv1 {ks:List Key}{vs:List V}{k:Key}(h:k∉ks):((ks.zip vs).any λ kv=>decide (kv.1=k))=false:=by
 rw [J7e]
 intro x hx e
 exact h (of_decide_eq_true e▸(J3a (show (x.1,x.2)∈ks.zip vs from hx)).1)
theorem Jv2 {ks:List Key}{ps:List (Addr×List J9i)}{k:Key}{b:Addr}{ds:List J9i}(hl:ks.length=ps.length) (h:k∉ks):V3 (ks.zip (Yt ps)) k (.ref b)=(ks++[k]).zip (Yt (ps++[(b,ds)])):=by
 unfold V3
 rw [if_neg (by rw [Jv1 h];exact Q6),Jtc,List.zip_append (by rw [Jhn,hl])]
 rfl
theorem Jkq:∀ {ks:List Key}{ps:List (Addr×List J9i)}{k:Key}{v:V},Jac (ks.zip (Yt ps)) k=some v->∃ (m:Nat) (p:Addr×List J9i),ks[m]? = some k/\ps[m]? = some p/\v = .ref p.1
 | [],ps,k,v,h=>by rw [List.zip_nil_left] at h;cases h
 | c::ks,[],k,v,h=>by cases h
 | c::ks,q::ps,k,v,h=>by
  by_cases e:c=k
  . rw [show ((c::ks).zip (Yt (q::ps)))=(c,V.ref q.1)::ks.zip (Yt ps) from rfl,Jb0 (show (c,V.ref q.1).1=k from e)] at h
    cases h
    exact ⟨0,q,by rw [<- e];rfl,rfl,rfl⟩
  . rw [show ((c::ks).zip (Yt (q::ps)))=(c,V.ref q.1)::ks.zip (Yt ps) from rfl,Jb1 (show ¬ (c,V.ref q.1).1=k from e)] at h
    obtain ⟨m,p,h1,h2,h3⟩:=Jkq h
    exact ⟨m+1,p,h1,h2,h3⟩
theorem Jho:∀ {ks:List Key}{ps:List (Addr×List J9i)}{k:Key},ks.length=ps.length->Jac (ks.zip (Yt ps)) k=none->k∉ks
 | [],_,_,_,_,h=>by cases h
 | c::ks,[],k,hl,_,_=>by cases hl
 | c::ks,q::ps,k,hl,h,hm=>by
  rw [show ((c::ks).zip (Yt (q::ps)))=(c,V.ref q.1)::ks.zip (Yt ps) from rfl] at h
  by_cases e:c=k
  . rw [Jb0 (show (c,V.ref q.1).1=k from e)] at h
    cases h
  . rw [Jb1 (show ¬ (c,V.ref q.1).1=k from e)] at h
    rcases Qd.mp hm with z | hm
    . exact e z.symm
    . exact Jho (J8d hl) h hm
section
variable {C:Cv}{ex:List Addr}{env:List Vl}{σ:L2.St}{H H':Hp}{n m:Nat}
theorem At.add2 (A:At C ex env σ H n) {i:Nat}{ks:List Key}{k:Key}{ps:List (Addr×List J9i)}{ds:List J9i}{vs:List V}{a b:Addr}(h:env[i]? = some (.own2 (some ks) ps)) (hs:(σ[i]?).join=some (.ref a)) (hk:k∉ks) (hz1:ps.length<1000000) (bm:b∈ex) (bc:b∉C.S.ch) (hb:H b=some (.lst vs)) (hz:vs.length<=sizeLine) (r:Reps ex H ds vs) (bo:∀ k,b∉Jk env σ k) (b0:C.H0 b=none) :
 At C ex (env.set i (.own2 (some (ks++[k])) (ps++[(b,ds)]))) σ (upd H a (.dK (V3 (ks.zip (Yt ps)) k (.ref b)))) n:=by
 obtain ⟨a',e',q⟩:=A.ev.sl i _ h
 rw [hs] at e'
 cases e'
 have oi:Jk env σ i=a::ps.map (·.1):=by unfold Jk;rw [h,hs]
 have ha:a∈Jk env σ i:=by rw [oi];exact Qg
 have bi:=bo i
 rw [oi] at bi
 have ba:b≠a:=λ z=>bi (by rw [z];exact Qg)
 have bp:b∉ps.map (·.1):=λ z=>bi (Qh _ z)
 have h0:=A.new i a ha
 have kx:Kp ex H (upd H a (.dK (V3 (ks.zip (Yt ps)) k (.ref b)))):=Kp.at q.m _
 have hmap:(ps++[(b,ds)]).map (·.1)=ps.map (·.1)++[b]:=by rw [Q1];rfl
 have nd2:=Xn.mp q.nd
 have oo:∀ k' c,c∈Jk (env.set i (.own2 (some (ks++[k])) (ps++[(b,ds)]))) σ k'->c∈Jk env σ k'\/(c=b/\k'=i):=λ k' c hc=>by
  by_cases hk:i=k'
  . subst hk
    have e2:Jk (env.set i (.own2 (some (ks++[k])) (ps++[(b,ds)]))) σ i=a::(ps++[(b,ds)]).map (·.1):=by unfold Jk;rw [Q8 (Qt.mp h).1,hs]
    rw [e2,hmap] at hc
    rw [oi]
    rcases Qd.mp hc with e | hc
    . exact .inl (by rw [e];exact Qg)
    . rcases Q4.mp hc with hc | hc
      . exact .inl (Qh _ hc)
      . exact .inr ⟨Qq.mp hc,rfl⟩
  . have e2:Jk (env.set i (.own2 (some (ks++[k])) (ps++[(b,ds)]))) σ k'=Jk env σ k':=by unfold Jk;rw [Q9 hk]
    rw [e2] at hc
    exact .inl hc
 refine ⟨⟨by rw [Qs];exact A.ev.len,λ k' w e=>?_,A.ev.ch,λ c hc=>?_,C.S.keep A.ev.inv λ c hc o e=>by rw [Jf (λ z=>q.c (by rw [<- z];exact hc))];exact e⟩,A.ex0,A.al0,λ k' l c q1 q2=>?_,λ k' c q=>?_,Kp.late A.kp h0 _,λ x hx=>(A.held x hx).keep kx⟩
 . by_cases hk':i=k'
   . subst hk'
     rw [Q8 (Qt.mp h).1] at e
     cases e
     refine ⟨a,hs,⟨by rw [Jg,Jv2 (ds:=ds) (q.k ks rfl) hk];rfl,by rw [Xc,Uq];omega,(λ l hl=>by cases hl;rw [Xc,Xc,q.k ks rfl];rfl),?_,q.m,q.c,λ t ht=>?_⟩⟩
     . rw [hmap]
       refine Xn.mpr ⟨λ z=>?_,?_⟩
       . rcases Q4.mp z with z | z
         . exact nd2.1 z
         . exact ba (Qq.mp z).symm
       . rw [J30]
         refine ⟨nd2.2,by simp,λ x hx y hy=>?_⟩
         rw [Qq] at hy
         rintro rfl
         exact bp (hy▸hx)
     . rcases Q4.mp ht with ht | ht
       . have w:=q.i t ht
         have ta:t.1≠a:=λ z=>nd2.1 (by rw [<- z];exact Qo.mpr ⟨t,ht,rfl⟩)
         obtain ⟨us,g1,g2,g3⟩:=w.h
         exact ⟨w.m,w.c,us,by rw [Jf ta];exact g1,g2,g3.keep kx⟩
       . rw [Qq] at ht
         subst ht
         exact ⟨bm,bc,vs,by rw [Jf ba];exact hb,hz,r.keep kx⟩
   . rw [Q9 hk'] at e
     exact SlR.upd q.m (λ c hc z=>hk' (A.sep i k' a ha (by rw [Jbe e,<- z];exact hc))) (A.ev.sl k' w e)
 . by_cases hc2:c=a
   . rw [hc2,Jg];intro z;cases z
   . rw [Jf hc2];exact A.ev.al c hc
 . rcases oo k' c q1 with h1 | ⟨rfl,rfl⟩
   . rcases oo l c q2 with h2 | ⟨rfl,rfl⟩
     . exact A.sep k' l c h1 h2
     . exact absurd h1 (bo k')
   . rcases oo l c q2 with h2 | ⟨_,rfl⟩
     . exact absurd h2 (bo l)
     . rfl
 . rcases oo k' c q with h1 | ⟨rfl,_⟩
   . exact A.new k' c h1
   . exact b0
end
def Jtd (i:Nat):TS:=Jc5 Jn2 (V2 i)
theorem Jte {X:Cx}{st:Stmt}{i:Nat}(h:PS X st (Jc5 Jn2 (V2 i))):PS X st (Jtd i):=h
abbrev Jzb (i:Nat):GS:=λ G env n=>G.nx (env.set i (.own2 (some []) [])) n
instance sv_dnew2 {i:Nat}:SV (Jtd i) (Jzb i):=⟨λ {C G D} O {ex env σ H n} A h=>by
 intro p hp
 refine O.nx (A.own2 (ks:=some []) (ps:=[]) (m:=n) (H':=upd H p (.dK [])) ⟨Kp.new hp _,C.S.keep A.ev.inv λ b _ o e=>Kp.new (ex:=[]) hp _ _ _ e (by simp)⟩ hp (λ q hq=>by cases hq) ⟨by rw [Jg];rfl,Xr _,(λ l hl=>by cases hl;rfl),by simp,Qg,λ z=>C.S.dom A.ev.inv p z hp,λ q hq=>by cases hq⟩) h⟩
abbrev Jxu (i:Nat) (gy:GE) (gx:GN) (ge:GE):GS:=λ G env n=>match env[i]? with
 | some (.own2 (some ks) ps)=>gy env n λ y n1=>(match y with
  | .int j=>gx env n1 λ ds n2=>ds=[]/\(Qx j∈ks->ge env n2 λ d n3=>∀ m p,ks[m]? = some (Qx j)->ps[m]? = some p->p.2.length<sizeLine/\G.nx (env.set i (.own2 (some ks) (ps.set m (p.1,p.2++[d])))) n3) /\
   (Qx j∉ks->ps.length<1000000/\∀ b,ge (env.set i (.own2 (some (ks++[Qx j])) (ps++[(b,[])]))) n2 λ d n3=>G.nx (env.set i (.own2 (some (ks++[Qx j])) (ps++[(b,[d])]))) n3)
  | _=>False)
 | _=>False
instance sv_setd {K:Qc}{i:Nat}{ty tx te:TE}{gy ge:GE}{gx:GN} [Y:EV false ty gy] [N:NV tx gx] [E:EV true te ge]:SV (Jo7 (tBM K "list" Jj2 (Js8 (Ze i) ty tx) (Ye te Jam))) (Jxu i gy gx ge):=⟨λ {C G D} O {ex env σ H n} A h=>by
 unfold Jxu at h
 split at h
 . rename_i ks ps e
   obtain ⟨a,ev,q⟩:=A.ev.sl i _ e
   refine ⟨_,Jl ev,a,rfl,.inl ⟨_,.inl q.h⟩,Y.ev A.ev h λ y n1 yv H1 hy s1 ry=>?_⟩
   have A1:=A.step s1
   cases ry with
   | int j=>
    refine N.nv A1.ev hy λ ds n2 b vs H2 hds s2 hb hl hz r=>?_
    obtain ⟨rfl,hin,hout⟩:=hds
    cases r
    have A2:=A1.more s2 hb (by rw [hl];exact Xt _)
    have bc:b∉C.S.ch:=λ z=>C.S.dom A1.ev.inv b z hb
    obtain ⟨a2,ev2,q2⟩:=A2.ev.sl i _ e
    rw [ev] at ev2
    cases ev2
    have hlen:=q2.k ks rfl
    have hzl:=q2.z
    refine ⟨ks.zip (Yt ps),Qx j,q2.h,rfl,by rw [J6k,Jhn,J9p];omega,λ v hv=>?_,λ hn=>?_⟩
    . obtain ⟨m,p,hm,hp,rfl⟩:=Jkq hv
      have w:=q2.i p (Xb hp)
      obtain ⟨us,g1,g2,g3⟩:=w.h
      refine ⟨.inl ⟨rfl,_,SqL.of g1⟩,E.ev A2.ev (hin (Xb hm)) λ d n3 v H3 hd s3 rd=>?_⟩
      obtain ⟨hlt,hnx⟩:=hd m p hm hp
      have g3':=A2.ev.reps s3 g3
      have l:=g3.length
      exact ⟨p.1,us,v,rfl,rfl,s3.1 _ _ g1 w.c,by rw [<- l];exact hlt,O.nx ((A2.step s3).re2 e ev hp (Reps.append g3' (.cons rd .nil)) (by rw [Xc,Uq,<- l];exact hlt)) hnx⟩
    . have hk:=Jho hlen hn
      obtain ⟨hps,hq⟩:=hout hk
      have A3:=A2.add2 (k:=Qx j) (ds:=[]) e ev hk hps Qg bc hl hz .nil (λ k z=>(Bc A1.ev z).1 hb) (A1.free hb)
      have hba:b≠a:=λ z=>(Bc A1.ev (show a∈Jk env σ i by unfold Jk;rw [e,ev];exact Qg)).1 (by rw [<- z];exact hb)
      have hb3:upd H2 a (.dK (V3 (ks.zip (Yt ps)) (Qx j) (.ref b))) b=some (.lst []):=by rw [Jf hba];exact hl
      refine ⟨.inl ⟨rfl,_,SqL.of hb3⟩,E.ev A3.ev (hq b) λ d n3 v H3 hd s3 rd=>?_⟩
      have il:i<env.length:=(Qt.mp e).1
      have A5:=(A3.step s3).re2 (j:=ps.length) (p:=(b,[])) (ys:=[d]) (ws:=[v]) (Q8 il) ev (by rw [J2m (Ql _),J6l];rfl) (.cons rd .nil) (by rw [J9p];exact Q5 rfl)
      rw [J6m,List.set_append_right _ _ (Ql _),J6l] at A5
      exact ⟨b,[],v,rfl,rfl,s3.1 _ _ hb3 bc,by rw [J9p];exact Q5 rfl,O.nx A5 hd⟩
   | none=>exact hy.elim
   | obj=>exact hy.elim
   | bool=>exact hy.elim
   | str=>exact hy.elim
   | list=>exact hy.elim
   | tuple=>exact hy.elim
 . exact h.elim⟩
theorem Jv3 {ks:List Key}{vs:List V}(h:ks.length=vs.length):(ks.zip vs).map (·.2)=vs:=by
 induction ks generalizing vs with
 | nil=>cases vs with
  | nil=>rfl
  | cons=>cases h
 | cons k ks ih=>cases vs with
  | nil=>cases h
  | cons v vs=>
   show v::(ks.zip vs).map (·.2)=_
   rw [ih (J8d h)]
abbrev Jmh (i:Nat):GS:=λ G env n=>match env[i]? with
 | some (.own2 (some _) ps)=>G.rt2 (ps.map (·.2)) n
 | _=>False
instance (priority:=high) sv_retVals {i:Nat}:SV (Jrs (Js9 (Ze i))) (Jmh i):=⟨λ {C G D} O {ex env σ H n} A h=>by
 unfold Jmh at h
 split at h
 . rename_i ks ps e
   obtain ⟨a,ev,q⟩:=A.ev.sl i _ e
   refine ⟨_,Jl ev,a,_,rfl,q.h,λ p hp=>?_⟩
   rw [Jv3 (by rw [Jhn];exact q.k ks rfl)]
   have s:Ys C.S n H (upd H p (.lst (Yt ps))):=⟨Kp.new hp _,C.S.keep A.ev.inv λ b _ o e=>Kp.new (ex:=[]) hp _ _ _ e (by simp)⟩
   have oi:Jk env σ i=a::ps.map (·.1):=by unfold Jk;rw [e,ev]
   have pn:∀ x∈ps,x.1≠p:=λ x hx z=>by
    obtain ⟨vs,g1,_⟩:=(q.i x hx).h
    rw [z,hp] at g1;cases g1
   have pex:p∉ex:=λ z=>A.ev.al p z hp
   refine O.r2 ⟨(A.step s).kp,s.2,A.free hp,λ x hx=>A.new i x.1 (by rw [oi];exact Qh _ (Qo.mpr ⟨x,hx,rfl⟩)),⟨Jg,q.z,λ l hl=>(by cases hl),?_,Xk _ Qg,λ z=>pex (A.ev.ch p z),λ x hx=>?_⟩⟩ h
   . refine Xn.mpr ⟨λ z=>?_,(Xn.mp q.nd).2⟩
     obtain ⟨x,hx,e⟩:=Qo.mp z
     exact pn x hx e
   . have w:=q.i x hx
     obtain ⟨vs,g1,g2,g3⟩:=w.h
     refine ⟨Xk _ (Qh _ (Qo.mpr ⟨x,hx,rfl⟩)),w.c,vs,by rw [Jf (pn x hx)];exact g1,g2,?_⟩
     have g4:Reps (p::ex) H x.2 vs:=Reps.add hp g3
     refine Reps.mono (λ b hb=>?_) (g4.keep (Kp.new hp _))
     rcases Q4.mp hb with hb | hb
     . rcases Qd.mp hb with rfl | hb
       . exact Qg
       . obtain ⟨y,hy,rfl⟩:=Qo.mp hb
         exact Qh _ (q.i y hy).m
     . exact Qh _ (A.ex0 b hb)
 . exact h.elim⟩
noncomputable def Bq (g:List (Int×List Int)) (key k:Int):List (Int×List Int):=if key∈g.map (·.1) then g.map λ p=>if p.1=key then (p.1,p.2++[k]) else p else g++[(key,[k])]
noncomputable def Zu (R:Nat) (es:List (Nat×Nat)) (a:Nat):List Nat:=(Qn R).filter λ x=>Pw es R a x&&Pw es R x a
noncomputable def Vu (R:Nat) (es:List (Nat×Nat)) (a:Nat):Int:=(((Zu R es a).headD 0:Nat):Int)
noncomputable def Z0 (R:Nat) (es:List (Nat×Nat)) (ws:List Way) (g:List (Int×List Int)) (k:Int):List (Int×List Int):=if Pw es R (Jh ws k).b.toNat (Jh ws k).a.toNat=true then Bq g (Vu R es (Jh ws k).a.toNat) k else g
noncomputable def Jah (R:Nat) (es:List (Nat×Nat)) (ws:List Way) (ks:List Int):List (Int×List Int):=ks.foldl (Z0 R es ws) []
noncomputable def Je8 (R:Nat) (ws:List Way) (ks:List Int):List (List Int):=(Jah R (Yr ws ks) ws ks).map (·.2)
noncomputable def Jkr (rs:List (List Int)):J9i:=.list (rs.map λ r=>.list (r.map .int))
def Jks:GSp:=λ as n Q=>∃ (R U:Int) (ws:List Way) (ks:List Int),as=[.d (J7 R U ws),.d (.list (ks.map .int))]/\BookOk R U ws/\(∀ k∈ks,0<=k/\k<ws.length)/\ks.length<=1000/\Q (Jkr (Je8 R.toNat ws ks)) n
theorem Jkt {R:Nat}{es:List (Nat×Nat)}{ws:List Way}{ks:List Int}{i:Nat}{k:Int}(h:ks[i]? = some k):Jah R es ws (ks.take (i+1))=Z0 R es ws (Jah R es ws (ks.take i)) k:=by
 unfold Jah
 rw [J4x,h,J8e];rfl
theorem Jtf {R a:Nat}{es:List (Nat×Nat)}{m:Int}(hm:m∈(Zu R es a).map (λ j:Nat=>(j:Int))) (hmin:∀ n∈(Zu R es a).map (λ j:Nat=>(j:Int)),m<=n):m=Vu R es a:=by
 have hp:(Zu R es a).Pairwise (· < ·):=J9g _ J6n
 unfold Vu
 cases e:Zu R es a with
 | nil=>rw [e] at hm;cases hm
 | cons x xs=>
  rw [e] at hm hmin hp
  have h1:=hmin (x:Int) Qg
  obtain ⟨j,hj,rfl⟩:=Qo.mp hm
  show (j:Int)=(x:Int)
  rcases Qd.mp hj with rfl | hj
  . rfl
  . have:=(List.pairwise_cons.mp hp).1 j hj
    omega
theorem Joh {R a:Nat}{es:List (Nat×Nat)}(ha:a<R):a∈Zu R es a:=by
 have:Pw es R a a=true:=Pw.zero (by rw [Pw];simp) R
 unfold Zu
 rw [X7,this]
 exact ⟨Xj.mpr ha,rfl⟩
noncomputable abbrev Jtg (p:Int×List Int):List J9i:=p.2.map .int
structure RingInv (i:Nat) (g:List (Int×List Int)) (keys:List Key) (ps:List (Addr×List J9i)):Prop where
 ky:keys=g.map λ p=>Qx p.1
 rw:ps.map (·.2)=g.map Jtg
 nd:(g.map (·.1)).Nodup
 gl:g.length<=i
 pl:∀ p∈g,p.2.length<=i
theorem Jv4 {g:List (Int×List Int)}{j:Int}:(Qx j:Key)∈g.map (λ p=>(Qx p.1:Key))↔j∈g.map (·.1):=by
 rw [Qo,Qo]
 constructor
 . rintro ⟨p,hp,e⟩;exact ⟨p,hp,J36 e⟩
 . rintro ⟨p,hp,rfl⟩;exact ⟨p,hp,rfl⟩
theorem RingInv.up {i:Nat}{g:List (Int×List Int)}{keys:List Key}{ps:List (Addr×List J9i)}(h:RingInv i g keys ps):RingInv (i+1) g keys ps:=⟨h.ky,h.rw,h.nd,J31 h.gl,λ p hp=>J31 (h.pl p hp)⟩
theorem RingInv.new {i:Nat}{g:List (Int×List Int)}{keys:List Key}{ps:List (Addr×List J9i)}(h:RingInv i g keys ps) {j k:Int}(hj:(Qx j:Key)∉keys) (b:Addr):RingInv (i+1) (Bq g j k) (keys++[Qx j]) (ps++[(b,[.int k])]):=by
 have hj':j∉g.map (·.1):=λ z=>hj (by rw [h.ky];exact Jv4.mpr z)
 have e:Bq g j k=g++[(j,[k])]:=if_neg hj'
 rw [e]
 refine ⟨by rw [h.ky,Q1];rfl,by rw [Q1,Q1,h.rw];rfl,?_,by rw [Xc,Uq];have:=h.gl;omega,λ p hp=>?_⟩
 . rw [Q1,J30]
   refine ⟨h.nd,by simp,λ x hx y hy=>?_⟩
   have hy':y=j:=Qq.mp hy
   rintro rfl
   exact hj' (hy'▸hx)
 . rcases Q4.mp hp with hp | hp
   . exact J31 (h.pl p hp)
   . rw [Qq.mp hp];show 1<=i+1;omega
theorem RingInv.add {i:Nat}{g:List (Int×List Int)}{keys:List Key}{ps:List (Addr×List J9i)}(h:RingInv i g keys ps) {j k:Int}{m:Nat}{p:Addr×List J9i}(hm:keys[m]? = some (Qx j)) (hp:ps[m]? = some p):p.2.length<=i/\RingInv (i+1) (Bq g j k) keys (ps.set m (p.1,p.2++[.int k])):=by
 rw [h.ky,Qk] at hm
 obtain ⟨q,hq,ej⟩:=X2.mp hm
 cases J36 ej
 have e2:p.2=Jtg q:=by
  have:=congrArg (λ l=>l[m]?) h.rw
  simp only [Qk,hp,hq,Option.map_some] at this
  exact Xi this
 have hqm:=Xb hq
 have hj':q.1∈g.map (·.1):=Qo.mpr ⟨q,hqm,rfl⟩
 have e:Bq g q.1 k=g.map λ p=>if p.1=q.1 then (p.1,p.2++[k]) else p:=if_pos hj'
 have ek:(Bq g q.1 k).map (·.1)=g.map (·.1):=by
  rw [e,Qy]
  refine Ug λ x _=>?_
  show (if x.1=q.1 then (x.1,x.2++[k]) else x).1=x.1
  split<;>rfl
 refine ⟨by rw [e2,Qb];exact h.pl q hqm,?_,?_,by rw [ek];exact h.nd,by rw [e,Qb];exact J31 h.gl,λ x hx=>?_⟩
 . have:(Bq g q.1 k).map (λ p=>(Qx p.1:Key))=((Bq g q.1 k).map (·.1)).map (λ x=>(Qx x:Key)):=by rw [Qy];rfl
   rw [this,ek,h.ky,Qy];rfl
 . rw [X6,h.rw,e,Qy]
   apply X5
   intro t
   by_cases ht:m=t
   . subst ht
     rw [Q8 (by rw [Qb];exact (Qt.mp hq).1),Qk,hq]
     show some (p.2++[Qp k])=some (Jtg (if q.1=q.1 then (q.1,q.2++[k]) else q))
     rw [if_pos rfl,e2]
     show some (q.2.map Qp++[Qp k])=some ((q.2++[k]).map Qp)
     rw [Q1];rfl
   . rw [Q9 ht,Qk,Qk]
     cases hx:g[t]? with
     | none=>rfl
     | some x=>
      have ne:x.1≠q.1:=λ z=>ht (by
       have h1:(g.map (·.1))[m]? = some q.1:=by rw [Qk,hq];rfl
       have h2:(g.map (·.1))[t]? = some q.1:=by rw [Qk,hx,<- z];rfl
       exact (List.getElem?_inj (Qt.mp h1).1 h.nd).mp (h1.trans h2.symm))
      show some (Jtg x)=some (Jtg (if x.1=q.1 then (x.1,x.2++[k]) else x))
      rw [if_neg ne]
 . rw [e] at hx
   obtain ⟨y,hy,rfl⟩:=Qo.mp hx
   have:=h.pl y hy
   split
   . show (y.2++[k]).length<=_
     rw [Xc,Uq];omega
   . omega
theorem Jhp {R:Nat}{f:Nat->Nat->Bool}{x:Int}(h0:0<=x) (h1:x<R):atI ((Bd R f).map X4) x=some (.list (B7 R f x.toNat)):=by
 unfold atI
 rw [Qb,B8,Jb3 h0 h1]
 show ((Bd R f).map X4)[x.toNat]? = _
 rw [Qk,Jay (by omega)];rfl
theorem Jq9 {i R:Nat}{ws:List Way}{ks:List Int}{keys:List Key}{ps:List (Addr×List J9i)}(h:RingInv i (Jah R (Yr ws ks) ws ks) keys ps):X4 ((ps.map (·.2)).map X4)=Jkr (Je8 R ws ks):=by
 unfold Jkr Je8
 rw [h.rw,Qy,Qy];rfl
theorem Jv5 {ws:List Way}{i:Nat}(h:i<ws.length):(ws.map Y8)[i]? = some (Y8 (Jh ws (i:Int))):=Jl1 (B6 (Xq i) (by omega))
theorem Jai {cs:List Int}{i:Nat}(h:i<cs.length):(cs.map Qp)[i]? = some (.int (cs.getD i 0)):=by
 rw [Qk,Qf h,Qi,Qf h];rfl
noncomputable def Jv6 (x r:Int):Int:=if x=r then 1 else 0
theorem Jmi {ws:List Way}{cs:List Int}{r:Int}:∀ i,Wq ws cs i r=((Qn i).map λ j=>cs.getD j 0*(Jv6 (Jh ws (j:Nat)).b r-Jv6 (Jh ws (j:Nat)).a r)).sum
 | 0=>rfl
 | i+1=>by
  rw [Wq,Jmi i,J2y,Q1,J4o,J3i,J6o]
  unfold Jv6
  by_cases h1:(Jh ws (i:Nat)).a=r
  . by_cases h2:(Jh ws (i:Nat)).b=r
    . rw [if_pos h1,if_pos h2,if_pos h1,if_pos h2];simp
    . rw [if_pos h1,if_neg h2,if_pos h1,if_neg h2];omega
  . by_cases h2:(Jh ws (i:Nat)).b=r
    . rw [if_neg h1,if_pos h2,if_neg h1,if_pos h2];omega
    . rw [if_neg h1,if_neg h2,if_neg h1,if_neg h2];omega
theorem Jth {R:Nat}{es:List (Nat×Nat)}{ws:List Way}{l:Int}:∀ (ks:List Int) (js:List Int),(∀ k∈ks,Pw es R (Jh ws k).b.toNat (Jh ws k).a.toNat=true/\Vu R es (Jh ws k).a.toNat=l)->ks.foldl (Z0 R es ws) [(l,js)]=[(l,js++ks)]
 | [],js,_=>by rw [Uu];rfl
 | k::ks,js,h=>by
  obtain ⟨h1,h2⟩:=h k Qg
  rw [J5r]
  have:Z0 R es ws [(l,js)] k=[(l,js++[k])]:=by
   unfold Z0 Bq
   rw [if_pos h1,h2,if_pos (by simp)]
   show [if l=l then (l,js++[k]) else (l,js)]=_
   rw [if_pos rfl]
  rw [this,Jth ks _ λ x hx=>h x (Qh _ hx),J7l];rfl
theorem Jti {R:Nat}{ws:List Way}{ks:List Int}(hne:ks≠[]) (hr:∀ e∈Yr ws ks,e.1<R/\e.2<R) (h:∀ k∈ks,∀ j∈ks,Rt (Yr ws ks) (Jh ws k).b.toNat (Jh ws j).a.toNat):Je8 R ws ks=[ks]:=by
 have ab:∀ k∈ks,Rt (Yr ws ks) (Jh ws k).a.toNat (Jh ws k).b.toNat:=λ k hk=>.step (.refl _) (Qo.mpr ⟨k,hk,rfl⟩)
 have aa:∀ k∈ks,∀ j∈ks,Rt (Yr ws ks) (Jh ws k).a.toNat (Jh ws j).a.toNat:=λ k hk j hj=>(ab k hk).trans (h k hk j hj)
 have rr:∀ k∈ks,∀ j∈ks,Zu R (Yr ws ks) (Jh ws k).a.toNat=Zu R (Yr ws ks) (Jh ws j).a.toNat:=λ k hk j hj=>by
  unfold Zu
  refine List.filter_congr λ x _=>?_
  rw [J2l,Uc,Uc,Je2 hr,Je2 hr,Je2 hr,Je2 hr]
  exact ⟨λ z=>⟨(aa j hj k hk).trans z.1,z.2.trans (aa k hk j hj)⟩,λ z=>⟨(aa k hk j hj).trans z.1,z.2.trans (aa j hj k hk)⟩⟩
 obtain ⟨k0,rest,e⟩:∃ k rest,ks=k::rest:=by
  cases ks with
  | nil=>exact absurd rfl hne
  | cons a b=>exact ⟨a,b,rfl⟩
 have hk0:k0∈ks:=by rw [e];exact Qg
 have st:Z0 R (Yr ws ks) ws [] k0=[(Vu R (Yr ws ks) (Jh ws k0).a.toNat,[k0])]:=by
  unfold Z0
  rw [if_pos ((Je2 hr).mpr (h k0 hk0 k0 hk0))]
  rfl
 have go:Jah R (Yr ws ks) ws ks=[(Vu R (Yr ws ks) (Jh ws k0).a.toNat,ks)]:=by
  have g:∀ es',ks.foldl (Z0 R es' ws) []=rest.foldl (Z0 R es' ws) (Z0 R es' ws [] k0):=λ es'=>by rw [e,J5r]
  unfold Jah
  rw [g,st,Jth rest [k0] λ x hx=>?_]
  . rw [e];rfl
  . have hx':x∈ks:=by rw [e];exact Qh _ hx
    refine ⟨(Je2 hr).mpr (h x hx' x hx'),?_⟩
    unfold Vu
    rw [rr x hx' k0 hk0]
 unfold Je8
 rw [go];rfl
theorem Jjn {ex:List Addr}{H:Hp}:∀ (ns:List Int),Reps ex H (ns.map Qp) (ns.map V.int)
 | []=>.nil
 | n::ns=>.cons (.int n) (Jjn ns)
theorem Jdb {X:Cx}{K':Qc}(hK:X.K=K'):OpR X (compareOp .In) (rIn K' false):=hK▸Jex
theorem Jdc:∀ ns:List Int,J2x (ns.map Qp)=true
 | []=>rfl
 | n::ns=>by rw [Qz,J2x,Jdc ns];rfl
theorem Je9:∀ ns:List Int,J6p (ns.map Qp)=0
 | []=>rfl
 | n::ns=>by rw [Qz,J6p,Je9 ns];rfl
theorem neL {ns:List Int}{Q:J9i->Prop}(q:Q (.bool false)):Jvn true (Jvr ns) (Jvr ns) Q:=Jof (by unfold Jvr;rw [Ue];exact Jdc ns) (by unfold Jvr;rw [J21,Je9];decide) q
theorem Jcr:∀ ns:List Int,(ns.map Qp).all W9=true
 | []=>rfl
 | n::ns=>by rw [Qz,J3b,Jcr ns];rfl
theorem Jd4 {k:Int}{ns:List Int}:inD (.int k) (ns.map .int)=decide (k∈ns):=by
 unfold inD
 induction ns with
 | nil=>rfl
 | cons n ns ih=>
  rw [Qz,U4,ih]
  have:X8 (.int n) (.int k)=decide (n=k):=rfl
  rw [this,J2l,J6c,decide_eq_true_iff,decide_eq_true_iff,decide_eq_true_iff,Qd]
  constructor
  . rintro (h | h)
    . exact .inl h.symm
    . exact .inr h
  . rintro (h | h)
    . exact .inl h.symm
    . exact .inr h
theorem Jtj {ks:List Key}{ps:List (Addr×List J9i)}{k:Key}(hl:ks.length=ps.length) (h:k∈ks):∃ v,Jac (ks.zip (Yt ps)) k=some v:=by
 cases e:Jac (ks.zip (Yt ps)) k with
 | none=>exact absurd h (Jho hl e)
 | some v=>exact ⟨v,rfl⟩
abbrev Joi (i:Nat) (gy:GE):GE:=λ env n Q=>match env[i]? with
 | some (.own2 (some ks) ps)=>gy env n λ y n1=>(match y with
  | .int j=>Qx j∈ks/\∀ (m:Nat) (p:Addr×List J9i),ks[m]? = some (Qx j)->ps[m]? = some p->Q (.list p.2) n1
  | _=>False)
 | _=>False
instance ev_dlook {i:Nat}{ty:TE}{gy:GE} [Y:EV false ty gy]:EV false (Jpj (Ze i) ty) (Joi i gy):=⟨λ {S ex env σ H n Q P} E h k=>by
 unfold Joi at h
 split at h
 . rename_i ks ps e
   obtain ⟨a,ev,q⟩:=E.sl i _ e
   refine ⟨_,Jl ev,Y.ev E h λ y n1 yv H1 hy s1 ry=>?_⟩
   cases ry with
   | int j=>
    obtain ⟨hj,hq⟩:=hy
    have E1:=E.step s1
    obtain ⟨a1,ev1,q1⟩:=E1.sl i _ e
    rw [ev] at ev1
    cases ev1
    obtain ⟨v,hv⟩:=Jtj (q1.k ks rfl) hj
    obtain ⟨m,p,hm,hp,rfl⟩:=Jkq hv
    have w:=q1.i p (Xb hp)
    obtain ⟨us,g1,g2,g3⟩:=w.h
    refine ⟨a,.ref p.1,rfl,by rw [<- hv];exact Jn1.k (k:=Qx j) q1.h,k _ _ _ _ (hq m p hm hp) s1 (.list g1 w.c g2 (Reps.mono E1.ch g3))⟩
   | none=>exact hy.elim
   | obj=>exact hy.elim
   | bool=>exact hy.elim
   | str=>exact hy.elim
   | list=>exact hy.elim
   | tuple=>exact hy.elim
 . exact h.elim⟩
noncomputable abbrev J2d:=List Vl->Nat->(List (List J9i)->Nat->Prop)->Prop
section
variable {b:Bool}{i:Nat}{sp:J2d}{E':XK}{t:TA}{gt:GA}
end
theorem Jjo:∀ xs ys:List Int,J8f (xs.map Qp) (ys.map Qp)=decide (xs=ys)
 | [],[]=>rfl
 | [],_::_=>rfl
 | _::_,[]=>rfl
 | x::xs,y::ys=>by
  rw [Qz,Qz,J8f,Jjo xs ys]
  have:X8 (.int x) (.int y)=decide (x=y):=rfl
  rw [this,J2l,Uc,decide_eq_true_iff,decide_eq_true_iff,decide_eq_true_iff,List.cons.injEq]
noncomputable def Jmj (r:List Int):J9i:=.list (r.map .int)
theorem Jku {turn:J9i->Nat->(Option J9i->Nat->Prop)->Prop}{n:Nat}{ks:List Int}{Q:List J9i->Nat->Prop}(p:Int->Bool) (h:∀ k∈ks,∀ n K,(p k=true->K (some (.int k)) n)->(p k=false->K none n)->turn (.int k) n K) (q:Q ((ks.filter p).map .int) n):Jc8 turn (ks.map .int) n Q:=by
 have q':Q (((ks.map Qp).filter (λ d=>match d with | .int k=>p k | _=>false)).map id) n:=by
  rw [List.filter_map,List.map_id];exact q
 refine Jl7 (λ d=>match d with | .int k=>p k | _=>false) id (λ x hx n K h1 h2=>?_) q'
 obtain ⟨k,hk,rfl⟩:=Qo.mp hx
 exact h k hk n K h1 h2
end My
namespace L2
open My
section
variable {X:Cx}
end
end L2
namespace My
open L2
noncomputable def headD:J9i->J9i
 | .tuple (w::_)=>w
 | _=>.none
end My
namespace L2
open My
section
variable {X:Cx}{x y:Str}{e:Expr}{es:List Expr}{p p' pos apos:Pos}{t:TA}{k:Nat}{ps:List Str}{sp:Sp}{i:Int}
end
end L2
namespace My
open L2
noncomputable abbrev J2e:=List Vl->Nat->(List J9i->Nat->Prop)->(Addr->Nat->Prop)->Prop
section
variable {i:Nat}{sp:J2e}{t:TA}{gt:GA}{tv:TE}{gv:GE}{d:Int}
end
end My
namespace L2
open My
section
variable {X:Cx}{tg iter kx vx:Expr}{ifs:List Expr}{scope sc:J9q}{N N':List Str}{k:Nat}{idx:List Nat}{wi:TI}{g:TG}{tt:TT}{tk tv:TE}{pos:Pos}
end
section
variable {X:Cx}
end
end L2
namespace My
open L2
noncomputable def Jd5 (kvs:List (Key×J9i)) (k:Key):Option J9i:=(kvs.find? λ kv=>decide (kv.1=k)).map (·.2)
noncomputable def Jim (kvs:List (Key×J9i)) (k:Key) (v:J9i):List (Key×J9i):=
 if (kvs.any λ kv=>decide (kv.1=k))=true then kvs.map (λ kv=>if kv.1=k then (kv.1,v) else kv) else kvs++[(k,v)]
theorem Jkv {ex:List Addr}{H:Hp}{p:Key×J9i}{kvs:List (Key×J9i)}{kws:List (Key×V)}(h:KvR ex H (p::kvs) kws):∃ v rest,kws=(p.1,v)::rest/\Rep ex H p.2 v/\KvR ex H kvs rest:=by
 obtain ⟨h1,h2⟩:=h
 cases kws with
 | nil=>cases h1
 | cons q rest=>
  rw [Qz,Qz] at h1 h2
  injection h1 with a b
  cases h2 with
  | cons r t=>exact ⟨q.2,rest,by rw [<- a],r,b,t⟩
theorem Joj {ex:List Addr}{H:Hp}{kws:List (Key×V)}(h:KvR ex H [] kws):kws=[]:=by
 have:=h.1
 cases kws with
 | nil=>rfl
 | cons _ _=>cases this
theorem Jtk {ex:List Addr}{H:Hp}{k:Key}:∀ {kvs:List (Key×J9i)}{kws:List (Key×V)},KvR ex H kvs kws->(Jd5 kvs k=none/\Jac kws k=none)\/∃ d v,Jd5 kvs k=some d/\Jac kws k=some v/\Rep ex H d v
 | [],kws,h=>by rw [Joj h];exact .inl ⟨rfl,rfl⟩
 | p::kvs,kws,h=>by
  obtain ⟨v,rest,rfl,r,t⟩:=Jkv h
  by_cases e:p.1=k
  . exact .inr ⟨p.2,v,by unfold Jd5;rw [J6q (by simp [e])];rfl,Jb0 e,r⟩
  . have e1:Jd5 (p::kvs) k=Jd5 kvs k:=by unfold Jd5;rw [J6r (by simp [e])]
    rw [e1,Jb1 (p:=(p.1,v)) e]
    exact Jtk t
theorem Jtl {ex:List Addr}{H:Hp}{k:Key}:∀ {kvs:List (Key×J9i)}{kws:List (Key×V)},KvR ex H kvs kws->(kws.any λ kv=>decide (kv.1=k))=kvs.any λ kv=>decide (kv.1=k)
 | [],kws,h=>by rw [Joj h];rfl
 | p::kvs,kws,h=>by
  obtain ⟨v,rest,rfl,r,t⟩:=Jkv h
  rw [U4,U4,Jtl t]
theorem Jtm {ex:List Addr}{H:Hp}{k:Key}{d:J9i}{w:V}(rd:Rep ex H d w):∀ {kvs:List (Key×J9i)}{kws:List (Key×V)},KvR ex H kvs kws->KvR ex H (kvs.map λ kv=>if kv.1=k then (kv.1,d) else kv) (kws.map λ kv=>if kv.1=k then (kv.1,w) else kv)
 | [],kws,h=>by rw [Joj h];exact ⟨rfl,.nil⟩
 | p::kvs,kws,h=>by
  obtain ⟨v,rest,rfl,r,t⟩:=Jkv h
  obtain ⟨t1,t2⟩:=Jtm rd t
  rw [Qz,Qz]
  by_cases e:p.1=k
  . rw [if_pos e,if_pos e]
    exact ⟨by rw [Qz,Qz,t1],.cons rd t2⟩
  . rw [if_neg e,if_neg e]
    exact ⟨by rw [Qz,Qz,t1],.cons r t2⟩
theorem Jzc {ex:List Addr}{H:Hp}{k:Key}{d:J9i}{w:V}{kvs:List (Key×J9i)}{kws:List (Key×V)}(h:KvR ex H kvs kws) (rd:Rep ex H d w):KvR ex H (Jim kvs k d) (V3 kws k w):=by
 unfold Jim V3
 rw [Jtl h]
 split
 . exact Jtm rd h
 . exact ⟨by rw [Q1,Q1,h.1];rfl,by rw [Q1,Q1];exact Reps.append h.2 (.cons rd .nil)⟩
theorem KvR.kp {ex:List Addr}{H H':Hp}{kvs:List (Key×J9i)}{kws:List (Key×V)}(h:KvR ex H kvs kws) (k:Kp ex H H'):KvR ex H' kvs kws:=⟨h.1,h.2.keep k⟩
section
variable {C:Cv}{ex:List Addr}{env:List Vl}{σ:L2.St}{H H':Hp}{n m:Nat}
theorem Jkw {i:Nat}{ds:List (Key×J9i)}{a b:Addr}(h:b∈Jk (env.set i (.dct ds)) (σ.set i (some (.ref a))) i):b=a:=by
 unfold Jk at h
 split at h
 . rename_i e1 e2
   have:=Vg e1
   cases this
 . rename_i c e1 e2
   have e3:(σ.set i (some (.ref a)))[i]? = some (some (.ref c)):=Jl e2
   have:=Vg e3
   cases this
   exact Qq.mp h
 . rename_i e1 e2
   have:=Vg e1
   cases this
 . cases h
theorem At.ownD (A:At C ex env σ H n) {i:Nat}{ds:List (Key×J9i)}{vs:List (Key×V)}{a:Addr}(s:Ys C.S m H H') (ha:H a=none) (hl:H' a=some (.dK vs)) (r:KvR (a::ex) H' ds vs) :
 At C (a::ex) (env.set i (.dct ds)) (σ.set i (some (.ref a))) H' m:=by
 have ac:a∉C.S.ch:=λ z=>C.S.dom A.ev.inv a z ha
 have hc:∀ b∈C.S.ch,b∈a::ex:=λ b h=>Qh _ (A.ev.ch b h)
 have E1:Ev C.S (a::ex) env σ H' m:=by
  refine ⟨A.ev.len,λ j w e=>(SlR.add ha (A.ev.sl j w e)).kp hc s.1,hc,λ b hb=>?_,s.2⟩
  rcases Qd.mp hb with rfl | hb
  . rw [hl];intro z;cases z
  . exact A.ev.al.step s b hb
 refine ⟨E1.put ⟨a,vs,rfl,hl,r,Qg,ac⟩,λ b h=>Qh _ (A.ex0 b h),A.al0,λ j k b h1 h2=>?_,λ j b h=>?_,A.kp.trans s.1,λ h hh=>(Rep.add ha (A.held h hh)).keep (s.1.mono hc)⟩
 . by_cases hj:i=j
   . subst hj
     have e:=Jkw h1
     subst e
     by_cases hk:i=k
     . exact hk
     . rw [Zg hk] at h2
       exact absurd ha (Bc A.ev h2).1
   . rw [Zg hj] at h1
     by_cases hk:i=k
     . subst hk
       have e:=Jkw h2
       subst e
       exact absurd ha (Bc A.ev h1).1
     . rw [Zg hk] at h2
       exact A.sep j k b h1 h2
 . by_cases hj:i=j
   . subst hj
     have e:=Jkw h
     subst e
     exact A.free ha
   . rw [Zg hj] at h
     exact A.new j b h
end
abbrev Jkx (i:Nat) (gy:GE):GE:=λ env n Q=>match env[i]? with
 | some (.dct kvs)=>gy env n λ y n1=>(match y with
  | .int j=>∃ d,Jd5 kvs (Qx j)=some d/\Q d n1
  | _=>False)
 | _=>False
instance ev_dctGet {i:Nat}{ty:TE}{gy:GE} [Y:EV false ty gy]:EV true (Jpj (Ze i) ty) (Jkx i gy):=⟨λ {S ex env σ H n Q P} E h k=>by
 unfold Jkx at h
 split at h
 . rename_i kvs e
   obtain ⟨a,kws,ev,h1,h2,h4,h5⟩:=E.sl i _ e
   refine ⟨_,Jl ev,Y.ev E h λ y n1 yv H1 hy s1 ry=>?_⟩
   cases ry with
   | int j=>
    obtain ⟨d,hd,hq⟩:=hy
    have h2':=h2.kp (s1.1.mono E.ch)
    rcases Jtk (k:=Qx j) h2' with ⟨e1,_⟩ | ⟨d',v,e1,e2,rd⟩
    . rw [hd] at e1;cases e1
    . rw [hd] at e1;cases e1
      refine ⟨a,v,rfl,by rw [<- e2];exact Jn1.k (k:=Qx j) (s1.1 _ _ h1 h5),k _ _ _ _ hq s1 rd⟩
   | none=>exact hy.elim
   | obj=>exact hy.elim
   | bool=>exact hy.elim
   | str=>exact hy.elim
   | list=>exact hy.elim
   | tuple=>exact hy.elim
 . exact h.elim⟩
abbrev Jpv (i:Nat) (gy:GE):GE:=λ env n Q=>match env[i]? with
 | some (.dct kvs)=>gy env n λ y n1=>(match y with
  | .int j=>∃ d,Jd5 kvs (Qx j)=some d/\Q d n1
  | _=>False)
 | some (.own2 (some ks) ps)=>gy env n λ y n1=>(match y with
  | .int j=>Qx j∈ks/\∀ (m:Nat) (p:Addr×List J9i),ks[m]? = some (Qx j)->ps[m]? = some p->Q (.list p.2) n1
  | _=>False)
 | _=>False
instance (priority:=high) ev_dlook2 {i:Nat}{ty:TE}{gy:GE} [Y:EV false ty gy]:EV false (Jpj (Ze i) ty) (Jpv i gy):=⟨λ {S ex env σ H n Q P} E h k=>by
 unfold Jpv at h
 split at h
 . rename_i kvs e
   refine (ev_dctGet (i:=i) (ty:=ty)).ev (P:=P) E ?_ λ d n' v H' p s r=>k d n' v H' p s (Rep.mono E.ch r)
   unfold Jkx
   rw [e]
   exact h
 . rename_i ks ps e
   refine (ev_dlook (i:=i) (ty:=ty)).ev (P:=P) E ?_ k
   unfold Joi
   rw [e]
   exact h
 . exact h.elim⟩
theorem Jjp {k k':Key}{v:J9i}:∀ (kvs:List (Key×J9i)),(kvs.map λ kv=>if kv.1=k then (kv.1,v) else kv).find? (λ kv=>decide (kv.1=k'))=(kvs.find? λ kv=>decide (kv.1=k')).map λ kv=>if kv.1=k then (kv.1,v) else kv
 | []=>rfl
 | p::kvs=>by
  rw [Qz]
  have e1:(if p.1=k then (p.1,v) else p).1=p.1:=by split<;>rfl
  by_cases e:p.1=k'
  . rw [J6q (p:=λ kv:Key×J9i=>decide (kv.1=k')) (show decide ((if p.1=k then (p.1,v) else p).1=k')=true by rw [e1];exact decide_eq_true e),J6q (p:=λ kv:Key×J9i=>decide (kv.1=k')) (decide_eq_true e)];rfl
  . rw [J6r (p:=λ kv:Key×J9i=>decide (kv.1=k')) (show ¬ decide ((if p.1=k then (p.1,v) else p).1=k')=true by rw [e1];simpa using e),J6r (p:=λ kv:Key×J9i=>decide (kv.1=k')) (by simpa using e)]
    exact Jjp kvs
theorem Jv7 (kvs:List (Key×J9i)) (k k':Key) (v:J9i):Jd5 (Jim kvs k v) k'=if k'=k then some v else Jd5 kvs k':=by
 unfold Jim Jd5
 by_cases h:(kvs.any λ kv=>decide (kv.1=k))=true
 . rw [if_pos h,Jjp]
   by_cases e:k'=k
   . subst e
     rw [if_pos rfl]
     cases hf:kvs.find? λ kv=>decide (kv.1=k') with
     | none=>
      obtain ⟨x,hx,hk⟩:=J6s.mp h
      exact absurd hk (J8g.mp hf x hx)
     | some p=>
      have:p.1=k':=by have z:=J8h hf;exact of_decide_eq_true z
      show some (if p.1=k' then (p.1,v) else p).2=_
      rw [if_pos this]
   . rw [if_neg e]
     cases hf:kvs.find? λ kv=>decide (kv.1=k') with
     | none=>rfl
     | some p=>
      have:p.1=k':=by have z:=J8h hf;exact of_decide_eq_true z
      show some (if p.1=k then (p.1,v) else p).2=some p.2
      rw [if_neg (λ z=>e (this.symm.trans z))]
 . rw [if_neg h,List.find?_append]
   have hn:∀ x∈kvs,¬ x.1=k:=λ x hx e=>h (J6s.mpr ⟨x,hx,decide_eq_true e⟩)
   by_cases e:k'=k
   . subst e
     rw [if_pos rfl,J8g.mpr λ x hx=>by simpa using hn x hx]
     simp
   . rw [if_neg e]
     cases hf:kvs.find? λ kv=>decide (kv.1=k') with
     | none=>simp [Qj e,λ z:k=k'=>e z.symm]
     | some p=>rfl
theorem Jtn {cs:List Int}(h:∀ c∈cs,0<=c) (i:Nat):0<=cs.getD i 0:=by
 rw [Qi]
 cases e:cs[i]? with
 | none=>exact J3j _
 | some c=>exact h c (Xb e)
structure RoundOk (R:Int) (ws:List Way) (cs:List Int):Prop where
 len:cs.length=ws.length
 nn:∀ c∈cs,0<=c
 bal:∀ r:Nat,r<R.toNat->Wq ws cs ws.length (r:Nat)=0
theorem Jhq {R:Int}{rs:List Int}(nd:rs.Nodup) (h:∀ x∈rs,0<=x/\x<R):rs.length<=R.toNat:=by
 have:=nodup_le R.toNat (rs.map J4y) (by
  unfold List.Nodup at nd ⊢
  rw [J32]
  refine J8i (λ {a b} ha hb hab z=>hab ?_) nd
  have:=h a ha
  have:=h b hb
  omega) λ x hx=>by
   obtain ⟨y,hy,rfl⟩:=Qo.mp hx
   have:=h y hy
   omega
 rw [Qb] at this
 exact this
theorem J1a {ls:List Int}{k:Int}(h0:0<=k) (h1:k<ls.length):atI (ls.map Qp) k=some (.int (ls.getD k.toNat 0)):=by
 unfold atI
 rw [Qb,Jb3 h0 h1]
 exact Jai (by omega)
end My
namespace L2
section
variable {X:Cx}{pos p2:Pos}
end
end L2
namespace My
open L2
end My
namespace L2
open PySem.SeqAt
section
variable {X:Cx}
end
end L2
namespace My
open L2
abbrev Jxv (i:Nat):GE:=λ env n Q=>match env[i]? with
 | some (.own xs)=>Q (.tuple xs) n
 | some (.d (.list xs))=>Q (.tuple xs) n
 | some (.d (.tuple xs))=>Q (.tuple xs) n
 | _=>False
instance (priority:=high) ev_tupO {K:Qc}{i:Nat}:EV true (tCB (λ xs H Q=>∃ p ys,xs=[.ref p]/\((SqL K H p ys/\∀ l,H l=none->Q (.ref l) (upd H l (.tup ys)))\/(SqT K H p ys/\Q (.ref p) H))) (Ye (Ze i) Jam)) (Jxv i):=⟨λ {S ex env σ H n Q P} E h k=>by
 unfold Jxv at h
 split at h
 . rename_i xs e
   obtain ⟨a,vs,ev,h1,h2,h3,h4,h5⟩:=E.sl i _ e
   exact ⟨_,Jl ev,_,_,rfl,.inl ⟨SqL.of h1,λ l hl=>k _ _ _ _ h (Ys.new E.inv (Kp.new hl _)) (.tuple Jg (E.al.nm hl) h2 (h3.keep (Kp.new hl _)))⟩⟩
 . rename_i xs e
   obtain ⟨v,ev,r⟩:=E.sl i _ e
   cases r with
   | list h1 _ h2 h3=>exact ⟨_,Jl ev,_,_,rfl,.inl ⟨SqL.of h1,λ l hl=>k _ _ _ _ h (Ys.new E.inv (Kp.new hl _)) (.tuple Jg (E.al.nm hl) h2 (h3.keep (Kp.new hl _)))⟩⟩
 . rename_i xs e
   obtain ⟨v,ev,r⟩:=E.sl i _ e
   cases r with
   | tuple h1 hn h2 h3=>exact ⟨_,Jl ev,_,_,rfl,.inr ⟨SqT.of h1,k _ _ _ _ h (.refl E.inv) (.tuple h1 hn h2 h3)⟩⟩
 . exact h.elim⟩
def Jxw:G1:=λ ds Q=>match ds with
 | [.int i]=>Q (.int i)
 | [.bool b]=>Q (.int (if b=true then 1 else 0))
 | _=>False
instance cs_intB:CS (λ xs H Q=>(∃ i,xs=[V.int i]/\Q (V.int i) H)\/∃ k,xs=[V.bl k]/\Q (V.int (if k=true then 1 else 0)) H) Jxw:=⟨λ {H xs ds Q P} r h k=>by
 unfold Jxw at h
 split at h
 . cases r with
   | cons r1 t=>
    cases t
    cases r1
    exact .inl ⟨_,rfl,k _ _ h λ ex=>.int _⟩
 . cases r with
   | cons r1 t=>
    cases t
    cases r1
    exact .inr ⟨_,rfl,k _ _ h λ ex=>.int _⟩
 . exact h.elim⟩
theorem Jra {ws:List Way}{ks rg:List Int}{x y:Nat}(h:Rt (Yr ws ks) x y) (hin:∀ i∈ks,Rt (Yr ws ks) x (Jh ws i).a.toNat->Rt (Yr ws ks) (Jh ws i).b.toNat y->i∈rg):Rt (Yr ws rg) x y:=by
 induction h with
 | refl=>exact .refl _
 | step h1 e ih=>
  obtain ⟨i,hi,ei⟩:=Qo.mp e
  have ea:(Jh ws i).a.toNat=_:=congrArg Prod.fst ei
  have eb:(Jh ws i).b.toNat=_:=congrArg Prod.snd ei
  have hr:i∈rg:=hin i hi (by rw [ea];exact h1) (by rw [eb];exact .refl _)
  exact (ih λ j hj h2 h3=>hin j hj h2 (h3.step e)).step (Qo.mpr ⟨i,hr,ei⟩)
noncomputable def inN (rs:List (List Int)) (k:Int):Int:=((rs.countP λ r=>decide (k∈r):Nat):Int)
end My
namespace L2
section
variable {X:Cx}
end
end L2
namespace My
open L2
section
variable {n:Nat}{key:Nat->Int}
structure PA (n:Nat) (p:Array Nat):Prop where
 size:p.size=n
 perm:p.toList.Perm (Qn n)
noncomputable def kv (key:Nat->Int) (p:Array Nat) (i:Nat):Int:=key (p.getD i 0)
end
end My
namespace L2
open PySem.SeqAt
open AutoSeq1 (wpAny_loadPart')
section
variable {prog:J9n}{w:J9m}{A:J9o}{E:J9j->J9k->Prop}{s:J9k}
end
section
variable {prog:J9n}{w:J9m}{A:J9o}{E:J9j->J9k->Prop}{s:J9k}
end
theorem Jrb:∀ {as:List Addr}{us:List J9j},Yb (as.map V.ref) us->us=as.map Q3:=by
 intro as
 induction as with
 | nil=>intro us r;cases r;rfl
 | cons a as ih=>
  intro us r
  cases r with
  | cons r t=>
   cases r
   rw [ih t];rfl
section
variable {X:Cx}
end
section
variable {X:Cx}
end
end L2
namespace My
open L2
noncomputable abbrev rt (ws:List Way) (ks:List Int) (i j:Int):Prop:=Rt (Yr ws ks) (Jh ws i).b.toNat (Jh ws j).a.toNat
theorem Jc2 {X:Cx}{K':Qc}(hK:X.K=K'):OpR X (compareOp .NotIn) (rIn K' true):=hK▸Ja6
end My
namespace L2
open PySem.SeqAt
section
variable {X:Cx}
end
section
variable {X:Cx}{v:Expr}{te:TE}{a:Str}{ja:Nat}{pa pf pos:Pos}
end
end L2
namespace My
open L2
end My
namespace L2
open PySem.SeqAt
section
open AutoSeq1 (wpAny_loadPart')
end
section
variable {prog:J9n}{w:J9m}{A:J9o}{E:J9j->J9k->Prop}{s:J9k}
end
section
variable {X:Cx}{es:List Expr}{kk:Nat}{tp:Pos}
end
end L2
namespace My
open L2
section
variable {K:Qc}{ex:List Addr}{H:Hp}
end
open PySem.StrLaws PySem.Builtin.Str
end My
namespace L2
open PySem.SeqAt
end L2
namespace My
open L2
theorem Wm {α:Type}{turn:J9i->Nat->(Option J9i->Nat->Prop)->Prop}{n:Nat}{Q:List J9i->Nat->Prop}{f:α->J9i}(g:α->J9i) {xs:List α}(h:∀ x∈xs,∀ n K,K (some (g x)) n->turn (f x) n K) (q:Q (xs.map g) n):Jc8 turn (xs.map f) n Q:=by
 induction xs generalizing n Q with
 | nil=>exact q
 | cons x xs ih=>exact h x Qg _ _ (ih (λ y hy=>h y (Qh _ hy)) q)
theorem Jzd {s t:Str}{Q:J9i->Prop}(h:Q (.bool (!decide (s=t)))):fEq true (.str s) (.str t) Q:=h
end My
namespace PySem
open PySem.Sem (wp)
section
variable {prog:J9n}{w:J9m}{A:J9o}{E:J9j->J9k->Prop}{h:Heap}{g:Array GenState}{d:Drawn}{t:Nat}{os:OsState}
variable {nm q:Str}{C N:Addr}{bs bm bmB:List J9j}{hdct:Bool}{sn:List Str}{sub:List J9j}{ab:Bool}{col:Option Bool}{dd:Option Addr}{k0 k1 k2 k3 k5:Option J9j}{B newId initId:String}
end
end PySem
namespace L2
section
variable {prog:J9n}{w:J9m}{A:J9o}{E:J9j->J9k->Prop}{s:J9k}{l:Addr}{xs:Array (Int×Tok)}
end
section
variable {X:Cx}
end
end L2
namespace My
open L2
structure MetOk (ws:List Way) (ks:List Int) (x:Int) (l:List Int):Prop where
 nd:l.Nodup
 me:x∈l
 rt:∀ y∈l,0<=y/\Rt (Yr ws ks) x.toNat y.toNat
 all:∀ k∈ks,(Jh ws k).a∈l->(Jh ws k).b∈l
def Jto:GSp:=λ as n Q=>∃ (R U:Int) (ws:List Way) (ks:List Int) (x:Int),as=[.d (J7 R U ws),.d (.list (ks.map .int)),.d (.int x)]/\BookOk R U ws/\(∀ k∈ks,0<=k/\k<ws.length)/\ks.length<=60/\(0<=x/\x<R)/\∀ l:List Int,MetOk ws ks x l->(∀ y∈l,0<=y/\y<R)->Q (.list (l.map .int)) n
structure MI (R:Int) (ws:List Way) (ks:List Int) (x:Int) (l:List Int) (i j:Nat):Prop where
 nd:l.Nodup
 me:x∈l
 bd:∀ y∈l,(0<=y/\y<R)/\Rt (Yr ws ks) x.toNat y.toNat
 dn:∀ p<i,∀ k∈ks,l[p]? = some (Jh ws k).a->(Jh ws k).b∈l
 hf:∀ p<j,∀ k,ks[p]? = some k->l[i]? = some (Jh ws k).a->(Jh ws k).b∈l
section
variable {R:Int}{ws:List Way}{ks:List Int}{x:Int}{l:List Int}{i j:Nat}
theorem MI.keep {k:Int}(h:MI R ws ks x l i j) (hk:ks[j]? = some k) (hn:l[i]? = some (Jh ws k).a->(Jh ws k).b∈l):MI R ws ks x l i (j+1):=
 ⟨h.nd,h.me,h.bd,h.dn,λ p hp k' hk' e=>by
  rcases J6t.mp hp with hp | rfl
  . exact h.hf p hp k' hk' e
  . rw [hk] at hk';cases hk';exact hn e⟩
theorem MI.add {k:Int}(h:MI R ws ks x l i j) (hk:ks[j]? = some k) (hi:l[i]? = some (Jh ws k).a) (hb:(Jh ws k).b∉l) (b0:0<=(Jh ws k).b/\(Jh ws k).b<R):MI R ws ks x (l++[(Jh ws k).b]) i (j+1):=by
 have hlt:=(Qt.mp hi).1
 have old:∀ p,p<l.length->(l++[(Jh ws k).b])[p]? = l[p]?:=λ p hp=>Up hp
 refine ⟨?_,Xk _ h.me,λ y hy=>?_,λ p hp k' hk' e=>?_,λ p hp k' hk' e=>?_⟩
 . rw [J30]
   refine ⟨h.nd,by simp,λ a ha b hb' e=>?_⟩
   rw [Qq.mp hb'] at e
   exact hb (e▸ha)
 . rcases Q4.mp hy with hy | hy
   . exact h.bd y hy
   . rw [Qq.mp hy]
     exact ⟨b0,((h.bd _ (Xb hi)).2).step (Qo.mpr ⟨k,Xb hk,rfl⟩)⟩
 . rw [old p (by omega)] at e
   exact Xk _ (h.dn p hp k' hk' e)
 . rw [old i hlt] at e
   rcases J6t.mp hp with hp | rfl
   . exact Xk _ (h.hf p hp k' hk' e)
   . rw [hk] at hk';cases hk'
     exact Xh _ (Qq.mpr rfl)
theorem MI.next (h:MI R ws ks x l i ks.length):MI R ws ks x l (i+1) 0:=
 ⟨h.nd,h.me,h.bd,λ p hp k hk e=>by
  rcases J6t.mp hp with hp | rfl
  . exact h.dn p hp k hk e
  . obtain ⟨q,hq⟩:=J8j hk
    exact h.hf q (Qt.mp hq).1 k hq e,λ p hp=>absurd hp (J3g _)⟩
theorem MI.fin (h:MI R ws ks x l l.length 0):MetOk ws ks x l:=
 ⟨h.nd,h.me,λ y hy=>⟨(h.bd y hy).1.1,(h.bd y hy).2⟩,λ k hk ha=>by
  obtain ⟨p,hp⟩:=J8j ha
  exact h.dn p (Qt.mp hp).1 k hk hp⟩
end
end My
namespace L2
open PySem.SeqAt
theorem Jb9:entryFor table "dict.update.loop" = some Builtin.«dict.update.loop»:=entryFor_of_fast (by kernel_rfl)
theorem Vh:plainId "dict.update.loop" = true:=by decide +kernel
theorem Jze {X:Cx}{pins:List (Addr×Obj)}{σ:St}{H:Hp}{s:J9k}{A:J9o}{E:J9j->J9k->Prop}{a:Addr}{kvs:List (Key×V)}{k:Key}{v:V}{u r:J9j}{Q:Unit->J9k->Prop}(I:Inv X pins σ H s) (e:H a=some (.dK kvs)) (l:kvs.length<sizeLine) (ry:Yl (kV k) u) (rv:Yl v r) (h:∀ s',Inv X pins σ (upd H a (.dK (V3 kvs k v))) s'->Xw a s.heap s'.heap->Q () s') :
 J9l (model X.prog X.w) A (dictSet a u r) Q E s:=by
 obtain ⟨z,hd,vs,rel,dd⟩:=Jr7 I.hok e
 have hz:vs.length<=sizeLine:=by rw [<- rel.length];exact z
 have hl:(V3 kvs k v).length<=sizeLine:=by have:=Jb2 kvs k v;omega
 refine wpAny_dictSet_pairs (hsz:=hz) (Jpg ry) dd λ h' dd' hs=>h _ ?_ hs
 have he:∃ q,h'.get? a=some q:=let ⟨q,_,_,hq,_⟩:=dd';⟨q,hq⟩
 exact Jpi I (by rw [e];exact Um) hs he (Jsa hl hd (rel.put k rv) dd')
section
variable {X:Cx}{pins:List (Addr×Obj)}{σ:St}{A:J9o}{R:J94->J9k->Prop}{it l d:Addr}{ps:List (Key×V×Addr)}
theorem Jtp (hh:A.in1.handled=none) (hc:X.calm=true):∀ (k i:Nat) (s:J9k) (H:Hp) (kvs:List (Key×V)),ps.length-i=k->i<=ps.length->Inv X pins σ H s->Jcx X pins H it->s.heap.IsListIter it l i->H l=some (.lst (ps.map λ p=>V.ref p.2.2))->(∀ p∈ps,H p.2.2=some (.tup [kV p.1,p.2.1]))->H d=some (.dK kvs)->kvs.length+(ps.length-i)<sizeLine ->
 (∀ s',Inv X pins σ (upd H d (.dK ((ps.drop i).foldl (λ m p=>V3 m p.1 p.2.1) kvs))) s'->R (.ok (.ret .none)) s') ->
 J9u (model X.prog X.w) A (.builtin "dict.update.loop" ⟨[.ref d,.ref it,rawInt i,.none],[]⟩) R s:=by
 intro k
 induction k with
 | zero=>
  intro i s H kvs hk hi I f st hl ht hd hz hR
  have hin:i=ps.length:=by omega
  subst hin
  obtain ⟨z,its,n,r,hlt,e⟩:=I.lstM hl
  refine Yaj Jb9 ?_
  rw [J33 Vh _]
  show J9l _ A.in1 (pyNext (.ref it) >>= _) _ _ s
  refine wpAny_bind (wpAny_pyNext_list_end hh st ⟨_,e,rfl,n,rfl⟩ (by rw [Qb] at hlt;simp;omega) λ h' eb=>?_)
  have I1:Inv X pins σ H { s with heap:=h',toks:=s.toks }:=I.turned (t':=s.toks) (λ b o hb q=>eb b o hb q) f.1 f.2.1 f.2.2.2.1 f.2.2.2.2.1 f.2.2.2.2.2
  show J9l _ A.in1 (Builtin.Dict.addKeywords d [] >>= _) _ _ _
  refine wpAny_bind (wpAny_pure (wpAny_pure (hR _ ?_)))
  rw [J4s]
  have eu:upd H d (.dK kvs)=H:=funext λ c=>by
   by_cases hcd:c=d
   . rw [hcd,Jg,hd]
   . rw [Jf hcd]
  show Inv X pins σ (upd H d (.dK kvs)) _
  rw [eu]
  exact I1
 | succ k ih=>
  intro i s H kvs hk hi I f st hl ht hd hz hR
  obtain ⟨z,its,n,r,hlt,e⟩:=I.lstM hl
  refine Yaj Jb9 ?_
  rw [J33 Vh _]
  show J9l _ A.in1 (pyNext (.ref it) >>= _) _ _ s
  have hlt2:i<ps.length:=by omega
  have hpi:ps[i]? = some ps[i]:=Qf hlt2
  generalize ps[i]=p at hpi
  have hm:=Xb hpi
  obtain ⟨u,hu,ru⟩:=r.get (i:=i) (x:=V.ref p.2.2) (by rw [Qk,hpi];rfl)
  cases ru
  refine wpAny_bind (wpAny_pyNext_list_item st ⟨_,e,rfl,n,rfl⟩ (x:=.ref p.2.2) (by simpa using hu) λ h' st' sb=>?_)
  have I1:Inv X pins σ H { s with heap:=h',toks:=s.toks }:=I.turned (t':=s.toks) (λ b o hb q=>(sb.2 b hb).trans q) f.1 f.2.1 f.2.2.2.1 f.2.2.2.2.1 f.2.2.2.2.2
  obtain ⟨uts,rt,pt,_⟩:=I1.tuple (SqT.of (ht p hm))
  obtain ⟨u1,u2,rfl,r1,r2⟩:=Jlq rt
  obtain ⟨o,ho,hoc,n2,hod⟩:=id pt
  refine wpAny_bind (wpAny_holding (wpAny_bind (wpAny_tryCatch ?_)))
  unfold Builtin.Dict.pairItems
  refine wpAny_bind (wpAny_typeOf (T:="tuple") ⟨_,ho,hoc⟩ ?_)
  rw [if_pos (by decide)]
  refine wpAny_bind (wpAny_seqItems ho hod (wpAny_pure ?_))
  show J9l _ A.in1 (holding [u1,u2] (dictSet d u1 u2)) _ _ _
  have nd:it≠d:=λ q=>by have f1:=f.1;rw [q,hd] at f1;cases f1
  refine wpAny_holding (Jze I1 hd (by omega) r1 r2 λ s3 I3 sb3=>?_)
  have hl3:=Jb2 kvs p.1 p.2.1
  have e3:upd (upd H d (.dK (V3 kvs p.1 p.2.1))) d (.dK (((ps.drop (i+1))).foldl (λ m p=>V3 m p.1 p.2.1) (V3 kvs p.1 p.2.1)))=upd H d (.dK ((ps.drop i).foldl (λ m p=>V3 m p.1 p.2.1) kvs)):=by
   have ed:ps.drop i=p::ps.drop (i+1):=by
    rw [J4r hlt2]
    have:ps[i]=p:=by rw [Qf hlt2] at hpi;exact Xi hpi
    rw [this]
   rw [ed]
   funext c
   by_cases hcd:c=d
   . rw [hcd,Jg,Jg];rfl
   . rw [Jf hcd,Jf hcd,Jf hcd]
  refine wpAny_pure ⟨plainId_quiet Vh _,?_⟩
  have hst:s3.heap.IsListIter it l (i+1):=let ⟨q,hq,y⟩:=st';⟨q,(sb3.2 it nd).trans hq,y⟩
  refine ih (i+1) s3 _ _ (by omega) (by omega) I3 ⟨by rw [Jf nd];exact f.1,f.2⟩ hst (by rw [Jf (Jw2 hl hd (by intro q;cases q))];exact hl) (λ p' hp'=>by rw [Jf (Jw2 (ht p' hp') hd (by intro q;cases q))];exact ht p' hp') Jg (by omega) λ s' I'=>hR s' ?_
  rw [e3] at I'
  exact I'
end
theorem Jfa:mroOf (.type "dict")=pure [.type "dict",.type "object"]:=by rw [mroOf_type];kernel_rfl
theorem Jhr:typeLookup (.type "dict") "__new__" = pure (some (.builtin "dict.__new__")):=by rw [Yav,Yaw];kernel_rfl
theorem Jky:TypeCalled "dict" "dict.__new__" "dict.__init__":=
 ⟨by decide +kernel,by decide +kernel,⟨_,_,Jfa⟩,madeBy_type Jfa Jhr (by decide +kernel),by decide +kernel,by rw [isSubtype_type];kernel_rfl,F.slot_dict_init⟩
theorem Jhs (a:J9j):checkTypeCall "dict" ⟨[a],[]⟩=pure ():=by kernel_rfl
theorem Jin (a:J9j):checkBuiltinCall "dict.__new__" ⟨[.type "dict",a],[]⟩=pure ():=by kernel_rfl
theorem Jio:entryFor table "dict.__new__" = some Builtin.«dict.__new__»:=entryFor_of_tree (by kernel_rfl)
theorem Jrc:isSubtype (.type "dict") (.type "dict")=pure true:=by rw [isSubtype_type];kernel_rfl
theorem Jrd (a:J9j):Meets (Builtin.«dict.__new__» ⟨[.type "dict",a],[]⟩) (λ _ R s=>R (.ok (.ret (.ref s.heap.objs.size))) { s with heap:=s.heap.push { cls:=.type "dict",data:=.dict #[] } }):=
 .of_wp λ prog w A R s h=>by
  obtain ⟨hp,g,d,tk,os⟩:=s
  have hsub:=Jrc
  have hm:=Jfa
  wp_walk
  exact ⟨_,rfl,h⟩
section
variable {prog:J9n}{w:J9m}{A:J9o}{E:J9j->J9k->Prop}{s:J9k}
theorem Jf6 {T newId initId:String}{Bn Bi:Builtin}{args:List J9j}{S:Qm}{Q Q₁:J9j->J9k->Prop}(ft:TypeCalled T newId initId)
 (hct:checkTypeCall T ⟨args,[]⟩=pure ()) (hcn:checkBuiltinCall newId ⟨.type T::args,[]⟩=pure ())
 (entryN:entryFor table newId=some Bn) (entryI:entryFor table initId=some Bi) (g:Meets (Bn ⟨.type T::args,[]⟩) S)
 (h:S A.in1 (wants Q₁ E) s)
 (hnext:∀ obj s₁,Q₁ obj s₁->s₁.TypeIs obj T/\argsOk initId ⟨obj::args,[]⟩/\∃ Si,MeetsIn prog w (Bi ⟨obj::args,[]⟩) Si/\Si A.in1 (wants (λ r s₂=>r = .none/\Q obj s₂) E) s₁) :
 J9l (model prog w) A (call (.type T) args) Q E s:=by
 obtain ⟨c,tl,hmro⟩:=ft.mro
 have hmade:=ft.made
 have hsub:=ft.sub
 refine wpAny_call (codeAny_of_tree ?_)
 show J9l _ _ (callAny (.type T) _) _ _ _
 refine wpAny_pure ⟨Code.quiet_builtin _ (by decide +kernel),Yaj F.entry_type_call ?_⟩
 rw [Around.under_plain (weight_type_call_type T args []) (units_type_call_type T args [])]
 have h1:=ft.notType
 have h2:=ft.canCreate
 repeat (any_goals (first | assumption | wp_step))
 refine codeAny_mono (codeAny_call_builtin ft.plain entryN (wpAny_of_eq hcn (g prog w A.in1 _ s h))) λ r s₁ hr=>?_
 cases r with
 | error e=>exact hr
 | ok fl=>
  cases fl with
  | ret obj=>
   obtain ⟨hT,hok,Si,gi,hsi⟩:=hnext _ _ hr
   have hli:=ft.init.lookup
   have hbi:=ft.init.bind obj
   repeat (any_goals (first | assumption | wp_step))
   refine codeAny_mono (codeAny_call_builtin ft.init.plain entryI (ft.init.check _ _ _ _ _ _ _ _ hT hok (gi A.in1 _ s₁ hsi))) λ r₂ s₂ hr₂=>?_
   cases r₂ with
   | error e=>exact hr₂
   | ok fl₂=>
    cases fl₂ with
    | ret r=>
     obtain ⟨rfl,hq⟩:=hr₂
     repeat (any_goals (first | assumption | wp_step))
    | _=>exact hr₂.elim
  | _=>exact hr.elim
end
theorem Jv8 {prog:J9n}{w:J9m}{A:J9o}{E:J9j->J9k->Prop}{s:J9k}{a:Addr}{xs:Array J9j}{k:Nat}{Q:Option J9j->J9k->Prop}(hx:s.heap.get? a=some { cls:=.type "list",data:=.seq xs k }) (hA:A.handled=none)
 (h:∀ h' tk,(∀ b o,s.heap.get? b=some o->h'.get? b=some o)->Q none { s with heap:=h',toks:=tk }):J9l (model prog w) A (getAttr? (.ref a) "keys") Q E s:=by
 obtain ⟨hp,g,d,tk,os⟩:=s
 have hmiss:typeLookup (.type "list") "keys" = pure none:=by rw [Yav,Yaw];kernel_rfl
 have hT:∀ tk',(⟨hp,g,d,tk',os⟩:J9k).TypeIs (.ref a) "list":=λ _=>⟨_,hx,rfl⟩
 have f1:=sub_AttributeError
 have f3:=J6u.lookup
 have f4:=J6u.bind (.ref a)
 have f5:=am_list_getattr_none
 unfold getAttr? getAttrBy? getAttrBy
 repeat (any_goals (first | assumption | exact hT _ | ((with_reducible show J9l _ _ (call (Value.builtin "list.__getattribute__") _ _) _ _ _);refine call_meets J6u (hT _) am_entry_list_getattribute (F.args_list_getattribute_2 _ _) (meets_getattribute_miss_list a xs k #[] "keys" _ hmiss (by decide) (by size_fits)) ⟨hx,hA,λ h' tk' e hx'=>?_⟩) | wp_step))
 obtain ⟨t',u',he⟩:=hx'.there
 show J9l _ _ (getattributeRaised _ _ _ _ _ _ _) _ _ _
 unfold getattributeRaised
 repeat (any_goals (first | assumption | wp_step))
 exact h _ _ hx'.of.keeps
section
variable {X:Cx}
theorem Jok (hc:X.calm=true):Bj X (.type "dict") (λ xs H Q=>∃ (l:Addr) (ps:List (Key×V×Addr)),xs=[.ref l]/\H l=some (.lst (ps.map λ p=>V.ref p.2.2))/\(∀ p∈ps,H p.2.2=some (.tup [kV p.1,p.2.1]))/\ps.length<sizeLine/\∀ d,H d=none->Q (.ref d) (upd H d (.dK (ps.foldl (λ m p=>V3 m p.1 p.2.1) [])))):=by
 intro pins s σ H xs us Q I r h
 obtain ⟨l,ps,rfl,hl,ht,hz,q⟩:=h
 obtain ⟨u,rfl,ru⟩:=Jby r
 cases ru
 refine Jf6 (Q₁:=λ obj s₁=>obj = .ref s.heap.objs.size/\s₁ = { s with heap:=s.heap.push { cls:=.type "dict",data:=.dict #[] } }) Jky (Jhs _) (Jin _) Jio F.entry_dict_init (Jrd _) ⟨rfl,rfl⟩ λ obj s₁ hq=>?_
 obtain ⟨rfl,rfl⟩:=hq
 refine ⟨⟨_,Xe _ rfl,rfl⟩,F.args_dict_init_2 _ _,λ A' R s'=>A'=X.A.in1/\R=wants (λ r s₂=>r = .none/\EP X pins σ Q (.ref s.heap.objs.size) s₂) X.xe/\s' = { s with heap:=s.heap.push { cls:=.type "dict",data:=.dict #[] } },λ A' R s' hs'=>?_,rfl,rfl,rfl⟩
 obtain ⟨rfl,rfl,rfl⟩:=hs'
 obtain ⟨z,its,n,rv,hlt,e⟩:=I.lstM hl
 have e1:=Qu { cls:=.type "dict",data:=.dict #[] } e
 have hm:typeLookup (.type "list") "keys" = pure none:=by rw [Yav,Yaw];kernel_rfl
 have hcl:(U9 "list" != U9 "dict")=true:=by decide
 have hh:X.A.in1.in1.handled=none:=I.ok.hd hc
 have hL:∀ h':Heap,(∀ b o,(s.heap.push { cls:=.type "dict",data:=.dict #[] }).get? b=some o->h'.get? b=some o)->h'.IsList l its.toArray:=λ h' hk=>⟨_,hk _ _ e1,rfl,n,rfl⟩
 unfold Builtin.«dict.__init__»
 repeat (any_goals (first | assumption | (with_reducible refine Jv8 e1 hh λ h' tk hk=>?_) | (with_reducible refine J2o e1 ?_) | (with_reducible refine wpAny_pyIter_list (hL _ hk) ?_) | wp_step))
 have hf0:H s.heap.objs.size=none:=I.hok.fresh (Ql _)
 have I2:Inv X pins σ (upd H s.heap.objs.size (.dK [])) { s with heap:=s.heap.push { cls:=.type "dict",data:=.dict #[] } }:=
  I.laid (t':=s.toks) (λ b u e=>Qu _ e) (Ql _) (Jlv s.heap I.big)
 have I3:Inv X pins σ (upd H s.heap.objs.size (.dK [])) { s with heap:=h',toks:=tk }:=I2.kept (t':=tk) hk
 refine ⟨plainId_quiet Vh _,?_⟩
 refine Jtp (A:=X.A.in1) (X:=X) (pins:=pins) (σ:=σ) (l:=l) (ps:=ps) hh hc ps.length 0 _ (upd H s.heap.objs.size (.dK [])) [] rfl (Xr _) (I3.kept (t':=tk) λ b o e=>Qu _ e) (I3.fpOk (Ql _) (I3.hok.fresh (Ql _))) ⟨_,Xe _ rfl,rfl,rfl⟩ (by rw [Jf (Jn hl hf0)];exact hl) (λ p hp=>by rw [Jf (Jn (ht p hp) hf0)];exact ht p hp) Jg (by rw [J7o];omega) λ s' I'=>⟨rfl,.ref s.heap.objs.size,_,I',rfl,?_⟩
 have eu:upd (upd H s.heap.objs.size (.dK [])) s.heap.objs.size (.dK ((ps.drop 0).foldl (λ m p=>V3 m p.1 p.2.1) []))=upd H s.heap.objs.size (.dK (ps.foldl (λ m p=>V3 m p.1 p.2.1) [])):=funext λ c=>by
  by_cases hcd:c=s.heap.objs.size
  . rw [hcd,Jg,Jg,J72]
  . rw [Jf hcd,Jf hcd,Jf hcd]
 rw [eu]
 exact q _ hf0
end
end L2
namespace My
open L2 PySem.SeqAt PySem.MeetsSeq
section
variable {X:Cx}
end
abbrev Jtq (i:Nat):GN:=λ env n Q=>match env[i]? with
 | some (.own xs)=>Q xs n
 | some (.d x)=>Jkd [x] λ d=>Q d n
 | _=>False
instance (priority:=high) nv_listO {K:Qc}{i:Nat}:NV (tCB (λ xs H Q=>∃ p ys,xs=[.ref p]/\(SqL K H p ys\/SqT K H p ys)/\∀ l,H l=none->Q (.ref l) (upd H l (.lst ys))) (Ye (Ze i) Jam)) (Jtq i):=⟨λ {S ex env σ H n Q P} E h k=>by
 unfold Jtq at h
 split at h
 . rename_i xs e
   obtain ⟨a,vs,ev,h1,h2,h3,h4,h5⟩:=E.sl i _ e
   refine ⟨_,Jl ev,_,_,rfl,.inl (SqL.of h1),λ p hp=>?_⟩
   obtain ⟨c1,c2,c3⟩:=B5 E (.refl E.inv) hp h3
   exact k _ _ _ _ _ h c1 c2 Jg h2 c3
 . rename_i x e
   refine (nv_cn (r:=λ xs H Q=>∃ p ys,xs=[.ref p]/\(SqL K H p ys\/SqT K H p ys)/\∀ l,H l=none->Q (.ref l) (upd H l (.lst ys))) (t:=Ye (Ze i) Jam)).nv E ?_ k
   show Jvm i env n _
   unfold Jvm
   rw [e]
   exact h
 . exact h.elim⟩
def Jtr:List V->Hp->VK->Prop:=λ xs H Q=>∃ (l:Addr) (ps:List (Key×V×Addr)),xs=[.ref l]/\H l=some (.lst (ps.map λ p=>V.ref p.2.2))/\(∀ p∈ps,H p.2.2=some (.tup [kV p.1,p.2.1]))/\ps.length<sizeLine/\∀ d,H d=none->Q (.ref d) (upd H d (.dK (ps.foldl (λ m p=>V3 m p.1 p.2.1) [])))
theorem Jol {X:Cx}(hc:X.calm=true):Bj X (.type "dict") Jtr:=Jok hc
theorem Jmk {ex:List Addr}{H:Hp}:∀ {kvs:List (Int×J9i)}{vs:List V},Reps ex H (kvs.map λ p=>Ux [.int p.1,p.2]) vs->∃ ps:List (Key×V×Addr),vs=ps.map (λ p=>V.ref p.2.2)/\(∀ p∈ps,H p.2.2=some (.tup [kV p.1,p.2.1]))/\ps.length=kvs.length/\∀ (acc:List (Key×J9i)) (acc':List (Key×V)),KvR ex H acc acc'->KvR ex H (kvs.foldl (λ m p=>Jim m (Qx p.1) p.2) acc) (ps.foldl (λ m p=>V3 m p.1 p.2.1) acc')
 | [],_,.nil=>⟨[],rfl,(λ p hp=>by cases hp),rfl,λ _ _ h=>h⟩
 | kv::kvs,_,.cons r t=>by
  obtain ⟨ps,rfl,hp,hl,hf⟩:=Jmk t
  cases r with
  | tuple e m z rs=>
   cases rs with
   | cons r1 t1=>
    cases t1 with
    | cons r2 t2=>
     cases t2
     cases r1
     refine ⟨(Qx kv.1,_,_)::ps,rfl,λ p h=>?_,by rw [Xu,Xu,hl],λ acc acc' h=>hf _ _ (Jzc h r2)⟩
     rcases Qd.mp h with rfl | h
     . exact e
     . exact hp p h
abbrev Jzf (i:Nat) (g:GE):GS:=λ G env n=>g env n λ d n1=>∃ kvs:List (Int×J9i),d = .list (kvs.map λ p=>.tuple [.int p.1,p.2])/\kvs.length<sizeLine/\G.nx (env.set i (.dct (kvs.foldl (λ m p=>Jim m (Qx p.1) p.2) []))) n1
instance (priority:=high) sv_dictL {i:Nat}{te:TE}{ge:GE} [E:EV true te ge]:SV (Jc5 (tCB Jtr (Ye te Jam)) (V2 i)) (Jzf i ge):=⟨λ {C G D} O {ex env σ H n} A h=>E.ev A.ev h λ d n1 v H1 hd s1 r=>by
 obtain ⟨kvs,rfl,hl,nx⟩:=hd
 cases r with
 | list e m z rs=>
  obtain ⟨ps,rfl,hp,hpl,hf⟩:=Jmk rs
  refine ⟨_,ps,rfl,e,hp,by omega,λ p hp0=>?_⟩
  have k:=hf [] [] ⟨rfl,.nil⟩
  exact O.nx (A.ownD (s1.then (Kp.new hp0 _)) (s1.free hp0) Jg ⟨k.1,(Reps.add hp0 k.2).keep (Kp.new hp0 _)⟩) nx⟩
open L2
section
variable {R U:Int}{ws:List Way}{ks:List Int}
theorem MetOk.iff {x:Int}{l:List Int}(h:MetOk ws ks x l) (x0:0<=x) (hw:∀ k∈ks,0<=(Jh ws k).a/\0<=(Jh ws k).b) {y:Int}(y0:0<=y):y∈l↔Rt (Yr ws ks) x.toNat y.toNat:=by
 refine ⟨λ hy=>(h.rt y hy).2,λ hr=>?_⟩
 have key:∀ z:Nat,Rt (Yr ws ks) x.toNat z->((z:Nat):Int)∈l:=λ z hz=>by
  induction hz with
  | refl=>rw [X3 x0];exact h.me
  | step g e ih=>
   obtain ⟨k,hk,e⟩:=Qo.mp e
   injection e with e1 e2
   have w:=hw k hk
   rw [<- e1,X3 w.1] at ih
   have:=h.all k hk ih
   rw [<- e2,X3 w.2]
   exact this
 have:=key _ hr
 rwa [X3 y0] at this
noncomputable def aOf (ws:List Way) (k:Int):Nat:=(Jh ws k).a.toNat
noncomputable def bOf (ws:List Way) (k:Int):Nat:=(Jh ws k).b.toNat
noncomputable def hdA (ws:List Way) (r:List Int):Nat:=aOf ws (r.headD 0)
theorem Jzg {k:Int}(hk:k∈ks):Rt (Yr ws ks) (aOf ws k) (bOf ws k):=.step (.refl _) (Qo.mpr ⟨k,hk,rfl⟩)
structure KeyOf (ws:List Way) (ks:List Int) (r:List Int) (k:Int):Prop where
 m:k∈ks
 b:Rt (Yr ws ks) (bOf ws k) (aOf ws k)
 i:∀ j,j∈r↔j∈ks/\Rt (Yr ws ks) (aOf ws k) (aOf ws j)/\Rt (Yr ws ks) (bOf ws j) (aOf ws k)
theorem KeyOf.self {r:List Int}{k:Int}(h:KeyOf ws ks r k):k∈r:=(h.i k).mpr ⟨h.m,.refl _,h.b⟩
theorem KeyOf.hd {r:List Int}{k:Int}(h:KeyOf ws ks r k):Rt (Yr ws ks) (aOf ws k) (hdA ws r)/\Rt (Yr ws ks) (hdA ws r) (aOf ws k):=by
 cases r with
 | nil=>exact absurd h.self (by simp)
 | cons p r=>
  obtain ⟨h1,h2,h3⟩:=(h.i p).mp Qg
  exact ⟨h2,(Jzg h1).trans h3⟩
structure RgI (ws:List Way) (ks:List Int) (rs:List (List Int)) (i:Nat):Prop where
 key:∀ r∈rs,∃ k,KeyOf ws ks r k
 sb:∀ r∈rs,r.Sublist ks
 one:∀ r∈rs,∀ s∈rs,Rt (Yr ws ks) (hdA ws r) (hdA ws s)->Rt (Yr ws ks) (hdA ws s) (hdA ws r)->r=s
 len:rs.length<=i
theorem RgI.kl {rs:List (List Int)}{i:Nat}(h:RgI ws ks rs i):∀ r∈rs,r.length<=ks.length:=λ r hr=>(h.sb r hr).length_le
theorem RgI.nil:RgI ws ks [] 0:=⟨(λ r h=>by cases h),(λ r h=>by cases h),(λ r h=>by cases h),Ql _⟩
theorem RgI.more {rs:List (List Int)}{i:Nat}(h:RgI ws ks rs i):RgI ws ks rs (i+1):=⟨h.key,h.sb,h.one,J31 h.len⟩
theorem RgI.add {rs:List (List Int)}{i:Nat}(h:RgI ws ks rs i) {r:List Int}{k:Int}(hk:KeyOf ws ks r k) (hl:r.Sublist ks) (hn:∀ s∈rs,k∉s):RgI ws ks (rs++[r]) (i+1):=by
 have new:∀ s∈rs,Rt (Yr ws ks) (hdA ws r) (hdA ws s)->Rt (Yr ws ks) (hdA ws s) (hdA ws r)->False:=λ s hs h1 h2=>by
  obtain ⟨k',hk'⟩:=h.key s hs
  have a:=hk.hd
  have b:=hk'.hd
  refine hn s hs ((hk'.i k).mpr ⟨hk.m,(b.1.trans h2).trans a.2,((hk.b.trans a.1).trans h1).trans b.2⟩)
 refine ⟨λ s hs=>?_,λ s hs=>?_,λ s hs t ht h1 h2=>?_,by rw [Xc,Uq];have:=h.len;omega⟩
 . rcases Q4.mp hs with hs | hs
   . exact h.key s hs
   . rw [Qq.mp hs];exact ⟨k,hk⟩
 . rcases Q4.mp hs with hs | hs
   . exact h.sb s hs
   . rw [Qq.mp hs];exact hl
 . rcases Q4.mp hs with hs | hs
   . rcases Q4.mp ht with ht | ht
     . exact h.one s hs t ht h1 h2
     . rw [Qq.mp ht] at h1 h2
       exact (new s hs h2 h1).elim
   . rcases Q4.mp ht with ht | ht
     . rw [Qq.mp hs] at h1 h2
       exact (new t ht h1 h2).elim
     . rw [Qq.mp hs,Qq.mp ht]
end
theorem Jjq {P:Int->List Int->Prop}:∀ {xs ys:List J9i},Jy1 (λ x y=>∃ (i:Int) (l:List Int),x = .int i/\y = .tuple [.int i,.list (l.map .int)]/\P i l) xs ys->∃ kvs:List (Int×J9i),ys=kvs.map (λ p=>.tuple [.int p.1,p.2])/\xs=kvs.map (λ p=>.int p.1)/\∀ kv∈kvs,∃ l:List Int,kv.2 = .list (l.map .int)/\P kv.1 l
 | [],[],_=>⟨[],rfl,rfl,λ kv h=>by cases h⟩
 | x::xs,y::ys,h=>by
  obtain ⟨⟨i,l,rfl,rfl,p⟩,h2⟩:=h
  obtain ⟨kvs,rfl,rfl,hk⟩:=Jjq h2
  refine ⟨(i,.list (l.map .int))::kvs,rfl,rfl,λ kv hkv=>?_⟩
  rcases Qd.mp hkv with rfl | hkv
  . exact ⟨l,rfl,p⟩
  . exact hk kv hkv
 | [],_::_,h=>h.elim
 | _::_,[],h=>h.elim
theorem Jml {P:Int->List Int->Prop}{j:Int}:∀ {kvs:List (Int×J9i)}{acc:List (Key×J9i)},(∀ kv∈kvs,∃ l:List Int,kv.2 = .list (l.map .int)/\P kv.1 l)->((∃ l:List Int,Jd5 acc (Qx j)=some (.list (l.map .int))/\P j l)\/∃ kv∈kvs,kv.1=j)->∃ l:List Int,Jd5 (kvs.foldl (λ m p=>Jim m (Qx p.1) p.2) acc) (Qx j)=some (.list (l.map .int))/\P j l
 | [],acc,_,h=>h.elim id λ ⟨kv,h,_⟩=>by cases h
 | kv::kvs,acc,hk,h=>by
  obtain ⟨l,el,pl⟩:=hk kv Qg
  refine Jml (kvs:=kvs) (acc:=Jim acc (Qx kv.1) kv.2) (λ kv' h'=>hk kv' (Qh _ h')) ?_
  rw [Jv7]
  by_cases e:j=kv.1
  . left
    rw [if_pos (by rw [e]),el]
    exact ⟨l,rfl,by rw [e];exact pl⟩
  . rw [if_neg (λ z=>e (J36 z))]
    rcases h with h | ⟨kv',h',e'⟩
    . exact .inl h
    . rcases Qd.mp h' with rfl | h'
      . exact absurd e'.symm e
      . exact .inr ⟨kv',h',e'⟩
theorem Jv9 {kvs:List (Int×J9i)}{k:Nat}(h:Jf5 0 k=kvs.map λ p=>.int p.1):kvs.length=k/\∀ j:Int,0<=j->j<k->∃ kv∈kvs,kv.1=j:=by
 refine ⟨by have:=congrArg J3p h;rw [Yf,Qb] at this;exact this.symm,λ j h0 h1=>?_⟩
 have:Qp j∈Jf5 0 k:=Qo.mpr ⟨j.toNat,Xj.mpr (by omega),by rw [X3 h0,J20]⟩
 rw [h] at this
 obtain ⟨kv,hkv,e⟩:=Qo.mp this
 exact ⟨kv,hkv,by injection e⟩
theorem Jmm {n:Nat}:∀ {rs:List (List Int)},(∀ r∈rs,r.length<=n)->rs.flatten.length<=rs.length*n
 | [],_=>by simp
 | r::rs,h=>by
  have h1:=Jmm (rs:=rs) λ s hs=>h s (Qh _ hs)
  have h2:=h r Qg
  rw [U6,Xc,Xu,Nat.add_mul]
  omega
def Jht:GSp:=λ as n Q=>∃ (R U:Int) (ws:List Way) (ks:List Int),as=[.d (J7 R U ws),.d (.list (ks.map .int))]/\BookOk R U ws/\(∀ k∈ks,0<=k/\k<ws.length)/\ks.length<=60/\∀ rs:List (List Int),RgI ws ks rs ks.length->Q (.list (rs.map Jmj)) n
end My
namespace L2
def DefM (K:Qc) (C:Addr) (m qual:Str) (st:Stmt) (ps:List Str):Prop:=∃ f fd,Meth K C m f/\Fun K m qual st f fd/\Bl K fd ps []
def Wc (P:J9n) (w:J9m) (K:Qc) (mg:Str->Option J9j) (base:Heap) (C:Addr) (m:Str) (k:Nat) (ps:List Str) (sp:Sp):Prop:=
 ∃ f fd,Cls K C/\Meth K C m f/\Bl K fd ps []/\FnOk P w K mg base CX0 k f fd ps sp
section
variable {P:J9n}{w:J9m}{K:Qc}{mg:Str->Option J9j}{base:Heap}{C:Addr}{x m qual:Str}{st:Stmt}{ps:List Str}{k:Nat}{sp:Sp}
theorem DefM.cal (d:DefM K C m qual st ps) (c:Cls K C) (h:∀ f fd,Fun K m qual st f fd->FnOk P w K mg base CX0 k f fd ps sp):Wc P w K mg base C m k ps sp:=by
 obtain ⟨f,fd,hm,F,b⟩:=d
 exact ⟨f,fd,c,hm,b,h f fd F⟩
theorem defM_mk {f:Addr}{oc:J9j}{od an:Option Addr}{osl:Array (Option J9j)}{kV doc pm cdv ct:J9j}
 (a:Uj K (.ref C) m=some (some (.ref f))) (i:J3n K (.ref f)=true) (l:K.lookup f=some ⟨oc,od,.func (X0 m qual (Z6 st) (Zr st) (Je st) .none kV doc pm an cdv ct),osl⟩) (c:J2n K cdv qual=true) (kp:Uk K (.ref f)=true)
 (hb:∀ (kV doc pm:J9j) (an:Option Addr) (cdv ct:J9j) (us:List J9j),us.length=ps.length->Yag (X0 m qual (Z6 st) (Zr st) (Je st) .none kV doc pm an cdv ct) ⟨us,[]⟩=pure (ps.zip us)):DefM K C m qual st ps:=
 ⟨f,_,⟨a,i,kp⟩,Jgy (st:=st) l c kp,(Jgy (st:=st) l c kp).binds hb⟩
end
section
variable {X:Cx}{x m:Str}{C:Addr}{o e:Expr}{es:List Expr}{p pos apos:Pos}{ta:TE}{t:TA}{k:Nat}{ps:List Str}{sp:Sp}
theorem J8 {K':Qc}{f:Str}(hK:X.K=K') (he:PE X e ta) (hb:Yae e f X.env (eval e X.env)=eval e X.env:=by rfl):PE X (.Attribute e f pos) (Jnv K' ta f):=hK▸Jyg he hb
theorem Jfb {pl:Sem Bool}(c:Wc X.prog X.w X.K X.mg X.base C m k ps sp) (hr:Room k X.A) (he:PE X o ta) (ha:PA X (e::es) t)
 (hst:starEach (e::es) X.env=(false,eval e X.env)::starEach es X.env:=by rfl) (hpl:(backTo pos (starEach es X.env)).any (·.1)=false:=by rfl)
 (ht:eval (.Call (.Attribute o m apos) (e::es) [] pos) X.env=(do
  let ov <- eval o X.env
  J90 apos.atName
  let (f,first) <- holding [ov] (getMethod ov m pl)
  callWith pos f first (backTo pos (starEach (e::es) X.env)) (backToKw pos (keywordEach [] X.env))):=by rfl):PE X (.Call (.Attribute o m apos) (e::es) [] pos) (Ji8 C m sp [] E0 ta t):=by
 obtain ⟨f,fd,hc,hm,b,F⟩:=c
 exact Jvc he hc hm F hr b .nil Jse ha hst hpl ht
end
end L2
namespace My
open L2
theorem Jmn {C C':Addr}{ns ns':List Str}{ds ds':List J9i}(hl:ns.length=ds.length) (hl':ns'.length=ds'.length) (h:Jba C ns ds=Jba C' ns' ds'):C=C'/\ns=ns'/\ds=ds':=by
 unfold Jba at h
 injection h with h1 h2
 injection h1 with h1 _
 injection h1 with h1
 refine ⟨by exact_mod_cast h1,?_⟩
 clear h1
 induction ns generalizing ds ns' ds' with
 | nil=>
  cases ds with
  | cons _ _=>cases hl
  | nil=>
   cases ns' with
   | nil=>
    cases ds' with
    | nil=>exact ⟨rfl,rfl⟩
    | cons _ _=>cases hl'
   | cons _ _=>
    cases ds' with
    | nil=>cases hl'
    | cons _ _=>cases h2
 | cons n ns ih=>
  cases ds with
  | nil=>cases hl
  | cons d ds=>
   cases ns' with
   | nil=>
    cases ds' with
    | nil=>cases h2
    | cons _ _=>cases hl'
   | cons n' ns'=>
    cases ds' with
    | nil=>cases hl'
    | cons d' ds'=>
     rw [J6v,J6v] at h2
     injection h2 with h3 h4
     injection h3 with h5 h6
     injection h5 with h5
     obtain ⟨e1,e2⟩:=ih (by simpa using hl) (by simpa using hl') h4
     exact ⟨by rw [h5,e1],by rw [h6,e2]⟩
noncomputable def Jip (ns:List Str) (ds:List J9i) (f:Str):Option J9i:=(ns.zip ds).lookup f
theorem Jpw {ex:List Addr}{H:Hp}{f:Str}{x:J9i}:∀ {fs:List (Str×V)}{ds:List J9i},Reps ex H ds (fs.map (·.2))->Jip (fs.map (·.1)) ds f=some x->∃ v,fs.lookup f=some v/\Rep ex H x v
 | [],ds,r,h=>by cases h
 | p::fs,ds,r,h=>by
  cases r with
  | cons r1 t=>
   unfold Jip at h
   rw [Qz,J6w] at h
   by_cases e:f=p.1
   . subst e
     rw [J8k] at h
     cases h
     exact ⟨p.2,J8k,r1⟩
   . have hb:(f==p.1)=false:=beq_eq_false_iff_ne.mpr e
     rw [Uv,hb] at h
     obtain ⟨v,hv,rv⟩:=Jpw t h
     exact ⟨v,by rw [Uv,hb];exact hv,rv⟩
theorem Jts {f:Str}:∀ {fs:List (Str×V)},f∉fs.map (·.1)->fs.lookup f=none
 | [],_=>rfl
 | p::fs,h=>by
  rw [Qz,Qd,not_or] at h
  rw [Uv,beq_eq_false_iff_ne.mpr h.1]
  exact Jts h.2
section
variable {b:Bool}{te ta:TE}{g:GE}
abbrev J2f (K:Qc) (f:Str) (g:GE):GE:=λ env n Q=>g env n λ d n1=>∃ (C:Addr) (ns:List Str) (ds:List J9i) (x:J9i),d = .dict (Jba C ns ds)/\Cls K C/\NoAttr K C f/\ns.length=ds.length/\Jip ns ds f=some x/\Q x n1
instance ev_fld {K:Qc}{f:Str} [A:EV b te g]:EV b (Jnv K te f) (J2f K f g):=⟨λ {S ex env σ H n Q P} E h k=>A.ev E h λ d n1 v H1 h1 s1 r1=>by
 obtain ⟨C,ns,ds,x,rfl,hc,hn,hl,hx,q⟩:=h1
 cases r1 with
 | obj e m ek r=>
  have hr:=r.length
  rw [Qb] at hr
  obtain ⟨rfl,rfl,rfl⟩:=Jmn hl (by rw [Qb,hr]) ek
  obtain ⟨v',hv,rv⟩:=Jpw r hx
  exact ⟨_,_,_,_,v',rfl,e,hc,hn,hv,k _ _ _ _ q s1 rv⟩⟩
abbrev J1b (C:Addr) (m:Str) (sp:GSp) (g:GE) (ga:GA):GE:=λ env n Q=>g env n λ d n1=>(∃ (ns:List Str) (ds:List J9i),d = .dict (Jba C ns ds)/\ns.length=ds.length/\m∉ns)/\ga env n1 λ as n2=>sp (.d d::as) n2 Q
abbrev Jzh (C:Addr) (m:Str) (sp:GSn) (g:GE) (ga:GA):GN:=λ env n Q=>g env n λ d n1=>(∃ (ns:List Str) (ds:List J9i),d = .dict (Jba C ns ds)/\ns.length=ds.length/\m∉ns)/\ga env n1 λ as n2=>sp (.d d::as) n2 Q
theorem Jtt {ex:List Addr}{H:Hp}{C:Addr}{m:Str}{ns:List Str}{ds:List J9i}{v:V}(hl:ns.length=ds.length) (hm:m∉ns) (r:Rep ex H (.dict (Jba C ns ds)) v):∃ a dx fs,v = .ref a/\H a=some (.ins C dx fs)/\fs.lookup m=none:=by
 cases r with
 | obj e n ek r=>
  have hr:=r.length
  rw [Qb] at hr
  obtain ⟨rfl,rfl,rfl⟩:=Jmn hl (by rw [Qb,hr]) ek
  exact ⟨_,_,_,rfl,e,Jts hm⟩
instance ev_meth {C:Addr}{m:Str}{sp:GSp}{E':XK}{t:TA}{gt:GA} [A:EV b ta g] [B:AV b t gt]:EV b (Ji8 C m (Jm sp) [] E' ta t) (J1b C m sp g gt):=⟨λ {S ex env σ H n Q P} E h k=>A.ev E h λ d n1 v H1 h1 s1 r1=>by
 obtain ⟨⟨ns,ds,rfl,hl,hm⟩,h2⟩:=h1
 obtain ⟨a,dx,fs,rfl,e,hf⟩:=Jtt hl hm r1
 refine ⟨a,dx,fs,rfl,e,hf,B.av (E.step s1) h2 λ as n2 vs H2 h3 s2 r2=>?_⟩
 rw [Uu]
 exact ⟨S,exm b S ex,.d (.dict (Jba C ns ds))::as,n2,_,⟨⟨_,rfl,(E.step s1).repm b s2 r1⟩,r2⟩,E.sup b,(E.step (s1.trans s2)).alm b,s2.2,h3,λ d n' v H' p s3 r=>k _ _ _ _ p ((s1.trans s2).trans s3) r⟩⟩
instance nv_meth {C:Addr}{m:Str}{sp:GSn}{E':XK}{t:TA}{gt:GA} [A:EV true ta g] [B:AV true t gt]:NV (Ji8 C m (Z9 sp) [] E' ta t) (Jzh C m sp g gt):=⟨λ {S ex env σ H n Q P} E h k=>A.ev E h λ d n1 v H1 h1 s1 r1=>by
 obtain ⟨⟨ns,ds,rfl,hl,hm⟩,h2⟩:=h1
 obtain ⟨a,dx,fs,rfl,e,hf⟩:=Jtt hl hm r1
 refine ⟨a,dx,fs,rfl,e,hf,B.av (E.step s1) h2 λ as n2 vs H2 h3 s2 r2=>?_⟩
 rw [Uu]
 exact ⟨S,ex,.d (.dict (Jba C ns ds))::as,n2,_,⟨⟨_,rfl,(E.step s1).repm true s2 r1⟩,r2⟩,E.ch,(E.step (s1.trans s2)).al,s2.2,h3,λ ds n' a ws H' p s3 ha hl hz r=>k _ _ _ _ _ p ((s1.trans s2).trans s3) ((s1.trans s2).free ha) hl hz r⟩⟩
end
noncomputable def Jwa:Stmt->List Stmt
 | .ClassDef (body:=b) ..=>b
 | _=>[]
noncomputable abbrev St':=Int×List Int
noncomputable abbrev Kn:=List (Int×St')
end My
namespace L2
open My
section
variable {X:Cx}{x:Str}{e:Expr}{es:List Expr}{p pos:Pos}{t:TA}{k:Nat}{ps:List Str}{sp:Sp}{i:Int}{E:XK}
end
end L2
namespace My
open L2
section
variable {i:Nat}{sp:GSx}{t:TA}{gt:GA}{tv:TE}{gv:GE}{d:Int}{b:Bool}{E':XK}
end
theorem Jfc:∀ xs gs:List Int,Vf (xs.map Qp) (gs.map Qp)=(xs.zip gs).map λ p=>.tuple [.int p.1,.int p.2]
 | [],_=>by simp [Vf]
 | _::_,[]=>by simp [Vf]
 | x::xs,g::gs=>by
  rw [Qz,Qz,J6w,Qz,<- Jfc xs gs]
  simp [Vf]
theorem Jd6 {β:Type}{turn:J9i->Nat->(Option J9i->Nat->Prop)->Prop}{n:Nat}{g h:β->J9i}{p:β->Bool}:∀ {ks:List β}{Q:List J9i->Nat->Prop},(∀ k∈ks,∀ K:Option J9i->Nat->Prop,(p k=true->K (some (h k)) n)->(p k=false->K none n)->turn (g k) n K)->Q ((ks.filter p).map h) n->Jc8 turn (ks.map g) n Q
 | [],_,_,q=>q
 | k::ks,Q,ht,q=>by
  refine ht k Qg _ (λ c=>?_) (λ c=>?_)
  . rw [J6g c] at q
    exact Jd6 (λ k hk=>ht k (Qh _ hk)) q
  . rw [J6h (by rw [c];exact Q6)] at q
    exact Jd6 (λ k hk=>ht k (Qh _ hk)) q
section
variable {K:Qc}{C:Addr}{s0:St'}{p:Kn}{Q:J9i->Prop}
end
section
variable {x t:Int}{xr gr:List Int}{N:Nat}
end
theorem Jmo {k:Int}:(Qr k.toNat [Qp 0]).flatten=(Qr k.toNat (0:Int)).map .int:=by
 rw [Jd1,J2r]
end My
namespace Tb
abbrev Vec:=Nat->Int
noncomputable def Jo:Nat->(Nat->Int)->Int
 | 0,_=>0
 | n+1,f=>Jo n f+f n
theorem Jp {n:Nat}{f g:Nat->Int}(h:∀ i,i<n->f i=g i):Jo n f=Jo n g:=by
 induction n with
 | zero=>rfl
 | succ n ih=>rw [Jo,Jo,ih λ i hi=>h i (by omega),h n (by omega)]
theorem Z2 (n:Nat):Jo n (λ _=>0)=0:=by
 induction n with
 | zero=>rfl
 | succ n ih=>rw [Jo,ih];rfl
theorem Wx (n:Nat) (f g:Nat->Int):Jo n (λ i=>f i+g i)=Jo n f+Jo n g:=by
 induction n with
 | zero=>rfl
 | succ n ih=>rw [Jo,Jo,Jo,ih];omega
theorem Z1 (n:Nat) (c:Int) (f:Nat->Int):Jo n (λ i=>c*f i)=c*Jo n f:=by
 induction n with
 | zero=>simp [Jo]
 | succ n ih=>rw [Jo,Jo,ih,J34]
theorem Jjr (n:Nat) (c:Int) (f:Nat->Int):Jo n (λ i=>f i*c)=Jo n f*c:=by
 rw [Xx,<- Z1];exact Jp λ i _=>Xx _ _
theorem Vi (n:Nat) (f:Nat->Int):Jo n (λ i=>-f i) = -Jo n f:=by
 induction n with
 | zero=>rfl
 | succ n ih=>rw [Jo,Jo,ih];omega
theorem Yj {n a:Nat}{f:Nat->Int}(ha:a<n) (h:∀ i,i<n->i≠a->f i=0):Jo n f=f a:=by
 induction n with
 | zero=>omega
 | succ n ih=>
  rw [Jo]
  by_cases e:a=n
  . subst e
    have:Jo a f=0:=by rw [Jp (g:=λ _=>0) λ i hi=>h i (by omega) (by omega),Z2]
    rw [this];omega
  . rw [ih (by omega) λ i hi hne=>h i (by omega) hne,h n (by omega) λ z=>e z.symm];omega
theorem Jmp {n a b:Nat}{f:Nat->Int}(ha:a<n) (hb:b<n) (hab:a≠b) (h:∀ i,i<n->i≠a->i≠b->f i=0):Jo n f=f a+f b:=by
 have e:Jo n f=Jo n (λ i=>(if i=a then f a else 0)+(if i=b then f b else 0)):=Jp λ i hi=>by
  by_cases h1:i=a
  . subst h1;rw [if_pos rfl,if_neg hab];omega
  . by_cases h2:i=b
    . subst h2;rw [if_neg h1,if_pos rfl];omega
    . rw [if_neg h1,if_neg h2,h i hi h1 h2];rfl
 rw [e,Wx,Yj (a:=a) ha (λ i _ hi=>if_neg hi),Yj (a:=b) hb (λ i _ hi=>if_neg hi),if_pos rfl,if_pos rfl]
theorem Jfd (n m:Nat) (f:Nat->Nat->Int):Jo n (λ i=>Jo m (λ j=>f i j))=Jo m (λ j=>Jo n (λ i=>f i j)):=by
 induction n with
 | zero=>show 0=Jo m (λ _=>0);rw [Z2]
 | succ n ih=>
  show Jo n _+Jo m (λ j=>f n j)=Jo m (λ j=>Jo n (λ i=>f i j)+f n j)
  rw [ih,Wx]
noncomputable def sg (j:Nat):Int:=if j%2=0 then 1 else -1
theorem Jwb (j:Nat):sg (j+1) = -sg j:=by unfold sg;split<;>split<;>omega
noncomputable def atV (vs:List Vec) (j:Nat):Vec:=vs.getD j (λ _=>0)
noncomputable def D:Nat->List Vec->Int
 | 0,_=>1
 | k+1,vs=>Jo vs.length λ j=>sg (j+k)*atV vs j k*D k (vs.eraseIdx j)
theorem Yu {vs:List Vec}{a:Nat}{v:Vec}(h:a<vs.length):atV (vs.set a v) a=v:=by
 unfold atV;rw [Qi,Q8 h];rfl
theorem Yk {vs:List Vec}{a b:Nat}{v:Vec}(h:a≠b):atV (vs.set a v) b=atV vs b:=by
 unfold atV;rw [Qi,Q9 h,<- Qi]
theorem B9 (vs:List Vec) (a:Nat) (v:Vec):(vs.set a v).eraseIdx a=vs.eraseIdx a:=by
 induction vs generalizing a with
 | nil=>rfl
 | cons x vs ih=>cases a with
  | zero=>rfl
  | succ a=>show x::(vs.set a v).eraseIdx a=_;rw [ih];rfl
theorem Jbg (vs:List Vec) {a j:Nat}(v:Vec) (h:j<a):(vs.set a v).eraseIdx j=(vs.eraseIdx j).set (a-1) v:=by
 induction vs generalizing a j with
 | nil=>rfl
 | cons x vs ih=>
  cases a with
  | zero=>omega
  | succ a=>
   cases j with
   | zero=>rfl
   | succ j=>
    show x::(vs.set a v).eraseIdx j=(x::vs.eraseIdx j).set (a+1-1) v
    rw [ih (by omega)]
    obtain ⟨b,rfl⟩:∃ b,a=b+1:=⟨a-1,by omega⟩
    rfl
theorem Jbh (vs:List Vec) {a j:Nat}(v:Vec) (h:a<j):(vs.set a v).eraseIdx j=(vs.eraseIdx j).set a v:=by
 induction vs generalizing a j with
 | nil=>rfl
 | cons x vs ih=>
  cases j with
  | zero=>omega
  | succ j=>
   cases a with
   | zero=>rfl
   | succ a=>show x::(vs.set a v).eraseIdx j=x::(vs.eraseIdx j).set a v;rw [ih (by omega)]
theorem Jkz:∀ (k:Nat) (vs us:List Vec),vs.length=us.length->(∀ j,j<vs.length->∀ r,r<k->atV vs j r=atV us j r)->D k vs=D k us
 | 0,_,_,_,_=>rfl
 | k+1,vs,us,hl,h=>by
  rw [D,D,hl]
  refine Jp λ j hj=>?_
  rw [h j (by omega) k (by omega)]
  congr 1
  refine Jkz k _ _ (by rw [Uh (by omega),Uh hj,hl]) λ i hi r hr=>?_
  rw [Uh (by omega)] at hi
  have e:∀ ws:List Vec,atV (ws.eraseIdx j) i=if i<j then atV ws i else atV ws (i+1):=λ ws=>by
   unfold atV
   rw [Qi,J35]
   split<;>rw [<- Qi]
  rw [e,e]
  split
  . exact h i (by omega) r (by omega)
  . exact h (i+1) (by omega) r (by omega)
theorem Jhu:∀ (k:Nat) (vs:List Vec) (a:Nat) (c d:Int) (u w:Vec),a<vs.length->vs.length=k->D k (vs.set a λ r=>c*u r+d*w r)=c*D k (vs.set a u)+d*D k (vs.set a w)
 | 0,vs,a,_,_,_,_,h,hk=>by omega
 | k+1,vs,a,c,d,u,w,h,hk=>by
  rw [D,D,D,Qs,Qs,Qs,<- Z1,<- Z1,<- Wx]
  refine Jp λ j hj=>?_
  rcases J6x j a with z | z | z
  . rw [Yk (by omega),Yk (by omega),Yk (by omega),Jbg vs _ z,Jbg vs _ z,Jbg vs _ z,Jhu k _ (a-1) c d u w (by rw [Uh hj];omega) (by rw [Uh hj];omega)]
    rw [J34,U7 _ c,U7 _ d]
  . subst z
    rw [Yu h,Yu h,Yu h,B9,B9,B9]
    rw [J34,Int.add_mul,U7 (sg (j+k)) c,U7 (sg (j+k)) d,U8 c,U8 d]
  . rw [Yk (by omega),Yk (by omega),Yk (by omega),Jbh vs _ z,Jbh vs _ z,Jbh vs _ z,Jhu k _ a c d u w (by rw [Uh hj];omega) (by rw [Uh hj];omega)]
    rw [J34,U7 _ c,U7 _ d]
theorem Jpx:∀ (k:Nat) (vs:List Vec) (a:Nat),a+1<vs.length->vs.length=k->atV vs a=atV vs (a+1)->D k vs=0
 | 0,vs,a,h,hk,_=>by omega
 | k+1,vs,a,h,hk,e=>by
  have er:vs.eraseIdx a=vs.eraseIdx (a+1):=by
   apply X5
   intro i
   rw [J35,J35]
   by_cases c1:i<a
   . rw [if_pos c1,if_pos (by omega)]
   . rw [if_neg c1]
     by_cases c2:i=a
     . subst c2
       rw [if_pos (by omega),Qf h,Qf (show i<vs.length by omega)]
       unfold atV at e
       rw [Qi,Qi,Qf h,Qf (show i<vs.length by omega)] at e
       exact congrArg some e.symm
     . rw [if_neg (by omega)]
  rw [D,Jmp (a:=a) (b:=a+1) (by omega) h (by omega) λ j hj h1 h2=>?_]
  . rw [show a+1+k=a+k+1 by omega,Jwb,<- er,e,J4z,J4z];omega
  . have:D k (vs.eraseIdx j)=0:=by
     have el:∀ i,atV (vs.eraseIdx j) i=if i<j then atV vs i else atV vs (i+1):=λ i=>by
      unfold atV
      rw [Qi,J35]
      split<;>rw [<- Qi]
     rcases Ud j a with z | z
     . refine Jpx k _ (a-1) (by rw [Uh hj];omega) (by rw [Uh hj];omega) ?_
       rw [el,el,if_neg (by omega),if_neg (by omega),show a-1+1=a by omega];exact e
     . refine Jpx k _ a (by rw [Uh hj];omega) (by rw [Uh hj];omega) ?_
       rw [el,el,if_pos (by omega),if_pos (by omega)];exact e
    rw [this,Xv]
theorem Jk0 (vs:List Vec) {a:Nat}(h:a<vs.length):vs.set a (atV vs a)=vs:=by
 unfold atV
 rw [Qi,Qf h]
 exact List.set_getElem_self h
theorem Jtu {k:Nat}{vs:List Vec}{a:Nat}(u w:Vec) (h:a<vs.length) (hk:vs.length=k):D k (vs.set a λ r=>u r+w r)=D k (vs.set a u)+D k (vs.set a w):=by
 have:=Jhu k vs a 1 1 u w h hk
 rw [Uy,Uy] at this
 rw [<- this]
 congr 1;congr 1;funext r
 rw [Uy,Uy]
theorem Jpy {k:Nat}{vs:List Vec}{a b:Nat}(ha:a<vs.length) (hb:b<vs.length) (hab:a≠b) (hk:vs.length=k) (zero:∀ us:List Vec,us.length=k->atV us a=atV us b->D k us=0) (u w:Vec):D k ((vs.set a u).set b w) = -D k ((vs.set a w).set b u):=by
 have la:∀ (x:Vec),a<(vs.set b x).length:=λ x=>by rw [Qs];exact ha
 have lb:∀ (x:Vec),b<(vs.set a x).length:=λ x=>by rw [Qs];exact hb
 have z:∀ x:Vec,D k ((vs.set a x).set b x)=0:=λ x=>zero _ (by rw [Qs,Qs];exact hk) (by rw [Yk (Qj hab),Yu ha,Yu (lb x)])
 have h1:=z (λ r=>u r+w r)
 rw [Jtu u w (lb _) (by rw [Qs];exact hk)] at h1
 have c:∀ x y:Vec,(vs.set a x).set b y=(vs.set b y).set a x:=λ x y=>J7c _ _ hab
 rw [c,c,Jtu u w (la _) (by rw [Qs];exact hk),Jtu u w (la _) (by rw [Qs];exact hk),<- c,<- c,<- c,<- c,z u,z w] at h1
 omega
theorem Jtv {k:Nat}:∀ (d a:Nat) (vs:List Vec),a+d+1<vs.length->vs.length=k->atV vs a=atV vs (a+d+1)->D k vs=0
 | 0,a,vs,h,hk,e=>Jpx k vs a h hk e
 | d+1,a,vs,h,hk,e=>by
  have hz:∀ us:List Vec,us.length=k->atV us (a+d+1)=atV us (a+d+2)->D k us=0:=λ us hu he=>Jpx k us (a+d+1) (by omega) hu he
  have p:=Jpy (vs:=vs) (a:=a+d+1) (b:=a+d+2) (by omega) (by omega) (by omega) hk hz (atV vs (a+d+1)) (atV vs (a+d+2))
  rw [Jk0 vs (by omega),Jk0 vs (by omega)] at p
  rw [p,Jtv d a _ (by rw [Qs,Qs];omega) (by rw [Qs,Qs];exact hk) ?_]
  . rfl
  . rw [Yk (by omega),Yk (by omega),Yk (by omega),Yu (by omega)]
    exact e
theorem Jtw {k:Nat}{vs:List Vec}{a b:Nat}(ha:a<vs.length) (hb:b<vs.length) (hab:a≠b) (hk:vs.length=k) (e:atV vs a=atV vs b):D k vs=0:=by
 rcases J6x a b with z | z | z
 . exact Jtv (b-a-1) a vs (by omega) hk (by rw [show a+(b-a-1)+1=b by omega];exact e)
 . exact absurd z hab
 . exact Jtv (a-b-1) b vs (by omega) hk (by rw [show b+(a-b-1)+1=a by omega];exact e.symm)
theorem Jzi {k:Nat}{vs:List Vec}{a b:Nat}(ha:a<vs.length) (hb:b<vs.length) (hab:a≠b) (hk:vs.length=k) (u w:Vec):D k ((vs.set a u).set b w) = -D k ((vs.set a w).set b u):=
 Jpy ha hb hab hk (λ us hu he=>Jtw (by omega) (by omega) hab hu he) u w
theorem Jxx {k:Nat}{vs:List Vec}{a:Nat}(ha:a<vs.length) (hk:vs.length=k) (c:Nat->Int) (u:Nat->Vec):∀ n,D k (vs.set a λ r=>Jo n λ i=>c i*u i r)=Jo n λ i=>c i*D k (vs.set a (u i))
 | 0=>by
  have:=Jhu k vs a 0 0 (λ _=>0) (λ _=>0) ha hk
  simp only [X1,J6y] at this
  exact this
 | n+1=>by
  have:=Jhu k vs a 1 (c n) (λ r=>Jo n λ i=>c i*u i r) (u n) ha hk
  rw [Uy,Jxx ha hk c u n] at this
  show D k (vs.set a λ r=>Jo n (λ i=>c i*u i r)+c n*u n r)=Jo n (λ i=>c i*D k (vs.set a (u i)))+c n*D k (vs.set a (u n))
  rw [<- this]
  congr 1;congr 1;funext r
  rw [Uy]
theorem Jpz {k:Nat}{vs:List Vec}{a:Nat}(ha:a<vs.length) (hk:vs.length=k) (c:Int) (u:Vec):D k (vs.set a λ r=>c*u r)=c*D k (vs.set a u):=by
 have:=Jhu k vs a c 0 u (λ _=>0) ha hk
 simp only [X1,J6y] at this
 exact this
theorem Jtx {k:Nat}{vs:List Vec}{a:Nat}(ha:a<vs.length) (hk:vs.length=k) (h:∀ r,r<k->atV vs a r=0):D k vs=0:=by
 have:=Jpz ha hk 0 (atV vs a)
 rw [X1] at this
 rw [<- this]
 refine Jkz k _ _ (by rw [Qs]) λ j hj r hr=>?_
 by_cases e:a=j
 . subst e;rw [Yu ha,h r hr,X1]
 . rw [Yk e]
theorem Jty (k:Nat):sg (k+k)=1:=by unfold sg;rw [if_pos (by omega)]
noncomputable def cr (m:Nat) (B:List Vec) (i:Nat) (v:Vec):Int:=D m (B.set i v)
structure Base (m:Nat) (B:List Vec):Prop where
 len:B.length=m
 pos:0<D m B
 cra:∀ (v:Vec) (r:Nat),r<m->D m B*v r=Jo m λ i=>cr m B i v*atV B i r
section
variable {m:Nat}{B:List Vec}
theorem Jd7 (hB:B.length=m) {i:Nat}(hi:i<m):cr m B i (atV B i)=D m B:=by unfold cr;rw [Jk0 B (by omega)]
theorem Jd8 (hB:B.length=m) {i r:Nat}(hi:i<m) (hr:r<m) (h:i≠r):cr m B i (atV B r)=0:=by
 unfold cr
 refine Jtw (a:=i) (b:=r) (by rw [Qs];omega) (by rw [Qs];omega) h (by rw [Qs];exact hB) ?_
 rw [Yu (by omega),Yk h]
theorem Jhv (hB:B.length=m) {i:Nat}(hi:i<m) {v w:Vec}(h:∀ r,r<m->v r=w r):cr m B i v=cr m B i w:=by
 unfold cr
 refine Jkz m _ _ (by rw [Qs,Qs]) λ j hj r hr=>?_
 by_cases e:i=j
 . subst e;rw [Yu (by omega),Yu (by omega)];exact h r hr
 . rw [Yk e,Yk e]
theorem Jzj (hB:B.length=m) {i:Nat}(hi:i<m) (c d:Int) (v w:Vec):cr m B i (λ r=>c*v r+d*w r)=c*cr m B i v+d*cr m B i w:=Jhu m B i c d v w (by omega) hB
theorem Jmq (hB:B.length=m) {i:Nat}(hi:i<m) (c:Int) (v:Vec):cr m B i (λ r=>c*v r)=c*cr m B i v:=Jpz (by omega) hB c v
theorem Jk1 (hB:B.length=m) {i:Nat}(hi:i<m) (c:Nat->Int) (u:Nat->Vec) (n:Nat):cr m B i (λ r=>Jo n λ j=>c j*u j r)=Jo n λ j=>c j*cr m B i (u j):=Jxx (by omega) hB c u n
theorem Jd9 (hb:Base m B) {l i:Nat}(hl:l<m) (hi:i<m) (hil:i≠l) (c v:Vec):D m B*cr m (B.set l c) i v=cr m B l c*cr m B i v-cr m B i c*cr m B l v:=by
 have hB:=hb.len
 have hB':(B.set l c).length=m:=by rw [Qs];exact hB
 rw [<- Jmq hB' hi,Jhv hB' hi (hb.cra v)]
 rw [Jk1 hB' hi]
 rw [Jmp (a:=i) (b:=l) hi hl hil λ r hr h1 h2=>?_]
 . have e1:cr m (B.set l c) i (atV B i)=cr m B l c:=by
    have:atV B i=atV (B.set l c) i:=(Yk (Qj hil)).symm
    rw [this,Jd7 hB' hi];rfl
   have e2:cr m (B.set l c) i (atV B l) = -cr m B i c:=by
    unfold cr
    rw [Jzi (a:=l) (b:=i) (by omega) (by omega) (Qj hil) hB c (atV B l)]
    rw [Jk0 B (by omega)]
   rw [e1,e2,Xx (cr m B i v),J40,Xx (cr m B l v)];omega
 . have:atV B r=atV (B.set l c) r:=(Yk (Qj h2)).symm
   rw [this,Jd8 hB' hi hr (Qj h1),Xv]
theorem Jk2 (hB:B.length=m) {l:Nat}(hl:l<m) (c v:Vec):cr m (B.set l c) l v=cr m B l v:=by
 unfold cr
 rw [J6m]
theorem Base.swap (hb:Base m B) {l:Nat}(hl:l<m) {c:Vec}(hp:0<cr m B l c):Base m (B.set l c):=by
 have hB:=hb.len
 have hq:=hb.pos
 refine ⟨by rw [Qs];exact hB,hp,λ v r hr=>?_⟩
 refine J8l (J6z hq) ?_
 rw [<- Z1]
 have e0:D m (B.set l c)=cr m B l c:=rfl
 rw [e0,U7,hb.cra v r hr]
 have step:∀ i,i<m->D m B*(cr m (B.set l c) i v*atV (B.set l c) i r)=cr m B l c*(cr m B i v*atV B i r)+(if i=l then cr m B l v*(D m B*c r)-cr m B l v*(cr m B l c*atV B l r) else -(cr m B l v*(cr m B i c*atV B i r))):=λ i hi=>by
  by_cases e:i=l
  . subst e
    rw [if_pos rfl,Jk2 hB hi,Yu (by omega),U7,U7 (cr m B i c)]
    omega
  . rw [if_neg e,Yk (Qj e),<- U8,Jd9 hb hl hi e,J60,U8,Xx (cr m B i c),U8]
    omega
 rw [Jp step,Wx,Z1]
 have key:Jo m (λ i=>if i=l then cr m B l v*(D m B*c r)-cr m B l v*(cr m B l c*atV B l r) else -(cr m B l v*(cr m B i c*atV B i r)))=0:=by
  have e2:∀ i,i<m->(if i=l then cr m B l v*(D m B*c r)-cr m B l v*(cr m B l c*atV B l r) else -(cr m B l v*(cr m B i c*atV B i r)))=(if i=l then cr m B l v*(D m B*c r) else 0) + -(cr m B l v*(cr m B i c*atV B i r)):=λ i _=>by
   by_cases e:i=l
   . subst e;rw [if_pos rfl,if_pos rfl];omega
   . rw [if_neg e,if_neg e];omega
  rw [Jp e2,Wx,Yj (a:=l) hl (λ i _ hi=>if_neg hi),if_pos rfl,Vi,Z1,<- hb.cra c r hr]
  omega
 rw [key];omega
noncomputable def Va (i:Nat):Vec:=λ r=>if r=i then 1 else 0
end
theorem Jaz (vs:List Vec) (j i:Nat):atV (vs.eraseIdx j) i=if i<j then atV vs i else atV vs (i+1):=by
 unfold atV
 rw [Qi,J35]
 split<;>rw [<- Qi]
theorem Jbi:∀ (k:Nat) (vs:List Vec) (i:Nat),vs.length=k->i<k->(∀ j,j<k->j≠i->atV vs j=Va j)->D k vs=atV vs i i
 | 0,_,_,_,h,_=>by omega
 | k+1,vs,i,hl,hi,hu=>by
  rw [D,hl]
  have le:∀ j,j<k+1->(vs.eraseIdx j).length=k:=λ j hj=>by rw [Uh (by omega)];omega
  by_cases e:i=k
  . subst e
    have one:D i (vs.eraseIdx i)=1:=by
     cases i with
     | zero=>rfl
     | succ i=>
      rw [Jbi (i+1) _ 0 (le _ (by omega)) (by omega) λ j hj _=>?_,Jaz,if_pos (by omega),hu 0 (by omega) (by omega)]
      . rfl
      . rw [Jaz,if_pos hj,hu j (by omega) (by omega)]
    rw [Yj (a:=i) (by omega) λ j hj hne=>?_,Jty,one]
    . omega
    . rw [hu j hj hne]
      have:Va j i=0:=if_neg (by omega)
      rw [this,Xv,X1]
  . have hik:i<k:=by omega
    rw [Yj (a:=k) (by omega) λ j hj hne=>?_,Jty,hu k (by omega) (λ z=>e z.symm),Jbi k _ i (le k (by omega)) hik λ j hj hne=>?_,Jaz,if_pos hik]
    . have:Va k k=1:=if_pos rfl
      rw [this];omega
    . rw [Jaz,if_pos hj,hu j (by omega) hne]
    . by_cases ej:j=i
      . subst ej
        rw [Jtx (a:=k-1) (by rw [le j hj];omega) (le j hj) λ r hr=>?_,Xv]
        rw [Jaz,if_neg (by omega),show k-1+1=k by omega,hu k (by omega) (by omega)]
        exact if_neg (by omega)
      . rw [hu j hj ej]
        have:Va j k=0:=if_neg (by omega)
        rw [this,Xv,X1]
noncomputable def Jca (m:Nat):List Vec:=(Qn m).map Va
theorem Jea {m i:Nat}(h:i<m):atV (Jca m) i=Va i:=by
 unfold atV Jca
 rw [Qi,Qk,Xs h];rfl
theorem Jk3 {m i:Nat}(h:i<m) (v:Vec):cr m (Jca m) i v=v i:=by
 have hl:(Jca m).length=m:=by unfold Jca;rw [Qb,Q2]
 unfold cr
 rw [Jbi m _ i (by rw [Qs];exact hl) h λ j hj hne=>by rw [Yk (Qj hne),Jea hj]]
 rw [Yu (by omega)]
theorem Jom (m:Nat):D m (Jca m)=1:=by
 cases m with
 | zero=>rfl
 | succ m=>
  have hl:(Jca (m+1)).length=m+1:=by unfold Jca;rw [Qb,Q2]
  rw [Jbi (m+1) _ 0 hl (by omega) λ j hj _=>Jea hj,Jea (by omega)];rfl
theorem Jre (m:Nat):Base m (Jca m):=by
 refine ⟨by unfold Jca;rw [Qb,Q2],by rw [Jom];decide,λ v r hr=>?_⟩
 rw [Jom,Uy,Yj (a:=r) hr λ i hi hne=>?_]
 . rw [Jk3 hr,Jea hr]
   have:Va r r=1:=if_pos rfl
   rw [this,J5h]
 . rw [Jea hi]
   have:Va i r=0:=if_neg (Qj hne)
   rw [this,Xv]
noncomputable def Jiq (b:Nat):Nat->Nat
 | 0=>1
 | k+1=>(k+1)*b*Jiq b k
theorem Jmr {n:Nat}{f:Nat->Int}{b:Nat}(h:∀ i,i<n->(f i).natAbs<=b):(Jo n f).natAbs<=n*b:=by
 induction n with
 | zero=>simp [Jo]
 | succ n ih=>
  rw [Jo,Nat.succ_mul]
  have h1:=ih λ i hi=>h i (by omega)
  have h2:=h n (by omega)
  have:=Int.natAbs_add_le (Jo n f) (f n)
  omega
theorem Jtz {b:Nat}:∀ (k:Nat) (vs:List Vec),vs.length=k->(∀ j,j<k->∀ r,r<k->(atV vs j r).natAbs<=b)->(D k vs).natAbs<=Jiq b k
 | 0,_,_,_=>Ql _
 | k+1,vs,hl,h=>by
  rw [D,hl,Jiq,Nat.mul_assoc]
  refine Jmr λ j hj=>?_
  rw [J8m,J8m]
  have s1:(sg (j+k)).natAbs=1:=by unfold sg;split<;>rfl
  rw [s1,Nat.one_mul]
  refine J8n (h j hj k (by omega)) (Jtz k _ (by rw [Uh (by omega)];omega) λ i hi r hr=>?_)
  rw [Jaz]
  split
  . exact h i (by omega) r (by omega)
  . exact h (i+1) (by omega) r (by omega)
structure Tab where
 fr:List Nat
 bd:List Nat
 rows:List (List Int)
 q:Int
noncomputable def Tab.f (T:Tab) (j:Nat):Nat:=T.fr.getD j 0
noncomputable def Tab.b (T:Tab) (i:Nat):Nat:=T.bd.getD i 0
noncomputable def Tab.row (T:Tab) (i:Nat):List Int:=T.rows.getD i []
noncomputable def Tab.e (T:Tab) (i j:Nat):Int:=(T.row i).getD j 0
noncomputable def Jcb (q:Int) (row other:List Int) (k:Nat):List Int:=(J4i (λ x y=>(row.getD k 0*x-other.getD k 0*y)/q) other row).set k (-(other.getD k 0))
noncomputable def Tab.ex (T:Tab) (l k:Nat):Tab:=⟨T.fr.set k (T.b l),T.bd.set l (T.f k),(T.rows.map λ o=>Jcb T.q (T.row l) o k).set l ((T.row l).set k T.q),T.e l k⟩
structure TabOk (m n:Nat) (c:Nat->Vec) (rhs:Vec) (T:Tab):Prop where
 lb:T.bd.length=m
 lf:T.fr.length=n
 lr:T.rows.length=m
 lw:∀ i,i<m->(T.row i).length=n+1
 base:Base m (T.bd.map c)
 qq:T.q=D m (T.bd.map c)
 en:∀ i,i<m->∀ j,j<n->T.e i j=cr m (T.bd.map c) i (c (T.f j))
 el:∀ i,i<m->T.e i n=cr m (T.bd.map c) i rhs
 bi:∀ i i',i<m->i'<m->T.b i=T.b i'->i=i'
 fi:∀ j j',j<n->j'<n->T.f j=T.f j'->j=j'
 ne:∀ i j,i<m->j<n->T.b i≠T.f j
section
variable {m n:Nat}{c:Nat->Vec}{rhs:Vec}{T:Tab}
theorem Zn {α:Type}{l:List α}{i:Nat}{x d:α}(h:i<l.length):(l.set i x).getD i d=x:=by rw [Qi,Q8 h];rfl
theorem Vb {α:Type}{l:List α}{i j:Nat}{x d:α}(h:i≠j):(l.set i x).getD j d=l.getD j d:=by rw [Qi,Q9 h,<- Qi]
theorem at_map {l:List Nat}{c:Nat->Vec}{i:Nat}(h:i<l.length):atV (l.map c) i=c (l.getD i 0):=by
 unfold atV
 rw [Qi,Qk,Qf h,Qi,Qf h];rfl
theorem Jt0 {f:Int->Int->Int}{xs ys:List Int}{j:Nat}(hx:j<xs.length) (hy:j<ys.length):(J4i f xs ys).getD j 0=f (xs.getD j 0) (ys.getD j 0):=by
 rw [Qi,J2q,Qf hx,Qf hy,Qi,Qi,Qf hx,Qf hy];rfl
theorem TabOk.qpos (h:TabOk m n c rhs T):0<T.q:=by rw [h.qq];exact h.base.pos
theorem TabOk.at_b (h:TabOk m n c rhs T) {i:Nat}(hi:i<m):atV (T.bd.map c) i=c (T.b i):=at_map (by rw [h.lb];exact hi)
theorem Jhw (h:TabOk m n c rhs T) {l k:Nat}(hl:l<m):(T.ex l k).row l=(T.row l).set k T.q:=by
 unfold Tab.ex Tab.row
 exact Zn (by rw [Qb,h.lr];exact hl)
theorem Jon (h:TabOk m n c rhs T) {l k i:Nat}(hi:i<m) (hil:i≠l):(T.ex l k).row i=Jcb T.q (T.row l) (T.row i) k:=by
 have hi':i<T.rows.length:=by rw [h.lr];exact hi
 show (((T.rows.map λ o=>Jcb T.q (T.row l) o k).set l _).getD i [])=Jcb T.q (T.row l) (T.rows.getD i []) k
 rw [Vb (Qj hil),Qi,Qk,Qf hi',Qi,Qf hi']
 rfl
theorem Jcc (h:TabOk m n c rhs T) {l k:Nat}(hk:k<n):(T.ex l k).f k=T.b l:=Zn (by rw [h.lf];exact hk)
theorem Jir {l k j:Nat}(hj:j≠k):(T.ex l k).f j=T.f j:=Vb (Qj hj)
theorem Jdd (h:TabOk m n c rhs T) {l k:Nat}(hl:l<m):(T.ex l k).b l=T.f k:=Zn (by rw [h.lb];exact hl)
theorem Jk4 {l k i:Nat}(hi:i≠l):(T.ex l k).b i=T.b i:=Vb (Qj hi)
theorem Jgh (l k:Nat):(T.ex l k).bd.map c=(T.bd.map c).set l (c (T.f k)):=by
 show (T.bd.set l (T.f k)).map c=_
 rw [X6]
theorem Jwc (h:TabOk m n c rhs T) {l k:Nat}(hl:l<m) (hk:k<n):(T.ex l k).e l k=T.q:=by
 unfold Tab.e
 rw [Jhw h hl,Zn (by rw [h.lw l hl];omega)]
theorem Jp0 (h:TabOk m n c rhs T) {l k j:Nat}(hl:l<m) (hj:j≠k):(T.ex l k).e l j=T.e l j:=by
 unfold Tab.e
 rw [Jhw h hl,Vb (Qj hj)]
theorem Jwd (h:TabOk m n c rhs T) {l k i:Nat}(hi:i<m) (hl:l<m) (hk:k<n) (hil:i≠l):(T.ex l k).e i k = -T.e i k:=by
 unfold Tab.e
 rw [Jon h hi hil]
 unfold Jcb
 rw [Zn (by rw [J4q,h.lw i hi,h.lw l hl];omega)]
theorem J1c (h:TabOk m n c rhs T) {l k i j:Nat}(hi:i<m) (hl:l<m) (hj:j<n+1) (hil:i≠l) (hjk:j≠k):(T.ex l k).e i j=(T.e l k*T.e i j-T.e i k*T.e l j)/T.q:=by
 unfold Tab.e
 rw [Jon h hi hil]
 unfold Jcb
 rw [Vb (Qj hjk),Jt0 (by rw [h.lw i hi];exact hj) (by rw [h.lw l hl];exact hj)]
theorem TabOk.ex (h:TabOk m n c rhs T) {l k:Nat}(hl:l<m) (hk:k<n) (hp:0<T.e l k):TabOk m n c rhs (T.ex l k):=by
 have hB:=h.base.len
 have el:T.e l k=cr m (T.bd.map c) l (c (T.f k)):=h.en l hl k hk
 have qne:T.q≠0:=J6z h.qpos
 have div:∀ {x y:Int},T.q*x=y->y/T.q=x:=λ {x y} e=>by rw [<- e,Int.mul_ediv_cancel_left _ qne]
 refine ⟨by show (T.bd.set l _).length=m;rw [Qs];exact h.lb,by show (T.fr.set k _).length=n;rw [Qs];exact h.lf,by show ((T.rows.map _).set l _).length=m;rw [Qs,Qb];exact h.lr,λ i hi=>?_,?_,?_,λ i hi j hj=>?_,λ i hi=>?_,λ i i' hi hi' e=>?_,λ j j' hj hj' e=>?_,λ i j hi hj e=>?_⟩
 . by_cases e:i=l
   . subst e;rw [Jhw h hi,Qs];exact h.lw i hi
   . rw [Jon h hi e]
     unfold Jcb
     rw [Qs,J4q,h.lw i hi,h.lw l hl];omega
 . rw [Jgh]
   exact h.base.swap hl (by rw [<- el];exact hp)
 . rw [Jgh];exact el
 . rw [Jgh]
   by_cases e:i=l
   . subst e
     rw [Jk2 hB hl]
     by_cases e2:j=k
     . subst e2
       rw [Jwc h hi hj,Jcc h hj,h.qq,<- h.at_b hi,Jd7 hB hi]
     . rw [Jp0 h hi e2,Jir e2];exact h.en i hi j hj
   . by_cases e2:j=k
     . subst e2
       rw [Jwd h hi hl hj e,Jcc h hj,h.en i hi j hj]
       have:=Jd9 h.base hl hi e (c (T.f j)) (c (T.b l))
       rw [<- h.at_b hl,Jd8 hB hi hl e,Jd7 hB hl,<- h.qq] at this
       refine (J8l qne ?_).symm
       rw [<- h.at_b hl,this,Xv,J40,Xx T.q];omega
     . rw [J1c h hi hl (by omega) e e2,Jir e2]
       refine div ?_
       rw [h.qq,Jd9 h.base hl hi e,<- el,<- h.en i hi j hj,<- h.en i hi k hk,<- h.en l hl j hj]
 . rw [Jgh]
   by_cases e:i=l
   . subst e
     rw [Jk2 hB hl,Jp0 h hi (by omega)];exact h.el i hi
   . rw [J1c h hi hl (by omega) e (by omega)]
     refine div ?_
     rw [h.qq,Jd9 h.base hl hi e,<- el,<- h.el i hi,<- h.en i hi k hk,<- h.el l hl]
 . by_cases a:i=l
   . by_cases b:i'=l
     . rw [a,b]
     . subst a
       rw [Jdd h hi,Jk4 b] at e
       exact absurd e.symm (h.ne i' k hi' hk)
   . by_cases b:i'=l
     . subst b
       rw [Jdd h hi',Jk4 a] at e
       exact absurd e (h.ne i k hi hk)
     . rw [Jk4 a,Jk4 b] at e
       exact h.bi i i' hi hi' e
 . by_cases a:j=k
   . by_cases b:j'=k
     . rw [a,b]
     . subst a
       rw [Jcc h hj,Jir b] at e
       exact absurd e (h.ne l j' hl hj')
   . by_cases b:j'=k
     . subst b
       rw [Jcc h hj',Jir a] at e
       exact absurd e.symm (h.ne l j hl hj)
     . rw [Jir a,Jir b] at e
       exact h.fi j j' hj hj' e
 . by_cases a:i=l
   . subst a
     rw [Jdd h hi] at e
     by_cases b:j=k
     . subst b;rw [Jcc h hj] at e;exact h.ne i j hi hj e.symm
     . rw [Jir b] at e
       exact b (h.fi k j hk hj e).symm
   . rw [Jk4 a] at e
     by_cases b:j=k
     . subst b;rw [Jcc h hj] at e;exact a (h.bi i l hi hl e)
     . rw [Jir b] at e;exact h.ne i j hi hj e
noncomputable def Tab.tot (T:Tab) (m n:Nat) (g:Nat->Int):Int:=Jo m (λ i=>g (T.b i))+Jo n (λ j=>g (T.f j))
theorem Jhx {n k:Nat}{f g:Nat->Int}(hk:k<n) (h:∀ i,i<n->i≠k->f i=g i):Jo n f=Jo n g+(f k-g k):=by
 have:Jo n f=Jo n (λ i=>g i+(if i=k then f k-g k else 0)):=Jp λ i hi=>by
  by_cases e:i=k
  . subst e;rw [if_pos rfl];omega
  . rw [if_neg e,h i hi e];omega
 rw [this,Wx,Yj (a:=k) hk (λ i _ hi=>if_neg hi),if_pos rfl]
theorem Jt1 (h:TabOk m n c rhs T) {l k:Nat}(hl:l<m) (hk:k<n) (g:Nat->Int):(T.ex l k).tot m n g=T.tot m n g:=by
 unfold Tab.tot
 rw [Jhx (k:=l) (f:=λ i=>g ((T.ex l k).b i)) (g:=λ i=>g (T.b i)) hl (λ i _ hne=>by rw [Jk4 hne]),Jhx (k:=k) (f:=λ j=>g ((T.ex l k).f j)) (g:=λ j=>g (T.f j)) hk (λ j _ hne=>by rw [Jir hne])]
 rw [Jdd h hl,Jcc h hk]
 omega
end
noncomputable def ind (W:List Nat) (ν:Nat) (x:Int):Int:=if ν∈W then x else 0
noncomputable def Tab.rise (T:Tab) (m:Nat) (W:List Nat) (j:Nat):Int:=ind W (T.f j) T.q-Jo m λ i=>ind W (T.b i) (T.e i j)
def Sol (m n:Nat) (c:Nat->Vec) (T:Tab) (x:Nat->Int):Prop:=∀ r,r<m->T.tot m n (λ ν=>x ν * c ν r)=0
theorem Jwe (W:List Nat) (ν:Nat) (a b:Int):ind W ν a*b=ind W ν (a*b):=by unfold ind;split;rfl;exact X1 _
theorem Jms (W:List Nat) (ν:Nat) (a b:Int):a*ind W ν b=ind W ν (a*b):=by unfold ind;split;rfl;exact Xv _
section
variable {m n:Nat}{c:Nat->Vec}{rhs:Vec}{T:Tab}{W:List Nat}{x:Nat->Int}
theorem Jwf (h:TabOk m n c rhs T) (s:Sol m n c T x) {i:Nat}(hi:i<m):T.q*x (T.b i) = -Jo n λ j=>T.e i j*x (T.f j):=by
 have hB:=h.base.len
 have z:cr m (T.bd.map c) i (λ r=>Jo m (λ t=>x (T.b t)*c (T.b t) r)+Jo n (λ j=>x (T.f j)*c (T.f j) r))=0:=by
  rw [Jhv hB hi (w:=λ r=>0*(λ _=>0:Vec) r) (λ r hr=>by rw [X1];exact s r hr),Jmq hB hi,X1]
 have e:=Jzj hB hi 1 1 (λ r=>Jo m (λ t=>x (T.b t)*c (T.b t) r)) (λ r=>Jo n (λ j=>x (T.f j)*c (T.f j) r))
 simp only [Uy] at e
 rw [z,Jk1 hB hi,Jk1 hB hi] at e
 rw [Yj (a:=i) hi (λ t ht hne=>by rw [<- h.at_b ht,Jd8 hB hi ht (Qj hne),Xv]),<- h.at_b hi,Jd7 hB hi,<- h.qq] at e
 have e2:Jo n (λ j=>x (T.f j)*cr m (T.bd.map c) i (c (T.f j)))=Jo n λ j=>T.e i j*x (T.f j):=Jp λ j hj=>by rw [h.en i hi j hj,Xx]
 rw [e2,Xx] at e
 omega
theorem Jhy (h:TabOk m n c rhs T) (s:Sol m n c T x):T.q*T.tot m n (λ ν=>ind W ν (x ν))=Jo n λ j=>T.rise m W j*x (T.f j):=by
 unfold Tab.tot
 rw [J34,<- Z1,<- Z1]
 have e1:Jo m (λ i=>T.q*ind W (T.b i) (x (T.b i))) = -Jo n (λ j=>Jo m (λ i=>ind W (T.b i) (T.e i j))*x (T.f j)):=by
  have:∀ i,i<m->T.q*ind W (T.b i) (x (T.b i)) = -Jo n (λ j=>ind W (T.b i) (T.e i j)*x (T.f j)):=λ i hi=>by
   rw [Jms,Jwf h s hi]
   by_cases w:T.b i∈W
   . unfold ind;rw [if_pos w]
     congr 1
     exact Jp λ j _=>by rw [if_pos w]
   . unfold ind;rw [if_neg w]
     rw [Jp (g:=λ _=>0) λ j _=>by rw [if_neg w,X1],Z2];rfl
  rw [Jp this,Vi,Jfd]
  congr 1
  exact Jp λ j _=>Jjr m (x (T.f j)) _
 rw [e1]
 have e2:Jo n (λ j=>T.rise m W j*x (T.f j))=Jo n (λ j=>T.q*ind W (T.f j) (x (T.f j)) + -(Jo m (λ i=>ind W (T.b i) (T.e i j))*x (T.f j))):=Jp λ j _=>by
  unfold Tab.rise
  rw [J60,Jwe,Jms];omega
 rw [e2,Wx,Vi]
 exact Int.add_comm _ _
noncomputable def Tab.dir (T:Tab) (m k:Nat) (ν:Nat):Int:=(if ν = T.f k then T.q else 0)-Jo m λ i=>if T.b i = ν then T.e i k else 0
theorem Jt2 (h:TabOk m n c rhs T) {k i:Nat}(hk:k<n) (hi:i<m):T.dir m k (T.b i) = -T.e i k:=by
 unfold Tab.dir
 rw [if_neg (h.ne i k hi hk),Yj (a:=i) hi (λ t ht hne=>if_neg λ z=>hne (h.bi t i ht hi z)),if_pos rfl];omega
theorem Jp1 (h:TabOk m n c rhs T) {k:Nat}(hk:k<n):T.dir m k (T.f k)=T.q:=by
 unfold Tab.dir
 rw [if_pos rfl,Jp (g:=λ _=>0) (λ i hi=>if_neg (h.ne i k hi hk)),Z2];omega
theorem Jt3 (h:TabOk m n c rhs T) {k j:Nat}(hk:k<n) (hj:j<n) (hne:j≠k):T.dir m k (T.f j)=0:=by
 unfold Tab.dir
 rw [if_neg (λ z=>hne (h.fi j k hj hk z)),Jp (g:=λ _=>0) (λ i hi=>if_neg (h.ne i j hi hj)),Z2];rfl
theorem Jgi (h:TabOk m n c rhs T) {k:Nat}(hk:k<n):Sol m n c T (T.dir m k):=λ r hr=>by
 unfold Tab.tot
 rw [Yj (f:=λ j=>T.dir m k (T.f j)*c (T.f j) r) (a:=k) hk (λ j hj hne=>by rw [Jt3 h hk hj hne,X1]),Jp1 h hk]
 rw [h.qq,h.base.cra (c (T.f k)) r hr,Jp (f:=λ i=>T.dir m k (T.b i)*c (T.b i) r) (g:=λ i=>-(cr m (T.bd.map c) i (c (T.f k))*atV (T.bd.map c) i r)) (λ i hi=>by rw [Jt2 h hk hi,h.at_b hi,h.en i hi k hk,J4z]),Vi]
 omega
theorem Jde (h:TabOk m n c rhs T) {k:Nat}(hk:k<n):T.tot m n (λ ν=>ind W ν (T.dir m k ν))=T.rise m W k:=by
 have e:=Jhy (W:=W) h (Jgi h hk)
 rw [Yj (a:=k) hk (λ j hj hne=>by rw [Jt3 h hk hj hne,Xv]),Jp1 h hk,Xx] at e
 exact Int.eq_of_mul_eq_mul_right (J6z h.qpos) e
theorem Jzk {T':Tab}(p:∀ g,T'.tot m n g=T.tot m n g):Sol m n c T x->Sol m n c T' x:=λ s r hr=>by rw [p];exact s r hr
structure Ys (m n:Nat) (W:List Nat) (T:Tab) (l k:Nat):Prop where
 hl:l<m
 hk:k<n
 rise:0<T.rise m W k
 first:∀ j,j<n->0<T.rise m W j->T.f k<=T.f j
 pos:0<T.e l k
 low:∀ i,i<m->0<T.e i k->T.b l<=T.b i
theorem W5 {n:Nat}{f:Nat->Int}(h:0<Jo n f):∃ j,j<n/\0<f j:=by
 induction n with
 | zero=>exact absurd h (by simp [Jo])
 | succ n ih=>
  rw [Jo] at h
  by_cases e:0<f n
  . exact ⟨n,by omega,e⟩
  . obtain ⟨j,hj,hp⟩:=ih (by omega)
    exact ⟨j,by omega,hp⟩
theorem Jrf {T T':Tab}{l k l' k':Nat}(h:TabOk m n c rhs T) (h':TabOk m n c rhs T') (p:∀ g,T'.tot m n g=T.tot m n g) (s:Ys m n W T l k) (s':Ys m n W T' l' k')
 (out:T.b l=T'.f k') (e1:T.f k<T.b l) (mid:∀ i j,i<m->j<n->T.b i=T'.f j->T.b i<=T.b l):False:=by
 have sol':Sol m n c T' (T.dir m k):=Jzk p (Jgi h s.hk)
 have w:=Jde (W:=W) h s.hk
 have w':=Jhy (W:=W) h' sol'
 rw [p,w] at w'
 have pos:0<T'.q*T.rise m W k:=Int.mul_pos h'.qpos s.rise
 rw [w'] at pos
 obtain ⟨j,hj,hp⟩:=W5 pos
 have nz:T.dir m k (T'.f j)≠0:=λ z=>by rw [z,Xv] at hp;exact absurd hp (by decide)
 have neg_of:∀ {a b:Int},0<a*b->a<=0->b<0:=λ {a b} hab ha=>by
  rcases Int.lt_trichotomy b 0 with z | z | z
  . exact z
  . rw [z,Xv] at hab;exact absurd hab (by decide)
  . have:a*b<=0:=J8o ha (by omega)
    omega
 have pos_of:∀ {a b:Int},0<a*b->0<b->0<a:=λ {a b} hab hb=>by
  rcases J4p 0 a with z | z
  . exact z
  . have:a*b<=0:=J8o z (by omega)
    omega
 by_cases ek:T'.f j=T.f k
 . rw [ek,Jp1 h s.hk] at hp
   have r1:=pos_of hp h.qpos
   have:=s'.first j hj r1
   omega
 . have:∃ i,i<m/\T.b i=T'.f j:=by
    refine J3k λ no=>nz ?_
    unfold Tab.dir
    rw [if_neg ek,Jp (g:=λ _=>0) (λ i hi=>if_neg λ z=>no ⟨i,hi,z⟩),Z2];rfl
   obtain ⟨i,hi,eb⟩:=this
   rw [<- eb,Jt2 h s.hk hi] at hp
   have le:=mid i j hi hj eb
   by_cases el:T.b i=T.b l
   . have il:=h.bi i l hi s.hl el
     subst il
     have jk:j=k':=h'.fi j k' hj s'.hk (by rw [<- eb,el];exact out)
     subst jk
     have:T'.rise m W j * -T.e i k<=0:=Int.mul_nonpos_of_nonneg_of_nonpos (Int.le_of_lt s'.rise) (by have:=s.pos;omega)
     omega
   . have r1:T'.rise m W j<=0:=by
      rcases J4p 0 (T'.rise m W j) with z | z
      . have:=s'.first j hj z
        omega
      . exact z
     have:=neg_of hp r1
     have:=s.low i hi (by omega)
     omega
end
structure Path (m n:Nat) (c:Nat->Vec) (rhs:Vec) (W:List Nat) (N:Nat) (st:Nat->Tab) (l k:Nat->Nat):Prop where
 ok:∀ t,t<=N->TabOk m n c rhs (st t)
 sp:∀ t,t<N->Ys m n W (st t) (l t) (k t)
 ex:∀ t,t<N->st (t+1)=(st t).ex (l t) (k t)
section
variable {m n:Nat}{c:Nat->Vec}{rhs:Vec}{W:List Nat}{N:Nat}{st:Nat->Tab}{l k:Nat->Nat}
def inB (m:Nat) (T:Tab) (ν:Nat):Prop:=∃ i,i<m/\T.b i = ν
theorem Path.tot (h:Path m n c rhs W N st l k) (g:Nat->Int):∀ t,t<=N->(st t).tot m n g=(st 0).tot m n g
 | 0,_=>rfl
 | t+1,ht=>by
  rw [h.ex t (by omega),Jt1 (h.ok t (by omega)) (h.sp t (by omega)).hl (h.sp t (by omega)).hk]
  exact h.tot g t (by omega)
theorem Path.stay (h:Path m n c rhs W N st l k) {t:Nat}(ht:t<N) {ν:Nat}:inB m (st (t+1)) ν↔(inB m (st t) ν/\ν≠(st t).b (l t))\/ν = (st t).f (k t):=by
 have o:=h.ok t (by omega)
 have s:=h.sp t ht
 rw [h.ex t ht]
 constructor
 . rintro ⟨i,hi,e⟩
   by_cases il:i=l t
   . subst il
     rw [Jdd o hi] at e
     exact .inr e.symm
   . rw [Jk4 il] at e
     exact .inl ⟨⟨i,hi,e⟩,λ z=>il (o.bi i (l t) hi s.hl (by rw [e,z]))⟩
 . rintro (⟨⟨i,hi,e⟩,ne⟩ | e)
   . have il:i≠l t:=λ z=>ne (by rw [<- e,z])
     exact ⟨i,hi,by rw [Jk4 il];exact e⟩
   . exact ⟨l t,s.hl,by rw [Jdd o s.hl];exact e.symm⟩
theorem Path.leave (h:Path m n c rhs W N st l k) {ν:Nat}:∀ (d s:Nat),s+d<=N->inB m (st s) ν->¬ inB m (st (s+d)) ν->∃ t,s<=t/\t<s+d/\(st t).b (l t) = ν
 | 0,s,_,h1,h2=>absurd h1 h2
 | d+1,s,hs,h1,h2=>by
  by_cases e:inB m (st (s+d)) ν
  . refine ⟨s+d,by omega,by omega,J3k λ z=>h2 ?_⟩
    exact (h.stay (t:=s+d) (by omega)).mpr (.inl ⟨e,λ y=>z y.symm⟩)
  . obtain ⟨t,a,b,e⟩:=h.leave d s (by omega) h1 e
    exact ⟨t,a,by omega,e⟩
theorem Path.enter (h:Path m n c rhs W N st l k) {ν:Nat}:∀ (d s:Nat),s+d<=N->¬ inB m (st s) ν->inB m (st (s+d)) ν->∃ t,s<=t/\t<s+d/\(st t).f (k t) = ν
 | 0,s,_,h1,h2=>absurd h2 h1
 | d+1,s,hs,h1,h2=>by
  by_cases e:inB m (st (s+d)) ν
  . obtain ⟨t,a,b,e⟩:=h.enter d s (by omega) h1 e
    exact ⟨t,a,by omega,e⟩
  . refine ⟨s+d,by omega,by omega,?_⟩
    rcases (h.stay (t:=s+d) (by omega)).mp h2 with z | z
    . exact absurd z.1 e
    . exact z.symm
theorem Path.lv (h:Path m n c rhs W N st l k) {s u:Nat}{ν:Nat}(hsu:s<=u) (hu:u<=N) (h1:inB m (st s) ν) (h2:¬ inB m (st u) ν):∃ t,s<=t/\t<u/\(st t).b (l t) = ν:=by
 have:=h.leave (ν:=ν) (u-s) s (by omega) h1 (by rw [show s+(u-s)=u by omega];exact h2)
 rwa [show s+(u-s)=u by omega] at this
theorem Path.en (h:Path m n c rhs W N st l k) {s u:Nat}{ν:Nat}(hsu:s<=u) (hu:u<=N) (h1:¬ inB m (st s) ν) (h2:inB m (st u) ν):∃ t,s<=t/\t<u/\(st t).f (k t) = ν:=by
 have:=h.enter (ν:=ν) (u-s) s (by omega) h1 (by rw [show s+(u-s)=u by omega];exact h2)
 rwa [show s+(u-s)=u by omega] at this
theorem Jt4 (f:Nat->Nat) (a:Nat):∀ d,∃ t,a<=t/\t<a+d+1/\∀ s,a<=s->s<a+d+1->f s<=f t
 | 0=>⟨a,Ql _,by omega,λ s h1 h2=>by rw [show s=a by omega];exact Ql _⟩
 | d+1=>by
  obtain ⟨t,h1,h2,h3⟩:=Jt4 f a d
  by_cases e:f t<=f (a+d+1)
  . refine ⟨a+d+1,by omega,by omega,λ s s1 s2=>?_⟩
    rcases Ud s (a+d+1) with z | z
    . exact Xl (h3 s s1 z) e
    . rw [show s=a+d+1 by omega];exact Ql _
  . refine ⟨t,h1,by omega,λ s s1 s2=>?_⟩
    rcases Ud s (a+d+1) with z | z
    . exact h3 s s1 z
    . rw [show s=a+d+1 by omega];omega
theorem Path.differ (h:Path m n c rhs W N st l k) {a b:Nat}(hab:a<b) (hb:b<=N):(st a).bd≠(st b).bd:=by
 intro same
 have sb:∀ ν,inB m (st a) ν↔inB m (st b) ν:=λ ν=>by unfold inB Tab.b;rw [same]
 obtain ⟨t0,h1,h2,h3⟩:=Jt4 (λ t=>max ((st t).b (l t)) ((st t).f (k t))) a (b-a-1)
 rw [show a+(b-a-1)+1=b by omega] at h2 h3
 have top:∀ t,a<=t->t<b->(st t).b (l t)<=max ((st t0).b (l t0)) ((st t0).f (k t0))/\(st t).f (k t)<=max ((st t0).b (l t0)) ((st t0).f (k t0)):=λ t x y=>by
  have:=h3 t x y
  exact ⟨by omega,by omega⟩
 have inl:∀ t,t<N->inB m (st t) ((st t).b (l t)):=λ t ht=>⟨l t,(h.sp t ht).hl,rfl⟩
 have notf:∀ t,t<N->¬ inB m (st t) ((st t).f (k t)):=λ t ht ⟨i,hi,e⟩=>(h.ok t (by omega)).ne i (k t) hi (h.sp t ht).hk e
 have outl:∀ t,t<N->¬ inB m (st (t+1)) ((st t).b (l t)):=λ t ht z=>by
  rcases (h.stay ht).mp z with z | z
  . exact z.2 rfl
  . exact (h.ok t (by omega)).ne (l t) (k t) (h.sp t ht).hl (h.sp t ht).hk z
 have inf:∀ t,t<N->inB m (st (t+1)) ((st t).f (k t)):=λ t ht=>(h.stay ht).mpr (.inr rfl)
 generalize hτ:max ((st t0).b (l t0)) ((st t0).f (k t0)) = τ at top
 have both:(∃ t1,a<=t1/\t1<b/\(st t1).b (l t1) = τ)/\∃ t2,a<=t2/\t2<b/\(st t2).f (k t2) = τ:=by
  rcases J58 ((st t0).b (l t0)) ((st t0).f (k t0)) with z | z
  . have e:(st t0).f (k t0) = τ:=by omega
    refine ⟨?_,t0,h1,h2,e⟩
    by_cases q:inB m (st b) τ
    . obtain ⟨t,x,y,w⟩:=h.lv (s:=a) (u:=t0) h1 (by omega) ((sb τ).mpr q) (by rw [<- e];exact notf t0 (by omega))
      exact ⟨t,x,by omega,w⟩
    . obtain ⟨t,x,y,w⟩:=h.lv (s:=t0+1) (u:=b) (by omega) hb (by rw [<- e];exact inf t0 (by omega)) q
      exact ⟨t,by omega,y,w⟩
  . have e:(st t0).b (l t0) = τ:=by omega
    refine ⟨⟨t0,h1,h2,e⟩,?_⟩
    by_cases q:inB m (st b) τ
    . obtain ⟨t,x,y,w⟩:=h.en (s:=t0+1) (u:=b) (by omega) hb (by rw [<- e];exact outl t0 (by omega)) q
      exact ⟨t,by omega,y,w⟩
    . obtain ⟨t,x,y,w⟩:=h.en (s:=a) (u:=t0) h1 (by omega) (λ z=>q ((sb τ).mp z)) (by rw [<- e];exact inl t0 (by omega))
      exact ⟨t,x,by omega,w⟩
 obtain ⟨⟨t1,x1,y1,w1⟩,t2,x2,y2,w2⟩:=both
 have o1:=h.ok t1 (by omega)
 have s1:=h.sp t1 (by omega)
 refine Jrf o1 (h.ok t2 (by omega)) (λ g=>by rw [h.tot g t2 (by omega),h.tot g t1 (by omega)]) s1 (h.sp t2 (by omega)) (by rw [w1,w2]) ?_ λ i j hi hj e=>?_
 . have:=(top t1 x1 y1).2
   have:=o1.ne (l t1) (k t1) s1.hl s1.hk
   omega
 . rw [w1]
   have b1:inB m (st t1) ((st t1).b i):=⟨i,hi,rfl⟩
   have b2:¬ inB m (st t2) ((st t1).b i):=λ ⟨i',hi',e'⟩=>(h.ok t2 (by omega)).ne i' j hi' hj (by rw [e',e])
   rcases Ud t1 t2 with z | z
   . obtain ⟨t,x,y,w⟩:=h.lv (Uz z) (by omega) b1 b2
     rw [<- w];exact (top t (by omega) (by omega)).1
   . obtain ⟨t,x,y,w⟩:=h.en z (by omega) b2 b1
     rw [<- w];exact (top t (by omega) (by omega)).2
end
noncomputable def Bm (K:Nat):List Nat->Nat
 | []=>0
 | x::l=>x+K*Bm K l
theorem Jp2 {K:Nat}:∀ {l:List Nat},(∀ x∈l,x<K)->Bm K l<K^l.length
 | [],_=>by simp [Bm]
 | x::l,h=>by
  have h1:=h x Qg
  have h2:=Jp2 (l:=l) λ y hy=>h y (Qh _ hy)
  rw [Bm,Xu,Nat.pow_succ,J5s (K^l.length)]
  have:K*Bm K l+K<=K*K^l.length:=by
   have:=Nat.mul_le_mul_left K h2
   rwa [J41] at this
  omega
theorem Jmt {K:Nat}:∀ {l l':List Nat},l.length=l'.length->(∀ x∈l,x<K)->(∀ x∈l',x<K)->Bm K l=Bm K l'->l=l'
 | [],[],_,_,_,_=>rfl
 | [],_::_,h,_,_,_=>by cases h
 | _::_,[],h,_,_,_=>by cases h
 | x::l,y::l',hl,h1,h2,e=>by
  have a:=h1 x Qg
  have b:=h2 y Qg
  rw [Bm,Bm] at e
  have em:(x+K*Bm K l)%K=(y+K*Bm K l')%K:=by rw [e]
  rw [J8p,J8p,J8q a,J8q b] at em
  subst em
  have ec:Bm K l=Bm K l':=by
   have:K*Bm K l=K*Bm K l':=by omega
   exact Nat.eq_of_mul_eq_mul_left (by omega) this
  rw [Jmt (by simpa using hl) (λ z hz=>h1 z (Qh _ hz)) (λ z hz=>h2 z (Qh _ hz)) ec]
theorem Path.bound {m n:Nat}{c:Nat->Vec}{rhs:Vec}{W:List Nat}{N:Nat}{st:Nat->Tab}{l k:Nat->Nat}{K:Nat}(h:Path m n c rhs W N st l k) (hK:∀ t,t<=N->∀ x∈(st t).bd,x<K):N<K^m:=by
 have nd:((Qn (N+1)).map λ t=>Bm K (st t).bd).Nodup:=by
  rw [List.Nodup,J32]
  refine J8i ?_ J6n
  intro a b ha hb hab e
  have ha:=Xj.mp ha
  have hb:=Xj.mp hb
  exact h.differ hab (by omega) (Jmt (by rw [(h.ok a (by omega)).lb,(h.ok b (by omega)).lb]) (hK a (by omega)) (hK b (by omega)) e)
 have:=My.nodup_le (K^m) _ nd λ x hx=>by
  obtain ⟨t,ht,rfl⟩:=Qo.mp hx
  have ht:=Xj.mp ht
  have:=Jp2 (hK t (by omega))
  rwa [(h.ok t (by omega)).lb] at this
 rw [Qb,Q2] at this
 omega
structure Cols (nw m:Nat) (c:Nat->Vec):Prop where
 un:∀ s,s<m->c (nw+s)=Va s
noncomputable def Be (nw m:Nat) (c:Nat->Vec) (rhs:Vec) (some:List Nat):Tab:=⟨some,(Qn m).map (nw + ·),(Qn m).map λ i=>some.map (λ k=>c k i)++[rhs i],1⟩
theorem range_getD {m i:Nat}{f:Nat->Nat}(h:i<m):((Qn m).map f).getD i 0=f i:=by
 rw [Qi,Qk,Xs h];rfl
section
variable {nw m:Nat}{c:Nat->Vec}{rhs:Vec}{some:List Nat}
theorem Jeb {i:Nat}(h:i<m):(Be nw m c rhs some).b i=nw+i:=range_getD h
theorem Jfe {i:Nat}(h:i<m):(Be nw m c rhs some).row i=some.map (λ k=>c k i)++[rhs i]:=by
 show ((Qn m).map λ i=>some.map (λ k=>c k i)++[rhs i]).getD i []=_
 rw [Qi,Qk,Xs h];rfl
theorem Jt5 (C:Cols nw m c) (hn:some.Nodup) (hs:∀ k∈some,k<nw):TabOk m some.length c rhs (Be nw m c rhs some):=by
 have hbd:((Be nw m c rhs some).bd.map c)=Jca m:=by
  show ((Qn m).map (nw + ·)).map c=_
  rw [Qy]
  exact Ug λ i hi=>C.un i (Xj.mp hi)
 have fj:∀ j,j<some.length->(Be nw m c rhs some).f j=some[j]!:=λ j hj=>by
  show some.getD j 0=_
  rw [Qi,Qf hj]
  simp [hj]
 have mem:∀ j,j<some.length->(Be nw m c rhs some).f j∈some:=λ j hj=>by
  show some.getD j 0∈some
  rw [Qi,Qf hj]
  exact Xp _
 refine ⟨by show ((Qn m).map _).length=m;rw [Qb,Q2],rfl,by show ((Qn m).map _).length=m;rw [Qb,Q2],λ i hi=>by rw [Jfe hi,Xc,Qb];rfl,by rw [hbd];exact Jre m,by rw [hbd,Jom];rfl,λ i hi j hj=>?_,λ i hi=>?_,λ i i' hi hi' e=>?_,λ j j' hj hj' e=>?_,λ i j hi hj e=>?_⟩
 . rw [hbd,Jk3 hi]
   unfold Tab.e
   rw [Jfe hi,Qi,Up (by rw [Qb];exact hj),Qk,Qf hj]
   show c some[j] i=c (some.getD j 0) i
   rw [Qi,Qf hj];rfl
 . rw [hbd,Jk3 hi]
   unfold Tab.e
   rw [Jfe hi,Qi,J2m (by rw [Qb];exact Ql _),Qb,J6l];rfl
 . rw [Jeb hi,Jeb hi'] at e;omega
 . have e:some.getD j 0=some.getD j' 0:=e
   rw [Qi,Qi,Qf hj,Qf hj'] at e
   exact (J5e hn).mp e
 . rw [Jeb hi] at e
   have:=hs _ (mem j hj)
   omega
theorem Jrg (g:Nat->Int):(Be nw m c rhs some).tot m some.length g=Jo m (λ s=>g (nw+s))+Jo some.length (λ j=>g (some.getD j 0)):=by
 unfold Tab.tot
 rw [Jp (f:=λ i=>g ((Be nw m c rhs some).b i)) λ i hi=>by rw [Jeb hi]]
 rfl
end
section
variable {nw m n:Nat}{c:Nat->Vec}{rhs:Vec}{T:Tab}{W:List Nat}
def inN (m n:Nat) (T:Tab) (ν:Nat):Prop:=(∃ i,i<m/\T.b i = ν)\/∃ j,j<n/\T.f j = ν
noncomputable def Tab.L (T:Tab) (m:Nat) (c:Nat->Vec) (W:List Nat) (v:Vec):Int:=Jo m λ i=>ind W (T.b i) (cr m (T.bd.map c) i v)
theorem Jt6 (h:TabOk m n c rhs T) {j:Nat}(hj:j<n):T.L m c W (c (T.f j))=ind W (T.f j) T.q-T.rise m W j:=by
 unfold Tab.L Tab.rise
 rw [Jp (g:=λ i=>ind W (T.b i) (T.e i j)) λ i hi=>by rw [h.en i hi j hj]]
 omega
theorem Jp3 (h:TabOk m n c rhs T) {t:Nat}(ht:t<m):T.L m c W (c (T.b t))=ind W (T.b t) T.q:=by
 unfold Tab.L
 rw [Yj (a:=t) ht λ i hi hne=>?_,<- h.at_b ht,Jd7 h.base.len ht,<- h.qq]
 rw [<- h.at_b ht,Jd8 h.base.len hi ht hne]
 unfold ind;split<;>rfl
theorem J1d (h:TabOk m n c rhs T) (v:Vec):T.L m c W v=Jo m λ s=>v s*T.L m c W (Va s):=by
 have hB:=h.base.len
 unfold Tab.L
 have:∀ i,i<m->ind W (T.b i) (cr m (T.bd.map c) i v)=Jo m λ s=>v s*ind W (T.b i) (cr m (T.bd.map c) i (Va s)):=λ i hi=>by
  have e:cr m (T.bd.map c) i v=Jo m λ s=>v s*cr m (T.bd.map c) i (Va s):=by
   rw [<- Jk1 hB hi]
   refine Jhv hB hi λ r hr=>?_
   rw [Yj (a:=r) hr λ s _ hne=>?_]
   . have:Va r r=1:=if_pos rfl
     rw [this,J5h]
   . have:Va s r=0:=if_neg (Qj hne)
     rw [this,Xv]
  rw [e]
  unfold ind
  split
  . rfl
  . rw [Jp (g:=λ _=>0) λ s _=>Xv _,Z2]
 rw [Jp this,Jfd]
 exact Jp λ s _=>Z1 m (v s) _
structure Last (m n:Nat) (W:List Nat) (T:Tab):Prop where
 no:∀ j,j<n->T.rise m W j<=0
theorem J2g (h:TabOk m n c rhs T) (l:Last m n W T) {ν:Nat}(i:inN m n T ν):ind W ν T.q<=T.L m c W (c ν):=by
 rcases i with ⟨i,hi,rfl⟩ | ⟨j,hj,rfl⟩
 . rw [Jp3 h hi];exact J3j _
 . rw [Jt6 h hj];have:=l.no j hj;omega
noncomputable def Tab.share (T:Tab) (m n:Nat) (W:List Nat) (ν:Nat):Int:=Jo n (λ j=>if T.f j = ν then -T.rise m W j else 0)+(if (∃ j,j<n/\T.f j = ν) then 0 else ind W ν T.q)
theorem Jdf (h:TabOk m n c rhs T) {j:Nat}(hj:j<n):T.share m n W (T.f j) = -T.rise m W j:=by
 unfold Tab.share
 rw [if_pos ⟨j,hj,rfl⟩,Yj (a:=j) hj λ i hi hne=>if_neg λ z=>hne (h.fi i j hi hj z),if_pos rfl];omega
theorem V7 (h:TabOk m n c rhs T) {i:Nat}(hi:i<m):T.share m n W (T.b i)=ind W (T.b i) T.q:=by
 unfold Tab.share
 rw [if_neg λ ⟨j,hj,e⟩=>h.ne i j hi hj e.symm,Jp (g:=λ _=>0) λ j hj=>if_neg λ e=>h.ne i j hi hj e.symm,Z2];omega
theorem Jwg (h:TabOk m n c rhs T) {ν:Nat}(i:inN m n T ν) (hw:ν∉W\/∃ i,i<m/\T.b i = ν):T.share m n W ν = T.L m c W (c ν):=by
 rcases i with ⟨i,hi,rfl⟩ | ⟨j,hj,rfl⟩
 . rw [V7 h hi,Jp3 h hi]
 . rw [Jdf h hj,Jt6 h hj]
   rcases hw with hw | ⟨i,hi,e⟩
   . unfold ind;rw [if_neg hw];omega
   . exact absurd e (h.ne i j hi hj)
theorem Jjs (C:Cols nw m c) (h:TabOk m n c rhs T) (l:Last m n W T) (hu:∀ s,s<m->inN m n T (nw+s)) (hw:∀ s,s<m->nw+s∉W\/∃ i,i<m/\T.b i=nw+s) {k:Nat}(hk:inN m n T k) :
 ind W k T.q<=Jo m (λ s=>c k s*T.share m n W (nw+s)):=by
 have e:Jo m (λ s=>c k s*T.share m n W (nw+s))=T.L m c W (c k):=by
  rw [J1d h]
  exact Jp λ s hs=>by rw [Jwg h (hu s hs) (hw s hs),C.un s hs]
 rw [e]
 exact J2g h l hk
theorem Jt7 (h:TabOk m n c rhs T) (l:Last m n W T) {ν:Nat}(i:inN m n T ν):0<=T.share m n W ν:=by
 rcases i with ⟨i,hi,rfl⟩ | ⟨j,hj,rfl⟩
 . rw [V7 h hi]
   unfold ind
   split
   . exact Int.le_of_lt h.qpos
   . exact J3j _
 . rw [Jdf h hj];have:=l.no j hj;omega
structure Ray (m n:Nat) (W:List Nat) (T:Tab) (k:Nat):Prop where
 hk:k<n
 rise:0<T.rise m W k
 no:∀ i,i<m->T.e i k<=0
theorem Jt8 (h:TabOk m n c rhs T) {k:Nat}(r:Ray m n W T k) (ν:Nat):0<=T.dir m k ν:=by
 unfold Tab.dir
 have:Jo m (λ i=>if T.b i = ν then T.e i k else 0)<=0:=by
  have:∀ M,M<=m->Jo M (λ i=>if T.b i = ν then T.e i k else 0)<=0:=by
   intro M
   induction M with
   | zero=>intro _;exact J3j _
   | succ M ih=>
    intro hM
    have a:=ih (by omega)
    have b:(if T.b M = ν then T.e M k else 0)<=0:=by
     split
     . exact r.no M (by omega)
     . exact J3j _
    show Jo M (λ i=>if T.b i = ν then T.e i k else 0)+(if T.b M = ν then T.e M k else 0)<=0
    omega
  exact this m (Ql _)
 have:=h.qpos
 split<;>omega
end
end Tb
namespace My
open L2
end My
namespace L2
variable {X:Cx}
end L2
namespace My
open L2
abbrev J2h (i j:Nat) (ga:GN):GS:=λ G env n=>ga env n λ ds n1=>∃ x y,ds=[x,y]/\G.nx ((env.set i (.d x)).set j (.d y)) n1
instance sv_par {i j:Nat}{t:TA}{gt:GN} [T:DV true t gt]:SV (Jz3 i j t) (J2h i j gt):=⟨λ {C G D} O {ex env σ H n} A h=>
 T.dv A.ev h λ ds n1 vs H1 h1 s1 r1=>by
  obtain ⟨x,y,rfl,q⟩:=h1
  cases r1 with
  | cons r1 r2=>
   cases r2 with
   | cons r2 r3=>
    cases r3
    exact ⟨_,_,rfl,O.nx (((A.step s1).put r1).put r2) q⟩⟩
def J1e:G1:=λ ds Q=>match ds with
 | [.int i]=>Q (.int (if i<0 then -i else i))
 | _=>False
instance cs_abs:CS (λ xs H Q=>∃ i,xs=[.int i]/\Q (.int (if i<0 then -i else i)) H) J1e:=⟨λ {H xs ds Q P} r h k=>by
 unfold J1e at h
 split at h
 . cases r with
   | cons r1 t=>
    cases t
    cases r1
    exact ⟨_,rfl,k _ _ h λ _=>.int _⟩
 . exact h.elim⟩
noncomputable def Zc (ns:List Int):Nat:=ns.foldl (λ g x=>J22 g x.natAbs) 0
def Jec:GSp:=λ as n Q=>∃ ns:List Int,as=[.d (.list (ns.map .int))]/\Q (.int ((Zc ns:Nat):Int)) n
noncomputable instance:Scal Jec:=⟨λ {as n P} h=>by obtain ⟨w,e,q⟩:=h;exact ⟨w,e,rfl,q⟩⟩
def Jgj:GSn:=λ as n Q=>∃ ns:List Int,as=[.d (.list (ns.map .int))]/\ns.length<=100000/\Zc ns≠0/\((Zc ns:Nat):Int)<2^9000/\Q ((ns.map λ x=>x/((Zc ns:Nat):Int)).map .int) n
theorem Jt9 (ns:List Int) (x:Int):Zc (ns++[x])=J22 (Zc ns) x.natAbs:=by unfold Zc;rw [J8e];rfl
theorem Jua {ns:List Int}{i:Nat}{x:Int}(h:ns[i]? = some x):Zc (ns.take (i+1))=J22 (Zc (ns.take i)) x.natAbs:=by
 rw [J4x,h]
 exact Jt9 _ _
end My
namespace L2
open PySem.SeqAt
open AutoSeq1 (wpAny_loadPart')
theorem Jwh (l b:Addr) (n n2:Nat) (dd dd2:Option Addr) (sl sl2:Array (Option J9j)) {x y:Int}{tx ty:Tok}{u u2:J9j}(hne:x≠y) :
 Meets (Builtin.«tuple.__lt__» ⟨[.ref l,.ref b],[]⟩) (λ A R s=>s.heap.get? l=some { cls:=.type "tuple",dict:=dd,data:=.seq #[.int x tx,u] n,slots:=sl }/\s.heap.get? b=some { cls:=.type "tuple",dict:=dd2,data:=.seq #[.int y ty,u2] n2,slots:=sl2 }/\R (.ok (.ret (.bool (decide (x<y))))) s):=
 .of_wp λ prog w A R s h=>by
  obtain ⟨hp,g,d,tk,os⟩:=s
  obtain ⟨hl,hb,hR⟩:=h
  have f2:=AutoSeq1.sub_tuple_tuple
  wp_walk using J92 hl,J92 hb,wpAny_forIn_list _ (λ rest b s'=>b.1=none/\s'=⟨hp,g,d,tk,os⟩/\rest=[(Us x tx,Us y ty),(u,u2)]) _
  case turn=>
   rintro ⟨p,q⟩ rest b s' ⟨hb',rfl,hz⟩
   injection hz with h1 h2
   cases h1
   refine wpAny_bind (EqAt.int_int x tx y ty prog w _ _ ?_)
   rw [show (x==y)=false from beq_eq_false_iff_ne.mpr hne]
   show J9l _ _ (rule "tuple.compare.by-the-first-pair-that-differs" >>= λ _=>richCompare .Lt (.int x tx) (.int y ty) >>= _) _ _ _
   wp_step
   wp_step
   refine wpAny_bind (wpAny_richCompare_same (op:=.Lt) (T:="int") (typeIs_int _ x tx) (typeIs_int _ y ty) slot_int_lt (call_int_lt ⟨by simp,?_⟩))
   wp_walk
   exact ⟨_,rfl,hR⟩
  case fin=>
   rintro ⟨b1,b2⟩ s' ⟨hb',rfl,hz⟩
   cases hz
  case h=>exact ⟨rfl,rfl,rfl⟩
section
variable {prog:J9n}{w:J9m}{A:J9o}{E:J9j->J9k->Prop}{s:J9k}{R:J94->J9k->Prop}
theorem Jub {l b:Addr}{x y:Int}{tx ty:Tok}{u u2:J9j}{Q:J9j->J9k->Prop}(hu:A.units<J91) (hne:x≠y) (hl:s.heap.IsTuple l #[.int x tx,u]) (hb:s.heap.IsTuple b #[.int y ty,u2]) (q:Q (.bool (decide (x<y))) s):J9l (model prog w) A (richCompare .Lt (.ref l) (.ref b)) Q E s:=by
 obtain ⟨⟨c1,d1,e1,f1⟩,h1,rfl,n1,rfl⟩:=hl
 obtain ⟨⟨c2,d2,e2,f2⟩,h2,rfl,n2,rfl⟩:=hb
 exact wpAny_richCompare_same_room (op:=.Lt) (T:="tuple") ⟨_,h1,rfl⟩ ⟨_,h2,rfl⟩ J8r (call_meets J8r ⟨_,h1,rfl⟩ F.entry_tuple_lt (F.args_tuple_lt_2 _ _) (Jwh l b n1 n2 d1 d2 f1 f2 hne) ⟨h1,h2,by simp,q⟩) hu
theorem Jp4 (bt:Nat->Nat->Bool):∀ k,argBest bt k<=k
 | 0=>Ql _
 | k+1=>by
  have:=Jp4 bt k
  rw [argBest]
  split<;>omega
theorem Jmu {I S:Addr}{fp wr:List Addr}{n:Nat}{P:Nat->J9j->Prop}{St:Nat->Heap->Prop}(W:Walks prog w A.in1 I fp wr n P St) (bt:Nat->Nat->Bool) (G:Heap->Prop) (hSf:S∉fp)
 (keep:∀ h h',G h->(∀ b o,b∉wr->b≠S->h.get? b=some o->h'.get? b=some o)->G h')
 (ask:∀ i j vi vj (s:J9k) (Q:J9j->J9k->Prop) (E:J9j->J9k->Prop),i≠j->P i vi->P j vj->G s.heap->Q (.bool (bt i j)) s->J9l (model prog w) A.in1 (richCompare .Lt vi vj) Q E s) :
 ∀ (k j:Nat) (s:J9k) (vb:J9j) (c:Nat),n-(j+1)=k->j+1<=n->St (j+1) s.heap->P (argBest bt j) vb->G s.heap ->
 s.heap.get? S=some { cls:=.type "list",dict:=none,data:=.seq #[vb,vb] c,slots:=#[] } ->
 (∀ v h' tk,P (argBest bt (n-1)) v->(∀ b o,b∉wr->b≠S->s.heap.get? b=some o->h'.get? b=some o)->R (.ok (.ret v)) { s with heap:=h',toks:=tk }) ->
 J9u (model prog w) A (.builtin "min.loop" ⟨[.ref I,.none,.ref S],[]⟩) R s:=by
 have off:S∉wr:=λ h=>hSf (W.sub _ h)
 have nm:(toString "min" ++ toString ".loop":String) = "min.loop":=by decide
 intro k
 induction k with
 | zero=>
  intro j s vb c hk hj st hv hg hS fin
  have last:j+1=n:=by omega
  refine Yaj J61 ?_
  rw [J33 J23 _]
  show J9l _ A.in1 (Yab (.ref S) >>= _) _ _ s
  refine wpAny_bind (wpAny_seqItems hS rfl ?_)
  show J9l _ A.in1 (tryCatch (pyNext (.ref I)) _ >>= _) _ _ s
  refine wpAny_bind (wpAny_tryCatch (W.done s _ _ (last▸st) λ h' tk kp=>?_))
  have hS':=kp S _ off hS
  show J9l _ A.in1 (updateSeq S (λ _=>#[]) >>= _) _ _ _
  refine wpAny_bind (wpAny_updateSeq hS' rfl (wpAny_bind (wpAny_letGo (wpAny_pure ?_))))
  exact fin vb _ tk (by rw [<- last];exact hv) λ b o hbw hbS e=>(U3 _ _ (Qj hbS)).trans (kp b o hbw e)
 | succ k ih=>
  intro j s vb c hk hj st hv hg hS fin
  have more:j+1<n:=by omega
  refine Yaj J61 ?_
  rw [J33 J23 _]
  show J9l _ A.in1 (Yab (.ref S) >>= _) _ _ s
  refine wpAny_bind (wpAny_seqItems hS rfl ?_)
  show J9l _ A.in1 (tryCatch (pyNext (.ref I)) _ >>= _) _ _ s
  refine wpAny_bind (wpAny_tryCatch (W.item (j+1) s _ _ more st λ v h' tk hp st' kp=>?_))
  have hS':=kp S _ off hS
  have hg':G h':=keep _ _ hg λ b o hbw _ e=>kp b o hbw e
  have ne:j+1≠argBest bt j:=by have:=Jp4 bt j;omega
  show J9l _ A.in1 (tryCatch (holding [v,v] (richCompare .Lt v vb >>= _)) _ >>= _) _ _ _
  refine wpAny_bind (wpAny_tryCatch (wpAny_holding (wpAny_bind (ask (j+1) (argBest bt j) v vb _ _ _ ne hp hv hg' ?_))))
  refine wpAny_bind (wpAny_holding (wpAny_truthy_bool ?_))
  refine wpAny_bind (wpAny_letGo (wpAny_pure ?_))
  cases hb:bt (j+1) (argBest bt j) with
  | true=>
   simp only [if_true]
   refine wpAny_bind (wpAny_updateSeq hS' rfl (wpAny_bind (wpAny_letGo ?_)))
   rw [nm]
   refine wpAny_pure ⟨plainId_quiet J23 _,ih (j+1) _ v _ (by omega) more (W.frame _ _ _ st' λ b hbf o e=>?_) (by simp only [argBest,hb,if_true];exact hp) (keep _ _ hg' λ b o _ hbS e=>(U3 _ _ (Qj hbS)).trans e) (J4e _ hS' rfl) λ v' h2 t2 hp' k2=>?_⟩
   . exact (U3 _ _ (λ h:S=b=>hSf (by rw [h];exact hbf))).trans e
   . exact fin v' h2 t2 hp' λ b o hbw hbS e=>k2 b o hbw hbS ((U3 _ _ (Qj hbS)).trans (kp b o hbw e))
  | false=>
   simp only [J3v,if_false]
   refine wpAny_bind (wpAny_letGo ?_)
   rw [nm]
   refine wpAny_pure ⟨plainId_quiet J23 _,ih (j+1) _ vb c (by omega) more st' (by simp only [argBest,hb,J3v,if_false];exact hv) hg' hS' λ v' h2 t2 hp' k2=>?_⟩
   exact fin v' h2 t2 hp' λ b o hbw hbS e=>k2 b o hbw hbS (kp b o hbw e)
theorem Jmv {I S:Addr}{fp wr:List Addr}{n:Nat}{P:Nat->J9j->Prop}{St:Nat->Heap->Prop}(W:Walks prog w A.in1 I fp wr n P St) (bt:Nat->Nat->Bool) (G:Heap->Prop) (hSf:S∉fp)
 (keep:∀ h h',G h->(∀ b o,b∉wr->b≠S->h.get? b=some o->h'.get? b=some o)->G h')
 (ask:∀ i j vi vj (s:J9k) (Q:J9j->J9k->Prop) (E:J9j->J9k->Prop),i≠j->P i vi->P j vj->G s.heap->Q (.bool (bt i j)) s->J9l (model prog w) A.in1 (richCompare .Lt vi vj) Q E s)
 (hn:0<n) {c:Nat} (st:St 0 s.heap) (hg:G s.heap) (hS:s.heap.get? S=some { cls:=.type "list",dict:=none,data:=.seq #[] c,slots:=#[] })
 (fin:∀ v h' tk,P (argBest bt (n-1)) v->(∀ b o,b∉wr->b≠S->s.heap.get? b=some o->h'.get? b=some o)->R (.ok (.ret v)) { s with heap:=h',toks:=tk }) :
 J9u (model prog w) A (.builtin "min.loop" ⟨[.ref I,.none,.ref S],[]⟩) R s:=by
 have off:S∉wr:=λ h=>hSf (W.sub _ h)
 have nm:(toString "min" ++ toString ".loop":String) = "min.loop":=by decide
 refine Yaj J61 ?_
 rw [J33 J23 _]
 show J9l _ A.in1 (Yab (.ref S) >>= _) _ _ s
 refine wpAny_bind (wpAny_seqItems hS rfl ?_)
 show J9l _ A.in1 (tryCatch (pyNext (.ref I)) _ >>= _) _ _ s
 refine wpAny_bind (wpAny_tryCatch (W.item 0 s _ _ hn st λ v h' tk hp st' kp=>?_))
 have hS':=kp S _ off hS
 have hg':G h':=keep _ _ hg λ b o hbw _ e=>kp b o hbw e
 show J9l _ A.in1 (updateSeq S (λ _=>#[v,v]) >>= _) _ _ _
 refine wpAny_bind (wpAny_updateSeq hS' rfl ?_)
 rw [nm]
 refine wpAny_pure ⟨plainId_quiet J23 _,Jmu W bt G hSf keep ask _ 0 _ v _ rfl hn (W.frame _ _ _ st' λ b hbf o e=>?_) hp (keep _ _ hg' λ b o _ hbS e=>(U3 _ _ (Qj hbS)).trans e) (J4e _ hS' rfl) λ v' h2 t2 hp' k2=>?_⟩
 . exact (U3 _ _ (λ h:S=b=>hSf (by rw [h];exact hbf))).trans e
 . exact fin v' h2 t2 hp' λ b o hbw hbS e=>k2 b o hbw hbS ((U3 _ _ (Qj hbS)).trans (kp b o hbw e))
theorem Juc {l:Addr}{vs:List J9j}{Q:J9j->J9k->Prop}(bt:Nat->Nat->Bool) (G:Heap->Prop) (hh:A.handled=none) (hl:s.heap.IsList l vs.toArray) (hne:0<vs.length) (hg:G s.heap)
 (keep:∀ h h',G h->(∀ b o,b<s.heap.objs.size->h.get? b=some o->h'.get? b=some o)->G h')
 (ask:∀ i j vi vj (s:J9k) (Q:J9j->J9k->Prop) (E:J9j->J9k->Prop),i≠j->vs[i]? = some vi->vs[j]? = some vj->G s.heap->Q (.bool (bt i j)) s->J9l (model prog w) A.in1 (richCompare .Lt vi vj) Q E s)
 (h:∀ v h' tk,vs[argBest bt (vs.length-1)]? = some v->(∀ b o,s.heap.get? b=some o->h'.get? b=some o)->Q v { s with heap:=h',toks:=tk }) :
 J9l (model prog w) A (call (.builtin "min") [.ref l]) Q E s:=by
 have nm:(toString "min" ++ toString ".loop":String) = "min.loop":=by decide
 have hlt:l<s.heap.objs.size:=by obtain ⟨_,e,_⟩:=hl;exact Qv e
 refine call_function_tree F.kind_min F.plain_min F.entry_min (F.args_min1 _) ?_
 show J9l _ A.in1 (J8s "min" ["key","default"] 0 ⟨[],[]⟩ >>= _) _ _ s
 refine wpAny_bind (wpAny_of_eq (show J8s "min" ["key","default"] 0 ⟨[],[]⟩=pure [none,none] from rfl) ?_)
 refine wpAny_bind (wpAny_pure ?_)
 refine wpAny_bind (wpAny_pyIter_list hl ?_)
 refine wpAny_bind (wpAny_newObj_type ?_)
 rw [nm]
 have ne:l≠s.heap.objs.size:=Xg hlt
 have z1:∀ o,(s.heap.push o).objs.size=s.heap.objs.size+1:=λ o=>Xz ..
 refine wpAny_pure ⟨plainId_quiet J23 _,Jmv (Walks.list (A:=A.in1) hh _ l ne vs.toArray) bt G (λ hm=>?_) (λ h h' g k=>keep h h' g λ b o hb e=>k b o (λ hm=>?_) (λ hm=>?_) e) (λ i j vi vj s Q E d h1 h2=>ask i j vi vj s Q E d (by simpa using h1) (by simpa using h2)) (by simpa using hne) ⟨⟨_,Qu _ (Xe _ rfl),rfl,rfl⟩,(hl.push _).push _⟩ (keep _ _ hg λ b o _ e=>Qu _ (Qu _ e)) (Xe _ rfl) λ v h' tk hp k=>?_⟩
 . simp only [Qd,Uf,or_false] at hm
   rcases hm with hm | hm
   . have hm':(s.heap.objs.size+1:Nat)=s.heap.objs.size:=(z1 _).symm.trans hm
     omega
   . have hm':(s.heap.objs.size+1:Nat)=l:=(z1 _).symm.trans hm
     rw [<- hm'] at hlt
     exact Xf _ (J62 hlt)
 . rw [Qq.mp hm] at hb
   exact Xf _ hb
 . rw [show b=s.heap.objs.size+1 from J4g hm (z1 _)] at hb
   exact Xf _ (J62 hb)
 . refine h v h' tk (by simpa using hp) λ b o e=>k b o (λ hm=>?_) ?_ (Qu _ (Qu _ e))
   . have:=Qv e
     rw [Qq.mp hm] at this
     exact Xf _ this
   . intro hm
     have:=Qv e
     rw [show b=s.heap.objs.size+1 from J4g hm (z1 _)] at this
     exact Xf _ (J62 this)
end
section
variable {X:Cx}
def Jxy:List V->Hp->VK->Prop:=λ xs H Q=>∃ (p:Addr) (as:List Addr) (rs:List (Int×Int)),xs=[.ref p]/\H p=some (.lst (as.map V.ref))/\as.length=rs.length/\(∀ (i:Nat) (a:Addr) (r:Int×Int),as[i]? = some a->rs[i]? = some r->H a=some (.tup [.int r.1,.int r.2]))/\rs≠[]/\(rs.map (·.1)).Nodup /\
 ∀ (i:Nat) (a:Addr) (r:Int×Int),as[i]? = some a->rs[i]? = some r->(∀ r'∈rs,r.1<=r'.1)->Q (.ref a) H
theorem Jrh (hc:X.calm=true) (hu:X.A.units+64<J91):Bj X (.builtin "min") Jxy:=by
 intro pins s σ H xs us Q I r h
 obtain ⟨p,as,rs,rfl,hp,hln,hi,hne,hnd,q⟩:=h
 obtain ⟨u,rfl,ru⟩:=Jby r
 cases ru
 obtain ⟨z,its,n,rv,hl,e⟩:=I.lstM hp
 have ei:its=as.map Q3:=Jrb rv
 subst ei
 have pos:0<rs.length:=J57.mpr hne
 have gd:∀ i,i<rs.length->∃ (a:Addr) (r:Int×Int) (t1 t2:Tok),as[i]? = some a/\rs[i]? = some r/\rs.getD i (0,0)=r/\s.heap.IsTuple a #[.int r.1 t1,.int r.2 t2]:=λ i h2=>by
  have ha:as[i]? = some (as[i]'(by omega)):=Qf _
  have hr:rs[i]? = some rs[i]:=Qf h2
  obtain ⟨it,rv2,pl,_⟩:=I.tuple (SqT.of (hi i _ _ ha hr))
  cases rv2 with
  | cons p1 q1=>
   cases q1 with
   | cons p2 q2=>
    cases q2
    obtain ⟨t1,rfl⟩:=p1
    obtain ⟨t2,rfl⟩:=p2
    exact ⟨_,rs[i],t1,t2,ha,hr,by rw [Qi,hr];rfl,pl⟩
 refine Juc (λ i j=>decide ((rs.getD i (0,0)).1<(rs.getD j (0,0)).1)) (λ h=>∀ b o,s.heap.get? b=some o->h.get? b=some o) (I.ok.hd hc) ⟨_,e,rfl,n,rfl⟩ (by rw [Qb];omega) (λ b o e=>e) (λ h h' g k b o e=>k b o (Qv e) (g b o e)) (λ i j vi vj s' Q' E' d h1 h2 g q'=>?_) (λ v h' tk hv k=>?_)
 . rw [Qk] at h1 h2
   obtain ⟨a1,e1,rfl⟩:=X2.mp h1
   obtain ⟨a2,e2,rfl⟩:=X2.mp h2
   have l1:=(Qt.mp e1).1
   have l2:=(Qt.mp e2).1
   obtain ⟨b1,r1,t1,t2,w1,w2,w3,w4⟩:=gd i (by omega)
   obtain ⟨b2,r2,t3,t4,v1,v2,v3,v4⟩:=gd j (by omega)
   cases e1.symm.trans w1
   cases e2.symm.trans v1
   rw [w3,v3] at q'
   refine Jub (by show X.A.units+1<J91;omega) (λ ez=>?_) (w4.at λ o=>g _ o) (v4.at λ o=>g _ o) q'
   have m1:(rs.map (·.1))[i]? = some r1.1:=by rw [Qk,w2];rfl
   have m2:(rs.map (·.1))[j]? = some r2.1:=by rw [Qk,v2];rfl
   obtain ⟨n1,m1⟩:=Qt.mp m1
   obtain ⟨n2,m2⟩:=Qt.mp m2
   rcases J6x i j with z | z | z
   . exact J4v.mp hnd i j n1 n2 z (by rw [m1,m2];exact ez)
   . exact d z
   . exact J4v.mp hnd j i n2 n1 z (by rw [m1,m2];exact ez.symm)
 . obtain ⟨b1,b2⟩:=argBest_lt (λ i=>(rs.getD i (0,0)).1) ((as.map Q3).length-1)
   rw [Qk] at hv
   obtain ⟨a,ha,rfl⟩:=X2.mp hv
   have l1:=(Qt.mp ha).1
   obtain ⟨a',r,t1,t2,w1,w2,w3,w4⟩:=gd _ (show _<rs.length by rw [<- hln];exact l1)
   refine ⟨.ref a,H,I.kept (t':=tk) k,rfl,q _ a r ha w2 λ r' hr'=>?_⟩
   obtain ⟨j,hj⟩:=Ur.mp hr'
   have lj:=(Qt.mp hj).1
   have:=b2 j (by rw [Qb];omega)
   rw [Qi (l:=rs) (i:=j),hj] at this
   rw [<- w3]
   exact this
end
end L2
namespace My
open L2
noncomputable def Jhz (r:Int×Int):J9i:=.tuple [.int r.1,.int r.2]
theorem Jh0 {ex:List Addr}{H:Hp}:∀ {rs:List (Int×Int)}{vs:List V},Reps ex H (rs.map Jhz) vs->∃ as:List Addr,vs=as.map V.ref/\as.length=rs.length/\∀ (i:Nat) (a:Addr) (r:Int×Int),as[i]? = some a->rs[i]? = some r->H a=some (.tup [.int r.1,.int r.2])/\Rep ex H (Jhz r) (.ref a)
 | [],vs,h=>by
  cases h
  exact ⟨[],rfl,rfl,λ i a r h=>by simp at h⟩
 | r::rs,vs,h=>by
  cases h with
  | cons h1 h2=>
   obtain ⟨as,rfl,hl,ha⟩:=Jh0 h2
   have hr:=h1
   cases h1 with
   | @tuple p us _ e nm z rr=>
    cases rr with
    | cons r1 r2=>
     cases r2 with
     | cons r2 r3=>
      cases r3
      cases r1
      cases r2
      refine ⟨p::as,rfl,by simp [hl],λ i a r' h3 h4=>?_⟩
      cases i with
      | zero=>
       cases h3
       cases h4
       exact ⟨e,hr⟩
      | succ i=>exact ha i a r' h3 h4
def J1f:G1:=λ ds Q=>∃ rs:List (Int×Int),ds=[.list (rs.map Jhz)]/\rs≠[]/\(rs.map (·.1)).Nodup/\∀ r∈rs,(∀ r'∈rs,r.1<=r'.1)->Q (Jhz r)
instance co_minP:CO Jxy J1f:=⟨λ {ex H xs ds Q P} al r h k=>by
 obtain ⟨rs,rfl,hne,hnd,q⟩:=h
 cases r with
 | cons r1 t=>
  cases t
  cases r1 with
  | @list p vs _ e nm z rr=>
   obtain ⟨as,rfl,hl,ha⟩:=Jh0 rr
   exact ⟨p,as,rs,rfl,e,hl,λ i a r h1 h2=>(ha i a r h1 h2).1,hne,hnd,λ i a r h1 h2 h3=>k _ _ _ (q r (Xb h2) h3) Kp.refl (ha i a r h1 h2).2⟩⟩
noncomputable abbrev Jq (k:Nat):J9i:=.int (k:Int)
noncomputable abbrev Yz (r:List Int):J9i:=.list (r.map .int)
noncomputable abbrev Jis:List Str:=["first_purse","first_room","behind_all","free","bound","rows","divisor"]
structure Siz where
 fp:Int
 fr:Int
 be:Int
noncomputable def Wn (C:Addr) (z:Siz) (T:Tb.Tab):J9i:=.dict (Jba C Jis [.int z.fp,.int z.fr,.int z.be,.list (T.fr.map Jq),.list (T.bd.map Jq),.list (T.rows.map Yz),.int T.q])
structure TableOk (K:Qc) (C:Addr):Prop where
 c:Cls K C
 n1:NoAttr K C "first_purse"
 n2:NoAttr K C "first_room"
 n3:NoAttr K C "behind_all"
 n4:NoAttr K C "free"
 n5:NoAttr K C "bound"
 n6:NoAttr K C "rows"
 n7:NoAttr K C "divisor"
section
variable {K:Qc}{C:Addr}{z:Siz}{T:Tb.Tab}{Q:J9i->Prop}
theorem Jud (Y:TableOk K C) (q:Q (.int z.fp)):∃ (C':Addr) (ns:List Str) (ds:List J9i) (x:J9i),Wn C z T = .dict (Jba C' ns ds)/\Cls K C'/\NoAttr K C' "first_purse"/\ns.length=ds.length/\Jip ns ds "first_purse" = some x/\Q x:=⟨C,Jis,_,_,rfl,Y.c,Y.n1,rfl,rfl,q⟩
theorem J1g (Y:TableOk K C) (q:Q (.int z.fr)):∃ (C':Addr) (ns:List Str) (ds:List J9i) (x:J9i),Wn C z T = .dict (Jba C' ns ds)/\Cls K C'/\NoAttr K C' "first_room"/\ns.length=ds.length/\Jip ns ds "first_room" = some x/\Q x:=⟨C,Jis,_,_,rfl,Y.c,Y.n2,rfl,rfl,q⟩
theorem Jxz (Y:TableOk K C) (q:Q (.int z.be)):∃ (C':Addr) (ns:List Str) (ds:List J9i) (x:J9i),Wn C z T = .dict (Jba C' ns ds)/\Cls K C'/\NoAttr K C' "behind_all"/\ns.length=ds.length/\Jip ns ds "behind_all" = some x/\Q x:=⟨C,Jis,_,_,rfl,Y.c,Y.n3,rfl,rfl,q⟩
theorem Jgk (Y:TableOk K C) (q:Q (.list (T.fr.map Jq))):∃ (C':Addr) (ns:List Str) (ds:List J9i) (x:J9i),Wn C z T = .dict (Jba C' ns ds)/\Cls K C'/\NoAttr K C' "free"/\ns.length=ds.length/\Jip ns ds "free" = some x/\Q x:=⟨C,Jis,_,_,rfl,Y.c,Y.n4,rfl,rfl,q⟩
theorem Jed (Y:TableOk K C) (q:Q (.list (T.bd.map Jq))):∃ (C':Addr) (ns:List Str) (ds:List J9i) (x:J9i),Wn C z T = .dict (Jba C' ns ds)/\Cls K C'/\NoAttr K C' "bound"/\ns.length=ds.length/\Jip ns ds "bound" = some x/\Q x:=⟨C,Jis,_,_,rfl,Y.c,Y.n5,rfl,rfl,q⟩
theorem Jbj (Y:TableOk K C) (q:Q (.list (T.rows.map Yz))):∃ (C':Addr) (ns:List Str) (ds:List J9i) (x:J9i),Wn C z T = .dict (Jba C' ns ds)/\Cls K C'/\NoAttr K C' "rows"/\ns.length=ds.length/\Jip ns ds "rows" = some x/\Q x:=⟨C,Jis,_,_,rfl,Y.c,Y.n6,rfl,rfl,q⟩
theorem Jue (Y:TableOk K C) (q:Q (.int T.q)):∃ (C':Addr) (ns:List Str) (ds:List J9i) (x:J9i),Wn C z T = .dict (Jba C' ns ds)/\Cls K C'/\NoAttr K C' "divisor"/\ns.length=ds.length/\Jip ns ds "divisor" = some x/\Q x:=⟨C,Jis,_,_,rfl,Y.c,Y.n7,rfl,rfl,q⟩
theorem Jcs {m:Str}(hm:m∉Jis):∃ (ns:List Str) (ds:List J9i),Wn C z T = .dict (Jba C ns ds)/\ns.length=ds.length/\m∉ns:=⟨Jis,_,rfl,rfl,hm⟩
end
structure Shape (m n:Nat) (T:Tb.Tab):Prop where
 lb:T.bd.length=m
 lf:T.fr.length=n
 lr:T.rows.length=m
 lw:∀ i,i<m->(T.row i).length=n+1
 mm:m<=20
 nn:n<=100
 small:∀ r∈T.rows,∀ x∈r,x.natAbs<2^4000
 q0:0<T.q
 q1:T.q<2^4000
def Joo (C:Addr):GSn:=λ as n Q=>∃ (z:Siz) (T:Tb.Tab) (other row:List Int) (k:Nat),as=[.d (Wn C z T),.d (Yz other),.d (Yz row),.d (Jq k)]/\k<other.length/\k<row.length/\other.length<=1000/\(∀ x∈other,x.natAbs<2^4000)/\(∀ x∈row,x.natAbs<2^4000)/\0<T.q/\T.q<2^4000/\Q ((Tb.Jcb T.q row other k).map .int) n
def Jgl (C:Addr):GSn:=λ as n' Q=>∃ (z:Siz) (T:Tb.Tab) (m n:Nat) (W:List Nat),as=[.d (Wn C z T),.d (.list (W.map Jq))]/\Shape m n T/\Q (((Qn n).map (T.rise m W)).map .int) n'
def Jct (C:Addr):GSp:=λ as n' Q=>∃ (z:Siz) (T:Tb.Tab) (m n:Nat) (W:List Nat),as=[.d (Wn C z T),.d (.list (W.map Jq))]/\Shape m n T/\(∀ j j',j<n->j'<n->T.f j=T.f j'->j=j')/\(∀ k,k<n->0<T.rise m W k->(∀ j,j<n->0<T.rise m W j->T.f k<=T.f j)->Q (Jq k) n')/\((∀ j,j<n->T.rise m W j<=0)->Q .none n')
def Jx0 (K:Qc) (ta:TA):TI:=Jn8 K ta
theorem Jwi {X:Cx}{tg e:Expr}{K:Qc}{ta:TA}(h:PI X tg e (Jn8 K ta)):PI X tg e (Jx0 K ta):=h
abbrev Jp5 (env:List Vl) (i:Nat) (k:List J9i->Prop):Prop:=match env[i]? with
 | some (.own xs)=>k xs
 | some (.d (.list xs))=>k xs
 | _=>False
abbrev J1h (i j:Nat):GN:=λ env n Q=>Jp5 env i λ xs=>Jp5 env j λ ys=>Q (Vf xs ys) n
theorem Jp6 {S:Src}{ex:List Addr}{env:List Vl}{σ:L2.St}{H:Hp}{n i:Nat}{k:List J9i->Prop}(E:Ev S ex env σ H n) (h:Jp5 env i k):∃ (xs:List J9i) (a:Addr) (vs:List V),k xs/\σ[i]? = some (some (.ref a))/\H a=some (.lst vs)/\∀ l H2,H l=none->Kp (l::S.ch) H H2->∃ vs',H2 a=some (.lst vs')/\Reps (l::ex) H2 xs vs':=by
 unfold Jp5 at h
 split at h
 . rename_i xs e
   obtain ⟨a,vs,ev,h1,h2,h3,h4,h5⟩:=E.sl i _ e
   refine ⟨xs,a,vs,h,Jl ev,h1,λ l H2 hl kp=>?_⟩
   have na:a≠l:=Jn h1 hl
   exact ⟨vs,kp _ _ h1 λ z=>(Qd.mp z).elim na h5,(Reps.add hl h3).keep (Jcq E.ch kp)⟩
 . rename_i xs e
   obtain ⟨v,ev,r⟩:=E.sl i _ e
   cases r with
   | list e1 m z rs=>
    refine ⟨xs,_,_,h,Jl ev,e1,λ l H2 hl kp=>?_⟩
    have:=(Rep.add hl (.list e1 m z rs)).keep (Jcq E.ch kp)
    cases this with
    | list e m z rs=>exact ⟨_,e,rs⟩
 . exact h.elim
instance ic_zipO {K:Qc}{i j:Nat}:IC (Jx0 K (Ye (Ze i) (Ye (Ze j) Jam))) (J1h i j):=⟨λ {S ex env σ H n R P} E h k=>by
 obtain ⟨xs,a,vs,h,s1,h1,r1⟩:=Jp6 E h
 obtain ⟨ys,b,us,h,s2,h2,r2⟩:=Jp6 E h
 refine ⟨_,s1,_,s2,false,false,a,b,vs,us,rfl,SqL.of h1,SqL.of h2,k _ _ _ _ h (.refl E.inv) λ l H2 hl kp al=>?_⟩
 obtain ⟨v1,w1,w2⟩:=r1 l H2 hl kp
 obtain ⟨v2,w3,w4⟩:=r2 l H2 hl kp
 exact Jod al (c:=false) (c':=false) (SqL.of w1) w2 (SqL.of w3) w4⟩
noncomputable def tl (T:Tb.Tab) (n:Nat) (W:List Nat) (i:Nat):List Int:=(Qn n).map λ j=>Tb.ind W (T.f j) T.q-Tb.Jo i λ i=>Tb.ind W (T.b i) (T.e i j)
section
variable {m n i:Nat}{T:Tb.Tab}{W:List Nat}
theorem Jop:(tl T n W i).length=n:=by unfold tl;rw [Qb,Q2]
theorem Joq {j:Nat}(hj:j<n):(tl T n W i)[j]? = some (Tb.ind W (T.f j) T.q-Tb.Jo i λ i=>Tb.ind W (T.b i) (T.e i j)):=by unfold tl;rw [Qk,Xs hj];rfl
theorem Jwj (sh:Shape m n T):T.fr.map (λ ν=>Tb.ind W ν T.q)=tl T n W 0:=by
 apply X5
 intro j
 by_cases hj:j<n
 . have h1:j<T.fr.length:=by rw [sh.lf];exact hj
   rw [Joq hj,Qk,Qf h1]
   have:T.f j=T.fr[j]:=by unfold Tb.Tab.f;rw [Qi,Qf h1];rfl
   rw [this]
   show some _=some (_-(0:Int))
   rw [J42]
 . rw [Q7 (by rw [Qb,sh.lf];omega),Q7 (by rw [Jop];omega)]
theorem J1i (sh:Shape m n T) (hi:i<m) (c:T.b i∈W):((tl T n W i).zip (T.row i)).map (λ p=>p.1-p.2)=tl T n W (i+1):=by
 have lw:=sh.lw i hi
 apply X5
 intro j
 by_cases hj:j<n
 . have h1:j<(T.row i).length:=by omega
   rw [J63,Qk,J2q,Joq hj,Joq hj,Qf h1]
   have e:Tb.ind W (T.b i) (T.e i j)=(T.row i)[j]:=by
    unfold Tb.ind Tb.Tab.e
    rw [if_pos c,Qi,Qf h1];rfl
   show some (_-(T.row i)[j])=some (_-(Tb.Jo i (λ i=>Tb.ind W (T.b i) (T.e i j))+Tb.ind W (T.b i) (T.e i j)))
   rw [e]
   congr 1
   omega
 . rw [Q7 (by rw [Qb,J6k,Jop];omega),Q7 (by rw [Jop];omega)]
theorem Jzl (c:T.b i∉W):tl T n W (i+1)=tl T n W i:=by
 unfold tl
 refine Ug λ j _=>?_
 show _-(Tb.Jo i (λ i=>Tb.ind W (T.b i) (T.e i j))+Tb.ind W (T.b i) (T.e i j))=_
 have:Tb.ind W (T.b i) (T.e i j)=0:=by unfold Tb.ind;rw [if_neg c]
 rw [this]
 omega
theorem Juf {x:J9i}(sh:Shape m n T) (h:(Vf (T.bd.map Jq) (T.rows.map Yz))[i]? = some x):i<m/\x = .tuple [Jq (T.b i),Yz (T.row i)]:=by
 unfold Vf at h
 rw [J2q,Qk,Qk] at h
 by_cases hi:i<m
 . have h1:i<T.bd.length:=by rw [sh.lb];exact hi
   have h2:i<T.rows.length:=by rw [sh.lr];exact hi
   rw [Qf h1,Qf h2] at h
   refine ⟨hi,?_⟩
   have e1:T.b i=T.bd[i]:=by unfold Tb.Tab.b;rw [Qi,Qf h1];rfl
   have e2:T.row i=T.rows[i]:=by unfold Tb.Tab.row;rw [Qi,Qf h2];rfl
   rw [e1,e2]
   exact (Xi h).symm
 . rw [Q7 (by rw [sh.lb];omega)] at h
   cases h
end
theorem Jwk (n:Nat) (f:Nat->Int):Jdy (((Qn n).map f).map .int)=(Qn n).map λ j=>.tuple [Jq j,.int (f j)]:=by
 apply X5
 intro i
 unfold Jdy
 rw [J6f,Qk,Qk,Qk]
 by_cases h:i<n
 . rw [Xs h];rfl
 . rw [Q7 (by rw [Q2];omega)];rfl
noncomputable def Jh1 (T:Tb.Tab) (n a o k:Nat):Bool:=decide (T.e a n*T.e o k<T.e o n*T.e a k)||(decide (T.e a n*T.e o k=T.e o n*T.e a k)&&decide (T.b a<T.b o))
noncomputable def rf (T:Tb.Tab) (n k:Nat):Nat->Option Nat
 | 0=>none
 | i+1=>match rf T n k i with
  | none=>if 0<T.e i k then some i else none
  | some o=>if 0<T.e i k/\Jh1 T n i o k=true then some i else some o
noncomputable def Jzm:Option Nat->J9i
 | none=>.none
 | some i=>Jq i
def Jk5 (C:Addr):GSp:=λ as n' Q=>∃ (z:Siz) (T:Tb.Tab) (m n a o k:Nat),as=[.d (Wn C z T),.d (Jq a),.d (Jq o),.d (Jq k)]/\Shape m n T/\a<m/\o<m/\k<n/\Q (.bool (Jh1 T n a o k)) n'
def Jff (C:Addr):GSp:=λ as n' Q=>∃ (z:Siz) (T:Tb.Tab) (m n k:Nat),as=[.d (Wn C z T),.d (Jq k)]/\Shape m n T/\k<n/\Q (Jzm (rf T n k m)) n'
def Jk6 (C:Addr):GSp:=λ as n' Q=>∃ (z:Siz) (T:Tb.Tab) (u:Nat) (xs:List Int),as=[.d (Wn C z T),.d (Yz xs)]/\z.fr-z.fp=(u:Int)/\xs.length<=1000/\Q (.tuple [.tuple ((xs.take u).map .int),.tuple ((xs.drop u).map .int)]) n'
section
variable {m n:Nat}{T:Tb.Tab}
theorem Jh2 (sh:Shape m n T) {i:Nat}(hi:i<m):atI (T.rows.map Yz) ((i:Nat):Int)=some (Yz (T.row i)):=by
 have h2:i<T.rows.length:=by rw [sh.lr];exact hi
 refine Yi (by omega) ?_
 unfold Tb.Tab.row
 rw [Q0,Qk,Qf h2,Qi,Qf h2]
 rfl
theorem Jx1 (sh:Shape m n T) {i:Nat}(hi:i<m):atI (T.bd.map Jq) ((i:Nat):Int)=some (Jq (T.b i)):=by
 have h2:i<T.bd.length:=by rw [sh.lb];exact hi
 refine Yi (by omega) ?_
 unfold Tb.Tab.b
 rw [Q0,Qk,Qf h2,Qi,Qf h2]
 rfl
theorem J1j (sh:Shape m n T) {j:Nat}(hj:j<n):atI (T.fr.map Jq) ((j:Nat):Int)=some (Jq (T.f j)):=by
 have h2:j<T.fr.length:=by rw [sh.lf];exact hj
 refine Yi (by omega) ?_
 unfold Tb.Tab.f
 rw [Q0,Qk,Qf h2,Qi,Qf h2]
 rfl
theorem Jwl (sh:Shape m n T) {i j:Nat}(hi:i<m) (hj:j<=n):atI ((T.row i).map Qp) ((j:Nat):Int)=some (.int (T.e i j)):=by
 have h2:j<(T.row i).length:=by rw [sh.lw i hi];omega
 refine Yi (by omega) ?_
 unfold Tb.Tab.e
 rw [Q0,Qk,Qf h2,Qi,Qf h2]
 rfl
theorem Jug (sh:Shape m n T) {i:Nat}(hi:i<m):atI ((T.row i).map Qp) (-1)=some (.int (T.e i n)):=by
 have hl:=sh.lw i hi
 have h2:n<(T.row i).length:=by omega
 refine Jvs (by intro h;rw [J8t] at h;rw [h] at hl;cases hl) ?_
 rw [List.getLast?_map,J78,hl,show n+1-1=n by omega,Qf h2]
 unfold Tb.Tab.e
 rw [Qi,Qf h2]
 rfl
theorem Jgm (sh:Shape m n T) {i j:Nat}(hi:i<m) (hj:j<=n):(T.e i j).natAbs<2^9000:=by
 have h2:j<(T.row i).length:=by rw [sh.lw i hi];omega
 have h3:i<T.rows.length:=by rw [sh.lr];exact hi
 have hr:T.row i∈T.rows:=by unfold Tb.Tab.row;rw [Qi,Qf h3];exact Xp _
 refine Xd (sh.small _ hr (T.e i j) ?_) (J43 (by decide) (by decide))
 unfold Tb.Tab.e
 rw [Qi,Qf h2]
 exact Xp _
theorem Jwm (sh:Shape m n T) {i:Nat}{x:J9i}(h:(Jdy (T.rows.map Yz))[i]? = some x):i<m/\x = .tuple [Jq i,Yz (T.row i)]:=by
 unfold Jdy at h
 rw [J6f,Qk] at h
 by_cases hi:i<m
 . have h2:i<T.rows.length:=by rw [sh.lr];exact hi
   rw [Qf h2] at h
   refine ⟨hi,?_⟩
   have e2:T.row i=T.rows[i]:=by unfold Tb.Tab.row;rw [Qi,Qf h2];rfl
   rw [e2]
   exact (Xi h).symm
 . rw [Q7 (by rw [sh.lr];omega)] at h
   cases h
theorem Jp7 (k:Nat):∀ {i o:Nat},rf T n k i=some o->o<i
 | i+1,o,h=>by
  rw [rf] at h
  cases e:rf T n k i with
  | none=>
   rw [e] at h
   simp only at h
   split at h
   . cases h;omega
   . cases h
  | some p=>
   rw [e] at h
   simp only at h
   have:=Jp7 k e
   split at h
   . cases h;omega
   . cases h;omega
end
structure Names (m n be:Nat) (T:Tb.Tab):Prop where
 bi:∀ i i',i<m->i'<m->T.b i=T.b i'->i=i'
 fi:∀ j j',j<n->j'<n->T.f j=T.f j'->j=j'
 ne:∀ i j,i<m->j<n->T.b i≠T.f j
 bl:∀ i,i<m->T.b i<be
 fl:∀ j,j<n->T.f j<be
noncomputable def Jmw (T:Tb.Tab) (k i ν:Nat):Int:=(if ν = T.f k then T.q else 0)-Tb.Jo i λ i=>if T.b i = ν then T.e i k else 0
noncomputable def dl (T:Tb.Tab) (be k i:Nat):List Int:=(Qn be).map (Jmw T k i)
theorem Jh3 {T:Tb.Tab}{be k i:Nat}:(dl T be k i).length=be:=by unfold dl;rw [Qb,Q2]
theorem Jor {T:Tb.Tab}{be k i ν:Nat}(h:ν < be):(dl T be k i)[ν]? = some (Jmw T k i ν):=by unfold dl;rw [Qk,Xs h];rfl
theorem Jwn {T:Tb.Tab}{be k:Nat}(h:T.f k<be):(Qr be (0:Int)).set (T.f k) T.q=dl T be k 0:=by
 apply X5
 intro i
 by_cases hi:i<be
 . rw [Jor hi,J3z,Ub,U2,if_pos hi]
   unfold Jmw
   show _=some (_-(0:Int))
   rw [J42]
   by_cases e:T.f k=i
   . rw [if_pos e,if_pos h,if_pos e.symm]
   . rw [if_neg e,if_neg (Qj e)]
 . rw [Q7 (by rw [Qs,Ub];omega),Q7 (by rw [Jh3];omega)]
theorem Jzn {m n be:Nat}{T:Tb.Tab}(N:Names m n be T) {k:Nat}(hk:k<n) {i:Nat}(hi:i<m):∀ c,c<=i->Jmw T k c (T.b i)=0:=by
 intro c hc
 unfold Jmw
 rw [if_neg (N.ne i k hi hk)]
 have:Tb.Jo c (λ j=>if T.b j=T.b i then T.e j k else 0)=0:=by
  induction c with
  | zero=>rfl
  | succ c ih=>
   show Tb.Jo c _+(if T.b c=T.b i then T.e c k else 0)=0
   rw [ih (by omega),if_neg λ e=>by have:=N.bi c i (by omega) hi e;omega]
   rfl
 rw [this]
 rfl
theorem Jwo {m n be:Nat}{T:Tb.Tab}(N:Names m n be T) {k:Nat}(hk:k<n) {i:Nat}(hi:i<m):(dl T be k i).set (T.b i) (-(T.e i k))=dl T be k (i+1):=by
 apply X5
 intro ν
 by_cases hν:ν < be
 . rw [Jor hν,J3z,Jh3,Jor hν]
   have st:Jmw T k (i+1) ν = Jmw T k i ν - (if T.b i = ν then T.e i k else 0):=by
    unfold Jmw
    show _-(Tb.Jo i _+(if T.b i = ν then T.e i k else 0))=_
    omega
   rw [st]
   by_cases e:T.b i = ν
   . rw [if_pos e,if_pos e,if_pos (N.bl i hi),<- e,Jzn N hk hi i (Ql _)]
     congr 1
     omega
   . rw [if_neg e,if_neg e,J42]
 . rw [Q7 (by rw [Qs,Jh3];omega),Q7 (by rw [Jh3];omega)]
theorem Jwp {T:Tb.Tab}{be k m:Nat}:dl T be k m=(Qn be).map (T.dir m k):=rfl
def Jee (C:Addr):GSp:=λ as n' Q=>∃ (T:Tb.Tab) (m n k nw nr be:Nat),as=[.d (Wn C ⟨(nw:Int),(nr:Int),(be:Int)⟩ T),.d (Jq k)]/\Shape m n T/\Names m n be T/\k<n/\nw<=be/\be<=1000/\Zc ((Qn nw).map (T.dir m k))≠0/\((Zc ((Qn nw).map (T.dir m k)):Nat):Int)<2^9000/\Q (.tuple (((Qn nw).map (T.dir m k)).map λ x=>.int (x/((Zc ((Qn nw).map (T.dir m k)):Nat):Int)))) n'
noncomputable def wl (q:Int) (be:Nat) (W:List Nat):List Int:=(Qn be).map λ ν=>Tb.ind W ν q
theorem Jh4 {q:Int}{be:Nat}{W:List Nat}:(wl q be W).length=be:=by unfold wl;rw [Qb,Q2]
theorem Jos {q:Int}{be ν:Nat}{W:List Nat}(h:ν < be):(wl q be W)[ν]? = some (Tb.ind W ν q):=by unfold wl;rw [Qk,Xs h];rfl
theorem Jzo {q:Int}{be:Nat}:Qr be (0:Int)=wl q be []:=by
 apply X5
 intro i
 by_cases h:i<be
 . rw [Jos h,U2,if_pos h]
   unfold Tb.ind
   rw [if_neg Uf]
 . rw [Q7 (by rw [Ub];omega),Q7 (by rw [Jh4];omega)]
theorem Jwq {q:Int}{be w:Nat}{W:List Nat}(h:w<be):(wl q be W).set w q=wl q be (W++[w]):=by
 apply X5
 intro ν
 by_cases hν:ν < be
 . rw [Jos hν,J3z,Jh4,Jos hν]
   unfold Tb.ind
   by_cases e:w = ν
   . rw [if_pos e,if_pos h,if_pos (by rw [<- e];simp)]
   . rw [if_neg e]
     by_cases c:ν∈W
     . rw [if_pos c,if_pos (Xk _ c)]
     . rw [if_neg c,if_neg]
       intro z
       rcases Q4.mp z with z | z
       . exact c z
       . exact e (Qq.mp z).symm
 . rw [Q7 (by rw [Qs,Jh4];omega),Q7 (by rw [Jh4];omega)]
open Classical in
noncomputable def shN (T:Tb.Tab) (m:Nat) (W:List Nat) (i ν:Nat):Int:=Tb.Jo i (λ j=>if T.f j = ν then -T.rise m W j else 0)+(if (∃ j,j<i/\T.f j = ν) then 0 else Tb.ind W ν T.q)
noncomputable def sl (T:Tb.Tab) (m be:Nat) (W:List Nat) (i:Nat):List Int:=(Qn be).map (shN T m W i)
theorem Jh5 {T:Tb.Tab}{m be i:Nat}{W:List Nat}:(sl T m be W i).length=be:=by unfold sl;rw [Qb,Q2]
theorem Juh {T:Tb.Tab}{m be i ν:Nat}{W:List Nat}(h:ν < be):(sl T m be W i)[ν]? = some (shN T m W i ν):=by unfold sl;rw [Qk,Xs h];rfl
theorem Jwr {T:Tb.Tab}{m be:Nat}{W:List Nat}:wl T.q be W=sl T m be W 0:=by
 unfold wl sl
 refine Ug λ ν _=>?_
 unfold shN
 show _=(0:Int)+_
 rw [if_neg (by rintro ⟨j,hj,_⟩;omega),J20]
theorem Jws {m n be i:Nat}{T:Tb.Tab}{W:List Nat}(N:Names m n be T) (hi:i<n):(sl T m be W i).set (T.f i) (-(T.rise m W i))=sl T m be W (i+1):=by
 apply X5
 intro ν
 by_cases hν:ν < be
 . rw [Juh hν,J3z,Jh5,Juh hν]
   by_cases e:T.f i = ν
   . rw [if_pos e,if_pos (N.fl i hi)]
     unfold shN
     rw [if_pos ⟨i,by omega,e⟩]
     show _=some (Tb.Jo i (λ j=>if T.f j = ν then -T.rise m W j else 0)+(if T.f i = ν then -T.rise m W i else 0)+0)
     have z:∀ c,c<=i->Tb.Jo c (λ j=>if T.f j = ν then -T.rise m W j else 0)=0:=by
      intro c hc
      induction c with
      | zero=>rfl
      | succ c ih=>
       show Tb.Jo c _+(if T.f c = ν then -T.rise m W c else 0)=0
       rw [ih (by omega),if_neg λ h=>by have:=N.fi c i (by omega) hi (h.trans e.symm);omega]
       rfl
     rw [z i (Ql _),if_pos e]
     congr 1
     omega
   . rw [if_neg e]
     unfold shN
     show some (_+_)=some (Tb.Jo i (λ j=>if T.f j = ν then -T.rise m W j else 0)+(if T.f i = ν then -T.rise m W i else 0)+_)
     rw [if_neg e,J6y]
     congr 2
     by_cases c:∃ j,j<i/\T.f j = ν
     . obtain ⟨j,h1,h2⟩:=c
       rw [if_pos ⟨j,h1,h2⟩,if_pos ⟨j,by omega,h2⟩]
     . rw [if_neg c,if_neg]
       rintro ⟨j,h1,h2⟩
       by_cases z:j=i
       . rw [z] at h2;exact e h2
       . exact c ⟨j,by omega,h2⟩
 . rw [Q7 (by rw [Qs,Jh5];omega),Q7 (by rw [Jh5];omega)]
def Jh6 (C:Addr):GSn:=λ as n' Q=>∃ (T:Tb.Tab) (m n nw nr be:Nat) (W:List Nat),as=[.d (Wn C ⟨(nw:Int),(nr:Int),(be:Int)⟩ T),.d (.list (W.map Jq))]/\Shape m n T/\Names m n be T/\(∀ w∈W,w<be)/\nw<=be/\be<=1000/\Q (((sl T m be W n).drop nw).map .int) n'
theorem Jzp {m n i:Nat}{T:Tb.Tab}{x:J9i}{f:Nat->Int}(sh:Shape m n T) (h:(Vf (T.fr.map Jq) (((Qn n).map f).map .int))[i]? = some x):i<n/\x = .tuple [Jq (T.f i),.int (f i)]:=by
 unfold Vf at h
 rw [J2q,Qk,Qk,Qk] at h
 by_cases hi:i<n
 . have h1:i<T.fr.length:=by rw [sh.lf];exact hi
   rw [Qf h1,Xs hi] at h
   refine ⟨hi,?_⟩
   have e1:T.f i=T.fr[i]:=by unfold Tb.Tab.f;rw [Qi,Qf h1];rfl
   rw [e1]
   exact (Xi h).symm
 . rw [Q7 (by rw [sh.lf];omega)] at h
   cases h
def Ja0 (C:Addr):GSp:=λ as n' Q=>∃ (T:Tb.Tab) (m n nw nr be:Nat) (W:List Nat),as=[.d (Wn C ⟨(nw:Int),(nr:Int),(be:Int)⟩ T),.d (.list (W.map Jq))]/\Shape m n T/\Names m n be T/\(∀ w∈W,w<be)/\nw<=be/\be<=1000/\nw<=nr/\Zc ((sl T m be W n).drop nw)≠0/\((Zc ((sl T m be W n).drop nw):Nat):Int)<2^9000 /\
 Q (.tuple [.tuple (((((sl T m be W n).drop nw).map λ x=>x/((Zc ((sl T m be W n).drop nw):Nat):Int)).take (nr-nw)).map .int),.tuple (((((sl T m be W n).drop nw).map λ x=>x/((Zc ((sl T m be W n).drop nw):Nat):Int)).drop (nr-nw)).map .int)]) n'
section
variable {T:Tb.Tab}{n k:Nat}
theorem Jk7:∀ {i:Nat},rf T n k i=none->∀ j,j<i->T.e j k<=0
 | 0,_,j,hj=>by omega
 | i+1,h,j,hj=>by
  rw [rf] at h
  cases e:rf T n k i with
  | none=>
   rw [e] at h
   simp only at h
   split at h
   . cases h
   . rename_i c
     by_cases z:j=i
     . rw [z];omega
     . exact Jk7 e j (by omega)
  | some o=>
   rw [e] at h
   simp only at h
   split at h<;>cases h
theorem Jot {a o:Nat}(ha:T.e a n=0) (ho:T.e o n=0):Jh1 T n a o k=decide (T.b a<T.b o):=by
 unfold Jh1
 rw [ha,ho,X1,X1]
 simp
theorem Jp8 {m:Nat}(z:∀ i,i<m->T.e i n=0):∀ {i l:Nat},i<=m->rf T n k i=some l->0<T.e l k/\∀ j,j<i->0<T.e j k->T.b l<=T.b j
 | 0,l,_,h=>by cases h
 | i+1,l,hm,h=>by
  rw [rf] at h
  cases e:rf T n k i with
  | none=>
   rw [e] at h
   simp only at h
   split at h
   . rename_i c
     cases h
     refine ⟨c,λ j hj hp=>?_⟩
     by_cases y:j=i
     . rw [y];exact Ql _
     . have:=Jk7 e j (by omega)
       omega
   . cases h
  | some o=>
   rw [e] at h
   simp only at h
   obtain ⟨p1,p2⟩:=Jp8 z (i:=i) (by omega) e
   have lo:=Jp7 k e
   rw [Jot (z i (by omega)) (z o (by omega))] at h
   split at h
   . rename_i c
     cases h
     refine ⟨c.1,λ j hj hp=>?_⟩
     have c2:=of_decide_eq_true c.2
     by_cases y:j=i
     . rw [y];exact Ql _
     . have:=p2 j (by omega) hp
       omega
   . rename_i c
     cases h
     refine ⟨p1,λ j hj hp=>?_⟩
     by_cases y:j=i
     . rw [y] at hp ⊢
       rcases Ud (T.b i) (T.b l) with q | q
       . exact absurd ⟨hp,decide_eq_true q⟩ c
       . exact q
     . exact p2 j (by omega) hp
end
section
variable {m n be:Nat}{c:Nat->Tb.Vec}{rhs:Tb.Vec}{T:Tb.Tab}{W:List Nat}
theorem Jmx (b:Nat) (hb:1<=b):∀ k d,Tb.Jiq b k<=Tb.Jiq b (k+d)
 | k,0=>Ql _
 | k,d+1=>by
  refine Xl (Jmx b hb k d) ?_
  show Tb.Jiq b (k+d)<=(k+d+1)*b*Tb.Jiq b (k+d)
  exact Nat.le_mul_of_pos_left _ (Nat.mul_pos (by omega) hb)
theorem Jri (hm:m<=18):Tb.Jiq 100 m<2^4000:=by
 have h1:=Jmx 100 (by decide) m (18-m)
 rw [show m+(18-m)=18 by omega] at h1
 exact J3d h1 (by decide +kernel)
structure Small (m:Nat) (c:Nat->Tb.Vec) (rhs:Tb.Vec):Prop where
 c:∀ ν r,r<m->(c ν r).natAbs<=100
 r:∀ r,r<m->(rhs r).natAbs<=100
theorem Jh7 (S:Small m c rhs) (h:Tb.TabOk m n c rhs T) {i:Nat}{v:Tb.Vec}(hv:∀ r,r<m->(v r).natAbs<=100):(Tb.cr m (T.bd.map c) i v).natAbs<=Tb.Jiq 100 m:=by
 unfold Tb.cr
 refine Tb.Jtz m _ (by rw [Qs,Qb,h.lb]) λ j hj r hr=>?_
 unfold Tb.atV
 have hl:j<(T.bd.map c).length:=by rw [Qb,h.lb];exact hj
 by_cases e:i=j
 . subst e
   rw [Tb.Zn hl]
   exact hv r hr
 . rw [Tb.Vb e]
   have:=Tb.at_map (c:=c) (l:=T.bd) (i:=j) (by rw [h.lb];exact hj)
   unfold Tb.atV at this
   rw [this]
   exact S.c _ r hr
theorem Jcd (S:Small m c rhs) (h:Tb.TabOk m n c rhs T) (hm:m<=18) (hn:n<=100):Shape m n T:=by
 have fs:=Jri hm
 refine ⟨h.lb,h.lf,h.lr,h.lw,by omega,hn,λ r hr x hx=>?_,h.qpos,?_⟩
 . obtain ⟨i,hi⟩:=Ur.mp hr
   obtain ⟨j,hj⟩:=Ur.mp hx
   have il:=(Qt.mp hi).1
   rw [h.lr] at il
   have er:T.row i=r:=by unfold Tb.Tab.row;rw [Qi,hi];rfl
   have jl:=(Qt.mp hj).1
   rw [<- er,h.lw i il] at jl
   have ex:T.e i j=x:=by unfold Tb.Tab.e;rw [er,Qi,hj];rfl
   rw [<- ex]
   refine J3d ?_ fs
   by_cases z:j<n
   . rw [h.en i il j z]
     exact Jh7 S h λ r hr=>S.c _ r hr
   . rw [show j=n by omega,h.el i il]
     exact Jh7 S h S.r
 . have:T.q.natAbs<=Tb.Jiq 100 m:=by
    rw [h.qq]
    refine Tb.Jtz m _ (by rw [Qb,h.lb]) λ j hj r hr=>?_
    rw [Tb.at_map (by rw [h.lb];exact hj)]
    exact S.c _ r hr
   have q0:=h.qpos
   have:T.q.natAbs<2^4000:=J3d this fs
   have e:((T.q.natAbs:Nat):Int)=T.q:=J3w (by omega)
   rw [<- e]
   exact_mod_cast this
theorem Jmy (h:Tb.TabOk m n c rhs T) (bl:∀ i,i<m->T.b i<be) (fl:∀ j,j<n->T.f j<be):Names m n be T:=⟨h.bi,h.fi,h.ne,bl,fl⟩
theorem Jui (h:Tb.TabOk m n c rhs T) (N:Names m n be T) {l k:Nat}(hl:l<m) (hk:k<n) (hp:0<T.e l k):Names m n be (T.ex l k):=by
 refine Jmy (h.ex hl hk hp) (λ i hi=>?_) (λ j hj=>?_)
 . by_cases e:i=l
   . rw [e,Tb.Jdd h hl];exact N.fl k hk
   . rw [Tb.Jk4 e];exact N.bl i hi
 . by_cases e:j=k
   . rw [e,Tb.Jcc h hk];exact N.bl l hl
   . rw [Tb.Jir e];exact N.fl j hj
theorem Juj (ν:Nat):shN T m W n ν = T.share m n W ν:=by
 unfold shN Tb.Tab.share
 congr 1
end
section
variable {m n be:Nat}{c:Nat->Tb.Vec}{T:Tb.Tab}{W:List Nat}
noncomputable abbrev Jc3:Tb.Vec:=λ _=>0
theorem Jzq (h:Tb.TabOk m n c Jc3 T) {i:Nat}(hi:i<m):T.e i n=0:=by
 rw [h.el i hi]
 unfold Tb.cr
 have hl:i<(T.bd.map c).length:=by rw [Qb,h.lb];exact hi
 refine Tb.Jtx (a:=i) (by rw [Qs];exact hl) (by rw [Qs,Qb,h.lb]) λ r _=>?_
 unfold Tb.atV
 rw [Tb.Zn hl]
theorem Jwt (h:Tb.TabOk m n c Jc3 T) {l k:Nat}(hk:k<n) (hr:0<T.rise m W k) (hf:∀ j,j<n->0<T.rise m W j->T.f k<=T.f j) (hl:rf T n k m=some l):Tb.Ys m n W T l k:=by
 obtain ⟨p1,p2⟩:=Jp8 (T:=T) (n:=n) (k:=k) (λ i hi=>Jzq h hi) (Ql m) hl
 exact ⟨Jp7 k hl,hk,hr,hf,p1,p2⟩
theorem Jzr {k:Nat}(hk:k<n) (hr:0<T.rise m W k) (hl:rf T n k m=none):Tb.Ray m n W T k:=⟨hk,hr,λ i hi=>Jk7 hl i hi⟩
end
theorem Jrj {m n:Nat}{c:Nat->Tb.Vec}{rhs:Tb.Vec}{W:List Nat}{N:Nat}{st:Nat->Tb.Tab}{l k:Nat->Nat}(h:Tb.Path m n c rhs W N st l k) {l' k':Nat}(s:Tb.Ys m n W (st N) l' k'):∃ st' l2 k2,Tb.Path m n c rhs W (N+1) st' l2 k2/\st' (N+1)=(st N).ex l' k'/\∀ t,t<=N->st' t=st t:=by
 refine ⟨λ t=>if t<=N then st t else (st N).ex l' k',λ t=>if t<N then l t else l',λ t=>if t<N then k t else k',⟨λ t ht=>?_,λ t ht=>?_,λ t ht=>?_⟩,?_,λ t ht=>if_pos ht⟩
 . by_cases z:t<=N
   . simp only [if_pos z];exact h.ok t z
   . simp only [if_neg z];exact (h.ok N (Ql _)).ex s.hl s.hk s.pos
 . by_cases z:t<N
   . simp only [if_pos z,if_pos (Uz z)];exact h.sp t z
   . have e:t=N:=by omega
     subst e
     simp only [if_neg (Xf _),if_pos (Ql _)];exact s
 . by_cases z:t<N
   . simp only [if_pos z,if_pos (Uz z),if_pos (show t+1<=N by omega)];exact h.ex t z
   . have e:t=N:=by omega
     subst e
     simp only [if_neg (Xf _),if_pos (Ql _),if_neg (show ¬ t+1<=t by omega)]
 . simp only [if_neg (show ¬ N+1<=N by omega)]
theorem Juk {m n:Nat}{c:Nat->Tb.Vec}{rhs:Tb.Vec}{W:List Nat}{T:Tb.Tab}(h:Tb.TabOk m n c rhs T):Tb.Path m n c rhs W 0 (λ _=>T) (λ _=>0) (λ _=>0):=⟨λ _ _=>h,λ t ht=>by omega,λ t ht=>by omega⟩
def Jh8:GSn:=λ as n Q=>∃ (R U:Int) (ws:List Way),as=[.d (J7 R U ws),.d .none]/\BookOk R U ws/\Q ((Qr (U+R).toNat (0:Int)).map .int) n
noncomputable abbrev Y0 (k:Nat):V:=.int (k:Int)
noncomputable def Jmz (z:Siz) (q:Int) (fa ba:Addr) (rv:V):List (Str×V):=[("first_purse",.int z.fp),("first_room",.int z.fr),("behind_all",.int z.be),("free",.ref fa),("bound",.ref ba),("rows",rv),("divisor",.int q)]
structure TabH (C:Addr) (ex:List Addr) (p fa ba:Addr) (z:Siz) (T:Tb.Tab) (H:Hp):Prop where
 o:∃ (dx:Addr) (rv:V),H p=some (.ins C dx (Jmz z T.q fa ba rv))/\Rep (p::fa::ba::ex) H (.list (T.rows.map Yz)) rv
 f:H fa=some (.lst (T.fr.map Y0))
 b:H ba=some (.lst (T.bd.map Y0))
 pf:p≠fa
 pb:p≠ba
 fb:fa≠ba
 np:p∉ex
 nf:fa∉ex
 nb:ba∉ex
 al:Alc ex H
theorem Jjt {ex:List Addr}{H:Hp}(ks:List Nat):Reps ex H (ks.map Jq) (ks.map Y0):=by
 have:=Jjn (ex:=ex) (H:=H) (ks.map λ k:Nat=>(k:Int))
 rw [Qy,Qy] at this
 exact this
theorem TabH.rep {C p fa ba:Addr}{ex:List Addr}{z:Siz}{T:Tb.Tab}{H:Hp}(h:TabH C ex p fa ba z T H) (lf:T.fr.length<=sizeLine) (lb:T.bd.length<=sizeLine):Rep ex H (Wn C z T) (.ref p):=by
 obtain ⟨dx,rv,h1,h2⟩:=h.o
 refine .obj (fs:=Jmz z T.q fa ba rv) (ds:=[.int z.fp,.int z.fr,.int z.be,.list (T.fr.map Jq),.list (T.bd.map Jq),.list (T.rows.map Yz),.int T.q]) h1 h.np rfl ?_
 refine .cons (.int _) (.cons (.int _) (.cons (.int _) (.cons (.list h.f h.nf (by rw [Qb];exact lf) (Jjt _)) (.cons (.list h.b h.nb (by rw [Qb];exact lb) (Jjt _)) (.cons (Rep.sub (Rep.sub (Rep.sub h2))) (.cons (.int _) .nil))))))
theorem TabH.keep {C p fa ba:Addr}{ex:List Addr}{z:Siz}{T:Tb.Tab}{H H':Hp}(h:TabH C ex p fa ba z T H) (k:Kp [] H H'):TabH C ex p fa ba z T H':=by
 obtain ⟨dx,rv,h1,h2⟩:=h.o
 exact ⟨⟨dx,rv,k _ _ h1 (by simp),h2.keep (k.mono λ a ha=>by cases ha)⟩,k _ _ h.f (by simp),k _ _ h.b (by simp),h.pf,h.pb,h.fb,h.np,h.nf,h.nb,h.al.kp k⟩
def Jzs (C:Addr):Sp:=λ vs H Q _=>∃ (ex:List Addr) (p fa ba:Addr) (z:Siz) (T:Tb.Tab) (m n l k:Nat),vs=[.ref p,Y0 l,Y0 k]/\TabH C ex p fa ba z T H/\Shape m n T/\l<m/\k<n/\∀ H',TabH C ex p fa ba z (T.ex l k) H'->Kp [p,fa,ba] H H'->Q .non H'
structure Kept (m n be:Nat) (c:Nat->Tb.Vec) (T0 T:Tb.Tab):Prop where
 ok:Tb.TabOk m n c Jc3 T
 nm:Names m n be T
 tot:∀ g,T.tot m n g=T0.tot m n g
structure Fit (nw m n:Nat) (c:Nat->Tb.Vec) (some:List Nat) (T:Tb.Tab):Prop where
 cols:Tb.Cols nw m c
 sm:∀ k∈some,k<nw
 len:some.length=n
 tot:∀ g:Nat->Int,T.tot m n g=Tb.Jo m (λ s=>g (nw+s))+Tb.Jo n (λ j=>g (some.getD j 0))
def Jk8 (C:Addr):Sp:=λ vs H Q _=>∃ (ex:List Addr) (p fa ba:Addr) (nw nr be m n:Nat) (c:Nat->Tb.Vec) (T:Tb.Tab) (W some:List Nat) (wv:V),vs=[.ref p,wv]/\TabH C ex p fa ba ⟨(nw:Int),(nr:Int),(be:Int)⟩ T H/\Rep (p::fa::ba::ex) H (.list (W.map Jq)) wv/\Small m c Jc3/\m<=18/\n<=100/\nw<=be/\be<=1000/\Kept m n be c T T/\Fit nw m n c some T /\
 (∀ (H':Hp) (T':Tb.Tab) (k:Nat) (v:V),TabH C ex p fa ba ⟨(nw:Int),(nr:Int),(be:Int)⟩ T' H'->Kept m n be c T T'->Tb.Ray m n W T' k->Kp [p,fa,ba] H H'->Rep ex H' (.tuple (((Qn nw).map (T'.dir m k)).map λ x=>.int (x/((Zc ((Qn nw).map (T'.dir m k)):Nat):Int)))) v->Q v H') /\
 (∀ (H':Hp) (T':Tb.Tab),TabH C ex p fa ba ⟨(nw:Int),(nr:Int),(be:Int)⟩ T' H'->Kept m n be c T T'->Tb.Last m n W T'->Kp [p,fa,ba] H H'->Q .non H')
theorem Jp9 {m n be:Nat}{c:Nat->Tb.Vec}{T0 T:Tb.Tab}{W:List Nat}{l k:Nat}(h:Kept m n be c T0 T) (s:Tb.Ys m n W T l k):Kept m n be c T0 (T.ex l k):=
 ⟨h.ok.ex s.hl s.hk s.pos,Jui h.ok h.nm s.hl s.hk s.pos,λ g=>by rw [Tb.Jt1 h.ok s.hl s.hk];exact h.tot g⟩
theorem Jef {sp:GSp}{C p fa ba:Addr}{ex:List Addr}{z:Siz}{T:Tb.Tab}{H:Hp}{as:List Vl}{vs:List V}{Q:VK}{E:XK}{P:J9i->Nat->Prop}(h:TabH C ex p fa ba z T H) (lf:T.fr.length<=sizeLine) (lb:T.bd.length<=sizeLine) (ra:B4 Src.no ex H as vs) (hs:sp (.d (Wn C z T)::as) 0 P) (k:∀ d n' v H',P d n'->Kp [] H H'->Rep ex H' d v->Q v H'):Jm sp (.ref p::vs) H Q E:=
 ⟨Src.no,ex,.d (Wn C z T)::as,0,P,⟨⟨_,rfl,h.rep lf lb⟩,ra⟩,λ a ha=>(by cases ha),h.al,trivial,hs,λ d n' v H' p s r=>k d n' v H' p s.1 r⟩
structure Turn (C:Addr) (ex:List Addr) (p fa ba:Addr) (z:Siz) (m n be:Nat) (c:Nat->Tb.Vec) (W:List Nat) (T0:Tb.Tab) (H0:Hp) (wv:V) (N:Nat) (T:Tb.Tab) (H:Hp):Prop where
 h:TabH C ex p fa ba z T H
 k:Kept m n be c T0 T
 kp:Kp [p,fa,ba] H0 H
 w:Rep (p::fa::ba::ex) H (.list (W.map Jq)) wv
 path:∃ st l k,Tb.Path m n c Jc3 W N st l k/\st N=T/\∀ t,t<=N->Names m n be (st t)
theorem Turn.few {C p fa ba:Addr}{ex:List Addr}{z:Siz}{m n be N:Nat}{c:Nat->Tb.Vec}{W:List Nat}{T0 T:Tb.Tab}{H0 H:Hp}{wv:V}(t:Turn C ex p fa ba z m n be c W T0 H0 wv N T H):N<be^m:=by
 obtain ⟨st,l,k,hp,_,hn⟩:=t.path
 refine hp.bound λ s hs x hx=>?_
 obtain ⟨i,hi⟩:=Ur.mp hx
 have lt:=(Qt.mp hi).1
 rw [(hp.ok s hs).lb] at lt
 have:=(hn s hs).bl i lt
 unfold Tb.Tab.b at this
 rwa [Qi,hi] at this
theorem Turn.next {C p fa ba:Addr}{ex:List Addr}{z:Siz}{m n be N l k:Nat}{c:Nat->Tb.Vec}{W:List Nat}{T0 T:Tb.Tab}{H0 H H':Hp}{wv:V}(t:Turn C ex p fa ba z m n be c W T0 H0 wv N T H) (s:Tb.Ys m n W T l k) (h':TabH C ex p fa ba z (T.ex l k) H') (k':Kp [p,fa,ba] H H'):Turn C ex p fa ba z m n be c W T0 H0 wv (N+1) (T.ex l k) H':=by
 obtain ⟨st,l1,k1,hp,e,hn⟩:=t.path
 subst e
 obtain ⟨st',l2,k2,hp',e',same⟩:=Jrj hp s
 refine ⟨h',Jp9 t.k s,t.kp.trans k',t.w.keep (k'.mono λ b hb=>by simp only [Qd,Uf,or_false] at hb ⊢;rcases hb with h | h | h<;>simp [h]),st',l2,k2,hp',e',λ u hu=>?_⟩
 by_cases y:u<=N
 . rw [same u y];exact hn u y
 . rw [show u=N+1 by omega,e']
   exact (Jp9 t.k s).nm
theorem Jh9 {E:XK}{C p fa ba:Addr}{ex:List Addr}{z:Siz}{m n be N:Nat}{c:Nat->Tb.Vec}{W:List Nat}{T0 T:Tb.Tab}{H0 H:Hp}{wv:V}{σ:L2.St}{Q:VK}(S:Small m c Jc3) (hm:m<=18) (hn:n<=100) (t:Turn C ex p fa ba z m n be c W T0 H0 wv N T H) (s0:σ[0]? = some (some (.ref p))) (s1:σ[1]? = some (some wv))
 (q1:∀ (k:Nat) (H':Hp),k<n->0<T.rise m W k->(∀ j,j<n->0<T.rise m W j->T.f k<=T.f j)->Kp [] H H'->Q (Y0 k) H') (q2:∀ H',Tb.Last m n W T->Kp [] H H'->Q .non H'):Ji8 C "place_to_raise" (Jm (Jct C)) [] E (Ze 0) (Ye (Ze 1) Jam) σ H Q:=by
 have sh:=Jcd S t.k.ok hm hn
 have hs:sizeLine=16777216:=J9p
 obtain ⟨dx,rv,h1,h2⟩:=t.h.o
 refine ⟨_,s0,p,dx,_,rfl,h1,rfl,_,s1,?_⟩
 show Jm (Jct C) [.ref p,wv] H Q E
 refine Jef (sp:=Jct C) (E:=E) (vs:=[wv]) (as:=[.d (.list (W.map Jq))]) t.h (by rw [sh.lf];omega) (by rw [sh.lb];omega) ⟨⟨_,rfl,Rep.sub (Rep.sub (Rep.sub t.w))⟩,trivial⟩ (P:=λ d _=>(∃ k,d=Jq k/\k<n/\0<T.rise m W k/\∀ j,j<n->0<T.rise m W j->T.f k<=T.f j)\/(d = .none/\Tb.Last m n W T)) ⟨z,T,m,n,W,rfl,sh,t.k.ok.fi,λ k a b c=>.inl ⟨k,rfl,a,b,c⟩,λ h=>.inr ⟨rfl,⟨h⟩⟩⟩ λ d n' v H' hp kp r=>?_
 rcases hp with ⟨k,rfl,a,b,c⟩ | ⟨rfl,h⟩
 . cases r
   exact q1 k H' a b c kp
 . cases r
   exact q2 H' h kp
theorem Jrk {E:XK}{C p fa ba:Addr}{ex:List Addr}{z:Siz}{m n be N k:Nat}{c:Nat->Tb.Vec}{W:List Nat}{T0 T:Tb.Tab}{H0 H:Hp}{wv:V}{σ:L2.St}{Q:VK}(S:Small m c Jc3) (hm:m<=18) (hn:n<=100) (t:Turn C ex p fa ba z m n be c W T0 H0 wv N T H) (s0:σ[0]? = some (some (.ref p))) (s2:σ[2]? = some (some (Y0 k))) (hk:k<n)
 (q1:∀ (l:Nat) (H':Hp),rf T n k m=some l->Kp [] H H'->Q (Y0 l) H') (q2:∀ H',rf T n k m=none->Kp [] H H'->Q .non H'):Ji8 C "row_to_free" (Jm (Jff C)) [] E (Ze 0) (Ye (Ze 2) Jam) σ H Q:=by
 have sh:=Jcd S t.k.ok hm hn
 have hs:sizeLine=16777216:=J9p
 obtain ⟨dx,rv,h1,h2⟩:=t.h.o
 refine ⟨_,s0,p,dx,_,rfl,h1,rfl,_,s2,?_⟩
 show Jm (Jff C) [.ref p,Y0 k] H Q E
 refine Jef (sp:=Jff C) (E:=E) (vs:=[Y0 k]) (as:=[.d (Jq k)]) t.h (by rw [sh.lf];omega) (by rw [sh.lb];omega) ⟨⟨_,rfl,.int _⟩,trivial⟩ (P:=λ d _=>d=Jzm (rf T n k m)) ⟨z,T,m,n,k,rfl,sh,hk,rfl⟩ λ d n' v H' hp kp r=>?_
 subst hp
 cases e:rf T n k m with
 | none=>
  rw [e] at r
  cases r
  exact q2 H' e kp
 | some l=>
  rw [e] at r
  cases r
  exact q1 l H' e kp
theorem Turn.keep {C p fa ba:Addr}{ex:List Addr}{z:Siz}{m n be N:Nat}{c:Nat->Tb.Vec}{W:List Nat}{T0 T:Tb.Tab}{H0 H H':Hp}{wv:V}(t:Turn C ex p fa ba z m n be c W T0 H0 wv N T H) (k:Kp [] H H'):Turn C ex p fa ba z m n be c W T0 H0 wv N T H':=
 ⟨t.h.keep k,t.k,t.kp.trans (k.mono λ a ha=>by cases ha),t.w.keep (k.mono λ a ha=>by cases ha),t.path⟩
theorem J2i {s1 s2 s3 s4 r:TS}{D:Ends}{σ:L2.St}{H:Hp}(h:Jaq s1 (Jaq s2 (Jaq s3 s4)) { D with nx:=r D } σ H):Jaq s1 (Jaq s2 (Jaq s3 (Jaq s4 r))) D σ H:=h
theorem Jzt {ts:TS}{gs:GS}{N:List Str}{as:List Vl}{vs:List V}{H:Hp}{D:Ends}{P:List Vl->Prop} [T:SV ts gs] (r:B4 Src.no [] H as vs) (hp:as.all Jhc=true) (g:gs { nx:=λ env _=>P env,rt:=λ _ _=>False,rtn:=λ _ _=>False } (Jfz N as) 0) (k:∀ ex env σ H' n,At ⟨Src.no,[],H,[]⟩ ex env σ H' n->P env->D.nx σ H'):ts D (start N vs) H:=
 T.sv (C:=⟨Src.no,[],H,[]⟩) (G:={ nx:=λ env _=>P env,rt:=λ _ _=>False,rtn:=λ _ _=>False }) ⟨λ A h=>k _ _ _ _ _ A h,λ _ h=>h.elim,λ _ h=>h.elim,λ _ h=>h.elim,λ _ h=>h.elim,λ _ _ h=>h.elim,λ _ h=>h.elim⟩ (Jhd r hp (λ a ha=>by cases ha) (λ a ha=>by cases ha) trivial) g
def Jx2 (C p:Addr) (z:Siz) (T:Tb.Tab) (l k:Nat) (env:List Vl):Prop:=∃ ps:List (Addr×List J9i),env=[.pin (.ref p) (Wn C z T),.d (Jq l),.d (Jq k),.d (Yz (T.row l)),.own2 none ps]/\ps.map (·.2)=(T.ex l k).rows.map (·.map .int)
theorem Jul {a p fa ba:Addr}{xx:List Addr}(h1:a≠p) (h2:a≠fa) (h3:a≠ba) (h4:a∉xx):a∉p::fa::ba::xx:=λ z=>by
 rcases Qd.mp z with z | z
 . exact h1 z
 . rcases Qd.mp z with z | z
   . exact h2 z
   . rcases Qd.mp z with z | z
     . exact h3 z
     . exact h4 z
theorem Jm0 (ks:List Nat) (i j:Nat):(ks.map Y0).set i (Y0 j)=(ks.set i j).map Y0:=by rw [X6]
theorem Jwu {K:Qc}{C p fa ba:Addr}{xx:List Addr}{z:Siz}{T:Tb.Tab}{m n l k nn:Nat}{H H':Hp}{σ:L2.St}{Q:VK}{ex:List Addr}{env:List Vl}{rt:VK}(Y:TableOk K C) (hT:TabH C xx p fa ba z T H) (sh:Shape m n T) (hl:l<m) (hk:k<n) (A:At ⟨Src.no,[],H,[]⟩ ex env σ H' nn) (hP:Jx2 C p z T l k env) (q:∀ H',TabH C xx p fa ba z (T.ex l k) H'->Kp [p,fa,ba] H H'->Q .non H') :
 Jaq (Ju9 K (Ze 0) (Ze 4) "rows") (Jaq (Ju9 K (Ze 0) (tOp (Jlt K) (Ze 3) (Ze 2)) "divisor") (Jc5 (Jva (Ye (tOp (Jlt K) (Jnv K (Ze 0) "bound") (Ze 1)) (Ye (tOp (Jlt K) (Jnv K (Ze 0) "free") (Ze 2)) Jam))) (Jrt K 2 (gCons (Jnm (Jnv K (Ze 0) "free") (Ze 2) Jgv) (gCons (Jnm (Jnv K (Ze 0) "bound") (Ze 1) Jgv) gNil))))) { nx:=λ _ H'=>Q .non H',rt:=rt } σ H':=by
 obtain ⟨ps,rfl,hps⟩:=hP
 obtain ⟨e0,_⟩:=A.ev.sl 0 _ rfl
 obtain ⟨v1,e1,r1⟩:=A.ev.sl 1 _ rfl
 cases r1
 obtain ⟨v2,e2,r2⟩:=A.ev.sl 2 _ rfl
 cases r2
 obtain ⟨v3,e3,r3⟩:=A.ev.sl 3 _ rfl
 obtain ⟨a,e4,o4⟩:=A.ev.sl 4 _ rfl
 have s0:=Jl e0
 have s1:=Jl e1
 have s2:=Jl e2
 have s3:=Jl e3
 have s4:=Jl e4
 have kp:=A.kp
 have kp:Kp [] H H':=kp
 obtain ⟨dx,rv,o1,o2⟩:=hT.o
 have p1:=kp _ _ o1 (by simp)
 have f1:=kp _ _ hT.f (by simp)
 have b1:=kp _ _ hT.b (by simp)
 have oi:Jk [Vl.pin (.ref p) (Wn C z T),.d (Jq l),.d (Jq k),.d (Yz (T.row l)),.own2 none ps] σ 4=a::ps.map (·.1):=by
  unfold Jk;rw [e4];rfl
 have new:∀ b,b∈a::ps.map (·.1)->H b=none:=λ b hb=>A.new 4 b (by rw [oi];exact hb)
 have ne:∀ b,b∈a::ps.map (·.1)->b≠p/\b≠fa/\b≠ba:=λ b hb=>by
  have h:=new b hb
  refine ⟨λ z=>?_,λ z=>?_,λ z=>?_⟩
  . rw [z,o1] at h;cases h
  . rw [z,hT.f] at h;cases h
  . rw [z,hT.b] at h;cases h
 cases r3 with
 | @list ra rvs _ re rn rz rr=>
 have rp:ra≠p:=λ z=>by rw [z,p1] at re;cases re
 have rin:=Reps.ints_inv rr
 subst rin
 have hkr:k<(T.row l).length:=by rw [sh.lw l hl];omega
 have el:atI ((T.row l).map V.int) ((k:Nat):Int)=some (.int (T.e l k)):=by
  refine Yi (by omega) ?_
  unfold Tb.Tab.e
  rw [Q0,Qk,Qf hkr,Qi,Qf hkr]
  rfl
 have lb:l<T.bd.length:=by rw [sh.lb];exact hl
 have lf:k<T.fr.length:=by rw [sh.lf];exact hk
 have eb:atI (T.bd.map Y0) ((l:Nat):Int)=some (Y0 (T.b l)):=by
  refine Yi (by omega) ?_
  unfold Tb.Tab.b
  rw [Q0,Qk,Qf lb,Qi,Qf lb]
  rfl
 have ef:atI (T.fr.map Y0) ((k:Nat):Int)=some (Y0 (T.f k)):=by
  refine Yi (by omega) ?_
  unfold Tb.Tab.f
  rw [Q0,Qk,Qf lf,Qi,Qf lf]
  rfl
 have one:(2:Nat)<=sizeLine:=by rw [J9p];decide
 refine ⟨_,s4,_,s0,p,C,dx,_,rfl,p1,Y.c,Y.n6,Q5 rfl,?_⟩
 have pu:L2.putF "rows" (V.ref a) (Jmz z T.q fa ba rv)=Jmz z T.q fa ba (.ref a):=rfl
 rw [pu]
 refine ⟨_,s3,_,s2,ra,_,_,_,rfl,rfl,SqL.of (by rw [Jf rp];exact re),el,_,s0,p,C,dx,_,rfl,Jg,Y.c,Y.n7,Q5 rfl,?_⟩
 have pu2:L2.putF "divisor" (V.int (T.e l k)) (Jmz z T.q fa ba (.ref a))=Jmz z (T.e l k) fa ba (.ref a):=rfl
 rw [pu2,Jga]
 have fp:fa≠p:=Qj hT.pf
 have bp:ba≠p:=Qj hT.pb
 refine ⟨_,s0,p,C,dx,_,_,rfl,Jg,Y.c,Y.n5,rfl,_,s1,ba,_,_,_,rfl,rfl,SqL.of (by rw [Jf bp];exact b1),eb,_,s0,p,C,dx,_,_,rfl,Jg,Y.c,Y.n4,rfl,_,s2,fa,_,_,_,rfl,rfl,SqL.of (by rw [Jf fp];exact f1),ef,one,λ pt hpt=>?_⟩
 have ptp:pt≠p:=λ z=>by rw [z,Jg] at hpt;cases hpt
 have hpt':H' pt=none:=by rw [Jf ptp] at hpt;exact hpt
 have ptf:pt≠fa:=λ z=>by rw [z,f1] at hpt';cases hpt'
 have ptb:pt≠ba:=λ z=>by rw [z,b1] at hpt';cases hpt'
 refine ⟨pt,_,rfl,SqT.of Jg,rfl,_,_,rfl,_,s0,p,C,dx,_,_,rfl,by rw [Jf (Qj ptp),Jg],Y.c,Y.n4,rfl,_,s2,fa,_,_,k,rfl,rfl,by rw [Jf (Qj ptf),Jf fp];exact f1,B2 (by omega) (by rw [Qb];omega),?_⟩
 refine ⟨_,_,rfl,_,s0,p,C,dx,_,_,rfl,by rw [Jf hT.pf,Jf (Qj ptp),Jg],Y.c,Y.n5,rfl,_,s1,ba,_,_,l,rfl,rfl,by rw [Jf (Qj hT.fb),Jf (Qj ptb),Jf bp];exact b1,B2 (by omega) (by rw [Qb];omega),rfl,?_⟩
 rw [Jm0,Jm0]
 have same:∀ b o,H' b=some o->b≠p->b≠fa->b≠ba->upd (upd (upd (upd H' p (.ins C dx (Jmz z (T.e l k) fa ba (.ref a)))) pt (.tup [Y0 (T.b l),Y0 (T.f k)])) fa (.lst ((T.fr.set k (T.b l)).map Y0))) ba (.lst ((T.bd.set l (T.f k)).map Y0)) b=some o:=λ b o e n1 n2 n3=>by
  rw [Jf n3,Jf n2,Jf (Jn e hpt'),Jf n1];exact e
 refine q _ ⟨⟨dx,.ref a,?_,?_⟩,?_,?_,hT.pf,hT.pb,hT.fb,hT.np,hT.nf,hT.nb,λ b hb=>?_⟩ λ b o e nb=>?_
 . rw [Jf hT.pb,Jf hT.pf,Jf (Qj ptp),Jg];rfl
 . have na:=ne a Qg
   refine .list (same a _ o4.h na.1 na.2.1 na.2.2) (Jul na.1 na.2.1 na.2.2 λ z=>hT.al a z (new a Qg)) (by unfold Yt;rw [Qb,J9p];have:=o4.z;omega) ?_
   have go:∀ (qs:List (Addr×List J9i)) (rs:List (List Int)),(∀ x∈qs,x∈ps)->qs.map (·.2)=rs.map (·.map .int)->Reps (p::fa::ba::xx) (upd (upd (upd (upd H' p (.ins C dx (Jmz z (T.e l k) fa ba (.ref a)))) pt (.tup [Y0 (T.b l),Y0 (T.f k)])) fa (.lst ((T.fr.set k (T.b l)).map Y0))) ba (.lst ((T.bd.set l (T.f k)).map Y0))) (rs.map Yz) (Yt qs):=by
    intro qs
    induction qs with
    | nil=>
     intro rs _ e
     cases rs with
     | nil=>exact .nil
     | cons r rs=>cases e
    | cons x qs ih=>
     intro rs hm e
     cases rs with
     | nil=>cases e
     | cons r rs=>
      rw [Qz,Qz] at e
      injection e with e1 e2
      have hx:=hm x Qg
      obtain ⟨vs,g1,g2,g3⟩:=(o4.i x hx).h
      have nx:=ne x.1 (Qh _ (Qo.mpr ⟨x,hx,rfl⟩))
      rw [e1] at g3
      have:=Reps.ints_inv g3
      subst this
      exact .cons (.list (same _ _ g1 nx.1 nx.2.1 nx.2.2) (Jul nx.1 nx.2.1 nx.2.2 λ z=>hT.al x.1 z (new x.1 (Qh _ (Qo.mpr ⟨x,hx,rfl⟩)))) g2 (Reps.ints r)) (ih rs (λ y hy=>hm y (Qh _ hy)) e2)
   exact go ps _ (λ _ h=>h) hps
 . rw [Jf hT.fb,Jg];rfl
 . rw [Jg];rfl
 . cases e:H b with
   | none=>exact absurd e (hT.al b hb)
   | some o=>
    rw [same b o (kp b o e (by simp)) (λ z=>hT.np (by rw [<- z];exact hb)) (λ z=>hT.nf (by rw [<- z];exact hb)) (λ z=>hT.nb (by rw [<- z];exact hb))]
    exact Xt _
 . simp only [Qd,Uf,or_false,not_or] at nb
   exact same b o (kp b o e (by simp)) nb.1 nb.2.1 nb.2.2
end My
namespace L2
theorem Jit {M:Model}{A:J9o}{E:J9j->J9k->Prop}{s:J9k}{a b:J9j}{Q:J9j->J9k->Prop}(ha:s.TypeIs a "list") (hb:s.TypeIs b "list") (hc:J9l M A (call (.builtin "list.__iadd__") [a,b]) Q E s):J9l M A (inplaceOp .Add a b) Q E s:=by
 have hl:typeLookup (.type "list") (dunderI "add")=pure (some (.builtin "list.__iadd__")):=J8u.lookup
 unfold inplaceOp
 refine wpAny_holding ?_
 have hfi:fillsInplaceSlot (.type "list") "add" (Operator.Add == .Add)=pure false:=by
  unfold fillsInplaceSlot
  show (typeLookup (.type "list") (dunderI "add") >>= λ fi=>pure (fi.isSome && !isSeqSlot fi))=pure false
  rw [hl];rfl
 refine wpAny_bind (wpAny_typeOf ha (wpAny_bind (wpAny_of_eq hfi ?_)))
 show J9l M A (if false=true then _ else _) Q E s
 rw [if_neg Q6]
 refine wpAny_bind (wpAny_binaryOp1_none (nm:="add") ha hb PySem.noFill_list_add ?_)
 refine wpAny_bind (wpAny_of_eq (J5y hl (by decide +kernel)) ?_)
 exact wpAny_bind (wpAny_rule hc)
def ipL:TIp:=λ x y H Q=>∃ l b xs zs,x = .ref l/\y = .ref b/\H l=some (.lst xs)/\H b=some (.lst zs)/\xs.length+zs.length<=sizeLine/\Q (.ref l) (upd H l (.lst (xs++zs)))
theorem Jwv {X:Cx}:PIp X .Add ipL:=by
 intro pins s σ H x y v u Q I rx ru h
 obtain ⟨l,b,xs,zs,rfl,rfl,hH,hB,hz,q⟩:=h
 cases rx
 cases ru
 obtain ⟨z,its,n,r,hl,e⟩:=I.lstM hH
 obtain ⟨z2,its2,n2,r2,hl2,e2⟩:=I.lstM hB
 have hsz:its.toArray.size+its2.toArray.size<=sizeLine:=by rw [Xa,Xa];omega
 have hlong:¬ (!its.toArray.isEmpty&&J3t (its.toArray.size+its2.toArray.size))=true:=by
  rw [Jgw hsz,J7m]
  exact Q6
 refine Jit (a:=.ref l) (b:=.ref b) (s:=s) ⟨_,e,rfl⟩ ⟨_,e2,rfl⟩ ?_
 refine call_meets J8u ⟨_,e,rfl⟩ F.entry_list_iadd (F.args_list_iadd_2 _ _)
  (AutoSeq1.list___iadd___list_list_0 l its.toArray n b its2.toArray n2 hlong (by rw [Xa];omega) (by omega)) ⟨e,e2,?_⟩
 refine ⟨.ref l,_,I.lset (its':=its++its2) hH e (by simp) (r.append r2) ?_,rfl,q⟩
 rw [Xc]
 omega
end L2
namespace My
open L2
class N2V (te:TE) (g:outParam GN2):Prop where
 n2:∀ {S:Src} {ex:List Addr} {env:List Vl} {σ:L2.St} {H:Hp} {n:Nat} {Q:VK} {P:List (List J9i)->Nat->Prop},Ev S ex env σ H n->g env n P ->
  (∀ (ps:List (Addr×List J9i)) (n':Nat) (a:Addr) (H':Hp),P (ps.map (·.2)) n'->Ys S n' H H'->H a=none->(∀ p∈ps,H p.1=none)->Own2 S (a::ps.map (·.1)++ex) H' none ps a->Q (.ref a) H')->te σ H Q
abbrev Jww (gi:GN) (k:Nat) (idx ks:List Nat) (bd:GG) (gn:GN):GN2:=λ env n Q=>gi env n λ items n1=>(ks.all (λ i=>decide (i<k))=true/\items.length<=1000000)/\Jki (Jkj bd gn (Jc9 k idx env)) items n1 Q
instance n2v_comp {wi:TI}{gi:GN}{k:Nat}{idx ks:List Nat}{g:TG}{bd:GG}{te:TE}{gn:GN} [I:IV wi gi] [G:GV g bd ks] [A:NV te gn]  :N2V (Jat wi k idx g Jgd te) (Jww gi k idx ks bd gn):=⟨λ {S ex env σ H n Q P} E h kk=>by
 refine I.iv E h λ items n1 J hd H1 hc s1 hrd hit l hl=>?_
 obtain ⟨⟨hk,hz⟩,hc⟩:=hc
 have hs:sizeLine=16777216:=J9p
 have E1:=Jg8 (E.step s1) k idx
 have lch:l∉S.ch:=λ z=>S.dom s1.2 l z hl
 have hkk:∀ i∈ks,i<k:=λ i hi=>of_decide_eq_true (X9.mp hk i hi)
 refine ⟨λ i m σ' H2=>i<=items.length/\m=items.length-i/\∃ (n2:Nat) (ps:List (Addr×List J9i)),Jki (Jkj bd gn (Jc9 k idx env)) (items.drop i) n2 (λ ys n'=>P (ps.map (·.2)++ys) n')/\Kp (l::S.ch) H1 H2/\H2 l=some (.lst (Yt ps))/\ps.length<=i/\(∀ p∈ps,H1 p.1=none)/\(l::ps.map (·.1)).Nodup/\(∀ p∈ps,In2 S (l::ps.map (·.1)++ex) H2 p)/\S.inv n2 H2/\(∀ j:Nat,k<=j->σ'[j]? = (Yo k idx σ)[j]?)/\σ'.length=(Yo k idx σ).length,
  ⟨items.length,Xr _,rfl,n1,[],by simpa using hc,Kp.new hl _,Jg,Ql _,(λ p hp=>by cases hp),by simp,(λ p hp=>by cases hp),S.keep s1.2 λ b _ o' e=>Kp.new (ex:=[]) hl _ _ _ e (by simp),λ _ _=>rfl,rfl⟩,?_⟩
 rintro i m σ' H2 ⟨hi,rfl,n2,ps,hcm,kp,h2l,hvl,hno,hnd,hin,iv2,hsl,hln⟩
 have hL:∀ b∈l::ps.map (·.1),H1 b=none:=λ b hb=>by
  rcases Qd.mp hb with rfl | hb
  . exact hl
  . obtain ⟨p,hp,rfl⟩:=Qo.mp hb
    exact hno p hp
 have hL2:∀ b∈l::ps.map (·.1),H2 b≠none:=λ b hb=>by
  rcases Qd.mp hb with rfl | hb
  . rw [h2l];exact Xt _
  . obtain ⟨p,hp,rfl⟩:=Qo.mp hb
    obtain ⟨vs,h1,_⟩:=(hin p hp).h
    rw [h1];exact Xt _
 have E2:Ev S (l::ps.map (·.1)++ex) (Jc9 k idx env) σ' H2 n2:=Jmc E1 hL (kp.mono λ b hb=>(Qd.mp hb).elim (λ e=>by rw [e];exact Xk _ Qg) λ h=>Xh _ h) hL2 iv2 Jg9 hsl hln
 have kpx:Kp (l::ps.map (·.1)++ex) H1 H2:=kp.mono λ b hb=>(Qd.mp hb).elim (λ e=>by rw [e];exact Xk _ Qg) λ h=>Xh _ (E.ch b h)
 have IT:=hit (l::ps.map (·.1)++ex) H2 E2.al λ h hh=>(Rep.adds hL (hrd h hh)).keep kpx
 rcases Ud i items.length with hlt | hge
 . refine .inr ⟨(IT.2 i items[i] (Qf hlt)).1,λ x H3 y=>?_⟩
   obtain ⟨kp3,rx⟩:=(IT.2 i items[i] (Qf hlt)).2 x H3 y
   have rx':=rx
   rw [J4r hlt] at hcm
   have st3:Ys S n2 H2 H3:=Ys.new E2.inv kp3
   have E3:=E2.step st3
   refine G.gv E3 rx' hcm λ env' σ2 ht E4 _ hs2' hl2=>tv_noTest.tv E4 (P:=λ c n'=>c=true/\n'=n2) ⟨rfl,rfl⟩ λ c n4 H4 h4 s4=>?_
   obtain ⟨rfl,rfl⟩:=h4
   have hs2:∀ j:Nat,k<=j->σ2[j]? = (Yo k idx σ)[j]?:=λ j hj=>by
    rw [hs2' j λ z=>by have:=hkk j z;omega];exact hsl j hj
   refine A.nv (E4.step s4) ht λ ds n5 a vs H5 h5 s5 ha hla hzv r5=>?_
   have s24:=st3.trans s4
   have s25:=s24.trans s5
   have k5:Kp S.ch H2 H5:=s25.1
   have h5l:H5 l=some (.lst (Yt ps)):=k5 _ _ h2l lch
   have an:a∉l::ps.map (·.1)++ex:=λ z=>(E4.step s4).al a z ha
   have ac:a∉S.ch:=λ z=>an (E4.ch a z)
   have ha1:H1 a=none:=by
    cases e:H1 a with
    | none=>rfl
    | some u=>
     have e2:=kp a u e λ z=>(Qd.mp z).elim (λ q=>an (by rw [q];exact Xk _ Qg)) ac
     rw [s24.1 a u e2 ac] at ha;cases ha
   have al:a≠l:=λ e=>an (by rw [e];exact Xk _ Qg)
   have msub:∀ b∈l::(ps++[(a,ds)]).map (·.1)++ex,b∈a::(l::ps.map (·.1)++ex):=λ b hb=>by
    simp only [Q1,Qz,J2w,J3h,Qd,Q4,Uf,or_false] at hb ⊢
    rcases hb with h | (h | h) | h
    . exact .inr (.inl h)
    . exact .inr (.inr (.inl h))
    . exact .inl h
    . exact .inr (.inr (.inr h))
   have mup:∀ b∈l::ps.map (·.1)++ex,b∈l::(ps++[(a,ds)]).map (·.1)++ex:=λ b hb=>by
    simp only [Q1,Qz,J2w,J3h,Qd,Q4,Uf,or_false] at hb ⊢
    rcases hb with h | h | h
    . exact .inl h
    . exact .inr (.inl (.inl h))
    . exact .inr (.inr h)
   have lin:l∈l::(ps++[(a,ds)]).map (·.1)++ex:=Xk _ Qg
   refine ⟨Yt ps,h5l,by unfold Yt;rw [Qb];omega,_,(?_:items.length-(i+1)<_),hlt,rfl,n5,ps++[(a,ds)],?_,?_,?_,?_,?_,?_,?_,?_,hs2,hl2.trans hln⟩
   . omega
   . simpa using h5
   . exact (kp.trans (k5.mono λ b hb=>Qh _ hb)).trans (Kp.at Qg _)
   . rw [Jg];unfold Yt;rw [Q1];rfl
   . rw [Xc,Uq];omega
   . intro p hp
     rcases Q4.mp hp with hp | hp
     . exact hno p hp
     . rw [Qq.mp hp];exact ha1
   . rw [Q1,<- J3h]
     refine J30.mpr ⟨hnd,by simp,?_⟩
     intro b hb c hc e
     have e':b=a:=e.trans (Qq.mp hc)
     exact an (Xk _ (e'▸hb))
   . intro p hp
     rcases Q4.mp hp with hp | hp
     . have w:=hin p hp
       obtain ⟨us,g1,g2,g3⟩:=w.h
       have pl:p.1≠l:=λ e=>(Xn.mp hnd).1 (by rw [<- e];exact Qo.mpr ⟨p,hp,rfl⟩)
       refine ⟨mup p.1 w.m,w.c,us,by rw [Jf pl];exact k5 _ _ g1 w.c,g2,?_⟩
       have q4:Reps (l::ps.map (·.1)++ex) H4 p.2 us:=g3.keep (s24.1.mono E2.ch)
       have q5:Reps (a::(l::ps.map (·.1)++ex)) H5 p.2 us:=(Reps.add ha q4).keep (s5.1.mono λ b hb=>Qh _ (E2.ch b hb))
       exact (Reps.mono msub q5).keep (Kp.at lin _)
     . rw [Qq.mp hp]
       refine ⟨?_,ac,vs,by rw [Jf al];exact hla,hzv,(Reps.mono msub r5).keep (Kp.at lin _)⟩
       simp
   . exact S.keep s25.2 λ b hb o e=>by rw [Jf (λ z=>lch (by rw [<- z];exact hb))];exact e
 . have e:i=items.length:=by omega
   subst e
   rw [J4s] at hcm
   have hcm':P (ps.map (·.2)) n2:=by simpa [Jki] using hcm
   refine .inl ⟨IT.1,kk ps n2 l H2 hcm' ⟨λ b o e nb=>kp b o (s1.1 b o e nb) λ z=>(Qd.mp z).elim (λ e2=>by rw [e2,s1.free hl] at e;cases e) nb,iv2⟩ (s1.free hl) (λ p hp=>s1.free (hno p hp)) ⟨h2l,by omega,(λ _ h=>by cases h),hnd,Xk _ Qg,lch,hin⟩⟩⟩
def Jia (i:Nat) (wi:TI) (k:Nat) (idx:List Nat) (g:TG) (tt:TT) (te:TE):TS:=V4 i wi k idx g tt te
theorem Jum {X:Cx}{st:Stmt}{i:Nat}{wi:TI}{k:Nat}{idx:List Nat}{g:TG}{tt:TT}{te:TE}(h:PS X st (V4 i wi k idx g tt te)):PS X st (Jia i wi k idx g tt te):=h
instance sv_set2V {i:Nat}{wi:TI}{k:Nat}{idx:List Nat}{g:TG}{tt:TT}{te:TE}{gn:GN2} [E:N2V (Jat wi k idx g tt te) gn]:SV (Jia i wi k idx g tt te) (Jxs i gn):=⟨λ {C G D} O {ex env σ H n} A h=>
 show Jat wi k idx g tt te σ H (λ v H2=>D.nx (σ.set i (some v)) H2) from E.n2 A.ev h λ ps n1 a H1 h1 s1 ha hp q=>O.nx (A.own2 s1 ha hp q) (h1 ps rfl)⟩
theorem Jm1 {α:Type}{turn:J9i->Nat->(List J9i->Nat->Prop)->Prop}{n:Nat}(f:α->List J9i) {e:α->J9i}:∀ (l:List α) {Q:List (List J9i)->Nat->Prop},(∀ i∈l,∀ K:List J9i->Nat->Prop,K (f i) n->turn (e i) n K)->Q (l.map f) n->Jki turn (l.map e) n Q
 | [],_,_,q=>q
 | i::l,Q,h,q=>h i Qg _ (Jm1 f l (Q:=λ ys n2=>Q (f i::ys) n2) (λ j hj=>h j (Qh _ hj)) q)
theorem Jeg {n:Nat}{f:Nat->Int}(h:∀ i,i<n->0<=f i):0<=Tb.Jo n f:=by
 induction n with
 | zero=>exact J3j _
 | succ n ih=>
  have:=ih λ i hi=>h i (by omega)
  have:=h n (by omega)
  show 0<=Tb.Jo n f+f n
  omega
theorem Jeh {n a:Nat}{f:Nat->Int}(ha:a<n) (h:∀ i,i<n->0<=f i):f a<=Tb.Jo n f:=by
 induction n with
 | zero=>omega
 | succ n ih=>
  have h1:=h n (by omega)
  show f a<=Tb.Jo n f+f n
  by_cases e:a=n
  . subst e
    have:=Jeg (f:=f) λ i (hi:i<a)=>h i (by omega)
    omega
  . have:=ih (by omega) λ i hi=>h i (by omega)
    omega
section
variable {nw m n:Nat}{c:Nat->Tb.Vec}{rhs:Tb.Vec}{some W:List Nat}{T T0:Tb.Tab}
noncomputable def one (ν:Nat):Nat->Int:=λ μ=>if μ = ν then 1 else 0
theorem Jce (ν μ:Nat):0<=one ν μ:=by unfold one;split<;>decide
theorem Jzu {ν:Nat}:Tb.inN m n T ν↔0<T.tot m n (one ν):=by
 have b:=Jeg (n:=m) (f:=λ i=>one ν (T.b i)) λ i _=>Jce _ _
 have f:=Jeg (n:=n) (f:=λ j=>one ν (T.f j)) λ i _=>Jce _ _
 unfold Tb.Tab.tot
 constructor
 . rintro (⟨i,hi,e⟩ | ⟨j,hj,e⟩)
   . have:=Jeh (f:=λ i=>one ν (T.b i)) hi λ i _=>Jce _ _
     have e1:one ν (T.b i)=1:=if_pos e
     simp only [e1] at this
     omega
   . have:=Jeh (f:=λ j=>one ν (T.f j)) hj λ i _=>Jce _ _
     have e1:one ν (T.f j)=1:=if_pos e
     simp only [e1] at this
     omega
 . intro h
   have pos:∀ μ,0<one ν μ->μ = ν:=λ μ h=>by
    unfold one at h
    split at h
    . assumption
    . exact absurd h (by decide)
   by_cases c:0<Tb.Jo m (λ i=>one ν (T.b i))
   . obtain ⟨i,hi,hp⟩:=Tb.W5 c
     exact .inl ⟨i,hi,pos _ hp⟩
   . obtain ⟨j,hj,hp⟩:=Tb.W5 (n:=n) (f:=λ j=>one ν (T.f j)) (by omega)
     exact .inr ⟨j,hj,pos _ hp⟩
theorem Fit.names (F:Fit nw m n c some T0) (tot:∀ g,T.tot m n g=T0.tot m n g) (ν:Nat):Tb.inN m n T ν↔((∃ s,s<m/\ν = nw+s)\/ν∈some):=by
 rw [Jzu,tot,F.tot]
 have b:=Jeg (n:=m) (f:=λ s=>one ν (nw+s)) λ i _=>Jce _ _
 have f:=Jeg (n:=n) (f:=λ j=>one ν (some.getD j 0)) λ i _=>Jce _ _
 have pos:∀ μ,0<one ν μ->μ = ν:=λ μ h=>by
  unfold one at h
  split at h
  . assumption
  . exact absurd h (by decide)
 constructor
 . intro h
   by_cases c:0<Tb.Jo m (λ s=>one ν (nw+s))
   . obtain ⟨i,hi,hp⟩:=Tb.W5 c
     exact .inl ⟨i,hi,(pos _ hp).symm⟩
   . obtain ⟨j,hj,hp⟩:=Tb.W5 (n:=n) (f:=λ j=>one ν (some.getD j 0)) (by omega)
     have e:=pos _ hp
     right
     have hl:j<some.length:=by rw [F.len];exact hj
     rw [Qi,Qf hl] at e
     rw [<- e]
     exact Xp _
 . rintro (⟨s,hs,e⟩ | e)
   . have:=Jeh (f:=λ s=>one ν (nw+s)) hs λ i _=>Jce _ _
     have e1:one ν (nw+s)=1:=if_pos e.symm
     simp only [e1] at this
     omega
   . obtain ⟨j,hj⟩:=Ur.mp e
     have hl:=(Qt.mp hj).1
     have:=Jeh (n:=n) (a:=j) (f:=λ j=>one ν (some.getD j 0)) (by rw [<- F.len];exact hl) λ i _=>Jce _ _
     have e1:one ν (some.getD j 0)=1:=by
      rw [Qi,hj]
      exact if_pos rfl
     simp only [e1] at this
     omega
theorem Vv {n:Nat}{f:Nat->Int}(h:∀ i,i<n->f i=0):Tb.Jo n f=0:=by rw [Tb.Jp (g:=λ _=>0) h,Tb.Z2]
theorem Jfg {j:Nat}(h:j<some.length):some.getD j 0∈some:=by rw [Qi,Qf h];exact Xp _
theorem Jqa (F:Fit nw m n c some T0) (tot:∀ g,T.tot m n g=T0.tot m n g) (h:Tb.TabOk m n c rhs T) {k:Nat}(r:Tb.Ray m n W T k):∃ j∈some,0<T.dir m k j:=by
 refine J3k λ no=>?_
 have z:∀ j∈some,T.dir m k j=0:=λ j hj=>by
  have:=Tb.Jt8 h r j
  rcases J4p 0 (T.dir m k j) with q | q
  . exact absurd ⟨j,hj,q⟩ no
  . omega
 have zm:∀ j,j<n->some.getD j 0∈some:=λ j hj=>Jfg (by rw [F.len];exact hj)
 have zu:∀ s,s<m->T.dir m k (nw+s)=0:=λ s hs=>by
  have e:=Tb.Jgi h r.hk s hs
  rw [tot,F.tot,Vv (n:=n) (λ j hj=>by rw [z _ (zm j hj),X1]),Tb.Yj (a:=s) hs (λ i hi hne=>?_)] at e
  . rw [F.cols.un s hs] at e
    have:Tb.Va s s=1:=if_pos rfl
    rw [this] at e
    omega
  . rw [F.cols.un i hi]
    have:Tb.Va i s=0:=if_neg (Qj hne)
    rw [this,Xv]
 have w:=Tb.Jde (W:=W) h r.hk
 have rp:=r.rise
 rw [<- w,tot,F.tot,Vv (n:=m) (λ s hs=>by rw [zu s hs];unfold Tb.ind;split<;>rfl),Vv (n:=n) (λ j hj=>by rw [z _ (zm j hj)];unfold Tb.ind;split<;>rfl)] at rp
 exact absurd rp (by decide)
theorem Jm2 (sh:Shape m n T) {i j:Nat}(hi:i<m) (hj:j<=n):(T.e i j).natAbs<2^4000:=by
 have h2:j<(T.row i).length:=by rw [sh.lw i hi];omega
 have h3:i<T.rows.length:=by rw [sh.lr];exact hi
 have hr:T.row i∈T.rows:=by unfold Tb.Tab.row;rw [Qi,Qf h3];exact Xp _
 refine sh.small _ hr (T.e i j) ?_
 unfold Tb.Tab.e
 rw [Qi,Qf h2]
 exact Xp _
theorem Jju (sh:Shape m n T) (h:Tb.TabOk m n c rhs T) {k ν:Nat}(hk:k<n) (i:Tb.inN m n T ν):(T.dir m k ν).natAbs<2^4000:=by
 rcases i with ⟨i,hi,rfl⟩ | ⟨j,hj,rfl⟩
 . rw [Tb.Jt2 h hk hi,J8v]
   exact Jm2 sh hi (by omega)
 . by_cases e:j=k
   . subst e
     rw [Tb.Jp1 h hk]
     have q0:=sh.q0
     have q1:=sh.q1
     have:((T.q.natAbs:Nat):Int)<((2^4000:Nat):Int):=by
      rw [J3w (by omega)]
      exact_mod_cast q1
     exact_mod_cast this
   . rw [Tb.Jt3 h hk hj e]
     exact J44 _
end
theorem Jk9 {ns:List Int}:∀ x∈ns,((Zc ns:Nat):Int) ∣ x:=by
 have key:∀ (l:List Int) (g:Nat),(l.foldl (λ g x=>J22 g x.natAbs) g ∣ g)/\∀ x∈l,l.foldl (λ g x=>J22 g x.natAbs) g ∣ x.natAbs:=by
  intro l
  induction l with
  | nil=>exact λ g=>⟨Nat.dvd_refl _,λ x hx=>by cases hx⟩
  | cons y l ih=>
   intro g
   obtain ⟨h1,h2⟩:=ih (J22 g y.natAbs)
   refine ⟨J8w h1 (Nat.gcd_dvd_left _ _),λ x hx=>?_⟩
   rcases Qd.mp hx with rfl | hx
   . exact J8w h1 (Nat.gcd_dvd_right _ _)
   . exact h2 x hx
 intro x hx
 exact J8x.mpr ((key ns 0).2 x hx)
theorem Jou {ns:List Int}{x:Int}(hx:x∈ns) (h:x≠0):Zc ns≠0:=λ z=>by
 have:=Jk9 x hx
 rw [z] at this
 exact h (Int.zero_dvd.mp this)
theorem Jun {ns:List Int}{x:Int}(hx:x∈ns) (h:x≠0) (hb:x.natAbs<2^9000):((Zc ns:Nat):Int)<2^9000:=by
 have d:=J8x.mp (Jk9 x hx)
 have:=Nat.le_of_dvd (by omega) d
 have h2:Zc ns<2^9000:=by omega
 exact_mod_cast h2
theorem Jla {ns:List Int}{x:Int}(hx:x∈ns):x/((Zc ns:Nat):Int)*((Zc ns:Nat):Int)=x:=Int.ediv_mul_cancel (Jk9 x hx)
end My
namespace L2
def DefI2 (K:Qc) (mg:Str->Option J9j) (x:Str) (C:Addr) (qual:Str) (st:Stmt) (ps:List Str):Prop:=∃ f fd,mg x=some (.ref C)/\Mk K C f/\FunD K "__init__" qual st f fd/\Bl K fd ps [.none]/\Bl K fd ps []
def Jm3 (P:J9n) (w:J9m) (K:Qc) (mg:Str->Option J9j) (base:Heap) (x:Str) (C:Addr) (k:Nat) (ps:List Str) (sp:Sp):Prop:=
 ∃ f fd,mg x=some (.ref C)/\Mk K C f/\Bl K fd ps [.none]/\Bl K fd ps []/\FnOk P w K mg base CX0 k f fd ps sp
section
variable {P:J9n}{w:J9m}{K:Qc}{mg:Str->Option J9j}{base:Heap}{C:Addr}{x m qual:Str}{st:Stmt}{ps:List Str}{k:Nat}{sp:Sp}
theorem DefI2.cal (d:DefI2 K mg x C qual st ps) (h:∀ f fd,FunD K "__init__" qual st f fd->FnOk P w K mg base CX0 k f fd ps sp):Jm3 P w K mg base x C k ps sp:=by
 obtain ⟨f,fd,hg,hm,F,b1,b2⟩:=d
 exact ⟨f,fd,hg,hm,b1,b2,h f fd F⟩
theorem defI2_mk {h:Heap}{f T:Addr}{oc oc':J9j}{od an od':Option Addr}{osl osl':Array (Option J9j)}{kV doc pm cdv ct:J9j}{nn:Nat}(X:K.In h) (G:h.Ns J9t mg) (aC:J53 K J9t x=some (some (.ref C)))
 (mk:J5m K C=true) (kc:Uk K (.ref C)=true)
 (a:Uj K (.ref C) "__init__" = some (some (.ref f))) (i:J3n K (.ref f)=true) (l:K.lookup f=some ⟨oc,od,.func (X0 "__init__" qual (Z6 st) (Zr st) (Je st) (.ref T) kV doc pm an cdv ct),osl⟩) (c:J2n K cdv qual=true) (kp:Uk K (.ref f)=true)
 (lT:K.lookup T=some ⟨oc',od',.seq #[.none] nn,osl'⟩)
 (hb:∀ (T:Addr) (d kV doc pm:J9j) (an:Option Addr) (cdv ct:J9j) (us:List J9j),us.length=ps.length-1->∃ q,Yag (X0 "__init__" qual (Z6 st) (Zr st) (Je st) (.ref T) kV doc pm an cdv ct) ⟨us,[]⟩=Yab (.ref T) >>= q/\q (some #[d])=pure (ps.zip (us++[d])))
 (hb2:∀ (T:Addr) (d kV doc pm:J9j) (an:Option Addr) (cdv ct:J9j) (us:List J9j),us.length=ps.length->∃ q,Yag (X0 "__init__" qual (Z6 st) (Zr st) (Je st) (.ref T) kV doc pm an cdv ct) ⟨us,[]⟩=Yab (.ref T) >>= q/\q (some #[d])=pure (ps.zip us)):DefI2 K mg x C qual st ps:=by
 refine ⟨f,_,J54 X G aC,⟨mk,a,i,kc⟩,⟨⟨oc,od,.ref T,kV,doc,pm,an,cdv,ct,osl,rfl,l,c⟩,kp⟩,λ s us KX hl=>?_,λ s us KX hl=>?_⟩
 . obtain ⟨q,h1,h2⟩:=hb T .none kV doc pm an cdv ct us (by rw [Xc,Uq] at hl;omega)
   exact J8y rfl (KX _ _ lT) rfl h1 h2
 . obtain ⟨q,h1,h2⟩:=hb2 T .none kV doc pm an cdv ct us (by rw [Uu] at hl;exact hl)
   rw [Uu]
   exact J8y rfl (KX _ _ lT) rfl h1 h2
end
section
variable {X:Cx}{x:Str}{C:Addr}{e:Expr}{es:List Expr}{p pos:Pos}{t:TA}{k:Nat}{ps:List Str}{sp:Sp}
theorem J1k (c:Jm3 X.prog X.w X.K X.mg X.base x C k ps sp) (hr:Room (k+1) X.A) (hg:Gl X x) (ha:PA X (e::es) t) (hdb:(x==("__debug__":Str))=false:=by decide)
 (he:starEach (e::es) X.env=(false,eval e X.env)::starEach es X.env:=by rfl) (hpl:(backTo pos (starEach es X.env)).any (·.1)=false:=by rfl):PE X (.Call (.Name x p) (e::es) [] pos) (Jxa C sp [.non] E0 t):=by
 obtain ⟨f,fd,hm,M,b,_,F⟩:=c
 exact Jvd M F hr hg hm b (.cons rfl .nil) Jse ha hdb he hpl
end
section
variable {X:Cx}{tg e:Expr}{te:TE}{K':Qc}
theorem Jm4 (hK:X.K=K') (he:PE X e te):PI X tg e (Jo8 K' te):=hK▸Zq he
end
noncomputable def Jei (i:Int) (n:Nat):List V:=(Qn n).map λ (k:Nat)=>V.int (i+(k:Int))
def J2j (ta:TA):TE:=λ σ H Q=>ta σ H λ vs H1=>∃ i j:Int,vs=[.int i,.int j]/\0<=i/\i<=j/\j<=1000000/\∀ l,H1 l=none->Q (.ref l) (upd H1 l (.lst (Jei i (j-i).toNat)))
theorem Jrl (i:Int):∀ (n:Nat) (us:List J9j),us.length=n->(∀ (k:Nat) (u:J9j),us[k]? = some u->∃ t,u=Us (i+((k:Nat):Int)) t)->Yb (Jei i n) us:=by
 intro n
 induction n with
 | zero=>intro us h _;rw [J6b.mp h];exact .nil
 | succ n ih=>
  intro us h hk
  have hne:us≠[]:=λ e=>by rw [e] at h;cases h
  obtain ⟨l,x,rfl⟩:∃ l x,us=l++[x]:=⟨us.dropLast,us.getLast hne,(J75 hne).symm⟩
  have hl:l.length=n:=by simpa using h
  have e:Jei i (n+1)=Jei i n++[V.int (i+n)]:=by unfold Jei;rw [J2y,Q1];rfl
  rw [e]
  obtain ⟨t,et⟩:=hk n x (by rw [<- hl];simp)
  subst et
  exact (ih l hl λ k u hu=>hk k u (by rw [Up (by exact (Qt.mp hu).1)];exact hu)).append (.cons ⟨t,rfl⟩ .nil)
theorem Jiu {X:Cx}{a b:Expr}{ta:TA}{p1 p2 pos1 pos2:Pos}(hc:X.calm=true) (hg1:Gl X "list") (hm1:X.mg "list" = none) (hg2:Gl X "range") (hm2:X.mg "range" = none) (ha:PA X [a,b] ta) (hs:starEach [a,b] X.env=[(false,eval a X.env),(false,eval b X.env)]:=by rfl) (hs2:starEach [b] X.env=[(false,eval b X.env)]:=by rfl)
 (hs1:starEach [.Call (.Name "range" p2) [a,b] [] pos2] X.env=[(false,eval (.Call (.Name "range" p2) [a,b] [] pos2) X.env)]:=by rfl):PE X (.Call (.Name "list" p1) [.Call (.Name "range" p2) [a,b] [] pos2] [] pos1) (J2j ta):=by
 intro pins s σ H Q I h
 refine J98 (Bw I hg1 hm1 J93 ?_)
 refine U0 ?_ hs1 rfl
 rw [hs1]
 show J9l _ _ (spliced ((false,eval (.Call (.Name "range" p2) [a,b] [] pos2) X.env)::[])) _ _ s
 refine J29 ?_
 refine Call_ (Bw I hg2 hm2 boot_range (U0 (thn (ha pos2 pins s σ H _ I h) λ us s1 ⟨vs,H1,I1,r1,q1⟩=>?_) (by rw [hs,hs2]) (by rw [hs2];rfl)))
 obtain ⟨i,j,e,b0,b1,b2,q⟩:=q1
 subst e
 cases r1 with
 | cons r rr=>
  cases rr with
  | cons r' rr=>
   cases rr
   obtain ⟨t,rfl⟩:=r
   obtain ⟨t',rfl⟩:=r'
   refine call_range_2 (J3o ?_)
   have I2:Inv X pins σ H1 { s1 with heap:=s1.heap.push { cls:=.type "range",data:=.fields #[.int i t,.int j t',.int 1 s1.toks] },toks:=s1.toks+1 }:=I1.kept λ b o e=>Qu _ e
   have hs:=J9p
   refine call_list_range (n:=(j-i).toNat) (I2.ok.hd hc) (J5i ..) (small_one (by omega) (by omega) (by omega) (by omega)) (by rw [Yat];split<;>omega) (by omega) λ h' tk acc' c' hk hS' hacc=>?_
   refine ⟨.ref _,_,I2.laid (t':=tk) hk (Ql _) (show Yw X.prog X.w _ h' _ (.lst (Jei i (j-i).toNat)) from ⟨by unfold Jei;simp;omega,acc'.toList,c',Jrl i _ _ (by simp [hacc.1]) (λ k u hu=>?_),by simpa using hS'⟩),rfl,q _ (I2.hok.fresh (Ql _))⟩
   obtain ⟨t,et⟩:=hacc.2 k u (by simpa using hu)
   exact ⟨t,by rw [et];simp⟩
end L2
namespace My
open L2
def Jib (ex:List Addr) (H:Hp):List Vl->L2.St->Prop
 | [],_=>True
 | w::ws,o :: σ=>SlR Src.no ex H w o/\Jib ex H ws σ
 | _::_,[]=>False
theorem Jib.len {ex:List Addr}{H:Hp}:∀ {env:List Vl}{σ:L2.St},Jib ex H env σ->env.length<=σ.length
 | [],_,_=>Xr _
 | _::_,_::_,h=>Nat.succ_le_succ h.2.len
 | _::_,[],h=>h.elim
theorem Jib.sl {ex:List Addr}{H:Hp}:∀ {env:List Vl}{σ:L2.St}(i:Nat) (w:Vl),Jib ex H env σ->env[i]? = some w->SlR Src.no ex H w (σ[i]?).join
 | [],_,_,_,_,e=>by cases e
 | _::_,_::_,0,_,h,e=>by cases e;exact h.1
 | _::_,_::_,i+1,w,h,e=>Jib.sl i w h.2 e
 | _::_,[],_,_,h,_=>h.elim
theorem Jib.ev {ex:List Addr}{H:Hp}{env:List Vl}{σ:L2.St}(h:Jib ex H env σ) (al:Alc ex H):Ev Src.no ex env σ H 0:=⟨h.len,λ i w e=>h.sl i w e,λ a ha=>(by cases ha),al,trivial⟩
theorem Juo {S:Src}{ex:List Addr}{env:List Vl}{σ:L2.St}{H:Hp}{n i k:Nat}{wi:TI}{idx:List Nat}{g:TG}{tt:TT}{te:TE}{r:TS}{D:Ends}{gn:GN} [N:NV (Jat wi k idx g tt te) gn] (P:List J9i->Nat->Prop) (E:Ev S ex env σ H n) (h:gn env n P) (q:∀ ds n' a vs H',P ds n'->Ys S n' H H'->H a=none->H' a=some (.lst vs)->vs.length<=sizeLine->Reps (a::ex) H' ds vs->r D (σ.set i (some (.ref a))) H'):Jaq (V4 i wi k idx g tt te) r D σ H:=
 show Jat wi k idx g tt te σ H (λ v H2=>r D (σ.set i (some v)) H2) from N.nv E h q
theorem Jup {S:Src}{ex:List Addr}{env:List Vl}{σ:L2.St}{H:Hp}{n i:Nat}{te:TE}{r:TS}{D:Ends}{gn:GN}{a:Addr}{vs:List V} [N:NV te gn] (P:List J9i->Nat->Prop) (E:Ev S ex env σ H n) (h:gn env n P) (hi:σ[i]? = some (some (.ref a))) (ha:H a=some (.lst vs)) (ac:a∉S.ch) (q:∀ ds n' b us H',P ds n'->Ys S n' H H'->H b=none->H' b=some (.lst us)->us.length<=sizeLine->Reps (b::ex) H' ds us->H' a=some (.lst vs)->vs.length+us.length<=sizeLine/\r D (σ.set i (some (.ref a))) (upd H' a (.lst (vs++us)))):Jaq (Jz4 i te ipL) r D σ H:=
 ⟨_,hi,N.nv E h λ ds n' b us H' p s hb hl hz rr=>⟨a,b,vs,us,rfl,rfl,s.1 _ _ ha ac,hl,(q ds n' b us H' p s hb hl hz rr (s.1 _ _ ha ac)).1,(q ds n' b us H' p s hb hl hz rr (s.1 _ _ ha ac)).2⟩⟩
theorem Juq {K:Qc}{S:Src}{ex:List Addr}{env:List Vl}{σ:L2.St}{H:Hp}{n i:Nat}{te:TE}{f:Str}{r:TS}{D:Ends}{gn:GN}{x C dx:Addr}{fs:List (Str×V)} [N:NV te gn] (P:List J9i->Nat->Prop) (E:Ev S ex env σ H n) (h:gn env n P) (hi:σ[i]? = some (some (.ref x))) (hx:H x=some (.ins C dx fs)) (xc:x∉S.ch) (c:Cls K C) (no:NoAttr K C f) (lf:fs.length<1000) (q:∀ ds n' b us H',P ds n'->Ys S n' H H'->H b=none->H' b=some (.lst us)->us.length<=sizeLine->Reps (b::ex) H' ds us->H' x=some (.ins C dx fs)->r D σ (upd H' x (.ins C dx (L2.putF f (.ref b) fs)))):Jaq (Ju9 K (Ze i) te f) r D σ H:=
 N.nv E h λ ds n' b us H' p s hb hl hz rr=>⟨_,hi,x,C,dx,fs,rfl,s.1 _ _ hx xc,c,no,lf,q ds n' b us H' p s hb hl hz rr (s.1 _ _ hx xc)⟩
noncomputable def Zv (U:Int) (ws:List Way):Nat->Tb.Vec:=λ ν r=>if ν < ws.length then (if (r:Int)<U then -((Jh ws (ν:Int)).g.getD r 0) else (if (Jh ws (ν:Int)).a=(r:Int)-U then 1 else 0)-(if (Jh ws (ν:Int)).b=(r:Int)-U then 1 else 0)) else Tb.Va (ν - ws.length) r
noncomputable def Ja1 (R U:Int) (ws:List Way) (some:List Nat):Tb.Tab:=Tb.Be ws.length (U+R).toNat (Zv U ws) Jc3 some
noncomputable def Jic (R U:Int) (ws:List Way):Siz:=⟨(ws.length:Int),(ws.length:Int)+U,(ws.length:Int)+U+R⟩
def Jlb (C:Addr):Sp:=λ vs H Q _=>∃ (ex:List Addr) (x dx:Addr) (R U:Int) (ws:List Way) (ks:List Nat) (bv sv:V),vs=[.ref x,bv,sv,.non]/\H x=some (.ins C dx [])/\Alc ex H/\x∉ex/\Rep (x::ex) H (J7 R U ws) bv/\Rep (x::ex) H (.list (ks.map Jq)) sv/\BookOk R U ws/\(∀ k∈ks,k<ws.length)/\ks.length<=100 /\
 ∀ H' fa ba,H fa=none->H ba=none->TabH C ex x fa ba (Jic R U ws) (Ja1 R U ws ks) H'->Kp [x] H H'->Q .non H'
noncomputable def nI (ks:List Nat):List Int:=ks.map λ k:Nat=>(k:Int)
structure IsRing (R:Int) (ws:List Way) (ks:List Nat):Prop where
 lt:∀ k∈ks,k<ws.length
 up:ks.Pairwise (· < ·)
 one:Je8 R.toNat ws (nI ks)=[nI ks]
theorem IsRing.nd {R:Int}{ws:List Way}{ks:List Nat}(h:IsRing R ws ks):ks.Nodup:=h.up.imp λ h=>Xg h
theorem IsRing.len {R:Int}{ws:List Way}{ks:List Nat}(h:IsRing R ws ks):ks.length<=ws.length:=nodup_le _ _ h.nd h.lt
theorem Jcu (f:Nat->Int):∀ n,Tb.Jo n f=((Qn n).map f).sum
 | 0=>rfl
 | n+1=>by rw [Tb.Jo,Jcu f n,J2y,Q1,J4o,J3i,J6o]
theorem Jid (f:Nat->Int) (a:Nat):∀ b,Tb.Jo (a+b) f=Tb.Jo a f+Tb.Jo b λ i=>f (a+i)
 | 0=>by show Tb.Jo a f=Tb.Jo a f+0;omega
 | b+1=>by
  show Tb.Jo (a+b) f+f (a+b)=Tb.Jo a f+(Tb.Jo b (λ i=>f (a+i))+f (a+b))
  rw [Jid f a b];omega
section
variable {R U:Int}{ws:List Way}
theorem Jm5 {k r:Nat}(hk:k<ws.length) (hr:(r:Int)<U):Zv U ws k r = -((Jh ws (k:Int)).g.getD r 0):=by
 unfold Zv;rw [if_pos hk,if_pos hr]
theorem Jjv {k a:Nat}(hk:k<ws.length) (hU:0<=U):Zv U ws k (U.toNat+a)=(if (Jh ws (k:Int)).a=(a:Int) then 1 else 0)-(if (Jh ws (k:Int)).b=(a:Int) then 1 else 0):=by
 unfold Zv;rw [if_pos hk,if_neg (by omega),show ((U.toNat+a:Nat):Int)-U=(a:Int) by omega]
theorem Vw (m:Nat):Tb.Cols ws.length m (Zv U ws):=⟨λ s _=>by
 funext r
 unfold Zv
 rw [if_neg (by omega),show ws.length+s-ws.length=s by omega]⟩
theorem Jie (ok:BookOk R U ws):Small (U+R).toNat (Zv U ws) Jc3:=by
 refine ⟨λ ν r _=>?_,λ r _=>by show (0:Int).natAbs<=100;decide⟩
 unfold Zv
 split
 . rename_i h
   have wok:=ok.ways _ (Y3 (Xq ν) (by omega))
   split
   . by_cases hr:r<(Jh ws (ν:Int)).g.length
     . have:=wok.small _ (Xp hr)
       rw [Qi,Qf hr]
       show (-(Jh ws (ν:Int)).g[r]).natAbs<=100
       omega
     . rw [Qi,Q7 (by omega)]
       show (-(0:Int)).natAbs<=100
       decide
   . split<;>split<;>decide
 . unfold Tb.Va
   split<;>decide
variable {ks:List Nat}
theorem Jqb (nd:ks.Nodup) (lt:∀ k∈ks,k<ws.length):Tb.TabOk (U+R).toNat ks.length (Zv U ws) Jc3 (Ja1 R U ws ks):=Tb.Jt5 (Vw _) nd lt
theorem Jov (nd:ks.Nodup) (lt:∀ k∈ks,k<ws.length):Names (U+R).toNat ks.length (ws.length+(U+R).toNat) (Ja1 R U ws ks):=by
 refine Jmy (Jqb nd lt) (λ i hi=>?_) (λ j hj=>?_)
 . show (Tb.Be _ _ _ _ _).b i<_
   rw [Tb.Jeb hi];omega
 . have:(Ja1 R U ws ks).f j=ks.getD j 0:=rfl
   rw [this]
   have:=lt _ (Jfg hj)
   omega
theorem Jur (lt:∀ k∈ks,k<ws.length):Fit ws.length (U+R).toNat ks.length (Zv U ws) ks (Ja1 R U ws ks):=⟨Vw _,lt,rfl,λ g=>Tb.Jrg g⟩
theorem Jrm (nd:ks.Nodup) (lt:∀ k∈ks,k<ws.length):Kept (U+R).toNat ks.length (ws.length+(U+R).toNat) (Zv U ws) (Ja1 R U ws ks) (Ja1 R U ws ks):=⟨Jqb nd lt,Jov nd lt,λ _=>rfl⟩
end
theorem Jus {ks:List Nat}(nd:ks.Nodup) {nw:Nat}(lt:∀ k∈ks,k<nw) {F:Nat->Int}(z:∀ i,i<nw->i∉ks->F i=0):Tb.Jo ks.length (λ j=>F (ks.getD j 0))=Tb.Jo nw F:=by
 have e:∀ j,j<ks.length->F (ks.getD j 0)=Tb.Jo nw λ i=>(if ks.getD j 0=i then 1 else 0)*F i:=λ j hj=>by
  rw [Tb.Yj (a:=ks.getD j 0) (lt _ (Jfg hj)) (λ i _ hne=>by rw [if_neg (Qj hne),X1]),if_pos rfl,Uy]
 rw [Tb.Jp e,Tb.Jfd]
 refine Tb.Jp λ i hi=>?_
 rw [Tb.Jjr]
 by_cases h:i∈ks
 . obtain ⟨j,hj⟩:=Ur.mp h
   obtain ⟨jl,je⟩:=Qt.mp hj
   rw [Tb.Yj (a:=j) jl (λ t ht hne=>if_neg λ e=>hne (by
    have e2:ks.getD t 0=ks[t]:=by rw [Qi,Qf ht];rfl
    exact (J5e nd).mp (by rw [<- e2,e,je]))),if_pos (by rw [Qi,hj];rfl),Uy]
 . rw [z i hi h,Xv]
noncomputable abbrev Jm6 (wt ht:List Int):J9i:=.tuple [.tuple (wt.map .int),.tuple (ht.map .int)]
structure SumK (R U:Int) (ws:List Way) (ks:List Nat) (wt ht:List Int):Prop where
 lw:(wt.length:Int)=U
 lh:(ht.length:Int)=R
 nn:∀ x∈wt,0<=x
 bw:∀ x∈wt,x.natAbs<2^8000
 bh:∀ x∈ht,x.natAbs<2^8000
 kept:∀ k∈ks,0<=Jaf ws wt ht (k:Int)
section
variable {R U:Int}{ws:List Way}{ks W:List Nat}{T:Tb.Tab}
theorem Jut (ok:BookOk R U ws) {S:Nat->Int}{k:Nat}(hk:k<ws.length) {wt ht:List Int}{g:Int}(lw:(wt.length:Int)=U) (hw:∀ p:Nat,(p:Int)<U->g*wt.getD p 0=S p) (hh:∀ a:Nat,(a:Int)<R->g*ht.getD a 0=S (U.toNat+a)):g*Jaf ws wt ht (k:Int)=Tb.Jo (U+R).toNat λ s=>Zv U ws k s*S s:=by
 have r0:=ok.r0
 have p0:=ok.p0
 have wok:=ok.ways _ (Y3 (k:=(k:Int)) (Xq k) (by omega))
 have a0:=wok.a0
 have a1:=wok.a1
 have b0:=wok.b0
 have b1:=wok.b1
 rw [show (U+R).toNat=U.toNat+R.toNat by omega,Jid]
 have e1:Tb.Jo U.toNat (λ s=>Zv U ws k s*S s) = -(g*Job wt (Jh ws (k:Int)).g wt.length):=by
  unfold Job
  rw [<- Jcu,<- Tb.Z1,<- Tb.Vi,show wt.length=U.toNat by omega]
  refine Tb.Jp λ s hs=>?_
  rw [Jm5 hk (by omega),<- hw s (by omega)]
  generalize wt.getD s 0=x
  generalize (Jh ws (k:Int)).g.getD s 0=y
  rw [J4z,<- U8,Xx y,U8,Xx y]
 have e2:Tb.Jo R.toNat (λ i=>Zv U ws k (U.toNat+i)*S (U.toNat+i))=g*ht.getD (Jh ws (k:Int)).a.toNat 0-g*ht.getD (Jh ws (k:Int)).b.toNat 0:=by
  have e3:∀ i,i<R.toNat->Zv U ws k (U.toNat+i)*S (U.toNat+i)=(if i=(Jh ws (k:Int)).a.toNat then S (U.toNat+i) else 0) + -(if i=(Jh ws (k:Int)).b.toNat then S (U.toNat+i) else 0):=λ i hi=>by
   rw [Jjv hk (by omega),J60]
   have h1:((Jh ws (k:Int)).a=(i:Int))↔i=(Jh ws (k:Int)).a.toNat:=by omega
   have h2:((Jh ws (k:Int)).b=(i:Int))↔i=(Jh ws (k:Int)).b.toNat:=by omega
   by_cases c1:i=(Jh ws (k:Int)).a.toNat<;>by_cases c2:i=(Jh ws (k:Int)).b.toNat
   . rw [if_pos (h1.mpr c1),if_pos (h2.mpr c2),if_pos c1,if_pos c2];omega
   . rw [if_pos (h1.mpr c1),if_neg (mt h2.mp c2),if_pos c1,if_neg c2];omega
   . rw [if_neg (mt h1.mp c1),if_pos (h2.mpr c2),if_neg c1,if_pos c2];omega
   . rw [if_neg (mt h1.mp c1),if_neg (mt h2.mp c2),if_neg c1,if_neg c2];omega
  rw [Tb.Jp e3,Tb.Wx,Tb.Vi,Tb.Yj (a:=(Jh ws (k:Int)).a.toNat) (by omega) (λ i _ h=>if_neg h),Tb.Yj (a:=(Jh ws (k:Int)).b.toNat) (by omega) (λ i _ h=>if_neg h),if_pos rfl,if_pos rfl,<- hh _ (by omega),<- hh _ (by omega)]
  omega
 rw [e1,e2]
 unfold Jaf
 rw [Int.mul_sub,Int.mul_sub]
 omega
theorem Jow (be nw m n:Nat) (h:be=nw+m):(sl T m be W n).drop nw=(Qn m).map λ s=>T.share m n W (nw+s):=by
 subst h
 unfold sl
 rw [<- J3y,J8z,List.drop_append_of_le_length (by rw [Q2];exact Ql _),List.drop_eq_nil_of_le (by rw [Q2];exact Ql _),J4f,Qy]
 refine Ug λ s _=>?_
 exact Juj _
end
section
variable {R U:Int}{ws:List Way}{ks W:List Nat}{T:Tb.Tab}
theorem Jcf {a b:Nat}(h:a<=b):2^a<=2^b:=J43 (by decide) h
theorem Jox {m n:Nat}(sh:Shape m n T) {j:Nat}(hj:j<n):(T.rise m W j).natAbs<2^4100:=by
 have q0:=sh.q0
 have q1:T.q.natAbs<2^4000:=by
  have:=sh.q1
  have h:((T.q.natAbs:Nat):Int)<((2^4000:Nat):Int):=by
   rw [J3w (by omega)]
   exact_mod_cast this
  exact_mod_cast h
 have mm:=sh.mm
 have s1:(Tb.Jo m λ i=>Tb.ind W (T.b i) (T.e i j)).natAbs<=m*2^4000:=Tb.Jmr λ i hi=>by
  unfold Tb.ind
  split
  . exact Uz (Jm2 sh hi (by omega))
  . exact Xr _
 have s2:(Tb.ind W (T.f j) T.q).natAbs<=2^4000:=by
  unfold Tb.ind
  split
  . exact Uz q1
  . exact Xr _
 have s3:m*2^4000<=20*2^4000:=Nat.mul_le_mul_right _ mm
 have s4:21*2^4000<2^4100:=by
  have:(2:Nat)^4100=2^100*2^4000:=by rw [<- Nat.pow_add]
  rw [this]
  exact Nat.mul_lt_mul_of_pos_right (by decide) (J44 _)
 unfold Tb.Tab.rise
 generalize (Tb.Jo m λ i=>Tb.ind W (T.b i) (T.e i j))=a at *
 generalize Tb.ind W (T.f j) T.q=b at *
 generalize 2^4000=c at *
 generalize 2^4100=d at *
 omega
theorem Jf1 {m n:Nat}{c:Nat->Tb.Vec}{rhs:Tb.Vec}(sh:Shape m n T) (h:Tb.TabOk m n c rhs T) {ν:Nat}(i:Tb.inN m n T ν):(T.share m n W ν).natAbs<2^4100:=by
 rcases i with ⟨i,hi,rfl⟩ | ⟨j,hj,rfl⟩
 . rw [Tb.V7 h hi]
   unfold Tb.ind
   split
   . have q0:=sh.q0
     have:=sh.q1
     have h:((T.q.natAbs:Nat):Int)<((2^4000:Nat):Int):=by
      rw [J3w (by omega)]
      exact_mod_cast this
     exact Xd (by exact_mod_cast h) (Jcf (by decide))
   . exact J44 _
 . rw [Tb.Jdf h hj,J8v]
   exact Jox sh hj
theorem Jzv {g x:Int}(g0:0<g) (h:0<=x):0<=x/g:=Int.ediv_nonneg h (by omega)
theorem Jjw {g x:Int}{b:Nat}(g0:0<g) (h:x.natAbs<b):(x/g).natAbs<b:=by
 refine J3d ?_ h
 have:=Int.natAbs_ediv_le_natAbs x g
 exact this
noncomputable def shL (R U:Int) (ws:List Way) (n:Nat) (W:List Nat) (T:Tb.Tab):List Int:=(Qn (U+R).toNat).map λ s=>T.share (U+R).toNat n W (ws.length+s)
noncomputable def shQ (R U:Int) (ws:List Way) (n:Nat) (W:List Nat) (T:Tb.Tab):List Int:=(shL R U ws n W T).map λ x=>x/((Zc (shL R U ws n W T):Nat):Int)
structure Told (R U:Int) (ws:List Way) (ks W:List Nat) (T:Tb.Tab):Prop where
 ok:BookOk R U ws
 kept:Kept (U+R).toNat ks.length (ws.length+(U+R).toNat) (Zv U ws) (Ja1 R U ws ks) T
 nd:ks.Nodup
 lt:∀ k∈ks,k<ws.length
theorem Told.m (t:Told R U ws ks W T):(U+R).toNat<=18:=by have:=t.ok.r1;have:=t.ok.p1;omega
theorem Told.n (t:Told R U ws ks W T):ks.length<=100:=by have:=nodup_le _ _ t.nd t.lt;have:=t.ok.len;omega
theorem Told.shape (t:Told R U ws ks W T):Shape (U+R).toNat ks.length T:=Jcd (Jie t.ok) t.kept.ok t.m t.n
theorem Told.fit (t:Told R U ws ks W T):Fit ws.length (U+R).toNat ks.length (Zv U ws) ks (Ja1 R U ws ks):=Jur t.lt
theorem Told.unit (t:Told R U ws ks W T) {s:Nat}(hs:s<(U+R).toNat):Tb.inN (U+R).toNat ks.length T (ws.length+s):=(t.fit.names t.kept.tot _).mpr (.inl ⟨s,hs,rfl⟩)
theorem Told.way (t:Told R U ws ks W T) {k:Nat}(hk:k∈ks):Tb.inN (U+R).toNat ks.length T k:=(t.fit.names t.kept.tot _).mpr (.inr hk)
theorem Jgn {n s:Nat}(hs:s<(U+R).toNat):T.share (U+R).toNat n W (ws.length+s)∈shL R U ws n W T:=Qo.mpr ⟨s,Xj.mpr hs,rfl⟩
theorem Jwx {n:Nat}:(shL R U ws n W T).length=(U+R).toNat:=by unfold shL;rw [Qb,Q2]
theorem Jwy {n:Nat}:(shQ R U ws n W T).length=(U+R).toNat:=by unfold shQ;rw [Qb,Jwx]
theorem Jqc {n s:Nat}(hs:s<(U+R).toNat):(shQ R U ws n W T)[s]? = some (T.share (U+R).toNat n W (ws.length+s)/((Zc (shL R U ws n W T):Nat):Int)):=by
 unfold shQ
 rw [Qk]
 conv=>lhs;rw [show shL R U ws n W T=(Qn (U+R).toNat).map (λ s=>T.share (U+R).toNat n W (ws.length+s)) from rfl]
 rw [Qk,Xs hs];rfl
theorem Juu (t:Told R U ws ks W T) (l:Tb.Last (U+R).toNat ks.length W T) (hw:∀ s,s<(U+R).toNat->ws.length+s∉W\/∃ i,i<(U+R).toNat/\T.b i=ws.length+s) (g0:Zc (shL R U ws ks.length W T)≠0) :
 SumK R U ws ks ((shQ R U ws ks.length W T).take U.toNat) ((shQ R U ws ks.length W T).drop U.toNat)/\(∀ k∈ks,k∈W->1<=Jaf ws ((shQ R U ws ks.length W T).take U.toNat) ((shQ R U ws ks.length W T).drop U.toNat) (k:Int))/\∀ p:Nat,(p:Int)<U->ws.length+p∈W->1<=((shQ R U ws ks.length W T).take U.toNat).getD p 0:=by
 have r0:=t.ok.r0
 have p0:=t.ok.p0
 have gp:(0:Int)<((Zc (shL R U ws ks.length W T):Nat):Int):=by omega
 have ql:=Jwy (R:=R) (U:=U) (ws:=ws) (n:=ks.length) (W:=W) (T:=T)
 have sm:∀ x∈shQ R U ws ks.length W T,0<=x/\x.natAbs<2^8000:=λ x hx=>by
  obtain ⟨y,hy,rfl⟩:=Qo.mp hx
  obtain ⟨s,hs,rfl⟩:=Qo.mp hy
  have hs:=Xj.mp hs
  exact ⟨Jzv gp (Tb.Jt7 t.kept.ok l (t.unit hs)),Jjw gp (Xd (Jf1 t.shape t.kept.ok (t.unit hs)) (Jcf (by decide)))⟩
 have lw:((((shQ R U ws ks.length W T).take U.toNat).length:Nat):Int)=U:=by rw [J4d,ql];omega
 have gw:∀ p:Nat,(p:Int)<U->((Zc (shL R U ws ks.length W T):Nat):Int)*((shQ R U ws ks.length W T).take U.toNat).getD p 0=T.share (U+R).toNat ks.length W (ws.length+p):=λ p hp=>by
  rw [Qi,List.getElem?_take,if_pos (by omega),Jqc (by omega),Xx]
  exact Jla (Jgn (by omega))
 have gh:∀ a:Nat,(a:Int)<R->((Zc (shL R U ws ks.length W T):Nat):Int)*((shQ R U ws ks.length W T).drop U.toNat).getD a 0=T.share (U+R).toNat ks.length W (ws.length+(U.toNat+a)):=λ a ha=>by
  rw [Qi,J5w,Jqc (by omega),Xx]
  exact Jla (Jgn (by omega))
 have fl:∀ k∈ks,Tb.ind W k T.q<=((Zc (shL R U ws ks.length W T):Nat):Int)*Jaf ws ((shQ R U ws ks.length W T).take U.toNat) ((shQ R U ws ks.length W T).drop U.toNat) (k:Int):=λ k hk=>by
  rw [Jut t.ok (S:=λ s=>T.share (U+R).toNat ks.length W (ws.length+s)) (t.lt k hk) lw gw gh]
  exact Tb.Jjs (Vw _) t.kept.ok l (λ s hs=>t.unit hs) hw (t.way hk)
 have q0:=t.kept.ok.qpos
 refine ⟨⟨lw,by rw [J3q,ql];omega,λ x hx=>(sm x (J80 hx)).1,λ x hx=>(sm x (J80 hx)).2,λ x hx=>(sm x (List.mem_of_mem_drop hx)).2,λ k hk=>?_⟩,λ k hk kw=>?_,λ p hp pw=>?_⟩
 . have:=fl k hk
   have i0:0<=Tb.ind W k T.q:=by unfold Tb.ind;split<;>omega
   have:=Int.le_trans i0 this
   exact J45 this gp
 . have:=fl k hk
   unfold Tb.ind at this
   rw [if_pos kw] at this
   have:0<((Zc (shL R U ws ks.length W T):Nat):Int)*Jaf ws ((shQ R U ws ks.length W T).take U.toNat) ((shQ R U ws ks.length W T).drop U.toNat) (k:Int):=by omega
   exact J46 this gp
 . have e:=gw p hp
   rcases hw p (by omega) with h | ⟨i,hi,eb⟩
   . exact absurd pw h
   . rw [<- eb,Tb.V7 t.kept.ok hi,eb] at e
     unfold Tb.ind at e
     rw [if_pos pw] at e
     have:0<((Zc (shL R U ws ks.length W T):Nat):Int)*((shQ R U ws ks.length W T).take U.toNat).getD p 0:=by omega
     exact J46 this gp
end
section
variable {R U:Int}{ws:List Way}{ks W:List Nat}{T:Tb.Tab}
theorem Jwz (t:Told R U ws ks W T) (l:Tb.Last (U+R).toNat ks.length W T) (hw:∀ s,s<(U+R).toNat->ws.length+s∉W\/∃ i,i<(U+R).toNat/\T.b i=ws.length+s) (h:(∃ k∈ks,k∈W)\/∃ s,s<(U+R).toNat/\ws.length+s∈W):∃ s,s<(U+R).toNat/\T.share (U+R).toNat ks.length W (ws.length+s)≠0:=by
 have q0:=t.kept.ok.qpos
 rcases h with ⟨k,hk,kw⟩ | ⟨s,hs,sw⟩
 . refine J3k λ no=>?_
   have z:∀ s,s<(U+R).toNat->T.share (U+R).toNat ks.length W (ws.length+s)=0:=λ s hs=>J3k λ c=>no ⟨s,hs,c⟩
   have f:=Tb.Jjs (Vw (U:=U) (ws:=ws) _) t.kept.ok l (λ s hs=>t.unit hs) hw (t.way hk)
   rw [Vv λ s hs=>by rw [z s hs,Xv]] at f
   unfold Tb.ind at f
   rw [if_pos kw] at f
   omega
 . refine ⟨s,hs,?_⟩
   rcases hw s hs with h | ⟨i,hi,e⟩
   . exact absurd sw h
   . rw [<- e,Tb.V7 t.kept.ok hi,e]
     unfold Tb.ind
     rw [if_pos sw]
     omega
theorem Jm7 (t:Told R U ws ks W T) {s:Nat}(hs:s<(U+R).toNat) (h:T.share (U+R).toNat ks.length W (ws.length+s)≠0):Zc (shL R U ws ks.length W T)≠0/\((Zc (shL R U ws ks.length W T):Nat):Int)<2^9000:=
 ⟨Jou (Jgn hs) h,Jun (Jgn hs) h (Xd (Jf1 t.shape t.kept.ok (t.unit hs)) (Jcf (by decide)))⟩
structure RoundK (R U:Int) (ws:List Way) (ks:List Nat) (cs:List Int):Prop where
 ro:RoundOk R ws cs
 sub:∀ k:Nat,cs.getD k 0≠0->k∈ks
 gn:∀ p:Nat,(p:Int)<U->0<=(Jsr ws cs p).sum
 bd:∀ c∈cs,c.natAbs<2^8000
 ne:∃ k∈ks,0<cs.getD k 0
noncomputable def drL (ws:List Way) (m:Nat) (T:Tb.Tab) (k:Nat):List Int:=(Qn ws.length).map (T.dir m k)
noncomputable def drQ (ws:List Way) (m:Nat) (T:Tb.Tab) (k:Nat):List Int:=(drL ws m T k).map λ x=>x/((Zc (drL ws m T k):Nat):Int)
theorem Jlc {m k:Nat}:(drQ ws m T k).length=ws.length:=by unfold drQ drL;rw [Qb,Qb,Q2]
theorem Jqd {m k i:Nat}(h:i<ws.length):T.dir m k i∈drL ws m T k:=Qo.mpr ⟨i,Xj.mpr h,rfl⟩
theorem Jqe {m k i:Nat}(h:i<ws.length):(drQ ws m T k)[i]? = some (T.dir m k i/((Zc (drL ws m T k):Nat):Int)):=by
 unfold drQ
 rw [Qk]
 conv=>lhs;rw [show drL ws m T k=(Qn ws.length).map (T.dir m k) from rfl]
 rw [Qk,Xs h];rfl
theorem Jw0 {m k i:Nat}(h:i<ws.length):((Zc (drL ws m T k):Nat):Int)*(drQ ws m T k).getD i 0=T.dir m k i:=by
 rw [Qi,Jqe h,Xx]
 exact Jla (Jqd h)
theorem Jm8 (ok:BookOk R U ws) (cs:List Int):∀ i,i<=ws.length->Tb.Jo R.toNat (λ r=>Wq ws cs i (r:Nat))=0
 | 0,_=>Tb.Z2 _
 | i+1,hi=>by
  have wok:=ok.ways _ (Y3 (k:=(i:Int)) (Xq i) (by omega))
  have r0:=ok.r0
  have a0:=wok.a0
  have a1:=wok.a1
  have b0:=wok.b0
  have b1:=wok.b1
  have e:∀ r,r<R.toNat->Wq ws cs (i+1) (r:Nat)=Wq ws cs i (r:Nat)+(-(if r=(Jh ws (i:Nat)).a.toNat then cs.getD i 0 else 0)+(if r=(Jh ws (i:Nat)).b.toNat then cs.getD i 0 else 0)):=λ r hr=>by
   rw [Wq]
   have h1:((Jh ws (i:Nat)).a=((r:Nat):Int))↔r=(Jh ws (i:Nat)).a.toNat:=by omega
   have h2:((Jh ws (i:Nat)).b=((r:Nat):Int))↔r=(Jh ws (i:Nat)).b.toNat:=by omega
   by_cases c1:r=(Jh ws (i:Nat)).a.toNat<;>by_cases c2:r=(Jh ws (i:Nat)).b.toNat
   . rw [if_pos (h1.mpr c1),if_pos (h2.mpr c2),if_pos c1,if_pos c2];omega
   . rw [if_pos (h1.mpr c1),if_neg (mt h2.mp c2),if_pos c1,if_neg c2];omega
   . rw [if_neg (mt h1.mp c1),if_pos (h2.mpr c2),if_neg c1,if_pos c2];omega
   . rw [if_neg (mt h1.mp c1),if_neg (mt h2.mp c2),if_neg c1,if_neg c2];omega
  rw [Tb.Jp e,Tb.Wx,Jm8 ok cs i (by omega),Tb.Wx,Tb.Vi,Tb.Yj (a:=(Jh ws (i:Nat)).a.toNat) (by omega) (λ r _ h=>if_neg h),Tb.Yj (a:=(Jh ws (i:Nat)).b.toNat) (by omega) (λ r _ h=>if_neg h),if_pos rfl,if_pos rfl]
  omega
theorem Juv {n:Nat}{f:Nat->Int}(h:∀ i,i<n->0<=f i) (z:Tb.Jo n f=0) {i:Nat}(hi:i<n):f i=0:=by
 have:=Jeh hi h
 have:=h i hi
 omega
theorem Jjx (t:Told R U ws ks W T) {k:Nat}(hk:k<ks.length) {r:Nat}(hr:r<(U+R).toNat):T.dir (U+R).toNat k (ws.length+r) = -Tb.Jo ws.length λ i=>T.dir (U+R).toNat k i*Zv U ws i r:=by
 have e:=Tb.Jgi t.kept.ok hk r hr
 have ze:∀ i,i<ws.length->i∉ks->T.dir (U+R).toNat k i*Zv U ws i r=0:=λ i hi hn=>by
  have no:¬ Tb.inN (U+R).toNat ks.length T i:=λ z=>by
   rcases (t.fit.names t.kept.tot i).mp z with ⟨s,_,e⟩ | h
   . omega
   . exact hn h
  have:T.dir (U+R).toNat k i=0:=by
   unfold Tb.Tab.dir
   rw [if_neg (λ z=>no (.inr ⟨k,hk,z.symm⟩)),Vv λ j hj=>if_neg λ z=>no (.inl ⟨j,hj,z⟩)]
   rfl
  rw [this,X1]
 rw [t.kept.tot,t.fit.tot,Jus t.nd t.lt ze,Tb.Yj (a:=r) hr (λ s hs hne=>?_)] at e
 . rw [(Vw (U:=U) (ws:=ws) (U+R).toNat).un r hr] at e
   have:Tb.Va r r=1:=if_pos rfl
   rw [this] at e
   omega
 . rw [(Vw (U:=U) (ws:=ws) (U+R).toNat).un s hs]
   have:Tb.Va s r=0:=if_neg (Qj hne)
   rw [this,Xv]
theorem Joy (t:Told R U ws ks W T) {k:Nat}(ry:Tb.Ray (U+R).toNat ks.length W T k):RoundK R U ws ks (drQ ws (U+R).toNat T k)/\(∀ i,i<ws.length->0<T.dir (U+R).toNat k i->1<=(drQ ws (U+R).toNat T k).getD i 0)/\(∀ p:Nat,(p:Int)<U->0<T.dir (U+R).toNat k (ws.length+p)->1<=(Jsr ws (drQ ws (U+R).toNat T k) p).sum)/\∃ ν∈W,Tb.inN (U+R).toNat ks.length T ν/\0<T.dir (U+R).toNat k ν:=by
 have r0:=t.ok.r0
 have p0:=t.ok.p0
 obtain ⟨j,hj,jp⟩:=Jqa t.fit t.kept.tot t.kept.ok ry
 have jl:=t.lt j hj
 have g0:=Jou (Jqd (m:=(U+R).toNat) (T:=T) (k:=k) jl) (by omega)
 have gp:(0:Int)<((Zc (drL ws (U+R).toNat T k):Nat):Int):=by omega
 have mul:=λ {i:Nat} (h:i<ws.length)=>Jw0 (m:=(U+R).toNat) (T:=T) (k:=k) h
 have dn:∀ i,0<=T.dir (U+R).toNat k i:=λ i=>Tb.Jt8 t.kept.ok ry i
 have no:∀ i,i<ws.length->i∉ks->T.dir (U+R).toNat k i=0:=λ i hi hn=>by
  have no:¬ Tb.inN (U+R).toNat ks.length T i:=λ z=>by
   rcases (t.fit.names t.kept.tot i).mp z with ⟨s,_,e⟩ | h
   . omega
   . exact hn h
  unfold Tb.Tab.dir
  rw [if_neg (λ z=>no (.inr ⟨k,ry.hk,z.symm⟩)),Vv λ j hj=>if_neg λ z=>no (.inl ⟨j,hj,z⟩)]
  rfl
 have purse:∀ p:Nat,(p:Int)<U->T.dir (U+R).toNat k (ws.length+p)=((Zc (drL ws (U+R).toNat T k):Nat):Int)*(Jsr ws (drQ ws (U+R).toNat T k) p).sum:=λ p hp=>by
  rw [Jjx t ry.hk (by omega)]
  unfold Jsr
  rw [<- Jcu,<- Tb.Z1,<- Tb.Vi]
  refine Tb.Jp λ i hi=>?_
  rw [Jm5 hi hp,<- mul hi,J40,Int.neg_neg,U8]
 have room:∀ a:Nat,a<R.toNat->T.dir (U+R).toNat k (ws.length+(U.toNat+a))=((Zc (drL ws (U+R).toNat T k):Nat):Int)*Wq ws (drQ ws (U+R).toNat T k) ws.length (a:Nat):=λ a ha=>by
  rw [Jjx t ry.hk (by omega),Jmi,<- Jcu,<- Tb.Z1,<- Tb.Vi]
  refine Tb.Jp λ i hi=>?_
  rw [Jjv hi (by omega),<- mul hi]
  unfold Jv6
  generalize (drQ ws (U+R).toNat T k).getD i 0=x
  generalize (if (Jh ws ((i:Nat):Int)).a=((a:Nat):Int) then (1:Int) else 0)=y
  generalize (if (Jh ws ((i:Nat):Int)).b=((a:Nat):Int) then (1:Int) else 0)=z
  rw [<- J40,Int.neg_sub,U8]
 have bal:∀ a:Nat,a<R.toNat->Wq ws (drQ ws (U+R).toNat T k) ws.length (a:Nat)=0:=λ a ha=>
  Juv (f:=λ a=>Wq ws (drQ ws (U+R).toNat T k) ws.length (a:Nat)) (λ a ha=>J45 (by rw [<- room a ha];exact dn _) gp) (Jm8 t.ok _ _ (Ql _)) ha
 have at0:∀ i,i<ws.length->0<=(drQ ws (U+R).toNat T k).getD i 0:=λ i hi=>J45 (by rw [mul hi];exact dn _) gp
 have ps:∀ i,i<ws.length->0<T.dir (U+R).toNat k i->1<=(drQ ws (U+R).toNat T k).getD i 0:=λ i hi h=>by
  rw [<- mul hi] at h
  exact J46 h gp
 have memi:∀ c∈drQ ws (U+R).toNat T k,∃ i,i<ws.length/\c=(drQ ws (U+R).toNat T k).getD i 0/\c=T.dir (U+R).toNat k i/((Zc (drL ws (U+R).toNat T k):Nat):Int):=λ c hc=>by
  obtain ⟨i,hi⟩:=Ur.mp hc
  have il:=(Qt.mp hi).1
  rw [Jlc] at il
  refine ⟨i,il,by rw [Qi,hi];rfl,?_⟩
  rw [Jqe il] at hi
  exact (Xi hi).symm
 refine ⟨⟨⟨Jlc,λ c hc=>?_,bal⟩,λ i hi=>?_,λ p hp=>?_,λ c hc=>?_,j,hj,ps j jl jp⟩,ps,λ p hp h=>?_,?_⟩
 . obtain ⟨i,il,e,_⟩:=memi c hc
   rw [e];exact at0 i il
 . refine J3k λ hn=>hi ?_
   by_cases il:i<ws.length
   . have:=mul il
     rw [no i il hn] at this
     rcases Int.mul_eq_zero.mp this with z | z
     . omega
     . exact z
   . rw [Qi,Q7 (by rw [Jlc];omega)];rfl
 . exact J45 (by rw [<- purse p hp];exact dn _) gp
 . obtain ⟨i,il,_,e⟩:=memi c hc
   rw [e]
   by_cases h:i∈ks
   . exact Jjw gp (Xd (Jju t.shape t.kept.ok ry.hk (t.way h)) (Jcf (by decide)))
   . rw [no i il h,Int.zero_ediv];exact J44 _
 . rw [purse p hp] at h
   exact J46 h gp
 . have w:=Tb.Jde (W:=W) t.kept.ok ry.hk
   have rp:=ry.rise
   rw [<- w] at rp
   have pos:∀ ν,0<Tb.ind W ν (T.dir (U+R).toNat k ν)->ν∈W/\0<T.dir (U+R).toNat k ν:=λ ν h=>by
    unfold Tb.ind at h
    split at h
    . exact ⟨by assumption,h⟩
    . exact absurd h (by decide)
   unfold Tb.Tab.tot at rp
   dsimp only at rp
   by_cases c:0<Tb.Jo (U+R).toNat (λ i=>Tb.ind W (T.b i) (T.dir (U+R).toNat k (T.b i)))
   . obtain ⟨i,hi,hp⟩:=Tb.W5 c
     obtain ⟨a,b⟩:=pos _ hp
     exact ⟨_,a,.inl ⟨i,hi,rfl⟩,b⟩
   . obtain ⟨j,hj,hp⟩:=Tb.W5 (n:=ks.length) (f:=λ j=>Tb.ind W (T.f j) (T.dir (U+R).toNat k (T.f j))) (by omega)
     obtain ⟨a,b⟩:=pos _ hp
     exact ⟨_,a,.inr ⟨j,hj,rfl⟩,b⟩
end
def Jif:GSp:=λ as n Q=>∃ (R U:Int) (ws:List Way) (ks:List Nat),as=[.d (J7 R U ws),.d (.list (ks.map Jq))]/\BookOk R U ws/\IsRing R ws ks/\Q (.bool true) n
def Jld (C:Addr):Sp:=λ vs H Q _=>∃ (ex:List Addr) (R U:Int) (ws:List Way) (ks:List Nat) (bv sv:V),vs=[bv,sv]/\Alc ex H/\Rep ex H (J7 R U ws) bv/\Rep ex H (.list (ks.map Jq)) sv/\BookOk R U ws/\IsRing R ws ks /\
 ∀ H' p fa ba,H p=none->H fa=none->H ba=none->TabH C ex p fa ba (Jic R U ws) (Ja1 R U ws ks) H'->Kp [] H H'->Q (.ref p) H'
def Jdg:GSp:=λ as n Q=>∃ (R U:Int) (ws:List Way) (ks:List Nat) (k:Nat),as=[.d (J7 R U ws),.d (.list (ks.map Jq)),.d (Jq k)]/\BookOk R U ws/\IsRing R ws ks/\k∈ks /\
 (∀ wt ht,SumK R U ws ks wt ht->1<=Jaf ws wt ht (k:Int)->Q (.tuple [.str "sum",Jm6 wt ht]) n)/\∀ cs,RoundK R U ws ks cs->1<=cs.getD k 0->Q (.tuple [.str "round",.tuple (cs.map .int)]) n
section
variable {R U:Int}{ws:List Way}{ks W W':List Nat}{T T':Tb.Tab}{C p fa ba:Addr}{ex:List Addr}{H:Hp}{wv:V}{Q:VK}{E:XK}
theorem Jgo (ok:BookOk R U ws):Jic R U ws=⟨((ws.length:Nat):Int),((ws.length+U.toNat:Nat):Int),((ws.length+(U+R).toNat:Nat):Int)⟩:=by
 have r0:=ok.r0
 have p0:=ok.p0
 unfold Jic
 congr 1<;>omega
theorem Told.zero (ok:BookOk R U ws) (nd:ks.Nodup) (lt:∀ k∈ks,k<ws.length):Told R U ws ks W (Ja1 R U ws ks):=⟨ok,Jrm nd lt,nd,lt⟩
theorem Told.self (t:Told R U ws ks W T):Kept (U+R).toNat ks.length (ws.length+(U+R).toNat) (Zv U ws) T T:=⟨t.kept.ok,t.kept.nm,λ _=>rfl⟩
theorem Told.fitT (t:Told R U ws ks W T):Fit ws.length (U+R).toNat ks.length (Zv U ws) ks T:=⟨Vw _,t.lt,rfl,λ g=>by rw [t.kept.tot];exact t.fit.tot g⟩
theorem Told.next (t:Told R U ws ks W T) (k:Kept (U+R).toNat ks.length (ws.length+(U+R).toNat) (Zv U ws) T T'):Told R U ws ks W' T':=⟨t.ok,⟨k.ok,k.nm,λ g=>by rw [k.tot,t.kept.tot]⟩,t.nd,t.lt⟩
theorem Jrn (t:Told R U ws ks W T) (hT:TabH C ex p fa ba (Jic R U ws) T H) (hw:Rep (p::fa::ba::ex) H (.list (W.map Jq)) wv)
 (qr:∀ H' T' k v,TabH C ex p fa ba (Jic R U ws) T' H'->Told R U ws ks W T'->Tb.Ray (U+R).toNat ks.length W T' k->Kp [p,fa,ba] H H'->Rep ex H' (.tuple ((drQ ws (U+R).toNat T' k).map .int)) v->Q v H')
 (ql:∀ H' T',TabH C ex p fa ba (Jic R U ws) T' H'->Told R U ws ks W T'->Tb.Last (U+R).toNat ks.length W T'->Kp [p,fa,ba] H H'->Q .non H'):Jk8 C [.ref p,wv] H Q E:=by
 rw [Jgo t.ok] at hT
 have wl:=t.ok.len
 have m18:=t.m
 refine ⟨ex,p,fa,ba,ws.length,ws.length+U.toNat,ws.length+(U+R).toNat,(U+R).toNat,ks.length,Zv U ws,T,W,ks,wv,rfl,hT,hw,Jie t.ok,t.m,t.n,by omega,by omega,t.self,t.fitT,λ H' T' k v h1 h2 h3 h4 h5=>?_,λ H' T' h1 h2 h3 h4=>?_⟩
 . refine qr H' T' k v (by rw [Jgo t.ok];exact h1) (t.next h2) h3 h4 ?_
   unfold drQ drL
   rw [Qy]
   exact h5
 . exact ql H' T' (by rw [Jgo t.ok];exact h1) (t.next h2) h3 h4
theorem Juw (t:Told R U ws ks W T) (hT:TabH C ex p fa ba (Jic R U ws) T H) (hw:Rep ex H (.list (W.map Jq)) wv) (wlt:∀ w∈W,w<ws.length+(U+R).toNat) {s:Nat}(hs:s<(U+R).toNat) (hne:T.share (U+R).toNat ks.length W (ws.length+s)≠0)
 (q:∀ H' v,Kp [] H H'->Rep ex H' (Jm6 ((shQ R U ws ks.length W T).take U.toNat) ((shQ R U ws ks.length W T).drop U.toNat)) v->Q v H'):Jm (Ja0 C) [.ref p,wv] H Q E:=by
 have hsz:sizeLine=16777216:=J9p
 have sh:=t.shape
 have wl:=t.ok.len
 have m18:=t.m
 have n100:=t.n
 obtain ⟨g0,g1⟩:=Jm7 t hs hne
 have sl0:(sl T (U+R).toNat (ws.length+(U+R).toNat) W ks.length).drop ws.length=shL R U ws ks.length W T:=Jow _ _ _ _ rfl
 have hT':=hT
 rw [Jgo t.ok] at hT'
 refine Jef (sp:=Ja0 C) (vs:=[wv]) (as:=[.d (.list (W.map Jq))]) hT' (by rw [sh.lf];omega) (by rw [sh.lb];omega) ⟨⟨_,rfl,hw⟩,trivial⟩ (P:=λ d _=>d=Jm6 ((shQ R U ws ks.length W T).take U.toNat) ((shQ R U ws ks.length W T).drop U.toNat)) ⟨T,(U+R).toNat,ks.length,ws.length,ws.length+U.toNat,ws.length+(U+R).toNat,W,rfl,sh,t.kept.nm,wlt,by omega,by omega,by omega,?_,?_,?_⟩ λ d n' v H' hp kp r=>?_
 . rw [sl0];exact g0
 . rw [sl0];exact g1
 . rw [sl0,show ws.length+U.toNat-ws.length=U.toNat by omega]
   rfl
 . subst hp
   exact q H' v kp r
end
def Jej:GSp:=λ as n Q=>as=[.tape]/\n<2^39/\∀ (r:Int) (m:Nat),-97<=r->r<=97->m<=n+4->Q (.int r) m
instance scal_gainVW:Scal Jej:=⟨λ {as n P} h=>⟨h.1,h.2.1,λ r m r0 r1 hm=>⟨rfl,h.2.2 r m r0 r1 hm⟩⟩⟩
def Jcv:GSp:=λ as n Q=>∃ U:Int,as=[.tape,.d (.int U)]/\n<2^38/\0<=U/\U<=6/\∀ (f:Nat->Int) (m:Nat),(∀ i,i<U.toNat->-97<=f i/\f i<=97)->m<=n+24->Q (Je4 U f) m
def Jdh:GSn:=λ as n Q=>∃ R U:Int,as=[.tape,.d (.int R),.d (.int U)]/\n<2^37/\(1<=R/\R<=12)/\(1<=U/\U<=6)/\∀ (ws:List Way) (m:Nat),(∀ w∈ws,WayOk R U w)->ws.length<=24->m<=n+80->Q (ws.map Y8) m
def Jig:GSp:=λ as n Q=>∃ xs:List Int,as=[.d (.tuple (xs.map .int)),.d (.int (xs.length:Int))]/\xs.length<=1000/\Q (.bool true) n
noncomputable instance:Scal Jig:=⟨λ {as n P} h=>by obtain ⟨w,e,h1,q⟩:=h;exact ⟨w,e,h1,rfl,q⟩⟩
def Jek:GSp:=λ as n Q=>∃ (R U:Int) (ws:List Way) (wt ht:List Int),as=[.d (J7 R U ws),.d (Jm6 wt ht)]/\BookOk R U ws/\(wt.length:Int)=U/\(ht.length:Int)=R/\(∀ x∈wt,0<=x)/\Q (.bool true) n
noncomputable instance:Scal Jek:=⟨λ {as n P} h=>by obtain ⟨R,U,ws,wt,ht,e,h1,h2,h3,h4,q⟩:=h;exact ⟨R,U,ws,wt,ht,e,h1,h2,h3,h4,rfl,q⟩⟩
structure SumB (R U:Int) (wt ht:List Int):Prop where
 lw:(wt.length:Int)=U
 lh:(ht.length:Int)=R
 bw:∀ x∈wt,x.natAbs<2^8000
theorem SumK.b {R U:Int}{ws:List Way}{ks:List Nat}{wt ht:List Int}(h:SumK R U ws ks wt ht):SumB R U wt ht:=⟨h.lw,h.lh,h.bw⟩
def Jel:GSp:=λ as n Q=>∃ (R U:Int) (ws:List Way) (wt ht:List Int) (k:Nat),as=[.d (J7 R U ws),.d (Jm6 wt ht),.d (Jq k)]/\BookOk R U ws/\SumB R U wt ht/\k<ws.length/\Q (.int (Jaf ws wt ht (k:Int))) n
noncomputable instance:Scal Jel:=⟨λ {as n P} h=>by obtain ⟨R,U,ws,wt,ht,k,e,h1,h2,h3,q⟩:=h;exact ⟨R,U,ws,wt,ht,k,e,h1,h2,h3,rfl,q⟩⟩
def Jgp:GSp:=λ as n Q=>∃ (R U:Int) (ws:List Way) (wt ht:List Int) (ks:List Nat),as=[.d (J7 R U ws),.d (Jm6 wt ht),.d (.list (ks.map Jq))]/\BookOk R U ws/\SumB R U wt ht/\(∀ k∈ks,k<ws.length)/\ks.length<=1000/\(∀ k∈ks,0<=Jaf ws wt ht (k:Int))/\Q (.bool true) n
noncomputable instance:Scal Jgp:=⟨λ {as n P} h=>by obtain ⟨R,U,ws,wt,ht,k,e,h1,h2,h3,h4,h5,q⟩:=h;exact ⟨R,U,ws,wt,ht,k,e,h1,h2,h3,h4,h5,rfl,q⟩⟩
structure RdB (R:Int) (ws:List Way) (cs:List Int):Prop where
 ro:RoundOk R ws cs
 bd:∀ c∈cs,c.natAbs<2^8000
 ne:∃ k,0<cs.getD k 0
theorem RoundK.b {R U:Int}{ws:List Way}{ks:List Nat}{cs:List Int}(h:RoundK R U ws ks cs):RdB R ws cs:=⟨h.ro,h.bd,h.ne.imp λ _ h=>h.2⟩
def Jih:GSp:=λ as n Q=>∃ (R U:Int) (ws:List Way) (cs:List Int),as=[.d (J7 R U ws),.d (.tuple (cs.map .int))]/\BookOk R U ws/\RdB R ws cs/\Q (.list ((rgI ws cs U).map .int)) n
noncomputable def gpI (ws:List Way) (cs:List Int) (i p:Nat):Int:=((Qn i).map λ j=>cs.getD j 0*(Jh ws (j:Nat)).g.getD p 0).sum
theorem Jux (ws:List Way) (cs:List Int) (i p:Nat):gpI ws cs (i+1) p=gpI ws cs i p+cs.getD i 0*(Jh ws (i:Nat)).g.getD p 0:=by
 unfold gpI
 rw [J2y,Q1,J4o,J3i,J6o]
theorem Juy {ws:List Way}{cs:List Int}(h:cs.length=ws.length) {i:Nat}{x:J9i}(hx:(Vf (cs.map .int) (ws.map Y8))[i]? = some x):i<ws.length/\x = .tuple [.int (cs.getD i 0),Y8 (Jh ws (i:Int))]:=by
 unfold Vf at hx
 rw [J2q] at hx
 by_cases hi:i<ws.length
 . rw [Jai (by omega),Jv5 hi] at hx
   exact ⟨hi,(Xi hx).symm⟩
 . rw [Q7 (by rw [Qb];omega)] at hx
   cases hx
theorem Jro {xs ys:List Int}:X8 (.tuple (xs.map Qp)) (.tuple (ys.map Qp))=decide (xs=ys):=by rw [X8];exact Jjo xs ys
def Jcw:GSp:=λ as n Q=>∃ (cs:List Int) (ks:List Nat),as=[.d (.tuple (cs.map .int)),.d (.list (ks.map Jq))]/\cs.length<=1000/\(∀ k:Nat,cs.getD k 0≠0->k∈ks)/\Q (.bool true) n
noncomputable instance:Scal Jcw:=⟨λ {as n P} h=>by obtain ⟨cs,ks,e,h1,h2,q⟩:=h;exact ⟨cs,ks,e,h1,h2,rfl,q⟩⟩
theorem Joz {ws:List Way}{ks rg:List Int}{k:Int}(h:KeyOf ws ks rg k) {x y:Nat}(hr:Rt (Yr ws ks) x y) (hx:Rt (Yr ws ks) (aOf ws k) x) (hy:Rt (Yr ws ks) y (aOf ws k)):Rt (Yr ws rg) x y:=
 Jra hr λ i hi h1 h2=>(h.i i).mpr ⟨hi,hx.trans h1,h2.trans hy⟩
theorem Juz {ws:List Way}{ks rg:List Int}{k:Int}(h:KeyOf ws ks rg k):∀ i∈rg,∀ j∈rg,Rt (Yr ws rg) (Jh ws i).b.toNat (Jh ws j).a.toNat:=λ i hi j hj=>by
 obtain ⟨i1,i2,i3⟩:=(h.i i).mp hi
 obtain ⟨j1,j2,j3⟩:=(h.i j).mp hj
 refine Joz h (i3.trans j2) ?_ ?_
 . exact i2.trans (Jzg i1)
 . exact (Jzg j1).trans j3
noncomputable def toN (r:List Int):List Nat:=r.map J4y
theorem Jw1 {r:List Int}(h:∀ k∈r,0<=k):(toN r).map Jq=r.map .int:=by
 unfold toN
 rw [Qy]
 refine Ug λ k hk=>?_
 show Qp ((k.toNat:Nat):Int) = .int k
 rw [X3 (h k hk)]
theorem Jzw {r:List Int}(h:∀ k∈r,0<=k):nI (toN r)=r:=by
 unfold nI toN
 rw [Qy]
 conv=>rhs;rw [<- List.map_id r]
 refine Ug λ k hk=>?_
 exact X3 (h k hk)
theorem Jf2 {R U:Int}{ws:List Way}{ks:List Int}{rs:List (List Int)}{i:Nat}(ok:BookOk R U ws) (hk:∀ k∈ks,0<=k/\k<ws.length) (up:ks.Pairwise (· < ·)) (hI:RgI ws ks rs i) {r:List Int}(hr:r∈rs):IsRing R ws (toN r)/\(∀ k∈r,0<=k):=by
 obtain ⟨k,key⟩:=hI.key r hr
 have sb:=hI.sb r hr
 have nn:∀ k∈r,0<=k:=λ k h=>(hk k (sb.subset h)).1
 have r0:=ok.r0
 refine ⟨⟨λ k h=>?_,?_,?_⟩,nn⟩
 . obtain ⟨j,hj,rfl⟩:=Qo.mp h
   have:=hk j (sb.subset hj)
   omega
 . refine J32.mpr ((up.sublist sb).imp_of_mem λ {a b} ha hb hab=>?_)
   have:=nn a ha
   omega
 . rw [Jzw nn]
   refine Jti (λ e=>by have:=key.self;rw [e] at this;cases this) (λ e he=>?_) (Juz key)
   obtain ⟨j,hj,rfl⟩:=Qo.mp he
   have h2:=hk j (sb.subset hj)
   have wok:=ok.ways _ (Y3 h2.1 h2.2)
   have:=wok.a0
   have:=wok.a1
   have:=wok.b0
   have:=wok.b1
   exact ⟨by show (Jh ws j).a.toNat<_;omega,by show (Jh ws j).b.toNat<_;omega⟩
noncomputable def evI (ws:List Way):List Int:=(Qn ws.length).map λ i:Nat=>(i:Int)
theorem Ju0 (ws:List Way):(evI ws).Pairwise (· < ·):=by
 unfold evI
 rw [J32]
 exact J6n.imp λ h=>by exact_mod_cast h
theorem Jo0 {ws:List Way}:∀ k∈evI ws,0<=k/\k<ws.length:=λ k hk=>by
 obtain ⟨i,hi,rfl⟩:=Qo.mp hk
 have:=Xj.mp hi
 omega
theorem Jdi {β:Type}{turn:J9i->Nat->(Option J9i->Nat->Prop)->Prop}{g:β->J9i}(c B:Nat):∀ {ks:List β}{n:Nat}{Q:List J9i->Nat->Prop},(∀ k∈ks,∀ n,n<=B->∀ K:Option J9i->Nat->Prop,(∀ n',n'<=n+c->K (some (g k)) n')->(∀ n',n'<=n+c->K none n')->turn (g k) n K)->n+c*ks.length<=B->(∀ (ms:List β) (n':Nat),ms.Sublist ks->n'<=n+c*ks.length->Q (ms.map g) n')->Jc8 turn (ks.map g) n Q
 | [],n,_,_,_,q=>q [] n (List.Sublist.refl _) (J3f _ _)
 | k::ks,n,Q,h,hB,q=>by
  rw [Xu,J41] at hB
  refine h k Qg n (by omega) _ (λ n' hn'=>?_) (λ n' hn'=>?_)
  . exact Jdi c B (λ j hj=>h j (Qh _ hj)) (by omega) λ ms n2 hm h2=>q (k::ms) n2 (hm.cons₂ k) (by rw [Xu,J41];omega)
  . exact Jdi c B (λ j hj=>h j (Qh _ hj)) (by omega) λ ms n2 hm h2=>q ms n2 (hm.cons k) (by rw [Xu,J41];omega)
def Jle:GSp:=λ as n Q=>∃ (R U:Int) (ws:List Way),as=[.tape,.d (J7 R U ws)]/\BookOk R U ws/\n<2^36/\∀ (kss:List (List Nat)) (m:Nat),(∀ ks∈kss,IsRing R ws ks)->kss.length<=200->m<=n+60->Q (.list (kss.map λ ks=>.list (ks.map Jq))) m
def Jfh:GSp:=λ as n Q=>∃ (R U:Int) (ws:List Way) (ks:List Nat) (k:Nat) (d:J9i),as=[.d (J7 R U ws),.d (.list (ks.map Jq)),.d (Jq k),.d d]/\BookOk R U ws/\IsRing R ws ks/\k∈ks/\((∃ wt ht,d = .tuple [.str "sum",Jm6 wt ht]/\SumK R U ws ks wt ht/\1<=Jaf ws wt ht (k:Int))\/∃ cs,d = .tuple [.str "round",.tuple (cs.map .int)]/\RoundK R U ws ks cs/\1<=cs.getD k 0)/\Q (.bool true) n
end My
set_option synthInstance.maxSize 100000
set_option synthInstance.maxHeartbeats 4000000
namespace My
open L2
noncomputable def top (i:Nat):Stmt:=J9h.main.body.getD i (.Pass ⟨0,0,0,0⟩)
noncomputable def Jf7 (i j:Nat):Stmt:=(Jwa (top i)).getD j (.Pass ⟨0,0,0,0⟩)
noncomputable abbrev Jdj:Stmt:=top 6
noncomputable abbrev Jbk:Stmt:=top 7
noncomputable abbrev Jfi:Stmt:=top 8
noncomputable abbrev Zh:Stmt:=top 10
noncomputable abbrev Jbl:Stmt:=top 11
noncomputable abbrev Vx:Stmt:=top 13
noncomputable abbrev Wa:Stmt:=top 14
noncomputable abbrev Wz:Stmt:=top 16
noncomputable abbrev Y5:Stmt:=Jf7 17 0
noncomputable abbrev Wb:Stmt:=Jf7 17 1
noncomputable abbrev Wo:Stmt:=Jf7 17 2
noncomputable abbrev Wd:Stmt:=Jf7 17 3
noncomputable abbrev Y1:Stmt:=Jf7 17 4
noncomputable abbrev We:Stmt:=Jf7 17 5
noncomputable abbrev Wf:Stmt:=Jf7 17 6
noncomputable abbrev W6:Stmt:=Jf7 17 7
noncomputable abbrev Ws:Stmt:=Jf7 17 8
noncomputable abbrev Bf:Stmt:=Jf7 17 9
noncomputable abbrev Vj:Stmt:=Jf7 17 10
noncomputable abbrev Bg:Stmt:=Jf7 17 11
noncomputable abbrev Ja2:Stmt:=top 19
noncomputable abbrev Jbm:Stmt:=top 20
noncomputable abbrev Jaa:Stmt:=top 21
noncomputable abbrev Jdk:Stmt:=top 23
noncomputable abbrev Jdl:Stmt:=top 24
noncomputable abbrev Jdm:Stmt:=top 25
noncomputable abbrev Jaj:Stmt:=top 26
noncomputable abbrev Br:Stmt:=top 27
noncomputable abbrev Jbn:Stmt:=top 28
noncomputable abbrev Jcg:Stmt:=top 29
noncomputable abbrev W0:Stmt:=top 30
noncomputable abbrev Bs:Stmt:=top 31
noncomputable abbrev Jdn:Stmt:=top 32
noncomputable abbrev Jbo:Stmt:=top 33
noncomputable abbrev Vy:Stmt:=top 34
noncomputable abbrev Bt:Stmt:=top 35
noncomputable abbrev Jfj:Stmt:=top 36
noncomputable abbrev V8:Stmt:=top 37
noncomputable abbrev Jak:Stmt:=top 38
noncomputable abbrev Jch:Stmt:=top 39
noncomputable abbrev Jem:Stmt:=top 40
structure Txt (mg:Str->Option J9j):Prop where
 b_isinstance:mg "isinstance" = none
 b_int:mg "int" = none
 b_bool:mg "bool" = none
 b_str:mg "str" = none
 b_tuple:mg "tuple" = none
 b_len:mg "len" = none
 b_all:mg "all" = none
 b_sum:mg "sum" = none
 b_range:mg "range" = none
 b_list:mg "list" = none
 b_zip:mg "zip" = none
 b_enumerate:mg "enumerate" = none
 b_min:mg "min" = none
 b_max:mg "max" = none
 b_abs:mg "abs" = none
 b_dict:mg "dict" = none
section
variable {P:J9n}{w:J9m}{K:Qc}{mg:Str->Option J9j}{base:Heap}
theorem Jm9:FnScope ["_law_script"] ["_law_script"] (Je Jdk):=⟨rfl,rfl,rfl,by decide +kernel,rfl,by decide +kernel,by decide +kernel⟩
theorem Jna (T:Txt mg) (D:Def K mg "_law_tape" Jdk ["_law_script"]):Cal P w K mg base "_law_tape" 1 ["_law_script"] (Jj8 K):=by
 refine D.cal λ f fd F=>F.ok Jm9 (λ vs H Q E h=>?_) (λ cdv A outer s H vs Q E hr h=>?_)
 . obtain ⟨a,ns,rfl,_⟩:=h
   rfl
 obtain ⟨a,ns,rfl,hS,hlen,q⟩:=h
 refine ⟨_,(@Ji _ _ _ (@Js _ _ _ _ (@PEs.out _ _ _ (Yd (Wv (J6 (Yc Zx rfl T.b_list J93 (Yh (Jas Jcn (pv 0) Jcl (Jcm Jd)) Jc))) (Jt Ya (Jt Ya Jw))))))),?_⟩
 obtain ⟨ms,ems,lms⟩:=Jqv ns none (some 63)
 refine ⟨_,rfl,_,rfl,a,_,rfl,hS,λ l1 hl1=>?_⟩
 rw [ems]
 refine ⟨l1,_,rfl,.inl (SqL.of Jg),λ l2 hl2=>⟨Vp (Q5 rfl),λ p hp=>?_⟩⟩
 have n1:l2≠l1:=λ z=>by rw [z,Jg] at hl2;cases hl2
 have n2:p≠l2:=λ z=>by rw [z,Jg] at hp;cases hp
 have n3:p≠l1:=λ z=>by rw [z,Jf (Qj n1),Jg] at hp;cases hp
 rw [Jf n1] at hl2
 rw [Jf n2,Jf n3] at hp
 refine q p l2 _ (λ b o e _=>?_) hp hl2 ⟨ms,0,0,Jg,by rw [Jf (Qj n2),Jg],by omega,by decide,by decide⟩
 rw [Jf (Jn e hp),Jf (Jn e hl2),Jf (Jn e hl1)];exact e
theorem Wg:FnScope ["_law_tape_here","_law_many","_law_digit","_law_at","_law_cell","_law_mixed"] ["_law_tape_here","_law_many"] (Je Jdl):=⟨rfl,rfl,rfl,by decide +kernel,rfl,by decide +kernel,by decide +kernel⟩
theorem Jnb (T:Txt mg) (D:Def K mg "_law_draw" Jdl ["_law_tape_here","_law_many"]):Cal P w K mg base "_law_draw" 1 ["_law_tape_here","_law_many"] Jn9:=by
 refine D.cal λ f fd F=>F.ok Wg (λ vs H Q E h=>?_) (λ cdv A outer s H vs Q E hr h=>?_)
 . obtain ⟨p,c,n,m,rfl,_⟩:=h
   rfl
 obtain ⟨p,c,n,m,rfl,J,hn,h0,h1,q⟩:=h
 refine ⟨_,(@Ja _ _ _ _ _ (Zd (Jx Ji6 (Jj Jr (pv 0) Jd (λ _ _=>rfl)) Jd (J2 _)) (@Ja _ _ _ _ _ (J0 (i:=2) Wg.nd rfl (Qa rfl) (Ju By (Jj Jr (pv 0) Jd (λ _ _=>rfl)) (pv 1)))
  (@Ja _ _ _ _ _ (Yn (Ju Jau (Jj Jr (pv 0) Jd (λ _ _=>rfl)) (pv 1)) (Zs (pv 0) Jd Yq (λ v=>Vr _ _ _ _ _ _ v)))
  (@Ji _ _ _ (@Js _ _ _ _ (pv 2))))) J9)
  (@Ja _ _ _ _ _ (J0 (i:=3) Wg.nd rfl (Qa rfl) (Jj Jr (pv 0) Jd (λ _ _=>rfl)))
  (@Ja _ _ _ _ _ (Yn (Ju Zw (pv 3) Jd) (Zs (pv 0) Jd Yq (λ v=>Vr _ _ _ _ _ _ v)))
  (@Ja _ _ _ _ _ (J0 (i:=4) Wg.nd rfl (Qa rfl) Jd)
  (@Ja _ _ _ _ _ (Zd (Jx Ji6 (Jy J4 rfl T.b_len Xy (Yh (Jj Jr (pv 0) Jd (λ _ _=>rfl)) Jc)) Jd (J2 _)) (@Ji _ _ _ (J0 (i:=4) Wg.nd rfl (Qa rfl) (Jj Jr (Jj Jr (pv 0) Jd (λ _ _=>rfl)) (Ju By (pv 3) (Jy J4 rfl T.b_len Xy (Yh (Jj Jr (pv 0) Jd (λ _ _=>rfl)) Jc))) (λ _ _=>rfl)))) J9)
  (@Ja _ _ _ _ _ (Zd (PW.pt (Jc4 (Jx Jbx (pv 3) (Jy J4 rfl T.b_len Xy (Yh (Jj Jr (pv 0) Jd (λ _ _=>rfl)) Jc)) (J2 _)) (Ja4 (Jx Jw8 (pv 4) (Ju Jyd Jd Jd) (J2 _))))) (@Ja _ _ _ _ _ (Yn (Ju Jau (pv 4) (pv 1)) (Zs (pv 0) Jd Yq (λ v=>Vr _ _ _ _ _ _ v)))
  (@Ji _ _ _ (@Js _ _ _ _ (Ju By (pv 4) (pv 1))))) J9)
  (@Ja _ _ _ _ _ (J0 (i:=5) Wg.nd rfl (Qa rfl) (Ju By (Ju Jeu (Ju Zw (Ju By (pv 4) Jd) Jd) (Ju Zw (Ju Zw (Ju Jeu (Ju Jeu Jd (pv 3)) (pv 3)) (Ju Jeu Jd (pv 3))) Jd)) Jd))
  (@Ja _ _ _ _ _ (J0 (i:=5) Wg.nd rfl (Qa rfl) (Ju By (Ju Zw (Ju Zw (Ju Jeu (pv 5) (pv 5)) (Ju Jeu Jd (pv 3))) (Ju By (pv 4) Jd)) Jd))
  (@Ji _ _ _ (@Js _ _ _ _ (Ju By (Ju Jau (pv 5) Jd) (pv 1)))))))))))),?_⟩
 have npc:=J.ne
 obtain ⟨ns,k,g,hp,hc,hl,k0,k1⟩:=J.ex
 refine W3 (λ σ' H'=>σ'=[some (.ref p),some (.int m),none,none,none,none]/\H=H') (λ N hN=>?_) ?_
 . refine ⟨_,rfl,p,_,2,_,rfl,rfl,SqL.of hp,rfl,_,_,rfl,rfl,_,rfl,Y4 (λ cc=>?_) (λ cc=>hN _ _ ⟨rfl,rfl⟩)⟩
   refine ⟨_,rfl,p,_,2,_,rfl,rfl,SqL.of hp,rfl,_,rfl,_,_,rfl,rfl,h0,?_⟩
   refine ⟨_,rfl,p,_,2,_,rfl,rfl,SqL.of hp,rfl,_,rfl,_,_,rfl,rfl,Jav h0 h1,_,rfl,p,_,2,2,rfl,rfl,hp,rfl,?_⟩
   refine ⟨_,rfl,q _ _ (J2s _ (by omega)) (J24 _ h0) ⟨ns,k,_,Jg,by rw [Jf (Qj npc)];exact hc,hl,k0,by omega⟩ (Kp.at (by simp) _)⟩
 rintro _ _ ⟨rfl,rfl⟩
 refine W3 (λ σ' H'=>σ'=[some (.ref p),some (.int m),none,some (.int k),none,none]/\H=H') (λ N hN=>⟨_,rfl,p,_,1,_,rfl,rfl,SqL.of hp,rfl,hN _ _ ⟨rfl,rfl⟩⟩) ?_
 rintro _ _ ⟨rfl,rfl⟩
 refine W3 (λ σ' H'=>σ'=[some (.ref p),some (.int m),none,some (.int k),none,none]/\H' p=some (.lst [.ref c,.int (k+1),.int g])/\H' c=some (.lst (ns.map V.int))/\Kp [p,c] H H') (λ N hN=>?_) ?_
 . refine ⟨_,rfl,_,_,rfl,rfl,_,rfl,p,_,1,1,rfl,rfl,hp,rfl,hN _ _ ⟨rfl,Jg,by rw [Jf (Qj npc)];exact hc,Kp.at (by simp) _⟩⟩
 rintro _ H1 ⟨rfl,hp1,hc1,kp1⟩
 have nl:((ns.map V.int).length:Int)=ns.length:=by rw [Qb]
 refine W3 (λ σ' H'=>σ'=[some (.ref p),some (.int m),none,some (.int k),some (.int 0),none]/\H1=H') (λ N hN=>hN _ _ ⟨rfl,rfl⟩) ?_
 rintro _ _ ⟨rfl,rfl⟩
 refine W3 (λ σ' H'=>∃ x:Int,σ'=[some (.ref p),some (.int m),none,some (.int k),some (.int x),none]/\H1=H') (λ N hN=>?_) ?_
 . refine ⟨_,rfl,p,_,0,_,rfl,rfl,SqL.of hp1,rfl,c,_,rfl,.inl (SqL.of hc1),_,_,rfl,rfl,_,rfl,Y4 (λ cc=>?_) (λ cc=>hN _ _ ⟨0,rfl,rfl⟩)⟩
   have cc:(0:Int)<ns.length:=by simpa using cc
   refine ⟨_,rfl,p,_,0,_,rfl,rfl,SqL.of hp1,rfl,_,rfl,_,rfl,p,_,0,_,rfl,rfl,SqL.of hp1,rfl,c,_,rfl,.inl (SqL.of hc1),_,_,rfl,rfl,by rw [nl];exact cc,?_⟩
   obtain ⟨x,hx,_⟩:=J0f (P:=λ _=>True) ns (i:=k%((ns.map V.int).length:Int)) (by simp) (J2s _ (by rw [nl];omega)) (by rw [nl];exact J24 _ cc)
   exact ⟨c,_,_,_,rfl,rfl,SqL.of hc1,hx,hN _ _ ⟨x,rfl,rfl⟩⟩
 rintro _ _ ⟨x,rfl,rfl⟩
 refine W3 (λ σ' H'=>σ'=[some (.ref p),some (.int m),none,some (.int k),some (.int x),none]/\H1=H') (λ N hN=>?_) ?_
 . refine ⟨_,rfl,_,rfl,p,_,0,_,rfl,rfl,SqL.of hp1,rfl,c,_,rfl,.inl (SqL.of hc1),_,_,rfl,rfl,_,rfl,?_⟩
   refine Y4 (λ cc=>?_) (λ cc=>Wk (hN _ _ ⟨rfl,rfl⟩))
   refine ⟨_,rfl,_,_,rfl,rfl,⟨by decide,by decide,by decide⟩,_,_,rfl,rfl,_,rfl,Y4 (λ cc=>?_) (λ cc=>hN _ _ ⟨rfl,rfl⟩)⟩
   refine ⟨_,rfl,_,rfl,_,_,rfl,rfl,Jav h0 h1,_,rfl,p,_,2,2,rfl,rfl,hp1,rfl,?_⟩
   refine ⟨_,rfl,_,rfl,_,_,rfl,rfl,h0,?_⟩
   exact q _ _ (J2s _ (by omega)) (J24 _ h0) ⟨ns,k+1,_,Jg,by rw [Jf (Qj npc)];exact hc1,hl,by omega,by omega⟩ (kp1.trans (Kp.at (by simp) _))
 rintro _ _ ⟨rfl,rfl⟩
 have kb:k<2^41:=by omega
 refine W3 (λ σ' H'=>∃ y:Int,σ'=[some (.ref p),some (.int m),none,some (.int k),some (.int x),some (.int y)]/\H1=H'/\0<=y/\y<2147483647) (λ N hN=>?_) ?_
 . refine ⟨_,rfl,_,_,rfl,rfl,(show (0:Int)<1000003 by decide),_,_,rfl,rfl,_,rfl,_,_,rfl,rfl,.inl ⟨by decide,by decide⟩,_,rfl,_,_,rfl,rfl,.inr ⟨by omega,by omega⟩,_,rfl,_,_,rfl,rfl,.inl ⟨by decide,by decide⟩,_,_,rfl,rfl,_,_,rfl,rfl,_,_,rfl,rfl,.inl ⟨?_,?_⟩,_,_,rfl,rfl,(show (0:Int)<2147483647 by decide),hN _ _ ⟨_,rfl,rfl,J2s _ (by decide),J24 _ (by decide)⟩⟩
   all_goals (have:=J2s x (show (1000003:Int)≠0 by decide);have:=J24 x (show (0:Int)<1000003 by decide);omega)
 rintro _ _ ⟨y,rfl,rfl,y0,y1⟩
 refine W3 (λ σ' H'=>∃ y:Int,σ'=[some (.ref p),some (.int m),none,some (.int k),some (.int x),some (.int y)]/\H1=H'/\0<=y) (λ N hN=>?_) ?_
 . refine ⟨_,rfl,_,rfl,_,_,rfl,rfl,.inl ⟨by omega,by omega⟩,_,rfl,_,_,rfl,rfl,.inl ⟨by decide,by decide⟩,_,_,rfl,rfl,_,rfl,_,_,rfl,rfl,(show (0:Int)<65537 by decide),_,_,rfl,rfl,_,_,rfl,rfl,(show (0:Int)<2147483629 by decide),hN _ _ ⟨_,rfl,rfl,J2s _ (by decide)⟩⟩
 rintro _ _ ⟨y,rfl,rfl,y0⟩
 refine ⟨_,rfl,_,_,rfl,rfl,Jav (by decide) (by decide +kernel),_,rfl,_,_,rfl,rfl,h0,?_⟩
 exact q _ _ (J2s _ (by omega)) (J24 _ h0) ⟨ns,k+1,g,hp1,hc1,hl,by omega,by omega⟩ kp1
theorem Jci:FnScope ["_law_tape_here","_law_way","_law_some"] ["_law_tape_here"] (Je Jdm):=⟨rfl,rfl,rfl,by decide +kernel,rfl,by decide +kernel,by decide +kernel⟩
theorem Jnc (T:Txt mg) (D:Def K mg "_law_gain" Jdm ["_law_tape_here"]) (Ga:Cal P w K mg base "_law_draw" 1 ["_law_tape_here","_law_many"] (Jm Jb7)):Cal P w K mg base "_law_gain" 2 ["_law_tape_here"] (Jm Jej):=by
 refine D.cal λ f fd F=>F.ok Jci (J5 ?_) (λ cdv A outer s H vs Q E hr h=>?_)
 . rintro as n P ⟨rfl,_⟩
   rfl
 refine ⟨_,(@Ja _ _ _ _ _ (J0 (i:=1) Jci.nd rfl (Qa rfl) (Y2 Ga (hr.mono (by decide)) rfl (Jb (pv 0) (Zj Jd Jc))))
  (@Ja _ _ _ _ _ (Zd (Jx Jc0 (pv 1) Jd (J2 _)) (@Ja _ _ _ _ _ (@Jbd _ _ 2 _ _ _ _ Jci.nd rfl (Qa rfl) (Yd (Je0 (J6 (Ju Bx (Y2 Ga (hr.mono (by decide)) rfl (Jb (pv 0) (Zj Jd Jc))) Jd)) (Je0 (J6 (Ju Bx (Y2 Ga (hr.mono (by decide)) rfl (Jb (pv 0) (Zj Jd Jc))) Jd)) Jw))) rfl (Qa rfl))
  (@Ji _ _ _ (@Js _ _ _ _ (Jj Jr (pv 2) (Ju Jau (Y2 Ga (hr.mono (by decide)) rfl (Jb (pv 0) (Zj Jd Jc))) Jd) (λ _ _=>rfl))))) J9)
  (@Ji _ _ _ (@Js _ _ _ _ (Jj Jr (@PEs.out _ _ _ (Yd (Jt Ya (Jt Ya (W8 (J6 (Bk Wr Jd)) (W8 (J6 (Bk Wr Jd)) (W8 (J6 (Bk Wr Jd)) (Jt Ya (Jt Ya (Jt Ya (W8 (J6 (Bk Wr Jd)) Jw))))))))))) (pv 1) (λ _ _=>rfl)))))),J1 h ?_⟩
 rintro as n P ⟨rfl,hn,q⟩
 refine ⟨rfl,10,rfl,by omega,by decide,by decide +kernel,λ r r0 r1=>⟨[.tape,.d (.int r),.jnk],.eq rfl,?_⟩⟩
 refine Jjj (Y4 (λ c=>?_) (λ c=>⟨_,.refl,?_⟩))
 . refine ⟨19,rfl,by omega,by decide,by decide +kernel,λ z z0 z1=>⟨195,rfl,by omega,by decide,by decide +kernel,λ y y0 y1=>⟨Vp (Q5 rfl),⟨_,.refl,3,rfl,by omega,by decide,by decide +kernel,λ v v0 v1=>?_⟩⟩⟩⟩
   have:v/2=0\/v/2=1:=by omega
   refine ⟨Jav (by decide) (by decide +kernel),?_⟩
   rcases this with h | h
   . exact ⟨.int (z-9),by show atI [Qp (z-9),.int (y-97)] (v/2)=_;rw [h];rfl,q _ _ (by omega) (by omega) (by omega)⟩
   . exact ⟨.int (y-97),by show atI [Qp (z-9),.int (y-97)] (v/2)=_;rw [h];rfl,q _ _ (by omega) (by omega) (by omega)⟩
 . have hr9:r≠9:=of_decide_eq_false c
   refine ⟨Vp (Q5 rfl),?_⟩
   have:r=0\/r=1\/r=2\/r=3\/r=4\/r=5\/r=6\/r=7\/r=8:=by omega
   rcases this with rfl | rfl | rfl | rfl | rfl | rfl | rfl | rfl | rfl<;>exact ⟨_,rfl,q _ _ (by decide) (by decide) (by omega)⟩
theorem Jlf:FnScope ["_law_tape_here","_law_purses"] ["_law_tape_here","_law_purses"] (Je Jaj):=⟨rfl,rfl,rfl,by decide +kernel,rfl,by decide +kernel,by decide +kernel⟩
theorem Jlg (T:Txt mg) (D:Def K mg "_law_gains" Jaj ["_law_tape_here","_law_purses"]) (Gw:Cal P w K mg base "_law_gain" 2 ["_law_tape_here"] (Jm Jej)):Cal P w K mg base "_law_gains" 3 ["_law_tape_here","_law_purses"] (Jm Jcv):=by
 refine D.cal λ f fd F=>F.ok Jlf (J5 ?_) (λ cdv A outer s H vs Q E hr h=>?_)
 . rintro as n P ⟨U,rfl,_⟩
   rfl
 refine ⟨_,(@Ji _ _ _ (@Js _ _ _ _ (Yc Yx rfl T.b_tuple J9x (Jbb (Y9 (sc:=(Je Jaj)) (N:=["_law_tape_here","_law_purses"]) (N':=["_law_p","_law_tape_here"]) (k:=1) (idx:=[0]) rfl (by exact ⟨rfl,by decide +kernel,by decide +kernel,by decide +kernel,by decide +kernel,by decide +kernel,rfl,rfl⟩) rfl rfl (Yp rfl T.b_range (Jb (pv 1) Jc)) (λ _ _ _ _=>(Jv (i:=0) (show (["_law_p","_law_tape_here"]:List Str).Nodup by decide +kernel) rfl (Qa rfl) (Qw rfl))) (λ _ _ _ _=>Yy) (λ _ _ _ _=>(Y2 Gw (hr.mono (by decide)) rfl (Jb (pv 1) Jc)))) Jc)))),J1 h ?_⟩
 rintro as n P ⟨U,rfl,hn,u0,u1,q⟩
 have hs:sizeLine=16777216:=J9p
 refine ⟨rfl,U,rfl,⟨by omega,by omega⟩,⟨rfl,by rw [Yf];omega⟩,?_⟩
 refine Jma 4 (n+24) (λ y=>∃ i:Int,y = .int i/\-97<=i/\i<=97) (λ x _ k K hk h=>Jad ⟨rfl,by omega,λ r m r0 r1 hm=>h _ _ ⟨r,rfl,r0,r1⟩ hm⟩) (by rw [Yf];omega) (λ ys k hy hg hk=>?_)
 rw [Yf] at hy hk
 obtain ⟨f,rfl,hf⟩:=Jy3 ys _ hy hg
 exact q f k hf (by omega)
theorem Zo:FnScope ["_law_tape_here","_law_rooms","_law_purses","_law_ways","_law_pair","_law_extra","_law_room","_law_one","_law_step"] ["_law_tape_here","_law_rooms","_law_purses"] (Je Br):=⟨rfl,rfl,rfl,by decide +kernel,rfl,by decide +kernel,by decide +kernel⟩
theorem Jiv (T:Txt mg) (D:Def K mg "_law_nested" Br ["_law_tape_here","_law_rooms","_law_purses"]) (Gf:Cal P w K mg base "_law_gains" 3 ["_law_tape_here","_law_purses"] (Jm Jcv)) (Ga:Cal P w K mg base "_law_draw" 1 ["_law_tape_here","_law_many"] (Jm Jb7)):Cal P w K mg base "_law_nested" 4 ["_law_tape_here","_law_rooms","_law_purses"] (Z9 Jdh):=by
 refine D.cal λ f fd F=>F.ok Zo (Bu ?_) (λ cdv A outer s H vs Q E hr h=>?_)
 . rintro as n P ⟨R,U,rfl,_⟩
   rfl
 refine ⟨_,(@Ja _ _ _ _ _ (@Jbd _ _ 3 _ _ _ _ Zo.nd rfl (Qa rfl) (Yd Jw) rfl (Qa rfl))
  (@Ja _ _ _ _ _ (@Jbd _ _ 4 _ _ _ _ Zo.nd rfl (Qa rfl) (Yd (Wv (J6 (Y2 Gf (hr.mono (by decide)) rfl (Jb (pv 0) (Jb (pv 2) Jc)))) Jw)) rfl (Qa rfl))
  (@Ja _ _ _ _ _ (Bo (Jft J2t J25 J26 Wj (pv 4) (Z7 (Yc Yx rfl T.b_tuple J9x (Jbb (Y9 (sc:=(Je Br)) (N:=["_law_tape_here","_law_rooms","_law_purses","_law_ways","_law_pair","_law_extra","_law_room","_law_one","_law_step"]) (N':=["_law_number"]) (k:=1) (idx:=[]) rfl (by exact ⟨rfl,by decide +kernel,by decide +kernel,by decide +kernel,by decide +kernel,by decide +kernel,rfl,rfl⟩) rfl rfl (Jnq (Jj Jr (pv 4) Jd (λ _ _=>rfl))) (λ _ _ _ _=>(Jv (i:=0) (show (["_law_number"]:List Str).Nodup by decide +kernel) rfl (Qa rfl) (Qw rfl))) (λ _ _ _ _=>Yy) (λ _ _ _ _=>(Bk Wr (pv 0)))) Jc)) Jc)))
  (@Ja _ _ _ _ _ (J0 (i:=5) Zo.nd rfl (Qa rfl) (Y2 Ga (hr.mono (by decide)) rfl (Jb (pv 0) (Jb (pv 2) Jc))))
  (@Ja _ _ _ _ _ (Zt Xm rfl (Yp rfl T.b_range (Jb (pv 1) Jc)) (Jv (i:=6) Zo.nd rfl (Qa rfl) (Qa rfl))
  (@Ja _ _ _ _ _ (J0 (i:=7) Zo.nd rfl (Qa rfl) (Yc Zx rfl T.b_list J93 (Yh (Jj Jr (pv 4) (Ju By (pv 6) Jd) (λ _ _=>rfl)) Jc)))
  (@Ja _ _ _ _ _ (Yn (Ju Zw (Jj Jr (pv 7) (pv 5) (λ _ _=>rfl)) (Jj Jr (@PEs.out _ _ _ (Yd (Jt Ya (Jt Ya (Jt Ya (Jt Ya (W8 (J6 (Bk Wr Jd)) Jw))))))) (Y2 Ga (hr.mono (by decide)) rfl (Jb (pv 0) (Zj Jd Jc))) (λ _ _=>rfl))) (Zs (pv 7) (pv 5) Yq (λ v=>J3 _ _ _ _ _ v)))
  (@Ja _ _ _ _ _ (Bo (Jft J2t J25 J26 Wj (pv 3) (Jdu (@PEs.out _ _ _ (Zy (Y7 (J6 (pv 6)) (Y7 (J6 (pv 6)) (Wv (J6 (Yc Yx rfl T.b_tuple J9x (Jb (pv 7) Jc))) Jw))))) Jc)))
  (@Ja _ _ _ _ _ (J0 (i:=8) Zo.nd rfl (Qa rfl) (Ju Ja7 (@PEs.out _ _ _ (Yd (Jt Ya Jw))) (pv 2)))
  (@Ja _ _ _ _ _ (Yn (Jj Jr (@PEs.out _ _ _ (Yd (W8 (J6 (Bk Wr Jd)) (W8 (J6 (Bk Wr Jd)) (W8 (J6 (Bk Wr Jd)) (Jt Ya (Jt Ya Jw))))))) (Y2 Ga (hr.mono (by decide)) rfl (Jb (pv 0) (Zj Jd Jc))) (λ _ _=>rfl)) (Zs (pv 8) (Y2 Ga (hr.mono (by decide)) rfl (Jb (pv 0) (Jb (pv 2) Jc))) Yq (λ v=>Jf4 _ _ _ _ _ _ _ v)))
  (@Ji _ _ _ (Bo (Jft J2t J25 J26 Wj (pv 3) (Jdu (@PEs.out _ _ _ (Zy (Y7 (J6 (pv 6)) (Je0 (J6 (Ju By (Ju Zw (pv 6) Jd) (pv 1))) (Wv (J6 (Yc Yx rfl T.b_tuple J9x (Jb (pv 8) Jc))) Jw))))) Jc))))))))))
  (@Ji _ _ _ (@Js _ _ _ _ (pv 3)))))))),Vs h ?_⟩
 rintro as n P ⟨R,U,rfl,hn,hR,hU,q⟩
 have hs:sizeLine=16777216:=J9p
 refine ⟨rfl,Xr _,⟨[.tape,.d (.int R),.d (.int U),.own [],.jnk,.jnk,.jnk,.jnk,.jnk],.eq rfl,?_⟩⟩
 refine ⟨U,rfl,by omega,by omega,by omega,λ f m hf hm=>⟨Vp (Q5 rfl),⟨[.tape,.d (.int R),.d (.int U),.own [],.own [Je4 U f],.jnk,.jnk,.jnk,.jnk],.eq rfl,?_⟩⟩⟩
 refine ⟨_,rfl,⟨rfl,by rw [Jda];omega⟩,?_⟩
 refine Bv (λ i=>.int (-(f i))) (λ i hi n K hk=>Jad hk) ⟨show 1<sizeLine by omega,⟨[.tape,.d (.int R),.d (.int U),.own [],.own [Je4 U f,Je4 U λ i=>-(f i)],.jnk,.jnk,.jnk,.jnk],.eq rfl,?_⟩⟩
 refine ⟨U,rfl,by omega,by omega,Vq (by omega),λ e e0 e1=>⟨_,.refl,?_⟩⟩
 refine ⟨R,rfl,⟨by omega,by omega⟩,?_⟩
 refine ⟨λ i env k=>∃ (ws:List Way) (x y z:Vl),env=[.tape,.d (.int R),.d (.int U),.own (ws.map Y8),.own [Je4 U f,Je4 U λ i=>-(f i)],.d (.int e),x,y,z]/\ws.length=2*i/\(∀ w∈ws,WayOk R U w)/\k<=n+25+3*i,⟨[],_,_,_,rfl,rfl,(λ w hw=>by cases hw),by omega⟩,?_,?_⟩
 . rintro i x env k hx ⟨ws,_,_,_,rfl,hl,hw,hk⟩
   obtain ⟨hi,rfl⟩:=Jgg hx
   have hi12:i<12:=by omega
   obtain ⟨g,hg,hgb⟩:∃ g:Nat->Int,atI [Je4 U f,Je4 U λ i=>-(f i)] ((i:Int)%2)=some (Je4 U g)/\∀ j,j<U.toNat->-97<=g j/\g j<=97:=by
    have:(i:Int)%2=0\/(i:Int)%2=1:=by omega
    rcases this with h | h
    . exact ⟨f,by rw [h];rfl,hf⟩
    . exact ⟨λ i=>-(f i),by rw [h];rfl,λ j hj=>by have:=hf j hj;show -97<=-(f j)/\-(f j)<=97;omega⟩
   refine ⟨show (0:Int)<2 by decide,_,hg,⟨_,.refl,?_⟩⟩
   refine ⟨_,Yi e0 (Jhe (by omega)),Vp (Q5 rfl),5,rfl,by omega,by decide,by decide +kernel,λ r r0 r1=>?_⟩
   obtain ⟨v,hv,v0,v1⟩:∃ v:Int,atI [Qp 0,.int 0,.int 0,.int 1,.int (-1)] r=some (.int v)/\-1<=v/\v<=1:=by
    have:r=0\/r=1\/r=2\/r=3\/r=4:=by omega
    rcases this with rfl | rfl | rfl | rfl | rfl<;>exact ⟨_,rfl,by decide,by decide⟩
   refine ⟨_,hv,_,Jg5 e0 (by rw [Jda];omega),?_⟩
   rw [Je5]
   have ge:=hgb e.toNat (by omega)
   have b1:∀ j,j<U.toNat->-99<=putF g e.toNat (g e.toNat+v) j/\putF g e.toNat (g e.toNat+v) j<=99:=Jkh (λ j hj=>by have:=hgb j hj;omega) (by omega)
   generalize putF g e.toNat (g e.toNat+v)=g1 at b1
   refine ⟨_,.fz 7 _ rfl .refl,W4,by rw [Qb];omega,?_⟩
   refine ⟨[.tape,.d (.int R),.d (.int U),.own ((ws++[Jf0 i i U g1]).map Y8),.own [Je4 U f,Je4 U λ i=>-(f i)],.d (.int e),.d (.int i),.d (.list (fl U.toNat g1)),_],.eq (by rw [Q1,J3i,<- Jhg];rfl),?_⟩
   refine ⟨Vp (Q5 rfl),⟨by omega,by omega,by simp;omega⟩,?_⟩
   rw [Jsz]
   refine ⟨_,.refl,Vp (Q5 rfl),5,rfl,by omega,by decide,by decide +kernel,λ r r0 r1=>?_⟩
   obtain ⟨v2,hv2,v20,v21⟩:∃ v:Int,atI [Qp (-1),.int (-1),.int (-1),.int 0,.int 1] r=some (.int v)/\-1<=v/\v<=1:=by
    have:r=0\/r=1\/r=2\/r=3\/r=4:=by omega
    rcases this with rfl | rfl | rfl | rfl | rfl<;>exact ⟨_,rfl,by decide,by decide⟩
   refine ⟨_,hv2,U,rfl,by omega,by omega,Vq (by omega),λ z z0 z1=>⟨_,Jg5 z0 (by rw [Jda];omega),?_⟩⟩
   rw [Je5]
   have b2:∀ j,j<U.toNat->-99<=putF (λ _=>0) z.toNat v2 j/\putF (λ _=>0) z.toNat v2 j<=99:=Jkh (λ j hj=>by omega) (by omega)
   generalize putF (λ _=>0) z.toNat v2=g2 at b2
   refine ⟨_,.fz 8 _ rfl .refl,show (0:Int)<R by omega,W4,by rw [Qb,Xc];simp;omega,?_⟩
   refine ⟨ws++[Jf0 i i U g1]++[Jf0 i ((i+1:Int)%R) U g2],.d (.int i),.d (.list (fl U.toNat g1)),.d (.list (fl U.toNat g2)),?_,by simp;omega,λ w hw'=>?_,by omega⟩
   . rw [Q1 (l₂:=[Jf0 i ((i+1:Int)%R) U g2]),J3i,<- Jhg];rfl
   . have hmod:0<=(i+1:Int)%R/\(i+1:Int)%R<R:=⟨J2s _ (by omega),J24 _ (by omega)⟩
     rcases Q4.mp hw' with hw' | hw'
     . rcases Q4.mp hw' with hw' | hw'
       . exact hw w hw'
       . rw [Qq.mp hw']
         exact Jhh (by omega) (by omega) (by omega) b1
     . rw [Qq.mp hw']
       exact Jhh (by omega) hmod (by omega) b2
 . rintro env k ⟨ws,_,_,_,rfl,hl,hw,hk⟩
   rw [Yf] at hl hk
   exact ⟨_,.refl,q ws k hw (by omega) (by omega)⟩
theorem Y6:FnScope ["_law_tape_here","_law_most","_law_rooms","_law_purses","_law_ways","_law_down","_law_k","_law_one","_law_at","_law_a","_law_b"] ["_law_tape_here","_law_most"] (Je Jbn):=⟨rfl,rfl,rfl,by decide +kernel,rfl,by decide +kernel,by decide +kernel⟩
theorem Jnd (T:Txt mg) (D:Def K mg "_law_book" Jbn ["_law_tape_here","_law_most"]) (Ga:Cal P w K mg base "_law_draw" 1 ["_law_tape_here","_law_many"] (Jm Jb7)) (Gx:Cal P w K mg base "_law_nested" 4 ["_law_tape_here","_law_rooms","_law_purses"] (Z9 Jdh)) (Gf:Cal P w K mg base "_law_gains" 3 ["_law_tape_here","_law_purses"] (Jm Jcv)):Cal P w K mg base "_law_book" 5 ["_law_tape_here","_law_most"] (Jm Jkg):=by
 refine D.cal λ f fd F=>F.ok Y6 (J5 ?_) (λ cdv A outer s H vs Q E hr h=>?_)
 . rintro as n P ⟨mr,mu,mw,rfl,_⟩
   rfl
 refine ⟨_,(@Ja _ _ _ _ _ (J0 (i:=2) Y6.nd rfl (Qw rfl) (Ju Zw Jd (Y2 Ga (hr.mono (by decide)) rfl (Jb (pv 0) (Yh (Jj Jz (pv 1) Jd (λ _ _=>rfl)) Jc)))))
  (@Ja _ _ _ _ _ (J0 (i:=3) Y6.nd rfl (Qa rfl) (Ju Zw Jd (Y2 Ga (hr.mono (by decide)) rfl (Jb (pv 0) (Yh (Jj Jz (pv 1) Jd (λ _ _=>rfl)) Jc)))))
  (@Ja _ _ _ _ _ (@Jbd _ _ 4 _ _ _ _ Y6.nd rfl (Qa rfl) (Yd Jw) rfl (Qa rfl))
  (@Ja _ _ _ _ _ (Zd (Jx Jc0 (Y2 Ga (hr.mono (by decide)) rfl (Jb (pv 0) (Zj Jd Jc))) Jd (J2 _)) (@Ji _ _ _ (J0 (i:=4) Y6.nd rfl (Qa rfl) (Y2 Gx (hr.mono (by decide)) rfl (Jb (pv 0) (Jb (pv 2) (Jb (pv 3) Jc)))))) J9)
  (@Ja _ _ _ _ _ (J0 (i:=5) Y6.nd rfl (Qa rfl) (Y2 Ga (hr.mono (by decide)) rfl (Jb (pv 0) (Zj Jd Jc))))
  (@Ja _ _ _ _ _ (Zt Xm rfl (Yp rfl T.b_range (Z7 (Y2 Ga (hr.mono (by decide)) rfl (Jb (pv 0) (Z7 (Jy (Jqk rfl) rfl T.b_max boot_max (Zj Jd (B1 (Ju Bx (Ju Zw (Jj Jz (pv 1) Jd (λ _ _=>rfl)) Jd) (Jy J4 rfl T.b_len Xy (Jb (pv 4) Jc))) Jc))) Jc))) Jc)) (Jv (i:=6) Y6.nd rfl (Qa rfl) (Qa rfl))
  (@Ja _ _ _ _ _ (J0 (i:=7) Y6.nd rfl (Qa rfl) (Yc Zx rfl T.b_list J93 (Z7 (Y2 Gf (hr.mono (by decide)) rfl (Jb (pv 0) (Jb (pv 3) Jc))) Jc)))
  (@Ja _ _ _ _ _ (Zd (Jx Jc0 (pv 5) Jd (J2 _)) (@Ja _ _ _ _ _ (J0 (i:=8) Y6.nd rfl (Qa rfl) (Y2 Ga (hr.mono (by decide)) rfl (Jb (pv 0) (Jb (pv 3) Jc))))
  (@Ji _ _ _ (Yn (Jy (Jql rfl) rfl T.b_min boot_min (Yh (Jj Jr (pv 7) (pv 8) (λ _ _=>rfl)) (Jlz (Bk Wr Jd) Jc))) (Zs (pv 7) (pv 8) Yq (λ v=>J3 _ _ _ _ _ v))))) J9)
  (@Ja _ _ _ _ _ (Yn (Y9 (sc:=(Je Jbn)) (N:=["_law_tape_here","_law_most","_law_rooms","_law_purses","_law_ways","_law_down","_law_k","_law_one","_law_at","_law_a","_law_b"]) (N':=["_law_end","_law_tape_here","_law_rooms"]) (k:=1) (idx:=[0,2]) rfl (by exact ⟨rfl,by decide +kernel,by decide +kernel,by decide +kernel,by decide +kernel,by decide +kernel,rfl,rfl⟩) rfl rfl (Yp rfl T.b_range (Zj Jd Jc)) (λ _ _ _ _=>(Jv (i:=0) (show (["_law_end","_law_tape_here","_law_rooms"]:List Str).Nodup by decide +kernel) rfl (Qa rfl) (Qw rfl))) (λ _ _ _ _=>Yy) (λ _ _ _ _=>(Y2 Ga (hr.mono (by decide)) rfl (Jb (pv 1) (Jb (pv 2) Jc))))) (Jso (K':=K) (i:=9) (j:=10) rfl Y6.nd ⟨rfl,(Qa rfl),(Qa rfl)⟩ ⟨rfl,(Qa rfl),(Qa rfl)⟩ rfl))
  (@Ji _ _ _ (Bo (Jft J2t J25 J26 Wj (pv 4) (Jdu (@PEs.out _ _ _ (Zy (Y7 (J6 (pv 9)) (Y7 (J6 (pv 10)) (Wv (J6 (Yc Yx rfl T.b_tuple J9x (Jb (pv 7) Jc))) Jw))))) Jc))))))))
  (@Ji _ _ _ (@Js _ _ _ _ (@PEs.out _ _ _ (Zy (Y7 (J6 (pv 2)) (Y7 (J6 (pv 3)) (Wv (J6 (Yc Yx rfl T.b_tuple J9x (Jb (pv 4) Jc))) Jw))))))))))))),J1 h ?_⟩
 rintro as n P ⟨mr,mu,mw,rfl,hn,hr,hu,hw,q⟩
 have hs:sizeLine=16777216:=J9p
 refine ⟨rfl,_,rfl,mr,rfl,by omega,by omega,Vq (by omega),λ r r0 r1=>⟨_,.refl,_,rfl,mu,rfl,by omega,by omega,Vq (by omega),λ u u0 u1=>⟨_,.refl,Xr _,?_⟩⟩⟩
 refine ⟨[.tape,.d (.tuple [.int mr,.int mu,.int mw]),.d (.int (1+r)),.d (.int (1+u)),.own [],.jnk,.jnk,.jnk,.jnk,.jnk,.jnk],.eq rfl,?_⟩
 generalize hR:1+r=R
 generalize hU:1+u=U
 refine Jy2 (λ e k=>∃ ws:List Way,e=[.tape,.d (.tuple [.int mr,.int mu,.int mw]),.d (.int R),.d (.int U),.own (ws.map Y8),.jnk,.jnk,.jnk,.jnk,.jnk,.jnk]/\(∀ w∈ws,WayOk R U w)/\ws.length<=24/\k<=n+83) (λ N hN=>?_) ?_
 . refine ⟨3,rfl,by omega,by decide,by decide +kernel,λ z z0 z1=>Jjj (Y4 (λ c=>?_) (λ c=>?_))⟩
   . exact ⟨R,U,rfl,by omega,by omega,by omega,λ ws m hw hl hm=>hN _ _ ⟨ws,rfl,hw,hl,by omega⟩⟩
   . exact hN _ _ ⟨[],rfl,(λ w hw=>by cases hw),by decide,by omega⟩
 rintro _ k ⟨ws,rfl,hw0,hl0,hk⟩
 refine ⟨_,.refl,3,rfl,by omega,by decide,by decide +kernel,λ dn d0 d1=>⟨_,.refl,_,rfl,?_⟩⟩
 generalize hmm:(if mw+1-((ws.map Y8).length:Int)>1 then mw+1-((ws.map Y8).length:Int) else 1)=mm
 have hmm2:1<=mm/\mm<=37/\(mm=1\/mm+ws.length=mw+1):=by
  rw [Qb] at hmm
  split at hmm<;>omega
 refine ⟨mm,by rw [<- hmm],by omega,by omega,Vq (by omega),λ t t0 t1=>⟨t,rfl,⟨by omega,by omega⟩,?_⟩⟩
 refine ⟨λ i env k'=>∃ (vs:List Way) (a b c d e:Vl),env=[.tape,.d (.tuple [.int mr,.int mu,.int mw]),.d (.int R),.d (.int U),.own (vs.map Y8),.d (.int dn),a,b,c,d,e]/\(∀ w∈vs,WayOk R U w)/\vs.length=ws.length+i/\k'<=n+85+27*i,⟨ws,_,_,_,_,_,rfl,hw0,rfl,by omega⟩,?_,?_⟩
 . rintro i x env k' hx ⟨vs,xa,xb,xc,xd,xe,rfl,hw,hl,hk'⟩
   obtain ⟨hi,rfl⟩:=Jgg hx
   refine ⟨U,rfl,by omega,by omega,by omega,λ f m hf hm=>⟨_,.refl,?_⟩⟩
   refine Jy2 (λ e j=>∃ (g:Nat->Int) (x:Vl),e=[.tape,.d (.tuple [.int mr,.int mu,.int mw]),.d (.int R),.d (.int U),.own (vs.map Y8),.d (.int dn),.d (.int i),.own (fl U.toNat g),x,xd,xe]/\(∀ j,j<U.toNat->-99<=g j/\g j<=99)/\j<=m+1) (λ N hN=>?_) ?_
   . refine Jjj (Y4 (λ c=>?_) (λ c=>hN _ _ ⟨f,_,rfl,λ j hj=>by have:=hf j hj;omega,by omega⟩))
     refine ⟨U,rfl,by omega,by omega,Vq (by omega),λ p p0 p1=>⟨_,.refl,_,Yi p0 (Jhe (by omega)),_,Jg5 p0 (by rw [Jda];omega),?_⟩⟩
     rw [Je5]
     have fp:=hf p.toNat (by omega)
     exact hN _ _ ⟨_,_,rfl,Jkh (λ j hj=>by have:=hf j hj;omega) (by show -99<=(if (-1:Int)<f p.toNat then (-1:Int) else f p.toNat)/\(if (-1:Int)<f p.toNat then (-1:Int) else f p.toNat)<=99;split<;>omega),by omega⟩
   rintro _ j ⟨g,y,rfl,hg,hj⟩
   refine ⟨_,.fz 7 _ rfl .refl,2,rfl,⟨by decide,by decide⟩,⟨rfl,by rw [Yf];decide⟩,?_⟩
   refine Jma 1 (m+3) (λ y=>∃ i:Int,y = .int i/\0<=i/\i<=R-1) (λ x _ k K hk h=>Jad ⟨R,rfl,by omega,by omega,Vq (by omega),λ r r0 r1=>h _ _ ⟨r,rfl,r0,by omega⟩ (by omega)⟩) (by rw [Yf];show j+1*2<=m+3;omega) (λ ys k hy hgy hk=>?_)
   rw [Yf] at hy hk
   match ys,hy with
   | [y0,y1],_=>
    obtain ⟨a,rfl,a0,a1⟩:=hgy _ Qg
    obtain ⟨b,rfl,b0,b1⟩:=hgy _ (Qh _ Qg)
    refine ⟨rfl,rfl,⟨_,.refl,W4,by rw [Qb];omega,?_⟩⟩
    have hk2:k<=j+1*2:=hk
    refine ⟨vs++[Jf0 a b U g],.d (.int i),.d (.list (fl U.toNat g)),y,.d (.int a),.d (.int b),?_,λ w hw'=>?_,by simp;omega,by omega⟩
    . rw [Q1,J3i,<- Jhg];rfl
    . rcases Q4.mp hw' with hw' | hw'
      . exact hw w hw'
      . rw [Qq.mp hw']
        exact Jhh (by omega) (by omega) (by omega) hg
 . rintro env k' ⟨vs,_,_,_,_,_,rfl,hw,hl,hk'⟩
   rw [Yf] at hl hk'
   refine ⟨_,.fz 4 _ rfl .refl,W4,q R U vs k' ⟨by omega,by omega,by omega,by omega,by omega,hw⟩ (by omega) (by omega) (by omega)⟩
theorem Vz:FnScope ["_law_book_here","_law_some","_law_room","_law_found","_law_at","_law_k","_law_a","_law_b","_law_gains_here"] ["_law_book_here","_law_some","_law_room"] (Je Jfj):=⟨rfl,rfl,rfl,by decide +kernel,rfl,by decide +kernel,by decide +kernel⟩
theorem Jo1 (T:Txt mg) (D:Def K mg "_law_met" Jfj ["_law_book_here","_law_some","_law_room"]):Cal P w K mg base "_law_met" 1 ["_law_book_here","_law_some","_law_room"] (Jm Jto):=by
 refine D.cal λ f fd F=>F.ok Vz (J5 ?_) (λ cdv A outer s H vs Q E hr h=>?_)
 . rintro as n P ⟨R,U,ws,ks,x,rfl,_⟩
   rfl
 refine ⟨_,(@Ja _ _ _ _ _ (@Jbd _ _ 3 _ _ _ _ Vz.nd rfl (Qa rfl) (Yd (Y7 (J6 (pv 2)) Jw)) rfl (Qa rfl))
  (@Ja _ _ _ _ _ (J0 (i:=4) Vz.nd rfl (Qa rfl) Jd)
  (@Ja _ _ _ _ _ (Jgr Xm (Jx Jbx (pv 4) (Jy J4 rfl T.b_len Xy (Jb (pv 3) Jc)) (J2 _))
  (@Ja _ _ _ _ _ (Zt Xm rfl (Zq (pv 1)) (Jv (i:=5) Vz.nd rfl (Qa rfl) (Qa rfl))
  (@Ja _ _ _ _ _ (Yn (Jj Jz (Jj Jz (pv 0) Jd (λ _ _=>rfl)) (pv 5) (λ _ _=>rfl)) (Bp (K':=K) (i:=6) (j:=7) (m:=8) rfl Vz.nd ⟨rfl,(Qa rfl),(Qa rfl)⟩ ⟨rfl,(Qa rfl),(Qa rfl)⟩ ⟨rfl,(Qa rfl),(Qa rfl)⟩ rfl))
  (@Ji _ _ _ (Zd (PW.pt (Jc4 (Jx Jc0 (pv 6) (Jj Jr (pv 3) (pv 4) (λ _ _=>rfl)) (J2 _)) (Ja4 (Jx (Jc2 (K':=K) rfl) (pv 7) (pv 3) (by with_unfolding_all rfl))))) (@Ji _ _ _ (Bo (Jft J2t J25 J26 Wj (pv 3) (Jb (pv 7) Jc)))) J9))))
  (@Ji _ _ _ (J0 (i:=4) Vz.nd rfl (Qa rfl) (Ju Zw (pv 4) Jd)))))
  (@Ji _ _ _ (@Js _ _ _ _ (pv 3)))))),J1 h ?_⟩
 rintro as n P ⟨R,U,ws,ks,x,rfl,ok,hin,hkl,hx,q⟩
 have hs:sizeLine=16777216:=J9p
 have wl:=ok.len
 have r1:=ok.r1
 refine ⟨rfl,by rw [hs];exact Q5 rfl,_,.refl,_,.refl,?_⟩
 refine ⟨λ m env k=>k=n/\∃ (l:List Int) (i:Nat) (a b c d:Vl),env=[.d (J7 R U ws),.d (.list (ks.map .int)),.d (.int x),.own (l.map .int),.d (.int (i:Int)),a,b,c,d]/\MI R ws ks x l i 0/\i<=l.length/\m=R.toNat-i,⟨_,rfl,[x],0,_,_,_,_,rfl,⟨by simp,by simp,λ y hy=>by rw [Qq.mp hy];exact ⟨hx,.refl _⟩,λ p hp=>absurd hp (J3g _),λ p hp=>absurd hp (J3g _)⟩,Xr _,rfl⟩,?_⟩
 rintro m env k ⟨rfl,l,i,a,b,c,d,rfl,mi,hil,rfl⟩
 have ll:=Jhq mi.nd λ y hy=>(mi.bd y hy).1
 refine Y4 (λ c1=>?_) (λ c1=>?_)
 . have hi:i<l.length:=by
    have:=of_decide_eq_true c1
    rw [Qb] at this
    omega
   refine ⟨λ j env m=>m=k/\∃ (l:List Int) (a b c d:Vl),env=[.d (J7 R U ws),.d (.list (ks.map .int)),.d (.int x),.own (l.map .int),.d (.int (i:Int)),a,b,c,d]/\MI R ws ks x l i j/\i<l.length,⟨rfl,l,_,_,_,_,rfl,mi,hi⟩,?_,?_⟩
   . rintro j y env m hy ⟨rfl,l,a,b,c,d,rfl,mi,hi⟩
     rw [Qk] at hy
     obtain ⟨kk,hkk,rfl⟩:=X2.mp hy
     obtain ⟨k0,k1⟩:=hin kk (Xb hkk)
     have w:=ok.ways _ (Y3 k0 k1)
     have ll:=Jhq mi.nd λ y hy=>(mi.bd y hy).1
     have hli:l[i]? = some (l.getD i 0):=by rw [Qi,Qf hi];rfl
     refine ⟨_,Yi (by decide) rfl,_,B6 k0 k1,rfl,rfl,_,.refl,_,J1a (Xq _) (by omega),Jjj ?_⟩
     rw [Q0]
     refine Y4 (λ c2=>⟨rfl,Jcr _,?_⟩) (λ c2=>Wk ?_)
     . have e2:=of_decide_eq_true c2
       show if (!inD (.int (Jh ws kk).b) (l.map .int))=true then _ else _
       rw [Jd4]
       refine Y4 (λ c3=>?_) (λ c3=>?_)
       . have hb:(Jh ws kk).b∉l:=by simpa using c3
         refine ⟨by rw [Qb];omega,rfl,l++[(Jh ws kk).b],.d (.int kk),.d (.int (Jh ws kk).a),.d (.int (Jh ws kk).b),.d (.tuple ((Jh ws kk).g.map Qp)),?_,mi.add hkk (by rw [hli,e2]) hb ⟨w.b0,w.b1⟩,by rw [Xc];omega⟩
         rw [Q1]
         rfl
       . have hb:(Jh ws kk).b∈l:=by simpa using c3
         exact ⟨rfl,l,_,_,_,_,rfl,mi.keep hkk λ _=>hb,hi⟩
     . have e2:=of_decide_eq_false c2
       exact ⟨rfl,l,_,_,_,_,rfl,mi.keep hkk λ e=>absurd (by rw [hli] at e;exact (Xi e).symm) e2,hi⟩
   . rintro env m ⟨rfl,l,a,b,c,d,rfl,mi,hi⟩
     rw [Qb] at mi
     have ll:=Jhq mi.nd λ y hy=>(mi.bd y hy).1
     refine ⟨_,.refl,R.toNat-(i+1),by omega,rfl,l,i+1,a,b,c,d,rfl,mi.next,by omega,rfl⟩
 . have hi:i=l.length:=by
    have:=of_decide_eq_false c1
    rw [Qb] at this
    omega
   subst hi
   exact ⟨_,.refl,q l mi.fin λ y hy=>(mi.bd y hy).1⟩
theorem Zz:FnScope ["_law_book_here","_law_some","_law_rooms","_law_found","_law_over","_law_k","_law_a","_law_b","_law_gains_here","_law_ring"] ["_law_book_here","_law_some"] (Je V8):=⟨rfl,rfl,rfl,by decide +kernel,rfl,by decide +kernel,by decide +kernel⟩
theorem Jlh (T:Txt mg) (D:Def K mg "_law_rings" V8 ["_law_book_here","_law_some"]) (Gy:Cal P w K mg base "_law_met" 1 ["_law_book_here","_law_some","_law_room"] (Jm Jto)):Cal P w K mg base "_law_rings" 2 ["_law_book_here","_law_some"] (Jm Jht):=by
 refine D.cal λ f fd F=>F.ok Zz (J5 ?_) (λ cdv A outer s H vs Q E hr h=>?_)
 . rintro as n P ⟨R,U,ws,ks,rfl,_⟩
   rfl
 refine ⟨_,(@Ja _ _ _ _ _ (J0 (i:=2) Zz.nd rfl (Qw rfl) (Yc (Jol rfl) rfl T.b_dict boot_dict (Jbb (Y9 (sc:=(Je V8)) (N:=["_law_book_here","_law_some","_law_rooms","_law_found","_law_over","_law_k","_law_a","_law_b","_law_gains_here","_law_ring"]) (N':=["_law_room","_law_book_here","_law_some"]) (k:=1) (idx:=[0,1]) rfl (by exact ⟨rfl,by decide +kernel,by decide +kernel,by decide +kernel,by decide +kernel,by decide +kernel,rfl,rfl⟩) rfl rfl (Yp rfl T.b_range (Yh (Jj Jz (pv 0) Jd (λ _ _=>rfl)) Jc)) (λ _ _ _ _=>(Jv (i:=0) (show (["_law_room","_law_book_here","_law_some"]:List Str).Nodup by decide +kernel) rfl (Qa rfl) (Qw rfl))) (λ _ _ _ _=>Yy) (λ _ _ _ _=>(@PEs.out _ _ _ (Zy (Y7 (J6 (pv 0)) (Wv (J6 (Y2 Gy (hr.mono (by decide)) rfl (Jb (pv 1) (Jb (pv 2) (Jb (pv 0) Jc))))) Jw)))))) Jc)))
  (@Ja _ _ _ _ _ (@Jbd _ _ 3 _ _ _ _ Zz.nd rfl (Qa rfl) (Yd Jw) rfl (Qa rfl))
  (@Ja _ _ _ _ _ (@Jbd _ _ 4 _ _ _ _ Zz.nd rfl (Qa rfl) (Yd Jw) rfl (Qa rfl))
  (@Ja _ _ _ _ _ (Zt Xm rfl (Zq (pv 1)) (Jv (i:=5) Zz.nd rfl (Qa rfl) (Qa rfl))
  (@Ja _ _ _ _ _ (Yn (Jj Jz (Jj Jz (pv 0) Jd (λ _ _=>rfl)) (pv 5) (λ _ _=>rfl)) (Bp (K':=K) (i:=6) (j:=7) (m:=8) rfl Zz.nd ⟨rfl,(Qw rfl),(Qa rfl)⟩ ⟨rfl,(Qa rfl),(Qa rfl)⟩ ⟨rfl,(Qa rfl),(Qa rfl)⟩ rfl))
  (@Ji _ _ _ (Zd (PW.pt (Jc4 (Jx Ja6 (pv 5) (pv 4) (by with_unfolding_all rfl)) (Ja4 (Jx Jex (pv 6) (Jj3 (Jsf hr) (pv 2) (pv 7) (λ _ _=>rfl)) (by with_unfolding_all rfl))))) (@Ja _ _ _ _ _ (W2 (i:=9) (sc:=(Je V8)) (N:=["_law_book_here","_law_some","_law_rooms","_law_found","_law_over","_law_k","_law_a","_law_b","_law_gains_here","_law_ring"]) (N':=["_law_one","_law_book_here","_law_rooms","_law_a"]) (k:=1) (idx:=[0,2,6]) rfl Zz.nd rfl rfl (by exact ⟨rfl,by decide +kernel,by decide +kernel,by decide +kernel,by decide +kernel,by decide +kernel,rfl,rfl⟩) rfl rfl (Zq (pv 1)) (λ _ _ _ _=>(Jv (i:=0) (show (["_law_one","_law_book_here","_law_rooms","_law_a"]:List Str).Nodup by decide +kernel) rfl (Qa rfl) (Qw rfl))) (λ _ _ _ _=>Ja9 (PW.pt (Jc4 (Jx (Jdb (K':=K) rfl) (Jj (Z8 (K':=K) rfl) (Jj (Z8 (K':=K) rfl) (Jj (Z8 (K':=K) rfl) (pv 1) Jd (λ _ _=>rfl)) (pv 0) (λ _ _=>rfl)) Jd (λ _ _=>rfl)) (Jj3 (Jsf hr) (pv 2) (pv 3) (λ _ _=>rfl)) (by with_unfolding_all rfl)) (Ja4 (Jx (Jdb (K':=K) rfl) (pv 3) (Jj3 (Jsf hr) (pv 2) (Jj (Z8 (K':=K) rfl) (Jj (Z8 (K':=K) rfl) (Jj (Z8 (K':=K) rfl) (pv 1) Jd (λ _ _=>rfl)) (pv 0) (λ _ _=>rfl)) Jd (λ _ _=>rfl)) (λ _ _=>rfl)) (by with_unfolding_all rfl)))))) (λ _ _ _ _=>(pv 0)))
  (@Ja _ _ _ _ _ (Bo (Jft J2t J25 J26 Wj (pv 3) (Jb (pv 9) Jc)))
  (@Ji _ _ _ (Bo (Jft J2t PySem.F.slot_list_extend PySem.F.type_list_extend Jqq (pv 4) (Jb (pv 9) Jc)))))) J9))))
  (@Ji _ _ _ (@Js _ _ _ _ (pv 3))))))),J1 h ?_⟩
 rintro as n P ⟨R,U,ws,ks,rfl,ok,hk,hl,q⟩
 have r0:=ok.r0
 have r1:=ok.r1
 have hs:sizeLine=16777216:=J9p
 have hR:((R.toNat:Nat):Int)=R:=X3 (by omega)
 have hab:∀ k∈ks,(0<=(Jh ws k).a/\(Jh ws k).a<R)/\0<=(Jh ws k).b/\(Jh ws k).b<R:=λ k hkm=>by
  obtain ⟨k0,k1⟩:=hk k hkm
  have wok:=ok.ways _ (Y3 k0 k1)
  exact ⟨⟨wok.a0,wok.a1⟩,wok.b0,wok.b1⟩
 have hw:∀ k∈ks,0<=(Jh ws k).a/\0<=(Jh ws k).b:=λ k hkm=>⟨(hab k hkm).1.1,(hab k hkm).2.1⟩
 refine ⟨rfl,_,rfl,R,rfl,⟨by omega,by omega⟩,⟨rfl,by rw [Yf];omega⟩,?_⟩
 refine Jmb (R:=λ x y=>∃ (i:Int) (l:List Int),x = .int i/\y = .tuple [.int i,.list (l.map .int)]/\MetOk ws ks i l) (λ x hx K hK=>?_) (λ ys hys=>?_)
 . obtain ⟨j,j0,j1,rfl⟩:∃ j:Int,0<=j/\j<R/\x = .int j:=by
    obtain ⟨q,hq,rfl⟩:=Qo.mp hx
    have:=Xj.mp hq
    exact ⟨_,by omega,by omega,rfl⟩
   exact Jad ⟨R,U,ws,ks,j,rfl,ok,hk,hl,⟨j0,j1⟩,λ l ml hb=>⟨Jax,hK _ ⟨j,l,rfl,rfl,ml⟩⟩⟩
 obtain ⟨kvs,rfl,ek,hkv⟩:=Jjq hys
 obtain ⟨kl,hin⟩:=Jv9 ek
 refine ⟨kvs,rfl,by omega,?_⟩
 have val:∀ j:Int,0<=j->j<R->∃ l:List Int,Jd5 (kvs.foldl (λ m p=>Jim m (Qx p.1) p.2) []) (Qx j)=some (.list (l.map .int))/\MetOk ws ks j l:=λ j j0 j1=>Jml hkv (.inr (hin j j0 (by omega)))
 generalize kvs.foldl (λ m p=>Jim m (Qx p.1) p.2) []=dd at *
 refine ⟨_,.refl,Xr _,_,.refl,Xr _,_,.refl,?_⟩
 refine ⟨λ i env m=>m=n/\∃ (rs:List (List Int)) (a b c d e:Vl),env=[.d (J7 R U ws),.d (.list (ks.map .int)),.dct dd,.own (rs.map Jmj),.own (rs.flatten.map .int),a,b,c,d,e]/\RgI ws ks rs i,⟨rfl,[],_,_,_,_,_,rfl,.nil⟩,?_,?_⟩
 . rintro i x env m hx ⟨rfl,rs,a,b,c,d,e,rfl,hI⟩
   rw [Qk] at hx
   obtain ⟨k,hki,rfl⟩:=X2.mp hx
   have hkm:=Xb hki
   have il:=(Qt.mp hki).1
   obtain ⟨k0,k1⟩:=hk k hkm
   obtain ⟨⟨a0,a1⟩,b0,b1⟩:=hab k hkm
   obtain ⟨la,va,ma⟩:=val _ a0 a1
   obtain ⟨lb,vb,mb⟩:=val _ b0 b1
   refine ⟨_,Yi (by decide) rfl,_,B6 k0 k1,rfl,rfl,_,.refl,rfl,Jcr _,?_⟩
   refine Y4 (λ c1=>?_) (λ c1=>?_)
   . have n1:k∉rs.flatten:=by
      have c1:(!inD (.int k) (rs.flatten.map .int))=true:=c1
      rw [Jd4] at c1
      simpa using c1
     refine ⟨_,vb,rfl,Jcr _,Y4 (λ c2=>?_) (λ c2=>?_)⟩
     . have c2:inD (.int (Jh ws k).a) (lb.map .int)=true:=c2
       rw [Jd4] at c2
       have back:=(mb.iff b0 hw a0).mp (of_decide_eq_true c2)
       refine ⟨⟨rfl,by rw [Qb];omega⟩,?_⟩
       refine Jku (λ j=>@decide (Rt (Yr ws ks) (aOf ws k) (aOf ws j)/\Rt (Yr ws ks) (bOf ws j) (aOf ws k)) (J2u _)) (λ j hj n K h1 h2=>?_) ?_
       . obtain ⟨j0,j1⟩:=hk j hj
         obtain ⟨⟨c0,c1'⟩,d0,d1⟩:=hab j hj
         obtain ⟨ld,vd,md⟩:=val _ d0 d1
         refine ⟨_,Yi (by decide) rfl,_,B6 j0 j1,_,rfl,_,va,rfl,Jcr _,Y4 (λ c3=>?_) (λ c3=>Wk ?_)⟩
         . have c3:inD (.int (Jh ws j).a) (la.map .int)=true:=c3
           rw [Jd4] at c3
           have t1:=(ma.iff a0 hw c0).mp (of_decide_eq_true c3)
           refine ⟨_,Yi (by decide) rfl,_,B6 j0 j1,_,rfl,_,vd,rfl,Jcr _,Y4 (λ c4=>h1 ?_) (λ c4=>h2 ?_)⟩
           . have c4:inD (.int (Jh ws k).a) (ld.map .int)=true:=c4
             rw [Jd4] at c4
             exact @decide_eq_true _ (J2u _) ⟨t1,(md.iff d0 hw a0).mp (of_decide_eq_true c4)⟩
           . have c4:inD (.int (Jh ws k).a) (ld.map .int)=false:=c4
             rw [Jd4] at c4
             exact @decide_eq_false _ (J2u _) λ z=>of_decide_eq_false c4 ((md.iff d0 hw a0).mpr z.2)
         . have c3:inD (.int (Jh ws j).a) (la.map .int)=false:=c3
           rw [Jd4] at c3
           exact h2 (@decide_eq_false _ (J2u _) λ z=>of_decide_eq_false c3 ((ma.iff a0 hw c0).mpr z.1))
       . have key:KeyOf ws ks (ks.filter λ j=>@decide (Rt (Yr ws ks) (aOf ws k) (aOf ws j)/\Rt (Yr ws ks) (bOf ws j) (aOf ws k)) (J2u _)) k:=⟨hkm,back,λ j=>by
          rw [X7]
          exact and_congr_right λ _=>@decide_eq_true_iff _ (J2u _)⟩
         have rl:=List.filter_sublist (p:=λ j=>@decide (Rt (Yr ws ks) (aOf ws k) (aOf ws j)/\Rt (Yr ws ks) (bOf ws j) (aOf ws k)) (J2u _)) (l:=ks)
         have rlen:=rl.length_le
         generalize (ks.filter λ j=>@decide (Rt (Yr ws ks) (aOf ws k) (aOf ws j)/\Rt (Yr ws ks) (bOf ws j) (aOf ws k)) (J2u _))=r at key rl rlen ⊢
         have hI':=hI.add key rl λ s hs hks=>n1 (List.mem_flatten.mpr ⟨s,hs,hks⟩)
         have fl:rs.flatten.length<=rs.length*ks.length:=Jmm hI.kl
         have hil:=hI.len
         have fl2:rs.length*ks.length<=60*60:=J8n (by omega) hl
         refine ⟨_,.fz 9 _ rfl .refl,by rw [Qb];omega,_,.refl,by rw [Qb,Qb];omega,rfl,rs++[r],.d (.int k),.d (.int (Jh ws k).a),.d (.int (Jh ws k).b),.d (.tuple ((Jh ws k).g.map Qp)),.d (.list (r.map .int)),?_,hI'⟩
         rw [J79,Q1,Q1]
         simp only [U6,List.flatten_nil,Uu]
         rfl
     . exact ⟨rfl,rs,_,_,_,_,_,rfl,hI.more⟩
   . exact Wk ⟨rfl,rs,_,_,_,_,_,rfl,hI.more⟩
 . rintro env m ⟨rfl,rs,a,b,c,d,e,rfl,hI⟩
   rw [Qb] at hI
   exact ⟨_,.refl,q rs hI⟩
theorem Jne:FnScope ["thing"] ["thing"] (Je Jdj):=⟨rfl,rfl,rfl,by decide +kernel,rfl,by decide +kernel,by decide +kernel⟩
theorem Jnf (T:Txt mg) (D:Def K mg "is_whole" Jdj ["thing"]):Cal P w K mg base "is_whole" 1 ["thing"] (Jm Jbf):=by
 refine D.cal λ f fd F=>F.ok Jne (J5 ?_) (λ cdv A outer s H vs Q E hr h=>?_)
 . rintro as n P ⟨x,rfl,_⟩
   rfl
 refine ⟨_,(@Ji _ _ _ (@Js _ _ _ _ (Jjz (Jy V5 rfl T.b_isinstance J96 (Jb (pv 0) (Jb (Jae rfl T.b_int Yak (v:=.ty "int") rfl) Jc))) (Jes (Jrq (Jy V5 rfl T.b_isinstance J96 (Jb (pv 0) (Jb (Jae rfl T.b_bool boot_bool (v:=.ty "bool") rfl) Jc)))))))),J1 h ?_⟩
 rintro as n P ⟨x,rfl,q⟩
 exact ⟨rfl,rfl,rfl,q⟩
theorem Jiw:FnScope ["thing","least","most"] ["thing","least","most"] (Je Jbk):=⟨rfl,rfl,rfl,by decide +kernel,rfl,by decide +kernel,by decide +kernel⟩
theorem Jix (T:Txt mg) (D:Def K mg "is_between" Jbk ["thing","least","most"]) (Gb:Cal P w K mg base "is_whole" 1 ["thing"] (Jm Jbf)):Cal P w K mg base "is_between" 2 ["thing","least","most"] (Jm Je6):=by
 refine D.cal λ f fd F=>F.ok Jiw (J5 ?_) (λ cdv A outer s H vs Q E hr h=>?_)
 . rintro as n P ⟨x,a,b,rfl,_⟩
   rfl
 refine ⟨_,(@Ji _ _ _ (@Js _ _ _ _ (Jjz (Y2 Gb (hr.mono (by decide)) rfl (Jb (pv 0) Jc)) (Jes (Jrz Jw7 Jw7 (pv 1) (pv 0) (pv 2)))))),J1 h ?_⟩
 rintro as n P ⟨x,a,b,rfl,q⟩
 refine ⟨rfl,x,rfl,?_⟩
 by_cases h:a<=x
 . rw [decide_eq_true h] at q
   show match J6e (decide (a<=x)) with | .bool true=>_ | .bool false=>_ | _=>_
   rw [decide_eq_true h]
   exact q
 . rw [decide_eq_false h] at q
   show match J6e (decide (a<=x)) with | .bool true=>_ | .bool false=>_ | _=>_
   rw [decide_eq_false h]
   exact q
theorem Jo2:FnScope ["book","k"] ["book","k"] (Je Jfi):=⟨rfl,rfl,rfl,by decide +kernel,rfl,by decide +kernel,by decide +kernel⟩
theorem Jo3 (T:Txt mg) (D:Def K mg "has_way" Jfi ["book","k"]) (Gg:Cal P w K mg base "is_between" 2 ["thing","least","most"] (Jm Je6)):Cal P w K mg base "has_way" 3 ["book","k"] (Jm Jhf):=by
 refine D.cal λ f fd F=>F.ok Jo2 (J5 ?_) (λ cdv A outer s H vs Q E hr h=>?_)
 . rintro as n P ⟨R,U,ws,k,rfl,_⟩
   rfl
 refine ⟨_,(@Ji _ _ _ (@Js _ _ _ _ (Y2 Gg (hr.mono (by decide)) rfl (Jb (pv 1) (Zj Jd (B1 (Ju Bx (Jy J4 rfl T.b_len Xy (Yh (Jj Jz (pv 0) Jd (λ _ _=>rfl)) Jc)) Jd) Jc)))))),J1 h ?_⟩
 rintro as n P ⟨R,U,ws,k,rfl,hk,q⟩
 refine ⟨rfl,_,rfl,k,0,_,rfl,?_⟩
 rw [decide_eq_true hk.1,decide_eq_true (by rw [Qb];omega)]
 exact q
theorem Yv:FnScope ["book","some","rooms","purses","ways","leads","k","a","b","gains","middle","room"] ["book","some"] (Je Zh):=⟨rfl,rfl,rfl,by decide +kernel,rfl,by decide +kernel,by decide +kernel⟩
theorem Jfk (T:Txt mg) (D:Def K mg "rooms_reached" Zh ["book","some"]):Cal P w K mg base "rooms_reached" 1 ["book","some"] (Jm Jkp):=by
 refine D.cal λ f fd F=>F.ok Yv (J5 ?_) (λ cdv A outer s H vs Q E hr h=>?_)
 . rintro as n P ⟨R,U,ws,ks,rfl,_⟩
   rfl
 refine ⟨_,(@Ja _ _ _ _ _ (Yn (pv 0) (Bp (K':=K) (i:=2) (j:=3) (m:=4) rfl Yv.nd ⟨rfl,(Qw rfl),(Qa rfl)⟩ ⟨rfl,(Qa rfl),(Qa rfl)⟩ ⟨rfl,(Qa rfl),(Qa rfl)⟩ rfl))
  (@Ja _ _ _ _ _ (Jvt (Jfy (i:=5) (sc:=(Je Zh)) (N:=["book","some","rooms","purses","ways","leads","k","a","b","gains","middle","room"]) (N':=["room","rooms"]) (k:=1) (idx:=[2]) rfl Yv.nd rfl rfl (by exact ⟨rfl,by decide +kernel,by decide +kernel,by decide +kernel,by decide +kernel,by decide +kernel,rfl,rfl⟩) rfl rfl (Yp rfl T.b_range (Jb (pv 2) Jc)) (λ _ _ _ _=>(Jv (i:=0) (show (["room","rooms"]:List Str).Nodup by decide +kernel) rfl (Qw rfl) (Qa rfl))) (λ _ _ _ _=>Yy) (λ _ _ _ _=>(Y9 (sc:=Jvk _ (Je Zh)) (N:=["room","rooms"]) (N':=["other","room"]) (k:=1) (idx:=[0]) rfl (by exact ⟨rfl,by decide +kernel,by decide +kernel,by decide +kernel,by decide +kernel,by decide +kernel,rfl,rfl⟩) (Jyr rfl) rfl (by exact (Yp rfl T.b_range (Jb (pv 1) Jc))) (λ _ _ _ _=>(Jv (i:=0) (show (["other","room"]:List Str).Nodup by decide +kernel) rfl (Qa rfl) (Qw rfl))) (λ _ _ _ _=>Yy) (λ _ _ _ _=>(Wi Jc0 (pv 1) (pv 0) (J2 _)))))))
  (@Ja _ _ _ _ _ (Zt Xm rfl (Zq (pv 1)) (Jv (i:=6) Yv.nd rfl (Qa rfl) (Qa rfl))
  (@Ja _ _ _ _ _ (Yn (Jj Jz (pv 4) (pv 6) (λ _ _=>rfl)) (Bp (K':=K) (i:=7) (j:=8) (m:=9) rfl Yv.nd ⟨rfl,(Qa rfl),(Qa rfl)⟩ ⟨rfl,(Qa rfl),(Qa rfl)⟩ ⟨rfl,(Qa rfl),(Qa rfl)⟩ rfl))
  (@Ji _ _ _ (Yn Jbr (Zs (Jj Jr (pv 5) (pv 7) (λ _ _=>rfl)) (pv 8) Yq (λ v=>J3 _ _ _ _ _ v))))))
  (@Ja _ _ _ _ _ (Zt Xm rfl (Yp rfl T.b_range (Jb (pv 2) Jc)) (Jv (i:=10) Yv.nd rfl (Qa rfl) (Qa rfl))
  (@Ji _ _ _ (Zt Xm rfl (Yp rfl T.b_range (Jb (pv 2) Jc)) (Jv (i:=11) Yv.nd rfl (Qa rfl) (Qa rfl))
  (@Ji _ _ _ (Zd (Z3 (Jj Jr (Jj Jr (pv 5) (pv 11) (λ _ _=>rfl)) (pv 10) (λ _ _=>rfl))) (@Ji _ _ _ (Jps (Yn (Y9 (sc:=(Je Zh)) (N:=["book","some","rooms","purses","ways","leads","k","a","b","gains","middle","room"]) (N':=["now","then"]) (k:=2) (idx:=[]) rfl (by exact ⟨rfl,by decide +kernel,by decide +kernel,by decide +kernel,by decide +kernel,by decide +kernel,rfl,rfl⟩) rfl rfl (Jvv (Jvj (K':=K) rfl rfl T.b_zip (Yh (Jj Jr (pv 5) (pv 11) (λ _ _=>rfl)) (Yh (Jj Jr (pv 5) (pv 10) (λ _ _=>rfl)) Jc)))) (λ _ _ _ _=>(Wl (K':=K) (i:=0) (j:=1) rfl (show (["now","then"]:List Str).Nodup by decide +kernel) ⟨rfl,(Qa rfl),(Qw rfl)⟩ ⟨rfl,(Qa rfl),(Qw rfl)⟩ rfl)) (λ _ _ _ _=>Yy) (λ _ _ _ _=>(Jw5 (pv 0) (Jes (pv 1))))) (Zs (pv 5) (pv 11) Yq (λ v=>J3 _ _ _ _ _ v))))) J9)))))
  (@Ji _ _ _ (@Js _ _ _ _ (pv 5))))))),J1 h ?_⟩
 rintro as n P ⟨R,U,ws,ks,rfl,ok,hk,q⟩
 have r0:=ok.r0
 have r1:=ok.r1
 have hs:sizeLine=16777216:=J9p
 have hR:((R.toNat:Nat):Int)=R:=X3 (by omega)
 refine ⟨rfl,rfl,rfl,⟨_,.refl,?_⟩⟩
 refine ⟨R,rfl,⟨by omega,by omega⟩,⟨rfl,by rw [Yf];omega,?_⟩,?_⟩
 . unfold Jf5
   rw [X9]
   intro x hx
   obtain ⟨b,_,rfl⟩:=Qo.mp hx
   rfl
 refine Jmg (λ a=>B7 R.toNat (pw0 []) a) (Qn R.toNat) (λ i hi K hK=>?_) ?_
 . refine ⟨R,rfl,⟨by omega,by omega⟩,⟨rfl,by rw [Yf];omega⟩,?_⟩
   refine Bv (λ j=>.bool (pw0 [] i j)) (λ j hj n K hK=>Jad (Jjj ?_)) hK
   have:decide ((0+(i:Int))=0+(j:Int))=pw0 [] i j:=by
    unfold pw0
    rw [decide_eq_false (p:=(i,j)∈[]) (by simp),J4w]
    exact decide_eq_decide.mpr (by omega)
   rw [this]
   exact hK
 intro ps hps
 refine ⟨_,.refl,?_⟩
 refine ⟨λ i env n'=>n'=n/\∃ (ps:List (Addr×List J9i)) (x6 x7 x8 x9:Vl),env=[.d (J7 R U ws),.d (.list (ks.map .int)),.d (.int R),.d (.int U),.d (.tuple (ws.map Y8)),.own2 none ps,x6,x7,x8,x9,.jnk,.jnk]/\ps.map (·.2)=Bd R.toNat (pw0 (Yr ws (ks.take i))),⟨rfl,ps,_,_,_,_,rfl,hps⟩,?_,?_⟩
 . rintro i x env n' hx ⟨rfl,ps,x6,x7,x8,x9,rfl,hps⟩
   rw [Qk] at hx
   obtain ⟨k,hki,rfl⟩:=X2.mp hx
   obtain ⟨k0,k1⟩:=hk k (Xb hki)
   have wok:=ok.ways _ (Y3 k0 k1)
   have a0:=wok.a0
   have a1:=wok.a1
   have b0:=wok.b0
   have b1:=wok.b1
   have ha:(Jh ws k).a.toNat<R.toNat:=by omega
   have hb:(Jh ws k).b.toNat<R.toNat:=by omega
   obtain ⟨p,hp,ep⟩:=Jme hps (Jay (f:=pw0 (Yr ws (ks.take i))) ha)
   refine ⟨_,B6 k0 k1,rfl,rfl,⟨_,.refl,?_⟩⟩
   refine ⟨_,p,Jb3 a0 (by rw [Jhl hps,B8];omega),hp,_,Jb3 b0 (by rw [ep,Jb8];omega),rfl,_,_,_,_,_,rfl,?_⟩
   rw [Jq8 hki,ep]
   exact Jmf hps (Jvx ha hb)
 . rintro env _ ⟨rfl,ps,x6,x7,x8,x9,rfl,hps⟩
   rw [Qb,J47,Jza] at hps
   refine ⟨_,.refl,R,rfl,⟨by omega,by omega⟩,λ m env k=>k=_/\∃ (ps:List (Addr×List J9i)) (x6 x7 x8 x9 x10 x11:Vl),env=[.d (J7 R U ws),.d (.list (ks.map .int)),.d (.int R),.d (.int U),.d (.tuple (ws.map Y8)),.own2 none ps,x6,x7,x8,x9,x10,x11]/\ps.map (·.2)=Bd R.toNat (Pw (Yr ws ks) m),⟨rfl,ps,_,_,_,_,_,_,rfl,hps⟩,?_,?_⟩
   . rintro m x env _ hx ⟨rfl,ps,x6,x7,x8,x9,x10,x11,rfl,hps⟩
     obtain ⟨hm,rfl⟩:=Jpu hx
     refine ⟨R,rfl,⟨by omega,by omega⟩,λ r env k=>k=_/\∃ (ps:List (Addr×List J9i)) (x11:Vl),env=[.d (J7 R U ws),.d (.list (ks.map .int)),.d (.int R),.d (.int U),.d (.tuple (ws.map Y8)),.own2 none ps,x6,x7,x8,x9,.d (.int m),x11]/\ps.map (·.2)=Bd R.toNat (pwR (Yr ws ks) m r),⟨rfl,ps,_,rfl,by rw [J09];exact hps⟩,?_,?_⟩
     . rintro r x env _ hx ⟨rfl,ps,x11,rfl,hps⟩
       obtain ⟨hr',rfl⟩:=Jpu hx
       refine ⟨_,Jkl hps (Xq r) (by omega),_,Jkm (Xq m) (by omega),Y4 (λ c=>?_) (λ c=>?_)⟩
       . rw [Q0,Q0,Jhm] at c
         refine ⟨_,Jkl hps (Xq r) (by omega),_,Jkl hps (Xq m) (by omega),_,_,_,_,rfl,rfl,rfl,⟨Jjm,Jjm⟩,⟨rfl,?_⟩,?_⟩
         . rw [Jpt,Qb,Q2];omega
         rw [Q0,Q0,Jpt]
         refine Bv (λ b=>.bool (pwR (Yr ws ks) m r r b||pwR (Yr ws ks) m r m b)) (λ j hj n K hK=>⟨rfl,rfl,Jad (Y4 (λ e=>?_) (λ e=>?_))⟩) ?_
         . rw [e,J81] at hK;exact hK
         . rw [e,J82] at hK;exact hK
         . exact ⟨r,by rw [Jb3 (Xq r) (by rw [Jhl hps,B8];omega),Q0],λ b=>⟨rfl,_,_,rfl,Jmf hps (Jvy hr' c)⟩⟩
       . rw [Q0,Q0,Jhm] at c
         exact ⟨rfl,ps,_,rfl,by rw [hps];exact Jy9 c⟩
     . rintro env _ ⟨rfl,ps,x11,rfl,hps⟩
       rw [Yf,Jvz] at hps
       exact ⟨rfl,ps,_,_,_,_,_,_,rfl,hps⟩
   . rintro env _ ⟨rfl,ps,x6,x7,x8,x9,x10,x11,rfl,hps⟩
     rw [Yf] at hps
     refine ⟨_,.fz2 5 ps rfl .refl,?_⟩
     show P _ _
     rw [Js6 hps]
     exact q
theorem Wh:FnScope ["book","some","rooms","purses","ways","leads","rings","k","a","b","gains","least"] ["book","some"] (Je Jbl):=⟨rfl,rfl,rfl,by decide +kernel,rfl,by decide +kernel,by decide +kernel⟩
theorem Jng (T:Txt mg) (D:Def K mg "rings_of" Jbl ["book","some"]) (Gh:Cal P w K mg base "rooms_reached" 1 ["book","some"] (Jm Jkp)):Cal P w K mg base "rings_of" 2 ["book","some"] (Jm Jks):=by
 refine D.cal λ f fd F=>F.ok Wh (J5 ?_) (λ cdv A outer s H vs Q E hr h=>?_)
 . rintro as n P ⟨R,U,ws,ks,rfl,_⟩
   rfl
 refine ⟨_,(@Ja _ _ _ _ _ (Yn (pv 0) (Bp (K':=K) (i:=2) (j:=3) (m:=4) rfl Wh.nd ⟨rfl,(Qa rfl),(Qa rfl)⟩ ⟨rfl,(Qa rfl),(Qa rfl)⟩ ⟨rfl,(Qa rfl),(Qa rfl)⟩ rfl))
  (@Ja _ _ _ _ _ (J0 (i:=5) Wh.nd rfl (Qw rfl) (Y2 Gh (hr.mono (by decide)) rfl (Jb (pv 0) (Jb (pv 1) Jc))))
  (@Ja _ _ _ _ _ (Jte (J0 (i:=6) Wh.nd rfl (Qa rfl) Jsb))
  (@Ja _ _ _ _ _ (Zt Xm rfl (Zq (pv 1)) (Jv (i:=7) Wh.nd rfl (Qa rfl) (Qa rfl))
  (@Ja _ _ _ _ _ (Yn (Jj Jz (pv 4) (pv 7) (λ _ _=>rfl)) (Bp (K':=K) (i:=8) (j:=9) (m:=10) rfl Wh.nd ⟨rfl,(Qw rfl),(Qa rfl)⟩ ⟨rfl,(Qa rfl),(Qa rfl)⟩ ⟨rfl,(Qa rfl),(Qa rfl)⟩ rfl))
  (@Ji _ _ _ (Zd (Z3 (Jj Jr (Jj Jr (pv 5) (pv 9) (λ _ _=>rfl)) (pv 8) (λ _ _=>rfl))) (@Ja _ _ _ _ _ (J0 (i:=11) Wh.nd rfl (Qa rfl) (Jy (Jjg rfl) rfl T.b_min boot_min (Jbb (Y9 (sc:=(Je Jbl)) (N:=["book","some","rooms","purses","ways","leads","rings","k","a","b","gains","least"]) (N':=["room","leads","a"]) (k:=1) (idx:=[5,8]) rfl (by exact ⟨rfl,by decide +kernel,by decide +kernel,by decide +kernel,by decide +kernel,by decide +kernel,rfl,rfl⟩) rfl rfl (Yp rfl T.b_range (Jb (pv 2) Jc)) (λ _ _ _ _=>(Jv (i:=0) (show (["room","leads","a"]:List Str).Nodup by decide +kernel) rfl (Qa rfl) (Qw rfl))) (λ _ _ _ _=>Ja9 (PW.pt (Jc4 (Z3 (Jj (Jb4 (K':=K) rfl) (Jj (Jb4 (K':=K) rfl) (pv 1) (pv 2) (λ _ _=>rfl)) (pv 0) (λ _ _=>rfl))) (Ja4 (Z3 (Jj (Jb4 (K':=K) rfl) (Jj (Jb4 (K':=K) rfl) (pv 1) (pv 0) (λ _ _=>rfl)) (pv 2) (λ _ _=>rfl))))))) (λ _ _ _ _=>(pv 0))) Jc)))
  (@Ji _ _ _ (Bo (Jft J2t J25 J26 Wj (Jta (pv 6) (pv 11) (@PEs.out _ _ _ (Yd Jw)) ⟨rfl,rfl,rfl,rfl⟩) (Jb (pv 7) Jc))))) J9))))
  (@Ji _ _ _ (@Js _ _ _ _ (Jtb hr.hd rfl T.b_list (pv 6)))))))),J1 h ?_⟩
 rintro as n P ⟨R,U,ws,ks,rfl,ok,hk,hl,q⟩
 have r0:=ok.r0
 have r1:=ok.r1
 have hs:sizeLine=16777216:=J9p
 have hR:((R.toNat:Nat):Int)=R:=X3 (by omega)
 refine ⟨rfl,rfl,rfl,⟨_,.refl,?_⟩⟩
 refine ⟨R,U,ws,ks,rfl,ok,hk,⟨_,.refl,⟨_,.refl,?_⟩⟩⟩
 refine ⟨λ i env n'=>n'=n/\∃ (keys:List Key) (ps:List (Addr×List J9i)) (x7 x8 x9 x10 x11:Vl),env=[.d (J7 R U ws),.d (.list (ks.map .int)),.d (.int R),.d (.int U),.d (.tuple (ws.map Y8)),.d (Jko R.toNat (Yr ws ks)),.own2 (some keys) ps,x7,x8,x9,x10,x11]/\RingInv i (Jah R.toNat (Yr ws ks) ws (ks.take i)) keys ps,⟨rfl,[],[],_,_,_,_,_,rfl,⟨rfl,rfl,List.nodup_nil,Ql _,λ p hp=>by cases hp⟩⟩,?_,?_⟩
 . rintro i x env _ hx ⟨rfl,keys,ps,x7,x8,x9,x10,x11,rfl,hi⟩
   rw [Qk] at hx
   obtain ⟨k,hki,rfl⟩:=X2.mp hx
   obtain ⟨k0,k1⟩:=hk k (Xb hki)
   have il:=(Qt.mp hki).1
   have wok:=ok.ways _ (Y3 k0 k1)
   have a0:=wok.a0
   have a1:=wok.a1
   have b0:=wok.b0
   have b1:=wok.b1
   have ha:(Jh ws k).a.toNat<R.toNat:=by omega
   have hg:=Jkt (R:=R.toNat) (es:=Yr ws ks) (ws:=ws) hki
   refine ⟨_,B6 k0 k1,rfl,rfl,⟨_,.refl,_,Jhp b0 (by omega),_,Jkm a0 (by omega),Y4 (λ c=>?_) (λ c=>?_)⟩⟩
   . rw [Z0,if_pos c] at hg
     refine ⟨R,rfl,⟨by omega,by omega⟩,⟨rfl,by rw [Yf];omega⟩,?_⟩
     refine Jd0 (λ x=>Pw (Yr ws ks) R.toNat (Jh ws k).a.toNat x&&Pw (Yr ws ks) R.toNat x (Jh ws k).a.toNat) (λ j=>.int (j:Int)) (λ j hj n K h1 h2=>?_) ?_
     . rw [J20]
       refine ⟨_,Jhp a0 (by omega),_,Jkm (Xq j) (by omega),Y4 (λ c1=>⟨_,Jhp (Xq j) (by omega),_,Jkm a0 (by omega),Y4 (λ c2=>?_) (λ c2=>?_)⟩) (λ c1=>Wk ?_)⟩
       . rw [Q0] at c1 c2
         exact h1 (by rw [c1,c2];rfl)
       . rw [Q0] at c1 c2
         exact h2 (by rw [c1,c2];rfl)
       . rw [Q0] at c1
         exact h2 (by rw [c1];rfl)
     refine ⟨(Zu R.toNat (Yr ws ks) (Jh ws k).a.toNat).map (λ j:Nat=>(j:Int)),?_,?_,λ m hm hmin=>?_⟩
     . rw [Qy];rfl
     . exact λ z=>by
        have:=Joh (es:=Yr ws ks) ha
        rw [J8t.mp z] at this
        cases this
     rw [Jtf hm hmin]
     have pl:ps.length<1000000:=by
      have e:=congrArg J3p hi.rw
      rw [Qb,Qb] at e
      have:=hi.gl
      omega
     refine ⟨_,.refl,Xr _,rfl,λ hin m p hm hp=>⟨?_,rfl,keys,_,_,_,_,_,_,rfl,by rw [hg];exact (hi.add hm hp).2⟩,λ hout=>⟨pl,λ b=>⟨rfl,_,_,_,_,_,_,_,rfl,by rw [hg];exact hi.new hout b⟩⟩⟩
     have:=(hi.add (k:=k) hm hp).1
     omega
   . rw [Z0,if_neg (by rw [c];exact Q6)] at hg
     exact ⟨rfl,_,_,_,_,_,_,_,rfl,by rw [hg];exact hi.up⟩
 . rintro env _ ⟨rfl,keys,ps,x7,x8,x9,x10,x11,rfl,hi⟩
   rw [Qb,J47] at hi
   refine ⟨_,.refl,?_⟩
   show P _ _
   rw [Jq9 hi]
   exact q
theorem Zk:FnScope ["numbers","divisor","number","rest"] ["numbers"] (Je Vx):=⟨rfl,rfl,rfl,by decide +kernel,rfl,by decide +kernel,by decide +kernel⟩
theorem Jen (T:Txt mg) (D:Def K mg "common_divisor" Vx ["numbers"]):Cal P w K mg base "common_divisor" 1 ["numbers"] (Jm Jec):=by
 refine D.cal λ f fd F=>F.ok Zk (J5 ?_) (λ cdv A outer s H vs Q E hr h=>?_)
 . rintro as n P ⟨ns,rfl,_⟩
   rfl
 refine ⟨_,(@Ja _ _ _ _ _ (J0 (i:=1) Zk.nd rfl (Qa rfl) Jd)
  (@Ja _ _ _ _ _ (Zt Xm rfl (Zq (pv 0)) (Jv (i:=2) Zk.nd rfl (Qa rfl) (Qa rfl))
  (@Ja _ _ _ _ _ (J0 (i:=3) Zk.nd rfl (Qa rfl) (Jy Jr1 rfl T.b_abs boot_abs (Jb (pv 2) Jc)))
  (@Ji _ _ _ (Jgr Xm (Jx Ji6 (pv 3) Jd (J2 _))
  (@Ji _ _ _ (Jnn (i:=1) (j:=3) rfl Zk.nd rfl rfl (by decide) rfl rfl (Jb (pv 3) (B1 (Ju By (pv 1) (pv 3)) Jc)) rfl))))))
  (@Ji _ _ _ (@Js _ _ _ _ (pv 1))))),J1 h ?_⟩
 rintro as n P ⟨ns,rfl,q⟩
 refine ⟨rfl,_,.refl,?_⟩
 refine ⟨λ i env n'=>n'=n/\∃ x y:Vl,env=[.d (.list (ns.map .int)),.d (.int ((Zc (ns.take i):Nat):Int)),x,y],⟨rfl,_,_,rfl⟩,?_,?_⟩
 . rintro i x env n' hx ⟨rfl,_,_,rfl⟩
   rw [Qk] at hx
   obtain ⟨k,hk,rfl⟩:=X2.mp hx
   refine ⟨_,.refl,?_⟩
   refine ⟨λ m env j=>j=n'/\∃ g:Nat,env=[.d (.list (ns.map .int)),.d (.int ((g:Nat):Int)),.d (.int k),.d (.int ((m:Nat):Int))]/\J22 g m=Zc (ns.take (i+1)),⟨k.natAbs,rfl,Zc (ns.take i),?_,(Jua hk).symm⟩,?_⟩
   . show [Vl.d (.list (ns.map .int)),_,_,Vl.d (.int (if k<0 then -k else k))]=_
     rw [show (if k<0 then -k else k)=(k.natAbs:Int) by split<;>omega]
   . rintro m _ _ ⟨rfl,g,rfl,hg⟩
     refine Y4 (λ c=>?_) (λ c=>?_)
     . have hm:0<m:=by have:=of_decide_eq_true c;omega
       refine ⟨by omega,_,_,rfl,g%m,Nat.mod_lt _ hm,rfl,m,?_,?_⟩
       . rfl
       . rw [<- hg,Nat.gcd_comm m,<- Nat.gcd_rec,Nat.gcd_comm]
     . have hm:m=0:=by have:=of_decide_eq_false c;omega
       subst hm
       rw [Nat.gcd_zero_right] at hg
       exact ⟨rfl,_,_,by rw [hg]⟩
 . rintro env n' ⟨rfl,_,_,rfl⟩
   rw [Qb,J47]
   exact ⟨_,.refl,q⟩
theorem Jab:FnScope ["numbers","divisor"] ["numbers"] (Je Wa):=⟨rfl,rfl,rfl,by decide +kernel,rfl,by decide +kernel,by decide +kernel⟩
theorem Jdo (T:Txt mg) (D:Def K mg "without_divisor" Wa ["numbers"]) (Gi:Cal P w K mg base "common_divisor" 1 ["numbers"] (Jm Jec)):Cal P w K mg base "without_divisor" 2 ["numbers"] (Z9 Jgj):=by
 refine D.cal λ f fd F=>F.ok Jab (Bu ?_) (λ cdv A outer s H vs Q E hr h=>?_)
 . rintro as n P ⟨ns,rfl,_⟩
   rfl
 refine ⟨_,(@Ja _ _ _ _ _ (J0 (i:=1) Jab.nd rfl (Qw rfl) (Y2 Gi (hr.mono (by decide)) rfl (Jb (pv 0) Jc)))
  (@Ji _ _ _ (@Js _ _ _ _ (Y9 (sc:=(Je Wa)) (N:=["numbers","divisor"]) (N':=["number","divisor"]) (k:=1) (idx:=[1]) rfl (by exact ⟨rfl,by decide +kernel,by decide +kernel,by decide +kernel,by decide +kernel,by decide +kernel,rfl,rfl⟩) rfl rfl (Zq (pv 0)) (λ _ _ _ _=>(Jv (i:=0) (show (["number","divisor"]:List Str).Nodup by decide +kernel) rfl (Qa rfl) (Qw rfl))) (λ _ _ _ _=>Yy) (λ _ _ _ _=>(Ju Jau (pv 0) (pv 1))))))),Vs h ?_⟩
 rintro as n P ⟨ns,rfl,hl,h0,h1,q⟩
 have hs:sizeLine=16777216:=J9p
 refine ⟨rfl,ns,rfl,_,.refl,⟨rfl,by rw [Qb];omega⟩,?_⟩
 refine Wm (f:=Qp) (λ x=>.int (x/((Zc ns:Nat):Int))) (λ x hx n K hk=>Jad ⟨Jav (by omega) h1,hk⟩) ?_
 rw [Qy] at q
 exact q
theorem Vk:FnScope ["self","other","row","place","by","times","fresh"] ["self","other","row","place"] (Je Wo):=⟨rfl,rfl,rfl,by decide +kernel,rfl,by decide +kernel,by decide +kernel⟩
theorem Jeo {C:Addr}(T:Txt mg) (Y:TableOk K C) (D:DefM K C "without" "Table.without" Wo ["self","other","row","place"]):Wc P w K mg base C "without" 1 ["self","other","row","place"] (Z9 (Joo C)):=by
 refine D.cal Y.c λ f fd F=>F.ok Vk (Bu ?_) (λ cdv A outer s H vs Q E hr h=>?_)
 . rintro as n P ⟨z,T,other,row,k,rfl,_⟩
   rfl
 refine ⟨_,(@Ja _ _ _ _ _ (Yn (@PEs.out _ _ _ (Zy (Jdv (J6 (Jj Jr (pv 2) (pv 3) (λ _ _=>rfl))) (Jdv (J6 (Jj Jr (pv 1) (pv 3) (λ _ _=>rfl))) Jw)))) (Wl (K':=K) (i:=4) (j:=5) rfl Vk.nd ⟨rfl,(Qw rfl),(Qa rfl)⟩ ⟨rfl,(Qw rfl),(Qa rfl)⟩ rfl))
  (@Ja _ _ _ _ _ (W2 (i:=6) (sc:=(Je Wo)) (N:=["self","other","row","place","by","times","fresh"]) (N':=["number","more","by","times","self"]) (k:=2) (idx:=[4,5,0]) rfl Vk.nd rfl rfl (by exact ⟨rfl,by decide +kernel,by decide +kernel,by decide +kernel,by decide +kernel,by decide +kernel,rfl,rfl⟩) rfl rfl (Jbc rfl T.b_zip (Jb (pv 1) (Jb (pv 2) Jc))) (λ _ _ _ _=>(Wl (K':=K) (i:=0) (j:=1) rfl (show (["number","more","by","times","self"]:List Str).Nodup by decide +kernel) ⟨rfl,(Qa rfl),(Qw rfl)⟩ ⟨rfl,(Qa rfl),(Qw rfl)⟩ rfl)) (λ _ _ _ _=>Yy) (λ _ _ _ _=>(Ju Jau (Ju Bx (Ju Jcp (pv 2) (pv 0)) (Ju Jcp (pv 3) (pv 1))) (J8 (K':=K) rfl (pv 4)))))
  (@Ja _ _ _ _ _ (Yn (Bk Wr (pv 5)) (Zs (pv 6) (pv 3) Yq (λ v=>J3 _ _ _ _ _ v)))
  (@Ji _ _ _ (@Js _ _ _ _ (pv 6)))))),Vs h ?_⟩
 rintro as n P ⟨z,T,other,row,k,rfl,k1,k2,ol,so,sr,q0,q1,q⟩
 have hs:sizeLine=16777216:=J9p
 have big:∀ {x:Int},x.natAbs<2^4000->x.natAbs<2^9000:=λ h=>Xd h (J43 (by decide) (by decide))
 have a1:atI (row.map Qp) ((k:Nat):Int)=some (.int (row.getD k 0)):=Yi (by omega) (by rw [Q0,Qk,Qf k2,Qi,Qf k2];rfl)
 have a2:atI (other.map Qp) ((k:Nat):Int)=some (.int (other.getD k 0)):=Yi (by omega) (by rw [Q0,Qk,Qf k1,Qi,Qf k1];rfl)
 have by1:(row.getD k 0).natAbs<2^4000:=sr _ (by rw [Qi,Qf k2];exact Xp _)
 have by2:(other.getD k 0).natAbs<2^4000:=so _ (by rw [Qi,Qf k1];exact Xp _)
 refine ⟨rfl,_,a1,_,a2,Jax,rfl,rfl,⟨[.d (Wn C z T),.d (Yz other),.d (Yz row),.d (Jq k),.d (.int (row.getD k 0)),.d (.int (other.getD k 0)),.jnk],.eq rfl,?_⟩⟩
 refine ⟨_,_,_,_,rfl,rfl,rfl,⟨rfl,by rw [V6,Qb];omega⟩,?_⟩
 rw [Jfc]
 refine Wm (f:=λ p:Int×Int=>Ux [.int p.1,.int p.2]) (λ p=>.int ((row.getD k 0*p.1-other.getD k 0*p.2)/T.q)) (λ p hp n K hk=>⟨rfl,rfl,Jad ⟨Vt (big by1) (big (so _ (J3a hp).1)),Vt (big by2) (big (sr _ (J3a hp).2)),?_⟩⟩) ?_
 . exact Jue Y ⟨Jav q0 (Int.lt_of_lt_of_le q1 (by decide +kernel)),hk⟩
 refine ⟨_,.refl,k,B2 (by omega) (by rw [Qb,J6k];omega),_,.refl,?_⟩
 have e:((other.zip row).map λ p=>Qp ((row.getD k 0*p.1-other.getD k 0*p.2)/T.q)).set k (.int (-(other.getD k 0)))=(Tb.Jcb T.q row other k).map .int:=by
  unfold Tb.Jcb
  rw [X6,J63,J83,J83]
 show P (List.set _ k _) n
 rw [e]
 exact q
theorem W1:FnScope ["self","wanted","told","name","row"] ["self","wanted"] (Je Wd):=⟨rfl,rfl,rfl,by decide +kernel,rfl,by decide +kernel,by decide +kernel⟩
theorem Jf8 {C:Addr}(T:Txt mg) (Y:TableOk K C) (D:DefM K C "rises" "Table.rises" Wd ["self","wanted"]):Wc P w K mg base C "rises" 1 ["self","wanted"] (Z9 (Jgl C)):=by
 refine D.cal Y.c λ f fd F=>F.ok W1 (Bu ?_) (λ cdv A outer s H vs Q E hr h=>?_)
 . rintro as n P ⟨z,T,m,n,W,rfl,_⟩
   rfl
 refine ⟨_,(@Ja _ _ _ _ _ (W2 (i:=2) (sc:=(Je Wd)) (N:=["self","wanted","told","name","row"]) (N':=["name","wanted","self"]) (k:=1) (idx:=[1,0]) rfl W1.nd rfl rfl (by exact ⟨rfl,by decide +kernel,by decide +kernel,by decide +kernel,by decide +kernel,by decide +kernel,rfl,rfl⟩) rfl rfl (Zq (J8 (K':=K) rfl (pv 0))) (λ _ _ _ _=>(Jv (i:=0) (show (["name","wanted","self"]:List Str).Nodup by decide +kernel) rfl (Qa rfl) (Qw rfl))) (λ _ _ _ _=>Yy) (λ _ _ _ _=>(Jgq (Jx (Jdb (K':=K) rfl) (pv 0) (pv 1) (by with_unfolding_all rfl)) (J8 (K':=K) rfl (pv 2)) Jd)))
  (@Ja _ _ _ _ _ (Zt Xm rfl (Jbc rfl T.b_zip (Jag (J8 (K':=K) rfl (pv 0)) (Jag (J8 (K':=K) rfl (pv 0)) Jc))) (Wl (K':=K) (i:=3) (j:=4) rfl W1.nd ⟨rfl,(Qa rfl),(Qa rfl)⟩ ⟨rfl,(Qa rfl),(Qa rfl)⟩ rfl)
  (@Ji _ _ _ (Zd (Jx Jex (pv 3) (pv 1) (by with_unfolding_all rfl)) (@Ji _ _ _ (W2 (i:=2) (sc:=(Je Wd)) (N:=["self","wanted","told","name","row"]) (N':=["rise","number"]) (k:=2) (idx:=[]) rfl W1.nd rfl rfl (by exact ⟨rfl,by decide +kernel,by decide +kernel,by decide +kernel,by decide +kernel,by decide +kernel,rfl,rfl⟩) rfl rfl (Jwi (Jbc rfl T.b_zip (Jb (pv 2) (Jb (pv 4) Jc)))) (λ _ _ _ _=>(Wl (K':=K) (i:=0) (j:=1) rfl (show (["rise","number"]:List Str).Nodup by decide +kernel) ⟨rfl,(Qa rfl),(Qw rfl)⟩ ⟨rfl,(Qa rfl),(Qw rfl)⟩ rfl)) (λ _ _ _ _=>Yy) (λ _ _ _ _=>(Ju Bx (pv 0) (pv 1))))) J9)))
  (@Ji _ _ _ (@Js _ _ _ _ (pv 2))))),Vs h ?_⟩
 rintro as n' P ⟨z,T,m,n,W,rfl,sh,q⟩
 have hs:sizeLine=16777216:=J9p
 have mm:=sh.mm
 have nn:=sh.nn
 have isin:∀ ν:Nat,inD (Jq ν) (W.map Jq)=decide (ν∈W):=λ ν=>by
  have:=Jd4 (k:=(ν:Int)) (ns:=W.map λ k:Nat=>(k:Int))
  rw [Qy] at this
  rw [show W.map Jq=W.map (Qp∘λ k:Nat=>(k:Int)) from rfl,this]
  exact decide_eq_decide.mpr ⟨λ h=>by obtain ⟨k,hk,e⟩:=Qo.mp h;rwa [<- show k = ν by exact_mod_cast e],λ h=>Qo.mpr ⟨ν,h,rfl⟩⟩
 have scw:(W.map Jq).all W9=true:=X9.mpr λ x hx=>by obtain ⟨k,_,rfl⟩:=Qo.mp hx;rfl
 refine ⟨rfl,Jgk Y ⟨⟨rfl,by rw [Qb,sh.lf];omega⟩,?_⟩⟩
 refine Wm (f:=Jq) (λ ν=>.int (Tb.ind W ν T.q)) (λ ν hν n K hk=>Jad ⟨rfl,scw,?_⟩) ?_
 . show if inD (Jq ν) (W.map Jq)=true then _ else _
   rw [isin]
   unfold Tb.ind at hk
   refine Y4 (λ c=>Jue Y ?_) (λ c=>?_)
   . rw [if_pos (of_decide_eq_true c)] at hk
     exact hk
   . rw [if_neg (of_decide_eq_false c)] at hk
     exact hk
 rw [show T.fr.map (λ ν=>Qp (Tb.ind W ν T.q))=(tl T n W 0).map .int by rw [<- Jwj sh,Qy];rfl]
 refine ⟨_,.refl,Jed Y (Jbj Y ⟨_,_,_,_,rfl,rfl,rfl,?_⟩)⟩
 refine ⟨λ i env k=>k=n'/\∃ x y:Vl,env=[.d (Wn C z T),.d (.list (W.map Jq)),.own ((tl T n W i).map .int),x,y],⟨rfl,_,_,rfl⟩,?_,?_⟩
 . rintro i x env k hx ⟨rfl,_,_,rfl⟩
   obtain ⟨hi,rfl⟩:=Juf sh hx
   refine ⟨rfl,rfl,rfl,scw,?_⟩
   show if inD (Jq (T.b i)) (W.map Jq)=true then _ else _
   rw [isin]
   refine Y4 (λ c=>?_) (λ c=>⟨rfl,_,_,by rw [Jzl (of_decide_eq_false c)];rfl⟩)
   refine ⟨⟨rfl,?_⟩,?_⟩
   . rw [V6,Qb,Qb]
     unfold tl
     rw [Qb,Q2]
     omega
   . rw [Jfc]
     refine Wm (f:=λ p:Int×Int=>Ux [.int p.1,.int p.2]) (λ p=>.int (p.1-p.2)) (λ p hp n K hk=>⟨rfl,rfl,Jad hk⟩) ⟨rfl,.d (Jq (T.b i)),.d (Yz (T.row i)),?_⟩
     rw [<- J1i sh hi (of_decide_eq_true c),Qy]
     rfl
 . rintro env k ⟨rfl,_,_,rfl⟩
   refine ⟨_,.refl,?_⟩
   have:(Vf (T.bd.map Jq) (T.rows.map Yz)).length=m:=by rw [V6,Qb,Qb,sh.lb,sh.lr];omega
   rw [this]
   exact q
theorem Wy:FnScope ["self","wanted","names"] ["self","wanted"] (Je Y1):=⟨rfl,rfl,rfl,by decide +kernel,rfl,by decide +kernel,by decide +kernel⟩
theorem Jap {C:Addr}(T:Txt mg) (Y:TableOk K C) (D:DefM K C "place_to_raise" "Table.place_to_raise" Y1 ["self","wanted"]) (c_Table__rises:Wc P w K mg base C "rises" 1 ["self","wanted"] (Z9 (Jgl C))):Wc P w K mg base C "place_to_raise" 2 ["self","wanted"] (Jm (Jct C)):=by
 refine D.cal Y.c λ f fd F=>F.ok Wy (J5 ?_) (λ cdv A outer s H vs Q E hr h=>?_)
 . rintro as n P ⟨z,T,m,n,W,rfl,_⟩
   rfl
 refine ⟨_,(@Ja _ _ _ _ _ (W2 (i:=2) (sc:=(Je Y1)) (N:=["self","wanted","names"]) (N':=["place","rise","self"]) (k:=2) (idx:=[0]) rfl Wy.nd rfl rfl (by exact ⟨rfl,by decide +kernel,by decide +kernel,by decide +kernel,by decide +kernel,by decide +kernel,rfl,rfl⟩) rfl rfl (Jpp rfl T.b_enumerate (Z7 (Jfb c_Table__rises (hr.mono (by decide)) (pv 0) (Jb (pv 1) Jc)) Jc)) (λ _ _ _ _=>(Wl (K':=K) (i:=0) (j:=1) rfl (show (["place","rise","self"]:List Str).Nodup by decide +kernel) ⟨rfl,(Qa rfl),(Qw rfl)⟩ ⟨rfl,(Qa rfl),(Qw rfl)⟩ rfl)) (λ _ _ _ _=>Ja9 (Jx Ji6 (pv 1) Jd (J2 _))) (λ _ _ _ _=>(@PEs.out _ _ _ (Zy (Jdv (J6 (Jj (Jb4 (K':=K) rfl) (J8 (K':=K) rfl (pv 2)) (pv 0) (λ _ _=>rfl))) (Y7 (J6 (pv 0)) Jw))))))
  (@Ji _ _ _ (@Js _ _ _ _ (Jgq (Jy4 (pv 2) (λ _=>rfl)) (Jj Jz (Jy (Jrh rfl hr.units) rfl T.b_min boot_min (Jb (pv 2) Jc)) Jd (λ _ _=>rfl)) Ba)))),J1 h ?_⟩
 rintro as n' P ⟨z,T,m,n,W,rfl,sh,inj,q1,q2⟩
 have hs:sizeLine=16777216:=J9p
 have mm:=sh.mm
 have nn:=sh.nn
 refine ⟨rfl,?_⟩
 refine ⟨Jcs (m:="rises") (by decide),z,T,m,n,W,rfl,sh,_,_,rfl,rfl,?_⟩
 rw [Jwk]
 refine ⟨⟨rfl,by rw [Qb,Q2];omega⟩,?_⟩
 have fat:∀ {j:Nat},j<n->atI (T.fr.map Jq) ((j:Nat):Int)=some (Jq (T.f j)):=λ {j} hj=>by
  have h1:j<T.fr.length:=by rw [sh.lf];exact hj
  refine Yi (by omega) ?_
  unfold Tb.Tab.f
  rw [Q0,Qk,Qf h1,Qi,Qf h1]
  rfl
 refine Jd6 (p:=λ j=>decide (0<T.rise m W j)) (h:=λ j=>Jhz ((T.f j:Int),(j:Int))) (λ j hj K k1 k2=>⟨rfl,rfl,Y4 (λ c=>Jgk Y ⟨_,fat (Xj.mp hj),Jax,k1 c⟩) (λ c=>k2 c)⟩) ?_
 refine ⟨_,.fz 2 _ rfl .refl,?_⟩
 have mem:∀ {j:Nat},j∈(Qn n).filter (λ j=>decide (0<T.rise m W j))↔j<n/\0<T.rise m W j:=λ {j}=>by rw [X7,Xj,decide_eq_true_iff]
 have nd:((Qn n).filter λ j=>decide (0<T.rise m W j)).Nodup:=List.nodup_range.filter _
 generalize (Qn n).filter (λ j=>decide (0<T.rise m W j))=js at *
 have nrm:js.map (λ j=>Jhz ((T.f j:Int),(j:Int)))=(js.map λ j=>((T.f j:Int),(j:Int))).map Jhz:=by rw [Qy];rfl
 rw [nrm]
 by_cases hn:js=[]
 . subst hn
   refine Jdz rfl (q2 λ j hj=>?_)
   have:=mt (λ h=>mem.mpr ⟨hj,h⟩) (Uf)
   omega
 . refine Jl8 ?_ ⟨_,rfl,by simpa using hn,?_,λ r hr hmin=>⟨_,rfl,?_⟩⟩
   . cases js with
     | nil=>exact absurd rfl hn
     | cons a l=>rfl
   . rw [Qy]
     refine J32.mpr (nd.imp_of_mem λ {a b} ha hb hne e=>hne ?_)
     have e:(T.f a:Int)=(T.f b:Int):=e
     exact inj a b (mem.mp ha).1 (mem.mp hb).1 (by exact_mod_cast e)
   . obtain ⟨k,hk,rfl⟩:=Qo.mp hr
     refine q1 k (mem.mp hk).1 (mem.mp hk).2 λ j hj hp=>?_
     have:(T.f k:Int)<=(T.f j:Int):=hmin _ (Qo.mpr ⟨j,mem.mpr ⟨hj,hp⟩,rfl⟩)
     exact_mod_cast this
theorem Z5:FnScope ["self","at","other","place","row","than","soon","late"] ["self","at","other","place"] (Je We):=⟨rfl,rfl,rfl,by decide +kernel,rfl,by decide +kernel,by decide +kernel⟩
theorem Jbt {C:Addr}(T:Txt mg) (Y:TableOk K C) (D:DefM K C "comes_first" "Table.comes_first" We ["self","at","other","place"]):Wc P w K mg base C "comes_first" 1 ["self","at","other","place"] (Jm (Jk5 C)):=by
 refine D.cal Y.c λ f fd F=>F.ok Z5 (J5 ?_) (λ cdv A outer s H vs Q E hr h=>?_)
 . rintro as n P ⟨z,T,m,n,a,o,k,rfl,_⟩
   rfl
 refine ⟨_,(@Ja _ _ _ _ _ (Jnn (i:=4) (j:=5) rfl Z5.nd rfl rfl (by decide) rfl rfl (Yh (Jj Jr (J8 (K':=K) rfl (pv 0)) (pv 1) (λ _ _=>rfl)) (Yh (Jj Jr (J8 (K':=K) rfl (pv 0)) (pv 2) (λ _ _=>rfl)) Jc)) rfl)
  (@Ja _ _ _ _ _ (Jnn (i:=6) (j:=7) rfl Z5.nd rfl rfl (by decide) rfl rfl (B1 (Ju Jcp (Jj Jr (pv 4) (Bk Wr Jd) (λ _ _=>rfl)) (Jj Jr (pv 5) (pv 3) (λ _ _=>rfl))) (B1 (Ju Jcp (Jj Jr (pv 5) (Bk Wr Jd) (λ _ _=>rfl)) (Jj Jr (pv 4) (pv 3) (λ _ _=>rfl))) Jc)) rfl)
  (@Ji _ _ _ (@Js _ _ _ _ (Jw5 (Wi Jbx (pv 6) (pv 7) (J2 _)) (Jes (Jjz (Wi Jc0 (pv 6) (pv 7) (J2 _)) (Jes (Wi Jbx (Jj Jr (J8 (K':=K) rfl (pv 0)) (pv 1) (λ _ _=>rfl)) (Jj Jr (J8 (K':=K) rfl (pv 0)) (pv 2) (λ _ _=>rfl)) (J2 _)))))))))),J1 h ?_⟩
 rintro as n' P ⟨z,T,m,n,a,o,k,rfl,sh,ha,ho,hk,q⟩
 refine ⟨rfl,Jbj Y ⟨_,Jh2 sh ha,Jbj Y ⟨_,Jh2 sh ho,_,_,rfl,⟨[.d (Wn C z T),.d (Jq a),.d (Jq o),.d (Jq k),.d (Yz (T.row a)),.d (Yz (T.row o)),.jnk,.jnk],.eq rfl,?_⟩⟩⟩⟩
 refine ⟨_,Jug sh ha,_,Jwl sh ho (by omega),Vt (Jgm sh ha (Ql _)) (Jgm sh ho (by omega)),_,Jug sh ho,_,Jwl sh ha (by omega),Vt (Jgm sh ho (Ql _)) (Jgm sh ha (by omega)),_,_,rfl,⟨[.d (Wn C z T),.d (Jq a),.d (Jq o),.d (Jq k),.d (Yz (T.row a)),.d (Yz (T.row o)),.d (.int (T.e a n*T.e o k)),.d (.int (T.e o n*T.e a k))],.eq rfl,?_⟩⟩
 unfold Jh1 at q
 generalize T.e a n*T.e o k=soon at *
 generalize T.e o n*T.e a k=late at *
 refine Y4 (λ c1=>?_) (λ c1=>?_)
 . rw [c1,J81] at q
   exact q
 . rw [c1,J82] at q
   refine Jjj (Y4 (λ c2=>?_) (λ c2=>?_))
   . rw [c2,J6j] at q
     refine Jed Y ⟨_,Jx1 sh ha,Jed Y ⟨_,Jx1 sh ho,?_⟩⟩
     show P (.bool (decide ((T.b a:Int)<(T.b o:Int)))) n'
     rw [show decide ((T.b a:Int)<(T.b o:Int))=decide (T.b a<T.b o) from decide_eq_decide.mpr ⟨λ h=>by omega,λ h=>by omega⟩]
     exact q
   . rw [c2,J37] at q
     exact q
theorem Zb:FnScope ["self","place","first","at","row"] ["self","place"] (Je Wf):=⟨rfl,rfl,rfl,by decide +kernel,rfl,by decide +kernel,by decide +kernel⟩
theorem Jbu {C:Addr}(T:Txt mg) (Y:TableOk K C) (D:DefM K C "row_to_free" "Table.row_to_free" Wf ["self","place"]) (c_Table__comes_first:Wc P w K mg base C "comes_first" 1 ["self","at","other","place"] (Jm (Jk5 C))):Wc P w K mg base C "row_to_free" 2 ["self","place"] (Jm (Jff C)):=by
 refine D.cal Y.c λ f fd F=>F.ok Zb (J5 ?_) (λ cdv A outer s H vs Q E hr h=>?_)
 . rintro as n P ⟨z,T,m,n,k,rfl,_⟩
   rfl
 refine ⟨_,(@Ja _ _ _ _ _ (J0 (i:=2) Zb.nd rfl (Qa rfl) Ba)
  (@Ja _ _ _ _ _ (Zt Xm rfl (Jpp rfl T.b_enumerate (Jag (J8 (K':=K) rfl (pv 0)) Jc)) (Wl (K':=K) (i:=3) (j:=4) rfl Zb.nd ⟨rfl,(Qa rfl),(Qa rfl)⟩ ⟨rfl,(Qa rfl),(Qa rfl)⟩ rfl)
  (@Ji _ _ _ (Zd (PW.pt (Jc4 (Jx Ji6 (Jj Jr (pv 4) (pv 1) (λ _ _=>rfl)) Jd (J2 _)) (Ja4 (PW.pt (Jbs (Jx Jgs (pv 2) Ba (J2 _)) (Jal (Z3 (Jfb c_Table__comes_first (hr.mono (by decide)) (pv 0) (Jb (pv 3) (Jb (pv 2) (Jb (pv 1) Jc))))))))))) (@Ji _ _ _ (J0 (i:=2) Zb.nd rfl (Qa rfl) (pv 3))) J9)))
  (@Ji _ _ _ (@Js _ _ _ _ (pv 2))))),J1 h ?_⟩
 rintro as n' P ⟨z,T,m,n,k,rfl,sh,hk,q⟩
 refine ⟨rfl,_,.refl,Jbj Y ⟨_,_,rfl,rfl,?_⟩⟩
 refine ⟨λ i env j=>j=n'/\∃ x y:Vl,env=[.d (Wn C z T),.d (Jq k),.d (Jzm (rf T n k i)),x,y],⟨rfl,_,_,rfl⟩,?_,?_⟩
 . rintro i x env j hx ⟨rfl,_,_,rfl⟩
   obtain ⟨hi,rfl⟩:=Jwm sh hx
   refine ⟨rfl,rfl,_,Jwl sh hi (by omega),?_⟩
   refine Y4 (λ c=>?_) (λ c=>?_)
   . have c:=of_decide_eq_true c
     cases e:rf T n k i with
     | none=>
      refine ⟨rfl,Jad ⟨rfl,.d (Jq i),.d (Yz (T.row i)),?_⟩⟩
      rw [show rf T n k (i+1)=some i by rw [rf,e];simp only;rw [if_pos c]]
      rfl
     | some o=>
      have ho:=Jp7 k e
      refine ⟨rfl,Wk ⟨Jcs (m:="comes_first") (by decide),z,T,m,n,i,o,k,rfl,sh,hi,by omega,hk,?_⟩⟩
      refine Y4 (λ c2=>⟨rfl,.d (Jq i),.d (Yz (T.row i)),?_⟩) (λ c2=>⟨rfl,.d (Jq i),.d (Yz (T.row i)),?_⟩)
      . rw [show rf T n k (i+1)=some i by rw [rf,e];simp only;rw [if_pos ⟨c,c2⟩]]
        rfl
      . rw [show rf T n k (i+1)=some o by rw [rf,e];simp only;rw [if_neg λ z=>by rw [z.2] at c2;cases c2]]
        rfl
   . have c:=of_decide_eq_false c
     refine ⟨rfl,.d (Jq i),.d (Yz (T.row i)),?_⟩
     rw [show rf T n k (i+1)=rf T n k i by
      rw [rf]
      cases rf T n k i with
      | none=>simp only;rw [if_neg c]
      | some o=>simp only;rw [if_neg λ z=>c z.1]]
     rfl
 . rintro env j ⟨rfl,_,_,rfl⟩
   have:(Jdy (T.rows.map Yz)).length=m:=by unfold Jdy;rw [J77,Qb,sh.lr]
   rw [this]
   exact ⟨_,.refl,q⟩
theorem Ja3:FnScope ["self","shares","purses"] ["self","shares"] (Je Bg):=⟨rfl,rfl,rfl,by decide +kernel,rfl,by decide +kernel,by decide +kernel⟩
theorem Jfl {C:Addr}(T:Txt mg) (Y:TableOk K C) (D:DefM K C "as_sum" "Table.as_sum" Bg ["self","shares"]):Wc P w K mg base C "as_sum" 1 ["self","shares"] (Jm (Jk6 C)):=by
 refine D.cal Y.c λ f fd F=>F.ok Ja3 (J5 ?_) (λ cdv A outer s H vs Q E hr h=>?_)
 . rintro as n P ⟨z,T,u,xs,rfl,_⟩
   rfl
 refine ⟨_,(@Ja _ _ _ _ _ (J0 (i:=2) Ja3.nd rfl (Qa rfl) (Ju Bx (J8 (K':=K) rfl (pv 0)) (J8 (K':=K) rfl (pv 0))))
  (@Ji _ _ _ (@Js _ _ _ _ (@PEs.out _ _ _ (Zy (Wv (J6 (Yc Yx rfl T.b_tuple J9x (Yh (Jas Jcn (pv 1) Jcl (Jcm (pv 2))) Jc))) (Wv (J6 (Yc Yx rfl T.b_tuple J9x (Yh (Jas Jcn (pv 1) (Jcm (pv 2)) Jcl) Jc))) Jw))))))),J1 h ?_⟩
 rintro as n' P ⟨z,T,u,xs,rfl,hu,hl,q⟩
 refine ⟨rfl,J1g Y (Jud Y ⟨[.d (Wn C z T),.d (Yz xs),.d (Jq u)],.eq (by rw [hu];rfl),?_⟩)⟩
 have hs:sizeLine=16777216:=J9p
 refine ⟨Jax,?_⟩
 rw [Jjh,Je1,<- J4j,<- J3y]
 exact q
theorem Wt:FnScope ["self","place","told","name","row"] ["self","place"] (Je W6):=⟨rfl,rfl,rfl,by decide +kernel,rfl,by decide +kernel,by decide +kernel⟩
theorem Jcz {C:Addr}(T:Txt mg) (Y:TableOk K C) (D:DefM K C "counts_by" "Table.counts_by" W6 ["self","place"]) (Gc:Cal P w K mg base "without_divisor" 2 ["numbers"] (Z9 Jgj)):Wc P w K mg base C "counts_by" 3 ["self","place"] (Jm (Jee C)):=by
 refine D.cal Y.c λ f fd F=>F.ok Wt (J5 ?_) (λ cdv A outer s H vs Q E hr h=>?_)
 . rintro as n P ⟨T,m,n,k,nw,nr,be,rfl,_⟩
   rfl
 refine ⟨_,(@Ja _ _ _ _ _ (J0 (i:=2) Wt.nd rfl (Qa rfl) (Ju Ja7 (@PEs.out _ _ _ (Yd (Jt Ya Jw))) (J8 (K':=K) rfl (pv 0))))
  (@Ja _ _ _ _ _ (Yn (J8 (K':=K) rfl (pv 0)) (Zs (pv 2) (Jj Jr (J8 (K':=K) rfl (pv 0)) (pv 1) (λ _ _=>rfl)) Yq ))
  (@Ja _ _ _ _ _ (Zt Xm rfl (Jbc rfl T.b_zip (Jag (J8 (K':=K) rfl (pv 0)) (Jag (J8 (K':=K) rfl (pv 0)) Jc))) (Wl (K':=K) (i:=3) (j:=4) rfl Wt.nd ⟨rfl,(Qa rfl),(Qa rfl)⟩ ⟨rfl,(Qa rfl),(Qa rfl)⟩ rfl)
  (@Ji _ _ _ (Yn (Bk Wr (Jj Jr (pv 4) (pv 1) (λ _ _=>rfl))) (Zs (pv 2) (pv 3) Yq (λ v=>J3 _ _ _ _ _ v)))))
  (@Ji _ _ _ (@Js _ _ _ _ (Yc Yx rfl T.b_tuple J9x (Z7 (Y2 Gc (hr.mono (by decide)) rfl (Yh (Jas Jcn (pv 2) Jcl (Jcm (J8 (K':=K) rfl (pv 0)))) Jc)) Jc))))))),J1 h ?_⟩
 rintro as n' P ⟨T,m,n,k,nw,nr,be,rfl,sh,N,hk,h1,h2,g0,g1,q⟩
 have hs:sizeLine=16777216:=J9p
 have one:(1:Nat)<=sizeLine:=by rw [hs];decide
 refine ⟨rfl,one,Jxz Y ⟨⟨by show (-2^63:Int)<=(be:Int);omega,by show (be:Int)<2^63;omega,by show 1*(be:Int).toNat<=_;omega⟩,?_⟩⟩
 rw [show ((be:Nat):Int).toNat=be from Q0 _,Jd1]
 refine ⟨_,.refl,Jue Y (Jgk Y ⟨_,J1j sh hk,T.f k,B2 (by omega) (by rw [Ub];have:=N.fl k hk;omega),?_⟩)⟩
 rw [show (Qr be (Qp 0)).set (T.f k) (.int T.q)=(dl T be k 0).map .int by rw [<- Jwn (N.fl k hk),X6,J2r]]
 refine ⟨[.d (Wn C ⟨(nw:Int),(nr:Int),(be:Int)⟩ T),.d (Jq k),.own ((dl T be k 0).map .int),.jnk,.jnk],.eq rfl,Jed Y (Jbj Y ⟨_,_,_,_,rfl,rfl,rfl,?_⟩)⟩
 refine ⟨λ i env j=>j=n'/\∃ x y:Vl,env=[.d (Wn C ⟨(nw:Int),(nr:Int),(be:Int)⟩ T),.d (Jq k),.own ((dl T be k i).map .int),x,y],⟨rfl,_,_,rfl⟩,?_,?_⟩
 . rintro i x env j hx ⟨rfl,_,_,rfl⟩
   obtain ⟨hi,rfl⟩:=Juf sh hx
   refine ⟨rfl,rfl,_,Jwl sh hi (by omega),T.b i,B2 (by omega) (by rw [Qb,Jh3];have:=N.bl i hi;omega),rfl,.d (Jq (T.b i)),.d (Yz (T.row i)),?_⟩
   rw [<- Jwo N hk hi,X6]
   rfl
 . rintro env j ⟨rfl,_,_,rfl⟩
   have lz:(Vf (T.bd.map Jq) (T.rows.map Yz)).length=m:=by rw [V6,Qb,Qb,sh.lb,sh.lr];omega
   rw [lz]
   have cut:Jil ((dl T be k m).map Qp) none (some ((nw:Nat):Int))=((Qn nw).map (T.dir m k)).map .int:=by
    rw [Jjh,Jwp,<- J4j,<- J4j,List.take_range,J59 h1]
   refine ⟨_,.refl,Jud Y ⟨(Qn nw).map (T.dir m k),by rw [cut],by rw [Qb,Q2];omega,g0,g1,?_⟩⟩
   rw [Qy]
   exact q
theorem Wp:FnScope ["self","wanted","told","name","rise"] ["self","wanted"] (Je Bf):=⟨rfl,rfl,rfl,by decide +kernel,rfl,by decide +kernel,by decide +kernel⟩
theorem Jfm {C:Addr}(T:Txt mg) (Y:TableOk K C) (D:DefM K C "shares" "Table.shares" Bf ["self","wanted"]) (c_Table__rises:Wc P w K mg base C "rises" 1 ["self","wanted"] (Z9 (Jgl C))):Wc P w K mg base C "shares" 2 ["self","wanted"] (Z9 (Jh6 C)):=by
 refine D.cal Y.c λ f fd F=>F.ok Wp (Bu ?_) (λ cdv A outer s H vs Q E hr h=>?_)
 . rintro as n P ⟨T,m,n,nw,nr,be,W,rfl,_⟩
   rfl
 refine ⟨_,(@Ja _ _ _ _ _ (J0 (i:=2) Wp.nd rfl (Qa rfl) (Ju Ja7 (@PEs.out _ _ _ (Yd (Jt Ya Jw))) (J8 (K':=K) rfl (pv 0))))
  (@Ja _ _ _ _ _ (Zt Xm rfl (Zq (pv 1)) (Jv (i:=3) Wp.nd rfl (Qa rfl) (Qa rfl))
  (@Ji _ _ _ (Yn (J8 (K':=K) rfl (pv 0)) (Zs (pv 2) (pv 3) Yq (λ v=>J3 _ _ _ _ _ v)))))
  (@Ja _ _ _ _ _ (Zt Xm rfl (Jbc rfl T.b_zip (Jag (J8 (K':=K) rfl (pv 0)) (Z7 (Jfb c_Table__rises (hr.mono (by decide)) (pv 0) (Jb (pv 1) Jc)) Jc))) (Wl (K':=K) (i:=3) (j:=4) rfl Wp.nd ⟨rfl,(Qa rfl),(Qa rfl)⟩ ⟨rfl,(Qa rfl),(Qa rfl)⟩ rfl)
  (@Ji _ _ _ (Yn (Bk Wr (pv 4)) (Zs (pv 2) (pv 3) Yq (λ v=>J3 _ _ _ _ _ v)))))
  (@Ji _ _ _ (@Js _ _ _ _ (Jas Jcn (pv 2) (Jcm (J8 (K':=K) rfl (pv 0))) Jcl)))))),Vs h ?_⟩
 rintro as n' P ⟨T,m,n,nw,nr,be,W,rfl,sh,N,hw,h1,h2,q⟩
 have hs:sizeLine=16777216:=J9p
 have one:(1:Nat)<=sizeLine:=by rw [hs];decide
 refine ⟨rfl,one,Jxz Y ⟨⟨by show (-2^63:Int)<=(be:Int);omega,by show (be:Int)<2^63;omega,by show 1*(be:Int).toNat<=_;omega⟩,?_⟩⟩
 rw [show ((be:Nat):Int).toNat=be from Q0 _,Jd1,show Qr be (Qp 0)=(wl T.q be []).map .int by rw [<- Jzo,J2r]]
 refine ⟨_,.refl,?_⟩
 refine Jy2 (λ e j=>j=n'/\∃ x:Vl,e=[.d (Wn C ⟨(nw:Int),(nr:Int),(be:Int)⟩ T),.d (.list (W.map Jq)),.own ((wl T.q be W).map .int),x,.jnk]) (λ M hM=>?_) ?_
 . refine ⟨λ i env j=>j=n'/\∃ x:Vl,env=[.d (Wn C ⟨(nw:Int),(nr:Int),(be:Int)⟩ T),.d (.list (W.map Jq)),.own ((wl T.q be (W.take i)).map .int),x,.jnk],⟨rfl,_,rfl⟩,?_,?_⟩
   . rintro i x env j hx ⟨rfl,_,rfl⟩
     rw [Qk] at hx
     obtain ⟨w0,hw0,rfl⟩:=X2.mp hx
     have lt:=hw w0 (Xb hw0)
     refine Jue Y ⟨w0,B2 (by omega) (by rw [Qb,Jh4];omega),rfl,.d (Jq w0),?_⟩
     rw [J4x,hw0]
     show _=[_,_,Vl.own ((wl T.q be (W.take i++[w0])).map .int),_,_]
     rw [<- Jwq lt,X6]
     rfl
   . rintro env j ⟨rfl,x,rfl⟩
     rw [Qb,J47]
     exact hM _ _ ⟨rfl,x,rfl⟩
 rintro _ j ⟨rfl,x,rfl⟩
 rw [Jwr (m:=m)]
 refine ⟨_,.refl,Jgk Y ⟨Jcs (m:="rises") (by decide),_,T,m,n,W,rfl,sh,_,_,_,_,rfl,rfl,rfl,?_⟩⟩
 refine ⟨λ i env k=>k=j/\∃ x y:Vl,env=[.d (Wn C ⟨(nw:Int),(nr:Int),(be:Int)⟩ T),.d (.list (W.map Jq)),.own ((sl T m be W i).map .int),x,y],⟨rfl,_,_,rfl⟩,?_,?_⟩
 . rintro i x env k hx ⟨rfl,_,_,rfl⟩
   obtain ⟨hi,rfl⟩:=Jzp sh hx
   refine ⟨rfl,rfl,T.f i,B2 (by omega) (by rw [Qb,Jh5];have:=N.fl i hi;omega),rfl,.d (Jq (T.f i)),.d (.int (T.rise m W i)),?_⟩
   rw [<- Jws N hi,X6]
   rfl
 . rintro env k ⟨rfl,_,_,rfl⟩
   have lz:(Vf (T.fr.map Jq) (((Qn n).map (T.rise m W)).map .int)).length=n:=by rw [V6,Qb,Qb,Qb,Q2,sh.lf];omega
   rw [lz]
   refine ⟨_,.refl,Jud Y ?_⟩
   show P (Jil ((sl T m be W n).map Qp) (some ((nw:Nat):Int)) none) k
   rw [Je1,<- J3y]
   exact q
theorem Jdp:FnScope ["self","wanted"] ["self","wanted"] (Je Vj):=⟨rfl,rfl,rfl,by decide +kernel,rfl,by decide +kernel,by decide +kernel⟩
theorem Jdq {C:Addr}(T:Txt mg) (Y:TableOk K C) (D:DefM K C "read_sum" "Table.read_sum" Vj ["self","wanted"]) (c_Table__as_sum:Wc P w K mg base C "as_sum" 1 ["self","shares"] (Jm (Jk6 C))) (Gc:Cal P w K mg base "without_divisor" 2 ["numbers"] (Z9 Jgj)) (c_Table__shares:Wc P w K mg base C "shares" 2 ["self","wanted"] (Z9 (Jh6 C))):Wc P w K mg base C "read_sum" 3 ["self","wanted"] (Jm (Ja0 C)):=by
 refine D.cal Y.c λ f fd F=>F.ok Jdp (J5 ?_) (λ cdv A outer s H vs Q E hr h=>?_)
 . rintro as n P ⟨T,m,n,nw,nr,be,W,rfl,_⟩
   rfl
 refine ⟨_,(@Ji _ _ _ (@Js _ _ _ _ (Jfb c_Table__as_sum (hr.mono (by decide)) (pv 0) (Z7 (Y2 Gc (hr.mono (by decide)) rfl (Z7 (Jfb c_Table__shares (hr.mono (by decide)) (pv 0) (Jb (pv 1) Jc)) Jc)) Jc)))),J1 h ?_⟩
 rintro as n' P ⟨T,m,n,nw,nr,be,W,rfl,sh,N,hw,h1,h2,h3,g0,g1,q⟩
 have ll:((sl T m be W n).drop nw).length<=1000:=by rw [J3q,Jh5];omega
 refine ⟨rfl,Jcs (m:="as_sum") (by decide),Jcs (m:="shares") (by decide),T,m,n,nw,nr,be,W,rfl,sh,N,hw,h1,h2,(sl T m be W n).drop nw,rfl,by omega,g0,g1,?_⟩
 exact ⟨_,T,nr-nw,_,rfl,by show (nr:Int)-(nw:Int)=_;omega,by rw [Qb];exact ll,q⟩
theorem W7:FnScope ["self","at","place","row","rows"] ["self","at","place"] (Je Wb):=⟨rfl,rfl,rfl,by decide +kernel,rfl,by decide +kernel,by decide +kernel⟩
theorem Jdr {C:Addr}(T:Txt mg) (Y:TableOk K C) (D:DefM K C "exchange" "Table.exchange" Wb ["self","at","place"]) (c_Table__without:Wc P w K mg base C "without" 1 ["self","other","row","place"] (Z9 (Joo C))):Wc P w K mg base C "exchange" 2 ["self","at","place"] (Jzs C):=by
 refine D.cal Y.c λ f fd F=>F.ok W7 (λ vs H Q E h=>by obtain ⟨xx,p,fa,ba,z,T,m,n,l,k,rfl,_⟩:=h;rfl) (λ cdv A outer s H vs Q E hr h=>?_)
 refine ⟨_,(@Ja _ _ _ _ _ (J0 (i:=3) W7.nd rfl (Qw rfl) (Jj Jr (J8 (K':=K) rfl (pv 0)) (pv 1) (λ _ _=>rfl)))
  (@Ja _ _ _ _ _ (Jum (W2 (i:=4) (sc:=(Je Wb)) (N:=["self","at","place","row","rows"]) (N':=["other","self","row","place"]) (k:=1) (idx:=[0,3,2]) rfl W7.nd rfl rfl (by exact ⟨rfl,by decide +kernel,by decide +kernel,by decide +kernel,by decide +kernel,by decide +kernel,rfl,rfl⟩) rfl rfl (Zq (J8 (K':=K) rfl (pv 0))) (λ _ _ _ _=>(Jv (i:=0) (show (["other","self","row","place"]:List Str).Nodup by decide +kernel) rfl (Qa rfl) (Qw rfl))) (λ _ _ _ _=>Yy) (λ _ _ _ _=>(Jfb c_Table__without (hr.mono (by decide)) (pv 1) (Jb (pv 0) (Jb (pv 2) (Jb (pv 3) Jc)))))))
  (@Ja _ _ _ _ _ (Jps (Yn (Yc Zx rfl T.b_list J93 (Jb (pv 3) Jc)) (Zs (pv 4) (pv 1) Yq (λ v=>J3 _ _ _ _ _ v))))
  (@Ja _ _ _ _ _ (Yn (J8 (K':=K) rfl (pv 0)) (Zs (Jj Jr (pv 4) (pv 1) (λ _ _=>rfl)) (pv 2) Yq (λ v=>J3 _ _ _ _ _ v)))
  (@Ja _ _ _ _ _ (Ja5 (pv 0) (pv 4) rfl)
  (@Ja _ _ _ _ _ (Ja5 (pv 0) (Jj Jr (pv 3) (pv 2) (λ _ _=>rfl)) rfl)
  (@Ji _ _ _ (Yn (@PEs.out _ _ _ (Zy (Jdv (J6 (Jj Jr (J8 (K':=K) rfl (pv 0)) (pv 1) (λ _ _=>rfl))) (Jdv (J6 (Jj Jr (J8 (K':=K) rfl (pv 0)) (pv 2) (λ _ _=>rfl))) Jw)))) (Jnl (n:=2) rfl (Vc (Zs (J8 (K':=K) rfl (pv 0)) (pv 2) Yq (λ v=>J3 _ _ _ _ _ v)) (Vc (Zs (J8 (K':=K) rfl (pv 0)) (pv 1) Yq (λ v=>J3 _ _ _ _ _ v)) Jgb))))))))))),?_⟩
 obtain ⟨xx,p,fa,ba,z,T,m,n,l,k,rfl,hT,sh,hl,hk,q⟩:=h
 have hs:sizeLine=16777216:=J9p
 have mm:=sh.mm
 have nn:=sh.nn
 refine J2i (Jzt (N:=["self","at","place","row","rows"]) (as:=[.pin (.ref p) (Wn C z T),.d (Jq l),.d (Jq k)]) (P:=Jx2 C p z T l k) ⟨⟨rfl,Rep.nil (hT.rep (by rw [sh.lf];omega) (by rw [sh.lb];omega))⟩,⟨_,rfl,.int _⟩,⟨_,rfl,.int _⟩,trivial⟩ rfl ?_ (λ ex env σ H' n' A hP=>Jwu Y hT sh hl hk A hP q))
 have hlr:l<T.rows.length:=by rw [sh.lr];exact hl
 refine Jbj Y ⟨_,Jh2 sh hl,_,.refl,Jbj Y ⟨⟨rfl,by rw [Qb,sh.lr];omega⟩,?_⟩⟩
 refine Jm1 (λ o=>(Tb.Jcb T.q (T.row l) o k).map .int) T.rows (λ o ho K hK=>⟨Jcs (m:="without") (by decide),z,T,o,T.row l,k,rfl,?_,?_,?_,sh.small o ho,sh.small _ ?_,sh.q0,sh.q1,hK⟩) ?_
 . obtain ⟨i,hi⟩:=Ur.mp ho
   have il:=(Qt.mp hi).1
   rw [sh.lr] at il
   have:=sh.lw i il
   unfold Tb.Tab.row at this
   rw [Qi,hi] at this
   have this:o.length=n+1:=this
   omega
 . rw [sh.lw l hl];omega
 . obtain ⟨i,hi⟩:=Ur.mp ho
   have il:=(Qt.mp hi).1
   rw [sh.lr] at il
   have:=sh.lw i il
   unfold Tb.Tab.row at this
   rw [Qi,hi] at this
   have this:o.length=n+1:=this
   omega
 . unfold Tb.Tab.row
   rw [Qi,Qf hlr]
   exact Xp _
 intro ps hps
 have lps:ps.length=T.rows.length:=by have:=congrArg J3p hps;rwa [Qb,Qb] at this
 refine ⟨_,.refl,?_⟩
 refine ⟨l,B2 (by omega) (by omega),λ b=>?_⟩
 refine ⟨_,.refl,Jue Y ⟨l,(b,(T.row l).map .int),B2 (by omega) (by rw [Qs];omega),by rw [Q8 (by omega)],k,B2 (by omega) (by rw [Qb,sh.lw l hl];omega),?_⟩⟩
 refine ⟨_,rfl,?_⟩
 rw [J6m,X6,hps]
 unfold Tb.Tab.ex
 rw [X6,X6,Qy]
 rfl
theorem Zl:FnScope ["self","wanted","place","at"] ["self","wanted"] (Je Ws):=⟨rfl,rfl,rfl,by decide +kernel,rfl,by decide +kernel,by decide +kernel⟩
theorem Jcj {C:Addr}(T:Txt mg) (Y:TableOk K C) (D:DefM K C "find_round" "Table.find_round" Ws ["self","wanted"]) (c_Table__place_to_raise:Wc P w K mg base C "place_to_raise" 2 ["self","wanted"] (Jm (Jct C))) (c_Table__row_to_free:Wc P w K mg base C "row_to_free" 2 ["self","place"] (Jm (Jff C))) (c_Table__counts_by:Wc P w K mg base C "counts_by" 3 ["self","place"] (Jm (Jee C))) (c_Table__exchange:Wc P w K mg base C "exchange" 2 ["self","at","place"] (Jzs C)):Wc P w K mg base C "find_round" 4 ["self","wanted"] (Jk8 C):=by
 refine D.cal Y.c λ f fd F=>F.ok Zl (λ vs H Q E h=>by obtain ⟨ex,p,fa,ba,nw,nr,be,m,n,c,T,W,some,wv,rfl,_⟩:=h;rfl) (λ cdv A outer s H vs Q E hr h=>?_)
 refine ⟨_,(@Ja _ _ _ _ _ (J0 (i:=2) Zl.nd rfl (Qa rfl) (Jfb c_Table__place_to_raise (hr.mono (by decide)) (pv 0) (Jb (pv 1) Jc)))
  (@Ja _ _ _ _ _ (Jgr Xm (Jx Ju5 (pv 2) Ba (J2 _))
  (@Ja _ _ _ _ _ (J0 (i:=3) Zl.nd rfl (Qa rfl) (Jfb c_Table__row_to_free (hr.mono (by decide)) (pv 0) (Jb (pv 2) Jc)))
  (@Ja _ _ _ _ _ (Zd (Jx Jgs (pv 3) Ba (J2 _)) (@Ji _ _ _ (@Js _ _ _ _ (Jfb c_Table__counts_by (hr.mono (by decide)) (pv 0) (Jb (pv 2) Jc)))) J9)
  (@Ja _ _ _ _ _ (Bo (Jfb c_Table__exchange (hr.mono (by decide)) (pv 0) (Jb (pv 3) (Jb (pv 2) Jc))))
  (@Ji _ _ _ (J0 (i:=2) Zl.nd rfl (Qa rfl) (Jfb c_Table__place_to_raise (hr.mono (by decide)) (pv 0) (Jb (pv 1) Jc))))))))
  (@Ji _ _ _ (@Js _ _ _ _ Ba)))),?_⟩
 obtain ⟨ex,p,fa,ba,nw,nr,be,m,n,c,T0,W,ways,wv,rfl,hT,hw,S,hm,hn,h1,h2,hk,fit,qr,ql⟩:=h
 have t0:Turn C ex p fa ba ⟨(nw:Int),(nr:Int),(be:Int)⟩ m n be c W T0 H wv 0 T0 H:=⟨hT,hk,.refl,hw,λ _=>T0,λ _=>0,λ _=>0,Juk hk.ok,rfl,λ _ _=>hk.nm⟩
 let Pl:V->Tb.Tab->Prop:=λ pv T'=>(pv = .non/\Tb.Last m n W T')\/∃ k,pv=Y0 k/\k<n/\0<T'.rise m W k/\∀ j,j<n->0<T'.rise m W j->T'.f k<=T'.f j
 show Jaq _ _ _ [some (.ref p),some wv,none,none] H
 refine W3 (λ σ' H'=>∃ pv,σ'=[some (.ref p),some wv,some pv,none]/\Turn C ex p fa ba ⟨(nw:Int),(nr:Int),(be:Int)⟩ m n be c W T0 H wv 0 T0 H'/\Pl pv T0) (λ N hN=>?_) ?_
 . exact Jh9 S hm hn t0 rfl rfl (λ k H' a b c kp=>hN _ _ ⟨Y0 k,rfl,t0.keep kp,.inr ⟨k,rfl,a,b,c⟩⟩) (λ H' hl kp=>hN _ _ ⟨.non,rfl,t0.keep kp,.inl ⟨rfl,hl⟩⟩)
 rintro σ' H' ⟨pv,rfl,t1,pl⟩
 refine W3 (λ σ2 H2=>∃ N T',Turn C ex p fa ba ⟨(nw:Int),(nr:Int),(be:Int)⟩ m n be c W T0 H wv N T' H2/\Tb.Last m n W T') (λ N hN=>?_) ?_
 . refine ⟨λ μ σ2 H2=>∃ pv av N T',σ2=[some (.ref p),some wv,some pv,av]/\Turn C ex p fa ba ⟨(nw:Int),(nr:Int),(be:Int)⟩ m n be c W T0 H wv N T' H2/\Pl pv T'/\μ = be^m-N,⟨_,pv,none,0,T0,rfl,t1,pl,rfl⟩,?_⟩
   rintro μ σ2 H2 ⟨pv,av,N1,T1,rfl,t2,pl,rfl⟩
   rcases pl with ⟨rfl,hl⟩ | ⟨k,rfl,a,b,cf⟩
   . exact ⟨_,rfl,rfl,_,rfl,Jdz (by simp) (hN _ _ ⟨N1,T1,t2,hl⟩)⟩
   . refine ⟨_,rfl,rfl,_,rfl,Jl8 (by simp) ⟨λ σ' H'=>∃ μ',μ'<be^m-N1/\∃ pv av N T',σ'=[some (.ref p),some wv,some pv,av]/\Turn C ex p fa ba ⟨(nw:Int),(nr:Int),(be:Int)⟩ m n be c W T0 H wv N T' H'/\Pl pv T'/\μ'=be^m-N,λ σ' H' h=>h,?_⟩⟩
     refine W3 (λ σ' H'=>∃ av',σ'=[some (.ref p),some wv,some (Y0 k),some av']/\Turn C ex p fa ba ⟨(nw:Int),(nr:Int),(be:Int)⟩ m n be c W T0 H wv N1 T1 H'/\((av' = .non/\rf T1 n k m=none)\/∃ l,av'=Y0 l/\rf T1 n k m=some l)) (λ M hM=>?_) ?_
     . exact Jrk S hm hn t2 rfl rfl a (λ l H' e kp=>hM _ _ ⟨_,rfl,t2.keep kp,.inr ⟨l,rfl,e⟩⟩) (λ H' e kp=>hM _ _ ⟨_,rfl,t2.keep kp,.inl ⟨rfl,e⟩⟩)
     rintro σ3 H3 ⟨av',rfl,t3,hf⟩
     rcases hf with ⟨rfl,e⟩ | ⟨l,rfl,e⟩
     . refine ⟨_,rfl,rfl,_,rfl,Jl8 (by simp) ?_⟩
       have ry:=Jzr a b e
       have sh:=Jcd S t3.k.ok hm hn
       have hs:sizeLine=16777216:=J9p
       obtain ⟨dx,rv,o1,o2⟩:=t3.h.o
       obtain ⟨j,hj,jp⟩:=Jqa fit t3.k.tot t3.k.ok ry
       have jn:=fit.sm j hj
       have jm:T1.dir m k j∈(Qn nw).map (T1.dir m k):=Qo.mpr ⟨j,Xj.mpr jn,rfl⟩
       have jb:(T1.dir m k j).natAbs<2^9000:=Xd (Jju sh t3.k.ok a ((fit.names t3.k.tot j).mpr (.inr hj))) (J43 (by decide) (by decide))
       have j0:T1.dir m k j≠0:=by omega
       refine ⟨_,rfl,p,dx,_,rfl,o1,rfl,_,rfl,?_⟩
       refine Jef (sp:=Jee C) (E:=E0) (vs:=[Y0 k]) (as:=[.d (Jq k)]) t3.h (by rw [sh.lf];omega) (by rw [sh.lb];omega) ⟨⟨_,rfl,.int _⟩,trivial⟩ (P:=λ d _=>d = .tuple (((Qn nw).map (T1.dir m k)).map λ x=>.int (x/((Zc ((Qn nw).map (T1.dir m k)):Nat):Int)))) ⟨T1,m,n,k,nw,nr,be,rfl,sh,t3.k.nm,a,h1,h2,Jou jm j0,Jun jm j0 jb,rfl⟩ λ d n' v H' hp kp r=>?_
       subst hp
       exact qr H' T1 k v (t3.keep kp).h t3.k ry (t3.keep kp).kp r
     . refine ⟨_,rfl,rfl,_,rfl,Jdz (by simp) ?_⟩
       have st:=Jwt t3.k.ok a b cf e
       have sh:=Jcd S t3.k.ok hm hn
       obtain ⟨dx,rv,o1,o2⟩:=t3.h.o
       unfold Jrr
       dsimp only
       refine W3 (λ σ' H'=>σ'=[some (.ref p),some wv,some (Y0 k),some (Y0 l)]/\Turn C ex p fa ba ⟨(nw:Int),(nr:Int),(be:Int)⟩ m n be c W T0 H wv (N1+1) (T1.ex l k) H') (λ M hM=>?_) ?_
       . exact ⟨_,rfl,p,dx,_,rfl,o1,rfl,_,rfl,_,rfl,ex,p,fa,ba,_,T1,m,n,l,k,rfl,t3.h,sh,st.hl,a,λ H' hT' kp=>hM _ _ ⟨rfl,t3.next st hT' kp⟩⟩
       rintro σ4 H4 ⟨rfl,t4⟩
       have few:=t4.few
       refine Jh9 S hm hn t4 rfl rfl (λ k' H' a b c kp=>⟨_,?_,Y0 k',_,_,_,rfl,t4.keep kp,.inr ⟨k',rfl,a,b,c⟩,rfl⟩) (λ H' hl kp=>⟨_,?_,.non,_,_,_,rfl,t4.keep kp,.inl ⟨rfl,hl⟩,rfl⟩)
       . omega
       . omega
 . rintro σ2 H2 ⟨N,T',t,hl⟩
   exact ql H2 T' t.h t.k hl t.kp
theorem V0:FnScope ["book","stand","rooms","purses","ways","room","numbers"] ["book","stand"] (Je Wz):=⟨rfl,rfl,rfl,by decide +kernel,rfl,by decide +kernel,by decide +kernel⟩
theorem Jfn (T:Txt mg) (D:Def K mg "first_numbers" Wz ["book","stand"]):Cal P w K mg base "first_numbers" 1 ["book","stand"] (Z9 Jh8):=by
 refine D.cal λ f fd F=>F.ok V0 (Bu ?_) (λ cdv A outer s H vs Q E hr h=>?_)
 . rintro as n P ⟨R,U,ws,rfl,_⟩
   rfl
 refine ⟨_,(@Ja _ _ _ _ _ (Yn (pv 0) (Bp (K':=K) (i:=2) (j:=3) (m:=4) rfl V0.nd ⟨rfl,(Qa rfl),(Qa rfl)⟩ ⟨rfl,(Qa rfl),(Qa rfl)⟩ ⟨rfl,(Qa rfl),(Qa rfl)⟩ rfl))
  (@Ja _ _ _ _ _ (Zd (Jx Jgs (pv 1) Ba (J2 _)) (@Ji _ _ _ (@Js _ _ _ _ (Ju Ja7 (@PEs.out _ _ _ (Yd (Jt Ya Jw))) (Ju Zw (pv 3) (pv 2))))) J9)
  (@Ja _ _ _ _ _ (Yn (pv 1) (Wl (K':=K) (i:=5) (j:=6) rfl V0.nd ⟨rfl,(Qw rfl),(Qa rfl)⟩ ⟨rfl,(Qa rfl),(Qa rfl)⟩ rfl))
  (@Ji _ _ _ (@Js _ _ _ _ (Ju Jgx (Yc Zx rfl T.b_list J93 (Jb (pv 6) Jc)) (Y9 (sc:=(Je Wz)) (N:=["book","stand","rooms","purses","ways","room","numbers"]) (N':=["other","room"]) (k:=1) (idx:=[5]) rfl (by exact ⟨rfl,by decide +kernel,by decide +kernel,by decide +kernel,by decide +kernel,by decide +kernel,rfl,rfl⟩) rfl rfl (Yp rfl T.b_range (Jb (pv 2) Jc)) (λ _ _ _ _=>(Jv (i:=0) (show (["other","room"]:List Str).Nodup by decide +kernel) rfl (Qa rfl) (Qw rfl))) (λ _ _ _ _=>Yy) (λ _ _ _ _=>(Yc Jck rfl T.b_int Yak (Jj7 (Wi Jc0 (pv 0) (pv 1) (J2 _)) Jc)))))))))),Vs h ?_⟩
 rintro as n P ⟨R,U,ws,rfl,ok,q⟩
 have hs:sizeLine=16777216:=J9p
 have one:(1:Nat)<=sizeLine:=by rw [hs];decide
 have r0:=ok.r0
 have r1:=ok.r1
 have p0:=ok.p0
 have p1:=ok.p1
 refine ⟨rfl,rfl,rfl,_,.refl,rfl,Jad ⟨one,⟨by omega,by omega,by show 1*(U+R).toNat<=_;omega⟩,?_⟩⟩
 rw [Jmo]
 exact q
theorem Vm:FnScope ["self","book","some","stand","rooms","purses","ways","rows"] ["self","book","some","stand"] (Je Y5):=⟨rfl,rfl,rfl,by decide +kernel,rfl,by decide +kernel,by decide +kernel⟩
theorem Jii {C:Addr}(T:Txt mg) (Y:TableOk K C) (D:DefI2 K mg "Table" C "Table.__init__" Y5 ["self","book","some","stand"]) (Gj:Cal P w K mg base "first_numbers" 1 ["book","stand"] (Z9 Jh8)):Jm3 P w K mg base "Table" C 2 ["self","book","some","stand"] (Jlb C):=by
 refine D.cal λ f fd F=>F.ok Vm (λ vs H Q E h=>by obtain ⟨ex,x,dx,R,U,ws,ks,bv,sv,rfl,_⟩:=h;rfl) (λ cdv A outer s H vs Q E hr h=>?_)
 refine ⟨_,(@Ja _ _ _ _ _ (Yn (pv 1) (Bp (K':=K) (i:=4) (j:=5) (m:=6) rfl Vm.nd ⟨rfl,(Qa rfl),(Qa rfl)⟩ ⟨rfl,(Qa rfl),(Qa rfl)⟩ ⟨rfl,(Qw rfl),(Qa rfl)⟩ rfl))
  (@Ja _ _ _ _ _ (Ja5 (pv 0) (Jy J4 rfl T.b_len Xy (Jb (pv 6) Jc)) rfl)
  (@Ja _ _ _ _ _ (Ja5 (pv 0) (Ju Zw (Jy J4 rfl T.b_len Xy (Jb (pv 6) Jc)) (pv 5)) rfl)
  (@Ja _ _ _ _ _ (Ja5 (pv 0) (Ju Zw (Ju Zw (Jy J4 rfl T.b_len Xy (Jb (pv 6) Jc)) (pv 5)) (pv 4)) rfl)
  (@Ja _ _ _ _ _ (Ja5 (pv 0) (Yc Zx rfl T.b_list J93 (Jb (pv 2) Jc)) rfl)
  (@Ja _ _ _ _ _ (Ja5 (pv 0) (Jiu rfl rfl T.b_list rfl T.b_range (Jag (J8 (K':=K) rfl (pv 0)) (Jag (J8 (K':=K) rfl (pv 0)) Jc))) rfl)
  (@Ja _ _ _ _ _ (Jfy (i:=7) (sc:=(Je Y5)) (N:=["self","book","some","stand","rooms","purses","ways","rows"]) (N':=["p","some","ways"]) (k:=1) (idx:=[2,6]) rfl Vm.nd rfl rfl (by exact ⟨rfl,by decide +kernel,by decide +kernel,by decide +kernel,by decide +kernel,by decide +kernel,rfl,rfl⟩) rfl rfl (Yp rfl T.b_range (Jb (pv 5) Jc)) (λ _ _ _ _=>(Jv (i:=0) (show (["p","some","ways"]:List Str).Nodup by decide +kernel) rfl (Qw rfl) (Qa rfl))) (λ _ _ _ _=>Yy) (λ _ _ _ _=>(Y9 (sc:=Jvk _ (Je Y5)) (N:=["p","some","ways"]) (N':=["k","ways","p"]) (k:=1) (idx:=[2,0]) rfl (by exact ⟨rfl,by decide +kernel,by decide +kernel,by decide +kernel,by decide +kernel,by decide +kernel,rfl,rfl⟩) (Jyr rfl) rfl (by exact (Jm4 (K':=K) rfl (pv 1))) (λ _ _ _ _=>(Jv (i:=0) (show (["k","ways","p"]:List Str).Nodup by decide +kernel) rfl (Qa rfl) (Qw rfl))) (λ _ _ _ _=>Yy) (λ _ _ _ _=>(Bk Wr (Jj (Z8 (K':=K) rfl) (Jj (Z8 (K':=K) rfl) (Jj (Z8 (K':=K) rfl) (pv 1) (pv 0) (λ _ _=>rfl)) Jd (λ _ _=>rfl)) (pv 2) (λ _ _=>rfl)))))))
  (@Ja _ _ _ _ _ (Jya (i:=7) Vm.nd rfl (Qa rfl) (Jsq (sc:=(Je Y5)) (N:=["self","book","some","stand","rooms","purses","ways","rows"]) (N':=["room","some","ways"]) (k:=1) (idx:=[2,6]) rfl (by exact ⟨rfl,by decide +kernel,by decide +kernel,by decide +kernel,by decide +kernel,by decide +kernel,rfl,rfl⟩) rfl rfl (Yp rfl T.b_range (Jb (pv 4) Jc)) (λ _ _ _ _=>(Jv (i:=0) (show (["room","some","ways"]:List Str).Nodup by decide +kernel) rfl (Qw rfl) (Qa rfl))) (λ _ _ _ _=>Yy) (λ _ _ _ _=>(Y9 (sc:=Jvk _ (Je Y5)) (N:=["room","some","ways"]) (N':=["k","ways","room"]) (k:=1) (idx:=[2,0]) rfl (by exact ⟨rfl,by decide +kernel,by decide +kernel,by decide +kernel,by decide +kernel,by decide +kernel,rfl,rfl⟩) (Jyr rfl) rfl (by exact (Jm4 (K':=K) rfl (pv 1))) (λ _ _ _ _=>(Jv (i:=0) (show (["k","ways","room"]:List Str).Nodup by decide +kernel) rfl (Qa rfl) (Qw rfl))) (λ _ _ _ _=>Yy) (λ _ _ _ _=>(Ju Bx (Yc Jck rfl T.b_int Yak (Jj7 (Wi Jc0 (Jj (Z8 (K':=K) rfl) (Jj (Z8 (K':=K) rfl) (pv 1) (pv 0) (λ _ _=>rfl)) Jd (λ _ _=>rfl)) (pv 2) (J2 _)) Jc)) (Yc Jck rfl T.b_int Yak (Jj7 (Wi Jc0 (Jj (Z8 (K':=K) rfl) (Jj (Z8 (K':=K) rfl) (pv 1) (pv 0) (λ _ _=>rfl)) Jd (λ _ _=>rfl)) (pv 2) (J2 _)) Jc))))))) Jwv)
  (@Ja _ _ _ _ _ (Ja5 (pv 0) (Y9 (sc:=(Je Y5)) (N:=["self","book","some","stand","rooms","purses","ways","rows"]) (N':=["row","first"]) (k:=2) (idx:=[]) rfl (by exact ⟨rfl,by decide +kernel,by decide +kernel,by decide +kernel,by decide +kernel,by decide +kernel,rfl,rfl⟩) rfl rfl (Jbc rfl T.b_zip (Jb (pv 7) (Z7 (Y2 Gj (hr.mono (by decide)) rfl (Jb (pv 1) (Jb (pv 3) Jc))) Jc))) (λ _ _ _ _=>(Wl (K':=K) (i:=0) (j:=1) rfl (show (["row","first"]:List Str).Nodup by decide +kernel) ⟨rfl,(Qa rfl),(Qw rfl)⟩ ⟨rfl,(Qa rfl),(Qw rfl)⟩ rfl)) (λ _ _ _ _=>Yy) (λ _ _ _ _=>(Ju Jgx (pv 0) (@PEs.out _ _ _ (Yd (Y7 (J6 (pv 1)) Jw)))))) rfl)
  (@Ji _ _ _ (Ja5 (pv 0) Jd rfl))))))))))),?_⟩
 obtain ⟨ex,x,dx,R,U,ws,ks,bv,sv,rfl,hx,alx,nxe,rb,rs,ok,hk,kl,q⟩:=h
 have hs:sizeLine=16777216:=J9p
 have r0:=ok.r0
 have r1:=ok.r1
 have p0:=ok.p0
 have p1:=ok.p1
 have wl:=ok.len
 obtain ⟨ba,wa,vs,B⟩:=Jsm rb
 have bl:=B.len
 obtain ⟨sa,svs,rfl,hsa,nsa,zsa,rsa⟩:=Jpl rs
 have bx:ba≠x:=λ z=>B.nb (by rw [z];exact Qg)
 have wx:wa≠x:=λ z=>B.nw (by rw [z];exact Qg)
 have sx:sa≠x:=λ z=>nsa (by rw [z];exact Qg)
 refine ⟨_,rfl,ba,_,B.e,SqT.of B.b,rfl,_,_,rfl,_,_,rfl,_,_,rfl,rfl,?_⟩
 show Jaq _ _ _ [some (.ref x),some bv,some (.ref sa),some .non,some (.int R),some (.int U),some (.ref wa),none] H
 refine ⟨_,rfl,wa,vs,rfl,.inr (SqT.of B.w),_,rfl,x,C,dx,_,rfl,hx,Y.c,Y.n1,Q5 rfl,?_⟩
 refine ⟨_,rfl,wa,vs,rfl,.inr (SqT.of (by rw [Jf wx];exact B.w)),_,rfl,_,_,rfl,rfl,_,rfl,x,C,dx,_,rfl,Jg,Y.c,Y.n2,Q5 rfl,?_⟩
 rw [Jga]
 refine ⟨_,rfl,wa,vs,rfl,.inr (SqT.of (by rw [Jf wx];exact B.w)),_,rfl,_,_,rfl,rfl,_,rfl,_,_,rfl,rfl,_,rfl,x,C,dx,_,rfl,Jg,Y.c,Y.n3,Q5 rfl,?_⟩
 rw [Jga,bl]
 refine ⟨_,rfl,sa,svs,rfl,.inl (SqL.of (by rw [Jf sx];exact hsa)),λ fa hfa=>?_⟩
 have fx:fa≠x:=λ z=>by rw [z,Jg] at hfa;cases hfa
 rw [Jf fx] at hfa
 refine ⟨_,rfl,x,C,dx,_,rfl,by rw [Jf (Qj fx),Jg],Y.c,Y.n4,Q5 rfl,?_⟩
 refine ⟨_,rfl,x,C,dx,_,_,rfl,Jg,Y.c,Y.n1,rfl,_,rfl,x,C,dx,_,_,rfl,Jg,Y.c,Y.n3,rfl,_,_,rfl,by omega,by omega,by omega,λ ba' hba=>?_⟩
 have bx':ba'≠x:=λ z=>by rw [z,Jg] at hba;cases hba
 rw [Jf bx'] at hba
 have bf:ba'≠fa:=λ z=>by rw [z,Jg] at hba;cases hba
 rw [Jf bf,Jf bx'] at hba
 refine ⟨_,rfl,x,C,dx,_,rfl,by rw [Jf (Qj bx'),Jg],Y.c,Y.n5,Q5 rfl,?_⟩
 have svs':svs=ks.map Y0:=by
  have:=Reps.ints_inv (ns:=ks.map λ k:Nat=>(k:Int)) (vs:=svs) (by rw [Qy];exact rsa)
  rw [this,Qy];rfl
 have bds:Jei (ws.length:Int) ((ws.length:Int)+U+R-(ws.length:Int)).toNat=(Ja1 R U ws ks).bd.map Y0:=by
  unfold Jei Ja1 Tb.Be
  rw [Qy,show ((ws.length:Int)+U+R-(ws.length:Int)).toNat=(U+R).toNat by omega]
  refine Ug λ i _=>?_
  show V.int _=V.int _
  congr 1
 subst svs'
 rw [bds]
 let fs5:List (Str×V):=[("first_purse",.int ws.length),("first_room",.int (ws.length+U)),("behind_all",.int (ws.length+U+R)),("free",.ref fa),("bound",.ref ba')]
 obtain ⟨H6,e6,h6x,h6f,h6b,k6⟩:∃ H6:Hp,H6=upd (upd (upd (upd (upd H x (.ins C dx (L2.putF "behind_all" (.int ((ws.length:Int)+U+R)) (L2.putF "first_room" (.int ((ws.length:Int)+U)) (L2.putF "first_purse" (.int (ws.length:Int)) []))))) fa (.lst (ks.map Y0))) x (.ins C dx (L2.putF "free" (.ref fa) (L2.putF "behind_all" (.int ((ws.length:Int)+U+R)) (L2.putF "first_room" (.int ((ws.length:Int)+U)) (L2.putF "first_purse" (.int (ws.length:Int)) [])))))) ba' (.lst ((Ja1 R U ws ks).bd.map Y0))) x (.ins C dx fs5)/\H6 x=some (.ins C dx fs5)/\H6 fa=some (.lst (ks.map Y0))/\H6 ba'=some (.lst ((Ja1 R U ws ks).bd.map Y0))/\Kp [x] H H6:=by
  refine ⟨_,rfl,Jg,by rw [Jf fx,Jf (Qj bf),Jf fx,Jg],by rw [Jf bx',Jg],λ b o e nb=>?_⟩
  have nx:b≠x:=λ z=>nb (by rw [z];exact Qg)
  rw [Jf nx,Jf (Jn e hba),Jf nx,Jf (Jn e hfa),Jf nx]
  exact e
 dsimp only
 have go:∀ {a b:TS} {D:Ends} {σ:L2.St} (H':Hp),H'=H6->Jaq a b D σ H6->Jaq a b D σ H':=λ {a b D σ} H' e g=>by rw [e];exact g
 refine go _ e6.symm ?_
 clear go
 have kx6:Kp (fa::ba'::x::ex) H H6:=k6.mono λ b hb=>by rw [Qq.mp hb];simp
 have frx:∀ b∈[fa,ba'],H b=none:=λ b hb=>by
  rcases Qd.mp hb with rfl | hb
  . exact hfa
  . rw [Qq.mp hb];exact hba
 have rb6:Rep (fa::ba'::x::ex) H6 (J7 R U ws) bv:=(Rep.adds (L:=[fa,ba']) frx rb).keep kx6
 have rs6:Rep (fa::ba'::x::ex) H6 (.list (ks.map Jq)) (.ref sa):=(Rep.adds (L:=[fa,ba']) frx rs).keep kx6
 have rw6:Rep (fa::ba'::x::ex) H6 (.tuple (ws.map Y8)) (.ref wa):=(Rep.adds (L:=[fa,ba']) frx (.tuple B.w B.nw B.z B.r)).keep kx6
 have al6:Alc (fa::ba'::x::ex) H6:=λ b hb=>by
  rcases Qd.mp hb with rfl | hb
  . rw [h6f];exact Xt _
  . rcases Qd.mp hb with rfl | hb
    . rw [h6b];exact Xt _
    . rcases Qd.mp hb with rfl | hb
      . rw [h6x];exact Xt _
      . cases e:H b with
        | none=>exact absurd e (alx b hb)
        | some o=>rw [k6 b o e (λ z=>nxe (by rw [<- Qq.mp z];exact hb))];exact Xt _
 have hU:((U.toNat:Nat):Int)=U:=X3 (by omega)
 have hR:((R.toNat:Nat):Int)=R:=X3 (by omega)
 have E6:Ev Src.no (fa::ba'::x::ex) [.jnk,.d (J7 R U ws),.d (.list (ks.map Jq)),.d .none,.d (.int R),.d (.int U),.d (.tuple (ws.map Y8))] [some (.ref x),some bv,some (.ref sa),some .non,some (.int R),some (.int U),some (.ref wa),none] H6 0:=Jib.ev ⟨trivial,⟨_,rfl,rb6⟩,⟨_,rfl,rs6⟩,⟨_,rfl,.none⟩,⟨_,rfl,.int _⟩,⟨_,rfl,.int _⟩,⟨_,rfl,rw6⟩,trivial⟩ al6
 refine Juo (λ ds _=>ds=(Qn U.toNat).map λ i=>.list (ks.map λ k=>.int (Zv U ws k i))) E6 ?_ ?_
 . refine ⟨U,rfl,⟨by omega,by omega⟩,⟨rfl,by rw [Yf];omega⟩,?_⟩
   refine Bv (λ i=>.list (ks.map λ k=>.int (Zv U ws k i))) (λ i hi n K hK=>Jad ⟨⟨rfl,by rw [Qb];omega⟩,?_⟩) rfl
   refine Wm (f:=Jq) (λ k=>.int (Zv U ws k i)) (λ k hkk n K hK=>Jad ?_) hK
   have k1:=hk k hkk
   have wok:=ok.ways _ (Y3 (Xq k) (by omega))
   have gl:i<(Jh ws (k:Int)).g.length:=by have:=wok.len;omega
   refine ⟨_,B6 (Xq k) (by omega),_,rfl,_,Yi (by omega) (by rw [J20,Q0,Qk,Qf gl];rfl),?_⟩
   have e:Zv U ws k i = -(Jh ws (k:Int)).g[i]:=by
    unfold Zv
    rw [if_pos k1,if_pos (by omega),Qi,Qf gl];rfl
   rw [e] at hK
   exact hK
 rintro ds n7 ra rvs H7 rfl st7 hra h7a z7 r7
 have k7:Kp [] H6 H7:=st7.1
 have E7:=E6.step st7
 have kx7:Kp (ra::fa::ba'::x::ex) H6 H7:=k7.mono λ a ha=>by cases ha
 have al7:Alc (ra::fa::ba'::x::ex) H7:=λ b hb=>by
  rcases Qd.mp hb with rfl | hb
  . rw [h7a];exact Xt _
  . exact E7.al b hb
 have rb7:Rep (ra::fa::ba'::x::ex) H7 (J7 R U ws) bv:=(Rep.add hra rb6).keep kx7
 have rs7:Rep (ra::fa::ba'::x::ex) H7 (.list (ks.map Jq)) (.ref sa):=(Rep.add hra rs6).keep kx7
 have rw7:Rep (ra::fa::ba'::x::ex) H7 (.tuple (ws.map Y8)) (.ref wa):=(Rep.add hra rw6).keep kx7
 have E7':Ev Src.no (ra::fa::ba'::x::ex) [.jnk,.d (J7 R U ws),.d (.list (ks.map Jq)),.d .none,.d (.int R),.d (.int U),.d (.tuple (ws.map Y8))] [some (.ref x),some bv,some (.ref sa),some .non,some (.int R),some (.int U),some (.ref wa),some (.ref ra)] H7 0:=Jib.ev ⟨trivial,⟨_,rfl,rb7⟩,⟨_,rfl,rs7⟩,⟨_,rfl,.none⟩,⟨_,rfl,.int _⟩,⟨_,rfl,.int _⟩,⟨_,rfl,rw7⟩,trivial⟩ al7
 refine Jup (λ ds _=>ds=(Qn R.toNat).map λ i=>.list (ks.map λ k=>.int (Zv U ws k (U.toNat+i)))) E7' ?_ rfl h7a (by simp [Src.no]) ?_
 . refine ⟨R,rfl,⟨by omega,by omega⟩,⟨rfl,by rw [Yf];omega⟩,?_⟩
   refine Bv (λ i=>.list (ks.map λ k=>.int (Zv U ws k (U.toNat+i)))) (λ i hi n K hK=>Jad ⟨⟨rfl,by rw [Qb];omega⟩,?_⟩) rfl
   refine Wm (f:=Jq) (λ k=>.int (Zv U ws k (U.toNat+i))) (λ k hkk n K hK=>Jad ?_) hK
   have k1:=hk k hkk
   have wok:=ok.ways _ (Y3 (Xq k) (by omega))
   have e:Zv U ws k (U.toNat+i)=(if decide ((Jh ws (k:Int)).a=0+(i:Int))=true then 1 else 0)-(if decide ((Jh ws (k:Int)).b=0+(i:Int))=true then 1 else 0):=by
    unfold Zv
    rw [if_pos k1,if_neg (by omega),show ((U.toNat+i:Nat):Int)-U=0+(i:Int) by omega]
    simp only [decide_eq_true_eq]
   rw [e] at hK
   exact ⟨_,B6 (Xq k) (by omega),_,rfl,_,B6 (Xq k) (by omega),_,rfl,hK⟩
 rintro ds n8 rb us H8 rfl st8 hrb h8b z8 r8 h8a
 have k8:Kp [] H7 H8:=st8.1
 have l7:=r7.length
 rw [Qb,Q2] at l7
 have l8:=r8.length
 rw [Qb,Q2] at l8
 refine ⟨by omega,?_⟩
 have nra:ra∉(fa::ba'::x::ex):=λ z=>E6.al ra z hra
 have nrb:ra≠rb:=λ z=>by rw [z,hrb] at h7a;cases h7a
 have ram:ra∈(ra::fa::ba'::x::ex):=Qg
 have k8':Kp (ra::fa::ba'::x::ex) H7 (upd H8 ra (.lst (rvs++us))):=(k8.mono λ a ha=>by cases ha).trans (Kp.at ram _)
 have rows8:Reps (ra::fa::ba'::x::ex) (upd H8 ra (.lst (rvs++us))) ((Qn (U+R).toNat).map λ i=>.list (ks.map λ k=>.int (Zv U ws k i))) (rvs++us):=by
  rw [show (U+R).toNat=U.toNat+R.toNat by omega,J8z,Q1,Qy]
  exact Reps.append (r7.keep k8') ((Reps.sub r8).keep (Kp.at ram _))
 have al8:Alc (fa::ba'::x::ex) (upd H8 ra (.lst (rvs++us))):=λ b hb=>by
  by_cases e:b=ra
  . rw [e,Jg];exact Xt _
  . rw [Jf e];exact (E7'.step st8).al b (Qh _ hb)
 have E8:Ev Src.no (fa::ba'::x::ex) [.jnk,.d (J7 R U ws),.d (.list (ks.map Jq)),.d .none,.d (.int R),.d (.int U),.d (.tuple (ws.map Y8)),.d (.list ((Qn (U+R).toNat).map λ i=>.list (ks.map λ k=>.int (Zv U ws k i))))] [some (.ref x),some bv,some (.ref sa),some .non,some (.int R),some (.int U),some (.ref wa),some (.ref ra)] (upd H8 ra (.lst (rvs++us))) 0:=Jib.ev ⟨trivial,⟨_,rfl,Rep.sub (rb7.keep k8')⟩,⟨_,rfl,Rep.sub (rs7.keep k8')⟩,⟨_,rfl,.none⟩,⟨_,rfl,.int _⟩,⟨_,rfl,.int _⟩,⟨_,rfl,Rep.sub (rw7.keep k8')⟩,⟨_,rfl,.list Jg nra (by rw [Xc];omega) (Reps.sub rows8)⟩,trivial⟩ al8
 have xra:x≠ra:=λ z=>nra (by rw [<- z];simp)
 have fra:fa≠ra:=λ z=>nra (by rw [<- z];simp)
 have bra:ba'≠ra:=λ z=>nra (by rw [<- z];simp)
 have h8x:(upd H8 ra (.lst (rvs++us))) x=some (.ins C dx fs5):=by rw [Jf xra];exact k8 _ _ (k7 _ _ h6x (by simp)) (by simp)
 refine Juq (λ ds _=>ds=(Ja1 R U ws ks).rows.map Yz) E8 ?_ rfl h8x (by simp [Src.no]) Y.c Y.n6 (Q5 rfl) ?_
 . refine ⟨R,U,ws,rfl,ok,_,_,_,_,rfl,rfl,rfl,⟨rfl,by rw [V6,Qb,Q2];omega⟩,?_⟩
   have ez:Vf ((Qn (U+R).toNat).map λ i=>X4 (ks.map λ k=>.int (Zv U ws k i))) ((Qr (U+R).toNat (0:Int)).map .int)=(Qn (U+R).toNat).map λ i=>Ux [.list (ks.map λ k=>.int (Zv U ws k i)),.int 0]:=by
    apply X5
    intro i
    unfold Vf
    rw [J2q,Qk,Qk,Qk,U2]
    by_cases hi:i<(U+R).toNat
    . rw [Xs hi,if_pos hi];rfl
    . rw [Q7 (by rw [Q2];omega)];rfl
   rw [ez]
   refine Bv (λ i=>Yz (ks.map (λ k=>Zv U ws k i)++[0])) (λ i hi n K hK=>⟨rfl,rfl,Jad ?_⟩) ?_
   . have e:Yz (ks.map (λ k=>Zv U ws k i)++[0]) = .list ((ks.map λ k=>.int (Zv U ws k i))++[.int 0]):=by
      show X4 _=_
      rw [Q1,Qy];rfl
     rw [e] at hK
     exact ⟨Q5 rfl,by rw [Qb];show ks.length+1<=sizeLine;omega,hK⟩
   . unfold Ja1 Tb.Be
     rw [Qy]
     rfl
 rintro ds n9 rr vs9 H9 rfl st9 hrr h9r z9 r9 h9x
 have k9:Kp [] (upd H8 ra (.lst (rvs++us))) H9:=st9.1
 refine ⟨_,rfl,x,C,dx,_,rfl,Jg,Y.c,Y.n7,Q5 rfl,?_⟩
 rw [Jga]
 have h8f:(upd H8 ra (.lst (rvs++us))) fa=some (.lst (ks.map Y0)):=by rw [Jf fra];exact k8 _ _ (k7 _ _ h6f (by simp)) (by simp)
 have h8b':(upd H8 ra (.lst (rvs++us))) ba'=some (.lst ((Ja1 R U ws ks).bd.map Y0)):=by rw [Jf bra];exact k8 _ _ (k7 _ _ h6b (by simp)) (by simp)
 have xr:rr≠x:=λ z=>by rw [z,h8x] at hrr;cases hrr
 have fr:rr≠fa:=λ z=>by rw [z,h8f] at hrr;cases hrr
 have br:rr≠ba':=λ z=>by rw [z,h8b'] at hrr;cases hrr
 have nrx:rr∉fa::ba'::x::ex:=λ z=>E8.al rr z hrr
 have mv:∀ b,b∈x::fa::ba'::ex->b∈fa::ba'::x::ex:=λ b hb=>by
  simp only [Qd] at hb ⊢
  rcases hb with h | h | h | h
  . exact .inr (.inr (.inl h))
  . exact .inl h
  . exact .inr (.inl h)
  . exact .inr (.inr (.inr h))
 refine q _ fa ba' hfa hba ⟨⟨dx,.ref rr,?_,?_⟩,?_,?_,Qj fx,Qj bx',Qj bf,nxe,λ z=>alx fa z hfa,λ z=>alx ba' z hba,λ b hb=>?_⟩ λ b o e nb=>?_
 . rw [Jg];rfl
 . refine .list (by rw [Jf xr];exact h9r) (λ z=>nrx (mv rr z)) z9 ?_
   exact (Reps.mono (λ b hb=>Qh _ (mv b hb)) r9).keep (Kp.at Qg _)
 . rw [Jf fx];exact k9 _ _ h8f (by simp)
 . rw [Jf bx'];exact k9 _ _ h8b' (by simp)
 . by_cases e:b=x
   . rw [e,Jg];exact Xt _
   . rw [Jf e]
     exact E8.al.kp k9 b (Qh _ (Qh _ (Qh _ hb)))
 . have nx:b≠x:=λ z=>nb (by rw [z];exact Qg)
   rw [Jf nx]
   refine k9 _ _ ?_ (by simp)
   have e6':=k6 b o e nb
   rw [Jf (Jn e6' hra)]
   exact k8 _ _ (k7 _ _ e6' (by simp)) (by simp)
theorem Jo4:FnScope ["book","some"] ["book","some"] (Je Ja2):=⟨rfl,rfl,rfl,by decide +kernel,rfl,by decide +kernel,by decide +kernel⟩
theorem Jo5 (T:Txt mg) (D:Def K mg "is_ring" Ja2 ["book","some"]) (Gk:Cal P w K mg base "has_way" 3 ["book","k"] (Jm Jhf)) (Gm:Cal P w K mg base "rings_of" 2 ["book","some"] (Jm Jks)):Cal P w K mg base "is_ring" 4 ["book","some"] (Jm Jif):=by
 refine D.cal λ f fd F=>F.ok Jo4 (J5 ?_) (λ cdv A outer s H vs Q E hr h=>?_)
 . rintro as n P ⟨R,U,ws,ks,rfl,_⟩
   rfl
 refine ⟨_,(@Ja _ _ _ _ _ (Zd (PW.pt (Jbs (Vn (Z3 (Jy Jg2 rfl T.b_all boot_all (Jbb (Y9 (sc:=(Je Ja2)) (N:=["book","some"]) (N':=["k","book"]) (k:=1) (idx:=[0]) rfl (by exact ⟨rfl,by decide +kernel,by decide +kernel,by decide +kernel,by decide +kernel,by decide +kernel,rfl,rfl⟩) rfl rfl (Zq (pv 1)) (λ _ _ _ _=>(Jv (i:=0) (show (["k","book"]:List Str).Nodup by decide +kernel) rfl (Qa rfl) (Qw rfl))) (λ _ _ _ _=>Yy) (λ _ _ _ _=>(Y2 Gk (hr.mono (by decide)) rfl (Jb (pv 1) (Jb (pv 0) Jc))))) Jc)))) (Jal (Vn (Z3 (Jy Jg2 rfl T.b_all boot_all (Jbb (Y9 (sc:=(Je Ja2)) (N:=["book","some"]) (N':=["k","then"]) (k:=2) (idx:=[]) rfl (by exact ⟨rfl,by decide +kernel,by decide +kernel,by decide +kernel,by decide +kernel,by decide +kernel,rfl,rfl⟩) rfl rfl (Jbc rfl T.b_zip (Jb (pv 1) (Yh (Jas Jcn (pv 1) (Jcm Jd) Jcl) Jc))) (λ _ _ _ _=>(Wl (K':=K) (i:=0) (j:=1) rfl (show (["k","then"]:List Str).Nodup by decide +kernel) ⟨rfl,(Qa rfl),(Qw rfl)⟩ ⟨rfl,(Qa rfl),(Qw rfl)⟩ rfl)) (λ _ _ _ _=>Yy) (λ _ _ _ _=>(Wi Jbx (pv 0) (pv 1) (J2 _)))) Jc))))))) (@Ji _ _ _ (@Js _ _ _ _ Jbr)) J9)
  (@Ji _ _ _ (@Js _ _ _ _ (Wi (Jg1 hr.units) (Y2 Gm (hr.mono (by decide)) rfl (Jb (pv 0) (Jb (pv 1) Jc))) (@PEs.out _ _ _ (Yd (Y7 (J6 (pv 1)) Jw))) (J2 _))))),J1 h ?_⟩
 rintro as n P ⟨R,U,ws,ks,rfl,ok,rg,q⟩
 have hs:sizeLine=16777216:=J9p
 have wl:=ok.len
 have kl:=rg.len
 refine ⟨rfl,⟨rfl,by rw [Qb];omega⟩,?_⟩
 refine Wm (f:=Jq) (λ k=>.bool true) (λ k hk n K hK=>Jad ⟨R,U,ws,(k:Int),rfl,⟨by omega,by have:=rg.lt k hk;omega⟩,hK⟩) ?_
 refine ⟨Qr ks.length true,by rw [J2r];rw [J48],rfl,?_⟩
 have all1:(Qr ks.length true).all id=true:=X9.mpr λ b hb=>by rw [(J2z.mp hb).2];rfl
 rw [all1]
 refine Wk ?_
 have cut:Jil (ks.map Jq) (some (1:Int)) none=ks.tail.map Jq:=by
  have:=Je1 (ks.map Jq) 1
  rw [show ((1:Nat):Int)=1 from rfl] at this
  rw [this,<- J3y,List.drop_one]
 have zz:∀ l l':List Nat,Vf (l.map Jq) (l'.map Jq)=(l.zip l').map λ p=>.tuple [Jq p.1,Jq p.2]:=λ l=>by
  induction l with
  | nil=>intro l';simp [Vf]
  | cons a l ih=>intro l';cases l' with
   | nil=>simp [Vf]
   | cons b l'=>have:=ih l';unfold Vf at this ⊢;rw [Qz,Qz,J6v,this,J6w,Qz]
 have upz:∀ p∈ks.zip ks.tail,p.1<p.2:=λ p hp=>by
  obtain ⟨i,hi⟩:=Ur.mp hp
  rw [J63,J2q] at hi
  have i1:i<ks.length:=by
   rcases Ud i ks.length with h | h
   . exact h
   . rw [Q7 h] at hi;cases hi
  have i2:i+1<ks.length:=by
   rcases Ud i ks.tail.length with h | h
   . rw [List.length_tail] at h;omega
   . rw [Qf i1,Q7 h] at hi;cases hi
  rw [Qf i1,List.getElem?_tail,Qf i2] at hi
  cases hi
  exact J4v.mp rg.up i (i+1) i1 i2 (J4b i)
 refine ⟨_,_,_,_,rfl,rfl,rfl,⟨rfl,by rw [V6,Qb];omega⟩,?_⟩
 rw [cut,zz]
 refine Wm (f:=λ p:Nat×Nat=>Ux [Jq p.1,Jq p.2]) (λ p=>.bool true) (λ p hp n K hK=>⟨rfl,rfl,Jad ?_⟩) ?_
 . have lt:((p.1:Nat):Int)<((p.2:Nat):Int):=by exact_mod_cast upz p hp
   show K (some (.bool (decide (((p.1:Nat):Int)<((p.2:Nat):Int))))) n
   rw [decide_eq_true lt]
   exact hK
 refine ⟨Qr (ks.zip ks.tail).length true,by rw [J2r];rw [J48],rfl,?_⟩
 have all2:(Qr (ks.zip ks.tail).length true).all id=true:=X9.mpr λ b hb=>by rw [(J2z.mp hb).2];rfl
 rw [all2]
 refine Wk ⟨_,.refl,R,U,ws,nI ks,?_,ok,?_,by unfold nI;rw [Qb];omega,Q5 rfl,?_⟩
 . unfold nI;rw [Qy];rfl
 . intro k hk
   obtain ⟨j,hj,rfl⟩:=Qo.mp hk
   have:=rg.lt j hj
   omega
 . rw [rg.one]
   have e:Jkr [nI ks] = .list [.list ((nI ks).map .int)]:=rfl
   have e2:(X4 (ks.map Jq)) = .list ((nI ks).map .int):=by unfold nI;rw [Qy];rfl
   rw [e2,e]
   have hl:Ue (.list [.list ((nI ks).map .int)])=true:=by rw [Ue,J2x,Ue,Jdc];rfl
   refine ⟨⟨hl,hl,Xl (J4u _ _) (by rw [J21,J6p,J21,Je9];decide)⟩,?_⟩
   rw [J6i _ hl]
   exact q
theorem Jiy:FnScope ["book","some"] ["book","some"] (Je Jbm):=⟨rfl,rfl,rfl,by decide +kernel,rfl,by decide +kernel,by decide +kernel⟩
theorem Jiz {C:Addr}(T:Txt mg) (Y:TableOk K C) (D:Def K mg "ring_table" Jbm ["book","some"]) (Gn:Cal P w K mg base "is_ring" 4 ["book","some"] (Jm Jif)) (c_Table__init:Jm3 P w K mg base "Table" C 2 ["self","book","some","stand"] (Jlb C)):Cal P w K mg base "ring_table" 5 ["book","some"] (Jld C):=by
 refine D.cal λ f fd F=>F.ok Jiy (λ vs H Q E h=>by obtain ⟨ex,R,U,ws,ks,bv,sv,rfl,_⟩:=h;rfl) (λ cdv A outer s H vs Q E hr h=>?_)
 refine ⟨_,(@Ja _ _ _ _ _ (Zd (Vn (Z3 (Y2 Gn (hr.mono (by decide)) rfl (Jb (pv 0) (Jb (pv 1) Jc))))) Ji5 J9)
  (@Ji _ _ _ (@Js _ _ _ _ (J1k c_Table__init (hr.mono (by decide)) rfl (Jb (pv 0) (Jb (pv 1) Jc)))))),?_⟩
 obtain ⟨ex,R,U,ws,ks,bv,sv,rfl,al,rb,rs,ok,rg,q⟩:=h
 have ra:B4 Src.no ex H [.d (J7 R U ws),.d (.list (ks.map Jq))] [bv,sv]:=⟨⟨_,rfl,rb⟩,⟨_,rfl,rs⟩,trivial⟩
 refine ⟨_,rfl,_,rfl,Src.no,ex,_,0,λ d _=>d = .bool true,ra,λ a ha=>(by cases ha),al,trivial,⟨R,U,ws,ks,rfl,ok,rg,rfl⟩,λ d n' v H1 hd st r=>?_⟩
 subst hd
 cases r
 refine ⟨true,rfl,?_⟩
 have k1:Kp [] H H1:=st.1
 refine Wk ?_
 refine ⟨_,rfl,_,rfl,λ x dx hx hdx hne=>?_⟩
 have lifted:∀ {b:Addr},H1 b=none->H b=none:=λ {b} hb=>by
  cases e:H b with
  | none=>rfl
  | some o=>rw [k1 b o e (by simp)] at hb;cases hb
 have kn:Kp [] H1 (upd (upd H1 dx (.own x)) x (.ins C dx [])):=λ b o e _=>by rw [Jf (Jn e hx),Jf (Jn e hdx)];exact e
 have al1:Alc ex H1:=al.kp k1
 have nx:x∉ex:=λ z=>al1 x z hx
 have kxx:Kp (x::ex) H1 (upd (upd H1 dx (.own x)) x (.ins C dx [])):=kn.mono λ a ha=>by cases ha
 have fresh:∀ {b:Addr},(upd (upd H1 dx (.own x)) x (.ins C dx [])) b=none->H1 b=none:=λ {b} hb=>by
  cases e:H1 b with
  | none=>rfl
  | some o=>rw [kn b o e (by simp)] at hb;cases hb
 refine ⟨ex,x,dx,R,U,ws,ks,bv,sv,rfl,Jg,al1.kp kn,nx,(Rep.add hx (rb.keep (k1.mono λ a ha=>by cases ha))).keep kxx,(Rep.add hx (rs.keep (k1.mono λ a ha=>by cases ha))).keep kxx,ok,rg.lt,by have:=rg.len;have:=ok.len;omega,λ H' fa ba hfa hba hT kp=>⟨rfl,q H' x fa ba (lifted hx) (lifted (fresh hfa)) (lifted (fresh hba)) hT (λ b o e _=>?_)⟩⟩
 have e1:=k1 b o e (by simp)
 exact kp b o (kn b o e1 (by simp)) (λ z=>by rw [Qq.mp z,hx] at e1;cases e1)
theorem Bh:FnScope ["book","some","k","table","counts"] ["book","some","k"] (Je Jaa):=⟨rfl,rfl,rfl,by decide +kernel,rfl,by decide +kernel,by decide +kernel⟩
theorem Jf9 {C:Addr}(T:Txt mg) (Y:TableOk K C) (D:Def K mg "sum_or_round" Jaa ["book","some","k"]) (Go:Cal P w K mg base "ring_table" 5 ["book","some"] (Jld C)) (Gb:Cal P w K mg base "is_whole" 1 ["thing"] (Jm Jbf)) (c_Table__find_round:Wc P w K mg base C "find_round" 4 ["self","wanted"] (Jk8 C)) (c_Table__read_sum:Wc P w K mg base C "read_sum" 3 ["self","wanted"] (Jm (Ja0 C))):Cal P w K mg base "sum_or_round" 6 ["book","some","k"] (Jm Jdg):=by
 refine D.cal λ f fd F=>F.ok Bh (J5 ?_) (λ cdv A outer s H vs Q E hr h=>?_)
 . rintro as n P ⟨R,U,ws,ks,k,rfl,_⟩
   rfl
 refine ⟨_,(@Ja _ _ _ _ _ (J0 (i:=3) Bh.nd rfl (Qa rfl) (Y2 Go (hr.mono (by decide)) rfl (Jb (pv 0) (Jb (pv 1) Jc))))
  (@Ja _ _ _ _ _ (Zd (PW.pt (Jbs (Vn (Z3 (Y2 Gb (hr.mono (by decide)) rfl (Jb (pv 2) Jc)))) (Jal (Jx Ja6 (pv 2) (pv 1) (by with_unfolding_all rfl))))) Ji5 J9)
  (@Ja _ _ _ _ _ (J0 (i:=4) Bh.nd rfl (Qa rfl) (Jfb c_Table__find_round (hr.mono (by decide)) (pv 3) (Jpn (@PEs.out _ _ _ (Yd (Y7 (J6 (pv 2)) Jw))) Jc)))
  (@Ja _ _ _ _ _ (Zd (Jx Jgs (pv 4) Ba (J2 _)) (@Ji _ _ _ (@Js _ _ _ _ (@PEs.out _ _ _ (Zy (Jt Jpo (Wv (J6 (Jfb c_Table__read_sum (hr.mono (by decide)) (pv 3) (Jpn (@PEs.out _ _ _ (Yd (Y7 (J6 (pv 2)) Jw))) Jc))) Jw)))))) J9)
  (@Ji _ _ _ (@Js _ _ _ _ (@PEs.out _ _ _ (Zy (Jt Jpo (Y7 (J6 (pv 4)) Jw)))))))))),?_⟩
 obtain ⟨S,ex,as,n,P,ra,hc,al,iv,⟨R,U,ws,ks,k,rfl,ok,rg,hk,q1,q2⟩,q⟩:=h
 obtain ⟨bv,sv,kv,rfl,rb,rs,rfl⟩:∃ bv sv kv,vs=[bv,sv,kv]/\Rep ex H (J7 R U ws) bv/\Rep ex H (.list (ks.map Jq)) sv/\kv=Y0 k:=by
  cases vs with
  | nil=>exact ra.elim
  | cons bv vs=>
   cases vs with
   | nil=>exact ra.2.elim
   | cons sv vs=>
    cases vs with
    | nil=>exact ra.2.2.elim
    | cons kv vs=>
     cases vs with
     | cons _ _=>exact ra.2.2.2.elim
     | nil=>
      obtain ⟨⟨_,e1,r1⟩,⟨_,e2,r2⟩,⟨_,e3,r3⟩,_⟩:=ra
      cases e1
      cases e2
      cases e3
      cases r3
      exact ⟨_,_,_,rfl,r1,r2,rfl⟩
 have hs:sizeLine=16777216:=J9p
 have one:(1:Nat)<=sizeLine:=by rw [hs];decide
 have two:(2:Nat)<=sizeLine:=by rw [hs];decide
 have kl:=rg.lt k hk
 have wl:=ok.len
 have m0:0<(U+R).toNat:=by have:=ok.r0;have:=ok.p0;omega
 have t0:Told R U ws ks [k] (Ja1 R U ws ks):=.zero ok rg.nd rg.lt
 let SZ:=Jic R U ws
 refine W3 (λ σ' H1=>∃ p fa ba,σ'=[some bv,some sv,some (Y0 k),some (.ref p),none]/\TabH C ex p fa ba (Jic R U ws) (Ja1 R U ws ks) H1/\Kp [] H H1/\H p=none/\H fa=none/\H ba=none) (λ N hN=>?_) ?_
 . exact ⟨_,rfl,_,rfl,ex,R,U,ws,ks,bv,sv,rfl,al,rb,rs,ok,rg,λ H1 p fa ba hp hfa hba hT k1=>hN _ _ ⟨p,fa,ba,rfl,hT,k1,hp,hfa,hba⟩⟩
 rintro σ1 H1 ⟨p,fa,ba,rfl,hT,k1,hp,hfa,hba⟩
 have kx1:Kp ex H H1:=k1.mono λ a ha=>by cases ha
 refine W3 (λ σ' H2=>σ'=[some bv,some sv,some (Y0 k),some (.ref p),none]/\Kp [] H1 H2) (λ N hN=>?_) ?_
 . refine ⟨_,rfl,Src.no,ex,[.d (Jq k)],0,λ d _=>d = .bool true,⟨⟨_,rfl,.int _⟩,trivial⟩,λ a ha=>(by cases ha),al.kp k1,trivial,⟨_,rfl,rfl⟩,λ d n' v H2 hd st r=>?_⟩
   subst hd
   cases r
   have k2:Kp [] H1 H2:=st.1
   have kx2:Kp ex H1 H2:=k2.mono λ a ha=>by cases ha
   have rs2:=(rs.keep kx1).keep kx2
   obtain ⟨sa,svs,rfl,hsa,nsa,zsa,rsa⟩:=Jpl rs2
   have es:svs=ks.map Y0:=by
    have:=Reps.ints_inv (ns:=ks.map λ k:Nat=>(k:Int)) (vs:=svs) (by rw [Qy];exact rsa)
    rw [this,Qy];rfl
   subst es
   refine ⟨true,rfl,Wk ⟨_,rfl,_,rfl,sa,_,rfl,.inl (SqL.of hsa),rfl,?_,_,rfl,?_⟩⟩
   . exact X9.mpr λ x hx=>by obtain ⟨j,_,rfl⟩:=Qo.mp hx;rfl
   . have yes:inV (Y0 k) (ks.map Y0)=true:=by
      refine J6s.mpr ⟨Y0 k,Qo.mpr ⟨k,hk,rfl⟩,?_⟩
      show decide (((k:Nat):Int)=((k:Nat):Int))=true
      exact decide_eq_true rfl
     rw [yes]
     exact Wk (hN _ _ ⟨rfl,k2⟩)
 rintro σ2 H2 ⟨rfl,k2⟩
 have hT2:=hT.keep k2
 refine W3 (λ σ' H3=>∃ v T',σ'=[some bv,some sv,some (Y0 k),some (.ref p),some v]/\TabH C ex p fa ba (Jic R U ws) T' H3/\Told R U ws ks [k] T'/\Kp [p,fa,ba] H2 H3/\((v = .non/\Tb.Last (U+R).toNat ks.length [k] T')\/∃ j,Tb.Ray (U+R).toNat ks.length [k] T' j/\v≠.non/\Rep ex H3 (.tuple ((drQ ws (U+R).toNat T' j).map .int)) v)) (λ N hN=>?_) ?_
 . obtain ⟨dx,rv,o1,o2⟩:=hT2.o
   refine ⟨_,rfl,p,dx,_,rfl,o1,rfl,_,rfl,one,λ l hl=>?_⟩
   have kl:Kp [] H2 (upd H2 l (.lst [Y0 k])):=Kp.new hl _
   have nl:l∉p::fa::ba::ex:=Jul (λ z=>by rw [z,o1] at hl;cases hl) (λ z=>by rw [z,hT2.f] at hl;cases hl) (λ z=>by rw [z,hT2.b] at hl;cases hl) (λ z=>hT2.al l z hl)
   have hw:Rep (p::fa::ba::ex) (upd H2 l (.lst [Y0 k])) (.list ([k].map Jq)) (.ref l):=.list Jg nl one (.cons (.int _) .nil)
   have kup:∀ {H3:Hp},Kp [p,fa,ba] (upd H2 l (.lst [Y0 k])) H3->Kp [p,fa,ba] H2 H3:=λ {H3} k3=>(kl.mono λ a ha=>by cases ha).trans k3
   exact Jrn (E:=E0) t0 (hT2.keep kl) hw (λ H3 T' j v h1 h2 h3 h4 h5=>hN _ _ ⟨v,T',rfl,h1,h2,kup h4,.inr ⟨j,h3,(λ z=>by subst z;cases h5),h5⟩⟩) (λ H3 T' h1 h2 h3 h4=>hN _ _ ⟨.non,T',rfl,h1,h2,kup h4,.inl ⟨rfl,h3⟩⟩)
 rintro σ3 H3 ⟨v,T',rfl,hT3,t3,k3,hv⟩
 have k03:Kp [] H H3:=λ b o e _=>k3 b o (k2 b o (k1 b o e (by simp)) (by simp)) (λ z=>by
  simp only [Qd,Uf,or_false] at z
  rcases z with z | z | z
  . rw [z,hp] at e;cases e
  . rw [z,hfa] at e;cases e
  . rw [z,hba] at e;cases e)
 rcases hv with ⟨rfl,hl⟩ | ⟨j,ry,nn,rc⟩
 . refine ⟨_,rfl,rfl,_,rfl,Jl8 (by simp) ?_⟩
   obtain ⟨dx,rv,o1,o2⟩:=hT3.o
   have hw:∀ s,s<(U+R).toNat->ws.length+s∉[k]\/∃ i,i<(U+R).toNat/\T'.b i=ws.length+s:=λ s hs=>.inl (by rw [Qq];omega)
   obtain ⟨s,hs',hne⟩:=Jwz t3 hl hw (.inl ⟨k,hk,Qq.mpr rfl⟩)
   obtain ⟨sk,fl,_⟩:=Juu t3 hl hw (Jm7 t3 hs' hne).1
   refine ⟨_,rfl,p,dx,_,rfl,o1,rfl,_,rfl,one,λ l hll=>?_⟩
   have kl:Kp [] H3 (upd H3 l (.lst [Y0 k])):=Kp.new hll _
   refine Juw (E:=E0) t3 (hT3.keep kl) (.list Jg (λ z=>hT3.al l z hll) one (.cons (.int _) .nil)) (λ x hx=>by rw [Qq.mp hx];omega) hs' hne λ H4 v k4 r4=>⟨two,λ tp htp=>?_⟩
   have kt:Kp [] H4 (upd H4 tp (.tup [.str "sum",v])):=Kp.new htp _
   have k04:Kp [] H (upd H4 tp (.tup [.str "sum",v])):=((k03.trans kl).trans k4).trans kt
   exact q _ n _ _ (q1 _ _ sk (fl k hk (Qq.mpr rfl))) (.new iv k04) (.tuple Jg (λ z=>((al.kp k03).kp kl).kp k4 tp z htp) two (.cons (.str _) (.cons (r4.keep (kt.mono λ a ha=>by cases ha)) .nil)))
 . refine ⟨_,rfl,rfl,_,rfl,Jdz (by simp [nn]) ?_⟩
   obtain ⟨rk,ps,_,ν,hν,_,pos⟩:=Joy t3 ry
   rw [Qq.mp hν] at pos
   refine ⟨_,rfl,two,λ tp htp=>?_⟩
   have kt:Kp [] H3 (upd H3 tp (.tup [.str "round",v])):=Kp.new htp _
   exact q _ n _ _ (q2 _ rk (ps k kl pos)) (.new iv (k03.trans kt)) (.tuple Jg (λ z=>(al.kp k03) tp z htp) two (.cons (.str _) (.cons (rc.keep (kt.mono λ a ha=>by cases ha)) .nil)))
theorem Jli:FnScope ["_law_thing"] ["_law_thing"] (Je Jcg):=⟨rfl,rfl,rfl,by decide +kernel,rfl,by decide +kernel,by decide +kernel⟩
theorem Jlj (T:Txt mg) (D:Def K mg "_law_whole" Jcg ["_law_thing"]):Cal P w K mg base "_law_whole" 1 ["_law_thing"] (Jm Jbf):=by
 refine D.cal λ f fd F=>F.ok Jli (J5 ?_) (λ cdv A outer s H vs Q E hr h=>?_)
 . rintro as n P ⟨x,rfl,_⟩
   rfl
 refine ⟨_,(@Ji _ _ _ (@Js _ _ _ _ (Jjz (Jy V5 rfl T.b_isinstance J96 (Jb (pv 0) (Jb (Jae rfl T.b_int Yak (v:=.ty "int") rfl) Jc))) (Jes (Jrq (Jy V5 rfl T.b_isinstance J96 (Jb (pv 0) (Jb (Jae rfl T.b_bool boot_bool (v:=.ty "bool") rfl) Jc)))))))),J1 h ?_⟩
 rintro as n P ⟨x,rfl,q⟩
 exact ⟨rfl,rfl,rfl,q⟩
theorem Jfo:FnScope ["_law_thing","_law_many"] ["_law_thing","_law_many"] (Je W0):=⟨rfl,rfl,rfl,by decide +kernel,rfl,by decide +kernel,by decide +kernel⟩
theorem Jfp (T:Txt mg) (D:Def K mg "_law_are_whole" W0 ["_law_thing","_law_many"]) (Gz:Cal P w K mg base "_law_whole" 1 ["_law_thing"] (Jm Jbf)):Cal P w K mg base "_law_are_whole" 2 ["_law_thing","_law_many"] (Jm Jig):=by
 refine D.cal λ f fd F=>F.ok Jfo (J5 ?_) (λ cdv A outer s H vs Q E hr h=>?_)
 . rintro as n P ⟨xs,rfl,_⟩
   rfl
 refine ⟨_,(@Ja _ _ _ _ _ (Zd (PW.pt (Jbs (Vn (Z3 (Jy V5 rfl T.b_isinstance J96 (Jb (pv 0) (Jb (Jae rfl T.b_tuple J9x (v:=.ty "tuple") rfl) Jc))))) (Jal (Jx Jlp (Jy J4 rfl T.b_len Xy (Jb (pv 0) Jc)) (pv 1) (J2 _))))) (@Ji _ _ _ (@Js _ _ _ _ Jbr)) J9)
  (@Ji _ _ _ (@Js _ _ _ _ (Jy Jg2 rfl T.b_all boot_all (Jbb (Y9 (sc:=(Je W0)) (N:=["_law_thing","_law_many"]) (N':=["_law_number"]) (k:=1) (idx:=[]) rfl (by exact ⟨rfl,by decide +kernel,by decide +kernel,by decide +kernel,by decide +kernel,by decide +kernel,rfl,rfl⟩) rfl rfl (Jnq (pv 0)) (λ _ _ _ _=>(Jv (i:=0) (show (["_law_number"]:List Str).Nodup by decide +kernel) rfl (Qa rfl) (Qw rfl))) (λ _ _ _ _=>Yy) (λ _ _ _ _=>(Y2 Gz (hr.mono (by decide)) rfl (Jb (pv 0) Jc)))) Jc))))),J1 h ?_⟩
 rintro as n P ⟨xs,rfl,hl,q⟩
 have hs:sizeLine=16777216:=J9p
 refine ⟨rfl,rfl,Wk ?_⟩
 show fEq true (.int ((xs.map Qp).length:Int)) (.int (xs.length:Int)) _
 refine Jl9 ?_
 rw [Qb,decide_eq_true rfl]
 refine Wk ⟨_,.refl,⟨rfl,by rw [Qb];omega⟩,?_⟩
 refine Wm (f:=Qp) (λ x=>.bool true) (λ x hx n K hK=>Jad ⟨x,rfl,hK⟩) ?_
 refine ⟨Qr xs.length true,by rw [J2r];rw [J48],rfl,?_⟩
 have all1:(Qr xs.length true).all id=true:=X9.mpr λ b hb=>by rw [(J2z.mp hb).2];rfl
 rw [all1]
 exact q
theorem Ji0:FnScope ["_law_book_here","_law_thing"] ["_law_book_here","_law_thing"] (Je Bs):=⟨rfl,rfl,rfl,by decide +kernel,rfl,by decide +kernel,by decide +kernel⟩
theorem Ji1 (T:Txt mg) (D:Def K mg "_law_is_sum" Bs ["_law_book_here","_law_thing"]) (Ge:Cal P w K mg base "_law_are_whole" 2 ["_law_thing","_law_many"] (Jm Jig)):Cal P w K mg base "_law_is_sum" 3 ["_law_book_here","_law_thing"] (Jm Jek):=by
 refine D.cal λ f fd F=>F.ok Ji0 (J5 ?_) (λ cdv A outer s H vs Q E hr h=>?_)
 . rintro as n P ⟨R,U,ws,wt,ht,rfl,_⟩
   rfl
 refine ⟨_,(@Ja _ _ _ _ _ (Zd (PW.pt (Jbs (Vn (Z3 (Jy V5 rfl T.b_isinstance J96 (Jb (pv 1) (Jb (Jae rfl T.b_tuple J9x (v:=.ty "tuple") rfl) Jc))))) (Jal (Jx Jlp (Jy J4 rfl T.b_len Xy (Jb (pv 1) Jc)) Jd (J2 _))))) (@Ji _ _ _ (@Js _ _ _ _ Jbr)) J9)
  (@Ja _ _ _ _ _ (Zd (Vn (Z3 (Y2 Ge (hr.mono (by decide)) rfl (Yh (Jj Jz (pv 1) Jd (λ _ _=>rfl)) (Yh (Jj Jz (pv 0) Jd (λ _ _=>rfl)) Jc))))) (@Ji _ _ _ (@Js _ _ _ _ Jbr)) J9)
  (@Ja _ _ _ _ _ (Zd (Jx (Jsg hr.units) (Y9 (sc:=(Je Bs)) (N:=["_law_book_here","_law_thing"]) (N':=["_law_weight"]) (k:=1) (idx:=[]) rfl (by exact ⟨rfl,by decide +kernel,by decide +kernel,by decide +kernel,by decide +kernel,by decide +kernel,rfl,rfl⟩) rfl rfl (Jnq (Jj Jz (pv 1) Jd (λ _ _=>rfl))) (λ _ _ _ _=>(Jv (i:=0) (show (["_law_weight"]:List Str).Nodup by decide +kernel) rfl (Qa rfl) (Qw rfl))) (λ _ _ _ _=>Ja9 (Jx Jbx (pv 0) Jd (J2 _))) (λ _ _ _ _=>(pv 0))) (@PEs.out _ _ _ (Yd Jw)) (J2 _)) (@Ji _ _ _ (@Js _ _ _ _ Jbr)) J9)
  (@Ji _ _ _ (@Js _ _ _ _ (Y2 Ge (hr.mono (by decide)) rfl (Yh (Jj Jz (pv 1) Jd (λ _ _=>rfl)) (Yh (Jj Jz (pv 0) Jd (λ _ _=>rfl)) Jc)))))))),J1 h ?_⟩
 rintro as n P ⟨R,U,ws,wt,ht,rfl,ok,lw,lh,nn,q⟩
 have hs:sizeLine=16777216:=J9p
 have r1:=ok.r1
 have p1:=ok.p1
 refine ⟨rfl,rfl,Wk (Jl9 (Wk ⟨_,.refl,_,rfl,_,rfl,wt,by rw [lw],by omega,Wk ⟨_,.refl,_,rfl,⟨rfl,by rw [Qb];omega⟩,?_⟩⟩))⟩
 refine Jd6 (g:=Qp) (h:=Qp) (p:=λ x=>decide (x<0)) (λ x hx K k1 k2=>Y4 (λ c=>k1 c) (λ c=>k2 c)) ?_
 have e:wt.filter (λ x=>decide (x<0))=[]:=J64.mpr λ x hx=>by have:=nn x hx;simp;omega
 rw [e]
 exact ⟨Q5 rfl,⟨⟨rfl,rfl,by decide⟩,Wk ⟨_,.refl,_,rfl,_,rfl,ht,by rw [lh],by omega,q⟩⟩⟩
theorem V9:FnScope ["_law_book_here","_law_total","_law_k","_law_a","_law_b","_law_gains_here","_law_found","_law_p"] ["_law_book_here","_law_total","_law_k"] (Je Jdn):=⟨rfl,rfl,rfl,by decide +kernel,rfl,by decide +kernel,by decide +kernel⟩
theorem Jnh (T:Txt mg) (D:Def K mg "_law_fall" Jdn ["_law_book_here","_law_total","_law_k"]):Cal P w K mg base "_law_fall" 1 ["_law_book_here","_law_total","_law_k"] (Jm Jel):=by
 refine D.cal λ f fd F=>F.ok V9 (J5 ?_) (λ cdv A outer s H vs Q E hr h=>?_)
 . rintro as n P ⟨R,U,ws,wt,ht,k,rfl,_⟩
   rfl
 refine ⟨_,(@Ja _ _ _ _ _ (Yn (Jj Jz (Jj Jz (pv 0) Jd (λ _ _=>rfl)) (pv 2) (λ _ _=>rfl)) (Bp (K':=K) (i:=3) (j:=4) (m:=5) rfl V9.nd ⟨rfl,(Qa rfl),(Qa rfl)⟩ ⟨rfl,(Qa rfl),(Qa rfl)⟩ ⟨rfl,(Qa rfl),(Qa rfl)⟩ rfl))
  (@Ja _ _ _ _ _ (J0 (i:=6) V9.nd rfl (Qa rfl) (Ju Bx (Jj Jz (Jj Jz (pv 1) Jd (λ _ _=>rfl)) (pv 3) (λ _ _=>rfl)) (Jj Jz (Jj Jz (pv 1) Jd (λ _ _=>rfl)) (pv 4) (λ _ _=>rfl))))
  (@Ja _ _ _ _ _ (Zt Xm rfl (Yp rfl T.b_range (Yh (Jj Jz (pv 0) Jd (λ _ _=>rfl)) Jc)) (Jv (i:=7) V9.nd rfl (Qa rfl) (Qa rfl))
  (@Ji _ _ _ (J0 (i:=6) V9.nd rfl (Qa rfl) (Ju Bx (pv 6) (Ju Jcp (Jj Jz (Jj Jz (pv 1) Jd (λ _ _=>rfl)) (pv 7) (λ _ _=>rfl)) (Jj Jz (pv 5) (pv 7) (λ _ _=>rfl)))))))
  (@Ji _ _ _ (@Js _ _ _ _ (pv 6)))))),J1 h ?_⟩
 rintro as n P ⟨R,U,ws,wt,ht,k,rfl,ok,sb,hk,q⟩
 have hs:sizeLine=16777216:=J9p
 have p0:=ok.p0
 have wl:=ok.len
 have lw:=sb.lw
 have lh:=sb.lh
 have wok:=ok.ways _ (Y3 (k:=(k:Int)) (Xq k) (by omega))
 have a0:=wok.a0
 have a1:=wok.a1
 have b0:=wok.b0
 have b1:=wok.b1
 have gl:=wok.len
 have hat:∀ {x:Int},0<=x->x<R->atI (ht.map Qp) x=some (.int (ht.getD x.toNat 0)):=λ {x} x0 x1=>Yi x0 (Jai (by omega))
 refine ⟨rfl,_,rfl,_,B6 (Xq k) (by omega),rfl,rfl,⟨_,.refl,_,rfl,_,hat a0 a1,_,rfl,_,hat b0 b1,⟨_,.refl,?_⟩⟩⟩
 refine ⟨_,rfl,U,rfl,⟨by omega,by have:=ok.p1;omega⟩,?_⟩
 refine ⟨λ i env j=>j=n/\∃ x:Vl,env=[.d (J7 R U ws),.d (Jm6 wt ht),.d (Jq k),.d (.int (Jh ws (k:Int)).a),.d (.int (Jh ws (k:Int)).b),.d (.tuple ((Jh ws (k:Int)).g.map .int)),.d (.int (ht.getD (Jh ws (k:Int)).a.toNat 0-ht.getD (Jh ws (k:Int)).b.toNat 0-Job wt (Jh ws (k:Int)).g i)),x],⟨rfl,.jnk,?_⟩,?_,?_⟩
 . show [_,_,_,_,_,_,Vl.d (.int _),_]=[_,_,_,_,_,_,Vl.d (.int (_-(0:Int))),_]
   rw [J42]
 . rintro i x env j hx ⟨rfl,x',rfl⟩
   obtain ⟨hi,rfl⟩:=Jgg hx
   have iw:i<wt.length:=by omega
   have ig:i<(Jh ws (k:Int)).g.length:=by omega
   have ax:atI (wt.map Qp) ((i:Nat):Int)=some (.int (wt.getD i 0)):=Yi (by omega) (by rw [Q0];exact Jai iw)
   have ay:atI ((Jh ws (k:Int)).g.map Qp) ((i:Nat):Int)=some (.int ((Jh ws (k:Int)).g.getD i 0)):=Yi (by omega) (by rw [Q0];exact Jai ig)
   refine ⟨_,rfl,_,ax,_,ay,Vt ?_ ?_,rfl,.d (.int i),?_⟩
   . have m:wt.getD i 0∈wt:=by rw [Qi,Qf iw];exact Xp iw
     exact Xd (sb.bw _ m) (Jcf (by decide))
   . have:=wok.small _ (Xp ig)
     rw [Qi,Qf ig]
     have e:(100:Nat)<=2^9000:=Xl (by decide) (Jcf (a:=7) (by decide))
     show ((Jh ws (k:Int)).g[i]).natAbs<2^9000
     generalize 2^9000=z at e ⊢
     omega
   . rw [Jq2,<- Int.sub_sub]
     rfl
 . rintro env j ⟨rfl,x,rfl⟩
   rw [Yf]
   unfold Jaf at q
   rw [show wt.length=U.toNat by omega] at q
   exact ⟨_,.refl,q⟩
theorem Jni:FnScope ["_law_book_here","_law_total","_law_some"] ["_law_book_here","_law_total","_law_some"] (Je Jbo):=⟨rfl,rfl,rfl,by decide +kernel,rfl,by decide +kernel,by decide +kernel⟩
theorem Jnj (T:Txt mg) (D:Def K mg "_law_kept" Jbo ["_law_book_here","_law_total","_law_some"]) (Gp:Cal P w K mg base "_law_fall" 1 ["_law_book_here","_law_total","_law_k"] (Jm Jel)):Cal P w K mg base "_law_kept" 2 ["_law_book_here","_law_total","_law_some"] (Jm Jgp):=by
 refine D.cal λ f fd F=>F.ok Jni (J5 ?_) (λ cdv A outer s H vs Q E hr h=>?_)
 . rintro as n P ⟨R,U,ws,wt,ht,ks,rfl,_⟩
   rfl
 refine ⟨_,(@Ji _ _ _ (@Js _ _ _ _ (Wi (Jg1 hr.units) (Y9 (sc:=(Je Jbo)) (N:=["_law_book_here","_law_total","_law_some"]) (N':=["_law_k","_law_book_here","_law_total"]) (k:=1) (idx:=[0,1]) rfl (by exact ⟨rfl,by decide +kernel,by decide +kernel,by decide +kernel,by decide +kernel,by decide +kernel,rfl,rfl⟩) rfl rfl (Zq (pv 2)) (λ _ _ _ _=>(Jv (i:=0) (show (["_law_k","_law_book_here","_law_total"]:List Str).Nodup by decide +kernel) rfl (Qa rfl) (Qw rfl))) (λ _ _ _ _=>Ja9 (Jx Jbx (Y2 Gp (hr.mono (by decide)) rfl (Jb (pv 1) (Jb (pv 2) (Jb (pv 0) Jc)))) Jd (J2 _))) (λ _ _ _ _=>(pv 0))) (@PEs.out _ _ _ (Yd Jw)) (J2 _)))),J1 h ?_⟩
 rintro as n P ⟨R,U,ws,wt,ht,ks,rfl,ok,sb,hk,hl,kp,q⟩
 have hs:sizeLine=16777216:=J9p
 refine ⟨rfl,⟨rfl,by rw [Qb];omega⟩,?_⟩
 refine Jd6 (g:=Jq) (h:=Jq) (p:=λ k:Nat=>decide (Jaf ws wt ht (k:Int)<0)) (λ k hkk K k1 k2=>⟨R,U,ws,wt,ht,k,rfl,ok,sb,hk k hkk,Y4 (λ c=>k1 c) (λ c=>k2 c)⟩) ?_
 have e:ks.filter (λ k:Nat=>decide (Jaf ws wt ht (k:Int)<0))=[]:=J64.mpr λ k hkk=>by have:=kp k hkk;simp;omega
 rw [e]
 exact ⟨Q5 rfl,⟨⟨rfl,rfl,by decide⟩,q⟩⟩
theorem Zm:FnScope ["_law_book_here","_law_counts","_law_rooms","_law_found","_law_count","_law_way","_law_p"] ["_law_book_here","_law_counts"] (Je Vy):=⟨rfl,rfl,rfl,by decide +kernel,rfl,by decide +kernel,by decide +kernel⟩
theorem Jep (T:Txt mg) (D:Def K mg "_law_round_gain" Vy ["_law_book_here","_law_counts"]) (Ge:Cal P w K mg base "_law_are_whole" 2 ["_law_thing","_law_many"] (Jm Jig)):Cal P w K mg base "_law_round_gain" 3 ["_law_book_here","_law_counts"] (Jm Jih):=by
 refine D.cal λ f fd F=>F.ok Zm (J5 ?_) (λ cdv A outer s H vs Q E hr h=>?_)
 . rintro as n P ⟨R,U,ws,cs,rfl,_⟩
   rfl
 refine ⟨_,(@Ja _ _ _ _ _ (Zd (PW.pt (Jbs (Vn (Z3 (Y2 Ge (hr.mono (by decide)) rfl (Jb (pv 1) (Z7 (Jy J4 rfl T.b_len Xy (Yh (Jj Jz (pv 0) Jd (λ _ _=>rfl)) Jc)) Jc))))) (Jal (Jx (Jg1 hr.units) (pv 1) (Ju Jvg (@PEs.out _ _ _ (Zy (Jt Ya Jw))) (Jy J4 rfl T.b_len Xy (Jb (pv 1) Jc))) (J2 _))))) (@Ji _ _ _ (@Js _ _ _ _ Ba)) J9)
  (@Ja _ _ _ _ _ (J0 (i:=2) Zm.nd rfl (Qa rfl) (Ju Ja7 (@PEs.out _ _ _ (Yd (Jt Ya Jw))) (Jj Jz (pv 0) Jd (λ _ _=>rfl))))
  (@Ja _ _ _ _ _ (J0 (i:=3) Zm.nd rfl (Qa rfl) (Ju Ja7 (@PEs.out _ _ _ (Yd (Jt Ya Jw))) (Jj Jz (pv 0) Jd (λ _ _=>rfl))))
  (@Ja _ _ _ _ _ (Zt Xm rfl (Jbc rfl T.b_zip (Jb (pv 1) (Yh (Jj Jz (pv 0) Jd (λ _ _=>rfl)) Jc))) (Wl (K':=K) (i:=4) (j:=5) rfl Zm.nd ⟨rfl,(Qa rfl),(Qa rfl)⟩ ⟨rfl,(Qa rfl),(Qa rfl)⟩ rfl)
  (@Ja _ _ _ _ _ (Zd (Jx Jbx (pv 4) Jd (J2 _)) (@Ji _ _ _ (@Js _ _ _ _ Ba)) J9)
  (@Ja _ _ _ _ _ (Yn (Ju Bx (Jj Jr (pv 2) (Jj Jz (pv 5) Jd (λ _ _=>rfl)) (λ _ _=>rfl)) (pv 4)) (Zs (pv 2) (Jj Jz (pv 5) Jd (λ _ _=>rfl)) Yq ))
  (@Ja _ _ _ _ _ (Yn (Ju Zw (Jj Jr (pv 2) (Jj Jz (pv 5) Jd (λ _ _=>rfl)) (λ _ _=>rfl)) (pv 4)) (Zs (pv 2) (Jj Jz (pv 5) Jd (λ _ _=>rfl)) Yq ))
  (@Ji _ _ _ (Zt Xm rfl (Yp rfl T.b_range (Yh (Jj Jz (pv 0) Jd (λ _ _=>rfl)) Jc)) (Jv (i:=6) Zm.nd rfl (Qa rfl) (Qa rfl))
  (@Ji _ _ _ (Yn (Ju Zw (Jj Jr (pv 3) (pv 6) (λ _ _=>rfl)) (Ju Jcp (pv 4) (Jj Jz (Jj Jz (pv 5) Jd (λ _ _=>rfl)) (pv 6) (λ _ _=>rfl)))) (Zs (pv 3) (pv 6) Yq (λ v=>J3 _ _ _ _ _ v))))))))))
  (@Ji _ _ _ (@Js _ _ _ _ (Jgq (Jx (Jg1 hr.units) (pv 2) (Ju Ja7 (@PEs.out _ _ _ (Yd (Jt Ya Jw))) (Jj Jz (pv 0) Jd (λ _ _=>rfl))) (J2 _)) (pv 3) Ba))))))),J1 h ?_⟩
 rintro as n P ⟨R,U,ws,cs,rfl,ok,rd,q⟩
 have hs:sizeLine=16777216:=J9p
 have r0:=ok.r0
 have r1:=ok.r1
 have p0:=ok.p0
 have p1:=ok.p1
 have wl:=ok.len
 have cl:=rd.ro.len
 have getn:∀ i,0<=cs.getD i 0:=λ i=>Jtn rd.ro.nn i
 obtain ⟨k0,hk0⟩:=rd.ne
 have e0:X8 (.tuple (cs.map Qp)) (.tuple ((Qr cs.length (0:Int)).map Qp))=false:=by
  rw [Jro]
  refine decide_eq_false λ e=>?_
  rw [e,Qi,U2] at hk0
  split at hk0<;>exact absurd hk0 (by decide)
 refine ⟨rfl,_,rfl,cs,by rw [Qb,cl],by omega,Wk ?_⟩
 refine ⟨Q5 rfl,by simp,by rw [Qb];omega,by rw [Qb];show (1:Int)*(cs.length:Int)<=_;omega,?_⟩
 rw [Qb,show ((cs.length:Nat):Int).toNat=cs.length from Q0 _,Jd1,show Qr cs.length (Qp 0)=(Qr cs.length (0:Int)).map .int by rw [J2r]]
 refine ⟨⟨by rw [Ue];exact Jdc _,by rw [Ue];exact Jdc _,Xl (J4u _ _) (by rw [J21,Je9];decide)⟩,?_⟩
 rw [e0]
 refine Wk ⟨_,.refl,Vp (Q5 rfl),_,rfl,⟨by omega,by omega,by simp;omega⟩,?_⟩
 rw [Jsz]
 refine ⟨_,.refl,Vp (Q5 rfl),_,rfl,⟨by omega,by omega,by simp;omega⟩,?_⟩
 rw [Jsz]
 refine ⟨[.d (J7 R U ws),.d (.tuple (cs.map .int)),.own (fl R.toNat λ r=>Wq ws cs 0 (r:Nat)),.own (fl U.toNat λ p=>gpI ws cs 0 p),.jnk,.jnk,.jnk],.eq rfl,_,rfl,_,_,_,_,rfl,rfl,rfl,?_⟩
 refine ⟨λ i env j=>j=n/\∃ x y z:Vl,env=[.d (J7 R U ws),.d (.tuple (cs.map .int)),.own (fl R.toNat λ r=>Wq ws cs i (r:Nat)),.own (fl U.toNat λ p=>gpI ws cs i p),x,y,z],⟨rfl,_,_,_,rfl⟩,?_,?_⟩
 . rintro i x env j hx ⟨rfl,x',y',z',rfl⟩
   obtain ⟨hi,rfl⟩:=Juy cl hx
   have wok:=ok.ways _ (Y3 (k:=(i:Int)) (Xq i) (by omega))
   have a0:=wok.a0
   have a1:=wok.a1
   have b0:=wok.b0
   have b1:=wok.b1
   have gl:=wok.len
   have ci:=getn i
   refine ⟨rfl,rfl,Jdz (decide_eq_false (by omega)) ⟨_,.refl,_,rfl,_,Yi a0 (Jhe (by omega)),_,rfl,_,Jg5 a0 (by rw [Jda];omega),?_⟩⟩
   rw [Je5]
   refine ⟨_,.refl,_,rfl,_,Yi b0 (Jhe (by omega)),_,rfl,_,Jg5 b0 (by rw [Jda];omega),?_⟩
   rw [Je5]
   have key:fl R.toNat (putF (putF (λ r=>Wq ws cs i (r:Nat)) (Jh ws (i:Int)).a.toNat (Wq ws cs i ((Jh ws (i:Int)).a.toNat:Nat)-cs.getD i 0)) (Jh ws (i:Int)).b.toNat (putF (λ r=>Wq ws cs i (r:Nat)) (Jh ws (i:Int)).a.toNat (Wq ws cs i ((Jh ws (i:Int)).a.toNat:Nat)-cs.getD i 0) (Jh ws (i:Int)).b.toNat+cs.getD i 0))=fl R.toNat λ r=>Wq ws cs (i+1) (r:Nat):=by
    refine Jkf λ r hr=>?_
    unfold putF
    dsimp only
    rw [Wq]
    have h1:((Jh ws (i:Nat)).a=((r:Nat):Int))↔r=(Jh ws (i:Nat)).a.toNat:=by omega
    have h2:((Jh ws (i:Nat)).b=((r:Nat):Int))↔r=(Jh ws (i:Nat)).b.toNat:=by omega
    by_cases c2:r=(Jh ws (i:Nat)).b.toNat
    . rw [if_pos c2,if_pos (h2.mpr c2)]
      by_cases c1:r=(Jh ws (i:Nat)).a.toNat
      . rw [if_pos (h1.mpr c1),if_pos (by rw [<- c2,<- c1]),<- c1]
      . rw [if_neg (mt h1.mp c1),if_neg (by rw [<- c2];exact c1),<- c2];omega
    . rw [if_neg c2,if_neg (mt h2.mp c2)]
      by_cases c1:r=(Jh ws (i:Nat)).a.toNat
      . rw [if_pos (h1.mpr c1),if_pos c1,<- c1];omega
      . rw [if_neg (mt h1.mp c1),if_neg c1];omega
   refine ⟨[.d (J7 R U ws),.d (.tuple (cs.map .int)),.own (fl R.toNat λ r=>Wq ws cs (i+1) (r:Nat)),.own (fl U.toNat λ p=>gpI ws cs i p),.d (.int (cs.getD i 0)),.d (Y8 (Jh ws (i:Int))),z'],.eq (by show [_,_,Vl.own _,_,_,_,_]=[_,_,Vl.own _,_,_,_,_];rw [key]),_,rfl,U,rfl,⟨by omega,by omega⟩,?_⟩
   refine ⟨λ p env j'=>j'=j/\∃ z:Vl,env=[.d (J7 R U ws),.d (.tuple (cs.map .int)),.own (fl R.toNat λ r=>Wq ws cs (i+1) (r:Nat)),.own (fl U.toNat λ t=>if t<p then gpI ws cs (i+1) t else gpI ws cs i t),.d (.int (cs.getD i 0)),.d (Y8 (Jh ws (i:Int))),z],⟨rfl,z',?_⟩,?_,?_⟩
   . rfl
   . rintro p x env j' hx ⟨rfl,z,rfl⟩
     obtain ⟨hp,rfl⟩:=Jgg hx
     have pg:p<(Jh ws (i:Int)).g.length:=by omega
     have ap:atI ((Jh ws (i:Int)).g.map Qp) ((p:Nat):Int)=some (.int ((Jh ws (i:Int)).g.getD p 0)):=Yi (by omega) (by rw [Q0];exact Jai pg)
     have af:atI (fl U.toNat λ t=>if t<p then gpI ws cs (i+1) t else gpI ws cs i t) ((p:Nat):Int)=some (.int (gpI ws cs i p)):=Yi (by omega) (by rw [Q0,Jhe hp,if_neg (Xf _)])
     refine ⟨_,af,_,rfl,_,ap,Vt ?_ ?_,p,B2 (by omega) (by rw [Jda];omega),rfl,.d (.int p),?_⟩
     . have m:cs.getD i 0∈cs:=by rw [Qi,Qf (by omega)];exact Xp _
       exact Xd (rd.bd _ m) (Jcf (by decide))
     . have:=wok.small _ (Xp pg)
       rw [Qi,Qf pg]
       have e:(100:Nat)<=2^9000:=Xl (by decide) (Jcf (a:=7) (by decide))
       show ((Jh ws (i:Int)).g[p]).natAbs<2^9000
       generalize 2^9000=z at e ⊢
       omega
     . rw [Je5]
       have kf:fl U.toNat (putF (λ t=>if t<p then gpI ws cs (i+1) t else gpI ws cs i t) p (gpI ws cs i p+cs.getD i 0*(Jh ws (i:Int)).g.getD p 0))=fl U.toNat λ t=>if t<p+1 then gpI ws cs (i+1) t else gpI ws cs i t:=by
        refine Jkf λ t ht=>?_
        unfold putF
        by_cases e:t=p
        . subst e
          rw [if_pos rfl,if_pos (by omega),Jux]
        . rw [if_neg e]
          dsimp only
          by_cases c:t<p
          . rw [if_pos c,if_pos (by omega)]
          . rw [if_neg c,if_neg (by omega)]
       rw [kf]
       rfl
   . rintro env j' ⟨rfl,z,rfl⟩
     rw [Yf]
     refine ⟨rfl,.d (.int (cs.getD i 0)),.d (Y8 (Jh ws (i:Int))),z,?_⟩
     rw [Jkf (f:=λ t=>if t<U.toNat then gpI ws cs (i+1) t else gpI ws cs i t) (g:=λ p=>gpI ws cs (i+1) p) (λ t ht=>if_pos ht)]
 . rintro env j ⟨rfl,x,y,z,rfl⟩
   have lz:(Vf (cs.map Qp) (ws.map Y8)).length=ws.length:=by rw [V6,Qb,Qb];omega
   rw [lz]
   have er:fl R.toNat (λ r=>Wq ws cs ws.length (r:Nat))=(Qr R.toNat (0:Int)).map .int:=by
    rw [Jkf (g:=λ _=>0) (λ r hr=>rd.ro.bal r hr)]
    unfold fl
    rw [J2r,J48,Q2]
   rw [er]
   refine ⟨_,.fz 3 _ rfl .refl,Vp (Q5 rfl),_,rfl,⟨by omega,by omega,by simp;omega⟩,?_⟩
   rw [Jmo]
   have hl:Ue (.list ((Qr R.toNat (0:Int)).map .int))=true:=by rw [Ue];exact Jdc _
   refine ⟨⟨hl,hl,Xl (J4u _ _) (by rw [J21,Je9];decide)⟩,?_⟩
   rw [J6i _ hl]
   refine Jad ?_
   have ef:(fl U.toNat λ p=>gpI ws cs ws.length p)=(rgI ws cs U).map .int:=by unfold fl rgI;rw [Qy];rfl
   rw [<- ef] at q
   exact q
theorem Ji2:FnScope ["_law_counts","_law_some"] ["_law_counts","_law_some"] (Je Bt):=⟨rfl,rfl,rfl,by decide +kernel,rfl,by decide +kernel,by decide +kernel⟩
theorem Ji3 (T:Txt mg) (D:Def K mg "_law_within" Bt ["_law_counts","_law_some"]):Cal P w K mg base "_law_within" 1 ["_law_counts","_law_some"] (Jm Jcw):=by
 refine D.cal λ f fd F=>F.ok Ji2 (J5 ?_) (λ cdv A outer s H vs Q E hr h=>?_)
 . rintro as n P ⟨cs,ks,rfl,_⟩
   rfl
 refine ⟨_,(@Ji _ _ _ (@Js _ _ _ _ (Wi (Jg1 hr.units) (Y9 (sc:=(Je Bt)) (N:=["_law_counts","_law_some"]) (N':=["_law_k","_law_counts","_law_some"]) (k:=1) (idx:=[0,1]) rfl (by exact ⟨rfl,by decide +kernel,by decide +kernel,by decide +kernel,by decide +kernel,by decide +kernel,rfl,rfl⟩) rfl rfl (Yp rfl T.b_range (Z7 (Jy J4 rfl T.b_len Xy (Jb (pv 0) Jc)) Jc)) (λ _ _ _ _=>(Jv (i:=0) (show (["_law_k","_law_counts","_law_some"]:List Str).Nodup by decide +kernel) rfl (Qa rfl) (Qw rfl))) (λ _ _ _ _=>Ja9 (PW.pt (Jc4 (Jx Jlp (Jj (Z8 (K':=K) rfl) (pv 1) (pv 0) (λ _ _=>rfl)) Jd (J2 _)) (Ja4 (Jx (Jc2 (K':=K) rfl) (pv 0) (pv 2) (by with_unfolding_all rfl)))))) (λ _ _ _ _=>(pv 0))) (@PEs.out _ _ _ (Yd Jw)) (J2 _)))),J1 h ?_⟩
 rintro as n P ⟨cs,ks,rfl,hl,sub,q⟩
 have hs:sizeLine=16777216:=J9p
 have isin:∀ ν:Nat,inD (Jq ν) (ks.map Jq)=decide (ν∈ks):=λ ν=>by
  have:=Jd4 (k:=(ν:Int)) (ns:=nI ks)
  unfold nI at this
  rw [Qy] at this
  rw [show ks.map Jq=ks.map (Qp∘λ k:Nat=>(k:Int)) from rfl,this]
  exact decide_eq_decide.mpr ⟨λ h=>by obtain ⟨k,hk,e⟩:=Qo.mp h;rwa [<- show k = ν by exact_mod_cast e],λ h=>Qo.mpr ⟨ν,h,rfl⟩⟩
 have scw:(ks.map Jq).all W9=true:=X9.mpr λ x hx=>by obtain ⟨k,_,rfl⟩:=Qo.mp hx;rfl
 refine ⟨rfl,_,rfl,⟨by omega,by rw [Qb];omega⟩,⟨rfl,by rw [Yf,Qb];omega⟩,?_⟩
 rw [Qb,show ((cs.length:Nat):Int).toNat=cs.length from Q0 _]
 have ac:∀ i,i<cs.length->atI (cs.map Qp) (0+((i:Nat):Int))=some (.int (cs.getD i 0)):=λ i hi=>Yi (by omega) (by rw [J20,Q0];exact Jai hi)
 refine Jd0 (λ i=>decide (cs.getD i 0≠0) && !decide (i∈ks)) (λ i=>Jq i) (λ i hi n K k1 k2=>⟨_,ac i hi,Jl9 (Y4 (λ c=>?_) (λ c=>?_))⟩) ?_
 . rw [J20]
   refine ⟨rfl,scw,?_⟩
   show if (!inD (Jq i) (ks.map Jq))=true then _ else _
   rw [isin]
   have c1:decide (cs.getD i 0≠0)=true:=by
    have c:(!decide (cs.getD i 0=0))=true:=c
    simpa using c
   rw [c1,J6j] at k1 k2
   exact Y4 k1 k2
 . have c1:decide (cs.getD i 0≠0)=false:=by
    have c:(!decide (cs.getD i 0=0))=false:=c
    simpa using c
   rw [c1,J37] at k2
   exact Wk (k2 rfl)
 . have e:(Qn cs.length).filter (λ i=>decide (cs.getD i 0≠0) && !decide (i∈ks))=[]:=J64.mpr λ i _=>by
    by_cases c:cs.getD i 0=0
    . rw [decide_eq_false (λ z=>z c)];simp
    . rw [decide_eq_true (sub i c)];simp
   rw [e]
   exact ⟨Q5 rfl,⟨⟨rfl,rfl,by decide⟩,q⟩⟩
theorem Jbp:FnScope ["_law_tape_here","_law_book_here","_law_all","_law_some"] ["_law_tape_here","_law_book_here"] (Je Jak):=⟨rfl,rfl,rfl,by decide +kernel,rfl,by decide +kernel,by decide +kernel⟩
theorem Jlk (T:Txt mg) (D:Def K mg "_law_lists" Jak ["_law_tape_here","_law_book_here"]) (Ga:Cal P w K mg base "_law_draw" 1 ["_law_tape_here","_law_many"] (Jm Jb7)) (Gr:Cal P w K mg base "_law_rings" 2 ["_law_book_here","_law_some"] (Jm Jht)):Cal P w K mg base "_law_lists" 3 ["_law_tape_here","_law_book_here"] (Jm Jle):=by
 refine D.cal λ f fd F=>F.ok Jbp (J5 ?_) (λ cdv A outer s H vs Q E hr h=>?_)
 . rintro as n P ⟨R,U,ws,rfl,_⟩
   rfl
 refine ⟨_,(@Ja _ _ _ _ _ (J0 (i:=2) Jbp.nd rfl (Qa rfl) (Jj9 rfl rfl T.b_list rfl T.b_range (Z7 (Jy J4 rfl T.b_len Xy (Yh (Jj Jz (pv 1) Jd (λ _ _=>rfl)) Jc)) Jc)))
  (@Ja _ _ _ _ _ (W2 (i:=3) (sc:=(Je Jak)) (N:=["_law_tape_here","_law_book_here","_law_all","_law_some"]) (N':=["_law_k","_law_tape_here"]) (k:=1) (idx:=[0]) rfl Jbp.nd rfl rfl (by exact ⟨rfl,by decide +kernel,by decide +kernel,by decide +kernel,by decide +kernel,by decide +kernel,rfl,rfl⟩) rfl rfl (Zq (pv 2)) (λ _ _ _ _=>(Jv (i:=0) (show (["_law_k","_law_tape_here"]:List Str).Nodup by decide +kernel) rfl (Qa rfl) (Qw rfl))) (λ _ _ _ _=>Ja9 (Jx Ji6 (Y2 Ga (hr.mono (by decide)) rfl (Jb (pv 1) (Zj Jd Jc))) Jd (J2 _))) (λ _ _ _ _=>(pv 0)))
  (@Ji _ _ _ (@Js _ _ _ _ (Ju Jgx (Y2 Gr (hr.mono (by decide)) rfl (Jb (pv 1) (Jb (pv 2) Jc))) (Y2 Gr (hr.mono (by decide)) rfl (Jb (pv 1) (Jb (pv 3) Jc)))))))),J1 h ?_⟩
 rintro as n P ⟨R,U,ws,rfl,ok,hn,q⟩
 have hs:sizeLine=16777216:=J9p
 have wl:=ok.len
 refine ⟨rfl,_,rfl,_,rfl,by omega,by rw [Qb];omega,?_⟩
 rw [Qb,show ((ws.length:Nat):Int).toNat=ws.length from Q0 _,show ((Qn ws.length).map λ i:Nat=>Qp (i:Int))=(evI ws).map .int by unfold evI;rw [Qy];rfl]
 have el:(evI ws).length=ws.length:=by unfold evI;rw [Qb,Q2]
 refine ⟨_,.refl,⟨rfl,by rw [Qb,el];omega⟩,?_⟩
 refine Jdi (g:=Qp) 1 (n+60) (λ k hk n' hn' K k1 k2=>⟨4,rfl,by omega,by decide,by decide +kernel,λ r r0 r1=>Y4 (λ c=>k1 _ (by omega)) (λ c=>k2 _ (by omega))⟩) (by rw [el];omega) λ ms n2 hm h2=>?_
 rw [el] at h2
 have ml:=hm.length_le
 rw [el] at ml
 refine ⟨[.tape,.d (J7 R U ws),.d (.list ((evI ws).map .int)),.d (.list (ms.map .int))],.fz 2 _ rfl (.fz 3 _ rfl .refl),?_⟩
 have min:∀ k∈ms,0<=k/\k<ws.length:=λ k hk=>Jo0 k (hm.subset hk)
 refine ⟨R,U,ws,evI ws,rfl,ok,Jo0,by omega,λ rs hI=>⟨R,U,ws,ms,rfl,ok,min,by omega,λ rs2 hI2=>⟨?_,?_⟩⟩⟩
 . have:=hI.len
   have:=hI2.len
   rw [Qb,Qb];omega
 . have n1:∀ r∈rs,IsRing R ws (toN r)/\(∀ k∈r,0<=k):=λ r hr=>Jf2 ok Jo0 (Ju0 ws) hI hr
   have n2:∀ r∈rs2,IsRing R ws (toN r)/\(∀ k∈r,0<=k):=λ r hr=>Jf2 ok min ((Ju0 ws).sublist hm) hI2 hr
   have all:∀ r∈rs++rs2,IsRing R ws (toN r)/\(∀ k∈r,0<=k):=λ r hr=>(Q4.mp hr).elim (n1 r) (n2 r)
   have e:rs.map Jmj++rs2.map Jmj=((rs++rs2).map toN).map λ ks=>X4 (ks.map Jq):=by
    rw [<- Q1,Qy]
    refine Ug λ r hr=>?_
    show Jmj r = .list ((toN r).map Jq)
    rw [Jw1 (all r hr).2];rfl
   rw [e]
   refine q _ _ (λ ks hks=>?_) ?_ (by omega)
   . obtain ⟨r,hr,rfl⟩:=Qo.mp hks
     exact (all r hr).1
   . have:=hI.len
     have:=hI2.len
     rw [Qb,Xc];omega
theorem Jeq:FnScope ["_law_book_here","_law_ring","_law_k","_law_answer","_law_gain_here"] ["_law_book_here","_law_ring","_law_k","_law_answer"] (Je Jch):=⟨rfl,rfl,rfl,by decide +kernel,rfl,by decide +kernel,by decide +kernel⟩
theorem Jll (T:Txt mg) (D:Def K mg "_law_right" Jch ["_law_book_here","_law_ring","_law_k","_law_answer"]) (G0:Cal P w K mg base "_law_is_sum" 3 ["_law_book_here","_law_thing"] (Jm Jek)) (G3:Cal P w K mg base "_law_kept" 2 ["_law_book_here","_law_total","_law_some"] (Jm Jgp)) (Gp:Cal P w K mg base "_law_fall" 1 ["_law_book_here","_law_total","_law_k"] (Jm Jel)) (G4:Cal P w K mg base "_law_round_gain" 3 ["_law_book_here","_law_counts"] (Jm Jih)) (G5:Cal P w K mg base "_law_within" 1 ["_law_counts","_law_some"] (Jm Jcw)):Cal P w K mg base "_law_right" 4 ["_law_book_here","_law_ring","_law_k","_law_answer"] (Jm Jfh):=by
 refine D.cal λ f fd F=>F.ok Jeq (J5 ?_) (λ cdv A outer s H vs Q E hr h=>?_)
 . rintro as n P ⟨R,U,ws,ks,k,d,rfl,_⟩
   rfl
 refine ⟨_,(@Ja _ _ _ _ _ (Zd (PW.pt (Jbs (Vn (Z3 (Jy V5 rfl T.b_isinstance J96 (Jb (pv 3) (Jb (Jae rfl T.b_tuple J9x (v:=.ty "tuple") rfl) Jc))))) (Jbs (Jx Jlp (Jy J4 rfl T.b_len Xy (Jb (pv 3) Jc)) Jd (J2 _)) (Jal (Vn (Z3 (Jy V5 rfl T.b_isinstance J96 (Yh (Jj Jz (pv 3) Jd (λ _ _=>rfl)) (Jb (Jae rfl T.b_str boot_str (v:=.ty "str") rfl) Jc))))))))) (@Ji _ _ _ (@Js _ _ _ _ Jbr)) J9)
  (@Ja _ _ _ _ _ (Zd (Jx Jc0 (Jj Jz (pv 3) Jd (λ _ _=>rfl)) Jnk (J2 _)) (@Ja _ _ _ _ _ (Zd (PW.pt (Jbs (Vn (Z3 (Y2 G0 (hr.mono (by decide)) rfl (Jb (pv 0) (Yh (Jj Jz (pv 3) Jd (λ _ _=>rfl)) Jc))))) (Jal (Vn (Z3 (Y2 G3 (hr.mono (by decide)) rfl (Jb (pv 0) (Yh (Jj Jz (pv 3) Jd (λ _ _=>rfl)) (Jb (pv 1) Jc))))))))) (@Ji _ _ _ (@Js _ _ _ _ Jbr)) J9)
  (@Ji _ _ _ (@Js _ _ _ _ (Wi Jw8 (Y2 Gp (hr.mono (by decide)) rfl (Jb (pv 0) (Yh (Jj Jz (pv 3) Jd (λ _ _=>rfl)) (Jb (pv 2) Jc)))) Jd (J2 _))))) J9)
  (@Ja _ _ _ _ _ (Zd (Jx Jlp (Jj Jz (pv 3) Jd (λ _ _=>rfl)) Jnk (J2 _)) (@Ji _ _ _ (@Js _ _ _ _ Jbr)) J9)
  (@Ja _ _ _ _ _ (J0 (i:=4) Jeq.nd rfl (Qa rfl) (Y2 G4 (hr.mono (by decide)) rfl (Jb (pv 0) (Yh (Jj Jz (pv 3) Jd (λ _ _=>rfl)) Jc))))
  (@Ja _ _ _ _ _ (Zd (PW.pt (Jbs (Jx Jgs (pv 4) Ba (J2 _)) (Jbs (Jx Jbx (Jy (Jjg rfl) rfl T.b_min boot_min (Jb (pv 4) Jc)) Jd (J2 _)) (Jal (Jx Jbx (Jj Jz (Jj Jz (pv 3) Jd (λ _ _=>rfl)) (pv 2) (λ _ _=>rfl)) Jd (J2 _)))))) (@Ji _ _ _ (@Js _ _ _ _ Jbr)) J9)
  (@Ji _ _ _ (@Js _ _ _ _ (Y2 G5 (hr.mono (by decide)) rfl (Yh (Jj Jz (pv 3) Jd (λ _ _=>rfl)) (Jb (pv 1) Jc)))))))))),J1 h ?_⟩
 rintro as n P ⟨R,U,ws,ks,k,d,rfl,ok,rg,hk,hd,q⟩
 have hs:sizeLine=16777216:=J9p
 rcases hd with ⟨wt,ht,rfl,sk,fl⟩ | ⟨cs,rfl,rk,ck⟩
 . refine ⟨rfl,rfl,Wk (Jl9 (Wk ⟨_,rfl,rfl,Wk ⟨_,.refl,_,rfl,Js2 (Jl8 (decide_eq_true rfl) ?_)⟩⟩))⟩
   have kn:=rg.len
   have wl:=ok.len
   refine ⟨_,rfl,R,U,ws,wt,ht,rfl,ok,sk.lw,sk.lh,sk.nn,Wk ⟨_,rfl,R,U,ws,wt,ht,ks,rfl,ok,sk.b,rg.lt,by omega,sk.kept,Wk ⟨_,.refl,?_⟩⟩⟩
   refine ⟨_,rfl,R,U,ws,wt,ht,k,rfl,ok,sk.b,rg.lt k hk,?_⟩
   have q':=q
   rw [<- decide_eq_true (p:=(1:Int)<=Jaf ws wt ht (k:Int)) fl] at q'
   exact q'
 . refine ⟨rfl,rfl,Wk (Jl9 (Wk ⟨_,rfl,rfl,Wk ⟨_,.refl,_,rfl,Js2 (Jdz (by decide +kernel) ⟨_,.refl,_,rfl,Jzd (Jdz (by decide +kernel) ⟨_,.refl,_,rfl,R,U,ws,cs,rfl,ok,rk.b,⟨_,.refl,?_⟩⟩)⟩)⟩⟩))⟩
   have p0:=ok.p0
   have wl:=ok.len
   have kl:=rg.lt k hk
   have cl:=rk.ro.len
   refine ⟨rfl,Wk ⟨rgI ws cs U,rfl,?_,λ m hm _=>Jdz (decide_eq_false ?_) ?_⟩⟩
   . intro e
     have:=congrArg J3p e
     unfold rgI at this
     rw [Qb,Q2] at this
     simp at this
     omega
   . obtain ⟨p,hp,rfl⟩:=Qo.mp hm
     have:=rk.gn p (by have:=Xj.mp hp;omega)
     omega
   . have ak:atI (cs.map Qp) ((k:Nat):Int)=some (.int (cs.getD k 0)):=Yi (by omega) (by rw [Q0];exact Jai (by omega))
     refine ⟨_,rfl,_,ak,Jdz (decide_eq_false (by omega)) ⟨_,.refl,_,rfl,cs,ks,rfl,by omega,rk.sub,q⟩⟩
theorem Jbq:FnScope ["_law_script","_law_tape_here","_law_most","_law_book_here","_law_ring","_law_k","_law_again","_law_handed","_law_answer"] ["_law_script"] (Je Jem):=⟨rfl,rfl,rfl,by decide +kernel,rfl,by decide +kernel,by decide +kernel⟩
theorem Jzx {f:Addr}{fd:J9v}(T:Txt mg) (F:Fun K "law" "law" Jem f fd) (G6:Cal P w K mg base "_law_tape" 1 ["_law_script"] (Jj8 K)) (Ga:Cal P w K mg base "_law_draw" 1 ["_law_tape_here","_law_many"] (Jm Jb7)) (G7:Cal P w K mg base "_law_book" 5 ["_law_tape_here","_law_most"] (Jm Jkg)) (G8:Cal P w K mg base "_law_lists" 3 ["_law_tape_here","_law_book_here"] (Jm Jle)) (Gq:Cal P w K mg base "sum_or_round" 6 ["book","some","k"] (Jm Jdg)) (G9:Cal P w K mg base "_law_right" 4 ["_law_book_here","_law_ring","_law_k","_law_answer"] (Jm Jfh)):FnOk P w K mg base CX0 14 f fd ["_law_script"] (Jly K):=by
 refine F.ok Jbq (λ vs H Q E h=>?_) (λ cdv A outer s H vs Q E hr h=>?_)
 . obtain ⟨a,ns,rfl,_⟩:=h
   rfl
 refine ⟨_,(@Ja _ _ _ _ _ (J0 (i:=1) Jbq.nd rfl (Qa rfl) (Y2 G6 (hr.mono (by decide)) rfl (Jb (pv 0) Jc)))
  (@Ja _ _ _ _ _ (J0 (i:=2) Jbq.nd rfl (Qa rfl) (Jj Jr (Ju Jgx (Ju Jgx (Ju Ja7 (@PEs.out _ _ _ (Yd (Jez (Zy (Jt Ya (Jt Ya (Jt Ya Jw)))) Jw))) Jd) (Ju Ja7 (@PEs.out _ _ _ (Yd (Jez (Zy (Jt Ya (Jt Ya (Jt Ya Jw)))) Jw))) Jd)) (@PEs.out _ _ _ (Yd (Jez (Zy (Jt Ya (Jt Ya (Jt Ya Jw)))) Jw)))) (Y2 Ga (hr.mono (by decide)) rfl (Jb (pv 1) (Zj Jd Jc))) (λ _ _=>rfl)))
  (@Ja _ _ _ _ _ (J0 (i:=3) Jbq.nd rfl (Qa rfl) (Y2 G7 (hr.mono (by decide)) rfl (Jb (pv 1) (Jb (pv 2) Jc))))
  (@Ja _ _ _ _ _ (Zt Xm rfl (Zq (Y2 G8 (hr.mono (by decide)) rfl (Jb (pv 1) (Jb (pv 3) Jc)))) (Jv (i:=4) Jbq.nd rfl (Qa rfl) (Qa rfl))
  (@Ji _ _ _ (Zt Xm rfl (Zq (pv 4)) (Jv (i:=5) Jbq.nd rfl (Qa rfl) (Qa rfl))
  (@Ji _ _ _ (Zt Xm rfl (Yp rfl T.b_range (B1 (Ju Zw Jd (Yc Jck rfl T.b_int Yak (Jj7 (Wi Jbx (Jy J4 rfl T.b_len Xy (Jb (pv 4) Jc)) Jd (J2 _)) Jc))) Jc)) (Jv (i:=6) Jbq.nd rfl (Qa rfl) (Qa rfl))
  (@Ja _ _ _ _ _ (J0 (i:=7) Jbq.nd rfl (Qa rfl) (Yc Zx rfl T.b_list J93 (Jb (pv 4) Jc)))
  (@Ja _ _ _ _ _ (J0 (i:=8) Jbq.nd rfl (Qa rfl) (Y2 Gq (hr.mono (by decide)) rfl (Jb (pv 3) (Jb (pv 7) (Jb (pv 5) Jc)))))
  (@Ji _ _ _ (Zd (PW.pt (Jbs (Vn (Z3 (Y2 G9 (hr.mono (by decide)) rfl (Jb (pv 3) (Jb (pv 4) (Jb (pv 5) (Jb (pv 8) Jc))))))) (Jal (Jx (Jsg hr.units) (pv 7) (pv 4) (J2 _))))) (@Ji _ _ _ (@Js _ _ _ _ Jbr)) J9)))))))))
  (@Ji _ _ _ (@Js _ _ _ _ Jbr)))))),Jog (by decide) h ?_⟩
 have hs:sizeLine=16777216:=J9p
 show Jyz _ _ Js0 [.jnk,.tape,.jnk,.jnk,.jnk,.jnk,.jnk,.jnk,.jnk] 0
 refine ⟨W4,Vp (Q5 rfl),⟨by decide,by decide,by simp;omega⟩,W4,Vp (Q5 rfl),⟨by decide,by decide,by simp;omega⟩,by rw [hs];exact Q5 rfl,W4,Vp (Q5 rfl),by rw [hs];exact Q5 rfl,8,rfl,by decide,by decide,by decide +kernel,λ r r0 r1=>?_⟩
 obtain ⟨mr,mu,mw,hm,h1,h2,h3⟩:∃ mr mu mw:Int,atI ((Qr (J4y 5) [Ux [.int 4,.int 3,.int 10]]).flatten++(Qr (J4y 2) [Ux [.int 4,.int 6,.int 10]]).flatten++[Ux [.int 8,.int 6,.int 16]]) r=some (.tuple [.int mr,.int mu,.int mw])/\(1<=mr/\mr<=12)/\(1<=mu/\mu<=6)/\(0<=mw/\mw<=36):=by
  have:r=0\/r=1\/r=2\/r=3\/r=4\/r=5\/r=6\/r=7:=by omega
  rcases this with rfl | rfl | rfl | rfl | rfl | rfl | rfl | rfl<;>exact ⟨_,_,_,rfl,by decide,by decide,by decide⟩
 refine ⟨_,hm,⟨_,.refl,mr,mu,mw,rfl,by decide,h1,h2,h3,λ R U ws m ok _ _ hmm=>⟨_,.refl,?_⟩⟩⟩
 have p0:=ok.p0
 have wl:=ok.len
 refine ⟨R,U,ws,rfl,ok,by omega,λ kss m2 hk hl hm2=>?_⟩
 refine ⟨λ i env j=>j=m2/\∃ a b c d e:Vl,env=[.jnk,.tape,.d (.tuple [.int mr,.int mu,.int mw]),.d (J7 R U ws),a,b,c,d,e],⟨rfl,_,_,_,_,_,rfl⟩,?_,?_⟩
 rotate_left
 . rintro env j ⟨rfl,a,b,c,d,e,rfl⟩
   exact ⟨_,.refl,rfl⟩
 rintro i x env j hx ⟨rfl,a,b,c,d,e,rfl⟩
 rw [Qk] at hx
 obtain ⟨ks,hks,rfl⟩:=X2.mp hx
 have rg:=hk ks (Xb hks)
 have kn:=rg.len
 refine ⟨λ i env j'=>j'=j/\∃ b c d e:Vl,env=[.jnk,.tape,.d (.tuple [.int mr,.int mu,.int mw]),.d (J7 R U ws),.d (.list (ks.map Jq)),b,c,d,e],⟨rfl,_,_,_,_,rfl⟩,?_,?_⟩
 rotate_left
 . rintro env j' ⟨rfl,b,c,d,e,rfl⟩
   exact ⟨rfl,_,_,_,_,_,rfl⟩
 rintro i2 x env j' hx ⟨rfl,b,c,d,e,rfl⟩
 rw [Qk] at hx
 obtain ⟨k,hkk,rfl⟩:=X2.mp hx
 have km:=Xb hkk
 refine ⟨_,rfl,⟨by split<;>decide,by split<;>decide⟩,?_⟩
 refine ⟨λ i env j=>j=j'/\∃ c d e:Vl,env=[.jnk,.tape,.d (.tuple [.int mr,.int mu,.int mw]),.d (J7 R U ws),.d (.list (ks.map Jq)),.d (Jq k),c,d,e],⟨rfl,_,_,_,rfl⟩,?_,?_⟩
 rotate_left
 . rintro env j ⟨rfl,c,d,e,rfl⟩
   exact ⟨rfl,_,_,_,_,rfl⟩
 rintro i3 x env j hx ⟨rfl,c,d,e,rfl⟩
 have lk:Ue (.list (ks.map Jq))=true:=by
  have e:ks.map Jq=(nI ks).map .int:=by unfold nI;rw [Qy];rfl
  rw [e,Ue];exact Jdc _
 have dk:J21 (.list (ks.map Jq))<=50:=by
  have e:ks.map Jq=(nI ks).map .int:=by unfold nI;rw [Qy];rfl
  rw [e,J21,Je9];decide
 refine ⟨_,.fz 7 _ rfl .refl,R,U,ws,ks,k,rfl,ok,rg,km,λ wt ht sk fl=>⟨_,.refl,R,U,ws,ks,k,_,rfl,ok,rg,km,.inl ⟨wt,ht,rfl,sk,fl⟩,Wk (Jof lk dk (Wk ⟨rfl,_,_,_,rfl⟩))⟩,λ cs rk ck=>⟨_,.refl,R,U,ws,ks,k,_,rfl,ok,rg,km,.inr ⟨cs,rfl,rk,ck⟩,Wk (Jof lk dk (Wk ⟨rfl,_,_,_,rfl⟩))⟩⟩
end
theorem all_mk {l:J5u}{w:J9m}{K:Qc}{h:Heap}{mg:Str->Option J9j}{fa f4:Addr}(X:K.In h) (G:h.Ns J9t mg) (hfa:mg "law" = some (.ref fa)) (T:Txt mg)
 {C_Table:Addr} (Y_Table:TableOk K C_Table) (Ma:Def K mg "_law_tape" Jdk ["_law_script"]) (Mb:Def K mg "_law_draw" Jdl ["_law_tape_here","_law_many"]) (Mc:Def K mg "_law_gain" Jdm ["_law_tape_here"]) (Md:Def K mg "_law_gains" Jaj ["_law_tape_here","_law_purses"]) (Me:Def K mg "_law_nested" Br ["_law_tape_here","_law_rooms","_law_purses"]) (Mf:Def K mg "_law_book" Jbn ["_law_tape_here","_law_most"]) (Mg:Def K mg "is_whole" Jdj ["thing"]) (Mh:Def K mg "is_between" Jbk ["thing","least","most"]) (Mi:Def K mg "has_way" Jfi ["book","k"]) (Mj:Def K mg "rooms_reached" Zh ["book","some"]) (Ml:Def K mg "rings_of" Jbl ["book","some"]) (Mm:Def K mg "common_divisor" Vx ["numbers"]) (Mn:Def K mg "without_divisor" Wa ["numbers"]) (Mo:Def K mg "first_numbers" Wz ["book","stand"]) (D_Table__init:L2.DefI2 K mg "Table" C_Table "Table.__init__" Y5 ["self","book","some","stand"]) (D_Table__without:L2.DefM K C_Table "without" "Table.without" Wo ["self","other","row","place"]) (D_Table__exchange:L2.DefM K C_Table "exchange" "Table.exchange" Wb ["self","at","place"]) (D_Table__rises:L2.DefM K C_Table "rises" "Table.rises" Wd ["self","wanted"]) (D_Table__place_to_raise:L2.DefM K C_Table "place_to_raise" "Table.place_to_raise" Y1 ["self","wanted"]) (D_Table__comes_first:L2.DefM K C_Table "comes_first" "Table.comes_first" We ["self","at","other","place"]) (D_Table__row_to_free:L2.DefM K C_Table "row_to_free" "Table.row_to_free" Wf ["self","place"]) (D_Table__counts_by:L2.DefM K C_Table "counts_by" "Table.counts_by" W6 ["self","place"]) (D_Table__find_round:L2.DefM K C_Table "find_round" "Table.find_round" Ws ["self","wanted"]) (D_Table__shares:L2.DefM K C_Table "shares" "Table.shares" Bf ["self","wanted"]) (D_Table__as_sum:L2.DefM K C_Table "as_sum" "Table.as_sum" Bg ["self","shares"]) (D_Table__read_sum:L2.DefM K C_Table "read_sum" "Table.read_sum" Vj ["self","wanted"]) (Mp:Def K mg "is_ring" Ja2 ["book","some"]) (Mq:Def K mg "ring_table" Jbm ["book","some"]) (Mr:Def K mg "sum_or_round" Jaa ["book","some","k"]) (Ms:Def K mg "_law_met" Jfj ["_law_book_here","_law_some","_law_room"]) (Mt:Def K mg "_law_rings" V8 ["_law_book_here","_law_some"]) (Mu:Def K mg "_law_lists" Jak ["_law_tape_here","_law_book_here"]) (Mv:Def K mg "_law_whole" Jcg ["_law_thing"]) (Mw:Def K mg "_law_are_whole" W0 ["_law_thing","_law_many"]) (Mx:Def K mg "_law_is_sum" Bs ["_law_book_here","_law_thing"]) (Mz:Def K mg "_law_fall" Jdn ["_law_book_here","_law_total","_law_k"]) (M0:Def K mg "_law_kept" Jbo ["_law_book_here","_law_total","_law_some"]) (M1:Def K mg "_law_round_gain" Vy ["_law_book_here","_law_counts"]) (M3:Def K mg "_law_within" Bt ["_law_counts","_law_some"]) (M4:Def K mg "_law_right" Jch ["_law_book_here","_law_ring","_law_k","_law_answer"])
 {od4 an4:Option Addr} {sl4:Array (Option J9j)} {oc4 kV4 dc4 pm4 cd4 ct4:J9j} (a4:J53 K J9t "law" = some (some (.ref f4)))
 (l4:K.lookup f4=some ⟨oc4,od4,.func (X0 "law" "law" (Z6 Jem) (Zr Jem) (Je Jem) .none kV4 dc4 pm4 an4 cd4 ct4),sl4⟩) (c4:J2n K cd4 "law" = true) (k4:Uk K (.ref f4)=true) :
 ∃ fd:J9v,(∀ (s:J9k) (v:J9j),Yaf s fd ⟨[v],[]⟩ [("_law_script",v)])/\∀ base:Heap,K.In base->base.Ns J9t mg->FnOk l.prog w K mg base CX0 14 fa fd ["_law_script"] (Jly K):=by
 have e:=hfa.symm.trans (J54 X G a4)
 cases e
 have F4:=Jgy (st:=Jem) l4 c4 k4
 refine ⟨X0 "law" "law" (Z6 Jem) (Zr Jem) (Je Jem) .none kV4 dc4 pm4 an4 cd4 ct4,λ s v=>.of_eq rfl,λ base _ _=>?_⟩
 have M5:Cal l.prog w K mg base "_law_tape" 1 ["_law_script"] (Jj8 K):=Jna T Ma
 have M6:Cal l.prog w K mg base "_law_draw" 1 ["_law_tape_here","_law_many"] Jn9:=Jnb T Mb
 have Gd:Cal l.prog w K mg base "_law_draw" 1 ["_law_tape_here","_law_many"] (Jm Jb7):=M6.imp Js1
 have M7:Cal l.prog w K mg base "_law_gain" 2 ["_law_tape_here"] (Jm Jej):=Jnc T Mc Gd
 have Gs:Cal l.prog w K mg base "_law_gains" 3 ["_law_tape_here","_law_purses"] (Jm Jcv):=Jlg T Md M7
 have M8:Cal l.prog w K mg base "_law_nested" 4 ["_law_tape_here","_law_rooms","_law_purses"] (Z9 Jdh):=Jiv T Me Gs Gd
 have M9:Cal l.prog w K mg base "_law_book" 5 ["_law_tape_here","_law_most"] (Jm Jkg):=Jnd T Mf Gd M8 Gs
 have Gb:Cal l.prog w K mg base "is_whole" 1 ["thing"] (Jm Jbf):=Jnf T Mg
 have Gg:Cal l.prog w K mg base "is_between" 2 ["thing","least","most"] (Jm Je6):=Jix T Mh Gb
 have Gk:Cal l.prog w K mg base "has_way" 3 ["book","k"] (Jm Jhf):=Jo3 T Mi Gg
 have Gh:Cal l.prog w K mg base "rooms_reached" 1 ["book","some"] (Jm Jkp):=Jfk T Mj
 have Gm:Cal l.prog w K mg base "rings_of" 2 ["book","some"] (Jm Jks):=Jng T Ml Gh
 have Gi:Cal l.prog w K mg base "common_divisor" 1 ["numbers"] (Jm Jec):=Jen T Mm
 have Gc:Cal l.prog w K mg base "without_divisor" 2 ["numbers"] (Z9 Jgj):=Jdo T Mn Gi
 have Gj:Cal l.prog w K mg base "first_numbers" 1 ["book","stand"] (Z9 Jh8):=Jfn T Mo
 have c_Table__init:Jm3 l.prog w K mg base "Table" C_Table 2 ["self","book","some","stand"] (Jlb C_Table):=Jii T Y_Table D_Table__init Gj
 have c_Table__without:Wc l.prog w K mg base C_Table "without" 1 ["self","other","row","place"] (Z9 (Joo C_Table)):=Jeo T Y_Table D_Table__without
 have c_Table__exchange:Wc l.prog w K mg base C_Table "exchange" 2 ["self","at","place"] (Jzs C_Table):=Jdr T Y_Table D_Table__exchange c_Table__without
 have c_Table__rises:Wc l.prog w K mg base C_Table "rises" 1 ["self","wanted"] (Z9 (Jgl C_Table)):=Jf8 T Y_Table D_Table__rises
 have c_Table__place_to_raise:Wc l.prog w K mg base C_Table "place_to_raise" 2 ["self","wanted"] (Jm (Jct C_Table)):=Jap T Y_Table D_Table__place_to_raise c_Table__rises
 have c_Table__comes_first:Wc l.prog w K mg base C_Table "comes_first" 1 ["self","at","other","place"] (Jm (Jk5 C_Table)):=Jbt T Y_Table D_Table__comes_first
 have c_Table__row_to_free:Wc l.prog w K mg base C_Table "row_to_free" 2 ["self","place"] (Jm (Jff C_Table)):=Jbu T Y_Table D_Table__row_to_free c_Table__comes_first
 have c_Table__counts_by:Wc l.prog w K mg base C_Table "counts_by" 3 ["self","place"] (Jm (Jee C_Table)):=Jcz T Y_Table D_Table__counts_by Gc
 have c_Table__find_round:Wc l.prog w K mg base C_Table "find_round" 4 ["self","wanted"] (Jk8 C_Table):=Jcj T Y_Table D_Table__find_round c_Table__place_to_raise c_Table__row_to_free c_Table__counts_by c_Table__exchange
 have c_Table__shares:Wc l.prog w K mg base C_Table "shares" 2 ["self","wanted"] (Z9 (Jh6 C_Table)):=Jfm T Y_Table D_Table__shares c_Table__rises
 have c_Table__as_sum:Wc l.prog w K mg base C_Table "as_sum" 1 ["self","shares"] (Jm (Jk6 C_Table)):=Jfl T Y_Table D_Table__as_sum
 have c_Table__read_sum:Wc l.prog w K mg base C_Table "read_sum" 3 ["self","wanted"] (Jm (Ja0 C_Table)):=Jdq T Y_Table D_Table__read_sum c_Table__as_sum Gc c_Table__shares
 have Gn:Cal l.prog w K mg base "is_ring" 4 ["book","some"] (Jm Jif):=Jo5 T Mp Gk Gm
 have Go:Cal l.prog w K mg base "ring_table" 5 ["book","some"] (Jld C_Table):=Jiz T Y_Table Mq Gn c_Table__init
 have Gq:Cal l.prog w K mg base "sum_or_round" 6 ["book","some","k"] (Jm Jdg):=Jf9 T Y_Table Mr Go Gb c_Table__find_round c_Table__read_sum
 have Ta:Cal l.prog w K mg base "_law_met" 1 ["_law_book_here","_law_some","_law_room"] (Jm Jto):=Jo1 T Ms
 have Tc:Cal l.prog w K mg base "_law_rings" 2 ["_law_book_here","_law_some"] (Jm Jht):=Jlh T Mt Ta
 have Td:Cal l.prog w K mg base "_law_lists" 3 ["_law_tape_here","_law_book_here"] (Jm Jle):=Jlk T Mu Gd Tc
 have Te:Cal l.prog w K mg base "_law_whole" 1 ["_law_thing"] (Jm Jbf):=Jlj T Mv
 have Gu:Cal l.prog w K mg base "_law_are_whole" 2 ["_law_thing","_law_many"] (Jm Jig):=Jfp T Mw Te
 have Tf:Cal l.prog w K mg base "_law_is_sum" 3 ["_law_book_here","_law_thing"] (Jm Jek):=Ji1 T Mx Gu
 have Gv:Cal l.prog w K mg base "_law_fall" 1 ["_law_book_here","_law_total","_law_k"] (Jm Jel):=Jnh T Mz
 have Tg:Cal l.prog w K mg base "_law_kept" 2 ["_law_book_here","_law_total","_law_some"] (Jm Jgp):=Jnj T M0 Gv
 have Th:Cal l.prog w K mg base "_law_round_gain" 3 ["_law_book_here","_law_counts"] (Jm Jih):=Jep T M1 Gu
 have Ti:Cal l.prog w K mg base "_law_within" 1 ["_law_counts","_law_some"] (Jm Jcw):=Ji3 T M3
 have Tj:Cal l.prog w K mg base "_law_right" 4 ["_law_book_here","_law_ring","_law_k","_law_answer"] (Jm Jfh):=Jll T M4 Tf Tg Gv Th Ti
 exact Jzx T F4 M5 Gd M9 Td Gq Tj
theorem walk {l:J5u}{q:J9n}{loose:List Str}{XP:(Str->Option J9j)->Heap->Prop}{YP:J9m->Heap->Prop}{d:DefRec}{K:Params->Qc}(hn:l.most=some 63) (hdf:d.params.defaults=[])
 (hY:∀ (w:J9m) (h:Heap),YP w h->(K w.params).In h)
 (F:∀ (w:J9m) (mg:Str->Option J9j) (fa:Addr) (h:Heap),(K w.params).In h->h.Ns J9t mg->mg d.name=some (.ref fa) ->
  ∃ fd:J9v,(∀ (s:J9k) (u:J9j),Yaf s fd ⟨[u],[]⟩ [("_law_script",u)])/\∀ base:Heap,(K w.params).In base->base.Ns J9t mg->FnOk l.prog w (K w.params) mg base CX0 14 fa fd ["_law_script"] (Jly (K w.params))) :
 J7p q loose XP YP l.row.toRowW d [] (λ f vs=>J5t f vs):=
 L2.walk_of (n:=63) (k:=14) (x:="_law_script") (CX:=λ _=>CX0) (sp:=λ w=>Jly (K w.params)) hn (by decide) hdf ⟨rfl,by decide,by decide,rfl⟩ hY F (λ _ _ a ns hl _ hS=>⟨a,ns,rfl,hS,hl,λ _=>rfl⟩) λ _ _ _ _ _ z=>z
end My
end
theorem PySem.W.Fast.tw3379944557632609973 : True := trivial
theorem PySem.W.Fast.tw4714011634818992990 : True := trivial
theorem PySem.W.Fast.tw10314574959568370508 : True := trivial
theorem PySem.W.Fast.tw3564161821570560970 : True := trivial
theorem PySem.W.Fast.tw6890871936094585968 : True := trivial
theorem PySem.W.Fast.tw16155205775379895959 : True := trivial
theorem PySem.W.Fast.tw10785368902305180293 : True := trivial
theorem PySem.W.Fast.tw3610271639118529396 : True := trivial
theorem PySem.W.Fast.tw743018938001549354 : True := trivial
theorem PySem.W.Fast.tw13260413834611749716 : True := trivial
theorem PySem.W.Fast.tw5134749659097446259 : True := trivial
theorem PySem.W.Fast.tw14088513201766339007 : True := trivial
theorem PySem.W.Fast.tw13813624936586810641 : True := trivial
theorem PySem.W.Fast.tw2885103110197016117 : True := trivial
theorem PySem.W.Fast.tw11941190521375892258 : True := trivial
theorem PySem.W.Fast.tw13074956279069971727 : True := trivial
theorem PySem.W.Fast.tw485251763850195725 : True := trivial
theorem PySem.W.Fast.tw4698430710524894457 : True := trivial
theorem PySem.W.Fast.tw2058417945192810449 : True := trivial
theorem PySem.W.Fast.tw17070299117320697630 : True := trivial
theorem PySem.W.Fast.tw11945367190258913498 : True := trivial
theorem PySem.W.Fast.tw12782481527299095350 : True := trivial
theorem PySem.W.Fast.tw17950588190503150204 : True := trivial
theorem PySem.W.Fast.tw7071320628344593110 : True := trivial
theorem PySem.W.Fast.tw2813929837074178443 : True := trivial
theorem PySem.W.Fast.tw17024984969529822442 : True := trivial
theorem PySem.W.Fast.tw1175416347284542163 : True := trivial
theorem PySem.W.Fast.tw12473169596704822944 : True := trivial
theorem PySem.W.Fast.tw12437887343192023653 : True := trivial
theorem PySem.W.Fast.tw756385727709455470 : True := trivial
theorem PySem.W.Fast.tw7491159697911901970 : True := trivial
theorem PySem.W.Fast.tw9999364577670146328 : True := trivial
theorem PySem.W.Fast.tw9554783255953794840 : True := trivial
theorem PySem.W.Fast.tw544599529520681870 : True := trivial
theorem PySem.W.Fast.tw9029028112053547891 : True := trivial
open PySem PySem.W PyProof.Rows
set_option maxRecDepth 100000 in
set_option maxHeartbeats 0 in
theorem PySem.Challenge.cw_fallsum_k35_sum_or_round_holds : PySem.Challenge.rw_fallsum_k35_sum_or_round.Holds := by
  w_on; o_law; k_head; (case hw => w_witness2)
  k_fill
  refine My.walk (l := PySem.Challenge.rw_fallsum_k35_sum_or_round) rfl rfl (fun w h Y => PySem.W.kIn_of Y) ?F
  case F =>
    intro w mg fa h KX G hmg
    refine' My.all_mk KX G hmg ⟨PySem.W.mg_none_of KX G ?z_isinstance, PySem.W.mg_none_of KX G ?z_int, PySem.W.mg_none_of KX G ?z_bool, PySem.W.mg_none_of KX G ?z_str, PySem.W.mg_none_of KX G ?z_tuple, PySem.W.mg_none_of KX G ?z_len, PySem.W.mg_none_of KX G ?z_all, PySem.W.mg_none_of KX G ?z_sum, PySem.W.mg_none_of KX G ?z_range, PySem.W.mg_none_of KX G ?z_list, PySem.W.mg_none_of KX G ?z_zip, PySem.W.mg_none_of KX G ?z_enumerate, PySem.W.mg_none_of KX G ?z_min, PySem.W.mg_none_of KX G ?z_max, PySem.W.mg_none_of KX G ?z_abs, PySem.W.mg_none_of KX G ?z_dict⟩
      (C_Table := ?C_Table) (⟨⟨?pg_Table, ?hd_Table, ?po_Table, ?sa_Table⟩, ?n0_Table, ?n1_Table, ?n2_Table, ?n3_Table, ?n4_Table, ?n5_Table, ?n6_Table⟩)
      (L2.def_mk KX G ?a_law_tape ?l_law_tape ?c_law_tape ?k_law_tape (fun _ _ _ _ _ _ us hl => match us, hl with | [_], _ => rfl))
      (L2.def_mk KX G ?a_law_draw ?l_law_draw ?c_law_draw ?k_law_draw (fun _ _ _ _ _ _ us hl => match us, hl with | [_, _], _ => rfl))
      (L2.def_mk KX G ?a_law_gain ?l_law_gain ?c_law_gain ?k_law_gain (fun _ _ _ _ _ _ us hl => match us, hl with | [_], _ => rfl))
      (L2.def_mk KX G ?a_law_gains ?l_law_gains ?c_law_gains ?k_law_gains (fun _ _ _ _ _ _ us hl => match us, hl with | [_, _], _ => rfl))
      (L2.def_mk KX G ?a_law_nested ?l_law_nested ?c_law_nested ?k_law_nested (fun _ _ _ _ _ _ us hl => match us, hl with | [_, _, _], _ => rfl))
      (L2.def_mk KX G ?a_law_book ?l_law_book ?c_law_book ?k_law_book (fun _ _ _ _ _ _ us hl => match us, hl with | [_, _], _ => rfl))
      (L2.def_mk KX G ?a_is_whole ?l_is_whole ?c_is_whole ?k_is_whole (fun _ _ _ _ _ _ us hl => match us, hl with | [_], _ => rfl))
      (L2.def_mk KX G ?a_is_between ?l_is_between ?c_is_between ?k_is_between (fun _ _ _ _ _ _ us hl => match us, hl with | [_, _, _], _ => rfl))
      (L2.def_mk KX G ?a_has_way ?l_has_way ?c_has_way ?k_has_way (fun _ _ _ _ _ _ us hl => match us, hl with | [_, _], _ => rfl))
      (L2.def_mk KX G ?a_rooms_reached ?l_rooms_reached ?c_rooms_reached ?k_rooms_reached (fun _ _ _ _ _ _ us hl => match us, hl with | [_, _], _ => rfl))
      (L2.def_mk KX G ?a_rings_of ?l_rings_of ?c_rings_of ?k_rings_of (fun _ _ _ _ _ _ us hl => match us, hl with | [_, _], _ => rfl))
      (L2.def_mk KX G ?a_common_divisor ?l_common_divisor ?c_common_divisor ?k_common_divisor (fun _ _ _ _ _ _ us hl => match us, hl with | [_], _ => rfl))
      (L2.def_mk KX G ?a_without_divisor ?l_without_divisor ?c_without_divisor ?k_without_divisor (fun _ _ _ _ _ _ us hl => match us, hl with | [_], _ => rfl))
      (L2.def_mk KX G ?a_first_numbers ?l_first_numbers ?c_first_numbers ?k_first_numbers (fun _ _ _ _ _ _ us hl => match us, hl with | [_, _], _ => rfl))
      (L2.defI2_mk KX G ?aC_Table__init ?mk_Table__init ?kc_Table__init ?a_Table__init ?i_Table__init ?l_Table__init ?c_Table__init ?k_Table__init ?t_Table__init (fun _ _ _ _ _ _ _ _ us hl => match us, hl with | [_, _, _], _ => ⟨_, rfl, rfl⟩) (fun _ _ _ _ _ _ _ _ us hl => match us, hl with | [_, _, _, _], _ => ⟨_, rfl, rfl⟩))
      (L2.defM_mk ?a_Table__without ?i_Table__without ?l_Table__without ?c_Table__without ?k_Table__without (fun _ _ _ _ _ _ us hl => match us, hl with | [_, _, _, _], _ => rfl))
      (L2.defM_mk ?a_Table__exchange ?i_Table__exchange ?l_Table__exchange ?c_Table__exchange ?k_Table__exchange (fun _ _ _ _ _ _ us hl => match us, hl with | [_, _, _], _ => rfl))
      (L2.defM_mk ?a_Table__rises ?i_Table__rises ?l_Table__rises ?c_Table__rises ?k_Table__rises (fun _ _ _ _ _ _ us hl => match us, hl with | [_, _], _ => rfl))
      (L2.defM_mk ?a_Table__place_to_raise ?i_Table__place_to_raise ?l_Table__place_to_raise ?c_Table__place_to_raise ?k_Table__place_to_raise (fun _ _ _ _ _ _ us hl => match us, hl with | [_, _], _ => rfl))
      (L2.defM_mk ?a_Table__comes_first ?i_Table__comes_first ?l_Table__comes_first ?c_Table__comes_first ?k_Table__comes_first (fun _ _ _ _ _ _ us hl => match us, hl with | [_, _, _, _], _ => rfl))
      (L2.defM_mk ?a_Table__row_to_free ?i_Table__row_to_free ?l_Table__row_to_free ?c_Table__row_to_free ?k_Table__row_to_free (fun _ _ _ _ _ _ us hl => match us, hl with | [_, _], _ => rfl))
      (L2.defM_mk ?a_Table__counts_by ?i_Table__counts_by ?l_Table__counts_by ?c_Table__counts_by ?k_Table__counts_by (fun _ _ _ _ _ _ us hl => match us, hl with | [_, _], _ => rfl))
      (L2.defM_mk ?a_Table__find_round ?i_Table__find_round ?l_Table__find_round ?c_Table__find_round ?k_Table__find_round (fun _ _ _ _ _ _ us hl => match us, hl with | [_, _], _ => rfl))
      (L2.defM_mk ?a_Table__shares ?i_Table__shares ?l_Table__shares ?c_Table__shares ?k_Table__shares (fun _ _ _ _ _ _ us hl => match us, hl with | [_, _], _ => rfl))
      (L2.defM_mk ?a_Table__as_sum ?i_Table__as_sum ?l_Table__as_sum ?c_Table__as_sum ?k_Table__as_sum (fun _ _ _ _ _ _ us hl => match us, hl with | [_, _], _ => rfl))
      (L2.defM_mk ?a_Table__read_sum ?i_Table__read_sum ?l_Table__read_sum ?c_Table__read_sum ?k_Table__read_sum (fun _ _ _ _ _ _ us hl => match us, hl with | [_, _], _ => rfl))
      (L2.def_mk KX G ?a_is_ring ?l_is_ring ?c_is_ring ?k_is_ring (fun _ _ _ _ _ _ us hl => match us, hl with | [_, _], _ => rfl))
      (L2.def_mk KX G ?a_ring_table ?l_ring_table ?c_ring_table ?k_ring_table (fun _ _ _ _ _ _ us hl => match us, hl with | [_, _], _ => rfl))
      (L2.def_mk KX G ?a_sum_or_round ?l_sum_or_round ?c_sum_or_round ?k_sum_or_round (fun _ _ _ _ _ _ us hl => match us, hl with | [_, _, _], _ => rfl))
      (L2.def_mk KX G ?a_law_met ?l_law_met ?c_law_met ?k_law_met (fun _ _ _ _ _ _ us hl => match us, hl with | [_, _, _], _ => rfl))
      (L2.def_mk KX G ?a_law_rings ?l_law_rings ?c_law_rings ?k_law_rings (fun _ _ _ _ _ _ us hl => match us, hl with | [_, _], _ => rfl))
      (L2.def_mk KX G ?a_law_lists ?l_law_lists ?c_law_lists ?k_law_lists (fun _ _ _ _ _ _ us hl => match us, hl with | [_, _], _ => rfl))
      (L2.def_mk KX G ?a_law_whole ?l_law_whole ?c_law_whole ?k_law_whole (fun _ _ _ _ _ _ us hl => match us, hl with | [_], _ => rfl))
      (L2.def_mk KX G ?a_law_are_whole ?l_law_are_whole ?c_law_are_whole ?k_law_are_whole (fun _ _ _ _ _ _ us hl => match us, hl with | [_, _], _ => rfl))
      (L2.def_mk KX G ?a_law_is_sum ?l_law_is_sum ?c_law_is_sum ?k_law_is_sum (fun _ _ _ _ _ _ us hl => match us, hl with | [_, _], _ => rfl))
      (L2.def_mk KX G ?a_law_fall ?l_law_fall ?c_law_fall ?k_law_fall (fun _ _ _ _ _ _ us hl => match us, hl with | [_, _, _], _ => rfl))
      (L2.def_mk KX G ?a_law_kept ?l_law_kept ?c_law_kept ?k_law_kept (fun _ _ _ _ _ _ us hl => match us, hl with | [_, _, _], _ => rfl))
      (L2.def_mk KX G ?a_law_round_gain ?l_law_round_gain ?c_law_round_gain ?k_law_round_gain (fun _ _ _ _ _ _ us hl => match us, hl with | [_, _], _ => rfl))
      (L2.def_mk KX G ?a_law_within ?l_law_within ?c_law_within ?k_law_within (fun _ _ _ _ _ _ us hl => match us, hl with | [_, _], _ => rfl))
      (L2.def_mk KX G ?a_law_right ?l_law_right ?c_law_right ?k_law_right (fun _ _ _ _ _ _ us hl => match us, hl with | [_, _, _, _], _ => rfl))
      ?a4 ?l4 ?c4 ?k4
    (case aC_Table__init => k_is)
    (case z_isinstance => k_is)
    (case z_int => k_is)
    (case z_bool => k_is)
    (case z_str => k_is)
    (case z_tuple => k_is)
    (case z_len => k_is)
    (case z_all => k_is)
    (case z_sum => k_is)
    (case z_range => k_is)
    (case z_list => k_is)
    (case z_zip => k_is)
    (case z_enumerate => k_is)
    (case z_min => k_is)
    (case z_max => k_is)
    (case z_abs => k_is)
    (case z_dict => k_is)
    (case a_law_tape => k_is)
    (case l_law_tape => k_is)
    (case c_law_tape => k_is)
    (case k_law_tape => k_is)
    (case a_law_draw => k_is)
    (case l_law_draw => k_is)
    (case c_law_draw => k_is)
    (case k_law_draw => k_is)
    (case a_law_gain => k_is)
    (case l_law_gain => k_is)
    (case c_law_gain => k_is)
    (case k_law_gain => k_is)
    (case a_law_gains => k_is)
    (case l_law_gains => k_is)
    (case c_law_gains => k_is)
    (case k_law_gains => k_is)
    (case a_law_nested => k_is)
    (case l_law_nested => k_is)
    (case c_law_nested => k_is)
    (case k_law_nested => k_is)
    (case a_law_book => k_is)
    (case l_law_book => k_is)
    (case c_law_book => k_is)
    (case k_law_book => k_is)
    (case a_is_whole => k_is)
    (case l_is_whole => k_is)
    (case c_is_whole => k_is)
    (case k_is_whole => k_is)
    (case a_is_between => k_is)
    (case l_is_between => k_is)
    (case c_is_between => k_is)
    (case k_is_between => k_is)
    (case a_has_way => k_is)
    (case l_has_way => k_is)
    (case c_has_way => k_is)
    (case k_has_way => k_is)
    (case a_rooms_reached => k_is)
    (case l_rooms_reached => k_is)
    (case c_rooms_reached => k_is)
    (case k_rooms_reached => k_is)
    (case a_rings_of => k_is)
    (case l_rings_of => k_is)
    (case c_rings_of => k_is)
    (case k_rings_of => k_is)
    (case a_common_divisor => k_is)
    (case l_common_divisor => k_is)
    (case c_common_divisor => k_is)
    (case k_common_divisor => k_is)
    (case a_without_divisor => k_is)
    (case l_without_divisor => k_is)
    (case c_without_divisor => k_is)
    (case k_without_divisor => k_is)
    (case a_first_numbers => k_is)
    (case l_first_numbers => k_is)
    (case c_first_numbers => k_is)
    (case k_first_numbers => k_is)
    (case mk_Table__init => k_is)
    (case kc_Table__init => k_is)
    (case a_Table__init => k_is)
    (case i_Table__init => k_is)
    (case l_Table__init => k_is)
    (case c_Table__init => k_is)
    (case k_Table__init => k_is)
    (case t_Table__init => k_is)
    (case a_Table__without => k_is)
    (case i_Table__without => k_is)
    (case l_Table__without => k_is)
    (case c_Table__without => k_is)
    (case k_Table__without => k_is)
    (case a_Table__exchange => k_is)
    (case i_Table__exchange => k_is)
    (case l_Table__exchange => k_is)
    (case c_Table__exchange => k_is)
    (case k_Table__exchange => k_is)
    (case a_Table__rises => k_is)
    (case i_Table__rises => k_is)
    (case l_Table__rises => k_is)
    (case c_Table__rises => k_is)
    (case k_Table__rises => k_is)
    (case a_Table__place_to_raise => k_is)
    (case i_Table__place_to_raise => k_is)
    (case l_Table__place_to_raise => k_is)
    (case c_Table__place_to_raise => k_is)
    (case k_Table__place_to_raise => k_is)
    (case a_Table__comes_first => k_is)
    (case i_Table__comes_first => k_is)
    (case l_Table__comes_first => k_is)
    (case c_Table__comes_first => k_is)
    (case k_Table__comes_first => k_is)
    (case a_Table__row_to_free => k_is)
    (case i_Table__row_to_free => k_is)
    (case l_Table__row_to_free => k_is)
    (case c_Table__row_to_free => k_is)
    (case k_Table__row_to_free => k_is)
    (case a_Table__counts_by => k_is)
    (case i_Table__counts_by => k_is)
    (case l_Table__counts_by => k_is)
    (case c_Table__counts_by => k_is)
    (case k_Table__counts_by => k_is)
    (case a_Table__find_round => k_is)
    (case i_Table__find_round => k_is)
    (case l_Table__find_round => k_is)
    (case c_Table__find_round => k_is)
    (case k_Table__find_round => k_is)
    (case a_Table__shares => k_is)
    (case i_Table__shares => k_is)
    (case l_Table__shares => k_is)
    (case c_Table__shares => k_is)
    (case k_Table__shares => k_is)
    (case a_Table__as_sum => k_is)
    (case i_Table__as_sum => k_is)
    (case l_Table__as_sum => k_is)
    (case c_Table__as_sum => k_is)
    (case k_Table__as_sum => k_is)
    (case a_Table__read_sum => k_is)
    (case i_Table__read_sum => k_is)
    (case l_Table__read_sum => k_is)
    (case c_Table__read_sum => k_is)
    (case k_Table__read_sum => k_is)
    (case a_is_ring => k_is)
    (case l_is_ring => k_is)
    (case c_is_ring => k_is)
    (case k_is_ring => k_is)
    (case a_ring_table => k_is)
    (case l_ring_table => k_is)
    (case c_ring_table => k_is)
    (case k_ring_table => k_is)
    (case a_sum_or_round => k_is)
    (case l_sum_or_round => k_is)
    (case c_sum_or_round => k_is)
    (case k_sum_or_round => k_is)
    (case a_law_met => k_is)
    (case l_law_met => k_is)
    (case c_law_met => k_is)
    (case k_law_met => k_is)
    (case a_law_rings => k_is)
    (case l_law_rings => k_is)
    (case c_law_rings => k_is)
    (case k_law_rings => k_is)
    (case a_law_lists => k_is)
    (case l_law_lists => k_is)
    (case c_law_lists => k_is)
    (case k_law_lists => k_is)
    (case a_law_whole => k_is)
    (case l_law_whole => k_is)
    (case c_law_whole => k_is)
    (case k_law_whole => k_is)
    (case a_law_are_whole => k_is)
    (case l_law_are_whole => k_is)
    (case c_law_are_whole => k_is)
    (case k_law_are_whole => k_is)
    (case a_law_is_sum => k_is)
    (case l_law_is_sum => k_is)
    (case c_law_is_sum => k_is)
    (case k_law_is_sum => k_is)
    (case a_law_fall => k_is)
    (case l_law_fall => k_is)
    (case c_law_fall => k_is)
    (case k_law_fall => k_is)
    (case a_law_kept => k_is)
    (case l_law_kept => k_is)
    (case c_law_kept => k_is)
    (case k_law_kept => k_is)
    (case a_law_round_gain => k_is)
    (case l_law_round_gain => k_is)
    (case c_law_round_gain => k_is)
    (case k_law_round_gain => k_is)
    (case a_law_within => k_is)
    (case l_law_within => k_is)
    (case c_law_within => k_is)
    (case k_law_within => k_is)
    (case a_law_right => k_is)
    (case l_law_right => k_is)
    (case c_law_right => k_is)
    (case k_law_right => k_is)
    (case a4 => k_is)
    (case l4 => k_is)
    (case c4 => k_is)
    (case k4 => k_is)
    (case pg_Table => k_is)
    (case hd_Table => k_is)
    (case po_Table => k_is)
    (case sa_Table => k_is)
    (case n0_Table => (unfold L2.NoAttr; k_is))
    (case n1_Table => (unfold L2.NoAttr; k_is))
    (case n2_Table => (unfold L2.NoAttr; k_is))
    (case n3_Table => (unfold L2.NoAttr; k_is))
    (case n4_Table => (unfold L2.NoAttr; k_is))
    (case n5_Table => (unfold L2.NoAttr; k_is))
    (case n6_Table => (unfold L2.NoAttr; k_is))
