import PyProof.Rows.All
import Wide.All
import OpenK.AllK
import Wide.FinOn
import Lean
import PyProof.EqAt
import PyProof.EqKinds
import PyProof.TupleCall
import KE.KTryMore
import OpenK.KOwn
import PyProof.Rows.CatchOwn
import PyProof.StrLawsTight
import PyProof.StrLawsJoin
import PyProof.ExcInit
import PyProof.ExcClass2
import PyProof.InstStore
import PyProof.AttrMissSeq
import PySem.Challenge.RW_fallsum_k38_whole_never_both
set_option Elab.async false
set_option linter.all false
set_option maxRecDepth 100000
section
open Or renaming inl->Qa,inr->Qp
open List renaming length_map->Qb,getElem?_eq_getElem->Qd,mem_cons->Qf,getD_eq_getElem?_getD->Qg,mem_cons_self->Qh,mem_cons_of_mem->Qi,getElem?_map->Qj,range->Qk,mem_map->Qm,replicate->Qo,getElem?_eq_some_iff->Qq,length_set->Qr,mem_singleton->Qt,map_map->Qw,getElem?_eq_none->Qx,length_range->Qy,map_cons->Q0,getElem?_set_self->Q3,getElem?_set_ne->Q4,mem_append->Q6,size_toArray->Q7,mem_of_getElem?->Xa,map_append->Xb,getElem_mem->Xe,mem_range->Xh,mem_append_right->Xi,length_append->Xj,getElem?_range->Xl,mem_append_left->Xn,mem_filter->Xq,nodup_cons->Xr,not_mem_nil->X0,ext_getElem?->X1,mem_iff_getElem?->X4,length_replicate->X5,all_eq_true->X6,map_congr_left->X7,map_set->X8,length_cons->Ue,getElem?_zipWith->Uf,length_eraseIdx_of_lt->Ug,of_mem_zip->Uk,mem_replicate->Uq,append_nil->Uu,getElem?_append_left->Uv,length_singleton->Uw,lookup_cons->Ux,getElem?_replicate->U4,replicate_succ->U6,getElem?_append_right->J3n,length_zip->J3r,map_replicate->J3s,lookup->J3v,map_nil->J3w,any_cons->J3x,flatten_cons->J3y,cons_append->J4b,length_drop->J4h,all_cons->J4j,foldl->J4k,zipWith->J4o,map_drop->J4r,range_succ->J4t,getElem?_set->J4v,filter_cons_of_pos->J4w,filter_cons_of_neg->J4x,take_add_one->J4y,map_singleton->J4z,filter_congr->J40,zip->J42,getElem?_eraseIdx->J44,sum_cons->J49,take_length->J5d,mem_filterMap->J5f,length->J5k,length_take->J5l,nil_append->J5o,mem_iff_getElem->J5q,take_of_length_le->J5r,map_take->J5s,length_pos_iff->J5x,length_zipWith->J5z,nodup_append->J51,pairwise_iff_getElem->J52,foldl_append->J54,zip_cons_cons->J56,pairwise_map->J6c,map_const'->J6h,filterMap_cons->J6n,getElem_inj->J6o,any_eq_false->J6u,foldl_cons->J63,forIn_cons->J67,getElem?_drop->J68,forIn_nil->J7j,length_eq_zero_iff->J7m,any_eq_true->J7o,getElem?_mapIdx->J7r,drop_eq_getElem_cons->J7s,drop_length->J7t,set_set->J7x,pairwise_lt_range->J7y,sum_append->J7z,filter_eq_nil_iff->J71,zipWith_cons_cons->J72,map_zipWith->J73,set_comm->J8m,append_assoc->J8t,drop_of_length_le->J89,dropLast_concat_getLast->J9a,length_mapIdx->J9d,getLast?_eq_getElem?->J9e,range_succ_eq_map->J9f,sum_singleton->J9l,lookup_cons_self->J9m,map_eq_nil_iff->J9t,range_add->J9z,mem_of_mem_take->J90,filter_sublist->J94,length_filterMap_le->J95
open PySem.W renaming Frag->Qc,fnOf->X3,findIn->Ui,keepIn->Uj,kia_one->Up,emptyDict->U2,instObj->J3m,codeIn->J3o,isFn->J4e,lookIn->J5g,plainGet->J5h,methodObj->J6m,hasDictIn->J6v,plainGet_of->J6w,takerIn->J6x,makesIn->J6y,kitOne->J6z,callWith_K->J60,OpenLaw->J66,nsIn->J7g,mg_of->J7h,handedIn->J8n,plainOver->J8o,kitx_list->J8p,kitx_dict->J8q,cellsFrom_some->J8r,WalkO->J8v
open Ne renaming symm->Ql
open Nat renaming le_refl->Qn,lt_of_lt_of_le->Qz,ne_of_lt->Q8,le_of_ble_eq_true->Xc,lt_irrefl->Xd,le_trans->Xm,zero_le->Xo,lt_or_ge->Xy,le_of_lt->Uc,lt_of_le_of_lt->U7,two_pow_pos->J3t,gcd->J32,le_of_not_lt->J39,ne_of_gt->J4c,lt_succ_self->J4f,lt_succ_of_lt->J4n,le_add_right->J4s,mul_le_mul_right->J46,pow_add->J47,mul_lt_mul_of_pos_right->J48,le_of_eq->J5i,le_succ_of_le->J55,one_mul->J6b,pow_le_pow_right->J6d,le_succ->J61,mul_comm->J64,log2_lt->J7a,le_total->J7k,min_eq_left->J7l,not_lt_zero->J7n,le_of_succ_le->J7q,sub_self->J7w,lt_trichotomy->J74,mul_le_mul->J78,lt_of_succ_lt->J8b,add_mul->J8e,min_eq_right->J88,min_le_left->J9g,add_mul_mod_self_left->J9p,mod_eq_of_lt->J9q,dvd_trans->J9w
open PySem.Heap renaming lt_size->Qs,get?_push_of_some->Qu,get?_push_size->Q9,size_push->Xw,SameBut->X2,get?_update_other->U5,get?_update_self->J5m
open PySem.PyData renaming int->Qv,list->Ua,tuple->Ub,canLay0->U8,eqv->J3p,canLayAll0->J3z,depth->J41,bool->J5y,depthAll->J70
open PySem.Value renaming ref->Q1,int->Us,none->Ut,str->J35,bool->J36,type->J37,float->J6j,isInt->J8f,isStrOf->J8g,bytes->J8j
open Bool renaming false_ne_true->Q2,and_eq_true->Xx,eq_iff_iff->Uh,false_eq_true->J4m,false_and->J5e,or_false->J53,or_eq_true->J7p,true_and->J7v,noConfusion->J8z,or_true->J9c,true_or->J96,false_or->J97
open Int renaming toNat_natCast->Q5,natCast_nonneg->Xk,mul_zero->Xu,zero_mul->Xv,mul_comm->Xz,mul_left_comm->Ur,one_mul->Uz,toNat_of_nonneg->U9,le_refl->J3k,mul_assoc->J3l,emod_nonneg->J3u,zero_add->J31,emod_lt_of_pos->J34,natAbs_of_nonneg->J4p,lt_or_le->J4u,mul_add->J43,mul_neg->J45,add_mul->J57,neg_mul->J58,natAbs_add_le->J59,natAbs_mul->J6a,nonneg_of_mul_nonneg_right->J6e,pos_of_mul_pos_right->J6f,toNat->J6g,mul_one->J6r,natCast_mul->J7d,add_zero->J75,ne_of_gt->J76,sub_mul->J77,sub_zero->J8c,mul_sub->J8d,eq_of_mul_eq_mul_left->J9n,mul_nonpos_of_nonpos_of_nonneg->J9o,natAbs_neg->J9v,ofNat_dvd_left->J9x,mul_eq_zero->J91,zero_ediv->J92,mul_nonneg->J93
open Option.some renaming inj->Xf
open Sum renaming inl->Xg,inr->X9
open Option renaming some_ne_none->Xp,map_eq_some_iff->Um
open PySem.PassesOwn renaming never->Xs
open PySem renaming mem_of_lookup->Xt,boot_len->Uo,Within->J6l,call->J65,seqSlot_of->J7b,Value->Yan,PyData->Yao,Shared->Yap,wpAny->Yaq,World->Yar,Program->Yas,Around->Yat,sizeLine_eq->Yau,Scope->Yav,IsPair->Yaw,NameKind->Yax,mainGlobals->Yay,FuncData->Yaz,IsZip->Ya0,codeAny->Ya1,sysModules->Ya3,standAt->Ya5,wpAny_loadPart'->Ya6,Result->Ya8,Keyword->Ya9,wpAny_passesOwn->Yba,wpAny_Call_Name_kw->Ybb,callerA->Ybc,wpAny_ite_false->Ybd,seqItems?->Ybe,bootBuiltins->Ybf,swapsWith->Ybg,Operator->Ybh,release->Ybi,attributeBase->Ybj,BindsTo->Ybk,bindArgs->Ybl,closureFor->Ybn,builtinsNs->Ybp,foldedSetIterable->Ybq,wpAny_execs_nil->Ybr,behindInMarks->Ybs,wpAny_callSpecial?_slot->Ybt,wpAny_assign_Name->Ybu,rangeSize_one->Ybv,seqIndex_neg->Ybw,nums_intItems->Ybx,codeAny_builtin->Yby,wpAny_binaryOp_repeat_ref->Yb1,codeAny_compStart_list->Yb2,exec_Assign_Name_used->Yb3
open False renaming elim->Ud
open PySem.NameKind renaming free->Ul,cell->Uy
open Classical renaming byContradiction->U0
open PyProof.Rows renaming callWith_type1->U1,boot_tuple->Ya2,AllBare->Ya4,boot_list->Ya7,IntsAre->Ybm,boot_int->Ybo,boot_isinstance->Ybz,subscriptTail_builtinR->Yb0
open True renaming intro->U3
open PySem.Builtin.SmallTypes renaming nextOf->J3q,ownedTupleIsFree->J5v,ownedTupleHandOut->J84
open PySem.AutoSeq1 renaming wpAny_loadPart'->J30,idx_int->J7c
open PySem.F renaming plain_min_loop->J33,slot_tuple_mul->J4q,plainAttrs_list->J5a,slot_list_append->J5b,type_list_append->J5c,slot_tuple_iterator_next->J5u,slot_zip_next->J5w,entry_tuple_mul->J7e,args_tuple_mul_2->J7f,entry_min_loop->J79,slot_int_rmul->J8u,slot_tuple_rmul->J8w,slot_int_rmul->J8y,entry_tuple_iterator_next->J82,args_tuple_iterator_next_1->J83,entry_zip_next->J85,args_zip_next_1->J86,slot_dict_setdefault->J9h,plainAttrs_dict->J9i,slot_dict_values->J9j,slot_tuple_lt->J9r,slot_list_iadd->J9u
open PySem.Calls renaming spliced_cons->J38,spliced_nil->J4g,callWith_builtin->J62,Name_function_global->J8k,evalArgs_plain->J8s
open ForInStep renaming yield->J4a
open PySem.Data renaming cell->J4d,seq->J4l,fields->J6q
open PySem.Obj renaming mapSeq->J4i,data_mapFields->J80
open PySem.Around renaming under->J5j,under_plainId->J8a
open PySem.Builtin.List renaming listTooLong->J5n
open Eq renaming trans->J5p
open PySem.Str renaming ofString->J5t
open PySem.Builtin.Int renaming intBits->J50
open Sum.inl renaming inj->J6i
open PySem.Paired renaming length->J6k
open Array renaming length_toList->J6p,toList->J8l,getElem?_eq_getElem->J87
open PySem.IsRange renaming new->J6s
open PySem.P renaming truthy_int->J6t
open PySem.Walks renaming list->J69,tuple->J9b
open PySem.Shared renaming heap->J7i
open PySem.SeqAt renaming eqv_refl->J7u
open PySem.SeqAt.EqAt renaming int_str->J8h,str_int->J8i
open PySem.Builtin.Tuple renaming tupleTooMany->J8x
open PySem.Heap.SameBut renaming update->J81
open Nat.succ renaming inj->J9k
open PySem.Builtin.Builtins renaming bindParams->J9s
open PySem.BindsTo renaming of_defaults->J9y
open PySem.Builtin.Range renaming rangeSize->J98
open PySem.EqMixed renaming eq_bool_str->J99,eq_int_str->Yaa,eq_str_bool->Yab,eq_str_int->Yac,ne_bool_str->Yad,ne_int_str->Yae,ne_str_bool->Yaf,ne_str_int->Yag
open PySem.W.Looks renaming here->Yah
open PySem.Heap.IsSliceOf renaming new->Yai
open List.Pairwise renaming nil->Yaj,filter->Yak,imp_of_mem->Yal
open PySem.Challenge renaming pw_fallsum_k38_whole_never_both->Yam
open PySem PySem.Spec PyProof.Rows
namespace L2
abbrev Key:=Sum Int Str
noncomputable def Jje:Key->Yan->Bool
 | .inl k,v=>J8f k v
 | .inr x,v=>J8g x v
noncomputable def J2n (w:Yar):Key->Int
 | .inl k=>hashInt k
 | .inr x=>hashStr w x
theorem Zr:∀ {k:Key}{v:Yan},Jje k v=true->(∃ i t,k=Xg i/\v=Us i t)\/(∃ x t,k=X9 x/\v=J35 x t)
 | .inl i,v,h=>by
  obtain ⟨t,e⟩:=Value.isInt_shape (k:=i) (v:=v) h
  exact .inl ⟨i,t,rfl,e⟩
 | .inr x,v,h=>by
  obtain ⟨t,e⟩:=Value.isStrOf_shape (x:=x) (v:=v) h
  exact .inr ⟨x,t,rfl,e⟩
theorem Jq4 (i:Int) (t:Tok):Jje (.inl i) (.int i t)=true:=by simp [Jje,J8f]
theorem Jq5 (x:Str) (t:Tok):Jje (.inr x) (.str x t)=true:=by simp [Jje,J8g]
theorem Jy3 (a b:Int):decide ((Xg a:Key)=Xg b)=(a==b):=by
 by_cases e:a=b
 . subst e;simp
 . have h:¬ (Xg a:Key)=Xg b:=λ q=>e (J6i q)
   rw [decide_eq_false h]
   exact (beq_eq_false_iff_ne.mpr e).symm
theorem Jy4 (a b:Str):decide ((X9 a:Key)=X9 b)=decide (a=b):=by
 by_cases e:a=b
 . subst e;simp
 . have h:¬ (X9 a:Key)=X9 b:=λ q=>e (X9.inj q)
   rw [decide_eq_false h,decide_eq_false e]
theorem Jy5 (a:Int) (b:Str):decide ((Xg a:Key)=X9 b)=false:=decide_eq_false (λ q=>nomatch q)
theorem Jy6 (a:Str) (b:Int):decide ((X9 a:Key)=Xg b)=false:=decide_eq_false (λ q=>nomatch q)
noncomputable def Z2 (prog:Yas) (w:Yar):PySem.KeyKind prog w Key where
 is:=Jje
 hash:=J2n w
 inj:=λ v a b ha hb=>by
  rcases Zr ha with ⟨i,t,rfl,rfl⟩ | ⟨x,t,rfl,rfl⟩
  . rcases Zr hb with ⟨j,u,rfl,e⟩ | ⟨y,u,rfl,e⟩
    . injection e with e1 _;rw [e1]
    . exact nomatch e
  . rcases Zr hb with ⟨j,u,rfl,e⟩ | ⟨y,u,rfl,e⟩
    . exact nomatch e
    . injection e with e1 _;rw [e1]
 byValue:=λ k v h=>by
  rcases Zr h with ⟨i,t,rfl,rfl⟩ | ⟨x,t,rfl,rfl⟩<;>rfl
 pyHash:=λ hv h=>by
  rcases Zr hv with ⟨i,t,rfl,rfl⟩ | ⟨x,t,rfl,rfl⟩
  . exact wpAny_pyHash_int h
  . exact wpAny_pyHash_str h
 eqBool:=λ hu hv h=>by
  rcases Zr hu with ⟨i,t,rfl,rfl⟩ | ⟨x,t,rfl,rfl⟩
  . rcases Zr hv with ⟨j,u,rfl,rfl⟩ | ⟨y,u,rfl,rfl⟩
    . rw [Jy3] at h;exact wpAny_eqBool_int h
    . rw [Jy5] at h;exact J8h i t y u _ _ _ _ h
  . rcases Zr hv with ⟨j,u,rfl,rfl⟩ | ⟨y,u,rfl,rfl⟩
    . rw [Jy6] at h;exact J8i x t j u _ _ _ _ h
    . rw [Jy4] at h;exact wpAny_eqBool_str h
 «strs»:=λ k x t v h=>by
  rcases Zr h with ⟨i,u,rfl,e⟩ | ⟨y,u,rfl,e⟩
  . exact nomatch e
  . injection e with e1 _
    subst e1
    cases v<;>rfl
theorem Jly (prog:Yas) (w:Yar) (i:Int) (t:Tok):(Z2 prog w).is (.inl i) (.int i t)=true:=Jq4 i t
theorem Jlz (prog:Yas) (w:Yar) (x:Str) (t:Tok):(Z2 prog w).is (.inr x) (.str x t)=true:=Jq5 x t
inductive V where
 | non | bl (b:Bool) | int (i:Int) | str (x:Str) | byt (b:Array UInt8) | flt (b:UInt64) | ref (a:Addr) | ty (n:String)
 deriving DecidableEq
def Yk:V->Yan->Prop
 | .non,u=>u=Ut
 | .bl b,u=>u=J36 b
 | .int i,u=>∃ t,u=Us i t
 | .str x,u=>∃ t,u=J35 x t
 | .byt b,u=>∃ t,u=J8j b t
 | .flt b,u=>∃ t,u=J6j b t
 | .ref a,u=>u=Q1 a
 | .ty n,u=>u=J37 n
abbrev J9:List V->List Yan->Prop:=Paired Yk
theorem J9.length {xs:List V}{us:List Yan}(r:J9 xs us):xs.length=us.length:=J6k r
theorem J9.get:∀ {xs:List V}{us:List Yan}{i:Nat}{x:V},J9 xs us->xs[i]? = some x->∃ u,us[i]? = some u/\Yk x u
 | _,_,_,_,.nil,e=>by simp at e
 | _,_,0,_,.cons r _,e=>by simp at e;subst e;exact ⟨_,rfl,r⟩
 | _,_,i+1,x,.cons _ t,e=>by
  obtain ⟨u,h1,h2⟩:=J9.get (i:=i) (x:=x) t (by simpa using e)
  exact ⟨u,by simpa using h1,h2⟩
theorem J9.set {x:V}{u:Yan}(r:Yk x u):∀ {xs:List V}{us:List Yan}(i:Nat),J9 xs us->J9 (xs.set i x) (us.set i u)
 | _,_,_,.nil=>.nil
 | _,_,0,.cons _ t=>.cons r t
 | _,_,i+1,.cons q t=>.cons q (J9.set r i t)
theorem J9.append:∀ {xs ys:List V}{us ws:List Yan},J9 xs us->J9 ys ws->J9 (xs++ys) (us++ws)
 | _,_,_,_,.nil,s=>s
 | _,_,_,_,.cons r t,s=>.cons r (J9.append t s)
theorem J9.take:∀ {xs:List V}{us:List Yan}(n:Nat),J9 xs us->J9 (xs.take n) (us.take n)
 | _,_,0,_=>.nil
 | _,_,_+1,.nil=>.nil
 | _,_,n+1,.cons r t=>.cons r (J9.take n t)
theorem J9.drop:∀ {xs:List V}{us:List Yan}(n:Nat),J9 xs us->J9 (xs.drop n) (us.drop n)
 | _,_,0,r=>r
 | _,_,_+1,.nil=>.nil
 | _,_,n+1,.cons _ t=>J9.drop n t
def Jdz:Option V->Option Yan->Prop
 | some v,some u=>Yk v u
 | none,none=>True
 | _,_=>False
def KV {κ:Type}:List (κ×V)->List (κ×Yan)->Prop:=Paired λ (p:κ×V) (q:κ×Yan)=>p.1=q.1/\Yk p.2 q.2
noncomputable def kV:Key->V
 | .inl i=>.int i
 | .inr x=>.str x
inductive HO where
 /-- a list -/
 | lst (xs:List V)
 /-- a tuple (never changes) -/
 | tup (xs:List V)
 /-- a dict whose keys are ints and texts;one whose keys are tuples of ints and texts (the empty one is both) -/
 | dK (kvs:List (Key×V)) | dT (kvs:List (List Key×V))
 /-- a set of ints: its members,its size -/
 | set (S:Int->Bool) (n:Nat)
 /-- an instance of the class at C,its dict at dx,its attributes -/
 | ins (C dx:Addr) (fs:List (Str×V))
 /-- the dict of the instance at x -/
 | own (x:Addr)
 /-- the dict of an exception -/
 | xd (fs:List (Str×V))
 /-- a bound method,f of x -/
 | met (f x:Addr)
 /-- a range object lo,lo+1,.. below hi -/
 | rng (lo hi:Int)
 /-- a thing that is known to the object (the script;a dict while a loop walks it): read,never written while it is so -/
 | frz (o:Obj) (u:HO)
 /-- a code object's table -/
 | tbl (ps:Array Yan)
 /-- any other thing,by what is true of its one object (a def of one's own: SetO a S n:=HO.ext λ h=>..) -/
 | ext (φ:Heap->Prop)
abbrev Hp:=Addr->Option HO
noncomputable def upd (H:Hp) (a:Addr) (o:HO):Hp:=λ b=>if b=a then some o else H b
theorem Jg {H:Hp}{a:Addr}{o:HO}:upd H a o a=some o:=by unfold upd;rw [if_pos rfl]
theorem Jf {H:Hp}{a b:Addr}{o:HO}(h:b≠a):upd H a o b=H b:=by unfold upd;rw [if_neg h]
theorem Jgj {H:Hp}{a:Addr}{o u:HO}:upd (upd H a o) a u=upd H a u:=by
 funext b;unfold upd;split<;>rfl
theorem Jp {H:Hp}{a b:Addr}{o:HO}(h:H a=some o) (h':H b=none):a≠b:=by
 intro e;subst e;rw [h] at h';cases h'
section
variable (P:Yas) (w:Yar)
def Y3 (H:Hp) (h:Heap) (a:Addr):HO->Prop
 | .lst xs=>xs.length<=sizeLine/\∃ (its:List Yan) (n:Nat),J9 xs its/\h.get? a=some { cls:=.type "list",data:=.seq its.toArray n }
 | .tup xs=>xs.length<=sizeLine/\∃ its:List Yan,J9 xs its/\IsTup h a its.toArray
 | .dK kvs=>kvs.length<=sizeLine/\(a==Ya3)=false/\∃ vs,KV kvs vs/\h.DictOf (Z2 P w) a vs
 | .dT kvs=>kvs.length<=sizeLine/\(a==Ya3)=false/\∃ xs:List (List Key×Addr×Yan),
  Paired (λ (p:List Key×V) (q:List Key×Addr×Yan)=>p.1=q.1/\H q.2.1=some (.tup (p.1.map kV))/\Yk p.2 q.2.2) kvs xs /\
  ∃ o es ep,h.get? a=some o/\o.ExactDict/\o.data = .dict es ep/\es.toList=xs.map (entryOfKey (tupleKind (Z2 P w)))/\(xs.map (·.1)).Nodup
 | .set S n=>h.SetOf (intKind P w) a S n
 | .ins C dx fs=>H dx=some (.own a)/\fs.length<=1000/\dx≠a/\h.get? a=some (J3m C dx) /\
  ∃ mA,h.Ns1 dx mA/\(∀ f,Jdz (fs.lookup f) (mA f))/\J6l mA (fs.map (·.1))
 | .own _=>∃ o,h.get? a=some o
 | .xd fs=>∃ mA,h.Ns1 a mA/\∀ f,Jdz (fs.lookup f) (mA f)
 | .rng lo hi=>∃ t u v,h.get? a=some { cls:=.type "range",data:=.fields #[.int lo t,.int hi u,.int 1 v] }
 | .frz o u=>h.get? a=some o/\Y3 H h a u
 | .tbl ps=>h.get? a=some { cls:=.none,data:=.fields ps }
 | .met f x=>h.get? a=some (J6m (.ref f) (.ref x))
 | .ext φ=>φ h/\(∃ o,h.get? a=some o)/\∀ h1 h2:Heap,φ h1->(∀ o,h1.get? a=some o->h2.get? a=some o)->φ h2
def HOk (H:Hp) (h:Heap):Prop:=∀ a o,H a=some o->Y3 P w H h a o
end
section
variable {P:Yas}{w:Yar}{H H':Hp}{h h':Heap}{a:Addr}{o:HO}
theorem Y3.lt (x:Y3 P w H h a o):a<h.objs.size:=by
 cases o with
 | lst xs=>obtain ⟨_,_,_,_,e⟩:=x;exact Qs e
 | tup xs=>obtain ⟨_,_,_,p⟩:=x;exact p.lt
 | dK kvs=>obtain ⟨_,_,_,_,o,_,_,e,_⟩:=x;exact Qs e
 | dT kvs=>obtain ⟨_,_,_,_,o,_,_,e,_⟩:=x;exact Qs e
 | set S n=>obtain ⟨o,_,_,_,e,_⟩:=x;exact Qs e
 | ins C dx fs=>obtain ⟨_,_,_,e,_⟩:=x;exact Qs e
 | own y=>obtain ⟨_,e⟩:=x;exact Qs e
 | xd fs=>obtain ⟨_,⟨_,_,_,e,_⟩,_⟩:=x;exact Qs e
 | rng lo hi=>obtain ⟨_,_,_,e⟩:=x;exact Qs e
 | frz ob u=>obtain ⟨e,_⟩:=x;exact Qs e
 | tbl ps=>exact Qs (show h.get? a=some _ from x)
 | met f y=>exact Qs (show h.get? a=some _ from x)
 | ext φ=>obtain ⟨_,⟨_,e⟩,_⟩:=x;exact Qs e
theorem Paired.mapP {α β:Type}{F G:α->β->Prop}:∀ {l₁:List α}{l₂:List β},Paired F l₁ l₂->(∀ a b,F a b->G a b)->Paired G l₁ l₂
 | _,_,.nil,_=>.nil
 | _,_,.cons r t,f=>.cons (f _ _ r) (Paired.mapP t f)
theorem Y3.stay (x:Y3 P w H h a o) (k:∀ b u,(b=a\/H b=some (.own a))->h.get? b=some u->h'.get? b=some u)
 (ho:∀ b,H b=some (.own a)->H' b=some (.own a)) (ht:∀ b xs,H b=some (.tup xs)->H' b=some (.tup xs)):Y3 P w H' h' a o:=by
 induction o with
 | lst xs=>obtain ⟨z,its,n,r,e⟩:=x;exact ⟨z,its,n,r,k _ _ (.inl rfl) e⟩
 | tup xs=>obtain ⟨z,its,r,ob,e,c⟩:=x;exact ⟨z,its,r,ob,k _ _ (.inl rfl) e,c⟩
 | dK kvs=>obtain ⟨z,y,vs,r,ob,es,ep,e,c⟩:=x;exact ⟨z,y,vs,r,ob,es,ep,k _ _ (.inl rfl) e,c⟩
 | dT kvs=>
  obtain ⟨z,y,xs,r,ob,es,ep,e,c⟩:=x
  exact ⟨z,y,xs,Paired.mapP r λ p q z=>⟨z.1,ht _ _ z.2.1,z.2.2⟩,ob,es,ep,k _ _ (.inl rfl) e,c⟩
 | set S n=>obtain ⟨ob,es,ep,t,e,c⟩:=x;exact ⟨ob,es,ep,t,k _ _ (.inl rfl) e,c⟩
 | ins C dx fs=>
  obtain ⟨d,z,ne,e,mA,⟨od,es,ep,e2,c⟩,r⟩:=x
  exact ⟨ho _ d,z,ne,k _ _ (.inl rfl) e,mA,⟨od,es,ep,k _ _ (.inr d) e2,c⟩,r⟩
 | own y=>obtain ⟨ob,e⟩:=x;exact ⟨ob,k _ _ (.inl rfl) e⟩
 | xd fs=>obtain ⟨mA,⟨od,es,ep,e,c⟩,r⟩:=x;exact ⟨mA,⟨od,es,ep,k _ _ (.inl rfl) e,c⟩,r⟩
 | rng lo hi=>obtain ⟨t,u,v,e⟩:=x;exact ⟨t,u,v,k _ _ (.inl rfl) e⟩
 | frz ob u ih=>obtain ⟨e,q⟩:=x;exact ⟨k _ _ (.inl rfl) e,ih q⟩
 | tbl ps=>
  have e:h.get? a=some { cls:=.none,data:=.fields ps }:=x
  show h'.get? a=some { cls:=.none,data:=.fields ps }
  exact k a _ (.inl rfl) e
 | met f y=>
  have e:h.get? a=some (J6m (.ref f) (.ref y)):=x
  show h'.get? a=some (J6m (.ref f) (.ref y))
  exact k a _ (.inl rfl) e
 | ext φ=>obtain ⟨p,⟨o,e⟩,st⟩:=x;exact ⟨st _ _ p λ o q=>k _ _ (.inl rfl) q,⟨o,k _ _ (.inl rfl) e⟩,st⟩
theorem HOk.lt (x:HOk P w H h) (e:H a=some o):a<h.objs.size:=(x a o e).lt
theorem HOk.fresh (x:HOk P w H h) (e:h.objs.size<=a):H a=none:=by
 cases q:H a with
 | none=>rfl
 | some u=>exact absurd (Qz (x.lt q) e) (Xd _)
theorem HOk.kept (x:HOk P w H h) (k:∀ b u,h.get? b=some u->h'.get? b=some u):HOk P w H h':=λ a o e=>
 (x a o e).stay (λ b u _ q=>k b u q) (λ _ q=>q) λ _ _ q=>q
theorem HOk.laid (x:HOk P w H h) (k:∀ b u,h.get? b=some u->h'.get? b=some u) (hp:h.objs.size<=a) (new:Y3 P w (upd H a o) h' a o):HOk P w (upd H a o) h':=λ b u e=>by
 have hn:=x.fresh hp
 by_cases hb:b=a
 . subst hb;rw [Jg] at e;cases e;exact new
 . rw [Jf hb] at e
   exact (x b u e).stay (λ c v _ q=>k c v q) (λ c q=>by rw [Jf (Jp q hn)];exact q) λ c xs q=>by rw [Jf (Jp q hn)];exact q
end
def Rd (H:Hp) (a:Addr) (u:HO):Prop:=H a=some u\/∃ o,H a=some (.frz o u)
theorem Rd.ok {P:Yas}{w:Yar}{H:Hp}{h:Heap}{a:Addr}{u:HO}(r:Rd H a u) (x:HOk P w H h):Y3 P w H h a u:=by
 rcases r with r | ⟨o,r⟩
 . exact x a u r
 . obtain ⟨_,q⟩:=x a _ r
   exact q
def Mut:Option HO->Prop
 | some (.lst _)=>True
 | some (.dK _)=>True
 | some (.dT _)=>True
 | some (.set _ _)=>True
 | some (.ins _ _ _)=>True
 | some (.ext _)=>True
 | _=>False
section
variable {P:Yas}{w:Yar}{H:Hp}{h h':Heap}{x e:Addr}{o':HO}
theorem HOk.write (ok:HOk P w H h) (mu:Mut (H x)) (he:e=x\/H e=some (.own x)) (k:∀ b u,b≠e->h.get? b=some u->h'.get? b=some u) (heo:∃ u,h'.get? e=some u)
 (new:Y3 P w (upd H x o') h' x o'):HOk P w (upd H x o') h':=λ b u q=>by
 have nown:∀ c y,H c=some (.own y)->c≠x:=λ c y r z=>by subst z;rw [r] at mu;exact mu
 have ntup:∀ c xs,H c=some (.tup xs)->c≠x:=λ c xs r z=>by subst z;rw [r] at mu;exact mu
 by_cases hb:b=x
 . subst hb;rw [Jg] at q;cases q;exact new
 . rw [Jf hb] at q
   by_cases hbe:b=e
   . have q':H b=some (.own x):=by
      rcases he with z | z
      . exact absurd (hbe.trans z) hb
      . rw [hbe];exact z
     rw [q] at q';cases q'
     obtain ⟨v,hv⟩:=heo
     exact ⟨v,by rw [hbe];exact hv⟩
   . refine (ok b u q).stay (λ c v hc r=>k c v ?_ r) (λ c r=>by rw [Jf (nown c b r)];exact r) λ c xs r=>by rw [Jf (ntup c xs r)];exact r
     rcases hc with rfl | hc
     . exact hbe
     . rintro rfl
       rcases he with z | z
       . exact nown c b hc z
       . rw [hc] at z;cases z;exact hb rfl
end
structure Un (fs ex:List Addr) (H H':Hp) (h h':Heap):Prop where
 keep:∀ b o,h.get? b=some o->H b=none->b∉fs->b∉ex->h'.get? b=some o
 slot:∀ b o,h.get? b=some o->H b=none->b∈fs->b∉ex->∃ sl,h'.get? b=some { o with slots:=sl }
 free:∀ b o,h.get? b=some o->H b=none->b∉ex->H' b=none
 there:∀ b o,h.get? b=some o->b∉ex->∃ o',h'.get? b=some o'
 tups:∀ b xs,H b=some (.tup xs)->H' b=some (.tup xs)
 frzs:∀ b o u,H b=some (.frz o u)->H' b=some (.frz o u)
 tbls:∀ b ps,H b=some (.tbl ps)->∃ more,H' b=some (.tbl (ps++more))
section
variable {fs fs' ex ex':List Addr}{H H1 H2:Hp}{h h1 h2 h':Heap}{a x e:Addr}{o:HO}
theorem Un.any (u:Un fs ex H H1 h h1) {b:Addr}{ob:Obj}(q:h.get? b=some ob) (n:H b=none) (hx:b∉ex):∃ sl,h1.get? b=some { ob with slots:=sl }:=by
 by_cases hb:b∈fs
 . exact u.slot b ob q n hb hx
 . exact ⟨ob.slots,u.keep b ob q n hb hx⟩
theorem Un.kept (k:∀ b u,h.get? b=some u->h'.get? b=some u):Un fs ex H H h h':=
 ⟨λ b ob q _ _ _=>k b ob q,λ b ob q _ _ _=>⟨ob.slots,k b ob q⟩,λ _ _ _ n _=>n,λ b ob q _=>⟨ob,k b ob q⟩,λ _ _ q=>q,λ _ _ _ q=>q,λ _ ps q=>⟨#[],by rw [q];simp⟩⟩
theorem Un.refl:Un fs ex H H h h:=Un.kept λ _ _ q=>q
theorem Un.laid (k:∀ b u,h.get? b=some u->h'.get? b=some u) (hp:h.objs.size<=a) (hn:H a=none):Un fs ex H (upd H a o) h h' where
 keep:=λ b u q _ _ _=>k b u q
 slot:=λ b u q _ _ _=>⟨u.slots,k b u q⟩
 free:=λ b u q n _=>by rw [Jf (Q8 (Qz (Qs q) hp))];exact n
 there:=λ b u q _=>⟨u,k b u q⟩
 tups:=λ b xs q=>by rw [Jf (Jp q hn)];exact q
 frzs:=λ b u xs q=>by rw [Jf (Jp q hn)];exact q
 tbls:=λ b ps q=>⟨#[],by rw [Jf (Jp q hn),q];simp⟩
theorem Un.write (mu:Mut (H x)) (he:e=x\/H e=some (.own x)) (k:∀ b u,b≠e->h.get? b=some u->h'.get? b=some u) (heo:∃ u,h'.get? e=some u):Un fs ex H (upd H x o) h h':=by
 have hx:∀ b,H b=none->b≠x:=λ b n z=>by subst z;rw [n] at mu;exact mu
 have hb:∀ b,H b=none->b≠e:=λ b n z=>by
  subst z
  rcases he with r | r
  . exact hx b n r
  . rw [n] at r;cases r
 have hm:∀ b u,H b=some u->¬ Mut (some u)->b≠x:=λ b u q nm z=>by subst z;rw [q] at mu;exact nm mu
 refine ⟨λ b u q n _ _=>k b u (hb b n) q,λ b u q n _ _=>⟨u.slots,k b u (hb b n) q⟩,λ b u q n _=>by rw [Jf (hx b n)];exact n,λ b u q _=>?_,
  λ b xs q=>by rw [Jf (hm b _ q λ z=>z)];exact q,λ b u xs q=>by rw [Jf (hm b _ q λ z=>z)];exact q,λ b ps q=>⟨#[],by rw [Jf (hm b _ q λ z=>z),q];simp⟩⟩
 by_cases hbe:b=e
 . subst hbe;exact heo
 . exact ⟨u,k b u hbe q⟩
end
noncomputable def trk (h:Heap) (H:Hp):List Addr:=(Qk h.objs.size).filter λ a=>(H a).isSome
noncomputable def Jj4 (h:Heap) (H:Hp):Heap:=PySem.W.hideAll h (trk h H)
theorem Jq6 (h:Heap) (H:Hp):(Jj4 h H).objs.size=h.objs.size:=PySem.W.hideAll_size _ _
theorem Jsk {h:Heap}{H:Hp}{b:Addr}{o:Obj}(e:h.get? b=some o) (n:H b=none):(Jj4 h H).get? b=some o:=
 PySem.W.hideAll_get _ e λ hm=>by
  have q:(H b).isSome=true:=(Xq.mp hm).2
  rw [n] at q;simp at q
theorem Jvp {h:Heap}{H:Hp}{b:Addr}{o:Obj}(e:(Jj4 h H).get? b=some o):h.get? b=some o/\H b=none:=by
 have e':h.get? b=some o:=PySem.W.of_hideAll (trk h H) e
 refine ⟨e',?_⟩
 cases q:H b with
 | none=>rfl
 | some x=>
  have hm:b∈trk h H:=Xq.mpr ⟨Xh.mpr (Qs e'),by simp [q]⟩
  have z:(Jj4 h H).get? b=none:=PySem.W.hideAll_none (trk h H) hm
  rw [z] at e;cases e
noncomputable def Jvq (g h:Heap) (L:Addr):List (Addr×Obj):=(Qk h.objs.size).filterMap λ a=>if a=L\/(g.get? a).isSome=true then none else (h.get? a).map λ o=>(a,o)
noncomputable def rest (g h:Heap) (L d:Addr):List (Addr×Obj):=(Jvq g h L).filter λ p=>decide (p.1≠d)
structure Mod (K:Qc) (mg:Str->Option Yan) (base:Heap):Prop where
 kin:K.In base
 glob:base.Ns Yay mg
 blt:∃ mb,base.Ns Ybp mb/\∀ x:Str,x≠"__name__"->mb x=Ybf x
 nolimit:base.NoLimit
structure Cx where
 prog:Yas
 w:Yar
 K:Qc
 mg:Str->Option Yan
 base:Heap
 A:Yat
 N:List Str
 s₀:Yap
 H₀:Hp
 env:Env
 outer:List Env
 stack:List Env
 ex:List Addr
 fn:Str->Bool
 calm:Bool
 pn:List (Addr×Obj)
 xe:Yan->Yap->Prop
noncomputable def frs (l:List Env):List Addr:=l.filterMap (·.frame)
noncomputable abbrev Cx.fs (X:Cx):List Addr:=frs X.outer
def Vis (sc:Yav) (x:Str):Prop:=sc.names.lookup x=some .local \/ sc.names.lookup x=some .cell\/sc.names.lookup x=some .free
def Loc (sc:Yav) (x:Str):Prop:=sc.names.lookup x=some .local \/ sc.names.lookup x=some .cell
def J2o (env:Env) (h:Heap) (m:Str->Option Yan) (x:Str) (u:Yan):Prop:=
 (env.kindOf x=some .local /\ m x=some u)\/((env.kindOf x=some .cell\/env.kindOf x=some .free)/\∃ c,env.cells.lookup x=some c/\h.IsCell c (some u))
structure Cx.Ok (X:Cx):Prop where
 mod:Mod X.K X.mg X.base
 kind:X.env.scope.kind = .function
 glob:X.env.globals=Yay
 blt:X.env.builtins=Ybp
 above:X.s₀.heap.objs.size<=X.env.locals
 inj:∀ x y c,X.env.cells.lookup x=some c->X.env.cells.lookup y=some c->x=y
 has:∀ x,(X.env.kindOf x=some .cell\/X.env.kindOf x=some .free)->∃ c,X.env.cells.lookup x=some c
 cab:∀ x c,X.fn x=true->X.env.cells.lookup x=some c->X.s₀.heap.objs.size<=c
 hd:X.calm=true->X.A.handled=none
 frames:X.A.frames=some X.stack
 stk:X.stack=X.outer\/(X.stack=X.env::X.outer/\X.env.frame=some X.env.locals)
 exf:∀ b∈X.ex,b≠X.env.locals/\∀ x c,X.env.cells.lookup x=some c->c≠b
 bs:∀ b o,X.base.get? b=some o->X.s₀.heap.get? b=some o/\X.H₀ b=none
 bsz:X.base.objs.size<=X.s₀.heap.objs.size
 noex:∀ b o,X.base.get? b=some o->b∉X.ex
 exfs:∀ b∈X.ex,b∉X.fs
 funs:X.s₀.heap.FunFrames X.base X.outer
 frf:∀ b∈X.fs,X.H₀ b=none
structure Inv (X:Cx) (pins:List (Addr×Obj)) (σ:List (Option V)) (H:Hp) (s:Yap):Prop where
 ok:X.Ok
 os:s.os=X.s₀.os
 bare:Ya4 s.gens
 base:Un X.fs X.ex X.H₀ H X.s₀.heap s.heap
 loc:∃ m,s.heap.Ns X.env.locals m/\∀ (i:Nat) (x:Str) (v:V),X.N[i]? = some x->σ[i]? = some (some v)->Vis X.env.scope x->∃ u,Yk v u/\J2o X.env s.heap m x u
 cell:∀ x c,X.env.cells.lookup x=some c->∃ v,s.heap.IsCell c v
 free:H X.env.locals=none
 freeC:∀ x c,X.env.cells.lookup x=some c->H c=none
 pin:∀ p∈X.pn++pins,s.heap.get? p.1=some p.2/\H p.1=none/\p.1≠X.env.locals/\p.1∉X.fs/\∀ v,p.2.data≠.cell v
 hok:HOk X.prog X.w H s.heap
 len:σ.length=X.N.length
section
variable {X:Cx}{pins:List (Addr×Obj)}{σ:List (Option V)}{H H':Hp}{s:Yap}{h':Heap}
theorem Cx.Ok.nofr (ok:X.Ok) {b:Addr}{o:Obj}(e:X.base.get? b=some o):b∉X.fs:=λ hb=>by
 have:=(ok.funs.mem hb).1
 rw [e] at this;cases this
theorem Inv.bs (I:Inv X pins σ H s):∀ b o,X.base.get? b=some o->s.heap.get? b=some o/\H b=none:=λ b o e=>
 ⟨I.base.keep b o (I.ok.bs b o e).1 (I.ok.bs b o e).2 (I.ok.nofr e) (I.ok.noex b o e),I.base.free b o (I.ok.bs b o e).1 (I.ok.bs b o e).2 (I.ok.noex b o e)⟩
theorem Inv.bk (I:Inv X pins σ H s):∀ b o,X.base.get? b=some o->s.heap.get? b=some o:=λ b o e=>(I.bs b o e).1
theorem Inv.mod (I:Inv X pins σ H s):Mod X.K X.mg X.base:=I.ok.mod
theorem Inv.kIn (I:Inv X pins σ H s):X.K.In s.heap:=I.ok.mod.kin.keeps I.bk
theorem Inv.lt (I:Inv X pins σ H s):X.env.locals<s.heap.objs.size:=let ⟨_,hn,_⟩:=I.loc;hn.lt
theorem Inv.sz (I:Inv X pins σ H s):X.s₀.heap.objs.size<=s.heap.objs.size:=Xm I.ok.above (Uc I.lt)
theorem Inv.nofs (I:Inv X pins σ H s) {a:Addr}(h:s.heap.objs.size<=a):a∉X.fs:=λ hb=>by
 obtain ⟨_,o,ho,_⟩:=I.ok.funs.mem hb
 exact absurd (Qz (Qs ho) (Xm I.sz h)) (Xd _)
theorem Inv.cne (I:Inv X pins σ H s):∀ x c,X.env.cells.lookup x=some c->c≠X.env.locals:=λ x c e z=>by
 obtain ⟨v,o,ho,hd⟩:=I.cell x c e
 obtain ⟨m,⟨o',es,ep,ho',hd',_⟩,_⟩:=I.loc
 rw [z,ho'] at ho;cases ho;rw [hd'] at hd;cases hd
theorem Inv.funs (I:Inv X pins σ H s):s.heap.FunFrames X.base X.outer:=by
 have all:∀ (l:List Env),(∀ b∈frs l,b∈X.fs)->X.s₀.heap.FunFrames X.base l->s.heap.FunFrames X.base l:=by
  intro l
  induction l with
  | nil=>intro _ _;trivial
  | cons env r ih=>
   intro hs hl
   obtain ⟨hk,⟨L,o,hf,hn,ho,hd⟩,hr⟩:=hl
   have hL:L∈X.fs:=hs L (by unfold frs;rw [J6n,hf];exact Qh)
   obtain ⟨sl,e⟩:=I.base.slot L o ho (I.ok.frf L hL) hL λ z=>I.ok.exfs L z hL
   exact ⟨hk,⟨L,_,hf,hn,e,hd⟩,ih (λ b hb=>hs b (by unfold frs;rw [J6n,hf];exact Qi _ hb)) hr⟩
 exact all X.outer (λ _ hb=>hb) I.ok.funs
theorem Inv.stack (I:Inv X pins σ H s):s.heap.FunFrames X.base X.stack:=by
 rcases I.ok.stk with e | ⟨e,hf⟩
 . rw [e];exact I.funs
 . rw [e]
   obtain ⟨m,hn,_⟩:=I.loc
   refine .cons (by rw [I.ok.kind];decide) hf hn ?_ I.funs
   exact Heap.get?_none_of_le (Xm I.ok.bsz I.ok.above)
theorem Inv.stkSub (I:Inv X pins σ H s):∀ b∈frs X.stack,b∈X.env.locals::X.fs:=λ b hb=>by
 rcases I.ok.stk with e | ⟨e,hf⟩
 . rw [e] at hb;exact Qi _ hb
 . rw [e] at hb
   unfold frs at hb
   rw [J6n,hf] at hb
   exact hb
theorem Inv.stkFree (I:Inv X pins σ H s):∀ b∈frs X.stack,H b=none:=λ b hb=>by
 rcases Qf.mp (I.stkSub b hb) with e | hb
 . rw [e];exact I.free
 . obtain ⟨_,o,ho,_⟩:=I.ok.funs.mem hb
   exact I.base.free b o ho (I.ok.frf b hb) λ z=>I.ok.exfs b z hb
theorem Inv.step {g':Array GenState}{t':Nat}{d':Drawn}{ch:List Addr}(I:Inv X pins σ H s)
 (hch:∀ b∈ch,(b∈X.ex\/X.s₀.heap.objs.size<=b)/\b≠X.env.locals/\(∀ x c,X.env.cells.lookup x=some c->c≠b)/\∀ p∈X.pn++pins,p.1≠b)
 (keep:∀ b o,b≠X.env.locals->b∉X.fs->b∉ch->s.heap.get? b=some o->H b=none->h'.get? b=some o)
 (slot:∀ b o,b≠X.env.locals->b∈X.fs->b∉ch->s.heap.get? b=some o->H b=none->∃ sl,h'.get? b=some { o with slots:=sl }) (free:∀ b o,b∉ch->s.heap.get? b=some o->H b=none->H' b=none)
 (there:∀ b o,b∉ch->s.heap.get? b=some o->∃ o',h'.get? b=some o')
 (tups:∀ b xs,H b=some (.tup xs)->H' b=some (.tup xs)) (frzs:∀ b o u,H b=some (.frz o u)->H' b=some (.frz o u)) (tbls:∀ b ps,H b=some (.tbl ps)->∃ more,H' b=some (.tbl (ps++more)))
 (ns:∀ m,s.heap.Ns X.env.locals m->h'.Ns X.env.locals m) (hok:HOk X.prog X.w H' h') (hg:Ya4 g') :
 Inv X pins σ H' { s with heap:=h',gens:=g',drawn:=d',toks:=t' }:=by
 have neL:∀ b o,X.s₀.heap.get? b=some o->b≠X.env.locals:=λ b o e=>Q8 (Qz (Qs e) I.ok.above)
 have neC:∀ b o,X.s₀.heap.get? b=some o->b∉X.ex->b∉ch:=λ b o e hx hb=>by
  rcases (hch b hb).1 with z | z
  . exact hx z
  . exact absurd (Qz (Qs e) z) (Xd _)
 have cellK:∀ x c,X.env.cells.lookup x=some c->∀ v,s.heap.IsCell c v->h'.IsCell c v:=λ x c e v ⟨o,ho,hd⟩=>by
  have nch:c∉ch:=λ z=>(hch c z).2.2.1 x c e rfl
  by_cases hc:c∈X.fs
  . obtain ⟨sl,q⟩:=slot c o (I.cne x c e) hc nch ho (I.freeC x c e)
    exact ⟨_,q,hd⟩
  . exact ⟨o,keep c o (I.cne x c e) hc nch ho (I.freeC x c e),hd⟩
 refine ⟨I.ok,I.os,hg,⟨λ b o e n hb hx=>?_,λ b o e n hb hx=>?_,λ b o e n hx=>?_,λ b o e hx=>?_,λ b xs e=>tups b xs (I.base.tups b xs e),λ b o xs e=>frzs b o xs (I.base.frzs b o xs e),λ b ps e=>?_⟩,?_,λ x c e=>?_,?_,λ x c e=>?_,λ p hp=>?_,hok,I.len⟩
 . exact keep b o (neL b o e) hb (neC b o e hx) (I.base.keep b o e n hb hx) (I.base.free b o e n hx)
 . obtain ⟨sl,e1⟩:=I.base.slot b o e n hb hx
   obtain ⟨sl',e2⟩:=slot b _ (neL b o e) hb (neC b o e hx) e1 (I.base.free b o e n hx)
   exact ⟨sl',e2⟩
 . obtain ⟨o',e1⟩:=I.base.there b o e hx
   exact free b o' (neC b o e hx) e1 (I.base.free b o e n hx)
 . obtain ⟨o',e1⟩:=I.base.there b o e hx
   exact there b o' (neC b o e hx) e1
 . obtain ⟨m1,e1⟩:=I.base.tbls b ps e
   obtain ⟨m2,e2⟩:=tbls b _ e1
   exact ⟨m1++m2,by rw [e2,Array.append_assoc]⟩
 . obtain ⟨m,hn,hl⟩:=I.loc
   refine ⟨m,ns m hn,λ i x v e1 e2 e3=>?_⟩
   obtain ⟨u,r,l⟩:=hl i x v e1 e2 e3
   refine ⟨u,r,?_⟩
   rcases l with l | ⟨k,c,e,z⟩
   . exact .inl l
   . exact .inr ⟨k,c,e,cellK x c e _ z⟩
 . obtain ⟨v,z⟩:=I.cell x c e
   exact ⟨v,cellK x c e v z⟩
 . obtain ⟨m,⟨o,_,_,ho,_⟩,_⟩:=I.loc
   exact free _ o (λ z=>(hch _ z).2.1 rfl) ho I.free
 . obtain ⟨v,o,ho,hd⟩:=I.cell x c e
   exact free c o (λ z=>(hch c z).2.2.1 x c e rfl) ho (I.freeC x c e)
 . obtain ⟨e,n,ne,nf,d⟩:=I.pin p hp
   have nch:p.1∉ch:=λ z=>(hch p.1 z).2.2.2 p hp rfl
   exact ⟨keep p.1 p.2 ne nf nch e n,free p.1 p.2 nch e n,ne,nf,d⟩
theorem Inv.un {t':Nat}(I:Inv X pins σ H s) (u:Un X.fs [] H H' s.heap h') (hok:HOk X.prog X.w H' h'):Inv X pins σ H' { s with heap:=h',toks:=t' }:=by
 obtain ⟨m,⟨o,es,ep,ho,r⟩,_⟩:=id I.loc
 obtain ⟨sl,hL⟩:=u.any ho I.free (by simp)
 exact I.step (g':=s.gens) (d':=s.drawn) (ch:=[]) (λ _ z=>nomatch z) (λ b o _ hb _ e n=>u.keep b o e n hb (by simp)) (λ b o _ hb _ e n=>u.slot b o e n hb (by simp)) (λ b o _ e n=>u.free b o e n (by simp)) (λ b o _ e=>u.there b o e (by simp)) u.tups u.frzs u.tbls (λ m' hm=>by
  obtain ⟨o',es',ep',ho',r'⟩:=hm
  rw [ho] at ho';cases ho'
  exact ⟨_,es',ep',hL,r'⟩) hok I.bare
theorem Inv.call {g':Array GenState}{t':Nat}{d':Drawn}{ch:List Addr}(I:Inv X pins σ H s) (u:Un (frs X.stack) ch H H' s.heap h') (hok:HOk X.prog X.w H' h') (hg:Ya4 g')
 (hch:∀ b∈ch,(b∈X.ex\/X.s₀.heap.objs.size<=b)/\b≠X.env.locals/\(∀ x c,X.env.cells.lookup x=some c->c≠b)/\∀ p∈X.pn++pins,p.1≠b) :
 Inv X pins σ H' { s with heap:=h',gens:=g',drawn:=d',toks:=t' }:=by
 obtain ⟨m,⟨o,es,ep,ho,r⟩,_⟩:=id I.loc
 obtain ⟨sl,hL⟩:=u.any ho I.free λ z=>(hch _ z).2.1 rfl
 exact I.step (ch:=ch) hch (λ b o hL hb hc e n=>u.keep b o e n (λ z=>(Qf.mp (I.stkSub b z)).elim hL hb) hc) (λ b o _ _ hc e n=>u.any e n hc) (λ b o hc e n=>u.free b o e n hc) (λ b o hc e=>u.there b o e hc) u.tups u.frzs u.tbls (λ m' hm=>by
  obtain ⟨o',es',ep',ho',r'⟩:=hm
  rw [ho] at ho';cases ho'
  exact ⟨_,es',ep',hL,r'⟩) hok hg
theorem Inv.turned {t':Nat}{it:Addr}(I:Inv X pins σ H s) (k:∀ b o,b≠it->s.heap.get? b=some o->h'.get? b=some o) (hn:H it=none) (hL:it≠X.env.locals)
 (h1:it∈X.ex\/X.s₀.heap.objs.size<=it) (h2:∀ x c,X.env.cells.lookup x=some c->c≠it) (h3:∀ p∈X.pn++pins,p.1≠it):Inv X pins σ H { s with heap:=h',toks:=t' }:=by
 have nit:∀ b u,H b=some u->b≠it:=λ b u e z=>by rw [z,hn] at e;cases e
 refine I.step (g':=s.gens) (d':=s.drawn) (ch:=[it]) (λ b hb=>?_) (λ b o _ _ hc e _=>k b o (λ z=>hc (by simp [z])) e) (λ b o _ _ hc e _=>⟨o.slots,k b o (λ z=>hc (by simp [z])) e⟩) (λ _ _ _ _ n=>n)
  (λ b o hc e=>⟨o,k b o (λ z=>hc (by simp [z])) e⟩) (λ _ _ e=>e) (λ _ _ _ e=>e) (λ b ps e=>⟨#[],by rw [e];simp⟩) (λ m hm=>?_) (λ b u e=>?_) I.bare
 . have e:b=it:=by simpa using hb
   subst e
   exact ⟨h1,hL,h2,h3⟩
 . obtain ⟨o,es,ep,ho,r⟩:=hm
   exact ⟨o,es,ep,k _ o (Ql hL) ho,r⟩
 . refine (I.hok b u e).stay (λ c v hc q=>k c v ?_ q) (λ _ q=>q) λ _ _ q=>q
   rcases hc with z | z
   . rw [z];exact nit b u e
   . exact nit c _ z
theorem Inv.tok (I:Inv X pins σ H s) (t:Nat):Inv X pins σ H { s with toks:=t }:=I.un (h':=s.heap) (t':=t) Un.refl I.hok
theorem Inv.kept {t':Nat}(I:Inv X pins σ H s) (k:∀ b u,s.heap.get? b=some u->h'.get? b=some u):Inv X pins σ H { s with heap:=h',toks:=t' }:=I.un (Un.kept k) (I.hok.kept k)
theorem Inv.laid {a:Addr}{o:HO}{t':Nat}(I:Inv X pins σ H s) (k:∀ b u,s.heap.get? b=some u->h'.get? b=some u) (hp:s.heap.objs.size<=a) (new:Y3 X.prog X.w (upd H a o) h' a o) :
 Inv X pins σ (upd H a o) { s with heap:=h',toks:=t' }:=I.un (Un.laid k hp (I.hok.fresh hp)) (I.hok.laid k hp new)
theorem Inv.write {x e:Addr}{o:HO}{t':Nat}(I:Inv X pins σ H s) (mu:Mut (H x)) (he:e=x\/H e=some (.own x)) (k:∀ b u,b≠e->s.heap.get? b=some u->h'.get? b=some u) (heo:∃ u,h'.get? e=some u)
 (new:Y3 X.prog X.w (upd H x o) h' x o):Inv X pins σ (upd H x o) { s with heap:=h',toks:=t' }:=I.un (Un.write mu he k heo) (I.hok.write mu he k heo new)
theorem Inv.pins_of {pins':List (Addr×Obj)}(I:Inv X pins σ H s) (h:∀ p∈pins',s.heap.get? p.1=some p.2/\H p.1=none/\p.1≠X.env.locals/\p.1∉X.fs/\∀ v,p.2.data≠.cell v):Inv X pins' σ H s:=
 ⟨I.ok,I.os,I.bare,I.base,I.loc,I.cell,I.free,I.freeC,λ p hp=>(Q6.mp hp).elim (λ z=>I.pin p (Xn _ z)) (h p),I.hok,I.len⟩
theorem Jl0 {N:List Str}(hN:N.Nodup) {i j:Nat}{x:Str}(a:N[i]? = some x) (b:N[j]? = some x):i=j:=by
 obtain ⟨h1,e1⟩:=Qq.mp a
 obtain ⟨h2,e2⟩:=Qq.mp b
 exact (J6o hN).mp (e1.trans e2.symm)
theorem Je7 {M:Model}{A:Yat}{E:Yan->Yap->Prop}{i:Nat}{x:Str}{v:V}{u:Yan}{Q:Unit->Yap->Prop}(I:Inv X pins σ H s) (hN:X.N.Nodup) (hi:X.N[i]? = some x) (hx:Loc X.env.scope x) (r:Yk v u)
 (h:∀ s',Inv X pins (σ.set i (some v)) H s'->(∃ a,X2 a s.heap s'.heap/\(a=X.env.locals\/X.env.cells.lookup x=some a))->Q () s') (hf:X.fn x=true\/X.env.scope.names.lookup x=some .local := by first | exact .inl rfl | exact .inr rfl | assumption):Yaq M A (storeName X.env x u) Q E s:=by
 obtain ⟨m,hn,hl⟩:=id I.loc
 have hcls:(X.env.scope.kind == .class||(X.env.scope.kind == .module&&X.env.locals != X.env.globals))=false:=by rw [I.ok.kind];rfl
 have hiσ:i < σ.length:=by rw [I.len];exact (Qq.mp hi).1
 have cne:=I.cne
 have tracked:∀ {a:Addr} {h':Heap},(∃ o,s.heap.get? a=some o/\H a=none)->X2 a s.heap h'->HOk X.prog X.w H h':=λ {a h'} ha hs b ob e=>by
  obtain ⟨_,_,hfree⟩:=ha
  refine (I.hok b ob e).stay (λ c w' hc q=>(hs.2 c ?_).trans q) (λ _ q=>q) λ _ _ q=>q
  rintro rfl
  rcases hc with rfl | hc
  . rw [hfree] at e;cases e
  . rw [hfree] at hc;cases hc
 rcases hx with hk | hk
 . refine wpAny_storeName_local hk hn (λ h' hn' hs=>?_) hcls
   obtain ⟨oL,_,_,hoL,_⟩:=id hn
   refine h _ ⟨I.ok,I.os,I.bare,⟨λ b o e n hb hx=>?_,λ b o e n hb hx=>?_,I.base.free,λ b o e hx=>?_,I.base.tups,I.base.frzs,I.base.tbls⟩,⟨_,hn',λ j y v' e1 e2 e3=>?_⟩,λ y c e=>?_,I.free,I.freeC,λ p hp=>?_,tracked ⟨oL,hoL,I.free⟩ hs,by simpa using I.len⟩ ⟨_,hs,.inl rfl⟩
   . exact (hs.2 b (Q8 (Qz (Qs e) I.ok.above))).trans (I.base.keep b o e n hb hx)
   . obtain ⟨sl,e1⟩:=I.base.slot b o e n hb hx
     exact ⟨sl,(hs.2 b (Q8 (Qz (Qs e) I.ok.above))).trans e1⟩
   . obtain ⟨o',e1⟩:=I.base.there b o e hx
     exact ⟨o',(hs.2 b (Q8 (Qz (Qs e) I.ok.above))).trans e1⟩
   . by_cases hj:j=i
     . subst hj
       rw [hi] at e1;cases e1
       rw [Q3 hiσ] at e2
       cases e2
       exact ⟨u,r,.inl ⟨hk,by simp⟩⟩
     . rw [Q4 (Ql hj)] at e2
       obtain ⟨u',r',q⟩:=hl j y v' e1 e2 e3
       refine ⟨u',r',?_⟩
       rcases q with ⟨k,e⟩ | ⟨k,c,e,z⟩
       . refine .inl ⟨k,?_⟩
         have:y≠x:=λ e=>hj (Jl0 hN e1 (e▸hi))
         simp [this,e]
       . exact .inr ⟨k,c,e,z.sameBut hs (cne y c e)⟩
   . obtain ⟨w',z⟩:=I.cell y c e
     exact ⟨w',z.sameBut hs (cne y c e)⟩
   . obtain ⟨e,n,ne,nf,d⟩:=I.pin p hp
     exact ⟨(hs.2 p.1 ne).trans e,n,ne,nf,d⟩
 . have hfn:X.fn x=true:=by
    rcases hf with z | z
    . exact z
    . rw [z] at hk;cases hk
   obtain ⟨c,hc⟩:=I.ok.has x (.inl hk)
   obtain ⟨w',z⟩:=I.cell x c hc
   refine wpAny_storeName_cell I.ok.kind hk hc z (λ h' hc' hs=>?_)
   obtain ⟨oc,hoc,hocd⟩:=id z
   refine h { s with heap:=h' } ⟨I.ok,I.os,I.bare,⟨λ b o e n hb hx=>?_,λ b o e n hb hx=>?_,I.base.free,λ b o e hx=>?_,I.base.tups,I.base.frzs,I.base.tbls⟩,⟨m,hn.sameBut hs (Ql (cne x c hc)),λ j y v' e1 e2 e3=>?_⟩,λ y c' e=>?_,I.free,I.freeC,λ p hp=>?_,tracked ⟨oc,hoc,I.freeC x c hc⟩ hs,by simpa using I.len⟩ ⟨c,hs,.inr hc⟩
   . exact (hs.2 b (Q8 (Qz (Qs e) (I.ok.cab x c hfn hc)))).trans (I.base.keep b o e n hb hx)
   . obtain ⟨sl,e1⟩:=I.base.slot b o e n hb hx
     exact ⟨sl,(hs.2 b (Q8 (Qz (Qs e) (I.ok.cab x c hfn hc)))).trans e1⟩
   . obtain ⟨o',e1⟩:=I.base.there b o e hx
     exact ⟨o',(hs.2 b (Q8 (Qz (Qs e) (I.ok.cab x c hfn hc)))).trans e1⟩
   . by_cases hj:j=i
     . subst hj
       rw [hi] at e1;cases e1
       rw [Q3 hiσ] at e2
       cases e2
       exact ⟨u,r,.inr ⟨.inl hk,c,hc,hc'⟩⟩
     . rw [Q4 (Ql hj)] at e2
       obtain ⟨u',r',q⟩:=hl j y v' e1 e2 e3
       refine ⟨u',r',?_⟩
       rcases q with q | ⟨k,c',e,z'⟩
       . exact .inl q
       . refine .inr ⟨k,c',e,z'.sameBut hs ?_⟩
         rintro rfl
         exact hj (Jl0 hN e1 (I.ok.inj _ _ _ e hc▸hi))
   . by_cases hcc:c'=c
     . subst hcc;exact ⟨_,hc'⟩
     . obtain ⟨w2,z2⟩:=I.cell y c' e
       exact ⟨w2,z2.sameBut hs hcc⟩
   . obtain ⟨e,n,ne,nf,d⟩:=I.pin p hp
     refine ⟨(hs.2 p.1 ?_).trans e,n,ne,nf,d⟩
     intro q
     rw [q,hoc] at e
     have q':oc=p.2:=Xf e
     exact d w' (by rw [<- q'];exact hocd)
theorem Jb0 {M:Model}{A:Yat}{E:Yan->Yap->Prop}{i:Nat}{x:Str}{v:V}{u:Yan}{Q:Unit->Yap->Prop}(I:Inv X pins σ H s) (hN:X.N.Nodup) (hi:X.N[i]? = some x) (hx:Loc X.env.scope x) (r:Yk v u)
 (h:∀ s',Inv X pins (σ.set i (some v)) H s'->Q () s') (hf:X.fn x=true\/X.env.scope.names.lookup x=some .local := by first | exact .inl rfl | exact .inr rfl | assumption):Yaq M A (storeName X.env x u) Q E s:=
 Je7 I hN hi hx r (λ s' I' _=>h s' I') hf
theorem Inv.call' {s':Yap}{ch:List Addr}(I:Inv X pins σ H s) (ho:s'.os=s.os) (u:Un (frs X.stack) ch H H' s.heap s'.heap) (hok:HOk X.prog X.w H' s'.heap) (hg:Ya4 s'.gens)
 (hch:∀ b∈ch,(b∈X.ex\/X.s₀.heap.objs.size<=b)/\b≠X.env.locals/\(∀ x c,X.env.cells.lookup x=some c->c≠b)/\∀ p∈X.pn++pins,p.1≠b):Inv X pins σ H' s':=by
 obtain ⟨h',g',d',t',o'⟩:=s'
 have e:o'=s.os:=ho
 subst e
 exact I.call (g':=g') (t':=t') (d':=d') u hok hg hch
end
abbrev XK:=Yan->Option Addr->Hp->Prop
abbrev St:=List (Option V)
abbrev VK:=V->Hp->Prop
abbrev TE:=St->Hp->VK->Prop
abbrev TT:=St->Hp->(Bool->Hp->Prop)->Prop
abbrev TA:=St->Hp->(List V->Hp->Prop)->Prop
structure Ends where
 nx:St->Hp->Prop
 rt:VK
 bk:St->Hp->Prop:=λ _ _=>False
 ct:St->Hp->Prop:=λ _ _=>False
abbrev TS:=Ends->St->Hp->Prop
def EP (X:Cx) (pins:List (Addr×Obj)) (σ:St) (Q:VK) (u:Yan) (s':Yap):Prop:=∃ v H',Inv X pins σ H' s'/\Yk v u/\Q v H'
def TP (X:Cx) (pins:List (Addr×Obj)) (σ:St) (Q:Bool->Hp->Prop) (b:Bool) (s':Yap):Prop:=∃ H',Inv X pins σ H' s'/\Q b H'
def AP (X:Cx) (pins:List (Addr×Obj)) (σ:St) (Q:List V->Hp->Prop) (us:List Yan) (s':Yap):Prop:=∃ vs H',Inv X pins σ H' s'/\J9 vs us/\Q vs H'
def SP (X:Cx) (pins:List (Addr×Obj)) (D:Ends) (f:Flow) (s':Yap):Prop:=
 match f with
 | .next=>∃ σ' H',Inv X pins σ' H' s'/\D.nx σ' H'
 | .brk=>∃ σ' H',Inv X pins σ' H' s'/\D.bk σ' H'
 | .cont=>∃ σ' H',Inv X pins σ' H' s'/\D.ct σ' H'
 | .ret u=>∃ v σ' H',Inv X pins σ' H' s'/\Yk v u/\D.rt v H'
def PE (X:Cx) (e:Expr) (t:TE):Prop:=
 ∀ (pins:List (Addr×Obj)) (s:Yap) (σ:St) (H:Hp) (Q:VK),Inv X pins σ H s->t σ H Q->Yaq (model X.prog X.w) X.A (eval e X.env) (EP X pins σ Q) X.xe s
def PT (X:Cx) (e:Expr) (t:TT):Prop:=
 ∀ (pins:List (Addr×Obj)) (s:Yap) (σ:St) (H:Hp) (Q:Bool->Hp->Prop),Inv X pins σ H s->t σ H Q->Yaq (model X.prog X.w) X.A (isTrue e X.env (eval e X.env)) (TP X pins σ Q) X.xe s
def PW (X:Cx) (e:Expr) (t:TT):Prop:=
 ∀ (whole:Sem Yan) (pins:List (Addr×Obj)) (s:Yap) (σ:St) (H:Hp) (Q:Bool->Hp->Prop),Inv X pins σ H s->t σ H Q->Yaq (model X.prog X.w) X.A (isTrue e X.env whole) (TP X pins σ Q) X.xe s
theorem PW.pt {X:Cx}{e:Expr}{t:TT}(h:PW X e t):PT X e t:=h _
def PA (X:Cx) (es:List Expr) (t:TA):Prop:=
 ∀ (pos:Pos) (pins:List (Addr×Obj)) (s:Yap) (σ:St) (H:Hp) (Q:List V->Hp->Prop),Inv X pins σ H s->t σ H Q->Yaq (model X.prog X.w) X.A (spliced (backTo pos (starEach es X.env))) (AP X pins σ Q) X.xe s
def PS (X:Cx) (st:Stmt) (t:TS):Prop:=
 ∀ (pins:List (Addr×Obj)) (s:Yap) (σ:St) (H:Hp) (D:Ends),Inv X pins σ H s->t D σ H->Yaq (model X.prog X.w) X.A (exec st X.env) (SP X pins D) X.xe s
def PSs (X:Cx) (st:List Stmt) (t:TS):Prop:=
 ∀ (pins:List (Addr×Obj)) (s:Yap) (σ:St) (H:Hp) (D:Ends),Inv X pins σ H s->t D σ H->Yaq (model X.prog X.w) X.A (execs st X.env) (SP X pins D) X.xe s
theorem thn {α:Type}{t:Sem α}{Q Q':α->Yap->Prop}{M:Model}{A:Yat}{E:Yan->Yap->Prop}{s:Yap}(h:Yaq M A t Q E s) (hQ:∀ a s,Q a s->Q' a s):Yaq M A t Q' E s:=wpAny_mono h hQ λ _ _ x=>x
section
variable {X:Cx}
def Z1 (i:Nat):TE:=λ σ H Q=>∃ v,σ[i]? = some (some v)/\Q v H
def tC (v:V):TE:=λ _ H Q=>Q v H
theorem Jy7 {i:Nat}{x:Str}{pos:Pos}(hN:X.N[i]? = some x) (hv:Vis X.env.scope x) (hd:(x==("__debug__":Str))=false:=by decide) (hcd:(x==("__classdict__":Str))=false:=by decide):PE X (.Name x pos) (Z1 i):=by
 intro pins s σ H Q I h
 obtain ⟨v,e,h⟩:=h
 obtain ⟨m,hn,hl⟩:=I.loc
 obtain ⟨u,r,l⟩:=hl i x v hN e hv
 have fin:EP X pins σ Q u s:=⟨v,H,I,r,h⟩
 rcases l with ⟨hk,hm⟩ | ⟨hk,c,hc,hcell⟩
 . exact wpAny_Name (wpAny_loadName_local I.ok.kind hk hn hm fin) hd
 . rcases hk with hk | hk
   . exact wpAny_Name (wpAny_loadName_cell I.ok.kind hk hc hcell fin) hd
   . exact wpAny_Name (wpAny_loadName_free I.ok.kind hk hc hcell fin hcd) hd
theorem Ji {i j pos}:PE X (.Constant (.int i) j pos) (tC (.int i)):=λ _ _ _ H _ I h=>wpAny_Constant_int ⟨.int i,H,I.tok _,⟨_,rfl⟩,h⟩
theorem Jc2 {b j pos}:PE X (.Constant (.bool b) j pos) (tC (.bl b)):=λ _ _ _ H _ I h=>Constant_bool ⟨.bl b,H,I,rfl,h⟩
theorem W3 {j pos}:PE X (.Constant .none j pos) (tC .non):=λ _ _ _ H _ I h=>Constant_none ⟨.non,H,I,rfl,h⟩
theorem Jg3 {x j pos}:PE X (.Constant (.str x) j pos) (tC (.str x)):=λ _ _ _ H _ I h=>Calls.Constant_str ⟨.str x,H,I.tok _,⟨_,rfl⟩,h⟩
def Gl (X:Cx) (x:Str):Prop:=X.env.kindOf x=some .globalImplicit
theorem Jpq {E:Yan->Yap->Prop}{pins:List (Addr×Obj)}{s:Yap}{σ:St}{H:Hp}{x:Str}{u:Yan}{pos:Pos}{Q:Yan->Yap->Prop}(I:Inv X pins σ H s) (hg:Gl X x) (hm:X.mg x=some u) (h:Q u s)
 (hd:(x==("__debug__":Str))=false:=by decide):Yaq (model X.prog X.w) X.A (eval (.Name x pos) X.env) Q E s:=
 J8k I.ok.kind hg (Calls.loadGlobal_global (by rw [I.ok.glob];exact I.mod.glob.keeps I.bk) hm h) hd
theorem By {E:Yan->Yap->Prop}{pins:List (Addr×Obj)}{s:Yap}{σ:St}{H:Hp}{x:Str}{u:Yan}{pos:Pos}{Q:Yan->Yap->Prop}(I:Inv X pins σ H s) (hg:Gl X x) (hm:X.mg x=none) (hv:Ybf x=some u) (h:Q u s)
 (hn:x≠"__name__":=by decide) (hd:(x==("__debug__":Str))=false:=by decide):Yaq (model X.prog X.w) X.A (eval (.Name x pos) X.env) Q E s:=by
 obtain ⟨mb,h1,h2⟩:=I.mod.blt
 exact J8k I.ok.kind hg (Calls.loadGlobal_builtin (by rw [I.ok.glob];exact I.mod.glob.keeps I.bk) hm (by rw [I.ok.blt];exact h1.keeps I.bk) ((h2 x hn).trans hv) h) hd
theorem Jj5 {x:Str}{v:V}{u:Yan}{pos:Pos}(hg:Gl X x) (hm:X.mg x=none) (hv:Ybf x=some u) (r:Yk v u) (hn:x≠"__name__":=by decide) (hd:(x==("__debug__":Str))=false:=by decide):PE X (.Name x pos) (tC v):=
 λ _ _ _ H _ I h=>By I hg hm hv ⟨v,H,I,r,h⟩ hn hd
variable {a b:Expr}{ta tb:TE}{pos:Pos}
def tB (t:TE):TT:=λ σ H Q=>t σ H λ x H1=>∃ c,x = .bl c/\Q c H1
theorem V4 {e:Expr}{t:TE}(h:PE X e t) (he:∀ whole,isTrue e X.env whole=(do let v <- whole;Ya5 e.pos;holding [v] (truthy v)):=by intro _;rfl):PT X e (tB t):=by
 intro pins s σ H Q I hw
 refine isTrue_plain (thn (h pins s σ H _ I hw) λ v s1 ⟨x,H1,I1,r1,q1⟩=>?_) (he _)
 obtain ⟨d,rfl,q⟩:=q1
 cases r1
 exact wpAny_truthy_bool ⟨H1,I1,q⟩
variable {tA tB':TT}{rest:List Expr}
def J0y (t u:TT):TT:=λ σ H Q=>t σ H λ c H1=>if c=true then u σ H1 Q else Q false H1
def tOr (t u:TT):TT:=λ σ H Q=>t σ H λ c H1=>if c=true then Q true H1 else u σ H1 Q
def J0z (t:TT):TT:=λ σ H Q=>t σ H λ c H1=>Q (!c) H1
theorem Jd0 (ha:PT X a tA):PW X (.BoolOp .And [a] pos) tA:=by
 intro wh pins s σ H Q I h
 refine isTrue_and (thn (ha pins s σ H Q I h) λ c s1 e=>?_)
 cases c with
 | true=>exact isTrue_and_nil e
 | false=>exact e
theorem Jg4 (ha:PT X a tA):PW X (.BoolOp .Or [a] pos) tA:=by
 intro wh pins s σ H Q I h
 refine isTrue_or (thn (ha pins s σ H Q I h) λ c s1 e=>?_)
 cases c with
 | false=>exact isTrue_or_nil e
 | true=>exact e
theorem Jg5 (ha:PT X a tA) (hb:PW X (.BoolOp .And (b::rest) pos) tB'):PW X (.BoolOp .And (a::b::rest) pos) (J0y tA tB'):=by
 intro wh pins s σ H Q I h
 refine isTrue_and (thn (ha pins s σ H _ I h) λ c s1 ⟨H1,I1,q1⟩=>?_)
 cases c with
 | true=>exact hb wh pins s1 σ H1 Q I1 q1
 | false=>exact ⟨H1,I1,q1⟩
theorem Jl1 (ha:PT X a tA) (hb:PW X (.BoolOp .Or (b::rest) pos) tB'):PW X (.BoolOp .Or (a::b::rest) pos) (tOr tA tB'):=by
 intro wh pins s σ H Q I h
 refine isTrue_or (thn (ha pins s σ H _ I h) λ c s1 ⟨H1,I1,q1⟩=>?_)
 cases c with
 | true=>exact ⟨H1,I1,q1⟩
 | false=>exact hb wh pins s1 σ H1 Q I1 q1
theorem Jb1 (ha:PT X a tA):PT X (.UnaryOp .Not a pos) (J0z tA):=by
 intro pins s σ H Q I h
 exact isTrue_not (ha pins s σ H (λ c H1=>Q (!c) H1) I h)
def Jxr (ta tb:TE):TE:=λ σ H Q=>ta σ H λ x H1=>∃ c,x = .bl c/\if c=true then tb σ H1 Q else Q (.bl false) H1
def J00 (ta tb:TE):TE:=λ σ H Q=>ta σ H λ x H1=>∃ c,x = .bl c/\if c=true then Q (.bl true) H1 else tb σ H1 Q
def Jxs (ta:TE):TE:=λ σ H Q=>ta σ H λ x H1=>∃ c,x = .bl c/\Q (.bl (!c)) H1
theorem Jbc {op} {t:TE}(h:PE X a t):PE X (.BoolOp op [a] pos) t:=λ pins s σ H Q I hw=>BoolOp_one (h pins s σ H Q I hw)
theorem Jb2 (ha:PE X a ta) (hb:PE X (.BoolOp .And (b::rest) pos) tb):PE X (.BoolOp .And (a::b::rest) pos) (Jxr ta tb):=by
 intro pins s σ H Q I h
 refine BoolOp_and (thn (ha pins s σ H _ I h) λ v s1 ⟨x,H1,I1,r1,q1⟩=>?_)
 obtain ⟨c,rfl,q1⟩:=q1
 cases r1
 refine wpAny_truthy_bool ?_
 cases c with
 | true=>exact hb pins s1 σ H1 Q I1 q1
 | false=>exact ⟨.bl false,H1,I1,rfl,q1⟩
theorem Jxt (ha:PE X a ta) (hb:PE X (.BoolOp .Or (b::rest) pos) tb):PE X (.BoolOp .Or (a::b::rest) pos) (J00 ta tb):=by
 intro pins s σ H Q I h
 refine BoolOp_or (thn (ha pins s σ H _ I h) λ v s1 ⟨x,H1,I1,r1,q1⟩=>?_)
 obtain ⟨c,rfl,q1⟩:=q1
 cases r1
 refine wpAny_truthy_bool ?_
 cases c with
 | false=>exact hb pins s1 σ H1 Q I1 q1
 | true=>exact ⟨.bl true,H1,I1,rfl,q1⟩
theorem Jsl (ha:PE X a ta):PE X (.UnaryOp .Not a pos) (Jxs ta):=by
 intro pins s σ H Q I h
 refine UnaryOp_ (thn (ha pins s σ H _ I h) λ v s1 ⟨x,H1,I1,r1,q1⟩=>?_)
 obtain ⟨c,rfl,q1⟩:=q1
 cases r1
 exact not_of (wpAny_truthy_bool ⟨.bl (!c),H1,I1,rfl,q1⟩)
def tIf (t:TT) (ta tb:TE):TE:=λ σ H Q=>t σ H λ c H1=>if c=true then ta σ H1 Q else tb σ H1 Q
theorem Jd1 {c:Expr}(hc:PT X c tA) (ha:PE X a ta) (hb:PE X b tb):PE X (.IfExp c a b pos) (tIf tA ta tb):=by
 intro pins s σ H Q I h
 refine wpAny_IfExp (thn (hc pins s σ H _ I h) λ d s1 ⟨H1,I1,q1⟩=>?_)
 cases d with
 | true=>exact ha pins s1 σ H1 Q I1 q1
 | false=>exact hb pins s1 σ H1 Q I1 q1
end
def SqL (K:Qc) (H:Hp) (a:Addr) (xs:List V):Prop:=
 Rd H a (.lst xs) \/
  ∃ (o:Obj) (its:Array Yan) (n:Nat),K.lookup a=some o/\o.cls = .type "list"/\o.dict=none/\o.data = .seq its n/\its.size<=sizeLine/\J9 xs its.toList
def SqT (K:Qc) (H:Hp) (a:Addr) (xs:List V):Prop:=
 Rd H a (.tup xs) \/
  ∃ (o:Obj) (its:Array Yan) (n:Nat),K.lookup a=some o/\o.cls = .type "tuple"/\o.data = .seq its n/\its.size<=sizeLine/\J9 xs its.toList
noncomputable def J2p:Yan->Option V
 | .none=>some .non
 | .bool b=>some (.bl b)
 | .int i _=>some (.int i)
 | .str x _=>some (.str x)
 | .bytes b _=>some (.byt b)
 | .float b _=>some (.flt b)
 | .ref a=>some (.ref a)
 | .type n=>some (.ty n)
 | _=>none
theorem Yk.abs {x:V}{u:Yan}(r:Yk x u):J2p u=some x:=by
 cases x with
 | non=>cases r;rfl
 | bl _=>cases r;rfl
 | int _=>obtain ⟨t,rfl⟩:=r;rfl
 | str _=>obtain ⟨t,rfl⟩:=r;rfl
 | byt _=>obtain ⟨t,rfl⟩:=r;rfl
 | flt _=>obtain ⟨t,rfl⟩:=r;rfl
 | ref _=>cases r;rfl
 | ty _=>cases r;rfl
theorem Yk.inj {x y:V}{u:Yan}(r:Yk x u) (q:Yk y u):x=y:=Xf (r.abs.symm.trans q.abs)
theorem J9.inj:∀ {xs ys:List V}{us:List Yan},J9 xs us->J9 ys us->xs=ys
 | _,_,_,.nil,.nil=>rfl
 | _,_,_,.cons r t,.cons r' t'=>by rw [r.inj r',J9.inj t t']
section
variable {X:Cx}{pins:List (Addr×Obj)}{σ:St}{H:Hp}{s:Yap}{a:Addr}{xs ys:List V}
theorem SqL.of {K:Qc}(h:H a=some (.lst xs)):SqL K H a xs:=.inl (.inl h)
theorem SqT.of {K:Qc}(h:H a=some (.tup xs)):SqT K H a xs:=.inl (.inl h)
theorem Inv.list (I:Inv X pins σ H s) (h:SqL X.K H a xs):∃ its:List Yan,J9 xs its/\PlainL s.heap a its.toArray/\xs.length<=sizeLine:=by
 rcases h with h | ⟨o,its,n,hk,hc,hd,hs,hz,r⟩
 . obtain ⟨z,its,n,r,e⟩:=h.ok I.hok
   exact ⟨its,r,⟨_,n,e,rfl,rfl,rfl⟩,z⟩
 . refine ⟨its.toList,r,⟨o,n,I.kIn a o hk,hc,hd,by simpa using hs⟩,?_⟩
   have e:=r.length
   simp only [J6p] at e
   omega
theorem Inv.tuple (I:Inv X pins σ H s) (h:SqT X.K H a xs):∃ its:List Yan,J9 xs its/\IsTup s.heap a its.toArray/\xs.length<=sizeLine:=by
 rcases h with h | ⟨o,its,n,hk,hc,hs,hz,r⟩
 . obtain ⟨z,its,r,p⟩:=h.ok I.hok
   exact ⟨its,r,p,z⟩
 . refine ⟨its.toList,r,⟨o,I.kIn a o hk,hc,n,by simpa using hs⟩,?_⟩
   have e:=r.length
   simp only [J6p] at e
   omega
theorem Inv.list_inj (I:Inv X pins σ H s) (h:SqL X.K H a xs) (h':SqL X.K H a ys):xs=ys:=by
 obtain ⟨its,r,⟨o,n,e,_,_,d⟩,_⟩:=I.list h
 obtain ⟨its',r',⟨o',n',e',_,_,d'⟩,_⟩:=I.list h'
 rw [e] at e';cases e'
 rw [d] at d'
 injection d' with d1 _
 have:its=its':=by simpa using congrArg J8l d1
 subst this
 exact r.inj r'
theorem Inv.tuple_inj (I:Inv X pins σ H s) (h:SqT X.K H a xs) (h':SqT X.K H a ys):xs=ys:=by
 obtain ⟨its,r,⟨o,e,_,n,d⟩,_⟩:=I.tuple h
 obtain ⟨its',r',⟨o',e',_,n',d'⟩,_⟩:=I.tuple h'
 rw [e] at e';cases e'
 rw [d] at d'
 injection d' with d1 _
 have:its=its':=by simpa using congrArg J8l d1
 subst this
 exact r.inj r'
end
noncomputable abbrev Cx.wish (X:Cx) (E:Yan->Yap->Prop):Cx:={ X with xe:=E }
noncomputable abbrev Cx.nox (X:Cx):Cx:=X.wish λ _ _=>False
theorem Cx.Ok.wish {X:Cx}(ok:X.Ok) (E:Yan->Yap->Prop):(X.wish E).Ok:=
 ⟨ok.mod,ok.kind,ok.glob,ok.blt,ok.above,ok.inj,ok.has,ok.cab,ok.hd,ok.frames,ok.stk,ok.exf,ok.bs,ok.bsz,ok.noex,ok.exfs,ok.funs,ok.frf⟩
theorem Cx.Ok.unwish {X:Cx}{E:Yan->Yap->Prop}(ok:(X.wish E).Ok):X.Ok:=
 ⟨ok.mod,ok.kind,ok.glob,ok.blt,ok.above,ok.inj,ok.has,ok.cab,ok.hd,ok.frames,ok.stk,ok.exf,ok.bs,ok.bsz,ok.noex,ok.exfs,ok.funs,ok.frf⟩
section
variable {X:Cx}{pins:List (Addr×Obj)}{σ:St}{H:Hp}{s:Yap}{E:Yan->Yap->Prop}
theorem Inv.wish (I:Inv X pins σ H s) (E:Yan->Yap->Prop):Inv (X.wish E) pins σ H s:=⟨I.ok.wish E,I.os,I.bare,I.base,I.loc,I.cell,I.free,I.freeC,I.pin,I.hok,I.len⟩
theorem Inv.unwish (I:Inv (X.wish E) pins σ H s):Inv X pins σ H s:=⟨I.ok.unwish,I.os,I.bare,I.base,I.loc,I.cell,I.free,I.freeC,I.pin,I.hok,I.len⟩
theorem SP.unwish {D:Ends}{f:Flow}{s':Yap}(h:SP (X.wish E) pins D f s'):SP X pins D f s':=by
 cases f with
 | next=>obtain ⟨σ',H',I,q⟩:=h;exact ⟨σ',H',I.unwish,q⟩
 | brk=>obtain ⟨σ',H',I,q⟩:=h;exact ⟨σ',H',I.unwish,q⟩
 | cont=>obtain ⟨σ',H',I,q⟩:=h;exact ⟨σ',H',I.unwish,q⟩
 | ret u=>obtain ⟨v,σ',H',I,r,q⟩:=h;exact ⟨v,σ',H',I.unwish,r,q⟩
theorem PSs.nox {st:List Stmt}{t:TS}(h:PSs X.nox st t):PSs X st t:=λ pins s σ H D I hw=>
 wpAny_mono (h pins s σ H D (I.wish _) hw) (λ _ _ q=>q.unwish) λ _ _ z=>Ud z
end
section
variable {X:Cx}{st:Stmt}{rest:List Stmt}{t u:TS}{e:Expr}{te:TE}{pos:Pos}
def Jpr:TS:=λ D σ H=>D.nx σ H
def Jax (t u:TS):TS:=λ D σ H=>t { D with nx:=u D } σ H
theorem Yp:PSs X [] Jpr:=λ _ _ σ H _ I h=>Ybr ⟨σ,H,I,h⟩
theorem Jb (h1:PS X st t) (h2:PSs X rest u):PSs X (st::rest) (Jax t u):=by
 intro pins s σ H D I h
 refine wpAny_execs_cons (thn (h1 pins s σ H { D with nx:=u D } I h) λ f s1 q=>?_)
 cases f with
 | next=>
  obtain ⟨σ',H',I',q⟩:=q
  exact h2 pins s1 σ' H' D I' q
 | ret v=>exact q
 | brk=>exact q
 | cont=>exact q
theorem Jh (h1:PS X st t):PSs X [st] t:=by
 intro pins s σ H D I h
 refine wpAny_execs_cons (thn (h1 pins s σ H D I h) λ f s1 q=>?_)
 cases f with
 | next=>exact Ybr q
 | ret v=>exact q
 | brk=>exact q
 | cont=>exact q
theorem Inv.quiet {pins:List (Addr×Obj)}{σ:St}{H:Hp}{s:Yap}(I:Inv X pins σ H s):interactive X.env=false:=by simp [interactive,I.ok.kind]
def Jsm (te:TE):TS:=λ D σ H=>te σ H λ _ H1=>D.nx σ H1
theorem Jcm (he:PE X e te) (hs:Ybg e none pos.line X.env=pure false:=by rfl):PS X (.Expr e pos) (Jsm te):=by
 intro pins s σ H D I h
 exact wpAny_Expr_any (thn (he pins s σ H _ I h) λ v s1 ⟨x,H1,I1,r1,q1⟩=>⟨σ,H1,I1,q1⟩) I.quiet hs
def Jsn (te:TE):TS:=λ D σ H=>te σ H D.rt
theorem Jr (he:PE X e te):PS X (.Return (some e) pos) (Jsn te):=by
 intro pins s σ H D I h
 exact wpAny_Return_some (thn (he pins s σ H _ I h) λ v s1 ⟨x,H1,I1,r1,q1⟩=>⟨x,σ,H1,I1,r1,q1⟩)
def J01 (c:TT) (t u:TS):TS:=λ D σ H=>c σ H λ b H1=>if b=true then t D σ H1 else u D σ H1
theorem Wh {c:Expr}{a b:List Stmt}{tc:TT}(hc:PT X c tc) (ha:PSs X a t) (hb:PSs X b u):PS X (.If c a b pos) (J01 tc t u):=by
 intro pins s σ H D I h
 refine wpAny_If (thn (hc pins s σ H _ I h) λ d s1 ⟨H1,I1,q1⟩=>?_)
 cases d with
 | true=>exact ha pins s1 σ H1 D I1 q1
 | false=>exact hb pins s1 σ H1 D I1 q1
def Jy8:TS:=λ _ _ _=>False
theorem Jjf {sts:List Stmt}:PSs X sts Jy8:=λ _ _ _ _ _ _ h=>h.elim
end
abbrev TG:=V->St->Hp->(St->Hp->Prop)->Prop
abbrev TGs:=List V->St->Hp->(St->Hp->Prop)->Prop
def PG (X:Cx) (target:Expr) (t:TG):Prop:=
 ∀ (pins:List (Addr×Obj)) (s:Yap) (σ:St) (H:Hp) (v:V) (u:Yan) (Q:St->Hp->Prop),Inv X pins σ H s->Yk v u->t v σ H Q ->
  Yaq (model X.prog X.w) X.A (assign target X.env u) (λ _ s'=>∃ σ' H',Inv X pins σ' H' s'/\Q σ' H') X.xe s
def PGs (X:Cx) (ts:List Expr) (t:TGs):Prop:=
 ∀ (pins:List (Addr×Obj)) (s:Yap) (σ:St) (H:Hp) (vs:List V) (us:List Yan) (Q:St->Hp->Prop),Inv X pins σ H s->J9 vs us->t vs σ H Q ->
  Yaq (model X.prog X.w) X.A (assignInOrder ((assignEach ts X.env).map (·.2)) us) (λ _ s'=>∃ σ' H',Inv X pins σ' H' s'/\Q σ' H') X.xe s
abbrev Jso:=V->V->V->Hp->(Hp->Prop)->Prop
def Jy9 (X:Cx) (t:Jso):Prop:=
 ∀ (pins:List (Addr×Obj)) (s:Yap) (σ:St) (H:Hp) (o i v:V) (ov iv u:Yan) (Q:Hp->Prop),Inv X pins σ H s->Yk o ov->Yk i iv->Yk v u->t o i v H Q ->
  Yaq (model X.prog X.w) X.A (setItem ov iv u) (λ _ s'=>∃ H',Inv X pins σ H' s'/\Q H') X.xe s
abbrev TIp:=V->V->Hp->VK->Prop
def PIp (X:Cx) (op:Ybh) (t:TIp):Prop:=
 ∀ (pins:List (Addr×Obj)) (s:Yap) (σ:St) (H:Hp) (x y:V) (v u:Yan) (Q:VK),Inv X pins σ H s->Yk x v->Yk y u->t x y H Q ->
  Yaq (model X.prog X.w) X.A (inplaceOp op v u) (EP X pins σ Q) X.xe s
section
variable {X:Cx}{pos:Pos}
def Bt (i:Nat):TG:=λ v σ H Q=>Q (σ.set i (some v)) H
theorem Js {i:Nat}{x:Str}(hN:X.N.Nodup) (hi:X.N[i]? = some x) (hx:Loc X.env.scope x) (hf:X.fn x=true\/X.env.scope.names.lookup x=some .local := by first | exact .inl rfl | exact .inr rfl | assumption):PG X (.Name x pos) (Bt i):=by
 intro pins s σ H v u Q I r h
 exact Ybu (Jb0 I hN hi hx r (λ s' I'=>⟨_,H,I',h⟩) hf)
def gNil:TGs:=λ vs σ H Q=>vs=[]/\Q σ H
def gCons (t:TG) (u:TGs):TGs:=λ vs σ H Q=>∃ v r,vs=v::r/\t v σ H λ σ' H'=>u r σ' H' Q
theorem Jd2:PGs X [] gNil:=by
 intro pins s σ H vs us Q I r h
 obtain ⟨e,h⟩:=h
 subst e
 cases r
 exact assignInOrder_nil ⟨σ,H,I,h⟩
theorem Wn {e:Expr}{es:List Expr}{t:TG}{u:TGs}(h1:PG X e t) (h2:PGs X es u)
 (hs:(assignEach (e::es) X.env).map (·.2)=assign e X.env::(assignEach es X.env).map (·.2):=by rfl):PGs X (e::es) (gCons t u):=by
 intro pins s σ H vs us Q I r h
 obtain ⟨v,vr,e1,h⟩:=h
 subst e1
 cases r with
 | cons r rr=>
  rw [hs]
  refine assignInOrder_cons (thn (h1 pins s σ H _ _ _ I r h) λ _ s1 ⟨σ1,H1,I1,q1⟩=>?_)
  exact h2 pins s1 σ1 H1 _ _ Q I1 rr q1
def Jsp (K:Qc) (n:Nat) (t:TGs):TG:=λ v σ H Q=>∃ a xs,v = .ref a/\SqT K H a xs/\xs.length=n/\t xs σ H Q
theorem Jj6 {es:List Expr}{k:Nat}{t:TGs}{n:Nat}(hc:X.calm=true) (h:PGs X es t)
 (hn:(assignEach es X.env).length=n:=by rfl) (hst:(assignEach es X.env).findIdx? (·.1)=none:=by rfl):PG X (.Tuple es k pos) (Jsp X.K n t):=by
 intro pins s σ H v u Q I r hw
 obtain ⟨a,xs,e1,hq,hl,hw⟩:=hw
 subst e1
 cases r
 obtain ⟨its,rv,ht,hz⟩:=I.tuple hq
 refine assign_Tuple_tuple (I.ok.hd hc) ht (by simp [hn,<- hl,rv.length]) hst λ h' hx=>?_
 have I1:Inv X pins σ H { s with heap:=h' }:=I.kept (t':=s.toks) λ b o e=>hx b o (Q8 (Qs e)) e
 exact h pins _ σ H xs _ Q I1 (by simpa using rv) hw
def Jn4 (to ti:TE) (t:Jso):TG:=λ v σ H Q=>to σ H λ o H1=>ti σ H1 λ i H2=>t o i v H2 λ H3=>Q σ H3
theorem Wo {o i:Expr}{to ti:TE}{t:Jso}(ho:PE X o to) (hi:PE X i ti) (hs:Jy9 X t)
 (ha:∀ v,assign (.Subscript o i pos) X.env v=(do
  let ov <- holding [v] (eval o X.env)
  let iv <- holding [v,ov] (eval i X.env)
  Ya5 pos
  holding [v,ov,iv] (setItem ov iv v)
  Ybi [v,ov,iv] []):=by intro _;rfl):PG X (.Subscript o i pos) (Jn4 to ti t):=by
 intro pins s σ H v u Q I r h
 rw [ha]
 refine wpAny_bind (wpAny_holding (thn (ho pins s σ H _ I h) λ ov s1 ⟨x,H1,I1,r1,q1⟩=>?_))
 refine wpAny_bind (wpAny_holding (thn (hi pins s1 σ H1 _ I1 q1) λ iv s2 ⟨y,H2,I2,r2,q2⟩=>?_))
 refine wpAny_bind (wpAny_standAt (wpAny_bind (wpAny_holding (thn (hs pins s2 σ H2 x y v ov iv u _ I2 r1 r2 r q2) λ _ s3 ⟨H3,I3,q3⟩=>?_))))
 exact wpAny_release ⟨σ,H3,I3,q3⟩
def Jd3 (te:TE) (g:TG):TS:=λ D σ H=>te σ H λ x H1=>g x σ H1 D.nx
theorem Yq {tg e:Expr}{te:TE}{g:TG}(he:PE X e te) (hg:PG X tg g) (hs:swapsWithSole [tg] e pos.line X.env=pure false:=by rfl) (hw:swappedStores [tg] e X.env=pure none:=by rfl)
 (h1:(assignEach [tg] X.env).map (·.2)=[assign tg X.env]:=by rfl):PS X (.Assign [tg] e pos) (Jd3 te g):=by
 intro pins s σ H D I h
 refine wpAny_Assign_stores (thn (he pins s σ H _ I h) λ v s1 ⟨x,H1,I1,r1,q1⟩=>?_) hs hw
 rw [h1]
 exact thn (hg pins s1 σ H1 x v _ I1 r1 q1) λ _ s2 q=>q
theorem Jy {i:Nat}{x:Str}{e:Expr}{te:TE}{pos':Pos}(hN:X.N.Nodup) (hi:X.N[i]? = some x) (hx:Loc X.env.scope x) (he:PE X e te) (hs:Ybg e (some (.Name x pos')) pos.line X.env=pure false:=by rfl) (hf:X.fn x=true\/X.env.scope.names.lookup x=some .local := by first | exact .inl rfl | exact .inr rfl | assumption) :
 PS X (.Assign [.Name x pos'] e pos) (Jd3 te (Bt i)):=by
 intro pins s σ H D I h
 refine wpAny_Assign_Name (thn (he pins s σ H _ I h) λ v s1 ⟨y,H1,I1,r1,q1⟩=>?_) hs
 exact Jb0 I1 hN hi hx r1 (λ s2 I2=>⟨_,H1,I2,q1⟩) hf
def J02 (i j:Nat) (ta:TA):TS:=λ D σ H=>ta σ H λ vs H1=>∃ v w,vs=[v,w]/\D.nx ((σ.set i (some v)).set j (some w)) H1
theorem Jn5 {i j:Nat}{x y:Str}{a b:Expr}{ta:TA}{px py pt:Pos}{kt k2 pt2} (hc:X.calm=true) (hN:X.N.Nodup) (hi:X.N[i]? = some x) (hj:X.N[j]? = some y) (hij:i≠j)
 (hx:X.env.scope.names.lookup x=some .local) (hy:X.env.scope.names.lookup y=some .local) (ha:PA X [a,b] ta)
 (hw:swappedStores [.Tuple [.Name x px,.Name y py] kt pt] (.Tuple [a,b] k2 pt2) X.env=pure (some [x,y]))
 (hs:swapsWithSole [.Tuple [.Name x px,.Name y py] kt pt] (.Tuple [a,b] k2 pt2) pos.line X.env=pure false:=by rfl) :
 PS X (.Assign [.Tuple [.Name x px,.Name y py] kt pt] (.Tuple [a,b] k2 pt2) pos) (J02 i j ta):=by
 intro pins s σ H D I h
 rw [exec_Assign_arm]
 refine wpAny_bind (wpAny_standAt ?_)
 rw [hs]
 refine wpAny_bind (wpAny_pure ?_)
 rw [if_neg (by decide)]
 refine wpAny_bind (Tuple_ (thn (ha _ pins s σ H _ I h) λ us s1 ⟨vs,H1,I1,r1,q1⟩=>?_))
 obtain ⟨v,w,e1,q1⟩:=q1
 subst e1
 obtain ⟨u1,u2,rfl,rv,rw'⟩:∃ u1 u2,us=[u1,u2]/\Yk v u1/\Yk w u2:=by
  cases r1 with
  | cons p q=>
   cases q with
   | cons p' q'=>
    cases q'
    exact ⟨_,_,rfl,p,p'⟩
 refine wpAny_newObj_type ?_ (by show 2<=sizeLine;decide)
 have I2:Inv X pins σ H1 { s1 with heap:=s1.heap.push { cls:=.type "tuple",data:=.seq [u1,u2].toArray } }:=I1.kept (t':=s1.toks) λ b o e=>Qu _ e
 rw [hw]
 refine wpAny_bind (wpAny_pure ?_)
 show Yaq (model X.prog X.w) X.A (do rule "assign.swapped-stores";let items <- unpackItems (.ref s1.heap.objs.size) 2 none;assignInOrder [λ v=>bindName X.env y v,λ v=>bindName X.env x v] items.reverse;pure Flow.next) _ _ _
 refine wpAny_bind (wpAny_rule (wpAny_bind (unpackItems_tuple (items:=#[u1,u2]) (I.ok.hd hc) (IsTup.new s1.heap _) λ h' hx'=>?_)))
 have I3:=I2.kept (h':=h') (t':=s1.toks) λ b o e=>hx' b o (Q8 (Qs e)) e
 show Yaq _ _ (assignInOrder [λ v=>bindName X.env y v,λ v=>bindName X.env x v] [u2,u1] >>= λ _=>pure Flow.next) _ _ _
 refine wpAny_bind (assignInOrder_cons (wpAny_bindName (Jb0 I3 hN hj (.inl hy) rw' (λ s2 I4=>?_) (.inr hy))))
 refine assignInOrder_cons (wpAny_bindName (Jb0 I4 hN hi (.inl hx) rv (λ s3 I5=>assignInOrder_nil (wpAny_pure ?_)) (.inr hx)))
 rw [J8m _ _ (Ql hij)] at I5
 exact ⟨_,H1,I5,q1⟩
def J03 (i:Nat) (te:TE) (ti:TIp):TS:=λ D σ H=>∃ x,σ[i]? = some (some x)/\te σ H λ y H1=>ti x y H1 λ z H2=>D.nx (σ.set i (some z)) H2
theorem Jza {i:Nat}{x:Str}{e:Expr}{te:TE}{op:Ybh}{ti:TIp}{pos':Pos}(hN:X.N.Nodup) (hi:X.N[i]? = some x) (hx:Loc X.env.scope x) (he:PE X e te) (ho:PIp X op ti) (hf:X.fn x=true\/X.env.scope.names.lookup x=some .local := by first | exact .inl rfl | exact .inr rfl | assumption) :
 PS X (.AugAssign (.Name x pos') op e pos) (J03 i te ti):=by
 intro pins s σ H D I h
 obtain ⟨v,e1,h⟩:=h
 obtain ⟨m,hn,hl⟩:=I.loc
 have vis:Vis X.env.scope x:=by rcases hx with k | k;exact .inl k;exact .inr (.inl k)
 obtain ⟨u,r,l⟩:=hl i x v hi e1 vis
 refine wpAny_AugAssign_Name ?_
 have go:Yaq (model X.prog X.w) X.A (eval e X.env) (λ w s₂=>Yaq (model X.prog X.w) X.A (inplaceOp op u w) (λ r s₃=>Yaq (model X.prog X.w) X.A (storeName X.env x r) (λ _=>SP X pins D .next) X.xe s₃) X.xe s₂) X.xe s:=by
  refine thn (he pins s σ H _ I h) λ w s1 ⟨y,H1,I1,r1,q1⟩=>?_
  refine thn (ho pins s1 σ H1 v y u w _ I1 r r1 q1) λ z s2 ⟨zv,H2,I2,r2,q2⟩=>?_
  exact Jb0 I2 hN hi hx r2 (λ s3 I3=>⟨_,H2,I3,q2⟩) hf
 rcases l with ⟨hk,hm⟩ | ⟨hk,c,hc,hcell⟩
 . exact wpAny_loadName_local I.ok.kind hk hn hm go
 . rcases hk with hk | hk
   . exact wpAny_loadName_cell I.ok.kind hk hc hcell go
   . rcases hx with k | k
     . have:X.env.scope.names.lookup x=some .free:=hk
       rw [k] at this;cases this
     . have:X.env.scope.names.lookup x=some .free:=hk
       rw [k] at this;cases this
def Jxu (to ti te:TE) (tget:V->V->Hp->VK->Prop) (tip:TIp) (tset:Jso):TS:=λ D σ H=>to σ H λ o H1=>ti σ H1 λ i H2=>tget o i H2 λ x H3=>te σ H3 λ y H4=>tip x y H4 λ z H5=>tset o i z H5 λ H6=>D.nx σ H6
def J04 (X:Cx) (t:V->V->Hp->VK->Prop):Prop:=
 ∀ (pins:List (Addr×Obj)) (s:Yap) (σ:St) (H:Hp) (o i:V) (ov iv:Yan) (Q:VK),Inv X pins σ H s->Yk o ov->Yk i iv->t o i H Q ->
  Yaq (model X.prog X.w) X.A (getItem ov iv) (EP X pins σ Q) X.xe s
theorem Jps {o i e:Expr}{to ti te:TE}{tget:V->V->Hp->VK->Prop}{tip:TIp}{tset:Jso}{op:Ybh}{tpos:Pos}(ho:PE X o to) (hi:PE X i ti) (hg:J04 X tget) (he:PE X e te) (hp:PIp X op tip) (hs:Jy9 X tset)
 (ha:∀ ov iv new,augStore i ov iv new=(do holding [new,ov,iv] (setItem ov iv new);Ybi [new,ov,iv] [];pure .next):=by intros;rfl):PS X (.AugAssign (.Subscript o i tpos) op e pos) (Jxu to ti te tget tip tset):=by
 intro pins s σ H D I h
 refine wpAny_AugAssign_SubscriptAny (thn (ho pins s σ H _ I h) λ ov s1 ⟨x1,H1,I1,r1,q1⟩=>?_) ha
 refine thn (hi pins s1 σ H1 _ I1 q1) λ iv s2 ⟨x2,H2,I2,r2,q2⟩=>?_
 refine thn (hg pins s2 σ H2 x1 x2 ov iv _ I2 r1 r2 q2) λ old s3 ⟨x3,H3,I3,r3,q3⟩=>?_
 refine thn (he pins s3 σ H3 _ I3 q3) λ v s4 ⟨x4,H4,I4,r4,q4⟩=>?_
 refine thn (hp pins s4 σ H4 x3 x4 old v _ I4 r3 r4 q4) λ new s5 ⟨x5,H5,I5,r5,q5⟩=>?_
 exact thn (hs pins s5 σ H5 x1 x2 x5 ov iv new _ I5 r1 r2 r5 q5) λ _ s6 ⟨H6,I6,q6⟩=>⟨σ,H6,I6,q6⟩
def ipI (f:Int->Int->Int):TIp:=λ x y H Q=>∃ i j,x = .int i/\y = .int j/\Q (.int (f i j)) H
theorem Jzb:PIp X .Add (ipI λ i j=>i+j):=by
 intro pins s σ H x y v u Q I r1 r2 h
 obtain ⟨i,j,e1,e2,q⟩:=h
 subst e1;subst e2
 obtain ⟨t,rfl⟩:=r1
 obtain ⟨t',rfl⟩:=r2
 exact iadd_int ⟨.int _,H,I.tok _,⟨_,rfl⟩,q⟩
theorem Jzc:PIp X .Sub (ipI λ i j=>i-j):=by
 intro pins s σ H x y v u Q I r1 r2 h
 obtain ⟨i,j,e1,e2,q⟩:=h
 subst e1;subst e2
 obtain ⟨t,rfl⟩:=r1
 obtain ⟨t',rfl⟩:=r2
 exact isub_int ⟨.int _,H,I.tok _,⟨_,rfl⟩,q⟩
end
section
variable {X:Cx}{pos:Pos}
def Jsq (c:TT) (tb:TS):TS:=λ D σ H=>∃ W:Nat->St->Hp->Prop,(∃ m,W m σ H)/\∀ m σ H,W m σ H ->
 c σ H λ b H1=>if b=true then ∃ N:St->Hp->Prop,(∀ σ' H',N σ' H'->∃ m',m'<m/\W m' σ' H')/\tb { D with nx:=N,ct:=N,bk:=D.nx } σ H1 else D.nx σ H1
theorem Jg6 {c:Expr}{body:List Stmt}{tc:TT}{tb:TS}(hp:PassesOwn (model X.prog X.w) X.A X.env X.xe) (hc:PT X c tc) (hb:PSs X body tb):PS X (.While c body [] pos) (Jsq tc tb):=by
 intro pins s σ H D I h
 obtain ⟨W,⟨m0,w0⟩,turn⟩:=h
 refine wpAny_While (codeAny_whileLoop (λ n s'=>∃ σ' H',Inv X pins σ' H' s'/\W n σ' H') ?_ m0 ⟨σ,H,I,w0⟩)
 rintro n s1 ⟨σ1,H1,I1,w1⟩
 refine Yba hp (thn (hc pins s1 σ1 H1 _ I1 (turn n σ1 H1 w1)) λ b s2 ⟨H2,I2,q2⟩=>?_)
 cases b with
 | true=>
  obtain ⟨N,hN,q2⟩:=q2
  rw [if_pos rfl]
  refine Yba hp (thn (hb pins s2 σ1 H2 _ I2 q2) λ f s3 q3=>?_)
  cases f with
  | next=>
   obtain ⟨σ3,H3,I3,n3⟩:=q3
   obtain ⟨m',hm,w3⟩:=hN σ3 H3 n3
   exact ⟨m',hm,σ3,H3,I3,w3⟩
  | cont=>
   obtain ⟨σ3,H3,I3,n3⟩:=q3
   obtain ⟨m',hm,w3⟩:=hN σ3 H3 n3
   exact ⟨m',hm,σ3,H3,I3,w3⟩
  | brk=>exact q3
  | ret v=>exact q3
 | false=>
  rw [if_neg Q2]
  exact Ybr ⟨σ1,H2,I2,q2⟩
end
structure It where
 go:Nat->Hp->Prop
 yld:Nat->Hp->V->Hp->Prop
 stop:Nat->Hp->Prop
def Jc9 (X:Cx) (pins:List (Addr×Obj)) (H:Hp) (b:Addr):Prop:=
 H b=none/\b≠X.env.locals/\b∉X.fs/\(b∈X.ex\/X.s₀.heap.objs.size<=b)/\(∀ x c,X.env.cells.lookup x=some c->c≠b)/\∀ p∈X.pn++pins,p.1≠b
theorem Inv.fpOk {X:Cx}{pins:List (Addr×Obj)}{σ:St}{H H':Hp}{s:Yap}{b:Addr}(I:Inv X pins σ H s) (hb:s.heap.objs.size<=b) (hn:H' b=none):Jc9 X pins H' b:=by
 refine ⟨hn,J4c (Qz I.lt hb),I.nofs hb,.inr (Xm I.sz hb),λ x c e z=>?_,λ p hp z=>?_⟩
 . obtain ⟨v,q⟩:=I.cell x c e
   exact absurd (Qz q.lt (by rw [z];exact hb)) (Xd _)
 . exact absurd (Qz (Qs (I.pin p hp).1) (by rw [z];exact hb)) (Xd _)
structure Turn (P:Yas) (w:Yar) (K:Qc) (tg:Expr) (J:It) (fp:List Addr) (it:Addr) (tn:Nat->Heap->Prop):Prop where
 mem:it∈fp
 obj:∀ i h,tn i h->∀ b∈fp,∃ o,h.get? b=some o/\∀ v,o.data≠.cell v
 keep:∀ i h h',tn i h->(∀ b∈fp,∀ o,h.get? b=some o->h'.get? b=some o)->tn i h'
 item:∀ (X:Cx),X.prog=P->X.w=w->X.K=K->X.calm=true->∀ (i:Nat) (pins:List (Addr×Obj)) (s:Yap) (σ:St) (H:Hp) (E:Yan->Yap->Prop),Inv X pins σ H s->(∀ b∈fp,Jc9 X pins H b)->tn i s.heap->J.go i H ->
  Yaq (model P w) X.A (pyNext (.ref it)) (λ r s1=>∃ u,r=some u /\
   Yaq (model P w) X.A (letOwnedTupleGo tg (.ref it) u) (λ _ s2=>∃ x H',Inv X pins σ H' s2/\Yk x u/\J.yld i H x H'/\tn (i+1) s2.heap/\∀ b∈fp,H' b=none) E s1) E s
 done:∀ (X:Cx),X.prog=P->X.w=w->X.K=K->X.calm=true->∀ (i:Nat) (pins:List (Addr×Obj)) (s:Yap) (σ:St) (H:Hp) (E:Yan->Yap->Prop),Inv X pins σ H s->(∀ b∈fp,Jc9 X pins H b)->tn i s.heap->J.stop i H ->
  Yaq (model P w) X.A (pyNext (.ref it)) (λ r s1=>r=none/\Inv X pins σ H s1) E s
 self:∀ (A:Yat) (i:Nat) (s:Yap) (Q:Yan->Yap->Prop) (E:Yan->Yap->Prop),tn i s.heap->Q (.ref it) s->Yaq (model P w) A (pyIter (.ref it)) Q E s
abbrev TI:=St->Hp->(It->Hp->Prop)->Prop
def PIE (X:Cx) (pins:List (Addr×Obj)) (σ:St) (tg:Expr) (R:It->Hp->Prop) (itv:Yan) (s2:Yap):Prop:=
 ∃ (it:Addr) (fp:List Addr) (tn:Nat->Heap->Prop) (J:It) (H':Hp),itv = .ref it/\Inv X pins σ H' s2/\Turn X.prog X.w X.K tg J fp it tn/\tn 0 s2.heap/\(∀ b∈fp,Jc9 X pins H' b)/\R J H'
def PI (X:Cx) (tg iter:Expr) (wi:TI):Prop:=
 ∀ (pins:List (Addr×Obj)) (s:Yap) (σ:St) (H:Hp) (R:It->Hp->Prop),Inv X pins σ H s->wi σ H R ->
  Yaq (model X.prog X.w) X.A (eval iter X.env) (λ v s1=>Yaq (model X.prog X.w) X.A (pyIter v) (PIE X pins σ tg R) X.xe s1) X.xe s
theorem Jsr {M:Model}{A:Yat}{E:Yan->Yap->Prop}{s:Yap}{tg:Expr}{it:Addr}{u:Yan}{o:Obj}{n:String}{vs:Array Yan}{Q:Unit->Yap->Prop}(ho:s.heap.get? it=some o) (hc:o.cls = .type n) (hd:o.data = .fields vs)
 (hn:["enumerate","zip","dict_itemiterator","dict_reverseitemiterator","odict_iterator","itertools.zip_longest","itertools.pairwise"].contains n=false) (hQ:Q () s):Yaq M A (letOwnedTupleGo tg (.ref it) u) Q E s:=by
 unfold letOwnedTupleGo
 cases tg<;>first
  | exact wpAny_pure hQ
  | (cases u<;>first
   | exact wpAny_pure hQ
   | (refine wpAny_bind (wpAny_load ho ?_)
      rw [hc,hd]
      show Yaq M A (if (["enumerate","zip","dict_itemiterator","dict_reverseitemiterator","odict_iterator","itertools.zip_longest","itertools.pairwise"].contains n&&vs[0]? == some (rawInt _))=true then _ else _) Q E s
      rw [if_neg (by intro h;rw [hn,J5e] at h;cases h)]
      exact wpAny_pure hQ))
noncomputable def Itl (K:Qc) (a:Addr):It:=
 ⟨λ i H=>∃ xs x,SqL K H a xs/\xs[i]? = some x,λ i H x H'=>H'=H/\∀ xs,SqL K H a xs->xs[i]? = some x,λ i H=>∃ xs,SqL K H a xs/\xs.length<=i⟩
noncomputable def Itt (K:Qc) (a:Addr):It:=
 ⟨λ i H=>∃ xs x,SqT K H a xs/\xs[i]? = some x,λ i H x H'=>H'=H/\∀ xs,SqT K H a xs->xs[i]? = some x,λ i H=>∃ xs,SqT K H a xs/\xs.length<=i⟩
noncomputable def Itr (lo:Int) (n:Nat):It:=⟨λ i _=>i<n,λ i H x H'=>H'=H/\x = .int (lo+i),λ i _=>n<=i⟩
theorem Jq7 {P:Yas}{w:Yar}{K:Qc}{tg:Expr}(a it:Addr):Turn P w K tg (Itl K a) [it] it (λ i h=>h.IsListIter it a i) where
 mem:=by simp
 obj:=λ i h st b hb=>by
  have e:b=it:=by simpa using hb
  subst e
  obtain ⟨o,e,c,d⟩:=st
  exact ⟨o,e,λ v z=>by rw [d] at z;cases z⟩
 keep:=λ i h h' st k=>st.at λ o e=>k it (by simp) o e
 item:=by
  intro X hP hw hK hc i pins s σ H E I hf st hg
  subst hP hw hK
  obtain ⟨xs,x,hq,hx⟩:=hg
  obtain ⟨its,rv,p,hz⟩:=I.list hq
  obtain ⟨u,hu,ru⟩:=rv.get hx
  obtain ⟨f0,f1,f2,f3,f4,f5⟩:=hf it (by simp)
  refine wpAny_pyNext_list_item st p.isList (x:=u) (by simpa using hu) λ h' st' sb=>?_
  have I1:Inv X pins σ H { s with heap:=h' }:=I.turned (t':=s.toks) (λ b o hb e=>(sb.2 b hb).trans e) f0 f1 f3 f4 f5
  obtain ⟨o,e,c,d⟩:=id st'
  exact ⟨u,rfl,Jsr (s:={ s with heap:=h' }) e c d (by decide) ⟨x,H,I1,ru,⟨rfl,λ ys hy=>by rw [I.list_inj hy hq];exact hx⟩,st',λ b hb=>(hf b hb).1⟩⟩
 done:=by
  intro X hP hw hK hc i pins s σ H E I hf st hg
  subst hP hw hK
  obtain ⟨xs,hq,hx⟩:=hg
  obtain ⟨its,rv,p,hz⟩:=I.list hq
  obtain ⟨f0,f1,f2,f3,f4,f5⟩:=hf it (by simp)
  have hl:=rv.length
  exact wpAny_pyNext_list_end (I.ok.hd hc) st p.isList (by simp;omega) λ h' eb=>⟨rfl,I.turned (t':=s.toks) (λ b o hb e=>eb b o hb e) f0 f1 f3 f4 f5⟩
 self:=λ _ _ _ _ _ st h=>wpAny_pyIter_listiter st h
theorem Jn6 {P:Yas}{w:Yar}{K:Qc}{tg:Expr}(a it:Addr):Turn P w K tg (Itt K a) [it] it (λ i h=>h.IsTupleIter it a i) where
 mem:=by simp
 obj:=λ i h st b hb=>by
  have e:b=it:=by simpa using hb
  subst e
  obtain ⟨o,e,c,d⟩:=st
  exact ⟨o,e,λ v z=>by rw [d] at z;cases z⟩
 keep:=λ i h h' st k=>st.at λ o e=>k it (by simp) o e
 item:=by
  intro X hP hw hK hc i pins s σ H E I hf st hg
  subst hP hw hK
  obtain ⟨xs,x,hq,hx⟩:=hg
  obtain ⟨its,rv,p,hz⟩:=I.tuple hq
  obtain ⟨u,hu,ru⟩:=rv.get hx
  obtain ⟨f0,f1,f2,f3,f4,f5⟩:=hf it (by simp)
  refine wpAny_pyNext_tuple_item st (show s.heap.IsTuple a its.toArray from p) (x:=u) (by simpa using hu) λ h' st' sb=>?_
  have I1:Inv X pins σ H { s with heap:=h' }:=I.turned (t':=s.toks) (λ b o hb e=>(sb.2 b hb).trans e) f0 f1 f3 f4 f5
  obtain ⟨o,e,c,d⟩:=id st'
  exact ⟨u,rfl,Jsr (s:={ s with heap:=h' }) e c d (by decide) ⟨x,H,I1,ru,⟨rfl,λ ys hy=>by rw [I.tuple_inj hy hq];exact hx⟩,st',λ b hb=>(hf b hb).1⟩⟩
 done:=by
  intro X hP hw hK hc i pins s σ H E I hf st hg
  subst hP hw hK
  obtain ⟨xs,hq,hx⟩:=hg
  obtain ⟨its,rv,p,hz⟩:=I.tuple hq
  obtain ⟨f0,f1,f2,f3,f4,f5⟩:=hf it (by simp)
  have hl:=rv.length
  exact wpAny_pyNext_tuple_end (I.ok.hd hc) st (show s.heap.IsTuple a its.toArray from p) (by simp;omega) λ h' eb=>⟨rfl,I.turned (t':=s.toks) (λ b o hb e=>eb b o hb e) f0 f1 f3 f4 f5⟩
 self:=λ _ _ _ _ _ st h=>wpAny_pyIter_tupleiter st h
theorem Jn7 {P:Yas}{w:Yar}{K:Qc}{tg:Expr}(it:Addr) (lo:Int) (n:Nat):Turn P w K tg (Itr lo n) [it] it (λ i h=>IsRangeIter h it (lo+(i:Nat)*1) ((n:Int)-(i:Nat)) 1) where
 mem:=by simp
 obj:=λ i h st b hb=>by
  have e:b=it:=by simpa using hb
  subst e
  exact ⟨_,st,λ v z=>by
   have z':J6q _=J4d v:=z
   cases z'⟩
 keep:=λ i h h' st k=>k it (by simp) _ st
 item:=by
  intro X hP hw hK hc i pins s σ H E I hf st hg
  subst hP hw hK
  obtain ⟨f0,f1,f2,f3,f4,f5⟩:=hf it (by simp)
  have W:=Walks.range (prog:=X.prog) (w:=X.w) (I.ok.hd hc) it lo 1 n
  refine W.item i s _ _ hg st λ v h' tk hv st' kk=>?_
  obtain ⟨t,rfl⟩:=hv
  have I1:Inv X pins σ H { s with heap:=h',toks:=tk }:=I.turned (λ b o hb e=>kk b o (by simpa using hb) e) f0 f1 f3 f4 f5
  refine ⟨_,rfl,Jsr (s:={ s with heap:=h',toks:=tk }) (n:="range_iterator") st' rfl rfl (by decide) ⟨.int (lo+i),H,I1,⟨t,?_⟩,⟨rfl,rfl⟩,st',λ b hb=>(hf b hb).1⟩⟩
  rw [J6r]
 done:=by
  intro X hP hw hK hc i pins s σ H E I hf st hg
  subst hP hw hK
  obtain ⟨f0,f1,f2,f3,f4,f5⟩:=hf it (by simp)
  exact wpAny_pyNext_range_end (I.ok.hd hc) st (by have:n<=i:=hg;omega) λ h' eb=>⟨rfl,I.turned (t':=s.toks) (λ b o hb e=>eb b o hb e) f0 f1 f3 f4 f5⟩
 self:=λ _ _ _ _ _ st h=>wpAny_pyIter_rangeiter st h
section
variable {X:Cx}{tg:Expr}
def Jpt (K:Qc) (tl:TE):TI:=λ σ H R=>tl σ H λ x H1=>∃ a,x = .ref a/\(∃ xs,SqL K H1 a xs)/\R (Itl K a) H1
def J05 (K:Qc) (tl:TE):TI:=λ σ H R=>tl σ H λ x H1=>∃ a,x = .ref a/\(∃ xs,SqT K H1 a xs)/\R (Itt K a) H1
theorem Zd {l:Expr}{tl:TE}(hl:PE X l tl):PI X tg l (Jpt X.K tl):=by
 intro pins s σ H R I h
 refine thn (hl pins s σ H _ I h) λ v s1 ⟨x,H1,I1,r1,q1⟩=>?_
 obtain ⟨a,e,⟨xs,hq⟩,q⟩:=q1
 subst e
 cases r1
 obtain ⟨its,rv,p,hz⟩:=I1.list hq
 refine wpAny_pyIter_list p.isList ?_
 refine ⟨s1.heap.objs.size,[s1.heap.objs.size],_,_,H1,rfl,I1.kept (t':=s1.toks) λ b o e=>Qu _ e,Jq7 a _,⟨_,Q9 _ rfl,rfl,rfl⟩,λ b hb=>?_,q⟩
 have e:b=s1.heap.objs.size:=by simpa using hb
 subst e
 exact I1.fpOk (Qn _) (I1.hok.fresh (Qn _))
theorem Jss {l:Expr}{tl:TE}(hl:PE X l tl):PI X tg l (J05 X.K tl):=by
 intro pins s σ H R I h
 refine thn (hl pins s σ H _ I h) λ v s1 ⟨x,H1,I1,r1,q1⟩=>?_
 obtain ⟨a,e,⟨xs,hq⟩,q⟩:=q1
 subst e
 cases r1
 obtain ⟨its,rv,p,hz⟩:=I1.tuple hq
 refine wpAny_pyIter_tuple (show s1.heap.IsTuple a its.toArray from p) ?_
 refine ⟨s1.heap.objs.size,[s1.heap.objs.size],_,_,H1,rfl,I1.kept (t':=s1.toks) λ b o e=>Qu _ e,Jn6 a _,⟨_,Q9 _ rfl,rfl,rfl⟩,λ b hb=>?_,q⟩
 have e:b=s1.heap.objs.size:=by simpa using hb
 subst e
 exact I1.fpOk (Qn _) (I1.hok.fresh (Qn _))
theorem Jst {pins:List (Addr×Obj)}{σ:St}{H:Hp}{s:Yap}{R:It->Hp->Prop}{E:Yan->Yap->Prop}{lo hi:Int}{t u v:Tok}{tk:Nat}(I:Inv X pins σ H s) (h1:-(2^62)<=lo) (h2:lo<2^62) (h3:-(2^62)<=hi) (h4:hi<2^62)
 (q:R (Itr lo (hi-lo).toNat) H):Yaq (model X.prog X.w) X.A (pyIter (.ref s.heap.objs.size)) (PIE X pins σ tg R) E { s with heap:=s.heap.push { cls:=.type "range",data:=.fields #[.int lo t,.int hi u,.int 1 v] },toks:=tk }:=by
 refine wpAny_pyIter_range (J6s ..) (small_one h1 h2 h3 h4) ?_
 have I1:Inv X pins σ H { s with heap:=s.heap.push { cls:=.type "range",data:=.fields #[.int lo t,.int hi u,.int 1 v] },toks:=tk }:=I.kept λ b o e=>Qu _ e
 refine ⟨(s.heap.push { cls:=.type "range",data:=.fields #[.int lo t,.int hi u,.int 1 v] }).objs.size,[(s.heap.push { cls:=.type "range",data:=.fields #[.int lo t,.int hi u,.int 1 v] }).objs.size],_,_,H,rfl,
  I1.kept (t':=tk) λ b o e=>Qu _ e,Jn7 _ lo (hi-lo).toNat,?_,λ b hb=>?_,q⟩
 . have e1:lo+((0:Nat):Int)*1=lo:=by simp
   have e2:(((hi-lo).toNat:Nat):Int)-((0:Nat):Int)=J98 lo hi 1:=by rw [Ybv];split<;>omega
   show IsRangeIter _ _ (lo+((0:Nat):Int)*1) ((((hi-lo).toNat:Nat):Int)-((0:Nat):Int)) 1
   rw [e1,e2]
   exact Q9 _ rfl
 . have e:b=(s.heap.push { cls:=.type "range",data:=.fields #[.int lo t,.int hi u,.int 1 v] }).objs.size:=by simpa using hb
   subst e
   exact I1.fpOk (Qn _) (I1.hok.fresh (Qn _))
def Jxv (ta:TA):TI:=λ σ H R=>ta σ H λ vs H1=>∃ j:Int,vs=[.int j]/\-(2^62)<=j/\j<2^62/\R (Itr 0 j.toNat) H1
theorem Y8 {a:Expr}{ta:TA}{p pos:Pos}(hg:Gl X "range") (hm:X.mg "range" = none) (ha:PA X [a] ta) (hs:starEach [a] X.env=[(false,eval a X.env)]:=by rfl):PI X tg (.Call (.Name "range" p) [a] [] pos) (Jxv ta):=by
 intro pins s σ H R I h
 refine Call_ (By I hg hm boot_range (U1 (thn (ha pos pins s σ H _ I h) λ us s1 ⟨vs,H1,I1,r1,q1⟩=>?_) hs rfl))
 obtain ⟨j,e,q1,q2,q⟩:=q1
 subst e
 cases r1 with
 | cons r rr=>
  cases rr
  obtain ⟨t,rfl⟩:=r
  exact call_range_1 (Jst I1 (by omega) (by omega) q1 q2 (by simpa using q))
def J06 (wi:TI) (g:TG) (tb:TS):TS:=λ D σ H=>wi σ H λ J H1=>∃ W:Nat->Nat->St->Hp->Prop,(∃ m,W 0 m σ H1)/\∀ i m σ H,W i m σ H ->
 (J.stop i H/\D.nx σ H)\/(J.go i H/\∃ N:St->Hp->Prop,(∀ σ' H',N σ' H'->∃ m',m'<m/\W (i+1) m' σ' H')/\∀ x H',J.yld i H x H'->g x σ H' λ σ2 H2=>tb { D with nx:=N,ct:=N,bk:=D.nx } σ2 H2)
noncomputable def Je8 (fp:List Addr) (h:Heap):List (Addr×Obj):=fp.filterMap λ b=>(h.get? b).map λ o=>(b,o)
theorem V5 {fp:List Addr}{h:Heap}{b:Addr}{o:Obj}(hb:b∈fp) (e:h.get? b=some o):(b,o)∈Je8 fp h:=J5f.mpr ⟨b,hb,by rw [e];rfl⟩
theorem Jq8 {fp:List Addr}{h:Heap}{p:Addr×Obj}(hp:p∈Je8 fp h):p.1∈fp/\h.get? p.1=some p.2:=by
 obtain ⟨b,hb,e⟩:=J5f.mp hp
 cases q:h.get? b with
 | none=>rw [q] at e;cases e
 | some o=>
  rw [q] at e
  have e':(b,o)=p:=Xf e
  subst e'
  exact ⟨hb,q⟩
theorem Inv.pinned {pins:List (Addr×Obj)}{σ:St}{H:Hp}{s:Yap}{fp:List Addr}(I:Inv X pins σ H s) (hf:∀ b∈fp,Jc9 X pins H b) (ho:∀ b∈fp,∃ o,s.heap.get? b=some o/\∀ v,o.data≠.cell v):Inv X (pins++Je8 fp s.heap) σ H s:=
 I.pins_of λ p hp=>(Q6.mp hp).elim (λ z=>I.pin p (Xi _ z)) λ z=>by
  obtain ⟨hb,e⟩:=Jq8 z
  obtain ⟨f0,f1,f2,_⟩:=hf p.1 hb
  obtain ⟨o,e',d⟩:=ho p.1 hb
  rw [e] at e';cases e'
  exact ⟨e,f0,f1,f2,d⟩
theorem Inv.unpinned {pins pl:List (Addr×Obj)}{σ:St}{H:Hp}{s:Yap}(I:Inv X (pins++pl) σ H s):Inv X pins σ H s:=I.pins_of λ p hp=>I.pin p (Xi _ (Xn _ hp))
theorem We {iter:Expr}{body:List Stmt}{wi:TI}{g:TG}{tb:TS}{pos:Pos}(hp:PassesOwn (model X.prog X.w) X.A X.env X.xe) (hc:X.calm=true) (hi:PI X tg iter wi) (hg:PG X tg g) (hb:PSs X body tb)
 (hs:∀ x,Ybq iter X.env x=pure x:=by intro _;rfl):PS X (.For tg iter body [] pos) (J06 wi g tb):=by
 intro pins s σ H D I h
 refine wpAny_For (thn (hi pins s σ H _ I h) λ v s1 h1=>thn h1 λ itv s2 h2=>?_) hs
 obtain ⟨it,fp,tn,J,H2,e,I2,T,st2,f2,W,⟨m0,w0⟩,turn⟩:=h2
 subst e
 -- what stays true of the iterator's objects through the loop
 have stat:∀ {H':Hp},(∀ b∈fp,H' b=none)->∀ b∈fp,Jc9 X pins H' b:=λ hn b hb=>⟨hn b hb,(f2 b hb).2⟩
 refine codeAny_forLoop_any (λ n s'=>∃ i σ' H',Inv X pins σ' H' s'/\tn i s'.heap/\(∀ b∈fp,H' b=none)/\W i n σ' H') ?_ m0 ⟨0,σ,H2,I2,st2,λ b hb=>(f2 b hb).1,w0⟩
 rintro n s3 ⟨i,σ3,H3,I3,st3,fr3,w3⟩
 rcases turn i n σ3 H3 w3 with ⟨stop,qn⟩ | ⟨go,N,hN,step⟩
 . refine Yba hp (thn (T.done X rfl rfl rfl hc i pins s3 σ3 H3 X.xe I3 (stat fr3) st3 stop) λ r s4 ⟨hr,I4⟩=>?_)
   subst hr
   exact Ybr ⟨σ3,H3,I4,qn⟩
 . refine Yba hp (thn (T.item X rfl rfl rfl hc i pins s3 σ3 H3 X.xe I3 (stat fr3) st3 go) λ r s4 ⟨u,hr,h4⟩=>?_)
   subst hr
   refine Yba hp (thn h4 λ _ s5 ⟨x,H5,I5,r5,y5,st5,fr5⟩=>?_)
   have I5':=I5.pinned (stat fr5) (T.obj _ _ st5)
   refine Yba hp (thn (hg _ s5 σ3 H5 x u _ I5' r5 (step x H5 y5)) λ _ s6 ⟨σ6,H6,I6,q6⟩=>?_)
   refine Yba hp (thn (hb _ s6 σ6 H6 _ I6 q6) λ f s7 q7=>?_)
   have again:∀ {σ7:St} {H7:Hp},Inv X (pins++Je8 fp s5.heap) σ7 H7 s7->N σ7 H7->∃ m,m<n/\∃ i σ' H',Inv X pins σ' H' s7/\tn i s7.heap/\(∀ b∈fp,H' b=none)/\W i m σ' H':=λ {σ7 H7} I7 n7=>by
    obtain ⟨m',hm,w7⟩:=hN σ7 H7 n7
    refine ⟨m',hm,i+1,σ7,H7,I7.unpinned,T.keep _ _ _ st5 λ b hb o e=>(I7.pin (b,o) (Xi _ (Xi _ (V5 hb e)))).1,λ b hb=>?_,w7⟩
    obtain ⟨o,e,d⟩:=T.obj _ _ st5 b hb
    exact (I7.pin (b,o) (Xi _ (Xi _ (V5 hb e)))).2.1
   cases f with
   | next=>obtain ⟨σ7,H7,I7,n7⟩:=q7;exact again I7 n7
   | cont=>obtain ⟨σ7,H7,I7,n7⟩:=q7;exact again I7 n7
   | brk=>obtain ⟨σ7,H7,I7,q7⟩:=q7;exact ⟨σ7,H7,I7.unpinned,q7⟩
   | ret v=>obtain ⟨x7,σ7,H7,I7,r7,q7⟩:=q7;exact ⟨x7,σ7,H7,I7.unpinned,r7,q7⟩
end
abbrev R2:=V->V->Hp->VK->Prop
def OpR (X:Cx) (f:Yan->Yan->Sem Yan) (r:R2):Prop:=
 ∀ (pins:List (Addr×Obj)) (s:Yap) (σ:St) (H:Hp) (x y:V) (v u:Yan) (Q:VK),Inv X pins σ H s->Yk x v->Yk y u->r x y H Q ->
  Yaq (model X.prog X.w) X.A (f v u) (EP X pins σ Q) X.xe s
def UnR (X:Cx) (f:Yan->Sem Yan) (r:V->Hp->VK->Prop):Prop:=
 ∀ (pins:List (Addr×Obj)) (s:Yap) (σ:St) (H:Hp) (x:V) (v:Yan) (Q:VK),Inv X pins σ H s->Yk x v->r x H Q ->
  Yaq (model X.prog X.w) X.A (f v) (EP X pins σ Q) X.xe s
def Vs (X:Cx) (f:Yan) (r:List V->Hp->VK->Prop):Prop:=
 ∀ (pins:List (Addr×Obj)) (s:Yap) (σ:St) (H:Hp) (xs:List V) (us:List Yan) (Q:VK),Inv X pins σ H s->J9 xs us->r xs H Q ->
  Yaq (model X.prog X.w) X.A (call f us) (EP X pins σ Q) X.xe s
def J2q (X:Cx) (r:V->Hp->(Bool->Hp->Prop)->Prop):Prop:=
 ∀ (pins:List (Addr×Obj)) (s:Yap) (σ:St) (H:Hp) (x:V) (v:Yan) (Q:Bool->Hp->Prop),Inv X pins σ H s->Yk x v->r x H Q ->
  Yaq (model X.prog X.w) X.A (truthy v) (TP X pins σ Q) X.xe s
def tOp (r:R2) (ta tb:TE):TE:=λ σ H Q=>ta σ H λ x H1=>tb σ H1 λ y H2=>r x y H2 Q
def tUn (r:V->Hp->VK->Prop) (ta:TE):TE:=λ σ H Q=>ta σ H λ x H1=>r x H1 Q
def rI (C:Int->Int->Prop) (g:Int->Int->V):R2:=λ x y H Q=>∃ i j,x = .int i/\y = .int j/\C i j/\Q (g i j) H
def rI0 (g:Int->Int->V):R2:=λ x y H Q=>∃ i j,x = .int i/\y = .int j/\Q (g i j) H
def rU (g:Int->V):V->Hp->VK->Prop:=λ x H Q=>∃ i,x = .int i/\Q (g i) H
section
variable {X:Cx}{a b c:Expr}{ta tb tc:TE}{pos:Pos}
theorem Jzd (ha:PE X a ta) (hb:PE X b tb) {pins:List (Addr×Obj)}{s:Yap}{σ:St}{H:Hp}{R:V->V->Hp->Prop}(I:Inv X pins σ H s)
 (h:ta σ H λ x H1=>tb σ H1 λ y H2=>R x y H2) {Q:Yan->Yap->Prop} {f:Yan->Yan->Sem Yan}
 (hf:∀ v u s2 x y H2,Inv X pins σ H2 s2->Yk x v->Yk y u->R x y H2->Yaq (model X.prog X.w) X.A (f v u) Q X.xe s2) :
 Yaq (model X.prog X.w) X.A (eval a X.env) (λ v s₁=>Yaq (model X.prog X.w) X.A (eval b X.env) (λ u s₂=>Yaq (model X.prog X.w) X.A (f v u) Q X.xe s₂) X.xe s₁) X.xe s:=by
 refine thn (ha pins s σ H _ I h) λ v s1 ⟨x,H1,I1,r1,q1⟩=>?_
 refine thn (hb pins s1 σ H1 _ I1 q1) λ u s2 ⟨y,H2,I2,r2,q2⟩=>?_
 exact hf v u s2 x y H2 I2 r1 r2 q2
theorem Ju {op:Ybh}{r:R2}(ho:OpR X (binaryOp op) r) (ha:PE X a ta) (hb:PE X b tb):PE X (.BinOp a op b pos) (tOp r ta tb):=by
 intro pins s σ H Q I h
 exact wpAny_BinOp (Jzd ha hb I h λ v u s2 x y H2 I2 rx ry q=>ho pins s2 σ H2 x y v u Q I2 rx ry q)
theorem Bj {op:UnaryOp}{r:V->Hp->VK->Prop}(ho:UnR X (unaryOp op) r) (ha:PE X a ta):PE X (.UnaryOp op a pos) (tUn r ta):=by
 intro pins s σ H Q I h
 exact UnaryOp_ (thn (ha pins s σ H _ I h) λ v s1 ⟨x,H1,I1,r1,q1⟩=>ho pins s1 σ H1 x v Q I1 r1 q1)
theorem opI {f:Yan->Yan->Sem Yan}{C:Int->Int->Prop}{g:Int->Int->Int}
 (rule:∀ (i j:Int) (t u:Tok) (s:Yap) (Q:Yan->Yap->Prop) (E:Yan->Yap->Prop),C i j->Q (.int (g i j) s.toks) { s with toks:=s.toks+1 }->Yaq (model X.prog X.w) X.A (f (.int i t) (.int j u)) Q E s) :
 OpR X f (rI C λ i j=>.int (g i j)):=by
 intro pins s σ H x y v u Q I rx ry h
 obtain ⟨i,j,rfl,rfl,hc,q⟩:=h
 obtain ⟨t,rfl⟩:=rx
 obtain ⟨t',rfl⟩:=ry
 exact rule i j t t' s _ _ hc ⟨.int (g i j),H,I.tok _,⟨_,rfl⟩,q⟩
theorem J07 {f:Yan->Yan->Sem Yan}{g:Int->Int->Int}
 (rule:∀ (i j:Int) (t u:Tok) (s:Yap) (Q:Yan->Yap->Prop) (E:Yan->Yap->Prop),Q (.int (g i j) s.toks) { s with toks:=s.toks+1 }->Yaq (model X.prog X.w) X.A (f (.int i t) (.int j u)) Q E s) :
 OpR X f (rI0 λ i j=>.int (g i j)):=by
 intro pins s σ H x y v u Q I rx ry h
 obtain ⟨i,j,rfl,rfl,q⟩:=h
 obtain ⟨t,rfl⟩:=rx
 obtain ⟨t',rfl⟩:=ry
 exact rule i j t t' s _ _ ⟨.int (g i j),H,I.tok _,⟨_,rfl⟩,q⟩
theorem Jvr {f:Yan->Yan->Sem Yan}{g:Int->Int->Bool}
 (rule:∀ (i j:Int) (t u:Tok) (s:Yap) (Q:Yan->Yap->Prop) (E:Yan->Yap->Prop),Q (.bool (g i j)) s->Yaq (model X.prog X.w) X.A (f (.int i t) (.int j u)) Q E s) :
 OpR X f (rI0 λ i j=>.bl (g i j)):=by
 intro pins s σ H x y v u Q I rx ry h
 obtain ⟨i,j,rfl,rfl,q⟩:=h
 obtain ⟨t,rfl⟩:=rx
 obtain ⟨t',rfl⟩:=ry
 exact rule i j t t' s _ _ ⟨.bl (g i j),H,I,rfl,q⟩
def J2r (i j:Int):Prop:=0<=j/\j<=1000000/\i.natAbs<2^64
def Jze (i j:Int):Prop:=(-(2^64)<i/\i<2^64)\/(-(2^64)<j/\j<2^64)
theorem Jze.ok {i j:Int}(h:Jze i j):IntMulOk i j:=by
 rcases h with ⟨h1,h2⟩ | ⟨h1,h2⟩
 . exact .of_left (intBits_le_64 h1 h2)
 . exact .of_right (intBits_le_64 h1 h2)
theorem W4:OpR X (binaryOp .Add) (rI0 λ i j=>.int (i+j)):=J07 λ _ _ _ _ _ _ _ q=>add_int q
theorem Jam:OpR X (binaryOp .Sub) (rI0 λ i j=>.int (i-j)):=J07 λ _ _ _ _ _ _ _ q=>sub_int q
theorem Jda:OpR X (binaryOp .Mult) (rI Jze λ i j=>.int (i*j)):=opI λ _ _ _ _ _ _ _ hc q=>mul_int q hc.ok
theorem Bz:OpR X (binaryOp .Mod) (rI (λ _ j=>0<j) λ i j=>.int (i%j)):=opI λ i j _ _ _ _ _ hc q=>by
 have h1:(0:Int)<j:=hc
 exact mod_int' (by omega) (by rw [Int.fmod_eq_emod_of_nonneg i (by omega)];exact q)
theorem Jzf:OpR X (binaryOp .Pow) (rI J2r λ i j=>.int (i^j.toNat)):=opI λ _ _ _ _ _ _ _ hc q=>pow_int_small hc.1 hc.2.1 hc.2.2 q
theorem unI {f:Yan->Sem Yan}{g:Int->Int}
 (rule:∀ (i:Int) (t:Tok) (s:Yap) (Q:Yan->Yap->Prop) (E:Yan->Yap->Prop),Q (.int (g i) s.toks) { s with toks:=s.toks+1 }->Yaq (model X.prog X.w) X.A (f (.int i t)) Q E s) :
 UnR X f (rU λ i=>.int (g i)):=by
 intro pins s σ H x v Q I rx h
 obtain ⟨i,rfl,q⟩:=h
 obtain ⟨t,rfl⟩:=rx
 exact rule i t s _ _ ⟨.int (g i),H,I.tok _,⟨_,rfl⟩,q⟩
theorem Wp:UnR X (unaryOp .USub) (rU λ i=>.int (-i)):=unI λ _ _ _ _ _ q=>neg_int q
end
noncomputable def Jvs:V->V->Bool
 | .non,.non=>true | .non,.int _=>true | .int _,.non=>true | .non,.bl _=>true | .bl _,.non=>true | .non,.str _=>true | .str _,.non=>true
 | .int _,.int _=>true | .bl _,.bl _=>true | .str _,.str _=>true | .byt _,.byt _=>true
 | .int _,.str _=>true | .str _,.int _=>true | .bl _,.str _=>true | .str _,.bl _=>true
 | _,_=>false
def rEq:R2:=λ x y H Q=>Jvs x y=true/\Q (.bl (decide (x=y))) H
def rNe:R2:=λ x y H Q=>Jvs x y=true/\Q (.bl (!decide (x=y))) H
theorem Jpu {i j:Int}:decide (V.int i=V.int j)=(i==j):=by
 rw [Uh]
 simp
theorem Jsu {i j:Bool}:decide (V.bl i=V.bl j)=(i==j):=by
 rw [Uh]
 simp
theorem Jpv {i j:Str}:decide (V.str i=V.str j)=(i==j):=by
 rw [Uh]
 simp
theorem Jpw {i j:Array UInt8}:decide (V.byt i=V.byt j)=(i.toList==j.toList):=by
 rw [Uh]
 cases i
 cases j
 simp
section
variable {X:Cx}{a b c:Expr}{ta tb tc:TE}{pos:Pos}
theorem Yf {pins:List (Addr×Obj)}{σ:St}{H:Hp}{s:Yap}{Q:VK}{k k':Bool}(I:Inv X pins σ H s) (q:Q (.bl k) H) (e:k=k'):EP X pins σ Q (.bool k') s:=by
 subst e
 exact ⟨.bl k,H,I,rfl,q⟩
theorem Jag:OpR X (compareOp .Eq) rEq:=by
 intro pins s σ H x y v u Q I rx ry h
 obtain ⟨hs,q⟩:=h
 cases x with
 | non=>
  cases rx
  cases y with
  | non=>cases ry;exact PySem.EqNone.eq_none_none (Yf I q (by simp))
  | bl j=>cases ry;exact PySem.EqNone.eq_none_bool (Yf I q (by simp))
  | int j=>obtain ⟨t',rfl⟩:=ry;exact PySem.EqNone.eq_none_int (Yf I q (by simp))
  | str j=>obtain ⟨t',rfl⟩:=ry;exact PySem.EqNone.eq_none_str (Yf I q (by simp))
  | _=>exact absurd (show false=true from hs) Q2
 | bl i=>
  cases rx
  cases y with
  | non=>cases ry;exact PySem.EqNone.eq_bool_none (Yf I q (by simp))
  | bl j=>cases ry;exact eq_bool (Yf I q Jsu)
  | str j=>obtain ⟨t',rfl⟩:=ry;exact J99 (Yf I q (by simp))
  | _=>exact absurd (show false=true from hs) Q2
 | int i=>
  obtain ⟨t,rfl⟩:=rx
  cases y with
  | non=>cases ry;exact PySem.EqNone.eq_int_none (Yf I q (by simp))
  | int j=>obtain ⟨t',rfl⟩:=ry;exact eq_int (Yf I q Jpu)
  | str j=>obtain ⟨t',rfl⟩:=ry;exact Yaa (Yf I q (by simp))
  | _=>exact absurd (show false=true from hs) Q2
 | str i=>
  obtain ⟨t,rfl⟩:=rx
  cases y with
  | non=>cases ry;exact PySem.EqNone.eq_str_none (Yf I q (by simp))
  | bl j=>cases ry;exact Yab (Yf I q (by simp))
  | int j=>obtain ⟨t',rfl⟩:=ry;exact Yac (Yf I q (by simp))
  | str j=>obtain ⟨t',rfl⟩:=ry;exact eq_str (Yf I q Jpv)
  | _=>exact absurd (show false=true from hs) Q2
 | byt i=>
  obtain ⟨t,rfl⟩:=rx
  cases y with
  | byt j=>obtain ⟨t',rfl⟩:=ry;exact PySem.W.eq_bytes (Yf I q Jpw)
  | _=>exact absurd (show false=true from hs) Q2
 | _=>cases y<;>exact absurd (show false=true from hs) Q2
theorem Jsv:OpR X (compareOp .NotEq) rNe:=by
 intro pins s σ H x y v u Q I rx ry h
 obtain ⟨hs,q⟩:=h
 cases x with
 | non=>
  cases rx
  cases y with
  | non=>cases ry;exact PySem.EqNone.ne_none_none (Yf I q (by simp))
  | bl j=>cases ry;exact PySem.EqNone.ne_none_bool (Yf I q (by simp))
  | int j=>obtain ⟨t',rfl⟩:=ry;exact PySem.EqNone.ne_none_int (Yf I q (by simp))
  | str j=>obtain ⟨t',rfl⟩:=ry;exact PySem.EqNone.ne_none_str (Yf I q (by simp))
  | _=>exact absurd (show false=true from hs) Q2
 | bl i=>
  cases rx
  cases y with
  | non=>cases ry;exact PySem.EqNone.ne_bool_none (Yf I q (by simp))
  | bl j=>cases ry;exact ne_bool (Yf I q (congrArg not Jsu))
  | str j=>obtain ⟨t',rfl⟩:=ry;exact Yad (Yf I q (by simp))
  | _=>exact absurd (show false=true from hs) Q2
 | int i=>
  obtain ⟨t,rfl⟩:=rx
  cases y with
  | non=>cases ry;exact PySem.EqNone.ne_int_none (Yf I q (by simp))
  | int j=>obtain ⟨t',rfl⟩:=ry;exact ne_int (Yf I q (congrArg not Jpu))
  | str j=>obtain ⟨t',rfl⟩:=ry;exact Yae (Yf I q (by simp))
  | _=>exact absurd (show false=true from hs) Q2
 | str i=>
  obtain ⟨t,rfl⟩:=rx
  cases y with
  | non=>cases ry;exact PySem.EqNone.ne_str_none (Yf I q (by simp))
  | bl j=>cases ry;exact Yaf (Yf I q (by simp))
  | int j=>obtain ⟨t',rfl⟩:=ry;exact Yag (Yf I q (by simp))
  | str j=>obtain ⟨t',rfl⟩:=ry;exact ne_str (Yf I q (congrArg not Jpv))
  | _=>exact absurd (show false=true from hs) Q2
 | byt i=>
  obtain ⟨t,rfl⟩:=rx
  cases y with
  | byt j=>obtain ⟨t',rfl⟩:=ry;exact PySem.W.ne_bytes (Yf I q (congrArg not Jpw))
  | _=>exact absurd (show false=true from hs) Q2
 | _=>cases y<;>exact absurd (show false=true from hs) Q2
theorem Jjg:OpR X (compareOp .Lt) (rI0 λ i j=>.bl (decide (i<j))):=Jvr λ _ _ _ _ _ _ _ q=>lt_int q
theorem Jxw:OpR X (compareOp .LtE) (rI0 λ i j=>.bl (decide (i<=j))):=Jvr λ _ _ _ _ _ _ _ q=>le_int q
theorem Jg7:OpR X (compareOp .Gt) (rI0 λ i j=>.bl (decide (j<i))):=Jvr λ _ _ _ _ _ _ _ q=>gt_int q
theorem Jsw:OpR X (compareOp .GtE) (rI0 λ i j=>.bl (decide (j<=i))):=Jvr λ _ _ _ _ _ _ _ q=>ge_int q
theorem Jb3:OpR X (compareOp .Is) (λ x y H Q=>y = .non/\Q (.bl (decide (x = .non))) H):=by
 intro pins s σ H x y v u Q I rx ry h
 obtain ⟨rfl,q⟩:=h
 cases ry
 refine is_none_gen (Yf I q ?_)
 cases x<;>first
  | (cases rx;rfl)
  | (obtain ⟨t,rfl⟩:=rx;rfl)
theorem Jj7:OpR X (compareOp .IsNot) (λ x y H Q=>y = .non/\Q (.bl (!decide (x = .non))) H):=by
 intro pins s σ H x y v u Q I rx ry h
 obtain ⟨rfl,q⟩:=h
 cases ry
 refine isnot_none_gen (Yf I q ?_)
 cases x<;>first
  | (cases rx;rfl)
  | (obtain ⟨t,rfl⟩:=rx;rfl)
theorem Jz (b:Expr) {op:CmpOp}(h:op≠.In:=by decide) (h2:op≠.NotIn:=by decide):Ybs op b=false:=by
 have e1:(op==CmpOp.In)=false:=by cases op<;>first | rfl | exact absurd rfl h
 have e2:(op==CmpOp.NotIn)=false:=by cases op<;>first | rfl | exact absurd rfl h2
 cases b<;>simp [Ybs,e1,e2]
theorem Zl {op:CmpOp}{r:R2}(ho:OpR X (compareOp op) r) (ha:PE X a ta) (hb:PE X b tb) (hm:Ybs op b=false):PE X (.Compare a [op] [b] pos) (tOp r ta tb):=by
 intro pins s σ H Q I h
 exact wpAny_Compare1 (Jzd ha hb I h λ v u s2 x y H2 I2 rx ry q=>ho pins s2 σ H2 x y v u Q I2 rx ry q) hm
def Jxx (t:TE):TT:=λ σ H Q=>t σ H λ x H'=>∃ k,x = .bl k/\Q k H'
theorem J4 {op:CmpOp}{r:R2}(ho:OpR X (compareOp op) r) (ha:PE X a ta) (hb:PE X b tb) (hm:Ybs op b=false):PT X (.Compare a [op] [b] pos) (Jxx (tOp r ta tb)):=by
 intro pins s σ H Q I h
 refine wpAny_isTrue_Compare1 (thn (ha pins s σ H _ I h) λ v s1 ⟨x,H1,I1,r1,q1⟩=>thn (hb pins s1 σ H1 _ I1 q1) λ u s2 ⟨y,H2,I2,r2,q2⟩=>
  thn (ho pins s2 σ H2 x y v u _ I2 r1 r2 q2) λ c s3 ⟨z,H3,I3,r3,k,e,q3⟩=>?_) hm
 subst e
 cases r3
 exact wpAny_truthy_bool ⟨H3,I3,q3⟩
def Jsx (r r':R2) (ta tb tc:TE):TE:=λ σ H Q=>ta σ H λ x H1=>tb σ H1 λ y H2=>r x y H2 λ z H3=>∃ k,z = .bl k /\
 (if k=true then tc σ H3 λ w' H4=>r' y w' H4 Q else Q (.bl false) H3)
theorem Jsy {op op':CmpOp}{r r':R2}(ho:OpR X (compareOp op) r) (ho':OpR X (compareOp op') r') (ha:PE X a ta) (hb:PE X b tb) (hc:PE X c tc)
 (hm:lastMarks [op,op'] [b,c]=false:=by with_unfolding_all rfl):PE X (.Compare a [op,op'] [b,c] pos) (Jsx r r' ta tb tc):=by
 intro pins s σ H Q I h
 refine Compare_chain (thn (ha pins s σ H _ I h) λ v s1 ⟨x,H1,I1,r1,q1⟩=>chain_link (thn (hb pins s1 σ H1 _ I1 q1) λ u s2 ⟨y,H2,I2,r2,q2⟩=>
  thn (ho pins s2 σ H2 x y v u _ I2 r1 r2 q2) λ d s3 ⟨z,H3,I3,r3,k,e,q3⟩=>?_)) hm
 subst e
 cases r3
 refine wpAny_truthy_bool ?_
 cases k with
 | false=>exact ite_ff ⟨.bl false,H3,I3,rfl,q3⟩
 | true=>exact ite_tt (chain_last (thn (hc pins s3 σ H3 _ I3 q3) λ w' s4 ⟨z',H4,I4,r4,q4⟩=>ho' pins s4 σ H4 y z' u w' Q I4 r2 r4 q4))
def Jzg (K:Qc) (x:V) (H:Hp) (k:Bool):Prop:=
 match x with
 | .non=>k=false
 | .bl b=>k=b
 | .int i=>k=(i != 0)
 | .str y=>y.length<=sizeLine/\k=((y.length:Int) != 0)
 | .byt y=>y.size<=sizeLine/\k=((y.size:Int) != 0)
 | .ref p=>(∃ xs,SqL K H p xs/\k = !xs.isEmpty)\/(∃ xs,SqT K H p xs/\k = !xs.isEmpty)\/∃ kvs,H p=some (.dK kvs)/\k = !kvs.isEmpty
 | _=>False
theorem Jn8 {κ:Type}{kvs:List (κ×V)}{vs:List (κ×Yan)}(r:KV kvs vs):(!vs.isEmpty) = !kvs.isEmpty:=by
 cases r<;>rfl
theorem Jg8 {xs:List V}{its:List Yan}(r:J9 xs its):(!its.toArray.isEmpty) = !xs.isEmpty:=by
 cases r<;>simp
theorem Je9:(sizeLine:Nat)<2^63:=by rw [Yau];decide
theorem Jzh:J2q X (λ x H Q=>∃ k,Jzg X.K x H k/\Q k H):=by
 intro pins s σ H x v Q I rx h
 obtain ⟨k,e,q⟩:=h
 have hl:=Je9
 have hs:sizeLine=16777216:=Yau
 cases x with
 | non=>
  cases rx
  have e':k=false:=e
  subst e'
  exact truthy_none ⟨H,I,q⟩
 | bl b=>
  cases rx
  have e':k=b:=e
  subst e'
  exact wpAny_truthy_bool ⟨H,I,q⟩
 | int i=>
  obtain ⟨t,rfl⟩:=rx
  have e':k=(i != 0):=e
  subst e'
  exact J6t ⟨H,I,q⟩
 | str y=>
  obtain ⟨t,rfl⟩:=rx
  obtain ⟨hy,e'⟩:y.length<=sizeLine/\k=((y.length:Int) != 0):=e
  subst e'
  exact PySem.P.truthy_str (by omega) ⟨H,I.tok _,q⟩
 | byt y=>
  obtain ⟨t,rfl⟩:=rx
  obtain ⟨hy,e'⟩:y.size<=sizeLine/\k=((y.size:Int) != 0):=e
  subst e'
  exact PySem.W.truthy_bytes (by omega) ⟨H,I.tok _,q⟩
 | ref p=>
  cases rx
  have e':(∃ xs,SqL X.K H p xs/\k = !xs.isEmpty)\/(∃ xs,SqT X.K H p xs/\k = !xs.isEmpty)\/∃ kvs,H p=some (.dK kvs)/\k = !kvs.isEmpty:=e
  rcases e' with ⟨xs,hx,e'⟩ | ⟨xs,hx,e'⟩ | ⟨kvs,hx,e'⟩
  . subst e'
    obtain ⟨its,r,pl,hz⟩:=I.list hx
    have hlen:=r.length
    exact wpAny_truthy_list pl.isList (by simp only [Q7];omega) ⟨H,I.tok _,by rw [Jg8 r];exact q⟩
  . subst e'
    obtain ⟨its,r,pl,hz⟩:=I.tuple hx
    have hlen:=r.length
    exact truthy_tuple pl (by simp only [Q7];omega) ⟨H,I.tok _,by rw [Jg8 r];exact q⟩
  . subst e'
    obtain ⟨hz,hS,vs,r,m⟩:kvs.length<=sizeLine/\(p==Ya3)=false/\∃ vs,KV kvs vs/\s.heap.DictOf (Z2 X.prog X.w) p vs:=I.hok p _ hx
    have hlen:kvs.length=vs.length:=J6k r
    exact wpAny_truthy_dict hS m (by omega) ⟨H,I.tok _,by rw [Jn8 r];exact q⟩
 | _=>exact (show False from e).elim
theorem Jsz (ha:PE X a ta) (he:∀ whole,isTrue a X.env whole=(do let v <- whole;Ya5 a.pos;holding [v] (truthy v))) :
 PT X a (λ σ H Q=>ta σ H λ x H'=>∃ k,Jzg X.K x H' k/\Q k H'):=by
 intro pins s σ H Q I h
 exact isTrue_plain (thn (ha pins s σ H _ I h) λ v s1 ⟨x,H1,I1,r1,q1⟩=>Jzh pins s1 σ H1 x v Q I1 r1 q1) (he _)
theorem Jah {x:V}{us:List Yan}(r:J9 [x] us):∃ u,us=[u]/\Yk x u:=by
 cases r with
 | cons r1 r2=>cases r2;exact ⟨_,rfl,r1⟩
theorem Jpx {x y:V}{us:List Yan}(r:J9 [x,y] us):∃ u w',us=[u,w']/\Yk x u/\Yk y w':=by
 cases r with
 | cons r1 r2=>
  cases r2 with
  | cons r3 r4=>cases r4;exact ⟨_,_,rfl,r1,r3⟩
theorem Js0:Vs X (.builtin "abs") (λ xs H Q=>∃ i,xs=[.int i]/\Q (.int (if i<0 then -i else i)) H):=by
 intro pins s σ H xs us Q I r h
 obtain ⟨i,rfl,q⟩:=h
 obtain ⟨u,rfl,t,rfl⟩:=Jah r
 exact call_abs_int λ u tk=>⟨.int (if i<0 then -i else i),H,I.tok _,⟨_,rfl⟩,q⟩
theorem Jq9 (hc:X.calm=true):Vs X (.builtin "max") (λ xs H Q=>∃ i j,xs=[.int i,.int j]/\Q (.int (if j>i then j else i)) H):=by
 intro pins s σ H xs us Q I r h
 obtain ⟨i,j,rfl,q⟩:=h
 obtain ⟨u,w',rfl,⟨t,rfl⟩,⟨t',rfl⟩⟩:=Jpx r
 refine max_two_ints (I.ok.hd hc) λ h' tk k=>⟨_,H,I.kept k,?_,q⟩
 by_cases hj:j>i
 . rw [if_pos hj,if_pos hj];exact ⟨_,rfl⟩
 . rw [if_neg hj,if_neg hj];exact ⟨_,rfl⟩
theorem Jra (hc:X.calm=true):Vs X (.builtin "min") (λ xs H Q=>∃ i j,xs=[.int i,.int j]/\Q (.int (if j<i then j else i)) H):=by
 intro pins s σ H xs us Q I r h
 obtain ⟨i,j,rfl,q⟩:=h
 obtain ⟨u,w',rfl,⟨t,rfl⟩,⟨t',rfl⟩⟩:=Jpx r
 refine min_two_ints (I.ok.hd hc) λ h' tk k=>⟨_,H,I.kept k,?_,q⟩
 by_cases hj:j<i
 . rw [if_pos hj,if_pos hj];exact ⟨_,rfl⟩
 . rw [if_neg hj,if_neg hj];exact ⟨_,rfl⟩
theorem Jay:Vs X (.type "int") (λ xs H Q=>(∃ i,xs=[.int i]/\Q (.int i) H)\/∃ k,xs=[.bl k]/\Q (.int (if k then 1 else 0)) H):=by
 intro pins s σ H xs us Q I r h
 rcases h with ⟨i,rfl,q⟩ | ⟨k,rfl,q⟩
 . obtain ⟨u,rfl,t,rfl⟩:=Jah r
   exact call_int_int ⟨.int i,H,I,⟨_,rfl⟩,q⟩
 . obtain ⟨u,rfl,r1⟩:=Jah r
   cases r1
   exact call_int_bool ⟨.int (if k then 1 else 0),H,I.tok _,⟨_,rfl⟩,q⟩
end
structure ObjM (h:Heap) (x dx C:Addr) (mA:Str->Option Yan):Prop where
 obj:h.get? x=some (J3m C dx)
 ns:h.Ns1 dx mA
 ne:dx≠x
theorem Jrb {h:Heap}{dx:Addr}{mA:Str->Option Yan}(n:h.Ns1 dx mA):∃ od,h.get? dx=some od/\∀ name,J5g name od=some (mA name):=by
 obtain ⟨o,es,ep,ho,hd,hk,_,hm⟩:=n
 refine ⟨o,ho,λ name=>?_⟩
 have e:=hm name
 unfold nsFind findBy at e
 rw [<- Array.find?_toList] at e
 unfold J5g
 rw [hd]
 dsimp only
 split
 . rename_i y q
   rw [q] at e
   exact congrArg some e
 . rename_i q
   rw [q] at e
   have a:es.toList.any (·.refKey)=false:=by
    rw [J6u]
    intro y hy
    obtain ⟨z,t,hkey⟩:=hk y (Array.mem_toList_iff.mp hy)
    simp [DictEntry.refKey,hkey]
   have a':¬ es.toList.any (·.refKey)=true:=by rw [a];exact Q2
   rw [if_neg a']
   exact congrArg some e
theorem ObjM.look {h:Heap}{x dx C:Addr}{mA:Str->Option Yan}(I:ObjM h x dx C mA):∃ od,PySem.W.InstAt h x (J3m C dx) C (some od)/\∀ name,J5g name od=some (mA name):=
 let ⟨od,ho,hl⟩:=Jrb I.ns
 ⟨od,⟨I.obj,rfl,rfl,ho⟩,hl⟩
section
variable {prog:Yas}{w:Yar}{A:Yat}{E:Yan->Yap->Prop}{s:Yap}{K:Qc}{x dx C f:Addr}{mA:Str->Option Yan}{name:Str}{v:Yan}
theorem Jvt {expr:Bool}{Q:Yan->Yap->Prop}(X:K.In s.heap) (I:ObjM s.heap x dx C mA) (hg:J5h K C name=true) (hh:J6v K C=true)
 (ha:Ui K (.ref C) name=some none) (hv:mA name=some v) (hv':J8n v=true) (h:Q v { s with toks:=s.toks+1 }) :
 Yaq (model prog w) A (getAttr (.ref x) name expr) Q E s:=by
 obtain ⟨od,J,hl⟩:=I.look
 exact PySem.W.get_value X J (J6w hg).1 (PySem.W.findObj_own hh ha rfl (by rw [hl,hv])) hv' h
theorem Js1 {pl:Sem Bool}{Q:Yan×List Yan->Yap->Prop}(X:K.In s.heap) (I:ObjM s.heap x dx C mA) (hg:J5h K C name=true)
 (hf:Ui K (.ref C) name=some (some (.ref f))) (ht:J4e K (.ref f)=true) (hv:mA name=none) (h:Q (.ref f,[.ref x]) s) :
 Yaq (model prog w) A (getMethod (.ref x) name pl) Q E s:=by
 obtain ⟨od,J,hl⟩:=I.look
 exact PySem.W.method_fn X J (J6w hg).1 (J6w hg).2 hf (beq_iff_eq.mp ht) (by show (J5g name od).map (·.isSome)=some false;rw [hl,hv];rfl) h
theorem Jvu {ns:List Str}{Q:Unit->Yap->Prop}(X:K.In s.heap) (I:ObjM s.heap x dx C mA)
 (hs:Ui K (.ref C) "__setattr__" = some (some (.builtin "object.__setattr__"))) (hp:J8o K C=true) (ht:J6x K C name=some none) (hh:J6v K C=true)
 (hw:J6l mA ns) (hsz:ns.length<=sizeLine)
 (h:∀ h',ObjM h' x dx C (λ y=>if y=name then some v else mA y)->X2 dx s.heap h'->Q () { s with heap:=h',toks:=s.toks+2 }) :
 Yaq (model prog w) A (setAttr (.ref x) name v) Q E s:=by
 obtain ⟨od,J,hl⟩:=I.look
 refine PySem.W.set_plain X J hs (PySem.W.osa_open (s:={ s with toks:=s.toks+1 }) (r:=none) X J hp ht λ b=>?_)
 obtain ⟨cd,hc,hd'⟩:=PySem.W.any_some hh
 have hx:s.heap.get? x=some ⟨.ref C,some dx,.plain,#[]⟩:=I.obj
 refine wpAny_bind (wpAny_pure (wpAny_bind (wpAny_bind (wpAny_loadPart hx (wpAny_bind (Yah (s:={ s with toks:=s.toks+1 }) (PySem.W.looks_clsIn X hc) ?_))))))
 rw [hd']
 refine wpAny_pure (a:=some dx) (wpAny_bind (wpAny_pure (wpAny_bind ?_)))
 refine wpAny_nsSet1 (s:={ s with toks:=s.toks+1 }) I.ns λ h' hn2 hs2=>?_
 obtain ⟨oD,esD,epD,hoD,hdD,hcD⟩:=hn2.count (J6l.cons name v hw)
 refine wpAny_bind (wpAny_lookBehind hoD (by rw [hdD];exact pastItsLine_dict (Xm hcD (by rw [Ue];omega))) ?_)
 exact wpAny_pure (h _ ⟨(hs2.2 _ (Ql I.ne)).trans I.obj,hn2,I.ne⟩ hs2)
theorem Js2 {R:Ya8->Yap->Prop}{vs:List Yan}{kw:List (Str×Yan)}(X:K.In s.heap) (hm:J6y K C=true)
 (hi:Ui K (.ref C) "__init__" = some (some (.ref f))) (hf:PySem.W.typeIn K (.ref f)=some (.type "function"))
 (h:Ya1 (model prog w) (A.under (.builtin "type.__call__" ⟨.ref C::vs,kw⟩)) (.call (.ref f) ⟨.ref (s.heap.objs.size+1)::vs,kw⟩) (PySem.W.InitBack (s.heap.objs.size+1) R)
  { s with heap:=(s.heap.push U2).push (J3m C s.heap.objs.size) }) :
 Ya1 (model prog w) A (.call (.ref C) ⟨vs,kw⟩) R s:=by
 obtain ⟨hh,g,d,t,os⟩:=s
 exact PySem.W.make_core (PySem.W.makes_of X hm) (PySem.W.looks_findIn X hi) (λ self=>PySem.W.bind_fn X self hf) (.inl rfl) h
end
noncomputable def putF (f:Str) (v:V):List (Str×V)->List (Str×V)
 | []=>[(f,v)]
 | (g,x)::r=>if g=f then (g,v)::r else (g,x)::putF f v r
theorem Jfy (f g:Str) (v:V):∀ fs:List (Str×V),(putF f v fs).lookup g=if g=f then some v else fs.lookup g
 | []=>by
  show J3v g [(f,v)]=_
  by_cases h:g=f
  . have hb:(g==f)=true:=beq_iff_eq.mpr h
    simp only [J3v,hb,if_pos h]
  . have hb:(g==f)=false:=beq_eq_false_iff_ne.mpr h
    simp only [J3v,hb,if_neg h]
 | (k,x)::r=>by
  have ih:=Jfy f g v r
  rw [show putF f v ((k,x)::r)=(if k=f then (k,v)::r else (k,x)::putF f v r) from rfl]
  by_cases hk:k=f
  . rw [if_pos hk]
    by_cases h:g=k
    . have hb:(g==k)=true:=beq_iff_eq.mpr h
      simp only [J3v,hb,if_pos (h.trans hk)]
    . have hb:(g==k)=false:=beq_eq_false_iff_ne.mpr h
      simp only [J3v,hb,if_neg (λ e:g=f=>h (e.trans hk.symm))]
  . rw [if_neg hk]
    by_cases h:g=k
    . have hb:(g==k)=true:=beq_iff_eq.mpr h
      simp only [J3v,hb,if_neg (λ e:g=f=>hk (h.symm.trans e))]
    . have hb:(g==k)=false:=beq_eq_false_iff_ne.mpr h
      simp only [J3v,hb]
      exact ih
theorem Jfa (f:Str) (v:V):∀ fs:List (Str×V),f∈(putF f v fs).map (·.1)/\∀ g,g∈fs.map (·.1)->g∈(putF f v fs).map (·.1)
 | []=>⟨by simp [putF],λ g h=>by simp at h⟩
 | (k,x)::r=>by
  obtain ⟨i1,i2⟩:=Jfa f v r
  rw [show putF f v ((k,x)::r)=(if k=f then (k,v)::r else (k,x)::putF f v r) from rfl]
  by_cases hk:k=f
  . rw [if_pos hk]
    subst hk
    exact ⟨by simp,λ g h=>by simpa using h⟩
  . rw [if_neg hk]
    refine ⟨?_,λ g h=>?_⟩
    . rw [Q0]
      exact Qi _ i1
    . rw [Q0] at h ⊢
      rcases Qf.mp h with e | e
      . exact Qf.mpr (.inl e)
      . exact Qi _ (i2 g e)
theorem Jfz (f:Str) (v:V):∀ fs:List (Str×V),(putF f v fs).length<=fs.length+1
 | []=>by simp [putF]
 | (k,x)::r=>by
  have ih:=Jfz f v r
  rw [show putF f v ((k,x)::r)=(if k=f then (k,v)::r else (k,x)::putF f v r) from rfl]
  by_cases hk:k=f
  . rw [if_pos hk,Ue,Ue];omega
  . rw [if_neg hk,Ue,Ue];omega
theorem Jdz.some_of {v:V}{o:Option Yan}(r:Jdz (some v) o):∃ u,o=some u/\Yk v u:=by
 cases o with
 | none=>exact (show False from r).elim
 | some u=>exact ⟨u,rfl,r⟩
theorem Jdz.none_of {o:Option Yan}(r:Jdz none o):o=none:=by
 cases o with
 | none=>rfl
 | some u=>exact (show False from r).elim
theorem Jrc {v:V}{u:Yan}(r:Yk v u):J8n u=true:=by
 cases v with
 | non=>cases (show u=Ut from r);rfl
 | bl b=>cases (show u=J36 b from r);rfl
 | int i=>obtain ⟨t,e⟩:=(show ∃ t,u=Us i t from r);cases e;rfl
 | str x=>obtain ⟨t,e⟩:=(show ∃ t,u=J35 x t from r);cases e;rfl
 | byt b=>obtain ⟨t,e⟩:=(show ∃ t,u=J8j b t from r);cases e;rfl
 | flt b=>obtain ⟨t,e⟩:=(show ∃ t,u=J6j b t from r);cases e;rfl
 | ref a=>cases (show u=Q1 a from r);rfl
 | ty n=>cases (show u=J37 n from r);rfl
section
variable {P:Yas}{w:Yar}{H H':Hp}{h h':Heap}{a C dx:Addr}{fs fs':List (Str×V)}
theorem Jgk (hok:HOk P w H h) (e:H a=some (.ins C dx fs)):∃ mA,ObjM h a dx C mA/\(∀ f,Jdz (fs.lookup f) (mA f))/\J6l mA (fs.map (·.1))/\fs.length<=1000/\H dx=some (.own a):=by
 obtain ⟨d,z,ne,ob,mA,n,r,q⟩:=(show Y3 P w H h a (.ins C dx fs) from hok a _ e)
 exact ⟨mA,⟨ob,n,ne⟩,r,q,z,d⟩
end
structure Cls (K:Qc) (C:Addr):Prop where
 pg:J5h K C Str.empty=true
 hd:J6v K C=true
 po:J8o K C=true
 sa:Ui K (.ref C) "__setattr__" = some (some (.builtin "object.__setattr__"))
theorem Cls.get {K:Qc}{C:Addr}(c:Cls K C) (f:Str):J5h K C f=true:=c.pg
def NoAttr (K:Qc) (C:Addr) (f:Str):Prop:=Ui K (.ref C) f=some none
theorem NoAttr.taker {K:Qc}{C:Addr}{f:Str}(n:NoAttr K C f):J6x K C f=some none:=by
 unfold J6x
 rw [show Ui K (.ref C) f=some none from n]
 rfl
structure Meth (K:Qc) (C:Addr) (m:Str) (f:Addr):Prop where
 at_:Ui K (.ref C) m=some (some (.ref f))
 fn:J4e K (.ref f)=true
 kp:Uj K (.ref f)=true
section
variable {X:Cx}{pins:List (Addr×Obj)}{σ:St}{H:Hp}{s:Yap}{a C dx:Addr}{fs:List (Str×V)}{f:Str}{v:V}{A:Yat}{E:Yan->Yap->Prop}
theorem Jn9 {b:Bool}{Q:Yan->Yap->Prop}(I:Inv X pins σ H s) (e:H a=some (.ins C dx fs)) (c:Cls X.K C) (n:NoAttr X.K C f) (l:fs.lookup f=some v)
 (h:∀ u s',Inv X pins σ H s'->Yk v u->Q u s'):Yaq (model X.prog X.w) A (getAttr (.ref a) f b) Q E s:=by
 obtain ⟨mA,O,r,_,_,_⟩:=Jgk I.hok e
 obtain ⟨u,hu,ru⟩:=Jdz.some_of (v:=v) (o:=mA f) (by rw [<- l];exact r f)
 exact Jvt I.kIn O (c.get f) c.hd n hu (Jrc ru) (h u _ (I.tok _) ru)
theorem Joa {m:Str}{g:Addr}{pl:Sem Bool}{Q:Yan×List Yan->Yap->Prop}(I:Inv X pins σ H s) (e:H a=some (.ins C dx fs)) (c:Cls X.K C) (k:Meth X.K C m g) (l:fs.lookup m=none)
 (h:Q (.ref g,[.ref a]) s):Yaq (model X.prog X.w) A (getMethod (.ref a) m pl) Q E s:=by
 obtain ⟨mA,O,r,_,_,_⟩:=Jgk I.hok e
 have hn:mA m=none:=Jdz.none_of (by rw [<- l];exact r m)
 exact Js1 I.kIn O (c.get m) k.at_ k.fn hn h
theorem Job {y:V}{u:Yan}{Q:Unit->Yap->Prop}(I:Inv X pins σ H s) (e:H a=some (.ins C dx fs)) (c:Cls X.K C) (n:NoAttr X.K C f) (hl:fs.length<1000) (ry:Yk y u)
 (h:∀ s',Inv X pins σ (upd H a (.ins C dx (putF f y fs))) s'->Q () s'):Yaq (model X.prog X.w) A (setAttr (.ref a) f u) Q E s:=by
 obtain ⟨mA,O,r,wi,_,ho⟩:=Jgk I.hok e
 have hz:(fs.map (·.1)).length<=sizeLine:=by rw [Qb,Yau];omega
 refine Jvu I.kIn O c.sa c.po n.taker c.hd wi hz λ h' O' sb=>h _ ?_
 have hd:∃ o,h'.get? dx=some o:=let ⟨o,_,_,e',_⟩:=O'.ns;⟨o,e'⟩
 refine I.write (x:=a) (e:=dx) (by rw [e];exact U3) (.inr ho) (λ b q hb z=>(sb.2 b hb).trans z) hd ?_
 refine ⟨by rw [Jf O.ne];exact ho,?_,O.ne,O'.obj,_,O'.ns,λ g=>?_,λ g hg=>?_⟩
 . have:=Jfz f y fs;omega
 . show Jdz ((putF f y fs).lookup g) (if g=f then some u else mA g)
   rw [Jfy]
   by_cases q:g=f
   . rw [if_pos q,if_pos q];exact ry
   . rw [if_neg q,if_neg q];exact r g
 . by_cases q:g=f
   . rw [q];exact (Jfa f y fs).1
   . refine (Jfa f y fs).2 g (wi g λ z=>hg ?_)
     show (if g=f then some u else mA g)=none
     rw [if_neg q];exact z
theorem Inv.made (I:Inv X pins σ H s):Inv X pins σ (upd (upd H s.heap.objs.size (.own (s.heap.objs.size+1))) (s.heap.objs.size+1) (.ins C s.heap.objs.size []))
 { s with heap:=(s.heap.push U2).push (J3m C s.heap.objs.size) }:=by
 have e1:(s.heap.push U2).get? s.heap.objs.size=some U2:=Q9 s.heap rfl
 have e2:((s.heap.push U2).push (J3m C s.heap.objs.size)).get? (s.heap.objs.size+1)=some (J3m C s.heap.objs.size):=by
  have:=Q9 (s.heap.push U2) (o:=J3m C s.heap.objs.size) rfl
  rwa [Xw] at this
 have e3:(s.heap.push U2).Ns s.heap.objs.size (λ _=>none):=⟨U2,#[],_,e1,rfl,(λ e he=>absurd he (by simp)),λ _=>rfl⟩
 have I1:=I.laid (a:=s.heap.objs.size) (o:=.own (s.heap.objs.size+1)) (h':=s.heap.push U2) (t':=s.toks) (λ b u q=>Qu _ q) (Qn _) ⟨_,e1⟩
 refine I1.laid (a:=s.heap.objs.size+1) (o:=.ins C s.heap.objs.size []) (t':=s.toks) (λ b u q=>Qu _ q) (J5i (Xw _ _)) ?_
 have ne:s.heap.objs.size≠s.heap.objs.size+1:=Q8 (J4f _)
 refine ⟨by rw [Jf ne,Jg],Xo _,ne,e2,λ _=>none,(Heap.Ns1.of_empty e3).at λ o q=>Qu _ q,λ _=>U3,λ y hy=>absurd rfl hy⟩
theorem Jvv {prog:Yas}{w:Yar}{env:Env}{e:Expr}{f:Str}{pos:Pos}{s:Yap}{Q:Yan->Yap->Prop}(hb:Ybj e f env (eval e env)=eval e env)
 (h:Yaq (model prog w) A (eval e env) (λ o s₁=>Yaq (model prog w) A (getAttr o f true) Q E s₁) E s):Yaq (model prog w) A (eval (.Attribute e f pos) env) Q E s:=
 Attribute_any_ h (by rw [arm_eval_Attribute,hb])
end
def Joc (K:Qc) (ta:TE) (f:Str):TE:=λ σ H Q=>ta σ H λ x H1=>∃ a C dx fs v,x = .ref a/\H1 a=some (.ins C dx fs)/\Cls K C/\NoAttr K C f/\fs.lookup f=some v/\Q v H1
def Jvw (K:Qc) (ta tv:TE) (f:Str):TS:=λ D σ H=>tv σ H λ y H1=>ta σ H1 λ x H2=>∃ a C dx fs,x = .ref a/\H2 a=some (.ins C dx fs)/\Cls K C/\NoAttr K C f/\fs.length<1000 /\
 D.nx σ (upd H2 a (.ins C dx (putF f y fs)))
section
variable {X:Cx}{o e value:Expr}{f:Str}{pos pos' tpos:Pos}{ta tv:TE}
theorem Jzi (he:PE X e ta) (hb:Ybj e f X.env (eval e X.env)=eval e X.env):PE X (.Attribute e f pos) (Joc X.K ta f):=by
 intro pins s σ H Q I h
 refine Jvv hb (thn (he pins s σ H _ I h) λ u s1 ⟨x,H1,I1,rx,a,C,dx,fs,v,ex,ea,c,n,l,q⟩=>?_)
 subst ex
 obtain rfl:u=Q1 a:=rx
 exact Jn9 I1 ea c n l λ u' s2 I2 ru=>⟨v,H1,I2,ru,q⟩
theorem Jbd (ha:PE X o ta) (hv:PE X value tv) (hs:Ybg value (some (.Attribute o f pos')) pos.line X.env=pure false):PS X (.Assign [.Attribute o f pos'] value pos) (Jvw X.K ta tv f):=by
 intro pins s σ H D I h
 refine plainObj_wpAny_Assign_Attribute (thn (hv pins s σ H _ I h) λ u s1 ⟨y,H1,I1,ry,q⟩=>thn (ha pins s1 σ H1 _ I1 q) λ ov s2 ⟨x,H2,I2,rx,a,C,dx,fs,ex,ea,c,n,l,q2⟩=>?_) hs
 subst ex
 obtain rfl:ov=Q1 a:=rx
 exact Job I2 ea c n l ry λ s3 I3=>⟨σ,_,I3,q2⟩
end
section
variable {X:Cx}{pins:List (Addr×Obj)}{σ:St}{H:Hp}{s:Yap}{A:Yat}{E:Yan->Yap->Prop}{Q:Yan->Yap->Prop}{c:Yan}{b:Bool}
inductive TyOf (K:Qc) (H:Hp):V->Yan->Prop where
 | non:TyOf K H .non (.type "NoneType")
 | bl (x:Bool):TyOf K H (.bl x) (.type "bool")
 | int (i:Int):TyOf K H (.int i) (.type "int")
 | str (x:Str):TyOf K H (.str x) (.type "str")
 | flt (x:UInt64):TyOf K H (.flt x) (.type "float")
 | lst {a:Addr} {xs:List V} (e:H a=some (.lst xs)):TyOf K H (.ref a) (.type "list")
 | frz {a:Addr} {o:Obj} {xs:List V} (e:H a=some (.frz o (.lst xs))):TyOf K H (.ref a) (.type "list")
 | tup {a:Addr} {xs:List V} (e:H a=some (.tup xs)):TyOf K H (.ref a) (.type "tuple")
 | dK {a:Addr} {kvs:List (Key×V)} (e:H a=some (.dK kvs)):TyOf K H (.ref a) (.type "dict")
 | dT {a:Addr} {kvs:List (List Key×V)} (e:H a=some (.dT kvs)):TyOf K H (.ref a) (.type "dict")
 | ins {a C dx:Addr} {fs:List (Str×V)} (e:H a=some (.ins C dx fs)) (cl:Cls K C) (ha:Ui K (.ref C) "__class__" = some (some (.builtin "object.__class__")))
  (hn:PySem.W.specialIn K (.builtin "object.__class__") "__get__" = some (some (.builtin "getset_descriptor.__get__"))) (htk:PySem.W.takesIn K (.builtin "object.__class__")=some true)
  (hm:PySem.W.mroIn K C (.type "object")=some true):TyOf K H (.ref a) (.ref C)
theorem Jrd {x:V}{u t:Yan}(I:Inv X pins σ H s) (rx:Yk x u) (ty:TyOf X.K H x t) (e:J6z X.K t c=some b) (h:∀ tk,Q (.bool b) { s with toks:=tk }) :
 Yaq (model X.prog X.w) A (call (.builtin "isinstance") [u,c]) Q E s:=by
 cases ty with
 | non=>cases (show u=Ut from rx);exact Up PySem.W.kitx_none I.kIn U3 e (λ z=>nomatch z) h
 | bl y=>cases (show u=J36 y from rx);exact Up PySem.W.kitx_bool I.kIn U3 e (λ z=>nomatch z) h
 | int i=>obtain ⟨t,q⟩:=(show ∃ t,u=Us i t from rx);cases q;exact Up PySem.W.kitx_int I.kIn U3 e (λ z=>nomatch z) h
 | str y=>obtain ⟨t,q⟩:=(show ∃ t,u=J35 y t from rx);cases q;exact Up PySem.W.kitx_str I.kIn U3 e (λ z=>nomatch z) h
 | flt y=>obtain ⟨t,q⟩:=(show ∃ t,u=J6j y t from rx);cases q;exact Up PySem.W.kitx_float I.kIn U3 e (λ z=>nomatch z) h
 | @lst a xs ea=>
  cases (show u=Q1 a from rx)
  obtain ⟨_,_,n,_,h1⟩:=(show Y3 X.prog X.w H s.heap a (.lst xs) from I.hok a _ ea)
  exact Up J8p I.kIn ⟨_,h1,rfl⟩ e (λ z=>nomatch z) h
 | @frz a ob xs ea=>
  cases (show u=Q1 a from rx)
  obtain ⟨_,_,_,n,_,h1⟩:=(show Y3 X.prog X.w H s.heap a (.frz ob (.lst xs)) from I.hok a _ ea)
  exact Up J8p I.kIn ⟨_,h1,rfl⟩ e (λ z=>nomatch z) h
 | @tup a xs ea=>
  cases (show u=Q1 a from rx)
  obtain ⟨_,_,_,p⟩:=(show Y3 X.prog X.w H s.heap a (.tup xs) from I.hok a _ ea)
  obtain ⟨o,h1,h2,_⟩:=p
  exact Up PySem.W.kitx_tuple I.kIn ⟨o,h1,h2⟩ e (λ z=>nomatch z) h
 | @dK a kvs ea=>
  cases (show u=Q1 a from rx)
  obtain ⟨_,_,vs,_,p⟩:=(show Y3 X.prog X.w H s.heap a (.dK kvs) from I.hok a _ ea)
  obtain ⟨o,es,ep,h1,h2,_⟩:=p
  exact Up J8q I.kIn ⟨o,h1,h2.1⟩ e (λ z=>nomatch z) h
 | @dT a kvs ea=>
  cases (show u=Q1 a from rx)
  obtain ⟨_,_,xs,_,o,es,ep,h1,h2,_⟩:=(show Y3 X.prog X.w H s.heap a (.dT kvs) from I.hok a _ ea)
  exact Up J8q I.kIn ⟨o,h1,h2.1⟩ e (λ z=>nomatch z) h
 | @ins a C dx fs ea cl ha hn htk hm=>
  cases (show u=Q1 a from rx)
  obtain ⟨mA,O,_⟩:=Jgk I.hok ea
  obtain ⟨od,J,_⟩:=O.look
  exact Up (PySem.W.kitx_own (cl.get _) cl.hd ha hn htk hm) I.kIn J e (λ z=>nomatch z) h
end
structure Room (k:Nat) (A:Yat):Prop where
 hd:A.handled=none
 dp:A.depth+3*k+5<recursionLimit
 un:A.units+16*k+200<cLine
 gd:A.guards=some []
theorem Room.mono {j k:Nat}{A:Yat}(r:Room k A) (h:j<=k):Room j A:=⟨r.hd,by have:=r.dp;omega,by have:=r.un;omega,r.gd⟩
theorem Room.deeper {k:Nat}{A:Yat}(r:Room (k+1) A) (env:Env):Room k (A.deeper env):=
 ⟨r.hd,by have:=r.dp;show A.depth+1+3*k+5<_;omega,by have:=r.un;show A.units+3+16*k+200<_;omega,r.gd⟩
theorem Jod {A:Yat}{C:Addr}{us:List Yan}{kw:List (Str×Yan)}:(A.under (.builtin "type.__call__" ⟨.ref C::us,kw⟩)).depth=A.depth+1:=by
 first | rfl | simp [J5j,Code.weight,Code.isCreation,Code.isGuard,Code.isCaller,Code.frames,Code.isFrame,guardIds]
theorem Joe {A:Yat}{C:Addr}{us:List Yan}{kw:List (Str×Yan)}:(A.under (.builtin "type.__call__" ⟨.ref C::us,kw⟩)).units=A.units+1:=by
 first | rfl | simp [J5j,Code.cUnits,Code.frames,Code.isFrame]
theorem Room.make {k:Nat}{A:Yat}(r:Room (k+1) A) (C:Addr) (us:List Yan) (kw:List (Str×Yan)):Room k (A.under (.builtin "type.__call__" ⟨.ref C::us,kw⟩)):=
 ⟨r.hd,by have:=r.dp;rw [Jod];omega,by have:=r.un;rw [Joe];omega,by first | exact r.gd | (simpa [J5j,Code.guards,pushGuards,Code.isGuard,guardIds] using r.gd)⟩
theorem Room.depth {k:Nat}{A:Yat}(r:Room k A):A.depth<recursionLimit:=by have:=r.dp;omega
theorem Room.units {k:Nat}{A:Yat}(r:Room k A):A.units+64<cLine:=by have:=r.un;omega
def Jbx:TA:=λ _ H Q=>Q [] H
def Yj (ta:TE) (tr:TA):TA:=λ σ H Q=>ta σ H λ x H1=>tr σ H1 λ xs H2=>Q (x::xs) H2
section
variable {X:Cx}{e:Expr}{es:List Expr}{te:TE}{t:TA}{pos:Pos}
theorem Jc:PA X [] Jbx:=λ _ _ _ _ H Q I h=>J4g ⟨[],H,I,.nil,h⟩
theorem Vt (ha:PE X e te) (hr:PA X es t) (hs:starEach (e::es) X.env=(false,eval e X.env)::starEach es X.env:=by rfl):PA X (e::es) (Yj te t):=by
 intro pos pins s σ H Q I h
 rw [hs]
 show Yaq _ _ (spliced ((false,eval e X.env)::backTo pos (starEach es X.env))) _ _ s
 refine J38 (thn (ha pins s σ H _ I h) λ u s1 ⟨x,H1,I1,r1,q1⟩=>?_)
 exact thn (hr pos pins s1 σ H1 _ I1 q1) λ us s2 ⟨xs,H2,I2,r2,q2⟩=>⟨x::xs,H2,I2,.cons r1 r2,q2⟩
def Jvx (t:TA):TE:=λ σ H Q=>t σ H λ xs H1=>xs.length<=sizeLine/\∀ p,H1 p=none->Q (.ref p) (upd H1 p (.tup xs))
def Jzj (t:TA):TE:=λ σ H Q=>t σ H λ xs H1=>xs.length<=sizeLine/\∀ p,H1 p=none->Q (.ref p) (upd H1 p (.lst xs))
theorem Jzk {x1} (h:PA X es t):PE X (.Tuple es x1 pos) (Jvx t):=by
 intro pins s σ H Q I hq
 refine wpAny_Tuple_spliced (thn (h pos pins s σ H _ I hq) λ us s1 ⟨xs,H1,I1,r,z,q⟩=>⟨by rw [<- r.length];exact z,?_⟩)
 have hf:H1 s1.heap.objs.size=none:=I1.hok.fresh (Qn _)
 refine ⟨.ref s1.heap.objs.size,upd H1 s1.heap.objs.size (.tup xs),I1.laid (t':=s1.toks) (λ b u e=>Qu _ e) (Qn _) ?_,rfl,q _ hf⟩
 exact ⟨z,us,r,⟨_,Q9 _ rfl,rfl,_,rfl⟩⟩
theorem Jzl (h:PA X es t):PE X (.List es pos) (Jzj t):=by
 intro pins s σ H Q I hq
 refine wpAny_List_spliced (thn (h pos pins s σ H _ I hq) λ us s1 ⟨xs,H1,I1,r,z,q⟩=>⟨by rw [<- r.length];exact z,?_⟩)
 have hf:H1 s1.heap.objs.size=none:=I1.hok.fresh (Qn _)
 refine ⟨.ref s1.heap.objs.size,upd H1 s1.heap.objs.size (.lst xs),I1.laid (t':=s1.toks) (λ b u e=>Qu _ e) (Qn _) ?_,rfl,q _ hf⟩
 exact ⟨z,us,0,r,Q9 _ rfl⟩
end
abbrev Sp:=List V->Hp->VK->XK->Prop
abbrev CXT:=List Env->Hp->Yap->XK->Yan->Yap->Prop
structure Env0 (P:Yas) (w:Yar) (K:Qc) (mg:Str->Option Yan) (base:Heap) (A:Yat) (outer:List Env) (s:Yap) (H:Hp):Prop where
 frames:A.frames=some outer
 mod:Mod K mg base
 bs:∀ b o,base.get? b=some o->s.heap.get? b=some o/\H b=none
 bsz:base.objs.size<=s.heap.objs.size
 funs:s.heap.FunFrames base outer
 frf:∀ b∈frs outer,H b=none
 hok:HOk P w H s.heap
 bare:Ya4 s.gens
def CE (outer:List Env) (P:Yas) (w:Yar) (H:Hp) (s:Yap) (Q:VK) (u:Yan) (s':Yap):Prop:=
 ∃ v H',s'.os=s.os/\Ya4 s'.gens/\Un (frs outer) [] H H' s.heap s'.heap/\HOk P w H' s'.heap/\Yk v u/\Q v H'
def CR (CX:CXT) (outer:List Env) (P:Yas) (w:Yar) (H:Hp) (s:Yap) (Q:VK) (E:XK) (r:Ya8) (s':Yap):Prop:=
 match r with
 | .ok (.ret u)=>CE outer P w H s Q u s'
 | .ok _=>False
 | .error e=>CX outer H s E e s'
structure FnOk (P:Yas) (w:Yar) (K:Qc) (mg:Str->Option Yan) (base:Heap) (CX:CXT) (k:Nat) (f:Addr) (fd:Yaz) (ps:List Str) (sp:Sp):Prop where
 len:∀ vs H Q E,sp vs H Q E->vs.length=ps.length
 run:∀ (A:Yat) (outer:List Env) (s:Yap) (H:Hp) (args:Args) (us:List Yan) (vs:List V) (Q:VK) (E:XK),Room k A->Env0 P w K mg base A outer s H->Ybk s fd args (ps.zip us)->J9 vs us->sp vs H Q E ->
  Ya1 (model P w) A (.call (.ref f) args) (CR CX outer P w H s Q E) s
theorem FnOk.imp {P:Yas}{w:Yar}{K:Qc}{mg:Str->Option Yan}{base:Heap}{CX:CXT}{k:Nat}{f:Addr}{fd:Yaz}{ps:List Str}{sp sp':Sp}(F:FnOk P w K mg base CX k f fd ps sp)
 (h:∀ vs H Q E,sp' vs H Q E->sp vs H Q E):FnOk P w K mg base CX k f fd ps sp':=
 ⟨λ vs H Q E q=>F.len vs H Q E (h _ _ _ _ q),λ A outer s H args us vs Q E hr he hb hv hs=>F.run A outer s H args us vs Q E hr he hb hv (h _ _ _ _ hs)⟩
theorem Env0.make {P:Yas}{w:Yar}{K:Qc}{mg:Str->Option Yan}{base:Heap}{A:Yat}{outer:List Env}{s:Yap}{H:Hp}(e:Env0 P w K mg base A outer s H) (C:Addr) (us:List Yan) (kw:List (Str×Yan)) :
 Env0 P w K mg base (A.under (.builtin "type.__call__" ⟨.ref C::us,kw⟩)) outer s H:=⟨by first | exact e.frames | (simpa [J5j,Code.envs,Code.isFrame,pushEnvs] using e.frames),e.mod,e.bs,e.bsz,e.funs,e.frf,e.hok,e.bare⟩
section
variable {X:Cx}{pins:List (Addr×Obj)}{σ:St}{H:Hp}{s s':Yap}
theorem Inv.env0 (I:Inv X pins σ H s):Env0 X.prog X.w X.K X.mg X.base X.A X.stack s H:=
 ⟨I.ok.frames,I.ok.mod,I.bs,Xm I.ok.bsz I.sz,I.stack,I.stkFree,I.hok,I.bare⟩
theorem Inv.after {Q:VK}{u:Yan}(I:Inv X pins σ H s) (h:CE X.stack X.prog X.w H s Q u s'):EP X pins σ Q u s':=by
 obtain ⟨v,H',os,bare,un,hok,r,q⟩:=h
 obtain ⟨hh,g,d,t,os'⟩:=s'
 obtain rfl:os'=s.os:=os
 exact ⟨v,H',I.call (h':=hh) (g':=g) (d':=d) (t':=t) (ch:=[]) un hok bare (λ b z=>absurd z (by simp)),r,q⟩
end
def Jjh (sp:Sp) (dvs:List V) (E:XK) (t:TA):TE:=λ σ H Q=>t σ H λ vs H1=>sp (vs++dvs) H1 Q E
def Jji (C:Addr) (m:Str) (sp:Sp) (dvs:List V) (E:XK) (ta:TE) (t:TA):TE:=λ σ H Q=>ta σ H λ x H1=>∃ a dx fs,x = .ref a/\H1 a=some (.ins C dx fs)/\fs.lookup m=none /\
 t σ H1 λ vs H2=>sp (x::(vs++dvs)) H2 Q E
def Jxy (C:Addr) (sp:Sp) (dvs:List V) (E:XK) (t:TA):TE:=λ σ H Q=>t σ H λ vs H1=>∀ x dx,H1 x=none->H1 dx=none->dx≠x ->
 sp (.ref x::(vs++dvs)) (upd (upd H1 dx (.own x)) x (.ins C dx [])) (λ v H2=>v = .non/\Q (.ref x) H2) E
def Bu (K:Qc) (fd:Yaz) (ps:List Str) (ds:List Yan):Prop:=
 ∀ (s:Yap) (us:List Yan),K.In s.heap->(us++ds).length=ps.length->Ybk s fd ⟨us,[]⟩ (ps.zip (us++ds))
theorem Bu.all {K:Qc}{fd:Yaz}{ps:List Str}(h:∀ us:List Yan,us.length=ps.length->Ybl fd ⟨us,[]⟩=pure (ps.zip us)):Bu K fd ps []:=λ s us _ hl=>by
 rw [Uu] at hl ⊢
 exact .of_eq (h us hl)
def Jfb (CX:CXT) (X:Cx) (E:XK):Prop:=∀ (pins:List (Addr×Obj)) (σ:St) (H:Hp) (s:Yap) (e:Yan) (s':Yap),Inv X pins σ H s->CX X.stack H s E e s'->X.xe e s'
section
variable {X:Cx}{CX:CXT}{k:Nat}{f C:Addr}{fd:Yaz}{ps:List Str}{sp:Sp}{dvs:List V}{ds:List Yan}{E:XK}{x m:Str}{p pos apos:Pos}{e o:Expr}{es:List Expr}{ta:TE}{t:TA}
theorem Js3 {pins:List (Addr×Obj)}{σ:St}{H:Hp}{s:Yap}{Q:VK}{us:List Yan}{vs:List V}(F:FnOk X.prog X.w X.K X.mg X.base CX k f fd ps sp) (hr:Room k X.A) (hb:Bu X.K fd ps ds) (hd:J9 dvs ds) (hx:Jfb CX X E)
 (I:Inv X pins σ H s) (r:J9 vs us) (h:sp (vs++dvs) H Q E):Yaq (model X.prog X.w) X.A (call (.ref f) us) (EP X pins σ Q) X.xe s:=by
 have r2:J9 (vs++dvs) (us++ds):=r.append hd
 have hl:(us++ds).length=ps.length:=by rw [<- r2.length];exact F.len _ _ _ _ h
 refine wpAny_call (codeAny_mono (F.run X.A X.stack s H ⟨us,[]⟩ (us++ds) (vs++dvs) Q E hr I.env0 (hb s us I.kIn hl) r2 h) λ r s' hq=>?_)
 cases r with
 | error e=>exact hx pins σ H s e s' I hq
 | ok fl=>
  cases fl with
  | ret u=>exact I.after hq
  | next=>exact Ud hq
  | brk=>exact Ud hq
  | cont=>exact Ud hq
theorem Jvy (F:FnOk X.prog X.w X.K X.mg X.base CX k f fd ps sp) (hr:Room k X.A) (hg:Gl X x) (hm:X.mg x=some (.ref f)) (hk:Uj X.K (.ref f)=true) (hb:Bu X.K fd ps ds) (hd:J9 dvs ds) (hx:Jfb CX X E)
 (ha:PA X (e::es) t) (hdb:(x==("__debug__":Str))=false:=by decide) (he:starEach (e::es) X.env=(false,eval e X.env)::starEach es X.env:=by rfl) (hpl:(backTo pos (starEach es X.env)).any (·.1)=false:=by rfl) :
 PE X (.Call (.Name x p) (e::es) [] pos) (Jjh sp dvs E t):=by
 intro pins s σ H Q I h
 refine Ybb (Jpq I hg hm ?_ hdb)
 refine J60 (h₀:=X.base) I.ok.mod.kin hk (thn (ha pos pins s σ H _ I h) λ us s1 ⟨vs,H1,I1,r,q⟩=>⟨I1.kIn,?_⟩) he hpl
 exact Js3 F hr hb hd hx I1 r q
theorem Jvz {pl:Sem Bool}(he:PE X o ta) (c:Cls X.K C) (hm:Meth X.K C m f) (F:FnOk X.prog X.w X.K X.mg X.base CX k f fd ps sp) (hr:Room k X.A) (hb:Bu X.K fd ps ds) (hd:J9 dvs ds) (hx:Jfb CX X E) (ha:PA X (e::es) t)
 (hst:starEach (e::es) X.env=(false,eval e X.env)::starEach es X.env:=by rfl) (hpl:(backTo pos (starEach es X.env)).any (·.1)=false:=by rfl)
 (ht:eval (.Call (.Attribute o m apos) (e::es) [] pos) X.env=(do
  let ov <- eval o X.env
  Ya5 apos.atName
  let (f,first) <- holding [ov] (getMethod ov m pl)
  callWith pos f first (backTo pos (starEach (e::es) X.env)) (backToKw pos (keywordEach [] X.env))):=by rfl) :
 PE X (.Call (.Attribute o m apos) (e::es) [] pos) (Jji C m sp dvs E ta t):=by
 intro pins s σ H Q I h
 refine PySem.W.methodCall_KW (pl:=pl) (thn (he pins s σ H _ I h) λ u s1 ⟨x,H1,I1,rx,a,dx,fs,ex,ea,l,q⟩=>?_) ht
 subst ex
 obtain rfl:u=Q1 a:=rx
 refine Joa I1 ea c hm l ?_
 refine J60 (first:=[.ref a]) (h₀:=X.base) I.ok.mod.kin hm.kp (thn (ha pos pins s1 σ H1 _ I1 q) λ us s2 ⟨vs,H2,I2,r,q2⟩=>⟨I2.kIn,?_⟩) hst hpl
 exact Js3 (us:=.ref a::us) (vs:=.ref a::vs) F hr hb hd hx I2 (.cons rfl r) q2
structure Mk (K:Qc) (C f:Addr):Prop where
 makes:J6y K C=true
 init:Ui K (.ref C) "__init__" = some (some (.ref f))
 fn:J4e K (.ref f)=true
 kp:Uj K (.ref C)=true
theorem Js4 {pins:List (Addr×Obj)}{σ:St}{H:Hp}{s:Yap}{Q:VK}{us:List Yan}{vs:List V}(M:Mk X.K C f) (F:FnOk X.prog X.w X.K X.mg X.base CX k f fd ps sp) (hr:Room (k+1) X.A) (hb:Bu X.K fd ps ds) (hd:J9 dvs ds)
 (hx:Jfb CX X E) (I:Inv X pins σ H s) (r:J9 vs us)
 (h:∀ x dx,H x=none->H dx=none->dx≠x->sp (.ref x::(vs++dvs)) (upd (upd H dx (.own x)) x (.ins C dx [])) (λ v H2=>v = .non/\Q (.ref x) H2) E) :
 Yaq (model X.prog X.w) X.A (call (.ref C) us) (EP X pins σ Q) X.xe s:=by
 have hq:=h (s.heap.objs.size+1) s.heap.objs.size (I.hok.fresh (J61 _)) (I.hok.fresh (Qn _)) (Q8 (J4f _))
 have I2:=Inv.made (C:=C) I
 have r2:J9 (V.ref (s.heap.objs.size+1)::(vs++dvs)) (Q1 (s.heap.objs.size+1)::(us++ds)):=.cons rfl (r.append hd)
 have hl:(Q1 (s.heap.objs.size+1)::us++ds).length=ps.length:=by
  have e:=r2.length
  rw [F.len _ _ _ _ hq] at e
  exact e.symm
 refine wpAny_call (Js2 (f:=f) I.kIn M.makes M.init (beq_iff_eq.mp M.fn) (codeAny_mono (F.run _ X.stack _ _ ⟨Q1 (s.heap.objs.size+1)::us,[]⟩ (Q1 (s.heap.objs.size+1)::(us++ds)) _ _ E (hr.make C us [])
  (I2.env0.make C us []) (hb _ (Q1 (s.heap.objs.size+1)::us) I2.kIn hl) r2 hq) λ r s' hq'=>?_))
 cases r with
 | error e=>exact hx pins σ _ _ e s' I2 hq'
 | ok fl=>
  cases fl with
  | ret u=>
   obtain ⟨v,H',I3,rv,ev,q3⟩:=I2.after hq'
   subst ev
   exact ⟨rv,⟨V.ref (s.heap.objs.size+1),H',I3,rfl,q3⟩⟩
  | next=>exact Ud hq'
  | brk=>exact Ud hq'
  | cont=>exact Ud hq'
theorem Jv0 (M:Mk X.K C f) (F:FnOk X.prog X.w X.K X.mg X.base CX k f fd ps sp) (hr:Room (k+1) X.A) (hg:Gl X x) (hm:X.mg x=some (.ref C)) (hb:Bu X.K fd ps ds) (hd:J9 dvs ds) (hx:Jfb CX X E)
 (ha:PA X (e::es) t) (hdb:(x==("__debug__":Str))=false:=by decide) (he:starEach (e::es) X.env=(false,eval e X.env)::starEach es X.env:=by rfl) (hpl:(backTo pos (starEach es X.env)).any (·.1)=false:=by rfl) :
 PE X (.Call (.Name x p) (e::es) [] pos) (Jxy C sp dvs E t):=by
 intro pins s σ H Q I h
 refine Ybb (Jpq I hg hm ?_ hdb)
 refine J60 (h₀:=X.base) I.ok.mod.kin M.kp (thn (ha pos pins s σ H _ I h) λ us s1 ⟨vs,H1,I1,r,q⟩=>⟨I1.kIn,?_⟩) he hpl
 exact Js4 M F hr hb hd hx I1 r q
end
section
variable {X:Cx}{CX:CXT}{k:Nat}{f C:Addr}{fd:Yaz}{ps ks:List Str}{sp:Sp}{E:XK}{x m:Str}{p pos apos kpos:Pos}{e o:Expr}{es:List Expr}{kws:List Ya9}{te ta:TE}{t tk:TA}{nm:Option Str}
variable {g:List Yan->List Yan->List Yan}{gV:List V->List V->List V}
end
structure FnScope (N P:List Str) (sc:Yav):Prop where
 kind:sc.kind = .function
 co:sc.isCoroutine=false
 gen:sc.isGenerator=false
 nd:N.Nodup
 pre:N.take P.length=P
 par:∀ x∈P,sc.names.lookup x=some .local \/ sc.names.lookup x=some .cell
 nofree:∀ y∈sc.names,y.2≠.free
theorem Jjj {kindOf:Str->Option Yax}{x:Str}:∀ {binds:List (Str×Yan)}{m:Str->Option Yan},(∀ v,(x,v)∉binds)->bindL kindOf binds m x=m x
 | [],_,_=>rfl
 | (n,v)::r,m,h=>by
  unfold bindL
  rw [Jjj λ w hw=>h w (Qi _ hw)]
  split
  . have:x≠n:=by rintro rfl;exact h v Qh
    simp [this]
  . rfl
theorem Jjk {kindOf:Str->Option Yax}{x:Str}:∀ {binds:List (Str×Yan)}{m:Str->Option Yan},(∀ v,(x,v)∉binds)->bindC kindOf binds m x=m x
 | [],_,_=>rfl
 | (n,v)::r,m,h=>by
  unfold bindC
  rw [Jjk λ w hw=>h w (Qi _ hw)]
  split
  . rfl
  . have:x≠n:=by rintro rfl;exact h v Qh
    simp [this]
theorem Jjl {kindOf:Str->Option Yax}{x:Str}{v:Yan}:∀ {P:List Str}{vs:List Yan}{i:Nat}{m:Str->Option Yan},P.Nodup->P[i]? = some x->vs[i]? = some v->kindOf x=some .local ->
 bindL kindOf (P.zip vs) m x=some v
 | [],_,_,_,_,h,_,_=>by simp at h
 | _::_,[],_,_,_,_,h,_=>by simp at h
 | p::P,w::vs,0,m,nd,h1,h2,hk=>by
  simp at h1 h2;subst h1;subst h2
  show bindL kindOf ((p,w)::P.zip vs) m p=_
  unfold bindL
  rw [Jjj λ v hv=>(Xr.mp nd).1 (Uk hv).1,if_pos hk]
  simp
 | p::P,w::vs,i+1,m,nd,h1,h2,hk=>by
  show bindL kindOf ((p,w)::P.zip vs) m x=_
  unfold bindL
  exact Jjl (i:=i) (Xr.mp nd).2 (by simpa using h1) (by simpa using h2) hk
theorem Jjm {kindOf:Str->Option Yax}{x:Str}{v:Yan}:∀ {P:List Str}{vs:List Yan}{i:Nat}{m:Str->Option Yan},P.Nodup->P[i]? = some x->vs[i]? = some v->kindOf x≠some .local ->
 bindC kindOf (P.zip vs) m x=some v
 | [],_,_,_,_,h,_,_=>by simp at h
 | _::_,[],_,_,_,_,h,_=>by simp at h
 | p::P,w::vs,0,m,nd,h1,h2,hk=>by
  simp at h1 h2;subst h1;subst h2
  show bindC kindOf ((p,w)::P.zip vs) m p=_
  unfold bindC
  rw [Jjk λ v hv=>(Xr.mp nd).1 (Uk hv).1,if_neg hk]
  simp
 | p::P,w::vs,i+1,m,nd,h1,h2,hk=>by
  show bindC kindOf ((p,w)::P.zip vs) m x=_
  unfold bindC
  exact Jjm (i:=i) (Xr.mp nd).2 (by simpa using h1) (by simpa using h2) hk
noncomputable def start (N:List Str) (vs:List V):St:=vs.map some++Qo (N.length-vs.length) none
noncomputable def Jof (CX:CXT) (P:Yas) (w:Yar) (K:Qc) (mg:Str->Option Yan) (base:Heap) (N:List Str) (qual:Str) (scope:Yav) (f:Addr) (cd:Yan) (A:Yat) (outer:List Env) (s:Yap) (H:Hp) (E:XK):Cx where
 prog:=P
 w:=w
 K:=K
 mg:=mg
 base:=base
 A:=A.deeper (envOfC qual scope s.heap.objs.size f cd)
 N:=N
 s₀:=s
 H₀:=H
 env:=envOfC qual scope s.heap.objs.size f cd
 outer:=outer
 stack:=envOfC qual scope s.heap.objs.size f cd::outer
 ex:=[]
 calm:=true
 fn:=λ _=>true
 pn:=[]
 xe:=λ e s'=>Yaq (model P w) (A.deeper (envOfC qual scope s.heap.objs.size f cd)) (leaving (envOfC qual scope s.heap.objs.size f cd) e) (λ _ s''=>CX outer H s E e s'') (λ e' s''=>CX outer H s E e' s'') s'
theorem Jl2 {sc:Yav}{n:Nat}{x:Str}(h:sc.names.lookup x=some .cell):∃ c,(cellsFrom n sc.names []).lookup x=some c:=by
 have q:=J8r sc.names n [] (.inl h)
 exact Option.isSome_iff_exists.mp q
theorem Jre {CX:CXT}{P:Yas}{w:Yar}{K:Qc}{mg:Str->Option Yan}{base:Heap}{N ps:List Str}{qual:Str}{scope:Yav}{f:Addr}{cd:Yan}{A:Yat}{outer:List Env}{s s1:Yap}{H:Hp}{E:XK}{us:List Yan}{vs:List V}
 (S:FnScope N ps scope) (hd:A.handled=none) (e0:Env0 P w K mg base A outer s H) (hl:vs.length=ps.length) (r:J9 vs us)
 (x:InCallC s s.heap.objs.size (bindL (envOfC qual scope s.heap.objs.size f cd).kindOf (ps.zip us) λ _=>none) (cellsFrom (s.heap.objs.size+1) scope.names []) (bindC (envOfC qual scope s.heap.objs.size f cd).kindOf (ps.zip us) λ _=>none) s1) :
 Inv (Jof CX P w K mg base N qual scope f cd A outer s H E) [] (start N vs) H s1:=by
 have hpl:ps.length<=N.length:=by have:=congrArg J5k S.pre;rw [J5l] at this;omega
 obtain ⟨h1,tk,rfl,hk⟩:=x.done
 have noA:∀ b:Addr,b∉(Jof CX P w K mg base N qual scope f cd A outer s H E).ex:=λ b z=>absurd (show b∈([]:List Addr) from z) (by simp)
 refine ⟨⟨e0.mod,S.kind,rfl,rfl,Qn _,λ y z c h1 h2=>?_,λ y hy=>?_,λ y c _ h=>?_,λ _=>hd,Around.frames_deeper e0.frames,.inr ⟨rfl,rfl⟩,λ b z=>absurd z (noA b),e0.bs,e0.bsz,λ b _ _=>noA b,λ b z=>absurd z (noA b),e0.funs,e0.frf⟩,
  rfl,e0.bare,Un.kept hk,⟨_,x.toInCall.ns,λ i y v h1 h2 h3=>?_⟩,λ y c h=>⟨_,x.cell y c h⟩,e0.hok.fresh (Qn _),λ y c h=>?_,λ p hp=>absurd (show p∈([]:List (Addr×Obj)) from hp) (by simp),e0.hok.kept hk,?_⟩
 . exact name_of_addr x.apart (Xt h1) (Xt h2)
 . have hy:scope.names.lookup y=some .cell\/scope.names.lookup y=some .free:=hy
   rcases hy with hy | hy
   . exact Jl2 hy
   . exact absurd rfl (S.nofree _ (Xt hy))
 . exact Uc (x.above y c (Xt h))
 . have hi:i<vs.length:=by
    unfold start at h2
    by_cases hi:i<vs.length
    . exact hi
    . rw [J3n (by simpa using hi)] at h2
      rw [U4] at h2
      split at h2<;>cases h2
   have ha:vs[i]? = some v:=by
    unfold start at h2
    rw [Uv (by simpa using hi),Qj] at h2
    cases e:vs[i]? with
    | none=>rw [e] at h2;cases h2
    | some a=>rw [e] at h2;cases h2;rfl
   obtain ⟨u,hu,rv⟩:=r.get ha
   have hp:ps[i]? = some y:=by
    rw [<- S.pre,List.getElem?_take_of_lt (by omega)];exact h1
   have ndP:ps.Nodup:=by rw [<- S.pre];exact S.nd.sublist (List.take_sublist _ _)
   refine ⟨u,rv,?_⟩
   rcases S.par y (Xa hp) with k | k
   . exact .inl ⟨k,Jjl ndP hp hu k⟩
   . obtain ⟨c,e⟩:=Jl2 (n:=s.heap.objs.size+1) k
     refine .inr ⟨.inl k,c,e,?_⟩
     have q:=x.cell y c e
     rw [Jjm ndP hp hu (by show scope.names.lookup y≠_;rw [k];decide)] at q
     exact q
 . exact e0.hok.fresh (Uc (x.above y c (Xt h)))
 . unfold start
   show _=N.length
   rw [Xj,Qb,X5]
   omega
theorem Jxz {CX:CXT}{P:Yas}{w:Yar}{K:Qc}{mg:Str->Option Yan}{base:Heap}{k:Nat}{f:Addr}{name qual:Str}{params:Arguments}{body:List Stmt}{scope:Yav}{dV kV doc pm cdv ct oc:Yan}{an od:Option Addr}
 {osl:Array (Option Yan)} {N ps:List Str} {sp:Sp} (lk:K.lookup f=some ⟨oc,od,.func (X3 name qual params body scope dV kV doc pm an cdv ct),osl⟩) (hcd:J3o K cdv qual=true) (S:FnScope N ps scope)
 (len:∀ vs H Q E,sp vs H Q E->vs.length=ps.length)
 (hbody:∀ (A:Yat) (outer:List Env) (s:Yap) (H:Hp) (vs:List V) (Q:VK) (E:XK),Room k (A.deeper (envOfC qual scope s.heap.objs.size f cdv))->sp vs H Q E ->
  ∃ t,PSs (Jof CX P w K mg base N qual scope f cdv A outer s H E) body t/\t { nx:=λ _ H'=>Q .non H',rt:=Q } (start N vs) H) :
 FnOk P w K mg base CX (k+1) f (X3 name qual params body scope dV kV doc pm an cdv ct) ps sp:=by
 refine ⟨len,λ A outer s H args us vs Q E hr e0 hb r hsp=>?_⟩
 have hl:=len _ _ _ _ hsp
 have KX:K.In s.heap:=e0.mod.kin.keeps λ b o e=>(e0.bs b o e).1
 have lim:s.heap.NoLimit:=e0.mod.nolimit.keeps λ b o e=>(e0.bs b o e).1
 have hkind:∀ y∈ps.zip us,scope.names.lookup y.1=some .local \/ (scope.names.lookup y.1=some .cell/\((cellsFrom (s.heap.objs.size+1) scope.names []).lookup y.1).isSome=true):=λ ⟨n,v⟩ hy=>by
  rcases S.par n (Uk hy).1 with q | q
  . exact .inl q
  . exact .inr ⟨q,J8r _ _ _ (.inl q)⟩
 refine codeAny_call_function hr.depth (KX _ _ lk) rfl S.co S.gen rfl (PySem.W.codeRec_of KX hcd) (hb _ _ _ _ ?_)
 refine wpAny_newFunctionEnv_cells S.kind hkind λ env he s1 x=>?_
 subst he
 refine ⟨lim.keeps x.toInCall.keep,codeAny_func ?_⟩
 obtain ⟨t,ht,hq⟩:=hbody A outer s H vs Q E (hr.deeper _) hsp
 have I:Inv (Jof CX P w K mg base N qual scope f cdv A outer s H E) [] (start N vs) H s1:=Jre S hr.hd e0 hl r x
 refine wpAny_mono (ht [] s1 (start N vs) H _ I hq) (λ fl s' hs=>?_) λ e s' hs=>hs
 have fin:∀ {σ':St} {H':Hp} {v:V} {u:Yan},Inv (Jof CX P w K mg base N qual scope f cdv A outer s H E) [] σ' H' s'->Yk v u->Q v H'->CE outer P w H s Q u s':=
  λ {σ' H' v u} J rv q=>⟨v,H',J.os,J.bare,J.base,J.hok,rv,q⟩
 cases fl with
 | ret u=>
  obtain ⟨v,σ',H',J,rv,q⟩:=hs
  exact fin J rv q
 | next=>
  obtain ⟨σ',H',J,q⟩:=hs
  exact fin (v:=V.non) (u:=Ut) J rfl q
 | brk=>
  obtain ⟨_,_,_,q⟩:=hs
  exact Ud q
 | cont=>
  obtain ⟨_,_,_,q⟩:=hs
  exact Ud q
section
variable {X:Cx}{x:Str}{p pos:Pos}{e:Expr}{es:List Expr}{t:TA}{id T:String}{r:List V->Hp->VK->Prop}
def tCB (r:List V->Hp->VK->Prop) (t:TA):TE:=λ σ H Q=>t σ H λ vs H1=>r vs H1 Q
theorem J0 (hc:Vs X (.builtin id) r) (hg:Gl X x) (hm:X.mg x=none) (hv:Ybf x=some (.builtin id)) (ha:PA X (e::es) t) (hn:x≠"__name__":=by decide) (hdb:(x==("__debug__":Str))=false:=by decide)
 (he:starEach (e::es) X.env=(false,eval e X.env)::starEach es X.env:=by rfl) (hpl:(backTo pos (starEach es X.env)).any (·.1)=false:=by rfl):PE X (.Call (.Name x p) (e::es) [] pos) (tCB r t):=by
 intro pins s σ H Q I h
 refine Ybb (By I hg hm hv ?_ hn hdb)
 exact PyProof.Rows.callWith_builtin1 (thn (ha pos pins s σ H _ I h) λ us s1 ⟨vs,H1,I1,r1,q1⟩=>hc pins s1 σ H1 vs us Q I1 r1 q1) he hpl
theorem J6 (hc:Vs X (.type T) r) (hg:Gl X x) (hm:X.mg x=none) (hv:Ybf x=some (.type T)) (ha:PA X (e::es) t) (hn:x≠"__name__":=by decide) (hdb:(x==("__debug__":Str))=false:=by decide)
 (he:starEach (e::es) X.env=(false,eval e X.env)::starEach es X.env:=by rfl) (hpl:(backTo pos (starEach es X.env)).any (·.1)=false:=by rfl):PE X (.Call (.Name x p) (e::es) [] pos) (tCB r t):=by
 intro pins s σ H Q I h
 refine Ybb (By I hg hm hv ?_ hn hdb)
 exact U1 (thn (ha pos pins s σ H _ I h) λ us s1 ⟨vs,H1,I1,r1,q1⟩=>hc pins s1 σ H1 vs us Q I1 r1 q1) he hpl
end
end L2
namespace HT
open PySem PyProof.Rows
section
open PySem.SeqAt
open PySem.AutoSeq1 (wpAny_loadPart')
open PySem.MeetsSeq PySem.MeetsSeq2 PySem.MeetsSeq3
end
section
variable {prog:Yas}{w:Yar}{A:Yat}{E:Yan->Yap->Prop}{s:Yap}
noncomputable def sIx (n d:Nat):Option Int->Nat
 | none=>d
 | some v=>if v<0 then (v+(n:Int)).toNat else min v.toNat n
theorem sIx_none (n d:Nat):sIx n d none=d:=rfl
theorem sIx_nat (n d k:Nat):sIx n d (some (k:Int))=min k n:=by
 show (if (k:Int)<0 then ((k:Int)+(n:Int)).toNat else min (k:Int).toNat n)=min k n
 rw [if_neg (by omega),Q5]
end
end HT
namespace L2
abbrev TO:=St->Hp->(Option Int->Hp->Prop)->Prop
def PO (X:Cx) (e:Option Expr) (t:TO):Prop:=
 ∀ (pins:List (Addr×Obj)) (s:Yap) (σ:St) (H:Hp) (Q:Option Int->Hp->Prop),Inv X pins σ H s->t σ H Q ->
  Yaq (model X.prog X.w) X.A (evalPart e X.env) (λ u s'=>∃ o H',Inv X pins σ H' s'/\IsPart u o/\Q o H') X.xe s
def Jpy:TO:=λ _ H Q=>Q none H
def Jx0 (t:TE):TO:=λ σ H Q=>t σ H λ x H1=>∃ i,x = .int i/\Q (some i) H1
theorem Jdb {ns:List Int}:∀ {us:List Yan},J9 (ns.map V.int) us->Ybm us ns:=by
 induction ns with
 | nil=>intro us r;rw [J3w] at r;cases r;exact .nil
 | cons n ns ih=>
  intro us r
  rw [Q0] at r
  cases r with
  | cons r1 r2=>
   obtain ⟨t,e⟩:=r1
   subst e
   exact .cons n t (ih r2)
section
variable {X:Cx}{e:Expr}{te:TE}{lo hi:Option Expr}{tl th:TO}{pos p2:Pos}
theorem Jcn:PO X none Jpy:=by
 intro pins s σ H Q I h
 rw [evalPart_none]
 exact wpAny_pure ⟨none,H,I,.none,h⟩
theorem Jco (h:PE X e te):PO X (some e) (Jx0 te):=by
 intro pins s σ H Q I hw
 rw [evalPart_some]
 refine thn (h pins s σ H _ I hw) λ u s1 ⟨x,H1,I1,r1,q1⟩=>?_
 obtain ⟨i,rfl,q⟩:=q1
 obtain ⟨t,rfl⟩:=r1
 exact ⟨some i,H1,I1,.int i t,q⟩
def SlR (X:Cx) (r:V->Option Int->Option Int->Hp->VK->Prop):Prop:=
 ∀ (pins:List (Addr×Obj)) (s:Yap) (σ:St) (H:Hp) (x:V) (v vl vu:Yan) (lo hi:Option Int) (sl:Addr) (Q:VK),Inv X pins σ H s->Yk x v->s.heap.IsSliceOf sl vl vu .none->IsPart vl lo->IsPart vu hi->r x lo hi H Q ->
  ∃ T id,typeLookup (.type T) "__getitem__" = pure (some (.builtin id))/\s.TypeIs v T/\Yaq (model X.prog X.w) X.A (getItem v (.ref sl)) (EP X pins σ Q) X.xe s
def tSl (r:V->Option Int->Option Int->Hp->VK->Prop) (te:TE) (tl th:TO):TE:=λ σ H Q=>te σ H λ x H1=>tl σ H1 λ l H2=>th σ H2 λ u H3=>r x l u H3 Q
theorem Jaz {r:V->Option Int->Option Int->Hp->VK->Prop}(hr:SlR X r) (he:PE X e te) (hl:PO X lo tl) (hu:PO X hi th):PE X (.Subscript e (.Slice lo hi none p2) pos) (tSl r te tl th):=by
 intro pins s σ H Q I h
 refine Subscript_ (thn (he pins s σ H _ I h) λ v s1 ⟨x,H1,I1,r1,q1⟩=>?_)
 refine wpAny_Slice (thn (hl pins s1 σ H1 _ I1 q1) λ vl s2 ⟨l,H2,I2,pl,q2⟩=>thn (hu pins s2 σ H2 _ I2 q2) λ vu s3 ⟨u,H3,I3,pu,q3⟩=>?_)
 rw [evalPart_none]
 refine wpAny_pure ?_
 have I4:Inv X pins σ H3 { s3 with heap:=s3.heap.push { cls:=.type "slice",data:=.fields #[vl,vu,.none] } }:=I3.kept (t':=s3.toks) λ b ob q=>Qu _ q
 obtain ⟨T,id,hT,ht,hg⟩:=hr pins { s3 with heap:=s3.heap.push { cls:=.type "slice",data:=.fields #[vl,vu,.none] } } σ H3 x v vl vu l u s3.heap.objs.size Q I4 r1 (Yai ..) pl pu q3
 show Yaq (model X.prog X.w) X.A (subscriptTail e (.Slice lo hi none p2) v (.ref s3.heap.objs.size)) (EP X pins σ Q) X.xe { s3 with heap:=s3.heap.push { cls:=.type "slice",data:=.fields #[vl,vu,.none] } }
 exact tail_any (ops:=[.ref s3.heap.objs.size,v]) ht hT hg (by with_unfolding_all rfl)
noncomputable def Jl3 (xs:List V) (lo hi:Option Int):List V:=(xs.drop (HT.sIx xs.length 0 lo)).take (HT.sIx xs.length xs.length hi-HT.sIx xs.length 0 lo)
theorem Jf0 (xs:List V) (lo hi:Option Int):(Jl3 xs lo hi).length<=xs.length:=by
 unfold Jl3
 rw [J5l,J4h]
 omega
end
noncomputable def ixN (n:Nat) (i:Int):Option Nat:=if 0<=i then (if i<n then some i.toNat else none) else if -(n:Int)<=i then some (i+n).toNat else none
noncomputable def atI {α:Type}(xs:List α) (i:Int):Option α:=(ixN xs.length i).bind λ j=>xs[j]?
theorem Jpz {n:Nat}{i:Int}{j:Nat}(h:ixN n i=some j):seqIndex? i n=some j/\j<n/\-(n:Int)<=i/\i<n:=by
 unfold ixN at h
 by_cases h0:0<=i
 . rw [if_pos h0] at h
   by_cases h1:i<n
   . rw [if_pos h1] at h
     have e:i.toNat=j:=Xf h
     exact ⟨by rw [seqIndex_of h0 h1,e],by omega,by omega,h1⟩
   . rw [if_neg h1] at h;cases h
 . rw [if_neg h0] at h
   by_cases h1:-(n:Int)<=i
   . rw [if_pos h1] at h
     have e:(i+n).toNat=j:=Xf h
     exact ⟨by rw [Ybw (by omega) h1,e],by omega,h1,by omega⟩
   . rw [if_neg h1] at h;cases h
theorem Jp0 {α:Type}{xs:List α}{i:Int}{v:α}(h:atI xs i=some v):∃ j,seqIndex? i xs.length=some j/\xs[j]? = some v/\j<xs.length/\-(xs.length:Int)<=i/\i<xs.length:=by
 unfold atI at h
 cases e:ixN xs.length i with
 | none=>rw [e] at h;cases h
 | some j=>
  rw [e] at h
  obtain ⟨h1,h2,h3,h4⟩:=Jpz e
  exact ⟨j,h1,h,h2,h3,h4⟩
theorem Jj8 {α:Type}{xs:List α}{j:Nat}{v:α}(h:xs[j]? = some v):atI xs (j:Int)=some v:=by
 have hj:j<xs.length:=(Qq.mp h).1
 have e:ixN xs.length (j:Int)=some j:=by
  unfold ixN
  rw [if_pos (by omega),if_pos (by omega)];simp
 unfold atI;rw [e];exact h
def Jv1 (b:Expr):Prop:=∀ o i,subscripted b false o i=operate [o,i] (getItem o i)
def IxR (X:Cx) (r:R2):Prop:=
 ∀ (value slice:Expr) (pins:List (Addr×Obj)) (s:Yap) (σ:St) (H:Hp) (x y:V) (v u:Yan) (Q:VK),Inv X pins σ H s->Yk x v->Yk y u->r x y H Q ->
  subscripted slice false v u=operate [v,u] (getItem v u)->Yaq (model X.prog X.w) X.A (subscriptTail value slice v u) (EP X pins σ Q) X.xe s
def MtR (X:Cx) (id:String) (r:V->List V->Hp->VK->Prop):Prop:=
 ∀ (pins:List (Addr×Obj)) (s:Yap) (σ:St) (H:Hp) (x:V) (xs:List V) (v:Yan) (us:List Yan) (Q:VK),Inv X pins σ H s->Yk x v->J9 xs us->r x xs H Q ->
  Yaq (model X.prog X.w) X.A (call (.builtin id) (v::us)) (EP X pins σ Q) X.xe s
section
variable {X:Cx}{a b:Expr}{ta tb:TE}{pos:Pos}
theorem Jq {r:R2}(hr:IxR X r) (ha:PE X a ta) (hb:PE X b tb) (hs:Jv1 b):PE X (.Subscript a b pos) (tOp r ta tb):=by
 intro pins s σ H Q I h
 exact Subscript_ (Jzd ha hb I h λ v u s2 x y H2 I2 rx ry q=>hr a b pins s2 σ H2 x y v u Q I2 rx ry q (hs _ _))
def Jl4 (K:Qc):R2:=λ x y H Q=>∃ p xs i v,x = .ref p/\y = .int i/\SqL K H p xs/\atI xs i=some v/\Q v H
def Jzm (K:Qc):R2:=λ x y H Q=>∃ p xs i v,x = .ref p/\y = .int i/\SqT K H p xs/\atI xs i=some v/\Q v H
theorem Jt:IxR X (Jl4 X.K):=by
 intro value slice pins s σ H x y v u Q I rx ry h hs
 obtain ⟨p,xs,i,z,rfl,rfl,hq,he,q⟩:=h
 cases rx
 obtain ⟨t,rfl⟩:=ry
 obtain ⟨its,r,pl,hz⟩:=I.list hq
 obtain ⟨j,h1,h2,h3,h4,h5⟩:=Jp0 he
 obtain ⟨w,ew,rw'⟩:=r.get h2
 have hl:=r.length
 have hn:=Je9
 have fin:EP X pins σ Q w s:=⟨z,H,I,rw',q⟩
 by_cases h0:0<=i
 . have hj:i.toNat=j:=by
    rw [seqIndex_of h0 h5] at h1
    exact Xf h1
   exact item_listR pl.isList h0 (by omega) (by rw [hj];simpa using ew) fin hs
 . have hj:(i+(its.toArray.size:Int)).toNat=j:=by
    rw [Ybw (by omega) h4] at h1
    rw [Q7,<- hl]
    exact Xf h1
   exact Yb0 (x:=w) pl.isList.typeIs slot_list_getitem.lookup
    (wpAny_getItem_list_neg (Q:=λ r s'=>r=w/\EP X pins σ Q r s') pl.isList (by omega) (by rw [Q7]<;>omega) (by omega) (by rw [hj];simpa using ew) ⟨rfl,fin⟩) hs
theorem Ze:IxR X (Jzm X.K):=by
 intro value slice pins s σ H x y v u Q I rx ry h hs
 obtain ⟨p,xs,i,z,rfl,rfl,hq,he,q⟩:=h
 cases rx
 obtain ⟨t,rfl⟩:=ry
 obtain ⟨its,r,pl,hz⟩:=I.tuple hq
 obtain ⟨j,h1,h2,h3,h4,h5⟩:=Jp0 he
 obtain ⟨w,ew,rw'⟩:=r.get h2
 have hl:=r.length
 have hn:=Je9
 have fin:EP X pins σ Q w s:=⟨z,H,I,rw',q⟩
 exact Yb0 (x:=w) pl.typeIs slot_tuple_getitem.lookup
  (getItem_tuple (j:=j) (Q:=λ r s'=>r=w/\EP X pins σ Q r s') pl (by omega) (by omega) (by rw [Q7,<- hl];exact h1) (by simpa using ew) ⟨rfl,fin⟩) hs
theorem Jog (its:List Yan) (n j:Nat) (u:Yan):J4i (·.setIfInBounds j u) { cls:=.type "list",data:=.seq its.toArray n } = { cls:=.type "list",data:=.seq (its.set j u).toArray n }:=by
 simp [J4i]
theorem Inv.lst {pins:List (Addr×Obj)}{σ:St}{H:Hp}{s:Yap}{p:Addr}{xs:List V}(I:Inv X pins σ H s) (h:H p=some (.lst xs)) :
 ∃ (its:List Yan) (n:Nat),J9 xs its/\s.heap.get? p=some { cls:=.type "list",data:=.seq its.toArray n }/\xs.length<=sizeLine:=by
 obtain ⟨z,its,n,r,e⟩:=I.hok p _ h
 exact ⟨its,n,r,e,z⟩
theorem Inv.lstUpd {pins:List (Addr×Obj)}{σ:St}{H:Hp}{s:Yap}{p:Addr}{xs ys:List V}{its its':List Yan}{n n':Nat}{f:Obj->Obj}(I:Inv X pins σ H s) (h:H p=some (.lst xs))
 (ho:s.heap.get? p=some { cls:=.type "list",data:=.seq its.toArray n }) (hf:f { cls:=.type "list",data:=.seq its.toArray n } = { cls:=.type "list",data:=.seq its'.toArray n' }) (r:J9 ys its') (hz:ys.length<=sizeLine) (t:Nat) :
 Inv X pins σ (upd H p (.lst ys)) { s with heap:=s.heap.update p f,toks:=t }:=by
 have e:(s.heap.update p f).get? p=some { cls:=.type "list",data:=.seq its'.toArray n' }:=by
  rw [J5m f ho (by rw [hf]<;>rfl),hf]
 refine I.write (x:=p) (e:=p) (by rw [h];trivial) (.inl rfl) (λ b u hb q=>(U5 _ _ (Ql hb)).trans q) ⟨_,e⟩ ?_
 exact ⟨hz,its',n',r,e⟩
def Jf1:V->V->V->Hp->(Hp->Prop)->Prop:=λ o i v H Q=>∃ p xs k j,o = .ref p/\i = .int k/\H p=some (.lst xs)/\ixN xs.length k=some j/\Q (upd H p (.lst (xs.set j v)))
theorem Ys:Jy9 X Jf1:=by
 intro pins s σ H o i v ov iv u Q I ro ri rv h
 obtain ⟨p,xs,k,j,rfl,rfl,hp,hj,q⟩:=h
 cases ro
 obtain ⟨t,rfl⟩:=ri
 obtain ⟨its,n,r,ho,hz⟩:=I.lst hp
 obtain ⟨h1,h2,h3,h4⟩:=Jpz hj
 have hl:=r.length
 have hn:=Je9
 have I':Inv X pins σ (upd H p (.lst (xs.set j v))) { s with heap:=s.heap.update p (J4i (·.setIfInBounds j u)) }:=
  I.lstUpd hp ho (Jog its n j u) (r.set rv j) (by rw [Qr];exact hz) s.toks
 by_cases h0:0<=k
 . have hk:k.toNat=j:=by
    rw [seqIndex_of h0 h4] at h1
    exact Xf h1
   exact PySem.W.ki_setAt ho h0 (by omega) (by rw [Q7,<- hl];exact h4) (by rw [hk];exact ⟨_,I',q⟩)
 . have hk:(k+(its.toArray.size:Int)).toNat=j:=by
    rw [Ybw (by omega) h3] at h1
    rw [Q7,<- hl]
    exact Xf h1
   exact PySem.W.ki_setBack ho (by omega) (by rw [Q7,<- hl];exact h3) (by omega) (by rw [hk];exact ⟨_,I',q⟩)
theorem Jj9 (lo hi:Option Int) (n:Nat):(sliceBounds lo hi none n).1=((HT.sIx n 0 lo:Nat):Int)/\(sliceBounds lo hi none n).2.1=((HT.sIx n n hi:Nat):Int)/\(sliceBounds lo hi none n).2.2=1:=by
 refine ⟨?_,?_,rfl⟩
 . cases lo with
   | none=>simp [sliceBounds,HT.sIx]
   | some i=>
    simp only [sliceBounds,HT.sIx,Option.getD_none,show (1:Int)>0 by decide,if_true]
    by_cases h:i<0
    . simp only [h,if_true]<;>omega
    . simp only [h,if_false]<;>omega
 . cases hi with
   | none=>simp [sliceBounds,HT.sIx]
   | some i=>
    simp only [sliceBounds,HT.sIx,Option.getD_none,show (1:Int)>0 by decide,if_true]
    by_cases h:i<0
    . simp only [h,if_true]<;>omega
    . simp only [h,if_false]<;>omega
theorem Jiy (its:List Yan) (lo hi:Option Int):slicePick its.toArray lo hi none=((its.drop (HT.sIx its.length 0 lo)).take (HT.sIx its.length its.length hi-HT.sIx its.length 0 lo)).toArray:=by
 obtain ⟨h1,h2,h3⟩:=Jj9 lo hi its.toArray.size
 unfold slicePick
 rw [h1,h2,h3]
 simp only [sliceRange_one,pick_run,Q7]<;>rfl
def J08 (K:Qc):V->Option Int->Option Int->Hp->VK->Prop:=λ x lo hi H Q=>∃ a xs,x = .ref a/\SqL K H a xs/\∀ p,H p=none->Q (.ref p) (upd H p (.lst (Jl3 xs lo hi)))
theorem Jcp:SlR X (J08 X.K):=by
 intro pins s σ H x v vl vu lo hi sl Q I rx hs pl pu h
 obtain ⟨a,xs,rfl,hx,q⟩:=h
 cases rx
 obtain ⟨its,r,ht,hz⟩:=I.list hx
 have hlen:=r.length
 refine ⟨"list",_,slot_list_getitem.lookup,ht.isList.typeIs,?_⟩
 refine wpAny_getItem_list_slice ht.isList hs pl pu .none (by simp) ?_ (by rw [Q7]<;>omega)
 rw [Jiy,<- hlen]
 refine ⟨.ref s.heap.objs.size,_,I.laid (t':=s.toks) (o:=.lst (Jl3 xs lo hi)) (λ b ob q=>Qu _ q) (Qn _) ?_,rfl,q _ (I.hok.fresh (Qn _))⟩
 exact ⟨Xm (Jf0 xs lo hi) hz,_,0,(r.drop (HT.sIx xs.length 0 lo)).take (HT.sIx xs.length xs.length hi-HT.sIx xs.length 0 lo),Q9 _ rfl⟩
noncomputable def Jc3:V->Bool
 | .non=>true
 | .bl _=>true
 | .int _=>true
 | .str _=>true
 | _=>false
noncomputable def eqV:V->V->Bool
 | .non,.non=>true
 | .bl a,.bl b=>a==b
 | .bl a,.int b=>(if a then 1 else 0)==b
 | .int a,.bl b=>a==(if b then 1 else 0)
 | .int a,.int b=>a==b
 | .str a,.str b=>a==b
 | _,_=>false
theorem Jzn {A:Yat}{s:Yap}{y x:V}{u v:Yan}(ry:Yk y u) (rx:Yk x v) (fy:Jc3 y=true) (fx:Jc3 x=true):SeqAt.EqAt A s u v (eqV y x):=by
 cases y with
 | non=>
  cases ry
  cases x with
  | non=>cases rx;exact SeqAt.EqAt.same _
  | bl b=>cases rx;exact SeqAt.EqAt.none_bool b
  | int b=>obtain ⟨t,rfl⟩:=rx;exact SeqAt.EqAt.none_int b t
  | str b=>obtain ⟨t,rfl⟩:=rx;exact SeqAt.EqAt.none_str b t
  | _=>exact absurd (show false=true from fx) Q2
 | bl a=>
  cases ry
  cases x with
  | non=>cases rx;exact SeqAt.EqAt.bool_none a
  | bl b=>cases rx;exact SeqAt.EqAt.bool_bool a b
  | int b=>obtain ⟨t,rfl⟩:=rx;exact SeqAt.EqAt.bool_int a b t
  | str b=>obtain ⟨t,rfl⟩:=rx;exact SeqAt.EqAt.bool_str a b t
  | _=>exact absurd (show false=true from fx) Q2
 | int a=>
  obtain ⟨t',rfl⟩:=ry
  cases x with
  | non=>cases rx;exact SeqAt.EqAt.int_none a t'
  | bl b=>cases rx;exact SeqAt.EqAt.int_bool a t' b
  | int b=>obtain ⟨t,rfl⟩:=rx;exact SeqAt.EqAt.int_int a t' b t
  | str b=>obtain ⟨t,rfl⟩:=rx;exact J8h a t' b t
  | _=>exact absurd (show false=true from fx) Q2
 | str a=>
  obtain ⟨t',rfl⟩:=ry
  cases x with
  | non=>cases rx;exact SeqAt.EqAt.str_none a t'
  | bl b=>cases rx;exact SeqAt.EqAt.str_bool a t' b
  | int b=>obtain ⟨t,rfl⟩:=rx;exact J8i a t' b t
  | str b=>obtain ⟨t,rfl⟩:=rx;exact SeqAt.EqAt.str_str a t' b t
  | _=>exact absurd (show false=true from fx) Q2
 | _=>exact absurd (show false=true from fy) Q2
noncomputable def eqU (x:V) (u:Yan):Bool:=match u with
 | .none=>eqV .non x
 | .bool b=>eqV (.bl b) x
 | .int i _=>eqV (.int i) x
 | .str z _=>eqV (.str z) x
 | _=>false
theorem Js5 {x y:V}{u:Yan}(r:Yk y u) (f:Jc3 y=true):eqU x u=eqV y x:=by
 cases y with
 | non=>cases r;rfl
 | bl b=>cases r;rfl
 | int i=>obtain ⟨t,rfl⟩:=r;rfl
 | str z=>obtain ⟨t,rfl⟩:=r;rfl
 | _=>exact absurd (show false=true from f) Q2
theorem Jd4 {x:V}:∀ {xs:List V}{us:List Yan},J9 xs us->xs.all Jc3=true->us.any (eqU x)=xs.any λ y=>eqV y x
 | _,_,.nil,_=>rfl
 | y::xs,u::us,.cons r t,f=>by
  rw [J4j,Xx] at f
  rw [J3x,J3x,Js5 r f.1,Jd4 t f.2]
theorem Jb4 {A:Yat}{s:Yap}{x:V}{v:Yan}(rx:Yk x v) (fx:Jc3 x=true):∀ {xs:List V}{us:List Yan},J9 xs us->xs.all Jc3=true->∀ u∈us,SeqAt.EqAt A s u v (eqU x u)
 | _,_,.nil,_=>λ u hu=>by cases hu
 | y::xs,u::us,.cons r t,f=>λ u' hu=>by
  rw [J4j,Xx] at f
  rcases Qf.mp hu with rfl | hu
  . rw [Js5 r f.1];exact Jzn r rx f.1 fx
  . exact Jb4 rx fx t f.2 u' hu
noncomputable def inV (x:V) (xs:List V):Bool:=xs.any λ y=>eqV y x
def rIn (K:Qc) (neg:Bool):R2:=λ x y H Q=>∃ p xs,y = .ref p/\(SqL K H p xs\/SqT K H p xs)/\Jc3 x=true/\xs.all Jc3=true/\Q (.bl (if neg then !inV x xs else inV x xs)) H
theorem Jfc:OpR X (compareOp .In) (rIn X.K false):=by
 intro pins s σ H x y v u Q I rx ry h
 obtain ⟨p,xs,rfl,hq,fx,fs,q⟩:=h
 cases ry
 rcases hq with hq | hq
 . obtain ⟨its,r,pl,hz⟩:=I.list hq
   refine SeqAt.in_listAt (eqU x) pl.isList (λ w hw=>Jb4 rx fx r fs w (by simpa using hw)) ⟨.bl _,H,I,rfl,?_⟩
   rw [show its.toArray.any (eqU x)=its.any (eqU x) by simp,Jd4 r fs]
   exact q
 . obtain ⟨its,r,pl,hz⟩:=I.tuple hq
   refine SeqAt.in_tupleAt (eqU x) pl (λ w hw=>Jb4 rx fx r fs w (by simpa using hw)) ⟨.bl _,H,I,rfl,?_⟩
   rw [show its.toArray.any (eqU x)=its.any (eqU x) by simp,Jd4 r fs]
   exact q
theorem Jka:OpR X (compareOp .NotIn) (rIn X.K true):=by
 intro pins s σ H x y v u Q I rx ry h
 obtain ⟨p,xs,rfl,hq,fx,fs,q⟩:=h
 cases ry
 rcases hq with hq | hq
 . obtain ⟨its,r,pl,hz⟩:=I.list hq
   refine SeqAt.notIn_listAt (eqU x) pl.isList (λ w hw=>Jb4 rx fx r fs w (by simpa using hw)) ⟨.bl _,H,I,rfl,?_⟩
   rw [show its.toArray.any (eqU x)=its.any (eqU x) by simp,Jd4 r fs]
   exact q
 . obtain ⟨its,r,pl,hz⟩:=I.tuple hq
   refine SeqAt.notIn_tupleAt (eqU x) pl (λ w hw=>Jb4 rx fx r fs w (by simpa using hw)) ⟨.bl _,H,I,rfl,?_⟩
   rw [show its.toArray.any (eqU x)=its.any (eqU x) by simp,Jd4 r fs]
   exact q
theorem Yi:Vs X (.builtin "len") (λ xs H Q=>∃ p ys,xs=[.ref p]/\(SqL X.K H p ys\/SqT X.K H p ys)/\Q (.int ys.length) H):=by
 intro pins s σ H xs us Q I r h
 obtain ⟨p,ys,rfl,hq,q⟩:=h
 obtain ⟨u,rfl,rx⟩:=Jah r
 cases rx
 have hn:=Je9
 rcases hq with hq | hq
 . obtain ⟨its,r',pl,hz⟩:=I.list hq
   have hlen:=r'.length
   exact Calls.call_len_list pl.isList (by simp only [Q7]<;>omega) ⟨.int ys.length,H,I.tok _,⟨s.toks+1,by rw [Q7,hlen]⟩,q⟩
 . obtain ⟨its,r',pl,hz⟩:=I.tuple hq
   have hlen:=r'.length
   exact len_tuple pl (by simp only [Q7]<;>omega) ⟨.int ys.length,H,I.tok _,⟨s.toks+1,by rw [Q7,hlen]⟩,q⟩
theorem Z6:Vs X (.type "list") (λ xs H Q=>∃ p ys,xs=[.ref p]/\(SqL X.K H p ys\/SqT X.K H p ys)/\∀ l,H l=none->Q (.ref l) (upd H l (.lst ys))):=by
 intro pins s σ H xs us Q I r h
 obtain ⟨p,ys,rfl,hq,q⟩:=h
 obtain ⟨u,rfl,rx⟩:=Jah r
 cases rx
 have fin:∀ (its:List Yan),J9 ys its->ys.length<=sizeLine->∀ (h':Heap) (c':Nat),(∀ b o',s.heap.get? b=some o'->h'.get? b=some o') ->
  h'.get? s.heap.objs.size=some { cls:=.type "list",dict:=none,data:=.seq its.toArray c',slots:=#[] }->EP X pins σ Q (.ref s.heap.objs.size) { s with heap:=h' }:=λ its r' hz h' c' kp e=>
  ⟨.ref s.heap.objs.size,_,I.laid (t':=s.toks) kp (Qn _) (show Y3 X.prog X.w _ h' _ (.lst ys) from ⟨hz,its,c',r',e⟩),rfl,q _ (I.hok.fresh (Qn _))⟩
 rcases hq with hq | hq
 . obtain ⟨its,r',pl,hz⟩:=I.list hq
   have hlen:=r'.length
   obtain ⟨o,ho,hc,n,hd⟩:=pl.isList
   exact call_list_seq p (.inl rfl) ho hc hd (λ h' c' kp e=>fin its r' hz h' c' kp e) (by simp only [Q7]<;>omega)
 . obtain ⟨its,r',pl,hz⟩:=I.tuple hq
   have hlen:=r'.length
   obtain ⟨o,ho,hc,n,hd⟩:=pl
   exact call_list_seq p (.inr rfl) ho hc hd (λ h' c' kp e=>fin its r' hz h' c' kp e) (by simp only [Q7]<;>omega)
theorem Yg:Vs X (.type "tuple") (λ xs H Q=>∃ p ys,xs=[.ref p]/\((SqL X.K H p ys/\∀ l,H l=none->Q (.ref l) (upd H l (.tup ys)))\/(SqT X.K H p ys/\Q (.ref p) H))):=by
 intro pins s σ H xs us Q I r h
 obtain ⟨p,ys,rfl,h⟩:=h
 obtain ⟨u,rfl,rx⟩:=Jah r
 cases rx
 rcases h with ⟨hq,q⟩ | ⟨hq,q⟩
 . obtain ⟨its,r',pl,hz⟩:=I.list hq
   have hlen:=r'.length
   refine call_tuple_list pl.isList (λ h' kp=>?_) (by simp only [Q7]<;>omega)
   have I1:Inv X pins σ H { s with heap:=h' }:=I.kept (t':=s.toks) kp
   have I2:Inv X pins σ (upd H h'.objs.size (.tup ys)) { s with heap:=h'.push { cls:=.type "tuple",data:=.seq its.toArray } }:=
    I1.laid (t':=s.toks) (λ b o e=>Qu _ e) (Qn _) (show Y3 X.prog X.w _ _ _ (.tup ys) from ⟨hz,its,r',IsTup.new _ _⟩)
   exact ⟨.ref h'.objs.size,_,I2,rfl,q _ (I1.hok.fresh (Qn _))⟩
 . obtain ⟨its,r',pl,hz⟩:=I.tuple hq
   exact call_tuple_same pl ⟨.ref p,H,I,rfl,q⟩
def tyV (K:Qc) (T:String) (x:V) (H:Hp):Prop:=match x with
 | .str _=>T = "str"
 | .int _=>T = "int"
 | .ref p=>(T = "list"/\∃ xs,SqL K H p xs)\/(T = "tuple"/\∃ o,K.lookup p=some o/\o.cls = .type "tuple"/\o.dict=none) \/
  (T = "dict"/\((∃ kvs,H p=some (.dK kvs))\/∃ kvs,H p=some (.dT kvs)))\/(T = "set"/\∃ S n,H p=some (.set S n))
 | _=>False
theorem Jzo {pins:List (Addr×Obj)}{σ:St}{H:Hp}{s:Yap}{T:String}{x:V}{v:Yan}(I:Inv X pins σ H s) (r:Yk x v) (ty:tyV X.K T x H) :
 s.TypeIs v T/\∀ a,v = .ref a->∃ ob,s.heap.get? a=some ob/\ob.dict=none:=by
 cases x with
 | str z=>
  obtain ⟨t,rfl⟩:=r
  cases (show T = "str" from ty)
  exact ⟨typeIs_str s z t,λ _ e=>nomatch e⟩
 | int i=>
  obtain ⟨t,rfl⟩:=r
  cases (show T = "int" from ty)
  exact ⟨typeIs_int s i t,λ _ e=>nomatch e⟩
 | ref p=>
  cases r
  rcases ty with ⟨rfl,xs,hq⟩ | ⟨rfl,o,hk,hc,hd⟩ | ⟨rfl,hk⟩ | ⟨rfl,S,n,hk⟩
  . obtain ⟨its,_,pl,_⟩:=I.list hq
    refine ⟨pl.isList.typeIs,λ a e=>?_⟩
    cases e
    obtain ⟨o,n,e,c,hd,_⟩:=pl
    exact ⟨o,e,hd⟩
  . refine ⟨⟨o,I.kIn p o hk,hc⟩,λ a e=>?_⟩
    cases e
    exact ⟨o,I.kIn _ o hk,hd⟩
  . have z:∃ o,s.heap.get? p=some o/\o.ExactDict:=by
     rcases hk with ⟨kvs,hk⟩ | ⟨kvs,hk⟩
     . obtain ⟨_,_,_,_,o,_,_,e,ex,_⟩:=I.hok p _ hk
       exact ⟨o,e,ex⟩
     . obtain ⟨_,_,_,_,o,_,_,e,ex,_⟩:=I.hok p _ hk
       exact ⟨o,e,ex⟩
    obtain ⟨o,e,ex⟩:=z
    refine ⟨⟨o,e,ex.1⟩,λ a e2=>?_⟩
    cases e2
    exact ⟨o,e,ex.2.1⟩
  . obtain ⟨o,_,_,_,e,ex,_⟩:=I.hok p _ hk
    refine ⟨⟨o,e,ex.1⟩,λ a e2=>?_⟩
    cases e2
    exact ⟨o,e,ex.2.1⟩
 | _=>exact Ud ty
def tBM (K:Qc) (T:String) (r:V->List V->Hp->VK->Prop) (to:TE) (t:TA):TE:=λ σ H Q=>to σ H λ x H1=>tyV K T x H1/\t σ H1 λ xs H2=>r x xs H2 Q
variable {o e:Expr}{es:List Expr}{to:TE}{t:TA}{name:Str}{apos cpos:Pos}{T id:String}{r:V->List V->Hp->VK->Prop}
theorem Jl5 (pa:PlainAttrs T) (slot:Slot T name id) (hty:typeOf (.builtin id)=pure (.type "method_descriptor")) (hm:MtR X id r) (ho:PE X o to) (ha:PA X (e::es) t)
 (hbase:Ybj o name X.env (eval o X.env)=eval o X.env:=by rfl)
 (hfew:((backTo cpos (starEach (e::es) X.env)).all (λ x=>!x.1)&&(backToKw cpos (keywordEach [] X.env)).all (λ x=>x.1.isSome)
  && decide ((e::es).length+([]:List Ya9).length+(if ([]:List Ya9).isEmpty then 0 else 1)<30))=true:=by rfl)
 (hline:(apos.endLine==cpos.line)=true:=by rfl) (hs:starEach (e::es) X.env=(false,eval e X.env)::starEach es X.env:=by rfl) (hplain:(backTo cpos (starEach es X.env)).any (·.1)=false:=by rfl) :
 PE X (.Call (.Attribute o name apos) (e::es) [] cpos) (tBM X.K T r to t):=by
 intro pins s σ H Q I h
 refine wpAny_Call_method_late hbase hfew hline rfl (thn (ho pins s σ H _ I h) λ v s1 ⟨x,H1,I1,r1,ty,q1⟩=>?_)
 obtain ⟨h1,h2⟩:=Jzo I1 r1 ty
 refine ⟨T,id,pa,slot,hty,h1,h2,?_⟩
 have hA:=ha cpos pins s1 σ H1 _ I1 q1
 rw [hs] at hA ⊢
 refine J62 (by show (false||(backTo cpos (starEach es X.env)).any (·.1))=false;rw [hplain]<;>rfl) (J8s ?_)
 exact thn hA λ us s2 ⟨vs,H2,I2,r2,q2⟩=>hm pins s2 σ H2 x vs v us Q I2 r1 r2 q2
end
def MtM (X:Cx) (id:String) (r:V->List V->Hp->VK->Prop):Prop:=
 ∀ (pins:List (Addr×Obj)) (s:Yap) (σ:St) (H:Hp) (x:V) (xs:List V) (v:Yan) (us:List Yan) (Q:VK),Inv X pins σ H s->Yk x v->J9 xs us->r x xs H Q ->
  Yaq (model X.prog X.w) X.A (call (.builtin id) (v::us)) (EP X pins σ Q) X.xe s
theorem J9.one:∀ {x:V}{us:List Yan},J9 [x] us->∃ u,us=[u]/\Yk x u
 | _,_,.cons r .nil=>⟨_,rfl,r⟩
theorem J9.rep {xs:List V}{us:List Yan}(h:J9 xs us):∀ k:Nat,J9 (Qo k xs).flatten (Qo k us).flatten
 | 0=>.nil
 | k+1=>by
  rw [U6,U6,J3y,J3y]
  exact J9.append h (J9.rep h k)
theorem Jcq (its:List Yan):∀ (k:Nat) (acc:List Yan),
 J4k (λ x1 x2=>x1++x2) acc.toArray (Qo k its.toArray)=(acc++(Qo k its).flatten).toArray
 | 0,acc=>by simp
 | k+1,acc=>by
  have e:acc.toArray++its.toArray=(acc++its).toArray:=by simp
  have e2:(acc++its)++(Qo k its).flatten=acc++(Qo (k+1) its).flatten:=by
   rw [U6,J3y,J8t]
  rw [<- e2,<- Jcq its k (acc++its),<- e,U6,J63]
section
variable {X:Cx}{pins:List (Addr×Obj)}{σ:St}{H:Hp}{s:Yap}{l b:Addr}{xs ys zs:List V}
theorem Inv.lset {its its':List Yan}{n:Nat}{f:Array Yan->Array Yan}{t':Nat}(I:Inv X pins σ H s) (hH:H l=some (.lst xs))
 (e:s.heap.get? l=some { cls:=.type "list",data:=.seq its.toArray n }) (hf:f its.toArray=its'.toArray) (hv:J9 ys its') (hz:ys.length<=sizeLine) :
 Inv X pins σ (upd H l (.lst ys)) { s with heap:=s.heap.update l (J4i f),toks:=t' }:=by
 have q:=PySem.IsL.update e f
 rw [hf] at q
 refine I.write (x:=l) (e:=l) (by rw [hH];exact trivial) (.inl rfl) (λ b' u hb hu=>(U5 s.heap (J4i f) (Ql hb)).trans hu) ⟨_,q⟩ ?_
 exact ⟨hz,its',_,hv,q⟩
theorem Inv.lnew {its:List Yan}{t':Nat}(I:Inv X pins σ H s) (hv:J9 ys its) (hz:ys.length<=sizeLine) :
 Inv X pins σ (upd H s.heap.objs.size (.lst ys)) { s with heap:=s.heap.push { cls:=.type "list",data:=.seq its.toArray },toks:=t' }:=
 I.laid (λ _ _ q=>Qu _ q) (Qn _) ⟨hz,its,0,hv,Q9 _ rfl⟩
theorem Inv.fresh (I:Inv X pins σ H s):H s.heap.objs.size=none:=I.hok.fresh (Qn _)
theorem Inv.lstM (I:Inv X pins σ H s) (hH:H l=some (.lst xs)):xs.length<=sizeLine/\∃ (its:List Yan) (n:Nat),J9 xs its/\xs.length=its.length/\s.heap.get? l=some { cls:=.type "list",data:=.seq its.toArray n }:=by
 obtain ⟨z,its,n,r,e⟩:=I.hok l _ hH
 exact ⟨z,its,n,r,r.length,e⟩
theorem Jl6 {n:Nat}(h:n<=sizeLine):J5n n=false:=by
 unfold J5n
 exact decide_eq_false (by omega)
end
section
variable {X:Cx}
def Jkb:V->List V->Hp->VK->Prop:=λ x vs H Q=>∃ l xs y,x = .ref l/\vs=[y]/\H l=some (.lst xs)/\xs.length<sizeLine/\Q .non (upd H l (.lst (xs++[y])))
theorem V6:MtM X "list.append" Jkb:=by
 intro pins s σ H x vs v us Q I rx rv h
 obtain ⟨l,xs,y,rfl,rfl,hH,hz,q⟩:=h
 cases rx
 obtain ⟨u,rfl,ru⟩:=rv.one
 obtain ⟨z,its,n,r,hl,e⟩:=I.lstM hH
 refine call_meets F.slot_list_append ⟨_,e,rfl⟩ F.entry_list_append (F.args_list_append_2 _ _) (PySem.list_append l its.toArray n u (by rw [Q7];omega)) ⟨e,?_⟩
 refine ⟨.non,_,I.lset (its':=its++[u]) hH e (by simp) (r.append (.cons ru .nil)) ?_,rfl,q⟩
 rw [Xj,Uw]
 omega
def J09:R2:=λ x y H Q=>∃ l b xs zs,x = .ref l/\y = .ref b/\H l=some (.lst xs)/\H b=some (.lst zs)/\xs.length+zs.length<=sizeLine/\∀ p,H p=none->Q (.ref p) (upd H p (.lst (xs++zs)))
theorem Jkc:OpR X (binaryOp .Add) J09:=by
 intro pins s σ H x y v u Q I rx ry h
 obtain ⟨l,b,xs,zs,rfl,rfl,hH,hB,hz,q⟩:=h
 cases rx
 cases ry
 obtain ⟨z,its,n,r,hl,e⟩:=I.lstM hH
 obtain ⟨z2,its2,n2,r2,hl2,e2⟩:=I.lstM hB
 refine PySem.P.add_list e e2 ?_ (by rw [Q7,Q7];omega)
 have ea:its.toArray++its2.toArray=(its++its2).toArray:=by simp
 rw [ea]
 exact ⟨.ref _,_,I.lnew (t':=s.toks) (r.append r2) (by rw [Xj];omega),rfl,q _ I.fresh⟩
def J1a:R2:=λ x y H Q=>∃ l k xs,x = .ref l/\y = .int k/\H l=some (.lst xs)/\-(2^63)<=k/\k<2^63/\xs.length*k.toNat<=sizeLine /\
 ∀ p,H p=none->Q (.ref p) (upd H p (.lst (Qo k.toNat xs).flatten))
theorem Jd5 {α:Type}(xs:List α) (k:Nat):(Qo k xs).flatten.length=k*xs.length:=by
 induction k with
 | zero=>simp
 | succ k ih=>rw [U6,J3y,Xj,ih,Nat.succ_mul,Nat.add_comm]
theorem Jdc:OpR X (binaryOp .Mult) J1a:=by
 intro pins s σ H x y v u Q I rx ry h
 obtain ⟨l,k,xs,rfl,rfl,hH,h1,h2,hz,q⟩:=h
 cases rx
 obtain ⟨t,rfl⟩:=ry
 obtain ⟨z,its,n,r,hl,e⟩:=I.lstM hH
 have hlen:its.toArray.size*k.toNat<=sizeLine:=by rw [Q7,<- hl];exact hz
 have hcap:¬ its.toArray.size*k.toNat>(2^63-1)/8:=by
  have:(sizeLine:Nat)<=(2^63-1)/8:=by decide
  omega
 have hfit:¬ (!Builtin.List.listFitsIndex k)=true:=by
  rw [fitsIndex_both h1 h2]
  exact Q2
 have hlong:¬ J5n (its.toArray.size*k.toNat)=true:=by
  rw [Jl6 hlen]
  exact Q2
 have hnew:J4k (λ x1 x2=>x1++x2) #[] (Qo (if its.toArray.isEmpty=true then 0 else k.toNat) its.toArray)=(Qo k.toNat its).flatten.toArray:=by
  have f0:∀ m:Nat,J4k (λ x1 x2=>x1++x2) #[] (Qo m its.toArray)=(Qo m its).flatten.toArray:=λ m=>by
   have:=Jcq its m []
   rw [J5o] at this
   exact this
  rw [f0]
  cases its with
  | nil=>simp
  | cons a r'=>rw [if_neg (by simp)]
 refine Yb1 (T:="list") (U:="int") (by decide) ⟨_,e,rfl⟩ (λ s'=>typeIs_int s' k t) noFill_list_mul F.fills_int_mul J8u repeat_list F.slot_int_index.lookup
  (call_meets J8u (typeIs_int s k t) F.entry_int_rmul (F.args_int_rmul_2 _ _) (int___rmul___int_list k t l its.toArray n)
   ⟨e,rfl,⟨_,e,rfl⟩,call_meets F.slot_list_mul ⟨_,e,rfl⟩ F.entry_list_mul (F.args_list_mul_2 _ _) (AutoListH.list___mul___list_int_3 l its.toArray n k t hfit hcap hlong) ⟨e,?_⟩⟩)
 rw [hnew]
 exact ⟨.ref _,_,I.lnew (t':=s.toks) (r.rep k.toNat) (by rw [Jd5,J64];exact hz),rfl,q _ I.fresh⟩
end
section
variable {prog:Yas}{w:Yar}{A:Yat}{E:Yan->Yap->Prop}{s:Yap}
end
section
variable {X:Cx}
end
section
variable {κ:Type} [DecidableEq κ]
noncomputable def Jd6 (kvs:List (κ×V)) (k:κ):Option V:=(kvs.find? λ kv=>decide (kv.1=k)).map (·.2)
noncomputable def Jga (kvs:List (κ×V)) (k:κ) (v:V):List (κ×V):=
 if (kvs.any λ kv=>decide (kv.1=k))=true then kvs.map (λ kv=>if kv.1=k then (kv.1,v) else kv) else kvs++[(k,v)]
theorem Jg9 {p:κ×V}{r:List (κ×V)}{k:κ}(e:p.1=k):Jd6 (p::r) k=some p.2:=by simp [Jd6,List.find?_cons,e]
theorem Jha {p:κ×V}{r:List (κ×V)}{k:κ}(e:¬ p.1=k):Jd6 (p::r) k=Jd6 r k:=by simp [Jd6,List.find?_cons,e]
theorem Jl7 (kvs:List (κ×V)) (k:κ) (v:V):(Jga kvs k v).length<=kvs.length+1:=by
 unfold Jga
 split
 . rw [Qb];omega
 . rw [Xj,Ue,List.length_nil];omega
theorem KV.val {kvs:List (κ×V)}{vs:List (κ×Yan)}(r:KV kvs vs) (k:κ):Jdz (Jd6 kvs k) (valueAt vs k):=by
 unfold KV at r
 induction r with
 | nil=>exact U3
 | @cons p q ps qs h t ih=>
  obtain ⟨h1,h2⟩:=h
  by_cases e:p.1=k
  . have e':q.1=k:=h1.symm.trans e
    have b:valueAt (q::qs) k=some q.2:=by simp [valueAt,List.find?_cons,e']
    rw [Jg9 e,b];exact h2
  . have e':¬ q.1=k:=λ z=>e (h1.trans z)
    have b:valueAt (q::qs) k=valueAt qs k:=by simp [valueAt,List.find?_cons,e']
    rw [Jha e,b];exact ih
theorem KV.any {kvs:List (κ×V)}{vs:List (κ×Yan)}(r:KV kvs vs) (k:κ):(kvs.any λ kv=>decide (kv.1=k))=vs.any λ kv=>decide (kv.1=k):=by
 unfold KV at r
 induction r with
 | nil=>rfl
 | cons h t ih=>rw [J3x,J3x,ih,h.1]
theorem KV.repl {kvs:List (κ×V)}{vs:List (κ×Yan)}(r:KV kvs vs) (k:κ) {y:V}{u:Yan}(ry:Yk y u) :
 KV (kvs.map λ kv=>if kv.1=k then (kv.1,y) else kv) (vs.map λ kv=>if kv.1=k then (kv.1,u) else kv):=by
 unfold KV at r ⊢
 induction r with
 | nil=>exact .nil
 | @cons p q ps qs h t ih=>
  rw [Q0,Q0]
  refine .cons ?_ ih
  obtain ⟨h1,h2⟩:=h
  by_cases e:p.1=k
  . rw [if_pos e,if_pos (h1.symm.trans e)];exact ⟨h1,ry⟩
  . rw [if_neg e,if_neg (λ z=>e (h1.trans z))];exact ⟨h1,h2⟩
theorem KV.put {kvs:List (κ×V)}{vs:List (κ×Yan)}(r:KV kvs vs) (k:κ) {y:V}{u:Yan}(ry:Yk y u):KV (Jga kvs k y) (stored vs k u):=by
 unfold Jga stored
 rw [r.any k]
 by_cases e:(vs.any λ kv=>decide (kv.1=k))=true
 . rw [if_pos e,if_pos e];exact r.repl k ry
 . rw [if_neg e,if_neg e];exact Paired.snoc r ⟨rfl,ry⟩
theorem KV.length {kvs:List (κ×V)}{vs:List (κ×Yan)}(r:KV kvs vs):kvs.length=vs.length:=J6k r
end
theorem Jx1 {P:Yas}{w:Yar}{k:Key}{u:Yan}(r:Yk (kV k) u):(Z2 P w).is k u=true:=by
 cases k with
 | inl i=>obtain ⟨t,e⟩:=(show ∃ t,u=Us i t from r);subst e;exact Jly P w i t
 | inr x=>obtain ⟨t,e⟩:=(show ∃ t,u=J35 x t from r);subst e;exact Jlz P w x t
theorem Jjn {P:Yas}{w:Yar}:∀ {ks:List Key}{us:List Yan},J9 (ks.map kV) us->ItemsAre (Z2 P w) ks us
 | [],_,r=>by rw [J3w] at r;cases r;exact .nil
 | k::ks,_,r=>by
  rw [Q0] at r
  cases r with
  | cons h t=>exact .cons (Jx1 h) (Jjn t)
abbrev KT (H:Hp):List (List Key×V)->List (List Key×Addr×Yan)->Prop:=Paired λ p q=>p.1=q.1/\H q.2.1=some (.tup (p.1.map kV))/\Yk p.2 q.2.2
section
variable {P:Yas}{w:Yar}{H:Hp}{h:Heap}{a:Addr}
theorem Jx2 {u:HO}(ok:HOk P w H h) (e:Rd H a u):Y3 P w H h a u:=e.ok ok
theorem Jx3 {kvs:List (Key×V)}(ok:HOk P w H h) (e:Rd H a (.dK kvs)):kvs.length<=sizeLine/\(a==Ya3)=false/\∃ vs,KV kvs vs/\h.DictOf (Z2 P w) a vs:=
 show Y3 P w H h a (.dK kvs) from Jx2 ok e
theorem Jx4 {kvs:List (Key×V)}(ok:HOk P w H h) (e:H a=some (.dK kvs)):kvs.length<=sizeLine/\(a==Ya3)=false/\∃ vs,KV kvs vs/\h.DictOf (Z2 P w) a vs:=Jx3 ok (.inl e)
theorem Jzp {ks:List Key}(ok:HOk P w H h) (e:H a=some (.tup (ks.map kV))):(tupleKind (Z2 P w)).is h ks a:=by
 obtain ⟨_,its,r,o,h1,h2,n,h3⟩:=(show Y3 P w H h a (.tup (ks.map kV)) from ok a _ e)
 exact ⟨o,its.toArray,n,h1,h2,h3,by simpa using Jjn r⟩
theorem J1b {kvs:List (List Key×V)}(ok:HOk P w H h) (e:Rd H a (.dT kvs)):kvs.length<=sizeLine/\(a==Ya3)=false /\
 ∃ xs,KT H kvs xs/\h.DictOfH (tupleKind (Z2 P w)) a xs:=by
 obtain ⟨z,y,xs,r,o,es,ep,h1,h2,h3,h4,h5⟩:=(show Y3 P w H h a (.dT kvs) from Jx2 ok e)
 refine ⟨z,y,xs,r,o,es,ep,h1,h2,h3,h4,λ x hx=>?_,h5⟩
 have all:∀ {l:List (List Key×V)} {m:List (List Key×Addr×Yan)},KT H l m->∀ x∈m,(tupleKind (Z2 P w)).is h x.1 x.2.1:=by
  intro l m q
  induction q with
  | nil=>intro x hx;exact nomatch hx
  | @cons p q ps qs hq t ih=>
   intro x hx
   rcases Qf.mp hx with e | hx
   . subst e
     exact Jzp ok (by rw [<- hq.1];exact hq.2.1)
   . exact ih x hx
 exact all r x hx
end
section
variable {X:Cx}{pins:List (Addr×Obj)}{σ:St}{H:Hp}{s:Yap}{a:Addr}{y v:V}{u r:Yan}{o:Option V}{A:Yat}{E:Yan->Yap->Prop}
theorem Inv.big (I:Inv X pins σ H s):Ya3<s.heap.objs.size:=by
 have h:Yay<s.heap.objs.size:=(I.mod.glob.keeps I.bk).lt
 exact Nat.lt_trans (by decide) h
theorem Jv2 {h':Heap}{t':Nat}{ob:HO}(I:Inv X pins σ H s) (mu:Mut (H a)) (hs:X2 a s.heap h') (he:∃ q,h'.get? a=some q) (new:Y3 X.prog X.w (upd H a ob) h' a ob) :
 Inv X pins σ (upd H a ob) { s with heap:=h',toks:=t' }:=
 I.write (x:=a) (e:=a) mu (.inl rfl) (λ b q hb z=>(hs.2 b hb).trans z) he new
theorem Jzq {P:Yas}{w:Yar}{H':Hp}{h':Heap}{kvs:List (Key×V)}{vs:List (Key×Yan)}(z:kvs.length<=sizeLine) (hd:(a==Ya3)=false) (rel:KV kvs vs) (dd:h'.DictOf (Z2 P w) a vs) :
 Y3 P w H' h' a (.dK kvs):=⟨z,hd,vs,rel,dd⟩
end
section
variable {X:Cx}{pins:List (Addr×Obj)}{σ:St}{H:Hp}{s:Yap}{a:Addr}{kvs:List (Key×V)}{k:Key}{u:Yan}{A:Yat}{E:Yan->Yap->Prop}
end
section
variable {X:Cx}{o i e value:Expr}{pos pos' tpos:Pos}{td ty tv:TE}
end
theorem Js6 {P:Yas}{w:Yar}{H:Hp}(h:Heap) (hb:Ya3<h.objs.size):Y3 P w H (h.push { cls:=.type "dict",data:=.dict #[] }) h.objs.size (.dK []):=
 ⟨Xo _,beq_eq_false_iff_ne.mpr (Ql (Q8 hb)),[],.nil,Heap.DictOf.new h⟩
def Joh:TE:=λ _ H Q=>∀ p,H p=none->Q (.ref p) (upd H p (.dK []))
section
variable {X:Cx}{pos:Pos}
theorem Js7:PE X (.Dict [] [] pos) Joh:=λ pins s σ H Q I h=>
 wpAny_Dict_empty ⟨.ref s.heap.objs.size,_,I.laid (a:=s.heap.objs.size) (o:=.dK []) (t':=s.toks) (λ _ _ q=>Qu _ q) (Qn _) (Js6 s.heap I.big),rfl,h _ (I.hok.fresh (Qn _))⟩
end
structure M2 (X:Cx) (o:Expr) (m:Str) (apos:Pos) (e f:Expr) (cpos:Pos):Prop where
 base:Ybj o m X.env (eval o X.env)=eval o X.env
 few:((backTo cpos (starEach [e,f] X.env)).all (λ x=>!x.1)&&(backToKw cpos (keywordEach [] X.env)).all (λ x=>x.1.isSome)
  && decide (([e,f]:List Expr).length+([]:List Ya9).length+(if ([]:List Ya9).isEmpty then 0 else 1)<30))=true
 line:(apos.endLine==cpos.line)=true
 trees:backTo cpos (starEach [e,f] X.env)=[(false,eval e X.env),(false,eval f X.env)]
def IsD (H:Hp) (a:Addr):Prop:=(∃ kvs,Rd H a (.dK kvs))\/∃ kvs,Rd H a (.dT kvs)
theorem Js8 {X:Cx}{pins:List (Addr×Obj)}{σ:St}{H:Hp}{s:Yap}{a:Addr}(I:Inv X pins σ H s) (d:IsD H a) :
 s.TypeIs (.ref a) "dict"/\(∀ b,Q1 a = .ref b->∃ ob,s.heap.get? b=some ob/\ob.dict=none)/\(a==Ya3)=false:=by
 rcases d with ⟨kvs,e⟩ | ⟨kvs,e⟩
 . obtain ⟨_,hd,vs,_,dd⟩:=Jx3 I.hok e
   refine ⟨dd.typeIs,λ b q=>?_,hd⟩
   cases q
   obtain ⟨ob,_,_,h1,h2,_⟩:=dd
   exact ⟨ob,h1,h2.2.1⟩
 . obtain ⟨_,hd,xs,_,dd⟩:=J1b I.hok e
   refine ⟨dd.typeIs,λ b q=>?_,hd⟩
   cases q
   obtain ⟨ob,_,_,h1,h2,_⟩:=dd
   exact ⟨ob,h1,h2.2.1⟩
section
variable {X:Cx}{pins:List (Addr×Obj)}{σ:St}{H:Hp}{s:Yap}{a:Addr}{y d:V}{u r:Yan}{o:Option V}{A:Yat}{E:Yan->Yap->Prop}
end
section
variable {X:Cx}{o e f:Expr}{apos cpos:Pos}{td ty tx:TE}
end
section
variable {X:Cx}{pins:List (Addr×Obj)}{σ:St}{H:Hp}{s:Yap}{a:Addr}{kvs:List (Key×V)}{A:Yat}{E:Yan->Yap->Prop}
end
section
variable {X:Cx}{pins:List (Addr×Obj)}{σ:St}{H:Hp}{s:Yap}{a:Addr}{y:V}{u:Yan}{A:Yat}{E:Yan->Yap->Prop}
end
end L2
namespace Att
open PySem PySem.W PySem.Calls PyProof.Rows
theorem Jgb {P:Params}{h:Heap}:∀ (ns:List Int) (vs:List Yan),WellAll P h vs (ns.map WData.int)->Ybm vs ns:=by
 intro ns
 induction ns with
 | nil=>
  intro vs w
  rw [J3w] at w
  cases w
  exact .nil
 | cons n ns ih=>
  intro vs w
  rw [Q0] at w
  cases w with
  | cons a b=>
   cases a
   exact .cons _ _ (ih _ b)
theorem Jrf {l:OpenLaw}{n:Nat}(hn:l.most=some n) {P:Params}{h:Heap}{args:List WData}{vals:List Yan}
 (hpre:l.row.toRowW.claim.pre args=true) (hwl:WellAll P h vals args) :
 ∃ a vs ns,vals=[Q1 a]/\args=[WData.list (ns.map WData.int)]/\h.get? a=some { cls:=.type "list",data:=.seq vs.toArray }/\Ybm vs ns/\ns.length<=n:=by
 have hsh:WShape.hasAll [] args [.list .int]=true:=(pre_splitW hpre).1
 have hc:l.pre.holds [] { args:=args }=true:=(pre_splitW hpre).2
 obtain ⟨d,r,rfl,h1,h2⟩:=hasAllW_cons hsh
 obtain rfl:=hasAllW_nil h2
 obtain ⟨xs,rfl,h3⟩:=hasW_list h1
 obtain ⟨ns,rfl⟩:=items_int h3
 have hlen:ns.length<=n:=by
  unfold OpenLaw.pre at hc
  have h4:(WTm.not (.lt (.lit (.int (n:Int))) (.len (.arg 0)))).holds [] { args:=[.list (ns.map .int)] }=true:=by
   have h4:=(holds_andW hc).1
   rw [hn] at h4
   exact h4
  have h5:=condW_of h4 (w_not (w_lt w_lit (w_len_list (w_arg rfl))))
  rw [Qb] at h5
  refine J39 λ q=>?_
  have q':(n:Int)<((ns.length:Nat):Int):=by omega
  first
   | (rw [decide_eq_true q'] at h5;exact absurd h5 (by decide))
   | (simp at h5;omega)
 cases hwl with
 | cons w1 w2=>
  cases w2
  cases w1 with
  | list ho hall=>exact ⟨_,_,ns,rfl,rfl,ho,Jgb ns _ hall,hlen⟩
theorem Jrg (l:OpenLaw) (args:List WData):l.row.toRowW.claim.post args (.bool true) args=true:=
 postW_of (r:=l.row.toRowW) (X:=(true==true))
  (show WShape.has [] (.bool true) .bool=true by first | rfl | decide | simp [WShape.has,WShape.arms,WShape.armsAll])
  (show (WTm.eq .res (.lit (.bool true))).value [] { args:=args,res:=some (.bool true),after:=args }=some (.bool (true==true)) from w_eq_bool (w_res rfl) w_lit) rfl
theorem attach_call {l:OpenLaw}{n:Nat}{q:Yas}{loose:List Str}{XP:(Str->Option Yan)->Heap->Prop}{YP:Yar->Heap->Prop}{d:DefRec}
 (hn:l.most=some n) (hdf:d.params.defaults=[])
 (call:∀ (w:Yar) (s₀ s₁:Yap) (mg mb:Str->Option Yan) (fa:Addr) (o:Obj) (pm cd doc:Yan) (a:Addr) (vs:List Yan) (ns:List Int),
  Ground q loose [] XP w s₀ mg mb s₁.heap->YP w s₁.heap ->
  s₁.heap.get? fa=some o->o.data = .func (docDef d.name d.params d.body d.scope pm cd doc)->s₁.heap.CodeRec cd d.name->mg d.name=some (.ref fa) ->
  s₁.heap.get? a=some { cls:=.type "list",data:=.seq vs.toArray }->Ybm vs ns->ns.length<=n->s₁.gens = #[] ->
  Ya1 (model l.prog w) Ybc (.call (.ref fa) ⟨[.ref a],[]⟩) (λ r s'=>r = .ok (.ret (.bool true))/\OldK s₁.heap s'.heap/\s'.os=s₁.os/\Ya4 s'.gens) s₁) :
 WalkO q loose XP YP l.row.toRowW d [] (λ f vs=>J65 f vs):=by
 intro w s₀ s₁ mg mb G Y fa o pm cd doc dV kV ho hd hcd hD hmg hg args vals as hpre hlay hrd hwl hlo
 obtain rfl:dV = .none:=Dflts.none hD hdf
 obtain rfl:kV = .none:=Dflts.noKw hD
 obtain ⟨a,vs,ns,rfl,rfl,hobj,hints,hlen⟩:=Jrf hn hpre hwl
 refine enter_call (codeAny_mono (call w s₀ s₁ mg mb fa o pm cd doc a vs ns G Y ho (fd_plain hd) hcd hmg hobj hints hlen hg) λ r s' hq=>?_)
 obtain ⟨rfl,h2,h3,h4⟩:=hq
 exact ⟨.inl ⟨.bool true,.bool true,[],rfl,λ _=>rfl,.bool true,Jrg l _,λ _=>⟨Yaj,λ _ hm=>(nomatch hm)⟩⟩,h2,h3,h4⟩
section
variable {prog:Yas}{w:Yar}{A:Yat}{E:Yan->Yap->Prop}{s:Yap}{K:Frag}
end
end Att
namespace L2
theorem Jjo:∀ {vs:List Yan}{ns:List Int},Ybm vs ns->J9 (ns.map V.int) vs
 | _,_,.nil=>.nil
 | _,_,.cons n t h=>.cons ⟨t,rfl⟩ (Jjo h)
def Jzr (H:Hp):Prop:=∀ b,H b=none\/∃ o xs,H b=some (.frz o (.lst xs))
theorem Js9 {P:Yas}{w:Yar}{K:Qc}{mg mb:Str->Option Yan}{CX:CXT}{k:Nat}{fa a:Addr}{fd:Yaz}{x:Str}{sp:Sp}{s₁:Yap}{vs:List Yan}{ns:List Int}
 (KX:K.In s₁.heap) (hns:s₁.heap.Ns Yay mg) (hb:s₁.heap.Ns Ybp mb) (hbb:∀ x:Str,x≠"__name__"->mb x=Ybf x) (hlim:s₁.heap.NoLimit) (hg:s₁.gens = #[])
 (ha:s₁.heap.get? a=some { cls:=.type "list",data:=.seq vs.toArray }) (hi:Ybm vs ns) (hl:ns.length<=sizeLine) (hr:Room k Ybc)
 (F:∀ base:Heap,K.In base->base.Ns Yay mg->FnOk P w K mg base CX k fa fd [x] sp) (hbind:∀ (s:Yap) (u:Yan),Ybk s fd ⟨[u],[]⟩ [(x,u)])
 (hsp:∀ H:Hp,Jzr H->SqL K H a (ns.map V.int)->sp [.ref a] H (λ v _=>v = .bl true) λ _ _ _=>False)
 (hCX:∀ H e s',CX [] H s₁ (λ _ _ _=>False) e s'->False) :
 Ya1 (model P w) Ybc (.call (.ref fa) ⟨[.ref a],[]⟩) (λ r s'=>r = .ok (.ret (.bool true))/\OldK s₁.heap s'.heap/\s'.os=s₁.os/\Ya4 s'.gens) s₁:=by
 have rv:=Jjo hi
 have lenV:=hi.length
 -- from an abstract heap in which nothing but the script may be tracked
 have core:∀ H:Hp,Jzr H->SqL K H a (ns.map V.int)->HOk P w H s₁.heap->(∀ b,H b≠none->b=a)->(H a≠none->K.lookup a=none) ->
  Ya1 (model P w) Ybc (.call (.ref fa) ⟨[.ref a],[]⟩) (λ r s'=>r = .ok (.ret (.bool true))/\OldK s₁.heap s'.heap/\s'.os=s₁.os/\Ya4 s'.gens) s₁:=by
  intro H hO hS hok hA hK
  have base_of:∀ {b:Addr} {o:Obj},s₁.heap.get? b=some o->H b=none->(Jj4 s₁.heap H).get? b=some o:=λ e n=>Jsk e n
  have noA:∀ {b:Addr} {o:Obj} {es:Array DictEntry} {ep:Nat},s₁.heap.get? b=some o->o.data = .dict es ep->H b=none:=λ {b o es ep} e d=>by
   cases q:H b with
   | none=>rfl
   | some u=>
    have e':b=a:=hA b (by rw [q];simp)
    subst e'
    rw [ha] at e;cases e
    have d':J4l vs.toArray _=Data.dict es ep:=d
    cases d'
  have nsK:∀ {b:Addr} {m:Str->Option Yan},s₁.heap.Ns b m->(Jj4 s₁.heap H).Ns b m:=λ {b m} ⟨o,es,ep,e,d,r⟩=>⟨o,es,ep,base_of e (noA e d),d,r⟩
  have hKb:K.In (Jj4 s₁.heap H):=λ b o e=>base_of (KX b o e) (by
   cases q:H b with
   | none=>rfl
   | some u=>
    have e':b=a:=hA b (by rw [q];simp)
    subst e'
    rw [hK (by rw [q];simp)] at e;cases e)
  have hM:Mod K mg (Jj4 s₁.heap H):=⟨hKb,nsK hns,⟨mb,nsK hb,hbb⟩,let ⟨mc,h1,h2⟩:=hlim;⟨mc,nsK h1,h2⟩⟩
  have e0:Env0 P w K mg (Jj4 s₁.heap H) Ybc [] s₁ H:=⟨rfl,hM,λ b o e=>Jvp e,J5i (Jq6 _ _),trivial,λ b hb=>absurd (show b∈([]:List Addr) from hb) (by simp),hok,.of_eq hg⟩
  refine codeAny_mono ((F _ hKb (nsK hns)).run Ybc [] s₁ H ⟨[.ref a],[]⟩ [.ref a] [.ref a] _ _ hr e0 (hbind s₁ (.ref a)) (.cons rfl .nil) (hsp H hO hS)) λ r s' h=>?_
  cases r with
  | error e=>exact (hCX H e s' h).elim
  | ok fl=>
   cases fl with
   | next=>exact Ud h
   | brk=>exact Ud h
   | cont=>exact Ud h
   | ret u=>
    obtain ⟨v,H',os,bare,un,hok',r',q⟩:=h
    have q':v = .bl true:=q
    subst q'
    obtain rfl:u=J36 true:=r'
    refine ⟨rfl,OldK.of_keep λ b o e=>?_,os,bare⟩
    cases q:H b with
    | none=>exact un.keep b o e q (by intro z;exact absurd (show b∈([]:List Addr) from z) (by simp)) (by simp)
    | some u=>
     rcases hO b with z | ⟨ob,xs,z⟩
     . rw [q] at z;cases z
     . have z2:=un.frzs b ob _ z
       obtain ⟨e1,_⟩:=hok b _ z
       obtain ⟨e2,_⟩:=hok' b _ z2
       rw [e] at e1;cases e1
       exact e2
 cases hk:K.lookup a with
 | some o=>
  -- the script is one of the module's own objects
  have e:=KX a o hk
  rw [ha] at e
  cases e
  refine core (λ _=>none) (λ _=>.inl rfl) (.inr ⟨_,vs.toArray,_,hk,rfl,rfl,rfl,by rw [Q7,lenV];exact hl,by simpa using rv⟩) (λ b u z=>by have z':(none:Option HO)=some u:=z;cases z') (λ b z=>absurd rfl z) λ z=>absurd rfl z
 | none=>
  refine core (λ b=>if b=a then some (.frz { cls:=.type "list",data:=.seq vs.toArray } (.lst (ns.map V.int))) else none) (λ b=>?_) (.inl (.inr ⟨{ cls:=.type "list",data:=.seq vs.toArray },if_pos rfl⟩)) (λ b u z=>?_) (λ b z=>?_) λ _=>hk
  . by_cases hb:b=a
    . exact .inr ⟨_,_,if_pos hb⟩
    . exact .inl (if_neg hb)
  . by_cases hb:b=a
    . have z':=(if_pos hb).symm.trans z
      cases z'
      subst hb
      exact ⟨ha,by rw [Qb];exact hl,vs,_,rv,ha⟩
    . have z':=(if_neg hb).symm.trans z
      cases z'
  . by_cases hb:b=a
    . exact hb
    . exact absurd (if_neg hb) z
theorem walk_of {l:J66}{n k:Nat}{q:Yas}{loose:List Str}{XP:(Str->Option Yan)->Heap->Prop}{YP:Yar->Heap->Prop}{d:DefRec}{K:Params->Qc}{CX:Yar->CXT}{sp:Yar->Sp}{x:Str}
 (hn:l.most=some n) (hn2:n<=sizeLine) (hdf:d.params.defaults=[]) (hr:Room k Ybc)
 (hY:∀ (w:Yar) (h:Heap),YP w h->(K w.params).In h)
 (F:∀ (w:Yar) (mg:Str->Option Yan) (fa:Addr) (h:Heap),(K w.params).In h->h.Ns Yay mg->mg d.name=some (.ref fa) ->
  ∃ fd:Yaz,(∀ (s:Yap) (u:Yan),Ybk s fd ⟨[u],[]⟩ [(x,u)]) /\
   ∀ base:Heap,(K w.params).In base->base.Ns Yay mg->FnOk l.prog w (K w.params) mg base (CX w) k fa fd [x] (sp w))
 (hsp:∀ (w:Yar) (H:Hp) (a:Addr) (ns:List Int),ns.length<=n->Jzr H->SqL (K w.params) H a (ns.map V.int)->sp w [.ref a] H (λ v _=>v = .bl true) λ _ _ _=>False)
 (hCX:∀ (w:Yar) (H:Hp) (s:Yap) (e:Yan) (s':Yap),CX w [] H s (λ _ _ _=>False) e s'->False) :
 J8v q loose XP YP l.row.toRowW d [] (λ f vs=>J65 f vs):=by
 refine Att.attach_call hn hdf λ w s₀ s₁ mg mb fa o pm cd doc a vs ns G Y ho hd hcd hmg hobj hints hlen hg=>?_
 have KX:=hY w _ Y
 obtain ⟨fd,hb,hF⟩:=F w mg fa _ KX G.T.g hmg
 exact Js9 KX G.T.g G.T.b G.T.builtins G.T.nolimit hg hobj hints (Xm hlen hn2) hr hF hb (λ H hO hS=>hsp w H a ns hlen hO hS) λ H e s'=>hCX w H s₁ e s'
noncomputable def Wi (s:Stmt):Arguments:=match s with
 | .FunctionDef _ a _ _ _ _ _ _ _ _=>a
 | _=>{ posonlyargs:=[],args:=[],vararg:=none,kwonlyargs:=[],kw_defaults:=[],kwarg:=none,defaults:=[] }
noncomputable def Z3 (s:Stmt):List Stmt:=match s with
 | .FunctionDef _ _ b _ _ _ _ _ _ _=>b
 | _=>[]
noncomputable def Jd (s:Stmt):Yav:=match s with
 | .FunctionDef _ _ _ _ _ _ sc _ _ _=>sc
 | _=>{ kind:=.function,names:=[],isGenerator:=false,isCoroutine:=false }
abbrev CX0:CXT:=λ _ _ _ _ _ _=>False
abbrev E0:XK:=λ _ _ _=>False
theorem Jta {X:Cx}:Jfb CX0 X E0:=λ _ _ _ _ _ _ _ h=>h.elim
structure Fun (K:Qc) (x qual:Str) (st:Stmt) (f:Addr) (fd:Yaz):Prop where
 ex:∃ (oc:Yan) (od:Option Addr) (kV doc pm:Yan) (an:Option Addr) (cdv ct:Yan) (osl:Array (Option Yan)),
  fd=X3 x qual (Wi st) (Z3 st) (Jd st) .none kV doc pm an cdv ct/\K.lookup f=some ⟨oc,od,.func fd,osl⟩/\J3o K cdv qual=true
 kp:Uj K (.ref f)=true
section
variable {P:Yas}{w:Yar}{K:Qc}{mg:Str->Option Yan}{base:Heap}
theorem Fun.ok {x qual:Str}{st:Stmt}{f:Addr}{fd:Yaz}{N ps:List Str}{k:Nat}{sp:Sp}(F:Fun K x qual st f fd) (S:FnScope N ps (Jd st)) (len:∀ vs H Q E,sp vs H Q E->vs.length=ps.length)
 (hbody:∀ (cdv:Yan) (A:Yat) (outer:List Env) (s:Yap) (H:Hp) (vs:List V) (Q:VK) (E:XK),Room k (A.deeper (envOfC qual (Jd st) s.heap.objs.size f cdv))->sp vs H Q E ->
  ∃ t,PSs (Jof CX0 P w K mg base N qual (Jd st) f cdv A outer s H E).nox (Z3 st) t/\t { nx:=λ _ H'=>Q .non H',rt:=Q } (start N vs) H):FnOk P w K mg base CX0 (k+1) f fd ps sp:=by
 obtain ⟨oc,od,kV,doc,pm,an,cdv,ct,osl,rfl,lk,hcd⟩:=F.ex
 refine Jxz lk hcd S len λ A outer s H vs Q E hr hsp=>?_
 obtain ⟨t,h,q⟩:=hbody cdv A outer s H vs Q E hr hsp
 exact ⟨t,h.nox,q⟩
theorem Fun.binds {x qual:Str}{st:Stmt}{f:Addr}{fd:Yaz}{ps:List Str}(F:Fun K x qual st f fd)
 (h:∀ (kV doc pm:Yan) (an:Option Addr) (cdv ct:Yan) (us:List Yan),us.length=ps.length->Ybl (X3 x qual (Wi st) (Z3 st) (Jd st) .none kV doc pm an cdv ct) ⟨us,[]⟩=pure (ps.zip us)):Bu K fd ps []:=by
 obtain ⟨oc,od,kV,doc,pm,an,cdv,ct,osl,rfl,lk,hcd⟩:=F.ex
 exact .all (h kV doc pm an cdv ct)
theorem Jhb {x qual:Str}{st:Stmt}{f:Addr}{oc:Yan}{od an:Option Addr}{osl:Array (Option Yan)}{kV doc pm cdv ct:Yan}(l:K.lookup f=some ⟨oc,od,.func (X3 x qual (Wi st) (Z3 st) (Jd st) .none kV doc pm an cdv ct),osl⟩)
 (c:J3o K cdv qual=true) (k:Uj K (.ref f)=true):Fun K x qual st f (X3 x qual (Wi st) (Z3 st) (Jd st) .none kV doc pm an cdv ct):=⟨⟨oc,od,kV,doc,pm,an,cdv,ct,osl,rfl,l,c⟩,k⟩
end
theorem Jrh {n:Nat}(h:n<=1000):n<sizeLine:=U7 h (by decide)
section
variable {X:Cx}
theorem pv (i:Nat) {x:Str}{pos:Pos}(hN:X.N[i]? = some x:=by rfl) (hv:Vis X.env.scope x:=by first | exact Qa rfl | exact Qp (Qa rfl) | exact Qp (Qp rfl)) (hd:(x==("__debug__":Str))=false:=by decide)
 (hcd:(x==("__classdict__":Str))=false:=by decide):PE X (.Name x pos) (Z1 i):=Jy7 hN hv hd hcd
end
theorem Ja0 {A B:Prop}(h:B):if false=true then A else B:=by
 rw [if_neg Q2]
 exact h
theorem Ve {A B:Prop}(h:A):if true=true then A else B:=by
 rw [if_pos rfl]
 exact h
section
variable {κ:Type} [DecidableEq κ]
end
end L2
set_option maxHeartbeats 4000000
namespace L2
abbrev NoE:Yan->Yap->Prop:=λ _ _=>False
theorem Jf2 {prog:Yas}{w:Yar}{A:Yat}{R:Ya8->Yap->Prop}{s:Yap}{elt target iter:Expr}{ifs:List Expr}{scope:Yav}{pos:Pos}{it acc:Yan}{env:Env}(I:Nat->Yap->Prop)
 (turn:∀ n s,I n s->Yaq (model prog w) A (pyNext it) (λ r s₁=>match r with
  | none=>R (.ok .next) s₁
  | some v=>Yaq (model prog w) A (letOwnedTupleGo target it v) (λ _ s₁'=>Yaq (model prog w) A (assign target env v) (λ _ s₂=>
   Yaq (model prog w) A (forIn ifs true λ c r=>if r=true then do let ok <- isTrue c env (eval c env);pure (J4a ok) else pure (J4a r)) (λ ok s₃=>
    if ok=true then Yaq (model prog w) A (eval elt env) (λ x s₄=>
     Yaq (model prog w) A (call (.builtin "list.append") [acc,x]) (λ _ s₅=>∃ m,m<n/\I m s₅) NoE s₄) NoE s₃
    else ∃ m,m<n/\I m s₃) NoE s₂) NoE s₁') NoE s₁) NoE s)
 (n:Nat) (h:I n s) :
 Ya1 (model prog w) A (.compLoop (.ListComp elt [⟨target,iter,ifs,0⟩] scope pos) 0 it acc env) R s:=by
 refine codeAny_loop rfl I (λ n s hI=>?_) n h
 show Yaq _ A ((compTurn (.ListComp elt [⟨target,iter,ifs,0⟩] scope pos) 0 it acc env).onRaise (λ x=>do noteFrame x env;theTreesLotGoes x)) _ _ s
 refine wpAny_noted ?_
 rw [compTurn_list]
 refine wpAny_bind (wpAny_standAt (wpAny_bind (wpAny_mono (turn n s hI) (λ r s₁ h₁=>?_) λ _ _ f=>f.elim)))
 cases r with
 | none=>exact wpAny_pure h₁
 | some v=>
  refine wpAny_bind (wpAny_mono h₁ (λ _ s₁' h₁'=>wpAny_bind (wpAny_mono h₁' (λ _ s₂ h₂=>wpAny_bind (wpAny_mono h₂ (λ ok s₃ h₃=>?_) λ _ _ f=>f.elim)) λ _ _ f=>f.elim)) λ _ _ f=>f.elim)
  cases ok with
  | false=>exact wpAny_pure ⟨rfl,h₃⟩
  | true=>
   exact wpAny_bind (wpAny_bind (wpAny_mono h₃ (λ x s₄ h₄=>wpAny_bind (wpAny_mono h₄ (λ _ s₅ h₅=>wpAny_pure (wpAny_pure ⟨rfl,h₅⟩)) λ _ _ f=>f.elim)) λ _ _ f=>f.elim))
noncomputable def Yd (env:Env):List (Str×Yax)->List (Str×Addr)->List (Str×Addr)
 | [],cs=>cs
 | (n,k)::r,cs=>Yd env r (if (k==Ul)=true then (n,(env.cells.lookup n).getD 0)::cs else cs)
theorem Bf {scope:Yav}{env:Env}(h:∀ x∈scope.names,x.2 = .free->∃ c,env.cells.lookup x.1=some c):Ybn scope env=pure (Yd env scope.names []):=by
 have key:∀ (l:List (Str×Yax)) (cs:List (Str×Addr)),(∀ x∈l,x.2 = .free->∃ c,env.cells.lookup x.1=some c) ->
  (forIn (m:=Sem) l cs λ (x:Str×Yax) (r:List (Str×Addr))=>if (x.2==Ul)=true then (do let c <- cellOf env x.1;pure (J4a ((x.1,c)::r))) else (do pure PUnit.unit;pure (J4a r)))=pure (Yd env l cs):=by
  intro l
  induction l with
  | nil=>intro cs _;rfl
  | cons x r ih=>
   intro cs hx
   obtain ⟨n,k⟩:=x
   rw [J67]
   by_cases hk:k = .free
   . subst hk
     obtain ⟨c,hc⟩:=hx _ Qh rfl
     have e:cellOf env n=pure c:=by unfold cellOf;rw [show env.cells.lookup n=some c from hc]
     simp only [beq_self_eq_true,if_true,e,pure_bind]
     rw [ih _ λ y hy=>hx y (Qi _ hy)]
     simp only [Yd,beq_self_eq_true,if_true]
     rw [show env.cells.lookup n=some c from hc]
     rfl
   . have hb:(k==Ul)=false:=by simpa using hk
     simp only [hb,J4m,if_false,pure_bind]
     rw [ih _ λ y hy=>hx y (Qi _ hy)]
     simp only [Yd,hb,J4m,if_false]
 unfold Ybn
 have:=key scope.names [] h
 show ((forIn (m:=Sem) scope.names ([]:List (Str×Addr)) _) >>= _)=_
 refine J5p (congrArg (λ z=>z >>= _) (J5p ?_ this)) ?_
 . congr 1
 . rfl
theorem Jdd {env:Env}:∀ {l:List (Str×Yax)}{cs:List (Str×Addr)},(∀ x∈l,x.2 = .free->∃ c,env.cells.lookup x.1=some c)->(∀ p∈cs,env.cells.lookup p.1=some p.2)->∀ p∈Yd env l cs,env.cells.lookup p.1=some p.2
 | [],_,_,hc=>hc
 | (n,k)::r,cs,hx,hc=>by
  unfold Yd
  refine Jdd (λ y hy=>hx y (Qi _ hy)) λ p hp=>?_
  by_cases hk:k = .free
  . subst hk
    simp only [beq_self_eq_true,if_true] at hp
    rcases Qf.mp hp with rfl | hp
    . obtain ⟨c,e⟩:=hx _ Qh rfl
      have e:env.cells.lookup n=some c:=e
      show env.cells.lookup n=some ((env.cells.lookup n).getD 0)
      rw [e]
      rfl
    . exact hc p hp
  . have hb:(k==Ul)=false:=by simpa using hk
    simp only [hb,J4m,if_false] at hp
    exact hc p hp
theorem Jhc {env:Env}:∀ {l:List (Str×Yax)}{cs:List (Str×Addr)}{p:Str×Addr},p∈cs->p∈Yd env l cs
 | [],_,_,h=>h
 | (n,k)::r,cs,p,h=>by
  unfold Yd
  refine Jhc ?_
  split
  . exact Qi _ h
  . exact h
theorem B0 {env:Env}:∀ {l:List (Str×Yax)}{cs:List (Str×Addr)}{x:Str},(x,Ul)∈l->∃ c,(x,c)∈Yd env l cs
 | [],_,_,h=>by cases h
 | (n,k)::r,cs,x,h=>by
  unfold Yd
  rcases Qf.mp h with e | h
  . cases e
    simp only [beq_self_eq_true,if_true]
    exact ⟨_,Jhc Qh⟩
  . exact B0 h
theorem Zp {α:Type}{x:Str}{c:α}:∀ {l:List (Str×α)},(x,c)∈l->∃ d,l.lookup x=some d
 | [],h=>by cases h
 | (n,k)::r,h=>by
  rw [Ux]
  cases hx:x==n with
  | true=>exact ⟨k,rfl⟩
  | false=>
   rcases Qf.mp h with e | h
   . cases e;simp at hx
   . exact Zp h
theorem W7 {env:Env}{x:Str}:∀ {names:List (Str×Yax)}{k:Yax},
 (names.map λ (n,k)=>if (k==Ul&&env.scope.kind == .function&&env.kindOf n==some .cell) then (n,Uy) else (n,k)).lookup x=some k->names.lookup x=some k\/(k = .cell/\names.lookup x=some .free)
 | [],_,h=>by simp at h
 | (n,j)::r,k,h=>by
  have ih:=@W7 env x r k
  rw [Q0] at h
  rw [Ux]
  dsimp only at h
  by_cases hc:(j==Ul&&env.scope.kind == .function&&env.kindOf n==some .cell)=true
  . rw [if_pos hc,Ux] at h
    cases hx:x==n with
    | true=>
     rw [hx] at h
     simp only [Xx] at hc
     have:j = .free:=by simpa using hc.1.1
     subst this
     cases h
     exact .inr ⟨rfl,rfl⟩
    | false=>rw [hx] at h;exact ih h
  . rw [if_neg hc,Ux] at h
    cases hx:x==n with
    | true=>rw [hx] at h;exact .inl h
    | false=>rw [hx] at h;exact ih h
theorem Jbe {env:Env}{x:Str}:∀ {names:List (Str×Yax)},names.lookup x=some .free ->
 (names.map λ (n,k)=>if (k==Ul&&env.scope.kind == .function&&env.kindOf n==some .cell) then (n,Uy) else (n,k)).lookup x=some .cell \/
 (names.map λ (n,k)=>if (k==Ul&&env.scope.kind == .function&&env.kindOf n==some .cell) then (n,Uy) else (n,k)).lookup x=some .free
 | [],h=>by simp at h
 | (n,j)::r,h=>by
  have ih:=@Jbe env x r
  rw [Ux] at h
  rw [Q0]
  dsimp only
  by_cases hc:(j==Ul&&env.scope.kind == .function&&env.kindOf n==some .cell)=true
  . rw [if_pos hc,Ux]
    cases hx:x==n with
    | true=>exact .inl rfl
    | false=>rw [hx] at h;exact ih h
  . rw [if_neg hc,Ux]
    cases hx:x==n with
    | true=>rw [hx] at h;cases h;exact .inr rfl
    | false=>rw [hx] at h;exact ih h
noncomputable def Wf (X:Cx) (N':List Str) (scope:Yav) (C:Addr) (s:Yap) (H:Hp) (fp:List Addr):Cx where
 prog:=X.prog
 w:=X.w
 K:=X.K
 mg:=X.mg
 base:=X.base
 A:=X.A
 N:=N'
 s₀:=s
 H₀:=H
 env:=compEnvC scope (Yd X.env scope.names []) C X.env
 outer:=X.stack
 stack:=X.stack
 ex:=fp
 fn:=λ _=>false
 calm:=X.calm
 pn:=[]
 xe:=NoE
structure CompScope (sc:Yav) (N:List Str) (scope:Yav) (N':List Str) (k:Nat) (idx:List Nat):Prop where
 kind:scope.kind = .function
 nocell:∀ x∈scope.names,x.2≠.cell
 loc:∀ x∈scope.names,x.2 = .local -> scope.names.lookup x.1=some .local
 fr:∀ x∈scope.names,x.2 = .free->sc.names.lookup x.1=some .cell\/sc.names.lookup x.1=some .free
 nd:N'.Nodup
 free:∀ x∈N'.drop k,scope.names.lookup x=some .free
 ix:(N'.drop k).map some=idx.map λ i=>N[i]?
 len:N'.length=k+idx.length
noncomputable def Yl (k:Nat) (idx:List Nat) (σ:St):St:=Qo k none++idx.map λ i=>(σ[i]?).join
section
variable {X:Cx}{pins:List (Addr×Obj)}{σ:St}{H:Hp}{s:Yap}{scope:Yav}{N':List Str}{k:Nat}{idx:List Nat}{sc:Yav}{N:List Str}
theorem Joi (I:Inv X pins σ H s) (S:CompScope sc N scope N' k idx) (hsc:X.env.scope=sc) (hNN:X.N=N) {fp:List Addr}(hf:∀ b∈fp,Jc9 X pins H b) (hlt:∀ b∈fp,b<s.heap.objs.size) {h':Heap}{t':Nat}
 (hn:h'.Ns s.heap.objs.size (λ _=>none)) (hk:∀ b o,s.heap.get? b=some o->h'.get? b=some o) :
 Inv (Wf X N' scope s.heap.objs.size s H fp) [] (Yl k idx σ) H { s with heap:=h',toks:=t' }:=by
 have hcell:∀ x∈scope.names,x.2 = .free->∃ c,X.env.cells.lookup x.1=some c:=λ x hx hfree=>I.ok.has x.1 (by
  show X.env.scope.names.lookup x.1=_\/X.env.scope.names.lookup x.1=_
  rw [hsc];exact S.fr x hx hfree)
 have hcl:∀ x c,(Yd X.env scope.names []).lookup x=some c->X.env.cells.lookup x=some c:=λ x c e=>Jdd hcell (λ p hp=>by cases hp) (x,c) (Xt e)
 have hok:(Wf X N' scope s.heap.objs.size s H fp).Ok:={
  mod:=I.ok.mod
  kind:=S.kind
  glob:=I.ok.glob
  blt:=I.ok.blt
  above:=Qn _
  inj:=λ x y c e1 e2=>I.ok.inj x y c (hcl x c e1) (hcl y c e2)
  has:=λ x hx=>by
   have hfree:scope.names.lookup x=some .free:=by
    rcases hx with hx | hx
    . rcases W7 (env:=X.env) (names:=scope.names) hx with h | ⟨_,h⟩
      . exact absurd rfl (S.nocell _ (Xt h))
      . exact h
    . rcases W7 (env:=X.env) (names:=scope.names) hx with h | ⟨h,_⟩
      . exact h
      . cases h
   obtain ⟨c,hc⟩:=B0 (env:=X.env) (cs:=[]) (Xt hfree)
   exact Zp hc
  cab:=λ x c h=>by cases h
  hd:=I.ok.hd
  frames:=I.ok.frames
  stk:=.inl rfl
  exf:=λ b hb=>⟨Q8 (hlt b hb),λ x c e=>(hf b hb).2.2.2.2.1 x c (hcl x c e)⟩
  bs:=I.bs
  bsz:=Xm I.ok.bsz I.sz
  noex:=λ b o e hb=>by
   rcases (hf b hb).2.2.2.1 with z | z
   . exact I.ok.noex b o e z
   . exact absurd (Qz (Qs e) (Xm I.ok.bsz z)) (Xd _)
  exfs:=λ b hb hz=>by
   rcases Qf.mp (I.stkSub b hz) with e | e
   . exact (hf b hb).2.1 e
   . exact (hf b hb).2.2.1 e
  funs:=I.stack
  frf:=I.stkFree }
 refine ⟨hok,rfl,I.bare,Un.kept hk,⟨_,hn,λ i x v e1 e2 e3=>?_⟩,λ x c e=>?_,I.hok.fresh (Qn _),λ x c e=>I.freeC x c (hcl x c e),(λ p hp=>by cases hp),I.hok.kept hk,?_⟩
 . -- a name with a value is one of the others
   have hi:k<=i:=by
    rcases Xy i k with h | h
    . have e2:(Yl k idx σ)[i]? = some (some v):=e2
      unfold Yl at e2
      rw [Uv (by simpa using h),U4] at e2
      split at e2<;>cases e2
    . exact h
   have e1':(N'.drop k)[i-k]? = some x:=by
    rw [J68,show k+(i-k)=i by omega];exact e1
   have hfree:=S.free x (Xa e1')
   have e2':(idx.map λ i=>(σ[i]?).join)[i-k]? = some (some v):=by
    have e2:(Yl k idx σ)[i]? = some (some v):=e2
    unfold Yl at e2
    rw [J3n (by simpa using hi),X5] at e2
    exact e2
   rw [Qj] at e2'
   cases hj:idx[i-k]? with
   | none=>rw [hj] at e2';cases e2'
   | some j=>
    rw [hj] at e2'
    have e3':(σ[j]?).join=some v:=by simpa using e2'
    have eσ:σ[j]? = some (some v):=by
     cases q:σ[j]? with
     | none=>rw [q] at e3';cases e3'
     | some o=>rw [q] at e3';cases o with
      | none=>cases e3'
      | some z=>cases e3';rfl
    have eN:X.N[j]? = some x:=by
     rw [hNN]
     have:=congrArg (λ l=>l[i-k]?) S.ix
     simp only [Qj,e1',hj,Option.map_some] at this
     exact (Xf this).symm
    have hvk:=S.fr _ (Xt hfree) rfl
    obtain ⟨m,hm,hl⟩:=I.loc
    obtain ⟨u,ru,lk⟩:=hl j x v eN eσ (by rw [hsc];exact .inr hvk)
    refine ⟨u,ru,.inr ⟨Jbe (env:=X.env) hfree,?_⟩⟩
    rcases lk with ⟨kl,_⟩ | ⟨_,c,ec,z⟩
    . have kl:X.env.scope.names.lookup x=some .local := kl
      rw [hsc] at kl
      rcases hvk with q | q<;>(rw [kl] at q;cases q)
    . obtain ⟨d,hd⟩:=B0 (env:=X.env) (cs:=[]) (Xt hfree)
      obtain ⟨d',hd'⟩:=Zp hd
      have e:=hcl x d' hd'
      rw [ec] at e
      cases e
      obtain ⟨o,ho,hod⟩:=z
      exact ⟨c,hd',o,hk c o ho,hod⟩
 . obtain ⟨v,o,ho,hod⟩:=I.cell x c (hcl x c e)
   exact ⟨v,o,hk c o ho,hod⟩
 . show (Yl k idx σ).length=N'.length
   unfold Yl
   rw [S.len,Xj,X5,Qb]
end
def PTs (X:Cx) (ifs:List Expr) (t:TT):Prop:=
 ∀ (pins:List (Addr×Obj)) (s:Yap) (σ:St) (H:Hp) (Q:Bool->Hp->Prop),Inv X pins σ H s->t σ H Q ->
  Yaq (model X.prog X.w) X.A (forIn ifs true λ c r=>if r=true then do let ok <- isTrue c X.env (eval c X.env);pure (J4a ok) else pure (J4a r)) (TP X pins σ Q) X.xe s
def Jgl:TT:=λ _ H Q=>Q true H
theorem Yb {X:Cx}:PTs X [] Jgl:=λ pins s σ H Q I h=>wpAny_tests_nil ⟨H,I,h⟩
theorem Jbf {X:Cx}{c:Expr}{t:TT}(h:PT X c t):PTs X [c] t:=λ pins s σ H Q I q=>wpAny_tests_one (h pins s σ H Q I q)
def Jkd (J:It) (g:TG) (tt:TT) (te:TE) (l:Addr) (σ0:St) (H0:Hp) (Q:Hp->Prop):Prop:=
 ∃ W:Nat->Nat->St->Hp->Prop,(∃ m,W 0 m σ0 H0)/\∀ i m σ H,W i m σ H ->
  (J.stop i H/\Q H)\/(J.go i H/\∀ x H',J.yld i H x H'->g x σ H' λ σ2 H2=>tt σ2 H2 λ c H3=>
   if c=true then te σ2 H3 λ y H4=>∃ xs,H4 l=some (.lst xs)/\xs.length<sizeLine/\∃ m',m'<m/\W (i+1) m' σ2 (upd H4 l (.lst (xs++[y])))
   else ∃ m',m'<m/\W (i+1) m' σ2 H3)
def B1 (wi:TI) (k:Nat) (idx:List Nat) (g:TG) (tt:TT) (te:TE):TE:=λ σ H Q=>wi σ H λ J H1=>∀ l,H1 l=none->Jkd J g tt te l (Yl k idx σ) (upd H1 l (.lst [])) λ H2=>Q (.ref l) H2
section
variable {X:Cx}{tg iter elt:Expr}{ifs:List Expr}{scope sc:Yav}{N N':List Str}{k:Nat}{idx:List Nat}{wi:TI}{g:TG}{tt:TT}{te:TE}{pos:Pos}
structure Free1 (X:Cx) (pins:List (Addr×Obj)) (H:Hp) (C:Addr):Prop where
 loc:C≠X.env.locals
 cel:∀ x c,X.env.cells.lookup x=some c->c≠C
 fr:H C=none
 new:X.s₀.heap.objs.size<=C
 pin:∀ p∈X.pn++pins,p.1≠C
theorem Inv.freed {X:Cx}{pins:List (Addr×Obj)}{σ:St}{H:Hp}{s:Yap}{C:Addr}{h':Heap}(I:Inv X pins σ H s) (f:Free1 X pins H C) (hs:X2 C s.heap h'):Inv X pins σ H { s with heap:=h' }:=
 I.turned (t':=s.toks) (it:=C) (λ b o hb e=>(hs.2 b hb).trans e) f.fr f.loc (.inr f.new) f.cel f.pin
theorem Jhd {pins:List (Addr×Obj)}{s:Yap}{σ:St}{E:Yan->Yap->Prop}{RR:Yan->Addr->Ya8->Yap->Prop}{itv:Yan}{Qe:Addr->Hp->Prop}
 (hc:X.calm=true) (S:CompScope sc N scope N' k idx) (hsc:X.env.scope=sc) (hNN:X.N=N)
 (hg:∀ C s H fp,PG (Wf X N' scope C s H fp) tg g) (ht:∀ C s H fp,PTs (Wf X N' scope C s H fp) ifs tt) (he:∀ C s H fp,PE (Wf X N' scope C s H fp) elt te)
 (hit:PIE X pins σ tg (λ J H1=>∀ l,H1 l=none->Jkd J g tt te l (Yl k idx σ) (upd H1 l (.lst [])) λ H2=>Qe l H2) itv s)
 (hRR:∀ l H2 C s2,Inv X pins σ H2 s2->(∃ m,s2.heap.Ns C m)->Free1 X pins H2 C->Qe l H2->RR (.ref l) C (.ok .next) s2) :
 Yaq (model X.prog X.w) X.A (newList []) (λ acc s₃=>Yaq (model X.prog X.w) X.A (newFunctionEnv scope X.env.globals (Yd X.env scope.names []) [] X.env.qual none .none (some X.env)) (λ cenv s₄=>
  Ya1 (model X.prog X.w) X.A (.compStart (.ListComp elt [⟨tg,iter,ifs,0⟩] scope pos) 0 itv acc { cenv with scope:=relabel scope X.env }) (RR acc cenv.locals) s₄) E s₃) E s:=by
 obtain ⟨it,fp,tn,J,H1,rfl,I1,T,st1,f1,q⟩:=hit
 refine wpAny_newObj_type ?_
 have hf0:H1 s.heap.objs.size=none:=I1.hok.fresh (Qn _)
 have hflt:∀ b∈fp,b<s.heap.objs.size:=λ b hb=>let ⟨_,e,_⟩:=T.obj _ _ st1 b hb;Qs e
 generalize hl:s.heap.objs.size=l at *
 have I2:Inv X pins σ (upd H1 l (.lst [])) { s with heap:=s.heap.push { cls:=.type "list",dict:=none,data:=.seq ([]:List Yan).toArray } }:=
  I1.laid (t':=s.toks) (λ b u e=>Qu _ e) (J5i hl) (show Y3 _ _ _ _ l (.lst []) from ⟨Xo _,[],0,.nil,by rw [<- hl];exact Q9 _ rfl⟩)
 have st2:tn 0 (s.heap.push { cls:=.type "list",dict:=none,data:=.seq ([]:List Yan).toArray }):=T.keep _ _ _ st1 λ b _ o e=>Qu _ e
 have f2:∀ b∈fp,Jc9 X pins (upd H1 l (.lst [])) b:=λ b hb=>⟨by rw [Jf (Q8 (hflt b hb))];exact (f1 b hb).1,(f1 b hb).2⟩
 have hsz2:(s.heap.push { cls:=.type "list",dict:=none,data:=.seq ([]:List Yan).toArray }).objs.size=l+1:=by rw [Xw,hl]
 have q2:=q l hf0
 generalize hs2:({ s with heap:=s.heap.push { cls:=.type "list",dict:=none,data:=.seq ([]:List Yan).toArray } }:Yap)=s2 at I2 ⊢
 have st2:tn 0 s2.heap:=by rw [<- hs2];exact st2
 have hsz2:s2.heap.objs.size=l+1:=by rw [<- hs2];exact hsz2
 refine wpAny_newFunctionEnv S.nocell (by intro y hy;simp at hy) (λ h₁ hns₁ hsb₁=>?_) S.kind
 have hk1:∀ b o,s2.heap.get? b=some o->h₁.get? b=some o:=λ b o e=>hsb₁.extBut b o (Q8 (Qs e)) (Qu _ e)
 have hlt2:∀ b∈fp,b<s2.heap.objs.size:=λ b hb=>by rw [hsz2];exact J4n (hflt b hb)
 have I3:=Joi (t':=s2.toks+([]:List (Str×Yan)).length) I2 S hsc hNN f2 hlt2 (by simpa using hns₁) hk1
 generalize hC:s2.heap.objs.size=C at *
 have st3:tn 0 h₁:=T.keep _ _ _ st2 λ b _ o e=>hk1 b o e
 obtain ⟨W,⟨m0,w0⟩,turn⟩:=q2
 -- back to the frame around
 have back:∀ {σ':St} {H':Hp} {s':Yap},Inv (Wf X N' scope C s2 (upd H1 l (.lst [])) fp) [] σ' H' s'->Inv X pins σ H' s':=λ {σ' H' s'} I'=>
  I2.call' I'.os I'.base I'.hok I'.bare λ b hb=>⟨(f2 b hb).2.2.2.1,(f2 b hb).2.1,(f2 b hb).2.2.2.2.1,(f2 b hb).2.2.2.2.2⟩
 have loop:∀ s₃:Yap,s₃ = { s2 with heap:=h₁,toks:=s2.toks+([]:List (Str×Yan)).length } ->
  Ya1 (model X.prog X.w) X.A (.compLoop (.ListComp elt [⟨tg,iter,ifs,0⟩] scope pos) 0 (.ref it) (.ref l) (compEnvC scope (Yd X.env scope.names []) C X.env)) (RR (.ref l) C) s₃:=by
  rintro s₃ rfl
  refine Jf2 (λ n s'=>∃ i σ' H',Inv (Wf X N' scope C s2 (upd H1 l (.lst [])) fp) [] σ' H' s'/\tn i s'.heap/\(∀ b∈fp,H' b=none)/\W i n σ' H') ?_ m0 ⟨0,_,_,I3,st3,λ b hb=>(f2 b hb).1,w0⟩
  rintro n s4 ⟨i,σ4,H4,I4,st4,fr4,w4⟩
  have stat:∀ {H':Hp},(∀ b∈fp,H' b=none)->∀ b∈fp,Jc9 (Wf X N' scope C s2 (upd H1 l (.lst [])) fp) [] H' b:=λ {H'} hn b hb=>
   ⟨hn b hb,(I4.ok.exf b hb).1,I4.ok.exfs b hb,.inl hb,(I4.ok.exf b hb).2,λ p hp=>by cases hp⟩
  rcases turn i n σ4 H4 w4 with ⟨stop,qn⟩ | ⟨go,step⟩
  . refine thn (T.done (Wf X N' scope C s2 (upd H1 l (.lst [])) fp) rfl rfl rfl hc i [] s4 σ4 H4 NoE I4 (stat fr4) st4 stop) λ r s5 ⟨hr,I5⟩=>?_
    subst hr
    have IX:=back I5
    have hCl:C≠X.env.locals:=λ e=>by
     have:=I2.lt
     rw [hC,<- e] at this
     exact Xd _ this
    have hCc:∀ x c,X.env.cells.lookup x=some c->c≠C:=λ x c e z=>by
     obtain ⟨v,o,ho,_⟩:=I2.cell x c e
     have:=Qs ho
     rw [hC,z] at this
     exact Xd _ this
    obtain ⟨m5,hm5,_⟩:=I5.loc
    refine hRR l H4 C s5 IX ⟨m5,hm5⟩ ⟨hCl,hCc,I5.free,by rw [<- hC];exact I2.sz,λ p hp z=>?_⟩ qn
    obtain ⟨e,_⟩:=I2.pin p hp
    have:=Qs e
    rw [hC,z] at this
    exact Xd _ this
  . refine thn (T.item (Wf X N' scope C s2 (upd H1 l (.lst [])) fp) rfl rfl rfl hc i [] s4 σ4 H4 NoE I4 (stat fr4) st4 go) λ r s5 ⟨u,hr,h5⟩=>?_
    subst hr
    refine thn h5 λ _ s6 ⟨x,H6,I6,r6,y6,st6,fr6⟩=>?_
    have I6':=I6.pinned (stat fr6) (T.obj _ _ st6)
    have keepT:∀ {σ7:St} {H7:Hp} {s7:Yap},Inv (Wf X N' scope C s2 (upd H1 l (.lst [])) fp) ([]++Je8 fp s6.heap) σ7 H7 s7->tn (i+1) s7.heap/\∀ b∈fp,H7 b=none:=λ {σ7 H7 s7} I7=>
     ⟨T.keep _ _ _ st6 λ b hb o e=>(I7.pin (b,o) (Xi _ (Xi _ (V5 hb e)))).1,λ b hb=>by
      obtain ⟨o,e,d⟩:=T.obj _ _ st6 b hb
      exact (I7.pin (b,o) (Xi _ (Xi _ (V5 hb e)))).2.1⟩
    refine thn (hg C s2 (upd H1 l (.lst [])) fp _ s6 σ4 H6 x u _ I6' r6 (step x H6 y6)) λ _ s7 ⟨σ7,H7,I7,q7⟩=>?_
    refine thn (ht C s2 (upd H1 l (.lst [])) fp _ s7 σ7 H7 _ I7 q7) λ ok s8 ⟨H8,I8,q8⟩=>?_
    cases ok with
    | false=>
     rw [if_neg (by decide)] at q8 ⊢
     obtain ⟨m',hm,w8⟩:=q8
     have kt:=keepT I8
     exact ⟨m',hm,i+1,σ7,H8,I8.unpinned,kt.1,kt.2,w8⟩
    | true=>
     rw [if_pos rfl] at q8 ⊢
     refine thn (he C s2 (upd H1 l (.lst [])) fp _ s8 σ7 H8 _ I8 q8) λ v s9 ⟨y,H9,I9,r9,xs,e9,z9,m',hm,w9⟩=>?_
     refine thn (V6 _ s9 σ7 H9 (.ref l) [y] (.ref l) [v] (λ z H10=>z = .non/\H10=upd H9 l (.lst (xs++[y]))) I9 rfl (.cons r9 .nil) ⟨l,xs,y,rfl,rfl,e9,z9,rfl,rfl⟩) λ _ s10 ⟨z,H10,I10,_,_,e10⟩=>?_
     subst e10
     have kt:=keepT I10
     exact ⟨m',hm,i+1,σ7,_,I10.unpinned,kt.1,kt.2,w9⟩
 have e2:(newEnv scope C X.env.globals (Yd X.env scope.names []) X.env.qual none .none (some X.env) Ybp).locals=C:=rfl
 show Ya1 _ _ (.compStart _ 0 (.ref it) (.ref l) (compEnvC scope (Yd X.env scope.names []) C X.env)) (RR (.ref l) C) _
 exact Yb2 (loop _ rfl) (T.self _ 0 _ _ _ st3 (loop _ rfl))
theorem Yx (hc:X.calm=true) (S:CompScope sc N scope N' k idx) (hsc:X.env.scope=sc) (hNN:X.N=N) (hi:PI X tg iter wi)
 (hg:∀ C s H fp,PG (Wf X N' scope C s H fp) tg g) (ht:∀ C s H fp,PTs (Wf X N' scope C s H fp) ifs tt) (he:∀ C s H fp,PE (Wf X N' scope C s H fp) elt te)
 (hs:∀ x,Ybq iter X.env x=pure x:=by intro _;rfl):PE X (.ListComp elt [⟨tg,iter,ifs,0⟩] scope pos) (B1 wi k idx g tt te):=by
 intro pins s σ H Q I h
 rw [eval_ListComp]
 have hclos:Ybn scope X.env=pure (Yd X.env scope.names []):=Bf λ x hx hfree=>I.ok.has x.1 (by
  show X.env.scope.names.lookup x.1=_\/X.env.scope.names.lookup x.1=_
  rw [hsc];exact S.fr x hx hfree)
 refine wpAny_comprehension_free (use:=none) rfl hs hclos S.kind S.loc (thn (hi pins s σ H _ I h) λ v s1 h1=>thn h1 λ itv s2 h2=>?_)
 refine Jhd (RR:=λ acc C=>compPost (model X.prog X.w) X.A X.xe none (EP X pins σ Q) acc C) (Qe:=λ l H2=>Q (.ref l) H2) hc S hsc hNN hg ht he h2 ?_
 intro l H2 C s2 I2 hm f q
 obtain ⟨m,hm⟩:=hm
 exact ⟨m,hm,λ h' hs'=>⟨.ref l,H2,I2.freed f hs',rfl,q⟩⟩
def Vu (i:Nat) (wi:TI) (k:Nat) (idx:List Nat) (g:TG) (tt:TT) (te:TE):TS:=λ D σ H=>wi σ H λ J H1=>∀ l,H1 l=none->Jkd J g tt te l (Yl k idx σ) (upd H1 l (.lst [])) λ H2=>D.nx (σ.set i (some (.ref l))) H2
theorem Zx {i:Nat}{y:Str}{py spos:Pos}(hc:X.calm=true) (hN:X.N.Nodup) (hiN:X.N[i]? = some y) (hy:X.env.scope.names.lookup y=some .local) (S:CompScope sc N scope N' k idx) (hsc:X.env.scope=sc) (hNN:X.N=N) (hi:PI X tg iter wi)
 (hg:∀ C s H fp,PG (Wf X N' scope C s H fp) tg g) (ht:∀ C s H fp,PTs (Wf X N' scope C s H fp) ifs tt) (he:∀ C s H fp,PE (Wf X N' scope C s H fp) elt te)
 (hsw:Ybg (.ListComp elt [⟨tg,iter,ifs,0⟩] scope pos) (some (.Name y py)) spos.line X.env=pure true:=by rfl)
 (hs:∀ x,Ybq iter X.env x=pure x:=by intro _;rfl):PS X (.Assign [.Name y py] (.ListComp elt [⟨tg,iter,ifs,0⟩] scope pos) spos) (Vu i wi k idx g tt te):=by
 intro pins s σ H D I h
 rw [Yb3 _ _ _ _ hsw]
 refine wpAny_bind (wpAny_standAt (wpAny_bind ?_))
 show Yaq _ X.A (do let _ <- comprehension (.ListComp elt [⟨tg,iter,ifs,0⟩] scope pos) scope X.env _ (newList []) false (eval iter X.env) (some (assign (.Name y py) X.env))) _ _ s
 have hclos:Ybn scope X.env=pure (Yd X.env scope.names []):=Bf λ x hx hfree=>I.ok.has x.1 (by
  show X.env.scope.names.lookup x.1=_\/X.env.scope.names.lookup x.1=_
  rw [hsc];exact S.fr x hx hfree)
 refine wpAny_bind (wpAny_mono (wpAny_comprehension_free (use:=some (assign (.Name y py) X.env)) (Q:=λ _ s'=>SP X pins D .next s') rfl hs hclos S.kind S.loc (thn (hi pins s σ H _ I h) λ v s1 h1=>thn h1 λ itv s2 h2=>?_))
  (λ _ s' hq=>wpAny_pure (wpAny_pure hq)) λ _ _ e=>e)
 refine Jhd (RR:=λ acc C=>compPost (model X.prog X.w) X.A X.xe (some (assign (.Name y py) X.env)) (λ _ s'=>SP X pins D .next s') acc C) (Qe:=λ l H2=>D.nx (σ.set i (some (.ref l))) H2) hc S hsc hNN hg ht he h2 ?_
 intro l H2 C s2 I2 hm f q
 obtain ⟨m,hm⟩:=hm
 show Yaq _ X.A (assign (.Name y py) X.env (.ref l)) _ _ _
 refine Ybu (Je7 (v:=.ref l) I2 hN hiN (.inl hy) rfl (λ s' I' hch=>?_) (.inr hy))
 obtain ⟨a,hsb,ha⟩:=hch
 have haC:C≠a:=λ z=>by
  rcases ha with e | e
  . exact f.loc (z.trans e)
  . exact f.cel y a e z.symm
 exact ⟨m,hm.sameBut hsb haC,λ h' hs'=>⟨_,H2,I'.freed f hs',q⟩⟩
end
noncomputable def Jbg (C:Addr) (ns:List Str) (ds:List Yao):List (Yao×Yao):=(.int (C:Nat),.none)::J4o (λ n d=>(PyData.str n,d)) ns ds
mutual
inductive Rep (ex:List Addr) (H:Hp):Yao->V->Prop
 | none:Rep ex H .none .non
 | bool (b:Bool):Rep ex H (.bool b) (.bl b)
 | int (i:Int):Rep ex H (.int i) (.int i)
 | str (x:Str):Rep ex H (.str x) (.str x)
 | tuple {a:Addr} {xs:List V} {ds:List Yao} (e:H a=some (.tup xs)) (n:a∉ex) (z:xs.length<=sizeLine) (r:Reps ex H ds xs):Rep ex H (.tuple ds) (.ref a)
 | list {a:Addr} {xs:List V} {ds:List Yao} (e:H a=some (.lst xs)) (n:a∉ex) (z:xs.length<=sizeLine) (r:Reps ex H ds xs):Rep ex H (.list ds) (.ref a)
 | obj {a C dx:Addr} {fs:List (Str×V)} {ds:List Yao} {kvs:List (Yao×Yao)} (e:H a=some (.ins C dx fs)) (n:a∉ex) (k:kvs=Jbg C (fs.map (·.1)) ds) (r:Reps ex H ds (fs.map (·.2))):Rep ex H (.dict kvs) (.ref a)
inductive Reps (ex:List Addr) (H:Hp):List Yao->List V->Prop
 | nil:Reps ex H [] []
 | cons {d:Yao} {v:V} {ds:List Yao} {vs:List V}:Rep ex H d v->Reps ex H ds vs->Reps ex H (d::ds) (v::vs)
end
def Kp (ex:List Addr) (H H':Hp):Prop:=∀ b o,H b=some o->b∉ex->H' b=some o
theorem Kp.refl {ex:List Addr}{H:Hp}:Kp ex H H:=λ _ _ e _=>e
theorem Kp.trans {ex:List Addr}{H H1 H2:Hp}(a:Kp ex H H1) (b:Kp ex H1 H2):Kp ex H H2:=λ c o e n=>b c o (a c o e n) n
theorem Kp.of {ex:List Addr}{H H':Hp}(a:Kp [] H H'):Kp ex H H':=λ c o e _=>a c o e (by simp)
theorem Kp.mono {ex ex':List Addr}{H H':Hp}(a:Kp ex H H') (h:∀ b∈ex,b∈ex'):Kp ex' H H':=λ c o e n=>a c o e λ z=>n (h c z)
theorem Kp.new {ex:List Addr}{H:Hp}{p:Addr}(h:H p=none) (o:HO):Kp ex H (upd H p o):=λ b u q _=>by rw [Jf (Jp q h)];exact q
theorem Kp.at {ex:List Addr}{H:Hp}{p:Addr}(h:p∈ex) (o:HO):Kp ex H (upd H p o):=λ b u q n=>by rw [Jf (λ (z:b=p)=>n (by rw [z];exact h))];exact q
mutual
theorem Rep.keep {ex:List Addr}{H H':Hp}(k:Kp ex H H'):∀ {d:Yao}{v:V},Rep ex H d v->Rep ex H' d v
 | _,_,.none=>.none
 | _,_,.bool b=>.bool b
 | _,_,.int i=>.int i
 | _,_,.str x=>.str x
 | _,_,.tuple e n z r=>.tuple (k _ _ e n) n z (Reps.keep k r)
 | _,_,.list e n z r=>.list (k _ _ e n) n z (Reps.keep k r)
 | _,_,.obj e n q r=>.obj (k _ _ e n) n q (Reps.keep k r)
theorem Reps.keep {ex:List Addr}{H H':Hp}(k:Kp ex H H'):∀ {ds:List Yao}{vs:List V},Reps ex H ds vs->Reps ex H' ds vs
 | _,_,.nil=>.nil
 | _,_,.cons r t=>.cons (Rep.keep k r) (Reps.keep k t)
end
theorem Reps.length {ex:List Addr}{H:Hp}:∀ {ds:List Yao}{vs:List V},Reps ex H ds vs->ds.length=vs.length
 | _,_,.nil=>rfl
 | _,_,.cons _ t=>by simp [Reps.length t]
theorem Reps.get {ex:List Addr}{H:Hp}:∀ {ds:List Yao}{vs:List V}{i:Nat}{d:Yao},Reps ex H ds vs->ds[i]? = some d->∃ v,vs[i]? = some v/\Rep ex H d v
 | _,_,_,_,.nil,e=>by simp at e
 | _,_,0,_,.cons r _,e=>by simp at e;subst e;exact ⟨_,rfl,r⟩
 | _,_,i+1,d,.cons _ t,e=>by
  obtain ⟨u,h1,h2⟩:=Reps.get (i:=i) (d:=d) t (by simpa using e)
  exact ⟨u,by simpa using h1,h2⟩
theorem Reps.append {ex:List Addr}{H:Hp}:∀ {ds es:List Yao}{vs ws:List V},Reps ex H ds vs->Reps ex H es ws->Reps ex H (ds++es) (vs++ws)
 | _,_,_,_,.nil,s=>s
 | _,_,_,_,.cons r t,s=>.cons r (Reps.append t s)
theorem Reps.take {ex:List Addr}{H:Hp}:∀ {ds:List Yao}{vs:List V}(n:Nat),Reps ex H ds vs->Reps ex H (ds.take n) (vs.take n)
 | _,_,0,_=>.nil
 | _,_,_+1,.nil=>.nil
 | _,_,n+1,.cons r t=>.cons r (Reps.take n t)
theorem Reps.drop {ex:List Addr}{H:Hp}:∀ {ds:List Yao}{vs:List V}(n:Nat),Reps ex H ds vs->Reps ex H (ds.drop n) (vs.drop n)
 | _,_,0,r=>r
 | _,_,_+1,.nil=>.nil
 | _,_,n+1,.cons _ t=>Reps.drop n t
theorem Reps.ints {ex:List Addr}{H:Hp}:∀ ns:List Int,Reps ex H (ns.map Qv) (ns.map V.int)
 | []=>.nil
 | n::r=>.cons (.int n) (Reps.ints r)
theorem Reps.ints_inv {ex:List Addr}{H:Hp}:∀ {ns:List Int}{vs:List V},Reps ex H (ns.map Qv) vs->vs=ns.map V.int
 | [],_,.nil=>rfl
 | n::r,_,.cons (.int _) t=>by rw [Reps.ints_inv t];rfl
theorem Reps.rep {ex:List Addr}{H:Hp}{ds:List Yao}{vs:List V}(h:Reps ex H ds vs):∀ k:Nat,Reps ex H (Qo k ds).flatten (Qo k vs).flatten
 | 0=>.nil
 | k+1=>by
  rw [U6,U6,J3y,J3y]
  exact Reps.append h (Reps.rep h k)
theorem Jl8 {d:Yao}{ds:List Yao}(h:J3z (d::ds)=true):d.canLay0=true/\J3z ds=true:=by rw [J3z,Xx] at h;exact h
mutual
theorem Rep.reads {ex:List Addr}{P:Yas}{w:Yar}{H:Hp}{h:Heap}(ok:HOk P w H h):∀ {d:Yao}{v:V}{u:Yan},d.canLay0=true->Rep ex H d v->Yk v u->∃ as,Reads h u d as
 | _,_,_,_,.none,r=>by cases (show _=Ut from r);exact ⟨_,.none⟩
 | _,_,_,_,.bool b,r=>by cases (show _=J36 b from r);exact ⟨_,.bool b⟩
 | _,_,_,_,.int i,r=>by obtain ⟨t,rfl⟩:=(show ∃ t,_=Us i t from r);exact ⟨_,.int i t⟩
 | _,_,_,_,.str x,r=>by obtain ⟨t,rfl⟩:=(show ∃ t,_=J35 x t from r);exact ⟨_,.str x t⟩
 | _,_,_,hc,.tuple (a:=a) (xs:=xs) e n _ rs,r=>by
  cases (show _=Q1 a from r)
  obtain ⟨z,its,rv,o,e1,e2,n',e3⟩:=(show Y3 P w H h a (.tup xs) from ok a _ e)
  obtain ⟨as,ra⟩:=Reps.reads ok (by rw [U8] at hc;exact hc) rs rv
  exact ⟨as,.tuple e1 e2 e3 (by simpa using ra)⟩
 | _,_,_,hc,.list (a:=a) (xs:=xs) e n _ rs,r=>by
  cases (show _=Q1 a from r)
  obtain ⟨z,its,n',rv,e1⟩:=(show Y3 P w H h a (.lst xs) from ok a _ e)
  obtain ⟨as,ra⟩:=Reps.reads ok (by rw [U8] at hc;exact hc) rs rv
  exact ⟨_,.list e1 rfl rfl (by simpa using ra)⟩
 | _,_,_,hc,.obj _ _ _ _,r=>by rw [U8] at hc;cases hc
theorem Reps.reads {ex:List Addr}{P:Yas}{w:Yar}{H:Hp}{h:Heap}(ok:HOk P w H h):∀ {ds:List Yao}{vs:List V}{us:List Yan},J3z ds=true->Reps ex H ds vs->J9 vs us->∃ as,ReadsAll h us ds as
 | _,_,_,_,.nil,r=>by cases r;exact ⟨_,.nil⟩
 | _,_,_,hc,.cons q t,r=>by
  cases r with
  | cons r1 r2=>
   obtain ⟨as,h1⟩:=Rep.reads ok (Jl8 hc).1 q r1
   obtain ⟨bs,h2⟩:=Reps.reads ok (Jl8 hc).2 t r2
   exact ⟨_,.cons h1 h2⟩
end
section
variable {X:Cx}
def J1c:R2:=λ x y H Q=>∃ ex da db,Rep ex H da x/\Rep ex H db y/\da.canLay0=true/\db.canLay0=true/\min da.depth db.depth<=50/\Q (.bl (J3p da db)) H
theorem Joj (hu:X.A.units+64<cLine):OpR X (compareOp .Eq) J1c:=by
 intro pins s σ H x y v u Q I rx ry h
 obtain ⟨ex,da,db,r1,r2,c1,c2,hd,q⟩:=h
 obtain ⟨as,h1⟩:=Rep.reads I.hok c1 r1 rx
 obtain ⟨bs,h2⟩:=Rep.reads I.hok c2 r2 ry
 exact SeqAt.compareEq_reads h1 h2 c1 c2 (by omega) ⟨.bl (J3p da db),H,I,rfl,q⟩
theorem Jd7:Vs X (.builtin "all") (λ xs H Q=>X.calm=true/\∃ (p:Addr) (bs:List Bool),xs=[.ref p]/\SqL X.K H p (bs.map V.bl)/\Q (.bl (bs.all id)) H):=by
 intro pins s σ H xs us Q I r h
 obtain ⟨hc,p,bs,rfl,hq,q⟩:=h
 obtain ⟨u,rfl,ru⟩:=Jah r
 cases ru
 obtain ⟨its,rv,pl,hz⟩:=I.list hq
 have hl:=pl.isList
 have hlt:p<s.heap.objs.size:=by obtain ⟨_,e,_⟩:=hl;exact Qs e
 refine call_all_walk (wpAny_pyIter_list hl ?_)
 refine ⟨_,_,_,_,_,_,λ i=>bs.getD i true,rfl,J69 (A:=X.A.in1) (I.ok.hd hc) _ p (Q8 hlt) its.toArray,⟨⟨_,Q9 _ rfl,rfl,rfl⟩,hl.push _⟩,?_,λ h' tk hk=>?_⟩
 . intro i v s' Q' E' hP hQ
   have hP:its[i]? = some v:=by simpa using hP
   have hi:i<its.length:=(Qq.mp hP).1
   have hlen:=rv.length
   have hb:(bs.map V.bl)[i]? = some (V.bl (bs.getD i true)):=by
    rw [Qb] at hlen
    rw [Qj,Qd (by omega),Qg,Qd (by omega)]
    rfl
   obtain ⟨u,hu,ru⟩:=rv.get hb
   rw [hP] at hu
   cases hu
   cases (show v=J36 _ from ru)
   exact wpAny_truthy_bool hQ
 . have e:((Qk its.toArray.size).all λ i=>bs.getD i true)=bs.all id:=by
    have hlen:=rv.length
    rw [Qb] at hlen
    rw [Q7,<- hlen,Uh]
    simp only [X6,Xh]
    constructor
    . intro h b hb
      obtain ⟨i,hi,rfl⟩:=J5q.mp hb
      have:=h i hi
      rw [Qg,Qd hi] at this
      exact this
    . intro h i hi
      rw [Qg,Qd hi]
      exact h _ (Xe hi)
   rw [e]
   exact ⟨.bl (bs.all id),H,I.kept (t':=tk) (old_kept hk),rfl,q⟩
theorem Jd8:Vs X (.builtin "sum") (λ xs H Q=>X.calm=true/\∃ (p:Addr) (ns:List Int),xs=[.ref p]/\SqL X.K H p (ns.map V.int)/\Q (.int ns.sum) H):=by
 intro pins s σ H xs us Q I r h
 obtain ⟨hc,p,ns,rfl,hq,q⟩:=h
 obtain ⟨u,rfl,ru⟩:=Jah r
 cases ru
 obtain ⟨its,rv,pl,hz⟩:=I.list hq
 have hl:=pl.isList
 have hi:=Jdb rv
 obtain ⟨xs,e⟩:=hi.allInts.items
 rw [e] at hl
 refine sum_intListG (I.ok.hd hc) hl λ h' tk t' hk=>?_
 have e2:preSum (numAt xs) xs.size=ns.sum:=by
  have h1:=hi.numsOf
  have h2:numsOf its.toArray.toList=(xs.toList.map (·.1)):=by rw [e,Ybx]
  rw [preSum_eq,J5r (by simp)]
  have h2':numsOf its=(xs.toList.map (·.1)):=by simpa using h2
  rw [<- h2',h1]
 rw [e2]
 exact ⟨.int ns.sum,H,I.kept (t':=tk) hk,⟨_,rfl⟩,q⟩
theorem Jl9:Vs X (.builtin "isinstance") (λ xs H Q=>∃ x T t b,xs=[x,.ty T]/\TyOf X.K H x t/\J6z X.K t (.type T)=some b/\Q (.bl b) H):=by
 intro pins s σ H xs us Q I r h
 obtain ⟨x,T,t,b,rfl,ty,e,q⟩:=h
 obtain ⟨u,w',rfl,ru,rw'⟩:=Jpx r
 cases (show w'=J37 T from rw')
 exact Jrd I ru ty e λ tk=>⟨.bl b,H,I.tok tk,rfl,q⟩
noncomputable def Jke:Yao->String
 | .none=>"NoneType"
 | .bool _=>"bool"
 | .int _=>"int"
 | .str _=>"str"
 | .list _=>"list"
 | .tuple _=>"tuple"
 | .dict _=>"dict"
noncomputable def noD:Yao->Bool
 | .dict _=>false
 | _=>true
theorem Rep.tyOf {ex:List Addr}{H:Hp}{K:Qc}{d:Yao}{v:V}(hn:noD d=true) (r:Rep ex H d v):TyOf K H v (.type (Jke d)):=by
 cases r with
 | none=>exact .non
 | bool b=>exact .bl b
 | int i=>exact .int i
 | str x=>exact .str x
 | tuple e n z r=>exact .tup e
 | list e n z r=>exact .lst e
 | obj=>cases hn
def Jx5 (i j:Int):Prop:=0<j/\j.natAbs.log2<9000
theorem Ja1:OpR X (binaryOp .FloorDiv) (rI Jx5 λ i j=>.int (i/j)):=opI λ i j _ _ _ _ _ hc q=>by
 have h1:(0:Int)<j:=hc.1
 exact floordiv_int (by omega) (by rw [Int.fdiv_eq_ediv_of_nonneg i (by omega)];exact q) (.inl (PyProof.noPylong_of_log2 hc.2))
end
theorem Ja2 {i j:Int}(h0:0<j) (h1:j<2^9000):Jx5 i j:=by
 refine ⟨h0,?_⟩
 have hn:j.natAbs≠0:=by omega
 rw [J7a hn]
 have:(j.natAbs:Int)=j:=J4p (by omega)
 have h2:((j.natAbs:Nat):Int)<((2^9000:Nat):Int):=by rw [this];exact_mod_cast h1
 exact_mod_cast h2
def Cal (P:Yas) (w:Yar) (K:Qc) (mg:Str->Option Yan) (base:Heap) (name:Str) (k:Nat) (ps:List Str) (sp:Sp):Prop:=
 ∃ f fd,mg name=some (.ref f)/\Uj K (.ref f)=true/\Bu K fd ps []/\FnOk P w K mg base CX0 k f fd ps sp
def Def (K:Qc) (mg:Str->Option Yan) (name:Str) (st:Stmt) (ps:List Str):Prop:=
 ∃ f fd,mg name=some (.ref f)/\Fun K name name st f fd/\Bu K fd ps []
theorem Def.cal {P:Yas}{w:Yar}{K:Qc}{mg:Str->Option Yan}{base:Heap}{name:Str}{st:Stmt}{ps:List Str}{k:Nat}{sp:Sp}(d:Def K mg name st ps)
 (h:∀ f fd,Fun K name name st f fd->FnOk P w K mg base CX0 k f fd ps sp):Cal P w K mg base name k ps sp:=by
 obtain ⟨f,fd,hm,F,b⟩:=d
 exact ⟨f,fd,hm,F.kp,b,h f fd F⟩
theorem Cal.imp {P:Yas}{w:Yar}{K:Qc}{mg:Str->Option Yan}{base:Heap}{name:Str}{k:Nat}{ps:List Str}{sp sp':Sp}(c:Cal P w K mg base name k ps sp) (h:∀ vs H Q E,sp' vs H Q E->sp vs H Q E):Cal P w K mg base name k ps sp':=by
 obtain ⟨f,fd,hm,hk,b,F⟩:=c
 exact ⟨f,fd,hm,hk,b,F.imp h⟩
section
variable {X:Cx}{x:Str}{e:Expr}{es:List Expr}{p pos:Pos}{t:TA}{k:Nat}{ps:List Str}{sp:Sp}
theorem Yz (c:Cal X.prog X.w X.K X.mg X.base x k ps sp) (hr:Room k X.A) (hg:Gl X x) (ha:PA X (e::es) t) (hdb:(x==("__debug__":Str))=false:=by decide)
 (he:starEach (e::es) X.env=(false,eval e X.env)::starEach es X.env:=by rfl) (hpl:(backTo pos (starEach es X.env)).any (·.1)=false:=by rfl) :
 PE X (.Call (.Name x p) (e::es) [] pos) (Jjh sp [] E0 t):=by
 obtain ⟨f,fd,hm,hk,b,F⟩:=c
 exact Jvy F hr hg hm hk b .nil Jta ha hdb he hpl
end
section
variable {X:Cx}
end
theorem Jfd:fillsNumberSlot (.type "tuple") "mul" = pure false:=
 PySem.fillsNumberSlot_seq (id:="tuple.__mul__") (r:=some (.builtin "tuple.__rmul__")) J4q.lookup (by decide +kernel) J8w.lookup (by decide +kernel)
theorem Jkf:seqRepeat? (.type "tuple")=pure (some (.builtin "tuple.__mul__")):=by
 unfold seqRepeat?
 rw [J7b (T:="tuple") (name:="__mul__") (id:="tuple.__mul__") J4q.lookup (by decide +kernel),J7b (T:="tuple") (name:="__rmul__") (id:="tuple.__rmul__") J8w.lookup (by decide +kernel)]
 rfl
theorem Jhe (a:Int) (t:Tok) (l:Addr) (items:Array Yan) (n:Nat) (dd:Option Addr) (sl:Array (Option Yan)) :
 Meets (Builtin.«int.__rmul__» ⟨[.int a t,.ref l],[]⟩) (λ _ R s=>s.heap.get? l=some { cls:=.type "tuple",dict:=dd,data:=.seq items n,slots:=sl }/\R (.ok (.ret Value.notImplemented)) s):=
 .of_wp λ prog w A R s h=>by obtain ⟨hp,g,d,tk,os⟩:=s;obtain ⟨hl,h⟩:=h;wp_walk;exact ⟨_,rfl,h⟩
theorem Jok (l:Addr) (items:Array Yan) (n:Nat) (dd:Option Addr) (sl:Array (Option Yan)) (u:Tok) :
 Meets (Builtin.«tuple.__mul__» ⟨[.ref l,.int 1 u],[]⟩) (λ _ R s=>s.heap.get? l=some { cls:=.type "tuple",dict:=dd,data:=.seq items n,slots:=sl }/\R (.ok (.ret (Q1 l))) s):=
 .of_wp λ prog w A R s h=>by
  obtain ⟨hp,g,d,tk,os⟩:=s;obtain ⟨hl,h⟩:=h
  have f1:=J7c
  wp_walk using J30 hl
  exact ⟨_,rfl,h⟩
theorem Jol (l:Addr) (items:Array Yan) (n:Nat) (dd:Option Addr) (sl:Array (Option Yan)) (x:Int) (u:Tok) (he:¬ items.isEmpty=true) (h0:x<=0) (h1:-(2^63)<=x) :
 Meets (Builtin.«tuple.__mul__» ⟨[.ref l,.int x u],[]⟩) (λ _ R s=>s.heap.get? l=some { cls:=.type "tuple",dict:=dd,data:=.seq items n,slots:=sl }/\R (.ok (.ret (Q1 s.heap.objs.size))) { s with heap:=s.heap.push { cls:=J37 "tuple",data:=J4l #[] },toks:=s.toks }):=
 .of_wp λ prog w A R s h=>by
  obtain ⟨hp,g,d,tk,os⟩:=s;obtain ⟨hl,h⟩:=h
  have f1:=J7c
  have c0:¬ (decide (x < -2^63)||decide (x≥2^63))=true:=by simp;omega
  have c1:¬ (items.isEmpty||x==1)=true:=by
   have:¬ x=1:=by omega
   simp_all
  have c2:(decide (x<=0)||items.isEmpty)=true:=by simp [h0]
  wp_walk using J30 hl
  refine Ybd (decide_eq_false c0) ?_
  wp_walk using J30 hl
  refine Ybd (decide_eq_false c1) ?_
  wp_walk using J30 hl
  exact ⟨_,rfl,h⟩
theorem Jom (l:Addr) (items:Array Yan) (n:Nat) (dd:Option Addr) (sl:Array (Option Yan)) (x:Int) (u:Tok) (he:¬ items.isEmpty=true) (h0:2<=x) (hz:(items.size:Int)*x<=sizeLine) :
 Meets (Builtin.«tuple.__mul__» ⟨[.ref l,.int x u],[]⟩) (λ _ R s=>s.heap.get? l=some { cls:=.type "tuple",dict:=dd,data:=.seq items n,slots:=sl }/\R (.ok (.ret (Q1 s.heap.objs.size))) { s with heap:=s.heap.push { cls:=J37 "tuple",data:=J4l ((Qo x.toNat items).foldl (· ++ ·) #[]) },toks:=s.toks }):=
 .of_wp λ prog w A R s h=>by
  obtain ⟨hp,g,d,tk,os⟩:=s;obtain ⟨hl,h⟩:=h
  have f1:=J7c
  have hs:sizeLine=16777216:=Yau
  have hpos:1<=(items.size:Int):=by
   have:items.size≠0:=λ z=>he (by simpa using z)
   omega
  have hx:x<=(items.size:Int)*x:=by
   have:=Int.mul_le_mul_of_nonneg_right hpos (show 0<=x by omega)
   omega
  have c0:¬ (decide (x < -2^63)||decide (x≥2^63))=true:=by simp;omega
  have c1:¬ (items.isEmpty||x==1)=true:=by
   have:¬ x=1:=by omega
   simp_all
  have c2:¬ (decide (x<=0)||items.isEmpty)=true:=by
   have:¬ x<=0:=by omega
   simp_all
  have c3:¬ (items.size:Int)*x>(2^63-1)/8:=by omega
  have c4:¬ J8x ((items.size:Int)*x)=true:=by unfold J8x;simp;omega
  have c5:¬ (J4k (λ x1 x2=>x1++x2) #[] (Qo x.toNat items)).size>sizeLine:=by
   have e:=Jcq items.toList x.toNat []
   have e2:items.toList.toArray=items:=rfl
   rw [J5o,e2] at e
   rw [e,Q7,Jd5]
   have e3:(((x.toNat*items.toList.length:Nat)):Int)=(items.size:Int)*x:=by
    rw [J7d,U9 (by omega),Xz];rfl
   omega
  wp_walk using J30 hl
  refine Ybd (decide_eq_false c0) ?_
  wp_walk using J30 hl
  refine Ybd (decide_eq_false c1) ?_
  wp_walk using J30 hl
  refine Ybd (decide_eq_false c2) ?_
  wp_walk
  refine Ybd (decide_eq_false c3) ?_
  wp_walk
  refine Ybd (decide_eq_false c5) ?_
  wp_walk
  exact ⟨_,rfl,h⟩
section
variable {X:Cx}
def Jtb (K:Qc):R2:=λ x y H Q=>∃ a k xs,x = .ref a/\y = .int k/\SqT K H a xs/\xs≠[]/\-(2^63)<=k/\(xs.length:Int)*k<=sizeLine /\
 (k=1->Q (.ref a) H)/\(k≠1->∀ p,H p=none->Q (.ref p) (upd H p (.tup (Qo k.toNat xs).flatten)))
theorem Jp1:OpR X (binaryOp .Mult) (Jtb X.K):=by
 intro pins s σ H x y v u Q I rx ry h
 obtain ⟨a,k,xs,rfl,rfl,hq,hne,h1,hz,q1,q2⟩:=h
 cases rx
 obtain ⟨t,rfl⟩:=ry
 obtain ⟨its,r,pl,hz'⟩:=I.tuple hq
 have hl:=r.length
 obtain ⟨⟨cls,dd,data,sl⟩,ho,hc,n,hd⟩:=id pl
 simp only at hc hd
 subst hc hd
 have hne':¬ its.toArray.isEmpty=true:=by
  cases xs with
  | nil=>exact absurd rfl hne
  | cons z zs=>cases its with
   | nil=>simp at hl
   | cons _ _=>simp
 have f0:∀ m:Nat,J4k (λ x1 x2=>x1++x2) #[] (Qo m its.toArray)=(Qo m its).flatten.toArray:=λ m=>by
  have:=Jcq its m []
  rw [J5o] at this
  exact this
 have road:∀ {R:Yan->Yap->Prop},Yaq (model X.prog X.w) X.A (call (.builtin "tuple.__mul__") [.ref a,.int k t]) R X.xe s->Yaq (model X.prog X.w) X.A (binaryOp .Mult (.ref a) (.int k t)) R X.xe s:=λ {R} hw=>
  Yb1 (T:="tuple") (U:="int") (by decide) ⟨_,ho,rfl⟩ (λ s'=>typeIs_int s' k t) Jfd PySem.F.fills_int_mul J8y Jkf PySem.F.slot_int_index.lookup
   (call_meets J8y (typeIs_int s k t) PySem.F.entry_int_rmul (PySem.F.args_int_rmul_2 _ _) (Jhe k t a its.toArray n dd sl) ⟨ho,rfl,⟨_,ho,rfl⟩,hw⟩)
 refine road ?_
 have new:∀ (zs:List V) (ws:List Yan),J9 zs ws->zs.length<=sizeLine->Q (.ref s.heap.objs.size) (upd H s.heap.objs.size (.tup zs)) ->
  EP X pins σ Q (.ref s.heap.objs.size) { s with heap:=s.heap.push { cls:=.type "tuple",data:=.seq ws.toArray },toks:=s.toks }:=λ zs ws rv hz q=>
  ⟨.ref s.heap.objs.size,_,I.laid (t':=s.toks) (λ b u e=>Qu _ e) (Qn _) (show Y3 _ _ _ _ _ (.tup zs) from ⟨hz,ws,rv,_,Q9 _ rfl,rfl,0,rfl⟩),rfl,q⟩
 have hs:sizeLine=16777216:=Yau
 by_cases k1:k=1
 . subst k1
   exact call_meets J4q ⟨_,ho,rfl⟩ J7e (J7f _ _) (Jok a its.toArray n dd sl t) ⟨ho,.ref a,H,I,rfl,q1 rfl⟩
 . by_cases k0:k<=0
   . refine call_meets J4q ⟨_,ho,rfl⟩ J7e (J7f _ _) (Jol a its.toArray n dd sl k t hne' k0 h1) ⟨ho,?_⟩
     have:=q2 k1 _ I.fresh
     rw [show k.toNat=0 by omega] at this
     exact new [] [] .nil (by simp) this
   . have hz2:((its.toArray.size:Nat):Int)*k<=sizeLine:=by rw [Q7,<- hl];exact hz
     refine call_meets J4q ⟨_,ho,rfl⟩ J7e (J7f _ _) (Jom a its.toArray n dd sl k t hne' (by omega) hz2) ⟨ho,?_⟩
     rw [f0]
     refine new _ _ (r.rep k.toNat) ?_ (q2 k1 _ I.fresh)
     rw [Jd5]
     have e:(((k.toNat*xs.length:Nat)):Int)=(xs.length:Int)*k:=by
      rw [J7d,U9 (by omega),Xz]
     omega
end
noncomputable def Jhf (d:Yao) (T:String):Bool:=Jke d==T||(Jke d == "bool" && T == "int")
theorem J1d (K:Qc) (d:Yao) (T:String) (hT:T = "int"\/T = "bool"\/T = "str"\/T = "tuple"\/T = "list"):J6z K (.type (Jke d)) (.type T)=some (Jhf d T):=by
 rcases hT with rfl | rfl | rfl | rfl | rfl<;>cases d<;>first | rfl | kernel_rfl
theorem Jhg {X:Cx}:Vs X (.builtin "isinstance") (λ xs H Q=>∃ ex d x T,xs=[x,.ty T]/\Rep ex H d x/\noD d=true/\(T = "int"\/T = "bool"\/T = "str"\/T = "tuple"\/T = "list")/\Q (.bl (Jhf d T)) H):=by
 intro pins s σ H xs us Q I r h
 obtain ⟨ex,d,x,T,rfl,rd,hn,hT,q⟩:=h
 exact Jl9 pins s σ H _ us Q I r ⟨x,T,_,_,rfl,Rep.tyOf hn rd,J1d _ _ _ hT,q⟩
end L2
namespace My
open L2
theorem Jp2 {ex:List Addr}{H:Hp}{ds:List Yao}{v:V}(r:Rep ex H (.tuple ds) v):∃ a xs,v = .ref a/\H a=some (.tup xs)/\a∉ex/\xs.length<=sizeLine/\Reps ex H ds xs:=by
 cases r with | tuple e n z rs=>exact ⟨_,_,rfl,e,n,z,rs⟩
theorem Jgm {ex:List Addr}{H:Hp}{ds:List Yao}{v:V}(r:Rep ex H (.list ds) v):∃ a xs,v = .ref a/\H a=some (.lst xs)/\a∉ex/\xs.length<=sizeLine/\Reps ex H ds xs:=by
 cases r with | list e n z rs=>exact ⟨_,_,rfl,e,n,z,rs⟩
theorem Jzs {ex:List Addr}{H:Hp}{a b c:Yao}{vs:List V}(r:Reps ex H [a,b,c] vs):∃ x y z,vs=[x,y,z]/\Rep ex H a x/\Rep ex H b y/\Rep ex H c z:=by
 cases r with | cons r1 r=>cases r with | cons r2 r=>cases r with | cons r3 r=>cases r;exact ⟨_,_,_,rfl,r1,r2,r3⟩
theorem Jtc {ex:List Addr}{H:Hp}{a b c:Yao}{v:V}(r:Rep ex H (.tuple [a,b,c]) v):∃ at' x y z,v = .ref at'/\H at'=some (.tup [x,y,z])/\at'∉ex/\Rep ex H a x/\Rep ex H b y/\Rep ex H c z:=by
 obtain ⟨at',xs,rfl,e,n,_,rs⟩:=Jp2 r
 obtain ⟨x,y,z,rfl,r1,r2,r3⟩:=Jzs rs
 exact ⟨at',x,y,z,rfl,e,n,r1,r2,r3⟩
theorem Jp3 {ex:List Addr}{H:Hp}{i:Int}{v:V}(r:Rep ex H (.int i) v):v = .int i:=by cases r;rfl
theorem Wj {c:Bool}{A B:Prop}(h1:c=true->A) (h2:c=false->B):if c=true then A else B:=by
 cases c with
 | true=>exact h1 rfl
 | false=>exact h2 rfl
noncomputable def Jzt:Option Int->List (Key×V)
 | none=>[]
 | some m=>[(X9 "most",V.int m)]
noncomputable def Jx6 (c:Addr) (rest seed:Int) (turn:Int×Option Int):List (Key×V):=(X9 "cells",V.ref c)::(X9 "rest",V.int rest)::(X9 "seed",V.int seed)::(X9 "turn",V.int turn.1)::Jzt turn.2
structure Jar (H:Hp) (p c:Addr):Prop where
 ex:∃ (ns:List Int) (rest seed:Int) (turn:Int×Option Int),H p=some (.dK (Jx6 c rest seed turn))/\H c=some (.lst (ns.map V.int))/\ns.length<=63/\0<=seed/\seed<2^64
theorem Jar.fresh {H:Hp}{p c l:Addr}(J:Jar H p c) (h:H l=none):l∉[p,c]:=by
 obtain ⟨ns,r,s,t,h1,h2,_⟩:=J.ex
 intro z
 rcases Qf.mp z with rfl | z
 . rw [h] at h1;cases h1
 . cases Qt.mp z;rw [h] at h2;cases h2
section
variable (c:Addr) (r s:Int) (t:Int×Option Int) (x:Int)
end
structure JarX (H:Hp) (p c:Addr) (ns:List Int) (r sd:Int) (tn:Int×Option Int):Prop where
 d:H p=some (.dK (Jx6 c r sd tn))
 l:H c=some (.lst (ns.map V.int))
theorem JarX.jar {H:Hp}{p c:Addr}{ns:List Int}{r sd:Int}{tn:Int×Option Int}(J:JarX H p c ns r sd tn) (h1:ns.length<=63) (h2:0<=sd) (h3:sd<2^64):Jar H p c:=⟨ns,r,sd,tn,J.d,J.l,h1,h2,h3⟩
def Jzu (H:Hp) (p c:Addr) (e:Option Int):Prop:=∃ ns r sd tn,JarX H p c ns r sd (tn,e)/\ns.length<=63/\0<=sd/\sd<2^64
theorem Jzu.jar {H:Hp}{p c:Addr}{e:Option Int}(J:Jzu H p c e):Jar H p c:=by
 obtain ⟨ns,r,sd,tn,X,h1,h2,h3⟩:=J
 exact X.jar h1 h2 h3
theorem Zy {t u:TS}{D:Ends}{σ:L2.St}{H:Hp}(Mid:L2.St->Hp->Prop) (h1:∀ N:L2.St->Hp->Prop,(∀ σ' H',Mid σ' H'->N σ' H')->t { D with nx:=N } σ H) (h2:∀ σ' H',Mid σ' H'->u D σ' H'):Jax t u D σ H:=h1 _ h2
theorem Jri (ns:List Int) (lo hi:Option Int):∃ ms:List Int,Jl3 (ns.map V.int) lo hi=ms.map V.int/\ms.length<=ns.length:=by
 unfold Jl3
 refine ⟨_,by rw [<- J4r,<- J5s],?_⟩
 rw [J5l,J4h]
 omega
mutual
theorem Rep.mono {ex ex':List Addr}{H:Hp}(h:∀ b∈ex,b∈ex'):∀ {d:Yao}{v:V},Rep ex' H d v->Rep ex H d v
 | _,_,.none=>.none
 | _,_,.bool b=>.bool b
 | _,_,.int i=>.int i
 | _,_,.str x=>.str x
 | _,_,.tuple e n z r=>.tuple e (λ q=>n (h _ q)) z (Reps.mono h r)
 | _,_,.list e n z r=>.list e (λ q=>n (h _ q)) z (Reps.mono h r)
 | _,_,.obj e n k r=>.obj e (λ q=>n (h _ q)) k (Reps.mono h r)
theorem Reps.mono {ex ex':List Addr}{H:Hp}(h:∀ b∈ex,b∈ex'):∀ {ds:List Yao}{vs:List V},Reps ex' H ds vs->Reps ex H ds vs
 | _,_,.nil=>.nil
 | _,_,.cons r t=>.cons (Rep.mono h r) (Reps.mono h t)
end
theorem J1e {P:Int->Prop}(ns:List Int) {i:Int}(h:∀ n∈ns,P n) (h0:0<=i) (h1:i<ns.length):∃ n,atI (ns.map V.int) i=some (V.int n)/\P n:=by
 have hk:i.toNat<ns.length:=by omega
 have e:i=((i.toNat:Nat):Int):=by omega
 refine ⟨ns[i.toNat],?_,h _ (Xe hk)⟩
 have q:atI (ns.map V.int) ((i.toNat:Nat):Int)=some (V.int ns[i.toNat]):=Jj8 (by rw [Qj,Qd hk];rfl)
 rw [<- e] at q
 exact q
theorem Jtd {K:Qc}{a:Addr}{k:Int}{xs:List V}{H:Hp}{Q:VK}(e:H a=some (.tup xs)) (hne:xs≠[]) (h1:-(2^63)<=k) (hz:(xs.length:Int)*k<=sizeLine)
 (h:∀ t H',Kp [] H H'->H' t=some (.tup (Qo k.toNat xs).flatten)->(t=a\/H t=none)->Q (.ref t) H'):Jtb K (.ref a) (.int k) H Q:=by
 refine ⟨a,k,xs,rfl,rfl,SqT.of e,hne,h1,hz,λ k1=>?_,λ _ p hp=>h p _ (Kp.new hp _) Jg (.inr hp)⟩
 subst k1
 exact h a H .refl (by rw [e];simp) (.inl rfl)
theorem Jbh {n:Nat}{i:Int}(h0:0<=i) (h1:i<n):ixN n i=some i.toNat:=by
 unfold ixN;rw [if_pos h0,if_pos h1]
def Jma (K:Qc):Sp:=λ vs H Q _=>∃ (a:Addr) (ns:List Int),vs=[.ref a]/\SqL K H a (ns.map V.int)/\ns.length<=63/\∀ H',Q (.bl true) H'
theorem V7 {α:Type}{l:List α}(h:l.length<=1000):l.length<=sizeLine:=Uc (Jrh h)
end My
namespace L2
theorem B2 (o i:Expr) (pos:Pos) (env:Env) (v:Yan):assign (.Subscript o i pos) env v=(do
 let ov <- holding [v] (eval o env)
 let iv <- holding [v,ov] (eval i env)
 Ya5 pos
 holding [v,ov,iv] (setItem ov iv v)
 Ybi (match i with | .Slice _ _ none _=>[iv,v,ov] | _=>[v,ov,iv]) []):=rfl
theorem Jgc (o f:Expr) (args:List Expr) (kws:List Ya9) (p pos:Pos) (env:Env) (v:Yan):assign (.Subscript o (.Call f args kws p) pos) env v=(do
 let ov <- holding [v] (eval o env)
 let iv <- holding [v,ov] (eval (.Call f args kws p) env)
 Ya5 pos
 holding [v,ov,iv] (setItem ov iv v)
 Ybi [v,ov,iv] []):=B2 _ _ _ _ _
theorem J5 (o:Expr) (x:Str) (p pos:Pos) (env:Env) (v:Yan):assign (.Subscript o (.Name x p) pos) env v=(do
 let ov <- holding [v] (eval o env)
 let iv <- holding [v,ov] (eval (.Name x p) env)
 Ya5 pos
 holding [v,ov,iv] (setItem ov iv v)
 Ybi [v,ov,iv] []):=B2 _ _ _ _ _
section
variable {X:Cx}{es:List Expr}{te:TE}{t:TA}{pos:Pos}
theorem Jd9 {xs:List Expr}{k:Nat}(ha:PE X (.Tuple xs k pos) te) (hr:PA X es t):PA X (.Tuple xs k pos::es) (Yj te t):=Vt ha hr rfl
theorem Jp4 {xs:List Expr}(ha:PE X (.List xs pos) te) (hr:PA X es t):PA X (.List xs pos::es) (Yj te t):=Vt ha hr rfl
theorem Z9 {k:Const}{j:Nat}(ha:PE X (.Constant k j pos) te) (hr:PA X es t):PA X (.Constant k j pos::es) (Yj te t):=Vt ha hr rfl
theorem Ja {x:Str}(ha:PE X (.Name x pos) te) (hr:PA X es t):PA X (.Name x pos::es) (Yj te t):=Vt ha hr rfl
theorem Z7 {f:Expr}{xs:List Expr}{ks:List Ya9}(ha:PE X (.Call f xs ks pos) te) (hr:PA X es t):PA X (.Call f xs ks pos::es) (Yj te t):=Vt ha hr rfl
theorem Ja3 {a b:Expr}{op:Ybh}(ha:PE X (.BinOp a op b pos) te) (hr:PA X es t):PA X (.BinOp a op b pos::es) (Yj te t):=Vt ha hr rfl
theorem Jmb {a:Expr}{op:UnaryOp}(ha:PE X (.UnaryOp op a pos) te) (hr:PA X es t):PA X (.UnaryOp op a pos::es) (Yj te t):=Vt ha hr rfl
theorem Jhh {a:Expr}{ops:List CmpOp}{bs:List Expr}(ha:PE X (.Compare a ops bs pos) te) (hr:PA X es t):PA X (.Compare a ops bs pos::es) (Yj te t):=Vt ha hr rfl
theorem Zb {a b:Expr}(ha:PE X (.Subscript a b pos) te) (hr:PA X es t):PA X (.Subscript a b pos::es) (Yj te t):=Vt ha hr rfl
theorem Wx {e:Expr}{gs:List Comprehension}{sc:Yav}(ha:PE X (.ListComp e gs sc pos) te) (hr:PA X es t):PA X (.ListComp e gs sc pos::es) (Yj te t):=Vt ha hr rfl
end
structure PEs (X:Cx) (e:Expr) (t:TE):Prop where
 out:PE X e t
structure PAs (X:Cx) (es:List Expr) (t:TA):Prop where
 out:PA X es t
section
variable {X:Cx}{es:List Expr}{te:TE}{t:TA}{pos:Pos}
theorem J1 {e:Expr}(h:PE X e te):PEs X e te:=⟨h⟩
theorem Zs {k:Nat}(h:PAs X es t):PEs X (.Tuple es k pos) (Jvx t):=⟨Jzk h.out⟩
theorem Yy (h:PAs X es t):PEs X (.List es pos) (Jzj t):=⟨Jzl h.out⟩
theorem Yt {i:Int}{j:Nat}:PEs X (.Constant (.int i) j pos) (tC (.int i)):=⟨Ji⟩
theorem Jp5 {i:Str}{j:Nat}:PEs X (.Constant (.str i) j pos) (tC (.str i)):=⟨Jg3⟩
theorem Jv3 {j:Nat}:PEs X (.Constant .none j pos) (tC .non):=⟨W3⟩
theorem Jw:PAs X [] Jbx:=⟨Jc⟩
theorem J2 {k:Const}{j:Nat}(ha:PEs X (.Constant k j pos) te) (hr:PAs X es t):PAs X (.Constant k j pos::es) (Yj te t):=⟨Z9 ha.out hr.out⟩
theorem Y5 {x:Str}(ha:PEs X (.Name x pos) te) (hr:PAs X es t):PAs X (.Name x pos::es) (Yj te t):=⟨Ja ha.out hr.out⟩
theorem Wa {f:Expr}{xs:List Expr}{ks:List Ya9}(ha:PEs X (.Call f xs ks pos) te) (hr:PAs X es t):PAs X (.Call f xs ks pos::es) (Yj te t):=⟨Z7 ha.out hr.out⟩
theorem Ja4 {a b:Expr}{op:Ybh}(ha:PEs X (.BinOp a op b pos) te) (hr:PAs X es t):PAs X (.BinOp a op b pos::es) (Yj te t):=⟨Ja3 ha.out hr.out⟩
theorem Vo {a:Expr}{op:UnaryOp}(ha:PEs X (.UnaryOp op a pos) te) (hr:PAs X es t):PAs X (.UnaryOp op a pos::es) (Yj te t):=⟨Jmb ha.out hr.out⟩
theorem Jea {a b:Expr}(ha:PEs X (.Subscript a b pos) te) (hr:PAs X es t):PAs X (.Subscript a b pos::es) (Yj te t):=⟨Zb ha.out hr.out⟩
end
theorem def_mk {K:Qc}{h:Heap}{mg:Str->Option Yan}{x:Str}{st:Stmt}{ps:List Str}{f:Addr}{oc:Yan}{od an:Option Addr}{osl:Array (Option Yan)}{kV doc pm cdv ct:Yan}(X:K.In h) (G:h.Ns Yay mg)
 (a:J7g K Yay x=some (some (.ref f))) (l:K.lookup f=some ⟨oc,od,.func (X3 x x (Wi st) (Z3 st) (Jd st) .none kV doc pm an cdv ct),osl⟩) (c:J3o K cdv x=true) (k:Uj K (.ref f)=true)
 (hb:∀ (kV doc pm:Yan) (an:Option Addr) (cdv ct:Yan) (us:List Yan),us.length=ps.length->Ybl (X3 x x (Wi st) (Z3 st) (Jd st) .none kV doc pm an cdv ct) ⟨us,[]⟩=pure (ps.zip us)):Def K mg x st ps:=
 ⟨f,_,J7h X G a,Jhb (st:=st) l c k,(Jhb (st:=st) l c k).binds hb⟩
end L2
namespace My
open L2
structure Way where
 a:Int
 b:Int
 g:List Int
noncomputable def Y6 (w:Way):Yao:=.tuple [.int w.a,.int w.b,.tuple (w.g.map Qv)]
noncomputable def J8 (R P:Int) (ws:List Way):Yao:=.tuple [.int R,.int P,.tuple (ws.map Y6)]
structure WayOk (R P:Int) (w:Way):Prop where
 a0:0<=w.a
 a1:w.a<R
 b0:0<=w.b
 b1:w.b<R
 len:(w.g.length:Int)=P
 small:∀ x∈w.g,-99<=x/\x<=99
structure BookOk (R P:Int) (ws:List Way):Prop where
 r0:1<=R
 r1:R<=12
 p0:1<=P
 p1:P<=6
 len:ws.length<=60
 ways:∀ w∈ws,WayOk R P w
theorem V8 {n:Int}(h:n<=100000):n<2^9000:=Int.lt_of_le_of_lt h (by decide +kernel)
end My
namespace L2
section
variable {α:Type}{a b c d e f x:α}{l:List α}
theorem mm0:a∈a::l:=Qh
theorem mm1:b∈a::b::l:=Qi _ mm0
theorem mm2:c∈a::b::c::l:=Qi _ mm1
theorem mm3:d∈a::b::c::d::l:=Qi _ mm2
theorem mm4:e∈a::b::c::d::e::l:=Qi _ mm3
theorem mm5:f∈a::b::c::d::e::f::l:=Qi _ mm4
theorem mn0 (h:¬ x∈a::l):x≠a:=λ e=>h (e▸mm0)
theorem mn1 (h:¬ x∈a::b::l):x≠b:=λ e=>h (e▸mm1)
theorem mn2 (h:¬ x∈a::b::c::l):x≠c:=λ e=>h (e▸mm2)
theorem mn3 (h:¬ x∈a::b::c::d::l):x≠d:=λ e=>h (e▸mm3)
theorem mn4 (h:¬ x∈a::b::c::d::e::l):x≠e:=λ e=>h (e▸mm4)
theorem mn5 (h:¬ x∈a::b::c::d::e::f::l):x≠f:=λ e=>h (e▸mm5)
end
section
variable {prog:Yas}{w:Yar}{A:Yat}{E:Yan->Yap->Prop}{s:Yap}
theorem Jon {j t:Addr}{i:Nat}{vs:Array Yan}{y:Yan}{Q:Yan->Yap->Prop}(g:s.heap.IsTupleIter j t i) (gt:s.heap.IsTuple t vs) (gy:vs[i]? = some y)
 (q:∀ h',h'.IsTupleIter j t (i+1)->X2 j s.heap h'->Q y { s with heap:=h' }):Yaq (model prog w) A (J3q (.ref j)) Q E s:=by
 obtain ⟨oj,e1,e2,e3⟩:=id g
 obtain ⟨ot,e4,_,n4,e5⟩:=gt
 have goal2:Yaq (model prog w) A.in1 (Builtin.«tuple_iterator.__next__» ⟨[.ref j],[]⟩) (λ fin s'=>∃ v,fin = .done (.ret v)/\Yaq (model prog w) A (pure v) Q E s') E s:=by
  show Yaq _ _ (field (.ref j) 0 >>= _) _ _ s
  refine wpAny_bind (wpAny_field e1 e3 (x:=.ref t) rfl ?_)
  show Yaq _ _ (if (Q1 t==Ut)=true then _ else _) _ _ s;rw [if_neg (show ¬ ((Q1 t==Ut)=true) from λ z=>J8z z)]
  show Yaq _ _ (field (.ref j) 1 >>= _) _ _ s
  refine wpAny_bind (wpAny_field e1 e3 (x:=.int i 0) rfl ?_)
  show Yaq _ _ (Ybe (.ref t) >>= _) _ _ s
  refine wpAny_bind (wpAny_seqItems e4 e5 ?_)
  simp only [Q5,gy]
  refine wpAny_bind (wpAny_setField e1 e3 (by first | exact mm0 | exact mm1 | exact mm2 | exact mm3 | exact mm4 | exact mm5 | simp) (wpAny_pure ⟨y,rfl,wpAny_pure (q _ ⟨_,J5m _ e1 (Obj.isFreed_of_fields (J80 e3 _)),(Obj.cls_mapFields ..).trans e2,?_⟩ (J81 ..))⟩))
  rw [J80 e3];simp [rawInt]
 unfold J3q
 exact wpAny_bind (Ybt (name:=J5t "__next__") g.typeIs J5u (wpAny_call_entry J5u g.typeIs J82 goal2 (J83 _)))
theorem Jrj {j t:Addr}{i:Nat}{vs:Array Yan}{Q:Yan->Yap->Prop}(hh:A.handled=none) (g:s.heap.IsTupleIter j t i) (gt:s.heap.IsTuple t vs) (gy:vs[i]? = none)
 (q:∀ h' e,Heap.ExtBut j s.heap h'->(∃ o,h'.get? e=some o/\o.cls = .type "StopIteration")->E (.ref e) { s with heap:=h' }):Yaq (model prog w) A (J3q (.ref j)) Q E s:=by
 obtain ⟨oj,e1,e2,e3⟩:=id g
 obtain ⟨ot,e4,_,n4,e5⟩:=gt
 unfold J3q
 refine wpAny_bind (Ybt (name:=J5t "__next__") g.typeIs J5u (wpAny_call_entry J5u g.typeIs J82 ?_ (J83 _)))
 show Yaq _ _ (field (.ref j) 0 >>= _) _ _ s
 refine wpAny_bind (wpAny_field e1 e3 (x:=.ref t) rfl ?_)
 show Yaq _ _ (if (Q1 t==Ut)=true then _ else _) _ _ s;rw [if_neg (show ¬ ((Q1 t==Ut)=true) from λ z=>J8z z)]
 show Yaq _ _ (field (.ref j) 1 >>= _) _ _ s
 refine wpAny_bind (wpAny_field e1 e3 (x:=.int i 0) rfl ?_)
 show Yaq _ _ (Ybe (.ref t) >>= _) _ _ s
 refine wpAny_bind (wpAny_seqItems e4 e5 ?_)
 simp only [Q5,gy]
 refine wpAny_bind (wpAny_rule (wpAny_bind (wpAny_setField e1 e3 (by first | exact mm0 | exact mm1 | exact mm2 | exact mm3 | exact mm4 | exact mm5 | simp) ?_)))
 show Yaq _ _ (newExc (.type "StopIteration") [] >>= _) _ _ _;refine wpAny_bind ?_;simp only [newExc,newTuple]
 refine wpAny_bind (wpAny_newObj_type ?_ (by size_fits));refine wpAny_bind (m:=firstArgMember _ _) (wpAny_of_eq (a:=Ut) (by first | rfl | (simp only [firstArgMember];rfl)) ?_);refine wpAny_newObj_type ?_ (by size_fits)
 simp only [raiseNew];refine wpAny_bind (wpAny_handled ?_);first | rw [show A.in1.handled=none from hh] | rw [hh]
 refine wpAny_bind (wpAny_pure (wpAny_throw (q _ _ (((J81 ..).extBut.push _).push _) ⟨_,Q9 _ rfl,rfl⟩)))
end
def Jc0 (b:Bool) (h:Heap) (a:Addr) (vs:Array Yan):Prop:=match b with | true=>h.IsTuple a vs | false=>h.IsList a vs
def ItAt (b:Bool) (h:Heap) (j a:Addr) (i:Nat):Prop:=match b with | true=>h.IsTupleIter j a i | false=>h.IsListIter j a i
theorem Jc0.at {b:Bool}{h h':Heap}{a:Addr}{vs:Array Yan}(x:Jc0 b h a vs) (k:∀ o,h.get? a=some o->h'.get? a=some o):Jc0 b h' a vs:=by
 cases b with
 | true=>exact let ⟨o,e,r⟩:=x;⟨o,k o e,r⟩
 | false=>exact let ⟨o,e,r⟩:=x;⟨o,k o e,r⟩
theorem ItAt.at {b:Bool}{h h':Heap}{j a:Addr}{i:Nat}(x:ItAt b h j a i) (k:∀ o,h.get? j=some o->h'.get? j=some o):ItAt b h' j a i:=by
 cases b with
 | true=>exact let ⟨o,e,r⟩:=x;⟨o,k o e,r⟩
 | false=>exact let ⟨o,e,r⟩:=x;⟨o,k o e,r⟩
theorem ItAt.obj {b:Bool}{h:Heap}{j a:Addr}{i:Nat}(x:ItAt b h j a i):∃ o,h.get? j=some o/\∀ v,o.data≠.cell v:=by
 cases b with
 | true=>exact let ⟨o,e,_,d⟩:=x;⟨o,e,λ v z=>by rw [d] at z;cases z⟩
 | false=>exact let ⟨o,e,_,d⟩:=x;⟨o,e,λ v z=>by rw [d] at z;cases z⟩
theorem Ja5 {prog:Yas}{w:Yar}{A:Yat}(b:Bool) (hh:A.handled=none) (j a:Addr) (hne:a≠j) (vs:Array Yan) :
 Draws prog w A j [j,a] vs.size (λ i v=>vs[i]? = some v) (λ i h=>ItAt b h j a i/\Jc0 b h a vs):=by
 cases b with
 | false=>exact Draws.list hh j a hne vs
 | true=>exact {
  live:=λ _ _ st=>let ⟨o,ho,_⟩:=st.1;⟨o,ho⟩
  frame:=λ _ _ _ st hk=>⟨ItAt.at (b:=true) st.1 λ o e=>hk j (by first | exact mm0 | exact mm1 | exact mm2 | exact mm3 | exact mm4 | exact mm5 | simp) o e,Jc0.at (b:=true) st.2 λ o e=>hk a (by first | exact mm0 | exact mm1 | exact mm2 | exact mm3 | exact mm4 | exact mm5 | simp) o e⟩
  item:=λ i s Q E hi st hQ=>by
   have e:vs[i]? = some vs[i]:=by simp [hi]
   exact Jon st.1 st.2 e λ h' g' sb=>hQ _ h' s.toks e ⟨g',Jc0.at (b:=true) st.2 λ o z=>(sb.2 a hne).trans z⟩ sb
  done:=λ s Q E st hE=>Jrj hh st.1 st.2 (by first | exact mm0 | exact mm1 | exact mm2 | exact mm3 | exact mm4 | exact mm5 | simp) hE }
section
open AutoSeq1 (wpAny_loadPart')
theorem Jrk (l:Addr) (vs:Array Yan) (n:Nat) (dc:Option Addr) (sl:Array (Option Yan)) :
 Meets (Builtin.«enumerate.__new__» ⟨[.type "enumerate",.ref l],[]⟩) (λ _ R s=>s.heap.get? l=some { cls:=.type "tuple",dict:=dc,data:=.seq vs n,slots:=sl } /\
  R (.ok (.ret (.ref (s.heap.push { cls:=.type "tuple_iterator",data:=.fields #[.ref l,.int 0 0] }).objs.size)))
   { s with heap:=(s.heap.push { cls:=.type "tuple_iterator",data:=.fields #[.ref l,.int 0 0] }).push { cls:=.type "enumerate",data:=.fields #[.none,.bool false,.ref s.heap.objs.size,rawInt 0,.none,.none] } }):=
 .of_wp λ prog w A R s h=>by
  obtain ⟨hp,g,d,tk,os⟩:=s;obtain ⟨hl,h⟩:=h;have hsub:=sub_enumerate
  have hL:Heap.IsTuple (J7i ⟨hp,g,d,tk,os⟩) l vs:=⟨_,hl,rfl,n,rfl⟩
  wp_walk using Ya6 hl
  refine wpAny_stack_any λ st=>wpAny_pure ?_
  split
  . rename_i c _ _ _ _ _
    cases (c==J37 "enumerate")<;>(wp_walk using Ya6 hl,wpAny_pyIter_tuple hL;exact ⟨_,rfl,h⟩)
  . wp_walk using Ya6 hl,wpAny_pyIter_tuple hL
    exact ⟨_,rfl,h⟩
end
theorem Jrl {prog:Yas}{w:Yar}{A:Yat}{E:Yan->Yap->Prop}{s:Yap}(b:Bool) {l:Addr}{vs:Array Yan}{Q:Yan->Yap->Prop}(x:Jc0 b s.heap l vs)
 (q:∀ h',IsEnum h' (s.heap.objs.size+1) s.heap.objs.size 0 .none->ItAt b h' s.heap.objs.size l 0->h'.objs.size=s.heap.objs.size+2 ->
  (∀ c o,s.heap.get? c=some o->h'.get? c=some o)->Q (.ref (s.heap.objs.size+1)) { s with heap:=h' }) :
 Yaq (model prog w) A (call (.type "enumerate") [.ref l]) Q E s:=by
 cases b with
 | false=>exact call_enumerate_list x q
 | true=>
  obtain ⟨⟨c,dc,dt,sl⟩,hl,hc,n,hd⟩:=x
  replace hc:c = .type "tuple":=hc
  replace hd:dt = .seq vs n:=hd
  subst hc hd
  refine callType_new F.called_enumerate (by decide) (F.typeCall_enumerate_1 _) (F.newCall_enumerate_1 _) (λ obj=>F.args_object_init_2 obj _) F.entry_enumerate_new (Jrk l vs n dc sl) ⟨hl,?_⟩
  have hz:(s.heap.push { cls:=.type "tuple_iterator",data:=.fields #[.ref l,.int 0 0] }).objs.size=s.heap.objs.size+1:=Xw ..
  show _/\_
  rw [hz]
  have he:IsEnum ((s.heap.push { cls:=.type "tuple_iterator",data:=.fields #[.ref l,.int 0 0] }).push { cls:=.type "enumerate",data:=.fields #[.none,.bool false,.ref s.heap.objs.size,rawInt 0,.none,.none] }) (s.heap.objs.size+1) s.heap.objs.size 0 .none:=by
   have z:=Q9 (s.heap.push { cls:=.type "tuple_iterator",data:=.fields #[.ref l,.int 0 0] }) (o:={ cls:=.type "enumerate",data:=.fields #[.none,.bool false,.ref s.heap.objs.size,rawInt 0,.none,.none] }) rfl
   rw [hz] at z;exact z
  exact ⟨⟨_,he,rfl⟩,q _ he ⟨_,Qu _ (Q9 _ rfl),rfl,rfl⟩ (by rw [Xw,hz]) λ c o y=>Qu _ (Qu _ y)⟩
noncomputable def Jjp (b:Bool) (l:Addr):Obj:={ cls:=.type (match b with | true=>"tuple_iterator" | false=>"list_iterator"),data:=.fields #[.ref l,.int 0 0] }
theorem Jmc {b:Bool}{h:Heap}{j l:Addr}(e:h.get? j=some (Jjp b l)):ItAt b h j l 0:=by
 cases b with
 | true=>exact ⟨_,e,rfl,rfl⟩
 | false=>exact ⟨_,e,rfl,rfl⟩
theorem Jeb {prog:Yas}{w:Yar}{A:Yat}{E:Yan->Yap->Prop}{s:Yap}{b:Bool}{a:Addr}{vs:Array Yan}{Q:Yan->Yap->Prop}(x:Jc0 b s.heap a vs)
 (q:Q (.ref s.heap.objs.size) { s with heap:=s.heap.push (Jjp b a) }):Yaq (model prog w) A (pyIter (.ref a)) Q E s:=by
 cases b with
 | true=>exact wpAny_pyIter_tuple x q
 | false=>exact wpAny_pyIter_list x q
noncomputable abbrev zz1 (b:Bool) (h:Heap) (l:Addr):Heap:=h.push (Jjp b l)
noncomputable abbrev zz2 (b b':Bool) (h:Heap) (l m:Addr):Heap:=(zz1 b h l).push (Jjp b' m)
noncomputable abbrev zz3 (b b':Bool) (h:Heap) (l m:Addr):Heap:=(zz2 b b' h l m).push { cls:=.type "tuple",data:=.seq #[.ref h.objs.size,.ref (zz1 b h l).objs.size] }
noncomputable abbrev zz4 (b b':Bool) (h:Heap) (l m:Addr):Heap:=(zz3 b b' h l m).push { cls:=.type "tuple",data:=.seq #[.none,.none] }
noncomputable abbrev zz5 (b b':Bool) (h:Heap) (l m:Addr):Heap:=(zz4 b b' h l m).push { cls:=.type "zip",data:=.fields #[.none,.bool false,.bool false,.ref (zz2 b b' h l m).objs.size,.ref (zz3 b b' h l m).objs.size] }
theorem Jv4 (b b':Bool) (l m:Addr) (xs ys:Array Yan) :
 Meets (Builtin.«zip.__new__» ⟨[.type "zip",.ref l,.ref m],[]⟩) (λ _ R s=>Jc0 b s.heap l xs/\Jc0 b' s.heap m ys /\
  R (.ok (.ret (.ref (zz4 b b' s.heap l m).objs.size))) { s with heap:=zz5 b b' s.heap l m }):=
 .of_wp λ prog w A R s h=>by
  obtain ⟨hp,g,d,tk,os⟩:=s;obtain ⟨x1,x2,h⟩:=h
  have hsub:=sub_zip
  have x1':Jc0 b (J7i ⟨hp,g,d,tk,os⟩) l xs:=x1
  have x2':Jc0 b' (J7i ⟨hp.push (Jjp b l),g,d,tk,os⟩) m ys:=Jc0.at x2 λ o e=>Qu _ e
  wp_walk using Jeb x1',Jeb x2'
  exact ⟨_,rfl,h⟩
structure ZApart (z TI TO j1 j2:Addr) (f1 f2:List Addr):Prop where
 m1:j1∈f1
 m2:j2∈f2
 z1:z∉f1
 z2:z∉f2
 o1:TO∉f1
 o2:TO∉f2
 q1:j1∉f2
 q2:j2∉f1
 iz:TI≠z
 io:TI≠TO
 i1:TI≠j1
 i2:TI≠j2
 oz:TO≠z
theorem ZApart.j1z {z TI TO j1 j2:Addr}{f1 f2:List Addr}(D:ZApart z TI TO j1 j2 f1 f2):j1≠z:=λ e=>D.z1 (e▸D.m1)
theorem ZApart.j2z {z TI TO j1 j2:Addr}{f1 f2:List Addr}(D:ZApart z TI TO j1 j2 f1 f2):j2≠z:=λ e=>D.z2 (e▸D.m2)
theorem ZApart.j1o {z TI TO j1 j2:Addr}{f1 f2:List Addr}(D:ZApart z TI TO j1 j2 f1 f2):j1≠TO:=λ e=>D.o1 (e▸D.m1)
theorem ZApart.j2o {z TI TO j1 j2:Addr}{f1 f2:List Addr}(D:ZApart z TI TO j1 j2 f1 f2):j2≠TO:=λ e=>D.o2 (e▸D.m2)
theorem Vv {a b:Addr}{l:List Addr}(h:a∉l) (hb:b∈l):b≠a:=λ e=>h (e▸hb)
section
variable {prog:Yas}{w:Yar}{A:Yat}{E:Yan->Yap->Prop}{s:Yap}{z TI TO j1 j2:Addr}{f1 f2:List Addr}{n1 n2 i:Nat}{P1 P2:Nat->Yan->Prop}{St1 St2:Nat->Heap->Prop}{a b:Yan}
theorem Jrm {Q:Yan->Yap->Prop}(D:ZApart z TI TO j1 j2 f1 f2) (D1:Draws prog w A j1 f1 n1 P1 St1) (D2:Draws prog w A j2 f2 n2 P2 St2) (hz:Ya0 s.heap z TI TO .none) (hI:Yaw s.heap TI (.ref j1) (.ref j2)) (hO:Yaw s.heap TO a b)
 (st1:St1 i s.heap) (st2:St2 i s.heap) (l1:i<n1) (l2:i<n2)
 (q:∀ x y h' tk,P1 i x->P2 i y->Ya0 h' z TI TO (rawInt s.heap.objs.size)->Yaw h' TO x y->St1 (i+1) h'->St2 (i+1) h'->Yaw h' s.heap.objs.size x y->h'.objs.size=s.heap.objs.size+1 ->
  (∀ c o,c≠z->c≠TO->c≠j1->c≠j2->s.heap.get? c=some o->h'.get? c=some o)->Q (.ref s.heap.objs.size) { s with heap:=h',toks:=tk }) :
 Yaq (model prog w) A (Builtin.«zip.__next__» ⟨[.ref z],[]⟩) (λ fin s'=>∃ v,fin = .done (.ret v)/\Q v s') E s:=by
 obtain ⟨hp,gg,dd,t0,os⟩:=s
 show Yaq _ _ (field (.ref z) 2 >>= _) _ _ _;refine wpAny_bind (wpAny_field hz rfl (x:=.bool false) rfl ?_)
 show Yaq _ _ (field (.ref z) 3 >>= _) _ _ _;refine wpAny_bind (wpAny_field hz rfl (x:=.ref TI) rfl ?_)
 refine wpAny_bind (wpAny_seqItems hI rfl ?_)
 show Yaq _ _ (J5v (.ref z) >>= _) _ _ _;refine wpAny_bind ?_;unfold J5v
 refine wpAny_bind (wpAny_field hz rfl (x:=.none) rfl (wpAny_pure ?_));simp only [if_true];refine wpAny_bind (wpAny_rule ?_)
 refine wpAny_bind (wpAny_field hz rfl (x:=.ref TO) rfl ?_)
 refine wpAny_bind (wpAny_setField_rec hz (by first | exact mm0 | exact mm1 | exact mm2 | exact mm3 | exact mm4 | exact mm5 | simp) λ g1 z1 b1=>?_);replace z1:Ya0 g1 z TI TO .ellipsis:=z1;replace b1:X2 z hp g1:=b1
 refine wpAny_bind ?_;simp only [List.zipIdx_cons,List.zipIdx_nil,J67,J7j]
 refine wpAny_bind (wpAny_bind (wpAny_onRaise ?_))
 show Yaq _ _ (J3q (.ref j1) >>= _) _ _ _
 refine wpAny_bind (D1.item i _ _ _ l1 (D1.frame _ _ _ st1 λ c hc o e=>b1.extBut c o (Vv D.z1 hc) e) λ x g2 t2 px s12 b2=>wpAny_pure ?_);replace b2:X2 j1 g1 g2:=b2
 have o2:Yaw g2 TO a b:=b2.extBut _ _ (Ql D.j1o) (b1.extBut _ _ D.oz hO)
 refine wpAny_bind (wpAny_seqItems o2 rfl ?_)
 refine wpAny_bind (wpAny_updateSeq_pair o2 λ g3 o3 b3=>?_);replace o3:Yaw g3 TO x b:=o3;replace b3:X2 TO g2 g3:=b3
 refine wpAny_bind (wpAny_letGo (wpAny_pure ?_));refine wpAny_bind (wpAny_bind (wpAny_onRaise ?_))
 show Yaq _ _ (J3q (.ref j2) >>= _) _ _ _
 refine wpAny_bind (D2.item i _ _ _ l2 (D2.frame _ _ _ st2 λ c hc o e=>b3.extBut c o (Vv D.o2 hc) (b2.extBut c o (Vv D.q1 hc) (b1.extBut c o (Vv D.z2 hc) e))) λ y g4 t4 py s24 b4=>wpAny_pure ?_);replace b4:X2 j2 g3 g4:=b4
 have o4:Yaw g4 TO x b:=b4.extBut _ _ (Ql D.j2o) o3
 refine wpAny_bind (wpAny_seqItems o4 rfl ?_)
 refine wpAny_bind (wpAny_updateSeq_pair o4 λ g5 o5 b5=>?_);replace o5:Yaw g5 TO x y:=o5;replace b5:X2 TO g4 g5:=b5
 refine wpAny_bind (wpAny_letGo (wpAny_pure (wpAny_pure ?_)))
 refine wpAny_bind (wpAny_seqItems o5 rfl ?_);refine wpAny_bind (wpAny_newTuple ?_)
 have sz:g5.objs.size=hp.objs.size:=by rw [b5.1,b4.1,b3.1,b2.1,b1.1]
 have z5:Ya0 g5 z TI TO .ellipsis:=b5.extBut _ _ (Ql D.oz) (b4.extBut _ _ (Ql D.j2z) (b3.extBut _ _ (Ql D.oz) (b2.extBut _ _ (Ql D.j1z) z1)))
 have k5:∀ c o,c≠z->c≠TO->c≠j1->c≠j2->hp.get? c=some o->g5.get? c=some o:=λ c o c1 c2 c3 c4 e=>b5.extBut _ _ c2 (b4.extBut _ _ c4 (b3.extBut _ _ c2 (b2.extBut _ _ c3 (b1.extBut _ _ c1 e))))
 have s15:St1 (i+1) g5:=D1.frame _ _ _ s12 λ c hc o e=>b5.extBut c o (Vv D.o1 hc) (b4.extBut c o (Vv D.q2 hc) (b3.extBut c o (Vv D.o1 hc) e))
 have s25:St2 (i+1) g5:=D2.frame _ _ _ s24 λ c hc o e=>b5.extBut c o (Vv D.o2 hc) e
 have zl:z<g5.objs.size:=Qs z5
 show Yaq _ _ (J84 (.ref z) (.ref g5.objs.size) >>= _) _ _ _;refine wpAny_bind ?_;unfold J84
 have z6:Ya0 (g5.push { cls:=.type "tuple",data:=.seq #[x,y] }) z TI TO .ellipsis:=Qu _ z5
 refine wpAny_bind (wpAny_setField_rec z6 (by first | exact mm0 | exact mm1 | exact mm2 | exact mm3 | exact mm4 | exact mm5 | simp) λ g7 z7 b7=>?_);replace z7:Ya0 g7 z TI TO (rawInt g5.objs.size):=z7
 refine wpAny_setField_rec z7 (by first | exact mm0 | exact mm1 | exact mm2 | exact mm3 | exact mm4 | exact mm5 | simp) λ g8 z8 b8=>?_;replace z8:Ya0 g8 z TI TO (rawInt g5.objs.size):=z8
 have up:∀ c o,c≠z->g5.get? c=some o->g8.get? c=some o:=λ c o c1 e=>b8.extBut _ _ c1 (b7.extBut _ _ c1 (Qu _ e))
 have t8:Yaw g8 g5.objs.size x y:=b8.extBut _ _ (J4c zl) (b7.extBut _ _ (J4c zl) (Q9 _ rfl))
 have s8:g8.objs.size=g5.objs.size+1:=by rw [b8.1,b7.1,Xw]
 rw [sz] at z8 t8 s8
 refine wpAny_pure ⟨_,rfl,?_⟩;show Q (.ref g5.objs.size) _;rw [sz]
 exact q x y g8 t4 px py z8 (up _ _ D.oz o5) (D1.frame _ _ _ s15 λ c hc o e=>up c o (Vv D.z1 hc) e) (D2.frame _ _ _ s25 λ c hc o e=>up c o (Vv D.z2 hc) e) t8 s8 λ c o c1 c2 c3 c4 e=>up c o c1 (k5 c o c1 c2 c3 c4 e)
theorem Jte {Q:Fin->Yap->Prop}(D:ZApart z TI TO j1 j2 f1 f2) (D1:Draws prog w A j1 f1 n1 P1 St1) (D2:Draws prog w A j2 f2 n2 P2 St2) (hz:Ya0 s.heap z TI TO .none) (hI:Yaw s.heap TI (.ref j1) (.ref j2)) (hO:Yaw s.heap TO a b)
 (st1:St1 i s.heap) (st2:St2 i s.heap) (hend:i=n1\/(i<n1/\i=n2))
 (q:∀ h' e tk,(∀ c o,c≠z->c≠TO->c≠j1->c≠j2->s.heap.get? c=some o->h'.get? c=some o)->(∃ o,h'.get? e=some o/\o.cls = .type "StopIteration")->E (.ref e) { s with heap:=h',toks:=tk }) :
 Yaq (model prog w) A (Builtin.«zip.__next__» ⟨[.ref z],[]⟩) Q E s:=by
 obtain ⟨hp,gg,dd,t0,os⟩:=s
 show Yaq _ _ (field (.ref z) 2 >>= _) _ _ _;refine wpAny_bind (wpAny_field hz rfl (x:=.bool false) rfl ?_)
 show Yaq _ _ (field (.ref z) 3 >>= _) _ _ _;refine wpAny_bind (wpAny_field hz rfl (x:=.ref TI) rfl ?_)
 refine wpAny_bind (wpAny_seqItems hI rfl ?_)
 show Yaq _ _ (J5v (.ref z) >>= _) _ _ _;refine wpAny_bind ?_;unfold J5v
 refine wpAny_bind (wpAny_field hz rfl (x:=.none) rfl (wpAny_pure ?_));simp only [if_true];refine wpAny_bind (wpAny_rule ?_)
 refine wpAny_bind (wpAny_field hz rfl (x:=.ref TO) rfl ?_)
 refine wpAny_bind (wpAny_setField_rec hz (by first | exact mm0 | exact mm1 | exact mm2 | exact mm3 | exact mm4 | exact mm5 | simp) λ g1 z1 b1=>?_);replace z1:Ya0 g1 z TI TO .ellipsis:=z1;replace b1:X2 z hp g1:=b1
 refine wpAny_bind ?_;simp only [List.zipIdx_cons,List.zipIdx_nil,J67,J7j]
 refine wpAny_bind (wpAny_bind (wpAny_onRaise ?_))
 show Yaq _ _ (J3q (.ref j1) >>= _) _ _ _
 have s11:=D1.frame _ _ _ st1 λ c hc o e=>b1.extBut c o (Vv D.z1 hc) e
 rcases hend with he | ⟨l1,he⟩
 . subst he
   refine wpAny_bind (D1.done _ _ _ s11 λ g2 e b2 he=>?_)
   obtain ⟨oe,hoe,hce⟩:=he
   have z2:Ya0 g2 z TI TO .ellipsis:=b2 _ _ (Ql D.j1z) z1
   have ez:e≠z:=λ x=>by subst x;rw [z2] at hoe;cases hoe;simp at hce
   refine wpAny_setField_rec z2 (by first | exact mm0 | exact mm1 | exact mm2 | exact mm3 | exact mm4 | exact mm5 | simp) λ g3 _ b3=>?_
   exact q g3 e t0 (λ c o c1 _ c3 _ x=>b3.extBut _ _ c1 (b2 _ _ c3 (b1.extBut _ _ c1 x))) ⟨oe,b3.extBut _ _ ez hoe,hce⟩
 . subst he
   refine wpAny_bind (D1.item i _ _ _ l1 s11 λ x g2 t2 px s12 b2=>wpAny_pure ?_);replace b2:X2 j1 g1 g2:=b2
   have o2:Yaw g2 TO a b:=b2.extBut _ _ (Ql D.j1o) (b1.extBut _ _ D.oz hO)
   refine wpAny_bind (wpAny_seqItems o2 rfl ?_)
   refine wpAny_bind (wpAny_updateSeq_pair o2 λ g3 o3 b3=>?_);replace b3:X2 TO g2 g3:=b3
   refine wpAny_bind (wpAny_letGo (wpAny_pure ?_));refine wpAny_bind (wpAny_bind (wpAny_onRaise ?_))
   show Yaq _ _ (J3q (.ref j2) >>= _) _ _ _
   refine wpAny_bind (D2.done _ _ _ (D2.frame _ _ _ st2 λ c hc o e=>b3.extBut c o (Vv D.o2 hc) (b2.extBut c o (Vv D.q1 hc) (b1.extBut c o (Vv D.z2 hc) e))) λ g4 e b4 he=>?_)
   obtain ⟨oe,hoe,hce⟩:=he
   have z4:Ya0 g4 z TI TO .ellipsis:=b4 _ _ (Ql D.j2z) (b3.extBut _ _ (Ql D.oz) (b2.extBut _ _ (Ql D.j1z) z1))
   have ez:e≠z:=λ x=>by subst x;rw [z4] at hoe;cases hoe;simp at hce
   refine wpAny_setField_rec z4 (by first | exact mm0 | exact mm1 | exact mm2 | exact mm3 | exact mm4 | exact mm5 | simp) λ g5 _ b5=>?_
   exact q g5 e t2 (λ c o c1 c2 c3 c4 x=>b5.extBut _ _ c1 (b4 _ _ c4 (b3.extBut _ _ c2 (b2.extBut _ _ c3 (b1.extBut _ _ c1 x))))) ⟨oe,b5.extBut _ _ ez hoe,hce⟩
theorem Jhi {Q:Option Yan->Yap->Prop}(D:ZApart z TI TO j1 j2 f1 f2) (D1:Draws prog w A.in1 j1 f1 n1 P1 St1) (D2:Draws prog w A.in1 j2 f2 n2 P2 St2) (hz:Ya0 s.heap z TI TO .none) (hI:Yaw s.heap TI (.ref j1) (.ref j2)) (hO:Yaw s.heap TO a b)
 (st1:St1 i s.heap) (st2:St2 i s.heap) (l1:i<n1) (l2:i<n2)
 (q:∀ x y h' tk,P1 i x->P2 i y->Ya0 h' z TI TO (rawInt s.heap.objs.size)->Yaw h' TO x y->St1 (i+1) h'->St2 (i+1) h'->Yaw h' s.heap.objs.size x y->h'.objs.size=s.heap.objs.size+1 ->
  (∀ c o,c≠z->c≠TO->c≠j1->c≠j2->s.heap.get? c=some o->h'.get? c=some o)->Q (some (.ref s.heap.objs.size)) { s with heap:=h',toks:=tk }) :
 Yaq (model prog w) A (pyNext (.ref z)) Q E s:=by
 have hT:s.TypeIs (.ref z) "zip":=⟨_,hz,rfl⟩
 unfold pyNext
 exact wpAny_bind (wpAny_attempt (Ybt (name:=J5t "__next__") hT J5w (wpAny_call_entry J5w hT J85
  (Jrm D D1 D2 hz hI hO st1 st2 l1 l2 λ x y h' tk a1 a2 a3 a4 a5 a6 a7 a8 a9=>wpAny_pure (q x y h' tk a1 a2 a3 a4 a5 a6 a7 a8 a9)) (J86 _))))
theorem Jiz {Q:Option Yan->Yap->Prop}(D:ZApart z TI TO j1 j2 f1 f2) (D1:Draws prog w A.in1 j1 f1 n1 P1 St1) (D2:Draws prog w A.in1 j2 f2 n2 P2 St2) (hz:Ya0 s.heap z TI TO .none) (hI:Yaw s.heap TI (.ref j1) (.ref j2)) (hO:Yaw s.heap TO a b)
 (st1:St1 i s.heap) (st2:St2 i s.heap) (hend:i=n1\/(i<n1/\i=n2))
 (q:∀ h' tk,(∀ c o,c≠z->c≠TO->c≠j1->c≠j2->s.heap.get? c=some o->h'.get? c=some o)->Q none { s with heap:=h',toks:=tk }):Yaq (model prog w) A (pyNext (.ref z)) Q E s:=by
 have hT:s.TypeIs (.ref z) "zip":=⟨_,hz,rfl⟩
 unfold pyNext
 refine wpAny_bind (wpAny_attempt (Ybt (name:=J5t "__next__") hT J5w (wpAny_call_entry J5w hT J85 (Jte D D1 D2 hz hI hO st1 st2 hend λ h' e tk hk he=>?_) (J86 _))))
 obtain ⟨o,ho,hc⟩:=he
 refine wpAny_bind (wpAny_isInstance (T:="StopIteration") (b:=true) ⟨o,ho,hc⟩ isSubtype_stop ?_)
 exact wpAny_pure (q _ _ hk)
end
theorem Jrn {prog:Yas}{w:Yar}{A:Yat}{E:Yan->Yap->Prop}{s:Yap}(b b':Bool) {l m:Addr}{xs ys:Array Yan}{Q:Yan->Yap->Prop}(x1:Jc0 b s.heap l xs) (x2:Jc0 b' s.heap m ys)
 (q:∀ h',Ya0 h' (s.heap.objs.size+4) (s.heap.objs.size+2) (s.heap.objs.size+3) .none->Yaw h' (s.heap.objs.size+2) (.ref s.heap.objs.size) (.ref (s.heap.objs.size+1)) ->
  Yaw h' (s.heap.objs.size+3) .none .none->ItAt b h' s.heap.objs.size l 0->ItAt b' h' (s.heap.objs.size+1) m 0->h'.objs.size=s.heap.objs.size+5 ->
  (∀ c o,s.heap.get? c=some o->h'.get? c=some o)->Q (.ref (s.heap.objs.size+4)) { s with heap:=h' }) :
 Yaq (model prog w) A (call (.type "zip") [.ref l,.ref m]) Q E s:=by
 refine callType_new F.called_zip (by decide) (F.typeCall_zip_2 _ _) (F.newCall_zip_2 _ _) (λ obj=>F.args_object_init_3 obj _ _) F.entry_zip_new (Jv4 b b' l m xs ys) ⟨x1,x2,?_⟩
 have y1:(zz1 b s.heap l).objs.size=s.heap.objs.size+1:=Xw ..
 have y2:(zz2 b b' s.heap l m).objs.size=s.heap.objs.size+2:=by rw [Xw,y1]
 have y3:(zz3 b b' s.heap l m).objs.size=s.heap.objs.size+3:=by rw [Xw,y2]
 have y4:(zz4 b b' s.heap l m).objs.size=s.heap.objs.size+4:=by rw [Xw,y3]
 have y5:(zz5 b b' s.heap l m).objs.size=s.heap.objs.size+5:=by rw [Xw,y4]
 have fr:∀ b l,(Jjp b l).isFreed=false:=λ b l=>by cases b<;>rfl
 have g5:(zz5 b b' s.heap l m).get? (zz4 b b' s.heap l m).objs.size=some _:=Q9 _ rfl
 have g4:(zz5 b b' s.heap l m).get? (zz3 b b' s.heap l m).objs.size=some _:=Qu _ (Q9 _ rfl)
 have g3:(zz5 b b' s.heap l m).get? (zz2 b b' s.heap l m).objs.size=some _:=Qu _ (Qu _ (Q9 _ rfl))
 have g2:(zz5 b b' s.heap l m).get? (zz1 b s.heap l).objs.size=some _:=Qu _ (Qu _ (Qu _ (Q9 _ (fr b' m))))
 have g1:(zz5 b b' s.heap l m).get? s.heap.objs.size=some _:=Qu _ (Qu _ (Qu _ (Qu _ (Q9 _ (fr b l)))))
 show _/\_
 rw [y2,y3,y4] at g5;rw [y1,y2] at g3;rw [y3] at g4;rw [y1] at g2;rw [y4]
 exact ⟨⟨_,g5,rfl⟩,q _ g5 g3 g4 (Jmc g1) (Jmc g2) y5 λ c o x=>Qu _ (Qu _ (Qu _ (Qu _ (Qu _ x))))⟩
def SqK (b:Bool) (K:Qc) (H:Hp) (a:Addr) (xs:List V):Prop:=match b with | true=>SqT K H a xs | false=>SqL K H a xs
section
variable {X:Cx}{pins:List (Addr×Obj)}{σ:St}{H:Hp}{s:Yap}{a c:Addr}{xs ys:List V}{b:Bool}{h':Heap}
theorem Inv.seqK (I:Inv X pins σ H s) (h:SqK b X.K H a xs):∃ its:List Yan,J9 xs its/\Jc0 b s.heap a its.toArray/\xs.length<=sizeLine:=by
 cases b with
 | true=>exact let ⟨its,r,p,z⟩:=I.tuple h;⟨its,r,p,z⟩
 | false=>exact let ⟨its,r,p,z⟩:=I.list h;⟨its,r,p.isList,z⟩
theorem Inv.seqK_inj (I:Inv X pins σ H s) (h:SqK b X.K H a xs) (h':SqK b X.K H a ys):xs=ys:=by
 cases b with
 | true=>exact I.tuple_inj h h'
 | false=>exact I.list_inj h h'
theorem Inv.seqK_ne (I:Inv X pins σ H s) (h:SqK b X.K H a xs) (f:Jc9 X pins H c):a≠c:=by
 have base:∀ o,X.K.lookup a=some o->a≠c:=λ o hk e=>by
  have e1:=I.ok.mod.kin a o hk
  rcases f.2.2.2.1 with z | z
  . exact I.ok.noex a o e1 (e▸z)
  . exact absurd (Qz (Qs e1) (Xm I.ok.bsz (e▸z))) (Xd _)
 cases b with
 | true=>
  rcases h with (q | ⟨o,q⟩) | ⟨o,_,_,hk,_⟩
  . exact Jp q f.1
  . exact Jp q f.1
  . exact base o hk
 | false=>
  rcases h with (q | ⟨o,q⟩) | ⟨o,_,_,hk,_⟩
  . exact Jp q f.1
  . exact Jp q f.1
  . exact base o hk
theorem Inv.turnedL {t':Nat}{fp:List Addr}(I:Inv X pins σ H s) (k:∀ b o,b∉fp->s.heap.get? b=some o->h'.get? b=some o) (hf:∀ b∈fp,Jc9 X pins H b):Inv X pins σ H { s with heap:=h',toks:=t' }:=by
 refine I.step (g':=s.gens) (d':=s.drawn) (ch:=fp) (λ b hb=>⟨(hf b hb).2.2.2.1,(hf b hb).2.1,(hf b hb).2.2.2.2.1,(hf b hb).2.2.2.2.2⟩) (λ b o _ _ hc e _=>k b o hc e) (λ b o _ _ hc e _=>⟨o.slots,k b o hc e⟩) (λ _ _ _ _ n=>n)
  (λ b o hc e=>⟨o,k b o hc e⟩) (λ _ _ e=>e) (λ _ _ _ e=>e) (λ b ps e=>⟨#[],by rw [e];simp⟩) (λ m hm=>?_) (λ b u e=>?_) I.bare
 . obtain ⟨o,es,ep,ho,r⟩:=hm
   exact ⟨o,es,ep,k _ o (λ z=>(hf _ z).2.1 rfl) ho,r⟩
 . refine (I.hok b u e).stay (λ c v hc q=>k c v (λ z=>?_) q) (λ _ q=>q) λ _ _ q=>q
   have hn:=(hf c z).1
   rcases hc with hc | hc
   . rw [hc,e] at hn;cases hn
   . rw [hc] at hn;cases hn
theorem Inv.turnLay {t':Nat}{fp:List Addr}{p:Addr}{o:HO}(I:Inv X pins σ H s) (k:∀ b o,b∉fp->s.heap.get? b=some o->h'.get? b=some o) (hf:∀ b∈fp,Jc9 X pins H b)
 (hp:s.heap.objs.size<=p) (new:Y3 X.prog X.w (upd H p o) h' p o):Inv X pins σ (upd H p o) { s with heap:=h',toks:=t' }:=by
 have hn:=I.hok.fresh hp
 refine I.step (g':=s.gens) (d':=s.drawn) (ch:=fp) (λ b hb=>⟨(hf b hb).2.2.2.1,(hf b hb).2.1,(hf b hb).2.2.2.2.1,(hf b hb).2.2.2.2.2⟩) (λ b o _ _ hc e _=>k b o hc e) (λ b o _ _ hc e _=>⟨o.slots,k b o hc e⟩) (λ b ob _ e n=>?_)
  (λ b o hc e=>⟨o,k b o hc e⟩) (λ b xs e=>?_) (λ b _ _ e=>?_) (λ b ps e=>⟨#[],?_⟩) (λ m hm=>?_) (λ b u e=>?_) I.bare
 . have hbp:b≠p:=Q8 (Qz (Qs e) hp);rw [Jf hbp];exact n
 . rw [Jf (Jp e hn)];exact e
 . rw [Jf (Jp e hn)];exact e
 . rw [Jf (Jp e hn)];simpa using e
 . obtain ⟨o,es,ep,ho,r⟩:=hm
   exact ⟨o,es,ep,k _ o (λ z=>(hf _ z).2.1 rfl) ho,r⟩
 . by_cases hb:b=p
   . subst hb
     rw [Jg] at e;cases e
     exact new
   . rw [Jf hb] at e
     refine (I.hok b u e).stay (λ c v hc q=>k c v (λ z=>?_) q) (λ c q=>by rw [Jf (Jp q hn)];exact q) λ c _ q=>by rw [Jf (Jp q hn)];exact q
     have hn:=(hf c z).1
     rcases hc with hc | hc
     . rw [hc,e] at hn;cases hn
     . rw [hc] at hn;cases hn
end
noncomputable def Ite (b:Bool) (K:Qc) (a:Addr):It:=
 ⟨λ i H=>∃ xs x,SqK b K H a xs/\xs[i]? = some x,λ i H v H'=>∃ p y,H p=none/\H'=upd H p (.tup [.int i,y])/\v = .ref p/\∀ xs,SqK b K H a xs->xs[i]? = some y,λ i H=>∃ xs,SqK b K H a xs/\xs.length=i⟩
noncomputable def Itz (b b':Bool) (K:Qc) (a c:Addr):It:=
 ⟨λ i H=>∃ xs ys x y,SqK b K H a xs/\SqK b' K H c ys/\xs[i]? = some x/\ys[i]? = some y,λ i H v H'=>∃ p x y,H p=none/\H'=upd H p (.tup [x,y])/\v = .ref p/\(∀ xs,SqK b K H a xs->xs[i]? = some x)/\∀ ys,SqK b' K H c ys->ys[i]? = some y,
  λ i H=>∃ xs ys,SqK b K H a xs/\SqK b' K H c ys/\min xs.length ys.length=i⟩
theorem Jro {P:Yas}{w:Yar}{K:Qc}{es:List Expr}{kk:Nat}{tp:Pos}(b:Bool) (a e j:Addr) (hej:e≠j):Turn P w K (.Tuple es kk tp) (Ite b K a) [e,j] e (λ i h=>(∃ old,IsEnum h e j i old)/\ItAt b h j a i) where
 mem:=by simp
 obj:=λ i h st c hc=>by
  obtain ⟨⟨old,he⟩,hj⟩:=st
  rcases Qf.mp hc with rfl | hc
  . exact ⟨_,he,λ v z=>by have z':J6q _=J4d v:=z;cases z'⟩
  . rw [Qt.mp hc];exact hj.obj
 keep:=λ i h h' st k=>by
  obtain ⟨⟨old,he⟩,hj⟩:=st
  exact ⟨⟨old,k e (by first | exact mm0 | exact mm1 | exact mm2 | exact mm3 | exact mm4 | exact mm5 | simp) _ he⟩,hj.at λ o q=>k j (by first | exact mm0 | exact mm1 | exact mm2 | exact mm3 | exact mm4 | exact mm5 | simp) o q⟩
 item:=by
  intro X hP hw hK hc i pins s σ H E I hf st hg
  subst hP hw hK
  obtain ⟨xs,x,hq,hx⟩:=hg
  obtain ⟨its,rv,p,hz⟩:=I.seqK hq
  obtain ⟨u,hu,ru⟩:=rv.get hx
  obtain ⟨⟨old,he⟩,hj⟩:=st
  have nae:=I.seqK_ne hq (hf e (by first | exact mm0 | exact mm1 | exact mm2 | exact mm3 | exact mm4 | exact mm5 | simp))
  have naj:=I.seqK_ne hq (hf j (by first | exact mm0 | exact mm1 | exact mm2 | exact mm3 | exact mm4 | exact mm5 | simp))
  have hlt:i<its.toArray.size:=by
   have:=(Qq.mp hu).1
   simpa using this
  refine wpAny_pyNext_enum_itemD (Ja5 b (A:=X.A.in1) (I.ok.hd hc) j a naj its.toArray) he ⟨hj,p⟩ hlt hej (by simp;exact ⟨hej,Ql nae⟩) λ y h1 tk hP ho st1 hT hsz hk=>?_
  have ey:y=u:=by
   have hP:its.toArray[i]? = some y:=hP
   have:its[i]? = some y:=by simpa using hP
   rw [hu] at this;exact (Xf this).symm
  subst ey
  refine ⟨_,rfl,wpAny_letOwnedTupleGo_enum ho λ h2 he2 hs2=>?_⟩
  replace hs2:X2 e h1 h2:=hs2
  have hes:e<s.heap.objs.size:=Qs he
  have hjs:j<s.heap.objs.size:=by obtain ⟨o,q,_⟩:=hj.obj;exact Qs q
  have kk:∀ c o,c∉[e,j]->s.heap.get? c=some o->h2.get? c=some o:=λ c o hc q=>by
   have h1':c≠e:=λ z=>hc (by simp [z])
   exact hs2.extBut _ _ h1' (hk c o h1' (λ z=>hc (by simp [z])) q)
  refine ⟨.ref s.heap.objs.size,upd H s.heap.objs.size (.tup [.int i,x]),I.turnLay (t':=tk+1) kk hf (Qn _) ?_,rfl,⟨_,x,I.hok.fresh (Qn _),rfl,rfl,λ ys hy=>by rw [I.seqK_inj hy hq];exact hx⟩,⟨⟨y,by simpa using he2⟩,st1.1.at λ o q=>hs2.extBut _ _ (Ql hej) q⟩,λ c hc=>?_⟩
  . exact ⟨by simp [Yau],[.int i tk,y],.cons ⟨tk,rfl⟩ (.cons ru .nil),_,hs2.extBut _ _ (J4c hes) hT,rfl,0,rfl⟩
  . rw [Jf]
    . exact (hf c hc).1
    . rcases Qf.mp hc with rfl | hc
      . exact Q8 hes
      . rw [Qt.mp hc];exact Q8 hjs
 done:=by
  intro X hP hw hK hc i pins s σ H E I hf st hg
  subst hP hw hK
  obtain ⟨xs,hq,hx⟩:=hg
  obtain ⟨its,rv,p,hz⟩:=I.seqK hq
  obtain ⟨⟨old,he⟩,hj⟩:=st
  have naj:=I.seqK_ne hq (hf j (by first | exact mm0 | exact mm1 | exact mm2 | exact mm3 | exact mm4 | exact mm5 | simp))
  have hl:=rv.length
  have hn:its.toArray.size=i:=by simp;omega
  refine wpAny_pyNext_enum_endD (Ja5 b (A:=X.A.in1) (I.ok.hd hc) j a naj its.toArray) he (by rw [hn];exact ⟨hj,p⟩) λ h1 hk=>⟨rfl,?_⟩
  exact I.turnedL (t':=s.toks) (λ c o hc q=>hk c o (λ z=>hc (by simp [z])) q) hf
 self:=λ _ _ _ _ _ st q=>by
  obtain ⟨⟨old,he⟩,_⟩:=st
  exact wpAny_pyIter_enum he q
theorem Jtf {P:Yas}{w:Yar}{K:Qc}{es:List Expr}{kk:Nat}{tp:Pos}(b b':Bool) (a c z TI TO j1 j2:Addr) (dz:[z,TI,TO,j1,j2].Nodup) :
 Turn P w K (.Tuple es kk tp) (Itz b b' K a c) [z,TI,TO,j1,j2] z (λ i h=>Ya0 h z TI TO .none/\Yaw h TI (.ref j1) (.ref j2)/\(∃ u v,Yaw h TO u v)/\ItAt b h j1 a i/\ItAt b' h j2 c i) where
 mem:=by simp
 obj:=λ i h st d hd=>by
  obtain ⟨hz,hI,⟨u,v,hO⟩,h1,h2⟩:=st
  have notup:∀ (o:Obj) {w:Yan} {vs:Array Yan} {n:Nat},o.data = .seq vs n->o.data≠.cell w:=λ o w vs n e z=>by rw [e] at z;cases z
  rcases Qf.mp hd with rfl | hd
  . exact ⟨_,hz,λ v z=>by have z':J6q _=J4d v:=z;cases z'⟩
  . rcases Qf.mp hd with rfl | hd
    . exact ⟨_,hI,λ w z=>by have z':J4l _ _=J4d w:=z;cases z'⟩
    . rcases Qf.mp hd with rfl | hd
      . exact ⟨_,hO,λ w z=>by have z':J4l _ _=J4d w:=z;cases z'⟩
      . rcases Qf.mp hd with rfl | hd
        . exact h1.obj
        . rw [Qt.mp hd];exact h2.obj
 keep:=λ i h h' st k=>by
  obtain ⟨hz,hI,⟨u,v,hO⟩,h1,h2⟩:=st
  exact ⟨k z (by first | exact mm0 | exact mm1 | exact mm2 | exact mm3 | exact mm4 | exact mm5 | simp) _ hz,k TI (by first | exact mm0 | exact mm1 | exact mm2 | exact mm3 | exact mm4 | exact mm5 | simp) _ hI,⟨u,v,k TO (by first | exact mm0 | exact mm1 | exact mm2 | exact mm3 | exact mm4 | exact mm5 | simp) _ hO⟩,h1.at λ o q=>k j1 (by first | exact mm0 | exact mm1 | exact mm2 | exact mm3 | exact mm4 | exact mm5 | simp) o q,h2.at λ o q=>k j2 (by first | exact mm0 | exact mm1 | exact mm2 | exact mm3 | exact mm4 | exact mm5 | simp) o q⟩
 item:=by
  intro X hP hw hK hc i pins s σ H E I hf st hg
  subst hP hw hK
  obtain ⟨xs,ys,x,y,hq,hq',hx,hy⟩:=hg
  obtain ⟨its,rv,p,_⟩:=I.seqK hq
  obtain ⟨its',rv',p',_⟩:=I.seqK hq'
  obtain ⟨u,hu,ru⟩:=rv.get hx
  obtain ⟨u',hu',ru'⟩:=rv'.get hy
  obtain ⟨hz,hI,⟨o1,o2,hO⟩,h1,h2⟩:=st
  have na:=λ d hd=>I.seqK_ne hq (hf d hd)
  have na':=λ d hd=>I.seqK_ne hq' (hf d hd)
  simp only [Xr,Qf,X0,or_false,not_or] at dz
  obtain ⟨⟨d1,d2,d3,d4⟩,⟨d5,d6,d7⟩,⟨d8,d9⟩,d10,_⟩:=dz
  have hlt:i<its.toArray.size:=by have:=(Qq.mp hu).1;simpa using this
  have hlt':i<its'.toArray.size:=by have:=(Qq.mp hu').1;simpa using this
  have D:ZApart z TI TO j1 j2 [j1,a] [j2,c]:=⟨by simp,by simp,by simp;exact ⟨d3,Ql (na z (by first | exact mm0 | exact mm1 | exact mm2 | exact mm3 | exact mm4 | exact mm5 | simp))⟩,by simp;exact ⟨d4,Ql (na' z (by first | exact mm0 | exact mm1 | exact mm2 | exact mm3 | exact mm4 | exact mm5 | simp))⟩,by simp;exact ⟨d8,Ql (na TO (by first | exact mm0 | exact mm1 | exact mm2 | exact mm3 | exact mm4 | exact mm5 | simp))⟩,by simp;exact ⟨d9,Ql (na' TO (by first | exact mm0 | exact mm1 | exact mm2 | exact mm3 | exact mm4 | exact mm5 | simp))⟩,
   by simp;exact ⟨d10,Ql (na' j1 (by first | exact mm0 | exact mm1 | exact mm2 | exact mm3 | exact mm4 | exact mm5 | simp))⟩,by simp;exact ⟨Ql d10,Ql (na j2 (by first | exact mm0 | exact mm1 | exact mm2 | exact mm3 | exact mm4 | exact mm5 | simp))⟩,Ql d1,d5,d6,d7,Ql d2⟩
  refine Jhi D (Ja5 b (A:=X.A.in1) (I.ok.hd hc) j1 a (na j1 (by first | exact mm0 | exact mm1 | exact mm2 | exact mm3 | exact mm4 | exact mm5 | simp)) its.toArray) (Ja5 b' (A:=X.A.in1) (I.ok.hd hc) j2 c (na' j2 (by first | exact mm0 | exact mm1 | exact mm2 | exact mm3 | exact mm4 | exact mm5 | simp)) its'.toArray) hz hI hO ⟨h1,p⟩ ⟨h2,p'⟩ hlt hlt' λ v v' g1 tk e1 e2 z1 O1 s1 s2 T1 sz1 k1=>?_
  have ev:v=u:=by
   have e1:its.toArray[i]? = some v:=e1
   have:its[i]? = some v:=by simpa using e1
   rw [hu] at this;exact (Xf this).symm
  have ev':v'=u':=by
   have e2:its'.toArray[i]? = some v':=e2
   have:its'[i]? = some v':=by simpa using e2
   rw [hu'] at this;exact (Xf this).symm
  subst ev ev'
  refine ⟨_,rfl,wpAny_letOwnedTupleGo_zip z1 λ g2 z2 b2=>?_⟩
  replace b2:X2 z g1 g2:=b2
  have hzs:z<s.heap.objs.size:=Qs hz
  have kk:∀ d o,d∉[z,TI,TO,j1,j2]->s.heap.get? d=some o->g2.get? d=some o:=λ d o hd q=>by
   have h1':d≠z:=(by first | exact mn0 hd | exact mn1 hd | exact mn2 hd | exact mn3 hd | exact mn4 hd | exact mn5 hd)
   exact b2.extBut _ _ h1' (k1 d o h1' (by first | exact mn0 hd | exact mn1 hd | exact mn2 hd | exact mn3 hd | exact mn4 hd | exact mn5 hd) (by first | exact mn0 hd | exact mn1 hd | exact mn2 hd | exact mn3 hd | exact mn4 hd | exact mn5 hd) (by first | exact mn0 hd | exact mn1 hd | exact mn2 hd | exact mn3 hd | exact mn4 hd | exact mn5 hd) q)
  refine ⟨.ref s.heap.objs.size,upd H s.heap.objs.size (.tup [x,y]),I.turnLay (t':=tk) kk hf (Qn _) ?_,rfl,⟨_,x,y,I.hok.fresh (Qn _),rfl,rfl,λ zs hy=>by rw [I.seqK_inj hy hq];exact hx,λ zs hy'=>by rw [I.seqK_inj hy' hq'];exact hy⟩,
   ⟨z2,b2.extBut _ _ (Ql d1) (k1 _ _ (Ql d1) d5 d6 d7 hI),⟨_,_,b2.extBut _ _ (Ql d2) O1⟩,s1.1.at λ o q=>b2.extBut _ _ (Ql d3) q,s2.1.at λ o q=>b2.extBut _ _ (Ql d4) q⟩,λ d hd=>?_⟩
  . exact ⟨by simp [Yau],[v,v'],.cons ru (.cons ru' .nil),_,b2.extBut _ _ (J4c hzs) T1,rfl,0,rfl⟩
  . have lt:d<s.heap.objs.size:=by
     rcases Qf.mp hd with rfl | hd
     . exact hzs
     . rcases Qf.mp hd with rfl | hd
       . exact Qs hI
       . rcases Qf.mp hd with rfl | hd
         . exact Qs hO
         . rcases Qf.mp hd with rfl | hd
           . obtain ⟨o,q,_⟩:=h1.obj;exact Qs q
           . rw [Qt.mp hd];obtain ⟨o,q,_⟩:=h2.obj;exact Qs q
    rw [Jf (Q8 lt)]
    exact (hf d hd).1
 done:=by
  intro X hP hw hK hc i pins s σ H E I hf st hg
  subst hP hw hK
  obtain ⟨xs,ys,hq,hq',hm⟩:=hg
  obtain ⟨its,rv,p,_⟩:=I.seqK hq
  obtain ⟨its',rv',p',_⟩:=I.seqK hq'
  obtain ⟨hz,hI,⟨o1,o2,hO⟩,h1,h2⟩:=st
  have na:=λ d hd=>I.seqK_ne hq (hf d hd)
  have na':=λ d hd=>I.seqK_ne hq' (hf d hd)
  simp only [Xr,Qf,X0,or_false,not_or] at dz
  obtain ⟨⟨d1,d2,d3,d4⟩,⟨d5,d6,d7⟩,⟨d8,d9⟩,d10,_⟩:=dz
  have D:ZApart z TI TO j1 j2 [j1,a] [j2,c]:=⟨by simp,by simp,by simp;exact ⟨d3,Ql (na z (by first | exact mm0 | exact mm1 | exact mm2 | exact mm3 | exact mm4 | exact mm5 | simp))⟩,by simp;exact ⟨d4,Ql (na' z (by first | exact mm0 | exact mm1 | exact mm2 | exact mm3 | exact mm4 | exact mm5 | simp))⟩,by simp;exact ⟨d8,Ql (na TO (by first | exact mm0 | exact mm1 | exact mm2 | exact mm3 | exact mm4 | exact mm5 | simp))⟩,by simp;exact ⟨d9,Ql (na' TO (by first | exact mm0 | exact mm1 | exact mm2 | exact mm3 | exact mm4 | exact mm5 | simp))⟩,
   by simp;exact ⟨d10,Ql (na' j1 (by first | exact mm0 | exact mm1 | exact mm2 | exact mm3 | exact mm4 | exact mm5 | simp))⟩,by simp;exact ⟨Ql d10,Ql (na j2 (by first | exact mm0 | exact mm1 | exact mm2 | exact mm3 | exact mm4 | exact mm5 | simp))⟩,Ql d1,d5,d6,d7,Ql d2⟩
  have hl:=rv.length
  have hl':=rv'.length
  refine Jiz D (Ja5 b (A:=X.A.in1) (I.ok.hd hc) j1 a (na j1 (by first | exact mm0 | exact mm1 | exact mm2 | exact mm3 | exact mm4 | exact mm5 | simp)) its.toArray) (Ja5 b' (A:=X.A.in1) (I.ok.hd hc) j2 c (na' j2 (by first | exact mm0 | exact mm1 | exact mm2 | exact mm3 | exact mm4 | exact mm5 | simp)) its'.toArray) hz hI hO ⟨h1,p⟩ ⟨h2,p'⟩ (by simp;omega) λ g1 tk k1=>⟨rfl,?_⟩
  exact I.turnedL (t':=tk) (λ d o hd q=>k1 d o (by first | exact mn0 hd | exact mn1 hd | exact mn2 hd | exact mn3 hd | exact mn4 hd | exact mn5 hd) (by first | exact mn0 hd | exact mn1 hd | exact mn2 hd | exact mn3 hd | exact mn4 hd | exact mn5 hd) (by first | exact mn0 hd | exact mn1 hd | exact mn2 hd | exact mn3 hd | exact mn4 hd | exact mn5 hd) (by first | exact mn0 hd | exact mn1 hd | exact mn2 hd | exact mn3 hd | exact mn4 hd | exact mn5 hd) q) hf
 self:=λ _ _ _ _ _ st q=>wpAny_pyIter_zip st.1 q
section
variable {X:Cx}{es:List Expr}{kk:Nat}{tp:Pos}
def Jx7 (K:Qc) (ta:TA):TI:=λ σ H R=>ta σ H λ vs H1=>∃ b l xs,vs=[.ref l]/\SqK b K H1 l xs/\R (Ite b K l) H1
def Joo (K:Qc) (ta:TA):TI:=λ σ H R=>ta σ H λ vs H1=>∃ b b' l m xs ys,vs=[.ref l,.ref m]/\SqK b K H1 l xs/\SqK b' K H1 m ys/\R (Itz b b' K l m) H1
theorem Jp6 {a:Expr}{ta:TA}{p pos:Pos}(hg:Gl X "enumerate") (hm:X.mg "enumerate" = none) (ha:PA X [a] ta) (hs:starEach [a] X.env=[(false,eval a X.env)]:=by rfl):PI X (.Tuple es kk tp) (.Call (.Name "enumerate" p) [a] [] pos) (Jx7 X.K ta):=by
 intro pins s σ H R I h
 refine Call_ (By I hg hm boot_enumerate (U1 (thn (ha pos pins s σ H _ I h) λ us s1 ⟨vs,H1,I1,r1,q1⟩=>?_) hs rfl))
 obtain ⟨b,l,xs,e,hq,q⟩:=q1
 subst e
 obtain ⟨u,rfl,ru⟩:=Jah r1
 cases ru
 obtain ⟨its,rv,p,_⟩:=I1.seqK hq
 refine Jrl b p λ h1 he hj hsz hk=>wpAny_pyIter_enum he ?_
 refine ⟨_,[s1.heap.objs.size+1,s1.heap.objs.size],_,_,H1,rfl,I1.kept (t':=s1.toks) hk,Jro b l _ _ (Nat.succ_ne_self _),⟨⟨_,he⟩,hj⟩,λ c hc=>?_,q⟩
 rcases Qf.mp hc with rfl | hc
 . exact I1.fpOk (J61 _) (I1.hok.fresh (J61 _))
 . rw [Qt.mp hc];exact I1.fpOk (Qn _) (I1.hok.fresh (Qn _))
theorem Vf {a b:Expr}{ta:TA}{p pos:Pos}(hg:Gl X "zip") (hm:X.mg "zip" = none) (ha:PA X [a,b] ta) (hs:starEach [a,b] X.env=[(false,eval a X.env),(false,eval b X.env)]:=by rfl) (hs2:starEach [b] X.env=[(false,eval b X.env)]:=by rfl) :
 PI X (.Tuple es kk tp) (.Call (.Name "zip" p) [a,b] [] pos) (Joo X.K ta):=by
 intro pins s σ H R I h
 refine Call_ (By I hg hm boot_zip (U1 (thn (ha pos pins s σ H _ I h) λ us s1 ⟨vs,H1,I1,r1,q1⟩=>?_) (by rw [hs,hs2]) (by rw [hs2];rfl)))
 obtain ⟨b,b',l,m,xs,ys,e,hq,hq',q⟩:=q1
 subst e
 obtain ⟨u,u',rfl,ru,ru'⟩:=Jpx r1
 cases ru
 cases ru'
 obtain ⟨its,rv,p,_⟩:=I1.seqK hq
 obtain ⟨its',rv',p',_⟩:=I1.seqK hq'
 refine Jrn b b' p p' λ h1 hz hI hO i1 i2 hsz hk=>wpAny_pyIter_zip hz ?_
 refine ⟨_,[s1.heap.objs.size+4,s1.heap.objs.size+2,s1.heap.objs.size+3,s1.heap.objs.size,s1.heap.objs.size+1],_,_,H1,rfl,I1.kept (t':=s1.toks) hk,Jtf b b' l m _ _ _ _ _ (by first | exact mm0 | exact mm1 | exact mm2 | exact mm3 | exact mm4 | exact mm5 | simp),⟨hz,hI,⟨_,_,hO⟩,i1,i2⟩,λ c hc=>?_,q⟩
 have hc':s1.heap.objs.size<=c:=by
  simp only [Qf,X0,or_false] at hc
  rcases hc with rfl | rfl | rfl | rfl | rfl
  . exact J4s _ _
  . exact J4s _ _
  . exact J4s _ _
  . exact Qn _
  . exact J4s _ _
 exact I1.fpOk hc' (I1.hok.fresh hc')
end
section
variable {X:Cx}{pos:Pos}{k:Nat}
abbrev Sto (X:Cx) (i:Nat) (x:Str):Prop:=X.N[i]? = some x/\Loc X.env.scope x/\(X.fn x=true\/X.env.scope.names.lookup x=some .local)
theorem Y4 {K':Qc}{i j:Nat}{x y:Str}{px py:Pos}(hc:X.calm=true) (hN:X.N.Nodup) (hx:Sto X i x) (hy:Sto X j y) (hK:X.K=K'):PG X (.Tuple [.Name x px,.Name y py] k pos) (Jsp K' 2 (gCons (Bt i) (gCons (Bt j) gNil))):=
 hK▸Jj6 hc (Wn (Js hN hx.1 hx.2.1 hx.2.2) (Wn (Js hN hy.1 hy.2.1 hy.2.2) Jd2))
theorem Bg {K':Qc}{i j m:Nat}{x y z:Str}{px py pz:Pos}(hc:X.calm=true) (hN:X.N.Nodup) (hx:Sto X i x) (hy:Sto X j y) (hz:Sto X m z) (hK:X.K=K'):PG X (.Tuple [.Name x px,.Name y py,.Name z pz] k pos) (Jsp K' 3 (gCons (Bt i) (gCons (Bt j) (gCons (Bt m) gNil)))):=
 hK▸Jj6 hc (Wn (Js hN hx.1 hx.2.1 hx.2.2) (Wn (Js hN hy.1 hy.2.1 hy.2.2) (Wn (Js hN hz.1 hz.2.1 hz.2.2) Jd2)))
end
end L2
namespace My
open L2
noncomputable def Je (ws:List Way) (k:Int):Way:=ws.getD k.toNat ⟨0,0,[]⟩
structure BkAt (ex:List Addr) (H:Hp) (R U:Int) (ws:List Way) (bv:V) (ba wa:Addr) (vs:List V):Prop where
 e:bv = .ref ba
 b:H ba=some (.tup [.int R,.int U,.ref wa])
 w:H wa=some (.tup vs)
 r:Reps ex H (ws.map Y6) vs
 nb:ba∉ex
 nw:wa∉ex
 z:vs.length<=sizeLine
theorem Jtg {ex:List Addr}{H:Hp}{R U:Int}{ws:List Way}{bv:V}(r:Rep ex H (J8 R U ws) bv):∃ ba wa vs,BkAt ex H R U ws bv ba wa vs:=by
 obtain ⟨ba,x,y,z,rfl,hb,nb,r1,r2,r3⟩:=Jtc r
 obtain ⟨wa,vs,rfl,hw,nw,hz,rs⟩:=Jp2 r3
 rw [Jp3 r1,Jp3 r2] at hb
 exact ⟨ba,wa,vs,rfl,hb,hw,rs,nb,nw,hz⟩
theorem BkAt.len {ex:List Addr}{H:Hp}{R U:Int}{ws:List Way}{bv:V}{ba wa:Addr}{vs:List V}(B:BkAt ex H R U ws bv ba wa vs):vs.length=ws.length:=by
 rw [<- B.r.length,Qb]
theorem at_map (ns:List Int) {i:Int}(h0:0<=i) (h1:i<ns.length):∃ n∈ns,atI (ns.map V.int) i=some (V.int n):=by
 obtain ⟨n,e,h⟩:=J1e (P:=λ n=>n∈ns) ns (λ _ h=>h) h0 h1
 exact ⟨n,h,e⟩
theorem range_getD {α β:Type}(f:α->β) (xs:List α) (dflt:α):((Qk xs.length).map λ i=>f (xs.getD i dflt))=xs.map f:=by
 refine List.ext_getElem (by simp) λ i h1 h2=>?_
 have hi:i<xs.length:=by simpa using h1
 simp [Qg,Qd hi]
theorem at0 (x y z:V):atI [x,y,z] 0=some x:=Jj8 (j:=0) rfl
end My
namespace L2
section
variable {X:Cx}{K':Qc}
theorem Wk (hK:X.K=K'):IxR X (Jzm K'):=hK▸Ze
theorem Jb5 (hK:X.K=K'):IxR X (Jl4 K'):=hK▸Jt
theorem Jrp (hK:X.K=K') (hc:X.calm=true):Vs X (.builtin "sum") (λ xs H Q=>∃ (p:Addr) (ns:List Int),xs=[.ref p]/\SqL K' H p (ns.map V.int)/\Q (.int ns.sum) H):=by
 subst hK
 intro pins s σ H xs us Q I r h
 exact Jd8 pins s σ H xs us Q I r ⟨hc,h⟩
end
section
variable {X:Cx}{e st:Expr}{te:TE}{ts:TO}{pos p2:Pos}
end
theorem Jbi {X:Cx}:OpR X (binaryOp .Mult) (rI IntMulOk λ i j=>.int (i*j)):=opI λ _ _ _ _ _ _ _ hc q=>mul_int q hc
theorem Jec {X:Cx}{pos:Pos}{i:Nat}{x:Str}{e:Expr}{te:TE}{pos':Pos}(hN:X.N.Nodup) (hi:X.N[i]? = some x) (hx:Loc X.env.scope x) (he:PEs X e te) (hs:Ybg e (some (.Name x pos')) pos.line X.env=pure false:=by rfl) (hf:X.fn x=true\/X.env.scope.names.lookup x=some .local := by first | exact .inl rfl | exact .inr rfl | assumption):PS X (.Assign [.Name x pos'] e pos) (Jd3 te (Bt i)):=Jy hN hi hx he.out hs hf
end L2
namespace My
open L2
end My
namespace L2
section
variable {X:Cx}
theorem Jrq (hc:X.calm=true):Vs X (.builtin "min") (λ xs H Q=>∃ (p:Addr) (ns:List Int),xs=[.ref p]/\SqL X.K H p (ns.map V.int)/\ns≠[]/\∀ m∈ns,(∀ n∈ns,m<=n)->Q (.int m) H):=by
 intro pins s σ H xs us Q I r h
 obtain ⟨p,ns,rfl,hq,hne,q⟩:=h
 obtain ⟨u,rfl,ru⟩:=Jah r
 cases ru
 obtain ⟨its,rv,pl,hz⟩:=I.list hq
 have hl:=pl.isList
 have hi:=Jdb rv
 obtain ⟨xs,e⟩:=hi.allInts.items
 have h1:=hi.numsOf
 have h2:numsOf its.toArray.toList=(xs.toList.map (·.1)):=by rw [e,Ybx]
 have h2':(xs.toList.map (·.1))=ns:=by rw [<- h2];simpa using h1
 have hlen:xs.size=ns.length:=by rw [<- h2'];simp
 have hpos:0<ns.length:=J5x.mpr hne
 rw [e] at hl
 refine min_intList (I.ok.hd hc) hl (by omega) λ v h' tk hv hk=>?_
 obtain ⟨b1,b2⟩:=argBest_lt (numAt xs) (xs.size-1)
 generalize argBest (λ i j=>decide (numAt xs i<numAt xs j)) (xs.size-1)=m at hv b1 b2
 obtain ⟨t,rfl⟩:=intItems_at hv
 have num:∀ i (hi:i<ns.length),numAt xs i=ns[i]:=λ i hi=>by
  have hix:i<xs.size:=by omega
  have e1:numAt xs i=xs[i].1:=by unfold numAt;rw [J87 hix];rfl
  rw [e1]
  have e2:(xs.toList.map (·.1))[i]'(by simpa using hix)=xs[i].1:=by simp
  rw [<- e2]
  congr 1
 refine ⟨.int (numAt xs m),H,I.kept (t':=tk) hk,⟨t,rfl⟩,q _ ?_ λ n hn=>?_⟩
 . rw [num m (by omega)];exact Xe _
 . obtain ⟨i,hi,rfl⟩:=J5q.mp hn
   rw [<- num i hi]
   exact b2 i (by omega)
end
end L2
namespace My
open L2
end My
namespace L2
section
variable {prog:Yas}{w:Yar}{A:Yat}{E:Yan->Yap->Prop}{s:Yap}{z TI TO j1 j2 j3:Addr}{f1 f2 f3:List Addr}{n1 n2 n3 i:Nat}{P1 P2 P3:Nat->Yan->Prop}{St1 St2 St3:Nat->Heap->Prop}{a b c:Yan}
end
section
variable {X:Cx}{es:List Expr}{kk:Nat}{tp:Pos}
end
end L2
namespace My
open L2
noncomputable def Bk (xs gs:List Int):List Int:=J4o (· + ·) xs gs
theorem Jb6 (xs gs:List Int):(Bk xs gs).length=min xs.length gs.length:=by unfold Bk;simp
end My
namespace L2
section
variable {X:Cx}
end
end L2
namespace My
open L2
noncomputable def Ji0 (xs:List Yao) (lo hi:Option Int):List Yao:=(xs.drop (HT.sIx xs.length 0 lo)).take (HT.sIx xs.length xs.length hi-HT.sIx xs.length 0 lo)
theorem Jjq (xs:List Yao) (k:Nat):Ji0 xs none (some (k:Int))=xs.take k:=by
 unfold Ji0
 rw [HT.sIx_none,HT.sIx_nat,List.drop_zero,Nat.sub_zero]
 rcases J7k k xs.length with h | h
 . rw [J7l h]
 . rw [J88 h,J5r (Qn _),J5r h]
theorem Jfe (xs:List Yao) (k:Nat):Ji0 xs (some (k:Int)) none=xs.drop k:=by
 unfold Ji0
 rw [HT.sIx_none,HT.sIx_nat]
 rcases J7k k xs.length with h | h
 . rw [J7l h,J5r (by rw [J4h];omega)]
 . rw [J88 h,J89 (Qn _),J89 h];simp
theorem V9 (o:Expr) (k:Const) (j:Nat) (p pos:Pos) (env:Env) (v:Yan):assign (.Subscript o (.Constant k j p) pos) env v=(do
 let ov <- holding [v] (eval o env)
 let iv <- holding [v,ov] (eval (.Constant k j p) env)
 Ya5 pos
 holding [v,ov,iv] (setItem ov iv v)
 Ybi [v,ov,iv] []):=B2 _ _ _ _ _
structure Tape (H:Hp) (p c:Addr) (n:Nat):Prop where
 ex:∃ (ns:List Int) (k g:Int),H p=some (.lst [.ref c,.int k,.int g])/\H c=some (.lst (ns.map V.int))/\ns.length<=63/\0<=k/\k<=n
theorem Tape.ne {H:Hp}{p c:Addr}{n:Nat}(J:Tape H p c n):p≠c:=by
 obtain ⟨ns,k,g,h1,h2,_⟩:=J.ex
 rintro rfl
 rw [h1] at h2
 cases ns with
 | nil=>cases h2
 | cons a r=>cases h2
theorem Tape.fresh {H:Hp}{p c l:Addr}{n:Nat}(J:Tape H p c n) (h:H l=none):l∉[p,c]:=by
 obtain ⟨ns,k,g,h1,h2,_⟩:=J.ex
 intro z
 rcases Qf.mp z with rfl | z
 . rw [h] at h1;cases h1
 . cases Qt.mp z;rw [h] at h2;cases h2
def Jkg (K:Qc):Sp:=λ vs H Q _=>∃ (a:Addr) (ns:List Int),vs=[.ref a]/\SqL K H a (ns.map V.int)/\ns.length<=63/\∀ p c H',Kp [] H H'->H p=none->H c=none->Tape H' p c 0->Q (.ref p) H'
def Jop:Sp:=λ vs H Q _=>∃ (p c:Addr) (n:Nat) (many:Int),vs=[.ref p,.int many]/\Tape H p c n/\n<2^40/\0<many/\many<2^9000/\∀ (r:Int) (H':Hp),0<=r->r<many->Tape H' p c (n+1)->Kp [p,c] H H'->Q (.int r) H'
theorem Kp.late {ex:List Addr}{H1 H2:Hp}{a:Addr}(k:Kp ex H1 H2) (h:H1 a=none) (o:HO):Kp ex H1 (upd H2 a o):=λ b v e n=>by
 rw [Jf (Jp e h)];exact k b v e n
theorem Joq {n:Nat}{i:Int}(h0:0<=i) (h1:i<n):ixN n i=some i.toNat:=by
 unfold ixN
 rw [if_pos h0,if_pos (by omega)]
def Jth (K:Qc) (n:Nat) (t:TGs):TG:=λ v σ H Q=>∃ a xs,v = .ref a/\SqL K H a xs/\xs.length=n/\t xs σ H Q
section
variable {X:Cx}{pos:Pos}{k:Nat}
theorem Jv5 {es:List Expr}{t:TGs}{n:Nat}(hc:X.calm=true) (h:PGs X es t)
 (hn:(assignEach es X.env).length=n:=by rfl) (hst:(assignEach es X.env).findIdx? (·.1)=none:=by rfl):PG X (.Tuple es k pos) (Jth X.K n t):=by
 intro pins s σ H v u Q I r hw
 obtain ⟨a,xs,e1,hq,hl,hw⟩:=hw
 subst e1
 cases r
 obtain ⟨its,rv,pl,hz⟩:=I.list hq
 rw [assign_Tuple]
 refine wpAny_bind (wpAny_standAt ?_)
 unfold unpack
 have hsz:(assignEach es X.env).length=its.toArray.size:=by simp [hn,<- hl,rv.length]
 rw [hsz,hst]
 refine wpAny_bind (wpAny_holding (PySem.W.kun_itemsOf (I.ok.hd hc) pl.isList λ h' hx=>?_))
 have I1:Inv X pins σ H { s with heap:=h' }:=I.kept (t':=s.toks) λ b o e=>hx b o (Q8 (Qs e)) e
 exact h pins _ σ H xs _ Q I1 (by simpa using rv) hw
theorem Jti {K':Qc}{i j:Nat}{x y:Str}{px py:Pos}(hc:X.calm=true) (hN:X.N.Nodup) (hx:Sto X i x) (hy:Sto X j y) (hK:X.K=K'):PG X (.Tuple [.Name x px,.Name y py] k pos) (Jth K' 2 (gCons (Bt i) (gCons (Bt j) gNil))):=
 hK▸Jv5 hc (Wn (Js hN hx.1 hx.2.1 hx.2.2) (Wn (Js hN hy.1 hy.2.1 hy.2.2) Jd2))
end
end My
namespace L2
noncomputable def Jor (n:Nat):List V:=(Qk n).map λ (i:Nat)=>V.int (i:Int)
def tLR (ta:TA):TE:=λ σ H Q=>ta σ H λ vs H1=>∃ j:Int,vs=[.int j]/\0<=j/\j<=1000000/\∀ l,H1 l=none->Q (.ref l) (upd H1 l (.lst (Jor j.toNat)))
theorem Jtj:∀ (n:Nat) (us:List Yan),us.length=n->(∀ (k:Nat) (u:Yan),us[k]? = some u->∃ t,u=Us ((k:Nat):Int) t)->J9 (Jor n) us:=by
 intro n
 induction n with
 | zero=>intro us h _;rw [J7m.mp h];exact .nil
 | succ n ih=>
  intro us h hk
  have hne:us≠[]:=λ e=>by rw [e] at h;cases h
  obtain ⟨l,x,rfl⟩:∃ l x,us=l++[x]:=⟨us.dropLast,us.getLast hne,(J9a hne).symm⟩
  have hl:l.length=n:=by simpa using h
  have e:Jor (n+1)=Jor n++[V.int n]:=by unfold Jor;rw [J4t,Xb];rfl
  rw [e]
  obtain ⟨t,et⟩:=hk n x (by rw [<- hl];simp)
  subst et
  exact (ih l hl λ k u hu=>hk k u (by rw [Uv (by exact (Qq.mp hu).1)];exact hu)).append (.cons ⟨t,rfl⟩ .nil)
section
variable {X:Cx}
theorem Jkh {a:Expr}{ta:TA}{p1 p2 pos1 pos2:Pos}(hc:X.calm=true) (hg1:Gl X "list") (hm1:X.mg "list" = none) (hg2:Gl X "range") (hm2:X.mg "range" = none) (ha:PA X [a] ta) (hs:starEach [a] X.env=[(false,eval a X.env)]:=by rfl)
 (hs1:starEach [.Call (.Name "range" p2) [a] [] pos2] X.env=[(false,eval (.Call (.Name "range" p2) [a] [] pos2) X.env)]:=by rfl):PE X (.Call (.Name "list" p1) [.Call (.Name "range" p2) [a] [] pos2] [] pos1) (tLR ta):=by
 intro pins s σ H Q I h
 refine Ybb (By I hg1 hm1 Ya7 ?_)
 refine U1 ?_ hs1 rfl
 rw [hs1]
 show Yaq _ _ (spliced ((false,eval (.Call (.Name "range" p2) [a] [] pos2) X.env)::[])) _ _ s
 refine J38 ?_
 refine Call_ (By I hg2 hm2 boot_range (U1 (thn (ha pos2 pins s σ H _ I h) λ us s1 ⟨vs,H1,I1,r1,q1⟩=>?_) hs rfl))
 obtain ⟨j,e,b1,b2,q⟩:=q1
 subst e
 cases r1 with
 | cons r rr=>
  cases rr
  obtain ⟨t,rfl⟩:=r
  refine call_range_1 (J4g ?_)
  have I2:Inv X pins σ H1 { s1 with heap:=s1.heap.push { cls:=.type "range",data:=.fields #[.int 0 s1.toks,.int j t,.int 1 (s1.toks+1)] },toks:=s1.toks+1+1 }:=I1.kept λ b o e=>Qu _ e
  have hs:=Yau
  refine call_list_range (n:=j.toNat) (I2.ok.hd hc) (J6s ..) (small_one (by omega) (by omega) (by omega) (by omega)) (by rw [Ybv];split<;>omega) (by omega) λ h' tk acc' c' hk hS' hacc=>?_
  refine ⟨.ref _,_,I2.laid (t':=tk) hk (Qn _) (show Y3 X.prog X.w _ h' _ (.lst (Jor j.toNat)) from ⟨by unfold Jor;simp;omega,acc'.toList,c',Jtj _ _ (by simp [hacc.1]) (λ k u hu=>?_),by simpa using hS'⟩),rfl,q _ (I2.hok.fresh (Qn _))⟩
  obtain ⟨t,et⟩:=hacc.2 k u (by simpa using hu)
  exact ⟨t,by rw [et];simp⟩
end
end L2
namespace My
open L2
noncomputable def Jan (xs ys:List Int) (n:Nat):Int:=((Qk n).map λ i=>xs.getD i 0*ys.getD i 0).sum
noncomputable def Ya (ws:List Way) (wts hts:List Int) (k:Int):Int:=hts.getD (Je ws k).a.toNat 0-hts.getD (Je ws k).b.toNat 0-Jan wts (Je ws k).g wts.length
theorem Jp7 {X:Cx}{es:List Expr}{kk:Nat}{tp:Pos}{K':Qc}{a b:Expr}{ta:TA}{p pos:Pos}(hK:X.K=K') (hg:Gl X "zip") (hm:X.mg "zip" = none) (ha:PA X [a,b] ta) (hs:starEach [a,b] X.env=[(false,eval a X.env),(false,eval b X.env)]:=by rfl) (hs2:starEach [b] X.env=[(false,eval b X.env)]:=by rfl) :
 PI X (.Tuple es kk tp) (.Call (.Name "zip" p) [a,b] [] pos) (Joo K' ta):=hK▸Vf hg hm ha hs hs2
section
variable {p c sl:Addr}{R U:Int}{ws:List Way}{bv:V}{sums:List (List Int×List Int)}{svs:List V}{H H':Hp}{n m:Nat}
end
end My
namespace L2
section
variable {P:Yas}{w:Yar}{H H':Hp}{h h':Heap}{a:Addr}{o:HO}
end
structure Fly (P:Yas) (w:Yar) (outer:List Env) (H:Hp) (s:Yap) (H':Hp) (ea:Addr) (cls:Yan) (s':Yap):Prop where
 os:s'.os=s.os
 bare:Ya4 s'.gens
 un:Un (frs outer) [] H H' s.heap s'.heap
 hok:HOk P w H' s'.heap
 fl:∃ (B:Heap) (t:Addr),(∀ b o,s'.heap.get? b=some o->((H' b).isSome=true\/∃ o₀,s.heap.get? b=some o₀)->b∉frs outer->B.get? b=some o)/\Heap.FlyingW B outer ea cls (.ref t) s'.heap
section
variable {X:Cx}{pins:List (Addr×Obj)}{σ:St}{H H':Hp}{s s':Yap}
end
section
variable {P:Yas}{w:Yar}{K:Qc}{mg:Str->Option Yan}{base:Heap}{N:List Str}{qual:Str}{scope:Yav}{f:Addr}{cd:Yan}{A:Yat}{outer:List Env}{s₀:Yap}{H₀:Hp}{E:XK}
end
open PySem.W Builtin Builtin.ObjectAttr Builtin.Getset_descriptor
section
variable {prog:Yas}{w:Yar}{A:Yat}{E:Yan->Yap->Prop}{s:Yap}{K:Qc}{x D:Addr}{R:Ya8->Yap->Prop}
end
section
variable {P:Yas}{w:Yar}{K:Qc}{mg:Str->Option Yan}{base:Heap}{N:List Str}{qual:Str}{scope:Yav}{f:Addr}{cd:Yan}{A:Yat}{outer:List Env}{s₀:Yap}{H₀:Hp}{E:XK}
 {x:Str} {C:Addr} {e:Expr} {es:List Expr} {np cpos pos:Pos} {t:TA}
end
section
variable {P:Yas}{w:Yar}{K:Qc}{mg:Str->Option Yan}{base:Heap}
end
section
variable {X:Cx}{x:Str}{e:Expr}{es:List Expr}{p pos:Pos}{t:TA}{k:Nat}{ps:List Str}{sp:Sp}{E:XK}
end
noncomputable abbrev XW:=St->Yan->Hp->Prop
noncomputable def XP (X:Cx) (pins:List (Addr×Obj)) (W:XW) (e:Yan) (s':Yap):Prop:=∃ ea cls σ' H H' s,e = .ref ea/\Inv X pins σ' H s/\Fly X.prog X.w X.stack H s H' ea cls s'/\W σ' cls H'
noncomputable abbrev TSX:=Ends->XW->St->Hp->Prop
section
variable {X:Cx}{x y:Str}{e:Expr}{es:List Expr}{p p' pos apos:Pos}{t:TA}{k:Nat}{ps:List Str}{sp:Sp}
end
section
variable {X:Cx}{pins:List (Addr×Obj)}{σ σ0:St}{H H0:Hp}{s s0:Yap}{B h':Heap}
end
section
variable {X:Cx}{body:List Stmt}{tb:TSX}{ts:TS}{b₀:Stmt}{suite:List Stmt}{c n:Str}{C:Addr}{i:Nat}{np hpos pos:Pos}
end
open PySem.SeqAt
section
variable {P:Yas}{w:Yar}{K:Qc}{mg:Str->Option Yan}{base:Heap}
end
section
variable {X:Cx}{x:Str}{e:Expr}{es:List Expr}{p pos:Pos}{t:TA}{k:Nat}{ps:List Str}{sp:Sp}
end
structure Er where
 fall:Addr
 way:Addr
 round:Addr
 ring:Addr
 purse:Addr
 end_:Addr
 stand:Addr
 many:Addr
 line:Addr
 row:Addr
section
variable {K:Qc}{mg:Str->Option Yan}{z:Er}
end
section
variable {X:Cx}{v:Expr}{te:TE}{a b:Str}{ja jb:Nat}{pa pb pf pos:Pos}
theorem Jai {o:Expr}{n:Str}{es:List Expr}{t:TA}(ha:PE X (.Attribute o n pos) te) (hr:PA X es t):PA X (.Attribute o n pos::es) (Yj te t):=Vt ha hr rfl
end
section
variable {X:Cx}{x:Str}{e:Expr}{es:List Expr}{p pos apos:Pos}{t:TA}{k:Nat}{ps:List Str}{sp:Sp}
variable {body:List Stmt}{tb:TSX}{ts:TS}{b₀:Stmt}{suite:List Stmt}{c:Str}{C:Addr}{np hpos:Pos}
end
end L2
namespace My
open L2
theorem Jmd {α:Type}{xs:List α}{j:Nat}{v:α}(h:atI xs (j:Int)=some v):xs[j]? = some v:=by
 cases e:xs[j]? with
 | some u=>
  rw [Jj8 e] at h
  exact h
 | none=>
  have hl:xs.length<=j:=List.getElem?_eq_none_iff.mp e
  unfold atI ixN at h
  rw [if_pos (by omega),if_neg (by omega)] at h
  cases h
end My
namespace HT
section
variable {prog:Yas}{w:Yar}{A:Yat}{E:Yan->Yap->Prop}{s:Yap}
end
end HT
namespace L2
end L2
namespace My
open L2
theorem sIx_none (n d:Nat):HT.sIx n d none=d:=rfl
end My
namespace L2
end L2
namespace My
open L2
section
variable {p c wl:Addr}{R U:Int}{ws:List Way}{bv fv hv:V}{r:Int}{xs:List Int}{Hs H H':Hp}{ns:List Int}
end
end My
namespace L2
section
variable {prog:Yas}{w:Yar}{A:Yat}{E:Yan->Yap->Prop}{s:Yap}{l:Addr}{xs:Array (Int×Tok)}
theorem Jos {Q:Yan->Yap->Prop}(hh:A.handled=none) (hl:s.heap.IsTuple l (intItems xs)) (hne:0<xs.size)
 (h:∀ v h' tk,(intItems xs)[argBest (λ i j=>decide (numAt xs i<numAt xs j)) (xs.size-1)]? = some v->(∀ b o,s.heap.get? b=some o->h'.get? b=some o)->Q v { s with heap:=h',toks:=tk }) :
 Yaq (model prog w) A (call (.builtin "min") [.ref l]) Q E s:=by
 have hlt:l<s.heap.objs.size:=by obtain ⟨_,e,_⟩:=hl;exact Qs e
 refine call_min_walk (wpAny_pyIter_tuple hl ?_)
 refine ⟨_,[_,l],[_],_,_,_,_,rfl,J9b (A:=A.in1) hh _ l (Q8 hlt) (intItems xs),⟨⟨_,Q9 _ rfl,rfl,rfl⟩,hl.push _⟩,λ c hc=>?_,by simpa [intItems] using hne,CmpOf.ints_lt (numAt xs) (λ _ _=>intItems_at),λ v h' tk hP hk=>?_⟩
 . show c<(s.heap.push _).objs.size
   rw [Xw]
   simp only [Qf,X0,or_false] at hc
   rcases hc with rfl | rfl
   . exact J4f _
   . exact J4n hlt
 . refine h v h' tk (by simpa [intItems] using hP) λ b o e=>hk b o (λ hm=>?_) (Qu _ e)
   simp only [Qf,X0,or_false] at hm
   have:=Qs e
   rw [hm] at this
   exact Xd _ this
end
section
variable {X:Cx}
theorem Jrr (hc:X.calm=true):Vs X (.builtin "min") (λ xs H Q=>∃ (p:Addr) (ns:List Int),xs=[.ref p]/\SqT X.K H p (ns.map V.int)/\ns≠[]/\∀ m∈ns,(∀ n∈ns,m<=n)->Q (.int m) H):=by
 intro pins s σ H xs us Q I r h
 obtain ⟨p,ns,rfl,hq,hne,q⟩:=h
 obtain ⟨u,rfl,ru⟩:=Jah r
 cases ru
 obtain ⟨its,rv,pl,hz⟩:=I.tuple hq
 have hi:=Jdb rv
 obtain ⟨xs,e⟩:=hi.allInts.items
 have h1:=hi.numsOf
 have h2:numsOf its.toArray.toList=(xs.toList.map (·.1)):=by rw [e,Ybx]
 have h2':(xs.toList.map (·.1))=ns:=by rw [<- h2];simpa using h1
 have hlen:xs.size=ns.length:=by rw [<- h2'];simp
 have hpos:0<ns.length:=J5x.mpr hne
 have hl:s.heap.IsTuple p (intItems xs):=by
  rw [<- e]
  obtain ⟨o,ho,hc',n,hd⟩:=id pl
  exact ⟨o,ho,hc',n,hd⟩
 refine Jos (I.ok.hd hc) hl (by omega) λ v h' tk hv hk=>?_
 obtain ⟨b1,b2⟩:=argBest_lt (numAt xs) (xs.size-1)
 generalize argBest (λ i j=>decide (numAt xs i<numAt xs j)) (xs.size-1)=m at hv b1 b2
 obtain ⟨t,rfl⟩:=intItems_at hv
 have num:∀ i (hi:i<ns.length),numAt xs i=ns[i]:=λ i hi=>by
  have hix:i<xs.size:=by omega
  have e1:numAt xs i=xs[i].1:=by unfold numAt;rw [J87 hix];rfl
  rw [e1]
  have e2:(xs.toList.map (·.1))[i]'(by simpa using hix)=xs[i].1:=by simp
  rw [<- e2]
  congr 1
 refine ⟨.int (numAt xs m),H,I.kept (t':=tk) hk,⟨t,rfl⟩,q _ ?_ λ n hn=>?_⟩
 . rw [num m (by omega)];exact Xe _
 . obtain ⟨i,hi,rfl⟩:=J5q.mp hn
   rw [<- num i hi]
   exact b2 i (by omega)
end
end L2
namespace My
open L2
theorem nodup_le:∀ (n:Nat) (l:List Nat),l.Nodup->(∀ x∈l,x<n)->l.length<=n:=by
 intro n
 induction n with
 | zero=>
  intro l _ h
  cases l with
  | nil=>exact Qn _
  | cons a l=>exact absurd (h a Qh) (J7n _)
 | succ n ih=>
  intro l nd h
  by_cases hm:n∈l
  . have e:=ih (l.erase n) (nd.erase n) λ x hx=>by
     have hx':=(List.Nodup.mem_erase_iff nd).mp hx
     have:=h x hx'.2
     omega
    rw [List.length_erase_of_mem hm] at e
    omega
  . have:=ih l nd λ x hx=>by
     have:=h x hx
     have:x≠n:=λ z=>hm (z▸hx)
     omega
    omega
end My
namespace L2
section
variable {X:Cx}
theorem Jme (ns:List Int):((Qk ns.length).any λ i=>decide (ns.getD i 0≠0))=ns.any (λ n=>decide (n≠0)):=by
 rw [Uh]
 simp only [J7o,Xh]
 constructor
 . rintro ⟨i,hi,h⟩
   rw [Qg,Qd hi] at h
   exact ⟨_,Xe hi,h⟩
 . rintro ⟨n,hn,h⟩
   obtain ⟨i,hi,rfl⟩:=J5q.mp hn
   exact ⟨i,hi,by rw [Qg,Qd hi];exact h⟩
theorem Jtk {ns:List Int}{its:List Yan}(rv:J9 (ns.map V.int) its) {i:Nat}{v:Yan}(h:its[i]? = some v):∃ t,v = .int (ns.getD i 0) t:=by
 have hi:i<its.length:=(Qq.mp h).1
 have hlen:=rv.length
 rw [Qb] at hlen
 have hb:(ns.map V.int)[i]? = some (V.int (ns.getD i 0)):=by
  rw [Qj,Qd (by omega),Qg,Qd (by omega)]
  rfl
 obtain ⟨u,hu,ru⟩:=rv.get hb
 rw [h] at hu
 cases hu
 exact ru
theorem Jrs (hc:X.calm=true):Vs X (.builtin "any") (λ xs H Q=>∃ (p:Addr) (ns:List Int),xs=[.ref p]/\SqL X.K H p (ns.map V.int)/\Q (.bl (ns.any λ n=>decide (n≠0))) H):=by
 intro pins s σ H xs us Q I r h
 obtain ⟨p,ns,rfl,hq,q⟩:=h
 obtain ⟨u,rfl,ru⟩:=Jah r
 cases ru
 obtain ⟨its,rv,pl,hz⟩:=I.list hq
 have hl:=pl.isList
 have hlt:p<s.heap.objs.size:=by obtain ⟨_,e,_⟩:=hl;exact Qs e
 have hlen:=rv.length
 rw [Qb] at hlen
 refine call_any_walk (wpAny_pyIter_list hl ?_)
 refine ⟨_,_,_,_,_,_,λ i=>decide (ns.getD i 0≠0),rfl,J69 (A:=X.A.in1) (I.ok.hd hc) _ p (Q8 hlt) its.toArray,⟨⟨_,Q9 _ rfl,rfl,rfl⟩,hl.push _⟩,?_,λ h' tk hk=>?_⟩
 . intro i v s' Q' E' hP hQ
   obtain ⟨t,rfl⟩:=Jtk rv (by simpa using hP)
   have e:((ns.getD i 0) != 0)=decide (ns.getD i 0≠0):=by
    rw [Uh];simp
   exact J6t (by rw [e];exact hQ)
 . rw [Q7,<- hlen,Jme]
   exact ⟨.bl _,H,I.kept (t':=tk) (old_kept hk),rfl,q⟩
theorem Jrt (hc:X.calm=true):Vs X (.builtin "any") (λ xs H Q=>∃ (p:Addr) (ns:List Int),xs=[.ref p]/\SqT X.K H p (ns.map V.int)/\Q (.bl (ns.any λ n=>decide (n≠0))) H):=by
 intro pins s σ H xs us Q I r h
 obtain ⟨p,ns,rfl,hq,q⟩:=h
 obtain ⟨u,rfl,ru⟩:=Jah r
 cases ru
 obtain ⟨its,rv,hl,hz⟩:=I.tuple hq
 have hlt:p<s.heap.objs.size:=by obtain ⟨_,e,_⟩:=hl;exact Qs e
 have hlen:=rv.length
 rw [Qb] at hlen
 refine call_any_walk (wpAny_pyIter_tuple hl ?_)
 refine ⟨_,_,_,_,_,_,λ i=>decide (ns.getD i 0≠0),rfl,J9b (A:=X.A.in1) (I.ok.hd hc) _ p (Q8 hlt) its.toArray,⟨⟨_,Q9 _ rfl,rfl,rfl⟩,hl.push _⟩,?_,λ h' tk hk=>?_⟩
 . intro i v s' Q' E' hP hQ
   obtain ⟨t,rfl⟩:=Jtk rv (by simpa using hP)
   have e:((ns.getD i 0) != 0)=decide (ns.getD i 0≠0):=by
    rw [Uh];simp
   exact J6t (by rw [e];exact hQ)
 . rw [Q7,<- hlen,Jme]
   refine ⟨.bl _,H,I.kept (t':=tk) (λ b o e=>hk b o (λ hm=>?_) (Qu _ e)),rfl,q⟩
   have:=Qs e
   rw [Qt.mp hm] at this
   exact Xd _ this
def Jx8 (K:Qc):V->V->Hp->VK->Prop:=λ o i H Q=>∃ p xs k x,o = .ref p/\i = .int k/\0<=k/\SqL K H p xs/\xs[k.toNat]? = some x/\Q x H
theorem Jmf:J04 X (Jx8 X.K):=by
 intro pins s σ H o i ov iv Q I ro ri h
 obtain ⟨p,xs,k,x,rfl,rfl,k0,hq,hx,q⟩:=h
 cases ro
 obtain ⟨t,rfl⟩:=ri
 obtain ⟨its,r,pl,hz⟩:=I.list hq
 obtain ⟨u,eu,ru⟩:=r.get hx
 have hn:=Je9
 have hi:=(Qq.mp hx).1
 exact wpAny_getItem_list pl.isList k0 (by omega) (by simpa using eu) ⟨x,H,I,ru,q⟩
end
end L2
namespace My
open L2
noncomputable def W2 (ws:List Way) (cs:List Int):Nat->Int->Int
 | 0,_=>0
 | i+1,r=>W2 ws cs i r-(if (Je ws (i:Nat)).a=r then cs.getD i 0 else 0)+(if (Je ws (i:Nat)).b=r then cs.getD i 0 else 0)
theorem Jao {n:Nat}{k:Int}(h0:0<=k) (h1:k<n):ixN n k=some k.toNat:=by
 unfold ixN;rw [if_pos h0,if_pos h1]
inductive Rt (es:List (Nat×Nat)):Nat->Nat->Prop
 | refl (a:Nat):Rt es a a
 | step {a b c:Nat}:Rt es a b->(b,c)∈es->Rt es a c
theorem Rt.trans {es:List (Nat×Nat)}{a b c:Nat}(h:Rt es a b) (g:Rt es b c):Rt es a c:=by
 induction g with
 | refl=>exact h
 | step _ e ih=>exact ih.step e
noncomputable def Pw (es:List (Nat×Nat)):Nat->Nat->Nat->Bool
 | 0,a,b=>decide (a=b)||decide ((a,b)∈es)
 | m+1,a,b=>Pw es m a b||(Pw es m a m&&Pw es m m b)
theorem Pw.mono {es:List (Nat×Nat)}{m a b:Nat}(h:Pw es m a b=true):Pw es (m+1) a b=true:=by
 rw [Pw,h];rfl
theorem Pw.zero {es:List (Nat×Nat)}{a b:Nat}(h:Pw es 0 a b=true):∀ m,Pw es m a b=true
 | 0=>h
 | m+1=>Pw.mono (Pw.zero h m)
theorem Pw.cut {es:List (Nat×Nat)}{m a b:Nat}(h:Pw es (m+1) a b=true):Pw es m a b=true\/(Pw es m a m=true/\Pw es m m b=true):=by
 rw [Pw,J7p,Xx] at h;exact h
theorem Pw.via {es:List (Nat×Nat)}{m a b:Nat}(h:Pw es m a m=true) (g:Pw es m m b=true):Pw es (m+1) a b=true:=by
 rw [Pw,h,g,Bool.and_self,J9c]
theorem Pw.trans {es:List (Nat×Nat)}:∀ {m a b k:Nat},k<m->Pw es m a k=true->Pw es m k b=true->Pw es m a b=true
 | 0,_,_,_,h,_,_=>absurd h (J7n _)
 | m+1,a,b,k,hk,h,g=>by
  by_cases e:k=m
  . subst e
    have h':Pw es k a k=true:=by rcases (Pw.cut h) with h | h;exact h;exact h.1
    have g':Pw es k k b=true:=by rcases (Pw.cut g) with g | g;exact g;exact g.2
    exact Pw.via h' g'
  . have hk':k<m:=by omega
    rcases (Pw.cut h) with h | ⟨h1,h2⟩
    . rcases (Pw.cut g) with g | ⟨g1,g2⟩
      . exact Pw.mono (Pw.trans hk' h g)
      . exact Pw.via (Pw.trans hk' h g1) g2
    . rcases (Pw.cut g) with g | ⟨g1,g2⟩
      . exact Pw.via h1 (Pw.trans hk' h2 g)
      . exact Pw.via h1 g2
theorem Pw.rt {es:List (Nat×Nat)}:∀ {m a b:Nat},Pw es m a b=true->Rt es a b
 | 0,a,b,h=>by
  rw [Pw,J7p] at h
  rcases h with h | h
  . obtain rfl:=of_decide_eq_true h;exact .refl a
  . exact .step (.refl a) (of_decide_eq_true h)
 | m+1,a,b,h=>by
  rcases (Pw.cut h) with h | ⟨h,g⟩
  . exact Pw.rt h
  . exact (Pw.rt h).trans (Pw.rt g)
theorem Rt.pw {es:List (Nat×Nat)}{R a b:Nat}(hr:∀ e∈es,e.1<R/\e.2<R) (h:Rt es a b):Pw es R a b=true:=by
 induction h with
 | refl=>exact Pw.zero (by rw [Pw];simp) R
 | step _ e ih=>exact Pw.trans (hr _ e).1 ih (Pw.zero (by rw [Pw];simp [e]) R)
theorem Zo {es:List (Nat×Nat)}{R a b:Nat}(hr:∀ e∈es,e.1<R/\e.2<R):Pw es R a b=true↔Rt es a b:=⟨Pw.rt,Rt.pw hr⟩
end My
namespace L2
section
variable {M:Model}{A:Yat}{E:Yan->Yap->Prop}{s:Yap}
theorem Jki {scope:Yav}{globals:Addr}{closure:List (Str×Addr)}{qual:Str}{func:Option Addr}{code:Yan}{outer:Env}{builtins:Addr}{Q:Env->Yap->Prop}
 (hQ:Q (newEnv scope s.heap.objs.size globals (cellsFrom (s.heap.objs.size+1) scope.names closure) qual func code (some outer) builtins) { s with heap:=pushCells (s.heap.push { cls:=.type "dict",data:=.dict #[] }) scope.names }) :
 Yaq M A (newFunctionEnv scope globals closure [] qual func code (some outer) builtins) Q E s:=by
 simp only [newFunctionEnv,Option.isSome_some,if_true]
 refine wpAny_bind (wpAny_alloc ?_)
 refine wpAny_bind (wpAny_layCells _ (λ name kind cells=>by cases hkc:kind==Uy<;>simp [hkc]) _ _ _ _ ?_)
 rw [show ({ s with heap:=s.heap.push { cls:=.type "dict",data:=.dict #[] } }:Yap).heap.objs.size=s.heap.objs.size+1 from Xw ..]
 refine wpAny_bind ?_
 rw [J7j]
 exact wpAny_pure (wpAny_pure hQ)
end
theorem Jap:∀ (names:List (Str×Yax)) (n:Nat) (acc:List (Str×Addr)) (x:Str) (c:Addr),(x,c)∈cellsFrom n names acc->(x,c)∈acc\/(n<=c/\(x,Uy)∈names)
 | [],n,acc,x,c,h=>.inl h
 | (name,kind)::r,n,acc,x,c,h=>by
  unfold cellsFrom at h
  split at h
  . rename_i hk
    have hk:kind = .cell:=by simpa using hk
    subst hk
    rcases Jap r (n+1) _ x c h with h | ⟨h1,h2⟩
    . rcases Qf.mp h with e | h
      . cases e;exact .inr ⟨Qn _,Qh⟩
      . exact .inl h
    . exact .inr ⟨by omega,Qi _ h2⟩
  . rcases Jap r n acc x c h with h | ⟨h1,h2⟩
    . exact .inl h
    . exact .inr ⟨h1,Qi _ h2⟩
theorem Bn:∀ (names:List (Str×Yax)) (n:Nat) (acc:List (Str×Addr)),(∀ p∈acc,p.2<n)->∀ x y c,(x,c)∈cellsFrom n names acc->(y,c)∈cellsFrom n names acc->(∀ x y c,(x,c)∈acc->(y,c)∈acc->x=y)->x=y
 | [],n,acc,_,x,y,c,h,g,inj=>inj x y c h g
 | (name,kind)::r,n,acc,ha,x,y,c,h,g,inj=>by
  unfold cellsFrom at h g
  split at h
  . rename_i hk
    rw [if_pos hk] at g
    refine Bn r (n+1) ((name,n)::acc) (λ p hp=>?_) x y c h g λ x y c h g=>?_
    . rcases Qf.mp hp with rfl | hp
      . exact J4f _
      . exact J4n (ha p hp)
    . rcases Qf.mp h with e | h<;>rcases Qf.mp g with e' | g
      . cases e;cases e';rfl
      . cases e;exact absurd (ha _ g) (Xd _)
      . cases e';exact absurd (ha _ h) (Xd _)
      . exact inj x y c h g
  . rename_i hk
    rw [if_neg hk] at g
    exact Bn r n acc ha x y c h g inj
theorem W8:∀ (names:List (Str×Yax)) (n:Nat) (acc:List (Str×Addr)) (p:Str×Addr),p∈acc->p∈cellsFrom n names acc
 | [],n,acc,p,h=>h
 | (name,kind)::r,n,acc,p,h=>by
  unfold cellsFrom
  split
  . exact W8 r _ _ p (Qi _ h)
  . exact W8 r _ _ p h
theorem Jaq:∀ (names:List (Str×Yax)) (n:Nat) (acc:List (Str×Addr)) (x:Str),(x,Uy)∈names->∃ c,(x,c)∈cellsFrom n names acc
 | (name,kind)::r,n,acc,x,h=>by
  unfold cellsFrom
  rcases Qf.mp h with e | h
  . cases e
    exact ⟨n,W8 r _ _ _ Qh⟩
  . split
    . exact Jaq r _ _ x h
    . exact Jaq r _ _ x h
theorem B3:∀ (names:List (Str×Yax)) (h:Heap) (acc:List (Str×Addr)) (x:Str) (c:Addr),(x,c)∈cellsFrom h.objs.size names acc->(x,c)∈acc\/(pushCells h names).IsCell c none
 | [],h,acc,x,c,m=>.inl m
 | (name,kind)::r,h,acc,x,c,m=>by
  unfold cellsFrom at m
  unfold pushCells
  split at m
  . rename_i hk
    rw [if_pos hk]
    have e:h.objs.size+1=(h.push { cls:=.type "cell",data:=.cell none }).objs.size:=by rw [Xw]
    rw [e] at m
    rcases B3 r _ _ x c m with m | m
    . rcases Qf.mp m with z | m
      . cases z
        exact .inr ⟨_,pushCells_keeps r _ _ _ (Q9 _ rfl),rfl⟩
      . exact .inl m
    . exact .inr m
  . rename_i hk
    rw [if_neg hk]
    exact B3 r h acc x c m
theorem Jf3 {env:Env}:∀ (l:List (Str×Yax)) (cs:List (Str×Addr)) (x:Str) (c:Addr),(x,c)∈Yd env l cs->(x,c)∈cs\/(x,Ul)∈l
 | [],cs,x,c,h=>.inl h
 | (n,k)::r,cs,x,c,h=>by
  unfold Yd at h
  rcases Jf3 r _ x c h with g | g
  . split at g
    . rename_i hk
      have hk:k = .free:=by simpa using hk
      subst hk
      rcases Qf.mp g with e | g
      . cases e;exact .inr Qh
      . exact .inl g
    . exact .inl g
  . exact .inr (Qi _ g)
theorem Jjr {l:List (Str×Yax)}(u:(l.map (·.1)).Nodup) {x:Str}{j k:Yax}(h:(x,j)∈l) (g:(x,k)∈l):j=k:=by
 induction l with
 | nil=>cases h
 | cons p l ih=>
  rw [Q0,Xr] at u
  rcases Qf.mp h with e | h<;>rcases Qf.mp g with e' | g
  . rw [<- e] at e';cases e';rfl
  . exact absurd (Qm.mpr ⟨_,g,by rw [<- e]⟩) u.1
  . exact absurd (Qm.mpr ⟨_,h,by rw [<- e']⟩) u.1
  . exact ih u.2 h g
noncomputable def Zm (X:Cx) (N':List Str) (scope:Yav) (C:Addr) (s:Yap) (H:Hp) (fp:List Addr):Cx:=
 { Wf X N' scope C s H fp with env:=compEnvC scope (cellsFrom (C+1) scope.names (Yd X.env scope.names [])) C X.env,fn:=λ x=>scope.names.lookup x==some Uy }
structure CompScopeC (sc:Yav) (N:List Str) (scope:Yav) (N':List Str) (k:Nat) (idx:List Nat):Prop where
 kind:scope.kind = .function
 uniq:(scope.names.map (·.1)).Nodup
 loc:∀ x∈scope.names,x.2 = .local -> scope.names.lookup x.1=some .local
 fr:∀ x∈scope.names,x.2 = .free->sc.names.lookup x.1=some .cell\/sc.names.lookup x.1=some .free
 nd:N'.Nodup
 free:∀ x∈N'.drop k,scope.names.lookup x=some .free
 ix:(N'.drop k).map some=idx.map λ i=>N[i]?
 len:N'.length=k+idx.length
section
variable {X:Cx}{pins:List (Addr×Obj)}{σ:St}{H:Hp}{s:Yap}{scope:Yav}{N':List Str}{k:Nat}{idx:List Nat}{sc:Yav}{N:List Str}
theorem Jmg (I:Inv X pins σ H s) (S:CompScopeC sc N scope N' k idx) (hsc:X.env.scope=sc) (hNN:X.N=N) {fp:List Addr}(hf:∀ b∈fp,Jc9 X pins H b) (hlt:∀ b∈fp,b<s.heap.objs.size) {t':Nat} :
 Inv (Zm X N' scope s.heap.objs.size s H fp) [] (Yl k idx σ) H { s with heap:=pushCells (s.heap.push { cls:=.type "dict",data:=.dict #[] }) scope.names,toks:=t' }:=by
 have hcell:∀ x∈scope.names,x.2 = .free->∃ c,X.env.cells.lookup x.1=some c:=λ x hx hfree=>I.ok.has x.1 (by
  show X.env.scope.names.lookup x.1=_\/X.env.scope.names.lookup x.1=_
  rw [hsc];exact S.fr x hx hfree)
 have hclm:∀ x c,(x,c)∈Yd X.env scope.names []->X.env.cells.lookup x=some c:=λ x c e=>Jdd hcell (λ p hp=>by cases hp) (x,c) e
 have hold:∀ x c,(x,c)∈Yd X.env scope.names []->c<s.heap.objs.size:=λ x c e=>by
  obtain ⟨v,o,ho,_⟩:=I.cell x c (hclm x c e)
  exact Qs ho
 have hk:∀ b o,s.heap.get? b=some o->(pushCells (s.heap.push { cls:=.type "dict",data:=.dict #[] }) scope.names).get? b=some o:=λ b o e=>pushCells_keeps _ _ b o (Qu _ e)
 have hsp:∀ x c,(cellsFrom (s.heap.objs.size+1) scope.names (Yd X.env scope.names [])).lookup x=some c->((x,c)∈Yd X.env scope.names []\/(s.heap.objs.size+1<=c/\(x,Uy)∈scope.names)):=λ x c e=>
  Jap _ _ _ x c (Xt e)
 have hok:(Zm X N' scope s.heap.objs.size s H fp).Ok:={
  mod:=I.ok.mod
  kind:=S.kind
  glob:=I.ok.glob
  blt:=I.ok.blt
  above:=Qn _
  inj:=λ x y c e1 e2=>Bn _ _ _ (λ p hp=>J4n (hold p.1 p.2 hp)) x y c (Xt e1) (Xt e2) λ x y c h g=>I.ok.inj x y c (hclm x c h) (hclm y c g)
  has:=λ x hx=>by
   have hcf:scope.names.lookup x=some .cell\/scope.names.lookup x=some .free:=by
    rcases hx with hx | hx
    . rcases W7 (env:=X.env) (names:=scope.names) hx with h | ⟨_,h⟩
      . exact .inl h
      . exact .inr h
    . rcases W7 (env:=X.env) (names:=scope.names) hx with h | ⟨h,_⟩
      . exact .inr h
      . cases h
   rcases hcf with h | h
   . obtain ⟨c,hc⟩:=Jaq scope.names (s.heap.objs.size+1) (Yd X.env scope.names []) x (Xt h)
     exact Zp hc
   . obtain ⟨c,hc⟩:=B0 (env:=X.env) (cs:=[]) (Xt h)
     exact Zp (W8 scope.names (s.heap.objs.size+1) _ _ hc)
  cab:=λ x c h e=>by
   rcases hsp x c e with m | m
   . rcases Jf3 _ _ x c m with z | z
     . cases z
     . have hx:scope.names.lookup x=some .cell:=by simpa using (show (scope.names.lookup x==some Uy)=true from h)
       have:=Jjr S.uniq z (Xt hx)
       cases this
   . exact J7q m.1
  hd:=I.ok.hd
  frames:=I.ok.frames
  stk:=.inl rfl
  exf:=λ b hb=>⟨Q8 (hlt b hb),λ x c e=>by
   rcases hsp x c e with m | m
   . exact (hf b hb).2.2.2.2.1 x c (hclm x c m)
   . intro z
     have h2:=m.1
     rw [z] at h2
     exact absurd (Qz (hlt b hb) (J7q h2)) (Xd _)⟩
  bs:=I.bs
  bsz:=Xm I.ok.bsz I.sz
  noex:=λ b o e hb=>by
   rcases (hf b hb).2.2.2.1 with z | z
   . exact I.ok.noex b o e z
   . exact absurd (Qz (Qs e) (Xm I.ok.bsz z)) (Xd _)
  exfs:=λ b hb hz=>by
   rcases Qf.mp (I.stkSub b hz) with e | e
   . exact (hf b hb).2.1 e
   . exact (hf b hb).2.2.1 e
  funs:=I.stack
  frf:=I.stkFree }
 refine ⟨hok,rfl,I.bare,Un.kept hk,⟨_,(Heap.Ns.new s.heap (.type "dict")).keeps (pushCells_keeps _ _),λ i x v e1 e2 e3=>?_⟩,λ x c e=>?_,I.hok.fresh (Qn _),λ x c e=>?_,(λ p hp=>by cases hp),I.hok.kept hk,?_⟩
 . have hi:k<=i:=by
    rcases Xy i k with h | h
    . have e2:(Yl k idx σ)[i]? = some (some v):=e2
      unfold Yl at e2
      rw [Uv (by simpa using h),U4] at e2
      split at e2<;>cases e2
    . exact h
   have e1':(N'.drop k)[i-k]? = some x:=by
    rw [J68,show k+(i-k)=i by omega];exact e1
   have hfree:=S.free x (Xa e1')
   have e2':(idx.map λ i=>(σ[i]?).join)[i-k]? = some (some v):=by
    have e2:(Yl k idx σ)[i]? = some (some v):=e2
    unfold Yl at e2
    rw [J3n (by simpa using hi),X5] at e2
    exact e2
   rw [Qj] at e2'
   cases hj:idx[i-k]? with
   | none=>rw [hj] at e2';cases e2'
   | some j=>
    rw [hj] at e2'
    have e3':(σ[j]?).join=some v:=by simpa using e2'
    have eσ:σ[j]? = some (some v):=by
     cases q:σ[j]? with
     | none=>rw [q] at e3';cases e3'
     | some o=>rw [q] at e3';cases o with
      | none=>cases e3'
      | some z=>cases e3';rfl
    have eN:X.N[j]? = some x:=by
     rw [hNN]
     have:=congrArg (λ l=>l[i-k]?) S.ix
     simp only [Qj,e1',hj,Option.map_some] at this
     exact (Xf this).symm
    have hvk:=S.fr _ (Xt hfree) rfl
    obtain ⟨m,hm,hl⟩:=I.loc
    obtain ⟨u,ru,lk⟩:=hl j x v eN eσ (by rw [hsc];exact .inr hvk)
    refine ⟨u,ru,.inr ⟨Jbe (env:=X.env) hfree,?_⟩⟩
    rcases lk with ⟨kl,_⟩ | ⟨_,c,ec,z⟩
    . have kl:X.env.scope.names.lookup x=some .local := kl
      rw [hsc] at kl
      rcases hvk with q | q<;>(rw [kl] at q;cases q)
    . obtain ⟨d,hd⟩:=B0 (env:=X.env) (cs:=[]) (Xt hfree)
      obtain ⟨d',hd'⟩:=Zp (W8 scope.names (s.heap.objs.size+1) _ _ hd)
      have e:d'=c:=by
       rcases hsp x d' hd' with m | m
       . have:=hclm x d' m
         rw [ec] at this
         cases this;rfl
       . have:=Jjr S.uniq m.2 (Xt hfree)
         cases this
      subst e
      obtain ⟨o,ho,hod⟩:=z
      exact ⟨d',hd',o,hk d' o ho,hod⟩
 . have e0:s.heap.objs.size+1=(s.heap.push { cls:=.type "dict",data:=.dict #[] }).objs.size:=by rw [Xw]
   have m:=Xt (show (cellsFrom (s.heap.objs.size+1) scope.names (Yd X.env scope.names [])).lookup x=some c from e)
   rw [e0] at m
   rcases B3 _ _ _ x c m with m | m
   . obtain ⟨v,o,ho,hod⟩:=I.cell x c (hclm x c m)
     exact ⟨v,o,hk c o ho,hod⟩
   . exact ⟨none,m⟩
 . rcases hsp x c e with m | m
   . exact I.freeC x c (hclm x c m)
   . exact I.hok.fresh (J7q m.1)
 . show (Yl k idx σ).length=N'.length
   unfold Yl
   rw [S.len,Xj,X5,Qb]
end
section
variable {X:Cx}{tg iter elt:Expr}{ifs:List Expr}{scope sc:Yav}{N N':List Str}{k:Nat}{idx:List Nat}{wi:TI}{g:TG}{tt:TT}{te:TE}{pos:Pos}
theorem Jf4 {pins:List (Addr×Obj)}{s:Yap}{σ:St}{E:Yan->Yap->Prop}{RR:Yan->Addr->Ya8->Yap->Prop}{itv:Yan}{Qe:Addr->Hp->Prop}
 (hc:X.calm=true) (S:CompScopeC sc N scope N' k idx) (hsc:X.env.scope=sc) (hNN:X.N=N)
 (hg:∀ C s H fp,PG (Zm X N' scope C s H fp) tg g) (ht:∀ C s H fp,PTs (Zm X N' scope C s H fp) ifs tt) (he:∀ C s H fp,PE (Zm X N' scope C s H fp) elt te)
 (hit:PIE X pins σ tg (λ J H1=>∀ l,H1 l=none->Jkd J g tt te l (Yl k idx σ) (upd H1 l (.lst [])) λ H2=>Qe l H2) itv s)
 (hRR:∀ l H2 C s2,Inv X pins σ H2 s2->(∃ m,s2.heap.Ns C m)->Free1 X pins H2 C->Qe l H2->RR (.ref l) C (.ok .next) s2) :
 Yaq (model X.prog X.w) X.A (newList []) (λ acc s₃=>Yaq (model X.prog X.w) X.A (newFunctionEnv scope X.env.globals (Yd X.env scope.names []) [] X.env.qual none .none (some X.env)) (λ cenv s₄=>
  Ya1 (model X.prog X.w) X.A (.compStart (.ListComp elt [⟨tg,iter,ifs,0⟩] scope pos) 0 itv acc { cenv with scope:=relabel scope X.env }) (RR acc cenv.locals) s₄) E s₃) E s:=by
 obtain ⟨it,fp,tn,J,H1,rfl,I1,T,st1,f1,q⟩:=hit
 refine wpAny_newObj_type ?_
 have hf0:H1 s.heap.objs.size=none:=I1.hok.fresh (Qn _)
 have hflt:∀ b∈fp,b<s.heap.objs.size:=λ b hb=>let ⟨_,e,_⟩:=T.obj _ _ st1 b hb;Qs e
 generalize hl:s.heap.objs.size=l at *
 have I2:Inv X pins σ (upd H1 l (.lst [])) { s with heap:=s.heap.push { cls:=.type "list",dict:=none,data:=.seq ([]:List Yan).toArray } }:=
  I1.laid (t':=s.toks) (λ b u e=>Qu _ e) (J5i hl) (show Y3 _ _ _ _ l (.lst []) from ⟨Xo _,[],0,.nil,by rw [<- hl];exact Q9 _ rfl⟩)
 have st2:tn 0 (s.heap.push { cls:=.type "list",dict:=none,data:=.seq ([]:List Yan).toArray }):=T.keep _ _ _ st1 λ b _ o e=>Qu _ e
 have f2:∀ b∈fp,Jc9 X pins (upd H1 l (.lst [])) b:=λ b hb=>⟨by rw [Jf (Q8 (hflt b hb))];exact (f1 b hb).1,(f1 b hb).2⟩
 have hsz2:(s.heap.push { cls:=.type "list",dict:=none,data:=.seq ([]:List Yan).toArray }).objs.size=l+1:=by rw [Xw,hl]
 have q2:=q l hf0
 generalize hs2:({ s with heap:=s.heap.push { cls:=.type "list",dict:=none,data:=.seq ([]:List Yan).toArray } }:Yap)=s2 at I2 ⊢
 have st2:tn 0 s2.heap:=by rw [<- hs2];exact st2
 have hsz2:s2.heap.objs.size=l+1:=by rw [<- hs2];exact hsz2
 refine Jki ?_
 have hk1:∀ b o,s2.heap.get? b=some o->(pushCells (s2.heap.push { cls:=.type "dict",data:=.dict #[] }) scope.names).get? b=some o:=λ b o e=>pushCells_keeps _ _ b o (Qu _ e)
 have hlt2:∀ b∈fp,b<s2.heap.objs.size:=λ b hb=>by rw [hsz2];exact J4n (hflt b hb)
 have I3:=Jmg (t':=s2.toks) I2 S hsc hNN f2 hlt2
 generalize pushCells (s2.heap.push { cls:=.type "dict",data:=.dict #[] }) scope.names=h₁ at *
 generalize hC:s2.heap.objs.size=C at *
 have st3:tn 0 h₁:=T.keep _ _ _ st2 λ b _ o e=>hk1 b o e
 obtain ⟨W,⟨m0,w0⟩,turn⟩:=q2
 -- back to the frame around
 have back:∀ {σ':St} {H':Hp} {s':Yap},Inv (Zm X N' scope C s2 (upd H1 l (.lst [])) fp) [] σ' H' s'->Inv X pins σ H' s':=λ {σ' H' s'} I'=>
  I2.call' I'.os I'.base I'.hok I'.bare λ b hb=>⟨(f2 b hb).2.2.2.1,(f2 b hb).2.1,(f2 b hb).2.2.2.2.1,(f2 b hb).2.2.2.2.2⟩
 have loop:∀ s₃:Yap,s₃ = { s2 with heap:=h₁,toks:=s2.toks } ->
  Ya1 (model X.prog X.w) X.A (.compLoop (.ListComp elt [⟨tg,iter,ifs,0⟩] scope pos) 0 (.ref it) (.ref l) (compEnvC scope (cellsFrom (C+1) scope.names (Yd X.env scope.names [])) C X.env)) (RR (.ref l) C) s₃:=by
  rintro s₃ rfl
  refine Jf2 (λ n s'=>∃ i σ' H',Inv (Zm X N' scope C s2 (upd H1 l (.lst [])) fp) [] σ' H' s'/\tn i s'.heap/\(∀ b∈fp,H' b=none)/\W i n σ' H') ?_ m0 ⟨0,_,_,I3,st3,λ b hb=>(f2 b hb).1,w0⟩
  rintro n s4 ⟨i,σ4,H4,I4,st4,fr4,w4⟩
  have stat:∀ {H':Hp},(∀ b∈fp,H' b=none)->∀ b∈fp,Jc9 (Zm X N' scope C s2 (upd H1 l (.lst [])) fp) [] H' b:=λ {H'} hn b hb=>
   ⟨hn b hb,(I4.ok.exf b hb).1,I4.ok.exfs b hb,.inl hb,(I4.ok.exf b hb).2,λ p hp=>by cases hp⟩
  rcases turn i n σ4 H4 w4 with ⟨stop,qn⟩ | ⟨go,step⟩
  . refine thn (T.done (Zm X N' scope C s2 (upd H1 l (.lst [])) fp) rfl rfl rfl hc i [] s4 σ4 H4 NoE I4 (stat fr4) st4 stop) λ r s5 ⟨hr,I5⟩=>?_
    subst hr
    have IX:=back I5
    have hCl:C≠X.env.locals:=λ e=>by
     have:=I2.lt
     rw [hC,<- e] at this
     exact Xd _ this
    have hCc:∀ x c,X.env.cells.lookup x=some c->c≠C:=λ x c e z=>by
     obtain ⟨v,o,ho,_⟩:=I2.cell x c e
     have:=Qs ho
     rw [hC,z] at this
     exact Xd _ this
    obtain ⟨m5,hm5,_⟩:=I5.loc
    refine hRR l H4 C s5 IX ⟨m5,hm5⟩ ⟨hCl,hCc,I5.free,by rw [<- hC];exact I2.sz,λ p hp z=>?_⟩ qn
    obtain ⟨e,_⟩:=I2.pin p hp
    have:=Qs e
    rw [hC,z] at this
    exact Xd _ this
  . refine thn (T.item (Zm X N' scope C s2 (upd H1 l (.lst [])) fp) rfl rfl rfl hc i [] s4 σ4 H4 NoE I4 (stat fr4) st4 go) λ r s5 ⟨u,hr,h5⟩=>?_
    subst hr
    refine thn h5 λ _ s6 ⟨x,H6,I6,r6,y6,st6,fr6⟩=>?_
    have I6':=I6.pinned (stat fr6) (T.obj _ _ st6)
    have keepT:∀ {σ7:St} {H7:Hp} {s7:Yap},Inv (Zm X N' scope C s2 (upd H1 l (.lst [])) fp) ([]++Je8 fp s6.heap) σ7 H7 s7->tn (i+1) s7.heap/\∀ b∈fp,H7 b=none:=λ {σ7 H7 s7} I7=>
     ⟨T.keep _ _ _ st6 λ b hb o e=>(I7.pin (b,o) (Xi _ (Xi _ (V5 hb e)))).1,λ b hb=>by
      obtain ⟨o,e,d⟩:=T.obj _ _ st6 b hb
      exact (I7.pin (b,o) (Xi _ (Xi _ (V5 hb e)))).2.1⟩
    refine thn (hg C s2 (upd H1 l (.lst [])) fp _ s6 σ4 H6 x u _ I6' r6 (step x H6 y6)) λ _ s7 ⟨σ7,H7,I7,q7⟩=>?_
    refine thn (ht C s2 (upd H1 l (.lst [])) fp _ s7 σ7 H7 _ I7 q7) λ ok s8 ⟨H8,I8,q8⟩=>?_
    cases ok with
    | false=>
     rw [if_neg (by decide)] at q8 ⊢
     obtain ⟨m',hm,w8⟩:=q8
     have kt:=keepT I8
     exact ⟨m',hm,i+1,σ7,H8,I8.unpinned,kt.1,kt.2,w8⟩
    | true=>
     rw [if_pos rfl] at q8 ⊢
     refine thn (he C s2 (upd H1 l (.lst [])) fp _ s8 σ7 H8 _ I8 q8) λ v s9 ⟨y,H9,I9,r9,xs,e9,z9,m',hm,w9⟩=>?_
     refine thn (V6 _ s9 σ7 H9 (.ref l) [y] (.ref l) [v] (λ z H10=>z = .non/\H10=upd H9 l (.lst (xs++[y]))) I9 rfl (.cons r9 .nil) ⟨l,xs,y,rfl,rfl,e9,z9,rfl,rfl⟩) λ _ s10 ⟨z,H10,I10,_,_,e10⟩=>?_
     subst e10
     have kt:=keepT I10
     exact ⟨m',hm,i+1,σ7,_,I10.unpinned,kt.1,kt.2,w9⟩
 have e2:(newEnv scope C X.env.globals (cellsFrom (C+1) scope.names (Yd X.env scope.names [])) X.env.qual none .none (some X.env) Ybp).locals=C:=rfl
 show Ya1 _ _ (.compStart _ 0 (.ref it) (.ref l) (compEnvC scope (cellsFrom (C+1) scope.names (Yd X.env scope.names [])) C X.env)) (RR (.ref l) C) _
 exact Yb2 (loop _ rfl) (T.self _ 0 _ _ _ st3 (loop _ rfl))
theorem Jmh (hc:X.calm=true) (S:CompScopeC sc N scope N' k idx) (hsc:X.env.scope=sc) (hNN:X.N=N) (hi:PI X tg iter wi)
 (hg:∀ C s H fp,PG (Zm X N' scope C s H fp) tg g) (ht:∀ C s H fp,PTs (Zm X N' scope C s H fp) ifs tt) (he:∀ C s H fp,PE (Zm X N' scope C s H fp) elt te)
 (hs:∀ x,Ybq iter X.env x=pure x:=by intro _;rfl):PE X (.ListComp elt [⟨tg,iter,ifs,0⟩] scope pos) (B1 wi k idx g tt te):=by
 intro pins s σ H Q I h
 rw [eval_ListComp]
 have hclos:Ybn scope X.env=pure (Yd X.env scope.names []):=Bf λ x hx hfree=>I.ok.has x.1 (by
  show X.env.scope.names.lookup x.1=_\/X.env.scope.names.lookup x.1=_
  rw [hsc];exact S.fr x hx hfree)
 refine wpAny_comprehension_free (use:=none) rfl hs hclos S.kind S.loc (thn (hi pins s σ H _ I h) λ v s1 h1=>thn h1 λ itv s2 h2=>?_)
 refine Jf4 (RR:=λ acc C=>compPost (model X.prog X.w) X.A X.xe none (EP X pins σ Q) acc C) (Qe:=λ l H2=>Q (.ref l) H2) hc S hsc hNN hg ht he h2 ?_
 intro l H2 C s2 I2 hm f q
 obtain ⟨m,hm⟩:=hm
 exact ⟨m,hm,λ h' hs'=>⟨.ref l,H2,I2.freed f hs',rfl,q⟩⟩
theorem Jf5 {i:Nat}{y:Str}{py spos:Pos}(hc:X.calm=true) (hN:X.N.Nodup) (hiN:X.N[i]? = some y) (hy:X.env.scope.names.lookup y=some .local) (S:CompScopeC sc N scope N' k idx) (hsc:X.env.scope=sc) (hNN:X.N=N) (hi:PI X tg iter wi)
 (hg:∀ C s H fp,PG (Zm X N' scope C s H fp) tg g) (ht:∀ C s H fp,PTs (Zm X N' scope C s H fp) ifs tt) (he:∀ C s H fp,PE (Zm X N' scope C s H fp) elt te)
 (hsw:Ybg (.ListComp elt [⟨tg,iter,ifs,0⟩] scope pos) (some (.Name y py)) spos.line X.env=pure true:=by rfl)
 (hs:∀ x,Ybq iter X.env x=pure x:=by intro _;rfl):PS X (.Assign [.Name y py] (.ListComp elt [⟨tg,iter,ifs,0⟩] scope pos) spos) (Vu i wi k idx g tt te):=by
 intro pins s σ H D I h
 rw [Yb3 _ _ _ _ hsw]
 refine wpAny_bind (wpAny_standAt (wpAny_bind ?_))
 show Yaq _ X.A (do let _ <- comprehension (.ListComp elt [⟨tg,iter,ifs,0⟩] scope pos) scope X.env _ (newList []) false (eval iter X.env) (some (assign (.Name y py) X.env))) _ _ s
 have hclos:Ybn scope X.env=pure (Yd X.env scope.names []):=Bf λ x hx hfree=>I.ok.has x.1 (by
  show X.env.scope.names.lookup x.1=_\/X.env.scope.names.lookup x.1=_
  rw [hsc];exact S.fr x hx hfree)
 refine wpAny_bind (wpAny_mono (wpAny_comprehension_free (use:=some (assign (.Name y py) X.env)) (Q:=λ _ s'=>SP X pins D .next s') rfl hs hclos S.kind S.loc (thn (hi pins s σ H _ I h) λ v s1 h1=>thn h1 λ itv s2 h2=>?_))
  (λ _ s' hq=>wpAny_pure (wpAny_pure hq)) λ _ _ e=>e)
 refine Jf4 (RR:=λ acc C=>compPost (model X.prog X.w) X.A X.xe (some (assign (.Name y py) X.env)) (λ _ s'=>SP X pins D .next s') acc C) (Qe:=λ l H2=>D.nx (σ.set i (some (.ref l))) H2) hc S hsc hNN hg ht he h2 ?_
 intro l H2 C s2 I2 hm f q
 obtain ⟨m,hm⟩:=hm
 show Yaq _ X.A (assign (.Name y py) X.env (.ref l)) _ _ _
 refine Ybu (Je7 (v:=.ref l) I2 hN hiN (.inl hy) rfl (λ s' I' hch=>?_) (.inr hy))
 obtain ⟨a,hsb,ha⟩:=hch
 have haC:C≠a:=λ z=>by
  rcases ha with e | e
  . exact f.loc (z.trans e)
  . exact f.cel y a e z.symm
 exact ⟨m,hm.sameBut hsb haC,λ h' hs'=>⟨_,H2,I'.freed f hs',q⟩⟩
end
noncomputable def Jtl (scope osc:Yav):Yav:={ scope with names:=scope.names.map λ (n,k)=>if (k==Ul&&osc.kind == .function&&osc.names.lookup n==some .cell) then (n,Uy) else (n,k) }
theorem Jv6 {X:Cx}{N':List Str}{scope osc:Yav}{C:Addr}{s:Yap}{H:Hp}{fp:List Addr}(h:X.env.scope=osc):(Zm X N' scope C s H fp).env.scope=Jtl scope osc:=by
 subst h;rfl
end L2
namespace My
open L2
noncomputable def Jbj (ws:List Way) (cs:List Int) (p:Nat):List Int:=(Qk ws.length).map λ i=>cs.getD i 0*(Je ws (i:Nat)).g.getD p 0
noncomputable def rgI (ws:List Way) (cs:List Int) (U:Int):List Int:=(Qk U.toNat).map λ p=>(Jbj ws cs p).sum
inductive Vl where
 | jnk | jar | tape | d (x:Yao) | own (xs:List Yao) | dct (kvs:List (Key×Yao)) | own2 (ks:Option (List Key)) (ps:List (Addr×List Yao)) | pin (v:V) (x:Yao)
structure Src where
 jv:V
 ch:List Addr
 inv:Nat->Hp->Prop
 keep:∀ {n:Nat} {H H':Hp},inv n H->(∀ b∈ch,∀ o,H b=some o->H' b=some o)->inv n H'
 dom:∀ {n:Nat} {H:Hp},inv n H->∀ b∈ch,H b≠none
noncomputable def Src.no:Src:=⟨.non,[],λ _ _=>True,λ _ _=>trivial,λ _ _ h=>by cases h⟩
def Jru (H:Hp) (p c:Addr) (n:Nat):Prop:=∃ e,Jzu H p c e/\(n=0\/e=some (n:Int))
theorem Jru.jar {H:Hp}{p c:Addr}{n:Nat}(J:Jru H p c n):Jar H p c:=J.choose_spec.1.jar
theorem Jv7 {H:Hp}{p c:Addr}{n:Nat}(J:Jru H p c n):∀ b∈[p,c],H b≠none:=λ b hb z=>J.jar.fresh z hb
theorem Jtm {H H':Hp}{p c:Addr}{n:Nat}(J:Jru H p c n) (h:∀ b∈[p,c],∀ o,H b=some o->H' b=some o):Jru H' p c n:=by
 obtain ⟨e,⟨ns,r,s,t,X,h3⟩,hn⟩:=J
 exact ⟨e,⟨ns,r,s,t,⟨h _ (by simp) _ X.d,h _ (by simp) _ X.l⟩,h3⟩,hn⟩
noncomputable def Src.jar (p c:Addr):Src:=⟨.ref p,[p,c],λ n H=>Jru H p c n,λ J h=>Jtm J h,λ J=>Jv7 J⟩
theorem Jrv {H H':Hp}{p c:Addr}{n:Nat}(J:Tape H p c n) (h:∀ b∈[p,c],∀ o,H b=some o->H' b=some o):Tape H' p c n:=by
 obtain ⟨ns,a,g,h1,h2,h3⟩:=J.ex
 exact ⟨ns,a,g,h _ (by simp) _ h1,h _ (by simp) _ h2,h3⟩
noncomputable def Src.tape (p c:Addr):Src:=⟨.ref p,[p,c],λ n H=>Tape H p c n,λ J h=>Jrv J h,λ J b hb z=>J.fresh z hb⟩
def Yr (S:Src) (n':Nat) (H H':Hp):Prop:=Kp S.ch H H'/\S.inv n' H'
section
variable {S:Src}{n m:Nat}{H H1 H2 H':Hp}{ex:List Addr}
theorem Yr.refl (h:S.inv n H):Yr S n H H:=⟨.refl,h⟩
theorem Yr.trans (a:Yr S n H H1) (b:Yr S m H1 H2):Yr S m H H2:=⟨a.1.trans b.1,b.2⟩
theorem Yr.new (h:S.inv n H) (k:Kp [] H H'):Yr S n H H':=⟨k.of,S.keep h λ b _ o e=>k b o e (by simp)⟩
theorem Yr.then (a:Yr S n H H1) (k:Kp [] H1 H2):Yr S n H H2:=a.trans (.new a.2 k)
theorem Yr.free {p:Addr}(a:Yr S n H H1) (h:H1 p=none):H p=none:=by
 cases e:H p with
 | none=>rfl
 | some o=>
  by_cases hp:p∈S.ch
  . exact absurd h (S.dom a.2 p hp)
  . rw [a.1 p o e hp] at h;cases h
def Alc (ex:List Addr) (H:Hp):Prop:=∀ a∈ex,H a≠none
theorem Alc.nm {p:Addr}(h:Alc ex H) (e:H p=none):p∉ex:=λ z=>h p z e
theorem Alc.kp (h:Alc ex H) (k:Kp [] H H'):Alc ex H':=λ a ha z=>by
 cases e:H a with
 | none=>exact h a ha e
 | some o=>rw [k a o e (by simp)] at z;cases z
theorem Alc.step (h:Alc ex H) (k:Yr S n H H'):Alc ex H':=λ a ha z=>h a ha (k.free z)
mutual
theorem Rep.add {l:Addr}(h:H l=none):∀ {d:Yao}{v:V},Rep ex H d v->Rep (l::ex) H d v
 | _,_,.none=>.none
 | _,_,.bool b=>.bool b
 | _,_,.int i=>.int i
 | _,_,.str x=>.str x
 | _,_,.tuple e n z r=>.tuple e (λ q=>(Qf.mp q).elim (λ q=>by rw [q,h] at e;cases e) n) z (Reps.add h r)
 | _,_,.list e n z r=>.list e (λ q=>(Qf.mp q).elim (λ q=>by rw [q,h] at e;cases e) n) z (Reps.add h r)
 | _,_,.obj e n k r=>.obj e (λ q=>(Qf.mp q).elim (λ q=>by rw [q,h] at e;cases e) n) k (Reps.add h r)
theorem Reps.add {l:Addr}(h:H l=none):∀ {ds:List Yao}{vs:List V},Reps ex H ds vs->Reps (l::ex) H ds vs
 | _,_,.nil=>.nil
 | _,_,.cons r t=>.cons (Rep.add h r) (Reps.add h t)
end
theorem Rep.sub {l:Addr}{d:Yao}{v:V}(r:Rep (l::ex) H d v):Rep ex H d v:=Rep.mono (λ b hb=>Qi _ hb) r
theorem Reps.sub {l:Addr}{d:List Yao}{v:List V}(r:Reps (l::ex) H d v):Reps ex H d v:=Reps.mono (λ b hb=>Qi _ hb) r
end
noncomputable def exm (m:Bool) (S:Src) (ex:List Addr):List Addr:=match m with | true=>ex | false=>S.ch
def KvR (ex:List Addr) (H:Hp) (kvs:List (Key×Yao)) (kws:List (Key×V)):Prop:=kws.map (·.1)=kvs.map (·.1)/\Reps ex H (kvs.map (·.2)) (kws.map (·.2))
noncomputable def J1f (ks:Option (List Key)) (rs:List V):HO:=match ks with
 | none=>.lst rs
 | some ks=>.dK (ks.zip rs)
structure In2 (S:Src) (ex:List Addr) (H:Hp) (p:Addr×List Yao):Prop where
 m:p.1∈ex
 c:p.1∉S.ch
 h:∃ vs,H p.1=some (.lst vs)/\vs.length<=sizeLine/\Reps ex H p.2 vs
noncomputable def Yv (ps:List (Addr×List Yao)):List V:=ps.map λ p=>.ref p.1
structure Own2 (S:Src) (ex:List Addr) (H:Hp) (ks:Option (List Key)) (ps:List (Addr×List Yao)) (a:Addr):Prop where
 h:H a=some (J1f ks (Yv ps))
 z:ps.length<=1000000
 k:∀ l,ks=some l->l.length=ps.length
 nd:(a::ps.map (·.1)).Nodup
 m:a∈ex
 c:a∉S.ch
 i:∀ p∈ps,In2 S ex H p
def SlR (S:Src) (ex:List Addr) (H:Hp):Vl->Option V->Prop
 | .jnk,_=>True
 | .jar,o=>∃ p c,S=Src.jar p c/\o=some (.ref p)
 | .tape,o=>∃ p c,S=Src.tape p c/\o=some (.ref p)
 | .d x,o=>∃ v,o=some v/\Rep ex H x v
 | .own xs,o=>∃ a vs,o=some (.ref a)/\H a=some (.lst vs)/\vs.length<=sizeLine/\Reps ex H xs vs/\a∈ex/\a∉S.ch
 | .dct kvs,o=>∃ a kws,o=some (.ref a)/\H a=some (.dK kws)/\KvR ex H kvs kws/\a∈ex/\a∉S.ch
 | .own2 ks ps,o=>∃ a,o=some (.ref a)/\Own2 S ex H ks ps a
 | .pin v x,o=>o=some v/\Rep ex H x v
structure Ev (S:Src) (ex:List Addr) (env:List Vl) (σ:L2.St) (H:Hp) (n:Nat):Prop where
 len:env.length<=σ.length
 sl:∀ (i:Nat) (w:Vl),env[i]? = some w->SlR S ex H w (σ[i]?).join
 ch:∀ a∈S.ch,a∈ex
 al:Alc ex H
 inv:S.inv n H
section
variable {S:Src}{n m:Nat}{H H1 H2 H':Hp}{ex:List Addr}{env:List Vl}{σ:L2.St}
theorem SlR.kp {w:Vl}{o:Option V}(hc:∀ a∈S.ch,a∈ex) (k:Kp S.ch H H') (h:SlR S ex H w o):SlR S ex H' w o:=by
 have kx:Kp ex H H':=k.mono hc
 cases w with
 | jnk=>trivial
 | jar=>exact h
 | tape=>exact h
 | d x=>obtain ⟨v,e,r⟩:=h;exact ⟨v,e,r.keep kx⟩
 | pin v x=>obtain ⟨e,r⟩:=h;exact ⟨e,r.keep kx⟩
 | own xs=>obtain ⟨a,vs,e,h1,h2,h3,h4,h5⟩:=h;exact ⟨a,vs,e,k _ _ h1 h5,h2,h3.keep kx,h4,h5⟩
 | dct kvs=>obtain ⟨a,kws,e,h1,⟨h2,h3⟩,h4,h5⟩:=h;exact ⟨a,kws,e,k _ _ h1 h5,⟨h2,h3.keep kx⟩,h4,h5⟩
 | own2 ks ps=>obtain ⟨a,e,q⟩:=h;exact ⟨a,e,k _ _ q.h q.c,q.z,q.k,q.nd,q.m,q.c,λ p hp=>let w:=q.i p hp;⟨w.m,w.c,let ⟨vs,h1,h2,h3⟩:=w.h;⟨vs,k _ _ h1 w.c,h2,h3.keep kx⟩⟩⟩
theorem Ev.step (E:Ev S ex env σ H n) (k:Yr S m H H'):Ev S ex env σ H' m:=⟨E.len,λ i w e=>(E.sl i w e).kp E.ch k.1,E.ch,E.al.step k,k.2⟩
theorem Ev.rep (E:Ev S ex env σ H n) (k:Yr S m H H') {d:Yao}{v:V}(r:Rep ex H d v):Rep ex H' d v:=r.keep (k.1.mono E.ch)
theorem Ev.reps (E:Ev S ex env σ H n) (k:Yr S m H H') {d:List Yao}{v:List V}(r:Reps ex H d v):Reps ex H' d v:=r.keep (k.1.mono E.ch)
theorem Ev.sub (E:Ev S ex env σ H n) (b:Bool):∀ a∈exm b S ex,a∈ex:=by
 cases b with
 | true=>exact λ a h=>h
 | false=>exact E.ch
theorem Ev.sup (E:Ev S ex env σ H n) (b:Bool):∀ a∈S.ch,a∈exm b S ex:=by
 cases b with
 | true=>exact E.ch
 | false=>exact λ a h=>h
theorem Ev.alm (E:Ev S ex env σ H n) (b:Bool):Alc (exm b S ex) H:=λ a h=>E.al a (E.sub b a h)
theorem Ev.repm (E:Ev S ex env σ H n) (b:Bool) (k:Yr S m H H') {d:Yao}{v:V}(r:Rep (exm b S ex) H d v):Rep (exm b S ex) H' d v:=r.keep (k.1.mono (E.sup b))
theorem Rep.nil {d:Yao}{v:V}(r:Rep ex H d v):Rep [] H d v:=Rep.mono (λ b hb=>by cases hb) r
theorem Reps.nil' {d:List Yao}{v:List V}(r:Reps ex H d v):Reps [] H d v:=Reps.mono (λ b hb=>by cases hb) r
theorem Jm {i:Nat}{v:V}(h:(σ[i]?).join=some v):σ[i]? = some (some v):=by
 cases e:σ[i]? with
 | none=>rw [e] at h;cases h
 | some o=>rw [e] at h;cases o with
  | none=>cases h
  | some u=>cases h;rfl
end
abbrev GE:=List Vl->Nat->(Yao->Nat->Prop)->Prop
abbrev GT:=List Vl->Nat->(Bool->Nat->Prop)->Prop
abbrev GA:=List Vl->Nat->(List Vl->Nat->Prop)->Prop
abbrev GN:=List Vl->Nat->(List Yao->Nat->Prop)->Prop
abbrev GSp:=List Vl->Nat->(Yao->Nat->Prop)->Prop
abbrev GSn:=List Vl->Nat->(List Yao->Nat->Prop)->Prop
def B4 (S:Src) (ex:List Addr) (H:Hp):List Vl->List V->Prop
 | [],[]=>True
 | a::as,v::vs=>SlR S ex H a (some v)/\B4 S ex H as vs
 | _,_=>False
class EV (m:Bool) (te:TE) (g:outParam GE):Prop where
 ev:∀ {S:Src} {ex:List Addr} {env:List Vl} {σ:L2.St} {H:Hp} {n:Nat} {Q:VK} {P:Yao->Nat->Prop},Ev S ex env σ H n->g env n P->(∀ d n' v H',P d n'->Yr S n' H H'->Rep (exm m S ex) H' d v->Q v H')->te σ H Q
class NV (te:TE) (g:outParam GN):Prop where
 nv:∀ {S:Src} {ex:List Addr} {env:List Vl} {σ:L2.St} {H:Hp} {n:Nat} {Q:VK} {P:List Yao->Nat->Prop},Ev S ex env σ H n->g env n P->(∀ ds n' a vs H',P ds n'->Yr S n' H H'->H a=none->H' a=some (.lst vs)->vs.length<=sizeLine->Reps (a::ex) H' ds vs->Q (.ref a) H')->te σ H Q
class TV (tt:TT) (g:outParam GT):Prop where
 tv:∀ {S:Src} {ex:List Addr} {env:List Vl} {σ:L2.St} {H:Hp} {n:Nat} {Q:Bool->Hp->Prop} {P:Bool->Nat->Prop},Ev S ex env σ H n->g env n P->(∀ b n' H',P b n'->Yr S n' H H'->Q b H')->tt σ H Q
class AV (m:Bool) (ta:TA) (g:outParam GA):Prop where
 av:∀ {S:Src} {ex:List Addr} {env:List Vl} {σ:L2.St} {H:Hp} {n:Nat} {Q:List V->Hp->Prop} {P:List Vl->Nat->Prop},Ev S ex env σ H n->g env n P->(∀ as n' vs H',P as n'->Yr S n' H H'->B4 S (exm m S ex) H' as vs->Q vs H')->ta σ H Q
class DV (m:Bool) (ta:TA) (g:outParam GN):Prop where
 dv:∀ {S:Src} {ex:List Addr} {env:List Vl} {σ:L2.St} {H:Hp} {n:Nat} {Q:List V->Hp->Prop} {P:List Yao->Nat->Prop},Ev S ex env σ H n->g env n P->(∀ ds n' vs H',P ds n'->Yr S n' H H'->Reps (exm m S ex) H' ds vs->Q vs H')->ta σ H Q
abbrev G2:=Yao->Yao->(Yao->Prop)->Prop
class OV (r:R2) (f:outParam G2):Prop where
 ov:∀ {ex:List Addr} {H:Hp} {x y:V} {dx dy:Yao} {Q:VK} {P:Yao->Prop},Alc ex H->Rep ex H dx x->Rep ex H dy y->f dx dy P->(∀ d v H',P d->Kp [] H H'->Rep ex H' d v->Q v H')->r x y H Q
class OS (r:R2) (f:outParam G2):Prop where
 os:∀ {H:Hp} {x y:V} {dx dy:Yao} {Q:VK} {P:Yao->Prop},Rep [] H dx x->Rep [] H dy y->f dx dy P->(∀ d v,P d->(∀ ex,Rep ex H d v)->Q v H)->r x y H Q
class ON (r:R2) (f:outParam (Yao->Yao->(List Yao->Prop)->Prop)):Prop where
 on:∀ {ex:List Addr} {H:Hp} {x y:V} {dx dy:Yao} {Q:VK} {P:List Yao->Prop},Rep ex H dx x->Rep ex H dy y->f dx dy P->(∀ ds p vs,P ds->H p=none->vs.length<=sizeLine->Reps ex H ds vs->Q (.ref p) (upd H p (.lst vs)))->r x y H Q
abbrev G1:=List Yao->(Yao->Prop)->Prop
class CS (r:List V->Hp->VK->Prop) (f:outParam G1):Prop where
 cs:∀ {H:Hp} {xs:List V} {ds:List Yao} {Q:VK} {P:Yao->Prop},Reps [] H ds xs->f ds P->(∀ d v,P d->(∀ ex,Rep ex H d v)->Q v H)->r xs H Q
class CO (r:List V->Hp->VK->Prop) (f:outParam G1):Prop where
 co:∀ {ex:List Addr} {H:Hp} {xs:List V} {ds:List Yao} {Q:VK} {P:Yao->Prop},Alc ex H->Reps ex H ds xs->f ds P->(∀ d v H',P d->Kp [] H H'->Rep ex H' d v->Q v H')->r xs H Q
class CN (r:List V->Hp->VK->Prop) (f:outParam (List Yao->(List Yao->Prop)->Prop)):Prop where
 cn:∀ {ex:List Addr} {H:Hp} {xs:List V} {ds:List Yao} {Q:VK} {P:List Yao->Prop},Reps ex H ds xs->f ds P->(∀ es p vs,P es->H p=none->vs.length<=sizeLine->Reps ex H es vs->Q (.ref p) (upd H p (.lst vs)))->r xs H Q
abbrev Jv8 (i:Nat):GE:=λ env n Q=>match env[i]? with
 | some (.d x)=>Q x n
 | some (.pin _ x)=>Q x n
 | _=>False
abbrev Jx9 (i:Nat):GE:=λ env n Q=>match env[i]? with
 | some (.d x)=>Q x n
 | some (.pin _ x)=>Q x n
 | some (.own xs)=>Q (.list xs) n
 | some (.own2 none ps)=>Q (.list (ps.map λ p=>.list p.2)) n
 | _=>False
theorem Jff {S:Src}{ex:List Addr}{H:Hp}:∀ {ps:List (Addr×List Yao)},(∀ a∈S.ch,a∈ex)->(∀ p∈ps,In2 S ex H p)->Reps S.ch H (ps.map λ p=>Ua p.2) (Yv ps)
 | [],_,_=>.nil
 | p::ps,hc,h=>by
  have w:=h p Qh
  obtain ⟨vs,h1,h2,h3⟩:=w.h
  exact .cons (.list h1 w.c h2 (Reps.mono hc h3)) (Jff hc λ q hq=>h q (Qi _ hq))
abbrev gC (d:Yao):GE:=λ _ n Q=>Q d n
section
variable {S:Src}{n m:Nat}{H H1 H2 H':Hp}{ex:List Addr}{env:List Vl}{σ:L2.St}{b:Bool}{te ta tb tc:TE}{g ga gb gc:GE}
instance ev_var {i:Nat}:EV true (Z1 i) (Jv8 i):=⟨λ {S ex env σ H n Q P} E h k=>by
 unfold Jv8 at h
 split at h
 . rename_i x e
   obtain ⟨v,ev,r⟩:=E.sl i _ e
   exact ⟨v,Jm ev,k _ _ v H h (.refl E.inv) r⟩
 . rename_i v x e
   obtain ⟨ev,r⟩:=E.sl i _ e
   exact ⟨v,Jm ev,k _ _ v H h (.refl E.inv) r⟩
 . exact h.elim⟩
instance pv_var {i:Nat}:EV false (Z1 i) (Jx9 i):=⟨λ {S ex env σ H n Q P} E h k=>by
 unfold Jx9 at h
 split at h
 . rename_i x e
   obtain ⟨v,ev,r⟩:=E.sl i _ e
   exact ⟨v,Jm ev,k _ _ v H h (.refl E.inv) (Rep.mono E.ch r)⟩
 . rename_i v x e
   obtain ⟨ev,r⟩:=E.sl i _ e
   exact ⟨v,Jm ev,k _ _ v H h (.refl E.inv) (Rep.mono E.ch r)⟩
 . rename_i xs e
   obtain ⟨a,vs,ev,h1,h2,h3,h4,h5⟩:=E.sl i _ e
   exact ⟨_,Jm ev,k _ _ _ H h (.refl E.inv) (.list h1 h5 h2 (Reps.mono E.ch h3))⟩
 . rename_i ps e
   obtain ⟨a,ev,q⟩:=E.sl i _ e
   have hs:sizeLine=16777216:=Yau
   exact ⟨_,Jm ev,k _ _ _ H h (.refl E.inv) (.list q.h q.c (by unfold Yv;rw [Qb];have:=q.z;omega) (Jff E.ch q.i))⟩
 . exact h.elim⟩
instance ev_int {i:Int}:EV b (tC (.int i)) (gC (.int i)):=⟨λ E h k=>k _ _ _ _ h (.refl E.inv) (.int i)⟩
instance ev_bl {i:Bool}:EV b (tC (.bl i)) (gC (.bool i)):=⟨λ E h k=>k _ _ _ _ h (.refl E.inv) (.bool i)⟩
instance ev_str {i:Str}:EV b (tC (.str i)) (gC (.str i)):=⟨λ E h k=>k _ _ _ _ h (.refl E.inv) (.str i)⟩
instance ev_non:EV b (tC .non) (gC .none):=⟨λ E h k=>k _ _ _ _ h (.refl E.inv) .none⟩
abbrev gOp (f:G2) (ga gb:GE):GE:=λ env n Q=>ga env n λ x n1=>gb env n1 λ y n2=>f x y λ d=>Q d n2
instance ev_opS {r:R2}{f:G2} [O:OS r f] [A:EV false ta ga] [B:EV false tb gb]:EV b (tOp r ta tb) (gOp f ga gb):=⟨λ {S ex env σ H n Q P} E h k=>by
 refine A.ev E h λ x n1 v1 H1 h1 s1 r1=>B.ev (E.step s1) h1 λ y n2 v2 H2 h2 s2 r2=>?_
 exact O.os (Rep.nil ((E.step s1).repm false s2 r1)) (Rep.nil r2) h2 λ d v p r=>k _ _ _ _ p (s1.trans s2) (r _)⟩
instance (priority:=low) ev_op {r:R2}{f:G2} [O:OV r f] [A:EV b ta ga] [B:EV b tb gb]:EV b (tOp r ta tb) (gOp f ga gb):=⟨λ {S ex env σ H n Q P} E h k=>by
 refine A.ev E h λ x n1 v1 H1 h1 s1 r1=>B.ev (E.step s1) h1 λ y n2 v2 H2 h2 s2 r2=>?_
 exact O.ov ((E.step (s1.trans s2)).alm b) ((E.step s1).repm b s2 r1) r2 h2 λ d v H' p kp r=>k _ _ _ _ p ((s1.trans s2).then kp) r⟩
abbrev J2s (g:GN):GE:=λ env n Q=>g env n λ ds n'=>Q (.list ds) n'
instance (priority:=low) ev_nv {g:GN} [N:NV te g]:EV b te (J2s g):=⟨λ {S ex env σ H n Q P} E h k=>
 N.nv E h λ ds n' a vs H' p st ha hl hz r=>k _ _ _ _ p st (.list hl (λ z=>E.alm b a z ha) hz (Reps.mono (λ c hc=>Qi _ (E.sub b c hc)) r))⟩
abbrev J2t (f:Yao->Yao->(List Yao->Prop)->Prop) (ga gb:GE):GN:=λ env n Q=>ga env n λ x n1=>gb env n1 λ y n2=>f x y λ d=>Q d n2
theorem B5 {S:Src}{ex:List Addr}{env:List Vl}{σ:L2.St}{H H1:Hp}{n n1:Nat}{p:Addr}{vs:List V}{ds:List Yao}(E:Ev S ex env σ H n) (s:Yr S n1 H H1) (hp:H1 p=none) (r:Reps ex H1 ds vs) :
 Yr S n1 H (upd H1 p (.lst vs))/\H p=none/\Reps (p::ex) (upd H1 p (.lst vs)) ds vs:=
 ⟨s.then (Kp.new hp _),s.free hp,(Reps.add hp r).keep (Kp.new hp _)⟩
instance nv_op {r:R2}{f:Yao->Yao->(List Yao->Prop)->Prop} [O:ON r f] [A:EV true ta ga] [B:EV true tb gb]:NV (tOp r ta tb) (J2t f ga gb):=⟨λ {S ex env σ H n Q P} E h k=>by
 refine A.ev E h λ x n1 v1 H1 h1 s1 r1=>B.ev (E.step s1) h1 λ y n2 v2 H2 h2 s2 r2=>?_
 refine O.on ((E.step s1).repm true s2 r1) r2 h2 λ ds p vs pp hp hz r=>?_
 obtain ⟨c1,c2,c3⟩:=B5 E (s1.trans s2) hp r
 exact k _ _ _ _ _ pp c1 c2 Jg hz c3⟩
abbrev J1g:GA:=λ _ n Q=>Q [] n
abbrev J1h (i:Nat) (rest:GA):GA:=λ env n Q=>match env[i]? with
 | some (.d x)=>rest env n λ as n'=>Q (.d x::as) n'
 | some .jar=>rest env n λ as n'=>Q (.jar::as) n'
 | some .tape=>rest env n λ as n'=>Q (.tape::as) n'
 | _=>False
abbrev Jya (i:Nat) (rest:GA):GA:=λ env n Q=>match env[i]? with
 | some (.d x)=>rest env n λ as n'=>Q (.d x::as) n'
 | some (.own xs)=>rest env n λ as n'=>Q (.d (.list xs)::as) n'
 | some (.own2 none ps)=>rest env n λ as n'=>Q (.d (.list (ps.map λ p=>.list p.2))::as) n'
 | some .jar=>rest env n λ as n'=>Q (.jar::as) n'
 | some .tape=>rest env n λ as n'=>Q (.tape::as) n'
 | _=>False
abbrev Jzv (g:GE) (rest:GA):GA:=λ env n Q=>g env n λ d n1=>rest env n1 λ as n2=>Q (.d d::as) n2
abbrev J1i:GN:=λ _ n Q=>Q [] n
abbrev Jzw (g:GE) (rest:GN):GN:=λ env n Q=>g env n λ d n1=>rest env n1 λ as n2=>Q (d::as) n2
instance av_nil:AV b Jbx J1g:=⟨λ E h k=>k _ _ _ _ h (.refl E.inv) trivial⟩
instance (priority:=low) av_cons {t:TA}{gt:GA} [A:EV b te g] [B:AV b t gt]:AV b (Yj te t) (Jzv g gt):=⟨λ {S ex env σ H n Q P} E h k=>
 A.ev E h λ x n1 v1 H1 h1 s1 r1=>B.av (E.step s1) h1 λ as n2 vs H2 h2 s2 r2=>k _ _ _ _ h2 (s1.trans s2) ⟨⟨_,rfl,(E.step s1).repm b s2 r1⟩,r2⟩⟩
instance av_var {t:TA}{gt:GA}{i:Nat} [B:AV true t gt]:AV true (Yj (Z1 i) t) (J1h i gt):=⟨λ {S ex env σ H n Q P} E h k=>by
 unfold J1h at h
 split at h
 . rename_i x e
   obtain ⟨v,ev,r⟩:=E.sl i _ e
   exact ⟨v,Jm ev,B.av E h λ as n2 vs H2 h2 s2 r2=>k _ _ _ _ h2 s2 ⟨⟨_,rfl,E.repm true s2 r⟩,r2⟩⟩
 . rename_i e
   obtain ⟨p,c,hS,ev⟩:=E.sl i _ e
   exact ⟨_,Jm ev,B.av E h λ as n2 vs H2 h2 s2 r2=>k _ _ _ _ h2 s2 ⟨⟨p,c,hS,rfl⟩,r2⟩⟩
 . rename_i e
   obtain ⟨p,c,hS,ev⟩:=E.sl i _ e
   exact ⟨_,Jm ev,B.av E h λ as n2 vs H2 h2 s2 r2=>k _ _ _ _ h2 s2 ⟨⟨p,c,hS,rfl⟩,r2⟩⟩
 . exact h.elim⟩
instance av_look {t:TA}{gt:GA}{i:Nat} [B:AV false t gt]:AV false (Yj (Z1 i) t) (Jya i gt):=⟨λ {S ex env σ H n Q P} E h k=>by
 unfold Jya at h
 split at h
 . rename_i x e
   obtain ⟨v,ev,r⟩:=E.sl i _ e
   exact ⟨v,Jm ev,B.av E h λ as n2 vs H2 h2 s2 r2=>k _ _ _ _ h2 s2 ⟨⟨_,rfl,E.repm false s2 (Rep.mono E.ch r)⟩,r2⟩⟩
 . rename_i xs e
   obtain ⟨a,vs,ev,h1,h2,h3,h4,h5⟩:=E.sl i _ e
   exact ⟨_,Jm ev,B.av E h λ as n2 vs' H2 hh s2 r2=>k _ _ _ _ hh s2 ⟨⟨_,rfl,E.repm false s2 (.list h1 h5 h2 (Reps.mono E.ch h3))⟩,r2⟩⟩
 . rename_i ps e
   obtain ⟨a,ev,q⟩:=E.sl i _ e
   exact ⟨_,Jm ev,B.av E h λ as n2 vs' H2 hh s2 r2=>k _ _ _ _ hh s2 ⟨⟨_,rfl,E.repm false s2 (.list q.h q.c (by unfold Yv;rw [Qb,Yau];have:=q.z;omega) (Jff E.ch q.i))⟩,r2⟩⟩
 . rename_i e
   obtain ⟨p,c,hS,ev⟩:=E.sl i _ e
   exact ⟨_,Jm ev,B.av E h λ as n2 vs H2 h2 s2 r2=>k _ _ _ _ h2 s2 ⟨⟨p,c,hS,rfl⟩,r2⟩⟩
 . rename_i e
   obtain ⟨p,c,hS,ev⟩:=E.sl i _ e
   exact ⟨_,Jm ev,B.av E h λ as n2 vs H2 h2 s2 r2=>k _ _ _ _ h2 s2 ⟨⟨p,c,hS,rfl⟩,r2⟩⟩
 . exact h.elim⟩
instance dv_nil:DV b Jbx J1i:=⟨λ E h k=>k _ _ _ _ h (.refl E.inv) .nil⟩
instance dv_cons {t:TA}{gt:GN} [A:EV b te g] [B:DV b t gt]:DV b (Yj te t) (Jzw g gt):=⟨λ {S ex env σ H n Q P} E h k=>
 A.ev E h λ x n1 v1 H1 h1 s1 r1=>B.dv (E.step s1) h1 λ as n2 vs H2 h2 s2 r2=>k _ _ _ _ h2 (s1.trans s2) (.cons ((E.step s1).repm b s2 r1) r2)⟩
abbrev J1j (t:GN):GE:=λ env n Q=>t env n λ ds n1=>ds.length<=sizeLine/\Q (.tuple ds) n1
abbrev J1k (t:GN):GN:=λ env n Q=>t env n λ ds n1=>ds.length<=sizeLine/\Q ds n1
instance ev_tup {t:TA}{gt:GN} [A:DV b t gt]:EV b (Jvx t) (J1j gt):=⟨λ {S ex env σ H n Q P} E h k=>
 A.dv E h λ ds n1 vs H1 h1 s1 r1=>⟨by rw [<- r1.length];exact h1.1,λ p hp=>k _ _ _ _ h1.2 (s1.then (Kp.new hp _)) (.tuple Jg ((E.step s1).alm b |>.nm hp) (by rw [<- r1.length];exact h1.1) (r1.keep (Kp.new hp _)))⟩⟩
instance nv_lst {t:TA}{gt:GN} [A:DV true t gt]:NV (Jzj t) (J1k gt):=⟨λ {S ex env σ H n Q P} E h k=>
 A.dv E h λ ds n1 vs H1 h1 s1 r1=>⟨by rw [<- r1.length];exact h1.1,λ p hp=>by
  obtain ⟨c1,c2,c3⟩:=B5 E s1 hp r1
  exact k _ _ _ _ _ h1.2 c1 c2 Jg (by rw [<- r1.length];exact h1.1) c3⟩⟩
abbrev gCB (f:G1) (t:GN):GE:=λ env n Q=>t env n λ ds n1=>f ds λ d=>Q d n1
abbrev J2u (f:List Yao->(List Yao->Prop)->Prop) (t:GN):GN:=λ env n Q=>t env n λ ds n1=>f ds λ d=>Q d n1
instance ev_cs {r:List V->Hp->VK->Prop}{f:G1}{t:TA}{gt:GN} [C:CS r f] [A:DV false t gt]:EV b (tCB r t) (gCB f gt):=⟨λ {S ex env σ H n Q P} E h k=>
 A.dv E h λ ds n1 vs H1 h1 s1 r1=>C.cs (Reps.nil' r1) h1 λ d v p r=>k _ _ _ _ p s1 (r _)⟩
instance (priority:=low) ev_co {r:List V->Hp->VK->Prop}{f:G1}{t:TA}{gt:GN} [C:CO r f] [A:DV b t gt]:EV b (tCB r t) (gCB f gt):=⟨λ {S ex env σ H n Q P} E h k=>
 A.dv E h λ ds n1 vs H1 h1 s1 r1=>C.co ((E.step s1).alm b) r1 h1 λ d v H' p kp r=>k _ _ _ _ p (s1.then kp) r⟩
instance nv_cn {r:List V->Hp->VK->Prop}{f:List Yao->(List Yao->Prop)->Prop}{t:TA}{gt:GN} [C:CN r f] [A:DV true t gt]:NV (tCB r t) (J2u f gt):=⟨λ {S ex env σ H n Q P} E h k=>
 A.dv E h λ ds n1 vs H1 h1 s1 r1=>C.cn r1 h1 λ es p ws pp hp hz r=>by
  obtain ⟨c1,c2,c3⟩:=B5 E s1 hp r
  exact k _ _ _ _ _ pp c1 c2 Jg hz c3⟩
def Jk (sp:GSp):Sp:=λ vs H Q _=>∃ (S:Src) (ex:List Addr) (as:List Vl) (n:Nat) (P:Yao->Nat->Prop),B4 S ex H as vs/\(∀ a∈S.ch,a∈ex)/\Alc ex H/\S.inv n H/\sp as n P/\∀ d n' v H',P d n'->Yr S n' H H'->Rep ex H' d v->Q v H'
def Z4 (sp:GSn):Sp:=λ vs H Q _=>∃ (S:Src) (ex:List Addr) (as:List Vl) (n:Nat) (P:List Yao->Nat->Prop),B4 S ex H as vs/\(∀ a∈S.ch,a∈ex)/\Alc ex H/\S.inv n H/\sp as n P/\∀ ds n' a ws H',P ds n'->Yr S n' H H'->H a=none->H' a=some (.lst ws)->ws.length<=sizeLine->Reps (a::ex) H' ds ws->Q (.ref a) H'
noncomputable def Vw:Yao->Bool
 | .none | .bool _ | .int _ | .str _=>true
 | _=>false
theorem Jhj {d:Yao}{v:V}(h:Vw d=true) (r:Rep ex H d v):∀ ex',Rep ex' H d v:=λ ex'=>by
 cases r with
 | none=>exact .none
 | bool b=>exact .bool b
 | int i=>exact .int i
 | str x=>exact .str x
 | tuple=>cases h
 | list=>cases h
 | obj=>cases h
class Scal (sp:GSp):Prop where
 sc:∀ {as:List Vl} {n:Nat} {P:Yao->Nat->Prop},sp as n P->sp as n λ d n'=>Vw d=true/\P d n'
abbrev Jyb (sp:GSp) (ga:GA):GE:=λ env n Q=>ga env n λ as n1=>sp as n1 Q
abbrev Jzx (sp:GSn) (ga:GA):GN:=λ env n Q=>ga env n λ as n1=>sp as n1 Q
instance ev_callS {sp:GSp}{E':XK}{t:TA}{gt:GA} [Z:Scal sp] [A:AV false t gt]:EV b (Jjh (Jk sp) [] E' t) (Jyb sp gt):=⟨λ {S ex env σ H n Q P} E h k=>
 A.av E h λ as n1 vs H1 h1 s1 r1=>by
  rw [Uu]
  exact ⟨S,S.ch,as,n1,_,r1,λ _ h=>h,λ a ha=>(E.step s1).al a (E.ch a ha),s1.2,Z.sc h1,λ d n' v H' p s2 r=>k _ _ _ _ p.2 (s1.trans s2) (Jhj p.1 r _)⟩⟩
instance (priority:=low) ev_call {sp:GSp}{E':XK}{t:TA}{gt:GA} [A:AV b t gt]:EV b (Jjh (Jk sp) [] E' t) (Jyb sp gt):=⟨λ {S ex env σ H n Q P} E h k=>
 A.av E h λ as n1 vs H1 h1 s1 r1=>by
  rw [Uu]
  exact ⟨S,exm b S ex,as,n1,_,r1,E.sup b,(E.step s1).alm b,s1.2,h1,λ d n' v H' p s2 r=>k _ _ _ _ p (s1.trans s2) r⟩⟩
instance nv_call {sp:GSn}{E':XK}{t:TA}{gt:GA} [A:AV true t gt]:NV (Jjh (Z4 sp) [] E' t) (Jzx sp gt):=⟨λ {S ex env σ H n Q P} E h k=>
 A.av E h λ as n1 vs H1 h1 s1 r1=>by
  rw [Uu]
  exact ⟨S,ex,as,n1,_,r1,E.ch,(E.step s1).al,s1.2,h1,λ ds n' a ws H' p s2 ha hl hz r=>k _ _ _ _ _ p (s1.trans s2) (s1.free ha) hl hz r⟩⟩
abbrev Jyc (g:GE):GT:=λ env n Q=>g env n λ d n1=>match d with
 | .bool c=>Q c n1
 | _=>False
theorem Jb7 {d:Yao}{n:Nat}{Q:Bool->Nat->Prop}{v:V}(h:match d with | .bool c=>Q c n | _=>False) (r:Rep ex H d v):∃ c,v = .bl c/\Q c n:=by
 cases r with
 | bool c=>exact ⟨c,rfl,h⟩
 | none=>exact h.elim
 | obj=>exact h.elim
 | int=>exact h.elim
 | str=>exact h.elim
 | tuple=>exact h.elim
 | list=>exact h.elim
instance tv_test [A:EV false te g]:TV (Jxx te) (Jyc g):=⟨λ {S ex env σ H n Q P} E h k=>A.ev E h λ d n1 v H1 h1 s1 r1=>by
 obtain ⟨c,e,q⟩:=Jb7 h1 r1
 exact ⟨c,e,k _ _ _ q s1⟩⟩
instance tv_b [A:EV false te g]:TV (tB te) (Jyc g):=⟨λ {S ex env σ H n Q P} E h k=>A.ev E h λ d n1 v H1 h1 s1 r1=>by
 obtain ⟨c,e,q⟩:=Jb7 h1 r1
 exact ⟨c,e,k _ _ _ q s1⟩⟩
abbrev J2v (a b:GT):GT:=λ env n Q=>a env n λ c n1=>if c=true then b env n1 Q else Q false n1
abbrev gOr (a b:GT):GT:=λ env n Q=>a env n λ c n1=>if c=true then Q true n1 else b env n1 Q
abbrev J2w (a:GT):GT:=λ env n Q=>a env n λ c n1=>Q (!c) n1
instance tv_and {t u:TT}{gt gu:GT} [A:TV t gt] [B:TV u gu]:TV (J0y t u) (J2v gt gu):=⟨λ {S ex env σ H n Q P} E h k=>A.tv E h λ c n1 H1 h1 s1=>by
 cases c with
 | true=>exact B.tv (E.step s1) h1 λ c n2 H2 h2 s2=>k _ _ _ h2 (s1.trans s2)
 | false=>exact k _ _ _ h1 s1⟩
instance tv_or {t u:TT}{gt gu:GT} [A:TV t gt] [B:TV u gu]:TV (tOr t u) (gOr gt gu):=⟨λ {S ex env σ H n Q P} E h k=>A.tv E h λ c n1 H1 h1 s1=>by
 cases c with
 | false=>exact B.tv (E.step s1) h1 λ c n2 H2 h2 s2=>k _ _ _ h2 (s1.trans s2)
 | true=>exact k _ _ _ h1 s1⟩
instance tv_not {t:TT}{gt:GT} [A:TV t gt]:TV (J0z t) (J2w gt):=⟨λ {S ex env σ H n Q P} E h k=>A.tv E h λ c n1 H1 h1 s1=>k _ _ _ h1 s1⟩
instance tv_noTest:TV Jgl (λ _ n Q=>Q true n):=⟨λ {S ex env σ H n Q P} E h k=>k _ _ _ h (.refl E.inv)⟩
abbrev gIf (t:GT) (a b:GE):GE:=λ env n Q=>t env n λ c n1=>if c=true then a env n1 Q else b env n1 Q
instance ev_if {t:TT}{gt:GT} [T:TV t gt] [A:EV b ta ga] [B:EV b tb gb]:EV b (tIf t ta tb) (gIf gt ga gb):=⟨λ {S ex env σ H n Q P} E h k=>T.tv E h λ c n1 H1 h1 s1=>by
 cases c with
 | true=>exact A.ev (E.step s1) h1 λ d n2 v H2 h2 s2 r=>k _ _ _ _ h2 (s1.trans s2) r
 | false=>exact B.ev (E.step s1) h1 λ d n2 v H2 h2 s2 r=>k _ _ _ _ h2 (s1.trans s2) r⟩
abbrev J1l (a b:GE):GE:=λ env n Q=>a env n λ d n1=>match d with
 | .bool c=>if c=true then b env n1 Q else Q (.bool false) n1
 | _=>False
abbrev J2x (a b:GE):GE:=λ env n Q=>a env n λ d n1=>match d with
 | .bool c=>if c=true then Q (.bool true) n1 else b env n1 Q
 | _=>False
abbrev J1m (a:GE):GE:=λ env n Q=>a env n λ d n1=>match d with
 | .bool c=>Q (.bool (!c)) n1
 | _=>False
instance ev_andV [A:EV false ta ga] [B:EV b tb gb]:EV b (Jxr ta tb) (J1l ga gb):=⟨λ {S ex env σ H n Q P} E h k=>A.ev E h λ d n1 v H1 h1 s1 r1=>by
 obtain ⟨c,e,q⟩:=Jb7 (Q:=λ c n1=>if c=true then gb env n1 P else P (.bool false) n1) h1 r1
 refine ⟨c,e,?_⟩
 cases c with
 | true=>exact B.ev (E.step s1) q λ d n2 v H2 h2 s2 r=>k _ _ _ _ h2 (s1.trans s2) r
 | false=>exact k _ _ _ _ q s1 (.bool _)⟩
instance ev_orV [A:EV false ta ga] [B:EV b tb gb]:EV b (J00 ta tb) (J2x ga gb):=⟨λ {S ex env σ H n Q P} E h k=>A.ev E h λ d n1 v H1 h1 s1 r1=>by
 obtain ⟨c,e,q⟩:=Jb7 (Q:=λ c n1=>if c=true then P (.bool true) n1 else gb env n1 P) h1 r1
 refine ⟨c,e,?_⟩
 cases c with
 | false=>exact B.ev (E.step s1) q λ d n2 v H2 h2 s2 r=>k _ _ _ _ h2 (s1.trans s2) r
 | true=>exact k _ _ _ _ q s1 (.bool _)⟩
instance ev_notV [A:EV false ta ga]:EV b (Jxs ta) (J1m ga):=⟨λ {S ex env σ H n Q P} E h k=>A.ev E h λ d n1 v H1 h1 s1 r1=>by
 obtain ⟨c,e,q⟩:=Jb7 (Q:=λ c n1=>P (.bool (!c)) n1) h1 r1
 exact ⟨c,e,k _ _ _ _ q s1 (.bool _)⟩⟩
abbrev gUn (f:Yao->(Yao->Prop)->Prop) (a:GE):GE:=λ env n Q=>a env n λ d n1=>f d λ e=>Q e n1
abbrev fU (f:Int->V):Yao->(Yao->Prop)->Prop:=λ d Q=>match d with
 | .int i=>(match f i with | .int k=>Q (.int k) | _=>False)
 | _=>False
instance ev_unI {f:Int->V} [A:EV false ta ga]:EV b (tUn (rU f) ta) (gUn (fU f) ga):=⟨λ {S ex env σ H n Q P} E h k=>A.ev E h λ d n1 v H1 h1 s1 r1=>by
 cases r1 with
 | int i=>
  unfold fU at h1
  refine ⟨i,rfl,?_⟩
  dsimp only at h1
  split at h1
  . rename_i j e;rw [e];exact k _ _ _ _ h1 s1 (.int _)
  . exact h1.elim
 | none=>exact h1.elim
 | obj=>exact h1.elim
 | bool=>exact h1.elim
 | str=>exact h1.elim
 | tuple=>exact h1.elim
 | list=>exact h1.elim⟩
end
abbrev ofV:V->(Yao->Prop)->Prop
 | .int k,Q=>Q (.int k)
 | .bl c,Q=>Q (.bool c)
 | .str s,Q=>Q (.str s)
 | .non,Q=>Q .none
 | _,_=>False
theorem Jp8 {v:V}{P:Yao->Prop}{H:Hp}(h:ofV v P):∃ d,P d/\∀ ex,Rep ex H d v:=by
 cases v with
 | int k=>exact ⟨_,h,λ _=>.int k⟩
 | bl k=>exact ⟨_,h,λ _=>.bool k⟩
 | str k=>exact ⟨_,h,λ _=>.str k⟩
 | non=>exact ⟨_,h,λ _=>.none⟩
 | byt _=>exact h.elim
 | flt _=>exact h.elim
 | ref _=>exact h.elim
 | ty _=>exact h.elim
abbrev fI0 (f:Int->Int->V):G2:=λ x y Q=>match x,y with
 | .int i,.int j=>ofV (f i j) Q
 | _,_=>False
abbrev fI (C:Int->Int->Prop) (f:Int->Int->V):G2:=λ x y Q=>match x,y with
 | .int i,.int j=>C i j/\ofV (f i j) Q
 | _,_=>False
theorem ints_inv {ex:List Addr}{H:Hp}{dx dy:Yao}{x y:V}{A:Int->Int->Prop}(h:match dx,dy with | .int i,.int j=>A i j | _,_=>False) (r1:Rep ex H dx x) (r2:Rep ex H dy y):∃ i j,x = .int i/\y = .int j/\A i j:=by
 split at h
 . cases r1;cases r2;exact ⟨_,_,rfl,rfl,h⟩
 . exact h.elim
instance os_I0 {f:Int->Int->V}:OS (rI0 f) (fI0 f):=⟨λ {H x y dx dy Q P} r1 r2 h k=>by
 obtain ⟨i,j,rfl,rfl,h⟩:=ints_inv (A:=λ i j=>ofV (f i j) P) h r1 r2
 obtain ⟨d,p,r⟩:=Jp8 (H:=H) h
 exact ⟨i,j,rfl,rfl,k _ _ p r⟩⟩
instance os_I {C:Int->Int->Prop}{f:Int->Int->V}:OS (rI C f) (fI C f):=⟨λ {H x y dx dy Q P} r1 r2 h k=>by
 obtain ⟨i,j,rfl,rfl,hc,h⟩:=ints_inv (A:=λ i j=>C i j/\ofV (f i j) P) h r1 r2
 obtain ⟨d,p,r⟩:=Jp8 (H:=H) h
 exact ⟨i,j,rfl,rfl,hc,k _ _ p r⟩⟩
noncomputable def eqS:Yao->Yao->Option Bool
 | .int i,.int j=>some (decide (i=j))
 | .str a,.str b=>some (decide (a=b))
 | .bool a,.bool b=>some (decide (a=b))
 | .none,.none=>some true
 | .none,.int _ | .none,.bool _ | .none,.str _ | .int _,.none | .bool _,.none | .str _,.none=>some false
 | .int _,.str _ | .str _,.int _ | .bool _,.str _ | .str _,.bool _=>some false
 | _,_=>none
def fEq (neg:Bool):G2:=λ x y Q=>match eqS x y with
 | some c=>Q (.bool (if neg then !c else c))
 | none=>False
theorem Jtn {ex:List Addr}{H:Hp}{dx dy:Yao}{x y:V}{c:Bool}(h:eqS dx dy=some c) (r1:Rep ex H dx x) (r2:Rep ex H dy y):Jvs x y=true/\decide (x=y)=c:=by
 cases r1<;>cases r2<;>simp [eqS] at h<;>subst h<;>simp [Jvs]
instance os_eq:OS rEq (fEq false):=⟨λ {H x y dx dy Q P} r1 r2 h k=>by
 unfold fEq at h
 split at h
 . rename_i c e
   obtain ⟨h1,h2⟩:=Jtn e r1 r2
   exact ⟨h1,by rw [h2];exact k _ _ h λ _=>.bool _⟩
 . exact h.elim⟩
instance os_ne:OS rNe (fEq true):=⟨λ {H x y dx dy Q P} r1 r2 h k=>by
 unfold fEq at h
 split at h
 . rename_i c e
   obtain ⟨h1,h2⟩:=Jtn e r1 r2
   exact ⟨h1,by rw [h2];exact k _ _ h λ _=>.bool _⟩
 . exact h.elim⟩
def J2y (x y:Yao):Prop:=x.canLay0=true/\y.canLay0=true/\min x.depth y.depth<=50
def Jv9 (neg:Bool):G2:=λ x y Q=>J2y x y/\Q (.bool (if neg then !J3p x y else J3p x y))
instance os_eqD:OS J1c (Jv9 false):=⟨λ {H x y dx dy Q P} r1 r2 h k=>⟨[],dx,dy,r1,r2,h.1.1,h.1.2.1,h.1.2.2,k _ _ h.2 λ _=>.bool _⟩⟩
noncomputable def B6:Yao->Bool
 | .none=>true
 | _=>false
abbrev J1n (neg:Bool):G2:=λ x y Q=>B6 y=true/\Q (.bool (if neg then !B6 x else B6 x))
theorem Jjs {ex:List Addr}{H:Hp}{d:Yao}{v:V}(r:Rep ex H d v):decide (v = .non)=B6 d:=by
 cases r<;>simp [B6]
theorem Jmi {ex:List Addr}{H:Hp}{d:Yao}{v:V}(r:Rep ex H d v) (h:B6 d=true):v = .non:=by
 cases r<;>simp [B6] at h<;>rfl
instance os_isN:OS (λ x y H Q=>y = .non/\Q (.bl (decide (x = .non))) H) (J1n false):=⟨λ {H x y dx dy Q P} r1 r2 h k=>⟨Jmi r2 h.1,by rw [Jjs r1];exact k _ _ h.2 λ _=>.bool _⟩⟩
instance os_notN:OS (λ x y H Q=>y = .non/\Q (.bl (!decide (x = .non))) H) (J1n true):=⟨λ {H x y dx dy Q P} r1 r2 h k=>⟨Jmi r2 h.1,by rw [Jjs r1];exact k _ _ h.2 λ _=>.bool _⟩⟩
noncomputable def inD (x:Yao) (xs:List Yao):Bool:=xs.any λ y=>J3p y x
def fIn (neg:Bool):G2:=λ x y Q=>match y with
 | .list xs=>Vw x=true/\xs.all Vw=true/\Q (.bool (if neg then !inD x xs else inD x xs))
 | .tuple xs=>Vw x=true/\xs.all Vw=true/\Q (.bool (if neg then !inD x xs else inD x xs))
 | _=>False
theorem Jkj {ex:List Addr}{H:Hp}{d:Yao}{v:V}(r:Rep ex H d v) (h:Vw d=true):Jc3 v=true:=by
 cases r<;>first | rfl | cases h
theorem Jhk {ex:List Addr}{H:Hp}:∀ {ds:List Yao}{vs:List V},Reps ex H ds vs->ds.all Vw=true->vs.all Jc3=true
 | _,_,.nil,_=>rfl
 | _,_,.cons r t,h=>by
  simp only [J4j,Xx] at h ⊢
  exact ⟨Jkj r h.1,Jhk t h.2⟩
theorem Jzy {ex:List Addr}{H:Hp}{d e:Yao}{v w:V}(r:Rep ex H d v) (s:Rep ex H e w) (h:Vw d=true) (g:Vw e=true):eqV v w=J3p d e:=by
 cases r<;>cases s<;>first | rfl | (cases h;done) | (cases g;done) | simp [eqV,J3p]
theorem Jto {ex:List Addr}{H:Hp}{d:Yao}{v:V}(r:Rep ex H d v) (h:Vw d=true):∀ {ds:List Yao}{vs:List V},Reps ex H ds vs->ds.all Vw=true->inV v vs=inD d ds
 | _,_,.nil,_=>rfl
 | _,_,.cons s t,g=>by
  simp only [J4j,Xx] at g
  have:=Jto r h t g.2
  unfold inV inD at this ⊢
  rw [J3x,J3x,this,Jzy s r g.1 h]
instance os_in {K:Qc}{neg:Bool}:OS (rIn K neg) (fIn neg):=⟨λ {H x y dx dy Q P} r1 r2 h k=>by
 cases r2 with
 | list e _ _ rs=>exact ⟨_,_,rfl,.inl (SqL.of e),Jkj r1 h.1,Jhk rs h.2.1,by rw [Jto r1 h.1 rs h.2.1];exact k _ _ h.2.2 λ _=>.bool _⟩
 | tuple e _ _ rs=>exact ⟨_,_,rfl,.inr (SqT.of e),Jkj r1 h.1,Jhk rs h.2.1,by rw [Jto r1 h.1 rs h.2.1];exact k _ _ h.2.2 λ _=>.bool _⟩
 | none=>exact h.elim
 | obj=>exact h.elim
 | bool=>exact h.elim
 | int=>exact h.elim
 | str=>exact h.elim⟩
theorem Jkk {ex:List Addr}{H:Hp}{ds:List Yao}{vs:List V}{i:Int}{d:Yao}(r:Reps ex H ds vs) (h:atI ds i=some d):∃ v,atI vs i=some v/\Rep ex H d v:=by
 unfold atI at h ⊢
 rw [<- r.length]
 cases e:ixN ds.length i with
 | none=>rw [e] at h;cases h
 | some j=>rw [e] at h;exact r.get h
abbrev Jwa:G2:=λ x y Q=>match x,y with
 | .list xs,.int i=>∃ d,atI xs i=some d/\Q d
 | _,_=>False
abbrev J1o:G2:=λ x y Q=>match x,y with
 | .tuple xs,.int i=>∃ d,atI xs i=some d/\Q d
 | _,_=>False
instance ov_ixL {K:Qc}:OV (Jl4 K) Jwa:=⟨λ {ex H x y dx dy Q P} al r1 r2 h k=>by
 unfold Jwa at h
 split at h
 . obtain ⟨d,e,p⟩:=h
   cases r2
   cases r1 with
   | list e1 _ _ rs=>
    obtain ⟨v,ev,r⟩:=Jkk rs e
    exact ⟨_,_,_,v,rfl,rfl,SqL.of e1,ev,k _ _ _ p .refl r⟩
 . exact h.elim⟩
instance ov_ixT {K:Qc}:OV (Jzm K) J1o:=⟨λ {ex H x y dx dy Q P} al r1 r2 h k=>by
 unfold J1o at h
 split at h
 . obtain ⟨d,e,p⟩:=h
   cases r2
   cases r1 with
   | tuple e1 _ _ rs=>
    obtain ⟨v,ev,r⟩:=Jkk rs e
    exact ⟨_,_,_,v,rfl,rfl,SqT.of e1,ev,k _ _ _ p .refl r⟩
 . exact h.elim⟩
abbrev J1p (i:Nat) (gb:GE):GE:=λ env n Q=>match env[i]? with
 | some (.own xs)=>gb env n λ y n1=>Jwa (.list xs) y λ d=>Q d n1
 | some (.d x)=>gb env n λ y n1=>Jwa x y λ d=>Q d n1
 | _=>False
instance (priority:=high) ev_ixO {K:Qc}{i:Nat}{tb:TE}{gb:GE} [B:EV true tb gb]:EV true (tOp (Jl4 K) (Z1 i) tb) (J1p i gb):=⟨λ {S ex env σ H n Q P} E h k=>by
 unfold J1p at h
 split at h
 . rename_i xs e
   obtain ⟨a,vs,ev,h1,h2,h3,h4,h5⟩:=E.sl i _ e
   refine ⟨_,Jm ev,B.ev E h λ y n1 v1 H1 hh s1 r1=>?_⟩
   cases r1 with
   | int j=>
    obtain ⟨d,ed,p⟩:=hh
    obtain ⟨v,ev2,r⟩:=Jkk (E.reps s1 h3) ed
    exact ⟨_,_,_,v,rfl,rfl,SqL.of (s1.1 _ _ h1 h5),ev2,k _ _ _ _ p s1 r⟩
   | none=>exact hh.elim
   | obj=>exact hh.elim
   | bool=>exact hh.elim
   | str=>exact hh.elim
   | tuple=>exact hh.elim
   | list=>exact hh.elim
 . rename_i x e
   obtain ⟨v,ev,r⟩:=E.sl i _ e
   refine ⟨v,Jm ev,B.ev E h λ y n1 v1 H1 hh s1 r1=>?_⟩
   exact (ov_ixL (K:=K)).ov (E.step s1).al (E.rep s1 r) r1 hh λ d v H' p kp r=>k _ _ _ _ p (s1.then kp) r
 . exact h.elim⟩
instance on_rep:ON J1a (λ x y Q=>match x,y with | .list xs,.int k=>(-(2^63)<=k/\k<2^63/\xs.length*k.toNat<=sizeLine)/\Q (Qo k.toNat xs).flatten | _,_=>False):=⟨λ {ex H x y dx dy Q P} r1 r2 h k=>by
 split at h
 . cases r1 with
   | list e1 _ _ rs=>
    cases r2
    have l1:=rs.length
    refine ⟨_,_,_,rfl,rfl,e1,h.1.1,h.1.2.1,by rw [<- l1];exact h.1.2.2,λ p hp=>k _ p _ h.2 hp ?_ (rs.rep _)⟩
    rw [Jd5,<- l1,J64];exact h.1.2.2
 . exact h.elim⟩
def Jyd:G2:=λ x y Q=>match x,y with
 | .tuple xs,.int k=>xs≠[]/\-(2^63)<=k/\(xs.length:Int)*k<=sizeLine/\Q (.tuple (Qo k.toNat xs).flatten)
 | _,_=>False
instance ov_repT {K:Qc}:OV (Jtb K) Jyd:=⟨λ {ex H x y dx dy Q P} al r1 r2 h k=>by
 unfold Jyd at h
 split at h
 . obtain ⟨h1,h2,h3,h4⟩:=h
   rename_i xs k0
   cases r2
   cases r1 with
   | tuple e1 n1 z1 rs=>
    have l1:=rs.length
    refine Jtd e1 (λ z=>h1 (J7m.mp (by rw [l1,z];rfl))) h2 (by rw [<- l1];exact h3) λ t H' kp ht hf=>k _ _ _ h4 kp (.tuple ht ?_ ?_ ((rs.rep _).keep kp.of))
    . rcases hf with rfl | hf
      . exact n1
      . exact al.nm hf
    . rw [Jd5,<- l1]
      rcases J4u k0 0 with hk | hk
      . rw [show k0.toNat=0 by omega];simp
      . have:((k0.toNat*xs.length:Nat):Int)<=sizeLine:=by rw [J7d,U9 hk,Xz];exact h3
        exact_mod_cast this
 . exact h.elim⟩
abbrev J1q:G1:=λ ds Q=>match ds with
 | [.list xs]=>Q (.int xs.length)
 | [.tuple xs]=>Q (.int xs.length)
 | _=>False
instance cs_len {K:Qc}:CS (λ xs H Q=>∃ p ys,xs=[.ref p]/\(SqL K H p ys\/SqT K H p ys)/\Q (.int ys.length) H) J1q:=⟨λ {H xs ds Q P} r h k=>by
 unfold J1q at h
 split at h
 . cases r with
   | cons r1 t=>
    cases t
    cases r1 with
    | list e _ _ rs=>exact ⟨_,_,rfl,.inl (SqL.of e),by rw [<- rs.length];exact k _ _ h λ _=>.int _⟩
 . cases r with
   | cons r1 t=>
    cases t
    cases r1 with
    | tuple e _ _ rs=>exact ⟨_,_,rfl,.inr (SqT.of e),by rw [<- rs.length];exact k _ _ h λ _=>.int _⟩
 . exact h.elim⟩
abbrev Jkl (ds:List Yao) (Q:List Yao->Prop):Prop:=match ds with
 | [.list xs]=>Q xs
 | [.tuple xs]=>Q xs
 | _=>False
instance cn_list {K:Qc}:CN (λ xs H Q=>∃ p ys,xs=[.ref p]/\(SqL K H p ys\/SqT K H p ys)/\∀ l,H l=none->Q (.ref l) (upd H l (.lst ys))) Jkl:=⟨λ {ex H xs ds Q P} r h k=>by
 unfold Jkl at h
 split at h
 . cases r with
   | cons r1 t=>
    cases t
    cases r1 with
    | list e _ z rs=>exact ⟨_,_,rfl,.inl (SqL.of e),λ l hl=>k _ l _ h hl z rs⟩
 . cases r with
   | cons r1 t=>
    cases t
    cases r1 with
    | tuple e _ z rs=>exact ⟨_,_,rfl,.inr (SqT.of e),λ l hl=>k _ l _ h hl z rs⟩
 . exact h.elim⟩
abbrev Jmj:G1:=λ ds Q=>match ds with
 | [.list xs]=>Q (.tuple xs)
 | [.tuple xs]=>Q (.tuple xs)
 | _=>False
instance co_tuple {K:Qc}:CO (λ xs H Q=>∃ p ys,xs=[.ref p]/\((SqL K H p ys/\∀ l,H l=none->Q (.ref l) (upd H l (.tup ys)))\/(SqT K H p ys/\Q (.ref p) H))) Jmj:=⟨λ {ex H xs ds Q P} al r h k=>by
 unfold Jmj at h
 split at h
 . cases r with
   | cons r1 t=>
    cases t
    cases r1 with
    | list e _ z rs=>exact ⟨_,_,rfl,.inl ⟨SqL.of e,λ l hl=>k _ _ _ h (Kp.new hl _) (.tuple Jg (al.nm hl) z (rs.keep (Kp.new hl _)))⟩⟩
 . cases r with
   | cons r1 t=>
    cases t
    cases r1 with
    | tuple e n z rs=>exact ⟨_,_,rfl,.inr ⟨SqT.of e,k _ _ _ h .refl (.tuple e n z rs)⟩⟩
 . exact h.elim⟩
def J1r (c:Bool):G1:=λ ds Q=>∃ ns:List Int,ds=[.list (ns.map .int)]/\c=true/\Q (.int ns.sum)
instance cs_sum {K:Qc}{c:Bool}:CS (λ xs H Q=>c=true/\∃ (p:Addr) (ns:List Int),xs=[.ref p]/\SqL K H p (ns.map V.int)/\Q (.int ns.sum) H) (J1r c):=⟨λ {H xs ds Q P} r h k=>by
 obtain ⟨ns,rfl,hc,q⟩:=h
 cases r with
 | cons r1 t=>
  cases t
  cases r1 with
  | list e _ _ rs=>
   cases rs.ints_inv
   exact ⟨hc,_,ns,rfl,SqL.of e,k _ _ q λ _=>.int _⟩⟩
instance cs_sumK {K:Qc}:CS (λ xs H Q=>∃ (p:Addr) (ns:List Int),xs=[.ref p]/\SqL K H p (ns.map V.int)/\Q (.int ns.sum) H) (J1r true):=⟨λ {H xs ds Q P} r h k=>((cs_sum (K:=K) (c:=true)).cs r h k).2⟩
theorem Reps.bools_inv {ex:List Addr}{H:Hp}:∀ {ns:List Bool}{vs:List V},Reps ex H (ns.map J5y) vs->vs=ns.map V.bl
 | [],_,.nil=>rfl
 | n::r,_,.cons (.bool _) t=>by rw [Reps.bools_inv t];rfl
def J2z (c:Bool):G1:=λ ds Q=>∃ bs:List Bool,ds=[.list (bs.map .bool)]/\c=true/\Q (.bool (bs.all id))
instance cs_all {K:Qc}{c:Bool}:CS (λ xs H Q=>c=true/\∃ (p:Addr) (bs:List Bool),xs=[.ref p]/\SqL K H p (bs.map V.bl)/\Q (.bl (bs.all id)) H) (J2z c):=⟨λ {H xs ds Q P} r h k=>by
 obtain ⟨ns,rfl,hc,q⟩:=h
 cases r with
 | cons r1 t=>
  cases t
  cases r1 with
  | list e _ _ rs=>
   cases Reps.bools_inv rs
   exact ⟨hc,_,ns,rfl,SqL.of e,k _ _ q λ _=>.bool _⟩⟩
def Jye (tup:Bool):G1:=λ ds Q=>∃ ns:List Int,ds=[if tup then .tuple (ns.map .int) else .list (ns.map .int)]/\Q (.bool (ns.any λ n=>decide (n≠0)))
instance cs_anyL {K:Qc}:CS (λ xs H Q=>∃ (p:Addr) (ns:List Int),xs=[.ref p]/\SqL K H p (ns.map V.int)/\Q (.bl (ns.any λ n=>decide (n≠0))) H) (Jye false):=⟨λ {H xs ds Q P} r h k=>by
 obtain ⟨ns,rfl,q⟩:=h
 cases r with
 | cons r1 t=>
  cases t
  cases r1 with
  | list e _ _ rs=>
   cases rs.ints_inv
   exact ⟨_,ns,rfl,SqL.of e,k _ _ q λ _=>.bool _⟩⟩
instance cs_anyT {K:Qc}:CS (λ xs H Q=>∃ (p:Addr) (ns:List Int),xs=[.ref p]/\SqT K H p (ns.map V.int)/\Q (.bl (ns.any λ n=>decide (n≠0))) H) (Jye true):=⟨λ {H xs ds Q P} r h k=>by
 obtain ⟨ns,rfl,q⟩:=h
 cases r with
 | cons r1 t=>
  cases t
  cases r1 with
  | tuple e _ _ rs=>
   cases rs.ints_inv
   exact ⟨_,ns,rfl,SqT.of e,k _ _ q λ _=>.bool _⟩⟩
def J1s (tup:Bool):G1:=λ ds Q=>∃ ns:List Int,ds=[if tup then .tuple (ns.map .int) else .list (ns.map .int)]/\ns≠[]/\∀ m∈ns,(∀ n∈ns,m<=n)->Q (.int m)
instance cs_minL {K:Qc}:CS (λ xs H Q=>∃ (p:Addr) (ns:List Int),xs=[.ref p]/\SqL K H p (ns.map V.int)/\ns≠[]/\∀ m∈ns,(∀ n∈ns,m<=n)->Q (.int m) H) (J1s false):=⟨λ {H xs ds Q P} r h k=>by
 obtain ⟨ns,rfl,hne,q⟩:=h
 cases r with
 | cons r1 t=>
  cases t
  cases r1 with
  | list e _ _ rs=>
   cases rs.ints_inv
   exact ⟨_,ns,rfl,SqL.of e,hne,λ m h1 h2=>k _ _ (q m h1 h2) λ _=>.int _⟩⟩
instance cs_minT {K:Qc}:CS (λ xs H Q=>∃ (p:Addr) (ns:List Int),xs=[.ref p]/\SqT K H p (ns.map V.int)/\ns≠[]/\∀ m∈ns,(∀ n∈ns,m<=n)->Q (.int m) H) (J1s true):=⟨λ {H xs ds Q P} r h k=>by
 obtain ⟨ns,rfl,hne,q⟩:=h
 cases r with
 | cons r1 t=>
  cases t
  cases r1 with
  | tuple e _ _ rs=>
   cases rs.ints_inv
   exact ⟨_,ns,rfl,SqT.of e,hne,λ m h1 h2=>k _ _ (q m h1 h2) λ _=>.int _⟩⟩
abbrev J1t (f:Int->Int->Int):G1:=λ ds Q=>match ds with
 | [.int i,.int j]=>Q (.int (f i j))
 | _=>False
theorem Jp9 {ex:List Addr}{H:Hp}{ds:List Yao}{xs:List V}{A:Int->Int->Prop}(h:match ds with | [.int i,.int j]=>A i j | _=>False) (r:Reps ex H ds xs):∃ i j,xs=[.int i,.int j]/\A i j:=by
 split at h
 . cases r with
   | cons r1 t=>cases t with
    | cons r2 t=>cases t;cases r1;cases r2;exact ⟨_,_,rfl,h⟩
 . exact h.elim
instance cs_max2:CS (λ xs H Q=>∃ i j,xs=[.int i,.int j]/\Q (.int (if j>i then j else i)) H) (J1t λ i j=>if j>i then j else i):=⟨λ {H xs ds Q P} r h k=>by
 obtain ⟨i,j,rfl,q⟩:=Jp9 (A:=λ i j=>P (.int (if j>i then j else i))) h r
 exact ⟨i,j,rfl,k _ _ q λ _=>.int _⟩⟩
instance cs_min2:CS (λ xs H Q=>∃ i j,xs=[.int i,.int j]/\Q (.int (if j<i then j else i)) H) (J1t λ i j=>if j<i then j else i):=⟨λ {H xs ds Q P} r h k=>by
 obtain ⟨i,j,rfl,q⟩:=Jp9 (A:=λ i j=>P (.int (if j<i then j else i))) h r
 exact ⟨i,j,rfl,k _ _ q λ _=>.int _⟩⟩
abbrev Jqa (T:String) (g:GE):GE:=λ env n Q=>g env n λ d n1=>noD d=true/\Q (.bool (Jhf d T)) n1
section
variable {b:Bool}{te:TE}{g:GE}
theorem Jkm (T:String) (hT:T = "int"\/T = "bool"\/T = "str"\/T = "tuple"\/T = "list") [A:EV false te g]:EV b (tCB (λ xs H Q=>∃ ex d x T,xs=[x,.ty T]/\Rep ex H d x/\noD d=true/\(T = "int"\/T = "bool"\/T = "str"\/T = "tuple"\/T = "list")/\Q (.bl (Jhf d T)) H) (Yj te (Yj (tC (.ty T)) Jbx))) (Jqa T g):=⟨λ {S ex env σ H n Q P} E h k=>
 A.ev E h λ d n1 v H1 h1 s1 r1=>⟨_,d,v,T,rfl,r1,h1.1,hT,k _ _ _ _ h1.2 s1 (.bool _)⟩⟩
instance (priority:=high) ev_instI [A:EV false te g]:EV b (tCB (λ xs H Q=>∃ ex d x T,xs=[x,.ty T]/\Rep ex H d x/\noD d=true/\(T = "int"\/T = "bool"\/T = "str"\/T = "tuple"\/T = "list")/\Q (.bl (Jhf d T)) H) (Yj te (Yj (tC (.ty "int")) Jbx))) (Jqa "int" g):=Jkm _ (by simp)
instance (priority:=high) ev_instB [A:EV false te g]:EV b (tCB (λ xs H Q=>∃ ex d x T,xs=[x,.ty T]/\Rep ex H d x/\noD d=true/\(T = "int"\/T = "bool"\/T = "str"\/T = "tuple"\/T = "list")/\Q (.bl (Jhf d T)) H) (Yj te (Yj (tC (.ty "bool")) Jbx))) (Jqa "bool" g):=Jkm _ (by simp)
instance (priority:=high) ev_instT [A:EV false te g]:EV b (tCB (λ xs H Q=>∃ ex d x T,xs=[x,.ty T]/\Rep ex H d x/\noD d=true/\(T = "int"\/T = "bool"\/T = "str"\/T = "tuple"\/T = "list")/\Q (.bl (Jhf d T)) H) (Yj te (Yj (tC (.ty "tuple")) Jbx))) (Jqa "tuple" g):=Jkm _ (by simp)
abbrev gLR (t:GN):GN:=λ env n Q=>t env n λ ds n1=>∃ j:Int,ds=[.int j]/\0<=j/\j<=1000000/\Q ((Qk j.toNat).map λ (i:Nat)=>.int (i:Int)) n1
theorem Jmk {ex:List Addr}{H:Hp}(f:Nat->Int):∀ l:List Nat,Reps ex H (l.map λ i=>.int (f i)) (l.map λ i=>.int (f i))
 | []=>.nil
 | _::r=>.cons (.int _) (Jmk f r)
instance nv_lr {t:TA}{gt:GN} [A:DV true t gt]:NV (tLR t) (gLR gt):=⟨λ {S ex env σ H n Q P} E h k=>
 A.dv E h λ ds n1 vs H1 h1 s1 r1=>by
  obtain ⟨j,rfl,h2,h3,q⟩:=h1
  cases r1 with
  | cons r1 t=>
   cases t
   cases r1
   have hs:sizeLine=16777216:=Yau
   refine ⟨j,rfl,h2,h3,λ l hl=>?_⟩
   obtain ⟨c1,c2,c3⟩:=B5 E s1 hl (Jmk (λ i:Nat=>(i:Int)) (Qk j.toNat))
   exact k _ _ _ _ _ q c1 c2 Jg (by show ((Qk j.toNat).map _).length<=_;rw [Qb,Qy];omega) c3⟩
class OPV (t:TO) (g:outParam (List Vl->Nat->(Option Int->Nat->Prop)->Prop)):Prop where
 op:∀ {S:Src} {ex:List Addr} {env:List Vl} {σ:L2.St} {H:Hp} {n:Nat} {Q:Option Int->Hp->Prop} {P:Option Int->Nat->Prop},Ev S ex env σ H n->g env n P->(∀ o n' H',P o n'->Yr S n' H H'->Q o H')->t σ H Q
instance op_no:OPV Jpy (λ _ n Q=>Q none n):=⟨λ E h k=>k _ _ _ h (.refl E.inv)⟩
abbrev J1u (g:GE):List Vl->Nat->(Option Int->Nat->Prop)->Prop:=λ env n Q=>g env n λ d n1=>match d with
 | .int i=>Q (some i) n1
 | _=>False
instance op_part [A:EV false te g]:OPV (Jx0 te) (J1u g):=⟨λ {S ex env σ H n Q P} E h k=>A.ev E h λ d n1 v H1 h1 s1 r1=>by
 cases r1 with
 | int i=>exact ⟨i,rfl,k _ _ _ h1 s1⟩
 | none=>exact h1.elim
 | obj=>exact h1.elim
 | bool=>exact h1.elim
 | str=>exact h1.elim
 | tuple=>exact h1.elim
 | list=>exact h1.elim⟩
theorem Jtp {ex:List Addr}{H:Hp}{ds:List Yao}{vs:List V}(r:Reps ex H ds vs) (lo hi:Option Int):Reps ex H (Ji0 ds lo hi) (Jl3 vs lo hi):=by
 unfold Ji0 Jl3
 rw [r.length]
 exact Reps.take _ (Reps.drop _ r)
abbrev Jzz (f f':G2) (ga gb gc:GE):GE:=λ env n Q=>ga env n λ x n1=>gb env n1 λ y n2=>f x y λ d=>match d with
 | .bool true=>gc env n2 λ z n3=>f' y z λ e=>Q e n3
 | .bool false=>Q (.bool false) n2
 | _=>False
instance ev_chain {r r':R2}{f f':G2}{ta tb tc:TE}{ga gb gc:GE} [O:OS r f] [O':OS r' f'] [A:EV false ta ga] [B:EV false tb gb] [C:EV false tc gc]:EV b (Jsx r r' ta tb tc) (Jzz f f' ga gb gc):=⟨λ {S ex env σ H n Q P} E h k=>by
 refine A.ev E h λ x n1 v1 H1 h1 s1 r1=>B.ev (E.step s1) h1 λ y n2 v2 H2 h2 s2 r2=>?_
 refine O.os (Rep.nil ((E.step s1).repm false s2 r1)) (Rep.nil r2) h2 λ d v p r=>?_
 cases r [] with
 | bool c=>
  refine ⟨c,rfl,?_⟩
  cases c with
  | true=>exact C.ev (E.step (s1.trans s2)) p λ z n3 v3 H3 h3 s3 r3=>O'.os (Rep.nil ((E.step (s1.trans s2)).repm false s3 r2)) (Rep.nil r3) h3 λ d v p r=>k _ _ _ _ p ((s1.trans s2).trans s3) (r _)
  | false=>exact k _ _ _ _ p (s1.trans s2) (.bool _)
 | none=>exact p.elim
 | obj=>exact p.elim
 | int=>exact p.elim
 | str=>exact p.elim
 | tuple=>exact p.elim
 | list=>exact p.elim⟩
end
def ItAt (ex:List Addr) (J:It) (items:List Yao) (H:Hp):Prop:=J.stop items.length H/\∀ (i:Nat) (d:Yao),items[i]? = some d->J.go i H/\∀ x H',J.yld i H x H'->Kp [] H H'/\Rep ex H' d x
class IV (wi:TI) (g:outParam GN):Prop where
 iv:∀ {S:Src} {ex:List Addr} {env:List Vl} {σ:L2.St} {H:Hp} {n:Nat} {R:It->Hp->Prop} {P:List Yao->Nat->Prop},Ev S ex env σ H n->g env n P ->
  (∀ items n' J (hd:List (Yao×V)) H',P items n'->Yr S n' H H'->(∀ h∈hd,Rep ex H' h.1 h.2)->(∀ ex' H2,Alc ex' H2->(∀ h∈hd,Rep ex' H2 h.1 h.2)->ItAt ex' J items H2)->R J H')->wi σ H R
class IC (wi:TI) (g:outParam GN):Prop where
 ic:∀ {S:Src} {ex:List Addr} {env:List Vl} {σ:L2.St} {H:Hp} {n:Nat} {R:It->Hp->Prop} {P:List Yao->Nat->Prop},Ev S ex env σ H n->g env n P ->
  (∀ items n' J H',P items n'->Yr S n' H H'->(∀ l H2,H' l=none->Kp (l::S.ch) H' H2->Alc (l::ex) H2->ItAt (l::ex) J items H2)->R J H')->wi σ H R
section
variable {K:Qc}{S:Src}{n m:Nat}{H H1 H2 H':Hp}{ex:List Addr}{env:List Vl}{σ:L2.St}{b:Bool}{te ta tb tc:TE}{g ga gb gc:GE}{wi:TI}{gi:GN}
theorem Jcr {l:Addr}(hc:∀ a∈S.ch,a∈ex) (k:Kp (l::S.ch) H H'):Kp (l::ex) H H':=k.mono λ b hb=>(Qf.mp hb).elim (λ e=>by rw [e];exact Qh) λ h=>Qi _ (hc b h)
instance (priority:=low) ic_iv [I:IV wi gi]:IC wi gi:=⟨λ {S ex env σ H n R P} E h k=>I.iv E h λ items n' J hd H' p s hr hit=>k _ _ _ _ p s λ l H2 hl kp al=>
 hit _ _ al λ x hx=>(Rep.add hl (hr x hx)).keep (Jcr E.ch kp)⟩
theorem Jkn {a:Addr}{vs:List V}{ds:List Yao}(ha:H a=some (.lst vs)) (r:Reps ex H ds vs):ItAt ex (Itl K a) ds H:=by
 refine ⟨⟨vs,SqL.of ha,by rw [r.length];exact Qn _⟩,λ i d e=>?_⟩
 obtain ⟨v,ev,rv⟩:=r.get e
 refine ⟨⟨vs,v,SqL.of ha,ev⟩,λ x H' y=>?_⟩
 obtain ⟨rfl,hx⟩:=y
 have:=hx vs (SqL.of ha)
 rw [ev] at this
 cases this
 exact ⟨.refl,rv⟩
theorem Jz0 {a:Addr}{vs:List V}{ds:List Yao}(ha:H a=some (.tup vs)) (r:Reps ex H ds vs):ItAt ex (Itt K a) ds H:=by
 refine ⟨⟨vs,SqT.of ha,by rw [r.length];exact Qn _⟩,λ i d e=>?_⟩
 obtain ⟨v,ev,rv⟩:=r.get e
 refine ⟨⟨vs,v,SqT.of ha,ev⟩,λ x H' y=>?_⟩
 obtain ⟨rfl,hx⟩:=y
 have:=hx vs (SqT.of ha)
 rw [ev] at this
 cases this
 exact ⟨.refl,rv⟩
noncomputable def Ji1 (lo:Int) (k:Nat):List Yao:=(Qk k).map λ (i:Nat)=>.int (lo+(i:Int))
theorem Yn (lo:Int) (k:Nat):(Ji1 lo k).length=k:=by unfold Ji1;rw [Qb,Qy]
theorem Jz1 {lo:Int}{k:Nat}:ItAt ex (Itr lo k) (Ji1 lo k) H:=by
 refine ⟨by rw [Yn];exact Qn _,λ i d e=>?_⟩
 have hi:i<k:=by
  have:=(Qq.mp e).1
  rw [Yn] at this
  exact this
 unfold Ji1 at e
 rw [Qj,Xl hi] at e
 cases e
 refine ⟨hi,λ x H' y=>?_⟩
 obtain ⟨rfl,rfl⟩:=y
 exact ⟨.refl,.int _⟩
noncomputable def Jot:Yao->Option (List Yao)
 | .list xs=>some xs
 | .tuple xs=>some xs
 | _=>none
theorem Jed {d:Yao}{v:V}{ds:List Yao}(r:Rep ex H d v) (h:Jot d=some ds):∃ (c:Bool) (a:Addr) (vs:List V),v = .ref a/\(∀ K,SqK c K H a vs)/\Reps ex H ds vs/\((c=true/\H a=some (.tup vs))\/(c=false/\H a=some (.lst vs)))/\a∉ex:=by
 cases r with
 | tuple e n z rs=>cases h;exact ⟨true,_,_,rfl,λ K=>SqT.of e,rs,.inl ⟨rfl,e⟩,n⟩
 | list e n z rs=>cases h;exact ⟨false,_,_,rfl,λ K=>SqL.of e,rs,.inr ⟨rfl,e⟩,n⟩
 | none=>cases h
 | obj=>cases h
 | bool=>cases h
 | int=>cases h
 | str=>cases h
noncomputable def Jee (ds:List Yao):List Yao:=ds.mapIdx λ i d=>.tuple [.int (i:Int),d]
theorem Ja6:(2:Nat)<=sizeLine:=by rw [Yau];decide
theorem B7:(3:Nat)<=sizeLine:=by rw [Yau];decide
theorem Jwb {c:Bool}{a:Addr}{vs:List V}{ds:List Yao}(al:Alc ex H) (ha:SqK c K H a vs) (r:Reps ex H ds vs):ItAt ex (Ite c K a) (Jee ds) H:=by
 unfold Jee
 refine ⟨⟨vs,ha,by rw [J9d,r.length]⟩,λ i d e=>?_⟩
 rw [J7r] at e
 cases hd:ds[i]? with
 | none=>rw [hd] at e;cases e
 | some d0=>
  rw [hd] at e
  cases e
  obtain ⟨v,ev,rv⟩:=r.get hd
  refine ⟨⟨vs,v,ha,ev⟩,λ x H' y=>?_⟩
  obtain ⟨p,y,hp,rfl,rfl,hy⟩:=y
  have:=hy vs ha
  rw [ev] at this
  cases this
  exact ⟨Kp.new hp _,.tuple Jg (al.nm hp) Ja6 (.cons (.int _) (.cons (rv.keep (Kp.new hp _)) .nil))⟩
noncomputable def W9 (ds es:List Yao):List Yao:=J4o (λ x y=>.tuple [x,y]) ds es
theorem Jou {c c':Bool}{a a':Addr}{vs vs':List V}{ds es:List Yao}(al:Alc ex H) (ha:SqK c K H a vs) (r:Reps ex H ds vs) (ha':SqK c' K H a' vs') (r':Reps ex H es vs'):ItAt ex (Itz c c' K a a') (W9 ds es) H:=by
 unfold W9
 refine ⟨⟨vs,vs',ha,ha',by rw [J5z,r.length,r'.length]⟩,λ i d e=>?_⟩
 rw [Uf] at e
 cases hd:ds[i]? with
 | none=>rw [hd] at e;cases e
 | some d0=>
  cases he:es[i]? with
  | none=>rw [hd,he] at e;cases e
  | some e0=>
   rw [hd,he] at e
   cases e
   obtain ⟨v,ev,rv⟩:=r.get hd
   obtain ⟨v',ev',rv'⟩:=r'.get he
   refine ⟨⟨vs,vs',v,v',ha,ha',ev,ev'⟩,λ x H' y=>?_⟩
   obtain ⟨p,y,y',hp,rfl,rfl,hy,hy'⟩:=y
   have:=hy vs ha
   rw [ev] at this
   cases this
   have:=hy' vs' ha'
   rw [ev'] at this
   cases this
   exact ⟨Kp.new hp _,.tuple Jg (al.nm hp) Ja6 (.cons (rv.keep (Kp.new hp _)) (.cons (rv'.keep (Kp.new hp _)) .nil))⟩
abbrev Jyf (f:Yao->Option (List Yao)) (g:GE):GN:=λ env n Q=>g env n λ d n1=>match f d with
 | some ds=>Q ds n1
 | none=>False
noncomputable def J20:Yao->Option (List Yao)
 | .list xs=>some xs
 | _=>none
noncomputable def J1v:Yao->Option (List Yao)
 | .tuple xs=>some xs
 | _=>none
instance iv_list [A:EV true te g]:IV (Jpt K te) (Jyf J20 g):=⟨λ {S ex env σ H n R P} E h k=>A.ev E h λ d n1 v H1 h1 s1 r1=>by
 cases r1 with
 | list e m z rs=>
  refine ⟨_,rfl,⟨_,SqL.of e⟩,k _ _ _ [(Ua _,V.ref _)] _ h1 s1 (λ h hh=>by rw [Qt.mp hh];exact .list e m z rs) λ ex' H2 al hr=>?_⟩
  have:=hr _ (Qt.mpr rfl)
  cases this with
  | list e m z rs=>exact Jkn e rs
 | none=>exact h1.elim
 | obj=>exact h1.elim
 | bool=>exact h1.elim
 | str=>exact h1.elim
 | int=>exact h1.elim
 | tuple=>exact h1.elim⟩
instance iv_tup [A:EV true te g]:IV (J05 K te) (Jyf J1v g):=⟨λ {S ex env σ H n R P} E h k=>A.ev E h λ d n1 v H1 h1 s1 r1=>by
 cases r1 with
 | tuple e m z rs=>
  refine ⟨_,rfl,⟨_,SqT.of e⟩,k _ _ _ [(Ub _,V.ref _)] _ h1 s1 (λ h hh=>by rw [Qt.mp hh];exact .tuple e m z rs) λ ex' H2 al hr=>?_⟩
  have:=hr _ (Qt.mpr rfl)
  cases this with
  | tuple e m z rs=>exact Jz0 e rs
 | none=>exact h1.elim
 | obj=>exact h1.elim
 | bool=>exact h1.elim
 | str=>exact h1.elim
 | int=>exact h1.elim
 | list=>exact h1.elim⟩
abbrev Jtq (i:Nat):GN:=λ env n Q=>match env[i]? with
 | some (.own xs)=>Q xs n
 | some (.d (.list xs))=>Q xs n
 | _=>False
instance (priority:=high) ic_own {i:Nat}:IC (Jpt K (Z1 i)) (Jtq i):=⟨λ {S ex env σ H n R P} E h k=>by
 unfold Jtq at h
 split at h
 . rename_i xs e
   obtain ⟨a,vs,ev,h1,h2,h3,h4,h5⟩:=E.sl i _ e
   refine ⟨_,Jm ev,_,rfl,⟨_,SqL.of h1⟩,k _ _ _ _ h (.refl E.inv) λ l H2 hl kp al=>?_⟩
   have na:a≠l:=Jp h1 hl
   exact Jkn (kp _ _ h1 λ z=>(Qf.mp z).elim na h5) ((Reps.add hl h3).keep (Jcr E.ch kp))
 . rename_i xs e
   obtain ⟨v,ev,r⟩:=E.sl i _ e
   cases r with
   | list e1 m z rs=>
    refine ⟨_,Jm ev,_,rfl,⟨_,SqL.of e1⟩,k _ _ _ _ h (.refl E.inv) λ l H2 hl kp al=>?_⟩
    have:=(Rep.add hl (.list e1 m z rs)).keep (Jcr E.ch kp)
    cases this with
    | list e m z rs=>exact Jkn e rs
 . exact h.elim⟩
abbrev J1w (t:GN):GN:=λ env n Q=>t env n λ ds n1=>∃ j:Int,ds=[.int j]/\(-(2^62)<=j/\j<2^62)/\Q (Ji1 0 j.toNat) n1
instance iv_rng1 {t:TA}{gt:GN} [A:DV false t gt]:IV (Jxv t) (J1w gt):=⟨λ {S ex env σ H n R P} E h k=>A.dv E h λ ds n1 vs H1 h1 s1 r1=>by
 obtain ⟨j,rfl,h2,q⟩:=h1
 cases r1 with
 | cons r1 t=>
  cases t
  cases r1
  exact ⟨j,rfl,h2.1,h2.2,k _ _ _ [] _ q s1 (λ h hh=>by cases hh) λ ex' H2 al _=>Jz1⟩⟩
abbrev J1x (t:GN):GN:=λ env n Q=>t env n λ ds n1=>∃ d xs,ds=[d]/\Jot d=some xs/\Q (Jee xs) n1
abbrev J21 (t:GN):GN:=λ env n Q=>t env n λ ds n1=>∃ d e xs ys,ds=[d,e]/\Jot d=some xs/\Jot e=some ys/\Q (W9 xs ys) n1
theorem Jb8 {d:Yao}{ds:List Yao}{c:Bool}{a:Addr}{vs:List V}(hs:Jot d=some ds) (hc:(c=true/\H a=some (.tup vs))\/(c=false/\H a=some (.lst vs))) (r:Rep ex H d (.ref a)) (ex':List Addr) (H2:Hp) (r2:Rep ex' H2 d (.ref a)):∃ vs',(∀ K,SqK c K H2 a vs')/\Reps ex' H2 ds vs':=by
 cases r2 with
 | obj=>cases hs
 | tuple e n z rs=>
  cases hs
  refine ⟨_,λ K=>?_,rs⟩
  rcases hc with ⟨rfl,_⟩ | ⟨_,h⟩
  . exact SqT.of e
  . cases r with | tuple e' _ _ _=>rw [h] at e';cases e'
 | list e n z rs=>
  cases hs
  refine ⟨_,λ K=>?_,rs⟩
  rcases hc with ⟨_,h⟩ | ⟨rfl,_⟩
  . cases r with | list e' _ _ _=>rw [h] at e';cases e'
  . exact SqL.of e
instance iv_enum {t:TA}{gt:GN} [A:DV true t gt]:IV (Jx7 K t) (J1x gt):=⟨λ {S ex env σ H n R P} E h k=>A.dv E h λ ds n1 vs H1 h1 s1 r1=>by
 obtain ⟨d,xs,rfl,hs,q⟩:=h1
 cases r1 with
 | cons r1 t=>
  cases t
  obtain ⟨c,a,ws,rfl,hq,rs,hc,na⟩:=Jed r1 hs
  refine ⟨c,a,ws,rfl,hq K,k _ _ _ [(d,V.ref a)] _ q s1 (λ h hh=>by rw [Qt.mp hh];exact r1) λ ex' H2 al hr=>?_⟩
  obtain ⟨vs',h3,h4⟩:=Jb8 hs hc r1 ex' H2 (hr _ (Qt.mpr rfl))
  exact Jwb al (h3 K) h4⟩
instance iv_zip {t:TA}{gt:GN} [A:DV true t gt]:IV (Joo K t) (J21 gt):=⟨λ {S ex env σ H n R P} E h k=>A.dv E h λ ds n1 vs H1 h1 s1 r1=>by
 obtain ⟨d,e,xs,ys,rfl,hs,hs',q⟩:=h1
 cases r1 with
 | cons r1 t=>
  cases t with
  | cons r2 t=>
   cases t
   obtain ⟨c,a,ws,rfl,hq,rs,hc,na⟩:=Jed r1 hs
   obtain ⟨c',a',ws',rfl,hq',rs',hc',na'⟩:=Jed r2 hs'
   refine ⟨c,c',a,a',ws,ws',rfl,hq K,hq' K,k _ _ _ [(d,V.ref a),(e,V.ref a')] _ q s1 (λ h hh=>?_) λ ex' H2 al hr=>?_⟩
   . rcases Qf.mp hh with e | hh
     . rw [e];exact r1
     . rw [Qt.mp hh];exact r2
   obtain ⟨v1,h3,h4⟩:=Jb8 hs hc r1 ex' H2 (hr _ Qh)
   obtain ⟨v2,h5,h6⟩:=Jb8 hs' hc' r2 ex' H2 (hr _ (Qi _ (Qt.mpr rfl)))
   exact Jou al (h3 K) h4 (h5 K) h6⟩
end
noncomputable def Jl (env:List Vl) (σ:L2.St) (i:Nat):List Addr:=match env[i]?,(σ[i]?).join with
 | some (.own _),some (.ref a)=>[a]
 | some (.dct _),some (.ref a)=>[a]
 | some (.own2 _ ps),some (.ref a)=>a::ps.map (·.1)
 | _,_=>[]
abbrev GG:=Yao->List Vl->(List Vl->Prop)->Prop
abbrev GGs:=List Yao->List Vl->(List Vl->Prop)->Prop
class GV (g:TG) (bd:outParam GG) (ks:outParam (List Nat)):Prop where
 gv:∀ {S:Src} {ex:List Addr} {env:List Vl} {σ:L2.St} {H:Hp} {n:Nat} {d:Yao} {v:V} {Q:L2.St->Hp->Prop} {P:List Vl->Prop},Ev S ex env σ H n->Rep ex H d v->bd d env P ->
  (∀ env' σ',P env'->Ev S ex env' σ' H n->(∀ i a,a∈Jl env' σ' i->a∈Jl env σ i)->(∀ i:Nat,i∉ks->σ'[i]? = σ[i]?)->σ'.length = σ.length->Q σ' H)->g v σ H Q
class GVs (g:TGs) (bd:outParam GGs) (ks:outParam (List Nat)):Prop where
 gvs:∀ {S:Src} {ex:List Addr} {env:List Vl} {σ:L2.St} {H:Hp} {n:Nat} {d:List Yao} {v:List V} {Q:L2.St->Hp->Prop} {P:List Vl->Prop},Ev S ex env σ H n->Reps ex H d v->bd d env P ->
  (∀ env' σ',P env'->Ev S ex env' σ' H n->(∀ i a,a∈Jl env' σ' i->a∈Jl env σ i)->(∀ i:Nat,i∉ks->σ'[i]? = σ[i]?)->σ'.length = σ.length->Q σ' H)->g v σ H Q
abbrev J1y (i:Nat):GG:=λ d env P=>P (env.set i (.d d))
theorem Ev.put {S:Src}{ex:List Addr}{env:List Vl}{σ:L2.St}{H:Hp}{n i:Nat}{w:Vl}{v:V}(E:Ev S ex env σ H n) (h:SlR S ex H w (some v)):Ev S ex (env.set i w) (σ.set i (some v)) H n:=by
 refine ⟨by rw [Qr,Qr];exact E.len,λ j u e=>?_,E.ch,E.al,E.inv⟩
 by_cases hj:i=j
 . subst hj
   have hl:i<env.length:=by
    have:=(Qq.mp e).1
    rw [Qr] at this;exact this
   rw [Q3 hl] at e
   cases e
   rw [Q3 (Qz hl E.len)]
   exact h
 . rw [Q4 hj] at e ⊢
   exact E.sl j u e
theorem Jgn {env:List Vl}{σ:L2.St}{i:Nat}{d:Yao}{v:V}:∀ j a,a∈Jl (env.set i (.d d)) (σ.set i (some v)) j->a∈Jl env σ j:=λ j a h=>by
 unfold Jl at h ⊢
 by_cases hj:i=j
 . subst hj
   by_cases hl:i<env.length
   . rw [Q3 hl] at h
     cases h
   . rw [Qx (by rw [Qr];omega)] at h
     cases h
 . rw [Q4 hj,Q4 hj] at h
   exact h
instance gv_name {i:Nat}:GV (Bt i) (J1y i) [i]:=⟨λ {S ex env σ H n d v Q P} E r h k=>k _ _ h (E.put ⟨v,rfl,r⟩) Jgn (λ j hj=>Q4 (λ z=>hj (by rw [z];exact Qt.mpr rfl))) Qr⟩
abbrev J22:GGs:=λ ds env P=>ds=[]/\P env
abbrev J1z (t:GG) (u:GGs):GGs:=λ ds env P=>match ds with
 | d::r=>t d env λ env1=>u r env1 P
 | []=>False
instance gvs_nil:GVs L2.gNil J22 []:=⟨λ {S ex env σ H n d v Q P} E r h k=>by
 obtain ⟨rfl,h⟩:=h
 cases r
 exact ⟨rfl,k _ _ h E (λ _ _ h=>h) (λ _ _=>rfl) rfl⟩⟩
instance gvs_cons {t:TG}{u:TGs}{bt:GG}{bu:GGs}{k1 k2:List Nat} [A:GV t bt k1] [B:GVs u bu k2]:GVs (L2.gCons t u) (J1z bt bu) (k1++k2):=⟨λ {S ex env σ H n d v Q P} E r h k=>by
 cases r with
 | nil=>exact h.elim
 | cons r1 t=>
  refine ⟨_,_,rfl,A.gv E r1 h λ env1 σ1 h1 E1 o1 f1 z1=>B.gvs E1 t h1 λ env2 σ2 h2 E2 o2 f2 z2=>k _ _ h2 E2 (λ i a ha=>o1 i a (o2 i a ha)) (λ i hi=>?_) (z2.trans z1)⟩
  rw [f2 i λ z=>hi (Xi _ z),f1 i λ z=>hi (Xn _ z)]⟩
abbrev J23 (k:Nat) (bs:GGs):GG:=λ d env P=>match d with
 | .tuple ds=>ds.length=k/\bs ds env P
 | _=>False
abbrev J24 (k:Nat) (bs:GGs):GG:=λ d env P=>match d with
 | .list ds=>ds.length=k/\bs ds env P
 | _=>False
instance gv_tup {K:Qc}{k:Nat}{t:TGs}{bs:GGs}{ks:List Nat} [A:GVs t bs ks]:GV (Jsp K k t) (J23 k bs) ks:=⟨λ {S ex env σ H n d v Q P} E r h k=>by
 cases r with
 | tuple e m z rs=>exact ⟨_,_,rfl,SqT.of e,by rw [<- rs.length];exact h.1,A.gvs E rs h.2 k⟩
 | none=>exact h.elim
 | obj=>exact h.elim
 | bool=>exact h.elim
 | str=>exact h.elim
 | int=>exact h.elim
 | list=>exact h.elim⟩
instance gv_lst {K:Qc}{k:Nat}{t:TGs}{bs:GGs}{ks:List Nat} [A:GVs t bs ks]:GV (Jth K k t) (J24 k bs) ks:=⟨λ {S ex env σ H n d v Q P} E r h k=>by
 cases r with
 | list e m z rs=>exact ⟨_,_,rfl,SqL.of e,by rw [<- rs.length];exact h.1,A.gvs E rs h.2 k⟩
 | none=>exact h.elim
 | obj=>exact h.elim
 | bool=>exact h.elim
 | str=>exact h.elim
 | int=>exact h.elim
 | tuple=>exact h.elim⟩
def Jgd (f:Yao->Nat->(Option Yao->Nat->Prop)->Prop):List Yao->Nat->(List Yao->Nat->Prop)->Prop
 | [],n,Q=>Q [] n
 | x::xs,n,Q=>f x n λ o n1=>Jgd f xs n1 λ ys n2=>Q (o.toList++ys) n2
noncomputable def Jde (k:Nat) (idx:List Nat) (env:List Vl):List Vl:=Qo k .jnk++idx.map λ i=>(env[i]?).getD .jnk
abbrev Jyg (bd:GG) (gt:GT) (ge:GE) (env:List Vl):Yao->Nat->(Option Yao->Nat->Prop)->Prop:=λ x n Q=>bd x env λ env'=>gt env' n λ c n1=>if c=true then ge env' n1 λ y n2=>Q (some y) n2 else Q none n1
abbrev J10 (gi:GN) (k:Nat) (idx:List Nat) (ks:List Nat) (bd:GG) (gt:GT) (ge:GE):GN:=λ env n Q=>gi env n λ items n1=>(ks.all (λ i=>decide (i<k))=true/\items.length<=sizeLine)/\Jgd (Jyg bd gt ge (Jde k idx env)) items n1 Q
theorem SlR.add {S:Src}{ex:List Addr}{H:Hp}{l:Addr}{w:Vl}{o:Option V}(hl:H l=none) (h:SlR S ex H w o):SlR S (l::ex) H w o:=by
 cases w with
 | jnk=>trivial
 | jar=>exact h
 | tape=>exact h
 | d x=>obtain ⟨v,e,r⟩:=h;exact ⟨v,e,Rep.add hl r⟩
 | pin v x=>obtain ⟨e,r⟩:=h;exact ⟨e,Rep.add hl r⟩
 | own xs=>obtain ⟨a,vs,e,h1,h2,h3,h4,h5⟩:=h;exact ⟨a,vs,e,h1,h2,Reps.add hl h3,Qi _ h4,h5⟩
 | dct kvs=>obtain ⟨a,kws,e,h1,⟨h2,h3⟩,h4,h5⟩:=h;exact ⟨a,kws,e,h1,⟨h2,Reps.add hl h3⟩,Qi _ h4,h5⟩
 | own2 ks ps=>obtain ⟨a,e,q⟩:=h;exact ⟨a,e,q.h,q.z,q.k,q.nd,Qi _ q.m,q.c,λ p hp=>let w:=q.i p hp;⟨Qi _ w.m,w.c,let ⟨vs,h1,h2,h3⟩:=w.h;⟨vs,h1,h2,Reps.add hl h3⟩⟩⟩
theorem SlR.upd {S:Src}{ex:List Addr}{H:Hp}{l:Addr}{w:Vl}{o:Option V}{u:HO}(hl:l∈ex) (hn:∀ b∈Jl [w] [o] 0,b≠l) (h:SlR S ex H w o):SlR S ex (upd H l u) w o:=by
 cases w with
 | jnk=>trivial
 | jar=>exact h
 | tape=>exact h
 | d x=>obtain ⟨v,e,r⟩:=h;exact ⟨v,e,r.keep (Kp.at hl _)⟩
 | pin v x=>obtain ⟨e,r⟩:=h;exact ⟨e,r.keep (Kp.at hl _)⟩
 | own xs=>obtain ⟨a,vs,e,h1,h2,h3,h4,h5⟩:=h;subst e;exact ⟨a,vs,rfl,by rw [Jf (hn a Qh)];exact h1,h2,h3.keep (Kp.at hl _),h4,h5⟩
 | dct kvs=>obtain ⟨a,kws,e,h1,⟨h2,h3⟩,h4,h5⟩:=h;subst e;exact ⟨a,kws,rfl,by rw [Jf (hn a Qh)];exact h1,⟨h2,h3.keep (Kp.at hl _)⟩,h4,h5⟩
 | own2 ks ps=>obtain ⟨a,e,q⟩:=h;subst e;exact ⟨a,rfl,by rw [Jf (hn a Qh)];exact q.h,q.z,q.k,q.nd,q.m,q.c,λ p hp=>let w:=q.i p hp;⟨w.m,w.c,let ⟨vs,h1,h2,h3⟩:=w.h;⟨vs,by rw [Jf (hn p.1 (Qi _ (Qm.mpr ⟨p,hp,rfl⟩)))];exact h1,h2,h3.keep (Kp.at hl _)⟩⟩⟩
theorem Jhl {S:Src}{ex:List Addr}{env:List Vl}{σ:L2.St}{H:Hp}{n:Nat}(E:Ev S ex env σ H n) (k:Nat) (idx:List Nat):Ev S ex (Jde k idx env) (Yl k idx σ) H n:=by
 refine ⟨by unfold Jde Yl;simp,λ i w e=>?_,E.ch,E.al,E.inv⟩
 unfold Jde at e
 by_cases hi:i<k
 . rw [Uv (by simpa using hi),U4,if_pos hi] at e
   cases e
   trivial
 . rw [J3n (by simpa using J39 hi),Qj] at e
   rw [X5] at e
   cases hj:idx[i-k]? with
   | none=>rw [hj] at e;cases e
   | some j=>
    rw [hj] at e
    cases e
    have e2:(Yl k idx σ)[i]? = some ((σ[j]?).join):=by
     unfold Yl
     rw [J3n (by simpa using J39 hi),X5,Qj,hj];rfl
    rw [e2]
    show SlR S ex H ((env[j]?).getD .jnk) (σ[j]?).join
    cases hw:env[j]? with
    | none=>exact trivial
    | some w=>exact E.sl j w hw
theorem Jwc {S:Src}{ex:List Addr}{je:List Vl}{σ0 σ':L2.St}{H1 H2:Hp}{n1 n2 k:Nat}{l:Addr}(E:Ev S ex je σ0 H1 n1) (hl:H1 l=none) (kp:Kp (l::S.ch) H1 H2) (h2:H2 l≠none) (iv:S.inv n2 H2) (hj:∀ j:Nat,j<k->je[j]? = none\/je[j]? = some .jnk) (hs:∀ j:Nat,k<=j->σ'[j]? = σ0[j]?) (hz:σ'.length = σ0.length):Ev S (l::ex) je σ' H2 n2:=by
 have hc:∀ a∈S.ch,a∈l::ex:=λ a h=>Qi _ (E.ch a h)
 have kx:Kp (l::ex) H1 H2:=Jcr E.ch kp
 refine ⟨by rw [hz];exact E.len,λ j w e=>?_,hc,λ a ha=>?_,iv⟩
 . by_cases hjk:j<k
   . rcases hj j hjk with h | h
     . rw [h] at e;cases e
     . rw [h] at e;cases e;trivial
   . rw [hs j (J39 hjk)]
     have h:=SlR.add hl (E.sl j w e)
     cases w with
     | jnk=>trivial
     | jar=>exact h
     | tape=>exact h
     | d x=>obtain ⟨v,e,r⟩:=h;exact ⟨v,e,r.keep kx⟩
     | pin v x=>obtain ⟨e,r⟩:=h;exact ⟨e,r.keep kx⟩
     | own xs=>obtain ⟨a,vs,e,h1,h2,h3,h4,h5⟩:=h;exact ⟨a,vs,e,kp _ _ h1 λ z=>(Qf.mp z).elim (Jp h1 hl) h5,h2,h3.keep kx,h4,h5⟩
     | dct kvs=>obtain ⟨a,kws,e,h1,⟨h2,h3⟩,h4,h5⟩:=h;exact ⟨a,kws,e,kp _ _ h1 λ z=>(Qf.mp z).elim (Jp h1 hl) h5,⟨h2,h3.keep kx⟩,h4,h5⟩
     | own2 ks ps=>obtain ⟨a,e,q⟩:=h;exact ⟨a,e,kp _ _ q.h λ z=>(Qf.mp z).elim (Jp q.h hl) q.c,q.z,q.k,q.nd,q.m,q.c,λ p hp=>let w:=q.i p hp;⟨w.m,w.c,let ⟨vs,h1,h2,h3⟩:=w.h;⟨vs,kp _ _ h1 λ z=>(Qf.mp z).elim (Jp h1 hl) w.c,h2,h3.keep kx⟩⟩⟩
 . rcases Qf.mp ha with rfl | ha
   . exact h2
   . by_cases hac:a∈S.ch
     . exact S.dom iv a hac
     . intro z
       cases e:H1 a with
       | none=>exact E.al a ha e
       | some o=>
        rw [kp a o e λ q=>(Qf.mp q).elim (Jp e hl) hac] at z
        cases z
theorem Jhm {k:Nat}{idx:List Nat}{env:List Vl}(j:Nat) (h:j<k):(Jde k idx env)[j]? = none\/(Jde k idx env)[j]? = some .jnk:=by
 right
 unfold Jde
 rw [Uv (by simpa using h),U4,if_pos h]
instance nv_comp {wi:TI}{gi:GN}{k:Nat}{idx ks:List Nat}{g:TG}{bd:GG}{tt:TT}{gt:GT}{te:TE}{ge:GE} [I:IC wi gi] [G:GV g bd ks] [T:TV tt gt] [A:EV true te ge]:NV (B1 wi k idx g tt te) (J10 gi k idx ks bd gt ge):=⟨λ {S ex env σ H n Q P} E h kk=>by
 refine I.ic E h λ items n1 J H1 hc s1 hit l hl=>?_
 obtain ⟨⟨hk,hz⟩,hc⟩:=hc
 have E1:=Jhl (E.step s1) k idx
 have lch:l∉S.ch:=λ z=>S.dom s1.2 l z hl
 have hkk:∀ i∈ks,i<k:=λ i hi=>of_decide_eq_true (X6.mp hk i hi)
 refine ⟨λ i m σ' H2=>i<=items.length/\m=items.length-i/\∃ (n2:Nat) (ds:List Yao) (vs:List V),Jgd (Jyg bd gt ge (Jde k idx env)) (items.drop i) n2 (λ ys n'=>P (ds++ys) n')/\Kp (l::S.ch) H1 H2/\H2 l=some (.lst vs)/\vs.length<=i/\Reps (l::ex) H2 ds vs/\S.inv n2 H2/\(∀ j:Nat,k<=j->σ'[j]? = (Yl k idx σ)[j]?)/\σ'.length=(Yl k idx σ).length,
  ⟨items.length,Xo _,rfl,n1,[],[],by simpa using hc,Kp.new hl _,Jg,Qn _,.nil,S.keep s1.2 λ b _ o' e=>Kp.new (ex:=[]) hl _ _ _ e (by simp),λ _ _=>rfl,rfl⟩,?_⟩
 rintro i m σ' H2 ⟨hi,rfl,n2,ds,vs,hcm,kp,h2l,hvl,rs,iv2,hsl,hln⟩
 have E2:Ev S (l::ex) (Jde k idx env) σ' H2 n2:=Jwc E1 hl kp (by rw [h2l];intro z;cases z) iv2 Jhm hsl hln
 have IT:=hit l H2 hl kp E2.al
 rcases Xy i items.length with hlt | hge
 . refine .inr ⟨(IT.2 i items[i] (Qd hlt)).1,λ x H3 y=>?_⟩
   obtain ⟨kp3,rx⟩:=(IT.2 i items[i] (Qd hlt)).2 x H3 y
   rw [J7s hlt] at hcm
   have st3:Yr S n2 H2 H3:=Yr.new E2.inv kp3
   have E3:=E2.step st3
   refine G.gv E3 rx hcm λ env' σ2 ht E4 _ hs hl2=>T.tv E4 ht λ c n4 H4 h4 s4=>?_
   have hs2:∀ j:Nat,k<=j->σ2[j]? = (Yl k idx σ)[j]?:=λ j hj=>by
    rw [hs j λ z=>by have:=hkk j z;omega];exact hsl j hj
   cases c with
   | true=>
    refine A.ev (E4.step s4) h4 λ d n5 v H5 h5 s5 r5=>?_
    have s25:=st3.trans (s4.trans s5)
    have k5:Kp S.ch H2 H5:=s25.1
    have h5l:H5 l=some (.lst vs):=k5 _ _ h2l lch
    refine ⟨vs,h5l,by omega,_,(?_:items.length-(i+1)<_),hlt,rfl,n5,ds++[d],vs++[v],?_,?_,Jg,?_,?_,?_,hs2,hl2.trans hln⟩
    . omega
    . simpa using h5
    . exact (kp.trans (k5.mono λ b hb=>Qi _ hb)).trans (Kp.at Qh _)
    . rw [Xj,Uw];omega
    . have q1:Reps (l::ex) H5 ds vs:=rs.keep (k5.mono E2.ch)
      exact (Reps.append q1 (.cons r5 .nil)).keep (Kp.at Qh _)
    . exact S.keep s25.2 λ b hb o e=>by rw [Jf (λ z=>lch (by rw [<- z];exact hb))];exact e
   | false=>
    have s24:=st3.trans s4
    refine ⟨_,(?_:items.length-(i+1)<_),hlt,rfl,n4,ds,vs,by simpa using h4,kp.trans (s24.1.mono λ b hb=>Qi _ hb),s24.1 _ _ h2l lch,by omega,rs.keep (s24.1.mono E2.ch),s24.2,hs2,hl2.trans hln⟩
    omega
 . have e:i=items.length:=by omega
   subst e
   rw [J7t] at hcm
   refine .inl ⟨IT.1,kk _ _ _ _ _ (by simpa [Jgd] using hcm) ⟨λ b o e nb=>kp b o (s1.1 b o e nb) λ z=>(Qf.mp z).elim (λ e2=>by rw [e2,s1.free hl] at e;cases e) nb,iv2⟩ (s1.free hl) h2l (Xm hvl hz) rs⟩⟩
structure VEnds where
 nx:List Vl->Nat->Prop
 rt:Yao->Nat->Prop
 rtn:List Yao->Nat->Prop
 bk:List Vl->Nat->Prop:=λ _ _=>False
 ct:List Vl->Nat->Prop:=λ _ _=>False
 xc:XK->Addr->Nat->Prop:=λ _ _ _=>False
 rt2:List (List Yao)->Nat->Prop:=λ _ _=>False
abbrev GS:=VEnds->List Vl->Nat->Prop
structure Cv where
 S:Src
 ex0:List Addr
 H0:Hp
 held:List (Yao×V)
structure At (C:Cv) (ex:List Addr) (env:List Vl) (σ:L2.St) (H:Hp) (n:Nat):Prop where
 ev:Ev C.S ex env σ H n
 ex0:∀ a∈C.ex0,a∈ex
 al0:Alc C.ex0 C.H0
 sep:∀ i j a,a∈Jl env σ i->a∈Jl env σ j->i=j
 new:∀ i a,a∈Jl env σ i->C.H0 a=none
 kp:Kp C.S.ch C.H0 H
 held:∀ h∈C.held,Rep ex H h.1 h.2
structure Ret (C:Cv) (d:Yao) (n:Nat) (v:V) (H:Hp):Prop where
 kp:Kp C.S.ch C.H0 H
 inv:C.S.inv n H
 r:Rep C.ex0 H d v
structure RetN (C:Cv) (ds:List Yao) (n:Nat) (a:Addr) (H:Hp):Prop where
 kp:Kp C.S.ch C.H0 H
 inv:C.S.inv n H
 fr:C.H0 a=none
 r:∃ vs,H a=some (.lst vs)/\vs.length<=sizeLine/\Reps (a::C.ex0) H ds vs
structure Ret2 (C:Cv) (ps:List (Addr×List Yao)) (n:Nat) (a:Addr) (H:Hp):Prop where
 kp:Kp C.S.ch C.H0 H
 inv:C.S.inv n H
 fr:C.H0 a=none
 frs:∀ p∈ps,C.H0 p.1=none
 o:Own2 C.S (a::ps.map (·.1)++C.ex0) H none ps a
structure EndsOk (C:Cv) (G:VEnds) (D:Ends):Prop where
 nx:∀ {ex env σ H n},At C ex env σ H n->G.nx env n->D.nx σ H
 bk:∀ {ex env σ H n},At C ex env σ H n->G.bk env n->D.bk σ H
 ct:∀ {ex env σ H n},At C ex env σ H n->G.ct env n->D.ct σ H
 rt:∀ {d n v H},Ret C d n v H->G.rt d n->D.rt v H
 rtn:∀ {ds n a H},RetN C ds n a H->G.rtn ds n->D.rt (.ref a) H
 xc:∀ {E c n H},Kp C.S.ch C.H0 H->C.S.inv n H->G.xc E c n->E (.ref c) none H
 r2:∀ {ps n a H},Ret2 C ps n a H->G.rt2 (ps.map (·.2)) n->D.rt (.ref a) H
class SV (ts:TS) (gs:outParam GS):Prop where
 sv:∀ {C:Cv} {G:VEnds} {D:Ends},EndsOk C G D->∀ {ex env σ H n},At C ex env σ H n->gs G env n->ts D σ H
section
variable {C:Cv}{ex:List Addr}{env:List Vl}{σ:L2.St}{H H':Hp}{n m:Nat}
theorem At.step (A:At C ex env σ H n) (s:Yr C.S m H H'):At C ex env σ H' m:=⟨A.ev.step s,A.ex0,A.al0,A.sep,A.new,A.kp.trans s.1,λ h hh=>A.ev.rep s (A.held h hh)⟩
theorem Jas {i:Nat}{a:Addr}(E:Ev C.S ex env σ H n) (h:a∈Jl env σ i):H a≠none/\a∈ex/\a∉C.S.ch:=by
 unfold Jl at h
 split at h
 . rename_i xs b e1 e2
   obtain ⟨c,vs,e,h1,h2,h3,h4,h5⟩:=E.sl i _ e1
   rw [e2] at e
   cases e
   rw [Qt.mp h]
   exact ⟨(by rw [h1];intro z;cases z),h4,h5⟩
 . rename_i xs b e1 e2
   obtain ⟨c,vs,e,h1,h2,h4,h5⟩:=E.sl i _ e1
   rw [e2] at e
   cases e
   rw [Qt.mp h]
   exact ⟨(by rw [h1];intro z;cases z),h4,h5⟩
 . rename_i ks ps b e1 e2
   obtain ⟨c,e,q⟩:=E.sl i _ e1
   rw [e2] at e
   cases e
   rcases Qf.mp h with rfl | h
   . exact ⟨(by rw [q.h];exact Xp _),q.m,q.c⟩
   . obtain ⟨p,hp,rfl⟩:=Qm.mp h
     have w:=q.i p hp
     obtain ⟨vs,h1,_⟩:=w.h
     exact ⟨(by rw [h1];exact Xp _),w.m,w.c⟩
 . cases h
theorem Jaj {α:Type}{l:List α}{i:Nat}{a b:α}(h:(l.set i a)[i]? = some b):b=a:=by
 have hl:=(Qq.mp h).1
 rw [Qr] at hl
 rw [Q3 hl] at h
 exact (Xf h).symm
theorem Jbk {j:Nat}{w:Vl}(e:env[j]? = some w):Jl env σ j=Jl [w] [(σ[j]?).join] 0:=by
 unfold Jl
 rw [e]
 rfl
theorem At.put (A:At C ex env σ H n) {i:Nat}{d:Yao}{v:V}(r:Rep ex H d v):At C ex (env.set i (.d d)) (σ.set i (some v)) H n:=
 ⟨A.ev.put ⟨v,rfl,r⟩,A.ex0,A.al0,λ j k a h1 h2=>A.sep j k a (Jgn j a h1) (Jgn k a h2),λ j a h=>A.new j a (Jgn j a h),A.kp,A.held⟩
theorem At.bind (A:At C ex env σ H n) {env':List Vl}{σ':L2.St}(E:Ev C.S ex env' σ' H n) (o:∀ i a,a∈Jl env' σ' i->a∈Jl env σ i):At C ex env' σ' H n:=
 ⟨E,A.ex0,A.al0,λ j k a h1 h2=>A.sep j k a (o j a h1) (o k a h2),λ j a h=>A.new j a (o j a h),A.kp,A.held⟩
theorem At.free (A:At C ex env σ H n) {a:Addr}(h:H a=none):C.H0 a=none:=by
 cases e:C.H0 a with
 | none=>rfl
 | some o=>
  by_cases hp:a∈C.S.ch
  . exact absurd h (C.S.dom A.ev.inv a hp)
  . rw [A.kp a o e hp] at h;cases h
theorem Vp {i j:Nat}{w:Vl}{o:Option V}(h:i≠j):Jl (env.set i w) (σ.set i o) j=Jl env σ j:=by
 unfold Jl
 rw [Q4 h,Q4 h]
theorem Jov {i:Nat}{ds:List Yao}{a b:Addr}(h:b∈Jl (env.set i (.own ds)) (σ.set i (some (.ref a))) i):b=a:=by
 unfold Jl at h
 split at h
 . rename_i c e1 e2
   have e3:(σ.set i (some (.ref a)))[i]? = some (some (.ref c)):=Jm e2
   have:=Jaj e3
   cases this
   exact Qt.mp h
 . rename_i e1 e2
   have:=Jaj e1
   cases this
 . rename_i e1 e2
   have:=Jaj e1
   cases this
 . cases h
theorem At.own (A:At C ex env σ H n) {i:Nat}{ds:List Yao}{vs:List V}{a:Addr}(s:Yr C.S m H H') (ha:H a=none) (hl:H' a=some (.lst vs)) (hz:vs.length<=sizeLine) (r:Reps (a::ex) H' ds vs) :
 At C (a::ex) (env.set i (.own ds)) (σ.set i (some (.ref a))) H' m:=by
 have ac:a∉C.S.ch:=λ z=>C.S.dom A.ev.inv a z ha
 have hc:∀ b∈C.S.ch,b∈a::ex:=λ b h=>Qi _ (A.ev.ch b h)
 have E1:Ev C.S (a::ex) env σ H' m:=by
  refine ⟨A.ev.len,λ j w e=>(SlR.add ha (A.ev.sl j w e)).kp hc s.1,hc,λ b hb=>?_,s.2⟩
  rcases Qf.mp hb with rfl | hb
  . rw [hl];intro z;cases z
  . exact A.ev.al.step s b hb
 refine ⟨E1.put ⟨a,vs,rfl,hl,hz,r,Qh,ac⟩,λ b h=>Qi _ (A.ex0 b h),A.al0,λ j k b h1 h2=>?_,λ j b h=>?_,A.kp.trans s.1,λ h hh=>(Rep.add ha (A.held h hh)).keep (s.1.mono hc)⟩
 . by_cases hj:i=j
   . subst hj
     have e:=Jov h1
     subst e
     by_cases hk:i=k
     . exact hk
     . rw [Vp hk] at h2
       exact absurd ha (Jas A.ev h2).1
   . rw [Vp hj] at h1
     by_cases hk:i=k
     . subst hk
       have e:=Jov h2
       subst e
       exact absurd ha (Jas A.ev h1).1
     . rw [Vp hk] at h2
       exact A.sep j k b h1 h2
 . by_cases hj:i=j
   . subst hj
     have e:=Jov h
     subst e
     exact A.free ha
   . rw [Vp hj] at h
     exact A.new j b h
theorem Jml {i:Nat}{xs ys:List Yao}(h:env[i]? = some (.own xs)):∀ j,Jl (env.set i (.own ys)) σ j=Jl env σ j:=λ j=>by
 unfold Jl
 by_cases hj:i=j
 . subst hj
   rw [Q3 (Qq.mp h).1,h]
   cases (σ[i]?).join with
   | none=>rfl
   | some v=>cases v<;>rfl
 . rw [Q4 hj]
theorem At.re (A:At C ex env σ H n) {i:Nat}{xs ys:List Yao}{ws:List V}{a:Addr}(h:env[i]? = some (.own xs)) (hs:(σ[i]?).join=some (.ref a)) (r:Reps ex H ys ws) (hz:ws.length<=sizeLine) :
 At C ex (env.set i (.own ys)) σ (upd H a (.lst ws)) n:=by
 have ha:a∈Jl env σ i:=by unfold Jl;rw [h,hs];exact Qt.mpr rfl
 obtain ⟨h1,h2,h3⟩:=Jas A.ev ha
 have h0:=A.new i a ha
 have kx:Kp ex H (upd H a (.lst ws)):=Kp.at h2 _
 refine ⟨⟨by rw [Qr];exact A.ev.len,λ j w e=>?_,A.ev.ch,λ b hb=>?_,C.S.keep A.ev.inv λ b hb o e=>by rw [Jf (λ z=>h3 (by rw [<- z];exact hb))];exact e⟩,A.ex0,A.al0,λ j k b q1 q2=>?_,λ j b q=>?_,Kp.late A.kp h0 _,λ x hx=>(A.held x hx).keep kx⟩
 . by_cases hj:i=j
   . subst hj
     rw [Q3 (Qq.mp h).1] at e
     cases e
     exact ⟨a,ws,hs,Jg,hz,r.keep kx,h2,h3⟩
   . rw [Q4 hj] at e
     exact SlR.upd h2 (λ b hb z=>hj (A.sep i j a ha (by rw [Jbk e,<- z];exact hb))) (A.ev.sl j w e)
 . by_cases hb2:b=a
   . rw [hb2,Jg];intro z;cases z
   . rw [Jf hb2];exact A.ev.al b hb
 . rw [Jml h] at q1 q2;exact A.sep j k b q1 q2
 . rw [Jml h] at q;exact A.new j b q
inductive Fz:List Vl->List Vl->Prop
 | refl {env:List Vl}:Fz env env
 | fz {env env':List Vl} (i:Nat) (xs:List Yao) (h:env[i]? = some (.own xs)) (t:Fz (env.set i (.d (.list xs))) env'):Fz env env'
 | jnk {env env':List Vl} (i:Nat) (t:Fz (env.set i .jnk) env'):Fz env env'
 | fz2 {env env':List Vl} (i:Nat) (ps:List (Addr×List Yao)) (h:env[i]? = some (.own2 none ps)) (t:Fz (env.set i (.d (.list (ps.map λ p=>.list p.2)))) env'):Fz env env'
 | fzh {env env':List Vl} (i:Nat) (ps:List (Addr×List Yao)) (h:env[i]? = some (.own2 none ps)) (t:Fz (env.set i (.own (ps.map λ p=>.list p.2))) env'):Fz env env'
theorem At.fz1 (A:At C ex env σ H n) {i:Nat}{xs:List Yao}(h:env[i]? = some (.own xs)):∃ ex',At C ex' (env.set i (.d (.list xs))) σ H n:=by
 obtain ⟨a,vs,e,h1,h2,h3,h4,h5⟩:=A.ev.sl i _ h
 have ha:a∈Jl env σ i:=by unfold Jl;rw [h,e];exact Qt.mpr rfl
 have hsub:∀ b∈ex.filter (λ b=>decide (b≠a)),b∈ex:=λ b hb=>(Xq.mp hb).1
 have hin:∀ b∈ex,b≠a->b∈ex.filter (λ b=>decide (b≠a)):=λ b hb hn=>Xq.mpr ⟨hb,decide_eq_true hn⟩
 have hn:a∉ex.filter (λ b=>decide (b≠a)):=λ z=>(of_decide_eq_true (Xq.mp z).2) rfl
 have oo:∀ j b,b∈Jl (env.set i (.d (.list xs))) σ j->b∈Jl env σ j/\b≠a:=λ j b hb=>by
  by_cases hj:i=j
  . subst hj
    unfold Jl at hb
    rw [Q3 (Qq.mp h).1] at hb
    cases hb
  . have:Jl (env.set i (.d (.list xs))) σ j=Jl env σ j:=by unfold Jl;rw [Q4 hj]
    rw [this] at hb
    exact ⟨hb,λ z=>hj (A.sep i j a ha (by rw [<- z];exact hb))⟩
 refine ⟨ex.filter λ b=>decide (b≠a),⟨by rw [Qr];exact A.ev.len,λ j w ew=>?_,λ b hb=>hin b (A.ev.ch b hb) λ z=>h5 (by rw [<- z];exact hb),λ b hb=>A.ev.al b (hsub b hb),A.ev.inv⟩,λ b hb=>hin b (A.ex0 b hb) λ z=>?_,A.al0,λ j k b q1 q2=>A.sep j k b (oo j b q1).1 (oo k b q2).1,λ j b q=>A.new j b (oo j b q).1,A.kp,λ x hx=>Rep.mono hsub (A.held x hx)⟩
 . by_cases hj:i=j
   . subst hj
     rw [Q3 (Qq.mp h).1] at ew
     cases ew
     exact ⟨_,e,.list h1 hn h2 (Reps.mono hsub h3)⟩
   . rw [Q4 hj] at ew
     have q:=A.ev.sl j w ew
     have ne:∀ b∈Jl [w] [(σ[j]?).join] 0,b≠a:=λ b hb z=>hj (A.sep i j a ha (by rw [Jbk ew,<- z];exact hb))
     cases w with
     | jnk=>trivial
     | jar=>exact q
     | tape=>exact q
     | d x=>obtain ⟨v,e,r⟩:=q;exact ⟨v,e,Rep.mono hsub r⟩
     | pin v x=>obtain ⟨e,r⟩:=q;exact ⟨e,Rep.mono hsub r⟩
     | own ys=>obtain ⟨b,ws,e,g1,g2,g3,g4,g5⟩:=q;exact ⟨b,ws,e,g1,g2,Reps.mono hsub g3,hin b g4 (ne b (by rw [e];exact Qh)),g5⟩
     | dct kvs=>obtain ⟨b,ws,e,g1,⟨g2,g3⟩,g4,g5⟩:=q;exact ⟨b,ws,e,g1,⟨g2,Reps.mono hsub g3⟩,hin b g4 (ne b (by rw [e];exact Qh)),g5⟩
     | own2 ks ps=>obtain ⟨b,e,q⟩:=q;exact ⟨b,e,q.h,q.z,q.k,q.nd,hin b q.m (ne b (by rw [e];exact Qh)),q.c,λ p hp=>let w:=q.i p hp;⟨hin p.1 w.m (ne p.1 (by rw [e];exact Qi _ (Qm.mpr ⟨p,hp,rfl⟩))),w.c,let ⟨vs,h1,h2,h3⟩:=w.h;⟨vs,h1,h2,Reps.mono hsub h3⟩⟩⟩
 . subst z
   exact A.al0 b hb (A.new i b ha)
theorem At.fz2 (A:At C ex env σ H n) {i:Nat}{ps:List (Addr×List Yao)}(h:env[i]? = some (.own2 none ps)):∃ ex',At C ex' (env.set i (.d (.list (ps.map λ p=>.list p.2)))) σ H n:=by
 obtain ⟨a,e,o⟩:=A.ev.sl i _ h
 have hL:∀ b∈a::ps.map (·.1),b∈Jl env σ i:=λ b hb=>by unfold Jl;rw [h,e];exact hb
 have hsub:∀ b∈ex.filter (λ b=>decide (b∉a::ps.map (·.1))),b∈ex:=λ b hb=>(Xq.mp hb).1
 have hin:∀ b∈ex,b∉a::ps.map (·.1)->b∈ex.filter (λ b=>decide (b∉a::ps.map (·.1))):=λ b hb hn=>Xq.mpr ⟨hb,decide_eq_true hn⟩
 have hn:∀ b∈a::ps.map (·.1),b∉ex.filter (λ b=>decide (b∉a::ps.map (·.1))):=λ b hb z=>(of_decide_eq_true (Xq.mp z).2) hb
 have hc:∀ b∈a::ps.map (·.1),b∉C.S.ch:=λ b hb=>by
  rcases Qf.mp hb with rfl | hb
  . exact o.c
  . obtain ⟨p,hp,rfl⟩:=Qm.mp hb;exact (o.i p hp).c
 have oo:∀ j b,b∈Jl (env.set i (.d (.list (ps.map λ p=>.list p.2)))) σ j->b∈Jl env σ j/\b∉a::ps.map (·.1):=λ j b hb=>by
  by_cases hj:i=j
  . subst hj
    unfold Jl at hb
    rw [Q3 (Qq.mp h).1] at hb
    cases hb
  . have:Jl (env.set i (.d (.list (ps.map λ p=>.list p.2)))) σ j=Jl env σ j:=by unfold Jl;rw [Q4 hj]
    rw [this] at hb
    exact ⟨hb,λ z=>hj (A.sep i j b (hL b z) hb)⟩
 refine ⟨ex.filter λ b=>decide (b∉a::ps.map (·.1)),⟨by rw [Qr];exact A.ev.len,λ j w ew=>?_,λ b hb=>hin b (A.ev.ch b hb) λ z=>hc b z hb,λ b hb=>A.ev.al b (hsub b hb),A.ev.inv⟩,λ b hb=>hin b (A.ex0 b hb) λ z=>?_,A.al0,λ j k b q1 q2=>A.sep j k b (oo j b q1).1 (oo k b q2).1,λ j b q=>A.new j b (oo j b q).1,A.kp,λ x hx=>Rep.mono hsub (A.held x hx)⟩
 . by_cases hj:i=j
   . subst hj
     rw [Q3 (Qq.mp h).1] at ew
     cases ew
     refine ⟨_,e,.list o.h (hn a Qh) (by unfold Yv;rw [Qb,Yau];have:=o.z;omega) ?_⟩
     have:∀ qs:List (Addr×List Yao),(∀ q∈qs,q∈ps)->Reps (ex.filter λ b=>decide (b∉a::ps.map (·.1))) H (qs.map λ p=>Ua p.2) (Yv qs):=by
      intro qs
      induction qs with
      | nil=>exact λ _=>.nil
      | cons q qs ih=>
       intro hq
       have hm:=hq q Qh
       obtain ⟨vs,g1,g2,g3⟩:=(o.i q hm).h
       exact .cons (.list g1 (hn q.1 (Qi _ (Qm.mpr ⟨q,hm,rfl⟩))) g2 (Reps.mono hsub g3)) (ih λ x hx=>hq x (Qi _ hx))
     exact this ps λ _ h=>h
   . rw [Q4 hj] at ew
     have q:=A.ev.sl j w ew
     have ne:∀ b∈Jl [w] [(σ[j]?).join] 0,b∉a::ps.map (·.1):=λ b hb z=>hj (A.sep i j b (hL b z) (by rw [Jbk ew];exact hb))
     cases w with
     | jnk=>trivial
     | jar=>exact q
     | tape=>exact q
     | d x=>obtain ⟨v,e,r⟩:=q;exact ⟨v,e,Rep.mono hsub r⟩
     | pin v x=>obtain ⟨e,r⟩:=q;exact ⟨e,Rep.mono hsub r⟩
     | own ys=>obtain ⟨b,ws,e,g1,g2,g3,g4,g5⟩:=q;exact ⟨b,ws,e,g1,g2,Reps.mono hsub g3,hin b g4 (ne b (by rw [e];exact Qh)),g5⟩
     | dct kvs=>obtain ⟨b,ws,e,g1,⟨g2,g3⟩,g4,g5⟩:=q;exact ⟨b,ws,e,g1,⟨g2,Reps.mono hsub g3⟩,hin b g4 (ne b (by rw [e];exact Qh)),g5⟩
     | own2 ks qs=>obtain ⟨b,e,q⟩:=q;exact ⟨b,e,q.h,q.z,q.k,q.nd,hin b q.m (ne b (by rw [e];exact Qh)),q.c,λ p hp=>let w:=q.i p hp;⟨hin p.1 w.m (ne p.1 (by rw [e];exact Qi _ (Qm.mpr ⟨p,hp,rfl⟩))),w.c,let ⟨vs,h1,h2,h3⟩:=w.h;⟨vs,h1,h2,Reps.mono hsub h3⟩⟩⟩
 . exact A.al0 b hb (A.new i b (hL b z))
theorem At.fzh (A:At C ex env σ H n) {i:Nat}{ps:List (Addr×List Yao)}(h:env[i]? = some (.own2 none ps)):∃ ex',At C ex' (env.set i (.own (ps.map λ p=>.list p.2))) σ H n:=by
 obtain ⟨a,e,o⟩:=A.ev.sl i _ h
 have hL:∀ b∈ps.map (·.1),b∈Jl env σ i:=λ b hb=>by unfold Jl;rw [h,e];exact Qi _ hb
 have hsub:∀ b∈ex.filter (λ b=>decide (b∉ps.map (·.1))),b∈ex:=λ b hb=>(Xq.mp hb).1
 have hin:∀ b∈ex,b∉ps.map (·.1)->b∈ex.filter (λ b=>decide (b∉ps.map (·.1))):=λ b hb hn=>Xq.mpr ⟨hb,decide_eq_true hn⟩
 have hn:∀ b∈ps.map (·.1),b∉ex.filter (λ b=>decide (b∉ps.map (·.1))):=λ b hb z=>(of_decide_eq_true (Xq.mp z).2) hb
 have hc:∀ b∈ps.map (·.1),b∉C.S.ch:=λ b hb=>by
  obtain ⟨p,hp,rfl⟩:=Qm.mp hb;exact (o.i p hp).c
 have ha:a∈Jl env σ i:=by unfold Jl;rw [h,e];exact Qh
 have hna:a∉ps.map (·.1):=(Xr.mp o.nd).1
 have oo:∀ j b,b∈Jl (env.set i (.own (ps.map λ p=>.list p.2))) σ j->b∈Jl env σ j/\b∉ps.map (·.1):=λ j b hb=>by
  by_cases hj:i=j
  . subst hj
    unfold Jl at hb
    rw [Q3 (Qq.mp h).1,e] at hb
    have hb':b=a:=Qt.mp hb
    rw [hb']
    exact ⟨ha,hna⟩
  . have:Jl (env.set i (.own (ps.map λ p=>.list p.2))) σ j=Jl env σ j:=by unfold Jl;rw [Q4 hj]
    rw [this] at hb
    exact ⟨hb,λ z=>hj (A.sep i j b (hL b z) hb)⟩
 refine ⟨ex.filter λ b=>decide (b∉ps.map (·.1)),⟨by rw [Qr];exact A.ev.len,λ j w ew=>?_,λ b hb=>hin b (A.ev.ch b hb) λ z=>hc b z hb,λ b hb=>A.ev.al b (hsub b hb),A.ev.inv⟩,λ b hb=>hin b (A.ex0 b hb) λ z=>?_,A.al0,λ j k b q1 q2=>A.sep j k b (oo j b q1).1 (oo k b q2).1,λ j b q=>A.new j b (oo j b q).1,A.kp,λ x hx=>Rep.mono hsub (A.held x hx)⟩
 . by_cases hj:i=j
   . subst hj
     rw [Q3 (Qq.mp h).1] at ew
     cases ew
     refine ⟨a,Yv ps,e,o.h,by unfold Yv;rw [Qb,Yau];have:=o.z;omega,?_,hin a o.m hna,o.c⟩
     have:∀ qs:List (Addr×List Yao),(∀ q∈qs,q∈ps)->Reps (ex.filter λ b=>decide (b∉ps.map (·.1))) H (qs.map λ p=>Ua p.2) (Yv qs):=by
      intro qs
      induction qs with
      | nil=>exact λ _=>.nil
      | cons q qs ih=>
       intro hq
       have hm:=hq q Qh
       obtain ⟨vs,g1,g2,g3⟩:=(o.i q hm).h
       exact .cons (.list g1 (hn q.1 (Qm.mpr ⟨q,hm,rfl⟩)) g2 (Reps.mono hsub g3)) (ih λ x hx=>hq x (Qi _ hx))
     exact this ps λ _ h=>h
   . rw [Q4 hj] at ew
     have q:=A.ev.sl j w ew
     have ne:∀ b∈Jl [w] [(σ[j]?).join] 0,b∉ps.map (·.1):=λ b hb z=>hj (A.sep i j b (hL b z) (by rw [Jbk ew];exact hb))
     cases w with
     | jnk=>trivial
     | jar=>exact q
     | tape=>exact q
     | d x=>obtain ⟨v,e,r⟩:=q;exact ⟨v,e,Rep.mono hsub r⟩
     | pin v x=>obtain ⟨e,r⟩:=q;exact ⟨e,Rep.mono hsub r⟩
     | own ys=>obtain ⟨b,ws,e,g1,g2,g3,g4,g5⟩:=q;exact ⟨b,ws,e,g1,g2,Reps.mono hsub g3,hin b g4 (ne b (by rw [e];exact Qh)),g5⟩
     | dct kvs=>obtain ⟨b,ws,e,g1,⟨g2,g3⟩,g4,g5⟩:=q;exact ⟨b,ws,e,g1,⟨g2,Reps.mono hsub g3⟩,hin b g4 (ne b (by rw [e];exact Qh)),g5⟩
     | own2 ks qs=>obtain ⟨b,e,q⟩:=q;exact ⟨b,e,q.h,q.z,q.k,q.nd,hin b q.m (ne b (by rw [e];exact Qh)),q.c,λ p hp=>let w:=q.i p hp;⟨hin p.1 w.m (ne p.1 (by rw [e];exact Qi _ (Qm.mpr ⟨p,hp,rfl⟩))),w.c,let ⟨vs,h1,h2,h3⟩:=w.h;⟨vs,h1,h2,Reps.mono hsub h3⟩⟩⟩
 . exact A.al0 b hb (A.new i b (hL b z))
theorem At.jnk (A:At C ex env σ H n) (i:Nat):At C ex (env.set i .jnk) σ H n:=by
 have oo:∀ j b,b∈Jl (env.set i .jnk) σ j->b∈Jl env σ j:=λ j b hb=>by
  by_cases hj:i=j
  . subst hj
    unfold Jl at hb
    by_cases hl:i<env.length
    . rw [Q3 hl] at hb;cases hb
    . rw [Qx (by rw [Qr];omega)] at hb;cases hb
  . have:Jl (env.set i .jnk) σ j=Jl env σ j:=by unfold Jl;rw [Q4 hj]
    rw [this] at hb
    exact hb
 refine A.bind ⟨by rw [Qr];exact A.ev.len,λ j w e=>?_,A.ev.ch,A.ev.al,A.ev.inv⟩ oo
 by_cases hj:i=j
 . subst hj
   have hl:i<env.length:=by
    have:=(Qq.mp e).1
    rw [Qr] at this;exact this
   rw [Q3 hl] at e
   cases e
   trivial
 . rw [Q4 hj] at e
   exact A.ev.sl j w e
theorem At.fz {env':List Vl}(f:Fz env env'):∀ {ex:List Addr},At C ex env σ H n->∃ ex',At C ex' env' σ H n:=by
 induction f with
 | refl=>exact λ A=>⟨_,A⟩
 | fz i xs h t ih=>exact λ A=>let ⟨_,B⟩:=A.fz1 h;ih B
 | jnk i t ih=>exact λ A=>ih (A.jnk i)
 | fz2 i ps h t ih=>exact λ A=>let ⟨_,B⟩:=A.fz2 h;ih B
 | fzh i ps h t ih=>exact λ A=>let ⟨_,B⟩:=A.fzh h;ih B
end
section
variable {te ta:TE}{ge ga:GE}{gn:GN}{t u tb:TS}{gt gu gb:GS}{i j:Nat}{K:Qc}
instance sv_next:SV Jpr (λ G env n=>G.nx env n):=⟨λ {C G D} O {ex env σ H n} A h=>O.nx A h⟩
abbrev Jz2 (t u:GS):GS:=λ G env n=>t { G with nx:=λ env1 n1=>∃ env2,Fz env1 env2/\u G env2 n1 } env n
instance sv_seq [T:SV t gt] [U:SV u gu]:SV (Jax t u) (Jz2 gt gu):=⟨λ {C G D} O {ex env σ H n} A h=>by
 refine T.sv (C:=C) (G:={ G with nx:=λ env1 n1=>∃ env2,Fz env1 env2/\gu G env2 n1 }) (D:={ D with nx:=u D }) ⟨λ {ex1 env1 σ1 H1 n1} A1 h1=>?_,O.bk,O.ct,O.rt,O.rtn,O.xc,O.r2⟩ A h
 obtain ⟨env2,f,h2⟩:=h1
 obtain ⟨ex2,A2⟩:=A1.fz f
 exact U.sv O A2 h2⟩
abbrev J25 (i:Nat) (g:GE):GS:=λ G env n=>g env n λ d n1=>G.nx (env.set i (.d d)) n1
abbrev Jyh (i:Nat) (g:GN):GS:=λ G env n=>g env n λ ds n1=>G.nx (env.set i (.own ds)) n1
instance sv_setN [E:NV te gn]:SV (Jd3 te (Bt i)) (Jyh i gn):=⟨λ {C G D} O {ex env σ H n} A h=>E.nv A.ev h λ ds n1 a vs H1 h1 s1 ha hl hz r=>O.nx (A.own s1 ha hl hz r) h1⟩
instance (priority:=low) sv_set [E:EV true te ge]:SV (Jd3 te (Bt i)) (J25 i ge):=⟨λ {C G D} O {ex env σ H n} A h=>E.ev A.ev h λ d n1 v H1 h1 s1 r=>O.nx ((A.step s1).put r) h1⟩
instance sv_setC {wi:TI}{k:Nat}{idx:List Nat}{g:TG}{tt:TT} [E:NV (B1 wi k idx g tt te) gn]:SV (Vu i wi k idx g tt te) (Jyh i gn):=⟨λ {C G D} O {ex env σ H n} A h=>
 show B1 wi k idx g tt te σ H (λ v H2=>D.nx (σ.set i (some v)) H2) from E.nv A.ev h λ ds n1 a vs H1 h1 s1 ha hl hz r=>O.nx (A.own s1 ha hl hz r) h1⟩
abbrev J26 (bd:GG) (g:GE):GS:=λ G env n=>g env n λ d n1=>bd d env λ env1=>G.nx env1 n1
instance (priority:=low) sv_asg {g:TG}{bd:GG}{ks:List Nat} [E:EV true te ge] [B:GV g bd ks]:SV (Jd3 te g) (J26 bd ge):=⟨λ {C G D} O {ex env σ H n} A h=>E.ev A.ev h λ d n1 v H1 h1 s1 r=>
 B.gv (A.step s1).ev r h1 λ env' σ' p E' o _ _=>O.nx ((A.step s1).bind E' o) p⟩
abbrev J27 (g:GE):GS:=λ G env n=>g env n λ d n1=>G.rt d n1
abbrev J11 (g:GN):GS:=λ G env n=>g env n λ ds n1=>G.rtn ds n1
abbrev Jyi (i:Nat):GS:=λ G env n=>match env[i]? with
 | some (.d x)=>G.rt x n
 | some (.own xs)=>G.rtn xs n
 | _=>False
instance (priority:=low) sv_ret [E:EV true te ge]:SV (Jsn te) (J27 ge):=⟨λ {C G D} O {ex env σ H n} A h=>E.ev A.ev h λ d n1 v H1 h1 s1 r=>O.rt ⟨(A.step s1).kp,s1.2,Rep.mono A.ex0 r⟩ h1⟩
instance sv_retN [E:NV te gn]:SV (Jsn te) (J11 gn):=⟨λ {C G D} O {ex env σ H n} A h=>E.nv A.ev h λ ds n1 a vs H1 h1 s1 ha hl hz r=>
 O.rtn ⟨(A.step s1).kp,s1.2,A.free ha,vs,hl,hz,Reps.mono (λ b hb=>(Qf.mp hb).elim (λ e=>by rw [e];exact Qh) λ h=>Qi _ (A.ex0 b h)) r⟩ h1⟩
instance (priority:=high) sv_retV:SV (Jsn (Z1 i)) (Jyi i):=⟨λ {C G D} O {ex env σ H n} A h=>by
 unfold Jyi at h
 split at h
 . rename_i x e
   obtain ⟨v,ev,r⟩:=A.ev.sl i _ e
   exact ⟨v,Jm ev,O.rt ⟨A.kp,A.ev.inv,Rep.mono A.ex0 r⟩ h⟩
 . rename_i xs e
   obtain ⟨a,vs,ev,h1,h2,h3,h4,h5⟩:=A.ev.sl i _ e
   have ha:a∈Jl env σ i:=by unfold Jl;rw [e,ev];exact Qt.mpr rfl
   obtain ⟨ex',A'⟩:=A.fz1 e
   obtain ⟨v',ev',r'⟩:=A'.ev.sl i _ (Q3 (Qq.mp e).1)
   rw [ev] at ev'
   cases ev'
   have:=A.new i a ha
   refine ⟨_,Jm ev,O.rtn ⟨A.kp,A.ev.inv,this,vs,h1,h2,Reps.mono (λ b hb=>?_) h3⟩ h⟩
   rcases Qf.mp hb with rfl | hb
   . exact h4
   . exact A.ex0 b hb
 . exact h.elim⟩
abbrev J28 (c:GT) (t u:GS):GS:=λ G env n=>c env n λ b n1=>if b=true then t G env n1 else u G env n1
instance sv_if {c:TT}{gc:GT} [X:TV c gc] [T:SV t gt] [U:SV u gu]:SV (J01 c t u) (J28 gc gt gu):=⟨λ {C G D} O {ex env σ H n} A h=>X.tv A.ev h λ b n1 H1 h1 s1=>by
 cases b with
 | true=>exact T.sv O (A.step s1) h1
 | false=>exact U.sv O (A.step s1) h1⟩
abbrev J29 (gi:GN) (bd:GG) (gb:GS):GS:=λ G env n=>gi env n λ items n1=>∃ W:Nat->List Vl->Nat->Prop,W 0 env n1 /\
 (∀ i x env n,items[i]? = some x->W i env n->bd x env λ env1=>gb { G with nx:=W (i+1),ct:=W (i+1),bk:=G.nx } env1 n)/\∀ env n,W items.length env n->G.nx env n
instance sv_for {wi:TI}{gi:GN}{g:TG}{bd:GG}{ks:List Nat} [I:IV wi gi] [B:GV g bd ks] [T:SV tb gb]:SV (J06 wi g tb) (J29 gi bd gb):=⟨λ {C G D} O {ex env σ H n} A h=>I.iv A.ev h λ items n1 J hd H1 h1 s1 hr hit=>by
 obtain ⟨W,w0,wt,wd⟩:=h1
 have A1:=A.step s1
 have dropd:∀ {ex2 env2 σ2 H2 n2},At { C with held:=hd++C.held } ex2 env2 σ2 H2 n2->At C ex2 env2 σ2 H2 n2:=λ {_ _ _ _ _} B=>⟨B.ev,B.ex0,B.al0,B.sep,B.new,B.kp,λ h hh=>B.held h (Xi _ hh)⟩
 refine ⟨λ i m σ2 H2=>i<=items.length/\m=items.length-i/\∃ ex2 env2 n2,At { C with held:=hd++C.held } ex2 env2 σ2 H2 n2/\W i env2 n2,⟨_,Xo _,rfl,ex,env,n1,⟨A1.ev,A1.ex0,A1.al0,A1.sep,A1.new,A1.kp,λ h hh=>(Q6.mp hh).elim (hr h) (A1.held h)⟩,w0⟩,?_⟩
 rintro i m σ2 H2 ⟨hi,rfl,ex2,env2,n2,A2,w2⟩
 have IT:=hit ex2 H2 A2.ev.al λ h hh=>A2.held h (Xn _ hh)
 rcases Xy i items.length with hlt | hge
 . refine .inr ⟨(IT.2 i items[i] (Qd hlt)).1,λ σ' H'=>∃ ex3 env3 n3,At { C with held:=hd++C.held } ex3 env3 σ' H' n3/\W (i+1) env3 n3,λ σ' H' h=>⟨items.length-(i+1),by omega,hlt,rfl,h⟩,λ x H3 y=>?_⟩
   obtain ⟨kp3,rx⟩:=(IT.2 i items[i] (Qd hlt)).2 x H3 y
   have A3:=A2.step (Yr.new A2.ev.inv kp3)
   refine B.gv A3.ev rx (wt i _ env2 n2 (Qd hlt) w2) λ env' σ' p E' o _ _=>?_
   refine T.sv (C:={ C with held:=hd++C.held }) (G:={ G with nx:=W (i+1),ct:=W (i+1),bk:=G.nx }) (D:={ D with nx:=λ σ' H'=>∃ ex3 env3 n3,At { C with held:=hd++C.held } ex3 env3 σ' H' n3/\W (i+1) env3 n3,ct:=λ σ' H'=>∃ ex3 env3 n3,At { C with held:=hd++C.held } ex3 env3 σ' H' n3/\W (i+1) env3 n3,bk:=D.nx }) ⟨λ A4 w4=>⟨_,_,_,A4,w4⟩,λ A4 q4=>O.nx (dropd A4) q4,λ A4 w4=>⟨_,_,_,A4,w4⟩,λ R q=>O.rt ⟨R.kp,R.inv,R.r⟩ q,λ R q=>O.rtn ⟨R.kp,R.inv,R.fr,R.r⟩ q,O.xc,λ R q=>O.r2 ⟨R.kp,R.inv,R.fr,R.frs,R.o⟩ q⟩ (A3.bind E' o) p
 . have e:i=items.length:=by omega
   subst e
   exact .inl ⟨IT.1,O.nx (dropd A2) (wd _ _ w2)⟩⟩
abbrev Jz3 (c:GT) (gb:GS):GS:=λ G env n=>∃ W:Nat->List Vl->Nat->Prop,(∃ m,W m env n)/\∀ m env n,W m env n->c env n λ b n1=>
 if b=true then gb { G with nx:=λ env1 n2=>∃ m',m'<m/\W m' env1 n2,ct:=λ env1 n2=>∃ m',m'<m/\W m' env1 n2,bk:=G.nx } env n1 else G.nx env n1
instance sv_while {c:TT}{gc:GT} [X:TV c gc] [T:SV tb gb]:SV (Jsq c tb) (Jz3 gc gb):=⟨λ {C G D} O {ex env σ H n} A h=>by
 obtain ⟨W,⟨m0,w0⟩,wt⟩:=h
 refine ⟨λ m σ2 H2=>∃ ex2 env2 n2,At C ex2 env2 σ2 H2 n2/\W m env2 n2,⟨m0,ex,env,n,A,w0⟩,?_⟩
 rintro m σ2 H2 ⟨ex2,env2,n2,A2,w2⟩
 refine X.tv A2.ev (wt m env2 n2 w2) λ b n3 H3 h3 s3=>?_
 cases b with
 | true=>
  refine Ve ⟨λ σ' H'=>∃ m',m'<m/\∃ ex2 env2 n2,At C ex2 env2 σ' H' n2/\W m' env2 n2,λ σ' H' h=>h,?_⟩
  exact T.sv (C:=C) (G:={ G with nx:=λ env1 n2=>∃ m',m'<m/\W m' env1 n2,ct:=λ env1 n2=>∃ m',m'<m/\W m' env1 n2,bk:=G.nx }) (D:={ D with nx:=λ σ' H'=>∃ m',m'<m/\∃ ex2 env2 n2,At C ex2 env2 σ' H' n2/\W m' env2 n2,ct:=λ σ' H'=>∃ m',m'<m/\∃ ex2 env2 n2,At C ex2 env2 σ' H' n2/\W m' env2 n2,bk:=D.nx }) ⟨λ A4 ⟨m',hm,w4⟩=>⟨m',hm,_,_,_,A4,w4⟩,λ A4 q4=>O.nx A4 q4,λ A4 ⟨m',hm,w4⟩=>⟨m',hm,_,_,_,A4,w4⟩,O.rt,O.rtn,O.xc,O.r2⟩ (A2.step s3) h3
 | false=>exact Ja0 (O.nx (A2.step s3) h3)⟩
theorem At.at_own {C:Cv}{ex:List Addr}{env:List Vl}{σ:L2.St}{H:Hp}{n:Nat}(A:At C ex env σ H n) {i:Nat}{xs:List Yao}(e:env[i]? = some (.own xs)):∃ a vs,(σ[i]?).join=some (.ref a)/\H a=some (.lst vs)/\vs.length<=sizeLine/\Reps ex H xs vs:=by
 obtain ⟨a,vs,ev,h1,h2,h3,h4,h5⟩:=A.ev.sl i _ e
 exact ⟨a,vs,ev,h1,h2,h3⟩
abbrev J12 (i:Nat) (g:GE):GS:=λ G env n=>match env[i]? with
 | some (.own xs)=>g env n λ d n1=>xs.length<sizeLine/\G.nx (env.set i (.own (xs++[d]))) n1
 | _=>False
theorem Jef {C:Cv}{ex:List Addr}{env:List Vl}{σ:L2.St}{H H1:Hp}{n n1:Nat}{i:Nat}{xs:List Yao}{a:Addr}{vs:List V}(A:At C ex env σ H n) (e:env[i]? = some (.own xs)) (ev:(σ[i]?).join=some (.ref a)) (h1:H a=some (.lst vs)) (r:Reps ex H xs vs) (s:Yr C.S n1 H H1):H1 a=some (.lst vs)/\Reps ex H1 xs vs:=by
 have ha:a∈Jl env σ i:=by unfold Jl;rw [e,ev];exact Qt.mpr rfl
 exact ⟨s.1 _ _ h1 (Jas A.ev ha).2.2,A.ev.reps s r⟩
instance sv_app [E:EV true te ge]:SV (Jsm (tBM K "list" Jkb (Z1 i) (Yj te Jbx))) (J12 i ge):=⟨λ {C G D} O {ex env σ H n} A h=>by
 unfold J12 at h
 split at h
 . rename_i xs e
   obtain ⟨a,vs,ev,h1,h2,h3⟩:=A.at_own e
   refine ⟨_,Jm ev,.inl ⟨rfl,_,SqL.of h1⟩,E.ev A.ev h λ d n1 v H1 hd s1 r=>?_⟩
   obtain ⟨g1,g2⟩:=Jef A e ev h1 h3 s1
   have l:=g2.length
   exact ⟨a,vs,v,rfl,rfl,g1,by rw [<- l];exact hd.1,O.nx ((A.step s1).re e ev (Reps.append g2 (.cons r .nil)) (by rw [Xj,Uw,<- l];exact hd.1)) hd.2⟩
 . exact h.elim⟩
theorem Jeg {ex:List Addr}{H:Hp}{d:Yao}{v:V}(r:Rep ex H d v):∀ {ds:List Yao}{vs:List V}(k:Nat),Reps ex H ds vs->Reps ex H (ds.set k d) (vs.set k v)
 | _,_,_,.nil=>.nil
 | _,_,0,.cons _ t=>.cons r t
 | _,_,k+1,.cons q t=>.cons q (Jeg r k t)
abbrev J13 (i:Nat) (gx ge:GE):GS:=λ G env n=>ge env n λ d n1=>match env[i]? with
 | some (.own xs)=>gx env n1 λ k n2=>(match k with
  | .int z=>∃ m,ixN xs.length z=some m/\G.nx (env.set i (.own (xs.set m d))) n2
  | _=>False)
 | _=>False
instance sv_setI {tx:TE}{gx:GE} [E:EV true te ge] [X:EV true tx gx]:SV (Jd3 te (Jn4 (Z1 i) tx Jf1)) (J13 i gx ge):=⟨λ {C G D} O {ex env σ H n} A h=>by
 refine E.ev A.ev h λ d n1 v H1 hd s1 r=>?_
 have A1:=A.step s1
 split at hd
 . rename_i xs e
   obtain ⟨a,vs,ev,h1,h2,h3⟩:=A1.at_own e
   refine ⟨_,Jm ev,X.ev A1.ev hd λ k n2 kv H2 hk s2 rk=>?_⟩
   obtain ⟨g1,g2⟩:=Jef A1 e ev h1 h3 s2
   have l:=g2.length
   cases rk with
   | int z=>
    obtain ⟨m,hm,q⟩:=hk
    exact ⟨a,vs,z,m,rfl,rfl,g1,by rw [<- l];exact hm,O.nx ((A1.step s2).re e ev (Jeg (A1.ev.rep s2 r) m g2) (by rw [Qr];exact h2)) q⟩
   | none=>exact hk.elim
   | obj=>exact hk.elim
   | bool=>exact hk.elim
   | str=>exact hk.elim
   | tuple=>exact hk.elim
   | list=>exact hk.elim
 . exact hd.elim⟩
abbrev Jyj (i:Nat) (gx ge:GE) (f:Int->Int->Int):GS:=λ G env n=>match env[i]? with
 | some (.own xs)=>gx env n λ k n1=>(match k with
  | .int z=>∃ x:Int,0<=z/\xs[z.toNat]? = some (.int x)/\ge env n1 λ d n2=>(match d with
   | .int y=>G.nx (env.set i (.own (xs.set z.toNat (.int (f x y))))) n2
   | _=>False)
  | _=>False)
 | _=>False
instance sv_augI {tx:TE}{gx:GE}{f:Int->Int->Int} [E:EV true te ge] [X:EV true tx gx]:SV (Jxu (Z1 i) tx te (Jx8 K) (ipI f) Jf1) (Jyj i gx ge f):=⟨λ {C G D} O {ex env σ H n} A h=>by
 unfold Jyj at h
 split at h
 . rename_i xs e
   obtain ⟨a,vs,ev,h1,h2,h3⟩:=A.at_own e
   refine ⟨_,Jm ev,X.ev A.ev h λ k n1 kv H1 hk s1 rk=>?_⟩
   obtain ⟨g1,g2⟩:=Jef A e ev h1 h3 s1
   have A1:=A.step s1
   cases rk with
   | int z=>
    obtain ⟨x,hz,hx,q⟩:=hk
    obtain ⟨u,hu,ru⟩:=g2.get hx
    cases ru
    refine ⟨a,vs,z,_,rfl,rfl,hz,SqL.of g1,hu,E.ev A1.ev q λ d n2 v H2 hd s2 r=>?_⟩
    obtain ⟨f1,f2⟩:=Jef A1 e ev g1 g2 s2
    have l:=f2.length
    have hlt:=(Qq.mp hu).1
    cases r with
    | int y=>exact ⟨x,y,rfl,rfl,a,vs,z,z.toNat,rfl,rfl,f1,Jbh hz (by omega),O.nx ((A1.step s2).re e ev (Jeg (.int _) _ f2) (by rw [Qr];exact h2)) hd⟩
    | none=>exact hd.elim
    | obj=>exact hd.elim
    | bool=>exact hd.elim
    | str=>exact hd.elim
    | tuple=>exact hd.elim
    | list=>exact hd.elim
   | none=>exact hk.elim
   | obj=>exact hk.elim
   | bool=>exact hk.elim
   | str=>exact hk.elim
   | tuple=>exact hk.elim
   | list=>exact hk.elim
 . exact h.elim⟩
end
theorem B4.len {S:Src}{ex:List Addr}{H:Hp}:∀ {as:List Vl}{vs:List V},B4 S ex H as vs->as.length=vs.length
 | [],[],_=>rfl
 | _::_,_::_,h=>by rw [Ue,Ue,B4.len h.2]
 | [],_::_,h=>h.elim
 | _::_,[],h=>h.elim
theorem B4.get {S:Src}{ex:List Addr}{H:Hp}:∀ {as:List Vl}{vs:List V}{i:Nat}{w:Vl},B4 S ex H as vs->as[i]? = some w->∃ v,vs[i]? = some v/\SlR S ex H w (some v)
 | [],[],_,_,_,e=>by simp at e
 | _::_,v::_,0,_,h,e=>by simp at e;subst e;exact ⟨v,rfl,h.1⟩
 | _::_,_::_,i+1,_,h,e=>by simpa using B4.get (i:=i) h.2 (by simpa using e)
 | [],_::_,_,_,h,_=>h.elim
 | _::_,[],_,_,h,_=>h.elim
noncomputable def Jhn:Vl->Bool
 | .own _ | .dct _ | .own2 _ _=>false
 | _=>true
noncomputable def Jf6 (N:List Str) (as:List Vl):List Vl:=as++Qo (N.length-as.length) .jnk
theorem Jho {S:Src}{ex:List Addr}{H:Hp}{as:List Vl}{vs:List V}{n:Nat}{N:List Str}(r:B4 S ex H as vs) (hp:as.all Jhn=true) (hc:∀ a∈S.ch,a∈ex) (al:Alc ex H) (iv:S.inv n H):At ⟨S,ex,H,[]⟩ ex (Jf6 N as) (start N vs) H n:=by
 have l:=r.len
 have no:∀ i,Jl (Jf6 N as) (start N vs) i=[]:=λ i=>by
  unfold Jl Jf6
  cases e:(as++Qo (N.length-as.length) Vl.jnk)[i]? with
  | none=>rfl
  | some w=>
   have:w∈as++Qo (N.length-as.length) Vl.jnk:=Xa e
   have hw:Jhn w=true:=by
    rcases Q6.mp this with h | h
    . exact X6.mp hp w h
    . rw [(Uq.mp h).2];rfl
   cases w with
   | own _=>cases hw
   | dct _=>cases hw
   | own2 _ _=>cases hw
   | _=>rfl
 refine ⟨⟨?_,λ i w e=>?_,hc,al,iv⟩,λ a h=>h,al,λ i j a h=>?_,λ i a h=>?_,.refl,λ h hh=>by cases hh⟩
 . unfold Jf6 L2.start
   rw [Xj,Xj,X5,X5,Qb,l];exact Qn _
 . unfold Jf6 at e
   by_cases hi:i<as.length
   . rw [Uv hi] at e
     obtain ⟨v,hv,sr⟩:=r.get e
     have:(start N vs)[i]? = some (some v):=by
      unfold L2.start
      rw [Uv (by rw [Qb,<- l];exact hi),Qj,hv];rfl
     rw [this]
     exact sr
   . rw [J3n (J39 hi)] at e
     have:w = .jnk:=(Uq.mp (Xa e)).2
     subst this
     trivial
 . rw [no] at h;cases h
 . rw [no] at h;cases h
noncomputable def Jyk (P:Yao->Nat->Prop):VEnds:={ nx:=λ _ n=>P .none n,rt:=P,rtn:=λ ds n=>P (.list ds) n,rt2:=λ xss n=>P (.list (xss.map .list)) n }
noncomputable def Jyl (P:List Yao->Nat->Prop):VEnds:={ nx:=λ _ _=>False,rt:=λ _ _=>False,rtn:=P }
theorem Jtr {C:Cv}{ps:List (Addr×List Yao)}{n:Nat}{a:Addr}{H:Hp}(al:Alc C.ex0 C.H0) (R:Ret2 C ps n a H):Rep C.ex0 H (.list ((ps.map (·.2)).map .list)) (.ref a):=by
 refine .list R.o.h (al.nm R.fr) (by unfold Yv;rw [Qb,Yau];have:=R.o.z;omega) ?_
 have:∀ qs:List (Addr×List Yao),(∀ q∈qs,q∈ps)->Reps C.ex0 H ((qs.map (·.2)).map .list) (Yv qs):=by
  intro qs
  induction qs with
  | nil=>exact λ _=>.nil
  | cons q qs ih=>
   intro hq
   have hm:=hq q Qh
   obtain ⟨vs,g1,g2,g3⟩:=(R.o.i q hm).h
   exact .cons (.list g1 (al.nm (R.frs q hm)) g2 (Reps.mono (λ b hb=>Xi _ hb) g3)) (ih λ x hx=>hq x (Qi _ hx))
 exact this ps λ _ h=>h
theorem Jv {sp:GSp}{gs:GS}{ts:TS}{N:List Str}{vs:List V}{H:Hp}{Q:VK}{E:XK} [T:SV ts gs] (h:Jk sp vs H Q E) (hs:∀ as n P,sp as n P->as.all Jhn=true/\gs (Jyk P) (Jf6 N as) n):ts { nx:=λ _ H'=>Q .non H',rt:=Q } (start N vs) H:=by
 obtain ⟨S,ex,as,n,P,r,hc,al,iv,p,q⟩:=h
 obtain ⟨hp,g⟩:=hs as n P p
 refine T.sv (C:=⟨S,ex,H,[]⟩) (G:=Jyk P) ⟨λ {ex' env σ H' n'} A h=>?_,λ _ h=>h.elim,λ _ h=>h.elim,λ R h=>?_,λ {ds n' a H'} R h=>?_,λ _ _ h=>h.elim,λ {ps n' a H'} R h=>?_⟩ (Jho r hp hc al iv) g
 . exact q _ _ _ _ h ⟨A.kp,A.ev.inv⟩ .none
 . exact q _ _ _ _ h ⟨R.kp,R.inv⟩ R.r
 . obtain ⟨ws,h1,h2,h3⟩:=R.r
   exact q _ _ _ _ h ⟨R.kp,R.inv⟩ (.list h1 (al.nm R.fr) h2 (Reps.sub h3))
 . exact q _ _ _ _ h ⟨R.kp,R.inv⟩ (Jtr al R)
theorem Vg {sp:GSn}{gs:GS}{ts:TS}{N:List Str}{vs:List V}{H:Hp}{Q:VK}{E:XK} [T:SV ts gs] (h:Z4 sp vs H Q E) (hs:∀ as n P,sp as n P->as.all Jhn=true/\gs (Jyl P) (Jf6 N as) n):ts { nx:=λ _ H'=>Q .non H',rt:=Q } (start N vs) H:=by
 obtain ⟨S,ex,as,n,P,r,hc,al,iv,p,q⟩:=h
 obtain ⟨hp,g⟩:=hs as n P p
 refine T.sv (C:=⟨S,ex,H,[]⟩) (G:=Jyl P) ⟨λ _ h=>h.elim,λ _ h=>h.elim,λ _ h=>h.elim,λ _ h=>h.elim,λ {ds n' a H'} R h=>?_,λ _ _ h=>h.elim,λ _ h=>h.elim⟩ (Jho r hp hc al iv) g
 obtain ⟨ws,h1,h2,h3⟩:=R.r
 exact q _ _ _ _ _ h ⟨R.kp,R.inv⟩ R.fr h1 h2 h3
theorem J3 {sp:GSp}{k:Nat}(h:∀ as n P,sp as n P->as.length=k):∀ vs H Q E,Jk sp vs H Q E->vs.length=k:=λ vs H Q E ⟨S,ex,as,n,P,r,_,_,_,p,_⟩=>by rw [<- r.len];exact h _ _ _ p
theorem Ba {sp:GSn}{k:Nat}(h:∀ as n P,sp as n P->as.length=k):∀ vs H Q E,Z4 sp vs H Q E->vs.length=k:=λ vs H Q E ⟨S,ex,as,n,P,r,_,_,_,p,_⟩=>by rw [<- r.len];exact h _ _ _ p
section
variable {turn:Yao->Nat->(Option Yao->Nat->Prop)->Prop}{items:List Yao}{n:Nat}{Q:List Yao->Nat->Prop}
end
theorem Fz.eq {a b:List Vl}(h:a=b):Fz a b:=h ▸ .refl
noncomputable abbrev Jwd (ns:List Int):Yao:=.list (ns.map .int)
theorem J14 {S:Src}{ex:List Addr}{H:Hp}{a b:Vl}{vs:List V}(h:B4 S ex H [a,b] vs):∃ u v,vs=[u,v]/\SlR S ex H a (some u)/\SlR S ex H b (some v):=by
 match vs,h with
 | [u,v],h=>exact ⟨u,v,rfl,h.1,h.2.1⟩
 | [],h=>exact h.elim
 | [_],h=>exact h.2.elim
 | _::_::_::_,h=>exact h.2.2.elim
theorem Zt {α:Type}{xs:List α}{i:Int}{d:α}(h0:0<=i) (h:xs[i.toNat]? = some d):atI xs i=some d:=by
 have:=(Qq.mp h).1
 unfold atI
 rw [Jbh h0 (by omega)]
 exact h
class SQ (te:TE) (g:outParam GN):Prop where
 sq:∀ {S:Src} {ex:List Addr} {env:List Vl} {σ:L2.St} {H:Hp} {n:Nat} {Q:VK} {P:List Yao->Nat->Prop},Ev S ex env σ H n->g env n P->(∀ ds n' a vs H',P ds n'->Yr S n' H H'->a∉S.ch->H' a=some (.lst vs)->vs.length<=sizeLine->Reps ex H' ds vs->Q (.ref a) H')->te σ H Q
abbrev gSq (i:Nat):GN:=λ env n Q=>match env[i]? with
 | some (.own xs)=>Q xs n
 | some (.d (.list xs))=>Q xs n
 | _=>False
instance (priority:=high) sq_var {i:Nat}:SQ (Z1 i) (gSq i):=⟨λ {S ex env σ H n Q P} E h k=>by
 unfold gSq at h
 split at h
 . rename_i xs e
   obtain ⟨a,vs,ev,h1,h2,h3,h4,h5⟩:=E.sl i _ e
   exact ⟨_,Jm ev,k _ _ _ _ _ h (.refl E.inv) h5 h1 h2 h3⟩
 . rename_i xs e
   obtain ⟨v,ev,r⟩:=E.sl i _ e
   cases r with
   | list e1 m z rs=>exact ⟨_,Jm ev,k _ _ _ _ _ h (.refl E.inv) (λ z=>m (E.ch _ z)) e1 z rs⟩
 . exact h.elim⟩
instance sq_nv {te:TE}{g:GN} [A:NV te g]:SQ te g:=⟨λ {S ex env σ H n Q P} E h k=>A.nv E h λ ds n1 a vs H1 h1 s1 ha hl hz r=>k _ _ _ _ _ h1 s1 (λ z=>S.dom E.inv a z ha) hl hz (Reps.sub r)⟩
abbrev J15 (ga gb:GN):GN:=λ env n Q=>ga env n λ xs n1=>gb env n1 λ ys n2=>xs.length+ys.length<=sizeLine/\Q (xs++ys) n2
instance (priority:=high) nv_catS {ta tb:TE}{ga gb:GN} [A:SQ ta ga] [B:SQ tb gb]:NV (tOp J09 ta tb) (J15 ga gb):=⟨λ {S ex env σ H n Q P} E h k=>
 A.sq E h λ xs n1 a vs H1 h1 s1 na ha hz r1=>B.sq (E.step s1) h1 λ ys n2 b us H2 h2 s2 nb hb hz2 r2=>by
  have r1':=(E.step s1).reps s2 r1
  have l1:=r1'.length
  have l2:=r2.length
  refine ⟨a,b,vs,us,rfl,rfl,s2.1 _ _ ha na,hb,by rw [<- l1,<- l2];exact h2.1,λ p hp=>?_⟩
  obtain ⟨c1,c2,c3⟩:=B5 E (s1.trans s2) hp (Reps.append r1' r2)
  exact k _ _ _ _ _ h2.2 c1 c2 Jg (by rw [Xj,<- l1,<- l2];exact h2.1) c3⟩
abbrev J3a (g:GN) (gl gh:List Vl->Nat->(Option Int->Nat->Prop)->Prop):GN:=λ env n Q=>g env n λ xs n1=>gl env n1 λ lo n2=>gh env n2 λ hi n3=>Q (Ji0 xs lo hi) n3
instance (priority:=high) nv_slS {K:Qc}{te:TE}{g:GN}{tl th:TO}{gl gh:List Vl->Nat->(Option Int->Nat->Prop)->Prop} [A:SQ te g] [B:OPV tl gl] [C:OPV th gh]:NV (tSl (J08 K) te tl th) (J3a g gl gh):=⟨λ {S ex env σ H n Q P} E h k=>
 A.sq E h λ xs n1 a vs H1 h1 s1 na ha hz r1=>B.op (E.step s1) h1 λ lo n2 H2 h2 s2=>C.op (E.step (s1.trans s2)) h2 λ hi n3 H3 h3 s3=>by
  have r3:=(E.step s1).reps (s2.trans s3) r1
  refine ⟨a,vs,rfl,SqL.of ((s2.trans s3).1 _ _ ha na),λ p hp=>?_⟩
  obtain ⟨c1,c2,c3⟩:=B5 E ((s1.trans s2).trans s3) hp (Jtp r3 lo hi)
  exact k _ _ _ _ _ h3 c1 c2 Jg (Xm (Jf0 _ _ _) hz) c3⟩
section
variable {X:Cx}
end
section
variable {K:Qc}{H:Hp}{ex:List Addr}
end
def Jz4 {α β:Type}(R:α->β->Prop):List α->List β->Prop
 | [],[]=>True
 | x::xs,y::ys=>R x y/\Jz4 R xs ys
 | _,_=>False
noncomputable def fl (u:Nat) (f:Nat->Int):List Yao:=(Qk u).map λ i=>.int (f i)
theorem Jko (u:Nat) (f:Nat->Int):(fl u f).length=u:=by unfold fl;rw [Qb,Qy]
theorem Jkp {u:Nat}{f:Nat->Int}{i:Nat}(h:i<u):(fl u f)[i]? = some (.int (f i)):=by
 unfold fl;rw [Qj,Xl h];rfl
theorem Jts {u:Nat}{f g:Nat->Int}(h:∀ i,i<u->f i=g i):fl u f=fl u g:=by
 unfold fl
 exact X7 λ i hi=>by rw [h i (Xh.mp hi)]
theorem Vh {a b:Int}(ha:a.natAbs<2^9000) (hb:b.natAbs<2^9000):IntMulOk a b:=by
 have la:a.natAbs.log2<9000:=by
  by_cases h:a.natAbs=0
  . rw [h];decide
  . exact (J7a h).mpr ha
 have lb:b.natAbs.log2<9000:=by
  by_cases h:b.natAbs=0
  . rw [h];decide
  . exact (J7a h).mpr hb
 unfold IntMulOk
 intro h
 rw [Xx,Xx] at h
 have h3:=h.2
 have e1:J50 a<=9001:=by unfold J50;split<;>omega
 have e2:J50 b<=9001:=by unfold J50;split<;>omega
 have hbl:20000<=bitsLine:=by decide +kernel
 unfold Builtin.Int.intTooBig at h3
 simp at h3
 omega
theorem Ym {ws:List Way}{k:Int}(h0:0<=k) (h1:k<ws.length):Je ws k∈ws:=by
 unfold Je
 rw [Qg,Qd (by omega)]
 exact Xe _
noncomputable abbrev Jfg (U:Int) (f:Nat->Int):Yao:=.tuple (fl U.toNat f)
theorem Jdf {ws:List Way}{k:Int}(h0:0<=k) (h1:k<ws.length):atI (ws.map Y6) k=some (Y6 (Je ws k)):=by
 refine Zt h0 ?_
 rw [Qj,Qd (by omega)]
 unfold Je
 rw [Qg,Qd (by omega)]
 rfl
theorem Jwe {α:Type}{xs:List α}{x:α}(h:xs≠[]) (e:xs.getLast? = some x):atI xs (-1)=some x:=by
 have hl:0<xs.length:=J5x.mpr h
 unfold atI ixN
 rw [if_neg (by omega),if_pos (by omega)]
 show xs[(-1+(xs.length:Int)).toNat]? = some x
 rw [show (-1+(xs.length:Int)).toNat=xs.length-1 by omega,<- J9e]
 exact e
theorem B8 (xs ys:List Yao):(W9 xs ys).length=min xs.length ys.length:=by unfold W9;exact J5z
theorem Jym (U:Int):(Qo U.toNat [Qv 0]).flatten=fl U.toNat λ _=>0:=by
 unfold fl
 induction U.toNat with
 | zero=>rfl
 | succ n ih=>rw [List.replicate_succ',J4t,Xb,List.flatten_append,ih];rfl
theorem Wy {turn:Yao->Nat->(Option Yao->Nat->Prop)->Prop}{u n:Nat}{Q:List Yao->Nat->Prop}{e:Nat->Yao}(f:Nat->Yao) (h:∀ i,i<u->∀ n K,K (some (f i)) n->turn (e i) n K) (q:Q ((Qk u).map f) n):Jgd turn ((Qk u).map e) n Q:=by
 have key:∀ (l:List Nat) (n:Nat) (Q:List Yao->Nat->Prop),(∀ i∈l,i<u)->Q (l.map f) n->Jgd turn (l.map e) n Q:=by
  intro l
  induction l with
  | nil=>intro n Q _ q;exact q
  | cons x xs ih=>intro n Q hl q;exact h x (hl x Qh) _ _ (ih _ _ (λ i hi=>hl i (Qi _ hi)) q)
 exact key _ _ _ (λ i hi=>Xh.mp hi) q
theorem Jc4 {c:Bool}{A B:Prop}(h:c=true) (a:A):if c=true then A else B:=by rw [if_pos h];exact a
theorem Jbw {c:Bool}{A B:Prop}(h:c=false) (b:B):if c=true then A else B:=by rw [if_neg (by rw [h];exact Q2)];exact b
theorem Jhp {i j:Int}{Q:Yao->Prop}(h:Q (.bool (decide (i=j)))):fEq false (.int i) (.int j) Q:=h
theorem Jyn {i j:Int}{Q:Yao->Prop}(h:Q (.bool (!decide (i=j)))):fEq true (.int i) (.int j) Q:=h
noncomputable def Jtt:VEnds:={ nx:=λ _ _=>False,rt:=λ d _=>d = .bool true,rtn:=λ _ _=>False }
end My
namespace L2
structure FunD (K:Qc) (x qual:Str) (st:Stmt) (f:Addr) (fd:Yaz):Prop where
 ex:∃ (oc:Yan) (od:Option Addr) (dV kV doc pm:Yan) (an:Option Addr) (cdv ct:Yan) (osl:Array (Option Yan)),
  fd=X3 x qual (Wi st) (Z3 st) (Jd st) dV kV doc pm an cdv ct/\K.lookup f=some ⟨oc,od,.func fd,osl⟩/\J3o K cdv qual=true
 kp:Uj K (.ref f)=true
theorem FunD.ok {P:Yas}{w:Yar}{K:Qc}{mg:Str->Option Yan}{base:Heap}{x qual:Str}{st:Stmt}{f:Addr}{fd:Yaz}{N ps:List Str}{k:Nat}{sp:Sp}(F:FunD K x qual st f fd) (S:FnScope N ps (Jd st)) (len:∀ vs H Q E,sp vs H Q E->vs.length=ps.length)
 (hbody:∀ (cdv:Yan) (A:Yat) (outer:List Env) (s:Yap) (H:Hp) (vs:List V) (Q:VK) (E:XK),Room k (A.deeper (envOfC qual (Jd st) s.heap.objs.size f cdv))->sp vs H Q E ->
  ∃ t,PSs (Jof CX0 P w K mg base N qual (Jd st) f cdv A outer s H E).nox (Z3 st) t/\t { nx:=λ _ H'=>Q .non H',rt:=Q } (start N vs) H):FnOk P w K mg base CX0 (k+1) f fd ps sp:=by
 obtain ⟨oc,od,dV,kV,doc,pm,an,cdv,ct,osl,rfl,lk,hcd⟩:=F.ex
 refine Jxz lk hcd S len λ A outer s H vs Q E hr hsp=>?_
 obtain ⟨t,h,q⟩:=hbody cdv A outer s H vs Q E hr hsp
 exact ⟨t,h.nox,q⟩
section
variable {X:Cx}{x:Str}{e:Expr}{es:List Expr}{p pos:Pos}{t:TA}{k:Nat}{ps:List Str}{sp:Sp}{i:Int}
end
end L2
namespace My
open L2
theorem Jkq {t u:GS}{G:VEnds}{env:List Vl}{n:Nat}(Mid:List Vl->Nat->Prop) (h1:∀ N:List Vl->Nat->Prop,(∀ e k,Mid e k->N e k)->t { G with nx:=N } env n) (h2:∀ e k,Mid e k->∃ e2,Fz e e2/\u G e2 k):Jz2 t u G env n:=h1 _ h2
noncomputable abbrev GSx:=List Vl->Nat->(Yao->Nat->Prop)->(Addr->Nat->Prop)->Prop
theorem J16 (xs:List Yao) (u:Nat) (hl:xs.length=u) (h:∀ x∈xs,∃ i:Int,x = .int i):∃ f:Nat->Int,xs=fl u f:=by
 subst hl
 induction xs with
 | nil=>exact ⟨λ _=>0,rfl⟩
 | cons x xs ih=>
  obtain ⟨i,rfl⟩:=h x Qh
  obtain ⟨f,hf⟩:=ih λ y hy=>h y (Qi _ hy)
  refine ⟨λ k=>match k with | 0=>i | k+1=>f k,?_⟩
  unfold fl at hf ⊢
  rw [Ue,J9f,Q0,Qw]
  exact congrArg (Qv i :: ·) hf
noncomputable def putF (f:Nat->Int) (k:Nat) (v:Int):Nat->Int:=λ i=>if i=k then v else f i
theorem Jhq (u:Nat) (f:Nat->Int) (k:Nat) (v:Int):(fl u f).set k (.int v)=fl u (putF f k v):=by
 apply X1
 intro i
 unfold fl putF
 rw [J4v,Qj,Qj]
 by_cases hk:k=i
 . subst hk
   rw [if_pos rfl,Qb,Qy]
   by_cases hu:k<u
   . rw [if_pos hu,Xl hu]
     simp
   . rw [if_neg hu,Qx (by simp;omega)]
     rfl
 . rw [if_neg hk]
   by_cases hu:i<u
   . rw [Xl hu]
     simp [show ¬ i=k from λ e=>hk e.symm]
   . rw [Qx (by simp;omega)]
     rfl
theorem Jkr {turn:Yao->Nat->(Option Yao->Nat->Prop)->Prop}{u n:Nat}{Q:List Yao->Nat->Prop}{e:Nat->Yao}(p:Nat->Bool) (f:Nat->Yao) (h:∀ i,i<u->∀ n K,(p i=true->K (some (f i)) n)->(p i=false->K none n)->turn (e i) n K) (q:Q (((Qk u).filter p).map f) n):Jgd turn ((Qk u).map e) n Q:=by
 have key:∀ (l:List Nat) (n:Nat) (Q:List Yao->Nat->Prop),(∀ i∈l,i<u)->Q ((l.filter p).map f) n->Jgd turn (l.map e) n Q:=by
  intro l
  induction l with
  | nil=>intro n Q _ q;exact q
  | cons x xs ih=>
   intro n Q hl q
   refine h x (hl x Qh) _ _ (λ hp=>?_) (λ hp=>?_)
   . rw [J4w hp] at q
     exact ih _ _ (λ i hi=>hl i (Qi _ hi)) q
   . rw [J4x (by rw [hp];exact Q2)] at q
     exact ih _ _ (λ i hi=>hl i (Qi _ hi)) q
 exact key _ _ _ (λ i hi=>Xh.mp hi) q
def Jhr:GSp:=λ as n Q=>∃ (R U:Int) (ws:List Way) (k:Int),as=[.d (J8 R U ws),.d (.int k)]/\(0<=k/\k<ws.length)/\Q (.bool true) n
def Jfh:GSp:=λ as n Q=>∃ (x a b:Int),as=[.d (.int x),.d (.int a),.d (.int b)]/\Q (.bool (decide (a<=x)&&decide (x<=b))) n
def Jeh:GSp:=λ as n Q=>∃ (x:Int),as=[.d (.int x)]/\Q (.bool true) n
theorem Jz5 {x:Yao}{Q:Yao->Prop}(h:x.canLay0=true) (hd:x.depth<=50) (q:Q (.bool false)):Jv9 true x x Q:=⟨⟨h,h,Xm (J9g _ _) hd⟩,by rw [J7u _ h];exact q⟩
theorem Jrw (u:Nat) (f:Nat->Int):fl u f=((Qk u).map f).map .int:=by unfold fl;rw [Qw];rfl
theorem Jqb {k i:Nat}{y:Yao}(h:(Ji1 0 k)[i]? = some y):i<k/\y = .int i:=by
 have hi:=(Qq.mp h).1
 rw [Yn] at hi
 refine ⟨hi,?_⟩
 unfold Ji1 at h
 rw [Qj,Xl hi] at h
 cases h
 simp
def Jfi:GSp:=λ as n Q=>∃ many:Int,as=[.tape,.d (.int many)]/\n<2^40/\0<many/\many<2^9000/\∀ r:Int,0<=r->r<many->Q (.int r) (n+1)
instance scal_draw:Scal Jfi:=⟨λ {as n P} h=>by
 obtain ⟨many,e,hn,h0,h1,q⟩:=h
 exact ⟨many,e,hn,h0,h1,λ r r0 r1=>⟨rfl,q r r0 r1⟩⟩⟩
theorem Jtu:∀ (vs:List V) (H:Hp) (Q:VK) (E:XK),Jk Jfi vs H Q E->Jop vs H Q E:=λ vs H Q E h=>by
 obtain ⟨S,ex,as,n,P,r,hc,al,iv,⟨many,rfl,hn,h0,h1,q⟩,k⟩:=h
 obtain ⟨u,v,rfl,⟨p,c,rfl,eu⟩,⟨w,ew,rw'⟩⟩:=J14 r
 cases eu
 cases ew
 cases rw'
 exact ⟨p,c,n,many,rfl,iv,hn,h0,h1,λ r H' r0 r1 J' kp=>k _ _ _ _ (q r r0 r1) ⟨kp,J'⟩ (.int r)⟩
theorem Jow {K:Qc}{N:List Str}{vs:List V}{H:Hp}{Q:VK}{E E':XK}{rest:TS}{gs:GS} [T:SV rest gs] (hN:2<=N.length) (h:Jma K vs H Q E) (hs:gs Jtt (.jnk :: .tape::Qo (N.length-2) .jnk) 0) :
 Jax (Jd3 (Jjh (Jkg K) [] E' (Yj (Z1 0) Jbx)) (Bt 1)) rest { nx:=λ _ H'=>Q .non H',rt:=Q } (L2.start N vs) H:=by
 obtain ⟨a,ns,rfl,hS,hlen,q⟩:=h
 have est:L2.start N [V.ref a]=some (V.ref a)::none::Qo (N.length-2) none:=by
  unfold L2.start
  rw [show N.length-[V.ref a].length=(N.length-2)+1 by simp;omega]
  rfl
 rw [est]
 refine ⟨_,rfl,a,ns,rfl,hS,hlen,λ p c H1 k1 _ _ J=>?_⟩
 have al:Alc [p,c] H1:=λ b hb z=>J.fresh z hb
 have no:∀ i,Jl (.jnk :: .tape::Qo (N.length-2) .jnk) (some (V.ref a)::some (V.ref p)::Qo (N.length-2) none) i=[]:=λ i=>by
  unfold Jl
  cases e:((.jnk :: .tape::Qo (N.length-2) .jnk:List Vl))[i]? with
  | none=>rfl
  | some w=>
   have hm:=Xa e
   have:w = .jnk\/w = .tape:=by
    rcases Qf.mp hm with h | h
    . exact .inl h
    . rcases Qf.mp h with h | h
      . exact .inr h
      . exact .inl (Uq.mp h).2
   rcases this with rfl | rfl<;>rfl
 refine T.sv (C:=⟨Src.tape p c,[p,c],H1,[]⟩) (G:=Jtt) ⟨λ _ h=>h.elim,λ _ h=>h.elim,λ _ h=>h.elim,λ {d n v H'} R h=>?_,λ _ h=>h.elim,λ _ _ h=>h.elim,λ _ h=>h.elim⟩ (ex:=[p,c]) (env:=.jnk :: .tape::Qo (N.length-2) .jnk) (σ:=some (V.ref a)::some (V.ref p)::Qo (N.length-2) none) ⟨⟨?_,λ i w e=>?_,λ b h=>h,al,J⟩,λ b h=>h,al,λ i j b h=>?_,λ i b h=>?_,.refl,λ x hx=>by cases hx⟩ hs
 . cases h
   have r:=R.r
   cases r
   exact q _
 . simp
 . match i with
   | 0=>cases e;trivial
   | 1=>cases e;exact ⟨p,c,rfl,rfl⟩
   | i+2=>
    have:w = .jnk:=(Uq.mp (Xa (by simpa using e))).2
    subst this
    trivial
 . rw [no] at h;cases h
 . rw [no] at h;cases h
def Jks:GSp:=λ as n Q=>∃ mr mu mw:Int,as=[.tape,.d (.tuple [.int mr,.int mu,.int mw])]/\n<2^30/\(1<=mr/\mr<=12)/\(1<=mu/\mu<=6)/\(0<=mw/\mw<=36)/\∀ (R U:Int) (ws:List Way) (m:Nat),BookOk R U ws->R<=mr->U<=mu->m<=n+2000->Q (J8 R U ws) m
theorem Jmm {turn:Yao->Nat->(Option Yao->Nat->Prop)->Prop}{items:List Yao}{n:Nat}{Q:List Yao->Nat->Prop}(c B:Nat) (R:Yao->Prop) (h:∀ x∈items,∀ n K,n<=B->(∀ y n',R y->n'<=n+c->K (some y) n')->turn x n K) (hB:n+c*items.length<=B) (q:∀ ys n',ys.length=items.length->(∀ y∈ys,R y)->n'<=n+c*items.length->Q ys n'):Jgd turn items n Q:=by
 induction items generalizing n Q with
 | nil=>exact q [] n rfl (λ y hy=>by cases hy) (J4s _ _)
 | cons x xs ih=>
  rw [Ue,Nat.mul_add] at hB
  refine h x Qh _ _ (by omega) λ y n' hy hn=>ih (λ z hz=>h z (Qi _ hz)) (by omega) λ ys n2 hl hr hn2=>q _ _ (by simp [hl]) (λ z hz=>?_) (by rw [Ue,Nat.mul_add];omega)
  rcases Qf.mp hz with rfl | hz
  . exact hy
  . exact hr z hz
noncomputable def Jf7 (a b U:Int) (f:Nat->Int):Way:=⟨a,b,(Qk U.toNat).map f⟩
theorem Jhs (a b U:Int) (f:Nat->Int):Ub [.int a,.int b,Jfg U f]=Y6 (Jf7 a b U f):=by
 unfold Y6 Jf7 Jfg
 rw [Jrw]
theorem Jht {R a b U:Int}{f:Nat->Int}(ha:0<=a/\a<R) (hb:0<=b/\b<R) (hU:0<=U) (hf:∀ i,i<U.toNat->-99<=f i/\f i<=99):WayOk R U (Jf7 a b U f):=by
 refine ⟨ha.1,ha.2,hb.1,hb.2,?_,λ x hx=>?_⟩
 . show (((Qk U.toNat).map f).length:Int)=U
   rw [Qb,Qy];omega
 . obtain ⟨i,hi,rfl⟩:=Qm.mp hx
   exact hf i (Xh.mp hi)
theorem Jz6 (ys:List Yao) (u:Nat) {lo hi:Int}(hl:ys.length=u) (h:∀ y∈ys,∃ i:Int,y = .int i/\lo<=i/\i<=hi):∃ f:Nat->Int,ys=fl u f/\∀ i,i<u->lo<=f i/\f i<=hi:=by
 obtain ⟨f,rfl⟩:=J16 ys u hl λ y hy=>(h y hy).imp λ i hi=>hi.1
 refine ⟨f,rfl,λ i hi=>?_⟩
 have hm:Qv (f i)∈fl u f:=by unfold fl;exact Qm.mpr ⟨i,Xh.mpr hi,rfl⟩
 obtain ⟨j,e,h1⟩:=h _ hm
 cases e
 exact h1
theorem Jkt {u:Nat}{f:Nat->Int}{k:Nat}{v lo hi:Int}(h:∀ i,i<u->lo<=f i/\f i<=hi) (hv:lo<=v/\v<=hi):∀ i,i<u->lo<=putF f k v i/\putF f k v i<=hi:=λ i hi'=>by
 unfold putF
 split
 . exact hv
 . exact h i hi'
abbrev J3b (g:GE):GT:=λ env n Q=>g env n λ d n1=>match d with
 | .list xs=>Q (!xs.isEmpty) n1
 | .tuple xs=>Q (!xs.isEmpty) n1
 | _=>False
theorem Jhu {ex:List Addr}{H:Hp}{ds:List Yao}{vs:List V}(r:Reps ex H ds vs):ds.isEmpty=vs.isEmpty:=by
 cases r<;>rfl
def J17 (K:Qc) (te:TE):TT:=λ σ H Q=>te σ H λ x H'=>∃ k,Jzg K x H' k/\Q k H'
theorem Jtv {X:Cx}{a:Expr}{ta:TE}(ha:PE X a ta) (he:∀ whole,isTrue a X.env whole=(do let v <- whole;Ya5 a.pos;holding [v] (truthy v))):PT X a (J17 X.K ta):=Jsz ha he
instance tv_tru {K:Qc}{te:TE}{g:GE} [A:EV false te g]:TV (J17 K te) (J3b g):=⟨λ {S ex env σ H n Q P} E h k=>A.ev E h λ d n1 v H1 h1 s1 r1=>by
 cases r1 with
 | list e m z rs=>exact ⟨_,.inl ⟨_,SqL.of e,rfl⟩,by rw [<- Jhu rs];exact k _ _ _ h1 s1⟩
 | tuple e m z rs=>exact ⟨_,.inr (.inl ⟨_,SqT.of e,rfl⟩),by rw [<- Jhu rs];exact k _ _ _ h1 s1⟩
 | none=>exact h1.elim
 | obj=>exact h1.elim
 | bool=>exact h1.elim
 | str=>exact h1.elim
 | int=>exact h1.elim⟩
noncomputable abbrev MT:Int:=10^100-1
theorem Jb9 (n:Nat) (d:Yao):(Qo n [d]).flatten=Qo n d:=by
 induction n with
 | zero=>rfl
 | succ n ih=>rw [U6,J3y,ih,U6];rfl
mutual
noncomputable def nd:Yao->Nat
 | .tuple ds=>1+nds ds
 | _=>0
noncomputable def nds:List Yao->Nat
 | []=>0
 | d::r=>nd d+nds r
end
mutual
noncomputable def smI:Yao->Bool
 | .int i=>decide (i<=MT)
 | .tuple ds=>Jz7 ds
 | .list ds=>Jz7 ds
 | _=>true
noncomputable def Jz7:List Yao->Bool
 | []=>true
 | d::r=>smI d&&Jz7 r
end
end My
namespace HT
section
variable {prog:Yas}{w:Yar}{A:Yat}{E:Yan->Yap->Prop}{s:Yap}
end
end HT
namespace L2
section
variable {X:Cx}{e st:Expr}{te:TE}{ts:TO}{pos p2:Pos}
end
end L2
namespace My
open L2
section
variable {b:Bool}{te:TE}{g:GE}
end
noncomputable def gdB (d:Yao):Bool:=d.canLay0&&(d.intsShort 101&&(d.showable&&smI d))
theorem Jca {s t:Str}{Q:Yao->Prop}(h:Q (.bool (decide (s=t)))):fEq false (.str s) (.str t) Q:=h
section
variable {d:Yao}{k n g:Int}(hg:gdB d=true) (gk:gdB (.int k)=true) (wk:(Qv k).weight<=10) (gn:gdB (.int n)=true) (wn:(Qv n).weight<=10) (gg:gdB (.int g)=true) (wg:(Qv g).weight<=333)
include hg gk wk gn wn gg wg
end
end My
namespace L2
section
variable {X:Cx}
end
end L2
namespace My
open L2
theorem Jmn {turn:Yao->Nat->(Option Yao->Nat->Prop)->Prop}{n:Nat}{R:Yao->Yao->Prop}:∀ {items:List Yao}{Q:List Yao->Nat->Prop},(∀ x∈items,∀ K,(∀ y,R x y->K (some y) n)->turn x n K)->(∀ ys,Jz4 R items ys->Q ys n)->Jgd turn items n Q
 | [],Q,_,q=>q [] trivial
 | x::xs,Q,h,q=>h x Qh _ λ y hy=>Jmn (R:=R) (λ z hz=>h z (Qi _ hz)) λ ys hys=>q (y::ys) ⟨hy,hys⟩
section
variable {S:Src}{ex L:List Addr}{H H1 H2:Hp}{w:Vl}{o:Option V}
theorem SlR.adds:∀ {L:List Addr},(∀ b∈L,H b=none)->SlR S ex H w o->SlR S (L++ex) H w o
 | [],_,r=>r
 | l::L,h,r=>SlR.add (h l Qh) (SlR.adds (λ b hb=>h b (Qi _ hb)) r)
theorem Jmo {je:List Vl}{σ0 σ':L2.St}{n1 n2 k:Nat}(E:Ev S ex je σ0 H1 n1) (hL:∀ b∈L,H1 b=none) (kp:Kp (L++S.ch) H1 H2) (h2:∀ b∈L,H2 b≠none) (iv:S.inv n2 H2) (hj:∀ j:Nat,j<k->je[j]? = none\/je[j]? = some .jnk) (hs:∀ j:Nat,k<=j->σ'[j]? = σ0[j]?) (hz:σ'.length = σ0.length):Ev S (L++ex) je σ' H2 n2:=by
 have hc:∀ a∈S.ch,a∈L++ex:=λ a h=>Xi _ (E.ch a h)
 have kx:Kp (L++ex) H1 H2:=kp.mono λ b hb=>(Q6.mp hb).elim (λ h=>Xn _ h) λ h=>hc b h
 have st:∀ {a:Addr} {u:HO},H1 a=some u->a∉S.ch->H2 a=some u:=λ {a u} e nc=>kp _ _ e λ z=>(Q6.mp z).elim (λ h=>by rw [hL a h] at e;cases e) nc
 refine ⟨by rw [hz];exact E.len,λ j w e=>?_,hc,λ a ha=>?_,iv⟩
 . by_cases hjk:j<k
   . rcases hj j hjk with h | h
     . rw [h] at e;cases e
     . rw [h] at e;cases e;trivial
   . rw [hs j (J39 hjk)]
     have h:=SlR.adds hL (E.sl j w e)
     cases w with
     | jnk=>trivial
     | jar=>exact h
     | tape=>exact h
     | d x=>obtain ⟨v,e,r⟩:=h;exact ⟨v,e,r.keep kx⟩
     | pin v x=>obtain ⟨e,r⟩:=h;exact ⟨e,r.keep kx⟩
     | own xs=>obtain ⟨a,vs,e,h1,h2,h3,h4,h5⟩:=h;exact ⟨a,vs,e,st h1 h5,h2,h3.keep kx,h4,h5⟩
     | dct kvs=>obtain ⟨a,kws,e,h1,⟨h2,h3⟩,h4,h5⟩:=h;exact ⟨a,kws,e,st h1 h5,⟨h2,h3.keep kx⟩,h4,h5⟩
     | own2 ks ps=>obtain ⟨a,e,q⟩:=h;exact ⟨a,e,st q.h q.c,q.z,q.k,q.nd,q.m,q.c,λ p hp=>let w:=q.i p hp;⟨w.m,w.c,let ⟨vs,h1,h2,h3⟩:=w.h;⟨vs,st h1 w.c,h2,h3.keep kx⟩⟩⟩
 . rcases Q6.mp ha with ha | ha
   . exact h2 a ha
   . by_cases hac:a∈S.ch
     . exact S.dom iv a hac
     . intro z
       cases e:H1 a with
       | none=>exact E.al a ha e
       | some u=>rw [st e hac] at z;cases z
end
abbrev GN2:=List Vl->Nat->(List (List Yao)->Nat->Prop)->Prop
class N2 (te:TE) (g:outParam GN2):Prop where
 n2:∀ {S:Src} {ex:List Addr} {env:List Vl} {σ:L2.St} {H:Hp} {n:Nat} {Q:VK} {P:List (List Yao)->Nat->Prop},Ev S ex env σ H n->g env n P ->
  (∀ (ps:List (Addr×List Yao)) (n':Nat) (a:Addr) (H':Hp),P (ps.map (·.2)) n'->Yr S n' H H'->H a=none->(∀ p∈ps,H p.1=none)->Own2 S (a::ps.map (·.1)++ex) H' none ps a->Q (.ref a) H')->te σ H Q
def Jku (f:Yao->Nat->(List Yao->Nat->Prop)->Prop):List Yao->Nat->(List (List Yao)->Nat->Prop)->Prop
 | [],n,Q=>Q [] n
 | x::xs,n,Q=>f x n λ d n1=>Jku f xs n1 λ ys n2=>Q (d::ys) n2
abbrev Jkv (bd:GG) (gn:GN) (env:List Vl):Yao->Nat->(List Yao->Nat->Prop)->Prop:=λ x n Q=>bd x env λ env'=>gn env' n Q
abbrev Jz8 (gi:GN) (k:Nat) (idx ks:List Nat) (bd:GG) (gn:GN):GN2:=λ env n Q=>gi env n λ items n1=>(ks.all (λ i=>decide (i<k))=true/\items.length<=1000000/\items.all Vw=true)/\Jku (Jkv bd gn (Jde k idx env)) items n1 Q
instance n2_comp {wi:TI}{gi:GN}{k:Nat}{idx ks:List Nat}{g:TG}{bd:GG}{te:TE}{gn:GN} [I:IC wi gi] [G:GV g bd ks] [A:NV te gn]:N2 (B1 wi k idx g Jgl te) (Jz8 gi k idx ks bd gn):=⟨λ {S ex env σ H n Q P} E h kk=>by
 refine I.ic E h λ items n1 J H1 hc s1 hit l hl=>?_
 obtain ⟨⟨hk,hz,hsc⟩,hc⟩:=hc
 have hs:sizeLine=16777216:=Yau
 have E1:=Jhl (E.step s1) k idx
 have lch:l∉S.ch:=λ z=>S.dom s1.2 l z hl
 have hkk:∀ i∈ks,i<k:=λ i hi=>of_decide_eq_true (X6.mp hk i hi)
 refine ⟨λ i m σ' H2=>i<=items.length/\m=items.length-i/\∃ (n2:Nat) (ps:List (Addr×List Yao)),Jku (Jkv bd gn (Jde k idx env)) (items.drop i) n2 (λ ys n'=>P (ps.map (·.2)++ys) n')/\Kp (l::S.ch) H1 H2/\H2 l=some (.lst (Yv ps))/\ps.length<=i/\(∀ p∈ps,H1 p.1=none)/\(l::ps.map (·.1)).Nodup/\(∀ p∈ps,In2 S (l::ps.map (·.1)++ex) H2 p)/\S.inv n2 H2/\(∀ j:Nat,k<=j->σ'[j]? = (Yl k idx σ)[j]?)/\σ'.length=(Yl k idx σ).length,
  ⟨items.length,Xo _,rfl,n1,[],by simpa using hc,Kp.new hl _,Jg,Qn _,(λ p hp=>by cases hp),by simp,(λ p hp=>by cases hp),S.keep s1.2 λ b _ o' e=>Kp.new (ex:=[]) hl _ _ _ e (by simp),λ _ _=>rfl,rfl⟩,?_⟩
 rintro i m σ' H2 ⟨hi,rfl,n2,ps,hcm,kp,h2l,hvl,hno,hnd,hin,iv2,hsl,hln⟩
 have hL:∀ b∈l::ps.map (·.1),H1 b=none:=λ b hb=>by
  rcases Qf.mp hb with rfl | hb
  . exact hl
  . obtain ⟨p,hp,rfl⟩:=Qm.mp hb
    exact hno p hp
 have hL2:∀ b∈l::ps.map (·.1),H2 b≠none:=λ b hb=>by
  rcases Qf.mp hb with rfl | hb
  . rw [h2l];exact Xp _
  . obtain ⟨p,hp,rfl⟩:=Qm.mp hb
    obtain ⟨vs,h1,_⟩:=(hin p hp).h
    rw [h1];exact Xp _
 have E2:Ev S (l::ps.map (·.1)++ex) (Jde k idx env) σ' H2 n2:=Jmo E1 hL (kp.mono λ b hb=>(Qf.mp hb).elim (λ e=>by rw [e];exact Xn _ Qh) λ h=>Xi _ h) hL2 iv2 Jhm hsl hln
 have IT:=hit l H2 hl kp λ a ha=>(Qf.mp ha).elim (λ e=>by rw [e,h2l];exact Xp _) λ h=>E2.al a (Xi _ h)
 rcases Xy i items.length with hlt | hge
 . refine .inr ⟨(IT.2 i items[i] (Qd hlt)).1,λ x H3 y=>?_⟩
   obtain ⟨kp3,rx⟩:=(IT.2 i items[i] (Qd hlt)).2 x H3 y
   have rx':=Jhj (X6.mp hsc items[i] (Xe hlt)) rx (l::ps.map (·.1)++ex)
   rw [J7s hlt] at hcm
   have st3:Yr S n2 H2 H3:=Yr.new E2.inv kp3
   have E3:=E2.step st3
   refine G.gv E3 rx' hcm λ env' σ2 ht E4 _ hs2' hl2=>tv_noTest.tv E4 (P:=λ c n'=>c=true/\n'=n2) ⟨rfl,rfl⟩ λ c n4 H4 h4 s4=>?_
   obtain ⟨rfl,rfl⟩:=h4
   have hs2:∀ j:Nat,k<=j->σ2[j]? = (Yl k idx σ)[j]?:=λ j hj=>by
    rw [hs2' j λ z=>by have:=hkk j z;omega];exact hsl j hj
   refine A.nv (E4.step s4) ht λ ds n5 a vs H5 h5 s5 ha hla hzv r5=>?_
   have s24:=st3.trans s4
   have s25:=s24.trans s5
   have k5:Kp S.ch H2 H5:=s25.1
   have h5l:H5 l=some (.lst (Yv ps)):=k5 _ _ h2l lch
   have an:a∉l::ps.map (·.1)++ex:=λ z=>(E4.step s4).al a z ha
   have ac:a∉S.ch:=λ z=>an (E4.ch a z)
   have ha1:H1 a=none:=by
    cases e:H1 a with
    | none=>rfl
    | some u=>
     have e2:=kp a u e λ z=>(Qf.mp z).elim (λ q=>an (by rw [q];exact Xn _ Qh)) ac
     rw [s24.1 a u e2 ac] at ha;cases ha
   have al:a≠l:=λ e=>an (by rw [e];exact Xn _ Qh)
   have msub:∀ b∈l::(ps++[(a,ds)]).map (·.1)++ex,b∈a::(l::ps.map (·.1)++ex):=λ b hb=>by
    simp only [Xb,Q0,J3w,J4b,Qf,Q6,X0,or_false] at hb ⊢
    rcases hb with h | (h | h) | h
    . exact .inr (.inl h)
    . exact .inr (.inr (.inl h))
    . exact .inl h
    . exact .inr (.inr (.inr h))
   have mup:∀ b∈l::ps.map (·.1)++ex,b∈l::(ps++[(a,ds)]).map (·.1)++ex:=λ b hb=>by
    simp only [Xb,Q0,J3w,J4b,Qf,Q6,X0,or_false] at hb ⊢
    rcases hb with h | h | h
    . exact .inl h
    . exact .inr (.inl (.inl h))
    . exact .inr (.inr h)
   have lin:l∈l::(ps++[(a,ds)]).map (·.1)++ex:=Xn _ Qh
   refine ⟨Yv ps,h5l,by unfold Yv;rw [Qb];omega,_,(?_:items.length-(i+1)<_),hlt,rfl,n5,ps++[(a,ds)],?_,?_,?_,?_,?_,?_,?_,?_,hs2,hl2.trans hln⟩
   . omega
   . simpa using h5
   . exact (kp.trans (k5.mono λ b hb=>Qi _ hb)).trans (Kp.at Qh _)
   . rw [Jg];unfold Yv;rw [Xb];rfl
   . rw [Xj,Uw];omega
   . intro p hp
     rcases Q6.mp hp with hp | hp
     . exact hno p hp
     . rw [Qt.mp hp];exact ha1
   . rw [Xb,<- J4b]
     refine J51.mpr ⟨hnd,by simp,?_⟩
     intro b hb c hc e
     have e':b=a:=e.trans (Qt.mp hc)
     exact an (Xn _ (e'▸hb))
   . intro p hp
     rcases Q6.mp hp with hp | hp
     . have w:=hin p hp
       obtain ⟨us,g1,g2,g3⟩:=w.h
       have pl:p.1≠l:=λ e=>(Xr.mp hnd).1 (by rw [<- e];exact Qm.mpr ⟨p,hp,rfl⟩)
       refine ⟨mup p.1 w.m,w.c,us,by rw [Jf pl];exact k5 _ _ g1 w.c,g2,?_⟩
       have q4:Reps (l::ps.map (·.1)++ex) H4 p.2 us:=g3.keep (s24.1.mono E2.ch)
       have q5:Reps (a::(l::ps.map (·.1)++ex)) H5 p.2 us:=(Reps.add ha q4).keep (s5.1.mono λ b hb=>Qi _ (E2.ch b hb))
       exact (Reps.mono msub q5).keep (Kp.at lin _)
     . rw [Qt.mp hp]
       refine ⟨?_,ac,vs,by rw [Jf al];exact hla,hzv,(Reps.mono msub r5).keep (Kp.at lin _)⟩
       simp
   . exact S.keep s25.2 λ b hb o e=>by rw [Jf (λ z=>lch (by rw [<- z];exact hb))];exact e
 . have e:i=items.length:=by omega
   subst e
   rw [J7t] at hcm
   have hcm':P (ps.map (·.2)) n2:=by simpa [Jku] using hcm
   refine .inl ⟨IT.1,kk ps n2 l H2 hcm' ⟨λ b o e nb=>kp b o (s1.1 b o e nb) λ z=>(Qf.mp z).elim (λ e2=>by rw [e2,s1.free hl] at e;cases e) nb,iv2⟩ (s1.free hl) (λ p hp=>s1.free (hno p hp)) ⟨h2l,by omega,(λ _ h=>by cases h),hnd,Xn _ Qh,lch,hin⟩⟩⟩
theorem Rep.adds {ex:List Addr}{H:Hp}{d:Yao}{v:V}:∀ {L:List Addr},(∀ b∈L,H b=none)->Rep ex H d v->Rep (L++ex) H d v
 | [],_,r=>r
 | l::L,h,r=>Rep.add (h l Qh) (Rep.adds (λ b hb=>h b (Qi _ hb)) r)
section
variable {C:Cv}{ex:List Addr}{env:List Vl}{σ:L2.St}{H H':Hp}{n m:Nat}
theorem Jkw {i:Nat}{ks:Option (List Key)}{ps:List (Addr×List Yao)}{a b:Addr}(h:b∈Jl (env.set i (.own2 ks ps)) (σ.set i (some (.ref a))) i):b∈a::ps.map (·.1):=by
 unfold Jl at h
 split at h
 . rename_i e1 e2
   have:=Jaj e1
   cases this
 . rename_i e1 e2
   have:=Jaj e1
   cases this
 . rename_i c e1 e2
   have e3:(σ.set i (some (.ref a)))[i]? = some (some (.ref c)):=Jm e2
   have h3:=Jaj e3
   cases h3
   have h4:=Jaj e1
   cases h4
   exact h
 . cases h
theorem At.own2 (A:At C ex env σ H n) {i:Nat}{ks:Option (List Key)}{ps:List (Addr×List Yao)}{a:Addr}(s:Yr C.S m H H') (ha:H a=none) (hp:∀ p∈ps,H p.1=none) (q:Own2 C.S (a::ps.map (·.1)++ex) H' ks ps a) :
 At C (a::ps.map (·.1)++ex) (env.set i (.own2 ks ps)) (σ.set i (some (.ref a))) H' m:=by
 have hL:∀ b∈a::ps.map (·.1),H b=none:=λ b hb=>by
  rcases Qf.mp hb with rfl | hb
  . exact ha
  . obtain ⟨p,h,rfl⟩:=Qm.mp hb
    exact hp p h
 have hL2:∀ b∈a::ps.map (·.1),H' b≠none:=λ b hb=>by
  rcases Qf.mp hb with rfl | hb
  . rw [q.h];exact Xp _
  . obtain ⟨p,h,rfl⟩:=Qm.mp hb
    obtain ⟨vs,h1,_⟩:=(q.i p h).h
    rw [h1];exact Xp _
 have hc:∀ b∈C.S.ch,b∈a::ps.map (·.1)++ex:=λ b h=>Xi _ (A.ev.ch b h)
 have E1:Ev C.S (a::ps.map (·.1)++ex) env σ H' m:=by
  refine ⟨A.ev.len,λ j w e=>(SlR.adds hL (A.ev.sl j w e)).kp hc s.1,hc,λ b hb=>?_,s.2⟩
  rcases Q6.mp hb with hb | hb
  . exact hL2 b hb
  . exact A.ev.al.step s b hb
 refine ⟨E1.put ⟨a,rfl,q⟩,λ b h=>Xi _ (A.ex0 b h),A.al0,λ j k b h1 h2=>?_,λ j b h=>?_,A.kp.trans s.1,λ h hh=>(Rep.adds hL (A.held h hh)).keep (s.1.mono hc)⟩
 . by_cases hj:i=j
   . subst hj
     have e:=hL b (Jkw h1)
     by_cases hk:i=k
     . exact hk
     . rw [Vp hk] at h2
       exact absurd e (Jas A.ev h2).1
   . rw [Vp hj] at h1
     by_cases hk:i=k
     . subst hk
       exact absurd (hL b (Jkw h2)) (Jas A.ev h1).1
     . rw [Vp hk] at h2
       exact A.sep j k b h1 h2
 . by_cases hj:i=j
   . subst hj
     exact A.free (hL b (Jkw h))
   . rw [Vp hj] at h
     exact A.new j b h
theorem Jjt {i:Nat}{ks:Option (List Key)}{ps qs:List (Addr×List Yao)}(h:env[i]? = some (.own2 ks ps)) (e:qs.map (·.1)=ps.map (·.1)):∀ j,Jl (env.set i (.own2 ks qs)) σ j=Jl env σ j:=λ j=>by
 unfold Jl
 by_cases hj:i=j
 . subst hj
   rw [Q3 (Qq.mp h).1,h]
   cases (σ[i]?).join with
   | none=>rfl
   | some v=>cases v<;>first | rfl | (show _::_=_::_;rw [e])
 . rw [Q4 hj]
theorem Jei {α:Type}{l:List α}{m:Nat}{a b:α}(h:b∈l.set m a):b=a\/∃ k,k≠m/\l[k]? = some b:=by
 obtain ⟨k,hk⟩:=X4.mp h
 by_cases e:m=k
 . subst e
   exact .inl (Jaj hk)
 . rw [Q4 e] at hk
   exact .inr ⟨k,λ z=>e z.symm,hk⟩
theorem J18 {l:List Addr}(hn:l.Nodup) {k m:Nat}{a b:Addr}(h:l[k]? = some a) (g:l[m]? = some b) (e:k≠m):a≠b:=by
 intro z
 subst z
 obtain ⟨h1,h2⟩:=Qq.mp h
 obtain ⟨g1,g2⟩:=Qq.mp g
 have pw:=J52.mp hn
 rcases Nat.lt_or_gt_of_ne e with lt | gt
 . exact pw k m h1 g1 lt (h2.trans g2.symm)
 . exact pw m k g1 h1 gt (g2.trans h2.symm)
theorem At.re2 (A:At C ex env σ H n) {i j:Nat}{ks:Option (List Key)}{ps:List (Addr×List Yao)}{p:Addr×List Yao}{ys:List Yao}{ws:List V}{a:Addr}(h:env[i]? = some (.own2 ks ps)) (hs:(σ[i]?).join=some (.ref a)) (hp:ps[j]? = some p) (r:Reps ex H ys ws) (hz:ws.length<=sizeLine) :
 At C ex (env.set i (.own2 ks (ps.set j (p.1,ys)))) σ (upd H p.1 (.lst ws)) n:=by
 obtain ⟨a',e',q⟩:=A.ev.sl i _ h
 rw [hs] at e'
 cases e'
 have hpm:=Xa hp
 have hmap:(ps.set j (p.1,ys)).map (·.1)=ps.map (·.1):=by
  rw [X8]
  refine X1 λ k=>?_
  by_cases e:j=k
  . subst e
    rw [Q3 (by rw [Qb];exact (Qq.mp hp).1),Qj,hp];rfl
  . rw [Q4 e]
 have hrefs:Yv (ps.set j (p.1,ys))=Yv ps:=by
  have e1:∀ l:List (Addr×List Yao),Yv l=(l.map (·.1)).map V.ref:=λ l=>by unfold Yv;rw [Qw];rfl
  rw [e1,e1,hmap]
 have ha:p.1∈Jl env σ i:=by unfold Jl;rw [h,hs];exact Qi _ (Qm.mpr ⟨p,hpm,rfl⟩)
 obtain ⟨h1,h2,h3⟩:=Jas A.ev ha
 have h0:=A.new i p.1 ha
 have kx:Kp ex H (upd H p.1 (.lst ws)):=Kp.at h2 _
 have pa:a≠p.1:=λ z=>(Xr.mp q.nd).1 (by rw [z];exact Qm.mpr ⟨p,hpm,rfl⟩)
 have hn2:=(Xr.mp q.nd).2
 refine ⟨⟨by rw [Qr];exact A.ev.len,λ k w e=>?_,A.ev.ch,λ b hb=>?_,C.S.keep A.ev.inv λ b hb o e=>by rw [Jf (λ z=>h3 (by rw [<- z];exact hb))];exact e⟩,A.ex0,A.al0,λ k l b q1 q2=>?_,λ k b q=>?_,Kp.late A.kp h0 _,λ x hx=>(A.held x hx).keep kx⟩
 . by_cases hk:i=k
   . subst hk
     rw [Q3 (Qq.mp h).1] at e
     cases e
     refine ⟨a,hs,⟨by rw [Jf pa,hrefs];exact q.h,by rw [Qr];exact q.z,λ l hl=>by rw [Qr];exact q.k l hl,by rw [hmap];exact q.nd,q.m,q.c,λ t ht=>?_⟩⟩
     rcases Jei ht with rfl | ⟨k,hkj,hk⟩
     . exact ⟨h2,h3,ws,Jg,hz,r.keep kx⟩
     . have w:=q.i t (Xa hk)
       have tp:t.1≠p.1:=J18 hn2 (k:=k) (m:=j) (by rw [Qj,hk];rfl) (by rw [Qj,hp];rfl) hkj
       obtain ⟨us,g1,g2,g3⟩:=w.h
       exact ⟨w.m,w.c,us,by rw [Jf tp];exact g1,g2,g3.keep kx⟩
   . rw [Q4 hk] at e
     exact SlR.upd h2 (λ b hb z=>hk (A.sep i k p.1 ha (by rw [Jbk e,<- z];exact hb))) (A.ev.sl k w e)
 . by_cases hb2:b=p.1
   . rw [hb2,Jg];intro z;cases z
   . rw [Jf hb2];exact A.ev.al b hb
 . rw [Jjt h hmap] at q1 q2;exact A.sep k l b q1 q2
 . rw [Jjt h hmap] at q;exact A.new k b q
end
def Jju (i:Nat) (wi:TI) (k:Nat) (idx:List Nat) (g:TG) (tt:TT) (te:TE):TS:=Vu i wi k idx g tt te
theorem Jwf {X:Cx}{st:Stmt}{i:Nat}{wi:TI}{k:Nat}{idx:List Nat}{g:TG}{tt:TT}{te:TE}(h:PS X st (Vu i wi k idx g tt te)):PS X st (Jju i wi k idx g tt te):=h
abbrev Jyo (i:Nat) (g:GN2):GS:=λ G env n=>g env n λ xss n1=>∀ ps:List (Addr×List Yao),ps.map (·.2)=xss->G.nx (env.set i (.own2 none ps)) n1
instance sv_set2 {i:Nat}{wi:TI}{k:Nat}{idx:List Nat}{g:TG}{tt:TT}{te:TE}{gn:GN2} [E:N2 (B1 wi k idx g tt te) gn]:SV (Jju i wi k idx g tt te) (Jyo i gn):=⟨λ {C G D} O {ex env σ H n} A h=>
 show B1 wi k idx g tt te σ H (λ v H2=>D.nx (σ.set i (some v)) H2) from E.n2 A.ev h λ ps n1 a H1 h1 s1 ha hp q=>O.nx (A.own2 s1 ha hp q) (h1 ps rfl)⟩
abbrev Jz9 (i:Nat) (gx gy ge:GE):GS:=λ G env n=>ge env n λ d n1=>match env[i]? with
 | some (.own2 none ps)=>gx env n1 λ x n2=>(match x with
  | .int x=>∃ m p,ixN ps.length x=some m/\ps[m]? = some p/\gy env n2 λ y n3=>(match y with
   | .int y=>∃ m',ixN p.2.length y=some m'/\G.nx (env.set i (.own2 none (ps.set m (p.1,p.2.set m' d)))) n3
   | _=>False)
  | _=>False)
 | _=>False
theorem Jwg {ps:List (Addr×List Yao)}{x:Int}{m:Nat}{p:Addr×List Yao}(h:ixN ps.length x=some m) (hp:ps[m]? = some p):atI (Yv ps) x=some (V.ref p.1):=by
 unfold atI Yv
 rw [Qb,h]
 show (ps.map λ p=>V.ref p.1)[m]? = _
 rw [Qj,hp];rfl
instance sv_set2I {K:Qc}{i:Nat}{te tx ty:TE}{ge gx gy:GE} [E:EV true te ge] [X:EV false tx gx] [Y:EV false ty gy]:SV (Jd3 te (Jn4 (tOp (Jl4 K) (Z1 i) tx) ty Jf1)) (Jz9 i gx gy ge):=⟨λ {C G D} O {ex env σ H n} A h=>by
 refine E.ev A.ev h λ d n1 v H1 hd s1 r=>?_
 have A1:=A.step s1
 split at hd
 . rename_i ps e
   obtain ⟨a,ev,q⟩:=A1.ev.sl i _ e
   refine ⟨_,Jm ev,X.ev A1.ev hd λ x n2 xv H2 hx s2 rx=>?_⟩
   have A2:=A1.step s2
   cases rx with
   | int x=>
    obtain ⟨m,p,hm,hp,hy⟩:=hx
    obtain ⟨a2,ev2,q2⟩:=A2.ev.sl i _ e
    rw [ev] at ev2
    cases ev2
    refine ⟨a,Yv ps,x,_,rfl,rfl,SqL.of q2.h,Jwg hm hp,Y.ev A2.ev hy λ y n3 yv H3 hy' s3 ry=>?_⟩
    have A3:=A2.step s3
    obtain ⟨a3,ev3,q3⟩:=A3.ev.sl i _ e
    rw [ev] at ev3
    cases ev3
    cases ry with
    | int y=>
     obtain ⟨m',hm',hq⟩:=hy'
     obtain ⟨vs,g1,g2,g3⟩:=(q3.i p (Xa hp)).h
     have l:=g3.length
     have r3:Rep ex H3 d v:=A2.ev.rep s3 (A1.ev.rep s2 r)
     exact ⟨p.1,vs,y,m',rfl,rfl,g1,by rw [<- l];exact hm',O.nx (A3.re2 e ev hp (Jeg r3 m' g3) (by rw [Qr];exact g2)) hq⟩
    | none=>exact hy'.elim
    | obj=>exact hy'.elim
    | bool=>exact hy'.elim
    | str=>exact hy'.elim
    | tuple=>exact hy'.elim
    | list=>exact hy'.elim
   | none=>exact hx.elim
   | obj=>exact hx.elim
   | bool=>exact hx.elim
   | str=>exact hx.elim
   | tuple=>exact hx.elim
   | list=>exact hx.elim
 . exact hd.elim⟩
section
variable {C:Cv}{ex:List Addr}{env:List Vl}{σ:L2.St}{H H':Hp}{n m:Nat}
theorem At.more (A:At C ex env σ H n) {b:Addr}(s:Yr C.S m H H') (hb:H b=none) (h2:H' b≠none):At C (b::ex) env σ H' m:=by
 have hc:∀ c∈C.S.ch,c∈b::ex:=λ c h=>Qi _ (A.ev.ch c h)
 refine ⟨⟨A.ev.len,λ j w e=>(SlR.add hb (A.ev.sl j w e)).kp hc s.1,hc,λ c hc=>?_,s.2⟩,λ c h=>Qi _ (A.ex0 c h),A.al0,A.sep,A.new,A.kp.trans s.1,λ h hh=>(Rep.add hb (A.held h hh)).keep (s.1.mono hc)⟩
 rcases Qf.mp hc with rfl | hc
 . exact h2
 . exact A.ev.al.step s c hc
theorem Jtw {ps:List (Addr×List Yao)}{j:Nat}{b:Addr}{ds:List Yao}:Yv (ps.set j (b,ds))=(Yv ps).set j (.ref b):=by unfold Yv;rw [X8]
theorem Jrx {l:List Addr}(h:l.Nodup) {b:Addr}(hb:b∉l) (j:Nat):(l.set j b).Nodup:=by
 induction l generalizing j with
 | nil=>simp
 | cons x xs ih=>
  have h1:=Xr.mp h
  cases j with
  | zero=>exact Xr.mpr ⟨λ z=>hb (Qi _ z),h1.2⟩
  | succ j=>
   refine Xr.mpr ⟨λ z=>?_,ih h1.2 (λ z=>hb (Qi _ z)) j⟩
   rcases Jei z with e | ⟨k,_,hk⟩
   . exact hb (by rw [<- e];exact Qh)
   . exact h1.1 (Xa hk)
theorem At.row2 (A:At C ex env σ H n) {i j:Nat}{ps:List (Addr×List Yao)}{ds:List Yao}{vs:List V}{a b:Addr}(h:env[i]? = some (.own2 none ps)) (hs:(σ[i]?).join=some (.ref a)) (bm:b∈ex) (bc:b∉C.S.ch) (hb:H b=some (.lst vs)) (hz:vs.length<=sizeLine) (r:Reps ex H ds vs) (bo:∀ k,b∉Jl env σ k) (b0:C.H0 b=none) :
 At C ex (env.set i (.own2 none (ps.set j (b,ds)))) σ (upd H a (.lst ((Yv ps).set j (.ref b)))) n:=by
 obtain ⟨a',e',q⟩:=A.ev.sl i _ h
 rw [hs] at e'
 cases e'
 have oi:Jl env σ i=a::ps.map (·.1):=by unfold Jl;rw [h,hs]
 have ha:a∈Jl env σ i:=by rw [oi];exact Qh
 have bi:=bo i
 rw [oi] at bi
 have ba:b≠a:=λ z=>bi (by rw [z];exact Qh)
 have bp:b∉ps.map (·.1):=λ z=>bi (Qi _ z)
 have h0:=A.new i a ha
 have kx:Kp ex H (upd H a (.lst ((Yv ps).set j (.ref b)))):=Kp.at q.m _
 have hmap:(ps.set j (b,ds)).map (·.1)=(ps.map (·.1)).set j b:=by rw [X8]
 have nd2:=Xr.mp q.nd
 have oo:∀ k c,c∈Jl (env.set i (.own2 none (ps.set j (b,ds)))) σ k->c∈Jl env σ k\/(c=b/\k=i):=λ k c hc=>by
  by_cases hk:i=k
  . subst hk
    have e2:Jl (env.set i (.own2 none (ps.set j (b,ds)))) σ i=a::(ps.set j (b,ds)).map (·.1):=by unfold Jl;rw [Q3 (Qq.mp h).1,hs]
    rw [e2,hmap] at hc
    rw [oi]
    rcases Qf.mp hc with e | hc
    . exact .inl (by rw [e];exact Qh)
    . rcases Jei hc with e | ⟨t,_,ht⟩
      . exact .inr ⟨e,rfl⟩
      . exact .inl (Qi _ (Xa ht))
  . have e2:Jl (env.set i (.own2 none (ps.set j (b,ds)))) σ k=Jl env σ k:=by unfold Jl;rw [Q4 hk]
    rw [e2] at hc
    exact .inl hc
 refine ⟨⟨by rw [Qr];exact A.ev.len,λ k w e=>?_,A.ev.ch,λ c hc=>?_,C.S.keep A.ev.inv λ c hc o e=>by rw [Jf (λ z=>q.c (by rw [<- z];exact hc))];exact e⟩,A.ex0,A.al0,λ k l c q1 q2=>?_,λ k c q=>?_,Kp.late A.kp h0 _,λ x hx=>(A.held x hx).keep kx⟩
 . by_cases hk:i=k
   . subst hk
     rw [Q3 (Qq.mp h).1] at e
     cases e
     refine ⟨a,hs,⟨by rw [Jg,Jtw];rfl,by rw [Qr];exact q.z,(λ l hl=>by cases hl),?_,q.m,q.c,λ t ht=>?_⟩⟩
     . rw [hmap]
       refine Xr.mpr ⟨λ z=>?_,Jrx nd2.2 bp j⟩
       rcases Jei z with e | ⟨t,_,ht⟩
       . exact ba e.symm
       . exact nd2.1 (Xa ht)
     . rcases Jei ht with rfl | ⟨k,_,hk⟩
       . exact ⟨bm,bc,vs,by rw [Jf ba];exact hb,hz,r.keep kx⟩
       . have w:=q.i t (Xa hk)
         have ta:t.1≠a:=λ z=>nd2.1 (by rw [<- z];exact Qm.mpr ⟨t,Xa hk,rfl⟩)
         obtain ⟨us,g1,g2,g3⟩:=w.h
         exact ⟨w.m,w.c,us,by rw [Jf ta];exact g1,g2,g3.keep kx⟩
   . rw [Q4 hk] at e
     exact SlR.upd q.m (λ c hc z=>hk (A.sep i k a ha (by rw [Jbk e,<- z];exact hc))) (A.ev.sl k w e)
 . by_cases hc2:c=a
   . rw [hc2,Jg];intro z;cases z
   . rw [Jf hc2];exact A.ev.al c hc
 . rcases oo k c q1 with h1 | ⟨rfl,rfl⟩
   . rcases oo l c q2 with h2 | ⟨rfl,rfl⟩
     . exact A.sep k l c h1 h2
     . exact absurd h1 (bo k)
   . rcases oo l c q2 with h2 | ⟨_,rfl⟩
     . exact absurd h2 (bo l)
     . rfl
 . rcases oo k c q with h1 | ⟨rfl,_⟩
   . exact A.new k c h1
   . exact b0
end
def Jtx (te:TE) (i:Nat) (tx:TE):TS:=Jd3 te (Jn4 (Z1 i) tx Jf1)
theorem Jqc {X:Cx}{st:Stmt}{te tx:TE}{i:Nat}(h:PS X st (Jd3 te (Jn4 (Z1 i) tx Jf1))):PS X st (Jtx te i tx):=h
abbrev J0a (i:Nat) (gx:GE) (gn:GN):GS:=λ G env n=>gn env n λ ds n1=>match env[i]? with
 | some (.own2 none ps)=>gx env n1 λ x n2=>(match x with
  | .int x=>∃ j,ixN ps.length x=some j/\∀ b:Addr,G.nx (env.set i (.own2 none (ps.set j (b,ds)))) n2
  | _=>False)
 | _=>False
instance sv_set2R {i:Nat}{te tx:TE}{gn:GN}{gx:GE} [E:NV te gn] [X:EV false tx gx]:SV (Jtx te i tx) (J0a i gx gn):=⟨λ {C G D} O {ex env σ H n} A h=>by
 refine E.nv A.ev h λ ds n1 b vs H1 hd s1 hb hl hz r=>?_
 have A1:=A.more s1 hb (by rw [hl];exact Xp _)
 split at hd
 . rename_i ps e
   obtain ⟨a,ev,q⟩:=A1.ev.sl i _ e
   refine ⟨_,Jm ev,X.ev A1.ev hd λ x n2 xv H2 hx s2 rx=>?_⟩
   have A2:=A1.step s2
   have bc:b∉C.S.ch:=λ z=>C.S.dom A.ev.inv b z hb
   cases rx with
   | int x=>
    obtain ⟨j,hj,hq⟩:=hx
    obtain ⟨a2,ev2,q2⟩:=A2.ev.sl i _ e
    rw [ev] at ev2
    cases ev2
    refine ⟨a,Yv ps,x,j,rfl,rfl,q2.h,by unfold Yv;rw [Qb];exact hj,?_⟩
    exact O.nx (A2.row2 e ev Qh bc (s2.1 _ _ hl bc) hz (A1.ev.reps s2 r) (λ k z=>(Jas A.ev z).1 hb) (A.free hb)) (hq b)
   | none=>exact hx.elim
   | obj=>exact hx.elim
   | bool=>exact hx.elim
   | str=>exact hx.elim
   | tuple=>exact hx.elim
   | list=>exact hx.elim
 . exact hd.elim⟩
theorem Jfj {ex:List Addr}{H:Hp}:∀ {ds:List Yao}{vs:List V},ds.all Vw=true->Reps ex H ds vs->∀ ex',Reps ex' H ds vs
 | _,_,_,.nil,_=>.nil
 | d::ds,_,h,.cons r rs,ex'=>by
  rw [J4j,Xx] at h
  exact .cons (Jhj h.1 r ex') (Jfj h.2 rs ex')
def Jyp (K:Qc) (ta:TA):TI:=Joo K ta
theorem Jwh {X:Cx}{tg e:Expr}{K:Qc}{ta:TA}(h:PI X tg e (Joo K ta)):PI X tg e (Jyp K ta):=h
abbrev J19 (t:GN):GN:=λ env n Q=>t env n λ ds n1=>∃ d e xs ys,ds=[d,e]/\Jot d=some xs/\Jot e=some ys/\(xs.all Vw=true/\ys.all Vw=true)/\Q (W9 xs ys) n1
instance ic_zip2 {K:Qc}{t:TA}{gt:GN} [A:DV false t gt]:IC (Jyp K t) (J19 gt):=⟨λ {S ex env σ H n R P} E h k=>A.dv E h λ ds n1 vs H1 h1 s1 r1=>by
 obtain ⟨d,e,xs,ys,rfl,hs,hs',⟨c1,c2⟩,q⟩:=h1
 cases r1 with
 | cons r1 t=>
  cases t with
  | cons r2 t=>
   cases t
   obtain ⟨c,a,ws,rfl,hq,rs,hc,na⟩:=Jed r1 hs
   obtain ⟨c',a',ws',rfl,hq',rs',hc',na'⟩:=Jed r2 hs'
   refine ⟨c,c',a,a',ws,ws',rfl,hq K,hq' K,k _ _ _ _ q s1 λ l H2 hl kp al=>?_⟩
   have w1:=(Rep.add hl r1).keep kp
   have w2:=(Rep.add hl r2).keep kp
   obtain ⟨v1,h3,h4⟩:=Jb8 hs hc r1 _ H2 w1
   obtain ⟨v2,h5,h6⟩:=Jb8 hs' hc' r2 _ H2 w2
   exact Jou al (h3 K) (Jfj c1 h4 _) (h5 K) (Jfj c2 h6 _)⟩
noncomputable def B9 (R:Nat) (f:Nat->Nat->Bool) (a:Nat):List Yao:=(Qk R).map λ b=>.bool (f a b)
noncomputable def Bo (R:Nat) (f:Nat->Nat->Bool):List (List Yao):=(Qk R).map (B9 R f)
section
variable {R a x y:Nat}{f g:Nat->Nat->Bool}
theorem Jcb:(B9 R f a).length=R:=by unfold B9;rw [Qb,Qy]
theorem Jaa:(Bo R f).length=R:=by unfold Bo;rw [Qb,Qy]
theorem Jej (h:y<R):(B9 R f a)[y]? = some (.bool (f a y)):=by
 unfold B9;rw [Qj,Xl h];rfl
theorem Ja7 (h:x<R):(Bo R f)[x]? = some (B9 R f x):=by
 unfold Bo;rw [Qj,Xl h];rfl
theorem Jhv (h:∀ b,b<R->f a b=g x b):B9 R f a=B9 R g x:=by
 unfold B9
 exact X7 λ b hb=>by rw [h b (Xh.mp hb)]
theorem Jhw (h:∀ a,a<R->∀ b,b<R->f a b=g a b):Bo R f=Bo R g:=by
 unfold Bo
 exact X7 λ a ha=>Jhv (h a (Xh.mp ha))
theorem Jmp (hx:x<R) (h2:∀ a,a<R->a≠x->∀ b,b<R->g a b=f a b) {r:List Yao}(hr:r=B9 R g x):(Bo R f).set x r=Bo R g:=by
 apply X1
 intro i
 by_cases hi:x=i
 . subst hi
   rw [Q3 (by rw [Jaa];exact hx),Ja7 hx,hr]
 . rw [Q4 hi]
   by_cases hl:i<R
   . rw [Ja7 hl,Ja7 hl,Jhv λ b hb=>(h2 i hl (λ z=>hi z.symm) b hb).symm]
   . rw [Qx (by rw [Jaa];omega),Qx (by rw [Jaa];omega)]
theorem Jty (hy:y<R) {v:Bool}(h1:g a y=v) (h2:∀ b,b<R->b≠y->g a b=f a b):(B9 R f a).set y (.bool v)=B9 R g a:=by
 apply X1
 intro i
 by_cases hi:y=i
 . subst hi
   rw [Q3 (by rw [Jcb];exact hy),Jej hy,h1]
 . rw [Q4 hi]
   by_cases hl:i<R
   . rw [Jej hl,Jej hl,h2 i hl λ z=>hi z.symm]
   . rw [Qx (by rw [Jcb];omega),Qx (by rw [Jcb];omega)]
theorem Jjv:(B9 R f a).all Vw=true:=by
 unfold B9
 rw [X6]
 intro x hx
 obtain ⟨b,_,rfl⟩:=Qm.mp hx
 rfl
theorem Jqd:(W9 (B9 R f a) (B9 R f x))=(Qk R).map λ b=>.tuple [.bool (f a b),.bool (f x b)]:=by
 unfold W9 B9
 rw [List.zipWith_map_left,List.zipWith_map_right,List.zipWith_self]
end
theorem Jmq {ps:List (Addr×List Yao)}{m:List (List Yao)}(h:ps.map (·.2)=m) {x:Nat}{r:List Yao}(hr:m[x]? = some r):∃ p,ps[x]? = some p/\p.2=r:=by
 subst h
 rw [Qj] at hr
 exact Um.mp hr
theorem Jhx {ps:List (Addr×List Yao)}{m:List (List Yao)}(h:ps.map (·.2)=m):ps.length=m.length:=by rw [<- h,Qb]
theorem Jmr {ps:List (Addr×List Yao)}{m m':List (List Yao)}(h:ps.map (·.2)=m) {x:Nat}{b:Addr}{r:List Yao}(hr:m.set x r=m'):(ps.set x (b,r)).map (·.2)=m':=by rw [X8,h];exact hr
theorem Jkx {ps:List (Addr×List Yao)}{R:Nat}{f:Nat->Nat->Bool}(h:ps.map (·.2)=Bo R f) {x:Int}(h0:0<=x) (h1:x<R):atI (ps.map λ p=>Ua p.2) x=some (.list (B9 R f x.toNat)):=by
 have hx:x.toNat<R:=by omega
 obtain ⟨p,hp,e⟩:=Jmq h (Ja7 (f:=f) hx)
 unfold atI
 rw [Qb,Jbh h0 (by rw [Jhx h,Jaa];exact h1)]
 show (ps.map λ p=>Ua p.2)[x.toNat]? = _
 rw [Qj,hp,<- e];rfl
theorem Jky {R a:Nat}{f:Nat->Nat->Bool}{y:Int}(h0:0<=y) (h1:y<R):atI (B9 R f a) y=some (.bool (f a y.toNat)):=by
 unfold atI
 rw [Jcb,Jbh h0 h1]
 exact Jej (by omega)
theorem Jms {turn:Yao->Nat->(List Yao->Nat->Prop)->Prop}{n:Nat}(f:Nat->List Yao) {e:Nat->Yao}:∀ (l:List Nat) {Q:List (List Yao)->Nat->Prop},(∀ i∈l,∀ K:List Yao->Nat->Prop,K (f i) n->turn (e i) n K)->Q (l.map f) n->Jku turn (l.map e) n Q
 | [],_,_,q=>q
 | i::l,Q,h,q=>by
  show turn (e i) n _
  exact h i Qh _ (Jms f l (λ j hj=>h j (Qi _ hj)) q)
noncomputable def Yh (ws:List Way) (ks:List Int):List (Nat×Nat):=ks.map λ k=>((Je ws k).a.toNat,(Je ws k).b.toNat)
noncomputable def pw0 (es:List (Nat×Nat)) (a b:Nat):Bool:=decide (a=b)||decide ((a,b)∈es)
noncomputable def pwR (es:List (Nat×Nat)) (m r a b:Nat):Bool:=if a<r then Pw es (m+1) a b else Pw es m a b
theorem Jwi {es:List (Nat×Nat)}{m r b:Nat}:pwR es m r m b=Pw es m m b:=by
 unfold pwR
 split
 . rw [Pw]
   cases Pw es m m b<;>simp
 . rfl
theorem Jkz {es:List (Nat×Nat)}{a b x y:Nat}:pw0 (es++[(a,b)]) x y=(pw0 es x y||decide (x=a/\y=b)):=by
 unfold pw0
 rw [Bool.or_assoc]
 congr 1
 rw [<- Bool.decide_or]
 exact decide_eq_decide.mpr (by rw [Q6,Qt,Prod.mk.injEq])
theorem Jwj {R a b:Nat}{es:List (Nat×Nat)}(ha:a<R) (hb:b<R):(Bo R (pw0 es)).set a ((B9 R (pw0 es) a).set b (.bool true))=Bo R (pw0 (es++[(a,b)])):=by
 refine Jmp ha (λ x _ hx y _=>?_) (Jty hb ?_ λ y _ hy=>?_)
 . rw [Jkz,decide_eq_false λ z=>hx z.1,J53]
 . rw [Jkz,decide_eq_true ⟨rfl,rfl⟩,J9c]
 . rw [Jkz,decide_eq_false λ z=>hy z.2,J53]
theorem Jhy {es:List (Nat×Nat)}{m r b:Nat}:pwR es m r r b=Pw es m r b:=if_neg (Xd r)
theorem Jwk {R m r:Nat}{es:List (Nat×Nat)}(hr:r<R) (h:Pw es m r m=true):(Bo R (pwR es m r)).set r ((Qk R).map λ b=>.bool (pwR es m r r b||pwR es m r m b))=Bo R (pwR es m (r+1)):=by
 refine Jmp hr (λ x _ hx y _=>?_) ?_
 . unfold pwR
   by_cases c:x<r
   . rw [if_pos c,if_pos (by omega)]
   . rw [if_neg c,if_neg (by omega)]
 . unfold B9
   refine X7 λ b _=>?_
   rw [Jhy,Jwi,pwR,if_pos (by omega),Pw,h,J7v]
theorem J0b {R m r:Nat}{es:List (Nat×Nat)}(h:Pw es m r m=false):Bo R (pwR es m r)=Bo R (pwR es m (r+1)):=by
 refine Jhw λ x _ y _=>?_
 unfold pwR
 by_cases c:x<r
 . rw [if_pos c,if_pos (by omega)]
 . rw [if_neg c]
   by_cases e:x=r
   . subst e
     rw [if_pos (by omega),Pw,h,J5e,J53]
   . rw [if_neg (by omega)]
theorem J2a {es:List (Nat×Nat)}{m:Nat}:pwR es m 0=Pw es m:=by
 funext a b
 exact if_neg (J7n a)
theorem Jwl {R m:Nat}{es:List (Nat×Nat)}:Bo R (pwR es m R)=Bo R (Pw es (m+1)):=Jhw λ _ hx _ _=>if_pos hx
theorem J0c {es:List (Nat×Nat)}:pw0 es=Pw es 0:=by
 funext a b
 rw [Pw];rfl
theorem Jqe {k i:Nat}{x:Yao}(h:(Ji1 0 k)[i]? = some x):i<k/\x = .int (i:Int):=by
 unfold Ji1 at h
 rw [Qj] at h
 obtain ⟨j,hj,rfl⟩:=Um.mp h
 obtain ⟨hi,e⟩:=Qq.mp hj
 rw [List.getElem_range] at e
 subst e
 rw [Qy] at hi
 exact ⟨hi,by rw [J31]⟩
noncomputable def Jk0 (R:Nat) (es:List (Nat×Nat)):Yao:=.list ((Bo R (Pw es R)).map .list)
def Jk1:GSp:=λ as n Q=>∃ (R U:Int) (ws:List Way) (ks:List Int),as=[.d (J8 R U ws),.d (.list (ks.map .int))]/\BookOk R U ws/\(∀ k∈ks,0<=k/\k<ws.length)/\Q (Jk0 R.toNat (Yh ws ks)) n
theorem Jtz {ps:List (Addr×List Yao)}{R:Nat}{es:List (Nat×Nat)}(h:ps.map (·.2)=Bo R (Pw es R)):Ua (ps.map λ p=>.list p.2)=Jk0 R es:=by
 unfold Jk0
 rw [<- h,Qw];rfl
theorem Jry {ws:List Way}{ks:List Int}{i:Nat}{k:Int}(h:ks[i]? = some k):Yh ws (ks.take (i+1))=Yh ws (ks.take i)++[((Je ws k).a.toNat,(Je ws k).b.toNat)]:=by
 unfold Yh
 rw [J4y,h,Xb];rfl
section
variable {X:Cx}{pins:List (Addr×Obj)}{σ:L2.St}{H:Hp}{s:Yap}{a:Addr}{kvs:List (Key×V)}{k:Key}{u:Yan}{A:Yat}{E:Yan->Yap->Prop}
theorem Jt0 {r:Yan}{z:V}{Q:Yan->Yap->Prop}(I:Inv X pins σ H s) (e:H a=some (.dK kvs)) (hl:kvs.length<sizeLine) (ry:Yk (kV k) u) (rz:Yk z r)
 (h1:∀ v w' s',Jd6 kvs k=some v->Inv X pins σ H s'->Yk v w'->Q w' s') (h2:Jd6 kvs k=none->∀ s',Inv X pins σ (upd H a (.dK (Jga kvs k z))) s'->Q r s') :
 Yaq (model X.prog X.w) A (call (.builtin "dict.setdefault") [.ref a,u,r]) Q E s:=by
 obtain ⟨zz,hd,vs,rel,dd⟩:=Jx4 I.hok e
 refine call_meetsIn J9h dd.typeIs PySem.F.entry_dict_setdefault (PySem.F.args_dict_setdefault_3 _ _ _) (kt_meets_setdefault (Z2 X.prog X.w) a (Jx1 ry) hd r) ⟨vs,dd,by rw [<- rel.length];exact zz,λ w' hw=>?_,λ hn h' dd' hs=>?_⟩
 . cases l:Jd6 kvs k with
   | none=>
    have:=Jdz.none_of (o:=valueAt vs k) (by rw [<- l];exact rel.val k)
    rw [this] at hw
    cases hw
   | some v=>
    obtain ⟨w2,e2,r2⟩:=Jdz.some_of (v:=v) (o:=valueAt vs k) (by rw [<- l];exact rel.val k)
    rw [e2] at hw
    cases hw
    exact h1 v _ _ l (I.tok _) r2
 . cases l:Jd6 kvs k with
   | some v=>
    obtain ⟨w2,e2,r2⟩:=Jdz.some_of (v:=v) (o:=valueAt vs k) (by rw [<- l];exact rel.val k)
    rw [e2] at hn
    cases hn
   | none=>
    refine h2 l _ ?_
    have he:∃ q,h'.get? a=some q:=let ⟨q,_,_,hq,_⟩:=dd';⟨q,hq⟩
    have hl':(Jga kvs k z).length<=sizeLine:=by have:=Jl7 kvs k z;omega
    exact Jv2 I (by rw [e];exact U3) hs he (Jzq hl' hd (rel.put k rz) dd')
end
def Jt1 (td ty tx:TE):TE:=λ σ H Q=>td σ H λ x H1=>∃ a,x = .ref a/\IsD H1 a/\ty σ H1 λ y H2=>tx σ H2 λ z H3=>∃ kvs k,H3 a=some (.dK kvs)/\y=kV k/\kvs.length<sizeLine /\
 (∀ v,Jd6 kvs k=some v->Q v H3)/\(Jd6 kvs k=none->Q z (upd H3 a (.dK (Jga kvs k z))))
def Jt2 (td:TE):TE:=λ σ H Q=>td σ H λ x H1=>∃ a kvs,x = .ref a/\H1 a=some (.dK kvs)/\∀ p,H1 p=none->Q (.ref p) (upd H1 p (.lst (kvs.map (·.2))))
theorem Jwm:∀ {kvs:List (Key×V)}{vs:List (Key×Yan)},KV kvs vs->J9 (kvs.map (·.2)) (vs.map (·.2)):=by
 intro kvs vs r
 unfold KV at r
 induction r with
 | nil=>exact .nil
 | cons h _ ih=>exact .cons h.2 ih
section
variable {X:Cx}{o e f:Expr}{apos cpos p pos:Pos}{td ty tx:TE}
theorem Jt3 (ho:PE X o td) (he:PE X e ty) (hf:PE X f tx) (m:M2 X o "setdefault" apos e f cpos):PE X (.Call (.Attribute o "setdefault" apos) [e,f] [] cpos) (Jt1 td ty tx):=by
 intro pins s σ H Q I h
 refine wpAny_Call_method m.base m.few m.line J9i J9h PySem.F.type_dict_setdefault (thn (ho pins s σ H _ I h) λ u s1 ⟨x,H1,I1,rx,a,ex,d,q1⟩=>?_)
 subst ex
 obtain rfl:u=Q1 a:=rx
 obtain ⟨t1,t2,_⟩:=Js8 I1 d
 refine ⟨t1,t2,?_⟩
 rw [m.trees]
 refine J62 rfl (J8s (J38 (thn (he pins s1 σ H1 _ I1 q1) λ iv s2 ⟨y,H2,I2,ry,q2⟩=>
  J38 (thn (hf pins s2 σ H2 _ I2 q2) λ fv s3 ⟨z,H3,I3,rz,kvs,k,ea,ey,hl,q3,q4⟩=>J4g ?_))))
 subst ey
 exact Jt0 I3 ea hl ry rz (λ v w' s4 l I4 rw'=>⟨v,H3,I4,rw',q3 v l⟩) λ l s4 I4=>⟨z,_,I4,rz,q4 l⟩
theorem Jt4 (hh:X.A.handled=none) (hg:Gl X "list") (hm:X.mg "list" = none) (ho:PE X o td)
 (hbase:Ybj o "values" X.env (eval o X.env)=eval o X.env:=by rfl) (hline:(apos.endLine==cpos.line)=true:=by rfl)
 (he:starEach [.Call (.Attribute o "values" apos) [] [] cpos] X.env=[(false,eval (.Call (.Attribute o "values" apos) [] [] cpos) X.env)]:=by rfl)
 (ht:backTo pos (starEach [.Call (.Attribute o "values" apos) [] [] cpos] X.env)=[(false,eval (.Call (.Attribute o "values" apos) [] [] cpos) X.env)]:=by rfl) :
 PE X (.Call (.Name "list" p) [.Call (.Attribute o "values" apos) [] [] cpos] [] pos) (Jt2 td):=by
 intro pins s σ H Q I h
 refine Ybb (By I hg hm Ya7 ?_ (by decide) (by decide))
 refine U1 ?_ he rfl
 rw [ht]
 refine J38 (wpAny_Call_method0_late hbase hline (thn (ho pins s σ H _ I h) λ v s1 ⟨x,H1,I1,r1,a,kvs,ex,ea,q1⟩=>?_))
 subst ex
 obtain rfl:v=Q1 a:=r1
 obtain ⟨t1,t2,hd⟩:=Js8 I1 (.inl ⟨kvs,.inl ea⟩)
 obtain ⟨z,_,vs,rel,dd⟩:=Jx4 I1.hok ea
 refine ⟨"dict","dict.values",J9i,J9j,PySem.F.type_dict_values,t1,t2,J62 rfl (PySem.evalArgs_none ?_)⟩
 refine call_meetsIn J9j dd.typeIs PySem.F.entry_dict_values (PySem.F.args_dict_values_1 _) (meets_dict_values (Z2 X.prog X.w) a hd) ⟨⟨vs,dd⟩,?_⟩
 refine J4g ?_
 obtain ⟨ep,hat⟩:=dd.dictAt
 refine PySem.W.kdl_call (PySem.W.kdl_values (knd:=Z2 X.prog X.w) (kvs:=vs) (ep:=ep)) hh ⟨⟨_,Q9 _ rfl,rfl,rfl⟩,hat.push _⟩ (by rw [<- rel.length];exact z) λ h' tk acc' c' hk hD hacc=>?_
 have ev:=PySem.W.kdl_vals_eq acc'.toList (by rw [J6p];exact hacc.1) λ j v e=>hacc.2 j v (by rw [<- Array.getElem?_toList];exact e)
 have hsz:s1.heap.objs.size<=(s1.heap.push { cls:=.type "dict_values",data:=.fields #[.ref a] }).objs.size:=by
  show s1.heap.objs.size<=(s1.heap.objs.push _).size
  rw [Array.size_push];omega
 exact ⟨.ref _,_,I1.laid (t':=tk) (λ b o' q=>hk b o' (Qu _ q)) hsz (show Y3 X.prog X.w _ h' _ (.lst (kvs.map (·.2))) from ⟨by rw [Qb];exact z,acc'.toList,c',by rw [ev];exact Jwm rel,by rw [Array.toArray_toList];exact hD⟩),rfl,q1 _ (I1.hok.fresh hsz)⟩
end
theorem Jhz {ps:List (Addr×List Yao)}:(Yv ps).length=ps.length:=by unfold Yv;rw [Qb]
theorem Jt5 {ps qs:List (Addr×List Yao)}:Yv (ps++qs)=Yv ps++Yv qs:=by unfold Yv;rw [Xb]
theorem Jwn {ks:List Key}{vs:List V}{k:Key}(h:k∉ks):((ks.zip vs).any λ kv=>decide (kv.1=k))=false:=by
 rw [J6u]
 intro x hx e
 exact h (of_decide_eq_true e▸(Uk (show (x.1,x.2)∈ks.zip vs from hx)).1)
theorem Jwo {ks:List Key}{ps:List (Addr×List Yao)}{k:Key}{b:Addr}{ds:List Yao}(hl:ks.length=ps.length) (h:k∉ks):Jga (ks.zip (Yv ps)) k (.ref b)=(ks++[k]).zip (Yv (ps++[(b,ds)])):=by
 unfold Jga
 rw [if_neg (by rw [Jwn h];exact Q2),Jt5,List.zip_append (by rw [Jhz,hl])]
 rfl
theorem Jqf:∀ {ks:List Key}{ps:List (Addr×List Yao)}{k:Key}{v:V},Jd6 (ks.zip (Yv ps)) k=some v->∃ (m:Nat) (p:Addr×List Yao),ks[m]? = some k/\ps[m]? = some p/\v = .ref p.1
 | [],ps,k,v,h=>by rw [List.zip_nil_left] at h;cases h
 | c::ks,[],k,v,h=>by cases h
 | c::ks,q::ps,k,v,h=>by
  by_cases e:c=k
  . rw [show ((c::ks).zip (Yv (q::ps)))=(c,V.ref q.1)::ks.zip (Yv ps) from rfl,Jg9 (show (c,V.ref q.1).1=k from e)] at h
    cases h
    exact ⟨0,q,by rw [<- e];rfl,rfl,rfl⟩
  . rw [show ((c::ks).zip (Yv (q::ps)))=(c,V.ref q.1)::ks.zip (Yv ps) from rfl,Jha (show ¬ (c,V.ref q.1).1=k from e)] at h
    obtain ⟨m,p,h1,h2,h3⟩:=Jqf h
    exact ⟨m+1,p,h1,h2,h3⟩
theorem Jmt:∀ {ks:List Key}{ps:List (Addr×List Yao)}{k:Key},ks.length=ps.length->Jd6 (ks.zip (Yv ps)) k=none->k∉ks
 | [],_,_,_,_,h=>by cases h
 | c::ks,[],k,hl,_,_=>by cases hl
 | c::ks,q::ps,k,hl,h,hm=>by
  rw [show ((c::ks).zip (Yv (q::ps)))=(c,V.ref q.1)::ks.zip (Yv ps) from rfl] at h
  by_cases e:c=k
  . rw [Jg9 (show (c,V.ref q.1).1=k from e)] at h
    cases h
  . rw [Jha (show ¬ (c,V.ref q.1).1=k from e)] at h
    rcases Qf.mp hm with z | hm
    . exact e z.symm
    . exact Jmt (J9k hl) h hm
section
variable {C:Cv}{ex:List Addr}{env:List Vl}{σ:L2.St}{H H':Hp}{n m:Nat}
theorem At.add2 (A:At C ex env σ H n) {i:Nat}{ks:List Key}{k:Key}{ps:List (Addr×List Yao)}{ds:List Yao}{vs:List V}{a b:Addr}(h:env[i]? = some (.own2 (some ks) ps)) (hs:(σ[i]?).join=some (.ref a)) (hk:k∉ks) (hz1:ps.length<1000000) (bm:b∈ex) (bc:b∉C.S.ch) (hb:H b=some (.lst vs)) (hz:vs.length<=sizeLine) (r:Reps ex H ds vs) (bo:∀ k,b∉Jl env σ k) (b0:C.H0 b=none) :
 At C ex (env.set i (.own2 (some (ks++[k])) (ps++[(b,ds)]))) σ (upd H a (.dK (Jga (ks.zip (Yv ps)) k (.ref b)))) n:=by
 obtain ⟨a',e',q⟩:=A.ev.sl i _ h
 rw [hs] at e'
 cases e'
 have oi:Jl env σ i=a::ps.map (·.1):=by unfold Jl;rw [h,hs]
 have ha:a∈Jl env σ i:=by rw [oi];exact Qh
 have bi:=bo i
 rw [oi] at bi
 have ba:b≠a:=λ z=>bi (by rw [z];exact Qh)
 have bp:b∉ps.map (·.1):=λ z=>bi (Qi _ z)
 have h0:=A.new i a ha
 have kx:Kp ex H (upd H a (.dK (Jga (ks.zip (Yv ps)) k (.ref b)))):=Kp.at q.m _
 have hmap:(ps++[(b,ds)]).map (·.1)=ps.map (·.1)++[b]:=by rw [Xb];rfl
 have nd2:=Xr.mp q.nd
 have oo:∀ k' c,c∈Jl (env.set i (.own2 (some (ks++[k])) (ps++[(b,ds)]))) σ k'->c∈Jl env σ k'\/(c=b/\k'=i):=λ k' c hc=>by
  by_cases hk:i=k'
  . subst hk
    have e2:Jl (env.set i (.own2 (some (ks++[k])) (ps++[(b,ds)]))) σ i=a::(ps++[(b,ds)]).map (·.1):=by unfold Jl;rw [Q3 (Qq.mp h).1,hs]
    rw [e2,hmap] at hc
    rw [oi]
    rcases Qf.mp hc with e | hc
    . exact .inl (by rw [e];exact Qh)
    . rcases Q6.mp hc with hc | hc
      . exact .inl (Qi _ hc)
      . exact .inr ⟨Qt.mp hc,rfl⟩
  . have e2:Jl (env.set i (.own2 (some (ks++[k])) (ps++[(b,ds)]))) σ k'=Jl env σ k':=by unfold Jl;rw [Q4 hk]
    rw [e2] at hc
    exact .inl hc
 refine ⟨⟨by rw [Qr];exact A.ev.len,λ k' w e=>?_,A.ev.ch,λ c hc=>?_,C.S.keep A.ev.inv λ c hc o e=>by rw [Jf (λ z=>q.c (by rw [<- z];exact hc))];exact e⟩,A.ex0,A.al0,λ k' l c q1 q2=>?_,λ k' c q=>?_,Kp.late A.kp h0 _,λ x hx=>(A.held x hx).keep kx⟩
 . by_cases hk':i=k'
   . subst hk'
     rw [Q3 (Qq.mp h).1] at e
     cases e
     refine ⟨a,hs,⟨by rw [Jg,Jwo (ds:=ds) (q.k ks rfl) hk];rfl,by rw [Xj,Uw];omega,(λ l hl=>by cases hl;rw [Xj,Xj,q.k ks rfl];rfl),?_,q.m,q.c,λ t ht=>?_⟩⟩
     . rw [hmap]
       refine Xr.mpr ⟨λ z=>?_,?_⟩
       . rcases Q6.mp z with z | z
         . exact nd2.1 z
         . exact ba (Qt.mp z).symm
       . rw [J51]
         refine ⟨nd2.2,by simp,λ x hx y hy=>?_⟩
         rw [Qt] at hy
         rintro rfl
         exact bp (hy▸hx)
     . rcases Q6.mp ht with ht | ht
       . have w:=q.i t ht
         have ta:t.1≠a:=λ z=>nd2.1 (by rw [<- z];exact Qm.mpr ⟨t,ht,rfl⟩)
         obtain ⟨us,g1,g2,g3⟩:=w.h
         exact ⟨w.m,w.c,us,by rw [Jf ta];exact g1,g2,g3.keep kx⟩
       . rw [Qt] at ht
         subst ht
         exact ⟨bm,bc,vs,by rw [Jf ba];exact hb,hz,r.keep kx⟩
   . rw [Q4 hk'] at e
     exact SlR.upd q.m (λ c hc z=>hk' (A.sep i k' a ha (by rw [Jbk e,<- z];exact hc))) (A.ev.sl k' w e)
 . by_cases hc2:c=a
   . rw [hc2,Jg];intro z;cases z
   . rw [Jf hc2];exact A.ev.al c hc
 . rcases oo k' c q1 with h1 | ⟨rfl,rfl⟩
   . rcases oo l c q2 with h2 | ⟨rfl,rfl⟩
     . exact A.sep k' l c h1 h2
     . exact absurd h1 (bo k')
   . rcases oo l c q2 with h2 | ⟨_,rfl⟩
     . exact absurd h2 (bo l)
     . rfl
 . rcases oo k' c q with h1 | ⟨rfl,_⟩
   . exact A.new k' c h1
   . exact b0
end
def Jt6 (i:Nat):TS:=Jd3 Joh (Bt i)
theorem Jt7 {X:Cx}{st:Stmt}{i:Nat}(h:PS X st (Jd3 Joh (Bt i))):PS X st (Jt6 i):=h
abbrev J0d (i:Nat):GS:=λ G env n=>G.nx (env.set i (.own2 (some []) [])) n
instance sv_dnew2 {i:Nat}:SV (Jt6 i) (J0d i):=⟨λ {C G D} O {ex env σ H n} A h=>by
 intro p hp
 refine O.nx (A.own2 (ks:=some []) (ps:=[]) (m:=n) (H':=upd H p (.dK [])) ⟨Kp.new hp _,C.S.keep A.ev.inv λ b _ o e=>Kp.new (ex:=[]) hp _ _ _ e (by simp)⟩ hp (λ q hq=>by cases hq) ⟨by rw [Jg];rfl,Xo _,(λ l hl=>by cases hl;rfl),by simp,Qh,λ z=>C.S.dom A.ev.inv p z hp,λ q hq=>by cases hq⟩) h⟩
abbrev Jyq (i:Nat) (gy:GE) (gx:GN) (ge:GE):GS:=λ G env n=>match env[i]? with
 | some (.own2 (some ks) ps)=>gy env n λ y n1=>(match y with
  | .int j=>gx env n1 λ ds n2=>ds=[]/\(Xg j∈ks->ge env n2 λ d n3=>∀ m p,ks[m]? = some (Xg j)->ps[m]? = some p->p.2.length<sizeLine/\G.nx (env.set i (.own2 (some ks) (ps.set m (p.1,p.2++[d])))) n3) /\
   (Xg j∉ks->ps.length<1000000/\∀ b,ge (env.set i (.own2 (some (ks++[Xg j])) (ps++[(b,[])]))) n2 λ d n3=>G.nx (env.set i (.own2 (some (ks++[Xg j])) (ps++[(b,[d])]))) n3)
  | _=>False)
 | _=>False
instance sv_setd {K:Qc}{i:Nat}{ty tx te:TE}{gy ge:GE}{gx:GN} [Y:EV false ty gy] [N:NV tx gx] [E:EV true te ge]:SV (Jsm (tBM K "list" Jkb (Jt1 (Z1 i) ty tx) (Yj te Jbx))) (Jyq i gy gx ge):=⟨λ {C G D} O {ex env σ H n} A h=>by
 unfold Jyq at h
 split at h
 . rename_i ks ps e
   obtain ⟨a,ev,q⟩:=A.ev.sl i _ e
   refine ⟨_,Jm ev,a,rfl,.inl ⟨_,.inl q.h⟩,Y.ev A.ev h λ y n1 yv H1 hy s1 ry=>?_⟩
   have A1:=A.step s1
   cases ry with
   | int j=>
    refine N.nv A1.ev hy λ ds n2 b vs H2 hds s2 hb hl hz r=>?_
    obtain ⟨rfl,hin,hout⟩:=hds
    cases r
    have A2:=A1.more s2 hb (by rw [hl];exact Xp _)
    have bc:b∉C.S.ch:=λ z=>C.S.dom A1.ev.inv b z hb
    obtain ⟨a2,ev2,q2⟩:=A2.ev.sl i _ e
    rw [ev] at ev2
    cases ev2
    have hlen:=q2.k ks rfl
    have hzl:=q2.z
    refine ⟨ks.zip (Yv ps),Xg j,q2.h,rfl,by rw [J3r,Jhz,Yau];omega,λ v hv=>?_,λ hn=>?_⟩
    . obtain ⟨m,p,hm,hp,rfl⟩:=Jqf hv
      have w:=q2.i p (Xa hp)
      obtain ⟨us,g1,g2,g3⟩:=w.h
      refine ⟨.inl ⟨rfl,_,SqL.of g1⟩,E.ev A2.ev (hin (Xa hm)) λ d n3 v H3 hd s3 rd=>?_⟩
      obtain ⟨hlt,hnx⟩:=hd m p hm hp
      have g3':=A2.ev.reps s3 g3
      have l:=g3.length
      exact ⟨p.1,us,v,rfl,rfl,s3.1 _ _ g1 w.c,by rw [<- l];exact hlt,O.nx ((A2.step s3).re2 e ev hp (Reps.append g3' (.cons rd .nil)) (by rw [Xj,Uw,<- l];exact hlt)) hnx⟩
    . have hk:=Jmt hlen hn
      obtain ⟨hps,hq⟩:=hout hk
      have A3:=A2.add2 (k:=Xg j) (ds:=[]) e ev hk hps Qh bc hl hz .nil (λ k z=>(Jas A1.ev z).1 hb) (A1.free hb)
      have hba:b≠a:=λ z=>(Jas A1.ev (show a∈Jl env σ i by unfold Jl;rw [e,ev];exact Qh)).1 (by rw [<- z];exact hb)
      have hb3:upd H2 a (.dK (Jga (ks.zip (Yv ps)) (Xg j) (.ref b))) b=some (.lst []):=by rw [Jf hba];exact hl
      refine ⟨.inl ⟨rfl,_,SqL.of hb3⟩,E.ev A3.ev (hq b) λ d n3 v H3 hd s3 rd=>?_⟩
      have il:i<env.length:=(Qq.mp e).1
      have A5:=(A3.step s3).re2 (j:=ps.length) (p:=(b,[])) (ys:=[d]) (ws:=[v]) (Q3 il) ev (by rw [J3n (Qn _),J7w];rfl) (.cons rd .nil) (by rw [Yau];exact Xc rfl)
      rw [J7x,List.set_append_right _ _ (Qn _),J7w] at A5
      exact ⟨b,[],v,rfl,rfl,s3.1 _ _ hb3 bc,by rw [Yau];exact Xc rfl,O.nx A5 hd⟩
   | none=>exact hy.elim
   | obj=>exact hy.elim
   | bool=>exact hy.elim
   | str=>exact hy.elim
   | list=>exact hy.elim
   | tuple=>exact hy.elim
 . exact h.elim⟩
theorem Jwp {ks:List Key}{vs:List V}(h:ks.length=vs.length):(ks.zip vs).map (·.2)=vs:=by
 induction ks generalizing vs with
 | nil=>cases vs with
  | nil=>rfl
  | cons=>cases h
 | cons k ks ih=>cases vs with
  | nil=>cases h
  | cons v vs=>
   show v::(ks.zip vs).map (·.2)=_
   rw [ih (J9k h)]
abbrev Jmu (i:Nat):GS:=λ G env n=>match env[i]? with
 | some (.own2 (some _) ps)=>G.rt2 (ps.map (·.2)) n
 | _=>False
instance (priority:=high) sv_retVals {i:Nat}:SV (Jsn (Jt2 (Z1 i))) (Jmu i):=⟨λ {C G D} O {ex env σ H n} A h=>by
 unfold Jmu at h
 split at h
 . rename_i ks ps e
   obtain ⟨a,ev,q⟩:=A.ev.sl i _ e
   refine ⟨_,Jm ev,a,_,rfl,q.h,λ p hp=>?_⟩
   rw [Jwp (by rw [Jhz];exact q.k ks rfl)]
   have s:Yr C.S n H (upd H p (.lst (Yv ps))):=⟨Kp.new hp _,C.S.keep A.ev.inv λ b _ o e=>Kp.new (ex:=[]) hp _ _ _ e (by simp)⟩
   have oi:Jl env σ i=a::ps.map (·.1):=by unfold Jl;rw [e,ev]
   have pn:∀ x∈ps,x.1≠p:=λ x hx z=>by
    obtain ⟨vs,g1,_⟩:=(q.i x hx).h
    rw [z,hp] at g1;cases g1
   have pex:p∉ex:=λ z=>A.ev.al p z hp
   refine O.r2 ⟨(A.step s).kp,s.2,A.free hp,λ x hx=>A.new i x.1 (by rw [oi];exact Qi _ (Qm.mpr ⟨x,hx,rfl⟩)),⟨Jg,q.z,λ l hl=>(by cases hl),?_,Xn _ Qh,λ z=>pex (A.ev.ch p z),λ x hx=>?_⟩⟩ h
   . refine Xr.mpr ⟨λ z=>?_,(Xr.mp q.nd).2⟩
     obtain ⟨x,hx,e⟩:=Qm.mp z
     exact pn x hx e
   . have w:=q.i x hx
     obtain ⟨vs,g1,g2,g3⟩:=w.h
     refine ⟨Xn _ (Qi _ (Qm.mpr ⟨x,hx,rfl⟩)),w.c,vs,by rw [Jf (pn x hx)];exact g1,g2,?_⟩
     have g4:Reps (p::ex) H x.2 vs:=Reps.add hp g3
     refine Reps.mono (λ b hb=>?_) (g4.keep (Kp.new hp _))
     rcases Q6.mp hb with hb | hb
     . rcases Qf.mp hb with rfl | hb
       . exact Qh
       . obtain ⟨y,hy,rfl⟩:=Qm.mp hb
         exact Qi _ (q.i y hy).m
     . exact Qi _ (A.ex0 b hb)
 . exact h.elim⟩
noncomputable def Bh (g:List (Int×List Int)) (key k:Int):List (Int×List Int):=if key∈g.map (·.1) then g.map λ p=>if p.1=key then (p.1,p.2++[k]) else p else g++[(key,[k])]
noncomputable def Yu (R:Nat) (es:List (Nat×Nat)) (a:Nat):List Nat:=(Qk R).filter λ x=>Pw es R a x&&Pw es R x a
noncomputable def Y1 (R:Nat) (es:List (Nat×Nat)) (a:Nat):Int:=(((Yu R es a).headD 0:Nat):Int)
noncomputable def Zu (R:Nat) (es:List (Nat×Nat)) (ws:List Way) (g:List (Int×List Int)) (k:Int):List (Int×List Int):=if Pw es R (Je ws k).b.toNat (Je ws k).a.toNat=true then Bh g (Y1 R es (Je ws k).a.toNat) k else g
noncomputable def Vb (R:Nat) (es:List (Nat×Nat)) (ws:List Way) (ks:List Int):List (Int×List Int):=ks.foldl (Zu R es ws) []
noncomputable def Vx (R:Nat) (ws:List Way) (ks:List Int):List (List Int):=(Vb R (Yh ws ks) ws ks).map (·.2)
noncomputable def Jk2 (rs:List (List Int)):Yao:=.list (rs.map λ r=>.list (r.map .int))
def Jgo:GSp:=λ as n Q=>∃ (R U:Int) (ws:List Way) (ks:List Int),as=[.d (J8 R U ws),.d (.list (ks.map .int))]/\BookOk R U ws/\(∀ k∈ks,0<=k/\k<ws.length)/\ks.length<=1000/\Q (Jk2 (Vx R.toNat ws ks)) n
theorem Jk3 {R:Nat}{es:List (Nat×Nat)}{ws:List Way}{ks:List Int}{i:Nat}{k:Int}(h:ks[i]? = some k):Vb R es ws (ks.take (i+1))=Zu R es ws (Vb R es ws (ks.take i)) k:=by
 unfold Vb
 rw [J4y,h,J54];rfl
theorem Jt8 {R a:Nat}{es:List (Nat×Nat)}{m:Int}(hm:m∈(Yu R es a).map (λ j:Nat=>(j:Int))) (hmin:∀ n∈(Yu R es a).map (λ j:Nat=>(j:Int)),m<=n):m=Y1 R es a:=by
 have hp:(Yu R es a).Pairwise (· < ·):=Yak _ J7y
 unfold Y1
 cases e:Yu R es a with
 | nil=>rw [e] at hm;cases hm
 | cons x xs=>
  rw [e] at hm hmin hp
  have h1:=hmin (x:Int) Qh
  obtain ⟨j,hj,rfl⟩:=Qm.mp hm
  show (j:Int)=(x:Int)
  rcases Qf.mp hj with rfl | hj
  . rfl
  . have:=(List.pairwise_cons.mp hp).1 j hj
    omega
theorem Jh0 {R a:Nat}{es:List (Nat×Nat)}(ha:a<R):a∈Yu R es a:=by
 have:Pw es R a a=true:=Pw.zero (by rw [Pw];simp) R
 unfold Yu
 rw [Xq,this]
 exact ⟨Xh.mpr ha,rfl⟩
noncomputable abbrev Jt9 (p:Int×List Int):List Yao:=p.2.map .int
structure RingInv (i:Nat) (g:List (Int×List Int)) (keys:List Key) (ps:List (Addr×List Yao)):Prop where
 ky:keys=g.map λ p=>Xg p.1
 rw:ps.map (·.2)=g.map Jt9
 nd:(g.map (·.1)).Nodup
 gl:g.length<=i
 pl:∀ p∈g,p.2.length<=i
theorem Jwq {g:List (Int×List Int)}{j:Int}:(Xg j:Key)∈g.map (λ p=>(Xg p.1:Key))↔j∈g.map (·.1):=by
 rw [Qm,Qm]
 constructor
 . rintro ⟨p,hp,e⟩;exact ⟨p,hp,J6i e⟩
 . rintro ⟨p,hp,rfl⟩;exact ⟨p,hp,rfl⟩
theorem RingInv.up {i:Nat}{g:List (Int×List Int)}{keys:List Key}{ps:List (Addr×List Yao)}(h:RingInv i g keys ps):RingInv (i+1) g keys ps:=⟨h.ky,h.rw,h.nd,J55 h.gl,λ p hp=>J55 (h.pl p hp)⟩
theorem RingInv.new {i:Nat}{g:List (Int×List Int)}{keys:List Key}{ps:List (Addr×List Yao)}(h:RingInv i g keys ps) {j k:Int}(hj:(Xg j:Key)∉keys) (b:Addr):RingInv (i+1) (Bh g j k) (keys++[Xg j]) (ps++[(b,[.int k])]):=by
 have hj':j∉g.map (·.1):=λ z=>hj (by rw [h.ky];exact Jwq.mpr z)
 have e:Bh g j k=g++[(j,[k])]:=if_neg hj'
 rw [e]
 refine ⟨by rw [h.ky,Xb];rfl,by rw [Xb,Xb,h.rw];rfl,?_,by rw [Xj,Uw];have:=h.gl;omega,λ p hp=>?_⟩
 . rw [Xb,J51]
   refine ⟨h.nd,by simp,λ x hx y hy=>?_⟩
   have hy':y=j:=Qt.mp hy
   rintro rfl
   exact hj' (hy'▸hx)
 . rcases Q6.mp hp with hp | hp
   . exact J55 (h.pl p hp)
   . rw [Qt.mp hp];show 1<=i+1;omega
theorem RingInv.add {i:Nat}{g:List (Int×List Int)}{keys:List Key}{ps:List (Addr×List Yao)}(h:RingInv i g keys ps) {j k:Int}{m:Nat}{p:Addr×List Yao}(hm:keys[m]? = some (Xg j)) (hp:ps[m]? = some p):p.2.length<=i/\RingInv (i+1) (Bh g j k) keys (ps.set m (p.1,p.2++[.int k])):=by
 rw [h.ky,Qj] at hm
 obtain ⟨q,hq,ej⟩:=Um.mp hm
 cases J6i ej
 have e2:p.2=Jt9 q:=by
  have:=congrArg (λ l=>l[m]?) h.rw
  simp only [Qj,hp,hq,Option.map_some] at this
  exact Xf this
 have hqm:=Xa hq
 have hj':q.1∈g.map (·.1):=Qm.mpr ⟨q,hqm,rfl⟩
 have e:Bh g q.1 k=g.map λ p=>if p.1=q.1 then (p.1,p.2++[k]) else p:=if_pos hj'
 have ek:(Bh g q.1 k).map (·.1)=g.map (·.1):=by
  rw [e,Qw]
  refine X7 λ x _=>?_
  show (if x.1=q.1 then (x.1,x.2++[k]) else x).1=x.1
  split<;>rfl
 refine ⟨by rw [e2,Qb];exact h.pl q hqm,?_,?_,by rw [ek];exact h.nd,by rw [e,Qb];exact J55 h.gl,λ x hx=>?_⟩
 . have:(Bh g q.1 k).map (λ p=>(Xg p.1:Key))=((Bh g q.1 k).map (·.1)).map (λ x=>(Xg x:Key)):=by rw [Qw];rfl
   rw [this,ek,h.ky,Qw];rfl
 . rw [X8,h.rw,e,Qw]
   apply X1
   intro t
   by_cases ht:m=t
   . subst ht
     rw [Q3 (by rw [Qb];exact (Qq.mp hq).1),Qj,hq]
     show some (p.2++[Qv k])=some (Jt9 (if q.1=q.1 then (q.1,q.2++[k]) else q))
     rw [if_pos rfl,e2]
     show some (q.2.map Qv++[Qv k])=some ((q.2++[k]).map Qv)
     rw [Xb];rfl
   . rw [Q4 ht,Qj,Qj]
     cases hx:g[t]? with
     | none=>rfl
     | some x=>
      have ne:x.1≠q.1:=λ z=>ht (by
       have h1:(g.map (·.1))[m]? = some q.1:=by rw [Qj,hq];rfl
       have h2:(g.map (·.1))[t]? = some q.1:=by rw [Qj,hx,<- z];rfl
       exact (List.getElem?_inj (Qq.mp h1).1 h.nd).mp (h1.trans h2.symm))
      show some (Jt9 x)=some (Jt9 (if x.1=q.1 then (x.1,x.2++[k]) else x))
      rw [if_neg ne]
 . rw [e] at hx
   obtain ⟨y,hy,rfl⟩:=Qm.mp hx
   have:=h.pl y hy
   split
   . show (y.2++[k]).length<=_
     rw [Xj,Uw];omega
   . omega
theorem Jh1 {R:Nat}{f:Nat->Nat->Bool}{x:Int}(h0:0<=x) (h1:x<R):atI ((Bo R f).map Ua) x=some (.list (B9 R f x.toNat)):=by
 unfold atI
 rw [Qb,Jaa,Jbh h0 h1]
 show ((Bo R f).map Ua)[x.toNat]? = _
 rw [Qj,Ja7 (by omega)];rfl
theorem Jrz {i R:Nat}{ws:List Way}{ks:List Int}{keys:List Key}{ps:List (Addr×List Yao)}(h:RingInv i (Vb R (Yh ws ks) ws ks) keys ps):Ua ((ps.map (·.2)).map Ua)=Jk2 (Vx R ws ks):=by
 unfold Jk2 Vx
 rw [h.rw,Qw,Qw];rfl
def Jk4:GSp:=λ as n Q=>∃ (R U:Int) (ws:List Way) (cs:List Int),as=[.d (J8 R U ws),.d (.tuple (cs.map .int))]/\BookOk R U ws/\cs.length=ws.length/\Q (.tuple ((rgI ws cs U).map .int)) n
theorem Jqg {ws:List Way}{i:Nat}(h:i<ws.length):(ws.map Y6)[i]? = some (Y6 (Je ws (i:Int))):=Jmd (Jdf (Xk i) (by omega))
theorem Jcs {cs:List Int}{i:Nat}(h:i<cs.length):(cs.map Qv)[i]? = some (.int (cs.getD i 0)):=by
 rw [Qj,Qd h,Qg,Qd h];rfl
theorem Jh2 {m i:Nat}{f:Nat->Yao}(h:i<m):((Qk m).map f)[i]? = some (f i):=by rw [Qj,Xl h];rfl
theorem Jjw {m i:Nat}{f:Nat->Yao}(h:¬ i<m):((Qk m).map f)[i]? = none:=Qx (by rw [Qb,Qy];omega)
theorem Jua {ws:List Way}{cs:List Int}(h:cs.length=ws.length):W9 (cs.map .int) (ws.map Y6)=(Qk ws.length).map λ (i:Nat)=>Ub [.int (cs.getD i 0),Y6 (Je ws (i:Int))]:=by
 unfold W9
 apply X1
 intro i
 rw [Uf]
 by_cases hi:i<ws.length
 . rw [Jh2 hi,Jcs (by omega),Jqg hi]
 . rw [Jjw hi,Qx (l:=cs.map Qv) (by rw [Qb];omega)]
theorem J2b {R U:Int}{w:Way}(h:WayOk R U w) {p:Nat}(h1:(p:Int)<U):atI (w.g.map Qv) (p:Int)=some (.int (w.g.getD p 0)):=by
 have gl:=h.len
 have hp:p<w.g.length:=by omega
 unfold atI
 rw [Qb,Jbh (Xk p) (by omega)]
 show (w.g.map Qv)[(p:Int).toNat]? = _
 rw [Q5]
 exact Jcs hp
noncomputable def Jcc (x r:Int):Int:=if x=r then 1 else 0
theorem Jek {ws:List Way}{cs:List Int}{r:Int}:∀ i,W2 ws cs i r=((Qk i).map λ j=>cs.getD j 0*(Jcc (Je ws (j:Nat)).b r-Jcc (Je ws (j:Nat)).a r)).sum
 | 0=>rfl
 | i+1=>by
  rw [W2,Jek i,J4t,Xb,J7z,J4z,J9l]
  unfold Jcc
  by_cases h1:(Je ws (i:Nat)).a=r
  . by_cases h2:(Je ws (i:Nat)).b=r
    . rw [if_pos h1,if_pos h2,if_pos h1,if_pos h2];simp
    . rw [if_pos h1,if_neg h2,if_pos h1,if_neg h2];omega
  . by_cases h2:(Je ws (i:Nat)).b=r
    . rw [if_neg h1,if_pos h2,if_neg h1,if_pos h2];omega
    . rw [if_neg h1,if_neg h2,if_neg h1,if_neg h2];omega
theorem Jub {R:Nat}{es:List (Nat×Nat)}{ws:List Way}{l:Int}:∀ (ks:List Int) (js:List Int),(∀ k∈ks,Pw es R (Je ws k).b.toNat (Je ws k).a.toNat=true/\Y1 R es (Je ws k).a.toNat=l)->ks.foldl (Zu R es ws) [(l,js)]=[(l,js++ks)]
 | [],js,_=>by rw [Uu];rfl
 | k::ks,js,h=>by
  obtain ⟨h1,h2⟩:=h k Qh
  rw [J63]
  have:Zu R es ws [(l,js)] k=[(l,js++[k])]:=by
   unfold Zu Bh
   rw [if_pos h1,h2,if_pos (by simp)]
   show [if l=l then (l,js++[k]) else (l,js)]=_
   rw [if_pos rfl]
  rw [this,Jub ks _ λ x hx=>h x (Qi _ hx),J8t];rfl
theorem Juc {R:Nat}{ws:List Way}{ks:List Int}(hne:ks≠[]) (hr:∀ e∈Yh ws ks,e.1<R/\e.2<R) (h:∀ k∈ks,∀ j∈ks,Rt (Yh ws ks) (Je ws k).b.toNat (Je ws j).a.toNat):Vx R ws ks=[ks]:=by
 have ab:∀ k∈ks,Rt (Yh ws ks) (Je ws k).a.toNat (Je ws k).b.toNat:=λ k hk=>.step (.refl _) (Qm.mpr ⟨k,hk,rfl⟩)
 have aa:∀ k∈ks,∀ j∈ks,Rt (Yh ws ks) (Je ws k).a.toNat (Je ws j).a.toNat:=λ k hk j hj=>(ab k hk).trans (h k hk j hj)
 have rr:∀ k∈ks,∀ j∈ks,Yu R (Yh ws ks) (Je ws k).a.toNat=Yu R (Yh ws ks) (Je ws j).a.toNat:=λ k hk j hj=>by
  unfold Yu
  refine J40 λ x _=>?_
  rw [Uh,Xx,Xx,Zo hr,Zo hr,Zo hr,Zo hr]
  exact ⟨λ z=>⟨(aa j hj k hk).trans z.1,z.2.trans (aa k hk j hj)⟩,λ z=>⟨(aa k hk j hj).trans z.1,z.2.trans (aa j hj k hk)⟩⟩
 obtain ⟨k0,rest,e⟩:∃ k rest,ks=k::rest:=by
  cases ks with
  | nil=>exact absurd rfl hne
  | cons a b=>exact ⟨a,b,rfl⟩
 have hk0:k0∈ks:=by rw [e];exact Qh
 have st:Zu R (Yh ws ks) ws [] k0=[(Y1 R (Yh ws ks) (Je ws k0).a.toNat,[k0])]:=by
  unfold Zu
  rw [if_pos ((Zo hr).mpr (h k0 hk0 k0 hk0))]
  rfl
 have go:Vb R (Yh ws ks) ws ks=[(Y1 R (Yh ws ks) (Je ws k0).a.toNat,ks)]:=by
  have g:∀ es',ks.foldl (Zu R es' ws) []=rest.foldl (Zu R es' ws) (Zu R es' ws [] k0):=λ es'=>by rw [e,J63]
  unfold Vb
  rw [g,st,Jub rest [k0] λ x hx=>?_]
  . rw [e];rfl
  . have hx':x∈ks:=by rw [e];exact Qi _ hx
    refine ⟨(Zo hr).mpr (h x hx' x hx'),?_⟩
    unfold Y1
    rw [rr x hx' k0 hk0]
 unfold Vx
 rw [go];rfl
theorem Jjx {ex:List Addr}{H:Hp}:∀ (ns:List Int),Reps ex H (ns.map Qv) (ns.map V.int)
 | []=>.nil
 | n::ns=>.cons (.int n) (Jjx ns)
theorem Jox {X:Cx}{K':Qc}(hK:X.K=K'):OpR X (compareOp .In) (rIn K' false):=hK▸Jfc
theorem Jk5:∀ ns:List Int,J3z (ns.map Qv)=true
 | []=>rfl
 | n::ns=>by rw [Q0,J3z,Jk5 ns];rfl
theorem Jk6:∀ ns:List Int,J70 (ns.map Qv)=0
 | []=>rfl
 | n::ns=>by rw [Q0,J70,Jk6 ns];rfl
theorem neL {ns:List Int}{Q:Yao->Prop}(q:Q (.bool false)):Jv9 true (Jwd ns) (Jwd ns) Q:=Jz5 (by unfold Jwd;rw [U8];exact Jk5 ns) (by unfold Jwd;rw [J41,Jk6];decide) q
theorem Jyr {k:Int}{ns:List Int}:inD (.int k) (ns.map .int)=decide (k∈ns):=by
 unfold inD
 induction ns with
 | nil=>rfl
 | cons n ns ih=>
  rw [Q0,J3x,ih]
  have:J3p (.int n) (.int k)=decide (n=k):=rfl
  rw [this,Uh,J7p,decide_eq_true_iff,decide_eq_true_iff,decide_eq_true_iff,Qf]
  constructor
  . rintro (h | h)
    . exact .inl h.symm
    . exact .inr h
  . rintro (h | h)
    . exact .inl h.symm
    . exact .inr h
noncomputable abbrev J3c:=List Vl->Nat->(List (List Yao)->Nat->Prop)->Prop
section
variable {b:Bool}{i:Nat}{sp:J3c}{E':XK}{t:TA}{gt:GA}
end
theorem Jr0 {α:Type}{a b c d:List α}(h:a=b) (g:c=d):a++c=b++d:=by rw [h,g]
theorem Jmv {α:Type}{P:List α->Prop}(h0:P []) (h1:∀ l a,P l->P (l++[a])) (l:List α):P l:=by
 have:∀ l:List α,P l.reverse:=by
  intro l
  induction l with
  | nil=>exact h0
  | cons a l ih=>rw [List.reverse_cons];exact h1 _ _ ih
 have h:=this l.reverse
 rw [List.reverse_reverse] at h
 exact h
noncomputable def Jgp (c:Int->Option Int) (g:List Int) (k:Int):List Int:=match c k with
 | some y=>if y∈g then g else g++[y]
 | none=>g
noncomputable def Jcd (c:Int->Option Int) (ks:List Int):List Int:=ks.foldl (Jgp c) []
theorem Jjy {c:Int->Option Int}{ks:List Int}{k:Int}:Jcd c (ks++[k])=Jgp c (Jcd c ks) k:=by
 unfold Jcd;rw [J54];rfl
theorem Jmw {c:Int->Option Int}{ks:List Int}{y:Int}:y∈Jcd c ks↔∃ k∈ks,c k=some y:=by
 induction ks using Jmv with
 | h0=>exact ⟨λ h=>(by cases h),λ ⟨k,h,_⟩=>(by cases h)⟩
 | h1 ks k ih=>
  rw [Jjy,Jgp]
  have key:(∃ j∈ks++[k],c j=some y)↔(∃ j∈ks,c j=some y)\/c k=some y:=by
   constructor
   . rintro ⟨j,hj,e⟩
     rcases Q6.mp hj with hj | hj
     . exact .inl ⟨j,hj,e⟩
     . rw [Qt.mp hj] at e;exact .inr e
   . rintro (⟨j,hj,e⟩ | e)
     . exact ⟨j,Xn _ hj,e⟩
     . exact ⟨k,Xi _ (Qt.mpr rfl),e⟩
  rw [key,<- ih]
  cases e:c k with
  | none=>exact ⟨.inl,λ h=>h.elim id λ h=>by cases h⟩
  | some x=>
   dsimp only
   split
   . rename_i hx
     refine ⟨.inl,λ h=>h.elim id λ h=>?_⟩
     cases h;exact hx
   . rw [Q6,Qt]
     refine ⟨λ h=>h.imp id λ h=>by rw [h],λ h=>h.imp id λ h=>by cases h;rfl⟩
noncomputable def grp (c:Int->Option Int) (ks:List Int) (y:Int):List Int:=ks.filter λ k=>decide (c k=some y)
theorem Jel {c:Int->Option Int}{ks:List Int}{k y:Int}:grp c (ks++[k]) y=if c k=some y then grp c ks y++[k] else grp c ks y:=by
 unfold grp
 rw [List.filter_append]
 by_cases e:c k=some y
 . rw [if_pos e,J4w (by simp [e])];rfl
 . rw [if_neg e,J4x (by simp [e])];exact Uu _
noncomputable def V3 (R:Nat) (es:List (Nat×Nat)) (ws:List Way) (k:Int):Option Int:=if Pw es R (Je ws k).b.toNat (Je ws k).a.toNat=true then some (Y1 R es (Je ws k).a.toNat) else none
theorem J0e {R:Nat}{es:List (Nat×Nat)}{ws:List Way}(ks:List Int):Vb R es ws ks=(Jcd (V3 R es ws) ks).map λ y=>(y,grp (V3 R es ws) ks y):=by
 induction ks using Jmv with
 | h0=>rfl
 | h1 ks k ih=>
  have e0:Vb R es ws (ks++[k])=Zu R es ws (Vb R es ws ks) k:=by unfold Vb;rw [J54];rfl
  rw [e0,ih,Jjy,Jgp]
  unfold Zu
  by_cases c:Pw es R (Je ws k).b.toNat (Je ws k).a.toNat=true
  . have ck:V3 R es ws k=some (Y1 R es (Je ws k).a.toNat):=if_pos c
    rw [if_pos c,ck]
    generalize Y1 R es (Je ws k).a.toNat=y at ck
    dsimp only
    unfold Bh
    have em:((Jcd (V3 R es ws) ks).map λ y=>(y,grp (V3 R es ws) ks y)).map (·.1)=Jcd (V3 R es ws) ks:=by rw [Qw];exact List.map_id _
    rw [em]
    split
    . rw [Qw]
      refine X7 λ x hx=>?_
      show (if x=y then (x,grp (V3 R es ws) ks x++[k]) else (x,grp (V3 R es ws) ks x))=_
      rw [Jel,ck]
      by_cases e:x=y
      . rw [if_pos e,if_pos (by rw [e])]
      . rw [if_neg e,if_neg (λ z=>e (Xf z).symm)]
    . rename_i hy
      rw [Xb]
      refine Jr0 (X7 λ x hx=>?_) ?_
      . rw [Jel,ck,if_neg (λ z=>hy (by rw [Xf z];exact hx))]
      . show [(y,[k])]=[(y,grp (V3 R es ws) (ks++[k]) y)]
        rw [Jel,ck,if_pos rfl]
        have:grp (V3 R es ws) ks y=[]:=by
         unfold grp
         rw [J71]
         intro j hj z
         exact hy (Jmw.mpr ⟨j,hj,of_decide_eq_true z⟩)
        rw [this];rfl
  . have ck:V3 R es ws k=none:=if_neg c
    rw [if_neg c,ck]
    refine X7 λ x hx=>?_
    rw [Jel,ck,if_neg (λ z=>by cases z)]
theorem Jqh {R:Nat}{ws:List Way}{ks:List Int}(hr:∀ e∈Yh ws ks,e.1<R/\e.2<R) {k j:Int}(hk:k∈ks) (hj:j∈ks) (h:Pw (Yh ws ks) R (Je ws k).b.toNat (Je ws k).a.toNat=true) :
 (Pw (Yh ws ks) R (Je ws k).b.toNat (Je ws j).a.toNat&&Pw (Yh ws ks) R (Je ws j).b.toNat (Je ws k).a.toNat)=decide (V3 R (Yh ws ks) ws j=some (Y1 R (Yh ws ks) (Je ws k).a.toNat)):=by
 have ab:∀ k∈ks,Rt (Yh ws ks) (Je ws k).a.toNat (Je ws k).b.toNat:=λ k hk=>.step (.refl _) (Qm.mpr ⟨k,hk,rfl⟩)
 have lt:∀ k∈ks,(Je ws k).a.toNat<R:=λ k hk=>(hr _ (Qm.mpr ⟨k,hk,rfl⟩)).1
 rw [Zo hr] at h
 rw [Uh,Xx,Zo hr,Zo hr,decide_eq_true_iff]
 unfold V3
 have least_mem:∀ a,a<R->∃ m,Y1 R (Yh ws ks) a=((m:Nat):Int)/\Rt (Yh ws ks) a m/\Rt (Yh ws ks) m a:=λ a ha=>by
  have hs:=Jh0 (es:=Yh ws ks) ha
  unfold Y1
  cases e:Yu R (Yh ws ks) a with
  | nil=>rw [e] at hs;cases hs
  | cons x xs=>
   have hx:x∈Yu R (Yh ws ks) a:=by rw [e];exact Qh
   have:=(Xq.mp hx).2
   rw [Xx,Zo hr,Zo hr] at this
   exact ⟨x,rfl,this.1,this.2⟩
 constructor
 . rintro ⟨h1,h2⟩
   have jj:Rt (Yh ws ks) (Je ws j).b.toNat (Je ws j).a.toNat:=(h2.trans (ab k hk)).trans h1
   rw [if_pos ((Zo hr).mpr jj)]
   have e:Yu R (Yh ws ks) (Je ws j).a.toNat=Yu R (Yh ws ks) (Je ws k).a.toNat:=by
    have jk:=(ab j hj).trans h2
    have kj:=(ab k hk).trans h1
    unfold Yu
    refine J40 λ x _=>?_
    rw [Uh,Xx,Xx,Zo hr,Zo hr,Zo hr,Zo hr]
    exact ⟨λ z=>⟨kj.trans z.1,z.2.trans jk⟩,λ z=>⟨jk.trans z.1,z.2.trans kj⟩⟩
   unfold Y1
   rw [e]
 . intro z
   split at z
   . rename_i c
     rw [Zo hr] at c
     have z:=Xf z
     obtain ⟨m,e1,m1,m2⟩:=least_mem _ (lt j hj)
     obtain ⟨m',e2,m3,m4⟩:=least_mem _ (lt k hk)
     have:m=m':=by rw [e1,e2] at z;omega
     subst this
     exact ⟨h.trans (m3.trans m2),c.trans (m1.trans m4)⟩
   . cases z
end My
namespace L2
open My
section
variable {X:Cx}
end
end L2
namespace My
open L2
noncomputable def headD:Yao->Yao
 | .tuple (w::_)=>w
 | _=>.none
theorem Jud {b:Bool}{Q:Yao->Prop}(q:Q (.bool false)):fEq true (.bool b) (.bool b) Q:=by
 unfold fEq
 cases b<;>exact q
end My
namespace L2
open My
section
variable {X:Cx}{x y:Str}{e:Expr}{es:List Expr}{p p' pos apos:Pos}{t:TA}{k:Nat}{ps:List Str}{sp:Sp}{i:Int}
end
end L2
namespace My
open L2
noncomputable abbrev J3d:=List Vl->Nat->(List Yao->Nat->Prop)->(Addr->Nat->Prop)->Prop
section
variable {i:Nat}{sp:J3d}{t:TA}{gt:GA}{tv:TE}{gv:GE}{d:Int}
end
end My
namespace L2
open My
section
variable {X:Cx}{tg iter kx vx:Expr}{ifs:List Expr}{scope sc:Yav}{N N':List Str}{k:Nat}{idx:List Nat}{wi:TI}{g:TG}{tt:TT}{tk tv:TE}{pos:Pos}
end
section
variable {X:Cx}
end
end L2
namespace My
open L2
section
variable {C:Cv}{ex:List Addr}{env:List Vl}{σ:L2.St}{H H':Hp}{n m:Nat}
end
theorem Jem {cs:List Int}(h:∀ c∈cs,0<=c) (i:Nat):0<=cs.getD i 0:=by
 rw [Qg]
 cases e:cs[i]? with
 | none=>exact J3k _
 | some c=>exact h c (Xa e)
structure RoundOk (R:Int) (ws:List Way) (cs:List Int):Prop where
 len:cs.length=ws.length
 nn:∀ c∈cs,0<=c
 bal:∀ r:Nat,r<R.toNat->W2 ws cs ws.length (r:Nat)=0
end My
namespace L2
section
variable {X:Cx}{pos p2:Pos}
end
end L2
namespace My
open L2
end My
namespace L2
open PySem.SeqAt
section
variable {X:Cx}
end
end L2
namespace My
open L2
abbrev Jys (i:Nat):GE:=λ env n Q=>match env[i]? with
 | some (.own xs)=>Q (.tuple xs) n
 | some (.d (.list xs))=>Q (.tuple xs) n
 | some (.d (.tuple xs))=>Q (.tuple xs) n
 | _=>False
instance (priority:=high) ev_tupO {K:Qc}{i:Nat}:EV true (tCB (λ xs H Q=>∃ p ys,xs=[.ref p]/\((SqL K H p ys/\∀ l,H l=none->Q (.ref l) (upd H l (.tup ys)))\/(SqT K H p ys/\Q (.ref p) H))) (Yj (Z1 i) Jbx)) (Jys i):=⟨λ {S ex env σ H n Q P} E h k=>by
 unfold Jys at h
 split at h
 . rename_i xs e
   obtain ⟨a,vs,ev,h1,h2,h3,h4,h5⟩:=E.sl i _ e
   exact ⟨_,Jm ev,_,_,rfl,.inl ⟨SqL.of h1,λ l hl=>k _ _ _ _ h (Yr.new E.inv (Kp.new hl _)) (.tuple Jg (E.al.nm hl) h2 (h3.keep (Kp.new hl _)))⟩⟩
 . rename_i xs e
   obtain ⟨v,ev,r⟩:=E.sl i _ e
   cases r with
   | list h1 _ h2 h3=>exact ⟨_,Jm ev,_,_,rfl,.inl ⟨SqL.of h1,λ l hl=>k _ _ _ _ h (Yr.new E.inv (Kp.new hl _)) (.tuple Jg (E.al.nm hl) h2 (h3.keep (Kp.new hl _)))⟩⟩
 . rename_i xs e
   obtain ⟨v,ev,r⟩:=E.sl i _ e
   cases r with
   | tuple h1 hn h2 h3=>exact ⟨_,Jm ev,_,_,rfl,.inr ⟨SqT.of h1,k _ _ _ _ h (.refl E.inv) (.tuple h1 hn h2 h3)⟩⟩
 . exact h.elim⟩
theorem Jue {ws:List Way}{cs:List Int}(h:cs.length=ws.length):W9 (ws.map Y6) (cs.map .int)=(Qk ws.length).map λ (i:Nat)=>Ub [Y6 (Je ws (i:Int)),.int (cs.getD i 0)]:=by
 unfold W9
 apply X1
 intro i
 rw [Uf]
 by_cases hi:i<ws.length
 . rw [Jh2 hi,Jcs (by omega),Jqg hi]
 . rw [Jjw hi,Qx (l:=ws.map Y6) (by rw [Qb];omega)]
def Jyt:G1:=λ ds Q=>match ds with
 | [.int i]=>Q (.int i)
 | [.bool b]=>Q (.int (if b=true then 1 else 0))
 | _=>False
instance cs_intB:CS (λ xs H Q=>(∃ i,xs=[V.int i]/\Q (V.int i) H)\/∃ k,xs=[V.bl k]/\Q (V.int (if k=true then 1 else 0)) H) Jyt:=⟨λ {H xs ds Q P} r h k=>by
 unfold Jyt at h
 split at h
 . cases r with
   | cons r1 t=>
    cases t
    cases r1
    exact .inl ⟨_,rfl,k _ _ h λ ex=>.int _⟩
 . cases r with
   | cons r1 t=>
    cases t
    cases r1
    exact .inr ⟨_,rfl,k _ _ h λ ex=>.int _⟩
 . exact h.elim⟩
theorem Jr1 {ws:List Way}{ks rg:List Int}{x y:Nat}(h:Rt (Yh ws ks) x y) (hin:∀ i∈ks,Rt (Yh ws ks) x (Je ws i).a.toNat->Rt (Yh ws ks) (Je ws i).b.toNat y->i∈rg):Rt (Yh ws rg) x y:=by
 induction h with
 | refl=>exact .refl _
 | step h1 e ih=>
  obtain ⟨i,hi,ei⟩:=Qm.mp e
  have ea:(Je ws i).a.toNat=_:=congrArg Prod.fst ei
  have eb:(Je ws i).b.toNat=_:=congrArg Prod.snd ei
  have hr:i∈rg:=hin i hi (by rw [ea];exact h1) (by rw [eb];exact .refl _)
  exact (ih λ j hj h2 h3=>hin j hj h2 (h3.step e)).step (Qm.mpr ⟨i,hr,ei⟩)
theorem Jfk {R:Nat}{ws:List Way}{ks rg:List Int}(h:rg∈Vx R ws ks):∃ y∈Jcd (V3 R (Yh ws ks) ws) ks,rg=grp (V3 R (Yh ws ks) ws) ks y:=by
 unfold Vx at h
 rw [J0e,Qw] at h
 obtain ⟨y,hy,rfl⟩:=Qm.mp h
 exact ⟨y,hy,rfl⟩
theorem Jmx {R:Nat}{ws:List Way}{ks rg:List Int}(hr:∀ e∈Yh ws ks,e.1<R/\e.2<R) (h:rg∈Vx R ws ks) {k:Int}(hk:k∈rg) :
 k∈ks/\Rt (Yh ws ks) (Je ws k).b.toNat (Je ws k).a.toNat/\∀ j,j∈rg↔j∈ks/\Rt (Yh ws ks) (Je ws k).b.toNat (Je ws j).a.toNat/\Rt (Yh ws ks) (Je ws j).b.toNat (Je ws k).a.toNat:=by
 obtain ⟨y,hy,rfl⟩:=Jfk h
 obtain ⟨hks,hc⟩:=Xq.mp hk
 have hc:=of_decide_eq_true hc
 have hp:Pw (Yh ws ks) R (Je ws k).b.toNat (Je ws k).a.toNat=true:=by
  unfold V3 at hc
  by_cases c:Pw (Yh ws ks) R (Je ws k).b.toNat (Je ws k).a.toNat=true
  . exact c
  . rw [if_neg c] at hc;cases hc
 have hy2:y=Y1 R (Yh ws ks) (Je ws k).a.toNat:=by
  unfold V3 at hc
  rw [if_pos hp] at hc
  exact (Xf hc).symm
 refine ⟨hks,(Zo hr).mp hp,λ j=>?_⟩
 constructor
 . intro hj
   obtain ⟨hjs,hcj⟩:=Xq.mp hj
   have hcj:=of_decide_eq_true hcj
   rw [hy2] at hcj
   have:=Jqh hr hks hjs hp
   rw [decide_eq_true hcj,Xx,Zo hr,Zo hr] at this
   exact ⟨hjs,this.1,this.2⟩
 . rintro ⟨hjs,h1,h2⟩
   have:=Jqh hr hks hjs hp
   rw [(Zo hr).mpr h1,(Zo hr).mpr h2] at this
   refine Xq.mpr ⟨hjs,decide_eq_true ?_⟩
   rw [hy2]
   exact of_decide_eq_true this.symm
theorem Jwr {R:Nat}{ws:List Way}{ks rg:List Int}(h:rg∈Vx R ws ks):rg≠[]:=by
 obtain ⟨y,hy,rfl⟩:=Jfk h
 obtain ⟨k,hk,hc⟩:=Jmw.mp hy
 intro z
 have:k∈grp (V3 R (Yh ws ks) ws) ks y:=Xq.mpr ⟨hk,decide_eq_true hc⟩
 rw [z] at this
 cases this
theorem Jmy {R:Nat}{ws:List Way}{ks rg:List Int}(h:rg∈Vx R ws ks):ks.filter (λ k=>decide (k∈rg))=rg:=by
 obtain ⟨y,hy,rfl⟩:=Jfk h
 unfold grp
 refine J40 λ k hk=>?_
 refine decide_eq_decide.mpr ?_
 rw [Xq,decide_eq_true_iff]
 exact ⟨λ z=>z.2,λ z=>⟨hk,z⟩⟩
theorem Joy {R:Nat}{ws:List Way}{ks rg:List Int}(hr:∀ e∈Yh ws ks,e.1<R/\e.2<R) (h:rg∈Vx R ws ks):∀ k∈rg,∀ j∈rg,Rt (Yh ws rg) (Je ws k).b.toNat (Je ws j).a.toNat:=λ k hk j hj=>by
 obtain ⟨hks,kk,mem⟩:=Jmx hr h hk
 obtain ⟨hjs,h1,h2⟩:=(mem j).mp hj
 have jj:Rt (Yh ws ks) (Je ws j).a.toNat (Je ws j).b.toNat:=.step (.refl _) (Qm.mpr ⟨j,hjs,rfl⟩)
 refine Jr1 h1 λ i hi g1 g2=>(mem i).mpr ⟨hi,g1,g2.trans (jj.trans h2)⟩
theorem Jr2 {R:Nat}{ws:List Way}{ks rg:List Int}(hr:∀ e∈Yh ws ks,e.1<R/\e.2<R) (h:rg∈Vx R ws ks):Vx R ws rg=[rg]:=by
 refine Juc (Jwr h) (λ e he=>?_) (Joy hr h)
 obtain ⟨k,hk,rfl⟩:=Qm.mp he
 exact hr _ (Qm.mpr ⟨k,(Jmx hr h hk).1,rfl⟩)
noncomputable def inN (rs:List (List Int)) (k:Int):Int:=((rs.countP λ r=>decide (k∈r):Nat):Int)
end My
namespace L2
section
variable {X:Cx}
end
end L2
namespace My
open L2
section
variable {n:Nat}{key:Nat->Int}
structure PA (n:Nat) (p:Array Nat):Prop where
 size:p.size=n
 perm:p.toList.Perm (Qk n)
noncomputable def kv (key:Nat->Int) (p:Array Nat) (i:Nat):Int:=key (p.getD i 0)
end
end My
namespace L2
open PySem.SeqAt
open AutoSeq1 (wpAny_loadPart')
section
variable {prog:Yas}{w:Yar}{A:Yat}{E:Yan->Yap->Prop}{s:Yap}
end
section
variable {prog:Yas}{w:Yar}{A:Yat}{E:Yan->Yap->Prop}{s:Yap}
end
theorem Jr3:∀ {as:List Addr}{us:List Yan},J9 (as.map V.ref) us->us=as.map Q1:=by
 intro as
 induction as with
 | nil=>intro us r;cases r;rfl
 | cons a as ih=>
  intro us r
  cases r with
  | cons r t=>
   cases r
   rw [ih t];rfl
section
variable {X:Cx}
end
section
variable {X:Cx}
end
end L2
namespace My
open L2
noncomputable abbrev rt (ws:List Way) (ks:List Int) (i j:Int):Prop:=Rt (Yh ws ks) (Je ws i).b.toNat (Je ws j).a.toNat
end My
namespace L2
open PySem.SeqAt
section
variable {X:Cx}
end
section
variable {X:Cx}{v:Expr}{te:TE}{a:Str}{ja:Nat}{pa pf pos:Pos}
end
end L2
namespace My
open L2
end My
namespace L2
open PySem.SeqAt
section
open AutoSeq1 (wpAny_loadPart')
end
section
variable {prog:Yas}{w:Yar}{A:Yat}{E:Yan->Yap->Prop}{s:Yap}
end
section
variable {X:Cx}{es:List Expr}{kk:Nat}{tp:Pos}
end
end L2
namespace My
open L2
section
variable {K:Qc}{ex:List Addr}{H:Hp}
end
open PySem.StrLaws PySem.Builtin.Str
end My
namespace L2
open PySem.SeqAt
end L2
namespace My
open L2
theorem Y9 {α:Type}{turn:Yao->Nat->(Option Yao->Nat->Prop)->Prop}{n:Nat}{Q:List Yao->Nat->Prop}{f:α->Yao}(g:α->Yao) {xs:List α}(h:∀ x∈xs,∀ n K,K (some (g x)) n->turn (f x) n K) (q:Q (xs.map g) n):Jgd turn (xs.map f) n Q:=by
 induction xs generalizing n Q with
 | nil=>exact q
 | cons x xs ih=>exact h x Qh _ _ (ih (λ y hy=>h y (Qi _ hy)) q)
end My
namespace PySem
open PySem.Sem (wp)
section
variable {prog:Yas}{w:Yar}{A:Yat}{E:Yan->Yap->Prop}{h:Heap}{g:Array GenState}{d:Drawn}{t:Nat}{os:OsState}
variable {nm q:Str}{C N:Addr}{bs bm bmB:List Yan}{hdct:Bool}{sn:List Str}{sub:List Yan}{ab:Bool}{col:Option Bool}{dd:Option Addr}{k0 k1 k2 k3 k5:Option Yan}{B newId initId:String}
end
end PySem
namespace L2
section
variable {prog:Yas}{w:Yar}{A:Yat}{E:Yan->Yap->Prop}{s:Yap}{l:Addr}{xs:Array (Int×Tok)}
end
section
variable {X:Cx}
end
end L2
namespace My
open L2
section
variable {R:Int}{ws:List Way}{ks:List Int}{x:Int}{l:List Int}{i j:Nat}
end
end My
namespace L2
open PySem.SeqAt
section
variable {X:Cx}{pins:List (Addr×Obj)}{σ:St}{A:Yat}{R:Ya8->Yap->Prop}{it l d:Addr}{ps:List (Key×V×Addr)}
end
section
variable {prog:Yas}{w:Yar}{A:Yat}{E:Yan->Yap->Prop}{s:Yap}
end
section
variable {X:Cx}
end
end L2
namespace My
open L2 PySem.SeqAt PySem.MeetsSeq
section
variable {X:Cx}
end
abbrev Juf (i:Nat):GN:=λ env n Q=>match env[i]? with
 | some (.own xs)=>Q xs n
 | some (.d x)=>Jkl [x] λ d=>Q d n
 | _=>False
instance (priority:=high) nv_listO {K:Qc}{i:Nat}:NV (tCB (λ xs H Q=>∃ p ys,xs=[.ref p]/\(SqL K H p ys\/SqT K H p ys)/\∀ l,H l=none->Q (.ref l) (upd H l (.lst ys))) (Yj (Z1 i) Jbx)) (Juf i):=⟨λ {S ex env σ H n Q P} E h k=>by
 unfold Juf at h
 split at h
 . rename_i xs e
   obtain ⟨a,vs,ev,h1,h2,h3,h4,h5⟩:=E.sl i _ e
   refine ⟨_,Jm ev,_,_,rfl,.inl (SqL.of h1),λ p hp=>?_⟩
   obtain ⟨c1,c2,c3⟩:=B5 E (.refl E.inv) hp h3
   exact k _ _ _ _ _ h c1 c2 Jg h2 c3
 . rename_i x e
   refine (nv_cn (r:=λ xs H Q=>∃ p ys,xs=[.ref p]/\(SqL K H p ys\/SqT K H p ys)/\∀ l,H l=none->Q (.ref l) (upd H l (.lst ys))) (t:=Yj (Z1 i) Jbx)).nv E ?_ k
   show Jv8 i env n _
   unfold Jv8
   rw [e]
   exact h
 . exact h.elim⟩
open L2
section
variable {R U:Int}{ws:List Way}{ks:List Int}
end
end My
namespace L2
def DefM (K:Qc) (C:Addr) (m qual:Str) (st:Stmt) (ps:List Str):Prop:=∃ f fd,Meth K C m f/\Fun K m qual st f fd/\Bu K fd ps []
def Wb (P:Yas) (w:Yar) (K:Qc) (mg:Str->Option Yan) (base:Heap) (C:Addr) (m:Str) (k:Nat) (ps:List Str) (sp:Sp):Prop:=
 ∃ f fd,Cls K C/\Meth K C m f/\Bu K fd ps []/\FnOk P w K mg base CX0 k f fd ps sp
section
variable {P:Yas}{w:Yar}{K:Qc}{mg:Str->Option Yan}{base:Heap}{C:Addr}{x m qual:Str}{st:Stmt}{ps:List Str}{k:Nat}{sp:Sp}
theorem DefM.cal (d:DefM K C m qual st ps) (c:Cls K C) (h:∀ f fd,Fun K m qual st f fd->FnOk P w K mg base CX0 k f fd ps sp):Wb P w K mg base C m k ps sp:=by
 obtain ⟨f,fd,hm,F,b⟩:=d
 exact ⟨f,fd,c,hm,b,h f fd F⟩
theorem defM_mk {f:Addr}{oc:Yan}{od an:Option Addr}{osl:Array (Option Yan)}{kV doc pm cdv ct:Yan}
 (a:Ui K (.ref C) m=some (some (.ref f))) (i:J4e K (.ref f)=true) (l:K.lookup f=some ⟨oc,od,.func (X3 m qual (Wi st) (Z3 st) (Jd st) .none kV doc pm an cdv ct),osl⟩) (c:J3o K cdv qual=true) (kp:Uj K (.ref f)=true)
 (hb:∀ (kV doc pm:Yan) (an:Option Addr) (cdv ct:Yan) (us:List Yan),us.length=ps.length->Ybl (X3 m qual (Wi st) (Z3 st) (Jd st) .none kV doc pm an cdv ct) ⟨us,[]⟩=pure (ps.zip us)):DefM K C m qual st ps:=
 ⟨f,_,⟨a,i,kp⟩,Jhb (st:=st) l c kp,(Jhb (st:=st) l c kp).binds hb⟩
end
section
variable {X:Cx}{x m:Str}{C:Addr}{o e:Expr}{es:List Expr}{p pos apos:Pos}{ta:TE}{t:TA}{k:Nat}{ps:List Str}{sp:Sp}
theorem J7 {K':Qc}{f:Str}(hK:X.K=K') (he:PE X e ta) (hb:Ybj e f X.env (eval e X.env)=eval e X.env:=by rfl):PE X (.Attribute e f pos) (Joc K' ta f):=hK▸Jzi he hb
theorem Jdg {pl:Sem Bool}(c:Wb X.prog X.w X.K X.mg X.base C m k ps sp) (hr:Room k X.A) (he:PE X o ta) (ha:PA X (e::es) t)
 (hst:starEach (e::es) X.env=(false,eval e X.env)::starEach es X.env:=by rfl) (hpl:(backTo pos (starEach es X.env)).any (·.1)=false:=by rfl)
 (ht:eval (.Call (.Attribute o m apos) (e::es) [] pos) X.env=(do
  let ov <- eval o X.env
  Ya5 apos.atName
  let (f,first) <- holding [ov] (getMethod ov m pl)
  callWith pos f first (backTo pos (starEach (e::es) X.env)) (backToKw pos (keywordEach [] X.env))):=by rfl):PE X (.Call (.Attribute o m apos) (e::es) [] pos) (Jji C m sp [] E0 ta t):=by
 obtain ⟨f,fd,hc,hm,b,F⟩:=c
 exact Jvz he hc hm F hr b .nil Jta ha hst hpl ht
end
end L2
namespace My
open L2
theorem Jmz {C C':Addr}{ns ns':List Str}{ds ds':List Yao}(hl:ns.length=ds.length) (hl':ns'.length=ds'.length) (h:Jbg C ns ds=Jbg C' ns' ds'):C=C'/\ns=ns'/\ds=ds':=by
 unfold Jbg at h
 injection h with h1 h2
 injection h1 with h1 _
 injection h1 with h1
 refine ⟨by exact_mod_cast h1,?_⟩
 clear h1
 induction ns generalizing ds ns' ds' with
 | nil=>
  cases ds with
  | cons _ _=>cases hl
  | nil=>
   cases ns' with
   | nil=>
    cases ds' with
    | nil=>exact ⟨rfl,rfl⟩
    | cons _ _=>cases hl'
   | cons _ _=>
    cases ds' with
    | nil=>cases hl'
    | cons _ _=>cases h2
 | cons n ns ih=>
  cases ds with
  | nil=>cases hl
  | cons d ds=>
   cases ns' with
   | nil=>
    cases ds' with
    | nil=>cases h2
    | cons _ _=>cases hl'
   | cons n' ns'=>
    cases ds' with
    | nil=>cases hl'
    | cons d' ds'=>
     rw [J72,J72] at h2
     injection h2 with h3 h4
     injection h3 with h5 h6
     injection h5 with h5
     obtain ⟨e1,e2⟩:=ih (by simpa using hl) (by simpa using hl') h4
     exact ⟨by rw [h5,e1],by rw [h6,e2]⟩
noncomputable def Ji2 (ns:List Str) (ds:List Yao) (f:Str):Option Yao:=(ns.zip ds).lookup f
theorem Jqi {ex:List Addr}{H:Hp}{f:Str}{x:Yao}:∀ {fs:List (Str×V)}{ds:List Yao},Reps ex H ds (fs.map (·.2))->Ji2 (fs.map (·.1)) ds f=some x->∃ v,fs.lookup f=some v/\Rep ex H x v
 | [],ds,r,h=>by cases h
 | p::fs,ds,r,h=>by
  cases r with
  | cons r1 t=>
   unfold Ji2 at h
   rw [Q0,J56] at h
   by_cases e:f=p.1
   . subst e
     rw [J9m] at h
     cases h
     exact ⟨p.2,J9m,r1⟩
   . have hb:(f==p.1)=false:=beq_eq_false_iff_ne.mpr e
     rw [Ux,hb] at h
     obtain ⟨v,hv,rv⟩:=Jqi t h
     exact ⟨v,by rw [Ux,hb];exact hv,rv⟩
theorem Jug {f:Str}:∀ {fs:List (Str×V)},f∉fs.map (·.1)->fs.lookup f=none
 | [],_=>rfl
 | p::fs,h=>by
  rw [Q0,Qf,not_or] at h
  rw [Ux,beq_eq_false_iff_ne.mpr h.1]
  exact Jug h.2
section
variable {b:Bool}{te ta:TE}{g:GE}
abbrev J3e (K:Qc) (f:Str) (g:GE):GE:=λ env n Q=>g env n λ d n1=>∃ (C:Addr) (ns:List Str) (ds:List Yao) (x:Yao),d = .dict (Jbg C ns ds)/\Cls K C/\NoAttr K C f/\ns.length=ds.length/\Ji2 ns ds f=some x/\Q x n1
instance ev_fld {K:Qc}{f:Str} [A:EV b te g]:EV b (Joc K te f) (J3e K f g):=⟨λ {S ex env σ H n Q P} E h k=>A.ev E h λ d n1 v H1 h1 s1 r1=>by
 obtain ⟨C,ns,ds,x,rfl,hc,hn,hl,hx,q⟩:=h1
 cases r1 with
 | obj e m ek r=>
  have hr:=r.length
  rw [Qb] at hr
  obtain ⟨rfl,rfl,rfl⟩:=Jmz hl (by rw [Qb,hr]) ek
  obtain ⟨v',hv,rv⟩:=Jqi r hx
  exact ⟨_,_,_,_,v',rfl,e,hc,hn,hv,k _ _ _ _ q s1 rv⟩⟩
abbrev J2c (C:Addr) (m:Str) (sp:GSp) (g:GE) (ga:GA):GE:=λ env n Q=>g env n λ d n1=>(∃ (ns:List Str) (ds:List Yao),d = .dict (Jbg C ns ds)/\ns.length=ds.length/\m∉ns)/\ga env n1 λ as n2=>sp (.d d::as) n2 Q
abbrev J0f (C:Addr) (m:Str) (sp:GSn) (g:GE) (ga:GA):GN:=λ env n Q=>g env n λ d n1=>(∃ (ns:List Str) (ds:List Yao),d = .dict (Jbg C ns ds)/\ns.length=ds.length/\m∉ns)/\ga env n1 λ as n2=>sp (.d d::as) n2 Q
theorem Juh {ex:List Addr}{H:Hp}{C:Addr}{m:Str}{ns:List Str}{ds:List Yao}{v:V}(hl:ns.length=ds.length) (hm:m∉ns) (r:Rep ex H (.dict (Jbg C ns ds)) v):∃ a dx fs,v = .ref a/\H a=some (.ins C dx fs)/\fs.lookup m=none:=by
 cases r with
 | obj e n ek r=>
  have hr:=r.length
  rw [Qb] at hr
  obtain ⟨rfl,rfl,rfl⟩:=Jmz hl (by rw [Qb,hr]) ek
  exact ⟨_,_,_,rfl,e,Jug hm⟩
instance ev_meth {C:Addr}{m:Str}{sp:GSp}{E':XK}{t:TA}{gt:GA} [A:EV b ta g] [B:AV b t gt]:EV b (Jji C m (Jk sp) [] E' ta t) (J2c C m sp g gt):=⟨λ {S ex env σ H n Q P} E h k=>A.ev E h λ d n1 v H1 h1 s1 r1=>by
 obtain ⟨⟨ns,ds,rfl,hl,hm⟩,h2⟩:=h1
 obtain ⟨a,dx,fs,rfl,e,hf⟩:=Juh hl hm r1
 refine ⟨a,dx,fs,rfl,e,hf,B.av (E.step s1) h2 λ as n2 vs H2 h3 s2 r2=>?_⟩
 rw [Uu]
 exact ⟨S,exm b S ex,.d (.dict (Jbg C ns ds))::as,n2,_,⟨⟨_,rfl,(E.step s1).repm b s2 r1⟩,r2⟩,E.sup b,(E.step (s1.trans s2)).alm b,s2.2,h3,λ d n' v H' p s3 r=>k _ _ _ _ p ((s1.trans s2).trans s3) r⟩⟩
instance nv_meth {C:Addr}{m:Str}{sp:GSn}{E':XK}{t:TA}{gt:GA} [A:EV true ta g] [B:AV true t gt]:NV (Jji C m (Z4 sp) [] E' ta t) (J0f C m sp g gt):=⟨λ {S ex env σ H n Q P} E h k=>A.ev E h λ d n1 v H1 h1 s1 r1=>by
 obtain ⟨⟨ns,ds,rfl,hl,hm⟩,h2⟩:=h1
 obtain ⟨a,dx,fs,rfl,e,hf⟩:=Juh hl hm r1
 refine ⟨a,dx,fs,rfl,e,hf,B.av (E.step s1) h2 λ as n2 vs H2 h3 s2 r2=>?_⟩
 rw [Uu]
 exact ⟨S,ex,.d (.dict (Jbg C ns ds))::as,n2,_,⟨⟨_,rfl,(E.step s1).repm true s2 r1⟩,r2⟩,E.ch,(E.step (s1.trans s2)).al,s2.2,h3,λ ds n' a ws H' p s3 ha hl hz r=>k _ _ _ _ _ p ((s1.trans s2).trans s3) ((s1.trans s2).free ha) hl hz r⟩⟩
end
noncomputable def Jws:Stmt->List Stmt
 | .ClassDef (body:=b) ..=>b
 | _=>[]
noncomputable abbrev St':=Int×List Int
noncomputable abbrev Kn:=List (Int×St')
def Jk7:GSp:=λ as n Q=>∃ (xs gs:List Int),as=[.d (.tuple (xs.map .int)),.d (.tuple (gs.map .int))]/\xs.length<=1000/\xs.length=gs.length/\Q (.tuple ((Bk xs gs).map .int)) n
end My
namespace L2
open My
section
variable {X:Cx}{x:Str}{e:Expr}{es:List Expr}{p pos:Pos}{t:TA}{k:Nat}{ps:List Str}{sp:Sp}{i:Int}{E:XK}
end
end L2
namespace My
open L2
section
variable {i:Nat}{sp:GSx}{t:TA}{gt:GA}{tv:TE}{gv:GE}{d:Int}{b:Bool}{E':XK}
end
theorem Zh:∀ xs gs:List Int,W9 (xs.map Qv) (gs.map Qv)=(xs.zip gs).map λ p=>.tuple [.int p.1,.int p.2]
 | [],_=>by simp [W9]
 | _::_,[]=>by simp [W9]
 | x::xs,g::gs=>by
  rw [Q0,Q0,J56,Q0,<- Zh xs gs]
  simp [W9]
theorem Jak {β:Type}{turn:Yao->Nat->(Option Yao->Nat->Prop)->Prop}{n:Nat}{g h:β->Yao}{p:β->Bool}:∀ {ks:List β}{Q:List Yao->Nat->Prop},(∀ k∈ks,∀ K:Option Yao->Nat->Prop,(p k=true->K (some (h k)) n)->(p k=false->K none n)->turn (g k) n K)->Q ((ks.filter p).map h) n->Jgd turn (ks.map g) n Q
 | [],_,_,q=>q
 | k::ks,Q,ht,q=>by
  refine ht k Qh _ (λ c=>?_) (λ c=>?_)
  . rw [J4w c] at q
    exact Jak (λ k hk=>ht k (Qi _ hk)) q
  . rw [J4x (by rw [c];exact Q2)] at q
    exact Jak (λ k hk=>ht k (Qi _ hk)) q
theorem Jui (xs gs:List Int):Bk xs gs=(xs.zip gs).map λ p=>p.1+p.2:=by
 unfold Bk
 rw [J42,J73]
section
variable {K:Qc}{C:Addr}{s0:St'}{p:Kn}{Q:Yao->Prop}
end
section
variable {x t:Int}{xr gr:List Int}{N:Nat}
end
theorem Juj {k:Int}:(Qo k.toNat [Qv 0]).flatten=(Qo k.toNat (0:Int)).map .int:=by
 rw [Jb9,J3s]
end My
namespace Tb
abbrev Vec:=Nat->Int
noncomputable def Jn:Nat->(Nat->Int)->Int
 | 0,_=>0
 | n+1,f=>Jn n f+f n
theorem Jj {n:Nat}{f g:Nat->Int}(h:∀ i,i<n->f i=g i):Jn n f=Jn n g:=by
 induction n with
 | zero=>rfl
 | succ n ih=>rw [Jn,Jn,ih λ i hi=>h i (by omega),h n (by omega)]
theorem Wd (n:Nat):Jn n (λ _=>0)=0:=by
 induction n with
 | zero=>rfl
 | succ n ih=>rw [Jn,ih];rfl
theorem Zj (n:Nat) (f g:Nat->Int):Jn n (λ i=>f i+g i)=Jn n f+Jn n g:=by
 induction n with
 | zero=>rfl
 | succ n ih=>rw [Jn,Jn,Jn,ih];omega
theorem Zc (n:Nat) (c:Int) (f:Nat->Int):Jn n (λ i=>c*f i)=c*Jn n f:=by
 induction n with
 | zero=>simp [Jn]
 | succ n ih=>rw [Jn,Jn,ih,J43]
theorem Jjz (n:Nat) (c:Int) (f:Nat->Int):Jn n (λ i=>f i*c)=Jn n f*c:=by
 rw [Xz,<- Zc];exact Jj λ i _=>Xz _ _
theorem Wc (n:Nat) (f:Nat->Int):Jn n (λ i=>-f i) = -Jn n f:=by
 induction n with
 | zero=>rfl
 | succ n ih=>rw [Jn,Jn,ih];omega
theorem Yc {n a:Nat}{f:Nat->Int}(ha:a<n) (h:∀ i,i<n->i≠a->f i=0):Jn n f=f a:=by
 induction n with
 | zero=>omega
 | succ n ih=>
  rw [Jn]
  by_cases e:a=n
  . subst e
    have:Jn a f=0:=by rw [Jj (g:=λ _=>0) λ i hi=>h i (by omega) (by omega),Wd]
    rw [this];omega
  . rw [ih (by omega) λ i hi hne=>h i (by omega) hne,h n (by omega) λ z=>e z.symm];omega
theorem Jm0 {n a b:Nat}{f:Nat->Int}(ha:a<n) (hb:b<n) (hab:a≠b) (h:∀ i,i<n->i≠a->i≠b->f i=0):Jn n f=f a+f b:=by
 have e:Jn n f=Jn n (λ i=>(if i=a then f a else 0)+(if i=b then f b else 0)):=Jj λ i hi=>by
  by_cases h1:i=a
  . subst h1;rw [if_pos rfl,if_neg hab];omega
  . by_cases h2:i=b
    . subst h2;rw [if_neg h1,if_pos rfl];omega
    . rw [if_neg h1,if_neg h2,h i hi h1 h2];rfl
 rw [e,Zj,Yc (a:=a) ha (λ i _ hi=>if_neg hi),Yc (a:=b) hb (λ i _ hi=>if_neg hi),if_pos rfl,if_pos rfl]
theorem Ja8 (n m:Nat) (f:Nat->Nat->Int):Jn n (λ i=>Jn m (λ j=>f i j))=Jn m (λ j=>Jn n (λ i=>f i j)):=by
 induction n with
 | zero=>show 0=Jn m (λ _=>0);rw [Wd]
 | succ n ih=>
  show Jn n _+Jn m (λ j=>f n j)=Jn m (λ j=>Jn n (λ i=>f i j)+f n j)
  rw [ih,Zj]
noncomputable def sg (j:Nat):Int:=if j%2=0 then 1 else -1
theorem Jwt (j:Nat):sg (j+1) = -sg j:=by unfold sg;split<;>split<;>omega
noncomputable def atV (vs:List Vec) (j:Nat):Vec:=vs.getD j (λ _=>0)
noncomputable def D:Nat->List Vec->Int
 | 0,_=>1
 | k+1,vs=>Jn vs.length λ j=>sg (j+k)*atV vs j k*D k (vs.eraseIdx j)
theorem Yw {vs:List Vec}{a:Nat}{v:Vec}(h:a<vs.length):atV (vs.set a v) a=v:=by
 unfold atV;rw [Qg,Q3 h];rfl
theorem Ye {vs:List Vec}{a b:Nat}{v:Vec}(h:a≠b):atV (vs.set a v) b=atV vs b:=by
 unfold atV;rw [Qg,Q4 h,<- Qg]
theorem Jab (vs:List Vec) (a:Nat) (v:Vec):(vs.set a v).eraseIdx a=vs.eraseIdx a:=by
 induction vs generalizing a with
 | nil=>rfl
 | cons x vs ih=>cases a with
  | zero=>rfl
  | succ a=>show x::(vs.set a v).eraseIdx a=_;rw [ih];rfl
theorem Jbl (vs:List Vec) {a j:Nat}(v:Vec) (h:j<a):(vs.set a v).eraseIdx j=(vs.eraseIdx j).set (a-1) v:=by
 induction vs generalizing a j with
 | nil=>rfl
 | cons x vs ih=>
  cases a with
  | zero=>omega
  | succ a=>
   cases j with
   | zero=>rfl
   | succ j=>
    show x::(vs.set a v).eraseIdx j=(x::vs.eraseIdx j).set (a+1-1) v
    rw [ih (by omega)]
    obtain ⟨b,rfl⟩:∃ b,a=b+1:=⟨a-1,by omega⟩
    rfl
theorem Jbm (vs:List Vec) {a j:Nat}(v:Vec) (h:a<j):(vs.set a v).eraseIdx j=(vs.eraseIdx j).set a v:=by
 induction vs generalizing a j with
 | nil=>rfl
 | cons x vs ih=>
  cases j with
  | zero=>omega
  | succ j=>
   cases a with
   | zero=>rfl
   | succ a=>show x::(vs.set a v).eraseIdx j=x::(vs.eraseIdx j).set a v;rw [ih (by omega)]
theorem Jk8:∀ (k:Nat) (vs us:List Vec),vs.length=us.length->(∀ j,j<vs.length->∀ r,r<k->atV vs j r=atV us j r)->D k vs=D k us
 | 0,_,_,_,_=>rfl
 | k+1,vs,us,hl,h=>by
  rw [D,D,hl]
  refine Jj λ j hj=>?_
  rw [h j (by omega) k (by omega)]
  congr 1
  refine Jk8 k _ _ (by rw [Ug (by omega),Ug hj,hl]) λ i hi r hr=>?_
  rw [Ug (by omega)] at hi
  have e:∀ ws:List Vec,atV (ws.eraseIdx j) i=if i<j then atV ws i else atV ws (i+1):=λ ws=>by
   unfold atV
   rw [Qg,J44]
   split<;>rw [<- Qg]
  rw [e,e]
  split
  . exact h i (by omega) r (by omega)
  . exact h (i+1) (by omega) r (by omega)
theorem Jh3:∀ (k:Nat) (vs:List Vec) (a:Nat) (c d:Int) (u w:Vec),a<vs.length->vs.length=k->D k (vs.set a λ r=>c*u r+d*w r)=c*D k (vs.set a u)+d*D k (vs.set a w)
 | 0,vs,a,_,_,_,_,h,hk=>by omega
 | k+1,vs,a,c,d,u,w,h,hk=>by
  rw [D,D,D,Qr,Qr,Qr,<- Zc,<- Zc,<- Zj]
  refine Jj λ j hj=>?_
  rcases J74 j a with z | z | z
  . rw [Ye (by omega),Ye (by omega),Ye (by omega),Jbl vs _ z,Jbl vs _ z,Jbl vs _ z,Jh3 k _ (a-1) c d u w (by rw [Ug hj];omega) (by rw [Ug hj];omega)]
    rw [J43,Ur _ c,Ur _ d]
  . subst z
    rw [Yw h,Yw h,Yw h,Jab,Jab,Jab]
    rw [J43,J57,Ur (sg (j+k)) c,Ur (sg (j+k)) d,J3l c,J3l d]
  . rw [Ye (by omega),Ye (by omega),Ye (by omega),Jbm vs _ z,Jbm vs _ z,Jbm vs _ z,Jh3 k _ a c d u w (by rw [Ug hj];omega) (by rw [Ug hj];omega)]
    rw [J43,Ur _ c,Ur _ d]
theorem Jqj:∀ (k:Nat) (vs:List Vec) (a:Nat),a+1<vs.length->vs.length=k->atV vs a=atV vs (a+1)->D k vs=0
 | 0,vs,a,h,hk,_=>by omega
 | k+1,vs,a,h,hk,e=>by
  have er:vs.eraseIdx a=vs.eraseIdx (a+1):=by
   apply X1
   intro i
   rw [J44,J44]
   by_cases c1:i<a
   . rw [if_pos c1,if_pos (by omega)]
   . rw [if_neg c1]
     by_cases c2:i=a
     . subst c2
       rw [if_pos (by omega),Qd h,Qd (show i<vs.length by omega)]
       unfold atV at e
       rw [Qg,Qg,Qd h,Qd (show i<vs.length by omega)] at e
       exact congrArg some e.symm
     . rw [if_neg (by omega)]
  rw [D,Jm0 (a:=a) (b:=a+1) (by omega) h (by omega) λ j hj h1 h2=>?_]
  . rw [show a+1+k=a+k+1 by omega,Jwt,<- er,e,J58,J58];omega
  . have:D k (vs.eraseIdx j)=0:=by
     have el:∀ i,atV (vs.eraseIdx j) i=if i<j then atV vs i else atV vs (i+1):=λ i=>by
      unfold atV
      rw [Qg,J44]
      split<;>rw [<- Qg]
     rcases Xy j a with z | z
     . refine Jqj k _ (a-1) (by rw [Ug hj];omega) (by rw [Ug hj];omega) ?_
       rw [el,el,if_neg (by omega),if_neg (by omega),show a-1+1=a by omega];exact e
     . refine Jqj k _ a (by rw [Ug hj];omega) (by rw [Ug hj];omega) ?_
       rw [el,el,if_pos (by omega),if_pos (by omega)];exact e
    rw [this,Xu]
theorem Jk9 (vs:List Vec) {a:Nat}(h:a<vs.length):vs.set a (atV vs a)=vs:=by
 unfold atV
 rw [Qg,Qd h]
 exact List.set_getElem_self h
theorem Juk {k:Nat}{vs:List Vec}{a:Nat}(u w:Vec) (h:a<vs.length) (hk:vs.length=k):D k (vs.set a λ r=>u r+w r)=D k (vs.set a u)+D k (vs.set a w):=by
 have:=Jh3 k vs a 1 1 u w h hk
 rw [Uz,Uz] at this
 rw [<- this]
 congr 1;congr 1;funext r
 rw [Uz,Uz]
theorem Jqk {k:Nat}{vs:List Vec}{a b:Nat}(ha:a<vs.length) (hb:b<vs.length) (hab:a≠b) (hk:vs.length=k) (zero:∀ us:List Vec,us.length=k->atV us a=atV us b->D k us=0) (u w:Vec):D k ((vs.set a u).set b w) = -D k ((vs.set a w).set b u):=by
 have la:∀ (x:Vec),a<(vs.set b x).length:=λ x=>by rw [Qr];exact ha
 have lb:∀ (x:Vec),b<(vs.set a x).length:=λ x=>by rw [Qr];exact hb
 have z:∀ x:Vec,D k ((vs.set a x).set b x)=0:=λ x=>zero _ (by rw [Qr,Qr];exact hk) (by rw [Ye (Ql hab),Yw ha,Yw (lb x)])
 have h1:=z (λ r=>u r+w r)
 rw [Juk u w (lb _) (by rw [Qr];exact hk)] at h1
 have c:∀ x y:Vec,(vs.set a x).set b y=(vs.set b y).set a x:=λ x y=>J8m _ _ hab
 rw [c,c,Juk u w (la _) (by rw [Qr];exact hk),Juk u w (la _) (by rw [Qr];exact hk),<- c,<- c,<- c,<- c,z u,z w] at h1
 omega
theorem Jul {k:Nat}:∀ (d a:Nat) (vs:List Vec),a+d+1<vs.length->vs.length=k->atV vs a=atV vs (a+d+1)->D k vs=0
 | 0,a,vs,h,hk,e=>Jqj k vs a h hk e
 | d+1,a,vs,h,hk,e=>by
  have hz:∀ us:List Vec,us.length=k->atV us (a+d+1)=atV us (a+d+2)->D k us=0:=λ us hu he=>Jqj k us (a+d+1) (by omega) hu he
  have p:=Jqk (vs:=vs) (a:=a+d+1) (b:=a+d+2) (by omega) (by omega) (by omega) hk hz (atV vs (a+d+1)) (atV vs (a+d+2))
  rw [Jk9 vs (by omega),Jk9 vs (by omega)] at p
  rw [p,Jul d a _ (by rw [Qr,Qr];omega) (by rw [Qr,Qr];exact hk) ?_]
  . rfl
  . rw [Ye (by omega),Ye (by omega),Ye (by omega),Yw (by omega)]
    exact e
theorem Jum {k:Nat}{vs:List Vec}{a b:Nat}(ha:a<vs.length) (hb:b<vs.length) (hab:a≠b) (hk:vs.length=k) (e:atV vs a=atV vs b):D k vs=0:=by
 rcases J74 a b with z | z | z
 . exact Jul (b-a-1) a vs (by omega) hk (by rw [show a+(b-a-1)+1=b by omega];exact e)
 . exact absurd z hab
 . exact Jul (a-b-1) b vs (by omega) hk (by rw [show b+(a-b-1)+1=a by omega];exact e.symm)
theorem J0g {k:Nat}{vs:List Vec}{a b:Nat}(ha:a<vs.length) (hb:b<vs.length) (hab:a≠b) (hk:vs.length=k) (u w:Vec):D k ((vs.set a u).set b w) = -D k ((vs.set a w).set b u):=
 Jqk ha hb hab hk (λ us hu he=>Jum (by omega) (by omega) hab hu he) u w
theorem Jyu {k:Nat}{vs:List Vec}{a:Nat}(ha:a<vs.length) (hk:vs.length=k) (c:Nat->Int) (u:Nat->Vec):∀ n,D k (vs.set a λ r=>Jn n λ i=>c i*u i r)=Jn n λ i=>c i*D k (vs.set a (u i))
 | 0=>by
  have:=Jh3 k vs a 0 0 (λ _=>0) (λ _=>0) ha hk
  simp only [Xv,J75] at this
  exact this
 | n+1=>by
  have:=Jh3 k vs a 1 (c n) (λ r=>Jn n λ i=>c i*u i r) (u n) ha hk
  rw [Uz,Jyu ha hk c u n] at this
  show D k (vs.set a λ r=>Jn n (λ i=>c i*u i r)+c n*u n r)=Jn n (λ i=>c i*D k (vs.set a (u i)))+c n*D k (vs.set a (u n))
  rw [<- this]
  congr 1;congr 1;funext r
  rw [Uz]
theorem Jql {k:Nat}{vs:List Vec}{a:Nat}(ha:a<vs.length) (hk:vs.length=k) (c:Int) (u:Vec):D k (vs.set a λ r=>c*u r)=c*D k (vs.set a u):=by
 have:=Jh3 k vs a c 0 u (λ _=>0) ha hk
 simp only [Xv,J75] at this
 exact this
theorem Jun {k:Nat}{vs:List Vec}{a:Nat}(ha:a<vs.length) (hk:vs.length=k) (h:∀ r,r<k->atV vs a r=0):D k vs=0:=by
 have:=Jql ha hk 0 (atV vs a)
 rw [Xv] at this
 rw [<- this]
 refine Jk8 k _ _ (by rw [Qr]) λ j hj r hr=>?_
 by_cases e:a=j
 . subst e;rw [Yw ha,h r hr,Xv]
 . rw [Ye e]
theorem Juo (k:Nat):sg (k+k)=1:=by unfold sg;rw [if_pos (by omega)]
noncomputable def cr (m:Nat) (B:List Vec) (i:Nat) (v:Vec):Int:=D m (B.set i v)
structure Base (m:Nat) (B:List Vec):Prop where
 len:B.length=m
 pos:0<D m B
 cra:∀ (v:Vec) (r:Nat),r<m->D m B*v r=Jn m λ i=>cr m B i v*atV B i r
section
variable {m:Nat}{B:List Vec}
theorem Jen (hB:B.length=m) {i:Nat}(hi:i<m):cr m B i (atV B i)=D m B:=by unfold cr;rw [Jk9 B (by omega)]
theorem Jeo (hB:B.length=m) {i r:Nat}(hi:i<m) (hr:r<m) (h:i≠r):cr m B i (atV B r)=0:=by
 unfold cr
 refine Jum (a:=i) (b:=r) (by rw [Qr];omega) (by rw [Qr];omega) h (by rw [Qr];exact hB) ?_
 rw [Yw (by omega),Ye h]
theorem Jh4 (hB:B.length=m) {i:Nat}(hi:i<m) {v w:Vec}(h:∀ r,r<m->v r=w r):cr m B i v=cr m B i w:=by
 unfold cr
 refine Jk8 m _ _ (by rw [Qr,Qr]) λ j hj r hr=>?_
 by_cases e:i=j
 . subst e;rw [Yw (by omega),Yw (by omega)];exact h r hr
 . rw [Ye e,Ye e]
theorem J0h (hB:B.length=m) {i:Nat}(hi:i<m) (c d:Int) (v w:Vec):cr m B i (λ r=>c*v r+d*w r)=c*cr m B i v+d*cr m B i w:=Jh3 m B i c d v w (by omega) hB
theorem Jm1 (hB:B.length=m) {i:Nat}(hi:i<m) (c:Int) (v:Vec):cr m B i (λ r=>c*v r)=c*cr m B i v:=Jql (by omega) hB c v
theorem Jla (hB:B.length=m) {i:Nat}(hi:i<m) (c:Nat->Int) (u:Nat->Vec) (n:Nat):cr m B i (λ r=>Jn n λ j=>c j*u j r)=Jn n λ j=>c j*cr m B i (u j):=Jyu (by omega) hB c u n
theorem Jep (hb:Base m B) {l i:Nat}(hl:l<m) (hi:i<m) (hil:i≠l) (c v:Vec):D m B*cr m (B.set l c) i v=cr m B l c*cr m B i v-cr m B i c*cr m B l v:=by
 have hB:=hb.len
 have hB':(B.set l c).length=m:=by rw [Qr];exact hB
 rw [<- Jm1 hB' hi,Jh4 hB' hi (hb.cra v)]
 rw [Jla hB' hi]
 rw [Jm0 (a:=i) (b:=l) hi hl hil λ r hr h1 h2=>?_]
 . have e1:cr m (B.set l c) i (atV B i)=cr m B l c:=by
    have:atV B i=atV (B.set l c) i:=(Ye (Ql hil)).symm
    rw [this,Jen hB' hi];rfl
   have e2:cr m (B.set l c) i (atV B l) = -cr m B i c:=by
    unfold cr
    rw [J0g (a:=l) (b:=i) (by omega) (by omega) (Ql hil) hB c (atV B l)]
    rw [Jk9 B (by omega)]
   rw [e1,e2,Xz (cr m B i v),J45,Xz (cr m B l v)];omega
 . have:atV B r=atV (B.set l c) r:=(Ye (Ql h2)).symm
   rw [this,Jeo hB' hi hr (Ql h1),Xu]
theorem Jlb (hB:B.length=m) {l:Nat}(hl:l<m) (c v:Vec):cr m (B.set l c) l v=cr m B l v:=by
 unfold cr
 rw [J7x]
theorem Base.swap (hb:Base m B) {l:Nat}(hl:l<m) {c:Vec}(hp:0<cr m B l c):Base m (B.set l c):=by
 have hB:=hb.len
 have hq:=hb.pos
 refine ⟨by rw [Qr];exact hB,hp,λ v r hr=>?_⟩
 refine J9n (J76 hq) ?_
 rw [<- Zc]
 have e0:D m (B.set l c)=cr m B l c:=rfl
 rw [e0,Ur,hb.cra v r hr]
 have step:∀ i,i<m->D m B*(cr m (B.set l c) i v*atV (B.set l c) i r)=cr m B l c*(cr m B i v*atV B i r)+(if i=l then cr m B l v*(D m B*c r)-cr m B l v*(cr m B l c*atV B l r) else -(cr m B l v*(cr m B i c*atV B i r))):=λ i hi=>by
  by_cases e:i=l
  . subst e
    rw [if_pos rfl,Jlb hB hi,Yw (by omega),Ur,Ur (cr m B i c)]
    omega
  . rw [if_neg e,Ye (Ql e),<- J3l,Jep hb hl hi e,J77,J3l,Xz (cr m B i c),J3l]
    omega
 rw [Jj step,Zj,Zc]
 have key:Jn m (λ i=>if i=l then cr m B l v*(D m B*c r)-cr m B l v*(cr m B l c*atV B l r) else -(cr m B l v*(cr m B i c*atV B i r)))=0:=by
  have e2:∀ i,i<m->(if i=l then cr m B l v*(D m B*c r)-cr m B l v*(cr m B l c*atV B l r) else -(cr m B l v*(cr m B i c*atV B i r)))=(if i=l then cr m B l v*(D m B*c r) else 0) + -(cr m B l v*(cr m B i c*atV B i r)):=λ i _=>by
   by_cases e:i=l
   . subst e;rw [if_pos rfl,if_pos rfl];omega
   . rw [if_neg e,if_neg e];omega
  rw [Jj e2,Zj,Yc (a:=l) hl (λ i _ hi=>if_neg hi),if_pos rfl,Wc,Zc,<- hb.cra c r hr]
  omega
 rw [key];omega
noncomputable def Vq (i:Nat):Vec:=λ r=>if r=i then 1 else 0
end
theorem Ja9 (vs:List Vec) (j i:Nat):atV (vs.eraseIdx j) i=if i<j then atV vs i else atV vs (i+1):=by
 unfold atV
 rw [Qg,J44]
 split<;>rw [<- Qg]
theorem Jbn:∀ (k:Nat) (vs:List Vec) (i:Nat),vs.length=k->i<k->(∀ j,j<k->j≠i->atV vs j=Vq j)->D k vs=atV vs i i
 | 0,_,_,_,h,_=>by omega
 | k+1,vs,i,hl,hi,hu=>by
  rw [D,hl]
  have le:∀ j,j<k+1->(vs.eraseIdx j).length=k:=λ j hj=>by rw [Ug (by omega)];omega
  by_cases e:i=k
  . subst e
    have one:D i (vs.eraseIdx i)=1:=by
     cases i with
     | zero=>rfl
     | succ i=>
      rw [Jbn (i+1) _ 0 (le _ (by omega)) (by omega) λ j hj _=>?_,Ja9,if_pos (by omega),hu 0 (by omega) (by omega)]
      . rfl
      . rw [Ja9,if_pos hj,hu j (by omega) (by omega)]
    rw [Yc (a:=i) (by omega) λ j hj hne=>?_,Juo,one]
    . omega
    . rw [hu j hj hne]
      have:Vq j i=0:=if_neg (by omega)
      rw [this,Xu,Xv]
  . have hik:i<k:=by omega
    rw [Yc (a:=k) (by omega) λ j hj hne=>?_,Juo,hu k (by omega) (λ z=>e z.symm),Jbn k _ i (le k (by omega)) hik λ j hj hne=>?_,Ja9,if_pos hik]
    . have:Vq k k=1:=if_pos rfl
      rw [this];omega
    . rw [Ja9,if_pos hj,hu j (by omega) hne]
    . by_cases ej:j=i
      . subst ej
        rw [Jun (a:=k-1) (by rw [le j hj];omega) (le j hj) λ r hr=>?_,Xu]
        rw [Ja9,if_neg (by omega),show k-1+1=k by omega,hu k (by omega) (by omega)]
        exact if_neg (by omega)
      . rw [hu j hj ej]
        have:Vq j k=0:=if_neg (by omega)
        rw [this,Xu,Xv]
noncomputable def Jce (m:Nat):List Vec:=(Qk m).map Vq
theorem Jeq {m i:Nat}(h:i<m):atV (Jce m) i=Vq i:=by
 unfold atV Jce
 rw [Qg,Qj,Xl h];rfl
theorem Jlc {m i:Nat}(h:i<m) (v:Vec):cr m (Jce m) i v=v i:=by
 have hl:(Jce m).length=m:=by unfold Jce;rw [Qb,Qy]
 unfold cr
 rw [Jbn m _ i (by rw [Qr];exact hl) h λ j hj hne=>by rw [Ye (Ql hne),Jeq hj]]
 rw [Yw (by omega)]
theorem Joz (m:Nat):D m (Jce m)=1:=by
 cases m with
 | zero=>rfl
 | succ m=>
  have hl:(Jce (m+1)).length=m+1:=by unfold Jce;rw [Qb,Qy]
  rw [Jbn (m+1) _ 0 hl (by omega) λ j hj _=>Jeq hj,Jeq (by omega)];rfl
theorem Jr4 (m:Nat):Base m (Jce m):=by
 refine ⟨by unfold Jce;rw [Qb,Qy],by rw [Joz];decide,λ v r hr=>?_⟩
 rw [Joz,Uz,Yc (a:=r) hr λ i hi hne=>?_]
 . rw [Jlc hr,Jeq hr]
   have:Vq r r=1:=if_pos rfl
   rw [this,J6r]
 . rw [Jeq hi]
   have:Vq i r=0:=if_neg (Ql hne)
   rw [this,Xu]
noncomputable def Ji3 (b:Nat):Nat->Nat
 | 0=>1
 | k+1=>(k+1)*b*Ji3 b k
theorem Jer {n:Nat}{f:Nat->Int}{b:Nat}(h:∀ i,i<n->(f i).natAbs<=b):(Jn n f).natAbs<=n*b:=by
 induction n with
 | zero=>simp [Jn]
 | succ n ih=>
  rw [Jn,Nat.succ_mul]
  have h1:=ih λ i hi=>h i (by omega)
  have h2:=h n (by omega)
  have:=J59 (Jn n f) (f n)
  omega
theorem Jup {b:Nat}:∀ (k:Nat) (vs:List Vec),vs.length=k->(∀ j,j<k->∀ r,r<k->(atV vs j r).natAbs<=b)->(D k vs).natAbs<=Ji3 b k
 | 0,_,_,_=>Qn _
 | k+1,vs,hl,h=>by
  rw [D,hl,Ji3,Nat.mul_assoc]
  refine Jer λ j hj=>?_
  rw [J6a,J6a]
  have s1:(sg (j+k)).natAbs=1:=by unfold sg;split<;>rfl
  rw [s1,J6b]
  refine J78 (h j hj k (by omega)) (Jup k _ (by rw [Ug (by omega)];omega) λ i hi r hr=>?_)
  rw [Ja9]
  split
  . exact h i (by omega) r (by omega)
  . exact h (i+1) (by omega) r (by omega)
structure Tab where
 fr:List Nat
 bd:List Nat
 rows:List (List Int)
 q:Int
noncomputable def Tab.f (T:Tab) (j:Nat):Nat:=T.fr.getD j 0
noncomputable def Tab.b (T:Tab) (i:Nat):Nat:=T.bd.getD i 0
noncomputable def Tab.row (T:Tab) (i:Nat):List Int:=T.rows.getD i []
noncomputable def Tab.e (T:Tab) (i j:Nat):Int:=(T.row i).getD j 0
noncomputable def Jcf (q:Int) (row other:List Int) (k:Nat):List Int:=(J4o (λ x y=>(row.getD k 0*x-other.getD k 0*y)/q) other row).set k (-(other.getD k 0))
noncomputable def Tab.ex (T:Tab) (l k:Nat):Tab:=⟨T.fr.set k (T.b l),T.bd.set l (T.f k),(T.rows.map λ o=>Jcf T.q (T.row l) o k).set l ((T.row l).set k T.q),T.e l k⟩
structure TabOk (m n:Nat) (c:Nat->Vec) (rhs:Vec) (T:Tab):Prop where
 lb:T.bd.length=m
 lf:T.fr.length=n
 lr:T.rows.length=m
 lw:∀ i,i<m->(T.row i).length=n+1
 base:Base m (T.bd.map c)
 qq:T.q=D m (T.bd.map c)
 en:∀ i,i<m->∀ j,j<n->T.e i j=cr m (T.bd.map c) i (c (T.f j))
 el:∀ i,i<m->T.e i n=cr m (T.bd.map c) i rhs
 bi:∀ i i',i<m->i'<m->T.b i=T.b i'->i=i'
 fi:∀ j j',j<n->j'<n->T.f j=T.f j'->j=j'
 ne:∀ i j,i<m->j<n->T.b i≠T.f j
section
variable {m n:Nat}{c:Nat->Vec}{rhs:Vec}{T:Tab}
theorem Zz {α:Type}{l:List α}{i:Nat}{x d:α}(h:i<l.length):(l.set i x).getD i d=x:=by rw [Qg,Q3 h];rfl
theorem Vr {α:Type}{l:List α}{i j:Nat}{x d:α}(h:i≠j):(l.set i x).getD j d=l.getD j d:=by rw [Qg,Q4 h,<- Qg]
theorem at_map {l:List Nat}{c:Nat->Vec}{i:Nat}(h:i<l.length):atV (l.map c) i=c (l.getD i 0):=by
 unfold atV
 rw [Qg,Qj,Qd h,Qg,Qd h];rfl
theorem Juq {f:Int->Int->Int}{xs ys:List Int}{j:Nat}(hx:j<xs.length) (hy:j<ys.length):(J4o f xs ys).getD j 0=f (xs.getD j 0) (ys.getD j 0):=by
 rw [Qg,Uf,Qd hx,Qd hy,Qg,Qg,Qd hx,Qd hy];rfl
theorem TabOk.qpos (h:TabOk m n c rhs T):0<T.q:=by rw [h.qq];exact h.base.pos
theorem TabOk.at_b (h:TabOk m n c rhs T) {i:Nat}(hi:i<m):atV (T.bd.map c) i=c (T.b i):=at_map (by rw [h.lb];exact hi)
theorem Jh5 (h:TabOk m n c rhs T) {l k:Nat}(hl:l<m):(T.ex l k).row l=(T.row l).set k T.q:=by
 unfold Tab.ex Tab.row
 exact Zz (by rw [Qb,h.lr];exact hl)
theorem Jo0 (h:TabOk m n c rhs T) {l k i:Nat}(hi:i<m) (hil:i≠l):(T.ex l k).row i=Jcf T.q (T.row l) (T.row i) k:=by
 have hi':i<T.rows.length:=by rw [h.lr];exact hi
 show (((T.rows.map λ o=>Jcf T.q (T.row l) o k).set l _).getD i [])=Jcf T.q (T.row l) (T.rows.getD i []) k
 rw [Vr (Ql hil),Qg,Qj,Qd hi',Qg,Qd hi']
 rfl
theorem Jcg (h:TabOk m n c rhs T) {l k:Nat}(hk:k<n):(T.ex l k).f k=T.b l:=Zz (by rw [h.lf];exact hk)
theorem Ji4 {l k j:Nat}(hj:j≠k):(T.ex l k).f j=T.f j:=Vr (Ql hj)
theorem Jdh (h:TabOk m n c rhs T) {l k:Nat}(hl:l<m):(T.ex l k).b l=T.f k:=Zz (by rw [h.lb];exact hl)
theorem Jld {l k i:Nat}(hi:i≠l):(T.ex l k).b i=T.b i:=Vr (Ql hi)
theorem Jgq (l k:Nat):(T.ex l k).bd.map c=(T.bd.map c).set l (c (T.f k)):=by
 show (T.bd.set l (T.f k)).map c=_
 rw [X8]
theorem Jwu (h:TabOk m n c rhs T) {l k:Nat}(hl:l<m) (hk:k<n):(T.ex l k).e l k=T.q:=by
 unfold Tab.e
 rw [Jh5 h hl,Zz (by rw [h.lw l hl];omega)]
theorem Jqm (h:TabOk m n c rhs T) {l k j:Nat}(hl:l<m) (hj:j≠k):(T.ex l k).e l j=T.e l j:=by
 unfold Tab.e
 rw [Jh5 h hl,Vr (Ql hj)]
theorem Jwv (h:TabOk m n c rhs T) {l k i:Nat}(hi:i<m) (hl:l<m) (hk:k<n) (hil:i≠l):(T.ex l k).e i k = -T.e i k:=by
 unfold Tab.e
 rw [Jo0 h hi hil]
 unfold Jcf
 rw [Zz (by rw [J5z,h.lw i hi,h.lw l hl];omega)]
theorem J2d (h:TabOk m n c rhs T) {l k i j:Nat}(hi:i<m) (hl:l<m) (hj:j<n+1) (hil:i≠l) (hjk:j≠k):(T.ex l k).e i j=(T.e l k*T.e i j-T.e i k*T.e l j)/T.q:=by
 unfold Tab.e
 rw [Jo0 h hi hil]
 unfold Jcf
 rw [Vr (Ql hjk),Juq (by rw [h.lw i hi];exact hj) (by rw [h.lw l hl];exact hj)]
theorem TabOk.ex (h:TabOk m n c rhs T) {l k:Nat}(hl:l<m) (hk:k<n) (hp:0<T.e l k):TabOk m n c rhs (T.ex l k):=by
 have hB:=h.base.len
 have el:T.e l k=cr m (T.bd.map c) l (c (T.f k)):=h.en l hl k hk
 have qne:T.q≠0:=J76 h.qpos
 have div:∀ {x y:Int},T.q*x=y->y/T.q=x:=λ {x y} e=>by rw [<- e,Int.mul_ediv_cancel_left _ qne]
 refine ⟨by show (T.bd.set l _).length=m;rw [Qr];exact h.lb,by show (T.fr.set k _).length=n;rw [Qr];exact h.lf,by show ((T.rows.map _).set l _).length=m;rw [Qr,Qb];exact h.lr,λ i hi=>?_,?_,?_,λ i hi j hj=>?_,λ i hi=>?_,λ i i' hi hi' e=>?_,λ j j' hj hj' e=>?_,λ i j hi hj e=>?_⟩
 . by_cases e:i=l
   . subst e;rw [Jh5 h hi,Qr];exact h.lw i hi
   . rw [Jo0 h hi e]
     unfold Jcf
     rw [Qr,J5z,h.lw i hi,h.lw l hl];omega
 . rw [Jgq]
   exact h.base.swap hl (by rw [<- el];exact hp)
 . rw [Jgq];exact el
 . rw [Jgq]
   by_cases e:i=l
   . subst e
     rw [Jlb hB hl]
     by_cases e2:j=k
     . subst e2
       rw [Jwu h hi hj,Jcg h hj,h.qq,<- h.at_b hi,Jen hB hi]
     . rw [Jqm h hi e2,Ji4 e2];exact h.en i hi j hj
   . by_cases e2:j=k
     . subst e2
       rw [Jwv h hi hl hj e,Jcg h hj,h.en i hi j hj]
       have:=Jep h.base hl hi e (c (T.f j)) (c (T.b l))
       rw [<- h.at_b hl,Jeo hB hi hl e,Jen hB hl,<- h.qq] at this
       refine (J9n qne ?_).symm
       rw [<- h.at_b hl,this,Xu,J45,Xz T.q];omega
     . rw [J2d h hi hl (by omega) e e2,Ji4 e2]
       refine div ?_
       rw [h.qq,Jep h.base hl hi e,<- el,<- h.en i hi j hj,<- h.en i hi k hk,<- h.en l hl j hj]
 . rw [Jgq]
   by_cases e:i=l
   . subst e
     rw [Jlb hB hl,Jqm h hi (by omega)];exact h.el i hi
   . rw [J2d h hi hl (by omega) e (by omega)]
     refine div ?_
     rw [h.qq,Jep h.base hl hi e,<- el,<- h.el i hi,<- h.en i hi k hk,<- h.el l hl]
 . by_cases a:i=l
   . by_cases b:i'=l
     . rw [a,b]
     . subst a
       rw [Jdh h hi,Jld b] at e
       exact absurd e.symm (h.ne i' k hi' hk)
   . by_cases b:i'=l
     . subst b
       rw [Jdh h hi',Jld a] at e
       exact absurd e (h.ne i k hi hk)
     . rw [Jld a,Jld b] at e
       exact h.bi i i' hi hi' e
 . by_cases a:j=k
   . by_cases b:j'=k
     . rw [a,b]
     . subst a
       rw [Jcg h hj,Ji4 b] at e
       exact absurd e (h.ne l j' hl hj')
   . by_cases b:j'=k
     . subst b
       rw [Jcg h hj',Ji4 a] at e
       exact absurd e.symm (h.ne l j hl hj)
     . rw [Ji4 a,Ji4 b] at e
       exact h.fi j j' hj hj' e
 . by_cases a:i=l
   . subst a
     rw [Jdh h hi] at e
     by_cases b:j=k
     . subst b;rw [Jcg h hj] at e;exact h.ne i j hi hj e.symm
     . rw [Ji4 b] at e
       exact b (h.fi k j hk hj e).symm
   . rw [Jld a] at e
     by_cases b:j=k
     . subst b;rw [Jcg h hj] at e;exact a (h.bi i l hi hl e)
     . rw [Ji4 b] at e;exact h.ne i j hi hj e
noncomputable def Tab.tot (T:Tab) (m n:Nat) (g:Nat->Int):Int:=Jn m (λ i=>g (T.b i))+Jn n (λ j=>g (T.f j))
theorem Jh6 {n k:Nat}{f g:Nat->Int}(hk:k<n) (h:∀ i,i<n->i≠k->f i=g i):Jn n f=Jn n g+(f k-g k):=by
 have:Jn n f=Jn n (λ i=>g i+(if i=k then f k-g k else 0)):=Jj λ i hi=>by
  by_cases e:i=k
  . subst e;rw [if_pos rfl];omega
  . rw [if_neg e,h i hi e];omega
 rw [this,Zj,Yc (a:=k) hk (λ i _ hi=>if_neg hi),if_pos rfl]
theorem Jur (h:TabOk m n c rhs T) {l k:Nat}(hl:l<m) (hk:k<n) (g:Nat->Int):(T.ex l k).tot m n g=T.tot m n g:=by
 unfold Tab.tot
 rw [Jh6 (k:=l) (f:=λ i=>g ((T.ex l k).b i)) (g:=λ i=>g (T.b i)) hl (λ i _ hne=>by rw [Jld hne]),Jh6 (k:=k) (f:=λ j=>g ((T.ex l k).f j)) (g:=λ j=>g (T.f j)) hk (λ j _ hne=>by rw [Ji4 hne])]
 rw [Jdh h hl,Jcg h hk]
 omega
end
noncomputable def ind (W:List Nat) (ν:Nat) (x:Int):Int:=if ν∈W then x else 0
noncomputable def Tab.rise (T:Tab) (m:Nat) (W:List Nat) (j:Nat):Int:=ind W (T.f j) T.q-Jn m λ i=>ind W (T.b i) (T.e i j)
def Sol (m n:Nat) (c:Nat->Vec) (T:Tab) (x:Nat->Int):Prop:=∀ r,r<m->T.tot m n (λ ν=>x ν * c ν r)=0
theorem Jww (W:List Nat) (ν:Nat) (a b:Int):ind W ν a*b=ind W ν (a*b):=by unfold ind;split;rfl;exact Xv _
theorem Jm2 (W:List Nat) (ν:Nat) (a b:Int):a*ind W ν b=ind W ν (a*b):=by unfold ind;split;rfl;exact Xu _
section
variable {m n:Nat}{c:Nat->Vec}{rhs:Vec}{T:Tab}{W:List Nat}{x:Nat->Int}
theorem Jwx (h:TabOk m n c rhs T) (s:Sol m n c T x) {i:Nat}(hi:i<m):T.q*x (T.b i) = -Jn n λ j=>T.e i j*x (T.f j):=by
 have hB:=h.base.len
 have z:cr m (T.bd.map c) i (λ r=>Jn m (λ t=>x (T.b t)*c (T.b t) r)+Jn n (λ j=>x (T.f j)*c (T.f j) r))=0:=by
  rw [Jh4 hB hi (w:=λ r=>0*(λ _=>0:Vec) r) (λ r hr=>by rw [Xv];exact s r hr),Jm1 hB hi,Xv]
 have e:=J0h hB hi 1 1 (λ r=>Jn m (λ t=>x (T.b t)*c (T.b t) r)) (λ r=>Jn n (λ j=>x (T.f j)*c (T.f j) r))
 simp only [Uz] at e
 rw [z,Jla hB hi,Jla hB hi] at e
 rw [Yc (a:=i) hi (λ t ht hne=>by rw [<- h.at_b ht,Jeo hB hi ht (Ql hne),Xu]),<- h.at_b hi,Jen hB hi,<- h.qq] at e
 have e2:Jn n (λ j=>x (T.f j)*cr m (T.bd.map c) i (c (T.f j)))=Jn n λ j=>T.e i j*x (T.f j):=Jj λ j hj=>by rw [h.en i hi j hj,Xz]
 rw [e2,Xz] at e
 omega
theorem Jh7 (h:TabOk m n c rhs T) (s:Sol m n c T x):T.q*T.tot m n (λ ν=>ind W ν (x ν))=Jn n λ j=>T.rise m W j*x (T.f j):=by
 unfold Tab.tot
 rw [J43,<- Zc,<- Zc]
 have e1:Jn m (λ i=>T.q*ind W (T.b i) (x (T.b i))) = -Jn n (λ j=>Jn m (λ i=>ind W (T.b i) (T.e i j))*x (T.f j)):=by
  have:∀ i,i<m->T.q*ind W (T.b i) (x (T.b i)) = -Jn n (λ j=>ind W (T.b i) (T.e i j)*x (T.f j)):=λ i hi=>by
   rw [Jm2,Jwx h s hi]
   by_cases w:T.b i∈W
   . unfold ind;rw [if_pos w]
     congr 1
     exact Jj λ j _=>by rw [if_pos w]
   . unfold ind;rw [if_neg w]
     rw [Jj (g:=λ _=>0) λ j _=>by rw [if_neg w,Xv],Wd];rfl
  rw [Jj this,Wc,Ja8]
  congr 1
  exact Jj λ j _=>Jjz m (x (T.f j)) _
 rw [e1]
 have e2:Jn n (λ j=>T.rise m W j*x (T.f j))=Jn n (λ j=>T.q*ind W (T.f j) (x (T.f j)) + -(Jn m (λ i=>ind W (T.b i) (T.e i j))*x (T.f j))):=Jj λ j _=>by
  unfold Tab.rise
  rw [J77,Jww,Jm2];omega
 rw [e2,Zj,Wc]
 exact Int.add_comm _ _
noncomputable def Tab.dir (T:Tab) (m k:Nat) (ν:Nat):Int:=(if ν = T.f k then T.q else 0)-Jn m λ i=>if T.b i = ν then T.e i k else 0
theorem Jus (h:TabOk m n c rhs T) {k i:Nat}(hk:k<n) (hi:i<m):T.dir m k (T.b i) = -T.e i k:=by
 unfold Tab.dir
 rw [if_neg (h.ne i k hi hk),Yc (a:=i) hi (λ t ht hne=>if_neg λ z=>hne (h.bi t i ht hi z)),if_pos rfl];omega
theorem Jqn (h:TabOk m n c rhs T) {k:Nat}(hk:k<n):T.dir m k (T.f k)=T.q:=by
 unfold Tab.dir
 rw [if_pos rfl,Jj (g:=λ _=>0) (λ i hi=>if_neg (h.ne i k hi hk)),Wd];omega
theorem Jut (h:TabOk m n c rhs T) {k j:Nat}(hk:k<n) (hj:j<n) (hne:j≠k):T.dir m k (T.f j)=0:=by
 unfold Tab.dir
 rw [if_neg (λ z=>hne (h.fi j k hj hk z)),Jj (g:=λ _=>0) (λ i hi=>if_neg (h.ne i j hi hj)),Wd];rfl
theorem Jgr (h:TabOk m n c rhs T) {k:Nat}(hk:k<n):Sol m n c T (T.dir m k):=λ r hr=>by
 unfold Tab.tot
 rw [Yc (f:=λ j=>T.dir m k (T.f j)*c (T.f j) r) (a:=k) hk (λ j hj hne=>by rw [Jut h hk hj hne,Xv]),Jqn h hk]
 rw [h.qq,h.base.cra (c (T.f k)) r hr,Jj (f:=λ i=>T.dir m k (T.b i)*c (T.b i) r) (g:=λ i=>-(cr m (T.bd.map c) i (c (T.f k))*atV (T.bd.map c) i r)) (λ i hi=>by rw [Jus h hk hi,h.at_b hi,h.en i hi k hk,J58]),Wc]
 omega
theorem Jdi (h:TabOk m n c rhs T) {k:Nat}(hk:k<n):T.tot m n (λ ν=>ind W ν (T.dir m k ν))=T.rise m W k:=by
 have e:=Jh7 (W:=W) h (Jgr h hk)
 rw [Yc (a:=k) hk (λ j hj hne=>by rw [Jut h hk hj hne,Xu]),Jqn h hk,Xz] at e
 exact Int.eq_of_mul_eq_mul_right (J76 h.qpos) e
theorem J0i {T':Tab}(p:∀ g,T'.tot m n g=T.tot m n g):Sol m n c T x->Sol m n c T' x:=λ s r hr=>by rw [p];exact s r hr
structure Yr (m n:Nat) (W:List Nat) (T:Tab) (l k:Nat):Prop where
 hl:l<m
 hk:k<n
 rise:0<T.rise m W k
 first:∀ j,j<n->0<T.rise m W j->T.f k<=T.f j
 pos:0<T.e l k
 low:∀ i,i<m->0<T.e i k->T.b l<=T.b i
theorem Vi {n:Nat}{f:Nat->Int}(h:0<Jn n f):∃ j,j<n/\0<f j:=by
 induction n with
 | zero=>exact absurd h (by simp [Jn])
 | succ n ih=>
  rw [Jn] at h
  by_cases e:0<f n
  . exact ⟨n,by omega,e⟩
  . obtain ⟨j,hj,hp⟩:=ih (by omega)
    exact ⟨j,by omega,hp⟩
theorem Jr5 {T T':Tab}{l k l' k':Nat}(h:TabOk m n c rhs T) (h':TabOk m n c rhs T') (p:∀ g,T'.tot m n g=T.tot m n g) (s:Yr m n W T l k) (s':Yr m n W T' l' k')
 (out:T.b l=T'.f k') (e1:T.f k<T.b l) (mid:∀ i j,i<m->j<n->T.b i=T'.f j->T.b i<=T.b l):False:=by
 have sol':Sol m n c T' (T.dir m k):=J0i p (Jgr h s.hk)
 have w:=Jdi (W:=W) h s.hk
 have w':=Jh7 (W:=W) h' sol'
 rw [p,w] at w'
 have pos:0<T'.q*T.rise m W k:=Int.mul_pos h'.qpos s.rise
 rw [w'] at pos
 obtain ⟨j,hj,hp⟩:=Vi pos
 have nz:T.dir m k (T'.f j)≠0:=λ z=>by rw [z,Xu] at hp;exact absurd hp (by decide)
 have neg_of:∀ {a b:Int},0<a*b->a<=0->b<0:=λ {a b} hab ha=>by
  rcases Int.lt_trichotomy b 0 with z | z | z
  . exact z
  . rw [z,Xu] at hab;exact absurd hab (by decide)
  . have:a*b<=0:=J9o ha (by omega)
    omega
 have pos_of:∀ {a b:Int},0<a*b->0<b->0<a:=λ {a b} hab hb=>by
  rcases J4u 0 a with z | z
  . exact z
  . have:a*b<=0:=J9o z (by omega)
    omega
 by_cases ek:T'.f j=T.f k
 . rw [ek,Jqn h s.hk] at hp
   have r1:=pos_of hp h.qpos
   have:=s'.first j hj r1
   omega
 . have:∃ i,i<m/\T.b i=T'.f j:=by
    refine U0 λ no=>nz ?_
    unfold Tab.dir
    rw [if_neg ek,Jj (g:=λ _=>0) (λ i hi=>if_neg λ z=>no ⟨i,hi,z⟩),Wd];rfl
   obtain ⟨i,hi,eb⟩:=this
   rw [<- eb,Jus h s.hk hi] at hp
   have le:=mid i j hi hj eb
   by_cases el:T.b i=T.b l
   . have il:=h.bi i l hi s.hl el
     subst il
     have jk:j=k':=h'.fi j k' hj s'.hk (by rw [<- eb,el];exact out)
     subst jk
     have:T'.rise m W j * -T.e i k<=0:=Int.mul_nonpos_of_nonneg_of_nonpos (Int.le_of_lt s'.rise) (by have:=s.pos;omega)
     omega
   . have r1:T'.rise m W j<=0:=by
      rcases J4u 0 (T'.rise m W j) with z | z
      . have:=s'.first j hj z
        omega
      . exact z
     have:=neg_of hp r1
     have:=s.low i hi (by omega)
     omega
end
structure Path (m n:Nat) (c:Nat->Vec) (rhs:Vec) (W:List Nat) (N:Nat) (st:Nat->Tab) (l k:Nat->Nat):Prop where
 ok:∀ t,t<=N->TabOk m n c rhs (st t)
 sp:∀ t,t<N->Yr m n W (st t) (l t) (k t)
 ex:∀ t,t<N->st (t+1)=(st t).ex (l t) (k t)
section
variable {m n:Nat}{c:Nat->Vec}{rhs:Vec}{W:List Nat}{N:Nat}{st:Nat->Tab}{l k:Nat->Nat}
def inB (m:Nat) (T:Tab) (ν:Nat):Prop:=∃ i,i<m/\T.b i = ν
theorem Path.tot (h:Path m n c rhs W N st l k) (g:Nat->Int):∀ t,t<=N->(st t).tot m n g=(st 0).tot m n g
 | 0,_=>rfl
 | t+1,ht=>by
  rw [h.ex t (by omega),Jur (h.ok t (by omega)) (h.sp t (by omega)).hl (h.sp t (by omega)).hk]
  exact h.tot g t (by omega)
theorem Path.stay (h:Path m n c rhs W N st l k) {t:Nat}(ht:t<N) {ν:Nat}:inB m (st (t+1)) ν↔(inB m (st t) ν/\ν≠(st t).b (l t))\/ν = (st t).f (k t):=by
 have o:=h.ok t (by omega)
 have s:=h.sp t ht
 rw [h.ex t ht]
 constructor
 . rintro ⟨i,hi,e⟩
   by_cases il:i=l t
   . subst il
     rw [Jdh o hi] at e
     exact .inr e.symm
   . rw [Jld il] at e
     exact .inl ⟨⟨i,hi,e⟩,λ z=>il (o.bi i (l t) hi s.hl (by rw [e,z]))⟩
 . rintro (⟨⟨i,hi,e⟩,ne⟩ | e)
   . have il:i≠l t:=λ z=>ne (by rw [<- e,z])
     exact ⟨i,hi,by rw [Jld il];exact e⟩
   . exact ⟨l t,s.hl,by rw [Jdh o s.hl];exact e.symm⟩
theorem Path.leave (h:Path m n c rhs W N st l k) {ν:Nat}:∀ (d s:Nat),s+d<=N->inB m (st s) ν->¬ inB m (st (s+d)) ν->∃ t,s<=t/\t<s+d/\(st t).b (l t) = ν
 | 0,s,_,h1,h2=>absurd h1 h2
 | d+1,s,hs,h1,h2=>by
  by_cases e:inB m (st (s+d)) ν
  . refine ⟨s+d,by omega,by omega,U0 λ z=>h2 ?_⟩
    exact (h.stay (t:=s+d) (by omega)).mpr (.inl ⟨e,λ y=>z y.symm⟩)
  . obtain ⟨t,a,b,e⟩:=h.leave d s (by omega) h1 e
    exact ⟨t,a,by omega,e⟩
theorem Path.enter (h:Path m n c rhs W N st l k) {ν:Nat}:∀ (d s:Nat),s+d<=N->¬ inB m (st s) ν->inB m (st (s+d)) ν->∃ t,s<=t/\t<s+d/\(st t).f (k t) = ν
 | 0,s,_,h1,h2=>absurd h2 h1
 | d+1,s,hs,h1,h2=>by
  by_cases e:inB m (st (s+d)) ν
  . obtain ⟨t,a,b,e⟩:=h.enter d s (by omega) h1 e
    exact ⟨t,a,by omega,e⟩
  . refine ⟨s+d,by omega,by omega,?_⟩
    rcases (h.stay (t:=s+d) (by omega)).mp h2 with z | z
    . exact absurd z.1 e
    . exact z.symm
theorem Path.lv (h:Path m n c rhs W N st l k) {s u:Nat}{ν:Nat}(hsu:s<=u) (hu:u<=N) (h1:inB m (st s) ν) (h2:¬ inB m (st u) ν):∃ t,s<=t/\t<u/\(st t).b (l t) = ν:=by
 have:=h.leave (ν:=ν) (u-s) s (by omega) h1 (by rw [show s+(u-s)=u by omega];exact h2)
 rwa [show s+(u-s)=u by omega] at this
theorem Path.en (h:Path m n c rhs W N st l k) {s u:Nat}{ν:Nat}(hsu:s<=u) (hu:u<=N) (h1:¬ inB m (st s) ν) (h2:inB m (st u) ν):∃ t,s<=t/\t<u/\(st t).f (k t) = ν:=by
 have:=h.enter (ν:=ν) (u-s) s (by omega) h1 (by rw [show s+(u-s)=u by omega];exact h2)
 rwa [show s+(u-s)=u by omega] at this
theorem Juu (f:Nat->Nat) (a:Nat):∀ d,∃ t,a<=t/\t<a+d+1/\∀ s,a<=s->s<a+d+1->f s<=f t
 | 0=>⟨a,Qn _,by omega,λ s h1 h2=>by rw [show s=a by omega];exact Qn _⟩
 | d+1=>by
  obtain ⟨t,h1,h2,h3⟩:=Juu f a d
  by_cases e:f t<=f (a+d+1)
  . refine ⟨a+d+1,by omega,by omega,λ s s1 s2=>?_⟩
    rcases Xy s (a+d+1) with z | z
    . exact Xm (h3 s s1 z) e
    . rw [show s=a+d+1 by omega];exact Qn _
  . refine ⟨t,h1,by omega,λ s s1 s2=>?_⟩
    rcases Xy s (a+d+1) with z | z
    . exact h3 s s1 z
    . rw [show s=a+d+1 by omega];omega
theorem Path.differ (h:Path m n c rhs W N st l k) {a b:Nat}(hab:a<b) (hb:b<=N):(st a).bd≠(st b).bd:=by
 intro same
 have sb:∀ ν,inB m (st a) ν↔inB m (st b) ν:=λ ν=>by unfold inB Tab.b;rw [same]
 obtain ⟨t0,h1,h2,h3⟩:=Juu (λ t=>max ((st t).b (l t)) ((st t).f (k t))) a (b-a-1)
 rw [show a+(b-a-1)+1=b by omega] at h2 h3
 have top:∀ t,a<=t->t<b->(st t).b (l t)<=max ((st t0).b (l t0)) ((st t0).f (k t0))/\(st t).f (k t)<=max ((st t0).b (l t0)) ((st t0).f (k t0)):=λ t x y=>by
  have:=h3 t x y
  exact ⟨by omega,by omega⟩
 have inl:∀ t,t<N->inB m (st t) ((st t).b (l t)):=λ t ht=>⟨l t,(h.sp t ht).hl,rfl⟩
 have notf:∀ t,t<N->¬ inB m (st t) ((st t).f (k t)):=λ t ht ⟨i,hi,e⟩=>(h.ok t (by omega)).ne i (k t) hi (h.sp t ht).hk e
 have outl:∀ t,t<N->¬ inB m (st (t+1)) ((st t).b (l t)):=λ t ht z=>by
  rcases (h.stay ht).mp z with z | z
  . exact z.2 rfl
  . exact (h.ok t (by omega)).ne (l t) (k t) (h.sp t ht).hl (h.sp t ht).hk z
 have inf:∀ t,t<N->inB m (st (t+1)) ((st t).f (k t)):=λ t ht=>(h.stay ht).mpr (.inr rfl)
 generalize hτ:max ((st t0).b (l t0)) ((st t0).f (k t0)) = τ at top
 have both:(∃ t1,a<=t1/\t1<b/\(st t1).b (l t1) = τ)/\∃ t2,a<=t2/\t2<b/\(st t2).f (k t2) = τ:=by
  rcases J7k ((st t0).b (l t0)) ((st t0).f (k t0)) with z | z
  . have e:(st t0).f (k t0) = τ:=by omega
    refine ⟨?_,t0,h1,h2,e⟩
    by_cases q:inB m (st b) τ
    . obtain ⟨t,x,y,w⟩:=h.lv (s:=a) (u:=t0) h1 (by omega) ((sb τ).mpr q) (by rw [<- e];exact notf t0 (by omega))
      exact ⟨t,x,by omega,w⟩
    . obtain ⟨t,x,y,w⟩:=h.lv (s:=t0+1) (u:=b) (by omega) hb (by rw [<- e];exact inf t0 (by omega)) q
      exact ⟨t,by omega,y,w⟩
  . have e:(st t0).b (l t0) = τ:=by omega
    refine ⟨⟨t0,h1,h2,e⟩,?_⟩
    by_cases q:inB m (st b) τ
    . obtain ⟨t,x,y,w⟩:=h.en (s:=t0+1) (u:=b) (by omega) hb (by rw [<- e];exact outl t0 (by omega)) q
      exact ⟨t,by omega,y,w⟩
    . obtain ⟨t,x,y,w⟩:=h.en (s:=a) (u:=t0) h1 (by omega) (λ z=>q ((sb τ).mp z)) (by rw [<- e];exact inl t0 (by omega))
      exact ⟨t,x,by omega,w⟩
 obtain ⟨⟨t1,x1,y1,w1⟩,t2,x2,y2,w2⟩:=both
 have o1:=h.ok t1 (by omega)
 have s1:=h.sp t1 (by omega)
 refine Jr5 o1 (h.ok t2 (by omega)) (λ g=>by rw [h.tot g t2 (by omega),h.tot g t1 (by omega)]) s1 (h.sp t2 (by omega)) (by rw [w1,w2]) ?_ λ i j hi hj e=>?_
 . have:=(top t1 x1 y1).2
   have:=o1.ne (l t1) (k t1) s1.hl s1.hk
   omega
 . rw [w1]
   have b1:inB m (st t1) ((st t1).b i):=⟨i,hi,rfl⟩
   have b2:¬ inB m (st t2) ((st t1).b i):=λ ⟨i',hi',e'⟩=>(h.ok t2 (by omega)).ne i' j hi' hj (by rw [e',e])
   rcases Xy t1 t2 with z | z
   . obtain ⟨t,x,y,w⟩:=h.lv (Uc z) (by omega) b1 b2
     rw [<- w];exact (top t (by omega) (by omega)).1
   . obtain ⟨t,x,y,w⟩:=h.en z (by omega) b2 b1
     rw [<- w];exact (top t (by omega) (by omega)).2
end
noncomputable def Bv (K:Nat):List Nat->Nat
 | []=>0
 | x::l=>x+K*Bv K l
theorem Jqo {K:Nat}:∀ {l:List Nat},(∀ x∈l,x<K)->Bv K l<K^l.length
 | [],_=>by simp [Bv]
 | x::l,h=>by
  have h1:=h x Qh
  have h2:=Jqo (l:=l) λ y hy=>h y (Qi _ hy)
  rw [Bv,Ue,Nat.pow_succ,J64 (K^l.length)]
  have:K*Bv K l+K<=K*K^l.length:=by
   have:=Nat.mul_le_mul_left K h2
   rwa [Nat.mul_succ] at this
  omega
theorem Jm3 {K:Nat}:∀ {l l':List Nat},l.length=l'.length->(∀ x∈l,x<K)->(∀ x∈l',x<K)->Bv K l=Bv K l'->l=l'
 | [],[],_,_,_,_=>rfl
 | [],_::_,h,_,_,_=>by cases h
 | _::_,[],h,_,_,_=>by cases h
 | x::l,y::l',hl,h1,h2,e=>by
  have a:=h1 x Qh
  have b:=h2 y Qh
  rw [Bv,Bv] at e
  have em:(x+K*Bv K l)%K=(y+K*Bv K l')%K:=by rw [e]
  rw [J9p,J9p,J9q a,J9q b] at em
  subst em
  have ec:Bv K l=Bv K l':=by
   have:K*Bv K l=K*Bv K l':=by omega
   exact Nat.eq_of_mul_eq_mul_left (by omega) this
  rw [Jm3 (by simpa using hl) (λ z hz=>h1 z (Qi _ hz)) (λ z hz=>h2 z (Qi _ hz)) ec]
theorem Path.bound {m n:Nat}{c:Nat->Vec}{rhs:Vec}{W:List Nat}{N:Nat}{st:Nat->Tab}{l k:Nat->Nat}{K:Nat}(h:Path m n c rhs W N st l k) (hK:∀ t,t<=N->∀ x∈(st t).bd,x<K):N<K^m:=by
 have nd:((Qk (N+1)).map λ t=>Bv K (st t).bd).Nodup:=by
  rw [List.Nodup,J6c]
  refine Yal ?_ J7y
  intro a b ha hb hab e
  have ha:=Xh.mp ha
  have hb:=Xh.mp hb
  exact h.differ hab (by omega) (Jm3 (by rw [(h.ok a (by omega)).lb,(h.ok b (by omega)).lb]) (hK a (by omega)) (hK b (by omega)) e)
 have:=My.nodup_le (K^m) _ nd λ x hx=>by
  obtain ⟨t,ht,rfl⟩:=Qm.mp hx
  have ht:=Xh.mp ht
  have:=Jqo (hK t (by omega))
  rwa [(h.ok t (by omega)).lb] at this
 rw [Qb,Qy] at this
 omega
structure Cols (nw m:Nat) (c:Nat->Vec):Prop where
 un:∀ s,s<m->c (nw+s)=Vq s
noncomputable def Bp (nw m:Nat) (c:Nat->Vec) (rhs:Vec) (some:List Nat):Tab:=⟨some,(Qk m).map (nw + ·),(Qk m).map λ i=>some.map (λ k=>c k i)++[rhs i],1⟩
theorem range_getD {m i:Nat}{f:Nat->Nat}(h:i<m):((Qk m).map f).getD i 0=f i:=by
 rw [Qg,Qj,Xl h];rfl
section
variable {nw m:Nat}{c:Nat->Vec}{rhs:Vec}{some:List Nat}
theorem Jes {i:Nat}(h:i<m):(Bp nw m c rhs some).b i=nw+i:=range_getD h
theorem Jfl {i:Nat}(h:i<m):(Bp nw m c rhs some).row i=some.map (λ k=>c k i)++[rhs i]:=by
 show ((Qk m).map λ i=>some.map (λ k=>c k i)++[rhs i]).getD i []=_
 rw [Qg,Qj,Xl h];rfl
theorem Juv (C:Cols nw m c) (hn:some.Nodup) (hs:∀ k∈some,k<nw):TabOk m some.length c rhs (Bp nw m c rhs some):=by
 have hbd:((Bp nw m c rhs some).bd.map c)=Jce m:=by
  show ((Qk m).map (nw + ·)).map c=_
  rw [Qw]
  exact X7 λ i hi=>C.un i (Xh.mp hi)
 have fj:∀ j,j<some.length->(Bp nw m c rhs some).f j=some[j]!:=λ j hj=>by
  show some.getD j 0=_
  rw [Qg,Qd hj]
  simp [hj]
 have mem:∀ j,j<some.length->(Bp nw m c rhs some).f j∈some:=λ j hj=>by
  show some.getD j 0∈some
  rw [Qg,Qd hj]
  exact Xe _
 refine ⟨by show ((Qk m).map _).length=m;rw [Qb,Qy],rfl,by show ((Qk m).map _).length=m;rw [Qb,Qy],λ i hi=>by rw [Jfl hi,Xj,Qb];rfl,by rw [hbd];exact Jr4 m,by rw [hbd,Joz];rfl,λ i hi j hj=>?_,λ i hi=>?_,λ i i' hi hi' e=>?_,λ j j' hj hj' e=>?_,λ i j hi hj e=>?_⟩
 . rw [hbd,Jlc hi]
   unfold Tab.e
   rw [Jfl hi,Qg,Uv (by rw [Qb];exact hj),Qj,Qd hj]
   show c some[j] i=c (some.getD j 0) i
   rw [Qg,Qd hj];rfl
 . rw [hbd,Jlc hi]
   unfold Tab.e
   rw [Jfl hi,Qg,J3n (by rw [Qb];exact Qn _),Qb,J7w];rfl
 . rw [Jes hi,Jes hi'] at e;omega
 . have e:some.getD j 0=some.getD j' 0:=e
   rw [Qg,Qg,Qd hj,Qd hj'] at e
   exact (J6o hn).mp e
 . rw [Jes hi] at e
   have:=hs _ (mem j hj)
   omega
theorem Jr6 (g:Nat->Int):(Bp nw m c rhs some).tot m some.length g=Jn m (λ s=>g (nw+s))+Jn some.length (λ j=>g (some.getD j 0)):=by
 unfold Tab.tot
 rw [Jj (f:=λ i=>g ((Bp nw m c rhs some).b i)) λ i hi=>by rw [Jes hi]]
 rfl
end
section
variable {nw m n:Nat}{c:Nat->Vec}{rhs:Vec}{T:Tab}{W:List Nat}
def inN (m n:Nat) (T:Tab) (ν:Nat):Prop:=(∃ i,i<m/\T.b i = ν)\/∃ j,j<n/\T.f j = ν
noncomputable def Tab.L (T:Tab) (m:Nat) (c:Nat->Vec) (W:List Nat) (v:Vec):Int:=Jn m λ i=>ind W (T.b i) (cr m (T.bd.map c) i v)
theorem Juw (h:TabOk m n c rhs T) {j:Nat}(hj:j<n):T.L m c W (c (T.f j))=ind W (T.f j) T.q-T.rise m W j:=by
 unfold Tab.L Tab.rise
 rw [Jj (g:=λ i=>ind W (T.b i) (T.e i j)) λ i hi=>by rw [h.en i hi j hj]]
 omega
theorem Jqp (h:TabOk m n c rhs T) {t:Nat}(ht:t<m):T.L m c W (c (T.b t))=ind W (T.b t) T.q:=by
 unfold Tab.L
 rw [Yc (a:=t) ht λ i hi hne=>?_,<- h.at_b ht,Jen h.base.len ht,<- h.qq]
 rw [<- h.at_b ht,Jeo h.base.len hi ht hne]
 unfold ind;split<;>rfl
theorem J2e (h:TabOk m n c rhs T) (v:Vec):T.L m c W v=Jn m λ s=>v s*T.L m c W (Vq s):=by
 have hB:=h.base.len
 unfold Tab.L
 have:∀ i,i<m->ind W (T.b i) (cr m (T.bd.map c) i v)=Jn m λ s=>v s*ind W (T.b i) (cr m (T.bd.map c) i (Vq s)):=λ i hi=>by
  have e:cr m (T.bd.map c) i v=Jn m λ s=>v s*cr m (T.bd.map c) i (Vq s):=by
   rw [<- Jla hB hi]
   refine Jh4 hB hi λ r hr=>?_
   rw [Yc (a:=r) hr λ s _ hne=>?_]
   . have:Vq r r=1:=if_pos rfl
     rw [this,J6r]
   . have:Vq s r=0:=if_neg (Ql hne)
     rw [this,Xu]
  rw [e]
  unfold ind
  split
  . rfl
  . rw [Jj (g:=λ _=>0) λ s _=>Xu _,Wd]
 rw [Jj this,Ja8]
 exact Jj λ s _=>Zc m (v s) _
structure Last (m n:Nat) (W:List Nat) (T:Tab):Prop where
 no:∀ j,j<n->T.rise m W j<=0
theorem J3f (h:TabOk m n c rhs T) (l:Last m n W T) {ν:Nat}(i:inN m n T ν):ind W ν T.q<=T.L m c W (c ν):=by
 rcases i with ⟨i,hi,rfl⟩ | ⟨j,hj,rfl⟩
 . rw [Jqp h hi];exact J3k _
 . rw [Juw h hj];have:=l.no j hj;omega
noncomputable def Tab.share (T:Tab) (m n:Nat) (W:List Nat) (ν:Nat):Int:=Jn n (λ j=>if T.f j = ν then -T.rise m W j else 0)+(if (∃ j,j<n/\T.f j = ν) then 0 else ind W ν T.q)
theorem Jdj (h:TabOk m n c rhs T) {j:Nat}(hj:j<n):T.share m n W (T.f j) = -T.rise m W j:=by
 unfold Tab.share
 rw [if_pos ⟨j,hj,rfl⟩,Yc (a:=j) hj λ i hi hne=>if_neg λ z=>hne (h.fi i j hi hj z),if_pos rfl];omega
theorem Bl (h:TabOk m n c rhs T) {i:Nat}(hi:i<m):T.share m n W (T.b i)=ind W (T.b i) T.q:=by
 unfold Tab.share
 rw [if_neg λ ⟨j,hj,e⟩=>h.ne i j hi hj e.symm,Jj (g:=λ _=>0) λ j hj=>if_neg λ e=>h.ne i j hi hj e.symm,Wd];omega
theorem Jwy (h:TabOk m n c rhs T) {ν:Nat}(i:inN m n T ν) (hw:ν∉W\/∃ i,i<m/\T.b i = ν):T.share m n W ν = T.L m c W (c ν):=by
 rcases i with ⟨i,hi,rfl⟩ | ⟨j,hj,rfl⟩
 . rw [Bl h hi,Jqp h hi]
 . rw [Jdj h hj,Juw h hj]
   rcases hw with hw | ⟨i,hi,e⟩
   . unfold ind;rw [if_neg hw];omega
   . exact absurd e (h.ne i j hi hj)
theorem Jj0 (C:Cols nw m c) (h:TabOk m n c rhs T) (l:Last m n W T) (hu:∀ s,s<m->inN m n T (nw+s)) (hw:∀ s,s<m->nw+s∉W\/∃ i,i<m/\T.b i=nw+s) {k:Nat}(hk:inN m n T k) :
 ind W k T.q<=Jn m (λ s=>c k s*T.share m n W (nw+s)):=by
 have e:Jn m (λ s=>c k s*T.share m n W (nw+s))=T.L m c W (c k):=by
  rw [J2e h]
  exact Jj λ s hs=>by rw [Jwy h (hu s hs) (hw s hs),C.un s hs]
 rw [e]
 exact J3f h l hk
theorem Jux (h:TabOk m n c rhs T) (l:Last m n W T) {ν:Nat}(i:inN m n T ν):0<=T.share m n W ν:=by
 rcases i with ⟨i,hi,rfl⟩ | ⟨j,hj,rfl⟩
 . rw [Bl h hi]
   unfold ind
   split
   . exact Int.le_of_lt h.qpos
   . exact J3k _
 . rw [Jdj h hj];have:=l.no j hj;omega
structure Ray (m n:Nat) (W:List Nat) (T:Tab) (k:Nat):Prop where
 hk:k<n
 rise:0<T.rise m W k
 no:∀ i,i<m->T.e i k<=0
theorem Juy (h:TabOk m n c rhs T) {k:Nat}(r:Ray m n W T k) (ν:Nat):0<=T.dir m k ν:=by
 unfold Tab.dir
 have:Jn m (λ i=>if T.b i = ν then T.e i k else 0)<=0:=by
  have:∀ M,M<=m->Jn M (λ i=>if T.b i = ν then T.e i k else 0)<=0:=by
   intro M
   induction M with
   | zero=>intro _;exact J3k _
   | succ M ih=>
    intro hM
    have a:=ih (by omega)
    have b:(if T.b M = ν then T.e M k else 0)<=0:=by
     split
     . exact r.no M (by omega)
     . exact J3k _
    show Jn M (λ i=>if T.b i = ν then T.e i k else 0)+(if T.b M = ν then T.e M k else 0)<=0
    omega
  exact this m (Qn _)
 have:=h.qpos
 split<;>omega
end
end Tb
namespace My
open L2
end My
namespace L2
variable {X:Cx}
end L2
namespace My
open L2
abbrev J3g (i j:Nat) (ga:GN):GS:=λ G env n=>ga env n λ ds n1=>∃ x y,ds=[x,y]/\G.nx ((env.set i (.d x)).set j (.d y)) n1
instance sv_par {i j:Nat}{t:TA}{gt:GN} [T:DV true t gt]:SV (J02 i j t) (J3g i j gt):=⟨λ {C G D} O {ex env σ H n} A h=>
 T.dv A.ev h λ ds n1 vs H1 h1 s1 r1=>by
  obtain ⟨x,y,rfl,q⟩:=h1
  cases r1 with
  | cons r1 r2=>
   cases r2 with
   | cons r2 r3=>
    cases r3
    exact ⟨_,_,rfl,O.nx (((A.step s1).put r1).put r2) q⟩⟩
def J2f:G1:=λ ds Q=>match ds with
 | [.int i]=>Q (.int (if i<0 then -i else i))
 | _=>False
instance cs_abs:CS (λ xs H Q=>∃ i,xs=[.int i]/\Q (.int (if i<0 then -i else i)) H) J2f:=⟨λ {H xs ds Q P} r h k=>by
 unfold J2f at h
 split at h
 . cases r with
   | cons r1 t=>
    cases t
    cases r1
    exact ⟨_,rfl,k _ _ h λ _=>.int _⟩
 . exact h.elim⟩
noncomputable def Zk (ns:List Int):Nat:=ns.foldl (λ g x=>J32 g x.natAbs) 0
def Jet:GSp:=λ as n Q=>∃ ns:List Int,as=[.d (.list (ns.map .int))]/\Q (.int ((Zk ns:Nat):Int)) n
noncomputable instance:Scal Jet:=⟨λ {as n P} h=>by obtain ⟨w,e,q⟩:=h;exact ⟨w,e,rfl,q⟩⟩
def Jgs:GSn:=λ as n Q=>∃ ns:List Int,as=[.d (.list (ns.map .int))]/\ns.length<=100000/\Zk ns≠0/\((Zk ns:Nat):Int)<2^9000/\Q ((ns.map λ x=>x/((Zk ns:Nat):Int)).map .int) n
theorem Juz (ns:List Int) (x:Int):Zk (ns++[x])=J32 (Zk ns) x.natAbs:=by unfold Zk;rw [J54];rfl
theorem Ju0 {ns:List Int}{i:Nat}{x:Int}(h:ns[i]? = some x):Zk (ns.take (i+1))=J32 (Zk (ns.take i)) x.natAbs:=by
 rw [J4y,h]
 exact Juz _ _
end My
namespace L2
open PySem.SeqAt
open AutoSeq1 (wpAny_loadPart')
theorem Jwz (l b:Addr) (n n2:Nat) (dd dd2:Option Addr) (sl sl2:Array (Option Yan)) {x y:Int}{tx ty:Tok}{u u2:Yan}(hne:x≠y) :
 Meets (Builtin.«tuple.__lt__» ⟨[.ref l,.ref b],[]⟩) (λ A R s=>s.heap.get? l=some { cls:=.type "tuple",dict:=dd,data:=.seq #[.int x tx,u] n,slots:=sl }/\s.heap.get? b=some { cls:=.type "tuple",dict:=dd2,data:=.seq #[.int y ty,u2] n2,slots:=sl2 }/\R (.ok (.ret (.bool (decide (x<y))))) s):=
 .of_wp λ prog w A R s h=>by
  obtain ⟨hp,g,d,tk,os⟩:=s
  obtain ⟨hl,hb,hR⟩:=h
  have f2:=AutoSeq1.sub_tuple_tuple
  wp_walk using Ya6 hl,Ya6 hb,wpAny_forIn_list _ (λ rest b s'=>b.1=none/\s'=⟨hp,g,d,tk,os⟩/\rest=[(Us x tx,Us y ty),(u,u2)]) _
  case turn=>
   rintro ⟨p,q⟩ rest b s' ⟨hb',rfl,hz⟩
   injection hz with h1 h2
   cases h1
   refine wpAny_bind (EqAt.int_int x tx y ty prog w _ _ ?_)
   rw [show (x==y)=false from beq_eq_false_iff_ne.mpr hne]
   show Yaq _ _ (rule "tuple.compare.by-the-first-pair-that-differs" >>= λ _=>richCompare .Lt (.int x tx) (.int y ty) >>= _) _ _ _
   wp_step
   wp_step
   refine wpAny_bind (wpAny_richCompare_same (op:=.Lt) (T:="int") (typeIs_int _ x tx) (typeIs_int _ y ty) slot_int_lt (call_int_lt ⟨by simp,?_⟩))
   wp_walk
   exact ⟨_,rfl,hR⟩
  case fin=>
   rintro ⟨b1,b2⟩ s' ⟨hb',rfl,hz⟩
   cases hz
  case h=>exact ⟨rfl,rfl,rfl⟩
section
variable {prog:Yas}{w:Yar}{A:Yat}{E:Yan->Yap->Prop}{s:Yap}{R:Ya8->Yap->Prop}
theorem Ju1 {l b:Addr}{x y:Int}{tx ty:Tok}{u u2:Yan}{Q:Yan->Yap->Prop}(hu:A.units<cLine) (hne:x≠y) (hl:s.heap.IsTuple l #[.int x tx,u]) (hb:s.heap.IsTuple b #[.int y ty,u2]) (q:Q (.bool (decide (x<y))) s):Yaq (model prog w) A (richCompare .Lt (.ref l) (.ref b)) Q E s:=by
 obtain ⟨⟨c1,d1,e1,f1⟩,h1,rfl,n1,rfl⟩:=hl
 obtain ⟨⟨c2,d2,e2,f2⟩,h2,rfl,n2,rfl⟩:=hb
 exact wpAny_richCompare_same_room (op:=.Lt) (T:="tuple") ⟨_,h1,rfl⟩ ⟨_,h2,rfl⟩ J9r (call_meets J9r ⟨_,h1,rfl⟩ F.entry_tuple_lt (F.args_tuple_lt_2 _ _) (Jwz l b n1 n2 d1 d2 f1 f2 hne) ⟨h1,h2,by simp,q⟩) hu
theorem Jqq (bt:Nat->Nat->Bool):∀ k,argBest bt k<=k
 | 0=>Qn _
 | k+1=>by
  have:=Jqq bt k
  rw [argBest]
  split<;>omega
theorem Jm4 {I S:Addr}{fp wr:List Addr}{n:Nat}{P:Nat->Yan->Prop}{St:Nat->Heap->Prop}(W:Walks prog w A.in1 I fp wr n P St) (bt:Nat->Nat->Bool) (G:Heap->Prop) (hSf:S∉fp)
 (keep:∀ h h',G h->(∀ b o,b∉wr->b≠S->h.get? b=some o->h'.get? b=some o)->G h')
 (ask:∀ i j vi vj (s:Yap) (Q:Yan->Yap->Prop) (E:Yan->Yap->Prop),i≠j->P i vi->P j vj->G s.heap->Q (.bool (bt i j)) s->Yaq (model prog w) A.in1 (richCompare .Lt vi vj) Q E s) :
 ∀ (k j:Nat) (s:Yap) (vb:Yan) (c:Nat),n-(j+1)=k->j+1<=n->St (j+1) s.heap->P (argBest bt j) vb->G s.heap ->
 s.heap.get? S=some { cls:=.type "list",dict:=none,data:=.seq #[vb,vb] c,slots:=#[] } ->
 (∀ v h' tk,P (argBest bt (n-1)) v->(∀ b o,b∉wr->b≠S->s.heap.get? b=some o->h'.get? b=some o)->R (.ok (.ret v)) { s with heap:=h',toks:=tk }) ->
 Ya1 (model prog w) A (.builtin "min.loop" ⟨[.ref I,.none,.ref S],[]⟩) R s:=by
 have off:S∉wr:=λ h=>hSf (W.sub _ h)
 have nm:(toString "min" ++ toString ".loop":String) = "min.loop":=by decide
 intro k
 induction k with
 | zero=>
  intro j s vb c hk hj st hv hg hS fin
  have last:j+1=n:=by omega
  refine Yby J79 ?_
  rw [J8a J33 _]
  show Yaq _ A.in1 (Ybe (.ref S) >>= _) _ _ s
  refine wpAny_bind (wpAny_seqItems hS rfl ?_)
  show Yaq _ A.in1 (tryCatch (pyNext (.ref I)) _ >>= _) _ _ s
  refine wpAny_bind (wpAny_tryCatch (W.done s _ _ (last▸st) λ h' tk kp=>?_))
  have hS':=kp S _ off hS
  show Yaq _ A.in1 (updateSeq S (λ _=>#[]) >>= _) _ _ _
  refine wpAny_bind (wpAny_updateSeq hS' rfl (wpAny_bind (wpAny_letGo (wpAny_pure ?_))))
  exact fin vb _ tk (by rw [<- last];exact hv) λ b o hbw hbS e=>(U5 _ _ (Ql hbS)).trans (kp b o hbw e)
 | succ k ih=>
  intro j s vb c hk hj st hv hg hS fin
  have more:j+1<n:=by omega
  refine Yby J79 ?_
  rw [J8a J33 _]
  show Yaq _ A.in1 (Ybe (.ref S) >>= _) _ _ s
  refine wpAny_bind (wpAny_seqItems hS rfl ?_)
  show Yaq _ A.in1 (tryCatch (pyNext (.ref I)) _ >>= _) _ _ s
  refine wpAny_bind (wpAny_tryCatch (W.item (j+1) s _ _ more st λ v h' tk hp st' kp=>?_))
  have hS':=kp S _ off hS
  have hg':G h':=keep _ _ hg λ b o hbw _ e=>kp b o hbw e
  have ne:j+1≠argBest bt j:=by have:=Jqq bt j;omega
  show Yaq _ A.in1 (tryCatch (holding [v,v] (richCompare .Lt v vb >>= _)) _ >>= _) _ _ _
  refine wpAny_bind (wpAny_tryCatch (wpAny_holding (wpAny_bind (ask (j+1) (argBest bt j) v vb _ _ _ ne hp hv hg' ?_))))
  refine wpAny_bind (wpAny_holding (wpAny_truthy_bool ?_))
  refine wpAny_bind (wpAny_letGo (wpAny_pure ?_))
  cases hb:bt (j+1) (argBest bt j) with
  | true=>
   simp only [if_true]
   refine wpAny_bind (wpAny_updateSeq hS' rfl (wpAny_bind (wpAny_letGo ?_)))
   rw [nm]
   refine wpAny_pure ⟨plainId_quiet J33 _,ih (j+1) _ v _ (by omega) more (W.frame _ _ _ st' λ b hbf o e=>?_) (by simp only [argBest,hb,if_true];exact hp) (keep _ _ hg' λ b o _ hbS e=>(U5 _ _ (Ql hbS)).trans e) (J5m _ hS' rfl) λ v' h2 t2 hp' k2=>?_⟩
   . exact (U5 _ _ (λ h:S=b=>hSf (by rw [h];exact hbf))).trans e
   . exact fin v' h2 t2 hp' λ b o hbw hbS e=>k2 b o hbw hbS ((U5 _ _ (Ql hbS)).trans (kp b o hbw e))
  | false=>
   simp only [J4m,if_false]
   refine wpAny_bind (wpAny_letGo ?_)
   rw [nm]
   refine wpAny_pure ⟨plainId_quiet J33 _,ih (j+1) _ vb c (by omega) more st' (by simp only [argBest,hb,J4m,if_false];exact hv) hg' hS' λ v' h2 t2 hp' k2=>?_⟩
   exact fin v' h2 t2 hp' λ b o hbw hbS e=>k2 b o hbw hbS (kp b o hbw e)
theorem Jm5 {I S:Addr}{fp wr:List Addr}{n:Nat}{P:Nat->Yan->Prop}{St:Nat->Heap->Prop}(W:Walks prog w A.in1 I fp wr n P St) (bt:Nat->Nat->Bool) (G:Heap->Prop) (hSf:S∉fp)
 (keep:∀ h h',G h->(∀ b o,b∉wr->b≠S->h.get? b=some o->h'.get? b=some o)->G h')
 (ask:∀ i j vi vj (s:Yap) (Q:Yan->Yap->Prop) (E:Yan->Yap->Prop),i≠j->P i vi->P j vj->G s.heap->Q (.bool (bt i j)) s->Yaq (model prog w) A.in1 (richCompare .Lt vi vj) Q E s)
 (hn:0<n) {c:Nat} (st:St 0 s.heap) (hg:G s.heap) (hS:s.heap.get? S=some { cls:=.type "list",dict:=none,data:=.seq #[] c,slots:=#[] })
 (fin:∀ v h' tk,P (argBest bt (n-1)) v->(∀ b o,b∉wr->b≠S->s.heap.get? b=some o->h'.get? b=some o)->R (.ok (.ret v)) { s with heap:=h',toks:=tk }) :
 Ya1 (model prog w) A (.builtin "min.loop" ⟨[.ref I,.none,.ref S],[]⟩) R s:=by
 have off:S∉wr:=λ h=>hSf (W.sub _ h)
 have nm:(toString "min" ++ toString ".loop":String) = "min.loop":=by decide
 refine Yby J79 ?_
 rw [J8a J33 _]
 show Yaq _ A.in1 (Ybe (.ref S) >>= _) _ _ s
 refine wpAny_bind (wpAny_seqItems hS rfl ?_)
 show Yaq _ A.in1 (tryCatch (pyNext (.ref I)) _ >>= _) _ _ s
 refine wpAny_bind (wpAny_tryCatch (W.item 0 s _ _ hn st λ v h' tk hp st' kp=>?_))
 have hS':=kp S _ off hS
 have hg':G h':=keep _ _ hg λ b o hbw _ e=>kp b o hbw e
 show Yaq _ A.in1 (updateSeq S (λ _=>#[v,v]) >>= _) _ _ _
 refine wpAny_bind (wpAny_updateSeq hS' rfl ?_)
 rw [nm]
 refine wpAny_pure ⟨plainId_quiet J33 _,Jm4 W bt G hSf keep ask _ 0 _ v _ rfl hn (W.frame _ _ _ st' λ b hbf o e=>?_) hp (keep _ _ hg' λ b o _ hbS e=>(U5 _ _ (Ql hbS)).trans e) (J5m _ hS' rfl) λ v' h2 t2 hp' k2=>?_⟩
 . exact (U5 _ _ (λ h:S=b=>hSf (by rw [h];exact hbf))).trans e
 . exact fin v' h2 t2 hp' λ b o hbw hbS e=>k2 b o hbw hbS ((U5 _ _ (Ql hbS)).trans (kp b o hbw e))
theorem Ju2 {l:Addr}{vs:List Yan}{Q:Yan->Yap->Prop}(bt:Nat->Nat->Bool) (G:Heap->Prop) (hh:A.handled=none) (hl:s.heap.IsList l vs.toArray) (hne:0<vs.length) (hg:G s.heap)
 (keep:∀ h h',G h->(∀ b o,b<s.heap.objs.size->h.get? b=some o->h'.get? b=some o)->G h')
 (ask:∀ i j vi vj (s:Yap) (Q:Yan->Yap->Prop) (E:Yan->Yap->Prop),i≠j->vs[i]? = some vi->vs[j]? = some vj->G s.heap->Q (.bool (bt i j)) s->Yaq (model prog w) A.in1 (richCompare .Lt vi vj) Q E s)
 (h:∀ v h' tk,vs[argBest bt (vs.length-1)]? = some v->(∀ b o,s.heap.get? b=some o->h'.get? b=some o)->Q v { s with heap:=h',toks:=tk }) :
 Yaq (model prog w) A (call (.builtin "min") [.ref l]) Q E s:=by
 have nm:(toString "min" ++ toString ".loop":String) = "min.loop":=by decide
 have hlt:l<s.heap.objs.size:=by obtain ⟨_,e,_⟩:=hl;exact Qs e
 refine call_function_tree F.kind_min F.plain_min F.entry_min (F.args_min1 _) ?_
 show Yaq _ A.in1 (J9s "min" ["key","default"] 0 ⟨[],[]⟩ >>= _) _ _ s
 refine wpAny_bind (wpAny_of_eq (show J9s "min" ["key","default"] 0 ⟨[],[]⟩=pure [none,none] from rfl) ?_)
 refine wpAny_bind (wpAny_pure ?_)
 refine wpAny_bind (wpAny_pyIter_list hl ?_)
 refine wpAny_bind (wpAny_newObj_type ?_)
 rw [nm]
 have ne:l≠s.heap.objs.size:=Q8 hlt
 have z1:∀ o,(s.heap.push o).objs.size=s.heap.objs.size+1:=λ o=>Xw ..
 refine wpAny_pure ⟨plainId_quiet J33 _,Jm5 (J69 (A:=A.in1) hh _ l ne vs.toArray) bt G (λ hm=>?_) (λ h h' g k=>keep h h' g λ b o hb e=>k b o (λ hm=>?_) (λ hm=>?_) e) (λ i j vi vj s Q E d h1 h2=>ask i j vi vj s Q E d (by simpa using h1) (by simpa using h2)) (by simpa using hne) ⟨⟨_,Qu _ (Q9 _ rfl),rfl,rfl⟩,(hl.push _).push _⟩ (keep _ _ hg λ b o _ e=>Qu _ (Qu _ e)) (Q9 _ rfl) λ v h' tk hp k=>?_⟩
 . simp only [Qf,X0,or_false] at hm
   rcases hm with hm | hm
   . have hm':(s.heap.objs.size+1:Nat)=s.heap.objs.size:=(z1 _).symm.trans hm
     omega
   . have hm':(s.heap.objs.size+1:Nat)=l:=(z1 _).symm.trans hm
     rw [<- hm'] at hlt
     exact Xd _ (J8b hlt)
 . rw [Qt.mp hm] at hb
   exact Xd _ hb
 . rw [show b=s.heap.objs.size+1 from J5p hm (z1 _)] at hb
   exact Xd _ (J8b hb)
 . refine h v h' tk (by simpa using hp) λ b o e=>k b o (λ hm=>?_) ?_ (Qu _ (Qu _ e))
   . have:=Qs e
     rw [Qt.mp hm] at this
     exact Xd _ this
   . intro hm
     have:=Qs e
     rw [show b=s.heap.objs.size+1 from J5p hm (z1 _)] at this
     exact Xd _ (J8b this)
end
section
variable {X:Cx}
def Jyv:List V->Hp->VK->Prop:=λ xs H Q=>∃ (p:Addr) (as:List Addr) (rs:List (Int×Int)),xs=[.ref p]/\H p=some (.lst (as.map V.ref))/\as.length=rs.length/\(∀ (i:Nat) (a:Addr) (r:Int×Int),as[i]? = some a->rs[i]? = some r->H a=some (.tup [.int r.1,.int r.2]))/\rs≠[]/\(rs.map (·.1)).Nodup /\
 ∀ (i:Nat) (a:Addr) (r:Int×Int),as[i]? = some a->rs[i]? = some r->(∀ r'∈rs,r.1<=r'.1)->Q (.ref a) H
theorem Jr7 (hc:X.calm=true) (hu:X.A.units+64<cLine):Vs X (.builtin "min") Jyv:=by
 intro pins s σ H xs us Q I r h
 obtain ⟨p,as,rs,rfl,hp,hln,hi,hne,hnd,q⟩:=h
 obtain ⟨u,rfl,ru⟩:=Jah r
 cases ru
 obtain ⟨z,its,n,rv,hl,e⟩:=I.lstM hp
 have ei:its=as.map Q1:=Jr3 rv
 subst ei
 have pos:0<rs.length:=J5x.mpr hne
 have gd:∀ i,i<rs.length->∃ (a:Addr) (r:Int×Int) (t1 t2:Tok),as[i]? = some a/\rs[i]? = some r/\rs.getD i (0,0)=r/\s.heap.IsTuple a #[.int r.1 t1,.int r.2 t2]:=λ i h2=>by
  have ha:as[i]? = some (as[i]'(by omega)):=Qd _
  have hr:rs[i]? = some rs[i]:=Qd h2
  obtain ⟨it,rv2,pl,_⟩:=I.tuple (SqT.of (hi i _ _ ha hr))
  cases rv2 with
  | cons p1 q1=>
   cases q1 with
   | cons p2 q2=>
    cases q2
    obtain ⟨t1,rfl⟩:=p1
    obtain ⟨t2,rfl⟩:=p2
    exact ⟨_,rs[i],t1,t2,ha,hr,by rw [Qg,hr];rfl,pl⟩
 refine Ju2 (λ i j=>decide ((rs.getD i (0,0)).1<(rs.getD j (0,0)).1)) (λ h=>∀ b o,s.heap.get? b=some o->h.get? b=some o) (I.ok.hd hc) ⟨_,e,rfl,n,rfl⟩ (by rw [Qb];omega) (λ b o e=>e) (λ h h' g k b o e=>k b o (Qs e) (g b o e)) (λ i j vi vj s' Q' E' d h1 h2 g q'=>?_) (λ v h' tk hv k=>?_)
 . rw [Qj] at h1 h2
   obtain ⟨a1,e1,rfl⟩:=Um.mp h1
   obtain ⟨a2,e2,rfl⟩:=Um.mp h2
   have l1:=(Qq.mp e1).1
   have l2:=(Qq.mp e2).1
   obtain ⟨b1,r1,t1,t2,w1,w2,w3,w4⟩:=gd i (by omega)
   obtain ⟨b2,r2,t3,t4,v1,v2,v3,v4⟩:=gd j (by omega)
   cases e1.symm.trans w1
   cases e2.symm.trans v1
   rw [w3,v3] at q'
   refine Ju1 (by show X.A.units+1<cLine;omega) (λ ez=>?_) (w4.at λ o=>g _ o) (v4.at λ o=>g _ o) q'
   have m1:(rs.map (·.1))[i]? = some r1.1:=by rw [Qj,w2];rfl
   have m2:(rs.map (·.1))[j]? = some r2.1:=by rw [Qj,v2];rfl
   obtain ⟨n1,m1⟩:=Qq.mp m1
   obtain ⟨n2,m2⟩:=Qq.mp m2
   rcases J74 i j with z | z | z
   . exact J52.mp hnd i j n1 n2 z (by rw [m1,m2];exact ez)
   . exact d z
   . exact J52.mp hnd j i n2 n1 z (by rw [m1,m2];exact ez.symm)
 . obtain ⟨b1,b2⟩:=argBest_lt (λ i=>(rs.getD i (0,0)).1) ((as.map Q1).length-1)
   rw [Qj] at hv
   obtain ⟨a,ha,rfl⟩:=Um.mp hv
   have l1:=(Qq.mp ha).1
   obtain ⟨a',r,t1,t2,w1,w2,w3,w4⟩:=gd _ (show _<rs.length by rw [<- hln];exact l1)
   refine ⟨.ref a,H,I.kept (t':=tk) k,rfl,q _ a r ha w2 λ r' hr'=>?_⟩
   obtain ⟨j,hj⟩:=X4.mp hr'
   have lj:=(Qq.mp hj).1
   have:=b2 j (by rw [Qb];omega)
   rw [Qg (l:=rs) (i:=j),hj] at this
   rw [<- w3]
   exact this
end
end L2
namespace My
open L2
noncomputable def Jh8 (r:Int×Int):Yao:=.tuple [.int r.1,.int r.2]
theorem Jh9 {ex:List Addr}{H:Hp}:∀ {rs:List (Int×Int)}{vs:List V},Reps ex H (rs.map Jh8) vs->∃ as:List Addr,vs=as.map V.ref/\as.length=rs.length/\∀ (i:Nat) (a:Addr) (r:Int×Int),as[i]? = some a->rs[i]? = some r->H a=some (.tup [.int r.1,.int r.2])/\Rep ex H (Jh8 r) (.ref a)
 | [],vs,h=>by
  cases h
  exact ⟨[],rfl,rfl,λ i a r h=>by simp at h⟩
 | r::rs,vs,h=>by
  cases h with
  | cons h1 h2=>
   obtain ⟨as,rfl,hl,ha⟩:=Jh9 h2
   have hr:=h1
   cases h1 with
   | @tuple p us _ e nm z rr=>
    cases rr with
    | cons r1 r2=>
     cases r2 with
     | cons r2 r3=>
      cases r3
      cases r1
      cases r2
      refine ⟨p::as,rfl,by simp [hl],λ i a r' h3 h4=>?_⟩
      cases i with
      | zero=>
       cases h3
       cases h4
       exact ⟨e,hr⟩
      | succ i=>exact ha i a r' h3 h4
def J2g:G1:=λ ds Q=>∃ rs:List (Int×Int),ds=[.list (rs.map Jh8)]/\rs≠[]/\(rs.map (·.1)).Nodup/\∀ r∈rs,(∀ r'∈rs,r.1<=r'.1)->Q (Jh8 r)
instance co_minP:CO Jyv J2g:=⟨λ {ex H xs ds Q P} al r h k=>by
 obtain ⟨rs,rfl,hne,hnd,q⟩:=h
 cases r with
 | cons r1 t=>
  cases t
  cases r1 with
  | @list p vs _ e nm z rr=>
   obtain ⟨as,rfl,hl,ha⟩:=Jh9 rr
   exact ⟨p,as,rs,rfl,e,hl,λ i a r h1 h2=>(ha i a r h1 h2).1,hne,hnd,λ i a r h1 h2 h3=>k _ _ _ (q r (Xa h2) h3) Kp.refl (ha i a r h1 h2).2⟩⟩
noncomputable abbrev Jo (k:Nat):Yao:=.int (k:Int)
noncomputable abbrev Y7 (r:List Int):Yao:=.list (r.map .int)
noncomputable abbrev Ji5:List Str:=["first_purse","first_room","behind_all","free","bound","rows","divisor"]
structure Siz where
 fp:Int
 fr:Int
 be:Int
noncomputable def Wz (C:Addr) (z:Siz) (T:Tb.Tab):Yao:=.dict (Jbg C Ji5 [.int z.fp,.int z.fr,.int z.be,.list (T.fr.map Jo),.list (T.bd.map Jo),.list (T.rows.map Y7),.int T.q])
structure TableOk (K:Qc) (C:Addr):Prop where
 c:Cls K C
 n1:NoAttr K C "first_purse"
 n2:NoAttr K C "first_room"
 n3:NoAttr K C "behind_all"
 n4:NoAttr K C "free"
 n5:NoAttr K C "bound"
 n6:NoAttr K C "rows"
 n7:NoAttr K C "divisor"
section
variable {K:Qc}{C:Addr}{z:Siz}{T:Tb.Tab}{Q:Yao->Prop}
theorem Ju3 (Y:TableOk K C) (q:Q (.int z.fp)):∃ (C':Addr) (ns:List Str) (ds:List Yao) (x:Yao),Wz C z T = .dict (Jbg C' ns ds)/\Cls K C'/\NoAttr K C' "first_purse"/\ns.length=ds.length/\Ji2 ns ds "first_purse" = some x/\Q x:=⟨C,Ji5,_,_,rfl,Y.c,Y.n1,rfl,rfl,q⟩
theorem J2h (Y:TableOk K C) (q:Q (.int z.fr)):∃ (C':Addr) (ns:List Str) (ds:List Yao) (x:Yao),Wz C z T = .dict (Jbg C' ns ds)/\Cls K C'/\NoAttr K C' "first_room"/\ns.length=ds.length/\Ji2 ns ds "first_room" = some x/\Q x:=⟨C,Ji5,_,_,rfl,Y.c,Y.n2,rfl,rfl,q⟩
theorem Jyw (Y:TableOk K C) (q:Q (.int z.be)):∃ (C':Addr) (ns:List Str) (ds:List Yao) (x:Yao),Wz C z T = .dict (Jbg C' ns ds)/\Cls K C'/\NoAttr K C' "behind_all"/\ns.length=ds.length/\Ji2 ns ds "behind_all" = some x/\Q x:=⟨C,Ji5,_,_,rfl,Y.c,Y.n3,rfl,rfl,q⟩
theorem Jgt (Y:TableOk K C) (q:Q (.list (T.fr.map Jo))):∃ (C':Addr) (ns:List Str) (ds:List Yao) (x:Yao),Wz C z T = .dict (Jbg C' ns ds)/\Cls K C'/\NoAttr K C' "free"/\ns.length=ds.length/\Ji2 ns ds "free" = some x/\Q x:=⟨C,Ji5,_,_,rfl,Y.c,Y.n4,rfl,rfl,q⟩
theorem Jeu (Y:TableOk K C) (q:Q (.list (T.bd.map Jo))):∃ (C':Addr) (ns:List Str) (ds:List Yao) (x:Yao),Wz C z T = .dict (Jbg C' ns ds)/\Cls K C'/\NoAttr K C' "bound"/\ns.length=ds.length/\Ji2 ns ds "bound" = some x/\Q x:=⟨C,Ji5,_,_,rfl,Y.c,Y.n5,rfl,rfl,q⟩
theorem Jbo (Y:TableOk K C) (q:Q (.list (T.rows.map Y7))):∃ (C':Addr) (ns:List Str) (ds:List Yao) (x:Yao),Wz C z T = .dict (Jbg C' ns ds)/\Cls K C'/\NoAttr K C' "rows"/\ns.length=ds.length/\Ji2 ns ds "rows" = some x/\Q x:=⟨C,Ji5,_,_,rfl,Y.c,Y.n6,rfl,rfl,q⟩
theorem Ju4 (Y:TableOk K C) (q:Q (.int T.q)):∃ (C':Addr) (ns:List Str) (ds:List Yao) (x:Yao),Wz C z T = .dict (Jbg C' ns ds)/\Cls K C'/\NoAttr K C' "divisor"/\ns.length=ds.length/\Ji2 ns ds "divisor" = some x/\Q x:=⟨C,Ji5,_,_,rfl,Y.c,Y.n7,rfl,rfl,q⟩
theorem Jct {m:Str}(hm:m∉Ji5):∃ (ns:List Str) (ds:List Yao),Wz C z T = .dict (Jbg C ns ds)/\ns.length=ds.length/\m∉ns:=⟨Ji5,_,rfl,rfl,hm⟩
end
structure Shape (m n:Nat) (T:Tb.Tab):Prop where
 lb:T.bd.length=m
 lf:T.fr.length=n
 lr:T.rows.length=m
 lw:∀ i,i<m->(T.row i).length=n+1
 mm:m<=20
 nn:n<=100
 small:∀ r∈T.rows,∀ x∈r,x.natAbs<2^4000
 q0:0<T.q
 q1:T.q<2^4000
def Jo1 (C:Addr):GSn:=λ as n Q=>∃ (z:Siz) (T:Tb.Tab) (other row:List Int) (k:Nat),as=[.d (Wz C z T),.d (Y7 other),.d (Y7 row),.d (Jo k)]/\k<other.length/\k<row.length/\other.length<=1000/\(∀ x∈other,x.natAbs<2^4000)/\(∀ x∈row,x.natAbs<2^4000)/\0<T.q/\T.q<2^4000/\Q ((Tb.Jcf T.q row other k).map .int) n
def Jgu (C:Addr):GSn:=λ as n' Q=>∃ (z:Siz) (T:Tb.Tab) (m n:Nat) (W:List Nat),as=[.d (Wz C z T),.d (.list (W.map Jo))]/\Shape m n T/\Q (((Qk n).map (T.rise m W)).map .int) n'
def Jcu (C:Addr):GSp:=λ as n' Q=>∃ (z:Siz) (T:Tb.Tab) (m n:Nat) (W:List Nat),as=[.d (Wz C z T),.d (.list (W.map Jo))]/\Shape m n T/\(∀ j j',j<n->j'<n->T.f j=T.f j'->j=j')/\(∀ k,k<n->0<T.rise m W k->(∀ j,j<n->0<T.rise m W j->T.f k<=T.f j)->Q (Jo k) n')/\((∀ j,j<n->T.rise m W j<=0)->Q .none n')
def Jyx (K:Qc) (ta:TA):TI:=Joo K ta
theorem Jw0 {X:Cx}{tg e:Expr}{K:Qc}{ta:TA}(h:PI X tg e (Joo K ta)):PI X tg e (Jyx K ta):=h
abbrev Jqr (env:List Vl) (i:Nat) (k:List Yao->Prop):Prop:=match env[i]? with
 | some (.own xs)=>k xs
 | some (.d (.list xs))=>k xs
 | _=>False
abbrev J2i (i j:Nat):GN:=λ env n Q=>Jqr env i λ xs=>Jqr env j λ ys=>Q (W9 xs ys) n
theorem Jqs {S:Src}{ex:List Addr}{env:List Vl}{σ:L2.St}{H:Hp}{n i:Nat}{k:List Yao->Prop}(E:Ev S ex env σ H n) (h:Jqr env i k):∃ (xs:List Yao) (a:Addr) (vs:List V),k xs/\σ[i]? = some (some (.ref a))/\H a=some (.lst vs)/\∀ l H2,H l=none->Kp (l::S.ch) H H2->∃ vs',H2 a=some (.lst vs')/\Reps (l::ex) H2 xs vs':=by
 unfold Jqr at h
 split at h
 . rename_i xs e
   obtain ⟨a,vs,ev,h1,h2,h3,h4,h5⟩:=E.sl i _ e
   refine ⟨xs,a,vs,h,Jm ev,h1,λ l H2 hl kp=>?_⟩
   have na:a≠l:=Jp h1 hl
   exact ⟨vs,kp _ _ h1 λ z=>(Qf.mp z).elim na h5,(Reps.add hl h3).keep (Jcr E.ch kp)⟩
 . rename_i xs e
   obtain ⟨v,ev,r⟩:=E.sl i _ e
   cases r with
   | list e1 m z rs=>
    refine ⟨xs,_,_,h,Jm ev,e1,λ l H2 hl kp=>?_⟩
    have:=(Rep.add hl (.list e1 m z rs)).keep (Jcr E.ch kp)
    cases this with
    | list e m z rs=>exact ⟨_,e,rs⟩
 . exact h.elim
instance ic_zipO {K:Qc}{i j:Nat}:IC (Jyx K (Yj (Z1 i) (Yj (Z1 j) Jbx))) (J2i i j):=⟨λ {S ex env σ H n R P} E h k=>by
 obtain ⟨xs,a,vs,h,s1,h1,r1⟩:=Jqs E h
 obtain ⟨ys,b,us,h,s2,h2,r2⟩:=Jqs E h
 refine ⟨_,s1,_,s2,false,false,a,b,vs,us,rfl,SqL.of h1,SqL.of h2,k _ _ _ _ h (.refl E.inv) λ l H2 hl kp al=>?_⟩
 obtain ⟨v1,w1,w2⟩:=r1 l H2 hl kp
 obtain ⟨v2,w3,w4⟩:=r2 l H2 hl kp
 exact Jou al (c:=false) (c':=false) (SqL.of w1) w2 (SqL.of w3) w4⟩
noncomputable def tl (T:Tb.Tab) (n:Nat) (W:List Nat) (i:Nat):List Int:=(Qk n).map λ j=>Tb.ind W (T.f j) T.q-Tb.Jn i λ i=>Tb.ind W (T.b i) (T.e i j)
section
variable {m n i:Nat}{T:Tb.Tab}{W:List Nat}
theorem Jo2:(tl T n W i).length=n:=by unfold tl;rw [Qb,Qy]
theorem Jo3 {j:Nat}(hj:j<n):(tl T n W i)[j]? = some (Tb.ind W (T.f j) T.q-Tb.Jn i λ i=>Tb.ind W (T.b i) (T.e i j)):=by unfold tl;rw [Qj,Xl hj];rfl
theorem Jw1 (sh:Shape m n T):T.fr.map (λ ν=>Tb.ind W ν T.q)=tl T n W 0:=by
 apply X1
 intro j
 by_cases hj:j<n
 . have h1:j<T.fr.length:=by rw [sh.lf];exact hj
   rw [Jo3 hj,Qj,Qd h1]
   have:T.f j=T.fr[j]:=by unfold Tb.Tab.f;rw [Qg,Qd h1];rfl
   rw [this]
   show some _=some (_-(0:Int))
   rw [J8c]
 . rw [Qx (by rw [Qb,sh.lf];omega),Qx (by rw [Jo2];omega)]
theorem J2j (sh:Shape m n T) (hi:i<m) (c:T.b i∈W):((tl T n W i).zip (T.row i)).map (λ p=>p.1-p.2)=tl T n W (i+1):=by
 have lw:=sh.lw i hi
 apply X1
 intro j
 by_cases hj:j<n
 . have h1:j<(T.row i).length:=by omega
   rw [J42,Qj,Uf,Jo3 hj,Jo3 hj,Qd h1]
   have e:Tb.ind W (T.b i) (T.e i j)=(T.row i)[j]:=by
    unfold Tb.ind Tb.Tab.e
    rw [if_pos c,Qg,Qd h1];rfl
   show some (_-(T.row i)[j])=some (_-(Tb.Jn i (λ i=>Tb.ind W (T.b i) (T.e i j))+Tb.ind W (T.b i) (T.e i j)))
   rw [e]
   congr 1
   omega
 . rw [Qx (by rw [Qb,J3r,Jo2];omega),Qx (by rw [Jo2];omega)]
theorem J0j (c:T.b i∉W):tl T n W (i+1)=tl T n W i:=by
 unfold tl
 refine X7 λ j _=>?_
 show _-(Tb.Jn i (λ i=>Tb.ind W (T.b i) (T.e i j))+Tb.ind W (T.b i) (T.e i j))=_
 have:Tb.ind W (T.b i) (T.e i j)=0:=by unfold Tb.ind;rw [if_neg c]
 rw [this]
 omega
theorem Ju5 {x:Yao}(sh:Shape m n T) (h:(W9 (T.bd.map Jo) (T.rows.map Y7))[i]? = some x):i<m/\x = .tuple [Jo (T.b i),Y7 (T.row i)]:=by
 unfold W9 at h
 rw [Uf,Qj,Qj] at h
 by_cases hi:i<m
 . have h1:i<T.bd.length:=by rw [sh.lb];exact hi
   have h2:i<T.rows.length:=by rw [sh.lr];exact hi
   rw [Qd h1,Qd h2] at h
   refine ⟨hi,?_⟩
   have e1:T.b i=T.bd[i]:=by unfold Tb.Tab.b;rw [Qg,Qd h1];rfl
   have e2:T.row i=T.rows[i]:=by unfold Tb.Tab.row;rw [Qg,Qd h2];rfl
   rw [e1,e2]
   exact (Xf h).symm
 . rw [Qx (by rw [sh.lb];omega)] at h
   cases h
end
theorem Jw2 (n:Nat) (f:Nat->Int):Jee (((Qk n).map f).map .int)=(Qk n).map λ j=>.tuple [Jo j,.int (f j)]:=by
 apply X1
 intro i
 unfold Jee
 rw [J7r,Qj,Qj,Qj]
 by_cases h:i<n
 . rw [Xl h];rfl
 . rw [Qx (by rw [Qy];omega)];rfl
noncomputable def Jia (T:Tb.Tab) (n a o k:Nat):Bool:=decide (T.e a n*T.e o k<T.e o n*T.e a k)||(decide (T.e a n*T.e o k=T.e o n*T.e a k)&&decide (T.b a<T.b o))
noncomputable def rf (T:Tb.Tab) (n k:Nat):Nat->Option Nat
 | 0=>none
 | i+1=>match rf T n k i with
  | none=>if 0<T.e i k then some i else none
  | some o=>if 0<T.e i k/\Jia T n i o k=true then some i else some o
noncomputable def J0k:Option Nat->Yao
 | none=>.none
 | some i=>Jo i
def Jle (C:Addr):GSp:=λ as n' Q=>∃ (z:Siz) (T:Tb.Tab) (m n a o k:Nat),as=[.d (Wz C z T),.d (Jo a),.d (Jo o),.d (Jo k)]/\Shape m n T/\a<m/\o<m/\k<n/\Q (.bool (Jia T n a o k)) n'
def Jfm (C:Addr):GSp:=λ as n' Q=>∃ (z:Siz) (T:Tb.Tab) (m n k:Nat),as=[.d (Wz C z T),.d (Jo k)]/\Shape m n T/\k<n/\Q (J0k (rf T n k m)) n'
def Jlf (C:Addr):GSp:=λ as n' Q=>∃ (z:Siz) (T:Tb.Tab) (u:Nat) (xs:List Int),as=[.d (Wz C z T),.d (Y7 xs)]/\z.fr-z.fp=(u:Int)/\xs.length<=1000/\Q (.tuple [.tuple ((xs.take u).map .int),.tuple ((xs.drop u).map .int)]) n'
section
variable {m n:Nat}{T:Tb.Tab}
theorem Jib (sh:Shape m n T) {i:Nat}(hi:i<m):atI (T.rows.map Y7) ((i:Nat):Int)=some (Y7 (T.row i)):=by
 have h2:i<T.rows.length:=by rw [sh.lr];exact hi
 refine Zt (by omega) ?_
 unfold Tb.Tab.row
 rw [Q5,Qj,Qd h2,Qg,Qd h2]
 rfl
theorem Jyy (sh:Shape m n T) {i:Nat}(hi:i<m):atI (T.bd.map Jo) ((i:Nat):Int)=some (Jo (T.b i)):=by
 have h2:i<T.bd.length:=by rw [sh.lb];exact hi
 refine Zt (by omega) ?_
 unfold Tb.Tab.b
 rw [Q5,Qj,Qd h2,Qg,Qd h2]
 rfl
theorem J2k (sh:Shape m n T) {j:Nat}(hj:j<n):atI (T.fr.map Jo) ((j:Nat):Int)=some (Jo (T.f j)):=by
 have h2:j<T.fr.length:=by rw [sh.lf];exact hj
 refine Zt (by omega) ?_
 unfold Tb.Tab.f
 rw [Q5,Qj,Qd h2,Qg,Qd h2]
 rfl
theorem Jw3 (sh:Shape m n T) {i j:Nat}(hi:i<m) (hj:j<=n):atI ((T.row i).map Qv) ((j:Nat):Int)=some (.int (T.e i j)):=by
 have h2:j<(T.row i).length:=by rw [sh.lw i hi];omega
 refine Zt (by omega) ?_
 unfold Tb.Tab.e
 rw [Q5,Qj,Qd h2,Qg,Qd h2]
 rfl
theorem Ju6 (sh:Shape m n T) {i:Nat}(hi:i<m):atI ((T.row i).map Qv) (-1)=some (.int (T.e i n)):=by
 have hl:=sh.lw i hi
 have h2:n<(T.row i).length:=by omega
 refine Jwe (by intro h;rw [J9t] at h;rw [h] at hl;cases hl) ?_
 rw [List.getLast?_map,J9e,hl,show n+1-1=n by omega,Qd h2]
 unfold Tb.Tab.e
 rw [Qg,Qd h2]
 rfl
theorem Jgv (sh:Shape m n T) {i j:Nat}(hi:i<m) (hj:j<=n):(T.e i j).natAbs<2^9000:=by
 have h2:j<(T.row i).length:=by rw [sh.lw i hi];omega
 have h3:i<T.rows.length:=by rw [sh.lr];exact hi
 have hr:T.row i∈T.rows:=by unfold Tb.Tab.row;rw [Qg,Qd h3];exact Xe _
 refine Qz (sh.small _ hr (T.e i j) ?_) (J6d (by decide) (by decide))
 unfold Tb.Tab.e
 rw [Qg,Qd h2]
 exact Xe _
theorem Jw4 (sh:Shape m n T) {i:Nat}{x:Yao}(h:(Jee (T.rows.map Y7))[i]? = some x):i<m/\x = .tuple [Jo i,Y7 (T.row i)]:=by
 unfold Jee at h
 rw [J7r,Qj] at h
 by_cases hi:i<m
 . have h2:i<T.rows.length:=by rw [sh.lr];exact hi
   rw [Qd h2] at h
   refine ⟨hi,?_⟩
   have e2:T.row i=T.rows[i]:=by unfold Tb.Tab.row;rw [Qg,Qd h2];rfl
   rw [e2]
   exact (Xf h).symm
 . rw [Qx (by rw [sh.lr];omega)] at h
   cases h
theorem Jqt (k:Nat):∀ {i o:Nat},rf T n k i=some o->o<i
 | i+1,o,h=>by
  rw [rf] at h
  cases e:rf T n k i with
  | none=>
   rw [e] at h
   simp only at h
   split at h
   . cases h;omega
   . cases h
  | some p=>
   rw [e] at h
   simp only at h
   have:=Jqt k e
   split at h
   . cases h;omega
   . cases h;omega
end
structure Names (m n be:Nat) (T:Tb.Tab):Prop where
 bi:∀ i i',i<m->i'<m->T.b i=T.b i'->i=i'
 fi:∀ j j',j<n->j'<n->T.f j=T.f j'->j=j'
 ne:∀ i j,i<m->j<n->T.b i≠T.f j
 bl:∀ i,i<m->T.b i<be
 fl:∀ j,j<n->T.f j<be
noncomputable def Jm6 (T:Tb.Tab) (k i ν:Nat):Int:=(if ν = T.f k then T.q else 0)-Tb.Jn i λ i=>if T.b i = ν then T.e i k else 0
noncomputable def dl (T:Tb.Tab) (be k i:Nat):List Int:=(Qk be).map (Jm6 T k i)
theorem Jic {T:Tb.Tab}{be k i:Nat}:(dl T be k i).length=be:=by unfold dl;rw [Qb,Qy]
theorem Jo4 {T:Tb.Tab}{be k i ν:Nat}(h:ν < be):(dl T be k i)[ν]? = some (Jm6 T k i ν):=by unfold dl;rw [Qj,Xl h];rfl
theorem Jw5 {T:Tb.Tab}{be k:Nat}(h:T.f k<be):(Qo be (0:Int)).set (T.f k) T.q=dl T be k 0:=by
 apply X1
 intro i
 by_cases hi:i<be
 . rw [Jo4 hi,J4v,X5,U4,if_pos hi]
   unfold Jm6
   show _=some (_-(0:Int))
   rw [J8c]
   by_cases e:T.f k=i
   . rw [if_pos e,if_pos h,if_pos e.symm]
   . rw [if_neg e,if_neg (Ql e)]
 . rw [Qx (by rw [Qr,X5];omega),Qx (by rw [Jic];omega)]
theorem J0l {m n be:Nat}{T:Tb.Tab}(N:Names m n be T) {k:Nat}(hk:k<n) {i:Nat}(hi:i<m):∀ c,c<=i->Jm6 T k c (T.b i)=0:=by
 intro c hc
 unfold Jm6
 rw [if_neg (N.ne i k hi hk)]
 have:Tb.Jn c (λ j=>if T.b j=T.b i then T.e j k else 0)=0:=by
  induction c with
  | zero=>rfl
  | succ c ih=>
   show Tb.Jn c _+(if T.b c=T.b i then T.e c k else 0)=0
   rw [ih (by omega),if_neg λ e=>by have:=N.bi c i (by omega) hi e;omega]
   rfl
 rw [this]
 rfl
theorem Jw6 {m n be:Nat}{T:Tb.Tab}(N:Names m n be T) {k:Nat}(hk:k<n) {i:Nat}(hi:i<m):(dl T be k i).set (T.b i) (-(T.e i k))=dl T be k (i+1):=by
 apply X1
 intro ν
 by_cases hν:ν < be
 . rw [Jo4 hν,J4v,Jic,Jo4 hν]
   have st:Jm6 T k (i+1) ν = Jm6 T k i ν - (if T.b i = ν then T.e i k else 0):=by
    unfold Jm6
    show _-(Tb.Jn i _+(if T.b i = ν then T.e i k else 0))=_
    omega
   rw [st]
   by_cases e:T.b i = ν
   . rw [if_pos e,if_pos e,if_pos (N.bl i hi),<- e,J0l N hk hi i (Qn _)]
     congr 1
     omega
   . rw [if_neg e,if_neg e,J8c]
 . rw [Qx (by rw [Qr,Jic];omega),Qx (by rw [Jic];omega)]
theorem Jw7 {T:Tb.Tab}{be k m:Nat}:dl T be k m=(Qk be).map (T.dir m k):=rfl
def Jev (C:Addr):GSp:=λ as n' Q=>∃ (T:Tb.Tab) (m n k nw nr be:Nat),as=[.d (Wz C ⟨(nw:Int),(nr:Int),(be:Int)⟩ T),.d (Jo k)]/\Shape m n T/\Names m n be T/\k<n/\nw<=be/\be<=1000/\Zk ((Qk nw).map (T.dir m k))≠0/\((Zk ((Qk nw).map (T.dir m k)):Nat):Int)<2^9000/\Q (.tuple (((Qk nw).map (T.dir m k)).map λ x=>.int (x/((Zk ((Qk nw).map (T.dir m k)):Nat):Int)))) n'
noncomputable def wl (q:Int) (be:Nat) (W:List Nat):List Int:=(Qk be).map λ ν=>Tb.ind W ν q
theorem Jid {q:Int}{be:Nat}{W:List Nat}:(wl q be W).length=be:=by unfold wl;rw [Qb,Qy]
theorem Jo5 {q:Int}{be ν:Nat}{W:List Nat}(h:ν < be):(wl q be W)[ν]? = some (Tb.ind W ν q):=by unfold wl;rw [Qj,Xl h];rfl
theorem J0m {q:Int}{be:Nat}:Qo be (0:Int)=wl q be []:=by
 apply X1
 intro i
 by_cases h:i<be
 . rw [Jo5 h,U4,if_pos h]
   unfold Tb.ind
   rw [if_neg X0]
 . rw [Qx (by rw [X5];omega),Qx (by rw [Jid];omega)]
theorem Jw8 {q:Int}{be w:Nat}{W:List Nat}(h:w<be):(wl q be W).set w q=wl q be (W++[w]):=by
 apply X1
 intro ν
 by_cases hν:ν < be
 . rw [Jo5 hν,J4v,Jid,Jo5 hν]
   unfold Tb.ind
   by_cases e:w = ν
   . rw [if_pos e,if_pos h,if_pos (by rw [<- e];simp)]
   . rw [if_neg e]
     by_cases c:ν∈W
     . rw [if_pos c,if_pos (Xn _ c)]
     . rw [if_neg c,if_neg]
       intro z
       rcases Q6.mp z with z | z
       . exact c z
       . exact e (Qt.mp z).symm
 . rw [Qx (by rw [Qr,Jid];omega),Qx (by rw [Jid];omega)]
open Classical in
noncomputable def shN (T:Tb.Tab) (m:Nat) (W:List Nat) (i ν:Nat):Int:=Tb.Jn i (λ j=>if T.f j = ν then -T.rise m W j else 0)+(if (∃ j,j<i/\T.f j = ν) then 0 else Tb.ind W ν T.q)
noncomputable def sl (T:Tb.Tab) (m be:Nat) (W:List Nat) (i:Nat):List Int:=(Qk be).map (shN T m W i)
theorem Jie {T:Tb.Tab}{m be i:Nat}{W:List Nat}:(sl T m be W i).length=be:=by unfold sl;rw [Qb,Qy]
theorem Ju7 {T:Tb.Tab}{m be i ν:Nat}{W:List Nat}(h:ν < be):(sl T m be W i)[ν]? = some (shN T m W i ν):=by unfold sl;rw [Qj,Xl h];rfl
theorem Jw9 {T:Tb.Tab}{m be:Nat}{W:List Nat}:wl T.q be W=sl T m be W 0:=by
 unfold wl sl
 refine X7 λ ν _=>?_
 unfold shN
 show _=(0:Int)+_
 rw [if_neg (by rintro ⟨j,hj,_⟩;omega),J31]
theorem Jxa {m n be i:Nat}{T:Tb.Tab}{W:List Nat}(N:Names m n be T) (hi:i<n):(sl T m be W i).set (T.f i) (-(T.rise m W i))=sl T m be W (i+1):=by
 apply X1
 intro ν
 by_cases hν:ν < be
 . rw [Ju7 hν,J4v,Jie,Ju7 hν]
   by_cases e:T.f i = ν
   . rw [if_pos e,if_pos (N.fl i hi)]
     unfold shN
     rw [if_pos ⟨i,by omega,e⟩]
     show _=some (Tb.Jn i (λ j=>if T.f j = ν then -T.rise m W j else 0)+(if T.f i = ν then -T.rise m W i else 0)+0)
     have z:∀ c,c<=i->Tb.Jn c (λ j=>if T.f j = ν then -T.rise m W j else 0)=0:=by
      intro c hc
      induction c with
      | zero=>rfl
      | succ c ih=>
       show Tb.Jn c _+(if T.f c = ν then -T.rise m W c else 0)=0
       rw [ih (by omega),if_neg λ h=>by have:=N.fi c i (by omega) hi (h.trans e.symm);omega]
       rfl
     rw [z i (Qn _),if_pos e]
     congr 1
     omega
   . rw [if_neg e]
     unfold shN
     show some (_+_)=some (Tb.Jn i (λ j=>if T.f j = ν then -T.rise m W j else 0)+(if T.f i = ν then -T.rise m W i else 0)+_)
     rw [if_neg e,J75]
     congr 2
     by_cases c:∃ j,j<i/\T.f j = ν
     . obtain ⟨j,h1,h2⟩:=c
       rw [if_pos ⟨j,h1,h2⟩,if_pos ⟨j,by omega,h2⟩]
     . rw [if_neg c,if_neg]
       rintro ⟨j,h1,h2⟩
       by_cases z:j=i
       . rw [z] at h2;exact e h2
       . exact c ⟨j,by omega,h2⟩
 . rw [Qx (by rw [Qr,Jie];omega),Qx (by rw [Jie];omega)]
def Jif (C:Addr):GSn:=λ as n' Q=>∃ (T:Tb.Tab) (m n nw nr be:Nat) (W:List Nat),as=[.d (Wz C ⟨(nw:Int),(nr:Int),(be:Int)⟩ T),.d (.list (W.map Jo))]/\Shape m n T/\Names m n be T/\(∀ w∈W,w<be)/\nw<=be/\be<=1000/\Q (((sl T m be W n).drop nw).map .int) n'
theorem J0n {m n i:Nat}{T:Tb.Tab}{x:Yao}{f:Nat->Int}(sh:Shape m n T) (h:(W9 (T.fr.map Jo) (((Qk n).map f).map .int))[i]? = some x):i<n/\x = .tuple [Jo (T.f i),.int (f i)]:=by
 unfold W9 at h
 rw [Uf,Qj,Qj,Qj] at h
 by_cases hi:i<n
 . have h1:i<T.fr.length:=by rw [sh.lf];exact hi
   rw [Qd h1,Xl hi] at h
   refine ⟨hi,?_⟩
   have e1:T.f i=T.fr[i]:=by unfold Tb.Tab.f;rw [Qg,Qd h1];rfl
   rw [e1]
   exact (Xf h).symm
 . rw [Qx (by rw [sh.lf];omega)] at h
   cases h
def Bx (C:Addr):GSp:=λ as n' Q=>∃ (T:Tb.Tab) (m n nw nr be:Nat) (W:List Nat),as=[.d (Wz C ⟨(nw:Int),(nr:Int),(be:Int)⟩ T),.d (.list (W.map Jo))]/\Shape m n T/\Names m n be T/\(∀ w∈W,w<be)/\nw<=be/\be<=1000/\nw<=nr/\Zk ((sl T m be W n).drop nw)≠0/\((Zk ((sl T m be W n).drop nw):Nat):Int)<2^9000 /\
 Q (.tuple [.tuple (((((sl T m be W n).drop nw).map λ x=>x/((Zk ((sl T m be W n).drop nw):Nat):Int)).take (nr-nw)).map .int),.tuple (((((sl T m be W n).drop nw).map λ x=>x/((Zk ((sl T m be W n).drop nw):Nat):Int)).drop (nr-nw)).map .int)]) n'
section
variable {T:Tb.Tab}{n k:Nat}
theorem Jlg:∀ {i:Nat},rf T n k i=none->∀ j,j<i->T.e j k<=0
 | 0,_,j,hj=>by omega
 | i+1,h,j,hj=>by
  rw [rf] at h
  cases e:rf T n k i with
  | none=>
   rw [e] at h
   simp only at h
   split at h
   . cases h
   . rename_i c
     by_cases z:j=i
     . rw [z];omega
     . exact Jlg e j (by omega)
  | some o=>
   rw [e] at h
   simp only at h
   split at h<;>cases h
theorem Jo6 {a o:Nat}(ha:T.e a n=0) (ho:T.e o n=0):Jia T n a o k=decide (T.b a<T.b o):=by
 unfold Jia
 rw [ha,ho,Xv,Xv]
 simp
theorem Jqu {m:Nat}(z:∀ i,i<m->T.e i n=0):∀ {i l:Nat},i<=m->rf T n k i=some l->0<T.e l k/\∀ j,j<i->0<T.e j k->T.b l<=T.b j
 | 0,l,_,h=>by cases h
 | i+1,l,hm,h=>by
  rw [rf] at h
  cases e:rf T n k i with
  | none=>
   rw [e] at h
   simp only at h
   split at h
   . rename_i c
     cases h
     refine ⟨c,λ j hj hp=>?_⟩
     by_cases y:j=i
     . rw [y];exact Qn _
     . have:=Jlg e j (by omega)
       omega
   . cases h
  | some o=>
   rw [e] at h
   simp only at h
   obtain ⟨p1,p2⟩:=Jqu z (i:=i) (by omega) e
   have lo:=Jqt k e
   rw [Jo6 (z i (by omega)) (z o (by omega))] at h
   split at h
   . rename_i c
     cases h
     refine ⟨c.1,λ j hj hp=>?_⟩
     have c2:=of_decide_eq_true c.2
     by_cases y:j=i
     . rw [y];exact Qn _
     . have:=p2 j (by omega) hp
       omega
   . rename_i c
     cases h
     refine ⟨p1,λ j hj hp=>?_⟩
     by_cases y:j=i
     . rw [y] at hp ⊢
       rcases Xy (T.b i) (T.b l) with q | q
       . exact absurd ⟨hp,decide_eq_true q⟩ c
       . exact q
     . exact p2 j (by omega) hp
end
section
variable {m n be:Nat}{c:Nat->Tb.Vec}{rhs:Tb.Vec}{T:Tb.Tab}{W:List Nat}
theorem Jm7 (b:Nat) (hb:1<=b):∀ k d,Tb.Ji3 b k<=Tb.Ji3 b (k+d)
 | k,0=>Qn _
 | k,d+1=>by
  refine Xm (Jm7 b hb k d) ?_
  show Tb.Ji3 b (k+d)<=(k+d+1)*b*Tb.Ji3 b (k+d)
  exact Nat.le_mul_of_pos_left _ (Nat.mul_pos (by omega) hb)
theorem Jr8 (hm:m<=18):Tb.Ji3 100 m<2^4000:=by
 have h1:=Jm7 100 (by decide) m (18-m)
 rw [show m+(18-m)=18 by omega] at h1
 exact U7 h1 (by decide +kernel)
structure Small (m:Nat) (c:Nat->Tb.Vec) (rhs:Tb.Vec):Prop where
 c:∀ ν r,r<m->(c ν r).natAbs<=100
 r:∀ r,r<m->(rhs r).natAbs<=100
theorem Jig (S:Small m c rhs) (h:Tb.TabOk m n c rhs T) {i:Nat}{v:Tb.Vec}(hv:∀ r,r<m->(v r).natAbs<=100):(Tb.cr m (T.bd.map c) i v).natAbs<=Tb.Ji3 100 m:=by
 unfold Tb.cr
 refine Tb.Jup m _ (by rw [Qr,Qb,h.lb]) λ j hj r hr=>?_
 unfold Tb.atV
 have hl:j<(T.bd.map c).length:=by rw [Qb,h.lb];exact hj
 by_cases e:i=j
 . subst e
   rw [Tb.Zz hl]
   exact hv r hr
 . rw [Tb.Vr e]
   have:=Tb.at_map (c:=c) (l:=T.bd) (i:=j) (by rw [h.lb];exact hj)
   unfold Tb.atV at this
   rw [this]
   exact S.c _ r hr
theorem Jch (S:Small m c rhs) (h:Tb.TabOk m n c rhs T) (hm:m<=18) (hn:n<=100):Shape m n T:=by
 have fs:=Jr8 hm
 refine ⟨h.lb,h.lf,h.lr,h.lw,by omega,hn,λ r hr x hx=>?_,h.qpos,?_⟩
 . obtain ⟨i,hi⟩:=X4.mp hr
   obtain ⟨j,hj⟩:=X4.mp hx
   have il:=(Qq.mp hi).1
   rw [h.lr] at il
   have er:T.row i=r:=by unfold Tb.Tab.row;rw [Qg,hi];rfl
   have jl:=(Qq.mp hj).1
   rw [<- er,h.lw i il] at jl
   have ex:T.e i j=x:=by unfold Tb.Tab.e;rw [er,Qg,hj];rfl
   rw [<- ex]
   refine U7 ?_ fs
   by_cases z:j<n
   . rw [h.en i il j z]
     exact Jig S h λ r hr=>S.c _ r hr
   . rw [show j=n by omega,h.el i il]
     exact Jig S h S.r
 . have:T.q.natAbs<=Tb.Ji3 100 m:=by
    rw [h.qq]
    refine Tb.Jup m _ (by rw [Qb,h.lb]) λ j hj r hr=>?_
    rw [Tb.at_map (by rw [h.lb];exact hj)]
    exact S.c _ r hr
   have q0:=h.qpos
   have:T.q.natAbs<2^4000:=U7 this fs
   have e:((T.q.natAbs:Nat):Int)=T.q:=J4p (by omega)
   rw [<- e]
   exact_mod_cast this
theorem Jm8 (h:Tb.TabOk m n c rhs T) (bl:∀ i,i<m->T.b i<be) (fl:∀ j,j<n->T.f j<be):Names m n be T:=⟨h.bi,h.fi,h.ne,bl,fl⟩
theorem Ju8 (h:Tb.TabOk m n c rhs T) (N:Names m n be T) {l k:Nat}(hl:l<m) (hk:k<n) (hp:0<T.e l k):Names m n be (T.ex l k):=by
 refine Jm8 (h.ex hl hk hp) (λ i hi=>?_) (λ j hj=>?_)
 . by_cases e:i=l
   . rw [e,Tb.Jdh h hl];exact N.fl k hk
   . rw [Tb.Jld e];exact N.bl i hi
 . by_cases e:j=k
   . rw [e,Tb.Jcg h hk];exact N.bl l hl
   . rw [Tb.Ji4 e];exact N.fl j hj
theorem Ju9 (ν:Nat):shN T m W n ν = T.share m n W ν:=by
 unfold shN Tb.Tab.share
 congr 1
end
section
variable {m n be:Nat}{c:Nat->Tb.Vec}{T:Tb.Tab}{W:List Nat}
noncomputable abbrev Jc5:Tb.Vec:=λ _=>0
theorem J0o (h:Tb.TabOk m n c Jc5 T) {i:Nat}(hi:i<m):T.e i n=0:=by
 rw [h.el i hi]
 unfold Tb.cr
 have hl:i<(T.bd.map c).length:=by rw [Qb,h.lb];exact hi
 refine Tb.Jun (a:=i) (by rw [Qr];exact hl) (by rw [Qr,Qb,h.lb]) λ r _=>?_
 unfold Tb.atV
 rw [Tb.Zz hl]
theorem Jxb (h:Tb.TabOk m n c Jc5 T) {l k:Nat}(hk:k<n) (hr:0<T.rise m W k) (hf:∀ j,j<n->0<T.rise m W j->T.f k<=T.f j) (hl:rf T n k m=some l):Tb.Yr m n W T l k:=by
 obtain ⟨p1,p2⟩:=Jqu (T:=T) (n:=n) (k:=k) (λ i hi=>J0o h hi) (Qn m) hl
 exact ⟨Jqt k hl,hk,hr,hf,p1,p2⟩
theorem J0p {k:Nat}(hk:k<n) (hr:0<T.rise m W k) (hl:rf T n k m=none):Tb.Ray m n W T k:=⟨hk,hr,λ i hi=>Jlg hl i hi⟩
end
theorem Jr9 {m n:Nat}{c:Nat->Tb.Vec}{rhs:Tb.Vec}{W:List Nat}{N:Nat}{st:Nat->Tb.Tab}{l k:Nat->Nat}(h:Tb.Path m n c rhs W N st l k) {l' k':Nat}(s:Tb.Yr m n W (st N) l' k'):∃ st' l2 k2,Tb.Path m n c rhs W (N+1) st' l2 k2/\st' (N+1)=(st N).ex l' k'/\∀ t,t<=N->st' t=st t:=by
 refine ⟨λ t=>if t<=N then st t else (st N).ex l' k',λ t=>if t<N then l t else l',λ t=>if t<N then k t else k',⟨λ t ht=>?_,λ t ht=>?_,λ t ht=>?_⟩,?_,λ t ht=>if_pos ht⟩
 . by_cases z:t<=N
   . simp only [if_pos z];exact h.ok t z
   . simp only [if_neg z];exact (h.ok N (Qn _)).ex s.hl s.hk s.pos
 . by_cases z:t<N
   . simp only [if_pos z,if_pos (Uc z)];exact h.sp t z
   . have e:t=N:=by omega
     subst e
     simp only [if_neg (Xd _),if_pos (Qn _)];exact s
 . by_cases z:t<N
   . simp only [if_pos z,if_pos (Uc z),if_pos (show t+1<=N by omega)];exact h.ex t z
   . have e:t=N:=by omega
     subst e
     simp only [if_neg (Xd _),if_pos (Qn _),if_neg (show ¬ t+1<=t by omega)]
 . simp only [if_neg (show ¬ N+1<=N by omega)]
theorem Jva {m n:Nat}{c:Nat->Tb.Vec}{rhs:Tb.Vec}{W:List Nat}{T:Tb.Tab}(h:Tb.TabOk m n c rhs T):Tb.Path m n c rhs W 0 (λ _=>T) (λ _=>0) (λ _=>0):=⟨λ _ _=>h,λ t ht=>by omega,λ t ht=>by omega⟩
def Jih:GSn:=λ as n Q=>∃ (R U:Int) (ws:List Way),as=[.d (J8 R U ws),.d .none]/\BookOk R U ws/\Q ((Qo (U+R).toNat (0:Int)).map .int) n
noncomputable abbrev Y0 (k:Nat):V:=.int (k:Int)
noncomputable def Jm9 (z:Siz) (q:Int) (fa ba:Addr) (rv:V):List (Str×V):=[("first_purse",.int z.fp),("first_room",.int z.fr),("behind_all",.int z.be),("free",.ref fa),("bound",.ref ba),("rows",rv),("divisor",.int q)]
structure TabH (C:Addr) (ex:List Addr) (p fa ba:Addr) (z:Siz) (T:Tb.Tab) (H:Hp):Prop where
 o:∃ (dx:Addr) (rv:V),H p=some (.ins C dx (Jm9 z T.q fa ba rv))/\Rep (p::fa::ba::ex) H (.list (T.rows.map Y7)) rv
 f:H fa=some (.lst (T.fr.map Y0))
 b:H ba=some (.lst (T.bd.map Y0))
 pf:p≠fa
 pb:p≠ba
 fb:fa≠ba
 np:p∉ex
 nf:fa∉ex
 nb:ba∉ex
 al:Alc ex H
theorem Jfn {ex:List Addr}{H:Hp}(ks:List Nat):Reps ex H (ks.map Jo) (ks.map Y0):=by
 have:=Jjx (ex:=ex) (H:=H) (ks.map λ k:Nat=>(k:Int))
 rw [Qw,Qw] at this
 exact this
theorem TabH.rep {C p fa ba:Addr}{ex:List Addr}{z:Siz}{T:Tb.Tab}{H:Hp}(h:TabH C ex p fa ba z T H) (lf:T.fr.length<=sizeLine) (lb:T.bd.length<=sizeLine):Rep ex H (Wz C z T) (.ref p):=by
 obtain ⟨dx,rv,h1,h2⟩:=h.o
 refine .obj (fs:=Jm9 z T.q fa ba rv) (ds:=[.int z.fp,.int z.fr,.int z.be,.list (T.fr.map Jo),.list (T.bd.map Jo),.list (T.rows.map Y7),.int T.q]) h1 h.np rfl ?_
 refine .cons (.int _) (.cons (.int _) (.cons (.int _) (.cons (.list h.f h.nf (by rw [Qb];exact lf) (Jfn _)) (.cons (.list h.b h.nb (by rw [Qb];exact lb) (Jfn _)) (.cons (Rep.sub (Rep.sub (Rep.sub h2))) (.cons (.int _) .nil))))))
theorem TabH.keep {C p fa ba:Addr}{ex:List Addr}{z:Siz}{T:Tb.Tab}{H H':Hp}(h:TabH C ex p fa ba z T H) (k:Kp [] H H'):TabH C ex p fa ba z T H':=by
 obtain ⟨dx,rv,h1,h2⟩:=h.o
 exact ⟨⟨dx,rv,k _ _ h1 (by simp),h2.keep (k.mono λ a ha=>by cases ha)⟩,k _ _ h.f (by simp),k _ _ h.b (by simp),h.pf,h.pb,h.fb,h.np,h.nf,h.nb,h.al.kp k⟩
def J0q (C:Addr):Sp:=λ vs H Q _=>∃ (ex:List Addr) (p fa ba:Addr) (z:Siz) (T:Tb.Tab) (m n l k:Nat),vs=[.ref p,Y0 l,Y0 k]/\TabH C ex p fa ba z T H/\Shape m n T/\l<m/\k<n/\∀ H',TabH C ex p fa ba z (T.ex l k) H'->Kp [p,fa,ba] H H'->Q .non H'
structure Kept (m n be:Nat) (c:Nat->Tb.Vec) (T0 T:Tb.Tab):Prop where
 ok:Tb.TabOk m n c Jc5 T
 nm:Names m n be T
 tot:∀ g,T.tot m n g=T0.tot m n g
structure Fit (nw m n:Nat) (c:Nat->Tb.Vec) (some:List Nat) (T:Tb.Tab):Prop where
 cols:Tb.Cols nw m c
 sm:∀ k∈some,k<nw
 len:some.length=n
 tot:∀ g:Nat->Int,T.tot m n g=Tb.Jn m (λ s=>g (nw+s))+Tb.Jn n (λ j=>g (some.getD j 0))
def Jii (C:Addr):Sp:=λ vs H Q _=>∃ (ex:List Addr) (p fa ba:Addr) (nw nr be m n:Nat) (c:Nat->Tb.Vec) (T:Tb.Tab) (W some:List Nat) (wv:V),vs=[.ref p,wv]/\TabH C ex p fa ba ⟨(nw:Int),(nr:Int),(be:Int)⟩ T H/\Rep (p::fa::ba::ex) H (.list (W.map Jo)) wv/\Small m c Jc5/\m<=18/\n<=100/\nw<=be/\be<=1000/\Kept m n be c T T/\Fit nw m n c some T /\
 (∀ (H':Hp) (T':Tb.Tab) (k:Nat) (v:V),TabH C ex p fa ba ⟨(nw:Int),(nr:Int),(be:Int)⟩ T' H'->Kept m n be c T T'->Tb.Ray m n W T' k->Kp [p,fa,ba] H H'->Rep ex H' (.tuple (((Qk nw).map (T'.dir m k)).map λ x=>.int (x/((Zk ((Qk nw).map (T'.dir m k)):Nat):Int)))) v->Q v H') /\
 (∀ (H':Hp) (T':Tb.Tab),TabH C ex p fa ba ⟨(nw:Int),(nr:Int),(be:Int)⟩ T' H'->Kept m n be c T T'->Tb.Last m n W T'->Kp [p,fa,ba] H H'->Q .non H')
theorem Jqv {m n be:Nat}{c:Nat->Tb.Vec}{T0 T:Tb.Tab}{W:List Nat}{l k:Nat}(h:Kept m n be c T0 T) (s:Tb.Yr m n W T l k):Kept m n be c T0 (T.ex l k):=
 ⟨h.ok.ex s.hl s.hk s.pos,Ju8 h.ok h.nm s.hl s.hk s.pos,λ g=>by rw [Tb.Jur h.ok s.hl s.hk];exact h.tot g⟩
theorem Jew {sp:GSp}{C p fa ba:Addr}{ex:List Addr}{z:Siz}{T:Tb.Tab}{H:Hp}{as:List Vl}{vs:List V}{Q:VK}{E:XK}{P:Yao->Nat->Prop}(h:TabH C ex p fa ba z T H) (lf:T.fr.length<=sizeLine) (lb:T.bd.length<=sizeLine) (ra:B4 Src.no ex H as vs) (hs:sp (.d (Wz C z T)::as) 0 P) (k:∀ d n' v H',P d n'->Kp [] H H'->Rep ex H' d v->Q v H'):Jk sp (.ref p::vs) H Q E:=
 ⟨Src.no,ex,.d (Wz C z T)::as,0,P,⟨⟨_,rfl,h.rep lf lb⟩,ra⟩,λ a ha=>(by cases ha),h.al,trivial,hs,λ d n' v H' p s r=>k d n' v H' p s.1 r⟩
structure Turn (C:Addr) (ex:List Addr) (p fa ba:Addr) (z:Siz) (m n be:Nat) (c:Nat->Tb.Vec) (W:List Nat) (T0:Tb.Tab) (H0:Hp) (wv:V) (N:Nat) (T:Tb.Tab) (H:Hp):Prop where
 h:TabH C ex p fa ba z T H
 k:Kept m n be c T0 T
 kp:Kp [p,fa,ba] H0 H
 w:Rep (p::fa::ba::ex) H (.list (W.map Jo)) wv
 path:∃ st l k,Tb.Path m n c Jc5 W N st l k/\st N=T/\∀ t,t<=N->Names m n be (st t)
theorem Turn.few {C p fa ba:Addr}{ex:List Addr}{z:Siz}{m n be N:Nat}{c:Nat->Tb.Vec}{W:List Nat}{T0 T:Tb.Tab}{H0 H:Hp}{wv:V}(t:Turn C ex p fa ba z m n be c W T0 H0 wv N T H):N<be^m:=by
 obtain ⟨st,l,k,hp,_,hn⟩:=t.path
 refine hp.bound λ s hs x hx=>?_
 obtain ⟨i,hi⟩:=X4.mp hx
 have lt:=(Qq.mp hi).1
 rw [(hp.ok s hs).lb] at lt
 have:=(hn s hs).bl i lt
 unfold Tb.Tab.b at this
 rwa [Qg,hi] at this
theorem Turn.next {C p fa ba:Addr}{ex:List Addr}{z:Siz}{m n be N l k:Nat}{c:Nat->Tb.Vec}{W:List Nat}{T0 T:Tb.Tab}{H0 H H':Hp}{wv:V}(t:Turn C ex p fa ba z m n be c W T0 H0 wv N T H) (s:Tb.Yr m n W T l k) (h':TabH C ex p fa ba z (T.ex l k) H') (k':Kp [p,fa,ba] H H'):Turn C ex p fa ba z m n be c W T0 H0 wv (N+1) (T.ex l k) H':=by
 obtain ⟨st,l1,k1,hp,e,hn⟩:=t.path
 subst e
 obtain ⟨st',l2,k2,hp',e',same⟩:=Jr9 hp s
 refine ⟨h',Jqv t.k s,t.kp.trans k',t.w.keep (k'.mono λ b hb=>by simp only [Qf,X0,or_false] at hb ⊢;rcases hb with h | h | h<;>simp [h]),st',l2,k2,hp',e',λ u hu=>?_⟩
 by_cases y:u<=N
 . rw [same u y];exact hn u y
 . rw [show u=N+1 by omega,e']
   exact (Jqv t.k s).nm
theorem Jij {E:XK}{C p fa ba:Addr}{ex:List Addr}{z:Siz}{m n be N:Nat}{c:Nat->Tb.Vec}{W:List Nat}{T0 T:Tb.Tab}{H0 H:Hp}{wv:V}{σ:L2.St}{Q:VK}(S:Small m c Jc5) (hm:m<=18) (hn:n<=100) (t:Turn C ex p fa ba z m n be c W T0 H0 wv N T H) (s0:σ[0]? = some (some (.ref p))) (s1:σ[1]? = some (some wv))
 (q1:∀ (k:Nat) (H':Hp),k<n->0<T.rise m W k->(∀ j,j<n->0<T.rise m W j->T.f k<=T.f j)->Kp [] H H'->Q (Y0 k) H') (q2:∀ H',Tb.Last m n W T->Kp [] H H'->Q .non H'):Jji C "place_to_raise" (Jk (Jcu C)) [] E (Z1 0) (Yj (Z1 1) Jbx) σ H Q:=by
 have sh:=Jch S t.k.ok hm hn
 have hs:sizeLine=16777216:=Yau
 obtain ⟨dx,rv,h1,h2⟩:=t.h.o
 refine ⟨_,s0,p,dx,_,rfl,h1,rfl,_,s1,?_⟩
 show Jk (Jcu C) [.ref p,wv] H Q E
 refine Jew (sp:=Jcu C) (E:=E) (vs:=[wv]) (as:=[.d (.list (W.map Jo))]) t.h (by rw [sh.lf];omega) (by rw [sh.lb];omega) ⟨⟨_,rfl,Rep.sub (Rep.sub (Rep.sub t.w))⟩,trivial⟩ (P:=λ d _=>(∃ k,d=Jo k/\k<n/\0<T.rise m W k/\∀ j,j<n->0<T.rise m W j->T.f k<=T.f j)\/(d = .none/\Tb.Last m n W T)) ⟨z,T,m,n,W,rfl,sh,t.k.ok.fi,λ k a b c=>.inl ⟨k,rfl,a,b,c⟩,λ h=>.inr ⟨rfl,⟨h⟩⟩⟩ λ d n' v H' hp kp r=>?_
 rcases hp with ⟨k,rfl,a,b,c⟩ | ⟨rfl,h⟩
 . cases r
   exact q1 k H' a b c kp
 . cases r
   exact q2 H' h kp
theorem Jsa {E:XK}{C p fa ba:Addr}{ex:List Addr}{z:Siz}{m n be N k:Nat}{c:Nat->Tb.Vec}{W:List Nat}{T0 T:Tb.Tab}{H0 H:Hp}{wv:V}{σ:L2.St}{Q:VK}(S:Small m c Jc5) (hm:m<=18) (hn:n<=100) (t:Turn C ex p fa ba z m n be c W T0 H0 wv N T H) (s0:σ[0]? = some (some (.ref p))) (s2:σ[2]? = some (some (Y0 k))) (hk:k<n)
 (q1:∀ (l:Nat) (H':Hp),rf T n k m=some l->Kp [] H H'->Q (Y0 l) H') (q2:∀ H',rf T n k m=none->Kp [] H H'->Q .non H'):Jji C "row_to_free" (Jk (Jfm C)) [] E (Z1 0) (Yj (Z1 2) Jbx) σ H Q:=by
 have sh:=Jch S t.k.ok hm hn
 have hs:sizeLine=16777216:=Yau
 obtain ⟨dx,rv,h1,h2⟩:=t.h.o
 refine ⟨_,s0,p,dx,_,rfl,h1,rfl,_,s2,?_⟩
 show Jk (Jfm C) [.ref p,Y0 k] H Q E
 refine Jew (sp:=Jfm C) (E:=E) (vs:=[Y0 k]) (as:=[.d (Jo k)]) t.h (by rw [sh.lf];omega) (by rw [sh.lb];omega) ⟨⟨_,rfl,.int _⟩,trivial⟩ (P:=λ d _=>d=J0k (rf T n k m)) ⟨z,T,m,n,k,rfl,sh,hk,rfl⟩ λ d n' v H' hp kp r=>?_
 subst hp
 cases e:rf T n k m with
 | none=>
  rw [e] at r
  cases r
  exact q2 H' e kp
 | some l=>
  rw [e] at r
  cases r
  exact q1 l H' e kp
theorem Turn.keep {C p fa ba:Addr}{ex:List Addr}{z:Siz}{m n be N:Nat}{c:Nat->Tb.Vec}{W:List Nat}{T0 T:Tb.Tab}{H0 H H':Hp}{wv:V}(t:Turn C ex p fa ba z m n be c W T0 H0 wv N T H) (k:Kp [] H H'):Turn C ex p fa ba z m n be c W T0 H0 wv N T H':=
 ⟨t.h.keep k,t.k,t.kp.trans (k.mono λ a ha=>by cases ha),t.w.keep (k.mono λ a ha=>by cases ha),t.path⟩
theorem J3h {s1 s2 s3 s4 r:TS}{D:Ends}{σ:L2.St}{H:Hp}(h:Jax s1 (Jax s2 (Jax s3 s4)) { D with nx:=r D } σ H):Jax s1 (Jax s2 (Jax s3 (Jax s4 r))) D σ H:=h
theorem J0r {ts:TS}{gs:GS}{N:List Str}{as:List Vl}{vs:List V}{H:Hp}{D:Ends}{P:List Vl->Prop} [T:SV ts gs] (r:B4 Src.no [] H as vs) (hp:as.all Jhn=true) (g:gs { nx:=λ env _=>P env,rt:=λ _ _=>False,rtn:=λ _ _=>False } (Jf6 N as) 0) (k:∀ ex env σ H' n,At ⟨Src.no,[],H,[]⟩ ex env σ H' n->P env->D.nx σ H'):ts D (start N vs) H:=
 T.sv (C:=⟨Src.no,[],H,[]⟩) (G:={ nx:=λ env _=>P env,rt:=λ _ _=>False,rtn:=λ _ _=>False }) ⟨λ A h=>k _ _ _ _ _ A h,λ _ h=>h.elim,λ _ h=>h.elim,λ _ h=>h.elim,λ _ h=>h.elim,λ _ _ h=>h.elim,λ _ h=>h.elim⟩ (Jho r hp (λ a ha=>by cases ha) (λ a ha=>by cases ha) trivial) g
def Jyz (C p:Addr) (z:Siz) (T:Tb.Tab) (l k:Nat) (env:List Vl):Prop:=∃ ps:List (Addr×List Yao),env=[.pin (.ref p) (Wz C z T),.d (Jo l),.d (Jo k),.d (Y7 (T.row l)),.own2 none ps]/\ps.map (·.2)=(T.ex l k).rows.map (·.map .int)
theorem Jna {a p fa ba:Addr}{xx:List Addr}(h1:a≠p) (h2:a≠fa) (h3:a≠ba) (h4:a∉xx):a∉p::fa::ba::xx:=λ z=>by
 rcases Qf.mp z with z | z
 . exact h1 z
 . rcases Qf.mp z with z | z
   . exact h2 z
   . rcases Qf.mp z with z | z
     . exact h3 z
     . exact h4 z
theorem Jnb (ks:List Nat) (i j:Nat):(ks.map Y0).set i (Y0 j)=(ks.set i j).map Y0:=by rw [X8]
theorem Jxc {K:Qc}{C p fa ba:Addr}{xx:List Addr}{z:Siz}{T:Tb.Tab}{m n l k nn:Nat}{H H':Hp}{σ:L2.St}{Q:VK}{ex:List Addr}{env:List Vl}{rt:VK}(Y:TableOk K C) (hT:TabH C xx p fa ba z T H) (sh:Shape m n T) (hl:l<m) (hk:k<n) (A:At ⟨Src.no,[],H,[]⟩ ex env σ H' nn) (hP:Jyz C p z T l k env) (q:∀ H',TabH C xx p fa ba z (T.ex l k) H'->Kp [p,fa,ba] H H'->Q .non H') :
 Jax (Jvw K (Z1 0) (Z1 4) "rows") (Jax (Jvw K (Z1 0) (tOp (Jl4 K) (Z1 3) (Z1 2)) "divisor") (Jd3 (Jvx (Yj (tOp (Jl4 K) (Joc K (Z1 0) "bound") (Z1 1)) (Yj (tOp (Jl4 K) (Joc K (Z1 0) "free") (Z1 2)) Jbx))) (Jsp K 2 (gCons (Jn4 (Joc K (Z1 0) "free") (Z1 2) Jf1) (gCons (Jn4 (Joc K (Z1 0) "bound") (Z1 1) Jf1) gNil))))) { nx:=λ _ H'=>Q .non H',rt:=rt } σ H':=by
 obtain ⟨ps,rfl,hps⟩:=hP
 obtain ⟨e0,_⟩:=A.ev.sl 0 _ rfl
 obtain ⟨v1,e1,r1⟩:=A.ev.sl 1 _ rfl
 cases r1
 obtain ⟨v2,e2,r2⟩:=A.ev.sl 2 _ rfl
 cases r2
 obtain ⟨v3,e3,r3⟩:=A.ev.sl 3 _ rfl
 obtain ⟨a,e4,o4⟩:=A.ev.sl 4 _ rfl
 have s0:=Jm e0
 have s1:=Jm e1
 have s2:=Jm e2
 have s3:=Jm e3
 have s4:=Jm e4
 have kp:=A.kp
 have kp:Kp [] H H':=kp
 obtain ⟨dx,rv,o1,o2⟩:=hT.o
 have p1:=kp _ _ o1 (by simp)
 have f1:=kp _ _ hT.f (by simp)
 have b1:=kp _ _ hT.b (by simp)
 have oi:Jl [Vl.pin (.ref p) (Wz C z T),.d (Jo l),.d (Jo k),.d (Y7 (T.row l)),.own2 none ps] σ 4=a::ps.map (·.1):=by
  unfold Jl;rw [e4];rfl
 have new:∀ b,b∈a::ps.map (·.1)->H b=none:=λ b hb=>A.new 4 b (by rw [oi];exact hb)
 have ne:∀ b,b∈a::ps.map (·.1)->b≠p/\b≠fa/\b≠ba:=λ b hb=>by
  have h:=new b hb
  refine ⟨λ z=>?_,λ z=>?_,λ z=>?_⟩
  . rw [z,o1] at h;cases h
  . rw [z,hT.f] at h;cases h
  . rw [z,hT.b] at h;cases h
 cases r3 with
 | @list ra rvs _ re rn rz rr=>
 have rp:ra≠p:=λ z=>by rw [z,p1] at re;cases re
 have rin:=Reps.ints_inv rr
 subst rin
 have hkr:k<(T.row l).length:=by rw [sh.lw l hl];omega
 have el:atI ((T.row l).map V.int) ((k:Nat):Int)=some (.int (T.e l k)):=by
  refine Zt (by omega) ?_
  unfold Tb.Tab.e
  rw [Q5,Qj,Qd hkr,Qg,Qd hkr]
  rfl
 have lb:l<T.bd.length:=by rw [sh.lb];exact hl
 have lf:k<T.fr.length:=by rw [sh.lf];exact hk
 have eb:atI (T.bd.map Y0) ((l:Nat):Int)=some (Y0 (T.b l)):=by
  refine Zt (by omega) ?_
  unfold Tb.Tab.b
  rw [Q5,Qj,Qd lb,Qg,Qd lb]
  rfl
 have ef:atI (T.fr.map Y0) ((k:Nat):Int)=some (Y0 (T.f k)):=by
  refine Zt (by omega) ?_
  unfold Tb.Tab.f
  rw [Q5,Qj,Qd lf,Qg,Qd lf]
  rfl
 have one:(2:Nat)<=sizeLine:=by rw [Yau];decide
 refine ⟨_,s4,_,s0,p,C,dx,_,rfl,p1,Y.c,Y.n6,Xc rfl,?_⟩
 have pu:L2.putF "rows" (V.ref a) (Jm9 z T.q fa ba rv)=Jm9 z T.q fa ba (.ref a):=rfl
 rw [pu]
 refine ⟨_,s3,_,s2,ra,_,_,_,rfl,rfl,SqL.of (by rw [Jf rp];exact re),el,_,s0,p,C,dx,_,rfl,Jg,Y.c,Y.n7,Xc rfl,?_⟩
 have pu2:L2.putF "divisor" (V.int (T.e l k)) (Jm9 z T.q fa ba (.ref a))=Jm9 z (T.e l k) fa ba (.ref a):=rfl
 rw [pu2,Jgj]
 have fp:fa≠p:=Ql hT.pf
 have bp:ba≠p:=Ql hT.pb
 refine ⟨_,s0,p,C,dx,_,_,rfl,Jg,Y.c,Y.n5,rfl,_,s1,ba,_,_,_,rfl,rfl,SqL.of (by rw [Jf bp];exact b1),eb,_,s0,p,C,dx,_,_,rfl,Jg,Y.c,Y.n4,rfl,_,s2,fa,_,_,_,rfl,rfl,SqL.of (by rw [Jf fp];exact f1),ef,one,λ pt hpt=>?_⟩
 have ptp:pt≠p:=λ z=>by rw [z,Jg] at hpt;cases hpt
 have hpt':H' pt=none:=by rw [Jf ptp] at hpt;exact hpt
 have ptf:pt≠fa:=λ z=>by rw [z,f1] at hpt';cases hpt'
 have ptb:pt≠ba:=λ z=>by rw [z,b1] at hpt';cases hpt'
 refine ⟨pt,_,rfl,SqT.of Jg,rfl,_,_,rfl,_,s0,p,C,dx,_,_,rfl,by rw [Jf (Ql ptp),Jg],Y.c,Y.n4,rfl,_,s2,fa,_,_,k,rfl,rfl,by rw [Jf (Ql ptf),Jf fp];exact f1,Jao (by omega) (by rw [Qb];omega),?_⟩
 refine ⟨_,_,rfl,_,s0,p,C,dx,_,_,rfl,by rw [Jf hT.pf,Jf (Ql ptp),Jg],Y.c,Y.n5,rfl,_,s1,ba,_,_,l,rfl,rfl,by rw [Jf (Ql hT.fb),Jf (Ql ptb),Jf bp];exact b1,Jao (by omega) (by rw [Qb];omega),rfl,?_⟩
 rw [Jnb,Jnb]
 have same:∀ b o,H' b=some o->b≠p->b≠fa->b≠ba->upd (upd (upd (upd H' p (.ins C dx (Jm9 z (T.e l k) fa ba (.ref a)))) pt (.tup [Y0 (T.b l),Y0 (T.f k)])) fa (.lst ((T.fr.set k (T.b l)).map Y0))) ba (.lst ((T.bd.set l (T.f k)).map Y0)) b=some o:=λ b o e n1 n2 n3=>by
  rw [Jf n3,Jf n2,Jf (Jp e hpt'),Jf n1];exact e
 refine q _ ⟨⟨dx,.ref a,?_,?_⟩,?_,?_,hT.pf,hT.pb,hT.fb,hT.np,hT.nf,hT.nb,λ b hb=>?_⟩ λ b o e nb=>?_
 . rw [Jf hT.pb,Jf hT.pf,Jf (Ql ptp),Jg];rfl
 . have na:=ne a Qh
   refine .list (same a _ o4.h na.1 na.2.1 na.2.2) (Jna na.1 na.2.1 na.2.2 λ z=>hT.al a z (new a Qh)) (by unfold Yv;rw [Qb,Yau];have:=o4.z;omega) ?_
   have go:∀ (qs:List (Addr×List Yao)) (rs:List (List Int)),(∀ x∈qs,x∈ps)->qs.map (·.2)=rs.map (·.map .int)->Reps (p::fa::ba::xx) (upd (upd (upd (upd H' p (.ins C dx (Jm9 z (T.e l k) fa ba (.ref a)))) pt (.tup [Y0 (T.b l),Y0 (T.f k)])) fa (.lst ((T.fr.set k (T.b l)).map Y0))) ba (.lst ((T.bd.set l (T.f k)).map Y0))) (rs.map Y7) (Yv qs):=by
    intro qs
    induction qs with
    | nil=>
     intro rs _ e
     cases rs with
     | nil=>exact .nil
     | cons r rs=>cases e
    | cons x qs ih=>
     intro rs hm e
     cases rs with
     | nil=>cases e
     | cons r rs=>
      rw [Q0,Q0] at e
      injection e with e1 e2
      have hx:=hm x Qh
      obtain ⟨vs,g1,g2,g3⟩:=(o4.i x hx).h
      have nx:=ne x.1 (Qi _ (Qm.mpr ⟨x,hx,rfl⟩))
      rw [e1] at g3
      have:=Reps.ints_inv g3
      subst this
      exact .cons (.list (same _ _ g1 nx.1 nx.2.1 nx.2.2) (Jna nx.1 nx.2.1 nx.2.2 λ z=>hT.al x.1 z (new x.1 (Qi _ (Qm.mpr ⟨x,hx,rfl⟩)))) g2 (Reps.ints r)) (ih rs (λ y hy=>hm y (Qi _ hy)) e2)
   exact go ps _ (λ _ h=>h) hps
 . rw [Jf hT.fb,Jg];rfl
 . rw [Jg];rfl
 . cases e:H b with
   | none=>exact absurd e (hT.al b hb)
   | some o=>
    rw [same b o (kp b o e (by simp)) (λ z=>hT.np (by rw [<- z];exact hb)) (λ z=>hT.nf (by rw [<- z];exact hb)) (λ z=>hT.nb (by rw [<- z];exact hb))]
    exact Xp _
 . simp only [Qf,X0,or_false,not_or] at nb
   exact same b o (kp b o e (by simp)) nb.1 nb.2.1 nb.2.2
end My
namespace L2
theorem Ji6 {M:Model}{A:Yat}{E:Yan->Yap->Prop}{s:Yap}{a b:Yan}{Q:Yan->Yap->Prop}(ha:s.TypeIs a "list") (hb:s.TypeIs b "list") (hc:Yaq M A (call (.builtin "list.__iadd__") [a,b]) Q E s):Yaq M A (inplaceOp .Add a b) Q E s:=by
 have hl:typeLookup (.type "list") (dunderI "add")=pure (some (.builtin "list.__iadd__")):=J9u.lookup
 unfold inplaceOp
 refine wpAny_holding ?_
 have hfi:fillsInplaceSlot (.type "list") "add" (Operator.Add == .Add)=pure false:=by
  unfold fillsInplaceSlot
  show (typeLookup (.type "list") (dunderI "add") >>= λ fi=>pure (fi.isSome && !isSeqSlot fi))=pure false
  rw [hl];rfl
 refine wpAny_bind (wpAny_typeOf ha (wpAny_bind (wpAny_of_eq hfi ?_)))
 show Yaq M A (if false=true then _ else _) Q E s
 rw [if_neg Q2]
 refine wpAny_bind (wpAny_binaryOp1_none (nm:="add") ha hb PySem.noFill_list_add ?_)
 refine wpAny_bind (wpAny_of_eq (J7b hl (by decide +kernel)) ?_)
 exact wpAny_bind (wpAny_rule hc)
def ipL:TIp:=λ x y H Q=>∃ l b xs zs,x = .ref l/\y = .ref b/\H l=some (.lst xs)/\H b=some (.lst zs)/\xs.length+zs.length<=sizeLine/\Q (.ref l) (upd H l (.lst (xs++zs)))
theorem Jxd {X:Cx}:PIp X .Add ipL:=by
 intro pins s σ H x y v u Q I rx ru h
 obtain ⟨l,b,xs,zs,rfl,rfl,hH,hB,hz,q⟩:=h
 cases rx
 cases ru
 obtain ⟨z,its,n,r,hl,e⟩:=I.lstM hH
 obtain ⟨z2,its2,n2,r2,hl2,e2⟩:=I.lstM hB
 have hsz:its.toArray.size+its2.toArray.size<=sizeLine:=by rw [Q7,Q7];omega
 have hlong:¬ (!its.toArray.isEmpty&&J5n (its.toArray.size+its2.toArray.size))=true:=by
  rw [Jl6 hsz,Bool.and_false]
  exact Q2
 refine Ji6 (a:=.ref l) (b:=.ref b) (s:=s) ⟨_,e,rfl⟩ ⟨_,e2,rfl⟩ ?_
 refine call_meets J9u ⟨_,e,rfl⟩ F.entry_list_iadd (F.args_list_iadd_2 _ _)
  (AutoSeq1.list___iadd___list_list_0 l its.toArray n b its2.toArray n2 hlong (by rw [Q7];omega) (by omega)) ⟨e,e2,?_⟩
 refine ⟨.ref l,_,I.lset (its':=its++its2) hH e (by simp) (r.append r2) ?_,rfl,q⟩
 rw [Xj]
 omega
end L2
namespace My
open L2
class N2V (te:TE) (g:outParam GN2):Prop where
 n2:∀ {S:Src} {ex:List Addr} {env:List Vl} {σ:L2.St} {H:Hp} {n:Nat} {Q:VK} {P:List (List Yao)->Nat->Prop},Ev S ex env σ H n->g env n P ->
  (∀ (ps:List (Addr×List Yao)) (n':Nat) (a:Addr) (H':Hp),P (ps.map (·.2)) n'->Yr S n' H H'->H a=none->(∀ p∈ps,H p.1=none)->Own2 S (a::ps.map (·.1)++ex) H' none ps a->Q (.ref a) H')->te σ H Q
abbrev Jxe (gi:GN) (k:Nat) (idx ks:List Nat) (bd:GG) (gn:GN):GN2:=λ env n Q=>gi env n λ items n1=>(ks.all (λ i=>decide (i<k))=true/\items.length<=1000000)/\Jku (Jkv bd gn (Jde k idx env)) items n1 Q
instance n2v_comp {wi:TI}{gi:GN}{k:Nat}{idx ks:List Nat}{g:TG}{bd:GG}{te:TE}{gn:GN} [I:IV wi gi] [G:GV g bd ks] [A:NV te gn]  :N2V (B1 wi k idx g Jgl te) (Jxe gi k idx ks bd gn):=⟨λ {S ex env σ H n Q P} E h kk=>by
 refine I.iv E h λ items n1 J hd H1 hc s1 hrd hit l hl=>?_
 obtain ⟨⟨hk,hz⟩,hc⟩:=hc
 have hs:sizeLine=16777216:=Yau
 have E1:=Jhl (E.step s1) k idx
 have lch:l∉S.ch:=λ z=>S.dom s1.2 l z hl
 have hkk:∀ i∈ks,i<k:=λ i hi=>of_decide_eq_true (X6.mp hk i hi)
 refine ⟨λ i m σ' H2=>i<=items.length/\m=items.length-i/\∃ (n2:Nat) (ps:List (Addr×List Yao)),Jku (Jkv bd gn (Jde k idx env)) (items.drop i) n2 (λ ys n'=>P (ps.map (·.2)++ys) n')/\Kp (l::S.ch) H1 H2/\H2 l=some (.lst (Yv ps))/\ps.length<=i/\(∀ p∈ps,H1 p.1=none)/\(l::ps.map (·.1)).Nodup/\(∀ p∈ps,In2 S (l::ps.map (·.1)++ex) H2 p)/\S.inv n2 H2/\(∀ j:Nat,k<=j->σ'[j]? = (Yl k idx σ)[j]?)/\σ'.length=(Yl k idx σ).length,
  ⟨items.length,Xo _,rfl,n1,[],by simpa using hc,Kp.new hl _,Jg,Qn _,(λ p hp=>by cases hp),by simp,(λ p hp=>by cases hp),S.keep s1.2 λ b _ o' e=>Kp.new (ex:=[]) hl _ _ _ e (by simp),λ _ _=>rfl,rfl⟩,?_⟩
 rintro i m σ' H2 ⟨hi,rfl,n2,ps,hcm,kp,h2l,hvl,hno,hnd,hin,iv2,hsl,hln⟩
 have hL:∀ b∈l::ps.map (·.1),H1 b=none:=λ b hb=>by
  rcases Qf.mp hb with rfl | hb
  . exact hl
  . obtain ⟨p,hp,rfl⟩:=Qm.mp hb
    exact hno p hp
 have hL2:∀ b∈l::ps.map (·.1),H2 b≠none:=λ b hb=>by
  rcases Qf.mp hb with rfl | hb
  . rw [h2l];exact Xp _
  . obtain ⟨p,hp,rfl⟩:=Qm.mp hb
    obtain ⟨vs,h1,_⟩:=(hin p hp).h
    rw [h1];exact Xp _
 have E2:Ev S (l::ps.map (·.1)++ex) (Jde k idx env) σ' H2 n2:=Jmo E1 hL (kp.mono λ b hb=>(Qf.mp hb).elim (λ e=>by rw [e];exact Xn _ Qh) λ h=>Xi _ h) hL2 iv2 Jhm hsl hln
 have kpx:Kp (l::ps.map (·.1)++ex) H1 H2:=kp.mono λ b hb=>(Qf.mp hb).elim (λ e=>by rw [e];exact Xn _ Qh) λ h=>Xi _ (E.ch b h)
 have IT:=hit (l::ps.map (·.1)++ex) H2 E2.al λ h hh=>(Rep.adds hL (hrd h hh)).keep kpx
 rcases Xy i items.length with hlt | hge
 . refine .inr ⟨(IT.2 i items[i] (Qd hlt)).1,λ x H3 y=>?_⟩
   obtain ⟨kp3,rx⟩:=(IT.2 i items[i] (Qd hlt)).2 x H3 y
   have rx':=rx
   rw [J7s hlt] at hcm
   have st3:Yr S n2 H2 H3:=Yr.new E2.inv kp3
   have E3:=E2.step st3
   refine G.gv E3 rx' hcm λ env' σ2 ht E4 _ hs2' hl2=>tv_noTest.tv E4 (P:=λ c n'=>c=true/\n'=n2) ⟨rfl,rfl⟩ λ c n4 H4 h4 s4=>?_
   obtain ⟨rfl,rfl⟩:=h4
   have hs2:∀ j:Nat,k<=j->σ2[j]? = (Yl k idx σ)[j]?:=λ j hj=>by
    rw [hs2' j λ z=>by have:=hkk j z;omega];exact hsl j hj
   refine A.nv (E4.step s4) ht λ ds n5 a vs H5 h5 s5 ha hla hzv r5=>?_
   have s24:=st3.trans s4
   have s25:=s24.trans s5
   have k5:Kp S.ch H2 H5:=s25.1
   have h5l:H5 l=some (.lst (Yv ps)):=k5 _ _ h2l lch
   have an:a∉l::ps.map (·.1)++ex:=λ z=>(E4.step s4).al a z ha
   have ac:a∉S.ch:=λ z=>an (E4.ch a z)
   have ha1:H1 a=none:=by
    cases e:H1 a with
    | none=>rfl
    | some u=>
     have e2:=kp a u e λ z=>(Qf.mp z).elim (λ q=>an (by rw [q];exact Xn _ Qh)) ac
     rw [s24.1 a u e2 ac] at ha;cases ha
   have al:a≠l:=λ e=>an (by rw [e];exact Xn _ Qh)
   have msub:∀ b∈l::(ps++[(a,ds)]).map (·.1)++ex,b∈a::(l::ps.map (·.1)++ex):=λ b hb=>by
    simp only [Xb,Q0,J3w,J4b,Qf,Q6,X0,or_false] at hb ⊢
    rcases hb with h | (h | h) | h
    . exact .inr (.inl h)
    . exact .inr (.inr (.inl h))
    . exact .inl h
    . exact .inr (.inr (.inr h))
   have mup:∀ b∈l::ps.map (·.1)++ex,b∈l::(ps++[(a,ds)]).map (·.1)++ex:=λ b hb=>by
    simp only [Xb,Q0,J3w,J4b,Qf,Q6,X0,or_false] at hb ⊢
    rcases hb with h | h | h
    . exact .inl h
    . exact .inr (.inl (.inl h))
    . exact .inr (.inr h)
   have lin:l∈l::(ps++[(a,ds)]).map (·.1)++ex:=Xn _ Qh
   refine ⟨Yv ps,h5l,by unfold Yv;rw [Qb];omega,_,(?_:items.length-(i+1)<_),hlt,rfl,n5,ps++[(a,ds)],?_,?_,?_,?_,?_,?_,?_,?_,hs2,hl2.trans hln⟩
   . omega
   . simpa using h5
   . exact (kp.trans (k5.mono λ b hb=>Qi _ hb)).trans (Kp.at Qh _)
   . rw [Jg];unfold Yv;rw [Xb];rfl
   . rw [Xj,Uw];omega
   . intro p hp
     rcases Q6.mp hp with hp | hp
     . exact hno p hp
     . rw [Qt.mp hp];exact ha1
   . rw [Xb,<- J4b]
     refine J51.mpr ⟨hnd,by simp,?_⟩
     intro b hb c hc e
     have e':b=a:=e.trans (Qt.mp hc)
     exact an (Xn _ (e'▸hb))
   . intro p hp
     rcases Q6.mp hp with hp | hp
     . have w:=hin p hp
       obtain ⟨us,g1,g2,g3⟩:=w.h
       have pl:p.1≠l:=λ e=>(Xr.mp hnd).1 (by rw [<- e];exact Qm.mpr ⟨p,hp,rfl⟩)
       refine ⟨mup p.1 w.m,w.c,us,by rw [Jf pl];exact k5 _ _ g1 w.c,g2,?_⟩
       have q4:Reps (l::ps.map (·.1)++ex) H4 p.2 us:=g3.keep (s24.1.mono E2.ch)
       have q5:Reps (a::(l::ps.map (·.1)++ex)) H5 p.2 us:=(Reps.add ha q4).keep (s5.1.mono λ b hb=>Qi _ (E2.ch b hb))
       exact (Reps.mono msub q5).keep (Kp.at lin _)
     . rw [Qt.mp hp]
       refine ⟨?_,ac,vs,by rw [Jf al];exact hla,hzv,(Reps.mono msub r5).keep (Kp.at lin _)⟩
       simp
   . exact S.keep s25.2 λ b hb o e=>by rw [Jf (λ z=>lch (by rw [<- z];exact hb))];exact e
 . have e:i=items.length:=by omega
   subst e
   rw [J7t] at hcm
   have hcm':P (ps.map (·.2)) n2:=by simpa [Jku] using hcm
   refine .inl ⟨IT.1,kk ps n2 l H2 hcm' ⟨λ b o e nb=>kp b o (s1.1 b o e nb) λ z=>(Qf.mp z).elim (λ e2=>by rw [e2,s1.free hl] at e;cases e) nb,iv2⟩ (s1.free hl) (λ p hp=>s1.free (hno p hp)) ⟨h2l,by omega,(λ _ h=>by cases h),hnd,Xn _ Qh,lch,hin⟩⟩⟩
def Jik (i:Nat) (wi:TI) (k:Nat) (idx:List Nat) (g:TG) (tt:TT) (te:TE):TS:=Vu i wi k idx g tt te
theorem Jvb {X:Cx}{st:Stmt}{i:Nat}{wi:TI}{k:Nat}{idx:List Nat}{g:TG}{tt:TT}{te:TE}(h:PS X st (Vu i wi k idx g tt te)):PS X st (Jik i wi k idx g tt te):=h
instance sv_set2V {i:Nat}{wi:TI}{k:Nat}{idx:List Nat}{g:TG}{tt:TT}{te:TE}{gn:GN2} [E:N2V (B1 wi k idx g tt te) gn]:SV (Jik i wi k idx g tt te) (Jyo i gn):=⟨λ {C G D} O {ex env σ H n} A h=>
 show B1 wi k idx g tt te σ H (λ v H2=>D.nx (σ.set i (some v)) H2) from E.n2 A.ev h λ ps n1 a H1 h1 s1 ha hp q=>O.nx (A.own2 s1 ha hp q) (h1 ps rfl)⟩
theorem Jnc {α:Type}{turn:Yao->Nat->(List Yao->Nat->Prop)->Prop}{n:Nat}(f:α->List Yao) {e:α->Yao}:∀ (l:List α) {Q:List (List Yao)->Nat->Prop},(∀ i∈l,∀ K:List Yao->Nat->Prop,K (f i) n->turn (e i) n K)->Q (l.map f) n->Jku turn (l.map e) n Q
 | [],_,_,q=>q
 | i::l,Q,h,q=>h i Qh _ (Jnc f l (Q:=λ ys n2=>Q (f i::ys) n2) (λ j hj=>h j (Qi _ hj)) q)
theorem Jbp {n:Nat}{f:Nat->Int}(h:∀ i,i<n->0<=f i):0<=Tb.Jn n f:=by
 induction n with
 | zero=>exact J3k _
 | succ n ih=>
  have:=ih λ i hi=>h i (by omega)
  have:=h n (by omega)
  show 0<=Tb.Jn n f+f n
  omega
theorem Jex {n a:Nat}{f:Nat->Int}(ha:a<n) (h:∀ i,i<n->0<=f i):f a<=Tb.Jn n f:=by
 induction n with
 | zero=>omega
 | succ n ih=>
  have h1:=h n (by omega)
  show f a<=Tb.Jn n f+f n
  by_cases e:a=n
  . subst e
    have:=Jbp (f:=f) λ i (hi:i<a)=>h i (by omega)
    omega
  . have:=ih (by omega) λ i hi=>h i (by omega)
    omega
section
variable {nw m n:Nat}{c:Nat->Tb.Vec}{rhs:Tb.Vec}{some W:List Nat}{T T0:Tb.Tab}
noncomputable def one (ν:Nat):Nat->Int:=λ μ=>if μ = ν then 1 else 0
theorem Jci (ν μ:Nat):0<=one ν μ:=by unfold one;split<;>decide
theorem J0s {ν:Nat}:Tb.inN m n T ν↔0<T.tot m n (one ν):=by
 have b:=Jbp (n:=m) (f:=λ i=>one ν (T.b i)) λ i _=>Jci _ _
 have f:=Jbp (n:=n) (f:=λ j=>one ν (T.f j)) λ i _=>Jci _ _
 unfold Tb.Tab.tot
 constructor
 . rintro (⟨i,hi,e⟩ | ⟨j,hj,e⟩)
   . have:=Jex (f:=λ i=>one ν (T.b i)) hi λ i _=>Jci _ _
     have e1:one ν (T.b i)=1:=if_pos e
     simp only [e1] at this
     omega
   . have:=Jex (f:=λ j=>one ν (T.f j)) hj λ i _=>Jci _ _
     have e1:one ν (T.f j)=1:=if_pos e
     simp only [e1] at this
     omega
 . intro h
   have pos:∀ μ,0<one ν μ->μ = ν:=λ μ h=>by
    unfold one at h
    split at h
    . assumption
    . exact absurd h (by decide)
   by_cases c:0<Tb.Jn m (λ i=>one ν (T.b i))
   . obtain ⟨i,hi,hp⟩:=Tb.Vi c
     exact .inl ⟨i,hi,pos _ hp⟩
   . obtain ⟨j,hj,hp⟩:=Tb.Vi (n:=n) (f:=λ j=>one ν (T.f j)) (by omega)
     exact .inr ⟨j,hj,pos _ hp⟩
theorem Fit.names (F:Fit nw m n c some T0) (tot:∀ g,T.tot m n g=T0.tot m n g) (ν:Nat):Tb.inN m n T ν↔((∃ s,s<m/\ν = nw+s)\/ν∈some):=by
 rw [J0s,tot,F.tot]
 have b:=Jbp (n:=m) (f:=λ s=>one ν (nw+s)) λ i _=>Jci _ _
 have f:=Jbp (n:=n) (f:=λ j=>one ν (some.getD j 0)) λ i _=>Jci _ _
 have pos:∀ μ,0<one ν μ->μ = ν:=λ μ h=>by
  unfold one at h
  split at h
  . assumption
  . exact absurd h (by decide)
 constructor
 . intro h
   by_cases c:0<Tb.Jn m (λ s=>one ν (nw+s))
   . obtain ⟨i,hi,hp⟩:=Tb.Vi c
     exact .inl ⟨i,hi,(pos _ hp).symm⟩
   . obtain ⟨j,hj,hp⟩:=Tb.Vi (n:=n) (f:=λ j=>one ν (some.getD j 0)) (by omega)
     have e:=pos _ hp
     right
     have hl:j<some.length:=by rw [F.len];exact hj
     rw [Qg,Qd hl] at e
     rw [<- e]
     exact Xe _
 . rintro (⟨s,hs,e⟩ | e)
   . have:=Jex (f:=λ s=>one ν (nw+s)) hs λ i _=>Jci _ _
     have e1:one ν (nw+s)=1:=if_pos e.symm
     simp only [e1] at this
     omega
   . obtain ⟨j,hj⟩:=X4.mp e
     have hl:=(Qq.mp hj).1
     have:=Jex (n:=n) (a:=j) (f:=λ j=>one ν (some.getD j 0)) (by rw [<- F.len];exact hl) λ i _=>Jci _ _
     have e1:one ν (some.getD j 0)=1:=by
      rw [Qg,hj]
      exact if_pos rfl
     simp only [e1] at this
     omega
theorem Z8 {n:Nat}{f:Nat->Int}(h:∀ i,i<n->f i=0):Tb.Jn n f=0:=by rw [Tb.Jj (g:=λ _=>0) h,Tb.Wd]
theorem Jfo {j:Nat}(h:j<some.length):some.getD j 0∈some:=by rw [Qg,Qd h];exact Xe _
theorem Jlh (F:Fit nw m n c some T0) (tot:∀ g,T.tot m n g=T0.tot m n g) (h:Tb.TabOk m n c rhs T) {k:Nat}(r:Tb.Ray m n W T k):∃ j∈some,0<T.dir m k j:=by
 refine U0 λ no=>?_
 have z:∀ j∈some,T.dir m k j=0:=λ j hj=>by
  have:=Tb.Juy h r j
  rcases J4u 0 (T.dir m k j) with q | q
  . exact absurd ⟨j,hj,q⟩ no
  . omega
 have zm:∀ j,j<n->some.getD j 0∈some:=λ j hj=>Jfo (by rw [F.len];exact hj)
 have zu:∀ s,s<m->T.dir m k (nw+s)=0:=λ s hs=>by
  have e:=Tb.Jgr h r.hk s hs
  rw [tot,F.tot,Z8 (n:=n) (λ j hj=>by rw [z _ (zm j hj),Xv]),Tb.Yc (a:=s) hs (λ i hi hne=>?_)] at e
  . rw [F.cols.un s hs] at e
    have:Tb.Vq s s=1:=if_pos rfl
    rw [this] at e
    omega
  . rw [F.cols.un i hi]
    have:Tb.Vq i s=0:=if_neg (Ql hne)
    rw [this,Xu]
 have w:=Tb.Jdi (W:=W) h r.hk
 have rp:=r.rise
 rw [<- w,tot,F.tot,Z8 (n:=m) (λ s hs=>by rw [zu s hs];unfold Tb.ind;split<;>rfl),Z8 (n:=n) (λ j hj=>by rw [z _ (zm j hj)];unfold Tb.ind;split<;>rfl)] at rp
 exact absurd rp (by decide)
theorem Jnd (sh:Shape m n T) {i j:Nat}(hi:i<m) (hj:j<=n):(T.e i j).natAbs<2^4000:=by
 have h2:j<(T.row i).length:=by rw [sh.lw i hi];omega
 have h3:i<T.rows.length:=by rw [sh.lr];exact hi
 have hr:T.row i∈T.rows:=by unfold Tb.Tab.row;rw [Qg,Qd h3];exact Xe _
 refine sh.small _ hr (T.e i j) ?_
 unfold Tb.Tab.e
 rw [Qg,Qd h2]
 exact Xe _
theorem Jfp (sh:Shape m n T) (h:Tb.TabOk m n c rhs T) {k ν:Nat}(hk:k<n) (i:Tb.inN m n T ν):(T.dir m k ν).natAbs<2^4000:=by
 rcases i with ⟨i,hi,rfl⟩ | ⟨j,hj,rfl⟩
 . rw [Tb.Jus h hk hi,J9v]
   exact Jnd sh hi (by omega)
 . by_cases e:j=k
   . subst e
     rw [Tb.Jqn h hk]
     have q0:=sh.q0
     have q1:=sh.q1
     have:((T.q.natAbs:Nat):Int)<((2^4000:Nat):Int):=by
      rw [J4p (by omega)]
      exact_mod_cast q1
     exact_mod_cast this
   . rw [Tb.Jut h hk hj e]
     exact J3t _
end
theorem Jli {ns:List Int}:∀ x∈ns,((Zk ns:Nat):Int) ∣ x:=by
 have key:∀ (l:List Int) (g:Nat),(l.foldl (λ g x=>J32 g x.natAbs) g ∣ g)/\∀ x∈l,l.foldl (λ g x=>J32 g x.natAbs) g ∣ x.natAbs:=by
  intro l
  induction l with
  | nil=>exact λ g=>⟨Nat.dvd_refl _,λ x hx=>by cases hx⟩
  | cons y l ih=>
   intro g
   obtain ⟨h1,h2⟩:=ih (J32 g y.natAbs)
   refine ⟨J9w h1 (Nat.gcd_dvd_left _ _),λ x hx=>?_⟩
   rcases Qf.mp hx with rfl | hx
   . exact J9w h1 (Nat.gcd_dvd_right _ _)
   . exact h2 x hx
 intro x hx
 exact J9x.mpr ((key ns 0).2 x hx)
theorem Jlj {ns:List Int}{x:Int}(hx:x∈ns) (h:x≠0):Zk ns≠0:=λ z=>by
 have:=Jli x hx
 rw [z] at this
 exact h (Int.zero_dvd.mp this)
theorem Jvc {ns:List Int}{x:Int}(hx:x∈ns) (h:x≠0) (hb:x.natAbs<2^9000):((Zk ns:Nat):Int)<2^9000:=by
 have d:=J9x.mp (Jli x hx)
 have:=Nat.le_of_dvd (by omega) d
 have h2:Zk ns<2^9000:=by omega
 exact_mod_cast h2
theorem Jlk {ns:List Int}{x:Int}(hx:x∈ns):x/((Zk ns:Nat):Int)*((Zk ns:Nat):Int)=x:=Int.ediv_mul_cancel (Jli x hx)
end My
namespace L2
def DefI2 (K:Qc) (mg:Str->Option Yan) (x:Str) (C:Addr) (qual:Str) (st:Stmt) (ps:List Str):Prop:=∃ f fd,mg x=some (.ref C)/\Mk K C f/\FunD K "__init__" qual st f fd/\Bu K fd ps [.none]/\Bu K fd ps []
def Jne (P:Yas) (w:Yar) (K:Qc) (mg:Str->Option Yan) (base:Heap) (x:Str) (C:Addr) (k:Nat) (ps:List Str) (sp:Sp):Prop:=
 ∃ f fd,mg x=some (.ref C)/\Mk K C f/\Bu K fd ps [.none]/\Bu K fd ps []/\FnOk P w K mg base CX0 k f fd ps sp
section
variable {P:Yas}{w:Yar}{K:Qc}{mg:Str->Option Yan}{base:Heap}{C:Addr}{x m qual:Str}{st:Stmt}{ps:List Str}{k:Nat}{sp:Sp}
theorem DefI2.cal (d:DefI2 K mg x C qual st ps) (h:∀ f fd,FunD K "__init__" qual st f fd->FnOk P w K mg base CX0 k f fd ps sp):Jne P w K mg base x C k ps sp:=by
 obtain ⟨f,fd,hg,hm,F,b1,b2⟩:=d
 exact ⟨f,fd,hg,hm,b1,b2,h f fd F⟩
theorem defI2_mk {h:Heap}{f T:Addr}{oc oc':Yan}{od an od':Option Addr}{osl osl':Array (Option Yan)}{kV doc pm cdv ct:Yan}{nn:Nat}(X:K.In h) (G:h.Ns Yay mg) (aC:J7g K Yay x=some (some (.ref C)))
 (mk:J6y K C=true) (kc:Uj K (.ref C)=true)
 (a:Ui K (.ref C) "__init__" = some (some (.ref f))) (i:J4e K (.ref f)=true) (l:K.lookup f=some ⟨oc,od,.func (X3 "__init__" qual (Wi st) (Z3 st) (Jd st) (.ref T) kV doc pm an cdv ct),osl⟩) (c:J3o K cdv qual=true) (kp:Uj K (.ref f)=true)
 (lT:K.lookup T=some ⟨oc',od',.seq #[.none] nn,osl'⟩)
 (hb:∀ (T:Addr) (d kV doc pm:Yan) (an:Option Addr) (cdv ct:Yan) (us:List Yan),us.length=ps.length-1->∃ q,Ybl (X3 "__init__" qual (Wi st) (Z3 st) (Jd st) (.ref T) kV doc pm an cdv ct) ⟨us,[]⟩=Ybe (.ref T) >>= q/\q (some #[d])=pure (ps.zip (us++[d])))
 (hb2:∀ (T:Addr) (d kV doc pm:Yan) (an:Option Addr) (cdv ct:Yan) (us:List Yan),us.length=ps.length->∃ q,Ybl (X3 "__init__" qual (Wi st) (Z3 st) (Jd st) (.ref T) kV doc pm an cdv ct) ⟨us,[]⟩=Ybe (.ref T) >>= q/\q (some #[d])=pure (ps.zip us)):DefI2 K mg x C qual st ps:=by
 refine ⟨f,_,J7h X G aC,⟨mk,a,i,kc⟩,⟨⟨oc,od,.ref T,kV,doc,pm,an,cdv,ct,osl,rfl,l,c⟩,kp⟩,λ s us KX hl=>?_,λ s us KX hl=>?_⟩
 . obtain ⟨q,h1,h2⟩:=hb T .none kV doc pm an cdv ct us (by rw [Xj,Uw] at hl;omega)
   exact J9y rfl (KX _ _ lT) rfl h1 h2
 . obtain ⟨q,h1,h2⟩:=hb2 T .none kV doc pm an cdv ct us (by rw [Uu] at hl;exact hl)
   rw [Uu]
   exact J9y rfl (KX _ _ lT) rfl h1 h2
end
section
variable {X:Cx}{x:Str}{C:Addr}{e:Expr}{es:List Expr}{p pos:Pos}{t:TA}{k:Nat}{ps:List Str}{sp:Sp}
theorem J2l (c:Jne X.prog X.w X.K X.mg X.base x C k ps sp) (hr:Room (k+1) X.A) (hg:Gl X x) (ha:PA X (e::es) t) (hdb:(x==("__debug__":Str))=false:=by decide)
 (he:starEach (e::es) X.env=(false,eval e X.env)::starEach es X.env:=by rfl) (hpl:(backTo pos (starEach es X.env)).any (·.1)=false:=by rfl):PE X (.Call (.Name x p) (e::es) [] pos) (Jxy C sp [.non] E0 t):=by
 obtain ⟨f,fd,hm,M,b,_,F⟩:=c
 exact Jv0 M F hr hg hm b (.cons rfl .nil) Jta ha hdb he hpl
end
section
variable {X:Cx}{tg e:Expr}{te:TE}{K':Qc}
theorem Jnf (hK:X.K=K') (he:PE X e te):PI X tg e (Jpt K' te):=hK▸Zd he
end
noncomputable def Jey (i:Int) (n:Nat):List V:=(Qk n).map λ (k:Nat)=>V.int (i+(k:Int))
def J3i (ta:TA):TE:=λ σ H Q=>ta σ H λ vs H1=>∃ i j:Int,vs=[.int i,.int j]/\0<=i/\i<=j/\j<=1000000/\∀ l,H1 l=none->Q (.ref l) (upd H1 l (.lst (Jey i (j-i).toNat)))
theorem Jsb (i:Int):∀ (n:Nat) (us:List Yan),us.length=n->(∀ (k:Nat) (u:Yan),us[k]? = some u->∃ t,u=Us (i+((k:Nat):Int)) t)->J9 (Jey i n) us:=by
 intro n
 induction n with
 | zero=>intro us h _;rw [J7m.mp h];exact .nil
 | succ n ih=>
  intro us h hk
  have hne:us≠[]:=λ e=>by rw [e] at h;cases h
  obtain ⟨l,x,rfl⟩:∃ l x,us=l++[x]:=⟨us.dropLast,us.getLast hne,(J9a hne).symm⟩
  have hl:l.length=n:=by simpa using h
  have e:Jey i (n+1)=Jey i n++[V.int (i+n)]:=by unfold Jey;rw [J4t,Xb];rfl
  rw [e]
  obtain ⟨t,et⟩:=hk n x (by rw [<- hl];simp)
  subst et
  exact (ih l hl λ k u hu=>hk k u (by rw [Uv (by exact (Qq.mp hu).1)];exact hu)).append (.cons ⟨t,rfl⟩ .nil)
theorem Ji7 {X:Cx}{a b:Expr}{ta:TA}{p1 p2 pos1 pos2:Pos}(hc:X.calm=true) (hg1:Gl X "list") (hm1:X.mg "list" = none) (hg2:Gl X "range") (hm2:X.mg "range" = none) (ha:PA X [a,b] ta) (hs:starEach [a,b] X.env=[(false,eval a X.env),(false,eval b X.env)]:=by rfl) (hs2:starEach [b] X.env=[(false,eval b X.env)]:=by rfl)
 (hs1:starEach [.Call (.Name "range" p2) [a,b] [] pos2] X.env=[(false,eval (.Call (.Name "range" p2) [a,b] [] pos2) X.env)]:=by rfl):PE X (.Call (.Name "list" p1) [.Call (.Name "range" p2) [a,b] [] pos2] [] pos1) (J3i ta):=by
 intro pins s σ H Q I h
 refine Ybb (By I hg1 hm1 Ya7 ?_)
 refine U1 ?_ hs1 rfl
 rw [hs1]
 show Yaq _ _ (spliced ((false,eval (.Call (.Name "range" p2) [a,b] [] pos2) X.env)::[])) _ _ s
 refine J38 ?_
 refine Call_ (By I hg2 hm2 boot_range (U1 (thn (ha pos2 pins s σ H _ I h) λ us s1 ⟨vs,H1,I1,r1,q1⟩=>?_) (by rw [hs,hs2]) (by rw [hs2];rfl)))
 obtain ⟨i,j,e,b0,b1,b2,q⟩:=q1
 subst e
 cases r1 with
 | cons r rr=>
  cases rr with
  | cons r' rr=>
   cases rr
   obtain ⟨t,rfl⟩:=r
   obtain ⟨t',rfl⟩:=r'
   refine call_range_2 (J4g ?_)
   have I2:Inv X pins σ H1 { s1 with heap:=s1.heap.push { cls:=.type "range",data:=.fields #[.int i t,.int j t',.int 1 s1.toks] },toks:=s1.toks+1 }:=I1.kept λ b o e=>Qu _ e
   have hs:=Yau
   refine call_list_range (n:=(j-i).toNat) (I2.ok.hd hc) (J6s ..) (small_one (by omega) (by omega) (by omega) (by omega)) (by rw [Ybv];split<;>omega) (by omega) λ h' tk acc' c' hk hS' hacc=>?_
   refine ⟨.ref _,_,I2.laid (t':=tk) hk (Qn _) (show Y3 X.prog X.w _ h' _ (.lst (Jey i (j-i).toNat)) from ⟨by unfold Jey;simp;omega,acc'.toList,c',Jsb i _ _ (by simp [hacc.1]) (λ k u hu=>?_),by simpa using hS'⟩),rfl,q _ (I2.hok.fresh (Qn _))⟩
   obtain ⟨t,et⟩:=hacc.2 k u (by simpa using hu)
   exact ⟨t,by rw [et];simp⟩
end L2
namespace My
open L2
def Jge (ex:List Addr) (H:Hp):List Vl->L2.St->Prop
 | [],_=>True
 | w::ws,o :: σ=>SlR Src.no ex H w o/\Jge ex H ws σ
 | _::_,[]=>False
theorem Jge.len {ex:List Addr}{H:Hp}:∀ {env:List Vl}{σ:L2.St},Jge ex H env σ->env.length<=σ.length
 | [],_,_=>Xo _
 | _::_,_::_,h=>Nat.succ_le_succ h.2.len
 | _::_,[],h=>h.elim
theorem Jge.sl {ex:List Addr}{H:Hp}:∀ {env:List Vl}{σ:L2.St}(i:Nat) (w:Vl),Jge ex H env σ->env[i]? = some w->SlR Src.no ex H w (σ[i]?).join
 | [],_,_,_,_,e=>by cases e
 | _::_,_::_,0,_,h,e=>by cases e;exact h.1
 | _::_,_::_,i+1,w,h,e=>Jge.sl i w h.2 e
 | _::_,[],_,_,h,_=>h.elim
theorem Jge.ev {ex:List Addr}{H:Hp}{env:List Vl}{σ:L2.St}(h:Jge ex H env σ) (al:Alc ex H):Ev Src.no ex env σ H 0:=⟨h.len,λ i w e=>h.sl i w e,λ a ha=>(by cases ha),al,trivial⟩
theorem Jvd {S:Src}{ex:List Addr}{env:List Vl}{σ:L2.St}{H:Hp}{n i k:Nat}{wi:TI}{idx:List Nat}{g:TG}{tt:TT}{te:TE}{r:TS}{D:Ends}{gn:GN} [N:NV (B1 wi k idx g tt te) gn] (P:List Yao->Nat->Prop) (E:Ev S ex env σ H n) (h:gn env n P) (q:∀ ds n' a vs H',P ds n'->Yr S n' H H'->H a=none->H' a=some (.lst vs)->vs.length<=sizeLine->Reps (a::ex) H' ds vs->r D (σ.set i (some (.ref a))) H'):Jax (Vu i wi k idx g tt te) r D σ H:=
 show B1 wi k idx g tt te σ H (λ v H2=>r D (σ.set i (some v)) H2) from N.nv E h q
theorem Jve {S:Src}{ex:List Addr}{env:List Vl}{σ:L2.St}{H:Hp}{n i:Nat}{te:TE}{r:TS}{D:Ends}{gn:GN}{a:Addr}{vs:List V} [N:NV te gn] (P:List Yao->Nat->Prop) (E:Ev S ex env σ H n) (h:gn env n P) (hi:σ[i]? = some (some (.ref a))) (ha:H a=some (.lst vs)) (ac:a∉S.ch) (q:∀ ds n' b us H',P ds n'->Yr S n' H H'->H b=none->H' b=some (.lst us)->us.length<=sizeLine->Reps (b::ex) H' ds us->H' a=some (.lst vs)->vs.length+us.length<=sizeLine/\r D (σ.set i (some (.ref a))) (upd H' a (.lst (vs++us)))):Jax (J03 i te ipL) r D σ H:=
 ⟨_,hi,N.nv E h λ ds n' b us H' p s hb hl hz rr=>⟨a,b,vs,us,rfl,rfl,s.1 _ _ ha ac,hl,(q ds n' b us H' p s hb hl hz rr (s.1 _ _ ha ac)).1,(q ds n' b us H' p s hb hl hz rr (s.1 _ _ ha ac)).2⟩⟩
theorem Jvf {K:Qc}{S:Src}{ex:List Addr}{env:List Vl}{σ:L2.St}{H:Hp}{n i:Nat}{te:TE}{f:Str}{r:TS}{D:Ends}{gn:GN}{x C dx:Addr}{fs:List (Str×V)} [N:NV te gn] (P:List Yao->Nat->Prop) (E:Ev S ex env σ H n) (h:gn env n P) (hi:σ[i]? = some (some (.ref x))) (hx:H x=some (.ins C dx fs)) (xc:x∉S.ch) (c:Cls K C) (no:NoAttr K C f) (lf:fs.length<1000) (q:∀ ds n' b us H',P ds n'->Yr S n' H H'->H b=none->H' b=some (.lst us)->us.length<=sizeLine->Reps (b::ex) H' ds us->H' x=some (.ins C dx fs)->r D σ (upd H' x (.ins C dx (L2.putF f (.ref b) fs)))):Jax (Jvw K (Z1 i) te f) r D σ H:=
 N.nv E h λ ds n' b us H' p s hb hl hz rr=>⟨_,hi,x,C,dx,fs,rfl,s.1 _ _ hx xc,c,no,lf,q ds n' b us H' p s hb hl hz rr (s.1 _ _ hx xc)⟩
noncomputable def Z5 (U:Int) (ws:List Way):Nat->Tb.Vec:=λ ν r=>if ν < ws.length then (if (r:Int)<U then -((Je ws (ν:Int)).g.getD r 0) else (if (Je ws (ν:Int)).a=(r:Int)-U then 1 else 0)-(if (Je ws (ν:Int)).b=(r:Int)-U then 1 else 0)) else Tb.Vq (ν - ws.length) r
noncomputable def Jaf (R U:Int) (ws:List Way) (some:List Nat):Tb.Tab:=Tb.Bp ws.length (U+R).toNat (Z5 U ws) Jc5 some
noncomputable def Jez (R U:Int) (ws:List Way):Siz:=⟨(ws.length:Int),(ws.length:Int)+U,(ws.length:Int)+U+R⟩
def Jll (C:Addr):Sp:=λ vs H Q _=>∃ (ex:List Addr) (x dx:Addr) (R U:Int) (ws:List Way) (ks:List Nat) (bv sv:V),vs=[.ref x,bv,sv,.non]/\H x=some (.ins C dx [])/\Alc ex H/\x∉ex/\Rep (x::ex) H (J8 R U ws) bv/\Rep (x::ex) H (.list (ks.map Jo)) sv/\BookOk R U ws/\(∀ k∈ks,k<ws.length)/\ks.length<=100 /\
 ∀ H' fa ba,H fa=none->H ba=none->TabH C ex x fa ba (Jez R U ws) (Jaf R U ws ks) H'->Kp [x] H H'->Q .non H'
noncomputable def nI (ks:List Nat):List Int:=ks.map λ k:Nat=>(k:Int)
structure IsRing (R:Int) (ws:List Way) (ks:List Nat):Prop where
 lt:∀ k∈ks,k<ws.length
 up:ks.Pairwise (· < ·)
 one:Vx R.toNat ws (nI ks)=[nI ks]
theorem IsRing.nd {R:Int}{ws:List Way}{ks:List Nat}(h:IsRing R ws ks):ks.Nodup:=h.up.imp λ h=>Q8 h
theorem IsRing.len {R:Int}{ws:List Way}{ks:List Nat}(h:IsRing R ws ks):ks.length<=ws.length:=nodup_le _ _ h.nd h.lt
theorem Yo (f:Nat->Int):∀ n,Tb.Jn n f=((Qk n).map f).sum
 | 0=>rfl
 | n+1=>by rw [Tb.Jn,Yo f n,J4t,Xb,J7z,J4z,J9l]
theorem Jil (f:Nat->Int) (a:Nat):∀ b,Tb.Jn (a+b) f=Tb.Jn a f+Tb.Jn b λ i=>f (a+i)
 | 0=>by show Tb.Jn a f=Tb.Jn a f+0;omega
 | b+1=>by
  show Tb.Jn (a+b) f+f (a+b)=Tb.Jn a f+(Tb.Jn b (λ i=>f (a+i))+f (a+b))
  rw [Jil f a b];omega
section
variable {R U:Int}{ws:List Way}
theorem Jng {k r:Nat}(hk:k<ws.length) (hr:(r:Int)<U):Z5 U ws k r = -((Je ws (k:Int)).g.getD r 0):=by
 unfold Z5;rw [if_pos hk,if_pos hr]
theorem Jj1 {k a:Nat}(hk:k<ws.length) (hU:0<=U):Z5 U ws k (U.toNat+a)=(if (Je ws (k:Int)).a=(a:Int) then 1 else 0)-(if (Je ws (k:Int)).b=(a:Int) then 1 else 0):=by
 unfold Z5;rw [if_pos hk,if_neg (by omega),show ((U.toNat+a:Nat):Int)-U=(a:Int) by omega]
theorem Bb (m:Nat):Tb.Cols ws.length m (Z5 U ws):=⟨λ s _=>by
 funext r
 unfold Z5
 rw [if_neg (by omega),show ws.length+s-ws.length=s by omega]⟩
theorem Jim (ok:BookOk R U ws):Small (U+R).toNat (Z5 U ws) Jc5:=by
 refine ⟨λ ν r _=>?_,λ r _=>by show (0:Int).natAbs<=100;decide⟩
 unfold Z5
 split
 . rename_i h
   have wok:=ok.ways _ (Ym (Xk ν) (by omega))
   split
   . by_cases hr:r<(Je ws (ν:Int)).g.length
     . have:=wok.small _ (Xe hr)
       rw [Qg,Qd hr]
       show (-(Je ws (ν:Int)).g[r]).natAbs<=100
       omega
     . rw [Qg,Qx (by omega)]
       show (-(0:Int)).natAbs<=100
       decide
   . split<;>split<;>decide
 . unfold Tb.Vq
   split<;>decide
variable {ks:List Nat}
theorem Jqw (nd:ks.Nodup) (lt:∀ k∈ks,k<ws.length):Tb.TabOk (U+R).toNat ks.length (Z5 U ws) Jc5 (Jaf R U ws ks):=Tb.Juv (Bb _) nd lt
theorem Jo7 (nd:ks.Nodup) (lt:∀ k∈ks,k<ws.length):Names (U+R).toNat ks.length (ws.length+(U+R).toNat) (Jaf R U ws ks):=by
 refine Jm8 (Jqw nd lt) (λ i hi=>?_) (λ j hj=>?_)
 . show (Tb.Bp _ _ _ _ _).b i<_
   rw [Tb.Jes hi];omega
 . have:(Jaf R U ws ks).f j=ks.getD j 0:=rfl
   rw [this]
   have:=lt _ (Jfo hj)
   omega
theorem Jvg (lt:∀ k∈ks,k<ws.length):Fit ws.length (U+R).toNat ks.length (Z5 U ws) ks (Jaf R U ws ks):=⟨Bb _,lt,rfl,λ g=>Tb.Jr6 g⟩
theorem Jsc (nd:ks.Nodup) (lt:∀ k∈ks,k<ws.length):Kept (U+R).toNat ks.length (ws.length+(U+R).toNat) (Z5 U ws) (Jaf R U ws ks) (Jaf R U ws ks):=⟨Jqw nd lt,Jo7 nd lt,λ _=>rfl⟩
end
theorem Jvh {ks:List Nat}(nd:ks.Nodup) {nw:Nat}(lt:∀ k∈ks,k<nw) {F:Nat->Int}(z:∀ i,i<nw->i∉ks->F i=0):Tb.Jn ks.length (λ j=>F (ks.getD j 0))=Tb.Jn nw F:=by
 have e:∀ j,j<ks.length->F (ks.getD j 0)=Tb.Jn nw λ i=>(if ks.getD j 0=i then 1 else 0)*F i:=λ j hj=>by
  rw [Tb.Yc (a:=ks.getD j 0) (lt _ (Jfo hj)) (λ i _ hne=>by rw [if_neg (Ql hne),Xv]),if_pos rfl,Uz]
 rw [Tb.Jj e,Tb.Ja8]
 refine Tb.Jj λ i hi=>?_
 rw [Tb.Jjz]
 by_cases h:i∈ks
 . obtain ⟨j,hj⟩:=X4.mp h
   obtain ⟨jl,je⟩:=Qq.mp hj
   rw [Tb.Yc (a:=j) jl (λ t ht hne=>if_neg λ e=>hne (by
    have e2:ks.getD t 0=ks[t]:=by rw [Qg,Qd ht];rfl
    exact (J6o nd).mp (by rw [<- e2,e,je]))),if_pos (by rw [Qg,hj];rfl),Uz]
 . rw [z i hi h,Xu]
noncomputable abbrev Jat (wt ht:List Int):Yao:=.tuple [.tuple (wt.map .int),.tuple (ht.map .int)]
structure SumK (R U:Int) (ws:List Way) (ks:List Nat) (wt ht:List Int):Prop where
 lw:(wt.length:Int)=U
 lh:(ht.length:Int)=R
 nn:∀ x∈wt,0<=x
 bw:∀ x∈wt,x.natAbs<2^8000
 bh:∀ x∈ht,x.natAbs<2^8000
 kept:∀ k∈ks,0<=Ya ws wt ht (k:Int)
section
variable {R U:Int}{ws:List Way}{ks W:List Nat}{T:Tb.Tab}
theorem Jvi (ok:BookOk R U ws) {S:Nat->Int}{k:Nat}(hk:k<ws.length) {wt ht:List Int}{g:Int}(lw:(wt.length:Int)=U) (hw:∀ p:Nat,(p:Int)<U->g*wt.getD p 0=S p) (hh:∀ a:Nat,(a:Int)<R->g*ht.getD a 0=S (U.toNat+a)):g*Ya ws wt ht (k:Int)=Tb.Jn (U+R).toNat λ s=>Z5 U ws k s*S s:=by
 have r0:=ok.r0
 have p0:=ok.p0
 have wok:=ok.ways _ (Ym (k:=(k:Int)) (Xk k) (by omega))
 have a0:=wok.a0
 have a1:=wok.a1
 have b0:=wok.b0
 have b1:=wok.b1
 rw [show (U+R).toNat=U.toNat+R.toNat by omega,Jil]
 have e1:Tb.Jn U.toNat (λ s=>Z5 U ws k s*S s) = -(g*Jan wt (Je ws (k:Int)).g wt.length):=by
  unfold Jan
  rw [<- Yo,<- Tb.Zc,<- Tb.Wc,show wt.length=U.toNat by omega]
  refine Tb.Jj λ s hs=>?_
  rw [Jng hk (by omega),<- hw s (by omega)]
  generalize wt.getD s 0=x
  generalize (Je ws (k:Int)).g.getD s 0=y
  rw [J58,<- J3l,Xz y,J3l,Xz y]
 have e2:Tb.Jn R.toNat (λ i=>Z5 U ws k (U.toNat+i)*S (U.toNat+i))=g*ht.getD (Je ws (k:Int)).a.toNat 0-g*ht.getD (Je ws (k:Int)).b.toNat 0:=by
  have e3:∀ i,i<R.toNat->Z5 U ws k (U.toNat+i)*S (U.toNat+i)=(if i=(Je ws (k:Int)).a.toNat then S (U.toNat+i) else 0) + -(if i=(Je ws (k:Int)).b.toNat then S (U.toNat+i) else 0):=λ i hi=>by
   rw [Jj1 hk (by omega),J77]
   have h1:((Je ws (k:Int)).a=(i:Int))↔i=(Je ws (k:Int)).a.toNat:=by omega
   have h2:((Je ws (k:Int)).b=(i:Int))↔i=(Je ws (k:Int)).b.toNat:=by omega
   by_cases c1:i=(Je ws (k:Int)).a.toNat<;>by_cases c2:i=(Je ws (k:Int)).b.toNat
   . rw [if_pos (h1.mpr c1),if_pos (h2.mpr c2),if_pos c1,if_pos c2];omega
   . rw [if_pos (h1.mpr c1),if_neg (mt h2.mp c2),if_pos c1,if_neg c2];omega
   . rw [if_neg (mt h1.mp c1),if_pos (h2.mpr c2),if_neg c1,if_pos c2];omega
   . rw [if_neg (mt h1.mp c1),if_neg (mt h2.mp c2),if_neg c1,if_neg c2];omega
  rw [Tb.Jj e3,Tb.Zj,Tb.Wc,Tb.Yc (a:=(Je ws (k:Int)).a.toNat) (by omega) (λ i _ h=>if_neg h),Tb.Yc (a:=(Je ws (k:Int)).b.toNat) (by omega) (λ i _ h=>if_neg h),if_pos rfl,if_pos rfl,<- hh _ (by omega),<- hh _ (by omega)]
  omega
 rw [e1,e2]
 unfold Ya
 rw [J8d,J8d]
 omega
theorem Jo8 (be nw m n:Nat) (h:be=nw+m):(sl T m be W n).drop nw=(Qk m).map λ s=>T.share m n W (nw+s):=by
 subst h
 unfold sl
 rw [<- J4r,J9z,List.drop_append_of_le_length (by rw [Qy];exact Qn _),List.drop_eq_nil_of_le (by rw [Qy];exact Qn _),J5o,Qw]
 refine X7 λ s _=>?_
 exact Ju9 _
end
section
variable {R U:Int}{ws:List Way}{ks W:List Nat}{T:Tb.Tab}
theorem Bc {a b:Nat}(h:a<=b):2^a<=2^b:=J6d (by decide) h
theorem Jo9 {m n:Nat}(sh:Shape m n T) {j:Nat}(hj:j<n):(T.rise m W j).natAbs<2^4100:=by
 have q0:=sh.q0
 have q1:T.q.natAbs<2^4000:=by
  have:=sh.q1
  have h:((T.q.natAbs:Nat):Int)<((2^4000:Nat):Int):=by
   rw [J4p (by omega)]
   exact_mod_cast this
  exact_mod_cast h
 have mm:=sh.mm
 have s1:(Tb.Jn m λ i=>Tb.ind W (T.b i) (T.e i j)).natAbs<=m*2^4000:=Tb.Jer λ i hi=>by
  unfold Tb.ind
  split
  . exact Uc (Jnd sh hi (by omega))
  . exact Xo _
 have s2:(Tb.ind W (T.f j) T.q).natAbs<=2^4000:=by
  unfold Tb.ind
  split
  . exact Uc q1
  . exact Xo _
 have s3:m*2^4000<=20*2^4000:=J46 _ mm
 have s4:21*2^4000<2^4100:=by
  have:(2:Nat)^4100=2^100*2^4000:=by rw [<- J47]
  rw [this]
  exact J48 (by decide) (J3t _)
 unfold Tb.Tab.rise
 generalize (Tb.Jn m λ i=>Tb.ind W (T.b i) (T.e i j))=a at *
 generalize Tb.ind W (T.f j) T.q=b at *
 generalize 2^4000=c at *
 generalize 2^4100=d at *
 omega
theorem Jf8 {m n:Nat}{c:Nat->Tb.Vec}{rhs:Tb.Vec}(sh:Shape m n T) (h:Tb.TabOk m n c rhs T) {ν:Nat}(i:Tb.inN m n T ν):(T.share m n W ν).natAbs<2^4100:=by
 rcases i with ⟨i,hi,rfl⟩ | ⟨j,hj,rfl⟩
 . rw [Tb.Bl h hi]
   unfold Tb.ind
   split
   . have q0:=sh.q0
     have:=sh.q1
     have h:((T.q.natAbs:Nat):Int)<((2^4000:Nat):Int):=by
      rw [J4p (by omega)]
      exact_mod_cast this
     exact Qz (by exact_mod_cast h) (Bc (by decide))
   . exact J3t _
 . rw [Tb.Jdj h hj,J9v]
   exact Jo9 sh hj
theorem J0t {g x:Int}(g0:0<g) (h:0<=x):0<=x/g:=Int.ediv_nonneg h (by omega)
theorem Jfq {g x:Int}{b:Nat}(g0:0<g) (h:x.natAbs<b):(x/g).natAbs<b:=by
 refine U7 ?_ h
 have:=Int.natAbs_ediv_le_natAbs x g
 exact this
noncomputable def shL (R U:Int) (ws:List Way) (n:Nat) (W:List Nat) (T:Tb.Tab):List Int:=(Qk (U+R).toNat).map λ s=>T.share (U+R).toNat n W (ws.length+s)
noncomputable def shQ (R U:Int) (ws:List Way) (n:Nat) (W:List Nat) (T:Tb.Tab):List Int:=(shL R U ws n W T).map λ x=>x/((Zk (shL R U ws n W T):Nat):Int)
structure Told (R U:Int) (ws:List Way) (ks W:List Nat) (T:Tb.Tab):Prop where
 ok:BookOk R U ws
 kept:Kept (U+R).toNat ks.length (ws.length+(U+R).toNat) (Z5 U ws) (Jaf R U ws ks) T
 nd:ks.Nodup
 lt:∀ k∈ks,k<ws.length
theorem Told.m (t:Told R U ws ks W T):(U+R).toNat<=18:=by have:=t.ok.r1;have:=t.ok.p1;omega
theorem Told.n (t:Told R U ws ks W T):ks.length<=100:=by have:=nodup_le _ _ t.nd t.lt;have:=t.ok.len;omega
theorem Told.shape (t:Told R U ws ks W T):Shape (U+R).toNat ks.length T:=Jch (Jim t.ok) t.kept.ok t.m t.n
theorem Told.fit (t:Told R U ws ks W T):Fit ws.length (U+R).toNat ks.length (Z5 U ws) ks (Jaf R U ws ks):=Jvg t.lt
theorem Told.unit (t:Told R U ws ks W T) {s:Nat}(hs:s<(U+R).toNat):Tb.inN (U+R).toNat ks.length T (ws.length+s):=(t.fit.names t.kept.tot _).mpr (.inl ⟨s,hs,rfl⟩)
theorem Told.way (t:Told R U ws ks W T) {k:Nat}(hk:k∈ks):Tb.inN (U+R).toNat ks.length T k:=(t.fit.names t.kept.tot _).mpr (.inr hk)
theorem Jgw {n s:Nat}(hs:s<(U+R).toNat):T.share (U+R).toNat n W (ws.length+s)∈shL R U ws n W T:=Qm.mpr ⟨s,Xh.mpr hs,rfl⟩
theorem Jxf {n:Nat}:(shL R U ws n W T).length=(U+R).toNat:=by unfold shL;rw [Qb,Qy]
theorem Jxg {n:Nat}:(shQ R U ws n W T).length=(U+R).toNat:=by unfold shQ;rw [Qb,Jxf]
theorem Jqx {n s:Nat}(hs:s<(U+R).toNat):(shQ R U ws n W T)[s]? = some (T.share (U+R).toNat n W (ws.length+s)/((Zk (shL R U ws n W T):Nat):Int)):=by
 unfold shQ
 rw [Qj]
 conv=>lhs;rw [show shL R U ws n W T=(Qk (U+R).toNat).map (λ s=>T.share (U+R).toNat n W (ws.length+s)) from rfl]
 rw [Qj,Xl hs];rfl
theorem Jnh (t:Told R U ws ks W T) (l:Tb.Last (U+R).toNat ks.length W T) (hw:∀ s,s<(U+R).toNat->ws.length+s∉W\/∃ i,i<(U+R).toNat/\T.b i=ws.length+s) (g0:Zk (shL R U ws ks.length W T)≠0) :
 SumK R U ws ks ((shQ R U ws ks.length W T).take U.toNat) ((shQ R U ws ks.length W T).drop U.toNat)/\(∀ k∈ks,k∈W->1<=Ya ws ((shQ R U ws ks.length W T).take U.toNat) ((shQ R U ws ks.length W T).drop U.toNat) (k:Int))/\∀ p:Nat,(p:Int)<U->ws.length+p∈W->1<=((shQ R U ws ks.length W T).take U.toNat).getD p 0:=by
 have r0:=t.ok.r0
 have p0:=t.ok.p0
 have gp:(0:Int)<((Zk (shL R U ws ks.length W T):Nat):Int):=by omega
 have ql:=Jxg (R:=R) (U:=U) (ws:=ws) (n:=ks.length) (W:=W) (T:=T)
 have sm:∀ x∈shQ R U ws ks.length W T,0<=x/\x.natAbs<2^8000:=λ x hx=>by
  obtain ⟨y,hy,rfl⟩:=Qm.mp hx
  obtain ⟨s,hs,rfl⟩:=Qm.mp hy
  have hs:=Xh.mp hs
  exact ⟨J0t gp (Tb.Jux t.kept.ok l (t.unit hs)),Jfq gp (Qz (Jf8 t.shape t.kept.ok (t.unit hs)) (Bc (by decide)))⟩
 have lw:((((shQ R U ws ks.length W T).take U.toNat).length:Nat):Int)=U:=by rw [J5l,ql];omega
 have gw:∀ p:Nat,(p:Int)<U->((Zk (shL R U ws ks.length W T):Nat):Int)*((shQ R U ws ks.length W T).take U.toNat).getD p 0=T.share (U+R).toNat ks.length W (ws.length+p):=λ p hp=>by
  rw [Qg,List.getElem?_take,if_pos (by omega),Jqx (by omega),Xz]
  exact Jlk (Jgw (by omega))
 have gh:∀ a:Nat,(a:Int)<R->((Zk (shL R U ws ks.length W T):Nat):Int)*((shQ R U ws ks.length W T).drop U.toNat).getD a 0=T.share (U+R).toNat ks.length W (ws.length+(U.toNat+a)):=λ a ha=>by
  rw [Qg,J68,Jqx (by omega),Xz]
  exact Jlk (Jgw (by omega))
 have fl:∀ k∈ks,Tb.ind W k T.q<=((Zk (shL R U ws ks.length W T):Nat):Int)*Ya ws ((shQ R U ws ks.length W T).take U.toNat) ((shQ R U ws ks.length W T).drop U.toNat) (k:Int):=λ k hk=>by
  rw [Jvi t.ok (S:=λ s=>T.share (U+R).toNat ks.length W (ws.length+s)) (t.lt k hk) lw gw gh]
  exact Tb.Jj0 (Bb _) t.kept.ok l (λ s hs=>t.unit hs) hw (t.way hk)
 have q0:=t.kept.ok.qpos
 refine ⟨⟨lw,by rw [J4h,ql];omega,λ x hx=>(sm x (J90 hx)).1,λ x hx=>(sm x (J90 hx)).2,λ x hx=>(sm x (List.mem_of_mem_drop hx)).2,λ k hk=>?_⟩,λ k hk kw=>?_,λ p hp pw=>?_⟩
 . have:=fl k hk
   have i0:0<=Tb.ind W k T.q:=by unfold Tb.ind;split<;>omega
   have:=Int.le_trans i0 this
   exact J6e this gp
 . have:=fl k hk
   unfold Tb.ind at this
   rw [if_pos kw] at this
   have:0<((Zk (shL R U ws ks.length W T):Nat):Int)*Ya ws ((shQ R U ws ks.length W T).take U.toNat) ((shQ R U ws ks.length W T).drop U.toNat) (k:Int):=by omega
   exact J6f this gp
 . have e:=gw p hp
   rcases hw p (by omega) with h | ⟨i,hi,eb⟩
   . exact absurd pw h
   . rw [<- eb,Tb.Bl t.kept.ok hi,eb] at e
     unfold Tb.ind at e
     rw [if_pos pw] at e
     have:0<((Zk (shL R U ws ks.length W T):Nat):Int)*((shQ R U ws ks.length W T).take U.toNat).getD p 0:=by omega
     exact J6f this gp
end
section
variable {R U:Int}{ws:List Way}{ks W:List Nat}{T:Tb.Tab}
theorem Jqy (t:Told R U ws ks W T) (l:Tb.Last (U+R).toNat ks.length W T) (hw:∀ s,s<(U+R).toNat->ws.length+s∉W\/∃ i,i<(U+R).toNat/\T.b i=ws.length+s) (h:(∃ k∈ks,k∈W)\/∃ s,s<(U+R).toNat/\ws.length+s∈W):∃ s,s<(U+R).toNat/\T.share (U+R).toNat ks.length W (ws.length+s)≠0:=by
 have q0:=t.kept.ok.qpos
 rcases h with ⟨k,hk,kw⟩ | ⟨s,hs,sw⟩
 . refine U0 λ no=>?_
   have z:∀ s,s<(U+R).toNat->T.share (U+R).toNat ks.length W (ws.length+s)=0:=λ s hs=>U0 λ c=>no ⟨s,hs,c⟩
   have f:=Tb.Jj0 (Bb (U:=U) (ws:=ws) _) t.kept.ok l (λ s hs=>t.unit hs) hw (t.way hk)
   rw [Z8 λ s hs=>by rw [z s hs,Xu]] at f
   unfold Tb.ind at f
   rw [if_pos kw] at f
   omega
 . refine ⟨s,hs,?_⟩
   rcases hw s hs with h | ⟨i,hi,e⟩
   . exact absurd sw h
   . rw [<- e,Tb.Bl t.kept.ok hi,e]
     unfold Tb.ind
     rw [if_pos sw]
     omega
theorem Jin (t:Told R U ws ks W T) {s:Nat}(hs:s<(U+R).toNat) (h:T.share (U+R).toNat ks.length W (ws.length+s)≠0):Zk (shL R U ws ks.length W T)≠0/\((Zk (shL R U ws ks.length W T):Nat):Int)<2^9000:=
 ⟨Jlj (Jgw hs) h,Jvc (Jgw hs) h (Qz (Jf8 t.shape t.kept.ok (t.unit hs)) (Bc (by decide)))⟩
structure RoundK (R U:Int) (ws:List Way) (ks:List Nat) (cs:List Int):Prop where
 ro:RoundOk R ws cs
 sub:∀ k:Nat,cs.getD k 0≠0->k∈ks
 gn:∀ p:Nat,(p:Int)<U->0<=(Jbj ws cs p).sum
 bd:∀ c∈cs,c.natAbs<2^8000
 ne:∃ k∈ks,0<cs.getD k 0
noncomputable def drL (ws:List Way) (m:Nat) (T:Tb.Tab) (k:Nat):List Int:=(Qk ws.length).map (T.dir m k)
noncomputable def drQ (ws:List Way) (m:Nat) (T:Tb.Tab) (k:Nat):List Int:=(drL ws m T k).map λ x=>x/((Zk (drL ws m T k):Nat):Int)
theorem Jlm {m k:Nat}:(drQ ws m T k).length=ws.length:=by unfold drQ drL;rw [Qb,Qb,Qy]
theorem Jln {m k i:Nat}(h:i<ws.length):T.dir m k i∈drL ws m T k:=Qm.mpr ⟨i,Xh.mpr h,rfl⟩
theorem Jqz {m k i:Nat}(h:i<ws.length):(drQ ws m T k)[i]? = some (T.dir m k i/((Zk (drL ws m T k):Nat):Int)):=by
 unfold drQ
 rw [Qj]
 conv=>lhs;rw [show drL ws m T k=(Qk ws.length).map (T.dir m k) from rfl]
 rw [Qj,Xl h];rfl
theorem Jxh {m k i:Nat}(h:i<ws.length):((Zk (drL ws m T k):Nat):Int)*(drQ ws m T k).getD i 0=T.dir m k i:=by
 rw [Qg,Jqz h,Xz]
 exact Jlk (Jln h)
theorem Jni (ok:BookOk R U ws) (cs:List Int):∀ i,i<=ws.length->Tb.Jn R.toNat (λ r=>W2 ws cs i (r:Nat))=0
 | 0,_=>Tb.Wd _
 | i+1,hi=>by
  have wok:=ok.ways _ (Ym (k:=(i:Int)) (Xk i) (by omega))
  have r0:=ok.r0
  have a0:=wok.a0
  have a1:=wok.a1
  have b0:=wok.b0
  have b1:=wok.b1
  have e:∀ r,r<R.toNat->W2 ws cs (i+1) (r:Nat)=W2 ws cs i (r:Nat)+(-(if r=(Je ws (i:Nat)).a.toNat then cs.getD i 0 else 0)+(if r=(Je ws (i:Nat)).b.toNat then cs.getD i 0 else 0)):=λ r hr=>by
   rw [W2]
   have h1:((Je ws (i:Nat)).a=((r:Nat):Int))↔r=(Je ws (i:Nat)).a.toNat:=by omega
   have h2:((Je ws (i:Nat)).b=((r:Nat):Int))↔r=(Je ws (i:Nat)).b.toNat:=by omega
   by_cases c1:r=(Je ws (i:Nat)).a.toNat<;>by_cases c2:r=(Je ws (i:Nat)).b.toNat
   . rw [if_pos (h1.mpr c1),if_pos (h2.mpr c2),if_pos c1,if_pos c2];omega
   . rw [if_pos (h1.mpr c1),if_neg (mt h2.mp c2),if_pos c1,if_neg c2];omega
   . rw [if_neg (mt h1.mp c1),if_pos (h2.mpr c2),if_neg c1,if_pos c2];omega
   . rw [if_neg (mt h1.mp c1),if_neg (mt h2.mp c2),if_neg c1,if_neg c2];omega
  rw [Tb.Jj e,Tb.Zj,Jni ok cs i (by omega),Tb.Zj,Tb.Wc,Tb.Yc (a:=(Je ws (i:Nat)).a.toNat) (by omega) (λ r _ h=>if_neg h),Tb.Yc (a:=(Je ws (i:Nat)).b.toNat) (by omega) (λ r _ h=>if_neg h),if_pos rfl,if_pos rfl]
  omega
theorem Jnj {n:Nat}{f:Nat->Int}(h:∀ i,i<n->0<=f i) (z:Tb.Jn n f=0) {i:Nat}(hi:i<n):f i=0:=by
 have:=Jex hi h
 have:=h i hi
 omega
theorem Jj2 (t:Told R U ws ks W T) {k:Nat}(hk:k<ks.length) {r:Nat}(hr:r<(U+R).toNat):T.dir (U+R).toNat k (ws.length+r) = -Tb.Jn ws.length λ i=>T.dir (U+R).toNat k i*Z5 U ws i r:=by
 have e:=Tb.Jgr t.kept.ok hk r hr
 have ze:∀ i,i<ws.length->i∉ks->T.dir (U+R).toNat k i*Z5 U ws i r=0:=λ i hi hn=>by
  have no:¬ Tb.inN (U+R).toNat ks.length T i:=λ z=>by
   rcases (t.fit.names t.kept.tot i).mp z with ⟨s,_,e⟩ | h
   . omega
   . exact hn h
  have:T.dir (U+R).toNat k i=0:=by
   unfold Tb.Tab.dir
   rw [if_neg (λ z=>no (.inr ⟨k,hk,z.symm⟩)),Z8 λ j hj=>if_neg λ z=>no (.inl ⟨j,hj,z⟩)]
   rfl
  rw [this,Xv]
 rw [t.kept.tot,t.fit.tot,Jvh t.nd t.lt ze,Tb.Yc (a:=r) hr (λ s hs hne=>?_)] at e
 . rw [(Bb (U:=U) (ws:=ws) (U+R).toNat).un r hr] at e
   have:Tb.Vq r r=1:=if_pos rfl
   rw [this] at e
   omega
 . rw [(Bb (U:=U) (ws:=ws) (U+R).toNat).un s hs]
   have:Tb.Vq s r=0:=if_neg (Ql hne)
   rw [this,Xu]
theorem Jio (t:Told R U ws ks W T) {k:Nat}(ry:Tb.Ray (U+R).toNat ks.length W T k):RoundK R U ws ks (drQ ws (U+R).toNat T k)/\(∀ i,i<ws.length->0<T.dir (U+R).toNat k i->1<=(drQ ws (U+R).toNat T k).getD i 0)/\(∀ p:Nat,(p:Int)<U->0<T.dir (U+R).toNat k (ws.length+p)->1<=(Jbj ws (drQ ws (U+R).toNat T k) p).sum)/\∃ ν∈W,Tb.inN (U+R).toNat ks.length T ν/\0<T.dir (U+R).toNat k ν:=by
 have r0:=t.ok.r0
 have p0:=t.ok.p0
 obtain ⟨j,hj,jp⟩:=Jlh t.fit t.kept.tot t.kept.ok ry
 have jl:=t.lt j hj
 have g0:=Jlj (Jln (m:=(U+R).toNat) (T:=T) (k:=k) jl) (by omega)
 have gp:(0:Int)<((Zk (drL ws (U+R).toNat T k):Nat):Int):=by omega
 have mul:=λ {i:Nat} (h:i<ws.length)=>Jxh (m:=(U+R).toNat) (T:=T) (k:=k) h
 have dn:∀ i,0<=T.dir (U+R).toNat k i:=λ i=>Tb.Juy t.kept.ok ry i
 have no:∀ i,i<ws.length->i∉ks->T.dir (U+R).toNat k i=0:=λ i hi hn=>by
  have no:¬ Tb.inN (U+R).toNat ks.length T i:=λ z=>by
   rcases (t.fit.names t.kept.tot i).mp z with ⟨s,_,e⟩ | h
   . omega
   . exact hn h
  unfold Tb.Tab.dir
  rw [if_neg (λ z=>no (.inr ⟨k,ry.hk,z.symm⟩)),Z8 λ j hj=>if_neg λ z=>no (.inl ⟨j,hj,z⟩)]
  rfl
 have purse:∀ p:Nat,(p:Int)<U->T.dir (U+R).toNat k (ws.length+p)=((Zk (drL ws (U+R).toNat T k):Nat):Int)*(Jbj ws (drQ ws (U+R).toNat T k) p).sum:=λ p hp=>by
  rw [Jj2 t ry.hk (by omega)]
  unfold Jbj
  rw [<- Yo,<- Tb.Zc,<- Tb.Wc]
  refine Tb.Jj λ i hi=>?_
  rw [Jng hi hp,<- mul hi,J45,Int.neg_neg,J3l]
 have room:∀ a:Nat,a<R.toNat->T.dir (U+R).toNat k (ws.length+(U.toNat+a))=((Zk (drL ws (U+R).toNat T k):Nat):Int)*W2 ws (drQ ws (U+R).toNat T k) ws.length (a:Nat):=λ a ha=>by
  rw [Jj2 t ry.hk (by omega),Jek,<- Yo,<- Tb.Zc,<- Tb.Wc]
  refine Tb.Jj λ i hi=>?_
  rw [Jj1 hi (by omega),<- mul hi]
  unfold Jcc
  generalize (drQ ws (U+R).toNat T k).getD i 0=x
  generalize (if (Je ws ((i:Nat):Int)).a=((a:Nat):Int) then (1:Int) else 0)=y
  generalize (if (Je ws ((i:Nat):Int)).b=((a:Nat):Int) then (1:Int) else 0)=z
  rw [<- J45,Int.neg_sub,J3l]
 have bal:∀ a:Nat,a<R.toNat->W2 ws (drQ ws (U+R).toNat T k) ws.length (a:Nat)=0:=λ a ha=>
  Jnj (f:=λ a=>W2 ws (drQ ws (U+R).toNat T k) ws.length (a:Nat)) (λ a ha=>J6e (by rw [<- room a ha];exact dn _) gp) (Jni t.ok _ _ (Qn _)) ha
 have at0:∀ i,i<ws.length->0<=(drQ ws (U+R).toNat T k).getD i 0:=λ i hi=>J6e (by rw [mul hi];exact dn _) gp
 have ps:∀ i,i<ws.length->0<T.dir (U+R).toNat k i->1<=(drQ ws (U+R).toNat T k).getD i 0:=λ i hi h=>by
  rw [<- mul hi] at h
  exact J6f h gp
 have memi:∀ c∈drQ ws (U+R).toNat T k,∃ i,i<ws.length/\c=(drQ ws (U+R).toNat T k).getD i 0/\c=T.dir (U+R).toNat k i/((Zk (drL ws (U+R).toNat T k):Nat):Int):=λ c hc=>by
  obtain ⟨i,hi⟩:=X4.mp hc
  have il:=(Qq.mp hi).1
  rw [Jlm] at il
  refine ⟨i,il,by rw [Qg,hi];rfl,?_⟩
  rw [Jqz il] at hi
  exact (Xf hi).symm
 refine ⟨⟨⟨Jlm,λ c hc=>?_,bal⟩,λ i hi=>?_,λ p hp=>?_,λ c hc=>?_,j,hj,ps j jl jp⟩,ps,λ p hp h=>?_,?_⟩
 . obtain ⟨i,il,e,_⟩:=memi c hc
   rw [e];exact at0 i il
 . refine U0 λ hn=>hi ?_
   by_cases il:i<ws.length
   . have:=mul il
     rw [no i il hn] at this
     rcases J91.mp this with z | z
     . omega
     . exact z
   . rw [Qg,Qx (by rw [Jlm];omega)];rfl
 . exact J6e (by rw [<- purse p hp];exact dn _) gp
 . obtain ⟨i,il,_,e⟩:=memi c hc
   rw [e]
   by_cases h:i∈ks
   . exact Jfq gp (Qz (Jfp t.shape t.kept.ok ry.hk (t.way h)) (Bc (by decide)))
   . rw [no i il h,J92];exact J3t _
 . rw [purse p hp] at h
   exact J6f h gp
 . have w:=Tb.Jdi (W:=W) t.kept.ok ry.hk
   have rp:=ry.rise
   rw [<- w] at rp
   have pos:∀ ν,0<Tb.ind W ν (T.dir (U+R).toNat k ν)->ν∈W/\0<T.dir (U+R).toNat k ν:=λ ν h=>by
    unfold Tb.ind at h
    split at h
    . exact ⟨by assumption,h⟩
    . exact absurd h (by decide)
   unfold Tb.Tab.tot at rp
   dsimp only at rp
   by_cases c:0<Tb.Jn (U+R).toNat (λ i=>Tb.ind W (T.b i) (T.dir (U+R).toNat k (T.b i)))
   . obtain ⟨i,hi,hp⟩:=Tb.Vi c
     obtain ⟨a,b⟩:=pos _ hp
     exact ⟨_,a,.inl ⟨i,hi,rfl⟩,b⟩
   . obtain ⟨j,hj,hp⟩:=Tb.Vi (n:=ks.length) (f:=λ j=>Tb.ind W (T.f j) (T.dir (U+R).toNat k (T.f j))) (by omega)
     obtain ⟨a,b⟩:=pos _ hp
     exact ⟨_,a,.inr ⟨j,hj,rfl⟩,b⟩
end
def Jip:GSp:=λ as n Q=>∃ (R U:Int) (ws:List Way) (ks:List Nat),as=[.d (J8 R U ws),.d (.list (ks.map Jo))]/\BookOk R U ws/\IsRing R ws ks/\Q (.bool true) n
def Jgx (C:Addr):Sp:=λ vs H Q _=>∃ (ex:List Addr) (R U:Int) (ws:List Way) (ks:List Nat) (bv sv:V),vs=[bv,sv]/\Alc ex H/\Rep ex H (J8 R U ws) bv/\Rep ex H (.list (ks.map Jo)) sv/\BookOk R U ws/\IsRing R ws ks /\
 ∀ H' p fa ba,H p=none->H fa=none->H ba=none->TabH C ex p fa ba (Jez R U ws) (Jaf R U ws ks) H'->Kp [] H H'->Q (.ref p) H'
def Jdk:GSp:=λ as n Q=>∃ (R U:Int) (ws:List Way) (ks:List Nat) (k:Nat),as=[.d (J8 R U ws),.d (.list (ks.map Jo)),.d (Jo k)]/\BookOk R U ws/\IsRing R ws ks/\k∈ks /\
 (∀ wt ht,SumK R U ws ks wt ht->1<=Ya ws wt ht (k:Int)->Q (.tuple [.str "sum",Jat wt ht]) n)/\∀ cs,RoundK R U ws ks cs->1<=cs.getD k 0->Q (.tuple [.str "round",.tuple (cs.map .int)]) n
section
variable {R U:Int}{ws:List Way}{ks W W':List Nat}{T T':Tb.Tab}{C p fa ba:Addr}{ex:List Addr}{H:Hp}{wv:V}{Q:VK}{E:XK}
theorem Jgy (ok:BookOk R U ws):Jez R U ws=⟨((ws.length:Nat):Int),((ws.length+U.toNat:Nat):Int),((ws.length+(U+R).toNat:Nat):Int)⟩:=by
 have r0:=ok.r0
 have p0:=ok.p0
 unfold Jez
 congr 1<;>omega
theorem Told.zero (ok:BookOk R U ws) (nd:ks.Nodup) (lt:∀ k∈ks,k<ws.length):Told R U ws ks W (Jaf R U ws ks):=⟨ok,Jsc nd lt,nd,lt⟩
theorem Told.self (t:Told R U ws ks W T):Kept (U+R).toNat ks.length (ws.length+(U+R).toNat) (Z5 U ws) T T:=⟨t.kept.ok,t.kept.nm,λ _=>rfl⟩
theorem Told.fitT (t:Told R U ws ks W T):Fit ws.length (U+R).toNat ks.length (Z5 U ws) ks T:=⟨Bb _,t.lt,rfl,λ g=>by rw [t.kept.tot];exact t.fit.tot g⟩
theorem Told.next (t:Told R U ws ks W T) (k:Kept (U+R).toNat ks.length (ws.length+(U+R).toNat) (Z5 U ws) T T'):Told R U ws ks W' T':=⟨t.ok,⟨k.ok,k.nm,λ g=>by rw [k.tot,t.kept.tot]⟩,t.nd,t.lt⟩
theorem Jj3 (t:Told R U ws ks W T) (hT:TabH C ex p fa ba (Jez R U ws) T H) (hw:Rep (p::fa::ba::ex) H (.list (W.map Jo)) wv)
 (qr:∀ H' T' k v,TabH C ex p fa ba (Jez R U ws) T' H'->Told R U ws ks W T'->Tb.Ray (U+R).toNat ks.length W T' k->Kp [p,fa,ba] H H'->Rep ex H' (.tuple ((drQ ws (U+R).toNat T' k).map .int)) v->Q v H')
 (ql:∀ H' T',TabH C ex p fa ba (Jez R U ws) T' H'->Told R U ws ks W T'->Tb.Last (U+R).toNat ks.length W T'->Kp [p,fa,ba] H H'->Q .non H'):Jii C [.ref p,wv] H Q E:=by
 rw [Jgy t.ok] at hT
 have wl:=t.ok.len
 have m18:=t.m
 refine ⟨ex,p,fa,ba,ws.length,ws.length+U.toNat,ws.length+(U+R).toNat,(U+R).toNat,ks.length,Z5 U ws,T,W,ks,wv,rfl,hT,hw,Jim t.ok,t.m,t.n,by omega,by omega,t.self,t.fitT,λ H' T' k v h1 h2 h3 h4 h5=>?_,λ H' T' h1 h2 h3 h4=>?_⟩
 . refine qr H' T' k v (by rw [Jgy t.ok];exact h1) (t.next h2) h3 h4 ?_
   unfold drQ drL
   rw [Qw]
   exact h5
 . exact ql H' T' (by rw [Jgy t.ok];exact h1) (t.next h2) h3 h4
theorem Jnk (t:Told R U ws ks W T) (hT:TabH C ex p fa ba (Jez R U ws) T H) (hw:Rep ex H (.list (W.map Jo)) wv) (wlt:∀ w∈W,w<ws.length+(U+R).toNat) {s:Nat}(hs:s<(U+R).toNat) (hne:T.share (U+R).toNat ks.length W (ws.length+s)≠0)
 (q:∀ H' v,Kp [] H H'->Rep ex H' (Jat ((shQ R U ws ks.length W T).take U.toNat) ((shQ R U ws ks.length W T).drop U.toNat)) v->Q v H'):Jk (Bx C) [.ref p,wv] H Q E:=by
 have hsz:sizeLine=16777216:=Yau
 have sh:=t.shape
 have wl:=t.ok.len
 have m18:=t.m
 have n100:=t.n
 obtain ⟨g0,g1⟩:=Jin t hs hne
 have sl0:(sl T (U+R).toNat (ws.length+(U+R).toNat) W ks.length).drop ws.length=shL R U ws ks.length W T:=Jo8 _ _ _ _ rfl
 have hT':=hT
 rw [Jgy t.ok] at hT'
 refine Jew (sp:=Bx C) (vs:=[wv]) (as:=[.d (.list (W.map Jo))]) hT' (by rw [sh.lf];omega) (by rw [sh.lb];omega) ⟨⟨_,rfl,hw⟩,trivial⟩ (P:=λ d _=>d=Jat ((shQ R U ws ks.length W T).take U.toNat) ((shQ R U ws ks.length W T).drop U.toNat)) ⟨T,(U+R).toNat,ks.length,ws.length,ws.length+U.toNat,ws.length+(U+R).toNat,W,rfl,sh,t.kept.nm,wlt,by omega,by omega,by omega,?_,?_,?_⟩ λ d n' v H' hp kp r=>?_
 . rw [sl0];exact g0
 . rw [sl0];exact g1
 . rw [sl0,show ws.length+U.toNat-ws.length=U.toNat by omega]
   rfl
 . subst hp
   exact q H' v kp r
end
def Je0:GSp:=λ as n Q=>as=[.tape]/\n<2^39/\∀ (r:Int) (m:Nat),-97<=r->r<=97->m<=n+4->Q (.int r) m
instance scal_gainVW:Scal Je0:=⟨λ {as n P} h=>⟨h.1,h.2.1,λ r m r0 r1 hm=>⟨rfl,h.2.2 r m r0 r1 hm⟩⟩⟩
def Jcv:GSp:=λ as n Q=>∃ U:Int,as=[.tape,.d (.int U)]/\n<2^38/\0<=U/\U<=6/\∀ (f:Nat->Int) (m:Nat),(∀ i,i<U.toNat->-97<=f i/\f i<=97)->m<=n+24->Q (Jfg U f) m
def Jdl:GSn:=λ as n Q=>∃ R U:Int,as=[.tape,.d (.int R),.d (.int U)]/\n<2^37/\(1<=R/\R<=12)/\(1<=U/\U<=6)/\∀ (ws:List Way) (m:Nat),(∀ w∈ws,WayOk R U w)->ws.length<=24->m<=n+80->Q (ws.map Y6) m
structure RdB (R:Int) (ws:List Way) (cs:List Int):Prop where
 ro:RoundOk R ws cs
 bd:∀ c∈cs,c.natAbs<2^8000
 ne:∃ k,0<cs.getD k 0
theorem RoundK.b {R U:Int}{ws:List Way}{ks:List Nat}{cs:List Int}(h:RoundK R U ws ks cs):RdB R ws cs:=⟨h.ro,h.bd,h.ne.imp λ _ h=>h.2⟩
noncomputable def toN (r:List Int):List Nat:=r.map J6g
theorem Jxi {r:List Int}(h:∀ k∈r,0<=k):(toN r).map Jo=r.map .int:=by
 unfold toN
 rw [Qw]
 refine X7 λ k hk=>?_
 show Qv ((k.toNat:Nat):Int) = .int k
 rw [U9 (h k hk)]
theorem J0u {r:List Int}(h:∀ k∈r,0<=k):nI (toN r)=r:=by
 unfold nI toN
 rw [Qw]
 conv=>rhs;rw [<- List.map_id r]
 refine X7 λ k hk=>?_
 exact U9 (h k hk)
noncomputable def evI (ws:List Way):List Int:=(Qk ws.length).map λ i:Nat=>(i:Int)
theorem J0v (ws:List Way):(evI ws).Pairwise (· < ·):=by
 unfold evI
 rw [J6c]
 exact J7y.imp λ h=>by exact_mod_cast h
theorem Jlo {ws:List Way}:∀ k∈evI ws,0<=k/\k<ws.length:=λ k hk=>by
 obtain ⟨i,hi,rfl⟩:=Qm.mp hk
 have:=Xh.mp hi
 omega
section
variable {R U:Int}{ws:List Way}{ks W:List Nat}{T:Tb.Tab}
theorem Jnl (ok:BookOk R U ws) {wt ht cs:List Int}(lw:(wt.length:Int)=U) (ro:RoundOk R ws cs):Tb.Jn ws.length (λ i=>cs.getD i 0*Ya ws wt ht (i:Nat)) = -Tb.Jn U.toNat λ p=>wt.getD p 0*(Jbj ws cs p).sum:=by
 have p0:=ok.p0
 have r0:=ok.r0
 have e:∀ i,i<ws.length->cs.getD i 0*Ya ws wt ht (i:Nat)=Tb.Jn R.toNat (λ r=>ht.getD r 0*(cs.getD i 0*(Jcc (Je ws (i:Nat)).a (r:Nat)-Jcc (Je ws (i:Nat)).b (r:Nat)))) + -Tb.Jn U.toNat (λ p=>wt.getD p 0*(cs.getD i 0*(Je ws (i:Nat)).g.getD p 0)):=λ i hi=>by
  have wok:=ok.ways _ (Ym (k:=(i:Int)) (Xk i) (by omega))
  have a0:=wok.a0
  have a1:=wok.a1
  have b0:=wok.b0
  have b1:=wok.b1
  have e1:Tb.Jn R.toNat (λ r=>ht.getD r 0*(cs.getD i 0*(Jcc (Je ws (i:Nat)).a (r:Nat)-Jcc (Je ws (i:Nat)).b (r:Nat))))=cs.getD i 0*(ht.getD (Je ws (i:Nat)).a.toNat 0-ht.getD (Je ws (i:Nat)).b.toNat 0):=by
   have e2:∀ r,r<R.toNat->ht.getD r 0*(cs.getD i 0*(Jcc (Je ws (i:Nat)).a (r:Nat)-Jcc (Je ws (i:Nat)).b (r:Nat)))=cs.getD i 0*((if r=(Je ws (i:Nat)).a.toNat then ht.getD r 0 else 0) + -(if r=(Je ws (i:Nat)).b.toNat then ht.getD r 0 else 0)):=λ r hr=>by
    rw [Ur]
    congr 1
    unfold Jcc
    have h1:((Je ws (i:Nat)).a=((r:Nat):Int))↔r=(Je ws (i:Nat)).a.toNat:=by omega
    have h2:((Je ws (i:Nat)).b=((r:Nat):Int))↔r=(Je ws (i:Nat)).b.toNat:=by omega
    by_cases c1:r=(Je ws (i:Nat)).a.toNat<;>by_cases c2:r=(Je ws (i:Nat)).b.toNat
    . rw [if_pos (h1.mpr c1),if_pos (h2.mpr c2),if_pos c1,if_pos c2];omega
    . rw [if_pos (h1.mpr c1),if_neg (mt h2.mp c2),if_pos c1,if_neg c2];omega
    . rw [if_neg (mt h1.mp c1),if_pos (h2.mpr c2),if_neg c1,if_pos c2];omega
    . rw [if_neg (mt h1.mp c1),if_neg (mt h2.mp c2),if_neg c1,if_neg c2];omega
   rw [Tb.Jj e2,Tb.Zc,Tb.Zj,Tb.Wc,Tb.Yc (a:=(Je ws (i:Nat)).a.toNat) (by omega) (λ r _ h=>if_neg h),Tb.Yc (a:=(Je ws (i:Nat)).b.toNat) (by omega) (λ r _ h=>if_neg h),if_pos rfl,if_pos rfl]
   rfl
  have e3:Tb.Jn U.toNat (λ p=>wt.getD p 0*(cs.getD i 0*(Je ws (i:Nat)).g.getD p 0))=cs.getD i 0*Jan wt (Je ws (i:Nat)).g wt.length:=by
   unfold Jan
   rw [<- Yo,<- Tb.Zc,show wt.length=U.toNat by omega]
   exact Tb.Jj λ p _=>Ur _ _ _
  rw [e1,e3]
  unfold Ya
  rw [J8d]
  omega
 rw [Tb.Jj e,Tb.Zj,Tb.Wc,Tb.Ja8 ws.length R.toNat,Tb.Ja8 ws.length U.toNat]
 have z:Tb.Jn R.toNat (λ r=>Tb.Jn ws.length λ i=>ht.getD r 0*(cs.getD i 0*(Jcc (Je ws (i:Nat)).a (r:Nat)-Jcc (Je ws (i:Nat)).b (r:Nat))))=0:=Z8 λ r hr=>by
  rw [Tb.Zc]
  have h:=ro.bal r hr
  rw [Jek,<- Yo] at h
  have h2:Tb.Jn ws.length (λ i=>cs.getD i 0*(Jcc (Je ws (i:Nat)).a (r:Nat)-Jcc (Je ws (i:Nat)).b (r:Nat))) = -Tb.Jn ws.length (λ j=>cs.getD j 0*(Jcc (Je ws (j:Nat)).b (r:Nat)-Jcc (Je ws (j:Nat)).a (r:Nat))):=by
   rw [<- Tb.Wc]
   refine Tb.Jj λ i _=>?_
   rw [<- J45,Int.neg_sub]
  rw [h2,h,Int.neg_zero,Xu]
 rw [z,J31]
 congr 1
 refine Tb.Jj λ p _=>?_
 rw [Tb.Zc]
 congr 1
 unfold Jbj
 exact Yo _ _
theorem Jbq (ok:BookOk R U ws) {wt ht cs:List Int}(lw:(wt.length:Int)=U) (nn:∀ x∈wt,0<=x) (kept:∀ k∈ks,0<=Ya ws wt ht (k:Int)) (ro:RoundOk R ws cs) (sub:∀ k:Nat,cs.getD k 0≠0->k∈ks) (gn:∀ p:Nat,(p:Int)<U->0<=(Jbj ws cs p).sum) {k:Nat}(hk:0<cs.getD k 0):Ya ws wt ht (k:Int)=0:=by
 have p0:=ok.p0
 have cn:∀ i,0<=cs.getD i 0:=λ i=>Jem ro.nn i
 have kl:k<ws.length:=by
  rcases Xy k ws.length with h | h
  . exact h
  . rw [Qg,Qx (by rw [ro.len];exact h)] at hk
    exact absurd hk (by decide)
 have tn:∀ i,i<ws.length->0<=cs.getD i 0*Ya ws wt ht (i:Nat):=λ i hi=>by
  by_cases z:cs.getD i 0=0
  . rw [z,Xv];exact J3k _
  . exact J93 (cn i) (kept i (sub i z))
 have m:=Jnl (ht:=ht) ok lw ro
 have wn:∀ p,p<U.toNat->0<=wt.getD p 0*(Jbj ws cs p).sum:=λ p hp=>J93 (Jem nn p) (gn p (by omega))
 have s1:=Jbp tn
 have s2:=Jbp wn
 have z:=Jnj tn (by omega) kl
 rcases J91.mp z with h | h
 . omega
 . exact h
theorem Jsd (t:Told R U ws ks W T) {k:Nat}(ry:Tb.Ray (U+R).toNat ks.length W T k):∀ c∈drQ ws (U+R).toNat T k,c.natAbs<=2^4000:=λ c hc=>by
 obtain ⟨j,hj,jp⟩:=Jlh t.fit t.kept.tot t.kept.ok ry
 have g0:=Jlj (Jln (m:=(U+R).toNat) (T:=T) (k:=k) (t.lt j hj)) (by omega)
 have gp:(0:Int)<((Zk (drL ws (U+R).toNat T k):Nat):Int):=by omega
 obtain ⟨y,hy,rfl⟩:=Qm.mp hc
 obtain ⟨i,hi,rfl⟩:=Qm.mp hy
 have hi:=Xh.mp hi
 by_cases h:i∈ks
 . exact Uc (Jfq gp (Jfp t.shape t.kept.ok ry.hk (t.way h)))
 . have no:¬ Tb.inN (U+R).toNat ks.length T i:=λ z=>by
    rcases (t.fit.names t.kept.tot i).mp z with ⟨s,_,e⟩ | h'
    . omega
    . exact h h'
   have:T.dir (U+R).toNat k i=0:=by
    unfold Tb.Tab.dir
    rw [if_neg (λ z=>no (.inr ⟨k,ry.hk,z.symm⟩)),Z8 λ j hj=>if_neg λ z=>no (.inl ⟨j,hj,z⟩)]
    rfl
   rw [this,J92];exact Xo _
structure RoundA (R U:Int) (ws:List Way) (ks:List Nat) (cs:List Int) (i:Nat):Prop where
 ro:RoundOk R ws cs
 sub:∀ k:Nat,cs.getD k 0≠0->k∈ks
 gn:∀ p:Nat,(p:Int)<U->0<=(Jbj ws cs p).sum
 bd:∀ c∈cs,c.natAbs<=i*2^4000
theorem RoundA.b {cs:List Int}{i:Nat}(h:RoundA R U ws ks cs i) (hi:i<=100) (ne:∃ k,0<cs.getD k 0):RdB R ws cs:=by
 refine ⟨h.ro,λ c hc=>?_,ne⟩
 have h1:=h.bd c hc
 have h2:i*2^4000<=100*2^4000:=J46 _ hi
 have h3:100*2^4000<2^8000:=by
  have:(2:Nat)^8000=2^4000*2^4000:=by rw [<- J47]
  rw [this]
  exact J48 (Qz (by decide:100<2^7) (Bc (by decide))) (J3t _)
 exact U7 (Xm h1 h2) h3
theorem Vy {xs ys:List Int}(h:xs.length=ys.length) (i:Nat):(Bk xs ys).getD i 0=xs.getD i 0+ys.getD i 0:=by
 unfold Bk
 rw [Qg,Uf,Qg,Qg]
 by_cases c:i<xs.length
 . rw [Qd c,Qd (by omega)];rfl
 . rw [Qx (by omega),Qx (by omega)];rfl
theorem RoundA.add {cs ds:List Int}{i j:Nat}(h:RoundA R U ws ks cs i) (g:RoundA R U ws ks ds j):RoundA R U ws ks (Bk cs ds) (i+j):=by
 have hl:cs.length=ds.length:=by rw [h.ro.len,g.ro.len]
 have pl:(Bk cs ds).length=ws.length:=by rw [Jb6,hl,Nat.min_self,g.ro.len]
 have mem:∀ c∈Bk cs ds,∃ i,i<ws.length/\c=cs.getD i 0+ds.getD i 0:=λ c hc=>by
  obtain ⟨i,hi⟩:=X4.mp hc
  have il:=(Qq.mp hi).1
  refine ⟨i,by omega,?_⟩
  rw [<- Vy hl,Qg,hi];rfl
 have m1:∀ i,i<ws.length->cs.getD i 0∈cs:=λ i hi=>by rw [Qg,Qd (by rw [h.ro.len];exact hi)];exact Xe _
 have m2:∀ i,i<ws.length->ds.getD i 0∈ds:=λ i hi=>by rw [Qg,Qd (by rw [g.ro.len];exact hi)];exact Xe _
 refine ⟨⟨pl,λ c hc=>?_,λ r hr=>?_⟩,λ k hk=>?_,λ p hp=>?_,λ c hc=>?_⟩
 . obtain ⟨i,hi,rfl⟩:=mem c hc
   have:=h.ro.nn _ (m1 i hi)
   have:=g.ro.nn _ (m2 i hi)
   omega
 . have h1:=h.ro.bal r hr
   have h2:=g.ro.bal r hr
   rw [Jek] at h1 h2 ⊢
   rw [<- Yo] at h1 h2 ⊢
   rw [Tb.Jj (λ i _=>by rw [Vy hl,J57]),Tb.Zj,h1,h2];rfl
 . rw [Vy hl] at hk
   by_cases z:cs.getD k 0=0
   . exact g.sub k (by omega)
   . exact h.sub k z
 . have h1:=h.gn p hp
   have h2:=g.gn p hp
   unfold Jbj at h1 h2 ⊢
   rw [<- Yo] at h1 h2 ⊢
   rw [Tb.Jj (λ i _=>by rw [Vy hl,J57]),Tb.Zj]
   omega
 . obtain ⟨i',hi,rfl⟩:=mem c hc
   have h1:=h.bd _ (m1 i' hi)
   have h2:=g.bd _ (m2 i' hi)
   rw [J8e]
   have:=J59 (cs.getD i' 0) (ds.getD i' 0)
   omega
theorem RoundA.of {cs:List Int}(rk:RoundK R U ws ks cs) (sm:∀ c∈cs,c.natAbs<=2^4000):RoundA R U ws ks cs 1:=⟨rk.ro,rk.sub,rk.gn,λ c hc=>by rw [J6b];exact sm c hc⟩
structure RestK (R U:Int) (ws:List Way) (ks L:List Nat) (cs:Option (List Int)):Prop where
 sb:L.Sublist ks
 no:cs=none->L=ks
 yes:∀ c,cs=some c->(∃ i,i+L.length<=ks.length/\RoundA R U ws ks c i)/\(∃ k,0<c.getD k 0)/\∀ k∈ks,0<c.getD k 0↔k∉L
noncomputable def Jfr:Option (List Int)->Yao
 | none=>.none
 | some cs=>.tuple (cs.map .int)
theorem RestK.first:RestK R U ws ks ks none:=⟨List.Sublist.refl _,λ _=>rfl,λ c h=>by cases h⟩
noncomputable def Jxj:Option (List Int)->List Int->List Int
 | none,ds=>ds
 | some cs,ds=>Bk cs ds
theorem RestK.next {L:List Nat}{cs:Option (List Int)}{ds:List Int}(h:RestK R U ws ks L cs) (g:RoundA R U ws ks ds 1) {ν:Nat}(hν:ν∈L) (pν:0<ds.getD ν 0):RestK R U ws ks (L.filter λ k=>decide (ds.getD k 0=0)) (some (Jxj cs ds))/\(L.filter λ k=>decide (ds.getD k 0=0)).length<L.length:=by
 have dn:∀ i,0<=ds.getD i 0:=λ i=>Jem g.ro.nn i
 have shorter:(L.filter λ k=>decide (ds.getD k 0=0)).length<L.length:=by
  refine List.length_filter_lt_length_iff_exists.mpr ⟨ν,hν,λ z=>?_⟩
  have:=of_decide_eq_true z
  omega
 refine ⟨⟨J94.trans h.sb,(λ e=>by cases e),λ c hc=>?_⟩,shorter⟩
 cases hc
 have inL:∀ k,k∈(L.filter λ k=>decide (ds.getD k 0=0))↔k∈L/\ds.getD k 0=0:=λ k=>by rw [Xq,decide_eq_true_iff]
 cases cs with
 | none=>
  have e:=h.no rfl
  subst e
  refine ⟨⟨1,by omega,g⟩,⟨ν,pν⟩,λ k hk=>?_⟩
  rw [inL]
  show 0<ds.getD k 0↔_
  have:=dn k
  constructor
  . intro z y;omega
  . intro z
    rcases J4u 0 (ds.getD k 0) with q | q
    . exact q
    . exact absurd ⟨hk,by omega⟩ z
 | some cs=>
  obtain ⟨⟨i,hi,ra⟩,⟨k0,hk0⟩,sup⟩:=h.yes cs rfl
  have hl:cs.length=ds.length:=by rw [ra.ro.len,g.ro.len]
  have cn:∀ i,0<=cs.getD i 0:=λ i=>Jem ra.ro.nn i
  refine ⟨⟨i+1,by omega,ra.add g⟩,⟨k0,by rw [show Jxj (some cs) ds=Bk cs ds from rfl,Vy hl];have:=dn k0;omega⟩,λ k hk=>?_⟩
  rw [show Jxj (some cs) ds=Bk cs ds from rfl,Vy hl,inL]
  have s:=sup k hk
  have:=dn k
  have:=cn k
  constructor
  . rintro z ⟨y1,y2⟩
    by_cases q:0<cs.getD k 0
    . exact s.mp q y1
    . omega
  . intro z
    by_cases y:k∈L
    . have:ds.getD k 0≠0:=λ e=>z ⟨y,e⟩
      omega
    . have:=s.mpr y
      omega
def Jdm:GSp:=λ as n Q=>∃ (R U:Int) (ws:List Way) (ks:List Nat),as=[.d (J8 R U ws),.d (.list (ks.map Jo))]/\BookOk R U ws/\IsRing R ws ks /\
 (∀ wt ht L cs,SumK R U ws ks wt ht->RestK R U ws ks L cs->L≠[]->(∀ k∈L,1<=Ya ws wt ht (k:Int))->Q (.tuple [Jat wt ht,Jfr cs]) n)/\∀ cs,RestK R U ws ks [] (some cs)->Q (.tuple [.none,.tuple (cs.map .int)]) n
end
theorem Jiq {C p fa ba:Addr}{ex:List Addr}{z:Siz}{T:Tb.Tab}{H:Hp}{cs:Option (List Int)}{v:V}(h:TabH C ex p fa ba z T H) (r:Rep ex H (Jfr cs) v):Rep (p::fa::ba::ex) H (Jfr cs) v:=by
 obtain ⟨dx,rv,o1,o2⟩:=h.o
 cases cs with
 | none=>cases r;exact .none
 | some cs=>
  cases r with
  | tuple e n z rs=>
   have:=Reps.ints_inv rs
   subst this
   refine .tuple e (Jna (λ y=>?_) (λ y=>?_) (λ y=>?_) n) z (Reps.ints cs)
   . rw [y,o1] at e;cases e
   . rw [y,h.f] at e;cases e
   . rw [y,h.b] at e;cases e
theorem Jxk {S:Src}{ex:List Addr}{env:List Vl}{σ:L2.St}{H:Hp}{n i k:Nat}{wi:TI}{idx:List Nat}{g:TG}{tt:TT}{te:TE}{D:Ends}{gn:GN} [N:NV (B1 wi k idx g tt te) gn] (P:List Yao->Nat->Prop) (E:Ev S ex env σ H n) (h:gn env n P) (q:∀ ds n' a vs H',P ds n'->Yr S n' H H'->H a=none->H' a=some (.lst vs)->vs.length<=sizeLine->Reps (a::ex) H' ds vs->D.nx (σ.set i (some (.ref a))) H'):Vu i wi k idx g tt te D σ H:=
 show B1 wi k idx g tt te σ H (λ v H2=>D.nx (σ.set i (some v)) H2) from N.nv E h q
structure Grt (C:Addr) (ex:List Addr) (p fa ba:Addr) (R U:Int) (ws:List Way) (ks:List Nat) (H0:Hp) (l:Addr) (av:V) (L:List Nat) (cs:Option (List Int)) (T:Tb.Tab) (H:Hp):Prop where
 h:TabH C ex p fa ba (Jez R U ws) T H
 t:Told R U ws ks [] T
 r:RestK R U ws ks L cs
 l:Rep (p::fa::ba::ex) H (.list (L.map Jo)) (.ref l)
 a:Rep (p::fa::ba::ex) H (Jfr cs) av
 k:Kp [] H0 H
theorem Grt.keep {C:Addr}{ex:List Addr}{p fa ba:Addr}{R U:Int}{ws:List Way}{ks:List Nat}{H0:Hp}{l:Addr}{av:V}{L:List Nat}{cs:Option (List Int)}{T:Tb.Tab}{H H':Hp}(g:Grt C ex p fa ba R U ws ks H0 l av L cs T H) (k:Kp [] H H'):Grt C ex p fa ba R U ws ks H0 l av L cs T H':=
 ⟨g.h.keep k,g.t,g.r,g.l.keep (k.mono λ a ha=>by cases ha),g.a.keep (k.mono λ a ha=>by cases ha),g.k.trans k⟩
theorem Told.any {R U:Int}{ws:List Way}{ks W W':List Nat}{T:Tb.Tab}(t:Told R U ws ks W T):Told R U ws ks W' T:=⟨t.ok,t.kept,t.nd,t.lt⟩
theorem Grt.found {C:Addr}{ex:List Addr}{p fa ba:Addr}{R U:Int}{ws:List Way}{ks:List Nat}{H0:Hp}{l:Addr}{av:V}{L W:List Nat}{cs:Option (List Int)}{T T':Tb.Tab}{H H':Hp}(g:Grt C ex p fa ba R U ws ks H0 l av L cs T H) (fp:H0 p=none) (ff:H0 fa=none) (fb:H0 ba=none) (h:TabH C ex p fa ba (Jez R U ws) T' H') (t:Told R U ws ks W T') (k:Kp [p,fa,ba] H H'):Grt C ex p fa ba R U ws ks H0 l av L cs T' H':=by
 have kx:Kp (p::fa::ba::ex) H H':=k.mono λ b hb=>by simp only [Qf,X0,or_false] at hb ⊢;rcases hb with h | h | h<;>simp [h]
 refine ⟨h,t.any,g.r,g.l.keep kx,g.a.keep kx,λ b o e _=>k b o (g.k b o e (by simp)) (λ z=>?_)⟩
 simp only [Qf,X0,or_false] at z
 rcases z with z | z | z
 . rw [z,fp] at e;cases e
 . rw [z,ff] at e;cases e
 . rw [z,fb] at e;cases e
theorem Jpa (ks:List Nat):ks.map Jo=(nI ks).map .int:=by unfold nI;rw [Qw];rfl
theorem Jlp (ks:List Nat):U8 (.list (ks.map Jo))=true:=by rw [Jpa,U8];exact Jk5 _
theorem Jxl (ks:List Nat):J41 (.list (ks.map Jo))<=50:=by rw [Jpa,J41,Jk6];decide
theorem Jxm {ks:List Nat}{Q:Yao->Prop}(h:Q (.bool true)):Jv9 false (.list (ks.map Jo)) (.list (ks.map Jo)) Q:=by
 refine ⟨⟨Jlp ks,Jlp ks,Xm (Nat.min_le_right _ _) (Jxl ks)⟩,?_⟩
 rw [J7u _ (Jlp ks)]
 exact h
theorem J0w (ks:List Nat) (ν:Nat):inD (Jo ν) (ks.map Jo)=decide (ν∈ks):=by
 rw [Jpa,Jyr]
 unfold nI
 exact decide_eq_decide.mpr ⟨λ h=>by obtain ⟨k,hk,e⟩:=Qm.mp h;rwa [<- show k = ν by exact_mod_cast e],λ h=>Qm.mpr ⟨ν,h,rfl⟩⟩
theorem Jnm (ks:List Nat):(ks.map Jo).all Vw=true:=X6.mpr λ x hx=>by obtain ⟨k,_,rfl⟩:=Qm.mp hx;rfl
theorem Jvj {a b:Bool}{Q:Yao->Prop}(h:a=b) (q:Q (.bool false)):fEq true (.bool a) (.bool b) Q:=by
 subst h
 exact Jud q
structure GreatS (R U:Int) (ws:List Way) (ks L:List Nat) (d:Yao) (cs:Option (List Int)):Prop where
 r:RestK R U ws ks L cs
 s:(d = .none/\L=[]/\cs≠none)\/∃ wt ht,d=Jat wt ht/\SumK R U ws ks wt ht/\L≠[]/\∀ k∈ks,0<Ya ws wt ht (k:Int)↔k∈L
theorem Jse {R U:Int}{ws:List Way}{ks L:List Nat}{wt ht:List Int}{cs:Option (List Int)}(ok:BookOk R U ws) (sk:SumK R U ws ks wt ht) (r:RestK R U ws ks L cs) (hL:L≠[]) (fl:∀ k∈L,1<=Ya ws wt ht (k:Int)):GreatS R U ws ks L (Jat wt ht) cs:=by
 refine ⟨r,.inr ⟨wt,ht,rfl,sk,hL,λ k hk=>⟨λ h=>U0 λ z=>?_,λ h=>by have:=fl k h;omega⟩⟩⟩
 cases cs with
 | none=>rw [r.no rfl] at z;exact z hk
 | some c=>
  obtain ⟨⟨i,hi,ra⟩,_,sup⟩:=r.yes c rfl
  have:=Jbq ok sk.lw sk.nn sk.kept ra.ro ra.sub ra.gn ((sup k hk).mpr z)
  omega
structure SumC (R U:Int) (wt ht:List Int):Prop where
 lw:(wt.length:Int)=U
 lh:(ht.length:Int)=R
 nn:∀ x∈wt,0<=x
 bw:∀ x∈wt,x.natAbs<2^8900
 bh:∀ x∈ht,x.natAbs<2^8900
theorem SumK.c {R U:Int}{ws:List Way}{ks:List Nat}{wt ht:List Int}(h:SumK R U ws ks wt ht):SumC R U wt ht:=⟨h.lw,h.lh,h.nn,λ x hx=>Qz (h.bw x hx) (Bc (by decide)),λ x hx=>Qz (h.bh x hx) (Bc (by decide))⟩
def Jgz:GSp:=λ as n Q=>∃ (xs gs:List Int),as=[.d (.tuple (xs.map .int)),.d (.tuple (gs.map .int))]/\xs.length=gs.length/\xs.length<=1000/\(∀ x∈xs,x.natAbs<2^9000)/\(∀ x∈gs,x.natAbs<2^9000)/\Q (.int (Jan xs gs xs.length)) n
noncomputable instance:Scal Jgz:=⟨λ {as n P} h=>by obtain ⟨a,b,e,h1,h2,h3,h4,q⟩:=h;exact ⟨a,b,e,h1,h2,h3,h4,rfl,q⟩⟩
def Jcw:GSp:=λ as n Q=>∃ (R U:Int) (ws:List Way) (wt ht:List Int) (k:Nat),as=[.d (J8 R U ws),.d (Jat wt ht),.d (Jo k)]/\BookOk R U ws/\SumC R U wt ht/\k<ws.length/\Q (.int (Ya ws wt ht (k:Int))) n
noncomputable instance:Scal Jcw:=⟨λ {as n P} h=>by obtain ⟨R,U,ws,wt,ht,k,e,h1,h2,h3,q⟩:=h;exact ⟨R,U,ws,wt,ht,k,e,h1,h2,h3,rfl,q⟩⟩
def Jg0:GSp:=λ as n Q=>∃ (R U:Int) (ws:List Way) (wt ht:List Int) (ks:List Nat),as=[.d (J8 R U ws),.d (Jat wt ht),.d (.list (ks.map Jo))]/\BookOk R U ws/\SumC R U wt ht/\(∀ k∈ks,k<ws.length)/\ks.length<=1000/\(∀ k∈ks,0<=Ya ws wt ht (k:Int))/\Q (.bool true) n
noncomputable instance:Scal Jg0:=⟨λ {as n P} h=>by obtain ⟨R,U,ws,wt,ht,k,e,h1,h2,h3,h4,h5,q⟩:=h;exact ⟨R,U,ws,wt,ht,k,e,h1,h2,h3,h4,h5,rfl,q⟩⟩
def Jdn:GSn:=λ as n Q=>∃ (R U:Int) (ws:List Way) (wt ht:List Int) (ks:List Nat),as=[.d (J8 R U ws),.d (Jat wt ht),.d (.list (ks.map Jo))]/\BookOk R U ws/\SumC R U wt ht/\(∀ k∈ks,k<ws.length)/\ks.length<=1000/\Q ((ks.filter λ k:Nat=>decide (0<Ya ws wt ht (k:Int))).map Jo) n
def Jdo:GSp:=λ as n Q=>∃ (w1 h1 w2 h2:List Int),as=[.d (Jat w1 h1),.d (Jat w2 h2)]/\w1.length=w2.length/\h1.length=h2.length/\w1.length<=1000/\h1.length<=1000/\Q (Jat (Bk w1 w2) (Bk h1 h2)) n
theorem Jg1:∀ (xs gs:List Int),xs.length=gs.length->((xs.zip gs).map λ p=>p.1*p.2).sum=Jan xs gs xs.length
 | [],[],_=>rfl
 | [],_::_,h=>by cases h
 | _::_,[],h=>by cases h
 | x::xs,g::gs,h=>by
  rw [J56,Q0,J49,Jg1 xs gs (by simpa using h)]
  unfold Jan
  rw [Ue,J9f,Q0,J49,Qw]
  rfl
theorem Jsf {xs gs:List Int}{n a b:Nat}(hx:∀ i,(xs.getD i 0).natAbs<=a) (hg:∀ i,(gs.getD i 0).natAbs<=b):(Jan xs gs n).natAbs<=n*(a*b):=by
 unfold Jan
 rw [<- Yo]
 refine Tb.Jer λ i _=>?_
 rw [J6a]
 exact J78 (hx i) (hg i)
theorem Jac {xs:List Int}{b:Nat}(h:∀ x∈xs,x.natAbs<=b) (i:Nat):(xs.getD i 0).natAbs<=b:=by
 rw [Qg]
 by_cases c:i<xs.length
 . rw [Qd c];exact h _ (Xe c)
 . rw [Qx (by omega)];exact Xo _
theorem Jpb {R U:Int}{ws:List Way}{wt ht:List Int}(ok:BookOk R U ws) (sc:SumC R U wt ht) {k:Nat}(hk:k<ws.length):(Ya ws wt ht (k:Int)).natAbs<2^9000:=by
 have wok:=ok.ways _ (Ym (k:=(k:Int)) (Xk k) (by omega))
 have p1:=ok.p1
 have lw:=sc.lw
 have g:∀ i,((Je ws (k:Int)).g.getD i 0).natAbs<=100:=Jac λ x hx=>by have:=wok.small x hx;omega
 have w:=Jac (xs:=wt) (b:=2^8900) λ x hx=>Uc (sc.bw x hx)
 have h:=Jac (xs:=ht) (b:=2^8900) λ x hx=>Uc (sc.bh x hx)
 have d:=Jsf (n:=wt.length) w g
 have d2:wt.length*(2^8900*100)<=6*(2^8900*100):=J46 _ (by omega)
 have e:(602:Nat)*2^8900<2^9000:=by
  have:(2:Nat)^9000=2^100*2^8900:=by rw [<- J47]
  rw [this]
  exact J48 (by decide) (J3t _)
 have ha:=h (Je ws (k:Int)).a.toNat
 have hb:=h (Je ws (k:Int)).b.toNat
 unfold Ya
 generalize ht.getD (Je ws (k:Int)).a.toNat 0=x at *
 generalize ht.getD (Je ws (k:Int)).b.toNat 0=y at *
 generalize Jan wt (Je ws (k:Int)).g wt.length=z at *
 generalize 2^8900=c at *
 generalize 2^9000=f at *
 omega
theorem Jpc {R U:Int}{ws:List Way}{cs:List Int}(ok:BookOk R U ws) (bd:∀ c∈cs,c.natAbs<2^8000) (p:Nat):((Jbj ws cs p).sum).natAbs<2^9000:=by
 unfold Jbj
 rw [<- Yo]
 have wl:=ok.len
 have c:=Jac (xs:=cs) (b:=2^8000) λ x hx=>Uc (bd x hx)
 have s:(Tb.Jn ws.length λ i=>cs.getD i 0*(Je ws (i:Nat)).g.getD p 0).natAbs<=ws.length*(2^8000*100):=Tb.Jer λ i hi=>by
  rw [J6a]
  have wok:=ok.ways _ (Ym (k:=(i:Int)) (Xk i) (by omega))
  exact J78 (c i) (Jac (λ x hx=>by have:=wok.small x hx;omega) p)
 have d2:ws.length*(2^8000*100)<=60*(2^8000*100):=J46 _ wl
 have e:(6000:Nat)*2^8000<2^9000:=by
  have:(2:Nat)^9000=2^1000*2^8000:=by rw [<- J47]
  rw [this]
  exact J48 (Qz (by decide:6000<2^13) (Bc (by decide))) (J3t _)
 generalize (Tb.Jn ws.length λ i=>cs.getD i 0*(Je ws (i:Nat)).g.getD p 0)=x at *
 generalize 2^8000=y at *
 generalize 2^9000=f at *
 omega
structure RdC (R U:Int) (ws:List Way) (ks:List Nat) (cs:List Int):Prop where
 b:RdB R ws cs
 sub:∀ k:Nat,cs.getD k 0≠0->k∈ks
 gn:∀ p:Nat,(p:Int)<U->0<=(Jbj ws cs p).sum
theorem RoundK.cc {R U:Int}{ws:List Way}{ks:List Nat}{cs:List Int}(h:RoundK R U ws ks cs):RdC R U ws ks cs:=⟨h.b,h.sub,h.gn⟩
def Jlq:GSp:=λ as n Q=>∃ (R U:Int) (ws:List Way) (ks:List Nat) (wt ht cs:List Int),as=[.d (J8 R U ws),.d (Jat wt ht),.d (.tuple (cs.map .int))]/\BookOk R U ws/\SumC R U wt ht/\(∀ k∈ks,0<=Ya ws wt ht (k:Int))/\RdC R U ws ks cs/\Q (.bool true) n
noncomputable instance:Scal Jlq:=⟨λ {as n P} h=>by obtain ⟨R,U,ws,ks,wt,ht,cs,e,h1,h2,h3,h4,q⟩:=h;exact ⟨R,U,ws,ks,wt,ht,cs,e,h1,h2,h3,h4,rfl,q⟩⟩
def Je1:GSp:=λ as n Q=>∃ (R U:Int) (ws:List Way) (ks:List Nat),as=[.d (J8 R U ws),.d (.list (ks.map Jo))]/\BookOk R U ws/\IsRing R ws ks/\Q (.bool true) n
noncomputable instance:Scal Je1:=⟨λ {as n P} h=>by obtain ⟨R,U,ws,ks,e,h1,h2,q⟩:=h;exact ⟨R,U,ws,ks,e,h1,h2,rfl,q⟩⟩
abbrev Ans:=Sum (List Int×List Int) (List Int)
noncomputable def J3j:Ans->Str
 | .inl _=>"sum"
 | .inr _=>"round"
noncomputable def Jvk:Ans->Yao
 | .inl s=>Jat s.1 s.2
 | .inr c=>.tuple (c.map .int)
noncomputable def Jsg (a:Ans):Yao:=.tuple [.str (J3j a),Jvk a]
noncomputable def Jgf:Ans->Bool
 | .inl _=>true
 | .inr _=>false
theorem Jq0 {x y:Yao}{b:Bool}(h:x∈(Qo (J6g (if b=true then 1 else 0)) [y]).flatten):b=true/\x=y:=by
 cases b with
 | false=>cases h
 | true=>exact ⟨rfl,Qt.mp h⟩
theorem Jvl (b:Bool) (y:Yao):-(2:Int)^63<=(if b=true then (1:Int) else 0)/\(if b=true then (1:Int) else 0)<2^63/\[y].length*J6g (if b=true then (1:Int) else 0)<=sizeLine:=by
 have hs:sizeLine=16777216:=Yau
 cases b with
 | false=>exact ⟨by decide,by decide,by rw [hs];exact Xo _⟩
 | true=>exact ⟨by decide,by decide,by rw [hs];exact Xc rfl⟩
theorem Jq1 (b:Bool) (y:Yao):(Qo (J6g (if b=true then (1:Int) else 0)) [y]).flatten.length<=1:=by
 cases b with
 | false=>exact Xo _
 | true=>exact Qn _
theorem J2m:decide (("sum":Str) = "sum")=true:=decide_eq_true rfl
theorem Jy0:decide (("round":Str) = "sum")=false:=by decide +kernel
theorem Jy1:decide (("sum":Str) = "round")=false:=by decide +kernel
theorem Jy2:decide (("round":Str) = "round")=true:=decide_eq_true rfl
section
variable {R U:Int}{ws:List Way}{ks L:List Nat}
def Jvm (R U:Int) (ws:List Way) (ks:List Nat) (k:Nat):Ans->Prop
 | .inl s=>SumK R U ws ks s.1 s.2/\1<=Ya ws s.1 s.2 (k:Int)
 | .inr c=>RoundK R U ws ks c/\1<=c.getD k 0
theorem Jnn:∀ {ks:List Nat}{ys:List Yao}{P:Nat->Ans->Prop},Jz4 (λ x y=>∃ (k:Nat) (a:Ans),x=Jo k/\y=Jsg a/\P k a) (ks.map Jo) ys->∃ as:List Ans,ys=as.map Jsg/\as.length=ks.length/\∀ (i:Nat) (k:Nat) (a:Ans),ks[i]? = some k->as[i]? = some a->P k a
 | [],[],_,_=>⟨[],rfl,rfl,λ i k a h=>by simp at h⟩
 | k::ks,y::ys,P,h=>by
  obtain ⟨⟨k',a,ek,rfl,p⟩,h2⟩:=h
  obtain ⟨as,rfl,hl,hp⟩:=Jnn h2
  have ek:k=k':=by injection ek with ek;exact_mod_cast ek
  subst ek
  refine ⟨a::as,rfl,by simp [hl],λ i j b h3 h4=>?_⟩
  cases i with
  | zero=>cases h3;cases h4;exact p
  | succ i=>exact hp i j b h3 h4
 | [],_::_,_,h=>h.elim
 | _::_,[],_,h=>h.elim
noncomputable def Vj (as:List Ans):List (List Int×List Int):=as.filterMap λ a=>match a with | .inl s=>some s | .inr _=>none
noncomputable def Jc6 (as:List Ans):List (List Int):=as.filterMap λ a=>match a with | .inl _=>none | .inr c=>some c
theorem Jir:∀ as:List Ans,((as.filter Jgf).map Jvk)=(Vj as).map λ s=>Jat s.1 s.2
 | []=>rfl
 | .inl s::as=>by
  have h:=Jir as
  have e1:(Xg s::as:List Ans).filter Jgf = .inl s::as.filter Jgf:=J4w rfl
  have e2:Vj (.inl s::as)=s::Vj as:=rfl
  rw [e1,e2,Q0,Q0,h]
  rfl
 | .inr c::as=>by
  have h:=Jir as
  have e1:(X9 c::as:List Ans).filter Jgf=as.filter Jgf:=J4x Q2
  have e2:Vj (.inr c::as)=Vj as:=rfl
  rw [e1,e2,h]
theorem Jlr:∀ as:List Ans,((as.filter λ a=>!Jgf a).map Jvk)=(Jc6 as).map λ c=>Ub (c.map .int)
 | []=>rfl
 | .inr c::as=>by
  have h:=Jlr as
  have e1:(X9 c::as:List Ans).filter (λ a=>!Jgf a) = .inr c::as.filter (λ a=>!Jgf a):=J4w rfl
  have e2:Jc6 (.inr c::as)=c::Jc6 as:=rfl
  rw [e1,e2,Q0,Q0,h]
  rfl
 | .inl s::as=>by
  have h:=Jlr as
  have e1:(Xg s::as:List Ans).filter (λ a=>!Jgf a)=as.filter (λ a=>!Jgf a):=J4x Q2
  have e2:Jc6 (.inl s::as)=Jc6 as:=rfl
  rw [e1,e2,h]
theorem Jno {as:List Ans}{s:List Int×List Int}:s∈Vj as↔.inl s∈as:=by
 unfold Vj
 rw [J5f]
 constructor
 . rintro ⟨a,ha,e⟩
   cases a with
   | inl s'=>cases e;exact ha
   | inr c=>cases e
 . intro h;exact ⟨_,h,rfl⟩
theorem Jxn {as:List Ans}{c:List Int}:c∈Jc6 as↔.inr c∈as:=by
 unfold Jc6
 rw [J5f]
 constructor
 . rintro ⟨a,ha,e⟩
   cases a with
   | inl s'=>cases e
   | inr c=>cases e;exact ha
 . intro h;exact ⟨_,h,rfl⟩
theorem Jvn (as:List Ans):(Vj as).length<=as.length:=J95 _ _
theorem Jxo (as:List Ans):(Jc6 as).length<=as.length:=J95 _ _
theorem Jnp {d:Yao}{cs:Option (List Int)}(ok:BookOk R U ws) (g:GreatS R U ws ks L d cs) {k:Nat}(hk:k∈ks) {wt ht:List Int}(sk:SumK R U ws ks wt ht) (hf:Ya ws wt ht (k:Int)≠0):k∈L:=by
 refine U0 λ z=>hf ?_
 cases cs with
 | none=>rw [g.r.no rfl] at z;exact absurd hk z
 | some c=>
  obtain ⟨⟨i,hi,ra⟩,_,sup⟩:=g.r.yes c rfl
  exact Jbq ok sk.lw sk.nn sk.kept ra.ro ra.sub ra.gn ((sup k hk).mpr z)
theorem Jq2 {d:Yao}{cs:Option (List Int)}(ok:BookOk R U ws) (g:GreatS R U ws ks L d cs) {k:Nat}(hk:k∈ks) {c:List Int}(rk:RoundK R U ws ks c) (hc:0<c.getD k 0):k∉L:=λ hL=>by
 rcases g.s with ⟨_,e,_⟩ | ⟨wt,ht,_,sk,_,fl⟩
 . rw [e] at hL;cases hL
 . have:=Jbq ok sk.lw sk.nn sk.kept rk.ro rk.sub rk.gn hc
   have:=(fl k hk).mpr hL
   omega
theorem Jpd {cs:Option (List Int)}(r:RestK R U ws ks L cs) {k:Nat}(hk:k∈ks) (hL:k∉L):∃ c,cs=some c/\1<=c.getD k 0:=by
 cases cs with
 | none=>rw [r.no rfl] at hL;exact absurd hk hL
 | some c=>exact ⟨c,rfl,((r.yes c rfl).2.2 k hk).mpr hL⟩
theorem Jvo {w1 h1 w2 h2:List Int}(lw:w1.length=w2.length) (lh:h1.length=h2.length) (k:Int):Ya ws (Bk w1 w2) (Bk h1 h2) k=Ya ws w1 h1 k+Ya ws w2 h2 k:=by
 have pl:(Bk w1 w2).length=w1.length:=by rw [Jb6];omega
 unfold Ya
 rw [Vy lh,Vy lh,pl]
 have e:Jan (Bk w1 w2) (Je ws k).g w1.length=Jan w1 (Je ws k).g w1.length+Jan w2 (Je ws k).g w1.length:=by
  unfold Jan
  rw [<- Yo,<- Yo,<- Yo,<- Tb.Zj]
  exact Tb.Jj λ i _=>by rw [Vy lw,J57]
 rw [e,lw]
 omega
structure WholeI (R U:Int) (ws:List Way) (ss:List (List Int×List Int)) (i:Nat) (wt ht:List Int):Prop where
 lw:(wt.length:Int)=U
 lh:(ht.length:Int)=R
 nn:∀ x∈wt,0<=x
 bw:∀ x∈wt,x.natAbs<=i*2^8000
 bh:∀ x∈ht,x.natAbs<=i*2^8000
 fl:∀ k:Nat,Ya ws wt ht (k:Int)=((ss.take i).map λ s=>Ya ws s.1 s.2 (k:Int)).sum
theorem Jfs {xs ys:List Int}{x:Int}(hl:xs.length=ys.length) (h:x∈Bk xs ys):∃ a∈xs,∃ b∈ys,x=a+b:=by
 obtain ⟨i,hi⟩:=X4.mp h
 have il:=(Qq.mp hi).1
 rw [Jb6] at il
 unfold Bk at hi
 rw [Uf,Qd (by omega),Qd (by omega)] at hi
 exact ⟨xs[i],Xe _,ys[i],Xe _,(Xf hi).symm⟩
theorem WholeI.next {ss:List (List Int×List Int)}{i:Nat}{wt ht:List Int}(h:WholeI R U ws ss i wt ht) {s:List Int×List Int}(hs:ss[i]? = some s) (sk:SumK R U ws ks s.1 s.2):WholeI R U ws ss (i+1) (Bk wt s.1) (Bk ht s.2):=by
 have e1:wt.length=s.1.length:=by have:=h.lw;have:=sk.lw;omega
 have e2:ht.length=s.2.length:=by have:=h.lh;have:=sk.lh;omega
 refine ⟨by rw [Jb6];have:=h.lw;omega,by rw [Jb6];have:=h.lh;omega,λ x hx=>?_,λ x hx=>?_,λ x hx=>?_,λ k=>?_⟩
 . obtain ⟨a,ha,b,hb,rfl⟩:=Jfs e1 hx
   have:=h.nn a ha
   have:=sk.nn b hb
   omega
 . obtain ⟨a,ha,b,hb,rfl⟩:=Jfs e1 hx
   have h1:=h.bw a ha
   have h2:=sk.bw b hb
   have:=J59 a b
   rw [J8e,J6b]
   generalize 2^8000=c at *
   omega
 . obtain ⟨a,ha,b,hb,rfl⟩:=Jfs e2 hx
   have h1:=h.bh a ha
   have h2:=sk.bh b hb
   have:=J59 a b
   rw [J8e,J6b]
   generalize 2^8000=c at *
   omega
 . rw [Jvo e1 e2,h.fl k,J4y,hs]
   rw [Xb,J7z]
   simp
theorem WholeI.c {ss:List (List Int×List Int)}{i:Nat}{wt ht:List Int}(h:WholeI R U ws ss i wt ht) (hi:i<=100):SumC R U wt ht:=by
 have e:i*2^8000<2^8900:=by
  have h1:i*2^8000<=100*2^8000:=J46 _ hi
  have:(2:Nat)^8900=2^900*2^8000:=by rw [<- J47]
  rw [this]
  exact U7 h1 (J48 (Qz (by decide:100<2^7) (Bc (by decide))) (J3t _))
 exact ⟨h.lw,h.lh,h.nn,λ x hx=>U7 (h.bw x hx) e,λ x hx=>U7 (h.bh x hx) e⟩
theorem Jsh (a b:Nat) (k:Int):Ya ws (Qo a 0) (Qo b 0) k=0:=by
 have z:∀ n i:Nat,(Qo n (0:Int)).getD i 0=0:=λ n i=>by
  rw [Qg,U4];split<;>rfl
 unfold Ya
 rw [z,z]
 have:Jan (Qo a 0) (Je ws k).g (Qo a (0:Int)).length=0:=by
  unfold Jan
  rw [<- Yo]
  exact Z8 λ i _=>by rw [z,Xv]
 rw [this];rfl
theorem Jpe (ok:BookOk R U ws) (ss:List (List Int×List Int)):WholeI R U ws ss 0 (Qo U.toNat 0) (Qo R.toNat 0):=by
 have:=ok.p0
 have:=ok.r0
 refine ⟨by rw [X5];omega,by rw [X5];omega,λ x hx=>by rw [(Uq.mp hx).2];exact J3k _,λ x hx=>by rw [(Uq.mp hx).2];exact Xo _,λ x hx=>by rw [(Uq.mp hx).2];exact Xo _,λ k=>?_⟩
 rw [Jsh]
 rfl
theorem Jcj:∀ {xs:List Int},(∀ x∈xs,0<=x)->0<=xs.sum
 | [],_=>J3k _
 | x::xs,h=>by
  rw [J49]
  have:=h x Qh
  have:=Jcj (xs:=xs) λ y hy=>h y (Qi _ hy)
  omega
theorem Jf9:∀ {xs:List Int}{y:Int},(∀ x∈xs,0<=x)->y∈xs->y<=xs.sum
 | x::xs,y,h,hy=>by
  rw [J49]
  have h0:=h x Qh
  have h1:=Jcj (xs:=xs) λ y hy=>h y (Qi _ hy)
  rcases Qf.mp hy with rfl | hy
  . omega
  . have:=Jf9 (xs:=xs) (λ z hz=>h z (Qi _ hz)) hy
    omega
theorem Jc7:∀ {xs:List Int},(∀ x∈xs,x=0)->xs.sum=0
 | [],_=>rfl
 | x::xs,h=>by rw [J49,h x Qh,Jc7 λ y hy=>h y (Qi _ hy)];rfl
end
def Jls:GSp:=λ as n Q=>∃ (xs:List Yao),as=[.d (.tuple xs),.d (.int (xs.length:Int))]/\Q (.bool true) n
noncomputable instance:Scal Jls:=⟨λ {as n P} h=>by obtain ⟨xs,e,q⟩:=h;exact ⟨xs,e,rfl,q⟩⟩
def Jg2:GSp:=λ as n Q=>∃ (cs:List Int),as=[.d (.tuple (cs.map .int)),.d (.int (cs.length:Int))]/\(∀ c∈cs,0<=c)/\cs.length<=1000/\Q (.bool true) n
noncomputable instance:Scal Jg2:=⟨λ {as n P} h=>by obtain ⟨xs,e,h1,h2,q⟩:=h;exact ⟨xs,e,h1,h2,rfl,q⟩⟩
def Jlt:GSp:=λ as n Q=>∃ (R U:Int) (ws:List Way) (cs:List Int),as=[.d (J8 R U ws),.d (.tuple (cs.map .int))]/\BookOk R U ws/\RoundOk R ws cs/\Q (.bool true) n
noncomputable instance:Scal Jlt:=⟨λ {as n P} h=>by obtain ⟨R,U,ws,cs,e,h1,h2,q⟩:=h;exact ⟨R,U,ws,cs,e,h1,h2,rfl,q⟩⟩
def Jq3:GSp:=λ as n Q=>∃ (R U:Int) (ws:List Way) (cs:List Int),as=[.d (J8 R U ws),.d (.tuple (cs.map .int))]/\BookOk R U ws/\RdB R ws cs/\Q (.bool true) n
noncomputable instance:Scal Jq3:=⟨λ {as n P} h=>by obtain ⟨R,U,ws,cs,e,h1,h2,q⟩:=h;exact ⟨R,U,ws,cs,e,h1,h2,rfl,q⟩⟩
section
variable {R U:Int}{ws:List Way}{ks:List Nat}{an:List Ans}
theorem Jxp (ok:BookOk R U ws) {cs:List Int}{i:Nat}(hi:i<ws.length):fl R.toNat (putF (putF (λ r=>W2 ws cs i (r:Nat)) (Je ws (i:Int)).a.toNat (W2 ws cs i ((Je ws (i:Int)).a.toNat:Nat)-cs.getD i 0)) (Je ws (i:Int)).b.toNat (putF (λ r=>W2 ws cs i (r:Nat)) (Je ws (i:Int)).a.toNat (W2 ws cs i ((Je ws (i:Int)).a.toNat:Nat)-cs.getD i 0) (Je ws (i:Int)).b.toNat+cs.getD i 0))=fl R.toNat λ r=>W2 ws cs (i+1) (r:Nat):=by
 have wok:=ok.ways _ (Ym (k:=(i:Int)) (Xk i) (by omega))
 have a0:=wok.a0
 have b0:=wok.b0
 refine Jts λ r hr=>?_
 unfold putF
 dsimp only
 rw [W2]
 have h1:((Je ws (i:Nat)).a=((r:Nat):Int))↔r=(Je ws (i:Nat)).a.toNat:=by omega
 have h2:((Je ws (i:Nat)).b=((r:Nat):Int))↔r=(Je ws (i:Nat)).b.toNat:=by omega
 by_cases c2:r=(Je ws (i:Nat)).b.toNat
 . rw [if_pos c2,if_pos (h2.mpr c2)]
   by_cases c1:r=(Je ws (i:Nat)).a.toNat
   . rw [if_pos (h1.mpr c1),if_pos (by rw [<- c2,<- c1]),<- c1]
   . rw [if_neg (mt h1.mp c1),if_neg (by rw [<- c2];exact c1),<- c2];omega
 . rw [if_neg c2,if_neg (mt h2.mp c2)]
   by_cases c1:r=(Je ws (i:Nat)).a.toNat
   . rw [if_pos (h1.mpr c1),if_pos c1,<- c1];omega
   . rw [if_neg (mt h1.mp c1),if_neg c1];omega
end
end My
set_option synthInstance.maxSize 100000
set_option synthInstance.maxHeartbeats 4000000
namespace My
open L2
noncomputable def top (i:Nat):Stmt:=Yam.main.body.getD i (.Pass ⟨0,0,0,0⟩)
noncomputable def Jgg (i j:Nat):Stmt:=(Jws (top i)).getD j (.Pass ⟨0,0,0,0⟩)
noncomputable abbrev Jdp:Stmt:=top 6
noncomputable abbrev Jbr:Stmt:=top 7
noncomputable abbrev Jau:Stmt:=top 8
noncomputable abbrev Bi:Stmt:=top 9
noncomputable abbrev Jft:Stmt:=top 10
noncomputable abbrev Je2:Stmt:=top 11
noncomputable abbrev Zq:Stmt:=top 13
noncomputable abbrev Jbs:Stmt:=top 14
noncomputable abbrev Bd:Stmt:=top 16
noncomputable abbrev Wl:Stmt:=top 17
noncomputable abbrev Vc:Stmt:=top 19
noncomputable abbrev Zf:Stmt:=Jgg 20 0
noncomputable abbrev Wm:Stmt:=Jgg 20 1
noncomputable abbrev W0:Stmt:=Jgg 20 2
noncomputable abbrev Wq:Stmt:=Jgg 20 3
noncomputable abbrev Za:Stmt:=Jgg 20 4
noncomputable abbrev Wr:Stmt:=Jgg 20 5
noncomputable abbrev Ws:Stmt:=Jgg 20 6
noncomputable abbrev Vk:Stmt:=Jgg 20 7
noncomputable abbrev W5:Stmt:=Jgg 20 8
noncomputable abbrev Bq:Stmt:=Jgg 20 9
noncomputable abbrev Vz:Stmt:=Jgg 20 10
noncomputable abbrev Br:Stmt:=Jgg 20 11
noncomputable abbrev Jba:Stmt:=top 22
noncomputable abbrev Jbt:Stmt:=top 23
noncomputable abbrev Jad:Stmt:=top 24
noncomputable abbrev Jbu:Stmt:=top 25
noncomputable abbrev Jav:Stmt:=top 27
noncomputable abbrev Jdq:Stmt:=top 28
noncomputable abbrev V0:Stmt:=top 29
noncomputable abbrev Jcx:Stmt:=top 31
noncomputable abbrev Jpf:Stmt:=top 32
noncomputable abbrev Jcy:Stmt:=top 33
noncomputable abbrev Jcz:Stmt:=top 34
noncomputable abbrev Jdr:Stmt:=top 35
noncomputable abbrev Jds:Stmt:=top 37
noncomputable abbrev Jdt:Stmt:=top 38
noncomputable abbrev Jdu:Stmt:=top 39
noncomputable abbrev Jal:Stmt:=top 40
noncomputable abbrev Bw:Stmt:=top 41
noncomputable abbrev Jbv:Stmt:=top 42
noncomputable abbrev Vm:Stmt:=top 43
noncomputable abbrev Zi:Stmt:=top 44
noncomputable abbrev Je3:Stmt:=top 45
structure Txt (mg:Str->Option Yan):Prop where
 b_isinstance:mg "isinstance" = none
 b_int:mg "int" = none
 b_bool:mg "bool" = none
 b_str:mg "str" = none
 b_tuple:mg "tuple" = none
 b_len:mg "len" = none
 b_all:mg "all" = none
 b_sum:mg "sum" = none
 b_range:mg "range" = none
 b_list:mg "list" = none
 b_zip:mg "zip" = none
 b_enumerate:mg "enumerate" = none
 b_min:mg "min" = none
 b_max:mg "max" = none
 b_abs:mg "abs" = none
 b_any:mg "any" = none
section
variable {P:Yas}{w:Yar}{K:Qc}{mg:Str->Option Yan}{base:Heap}
theorem Jnq:FnScope ["_law_script"] ["_law_script"] (Jd Jds):=⟨rfl,rfl,rfl,by decide +kernel,rfl,by decide +kernel,by decide +kernel⟩
theorem Jnr (T:Txt mg) (D:Def K mg "_law_tape" Jds ["_law_script"]):Cal P w K mg base "_law_tape" 1 ["_law_script"] (Jkg K):=by
 refine D.cal λ f fd F=>F.ok Jnq (λ vs H Q E h=>?_) (λ cdv A outer s H vs Q E hr h=>?_)
 . obtain ⟨a,ns,rfl,_⟩:=h
   rfl
 obtain ⟨a,ns,rfl,hS,hlen,q⟩:=h
 refine ⟨_,(@Jh _ _ _ (@Jr _ _ _ _ (@PEs.out _ _ _ (Yy (Wa (J1 (J6 Z6 rfl T.b_list Ya7 (Zb (Jaz Jcp (pv 0) Jcn (Jco Ji)) Jc))) (J2 Yt (J2 Yt Jw))))))),?_⟩
 obtain ⟨ms,ems,lms⟩:=Jri ns none (some 63)
 refine ⟨_,rfl,_,rfl,a,_,rfl,hS,λ l1 hl1=>?_⟩
 rw [ems]
 refine ⟨l1,_,rfl,.inl (SqL.of Jg),λ l2 hl2=>⟨V7 (Xc rfl),λ p hp=>?_⟩⟩
 have n1:l2≠l1:=λ z=>by rw [z,Jg] at hl2;cases hl2
 have n2:p≠l2:=λ z=>by rw [z,Jg] at hp;cases hp
 have n3:p≠l1:=λ z=>by rw [z,Jf (Ql n1),Jg] at hp;cases hp
 rw [Jf n1] at hl2
 rw [Jf n2,Jf n3] at hp
 refine q p l2 _ (λ b o e _=>?_) hp hl2 ⟨ms,0,0,Jg,by rw [Jf (Ql n2),Jg],by omega,by decide,by decide⟩
 rw [Jf (Jp e hp),Jf (Jp e hl2),Jf (Jp e hl1)];exact e
theorem Wt:FnScope ["_law_tape_here","_law_many","_law_digit","_law_at","_law_cell","_law_mixed"] ["_law_tape_here","_law_many"] (Jd Jdt):=⟨rfl,rfl,rfl,by decide +kernel,rfl,by decide +kernel,by decide +kernel⟩
theorem Jns (T:Txt mg) (D:Def K mg "_law_draw" Jdt ["_law_tape_here","_law_many"]):Cal P w K mg base "_law_draw" 1 ["_law_tape_here","_law_many"] Jop:=by
 refine D.cal λ f fd F=>F.ok Wt (λ vs H Q E h=>?_) (λ cdv A outer s H vs Q E hr h=>?_)
 . obtain ⟨p,c,n,m,rfl,_⟩:=h
   rfl
 obtain ⟨p,c,n,m,rfl,J,hn,h0,h1,q⟩:=h
 refine ⟨_,(@Jb _ _ _ _ _ (Wh (J4 Jg7 (Jq Jt (pv 0) Ji (λ _ _=>rfl)) Ji (Jz _)) (@Jb _ _ _ _ _ (Jy (i:=2) Wt.nd rfl (Qa rfl) (Ju Bz (Jq Jt (pv 0) Ji (λ _ _=>rfl)) (pv 1)))
  (@Jb _ _ _ _ _ (Yq (Ju Ja1 (Jq Jt (pv 0) Ji (λ _ _=>rfl)) (pv 1)) (Wo (pv 0) Ji Ys (λ v=>V9 _ _ _ _ _ _ v)))
  (@Jh _ _ _ (@Jr _ _ _ _ (pv 2))))) Yp)
  (@Jb _ _ _ _ _ (Jy (i:=3) Wt.nd rfl (Qa rfl) (Jq Jt (pv 0) Ji (λ _ _=>rfl)))
  (@Jb _ _ _ _ _ (Yq (Ju W4 (pv 3) Ji) (Wo (pv 0) Ji Ys (λ v=>V9 _ _ _ _ _ _ v)))
  (@Jb _ _ _ _ _ (Jy (i:=4) Wt.nd rfl (Qa rfl) Ji)
  (@Jb _ _ _ _ _ (Wh (J4 Jg7 (J0 Yi rfl T.b_len Uo (Zb (Jq Jt (pv 0) Ji (λ _ _=>rfl)) Jc)) Ji (Jz _)) (@Jh _ _ _ (Jy (i:=4) Wt.nd rfl (Qa rfl) (Jq Jt (Jq Jt (pv 0) Ji (λ _ _=>rfl)) (Ju Bz (pv 3) (J0 Yi rfl T.b_len Uo (Zb (Jq Jt (pv 0) Ji (λ _ _=>rfl)) Jc))) (λ _ _=>rfl)))) Yp)
  (@Jb _ _ _ _ _ (Wh (PW.pt (Jg5 (J4 Jjg (pv 3) (J0 Yi rfl T.b_len Uo (Zb (Jq Jt (pv 0) Ji (λ _ _=>rfl)) Jc)) (Jz _)) (Jd0 (J4 Jsw (pv 4) (Ju Jzf Ji Ji) (Jz _))))) (@Jb _ _ _ _ _ (Yq (Ju Ja1 (pv 4) (pv 1)) (Wo (pv 0) Ji Ys (λ v=>V9 _ _ _ _ _ _ v)))
  (@Jh _ _ _ (@Jr _ _ _ _ (Ju Bz (pv 4) (pv 1))))) Yp)
  (@Jb _ _ _ _ _ (Jy (i:=5) Wt.nd rfl (Qa rfl) (Ju Bz (Ju Jda (Ju W4 (Ju Bz (pv 4) Ji) Ji) (Ju W4 (Ju W4 (Ju Jda (Ju Jda Ji (pv 3)) (pv 3)) (Ju Jda Ji (pv 3))) Ji)) Ji))
  (@Jb _ _ _ _ _ (Jy (i:=5) Wt.nd rfl (Qa rfl) (Ju Bz (Ju W4 (Ju W4 (Ju Jda (pv 5) (pv 5)) (Ju Jda Ji (pv 3))) (Ju Bz (pv 4) Ji)) Ji))
  (@Jh _ _ _ (@Jr _ _ _ _ (Ju Bz (Ju Ja1 (pv 5) Ji) (pv 1)))))))))))),?_⟩
 have npc:=J.ne
 obtain ⟨ns,k,g,hp,hc,hl,k0,k1⟩:=J.ex
 refine Zy (λ σ' H'=>σ'=[some (.ref p),some (.int m),none,none,none,none]/\H=H') (λ N hN=>?_) ?_
 . refine ⟨_,rfl,p,_,2,_,rfl,rfl,SqL.of hp,rfl,_,_,rfl,rfl,_,rfl,Wj (λ cc=>?_) (λ cc=>hN _ _ ⟨rfl,rfl⟩)⟩
   refine ⟨_,rfl,p,_,2,_,rfl,rfl,SqL.of hp,rfl,_,rfl,_,_,rfl,rfl,h0,?_⟩
   refine ⟨_,rfl,p,_,2,_,rfl,rfl,SqL.of hp,rfl,_,rfl,_,_,rfl,rfl,Ja2 h0 h1,_,rfl,p,_,2,2,rfl,rfl,hp,rfl,?_⟩
   refine ⟨_,rfl,q _ _ (J3u _ (by omega)) (J34 _ h0) ⟨ns,k,_,Jg,by rw [Jf (Ql npc)];exact hc,hl,k0,by omega⟩ (Kp.at (by simp) _)⟩
 rintro _ _ ⟨rfl,rfl⟩
 refine Zy (λ σ' H'=>σ'=[some (.ref p),some (.int m),none,some (.int k),none,none]/\H=H') (λ N hN=>⟨_,rfl,p,_,1,_,rfl,rfl,SqL.of hp,rfl,hN _ _ ⟨rfl,rfl⟩⟩) ?_
 rintro _ _ ⟨rfl,rfl⟩
 refine Zy (λ σ' H'=>σ'=[some (.ref p),some (.int m),none,some (.int k),none,none]/\H' p=some (.lst [.ref c,.int (k+1),.int g])/\H' c=some (.lst (ns.map V.int))/\Kp [p,c] H H') (λ N hN=>?_) ?_
 . refine ⟨_,rfl,_,_,rfl,rfl,_,rfl,p,_,1,1,rfl,rfl,hp,rfl,hN _ _ ⟨rfl,Jg,by rw [Jf (Ql npc)];exact hc,Kp.at (by simp) _⟩⟩
 rintro _ H1 ⟨rfl,hp1,hc1,kp1⟩
 have nl:((ns.map V.int).length:Int)=ns.length:=by rw [Qb]
 refine Zy (λ σ' H'=>σ'=[some (.ref p),some (.int m),none,some (.int k),some (.int 0),none]/\H1=H') (λ N hN=>hN _ _ ⟨rfl,rfl⟩) ?_
 rintro _ _ ⟨rfl,rfl⟩
 refine Zy (λ σ' H'=>∃ x:Int,σ'=[some (.ref p),some (.int m),none,some (.int k),some (.int x),none]/\H1=H') (λ N hN=>?_) ?_
 . refine ⟨_,rfl,p,_,0,_,rfl,rfl,SqL.of hp1,rfl,c,_,rfl,.inl (SqL.of hc1),_,_,rfl,rfl,_,rfl,Wj (λ cc=>?_) (λ cc=>hN _ _ ⟨0,rfl,rfl⟩)⟩
   have cc:(0:Int)<ns.length:=by simpa using cc
   refine ⟨_,rfl,p,_,0,_,rfl,rfl,SqL.of hp1,rfl,_,rfl,_,rfl,p,_,0,_,rfl,rfl,SqL.of hp1,rfl,c,_,rfl,.inl (SqL.of hc1),_,_,rfl,rfl,by rw [nl];exact cc,?_⟩
   obtain ⟨x,hx,_⟩:=J1e (P:=λ _=>True) ns (i:=k%((ns.map V.int).length:Int)) (by simp) (J3u _ (by rw [nl];omega)) (by rw [nl];exact J34 _ cc)
   exact ⟨c,_,_,_,rfl,rfl,SqL.of hc1,hx,hN _ _ ⟨x,rfl,rfl⟩⟩
 rintro _ _ ⟨x,rfl,rfl⟩
 refine Zy (λ σ' H'=>σ'=[some (.ref p),some (.int m),none,some (.int k),some (.int x),none]/\H1=H') (λ N hN=>?_) ?_
 . refine ⟨_,rfl,_,rfl,p,_,0,_,rfl,rfl,SqL.of hp1,rfl,c,_,rfl,.inl (SqL.of hc1),_,_,rfl,rfl,_,rfl,?_⟩
   refine Wj (λ cc=>?_) (λ cc=>Ja0 (hN _ _ ⟨rfl,rfl⟩))
   refine ⟨_,rfl,_,_,rfl,rfl,⟨by decide,by decide,by decide⟩,_,_,rfl,rfl,_,rfl,Wj (λ cc=>?_) (λ cc=>hN _ _ ⟨rfl,rfl⟩)⟩
   refine ⟨_,rfl,_,rfl,_,_,rfl,rfl,Ja2 h0 h1,_,rfl,p,_,2,2,rfl,rfl,hp1,rfl,?_⟩
   refine ⟨_,rfl,_,rfl,_,_,rfl,rfl,h0,?_⟩
   exact q _ _ (J3u _ (by omega)) (J34 _ h0) ⟨ns,k+1,_,Jg,by rw [Jf (Ql npc)];exact hc1,hl,by omega,by omega⟩ (kp1.trans (Kp.at (by simp) _))
 rintro _ _ ⟨rfl,rfl⟩
 have kb:k<2^41:=by omega
 refine Zy (λ σ' H'=>∃ y:Int,σ'=[some (.ref p),some (.int m),none,some (.int k),some (.int x),some (.int y)]/\H1=H'/\0<=y/\y<2147483647) (λ N hN=>?_) ?_
 . refine ⟨_,rfl,_,_,rfl,rfl,(show (0:Int)<1000003 by decide),_,_,rfl,rfl,_,rfl,_,_,rfl,rfl,.inl ⟨by decide,by decide⟩,_,rfl,_,_,rfl,rfl,.inr ⟨by omega,by omega⟩,_,rfl,_,_,rfl,rfl,.inl ⟨by decide,by decide⟩,_,_,rfl,rfl,_,_,rfl,rfl,_,_,rfl,rfl,.inl ⟨?_,?_⟩,_,_,rfl,rfl,(show (0:Int)<2147483647 by decide),hN _ _ ⟨_,rfl,rfl,J3u _ (by decide),J34 _ (by decide)⟩⟩
   all_goals (have:=J3u x (show (1000003:Int)≠0 by decide);have:=J34 x (show (0:Int)<1000003 by decide);omega)
 rintro _ _ ⟨y,rfl,rfl,y0,y1⟩
 refine Zy (λ σ' H'=>∃ y:Int,σ'=[some (.ref p),some (.int m),none,some (.int k),some (.int x),some (.int y)]/\H1=H'/\0<=y) (λ N hN=>?_) ?_
 . refine ⟨_,rfl,_,rfl,_,_,rfl,rfl,.inl ⟨by omega,by omega⟩,_,rfl,_,_,rfl,rfl,.inl ⟨by decide,by decide⟩,_,_,rfl,rfl,_,rfl,_,_,rfl,rfl,(show (0:Int)<65537 by decide),_,_,rfl,rfl,_,_,rfl,rfl,(show (0:Int)<2147483629 by decide),hN _ _ ⟨_,rfl,rfl,J3u _ (by decide)⟩⟩
 rintro _ _ ⟨y,rfl,rfl,y0⟩
 refine ⟨_,rfl,_,_,rfl,rfl,Ja2 (by decide) (by decide +kernel),_,rfl,_,_,rfl,rfl,h0,?_⟩
 exact q _ _ (J3u _ (by omega)) (J34 _ h0) ⟨ns,k+1,g,hp1,hc1,hl,by omega,by omega⟩ kp1
theorem Jck:FnScope ["_law_tape_here","_law_way","_law_some"] ["_law_tape_here"] (Jd Jdu):=⟨rfl,rfl,rfl,by decide +kernel,rfl,by decide +kernel,by decide +kernel⟩
theorem Jnt (T:Txt mg) (D:Def K mg "_law_gain" Jdu ["_law_tape_here"]) (Ga:Cal P w K mg base "_law_draw" 1 ["_law_tape_here","_law_many"] (Jk Jfi)):Cal P w K mg base "_law_gain" 2 ["_law_tape_here"] (Jk Je0):=by
 refine D.cal λ f fd F=>F.ok Jck (J3 ?_) (λ cdv A outer s H vs Q E hr h=>?_)
 . rintro as n P ⟨rfl,_⟩
   rfl
 refine ⟨_,(@Jb _ _ _ _ _ (Jy (i:=1) Jck.nd rfl (Qa rfl) (Yz Ga (hr.mono (by decide)) rfl (Ja (pv 0) (Z9 Ji Jc))))
  (@Jb _ _ _ _ _ (Wh (J4 Jag (pv 1) Ji (Jz _)) (@Jb _ _ _ _ _ (@Jec _ _ 2 _ _ _ _ Jck.nd rfl (Qa rfl) (Yy (Ja4 (J1 (Ju Jam (Yz Ga (hr.mono (by decide)) rfl (Ja (pv 0) (Z9 Ji Jc))) Ji)) (Ja4 (J1 (Ju Jam (Yz Ga (hr.mono (by decide)) rfl (Ja (pv 0) (Z9 Ji Jc))) Ji)) Jw))) rfl (Qa rfl))
  (@Jh _ _ _ (@Jr _ _ _ _ (Jq Jt (pv 2) (Ju Ja1 (Yz Ga (hr.mono (by decide)) rfl (Ja (pv 0) (Z9 Ji Jc))) Ji) (λ _ _=>rfl))))) Yp)
  (@Jh _ _ _ (@Jr _ _ _ _ (Jq Jt (@PEs.out _ _ _ (Yy (J2 Yt (J2 Yt (Vo (J1 (Bj Wp Ji)) (Vo (J1 (Bj Wp Ji)) (Vo (J1 (Bj Wp Ji)) (J2 Yt (J2 Yt (J2 Yt (Vo (J1 (Bj Wp Ji)) Jw))))))))))) (pv 1) (λ _ _=>rfl)))))),Jv h ?_⟩
 rintro as n P ⟨rfl,hn,q⟩
 refine ⟨rfl,10,rfl,by omega,by decide,by decide +kernel,λ r r0 r1=>⟨[.tape,.d (.int r),.jnk],.eq rfl,?_⟩⟩
 refine Jhp (Wj (λ c=>?_) (λ c=>⟨_,.refl,?_⟩))
 . refine ⟨19,rfl,by omega,by decide,by decide +kernel,λ z z0 z1=>⟨195,rfl,by omega,by decide,by decide +kernel,λ y y0 y1=>⟨V7 (Xc rfl),⟨_,.refl,3,rfl,by omega,by decide,by decide +kernel,λ v v0 v1=>?_⟩⟩⟩⟩
   have:v/2=0\/v/2=1:=by omega
   refine ⟨Ja2 (by decide) (by decide +kernel),?_⟩
   rcases this with h | h
   . exact ⟨.int (z-9),by show atI [Qv (z-9),.int (y-97)] (v/2)=_;rw [h];rfl,q _ _ (by omega) (by omega) (by omega)⟩
   . exact ⟨.int (y-97),by show atI [Qv (z-9),.int (y-97)] (v/2)=_;rw [h];rfl,q _ _ (by omega) (by omega) (by omega)⟩
 . have hr9:r≠9:=of_decide_eq_false c
   refine ⟨V7 (Xc rfl),?_⟩
   have:r=0\/r=1\/r=2\/r=3\/r=4\/r=5\/r=6\/r=7\/r=8:=by omega
   rcases this with rfl | rfl | rfl | rfl | rfl | rfl | rfl | rfl | rfl<;>exact ⟨_,rfl,q _ _ (by decide) (by decide) (by omega)⟩
theorem Jlu:FnScope ["_law_tape_here","_law_purses"] ["_law_tape_here","_law_purses"] (Jd Jal):=⟨rfl,rfl,rfl,by decide +kernel,rfl,by decide +kernel,by decide +kernel⟩
theorem Jlv (T:Txt mg) (D:Def K mg "_law_gains" Jal ["_law_tape_here","_law_purses"]) (G5:Cal P w K mg base "_law_gain" 2 ["_law_tape_here"] (Jk Je0)):Cal P w K mg base "_law_gains" 3 ["_law_tape_here","_law_purses"] (Jk Jcv):=by
 refine D.cal λ f fd F=>F.ok Jlu (J3 ?_) (λ cdv A outer s H vs Q E hr h=>?_)
 . rintro as n P ⟨U,rfl,_⟩
   rfl
 refine ⟨_,(@Jh _ _ _ (@Jr _ _ _ _ (J6 Yg rfl T.b_tuple Ya2 (Wx (Yx (sc:=(Jd Jal)) (N:=["_law_tape_here","_law_purses"]) (N':=["_law_p","_law_tape_here"]) (k:=1) (idx:=[0]) rfl (by exact ⟨rfl,by decide +kernel,by decide +kernel,by decide +kernel,by decide +kernel,by decide +kernel,rfl,rfl⟩) rfl rfl (Y8 rfl T.b_range (Ja (pv 1) Jc)) (λ _ _ _ _=>(Js (i:=0) (show (["_law_p","_law_tape_here"]:List Str).Nodup by decide +kernel) rfl (Qa rfl) (Qp rfl))) (λ _ _ _ _=>Yb) (λ _ _ _ _=>(Yz G5 (hr.mono (by decide)) rfl (Ja (pv 1) Jc)))) Jc)))),Jv h ?_⟩
 rintro as n P ⟨U,rfl,hn,u0,u1,q⟩
 have hs:sizeLine=16777216:=Yau
 refine ⟨rfl,U,rfl,⟨by omega,by omega⟩,⟨rfl,by rw [Yn];omega⟩,?_⟩
 refine Jmm 4 (n+24) (λ y=>∃ i:Int,y = .int i/\-97<=i/\i<=97) (λ x _ k K hk h=>Ve ⟨rfl,by omega,λ r m r0 r1 hm=>h _ _ ⟨r,rfl,r0,r1⟩ hm⟩) (by rw [Yn];omega) (λ ys k hy hg hk=>?_)
 rw [Yn] at hy hk
 obtain ⟨f,rfl,hf⟩:=Jz6 ys _ hy hg
 exact q f k hf (by omega)
theorem Z0:FnScope ["_law_tape_here","_law_rooms","_law_purses","_law_ways","_law_pair","_law_extra","_law_room","_law_one","_law_step"] ["_law_tape_here","_law_rooms","_law_purses"] (Jd Bw):=⟨rfl,rfl,rfl,by decide +kernel,rfl,by decide +kernel,by decide +kernel⟩
theorem Ji8 (T:Txt mg) (D:Def K mg "_law_nested" Bw ["_law_tape_here","_law_rooms","_law_purses"]) (Gi:Cal P w K mg base "_law_gains" 3 ["_law_tape_here","_law_purses"] (Jk Jcv)) (Ga:Cal P w K mg base "_law_draw" 1 ["_law_tape_here","_law_many"] (Jk Jfi)):Cal P w K mg base "_law_nested" 4 ["_law_tape_here","_law_rooms","_law_purses"] (Z4 Jdl):=by
 refine D.cal λ f fd F=>F.ok Z0 (Ba ?_) (λ cdv A outer s H vs Q E hr h=>?_)
 . rintro as n P ⟨R,U,rfl,_⟩
   rfl
 refine ⟨_,(@Jb _ _ _ _ _ (@Jec _ _ 3 _ _ _ _ Z0.nd rfl (Qa rfl) (Yy Jw) rfl (Qa rfl))
  (@Jb _ _ _ _ _ (@Jec _ _ 4 _ _ _ _ Z0.nd rfl (Qa rfl) (Yy (Wa (J1 (Yz Gi (hr.mono (by decide)) rfl (Ja (pv 0) (Ja (pv 2) Jc)))) Jw)) rfl (Qa rfl))
  (@Jb _ _ _ _ _ (Jcm (Jl5 J5a J5b J5c V6 (pv 4) (Z7 (J6 Yg rfl T.b_tuple Ya2 (Wx (Yx (sc:=(Jd Bw)) (N:=["_law_tape_here","_law_rooms","_law_purses","_law_ways","_law_pair","_law_extra","_law_room","_law_one","_law_step"]) (N':=["_law_number"]) (k:=1) (idx:=[]) rfl (by exact ⟨rfl,by decide +kernel,by decide +kernel,by decide +kernel,by decide +kernel,by decide +kernel,rfl,rfl⟩) rfl rfl (Jss (Jq Jt (pv 4) Ji (λ _ _=>rfl))) (λ _ _ _ _=>(Js (i:=0) (show (["_law_number"]:List Str).Nodup by decide +kernel) rfl (Qa rfl) (Qp rfl))) (λ _ _ _ _=>Yb) (λ _ _ _ _=>(Bj Wp (pv 0)))) Jc)) Jc)))
  (@Jb _ _ _ _ _ (Jy (i:=5) Z0.nd rfl (Qa rfl) (Yz Ga (hr.mono (by decide)) rfl (Ja (pv 0) (Ja (pv 2) Jc))))
  (@Jb _ _ _ _ _ (We Xs rfl (Y8 rfl T.b_range (Ja (pv 1) Jc)) (Js (i:=6) Z0.nd rfl (Qa rfl) (Qa rfl))
  (@Jb _ _ _ _ _ (Jy (i:=7) Z0.nd rfl (Qa rfl) (J6 Z6 rfl T.b_list Ya7 (Zb (Jq Jt (pv 4) (Ju Bz (pv 6) Ji) (λ _ _=>rfl)) Jc)))
  (@Jb _ _ _ _ _ (Yq (Ju W4 (Jq Jt (pv 7) (pv 5) (λ _ _=>rfl)) (Jq Jt (@PEs.out _ _ _ (Yy (J2 Yt (J2 Yt (J2 Yt (J2 Yt (Vo (J1 (Bj Wp Ji)) Jw))))))) (Yz Ga (hr.mono (by decide)) rfl (Ja (pv 0) (Z9 Ji Jc))) (λ _ _=>rfl))) (Wo (pv 7) (pv 5) Ys (λ v=>J5 _ _ _ _ _ v)))
  (@Jb _ _ _ _ _ (Jcm (Jl5 J5a J5b J5c V6 (pv 3) (Jd9 (@PEs.out _ _ _ (Zs (Y5 (J1 (pv 6)) (Y5 (J1 (pv 6)) (Wa (J1 (J6 Yg rfl T.b_tuple Ya2 (Ja (pv 7) Jc))) Jw))))) Jc)))
  (@Jb _ _ _ _ _ (Jy (i:=8) Z0.nd rfl (Qa rfl) (Ju Jdc (@PEs.out _ _ _ (Yy (J2 Yt Jw))) (pv 2)))
  (@Jb _ _ _ _ _ (Yq (Jq Jt (@PEs.out _ _ _ (Yy (Vo (J1 (Bj Wp Ji)) (Vo (J1 (Bj Wp Ji)) (Vo (J1 (Bj Wp Ji)) (J2 Yt (J2 Yt Jw))))))) (Yz Ga (hr.mono (by decide)) rfl (Ja (pv 0) (Z9 Ji Jc))) (λ _ _=>rfl)) (Wo (pv 8) (Yz Ga (hr.mono (by decide)) rfl (Ja (pv 0) (Ja (pv 2) Jc))) Ys (λ v=>Jgc _ _ _ _ _ _ _ v)))
  (@Jh _ _ _ (Jcm (Jl5 J5a J5b J5c V6 (pv 3) (Jd9 (@PEs.out _ _ _ (Zs (Y5 (J1 (pv 6)) (Ja4 (J1 (Ju Bz (Ju W4 (pv 6) Ji) (pv 1))) (Wa (J1 (J6 Yg rfl T.b_tuple Ya2 (Ja (pv 8) Jc))) Jw))))) Jc))))))))))
  (@Jh _ _ _ (@Jr _ _ _ _ (pv 3)))))))),Vg h ?_⟩
 rintro as n P ⟨R,U,rfl,hn,hR,hU,q⟩
 have hs:sizeLine=16777216:=Yau
 refine ⟨rfl,Xo _,⟨[.tape,.d (.int R),.d (.int U),.own [],.jnk,.jnk,.jnk,.jnk,.jnk],.eq rfl,?_⟩⟩
 refine ⟨U,rfl,by omega,by omega,by omega,λ f m hf hm=>⟨V7 (Xc rfl),⟨[.tape,.d (.int R),.d (.int U),.own [],.own [Jfg U f],.jnk,.jnk,.jnk,.jnk],.eq rfl,?_⟩⟩⟩
 refine ⟨_,rfl,⟨rfl,by rw [Jko];omega⟩,?_⟩
 refine Wy (λ i=>.int (-(f i))) (λ i hi n K hk=>Ve hk) ⟨show 1<sizeLine by omega,⟨[.tape,.d (.int R),.d (.int U),.own [],.own [Jfg U f,Jfg U λ i=>-(f i)],.jnk,.jnk,.jnk,.jnk],.eq rfl,?_⟩⟩
 refine ⟨U,rfl,by omega,by omega,V8 (by omega),λ e e0 e1=>⟨_,.refl,?_⟩⟩
 refine ⟨R,rfl,⟨by omega,by omega⟩,?_⟩
 refine ⟨λ i env k=>∃ (ws:List Way) (x y z:Vl),env=[.tape,.d (.int R),.d (.int U),.own (ws.map Y6),.own [Jfg U f,Jfg U λ i=>-(f i)],.d (.int e),x,y,z]/\ws.length=2*i/\(∀ w∈ws,WayOk R U w)/\k<=n+25+3*i,⟨[],_,_,_,rfl,rfl,(λ w hw=>by cases hw),by omega⟩,?_,?_⟩
 . rintro i x env k hx ⟨ws,_,_,_,rfl,hl,hw,hk⟩
   obtain ⟨hi,rfl⟩:=Jqb hx
   have hi12:i<12:=by omega
   obtain ⟨g,hg,hgb⟩:∃ g:Nat->Int,atI [Jfg U f,Jfg U λ i=>-(f i)] ((i:Int)%2)=some (Jfg U g)/\∀ j,j<U.toNat->-97<=g j/\g j<=97:=by
    have:(i:Int)%2=0\/(i:Int)%2=1:=by omega
    rcases this with h | h
    . exact ⟨f,by rw [h];rfl,hf⟩
    . exact ⟨λ i=>-(f i),by rw [h];rfl,λ j hj=>by have:=hf j hj;show -97<=-(f j)/\-(f j)<=97;omega⟩
   refine ⟨show (0:Int)<2 by decide,_,hg,⟨_,.refl,?_⟩⟩
   refine ⟨_,Zt e0 (Jkp (by omega)),V7 (Xc rfl),5,rfl,by omega,by decide,by decide +kernel,λ r r0 r1=>?_⟩
   obtain ⟨v,hv,v0,v1⟩:∃ v:Int,atI [Qv 0,.int 0,.int 0,.int 1,.int (-1)] r=some (.int v)/\-1<=v/\v<=1:=by
    have:r=0\/r=1\/r=2\/r=3\/r=4:=by omega
    rcases this with rfl | rfl | rfl | rfl | rfl<;>exact ⟨_,rfl,by decide,by decide⟩
   refine ⟨_,hv,_,Joq e0 (by rw [Jko];omega),?_⟩
   rw [Jhq]
   have ge:=hgb e.toNat (by omega)
   have b1:∀ j,j<U.toNat->-99<=putF g e.toNat (g e.toNat+v) j/\putF g e.toNat (g e.toNat+v) j<=99:=Jkt (λ j hj=>by have:=hgb j hj;omega) (by omega)
   generalize putF g e.toNat (g e.toNat+v)=g1 at b1
   refine ⟨_,.fz 7 _ rfl .refl,B7,by rw [Qb];omega,?_⟩
   refine ⟨[.tape,.d (.int R),.d (.int U),.own ((ws++[Jf7 i i U g1]).map Y6),.own [Jfg U f,Jfg U λ i=>-(f i)],.d (.int e),.d (.int i),.d (.list (fl U.toNat g1)),_],.eq (by rw [Xb,J4z,<- Jhs];rfl),?_⟩
   refine ⟨V7 (Xc rfl),⟨by omega,by omega,by simp;omega⟩,?_⟩
   rw [Jym]
   refine ⟨_,.refl,V7 (Xc rfl),5,rfl,by omega,by decide,by decide +kernel,λ r r0 r1=>?_⟩
   obtain ⟨v2,hv2,v20,v21⟩:∃ v:Int,atI [Qv (-1),.int (-1),.int (-1),.int 0,.int 1] r=some (.int v)/\-1<=v/\v<=1:=by
    have:r=0\/r=1\/r=2\/r=3\/r=4:=by omega
    rcases this with rfl | rfl | rfl | rfl | rfl<;>exact ⟨_,rfl,by decide,by decide⟩
   refine ⟨_,hv2,U,rfl,by omega,by omega,V8 (by omega),λ z z0 z1=>⟨_,Joq z0 (by rw [Jko];omega),?_⟩⟩
   rw [Jhq]
   have b2:∀ j,j<U.toNat->-99<=putF (λ _=>0) z.toNat v2 j/\putF (λ _=>0) z.toNat v2 j<=99:=Jkt (λ j hj=>by omega) (by omega)
   generalize putF (λ _=>0) z.toNat v2=g2 at b2
   refine ⟨_,.fz 8 _ rfl .refl,show (0:Int)<R by omega,B7,by rw [Qb,Xj];simp;omega,?_⟩
   refine ⟨ws++[Jf7 i i U g1]++[Jf7 i ((i+1:Int)%R) U g2],.d (.int i),.d (.list (fl U.toNat g1)),.d (.list (fl U.toNat g2)),?_,by simp;omega,λ w hw'=>?_,by omega⟩
   . rw [Xb (l₂:=[Jf7 i ((i+1:Int)%R) U g2]),J4z,<- Jhs];rfl
   . have hmod:0<=(i+1:Int)%R/\(i+1:Int)%R<R:=⟨J3u _ (by omega),J34 _ (by omega)⟩
     rcases Q6.mp hw' with hw' | hw'
     . rcases Q6.mp hw' with hw' | hw'
       . exact hw w hw'
       . rw [Qt.mp hw']
         exact Jht (by omega) (by omega) (by omega) b1
     . rw [Qt.mp hw']
       exact Jht (by omega) hmod (by omega) b2
 . rintro env k ⟨ws,_,_,_,rfl,hl,hw,hk⟩
   rw [Yn] at hl hk
   exact ⟨_,.refl,q ws k hw (by omega) (by omega)⟩
theorem Zg:FnScope ["_law_tape_here","_law_most","_law_rooms","_law_purses","_law_ways","_law_down","_law_k","_law_one","_law_at","_law_a","_law_b"] ["_law_tape_here","_law_most"] (Jd Jbv):=⟨rfl,rfl,rfl,by decide +kernel,rfl,by decide +kernel,by decide +kernel⟩
theorem Jnu (T:Txt mg) (D:Def K mg "_law_book" Jbv ["_law_tape_here","_law_most"]) (Ga:Cal P w K mg base "_law_draw" 1 ["_law_tape_here","_law_many"] (Jk Jfi)) (G6:Cal P w K mg base "_law_nested" 4 ["_law_tape_here","_law_rooms","_law_purses"] (Z4 Jdl)) (Gi:Cal P w K mg base "_law_gains" 3 ["_law_tape_here","_law_purses"] (Jk Jcv)):Cal P w K mg base "_law_book" 5 ["_law_tape_here","_law_most"] (Jk Jks):=by
 refine D.cal λ f fd F=>F.ok Zg (J3 ?_) (λ cdv A outer s H vs Q E hr h=>?_)
 . rintro as n P ⟨mr,mu,mw,rfl,_⟩
   rfl
 refine ⟨_,(@Jb _ _ _ _ _ (Jy (i:=2) Zg.nd rfl (Qp rfl) (Ju W4 Ji (Yz Ga (hr.mono (by decide)) rfl (Ja (pv 0) (Zb (Jq Ze (pv 1) Ji (λ _ _=>rfl)) Jc)))))
  (@Jb _ _ _ _ _ (Jy (i:=3) Zg.nd rfl (Qa rfl) (Ju W4 Ji (Yz Ga (hr.mono (by decide)) rfl (Ja (pv 0) (Zb (Jq Ze (pv 1) Ji (λ _ _=>rfl)) Jc)))))
  (@Jb _ _ _ _ _ (@Jec _ _ 4 _ _ _ _ Zg.nd rfl (Qa rfl) (Yy Jw) rfl (Qa rfl))
  (@Jb _ _ _ _ _ (Wh (J4 Jag (Yz Ga (hr.mono (by decide)) rfl (Ja (pv 0) (Z9 Ji Jc))) Ji (Jz _)) (@Jh _ _ _ (Jy (i:=4) Zg.nd rfl (Qa rfl) (Yz G6 (hr.mono (by decide)) rfl (Ja (pv 0) (Ja (pv 2) (Ja (pv 3) Jc)))))) Yp)
  (@Jb _ _ _ _ _ (Jy (i:=5) Zg.nd rfl (Qa rfl) (Yz Ga (hr.mono (by decide)) rfl (Ja (pv 0) (Z9 Ji Jc))))
  (@Jb _ _ _ _ _ (We Xs rfl (Y8 rfl T.b_range (Z7 (Yz Ga (hr.mono (by decide)) rfl (Ja (pv 0) (Z7 (J0 (Jq9 rfl) rfl T.b_max boot_max (Z9 Ji (Ja3 (Ju Jam (Ju W4 (Jq Ze (pv 1) Ji (λ _ _=>rfl)) Ji) (J0 Yi rfl T.b_len Uo (Ja (pv 4) Jc))) Jc))) Jc))) Jc)) (Js (i:=6) Zg.nd rfl (Qa rfl) (Qa rfl))
  (@Jb _ _ _ _ _ (Jy (i:=7) Zg.nd rfl (Qa rfl) (J6 Z6 rfl T.b_list Ya7 (Z7 (Yz Gi (hr.mono (by decide)) rfl (Ja (pv 0) (Ja (pv 3) Jc))) Jc)))
  (@Jb _ _ _ _ _ (Wh (J4 Jag (pv 5) Ji (Jz _)) (@Jb _ _ _ _ _ (Jy (i:=8) Zg.nd rfl (Qa rfl) (Yz Ga (hr.mono (by decide)) rfl (Ja (pv 0) (Ja (pv 3) Jc))))
  (@Jh _ _ _ (Yq (J0 (Jra rfl) rfl T.b_min boot_min (Zb (Jq Jt (pv 7) (pv 8) (λ _ _=>rfl)) (Jmb (Bj Wp Ji) Jc))) (Wo (pv 7) (pv 8) Ys (λ v=>J5 _ _ _ _ _ v))))) Yp)
  (@Jb _ _ _ _ _ (Yq (Yx (sc:=(Jd Jbv)) (N:=["_law_tape_here","_law_most","_law_rooms","_law_purses","_law_ways","_law_down","_law_k","_law_one","_law_at","_law_a","_law_b"]) (N':=["_law_end","_law_tape_here","_law_rooms"]) (k:=1) (idx:=[0,2]) rfl (by exact ⟨rfl,by decide +kernel,by decide +kernel,by decide +kernel,by decide +kernel,by decide +kernel,rfl,rfl⟩) rfl rfl (Y8 rfl T.b_range (Z9 Ji Jc)) (λ _ _ _ _=>(Js (i:=0) (show (["_law_end","_law_tape_here","_law_rooms"]:List Str).Nodup by decide +kernel) rfl (Qa rfl) (Qp rfl))) (λ _ _ _ _=>Yb) (λ _ _ _ _=>(Yz Ga (hr.mono (by decide)) rfl (Ja (pv 1) (Ja (pv 2) Jc))))) (Jti (K':=K) (i:=9) (j:=10) rfl Zg.nd ⟨rfl,(Qa rfl),(Qa rfl)⟩ ⟨rfl,(Qa rfl),(Qa rfl)⟩ rfl))
  (@Jh _ _ _ (Jcm (Jl5 J5a J5b J5c V6 (pv 4) (Jd9 (@PEs.out _ _ _ (Zs (Y5 (J1 (pv 9)) (Y5 (J1 (pv 10)) (Wa (J1 (J6 Yg rfl T.b_tuple Ya2 (Ja (pv 7) Jc))) Jw))))) Jc))))))))
  (@Jh _ _ _ (@Jr _ _ _ _ (@PEs.out _ _ _ (Zs (Y5 (J1 (pv 2)) (Y5 (J1 (pv 3)) (Wa (J1 (J6 Yg rfl T.b_tuple Ya2 (Ja (pv 4) Jc))) Jw))))))))))))),Jv h ?_⟩
 rintro as n P ⟨mr,mu,mw,rfl,hn,hr,hu,hw,q⟩
 have hs:sizeLine=16777216:=Yau
 refine ⟨rfl,_,rfl,mr,rfl,by omega,by omega,V8 (by omega),λ r r0 r1=>⟨_,.refl,_,rfl,mu,rfl,by omega,by omega,V8 (by omega),λ u u0 u1=>⟨_,.refl,Xo _,?_⟩⟩⟩
 refine ⟨[.tape,.d (.tuple [.int mr,.int mu,.int mw]),.d (.int (1+r)),.d (.int (1+u)),.own [],.jnk,.jnk,.jnk,.jnk,.jnk,.jnk],.eq rfl,?_⟩
 generalize hR:1+r=R
 generalize hU:1+u=U
 refine Jkq (λ e k=>∃ ws:List Way,e=[.tape,.d (.tuple [.int mr,.int mu,.int mw]),.d (.int R),.d (.int U),.own (ws.map Y6),.jnk,.jnk,.jnk,.jnk,.jnk,.jnk]/\(∀ w∈ws,WayOk R U w)/\ws.length<=24/\k<=n+83) (λ N hN=>?_) ?_
 . refine ⟨3,rfl,by omega,by decide,by decide +kernel,λ z z0 z1=>Jhp (Wj (λ c=>?_) (λ c=>?_))⟩
   . exact ⟨R,U,rfl,by omega,by omega,by omega,λ ws m hw hl hm=>hN _ _ ⟨ws,rfl,hw,hl,by omega⟩⟩
   . exact hN _ _ ⟨[],rfl,(λ w hw=>by cases hw),by decide,by omega⟩
 rintro _ k ⟨ws,rfl,hw0,hl0,hk⟩
 refine ⟨_,.refl,3,rfl,by omega,by decide,by decide +kernel,λ dn d0 d1=>⟨_,.refl,_,rfl,?_⟩⟩
 generalize hmm:(if mw+1-((ws.map Y6).length:Int)>1 then mw+1-((ws.map Y6).length:Int) else 1)=mm
 have hmm2:1<=mm/\mm<=37/\(mm=1\/mm+ws.length=mw+1):=by
  rw [Qb] at hmm
  split at hmm<;>omega
 refine ⟨mm,by rw [<- hmm],by omega,by omega,V8 (by omega),λ t t0 t1=>⟨t,rfl,⟨by omega,by omega⟩,?_⟩⟩
 refine ⟨λ i env k'=>∃ (vs:List Way) (a b c d e:Vl),env=[.tape,.d (.tuple [.int mr,.int mu,.int mw]),.d (.int R),.d (.int U),.own (vs.map Y6),.d (.int dn),a,b,c,d,e]/\(∀ w∈vs,WayOk R U w)/\vs.length=ws.length+i/\k'<=n+85+27*i,⟨ws,_,_,_,_,_,rfl,hw0,rfl,by omega⟩,?_,?_⟩
 . rintro i x env k' hx ⟨vs,xa,xb,xc,xd,xe,rfl,hw,hl,hk'⟩
   obtain ⟨hi,rfl⟩:=Jqb hx
   refine ⟨U,rfl,by omega,by omega,by omega,λ f m hf hm=>⟨_,.refl,?_⟩⟩
   refine Jkq (λ e j=>∃ (g:Nat->Int) (x:Vl),e=[.tape,.d (.tuple [.int mr,.int mu,.int mw]),.d (.int R),.d (.int U),.own (vs.map Y6),.d (.int dn),.d (.int i),.own (fl U.toNat g),x,xd,xe]/\(∀ j,j<U.toNat->-99<=g j/\g j<=99)/\j<=m+1) (λ N hN=>?_) ?_
   . refine Jhp (Wj (λ c=>?_) (λ c=>hN _ _ ⟨f,_,rfl,λ j hj=>by have:=hf j hj;omega,by omega⟩))
     refine ⟨U,rfl,by omega,by omega,V8 (by omega),λ p p0 p1=>⟨_,.refl,_,Zt p0 (Jkp (by omega)),_,Joq p0 (by rw [Jko];omega),?_⟩⟩
     rw [Jhq]
     have fp:=hf p.toNat (by omega)
     exact hN _ _ ⟨_,_,rfl,Jkt (λ j hj=>by have:=hf j hj;omega) (by show -99<=(if (-1:Int)<f p.toNat then (-1:Int) else f p.toNat)/\(if (-1:Int)<f p.toNat then (-1:Int) else f p.toNat)<=99;split<;>omega),by omega⟩
   rintro _ j ⟨g,y,rfl,hg,hj⟩
   refine ⟨_,.fz 7 _ rfl .refl,2,rfl,⟨by decide,by decide⟩,⟨rfl,by rw [Yn];decide⟩,?_⟩
   refine Jmm 1 (m+3) (λ y=>∃ i:Int,y = .int i/\0<=i/\i<=R-1) (λ x _ k K hk h=>Ve ⟨R,rfl,by omega,by omega,V8 (by omega),λ r r0 r1=>h _ _ ⟨r,rfl,r0,by omega⟩ (by omega)⟩) (by rw [Yn];show j+1*2<=m+3;omega) (λ ys k hy hgy hk=>?_)
   rw [Yn] at hy hk
   match ys,hy with
   | [y0,y1],_=>
    obtain ⟨a,rfl,a0,a1⟩:=hgy _ Qh
    obtain ⟨b,rfl,b0,b1⟩:=hgy _ (Qi _ Qh)
    refine ⟨rfl,rfl,⟨_,.refl,B7,by rw [Qb];omega,?_⟩⟩
    have hk2:k<=j+1*2:=hk
    refine ⟨vs++[Jf7 a b U g],.d (.int i),.d (.list (fl U.toNat g)),y,.d (.int a),.d (.int b),?_,λ w hw'=>?_,by simp;omega,by omega⟩
    . rw [Xb,J4z,<- Jhs];rfl
    . rcases Q6.mp hw' with hw' | hw'
      . exact hw w hw'
      . rw [Qt.mp hw']
        exact Jht (by omega) (by omega) (by omega) hg
 . rintro env k' ⟨vs,_,_,_,_,_,rfl,hw,hl,hk'⟩
   rw [Yn] at hl hk'
   refine ⟨_,.fz 4 _ rfl .refl,B7,q R U vs k' ⟨by omega,by omega,by omega,by omega,by omega,hw⟩ (by omega) (by omega) (by omega)⟩
theorem Jnv:FnScope ["thing"] ["thing"] (Jd Jdp):=⟨rfl,rfl,rfl,by decide +kernel,rfl,by decide +kernel,by decide +kernel⟩
theorem Jnw (T:Txt mg) (D:Def K mg "is_whole" Jdp ["thing"]):Cal P w K mg base "is_whole" 1 ["thing"] (Jk Jeh):=by
 refine D.cal λ f fd F=>F.ok Jnv (J3 ?_) (λ cdv A outer s H vs Q E hr h=>?_)
 . rintro as n P ⟨x,rfl,_⟩
   rfl
 refine ⟨_,(@Jh _ _ _ (@Jr _ _ _ _ (Jb2 (J0 Jhg rfl T.b_isinstance Ybz (Ja (pv 0) (Ja (Jj5 rfl T.b_int Ybo (v:=.ty "int") rfl) Jc))) (Jbc (Jsl (J0 Jhg rfl T.b_isinstance Ybz (Ja (pv 0) (Ja (Jj5 rfl T.b_bool boot_bool (v:=.ty "bool") rfl) Jc)))))))),Jv h ?_⟩
 rintro as n P ⟨x,rfl,q⟩
 exact ⟨rfl,rfl,rfl,q⟩
theorem Ji9:FnScope ["thing","least","most"] ["thing","least","most"] (Jd Jbr):=⟨rfl,rfl,rfl,by decide +kernel,rfl,by decide +kernel,by decide +kernel⟩
theorem Jja (T:Txt mg) (D:Def K mg "is_between" Jbr ["thing","least","most"]) (Gb:Cal P w K mg base "is_whole" 1 ["thing"] (Jk Jeh)):Cal P w K mg base "is_between" 2 ["thing","least","most"] (Jk Jfh):=by
 refine D.cal λ f fd F=>F.ok Ji9 (J3 ?_) (λ cdv A outer s H vs Q E hr h=>?_)
 . rintro as n P ⟨x,a,b,rfl,_⟩
   rfl
 refine ⟨_,(@Jh _ _ _ (@Jr _ _ _ _ (Jb2 (Yz Gb (hr.mono (by decide)) rfl (Ja (pv 0) Jc)) (Jbc (Jsy Jxw Jxw (pv 1) (pv 0) (pv 2)))))),Jv h ?_⟩
 rintro as n P ⟨x,a,b,rfl,q⟩
 refine ⟨rfl,x,rfl,?_⟩
 by_cases h:a<=x
 . rw [decide_eq_true h] at q
   show match J5y (decide (a<=x)) with | .bool true=>_ | .bool false=>_ | _=>_
   rw [decide_eq_true h]
   exact q
 . rw [decide_eq_false h] at q
   show match J5y (decide (a<=x)) with | .bool true=>_ | .bool false=>_ | _=>_
   rw [decide_eq_false h]
   exact q
theorem Jpg:FnScope ["book","k"] ["book","k"] (Jd Jft):=⟨rfl,rfl,rfl,by decide +kernel,rfl,by decide +kernel,by decide +kernel⟩
theorem Jph (T:Txt mg) (D:Def K mg "has_way" Jft ["book","k"]) (Gj:Cal P w K mg base "is_between" 2 ["thing","least","most"] (Jk Jfh)):Cal P w K mg base "has_way" 3 ["book","k"] (Jk Jhr):=by
 refine D.cal λ f fd F=>F.ok Jpg (J3 ?_) (λ cdv A outer s H vs Q E hr h=>?_)
 . rintro as n P ⟨R,U,ws,k,rfl,_⟩
   rfl
 refine ⟨_,(@Jh _ _ _ (@Jr _ _ _ _ (Yz Gj (hr.mono (by decide)) rfl (Ja (pv 1) (Z9 Ji (Ja3 (Ju Jam (J0 Yi rfl T.b_len Uo (Zb (Jq Ze (pv 0) Ji (λ _ _=>rfl)) Jc)) Ji) Jc)))))),Jv h ?_⟩
 rintro as n P ⟨R,U,ws,k,rfl,hk,q⟩
 refine ⟨rfl,_,rfl,k,0,_,rfl,?_⟩
 rw [decide_eq_true hk.1,decide_eq_true (by rw [Qb];omega)]
 exact q
theorem Jis:FnScope ["thing","many"] ["thing","many"] (Jd Jau):=⟨rfl,rfl,rfl,by decide +kernel,rfl,by decide +kernel,by decide +kernel⟩
theorem Jit (T:Txt mg) (D:Def K mg "is_tuple_of" Jau ["thing","many"]):Cal P w K mg base "is_tuple_of" 1 ["thing","many"] (Jk Jls):=by
 refine D.cal λ f fd F=>F.ok Jis (J3 ?_) (λ cdv A outer s H vs Q E hr h=>?_)
 . rintro as n P ⟨xs,rfl,_⟩
   rfl
 refine ⟨_,(@Jh _ _ _ (@Jr _ _ _ _ (Jb2 (J0 Jhg rfl T.b_isinstance Ybz (Ja (pv 0) (Ja (Jj5 rfl T.b_tuple Ya2 (v:=.ty "tuple") rfl) Jc))) (Jbc (Zl Jag (J0 Yi rfl T.b_len Uo (Ja (pv 0) Jc)) (pv 1) (Jz _)))))),Jv h ?_⟩
 rintro as n P ⟨xs,rfl,q⟩
 refine ⟨rfl,rfl,Ve (Jhp ?_)⟩
 rw [decide_eq_true rfl]
 exact q
theorem Jiu:FnScope ["thing","many"] ["thing","many"] (Jd Bi):=⟨rfl,rfl,rfl,by decide +kernel,rfl,by decide +kernel,by decide +kernel⟩
theorem Jiv (T:Txt mg) (D:Def K mg "are_numbers" Bi ["thing","many"]) (Gk:Cal P w K mg base "is_tuple_of" 1 ["thing","many"] (Jk Jls)) (Gb:Cal P w K mg base "is_whole" 1 ["thing"] (Jk Jeh)):Cal P w K mg base "are_numbers" 2 ["thing","many"] (Jk Jg2):=by
 refine D.cal λ f fd F=>F.ok Jiu (J3 ?_) (λ cdv A outer s H vs Q E hr h=>?_)
 . rintro as n P ⟨cs,rfl,_⟩
   rfl
 refine ⟨_,(@Jh _ _ _ (@Jr _ _ _ _ (Jb2 (Yz Gk (hr.mono (by decide)) rfl (Ja (pv 0) (Ja (pv 1) Jc))) (Jbc (J0 Jd7 rfl T.b_all boot_all (Wx (Yx (sc:=(Jd Bi)) (N:=["thing","many"]) (N':=["part"]) (k:=1) (idx:=[]) rfl (by exact ⟨rfl,by decide +kernel,by decide +kernel,by decide +kernel,by decide +kernel,by decide +kernel,rfl,rfl⟩) rfl rfl (Jss (pv 0)) (λ _ _ _ _=>(Js (i:=0) (show (["part"]:List Str).Nodup by decide +kernel) rfl (Qa rfl) (Qp rfl))) (λ _ _ _ _=>Yb) (λ _ _ _ _=>(Jb2 (Yz Gb (hr.mono (by decide)) rfl (Ja (pv 0) Jc)) (Jbc (Zl Jsw (pv 0) Ji (Jz _)))))) Jc)))))),Jv h ?_⟩
 rintro as n P ⟨cs,rfl,nn,cl,q⟩
 have hs:sizeLine=16777216:=Yau
 refine ⟨rfl,cs.map .int,by rw [Qb],⟨rfl,by rw [Qb];omega⟩,?_⟩
 refine Y9 (f:=Qv) (λ _:Int=>J5y true) (λ c hc m K hK=>Ve ⟨c,rfl,?_⟩) ?_
 . have:=nn c hc
   rw [<- decide_eq_true (p:=(0:Int)<=c) this] at hK
   exact hK
 refine ⟨cs.map λ _=>true,by rw [Qw];rfl,rfl,?_⟩
 rw [show (cs.map λ _=>true).all id=true from X6.mpr λ x hx=>by obtain ⟨_,_,rfl⟩:=Qm.mp hx;rfl]
 exact q
theorem Wu:FnScope ["book","counts","rooms","purses","ways","more","a","b","gains","count"] ["book","counts"] (Jd Jav):=⟨rfl,rfl,rfl,by decide +kernel,rfl,by decide +kernel,by decide +kernel⟩
theorem Jiw (T:Txt mg) (D:Def K mg "is_balanced" Jav ["book","counts"]):Cal P w K mg base "is_balanced" 1 ["book","counts"] (Jk Jlt):=by
 refine D.cal λ f fd F=>F.ok Wu (J3 ?_) (λ cdv A outer s H vs Q E hr h=>?_)
 . rintro as n P ⟨R,U,ws,cs,rfl,_⟩
   rfl
 refine ⟨_,(@Jb _ _ _ _ _ (Yq (pv 0) (Bg (K':=K) (i:=2) (j:=3) (m:=4) rfl Wu.nd ⟨rfl,(Qa rfl),(Qa rfl)⟩ ⟨rfl,(Qa rfl),(Qa rfl)⟩ ⟨rfl,(Qa rfl),(Qa rfl)⟩ rfl))
  (@Jb _ _ _ _ _ (Jy (i:=5) Wu.nd rfl (Qa rfl) (Ju Jdc (@PEs.out _ _ _ (Yy (J2 Yt Jw))) (pv 2)))
  (@Jb _ _ _ _ _ (We Xs rfl (Vf rfl T.b_zip (Ja (pv 4) (Ja (pv 1) Jc))) (Jj6 (n:=2) rfl (Wn (Bg (K':=K) (i:=6) (j:=7) (m:=8) rfl Wu.nd ⟨rfl,(Qa rfl),(Qa rfl)⟩ ⟨rfl,(Qa rfl),(Qa rfl)⟩ ⟨rfl,(Qa rfl),(Qa rfl)⟩ rfl) (Wn (Js (i:=9) Wu.nd rfl (Qa rfl) (Qa rfl)) Jd2)))
  (@Jb _ _ _ _ _ (Jps (pv 5) (pv 6) Jmf (pv 9) Jzc Ys)
  (@Jh _ _ _ (Jps (pv 5) (pv 7) Jmf (pv 9) Jzb Ys))))
  (@Jh _ _ _ (@Jr _ _ _ _ (Jsl (J0 (Jrs rfl) rfl T.b_any boot_any (Ja (pv 5) Jc)))))))),Jv h ?_⟩
 rintro as n P ⟨R,U,ws,cs,rfl,ok,ro,q⟩
 have hs:sizeLine=16777216:=Yau
 have r0:=ok.r0
 have r1:=ok.r1
 have wl:=ok.len
 have cl:=ro.len
 refine ⟨rfl,rfl,rfl,⟨[.d (J8 R U ws),.d (.tuple (cs.map .int)),.d (.int R),.d (.int U),.d (.tuple (ws.map Y6)),.jnk,.jnk,.jnk,.jnk,.jnk],.eq rfl,V7 (Xc rfl),⟨by omega,by omega,by simp;omega⟩,?_⟩⟩
 rw [Jym]
 refine ⟨[.d (J8 R U ws),.d (.tuple (cs.map .int)),.d (.int R),.d (.int U),.d (.tuple (ws.map Y6)),.own (fl R.toNat λ r=>W2 ws cs 0 (r:Nat)),.jnk,.jnk,.jnk,.jnk],.eq rfl,_,_,_,_,rfl,rfl,rfl,?_⟩
 refine ⟨λ i env j=>j=n/\∃ x y z t:Vl,env=[.d (J8 R U ws),.d (.tuple (cs.map .int)),.d (.int R),.d (.int U),.d (.tuple (ws.map Y6)),.own (fl R.toNat λ r=>W2 ws cs i (r:Nat)),x,y,z,t],⟨rfl,_,_,_,_,rfl⟩,?_,?_⟩
 . rintro i x env j hx ⟨rfl,x',y',z',t',rfl⟩
   rw [Jue cl] at hx
   have hi:i<ws.length:=by
    have:=(Qq.mp hx).1
    rwa [Qb,Qy] at this
   rw [Jh2 hi] at hx
   cases hx
   have wok:=ok.ways _ (Ym (k:=(i:Int)) (Xk i) (by omega))
   have a0:=wok.a0
   have a1:=wok.a1
   have b0:=wok.b0
   have b1:=wok.b1
   refine ⟨rfl,rfl,rfl,rfl,⟨_,a0,Jkp (by omega),?_⟩⟩
   refine ⟨[.d (J8 R U ws),.d (.tuple (cs.map .int)),.d (.int R),.d (.int U),.d (.tuple (ws.map Y6)),.own (fl R.toNat (putF (λ r=>W2 ws cs i (r:Nat)) (Je ws (i:Int)).a.toNat (W2 ws cs i ((Je ws (i:Int)).a.toNat:Nat)-cs.getD i 0))),.d (.int (Je ws (i:Int)).a),.d (.int (Je ws (i:Int)).b),.d (.tuple ((Je ws (i:Int)).g.map .int)),.d (.int (cs.getD i 0))],.eq (by rw [<- Jhq];rfl),_,b0,Jkp (by omega),rfl,.d (.int (Je ws (i:Int)).a),.d (.int (Je ws (i:Int)).b),.d (.tuple ((Je ws (i:Int)).g.map .int)),.d (.int (cs.getD i 0)),?_⟩
   rw [Jhq,<- Jxp ok hi]
   rfl
 . rintro env j ⟨rfl,x,y,z,t,rfl⟩
   have lz:(W9 (ws.map Y6) (cs.map Qv)).length=ws.length:=by rw [Jue cl,Qb,Qy]
   rw [lz]
   have er:fl R.toNat (λ r=>W2 ws cs ws.length (r:Nat))=(Qo R.toNat (0:Int)).map .int:=by
    rw [Jts (g:=λ _=>0) (λ r hr=>ro.bal r hr)]
    unfold fl
    rw [J3s,J6h,Qy]
   rw [er]
   refine ⟨_,.fz 5 _ rfl .refl,Qo R.toNat (0:Int),rfl,?_⟩
   rw [show (Qo R.toNat (0:Int)).any (λ n=>decide (n≠0))=false from J6u.mpr λ x hx=>by rw [(Uq.mp hx).2];decide]
   exact q
theorem Jnx:FnScope ["book","counts"] ["book","counts"] (Jd Jdq):=⟨rfl,rfl,rfl,by decide +kernel,rfl,by decide +kernel,by decide +kernel⟩
theorem Jny (T:Txt mg) (D:Def K mg "is_round" Jdq ["book","counts"]) (Gm:Cal P w K mg base "are_numbers" 2 ["thing","many"] (Jk Jg2)) (Gn:Cal P w K mg base "is_balanced" 1 ["book","counts"] (Jk Jlt)):Cal P w K mg base "is_round" 3 ["book","counts"] (Jk Jq3):=by
 refine D.cal λ f fd F=>F.ok Jnx (J3 ?_) (λ cdv A outer s H vs Q E hr h=>?_)
 . rintro as n P ⟨R,U,ws,cs,rfl,_⟩
   rfl
 refine ⟨_,(@Jh _ _ _ (@Jr _ _ _ _ (Jb2 (Yz Gm (hr.mono (by decide)) rfl (Ja (pv 1) (Z7 (J0 Yi rfl T.b_len Uo (Zb (Jq Ze (pv 0) Ji (λ _ _=>rfl)) Jc)) Jc))) (Jb2 (J0 (Jrt rfl) rfl T.b_any boot_any (Ja (pv 1) Jc)) (Jbc (Yz Gn (hr.mono (by decide)) rfl (Ja (pv 0) (Ja (pv 1) Jc)))))))),Jv h ?_⟩
 rintro as n P ⟨R,U,ws,cs,rfl,ok,rd,q⟩
 have wl:=ok.len
 have cl:=rd.ro.len
 obtain ⟨k0,hk0⟩:=rd.ne
 refine ⟨rfl,_,rfl,cs,by rw [Qb,cl],rd.ro.nn,by omega,cs,rfl,?_⟩
 rw [show cs.any (λ n=>decide (n≠0))=true from ?_]
 . exact ⟨R,U,ws,cs,rfl,ok,rd.ro,q⟩
 have kl:k0<cs.length:=by
  rcases Xy k0 cs.length with z | z
  . exact z
  . rw [Qg,Qx z] at hk0
    exact absurd hk0 (by decide)
 rw [Qg,Qd kl] at hk0
 have hk0:0<cs[k0]:=hk0
 exact J7o.mpr ⟨cs[k0],Xe kl,decide_eq_true (by omega)⟩
theorem Jc8:FnScope ["book","counts","rooms","purses","ways"] ["book","counts"] (Jd V0):=⟨rfl,rfl,rfl,by decide +kernel,rfl,by decide +kernel,by decide +kernel⟩
theorem Jjb (T:Txt mg) (D:Def K mg "round_gain" V0 ["book","counts"]):Cal P w K mg base "round_gain" 1 ["book","counts"] (Jk Jk4):=by
 refine D.cal λ f fd F=>F.ok Jc8 (J3 ?_) (λ cdv A outer s H vs Q E hr h=>?_)
 . rintro as n P ⟨R,U,ws,cs,rfl,_⟩
   rfl
 refine ⟨_,(@Jb _ _ _ _ _ (Yq (pv 0) (Bg (K':=K) (i:=2) (j:=3) (m:=4) rfl Jc8.nd ⟨rfl,(Qa rfl),(Qa rfl)⟩ ⟨rfl,(Qa rfl),(Qa rfl)⟩ ⟨rfl,(Qp rfl),(Qa rfl)⟩ rfl))
  (@Jh _ _ _ (@Jr _ _ _ _ (J6 Yg rfl T.b_tuple Ya2 (Wx (Jmh (sc:=(Jd V0)) (N:=["book","counts","rooms","purses","ways"]) (N':=["p","counts","ways"]) (k:=1) (idx:=[1,4]) rfl (by exact ⟨rfl,by decide +kernel,by decide +kernel,by decide +kernel,by decide +kernel,by decide +kernel,rfl,rfl⟩) rfl rfl (Y8 rfl T.b_range (Ja (pv 3) Jc)) (λ _ _ _ _=>(Js (i:=0) (show (["p","counts","ways"]:List Str).Nodup by decide +kernel) rfl (Qp rfl) (Qa rfl))) (λ _ _ _ _=>Yb) (λ _ _ _ _=>(J0 (Jrp (K':=K) rfl rfl) rfl T.b_sum boot_sum (Wx (Yx (sc:=Jtl _ (Jd V0)) (N:=["p","counts","ways"]) (N':=["count","way","p"]) (k:=2) (idx:=[0]) rfl (by exact ⟨rfl,by decide +kernel,by decide +kernel,by decide +kernel,by decide +kernel,by decide +kernel,rfl,rfl⟩) (Jv6 rfl) rfl (by exact (Jp7 (K':=K) rfl rfl T.b_zip (Ja (pv 1) (Ja (pv 2) Jc)))) (λ _ _ _ _=>(Y4 (K':=K) (i:=0) (j:=1) rfl (show (["count","way","p"]:List Str).Nodup by decide +kernel) ⟨rfl,(Qa rfl),(Qp rfl)⟩ ⟨rfl,(Qa rfl),(Qp rfl)⟩ rfl)) (λ _ _ _ _=>Yb) (λ _ _ _ _=>(Ju Jda (pv 0) (Jq (Wk (K':=K) rfl) (Jq (Wk (K':=K) rfl) (pv 1) Ji (λ _ _=>rfl)) (pv 2) (λ _ _=>rfl))))) Jc)))) Jc))))),Jv h ?_⟩
 rintro as n P ⟨R,U,ws,cs,rfl,ok,hl,q⟩
 have hs:sizeLine=16777216:=Yau
 have wz:=ok.len
 have u0:=ok.p0
 have u1:=ok.p1
 refine ⟨rfl,rfl,rfl,⟨_,.refl,U,rfl,⟨by omega,by omega⟩,⟨rfl,by rw [Yn];omega⟩,?_⟩⟩
 refine Wy (λ p=>.int (Jbj ws cs p).sum) (λ p hp n K hK=>Ve ?_) ?_
 . refine ⟨_,_,_,_,rfl,rfl,rfl,⟨rfl,by rw [Jua hl,Qb,Qy];omega⟩,?_⟩
   rw [Jua hl,J31]
   refine Wy (λ i=>.int (cs.getD i 0*(Je ws (i:Int)).g.getD p 0)) (λ i hi n K hK=>⟨rfl,rfl,Ve ?_⟩) ?_
   . have wok:=ok.ways _ (Ym (ws:=ws) (k:=(i:Int)) (by omega) (by omega))
     refine ⟨_,rfl,_,J2b wok (by omega),?_,hK⟩
     right
     have gl:=wok.len
     have hp':p<(Je ws (i:Int)).g.length:=by omega
     have:=wok.small ((Je ws (i:Int)).g.getD p 0) (by rw [Qg,Qd hp'];exact Xe hp')
     exact ⟨by omega,by omega⟩
   . refine ⟨Jbj ws cs p,?_,rfl,hK⟩
     unfold Jbj
     rw [Qw];rfl
 . show P _ _
   unfold rgI at q
   rw [Qw] at q
   exact q
theorem Jsi:FnScope ["numbers","gains"] ["numbers","gains"] (Jd Je2):=⟨rfl,rfl,rfl,by decide +kernel,rfl,by decide +kernel,by decide +kernel⟩
theorem Jsj (T:Txt mg) (D:Def K mg "put_to" Je2 ["numbers","gains"]):Cal P w K mg base "put_to" 1 ["numbers","gains"] (Jk Jk7):=by
 refine D.cal λ f fd F=>F.ok Jsi (J3 ?_) (λ cdv A outer s H vs Q E hr h=>?_)
 . rintro as n P ⟨xs,gs,rfl,_⟩
   rfl
 refine ⟨_,(@Jh _ _ _ (@Jr _ _ _ _ (J6 Yg rfl T.b_tuple Ya2 (Wx (Yx (sc:=(Jd Je2)) (N:=["numbers","gains"]) (N':=["number","more"]) (k:=2) (idx:=[]) rfl (by exact ⟨rfl,by decide +kernel,by decide +kernel,by decide +kernel,by decide +kernel,by decide +kernel,rfl,rfl⟩) rfl rfl (Vf rfl T.b_zip (Ja (pv 0) (Ja (pv 1) Jc))) (λ _ _ _ _=>(Y4 (K':=K) (i:=0) (j:=1) rfl (show (["number","more"]:List Str).Nodup by decide +kernel) ⟨rfl,(Qa rfl),(Qp rfl)⟩ ⟨rfl,(Qa rfl),(Qp rfl)⟩ rfl)) (λ _ _ _ _=>Yb) (λ _ _ _ _=>(Ju W4 (pv 0) (pv 1)))) Jc)))),Jv h ?_⟩
 rintro as n P ⟨xs,gs,rfl,h1,h2,q⟩
 have hs:sizeLine=16777216:=Yau
 refine ⟨rfl,_,_,_,_,rfl,rfl,rfl,⟨rfl,by rw [Zh,Qb,J3r];omega⟩,?_⟩
 rw [Zh]
 refine Y9 (f:=λ p:Int×Int=>Ub [.int p.1,.int p.2]) (λ p:Int×Int=>Qv (p.1+p.2)) (λ p hp m K hK=>⟨rfl,rfl,Ve hK⟩) ?_
 have e:((xs.zip gs).map λ p=>Qv (p.1+p.2))=(Bk xs gs).map .int:=by rw [Jui,Qw];rfl
 rw [e]
 exact q
theorem Y2:FnScope ["book","some","rooms","purses","ways","leads","k","a","b","gains","middle","room"] ["book","some"] (Jd Zq):=⟨rfl,rfl,rfl,by decide +kernel,rfl,by decide +kernel,by decide +kernel⟩
theorem Jfu (T:Txt mg) (D:Def K mg "rooms_reached" Zq ["book","some"]):Cal P w K mg base "rooms_reached" 1 ["book","some"] (Jk Jk1):=by
 refine D.cal λ f fd F=>F.ok Y2 (J3 ?_) (λ cdv A outer s H vs Q E hr h=>?_)
 . rintro as n P ⟨R,U,ws,ks,rfl,_⟩
   rfl
 refine ⟨_,(@Jb _ _ _ _ _ (Yq (pv 0) (Bg (K':=K) (i:=2) (j:=3) (m:=4) rfl Y2.nd ⟨rfl,(Qp rfl),(Qa rfl)⟩ ⟨rfl,(Qa rfl),(Qa rfl)⟩ ⟨rfl,(Qa rfl),(Qa rfl)⟩ rfl))
  (@Jb _ _ _ _ _ (Jwf (Jf5 (i:=5) (sc:=(Jd Zq)) (N:=["book","some","rooms","purses","ways","leads","k","a","b","gains","middle","room"]) (N':=["room","rooms"]) (k:=1) (idx:=[2]) rfl Y2.nd rfl rfl (by exact ⟨rfl,by decide +kernel,by decide +kernel,by decide +kernel,by decide +kernel,by decide +kernel,rfl,rfl⟩) rfl rfl (Y8 rfl T.b_range (Ja (pv 2) Jc)) (λ _ _ _ _=>(Js (i:=0) (show (["room","rooms"]:List Str).Nodup by decide +kernel) rfl (Qp rfl) (Qa rfl))) (λ _ _ _ _=>Yb) (λ _ _ _ _=>(Yx (sc:=Jtl _ (Jd Zq)) (N:=["room","rooms"]) (N':=["other","room"]) (k:=1) (idx:=[0]) rfl (by exact ⟨rfl,by decide +kernel,by decide +kernel,by decide +kernel,by decide +kernel,by decide +kernel,rfl,rfl⟩) (Jv6 rfl) rfl (by exact (Y8 rfl T.b_range (Ja (pv 1) Jc))) (λ _ _ _ _=>(Js (i:=0) (show (["other","room"]:List Str).Nodup by decide +kernel) rfl (Qa rfl) (Qp rfl))) (λ _ _ _ _=>Yb) (λ _ _ _ _=>(Zl Jag (pv 1) (pv 0) (Jz _)))))))
  (@Jb _ _ _ _ _ (We Xs rfl (Zd (pv 1)) (Js (i:=6) Y2.nd rfl (Qa rfl) (Qa rfl))
  (@Jb _ _ _ _ _ (Yq (Jq Ze (pv 4) (pv 6) (λ _ _=>rfl)) (Bg (K':=K) (i:=7) (j:=8) (m:=9) rfl Y2.nd ⟨rfl,(Qa rfl),(Qa rfl)⟩ ⟨rfl,(Qa rfl),(Qa rfl)⟩ ⟨rfl,(Qa rfl),(Qa rfl)⟩ rfl))
  (@Jh _ _ _ (Yq Jc2 (Wo (Jq Jt (pv 5) (pv 7) (λ _ _=>rfl)) (pv 8) Ys (λ v=>J5 _ _ _ _ _ v))))))
  (@Jb _ _ _ _ _ (We Xs rfl (Y8 rfl T.b_range (Ja (pv 2) Jc)) (Js (i:=10) Y2.nd rfl (Qa rfl) (Qa rfl))
  (@Jh _ _ _ (We Xs rfl (Y8 rfl T.b_range (Ja (pv 2) Jc)) (Js (i:=11) Y2.nd rfl (Qa rfl) (Qa rfl))
  (@Jh _ _ _ (Wh (V4 (Jq Jt (Jq Jt (pv 5) (pv 11) (λ _ _=>rfl)) (pv 10) (λ _ _=>rfl))) (@Jh _ _ _ (Jqc (Yq (Yx (sc:=(Jd Zq)) (N:=["book","some","rooms","purses","ways","leads","k","a","b","gains","middle","room"]) (N':=["now","then"]) (k:=2) (idx:=[]) rfl (by exact ⟨rfl,by decide +kernel,by decide +kernel,by decide +kernel,by decide +kernel,by decide +kernel,rfl,rfl⟩) rfl rfl (Jwh (Jp7 (K':=K) rfl rfl T.b_zip (Zb (Jq Jt (pv 5) (pv 11) (λ _ _=>rfl)) (Zb (Jq Jt (pv 5) (pv 10) (λ _ _=>rfl)) Jc)))) (λ _ _ _ _=>(Y4 (K':=K) (i:=0) (j:=1) rfl (show (["now","then"]:List Str).Nodup by decide +kernel) ⟨rfl,(Qa rfl),(Qp rfl)⟩ ⟨rfl,(Qa rfl),(Qp rfl)⟩ rfl)) (λ _ _ _ _=>Yb) (λ _ _ _ _=>(Jxt (pv 0) (Jbc (pv 1))))) (Wo (pv 5) (pv 11) Ys (λ v=>J5 _ _ _ _ _ v))))) Yp)))))
  (@Jh _ _ _ (@Jr _ _ _ _ (pv 5))))))),Jv h ?_⟩
 rintro as n P ⟨R,U,ws,ks,rfl,ok,hk,q⟩
 have r0:=ok.r0
 have r1:=ok.r1
 have hs:sizeLine=16777216:=Yau
 have hR:((R.toNat:Nat):Int)=R:=U9 (by omega)
 refine ⟨rfl,rfl,rfl,⟨_,.refl,?_⟩⟩
 refine ⟨R,rfl,⟨by omega,by omega⟩,⟨rfl,by rw [Yn];omega,?_⟩,?_⟩
 . unfold Ji1
   rw [X6]
   intro x hx
   obtain ⟨b,_,rfl⟩:=Qm.mp hx
   rfl
 refine Jms (λ a=>B9 R.toNat (pw0 []) a) (Qk R.toNat) (λ i hi K hK=>?_) ?_
 . refine ⟨R,rfl,⟨by omega,by omega⟩,⟨rfl,by rw [Yn];omega⟩,?_⟩
   refine Wy (λ j=>.bool (pw0 [] i j)) (λ j hj n K hK=>Ve (Jhp ?_)) hK
   have:decide ((0+(i:Int))=0+(j:Int))=pw0 [] i j:=by
    unfold pw0
    rw [decide_eq_false (p:=(i,j)∈[]) (by simp),J53]
    exact decide_eq_decide.mpr (by omega)
   rw [this]
   exact hK
 intro ps hps
 refine ⟨_,.refl,?_⟩
 refine ⟨λ i env n'=>n'=n/\∃ (ps:List (Addr×List Yao)) (x6 x7 x8 x9:Vl),env=[.d (J8 R U ws),.d (.list (ks.map .int)),.d (.int R),.d (.int U),.d (.tuple (ws.map Y6)),.own2 none ps,x6,x7,x8,x9,.jnk,.jnk]/\ps.map (·.2)=Bo R.toNat (pw0 (Yh ws (ks.take i))),⟨rfl,ps,_,_,_,_,rfl,hps⟩,?_,?_⟩
 . rintro i x env n' hx ⟨rfl,ps,x6,x7,x8,x9,rfl,hps⟩
   rw [Qj] at hx
   obtain ⟨k,hki,rfl⟩:=Um.mp hx
   obtain ⟨k0,k1⟩:=hk k (Xa hki)
   have wok:=ok.ways _ (Ym k0 k1)
   have a0:=wok.a0
   have a1:=wok.a1
   have b0:=wok.b0
   have b1:=wok.b1
   have ha:(Je ws k).a.toNat<R.toNat:=by omega
   have hb:(Je ws k).b.toNat<R.toNat:=by omega
   obtain ⟨p,hp,ep⟩:=Jmq hps (Ja7 (f:=pw0 (Yh ws (ks.take i))) ha)
   refine ⟨_,Jdf k0 k1,rfl,rfl,⟨_,.refl,?_⟩⟩
   refine ⟨_,p,Jbh a0 (by rw [Jhx hps,Jaa];omega),hp,_,Jbh b0 (by rw [ep,Jcb];omega),rfl,_,_,_,_,_,rfl,?_⟩
   rw [Jry hki,ep]
   exact Jmr hps (Jwj ha hb)
 . rintro env _ ⟨rfl,ps,x6,x7,x8,x9,rfl,hps⟩
   rw [Qb,J5d,J0c] at hps
   refine ⟨_,.refl,R,rfl,⟨by omega,by omega⟩,λ m env k=>k=_/\∃ (ps:List (Addr×List Yao)) (x6 x7 x8 x9 x10 x11:Vl),env=[.d (J8 R U ws),.d (.list (ks.map .int)),.d (.int R),.d (.int U),.d (.tuple (ws.map Y6)),.own2 none ps,x6,x7,x8,x9,x10,x11]/\ps.map (·.2)=Bo R.toNat (Pw (Yh ws ks) m),⟨rfl,ps,_,_,_,_,_,_,rfl,hps⟩,?_,?_⟩
   . rintro m x env _ hx ⟨rfl,ps,x6,x7,x8,x9,x10,x11,rfl,hps⟩
     obtain ⟨hm,rfl⟩:=Jqe hx
     refine ⟨R,rfl,⟨by omega,by omega⟩,λ r env k=>k=_/\∃ (ps:List (Addr×List Yao)) (x11:Vl),env=[.d (J8 R U ws),.d (.list (ks.map .int)),.d (.int R),.d (.int U),.d (.tuple (ws.map Y6)),.own2 none ps,x6,x7,x8,x9,.d (.int m),x11]/\ps.map (·.2)=Bo R.toNat (pwR (Yh ws ks) m r),⟨rfl,ps,_,rfl,by rw [J2a];exact hps⟩,?_,?_⟩
     . rintro r x env _ hx ⟨rfl,ps,x11,rfl,hps⟩
       obtain ⟨hr',rfl⟩:=Jqe hx
       refine ⟨_,Jkx hps (Xk r) (by omega),_,Jky (Xk m) (by omega),Wj (λ c=>?_) (λ c=>?_)⟩
       . rw [Q5,Q5,Jhy] at c
         refine ⟨_,Jkx hps (Xk r) (by omega),_,Jkx hps (Xk m) (by omega),_,_,_,_,rfl,rfl,rfl,⟨Jjv,Jjv⟩,⟨rfl,?_⟩,?_⟩
         . rw [Jqd,Qb,Qy];omega
         rw [Q5,Q5,Jqd]
         refine Wy (λ b=>.bool (pwR (Yh ws ks) m r r b||pwR (Yh ws ks) m r m b)) (λ j hj n K hK=>⟨rfl,rfl,Ve (Wj (λ e=>?_) (λ e=>?_))⟩) ?_
         . rw [e,J96] at hK;exact hK
         . rw [e,J97] at hK;exact hK
         . exact ⟨r,by rw [Jbh (Xk r) (by rw [Jhx hps,Jaa];omega),Q5],λ b=>⟨rfl,_,_,rfl,Jmr hps (Jwk hr' c)⟩⟩
       . rw [Q5,Q5,Jhy] at c
         exact ⟨rfl,ps,_,rfl,by rw [hps];exact J0b c⟩
     . rintro env _ ⟨rfl,ps,x11,rfl,hps⟩
       rw [Yn,Jwl] at hps
       exact ⟨rfl,ps,_,_,_,_,_,_,rfl,hps⟩
   . rintro env _ ⟨rfl,ps,x6,x7,x8,x9,x10,x11,rfl,hps⟩
     rw [Yn] at hps
     refine ⟨_,.fz2 5 ps rfl .refl,?_⟩
     show P _ _
     rw [Jtz hps]
     exact q
theorem Wv:FnScope ["book","some","rooms","purses","ways","leads","rings","k","a","b","gains","least"] ["book","some"] (Jd Jbs):=⟨rfl,rfl,rfl,by decide +kernel,rfl,by decide +kernel,by decide +kernel⟩
theorem Jnz (T:Txt mg) (D:Def K mg "rings_of" Jbs ["book","some"]) (Go:Cal P w K mg base "rooms_reached" 1 ["book","some"] (Jk Jk1)):Cal P w K mg base "rings_of" 2 ["book","some"] (Jk Jgo):=by
 refine D.cal λ f fd F=>F.ok Wv (J3 ?_) (λ cdv A outer s H vs Q E hr h=>?_)
 . rintro as n P ⟨R,U,ws,ks,rfl,_⟩
   rfl
 refine ⟨_,(@Jb _ _ _ _ _ (Yq (pv 0) (Bg (K':=K) (i:=2) (j:=3) (m:=4) rfl Wv.nd ⟨rfl,(Qa rfl),(Qa rfl)⟩ ⟨rfl,(Qa rfl),(Qa rfl)⟩ ⟨rfl,(Qa rfl),(Qa rfl)⟩ rfl))
  (@Jb _ _ _ _ _ (Jy (i:=5) Wv.nd rfl (Qp rfl) (Yz Go (hr.mono (by decide)) rfl (Ja (pv 0) (Ja (pv 1) Jc))))
  (@Jb _ _ _ _ _ (Jt7 (Jy (i:=6) Wv.nd rfl (Qa rfl) Js7))
  (@Jb _ _ _ _ _ (We Xs rfl (Zd (pv 1)) (Js (i:=7) Wv.nd rfl (Qa rfl) (Qa rfl))
  (@Jb _ _ _ _ _ (Yq (Jq Ze (pv 4) (pv 7) (λ _ _=>rfl)) (Bg (K':=K) (i:=8) (j:=9) (m:=10) rfl Wv.nd ⟨rfl,(Qp rfl),(Qa rfl)⟩ ⟨rfl,(Qa rfl),(Qa rfl)⟩ ⟨rfl,(Qa rfl),(Qa rfl)⟩ rfl))
  (@Jh _ _ _ (Wh (V4 (Jq Jt (Jq Jt (pv 5) (pv 9) (λ _ _=>rfl)) (pv 8) (λ _ _=>rfl))) (@Jb _ _ _ _ _ (Jy (i:=11) Wv.nd rfl (Qa rfl) (J0 (Jrq rfl) rfl T.b_min boot_min (Wx (Yx (sc:=(Jd Jbs)) (N:=["book","some","rooms","purses","ways","leads","rings","k","a","b","gains","least"]) (N':=["room","leads","a"]) (k:=1) (idx:=[5,8]) rfl (by exact ⟨rfl,by decide +kernel,by decide +kernel,by decide +kernel,by decide +kernel,by decide +kernel,rfl,rfl⟩) rfl rfl (Y8 rfl T.b_range (Ja (pv 2) Jc)) (λ _ _ _ _=>(Js (i:=0) (show (["room","leads","a"]:List Str).Nodup by decide +kernel) rfl (Qa rfl) (Qp rfl))) (λ _ _ _ _=>Jbf (PW.pt (Jg5 (V4 (Jq (Jb5 (K':=K) rfl) (Jq (Jb5 (K':=K) rfl) (pv 1) (pv 2) (λ _ _=>rfl)) (pv 0) (λ _ _=>rfl))) (Jd0 (V4 (Jq (Jb5 (K':=K) rfl) (Jq (Jb5 (K':=K) rfl) (pv 1) (pv 0) (λ _ _=>rfl)) (pv 2) (λ _ _=>rfl))))))) (λ _ _ _ _=>(pv 0))) Jc)))
  (@Jh _ _ _ (Jcm (Jl5 J5a J5b J5c V6 (Jt3 (pv 6) (pv 11) (@PEs.out _ _ _ (Yy Jw)) ⟨rfl,rfl,rfl,rfl⟩) (Ja (pv 7) Jc))))) Yp))))
  (@Jh _ _ _ (@Jr _ _ _ _ (Jt4 hr.hd rfl T.b_list (pv 6)))))))),Jv h ?_⟩
 rintro as n P ⟨R,U,ws,ks,rfl,ok,hk,hl,q⟩
 have r0:=ok.r0
 have r1:=ok.r1
 have hs:sizeLine=16777216:=Yau
 have hR:((R.toNat:Nat):Int)=R:=U9 (by omega)
 refine ⟨rfl,rfl,rfl,⟨_,.refl,?_⟩⟩
 refine ⟨R,U,ws,ks,rfl,ok,hk,⟨_,.refl,⟨_,.refl,?_⟩⟩⟩
 refine ⟨λ i env n'=>n'=n/\∃ (keys:List Key) (ps:List (Addr×List Yao)) (x7 x8 x9 x10 x11:Vl),env=[.d (J8 R U ws),.d (.list (ks.map .int)),.d (.int R),.d (.int U),.d (.tuple (ws.map Y6)),.d (Jk0 R.toNat (Yh ws ks)),.own2 (some keys) ps,x7,x8,x9,x10,x11]/\RingInv i (Vb R.toNat (Yh ws ks) ws (ks.take i)) keys ps,⟨rfl,[],[],_,_,_,_,_,rfl,⟨rfl,rfl,List.nodup_nil,Qn _,λ p hp=>by cases hp⟩⟩,?_,?_⟩
 . rintro i x env _ hx ⟨rfl,keys,ps,x7,x8,x9,x10,x11,rfl,hi⟩
   rw [Qj] at hx
   obtain ⟨k,hki,rfl⟩:=Um.mp hx
   obtain ⟨k0,k1⟩:=hk k (Xa hki)
   have il:=(Qq.mp hki).1
   have wok:=ok.ways _ (Ym k0 k1)
   have a0:=wok.a0
   have a1:=wok.a1
   have b0:=wok.b0
   have b1:=wok.b1
   have ha:(Je ws k).a.toNat<R.toNat:=by omega
   have hg:=Jk3 (R:=R.toNat) (es:=Yh ws ks) (ws:=ws) hki
   refine ⟨_,Jdf k0 k1,rfl,rfl,⟨_,.refl,_,Jh1 b0 (by omega),_,Jky a0 (by omega),Wj (λ c=>?_) (λ c=>?_)⟩⟩
   . rw [Zu,if_pos c] at hg
     refine ⟨R,rfl,⟨by omega,by omega⟩,⟨rfl,by rw [Yn];omega⟩,?_⟩
     refine Jkr (λ x=>Pw (Yh ws ks) R.toNat (Je ws k).a.toNat x&&Pw (Yh ws ks) R.toNat x (Je ws k).a.toNat) (λ j=>.int (j:Int)) (λ j hj n K h1 h2=>?_) ?_
     . rw [J31]
       refine ⟨_,Jh1 a0 (by omega),_,Jky (Xk j) (by omega),Wj (λ c1=>⟨_,Jh1 (Xk j) (by omega),_,Jky a0 (by omega),Wj (λ c2=>?_) (λ c2=>?_)⟩) (λ c1=>Ja0 ?_)⟩
       . rw [Q5] at c1 c2
         exact h1 (by rw [c1,c2];rfl)
       . rw [Q5] at c1 c2
         exact h2 (by rw [c1,c2];rfl)
       . rw [Q5] at c1
         exact h2 (by rw [c1];rfl)
     refine ⟨(Yu R.toNat (Yh ws ks) (Je ws k).a.toNat).map (λ j:Nat=>(j:Int)),?_,?_,λ m hm hmin=>?_⟩
     . rw [Qw];rfl
     . exact λ z=>by
        have:=Jh0 (es:=Yh ws ks) ha
        rw [J9t.mp z] at this
        cases this
     rw [Jt8 hm hmin]
     have pl:ps.length<1000000:=by
      have e:=congrArg J5k hi.rw
      rw [Qb,Qb] at e
      have:=hi.gl
      omega
     refine ⟨_,.refl,Xo _,rfl,λ hin m p hm hp=>⟨?_,rfl,keys,_,_,_,_,_,_,rfl,by rw [hg];exact (hi.add hm hp).2⟩,λ hout=>⟨pl,λ b=>⟨rfl,_,_,_,_,_,_,_,rfl,by rw [hg];exact hi.new hout b⟩⟩⟩
     have:=(hi.add (k:=k) hm hp).1
     omega
   . rw [Zu,if_neg (by rw [c];exact Q2)] at hg
     exact ⟨rfl,_,_,_,_,_,_,_,rfl,by rw [hg];exact hi.up⟩
 . rintro env _ ⟨rfl,keys,ps,x7,x8,x9,x10,x11,rfl,hi⟩
   rw [Qb,J5d] at hi
   refine ⟨_,.refl,?_⟩
   show P _ _
   rw [Jrz hi]
   exact q
theorem Zv:FnScope ["numbers","divisor","number","rest"] ["numbers"] (Jd Bd):=⟨rfl,rfl,rfl,by decide +kernel,rfl,by decide +kernel,by decide +kernel⟩
theorem Je4 (T:Txt mg) (D:Def K mg "common_divisor" Bd ["numbers"]):Cal P w K mg base "common_divisor" 1 ["numbers"] (Jk Jet):=by
 refine D.cal λ f fd F=>F.ok Zv (J3 ?_) (λ cdv A outer s H vs Q E hr h=>?_)
 . rintro as n P ⟨ns,rfl,_⟩
   rfl
 refine ⟨_,(@Jb _ _ _ _ _ (Jy (i:=1) Zv.nd rfl (Qa rfl) Ji)
  (@Jb _ _ _ _ _ (We Xs rfl (Zd (pv 0)) (Js (i:=2) Zv.nd rfl (Qa rfl) (Qa rfl))
  (@Jb _ _ _ _ _ (Jy (i:=3) Zv.nd rfl (Qa rfl) (J0 Js0 rfl T.b_abs boot_abs (Ja (pv 2) Jc)))
  (@Jh _ _ _ (Jg6 Xs (J4 Jg7 (pv 3) Ji (Jz _))
  (@Jh _ _ _ (Jn5 (i:=1) (j:=3) rfl Zv.nd rfl rfl (by decide) rfl rfl (Ja (pv 3) (Ja3 (Ju Bz (pv 1) (pv 3)) Jc)) rfl))))))
  (@Jh _ _ _ (@Jr _ _ _ _ (pv 1))))),Jv h ?_⟩
 rintro as n P ⟨ns,rfl,q⟩
 refine ⟨rfl,_,.refl,?_⟩
 refine ⟨λ i env n'=>n'=n/\∃ x y:Vl,env=[.d (.list (ns.map .int)),.d (.int ((Zk (ns.take i):Nat):Int)),x,y],⟨rfl,_,_,rfl⟩,?_,?_⟩
 . rintro i x env n' hx ⟨rfl,_,_,rfl⟩
   rw [Qj] at hx
   obtain ⟨k,hk,rfl⟩:=Um.mp hx
   refine ⟨_,.refl,?_⟩
   refine ⟨λ m env j=>j=n'/\∃ g:Nat,env=[.d (.list (ns.map .int)),.d (.int ((g:Nat):Int)),.d (.int k),.d (.int ((m:Nat):Int))]/\J32 g m=Zk (ns.take (i+1)),⟨k.natAbs,rfl,Zk (ns.take i),?_,(Ju0 hk).symm⟩,?_⟩
   . show [Vl.d (.list (ns.map .int)),_,_,Vl.d (.int (if k<0 then -k else k))]=_
     rw [show (if k<0 then -k else k)=(k.natAbs:Int) by split<;>omega]
   . rintro m _ _ ⟨rfl,g,rfl,hg⟩
     refine Wj (λ c=>?_) (λ c=>?_)
     . have hm:0<m:=by have:=of_decide_eq_true c;omega
       refine ⟨by omega,_,_,rfl,g%m,Nat.mod_lt _ hm,rfl,m,?_,?_⟩
       . rfl
       . rw [<- hg,Nat.gcd_comm m,<- Nat.gcd_rec,Nat.gcd_comm]
     . have hm:m=0:=by have:=of_decide_eq_false c;omega
       subst hm
       rw [Nat.gcd_zero_right] at hg
       exact ⟨rfl,_,_,by rw [hg]⟩
 . rintro env n' ⟨rfl,_,_,rfl⟩
   rw [Qb,J5d]
   exact ⟨_,.refl,q⟩
theorem Jae:FnScope ["numbers","divisor"] ["numbers"] (Jd Wl):=⟨rfl,rfl,rfl,by decide +kernel,rfl,by decide +kernel,by decide +kernel⟩
theorem Jdv (T:Txt mg) (D:Def K mg "without_divisor" Wl ["numbers"]) (Gp:Cal P w K mg base "common_divisor" 1 ["numbers"] (Jk Jet)):Cal P w K mg base "without_divisor" 2 ["numbers"] (Z4 Jgs):=by
 refine D.cal λ f fd F=>F.ok Jae (Ba ?_) (λ cdv A outer s H vs Q E hr h=>?_)
 . rintro as n P ⟨ns,rfl,_⟩
   rfl
 refine ⟨_,(@Jb _ _ _ _ _ (Jy (i:=1) Jae.nd rfl (Qp rfl) (Yz Gp (hr.mono (by decide)) rfl (Ja (pv 0) Jc)))
  (@Jh _ _ _ (@Jr _ _ _ _ (Yx (sc:=(Jd Wl)) (N:=["numbers","divisor"]) (N':=["number","divisor"]) (k:=1) (idx:=[1]) rfl (by exact ⟨rfl,by decide +kernel,by decide +kernel,by decide +kernel,by decide +kernel,by decide +kernel,rfl,rfl⟩) rfl rfl (Zd (pv 0)) (λ _ _ _ _=>(Js (i:=0) (show (["number","divisor"]:List Str).Nodup by decide +kernel) rfl (Qa rfl) (Qp rfl))) (λ _ _ _ _=>Yb) (λ _ _ _ _=>(Ju Ja1 (pv 0) (pv 1))))))),Vg h ?_⟩
 rintro as n P ⟨ns,rfl,hl,h0,h1,q⟩
 have hs:sizeLine=16777216:=Yau
 refine ⟨rfl,ns,rfl,_,.refl,⟨rfl,by rw [Qb];omega⟩,?_⟩
 refine Y9 (f:=Qv) (λ x=>.int (x/((Zk ns:Nat):Int))) (λ x hx n K hk=>Ve ⟨Ja2 (by omega) h1,hk⟩) ?_
 rw [Qw] at q
 exact q
theorem V1:FnScope ["self","other","row","place","by","times","fresh"] ["self","other","row","place"] (Jd W0):=⟨rfl,rfl,rfl,by decide +kernel,rfl,by decide +kernel,by decide +kernel⟩
theorem Je5 {C:Addr}(T:Txt mg) (Y:TableOk K C) (D:DefM K C "without" "Table.without" W0 ["self","other","row","place"]):Wb P w K mg base C "without" 1 ["self","other","row","place"] (Z4 (Jo1 C)):=by
 refine D.cal Y.c λ f fd F=>F.ok V1 (Ba ?_) (λ cdv A outer s H vs Q E hr h=>?_)
 . rintro as n P ⟨z,T,other,row,k,rfl,_⟩
   rfl
 refine ⟨_,(@Jb _ _ _ _ _ (Yq (@PEs.out _ _ _ (Zs (Jea (J1 (Jq Jt (pv 2) (pv 3) (λ _ _=>rfl))) (Jea (J1 (Jq Jt (pv 1) (pv 3) (λ _ _=>rfl))) Jw)))) (Y4 (K':=K) (i:=4) (j:=5) rfl V1.nd ⟨rfl,(Qp rfl),(Qa rfl)⟩ ⟨rfl,(Qp rfl),(Qa rfl)⟩ rfl))
  (@Jb _ _ _ _ _ (Zx (i:=6) (sc:=(Jd W0)) (N:=["self","other","row","place","by","times","fresh"]) (N':=["number","more","by","times","self"]) (k:=2) (idx:=[4,5,0]) rfl V1.nd rfl rfl (by exact ⟨rfl,by decide +kernel,by decide +kernel,by decide +kernel,by decide +kernel,by decide +kernel,rfl,rfl⟩) rfl rfl (Vf rfl T.b_zip (Ja (pv 1) (Ja (pv 2) Jc))) (λ _ _ _ _=>(Y4 (K':=K) (i:=0) (j:=1) rfl (show (["number","more","by","times","self"]:List Str).Nodup by decide +kernel) ⟨rfl,(Qa rfl),(Qp rfl)⟩ ⟨rfl,(Qa rfl),(Qp rfl)⟩ rfl)) (λ _ _ _ _=>Yb) (λ _ _ _ _=>(Ju Ja1 (Ju Jam (Ju Jbi (pv 2) (pv 0)) (Ju Jbi (pv 3) (pv 1))) (J7 (K':=K) rfl (pv 4)))))
  (@Jb _ _ _ _ _ (Yq (Bj Wp (pv 5)) (Wo (pv 6) (pv 3) Ys (λ v=>J5 _ _ _ _ _ v)))
  (@Jh _ _ _ (@Jr _ _ _ _ (pv 6)))))),Vg h ?_⟩
 rintro as n P ⟨z,T,other,row,k,rfl,k1,k2,ol,so,sr,q0,q1,q⟩
 have hs:sizeLine=16777216:=Yau
 have big:∀ {x:Int},x.natAbs<2^4000->x.natAbs<2^9000:=λ h=>Qz h (J6d (by decide) (by decide))
 have a1:atI (row.map Qv) ((k:Nat):Int)=some (.int (row.getD k 0)):=Zt (by omega) (by rw [Q5,Qj,Qd k2,Qg,Qd k2];rfl)
 have a2:atI (other.map Qv) ((k:Nat):Int)=some (.int (other.getD k 0)):=Zt (by omega) (by rw [Q5,Qj,Qd k1,Qg,Qd k1];rfl)
 have by1:(row.getD k 0).natAbs<2^4000:=sr _ (by rw [Qg,Qd k2];exact Xe _)
 have by2:(other.getD k 0).natAbs<2^4000:=so _ (by rw [Qg,Qd k1];exact Xe _)
 refine ⟨rfl,_,a1,_,a2,Ja6,rfl,rfl,⟨[.d (Wz C z T),.d (Y7 other),.d (Y7 row),.d (Jo k),.d (.int (row.getD k 0)),.d (.int (other.getD k 0)),.jnk],.eq rfl,?_⟩⟩
 refine ⟨_,_,_,_,rfl,rfl,rfl,⟨rfl,by rw [B8,Qb];omega⟩,?_⟩
 rw [Zh]
 refine Y9 (f:=λ p:Int×Int=>Ub [.int p.1,.int p.2]) (λ p=>.int ((row.getD k 0*p.1-other.getD k 0*p.2)/T.q)) (λ p hp n K hk=>⟨rfl,rfl,Ve ⟨Vh (big by1) (big (so _ (Uk hp).1)),Vh (big by2) (big (sr _ (Uk hp).2)),?_⟩⟩) ?_
 . exact Ju4 Y ⟨Ja2 q0 (Int.lt_of_lt_of_le q1 (by decide +kernel)),hk⟩
 refine ⟨_,.refl,k,Jao (by omega) (by rw [Qb,J3r];omega),_,.refl,?_⟩
 have e:((other.zip row).map λ p=>Qv ((row.getD k 0*p.1-other.getD k 0*p.2)/T.q)).set k (.int (-(other.getD k 0)))=(Tb.Jcf T.q row other k).map .int:=by
  unfold Tb.Jcf
  rw [X8,J42,J73,J73]
 show P (List.set _ k _) n
 rw [e]
 exact q
theorem Vd:FnScope ["self","wanted","told","name","row"] ["self","wanted"] (Jd Wq):=⟨rfl,rfl,rfl,by decide +kernel,rfl,by decide +kernel,by decide +kernel⟩
theorem Jgh {C:Addr}(T:Txt mg) (Y:TableOk K C) (D:DefM K C "rises" "Table.rises" Wq ["self","wanted"]):Wb P w K mg base C "rises" 1 ["self","wanted"] (Z4 (Jgu C)):=by
 refine D.cal Y.c λ f fd F=>F.ok Vd (Ba ?_) (λ cdv A outer s H vs Q E hr h=>?_)
 . rintro as n P ⟨z,T,m,n,W,rfl,_⟩
   rfl
 refine ⟨_,(@Jb _ _ _ _ _ (Zx (i:=2) (sc:=(Jd Wq)) (N:=["self","wanted","told","name","row"]) (N':=["name","wanted","self"]) (k:=1) (idx:=[1,0]) rfl Vd.nd rfl rfl (by exact ⟨rfl,by decide +kernel,by decide +kernel,by decide +kernel,by decide +kernel,by decide +kernel,rfl,rfl⟩) rfl rfl (Zd (J7 (K':=K) rfl (pv 0))) (λ _ _ _ _=>(Js (i:=0) (show (["name","wanted","self"]:List Str).Nodup by decide +kernel) rfl (Qa rfl) (Qp rfl))) (λ _ _ _ _=>Yb) (λ _ _ _ _=>(Jd1 (J4 (Jox (K':=K) rfl) (pv 0) (pv 1) (by with_unfolding_all rfl)) (J7 (K':=K) rfl (pv 2)) Ji)))
  (@Jb _ _ _ _ _ (We Xs rfl (Vf rfl T.b_zip (Jai (J7 (K':=K) rfl (pv 0)) (Jai (J7 (K':=K) rfl (pv 0)) Jc))) (Y4 (K':=K) (i:=3) (j:=4) rfl Vd.nd ⟨rfl,(Qa rfl),(Qa rfl)⟩ ⟨rfl,(Qa rfl),(Qa rfl)⟩ rfl)
  (@Jh _ _ _ (Wh (J4 Jfc (pv 3) (pv 1) (by with_unfolding_all rfl)) (@Jh _ _ _ (Zx (i:=2) (sc:=(Jd Wq)) (N:=["self","wanted","told","name","row"]) (N':=["rise","number"]) (k:=2) (idx:=[]) rfl Vd.nd rfl rfl (by exact ⟨rfl,by decide +kernel,by decide +kernel,by decide +kernel,by decide +kernel,by decide +kernel,rfl,rfl⟩) rfl rfl (Jw0 (Vf rfl T.b_zip (Ja (pv 2) (Ja (pv 4) Jc)))) (λ _ _ _ _=>(Y4 (K':=K) (i:=0) (j:=1) rfl (show (["rise","number"]:List Str).Nodup by decide +kernel) ⟨rfl,(Qa rfl),(Qp rfl)⟩ ⟨rfl,(Qa rfl),(Qp rfl)⟩ rfl)) (λ _ _ _ _=>Yb) (λ _ _ _ _=>(Ju Jam (pv 0) (pv 1))))) Yp)))
  (@Jh _ _ _ (@Jr _ _ _ _ (pv 2))))),Vg h ?_⟩
 rintro as n' P ⟨z,T,m,n,W,rfl,sh,q⟩
 have hs:sizeLine=16777216:=Yau
 have mm:=sh.mm
 have nn:=sh.nn
 have isin:∀ ν:Nat,inD (Jo ν) (W.map Jo)=decide (ν∈W):=λ ν=>by
  have:=Jyr (k:=(ν:Int)) (ns:=W.map λ k:Nat=>(k:Int))
  rw [Qw] at this
  rw [show W.map Jo=W.map (Qv∘λ k:Nat=>(k:Int)) from rfl,this]
  exact decide_eq_decide.mpr ⟨λ h=>by obtain ⟨k,hk,e⟩:=Qm.mp h;rwa [<- show k = ν by exact_mod_cast e],λ h=>Qm.mpr ⟨ν,h,rfl⟩⟩
 have scw:(W.map Jo).all Vw=true:=X6.mpr λ x hx=>by obtain ⟨k,_,rfl⟩:=Qm.mp hx;rfl
 refine ⟨rfl,Jgt Y ⟨⟨rfl,by rw [Qb,sh.lf];omega⟩,?_⟩⟩
 refine Y9 (f:=Jo) (λ ν=>.int (Tb.ind W ν T.q)) (λ ν hν n K hk=>Ve ⟨rfl,scw,?_⟩) ?_
 . show if inD (Jo ν) (W.map Jo)=true then _ else _
   rw [isin]
   unfold Tb.ind at hk
   refine Wj (λ c=>Ju4 Y ?_) (λ c=>?_)
   . rw [if_pos (of_decide_eq_true c)] at hk
     exact hk
   . rw [if_neg (of_decide_eq_false c)] at hk
     exact hk
 rw [show T.fr.map (λ ν=>Qv (Tb.ind W ν T.q))=(tl T n W 0).map .int by rw [<- Jw1 sh,Qw];rfl]
 refine ⟨_,.refl,Jeu Y (Jbo Y ⟨_,_,_,_,rfl,rfl,rfl,?_⟩)⟩
 refine ⟨λ i env k=>k=n'/\∃ x y:Vl,env=[.d (Wz C z T),.d (.list (W.map Jo)),.own ((tl T n W i).map .int),x,y],⟨rfl,_,_,rfl⟩,?_,?_⟩
 . rintro i x env k hx ⟨rfl,_,_,rfl⟩
   obtain ⟨hi,rfl⟩:=Ju5 sh hx
   refine ⟨rfl,rfl,rfl,scw,?_⟩
   show if inD (Jo (T.b i)) (W.map Jo)=true then _ else _
   rw [isin]
   refine Wj (λ c=>?_) (λ c=>⟨rfl,_,_,by rw [J0j (of_decide_eq_false c)];rfl⟩)
   refine ⟨⟨rfl,?_⟩,?_⟩
   . rw [B8,Qb,Qb]
     unfold tl
     rw [Qb,Qy]
     omega
   . rw [Zh]
     refine Y9 (f:=λ p:Int×Int=>Ub [.int p.1,.int p.2]) (λ p=>.int (p.1-p.2)) (λ p hp n K hk=>⟨rfl,rfl,Ve hk⟩) ⟨rfl,.d (Jo (T.b i)),.d (Y7 (T.row i)),?_⟩
     rw [<- J2j sh hi (of_decide_eq_true c),Qw]
     rfl
 . rintro env k ⟨rfl,_,_,rfl⟩
   refine ⟨_,.refl,?_⟩
   have:(W9 (T.bd.map Jo) (T.rows.map Y7)).length=m:=by rw [B8,Qb,Qb,sh.lb,sh.lr];omega
   rw [this]
   exact q
theorem Va:FnScope ["self","wanted","names"] ["self","wanted"] (Jd Za):=⟨rfl,rfl,rfl,by decide +kernel,rfl,by decide +kernel,by decide +kernel⟩
theorem Jaw {C:Addr}(T:Txt mg) (Y:TableOk K C) (D:DefM K C "place_to_raise" "Table.place_to_raise" Za ["self","wanted"]) (c_Table__rises:Wb P w K mg base C "rises" 1 ["self","wanted"] (Z4 (Jgu C))):Wb P w K mg base C "place_to_raise" 2 ["self","wanted"] (Jk (Jcu C)):=by
 refine D.cal Y.c λ f fd F=>F.ok Va (J3 ?_) (λ cdv A outer s H vs Q E hr h=>?_)
 . rintro as n P ⟨z,T,m,n,W,rfl,_⟩
   rfl
 refine ⟨_,(@Jb _ _ _ _ _ (Zx (i:=2) (sc:=(Jd Za)) (N:=["self","wanted","names"]) (N':=["place","rise","self"]) (k:=2) (idx:=[0]) rfl Va.nd rfl rfl (by exact ⟨rfl,by decide +kernel,by decide +kernel,by decide +kernel,by decide +kernel,by decide +kernel,rfl,rfl⟩) rfl rfl (Jp6 rfl T.b_enumerate (Z7 (Jdg c_Table__rises (hr.mono (by decide)) (pv 0) (Ja (pv 1) Jc)) Jc)) (λ _ _ _ _=>(Y4 (K':=K) (i:=0) (j:=1) rfl (show (["place","rise","self"]:List Str).Nodup by decide +kernel) ⟨rfl,(Qa rfl),(Qp rfl)⟩ ⟨rfl,(Qa rfl),(Qp rfl)⟩ rfl)) (λ _ _ _ _=>Jbf (J4 Jg7 (pv 1) Ji (Jz _))) (λ _ _ _ _=>(@PEs.out _ _ _ (Zs (Jea (J1 (Jq (Jb5 (K':=K) rfl) (J7 (K':=K) rfl (pv 2)) (pv 0) (λ _ _=>rfl))) (Y5 (J1 (pv 0)) Jw))))))
  (@Jh _ _ _ (@Jr _ _ _ _ (Jd1 (Jtv (pv 2) (λ _=>rfl)) (Jq Ze (J0 (Jr7 rfl hr.units) rfl T.b_min boot_min (Ja (pv 2) Jc)) Ji (λ _ _=>rfl)) W3)))),Jv h ?_⟩
 rintro as n' P ⟨z,T,m,n,W,rfl,sh,inj,q1,q2⟩
 have hs:sizeLine=16777216:=Yau
 have mm:=sh.mm
 have nn:=sh.nn
 refine ⟨rfl,?_⟩
 refine ⟨Jct (m:="rises") (by decide),z,T,m,n,W,rfl,sh,_,_,rfl,rfl,?_⟩
 rw [Jw2]
 refine ⟨⟨rfl,by rw [Qb,Qy];omega⟩,?_⟩
 have fat:∀ {j:Nat},j<n->atI (T.fr.map Jo) ((j:Nat):Int)=some (Jo (T.f j)):=λ {j} hj=>by
  have h1:j<T.fr.length:=by rw [sh.lf];exact hj
  refine Zt (by omega) ?_
  unfold Tb.Tab.f
  rw [Q5,Qj,Qd h1,Qg,Qd h1]
  rfl
 refine Jak (p:=λ j=>decide (0<T.rise m W j)) (h:=λ j=>Jh8 ((T.f j:Int),(j:Int))) (λ j hj K k1 k2=>⟨rfl,rfl,Wj (λ c=>Jgt Y ⟨_,fat (Xh.mp hj),Ja6,k1 c⟩) (λ c=>k2 c)⟩) ?_
 refine ⟨_,.fz 2 _ rfl .refl,?_⟩
 have mem:∀ {j:Nat},j∈(Qk n).filter (λ j=>decide (0<T.rise m W j))↔j<n/\0<T.rise m W j:=λ {j}=>by rw [Xq,Xh,decide_eq_true_iff]
 have nd:((Qk n).filter λ j=>decide (0<T.rise m W j)).Nodup:=List.nodup_range.filter _
 generalize (Qk n).filter (λ j=>decide (0<T.rise m W j))=js at *
 have nrm:js.map (λ j=>Jh8 ((T.f j:Int),(j:Int)))=(js.map λ j=>((T.f j:Int),(j:Int))).map Jh8:=by rw [Qw];rfl
 rw [nrm]
 by_cases hn:js=[]
 . subst hn
   refine Jbw rfl (q2 λ j hj=>?_)
   have:=mt (λ h=>mem.mpr ⟨hj,h⟩) (X0)
   omega
 . refine Jc4 ?_ ⟨_,rfl,by simpa using hn,?_,λ r hr hmin=>⟨_,rfl,?_⟩⟩
   . cases js with
     | nil=>exact absurd rfl hn
     | cons a l=>rfl
   . rw [Qw]
     refine J6c.mpr (nd.imp_of_mem λ {a b} ha hb hne e=>hne ?_)
     have e:(T.f a:Int)=(T.f b:Int):=e
     exact inj a b (mem.mp ha).1 (mem.mp hb).1 (by exact_mod_cast e)
   . obtain ⟨k,hk,rfl⟩:=Qm.mp hr
     refine q1 k (mem.mp hk).1 (mem.mp hk).2 λ j hj hp=>?_
     have:(T.f k:Int)<=(T.f j:Int):=hmin _ (Qm.mpr ⟨j,mem.mpr ⟨hj,hp⟩,rfl⟩)
     exact_mod_cast this
theorem Wg:FnScope ["self","at","other","place","row","than","soon","late"] ["self","at","other","place"] (Jd Wr):=⟨rfl,rfl,rfl,by decide +kernel,rfl,by decide +kernel,by decide +kernel⟩
theorem Jby {C:Addr}(T:Txt mg) (Y:TableOk K C) (D:DefM K C "comes_first" "Table.comes_first" Wr ["self","at","other","place"]):Wb P w K mg base C "comes_first" 1 ["self","at","other","place"] (Jk (Jle C)):=by
 refine D.cal Y.c λ f fd F=>F.ok Wg (J3 ?_) (λ cdv A outer s H vs Q E hr h=>?_)
 . rintro as n P ⟨z,T,m,n,a,o,k,rfl,_⟩
   rfl
 refine ⟨_,(@Jb _ _ _ _ _ (Jn5 (i:=4) (j:=5) rfl Wg.nd rfl rfl (by decide) rfl rfl (Zb (Jq Jt (J7 (K':=K) rfl (pv 0)) (pv 1) (λ _ _=>rfl)) (Zb (Jq Jt (J7 (K':=K) rfl (pv 0)) (pv 2) (λ _ _=>rfl)) Jc)) rfl)
  (@Jb _ _ _ _ _ (Jn5 (i:=6) (j:=7) rfl Wg.nd rfl rfl (by decide) rfl rfl (Ja3 (Ju Jbi (Jq Jt (pv 4) (Bj Wp Ji) (λ _ _=>rfl)) (Jq Jt (pv 5) (pv 3) (λ _ _=>rfl))) (Ja3 (Ju Jbi (Jq Jt (pv 5) (Bj Wp Ji) (λ _ _=>rfl)) (Jq Jt (pv 4) (pv 3) (λ _ _=>rfl))) Jc)) rfl)
  (@Jh _ _ _ (@Jr _ _ _ _ (Jxt (Zl Jjg (pv 6) (pv 7) (Jz _)) (Jbc (Jb2 (Zl Jag (pv 6) (pv 7) (Jz _)) (Jbc (Zl Jjg (Jq Jt (J7 (K':=K) rfl (pv 0)) (pv 1) (λ _ _=>rfl)) (Jq Jt (J7 (K':=K) rfl (pv 0)) (pv 2) (λ _ _=>rfl)) (Jz _)))))))))),Jv h ?_⟩
 rintro as n' P ⟨z,T,m,n,a,o,k,rfl,sh,ha,ho,hk,q⟩
 refine ⟨rfl,Jbo Y ⟨_,Jib sh ha,Jbo Y ⟨_,Jib sh ho,_,_,rfl,⟨[.d (Wz C z T),.d (Jo a),.d (Jo o),.d (Jo k),.d (Y7 (T.row a)),.d (Y7 (T.row o)),.jnk,.jnk],.eq rfl,?_⟩⟩⟩⟩
 refine ⟨_,Ju6 sh ha,_,Jw3 sh ho (by omega),Vh (Jgv sh ha (Qn _)) (Jgv sh ho (by omega)),_,Ju6 sh ho,_,Jw3 sh ha (by omega),Vh (Jgv sh ho (Qn _)) (Jgv sh ha (by omega)),_,_,rfl,⟨[.d (Wz C z T),.d (Jo a),.d (Jo o),.d (Jo k),.d (Y7 (T.row a)),.d (Y7 (T.row o)),.d (.int (T.e a n*T.e o k)),.d (.int (T.e o n*T.e a k))],.eq rfl,?_⟩⟩
 unfold Jia at q
 generalize T.e a n*T.e o k=soon at *
 generalize T.e o n*T.e a k=late at *
 refine Wj (λ c1=>?_) (λ c1=>?_)
 . rw [c1,J96] at q
   exact q
 . rw [c1,J97] at q
   refine Jhp (Wj (λ c2=>?_) (λ c2=>?_))
   . rw [c2,J7v] at q
     refine Jeu Y ⟨_,Jyy sh ha,Jeu Y ⟨_,Jyy sh ho,?_⟩⟩
     show P (.bool (decide ((T.b a:Int)<(T.b o:Int)))) n'
     rw [show decide ((T.b a:Int)<(T.b o:Int))=decide (T.b a<T.b o) from decide_eq_decide.mpr ⟨λ h=>by omega,λ h=>by omega⟩]
     exact q
   . rw [c2,J5e] at q
     exact q
theorem Zn:FnScope ["self","place","first","at","row"] ["self","place"] (Jd Ws):=⟨rfl,rfl,rfl,by decide +kernel,rfl,by decide +kernel,by decide +kernel⟩
theorem Jbz {C:Addr}(T:Txt mg) (Y:TableOk K C) (D:DefM K C "row_to_free" "Table.row_to_free" Ws ["self","place"]) (c_Table__comes_first:Wb P w K mg base C "comes_first" 1 ["self","at","other","place"] (Jk (Jle C))):Wb P w K mg base C "row_to_free" 2 ["self","place"] (Jk (Jfm C)):=by
 refine D.cal Y.c λ f fd F=>F.ok Zn (J3 ?_) (λ cdv A outer s H vs Q E hr h=>?_)
 . rintro as n P ⟨z,T,m,n,k,rfl,_⟩
   rfl
 refine ⟨_,(@Jb _ _ _ _ _ (Jy (i:=2) Zn.nd rfl (Qa rfl) W3)
  (@Jb _ _ _ _ _ (We Xs rfl (Jp6 rfl T.b_enumerate (Jai (J7 (K':=K) rfl (pv 0)) Jc)) (Y4 (K':=K) (i:=3) (j:=4) rfl Zn.nd ⟨rfl,(Qa rfl),(Qa rfl)⟩ ⟨rfl,(Qa rfl),(Qa rfl)⟩ rfl)
  (@Jh _ _ _ (Wh (PW.pt (Jg5 (J4 Jg7 (Jq Jt (pv 4) (pv 1) (λ _ _=>rfl)) Ji (Jz _)) (Jd0 (PW.pt (Jl1 (J4 Jb3 (pv 2) W3 (Jz _)) (Jg4 (V4 (Jdg c_Table__comes_first (hr.mono (by decide)) (pv 0) (Ja (pv 3) (Ja (pv 2) (Ja (pv 1) Jc))))))))))) (@Jh _ _ _ (Jy (i:=2) Zn.nd rfl (Qa rfl) (pv 3))) Yp)))
  (@Jh _ _ _ (@Jr _ _ _ _ (pv 2))))),Jv h ?_⟩
 rintro as n' P ⟨z,T,m,n,k,rfl,sh,hk,q⟩
 refine ⟨rfl,_,.refl,Jbo Y ⟨_,_,rfl,rfl,?_⟩⟩
 refine ⟨λ i env j=>j=n'/\∃ x y:Vl,env=[.d (Wz C z T),.d (Jo k),.d (J0k (rf T n k i)),x,y],⟨rfl,_,_,rfl⟩,?_,?_⟩
 . rintro i x env j hx ⟨rfl,_,_,rfl⟩
   obtain ⟨hi,rfl⟩:=Jw4 sh hx
   refine ⟨rfl,rfl,_,Jw3 sh hi (by omega),?_⟩
   refine Wj (λ c=>?_) (λ c=>?_)
   . have c:=of_decide_eq_true c
     cases e:rf T n k i with
     | none=>
      refine ⟨rfl,Ve ⟨rfl,.d (Jo i),.d (Y7 (T.row i)),?_⟩⟩
      rw [show rf T n k (i+1)=some i by rw [rf,e];simp only;rw [if_pos c]]
      rfl
     | some o=>
      have ho:=Jqt k e
      refine ⟨rfl,Ja0 ⟨Jct (m:="comes_first") (by decide),z,T,m,n,i,o,k,rfl,sh,hi,by omega,hk,?_⟩⟩
      refine Wj (λ c2=>⟨rfl,.d (Jo i),.d (Y7 (T.row i)),?_⟩) (λ c2=>⟨rfl,.d (Jo i),.d (Y7 (T.row i)),?_⟩)
      . rw [show rf T n k (i+1)=some i by rw [rf,e];simp only;rw [if_pos ⟨c,c2⟩]]
        rfl
      . rw [show rf T n k (i+1)=some o by rw [rf,e];simp only;rw [if_neg λ z=>by rw [z.2] at c2;cases c2]]
        rfl
   . have c:=of_decide_eq_false c
     refine ⟨rfl,.d (Jo i),.d (Y7 (T.row i)),?_⟩
     rw [show rf T n k (i+1)=rf T n k i by
      rw [rf]
      cases rf T n k i with
      | none=>simp only;rw [if_neg c]
      | some o=>simp only;rw [if_neg λ z=>c z.1]]
     rfl
 . rintro env j ⟨rfl,_,_,rfl⟩
   have:(Jee (T.rows.map Y7)).length=m:=by unfold Jee;rw [J9d,Qb,sh.lr]
   rw [this]
   exact ⟨_,.refl,q⟩
theorem Jbb:FnScope ["self","shares","purses"] ["self","shares"] (Jd Br):=⟨rfl,rfl,rfl,by decide +kernel,rfl,by decide +kernel,by decide +kernel⟩
theorem Jfv {C:Addr}(T:Txt mg) (Y:TableOk K C) (D:DefM K C "as_sum" "Table.as_sum" Br ["self","shares"]):Wb P w K mg base C "as_sum" 1 ["self","shares"] (Jk (Jlf C)):=by
 refine D.cal Y.c λ f fd F=>F.ok Jbb (J3 ?_) (λ cdv A outer s H vs Q E hr h=>?_)
 . rintro as n P ⟨z,T,u,xs,rfl,_⟩
   rfl
 refine ⟨_,(@Jb _ _ _ _ _ (Jy (i:=2) Jbb.nd rfl (Qa rfl) (Ju Jam (J7 (K':=K) rfl (pv 0)) (J7 (K':=K) rfl (pv 0))))
  (@Jh _ _ _ (@Jr _ _ _ _ (@PEs.out _ _ _ (Zs (Wa (J1 (J6 Yg rfl T.b_tuple Ya2 (Zb (Jaz Jcp (pv 1) Jcn (Jco (pv 2))) Jc))) (Wa (J1 (J6 Yg rfl T.b_tuple Ya2 (Zb (Jaz Jcp (pv 1) (Jco (pv 2)) Jcn) Jc))) Jw))))))),Jv h ?_⟩
 rintro as n' P ⟨z,T,u,xs,rfl,hu,hl,q⟩
 refine ⟨rfl,J2h Y (Ju3 Y ⟨[.d (Wz C z T),.d (Y7 xs),.d (Jo u)],.eq (by rw [hu];rfl),?_⟩)⟩
 have hs:sizeLine=16777216:=Yau
 refine ⟨Ja6,?_⟩
 rw [Jjq,Jfe,<- J5s,<- J4r]
 exact q
theorem W6:FnScope ["self","place","told","name","row"] ["self","place"] (Jd Vk):=⟨rfl,rfl,rfl,by decide +kernel,rfl,by decide +kernel,by decide +kernel⟩
theorem Jc1 {C:Addr}(T:Txt mg) (Y:TableOk K C) (D:DefM K C "counts_by" "Table.counts_by" Vk ["self","place"]) (Ge:Cal P w K mg base "without_divisor" 2 ["numbers"] (Z4 Jgs)):Wb P w K mg base C "counts_by" 3 ["self","place"] (Jk (Jev C)):=by
 refine D.cal Y.c λ f fd F=>F.ok W6 (J3 ?_) (λ cdv A outer s H vs Q E hr h=>?_)
 . rintro as n P ⟨T,m,n,k,nw,nr,be,rfl,_⟩
   rfl
 refine ⟨_,(@Jb _ _ _ _ _ (Jy (i:=2) W6.nd rfl (Qa rfl) (Ju Jdc (@PEs.out _ _ _ (Yy (J2 Yt Jw))) (J7 (K':=K) rfl (pv 0))))
  (@Jb _ _ _ _ _ (Yq (J7 (K':=K) rfl (pv 0)) (Wo (pv 2) (Jq Jt (J7 (K':=K) rfl (pv 0)) (pv 1) (λ _ _=>rfl)) Ys ))
  (@Jb _ _ _ _ _ (We Xs rfl (Vf rfl T.b_zip (Jai (J7 (K':=K) rfl (pv 0)) (Jai (J7 (K':=K) rfl (pv 0)) Jc))) (Y4 (K':=K) (i:=3) (j:=4) rfl W6.nd ⟨rfl,(Qa rfl),(Qa rfl)⟩ ⟨rfl,(Qa rfl),(Qa rfl)⟩ rfl)
  (@Jh _ _ _ (Yq (Bj Wp (Jq Jt (pv 4) (pv 1) (λ _ _=>rfl))) (Wo (pv 2) (pv 3) Ys (λ v=>J5 _ _ _ _ _ v)))))
  (@Jh _ _ _ (@Jr _ _ _ _ (J6 Yg rfl T.b_tuple Ya2 (Z7 (Yz Ge (hr.mono (by decide)) rfl (Zb (Jaz Jcp (pv 2) Jcn (Jco (J7 (K':=K) rfl (pv 0)))) Jc)) Jc))))))),Jv h ?_⟩
 rintro as n' P ⟨T,m,n,k,nw,nr,be,rfl,sh,N,hk,h1,h2,g0,g1,q⟩
 have hs:sizeLine=16777216:=Yau
 have one:(1:Nat)<=sizeLine:=by rw [hs];decide
 refine ⟨rfl,one,Jyw Y ⟨⟨by show (-2^63:Int)<=(be:Int);omega,by show (be:Int)<2^63;omega,by show 1*(be:Int).toNat<=_;omega⟩,?_⟩⟩
 rw [show ((be:Nat):Int).toNat=be from Q5 _,Jb9]
 refine ⟨_,.refl,Ju4 Y (Jgt Y ⟨_,J2k sh hk,T.f k,Jao (by omega) (by rw [X5];have:=N.fl k hk;omega),?_⟩)⟩
 rw [show (Qo be (Qv 0)).set (T.f k) (.int T.q)=(dl T be k 0).map .int by rw [<- Jw5 (N.fl k hk),X8,J3s]]
 refine ⟨[.d (Wz C ⟨(nw:Int),(nr:Int),(be:Int)⟩ T),.d (Jo k),.own ((dl T be k 0).map .int),.jnk,.jnk],.eq rfl,Jeu Y (Jbo Y ⟨_,_,_,_,rfl,rfl,rfl,?_⟩)⟩
 refine ⟨λ i env j=>j=n'/\∃ x y:Vl,env=[.d (Wz C ⟨(nw:Int),(nr:Int),(be:Int)⟩ T),.d (Jo k),.own ((dl T be k i).map .int),x,y],⟨rfl,_,_,rfl⟩,?_,?_⟩
 . rintro i x env j hx ⟨rfl,_,_,rfl⟩
   obtain ⟨hi,rfl⟩:=Ju5 sh hx
   refine ⟨rfl,rfl,_,Jw3 sh hi (by omega),T.b i,Jao (by omega) (by rw [Qb,Jic];have:=N.bl i hi;omega),rfl,.d (Jo (T.b i)),.d (Y7 (T.row i)),?_⟩
   rw [<- Jw6 N hk hi,X8]
   rfl
 . rintro env j ⟨rfl,_,_,rfl⟩
   have lz:(W9 (T.bd.map Jo) (T.rows.map Y7)).length=m:=by rw [B8,Qb,Qb,sh.lb,sh.lr];omega
   rw [lz]
   have cut:Ji0 ((dl T be k m).map Qv) none (some ((nw:Nat):Int))=((Qk nw).map (T.dir m k)).map .int:=by
    rw [Jjq,Jw7,<- J5s,<- J5s,List.take_range,J7l h1]
   refine ⟨_,.refl,Ju3 Y ⟨(Qk nw).map (T.dir m k),by rw [cut],by rw [Qb,Qy];omega,g0,g1,?_⟩⟩
   rw [Qw]
   exact q
theorem W1:FnScope ["self","wanted","told","name","rise"] ["self","wanted"] (Jd Bq):=⟨rfl,rfl,rfl,by decide +kernel,rfl,by decide +kernel,by decide +kernel⟩
theorem Jfw {C:Addr}(T:Txt mg) (Y:TableOk K C) (D:DefM K C "shares" "Table.shares" Bq ["self","wanted"]) (c_Table__rises:Wb P w K mg base C "rises" 1 ["self","wanted"] (Z4 (Jgu C))):Wb P w K mg base C "shares" 2 ["self","wanted"] (Z4 (Jif C)):=by
 refine D.cal Y.c λ f fd F=>F.ok W1 (Ba ?_) (λ cdv A outer s H vs Q E hr h=>?_)
 . rintro as n P ⟨T,m,n,nw,nr,be,W,rfl,_⟩
   rfl
 refine ⟨_,(@Jb _ _ _ _ _ (Jy (i:=2) W1.nd rfl (Qa rfl) (Ju Jdc (@PEs.out _ _ _ (Yy (J2 Yt Jw))) (J7 (K':=K) rfl (pv 0))))
  (@Jb _ _ _ _ _ (We Xs rfl (Zd (pv 1)) (Js (i:=3) W1.nd rfl (Qa rfl) (Qa rfl))
  (@Jh _ _ _ (Yq (J7 (K':=K) rfl (pv 0)) (Wo (pv 2) (pv 3) Ys (λ v=>J5 _ _ _ _ _ v)))))
  (@Jb _ _ _ _ _ (We Xs rfl (Vf rfl T.b_zip (Jai (J7 (K':=K) rfl (pv 0)) (Z7 (Jdg c_Table__rises (hr.mono (by decide)) (pv 0) (Ja (pv 1) Jc)) Jc))) (Y4 (K':=K) (i:=3) (j:=4) rfl W1.nd ⟨rfl,(Qa rfl),(Qa rfl)⟩ ⟨rfl,(Qa rfl),(Qa rfl)⟩ rfl)
  (@Jh _ _ _ (Yq (Bj Wp (pv 4)) (Wo (pv 2) (pv 3) Ys (λ v=>J5 _ _ _ _ _ v)))))
  (@Jh _ _ _ (@Jr _ _ _ _ (Jaz Jcp (pv 2) (Jco (J7 (K':=K) rfl (pv 0))) Jcn)))))),Vg h ?_⟩
 rintro as n' P ⟨T,m,n,nw,nr,be,W,rfl,sh,N,hw,h1,h2,q⟩
 have hs:sizeLine=16777216:=Yau
 have one:(1:Nat)<=sizeLine:=by rw [hs];decide
 refine ⟨rfl,one,Jyw Y ⟨⟨by show (-2^63:Int)<=(be:Int);omega,by show (be:Int)<2^63;omega,by show 1*(be:Int).toNat<=_;omega⟩,?_⟩⟩
 rw [show ((be:Nat):Int).toNat=be from Q5 _,Jb9,show Qo be (Qv 0)=(wl T.q be []).map .int by rw [<- J0m,J3s]]
 refine ⟨_,.refl,?_⟩
 refine Jkq (λ e j=>j=n'/\∃ x:Vl,e=[.d (Wz C ⟨(nw:Int),(nr:Int),(be:Int)⟩ T),.d (.list (W.map Jo)),.own ((wl T.q be W).map .int),x,.jnk]) (λ M hM=>?_) ?_
 . refine ⟨λ i env j=>j=n'/\∃ x:Vl,env=[.d (Wz C ⟨(nw:Int),(nr:Int),(be:Int)⟩ T),.d (.list (W.map Jo)),.own ((wl T.q be (W.take i)).map .int),x,.jnk],⟨rfl,_,rfl⟩,?_,?_⟩
   . rintro i x env j hx ⟨rfl,_,rfl⟩
     rw [Qj] at hx
     obtain ⟨w0,hw0,rfl⟩:=Um.mp hx
     have lt:=hw w0 (Xa hw0)
     refine Ju4 Y ⟨w0,Jao (by omega) (by rw [Qb,Jid];omega),rfl,.d (Jo w0),?_⟩
     rw [J4y,hw0]
     show _=[_,_,Vl.own ((wl T.q be (W.take i++[w0])).map .int),_,_]
     rw [<- Jw8 lt,X8]
     rfl
   . rintro env j ⟨rfl,x,rfl⟩
     rw [Qb,J5d]
     exact hM _ _ ⟨rfl,x,rfl⟩
 rintro _ j ⟨rfl,x,rfl⟩
 rw [Jw9 (m:=m)]
 refine ⟨_,.refl,Jgt Y ⟨Jct (m:="rises") (by decide),_,T,m,n,W,rfl,sh,_,_,_,_,rfl,rfl,rfl,?_⟩⟩
 refine ⟨λ i env k=>k=j/\∃ x y:Vl,env=[.d (Wz C ⟨(nw:Int),(nr:Int),(be:Int)⟩ T),.d (.list (W.map Jo)),.own ((sl T m be W i).map .int),x,y],⟨rfl,_,_,rfl⟩,?_,?_⟩
 . rintro i x env k hx ⟨rfl,_,_,rfl⟩
   obtain ⟨hi,rfl⟩:=J0n sh hx
   refine ⟨rfl,rfl,T.f i,Jao (by omega) (by rw [Qb,Jie];have:=N.fl i hi;omega),rfl,.d (Jo (T.f i)),.d (.int (T.rise m W i)),?_⟩
   rw [<- Jxa N hi,X8]
   rfl
 . rintro env k ⟨rfl,_,_,rfl⟩
   have lz:(W9 (T.fr.map Jo) (((Qk n).map (T.rise m W)).map .int)).length=n:=by rw [B8,Qb,Qb,Qb,Qy,sh.lf];omega
   rw [lz]
   refine ⟨_,.refl,Ju3 Y ?_⟩
   show P (Ji0 ((sl T m be W n).map Qv) (some ((nw:Nat):Int)) none) k
   rw [Jfe,<- J4r]
   exact q
theorem Jdw:FnScope ["self","wanted"] ["self","wanted"] (Jd Vz):=⟨rfl,rfl,rfl,by decide +kernel,rfl,by decide +kernel,by decide +kernel⟩
theorem Jdx {C:Addr}(T:Txt mg) (Y:TableOk K C) (D:DefM K C "read_sum" "Table.read_sum" Vz ["self","wanted"]) (c_Table__as_sum:Wb P w K mg base C "as_sum" 1 ["self","shares"] (Jk (Jlf C))) (Ge:Cal P w K mg base "without_divisor" 2 ["numbers"] (Z4 Jgs)) (c_Table__shares:Wb P w K mg base C "shares" 2 ["self","wanted"] (Z4 (Jif C))):Wb P w K mg base C "read_sum" 3 ["self","wanted"] (Jk (Bx C)):=by
 refine D.cal Y.c λ f fd F=>F.ok Jdw (J3 ?_) (λ cdv A outer s H vs Q E hr h=>?_)
 . rintro as n P ⟨T,m,n,nw,nr,be,W,rfl,_⟩
   rfl
 refine ⟨_,(@Jh _ _ _ (@Jr _ _ _ _ (Jdg c_Table__as_sum (hr.mono (by decide)) (pv 0) (Z7 (Yz Ge (hr.mono (by decide)) rfl (Z7 (Jdg c_Table__shares (hr.mono (by decide)) (pv 0) (Ja (pv 1) Jc)) Jc)) Jc)))),Jv h ?_⟩
 rintro as n' P ⟨T,m,n,nw,nr,be,W,rfl,sh,N,hw,h1,h2,h3,g0,g1,q⟩
 have ll:((sl T m be W n).drop nw).length<=1000:=by rw [J4h,Jie];omega
 refine ⟨rfl,Jct (m:="as_sum") (by decide),Jct (m:="shares") (by decide),T,m,n,nw,nr,be,W,rfl,sh,N,hw,h1,h2,(sl T m be W n).drop nw,rfl,by omega,g0,g1,?_⟩
 exact ⟨_,T,nr-nw,_,rfl,by show (nr:Int)-(nw:Int)=_;omega,by rw [Qb];exact ll,q⟩
theorem Vn:FnScope ["self","at","place","row","rows"] ["self","at","place"] (Jd Wm):=⟨rfl,rfl,rfl,by decide +kernel,rfl,by decide +kernel,by decide +kernel⟩
theorem Jdy {C:Addr}(T:Txt mg) (Y:TableOk K C) (D:DefM K C "exchange" "Table.exchange" Wm ["self","at","place"]) (c_Table__without:Wb P w K mg base C "without" 1 ["self","other","row","place"] (Z4 (Jo1 C))):Wb P w K mg base C "exchange" 2 ["self","at","place"] (J0q C):=by
 refine D.cal Y.c λ f fd F=>F.ok Vn (λ vs H Q E h=>by obtain ⟨xx,p,fa,ba,z,T,m,n,l,k,rfl,_⟩:=h;rfl) (λ cdv A outer s H vs Q E hr h=>?_)
 refine ⟨_,(@Jb _ _ _ _ _ (Jy (i:=3) Vn.nd rfl (Qp rfl) (Jq Jt (J7 (K':=K) rfl (pv 0)) (pv 1) (λ _ _=>rfl)))
  (@Jb _ _ _ _ _ (Jvb (Zx (i:=4) (sc:=(Jd Wm)) (N:=["self","at","place","row","rows"]) (N':=["other","self","row","place"]) (k:=1) (idx:=[0,3,2]) rfl Vn.nd rfl rfl (by exact ⟨rfl,by decide +kernel,by decide +kernel,by decide +kernel,by decide +kernel,by decide +kernel,rfl,rfl⟩) rfl rfl (Zd (J7 (K':=K) rfl (pv 0))) (λ _ _ _ _=>(Js (i:=0) (show (["other","self","row","place"]:List Str).Nodup by decide +kernel) rfl (Qa rfl) (Qp rfl))) (λ _ _ _ _=>Yb) (λ _ _ _ _=>(Jdg c_Table__without (hr.mono (by decide)) (pv 1) (Ja (pv 0) (Ja (pv 2) (Ja (pv 3) Jc)))))))
  (@Jb _ _ _ _ _ (Jqc (Yq (J6 Z6 rfl T.b_list Ya7 (Ja (pv 3) Jc)) (Wo (pv 4) (pv 1) Ys (λ v=>J5 _ _ _ _ _ v))))
  (@Jb _ _ _ _ _ (Yq (J7 (K':=K) rfl (pv 0)) (Wo (Jq Jt (pv 4) (pv 1) (λ _ _=>rfl)) (pv 2) Ys (λ v=>J5 _ _ _ _ _ v)))
  (@Jb _ _ _ _ _ (Jbd (pv 0) (pv 4) rfl)
  (@Jb _ _ _ _ _ (Jbd (pv 0) (Jq Jt (pv 3) (pv 2) (λ _ _=>rfl)) rfl)
  (@Jh _ _ _ (Yq (@PEs.out _ _ _ (Zs (Jea (J1 (Jq Jt (J7 (K':=K) rfl (pv 0)) (pv 1) (λ _ _=>rfl))) (Jea (J1 (Jq Jt (J7 (K':=K) rfl (pv 0)) (pv 2) (λ _ _=>rfl))) Jw)))) (Jj6 (n:=2) rfl (Wn (Wo (J7 (K':=K) rfl (pv 0)) (pv 2) Ys (λ v=>J5 _ _ _ _ _ v)) (Wn (Wo (J7 (K':=K) rfl (pv 0)) (pv 1) Ys (λ v=>J5 _ _ _ _ _ v)) Jd2))))))))))),?_⟩
 obtain ⟨xx,p,fa,ba,z,T,m,n,l,k,rfl,hT,sh,hl,hk,q⟩:=h
 have hs:sizeLine=16777216:=Yau
 have mm:=sh.mm
 have nn:=sh.nn
 refine J3h (J0r (N:=["self","at","place","row","rows"]) (as:=[.pin (.ref p) (Wz C z T),.d (Jo l),.d (Jo k)]) (P:=Jyz C p z T l k) ⟨⟨rfl,Rep.nil (hT.rep (by rw [sh.lf];omega) (by rw [sh.lb];omega))⟩,⟨_,rfl,.int _⟩,⟨_,rfl,.int _⟩,trivial⟩ rfl ?_ (λ ex env σ H' n' A hP=>Jxc Y hT sh hl hk A hP q))
 have hlr:l<T.rows.length:=by rw [sh.lr];exact hl
 refine Jbo Y ⟨_,Jib sh hl,_,.refl,Jbo Y ⟨⟨rfl,by rw [Qb,sh.lr];omega⟩,?_⟩⟩
 refine Jnc (λ o=>(Tb.Jcf T.q (T.row l) o k).map .int) T.rows (λ o ho K hK=>⟨Jct (m:="without") (by decide),z,T,o,T.row l,k,rfl,?_,?_,?_,sh.small o ho,sh.small _ ?_,sh.q0,sh.q1,hK⟩) ?_
 . obtain ⟨i,hi⟩:=X4.mp ho
   have il:=(Qq.mp hi).1
   rw [sh.lr] at il
   have:=sh.lw i il
   unfold Tb.Tab.row at this
   rw [Qg,hi] at this
   have this:o.length=n+1:=this
   omega
 . rw [sh.lw l hl];omega
 . obtain ⟨i,hi⟩:=X4.mp ho
   have il:=(Qq.mp hi).1
   rw [sh.lr] at il
   have:=sh.lw i il
   unfold Tb.Tab.row at this
   rw [Qg,hi] at this
   have this:o.length=n+1:=this
   omega
 . unfold Tb.Tab.row
   rw [Qg,Qd hlr]
   exact Xe _
 intro ps hps
 have lps:ps.length=T.rows.length:=by have:=congrArg J5k hps;rwa [Qb,Qb] at this
 refine ⟨_,.refl,?_⟩
 refine ⟨l,Jao (by omega) (by omega),λ b=>?_⟩
 refine ⟨_,.refl,Ju4 Y ⟨l,(b,(T.row l).map .int),Jao (by omega) (by rw [Qr];omega),by rw [Q3 (by omega)],k,Jao (by omega) (by rw [Qb,sh.lw l hl];omega),?_⟩⟩
 refine ⟨_,rfl,?_⟩
 rw [J7x,X8,hps]
 unfold Tb.Tab.ex
 rw [X8,X8,Qw]
 rfl
theorem Zw:FnScope ["self","wanted","place","at"] ["self","wanted"] (Jd W5):=⟨rfl,rfl,rfl,by decide +kernel,rfl,by decide +kernel,by decide +kernel⟩
theorem Jcl {C:Addr}(T:Txt mg) (Y:TableOk K C) (D:DefM K C "find_round" "Table.find_round" W5 ["self","wanted"]) (c_Table__place_to_raise:Wb P w K mg base C "place_to_raise" 2 ["self","wanted"] (Jk (Jcu C))) (c_Table__row_to_free:Wb P w K mg base C "row_to_free" 2 ["self","place"] (Jk (Jfm C))) (c_Table__counts_by:Wb P w K mg base C "counts_by" 3 ["self","place"] (Jk (Jev C))) (c_Table__exchange:Wb P w K mg base C "exchange" 2 ["self","at","place"] (J0q C)):Wb P w K mg base C "find_round" 4 ["self","wanted"] (Jii C):=by
 refine D.cal Y.c λ f fd F=>F.ok Zw (λ vs H Q E h=>by obtain ⟨ex,p,fa,ba,nw,nr,be,m,n,c,T,W,some,wv,rfl,_⟩:=h;rfl) (λ cdv A outer s H vs Q E hr h=>?_)
 refine ⟨_,(@Jb _ _ _ _ _ (Jy (i:=2) Zw.nd rfl (Qa rfl) (Jdg c_Table__place_to_raise (hr.mono (by decide)) (pv 0) (Ja (pv 1) Jc)))
  (@Jb _ _ _ _ _ (Jg6 Xs (J4 Jj7 (pv 2) W3 (Jz _))
  (@Jb _ _ _ _ _ (Jy (i:=3) Zw.nd rfl (Qa rfl) (Jdg c_Table__row_to_free (hr.mono (by decide)) (pv 0) (Ja (pv 2) Jc)))
  (@Jb _ _ _ _ _ (Wh (J4 Jb3 (pv 3) W3 (Jz _)) (@Jh _ _ _ (@Jr _ _ _ _ (Jdg c_Table__counts_by (hr.mono (by decide)) (pv 0) (Ja (pv 2) Jc)))) Yp)
  (@Jb _ _ _ _ _ (Jcm (Jdg c_Table__exchange (hr.mono (by decide)) (pv 0) (Ja (pv 3) (Ja (pv 2) Jc))))
  (@Jh _ _ _ (Jy (i:=2) Zw.nd rfl (Qa rfl) (Jdg c_Table__place_to_raise (hr.mono (by decide)) (pv 0) (Ja (pv 1) Jc))))))))
  (@Jh _ _ _ (@Jr _ _ _ _ W3)))),?_⟩
 obtain ⟨ex,p,fa,ba,nw,nr,be,m,n,c,T0,W,ways,wv,rfl,hT,hw,S,hm,hn,h1,h2,hk,fit,qr,ql⟩:=h
 have t0:Turn C ex p fa ba ⟨(nw:Int),(nr:Int),(be:Int)⟩ m n be c W T0 H wv 0 T0 H:=⟨hT,hk,.refl,hw,λ _=>T0,λ _=>0,λ _=>0,Jva hk.ok,rfl,λ _ _=>hk.nm⟩
 let Pl:V->Tb.Tab->Prop:=λ pv T'=>(pv = .non/\Tb.Last m n W T')\/∃ k,pv=Y0 k/\k<n/\0<T'.rise m W k/\∀ j,j<n->0<T'.rise m W j->T'.f k<=T'.f j
 show Jax _ _ _ [some (.ref p),some wv,none,none] H
 refine Zy (λ σ' H'=>∃ pv,σ'=[some (.ref p),some wv,some pv,none]/\Turn C ex p fa ba ⟨(nw:Int),(nr:Int),(be:Int)⟩ m n be c W T0 H wv 0 T0 H'/\Pl pv T0) (λ N hN=>?_) ?_
 . exact Jij S hm hn t0 rfl rfl (λ k H' a b c kp=>hN _ _ ⟨Y0 k,rfl,t0.keep kp,.inr ⟨k,rfl,a,b,c⟩⟩) (λ H' hl kp=>hN _ _ ⟨.non,rfl,t0.keep kp,.inl ⟨rfl,hl⟩⟩)
 rintro σ' H' ⟨pv,rfl,t1,pl⟩
 refine Zy (λ σ2 H2=>∃ N T',Turn C ex p fa ba ⟨(nw:Int),(nr:Int),(be:Int)⟩ m n be c W T0 H wv N T' H2/\Tb.Last m n W T') (λ N hN=>?_) ?_
 . refine ⟨λ μ σ2 H2=>∃ pv av N T',σ2=[some (.ref p),some wv,some pv,av]/\Turn C ex p fa ba ⟨(nw:Int),(nr:Int),(be:Int)⟩ m n be c W T0 H wv N T' H2/\Pl pv T'/\μ = be^m-N,⟨_,pv,none,0,T0,rfl,t1,pl,rfl⟩,?_⟩
   rintro μ σ2 H2 ⟨pv,av,N1,T1,rfl,t2,pl,rfl⟩
   rcases pl with ⟨rfl,hl⟩ | ⟨k,rfl,a,b,cf⟩
   . exact ⟨_,rfl,rfl,_,rfl,Jbw (by simp) (hN _ _ ⟨N1,T1,t2,hl⟩)⟩
   . refine ⟨_,rfl,rfl,_,rfl,Jc4 (by simp) ⟨λ σ' H'=>∃ μ',μ'<be^m-N1/\∃ pv av N T',σ'=[some (.ref p),some wv,some pv,av]/\Turn C ex p fa ba ⟨(nw:Int),(nr:Int),(be:Int)⟩ m n be c W T0 H wv N T' H'/\Pl pv T'/\μ'=be^m-N,λ σ' H' h=>h,?_⟩⟩
     refine Zy (λ σ' H'=>∃ av',σ'=[some (.ref p),some wv,some (Y0 k),some av']/\Turn C ex p fa ba ⟨(nw:Int),(nr:Int),(be:Int)⟩ m n be c W T0 H wv N1 T1 H'/\((av' = .non/\rf T1 n k m=none)\/∃ l,av'=Y0 l/\rf T1 n k m=some l)) (λ M hM=>?_) ?_
     . exact Jsa S hm hn t2 rfl rfl a (λ l H' e kp=>hM _ _ ⟨_,rfl,t2.keep kp,.inr ⟨l,rfl,e⟩⟩) (λ H' e kp=>hM _ _ ⟨_,rfl,t2.keep kp,.inl ⟨rfl,e⟩⟩)
     rintro σ3 H3 ⟨av',rfl,t3,hf⟩
     rcases hf with ⟨rfl,e⟩ | ⟨l,rfl,e⟩
     . refine ⟨_,rfl,rfl,_,rfl,Jc4 (by simp) ?_⟩
       have ry:=J0p a b e
       have sh:=Jch S t3.k.ok hm hn
       have hs:sizeLine=16777216:=Yau
       obtain ⟨dx,rv,o1,o2⟩:=t3.h.o
       obtain ⟨j,hj,jp⟩:=Jlh fit t3.k.tot t3.k.ok ry
       have jn:=fit.sm j hj
       have jm:T1.dir m k j∈(Qk nw).map (T1.dir m k):=Qm.mpr ⟨j,Xh.mpr jn,rfl⟩
       have jb:(T1.dir m k j).natAbs<2^9000:=Qz (Jfp sh t3.k.ok a ((fit.names t3.k.tot j).mpr (.inr hj))) (J6d (by decide) (by decide))
       have j0:T1.dir m k j≠0:=by omega
       refine ⟨_,rfl,p,dx,_,rfl,o1,rfl,_,rfl,?_⟩
       refine Jew (sp:=Jev C) (E:=E0) (vs:=[Y0 k]) (as:=[.d (Jo k)]) t3.h (by rw [sh.lf];omega) (by rw [sh.lb];omega) ⟨⟨_,rfl,.int _⟩,trivial⟩ (P:=λ d _=>d = .tuple (((Qk nw).map (T1.dir m k)).map λ x=>.int (x/((Zk ((Qk nw).map (T1.dir m k)):Nat):Int)))) ⟨T1,m,n,k,nw,nr,be,rfl,sh,t3.k.nm,a,h1,h2,Jlj jm j0,Jvc jm j0 jb,rfl⟩ λ d n' v H' hp kp r=>?_
       subst hp
       exact qr H' T1 k v (t3.keep kp).h t3.k ry (t3.keep kp).kp r
     . refine ⟨_,rfl,rfl,_,rfl,Jbw (by simp) ?_⟩
       have st:=Jxb t3.k.ok a b cf e
       have sh:=Jch S t3.k.ok hm hn
       obtain ⟨dx,rv,o1,o2⟩:=t3.h.o
       unfold Jpr
       dsimp only
       refine Zy (λ σ' H'=>σ'=[some (.ref p),some wv,some (Y0 k),some (Y0 l)]/\Turn C ex p fa ba ⟨(nw:Int),(nr:Int),(be:Int)⟩ m n be c W T0 H wv (N1+1) (T1.ex l k) H') (λ M hM=>?_) ?_
       . exact ⟨_,rfl,p,dx,_,rfl,o1,rfl,_,rfl,_,rfl,ex,p,fa,ba,_,T1,m,n,l,k,rfl,t3.h,sh,st.hl,a,λ H' hT' kp=>hM _ _ ⟨rfl,t3.next st hT' kp⟩⟩
       rintro σ4 H4 ⟨rfl,t4⟩
       have few:=t4.few
       refine Jij S hm hn t4 rfl rfl (λ k' H' a b c kp=>⟨_,?_,Y0 k',_,_,_,rfl,t4.keep kp,.inr ⟨k',rfl,a,b,c⟩,rfl⟩) (λ H' hl kp=>⟨_,?_,.non,_,_,_,rfl,t4.keep kp,.inl ⟨rfl,hl⟩,rfl⟩)
       . omega
       . omega
 . rintro σ2 H2 ⟨N,T',t,hl⟩
   exact ql H2 T' t.h t.k hl t.kp
theorem Be:FnScope ["book","stand","rooms","purses","ways","room","numbers"] ["book","stand"] (Jd Vc):=⟨rfl,rfl,rfl,by decide +kernel,rfl,by decide +kernel,by decide +kernel⟩
theorem Jfx (T:Txt mg) (D:Def K mg "first_numbers" Vc ["book","stand"]):Cal P w K mg base "first_numbers" 1 ["book","stand"] (Z4 Jih):=by
 refine D.cal λ f fd F=>F.ok Be (Ba ?_) (λ cdv A outer s H vs Q E hr h=>?_)
 . rintro as n P ⟨R,U,ws,rfl,_⟩
   rfl
 refine ⟨_,(@Jb _ _ _ _ _ (Yq (pv 0) (Bg (K':=K) (i:=2) (j:=3) (m:=4) rfl Be.nd ⟨rfl,(Qa rfl),(Qa rfl)⟩ ⟨rfl,(Qa rfl),(Qa rfl)⟩ ⟨rfl,(Qa rfl),(Qa rfl)⟩ rfl))
  (@Jb _ _ _ _ _ (Wh (J4 Jb3 (pv 1) W3 (Jz _)) (@Jh _ _ _ (@Jr _ _ _ _ (Ju Jdc (@PEs.out _ _ _ (Yy (J2 Yt Jw))) (Ju W4 (pv 3) (pv 2))))) Yp)
  (@Jb _ _ _ _ _ (Yq (pv 1) (Y4 (K':=K) (i:=5) (j:=6) rfl Be.nd ⟨rfl,(Qp rfl),(Qa rfl)⟩ ⟨rfl,(Qa rfl),(Qa rfl)⟩ rfl))
  (@Jh _ _ _ (@Jr _ _ _ _ (Ju Jkc (J6 Z6 rfl T.b_list Ya7 (Ja (pv 6) Jc)) (Yx (sc:=(Jd Vc)) (N:=["book","stand","rooms","purses","ways","room","numbers"]) (N':=["other","room"]) (k:=1) (idx:=[5]) rfl (by exact ⟨rfl,by decide +kernel,by decide +kernel,by decide +kernel,by decide +kernel,by decide +kernel,rfl,rfl⟩) rfl rfl (Y8 rfl T.b_range (Ja (pv 2) Jc)) (λ _ _ _ _=>(Js (i:=0) (show (["other","room"]:List Str).Nodup by decide +kernel) rfl (Qa rfl) (Qp rfl))) (λ _ _ _ _=>Yb) (λ _ _ _ _=>(J6 Jay rfl T.b_int Ybo (Jhh (Zl Jag (pv 0) (pv 1) (Jz _)) Jc)))))))))),Vg h ?_⟩
 rintro as n P ⟨R,U,ws,rfl,ok,q⟩
 have hs:sizeLine=16777216:=Yau
 have one:(1:Nat)<=sizeLine:=by rw [hs];decide
 have r0:=ok.r0
 have r1:=ok.r1
 have p0:=ok.p0
 have p1:=ok.p1
 refine ⟨rfl,rfl,rfl,_,.refl,rfl,Ve ⟨one,⟨by omega,by omega,by show 1*(U+R).toNat<=_;omega⟩,?_⟩⟩
 rw [Juj]
 exact q
theorem V2:FnScope ["self","book","some","stand","rooms","purses","ways","rows"] ["self","book","some","stand"] (Jd Zf):=⟨rfl,rfl,rfl,by decide +kernel,rfl,by decide +kernel,by decide +kernel⟩
theorem Jix {C:Addr}(T:Txt mg) (Y:TableOk K C) (D:DefI2 K mg "Table" C "Table.__init__" Zf ["self","book","some","stand"]) (Gq:Cal P w K mg base "first_numbers" 1 ["book","stand"] (Z4 Jih)):Jne P w K mg base "Table" C 2 ["self","book","some","stand"] (Jll C):=by
 refine D.cal λ f fd F=>F.ok V2 (λ vs H Q E h=>by obtain ⟨ex,x,dx,R,U,ws,ks,bv,sv,rfl,_⟩:=h;rfl) (λ cdv A outer s H vs Q E hr h=>?_)
 refine ⟨_,(@Jb _ _ _ _ _ (Yq (pv 1) (Bg (K':=K) (i:=4) (j:=5) (m:=6) rfl V2.nd ⟨rfl,(Qa rfl),(Qa rfl)⟩ ⟨rfl,(Qa rfl),(Qa rfl)⟩ ⟨rfl,(Qp rfl),(Qa rfl)⟩ rfl))
  (@Jb _ _ _ _ _ (Jbd (pv 0) (J0 Yi rfl T.b_len Uo (Ja (pv 6) Jc)) rfl)
  (@Jb _ _ _ _ _ (Jbd (pv 0) (Ju W4 (J0 Yi rfl T.b_len Uo (Ja (pv 6) Jc)) (pv 5)) rfl)
  (@Jb _ _ _ _ _ (Jbd (pv 0) (Ju W4 (Ju W4 (J0 Yi rfl T.b_len Uo (Ja (pv 6) Jc)) (pv 5)) (pv 4)) rfl)
  (@Jb _ _ _ _ _ (Jbd (pv 0) (J6 Z6 rfl T.b_list Ya7 (Ja (pv 2) Jc)) rfl)
  (@Jb _ _ _ _ _ (Jbd (pv 0) (Ji7 rfl rfl T.b_list rfl T.b_range (Jai (J7 (K':=K) rfl (pv 0)) (Jai (J7 (K':=K) rfl (pv 0)) Jc))) rfl)
  (@Jb _ _ _ _ _ (Jf5 (i:=7) (sc:=(Jd Zf)) (N:=["self","book","some","stand","rooms","purses","ways","rows"]) (N':=["p","some","ways"]) (k:=1) (idx:=[2,6]) rfl V2.nd rfl rfl (by exact ⟨rfl,by decide +kernel,by decide +kernel,by decide +kernel,by decide +kernel,by decide +kernel,rfl,rfl⟩) rfl rfl (Y8 rfl T.b_range (Ja (pv 5) Jc)) (λ _ _ _ _=>(Js (i:=0) (show (["p","some","ways"]:List Str).Nodup by decide +kernel) rfl (Qp rfl) (Qa rfl))) (λ _ _ _ _=>Yb) (λ _ _ _ _=>(Yx (sc:=Jtl _ (Jd Zf)) (N:=["p","some","ways"]) (N':=["k","ways","p"]) (k:=1) (idx:=[2,0]) rfl (by exact ⟨rfl,by decide +kernel,by decide +kernel,by decide +kernel,by decide +kernel,by decide +kernel,rfl,rfl⟩) (Jv6 rfl) rfl (by exact (Jnf (K':=K) rfl (pv 1))) (λ _ _ _ _=>(Js (i:=0) (show (["k","ways","p"]:List Str).Nodup by decide +kernel) rfl (Qa rfl) (Qp rfl))) (λ _ _ _ _=>Yb) (λ _ _ _ _=>(Bj Wp (Jq (Wk (K':=K) rfl) (Jq (Wk (K':=K) rfl) (Jq (Wk (K':=K) rfl) (pv 1) (pv 0) (λ _ _=>rfl)) Ji (λ _ _=>rfl)) (pv 2) (λ _ _=>rfl)))))))
  (@Jb _ _ _ _ _ (Jza (i:=7) V2.nd rfl (Qa rfl) (Jmh (sc:=(Jd Zf)) (N:=["self","book","some","stand","rooms","purses","ways","rows"]) (N':=["room","some","ways"]) (k:=1) (idx:=[2,6]) rfl (by exact ⟨rfl,by decide +kernel,by decide +kernel,by decide +kernel,by decide +kernel,by decide +kernel,rfl,rfl⟩) rfl rfl (Y8 rfl T.b_range (Ja (pv 4) Jc)) (λ _ _ _ _=>(Js (i:=0) (show (["room","some","ways"]:List Str).Nodup by decide +kernel) rfl (Qp rfl) (Qa rfl))) (λ _ _ _ _=>Yb) (λ _ _ _ _=>(Yx (sc:=Jtl _ (Jd Zf)) (N:=["room","some","ways"]) (N':=["k","ways","room"]) (k:=1) (idx:=[2,0]) rfl (by exact ⟨rfl,by decide +kernel,by decide +kernel,by decide +kernel,by decide +kernel,by decide +kernel,rfl,rfl⟩) (Jv6 rfl) rfl (by exact (Jnf (K':=K) rfl (pv 1))) (λ _ _ _ _=>(Js (i:=0) (show (["k","ways","room"]:List Str).Nodup by decide +kernel) rfl (Qa rfl) (Qp rfl))) (λ _ _ _ _=>Yb) (λ _ _ _ _=>(Ju Jam (J6 Jay rfl T.b_int Ybo (Jhh (Zl Jag (Jq (Wk (K':=K) rfl) (Jq (Wk (K':=K) rfl) (pv 1) (pv 0) (λ _ _=>rfl)) Ji (λ _ _=>rfl)) (pv 2) (Jz _)) Jc)) (J6 Jay rfl T.b_int Ybo (Jhh (Zl Jag (Jq (Wk (K':=K) rfl) (Jq (Wk (K':=K) rfl) (pv 1) (pv 0) (λ _ _=>rfl)) Ji (λ _ _=>rfl)) (pv 2) (Jz _)) Jc))))))) Jxd)
  (@Jb _ _ _ _ _ (Jbd (pv 0) (Yx (sc:=(Jd Zf)) (N:=["self","book","some","stand","rooms","purses","ways","rows"]) (N':=["row","first"]) (k:=2) (idx:=[]) rfl (by exact ⟨rfl,by decide +kernel,by decide +kernel,by decide +kernel,by decide +kernel,by decide +kernel,rfl,rfl⟩) rfl rfl (Vf rfl T.b_zip (Ja (pv 7) (Z7 (Yz Gq (hr.mono (by decide)) rfl (Ja (pv 1) (Ja (pv 3) Jc))) Jc))) (λ _ _ _ _=>(Y4 (K':=K) (i:=0) (j:=1) rfl (show (["row","first"]:List Str).Nodup by decide +kernel) ⟨rfl,(Qa rfl),(Qp rfl)⟩ ⟨rfl,(Qa rfl),(Qp rfl)⟩ rfl)) (λ _ _ _ _=>Yb) (λ _ _ _ _=>(Ju Jkc (pv 0) (@PEs.out _ _ _ (Yy (Y5 (J1 (pv 1)) Jw)))))) rfl)
  (@Jh _ _ _ (Jbd (pv 0) Ji rfl))))))))))),?_⟩
 obtain ⟨ex,x,dx,R,U,ws,ks,bv,sv,rfl,hx,alx,nxe,rb,rs,ok,hk,kl,q⟩:=h
 have hs:sizeLine=16777216:=Yau
 have r0:=ok.r0
 have r1:=ok.r1
 have p0:=ok.p0
 have p1:=ok.p1
 have wl:=ok.len
 obtain ⟨ba,wa,vs,B⟩:=Jtg rb
 have bl:=B.len
 obtain ⟨sa,svs,rfl,hsa,nsa,zsa,rsa⟩:=Jgm rs
 have bx:ba≠x:=λ z=>B.nb (by rw [z];exact Qh)
 have wx:wa≠x:=λ z=>B.nw (by rw [z];exact Qh)
 have sx:sa≠x:=λ z=>nsa (by rw [z];exact Qh)
 refine ⟨_,rfl,ba,_,B.e,SqT.of B.b,rfl,_,_,rfl,_,_,rfl,_,_,rfl,rfl,?_⟩
 show Jax _ _ _ [some (.ref x),some bv,some (.ref sa),some .non,some (.int R),some (.int U),some (.ref wa),none] H
 refine ⟨_,rfl,wa,vs,rfl,.inr (SqT.of B.w),_,rfl,x,C,dx,_,rfl,hx,Y.c,Y.n1,Xc rfl,?_⟩
 refine ⟨_,rfl,wa,vs,rfl,.inr (SqT.of (by rw [Jf wx];exact B.w)),_,rfl,_,_,rfl,rfl,_,rfl,x,C,dx,_,rfl,Jg,Y.c,Y.n2,Xc rfl,?_⟩
 rw [Jgj]
 refine ⟨_,rfl,wa,vs,rfl,.inr (SqT.of (by rw [Jf wx];exact B.w)),_,rfl,_,_,rfl,rfl,_,rfl,_,_,rfl,rfl,_,rfl,x,C,dx,_,rfl,Jg,Y.c,Y.n3,Xc rfl,?_⟩
 rw [Jgj,bl]
 refine ⟨_,rfl,sa,svs,rfl,.inl (SqL.of (by rw [Jf sx];exact hsa)),λ fa hfa=>?_⟩
 have fx:fa≠x:=λ z=>by rw [z,Jg] at hfa;cases hfa
 rw [Jf fx] at hfa
 refine ⟨_,rfl,x,C,dx,_,rfl,by rw [Jf (Ql fx),Jg],Y.c,Y.n4,Xc rfl,?_⟩
 refine ⟨_,rfl,x,C,dx,_,_,rfl,Jg,Y.c,Y.n1,rfl,_,rfl,x,C,dx,_,_,rfl,Jg,Y.c,Y.n3,rfl,_,_,rfl,by omega,by omega,by omega,λ ba' hba=>?_⟩
 have bx':ba'≠x:=λ z=>by rw [z,Jg] at hba;cases hba
 rw [Jf bx'] at hba
 have bf:ba'≠fa:=λ z=>by rw [z,Jg] at hba;cases hba
 rw [Jf bf,Jf bx'] at hba
 refine ⟨_,rfl,x,C,dx,_,rfl,by rw [Jf (Ql bx'),Jg],Y.c,Y.n5,Xc rfl,?_⟩
 have svs':svs=ks.map Y0:=by
  have:=Reps.ints_inv (ns:=ks.map λ k:Nat=>(k:Int)) (vs:=svs) (by rw [Qw];exact rsa)
  rw [this,Qw];rfl
 have bds:Jey (ws.length:Int) ((ws.length:Int)+U+R-(ws.length:Int)).toNat=(Jaf R U ws ks).bd.map Y0:=by
  unfold Jey Jaf Tb.Bp
  rw [Qw,show ((ws.length:Int)+U+R-(ws.length:Int)).toNat=(U+R).toNat by omega]
  refine X7 λ i _=>?_
  show V.int _=V.int _
  congr 1
 subst svs'
 rw [bds]
 let fs5:List (Str×V):=[("first_purse",.int ws.length),("first_room",.int (ws.length+U)),("behind_all",.int (ws.length+U+R)),("free",.ref fa),("bound",.ref ba')]
 obtain ⟨H6,e6,h6x,h6f,h6b,k6⟩:∃ H6:Hp,H6=upd (upd (upd (upd (upd H x (.ins C dx (L2.putF "behind_all" (.int ((ws.length:Int)+U+R)) (L2.putF "first_room" (.int ((ws.length:Int)+U)) (L2.putF "first_purse" (.int (ws.length:Int)) []))))) fa (.lst (ks.map Y0))) x (.ins C dx (L2.putF "free" (.ref fa) (L2.putF "behind_all" (.int ((ws.length:Int)+U+R)) (L2.putF "first_room" (.int ((ws.length:Int)+U)) (L2.putF "first_purse" (.int (ws.length:Int)) [])))))) ba' (.lst ((Jaf R U ws ks).bd.map Y0))) x (.ins C dx fs5)/\H6 x=some (.ins C dx fs5)/\H6 fa=some (.lst (ks.map Y0))/\H6 ba'=some (.lst ((Jaf R U ws ks).bd.map Y0))/\Kp [x] H H6:=by
  refine ⟨_,rfl,Jg,by rw [Jf fx,Jf (Ql bf),Jf fx,Jg],by rw [Jf bx',Jg],λ b o e nb=>?_⟩
  have nx:b≠x:=λ z=>nb (by rw [z];exact Qh)
  rw [Jf nx,Jf (Jp e hba),Jf nx,Jf (Jp e hfa),Jf nx]
  exact e
 dsimp only
 have go:∀ {a b:TS} {D:Ends} {σ:L2.St} (H':Hp),H'=H6->Jax a b D σ H6->Jax a b D σ H':=λ {a b D σ} H' e g=>by rw [e];exact g
 refine go _ e6.symm ?_
 clear go
 have kx6:Kp (fa::ba'::x::ex) H H6:=k6.mono λ b hb=>by rw [Qt.mp hb];simp
 have frx:∀ b∈[fa,ba'],H b=none:=λ b hb=>by
  rcases Qf.mp hb with rfl | hb
  . exact hfa
  . rw [Qt.mp hb];exact hba
 have rb6:Rep (fa::ba'::x::ex) H6 (J8 R U ws) bv:=(Rep.adds (L:=[fa,ba']) frx rb).keep kx6
 have rs6:Rep (fa::ba'::x::ex) H6 (.list (ks.map Jo)) (.ref sa):=(Rep.adds (L:=[fa,ba']) frx rs).keep kx6
 have rw6:Rep (fa::ba'::x::ex) H6 (.tuple (ws.map Y6)) (.ref wa):=(Rep.adds (L:=[fa,ba']) frx (.tuple B.w B.nw B.z B.r)).keep kx6
 have al6:Alc (fa::ba'::x::ex) H6:=λ b hb=>by
  rcases Qf.mp hb with rfl | hb
  . rw [h6f];exact Xp _
  . rcases Qf.mp hb with rfl | hb
    . rw [h6b];exact Xp _
    . rcases Qf.mp hb with rfl | hb
      . rw [h6x];exact Xp _
      . cases e:H b with
        | none=>exact absurd e (alx b hb)
        | some o=>rw [k6 b o e (λ z=>nxe (by rw [<- Qt.mp z];exact hb))];exact Xp _
 have hU:((U.toNat:Nat):Int)=U:=U9 (by omega)
 have hR:((R.toNat:Nat):Int)=R:=U9 (by omega)
 have E6:Ev Src.no (fa::ba'::x::ex) [.jnk,.d (J8 R U ws),.d (.list (ks.map Jo)),.d .none,.d (.int R),.d (.int U),.d (.tuple (ws.map Y6))] [some (.ref x),some bv,some (.ref sa),some .non,some (.int R),some (.int U),some (.ref wa),none] H6 0:=Jge.ev ⟨trivial,⟨_,rfl,rb6⟩,⟨_,rfl,rs6⟩,⟨_,rfl,.none⟩,⟨_,rfl,.int _⟩,⟨_,rfl,.int _⟩,⟨_,rfl,rw6⟩,trivial⟩ al6
 refine Jvd (λ ds _=>ds=(Qk U.toNat).map λ i=>.list (ks.map λ k=>.int (Z5 U ws k i))) E6 ?_ ?_
 . refine ⟨U,rfl,⟨by omega,by omega⟩,⟨rfl,by rw [Yn];omega⟩,?_⟩
   refine Wy (λ i=>.list (ks.map λ k=>.int (Z5 U ws k i))) (λ i hi n K hK=>Ve ⟨⟨rfl,by rw [Qb];omega⟩,?_⟩) rfl
   refine Y9 (f:=Jo) (λ k=>.int (Z5 U ws k i)) (λ k hkk n K hK=>Ve ?_) hK
   have k1:=hk k hkk
   have wok:=ok.ways _ (Ym (Xk k) (by omega))
   have gl:i<(Je ws (k:Int)).g.length:=by have:=wok.len;omega
   refine ⟨_,Jdf (Xk k) (by omega),_,rfl,_,Zt (by omega) (by rw [J31,Q5,Qj,Qd gl];rfl),?_⟩
   have e:Z5 U ws k i = -(Je ws (k:Int)).g[i]:=by
    unfold Z5
    rw [if_pos k1,if_pos (by omega),Qg,Qd gl];rfl
   rw [e] at hK
   exact hK
 rintro ds n7 ra rvs H7 rfl st7 hra h7a z7 r7
 have k7:Kp [] H6 H7:=st7.1
 have E7:=E6.step st7
 have kx7:Kp (ra::fa::ba'::x::ex) H6 H7:=k7.mono λ a ha=>by cases ha
 have al7:Alc (ra::fa::ba'::x::ex) H7:=λ b hb=>by
  rcases Qf.mp hb with rfl | hb
  . rw [h7a];exact Xp _
  . exact E7.al b hb
 have rb7:Rep (ra::fa::ba'::x::ex) H7 (J8 R U ws) bv:=(Rep.add hra rb6).keep kx7
 have rs7:Rep (ra::fa::ba'::x::ex) H7 (.list (ks.map Jo)) (.ref sa):=(Rep.add hra rs6).keep kx7
 have rw7:Rep (ra::fa::ba'::x::ex) H7 (.tuple (ws.map Y6)) (.ref wa):=(Rep.add hra rw6).keep kx7
 have E7':Ev Src.no (ra::fa::ba'::x::ex) [.jnk,.d (J8 R U ws),.d (.list (ks.map Jo)),.d .none,.d (.int R),.d (.int U),.d (.tuple (ws.map Y6))] [some (.ref x),some bv,some (.ref sa),some .non,some (.int R),some (.int U),some (.ref wa),some (.ref ra)] H7 0:=Jge.ev ⟨trivial,⟨_,rfl,rb7⟩,⟨_,rfl,rs7⟩,⟨_,rfl,.none⟩,⟨_,rfl,.int _⟩,⟨_,rfl,.int _⟩,⟨_,rfl,rw7⟩,trivial⟩ al7
 refine Jve (λ ds _=>ds=(Qk R.toNat).map λ i=>.list (ks.map λ k=>.int (Z5 U ws k (U.toNat+i)))) E7' ?_ rfl h7a (by simp [Src.no]) ?_
 . refine ⟨R,rfl,⟨by omega,by omega⟩,⟨rfl,by rw [Yn];omega⟩,?_⟩
   refine Wy (λ i=>.list (ks.map λ k=>.int (Z5 U ws k (U.toNat+i)))) (λ i hi n K hK=>Ve ⟨⟨rfl,by rw [Qb];omega⟩,?_⟩) rfl
   refine Y9 (f:=Jo) (λ k=>.int (Z5 U ws k (U.toNat+i))) (λ k hkk n K hK=>Ve ?_) hK
   have k1:=hk k hkk
   have wok:=ok.ways _ (Ym (Xk k) (by omega))
   have e:Z5 U ws k (U.toNat+i)=(if decide ((Je ws (k:Int)).a=0+(i:Int))=true then 1 else 0)-(if decide ((Je ws (k:Int)).b=0+(i:Int))=true then 1 else 0):=by
    unfold Z5
    rw [if_pos k1,if_neg (by omega),show ((U.toNat+i:Nat):Int)-U=0+(i:Int) by omega]
    simp only [decide_eq_true_eq]
   rw [e] at hK
   exact ⟨_,Jdf (Xk k) (by omega),_,rfl,_,Jdf (Xk k) (by omega),_,rfl,hK⟩
 rintro ds n8 rb us H8 rfl st8 hrb h8b z8 r8 h8a
 have k8:Kp [] H7 H8:=st8.1
 have l7:=r7.length
 rw [Qb,Qy] at l7
 have l8:=r8.length
 rw [Qb,Qy] at l8
 refine ⟨by omega,?_⟩
 have nra:ra∉(fa::ba'::x::ex):=λ z=>E6.al ra z hra
 have nrb:ra≠rb:=λ z=>by rw [z,hrb] at h7a;cases h7a
 have ram:ra∈(ra::fa::ba'::x::ex):=Qh
 have k8':Kp (ra::fa::ba'::x::ex) H7 (upd H8 ra (.lst (rvs++us))):=(k8.mono λ a ha=>by cases ha).trans (Kp.at ram _)
 have rows8:Reps (ra::fa::ba'::x::ex) (upd H8 ra (.lst (rvs++us))) ((Qk (U+R).toNat).map λ i=>.list (ks.map λ k=>.int (Z5 U ws k i))) (rvs++us):=by
  rw [show (U+R).toNat=U.toNat+R.toNat by omega,J9z,Xb,Qw]
  exact Reps.append (r7.keep k8') ((Reps.sub r8).keep (Kp.at ram _))
 have al8:Alc (fa::ba'::x::ex) (upd H8 ra (.lst (rvs++us))):=λ b hb=>by
  by_cases e:b=ra
  . rw [e,Jg];exact Xp _
  . rw [Jf e];exact (E7'.step st8).al b (Qi _ hb)
 have E8:Ev Src.no (fa::ba'::x::ex) [.jnk,.d (J8 R U ws),.d (.list (ks.map Jo)),.d .none,.d (.int R),.d (.int U),.d (.tuple (ws.map Y6)),.d (.list ((Qk (U+R).toNat).map λ i=>.list (ks.map λ k=>.int (Z5 U ws k i))))] [some (.ref x),some bv,some (.ref sa),some .non,some (.int R),some (.int U),some (.ref wa),some (.ref ra)] (upd H8 ra (.lst (rvs++us))) 0:=Jge.ev ⟨trivial,⟨_,rfl,Rep.sub (rb7.keep k8')⟩,⟨_,rfl,Rep.sub (rs7.keep k8')⟩,⟨_,rfl,.none⟩,⟨_,rfl,.int _⟩,⟨_,rfl,.int _⟩,⟨_,rfl,Rep.sub (rw7.keep k8')⟩,⟨_,rfl,.list Jg nra (by rw [Xj];omega) (Reps.sub rows8)⟩,trivial⟩ al8
 have xra:x≠ra:=λ z=>nra (by rw [<- z];simp)
 have fra:fa≠ra:=λ z=>nra (by rw [<- z];simp)
 have bra:ba'≠ra:=λ z=>nra (by rw [<- z];simp)
 have h8x:(upd H8 ra (.lst (rvs++us))) x=some (.ins C dx fs5):=by rw [Jf xra];exact k8 _ _ (k7 _ _ h6x (by simp)) (by simp)
 refine Jvf (λ ds _=>ds=(Jaf R U ws ks).rows.map Y7) E8 ?_ rfl h8x (by simp [Src.no]) Y.c Y.n6 (Xc rfl) ?_
 . refine ⟨R,U,ws,rfl,ok,_,_,_,_,rfl,rfl,rfl,⟨rfl,by rw [B8,Qb,Qy];omega⟩,?_⟩
   have ez:W9 ((Qk (U+R).toNat).map λ i=>Ua (ks.map λ k=>.int (Z5 U ws k i))) ((Qo (U+R).toNat (0:Int)).map .int)=(Qk (U+R).toNat).map λ i=>Ub [.list (ks.map λ k=>.int (Z5 U ws k i)),.int 0]:=by
    apply X1
    intro i
    unfold W9
    rw [Uf,Qj,Qj,Qj,U4]
    by_cases hi:i<(U+R).toNat
    . rw [Xl hi,if_pos hi];rfl
    . rw [Qx (by rw [Qy];omega)];rfl
   rw [ez]
   refine Wy (λ i=>Y7 (ks.map (λ k=>Z5 U ws k i)++[0])) (λ i hi n K hK=>⟨rfl,rfl,Ve ?_⟩) ?_
   . have e:Y7 (ks.map (λ k=>Z5 U ws k i)++[0]) = .list ((ks.map λ k=>.int (Z5 U ws k i))++[.int 0]):=by
      show Ua _=_
      rw [Xb,Qw];rfl
     rw [e] at hK
     exact ⟨Xc rfl,by rw [Qb];show ks.length+1<=sizeLine;omega,hK⟩
   . unfold Jaf Tb.Bp
     rw [Qw]
     rfl
 rintro ds n9 rr vs9 H9 rfl st9 hrr h9r z9 r9 h9x
 have k9:Kp [] (upd H8 ra (.lst (rvs++us))) H9:=st9.1
 refine ⟨_,rfl,x,C,dx,_,rfl,Jg,Y.c,Y.n7,Xc rfl,?_⟩
 rw [Jgj]
 have h8f:(upd H8 ra (.lst (rvs++us))) fa=some (.lst (ks.map Y0)):=by rw [Jf fra];exact k8 _ _ (k7 _ _ h6f (by simp)) (by simp)
 have h8b':(upd H8 ra (.lst (rvs++us))) ba'=some (.lst ((Jaf R U ws ks).bd.map Y0)):=by rw [Jf bra];exact k8 _ _ (k7 _ _ h6b (by simp)) (by simp)
 have xr:rr≠x:=λ z=>by rw [z,h8x] at hrr;cases hrr
 have fr:rr≠fa:=λ z=>by rw [z,h8f] at hrr;cases hrr
 have br:rr≠ba':=λ z=>by rw [z,h8b'] at hrr;cases hrr
 have nrx:rr∉fa::ba'::x::ex:=λ z=>E8.al rr z hrr
 have mv:∀ b,b∈x::fa::ba'::ex->b∈fa::ba'::x::ex:=λ b hb=>by
  simp only [Qf] at hb ⊢
  rcases hb with h | h | h | h
  . exact .inr (.inr (.inl h))
  . exact .inl h
  . exact .inr (.inl h)
  . exact .inr (.inr (.inr h))
 refine q _ fa ba' hfa hba ⟨⟨dx,.ref rr,?_,?_⟩,?_,?_,Ql fx,Ql bx',Ql bf,nxe,λ z=>alx fa z hfa,λ z=>alx ba' z hba,λ b hb=>?_⟩ λ b o e nb=>?_
 . rw [Jg];rfl
 . refine .list (by rw [Jf xr];exact h9r) (λ z=>nrx (mv rr z)) z9 ?_
   exact (Reps.mono (λ b hb=>Qi _ (mv b hb)) r9).keep (Kp.at Qh _)
 . rw [Jf fx];exact k9 _ _ h8f (by simp)
 . rw [Jf bx'];exact k9 _ _ h8b' (by simp)
 . by_cases e:b=x
   . rw [e,Jg];exact Xp _
   . rw [Jf e]
     exact E8.al.kp k9 b (Qi _ (Qi _ (Qi _ hb)))
 . have nx:b≠x:=λ z=>nb (by rw [z];exact Qh)
   rw [Jf nx]
   refine k9 _ _ ?_ (by simp)
   have e6':=k6 b o e nb
   rw [Jf (Jp e6' hra)]
   exact k8 _ _ (k7 _ _ e6' (by simp)) (by simp)
theorem Jpi:FnScope ["book","some"] ["book","some"] (Jd Jba):=⟨rfl,rfl,rfl,by decide +kernel,rfl,by decide +kernel,by decide +kernel⟩
theorem Jpj (T:Txt mg) (D:Def K mg "is_ring" Jba ["book","some"]) (Gr:Cal P w K mg base "has_way" 3 ["book","k"] (Jk Jhr)) (Gf:Cal P w K mg base "rings_of" 2 ["book","some"] (Jk Jgo)):Cal P w K mg base "is_ring" 4 ["book","some"] (Jk Jip):=by
 refine D.cal λ f fd F=>F.ok Jpi (J3 ?_) (λ cdv A outer s H vs Q E hr h=>?_)
 . rintro as n P ⟨R,U,ws,ks,rfl,_⟩
   rfl
 refine ⟨_,(@Jb _ _ _ _ _ (Wh (PW.pt (Jl1 (Jb1 (V4 (J0 Jd7 rfl T.b_all boot_all (Wx (Yx (sc:=(Jd Jba)) (N:=["book","some"]) (N':=["k","book"]) (k:=1) (idx:=[0]) rfl (by exact ⟨rfl,by decide +kernel,by decide +kernel,by decide +kernel,by decide +kernel,by decide +kernel,rfl,rfl⟩) rfl rfl (Zd (pv 1)) (λ _ _ _ _=>(Js (i:=0) (show (["k","book"]:List Str).Nodup by decide +kernel) rfl (Qa rfl) (Qp rfl))) (λ _ _ _ _=>Yb) (λ _ _ _ _=>(Yz Gr (hr.mono (by decide)) rfl (Ja (pv 1) (Ja (pv 0) Jc))))) Jc)))) (Jg4 (Jb1 (V4 (J0 Jd7 rfl T.b_all boot_all (Wx (Yx (sc:=(Jd Jba)) (N:=["book","some"]) (N':=["k","then"]) (k:=2) (idx:=[]) rfl (by exact ⟨rfl,by decide +kernel,by decide +kernel,by decide +kernel,by decide +kernel,by decide +kernel,rfl,rfl⟩) rfl rfl (Vf rfl T.b_zip (Ja (pv 1) (Zb (Jaz Jcp (pv 1) (Jco Ji) Jcn) Jc))) (λ _ _ _ _=>(Y4 (K':=K) (i:=0) (j:=1) rfl (show (["k","then"]:List Str).Nodup by decide +kernel) ⟨rfl,(Qa rfl),(Qp rfl)⟩ ⟨rfl,(Qa rfl),(Qp rfl)⟩ rfl)) (λ _ _ _ _=>Yb) (λ _ _ _ _=>(Zl Jjg (pv 0) (pv 1) (Jz _)))) Jc))))))) (@Jh _ _ _ (@Jr _ _ _ _ Jc2)) Yp)
  (@Jh _ _ _ (@Jr _ _ _ _ (Zl (Joj hr.units) (Yz Gf (hr.mono (by decide)) rfl (Ja (pv 0) (Ja (pv 1) Jc))) (@PEs.out _ _ _ (Yy (Y5 (J1 (pv 1)) Jw))) (Jz _))))),Jv h ?_⟩
 rintro as n P ⟨R,U,ws,ks,rfl,ok,rg,q⟩
 have hs:sizeLine=16777216:=Yau
 have wl:=ok.len
 have kl:=rg.len
 refine ⟨rfl,⟨rfl,by rw [Qb];omega⟩,?_⟩
 refine Y9 (f:=Jo) (λ k=>.bool true) (λ k hk n K hK=>Ve ⟨R,U,ws,(k:Int),rfl,⟨by omega,by have:=rg.lt k hk;omega⟩,hK⟩) ?_
 refine ⟨Qo ks.length true,by rw [J3s];rw [J6h],rfl,?_⟩
 have all1:(Qo ks.length true).all id=true:=X6.mpr λ b hb=>by rw [(Uq.mp hb).2];rfl
 rw [all1]
 refine Ja0 ?_
 have cut:Ji0 (ks.map Jo) (some (1:Int)) none=ks.tail.map Jo:=by
  have:=Jfe (ks.map Jo) 1
  rw [show ((1:Nat):Int)=1 from rfl] at this
  rw [this,<- J4r,List.drop_one]
 have zz:∀ l l':List Nat,W9 (l.map Jo) (l'.map Jo)=(l.zip l').map λ p=>.tuple [Jo p.1,Jo p.2]:=λ l=>by
  induction l with
  | nil=>intro l';simp [W9]
  | cons a l ih=>intro l';cases l' with
   | nil=>simp [W9]
   | cons b l'=>have:=ih l';unfold W9 at this ⊢;rw [Q0,Q0,J72,this,J56,Q0]
 have upz:∀ p∈ks.zip ks.tail,p.1<p.2:=λ p hp=>by
  obtain ⟨i,hi⟩:=X4.mp hp
  rw [J42,Uf] at hi
  have i1:i<ks.length:=by
   rcases Xy i ks.length with h | h
   . exact h
   . rw [Qx h] at hi;cases hi
  have i2:i+1<ks.length:=by
   rcases Xy i ks.tail.length with h | h
   . rw [List.length_tail] at h;omega
   . rw [Qd i1,Qx h] at hi;cases hi
  rw [Qd i1,List.getElem?_tail,Qd i2] at hi
  cases hi
  exact J52.mp rg.up i (i+1) i1 i2 (J4f i)
 refine ⟨_,_,_,_,rfl,rfl,rfl,⟨rfl,by rw [B8,Qb];omega⟩,?_⟩
 rw [cut,zz]
 refine Y9 (f:=λ p:Nat×Nat=>Ub [Jo p.1,Jo p.2]) (λ p=>.bool true) (λ p hp n K hK=>⟨rfl,rfl,Ve ?_⟩) ?_
 . have lt:((p.1:Nat):Int)<((p.2:Nat):Int):=by exact_mod_cast upz p hp
   show K (some (.bool (decide (((p.1:Nat):Int)<((p.2:Nat):Int))))) n
   rw [decide_eq_true lt]
   exact hK
 refine ⟨Qo (ks.zip ks.tail).length true,by rw [J3s];rw [J6h],rfl,?_⟩
 have all2:(Qo (ks.zip ks.tail).length true).all id=true:=X6.mpr λ b hb=>by rw [(Uq.mp hb).2];rfl
 rw [all2]
 refine Ja0 ⟨_,.refl,R,U,ws,nI ks,?_,ok,?_,by unfold nI;rw [Qb];omega,Xc rfl,?_⟩
 . unfold nI;rw [Qw];rfl
 . intro k hk
   obtain ⟨j,hj,rfl⟩:=Qm.mp hk
   have:=rg.lt j hj
   omega
 . rw [rg.one]
   have e:Jk2 [nI ks] = .list [.list ((nI ks).map .int)]:=rfl
   have e2:(Ua (ks.map Jo)) = .list ((nI ks).map .int):=by unfold nI;rw [Qw];rfl
   rw [e2,e]
   have hl:U8 (.list [.list ((nI ks).map .int)])=true:=by rw [U8,J3z,U8,Jk5];rfl
   refine ⟨⟨hl,hl,Xm (J9g _ _) (by rw [J41,J70,J41,Jk6];decide)⟩,?_⟩
   rw [J7u _ hl]
   exact q
theorem Jjc:FnScope ["book","some"] ["book","some"] (Jd Jbt):=⟨rfl,rfl,rfl,by decide +kernel,rfl,by decide +kernel,by decide +kernel⟩
theorem Jjd {C:Addr}(T:Txt mg) (Y:TableOk K C) (D:Def K mg "ring_table" Jbt ["book","some"]) (Gs:Cal P w K mg base "is_ring" 4 ["book","some"] (Jk Jip)) (c_Table__init:Jne P w K mg base "Table" C 2 ["self","book","some","stand"] (Jll C)):Cal P w K mg base "ring_table" 5 ["book","some"] (Jgx C):=by
 refine D.cal λ f fd F=>F.ok Jjc (λ vs H Q E h=>by obtain ⟨ex,R,U,ws,ks,bv,sv,rfl,_⟩:=h;rfl) (λ cdv A outer s H vs Q E hr h=>?_)
 refine ⟨_,(@Jb _ _ _ _ _ (Wh (Jb1 (V4 (Yz Gs (hr.mono (by decide)) rfl (Ja (pv 0) (Ja (pv 1) Jc))))) Jjf Yp)
  (@Jh _ _ _ (@Jr _ _ _ _ (J2l c_Table__init (hr.mono (by decide)) rfl (Ja (pv 0) (Ja (pv 1) Jc)))))),?_⟩
 obtain ⟨ex,R,U,ws,ks,bv,sv,rfl,al,rb,rs,ok,rg,q⟩:=h
 have ra:B4 Src.no ex H [.d (J8 R U ws),.d (.list (ks.map Jo))] [bv,sv]:=⟨⟨_,rfl,rb⟩,⟨_,rfl,rs⟩,trivial⟩
 refine ⟨_,rfl,_,rfl,Src.no,ex,_,0,λ d _=>d = .bool true,ra,λ a ha=>(by cases ha),al,trivial,⟨R,U,ws,ks,rfl,ok,rg,rfl⟩,λ d n' v H1 hd st r=>?_⟩
 subst hd
 cases r
 refine ⟨true,rfl,?_⟩
 have k1:Kp [] H H1:=st.1
 refine Ja0 ?_
 refine ⟨_,rfl,_,rfl,λ x dx hx hdx hne=>?_⟩
 have lifted:∀ {b:Addr},H1 b=none->H b=none:=λ {b} hb=>by
  cases e:H b with
  | none=>rfl
  | some o=>rw [k1 b o e (by simp)] at hb;cases hb
 have kn:Kp [] H1 (upd (upd H1 dx (.own x)) x (.ins C dx [])):=λ b o e _=>by rw [Jf (Jp e hx),Jf (Jp e hdx)];exact e
 have al1:Alc ex H1:=al.kp k1
 have nx:x∉ex:=λ z=>al1 x z hx
 have kxx:Kp (x::ex) H1 (upd (upd H1 dx (.own x)) x (.ins C dx [])):=kn.mono λ a ha=>by cases ha
 have fresh:∀ {b:Addr},(upd (upd H1 dx (.own x)) x (.ins C dx [])) b=none->H1 b=none:=λ {b} hb=>by
  cases e:H1 b with
  | none=>rfl
  | some o=>rw [kn b o e (by simp)] at hb;cases hb
 refine ⟨ex,x,dx,R,U,ws,ks,bv,sv,rfl,Jg,al1.kp kn,nx,(Rep.add hx (rb.keep (k1.mono λ a ha=>by cases ha))).keep kxx,(Rep.add hx (rs.keep (k1.mono λ a ha=>by cases ha))).keep kxx,ok,rg.lt,by have:=rg.len;have:=ok.len;omega,λ H' fa ba hfa hba hT kp=>⟨rfl,q H' x fa ba (lifted hx) (lifted (fresh hfa)) (lifted (fresh hba)) hT (λ b o e _=>?_)⟩⟩
 have e1:=k1 b o e (by simp)
 exact kp b o (kn b o e1 (by simp)) (λ z=>by rw [Qt.mp z,hx] at e1;cases e1)
theorem Bs:FnScope ["book","some","k","table","counts"] ["book","some","k"] (Jd Jad):=⟨rfl,rfl,rfl,by decide +kernel,rfl,by decide +kernel,by decide +kernel⟩
theorem Jgi {C:Addr}(T:Txt mg) (Y:TableOk K C) (D:Def K mg "sum_or_round" Jad ["book","some","k"]) (Gg:Cal P w K mg base "ring_table" 5 ["book","some"] (Jgx C)) (Gb:Cal P w K mg base "is_whole" 1 ["thing"] (Jk Jeh)) (c_Table__find_round:Wb P w K mg base C "find_round" 4 ["self","wanted"] (Jii C)) (c_Table__read_sum:Wb P w K mg base C "read_sum" 3 ["self","wanted"] (Jk (Bx C))):Cal P w K mg base "sum_or_round" 6 ["book","some","k"] (Jk Jdk):=by
 refine D.cal λ f fd F=>F.ok Bs (J3 ?_) (λ cdv A outer s H vs Q E hr h=>?_)
 . rintro as n P ⟨R,U,ws,ks,k,rfl,_⟩
   rfl
 refine ⟨_,(@Jb _ _ _ _ _ (Jy (i:=3) Bs.nd rfl (Qa rfl) (Yz Gg (hr.mono (by decide)) rfl (Ja (pv 0) (Ja (pv 1) Jc))))
  (@Jb _ _ _ _ _ (Wh (PW.pt (Jl1 (Jb1 (V4 (Yz Gb (hr.mono (by decide)) rfl (Ja (pv 2) Jc)))) (Jg4 (J4 Jka (pv 2) (pv 1) (by with_unfolding_all rfl))))) Jjf Yp)
  (@Jb _ _ _ _ _ (Jy (i:=4) Bs.nd rfl (Qa rfl) (Jdg c_Table__find_round (hr.mono (by decide)) (pv 3) (Jp4 (@PEs.out _ _ _ (Yy (Y5 (J1 (pv 2)) Jw))) Jc)))
  (@Jb _ _ _ _ _ (Wh (J4 Jb3 (pv 4) W3 (Jz _)) (@Jh _ _ _ (@Jr _ _ _ _ (@PEs.out _ _ _ (Zs (J2 Jp5 (Wa (J1 (Jdg c_Table__read_sum (hr.mono (by decide)) (pv 3) (Jp4 (@PEs.out _ _ _ (Yy (Y5 (J1 (pv 2)) Jw))) Jc))) Jw)))))) Yp)
  (@Jh _ _ _ (@Jr _ _ _ _ (@PEs.out _ _ _ (Zs (J2 Jp5 (Y5 (J1 (pv 4)) Jw)))))))))),?_⟩
 obtain ⟨S,ex,as,n,P,ra,hc,al,iv,⟨R,U,ws,ks,k,rfl,ok,rg,hk,q1,q2⟩,q⟩:=h
 obtain ⟨bv,sv,kv,rfl,rb,rs,rfl⟩:∃ bv sv kv,vs=[bv,sv,kv]/\Rep ex H (J8 R U ws) bv/\Rep ex H (.list (ks.map Jo)) sv/\kv=Y0 k:=by
  cases vs with
  | nil=>exact ra.elim
  | cons bv vs=>
   cases vs with
   | nil=>exact ra.2.elim
   | cons sv vs=>
    cases vs with
    | nil=>exact ra.2.2.elim
    | cons kv vs=>
     cases vs with
     | cons _ _=>exact ra.2.2.2.elim
     | nil=>
      obtain ⟨⟨_,e1,r1⟩,⟨_,e2,r2⟩,⟨_,e3,r3⟩,_⟩:=ra
      cases e1
      cases e2
      cases e3
      cases r3
      exact ⟨_,_,_,rfl,r1,r2,rfl⟩
 have hs:sizeLine=16777216:=Yau
 have one:(1:Nat)<=sizeLine:=by rw [hs];decide
 have two:(2:Nat)<=sizeLine:=by rw [hs];decide
 have kl:=rg.lt k hk
 have wl:=ok.len
 have m0:0<(U+R).toNat:=by have:=ok.r0;have:=ok.p0;omega
 have t0:Told R U ws ks [k] (Jaf R U ws ks):=.zero ok rg.nd rg.lt
 let SZ:=Jez R U ws
 refine Zy (λ σ' H1=>∃ p fa ba,σ'=[some bv,some sv,some (Y0 k),some (.ref p),none]/\TabH C ex p fa ba (Jez R U ws) (Jaf R U ws ks) H1/\Kp [] H H1/\H p=none/\H fa=none/\H ba=none) (λ N hN=>?_) ?_
 . exact ⟨_,rfl,_,rfl,ex,R,U,ws,ks,bv,sv,rfl,al,rb,rs,ok,rg,λ H1 p fa ba hp hfa hba hT k1=>hN _ _ ⟨p,fa,ba,rfl,hT,k1,hp,hfa,hba⟩⟩
 rintro σ1 H1 ⟨p,fa,ba,rfl,hT,k1,hp,hfa,hba⟩
 have kx1:Kp ex H H1:=k1.mono λ a ha=>by cases ha
 refine Zy (λ σ' H2=>σ'=[some bv,some sv,some (Y0 k),some (.ref p),none]/\Kp [] H1 H2) (λ N hN=>?_) ?_
 . refine ⟨_,rfl,Src.no,ex,[.d (Jo k)],0,λ d _=>d = .bool true,⟨⟨_,rfl,.int _⟩,trivial⟩,λ a ha=>(by cases ha),al.kp k1,trivial,⟨_,rfl,rfl⟩,λ d n' v H2 hd st r=>?_⟩
   subst hd
   cases r
   have k2:Kp [] H1 H2:=st.1
   have kx2:Kp ex H1 H2:=k2.mono λ a ha=>by cases ha
   have rs2:=(rs.keep kx1).keep kx2
   obtain ⟨sa,svs,rfl,hsa,nsa,zsa,rsa⟩:=Jgm rs2
   have es:svs=ks.map Y0:=by
    have:=Reps.ints_inv (ns:=ks.map λ k:Nat=>(k:Int)) (vs:=svs) (by rw [Qw];exact rsa)
    rw [this,Qw];rfl
   subst es
   refine ⟨true,rfl,Ja0 ⟨_,rfl,_,rfl,sa,_,rfl,.inl (SqL.of hsa),rfl,?_,_,rfl,?_⟩⟩
   . exact X6.mpr λ x hx=>by obtain ⟨j,_,rfl⟩:=Qm.mp hx;rfl
   . have yes:inV (Y0 k) (ks.map Y0)=true:=by
      refine J7o.mpr ⟨Y0 k,Qm.mpr ⟨k,hk,rfl⟩,?_⟩
      show decide (((k:Nat):Int)=((k:Nat):Int))=true
      exact decide_eq_true rfl
     rw [yes]
     exact Ja0 (hN _ _ ⟨rfl,k2⟩)
 rintro σ2 H2 ⟨rfl,k2⟩
 have hT2:=hT.keep k2
 refine Zy (λ σ' H3=>∃ v T',σ'=[some bv,some sv,some (Y0 k),some (.ref p),some v]/\TabH C ex p fa ba (Jez R U ws) T' H3/\Told R U ws ks [k] T'/\Kp [p,fa,ba] H2 H3/\((v = .non/\Tb.Last (U+R).toNat ks.length [k] T')\/∃ j,Tb.Ray (U+R).toNat ks.length [k] T' j/\v≠.non/\Rep ex H3 (.tuple ((drQ ws (U+R).toNat T' j).map .int)) v)) (λ N hN=>?_) ?_
 . obtain ⟨dx,rv,o1,o2⟩:=hT2.o
   refine ⟨_,rfl,p,dx,_,rfl,o1,rfl,_,rfl,one,λ l hl=>?_⟩
   have kl:Kp [] H2 (upd H2 l (.lst [Y0 k])):=Kp.new hl _
   have nl:l∉p::fa::ba::ex:=Jna (λ z=>by rw [z,o1] at hl;cases hl) (λ z=>by rw [z,hT2.f] at hl;cases hl) (λ z=>by rw [z,hT2.b] at hl;cases hl) (λ z=>hT2.al l z hl)
   have hw:Rep (p::fa::ba::ex) (upd H2 l (.lst [Y0 k])) (.list ([k].map Jo)) (.ref l):=.list Jg nl one (.cons (.int _) .nil)
   have kup:∀ {H3:Hp},Kp [p,fa,ba] (upd H2 l (.lst [Y0 k])) H3->Kp [p,fa,ba] H2 H3:=λ {H3} k3=>(kl.mono λ a ha=>by cases ha).trans k3
   exact Jj3 (E:=E0) t0 (hT2.keep kl) hw (λ H3 T' j v h1 h2 h3 h4 h5=>hN _ _ ⟨v,T',rfl,h1,h2,kup h4,.inr ⟨j,h3,(λ z=>by subst z;cases h5),h5⟩⟩) (λ H3 T' h1 h2 h3 h4=>hN _ _ ⟨.non,T',rfl,h1,h2,kup h4,.inl ⟨rfl,h3⟩⟩)
 rintro σ3 H3 ⟨v,T',rfl,hT3,t3,k3,hv⟩
 have k03:Kp [] H H3:=λ b o e _=>k3 b o (k2 b o (k1 b o e (by simp)) (by simp)) (λ z=>by
  simp only [Qf,X0,or_false] at z
  rcases z with z | z | z
  . rw [z,hp] at e;cases e
  . rw [z,hfa] at e;cases e
  . rw [z,hba] at e;cases e)
 rcases hv with ⟨rfl,hl⟩ | ⟨j,ry,nn,rc⟩
 . refine ⟨_,rfl,rfl,_,rfl,Jc4 (by simp) ?_⟩
   obtain ⟨dx,rv,o1,o2⟩:=hT3.o
   have hw:∀ s,s<(U+R).toNat->ws.length+s∉[k]\/∃ i,i<(U+R).toNat/\T'.b i=ws.length+s:=λ s hs=>.inl (by rw [Qt];omega)
   obtain ⟨s,hs',hne⟩:=Jqy t3 hl hw (.inl ⟨k,hk,Qt.mpr rfl⟩)
   obtain ⟨sk,fl,_⟩:=Jnh t3 hl hw (Jin t3 hs' hne).1
   refine ⟨_,rfl,p,dx,_,rfl,o1,rfl,_,rfl,one,λ l hll=>?_⟩
   have kl:Kp [] H3 (upd H3 l (.lst [Y0 k])):=Kp.new hll _
   refine Jnk (E:=E0) t3 (hT3.keep kl) (.list Jg (λ z=>hT3.al l z hll) one (.cons (.int _) .nil)) (λ x hx=>by rw [Qt.mp hx];omega) hs' hne λ H4 v k4 r4=>⟨two,λ tp htp=>?_⟩
   have kt:Kp [] H4 (upd H4 tp (.tup [.str "sum",v])):=Kp.new htp _
   have k04:Kp [] H (upd H4 tp (.tup [.str "sum",v])):=((k03.trans kl).trans k4).trans kt
   exact q _ n _ _ (q1 _ _ sk (fl k hk (Qt.mpr rfl))) (.new iv k04) (.tuple Jg (λ z=>((al.kp k03).kp kl).kp k4 tp z htp) two (.cons (.str _) (.cons (r4.keep (kt.mono λ a ha=>by cases ha)) .nil)))
 . refine ⟨_,rfl,rfl,_,rfl,Jbw (by simp [nn]) ?_⟩
   obtain ⟨rk,ps,_,ν,hν,_,pos⟩:=Jio t3 ry
   rw [Qt.mp hν] at pos
   refine ⟨_,rfl,two,λ tp htp=>?_⟩
   have kt:Kp [] H3 (upd H3 tp (.tup [.str "round",v])):=Kp.new htp _
   exact q _ n _ _ (q2 _ rk (ps k kl pos)) (.new iv (k03.trans kt)) (.tuple Jg (λ z=>(al.kp k03) tp z htp) two (.cons (.str _) (.cons (rc.keep (kt.mono λ a ha=>by cases ha)) .nil)))
theorem Ww:FnScope ["book","some","table","left","all_rounds","counts"] ["book","some"] (Jd Jbu):=⟨rfl,rfl,rfl,by decide +kernel,rfl,by decide +kernel,by decide +kernel⟩
theorem Jn0 {C:Addr}(T:Txt mg) (Y:TableOk K C) (D:Def K mg "greatest" Jbu ["book","some"]) (Gg:Cal P w K mg base "ring_table" 5 ["book","some"] (Jgx C)) (c_Table__find_round:Wb P w K mg base C "find_round" 4 ["self","wanted"] (Jii C)) (c_Table__read_sum:Wb P w K mg base C "read_sum" 3 ["self","wanted"] (Jk (Bx C))) (Gd:Cal P w K mg base "put_to" 1 ["numbers","gains"] (Jk Jk7)):Cal P w K mg base "greatest" 6 ["book","some"] (Jk Jdm):=by
 refine D.cal λ f fd F=>F.ok Ww (J3 ?_) (λ cdv A outer s H vs Q E hr h=>?_)
 . rintro as n P ⟨R,U,ws,ks,rfl,_⟩
   rfl
 refine ⟨_,(@Jb _ _ _ _ _ (Jy (i:=2) Ww.nd rfl (Qa rfl) (Yz Gg (hr.mono (by decide)) rfl (Ja (pv 0) (Ja (pv 1) Jc))))
  (@Jb _ _ _ _ _ (Jy (i:=3) Ww.nd rfl (Qa rfl) (J6 Z6 rfl T.b_list Ya7 (Ja (pv 1) Jc)))
  (@Jb _ _ _ _ _ (Jy (i:=4) Ww.nd rfl (Qa rfl) W3)
  (@Jb _ _ _ _ _ (Jg6 Xs (Jtv (pv 3) (λ _=>rfl))
  (@Jb _ _ _ _ _ (Jy (i:=5) Ww.nd rfl (Qp rfl) (Jdg c_Table__find_round (hr.mono (by decide)) (pv 2) (Ja (pv 3) Jc)))
  (@Jb _ _ _ _ _ (Wh (J4 Jb3 (pv 5) W3 (Jz _)) (@Jh _ _ _ (@Jr _ _ _ _ (@PEs.out _ _ _ (Zs (Wa (J1 (Jdg c_Table__read_sum (hr.mono (by decide)) (pv 2) (Ja (pv 3) Jc))) (Y5 (J1 (pv 4)) Jw)))))) Yp)
  (@Jb _ _ _ _ _ (Jy (i:=4) Ww.nd rfl (Qa rfl) (Jd1 (J4 Jb3 (pv 4) W3 (Jz _)) (pv 5) (Yz Gd (hr.mono (by decide)) rfl (Ja (pv 4) (Ja (pv 5) Jc)))))
  (@Jh _ _ _ (Zx (i:=3) (sc:=(Jd Jbu)) (N:=["book","some","table","left","all_rounds","counts"]) (N':=["k","counts"]) (k:=1) (idx:=[5]) rfl Ww.nd rfl rfl (by exact ⟨rfl,by decide +kernel,by decide +kernel,by decide +kernel,by decide +kernel,by decide +kernel,rfl,rfl⟩) rfl rfl (Zd (pv 3)) (λ _ _ _ _=>(Js (i:=0) (show (["k","counts"]:List Str).Nodup by decide +kernel) rfl (Qa rfl) (Qp rfl))) (λ _ _ _ _=>Jbf (J4 Jag (Jq (Wk (K':=K) rfl) (pv 1) (pv 0) (λ _ _=>rfl)) Ji (Jz _))) (λ _ _ _ _=>(pv 0))))))))
  (@Jh _ _ _ (@Jr _ _ _ _ (@PEs.out _ _ _ (Zs (J2 Jv3 (Y5 (J1 (pv 4)) Jw)))))))))),?_⟩
 obtain ⟨S,ex,as,n,P,ra,hc,al,iv,⟨R,U,ws,ks,rfl,ok,rg,q1,q2⟩,q⟩:=h
 obtain ⟨bv,sv,rfl,rb,rs⟩:∃ bv sv,vs=[bv,sv]/\Rep ex H (J8 R U ws) bv/\Rep ex H (.list (ks.map Jo)) sv:=by
  cases vs with
  | nil=>exact ra.elim
  | cons bv vs=>
   cases vs with
   | nil=>exact ra.2.elim
   | cons sv vs=>
    cases vs with
    | cons _ _=>exact ra.2.2.elim
    | nil=>
     obtain ⟨⟨_,e1,r1⟩,⟨_,e2,r2⟩,_⟩:=ra
     cases e1
     cases e2
     exact ⟨_,_,rfl,r1,r2⟩
 have hs:sizeLine=16777216:=Yau
 have one:(1:Nat)<=sizeLine:=by rw [hs];decide
 have two:(2:Nat)<=sizeLine:=by rw [hs];decide
 have wl:=ok.len
 have kn:=rg.len
 have kne:ks≠[]:=λ e=>by
  have:=rg.one
  rw [e] at this
  exact absurd (congrArg J5k this) (Nat.zero_ne_one)
 refine Zy (λ σ' H1=>∃ p fa ba,σ'=[some bv,some sv,some (.ref p),none,none,none]/\TabH C ex p fa ba (Jez R U ws) (Jaf R U ws ks) H1/\Kp [] H H1/\H p=none/\H fa=none/\H ba=none) (λ N hN=>?_) ?_
 . exact ⟨_,rfl,_,rfl,ex,R,U,ws,ks,bv,sv,rfl,al,rb,rs,ok,rg,λ H1 p fa ba hp hfa hba hT k1=>hN _ _ ⟨p,fa,ba,rfl,hT,k1,hp,hfa,hba⟩⟩
 rintro σ1 H1 ⟨p,fa,ba,rfl,hT,k1,hp,hfa,hba⟩
 have kx1:Kp ex H H1:=k1.mono λ a ha=>by cases ha
 obtain ⟨sa,svs,rfl,hsa,nsa,zsa,rsa⟩:=Jgm (rs.keep kx1)
 have es:svs=ks.map Y0:=by
  have:=Reps.ints_inv (ns:=ks.map λ k:Nat=>(k:Int)) (vs:=svs) (by rw [Qw];exact rsa)
  rw [this,Qw];rfl
 subst es
 refine Zy (λ σ' H2=>∃ l,σ'=[some bv,some (.ref sa),some (.ref p),some (.ref l),none,none]/\Grt C ex p fa ba R U ws ks H l .non ks none (Jaf R U ws ks) H2) (λ N hN=>?_) ?_
 . refine ⟨_,rfl,sa,_,rfl,.inl (SqL.of hsa),λ l hl=>hN _ _ ⟨l,rfl,?_⟩⟩
   have kl:Kp [] H1 (upd H1 l (.lst (ks.map Y0))):=Kp.new hl _
   obtain ⟨dx,rv,o1,o2⟩:=hT.o
   refine ⟨hT.keep kl,.zero ok rg.nd rg.lt,.first,.list Jg (Jna (λ z=>by rw [z,o1] at hl;cases hl) (λ z=>by rw [z,hT.f] at hl;cases hl) (λ z=>by rw [z,hT.b] at hl;cases hl) (λ z=>hT.al l z hl)) zsa (Jfn _),.none,k1.trans kl⟩
 rintro σ2 H2 ⟨l0,rfl,g0⟩
 refine Zy (λ σ' H3=>σ'=[some bv,some (.ref sa),some (.ref p),some (.ref l0),some .non,none]/\H3=H2) (λ N hN=>hN _ _ ⟨rfl,rfl⟩) ?_
 rintro σ3 H3 ⟨rfl,rfl⟩
 refine Zy (λ σ' H4=>∃ l av cv cs T',σ'=[some bv,some (.ref sa),some (.ref p),some (.ref l),some av,cv]/\Grt C ex p fa ba R U ws ks H l av [] cs T' H4) (λ N hN=>?_) ?_
 . refine ⟨λ μ σ2 H2=>∃ l av cv L cs T',σ2=[some bv,some (.ref sa),some (.ref p),some (.ref l),some av,cv]/\Grt C ex p fa ba R U ws ks H l av L cs T' H2/\μ = L.length,⟨_,l0,.non,none,ks,none,_,rfl,g0,rfl⟩,?_⟩
   rintro μ σ4 H4 ⟨l,av,cv,L,cs,T1,rfl,g,rfl⟩
   obtain ⟨la,lvs,e1,hla,nla,zla,rla⟩:=Jgm g.l
   cases e1
   have el:lvs=L.map Y0:=by
    have:=Reps.ints_inv (ns:=L.map λ k:Nat=>(k:Int)) (vs:=lvs) (by rw [Qw];exact rla)
    rw [this,Qw];rfl
   subst el
   refine ⟨_,rfl,_,.inl ⟨_,SqL.of hla,rfl⟩,?_⟩
   by_cases hL:L=[]
   . subst hL
     exact Jbw rfl (hN _ _ ⟨l,av,cv,cs,T1,rfl,g⟩)
   refine Jc4 (by cases L with | nil=>exact absurd rfl hL | cons a b=>rfl) ⟨λ σ' H'=>∃ μ',μ'<L.length/\∃ l av cv L cs T',σ'=[some bv,some (.ref sa),some (.ref p),some (.ref l),some av,cv]/\Grt C ex p fa ba R U ws ks H l av L cs T' H'/\μ'=L.length,λ σ' H' h=>h,?_⟩
   refine Zy (λ σ' H5=>∃ v T',σ'=[some bv,some (.ref sa),some (.ref p),some (.ref l),some av,some v]/\Grt C ex p fa ba R U ws ks H l av L cs T' H5/\((v = .non/\Tb.Last (U+R).toNat ks.length L T')\/∃ j,Tb.Ray (U+R).toNat ks.length L T' j/\v≠.non/\Rep ex H5 (.tuple ((drQ ws (U+R).toNat T' j).map .int)) v)) (λ N hN=>?_) ?_
   . obtain ⟨dx,rv,o1,o2⟩:=g.h.o
     refine ⟨_,rfl,p,dx,_,rfl,o1,rfl,_,rfl,?_⟩
     exact Jj3 (E:=E0) g.t.any g.h g.l (λ H5 T' j v h1 h2 h3 h4 h5=>hN _ _ ⟨v,T',rfl,g.found hp hfa hba h1 h2 h4,.inr ⟨j,h3,(λ z=>by subst z;cases h5),h5⟩⟩) (λ H5 T' h1 h2 h3 h4=>hN _ _ ⟨.non,T',rfl,g.found hp hfa hba h1 h2 h4,.inl ⟨rfl,h3⟩⟩)
   rintro σ5 H5 ⟨v,T2,rfl,g5,hv⟩
   have Lin:∀ k∈L,k∈ks:=λ k hk=>g5.r.sb.subset hk
   rcases hv with ⟨rfl,hl⟩ | ⟨j,ry,nn,rc⟩
   . refine ⟨_,rfl,rfl,_,rfl,Jc4 (by simp) ?_⟩
     obtain ⟨dx,rv,o1,o2⟩:=g5.h.o
     have t5:Told R U ws ks L T2:=g5.t.any
     have hw:∀ s,s<(U+R).toNat->ws.length+s∉L\/∃ i,i<(U+R).toNat/\T2.b i=ws.length+s:=λ s hs=>.inl λ z=>by
      have:=rg.lt _ (Lin _ z)
      omega
     obtain ⟨k0,hk0⟩:∃ k,k∈L:=by
      cases L with
      | nil=>exact absurd rfl hL
      | cons a b=>exact ⟨a,Qh⟩
     obtain ⟨s,hs',hne⟩:=Jqy t5 hl hw (.inl ⟨k0,Lin k0 hk0,hk0⟩)
     obtain ⟨sk,fl,_⟩:=Jnh t5 hl hw (Jin t5 hs' hne).1
     refine ⟨_,rfl,p,dx,_,rfl,o1,rfl,_,rfl,?_⟩
     refine Jnk (E:=E0) t5 g5.h (Rep.sub (Rep.sub (Rep.sub g5.l))) (λ x hx=>by have:=rg.lt x (Lin x hx);omega) hs' hne λ H6 v k6 r6=>⟨_,rfl,two,λ tp htp=>?_⟩
     have kt:Kp [] H6 (upd H6 tp (.tup [v,av])):=Kp.new htp _
     have k06:Kp [] H (upd H6 tp (.tup [v,av])):=(g5.k.trans k6).trans kt
     have kk:Kp ex H6 (upd H6 tp (.tup [v,av])):=kt.mono λ a ha=>by cases ha
     have a6:Rep ex H6 (Jfr cs) av:=Rep.sub (Rep.sub (Rep.sub (g5.a.keep (k6.mono λ a ha=>by cases ha))))
     exact q _ n _ _ (q1 _ _ L cs sk g5.r hL λ k hk=>fl k (Lin k hk) hk) (.new iv k06) (.tuple Jg (λ z=>(al.kp g5.k).kp k6 tp z htp) two (.cons (r6.keep kk) (.cons (a6.keep kk) .nil)))
   . refine ⟨_,rfl,rfl,_,rfl,Jbw (by simp [nn]) ?_⟩
     have t5:Told R U ws ks L T2:=g5.t.any
     obtain ⟨rk,ps,_,ν,hν,_,pos⟩:=Jio t5 ry
     have pν:=ps ν (rg.lt ν (Lin ν hν)) pos
     obtain ⟨nx,sh⟩:=g5.r.next (.of rk (Jsd t5 ry)) hν pν
     generalize drQ ws (U+R).toNat T2 j=ds at *
     have rcb:Rep (p::fa::ba::ex) H5 (Jfr (some ds)) v:=Jiq g5.h rc
     unfold Jpr
     dsimp only
     refine Zy (λ σ' H6=>∃ av',σ'=[some bv,some (.ref sa),some (.ref p),some (.ref l),some av',some v]/\Kp [] H5 H6/\Rep (p::fa::ba::ex) H6 (Jfr (some (Jxj cs ds))) av') (λ N hN=>?_) ?_
     . cases cs with
       | none=>
        have ra:=g5.a
        cases ra
        exact ⟨_,rfl,rfl,_,rfl,Jc4 (by simp) ⟨_,rfl,hN _ _ ⟨v,rfl,.refl,rcb⟩⟩⟩
       | some c0=>
        have na:av≠.non:=λ z=>by have:=g5.a;rw [z] at this;cases this
        obtain ⟨⟨i,hi,ra⟩,_,_⟩:=g5.r.yes c0 rfl
        have cl:=ra.ro.len
        have dlen:=rk.ro.len
        refine ⟨_,rfl,rfl,_,rfl,Jbw (by simp [na]) ⟨_,rfl,_,rfl,Src.no,ex,[.d (.tuple (c0.map .int)),.d (.tuple (ds.map .int))],0,λ d _=>d = .tuple ((Bk c0 ds).map .int),⟨⟨_,rfl,Rep.sub (Rep.sub (Rep.sub g5.a))⟩,⟨_,rfl,rc⟩,trivial⟩,λ a ha=>(by cases ha),g5.h.al,trivial,⟨c0,ds,rfl,by omega,by omega,rfl⟩,λ d n' v' H6 hd st r=>?_⟩⟩
        subst hd
        exact hN _ _ ⟨v',rfl,st.1,Jiq (cs:=some (Bk c0 ds)) (g5.h.keep st.1) r⟩
     rintro σ6 H6 ⟨av',rfl,k6,ra6⟩
     have g6:=g5.keep k6
     have E6:Ev Src.no (p::fa::ba::ex) [.jnk,.jnk,.jnk,.d (.list (L.map Jo)),.jnk,.d (.tuple (ds.map .int))] [some bv,some (.ref sa),some (.ref p),some (.ref l),some av',some v] H6 0:=Jge.ev ⟨trivial,trivial,trivial,⟨_,rfl,g6.l⟩,trivial,⟨_,rfl,rcb.keep (k6.mono λ a ha=>by cases ha)⟩,trivial⟩ (by
      obtain ⟨dx,rv,o1,o2⟩:=g6.h.o
      intro b hb
      rcases Qf.mp hb with rfl | hb
      . rw [o1];exact Xp _
      . rcases Qf.mp hb with rfl | hb
        . rw [g6.h.f];exact Xp _
        . rcases Qf.mp hb with rfl | hb
          . rw [g6.h.b];exact Xp _
          . exact g6.h.al b hb)
     refine Jxk (λ xs _=>xs=(L.filter λ k=>decide (ds.getD k 0=0)).map Jo) E6 ?_ ?_
     . have ll:=g5.r.sb.length_le
       refine ⟨⟨rfl,by rw [Qb];omega⟩,Jak (g:=Jo) (h:=Jo) (p:=λ k:Nat=>decide (ds.getD k 0=0)) (λ k hkk K k1 k2=>?_) rfl⟩
       have kl:=rg.lt k (Lin k hkk)
       have ak:atI (ds.map Qv) ((k:Nat):Int)=some (.int (ds.getD k 0)):=Zt (by omega) (by rw [Q5];exact Jcs (by rw [rk.ro.len];exact kl))
       exact ⟨_,ak,Jhp (Wj (λ c=>k1 c) (λ c=>k2 c))⟩
     rintro xs n7 b us H7 rfl st7 hb hbl hbz rb7
     have k7:Kp [] H6 H7:=st7.1
     have g7:=g6.keep k7
     exact ⟨_,sh,b,av',some v,_,_,T2,rfl,⟨g7.h,g7.t,nx,.list hbl (λ z=>E6.al b z hb) hbz (Reps.sub rb7),ra6.keep (k7.mono λ a ha=>by cases ha),g7.k⟩,rfl⟩
 rintro σ8 H8 ⟨l,av,cv,cs,T3,rfl,g⟩
 cases cs with
 | none=>exact absurd (g.r.no rfl).symm kne
 | some c0=>
  refine ⟨_,rfl,two,λ tp htp=>?_⟩
  have kt:Kp [] H8 (upd H8 tp (.tup [.non,av])):=Kp.new htp _
  have kk:Kp ex H8 (upd H8 tp (.tup [.non,av])):=kt.mono λ a ha=>by cases ha
  exact q _ n _ _ (q2 c0 g.r) (.new iv (g.k.trans kt)) (.tuple Jg (λ z=>g.h.al tp z htp) two (.cons .none (.cons ((Rep.sub (Rep.sub (Rep.sub g.a))).keep kk) .nil)))
theorem Jpk:FnScope ["weights","numbers"] ["weights","numbers"] (Jd Jcx):=⟨rfl,rfl,rfl,by decide +kernel,rfl,by decide +kernel,by decide +kernel⟩
theorem Jpl (T:Txt mg) (D:Def K mg "weighed" Jcx ["weights","numbers"]):Cal P w K mg base "weighed" 1 ["weights","numbers"] (Jk Jgz):=by
 refine D.cal λ f fd F=>F.ok Jpk (J3 ?_) (λ cdv A outer s H vs Q E hr h=>?_)
 . rintro as n P ⟨xs,gs,rfl,_⟩
   rfl
 refine ⟨_,(@Jh _ _ _ (@Jr _ _ _ _ (J0 Jd8 rfl T.b_sum boot_sum (Wx (Yx (sc:=(Jd Jcx)) (N:=["weights","numbers"]) (N':=["weight","number"]) (k:=2) (idx:=[]) rfl (by exact ⟨rfl,by decide +kernel,by decide +kernel,by decide +kernel,by decide +kernel,by decide +kernel,rfl,rfl⟩) rfl rfl (Vf rfl T.b_zip (Ja (pv 0) (Ja (pv 1) Jc))) (λ _ _ _ _=>(Y4 (K':=K) (i:=0) (j:=1) rfl (show (["weight","number"]:List Str).Nodup by decide +kernel) ⟨rfl,(Qa rfl),(Qp rfl)⟩ ⟨rfl,(Qa rfl),(Qp rfl)⟩ rfl)) (λ _ _ _ _=>Yb) (λ _ _ _ _=>(Ju Jbi (pv 0) (pv 1)))) Jc)))),Jv h ?_⟩
 rintro as n P ⟨xs,gs,rfl,hl,h1,bx,bg,q⟩
 have hs:sizeLine=16777216:=Yau
 refine ⟨rfl,_,_,_,_,rfl,rfl,rfl,⟨rfl,by rw [Zh,Qb,J3r];omega⟩,?_⟩
 rw [Zh]
 refine Y9 (f:=λ p:Int×Int=>Ub [.int p.1,.int p.2]) (λ p:Int×Int=>Qv (p.1*p.2)) (λ p hp m K hK=>⟨rfl,rfl,Ve ⟨Vh (bx _ (Uk hp).1) (bg _ (Uk hp).2),hK⟩⟩) ?_
 refine ⟨(xs.zip gs).map λ p=>p.1*p.2,by rw [Qw];rfl,rfl,?_⟩
 rw [Jg1 xs gs hl]
 exact q
theorem Jlw:FnScope ["book","tally","k","weights","heights","a","b","gains"] ["book","tally","k"] (Jd Jpf):=⟨rfl,rfl,rfl,by decide +kernel,rfl,by decide +kernel,by decide +kernel⟩
theorem Jxq (T:Txt mg) (D:Def K mg "fall" Jpf ["book","tally","k"]) (Gu:Cal P w K mg base "weighed" 1 ["weights","numbers"] (Jk Jgz)):Cal P w K mg base "fall" 2 ["book","tally","k"] (Jk Jcw):=by
 refine D.cal λ f fd F=>F.ok Jlw (J3 ?_) (λ cdv A outer s H vs Q E hr h=>?_)
 . rintro as n P ⟨R,U,ws,wt,ht,k,rfl,_⟩
   rfl
 refine ⟨_,(@Jb _ _ _ _ _ (Yq (pv 1) (Y4 (K':=K) (i:=3) (j:=4) rfl Jlw.nd ⟨rfl,(Qa rfl),(Qa rfl)⟩ ⟨rfl,(Qa rfl),(Qa rfl)⟩ rfl))
  (@Jb _ _ _ _ _ (Yq (Jq Ze (Jq Ze (pv 0) Ji (λ _ _=>rfl)) (pv 2) (λ _ _=>rfl)) (Bg (K':=K) (i:=5) (j:=6) (m:=7) rfl Jlw.nd ⟨rfl,(Qa rfl),(Qa rfl)⟩ ⟨rfl,(Qa rfl),(Qa rfl)⟩ ⟨rfl,(Qa rfl),(Qa rfl)⟩ rfl))
  (@Jh _ _ _ (@Jr _ _ _ _ (Ju Jam (Ju Jam (Jq Ze (pv 4) (pv 5) (λ _ _=>rfl)) (Jq Ze (pv 4) (pv 6) (λ _ _=>rfl))) (Yz Gu (hr.mono (by decide)) rfl (Ja (pv 3) (Ja (pv 7) Jc)))))))),Jv h ?_⟩
 rintro as n P ⟨R,U,ws,wt,ht,k,rfl,ok,sc,hk,q⟩
 have hs:sizeLine=16777216:=Yau
 have lw:=sc.lw
 have lh:=sc.lh
 have p1:=ok.p1
 have wok:=ok.ways _ (Ym (k:=(k:Int)) (Xk k) (by omega))
 have a0:=wok.a0
 have a1:=wok.a1
 have b0:=wok.b0
 have b1:=wok.b1
 have gl:=wok.len
 have hat:∀ {x:Int},0<=x->x<R->atI (ht.map Qv) x=some (.int (ht.getD x.toNat 0)):=λ {x} x0 x1=>Zt x0 (Jcs (by omega))
 refine ⟨rfl,rfl,rfl,⟨_,.refl,_,rfl,_,Jdf (Xk k) (by omega),rfl,rfl,⟨_,.refl,_,hat a0 a1,_,hat b0 b1,wt,(Je ws (k:Int)).g,rfl,by omega,by omega,λ x hx=>Qz (sc.bw x hx) (Bc (by decide)),λ x hx=>?_,q⟩⟩⟩
 have:=wok.small x hx
 have e:(100:Nat)<=2^9000:=Xm (by decide) (Bc (a:=7) (by decide))
 generalize 2^9000=z at e ⊢
 omega
theorem Jpm:FnScope ["book","tally","some"] ["book","tally","some"] (Jd Jcy):=⟨rfl,rfl,rfl,by decide +kernel,rfl,by decide +kernel,by decide +kernel⟩
theorem Jpn (T:Txt mg) (D:Def K mg "is_kept" Jcy ["book","tally","some"]) (Gc:Cal P w K mg base "fall" 2 ["book","tally","k"] (Jk Jcw)):Cal P w K mg base "is_kept" 3 ["book","tally","some"] (Jk Jg0):=by
 refine D.cal λ f fd F=>F.ok Jpm (J3 ?_) (λ cdv A outer s H vs Q E hr h=>?_)
 . rintro as n P ⟨R,U,ws,wt,ht,ks,rfl,_⟩
   rfl
 refine ⟨_,(@Jh _ _ _ (@Jr _ _ _ _ (J0 Jd7 rfl T.b_all boot_all (Wx (Yx (sc:=(Jd Jcy)) (N:=["book","tally","some"]) (N':=["k","book","tally"]) (k:=1) (idx:=[0,1]) rfl (by exact ⟨rfl,by decide +kernel,by decide +kernel,by decide +kernel,by decide +kernel,by decide +kernel,rfl,rfl⟩) rfl rfl (Zd (pv 2)) (λ _ _ _ _=>(Js (i:=0) (show (["k","book","tally"]:List Str).Nodup by decide +kernel) rfl (Qa rfl) (Qp rfl))) (λ _ _ _ _=>Yb) (λ _ _ _ _=>(Zl Jsw (Yz Gc (hr.mono (by decide)) rfl (Ja (pv 1) (Ja (pv 2) (Ja (pv 0) Jc)))) Ji (Jz _)))) Jc)))),Jv h ?_⟩
 rintro as n P ⟨R,U,ws,wt,ht,ks,rfl,ok,sc,hk,hl,kp,q⟩
 have hs:sizeLine=16777216:=Yau
 refine ⟨rfl,⟨rfl,by rw [Qb];omega⟩,?_⟩
 refine Y9 (f:=Jo) (λ k=>.bool true) (λ k hkk n K hK=>Ve ⟨R,U,ws,wt,ht,k,rfl,ok,sc,hk k hkk,?_⟩) ?_
 . show K (some (.bool (decide (0<=Ya ws wt ht (k:Int))))) n
   rw [decide_eq_true (kp k hkk)]
   exact hK
 refine ⟨Qo ks.length true,by rw [J3s];rw [J6h],rfl,?_⟩
 have all1:(Qo ks.length true).all id=true:=X6.mpr λ b hb=>by rw [(Uq.mp hb).2];rfl
 rw [all1]
 exact q
theorem Jpo:FnScope ["book","tally","some"] ["book","tally","some"] (Jd Jcz):=⟨rfl,rfl,rfl,by decide +kernel,rfl,by decide +kernel,by decide +kernel⟩
theorem Jpp (T:Txt mg) (D:Def K mg "falling" Jcz ["book","tally","some"]) (Gc:Cal P w K mg base "fall" 2 ["book","tally","k"] (Jk Jcw)):Cal P w K mg base "falling" 3 ["book","tally","some"] (Z4 Jdn):=by
 refine D.cal λ f fd F=>F.ok Jpo (Ba ?_) (λ cdv A outer s H vs Q E hr h=>?_)
 . rintro as n P ⟨R,U,ws,wt,ht,ks,rfl,_⟩
   rfl
 refine ⟨_,(@Jh _ _ _ (@Jr _ _ _ _ (Yx (sc:=(Jd Jcz)) (N:=["book","tally","some"]) (N':=["k","book","tally"]) (k:=1) (idx:=[0,1]) rfl (by exact ⟨rfl,by decide +kernel,by decide +kernel,by decide +kernel,by decide +kernel,by decide +kernel,rfl,rfl⟩) rfl rfl (Zd (pv 2)) (λ _ _ _ _=>(Js (i:=0) (show (["k","book","tally"]:List Str).Nodup by decide +kernel) rfl (Qa rfl) (Qp rfl))) (λ _ _ _ _=>Jbf (J4 Jg7 (Yz Gc (hr.mono (by decide)) rfl (Ja (pv 1) (Ja (pv 2) (Ja (pv 0) Jc)))) Ji (Jz _))) (λ _ _ _ _=>(pv 0))))),Vg h ?_⟩
 rintro as n P ⟨R,U,ws,wt,ht,ks,rfl,ok,sc,hk,hl,q⟩
 have hs:sizeLine=16777216:=Yau
 refine ⟨rfl,⟨rfl,by rw [Qb];omega⟩,?_⟩
 exact Jak (g:=Jo) (h:=Jo) (p:=λ k:Nat=>decide (0<Ya ws wt ht (k:Int))) (λ k hkk K k1 k2=>⟨R,U,ws,wt,ht,k,rfl,ok,sc,hk k hkk,Wj (λ c=>k1 c) (λ c=>k2 c)⟩) q
theorem Jn1:FnScope ["one","other"] ["one","other"] (Jd Jdr):=⟨rfl,rfl,rfl,by decide +kernel,rfl,by decide +kernel,by decide +kernel⟩
theorem Jn2 (T:Txt mg) (D:Def K mg "together" Jdr ["one","other"]) (Gd:Cal P w K mg base "put_to" 1 ["numbers","gains"] (Jk Jk7)):Cal P w K mg base "together" 2 ["one","other"] (Jk Jdo):=by
 refine D.cal λ f fd F=>F.ok Jn1 (J3 ?_) (λ cdv A outer s H vs Q E hr h=>?_)
 . rintro as n P ⟨w1,h1,w2,h2,rfl,_⟩
   rfl
 refine ⟨_,(@Jh _ _ _ (@Jr _ _ _ _ (@PEs.out _ _ _ (Zs (Wa (J1 (Yz Gd (hr.mono (by decide)) rfl (Zb (Jq Ze (pv 0) Ji (λ _ _=>rfl)) (Zb (Jq Ze (pv 1) Ji (λ _ _=>rfl)) Jc)))) (Wa (J1 (Yz Gd (hr.mono (by decide)) rfl (Zb (Jq Ze (pv 0) Ji (λ _ _=>rfl)) (Zb (Jq Ze (pv 1) Ji (λ _ _=>rfl)) Jc)))) Jw)))))),Jv h ?_⟩
 rintro as n P ⟨w1,h1,w2,h2,rfl,e1,e2,l1,l2,q⟩
 exact ⟨rfl,_,rfl,_,rfl,w1,w2,rfl,l1,e1,_,rfl,_,rfl,h1,h2,rfl,l2,e2,Ja6,q⟩
theorem Bm:FnScope ["_law_book_here","_law_total","_law_counts","_law_falls","_law_left","_law_gain_here","_law_right"] ["_law_book_here","_law_total","_law_counts"] (Jd Vm):=⟨rfl,rfl,rfl,by decide +kernel,rfl,by decide +kernel,by decide +kernel⟩
theorem Jn3 (T:Txt mg) (D:Def K mg "_law_meet" Vm ["_law_book_here","_law_total","_law_counts"]) (Gv:Cal P w K mg base "is_round" 3 ["book","counts"] (Jk Jq3)) (Gc:Cal P w K mg base "fall" 2 ["book","tally","k"] (Jk Jcw)) (Gw:Cal P w K mg base "round_gain" 1 ["book","counts"] (Jk Jk4)):Cal P w K mg base "_law_meet" 4 ["_law_book_here","_law_total","_law_counts"] (Jk Jlq):=by
 refine D.cal λ f fd F=>F.ok Bm (J3 ?_) (λ cdv A outer s H vs Q E hr h=>?_)
 . rintro as n P ⟨R,U,ws,ks,wt,ht,cs,rfl,_⟩
   rfl
 refine ⟨_,(@Jb _ _ _ _ _ (Wh (Jb1 (V4 (Yz Gv (hr.mono (by decide)) rfl (Ja (pv 0) (Ja (pv 2) Jc))))) (@Jh _ _ _ (@Jr _ _ _ _ Jc2)) Yp)
  (@Jb _ _ _ _ _ (Zx (i:=3) (sc:=(Jd Vm)) (N:=["_law_book_here","_law_total","_law_counts","_law_falls","_law_left","_law_gain_here","_law_right"]) (N':=["_law_k","_law_book_here","_law_total"]) (k:=1) (idx:=[0,1]) rfl Bm.nd rfl rfl (by exact ⟨rfl,by decide +kernel,by decide +kernel,by decide +kernel,by decide +kernel,by decide +kernel,rfl,rfl⟩) rfl rfl (Y8 rfl T.b_range (Z7 (J0 Yi rfl T.b_len Uo (Ja (pv 2) Jc)) Jc)) (λ _ _ _ _=>(Js (i:=0) (show (["_law_k","_law_book_here","_law_total"]:List Str).Nodup by decide +kernel) rfl (Qa rfl) (Qp rfl))) (λ _ _ _ _=>Yb) (λ _ _ _ _=>(Yz Gc (hr.mono (by decide)) rfl (Ja (pv 1) (Ja (pv 2) (Ja (pv 0) Jc))))))
  (@Jb _ _ _ _ _ (Jy (i:=4) Bm.nd rfl (Qa rfl) (J0 Jd8 rfl T.b_sum boot_sum (Wx (Yx (sc:=(Jd Vm)) (N:=["_law_book_here","_law_total","_law_counts","_law_falls","_law_left","_law_gain_here","_law_right"]) (N':=["_law_count","_law_one"]) (k:=2) (idx:=[]) rfl (by exact ⟨rfl,by decide +kernel,by decide +kernel,by decide +kernel,by decide +kernel,by decide +kernel,rfl,rfl⟩) rfl rfl (Vf rfl T.b_zip (Ja (pv 2) (Ja (pv 3) Jc))) (λ _ _ _ _=>(Y4 (K':=K) (i:=0) (j:=1) rfl (show (["_law_count","_law_one"]:List Str).Nodup by decide +kernel) ⟨rfl,(Qa rfl),(Qp rfl)⟩ ⟨rfl,(Qa rfl),(Qp rfl)⟩ rfl)) (λ _ _ _ _=>Yb) (λ _ _ _ _=>(Ju Jbi (pv 0) (pv 1)))) Jc)))
  (@Jb _ _ _ _ _ (Jy (i:=5) Bm.nd rfl (Qa rfl) (Yz Gw (hr.mono (by decide)) rfl (Ja (pv 0) (Ja (pv 2) Jc))))
  (@Jb _ _ _ _ _ (Jy (i:=6) Bm.nd rfl (Qa rfl) (J0 Jd8 rfl T.b_sum boot_sum (Wx (Yx (sc:=(Jd Vm)) (N:=["_law_book_here","_law_total","_law_counts","_law_falls","_law_left","_law_gain_here","_law_right"]) (N':=["_law_weight","_law_number"]) (k:=2) (idx:=[]) rfl (by exact ⟨rfl,by decide +kernel,by decide +kernel,by decide +kernel,by decide +kernel,by decide +kernel,rfl,rfl⟩) rfl rfl (Vf rfl T.b_zip (Zb (Jq Ze (pv 1) Ji (λ _ _=>rfl)) (Ja (pv 5) Jc))) (λ _ _ _ _=>(Y4 (K':=K) (i:=0) (j:=1) rfl (show (["_law_weight","_law_number"]:List Str).Nodup by decide +kernel) ⟨rfl,(Qa rfl),(Qp rfl)⟩ ⟨rfl,(Qa rfl),(Qp rfl)⟩ rfl)) (λ _ _ _ _=>Yb) (λ _ _ _ _=>(Ju Jbi (pv 0) (pv 1)))) Jc)))
  (@Jb _ _ _ _ _ (Wh (PW.pt (Jl1 (J4 Jsv (pv 4) (Bj Wp (pv 6)) (Jz _)) (Jg4 (J4 Jjg (J0 (Jrr rfl) rfl T.b_min boot_min (Ja (pv 5) Jc)) Ji (Jz _))))) (@Jh _ _ _ (@Jr _ _ _ _ Jc2)) Yp)
  (@Jh _ _ _ (@Jr _ _ _ _ (Zl (Joj hr.units) (Yx (sc:=(Jd Vm)) (N:=["_law_book_here","_law_total","_law_counts","_law_falls","_law_left","_law_gain_here","_law_right"]) (N':=["_law_count","_law_one"]) (k:=2) (idx:=[]) rfl (by exact ⟨rfl,by decide +kernel,by decide +kernel,by decide +kernel,by decide +kernel,by decide +kernel,rfl,rfl⟩) rfl rfl (Vf rfl T.b_zip (Ja (pv 2) (Ja (pv 3) Jc))) (λ _ _ _ _=>(Y4 (K':=K) (i:=0) (j:=1) rfl (show (["_law_count","_law_one"]:List Str).Nodup by decide +kernel) ⟨rfl,(Qa rfl),(Qp rfl)⟩ ⟨rfl,(Qa rfl),(Qp rfl)⟩ rfl)) (λ _ _ _ _=>Jbf (PW.pt (Jg5 (J4 Jg7 (pv 0) Ji (Jz _)) (Jd0 (J4 Jsv (pv 1) Ji (Jz _)))))) (λ _ _ _ _=>(pv 1))) (@PEs.out _ _ _ (Yy Jw)) (Jz _)))))))))),Jv h ?_⟩
 rintro as n P ⟨R,U,ws,ks,wt,ht,cs,rfl,ok,sc,kp,rc,q⟩
 have hs:sizeLine=16777216:=Yau
 have wl:=ok.len
 have p0:=ok.p0
 have p1:=ok.p1
 have cl:=rc.b.ro.len
 refine ⟨rfl,R,U,ws,cs,rfl,ok,rc.b,?_⟩
 refine Ja0 ⟨_,.refl,_,rfl,⟨by omega,by rw [Qb];omega⟩,⟨rfl,by rw [Yn,Qb];omega⟩,?_⟩
 rw [Qb,show ((cs.length:Nat):Int).toNat=cs.length from Q5 _]
 refine Wy (λ i=>.int (Ya ws wt ht (i:Nat))) (λ i hi n K hK=>Ve ⟨R,U,ws,wt,ht,i,by rw [J31],ok,sc,by omega,hK⟩) ?_
 rw [show (Qk cs.length).map (λ i:Nat=>Qv (Ya ws wt ht (i:Nat)))=((Qk ws.length).map λ i:Nat=>Ya ws wt ht (i:Nat)).map .int by rw [Qw,cl];rfl]
 have fg:∀ i,i<ws.length->((Qk ws.length).map λ i:Nat=>Ya ws wt ht (i:Nat)).getD i 0=Ya ws wt ht (i:Nat):=λ i hi=>by rw [Qg,Qj,Xl hi];rfl
 have flen:((Qk ws.length).map λ i:Nat=>Ya ws wt ht (i:Nat)).length=ws.length:=by rw [Qb,Qy]
 have fmem:∀ x∈(Qk ws.length).map (λ i:Nat=>Ya ws wt ht (i:Nat)),x.natAbs<2^9000:=λ x hx=>by
  obtain ⟨i,hi,rfl⟩:=Qm.mp hx
  exact Jpb ok sc (Xh.mp hi)
 have zmem:∀ p∈cs.zip ((Qk ws.length).map λ i:Nat=>Ya ws wt ht (i:Nat)),0<p.1->p.2=0:=λ p hp h0=>by
  obtain ⟨i,hi⟩:=X4.mp hp
  rw [J42,Uf] at hi
  have il:i<ws.length:=by
   rcases Xy i ws.length with h | h
   . exact h
   . rw [Qx (by omega)] at hi;cases hi
  rw [Qd (by omega),Qj,Xl il] at hi
  have e2:=Xf hi
  rw [<- e2] at h0 ⊢
  have e:cs.getD i 0=cs[i]:=by rw [Qg,Qd (by omega)];rfl
  exact Jbq ok sc.lw sc.nn kp rc.b.ro rc.sub rc.gn (by rw [e];exact h0)
 have lt:Jan cs ((Qk ws.length).map λ i:Nat=>Ya ws wt ht (i:Nat)) cs.length=Tb.Jn ws.length λ i=>cs.getD i 0*Ya ws wt ht (i:Nat):=by
  unfold Jan
  rw [<- Yo,cl]
  exact Tb.Jj λ i hi=>by rw [fg i hi]
 generalize hF:(Qk ws.length).map (λ i:Nat=>Ya ws wt ht (i:Nat))=fs at *
 refine ⟨_,.fz 3 _ rfl .refl,_,_,_,_,rfl,rfl,rfl,⟨rfl,by rw [Zh,Qb,J3r];omega⟩,?_⟩
 rw [Zh]
 refine Y9 (f:=λ p:Int×Int=>Ub [.int p.1,.int p.2]) (λ p:Int×Int=>Qv (p.1*p.2)) (λ p hp m K hK=>⟨rfl,rfl,Ve ⟨Vh (Qz (rc.b.bd _ (Uk hp).1) (Bc (by decide))) (fmem _ (Uk hp).2),hK⟩⟩) ?_
 refine ⟨(cs.zip fs).map λ p=>p.1*p.2,by rw [Qw];rfl,rfl,?_⟩
 rw [Jg1 cs fs (by omega),lt]
 have rl:(rgI ws cs U).length=U.toNat:=by unfold rgI;rw [Qb,Qy]
 have lw:=sc.lw
 have rgg:∀ p,p<U.toNat->(rgI ws cs U).getD p 0=(Jbj ws cs p).sum:=λ p hp=>by
  unfold rgI
  rw [Qg,Qj,Xl hp];rfl
 refine ⟨_,.refl,R,U,ws,cs,rfl,ok,cl,⟨_,.refl,_,rfl,_,_,_,_,rfl,rfl,rfl,⟨rfl,by rw [Zh,Qb,J3r];omega⟩,?_⟩⟩
 rw [Zh]
 refine Y9 (f:=λ p:Int×Int=>Ub [.int p.1,.int p.2]) (λ p:Int×Int=>Qv (p.1*p.2)) (λ p hp m K hK=>⟨rfl,rfl,Ve ⟨Vh (Qz (sc.bw _ (Uk hp).1) (Bc (by decide))) ?_,hK⟩⟩) ?_
 . obtain ⟨i,hi,e⟩:=Qm.mp (Uk hp).2
   rw [<- e]
   exact Jpc ok rc.b.bd i
 refine ⟨(wt.zip (rgI ws cs U)).map λ p=>p.1*p.2,by rw [Qw];rfl,rfl,?_⟩
 have rt:Jan wt (rgI ws cs U) wt.length=Tb.Jn U.toNat λ p=>wt.getD p 0*(Jbj ws cs p).sum:=by
  unfold Jan
  rw [<- Yo,show wt.length=U.toNat by omega]
  exact Tb.Jj λ p hp=>by rw [rgg p hp]
 rw [Jg1 wt (rgI ws cs U) (by omega),rt]
 have ms:=Jnl (ht:=ht) ok sc.lw rc.b.ro
 refine ⟨_,.refl,Jyn ?_⟩
 rw [decide_eq_true ms]
 refine Ja0 ⟨rgI ws cs U,rfl,?_,λ m hm _=>Jbw (decide_eq_false ?_) ⟨_,.refl,_,_,_,_,rfl,rfl,rfl,⟨rfl,by rw [Zh,Qb,J3r];omega⟩,?_⟩⟩
 . intro e
   rw [e] at rl
   simp at rl
   omega
 . obtain ⟨p,hp,rfl⟩:=Qm.mp hm
   have:=rc.gn p (by have:=Xh.mp hp;omega)
   omega
 . rw [Zh]
   refine Jak (g:=λ p:Int×Int=>Ub [.int p.1,.int p.2]) (h:=λ p:Int×Int=>Qv p.2) (p:=λ p:Int×Int=>decide (0<p.1) && !decide (p.2=0)) (λ p hp K k1 k2=>⟨rfl,rfl,Wj (λ c=>?_) (λ c=>?_)⟩) ?_
   . rw [c,J7v] at k1 k2
     refine Jyn ?_
     exact Wj k1 k2
   . rw [c,J5e] at k2
     exact Ja0 (k2 rfl)
   . have e:(cs.zip fs).filter (λ p:Int×Int=>decide (0<p.1) && !decide (p.2=0))=[]:=J71.mpr λ p hp=>by
      by_cases c:0<p.1
      . rw [decide_eq_true (zmem p hp c)];simp
      . rw [decide_eq_false c];simp
     rw [e]
     exact ⟨Xc rfl,⟨⟨rfl,rfl,by decide⟩,q⟩⟩
theorem Jx:FnScope ["_law_book_here","_law_ring","_law_total","_law_counts","_law_low","_law_told","_law_sums","_law_rounds","_law_k","_law_one","_law_two","_law_whole"] ["_law_book_here","_law_ring"] (Jd Zi):=⟨rfl,rfl,rfl,by decide +kernel,rfl,by decide +kernel,by decide +kernel⟩
theorem Je6 (T:Txt mg) (D:Def K mg "_law_ring_right" Zi ["_law_book_here","_law_ring"]) (Gx:Cal P w K mg base "greatest" 6 ["book","some"] (Jk Jdm)) (Gh:Cal P w K mg base "falling" 3 ["book","tally","some"] (Z4 Jdn)) (Gy:Cal P w K mg base "sum_or_round" 6 ["book","some","k"] (Jk Jdk)) (G7:Cal P w K mg base "_law_meet" 4 ["_law_book_here","_law_total","_law_counts"] (Jk Jlq)) (Gz:Cal P w K mg base "together" 2 ["one","other"] (Jk Jdo)) (G0:Cal P w K mg base "is_kept" 3 ["book","tally","some"] (Jk Jg0)):Cal P w K mg base "_law_ring_right" 7 ["_law_book_here","_law_ring"] (Jk Je1):=by
 refine D.cal λ f fd F=>F.ok Jx (J3 ?_) (λ cdv A outer s H vs Q E hr h=>?_)
 . rintro as n P ⟨R,U,ws,ks,rfl,_⟩
   rfl
 refine ⟨_,(@Jb _ _ _ _ _ (Yq (Yz Gx (hr.mono (by decide)) rfl (Ja (pv 0) (Ja (pv 1) Jc))) (Y4 (K':=K) (i:=2) (j:=3) rfl Jx.nd ⟨rfl,(Qa rfl),(Qa rfl)⟩ ⟨rfl,(Qa rfl),(Qa rfl)⟩ rfl))
  (@Jb _ _ _ _ _ (Jy (i:=4) Jx.nd rfl (Qa rfl) (Jd1 (J4 Jb3 (pv 2) W3 (Jz _)) (@PEs.out _ _ _ (Yy Jw)) (Yz Gh (hr.mono (by decide)) rfl (Ja (pv 0) (Ja (pv 2) (Ja (pv 1) Jc))))))
  (@Jb _ _ _ _ _ (Zx (i:=5) (sc:=(Jd Zi)) (N:=["_law_book_here","_law_ring","_law_total","_law_counts","_law_low","_law_told","_law_sums","_law_rounds","_law_k","_law_one","_law_two","_law_whole"]) (N':=["_law_k","_law_book_here","_law_ring"]) (k:=1) (idx:=[0,1]) rfl Jx.nd rfl rfl (by exact ⟨rfl,by decide +kernel,by decide +kernel,by decide +kernel,by decide +kernel,by decide +kernel,rfl,rfl⟩) rfl rfl (Zd (pv 1)) (λ _ _ _ _=>(Js (i:=0) (show (["_law_k","_law_book_here","_law_ring"]:List Str).Nodup by decide +kernel) rfl (Qa rfl) (Qp rfl))) (λ _ _ _ _=>Yb) (λ _ _ _ _=>(Yz Gy (hr.mono (by decide)) rfl (Ja (pv 1) (Ja (pv 2) (Ja (pv 0) Jc))))))
  (@Jb _ _ _ _ _ (Zx (i:=6) (sc:=(Jd Zi)) (N:=["_law_book_here","_law_ring","_law_total","_law_counts","_law_low","_law_told","_law_sums","_law_rounds","_law_k","_law_one","_law_two","_law_whole"]) (N':=["_law_one"]) (k:=1) (idx:=[]) rfl Jx.nd rfl rfl (by exact ⟨rfl,by decide +kernel,by decide +kernel,by decide +kernel,by decide +kernel,by decide +kernel,rfl,rfl⟩) rfl rfl (Zd (pv 5)) (λ _ _ _ _=>(Js (i:=0) (show (["_law_one"]:List Str).Nodup by decide +kernel) rfl (Qa rfl) (Qp rfl))) (λ _ _ _ _=>Jbf (J4 Jag (Jq (Wk (K':=K) rfl) (pv 0) Ji (λ _ _=>rfl)) Jg3 (Jz _))) (λ _ _ _ _=>(Jq (Wk (K':=K) rfl) (pv 0) Ji (λ _ _=>rfl))))
  (@Jb _ _ _ _ _ (Zx (i:=7) (sc:=(Jd Zi)) (N:=["_law_book_here","_law_ring","_law_total","_law_counts","_law_low","_law_told","_law_sums","_law_rounds","_law_k","_law_one","_law_two","_law_whole"]) (N':=["_law_one"]) (k:=1) (idx:=[]) rfl Jx.nd rfl rfl (by exact ⟨rfl,by decide +kernel,by decide +kernel,by decide +kernel,by decide +kernel,by decide +kernel,rfl,rfl⟩) rfl rfl (Zd (pv 5)) (λ _ _ _ _=>(Js (i:=0) (show (["_law_one"]:List Str).Nodup by decide +kernel) rfl (Qa rfl) (Qp rfl))) (λ _ _ _ _=>Jbf (J4 Jag (Jq (Wk (K':=K) rfl) (pv 0) Ji (λ _ _=>rfl)) Jg3 (Jz _))) (λ _ _ _ _=>(Jq (Wk (K':=K) rfl) (pv 0) Ji (λ _ _=>rfl))))
  (@Jb _ _ _ _ _ (We Xs rfl (Vf rfl T.b_zip (Ja (pv 1) (Ja (pv 5) Jc))) (Y4 (K':=K) (i:=8) (j:=9) rfl Jx.nd ⟨rfl,(Qa rfl),(Qa rfl)⟩ ⟨rfl,(Qa rfl),(Qa rfl)⟩ rfl)
  (@Jb _ _ _ _ _ (Wh (J4 Jsv (Zl Jag (Jq Ze (pv 9) Ji (λ _ _=>rfl)) Jg3 (Jz _)) (Zl Jfc (pv 8) (pv 4) (by with_unfolding_all rfl)) (Jz _)) (@Jh _ _ _ (@Jr _ _ _ _ Jc2)) Yp)
  (@Jh _ _ _ (Wh (PW.pt (Jg5 (J4 Jag (Jq Ze (pv 9) Ji (λ _ _=>rfl)) Jg3 (Jz _)) (Jd0 (PW.pt (Jl1 (J4 Jb3 (pv 3) W3 (Jz _)) (Jg4 (J4 Jjg (Jq Ze (pv 3) (pv 8) (λ _ _=>rfl)) Ji (Jz _)))))))) (@Jh _ _ _ (@Jr _ _ _ _ Jc2)) Yp))))
  (@Jb _ _ _ _ _ (We Xs rfl (Zd (Ju Jkc (pv 6) (Ju Jdc (@PEs.out _ _ _ (Yy (Y5 (J1 (pv 2)) Jw))) (J6 Jay rfl T.b_int Ybo (Jhh (Zl Jj7 (pv 2) W3 (Jz _)) Jc))))) (Js (i:=9) Jx.nd rfl (Qa rfl) (Qa rfl))
  (@Jh _ _ _ (We Xs rfl (Zd (Ju Jkc (pv 7) (Ju Jdc (@PEs.out _ _ _ (Yy (Y5 (J1 (pv 3)) Jw))) (J6 Jay rfl T.b_int Ybo (Jhh (Zl Jj7 (pv 3) W3 (Jz _)) Jc))))) (Js (i:=10) Jx.nd rfl (Qa rfl) (Qa rfl))
  (@Jh _ _ _ (Wh (Jb1 (V4 (Yz G7 (hr.mono (by decide)) rfl (Ja (pv 0) (Ja (pv 9) (Ja (pv 10) Jc)))))) (@Jh _ _ _ (@Jr _ _ _ _ Jc2)) Yp)))))
  (@Jb _ _ _ _ _ (@Jec _ _ 11 _ _ _ _ Jx.nd rfl (Qa rfl) (Zs (Ja4 (J1 (Ju Jp1 (@PEs.out _ _ _ (Zs (J2 Yt Jw))) (Jq Ze (pv 0) Ji (λ _ _=>rfl)))) (Ja4 (J1 (Ju Jp1 (@PEs.out _ _ _ (Zs (J2 Yt Jw))) (Jq Ze (pv 0) Ji (λ _ _=>rfl)))) Jw))) rfl (Qa rfl))
  (@Jb _ _ _ _ _ (We Xs rfl (Zd (pv 6)) (Js (i:=9) Jx.nd rfl (Qa rfl) (Qa rfl))
  (@Jh _ _ _ (Jy (i:=11) Jx.nd rfl (Qa rfl) (Yz Gz (hr.mono (by decide)) rfl (Ja (pv 11) (Ja (pv 9) Jc))))))
  (@Jb _ _ _ _ _ (Wh (Jb1 (V4 (Yz G0 (hr.mono (by decide)) rfl (Ja (pv 0) (Ja (pv 11) (Ja (pv 1) Jc)))))) (@Jh _ _ _ (@Jr _ _ _ _ Jc2)) Yp)
  (@Jh _ _ _ (@Jr _ _ _ _ (Zl (Joj hr.units) (Yz Gh (hr.mono (by decide)) rfl (Ja (pv 0) (Ja (pv 11) (Ja (pv 1) Jc)))) (pv 4) (Jz _)))))))))))))),Jv h ?_⟩
 rintro as n P ⟨R,U,ws,ks,rfl,ok,rg,q⟩
 have hs:sizeLine=16777216:=Yau
 have wl:=ok.len
 have kn:=rg.len
 refine ⟨rfl,?_⟩
 refine Jkq (λ e j=>j=n/\∃ (L:List Nat) (d:Yao) (cs:Option (List Int)),e=[.d (J8 R U ws),.d (.list (ks.map Jo)),.d d,.d (Jfr cs),.jnk,.jnk,.jnk,.jnk,.jnk,.jnk,.jnk,.jnk]/\GreatS R U ws ks L d cs) (λ M hM=>?_) ?_
 . exact ⟨R,U,ws,ks,rfl,ok,rg,λ wt ht L cs sk r hL fl=>⟨rfl,rfl,hM _ _ ⟨rfl,L,_,cs,rfl,Jse ok sk r hL fl⟩⟩,λ cs r=>⟨rfl,rfl,hM _ _ ⟨rfl,[],.none,some cs,rfl,⟨r,.inl ⟨rfl,rfl,by simp⟩⟩⟩⟩⟩
 rintro _ j ⟨rfl,L,d,cs,rfl,gs⟩
 refine ⟨_,.refl,?_⟩
 refine Jkq (λ e j'=>j'=j/\e=[.d (J8 R U ws),.d (.list (ks.map Jo)),.d d,.d (Jfr cs),.d (.list ((ks.filter λ k=>decide (k∈L)).map Jo)),.jnk,.jnk,.jnk,.jnk,.jnk,.jnk,.jnk]) (λ M hM=>?_) ?_
 . rcases gs.s with ⟨rfl,rfl,_⟩ | ⟨wt,ht,rfl,sk,hL,fl⟩
   . refine ⟨rfl,Ve ⟨Xo _,hM _ _ ⟨rfl,?_⟩⟩⟩
     rw [J71.mpr λ k hk=>by simp]
     rfl
   . refine ⟨rfl,Ja0 ⟨R,U,ws,wt,ht,ks,rfl,ok,sk.c,rg.lt,by omega,hM _ _ ⟨rfl,?_⟩⟩⟩
     rw [J40 (q:=λ k=>decide (k∈L)) λ k hk=>decide_eq_decide.mpr (fl k hk)]
     rfl
 rintro _ j' ⟨rfl,rfl⟩
 refine ⟨_,.refl,⟨rfl,by rw [Qb];omega⟩,?_⟩
 refine Jmn (R:=λ x y=>∃ (k:Nat) (a:Ans),x=Jo k/\y=Jsg a/\(k∈ks->Jvm R U ws ks k a)) (λ x hx K hK=>?_) (λ ys hys=>?_)
 . obtain ⟨k,hk,rfl⟩:=Qm.mp hx
   exact Ve ⟨R,U,ws,ks,k,rfl,ok,rg,hk,λ wt ht sk fl=>hK _ ⟨k,.inl (wt,ht),rfl,rfl,λ _=>⟨sk,fl⟩⟩,λ c rk ck=>hK _ ⟨k,.inr c,rfl,rfl,λ _=>⟨rk,ck⟩⟩⟩
 obtain ⟨as,rfl,al,hans⟩:=Jnn hys
 have hans:∀ (i:Nat) (k:Nat) (a:Ans),ks[i]? = some k->as[i]? = some a->Jvm R U ws ks k a:=λ i k a h1 h2=>hans i k a h1 h2 (Xa h1)
 have amem:∀ a∈as,∃ k∈ks,Jvm R U ws ks k a:=λ a ha=>by
  obtain ⟨i,hi⟩:=X4.mp ha
  have il:=(Qq.mp hi).1
  have hk:ks[i]? = some ks[i]:=Qd (by omega)
  exact ⟨_,Xe (by omega),hans i _ a hk hi⟩
 refine ⟨_,.refl,⟨rfl,by rw [Qb];omega⟩,?_⟩
 refine Jak (g:=Jsg) (h:=Jvk) (p:=Jgf) (λ a ha K k1 k2=>?_) ?_
 . cases a with
   | inl s=>exact ⟨_,rfl,Jca (Jc4 J2m ⟨_,rfl,k1 rfl⟩)⟩
   | inr c=>exact ⟨_,rfl,Jca (Jbw Jy0 (k2 rfl))⟩
 rw [Jir]
 refine ⟨_,.refl,⟨rfl,by rw [Qb];omega⟩,?_⟩
 refine Jak (g:=Jsg) (h:=Jvk) (p:=λ a=>!Jgf a) (λ a ha K k1 k2=>?_) ?_
 . cases a with
   | inl s=>exact ⟨_,rfl,Jca (Jbw Jy1 (k2 rfl))⟩
   | inr c=>exact ⟨_,rfl,Jca (Jc4 Jy2 ⟨_,rfl,k1 rfl⟩)⟩
 rw [Jlr]
 have sok:∀ s∈Vj as,SumK R U ws ks s.1 s.2:=λ s hs=>by
  obtain ⟨k,_,h⟩:=amem _ (Jno.mp hs)
  exact h.1
 have rok:∀ c∈Jc6 as,RoundK R U ws ks c:=λ c hc=>by
  obtain ⟨k,_,h⟩:=amem _ (Jxn.mp hc)
  exact h.1
 have sl:=Jvn as
 have rl:=Jxo as
 have inlow:∀ k∈ks,inD (Jo k) ((ks.filter λ k=>decide (k∈L)).map Jo)=decide (k∈L):=λ k hk=>by
  rw [J0w]
  refine decide_eq_decide.mpr ?_
  rw [Xq,decide_eq_true_iff]
  exact ⟨λ z=>z.2,λ z=>⟨hk,z⟩⟩
 let E0:List Vl:=[.d (J8 R U ws),.d (.list (ks.map Jo)),.d d,.d (Jfr cs),.d (.list ((ks.filter λ k=>decide (k∈L)).map Jo)),.d (.list (as.map Jsg)),.d (.list ((Vj as).map λ s=>Jat s.1 s.2)),.d (.list ((Jc6 as).map λ c=>.tuple (c.map .int)))]
 refine ⟨E0++[.jnk,.jnk,.jnk,.jnk],.fz 5 _ rfl (.fz 6 _ rfl (.fz 7 _ rfl .refl)),?_⟩
 refine Jkq (λ e j=>j=j'/\∃ a b:Vl,e=E0++[a,b,.jnk,.jnk]) (λ M hM=>?_) ?_
 . refine ⟨_,_,_,_,rfl,rfl,rfl,?_⟩
   refine ⟨λ i env j=>j=j'/\∃ a b:Vl,env=E0++[a,b,.jnk,.jnk],⟨rfl,_,_,rfl⟩,?_,?_⟩
   . rintro i x env j hx ⟨rfl,a,b,rfl⟩
     unfold W9 at hx
     rw [Uf,Qj,Qj] at hx
     have il:i<ks.length:=by
      rcases Xy i ks.length with h | h
      . exact h
      . rw [Qx h] at hx;cases hx
     have hk:ks[i]? = some ks[i]:=Qd il
     have ha:as[i]? = some as[i]:=Qd (by omega)
     have km:ks[i]∈ks:=Xe il
     have hok:=hans i _ _ hk ha
     rw [hk,ha] at hx
     cases hx
     generalize ks[i]=k at *
     generalize as[i]=an at *
     have kl:=rg.lt k km
     refine ⟨rfl,rfl,_,rfl,?_⟩
     cases an with
     | inl s=>
      have hL:k∈L:=Jnp ok gs km hok.1 (by have:=hok.2;omega)
      refine Jca ⟨rfl,Jnm _,Jvj (by rw [inlow k km,decide_eq_true hL];exact decide_eq_true rfl) (Ja0 ⟨_,.refl,_,rfl,Jca (Jbw Jy1 (Ja0 ⟨rfl,_,_,rfl⟩))⟩)⟩
     | inr c=>
      have hL:k∉L:=Jq2 ok gs km hok.1 (by have:=hok.2;omega)
      obtain ⟨c0,rfl,hc0⟩:=Jpd gs.r km hL
      have cl:=(gs.r.yes c0 rfl).1
      obtain ⟨i0,_,ra⟩:=cl
      have ak:atI (c0.map Qv) ((k:Nat):Int)=some (.int (c0.getD k 0)):=Zt (by omega) (by rw [Q5];exact Jcs (by rw [ra.ro.len];exact kl))
      refine Jca ⟨rfl,Jnm _,Jvj (by rw [inlow k km,decide_eq_false hL];exact Jy0) (Ja0 ⟨_,.refl,_,rfl,Jca (Jc4 Jy2 ⟨rfl,Ja0 ⟨_,ak,Jbw (decide_eq_false (by omega)) ⟨rfl,_,_,rfl⟩⟩⟩)⟩)⟩
   . rintro env j ⟨rfl,a,b,rfl⟩
     exact hM _ _ ⟨rfl,_,_,rfl⟩
 rintro _ j ⟨rfl,a,b,rfl⟩
 refine ⟨_,.refl,?_⟩
 refine Jkq (λ e j2=>j2=j/\∃ a b c:Vl,e=E0++[a,b,c,.jnk]) (λ M hM=>?_) ?_
 . refine ⟨V7 (Xc rfl),rfl,Jvl _ _,by have:=Jq1 (if true=true then !B6 d else B6 d) d;rw [Qb];omega,?_⟩
   refine ⟨λ i env j2=>j2=j/\∃ a b c:Vl,env=E0++[a,b,c,.jnk],⟨rfl,_,_,_,rfl⟩,?_,?_⟩
   . rintro i x env j2 hx ⟨rfl,a,b,c,rfl⟩
     obtain ⟨wt,ht,rfl,sc,kp⟩:∃ wt ht,x=Jat wt ht/\SumC R U wt ht/\∀ k∈ks,0<=Ya ws wt ht (k:Int):=by
      rcases Q6.mp (Xa hx) with h | h
      . obtain ⟨s,hs,rfl⟩:=Qm.mp h
        exact ⟨s.1,s.2,rfl,(sok s hs).c,(sok s hs).kept⟩
      . obtain ⟨hb,rfl⟩:=Jq0 h
        rcases gs.s with ⟨e,_,_⟩ | ⟨wt,ht,e,sk,_,_⟩
        . rw [e] at hb;cases hb
        . exact ⟨wt,ht,e,sk.c,sk.kept⟩
     refine ⟨V7 (Xc rfl),rfl,Jvl _ _,by have:=Jq1 (if true=true then !B6 (Jfr cs) else B6 (Jfr cs)) (Jfr cs);rw [Qb];omega,?_⟩
     refine ⟨λ i env j3=>j3=j2/\∃ a c:Vl,env=E0++[a,.d (Jat wt ht),c,.jnk],⟨rfl,_,_,rfl⟩,?_,?_⟩
     . rintro i2 x env j3 hx ⟨rfl,a,c,rfl⟩
       obtain ⟨c1,rfl,rc⟩:∃ c1:List Int,x = .tuple (c1.map .int)/\RdC R U ws ks c1:=by
        rcases Q6.mp (Xa hx) with h | h
        . obtain ⟨c1,hc1,rfl⟩:=Qm.mp h
          exact ⟨c1,rfl,(rok c1 hc1).cc⟩
        . obtain ⟨hb,rfl⟩:=Jq0 h
          cases cs with
          | none=>cases hb
          | some c1=>
           obtain ⟨⟨i0,hi0,ra⟩,ne,_⟩:=gs.r.yes c1 rfl
           exact ⟨c1,rfl,ra.b (by omega) ne,ra.sub,ra.gn⟩
       exact ⟨R,U,ws,ks,wt,ht,c1,rfl,ok,sc,kp,rc,Ja0 ⟨rfl,_,_,rfl⟩⟩
     . rintro env j3 ⟨rfl,a,c,rfl⟩
       exact ⟨rfl,_,_,_,rfl⟩
   . rintro env j2 ⟨rfl,a,b,c,rfl⟩
     exact hM _ _ ⟨rfl,_,_,_,rfl⟩
 rintro _ j2 ⟨rfl,a,b,c,rfl⟩
 have r0:=ok.r0
 have r1:=ok.r1
 have p0:=ok.p0
 have p1:=ok.p1
 have e1:∀ n:Nat,Qo n (Qv 0)=(Qo n (0:Int)).map .int:=λ n=>by rw [J3s]
 refine ⟨E0++[a,b,c,.jnk],.refl,?_⟩
 refine Jkq (λ e j=>j=j2/\e=E0++[a,b,c,.d (Jat (Qo U.toNat 0) (Qo R.toNat 0))]) (λ M hM=>?_) ?_
 . refine ⟨V7 (Xc rfl),_,rfl,⟨by simp,by omega,by show (1:Int)*U<=_;omega,?_⟩⟩
   refine ⟨V7 (Xc rfl),_,rfl,⟨by simp,by omega,by show (1:Int)*R<=_;omega,V7 (Xc rfl),hM _ _ ⟨rfl,?_⟩⟩⟩
   rw [Jb9,Jb9,e1,e1]
   rfl
 rintro _ j ⟨rfl,rfl⟩
 refine ⟨_,.refl,?_⟩
 refine Jkq (λ e j2=>j2=j/\∃ (wt ht:List Int) (x:Vl),e=E0++[a,x,c,.d (Jat wt ht)]/\WholeI R U ws (Vj as) (Vj as).length wt ht) (λ M hM=>?_) ?_
 . refine ⟨λ i env j2=>j2=j/\∃ (wt ht:List Int) (x:Vl),env=E0++[a,x,c,.d (Jat wt ht)]/\WholeI R U ws (Vj as) i wt ht,⟨rfl,_,_,_,rfl,Jpe ok _⟩,?_,?_⟩
   . rintro i x env j2 hx ⟨rfl,wt,ht,y,rfl,wh⟩
     rw [Qj] at hx
     obtain ⟨s,hsi,rfl⟩:=Um.mp hx
     have sk:=sok s (Xa hsi)
     have l1:=wh.lw
     have l2:=wh.lh
     have l3:=sk.lw
     have l4:=sk.lh
     exact ⟨wt,ht,s.1,s.2,rfl,by omega,by omega,by omega,by omega,⟨rfl,_,_,_,rfl,wh.next hsi sk⟩⟩
   . rintro env j2 ⟨rfl,wt,ht,y,rfl,wh⟩
     rw [Qb] at wh
     exact hM _ _ ⟨rfl,wt,ht,y,rfl,wh⟩
 rintro _ j2 ⟨rfl,wt,ht,x,rfl,wh⟩
 have wc:=wh.c (by omega)
 have wf:∀ k:Nat,Ya ws wt ht (k:Int)=((Vj as).map λ s=>Ya ws s.1 s.2 (k:Int)).sum:=λ k=>by
  rw [wh.fl k,J5d]
 have wn:∀ k∈ks,∀ x∈(Vj as).map λ s=>Ya ws s.1 s.2 (k:Int),0<=x:=λ k hk x hx=>by
  obtain ⟨s,hs,rfl⟩:=Qm.mp hx
  exact (sok s hs).kept k hk
 have wL:∀ k∈ks,(0<Ya ws wt ht (k:Int)↔k∈L):=λ k hk=>by
  rw [wf k]
  constructor
  . intro h0
    refine U0 λ z=>?_
    rw [Jc7 λ x hx=>?_] at h0
    . exact absurd h0 (by decide)
    obtain ⟨s,hs,rfl⟩:=Qm.mp hx
    exact U0 λ y=>z (Jnp ok gs hk (sok s hs) y)
  . intro hL
    obtain ⟨i,hi⟩:=X4.mp hk
    have il:=(Qq.mp hi).1
    have ha:as[i]? = some as[i]:=Qd (by omega)
    have hok:=hans i _ _ hi ha
    generalize as[i]=an at *
    cases an with
    | inl s=>
     have h1:=Jf9 (wn k hk) (Qm.mpr ⟨s,Jno.mpr (Xa ha),rfl⟩)
     have:=hok.2
     omega
    | inr c=>exact absurd hL (Jq2 ok gs hk hok.1 (by have:=hok.2;omega))
 refine ⟨_,.refl,⟨R,U,ws,wt,ht,ks,rfl,ok,wc,rg.lt,by omega,λ k hk=>by rw [wf k];exact Jcj (wn k hk),Ja0 ?_⟩⟩
 refine ⟨_,.refl,⟨R,U,ws,wt,ht,ks,rfl,ok,wc,rg.lt,by omega,?_⟩⟩
 rw [J40 (q:=λ k=>decide (k∈L)) λ k hk=>decide_eq_decide.mpr (wL k hk)]
 exact Jxm q
theorem Jlx:FnScope ["_law_script","_law_tape_here","_law_book_here","_law_ring"] ["_law_script"] (Jd Je3):=⟨rfl,rfl,rfl,by decide +kernel,rfl,by decide +kernel,by decide +kernel⟩
theorem J0x {f:Addr}{fd:Yaz}(T:Txt mg) (F:Fun K "law" "law" Je3 f fd) (G8:Cal P w K mg base "_law_tape" 1 ["_law_script"] (Jkg K)) (G9:Cal P w K mg base "_law_book" 5 ["_law_tape_here","_law_most"] (Jk Jks)) (Gf:Cal P w K mg base "rings_of" 2 ["book","some"] (Jk Jgo)) (Ma:Cal P w K mg base "_law_ring_right" 7 ["_law_book_here","_law_ring"] (Jk Je1)):FnOk P w K mg base CX0 14 f fd ["_law_script"] (Jma K):=by
 refine F.ok Jlx (λ vs H Q E h=>?_) (λ cdv A outer s H vs Q E hr h=>?_)
 . obtain ⟨a,ns,rfl,_⟩:=h
   rfl
 refine ⟨_,(@Jb _ _ _ _ _ (Jy (i:=1) Jlx.nd rfl (Qa rfl) (Yz G8 (hr.mono (by decide)) rfl (Ja (pv 0) Jc)))
  (@Jb _ _ _ _ _ (Jy (i:=2) Jlx.nd rfl (Qa rfl) (Yz G9 (hr.mono (by decide)) rfl (Ja (pv 1) (Jd9 (@PEs.out _ _ _ (Zs (J2 Yt (J2 Yt (J2 Yt Jw))))) Jc))))
  (@Jb _ _ _ _ _ (We Xs rfl (Zd (Yz Gf (hr.mono (by decide)) rfl (Ja (pv 2) (Z7 (Jkh rfl rfl T.b_list rfl T.b_range (Z7 (J0 Yi rfl T.b_len Uo (Zb (Jq Ze (pv 2) Ji (λ _ _=>rfl)) Jc)) Jc)) Jc)))) (Js (i:=3) Jlx.nd rfl (Qa rfl) (Qa rfl))
  (@Jh _ _ _ (Wh (Jb1 (V4 (Yz Ma (hr.mono (by decide)) rfl (Ja (pv 2) (Ja (pv 3) Jc))))) (@Jh _ _ _ (@Jr _ _ _ _ Jc2)) Yp)))
  (@Jh _ _ _ (@Jr _ _ _ _ Jc2))))),Jow (by decide) h ?_⟩
 have hs:sizeLine=16777216:=Yau
 show Jz2 _ _ Jtt [.jnk,.tape,.jnk,.jnk] 0
 refine ⟨B7,4,3,9,rfl,by decide,by decide,by decide,by decide,λ R U ws m ok _ _ hmm=>⟨_,.refl,?_⟩⟩
 have r0:=ok.r0
 have p0:=ok.p0
 have wl:=ok.len
 refine ⟨_,rfl,(ws.length:Int),by rw [Qb],by omega,by omega,?_⟩
 have hz:((ws.length:Nat):Int).toNat=ws.length:=Q5 _
 rw [hz]
 have e0:((Qk ws.length).map λ (i:Nat)=>Qv (i:Int))=(evI ws).map .int:=by unfold evI;rw [Qw];rfl
 rw [e0]
 have el:(evI ws).length=ws.length:=by unfold evI;rw [Qb,Qy]
 have es:∀ e∈Yh ws (evI ws),e.1<R.toNat/\e.2<R.toNat:=λ e he=>by
  obtain ⟨k,hk,rfl⟩:=Qm.mp he
  have hk:=Jlo k hk
  have wok:=ok.ways _ (Ym hk.1 hk.2)
  have:=wok.a0
  have:=wok.a1
  have:=wok.b0
  have:=wok.b1
  exact ⟨by omega,by omega⟩
 refine ⟨R,U,ws,evI ws,rfl,ok,Jlo,by omega,?_⟩
 refine ⟨λ i env j=>j=m/\∃ a:Vl,env=[.jnk,.tape,.d (J8 R U ws),a],⟨rfl,_,rfl⟩,?_,?_⟩
 rotate_left
 . rintro env j ⟨rfl,a,rfl⟩
   exact ⟨_,.refl,rfl⟩
 rintro i x env j hx ⟨rfl,a,rfl⟩
 rw [Qj] at hx
 obtain ⟨r,hr,rfl⟩:=Um.mp hx
 have hr:=Xa hr
 have sb:r.Sublist (evI ws):=by
  rw [<- Jmy hr];exact J94
 have nn:∀ k∈r,0<=k:=λ k h=>(Jlo k (sb.subset h)).1
 have rg:IsRing R ws (toN r):=by
  refine ⟨λ k h=>?_,?_,?_⟩
  . obtain ⟨j,hj,rfl⟩:=Qm.mp h
    have:=Jlo j (sb.subset hj)
    omega
  . unfold toN
    rw [J6c]
    refine ((J0v ws).sublist sb).imp_of_mem λ ha hb h=>?_
    have:=nn _ ha
    omega
  . rw [J0u nn];exact Jr2 es hr
 rw [<- Jxi nn]
 exact ⟨R,U,ws,toN r,rfl,ok,rg,Ja0 ⟨rfl,_,rfl⟩⟩
end
theorem all_mk {l:J66}{w:Yar}{K:Qc}{h:Heap}{mg:Str->Option Yan}{fa f4:Addr}(X:K.In h) (G:h.Ns Yay mg) (hfa:mg "law" = some (.ref fa)) (T:Txt mg)
 {C_Table:Addr} (Y_Table:TableOk K C_Table) (Mb:Def K mg "_law_tape" Jds ["_law_script"]) (Mc:Def K mg "_law_draw" Jdt ["_law_tape_here","_law_many"]) (Md:Def K mg "_law_gain" Jdu ["_law_tape_here"]) (Me:Def K mg "_law_gains" Jal ["_law_tape_here","_law_purses"]) (Mf:Def K mg "_law_nested" Bw ["_law_tape_here","_law_rooms","_law_purses"]) (Mg:Def K mg "_law_book" Jbv ["_law_tape_here","_law_most"]) (Mh:Def K mg "is_whole" Jdp ["thing"]) (Mi:Def K mg "is_between" Jbr ["thing","least","most"]) (Mj:Def K mg "has_way" Jft ["book","k"]) (Ml:Def K mg "is_tuple_of" Jau ["thing","many"]) (Mm:Def K mg "are_numbers" Bi ["thing","many"]) (Mn:Def K mg "is_balanced" Jav ["book","counts"]) (Mo:Def K mg "is_round" Jdq ["book","counts"]) (Mp:Def K mg "round_gain" V0 ["book","counts"]) (Mq:Def K mg "rooms_reached" Zq ["book","some"]) (Mr:Def K mg "rings_of" Jbs ["book","some"]) (Ms:Def K mg "common_divisor" Bd ["numbers"]) (Mt:Def K mg "without_divisor" Wl ["numbers"]) (Mu:Def K mg "first_numbers" Vc ["book","stand"]) (D_Table__init:L2.DefI2 K mg "Table" C_Table "Table.__init__" Zf ["self","book","some","stand"]) (D_Table__without:L2.DefM K C_Table "without" "Table.without" W0 ["self","other","row","place"]) (D_Table__exchange:L2.DefM K C_Table "exchange" "Table.exchange" Wm ["self","at","place"]) (D_Table__rises:L2.DefM K C_Table "rises" "Table.rises" Wq ["self","wanted"]) (D_Table__place_to_raise:L2.DefM K C_Table "place_to_raise" "Table.place_to_raise" Za ["self","wanted"]) (D_Table__comes_first:L2.DefM K C_Table "comes_first" "Table.comes_first" Wr ["self","at","other","place"]) (D_Table__row_to_free:L2.DefM K C_Table "row_to_free" "Table.row_to_free" Ws ["self","place"]) (D_Table__counts_by:L2.DefM K C_Table "counts_by" "Table.counts_by" Vk ["self","place"]) (D_Table__find_round:L2.DefM K C_Table "find_round" "Table.find_round" W5 ["self","wanted"]) (D_Table__shares:L2.DefM K C_Table "shares" "Table.shares" Bq ["self","wanted"]) (D_Table__as_sum:L2.DefM K C_Table "as_sum" "Table.as_sum" Br ["self","shares"]) (D_Table__read_sum:L2.DefM K C_Table "read_sum" "Table.read_sum" Vz ["self","wanted"]) (Mv:Def K mg "is_ring" Jba ["book","some"]) (Mw:Def K mg "ring_table" Jbt ["book","some"]) (Mx:Def K mg "put_to" Je2 ["numbers","gains"]) (Mz:Def K mg "sum_or_round" Jad ["book","some","k"]) (M0:Def K mg "greatest" Jbu ["book","some"]) (M1:Def K mg "weighed" Jcx ["weights","numbers"]) (M3:Def K mg "fall" Jpf ["book","tally","k"]) (M4:Def K mg "is_kept" Jcy ["book","tally","some"]) (M5:Def K mg "falling" Jcz ["book","tally","some"]) (M6:Def K mg "together" Jdr ["one","other"]) (M7:Def K mg "_law_meet" Vm ["_law_book_here","_law_total","_law_counts"]) (M8:Def K mg "_law_ring_right" Zi ["_law_book_here","_law_ring"])
 {od4 an4:Option Addr} {sl4:Array (Option Yan)} {oc4 kV4 dc4 pm4 cd4 ct4:Yan} (a4:J7g K Yay "law" = some (some (.ref f4)))
 (l4:K.lookup f4=some ⟨oc4,od4,.func (X3 "law" "law" (Wi Je3) (Z3 Je3) (Jd Je3) .none kV4 dc4 pm4 an4 cd4 ct4),sl4⟩) (c4:J3o K cd4 "law" = true) (k4:Uj K (.ref f4)=true) :
 ∃ fd:Yaz,(∀ (s:Yap) (v:Yan),Ybk s fd ⟨[v],[]⟩ [("_law_script",v)])/\∀ base:Heap,K.In base->base.Ns Yay mg->FnOk l.prog w K mg base CX0 14 fa fd ["_law_script"] (Jma K):=by
 have e:=hfa.symm.trans (J7h X G a4)
 cases e
 have F4:=Jhb (st:=Je3) l4 c4 k4
 refine ⟨X3 "law" "law" (Wi Je3) (Z3 Je3) (Jd Je3) .none kV4 dc4 pm4 an4 cd4 ct4,λ s v=>.of_eq rfl,λ base _ _=>?_⟩
 have M9:Cal l.prog w K mg base "_law_tape" 1 ["_law_script"] (Jkg K):=Jnr T Mb
 have Ta:Cal l.prog w K mg base "_law_draw" 1 ["_law_tape_here","_law_many"] Jop:=Jns T Mc
 have G3:Cal l.prog w K mg base "_law_draw" 1 ["_law_tape_here","_law_many"] (Jk Jfi):=Ta.imp Jtu
 have Tc:Cal l.prog w K mg base "_law_gain" 2 ["_law_tape_here"] (Jk Je0):=Jnt T Md G3
 have G4:Cal l.prog w K mg base "_law_gains" 3 ["_law_tape_here","_law_purses"] (Jk Jcv):=Jlv T Me Tc
 have Td:Cal l.prog w K mg base "_law_nested" 4 ["_law_tape_here","_law_rooms","_law_purses"] (Z4 Jdl):=Ji8 T Mf G4 G3
 have Te:Cal l.prog w K mg base "_law_book" 5 ["_law_tape_here","_law_most"] (Jk Jks):=Jnu T Mg G3 Td G4
 have Gb:Cal l.prog w K mg base "is_whole" 1 ["thing"] (Jk Jeh):=Jnw T Mh
 have Gj:Cal l.prog w K mg base "is_between" 2 ["thing","least","most"] (Jk Jfh):=Jja T Mi Gb
 have Gr:Cal l.prog w K mg base "has_way" 3 ["book","k"] (Jk Jhr):=Jph T Mj Gj
 have Gk:Cal l.prog w K mg base "is_tuple_of" 1 ["thing","many"] (Jk Jls):=Jit T Ml
 have Gm:Cal l.prog w K mg base "are_numbers" 2 ["thing","many"] (Jk Jg2):=Jiv T Mm Gk Gb
 have Gn:Cal l.prog w K mg base "is_balanced" 1 ["book","counts"] (Jk Jlt):=Jiw T Mn
 have Gv:Cal l.prog w K mg base "is_round" 3 ["book","counts"] (Jk Jq3):=Jny T Mo Gm Gn
 have Gw:Cal l.prog w K mg base "round_gain" 1 ["book","counts"] (Jk Jk4):=Jjb T Mp
 have Go:Cal l.prog w K mg base "rooms_reached" 1 ["book","some"] (Jk Jk1):=Jfu T Mq
 have Gf:Cal l.prog w K mg base "rings_of" 2 ["book","some"] (Jk Jgo):=Jnz T Mr Go
 have Gp:Cal l.prog w K mg base "common_divisor" 1 ["numbers"] (Jk Jet):=Je4 T Ms
 have Ge:Cal l.prog w K mg base "without_divisor" 2 ["numbers"] (Z4 Jgs):=Jdv T Mt Gp
 have Gq:Cal l.prog w K mg base "first_numbers" 1 ["book","stand"] (Z4 Jih):=Jfx T Mu
 have c_Table__init:Jne l.prog w K mg base "Table" C_Table 2 ["self","book","some","stand"] (Jll C_Table):=Jix T Y_Table D_Table__init Gq
 have c_Table__without:Wb l.prog w K mg base C_Table "without" 1 ["self","other","row","place"] (Z4 (Jo1 C_Table)):=Je5 T Y_Table D_Table__without
 have c_Table__exchange:Wb l.prog w K mg base C_Table "exchange" 2 ["self","at","place"] (J0q C_Table):=Jdy T Y_Table D_Table__exchange c_Table__without
 have c_Table__rises:Wb l.prog w K mg base C_Table "rises" 1 ["self","wanted"] (Z4 (Jgu C_Table)):=Jgh T Y_Table D_Table__rises
 have c_Table__place_to_raise:Wb l.prog w K mg base C_Table "place_to_raise" 2 ["self","wanted"] (Jk (Jcu C_Table)):=Jaw T Y_Table D_Table__place_to_raise c_Table__rises
 have c_Table__comes_first:Wb l.prog w K mg base C_Table "comes_first" 1 ["self","at","other","place"] (Jk (Jle C_Table)):=Jby T Y_Table D_Table__comes_first
 have c_Table__row_to_free:Wb l.prog w K mg base C_Table "row_to_free" 2 ["self","place"] (Jk (Jfm C_Table)):=Jbz T Y_Table D_Table__row_to_free c_Table__comes_first
 have c_Table__counts_by:Wb l.prog w K mg base C_Table "counts_by" 3 ["self","place"] (Jk (Jev C_Table)):=Jc1 T Y_Table D_Table__counts_by Ge
 have c_Table__find_round:Wb l.prog w K mg base C_Table "find_round" 4 ["self","wanted"] (Jii C_Table):=Jcl T Y_Table D_Table__find_round c_Table__place_to_raise c_Table__row_to_free c_Table__counts_by c_Table__exchange
 have c_Table__shares:Wb l.prog w K mg base C_Table "shares" 2 ["self","wanted"] (Z4 (Jif C_Table)):=Jfw T Y_Table D_Table__shares c_Table__rises
 have c_Table__as_sum:Wb l.prog w K mg base C_Table "as_sum" 1 ["self","shares"] (Jk (Jlf C_Table)):=Jfv T Y_Table D_Table__as_sum
 have c_Table__read_sum:Wb l.prog w K mg base C_Table "read_sum" 3 ["self","wanted"] (Jk (Bx C_Table)):=Jdx T Y_Table D_Table__read_sum c_Table__as_sum Ge c_Table__shares
 have Gs:Cal l.prog w K mg base "is_ring" 4 ["book","some"] (Jk Jip):=Jpj T Mv Gr Gf
 have Gg:Cal l.prog w K mg base "ring_table" 5 ["book","some"] (Jgx C_Table):=Jjd T Y_Table Mw Gs c_Table__init
 have Gd:Cal l.prog w K mg base "put_to" 1 ["numbers","gains"] (Jk Jk7):=Jsj T Mx
 have Gy:Cal l.prog w K mg base "sum_or_round" 6 ["book","some","k"] (Jk Jdk):=Jgi T Y_Table Mz Gg Gb c_Table__find_round c_Table__read_sum
 have Gx:Cal l.prog w K mg base "greatest" 6 ["book","some"] (Jk Jdm):=Jn0 T Y_Table M0 Gg c_Table__find_round c_Table__read_sum Gd
 have Gu:Cal l.prog w K mg base "weighed" 1 ["weights","numbers"] (Jk Jgz):=Jpl T M1
 have Gc:Cal l.prog w K mg base "fall" 2 ["book","tally","k"] (Jk Jcw):=Jxq T M3 Gu
 have G0:Cal l.prog w K mg base "is_kept" 3 ["book","tally","some"] (Jk Jg0):=Jpn T M4 Gc
 have Gh:Cal l.prog w K mg base "falling" 3 ["book","tally","some"] (Z4 Jdn):=Jpp T M5 Gc
 have Gz:Cal l.prog w K mg base "together" 2 ["one","other"] (Jk Jdo):=Jn2 T M6 Gd
 have Tf:Cal l.prog w K mg base "_law_meet" 4 ["_law_book_here","_law_total","_law_counts"] (Jk Jlq):=Jn3 T M7 Gv Gc Gw
 have Tg:Cal l.prog w K mg base "_law_ring_right" 7 ["_law_book_here","_law_ring"] (Jk Je1):=Je6 T M8 Gx Gh Gy Tf Gz G0
 exact J0x T F4 M9 Te Gf Tg
theorem walk {l:J66}{q:Yas}{loose:List Str}{XP:(Str->Option Yan)->Heap->Prop}{YP:Yar->Heap->Prop}{d:DefRec}{K:Params->Qc}(hn:l.most=some 63) (hdf:d.params.defaults=[])
 (hY:∀ (w:Yar) (h:Heap),YP w h->(K w.params).In h)
 (F:∀ (w:Yar) (mg:Str->Option Yan) (fa:Addr) (h:Heap),(K w.params).In h->h.Ns Yay mg->mg d.name=some (.ref fa) ->
  ∃ fd:Yaz,(∀ (s:Yap) (u:Yan),Ybk s fd ⟨[u],[]⟩ [("_law_script",u)])/\∀ base:Heap,(K w.params).In base->base.Ns Yay mg->FnOk l.prog w (K w.params) mg base CX0 14 fa fd ["_law_script"] (Jma (K w.params))) :
 J8v q loose XP YP l.row.toRowW d [] (λ f vs=>J65 f vs):=
 L2.walk_of (n:=63) (k:=14) (x:="_law_script") (CX:=λ _=>CX0) (sp:=λ w=>Jma (K w.params)) hn (by decide) hdf ⟨rfl,by decide,by decide,rfl⟩ hY F (λ _ _ a ns hl _ hS=>⟨a,ns,rfl,hS,hl,λ _=>rfl⟩) λ _ _ _ _ _ z=>z
end My
end
theorem PySem.W.Fast.tw1837654538010163778 : True := trivial
theorem PySem.W.Fast.tw6350401574654643244 : True := trivial
theorem PySem.W.Fast.tw8529637154444420261 : True := trivial
theorem PySem.W.Fast.tw16558288355315948398 : True := trivial
theorem PySem.W.Fast.tw13210370754802057112 : True := trivial
theorem PySem.W.Fast.tw1412118939530052290 : True := trivial
theorem PySem.W.Fast.tw12696577522889586397 : True := trivial
theorem PySem.W.Fast.tw3180263488480573955 : True := trivial
theorem PySem.W.Fast.tw1258382601493651822 : True := trivial
theorem PySem.W.Fast.tw7440579203045765442 : True := trivial
theorem PySem.W.Fast.tw6084069639048581692 : True := trivial
theorem PySem.W.Fast.tw12540449188522026720 : True := trivial
theorem PySem.W.Fast.tw8596700902933470793 : True := trivial
theorem PySem.W.Fast.tw3527511581772701949 : True := trivial
theorem PySem.W.Fast.tw18414876449087974883 : True := trivial
theorem PySem.W.Fast.tw16856131771483001103 : True := trivial
theorem PySem.W.Fast.tw18054073868192847518 : True := trivial
theorem PySem.W.Fast.tw4597340915170661296 : True := trivial
theorem PySem.W.Fast.tw6003098899526773228 : True := trivial
theorem PySem.W.Fast.tw5067483013054050715 : True := trivial
theorem PySem.W.Fast.tw8926340096777779317 : True := trivial
theorem PySem.W.Fast.tw15228962932701092001 : True := trivial
theorem PySem.W.Fast.tw4098261552665110364 : True := trivial
theorem PySem.W.Fast.tw2264614500948145802 : True := trivial
theorem PySem.W.Fast.tw7033652302135791058 : True := trivial
theorem PySem.W.Fast.tw4547995463290585205 : True := trivial
theorem PySem.W.Fast.tw17568261169180738739 : True := trivial
theorem PySem.W.Fast.tw18019762221060950762 : True := trivial
theorem PySem.W.Fast.tw6118533199136930850 : True := trivial
theorem PySem.W.Fast.tw252617183370278355 : True := trivial
theorem PySem.W.Fast.tw13984678399695276976 : True := trivial
theorem PySem.W.Fast.tw3089532233732922947 : True := trivial
theorem PySem.W.Fast.tw16342340135226537678 : True := trivial
open PySem PySem.W PyProof.Rows
set_option maxRecDepth 100000 in
set_option maxHeartbeats 0 in
theorem PySem.Challenge.cw_fallsum_k38_whole_never_both_holds : PySem.Challenge.rw_fallsum_k38_whole_never_both.Holds := by
  w_on; o_law; k_head; (case hw => w_witness2)
  k_fill
  refine My.walk (l := PySem.Challenge.rw_fallsum_k38_whole_never_both) rfl rfl (fun w h Y => PySem.W.kIn_of Y) ?F
  case F =>
    intro w mg fa h KX G hmg
    refine' My.all_mk KX G hmg ⟨PySem.W.mg_none_of KX G ?z_isinstance, PySem.W.mg_none_of KX G ?z_int, PySem.W.mg_none_of KX G ?z_bool, PySem.W.mg_none_of KX G ?z_str, PySem.W.mg_none_of KX G ?z_tuple, PySem.W.mg_none_of KX G ?z_len, PySem.W.mg_none_of KX G ?z_all, PySem.W.mg_none_of KX G ?z_sum, PySem.W.mg_none_of KX G ?z_range, PySem.W.mg_none_of KX G ?z_list, PySem.W.mg_none_of KX G ?z_zip, PySem.W.mg_none_of KX G ?z_enumerate, PySem.W.mg_none_of KX G ?z_min, PySem.W.mg_none_of KX G ?z_max, PySem.W.mg_none_of KX G ?z_abs, PySem.W.mg_none_of KX G ?z_any⟩
      (C_Table := ?C_Table) (⟨⟨?pg_Table, ?hd_Table, ?po_Table, ?sa_Table⟩, ?n0_Table, ?n1_Table, ?n2_Table, ?n3_Table, ?n4_Table, ?n5_Table, ?n6_Table⟩)
      (L2.def_mk KX G ?a_law_tape ?l_law_tape ?c_law_tape ?k_law_tape (fun _ _ _ _ _ _ us hl => match us, hl with | [_], _ => rfl))
      (L2.def_mk KX G ?a_law_draw ?l_law_draw ?c_law_draw ?k_law_draw (fun _ _ _ _ _ _ us hl => match us, hl with | [_, _], _ => rfl))
      (L2.def_mk KX G ?a_law_gain ?l_law_gain ?c_law_gain ?k_law_gain (fun _ _ _ _ _ _ us hl => match us, hl with | [_], _ => rfl))
      (L2.def_mk KX G ?a_law_gains ?l_law_gains ?c_law_gains ?k_law_gains (fun _ _ _ _ _ _ us hl => match us, hl with | [_, _], _ => rfl))
      (L2.def_mk KX G ?a_law_nested ?l_law_nested ?c_law_nested ?k_law_nested (fun _ _ _ _ _ _ us hl => match us, hl with | [_, _, _], _ => rfl))
      (L2.def_mk KX G ?a_law_book ?l_law_book ?c_law_book ?k_law_book (fun _ _ _ _ _ _ us hl => match us, hl with | [_, _], _ => rfl))
      (L2.def_mk KX G ?a_is_whole ?l_is_whole ?c_is_whole ?k_is_whole (fun _ _ _ _ _ _ us hl => match us, hl with | [_], _ => rfl))
      (L2.def_mk KX G ?a_is_between ?l_is_between ?c_is_between ?k_is_between (fun _ _ _ _ _ _ us hl => match us, hl with | [_, _, _], _ => rfl))
      (L2.def_mk KX G ?a_has_way ?l_has_way ?c_has_way ?k_has_way (fun _ _ _ _ _ _ us hl => match us, hl with | [_, _], _ => rfl))
      (L2.def_mk KX G ?a_is_tuple_of ?l_is_tuple_of ?c_is_tuple_of ?k_is_tuple_of (fun _ _ _ _ _ _ us hl => match us, hl with | [_, _], _ => rfl))
      (L2.def_mk KX G ?a_are_numbers ?l_are_numbers ?c_are_numbers ?k_are_numbers (fun _ _ _ _ _ _ us hl => match us, hl with | [_, _], _ => rfl))
      (L2.def_mk KX G ?a_is_balanced ?l_is_balanced ?c_is_balanced ?k_is_balanced (fun _ _ _ _ _ _ us hl => match us, hl with | [_, _], _ => rfl))
      (L2.def_mk KX G ?a_is_round ?l_is_round ?c_is_round ?k_is_round (fun _ _ _ _ _ _ us hl => match us, hl with | [_, _], _ => rfl))
      (L2.def_mk KX G ?a_round_gain ?l_round_gain ?c_round_gain ?k_round_gain (fun _ _ _ _ _ _ us hl => match us, hl with | [_, _], _ => rfl))
      (L2.def_mk KX G ?a_rooms_reached ?l_rooms_reached ?c_rooms_reached ?k_rooms_reached (fun _ _ _ _ _ _ us hl => match us, hl with | [_, _], _ => rfl))
      (L2.def_mk KX G ?a_rings_of ?l_rings_of ?c_rings_of ?k_rings_of (fun _ _ _ _ _ _ us hl => match us, hl with | [_, _], _ => rfl))
      (L2.def_mk KX G ?a_common_divisor ?l_common_divisor ?c_common_divisor ?k_common_divisor (fun _ _ _ _ _ _ us hl => match us, hl with | [_], _ => rfl))
      (L2.def_mk KX G ?a_without_divisor ?l_without_divisor ?c_without_divisor ?k_without_divisor (fun _ _ _ _ _ _ us hl => match us, hl with | [_], _ => rfl))
      (L2.def_mk KX G ?a_first_numbers ?l_first_numbers ?c_first_numbers ?k_first_numbers (fun _ _ _ _ _ _ us hl => match us, hl with | [_, _], _ => rfl))
      (L2.defI2_mk KX G ?aC_Table__init ?mk_Table__init ?kc_Table__init ?a_Table__init ?i_Table__init ?l_Table__init ?c_Table__init ?k_Table__init ?t_Table__init (fun _ _ _ _ _ _ _ _ us hl => match us, hl with | [_, _, _], _ => ⟨_, rfl, rfl⟩) (fun _ _ _ _ _ _ _ _ us hl => match us, hl with | [_, _, _, _], _ => ⟨_, rfl, rfl⟩))
      (L2.defM_mk ?a_Table__without ?i_Table__without ?l_Table__without ?c_Table__without ?k_Table__without (fun _ _ _ _ _ _ us hl => match us, hl with | [_, _, _, _], _ => rfl))
      (L2.defM_mk ?a_Table__exchange ?i_Table__exchange ?l_Table__exchange ?c_Table__exchange ?k_Table__exchange (fun _ _ _ _ _ _ us hl => match us, hl with | [_, _, _], _ => rfl))
      (L2.defM_mk ?a_Table__rises ?i_Table__rises ?l_Table__rises ?c_Table__rises ?k_Table__rises (fun _ _ _ _ _ _ us hl => match us, hl with | [_, _], _ => rfl))
      (L2.defM_mk ?a_Table__place_to_raise ?i_Table__place_to_raise ?l_Table__place_to_raise ?c_Table__place_to_raise ?k_Table__place_to_raise (fun _ _ _ _ _ _ us hl => match us, hl with | [_, _], _ => rfl))
      (L2.defM_mk ?a_Table__comes_first ?i_Table__comes_first ?l_Table__comes_first ?c_Table__comes_first ?k_Table__comes_first (fun _ _ _ _ _ _ us hl => match us, hl with | [_, _, _, _], _ => rfl))
      (L2.defM_mk ?a_Table__row_to_free ?i_Table__row_to_free ?l_Table__row_to_free ?c_Table__row_to_free ?k_Table__row_to_free (fun _ _ _ _ _ _ us hl => match us, hl with | [_, _], _ => rfl))
      (L2.defM_mk ?a_Table__counts_by ?i_Table__counts_by ?l_Table__counts_by ?c_Table__counts_by ?k_Table__counts_by (fun _ _ _ _ _ _ us hl => match us, hl with | [_, _], _ => rfl))
      (L2.defM_mk ?a_Table__find_round ?i_Table__find_round ?l_Table__find_round ?c_Table__find_round ?k_Table__find_round (fun _ _ _ _ _ _ us hl => match us, hl with | [_, _], _ => rfl))
      (L2.defM_mk ?a_Table__shares ?i_Table__shares ?l_Table__shares ?c_Table__shares ?k_Table__shares (fun _ _ _ _ _ _ us hl => match us, hl with | [_, _], _ => rfl))
      (L2.defM_mk ?a_Table__as_sum ?i_Table__as_sum ?l_Table__as_sum ?c_Table__as_sum ?k_Table__as_sum (fun _ _ _ _ _ _ us hl => match us, hl with | [_, _], _ => rfl))
      (L2.defM_mk ?a_Table__read_sum ?i_Table__read_sum ?l_Table__read_sum ?c_Table__read_sum ?k_Table__read_sum (fun _ _ _ _ _ _ us hl => match us, hl with | [_, _], _ => rfl))
      (L2.def_mk KX G ?a_is_ring ?l_is_ring ?c_is_ring ?k_is_ring (fun _ _ _ _ _ _ us hl => match us, hl with | [_, _], _ => rfl))
      (L2.def_mk KX G ?a_ring_table ?l_ring_table ?c_ring_table ?k_ring_table (fun _ _ _ _ _ _ us hl => match us, hl with | [_, _], _ => rfl))
      (L2.def_mk KX G ?a_put_to ?l_put_to ?c_put_to ?k_put_to (fun _ _ _ _ _ _ us hl => match us, hl with | [_, _], _ => rfl))
      (L2.def_mk KX G ?a_sum_or_round ?l_sum_or_round ?c_sum_or_round ?k_sum_or_round (fun _ _ _ _ _ _ us hl => match us, hl with | [_, _, _], _ => rfl))
      (L2.def_mk KX G ?a_greatest ?l_greatest ?c_greatest ?k_greatest (fun _ _ _ _ _ _ us hl => match us, hl with | [_, _], _ => rfl))
      (L2.def_mk KX G ?a_weighed ?l_weighed ?c_weighed ?k_weighed (fun _ _ _ _ _ _ us hl => match us, hl with | [_, _], _ => rfl))
      (L2.def_mk KX G ?a_fall ?l_fall ?c_fall ?k_fall (fun _ _ _ _ _ _ us hl => match us, hl with | [_, _, _], _ => rfl))
      (L2.def_mk KX G ?a_is_kept ?l_is_kept ?c_is_kept ?k_is_kept (fun _ _ _ _ _ _ us hl => match us, hl with | [_, _, _], _ => rfl))
      (L2.def_mk KX G ?a_falling ?l_falling ?c_falling ?k_falling (fun _ _ _ _ _ _ us hl => match us, hl with | [_, _, _], _ => rfl))
      (L2.def_mk KX G ?a_together ?l_together ?c_together ?k_together (fun _ _ _ _ _ _ us hl => match us, hl with | [_, _], _ => rfl))
      (L2.def_mk KX G ?a_law_meet ?l_law_meet ?c_law_meet ?k_law_meet (fun _ _ _ _ _ _ us hl => match us, hl with | [_, _, _], _ => rfl))
      (L2.def_mk KX G ?a_law_ring_right ?l_law_ring_right ?c_law_ring_right ?k_law_ring_right (fun _ _ _ _ _ _ us hl => match us, hl with | [_, _], _ => rfl))
      ?a4 ?l4 ?c4 ?k4
    (case aC_Table__init => k_is)
    (case z_isinstance => k_is)
    (case z_int => k_is)
    (case z_bool => k_is)
    (case z_str => k_is)
    (case z_tuple => k_is)
    (case z_len => k_is)
    (case z_all => k_is)
    (case z_sum => k_is)
    (case z_range => k_is)
    (case z_list => k_is)
    (case z_zip => k_is)
    (case z_enumerate => k_is)
    (case z_min => k_is)
    (case z_max => k_is)
    (case z_abs => k_is)
    (case z_any => k_is)
    (case a_law_tape => k_is)
    (case l_law_tape => k_is)
    (case c_law_tape => k_is)
    (case k_law_tape => k_is)
    (case a_law_draw => k_is)
    (case l_law_draw => k_is)
    (case c_law_draw => k_is)
    (case k_law_draw => k_is)
    (case a_law_gain => k_is)
    (case l_law_gain => k_is)
    (case c_law_gain => k_is)
    (case k_law_gain => k_is)
    (case a_law_gains => k_is)
    (case l_law_gains => k_is)
    (case c_law_gains => k_is)
    (case k_law_gains => k_is)
    (case a_law_nested => k_is)
    (case l_law_nested => k_is)
    (case c_law_nested => k_is)
    (case k_law_nested => k_is)
    (case a_law_book => k_is)
    (case l_law_book => k_is)
    (case c_law_book => k_is)
    (case k_law_book => k_is)
    (case a_is_whole => k_is)
    (case l_is_whole => k_is)
    (case c_is_whole => k_is)
    (case k_is_whole => k_is)
    (case a_is_between => k_is)
    (case l_is_between => k_is)
    (case c_is_between => k_is)
    (case k_is_between => k_is)
    (case a_has_way => k_is)
    (case l_has_way => k_is)
    (case c_has_way => k_is)
    (case k_has_way => k_is)
    (case a_is_tuple_of => k_is)
    (case l_is_tuple_of => k_is)
    (case c_is_tuple_of => k_is)
    (case k_is_tuple_of => k_is)
    (case a_are_numbers => k_is)
    (case l_are_numbers => k_is)
    (case c_are_numbers => k_is)
    (case k_are_numbers => k_is)
    (case a_is_balanced => k_is)
    (case l_is_balanced => k_is)
    (case c_is_balanced => k_is)
    (case k_is_balanced => k_is)
    (case a_is_round => k_is)
    (case l_is_round => k_is)
    (case c_is_round => k_is)
    (case k_is_round => k_is)
    (case a_round_gain => k_is)
    (case l_round_gain => k_is)
    (case c_round_gain => k_is)
    (case k_round_gain => k_is)
    (case a_rooms_reached => k_is)
    (case l_rooms_reached => k_is)
    (case c_rooms_reached => k_is)
    (case k_rooms_reached => k_is)
    (case a_rings_of => k_is)
    (case l_rings_of => k_is)
    (case c_rings_of => k_is)
    (case k_rings_of => k_is)
    (case a_common_divisor => k_is)
    (case l_common_divisor => k_is)
    (case c_common_divisor => k_is)
    (case k_common_divisor => k_is)
    (case a_without_divisor => k_is)
    (case l_without_divisor => k_is)
    (case c_without_divisor => k_is)
    (case k_without_divisor => k_is)
    (case a_first_numbers => k_is)
    (case l_first_numbers => k_is)
    (case c_first_numbers => k_is)
    (case k_first_numbers => k_is)
    (case mk_Table__init => k_is)
    (case kc_Table__init => k_is)
    (case a_Table__init => k_is)
    (case i_Table__init => k_is)
    (case l_Table__init => k_is)
    (case c_Table__init => k_is)
    (case k_Table__init => k_is)
    (case t_Table__init => k_is)
    (case a_Table__without => k_is)
    (case i_Table__without => k_is)
    (case l_Table__without => k_is)
    (case c_Table__without => k_is)
    (case k_Table__without => k_is)
    (case a_Table__exchange => k_is)
    (case i_Table__exchange => k_is)
    (case l_Table__exchange => k_is)
    (case c_Table__exchange => k_is)
    (case k_Table__exchange => k_is)
    (case a_Table__rises => k_is)
    (case i_Table__rises => k_is)
    (case l_Table__rises => k_is)
    (case c_Table__rises => k_is)
    (case k_Table__rises => k_is)
    (case a_Table__place_to_raise => k_is)
    (case i_Table__place_to_raise => k_is)
    (case l_Table__place_to_raise => k_is)
    (case c_Table__place_to_raise => k_is)
    (case k_Table__place_to_raise => k_is)
    (case a_Table__comes_first => k_is)
    (case i_Table__comes_first => k_is)
    (case l_Table__comes_first => k_is)
    (case c_Table__comes_first => k_is)
    (case k_Table__comes_first => k_is)
    (case a_Table__row_to_free => k_is)
    (case i_Table__row_to_free => k_is)
    (case l_Table__row_to_free => k_is)
    (case c_Table__row_to_free => k_is)
    (case k_Table__row_to_free => k_is)
    (case a_Table__counts_by => k_is)
    (case i_Table__counts_by => k_is)
    (case l_Table__counts_by => k_is)
    (case c_Table__counts_by => k_is)
    (case k_Table__counts_by => k_is)
    (case a_Table__find_round => k_is)
    (case i_Table__find_round => k_is)
    (case l_Table__find_round => k_is)
    (case c_Table__find_round => k_is)
    (case k_Table__find_round => k_is)
    (case a_Table__shares => k_is)
    (case i_Table__shares => k_is)
    (case l_Table__shares => k_is)
    (case c_Table__shares => k_is)
    (case k_Table__shares => k_is)
    (case a_Table__as_sum => k_is)
    (case i_Table__as_sum => k_is)
    (case l_Table__as_sum => k_is)
    (case c_Table__as_sum => k_is)
    (case k_Table__as_sum => k_is)
    (case a_Table__read_sum => k_is)
    (case i_Table__read_sum => k_is)
    (case l_Table__read_sum => k_is)
    (case c_Table__read_sum => k_is)
    (case k_Table__read_sum => k_is)
    (case a_is_ring => k_is)
    (case l_is_ring => k_is)
    (case c_is_ring => k_is)
    (case k_is_ring => k_is)
    (case a_ring_table => k_is)
    (case l_ring_table => k_is)
    (case c_ring_table => k_is)
    (case k_ring_table => k_is)
    (case a_put_to => k_is)
    (case l_put_to => k_is)
    (case c_put_to => k_is)
    (case k_put_to => k_is)
    (case a_sum_or_round => k_is)
    (case l_sum_or_round => k_is)
    (case c_sum_or_round => k_is)
    (case k_sum_or_round => k_is)
    (case a_greatest => k_is)
    (case l_greatest => k_is)
    (case c_greatest => k_is)
    (case k_greatest => k_is)
    (case a_weighed => k_is)
    (case l_weighed => k_is)
    (case c_weighed => k_is)
    (case k_weighed => k_is)
    (case a_fall => k_is)
    (case l_fall => k_is)
    (case c_fall => k_is)
    (case k_fall => k_is)
    (case a_is_kept => k_is)
    (case l_is_kept => k_is)
    (case c_is_kept => k_is)
    (case k_is_kept => k_is)
    (case a_falling => k_is)
    (case l_falling => k_is)
    (case c_falling => k_is)
    (case k_falling => k_is)
    (case a_together => k_is)
    (case l_together => k_is)
    (case c_together => k_is)
    (case k_together => k_is)
    (case a_law_meet => k_is)
    (case l_law_meet => k_is)
    (case c_law_meet => k_is)
    (case k_law_meet => k_is)
    (case a_law_ring_right => k_is)
    (case l_law_ring_right => k_is)
    (case c_law_ring_right => k_is)
    (case k_law_ring_right => k_is)
    (case a4 => k_is)
    (case l4 => k_is)
    (case c4 => k_is)
    (case k4 => k_is)
    (case pg_Table => k_is)
    (case hd_Table => k_is)
    (case po_Table => k_is)
    (case sa_Table => k_is)
    (case n0_Table => (unfold L2.NoAttr; k_is))
    (case n1_Table => (unfold L2.NoAttr; k_is))
    (case n2_Table => (unfold L2.NoAttr; k_is))
    (case n3_Table => (unfold L2.NoAttr; k_is))
    (case n4_Table => (unfold L2.NoAttr; k_is))
    (case n5_Table => (unfold L2.NoAttr; k_is))
    (case n6_Table => (unfold L2.NoAttr; k_is))
