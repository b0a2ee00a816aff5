import PyProof.Rows.All
import Wide.All
import OpenK.AllK
import Wide.FinOn
import Lean
import PyProof.EqAt
import PyProof.EqKinds
import PyProof.TupleCall
import KE.KTryMore
import OpenK.KOwn
import PyProof.Rows.CatchOwn
import PySem.Challenge.RW_fallsum_k25_whole_rounds_part_by_part
set_option Elab.async false
set_option linter.all false
set_option maxRecDepth 100000
section
open Or renaming inl->Qa,inr->Qt
open List renaming length_map->Qb,mem_cons_self->Qd,range->Qf,mem_cons->Qg,mem_cons_of_mem->Qh,mem_map->Ql,mem_singleton->Qm,map_cons->Qq,getElem?_eq_some_iff->Qr,getElem?_map->Qs,map_append->Qu,length_append->Qw,getElem?_eq_getElem->Qx,replicate->Qy,mem_append->Qz,map_map->Q0,size_toArray->Q1,getElem?_set_ne->Q2,getD_eq_getElem?_getD->Q3,getElem?_set_self->Q4,mem_filter->Q6,mem_append_right->Q8,mem_of_getElem?->Xa,length_set->Xh,length_range->Xi,mem_range->Xj,nodup_cons->Xm,length_singleton->Xq,getElem?_eq_none->Xt,mem_append_left->Xu,length_cons->Xv,map_congr_left->Xy,sum_cons->Xz,append_nil->X5,all_eq_true->Ub,not_mem_nil->Uc,sum_append->Ud,map_nil->Uf,getElem_mem->Uh,getElem?_range->Uk,length_replicate->Uq,any_cons->Ur,replicate_succ->Us,range_succ->Uv,mem_iff_getElem->Uz,ext_getElem?->U1,length_take->U6,length_drop->U7,length->J5i,flatten_cons->J5k,length_nil->J5l,map_singleton->J5p,take_length->J5u,getElem?_append_right->J5w,getElem?_append_left->J5x,append_assoc->J5z,nil_append->J50,take_of_length_le->J51,lookup_cons->J53,cons_append->J55,map_drop->J56,any_eq_true->J58,map_set->J6a,getElem?_replicate->J6f,all_cons->J6g,foldl->J6h,foldl_cons->J6i,nodup_append->J6o,map_eq_nil_iff->J6q,forIn_cons->J6z,map_take->J61,forIn_nil->J64,length_pos_iff->J65,find?_eq_none->J66,sum_singleton->J67,countP_cons->J68,filter_congr->J69,take_append_drop->J7b,of_mem_zip->J7j,filter_append->J7v,take_succ_eq_append_getElem->J7w,find?_cons_of_neg->J7y,ext_getElem->J7z,getElem_range->J70,length_eq_zero_iff->J72,drop_eq_getElem_cons->J73,drop_length->J74,mem_replicate->J75,foldl_append->J8a,idxOf_lt_length_of_mem->J8c,filterMap_cons->J8f,mem_filterMap->J8h,any_eq_false->J8k,length_filter_le->J9a,pairwise_map->J9d,getElem_map->J9e,all_map->J9f,getElem?_zipWith->J9i,take_add_one->J9n,find?_cons_of_pos->J9o,nodup_nil->J9s,eraseIdx->J9t,getElem?_drop->Yat,getLastD_eq_getLast?->Ya5,getLast?_eq_some_getLast->Ya6,drop_of_length_le->Ya9,nodup_iff_pairwise_ne->Ybb,getElem?_mapIdx->Ybe,length_zipWith->Ybf,getLast?_map->Ybg,filter_cons_of_pos->Ybh,filter_cons_of_neg->Ybi,find?_some->Ybm,idxOf_append->Ybn,idxOf_cons->Ybo,countP_append->Ybp,countP_le_length->Ybq,countP_eq_zero->Ybr,countP_pos_iff->Ybs,take_zero->Ybw
open PySem.W renaming Frag->Qc,kia_one->Up,fnOf->Ux,keepIn->J5v,exmOne->J6n,codeIn->J6v,nsIn->J62,mg_of->J63,instObj->J8d,methodObj->J8e,lookIn->J8j,kitOne->J8l,OpenLaw->J81,excIn->J9c,hideAll->J90,hideAll_get->J91,of_hideAll->J92,plainGet->J97,findIn->J98,kitx_list->J99,kitx_dict->Yaa,callWith_K->Yab,cellsFrom_some->Yac,WalkO->Yar
open Sum renaming inl->Qi,inr->Qv
open Ne renaming symm->Qj
open PySem.Heap renaming get?_push_of_some->Qk,lt_size->Qp,get?_push_size->Q5,SameBut->Xl,size_push->Xr,get?_update_self->J8t,FlyingW->J9b,get?_update_other->Yaf
open Nat renaming le_refl->Qn,zero_le->Q9,lt_irrefl->Xe,ne_of_lt->Xf,le_trans->Xk,lt_of_lt_of_le->Xn,le_of_ble_eq_true->X6,le_add_right->Ut,lt_or_ge->U8,ne_of_gt->U9,le_of_not_lt->J6k,lt_succ_of_lt->J6l,min_le_right->J6w,lt_of_le_of_lt->J6y,le_of_lt->J7f,le_of_eq->J7o,not_lt_zero->J7x,le_succ_of_le->J8b,le_succ->J8u,log2_lt->J82,le_of_succ_le->J9h,min_eq_left->Ya7,min_eq_right->Ya8,lt_succ_self->Ybd
open PySem.PyData renaming int->Qo,canLayAll0->Xx,list->X7,eqv->Ua,canLay0->Uj,depthAll->Um,depth->J5s,tuple->J57
open Bool renaming false_ne_true->Q7,and_eq_true->Xg,eq_iff_iff->X0,true_and->J5q,false_eq_true->J6x,or_false->J79,true_or->J8w,false_or->J8x,noConfusion->J88,or_eq_true->J9g,and_true->J9r,false_and->J96,or_true->Ybc
open Int renaming toNat_natCast->Xb,natCast_nonneg->Xo,toNat_of_nonneg->Xw,le_refl->Uo,mul_nonneg->Uw,one_mul->U0,zero_mul->U2,sub_mul->J5r,add_mul->J59,le_trans->J6j,lt_or_le->J6p,mul_zero->J7a,emod_nonneg->J7c,emod_lt_of_pos->J7d,mul_le_mul_of_nonneg_right->J7p,mul_comm->J7q,add_zero->J71,natCast_add->J77,mul_le_mul_of_nonneg_left->J78,mul_one->J8g,natCast_mul->J84,min_eq_left->J9j,mul_neg->J9k,min_eq_right->J9l,zero_add->J9m,mul_add->J9p,mul_assoc->J9q,eq_ofNat_of_zero_le->Yam,natAbs_of_nonneg->Yau,sub_eq_add_neg->Ybt
open PySem.Value renaming ref->Xc,none->U5,int->J6b,str->J6r,bool->J6t,type->J6u,isInt->J9u,isStrOf->J9v,float->J9y
open Option.some renaming inj->Xd
open PySem.PassesOwn renaming never->Xp
open PySem renaming mem_of_lookup->Xs,boot_len->J5t,call->J80,Within->J9z,seqSlot_of->Yaw,PyData->Yce,Value->Ycf,Shared->Ycg,wpAny->Ych,World->Yci,Program->Ycj,Around->Yck,sizeLine_eq->Ycl,Scope->Ycm,IsZip->Ycn,IsPair->Yco,NameKind->Ycp,mainGlobals->Ycq,holding->Ycs,codeAny->Yct,FuncData->Ycu,cLine->Ycv,Draws->Ycw,sysModules->Ycx,IsPart->Ycz,swapsWith->Yc0,wpAny_callSpecial?_slot->Yc1,behindInMarks->Yc2,standAt->Yc3,wpAny_passesOwn->Yc4,Result->Yc5,Keyword->Yc6,callerA->Yc7,closureFor->Yc8,wpAny_ite_false->Yc9,builtinsNs->Yda,bootBuiltins->Ydb,wpAny_execs_nil->Ydc,foldedSetIterable->Ydd,IntMulOk->Yde,BindsTo->Ydf,seqIndex?->Ydh,Operator->Ydi,wpAny_Call_Name_kw->Ydj,compPost->Ydk,wpAny_assign_Name->Ydl,call_meetsIn->Ydm,wpAny_pyIter_zip->Ydn,wpAny_execs_cons->Ydo,concat_meets->Ydp,noFill_tuple_add->Ydq,seq_tuple_add->Ydr,evalPart_none->Yds,seqIndex_neg->Ydt,attributeBase->Ydu,exec_Assign_Name_used->Ydv,comprehension->Ydw,nums_intItems->Ydx,callType_new->Ydy,wpAny_isTrue_Compare1->Yd0,wpAny_binaryOp_repeat_ref->Yd2,codeAny_compStart_list->Yd3,wpAny_letOwnedTupleGo_zip->Yd4
open False renaming elim->X8
open True renaming intro->X9
open PySem.F renaming plainAttrs_list->Ue,slot_list_append->U3,type_list_append->U4,slot_zip_next->J5o,slot_tuple_mul->J60,slot_tuple_iterator_next->J7r,entry_zip_next->J7t,args_zip_next_1->J7u,slot_tuple_add->J8n,entry_tuple_add->J8o,args_tuple_add_2->J8p,slot_dict_get->J8y,plainAttrs_dict->J8z,entry_tuple_mul->J85,args_tuple_mul_2->J86,slot_int_rmul->Yah,entry_dict_get->Yap,args_dict_get_3->Yaq,slot_tuple_rmul->Yav,slot_int_rmul->Yay,entry_tuple_iterator_next->Ya2,args_tuple_iterator_next_1->Ya3,entry_zip_new->Ya4,excBase_ValueError->Yba,slot_dict_setdefault->Ybj,slot_dict_values->Ybk,slot_list_pop->Ybu,type_list_pop->Ybv
open PySem.NameKind renaming free->Ug,cell->Uy
open PySem.Builtin.SmallTypes renaming nextOf->Ui,ownedTupleIsFree->J5n,ownedTupleHandOut->J7s
open Option renaming some_ne_none->Ul,map_eq_some_iff->Uu,isSome_iff_exists->J8m,isSome_map->Yao,none->Yas
open PySem.Data renaming cell->J5h,seq->J52,fields->J7h
open PySem.Str renaming ofString->J5j
open ForInStep renaming yield->J5m
open PySem.Obj renaming mapSeq->J5y,data_mapFields->Ya1
open PySem.AutoSeq1 renaming wpAny_loadPart'->J54,idx_int->J83
open PyProof.Rows renaming callWith_type1->J6c,slot_tuple_getitem->J8r,boot_tuple->Ycr,AllBare->Ycy,IntsAre->Ydg,boot_isinstance->Ydz,subscriptTail_builtinR->Yd1
open PySem.Builtin renaming bitXor->J6d,bitAnd->Yaz,bitOr->Ya0
open PySem.Calls renaming spliced_cons->J6e,spliced_nil->J7i,callWith_builtin->J7m,evalArgs_plain->J7n,Name_function_global->J93
open PySem.Shared renaming heap->J6m
open Sum.inl renaming inj->J6s
open PySem.Paired renaming length->J7e,snoc->Yan
open Array renaming length_toList->J7g,toList->J95,getElem?_toList->Yag
open PySem.Builtin.Slice renaming slicePlaces->J7k,sliceAdjust->J8q,sliceApplied->Yad,slicePartIndex->Yb6,sliceFields->Yb7
open PySem.Builtin.Tuple renaming tupleExact->J7l,tupleTooMany->Yax,tupleItemsOf->Yb8
open PySem.Builtin.Int renaming intBits->J76
open PySem.P renaming truthy_int->J8i
open PyProof.Rows.IsTup renaming new->J8s
open PySem.Builtin.List renaming listTooLong->J8v,listSameRef->Yaj,listSubscript?->Yak,listAllItems->Yal
open PySem.Spec renaming bitAnd->J87
open PySem.Heap.SameBut renaming update->J89
open PySem.SeqAt.EqAt renaming int_str->J9w,str_int->J9x
open PySem.CmpOp renaming NotIn->J94
open PySem.Heap.IsSliceOf renaming new->Yae
open PySem.IsL renaming isList->Yai
open Nat.succ renaming inj->Ybl
open PySem.Builtin.Range renaming rangeSize->Ybx
open PySem.EqMixed renaming eq_bool_str->Yby,eq_int_str->Ybz,eq_str_bool->Yb0,eq_str_int->Yb1,ne_bool_str->Yb2,ne_int_str->Yb3,ne_str_bool->Yb4,ne_str_int->Yb5
open List.Pairwise renaming nil->Yb9,filter->Ycb,imp_of_mem->Ycc
open PySem.Heap.UpToSlots renaming of_keeps->Yca
open PySem.Challenge renaming pw_fallsum_k25_whole_rounds_part_by_part->Ycd
open PySem PySem.Spec PyProof.Rows
namespace L2
abbrev Key:=Sum Int Str
noncomputable def Jf7:Key->Ycf->Bool
 | .inl k,v=>J9u k v
 | .inr x,v=>J9v x v
noncomputable def J4i (w:Yci):Key->Int
 | .inl k=>hashInt k
 | .inr x=>hashStr w x
theorem Za:∀ {k:Key}{v:Ycf},Jf7 k v=true->(∃ i t,k=Qi i/\v=J6b i t)\/(∃ x t,k=Qv x/\v=J6r x t)
 | .inl i,v,h=>by
  obtain ⟨t,e⟩:=Value.isInt_shape (k:=i) (v:=v) h
  exact .inl ⟨i,t,rfl,e⟩
 | .inr x,v,h=>by
  obtain ⟨t,e⟩:=Value.isStrOf_shape (x:=x) (v:=v) h
  exact .inr ⟨x,t,rfl,e⟩
theorem Jq8 (i:Int) (t:Tok):Jf7 (.inl i) (.int i t)=true:=by simp [Jf7,J9u]
theorem Jq9 (x:Str) (t:Tok):Jf7 (.inr x) (.str x t)=true:=by simp [Jf7,J9v]
theorem J0b (a b:Int):decide ((Qi a:Key)=Qi b)=(a==b):=by
 by_cases e:a=b
 . subst e;simp
 . have h:¬ (Qi a:Key)=Qi b:=λ q=>e (J6s q)
   rw [decide_eq_false h]
   exact (beq_eq_false_iff_ne.mpr e).symm
theorem J0c (a b:Str):decide ((Qv a:Key)=Qv b)=decide (a=b):=by
 by_cases e:a=b
 . subst e;simp
 . have h:¬ (Qv a:Key)=Qv b:=λ q=>e (Qv.inj q)
   rw [decide_eq_false h,decide_eq_false e]
theorem J0d (a:Int) (b:Str):decide ((Qi a:Key)=Qv b)=false:=decide_eq_false (λ q=>nomatch q)
theorem J0e (a:Str) (b:Int):decide ((Qv a:Key)=Qi b)=false:=decide_eq_false (λ q=>nomatch q)
noncomputable def Yp (prog:Ycj) (w:Yci):PySem.KeyKind prog w Key where
 is:=Jf7
 hash:=J4i w
 inj:=λ v a b ha hb=>by
  rcases Za ha with ⟨i,t,rfl,rfl⟩ | ⟨x,t,rfl,rfl⟩
  . rcases Za hb with ⟨j,u,rfl,e⟩ | ⟨y,u,rfl,e⟩
    . injection e with e1 _;rw [e1]
    . exact nomatch e
  . rcases Za hb with ⟨j,u,rfl,e⟩ | ⟨y,u,rfl,e⟩
    . exact nomatch e
    . injection e with e1 _;rw [e1]
 byValue:=λ k v h=>by
  rcases Za h with ⟨i,t,rfl,rfl⟩ | ⟨x,t,rfl,rfl⟩<;>rfl
 pyHash:=λ hv h=>by
  rcases Za hv with ⟨i,t,rfl,rfl⟩ | ⟨x,t,rfl,rfl⟩
  . exact wpAny_pyHash_int h
  . exact wpAny_pyHash_str h
 eqBool:=λ hu hv h=>by
  rcases Za hu with ⟨i,t,rfl,rfl⟩ | ⟨x,t,rfl,rfl⟩
  . rcases Za hv with ⟨j,u,rfl,rfl⟩ | ⟨y,u,rfl,rfl⟩
    . rw [J0b] at h;exact wpAny_eqBool_int h
    . rw [J0d] at h;exact J9w i t y u _ _ _ _ h
  . rcases Za hv with ⟨j,u,rfl,rfl⟩ | ⟨y,u,rfl,rfl⟩
    . rw [J0e] at h;exact J9x x t j u _ _ _ _ h
    . rw [J0c] at h;exact wpAny_eqBool_str h
 «strs»:=λ k x t v h=>by
  rcases Za h with ⟨i,u,rfl,e⟩ | ⟨y,u,rfl,e⟩
  . exact nomatch e
  . injection e with e1 _
    subst e1
    cases v<;>rfl
theorem Jl3 (prog:Ycj) (w:Yci) (i:Int) (t:Tok):(Yp prog w).is (.inl i) (.int i t)=true:=Jq8 i t
theorem Jl4 (prog:Ycj) (w:Yci) (x:Str) (t:Tok):(Yp prog w).is (.inr x) (.str x t)=true:=Jq9 x t
inductive V where
 | non | bl (b:Bool) | int (i:Int) | str (x:Str) | byt (b:Array UInt8) | flt (b:UInt64) | ref (a:Addr) | ty (n:String)
 deriving DecidableEq
def Yc:V->Ycf->Prop
 | .non,u=>u=U5
 | .bl b,u=>u=J6t b
 | .int i,u=>∃ t,u=J6b i t
 | .str x,u=>∃ t,u=J6r x t
 | .byt b,u=>∃ t,u=Value.bytes b t
 | .flt b,u=>∃ t,u=J9y b t
 | .ref a,u=>u=Xc a
 | .ty n,u=>u=J6u n
abbrev J9:List V->List Ycf->Prop:=Paired Yc
theorem J9.length {xs:List V}{us:List Ycf}(r:J9 xs us):xs.length=us.length:=J7e r
theorem J9.get:∀ {xs:List V}{us:List Ycf}{i:Nat}{x:V},J9 xs us->xs[i]? = some x->∃ u,us[i]? = some u/\Yc x u
 | _,_,_,_,.nil,e=>by simp at e
 | _,_,0,_,.cons r _,e=>by simp at e;subst e;exact ⟨_,rfl,r⟩
 | _,_,i+1,x,.cons _ t,e=>by
  obtain ⟨u,h1,h2⟩:=J9.get (i:=i) (x:=x) t (by simpa using e)
  exact ⟨u,by simpa using h1,h2⟩
theorem J9.set {x:V}{u:Ycf}(r:Yc x u):∀ {xs:List V}{us:List Ycf}(i:Nat),J9 xs us->J9 (xs.set i x) (us.set i u)
 | _,_,_,.nil=>.nil
 | _,_,0,.cons _ t=>.cons r t
 | _,_,i+1,.cons q t=>.cons q (J9.set r i t)
theorem J9.append:∀ {xs ys:List V}{us ws:List Ycf},J9 xs us->J9 ys ws->J9 (xs++ys) (us++ws)
 | _,_,_,_,.nil,s=>s
 | _,_,_,_,.cons r t,s=>.cons r (J9.append t s)
theorem J9.take:∀ {xs:List V}{us:List Ycf}(n:Nat),J9 xs us->J9 (xs.take n) (us.take n)
 | _,_,0,_=>.nil
 | _,_,_+1,.nil=>.nil
 | _,_,n+1,.cons r t=>.cons r (J9.take n t)
theorem J9.drop:∀ {xs:List V}{us:List Ycf}(n:Nat),J9 xs us->J9 (xs.drop n) (us.drop n)
 | _,_,0,r=>r
 | _,_,_+1,.nil=>.nil
 | _,_,n+1,.cons _ t=>J9.drop n t
def Jbf:Option V->Option Ycf->Prop
 | some v,some u=>Yc v u
 | none,none=>True
 | _,_=>False
def KV {κ:Type}:List (κ×V)->List (κ×Ycf)->Prop:=Paired λ (p:κ×V) (q:κ×Ycf)=>p.1=q.1/\Yc p.2 q.2
noncomputable def kV:Key->V
 | .inl i=>.int i
 | .inr x=>.str x
inductive HO where
 /-- a list -/
 | lst (xs:List V)
 /-- a tuple (never changes) -/
 | tup (xs:List V)
 /-- a dict whose keys are ints and texts;one whose keys are tuples of ints and texts (the empty one is both) -/
 | dK (kvs:List (Key×V)) | dT (kvs:List (List Key×V))
 /-- a set of ints: its members,its size -/
 | set (S:Int->Bool) (n:Nat)
 /-- an instance of the class at C,its dict at dx,its attributes -/
 | ins (C dx:Addr) (fs:List (Str×V))
 /-- the dict of the instance at x -/
 | own (x:Addr)
 /-- the dict of an exception -/
 | xd (fs:List (Str×V))
 /-- a bound method,f of x -/
 | met (f x:Addr)
 /-- a range object lo,lo+1,.. below hi -/
 | rng (lo hi:Int)
 /-- a thing that is known to the object (the script;a dict while a loop walks it): read,never written while it is so -/
 | frz (o:Obj) (u:HO)
 /-- a code object's table -/
 | tbl (ps:Array Ycf)
 /-- any other thing,by what is true of its one object (a def of one's own: SetO a S n:=HO.ext λ h=>..) -/
 | ext (φ:Heap->Prop)
abbrev Hp:=Addr->Option HO
noncomputable def upd (H:Hp) (a:Addr) (o:HO):Hp:=λ b=>if b=a then some o else H b
theorem Jh {H:Hp}{a:Addr}{o:HO}:upd H a o a=some o:=by unfold upd;rw [if_pos rfl]
theorem Ji {H:Hp}{a b:Addr}{o:HO}(h:b≠a):upd H a o b=H b:=by unfold upd;rw [if_neg h]
theorem Jy7 {H:Hp}{a b:Addr}{o u:HO}(h:H a=some o) (h':H b=some u) (d:o≠u):a≠b:=by
 intro e;subst e;rw [h] at h';exact d (Xd h')
theorem Jk {H:Hp}{a b:Addr}{o:HO}(h:H a=some o) (h':H b=none):a≠b:=by
 intro e;subst e;rw [h] at h';cases h'
section
variable (P:Ycj) (w:Yci)
def Y1 (H:Hp) (h:Heap) (a:Addr):HO->Prop
 | .lst xs=>xs.length<=sizeLine/\∃ (its:List Ycf) (n:Nat),J9 xs its/\h.get? a=some { cls:=.type "list",data:=.seq its.toArray n }
 | .tup xs=>xs.length<=sizeLine/\∃ its:List Ycf,J9 xs its/\IsTup h a its.toArray
 | .dK kvs=>kvs.length<=sizeLine/\(a==Ycx)=false/\∃ vs,KV kvs vs/\h.DictOf (Yp P w) a vs
 | .dT kvs=>kvs.length<=sizeLine/\(a==Ycx)=false/\∃ xs:List (List Key×Addr×Ycf),
  Paired (λ (p:List Key×V) (q:List Key×Addr×Ycf)=>p.1=q.1/\H q.2.1=some (.tup (p.1.map kV))/\Yc p.2 q.2.2) kvs xs /\
  ∃ o es ep,h.get? a=some o/\o.ExactDict/\o.data = .dict es ep/\es.toList=xs.map (entryOfKey (tupleKind (Yp P w)))/\(xs.map (·.1)).Nodup
 | .set S n=>h.SetOf (intKind P w) a S n
 | .ins C dx fs=>H dx=some (.own a)/\fs.length<=1000/\dx≠a/\h.get? a=some (J8d C dx) /\
  ∃ mA,h.Ns1 dx mA/\(∀ f,Jbf (fs.lookup f) (mA f))/\J9z mA (fs.map (·.1))
 | .own _=>∃ o,h.get? a=some o
 | .xd fs=>∃ mA,h.Ns1 a mA/\∀ f,Jbf (fs.lookup f) (mA f)
 | .rng lo hi=>∃ t u v,h.get? a=some { cls:=.type "range",data:=.fields #[.int lo t,.int hi u,.int 1 v] }
 | .frz o u=>h.get? a=some o/\Y1 H h a u
 | .tbl ps=>h.get? a=some { cls:=.none,data:=.fields ps }
 | .met f x=>h.get? a=some (J8e (.ref f) (.ref x))
 | .ext φ=>φ h/\(∃ o,h.get? a=some o)/\∀ h1 h2:Heap,φ h1->(∀ o,h1.get? a=some o->h2.get? a=some o)->φ h2
def HOk (H:Hp) (h:Heap):Prop:=∀ a o,H a=some o->Y1 P w H h a o
end
section
variable {P:Ycj}{w:Yci}{H H':Hp}{h h':Heap}{a:Addr}{o:HO}
theorem Y1.lt (x:Y1 P w H h a o):a<h.objs.size:=by
 cases o with
 | lst xs=>obtain ⟨_,_,_,_,e⟩:=x;exact Qp e
 | tup xs=>obtain ⟨_,_,_,p⟩:=x;exact p.lt
 | dK kvs=>obtain ⟨_,_,_,_,o,_,_,e,_⟩:=x;exact Qp e
 | dT kvs=>obtain ⟨_,_,_,_,o,_,_,e,_⟩:=x;exact Qp e
 | set S n=>obtain ⟨o,_,_,_,e,_⟩:=x;exact Qp e
 | ins C dx fs=>obtain ⟨_,_,_,e,_⟩:=x;exact Qp e
 | own y=>obtain ⟨_,e⟩:=x;exact Qp e
 | xd fs=>obtain ⟨_,⟨_,_,_,e,_⟩,_⟩:=x;exact Qp e
 | rng lo hi=>obtain ⟨_,_,_,e⟩:=x;exact Qp e
 | frz ob u=>obtain ⟨e,_⟩:=x;exact Qp e
 | tbl ps=>exact Qp (show h.get? a=some _ from x)
 | met f y=>exact Qp (show h.get? a=some _ from x)
 | ext φ=>obtain ⟨_,⟨_,e⟩,_⟩:=x;exact Qp e
theorem Paired.mapP {α β:Type}{F G:α->β->Prop}:∀ {l₁:List α}{l₂:List β},Paired F l₁ l₂->(∀ a b,F a b->G a b)->Paired G l₁ l₂
 | _,_,.nil,_=>.nil
 | _,_,.cons r t,f=>.cons (f _ _ r) (Paired.mapP t f)
theorem Y1.stay (x:Y1 P w H h a o) (k:∀ b u,(b=a\/H b=some (.own a))->h.get? b=some u->h'.get? b=some u)
 (ho:∀ b,H b=some (.own a)->H' b=some (.own a)) (ht:∀ b xs,H b=some (.tup xs)->H' b=some (.tup xs)):Y1 P w H' h' a o:=by
 induction o with
 | lst xs=>obtain ⟨z,its,n,r,e⟩:=x;exact ⟨z,its,n,r,k _ _ (.inl rfl) e⟩
 | tup xs=>obtain ⟨z,its,r,ob,e,c⟩:=x;exact ⟨z,its,r,ob,k _ _ (.inl rfl) e,c⟩
 | dK kvs=>obtain ⟨z,y,vs,r,ob,es,ep,e,c⟩:=x;exact ⟨z,y,vs,r,ob,es,ep,k _ _ (.inl rfl) e,c⟩
 | dT kvs=>
  obtain ⟨z,y,xs,r,ob,es,ep,e,c⟩:=x
  exact ⟨z,y,xs,Paired.mapP r λ p q z=>⟨z.1,ht _ _ z.2.1,z.2.2⟩,ob,es,ep,k _ _ (.inl rfl) e,c⟩
 | set S n=>obtain ⟨ob,es,ep,t,e,c⟩:=x;exact ⟨ob,es,ep,t,k _ _ (.inl rfl) e,c⟩
 | ins C dx fs=>
  obtain ⟨d,z,ne,e,mA,⟨od,es,ep,e2,c⟩,r⟩:=x
  exact ⟨ho _ d,z,ne,k _ _ (.inl rfl) e,mA,⟨od,es,ep,k _ _ (.inr d) e2,c⟩,r⟩
 | own y=>obtain ⟨ob,e⟩:=x;exact ⟨ob,k _ _ (.inl rfl) e⟩
 | xd fs=>obtain ⟨mA,⟨od,es,ep,e,c⟩,r⟩:=x;exact ⟨mA,⟨od,es,ep,k _ _ (.inl rfl) e,c⟩,r⟩
 | rng lo hi=>obtain ⟨t,u,v,e⟩:=x;exact ⟨t,u,v,k _ _ (.inl rfl) e⟩
 | frz ob u ih=>obtain ⟨e,q⟩:=x;exact ⟨k _ _ (.inl rfl) e,ih q⟩
 | tbl ps=>
  have e:h.get? a=some { cls:=.none,data:=.fields ps }:=x
  show h'.get? a=some { cls:=.none,data:=.fields ps }
  exact k a _ (.inl rfl) e
 | met f y=>
  have e:h.get? a=some (J8e (.ref f) (.ref y)):=x
  show h'.get? a=some (J8e (.ref f) (.ref y))
  exact k a _ (.inl rfl) e
 | ext φ=>obtain ⟨p,⟨o,e⟩,st⟩:=x;exact ⟨st _ _ p λ o q=>k _ _ (.inl rfl) q,⟨o,k _ _ (.inl rfl) e⟩,st⟩
theorem HOk.lt (x:HOk P w H h) (e:H a=some o):a<h.objs.size:=(x a o e).lt
theorem HOk.fresh (x:HOk P w H h) (e:h.objs.size<=a):H a=none:=by
 cases q:H a with
 | none=>rfl
 | some u=>exact absurd (Xn (x.lt q) e) (Xe _)
theorem HOk.kept (x:HOk P w H h) (k:∀ b u,h.get? b=some u->h'.get? b=some u):HOk P w H h':=λ a o e=>
 (x a o e).stay (λ b u _ q=>k b u q) (λ _ q=>q) λ _ _ q=>q
theorem HOk.laid (x:HOk P w H h) (k:∀ b u,h.get? b=some u->h'.get? b=some u) (hp:h.objs.size<=a) (new:Y1 P w (upd H a o) h' a o):HOk P w (upd H a o) h':=λ b u e=>by
 have hn:=x.fresh hp
 by_cases hb:b=a
 . subst hb;rw [Jh] at e;cases e;exact new
 . rw [Ji hb] at e
   exact (x b u e).stay (λ c v _ q=>k c v q) (λ c q=>by rw [Ji (Jk q hn)];exact q) λ c xs q=>by rw [Ji (Jk q hn)];exact q
end
def Rd (H:Hp) (a:Addr) (u:HO):Prop:=H a=some u\/∃ o,H a=some (.frz o u)
theorem Rd.ok {P:Ycj}{w:Yci}{H:Hp}{h:Heap}{a:Addr}{u:HO}(r:Rd H a u) (x:HOk P w H h):Y1 P w H h a u:=by
 rcases r with r | ⟨o,r⟩
 . exact x a u r
 . obtain ⟨_,q⟩:=x a _ r
   exact q
def Mut:Option HO->Prop
 | some (.lst _)=>True
 | some (.dK _)=>True
 | some (.dT _)=>True
 | some (.set _ _)=>True
 | some (.ins _ _ _)=>True
 | some (.ext _)=>True
 | _=>False
section
variable {P:Ycj}{w:Yci}{H:Hp}{h h':Heap}{x e:Addr}{o':HO}
theorem HOk.write (ok:HOk P w H h) (mu:Mut (H x)) (he:e=x\/H e=some (.own x)) (k:∀ b u,b≠e->h.get? b=some u->h'.get? b=some u) (heo:∃ u,h'.get? e=some u)
 (new:Y1 P w (upd H x o') h' x o'):HOk P w (upd H x o') h':=λ b u q=>by
 have nown:∀ c y,H c=some (.own y)->c≠x:=λ c y r z=>by subst z;rw [r] at mu;exact mu
 have ntup:∀ c xs,H c=some (.tup xs)->c≠x:=λ c xs r z=>by subst z;rw [r] at mu;exact mu
 by_cases hb:b=x
 . subst hb;rw [Jh] at q;cases q;exact new
 . rw [Ji hb] at q
   by_cases hbe:b=e
   . have q':H b=some (.own x):=by
      rcases he with z | z
      . exact absurd (hbe.trans z) hb
      . rw [hbe];exact z
     rw [q] at q';cases q'
     obtain ⟨v,hv⟩:=heo
     exact ⟨v,by rw [hbe];exact hv⟩
   . refine (ok b u q).stay (λ c v hc r=>k c v ?_ r) (λ c r=>by rw [Ji (nown c b r)];exact r) λ c xs r=>by rw [Ji (ntup c xs r)];exact r
     rcases hc with rfl | hc
     . exact hbe
     . rintro rfl
       rcases he with z | z
       . exact nown c b hc z
       . rw [hc] at z;cases z;exact hb rfl
end
structure Un (fs ex:List Addr) (H H':Hp) (h h':Heap):Prop where
 keep:∀ b o,h.get? b=some o->H b=none->b∉fs->b∉ex->h'.get? b=some o
 slot:∀ b o,h.get? b=some o->H b=none->b∈fs->b∉ex->∃ sl,h'.get? b=some { o with slots:=sl }
 free:∀ b o,h.get? b=some o->H b=none->b∉ex->H' b=none
 there:∀ b o,h.get? b=some o->b∉ex->∃ o',h'.get? b=some o'
 tups:∀ b xs,H b=some (.tup xs)->H' b=some (.tup xs)
 frzs:∀ b o u,H b=some (.frz o u)->H' b=some (.frz o u)
 tbls:∀ b ps,H b=some (.tbl ps)->∃ more,H' b=some (.tbl (ps++more))
section
variable {fs fs' ex ex':List Addr}{H H1 H2:Hp}{h h1 h2 h':Heap}{a x e:Addr}{o:HO}
theorem Un.any (u:Un fs ex H H1 h h1) {b:Addr}{ob:Obj}(q:h.get? b=some ob) (n:H b=none) (hx:b∉ex):∃ sl,h1.get? b=some { ob with slots:=sl }:=by
 by_cases hb:b∈fs
 . exact u.slot b ob q n hb hx
 . exact ⟨ob.slots,u.keep b ob q n hb hx⟩
theorem Un.kept (k:∀ b u,h.get? b=some u->h'.get? b=some u):Un fs ex H H h h':=
 ⟨λ b ob q _ _ _=>k b ob q,λ b ob q _ _ _=>⟨ob.slots,k b ob q⟩,λ _ _ _ n _=>n,λ b ob q _=>⟨ob,k b ob q⟩,λ _ _ q=>q,λ _ _ _ q=>q,λ _ ps q=>⟨#[],by rw [q];simp⟩⟩
theorem Un.refl:Un fs ex H H h h:=Un.kept λ _ _ q=>q
theorem Un.laid (k:∀ b u,h.get? b=some u->h'.get? b=some u) (hp:h.objs.size<=a) (hn:H a=none):Un fs ex H (upd H a o) h h' where
 keep:=λ b u q _ _ _=>k b u q
 slot:=λ b u q _ _ _=>⟨u.slots,k b u q⟩
 free:=λ b u q n _=>by rw [Ji (Xf (Xn (Qp q) hp))];exact n
 there:=λ b u q _=>⟨u,k b u q⟩
 tups:=λ b xs q=>by rw [Ji (Jk q hn)];exact q
 frzs:=λ b u xs q=>by rw [Ji (Jk q hn)];exact q
 tbls:=λ b ps q=>⟨#[],by rw [Ji (Jk q hn),q];simp⟩
theorem Un.write (mu:Mut (H x)) (he:e=x\/H e=some (.own x)) (k:∀ b u,b≠e->h.get? b=some u->h'.get? b=some u) (heo:∃ u,h'.get? e=some u):Un fs ex H (upd H x o) h h':=by
 have hx:∀ b,H b=none->b≠x:=λ b n z=>by subst z;rw [n] at mu;exact mu
 have hb:∀ b,H b=none->b≠e:=λ b n z=>by
  subst z
  rcases he with r | r
  . exact hx b n r
  . rw [n] at r;cases r
 have hm:∀ b u,H b=some u->¬ Mut (some u)->b≠x:=λ b u q nm z=>by subst z;rw [q] at mu;exact nm mu
 refine ⟨λ b u q n _ _=>k b u (hb b n) q,λ b u q n _ _=>⟨u.slots,k b u (hb b n) q⟩,λ b u q n _=>by rw [Ji (hx b n)];exact n,λ b u q _=>?_,
  λ b xs q=>by rw [Ji (hm b _ q λ z=>z)];exact q,λ b u xs q=>by rw [Ji (hm b _ q λ z=>z)];exact q,λ b ps q=>⟨#[],by rw [Ji (hm b _ q λ z=>z),q];simp⟩⟩
 by_cases hbe:b=e
 . subst hbe;exact heo
 . exact ⟨u,k b u hbe q⟩
end
noncomputable def trk (h:Heap) (H:Hp):List Addr:=(Qf h.objs.size).filter λ a=>(H a).isSome
noncomputable def Jjy (h:Heap) (H:Hp):Heap:=J90 h (trk h H)
theorem Jra (h:Heap) (H:Hp):(Jjy h H).objs.size=h.objs.size:=PySem.W.hideAll_size _ _
theorem Jtd {h:Heap}{H:Hp}{b:Addr}{o:Obj}(e:h.get? b=some o) (n:H b=none):(Jjy h H).get? b=some o:=
 J91 _ e λ hm=>by
  have q:(H b).isSome=true:=(Q6.mp hm).2
  rw [n] at q;simp at q
theorem Jw0 {h:Heap}{H:Hp}{b:Addr}{o:Obj}(e:(Jjy h H).get? b=some o):h.get? b=some o/\H b=none:=by
 have e':h.get? b=some o:=J92 (trk h H) e
 refine ⟨e',?_⟩
 cases q:H b with
 | none=>rfl
 | some x=>
  have hm:b∈trk h H:=Q6.mpr ⟨Xj.mpr (Qp e'),by simp [q]⟩
  have z:(Jjy h H).get? b=none:=PySem.W.hideAll_none (trk h H) hm
  rw [z] at e;cases e
noncomputable def Jw1 (g h:Heap) (L:Addr):List (Addr×Obj):=(Qf h.objs.size).filterMap λ a=>if a=L\/(g.get? a).isSome=true then none else (h.get? a).map λ o=>(a,o)
noncomputable def rest (g h:Heap) (L d:Addr):List (Addr×Obj):=(Jw1 g h L).filter λ p=>decide (p.1≠d)
structure Mod (K:Qc) (mg:Str->Option Ycf) (base:Heap):Prop where
 kin:K.In base
 glob:base.Ns Ycq mg
 blt:∃ mb,base.Ns Yda mb/\∀ x:Str,x≠"__name__"->mb x=Ydb x
 nolimit:base.NoLimit
structure Cx where
 prog:Ycj
 w:Yci
 K:Qc
 mg:Str->Option Ycf
 base:Heap
 A:Yck
 N:List Str
 s₀:Ycg
 H₀:Hp
 env:Env
 outer:List Env
 stack:List Env
 ex:List Addr
 fn:Str->Bool
 calm:Bool
 pn:List (Addr×Obj)
 xe:Ycf->Ycg->Prop
noncomputable def frs (l:List Env):List Addr:=l.filterMap (·.frame)
noncomputable abbrev Cx.fs (X:Cx):List Addr:=frs X.outer
def Vis (sc:Ycm) (x:Str):Prop:=sc.names.lookup x=some .local \/ sc.names.lookup x=some .cell\/sc.names.lookup x=some .free
def Loc (sc:Ycm) (x:Str):Prop:=sc.names.lookup x=some .local \/ sc.names.lookup x=some .cell
def J4j (env:Env) (h:Heap) (m:Str->Option Ycf) (x:Str) (u:Ycf):Prop:=
 (env.kindOf x=some .local /\ m x=some u)\/((env.kindOf x=some .cell\/env.kindOf x=some .free)/\∃ c,env.cells.lookup x=some c/\h.IsCell c (some u))
structure Cx.Ok (X:Cx):Prop where
 mod:Mod X.K X.mg X.base
 kind:X.env.scope.kind = .function
 glob:X.env.globals=Ycq
 blt:X.env.builtins=Yda
 above:X.s₀.heap.objs.size<=X.env.locals
 inj:∀ x y c,X.env.cells.lookup x=some c->X.env.cells.lookup y=some c->x=y
 has:∀ x,(X.env.kindOf x=some .cell\/X.env.kindOf x=some .free)->∃ c,X.env.cells.lookup x=some c
 cab:∀ x c,X.fn x=true->X.env.cells.lookup x=some c->X.s₀.heap.objs.size<=c
 hd:X.calm=true->X.A.handled=none
 frames:X.A.frames=some X.stack
 stk:X.stack=X.outer\/(X.stack=X.env::X.outer/\X.env.frame=some X.env.locals)
 exf:∀ b∈X.ex,b≠X.env.locals/\∀ x c,X.env.cells.lookup x=some c->c≠b
 bs:∀ b o,X.base.get? b=some o->X.s₀.heap.get? b=some o/\X.H₀ b=none
 bsz:X.base.objs.size<=X.s₀.heap.objs.size
 noex:∀ b o,X.base.get? b=some o->b∉X.ex
 exfs:∀ b∈X.ex,b∉X.fs
 funs:X.s₀.heap.FunFrames X.base X.outer
 frf:∀ b∈X.fs,X.H₀ b=none
structure Inv (X:Cx) (pins:List (Addr×Obj)) (σ:List (Option V)) (H:Hp) (s:Ycg):Prop where
 ok:X.Ok
 os:s.os=X.s₀.os
 bare:Ycy s.gens
 base:Un X.fs X.ex X.H₀ H X.s₀.heap s.heap
 loc:∃ m,s.heap.Ns X.env.locals m/\∀ (i:Nat) (x:Str) (v:V),X.N[i]? = some x->σ[i]? = some (some v)->Vis X.env.scope x->∃ u,Yc v u/\J4j X.env s.heap m x u
 cell:∀ x c,X.env.cells.lookup x=some c->∃ v,s.heap.IsCell c v
 free:H X.env.locals=none
 freeC:∀ x c,X.env.cells.lookup x=some c->H c=none
 pin:∀ p∈X.pn++pins,s.heap.get? p.1=some p.2/\H p.1=none/\p.1≠X.env.locals/\p.1∉X.fs/\∀ v,p.2.data≠.cell v
 hok:HOk X.prog X.w H s.heap
 len:σ.length=X.N.length
section
variable {X:Cx}{pins:List (Addr×Obj)}{σ:List (Option V)}{H H':Hp}{s:Ycg}{h':Heap}
theorem Cx.Ok.nofr (ok:X.Ok) {b:Addr}{o:Obj}(e:X.base.get? b=some o):b∉X.fs:=λ hb=>by
 have:=(ok.funs.mem hb).1
 rw [e] at this;cases this
theorem Inv.bs (I:Inv X pins σ H s):∀ b o,X.base.get? b=some o->s.heap.get? b=some o/\H b=none:=λ b o e=>
 ⟨I.base.keep b o (I.ok.bs b o e).1 (I.ok.bs b o e).2 (I.ok.nofr e) (I.ok.noex b o e),I.base.free b o (I.ok.bs b o e).1 (I.ok.bs b o e).2 (I.ok.noex b o e)⟩
theorem Inv.bk (I:Inv X pins σ H s):∀ b o,X.base.get? b=some o->s.heap.get? b=some o:=λ b o e=>(I.bs b o e).1
theorem Inv.mod (I:Inv X pins σ H s):Mod X.K X.mg X.base:=I.ok.mod
theorem Inv.kIn (I:Inv X pins σ H s):X.K.In s.heap:=I.ok.mod.kin.keeps I.bk
theorem Inv.lt (I:Inv X pins σ H s):X.env.locals<s.heap.objs.size:=let ⟨_,hn,_⟩:=I.loc;hn.lt
theorem Inv.sz (I:Inv X pins σ H s):X.s₀.heap.objs.size<=s.heap.objs.size:=Xk I.ok.above (J7f I.lt)
theorem Inv.nofs (I:Inv X pins σ H s) {a:Addr}(h:s.heap.objs.size<=a):a∉X.fs:=λ hb=>by
 obtain ⟨_,o,ho,_⟩:=I.ok.funs.mem hb
 exact absurd (Xn (Qp ho) (Xk I.sz h)) (Xe _)
theorem Inv.cne (I:Inv X pins σ H s):∀ x c,X.env.cells.lookup x=some c->c≠X.env.locals:=λ x c e z=>by
 obtain ⟨v,o,ho,hd⟩:=I.cell x c e
 obtain ⟨m,⟨o',es,ep,ho',hd',_⟩,_⟩:=I.loc
 rw [z,ho'] at ho;cases ho;rw [hd'] at hd;cases hd
theorem Inv.funs (I:Inv X pins σ H s):s.heap.FunFrames X.base X.outer:=by
 have all:∀ (l:List Env),(∀ b∈frs l,b∈X.fs)->X.s₀.heap.FunFrames X.base l->s.heap.FunFrames X.base l:=by
  intro l
  induction l with
  | nil=>intro _ _;trivial
  | cons env r ih=>
   intro hs hl
   obtain ⟨hk,⟨L,o,hf,hn,ho,hd⟩,hr⟩:=hl
   have hL:L∈X.fs:=hs L (by unfold frs;rw [J8f,hf];exact Qd)
   obtain ⟨sl,e⟩:=I.base.slot L o ho (I.ok.frf L hL) hL λ z=>I.ok.exfs L z hL
   exact ⟨hk,⟨L,_,hf,hn,e,hd⟩,ih (λ b hb=>hs b (by unfold frs;rw [J8f,hf];exact Qh _ hb)) hr⟩
 exact all X.outer (λ _ hb=>hb) I.ok.funs
theorem Inv.stack (I:Inv X pins σ H s):s.heap.FunFrames X.base X.stack:=by
 rcases I.ok.stk with e | ⟨e,hf⟩
 . rw [e];exact I.funs
 . rw [e]
   obtain ⟨m,hn,_⟩:=I.loc
   refine .cons (by rw [I.ok.kind];decide) hf hn ?_ I.funs
   exact Heap.get?_none_of_le (Xk I.ok.bsz I.ok.above)
theorem Inv.stkSub (I:Inv X pins σ H s):∀ b∈frs X.stack,b∈X.env.locals::X.fs:=λ b hb=>by
 rcases I.ok.stk with e | ⟨e,hf⟩
 . rw [e] at hb;exact Qh _ hb
 . rw [e] at hb
   unfold frs at hb
   rw [J8f,hf] at hb
   exact hb
theorem Inv.stkFree (I:Inv X pins σ H s):∀ b∈frs X.stack,H b=none:=λ b hb=>by
 rcases Qg.mp (I.stkSub b hb) with e | hb
 . rw [e];exact I.free
 . obtain ⟨_,o,ho,_⟩:=I.ok.funs.mem hb
   exact I.base.free b o ho (I.ok.frf b hb) λ z=>I.ok.exfs b z hb
theorem Inv.step {g':Array GenState}{t':Nat}{d':Drawn}{ch:List Addr}(I:Inv X pins σ H s)
 (hch:∀ b∈ch,(b∈X.ex\/X.s₀.heap.objs.size<=b)/\b≠X.env.locals/\(∀ x c,X.env.cells.lookup x=some c->c≠b)/\∀ p∈X.pn++pins,p.1≠b)
 (keep:∀ b o,b≠X.env.locals->b∉X.fs->b∉ch->s.heap.get? b=some o->H b=none->h'.get? b=some o)
 (slot:∀ b o,b≠X.env.locals->b∈X.fs->b∉ch->s.heap.get? b=some o->H b=none->∃ sl,h'.get? b=some { o with slots:=sl }) (free:∀ b o,b∉ch->s.heap.get? b=some o->H b=none->H' b=none)
 (there:∀ b o,b∉ch->s.heap.get? b=some o->∃ o',h'.get? b=some o')
 (tups:∀ b xs,H b=some (.tup xs)->H' b=some (.tup xs)) (frzs:∀ b o u,H b=some (.frz o u)->H' b=some (.frz o u)) (tbls:∀ b ps,H b=some (.tbl ps)->∃ more,H' b=some (.tbl (ps++more)))
 (ns:∀ m,s.heap.Ns X.env.locals m->h'.Ns X.env.locals m) (hok:HOk X.prog X.w H' h') (hg:Ycy g') :
 Inv X pins σ H' { s with heap:=h',gens:=g',drawn:=d',toks:=t' }:=by
 have neL:∀ b o,X.s₀.heap.get? b=some o->b≠X.env.locals:=λ b o e=>Xf (Xn (Qp e) I.ok.above)
 have neC:∀ b o,X.s₀.heap.get? b=some o->b∉X.ex->b∉ch:=λ b o e hx hb=>by
  rcases (hch b hb).1 with z | z
  . exact hx z
  . exact absurd (Xn (Qp e) z) (Xe _)
 have cellK:∀ x c,X.env.cells.lookup x=some c->∀ v,s.heap.IsCell c v->h'.IsCell c v:=λ x c e v ⟨o,ho,hd⟩=>by
  have nch:c∉ch:=λ z=>(hch c z).2.2.1 x c e rfl
  by_cases hc:c∈X.fs
  . obtain ⟨sl,q⟩:=slot c o (I.cne x c e) hc nch ho (I.freeC x c e)
    exact ⟨_,q,hd⟩
  . exact ⟨o,keep c o (I.cne x c e) hc nch ho (I.freeC x c e),hd⟩
 refine ⟨I.ok,I.os,hg,⟨λ b o e n hb hx=>?_,λ b o e n hb hx=>?_,λ b o e n hx=>?_,λ b o e hx=>?_,λ b xs e=>tups b xs (I.base.tups b xs e),λ b o xs e=>frzs b o xs (I.base.frzs b o xs e),λ b ps e=>?_⟩,?_,λ x c e=>?_,?_,λ x c e=>?_,λ p hp=>?_,hok,I.len⟩
 . exact keep b o (neL b o e) hb (neC b o e hx) (I.base.keep b o e n hb hx) (I.base.free b o e n hx)
 . obtain ⟨sl,e1⟩:=I.base.slot b o e n hb hx
   obtain ⟨sl',e2⟩:=slot b _ (neL b o e) hb (neC b o e hx) e1 (I.base.free b o e n hx)
   exact ⟨sl',e2⟩
 . obtain ⟨o',e1⟩:=I.base.there b o e hx
   exact free b o' (neC b o e hx) e1 (I.base.free b o e n hx)
 . obtain ⟨o',e1⟩:=I.base.there b o e hx
   exact there b o' (neC b o e hx) e1
 . obtain ⟨m1,e1⟩:=I.base.tbls b ps e
   obtain ⟨m2,e2⟩:=tbls b _ e1
   exact ⟨m1++m2,by rw [e2,Array.append_assoc]⟩
 . obtain ⟨m,hn,hl⟩:=I.loc
   refine ⟨m,ns m hn,λ i x v e1 e2 e3=>?_⟩
   obtain ⟨u,r,l⟩:=hl i x v e1 e2 e3
   refine ⟨u,r,?_⟩
   rcases l with l | ⟨k,c,e,z⟩
   . exact .inl l
   . exact .inr ⟨k,c,e,cellK x c e _ z⟩
 . obtain ⟨v,z⟩:=I.cell x c e
   exact ⟨v,cellK x c e v z⟩
 . obtain ⟨m,⟨o,_,_,ho,_⟩,_⟩:=I.loc
   exact free _ o (λ z=>(hch _ z).2.1 rfl) ho I.free
 . obtain ⟨v,o,ho,hd⟩:=I.cell x c e
   exact free c o (λ z=>(hch c z).2.2.1 x c e rfl) ho (I.freeC x c e)
 . obtain ⟨e,n,ne,nf,d⟩:=I.pin p hp
   have nch:p.1∉ch:=λ z=>(hch p.1 z).2.2.2 p hp rfl
   exact ⟨keep p.1 p.2 ne nf nch e n,free p.1 p.2 nch e n,ne,nf,d⟩
theorem Inv.un {t':Nat}(I:Inv X pins σ H s) (u:Un X.fs [] H H' s.heap h') (hok:HOk X.prog X.w H' h'):Inv X pins σ H' { s with heap:=h',toks:=t' }:=by
 obtain ⟨m,⟨o,es,ep,ho,r⟩,_⟩:=id I.loc
 obtain ⟨sl,hL⟩:=u.any ho I.free (by simp)
 exact I.step (g':=s.gens) (d':=s.drawn) (ch:=[]) (λ _ z=>nomatch z) (λ b o _ hb _ e n=>u.keep b o e n hb (by simp)) (λ b o _ hb _ e n=>u.slot b o e n hb (by simp)) (λ b o _ e n=>u.free b o e n (by simp)) (λ b o _ e=>u.there b o e (by simp)) u.tups u.frzs u.tbls (λ m' hm=>by
  obtain ⟨o',es',ep',ho',r'⟩:=hm
  rw [ho] at ho';cases ho'
  exact ⟨_,es',ep',hL,r'⟩) hok I.bare
theorem Inv.call {g':Array GenState}{t':Nat}{d':Drawn}{ch:List Addr}(I:Inv X pins σ H s) (u:Un (frs X.stack) ch H H' s.heap h') (hok:HOk X.prog X.w H' h') (hg:Ycy g')
 (hch:∀ b∈ch,(b∈X.ex\/X.s₀.heap.objs.size<=b)/\b≠X.env.locals/\(∀ x c,X.env.cells.lookup x=some c->c≠b)/\∀ p∈X.pn++pins,p.1≠b) :
 Inv X pins σ H' { s with heap:=h',gens:=g',drawn:=d',toks:=t' }:=by
 obtain ⟨m,⟨o,es,ep,ho,r⟩,_⟩:=id I.loc
 obtain ⟨sl,hL⟩:=u.any ho I.free λ z=>(hch _ z).2.1 rfl
 exact I.step (ch:=ch) hch (λ b o hL hb hc e n=>u.keep b o e n (λ z=>(Qg.mp (I.stkSub b z)).elim hL hb) hc) (λ b o _ _ hc e n=>u.any e n hc) (λ b o hc e n=>u.free b o e n hc) (λ b o hc e=>u.there b o e hc) u.tups u.frzs u.tbls (λ m' hm=>by
  obtain ⟨o',es',ep',ho',r'⟩:=hm
  rw [ho] at ho';cases ho'
  exact ⟨_,es',ep',hL,r'⟩) hok hg
theorem Inv.turned {t':Nat}{it:Addr}(I:Inv X pins σ H s) (k:∀ b o,b≠it->s.heap.get? b=some o->h'.get? b=some o) (hn:H it=none) (hL:it≠X.env.locals)
 (h1:it∈X.ex\/X.s₀.heap.objs.size<=it) (h2:∀ x c,X.env.cells.lookup x=some c->c≠it) (h3:∀ p∈X.pn++pins,p.1≠it):Inv X pins σ H { s with heap:=h',toks:=t' }:=by
 have nit:∀ b u,H b=some u->b≠it:=λ b u e z=>by rw [z,hn] at e;cases e
 refine I.step (g':=s.gens) (d':=s.drawn) (ch:=[it]) (λ b hb=>?_) (λ b o _ _ hc e _=>k b o (λ z=>hc (by simp [z])) e) (λ b o _ _ hc e _=>⟨o.slots,k b o (λ z=>hc (by simp [z])) e⟩) (λ _ _ _ _ n=>n)
  (λ b o hc e=>⟨o,k b o (λ z=>hc (by simp [z])) e⟩) (λ _ _ e=>e) (λ _ _ _ e=>e) (λ b ps e=>⟨#[],by rw [e];simp⟩) (λ m hm=>?_) (λ b u e=>?_) I.bare
 . have e:b=it:=by simpa using hb
   subst e
   exact ⟨h1,hL,h2,h3⟩
 . obtain ⟨o,es,ep,ho,r⟩:=hm
   exact ⟨o,es,ep,k _ o (Qj hL) ho,r⟩
 . refine (I.hok b u e).stay (λ c v hc q=>k c v ?_ q) (λ _ q=>q) λ _ _ q=>q
   rcases hc with z | z
   . rw [z];exact nit b u e
   . exact nit c _ z
theorem Inv.tok (I:Inv X pins σ H s) (t:Nat):Inv X pins σ H { s with toks:=t }:=I.un (h':=s.heap) (t':=t) Un.refl I.hok
theorem Inv.kept {t':Nat}(I:Inv X pins σ H s) (k:∀ b u,s.heap.get? b=some u->h'.get? b=some u):Inv X pins σ H { s with heap:=h',toks:=t' }:=I.un (Un.kept k) (I.hok.kept k)
theorem Inv.laid {a:Addr}{o:HO}{t':Nat}(I:Inv X pins σ H s) (k:∀ b u,s.heap.get? b=some u->h'.get? b=some u) (hp:s.heap.objs.size<=a) (new:Y1 X.prog X.w (upd H a o) h' a o) :
 Inv X pins σ (upd H a o) { s with heap:=h',toks:=t' }:=I.un (Un.laid k hp (I.hok.fresh hp)) (I.hok.laid k hp new)
theorem Inv.write {x e:Addr}{o:HO}{t':Nat}(I:Inv X pins σ H s) (mu:Mut (H x)) (he:e=x\/H e=some (.own x)) (k:∀ b u,b≠e->s.heap.get? b=some u->h'.get? b=some u) (heo:∃ u,h'.get? e=some u)
 (new:Y1 X.prog X.w (upd H x o) h' x o):Inv X pins σ (upd H x o) { s with heap:=h',toks:=t' }:=I.un (Un.write mu he k heo) (I.hok.write mu he k heo new)
theorem Inv.pins_of {pins':List (Addr×Obj)}(I:Inv X pins σ H s) (h:∀ p∈pins',s.heap.get? p.1=some p.2/\H p.1=none/\p.1≠X.env.locals/\p.1∉X.fs/\∀ v,p.2.data≠.cell v):Inv X pins' σ H s:=
 ⟨I.ok,I.os,I.bare,I.base,I.loc,I.cell,I.free,I.freeC,λ p hp=>(Qz.mp hp).elim (λ z=>I.pin p (Xu _ z)) (h p),I.hok,I.len⟩
theorem Jl5 {N:List Str}(hN:N.Nodup) {i j:Nat}{x:Str}(a:N[i]? = some x) (b:N[j]? = some x):i=j:=by
 obtain ⟨h1,e1⟩:=Qr.mp a
 obtain ⟨h2,e2⟩:=Qr.mp b
 exact (List.getElem_inj hN).mp (e1.trans e2.symm)
theorem Jb5 {M:Model}{A:Yck}{E:Ycf->Ycg->Prop}{i:Nat}{x:Str}{v:V}{u:Ycf}{Q:Unit->Ycg->Prop}(I:Inv X pins σ H s) (hN:X.N.Nodup) (hi:X.N[i]? = some x) (hx:Loc X.env.scope x) (r:Yc v u)
 (h:∀ s',Inv X pins (σ.set i (some v)) H s'->(∃ a,Xl a s.heap s'.heap/\(a=X.env.locals\/X.env.cells.lookup x=some a))->Q () s') (hf:X.fn x=true\/X.env.scope.names.lookup x=some .local := by first | exact .inl rfl | exact .inr rfl | assumption):Ych M A (storeName X.env x u) Q E s:=by
 obtain ⟨m,hn,hl⟩:=id I.loc
 have hcls:(X.env.scope.kind == .class||(X.env.scope.kind == .module&&X.env.locals != X.env.globals))=false:=by rw [I.ok.kind];rfl
 have hiσ:i < σ.length:=by rw [I.len];exact (Qr.mp hi).1
 have cne:=I.cne
 have tracked:∀ {a:Addr} {h':Heap},(∃ o,s.heap.get? a=some o/\H a=none)->Xl a s.heap h'->HOk X.prog X.w H h':=λ {a h'} ha hs b ob e=>by
  obtain ⟨_,_,hfree⟩:=ha
  refine (I.hok b ob e).stay (λ c w' hc q=>(hs.2 c ?_).trans q) (λ _ q=>q) λ _ _ q=>q
  rintro rfl
  rcases hc with rfl | hc
  . rw [hfree] at e;cases e
  . rw [hfree] at hc;cases hc
 rcases hx with hk | hk
 . refine wpAny_storeName_local hk hn (λ h' hn' hs=>?_) hcls
   obtain ⟨oL,_,_,hoL,_⟩:=id hn
   refine h _ ⟨I.ok,I.os,I.bare,⟨λ b o e n hb hx=>?_,λ b o e n hb hx=>?_,I.base.free,λ b o e hx=>?_,I.base.tups,I.base.frzs,I.base.tbls⟩,⟨_,hn',λ j y v' e1 e2 e3=>?_⟩,λ y c e=>?_,I.free,I.freeC,λ p hp=>?_,tracked ⟨oL,hoL,I.free⟩ hs,by simpa using I.len⟩ ⟨_,hs,.inl rfl⟩
   . exact (hs.2 b (Xf (Xn (Qp e) I.ok.above))).trans (I.base.keep b o e n hb hx)
   . obtain ⟨sl,e1⟩:=I.base.slot b o e n hb hx
     exact ⟨sl,(hs.2 b (Xf (Xn (Qp e) I.ok.above))).trans e1⟩
   . obtain ⟨o',e1⟩:=I.base.there b o e hx
     exact ⟨o',(hs.2 b (Xf (Xn (Qp e) I.ok.above))).trans e1⟩
   . by_cases hj:j=i
     . subst hj
       rw [hi] at e1;cases e1
       rw [Q4 hiσ] at e2
       cases e2
       exact ⟨u,r,.inl ⟨hk,by simp⟩⟩
     . rw [Q2 (Qj hj)] at e2
       obtain ⟨u',r',q⟩:=hl j y v' e1 e2 e3
       refine ⟨u',r',?_⟩
       rcases q with ⟨k,e⟩ | ⟨k,c,e,z⟩
       . refine .inl ⟨k,?_⟩
         have:y≠x:=λ e=>hj (Jl5 hN e1 (e▸hi))
         simp [this,e]
       . exact .inr ⟨k,c,e,z.sameBut hs (cne y c e)⟩
   . obtain ⟨w',z⟩:=I.cell y c e
     exact ⟨w',z.sameBut hs (cne y c e)⟩
   . obtain ⟨e,n,ne,nf,d⟩:=I.pin p hp
     exact ⟨(hs.2 p.1 ne).trans e,n,ne,nf,d⟩
 . have hfn:X.fn x=true:=by
    rcases hf with z | z
    . exact z
    . rw [z] at hk;cases hk
   obtain ⟨c,hc⟩:=I.ok.has x (.inl hk)
   obtain ⟨w',z⟩:=I.cell x c hc
   refine wpAny_storeName_cell I.ok.kind hk hc z (λ h' hc' hs=>?_)
   obtain ⟨oc,hoc,hocd⟩:=id z
   refine h { s with heap:=h' } ⟨I.ok,I.os,I.bare,⟨λ b o e n hb hx=>?_,λ b o e n hb hx=>?_,I.base.free,λ b o e hx=>?_,I.base.tups,I.base.frzs,I.base.tbls⟩,⟨m,hn.sameBut hs (Qj (cne x c hc)),λ j y v' e1 e2 e3=>?_⟩,λ y c' e=>?_,I.free,I.freeC,λ p hp=>?_,tracked ⟨oc,hoc,I.freeC x c hc⟩ hs,by simpa using I.len⟩ ⟨c,hs,.inr hc⟩
   . exact (hs.2 b (Xf (Xn (Qp e) (I.ok.cab x c hfn hc)))).trans (I.base.keep b o e n hb hx)
   . obtain ⟨sl,e1⟩:=I.base.slot b o e n hb hx
     exact ⟨sl,(hs.2 b (Xf (Xn (Qp e) (I.ok.cab x c hfn hc)))).trans e1⟩
   . obtain ⟨o',e1⟩:=I.base.there b o e hx
     exact ⟨o',(hs.2 b (Xf (Xn (Qp e) (I.ok.cab x c hfn hc)))).trans e1⟩
   . by_cases hj:j=i
     . subst hj
       rw [hi] at e1;cases e1
       rw [Q4 hiσ] at e2
       cases e2
       exact ⟨u,r,.inr ⟨.inl hk,c,hc,hc'⟩⟩
     . rw [Q2 (Qj hj)] at e2
       obtain ⟨u',r',q⟩:=hl j y v' e1 e2 e3
       refine ⟨u',r',?_⟩
       rcases q with q | ⟨k,c',e,z'⟩
       . exact .inl q
       . refine .inr ⟨k,c',e,z'.sameBut hs ?_⟩
         rintro rfl
         exact hj (Jl5 hN e1 (I.ok.inj _ _ _ e hc▸hi))
   . by_cases hcc:c'=c
     . subst hcc;exact ⟨_,hc'⟩
     . obtain ⟨w2,z2⟩:=I.cell y c' e
       exact ⟨w2,z2.sameBut hs hcc⟩
   . obtain ⟨e,n,ne,nf,d⟩:=I.pin p hp
     refine ⟨(hs.2 p.1 ?_).trans e,n,ne,nf,d⟩
     intro q
     rw [q,hoc] at e
     have q':oc=p.2:=Xd e
     exact d w' (by rw [<- q'];exact hocd)
theorem Jl6 {M:Model}{A:Yck}{E:Ycf->Ycg->Prop}{i:Nat}{x:Str}{v:V}{u:Ycf}{Q:Unit->Ycg->Prop}(I:Inv X pins σ H s) (hN:X.N.Nodup) (hi:X.N[i]? = some x) (hx:Loc X.env.scope x) (r:Yc v u)
 (h:∀ s',Inv X pins (σ.set i (some v)) H s'->Q () s') (hf:X.fn x=true\/X.env.scope.names.lookup x=some .local := by first | exact .inl rfl | exact .inr rfl | assumption):Ych M A (storeName X.env x u) Q E s:=
 Jb5 I hN hi hx r (λ s' I' _=>h s' I') hf
theorem Inv.call' {s':Ycg}{ch:List Addr}(I:Inv X pins σ H s) (ho:s'.os=s.os) (u:Un (frs X.stack) ch H H' s.heap s'.heap) (hok:HOk X.prog X.w H' s'.heap) (hg:Ycy s'.gens)
 (hch:∀ b∈ch,(b∈X.ex\/X.s₀.heap.objs.size<=b)/\b≠X.env.locals/\(∀ x c,X.env.cells.lookup x=some c->c≠b)/\∀ p∈X.pn++pins,p.1≠b):Inv X pins σ H' s':=by
 obtain ⟨h',g',d',t',o'⟩:=s'
 have e:o'=s.os:=ho
 subst e
 exact I.call (g':=g') (t':=t') (d':=d') u hok hg hch
end
abbrev XK:=Ycf->Option Addr->Hp->Prop
abbrev St:=List (Option V)
abbrev VK:=V->Hp->Prop
abbrev TE:=St->Hp->VK->Prop
abbrev TT:=St->Hp->(Bool->Hp->Prop)->Prop
abbrev TA:=St->Hp->(List V->Hp->Prop)->Prop
structure Ends where
 nx:St->Hp->Prop
 rt:VK
 bk:St->Hp->Prop:=λ _ _=>False
 ct:St->Hp->Prop:=λ _ _=>False
abbrev TS:=Ends->St->Hp->Prop
def EP (X:Cx) (pins:List (Addr×Obj)) (σ:St) (Q:VK) (u:Ycf) (s':Ycg):Prop:=∃ v H',Inv X pins σ H' s'/\Yc v u/\Q v H'
def TP (X:Cx) (pins:List (Addr×Obj)) (σ:St) (Q:Bool->Hp->Prop) (b:Bool) (s':Ycg):Prop:=∃ H',Inv X pins σ H' s'/\Q b H'
def AP (X:Cx) (pins:List (Addr×Obj)) (σ:St) (Q:List V->Hp->Prop) (us:List Ycf) (s':Ycg):Prop:=∃ vs H',Inv X pins σ H' s'/\J9 vs us/\Q vs H'
def SP (X:Cx) (pins:List (Addr×Obj)) (D:Ends) (f:Flow) (s':Ycg):Prop:=
 match f with
 | .next=>∃ σ' H',Inv X pins σ' H' s'/\D.nx σ' H'
 | .brk=>∃ σ' H',Inv X pins σ' H' s'/\D.bk σ' H'
 | .cont=>∃ σ' H',Inv X pins σ' H' s'/\D.ct σ' H'
 | .ret u=>∃ v σ' H',Inv X pins σ' H' s'/\Yc v u/\D.rt v H'
def PE (X:Cx) (e:Expr) (t:TE):Prop:=
 ∀ (pins:List (Addr×Obj)) (s:Ycg) (σ:St) (H:Hp) (Q:VK),Inv X pins σ H s->t σ H Q->Ych (model X.prog X.w) X.A (eval e X.env) (EP X pins σ Q) X.xe s
def PT (X:Cx) (e:Expr) (t:TT):Prop:=
 ∀ (pins:List (Addr×Obj)) (s:Ycg) (σ:St) (H:Hp) (Q:Bool->Hp->Prop),Inv X pins σ H s->t σ H Q->Ych (model X.prog X.w) X.A (isTrue e X.env (eval e X.env)) (TP X pins σ Q) X.xe s
def PW (X:Cx) (e:Expr) (t:TT):Prop:=
 ∀ (whole:Sem Ycf) (pins:List (Addr×Obj)) (s:Ycg) (σ:St) (H:Hp) (Q:Bool->Hp->Prop),Inv X pins σ H s->t σ H Q->Ych (model X.prog X.w) X.A (isTrue e X.env whole) (TP X pins σ Q) X.xe s
theorem PW.pt {X:Cx}{e:Expr}{t:TT}(h:PW X e t):PT X e t:=h _
def PA (X:Cx) (es:List Expr) (t:TA):Prop:=
 ∀ (pos:Pos) (pins:List (Addr×Obj)) (s:Ycg) (σ:St) (H:Hp) (Q:List V->Hp->Prop),Inv X pins σ H s->t σ H Q->Ych (model X.prog X.w) X.A (spliced (backTo pos (starEach es X.env))) (AP X pins σ Q) X.xe s
def PS (X:Cx) (st:Stmt) (t:TS):Prop:=
 ∀ (pins:List (Addr×Obj)) (s:Ycg) (σ:St) (H:Hp) (D:Ends),Inv X pins σ H s->t D σ H->Ych (model X.prog X.w) X.A (exec st X.env) (SP X pins D) X.xe s
def PSs (X:Cx) (st:List Stmt) (t:TS):Prop:=
 ∀ (pins:List (Addr×Obj)) (s:Ycg) (σ:St) (H:Hp) (D:Ends),Inv X pins σ H s->t D σ H->Ych (model X.prog X.w) X.A (execs st X.env) (SP X pins D) X.xe s
theorem thn {α:Type}{t:Sem α}{Q Q':α->Ycg->Prop}{M:Model}{A:Yck}{E:Ycf->Ycg->Prop}{s:Ycg}(h:Ych M A t Q E s) (hQ:∀ a s,Q a s->Q' a s):Ych M A t Q' E s:=wpAny_mono h hQ λ _ _ x=>x
section
variable {X:Cx}
def Zv (i:Nat):TE:=λ σ H Q=>∃ v,σ[i]? = some (some v)/\Q v H
def tC (v:V):TE:=λ _ H Q=>Q v H
theorem J0f {i:Nat}{x:Str}{pos:Pos}(hN:X.N[i]? = some x) (hv:Vis X.env.scope x) (hd:(x==("__debug__":Str))=false:=by decide) (hcd:(x==("__classdict__":Str))=false:=by decide):PE X (.Name x pos) (Zv i):=by
 intro pins s σ H Q I h
 obtain ⟨v,e,h⟩:=h
 obtain ⟨m,hn,hl⟩:=I.loc
 obtain ⟨u,r,l⟩:=hl i x v hN e hv
 have fin:EP X pins σ Q u s:=⟨v,H,I,r,h⟩
 rcases l with ⟨hk,hm⟩ | ⟨hk,c,hc,hcell⟩
 . exact wpAny_Name (wpAny_loadName_local I.ok.kind hk hn hm fin) hd
 . rcases hk with hk | hk
   . exact wpAny_Name (wpAny_loadName_cell I.ok.kind hk hc hcell fin) hd
   . exact wpAny_Name (wpAny_loadName_free I.ok.kind hk hc hcell fin hcd) hd
theorem Je {i j pos}:PE X (.Constant (.int i) j pos) (tC (.int i)):=λ _ _ _ H _ I h=>wpAny_Constant_int ⟨.int i,H,I.tok _,⟨_,rfl⟩,h⟩
theorem Bd {b j pos}:PE X (.Constant (.bool b) j pos) (tC (.bl b)):=λ _ _ _ H _ I h=>Constant_bool ⟨.bl b,H,I,rfl,h⟩
theorem Jcn {j pos}:PE X (.Constant .none j pos) (tC .non):=λ _ _ _ H _ I h=>Constant_none ⟨.non,H,I,rfl,h⟩
theorem Yr {x j pos}:PE X (.Constant (.str x) j pos) (tC (.str x)):=λ _ _ _ H _ I h=>Calls.Constant_str ⟨.str x,H,I.tok _,⟨_,rfl⟩,h⟩
def Gl (X:Cx) (x:Str):Prop:=X.env.kindOf x=some .globalImplicit
theorem Jfm {E:Ycf->Ycg->Prop}{pins:List (Addr×Obj)}{s:Ycg}{σ:St}{H:Hp}{x:Str}{u:Ycf}{pos:Pos}{Q:Ycf->Ycg->Prop}(I:Inv X pins σ H s) (hg:Gl X x) (hm:X.mg x=some u) (h:Q u s)
 (hd:(x==("__debug__":Str))=false:=by decide):Ych (model X.prog X.w) X.A (eval (.Name x pos) X.env) Q E s:=
 J93 I.ok.kind hg (Calls.loadGlobal_global (by rw [I.ok.glob];exact I.mod.glob.keeps I.bk) hm h) hd
theorem Jbi {E:Ycf->Ycg->Prop}{pins:List (Addr×Obj)}{s:Ycg}{σ:St}{H:Hp}{x:Str}{u:Ycf}{pos:Pos}{Q:Ycf->Ycg->Prop}(I:Inv X pins σ H s) (hg:Gl X x) (hm:X.mg x=none) (hv:Ydb x=some u) (h:Q u s)
 (hn:x≠"__name__":=by decide) (hd:(x==("__debug__":Str))=false:=by decide):Ych (model X.prog X.w) X.A (eval (.Name x pos) X.env) Q E s:=by
 obtain ⟨mb,h1,h2⟩:=I.mod.blt
 exact J93 I.ok.kind hg (Calls.loadGlobal_builtin (by rw [I.ok.glob];exact I.mod.glob.keeps I.bk) hm (by rw [I.ok.blt];exact h1.keeps I.bk) ((h2 x hn).trans hv) h) hd
theorem Jjz {x:Str}{v:V}{u:Ycf}{pos:Pos}(hg:Gl X x) (hm:X.mg x=none) (hv:Ydb x=some u) (r:Yc v u) (hn:x≠"__name__":=by decide) (hd:(x==("__debug__":Str))=false:=by decide):PE X (.Name x pos) (tC v):=
 λ _ _ _ H _ I h=>Jbi I hg hm hv ⟨v,H,I,r,h⟩ hn hd
variable {a b:Expr}{ta tb:TE}{pos:Pos}
def PC (X:Cx) (op:CmpOp) (a b:Expr) (t:TE):Prop:=
 ∀ (pins:List (Addr×Obj)) (s:Ycg) (σ:St) (H:Hp) (Q:VK),Inv X pins σ H s->t σ H Q ->
  Ych (model X.prog X.w) X.A (eval a X.env) (λ v s₁=>Ych (model X.prog X.w) X.A (eval b X.env) (λ u s₂=>Ych (model X.prog X.w) X.A (compareOp op v u) (EP X pins σ Q) X.xe s₂) X.xe s₁) X.xe s
theorem Jte (b:Expr) {op:CmpOp}(h:op≠.In) (h2:op≠.NotIn):Yc2 op b=false:=by
 have e1:(op==CmpOp.In)=false:=by cases op<;>first | rfl | exact absurd rfl h
 have e2:(op==J94)=false:=by cases op<;>first | rfl | exact absurd rfl h2
 cases b<;>simp [Yc2,e1,e2]
def tB (t:TE):TT:=λ σ H Q=>t σ H λ x H1=>∃ c,x = .bl c/\Q c H1
theorem Jtf {op:CmpOp}{t:TE}(h:PC X op a b t) (h1:Yc2 op b=false:=by first | exact Jte _ (by decide) (by decide) | rfl):PT X (.Compare a [op] [b] pos) (tB t):=by
 intro pins s σ H Q I hw
 refine Yd0 (thn (h pins s σ H _ I hw) λ v s1 h1=>thn h1 λ u s2 h2=>thn h2 λ c s3 ⟨x,H1,I1,r1,q1⟩=>?_) h1
 obtain ⟨d,rfl,q⟩:=q1
 cases r1
 exact wpAny_truthy_bool ⟨H1,I1,q⟩
theorem Bk {e:Expr}{t:TE}(h:PE X e t) (he:∀ whole,isTrue e X.env whole=(do let v <- whole;Yc3 e.pos;Ycs [v] (truthy v)):=by intro _;rfl):PT X e (tB t):=by
 intro pins s σ H Q I hw
 refine isTrue_plain (thn (h pins s σ H _ I hw) λ v s1 ⟨x,H1,I1,r1,q1⟩=>?_) (he _)
 obtain ⟨d,rfl,q⟩:=q1
 cases r1
 exact wpAny_truthy_bool ⟨H1,I1,q⟩
variable {tA tB':TT}{rest:List Expr}
def J2f (t u:TT):TT:=λ σ H Q=>t σ H λ c H1=>if c=true then u σ H1 Q else Q false H1
def tOr (t u:TT):TT:=λ σ H Q=>t σ H λ c H1=>if c=true then Q true H1 else u σ H1 Q
def J0g (t:TT):TT:=λ σ H Q=>t σ H λ c H1=>Q (!c) H1
theorem Jj0 (ha:PT X a tA):PW X (.BoolOp .And [a] pos) tA:=by
 intro wh pins s σ H Q I h
 refine isTrue_and (thn (ha pins s σ H Q I h) λ c s1 e=>?_)
 cases c with
 | true=>exact isTrue_and_nil e
 | false=>exact e
theorem Jeb (ha:PT X a tA):PW X (.BoolOp .Or [a] pos) tA:=by
 intro wh pins s σ H Q I h
 refine isTrue_or (thn (ha pins s σ H Q I h) λ c s1 e=>?_)
 cases c with
 | false=>exact isTrue_or_nil e
 | true=>exact e
theorem Jod (ha:PT X a tA) (hb:PW X (.BoolOp .And (b::rest) pos) tB'):PW X (.BoolOp .And (a::b::rest) pos) (J2f tA tB'):=by
 intro wh pins s σ H Q I h
 refine isTrue_and (thn (ha pins s σ H _ I h) λ c s1 ⟨H1,I1,q1⟩=>?_)
 cases c with
 | true=>exact hb wh pins s1 σ H1 Q I1 q1
 | false=>exact ⟨H1,I1,q1⟩
theorem Jil (ha:PT X a tA) (hb:PW X (.BoolOp .Or (b::rest) pos) tB'):PW X (.BoolOp .Or (a::b::rest) pos) (tOr tA tB'):=by
 intro wh pins s σ H Q I h
 refine isTrue_or (thn (ha pins s σ H _ I h) λ c s1 ⟨H1,I1,q1⟩=>?_)
 cases c with
 | true=>exact ⟨H1,I1,q1⟩
 | false=>exact hb wh pins s1 σ H1 Q I1 q1
theorem Jec (ha:PT X a tA):PT X (.UnaryOp .Not a pos) (J0g tA):=by
 intro pins s σ H Q I h
 exact isTrue_not (ha pins s σ H (λ c H1=>Q (!c) H1) I h)
def J2g (ta tb:TE):TE:=λ σ H Q=>ta σ H λ x H1=>∃ c,x = .bl c/\if c=true then tb σ H1 Q else Q (.bl false) H1
def J2h (ta tb:TE):TE:=λ σ H Q=>ta σ H λ x H1=>∃ c,x = .bl c/\if c=true then Q (.bl true) H1 else tb σ H1 Q
def J2i (ta:TE):TE:=λ σ H Q=>ta σ H λ x H1=>∃ c,x = .bl c/\Q (.bl (!c)) H1
theorem Jed {op} {t:TE}(h:PE X a t):PE X (.BoolOp op [a] pos) t:=λ pins s σ H Q I hw=>BoolOp_one (h pins s σ H Q I hw)
theorem Jee (ha:PE X a ta) (hb:PE X (.BoolOp .And (b::rest) pos) tb):PE X (.BoolOp .And (a::b::rest) pos) (J2g ta tb):=by
 intro pins s σ H Q I h
 refine BoolOp_and (thn (ha pins s σ H _ I h) λ v s1 ⟨x,H1,I1,r1,q1⟩=>?_)
 obtain ⟨c,rfl,q1⟩:=q1
 cases r1
 refine wpAny_truthy_bool ?_
 cases c with
 | true=>exact hb pins s1 σ H1 Q I1 q1
 | false=>exact ⟨.bl false,H1,I1,rfl,q1⟩
theorem J2j (ha:PE X a ta) (hb:PE X (.BoolOp .Or (b::rest) pos) tb):PE X (.BoolOp .Or (a::b::rest) pos) (J2h ta tb):=by
 intro pins s σ H Q I h
 refine BoolOp_or (thn (ha pins s σ H _ I h) λ v s1 ⟨x,H1,I1,r1,q1⟩=>?_)
 obtain ⟨c,rfl,q1⟩:=q1
 cases r1
 refine wpAny_truthy_bool ?_
 cases c with
 | false=>exact hb pins s1 σ H1 Q I1 q1
 | true=>exact ⟨.bl true,H1,I1,rfl,q1⟩
theorem Jtg (ha:PE X a ta):PE X (.UnaryOp .Not a pos) (J2i ta):=by
 intro pins s σ H Q I h
 refine UnaryOp_ (thn (ha pins s σ H _ I h) λ v s1 ⟨x,H1,I1,r1,q1⟩=>?_)
 obtain ⟨c,rfl,q1⟩:=q1
 cases r1
 exact not_of (wpAny_truthy_bool ⟨.bl (!c),H1,I1,rfl,q1⟩)
def tIf (t:TT) (ta tb:TE):TE:=λ σ H Q=>t σ H λ c H1=>if c=true then ta σ H1 Q else tb σ H1 Q
theorem Jf8 {c:Expr}(hc:PT X c tA) (ha:PE X a ta) (hb:PE X b tb):PE X (.IfExp c a b pos) (tIf tA ta tb):=by
 intro pins s σ H Q I h
 refine wpAny_IfExp (thn (hc pins s σ H _ I h) λ d s1 ⟨H1,I1,q1⟩=>?_)
 cases d with
 | true=>exact ha pins s1 σ H1 Q I1 q1
 | false=>exact hb pins s1 σ H1 Q I1 q1
end
def SqL (K:Qc) (H:Hp) (a:Addr) (xs:List V):Prop:=
 Rd H a (.lst xs) \/
  ∃ (o:Obj) (its:Array Ycf) (n:Nat),K.lookup a=some o/\o.cls = .type "list"/\o.dict=none/\o.data = .seq its n/\its.size<=sizeLine/\J9 xs its.toList
def SqT (K:Qc) (H:Hp) (a:Addr) (xs:List V):Prop:=
 Rd H a (.tup xs) \/
  ∃ (o:Obj) (its:Array Ycf) (n:Nat),K.lookup a=some o/\o.cls = .type "tuple"/\o.data = .seq its n/\its.size<=sizeLine/\J9 xs its.toList
noncomputable def J4k:Ycf->Option V
 | .none=>some .non
 | .bool b=>some (.bl b)
 | .int i _=>some (.int i)
 | .str x _=>some (.str x)
 | .bytes b _=>some (.byt b)
 | .float b _=>some (.flt b)
 | .ref a=>some (.ref a)
 | .type n=>some (.ty n)
 | _=>none
theorem Yc.abs {x:V}{u:Ycf}(r:Yc x u):J4k u=some x:=by
 cases x with
 | non=>cases r;rfl
 | bl _=>cases r;rfl
 | int _=>obtain ⟨t,rfl⟩:=r;rfl
 | str _=>obtain ⟨t,rfl⟩:=r;rfl
 | byt _=>obtain ⟨t,rfl⟩:=r;rfl
 | flt _=>obtain ⟨t,rfl⟩:=r;rfl
 | ref _=>cases r;rfl
 | ty _=>cases r;rfl
theorem Yc.inj {x y:V}{u:Ycf}(r:Yc x u) (q:Yc y u):x=y:=Xd (r.abs.symm.trans q.abs)
theorem J9.inj:∀ {xs ys:List V}{us:List Ycf},J9 xs us->J9 ys us->xs=ys
 | _,_,_,.nil,.nil=>rfl
 | _,_,_,.cons r t,.cons r' t'=>by rw [r.inj r',J9.inj t t']
section
variable {X:Cx}{pins:List (Addr×Obj)}{σ:St}{H:Hp}{s:Ycg}{a:Addr}{xs ys:List V}
theorem SqL.of {K:Qc}(h:H a=some (.lst xs)):SqL K H a xs:=.inl (.inl h)
theorem SqT.of {K:Qc}(h:H a=some (.tup xs)):SqT K H a xs:=.inl (.inl h)
theorem Inv.list (I:Inv X pins σ H s) (h:SqL X.K H a xs):∃ its:List Ycf,J9 xs its/\PlainL s.heap a its.toArray/\xs.length<=sizeLine:=by
 rcases h with h | ⟨o,its,n,hk,hc,hd,hs,hz,r⟩
 . obtain ⟨z,its,n,r,e⟩:=h.ok I.hok
   exact ⟨its,r,⟨_,n,e,rfl,rfl,rfl⟩,z⟩
 . refine ⟨its.toList,r,⟨o,n,I.kIn a o hk,hc,hd,by simpa using hs⟩,?_⟩
   have e:=r.length
   simp only [J7g] at e
   omega
theorem Inv.tuple (I:Inv X pins σ H s) (h:SqT X.K H a xs):∃ its:List Ycf,J9 xs its/\IsTup s.heap a its.toArray/\xs.length<=sizeLine:=by
 rcases h with h | ⟨o,its,n,hk,hc,hs,hz,r⟩
 . obtain ⟨z,its,r,p⟩:=h.ok I.hok
   exact ⟨its,r,p,z⟩
 . refine ⟨its.toList,r,⟨o,I.kIn a o hk,hc,n,by simpa using hs⟩,?_⟩
   have e:=r.length
   simp only [J7g] at e
   omega
theorem Inv.list_inj (I:Inv X pins σ H s) (h:SqL X.K H a xs) (h':SqL X.K H a ys):xs=ys:=by
 obtain ⟨its,r,⟨o,n,e,_,_,d⟩,_⟩:=I.list h
 obtain ⟨its',r',⟨o',n',e',_,_,d'⟩,_⟩:=I.list h'
 rw [e] at e';cases e'
 rw [d] at d'
 injection d' with d1 _
 have:its=its':=by simpa using congrArg J95 d1
 subst this
 exact r.inj r'
theorem Inv.tuple_inj (I:Inv X pins σ H s) (h:SqT X.K H a xs) (h':SqT X.K H a ys):xs=ys:=by
 obtain ⟨its,r,⟨o,e,_,n,d⟩,_⟩:=I.tuple h
 obtain ⟨its',r',⟨o',e',_,n',d'⟩,_⟩:=I.tuple h'
 rw [e] at e';cases e'
 rw [d] at d'
 injection d' with d1 _
 have:its=its':=by simpa using congrArg J95 d1
 subst this
 exact r.inj r'
end
noncomputable abbrev Cx.wish (X:Cx) (E:Ycf->Ycg->Prop):Cx:={ X with xe:=E }
noncomputable abbrev Cx.nox (X:Cx):Cx:=X.wish λ _ _=>False
theorem Cx.Ok.wish {X:Cx}(ok:X.Ok) (E:Ycf->Ycg->Prop):(X.wish E).Ok:=
 ⟨ok.mod,ok.kind,ok.glob,ok.blt,ok.above,ok.inj,ok.has,ok.cab,ok.hd,ok.frames,ok.stk,ok.exf,ok.bs,ok.bsz,ok.noex,ok.exfs,ok.funs,ok.frf⟩
theorem Cx.Ok.unwish {X:Cx}{E:Ycf->Ycg->Prop}(ok:(X.wish E).Ok):X.Ok:=
 ⟨ok.mod,ok.kind,ok.glob,ok.blt,ok.above,ok.inj,ok.has,ok.cab,ok.hd,ok.frames,ok.stk,ok.exf,ok.bs,ok.bsz,ok.noex,ok.exfs,ok.funs,ok.frf⟩
section
variable {X:Cx}{pins:List (Addr×Obj)}{σ:St}{H:Hp}{s:Ycg}{E:Ycf->Ycg->Prop}
theorem Inv.wish (I:Inv X pins σ H s) (E:Ycf->Ycg->Prop):Inv (X.wish E) pins σ H s:=⟨I.ok.wish E,I.os,I.bare,I.base,I.loc,I.cell,I.free,I.freeC,I.pin,I.hok,I.len⟩
theorem Inv.unwish (I:Inv (X.wish E) pins σ H s):Inv X pins σ H s:=⟨I.ok.unwish,I.os,I.bare,I.base,I.loc,I.cell,I.free,I.freeC,I.pin,I.hok,I.len⟩
theorem SP.unwish {D:Ends}{f:Flow}{s':Ycg}(h:SP (X.wish E) pins D f s'):SP X pins D f s':=by
 cases f with
 | next=>obtain ⟨σ',H',I,q⟩:=h;exact ⟨σ',H',I.unwish,q⟩
 | brk=>obtain ⟨σ',H',I,q⟩:=h;exact ⟨σ',H',I.unwish,q⟩
 | cont=>obtain ⟨σ',H',I,q⟩:=h;exact ⟨σ',H',I.unwish,q⟩
 | ret u=>obtain ⟨v,σ',H',I,r,q⟩:=h;exact ⟨v,σ',H',I.unwish,r,q⟩
theorem PSs.nox {st:List Stmt}{t:TS}(h:PSs X.nox st t):PSs X st t:=λ pins s σ H D I hw=>
 wpAny_mono (h pins s σ H D (I.wish _) hw) (λ _ _ q=>q.unwish) λ _ _ z=>X8 z
end
section
variable {X:Cx}{st:Stmt}{rest:List Stmt}{t u:TS}{e:Expr}{te:TE}{pos:Pos}
def Jy8:TS:=λ D σ H=>D.nx σ H
def Joe (t u:TS):TS:=λ D σ H=>t { D with nx:=u D } σ H
theorem J0:PSs X [] Jy8:=λ _ _ σ H _ I h=>Ydc ⟨σ,H,I,h⟩
theorem Jb (h1:PS X st t) (h2:PSs X rest u):PSs X (st::rest) (Joe t u):=by
 intro pins s σ H D I h
 refine Ydo (thn (h1 pins s σ H { D with nx:=u D } I h) λ f s1 q=>?_)
 cases f with
 | next=>
  obtain ⟨σ',H',I',q⟩:=q
  exact h2 pins s1 σ' H' D I' q
 | ret v=>exact q
 | brk=>exact q
 | cont=>exact q
theorem Jg (h1:PS X st t):PSs X [st] t:=by
 intro pins s σ H D I h
 refine Ydo (thn (h1 pins s σ H D I h) λ f s1 q=>?_)
 cases f with
 | next=>exact Ydc q
 | ret v=>exact q
 | brk=>exact q
 | cont=>exact q
theorem Inv.quiet {pins:List (Addr×Obj)}{σ:St}{H:Hp}{s:Ycg}(I:Inv X pins σ H s):interactive X.env=false:=by simp [interactive,I.ok.kind]
def Jth (te:TE):TS:=λ D σ H=>te σ H λ _ H1=>D.nx σ H1
theorem Vt (he:PE X e te) (hs:Yc0 e none pos.line X.env=pure false:=by rfl):PS X (.Expr e pos) (Jth te):=by
 intro pins s σ H D I h
 exact wpAny_Expr_any (thn (he pins s σ H _ I h) λ v s1 ⟨x,H1,I1,r1,q1⟩=>⟨σ,H1,I1,q1⟩) I.quiet hs
def Jrb (te:TE):TS:=λ D σ H=>te σ H D.rt
theorem Jr (he:PE X e te):PS X (.Return (some e) pos) (Jrb te):=by
 intro pins s σ H D I h
 exact wpAny_Return_some (thn (he pins s σ H _ I h) λ v s1 ⟨x,H1,I1,r1,q1⟩=>⟨x,σ,H1,I1,r1,q1⟩)
def J0h (c:TT) (t u:TS):TS:=λ D σ H=>c σ H λ b H1=>if b=true then t D σ H1 else u D σ H1
theorem Yw {c:Expr}{a b:List Stmt}{tc:TT}(hc:PT X c tc) (ha:PSs X a t) (hb:PSs X b u):PS X (.If c a b pos) (J0h tc t u):=by
 intro pins s σ H D I h
 refine wpAny_If (thn (hc pins s σ H _ I h) λ d s1 ⟨H1,I1,q1⟩=>?_)
 cases d with
 | true=>exact ha pins s1 σ H1 D I1 q1
 | false=>exact hb pins s1 σ H1 D I1 q1
def Jti:TS:=λ _ _ _=>False
theorem Jaj {sts:List Stmt}:PSs X sts Jti:=λ _ _ _ _ _ _ h=>h.elim
end
abbrev TG:=V->St->Hp->(St->Hp->Prop)->Prop
abbrev TGs:=List V->St->Hp->(St->Hp->Prop)->Prop
def PG (X:Cx) (target:Expr) (t:TG):Prop:=
 ∀ (pins:List (Addr×Obj)) (s:Ycg) (σ:St) (H:Hp) (v:V) (u:Ycf) (Q:St->Hp->Prop),Inv X pins σ H s->Yc v u->t v σ H Q ->
  Ych (model X.prog X.w) X.A (assign target X.env u) (λ _ s'=>∃ σ' H',Inv X pins σ' H' s'/\Q σ' H') X.xe s
def PGs (X:Cx) (ts:List Expr) (t:TGs):Prop:=
 ∀ (pins:List (Addr×Obj)) (s:Ycg) (σ:St) (H:Hp) (vs:List V) (us:List Ycf) (Q:St->Hp->Prop),Inv X pins σ H s->J9 vs us->t vs σ H Q ->
  Ych (model X.prog X.w) X.A (assignInOrder ((assignEach ts X.env).map (·.2)) us) (λ _ s'=>∃ σ' H',Inv X pins σ' H' s'/\Q σ' H') X.xe s
abbrev Jtj:=V->V->V->Hp->(Hp->Prop)->Prop
def J0i (X:Cx) (t:Jtj):Prop:=
 ∀ (pins:List (Addr×Obj)) (s:Ycg) (σ:St) (H:Hp) (o i v:V) (ov iv u:Ycf) (Q:Hp->Prop),Inv X pins σ H s->Yc o ov->Yc i iv->Yc v u->t o i v H Q ->
  Ych (model X.prog X.w) X.A (setItem ov iv u) (λ _ s'=>∃ H',Inv X pins σ H' s'/\Q H') X.xe s
abbrev TIp:=V->V->Hp->VK->Prop
def PIp (X:Cx) (op:Ydi) (t:TIp):Prop:=
 ∀ (pins:List (Addr×Obj)) (s:Ycg) (σ:St) (H:Hp) (x y:V) (v u:Ycf) (Q:VK),Inv X pins σ H s->Yc x v->Yc y u->t x y H Q ->
  Ych (model X.prog X.w) X.A (inplaceOp op v u) (EP X pins σ Q) X.xe s
section
variable {X:Cx}{pos:Pos}
def W6 (i:Nat):TG:=λ v σ H Q=>Q (σ.set i (some v)) H
theorem Ju {i:Nat}{x:Str}(hN:X.N.Nodup) (hi:X.N[i]? = some x) (hx:Loc X.env.scope x) (hf:X.fn x=true\/X.env.scope.names.lookup x=some .local := by first | exact .inl rfl | exact .inr rfl | assumption):PG X (.Name x pos) (W6 i):=by
 intro pins s σ H v u Q I r h
 exact Ydl (Jl6 I hN hi hx r (λ s' I'=>⟨_,H,I',h⟩) hf)
def gNil:TGs:=λ vs σ H Q=>vs=[]/\Q σ H
def gCons (t:TG) (u:TGs):TGs:=λ vs σ H Q=>∃ v r,vs=v::r/\t v σ H λ σ' H'=>u r σ' H' Q
theorem Jj1:PGs X [] gNil:=by
 intro pins s σ H vs us Q I r h
 obtain ⟨e,h⟩:=h
 subst e
 cases r
 exact assignInOrder_nil ⟨σ,H,I,h⟩
theorem Bl {e:Expr}{es:List Expr}{t:TG}{u:TGs}(h1:PG X e t) (h2:PGs X es u)
 (hs:(assignEach (e::es) X.env).map (·.2)=assign e X.env::(assignEach es X.env).map (·.2):=by rfl):PGs X (e::es) (gCons t u):=by
 intro pins s σ H vs us Q I r h
 obtain ⟨v,vr,e1,h⟩:=h
 subst e1
 cases r with
 | cons r rr=>
  rw [hs]
  refine assignInOrder_cons (thn (h1 pins s σ H _ _ _ I r h) λ _ s1 ⟨σ1,H1,I1,q1⟩=>?_)
  exact h2 pins s1 σ1 H1 _ _ Q I1 rr q1
def Jtk (K:Qc) (n:Nat) (t:TGs):TG:=λ v σ H Q=>∃ a xs,v = .ref a/\SqT K H a xs/\xs.length=n/\t xs σ H Q
theorem Jof {es:List Expr}{k:Nat}{t:TGs}{n:Nat}(hc:X.calm=true) (h:PGs X es t)
 (hn:(assignEach es X.env).length=n:=by rfl) (hst:(assignEach es X.env).findIdx? (·.1)=none:=by rfl):PG X (.Tuple es k pos) (Jtk X.K n t):=by
 intro pins s σ H v u Q I r hw
 obtain ⟨a,xs,e1,hq,hl,hw⟩:=hw
 subst e1
 cases r
 obtain ⟨its,rv,ht,hz⟩:=I.tuple hq
 refine assign_Tuple_tuple (I.ok.hd hc) ht (by simp [hn,<- hl,rv.length]) hst λ h' hx=>?_
 have I1:Inv X pins σ H { s with heap:=h' }:=I.kept (t':=s.toks) λ b o e=>hx b o (Xf (Qp e)) e
 exact h pins _ σ H xs _ Q I1 (by simpa using rv) hw
def Jtl (to ti:TE) (t:Jtj):TG:=λ v σ H Q=>to σ H λ o H1=>ti σ H1 λ i H2=>t o i v H2 λ H3=>Q σ H3
theorem Jog {o i:Expr}{to ti:TE}{t:Jtj}(ho:PE X o to) (hi:PE X i ti) (hs:J0i X t)
 (ha:∀ v,assign (.Subscript o i pos) X.env v=(do
  let ov <- Ycs [v] (eval o X.env)
  let iv <- Ycs [v,ov] (eval i X.env)
  Yc3 pos
  Ycs [v,ov,iv] (setItem ov iv v)
  release [v,ov,iv] []):=by intro _;rfl):PG X (.Subscript o i pos) (Jtl to ti t):=by
 intro pins s σ H v u Q I r h
 rw [ha]
 refine wpAny_bind (wpAny_holding (thn (ho pins s σ H _ I h) λ ov s1 ⟨x,H1,I1,r1,q1⟩=>?_))
 refine wpAny_bind (wpAny_holding (thn (hi pins s1 σ H1 _ I1 q1) λ iv s2 ⟨y,H2,I2,r2,q2⟩=>?_))
 refine wpAny_bind (wpAny_standAt (wpAny_bind (wpAny_holding (thn (hs pins s2 σ H2 x y v ov iv u _ I2 r1 r2 r q2) λ _ s3 ⟨H3,I3,q3⟩=>?_))))
 exact wpAny_release ⟨σ,H3,I3,q3⟩
def Jcf (te:TE) (g:TG):TS:=λ D σ H=>te σ H λ x H1=>g x σ H1 D.nx
theorem Zq {tg e:Expr}{te:TE}{g:TG}(he:PE X e te) (hg:PG X tg g) (hs:swapsWithSole [tg] e pos.line X.env=pure false:=by rfl) (hw:swappedStores [tg] e X.env=pure none:=by rfl)
 (h1:(assignEach [tg] X.env).map (·.2)=[assign tg X.env]:=by rfl):PS X (.Assign [tg] e pos) (Jcf te g):=by
 intro pins s σ H D I h
 refine wpAny_Assign_stores (thn (he pins s σ H _ I h) λ v s1 ⟨x,H1,I1,r1,q1⟩=>?_) hs hw
 rw [h1]
 exact thn (hg pins s1 σ H1 x v _ I1 r1 q1) λ _ s2 q=>q
theorem Js {i:Nat}{x:Str}{e:Expr}{te:TE}{pos':Pos}(hN:X.N.Nodup) (hi:X.N[i]? = some x) (hx:Loc X.env.scope x) (he:PE X e te) (hs:Yc0 e (some (.Name x pos')) pos.line X.env=pure false:=by rfl) (hf:X.fn x=true\/X.env.scope.names.lookup x=some .local := by first | exact .inl rfl | exact .inr rfl | assumption) :
 PS X (.Assign [.Name x pos'] e pos) (Jcf te (W6 i)):=by
 intro pins s σ H D I h
 refine wpAny_Assign_Name (thn (he pins s σ H _ I h) λ v s1 ⟨y,H1,I1,r1,q1⟩=>?_) hs
 exact Jl6 I1 hN hi hx r1 (λ s2 I2=>⟨_,H1,I2,q1⟩) hf
def Jy9 (to ti te:TE) (tget:V->V->Hp->VK->Prop) (tip:TIp) (tset:Jtj):TS:=λ D σ H=>to σ H λ o H1=>ti σ H1 λ i H2=>tget o i H2 λ x H3=>te σ H3 λ y H4=>tip x y H4 λ z H5=>tset o i z H5 λ H6=>D.nx σ H6
def J2k (X:Cx) (t:V->V->Hp->VK->Prop):Prop:=
 ∀ (pins:List (Addr×Obj)) (s:Ycg) (σ:St) (H:Hp) (o i:V) (ov iv:Ycf) (Q:VK),Inv X pins σ H s->Yc o ov->Yc i iv->t o i H Q ->
  Ych (model X.prog X.w) X.A (getItem ov iv) (EP X pins σ Q) X.xe s
theorem Jj2 {o i e:Expr}{to ti te:TE}{tget:V->V->Hp->VK->Prop}{tip:TIp}{tset:Jtj}{op:Ydi}{tpos:Pos}(ho:PE X o to) (hi:PE X i ti) (hg:J2k X tget) (he:PE X e te) (hp:PIp X op tip) (hs:J0i X tset)
 (ha:∀ ov iv new,augStore i ov iv new=(do Ycs [new,ov,iv] (setItem ov iv new);release [new,ov,iv] [];pure .next):=by intros;rfl):PS X (.AugAssign (.Subscript o i tpos) op e pos) (Jy9 to ti te tget tip tset):=by
 intro pins s σ H D I h
 refine wpAny_AugAssign_SubscriptAny (thn (ho pins s σ H _ I h) λ ov s1 ⟨x1,H1,I1,r1,q1⟩=>?_) ha
 refine thn (hi pins s1 σ H1 _ I1 q1) λ iv s2 ⟨x2,H2,I2,r2,q2⟩=>?_
 refine thn (hg pins s2 σ H2 x1 x2 ov iv _ I2 r1 r2 q2) λ old s3 ⟨x3,H3,I3,r3,q3⟩=>?_
 refine thn (he pins s3 σ H3 _ I3 q3) λ v s4 ⟨x4,H4,I4,r4,q4⟩=>?_
 refine thn (hp pins s4 σ H4 x3 x4 old v _ I4 r3 r4 q4) λ new s5 ⟨x5,H5,I5,r5,q5⟩=>?_
 exact thn (hs pins s5 σ H5 x1 x2 x5 ov iv new _ I5 r1 r2 r5 q5) λ _ s6 ⟨H6,I6,q6⟩=>⟨σ,H6,I6,q6⟩
def ipI (f:Int->Int->Int):TIp:=λ x y H Q=>∃ i j,x = .int i/\y = .int j/\Q (.int (f i j)) H
theorem J0j:PIp X .Add (ipI λ i j=>i+j):=by
 intro pins s σ H x y v u Q I r1 r2 h
 obtain ⟨i,j,e1,e2,q⟩:=h
 subst e1;subst e2
 obtain ⟨t,rfl⟩:=r1
 obtain ⟨t',rfl⟩:=r2
 exact iadd_int ⟨.int _,H,I.tok _,⟨_,rfl⟩,q⟩
theorem Jtm:PIp X .Sub (ipI λ i j=>i-j):=by
 intro pins s σ H x y v u Q I r1 r2 h
 obtain ⟨i,j,e1,e2,q⟩:=h
 subst e1;subst e2
 obtain ⟨t,rfl⟩:=r1
 obtain ⟨t',rfl⟩:=r2
 exact isub_int ⟨.int _,H,I.tok _,⟨_,rfl⟩,q⟩
end
section
variable {X:Cx}{pos:Pos}
def Jtn (c:TT) (tb:TS):TS:=λ D σ H=>∃ W:Nat->St->Hp->Prop,(∃ m,W m σ H)/\∀ m σ H,W m σ H ->
 c σ H λ b H1=>if b=true then ∃ N:St->Hp->Prop,(∀ σ' H',N σ' H'->∃ m',m'<m/\W m' σ' H')/\tb { D with nx:=N,ct:=N,bk:=D.nx } σ H1 else D.nx σ H1
theorem Jc7 {c:Expr}{body:List Stmt}{tc:TT}{tb:TS}(hp:PassesOwn (model X.prog X.w) X.A X.env X.xe) (hc:PT X c tc) (hb:PSs X body tb):PS X (.While c body [] pos) (Jtn tc tb):=by
 intro pins s σ H D I h
 obtain ⟨W,⟨m0,w0⟩,turn⟩:=h
 refine wpAny_While (codeAny_whileLoop (λ n s'=>∃ σ' H',Inv X pins σ' H' s'/\W n σ' H') ?_ m0 ⟨σ,H,I,w0⟩)
 rintro n s1 ⟨σ1,H1,I1,w1⟩
 refine Yc4 hp (thn (hc pins s1 σ1 H1 _ I1 (turn n σ1 H1 w1)) λ b s2 ⟨H2,I2,q2⟩=>?_)
 cases b with
 | true=>
  obtain ⟨N,hN,q2⟩:=q2
  rw [if_pos rfl]
  refine Yc4 hp (thn (hb pins s2 σ1 H2 _ I2 q2) λ f s3 q3=>?_)
  cases f with
  | next=>
   obtain ⟨σ3,H3,I3,n3⟩:=q3
   obtain ⟨m',hm,w3⟩:=hN σ3 H3 n3
   exact ⟨m',hm,σ3,H3,I3,w3⟩
  | cont=>
   obtain ⟨σ3,H3,I3,n3⟩:=q3
   obtain ⟨m',hm,w3⟩:=hN σ3 H3 n3
   exact ⟨m',hm,σ3,H3,I3,w3⟩
  | brk=>exact q3
  | ret v=>exact q3
 | false=>
  rw [if_neg Q7]
  exact Ydc ⟨σ1,H2,I2,q2⟩
end
structure It where
 go:Nat->Hp->Prop
 yld:Nat->Hp->V->Hp->Prop
 stop:Nat->Hp->Prop
def Jbj (X:Cx) (pins:List (Addr×Obj)) (H:Hp) (b:Addr):Prop:=
 H b=none/\b≠X.env.locals/\b∉X.fs/\(b∈X.ex\/X.s₀.heap.objs.size<=b)/\(∀ x c,X.env.cells.lookup x=some c->c≠b)/\∀ p∈X.pn++pins,p.1≠b
theorem Inv.fpOk {X:Cx}{pins:List (Addr×Obj)}{σ:St}{H H':Hp}{s:Ycg}{b:Addr}(I:Inv X pins σ H s) (hb:s.heap.objs.size<=b) (hn:H' b=none):Jbj X pins H' b:=by
 refine ⟨hn,U9 (Xn I.lt hb),I.nofs hb,.inr (Xk I.sz hb),λ x c e z=>?_,λ p hp z=>?_⟩
 . obtain ⟨v,q⟩:=I.cell x c e
   exact absurd (Xn q.lt (by rw [z];exact hb)) (Xe _)
 . exact absurd (Xn (Qp (I.pin p hp).1) (by rw [z];exact hb)) (Xe _)
structure Turn (P:Ycj) (w:Yci) (K:Qc) (tg:Expr) (J:It) (fp:List Addr) (it:Addr) (tn:Nat->Heap->Prop):Prop where
 mem:it∈fp
 obj:∀ i h,tn i h->∀ b∈fp,∃ o,h.get? b=some o/\∀ v,o.data≠.cell v
 keep:∀ i h h',tn i h->(∀ b∈fp,∀ o,h.get? b=some o->h'.get? b=some o)->tn i h'
 item:∀ (X:Cx),X.prog=P->X.w=w->X.K=K->X.calm=true->∀ (i:Nat) (pins:List (Addr×Obj)) (s:Ycg) (σ:St) (H:Hp) (E:Ycf->Ycg->Prop),Inv X pins σ H s->(∀ b∈fp,Jbj X pins H b)->tn i s.heap->J.go i H ->
  Ych (model P w) X.A (pyNext (.ref it)) (λ r s1=>∃ u,r=some u /\
   Ych (model P w) X.A (letOwnedTupleGo tg (.ref it) u) (λ _ s2=>∃ x H',Inv X pins σ H' s2/\Yc x u/\J.yld i H x H'/\tn (i+1) s2.heap/\∀ b∈fp,H' b=none) E s1) E s
 done:∀ (X:Cx),X.prog=P->X.w=w->X.K=K->X.calm=true->∀ (i:Nat) (pins:List (Addr×Obj)) (s:Ycg) (σ:St) (H:Hp) (E:Ycf->Ycg->Prop),Inv X pins σ H s->(∀ b∈fp,Jbj X pins H b)->tn i s.heap->J.stop i H ->
  Ych (model P w) X.A (pyNext (.ref it)) (λ r s1=>r=none/\Inv X pins σ H s1) E s
 self:∀ (A:Yck) (i:Nat) (s:Ycg) (Q:Ycf->Ycg->Prop) (E:Ycf->Ycg->Prop),tn i s.heap->Q (.ref it) s->Ych (model P w) A (pyIter (.ref it)) Q E s
abbrev TI:=St->Hp->(It->Hp->Prop)->Prop
def PIE (X:Cx) (pins:List (Addr×Obj)) (σ:St) (tg:Expr) (R:It->Hp->Prop) (itv:Ycf) (s2:Ycg):Prop:=
 ∃ (it:Addr) (fp:List Addr) (tn:Nat->Heap->Prop) (J:It) (H':Hp),itv = .ref it/\Inv X pins σ H' s2/\Turn X.prog X.w X.K tg J fp it tn/\tn 0 s2.heap/\(∀ b∈fp,Jbj X pins H' b)/\R J H'
def PI (X:Cx) (tg iter:Expr) (wi:TI):Prop:=
 ∀ (pins:List (Addr×Obj)) (s:Ycg) (σ:St) (H:Hp) (R:It->Hp->Prop),Inv X pins σ H s->wi σ H R ->
  Ych (model X.prog X.w) X.A (eval iter X.env) (λ v s1=>Ych (model X.prog X.w) X.A (pyIter v) (PIE X pins σ tg R) X.xe s1) X.xe s
theorem Jto {M:Model}{A:Yck}{E:Ycf->Ycg->Prop}{s:Ycg}{tg:Expr}{it:Addr}{u:Ycf}{o:Obj}{n:String}{vs:Array Ycf}{Q:Unit->Ycg->Prop}(ho:s.heap.get? it=some o) (hc:o.cls = .type n) (hd:o.data = .fields vs)
 (hn:["enumerate","zip","dict_itemiterator","dict_reverseitemiterator","odict_iterator","itertools.zip_longest","itertools.pairwise"].contains n=false) (hQ:Q () s):Ych M A (letOwnedTupleGo tg (.ref it) u) Q E s:=by
 unfold letOwnedTupleGo
 cases tg<;>first
  | exact wpAny_pure hQ
  | (cases u<;>first
   | exact wpAny_pure hQ
   | (refine wpAny_bind (wpAny_load ho ?_)
      rw [hc,hd]
      show Ych M A (if (["enumerate","zip","dict_itemiterator","dict_reverseitemiterator","odict_iterator","itertools.zip_longest","itertools.pairwise"].contains n&&vs[0]? == some (rawInt _))=true then _ else _) Q E s
      rw [if_neg (by intro h;rw [hn,J96] at h;cases h)]
      exact wpAny_pure hQ))
noncomputable def Itl (K:Qc) (a:Addr):It:=
 ⟨λ i H=>∃ xs x,SqL K H a xs/\xs[i]? = some x,λ i H x H'=>H'=H/\∀ xs,SqL K H a xs->xs[i]? = some x,λ i H=>∃ xs,SqL K H a xs/\xs.length<=i⟩
noncomputable def Itt (K:Qc) (a:Addr):It:=
 ⟨λ i H=>∃ xs x,SqT K H a xs/\xs[i]? = some x,λ i H x H'=>H'=H/\∀ xs,SqT K H a xs->xs[i]? = some x,λ i H=>∃ xs,SqT K H a xs/\xs.length<=i⟩
noncomputable def Itr (lo:Int) (n:Nat):It:=⟨λ i _=>i<n,λ i H x H'=>H'=H/\x = .int (lo+i),λ i _=>n<=i⟩
theorem Jrc {P:Ycj}{w:Yci}{K:Qc}{tg:Expr}(a it:Addr):Turn P w K tg (Itl K a) [it] it (λ i h=>h.IsListIter it a i) where
 mem:=by simp
 obj:=λ i h st b hb=>by
  have e:b=it:=by simpa using hb
  subst e
  obtain ⟨o,e,c,d⟩:=st
  exact ⟨o,e,λ v z=>by rw [d] at z;cases z⟩
 keep:=λ i h h' st k=>st.at λ o e=>k it (by simp) o e
 item:=by
  intro X hP hw hK hc i pins s σ H E I hf st hg
  subst hP hw hK
  obtain ⟨xs,x,hq,hx⟩:=hg
  obtain ⟨its,rv,p,hz⟩:=I.list hq
  obtain ⟨u,hu,ru⟩:=rv.get hx
  obtain ⟨f0,f1,f2,f3,f4,f5⟩:=hf it (by simp)
  refine wpAny_pyNext_list_item st p.isList (x:=u) (by simpa using hu) λ h' st' sb=>?_
  have I1:Inv X pins σ H { s with heap:=h' }:=I.turned (t':=s.toks) (λ b o hb e=>(sb.2 b hb).trans e) f0 f1 f3 f4 f5
  obtain ⟨o,e,c,d⟩:=id st'
  exact ⟨u,rfl,Jto (s:={ s with heap:=h' }) e c d (by decide) ⟨x,H,I1,ru,⟨rfl,λ ys hy=>by rw [I.list_inj hy hq];exact hx⟩,st',λ b hb=>(hf b hb).1⟩⟩
 done:=by
  intro X hP hw hK hc i pins s σ H E I hf st hg
  subst hP hw hK
  obtain ⟨xs,hq,hx⟩:=hg
  obtain ⟨its,rv,p,hz⟩:=I.list hq
  obtain ⟨f0,f1,f2,f3,f4,f5⟩:=hf it (by simp)
  have hl:=rv.length
  exact wpAny_pyNext_list_end (I.ok.hd hc) st p.isList (by simp;omega) λ h' eb=>⟨rfl,I.turned (t':=s.toks) (λ b o hb e=>eb b o hb e) f0 f1 f3 f4 f5⟩
 self:=λ _ _ _ _ _ st h=>wpAny_pyIter_listiter st h
theorem Joh {P:Ycj}{w:Yci}{K:Qc}{tg:Expr}(a it:Addr):Turn P w K tg (Itt K a) [it] it (λ i h=>h.IsTupleIter it a i) where
 mem:=by simp
 obj:=λ i h st b hb=>by
  have e:b=it:=by simpa using hb
  subst e
  obtain ⟨o,e,c,d⟩:=st
  exact ⟨o,e,λ v z=>by rw [d] at z;cases z⟩
 keep:=λ i h h' st k=>st.at λ o e=>k it (by simp) o e
 item:=by
  intro X hP hw hK hc i pins s σ H E I hf st hg
  subst hP hw hK
  obtain ⟨xs,x,hq,hx⟩:=hg
  obtain ⟨its,rv,p,hz⟩:=I.tuple hq
  obtain ⟨u,hu,ru⟩:=rv.get hx
  obtain ⟨f0,f1,f2,f3,f4,f5⟩:=hf it (by simp)
  refine wpAny_pyNext_tuple_item st (show s.heap.IsTuple a its.toArray from p) (x:=u) (by simpa using hu) λ h' st' sb=>?_
  have I1:Inv X pins σ H { s with heap:=h' }:=I.turned (t':=s.toks) (λ b o hb e=>(sb.2 b hb).trans e) f0 f1 f3 f4 f5
  obtain ⟨o,e,c,d⟩:=id st'
  exact ⟨u,rfl,Jto (s:={ s with heap:=h' }) e c d (by decide) ⟨x,H,I1,ru,⟨rfl,λ ys hy=>by rw [I.tuple_inj hy hq];exact hx⟩,st',λ b hb=>(hf b hb).1⟩⟩
 done:=by
  intro X hP hw hK hc i pins s σ H E I hf st hg
  subst hP hw hK
  obtain ⟨xs,hq,hx⟩:=hg
  obtain ⟨its,rv,p,hz⟩:=I.tuple hq
  obtain ⟨f0,f1,f2,f3,f4,f5⟩:=hf it (by simp)
  have hl:=rv.length
  exact wpAny_pyNext_tuple_end (I.ok.hd hc) st (show s.heap.IsTuple a its.toArray from p) (by simp;omega) λ h' eb=>⟨rfl,I.turned (t':=s.toks) (λ b o hb e=>eb b o hb e) f0 f1 f3 f4 f5⟩
 self:=λ _ _ _ _ _ st h=>wpAny_pyIter_tupleiter st h
theorem Joi {P:Ycj}{w:Yci}{K:Qc}{tg:Expr}(it:Addr) (lo:Int) (n:Nat):Turn P w K tg (Itr lo n) [it] it (λ i h=>IsRangeIter h it (lo+(i:Nat)*1) ((n:Int)-(i:Nat)) 1) where
 mem:=by simp
 obj:=λ i h st b hb=>by
  have e:b=it:=by simpa using hb
  subst e
  exact ⟨_,st,λ v z=>by
   have z':J7h _=J5h v:=z
   cases z'⟩
 keep:=λ i h h' st k=>k it (by simp) _ st
 item:=by
  intro X hP hw hK hc i pins s σ H E I hf st hg
  subst hP hw hK
  obtain ⟨f0,f1,f2,f3,f4,f5⟩:=hf it (by simp)
  have W:=Walks.range (prog:=X.prog) (w:=X.w) (I.ok.hd hc) it lo 1 n
  refine W.item i s _ _ hg st λ v h' tk hv st' kk=>?_
  obtain ⟨t,rfl⟩:=hv
  have I1:Inv X pins σ H { s with heap:=h',toks:=tk }:=I.turned (λ b o hb e=>kk b o (by simpa using hb) e) f0 f1 f3 f4 f5
  refine ⟨_,rfl,Jto (s:={ s with heap:=h',toks:=tk }) (n:="range_iterator") st' rfl rfl (by decide) ⟨.int (lo+i),H,I1,⟨t,?_⟩,⟨rfl,rfl⟩,st',λ b hb=>(hf b hb).1⟩⟩
  rw [J8g]
 done:=by
  intro X hP hw hK hc i pins s σ H E I hf st hg
  subst hP hw hK
  obtain ⟨f0,f1,f2,f3,f4,f5⟩:=hf it (by simp)
  exact wpAny_pyNext_range_end (I.ok.hd hc) st (by have:n<=i:=hg;omega) λ h' eb=>⟨rfl,I.turned (t':=s.toks) (λ b o hb e=>eb b o hb e) f0 f1 f3 f4 f5⟩
 self:=λ _ _ _ _ _ st h=>wpAny_pyIter_rangeiter st h
section
variable {X:Cx}{tg:Expr}
def Jtp (K:Qc) (tl:TE):TI:=λ σ H R=>tl σ H λ x H1=>∃ a,x = .ref a/\(∃ xs,SqL K H1 a xs)/\R (Itl K a) H1
def J2l (K:Qc) (tl:TE):TI:=λ σ H R=>tl σ H λ x H1=>∃ a,x = .ref a/\(∃ xs,SqT K H1 a xs)/\R (Itt K a) H1
theorem Wf {l:Expr}{tl:TE}(hl:PE X l tl):PI X tg l (Jtp X.K tl):=by
 intro pins s σ H R I h
 refine thn (hl pins s σ H _ I h) λ v s1 ⟨x,H1,I1,r1,q1⟩=>?_
 obtain ⟨a,e,⟨xs,hq⟩,q⟩:=q1
 subst e
 cases r1
 obtain ⟨its,rv,p,hz⟩:=I1.list hq
 refine wpAny_pyIter_list p.isList ?_
 refine ⟨s1.heap.objs.size,[s1.heap.objs.size],_,_,H1,rfl,I1.kept (t':=s1.toks) λ b o e=>Qk _ e,Jrc a _,⟨_,Q5 _ rfl,rfl,rfl⟩,λ b hb=>?_,q⟩
 have e:b=s1.heap.objs.size:=by simpa using hb
 subst e
 exact I1.fpOk (Qn _) (I1.hok.fresh (Qn _))
theorem Jax {l:Expr}{tl:TE}(hl:PE X l tl):PI X tg l (J2l X.K tl):=by
 intro pins s σ H R I h
 refine thn (hl pins s σ H _ I h) λ v s1 ⟨x,H1,I1,r1,q1⟩=>?_
 obtain ⟨a,e,⟨xs,hq⟩,q⟩:=q1
 subst e
 cases r1
 obtain ⟨its,rv,p,hz⟩:=I1.tuple hq
 refine wpAny_pyIter_tuple (show s1.heap.IsTuple a its.toArray from p) ?_
 refine ⟨s1.heap.objs.size,[s1.heap.objs.size],_,_,H1,rfl,I1.kept (t':=s1.toks) λ b o e=>Qk _ e,Joh a _,⟨_,Q5 _ rfl,rfl,rfl⟩,λ b hb=>?_,q⟩
 have e:b=s1.heap.objs.size:=by simpa using hb
 subst e
 exact I1.fpOk (Qn _) (I1.hok.fresh (Qn _))
theorem Jtq {pins:List (Addr×Obj)}{σ:St}{H:Hp}{s:Ycg}{R:It->Hp->Prop}{E:Ycf->Ycg->Prop}{lo hi:Int}{t u v:Tok}{tk:Nat}(I:Inv X pins σ H s) (h1:-(2^62)<=lo) (h2:lo<2^62) (h3:-(2^62)<=hi) (h4:hi<2^62)
 (q:R (Itr lo (hi-lo).toNat) H):Ych (model X.prog X.w) X.A (pyIter (.ref s.heap.objs.size)) (PIE X pins σ tg R) E { s with heap:=s.heap.push { cls:=.type "range",data:=.fields #[.int lo t,.int hi u,.int 1 v] },toks:=tk }:=by
 refine wpAny_pyIter_range (IsRange.new ..) (small_one h1 h2 h3 h4) ?_
 have I1:Inv X pins σ H { s with heap:=s.heap.push { cls:=.type "range",data:=.fields #[.int lo t,.int hi u,.int 1 v] },toks:=tk }:=I.kept λ b o e=>Qk _ e
 refine ⟨(s.heap.push { cls:=.type "range",data:=.fields #[.int lo t,.int hi u,.int 1 v] }).objs.size,[(s.heap.push { cls:=.type "range",data:=.fields #[.int lo t,.int hi u,.int 1 v] }).objs.size],_,_,H,rfl,
  I1.kept (t':=tk) λ b o e=>Qk _ e,Joi _ lo (hi-lo).toNat,?_,λ b hb=>?_,q⟩
 . have e1:lo+((0:Nat):Int)*1=lo:=by simp
   have e2:(((hi-lo).toNat:Nat):Int)-((0:Nat):Int)=Ybx lo hi 1:=by rw [rangeSize_one];split<;>omega
   show IsRangeIter _ _ (lo+((0:Nat):Int)*1) ((((hi-lo).toNat:Nat):Int)-((0:Nat):Int)) 1
   rw [e1,e2]
   exact Q5 _ rfl
 . have e:b=(s.heap.push { cls:=.type "range",data:=.fields #[.int lo t,.int hi u,.int 1 v] }).objs.size:=by simpa using hb
   subst e
   exact I1.fpOk (Qn _) (I1.hok.fresh (Qn _))
def Jza (ta:TA):TI:=λ σ H R=>ta σ H λ vs H1=>∃ j:Int,vs=[.int j]/\-(2^62)<=j/\j<2^62/\R (Itr 0 j.toNat) H1
theorem Zc {a:Expr}{ta:TA}{p pos:Pos}(hg:Gl X "range") (hm:X.mg "range" = none) (ha:PA X [a] ta) (hs:starEach [a] X.env=[(false,eval a X.env)]:=by rfl):PI X tg (.Call (.Name "range" p) [a] [] pos) (Jza ta):=by
 intro pins s σ H R I h
 refine Call_ (Jbi I hg hm boot_range (J6c (thn (ha pos pins s σ H _ I h) λ us s1 ⟨vs,H1,I1,r1,q1⟩=>?_) hs rfl))
 obtain ⟨j,e,q1,q2,q⟩:=q1
 subst e
 cases r1 with
 | cons r rr=>
  cases rr
  obtain ⟨t,rfl⟩:=r
  exact call_range_1 (Jtq I1 (by omega) (by omega) q1 q2 (by simpa using q))
def J2m (wi:TI) (g:TG) (tb:TS):TS:=λ D σ H=>wi σ H λ J H1=>∃ W:Nat->Nat->St->Hp->Prop,(∃ m,W 0 m σ H1)/\∀ i m σ H,W i m σ H ->
 (J.stop i H/\D.nx σ H)\/(J.go i H/\∃ N:St->Hp->Prop,(∀ σ' H',N σ' H'->∃ m',m'<m/\W (i+1) m' σ' H')/\∀ x H',J.yld i H x H'->g x σ H' λ σ2 H2=>tb { D with nx:=N,ct:=N,bk:=D.nx } σ2 H2)
noncomputable def Jco (fp:List Addr) (h:Heap):List (Addr×Obj):=fp.filterMap λ b=>(h.get? b).map λ o=>(b,o)
theorem Z7 {fp:List Addr}{h:Heap}{b:Addr}{o:Obj}(hb:b∈fp) (e:h.get? b=some o):(b,o)∈Jco fp h:=J8h.mpr ⟨b,hb,by rw [e];rfl⟩
theorem Jrd {fp:List Addr}{h:Heap}{p:Addr×Obj}(hp:p∈Jco fp h):p.1∈fp/\h.get? p.1=some p.2:=by
 obtain ⟨b,hb,e⟩:=J8h.mp hp
 cases q:h.get? b with
 | none=>rw [q] at e;cases e
 | some o=>
  rw [q] at e
  have e':(b,o)=p:=Xd e
  subst e'
  exact ⟨hb,q⟩
theorem Inv.pinned {pins:List (Addr×Obj)}{σ:St}{H:Hp}{s:Ycg}{fp:List Addr}(I:Inv X pins σ H s) (hf:∀ b∈fp,Jbj X pins H b) (ho:∀ b∈fp,∃ o,s.heap.get? b=some o/\∀ v,o.data≠.cell v):Inv X (pins++Jco fp s.heap) σ H s:=
 I.pins_of λ p hp=>(Qz.mp hp).elim (λ z=>I.pin p (Q8 _ z)) λ z=>by
  obtain ⟨hb,e⟩:=Jrd z
  obtain ⟨f0,f1,f2,_⟩:=hf p.1 hb
  obtain ⟨o,e',d⟩:=ho p.1 hb
  rw [e] at e';cases e'
  exact ⟨e,f0,f1,f2,d⟩
theorem Inv.unpinned {pins pl:List (Addr×Obj)}{σ:St}{H:Hp}{s:Ycg}(I:Inv X (pins++pl) σ H s):Inv X pins σ H s:=I.pins_of λ p hp=>I.pin p (Q8 _ (Xu _ hp))
theorem Z1 {iter:Expr}{body:List Stmt}{wi:TI}{g:TG}{tb:TS}{pos:Pos}(hp:PassesOwn (model X.prog X.w) X.A X.env X.xe) (hc:X.calm=true) (hi:PI X tg iter wi) (hg:PG X tg g) (hb:PSs X body tb)
 (hs:∀ x,Ydd iter X.env x=pure x:=by intro _;rfl):PS X (.For tg iter body [] pos) (J2m wi g tb):=by
 intro pins s σ H D I h
 refine wpAny_For (thn (hi pins s σ H _ I h) λ v s1 h1=>thn h1 λ itv s2 h2=>?_) hs
 obtain ⟨it,fp,tn,J,H2,e,I2,T,st2,f2,W,⟨m0,w0⟩,turn⟩:=h2
 subst e
 -- what stays true of the iterator's objects through the loop
 have stat:∀ {H':Hp},(∀ b∈fp,H' b=none)->∀ b∈fp,Jbj X pins H' b:=λ hn b hb=>⟨hn b hb,(f2 b hb).2⟩
 refine codeAny_forLoop_any (λ n s'=>∃ i σ' H',Inv X pins σ' H' s'/\tn i s'.heap/\(∀ b∈fp,H' b=none)/\W i n σ' H') ?_ m0 ⟨0,σ,H2,I2,st2,λ b hb=>(f2 b hb).1,w0⟩
 rintro n s3 ⟨i,σ3,H3,I3,st3,fr3,w3⟩
 rcases turn i n σ3 H3 w3 with ⟨stop,qn⟩ | ⟨go,N,hN,step⟩
 . refine Yc4 hp (thn (T.done X rfl rfl rfl hc i pins s3 σ3 H3 X.xe I3 (stat fr3) st3 stop) λ r s4 ⟨hr,I4⟩=>?_)
   subst hr
   exact Ydc ⟨σ3,H3,I4,qn⟩
 . refine Yc4 hp (thn (T.item X rfl rfl rfl hc i pins s3 σ3 H3 X.xe I3 (stat fr3) st3 go) λ r s4 ⟨u,hr,h4⟩=>?_)
   subst hr
   refine Yc4 hp (thn h4 λ _ s5 ⟨x,H5,I5,r5,y5,st5,fr5⟩=>?_)
   have I5':=I5.pinned (stat fr5) (T.obj _ _ st5)
   refine Yc4 hp (thn (hg _ s5 σ3 H5 x u _ I5' r5 (step x H5 y5)) λ _ s6 ⟨σ6,H6,I6,q6⟩=>?_)
   refine Yc4 hp (thn (hb _ s6 σ6 H6 _ I6 q6) λ f s7 q7=>?_)
   have again:∀ {σ7:St} {H7:Hp},Inv X (pins++Jco fp s5.heap) σ7 H7 s7->N σ7 H7->∃ m,m<n/\∃ i σ' H',Inv X pins σ' H' s7/\tn i s7.heap/\(∀ b∈fp,H' b=none)/\W i m σ' H':=λ {σ7 H7} I7 n7=>by
    obtain ⟨m',hm,w7⟩:=hN σ7 H7 n7
    refine ⟨m',hm,i+1,σ7,H7,I7.unpinned,T.keep _ _ _ st5 λ b hb o e=>(I7.pin (b,o) (Q8 _ (Q8 _ (Z7 hb e)))).1,λ b hb=>?_,w7⟩
    obtain ⟨o,e,d⟩:=T.obj _ _ st5 b hb
    exact (I7.pin (b,o) (Q8 _ (Q8 _ (Z7 hb e)))).2.1
   cases f with
   | next=>obtain ⟨σ7,H7,I7,n7⟩:=q7;exact again I7 n7
   | cont=>obtain ⟨σ7,H7,I7,n7⟩:=q7;exact again I7 n7
   | brk=>obtain ⟨σ7,H7,I7,q7⟩:=q7;exact ⟨σ7,H7,I7.unpinned,q7⟩
   | ret v=>obtain ⟨x7,σ7,H7,I7,r7,q7⟩:=q7;exact ⟨x7,σ7,H7,I7.unpinned,r7,q7⟩
end
theorem Jl7 {K:Qc}{a:Addr}{xs:List V}{g:TG}{tb:TS}{D:Ends}{σ:St}{H:Hp}(Pv:Nat->St->Hp->Prop) (h0:Pv 0 σ H) (hl:∀ i σ H,i<=xs.length->Pv i σ H->SqL K H a xs)
 (hs:∀ i x σ H,xs[i]? = some x->Pv i σ H->g x σ H λ σ2 H2=>tb { D with nx:=Pv (i+1),ct:=Pv (i+1),bk:=D.nx } σ2 H2) (hd:∀ σ H,Pv xs.length σ H->D.nx σ H) :
 ∃ W:Nat->Nat->St->Hp->Prop,(∃ m,W 0 m σ H)/\∀ i m σ H,W i m σ H ->
  ((Itl K a).stop i H/\D.nx σ H)\/((Itl K a).go i H/\∃ N:St->Hp->Prop,(∀ σ' H',N σ' H'->∃ m',m'<m/\W (i+1) m' σ' H')/\∀ x H',(Itl K a).yld i H x H'->g x σ H' λ σ2 H2=>tb { D with nx:=N,ct:=N,bk:=D.nx } σ2 H2):=by
 refine ⟨λ i m σ H=>m=xs.length-i/\i<=xs.length/\Pv i σ H,⟨xs.length,by simp,Q9 _,h0⟩,?_⟩
 rintro i m σ H ⟨rfl,hi,p⟩
 have q:=hl i σ H hi p
 by_cases hlt:i<xs.length
 . refine .inr ⟨⟨xs,xs[i],q,by simp [hlt]⟩,Pv (i+1),λ σ' H' p'=>⟨xs.length-(i+1),by omega,rfl,hlt,p'⟩,λ x H' y=>?_⟩
   obtain ⟨e,y⟩:=y
   subst e
   exact hs i x σ _ (y xs q) p
 . have e:i=xs.length:=by omega
   subst e
   exact .inl ⟨⟨xs,q,Qn _⟩,hd σ H p⟩
abbrev R2:=V->V->Hp->VK->Prop
def OpR (X:Cx) (f:Ycf->Ycf->Sem Ycf) (r:R2):Prop:=
 ∀ (pins:List (Addr×Obj)) (s:Ycg) (σ:St) (H:Hp) (x y:V) (v u:Ycf) (Q:VK),Inv X pins σ H s->Yc x v->Yc y u->r x y H Q ->
  Ych (model X.prog X.w) X.A (f v u) (EP X pins σ Q) X.xe s
def UnR (X:Cx) (f:Ycf->Sem Ycf) (r:V->Hp->VK->Prop):Prop:=
 ∀ (pins:List (Addr×Obj)) (s:Ycg) (σ:St) (H:Hp) (x:V) (v:Ycf) (Q:VK),Inv X pins σ H s->Yc x v->r x H Q ->
  Ych (model X.prog X.w) X.A (f v) (EP X pins σ Q) X.xe s
def Wz (X:Cx) (f:Ycf) (r:List V->Hp->VK->Prop):Prop:=
 ∀ (pins:List (Addr×Obj)) (s:Ycg) (σ:St) (H:Hp) (xs:List V) (us:List Ycf) (Q:VK),Inv X pins σ H s->J9 xs us->r xs H Q ->
  Ych (model X.prog X.w) X.A (call f us) (EP X pins σ Q) X.xe s
def J4l (X:Cx) (r:V->Hp->(Bool->Hp->Prop)->Prop):Prop:=
 ∀ (pins:List (Addr×Obj)) (s:Ycg) (σ:St) (H:Hp) (x:V) (v:Ycf) (Q:Bool->Hp->Prop),Inv X pins σ H s->Yc x v->r x H Q ->
  Ych (model X.prog X.w) X.A (truthy v) (TP X pins σ Q) X.xe s
def tOp (r:R2) (ta tb:TE):TE:=λ σ H Q=>ta σ H λ x H1=>tb σ H1 λ y H2=>r x y H2 Q
def tUn (r:V->Hp->VK->Prop) (ta:TE):TE:=λ σ H Q=>ta σ H λ x H1=>r x H1 Q
def rI (C:Int->Int->Prop) (g:Int->Int->V):R2:=λ x y H Q=>∃ i j,x = .int i/\y = .int j/\C i j/\Q (g i j) H
def rI0 (g:Int->Int->V):R2:=λ x y H Q=>∃ i j,x = .int i/\y = .int j/\Q (g i j) H
def rU (g:Int->V):V->Hp->VK->Prop:=λ x H Q=>∃ i,x = .int i/\Q (g i) H
section
variable {X:Cx}{a b c:Expr}{ta tb tc:TE}{pos:Pos}
theorem J0k (ha:PE X a ta) (hb:PE X b tb) {pins:List (Addr×Obj)}{s:Ycg}{σ:St}{H:Hp}{R:V->V->Hp->Prop}(I:Inv X pins σ H s)
 (h:ta σ H λ x H1=>tb σ H1 λ y H2=>R x y H2) {Q:Ycf->Ycg->Prop} {f:Ycf->Ycf->Sem Ycf}
 (hf:∀ v u s2 x y H2,Inv X pins σ H2 s2->Yc x v->Yc y u->R x y H2->Ych (model X.prog X.w) X.A (f v u) Q X.xe s2) :
 Ych (model X.prog X.w) X.A (eval a X.env) (λ v s₁=>Ych (model X.prog X.w) X.A (eval b X.env) (λ u s₂=>Ych (model X.prog X.w) X.A (f v u) Q X.xe s₂) X.xe s₁) X.xe s:=by
 refine thn (ha pins s σ H _ I h) λ v s1 ⟨x,H1,I1,r1,q1⟩=>?_
 refine thn (hb pins s1 σ H1 _ I1 q1) λ u s2 ⟨y,H2,I2,r2,q2⟩=>?_
 exact hf v u s2 x y H2 I2 r1 r2 q2
theorem J3 {op:Ydi}{r:R2}(ho:OpR X (binaryOp op) r) (ha:PE X a ta) (hb:PE X b tb):PE X (.BinOp a op b pos) (tOp r ta tb):=by
 intro pins s σ H Q I h
 exact wpAny_BinOp (J0k ha hb I h λ v u s2 x y H2 I2 rx ry q=>ho pins s2 σ H2 x y v u Q I2 rx ry q)
theorem Jf9 {op:UnaryOp}{r:V->Hp->VK->Prop}(ho:UnR X (unaryOp op) r) (ha:PE X a ta):PE X (.UnaryOp op a pos) (tUn r ta):=by
 intro pins s σ H Q I h
 exact UnaryOp_ (thn (ha pins s σ H _ I h) λ v s1 ⟨x,H1,I1,r1,q1⟩=>ho pins s1 σ H1 x v Q I1 r1 q1)
theorem opI {f:Ycf->Ycf->Sem Ycf}{C:Int->Int->Prop}{g:Int->Int->Int}
 (rule:∀ (i j:Int) (t u:Tok) (s:Ycg) (Q:Ycf->Ycg->Prop) (E:Ycf->Ycg->Prop),C i j->Q (.int (g i j) s.toks) { s with toks:=s.toks+1 }->Ych (model X.prog X.w) X.A (f (.int i t) (.int j u)) Q E s) :
 OpR X f (rI C λ i j=>.int (g i j)):=by
 intro pins s σ H x y v u Q I rx ry h
 obtain ⟨i,j,rfl,rfl,hc,q⟩:=h
 obtain ⟨t,rfl⟩:=rx
 obtain ⟨t',rfl⟩:=ry
 exact rule i j t t' s _ _ hc ⟨.int (g i j),H,I.tok _,⟨_,rfl⟩,q⟩
theorem J0l {f:Ycf->Ycf->Sem Ycf}{g:Int->Int->Int}
 (rule:∀ (i j:Int) (t u:Tok) (s:Ycg) (Q:Ycf->Ycg->Prop) (E:Ycf->Ycg->Prop),Q (.int (g i j) s.toks) { s with toks:=s.toks+1 }->Ych (model X.prog X.w) X.A (f (.int i t) (.int j u)) Q E s) :
 OpR X f (rI0 λ i j=>.int (g i j)):=by
 intro pins s σ H x y v u Q I rx ry h
 obtain ⟨i,j,rfl,rfl,q⟩:=h
 obtain ⟨t,rfl⟩:=rx
 obtain ⟨t',rfl⟩:=ry
 exact rule i j t t' s _ _ ⟨.int (g i j),H,I.tok _,⟨_,rfl⟩,q⟩
theorem J0m {f:Ycf->Ycf->Sem Ycf}{g:Int->Int->Bool}
 (rule:∀ (i j:Int) (t u:Tok) (s:Ycg) (Q:Ycf->Ycg->Prop) (E:Ycf->Ycg->Prop),Q (.bool (g i j)) s->Ych (model X.prog X.w) X.A (f (.int i t) (.int j u)) Q E s) :
 OpR X f (rI0 λ i j=>.bl (g i j)):=by
 intro pins s σ H x y v u Q I rx ry h
 obtain ⟨i,j,rfl,rfl,q⟩:=h
 obtain ⟨t,rfl⟩:=rx
 obtain ⟨t',rfl⟩:=ry
 exact rule i j t t' s _ _ ⟨.bl (g i j),H,I,rfl,q⟩
def J4m (i j:Int):Prop:=0<=j/\j<=1000000/\i.natAbs<2^64
def Jw2 (i j:Int):Prop:=(-(2^64)<i/\i<2^64)\/(-(2^64)<j/\j<2^64)
theorem Jw2.ok {i j:Int}(h:Jw2 i j):Yde i j:=by
 rcases h with ⟨h1,h2⟩ | ⟨h1,h2⟩
 . exact .of_left (intBits_le_64 h1 h2)
 . exact .of_right (intBits_le_64 h1 h2)
theorem Vj:OpR X (binaryOp .Add) (rI0 λ i j=>.int (i+j)):=J0l λ _ _ _ _ _ _ _ q=>add_int q
theorem Jcp:OpR X (binaryOp .Sub) (rI0 λ i j=>.int (i-j)):=J0l λ _ _ _ _ _ _ _ q=>sub_int q
theorem Jay:OpR X (binaryOp .Mult) (rI Jw2 λ i j=>.int (i*j)):=opI λ _ _ _ _ _ _ _ hc q=>mul_int q hc.ok
theorem Jef:OpR X (binaryOp .Mod) (rI (λ _ j=>0<j) λ i j=>.int (i%j)):=opI λ i j _ _ _ _ _ hc q=>by
 have h1:(0:Int)<j:=hc
 exact mod_int' (by omega) (by rw [Int.fmod_eq_emod_of_nonneg i (by omega)];exact q)
theorem Joj:OpR X (binaryOp .Pow) (rI J4m λ i j=>.int (i^j.toNat)):=opI λ _ _ _ _ _ _ _ hc q=>pow_int_small hc.1 hc.2.1 hc.2.2 q
theorem Jj3:OpR X (binaryOp .BitXor) (rI0 λ i j=>.int (J6d i j)):=J0l λ _ _ _ _ _ _ _ q=>xor_int q
theorem unI {f:Ycf->Sem Ycf}{g:Int->Int}
 (rule:∀ (i:Int) (t:Tok) (s:Ycg) (Q:Ycf->Ycg->Prop) (E:Ycf->Ycg->Prop),Q (.int (g i) s.toks) { s with toks:=s.toks+1 }->Ych (model X.prog X.w) X.A (f (.int i t)) Q E s) :
 UnR X f (rU λ i=>.int (g i)):=by
 intro pins s σ H x v Q I rx h
 obtain ⟨i,rfl,q⟩:=h
 obtain ⟨t,rfl⟩:=rx
 exact rule i t s _ _ ⟨.int (g i),H,I.tok _,⟨_,rfl⟩,q⟩
theorem Jcq:UnR X (unaryOp .USub) (rU λ i=>.int (-i)):=unI λ _ _ _ _ _ q=>neg_int q
end
noncomputable def Jw3:V->V->Bool
 | .non,.non=>true | .non,.int _=>true | .int _,.non=>true | .non,.bl _=>true | .bl _,.non=>true | .non,.str _=>true | .str _,.non=>true
 | .int _,.int _=>true | .bl _,.bl _=>true | .str _,.str _=>true | .byt _,.byt _=>true
 | .int _,.str _=>true | .str _,.int _=>true | .bl _,.str _=>true | .str _,.bl _=>true
 | _,_=>false
def rEq:R2:=λ x y H Q=>Jw3 x y=true/\Q (.bl (decide (x=y))) H
def rNe:R2:=λ x y H Q=>Jw3 x y=true/\Q (.bl (!decide (x=y))) H
theorem Jpy {i j:Int}:decide (V.int i=V.int j)=(i==j):=by
 rw [X0]
 simp
theorem Jtr {i j:Bool}:decide (V.bl i=V.bl j)=(i==j):=by
 rw [X0]
 simp
theorem Jpz {i j:Str}:decide (V.str i=V.str j)=(i==j):=by
 rw [X0]
 simp
theorem Jp0 {i j:Array UInt8}:decide (V.byt i=V.byt j)=(i.toList==j.toList):=by
 rw [X0]
 cases i
 cases j
 simp
section
variable {X:Cx}{a b c:Expr}{ta tb tc:TE}{pos:Pos}
theorem Yn {pins:List (Addr×Obj)}{σ:St}{H:Hp}{s:Ycg}{Q:VK}{k k':Bool}(I:Inv X pins σ H s) (q:Q (.bl k) H) (e:k=k'):EP X pins σ Q (.bool k') s:=by
 subst e
 exact ⟨.bl k,H,I,rfl,q⟩
theorem Bx:OpR X (compareOp .Eq) rEq:=by
 intro pins s σ H x y v u Q I rx ry h
 obtain ⟨hs,q⟩:=h
 cases x with
 | non=>
  cases rx
  cases y with
  | non=>cases ry;exact PySem.EqNone.eq_none_none (Yn I q (by simp))
  | bl j=>cases ry;exact PySem.EqNone.eq_none_bool (Yn I q (by simp))
  | int j=>obtain ⟨t',rfl⟩:=ry;exact PySem.EqNone.eq_none_int (Yn I q (by simp))
  | str j=>obtain ⟨t',rfl⟩:=ry;exact PySem.EqNone.eq_none_str (Yn I q (by simp))
  | _=>exact absurd (show false=true from hs) Q7
 | bl i=>
  cases rx
  cases y with
  | non=>cases ry;exact PySem.EqNone.eq_bool_none (Yn I q (by simp))
  | bl j=>cases ry;exact eq_bool (Yn I q Jtr)
  | str j=>obtain ⟨t',rfl⟩:=ry;exact Yby (Yn I q (by simp))
  | _=>exact absurd (show false=true from hs) Q7
 | int i=>
  obtain ⟨t,rfl⟩:=rx
  cases y with
  | non=>cases ry;exact PySem.EqNone.eq_int_none (Yn I q (by simp))
  | int j=>obtain ⟨t',rfl⟩:=ry;exact eq_int (Yn I q Jpy)
  | str j=>obtain ⟨t',rfl⟩:=ry;exact Ybz (Yn I q (by simp))
  | _=>exact absurd (show false=true from hs) Q7
 | str i=>
  obtain ⟨t,rfl⟩:=rx
  cases y with
  | non=>cases ry;exact PySem.EqNone.eq_str_none (Yn I q (by simp))
  | bl j=>cases ry;exact Yb0 (Yn I q (by simp))
  | int j=>obtain ⟨t',rfl⟩:=ry;exact Yb1 (Yn I q (by simp))
  | str j=>obtain ⟨t',rfl⟩:=ry;exact eq_str (Yn I q Jpz)
  | _=>exact absurd (show false=true from hs) Q7
 | byt i=>
  obtain ⟨t,rfl⟩:=rx
  cases y with
  | byt j=>obtain ⟨t',rfl⟩:=ry;exact PySem.W.eq_bytes (Yn I q Jp0)
  | _=>exact absurd (show false=true from hs) Q7
 | _=>cases y<;>exact absurd (show false=true from hs) Q7
theorem Jp1:OpR X (compareOp .NotEq) rNe:=by
 intro pins s σ H x y v u Q I rx ry h
 obtain ⟨hs,q⟩:=h
 cases x with
 | non=>
  cases rx
  cases y with
  | non=>cases ry;exact PySem.EqNone.ne_none_none (Yn I q (by simp))
  | bl j=>cases ry;exact PySem.EqNone.ne_none_bool (Yn I q (by simp))
  | int j=>obtain ⟨t',rfl⟩:=ry;exact PySem.EqNone.ne_none_int (Yn I q (by simp))
  | str j=>obtain ⟨t',rfl⟩:=ry;exact PySem.EqNone.ne_none_str (Yn I q (by simp))
  | _=>exact absurd (show false=true from hs) Q7
 | bl i=>
  cases rx
  cases y with
  | non=>cases ry;exact PySem.EqNone.ne_bool_none (Yn I q (by simp))
  | bl j=>cases ry;exact ne_bool (Yn I q (congrArg not Jtr))
  | str j=>obtain ⟨t',rfl⟩:=ry;exact Yb2 (Yn I q (by simp))
  | _=>exact absurd (show false=true from hs) Q7
 | int i=>
  obtain ⟨t,rfl⟩:=rx
  cases y with
  | non=>cases ry;exact PySem.EqNone.ne_int_none (Yn I q (by simp))
  | int j=>obtain ⟨t',rfl⟩:=ry;exact ne_int (Yn I q (congrArg not Jpy))
  | str j=>obtain ⟨t',rfl⟩:=ry;exact Yb3 (Yn I q (by simp))
  | _=>exact absurd (show false=true from hs) Q7
 | str i=>
  obtain ⟨t,rfl⟩:=rx
  cases y with
  | non=>cases ry;exact PySem.EqNone.ne_str_none (Yn I q (by simp))
  | bl j=>cases ry;exact Yb4 (Yn I q (by simp))
  | int j=>obtain ⟨t',rfl⟩:=ry;exact Yb5 (Yn I q (by simp))
  | str j=>obtain ⟨t',rfl⟩:=ry;exact ne_str (Yn I q (congrArg not Jpz))
  | _=>exact absurd (show false=true from hs) Q7
 | byt i=>
  obtain ⟨t,rfl⟩:=rx
  cases y with
  | byt j=>obtain ⟨t',rfl⟩:=ry;exact PySem.W.ne_bytes (Yn I q (congrArg not Jp0))
  | _=>exact absurd (show false=true from hs) Q7
 | _=>cases y<;>exact absurd (show false=true from hs) Q7
theorem Jts:OpR X (compareOp .Lt) (rI0 λ i j=>.bl (decide (i<j))):=J0m λ _ _ _ _ _ _ _ q=>lt_int q
theorem Jga:OpR X (compareOp .Gt) (rI0 λ i j=>.bl (decide (j<i))):=J0m λ _ _ _ _ _ _ _ q=>gt_int q
theorem Jzb:OpR X (compareOp .GtE) (rI0 λ i j=>.bl (decide (j<=i))):=J0m λ _ _ _ _ _ _ _ q=>ge_int q
theorem Jtt:OpR X (compareOp .Is) (λ x y H Q=>y = .non/\Q (.bl (decide (x = .non))) H):=by
 intro pins s σ H x y v u Q I rx ry h
 obtain ⟨rfl,q⟩:=h
 cases ry
 refine is_none_gen (Yn I q ?_)
 cases x<;>first
  | (cases rx;rfl)
  | (obtain ⟨t,rfl⟩:=rx;rfl)
theorem Jw (b:Expr) {op:CmpOp}(h:op≠.In:=by decide) (h2:op≠.NotIn:=by decide):Yc2 op b=false:=by
 have e1:(op==CmpOp.In)=false:=by cases op<;>first | rfl | exact absurd rfl h
 have e2:(op==J94)=false:=by cases op<;>first | rfl | exact absurd rfl h2
 cases b<;>simp [Yc2,e1,e2]
theorem Jb6 {op:CmpOp}{r:R2}(ho:OpR X (compareOp op) r) (ha:PE X a ta) (hb:PE X b tb) (hm:Yc2 op b=false):PE X (.Compare a [op] [b] pos) (tOp r ta tb):=by
 intro pins s σ H Q I h
 exact wpAny_Compare1 (J0k ha hb I h λ v u s2 x y H2 I2 rx ry q=>ho pins s2 σ H2 x y v u Q I2 rx ry q) hm
def Jzc (t:TE):TT:=λ σ H Q=>t σ H λ x H'=>∃ k,x = .bl k/\Q k H'
theorem Jt {op:CmpOp}{r:R2}(ho:OpR X (compareOp op) r) (ha:PE X a ta) (hb:PE X b tb) (hm:Yc2 op b=false):PT X (.Compare a [op] [b] pos) (Jzc (tOp r ta tb)):=by
 intro pins s σ H Q I h
 refine Yd0 (thn (ha pins s σ H _ I h) λ v s1 ⟨x,H1,I1,r1,q1⟩=>thn (hb pins s1 σ H1 _ I1 q1) λ u s2 ⟨y,H2,I2,r2,q2⟩=>
  thn (ho pins s2 σ H2 x y v u _ I2 r1 r2 q2) λ c s3 ⟨z,H3,I3,r3,k,e,q3⟩=>?_) hm
 subst e
 cases r3
 exact wpAny_truthy_bool ⟨H3,I3,q3⟩
def J0n (K:Qc) (x:V) (H:Hp) (k:Bool):Prop:=
 match x with
 | .non=>k=false
 | .bl b=>k=b
 | .int i=>k=(i != 0)
 | .str y=>y.length<=sizeLine/\k=((y.length:Int) != 0)
 | .byt y=>y.size<=sizeLine/\k=((y.size:Int) != 0)
 | .ref p=>(∃ xs,SqL K H p xs/\k = !xs.isEmpty)\/(∃ xs,SqT K H p xs/\k = !xs.isEmpty)\/∃ kvs,H p=some (.dK kvs)/\k = !kvs.isEmpty
 | _=>False
theorem Jok {κ:Type}{kvs:List (κ×V)}{vs:List (κ×Ycf)}(r:KV kvs vs):(!vs.isEmpty) = !kvs.isEmpty:=by
 cases r<;>rfl
theorem Jgb {xs:List V}{its:List Ycf}(r:J9 xs its):(!its.toArray.isEmpty) = !xs.isEmpty:=by
 cases r<;>simp
theorem Jeg:(sizeLine:Nat)<2^63:=by rw [Ycl];decide
theorem J0o:J4l X (λ x H Q=>∃ k,J0n X.K x H k/\Q k H):=by
 intro pins s σ H x v Q I rx h
 obtain ⟨k,e,q⟩:=h
 have hl:=Jeg
 have hs:sizeLine=16777216:=Ycl
 cases x with
 | non=>
  cases rx
  have e':k=false:=e
  subst e'
  exact truthy_none ⟨H,I,q⟩
 | bl b=>
  cases rx
  have e':k=b:=e
  subst e'
  exact wpAny_truthy_bool ⟨H,I,q⟩
 | int i=>
  obtain ⟨t,rfl⟩:=rx
  have e':k=(i != 0):=e
  subst e'
  exact J8i ⟨H,I,q⟩
 | str y=>
  obtain ⟨t,rfl⟩:=rx
  obtain ⟨hy,e'⟩:y.length<=sizeLine/\k=((y.length:Int) != 0):=e
  subst e'
  exact PySem.P.truthy_str (by omega) ⟨H,I.tok _,q⟩
 | byt y=>
  obtain ⟨t,rfl⟩:=rx
  obtain ⟨hy,e'⟩:y.size<=sizeLine/\k=((y.size:Int) != 0):=e
  subst e'
  exact PySem.W.truthy_bytes (by omega) ⟨H,I.tok _,q⟩
 | ref p=>
  cases rx
  have e':(∃ xs,SqL X.K H p xs/\k = !xs.isEmpty)\/(∃ xs,SqT X.K H p xs/\k = !xs.isEmpty)\/∃ kvs,H p=some (.dK kvs)/\k = !kvs.isEmpty:=e
  rcases e' with ⟨xs,hx,e'⟩ | ⟨xs,hx,e'⟩ | ⟨kvs,hx,e'⟩
  . subst e'
    obtain ⟨its,r,pl,hz⟩:=I.list hx
    have hlen:=r.length
    exact wpAny_truthy_list pl.isList (by simp only [Q1];omega) ⟨H,I.tok _,by rw [Jgb r];exact q⟩
  . subst e'
    obtain ⟨its,r,pl,hz⟩:=I.tuple hx
    have hlen:=r.length
    exact truthy_tuple pl (by simp only [Q1];omega) ⟨H,I.tok _,by rw [Jgb r];exact q⟩
  . subst e'
    obtain ⟨hz,hS,vs,r,m⟩:kvs.length<=sizeLine/\(p==Ycx)=false/\∃ vs,KV kvs vs/\s.heap.DictOf (Yp X.prog X.w) p vs:=I.hok p _ hx
    have hlen:kvs.length=vs.length:=J7e r
    exact wpAny_truthy_dict hS m (by omega) ⟨H,I.tok _,by rw [Jok r];exact q⟩
 | _=>exact (show False from e).elim
theorem Jtu (ha:PE X a ta) (he:∀ whole,isTrue a X.env whole=(do let v <- whole;Yc3 a.pos;Ycs [v] (truthy v))) :
 PT X a (λ σ H Q=>ta σ H λ x H'=>∃ k,J0n X.K x H' k/\Q k H'):=by
 intro pins s σ H Q I h
 exact isTrue_plain (thn (ha pins s σ H _ I h) λ v s1 ⟨x,H1,I1,r1,q1⟩=>J0o pins s1 σ H1 x v Q I1 r1 q1) (he _)
theorem Jak {x:V}{us:List Ycf}(r:J9 [x] us):∃ u,us=[u]/\Yc x u:=by
 cases r with
 | cons r1 r2=>cases r2;exact ⟨_,rfl,r1⟩
theorem Jp2 {x y:V}{us:List Ycf}(r:J9 [x,y] us):∃ u w',us=[u,w']/\Yc x u/\Yc y w':=by
 cases r with
 | cons r1 r2=>
  cases r2 with
  | cons r3 r4=>cases r4;exact ⟨_,_,rfl,r1,r3⟩
theorem Jeh (hc:X.calm=true):Wz X (.builtin "max") (λ xs H Q=>∃ i j,xs=[.int i,.int j]/\Q (.int (if j>i then j else i)) H):=by
 intro pins s σ H xs us Q I r h
 obtain ⟨i,j,rfl,q⟩:=h
 obtain ⟨u,w',rfl,⟨t,rfl⟩,⟨t',rfl⟩⟩:=Jp2 r
 refine max_two_ints (I.ok.hd hc) λ h' tk k=>⟨_,H,I.kept k,?_,q⟩
 by_cases hj:j>i
 . rw [if_pos hj,if_pos hj];exact ⟨_,rfl⟩
 . rw [if_neg hj,if_neg hj];exact ⟨_,rfl⟩
theorem Jre (hc:X.calm=true):Wz X (.builtin "min") (λ xs H Q=>∃ i j,xs=[.int i,.int j]/\Q (.int (if j<i then j else i)) H):=by
 intro pins s σ H xs us Q I r h
 obtain ⟨i,j,rfl,q⟩:=h
 obtain ⟨u,w',rfl,⟨t,rfl⟩,⟨t',rfl⟩⟩:=Jp2 r
 refine min_two_ints (I.ok.hd hc) λ h' tk k=>⟨_,H,I.kept k,?_,q⟩
 by_cases hj:j<i
 . rw [if_pos hj,if_pos hj];exact ⟨_,rfl⟩
 . rw [if_neg hj,if_neg hj];exact ⟨_,rfl⟩
theorem Jrf:Wz X (.type "int") (λ xs H Q=>(∃ i,xs=[.int i]/\Q (.int i) H)\/∃ k,xs=[.bl k]/\Q (.int (if k then 1 else 0)) H):=by
 intro pins s σ H xs us Q I r h
 rcases h with ⟨i,rfl,q⟩ | ⟨k,rfl,q⟩
 . obtain ⟨u,rfl,t,rfl⟩:=Jak r
   exact call_int_int ⟨.int i,H,I,⟨_,rfl⟩,q⟩
 . obtain ⟨u,rfl,r1⟩:=Jak r
   cases r1
   exact call_int_bool ⟨.int (if k then 1 else 0),H,I.tok _,⟨_,rfl⟩,q⟩
end
structure ObjM (h:Heap) (x dx C:Addr) (mA:Str->Option Ycf):Prop where
 obj:h.get? x=some (J8d C dx)
 ns:h.Ns1 dx mA
 ne:dx≠x
theorem Jrg {h:Heap}{dx:Addr}{mA:Str->Option Ycf}(n:h.Ns1 dx mA):∃ od,h.get? dx=some od/\∀ name,J8j name od=some (mA name):=by
 obtain ⟨o,es,ep,ho,hd,hk,_,hm⟩:=n
 refine ⟨o,ho,λ name=>?_⟩
 have e:=hm name
 unfold nsFind findBy at e
 rw [<- Array.find?_toList] at e
 unfold J8j
 rw [hd]
 dsimp only
 split
 . rename_i y q
   rw [q] at e
   exact congrArg some e
 . rename_i q
   rw [q] at e
   have a:es.toList.any (·.refKey)=false:=by
    rw [J8k]
    intro y hy
    obtain ⟨z,t,hkey⟩:=hk y (Array.mem_toList_iff.mp hy)
    simp [DictEntry.refKey,hkey]
   have a':¬ es.toList.any (·.refKey)=true:=by rw [a];exact Q7
   rw [if_neg a']
   exact congrArg some e
theorem ObjM.look {h:Heap}{x dx C:Addr}{mA:Str->Option Ycf}(I:ObjM h x dx C mA):∃ od,PySem.W.InstAt h x (J8d C dx) C (some od)/\∀ name,J8j name od=some (mA name):=
 let ⟨od,ho,hl⟩:=Jrg I.ns
 ⟨od,⟨I.obj,rfl,rfl,ho⟩,hl⟩
section
variable {prog:Ycj}{w:Yci}{A:Yck}{E:Ycf->Ycg->Prop}{s:Ycg}{K:Qc}{x dx C f:Addr}{mA:Str->Option Ycf}{name:Str}{v:Ycf}
end
noncomputable def putF (f:Str) (v:V):List (Str×V)->List (Str×V)
 | []=>[(f,v)]
 | (g,x)::r=>if g=f then (g,v)::r else (g,x)::putF f v r
theorem Jbf.some_of {v:V}{o:Option Ycf}(r:Jbf (some v) o):∃ u,o=some u/\Yc v u:=by
 cases o with
 | none=>exact (show False from r).elim
 | some u=>exact ⟨u,rfl,r⟩
theorem Jbf.none_of {o:Option Ycf}(r:Jbf none o):o=none:=by
 cases o with
 | none=>rfl
 | some u=>exact (show False from r).elim
section
variable {P:Ycj}{w:Yci}{H H':Hp}{h h':Heap}{a C dx:Addr}{fs fs':List (Str×V)}
theorem Jw4 (hok:HOk P w H h) (e:H a=some (.ins C dx fs)):∃ mA,ObjM h a dx C mA/\(∀ f,Jbf (fs.lookup f) (mA f))/\J9z mA (fs.map (·.1))/\fs.length<=1000/\H dx=some (.own a):=by
 obtain ⟨d,z,ne,ob,mA,n,r,q⟩:=(show Y1 P w H h a (.ins C dx fs) from hok a _ e)
 exact ⟨mA,⟨ob,n,ne⟩,r,q,z,d⟩
end
structure Cls (K:Qc) (C:Addr):Prop where
 pg:J97 K C Str.empty=true
 hd:PySem.W.hasDictIn K C=true
 po:PySem.W.plainOver K C=true
 sa:J98 K (.ref C) "__setattr__" = some (some (.builtin "object.__setattr__"))
theorem Cls.get {K:Qc}{C:Addr}(c:Cls K C) (f:Str):J97 K C f=true:=c.pg
section
variable {X:Cx}{pins:List (Addr×Obj)}{σ:St}{H:Hp}{s:Ycg}{a C dx:Addr}{fs:List (Str×V)}{f:Str}{v:V}{A:Yck}{E:Ycf->Ycg->Prop}
end
section
variable {X:Cx}{o e value:Expr}{f:Str}{pos pos' tpos:Pos}{ta tv:TE}
end
section
variable {X:Cx}{pins:List (Addr×Obj)}{σ:St}{H:Hp}{s:Ycg}{A:Yck}{E:Ycf->Ycg->Prop}{Q:Ycf->Ycg->Prop}{c:Ycf}{b:Bool}
inductive TyOf (K:Qc) (H:Hp):V->Ycf->Prop where
 | non:TyOf K H .non (.type "NoneType")
 | bl (x:Bool):TyOf K H (.bl x) (.type "bool")
 | int (i:Int):TyOf K H (.int i) (.type "int")
 | str (x:Str):TyOf K H (.str x) (.type "str")
 | flt (x:UInt64):TyOf K H (.flt x) (.type "float")
 | lst {a:Addr} {xs:List V} (e:H a=some (.lst xs)):TyOf K H (.ref a) (.type "list")
 | frz {a:Addr} {o:Obj} {xs:List V} (e:H a=some (.frz o (.lst xs))):TyOf K H (.ref a) (.type "list")
 | tup {a:Addr} {xs:List V} (e:H a=some (.tup xs)):TyOf K H (.ref a) (.type "tuple")
 | dK {a:Addr} {kvs:List (Key×V)} (e:H a=some (.dK kvs)):TyOf K H (.ref a) (.type "dict")
 | dT {a:Addr} {kvs:List (List Key×V)} (e:H a=some (.dT kvs)):TyOf K H (.ref a) (.type "dict")
 | ins {a C dx:Addr} {fs:List (Str×V)} (e:H a=some (.ins C dx fs)) (cl:Cls K C) (ha:J98 K (.ref C) "__class__" = some (some (.builtin "object.__class__")))
  (hn:PySem.W.specialIn K (.builtin "object.__class__") "__get__" = some (some (.builtin "getset_descriptor.__get__"))) (htk:PySem.W.takesIn K (.builtin "object.__class__")=some true)
  (hm:PySem.W.mroIn K C (.type "object")=some true):TyOf K H (.ref a) (.ref C)
theorem Jrh {x:V}{u t:Ycf}(I:Inv X pins σ H s) (rx:Yc x u) (ty:TyOf X.K H x t) (e:J8l X.K t c=some b) (h:∀ tk,Q (.bool b) { s with toks:=tk }) :
 Ych (model X.prog X.w) A (call (.builtin "isinstance") [u,c]) Q E s:=by
 cases ty with
 | non=>cases (show u=U5 from rx);exact Up PySem.W.kitx_none I.kIn X9 e (λ z=>nomatch z) h
 | bl y=>cases (show u=J6t y from rx);exact Up PySem.W.kitx_bool I.kIn X9 e (λ z=>nomatch z) h
 | int i=>obtain ⟨t,q⟩:=(show ∃ t,u=J6b i t from rx);cases q;exact Up PySem.W.kitx_int I.kIn X9 e (λ z=>nomatch z) h
 | str y=>obtain ⟨t,q⟩:=(show ∃ t,u=J6r y t from rx);cases q;exact Up PySem.W.kitx_str I.kIn X9 e (λ z=>nomatch z) h
 | flt y=>obtain ⟨t,q⟩:=(show ∃ t,u=J9y y t from rx);cases q;exact Up PySem.W.kitx_float I.kIn X9 e (λ z=>nomatch z) h
 | @lst a xs ea=>
  cases (show u=Xc a from rx)
  obtain ⟨_,_,n,_,h1⟩:=(show Y1 X.prog X.w H s.heap a (.lst xs) from I.hok a _ ea)
  exact Up J99 I.kIn ⟨_,h1,rfl⟩ e (λ z=>nomatch z) h
 | @frz a ob xs ea=>
  cases (show u=Xc a from rx)
  obtain ⟨_,_,_,n,_,h1⟩:=(show Y1 X.prog X.w H s.heap a (.frz ob (.lst xs)) from I.hok a _ ea)
  exact Up J99 I.kIn ⟨_,h1,rfl⟩ e (λ z=>nomatch z) h
 | @tup a xs ea=>
  cases (show u=Xc a from rx)
  obtain ⟨_,_,_,p⟩:=(show Y1 X.prog X.w H s.heap a (.tup xs) from I.hok a _ ea)
  obtain ⟨o,h1,h2,_⟩:=p
  exact Up PySem.W.kitx_tuple I.kIn ⟨o,h1,h2⟩ e (λ z=>nomatch z) h
 | @dK a kvs ea=>
  cases (show u=Xc a from rx)
  obtain ⟨_,_,vs,_,p⟩:=(show Y1 X.prog X.w H s.heap a (.dK kvs) from I.hok a _ ea)
  obtain ⟨o,es,ep,h1,h2,_⟩:=p
  exact Up Yaa I.kIn ⟨o,h1,h2.1⟩ e (λ z=>nomatch z) h
 | @dT a kvs ea=>
  cases (show u=Xc a from rx)
  obtain ⟨_,_,xs,_,o,es,ep,h1,h2,_⟩:=(show Y1 X.prog X.w H s.heap a (.dT kvs) from I.hok a _ ea)
  exact Up Yaa I.kIn ⟨o,h1,h2.1⟩ e (λ z=>nomatch z) h
 | @ins a C dx fs ea cl ha hn htk hm=>
  cases (show u=Xc a from rx)
  obtain ⟨mA,O,_⟩:=Jw4 I.hok ea
  obtain ⟨od,J,_⟩:=O.look
  exact Up (PySem.W.kitx_own (cl.get _) cl.hd ha hn htk hm) I.kIn J e (λ z=>nomatch z) h
end
structure Room (k:Nat) (A:Yck):Prop where
 hd:A.handled=none
 dp:A.depth+3*k+5<recursionLimit
 un:A.units+16*k+200<Ycv
 gd:A.guards=some []
theorem Room.mono {j k:Nat}{A:Yck}(r:Room k A) (h:j<=k):Room j A:=⟨r.hd,by have:=r.dp;omega,by have:=r.un;omega,r.gd⟩
theorem Room.deeper {k:Nat}{A:Yck}(r:Room (k+1) A) (env:Env):Room k (A.deeper env):=
 ⟨r.hd,by have:=r.dp;show A.depth+1+3*k+5<_;omega,by have:=r.un;show A.units+3+16*k+200<_;omega,r.gd⟩
theorem Room.depth {k:Nat}{A:Yck}(r:Room k A):A.depth<recursionLimit:=by have:=r.dp;omega
theorem Room.units {k:Nat}{A:Yck}(r:Room k A):A.units+64<Ycv:=by have:=r.un;omega
def Jgc:TA:=λ _ H Q=>Q [] H
def Zd (ta:TE) (tr:TA):TA:=λ σ H Q=>ta σ H λ x H1=>tr σ H1 λ xs H2=>Q (x::xs) H2
section
variable {X:Cx}{e:Expr}{es:List Expr}{te:TE}{t:TA}{pos:Pos}
theorem Jd:PA X [] Jgc:=λ _ _ _ _ H Q I h=>J7i ⟨[],H,I,.nil,h⟩
theorem Bf (ha:PE X e te) (hr:PA X es t) (hs:starEach (e::es) X.env=(false,eval e X.env)::starEach es X.env:=by rfl):PA X (e::es) (Zd te t):=by
 intro pos pins s σ H Q I h
 rw [hs]
 show Ych _ _ (spliced ((false,eval e X.env)::backTo pos (starEach es X.env))) _ _ s
 refine J6e (thn (ha pins s σ H _ I h) λ u s1 ⟨x,H1,I1,r1,q1⟩=>?_)
 exact thn (hr pos pins s1 σ H1 _ I1 q1) λ us s2 ⟨xs,H2,I2,r2,q2⟩=>⟨x::xs,H2,I2,.cons r1 r2,q2⟩
def J0p (t:TA):TE:=λ σ H Q=>t σ H λ xs H1=>xs.length<=sizeLine/\∀ p,H1 p=none->Q (.ref p) (upd H1 p (.tup xs))
def J0q (t:TA):TE:=λ σ H Q=>t σ H λ xs H1=>xs.length<=sizeLine/\∀ p,H1 p=none->Q (.ref p) (upd H1 p (.lst xs))
theorem J0r {x1} (h:PA X es t):PE X (.Tuple es x1 pos) (J0p t):=by
 intro pins s σ H Q I hq
 refine wpAny_Tuple_spliced (thn (h pos pins s σ H _ I hq) λ us s1 ⟨xs,H1,I1,r,z,q⟩=>⟨by rw [<- r.length];exact z,?_⟩)
 have hf:H1 s1.heap.objs.size=none:=I1.hok.fresh (Qn _)
 refine ⟨.ref s1.heap.objs.size,upd H1 s1.heap.objs.size (.tup xs),I1.laid (t':=s1.toks) (λ b u e=>Qk _ e) (Qn _) ?_,rfl,q _ hf⟩
 exact ⟨z,us,r,⟨_,Q5 _ rfl,rfl,_,rfl⟩⟩
theorem J0s (h:PA X es t):PE X (.List es pos) (J0q t):=by
 intro pins s σ H Q I hq
 refine wpAny_List_spliced (thn (h pos pins s σ H _ I hq) λ us s1 ⟨xs,H1,I1,r,z,q⟩=>⟨by rw [<- r.length];exact z,?_⟩)
 have hf:H1 s1.heap.objs.size=none:=I1.hok.fresh (Qn _)
 refine ⟨.ref s1.heap.objs.size,upd H1 s1.heap.objs.size (.lst xs),I1.laid (t':=s1.toks) (λ b u e=>Qk _ e) (Qn _) ?_,rfl,q _ hf⟩
 exact ⟨z,us,0,r,Q5 _ rfl⟩
end
abbrev Sp:=List V->Hp->VK->XK->Prop
abbrev CXT:=List Env->Hp->Ycg->XK->Ycf->Ycg->Prop
structure Env0 (P:Ycj) (w:Yci) (K:Qc) (mg:Str->Option Ycf) (base:Heap) (A:Yck) (outer:List Env) (s:Ycg) (H:Hp):Prop where
 frames:A.frames=some outer
 mod:Mod K mg base
 bs:∀ b o,base.get? b=some o->s.heap.get? b=some o/\H b=none
 bsz:base.objs.size<=s.heap.objs.size
 funs:s.heap.FunFrames base outer
 frf:∀ b∈frs outer,H b=none
 hok:HOk P w H s.heap
 bare:Ycy s.gens
def CE (outer:List Env) (P:Ycj) (w:Yci) (H:Hp) (s:Ycg) (Q:VK) (u:Ycf) (s':Ycg):Prop:=
 ∃ v H',s'.os=s.os/\Ycy s'.gens/\Un (frs outer) [] H H' s.heap s'.heap/\HOk P w H' s'.heap/\Yc v u/\Q v H'
def CR (CX:CXT) (outer:List Env) (P:Ycj) (w:Yci) (H:Hp) (s:Ycg) (Q:VK) (E:XK) (r:Yc5) (s':Ycg):Prop:=
 match r with
 | .ok (.ret u)=>CE outer P w H s Q u s'
 | .ok _=>False
 | .error e=>CX outer H s E e s'
structure FnOk (P:Ycj) (w:Yci) (K:Qc) (mg:Str->Option Ycf) (base:Heap) (CX:CXT) (k:Nat) (f:Addr) (fd:Ycu) (ps:List Str) (sp:Sp):Prop where
 len:∀ vs H Q E,sp vs H Q E->vs.length=ps.length
 run:∀ (A:Yck) (outer:List Env) (s:Ycg) (H:Hp) (args:Args) (us:List Ycf) (vs:List V) (Q:VK) (E:XK),Room k A->Env0 P w K mg base A outer s H->Ydf s fd args (ps.zip us)->J9 vs us->sp vs H Q E ->
  Yct (model P w) A (.call (.ref f) args) (CR CX outer P w H s Q E) s
theorem FnOk.imp {P:Ycj}{w:Yci}{K:Qc}{mg:Str->Option Ycf}{base:Heap}{CX:CXT}{k:Nat}{f:Addr}{fd:Ycu}{ps:List Str}{sp sp':Sp}(F:FnOk P w K mg base CX k f fd ps sp)
 (h:∀ vs H Q E,sp' vs H Q E->sp vs H Q E):FnOk P w K mg base CX k f fd ps sp':=
 ⟨λ vs H Q E q=>F.len vs H Q E (h _ _ _ _ q),λ A outer s H args us vs Q E hr he hb hv hs=>F.run A outer s H args us vs Q E hr he hb hv (h _ _ _ _ hs)⟩
section
variable {X:Cx}{pins:List (Addr×Obj)}{σ:St}{H:Hp}{s s':Ycg}
theorem Inv.env0 (I:Inv X pins σ H s):Env0 X.prog X.w X.K X.mg X.base X.A X.stack s H:=
 ⟨I.ok.frames,I.ok.mod,I.bs,Xk I.ok.bsz I.sz,I.stack,I.stkFree,I.hok,I.bare⟩
theorem Inv.after {Q:VK}{u:Ycf}(I:Inv X pins σ H s) (h:CE X.stack X.prog X.w H s Q u s'):EP X pins σ Q u s':=by
 obtain ⟨v,H',os,bare,un,hok,r,q⟩:=h
 obtain ⟨hh,g,d,t,os'⟩:=s'
 obtain rfl:os'=s.os:=os
 exact ⟨v,H',I.call (h':=hh) (g':=g) (d':=d) (t':=t) (ch:=[]) un hok bare (λ b z=>absurd z (by simp)),r,q⟩
end
def Jch (sp:Sp) (dvs:List V) (E:XK) (t:TA):TE:=λ σ H Q=>t σ H λ vs H1=>sp (vs++dvs) H1 Q E
def Je6 (K:Qc) (fd:Ycu) (ps:List Str) (ds:List Ycf):Prop:=
 ∀ (s:Ycg) (us:List Ycf),K.In s.heap->(us++ds).length=ps.length->Ydf s fd ⟨us,[]⟩ (ps.zip (us++ds))
theorem Je6.all {K:Qc}{fd:Ycu}{ps:List Str}(h:∀ us:List Ycf,us.length=ps.length->bindArgs fd ⟨us,[]⟩=pure (ps.zip us)):Je6 K fd ps []:=λ s us _ hl=>by
 rw [X5] at hl ⊢
 exact .of_eq (h us hl)
def Jgd (CX:CXT) (X:Cx) (E:XK):Prop:=∀ (pins:List (Addr×Obj)) (σ:St) (H:Hp) (s:Ycg) (e:Ycf) (s':Ycg),Inv X pins σ H s->CX X.stack H s E e s'->X.xe e s'
section
variable {X:Cx}{CX:CXT}{k:Nat}{f C:Addr}{fd:Ycu}{ps:List Str}{sp:Sp}{dvs:List V}{ds:List Ycf}{E:XK}{x m:Str}{p pos apos:Pos}{e o:Expr}{es:List Expr}{ta:TE}{t:TA}
theorem J0t {pins:List (Addr×Obj)}{σ:St}{H:Hp}{s:Ycg}{Q:VK}{us:List Ycf}{vs:List V}(F:FnOk X.prog X.w X.K X.mg X.base CX k f fd ps sp) (hr:Room k X.A) (hb:Je6 X.K fd ps ds) (hd:J9 dvs ds) (hx:Jgd CX X E)
 (I:Inv X pins σ H s) (r:J9 vs us) (h:sp (vs++dvs) H Q E):Ych (model X.prog X.w) X.A (call (.ref f) us) (EP X pins σ Q) X.xe s:=by
 have r2:J9 (vs++dvs) (us++ds):=r.append hd
 have hl:(us++ds).length=ps.length:=by rw [<- r2.length];exact F.len _ _ _ _ h
 refine wpAny_call (codeAny_mono (F.run X.A X.stack s H ⟨us,[]⟩ (us++ds) (vs++dvs) Q E hr I.env0 (hb s us I.kIn hl) r2 h) λ r s' hq=>?_)
 cases r with
 | error e=>exact hx pins σ H s e s' I hq
 | ok fl=>
  cases fl with
  | ret u=>exact I.after hq
  | next=>exact X8 hq
  | brk=>exact X8 hq
  | cont=>exact X8 hq
theorem Jp3 (F:FnOk X.prog X.w X.K X.mg X.base CX k f fd ps sp) (hr:Room k X.A) (hg:Gl X x) (hm:X.mg x=some (.ref f)) (hk:J5v X.K (.ref f)=true) (hb:Je6 X.K fd ps ds) (hd:J9 dvs ds) (hx:Jgd CX X E)
 (ha:PA X (e::es) t) (hdb:(x==("__debug__":Str))=false:=by decide) (he:starEach (e::es) X.env=(false,eval e X.env)::starEach es X.env:=by rfl) (hpl:(backTo pos (starEach es X.env)).any (·.1)=false:=by rfl) :
 PE X (.Call (.Name x p) (e::es) [] pos) (Jch sp dvs E t):=by
 intro pins s σ H Q I h
 refine Ydj (Jfm I hg hm ?_ hdb)
 refine Yab (h₀:=X.base) I.ok.mod.kin hk (thn (ha pos pins s σ H _ I h) λ us s1 ⟨vs,H1,I1,r,q⟩=>⟨I1.kIn,?_⟩) he hpl
 exact J0t F hr hb hd hx I1 r q
end
section
variable {X:Cx}{CX:CXT}{k:Nat}{f C:Addr}{fd:Ycu}{ps ks:List Str}{sp:Sp}{E:XK}{x m:Str}{p pos apos kpos:Pos}{e o:Expr}{es:List Expr}{kws:List Yc6}{te ta:TE}{t tk:TA}{nm:Option Str}
variable {g:List Ycf->List Ycf->List Ycf}{gV:List V->List V->List V}
end
structure FnScope (N P:List Str) (sc:Ycm):Prop where
 kind:sc.kind = .function
 co:sc.isCoroutine=false
 gen:sc.isGenerator=false
 nd:N.Nodup
 pre:N.take P.length=P
 par:∀ x∈P,sc.names.lookup x=some .local \/ sc.names.lookup x=some .cell
 nofree:∀ y∈sc.names,y.2≠.free
theorem Jim {kindOf:Str->Option Ycp}{x:Str}:∀ {binds:List (Str×Ycf)}{m:Str->Option Ycf},(∀ v,(x,v)∉binds)->bindL kindOf binds m x=m x
 | [],_,_=>rfl
 | (n,v)::r,m,h=>by
  unfold bindL
  rw [Jim λ w hw=>h w (Qh _ hw)]
  split
  . have:x≠n:=by rintro rfl;exact h v Qd
    simp [this]
  . rfl
theorem Jin {kindOf:Str->Option Ycp}{x:Str}:∀ {binds:List (Str×Ycf)}{m:Str->Option Ycf},(∀ v,(x,v)∉binds)->bindC kindOf binds m x=m x
 | [],_,_=>rfl
 | (n,v)::r,m,h=>by
  unfold bindC
  rw [Jin λ w hw=>h w (Qh _ hw)]
  split
  . rfl
  . have:x≠n:=by rintro rfl;exact h v Qd
    simp [this]
theorem Jio {kindOf:Str->Option Ycp}{x:Str}{v:Ycf}:∀ {P:List Str}{vs:List Ycf}{i:Nat}{m:Str->Option Ycf},P.Nodup->P[i]? = some x->vs[i]? = some v->kindOf x=some .local ->
 bindL kindOf (P.zip vs) m x=some v
 | [],_,_,_,_,h,_,_=>by simp at h
 | _::_,[],_,_,_,_,h,_=>by simp at h
 | p::P,w::vs,0,m,nd,h1,h2,hk=>by
  simp at h1 h2;subst h1;subst h2
  show bindL kindOf ((p,w)::P.zip vs) m p=_
  unfold bindL
  rw [Jim λ v hv=>(Xm.mp nd).1 (J7j hv).1,if_pos hk]
  simp
 | p::P,w::vs,i+1,m,nd,h1,h2,hk=>by
  show bindL kindOf ((p,w)::P.zip vs) m x=_
  unfold bindL
  exact Jio (i:=i) (Xm.mp nd).2 (by simpa using h1) (by simpa using h2) hk
theorem Jip {kindOf:Str->Option Ycp}{x:Str}{v:Ycf}:∀ {P:List Str}{vs:List Ycf}{i:Nat}{m:Str->Option Ycf},P.Nodup->P[i]? = some x->vs[i]? = some v->kindOf x≠some .local ->
 bindC kindOf (P.zip vs) m x=some v
 | [],_,_,_,_,h,_,_=>by simp at h
 | _::_,[],_,_,_,_,h,_=>by simp at h
 | p::P,w::vs,0,m,nd,h1,h2,hk=>by
  simp at h1 h2;subst h1;subst h2
  show bindC kindOf ((p,w)::P.zip vs) m p=_
  unfold bindC
  rw [Jin λ v hv=>(Xm.mp nd).1 (J7j hv).1,if_neg hk]
  simp
 | p::P,w::vs,i+1,m,nd,h1,h2,hk=>by
  show bindC kindOf ((p,w)::P.zip vs) m x=_
  unfold bindC
  exact Jip (i:=i) (Xm.mp nd).2 (by simpa using h1) (by simpa using h2) hk
noncomputable def start (N:List Str) (vs:List V):St:=vs.map some++Qy (N.length-vs.length) none
noncomputable def Jaz (CX:CXT) (P:Ycj) (w:Yci) (K:Qc) (mg:Str->Option Ycf) (base:Heap) (N:List Str) (qual:Str) (scope:Ycm) (f:Addr) (cd:Ycf) (A:Yck) (outer:List Env) (s:Ycg) (H:Hp) (E:XK):Cx where
 prog:=P
 w:=w
 K:=K
 mg:=mg
 base:=base
 A:=A.deeper (envOfC qual scope s.heap.objs.size f cd)
 N:=N
 s₀:=s
 H₀:=H
 env:=envOfC qual scope s.heap.objs.size f cd
 outer:=outer
 stack:=envOfC qual scope s.heap.objs.size f cd::outer
 ex:=[]
 calm:=true
 fn:=λ _=>true
 pn:=[]
 xe:=λ e s'=>Ych (model P w) (A.deeper (envOfC qual scope s.heap.objs.size f cd)) (leaving (envOfC qual scope s.heap.objs.size f cd) e) (λ _ s''=>CX outer H s E e s'') (λ e' s''=>CX outer H s E e' s'') s'
theorem Jl8 {sc:Ycm}{n:Nat}{x:Str}(h:sc.names.lookup x=some .cell):∃ c,(cellsFrom n sc.names []).lookup x=some c:=by
 have q:=Yac sc.names n [] (.inl h)
 exact J8m.mp q
theorem Jri {CX:CXT}{P:Ycj}{w:Yci}{K:Qc}{mg:Str->Option Ycf}{base:Heap}{N ps:List Str}{qual:Str}{scope:Ycm}{f:Addr}{cd:Ycf}{A:Yck}{outer:List Env}{s s1:Ycg}{H:Hp}{E:XK}{us:List Ycf}{vs:List V}
 (S:FnScope N ps scope) (hd:A.handled=none) (e0:Env0 P w K mg base A outer s H) (hl:vs.length=ps.length) (r:J9 vs us)
 (x:InCallC s s.heap.objs.size (bindL (envOfC qual scope s.heap.objs.size f cd).kindOf (ps.zip us) λ _=>none) (cellsFrom (s.heap.objs.size+1) scope.names []) (bindC (envOfC qual scope s.heap.objs.size f cd).kindOf (ps.zip us) λ _=>none) s1) :
 Inv (Jaz CX P w K mg base N qual scope f cd A outer s H E) [] (start N vs) H s1:=by
 have hpl:ps.length<=N.length:=by have:=congrArg J5i S.pre;rw [U6] at this;omega
 obtain ⟨h1,tk,rfl,hk⟩:=x.done
 have noA:∀ b:Addr,b∉(Jaz CX P w K mg base N qual scope f cd A outer s H E).ex:=λ b z=>absurd (show b∈([]:List Addr) from z) (by simp)
 refine ⟨⟨e0.mod,S.kind,rfl,rfl,Qn _,λ y z c h1 h2=>?_,λ y hy=>?_,λ y c _ h=>?_,λ _=>hd,Around.frames_deeper e0.frames,.inr ⟨rfl,rfl⟩,λ b z=>absurd z (noA b),e0.bs,e0.bsz,λ b _ _=>noA b,λ b z=>absurd z (noA b),e0.funs,e0.frf⟩,
  rfl,e0.bare,Un.kept hk,⟨_,x.toInCall.ns,λ i y v h1 h2 h3=>?_⟩,λ y c h=>⟨_,x.cell y c h⟩,e0.hok.fresh (Qn _),λ y c h=>?_,λ p hp=>absurd (show p∈([]:List (Addr×Obj)) from hp) (by simp),e0.hok.kept hk,?_⟩
 . exact name_of_addr x.apart (Xs h1) (Xs h2)
 . have hy:scope.names.lookup y=some .cell\/scope.names.lookup y=some .free:=hy
   rcases hy with hy | hy
   . exact Jl8 hy
   . exact absurd rfl (S.nofree _ (Xs hy))
 . exact J7f (x.above y c (Xs h))
 . have hi:i<vs.length:=by
    unfold start at h2
    by_cases hi:i<vs.length
    . exact hi
    . rw [J5w (by simpa using hi)] at h2
      rw [J6f] at h2
      split at h2<;>cases h2
   have ha:vs[i]? = some v:=by
    unfold start at h2
    rw [J5x (by simpa using hi),Qs] at h2
    cases e:vs[i]? with
    | none=>rw [e] at h2;cases h2
    | some a=>rw [e] at h2;cases h2;rfl
   obtain ⟨u,hu,rv⟩:=r.get ha
   have hp:ps[i]? = some y:=by
    rw [<- S.pre,List.getElem?_take_of_lt (by omega)];exact h1
   have ndP:ps.Nodup:=by rw [<- S.pre];exact S.nd.sublist (List.take_sublist _ _)
   refine ⟨u,rv,?_⟩
   rcases S.par y (Xa hp) with k | k
   . exact .inl ⟨k,Jio ndP hp hu k⟩
   . obtain ⟨c,e⟩:=Jl8 (n:=s.heap.objs.size+1) k
     refine .inr ⟨.inl k,c,e,?_⟩
     have q:=x.cell y c e
     rw [Jip ndP hp hu (by show scope.names.lookup y≠_;rw [k];decide)] at q
     exact q
 . exact e0.hok.fresh (J7f (x.above y c (Xs h)))
 . unfold start
   show _=N.length
   rw [Qw,Qb,Uq]
   omega
theorem Jzd {CX:CXT}{P:Ycj}{w:Yci}{K:Qc}{mg:Str->Option Ycf}{base:Heap}{k:Nat}{f:Addr}{name qual:Str}{params:Arguments}{body:List Stmt}{scope:Ycm}{dV kV doc pm cdv ct oc:Ycf}{an od:Option Addr}
 {osl:Array (Option Ycf)} {N ps:List Str} {sp:Sp} (lk:K.lookup f=some ⟨oc,od,.func (Ux name qual params body scope dV kV doc pm an cdv ct),osl⟩) (hcd:J6v K cdv qual=true) (S:FnScope N ps scope)
 (len:∀ vs H Q E,sp vs H Q E->vs.length=ps.length)
 (hbody:∀ (A:Yck) (outer:List Env) (s:Ycg) (H:Hp) (vs:List V) (Q:VK) (E:XK),Room k (A.deeper (envOfC qual scope s.heap.objs.size f cdv))->sp vs H Q E ->
  ∃ t,PSs (Jaz CX P w K mg base N qual scope f cdv A outer s H E) body t/\t { nx:=λ _ H'=>Q .non H',rt:=Q } (start N vs) H) :
 FnOk P w K mg base CX (k+1) f (Ux name qual params body scope dV kV doc pm an cdv ct) ps sp:=by
 refine ⟨len,λ A outer s H args us vs Q E hr e0 hb r hsp=>?_⟩
 have hl:=len _ _ _ _ hsp
 have KX:K.In s.heap:=e0.mod.kin.keeps λ b o e=>(e0.bs b o e).1
 have lim:s.heap.NoLimit:=e0.mod.nolimit.keeps λ b o e=>(e0.bs b o e).1
 have hkind:∀ y∈ps.zip us,scope.names.lookup y.1=some .local \/ (scope.names.lookup y.1=some .cell/\((cellsFrom (s.heap.objs.size+1) scope.names []).lookup y.1).isSome=true):=λ ⟨n,v⟩ hy=>by
  rcases S.par n (J7j hy).1 with q | q
  . exact .inl q
  . exact .inr ⟨q,Yac _ _ _ (.inl q)⟩
 refine codeAny_call_function hr.depth (KX _ _ lk) rfl S.co S.gen rfl (PySem.W.codeRec_of KX hcd) (hb _ _ _ _ ?_)
 refine wpAny_newFunctionEnv_cells S.kind hkind λ env he s1 x=>?_
 subst he
 refine ⟨lim.keeps x.toInCall.keep,codeAny_func ?_⟩
 obtain ⟨t,ht,hq⟩:=hbody A outer s H vs Q E (hr.deeper _) hsp
 have I:Inv (Jaz CX P w K mg base N qual scope f cdv A outer s H E) [] (start N vs) H s1:=Jri S hr.hd e0 hl r x
 refine wpAny_mono (ht [] s1 (start N vs) H _ I hq) (λ fl s' hs=>?_) λ e s' hs=>hs
 have fin:∀ {σ':St} {H':Hp} {v:V} {u:Ycf},Inv (Jaz CX P w K mg base N qual scope f cdv A outer s H E) [] σ' H' s'->Yc v u->Q v H'->CE outer P w H s Q u s':=
  λ {σ' H' v u} J rv q=>⟨v,H',J.os,J.bare,J.base,J.hok,rv,q⟩
 cases fl with
 | ret u=>
  obtain ⟨v,σ',H',J,rv,q⟩:=hs
  exact fin J rv q
 | next=>
  obtain ⟨σ',H',J,q⟩:=hs
  exact fin (v:=V.non) (u:=U5) J rfl q
 | brk=>
  obtain ⟨_,_,_,q⟩:=hs
  exact X8 q
 | cont=>
  obtain ⟨_,_,_,q⟩:=hs
  exact X8 q
section
variable {X:Cx}{x:Str}{p pos:Pos}{e:Expr}{es:List Expr}{t:TA}{id T:String}{r:List V->Hp->VK->Prop}
def tCB (r:List V->Hp->VK->Prop) (t:TA):TE:=λ σ H Q=>t σ H λ vs H1=>r vs H1 Q
theorem J7 (hc:Wz X (.builtin id) r) (hg:Gl X x) (hm:X.mg x=none) (hv:Ydb x=some (.builtin id)) (ha:PA X (e::es) t) (hn:x≠"__name__":=by decide) (hdb:(x==("__debug__":Str))=false:=by decide)
 (he:starEach (e::es) X.env=(false,eval e X.env)::starEach es X.env:=by rfl) (hpl:(backTo pos (starEach es X.env)).any (·.1)=false:=by rfl):PE X (.Call (.Name x p) (e::es) [] pos) (tCB r t):=by
 intro pins s σ H Q I h
 refine Ydj (Jbi I hg hm hv ?_ hn hdb)
 exact PyProof.Rows.callWith_builtin1 (thn (ha pos pins s σ H _ I h) λ us s1 ⟨vs,H1,I1,r1,q1⟩=>hc pins s1 σ H1 vs us Q I1 r1 q1) he hpl
theorem Yf (hc:Wz X (.type T) r) (hg:Gl X x) (hm:X.mg x=none) (hv:Ydb x=some (.type T)) (ha:PA X (e::es) t) (hn:x≠"__name__":=by decide) (hdb:(x==("__debug__":Str))=false:=by decide)
 (he:starEach (e::es) X.env=(false,eval e X.env)::starEach es X.env:=by rfl) (hpl:(backTo pos (starEach es X.env)).any (·.1)=false:=by rfl):PE X (.Call (.Name x p) (e::es) [] pos) (tCB r t):=by
 intro pins s σ H Q I h
 refine Ydj (Jbi I hg hm hv ?_ hn hdb)
 exact J6c (thn (ha pos pins s σ H _ I h) λ us s1 ⟨vs,H1,I1,r1,q1⟩=>hc pins s1 σ H1 vs us Q I1 r1 q1) he hpl
end
end L2
namespace HT
open PySem PyProof.Rows
section
open PySem.SeqAt
open PySem.AutoSeq1 (wpAny_loadPart')
open PySem.MeetsSeq PySem.MeetsSeq2 PySem.MeetsSeq3
end
section
variable {prog:Ycj}{w:Yci}{A:Yck}{E:Ycf->Ycg->Prop}{s:Ycg}
theorem cat_tup {t b:Addr}{vs ws:List Ycf}{Q:Ycf->Ycg->Prop}(ht:IsTup s.heap t vs.toArray) (hb:IsTup s.heap b ws.toArray) (hv:vs≠[])
 (h1:ws=[]->Q (.ref t) s) (h2:ws≠[]->Q (.ref s.heap.objs.size) { s with heap:=s.heap.push { cls:=.type "tuple",data:=.seq (vs++ws).toArray } })
 (hsz:vs.length+ws.length<=sizeLine):Ych (model prog w) A (binaryOp .Add (.ref t) (.ref b)) Q E s:=by
 obtain ⟨⟨cls,dd,data,sl⟩,ho,hc,n,hd⟩:=id ht
 obtain ⟨⟨cls2,dd2,data2,sl2⟩,ho2,hc2,n2,hd2⟩:=id hb
 simp only at hc hd hc2 hd2
 subst hc hd hc2 hd2
 have e:vs.toArray++ws.toArray=(vs++ws).toArray:=by simp
 by_cases hw:ws=[]
 . exact Ydp ⟨_,ho,rfl⟩ ⟨_,ho2,rfl⟩ Ydq Ydr J8n J8o (J8p _ _)
    (tuple_addW1 t b vs.toArray ws.toArray n n2 dd dd2 sl sl2 (by simpa using hv) (by simp [hw])) ⟨ho,ho2,h1 hw⟩
 . refine Ydp ⟨_,ho,rfl⟩ ⟨_,ho2,rfl⟩ Ydq Ydr J8n J8o (J8p _ _)
    (tuple_addW2 t b vs.toArray ws.toArray n n2 dd dd2 sl sl2 (by simpa using hv) (by simpa using hw) (by rw [Q1,Q1];exact hsz)) ⟨ho,ho2,?_⟩
   rw [e]
   exact h2 hw
noncomputable def sIx (n d:Nat):Option Int->Nat
 | none=>d
 | some v=>if v<0 then (v+(n:Int)).toNat else min v.toNat n
theorem sIx_none (n d:Nat):sIx n d none=d:=rfl
theorem sIx_nat (n d k:Nat):sIx n d (some (k:Int))=min k n:=by
 show (if (k:Int)<0 then ((k:Int)+(n:Int)).toNat else min (k:Int).toNat n)=min k n
 rw [if_neg (by omega),Xb]
theorem J0u (n d:Nat) (hd:d<=n) (o:Option Int):sIx n d o<=n:=by
 cases o with
 | none=>exact hd
 | some v=>
  show (if v<0 then (v+(n:Int)).toNat else min v.toNat n)<=n
  by_cases hv:v<0
  . rw [if_pos hv];omega
  . rw [if_neg hv];exact J6w _ _
theorem Jp4 (v:Int) (n d:Nat):(if v<0 then max (v+(n:Int)) 0 else min v (n:Int))=((sIx n d (some v):Nat):Int):=by
 show (if v<0 then max (v+(n:Int)) 0 else min v (n:Int))=(((if v<0 then (v+(n:Int)).toNat else min v.toNat n):Nat):Int)
 by_cases hv:v<0
 . simp only [if_pos hv];omega
 . simp only [if_neg hv];omega
theorem Jol (lo hi:Option Int) (n:Nat):J8q lo hi 1 (n:Int)=(((sIx n 0 lo:Nat):Int),((sIx n n hi:Nat):Int)):=by
 have h1:¬ ((1:Int)<0):=by omega
 unfold J8q
 simp only [h1,if_false]
 refine Prod.ext ?_ ?_
 . cases lo with
   | none=>rfl
   | some v=>exact Jp4 v n 0
 . cases hi with
   | none=>rfl
   | some v=>exact Jp4 v n n
theorem Jom (i j:Nat):J7k (i:Int) (j:Int) 1=j-i:=by
 unfold J7k
 have h1:(1:Int)>0:=by omega
 simp only [h1,if_true,Int.ediv_one]
 split<;>omega
theorem Jge {v:Ycf}{o:Option Int}{Q:Option Int->Ycg->Prop}(p:Ycz v o) (h:Q o s):Ych (model prog w) A (Yb6 v) Q E s:=by
 cases p with
 | none=>exact slicePart_none h
 | int i t=>exact slicePart_int h
theorem Jei {sl:Addr}{vl vu:Ycf}{lo hi:Option Int}{n:Nat}{Q:Int×Int×Nat->Ycg->Prop}(hs:s.heap.IsSliceOf sl vl vu .none) (pl:Ycz vl lo) (pu:Ycz vu hi)
 (h:Q (((sIx n 0 lo:Nat):Int),1,sIx n n hi-sIx n 0 lo) s):Ych (model prog w) A (Yad (.ref sl) (pure (n:Int))) Q E s:=by
 obtain ⟨os,hos,hcs,hds⟩:=id hs
 unfold Yad Yb7
 refine wpAny_bind (wpAny_bind (wpAny_field hos hds (x:=vl) rfl (wpAny_bind (wpAny_field hos hds (x:=vu) rfl (wpAny_bind (wpAny_field hos hds (x:=.none) rfl (wpAny_pure ?_)))))))
 refine wpAny_bind (slicePart_none ?_)
 show Ych _ _ (if ((1:Int)==0)=true then _ else _) _ _ s
 rw [if_neg (by decide)]
 refine wpAny_bind (Jge pl (wpAny_bind (Jge pu (wpAny_bind (wpAny_pure ?_)))))
 show Ych _ _ (match J8q lo hi 1 (n:Int) with | (lo,hi)=>pure (lo,(1:Int),J7k lo hi 1)) _ _ s
 rw [Jol lo hi n]
 show Ych _ _ (pure (((sIx n 0 lo:Nat):Int),(1:Int),J7k ((sIx n 0 lo:Nat):Int) ((sIx n n hi:Nat):Int) 1)) _ _ s
 rw [Jom]
 exact wpAny_pure h
theorem Jtv (xs:Array Ycf) (i k:Nat):((Qf k).filterMap λ (m:Nat)=>xs[((i:Int)+(m:Int)*1).toNat]?).toArray=((xs.toList.drop i).take k).toArray:=by
 have e:(λ (m:Nat)=>xs[((i:Int)+(m:Int)*1).toNat]?)=λ m=>xs[i+m]?:=by
  funext m
  have:((i:Int)+(m:Int)*1).toNat=i+m:=by omega
  rw [this]
 rw [e]
 have:=pick_run xs i k
 rw [List.filterMap_map] at this
 have e2:((λ x=>xs[x]?)∘λ x=>i+x)=λ m=>xs[i+m]?:=rfl
 rw [e2] at this
 rw [this]
theorem getItem_tuple_cut {t sl:Addr}{items:Array Ycf}{vl vu:Ycf}{lo hi:Option Int}{Q:Ycf->Ycg->Prop}(ht:IsTup s.heap t items) (hs:s.heap.IsSliceOf sl vl vu .none) (pl:Ycz vl lo) (pu:Ycz vu hi)
 (hw:¬ (sIx items.size 0 lo=0/\sIx items.size items.size hi=items.size))
 (h:Q (.ref s.heap.objs.size) { s with heap:=s.heap.push { cls:=.type "tuple",data:=.seq ((items.toList.drop (sIx items.size 0 lo)).take (sIx items.size items.size hi-sIx items.size 0 lo)).toArray } })
 (hsz:items.size<=sizeLine):Ych (model prog w) A (getItem (.ref t) (.ref sl)) Q E s:=by
 have htake:sizeOk (.seq ((items.toList.drop (sIx items.size 0 lo)).take (sIx items.size items.size hi-sIx items.size 0 lo)).toArray):=by
  show ((items.toList.drop (sIx items.size 0 lo)).take (sIx items.size items.size hi-sIx items.size 0 lo)).toArray.size<=sizeLine
  rw [Q1,U6,U7,J7g]
  omega
 have hj:sIx items.size items.size hi<=items.size:=J0u _ _ (Qn _) hi
 obtain ⟨os,hos,hcs,hds⟩:=id hs
 have hTs:s.TypeIs (.ref sl) "slice":=⟨os,hos,hcs⟩
 unfold getItem
 try with_reducible refine wpAny_holding ?_
 first | refine wpAny_bind (wpAny_pure ?_) | skip
 refine wpAny_bind (wpAny_sequenceKey ht.typeIs (by decide) ?_)
 refine wpAny_bind (Yc1 (name:=J5j "__getitem__") ht.typeIs J8r
  (wpAny_call_entry J8r ht.typeIs entry_tuple_getitem ?_ (args_tuple_getitem _ _)))
 show Ych _ _ (Yb8 (.ref t) >>= _) _ _ s
 refine wpAny_bind (tupleItemsOf_ ht ?_)
 refine wpAny_bind (wpAny_typeOf hTs ?_)
 rw [if_pos (by decide)]
 refine wpAny_bind (Jei hs pl pu ?_)
 have hno:¬ ((((sIx items.size 0 lo:Nat):Int)==0&&(1:Int)==1&&(sIx items.size items.size hi-sIx items.size 0 lo)==items.size)=true):=by
  intro q
  rw [Xg,Xg] at q
  have q1:((sIx items.size 0 lo:Nat):Int)=0:=eq_of_beq q.1.1
  have q2:sIx items.size items.size hi-sIx items.size 0 lo=items.size:=eq_of_beq q.2
  exact hw ⟨by omega,by omega⟩
 show Ych _ _ (if (((sIx items.size 0 lo:Nat):Int)==0&&(1:Int)==1&&(sIx items.size items.size hi-sIx items.size 0 lo)==items.size)=true then _ else _) _ _ s
 rw [if_neg hno,Jtv]
 first
  | exact wpAny_bind (m:=J7l _) (wpAny_newObj_type (wpAny_pure ⟨_,rfl,wpAny_pure h⟩) htake)
  | exact wpAny_bind (m:=J7l _) (wpAny_newObj_type (wpAny_bind (wpAny_pure (wpAny_pure ⟨_,rfl,wpAny_pure h⟩))) htake)
  | exact wpAny_bind (wpAny_bind (m:=J7l _) (wpAny_newObj_type (wpAny_pure (wpAny_pure ⟨_,rfl,wpAny_pure h⟩)) htake))
  | exact wpAny_bind (wpAny_bind (m:=J7l _) (wpAny_newObj_type (wpAny_pure ⟨_,rfl,wpAny_pure h⟩) htake))
end
end HT
namespace L2
abbrev TO:=St->Hp->(Option Int->Hp->Prop)->Prop
def PO (X:Cx) (e:Option Expr) (t:TO):Prop:=
 ∀ (pins:List (Addr×Obj)) (s:Ycg) (σ:St) (H:Hp) (Q:Option Int->Hp->Prop),Inv X pins σ H s->t σ H Q ->
  Ych (model X.prog X.w) X.A (evalPart e X.env) (λ u s'=>∃ o H',Inv X pins σ H' s'/\Ycz u o/\Q o H') X.xe s
def Jp5:TO:=λ _ H Q=>Q none H
def Jiq (t:TE):TO:=λ σ H Q=>t σ H λ x H1=>∃ i,x = .int i/\Q (some i) H1
theorem Jcr {ns:List Int}:∀ {us:List Ycf},J9 (ns.map V.int) us->Ydg us ns:=by
 induction ns with
 | nil=>intro us r;rw [Uf] at r;cases r;exact .nil
 | cons n ns ih=>
  intro us r
  rw [Qq] at r
  cases r with
  | cons r1 r2=>
   obtain ⟨t,e⟩:=r1
   subst e
   exact .cons n t (ih r2)
section
variable {X:Cx}{e:Expr}{te:TE}{lo hi:Option Expr}{tl th:TO}{pos p2:Pos}
theorem Vu:PO X none Jp5:=by
 intro pins s σ H Q I h
 rw [Yds]
 exact wpAny_pure ⟨none,H,I,.none,h⟩
theorem Z2 (h:PE X e te):PO X (some e) (Jiq te):=by
 intro pins s σ H Q I hw
 rw [evalPart_some]
 refine thn (h pins s σ H _ I hw) λ u s1 ⟨x,H1,I1,r1,q1⟩=>?_
 obtain ⟨i,rfl,q⟩:=q1
 obtain ⟨t,rfl⟩:=r1
 exact ⟨some i,H1,I1,.int i t,q⟩
def SlR (X:Cx) (r:V->Option Int->Option Int->Hp->VK->Prop):Prop:=
 ∀ (pins:List (Addr×Obj)) (s:Ycg) (σ:St) (H:Hp) (x:V) (v vl vu:Ycf) (lo hi:Option Int) (sl:Addr) (Q:VK),Inv X pins σ H s->Yc x v->s.heap.IsSliceOf sl vl vu .none->Ycz vl lo->Ycz vu hi->r x lo hi H Q ->
  ∃ T id,typeLookup (.type T) "__getitem__" = pure (some (.builtin id))/\s.TypeIs v T/\Ych (model X.prog X.w) X.A (getItem v (.ref sl)) (EP X pins σ Q) X.xe s
def tSl (r:V->Option Int->Option Int->Hp->VK->Prop) (te:TE) (tl th:TO):TE:=λ σ H Q=>te σ H λ x H1=>tl σ H1 λ l H2=>th σ H2 λ u H3=>r x l u H3 Q
theorem Wl {r:V->Option Int->Option Int->Hp->VK->Prop}(hr:SlR X r) (he:PE X e te) (hl:PO X lo tl) (hu:PO X hi th):PE X (.Subscript e (.Slice lo hi none p2) pos) (tSl r te tl th):=by
 intro pins s σ H Q I h
 refine Subscript_ (thn (he pins s σ H _ I h) λ v s1 ⟨x,H1,I1,r1,q1⟩=>?_)
 refine wpAny_Slice (thn (hl pins s1 σ H1 _ I1 q1) λ vl s2 ⟨l,H2,I2,pl,q2⟩=>thn (hu pins s2 σ H2 _ I2 q2) λ vu s3 ⟨u,H3,I3,pu,q3⟩=>?_)
 rw [Yds]
 refine wpAny_pure ?_
 have I4:Inv X pins σ H3 { s3 with heap:=s3.heap.push { cls:=.type "slice",data:=.fields #[vl,vu,.none] } }:=I3.kept (t':=s3.toks) λ b ob q=>Qk _ q
 obtain ⟨T,id,hT,ht,hg⟩:=hr pins { s3 with heap:=s3.heap.push { cls:=.type "slice",data:=.fields #[vl,vu,.none] } } σ H3 x v vl vu l u s3.heap.objs.size Q I4 r1 (Yae ..) pl pu q3
 show Ych (model X.prog X.w) X.A (subscriptTail e (.Slice lo hi none p2) v (.ref s3.heap.objs.size)) (EP X pins σ Q) X.xe { s3 with heap:=s3.heap.push { cls:=.type "slice",data:=.fields #[vl,vu,.none] } }
 exact tail_any (ops:=[.ref s3.heap.objs.size,v]) ht hT hg (by with_unfolding_all rfl)
noncomputable def Jia (xs:List V) (lo hi:Option Int):List V:=(xs.drop (HT.sIx xs.length 0 lo)).take (HT.sIx xs.length xs.length hi-HT.sIx xs.length 0 lo)
theorem By (xs:List V) (lo hi:Option Int):(Jia xs lo hi).length<=xs.length:=by
 unfold Jia
 rw [U6,U7]
 omega
def J2n (K:Qc):V->Option Int->Option Int->Hp->VK->Prop:=λ x lo hi H Q=>∃ a xs,x = .ref a/\SqT K H a xs /\
 ¬ (HT.sIx xs.length 0 lo=0/\HT.sIx xs.length xs.length hi=xs.length)/\∀ p,H p=none->Q (.ref p) (upd H p (.tup (Jia xs lo hi)))
theorem Jtw:SlR X (J2n X.K):=by
 intro pins s σ H x v vl vu lo hi sl Q I rx hs pl pu h
 obtain ⟨a,xs,rfl,hx,hw,q⟩:=h
 cases rx
 obtain ⟨its,r,ht,hz⟩:=I.tuple hx
 have hlen:its.toArray.size=xs.length:=by rw [Q1];exact r.length.symm
 refine ⟨"tuple",_,J8r.lookup,ht.typeIs,?_⟩
 refine HT.getItem_tuple_cut ht hs pl pu (by rw [hlen];exact hw) ?_ (by rw [hlen];exact hz)
 rw [hlen]
 refine ⟨.ref s.heap.objs.size,_,I.laid (t':=s.toks) (o:=.tup (Jia xs lo hi)) (λ b ob q=>Qk _ q) (Qn _) ?_,rfl,q _ (I.hok.fresh (Qn _))⟩
 exact ⟨Xk (By xs lo hi) hz,_,(r.drop (HT.sIx xs.length 0 lo)).take (HT.sIx xs.length xs.length hi-HT.sIx xs.length 0 lo),J8s _ _⟩
def J2o (K:Qc):R2:=λ x y H Q=>∃ a b xs ys,x = .ref a/\y = .ref b/\SqT K H a xs/\SqT K H b ys/\xs≠[]/\xs.length+ys.length<=sizeLine /\
 (ys=[]->Q (.ref a) H)/\(ys≠[]->∀ p,H p=none->Q (.ref p) (upd H p (.tup (xs++ys))))
theorem J9.nil_iff {xs:List V}{us:List Ycf}(r:J9 xs us):us=[]↔xs=[]:=by
 cases r with
 | nil=>simp
 | cons _ _=>simp
theorem Jw5:OpR X (binaryOp .Add) (J2o X.K):=by
 intro pins s σ H x y v u Q I rx ry h
 obtain ⟨a,b,xs,ys,rfl,rfl,ha,hb,hx,hz,q1,q2⟩:=h
 cases rx
 cases ry
 obtain ⟨its,r1,p1,_⟩:=I.tuple ha
 obtain ⟨its2,r2,p2,_⟩:=I.tuple hb
 refine HT.cat_tup p1 p2 (λ z=>hx (r1.nil_iff.mp z)) (λ z=>⟨.ref a,H,I,rfl,q1 (r2.nil_iff.mp z)⟩) (λ z=>?_) (by rw [<- r1.length,<- r2.length];exact hz)
 refine ⟨.ref s.heap.objs.size,_,I.laid (t':=s.toks) (o:=.tup (xs++ys)) (λ b ob q=>Qk _ q) (Qn _) ?_,rfl,q2 (λ w=>z (r2.nil_iff.mpr w)) _ (I.hok.fresh (Qn _))⟩
 exact ⟨by rw [Qw];exact hz,_,r1.append r2,J8s _ _⟩
end
noncomputable def ixN (n:Nat) (i:Int):Option Nat:=if 0<=i then (if i<n then some i.toNat else none) else if -(n:Int)<=i then some (i+n).toNat else none
noncomputable def atI {α:Type}(xs:List α) (i:Int):Option α:=(ixN xs.length i).bind λ j=>xs[j]?
theorem Jp6 {n:Nat}{i:Int}{j:Nat}(h:ixN n i=some j):Ydh i n=some j/\j<n/\-(n:Int)<=i/\i<n:=by
 unfold ixN at h
 by_cases h0:0<=i
 . rw [if_pos h0] at h
   by_cases h1:i<n
   . rw [if_pos h1] at h
     have e:i.toNat=j:=Xd h
     exact ⟨by rw [seqIndex_of h0 h1,e],by omega,by omega,h1⟩
   . rw [if_neg h1] at h;cases h
 . rw [if_neg h0] at h
   by_cases h1:-(n:Int)<=i
   . rw [if_pos h1] at h
     have e:(i+n).toNat=j:=Xd h
     exact ⟨by rw [Ydt (by omega) h1,e],by omega,h1,by omega⟩
   . rw [if_neg h1] at h;cases h
theorem Jp7 {α:Type}{xs:List α}{i:Int}{v:α}(h:atI xs i=some v):∃ j,Ydh i xs.length=some j/\xs[j]? = some v/\j<xs.length/\-(xs.length:Int)<=i/\i<xs.length:=by
 unfold atI at h
 cases e:ixN xs.length i with
 | none=>rw [e] at h;cases h
 | some j=>
  rw [e] at h
  obtain ⟨h1,h2,h3,h4⟩:=Jp6 e
  exact ⟨j,h1,h,h2,h3,h4⟩
theorem Jc8 {α:Type}{xs:List α}{j:Nat}{v:α}(h:xs[j]? = some v):atI xs (j:Int)=some v:=by
 have hj:j<xs.length:=(Qr.mp h).1
 have e:ixN xs.length (j:Int)=some j:=by
  unfold ixN
  rw [if_pos (by omega),if_pos (by omega)];simp
 unfold atI;rw [e];exact h
def Jw6 (b:Expr):Prop:=∀ o i,subscripted b false o i=operate [o,i] (getItem o i)
def IxR (X:Cx) (r:R2):Prop:=
 ∀ (value slice:Expr) (pins:List (Addr×Obj)) (s:Ycg) (σ:St) (H:Hp) (x y:V) (v u:Ycf) (Q:VK),Inv X pins σ H s->Yc x v->Yc y u->r x y H Q ->
  subscripted slice false v u=operate [v,u] (getItem v u)->Ych (model X.prog X.w) X.A (subscriptTail value slice v u) (EP X pins σ Q) X.xe s
def MtR (X:Cx) (id:String) (r:V->List V->Hp->VK->Prop):Prop:=
 ∀ (pins:List (Addr×Obj)) (s:Ycg) (σ:St) (H:Hp) (x:V) (xs:List V) (v:Ycf) (us:List Ycf) (Q:VK),Inv X pins σ H s->Yc x v->J9 xs us->r x xs H Q ->
  Ych (model X.prog X.w) X.A (call (.builtin id) (v::us)) (EP X pins σ Q) X.xe s
section
variable {X:Cx}{a b:Expr}{ta tb:TE}{pos:Pos}
theorem Jm {r:R2}(hr:IxR X r) (ha:PE X a ta) (hb:PE X b tb) (hs:Jw6 b):PE X (.Subscript a b pos) (tOp r ta tb):=by
 intro pins s σ H Q I h
 exact Subscript_ (J0k ha hb I h λ v u s2 x y H2 I2 rx ry q=>hr a b pins s2 σ H2 x y v u Q I2 rx ry q (hs _ _))
def Jtx (K:Qc):R2:=λ x y H Q=>∃ p xs i v,x = .ref p/\y = .int i/\SqL K H p xs/\atI xs i=some v/\Q v H
def J0v (K:Qc):R2:=λ x y H Q=>∃ p xs i v,x = .ref p/\y = .int i/\SqT K H p xs/\atI xs i=some v/\Q v H
theorem Yq:IxR X (Jtx X.K):=by
 intro value slice pins s σ H x y v u Q I rx ry h hs
 obtain ⟨p,xs,i,z,rfl,rfl,hq,he,q⟩:=h
 cases rx
 obtain ⟨t,rfl⟩:=ry
 obtain ⟨its,r,pl,hz⟩:=I.list hq
 obtain ⟨j,h1,h2,h3,h4,h5⟩:=Jp7 he
 obtain ⟨w,ew,rw'⟩:=r.get h2
 have hl:=r.length
 have hn:=Jeg
 have fin:EP X pins σ Q w s:=⟨z,H,I,rw',q⟩
 by_cases h0:0<=i
 . have hj:i.toNat=j:=by
    rw [seqIndex_of h0 h5] at h1
    exact Xd h1
   exact item_listR pl.isList h0 (by omega) (by rw [hj];simpa using ew) fin hs
 . have hj:(i+(its.toArray.size:Int)).toNat=j:=by
    rw [Ydt (by omega) h4] at h1
    rw [Q1,<- hl]
    exact Xd h1
   exact Yd1 (x:=w) pl.isList.typeIs slot_list_getitem.lookup
    (wpAny_getItem_list_neg (Q:=λ r s'=>r=w/\EP X pins σ Q r s') pl.isList (by omega) (by rw [Q1]<;>omega) (by omega) (by rw [hj];simpa using ew) ⟨rfl,fin⟩) hs
theorem Jn:IxR X (J0v X.K):=by
 intro value slice pins s σ H x y v u Q I rx ry h hs
 obtain ⟨p,xs,i,z,rfl,rfl,hq,he,q⟩:=h
 cases rx
 obtain ⟨t,rfl⟩:=ry
 obtain ⟨its,r,pl,hz⟩:=I.tuple hq
 obtain ⟨j,h1,h2,h3,h4,h5⟩:=Jp7 he
 obtain ⟨w,ew,rw'⟩:=r.get h2
 have hl:=r.length
 have hn:=Jeg
 have fin:EP X pins σ Q w s:=⟨z,H,I,rw',q⟩
 exact Yd1 (x:=w) pl.typeIs slot_tuple_getitem.lookup
  (getItem_tuple (j:=j) (Q:=λ r s'=>r=w/\EP X pins σ Q r s') pl (by omega) (by omega) (by rw [Q1,<- hl];exact h1) (by simpa using ew) ⟨rfl,fin⟩) hs
theorem Jon (its:List Ycf) (n j:Nat) (u:Ycf):J5y (·.setIfInBounds j u) { cls:=.type "list",data:=.seq its.toArray n } = { cls:=.type "list",data:=.seq (its.set j u).toArray n }:=by
 simp [J5y]
theorem Inv.lst {pins:List (Addr×Obj)}{σ:St}{H:Hp}{s:Ycg}{p:Addr}{xs:List V}(I:Inv X pins σ H s) (h:H p=some (.lst xs)) :
 ∃ (its:List Ycf) (n:Nat),J9 xs its/\s.heap.get? p=some { cls:=.type "list",data:=.seq its.toArray n }/\xs.length<=sizeLine:=by
 obtain ⟨z,its,n,r,e⟩:=I.hok p _ h
 exact ⟨its,n,r,e,z⟩
theorem Inv.lstUpd {pins:List (Addr×Obj)}{σ:St}{H:Hp}{s:Ycg}{p:Addr}{xs ys:List V}{its its':List Ycf}{n n':Nat}{f:Obj->Obj}(I:Inv X pins σ H s) (h:H p=some (.lst xs))
 (ho:s.heap.get? p=some { cls:=.type "list",data:=.seq its.toArray n }) (hf:f { cls:=.type "list",data:=.seq its.toArray n } = { cls:=.type "list",data:=.seq its'.toArray n' }) (r:J9 ys its') (hz:ys.length<=sizeLine) (t:Nat) :
 Inv X pins σ (upd H p (.lst ys)) { s with heap:=s.heap.update p f,toks:=t }:=by
 have e:(s.heap.update p f).get? p=some { cls:=.type "list",data:=.seq its'.toArray n' }:=by
  rw [J8t f ho (by rw [hf]<;>rfl),hf]
 refine I.write (x:=p) (e:=p) (by rw [h];trivial) (.inl rfl) (λ b u hb q=>(Yaf _ _ (Qj hb)).trans q) ⟨_,e⟩ ?_
 exact ⟨hz,its',n',r,e⟩
def Jir:V->V->V->Hp->(Hp->Prop)->Prop:=λ o i v H Q=>∃ p xs k j,o = .ref p/\i = .int k/\H p=some (.lst xs)/\ixN xs.length k=some j/\Q (upd H p (.lst (xs.set j v)))
theorem Jal:J0i X Jir:=by
 intro pins s σ H o i v ov iv u Q I ro ri rv h
 obtain ⟨p,xs,k,j,rfl,rfl,hp,hj,q⟩:=h
 cases ro
 obtain ⟨t,rfl⟩:=ri
 obtain ⟨its,n,r,ho,hz⟩:=I.lst hp
 obtain ⟨h1,h2,h3,h4⟩:=Jp6 hj
 have hl:=r.length
 have hn:=Jeg
 have I':Inv X pins σ (upd H p (.lst (xs.set j v))) { s with heap:=s.heap.update p (J5y (·.setIfInBounds j u)) }:=
  I.lstUpd hp ho (Jon its n j u) (r.set rv j) (by rw [Xh];exact hz) s.toks
 by_cases h0:0<=k
 . have hk:k.toNat=j:=by
    rw [seqIndex_of h0 h4] at h1
    exact Xd h1
   exact PySem.W.ki_setAt ho h0 (by omega) (by rw [Q1,<- hl];exact h4) (by rw [hk];exact ⟨_,I',q⟩)
 . have hk:(k+(its.toArray.size:Int)).toNat=j:=by
    rw [Ydt (by omega) h3] at h1
    rw [Q1,<- hl]
    exact Xd h1
   exact PySem.W.ki_setBack ho (by omega) (by rw [Q1,<- hl];exact h3) (by omega) (by rw [hk];exact ⟨_,I',q⟩)
theorem Jj4 (lo hi:Option Int) (n:Nat):(sliceBounds lo hi none n).1=((HT.sIx n 0 lo:Nat):Int)/\(sliceBounds lo hi none n).2.1=((HT.sIx n n hi:Nat):Int)/\(sliceBounds lo hi none n).2.2=1:=by
 refine ⟨?_,?_,rfl⟩
 . cases lo with
   | none=>simp [sliceBounds,HT.sIx]
   | some i=>
    simp only [sliceBounds,HT.sIx,Option.getD_none,show (1:Int)>0 by decide,if_true]
    by_cases h:i<0
    . simp only [h,if_true]<;>omega
    . simp only [h,if_false]<;>omega
 . cases hi with
   | none=>simp [sliceBounds,HT.sIx]
   | some i=>
    simp only [sliceBounds,HT.sIx,Option.getD_none,show (1:Int)>0 by decide,if_true]
    by_cases h:i<0
    . simp only [h,if_true]<;>omega
    . simp only [h,if_false]<;>omega
theorem Jib (its:List Ycf) (lo hi:Option Int):slicePick its.toArray lo hi none=((its.drop (HT.sIx its.length 0 lo)).take (HT.sIx its.length its.length hi-HT.sIx its.length 0 lo)).toArray:=by
 obtain ⟨h1,h2,h3⟩:=Jj4 lo hi its.toArray.size
 unfold slicePick
 rw [h1,h2,h3]
 simp only [sliceRange_one,pick_run,Q1]<;>rfl
def J2p (K:Qc):V->Option Int->Option Int->Hp->VK->Prop:=λ x lo hi H Q=>∃ a xs,x = .ref a/\SqL K H a xs/\∀ p,H p=none->Q (.ref p) (upd H p (.lst (Jia xs lo hi)))
theorem Bz:SlR X (J2p X.K):=by
 intro pins s σ H x v vl vu lo hi sl Q I rx hs pl pu h
 obtain ⟨a,xs,rfl,hx,q⟩:=h
 cases rx
 obtain ⟨its,r,ht,hz⟩:=I.list hx
 have hlen:=r.length
 refine ⟨"list",_,slot_list_getitem.lookup,ht.isList.typeIs,?_⟩
 refine wpAny_getItem_list_slice ht.isList hs pl pu .none (by simp) ?_ (by rw [Q1]<;>omega)
 rw [Jib,<- hlen]
 refine ⟨.ref s.heap.objs.size,_,I.laid (t':=s.toks) (o:=.lst (Jia xs lo hi)) (λ b ob q=>Qk _ q) (Qn _) ?_,rfl,q _ (I.hok.fresh (Qn _))⟩
 exact ⟨Xk (By xs lo hi) hz,_,0,(r.drop (HT.sIx xs.length 0 lo)).take (HT.sIx xs.length xs.length hi-HT.sIx xs.length 0 lo),Q5 _ rfl⟩
noncomputable def Jci:V->Bool
 | .non=>true
 | .bl _=>true
 | .int _=>true
 | .str _=>true
 | _=>false
noncomputable def eqV:V->V->Bool
 | .non,.non=>true
 | .bl a,.bl b=>a==b
 | .bl a,.int b=>(if a then 1 else 0)==b
 | .int a,.bl b=>a==(if b then 1 else 0)
 | .int a,.int b=>a==b
 | .str a,.str b=>a==b
 | _,_=>false
theorem J0w {A:Yck}{s:Ycg}{y x:V}{u v:Ycf}(ry:Yc y u) (rx:Yc x v) (fy:Jci y=true) (fx:Jci x=true):SeqAt.EqAt A s u v (eqV y x):=by
 cases y with
 | non=>
  cases ry
  cases x with
  | non=>cases rx;exact SeqAt.EqAt.same _
  | bl b=>cases rx;exact SeqAt.EqAt.none_bool b
  | int b=>obtain ⟨t,rfl⟩:=rx;exact SeqAt.EqAt.none_int b t
  | str b=>obtain ⟨t,rfl⟩:=rx;exact SeqAt.EqAt.none_str b t
  | _=>exact absurd (show false=true from fx) Q7
 | bl a=>
  cases ry
  cases x with
  | non=>cases rx;exact SeqAt.EqAt.bool_none a
  | bl b=>cases rx;exact SeqAt.EqAt.bool_bool a b
  | int b=>obtain ⟨t,rfl⟩:=rx;exact SeqAt.EqAt.bool_int a b t
  | str b=>obtain ⟨t,rfl⟩:=rx;exact SeqAt.EqAt.bool_str a b t
  | _=>exact absurd (show false=true from fx) Q7
 | int a=>
  obtain ⟨t',rfl⟩:=ry
  cases x with
  | non=>cases rx;exact SeqAt.EqAt.int_none a t'
  | bl b=>cases rx;exact SeqAt.EqAt.int_bool a t' b
  | int b=>obtain ⟨t,rfl⟩:=rx;exact SeqAt.EqAt.int_int a t' b t
  | str b=>obtain ⟨t,rfl⟩:=rx;exact J9w a t' b t
  | _=>exact absurd (show false=true from fx) Q7
 | str a=>
  obtain ⟨t',rfl⟩:=ry
  cases x with
  | non=>cases rx;exact SeqAt.EqAt.str_none a t'
  | bl b=>cases rx;exact SeqAt.EqAt.str_bool a t' b
  | int b=>obtain ⟨t,rfl⟩:=rx;exact J9x a t' b t
  | str b=>obtain ⟨t,rfl⟩:=rx;exact SeqAt.EqAt.str_str a t' b t
  | _=>exact absurd (show false=true from fx) Q7
 | _=>exact absurd (show false=true from fy) Q7
noncomputable def eqU (x:V) (u:Ycf):Bool:=match u with
 | .none=>eqV .non x
 | .bool b=>eqV (.bl b) x
 | .int i _=>eqV (.int i) x
 | .str z _=>eqV (.str z) x
 | _=>false
theorem Jty {x y:V}{u:Ycf}(r:Yc y u) (f:Jci y=true):eqU x u=eqV y x:=by
 cases y with
 | non=>cases r;rfl
 | bl b=>cases r;rfl
 | int i=>obtain ⟨t,rfl⟩:=r;rfl
 | str z=>obtain ⟨t,rfl⟩:=r;rfl
 | _=>exact absurd (show false=true from f) Q7
theorem Jc9 {x:V}:∀ {xs:List V}{us:List Ycf},J9 xs us->xs.all Jci=true->us.any (eqU x)=xs.any λ y=>eqV y x
 | _,_,.nil,_=>rfl
 | y::xs,u::us,.cons r t,f=>by
  rw [J6g,Xg] at f
  rw [Ur,Ur,Jty r f.1,Jc9 t f.2]
theorem Jbk {A:Yck}{s:Ycg}{x:V}{v:Ycf}(rx:Yc x v) (fx:Jci x=true):∀ {xs:List V}{us:List Ycf},J9 xs us->xs.all Jci=true->∀ u∈us,SeqAt.EqAt A s u v (eqU x u)
 | _,_,.nil,_=>λ u hu=>by cases hu
 | y::xs,u::us,.cons r t,f=>λ u' hu=>by
  rw [J6g,Xg] at f
  rcases Qg.mp hu with rfl | hu
  . rw [Jty r f.1];exact J0w r rx f.1 fx
  . exact Jbk rx fx t f.2 u' hu
noncomputable def inV (x:V) (xs:List V):Bool:=xs.any λ y=>eqV y x
def rIn (K:Qc) (neg:Bool):R2:=λ x y H Q=>∃ p xs,y = .ref p/\(SqL K H p xs\/SqT K H p xs)/\Jci x=true/\xs.all Jci=true/\Q (.bl (if neg then !inV x xs else inV x xs)) H
theorem Jrj:OpR X (compareOp .In) (rIn X.K false):=by
 intro pins s σ H x y v u Q I rx ry h
 obtain ⟨p,xs,rfl,hq,fx,fs,q⟩:=h
 cases ry
 rcases hq with hq | hq
 . obtain ⟨its,r,pl,hz⟩:=I.list hq
   refine SeqAt.in_listAt (eqU x) pl.isList (λ w hw=>Jbk rx fx r fs w (by simpa using hw)) ⟨.bl _,H,I,rfl,?_⟩
   rw [show its.toArray.any (eqU x)=its.any (eqU x) by simp,Jc9 r fs]
   exact q
 . obtain ⟨its,r,pl,hz⟩:=I.tuple hq
   refine SeqAt.in_tupleAt (eqU x) pl (λ w hw=>Jbk rx fx r fs w (by simpa using hw)) ⟨.bl _,H,I,rfl,?_⟩
   rw [show its.toArray.any (eqU x)=its.any (eqU x) by simp,Jc9 r fs]
   exact q
theorem Jj5:OpR X (compareOp .NotIn) (rIn X.K true):=by
 intro pins s σ H x y v u Q I rx ry h
 obtain ⟨p,xs,rfl,hq,fx,fs,q⟩:=h
 cases ry
 rcases hq with hq | hq
 . obtain ⟨its,r,pl,hz⟩:=I.list hq
   refine SeqAt.notIn_listAt (eqU x) pl.isList (λ w hw=>Jbk rx fx r fs w (by simpa using hw)) ⟨.bl _,H,I,rfl,?_⟩
   rw [show its.toArray.any (eqU x)=its.any (eqU x) by simp,Jc9 r fs]
   exact q
 . obtain ⟨its,r,pl,hz⟩:=I.tuple hq
   refine SeqAt.notIn_tupleAt (eqU x) pl (λ w hw=>Jbk rx fx r fs w (by simpa using hw)) ⟨.bl _,H,I,rfl,?_⟩
   rw [show its.toArray.any (eqU x)=its.any (eqU x) by simp,Jc9 r fs]
   exact q
theorem Zn:Wz X (.builtin "len") (λ xs H Q=>∃ p ys,xs=[.ref p]/\(SqL X.K H p ys\/SqT X.K H p ys)/\Q (.int ys.length) H):=by
 intro pins s σ H xs us Q I r h
 obtain ⟨p,ys,rfl,hq,q⟩:=h
 obtain ⟨u,rfl,rx⟩:=Jak r
 cases rx
 have hn:=Jeg
 rcases hq with hq | hq
 . obtain ⟨its,r',pl,hz⟩:=I.list hq
   have hlen:=r'.length
   exact Calls.call_len_list pl.isList (by simp only [Q1]<;>omega) ⟨.int ys.length,H,I.tok _,⟨s.toks+1,by rw [Q1,hlen]⟩,q⟩
 . obtain ⟨its,r',pl,hz⟩:=I.tuple hq
   have hlen:=r'.length
   exact len_tuple pl (by simp only [Q1]<;>omega) ⟨.int ys.length,H,I.tok _,⟨s.toks+1,by rw [Q1,hlen]⟩,q⟩
theorem Jda:Wz X (.type "list") (λ xs H Q=>∃ p ys,xs=[.ref p]/\(SqL X.K H p ys\/SqT X.K H p ys)/\∀ l,H l=none->Q (.ref l) (upd H l (.lst ys))):=by
 intro pins s σ H xs us Q I r h
 obtain ⟨p,ys,rfl,hq,q⟩:=h
 obtain ⟨u,rfl,rx⟩:=Jak r
 cases rx
 have fin:∀ (its:List Ycf),J9 ys its->ys.length<=sizeLine->∀ (h':Heap) (c':Nat),(∀ b o',s.heap.get? b=some o'->h'.get? b=some o') ->
  h'.get? s.heap.objs.size=some { cls:=.type "list",dict:=none,data:=.seq its.toArray c',slots:=#[] }->EP X pins σ Q (.ref s.heap.objs.size) { s with heap:=h' }:=λ its r' hz h' c' kp e=>
  ⟨.ref s.heap.objs.size,_,I.laid (t':=s.toks) kp (Qn _) (show Y1 X.prog X.w _ h' _ (.lst ys) from ⟨hz,its,c',r',e⟩),rfl,q _ (I.hok.fresh (Qn _))⟩
 rcases hq with hq | hq
 . obtain ⟨its,r',pl,hz⟩:=I.list hq
   have hlen:=r'.length
   obtain ⟨o,ho,hc,n,hd⟩:=pl.isList
   exact call_list_seq p (.inl rfl) ho hc hd (λ h' c' kp e=>fin its r' hz h' c' kp e) (by simp only [Q1]<;>omega)
 . obtain ⟨its,r',pl,hz⟩:=I.tuple hq
   have hlen:=r'.length
   obtain ⟨o,ho,hc,n,hd⟩:=pl
   exact call_list_seq p (.inr rfl) ho hc hd (λ h' c' kp e=>fin its r' hz h' c' kp e) (by simp only [Q1]<;>omega)
theorem Jv:Wz X (.type "tuple") (λ xs H Q=>∃ p ys,xs=[.ref p]/\((SqL X.K H p ys/\∀ l,H l=none->Q (.ref l) (upd H l (.tup ys)))\/(SqT X.K H p ys/\Q (.ref p) H))):=by
 intro pins s σ H xs us Q I r h
 obtain ⟨p,ys,rfl,h⟩:=h
 obtain ⟨u,rfl,rx⟩:=Jak r
 cases rx
 rcases h with ⟨hq,q⟩ | ⟨hq,q⟩
 . obtain ⟨its,r',pl,hz⟩:=I.list hq
   have hlen:=r'.length
   refine call_tuple_list pl.isList (λ h' kp=>?_) (by simp only [Q1]<;>omega)
   have I1:Inv X pins σ H { s with heap:=h' }:=I.kept (t':=s.toks) kp
   have I2:Inv X pins σ (upd H h'.objs.size (.tup ys)) { s with heap:=h'.push { cls:=.type "tuple",data:=.seq its.toArray } }:=
    I1.laid (t':=s.toks) (λ b o e=>Qk _ e) (Qn _) (show Y1 X.prog X.w _ _ _ (.tup ys) from ⟨hz,its,r',J8s _ _⟩)
   exact ⟨.ref h'.objs.size,_,I2,rfl,q _ (I1.hok.fresh (Qn _))⟩
 . obtain ⟨its,r',pl,hz⟩:=I.tuple hq
   exact call_tuple_same pl ⟨.ref p,H,I,rfl,q⟩
def tyV (K:Qc) (T:String) (x:V) (H:Hp):Prop:=match x with
 | .str _=>T = "str"
 | .int _=>T = "int"
 | .ref p=>(T = "list"/\∃ xs,SqL K H p xs)\/(T = "tuple"/\∃ o,K.lookup p=some o/\o.cls = .type "tuple"/\o.dict=none) \/
  (T = "dict"/\((∃ kvs,H p=some (.dK kvs))\/∃ kvs,H p=some (.dT kvs)))\/(T = "set"/\∃ S n,H p=some (.set S n))
 | _=>False
theorem J0x {pins:List (Addr×Obj)}{σ:St}{H:Hp}{s:Ycg}{T:String}{x:V}{v:Ycf}(I:Inv X pins σ H s) (r:Yc x v) (ty:tyV X.K T x H) :
 s.TypeIs v T/\∀ a,v = .ref a->∃ ob,s.heap.get? a=some ob/\ob.dict=none:=by
 cases x with
 | str z=>
  obtain ⟨t,rfl⟩:=r
  cases (show T = "str" from ty)
  exact ⟨typeIs_str s z t,λ _ e=>nomatch e⟩
 | int i=>
  obtain ⟨t,rfl⟩:=r
  cases (show T = "int" from ty)
  exact ⟨typeIs_int s i t,λ _ e=>nomatch e⟩
 | ref p=>
  cases r
  rcases ty with ⟨rfl,xs,hq⟩ | ⟨rfl,o,hk,hc,hd⟩ | ⟨rfl,hk⟩ | ⟨rfl,S,n,hk⟩
  . obtain ⟨its,_,pl,_⟩:=I.list hq
    refine ⟨pl.isList.typeIs,λ a e=>?_⟩
    cases e
    obtain ⟨o,n,e,c,hd,_⟩:=pl
    exact ⟨o,e,hd⟩
  . refine ⟨⟨o,I.kIn p o hk,hc⟩,λ a e=>?_⟩
    cases e
    exact ⟨o,I.kIn _ o hk,hd⟩
  . have z:∃ o,s.heap.get? p=some o/\o.ExactDict:=by
     rcases hk with ⟨kvs,hk⟩ | ⟨kvs,hk⟩
     . obtain ⟨_,_,_,_,o,_,_,e,ex,_⟩:=I.hok p _ hk
       exact ⟨o,e,ex⟩
     . obtain ⟨_,_,_,_,o,_,_,e,ex,_⟩:=I.hok p _ hk
       exact ⟨o,e,ex⟩
    obtain ⟨o,e,ex⟩:=z
    refine ⟨⟨o,e,ex.1⟩,λ a e2=>?_⟩
    cases e2
    exact ⟨o,e,ex.2.1⟩
  . obtain ⟨o,_,_,_,e,ex,_⟩:=I.hok p _ hk
    refine ⟨⟨o,e,ex.1⟩,λ a e2=>?_⟩
    cases e2
    exact ⟨o,e,ex.2.1⟩
 | _=>exact X8 ty
def tBM (K:Qc) (T:String) (r:V->List V->Hp->VK->Prop) (to:TE) (t:TA):TE:=λ σ H Q=>to σ H λ x H1=>tyV K T x H1/\t σ H1 λ xs H2=>r x xs H2 Q
variable {o e:Expr}{es:List Expr}{to:TE}{t:TA}{name:Str}{apos cpos:Pos}{T id:String}{r:V->List V->Hp->VK->Prop}
theorem Jam (pa:PlainAttrs T) (slot:Slot T name id) (hty:typeOf (.builtin id)=pure (.type "method_descriptor")) (hm:MtR X id r) (ho:PE X o to) (ha:PA X (e::es) t)
 (hbase:Ydu o name X.env (eval o X.env)=eval o X.env:=by rfl)
 (hfew:((backTo cpos (starEach (e::es) X.env)).all (λ x=>!x.1)&&(backToKw cpos (keywordEach [] X.env)).all (λ x=>x.1.isSome)
  && decide ((e::es).length+([]:List Yc6).length+(if ([]:List Yc6).isEmpty then 0 else 1)<30))=true:=by rfl)
 (hline:(apos.endLine==cpos.line)=true:=by rfl) (hs:starEach (e::es) X.env=(false,eval e X.env)::starEach es X.env:=by rfl) (hplain:(backTo cpos (starEach es X.env)).any (·.1)=false:=by rfl) :
 PE X (.Call (.Attribute o name apos) (e::es) [] cpos) (tBM X.K T r to t):=by
 intro pins s σ H Q I h
 refine wpAny_Call_method_late hbase hfew hline rfl (thn (ho pins s σ H _ I h) λ v s1 ⟨x,H1,I1,r1,ty,q1⟩=>?_)
 obtain ⟨h1,h2⟩:=J0x I1 r1 ty
 refine ⟨T,id,pa,slot,hty,h1,h2,?_⟩
 have hA:=ha cpos pins s1 σ H1 _ I1 q1
 rw [hs] at hA ⊢
 refine J7m (by show (false||(backTo cpos (starEach es X.env)).any (·.1))=false;rw [hplain]<;>rfl) (J7n ?_)
 exact thn hA λ us s2 ⟨vs,H2,I2,r2,q2⟩=>hm pins s2 σ H2 x vs v us Q I2 r1 r2 q2
end
def MtM (X:Cx) (id:String) (r:V->List V->Hp->VK->Prop):Prop:=
 ∀ (pins:List (Addr×Obj)) (s:Ycg) (σ:St) (H:Hp) (x:V) (xs:List V) (v:Ycf) (us:List Ycf) (Q:VK),Inv X pins σ H s->Yc x v->J9 xs us->r x xs H Q ->
  Ych (model X.prog X.w) X.A (call (.builtin id) (v::us)) (EP X pins σ Q) X.xe s
theorem J9.one:∀ {x:V}{us:List Ycf},J9 [x] us->∃ u,us=[u]/\Yc x u
 | _,_,.cons r .nil=>⟨_,rfl,r⟩
theorem J9.eraseIdx:∀ {xs:List V}{us:List Ycf}(i:Nat),J9 xs us->J9 (xs.eraseIdx i) (us.eraseIdx i)
 | _,_,_,.nil=>.nil
 | _,_,0,.cons _ t=>t
 | _,_,i+1,.cons r t=>.cons r (J9.eraseIdx i t)
theorem J9.rep {xs:List V}{us:List Ycf}(h:J9 xs us):∀ k:Nat,J9 (Qy k xs).flatten (Qy k us).flatten
 | 0=>.nil
 | k+1=>by
  rw [Us,Us,J5k,J5k]
  exact J9.append h (J9.rep h k)
theorem len_erase {α:Type}:∀ (l:List α) (i:Nat),(l.eraseIdx i).length<=l.length
 | [],_=>Qn _
 | _::_,0=>J8u _
 | _::r,i+1=>Nat.succ_le_succ (len_erase r i)
theorem Jb7 (its:List Ycf):∀ (k:Nat) (acc:List Ycf),
 J6h (λ x1 x2=>x1++x2) acc.toArray (Qy k its.toArray)=(acc++(Qy k its).flatten).toArray
 | 0,acc=>by simp
 | k+1,acc=>by
  have e:acc.toArray++its.toArray=(acc++its).toArray:=by simp
  have e2:(acc++its)++(Qy k its).flatten=acc++(Qy (k+1) its).flatten:=by
   rw [Us,J5k,J5z]
  rw [<- e2,<- Jb7 its k (acc++its),<- e,Us,J6i]
section
variable {X:Cx}{pins:List (Addr×Obj)}{σ:St}{H:Hp}{s:Ycg}{l b:Addr}{xs ys zs:List V}
theorem Inv.lset {its its':List Ycf}{n:Nat}{f:Array Ycf->Array Ycf}{t':Nat}(I:Inv X pins σ H s) (hH:H l=some (.lst xs))
 (e:s.heap.get? l=some { cls:=.type "list",data:=.seq its.toArray n }) (hf:f its.toArray=its'.toArray) (hv:J9 ys its') (hz:ys.length<=sizeLine) :
 Inv X pins σ (upd H l (.lst ys)) { s with heap:=s.heap.update l (J5y f),toks:=t' }:=by
 have q:=PySem.IsL.update e f
 rw [hf] at q
 refine I.write (x:=l) (e:=l) (by rw [hH];exact trivial) (.inl rfl) (λ b' u hb hu=>(Yaf s.heap (J5y f) (Qj hb)).trans hu) ⟨_,q⟩ ?_
 exact ⟨hz,its',_,hv,q⟩
theorem Inv.lnew {its:List Ycf}{t':Nat}(I:Inv X pins σ H s) (hv:J9 ys its) (hz:ys.length<=sizeLine) :
 Inv X pins σ (upd H s.heap.objs.size (.lst ys)) { s with heap:=s.heap.push { cls:=.type "list",data:=.seq its.toArray },toks:=t' }:=
 I.laid (λ _ _ q=>Qk _ q) (Qn _) ⟨hz,its,0,hv,Q5 _ rfl⟩
theorem Inv.fresh (I:Inv X pins σ H s):H s.heap.objs.size=none:=I.hok.fresh (Qn _)
theorem Inv.lstM (I:Inv X pins σ H s) (hH:H l=some (.lst xs)):xs.length<=sizeLine/\∃ (its:List Ycf) (n:Nat),J9 xs its/\xs.length=its.length/\s.heap.get? l=some { cls:=.type "list",data:=.seq its.toArray n }:=by
 obtain ⟨z,its,n,r,e⟩:=I.hok l _ hH
 exact ⟨z,its,n,r,r.length,e⟩
theorem Jgf {n:Nat}(h:n<=sizeLine):J8v n=false:=by
 unfold J8v
 exact decide_eq_false (by omega)
end
section
variable {X:Cx}
def Jj6:V->List V->Hp->VK->Prop:=λ x vs H Q=>∃ l xs y,x = .ref l/\vs=[y]/\H l=some (.lst xs)/\xs.length<sizeLine/\Q .non (upd H l (.lst (xs++[y])))
theorem Zi:MtM X "list.append" Jj6:=by
 intro pins s σ H x vs v us Q I rx rv h
 obtain ⟨l,xs,y,rfl,rfl,hH,hz,q⟩:=h
 cases rx
 obtain ⟨u,rfl,ru⟩:=rv.one
 obtain ⟨z,its,n,r,hl,e⟩:=I.lstM hH
 refine call_meets F.slot_list_append ⟨_,e,rfl⟩ F.entry_list_append (F.args_list_append_2 _ _) (PySem.list_append l its.toArray n u (by rw [Q1];omega)) ⟨e,?_⟩
 refine ⟨.non,_,I.lset (its':=its++[u]) hH e (by simp) (r.append (.cons ru .nil)) ?_,rfl,q⟩
 rw [Qw,Xq]
 omega
def J0y:V->List V->Hp->VK->Prop:=λ x vs H Q=>∃ l xs i k y,x = .ref l/\vs=[.int i]/\H l=some (.lst xs)/\-(2^63)<=i/\i<2^63/\Ydh i xs.length=some k/\xs[k]? = some y/\Q y (upd H l (.lst (xs.eraseIdx k)))
theorem Jl9:MtM X "list.pop" J0y:=by
 intro pins s σ H x vs v us Q I rx rv h
 obtain ⟨l,xs,i,k,y,rfl,rfl,hH,h1,h2,hk,hy,q⟩:=h
 cases rx
 obtain ⟨u,rfl,ru⟩:=rv.one
 obtain ⟨t,rfl⟩:=ru
 obtain ⟨z,its,n,r,hl,e⟩:=I.lstM hH
 obtain ⟨w,hw,rw'⟩:=r.get hy
 refine call_meets F.slot_list_pop ⟨_,e,rfl⟩ F.entry_list_pop (F.args_list_pop_2 _ _)
  (MeetsSeq.list_pop_at l its.toArray n i t k w (fitsIndex_both h1 h2) (by rw [Q1,<- hl];exact hk) (by rw [<- Yag];exact hw) (by rw [Q1];omega)) ⟨e,?_⟩
 refine ⟨y,_,I.lset (its':=its.eraseIdx k) hH e ?_ (r.eraseIdx k) ?_,rw',q⟩
 . show its.toArray.eraseIdxIfInBounds k=(its.eraseIdx k).toArray
   rw [List.eraseIdxIfInBounds_toArray]
 . have:=len_erase xs k
   omega
def J2q:R2:=λ x y H Q=>∃ l b xs zs,x = .ref l/\y = .ref b/\H l=some (.lst xs)/\H b=some (.lst zs)/\xs.length+zs.length<=sizeLine/\∀ p,H p=none->Q (.ref p) (upd H p (.lst (xs++zs)))
theorem Jj7:OpR X (binaryOp .Add) J2q:=by
 intro pins s σ H x y v u Q I rx ry h
 obtain ⟨l,b,xs,zs,rfl,rfl,hH,hB,hz,q⟩:=h
 cases rx
 cases ry
 obtain ⟨z,its,n,r,hl,e⟩:=I.lstM hH
 obtain ⟨z2,its2,n2,r2,hl2,e2⟩:=I.lstM hB
 refine PySem.P.add_list e e2 ?_ (by rw [Q1,Q1];omega)
 have ea:its.toArray++its2.toArray=(its++its2).toArray:=by simp
 rw [ea]
 exact ⟨.ref _,_,I.lnew (t':=s.toks) (r.append r2) (by rw [Qw];omega),rfl,q _ I.fresh⟩
def J2r:R2:=λ x y H Q=>∃ l k xs,x = .ref l/\y = .int k/\H l=some (.lst xs)/\-(2^63)<=k/\k<2^63/\xs.length*k.toNat<=sizeLine /\
 ∀ p,H p=none->Q (.ref p) (upd H p (.lst (Qy k.toNat xs).flatten))
theorem Jdb {α:Type}(xs:List α) (k:Nat):(Qy k xs).flatten.length=k*xs.length:=by
 induction k with
 | zero=>simp
 | succ k ih=>rw [Us,J5k,Qw,ih,Nat.succ_mul,Nat.add_comm]
theorem Joo:OpR X (binaryOp .Mult) J2r:=by
 intro pins s σ H x y v u Q I rx ry h
 obtain ⟨l,k,xs,rfl,rfl,hH,h1,h2,hz,q⟩:=h
 cases rx
 obtain ⟨t,rfl⟩:=ry
 obtain ⟨z,its,n,r,hl,e⟩:=I.lstM hH
 have hlen:its.toArray.size*k.toNat<=sizeLine:=by rw [Q1,<- hl];exact hz
 have hcap:¬ its.toArray.size*k.toNat>(2^63-1)/8:=by
  have:(sizeLine:Nat)<=(2^63-1)/8:=by decide
  omega
 have hfit:¬ (!Builtin.List.listFitsIndex k)=true:=by
  rw [fitsIndex_both h1 h2]
  exact Q7
 have hlong:¬ J8v (its.toArray.size*k.toNat)=true:=by
  rw [Jgf hlen]
  exact Q7
 have hnew:J6h (λ x1 x2=>x1++x2) #[] (Qy (if its.toArray.isEmpty=true then 0 else k.toNat) its.toArray)=(Qy k.toNat its).flatten.toArray:=by
  have f0:∀ m:Nat,J6h (λ x1 x2=>x1++x2) #[] (Qy m its.toArray)=(Qy m its).flatten.toArray:=λ m=>by
   have:=Jb7 its m []
   rw [J50] at this
   exact this
  rw [f0]
  cases its with
  | nil=>simp
  | cons a r'=>rw [if_neg (by simp)]
 refine Yd2 (T:="list") (U:="int") (by decide) ⟨_,e,rfl⟩ (λ s'=>typeIs_int s' k t) noFill_list_mul F.fills_int_mul Yah repeat_list F.slot_int_index.lookup
  (call_meets Yah (typeIs_int s k t) F.entry_int_rmul (F.args_int_rmul_2 _ _) (int___rmul___int_list k t l its.toArray n)
   ⟨e,rfl,⟨_,e,rfl⟩,call_meets F.slot_list_mul ⟨_,e,rfl⟩ F.entry_list_mul (F.args_list_mul_2 _ _) (AutoListH.list___mul___list_int_3 l its.toArray n k t hfit hcap hlong) ⟨e,?_⟩⟩)
 rw [hnew]
 exact ⟨.ref _,_,I.lnew (t':=s.toks) (r.rep k.toNat) (by rw [Jdb,Nat.mul_comm];exact hz),rfl,q _ I.fresh⟩
end
section
variable {prog:Ycj}{w:Yci}{A:Yck}{E:Ycf->Ycg->Prop}{s:Ycg}
theorem Jrk (its its2:List Ycf) (a c:Nat):its.toArray.extract 0 a++its2.toArray++its.toArray.extract c its.toArray.size=(its.take a++its2++its.drop c).toArray:=by
 apply Array.toList_inj.mp
 first
  | (simp
     exact J51 (by simp))
  | simp [J51]
  | simp
theorem Jop {a c n:Nat}(hac:a<=c) (hc:c<=n):sliceBounds (some (a:Int)) (some (c:Int)) none n=((a:Int),(c:Int),1):=by
 simp only [sliceBounds,Option.getD_none]
 have h1:¬ ((a:Int)<0):=by omega
 have h2:¬ ((c:Int)<0):=by omega
 simp only [h1,h2,if_false,show (1:Int)>0 by decide,if_true]
 congr 1
 . omega
 . congr 1;omega
set_option maxRecDepth 100000 in
theorem Jic {l b sl:Addr}{items new:Array Ycf}{n n2:Nat}{vl vu:Ycf}{a c:Nat}{Q:Unit->Ycg->Prop}
 (e:s.heap.get? l=some { cls:=.type "list",data:=.seq items n }) (e2:s.heap.get? b=some { cls:=.type "list",data:=.seq new n2 }) (hne:l≠b)
 (hs:s.heap.IsSliceOf sl vl vu .none) (pl:Ycz vl (some (a:Int))) (pu:Ycz vu (some (c:Int))) (hac:a<=c) (hc:c<=items.size)
 (hsz:items.size+new.size<=sizeLine) (h:Q () { s with heap:=s.heap.update l (J5y λ xs=>xs.extract 0 a++new++xs.extract c xs.size) }) :
 Ych (model prog w) A (setItem (.ref l) (.ref sl) (.ref b)) Q E s:=by
 have hl:s.heap.IsList l items:=Yai e
 have hb:s.heap.IsList b new:=Yai e2
 obtain ⟨os,hos,hcs,hds⟩:=id hs
 have hTs:s.TypeIs (.ref sl) "slice":=⟨os,hos,hcs⟩
 have hstep:¬ ((rawPart none==rawInt 0)=true):=Q7
 have hsame:Yaj (.ref l) (.ref b)=false:=by
  unfold Yaj
  exact beq_eq_false_iff_ne.mpr hne
 have hmax:(max (a:Int) (c:Int)).toNat=c:=by omega
 have hz':((λ xs:Array Ycf=>xs.extract 0 a++new++xs.extract c xs.size) items).size<=sizeLine+1:=by
  simp only [Array.size_append,Array.size_extract]
  omega
 unfold setItem
 try with_reducible refine wpAny_holding ?_
 first | refine wpAny_bind (wpAny_pure ?_) | skip
 refine wpAny_bind (wpAny_sequenceKey hl.typeIs (by decide) ?_)
 refine wpAny_bind (Yc1 (name:=J5j "__setitem__") hl.typeIs slot_list_setitem
  (wpAny_call_entry slot_list_setitem hl.typeIs entry_list_setitem ?_ (args_list_setitem _ _ _)))
 show Ych _ _ (Yak (.ref sl) >>= _) _ _ s
 refine wpAny_bind ?_
 unfold Yak
 refine wpAny_bind (wpAny_specialOf hTs slice_no_index ?_)
 simp only [Option.isNone_none,if_true]
 refine wpAny_pure ?_
 show Ych _ _ (typeOf (.ref sl) >>= _) _ _ s
 refine wpAny_bind (wpAny_typeOf hTs ?_)
 first
  | rw [if_neg (by decide)]
  | refine PySem.W.KFB.if_not (by decide) ?_
 rw [listSliceParts_eq]
 refine wpAny_bind (wpAny_bind (wpAny_field hos hds (x:=.none) rfl (wpAny_bind (wpAny_listPart .none ?_))))
 rw [if_neg hstep]
 refine wpAny_bind (wpAny_field hos hds (x:=vl) rfl (wpAny_bind (wpAny_listPart pl ?_)))
 refine wpAny_bind (wpAny_field hos hds (x:=vu) rfl (wpAny_bind (wpAny_listPart pu (wpAny_pure ?_))))
 first
  | simp only [hsame,J6x,if_false]
  | refine PySem.W.KFB.if_not hsame ?_
  | (dsimp only
     rw [if_neg (by rw [hsame];exact Q7)])
 refine wpAny_bind (m:=Yal (.ref b) "must assign iterable to extended slice") ?_
 unfold Yal
 refine wpAny_bind (wpAny_typeOf hb.typeIs ?_)
 first
  | refine PySem.W.KFB.if_so (by decide) ?_
  | rw [if_pos (by decide)]
  | simp only [beq_self_eq_true,J8w,if_true]
 unfold Builtin.List.listItems
 refine wpAny_bind (wpAny_seqItems e2 rfl (wpAny_pure ?_))
 refine wpAny_bind (wpAny_bind (wpAny_seqItems e rfl (wpAny_pure ?_)))
 refine wpAny_bind (wpAny_of_eq ((sliceIndices_raw (some (a:Int)) (some (c:Int)) none items.size (by simp)).trans (congrArg (pure:Int×Int×Int->Sem (Int×Int×Int)) (Jop hac hc))) ?_)
 show Ych _ _ (if ((1:Int)==1)=true then _ else _) _ _ s
 rw [if_pos (by decide)]
 refine wpAny_bind (wpAny_rule ?_)
 first
  | simp only [Jgf hsz,J6x,if_false]
  | refine PySem.W.KFB.if_not (Jgf hsz) ?_
 first | refine wpAny_bind (wpAny_pure ?_) | skip
 show Ych _ _ (updateSeq l (λ xs=>xs.extract 0 ((a:Int)).toNat++new++xs.extract (max (a:Int) (c:Int)).toNat xs.size) >>= _) _ _ s
 rw [hmax,Xb]
 refine wpAny_bind (wpAny_updateSeq (hz:=Xk (Ut _ _) hsz) (_hz':=hz') e rfl ?_)
 refine wpAny_bind (wpAny_letGo ?_)
 first
  | exact wpAny_bind (wpAny_pure (wpAny_pure ⟨.none,rfl,wpAny_pure h⟩))
  | exact wpAny_pure ⟨.none,rfl,wpAny_pure h⟩
end
section
variable {X:Cx}
theorem Jrl {pins:List (Addr×Obj)}{s:Ycg}{σ:St}{H:Hp}{l b sl:Addr}{xs ys:List V}{a c:Int}{vl vu:Ycf}{Q:Unit->Ycg->Prop}(I:Inv X pins σ H s)
 (hH:H l=some (.lst xs)) (hB:H b=some (.lst ys)) (hne:l≠b) (hs:s.heap.IsSliceOf sl vl vu .none) (ra:Yc (.int a) vl) (rc:Yc (.int c) vu) (h0:0<=a) (hac:a<=c) (hc:c<=xs.length)
 (hz:xs.length+ys.length<=sizeLine) (h:∀ s',Inv X pins σ (upd H l (.lst (xs.take a.toNat++ys++xs.drop c.toNat))) s'->Q () s') :
 Ych (model X.prog X.w) X.A (setItem (.ref l) (.ref sl) (.ref b)) Q X.xe s:=by
 obtain ⟨ta,rfl⟩:=ra
 obtain ⟨tc,rfl⟩:=rc
 obtain ⟨z,its,n,r,hl,e⟩:=I.lstM hH
 obtain ⟨z2,its2,n2,r2,hl2,e2⟩:=I.lstM hB
 obtain ⟨a',rfl⟩:=Yam h0
 obtain ⟨c',rfl⟩:=Yam (J6j h0 hac)
 simp only [Xb] at h
 refine Jic (a:=a') (c:=c') e e2 hne hs (.int _ _) (.int _ _) (by omega) (by rw [Q1];omega) (by rw [Q1,Q1];omega) (h _ ?_)
 refine I.lset (its':=its.take a'++its2++its.drop c') (t':=s.toks) hH e ?_ (J9.append (J9.append (r.take _) r2) (r.drop _)) ?_
 . exact Jrk its its2 a' c'
 . rw [Qw,Qw,U6,U7]
   omega
end
section
variable {κ:Type} [DecidableEq κ]
noncomputable def Wj (kvs:List (κ×V)) (k:κ):Option V:=(kvs.find? λ kv=>decide (kv.1=k)).map (·.2)
noncomputable def Zo (kvs:List (κ×V)) (k:κ) (v:V):List (κ×V):=
 if (kvs.any λ kv=>decide (kv.1=k))=true then kvs.map (λ kv=>if kv.1=k then (kv.1,v) else kv) else kvs++[(k,v)]
theorem Jdc {k:κ}:Wj ([]:List (κ×V)) k=none:=rfl
theorem Z8 {p:κ×V}{r:List (κ×V)}{k:κ}(e:p.1=k):Wj (p::r) k=some p.2:=by simp [Wj,List.find?_cons,e]
theorem Yx {p:κ×V}{r:List (κ×V)}{k:κ}(e:¬ p.1=k):Wj (p::r) k=Wj r k:=by simp [Wj,List.find?_cons,e]
theorem Jan (k:κ):∀ kvs:List (κ×V),(kvs.any λ kv=>decide (kv.1=k))=(Wj kvs k).isSome
 | []=>rfl
 | p::r=>by
  rw [Ur]
  by_cases e:p.1=k
  . simp only [Z8 e,decide_eq_true e,J8w,Option.isSome_some]
  . rw [Yx e,decide_eq_false e,J8x];exact Jan k r
theorem W1 (kvs:List (κ×V)) (k:κ) (v:V):(Zo kvs k v).length<=kvs.length+1:=by
 unfold Zo
 split
 . rw [Qb];omega
 . rw [Qw,Xv,J5l];omega
theorem Jdd {kvs:List (κ×V)}{k:κ}(v:V) (h:Wj kvs k=none):Zo kvs k v=kvs++[(k,v)]:=by
 unfold Zo
 rw [Jan,h]
 exact if_neg (by decide)
theorem Jbf.isSome_eq {o:Option V}{u:Option Ycf}(r:Jbf o u):o.isSome=u.isSome:=by
 cases o with
 | none=>cases u with
  | none=>rfl
  | some _=>exact (show False from r).elim
 | some _=>cases u with
  | none=>exact (show False from r).elim
  | some _=>rfl
theorem Jbf.getD {o:Option V}{u:Option Ycf}{d:V}{d':Ycf}(r:Jbf o u) (rd:Yc d d'):Yc (o.getD d) (u.getD d'):=by
 cases o with
 | none=>cases u with
  | none=>exact rd
  | some _=>exact (show False from r).elim
 | some _=>cases u with
  | none=>exact (show False from r).elim
  | some _=>exact r
theorem KV.val {kvs:List (κ×V)}{vs:List (κ×Ycf)}(r:KV kvs vs) (k:κ):Jbf (Wj kvs k) (valueAt vs k):=by
 unfold KV at r
 induction r with
 | nil=>exact X9
 | @cons p q ps qs h t ih=>
  obtain ⟨h1,h2⟩:=h
  by_cases e:p.1=k
  . have e':q.1=k:=h1.symm.trans e
    have b:valueAt (q::qs) k=some q.2:=by simp [valueAt,List.find?_cons,e']
    rw [Z8 e,b];exact h2
  . have e':¬ q.1=k:=λ z=>e (h1.trans z)
    have b:valueAt (q::qs) k=valueAt qs k:=by simp [valueAt,List.find?_cons,e']
    rw [Yx e,b];exact ih
theorem KV.any {kvs:List (κ×V)}{vs:List (κ×Ycf)}(r:KV kvs vs) (k:κ):(kvs.any λ kv=>decide (kv.1=k))=vs.any λ kv=>decide (kv.1=k):=by
 unfold KV at r
 induction r with
 | nil=>rfl
 | cons h t ih=>rw [Ur,Ur,ih,h.1]
theorem KV.repl {kvs:List (κ×V)}{vs:List (κ×Ycf)}(r:KV kvs vs) (k:κ) {y:V}{u:Ycf}(ry:Yc y u) :
 KV (kvs.map λ kv=>if kv.1=k then (kv.1,y) else kv) (vs.map λ kv=>if kv.1=k then (kv.1,u) else kv):=by
 unfold KV at r ⊢
 induction r with
 | nil=>exact .nil
 | @cons p q ps qs h t ih=>
  rw [Qq,Qq]
  refine .cons ?_ ih
  obtain ⟨h1,h2⟩:=h
  by_cases e:p.1=k
  . rw [if_pos e,if_pos (h1.symm.trans e)];exact ⟨h1,ry⟩
  . rw [if_neg e,if_neg (λ z=>e (h1.trans z))];exact ⟨h1,h2⟩
theorem KV.put {kvs:List (κ×V)}{vs:List (κ×Ycf)}(r:KV kvs vs) (k:κ) {y:V}{u:Ycf}(ry:Yc y u):KV (Zo kvs k y) (stored vs k u):=by
 unfold Zo stored
 rw [r.any k]
 by_cases e:(vs.any λ kv=>decide (kv.1=k))=true
 . rw [if_pos e,if_pos e];exact r.repl k ry
 . rw [if_neg e,if_neg e];exact Yan r ⟨rfl,ry⟩
theorem KV.length {kvs:List (κ×V)}{vs:List (κ×Ycf)}(r:KV kvs vs):kvs.length=vs.length:=J7e r
end
theorem Je7 {P:Ycj}{w:Yci}{k:Key}{u:Ycf}(r:Yc (kV k) u):(Yp P w).is k u=true:=by
 cases k with
 | inl i=>obtain ⟨t,e⟩:=(show ∃ t,u=J6b i t from r);subst e;exact Jl3 P w i t
 | inr x=>obtain ⟨t,e⟩:=(show ∃ t,u=J6r x t from r);subst e;exact Jl4 P w x t
theorem Jis {P:Ycj}{w:Yci}:∀ {ks:List Key}{us:List Ycf},J9 (ks.map kV) us->ItemsAre (Yp P w) ks us
 | [],_,r=>by rw [Uf] at r;cases r;exact .nil
 | k::ks,_,r=>by
  rw [Qq] at r
  cases r with
  | cons h t=>exact .cons (Je7 h) (Jis t)
abbrev KT (H:Hp):List (List Key×V)->List (List Key×Addr×Ycf)->Prop:=Paired λ p q=>p.1=q.1/\H q.2.1=some (.tup (p.1.map kV))/\Yc p.2 q.2.2
theorem KT.val {H:Hp}{kvs:List (List Key×V)}{xs:List (List Key×Addr×Ycf)}(r:KT H kvs xs) (k:List Key):Jbf (Wj kvs k) ((atKey xs k).map (·.2)):=by
 induction r with
 | nil=>exact X9
 | @cons p q ps qs h t ih=>
  obtain ⟨h1,_,h2⟩:=h
  by_cases e:p.1=k
  . have e':q.1=k:=h1.symm.trans e
    have b:atKey (q::qs) k=some q.2:=by simp [atKey,List.find?_cons,e']
    rw [Z8 e,b];exact h2
  . have e':¬ q.1=k:=λ z=>e (h1.trans z)
    have b:atKey (q::qs) k=atKey qs k:=by simp [atKey,List.find?_cons,e']
    rw [Yx e,b];exact ih
theorem KT.repl {H:Hp}{kvs:List (List Key×V)}{xs:List (List Key×Addr×Ycf)}(r:KT H kvs xs) (k:List Key) {y:V}{u:Ycf}(ry:Yc y u) :
 KT H (kvs.map λ kv=>if kv.1=k then (kv.1,y) else kv) (xs.map (putAt k u)):=by
 induction r with
 | nil=>exact .nil
 | @cons p q ps qs h t ih=>
  rw [Qq,Qq]
  refine .cons ?_ ih
  obtain ⟨h1,h2,h3⟩:=h
  unfold putAt
  by_cases e:p.1=k
  . rw [if_pos e,if_pos (h1.symm.trans e)];exact ⟨h1,h2,ry⟩
  . rw [if_neg e,if_neg (λ z=>e (h1.trans z))];exact ⟨h1,h2,h3⟩
theorem KT.put {H:Hp}{kvs:List (List Key×V)}{xs:List (List Key×Addr×Ycf)}(r:KT H kvs xs) (k:List Key) {b:Addr}{y:V}{u:Ycf}(hb:H b=some (.tup (k.map kV))) (ry:Yc y u) :
 KT H (Zo kvs k y) (storedH xs k b u):=by
 have e:(kvs.any λ kv=>decide (kv.1=k))=(atKey xs k).isSome:=by
  rw [Jan,(r.val k).isSome_eq,Yao]
 unfold Zo storedH
 rw [e]
 by_cases q:(atKey xs k).isSome=true
 . rw [if_pos q,if_pos q];exact r.repl k ry
 . rw [if_neg q,if_neg q];exact Yan r ⟨rfl,hb,ry⟩
theorem KT.keeps {H H':Hp}{kvs:List (List Key×V)}{xs:List (List Key×Addr×Ycf)}(r:KT H kvs xs) (ht:∀ b ys,H b=some (.tup ys)->H' b=some (.tup ys)):KT H' kvs xs:=
 Paired.mapP r λ _ _ z=>⟨z.1,ht _ _ z.2.1,z.2.2⟩
section
variable {P:Ycj}{w:Yci}{H:Hp}{h:Heap}{a:Addr}
theorem Jze {u:HO}(ok:HOk P w H h) (e:Rd H a u):Y1 P w H h a u:=e.ok ok
theorem Jit {kvs:List (Key×V)}(ok:HOk P w H h) (e:Rd H a (.dK kvs)):kvs.length<=sizeLine/\(a==Ycx)=false/\∃ vs,KV kvs vs/\h.DictOf (Yp P w) a vs:=
 show Y1 P w H h a (.dK kvs) from Jze ok e
theorem Jiu {kvs:List (Key×V)}(ok:HOk P w H h) (e:H a=some (.dK kvs)):kvs.length<=sizeLine/\(a==Ycx)=false/\∃ vs,KV kvs vs/\h.DictOf (Yp P w) a vs:=Jit ok (.inl e)
theorem Jgg {ks:List Key}(ok:HOk P w H h) (e:H a=some (.tup (ks.map kV))):(tupleKind (Yp P w)).is h ks a:=by
 obtain ⟨_,its,r,o,h1,h2,n,h3⟩:=(show Y1 P w H h a (.tup (ks.map kV)) from ok a _ e)
 exact ⟨o,its.toArray,n,h1,h2,h3,by simpa using Jis r⟩
theorem Jiv {kvs:List (List Key×V)}(ok:HOk P w H h) (e:Rd H a (.dT kvs)):kvs.length<=sizeLine/\(a==Ycx)=false /\
 ∃ xs,KT H kvs xs/\h.DictOfH (tupleKind (Yp P w)) a xs:=by
 obtain ⟨z,y,xs,r,o,es,ep,h1,h2,h3,h4,h5⟩:=(show Y1 P w H h a (.dT kvs) from Jze ok e)
 refine ⟨z,y,xs,r,o,es,ep,h1,h2,h3,h4,λ x hx=>?_,h5⟩
 have all:∀ {l:List (List Key×V)} {m:List (List Key×Addr×Ycf)},KT H l m->∀ x∈m,(tupleKind (Yp P w)).is h x.1 x.2.1:=by
  intro l m q
  induction q with
  | nil=>intro x hx;exact nomatch hx
  | @cons p q ps qs hq t ih=>
   intro x hx
   rcases Qg.mp hx with e | hx
   . subst e
     exact Jgg ok (by rw [<- hq.1];exact hq.2.1)
   . exact ih x hx
 exact all r x hx
theorem J2s {kvs:List (List Key×V)}(ok:HOk P w H h) (e:H a=some (.dT kvs)):kvs.length<=sizeLine/\(a==Ycx)=false /\
 ∃ xs,KT H kvs xs/\h.DictOfH (tupleKind (Yp P w)) a xs:=Jiv ok (.inl e)
end
def V7 (H:Hp) (a:Addr) (y:V) (r:Option V):Prop:=
 (∃ kvs k,Rd H a (.dK kvs)/\y=kV k/\r=Wj kvs k)\/∃ kvs k b,Rd H a (.dT kvs)/\y = .ref b/\H b=some (.tup (k.map kV))/\r=Wj kvs k
def Jfj (H:Hp) (a:Addr) (y v:V) (H':Hp):Prop:=
 (∃ kvs k,H a=some (.dK kvs)/\y=kV k/\kvs.length<sizeLine/\H'=upd H a (.dK (Zo kvs k v))) \/
 ∃ kvs k b,H a=some (.dT kvs)/\y = .ref b/\H b=some (.tup (k.map kV))/\kvs.length<sizeLine/\H'=upd H a (.dT (Zo kvs k v))
theorem V7.k {H:Hp}{a:Addr}{kvs:List (Key×V)}{k:Key}(e:H a=some (.dK kvs)):V7 H a (kV k) (Wj kvs k):=.inl ⟨kvs,k,.inl e,rfl,rfl⟩
theorem Jfj.k {H:Hp}{a:Addr}{kvs:List (Key×V)}{k:Key}{v:V}(e:H a=some (.dK kvs)) (hl:kvs.length<sizeLine):Jfj H a (kV k) v (upd H a (.dK (Zo kvs k v))):=.inl ⟨kvs,k,e,rfl,hl,rfl⟩
section
variable {X:Cx}{pins:List (Addr×Obj)}{σ:St}{H:Hp}{s:Ycg}{a:Addr}{y v:V}{u r:Ycf}{o:Option V}{A:Yck}{E:Ycf->Ycg->Prop}
theorem Inv.big (I:Inv X pins σ H s):Ycx<s.heap.objs.size:=by
 have h:Ycq<s.heap.objs.size:=(I.mod.glob.keeps I.bk).lt
 exact Nat.lt_trans (by decide) h
theorem Jrm {Q:Ycf->Ycg->Prop}(hu:A.units+1<Ycv) (I:Inv X pins σ H s) (g:V7 H a y (some v)) (ry:Yc y u) (h:∀ w' s',Inv X pins σ H s'->Yc v w'->Q w' s') :
 Ych (model X.prog X.w) A (getItem (.ref a) u) Q E s:=by
 rcases g with ⟨kvs,k,e,ey,l⟩ | ⟨kvs,k,b,e,ey,eb,l⟩
 . subst ey
   obtain ⟨z,hd,vs,rel,dd⟩:=Jit I.hok e
   obtain ⟨w',hw,rw'⟩:=Jbf.some_of (v:=v) (o:=valueAt vs k) (by rw [l];exact rel.val k)
   exact wpAny_getItem_of (Je7 ry) dd.mapOf hw (h w' _ (I.tok _) rw')
 . subst ey
   cases (show u=Xc b from ry)
   obtain ⟨z,hd,xs,rel,dd⟩:=Jiv I.hok e
   obtain ⟨w',hw,rw'⟩:=Jbf.some_of (v:=v) (o:=(atKey xs k).map (·.2)) (by rw [l];exact rel.val k)
   obtain ⟨p,hp,hp2⟩:=Uu.mp hw
   refine wpAny_getItem_heap (tupleKind_room_in1 hu) (Jgg I.hok eb) dd hp ?_
   rw [hp2]
   exact h w' _ (I.tok _) rw'
theorem Jw7 {Q:Ycf->Ycg->Prop}(hu:A.units+1<Ycv) (I:Inv X pins σ H s) (g:V7 H a y o) (ry:Yc y u) (h:∀ s',Inv X pins σ H s'->Q (.bool (!o.isSome)) s') :
 Ych (model X.prog X.w) A (compareOp .NotIn u (.ref a)) Q E s:=by
 rcases g with ⟨kvs,k,e,ey,l⟩ | ⟨kvs,k,b,e,ey,eb,l⟩
 . subst ey
   obtain ⟨z,hd,vs,rel,dd⟩:=Jit I.hok e
   refine wpAny_notIn_of (Je7 ry) hd dd.mapOf ?_
   rw [<- (rel.val k).isSome_eq,<- l]
   exact h _ (I.tok _)
 . subst ey
   cases (show u=Xc b from ry)
   obtain ⟨z,hd,xs,rel,dd⟩:=Jiv I.hok e
   refine wpAny_notIn_heap (tupleKind_room_in1 hu) (Jgg I.hok eb) hd dd ?_
   have q:=(rel.val k).isSome_eq
   rw [Yao] at q
   rw [<- q,<- l]
   exact h _ (I.tok _)
theorem Jde {h':Heap}{t':Nat}{ob:HO}(I:Inv X pins σ H s) (mu:Mut (H a)) (hs:Xl a s.heap h') (he:∃ q,h'.get? a=some q) (new:Y1 X.prog X.w (upd H a ob) h' a ob) :
 Inv X pins σ (upd H a ob) { s with heap:=h',toks:=t' }:=
 I.write (x:=a) (e:=a) mu (.inl rfl) (λ b q hb z=>(hs.2 b hb).trans z) he new
theorem Jj8 {P:Ycj}{w:Yci}{H':Hp}{h':Heap}{kvs:List (Key×V)}{vs:List (Key×Ycf)}(z:kvs.length<=sizeLine) (hd:(a==Ycx)=false) (rel:KV kvs vs) (dd:h'.DictOf (Yp P w) a vs) :
 Y1 P w H' h' a (.dK kvs):=⟨z,hd,vs,rel,dd⟩
theorem Jrn {H':Hp}{Q:Unit->Ycg->Prop}(hu:A.units+1<Ycv) (I:Inv X pins σ H s) (g:Jfj H a y v H') (ry:Yc y u) (rv:Yc v r) (h:∀ s',Inv X pins σ H' s'->Q () s') :
 Ych (model X.prog X.w) A (setItem (.ref a) u r) Q E s:=by
 rcases g with ⟨kvs,k,e,ey,l,eH⟩ | ⟨kvs,k,b,e,ey,eb,l,eH⟩
 . subst ey eH
   obtain ⟨z,hd,vs,rel,dd⟩:=Jiu I.hok e
   have hz:vs.length<=sizeLine:=by rw [<- rel.length];exact z
   have hl:(Zo kvs k v).length<=sizeLine:=by have:=W1 kvs k v;omega
   refine wpAny_setItem_pairs (hsz:=hz) (Je7 ry) dd λ h' dd' hs=>h _ ?_
   have he:∃ q,h'.get? a=some q:=let ⟨q,_,_,hq,_⟩:=dd';⟨q,hq⟩
   exact Jde I (by rw [e];exact X9) hs he (Jj8 hl hd (rel.put k rv) dd')
 . subst ey eH
   cases (show u=Xc b from ry)
   obtain ⟨z,hd,xs,rel,dd⟩:=J2s I.hok e
   have hz:xs.length<=sizeLine:=by rw [<- J7e rel];exact z
   have hl:(Zo kvs k v).length<=sizeLine:=by have:=W1 kvs k v;omega
   refine wpAny_setItem_heap (hsz:=hz) (tupleKind_room_in1 hu) (Jgg I.hok eb) dd λ h' dd' hs=>h _ ?_
   obtain ⟨q,es,ep,hq,h2,h3,h4,_,h5⟩:=dd'
   refine Jde I (by rw [e];exact X9) hs ⟨q,hq⟩ ⟨hl,hd,_,(rel.put k eb rv).keeps λ c ys ec=>?_,q,es,ep,hq,h2,h3,h4,h5⟩
   rw [Ji (Jy7 ec e (λ z=>nomatch z))]
   exact ec
end
section
variable {X:Cx}{pins:List (Addr×Obj)}{σ:St}{H:Hp}{s:Ycg}{a:Addr}{kvs:List (Key×V)}{k:Key}{u:Ycf}{A:Yck}{E:Ycf->Ycg->Prop}
end
def J2t (i:Expr):Prop:=∀ ov iv,subscripted i false ov iv=operate [ov,iv] (getItem ov iv)
theorem Jw8 {prog:Ycj}{w:Yci}{A:Yck}{E:Ycf->Ycg->Prop}{s:Ycg}{env:Env}{value slice:Expr}{pos:Pos}{T id:String}{Q:Ycf->Ycg->Prop}
 (hl:typeLookup (.type T) "__getitem__" = pure (some (.builtin id))) (hs:J2t slice)
 (h:Ych (model prog w) A (eval value env) (λ o s₁=>Ych (model prog w) A (eval slice env) (λ i s₂=>s₂.TypeIs o T/\Ych (model prog w) A (getItem o i) Q E s₂) E s₁) E s) :
 Ych (model prog w) A (eval (.Subscript value slice pos) env) Q E s:=by
 refine Subscript_ (wpAny_mono h (λ o s₁ h₁=>wpAny_mono h₁ (λ i s₂ h₂=>?_) λ _ _ x=>x) λ _ _ x=>x)
 obtain ⟨hT,h₂⟩:=h₂
 unfold subscriptTail
 refine wpAny_bind ?_
 rw [getitemInPython_of_ne hT.not_modules]
 refine wpAny_bind (wpAny_specialOf hT hl ?_)
 have fin:Ych (model prog w) A (subscripted slice false o i) (λ r s₃=>Ych (model prog w) A (letTemporaryGo value o r >>= λ _=>pure r) Q E s₃) E s₂:=by
  rw [hs o i]
  exact wpAny_operating (wpAny_mono h₂ (λ r s₃ h₃=>wpAny_bind (wpAny_letTemporaryGo (wpAny_pure h₃))) λ _ _ x=>x)
 first
  | exact wpAny_pure (wpAny_bind fin)
  | exact wpAny_bind (wpAny_pure (wpAny_bind fin))
  | exact wpAny_bind fin
theorem Jma {X:Cx}{pins:List (Addr×Obj)}{σ:St}{H:Hp}{s:Ycg}{a:Addr}{y:V}{o:Option V}(I:Inv X pins σ H s) (g:V7 H a y o):s.TypeIs (.ref a) "dict":=by
 rcases g with ⟨kvs,k,e,_,_⟩ | ⟨kvs,k,b,e,_,_,_⟩
 . obtain ⟨_,_,vs,_,dd⟩:=Jit I.hok e
   exact dd.typeIs
 . obtain ⟨_,_,xs,_,dd⟩:=Jiv I.hok e
   exact dd.typeIs
def Jp8 (td ty:TE):TE:=λ σ H Q=>td σ H λ x H1=>ty σ H1 λ y H2=>∃ a v,x = .ref a/\V7 H2 a y (some v)/\Q v H2
def Jp9 (ty td:TE):TE:=λ σ H Q=>ty σ H λ y H1=>td σ H1 λ x H2=>∃ a o,x = .ref a/\V7 H2 a y o/\Q (.bl (!o.isSome)) H2
def Jzf (td ty tv:TE):TS:=λ D σ H=>tv σ H λ v H1=>td σ H1 λ x H2=>ty σ H2 λ y H3=>∃ a H4,x = .ref a/\Jfj H3 a y v H4/\D.nx σ H4
section
variable {X:Cx}{o i e value:Expr}{pos pos' tpos:Pos}{td ty tv:TE}
theorem Wg (hu:X.A.units+1<Ycv) (ho:PE X o td) (hi:PE X i ty) (hs:J2t i):PE X (.Subscript o i pos) (Jp8 td ty):=by
 intro pins s σ H Q I h
 refine Jw8 PySem.F.slot_dict_getitem.lookup hs (thn (ho pins s σ H _ I h) λ u s1 ⟨x,H1,I1,rx,q1⟩=>thn (hi pins s1 σ H1 _ I1 q1) λ iv s2 ⟨y,H2,I2,ry,a,v,ex,g,q2⟩=>?_)
 subst ex
 obtain rfl:u=Xc a:=rx
 exact ⟨Jma I2 g,Jrm hu I2 g ry λ w' s3 I3 rw'=>⟨v,H2,I3,rw',q2⟩⟩
theorem Jiw (hu:X.A.units+1<Ycv) (hi:PE X i ty) (ho:PE X o td):PC X .NotIn i o (Jp9 ty td):=by
 intro pins s σ H Q I h
 refine thn (hi pins s σ H _ I h) λ iv s1 ⟨y,H1,I1,ry,q1⟩=>thn (ho pins s1 σ H1 _ I1 q1) λ u s2 ⟨x,H2,I2,rx,a,ov,ex,g,q2⟩=>?_
 subst ex
 obtain rfl:u=Xc a:=rx
 exact Jw7 hu I2 g ry λ s3 I3=>⟨.bl (!ov.isSome),H2,I3,rfl,q2⟩
theorem B0 (hu:X.A.units+1<Ycv) (ho:PE X o td) (hi:PE X i ty) (hv:PE X value tv) (hs:Yc0 value (some (.Subscript o i pos')) pos.line X.env=pure false) :
 PS X (.Assign [.Subscript o i pos'] value pos) (Jzf td ty tv):=by
 intro pins s σ H D I h
 refine wpAny_Assign_Subscript (thn (hv pins s σ H _ I h) λ r s1 ⟨v,H1,I1,rv,q1⟩=>thn (ho pins s1 σ H1 _ I1 q1) λ u s2 ⟨x,H2,I2,rx,q2⟩=>thn (hi pins s2 σ H2 _ I2 q2) λ iv s3 ⟨y,H3,I3,ry,a,H4,ex,g,q3⟩=>?_) hs
 subst ex
 obtain rfl:u=Xc a:=rx
 exact Jrn hu I3 g ry rv λ s4 I4=>⟨σ,H4,I4,q3⟩
end
theorem Jgh {P:Ycj}{w:Yci}{H:Hp}(h:Heap) (hb:Ycx<h.objs.size):Y1 P w H (h.push { cls:=.type "dict",data:=.dict #[] }) h.objs.size (.dK []):=
 ⟨Q9 _,beq_eq_false_iff_ne.mpr (Qj (Xf hb)),[],.nil,Heap.DictOf.new h⟩
def Jj9:TE:=λ _ H Q=>∀ p,H p=none->Q (.ref p) (upd H p (.dK []))
section
variable {X:Cx}{pos:Pos}
theorem Jmb:PE X (.Dict [] [] pos) Jj9:=λ pins s σ H Q I h=>
 wpAny_Dict_empty ⟨.ref s.heap.objs.size,_,I.laid (a:=s.heap.objs.size) (o:=.dK []) (t':=s.toks) (λ _ _ q=>Qk _ q) (Qn _) (Jgh s.heap I.big),rfl,h _ (I.hok.fresh (Qn _))⟩
end
def Joq:List (TE×TE)->St->Hp->(List (V×V)->Hp->Prop)->Prop
 | [],_,H,Q=>Q [] H
 | (tk,tv)::r,σ,H,Q=>tk σ H λ x H1=>tv σ H1 λ y H2=>Joq r σ H2 λ ps H3=>Q ((x,y)::ps) H3
abbrev VV:List (V×V)->List (Ycf×Ycf)->Prop:=Paired λ p q=>Yc p.1 q.1/\Yc p.2 q.2
def PPs (X:Cx) (pos:Pos) (keys:List (Option Expr)) (values:List Expr) (trs:List (TE×TE)):Prop:=
 ∀ (pins:List (Addr×Obj)) (s:Ycg) (σ:St) (H:Hp) (Q:List (V×V)->Hp->Prop),Inv X pins σ H s->Joq trs σ H Q ->
  Ych (model X.prog X.w) X.A (evalPairs (pairTrees keys values X.env pos)) (λ vs s'=>∃ ps H',Inv X pins σ H' s'/\VV ps vs/\Q ps H') X.xe s
theorem Jqa {X:Cx}{pos:Pos}:PPs X pos [] [] []:=λ pins s σ H Q I h=>pairTrees_nil_walk ⟨[],H,I,.nil,h⟩
theorem Jbl {X:Cx}{pos:Pos}{k v:Expr}{ks:List (Option Expr)}{vs:List Expr}{tk tv:TE}{trs:List (TE×TE)}(hk:PE X k tk) (hv:PE X v tv) (hr:PPs X pos ks vs trs) :
 PPs X pos (some k::ks) (v::vs) ((tk,tv)::trs):=λ pins s σ H Q I h=>
 pairTrees_cons_walk (thn (hk pins s σ H _ I h) λ u s1 ⟨x,H1,I1,rx,q1⟩=>thn (hv pins s1 σ H1 _ I1 q1) λ w2 s2 ⟨y,H2,I2,ry,q2⟩=>
  thn (hr pins s2 σ H2 _ I2 q2) λ ws s3 ⟨ps,H3,I3,rel,q3⟩=>⟨(x,y)::ps,H3,I3,.cons ⟨rx,ry⟩ rel,q3⟩)
noncomputable def Jcs (kvs more:List (Key×V)):List (Key×V):=more.foldl (λ acc kv=>Zo acc kv.1 kv.2) kvs
theorem KV.merge:∀ {more:List (Key×V)}{rs:List (Key×Ycf)}{kvs:List (Key×V)}{vs:List (Key×Ycf)},KV more rs->KV kvs vs->KV (Jcs kvs more) (merged vs rs):=by
 intro more rs kvs vs r
 unfold KV at r
 induction r generalizing kvs vs with
 | nil=>intro q;exact q
 | @cons p q ps qs h t ih=>
  intro r0
  have e:KV (Zo kvs p.1 p.2) (stored vs q.1 q.2):=by
   have:=r0.put p.1 h.2
   rw [<- h.1];exact this
  exact ih e
theorem Jcj:∀ (more kvs:List (Key×V)),(Jcs kvs more).length<=kvs.length+more.length
 | [],kvs=>by show kvs.length<=kvs.length+0;omega
 | p::r,kvs=>by
  have h1:=Jcj r (Zo kvs p.1 p.2)
  have h2:=W1 kvs p.1 p.2
  show (Jcs (Zo kvs p.1 p.2) r).length<=_
  rw [Xv];omega
theorem Jgi {P:Ycj}{w:Yci}:∀ {kvs:List (Key×V)}{ws:List (Ycf×Ycf)},VV (kvs.map λ kv=>(kV kv.1,kv.2)) ws->∃ rs,Carries (Yp P w) ws rs/\KV kvs rs
 | [],_,r=>by rw [Uf] at r;cases r;exact ⟨[],X9,.nil⟩
 | p::kvs,_,r=>by
  rw [Qq] at r
  cases r with
  | @cons a b as bs h t=>
   obtain ⟨rs,c,q⟩:=Jgi (P:=P) (w:=w) t
   obtain ⟨b1,b2⟩:=b
   exact ⟨(p.1,b2)::rs,⟨Je7 h.1,rfl,c⟩,.cons ⟨rfl,h.2⟩ q⟩
def J2u (trs:List (TE×TE)):TE:=λ σ H Q=>∀ p,H p=none->Joq trs σ (upd H p (.dK [])) λ ps H2=>H2 p=some (.dK [])/\∃ kvs:List (Key×V),ps=kvs.map (λ kv=>(kV kv.1,kv.2))/\kvs.length<=15/\Q (.ref p) (upd H2 p (.dK (Jcs [] kvs)))
theorem Jqb {X:Cx}{pos:Pos}{keys:List (Option Expr)}{values:List Expr}{trs:List (TE×TE)}(h:PPs X pos keys values trs) (hall:keys.all (·.isSome)=true) (hl:keys.length=values.length) (h0:keys≠[])
 (h15:keys.length<=15):PE X (.Dict keys values pos) (J2u trs):=by
 intro pins s σ H Q I q
 have hn:=I.hok.fresh (Qn s.heap.objs.size)
 have I1:=I.laid (a:=s.heap.objs.size) (o:=.dK []) (h':=s.heap.push { cls:=.type "dict",data:=.dict #[] }) (t':=s.toks) (λ _ _ q=>Qk _ q) (Qn _) (Jgh s.heap I.big)
 refine wpAny_Dict_walk (knd:=Yp X.prog X.w) hall hl h0 h15 (thn (h pins _ σ _ _ I1 (q _ hn)) λ ws s2 ⟨ps,H2,I2,rel,e,kvs,ep,lk,q2⟩=>?_)
 subst ep
 obtain ⟨rs,c,rk⟩:=Jgi (P:=X.prog) (w:=X.w) rel
 obtain ⟨z,hd,vs0,r0,dd⟩:=Jiu I2.hok e
 cases r0
 refine ⟨rs,c,dd,λ h' dd' hs=>⟨.ref s.heap.objs.size,_,?_,rfl,q2⟩⟩
 have hz:(Jcs [] kvs).length<=sizeLine:=by
  have h1:=Jcj kvs []
  rw [J5l] at h1
  rw [Ycl];omega
 have he:∃ q,h'.get? s.heap.objs.size=some q:=let ⟨q,_,_,hq,_⟩:=dd';⟨q,hq⟩
 exact Jde I2 (by rw [e];exact X9) hs he (Jj8 hz hd (rk.merge .nil) dd')
structure M2 (X:Cx) (o:Expr) (m:Str) (apos:Pos) (e f:Expr) (cpos:Pos):Prop where
 base:Ydu o m X.env (eval o X.env)=eval o X.env
 few:((backTo cpos (starEach [e,f] X.env)).all (λ x=>!x.1)&&(backToKw cpos (keywordEach [] X.env)).all (λ x=>x.1.isSome)
  && decide (([e,f]:List Expr).length+([]:List Yc6).length+(if ([]:List Yc6).isEmpty then 0 else 1)<30))=true
 line:(apos.endLine==cpos.line)=true
 trees:backTo cpos (starEach [e,f] X.env)=[(false,eval e X.env),(false,eval f X.env)]
def IsD (H:Hp) (a:Addr):Prop:=(∃ kvs,Rd H a (.dK kvs))\/∃ kvs,Rd H a (.dT kvs)
theorem Jor {X:Cx}{pins:List (Addr×Obj)}{σ:St}{H:Hp}{s:Ycg}{a:Addr}(I:Inv X pins σ H s) (d:IsD H a) :
 s.TypeIs (.ref a) "dict"/\(∀ b,Xc a = .ref b->∃ ob,s.heap.get? b=some ob/\ob.dict=none)/\(a==Ycx)=false:=by
 rcases d with ⟨kvs,e⟩ | ⟨kvs,e⟩
 . obtain ⟨_,hd,vs,_,dd⟩:=Jit I.hok e
   refine ⟨dd.typeIs,λ b q=>?_,hd⟩
   cases q
   obtain ⟨ob,_,_,h1,h2,_⟩:=dd
   exact ⟨ob,h1,h2.2.1⟩
 . obtain ⟨_,hd,xs,_,dd⟩:=Jiv I.hok e
   refine ⟨dd.typeIs,λ b q=>?_,hd⟩
   cases q
   obtain ⟨ob,_,_,h1,h2,_⟩:=dd
   exact ⟨ob,h1,h2.2.1⟩
section
variable {X:Cx}{pins:List (Addr×Obj)}{σ:St}{H:Hp}{s:Ycg}{a:Addr}{y d:V}{u r:Ycf}{o:Option V}{A:Yck}{E:Ycf->Ycg->Prop}
theorem J0z {Q:Ycf->Ycg->Prop}(hu:A.units+1<Ycv) (I:Inv X pins σ H s) (g:V7 H a y o) (ry:Yc y u) (rd:Yc d r) (h:∀ w' s',Inv X pins σ H s'->Yc (o.getD d) w'->Q w' s') :
 Ych (model X.prog X.w) A (call (.builtin "dict.get") [.ref a,u,r]) Q E s:=by
 rcases g with ⟨kvs,k,e,ey,l⟩ | ⟨kvs,k,b,e,ey,eb,l⟩
 . subst ey
   obtain ⟨z,hd,vs,rel,dd⟩:=Jit I.hok e
   refine Ydm J8y dd.typeIs Yap (Yaq _ _ _) (meets_dict_get_default (Yp X.prog X.w) a (Je7 ry) hd r) ⟨_,dd.mapOf,h _ _ (I.tok _) ?_⟩
   rw [l]
   exact (rel.val k).getD rd
 . subst ey
   cases (show u=Xc b from ry)
   obtain ⟨z,hd,xs,rel,dd⟩:=Jiv I.hok e
   refine Ydm J8y dd.typeIs Yap (Yaq _ _ _) (meetsH_dict_get_default (tupleKind (Yp X.prog X.w)) a b hd r) ⟨tupleKind_room_in1 hu,k,xs,Jgg I.hok eb,dd,h _ _ (I.tok _) ?_⟩
   rw [l]
   exact (rel.val k).getD rd
end
def J00 (td ty tx:TE):TE:=λ σ H Q=>td σ H λ x H1=>∃ a,x = .ref a/\IsD H1 a/\ty σ H1 λ y H2=>tx σ H2 λ z H3=>∃ o,V7 H3 a y o/\Q (o.getD z) H3
section
variable {X:Cx}{o e f:Expr}{apos cpos:Pos}{td ty tx:TE}
theorem Jtz (hu:X.A.units+1<Ycv) (ho:PE X o td) (he:PE X e ty) (hf:PE X f tx) (m:M2 X o "get" apos e f cpos):PE X (.Call (.Attribute o "get" apos) [e,f] [] cpos) (J00 td ty tx):=by
 intro pins s σ H Q I h
 refine wpAny_Call_method m.base m.few m.line J8z J8y PySem.F.type_dict_get (thn (ho pins s σ H _ I h) λ u s1 ⟨x,H1,I1,rx,a,ex,d,q1⟩=>?_)
 subst ex
 obtain rfl:u=Xc a:=rx
 obtain ⟨t1,t2,_⟩:=Jor I1 d
 refine ⟨t1,t2,?_⟩
 rw [m.trees]
 refine J7m rfl (J7n (J6e (thn (he pins s1 σ H1 _ I1 q1) λ iv s2 ⟨y,H2,I2,ry,q2⟩=>
  J6e (thn (hf pins s2 σ H2 _ I2 q2) λ fv s3 ⟨z,H3,I3,rz,ov,g,q3⟩=>J7i ?_))))
 exact J0z hu I3 g ry rz λ w' s4 I4 rw'=>⟨_,H3,I4,rw',q3⟩
end
section
variable {X:Cx}{pins:List (Addr×Obj)}{σ:St}{H:Hp}{s:Ycg}{a:Addr}{kvs:List (Key×V)}{A:Yck}{E:Ycf->Ycg->Prop}
end
section
variable {X:Cx}{pins:List (Addr×Obj)}{σ:St}{H:Hp}{s:Ycg}{a:Addr}{y:V}{u:Ycf}{A:Yck}{E:Ycf->Ycg->Prop}
end
end L2
namespace Att
open PySem PySem.W PySem.Calls PyProof.Rows
theorem Jfk {P:Params}{h:Heap}:∀ (ns:List Int) (vs:List Ycf),WellAll P h vs (ns.map WData.int)->Ydg vs ns:=by
 intro ns
 induction ns with
 | nil=>
  intro vs w
  rw [Uf] at w
  cases w
  exact .nil
 | cons n ns ih=>
  intro vs w
  rw [Qq] at w
  cases w with
  | cons a b=>
   cases a
   exact .cons _ _ (ih _ b)
theorem Jro {l:OpenLaw}{n:Nat}(hn:l.most=some n) {P:Params}{h:Heap}{args:List WData}{vals:List Ycf}
 (hpre:l.row.toRowW.claim.pre args=true) (hwl:WellAll P h vals args) :
 ∃ a vs ns,vals=[Xc a]/\args=[WData.list (ns.map WData.int)]/\h.get? a=some { cls:=.type "list",data:=.seq vs.toArray }/\Ydg vs ns/\ns.length<=n:=by
 have hsh:WShape.hasAll [] args [.list .int]=true:=(pre_splitW hpre).1
 have hc:l.pre.holds [] { args:=args }=true:=(pre_splitW hpre).2
 obtain ⟨d,r,rfl,h1,h2⟩:=hasAllW_cons hsh
 obtain rfl:=hasAllW_nil h2
 obtain ⟨xs,rfl,h3⟩:=hasW_list h1
 obtain ⟨ns,rfl⟩:=items_int h3
 have hlen:ns.length<=n:=by
  unfold OpenLaw.pre at hc
  have h4:(WTm.not (.lt (.lit (.int (n:Int))) (.len (.arg 0)))).holds [] { args:=[.list (ns.map .int)] }=true:=by
   have h4:=(holds_andW hc).1
   rw [hn] at h4
   exact h4
  have h5:=condW_of h4 (w_not (w_lt w_lit (w_len_list (w_arg rfl))))
  rw [Qb] at h5
  refine J6k λ q=>?_
  have q':(n:Int)<((ns.length:Nat):Int):=by omega
  first
   | (rw [decide_eq_true q'] at h5;exact absurd h5 (by decide))
   | (simp at h5;omega)
 cases hwl with
 | cons w1 w2=>
  cases w2
  cases w1 with
  | list ho hall=>exact ⟨_,_,ns,rfl,rfl,ho,Jfk ns _ hall,hlen⟩
theorem Jrp (l:OpenLaw) (args:List WData):l.row.toRowW.claim.post args (.bool true) args=true:=
 postW_of (r:=l.row.toRowW) (X:=(true==true))
  (show WShape.has [] (.bool true) .bool=true by first | rfl | decide | simp [WShape.has,WShape.arms,WShape.armsAll])
  (show (WTm.eq .res (.lit (.bool true))).value [] { args:=args,res:=some (.bool true),after:=args }=some (.bool (true==true)) from w_eq_bool (w_res rfl) w_lit) rfl
theorem attach_call {l:OpenLaw}{n:Nat}{q:Ycj}{loose:List Str}{XP:(Str->Option Ycf)->Heap->Prop}{YP:Yci->Heap->Prop}{d:DefRec}
 (hn:l.most=some n) (hdf:d.params.defaults=[])
 (call:∀ (w:Yci) (s₀ s₁:Ycg) (mg mb:Str->Option Ycf) (fa:Addr) (o:Obj) (pm cd doc:Ycf) (a:Addr) (vs:List Ycf) (ns:List Int),
  Ground q loose [] XP w s₀ mg mb s₁.heap->YP w s₁.heap ->
  s₁.heap.get? fa=some o->o.data = .func (docDef d.name d.params d.body d.scope pm cd doc)->s₁.heap.CodeRec cd d.name->mg d.name=some (.ref fa) ->
  s₁.heap.get? a=some { cls:=.type "list",data:=.seq vs.toArray }->Ydg vs ns->ns.length<=n->s₁.gens = #[] ->
  Yct (model l.prog w) Yc7 (.call (.ref fa) ⟨[.ref a],[]⟩) (λ r s'=>r = .ok (.ret (.bool true))/\OldK s₁.heap s'.heap/\s'.os=s₁.os/\Ycy s'.gens) s₁) :
 WalkO q loose XP YP l.row.toRowW d [] (λ f vs=>J80 f vs):=by
 intro w s₀ s₁ mg mb G Y fa o pm cd doc dV kV ho hd hcd hD hmg hg args vals as hpre hlay hrd hwl hlo
 obtain rfl:dV = .none:=Dflts.none hD hdf
 obtain rfl:kV = .none:=Dflts.noKw hD
 obtain ⟨a,vs,ns,rfl,rfl,hobj,hints,hlen⟩:=Jro hn hpre hwl
 refine enter_call (codeAny_mono (call w s₀ s₁ mg mb fa o pm cd doc a vs ns G Y ho (fd_plain hd) hcd hmg hobj hints hlen hg) λ r s' hq=>?_)
 obtain ⟨rfl,h2,h3,h4⟩:=hq
 exact ⟨.inl ⟨.bool true,.bool true,[],rfl,λ _=>rfl,.bool true,Jrp l _,λ _=>⟨Yb9,λ _ hm=>(nomatch hm)⟩⟩,h2,h3,h4⟩
section
variable {prog:Ycj}{w:Yci}{A:Yck}{E:Ycf->Ycg->Prop}{s:Ycg}{K:Frag}
end
end Att
namespace L2
theorem Jix:∀ {vs:List Ycf}{ns:List Int},Ydg vs ns->J9 (ns.map V.int) vs
 | _,_,.nil=>.nil
 | _,_,.cons n t h=>.cons ⟨t,rfl⟩ (Jix h)
def J01 (H:Hp):Prop:=∀ b,H b=none\/∃ o xs,H b=some (.frz o (.lst xs))
theorem Jt0 {P:Ycj}{w:Yci}{K:Qc}{mg mb:Str->Option Ycf}{CX:CXT}{k:Nat}{fa a:Addr}{fd:Ycu}{x:Str}{sp:Sp}{s₁:Ycg}{vs:List Ycf}{ns:List Int}
 (KX:K.In s₁.heap) (hns:s₁.heap.Ns Ycq mg) (hb:s₁.heap.Ns Yda mb) (hbb:∀ x:Str,x≠"__name__"->mb x=Ydb x) (hlim:s₁.heap.NoLimit) (hg:s₁.gens = #[])
 (ha:s₁.heap.get? a=some { cls:=.type "list",data:=.seq vs.toArray }) (hi:Ydg vs ns) (hl:ns.length<=sizeLine) (hr:Room k Yc7)
 (F:∀ base:Heap,K.In base->base.Ns Ycq mg->FnOk P w K mg base CX k fa fd [x] sp) (hbind:∀ (s:Ycg) (u:Ycf),Ydf s fd ⟨[u],[]⟩ [(x,u)])
 (hsp:∀ H:Hp,J01 H->SqL K H a (ns.map V.int)->sp [.ref a] H (λ v _=>v = .bl true) λ _ _ _=>False)
 (hCX:∀ H e s',CX [] H s₁ (λ _ _ _=>False) e s'->False) :
 Yct (model P w) Yc7 (.call (.ref fa) ⟨[.ref a],[]⟩) (λ r s'=>r = .ok (.ret (.bool true))/\OldK s₁.heap s'.heap/\s'.os=s₁.os/\Ycy s'.gens) s₁:=by
 have rv:=Jix hi
 have lenV:=hi.length
 -- from an abstract heap in which nothing but the script may be tracked
 have core:∀ H:Hp,J01 H->SqL K H a (ns.map V.int)->HOk P w H s₁.heap->(∀ b,H b≠none->b=a)->(H a≠none->K.lookup a=none) ->
  Yct (model P w) Yc7 (.call (.ref fa) ⟨[.ref a],[]⟩) (λ r s'=>r = .ok (.ret (.bool true))/\OldK s₁.heap s'.heap/\s'.os=s₁.os/\Ycy s'.gens) s₁:=by
  intro H hO hS hok hA hK
  have base_of:∀ {b:Addr} {o:Obj},s₁.heap.get? b=some o->H b=none->(Jjy s₁.heap H).get? b=some o:=λ e n=>Jtd e n
  have noA:∀ {b:Addr} {o:Obj} {es:Array DictEntry} {ep:Nat},s₁.heap.get? b=some o->o.data = .dict es ep->H b=none:=λ {b o es ep} e d=>by
   cases q:H b with
   | none=>rfl
   | some u=>
    have e':b=a:=hA b (by rw [q];simp)
    subst e'
    rw [ha] at e;cases e
    have d':J52 vs.toArray _=Data.dict es ep:=d
    cases d'
  have nsK:∀ {b:Addr} {m:Str->Option Ycf},s₁.heap.Ns b m->(Jjy s₁.heap H).Ns b m:=λ {b m} ⟨o,es,ep,e,d,r⟩=>⟨o,es,ep,base_of e (noA e d),d,r⟩
  have hKb:K.In (Jjy s₁.heap H):=λ b o e=>base_of (KX b o e) (by
   cases q:H b with
   | none=>rfl
   | some u=>
    have e':b=a:=hA b (by rw [q];simp)
    subst e'
    rw [hK (by rw [q];simp)] at e;cases e)
  have hM:Mod K mg (Jjy s₁.heap H):=⟨hKb,nsK hns,⟨mb,nsK hb,hbb⟩,let ⟨mc,h1,h2⟩:=hlim;⟨mc,nsK h1,h2⟩⟩
  have e0:Env0 P w K mg (Jjy s₁.heap H) Yc7 [] s₁ H:=⟨rfl,hM,λ b o e=>Jw0 e,J7o (Jra _ _),trivial,λ b hb=>absurd (show b∈([]:List Addr) from hb) (by simp),hok,.of_eq hg⟩
  refine codeAny_mono ((F _ hKb (nsK hns)).run Yc7 [] s₁ H ⟨[.ref a],[]⟩ [.ref a] [.ref a] _ _ hr e0 (hbind s₁ (.ref a)) (.cons rfl .nil) (hsp H hO hS)) λ r s' h=>?_
  cases r with
  | error e=>exact (hCX H e s' h).elim
  | ok fl=>
   cases fl with
   | next=>exact X8 h
   | brk=>exact X8 h
   | cont=>exact X8 h
   | ret u=>
    obtain ⟨v,H',os,bare,un,hok',r',q⟩:=h
    have q':v = .bl true:=q
    subst q'
    obtain rfl:u=J6t true:=r'
    refine ⟨rfl,OldK.of_keep λ b o e=>?_,os,bare⟩
    cases q:H b with
    | none=>exact un.keep b o e q (by intro z;exact absurd (show b∈([]:List Addr) from z) (by simp)) (by simp)
    | some u=>
     rcases hO b with z | ⟨ob,xs,z⟩
     . rw [q] at z;cases z
     . have z2:=un.frzs b ob _ z
       obtain ⟨e1,_⟩:=hok b _ z
       obtain ⟨e2,_⟩:=hok' b _ z2
       rw [e] at e1;cases e1
       exact e2
 cases hk:K.lookup a with
 | some o=>
  -- the script is one of the module's own objects
  have e:=KX a o hk
  rw [ha] at e
  cases e
  refine core (λ _=>none) (λ _=>.inl rfl) (.inr ⟨_,vs.toArray,_,hk,rfl,rfl,rfl,by rw [Q1,lenV];exact hl,by simpa using rv⟩) (λ b u z=>by have z':(none:Option HO)=some u:=z;cases z') (λ b z=>absurd rfl z) λ z=>absurd rfl z
 | none=>
  refine core (λ b=>if b=a then some (.frz { cls:=.type "list",data:=.seq vs.toArray } (.lst (ns.map V.int))) else none) (λ b=>?_) (.inl (.inr ⟨{ cls:=.type "list",data:=.seq vs.toArray },if_pos rfl⟩)) (λ b u z=>?_) (λ b z=>?_) λ _=>hk
  . by_cases hb:b=a
    . exact .inr ⟨_,_,if_pos hb⟩
    . exact .inl (if_neg hb)
  . by_cases hb:b=a
    . have z':=(if_pos hb).symm.trans z
      cases z'
      subst hb
      exact ⟨ha,by rw [Qb];exact hl,vs,_,rv,ha⟩
    . have z':=(if_neg hb).symm.trans z
      cases z'
  . by_cases hb:b=a
    . exact hb
    . exact absurd (if_neg hb) z
theorem walk_of {l:J81}{n k:Nat}{q:Ycj}{loose:List Str}{XP:(Str->Option Ycf)->Heap->Prop}{YP:Yci->Heap->Prop}{d:DefRec}{K:Params->Qc}{CX:Yci->CXT}{sp:Yci->Sp}{x:Str}
 (hn:l.most=some n) (hn2:n<=sizeLine) (hdf:d.params.defaults=[]) (hr:Room k Yc7)
 (hY:∀ (w:Yci) (h:Heap),YP w h->(K w.params).In h)
 (F:∀ (w:Yci) (mg:Str->Option Ycf) (fa:Addr) (h:Heap),(K w.params).In h->h.Ns Ycq mg->mg d.name=some (.ref fa) ->
  ∃ fd:Ycu,(∀ (s:Ycg) (u:Ycf),Ydf s fd ⟨[u],[]⟩ [(x,u)]) /\
   ∀ base:Heap,(K w.params).In base->base.Ns Ycq mg->FnOk l.prog w (K w.params) mg base (CX w) k fa fd [x] (sp w))
 (hsp:∀ (w:Yci) (H:Hp) (a:Addr) (ns:List Int),ns.length<=n->J01 H->SqL (K w.params) H a (ns.map V.int)->sp w [.ref a] H (λ v _=>v = .bl true) λ _ _ _=>False)
 (hCX:∀ (w:Yci) (H:Hp) (s:Ycg) (e:Ycf) (s':Ycg),CX w [] H s (λ _ _ _=>False) e s'->False) :
 Yar q loose XP YP l.row.toRowW d [] (λ f vs=>J80 f vs):=by
 refine Att.attach_call hn hdf λ w s₀ s₁ mg mb fa o pm cd doc a vs ns G Y ho hd hcd hmg hobj hints hlen hg=>?_
 have KX:=hY w _ Y
 obtain ⟨fd,hb,hF⟩:=F w mg fa _ KX G.T.g hmg
 exact Jt0 KX G.T.g G.T.b G.T.builtins G.T.nolimit hg hobj hints (Xk hlen hn2) hr hF hb (λ H hO hS=>hsp w H a ns hlen hO hS) λ H e s'=>hCX w H s₁ e s'
noncomputable def B1 (s:Stmt):Arguments:=match s with
 | .FunctionDef _ a _ _ _ _ _ _ _ _=>a
 | _=>{ posonlyargs:=[],args:=[],vararg:=none,kwonlyargs:=[],kw_defaults:=[],kwarg:=none,defaults:=[] }
noncomputable def Vv (s:Stmt):List Stmt:=match s with
 | .FunctionDef _ _ b _ _ _ _ _ _ _=>b
 | _=>[]
noncomputable def Jf (s:Stmt):Ycm:=match s with
 | .FunctionDef _ _ _ _ _ _ sc _ _ _=>sc
 | _=>{ kind:=.function,names:=[],isGenerator:=false,isCoroutine:=false }
abbrev CX0:CXT:=λ _ _ _ _ _ _=>False
abbrev E0:XK:=λ _ _ _=>False
theorem J2v {X:Cx}:Jgd CX0 X E0:=λ _ _ _ _ _ _ _ h=>h.elim
structure Fun (K:Qc) (x qual:Str) (st:Stmt) (f:Addr) (fd:Ycu):Prop where
 ex:∃ (oc:Ycf) (od:Option Addr) (kV doc pm:Ycf) (an:Option Addr) (cdv ct:Ycf) (osl:Array (Option Ycf)),
  fd=Ux x qual (B1 st) (Vv st) (Jf st) .none kV doc pm an cdv ct/\K.lookup f=some ⟨oc,od,.func fd,osl⟩/\J6v K cdv qual=true
 kp:J5v K (.ref f)=true
section
variable {P:Ycj}{w:Yci}{K:Qc}{mg:Str->Option Ycf}{base:Heap}
theorem Fun.ok {x qual:Str}{st:Stmt}{f:Addr}{fd:Ycu}{N ps:List Str}{k:Nat}{sp:Sp}(F:Fun K x qual st f fd) (S:FnScope N ps (Jf st)) (len:∀ vs H Q E,sp vs H Q E->vs.length=ps.length)
 (hbody:∀ (cdv:Ycf) (A:Yck) (outer:List Env) (s:Ycg) (H:Hp) (vs:List V) (Q:VK) (E:XK),Room k (A.deeper (envOfC qual (Jf st) s.heap.objs.size f cdv))->sp vs H Q E ->
  ∃ t,PSs (Jaz CX0 P w K mg base N qual (Jf st) f cdv A outer s H E).nox (Vv st) t/\t { nx:=λ _ H'=>Q .non H',rt:=Q } (start N vs) H):FnOk P w K mg base CX0 (k+1) f fd ps sp:=by
 obtain ⟨oc,od,kV,doc,pm,an,cdv,ct,osl,rfl,lk,hcd⟩:=F.ex
 refine Jzd lk hcd S len λ A outer s H vs Q E hr hsp=>?_
 obtain ⟨t,h,q⟩:=hbody cdv A outer s H vs Q E hr hsp
 exact ⟨t,h.nox,q⟩
theorem Fun.binds {x qual:Str}{st:Stmt}{f:Addr}{fd:Ycu}{ps:List Str}(F:Fun K x qual st f fd)
 (h:∀ (kV doc pm:Ycf) (an:Option Addr) (cdv ct:Ycf) (us:List Ycf),us.length=ps.length->bindArgs (Ux x qual (B1 st) (Vv st) (Jf st) .none kV doc pm an cdv ct) ⟨us,[]⟩=pure (ps.zip us)):Je6 K fd ps []:=by
 obtain ⟨oc,od,kV,doc,pm,an,cdv,ct,osl,rfl,lk,hcd⟩:=F.ex
 exact .all (h kV doc pm an cdv ct)
theorem Jos {x qual:Str}{st:Stmt}{f:Addr}{oc:Ycf}{od an:Option Addr}{osl:Array (Option Ycf)}{kV doc pm cdv ct:Ycf}(l:K.lookup f=some ⟨oc,od,.func (Ux x qual (B1 st) (Vv st) (Jf st) .none kV doc pm an cdv ct),osl⟩)
 (c:J6v K cdv qual=true) (k:J5v K (.ref f)=true):Fun K x qual st f (Ux x qual (B1 st) (Vv st) (Jf st) .none kV doc pm an cdv ct):=⟨⟨oc,od,kV,doc,pm,an,cdv,ct,osl,rfl,l,c⟩,k⟩
end
theorem Z3 {A:Yck}{k:Nat}(hr:Room k A):A.units+1<Ycv:=J6y (Nat.add_le_add_left (by decide:1<=64) _) hr.units
theorem Jrq {n:Nat}(h:n<=1000):n<sizeLine:=J6y h (by decide)
section
variable {X:Cx}
theorem pv (i:Nat) {x:Str}{pos:Pos}(hN:X.N[i]? = some x:=by rfl) (hv:Vis X.env.scope x:=by first | exact Qa rfl | exact Qt (Qa rfl) | exact Qt (Qt rfl)) (hd:(x==("__debug__":Str))=false:=by decide)
 (hcd:(x==("__classdict__":Str))=false:=by decide):PE X (.Name x pos) (Zv i):=J0f hN hv hd hcd
end
theorem Wm {A B:Prop}(h:B):if false=true then A else B:=by
 rw [if_neg Q7]
 exact h
theorem Z6 {A B:Prop}(h:A):if true=true then A else B:=by
 rw [if_pos rfl]
 exact h
def Jka (H H':Hp):Prop:=∀ b o,H b=some o->H' b=some o
theorem Jka.free {H H':Hp}(e:Jka H H') {l:Addr}(h:H' l=Yas):H l=Yas:=by
 cases q:H l with
 | none=>rfl
 | some o=>
  rw [e l o q] at h
  cases h
theorem Jka.seq {K:Qc}{H H':Hp}{a:Addr}{xs:List V}(e:Jka H H') (h:SqL K H a xs):SqL K H' a xs:=by
 rcases h with (h | ⟨o,h⟩) | h
 . exact .inl (.inl (e _ _ h))
 . exact .inl (.inr ⟨o,e _ _ h⟩)
 . exact .inr h
section
variable {κ:Type} [DecidableEq κ]
end
end L2
set_option maxHeartbeats 4000000
namespace L2
abbrev NoE:Ycf->Ycg->Prop:=λ _ _=>False
theorem Je8 {prog:Ycj}{w:Yci}{A:Yck}{R:Yc5->Ycg->Prop}{s:Ycg}{elt target iter:Expr}{ifs:List Expr}{scope:Ycm}{pos:Pos}{it acc:Ycf}{env:Env}(I:Nat->Ycg->Prop)
 (turn:∀ n s,I n s->Ych (model prog w) A (pyNext it) (λ r s₁=>match r with
  | none=>R (.ok .next) s₁
  | some v=>Ych (model prog w) A (letOwnedTupleGo target it v) (λ _ s₁'=>Ych (model prog w) A (assign target env v) (λ _ s₂=>
   Ych (model prog w) A (forIn ifs true λ c r=>if r=true then do let ok <- isTrue c env (eval c env);pure (J5m ok) else pure (J5m r)) (λ ok s₃=>
    if ok=true then Ych (model prog w) A (eval elt env) (λ x s₄=>
     Ych (model prog w) A (call (.builtin "list.append") [acc,x]) (λ _ s₅=>∃ m,m<n/\I m s₅) NoE s₄) NoE s₃
    else ∃ m,m<n/\I m s₃) NoE s₂) NoE s₁') NoE s₁) NoE s)
 (n:Nat) (h:I n s) :
 Yct (model prog w) A (.compLoop (.ListComp elt [⟨target,iter,ifs,0⟩] scope pos) 0 it acc env) R s:=by
 refine codeAny_loop rfl I (λ n s hI=>?_) n h
 show Ych _ A ((compTurn (.ListComp elt [⟨target,iter,ifs,0⟩] scope pos) 0 it acc env).onRaise (λ x=>do noteFrame x env;theTreesLotGoes x)) _ _ s
 refine wpAny_noted ?_
 rw [compTurn_list]
 refine wpAny_bind (wpAny_standAt (wpAny_bind (wpAny_mono (turn n s hI) (λ r s₁ h₁=>?_) λ _ _ f=>f.elim)))
 cases r with
 | none=>exact wpAny_pure h₁
 | some v=>
  refine wpAny_bind (wpAny_mono h₁ (λ _ s₁' h₁'=>wpAny_bind (wpAny_mono h₁' (λ _ s₂ h₂=>wpAny_bind (wpAny_mono h₂ (λ ok s₃ h₃=>?_) λ _ _ f=>f.elim)) λ _ _ f=>f.elim)) λ _ _ f=>f.elim)
  cases ok with
  | false=>exact wpAny_pure ⟨rfl,h₃⟩
  | true=>
   exact wpAny_bind (wpAny_bind (wpAny_mono h₃ (λ x s₄ h₄=>wpAny_bind (wpAny_mono h₄ (λ _ s₅ h₅=>wpAny_pure (wpAny_pure ⟨rfl,h₅⟩)) λ _ _ f=>f.elim)) λ _ _ f=>f.elim))
noncomputable def Ya (env:Env):List (Str×Ycp)->List (Str×Addr)->List (Str×Addr)
 | [],cs=>cs
 | (n,k)::r,cs=>Ya env r (if (k==Ug)=true then (n,(env.cells.lookup n).getD 0)::cs else cs)
theorem Wo {scope:Ycm}{env:Env}(h:∀ x∈scope.names,x.2 = .free->∃ c,env.cells.lookup x.1=some c):Yc8 scope env=pure (Ya env scope.names []):=by
 have key:∀ (l:List (Str×Ycp)) (cs:List (Str×Addr)),(∀ x∈l,x.2 = .free->∃ c,env.cells.lookup x.1=some c) ->
  (forIn (m:=Sem) l cs λ (x:Str×Ycp) (r:List (Str×Addr))=>if (x.2==Ug)=true then (do let c <- cellOf env x.1;pure (J5m ((x.1,c)::r))) else (do pure PUnit.unit;pure (J5m r)))=pure (Ya env l cs):=by
  intro l
  induction l with
  | nil=>intro cs _;rfl
  | cons x r ih=>
   intro cs hx
   obtain ⟨n,k⟩:=x
   rw [J6z]
   by_cases hk:k = .free
   . subst hk
     obtain ⟨c,hc⟩:=hx _ Qd rfl
     have e:cellOf env n=pure c:=by unfold cellOf;rw [show env.cells.lookup n=some c from hc]
     simp only [beq_self_eq_true,if_true,e,pure_bind]
     rw [ih _ λ y hy=>hx y (Qh _ hy)]
     simp only [Ya,beq_self_eq_true,if_true]
     rw [show env.cells.lookup n=some c from hc]
     rfl
   . have hb:(k==Ug)=false:=by simpa using hk
     simp only [hb,J6x,if_false,pure_bind]
     rw [ih _ λ y hy=>hx y (Qh _ hy)]
     simp only [Ya,hb,J6x,if_false]
 unfold Yc8
 have:=key scope.names [] h
 show ((forIn (m:=Sem) scope.names ([]:List (Str×Addr)) _) >>= _)=_
 refine Eq.trans (congrArg (λ z=>z >>= _) (Eq.trans ?_ this)) ?_
 . congr 1
 . rfl
theorem Jct {env:Env}:∀ {l:List (Str×Ycp)}{cs:List (Str×Addr)},(∀ x∈l,x.2 = .free->∃ c,env.cells.lookup x.1=some c)->(∀ p∈cs,env.cells.lookup p.1=some p.2)->∀ p∈Ya env l cs,env.cells.lookup p.1=some p.2
 | [],_,_,hc=>hc
 | (n,k)::r,cs,hx,hc=>by
  unfold Ya
  refine Jct (λ y hy=>hx y (Qh _ hy)) λ p hp=>?_
  by_cases hk:k = .free
  . subst hk
    simp only [beq_self_eq_true,if_true] at hp
    rcases Qg.mp hp with rfl | hp
    . obtain ⟨c,e⟩:=hx _ Qd rfl
      have e:env.cells.lookup n=some c:=e
      show env.cells.lookup n=some ((env.cells.lookup n).getD 0)
      rw [e]
      rfl
    . exact hc p hp
  . have hb:(k==Ug)=false:=by simpa using hk
    simp only [hb,J6x,if_false] at hp
    exact hc p hp
theorem Jgj {env:Env}:∀ {l:List (Str×Ycp)}{cs:List (Str×Addr)}{p:Str×Addr},p∈cs->p∈Ya env l cs
 | [],_,_,h=>h
 | (n,k)::r,cs,p,h=>by
  unfold Ya
  refine Jgj ?_
  split
  . exact Qh _ h
  . exact h
theorem Bm {env:Env}:∀ {l:List (Str×Ycp)}{cs:List (Str×Addr)}{x:Str},(x,Ug)∈l->∃ c,(x,c)∈Ya env l cs
 | [],_,_,h=>by cases h
 | (n,k)::r,cs,x,h=>by
  unfold Ya
  rcases Qg.mp h with e | h
  . cases e
    simp only [beq_self_eq_true,if_true]
    exact ⟨_,Jgj Qd⟩
  . exact Bm h
theorem Zj {α:Type}{x:Str}{c:α}:∀ {l:List (Str×α)},(x,c)∈l->∃ d,l.lookup x=some d
 | [],h=>by cases h
 | (n,k)::r,h=>by
  rw [J53]
  cases hx:x==n with
  | true=>exact ⟨k,rfl⟩
  | false=>
   rcases Qg.mp h with e | h
   . cases e;simp at hx
   . exact Zj h
theorem Wp {env:Env}{x:Str}:∀ {names:List (Str×Ycp)}{k:Ycp},
 (names.map λ (n,k)=>if (k==Ug&&env.scope.kind == .function&&env.kindOf n==some .cell) then (n,Uy) else (n,k)).lookup x=some k->names.lookup x=some k\/(k = .cell/\names.lookup x=some .free)
 | [],_,h=>by simp at h
 | (n,j)::r,k,h=>by
  have ih:=@Wp env x r k
  rw [Qq] at h
  rw [J53]
  dsimp only at h
  by_cases hc:(j==Ug&&env.scope.kind == .function&&env.kindOf n==some .cell)=true
  . rw [if_pos hc,J53] at h
    cases hx:x==n with
    | true=>
     rw [hx] at h
     simp only [Xg] at hc
     have:j = .free:=by simpa using hc.1.1
     subst this
     cases h
     exact .inr ⟨rfl,rfl⟩
    | false=>rw [hx] at h;exact ih h
  . rw [if_neg hc,J53] at h
    cases hx:x==n with
    | true=>rw [hx] at h;exact .inl h
    | false=>rw [hx] at h;exact ih h
theorem Ja0 {env:Env}{x:Str}:∀ {names:List (Str×Ycp)},names.lookup x=some .free ->
 (names.map λ (n,k)=>if (k==Ug&&env.scope.kind == .function&&env.kindOf n==some .cell) then (n,Uy) else (n,k)).lookup x=some .cell \/
 (names.map λ (n,k)=>if (k==Ug&&env.scope.kind == .function&&env.kindOf n==some .cell) then (n,Uy) else (n,k)).lookup x=some .free
 | [],h=>by simp at h
 | (n,j)::r,h=>by
  have ih:=@Ja0 env x r
  rw [J53] at h
  rw [Qq]
  dsimp only
  by_cases hc:(j==Ug&&env.scope.kind == .function&&env.kindOf n==some .cell)=true
  . rw [if_pos hc,J53]
    cases hx:x==n with
    | true=>exact .inl rfl
    | false=>rw [hx] at h;exact ih h
  . rw [if_neg hc,J53]
    cases hx:x==n with
    | true=>rw [hx] at h;cases h;exact .inr rfl
    | false=>rw [hx] at h;exact ih h
noncomputable def Yh (X:Cx) (N':List Str) (scope:Ycm) (C:Addr) (s:Ycg) (H:Hp) (fp:List Addr):Cx where
 prog:=X.prog
 w:=X.w
 K:=X.K
 mg:=X.mg
 base:=X.base
 A:=X.A
 N:=N'
 s₀:=s
 H₀:=H
 env:=compEnvC scope (Ya X.env scope.names []) C X.env
 outer:=X.stack
 stack:=X.stack
 ex:=fp
 fn:=λ _=>false
 calm:=X.calm
 pn:=[]
 xe:=NoE
structure CompScope (sc:Ycm) (N:List Str) (scope:Ycm) (N':List Str) (k:Nat) (idx:List Nat):Prop where
 kind:scope.kind = .function
 nocell:∀ x∈scope.names,x.2≠.cell
 loc:∀ x∈scope.names,x.2 = .local -> scope.names.lookup x.1=some .local
 fr:∀ x∈scope.names,x.2 = .free->sc.names.lookup x.1=some .cell\/sc.names.lookup x.1=some .free
 nd:N'.Nodup
 free:∀ x∈N'.drop k,scope.names.lookup x=some .free
 ix:(N'.drop k).map some=idx.map λ i=>N[i]?
 len:N'.length=k+idx.length
noncomputable def Yi (k:Nat) (idx:List Nat) (σ:St):St:=Qy k none++idx.map λ i=>(σ[i]?).join
section
variable {X:Cx}{pins:List (Addr×Obj)}{σ:St}{H:Hp}{s:Ycg}{scope:Ycm}{N':List Str}{k:Nat}{idx:List Nat}{sc:Ycm}{N:List Str}
theorem Jgk (I:Inv X pins σ H s) (S:CompScope sc N scope N' k idx) (hsc:X.env.scope=sc) (hNN:X.N=N) {fp:List Addr}(hf:∀ b∈fp,Jbj X pins H b) (hlt:∀ b∈fp,b<s.heap.objs.size) {h':Heap}{t':Nat}
 (hn:h'.Ns s.heap.objs.size (λ _=>none)) (hk:∀ b o,s.heap.get? b=some o->h'.get? b=some o) :
 Inv (Yh X N' scope s.heap.objs.size s H fp) [] (Yi k idx σ) H { s with heap:=h',toks:=t' }:=by
 have hcell:∀ x∈scope.names,x.2 = .free->∃ c,X.env.cells.lookup x.1=some c:=λ x hx hfree=>I.ok.has x.1 (by
  show X.env.scope.names.lookup x.1=_\/X.env.scope.names.lookup x.1=_
  rw [hsc];exact S.fr x hx hfree)
 have hcl:∀ x c,(Ya X.env scope.names []).lookup x=some c->X.env.cells.lookup x=some c:=λ x c e=>Jct hcell (λ p hp=>by cases hp) (x,c) (Xs e)
 have hok:(Yh X N' scope s.heap.objs.size s H fp).Ok:={
  mod:=I.ok.mod
  kind:=S.kind
  glob:=I.ok.glob
  blt:=I.ok.blt
  above:=Qn _
  inj:=λ x y c e1 e2=>I.ok.inj x y c (hcl x c e1) (hcl y c e2)
  has:=λ x hx=>by
   have hfree:scope.names.lookup x=some .free:=by
    rcases hx with hx | hx
    . rcases Wp (env:=X.env) (names:=scope.names) hx with h | ⟨_,h⟩
      . exact absurd rfl (S.nocell _ (Xs h))
      . exact h
    . rcases Wp (env:=X.env) (names:=scope.names) hx with h | ⟨h,_⟩
      . exact h
      . cases h
   obtain ⟨c,hc⟩:=Bm (env:=X.env) (cs:=[]) (Xs hfree)
   exact Zj hc
  cab:=λ x c h=>by cases h
  hd:=I.ok.hd
  frames:=I.ok.frames
  stk:=.inl rfl
  exf:=λ b hb=>⟨Xf (hlt b hb),λ x c e=>(hf b hb).2.2.2.2.1 x c (hcl x c e)⟩
  bs:=I.bs
  bsz:=Xk I.ok.bsz I.sz
  noex:=λ b o e hb=>by
   rcases (hf b hb).2.2.2.1 with z | z
   . exact I.ok.noex b o e z
   . exact absurd (Xn (Qp e) (Xk I.ok.bsz z)) (Xe _)
  exfs:=λ b hb hz=>by
   rcases Qg.mp (I.stkSub b hz) with e | e
   . exact (hf b hb).2.1 e
   . exact (hf b hb).2.2.1 e
  funs:=I.stack
  frf:=I.stkFree }
 refine ⟨hok,rfl,I.bare,Un.kept hk,⟨_,hn,λ i x v e1 e2 e3=>?_⟩,λ x c e=>?_,I.hok.fresh (Qn _),λ x c e=>I.freeC x c (hcl x c e),(λ p hp=>by cases hp),I.hok.kept hk,?_⟩
 . -- a name with a value is one of the others
   have hi:k<=i:=by
    rcases U8 i k with h | h
    . have e2:(Yi k idx σ)[i]? = some (some v):=e2
      unfold Yi at e2
      rw [J5x (by simpa using h),J6f] at e2
      split at e2<;>cases e2
    . exact h
   have e1':(N'.drop k)[i-k]? = some x:=by
    rw [Yat,show k+(i-k)=i by omega];exact e1
   have hfree:=S.free x (Xa e1')
   have e2':(idx.map λ i=>(σ[i]?).join)[i-k]? = some (some v):=by
    have e2:(Yi k idx σ)[i]? = some (some v):=e2
    unfold Yi at e2
    rw [J5w (by simpa using hi),Uq] at e2
    exact e2
   rw [Qs] at e2'
   cases hj:idx[i-k]? with
   | none=>rw [hj] at e2';cases e2'
   | some j=>
    rw [hj] at e2'
    have e3':(σ[j]?).join=some v:=by simpa using e2'
    have eσ:σ[j]? = some (some v):=by
     cases q:σ[j]? with
     | none=>rw [q] at e3';cases e3'
     | some o=>rw [q] at e3';cases o with
      | none=>cases e3'
      | some z=>cases e3';rfl
    have eN:X.N[j]? = some x:=by
     rw [hNN]
     have:=congrArg (λ l=>l[i-k]?) S.ix
     simp only [Qs,e1',hj,Option.map_some] at this
     exact (Xd this).symm
    have hvk:=S.fr _ (Xs hfree) rfl
    obtain ⟨m,hm,hl⟩:=I.loc
    obtain ⟨u,ru,lk⟩:=hl j x v eN eσ (by rw [hsc];exact .inr hvk)
    refine ⟨u,ru,.inr ⟨Ja0 (env:=X.env) hfree,?_⟩⟩
    rcases lk with ⟨kl,_⟩ | ⟨_,c,ec,z⟩
    . have kl:X.env.scope.names.lookup x=some .local := kl
      rw [hsc] at kl
      rcases hvk with q | q<;>(rw [kl] at q;cases q)
    . obtain ⟨d,hd⟩:=Bm (env:=X.env) (cs:=[]) (Xs hfree)
      obtain ⟨d',hd'⟩:=Zj hd
      have e:=hcl x d' hd'
      rw [ec] at e
      cases e
      obtain ⟨o,ho,hod⟩:=z
      exact ⟨c,hd',o,hk c o ho,hod⟩
 . obtain ⟨v,o,ho,hod⟩:=I.cell x c (hcl x c e)
   exact ⟨v,o,hk c o ho,hod⟩
 . show (Yi k idx σ).length=N'.length
   unfold Yi
   rw [S.len,Qw,Uq,Qb]
end
def PTs (X:Cx) (ifs:List Expr) (t:TT):Prop:=
 ∀ (pins:List (Addr×Obj)) (s:Ycg) (σ:St) (H:Hp) (Q:Bool->Hp->Prop),Inv X pins σ H s->t σ H Q ->
  Ych (model X.prog X.w) X.A (forIn ifs true λ c r=>if r=true then do let ok <- isTrue c X.env (eval c X.env);pure (J5m ok) else pure (J5m r)) (TP X pins σ Q) X.xe s
def Jdf:TT:=λ _ H Q=>Q true H
theorem Yl {X:Cx}:PTs X [] Jdf:=λ pins s σ H Q I h=>wpAny_tests_nil ⟨H,I,h⟩
theorem Ja1 {X:Cx}{c:Expr}{t:TT}(h:PT X c t):PTs X [c] t:=λ pins s σ H Q I q=>wpAny_tests_one (h pins s σ H Q I q)
def Jbm (J:It) (g:TG) (tt:TT) (te:TE) (l:Addr) (σ0:St) (H0:Hp) (Q:Hp->Prop):Prop:=
 ∃ W:Nat->Nat->St->Hp->Prop,(∃ m,W 0 m σ0 H0)/\∀ i m σ H,W i m σ H ->
  (J.stop i H/\Q H)\/(J.go i H/\∀ x H',J.yld i H x H'->g x σ H' λ σ2 H2=>tt σ2 H2 λ c H3=>
   if c=true then te σ2 H3 λ y H4=>∃ xs,H4 l=some (.lst xs)/\xs.length<sizeLine/\∃ m',m'<m/\W (i+1) m' σ2 (upd H4 l (.lst (xs++[y])))
   else ∃ m',m'<m/\W (i+1) m' σ2 H3)
def Je9 (wi:TI) (k:Nat) (idx:List Nat) (g:TG) (tt:TT) (te:TE):TE:=λ σ H Q=>wi σ H λ J H1=>∀ l,H1 l=none->Jbm J g tt te l (Yi k idx σ) (upd H1 l (.lst [])) λ H2=>Q (.ref l) H2
section
variable {X:Cx}{tg iter elt:Expr}{ifs:List Expr}{scope sc:Ycm}{N N':List Str}{k:Nat}{idx:List Nat}{wi:TI}{g:TG}{tt:TT}{te:TE}{pos:Pos}
structure Free1 (X:Cx) (pins:List (Addr×Obj)) (H:Hp) (C:Addr):Prop where
 loc:C≠X.env.locals
 cel:∀ x c,X.env.cells.lookup x=some c->c≠C
 fr:H C=none
 new:X.s₀.heap.objs.size<=C
 pin:∀ p∈X.pn++pins,p.1≠C
theorem Inv.freed {X:Cx}{pins:List (Addr×Obj)}{σ:St}{H:Hp}{s:Ycg}{C:Addr}{h':Heap}(I:Inv X pins σ H s) (f:Free1 X pins H C) (hs:Xl C s.heap h'):Inv X pins σ H { s with heap:=h' }:=
 I.turned (t':=s.toks) (it:=C) (λ b o hb e=>(hs.2 b hb).trans e) f.fr f.loc (.inr f.new) f.cel f.pin
theorem Jgl {pins:List (Addr×Obj)}{s:Ycg}{σ:St}{E:Ycf->Ycg->Prop}{RR:Ycf->Addr->Yc5->Ycg->Prop}{itv:Ycf}{Qe:Addr->Hp->Prop}
 (hc:X.calm=true) (S:CompScope sc N scope N' k idx) (hsc:X.env.scope=sc) (hNN:X.N=N)
 (hg:∀ C s H fp,PG (Yh X N' scope C s H fp) tg g) (ht:∀ C s H fp,PTs (Yh X N' scope C s H fp) ifs tt) (he:∀ C s H fp,PE (Yh X N' scope C s H fp) elt te)
 (hit:PIE X pins σ tg (λ J H1=>∀ l,H1 l=none->Jbm J g tt te l (Yi k idx σ) (upd H1 l (.lst [])) λ H2=>Qe l H2) itv s)
 (hRR:∀ l H2 C s2,Inv X pins σ H2 s2->(∃ m,s2.heap.Ns C m)->Free1 X pins H2 C->Qe l H2->RR (.ref l) C (.ok .next) s2) :
 Ych (model X.prog X.w) X.A (newList []) (λ acc s₃=>Ych (model X.prog X.w) X.A (newFunctionEnv scope X.env.globals (Ya X.env scope.names []) [] X.env.qual none .none (some X.env)) (λ cenv s₄=>
  Yct (model X.prog X.w) X.A (.compStart (.ListComp elt [⟨tg,iter,ifs,0⟩] scope pos) 0 itv acc { cenv with scope:=relabel scope X.env }) (RR acc cenv.locals) s₄) E s₃) E s:=by
 obtain ⟨it,fp,tn,J,H1,rfl,I1,T,st1,f1,q⟩:=hit
 refine wpAny_newObj_type ?_
 have hf0:H1 s.heap.objs.size=none:=I1.hok.fresh (Qn _)
 have hflt:∀ b∈fp,b<s.heap.objs.size:=λ b hb=>let ⟨_,e,_⟩:=T.obj _ _ st1 b hb;Qp e
 generalize hl:s.heap.objs.size=l at *
 have I2:Inv X pins σ (upd H1 l (.lst [])) { s with heap:=s.heap.push { cls:=.type "list",dict:=none,data:=.seq ([]:List Ycf).toArray } }:=
  I1.laid (t':=s.toks) (λ b u e=>Qk _ e) (J7o hl) (show Y1 _ _ _ _ l (.lst []) from ⟨Q9 _,[],0,.nil,by rw [<- hl];exact Q5 _ rfl⟩)
 have st2:tn 0 (s.heap.push { cls:=.type "list",dict:=none,data:=.seq ([]:List Ycf).toArray }):=T.keep _ _ _ st1 λ b _ o e=>Qk _ e
 have f2:∀ b∈fp,Jbj X pins (upd H1 l (.lst [])) b:=λ b hb=>⟨by rw [Ji (Xf (hflt b hb))];exact (f1 b hb).1,(f1 b hb).2⟩
 have hsz2:(s.heap.push { cls:=.type "list",dict:=none,data:=.seq ([]:List Ycf).toArray }).objs.size=l+1:=by rw [Xr,hl]
 have q2:=q l hf0
 generalize hs2:({ s with heap:=s.heap.push { cls:=.type "list",dict:=none,data:=.seq ([]:List Ycf).toArray } }:Ycg)=s2 at I2 ⊢
 have st2:tn 0 s2.heap:=by rw [<- hs2];exact st2
 have hsz2:s2.heap.objs.size=l+1:=by rw [<- hs2];exact hsz2
 refine wpAny_newFunctionEnv S.nocell (by intro y hy;simp at hy) (λ h₁ hns₁ hsb₁=>?_) S.kind
 have hk1:∀ b o,s2.heap.get? b=some o->h₁.get? b=some o:=λ b o e=>hsb₁.extBut b o (Xf (Qp e)) (Qk _ e)
 have hlt2:∀ b∈fp,b<s2.heap.objs.size:=λ b hb=>by rw [hsz2];exact J6l (hflt b hb)
 have I3:=Jgk (t':=s2.toks+([]:List (Str×Ycf)).length) I2 S hsc hNN f2 hlt2 (by simpa using hns₁) hk1
 generalize hC:s2.heap.objs.size=C at *
 have st3:tn 0 h₁:=T.keep _ _ _ st2 λ b _ o e=>hk1 b o e
 obtain ⟨W,⟨m0,w0⟩,turn⟩:=q2
 -- back to the frame around
 have back:∀ {σ':St} {H':Hp} {s':Ycg},Inv (Yh X N' scope C s2 (upd H1 l (.lst [])) fp) [] σ' H' s'->Inv X pins σ H' s':=λ {σ' H' s'} I'=>
  I2.call' I'.os I'.base I'.hok I'.bare λ b hb=>⟨(f2 b hb).2.2.2.1,(f2 b hb).2.1,(f2 b hb).2.2.2.2.1,(f2 b hb).2.2.2.2.2⟩
 have loop:∀ s₃:Ycg,s₃ = { s2 with heap:=h₁,toks:=s2.toks+([]:List (Str×Ycf)).length } ->
  Yct (model X.prog X.w) X.A (.compLoop (.ListComp elt [⟨tg,iter,ifs,0⟩] scope pos) 0 (.ref it) (.ref l) (compEnvC scope (Ya X.env scope.names []) C X.env)) (RR (.ref l) C) s₃:=by
  rintro s₃ rfl
  refine Je8 (λ n s'=>∃ i σ' H',Inv (Yh X N' scope C s2 (upd H1 l (.lst [])) fp) [] σ' H' s'/\tn i s'.heap/\(∀ b∈fp,H' b=none)/\W i n σ' H') ?_ m0 ⟨0,_,_,I3,st3,λ b hb=>(f2 b hb).1,w0⟩
  rintro n s4 ⟨i,σ4,H4,I4,st4,fr4,w4⟩
  have stat:∀ {H':Hp},(∀ b∈fp,H' b=none)->∀ b∈fp,Jbj (Yh X N' scope C s2 (upd H1 l (.lst [])) fp) [] H' b:=λ {H'} hn b hb=>
   ⟨hn b hb,(I4.ok.exf b hb).1,I4.ok.exfs b hb,.inl hb,(I4.ok.exf b hb).2,λ p hp=>by cases hp⟩
  rcases turn i n σ4 H4 w4 with ⟨stop,qn⟩ | ⟨go,step⟩
  . refine thn (T.done (Yh X N' scope C s2 (upd H1 l (.lst [])) fp) rfl rfl rfl hc i [] s4 σ4 H4 NoE I4 (stat fr4) st4 stop) λ r s5 ⟨hr,I5⟩=>?_
    subst hr
    have IX:=back I5
    have hCl:C≠X.env.locals:=λ e=>by
     have:=I2.lt
     rw [hC,<- e] at this
     exact Xe _ this
    have hCc:∀ x c,X.env.cells.lookup x=some c->c≠C:=λ x c e z=>by
     obtain ⟨v,o,ho,_⟩:=I2.cell x c e
     have:=Qp ho
     rw [hC,z] at this
     exact Xe _ this
    obtain ⟨m5,hm5,_⟩:=I5.loc
    refine hRR l H4 C s5 IX ⟨m5,hm5⟩ ⟨hCl,hCc,I5.free,by rw [<- hC];exact I2.sz,λ p hp z=>?_⟩ qn
    obtain ⟨e,_⟩:=I2.pin p hp
    have:=Qp e
    rw [hC,z] at this
    exact Xe _ this
  . refine thn (T.item (Yh X N' scope C s2 (upd H1 l (.lst [])) fp) rfl rfl rfl hc i [] s4 σ4 H4 NoE I4 (stat fr4) st4 go) λ r s5 ⟨u,hr,h5⟩=>?_
    subst hr
    refine thn h5 λ _ s6 ⟨x,H6,I6,r6,y6,st6,fr6⟩=>?_
    have I6':=I6.pinned (stat fr6) (T.obj _ _ st6)
    have keepT:∀ {σ7:St} {H7:Hp} {s7:Ycg},Inv (Yh X N' scope C s2 (upd H1 l (.lst [])) fp) ([]++Jco fp s6.heap) σ7 H7 s7->tn (i+1) s7.heap/\∀ b∈fp,H7 b=none:=λ {σ7 H7 s7} I7=>
     ⟨T.keep _ _ _ st6 λ b hb o e=>(I7.pin (b,o) (Q8 _ (Q8 _ (Z7 hb e)))).1,λ b hb=>by
      obtain ⟨o,e,d⟩:=T.obj _ _ st6 b hb
      exact (I7.pin (b,o) (Q8 _ (Q8 _ (Z7 hb e)))).2.1⟩
    refine thn (hg C s2 (upd H1 l (.lst [])) fp _ s6 σ4 H6 x u _ I6' r6 (step x H6 y6)) λ _ s7 ⟨σ7,H7,I7,q7⟩=>?_
    refine thn (ht C s2 (upd H1 l (.lst [])) fp _ s7 σ7 H7 _ I7 q7) λ ok s8 ⟨H8,I8,q8⟩=>?_
    cases ok with
    | false=>
     rw [if_neg (by decide)] at q8 ⊢
     obtain ⟨m',hm,w8⟩:=q8
     have kt:=keepT I8
     exact ⟨m',hm,i+1,σ7,H8,I8.unpinned,kt.1,kt.2,w8⟩
    | true=>
     rw [if_pos rfl] at q8 ⊢
     refine thn (he C s2 (upd H1 l (.lst [])) fp _ s8 σ7 H8 _ I8 q8) λ v s9 ⟨y,H9,I9,r9,xs,e9,z9,m',hm,w9⟩=>?_
     refine thn (Zi _ s9 σ7 H9 (.ref l) [y] (.ref l) [v] (λ z H10=>z = .non/\H10=upd H9 l (.lst (xs++[y]))) I9 rfl (.cons r9 .nil) ⟨l,xs,y,rfl,rfl,e9,z9,rfl,rfl⟩) λ _ s10 ⟨z,H10,I10,_,_,e10⟩=>?_
     subst e10
     have kt:=keepT I10
     exact ⟨m',hm,i+1,σ7,_,I10.unpinned,kt.1,kt.2,w9⟩
 have e2:(newEnv scope C X.env.globals (Ya X.env scope.names []) X.env.qual none .none (some X.env) Yda).locals=C:=rfl
 show Yct _ _ (.compStart _ 0 (.ref it) (.ref l) (compEnvC scope (Ya X.env scope.names []) C X.env)) (RR (.ref l) C) _
 exact Yd3 (loop _ rfl) (T.self _ 0 _ _ _ st3 (loop _ rfl))
theorem Ym (hc:X.calm=true) (S:CompScope sc N scope N' k idx) (hsc:X.env.scope=sc) (hNN:X.N=N) (hi:PI X tg iter wi)
 (hg:∀ C s H fp,PG (Yh X N' scope C s H fp) tg g) (ht:∀ C s H fp,PTs (Yh X N' scope C s H fp) ifs tt) (he:∀ C s H fp,PE (Yh X N' scope C s H fp) elt te)
 (hs:∀ x,Ydd iter X.env x=pure x:=by intro _;rfl):PE X (.ListComp elt [⟨tg,iter,ifs,0⟩] scope pos) (Je9 wi k idx g tt te):=by
 intro pins s σ H Q I h
 rw [eval_ListComp]
 have hclos:Yc8 scope X.env=pure (Ya X.env scope.names []):=Wo λ x hx hfree=>I.ok.has x.1 (by
  show X.env.scope.names.lookup x.1=_\/X.env.scope.names.lookup x.1=_
  rw [hsc];exact S.fr x hx hfree)
 refine wpAny_comprehension_free (use:=none) rfl hs hclos S.kind S.loc (thn (hi pins s σ H _ I h) λ v s1 h1=>thn h1 λ itv s2 h2=>?_)
 refine Jgl (RR:=λ acc C=>Ydk (model X.prog X.w) X.A X.xe none (EP X pins σ Q) acc C) (Qe:=λ l H2=>Q (.ref l) H2) hc S hsc hNN hg ht he h2 ?_
 intro l H2 C s2 I2 hm f q
 obtain ⟨m,hm⟩:=hm
 exact ⟨m,hm,λ h' hs'=>⟨.ref l,H2,I2.freed f hs',rfl,q⟩⟩
def Jbn (i:Nat) (wi:TI) (k:Nat) (idx:List Nat) (g:TG) (tt:TT) (te:TE):TS:=λ D σ H=>wi σ H λ J H1=>∀ l,H1 l=none->Jbm J g tt te l (Yi k idx σ) (upd H1 l (.lst [])) λ H2=>D.nx (σ.set i (some (.ref l))) H2
theorem Ja2 {i:Nat}{y:Str}{py spos:Pos}(hc:X.calm=true) (hN:X.N.Nodup) (hiN:X.N[i]? = some y) (hy:X.env.scope.names.lookup y=some .local) (S:CompScope sc N scope N' k idx) (hsc:X.env.scope=sc) (hNN:X.N=N) (hi:PI X tg iter wi)
 (hg:∀ C s H fp,PG (Yh X N' scope C s H fp) tg g) (ht:∀ C s H fp,PTs (Yh X N' scope C s H fp) ifs tt) (he:∀ C s H fp,PE (Yh X N' scope C s H fp) elt te)
 (hsw:Yc0 (.ListComp elt [⟨tg,iter,ifs,0⟩] scope pos) (some (.Name y py)) spos.line X.env=pure true:=by rfl)
 (hs:∀ x,Ydd iter X.env x=pure x:=by intro _;rfl):PS X (.Assign [.Name y py] (.ListComp elt [⟨tg,iter,ifs,0⟩] scope pos) spos) (Jbn i wi k idx g tt te):=by
 intro pins s σ H D I h
 rw [Ydv _ _ _ _ hsw]
 refine wpAny_bind (wpAny_standAt (wpAny_bind ?_))
 show Ych _ X.A (do let _ <- Ydw (.ListComp elt [⟨tg,iter,ifs,0⟩] scope pos) scope X.env _ (newList []) false (eval iter X.env) (some (assign (.Name y py) X.env))) _ _ s
 have hclos:Yc8 scope X.env=pure (Ya X.env scope.names []):=Wo λ x hx hfree=>I.ok.has x.1 (by
  show X.env.scope.names.lookup x.1=_\/X.env.scope.names.lookup x.1=_
  rw [hsc];exact S.fr x hx hfree)
 refine wpAny_bind (wpAny_mono (wpAny_comprehension_free (use:=some (assign (.Name y py) X.env)) (Q:=λ _ s'=>SP X pins D .next s') rfl hs hclos S.kind S.loc (thn (hi pins s σ H _ I h) λ v s1 h1=>thn h1 λ itv s2 h2=>?_))
  (λ _ s' hq=>wpAny_pure (wpAny_pure hq)) λ _ _ e=>e)
 refine Jgl (RR:=λ acc C=>Ydk (model X.prog X.w) X.A X.xe (some (assign (.Name y py) X.env)) (λ _ s'=>SP X pins D .next s') acc C) (Qe:=λ l H2=>D.nx (σ.set i (some (.ref l))) H2) hc S hsc hNN hg ht he h2 ?_
 intro l H2 C s2 I2 hm f q
 obtain ⟨m,hm⟩:=hm
 show Ych _ X.A (assign (.Name y py) X.env (.ref l)) _ _ _
 refine Ydl (Jb5 (v:=.ref l) I2 hN hiN (.inl hy) rfl (λ s' I' hch=>?_) (.inr hy))
 obtain ⟨a,hsb,ha⟩:=hch
 have haC:C≠a:=λ z=>by
  rcases ha with e | e
  . exact f.loc (z.trans e)
  . exact f.cel y a e z.symm
 exact ⟨m,hm.sameBut hsb haC,λ h' hs'=>⟨_,H2,I'.freed f hs',q⟩⟩
end
mutual
inductive Rep (ex:List Addr) (H:Hp):Yce->V->Prop
 | none:Rep ex H .none .non
 | bool (b:Bool):Rep ex H (.bool b) (.bl b)
 | int (i:Int):Rep ex H (.int i) (.int i)
 | str (x:Str):Rep ex H (.str x) (.str x)
 | tuple {a:Addr} {xs:List V} {ds:List Yce} (e:H a=some (.tup xs)) (n:a∉ex) (z:xs.length<=sizeLine) (r:Reps ex H ds xs):Rep ex H (.tuple ds) (.ref a)
 | list {a:Addr} {xs:List V} {ds:List Yce} (e:H a=some (.lst xs)) (n:a∉ex) (z:xs.length<=sizeLine) (r:Reps ex H ds xs):Rep ex H (.list ds) (.ref a)
inductive Reps (ex:List Addr) (H:Hp):List Yce->List V->Prop
 | nil:Reps ex H [] []
 | cons {d:Yce} {v:V} {ds:List Yce} {vs:List V}:Rep ex H d v->Reps ex H ds vs->Reps ex H (d::ds) (v::vs)
end
def Kp (ex:List Addr) (H H':Hp):Prop:=∀ b o,H b=some o->b∉ex->H' b=some o
theorem Kp.refl {ex:List Addr}{H:Hp}:Kp ex H H:=λ _ _ e _=>e
theorem Kp.trans {ex:List Addr}{H H1 H2:Hp}(a:Kp ex H H1) (b:Kp ex H1 H2):Kp ex H H2:=λ c o e n=>b c o (a c o e n) n
theorem Kp.of {ex:List Addr}{H H':Hp}(a:Kp [] H H'):Kp ex H H':=λ c o e _=>a c o e (by simp)
theorem Kp.mono {ex ex':List Addr}{H H':Hp}(a:Kp ex H H') (h:∀ b∈ex,b∈ex'):Kp ex' H H':=λ c o e n=>a c o e λ z=>n (h c z)
theorem Kp.new {ex:List Addr}{H:Hp}{p:Addr}(h:H p=none) (o:HO):Kp ex H (upd H p o):=λ b u q _=>by rw [Ji (Jk q h)];exact q
theorem Kp.at {ex:List Addr}{H:Hp}{p:Addr}(h:p∈ex) (o:HO):Kp ex H (upd H p o):=λ b u q n=>by rw [Ji (λ (z:b=p)=>n (by rw [z];exact h))];exact q
mutual
theorem Rep.keep {ex:List Addr}{H H':Hp}(k:Kp ex H H'):∀ {d:Yce}{v:V},Rep ex H d v->Rep ex H' d v
 | _,_,.none=>.none
 | _,_,.bool b=>.bool b
 | _,_,.int i=>.int i
 | _,_,.str x=>.str x
 | _,_,.tuple e n z r=>.tuple (k _ _ e n) n z (Reps.keep k r)
 | _,_,.list e n z r=>.list (k _ _ e n) n z (Reps.keep k r)
theorem Reps.keep {ex:List Addr}{H H':Hp}(k:Kp ex H H'):∀ {ds:List Yce}{vs:List V},Reps ex H ds vs->Reps ex H' ds vs
 | _,_,.nil=>.nil
 | _,_,.cons r t=>.cons (Rep.keep k r) (Reps.keep k t)
end
theorem Reps.length {ex:List Addr}{H:Hp}:∀ {ds:List Yce}{vs:List V},Reps ex H ds vs->ds.length=vs.length
 | _,_,.nil=>rfl
 | _,_,.cons _ t=>by simp [Reps.length t]
theorem Reps.get {ex:List Addr}{H:Hp}:∀ {ds:List Yce}{vs:List V}{i:Nat}{d:Yce},Reps ex H ds vs->ds[i]? = some d->∃ v,vs[i]? = some v/\Rep ex H d v
 | _,_,_,_,.nil,e=>by simp at e
 | _,_,0,_,.cons r _,e=>by simp at e;subst e;exact ⟨_,rfl,r⟩
 | _,_,i+1,d,.cons _ t,e=>by
  obtain ⟨u,h1,h2⟩:=Reps.get (i:=i) (d:=d) t (by simpa using e)
  exact ⟨u,by simpa using h1,h2⟩
theorem Reps.getV {ex:List Addr}{H:Hp}:∀ {ds:List Yce}{vs:List V}{i:Nat}{v:V},Reps ex H ds vs->vs[i]? = some v->∃ d,ds[i]? = some d/\Rep ex H d v
 | _,_,_,_,.nil,e=>by simp at e
 | _,_,0,_,.cons r _,e=>by simp at e;subst e;exact ⟨_,rfl,r⟩
 | _,_,i+1,v,.cons _ t,e=>by
  obtain ⟨u,h1,h2⟩:=Reps.getV (i:=i) (v:=v) t (by simpa using e)
  exact ⟨u,by simpa using h1,h2⟩
theorem Reps.append {ex:List Addr}{H:Hp}:∀ {ds es:List Yce}{vs ws:List V},Reps ex H ds vs->Reps ex H es ws->Reps ex H (ds++es) (vs++ws)
 | _,_,_,_,.nil,s=>s
 | _,_,_,_,.cons r t,s=>.cons r (Reps.append t s)
theorem Reps.take {ex:List Addr}{H:Hp}:∀ {ds:List Yce}{vs:List V}(n:Nat),Reps ex H ds vs->Reps ex H (ds.take n) (vs.take n)
 | _,_,0,_=>.nil
 | _,_,_+1,.nil=>.nil
 | _,_,n+1,.cons r t=>.cons r (Reps.take n t)
theorem Reps.drop {ex:List Addr}{H:Hp}:∀ {ds:List Yce}{vs:List V}(n:Nat),Reps ex H ds vs->Reps ex H (ds.drop n) (vs.drop n)
 | _,_,0,r=>r
 | _,_,_+1,.nil=>.nil
 | _,_,n+1,.cons _ t=>Reps.drop n t
theorem Reps.ints {ex:List Addr}{H:Hp}:∀ ns:List Int,Reps ex H (ns.map Qo) (ns.map V.int)
 | []=>.nil
 | n::r=>.cons (.int n) (Reps.ints r)
theorem Reps.ints_inv {ex:List Addr}{H:Hp}:∀ {ns:List Int}{vs:List V},Reps ex H (ns.map Qo) vs->vs=ns.map V.int
 | [],_,.nil=>rfl
 | n::r,_,.cons (.int _) t=>by rw [Reps.ints_inv t];rfl
theorem Reps.rep {ex:List Addr}{H:Hp}{ds:List Yce}{vs:List V}(h:Reps ex H ds vs):∀ k:Nat,Reps ex H (Qy k ds).flatten (Qy k vs).flatten
 | 0=>.nil
 | k+1=>by
  rw [Us,Us,J5k,J5k]
  exact Reps.append h (Reps.rep h k)
mutual
theorem Rep.reads {ex:List Addr}{P:Ycj}{w:Yci}{H:Hp}{h:Heap}(ok:HOk P w H h):∀ {d:Yce}{v:V}{u:Ycf},Rep ex H d v->Yc v u->∃ as,Reads h u d as
 | _,_,_,.none,r=>by cases (show _=U5 from r);exact ⟨_,.none⟩
 | _,_,_,.bool b,r=>by cases (show _=J6t b from r);exact ⟨_,.bool b⟩
 | _,_,_,.int i,r=>by obtain ⟨t,rfl⟩:=(show ∃ t,_=J6b i t from r);exact ⟨_,.int i t⟩
 | _,_,_,.str x,r=>by obtain ⟨t,rfl⟩:=(show ∃ t,_=J6r x t from r);exact ⟨_,.str x t⟩
 | _,_,_,.tuple (a:=a) (xs:=xs) e n _ rs,r=>by
  cases (show _=Xc a from r)
  obtain ⟨z,its,rv,o,e1,e2,n',e3⟩:=(show Y1 P w H h a (.tup xs) from ok a _ e)
  obtain ⟨as,ra⟩:=Reps.reads ok rs rv
  exact ⟨as,.tuple e1 e2 e3 (by simpa using ra)⟩
 | _,_,_,.list (a:=a) (xs:=xs) e n _ rs,r=>by
  cases (show _=Xc a from r)
  obtain ⟨z,its,n',rv,e1⟩:=(show Y1 P w H h a (.lst xs) from ok a _ e)
  obtain ⟨as,ra⟩:=Reps.reads ok rs rv
  exact ⟨_,.list e1 rfl rfl (by simpa using ra)⟩
theorem Reps.reads {ex:List Addr}{P:Ycj}{w:Yci}{H:Hp}{h:Heap}(ok:HOk P w H h):∀ {ds:List Yce}{vs:List V}{us:List Ycf},Reps ex H ds vs->J9 vs us->∃ as,ReadsAll h us ds as
 | _,_,_,.nil,r=>by cases r;exact ⟨_,.nil⟩
 | _,_,_,.cons q t,r=>by
  cases r with
  | cons r1 r2=>
   obtain ⟨as,h1⟩:=Rep.reads ok q r1
   obtain ⟨bs,h2⟩:=Reps.reads ok t r2
   exact ⟨_,.cons h1 h2⟩
end
section
variable {X:Cx}
def J2w:R2:=λ x y H Q=>∃ ex da db,Rep ex H da x/\Rep ex H db y/\da.canLay0=true/\db.canLay0=true/\min da.depth db.depth<=50/\Q (.bl (Ua da db)) H
def J2x:R2:=λ x y H Q=>∃ ex da db,Rep ex H da x/\Rep ex H db y/\da.canLay0=true/\db.canLay0=true/\min da.depth db.depth<=50/\Q (.bl (!Ua da db)) H
theorem Jt1 (hu:X.A.units+64<Ycv):OpR X (compareOp .Eq) J2w:=by
 intro pins s σ H x y v u Q I rx ry h
 obtain ⟨ex,da,db,r1,r2,c1,c2,hd,q⟩:=h
 obtain ⟨as,h1⟩:=r1.reads I.hok rx
 obtain ⟨bs,h2⟩:=r2.reads I.hok ry
 exact SeqAt.compareEq_reads h1 h2 c1 c2 (by omega) ⟨.bl (Ua da db),H,I,rfl,q⟩
theorem Jgm:Wz X (.builtin "all") (λ xs H Q=>X.calm=true/\∃ (p:Addr) (bs:List Bool),xs=[.ref p]/\SqL X.K H p (bs.map V.bl)/\Q (.bl (bs.all id)) H):=by
 intro pins s σ H xs us Q I r h
 obtain ⟨hc,p,bs,rfl,hq,q⟩:=h
 obtain ⟨u,rfl,ru⟩:=Jak r
 cases ru
 obtain ⟨its,rv,pl,hz⟩:=I.list hq
 have hl:=pl.isList
 have hlt:p<s.heap.objs.size:=by obtain ⟨_,e,_⟩:=hl;exact Qp e
 refine call_all_walk (wpAny_pyIter_list hl ?_)
 refine ⟨_,_,_,_,_,_,λ i=>bs.getD i true,rfl,Walks.list (A:=X.A.in1) (I.ok.hd hc) _ p (Xf hlt) its.toArray,⟨⟨_,Q5 _ rfl,rfl,rfl⟩,hl.push _⟩,?_,λ h' tk hk=>?_⟩
 . intro i v s' Q' E' hP hQ
   have hP:its[i]? = some v:=by simpa using hP
   have hi:i<its.length:=(Qr.mp hP).1
   have hlen:=rv.length
   have hb:(bs.map V.bl)[i]? = some (V.bl (bs.getD i true)):=by
    rw [Qb] at hlen
    rw [Qs,Qx (by omega),Q3,Qx (by omega)]
    rfl
   obtain ⟨u,hu,ru⟩:=rv.get hb
   rw [hP] at hu
   cases hu
   cases (show v=J6t _ from ru)
   exact wpAny_truthy_bool hQ
 . have e:((Qf its.toArray.size).all λ i=>bs.getD i true)=bs.all id:=by
    have hlen:=rv.length
    rw [Qb] at hlen
    rw [Q1,<- hlen,X0]
    simp only [Ub,Xj]
    constructor
    . intro h b hb
      obtain ⟨i,hi,rfl⟩:=Uz.mp hb
      have:=h i hi
      rw [Q3,Qx hi] at this
      exact this
    . intro h i hi
      rw [Q3,Qx hi]
      exact h _ (Uh hi)
   rw [e]
   exact ⟨.bl (bs.all id),H,I.kept (t':=tk) (old_kept hk),rfl,q⟩
theorem Jmc:Wz X (.builtin "sum") (λ xs H Q=>X.calm=true/\∃ (p:Addr) (ns:List Int),xs=[.ref p]/\SqL X.K H p (ns.map V.int)/\Q (.int ns.sum) H):=by
 intro pins s σ H xs us Q I r h
 obtain ⟨hc,p,ns,rfl,hq,q⟩:=h
 obtain ⟨u,rfl,ru⟩:=Jak r
 cases ru
 obtain ⟨its,rv,pl,hz⟩:=I.list hq
 have hl:=pl.isList
 have hi:=Jcr rv
 obtain ⟨xs,e⟩:=hi.allInts.items
 rw [e] at hl
 refine sum_intListG (I.ok.hd hc) hl λ h' tk t' hk=>?_
 have e2:preSum (numAt xs) xs.size=ns.sum:=by
  have h1:=hi.numsOf
  have h2:numsOf its.toArray.toList=(xs.toList.map (·.1)):=by rw [e,Ydx]
  rw [preSum_eq,J51 (by simp)]
  have h2':numsOf its=(xs.toList.map (·.1)):=by simpa using h2
  rw [<- h2',h1]
 rw [e2]
 exact ⟨.int ns.sum,H,I.kept (t':=tk) hk,⟨_,rfl⟩,q⟩
theorem Jmd:Wz X (.builtin "isinstance") (λ xs H Q=>∃ x T t b,xs=[x,.ty T]/\TyOf X.K H x t/\J8l X.K t (.type T)=some b/\Q (.bl b) H):=by
 intro pins s σ H xs us Q I r h
 obtain ⟨x,T,t,b,rfl,ty,e,q⟩:=h
 obtain ⟨u,w',rfl,ru,rw'⟩:=Jp2 r
 cases (show w'=J6u T from rw')
 exact Jrh I ru ty e λ tk=>⟨.bl b,H,I.tok tk,rfl,q⟩
noncomputable def Jbo:Yce->String
 | .none=>"NoneType"
 | .bool _=>"bool"
 | .int _=>"int"
 | .str _=>"str"
 | .list _=>"list"
 | .tuple _=>"tuple"
 | .dict _=>"dict"
theorem Rep.tyOf {ex:List Addr}{H:Hp}{K:Qc}{d:Yce}{v:V}(r:Rep ex H d v):TyOf K H v (.type (Jbo d)):=by
 cases r with
 | none=>exact .non
 | bool b=>exact .bl b
 | int i=>exact .int i
 | str x=>exact .str x
 | tuple e n z r=>exact .tup e
 | list e n z r=>exact .lst e
def Jzg (i j:Int):Prop:=0<j/\j.natAbs.log2<9000
theorem Jdg:OpR X (binaryOp .FloorDiv) (rI Jzg λ i j=>.int (i/j)):=opI λ i j _ _ _ _ _ hc q=>by
 have h1:(0:Int)<j:=hc.1
 exact floordiv_int (by omega) (by rw [Int.fdiv_eq_ediv_of_nonneg i (by omega)];exact q) (.inl (PyProof.noPylong_of_log2 hc.2))
end
theorem Jdh {i j:Int}(h0:0<j) (h1:j<2^9000):Jzg i j:=by
 refine ⟨h0,?_⟩
 have hn:j.natAbs≠0:=by omega
 rw [J82 hn]
 have:(j.natAbs:Int)=j:=Yau (by omega)
 have h2:((j.natAbs:Nat):Int)<((2^9000:Nat):Int):=by rw [this];exact_mod_cast h1
 exact_mod_cast h2
def Cal (P:Ycj) (w:Yci) (K:Qc) (mg:Str->Option Ycf) (base:Heap) (name:Str) (k:Nat) (ps:List Str) (sp:Sp):Prop:=
 ∃ f fd,mg name=some (.ref f)/\J5v K (.ref f)=true/\Je6 K fd ps []/\FnOk P w K mg base CX0 k f fd ps sp
def Def (K:Qc) (mg:Str->Option Ycf) (name:Str) (st:Stmt) (ps:List Str):Prop:=
 ∃ f fd,mg name=some (.ref f)/\Fun K name name st f fd/\Je6 K fd ps []
theorem Def.cal {P:Ycj}{w:Yci}{K:Qc}{mg:Str->Option Ycf}{base:Heap}{name:Str}{st:Stmt}{ps:List Str}{k:Nat}{sp:Sp}(d:Def K mg name st ps)
 (h:∀ f fd,Fun K name name st f fd->FnOk P w K mg base CX0 k f fd ps sp):Cal P w K mg base name k ps sp:=by
 obtain ⟨f,fd,hm,F,b⟩:=d
 exact ⟨f,fd,hm,F.kp,b,h f fd F⟩
theorem Cal.imp {P:Ycj}{w:Yci}{K:Qc}{mg:Str->Option Ycf}{base:Heap}{name:Str}{k:Nat}{ps:List Str}{sp sp':Sp}(c:Cal P w K mg base name k ps sp) (h:∀ vs H Q E,sp' vs H Q E->sp vs H Q E):Cal P w K mg base name k ps sp':=by
 obtain ⟨f,fd,hm,hk,b,F⟩:=c
 exact ⟨f,fd,hm,hk,b,F.imp h⟩
section
variable {X:Cx}{x:Str}{e:Expr}{es:List Expr}{p pos:Pos}{t:TA}{k:Nat}{ps:List Str}{sp:Sp}
theorem Yg (c:Cal X.prog X.w X.K X.mg X.base x k ps sp) (hr:Room k X.A) (hg:Gl X x) (ha:PA X (e::es) t) (hdb:(x==("__debug__":Str))=false:=by decide)
 (he:starEach (e::es) X.env=(false,eval e X.env)::starEach es X.env:=by rfl) (hpl:(backTo pos (starEach es X.env)).any (·.1)=false:=by rfl) :
 PE X (.Call (.Name x p) (e::es) [] pos) (Jch sp [] E0 t):=by
 obtain ⟨f,fd,hm,hk,b,F⟩:=c
 exact Jp3 F hr hg hm hk b .nil J2v ha hdb he hpl
end
def CW (n:Nat) (l:Addr) (fr:St) (Pv:Nat->List V->Hp->Prop) (i m:Nat) (σ:St) (H:Hp):Prop:=i<=n/\m=n-i/\∃ o ys,σ = o::fr/\H l=some (.lst ys)/\Pv i ys H
def Jme (n:Nat) (l:Addr) (fr:St) (Pv:Nat->List V->Hp->Prop) (i:Nat) (x:V):VK:=λ y H4=>
 ∃ xs,H4 l=some (.lst xs)/\xs.length<sizeLine/\∃ m',m'<n-i/\CW n l fr Pv (i+1) m' (some x::fr) (upd H4 l (.lst (xs++[y])))
def J2y (n:Nat) (l:Addr) (fr:St) (Pv:Nat->List V->Hp->Prop) (i:Nat) (x:V) (H3:Hp):Prop:=∃ m',m'<n-i/\CW n l fr Pv (i+1) m' (some x::fr) H3
theorem Jme.intro {n:Nat}{l:Addr}{fr:St}{Pv:Nat->List V->Hp->Prop}{i:Nat}{x y:V}{H4:Hp}{ys:List V}(hi:i<n) (h1:H4 l=some (.lst ys)) (h2:ys.length<sizeLine) (h3:Pv (i+1) (ys++[y]) (upd H4 l (.lst (ys++[y])))):Jme n l fr Pv i x y H4:=
 ⟨ys,h1,h2,n-(i+1),by omega,by omega,rfl,_,_,rfl,Jh,h3⟩
theorem J2z {J:It}{tt:TT}{te:TE}{l:Addr}{fr:St}{o0:Option V}{H0:Hp}{Q:Hp->Prop}(n:Nat) (Pv:Nat->List V->Hp->Prop) (h0:Pv 0 [] H0) (hl0:H0 l=some (.lst []))
 (hgo:∀ i H ys,i<n->Pv i ys H->H l=some (.lst ys)->J.go i H) (hstop:∀ H ys,Pv n ys H->H l=some (.lst ys)->J.stop n H)
 (step:∀ i H ys x H',i<n->Pv i ys H->H l=some (.lst ys)->J.yld i H x H'->tt (some x::fr) H' λ c H3=>
  if c=true then te (some x::fr) H3 (Jme n l fr Pv i x) else J2y n l fr Pv i x H3)
 (fin:∀ H ys,Pv n ys H->H l=some (.lst ys)->Q H) :
 Jbm J (W6 0) tt te l (o0::fr) H0 Q:=by
 refine ⟨CW n l fr Pv,⟨n,Q9 _,rfl,o0,[],rfl,hl0,h0⟩,?_⟩
 rintro i m σ H ⟨hi,rfl,o,ys,rfl,hl,hp⟩
 rcases U8 i n with h | h
 . exact .inr ⟨hgo i H ys h hp hl,λ x H' y=>step i H ys x H' h hp hl y⟩
 . have e:i=n:=by omega
   subst e
   exact .inl ⟨hstop H ys hp hl,fin H ys hp hl⟩
theorem J02 {σ:St}{H:Hp}{P:Bool->Hp->Prop}(h:P true H):Jdf σ H P:=h
def Jt2 (H1:Hp) (fe:Nat->V) (i:Nat) (ys:List V) (H:Hp):Prop:=Kp [] H1 H/\ys=(Qf i).map fe
theorem Jot {H1 H H4:Hp}{fe:Nat->V}{n i:Nat}{l:Addr}{fr:St}{x:V}(hi:i<n) (hn:n<=sizeLine) (hl0:H1 l=none) (h:Jt2 H1 fe i ((Qf i).map fe) H) (hl:H l=some (.lst ((Qf i).map fe))) (k:Kp [] H H4) :
 Jme n l fr (Jt2 H1 fe) i x (fe i) H4:=by
 refine Jme.intro hi (k _ _ hl (by simp)) (by simp;omega) ⟨λ b o e _=>?_,?_⟩
 . rw [Ji (Jk e hl0)];exact k _ _ (h.1 _ _ e (by simp)) (by simp)
 . rw [Uv,Qu];rfl
theorem Jrr {K:Qc}{a:Addr}{xs:List V}{te:TE}{l:Addr}{fr:St}{o0:Option V}{H1:Hp}{Q:Hp->Prop}(fe:Nat->V) (hq:SqT K H1 a xs) (hz:xs.length<=sizeLine) (hl0:H1 l=none)
 (step:∀ i x H (N:VK),xs[i]? = some x->Kp [] H1 H->(∀ H4,Kp [] H H4->N (fe i) H4)->te (some x::fr) H N)
 (fin:∀ H,Kp [] H1 H->H l=some (.lst ((Qf xs.length).map fe))->Q H) :
 Jbm (Itt K a) (W6 0) Jdf te l (o0::fr) (upd H1 l (.lst [])) Q:=by
 have hs:∀ {H:Hp},Kp [] H1 H->SqT K H a xs:=λ {H} k=>by
  rcases hq with (q | ⟨o,q⟩) | q
  . exact .inl (.inl (k _ _ q (by simp)))
  . exact .inl (.inr ⟨o,k _ _ q (by simp)⟩)
  . exact .inr q
 refine J2z xs.length (Jt2 H1 fe) ⟨Kp.new hl0 _,rfl⟩ Jh (λ i H ys hi p _=>⟨xs,xs[i],hs p.1,Qx hi⟩) (λ H ys p _=>⟨xs,hs p.1,Qn _⟩) (λ i H ys x H' hi p hl y=>?_) λ H ys p hl=>?_
 . obtain ⟨rfl,hx⟩:=y
   obtain ⟨k1,rfl⟩:=p
   refine J02 ?_
   exact Z6 (step i x H' _ (hx xs (hs k1)) k1 λ H4 k=>Jot hi hz hl0 ⟨k1,rfl⟩ hl k)
 . obtain ⟨k1,rfl⟩:=p
   exact fin H k1 hl
section
variable {X:Cx}
theorem V8 (hu:X.A.units+64<Ycv):OpR X (compareOp .NotEq) J2x:=by
 intro pins s σ H x y v u Q I rx ry h
 obtain ⟨ex,da,db,r1,r2,c1,c2,hd,q⟩:=h
 obtain ⟨as,h1⟩:=r1.reads I.hok rx
 obtain ⟨bs,h2⟩:=r2.reads I.hok ry
 exact SeqAt.compareNe_reads h1 h2 c1 c2 (by omega) ⟨.bl (!Ua da db),H,I,rfl,q⟩
theorem Jrs:OpR X (compareOp .IsNot) (λ x y H Q=>∃ a b,x = .bl a/\y = .bl b/\Q (.bl (!(a==b))) H):=by
 intro pins s σ H x y v u Q I rx ry h
 obtain ⟨a,b,rfl,rfl,q⟩:=h
 cases rx
 cases ry
 exact isnot_bool ⟨.bl (!(a==b)),H,I,rfl,q⟩
end
theorem Jej:fillsNumberSlot (.type "tuple") "mul" = pure false:=
 PySem.fillsNumberSlot_seq (id:="tuple.__mul__") (r:=some (.builtin "tuple.__rmul__")) J60.lookup (by decide +kernel) Yav.lookup (by decide +kernel)
theorem Jkb:seqRepeat? (.type "tuple")=pure (some (.builtin "tuple.__mul__")):=by
 unfold seqRepeat?
 rw [Yaw (T:="tuple") (name:="__mul__") (id:="tuple.__mul__") J60.lookup (by decide +kernel),Yaw (T:="tuple") (name:="__rmul__") (id:="tuple.__rmul__") Yav.lookup (by decide +kernel)]
 rfl
theorem Jgn (a:Int) (t:Tok) (l:Addr) (items:Array Ycf) (n:Nat) (dd:Option Addr) (sl:Array (Option Ycf)) :
 Meets (Builtin.«int.__rmul__» ⟨[.int a t,.ref l],[]⟩) (λ _ R s=>s.heap.get? l=some { cls:=.type "tuple",dict:=dd,data:=.seq items n,slots:=sl }/\R (.ok (.ret Value.notImplemented)) s):=
 .of_wp λ prog w A R s h=>by obtain ⟨hp,g,d,tk,os⟩:=s;obtain ⟨hl,h⟩:=h;wp_walk;exact ⟨_,rfl,h⟩
theorem Jou (l:Addr) (items:Array Ycf) (n:Nat) (dd:Option Addr) (sl:Array (Option Ycf)) (u:Tok) :
 Meets (Builtin.«tuple.__mul__» ⟨[.ref l,.int 1 u],[]⟩) (λ _ R s=>s.heap.get? l=some { cls:=.type "tuple",dict:=dd,data:=.seq items n,slots:=sl }/\R (.ok (.ret (Xc l))) s):=
 .of_wp λ prog w A R s h=>by
  obtain ⟨hp,g,d,tk,os⟩:=s;obtain ⟨hl,h⟩:=h
  have f1:=J83
  wp_walk using J54 hl
  exact ⟨_,rfl,h⟩
theorem Jov (l:Addr) (items:Array Ycf) (n:Nat) (dd:Option Addr) (sl:Array (Option Ycf)) (x:Int) (u:Tok) (he:¬ items.isEmpty=true) (h0:x<=0) (h1:-(2^63)<=x) :
 Meets (Builtin.«tuple.__mul__» ⟨[.ref l,.int x u],[]⟩) (λ _ R s=>s.heap.get? l=some { cls:=.type "tuple",dict:=dd,data:=.seq items n,slots:=sl }/\R (.ok (.ret (Xc s.heap.objs.size))) { s with heap:=s.heap.push { cls:=J6u "tuple",data:=J52 #[] },toks:=s.toks }):=
 .of_wp λ prog w A R s h=>by
  obtain ⟨hp,g,d,tk,os⟩:=s;obtain ⟨hl,h⟩:=h
  have f1:=J83
  have c0:¬ (decide (x < -2^63)||decide (x≥2^63))=true:=by simp;omega
  have c1:¬ (items.isEmpty||x==1)=true:=by
   have:¬ x=1:=by omega
   simp_all
  have c2:(decide (x<=0)||items.isEmpty)=true:=by simp [h0]
  wp_walk using J54 hl
  refine Yc9 (decide_eq_false c0) ?_
  wp_walk using J54 hl
  refine Yc9 (decide_eq_false c1) ?_
  wp_walk using J54 hl
  exact ⟨_,rfl,h⟩
theorem Jow (l:Addr) (items:Array Ycf) (n:Nat) (dd:Option Addr) (sl:Array (Option Ycf)) (x:Int) (u:Tok) (he:¬ items.isEmpty=true) (h0:2<=x) (hz:(items.size:Int)*x<=sizeLine) :
 Meets (Builtin.«tuple.__mul__» ⟨[.ref l,.int x u],[]⟩) (λ _ R s=>s.heap.get? l=some { cls:=.type "tuple",dict:=dd,data:=.seq items n,slots:=sl }/\R (.ok (.ret (Xc s.heap.objs.size))) { s with heap:=s.heap.push { cls:=J6u "tuple",data:=J52 ((Qy x.toNat items).foldl (· ++ ·) #[]) },toks:=s.toks }):=
 .of_wp λ prog w A R s h=>by
  obtain ⟨hp,g,d,tk,os⟩:=s;obtain ⟨hl,h⟩:=h
  have f1:=J83
  have hs:sizeLine=16777216:=Ycl
  have hpos:1<=(items.size:Int):=by
   have:items.size≠0:=λ z=>he (by simpa using z)
   omega
  have hx:x<=(items.size:Int)*x:=by
   have:=J7p hpos (show 0<=x by omega)
   omega
  have c0:¬ (decide (x < -2^63)||decide (x≥2^63))=true:=by simp;omega
  have c1:¬ (items.isEmpty||x==1)=true:=by
   have:¬ x=1:=by omega
   simp_all
  have c2:¬ (decide (x<=0)||items.isEmpty)=true:=by
   have:¬ x<=0:=by omega
   simp_all
  have c3:¬ (items.size:Int)*x>(2^63-1)/8:=by omega
  have c4:¬ Yax ((items.size:Int)*x)=true:=by unfold Yax;simp;omega
  have c5:¬ (J6h (λ x1 x2=>x1++x2) #[] (Qy x.toNat items)).size>sizeLine:=by
   have e:=Jb7 items.toList x.toNat []
   have e2:items.toList.toArray=items:=rfl
   rw [J50,e2] at e
   rw [e,Q1,Jdb]
   have e3:(((x.toNat*items.toList.length:Nat)):Int)=(items.size:Int)*x:=by
    rw [J84,Xw (by omega),J7q];rfl
   omega
  wp_walk using J54 hl
  refine Yc9 (decide_eq_false c0) ?_
  wp_walk using J54 hl
  refine Yc9 (decide_eq_false c1) ?_
  wp_walk using J54 hl
  refine Yc9 (decide_eq_false c2) ?_
  wp_walk
  refine Yc9 (decide_eq_false c3) ?_
  wp_walk
  refine Yc9 (decide_eq_false c5) ?_
  wp_walk
  exact ⟨_,rfl,h⟩
section
variable {X:Cx}
def Jt3 (K:Qc):R2:=λ x y H Q=>∃ a k xs,x = .ref a/\y = .int k/\SqT K H a xs/\xs≠[]/\-(2^63)<=k/\(xs.length:Int)*k<=sizeLine /\
 (k=1->Q (.ref a) H)/\(k≠1->∀ p,H p=none->Q (.ref p) (upd H p (.tup (Qy k.toNat xs).flatten)))
theorem Jw9:OpR X (binaryOp .Mult) (Jt3 X.K):=by
 intro pins s σ H x y v u Q I rx ry h
 obtain ⟨a,k,xs,rfl,rfl,hq,hne,h1,hz,q1,q2⟩:=h
 cases rx
 obtain ⟨t,rfl⟩:=ry
 obtain ⟨its,r,pl,hz'⟩:=I.tuple hq
 have hl:=r.length
 obtain ⟨⟨cls,dd,data,sl⟩,ho,hc,n,hd⟩:=id pl
 simp only at hc hd
 subst hc hd
 have hne':¬ its.toArray.isEmpty=true:=by
  cases xs with
  | nil=>exact absurd rfl hne
  | cons z zs=>cases its with
   | nil=>simp at hl
   | cons _ _=>simp
 have f0:∀ m:Nat,J6h (λ x1 x2=>x1++x2) #[] (Qy m its.toArray)=(Qy m its).flatten.toArray:=λ m=>by
  have:=Jb7 its m []
  rw [J50] at this
  exact this
 have road:∀ {R:Ycf->Ycg->Prop},Ych (model X.prog X.w) X.A (call (.builtin "tuple.__mul__") [.ref a,.int k t]) R X.xe s->Ych (model X.prog X.w) X.A (binaryOp .Mult (.ref a) (.int k t)) R X.xe s:=λ {R} hw=>
  Yd2 (T:="tuple") (U:="int") (by decide) ⟨_,ho,rfl⟩ (λ s'=>typeIs_int s' k t) Jej PySem.F.fills_int_mul Yay Jkb PySem.F.slot_int_index.lookup
   (call_meets Yay (typeIs_int s k t) PySem.F.entry_int_rmul (PySem.F.args_int_rmul_2 _ _) (Jgn k t a its.toArray n dd sl) ⟨ho,rfl,⟨_,ho,rfl⟩,hw⟩)
 refine road ?_
 have new:∀ (zs:List V) (ws:List Ycf),J9 zs ws->zs.length<=sizeLine->Q (.ref s.heap.objs.size) (upd H s.heap.objs.size (.tup zs)) ->
  EP X pins σ Q (.ref s.heap.objs.size) { s with heap:=s.heap.push { cls:=.type "tuple",data:=.seq ws.toArray },toks:=s.toks }:=λ zs ws rv hz q=>
  ⟨.ref s.heap.objs.size,_,I.laid (t':=s.toks) (λ b u e=>Qk _ e) (Qn _) (show Y1 _ _ _ _ _ (.tup zs) from ⟨hz,ws,rv,_,Q5 _ rfl,rfl,0,rfl⟩),rfl,q⟩
 have hs:sizeLine=16777216:=Ycl
 by_cases k1:k=1
 . subst k1
   exact call_meets J60 ⟨_,ho,rfl⟩ J85 (J86 _ _) (Jou a its.toArray n dd sl t) ⟨ho,.ref a,H,I,rfl,q1 rfl⟩
 . by_cases k0:k<=0
   . refine call_meets J60 ⟨_,ho,rfl⟩ J85 (J86 _ _) (Jov a its.toArray n dd sl k t hne' k0 h1) ⟨ho,?_⟩
     have:=q2 k1 _ I.fresh
     rw [show k.toNat=0 by omega] at this
     exact new [] [] .nil (by simp) this
   . have hz2:((its.toArray.size:Nat):Int)*k<=sizeLine:=by rw [Q1,<- hl];exact hz
     refine call_meets J60 ⟨_,ho,rfl⟩ J85 (J86 _ _) (Jow a its.toArray n dd sl k t hne' (by omega) hz2) ⟨ho,?_⟩
     rw [f0]
     refine new _ _ (r.rep k.toNat) ?_ (q2 k1 _ I.fresh)
     rw [Jdb]
     have e:(((k.toNat*xs.length:Nat)):Int)=(xs.length:Int)*k:=by
      rw [J84,Xw (by omega),J7q]
     omega
end
noncomputable def Jdi (d:Yce) (T:String):Bool:=Jbo d==T||(Jbo d == "bool" && T == "int")
theorem J20 (K:Qc) (d:Yce) (T:String) (hT:T = "int"\/T = "bool"\/T = "str"\/T = "tuple"\/T = "list"):J8l K (.type (Jbo d)) (.type T)=some (Jdi d T):=by
 rcases hT with rfl | rfl | rfl | rfl | rfl<;>cases d<;>first | rfl | kernel_rfl
theorem Jgo {X:Cx}:Wz X (.builtin "isinstance") (λ xs H Q=>∃ ex d x T,xs=[x,.ty T]/\Rep ex H d x/\(T = "int"\/T = "bool"\/T = "str"\/T = "tuple"\/T = "list")/\Q (.bl (Jdi d T)) H):=by
 intro pins s σ H xs us Q I r h
 obtain ⟨ex,d,x,T,rfl,rd,hT,q⟩:=h
 exact Jmd pins s σ H _ us Q I r ⟨x,T,_,_,rfl,rd.tyOf,J20 _ _ _ hT,q⟩
theorem Jxa:("int":String) = "int"\/("int":String) = "bool"\/("int":String) = "str"\/("int":String) = "tuple"\/("int":String) = "list":=.inl rfl
theorem Jt4:("bool":String) = "int"\/("bool":String) = "bool"\/("bool":String) = "str"\/("bool":String) = "tuple"\/("bool":String) = "list":=.inr (.inl rfl)
theorem Jrt:("tuple":String) = "int"\/("tuple":String) = "bool"\/("tuple":String) = "str"\/("tuple":String) = "tuple"\/("tuple":String) = "list":=.inr (.inr (.inr (.inl rfl)))
theorem Jek {x y:Int}(hx:0<=x) (hx2:x<2^64) (hy:0<=y) (hy2:y<2^64):0<=J6d x y/\J6d x y<2^64:=by
 have e1:Yaz x y=((x.toNat &&& y.toNat:Nat):Int):=by
  show J87 x y=_
  unfold J87
  rw [decide_eq_true hx,decide_eq_true hy]
 have e2:Ya0 x y=((x.toNat ||| y.toNat:Nat):Int):=by
  show Spec.bitOr x y=_
  unfold Spec.bitOr J87 Spec.bitNot
  rw [decide_eq_false (show ¬ 0<=-x-1 by omega),decide_eq_false (show ¬ 0<=-y-1 by omega)]
  simp only
  rw [show (-(-x-1)-1)=x by omega,show (-(-y-1)-1)=y by omega]
  omega
 have e:J6d x y=((x.toNat ||| y.toNat:Nat):Int)-((x.toNat &&& y.toNat:Nat):Int):=by
  show Ya0 x y-Yaz x y=_
  rw [e1,e2]
 have h1:x.toNat ||| y.toNat<2^64:=Nat.or_lt_two_pow (by omega) (by omega)
 have h2:x.toNat &&& y.toNat<=x.toNat:=Nat.and_le_left
 have h3:x.toNat<=x.toNat ||| y.toNat:=Nat.left_le_or
 rw [e]
 omega
end L2
namespace My
open L2
noncomputable def Jel:Yce->Bool
 | .int _=>true
 | _=>false
noncomputable def Jru (d:Yce) (n:Int):Bool:=match d with
 | .tuple xs=>decide ((xs.length:Int)=n)
 | _=>false
def Jfn:Sp:=λ vs H Q _=>∃ ex d v,vs=[v]/\Rep ex H d v/\Q (.bl (Jel d)) H
def Jt5:Sp:=λ vs H Q _=>∃ ex d v n,vs=[v,.int n]/\Rep ex H d v/\Q (.bl (Jru d n)) H
theorem Jfo {ex:List Addr}{H:Hp}{ds:List Yce}{v:V}(r:Rep ex H (.tuple ds) v):∃ a xs,v = .ref a/\H a=some (.tup xs)/\a∉ex/\xs.length<=sizeLine/\Reps ex H ds xs:=by
 cases r with | tuple e n z rs=>exact ⟨_,_,rfl,e,n,z,rs⟩
theorem J03 {ex:List Addr}{H:Hp}{a b c:Yce}{vs:List V}(r:Reps ex H [a,b,c] vs):∃ x y z,vs=[x,y,z]/\Rep ex H a x/\Rep ex H b y/\Rep ex H c z:=by
 cases r with | cons r1 r=>cases r with | cons r2 r=>cases r with | cons r3 r=>cases r;exact ⟨_,_,_,rfl,r1,r2,r3⟩
theorem Jmf {ex:List Addr}{H:Hp}{a b c:Yce}{v:V}(r:Rep ex H (.tuple [a,b,c]) v):∃ at' x y z,v = .ref at'/\H at'=some (.tup [x,y,z])/\at'∉ex/\Rep ex H a x/\Rep ex H b y/\Rep ex H c z:=by
 obtain ⟨at',xs,rfl,e,n,_,rs⟩:=Jfo r
 obtain ⟨x,y,z,rfl,r1,r2,r3⟩:=J03 rs
 exact ⟨at',x,y,z,rfl,e,n,r1,r2,r3⟩
theorem Jfp {ex:List Addr}{H:Hp}{i:Int}{v:V}(r:Rep ex H (.int i) v):v = .int i:=by cases r;rfl
theorem Ze {c:Bool}{A B:Prop}(h1:c=true->A) (h2:c=false->B):if c=true then A else B:=by
 cases c with
 | true=>exact h1 rfl
 | false=>exact h2 rfl
theorem Jox {d:Yce}(h:Jel d=true):∃ i,d = .int i:=by
 cases d with
 | int i=>exact ⟨i,rfl⟩
 | _=>cases h
theorem Jmg {d:Yce}(h:Jdi d "tuple" = true):∃ xs,d = .tuple xs:=by
 cases d with
 | tuple xs=>exact ⟨xs,rfl⟩
 | _=>simp [Jdi,Jbo] at h
theorem Jid {d:Yce}(h:Jdi d "tuple" = false):∀ xs,d≠.tuple xs:=by
 rintro xs rfl
 simp [Jdi,Jbo] at h
theorem Jrv {α:Type}(f:α->Bool) (xs:List α) (dflt:α):((Qf xs.length).map λ i=>f (xs.getD i dflt)).all id=xs.all f:=by
 rw [X0]
 simp only [Ub,Ql,Xj]
 constructor
 . intro h x hx
   obtain ⟨i,hi,rfl⟩:=Uz.mp hx
   have:=h _ ⟨i,hi,rfl⟩
   rw [Q3,Qx hi] at this
   exact this
 . rintro h b ⟨i,hi,rfl⟩
   rw [Q3,Qx hi]
   exact h _ (Uh hi)
theorem J04 (f:Nat->Bool) (l:List Nat):(l.map λ i=>V.bl (f i))=(l.map f).map V.bl:=by simp
noncomputable def Jgp:Option Int->List (Key×V)
 | none=>[]
 | some m=>[(Qv "most",V.int m)]
noncomputable def Zh (c:Addr) (rest seed:Int) (turn:Int×Option Int):List (Key×V):=(Qv "cells",V.ref c)::(Qv "rest",V.int rest)::(Qv "seed",V.int seed)::(Qv "turn",V.int turn.1)::Jgp turn.2
structure Jar (H:Hp) (p c:Addr):Prop where
 ex:∃ (ns:List Int) (rest seed:Int) (turn:Int×Option Int),H p=some (.dK (Zh c rest seed turn))/\H c=some (.lst (ns.map V.int))/\ns.length<=63/\0<=seed/\seed<2^64
theorem Jar.fresh {H:Hp}{p c l:Addr}(J:Jar H p c) (h:H l=none):l∉[p,c]:=by
 obtain ⟨ns,r,s,t,h1,h2,_⟩:=J.ex
 intro z
 rcases Qg.mp z with rfl | z
 . rw [h] at h1;cases h1
 . cases Qm.mp z;rw [h] at h2;cases h2
theorem Joy:¬ ((Qv ("cells":Str):Key)=(Qv ("rest":Str):Key)):=by intro h;injection h with h;revert h;decide +kernel
theorem Joz:¬ ((Qv ("cells":Str):Key)=(Qv ("seed":Str):Key)):=by intro h;injection h with h;revert h;decide +kernel
theorem Jo0:¬ ((Qv ("cells":Str):Key)=(Qv ("turn":Str):Key)):=by intro h;injection h with h;revert h;decide +kernel
theorem Jkc:¬ ((Qv ("rest":Str):Key)=(Qv ("seed":Str):Key)):=by intro h;injection h with h;revert h;decide +kernel
theorem Jkd:¬ ((Qv ("rest":Str):Key)=(Qv ("turn":Str):Key)):=by intro h;injection h with h;revert h;decide +kernel
theorem Jke:¬ ((Qv ("seed":Str):Key)=(Qv ("turn":Str):Key)):=by intro h;injection h with h;revert h;decide +kernel
theorem J05:¬ ((Qv ("rest":Str):Key)=(Qv ("most":Str):Key)):=by intro h;injection h with h;revert h;decide +kernel
theorem J06:¬ ((Qv ("seed":Str):Key)=(Qv ("most":Str):Key)):=by intro h;injection h with h;revert h;decide +kernel
theorem J07:¬ ((Qv ("turn":Str):Key)=(Qv ("most":Str):Key)):=by intro h;injection h with h;revert h;decide +kernel
section
variable (c:Addr) (r s:Int) (t:Int×Option Int) (x:Int)
theorem Jgq {k:Key}{v:V}(h:¬ ((Qv ("most":Str):Key)=k)):(Jgp t.2).map (λ kv=>if kv.1=k then (kv.1,v) else kv)=Jgp t.2:=by
 cases t.2 with
 | none=>rfl
 | some m=>simp only [Jgp,Qq,Uf,if_neg h]
theorem Jrw:Wj (Zh c r s t) (Qv "cells")=some (V.ref c):=Z8 rfl
theorem Jmh:Wj (Zh c r s t) (Qv "rest")=some (V.int r):=by
 unfold Zh;rw [Yx Joy];exact Z8 rfl
theorem Jmi:Wj (Zh c r s t) (Qv "seed")=some (V.int s):=by
 unfold Zh;rw [Yx Joz,Yx Jkc];exact Z8 rfl
theorem Jmj:Wj (Zh c r s t) (Qv "turn")=some (V.int t.1):=by
 unfold Zh;rw [Yx Jo0,Yx Jkd,Yx Jke];exact Z8 rfl
theorem Jkf:Zo (Zh c r s t) (Qv "rest") (V.int x)=Zh c x s t:=by
 unfold Zo
 rw [if_pos (by rw [Jan,Jmh];rfl)]
 unfold Zh
 simp only [Qq,Uf,if_neg Joy,if_neg (Qj Jkc),if_neg (Qj Jkd),if_true,Jgq t (Qj J05)]
theorem Jkg:Zo (Zh c r s t) (Qv "seed") (V.int x)=Zh c r x t:=by
 unfold Zo
 rw [if_pos (by rw [Jan,Jmi];rfl)]
 unfold Zh
 simp only [Qq,Uf,if_neg Joz,if_neg Jkc,if_neg (Qj Jke),if_true,Jgq t (Qj J06)]
theorem Jkh:Zo (Zh c r s t) (Qv "turn") (V.int x)=Zh c r s (x,t.2):=by
 unfold Zo
 rw [if_pos (by rw [Jan,Jmj];rfl)]
 unfold Zh
 simp only [Qq,Uf,if_neg Jo0,if_neg Jkd,if_neg Jke,if_true,Jgq t (Qj J07)]
end
noncomputable abbrev kC:Key:=Qv ("cells":Str)
noncomputable abbrev kR:Key:=Qv ("rest":Str)
noncomputable abbrev kS:Key:=Qv ("seed":Str)
noncomputable abbrev kT:Key:=Qv ("turn":Str)
theorem Jt6 (l:Addr) (r s t:Int):Jcs [] [(kC,V.ref l),(kR,V.int r),(kS,V.int s),(kT,V.int t)]=Zh l r s (t,none):=by
 have e1:Zo ([]:List (Key×V)) kC (V.ref l)=[]++[(kC,V.ref l)]:=Jdd _ Jdc
 have e2:Zo ([(kC,V.ref l)]:List (Key×V)) kR (V.int r)=[(kC,V.ref l)]++[(kR,V.int r)]:=Jdd _ (by rw [Yx Joy];exact Jdc)
 have e3:Zo ([(kC,V.ref l),(kR,V.int r)]:List (Key×V)) kS (V.int s)=[(kC,V.ref l),(kR,V.int r)]++[(kS,V.int s)]:=Jdd _ (by rw [Yx Joz,Yx Jkc];exact Jdc)
 have e4:Zo ([(kC,V.ref l),(kR,V.int r),(kS,V.int s)]:List (Key×V)) kT (V.int t)=[(kC,V.ref l),(kR,V.int r),(kS,V.int s)]++[(kT,V.int t)]:=Jdd _ (by rw [Yx Jo0,Yx Jkd,Yx Jke];exact Jdc)
 unfold Jcs
 simp only [J6h]
 rw [e1,J50,e2,J55,J50,e3,J55,J55,J50,e4]
 rfl
structure JarX (H:Hp) (p c:Addr) (ns:List Int) (r sd:Int) (tn:Int×Option Int):Prop where
 d:H p=some (.dK (Zh c r sd tn))
 l:H c=some (.lst (ns.map V.int))
theorem Jem {c:Addr}{r sd:Int}(tn:Int×Option Int):(Zh c r sd tn).length<sizeLine:=by
 have:(Zh c r sd tn).length<=5:=by
  unfold Zh
  cases tn.2<;>simp [Jgp]
 exact J6y this (by decide)
theorem JarX.ne {H:Hp}{p c:Addr}{ns:List Int}{r sd:Int}{tn:Int×Option Int}(J:JarX H p c ns r sd tn):p≠c:=Jy7 J.d J.l (by intro z;cases z)
theorem JarX.new {H:Hp}{p c l:Addr}{ns:List Int}{r sd:Int}{tn:Int×Option Int}{o:HO}(J:JarX H p c ns r sd tn) (h:H l=none):JarX (upd H l o) p c ns r sd tn:=
 ⟨by rw [Ji (Jk J.d h)];exact J.d,by rw [Ji (Jk J.l h)];exact J.l⟩
theorem JarX.put {H:Hp}{p c:Addr}{ns:List Int}{r sd:Int}{tn:Int×Option Int}(J:JarX H p c ns r sd tn) (r' sd':Int) (tn':Int×Option Int):JarX (upd H p (.dK (Zh c r' sd' tn'))) p c ns r' sd' tn':=
 ⟨Jh,by rw [Ji (Qj J.ne)];exact J.l⟩
theorem JarX.cut {H:Hp}{p c:Addr}{ns:List Int}{r sd:Int}{tn:Int×Option Int}(J:JarX H p c ns r sd tn) (ms:List Int):JarX (upd H c (.lst (ms.map V.int))) p c ms r sd tn:=
 ⟨by rw [Ji J.ne];exact J.d,Jh⟩
theorem JarX.cells {H:Hp}{p c:Addr}{ns:List Int}{r sd:Int}{tn:Int×Option Int}(J:JarX H p c ns r sd tn):V7 H p (V.str "cells") (some (V.ref c)):=by rw [<- Jrw c r sd tn];exact V7.k (k:=Qv "cells") J.d
theorem JarX.rest {H:Hp}{p c:Addr}{ns:List Int}{r sd:Int}{tn:Int×Option Int}(J:JarX H p c ns r sd tn):V7 H p (V.str "rest") (some (V.int r)):=by rw [<- Jmh c r sd tn];exact V7.k (k:=Qv "rest") J.d
theorem JarX.seed {H:Hp}{p c:Addr}{ns:List Int}{r sd:Int}{tn:Int×Option Int}(J:JarX H p c ns r sd tn):V7 H p (V.str "seed") (some (V.int sd)):=by rw [<- Jmi c r sd tn];exact V7.k (k:=Qv "seed") J.d
theorem JarX.turn {H:Hp}{p c:Addr}{ns:List Int}{r sd:Int}{tn:Int×Option Int}(J:JarX H p c ns r sd tn):V7 H p (V.str "turn") (some (V.int tn.1)):=by rw [<- Jmj c r sd tn];exact V7.k (k:=Qv "turn") J.d
theorem JarX.pRest {H:Hp}{p c:Addr}{ns:List Int}{r sd:Int}{tn:Int×Option Int}(J:JarX H p c ns r sd tn) (x:Int):Jfj H p (V.str "rest") (V.int x) (upd H p (.dK (Zh c x sd tn))):=by rw [<- Jkf c r sd tn x];exact Jfj.k (k:=Qv "rest") J.d (Jem tn)
theorem JarX.pSeed {H:Hp}{p c:Addr}{ns:List Int}{r sd:Int}{tn:Int×Option Int}(J:JarX H p c ns r sd tn) (x:Int):Jfj H p (V.str "seed") (V.int x) (upd H p (.dK (Zh c r x tn))):=by rw [<- Jkg c r sd tn x];exact Jfj.k (k:=Qv "seed") J.d (Jem tn)
theorem JarX.pTurn {H:Hp}{p c:Addr}{ns:List Int}{r sd:Int}{tn:Int×Option Int}(J:JarX H p c ns r sd tn) (x:Int):Jfj H p (V.str "turn") (V.int x) (upd H p (.dK (Zh c r sd (x,tn.2)))):=by rw [<- Jkh c r sd tn x];exact Jfj.k (k:=Qv "turn") J.d (Jem tn)
theorem JarX.jar {H:Hp}{p c:Addr}{ns:List Int}{r sd:Int}{tn:Int×Option Int}(J:JarX H p c ns r sd tn) (h1:ns.length<=63) (h2:0<=sd) (h3:sd<2^64):Jar H p c:=⟨ns,r,sd,tn,J.d,J.l,h1,h2,h3⟩
theorem Jar.x {H:Hp}{p c:Addr}(J:Jar H p c):∃ ns r sd tn,JarX H p c ns r sd tn/\ns.length<=63/\0<=sd/\sd<2^64:=by
 obtain ⟨ns,r,sd,tn,h1,h2,h3⟩:=J.ex
 exact ⟨ns,r,sd,tn,⟨h1,h2⟩,h3⟩
def Jmk (H:Hp) (p c:Addr) (e:Option Int):Prop:=∃ ns r sd tn,JarX H p c ns r sd (tn,e)/\ns.length<=63/\0<=sd/\sd<2^64
theorem Jmk.jar {H:Hp}{p c:Addr}{e:Option Int}(J:Jmk H p c e):Jar H p c:=by
 obtain ⟨ns,r,sd,tn,X,h1,h2,h3⟩:=J
 exact X.jar h1 h2 h3
theorem Jar.e {H:Hp}{p c:Addr}(J:Jar H p c):∃ e,Jmk H p c e:=by
 obtain ⟨ns,r,sd,tn,X,h1,h2,h3⟩:=J.x
 exact ⟨tn.2,ns,r,sd,tn.1,X,h1,h2,h3⟩
theorem JarX.jarE {H:Hp}{p c:Addr}{ns:List Int}{r sd tn:Int}{e:Option Int}(J:JarX H p c ns r sd (tn,e)) (h1:ns.length<=63) (h2:0<=sd) (h3:sd<2^64):Jmk H p c e:=⟨ns,r,sd,tn,J,h1,h2,h3⟩
def Jki:Sp:=λ vs H Q _=>∃ (p c:Addr) (many:Int) (e:Option Int),vs=[.ref p,.int many]/\Jmk H p c e/\0<many/\many<2^9000/\∀ (r:Int) (H':Hp),0<=r->r<many->Jmk H' p c e->Kp [p,c] H H'->Q (.int r) H'
theorem Jo1 (n:Nat):Ydh 0 (n+1)=some 0:=by
 unfold Ydh
 simp
theorem Vk {t u:TS}{D:Ends}{σ:L2.St}{H:Hp}(Mid:L2.St->Hp->Prop) (h1:∀ N:L2.St->Hp->Prop,(∀ σ' H',Mid σ' H'->N σ' H')->t { D with nx:=N } σ H) (h2:∀ σ' H',Mid σ' H'->u D σ' H'):Joe t u D σ H:=h1 _ h2
def Jqc:Sp:=λ vs H Q _=>∃ n:Int,vs=[.int n]/\0<=n/\n<2^64/\∀ r:Int,0<=r->r<2^64->Q (.int r) H
def Jqd (K:Qc):Sp:=λ vs H Q _=>∃ (a:Addr) (ns:List Int),vs=[.ref a]/\SqL K H a (ns.map V.int)/\ns.length<=63/\∀ p c H',Kp [] H H'->H p=none->H c=none->Jar H' p c->Q (.ref p) H'
theorem Jrx (ns:List Int) (lo hi:Option Int):∃ ms:List Int,Jia (ns.map V.int) lo hi=ms.map V.int/\ms.length<=ns.length:=by
 unfold Jia
 refine ⟨_,by rw [<- J56,<- J61],?_⟩
 rw [U6,U7]
 omega
theorem W2:∀ ns:List Int,Xx (ns.map Qo)=true
 | []=>rfl
 | n::r=>by rw [Qq];unfold Xx;rw [W2 r];rfl
theorem Jqe:∀ ns:List Int,Ua (.list (ns.map Qo)) (.list [])=ns.isEmpty
 | []=>rfl
 | _::_=>rfl
mutual
theorem Rep.mono {ex ex':List Addr}{H:Hp}(h:∀ b∈ex,b∈ex'):∀ {d:Yce}{v:V},Rep ex' H d v->Rep ex H d v
 | _,_,.none=>.none
 | _,_,.bool b=>.bool b
 | _,_,.int i=>.int i
 | _,_,.str x=>.str x
 | _,_,.tuple e n z r=>.tuple e (λ q=>n (h _ q)) z (Reps.mono h r)
 | _,_,.list e n z r=>.list e (λ q=>n (h _ q)) z (Reps.mono h r)
theorem Reps.mono {ex ex':List Addr}{H:Hp}(h:∀ b∈ex,b∈ex'):∀ {ds:List Yce}{vs:List V},Reps ex' H ds vs->Reps ex H ds vs
 | _,_,.nil=>.nil
 | _,_,.cons r t=>.cons (Rep.mono h r) (Reps.mono h t)
end
theorem Kp.free {H H':Hp}{ex:List Addr}{l:Addr}(k:Kp ex H H') (h:H' l=none) (hn:l∉ex):H l=none:=by
 cases e:H l with
 | none=>rfl
 | some o=>rw [k l o e hn] at h;cases h
theorem Jt7 {K:Qc}{a:Addr}{k:Int}{xs:List V}{H:Hp}{Q:VK}(e:H a=some (.tup xs)) (hne:xs≠[]) (h1:-(2^63)<=k) (hz:(xs.length:Int)*k<=sizeLine)
 (h:∀ t H',Kp [] H H'->H' t=some (.tup (Qy k.toNat xs).flatten)->(t=a\/H t=none)->Q (.ref t) H'):Jt3 K (.ref a) (.int k) H Q:=by
 refine ⟨a,k,xs,rfl,rfl,SqT.of e,hne,h1,hz,λ k1=>?_,λ _ p hp=>h p _ (Kp.new hp _) Jh (.inr hp)⟩
 subst k1
 exact h a H .refl (by rw [e];simp) (.inl rfl)
theorem Vm {n:Nat}{i:Int}(h0:0<=i) (h1:i<n):ixN n i=some i.toNat:=by
 unfold ixN;rw [if_pos h0,if_pos h1]
def Jml (K:Qc):Sp:=λ vs H Q _=>∃ (a:Addr) (ns:List Int),vs=[.ref a]/\SqL K H a (ns.map V.int)/\ns.length<=63/\∀ H',Q (.bl true) H'
theorem Jbp {α:Type}{l:List α}(h:l.length<=1000):l.length<=sizeLine:=J7f (Jrq h)
end My
namespace L2
theorem Bn (o i:Expr) (pos:Pos) (env:Env) (v:Ycf):assign (.Subscript o i pos) env v=(do
 let ov <- Ycs [v] (eval o env)
 let iv <- Ycs [v,ov] (eval i env)
 Yc3 pos
 Ycs [v,ov,iv] (setItem ov iv v)
 release (match i with | .Slice _ _ none _=>[iv,v,ov] | _=>[v,ov,iv]) []):=rfl
theorem V9 (o:Expr) (x:Str) (p pos:Pos) (env:Env) (v:Ycf):assign (.Subscript o (.Name x p) pos) env v=(do
 let ov <- Ycs [v] (eval o env)
 let iv <- Ycs [v,ov] (eval (.Name x p) env)
 Yc3 pos
 Ycs [v,ov,iv] (setItem ov iv v)
 release [v,ov,iv] []):=Bn _ _ _ _ _
section
variable {X:Cx}{es:List Expr}{te:TE}{t:TA}{pos:Pos}
theorem Bo {xs:List Expr}{k:Nat}(ha:PE X (.Tuple xs k pos) te) (hr:PA X es t):PA X (.Tuple xs k pos::es) (Zd te t):=Bf ha hr rfl
theorem Y3 {k:Const}{j:Nat}(ha:PE X (.Constant k j pos) te) (hr:PA X es t):PA X (.Constant k j pos::es) (Zd te t):=Bf ha hr rfl
theorem Jc {x:Str}(ha:PE X (.Name x pos) te) (hr:PA X es t):PA X (.Name x pos::es) (Zd te t):=Bf ha hr rfl
theorem Bg {f:Expr}{xs:List Expr}{ks:List Yc6}(ha:PE X (.Call f xs ks pos) te) (hr:PA X es t):PA X (.Call f xs ks pos::es) (Zd te t):=Bf ha hr rfl
theorem V4 {a b:Expr}{op:Ydi}(ha:PE X (.BinOp a op b pos) te) (hr:PA X es t):PA X (.BinOp a op b pos::es) (Zd te t):=Bf ha hr rfl
theorem Jgr {a:Expr}{op:UnaryOp}(ha:PE X (.UnaryOp op a pos) te) (hr:PA X es t):PA X (.UnaryOp op a pos::es) (Zd te t):=Bf ha hr rfl
theorem J08 {a:Expr}{ops:List CmpOp}{bs:List Expr}(ha:PE X (.Compare a ops bs pos) te) (hr:PA X es t):PA X (.Compare a ops bs pos::es) (Zd te t):=Bf ha hr rfl
theorem Y9 {a b:Expr}(ha:PE X (.Subscript a b pos) te) (hr:PA X es t):PA X (.Subscript a b pos::es) (Zd te t):=Bf ha hr rfl
theorem Y2 {e:Expr}{gs:List Comprehension}{sc:Ycm}(ha:PE X (.ListComp e gs sc pos) te) (hr:PA X es t):PA X (.ListComp e gs sc pos::es) (Zd te t):=Bf ha hr rfl
end
structure PEs (X:Cx) (e:Expr) (t:TE):Prop where
 out:PE X e t
structure PAs (X:Cx) (es:List Expr) (t:TA):Prop where
 out:PA X es t
section
variable {X:Cx}{es:List Expr}{te:TE}{t:TA}{pos:Pos}
theorem Jx {e:Expr}(h:PE X e te):PEs X e te:=⟨h⟩
theorem Ys {k:Nat}(h:PAs X es t):PEs X (.Tuple es k pos) (J0p t):=⟨J0r h.out⟩
theorem Yb (h:PAs X es t):PEs X (.List es pos) (J0q t):=⟨J0s h.out⟩
theorem Yu {i:Int}{j:Nat}:PEs X (.Constant (.int i) j pos) (tC (.int i)):=⟨Je⟩
theorem Jfq {i:Str}{j:Nat}:PEs X (.Constant (.str i) j pos) (tC (.str i)):=⟨Yr⟩
theorem Jo:PAs X [] Jgc:=⟨Jd⟩
theorem Jry {xs:List Expr}{k:Nat}(ha:PEs X (.Tuple xs k pos) te) (hr:PAs X es t):PAs X (.Tuple xs k pos::es) (Zd te t):=⟨Bo ha.out hr.out⟩
theorem Jz {k:Const}{j:Nat}(ha:PEs X (.Constant k j pos) te) (hr:PAs X es t):PAs X (.Constant k j pos::es) (Zd te t):=⟨Y3 ha.out hr.out⟩
theorem Jy {x:Str}(ha:PEs X (.Name x pos) te) (hr:PAs X es t):PAs X (.Name x pos::es) (Zd te t):=⟨Jc ha.out hr.out⟩
theorem W7 {f:Expr}{xs:List Expr}{ks:List Yc6}(ha:PEs X (.Call f xs ks pos) te) (hr:PAs X es t):PAs X (.Call f xs ks pos::es) (Zd te t):=⟨Bg ha.out hr.out⟩
theorem Jen {a b:Expr}{op:Ydi}(ha:PEs X (.BinOp a op b pos) te) (hr:PAs X es t):PAs X (.BinOp a op b pos::es) (Zd te t):=⟨V4 ha.out hr.out⟩
theorem Jiy {a:Expr}{op:UnaryOp}(ha:PEs X (.UnaryOp op a pos) te) (hr:PAs X es t):PAs X (.UnaryOp op a pos::es) (Zd te t):=⟨Jgr ha.out hr.out⟩
theorem Jqf {a b:Expr}(ha:PEs X (.Subscript a b pos) te) (hr:PAs X es t):PAs X (.Subscript a b pos::es) (Zd te t):=⟨Y9 ha.out hr.out⟩
end
theorem def_mk {K:Qc}{h:Heap}{mg:Str->Option Ycf}{x:Str}{st:Stmt}{ps:List Str}{f:Addr}{oc:Ycf}{od an:Option Addr}{osl:Array (Option Ycf)}{kV doc pm cdv ct:Ycf}(X:K.In h) (G:h.Ns Ycq mg)
 (a:J62 K Ycq x=some (some (.ref f))) (l:K.lookup f=some ⟨oc,od,.func (Ux x x (B1 st) (Vv st) (Jf st) .none kV doc pm an cdv ct),osl⟩) (c:J6v K cdv x=true) (k:J5v K (.ref f)=true)
 (hb:∀ (kV doc pm:Ycf) (an:Option Addr) (cdv ct:Ycf) (us:List Ycf),us.length=ps.length->bindArgs (Ux x x (B1 st) (Vv st) (Jf st) .none kV doc pm an cdv ct) ⟨us,[]⟩=pure (ps.zip us)):Def K mg x st ps:=
 ⟨f,_,J63 X G a,Jos (st:=st) l c k,(Jos (st:=st) l c k).binds hb⟩
end L2
namespace My
open L2
structure Way where
 a:Int
 b:Int
 g:List Int
noncomputable def Zx (w:Way):Yce:=.tuple [.int w.a,.int w.b,.tuple (w.g.map Qo)]
noncomputable def Jq (R P:Int) (ws:List Way):Yce:=.tuple [.int R,.int P,.tuple (ws.map Zx)]
structure WayOk (R P:Int) (w:Way):Prop where
 a0:0<=w.a
 a1:w.a<R
 b0:0<=w.b
 b1:w.b<R
 len:(w.g.length:Int)=P
 small:∀ x∈w.g,-99<=x/\x<=99
structure BookOk (R P:Int) (ws:List Way):Prop where
 r0:1<=R
 r1:R<=12
 p0:1<=P
 p1:P<=6
 len:ws.length<=60
 ways:∀ w∈ws,WayOk R P w
theorem Vn {n:Int}(h:n<=100000):n<2^9000:=Int.lt_of_le_of_lt h (by decide +kernel)
end My
namespace L2
section
variable {α:Type}{a b c d e f x:α}{l:List α}
theorem mm0:a∈a::l:=Qd
theorem mm1:b∈a::b::l:=Qh _ mm0
theorem mm2:c∈a::b::c::l:=Qh _ mm1
theorem mm3:d∈a::b::c::d::l:=Qh _ mm2
theorem mm4:e∈a::b::c::d::e::l:=Qh _ mm3
theorem mm5:f∈a::b::c::d::e::f::l:=Qh _ mm4
theorem mn0 (h:¬ x∈a::l):x≠a:=λ e=>h (e▸mm0)
theorem mn1 (h:¬ x∈a::b::l):x≠b:=λ e=>h (e▸mm1)
theorem mn2 (h:¬ x∈a::b::c::l):x≠c:=λ e=>h (e▸mm2)
theorem mn3 (h:¬ x∈a::b::c::d::l):x≠d:=λ e=>h (e▸mm3)
theorem mn4 (h:¬ x∈a::b::c::d::e::l):x≠e:=λ e=>h (e▸mm4)
theorem mn5 (h:¬ x∈a::b::c::d::e::f::l):x≠f:=λ e=>h (e▸mm5)
end
section
variable {prog:Ycj}{w:Yci}{A:Yck}{E:Ycf->Ycg->Prop}{s:Ycg}
theorem Jo2 {j t:Addr}{i:Nat}{vs:Array Ycf}{y:Ycf}{Q:Ycf->Ycg->Prop}(g:s.heap.IsTupleIter j t i) (gt:s.heap.IsTuple t vs) (gy:vs[i]? = some y)
 (q:∀ h',h'.IsTupleIter j t (i+1)->Xl j s.heap h'->Q y { s with heap:=h' }):Ych (model prog w) A (Ui (.ref j)) Q E s:=by
 obtain ⟨oj,e1,e2,e3⟩:=id g
 obtain ⟨ot,e4,_,n4,e5⟩:=gt
 have goal2:Ych (model prog w) A.in1 (Builtin.«tuple_iterator.__next__» ⟨[.ref j],[]⟩) (λ fin s'=>∃ v,fin = .done (.ret v)/\Ych (model prog w) A (pure v) Q E s') E s:=by
  show Ych _ _ (field (.ref j) 0 >>= _) _ _ s
  refine wpAny_bind (wpAny_field e1 e3 (x:=.ref t) rfl ?_)
  show Ych _ _ (if (Xc t==U5)=true then _ else _) _ _ s;rw [if_neg (show ¬ ((Xc t==U5)=true) from λ z=>J88 z)]
  show Ych _ _ (field (.ref j) 1 >>= _) _ _ s
  refine wpAny_bind (wpAny_field e1 e3 (x:=.int i 0) rfl ?_)
  show Ych _ _ (seqItems? (.ref t) >>= _) _ _ s
  refine wpAny_bind (wpAny_seqItems e4 e5 ?_)
  simp only [Xb,gy]
  refine wpAny_bind (wpAny_setField e1 e3 (by first | exact mm0 | exact mm1 | exact mm2 | exact mm3 | exact mm4 | exact mm5 | simp) (wpAny_pure ⟨y,rfl,wpAny_pure (q _ ⟨_,J8t _ e1 (Obj.isFreed_of_fields (Ya1 e3 _)),(Obj.cls_mapFields ..).trans e2,?_⟩ (J89 ..))⟩))
  rw [Ya1 e3];simp [rawInt]
 unfold Ui
 exact wpAny_bind (Yc1 (name:=J5j "__next__") g.typeIs J7r (wpAny_call_entry J7r g.typeIs Ya2 goal2 (Ya3 _)))
theorem Jrz {j t:Addr}{i:Nat}{vs:Array Ycf}{Q:Ycf->Ycg->Prop}(hh:A.handled=none) (g:s.heap.IsTupleIter j t i) (gt:s.heap.IsTuple t vs) (gy:vs[i]? = none)
 (q:∀ h' e,Heap.ExtBut j s.heap h'->(∃ o,h'.get? e=some o/\o.cls = .type "StopIteration")->E (.ref e) { s with heap:=h' }):Ych (model prog w) A (Ui (.ref j)) Q E s:=by
 obtain ⟨oj,e1,e2,e3⟩:=id g
 obtain ⟨ot,e4,_,n4,e5⟩:=gt
 unfold Ui
 refine wpAny_bind (Yc1 (name:=J5j "__next__") g.typeIs J7r (wpAny_call_entry J7r g.typeIs Ya2 ?_ (Ya3 _)))
 show Ych _ _ (field (.ref j) 0 >>= _) _ _ s
 refine wpAny_bind (wpAny_field e1 e3 (x:=.ref t) rfl ?_)
 show Ych _ _ (if (Xc t==U5)=true then _ else _) _ _ s;rw [if_neg (show ¬ ((Xc t==U5)=true) from λ z=>J88 z)]
 show Ych _ _ (field (.ref j) 1 >>= _) _ _ s
 refine wpAny_bind (wpAny_field e1 e3 (x:=.int i 0) rfl ?_)
 show Ych _ _ (seqItems? (.ref t) >>= _) _ _ s
 refine wpAny_bind (wpAny_seqItems e4 e5 ?_)
 simp only [Xb,gy]
 refine wpAny_bind (wpAny_rule (wpAny_bind (wpAny_setField e1 e3 (by first | exact mm0 | exact mm1 | exact mm2 | exact mm3 | exact mm4 | exact mm5 | simp) ?_)))
 show Ych _ _ (newExc (.type "StopIteration") [] >>= _) _ _ _;refine wpAny_bind ?_;simp only [newExc,newTuple]
 refine wpAny_bind (wpAny_newObj_type ?_ (by size_fits));refine wpAny_bind (m:=firstArgMember _ _) (wpAny_of_eq (a:=U5) (by first | rfl | (simp only [firstArgMember];rfl)) ?_);refine wpAny_newObj_type ?_ (by size_fits)
 simp only [raiseNew];refine wpAny_bind (wpAny_handled ?_);first | rw [show A.in1.handled=none from hh] | rw [hh]
 refine wpAny_bind (wpAny_pure (wpAny_throw (q _ _ (((J89 ..).extBut.push _).push _) ⟨_,Q5 _ rfl,rfl⟩)))
end
def Vo (b:Bool) (h:Heap) (a:Addr) (vs:Array Ycf):Prop:=match b with | true=>h.IsTuple a vs | false=>h.IsList a vs
def ItAt (b:Bool) (h:Heap) (j a:Addr) (i:Nat):Prop:=match b with | true=>h.IsTupleIter j a i | false=>h.IsListIter j a i
theorem Vo.at {b:Bool}{h h':Heap}{a:Addr}{vs:Array Ycf}(x:Vo b h a vs) (k:∀ o,h.get? a=some o->h'.get? a=some o):Vo b h' a vs:=by
 cases b with
 | true=>exact let ⟨o,e,r⟩:=x;⟨o,k o e,r⟩
 | false=>exact let ⟨o,e,r⟩:=x;⟨o,k o e,r⟩
theorem ItAt.at {b:Bool}{h h':Heap}{j a:Addr}{i:Nat}(x:ItAt b h j a i) (k:∀ o,h.get? j=some o->h'.get? j=some o):ItAt b h' j a i:=by
 cases b with
 | true=>exact let ⟨o,e,r⟩:=x;⟨o,k o e,r⟩
 | false=>exact let ⟨o,e,r⟩:=x;⟨o,k o e,r⟩
theorem ItAt.obj {b:Bool}{h:Heap}{j a:Addr}{i:Nat}(x:ItAt b h j a i):∃ o,h.get? j=some o/\∀ v,o.data≠.cell v:=by
 cases b with
 | true=>exact let ⟨o,e,_,d⟩:=x;⟨o,e,λ v z=>by rw [d] at z;cases z⟩
 | false=>exact let ⟨o,e,_,d⟩:=x;⟨o,e,λ v z=>by rw [d] at z;cases z⟩
theorem Wq {prog:Ycj}{w:Yci}{A:Yck}(b:Bool) (hh:A.handled=none) (j a:Addr) (hne:a≠j) (vs:Array Ycf) :
 Ycw prog w A j [j,a] vs.size (λ i v=>vs[i]? = some v) (λ i h=>ItAt b h j a i/\Vo b h a vs):=by
 cases b with
 | false=>exact Draws.list hh j a hne vs
 | true=>exact {
  live:=λ _ _ st=>let ⟨o,ho,_⟩:=st.1;⟨o,ho⟩
  frame:=λ _ _ _ st hk=>⟨ItAt.at (b:=true) st.1 λ o e=>hk j (by first | exact mm0 | exact mm1 | exact mm2 | exact mm3 | exact mm4 | exact mm5 | simp) o e,Vo.at (b:=true) st.2 λ o e=>hk a (by first | exact mm0 | exact mm1 | exact mm2 | exact mm3 | exact mm4 | exact mm5 | simp) o e⟩
  item:=λ i s Q E hi st hQ=>by
   have e:vs[i]? = some vs[i]:=by simp [hi]
   exact Jo2 st.1 st.2 e λ h' g' sb=>hQ _ h' s.toks e ⟨g',Vo.at (b:=true) st.2 λ o z=>(sb.2 a hne).trans z⟩ sb
  done:=λ s Q E st hE=>Jrz hh st.1 st.2 (by first | exact mm0 | exact mm1 | exact mm2 | exact mm3 | exact mm4 | exact mm5 | simp) hE }
section
open AutoSeq1 (wpAny_loadPart')
theorem Jr0 (l:Addr) (vs:Array Ycf) (n:Nat) (dc:Option Addr) (sl:Array (Option Ycf)) :
 Meets (Builtin.«enumerate.__new__» ⟨[.type "enumerate",.ref l],[]⟩) (λ _ R s=>s.heap.get? l=some { cls:=.type "tuple",dict:=dc,data:=.seq vs n,slots:=sl } /\
  R (.ok (.ret (.ref (s.heap.push { cls:=.type "tuple_iterator",data:=.fields #[.ref l,.int 0 0] }).objs.size)))
   { s with heap:=(s.heap.push { cls:=.type "tuple_iterator",data:=.fields #[.ref l,.int 0 0] }).push { cls:=.type "enumerate",data:=.fields #[.none,.bool false,.ref s.heap.objs.size,rawInt 0,.none,.none] } }):=
 .of_wp λ prog w A R s h=>by
  obtain ⟨hp,g,d,tk,os⟩:=s;obtain ⟨hl,h⟩:=h;have hsub:=sub_enumerate
  have hL:Heap.IsTuple (J6m ⟨hp,g,d,tk,os⟩) l vs:=⟨_,hl,rfl,n,rfl⟩
  wp_walk using wpAny_loadPart' hl
  refine wpAny_stack_any λ st=>wpAny_pure ?_
  split
  . rename_i c _ _ _ _ _
    cases (c==J6u "enumerate")<;>(wp_walk using wpAny_loadPart' hl,wpAny_pyIter_tuple hL;exact ⟨_,rfl,h⟩)
  . wp_walk using wpAny_loadPart' hl,wpAny_pyIter_tuple hL
    exact ⟨_,rfl,h⟩
end
theorem Jr1 {prog:Ycj}{w:Yci}{A:Yck}{E:Ycf->Ycg->Prop}{s:Ycg}(b:Bool) {l:Addr}{vs:Array Ycf}{Q:Ycf->Ycg->Prop}(x:Vo b s.heap l vs)
 (q:∀ h',IsEnum h' (s.heap.objs.size+1) s.heap.objs.size 0 .none->ItAt b h' s.heap.objs.size l 0->h'.objs.size=s.heap.objs.size+2 ->
  (∀ c o,s.heap.get? c=some o->h'.get? c=some o)->Q (.ref (s.heap.objs.size+1)) { s with heap:=h' }) :
 Ych (model prog w) A (call (.type "enumerate") [.ref l]) Q E s:=by
 cases b with
 | false=>exact call_enumerate_list x q
 | true=>
  obtain ⟨⟨c,dc,dt,sl⟩,hl,hc,n,hd⟩:=x
  replace hc:c = .type "tuple":=hc
  replace hd:dt = .seq vs n:=hd
  subst hc hd
  refine Ydy F.called_enumerate (by decide) (F.typeCall_enumerate_1 _) (F.newCall_enumerate_1 _) (λ obj=>F.args_object_init_2 obj _) F.entry_enumerate_new (Jr0 l vs n dc sl) ⟨hl,?_⟩
  have hz:(s.heap.push { cls:=.type "tuple_iterator",data:=.fields #[.ref l,.int 0 0] }).objs.size=s.heap.objs.size+1:=Xr ..
  show _/\_
  rw [hz]
  have he:IsEnum ((s.heap.push { cls:=.type "tuple_iterator",data:=.fields #[.ref l,.int 0 0] }).push { cls:=.type "enumerate",data:=.fields #[.none,.bool false,.ref s.heap.objs.size,rawInt 0,.none,.none] }) (s.heap.objs.size+1) s.heap.objs.size 0 .none:=by
   have z:=Q5 (s.heap.push { cls:=.type "tuple_iterator",data:=.fields #[.ref l,.int 0 0] }) (o:={ cls:=.type "enumerate",data:=.fields #[.none,.bool false,.ref s.heap.objs.size,rawInt 0,.none,.none] }) rfl
   rw [hz] at z;exact z
  exact ⟨⟨_,he,rfl⟩,q _ he ⟨_,Qk _ (Q5 _ rfl),rfl,rfl⟩ (by rw [Xr,hz]) λ c o y=>Qk _ (Qk _ y)⟩
noncomputable def Jbq (b:Bool) (l:Addr):Obj:={ cls:=.type (match b with | true=>"tuple_iterator" | false=>"list_iterator"),data:=.fields #[.ref l,.int 0 0] }
theorem Jbr {b:Bool}{h:Heap}{j l:Addr}(e:h.get? j=some (Jbq b l)):ItAt b h j l 0:=by
 cases b with
 | true=>exact ⟨_,e,rfl,rfl⟩
 | false=>exact ⟨_,e,rfl,rfl⟩
theorem W8 {prog:Ycj}{w:Yci}{A:Yck}{E:Ycf->Ycg->Prop}{s:Ycg}{b:Bool}{a:Addr}{vs:Array Ycf}{Q:Ycf->Ycg->Prop}(x:Vo b s.heap a vs)
 (q:Q (.ref s.heap.objs.size) { s with heap:=s.heap.push (Jbq b a) }):Ych (model prog w) A (pyIter (.ref a)) Q E s:=by
 cases b with
 | true=>exact wpAny_pyIter_tuple x q
 | false=>exact wpAny_pyIter_list x q
noncomputable abbrev zz1 (b:Bool) (h:Heap) (l:Addr):Heap:=h.push (Jbq b l)
noncomputable abbrev zz2 (b b':Bool) (h:Heap) (l m:Addr):Heap:=(zz1 b h l).push (Jbq b' m)
noncomputable abbrev zz3 (b b':Bool) (h:Heap) (l m:Addr):Heap:=(zz2 b b' h l m).push { cls:=.type "tuple",data:=.seq #[.ref h.objs.size,.ref (zz1 b h l).objs.size] }
noncomputable abbrev zz4 (b b':Bool) (h:Heap) (l m:Addr):Heap:=(zz3 b b' h l m).push { cls:=.type "tuple",data:=.seq #[.none,.none] }
noncomputable abbrev zz5 (b b':Bool) (h:Heap) (l m:Addr):Heap:=(zz4 b b' h l m).push { cls:=.type "zip",data:=.fields #[.none,.bool false,.bool false,.ref (zz2 b b' h l m).objs.size,.ref (zz3 b b' h l m).objs.size] }
theorem Jxb (b b':Bool) (l m:Addr) (xs ys:Array Ycf) :
 Meets (Builtin.«zip.__new__» ⟨[.type "zip",.ref l,.ref m],[]⟩) (λ _ R s=>Vo b s.heap l xs/\Vo b' s.heap m ys /\
  R (.ok (.ret (.ref (zz4 b b' s.heap l m).objs.size))) { s with heap:=zz5 b b' s.heap l m }):=
 .of_wp λ prog w A R s h=>by
  obtain ⟨hp,g,d,tk,os⟩:=s;obtain ⟨x1,x2,h⟩:=h
  have hsub:=sub_zip
  have x1':Vo b (J6m ⟨hp,g,d,tk,os⟩) l xs:=x1
  have x2':Vo b' (J6m ⟨hp.push (Jbq b l),g,d,tk,os⟩) m ys:=Vo.at x2 λ o e=>Qk _ e
  wp_walk using W8 x1',W8 x2'
  exact ⟨_,rfl,h⟩
structure ZApart (z TI TO j1 j2:Addr) (f1 f2:List Addr):Prop where
 m1:j1∈f1
 m2:j2∈f2
 z1:z∉f1
 z2:z∉f2
 o1:TO∉f1
 o2:TO∉f2
 q1:j1∉f2
 q2:j2∉f1
 iz:TI≠z
 io:TI≠TO
 i1:TI≠j1
 i2:TI≠j2
 oz:TO≠z
theorem ZApart.j1z {z TI TO j1 j2:Addr}{f1 f2:List Addr}(D:ZApart z TI TO j1 j2 f1 f2):j1≠z:=λ e=>D.z1 (e▸D.m1)
theorem ZApart.j2z {z TI TO j1 j2:Addr}{f1 f2:List Addr}(D:ZApart z TI TO j1 j2 f1 f2):j2≠z:=λ e=>D.z2 (e▸D.m2)
theorem ZApart.j1o {z TI TO j1 j2:Addr}{f1 f2:List Addr}(D:ZApart z TI TO j1 j2 f1 f2):j1≠TO:=λ e=>D.o1 (e▸D.m1)
theorem ZApart.j2o {z TI TO j1 j2:Addr}{f1 f2:List Addr}(D:ZApart z TI TO j1 j2 f1 f2):j2≠TO:=λ e=>D.o2 (e▸D.m2)
theorem J5 {a b:Addr}{l:List Addr}(h:a∉l) (hb:b∈l):b≠a:=λ e=>h (e▸hb)
section
variable {prog:Ycj}{w:Yci}{A:Yck}{E:Ycf->Ycg->Prop}{s:Ycg}{z TI TO j1 j2:Addr}{f1 f2:List Addr}{n1 n2 i:Nat}{P1 P2:Nat->Ycf->Prop}{St1 St2:Nat->Heap->Prop}{a b:Ycf}
theorem Jr2 {Q:Ycf->Ycg->Prop}(D:ZApart z TI TO j1 j2 f1 f2) (D1:Ycw prog w A j1 f1 n1 P1 St1) (D2:Ycw prog w A j2 f2 n2 P2 St2) (hz:Ycn s.heap z TI TO .none) (hI:Yco s.heap TI (.ref j1) (.ref j2)) (hO:Yco s.heap TO a b)
 (st1:St1 i s.heap) (st2:St2 i s.heap) (l1:i<n1) (l2:i<n2)
 (q:∀ x y h' tk,P1 i x->P2 i y->Ycn h' z TI TO (rawInt s.heap.objs.size)->Yco h' TO x y->St1 (i+1) h'->St2 (i+1) h'->Yco h' s.heap.objs.size x y->h'.objs.size=s.heap.objs.size+1 ->
  (∀ c o,c≠z->c≠TO->c≠j1->c≠j2->s.heap.get? c=some o->h'.get? c=some o)->Q (.ref s.heap.objs.size) { s with heap:=h',toks:=tk }) :
 Ych (model prog w) A (Builtin.«zip.__next__» ⟨[.ref z],[]⟩) (λ fin s'=>∃ v,fin = .done (.ret v)/\Q v s') E s:=by
 obtain ⟨hp,gg,dd,t0,os⟩:=s
 show Ych _ _ (field (.ref z) 2 >>= _) _ _ _;refine wpAny_bind (wpAny_field hz rfl (x:=.bool false) rfl ?_)
 show Ych _ _ (field (.ref z) 3 >>= _) _ _ _;refine wpAny_bind (wpAny_field hz rfl (x:=.ref TI) rfl ?_)
 refine wpAny_bind (wpAny_seqItems hI rfl ?_)
 show Ych _ _ (J5n (.ref z) >>= _) _ _ _;refine wpAny_bind ?_;unfold J5n
 refine wpAny_bind (wpAny_field hz rfl (x:=.none) rfl (wpAny_pure ?_));simp only [if_true];refine wpAny_bind (wpAny_rule ?_)
 refine wpAny_bind (wpAny_field hz rfl (x:=.ref TO) rfl ?_)
 refine wpAny_bind (wpAny_setField_rec hz (by first | exact mm0 | exact mm1 | exact mm2 | exact mm3 | exact mm4 | exact mm5 | simp) λ g1 z1 b1=>?_);replace z1:Ycn g1 z TI TO .ellipsis:=z1;replace b1:Xl z hp g1:=b1
 refine wpAny_bind ?_;simp only [List.zipIdx_cons,List.zipIdx_nil,J6z,J64]
 refine wpAny_bind (wpAny_bind (wpAny_onRaise ?_))
 show Ych _ _ (Ui (.ref j1) >>= _) _ _ _
 refine wpAny_bind (D1.item i _ _ _ l1 (D1.frame _ _ _ st1 λ c hc o e=>b1.extBut c o (J5 D.z1 hc) e) λ x g2 t2 px s12 b2=>wpAny_pure ?_);replace b2:Xl j1 g1 g2:=b2
 have o2:Yco g2 TO a b:=b2.extBut _ _ (Qj D.j1o) (b1.extBut _ _ D.oz hO)
 refine wpAny_bind (wpAny_seqItems o2 rfl ?_)
 refine wpAny_bind (wpAny_updateSeq_pair o2 λ g3 o3 b3=>?_);replace o3:Yco g3 TO x b:=o3;replace b3:Xl TO g2 g3:=b3
 refine wpAny_bind (wpAny_letGo (wpAny_pure ?_));refine wpAny_bind (wpAny_bind (wpAny_onRaise ?_))
 show Ych _ _ (Ui (.ref j2) >>= _) _ _ _
 refine wpAny_bind (D2.item i _ _ _ l2 (D2.frame _ _ _ st2 λ c hc o e=>b3.extBut c o (J5 D.o2 hc) (b2.extBut c o (J5 D.q1 hc) (b1.extBut c o (J5 D.z2 hc) e))) λ y g4 t4 py s24 b4=>wpAny_pure ?_);replace b4:Xl j2 g3 g4:=b4
 have o4:Yco g4 TO x b:=b4.extBut _ _ (Qj D.j2o) o3
 refine wpAny_bind (wpAny_seqItems o4 rfl ?_)
 refine wpAny_bind (wpAny_updateSeq_pair o4 λ g5 o5 b5=>?_);replace o5:Yco g5 TO x y:=o5;replace b5:Xl TO g4 g5:=b5
 refine wpAny_bind (wpAny_letGo (wpAny_pure (wpAny_pure ?_)))
 refine wpAny_bind (wpAny_seqItems o5 rfl ?_);refine wpAny_bind (wpAny_newTuple ?_)
 have sz:g5.objs.size=hp.objs.size:=by rw [b5.1,b4.1,b3.1,b2.1,b1.1]
 have z5:Ycn g5 z TI TO .ellipsis:=b5.extBut _ _ (Qj D.oz) (b4.extBut _ _ (Qj D.j2z) (b3.extBut _ _ (Qj D.oz) (b2.extBut _ _ (Qj D.j1z) z1)))
 have k5:∀ c o,c≠z->c≠TO->c≠j1->c≠j2->hp.get? c=some o->g5.get? c=some o:=λ c o c1 c2 c3 c4 e=>b5.extBut _ _ c2 (b4.extBut _ _ c4 (b3.extBut _ _ c2 (b2.extBut _ _ c3 (b1.extBut _ _ c1 e))))
 have s15:St1 (i+1) g5:=D1.frame _ _ _ s12 λ c hc o e=>b5.extBut c o (J5 D.o1 hc) (b4.extBut c o (J5 D.q2 hc) (b3.extBut c o (J5 D.o1 hc) e))
 have s25:St2 (i+1) g5:=D2.frame _ _ _ s24 λ c hc o e=>b5.extBut c o (J5 D.o2 hc) e
 have zl:z<g5.objs.size:=Qp z5
 show Ych _ _ (J7s (.ref z) (.ref g5.objs.size) >>= _) _ _ _;refine wpAny_bind ?_;unfold J7s
 have z6:Ycn (g5.push { cls:=.type "tuple",data:=.seq #[x,y] }) z TI TO .ellipsis:=Qk _ z5
 refine wpAny_bind (wpAny_setField_rec z6 (by first | exact mm0 | exact mm1 | exact mm2 | exact mm3 | exact mm4 | exact mm5 | simp) λ g7 z7 b7=>?_);replace z7:Ycn g7 z TI TO (rawInt g5.objs.size):=z7
 refine wpAny_setField_rec z7 (by first | exact mm0 | exact mm1 | exact mm2 | exact mm3 | exact mm4 | exact mm5 | simp) λ g8 z8 b8=>?_;replace z8:Ycn g8 z TI TO (rawInt g5.objs.size):=z8
 have up:∀ c o,c≠z->g5.get? c=some o->g8.get? c=some o:=λ c o c1 e=>b8.extBut _ _ c1 (b7.extBut _ _ c1 (Qk _ e))
 have t8:Yco g8 g5.objs.size x y:=b8.extBut _ _ (U9 zl) (b7.extBut _ _ (U9 zl) (Q5 _ rfl))
 have s8:g8.objs.size=g5.objs.size+1:=by rw [b8.1,b7.1,Xr]
 rw [sz] at z8 t8 s8
 refine wpAny_pure ⟨_,rfl,?_⟩;show Q (.ref g5.objs.size) _;rw [sz]
 exact q x y g8 t4 px py z8 (up _ _ D.oz o5) (D1.frame _ _ _ s15 λ c hc o e=>up c o (J5 D.z1 hc) e) (D2.frame _ _ _ s25 λ c hc o e=>up c o (J5 D.z2 hc) e) t8 s8 λ c o c1 c2 c3 c4 e=>up c o c1 (k5 c o c1 c2 c3 c4 e)
theorem Jt8 {Q:Fin->Ycg->Prop}(D:ZApart z TI TO j1 j2 f1 f2) (D1:Ycw prog w A j1 f1 n1 P1 St1) (D2:Ycw prog w A j2 f2 n2 P2 St2) (hz:Ycn s.heap z TI TO .none) (hI:Yco s.heap TI (.ref j1) (.ref j2)) (hO:Yco s.heap TO a b)
 (st1:St1 i s.heap) (st2:St2 i s.heap) (hend:i=n1\/(i<n1/\i=n2))
 (q:∀ h' e tk,(∀ c o,c≠z->c≠TO->c≠j1->c≠j2->s.heap.get? c=some o->h'.get? c=some o)->(∃ o,h'.get? e=some o/\o.cls = .type "StopIteration")->E (.ref e) { s with heap:=h',toks:=tk }) :
 Ych (model prog w) A (Builtin.«zip.__next__» ⟨[.ref z],[]⟩) Q E s:=by
 obtain ⟨hp,gg,dd,t0,os⟩:=s
 show Ych _ _ (field (.ref z) 2 >>= _) _ _ _;refine wpAny_bind (wpAny_field hz rfl (x:=.bool false) rfl ?_)
 show Ych _ _ (field (.ref z) 3 >>= _) _ _ _;refine wpAny_bind (wpAny_field hz rfl (x:=.ref TI) rfl ?_)
 refine wpAny_bind (wpAny_seqItems hI rfl ?_)
 show Ych _ _ (J5n (.ref z) >>= _) _ _ _;refine wpAny_bind ?_;unfold J5n
 refine wpAny_bind (wpAny_field hz rfl (x:=.none) rfl (wpAny_pure ?_));simp only [if_true];refine wpAny_bind (wpAny_rule ?_)
 refine wpAny_bind (wpAny_field hz rfl (x:=.ref TO) rfl ?_)
 refine wpAny_bind (wpAny_setField_rec hz (by first | exact mm0 | exact mm1 | exact mm2 | exact mm3 | exact mm4 | exact mm5 | simp) λ g1 z1 b1=>?_);replace z1:Ycn g1 z TI TO .ellipsis:=z1;replace b1:Xl z hp g1:=b1
 refine wpAny_bind ?_;simp only [List.zipIdx_cons,List.zipIdx_nil,J6z,J64]
 refine wpAny_bind (wpAny_bind (wpAny_onRaise ?_))
 show Ych _ _ (Ui (.ref j1) >>= _) _ _ _
 have s11:=D1.frame _ _ _ st1 λ c hc o e=>b1.extBut c o (J5 D.z1 hc) e
 rcases hend with he | ⟨l1,he⟩
 . subst he
   refine wpAny_bind (D1.done _ _ _ s11 λ g2 e b2 he=>?_)
   obtain ⟨oe,hoe,hce⟩:=he
   have z2:Ycn g2 z TI TO .ellipsis:=b2 _ _ (Qj D.j1z) z1
   have ez:e≠z:=λ x=>by subst x;rw [z2] at hoe;cases hoe;simp at hce
   refine wpAny_setField_rec z2 (by first | exact mm0 | exact mm1 | exact mm2 | exact mm3 | exact mm4 | exact mm5 | simp) λ g3 _ b3=>?_
   exact q g3 e t0 (λ c o c1 _ c3 _ x=>b3.extBut _ _ c1 (b2 _ _ c3 (b1.extBut _ _ c1 x))) ⟨oe,b3.extBut _ _ ez hoe,hce⟩
 . subst he
   refine wpAny_bind (D1.item i _ _ _ l1 s11 λ x g2 t2 px s12 b2=>wpAny_pure ?_);replace b2:Xl j1 g1 g2:=b2
   have o2:Yco g2 TO a b:=b2.extBut _ _ (Qj D.j1o) (b1.extBut _ _ D.oz hO)
   refine wpAny_bind (wpAny_seqItems o2 rfl ?_)
   refine wpAny_bind (wpAny_updateSeq_pair o2 λ g3 o3 b3=>?_);replace b3:Xl TO g2 g3:=b3
   refine wpAny_bind (wpAny_letGo (wpAny_pure ?_));refine wpAny_bind (wpAny_bind (wpAny_onRaise ?_))
   show Ych _ _ (Ui (.ref j2) >>= _) _ _ _
   refine wpAny_bind (D2.done _ _ _ (D2.frame _ _ _ st2 λ c hc o e=>b3.extBut c o (J5 D.o2 hc) (b2.extBut c o (J5 D.q1 hc) (b1.extBut c o (J5 D.z2 hc) e))) λ g4 e b4 he=>?_)
   obtain ⟨oe,hoe,hce⟩:=he
   have z4:Ycn g4 z TI TO .ellipsis:=b4 _ _ (Qj D.j2z) (b3.extBut _ _ (Qj D.oz) (b2.extBut _ _ (Qj D.j1z) z1))
   have ez:e≠z:=λ x=>by subst x;rw [z4] at hoe;cases hoe;simp at hce
   refine wpAny_setField_rec z4 (by first | exact mm0 | exact mm1 | exact mm2 | exact mm3 | exact mm4 | exact mm5 | simp) λ g5 _ b5=>?_
   exact q g5 e t2 (λ c o c1 c2 c3 c4 x=>b5.extBut _ _ c1 (b4 _ _ c4 (b3.extBut _ _ c2 (b2.extBut _ _ c3 (b1.extBut _ _ c1 x))))) ⟨oe,b5.extBut _ _ ez hoe,hce⟩
theorem Jgs {Q:Option Ycf->Ycg->Prop}(D:ZApart z TI TO j1 j2 f1 f2) (D1:Ycw prog w A.in1 j1 f1 n1 P1 St1) (D2:Ycw prog w A.in1 j2 f2 n2 P2 St2) (hz:Ycn s.heap z TI TO .none) (hI:Yco s.heap TI (.ref j1) (.ref j2)) (hO:Yco s.heap TO a b)
 (st1:St1 i s.heap) (st2:St2 i s.heap) (l1:i<n1) (l2:i<n2)
 (q:∀ x y h' tk,P1 i x->P2 i y->Ycn h' z TI TO (rawInt s.heap.objs.size)->Yco h' TO x y->St1 (i+1) h'->St2 (i+1) h'->Yco h' s.heap.objs.size x y->h'.objs.size=s.heap.objs.size+1 ->
  (∀ c o,c≠z->c≠TO->c≠j1->c≠j2->s.heap.get? c=some o->h'.get? c=some o)->Q (some (.ref s.heap.objs.size)) { s with heap:=h',toks:=tk }) :
 Ych (model prog w) A (pyNext (.ref z)) Q E s:=by
 have hT:s.TypeIs (.ref z) "zip":=⟨_,hz,rfl⟩
 unfold pyNext
 exact wpAny_bind (wpAny_attempt (Yc1 (name:=J5j "__next__") hT J5o (wpAny_call_entry J5o hT J7t
  (Jr2 D D1 D2 hz hI hO st1 st2 l1 l2 λ x y h' tk a1 a2 a3 a4 a5 a6 a7 a8 a9=>wpAny_pure (q x y h' tk a1 a2 a3 a4 a5 a6 a7 a8 a9)) (J7u _))))
theorem Jie {Q:Option Ycf->Ycg->Prop}(D:ZApart z TI TO j1 j2 f1 f2) (D1:Ycw prog w A.in1 j1 f1 n1 P1 St1) (D2:Ycw prog w A.in1 j2 f2 n2 P2 St2) (hz:Ycn s.heap z TI TO .none) (hI:Yco s.heap TI (.ref j1) (.ref j2)) (hO:Yco s.heap TO a b)
 (st1:St1 i s.heap) (st2:St2 i s.heap) (hend:i=n1\/(i<n1/\i=n2))
 (q:∀ h' tk,(∀ c o,c≠z->c≠TO->c≠j1->c≠j2->s.heap.get? c=some o->h'.get? c=some o)->Q none { s with heap:=h',toks:=tk }):Ych (model prog w) A (pyNext (.ref z)) Q E s:=by
 have hT:s.TypeIs (.ref z) "zip":=⟨_,hz,rfl⟩
 unfold pyNext
 refine wpAny_bind (wpAny_attempt (Yc1 (name:=J5j "__next__") hT J5o (wpAny_call_entry J5o hT J7t (Jt8 D D1 D2 hz hI hO st1 st2 hend λ h' e tk hk he=>?_) (J7u _))))
 obtain ⟨o,ho,hc⟩:=he
 refine wpAny_bind (wpAny_isInstance (T:="StopIteration") (b:=true) ⟨o,ho,hc⟩ isSubtype_stop ?_)
 exact wpAny_pure (q _ _ hk)
end
theorem Jr3 {prog:Ycj}{w:Yci}{A:Yck}{E:Ycf->Ycg->Prop}{s:Ycg}(b b':Bool) {l m:Addr}{xs ys:Array Ycf}{Q:Ycf->Ycg->Prop}(x1:Vo b s.heap l xs) (x2:Vo b' s.heap m ys)
 (q:∀ h',Ycn h' (s.heap.objs.size+4) (s.heap.objs.size+2) (s.heap.objs.size+3) .none->Yco h' (s.heap.objs.size+2) (.ref s.heap.objs.size) (.ref (s.heap.objs.size+1)) ->
  Yco h' (s.heap.objs.size+3) .none .none->ItAt b h' s.heap.objs.size l 0->ItAt b' h' (s.heap.objs.size+1) m 0->h'.objs.size=s.heap.objs.size+5 ->
  (∀ c o,s.heap.get? c=some o->h'.get? c=some o)->Q (.ref (s.heap.objs.size+4)) { s with heap:=h' }) :
 Ych (model prog w) A (call (.type "zip") [.ref l,.ref m]) Q E s:=by
 refine Ydy F.called_zip (by decide) (F.typeCall_zip_2 _ _) (F.newCall_zip_2 _ _) (λ obj=>F.args_object_init_3 obj _ _) Ya4 (Jxb b b' l m xs ys) ⟨x1,x2,?_⟩
 have y1:(zz1 b s.heap l).objs.size=s.heap.objs.size+1:=Xr ..
 have y2:(zz2 b b' s.heap l m).objs.size=s.heap.objs.size+2:=by rw [Xr,y1]
 have y3:(zz3 b b' s.heap l m).objs.size=s.heap.objs.size+3:=by rw [Xr,y2]
 have y4:(zz4 b b' s.heap l m).objs.size=s.heap.objs.size+4:=by rw [Xr,y3]
 have y5:(zz5 b b' s.heap l m).objs.size=s.heap.objs.size+5:=by rw [Xr,y4]
 have fr:∀ b l,(Jbq b l).isFreed=false:=λ b l=>by cases b<;>rfl
 have g5:(zz5 b b' s.heap l m).get? (zz4 b b' s.heap l m).objs.size=some _:=Q5 _ rfl
 have g4:(zz5 b b' s.heap l m).get? (zz3 b b' s.heap l m).objs.size=some _:=Qk _ (Q5 _ rfl)
 have g3:(zz5 b b' s.heap l m).get? (zz2 b b' s.heap l m).objs.size=some _:=Qk _ (Qk _ (Q5 _ rfl))
 have g2:(zz5 b b' s.heap l m).get? (zz1 b s.heap l).objs.size=some _:=Qk _ (Qk _ (Qk _ (Q5 _ (fr b' m))))
 have g1:(zz5 b b' s.heap l m).get? s.heap.objs.size=some _:=Qk _ (Qk _ (Qk _ (Qk _ (Q5 _ (fr b l)))))
 show _/\_
 rw [y2,y3,y4] at g5;rw [y1,y2] at g3;rw [y3] at g4;rw [y1] at g2;rw [y4]
 exact ⟨⟨_,g5,rfl⟩,q _ g5 g3 g4 (Jbr g1) (Jbr g2) y5 λ c o x=>Qk _ (Qk _ (Qk _ (Qk _ (Qk _ x))))⟩
def SqK (b:Bool) (K:Qc) (H:Hp) (a:Addr) (xs:List V):Prop:=match b with | true=>SqT K H a xs | false=>SqL K H a xs
section
variable {X:Cx}{pins:List (Addr×Obj)}{σ:St}{H:Hp}{s:Ycg}{a c:Addr}{xs ys:List V}{b:Bool}{h':Heap}
theorem Inv.seqK (I:Inv X pins σ H s) (h:SqK b X.K H a xs):∃ its:List Ycf,J9 xs its/\Vo b s.heap a its.toArray/\xs.length<=sizeLine:=by
 cases b with
 | true=>exact let ⟨its,r,p,z⟩:=I.tuple h;⟨its,r,p,z⟩
 | false=>exact let ⟨its,r,p,z⟩:=I.list h;⟨its,r,p.isList,z⟩
theorem Inv.seqK_inj (I:Inv X pins σ H s) (h:SqK b X.K H a xs) (h':SqK b X.K H a ys):xs=ys:=by
 cases b with
 | true=>exact I.tuple_inj h h'
 | false=>exact I.list_inj h h'
theorem SqK.kp {K:Qc}{H':Hp}(h:SqK b K H a xs) (k:Kp [] H H'):SqK b K H' a xs:=by
 cases b with
 | true=>
  rcases h with (q | ⟨o,q⟩) | q
  . exact .inl (.inl (k _ _ q (by first | exact mm0 | exact mm1 | exact mm2 | exact mm3 | exact mm4 | exact mm5 | simp)))
  . exact .inl (.inr ⟨o,k _ _ q (by first | exact mm0 | exact mm1 | exact mm2 | exact mm3 | exact mm4 | exact mm5 | simp)⟩)
  . exact .inr q
 | false=>
  rcases h with (q | ⟨o,q⟩) | q
  . exact .inl (.inl (k _ _ q (by first | exact mm0 | exact mm1 | exact mm2 | exact mm3 | exact mm4 | exact mm5 | simp)))
  . exact .inl (.inr ⟨o,k _ _ q (by first | exact mm0 | exact mm1 | exact mm2 | exact mm3 | exact mm4 | exact mm5 | simp)⟩)
  . exact .inr q
theorem Inv.seqK_ne (I:Inv X pins σ H s) (h:SqK b X.K H a xs) (f:Jbj X pins H c):a≠c:=by
 have base:∀ o,X.K.lookup a=some o->a≠c:=λ o hk e=>by
  have e1:=I.ok.mod.kin a o hk
  rcases f.2.2.2.1 with z | z
  . exact I.ok.noex a o e1 (e▸z)
  . exact absurd (Xn (Qp e1) (Xk I.ok.bsz (e▸z))) (Xe _)
 cases b with
 | true=>
  rcases h with (q | ⟨o,q⟩) | ⟨o,_,_,hk,_⟩
  . exact Jk q f.1
  . exact Jk q f.1
  . exact base o hk
 | false=>
  rcases h with (q | ⟨o,q⟩) | ⟨o,_,_,hk,_⟩
  . exact Jk q f.1
  . exact Jk q f.1
  . exact base o hk
theorem Inv.turnedL {t':Nat}{fp:List Addr}(I:Inv X pins σ H s) (k:∀ b o,b∉fp->s.heap.get? b=some o->h'.get? b=some o) (hf:∀ b∈fp,Jbj X pins H b):Inv X pins σ H { s with heap:=h',toks:=t' }:=by
 refine I.step (g':=s.gens) (d':=s.drawn) (ch:=fp) (λ b hb=>⟨(hf b hb).2.2.2.1,(hf b hb).2.1,(hf b hb).2.2.2.2.1,(hf b hb).2.2.2.2.2⟩) (λ b o _ _ hc e _=>k b o hc e) (λ b o _ _ hc e _=>⟨o.slots,k b o hc e⟩) (λ _ _ _ _ n=>n)
  (λ b o hc e=>⟨o,k b o hc e⟩) (λ _ _ e=>e) (λ _ _ _ e=>e) (λ b ps e=>⟨#[],by rw [e];simp⟩) (λ m hm=>?_) (λ b u e=>?_) I.bare
 . obtain ⟨o,es,ep,ho,r⟩:=hm
   exact ⟨o,es,ep,k _ o (λ z=>(hf _ z).2.1 rfl) ho,r⟩
 . refine (I.hok b u e).stay (λ c v hc q=>k c v (λ z=>?_) q) (λ _ q=>q) λ _ _ q=>q
   have hn:=(hf c z).1
   rcases hc with hc | hc
   . rw [hc,e] at hn;cases hn
   . rw [hc] at hn;cases hn
theorem Inv.turnLay {t':Nat}{fp:List Addr}{p:Addr}{o:HO}(I:Inv X pins σ H s) (k:∀ b o,b∉fp->s.heap.get? b=some o->h'.get? b=some o) (hf:∀ b∈fp,Jbj X pins H b)
 (hp:s.heap.objs.size<=p) (new:Y1 X.prog X.w (upd H p o) h' p o):Inv X pins σ (upd H p o) { s with heap:=h',toks:=t' }:=by
 have hn:=I.hok.fresh hp
 refine I.step (g':=s.gens) (d':=s.drawn) (ch:=fp) (λ b hb=>⟨(hf b hb).2.2.2.1,(hf b hb).2.1,(hf b hb).2.2.2.2.1,(hf b hb).2.2.2.2.2⟩) (λ b o _ _ hc e _=>k b o hc e) (λ b o _ _ hc e _=>⟨o.slots,k b o hc e⟩) (λ b ob _ e n=>?_)
  (λ b o hc e=>⟨o,k b o hc e⟩) (λ b xs e=>?_) (λ b _ _ e=>?_) (λ b ps e=>⟨#[],?_⟩) (λ m hm=>?_) (λ b u e=>?_) I.bare
 . have hbp:b≠p:=Xf (Xn (Qp e) hp);rw [Ji hbp];exact n
 . rw [Ji (Jk e hn)];exact e
 . rw [Ji (Jk e hn)];exact e
 . rw [Ji (Jk e hn)];simpa using e
 . obtain ⟨o,es,ep,ho,r⟩:=hm
   exact ⟨o,es,ep,k _ o (λ z=>(hf _ z).2.1 rfl) ho,r⟩
 . by_cases hb:b=p
   . subst hb
     rw [Jh] at e;cases e
     exact new
   . rw [Ji hb] at e
     refine (I.hok b u e).stay (λ c v hc q=>k c v (λ z=>?_) q) (λ c q=>by rw [Ji (Jk q hn)];exact q) λ c _ q=>by rw [Ji (Jk q hn)];exact q
     have hn:=(hf c z).1
     rcases hc with hc | hc
     . rw [hc,e] at hn;cases hn
     . rw [hc] at hn;cases hn
end
noncomputable def Ite (b:Bool) (K:Qc) (a:Addr):It:=
 ⟨λ i H=>∃ xs x,SqK b K H a xs/\xs[i]? = some x,λ i H v H'=>∃ p y,H p=none/\H'=upd H p (.tup [.int i,y])/\v = .ref p/\∀ xs,SqK b K H a xs->xs[i]? = some y,λ i H=>∃ xs,SqK b K H a xs/\xs.length=i⟩
noncomputable def Itz (b b':Bool) (K:Qc) (a c:Addr):It:=
 ⟨λ i H=>∃ xs ys x y,SqK b K H a xs/\SqK b' K H c ys/\xs[i]? = some x/\ys[i]? = some y,λ i H v H'=>∃ p x y,H p=none/\H'=upd H p (.tup [x,y])/\v = .ref p/\(∀ xs,SqK b K H a xs->xs[i]? = some x)/\∀ ys,SqK b' K H c ys->ys[i]? = some y,
  λ i H=>∃ xs ys,SqK b K H a xs/\SqK b' K H c ys/\min xs.length ys.length=i⟩
theorem Jr4 {P:Ycj}{w:Yci}{K:Qc}{es:List Expr}{kk:Nat}{tp:Pos}(b:Bool) (a e j:Addr) (hej:e≠j):Turn P w K (.Tuple es kk tp) (Ite b K a) [e,j] e (λ i h=>(∃ old,IsEnum h e j i old)/\ItAt b h j a i) where
 mem:=by simp
 obj:=λ i h st c hc=>by
  obtain ⟨⟨old,he⟩,hj⟩:=st
  rcases Qg.mp hc with rfl | hc
  . exact ⟨_,he,λ v z=>by have z':J7h _=J5h v:=z;cases z'⟩
  . rw [Qm.mp hc];exact hj.obj
 keep:=λ i h h' st k=>by
  obtain ⟨⟨old,he⟩,hj⟩:=st
  exact ⟨⟨old,k e (by first | exact mm0 | exact mm1 | exact mm2 | exact mm3 | exact mm4 | exact mm5 | simp) _ he⟩,hj.at λ o q=>k j (by first | exact mm0 | exact mm1 | exact mm2 | exact mm3 | exact mm4 | exact mm5 | simp) o q⟩
 item:=by
  intro X hP hw hK hc i pins s σ H E I hf st hg
  subst hP hw hK
  obtain ⟨xs,x,hq,hx⟩:=hg
  obtain ⟨its,rv,p,hz⟩:=I.seqK hq
  obtain ⟨u,hu,ru⟩:=rv.get hx
  obtain ⟨⟨old,he⟩,hj⟩:=st
  have nae:=I.seqK_ne hq (hf e (by first | exact mm0 | exact mm1 | exact mm2 | exact mm3 | exact mm4 | exact mm5 | simp))
  have naj:=I.seqK_ne hq (hf j (by first | exact mm0 | exact mm1 | exact mm2 | exact mm3 | exact mm4 | exact mm5 | simp))
  have hlt:i<its.toArray.size:=by
   have:=(Qr.mp hu).1
   simpa using this
  refine wpAny_pyNext_enum_itemD (Wq b (A:=X.A.in1) (I.ok.hd hc) j a naj its.toArray) he ⟨hj,p⟩ hlt hej (by simp;exact ⟨hej,Qj nae⟩) λ y h1 tk hP ho st1 hT hsz hk=>?_
  have ey:y=u:=by
   have hP:its.toArray[i]? = some y:=hP
   have:its[i]? = some y:=by simpa using hP
   rw [hu] at this;exact (Xd this).symm
  subst ey
  refine ⟨_,rfl,wpAny_letOwnedTupleGo_enum ho λ h2 he2 hs2=>?_⟩
  replace hs2:Xl e h1 h2:=hs2
  have hes:e<s.heap.objs.size:=Qp he
  have hjs:j<s.heap.objs.size:=by obtain ⟨o,q,_⟩:=hj.obj;exact Qp q
  have kk:∀ c o,c∉[e,j]->s.heap.get? c=some o->h2.get? c=some o:=λ c o hc q=>by
   have h1':c≠e:=λ z=>hc (by simp [z])
   exact hs2.extBut _ _ h1' (hk c o h1' (λ z=>hc (by simp [z])) q)
  refine ⟨.ref s.heap.objs.size,upd H s.heap.objs.size (.tup [.int i,x]),I.turnLay (t':=tk+1) kk hf (Qn _) ?_,rfl,⟨_,x,I.hok.fresh (Qn _),rfl,rfl,λ ys hy=>by rw [I.seqK_inj hy hq];exact hx⟩,⟨⟨y,by simpa using he2⟩,st1.1.at λ o q=>hs2.extBut _ _ (Qj hej) q⟩,λ c hc=>?_⟩
  . exact ⟨by simp [Ycl],[.int i tk,y],.cons ⟨tk,rfl⟩ (.cons ru .nil),_,hs2.extBut _ _ (U9 hes) hT,rfl,0,rfl⟩
  . rw [Ji]
    . exact (hf c hc).1
    . rcases Qg.mp hc with rfl | hc
      . exact Xf hes
      . rw [Qm.mp hc];exact Xf hjs
 done:=by
  intro X hP hw hK hc i pins s σ H E I hf st hg
  subst hP hw hK
  obtain ⟨xs,hq,hx⟩:=hg
  obtain ⟨its,rv,p,hz⟩:=I.seqK hq
  obtain ⟨⟨old,he⟩,hj⟩:=st
  have naj:=I.seqK_ne hq (hf j (by first | exact mm0 | exact mm1 | exact mm2 | exact mm3 | exact mm4 | exact mm5 | simp))
  have hl:=rv.length
  have hn:its.toArray.size=i:=by simp;omega
  refine wpAny_pyNext_enum_endD (Wq b (A:=X.A.in1) (I.ok.hd hc) j a naj its.toArray) he (by rw [hn];exact ⟨hj,p⟩) λ h1 hk=>⟨rfl,?_⟩
  exact I.turnedL (t':=s.toks) (λ c o hc q=>hk c o (λ z=>hc (by simp [z])) q) hf
 self:=λ _ _ _ _ _ st q=>by
  obtain ⟨⟨old,he⟩,_⟩:=st
  exact wpAny_pyIter_enum he q
theorem Jt9 {P:Ycj}{w:Yci}{K:Qc}{es:List Expr}{kk:Nat}{tp:Pos}(b b':Bool) (a c z TI TO j1 j2:Addr) (dz:[z,TI,TO,j1,j2].Nodup) :
 Turn P w K (.Tuple es kk tp) (Itz b b' K a c) [z,TI,TO,j1,j2] z (λ i h=>Ycn h z TI TO .none/\Yco h TI (.ref j1) (.ref j2)/\(∃ u v,Yco h TO u v)/\ItAt b h j1 a i/\ItAt b' h j2 c i) where
 mem:=by simp
 obj:=λ i h st d hd=>by
  obtain ⟨hz,hI,⟨u,v,hO⟩,h1,h2⟩:=st
  have notup:∀ (o:Obj) {w:Ycf} {vs:Array Ycf} {n:Nat},o.data = .seq vs n->o.data≠.cell w:=λ o w vs n e z=>by rw [e] at z;cases z
  rcases Qg.mp hd with rfl | hd
  . exact ⟨_,hz,λ v z=>by have z':J7h _=J5h v:=z;cases z'⟩
  . rcases Qg.mp hd with rfl | hd
    . exact ⟨_,hI,λ w z=>by have z':J52 _ _=J5h w:=z;cases z'⟩
    . rcases Qg.mp hd with rfl | hd
      . exact ⟨_,hO,λ w z=>by have z':J52 _ _=J5h w:=z;cases z'⟩
      . rcases Qg.mp hd with rfl | hd
        . exact h1.obj
        . rw [Qm.mp hd];exact h2.obj
 keep:=λ i h h' st k=>by
  obtain ⟨hz,hI,⟨u,v,hO⟩,h1,h2⟩:=st
  exact ⟨k z (by first | exact mm0 | exact mm1 | exact mm2 | exact mm3 | exact mm4 | exact mm5 | simp) _ hz,k TI (by first | exact mm0 | exact mm1 | exact mm2 | exact mm3 | exact mm4 | exact mm5 | simp) _ hI,⟨u,v,k TO (by first | exact mm0 | exact mm1 | exact mm2 | exact mm3 | exact mm4 | exact mm5 | simp) _ hO⟩,h1.at λ o q=>k j1 (by first | exact mm0 | exact mm1 | exact mm2 | exact mm3 | exact mm4 | exact mm5 | simp) o q,h2.at λ o q=>k j2 (by first | exact mm0 | exact mm1 | exact mm2 | exact mm3 | exact mm4 | exact mm5 | simp) o q⟩
 item:=by
  intro X hP hw hK hc i pins s σ H E I hf st hg
  subst hP hw hK
  obtain ⟨xs,ys,x,y,hq,hq',hx,hy⟩:=hg
  obtain ⟨its,rv,p,_⟩:=I.seqK hq
  obtain ⟨its',rv',p',_⟩:=I.seqK hq'
  obtain ⟨u,hu,ru⟩:=rv.get hx
  obtain ⟨u',hu',ru'⟩:=rv'.get hy
  obtain ⟨hz,hI,⟨o1,o2,hO⟩,h1,h2⟩:=st
  have na:=λ d hd=>I.seqK_ne hq (hf d hd)
  have na':=λ d hd=>I.seqK_ne hq' (hf d hd)
  simp only [Xm,Qg,Uc,or_false,not_or] at dz
  obtain ⟨⟨d1,d2,d3,d4⟩,⟨d5,d6,d7⟩,⟨d8,d9⟩,d10,_⟩:=dz
  have hlt:i<its.toArray.size:=by have:=(Qr.mp hu).1;simpa using this
  have hlt':i<its'.toArray.size:=by have:=(Qr.mp hu').1;simpa using this
  have D:ZApart z TI TO j1 j2 [j1,a] [j2,c]:=⟨by simp,by simp,by simp;exact ⟨d3,Qj (na z (by first | exact mm0 | exact mm1 | exact mm2 | exact mm3 | exact mm4 | exact mm5 | simp))⟩,by simp;exact ⟨d4,Qj (na' z (by first | exact mm0 | exact mm1 | exact mm2 | exact mm3 | exact mm4 | exact mm5 | simp))⟩,by simp;exact ⟨d8,Qj (na TO (by first | exact mm0 | exact mm1 | exact mm2 | exact mm3 | exact mm4 | exact mm5 | simp))⟩,by simp;exact ⟨d9,Qj (na' TO (by first | exact mm0 | exact mm1 | exact mm2 | exact mm3 | exact mm4 | exact mm5 | simp))⟩,
   by simp;exact ⟨d10,Qj (na' j1 (by first | exact mm0 | exact mm1 | exact mm2 | exact mm3 | exact mm4 | exact mm5 | simp))⟩,by simp;exact ⟨Qj d10,Qj (na j2 (by first | exact mm0 | exact mm1 | exact mm2 | exact mm3 | exact mm4 | exact mm5 | simp))⟩,Qj d1,d5,d6,d7,Qj d2⟩
  refine Jgs D (Wq b (A:=X.A.in1) (I.ok.hd hc) j1 a (na j1 (by first | exact mm0 | exact mm1 | exact mm2 | exact mm3 | exact mm4 | exact mm5 | simp)) its.toArray) (Wq b' (A:=X.A.in1) (I.ok.hd hc) j2 c (na' j2 (by first | exact mm0 | exact mm1 | exact mm2 | exact mm3 | exact mm4 | exact mm5 | simp)) its'.toArray) hz hI hO ⟨h1,p⟩ ⟨h2,p'⟩ hlt hlt' λ v v' g1 tk e1 e2 z1 O1 s1 s2 T1 sz1 k1=>?_
  have ev:v=u:=by
   have e1:its.toArray[i]? = some v:=e1
   have:its[i]? = some v:=by simpa using e1
   rw [hu] at this;exact (Xd this).symm
  have ev':v'=u':=by
   have e2:its'.toArray[i]? = some v':=e2
   have:its'[i]? = some v':=by simpa using e2
   rw [hu'] at this;exact (Xd this).symm
  subst ev ev'
  refine ⟨_,rfl,Yd4 z1 λ g2 z2 b2=>?_⟩
  replace b2:Xl z g1 g2:=b2
  have hzs:z<s.heap.objs.size:=Qp hz
  have kk:∀ d o,d∉[z,TI,TO,j1,j2]->s.heap.get? d=some o->g2.get? d=some o:=λ d o hd q=>by
   have h1':d≠z:=(by first | exact mn0 hd | exact mn1 hd | exact mn2 hd | exact mn3 hd | exact mn4 hd | exact mn5 hd)
   exact b2.extBut _ _ h1' (k1 d o h1' (by first | exact mn0 hd | exact mn1 hd | exact mn2 hd | exact mn3 hd | exact mn4 hd | exact mn5 hd) (by first | exact mn0 hd | exact mn1 hd | exact mn2 hd | exact mn3 hd | exact mn4 hd | exact mn5 hd) (by first | exact mn0 hd | exact mn1 hd | exact mn2 hd | exact mn3 hd | exact mn4 hd | exact mn5 hd) q)
  refine ⟨.ref s.heap.objs.size,upd H s.heap.objs.size (.tup [x,y]),I.turnLay (t':=tk) kk hf (Qn _) ?_,rfl,⟨_,x,y,I.hok.fresh (Qn _),rfl,rfl,λ zs hy=>by rw [I.seqK_inj hy hq];exact hx,λ zs hy'=>by rw [I.seqK_inj hy' hq'];exact hy⟩,
   ⟨z2,b2.extBut _ _ (Qj d1) (k1 _ _ (Qj d1) d5 d6 d7 hI),⟨_,_,b2.extBut _ _ (Qj d2) O1⟩,s1.1.at λ o q=>b2.extBut _ _ (Qj d3) q,s2.1.at λ o q=>b2.extBut _ _ (Qj d4) q⟩,λ d hd=>?_⟩
  . exact ⟨by simp [Ycl],[v,v'],.cons ru (.cons ru' .nil),_,b2.extBut _ _ (U9 hzs) T1,rfl,0,rfl⟩
  . have lt:d<s.heap.objs.size:=by
     rcases Qg.mp hd with rfl | hd
     . exact hzs
     . rcases Qg.mp hd with rfl | hd
       . exact Qp hI
       . rcases Qg.mp hd with rfl | hd
         . exact Qp hO
         . rcases Qg.mp hd with rfl | hd
           . obtain ⟨o,q,_⟩:=h1.obj;exact Qp q
           . rw [Qm.mp hd];obtain ⟨o,q,_⟩:=h2.obj;exact Qp q
    rw [Ji (Xf lt)]
    exact (hf d hd).1
 done:=by
  intro X hP hw hK hc i pins s σ H E I hf st hg
  subst hP hw hK
  obtain ⟨xs,ys,hq,hq',hm⟩:=hg
  obtain ⟨its,rv,p,_⟩:=I.seqK hq
  obtain ⟨its',rv',p',_⟩:=I.seqK hq'
  obtain ⟨hz,hI,⟨o1,o2,hO⟩,h1,h2⟩:=st
  have na:=λ d hd=>I.seqK_ne hq (hf d hd)
  have na':=λ d hd=>I.seqK_ne hq' (hf d hd)
  simp only [Xm,Qg,Uc,or_false,not_or] at dz
  obtain ⟨⟨d1,d2,d3,d4⟩,⟨d5,d6,d7⟩,⟨d8,d9⟩,d10,_⟩:=dz
  have D:ZApart z TI TO j1 j2 [j1,a] [j2,c]:=⟨by simp,by simp,by simp;exact ⟨d3,Qj (na z (by first | exact mm0 | exact mm1 | exact mm2 | exact mm3 | exact mm4 | exact mm5 | simp))⟩,by simp;exact ⟨d4,Qj (na' z (by first | exact mm0 | exact mm1 | exact mm2 | exact mm3 | exact mm4 | exact mm5 | simp))⟩,by simp;exact ⟨d8,Qj (na TO (by first | exact mm0 | exact mm1 | exact mm2 | exact mm3 | exact mm4 | exact mm5 | simp))⟩,by simp;exact ⟨d9,Qj (na' TO (by first | exact mm0 | exact mm1 | exact mm2 | exact mm3 | exact mm4 | exact mm5 | simp))⟩,
   by simp;exact ⟨d10,Qj (na' j1 (by first | exact mm0 | exact mm1 | exact mm2 | exact mm3 | exact mm4 | exact mm5 | simp))⟩,by simp;exact ⟨Qj d10,Qj (na j2 (by first | exact mm0 | exact mm1 | exact mm2 | exact mm3 | exact mm4 | exact mm5 | simp))⟩,Qj d1,d5,d6,d7,Qj d2⟩
  have hl:=rv.length
  have hl':=rv'.length
  refine Jie D (Wq b (A:=X.A.in1) (I.ok.hd hc) j1 a (na j1 (by first | exact mm0 | exact mm1 | exact mm2 | exact mm3 | exact mm4 | exact mm5 | simp)) its.toArray) (Wq b' (A:=X.A.in1) (I.ok.hd hc) j2 c (na' j2 (by first | exact mm0 | exact mm1 | exact mm2 | exact mm3 | exact mm4 | exact mm5 | simp)) its'.toArray) hz hI hO ⟨h1,p⟩ ⟨h2,p'⟩ (by simp;omega) λ g1 tk k1=>⟨rfl,?_⟩
  exact I.turnedL (t':=tk) (λ d o hd q=>k1 d o (by first | exact mn0 hd | exact mn1 hd | exact mn2 hd | exact mn3 hd | exact mn4 hd | exact mn5 hd) (by first | exact mn0 hd | exact mn1 hd | exact mn2 hd | exact mn3 hd | exact mn4 hd | exact mn5 hd) (by first | exact mn0 hd | exact mn1 hd | exact mn2 hd | exact mn3 hd | exact mn4 hd | exact mn5 hd) (by first | exact mn0 hd | exact mn1 hd | exact mn2 hd | exact mn3 hd | exact mn4 hd | exact mn5 hd) q) hf
 self:=λ _ _ _ _ _ st q=>Ydn st.1 q
section
variable {X:Cx}{es:List Expr}{kk:Nat}{tp:Pos}
def Jzh (K:Qc) (ta:TA):TI:=λ σ H R=>ta σ H λ vs H1=>∃ b l xs,vs=[.ref l]/\SqK b K H1 l xs/\R (Ite b K l) H1
def Jua (K:Qc) (ta:TA):TI:=λ σ H R=>ta σ H λ vs H1=>∃ b b' l m xs ys,vs=[.ref l,.ref m]/\SqK b K H1 l xs/\SqK b' K H1 m ys/\R (Itz b b' K l m) H1
theorem Jfr {a:Expr}{ta:TA}{p pos:Pos}(hg:Gl X "enumerate") (hm:X.mg "enumerate" = none) (ha:PA X [a] ta) (hs:starEach [a] X.env=[(false,eval a X.env)]:=by rfl):PI X (.Tuple es kk tp) (.Call (.Name "enumerate" p) [a] [] pos) (Jzh X.K ta):=by
 intro pins s σ H R I h
 refine Call_ (Jbi I hg hm boot_enumerate (J6c (thn (ha pos pins s σ H _ I h) λ us s1 ⟨vs,H1,I1,r1,q1⟩=>?_) hs rfl))
 obtain ⟨b,l,xs,e,hq,q⟩:=q1
 subst e
 obtain ⟨u,rfl,ru⟩:=Jak r1
 cases ru
 obtain ⟨its,rv,p,_⟩:=I1.seqK hq
 refine Jr1 b p λ h1 he hj hsz hk=>wpAny_pyIter_enum he ?_
 refine ⟨_,[s1.heap.objs.size+1,s1.heap.objs.size],_,_,H1,rfl,I1.kept (t':=s1.toks) hk,Jr4 b l _ _ (Nat.succ_ne_self _),⟨⟨_,he⟩,hj⟩,λ c hc=>?_,q⟩
 rcases Qg.mp hc with rfl | hc
 . exact I1.fpOk (J8u _) (I1.hok.fresh (J8u _))
 . rw [Qm.mp hc];exact I1.fpOk (Qn _) (I1.hok.fresh (Qn _))
theorem Ja3 {a b:Expr}{ta:TA}{p pos:Pos}(hg:Gl X "zip") (hm:X.mg "zip" = none) (ha:PA X [a,b] ta) (hs:starEach [a,b] X.env=[(false,eval a X.env),(false,eval b X.env)]:=by rfl) (hs2:starEach [b] X.env=[(false,eval b X.env)]:=by rfl) :
 PI X (.Tuple es kk tp) (.Call (.Name "zip" p) [a,b] [] pos) (Jua X.K ta):=by
 intro pins s σ H R I h
 refine Call_ (Jbi I hg hm boot_zip (J6c (thn (ha pos pins s σ H _ I h) λ us s1 ⟨vs,H1,I1,r1,q1⟩=>?_) (by rw [hs,hs2]) (by rw [hs2];rfl)))
 obtain ⟨b,b',l,m,xs,ys,e,hq,hq',q⟩:=q1
 subst e
 obtain ⟨u,u',rfl,ru,ru'⟩:=Jp2 r1
 cases ru
 cases ru'
 obtain ⟨its,rv,p,_⟩:=I1.seqK hq
 obtain ⟨its',rv',p',_⟩:=I1.seqK hq'
 refine Jr3 b b' p p' λ h1 hz hI hO i1 i2 hsz hk=>Ydn hz ?_
 refine ⟨_,[s1.heap.objs.size+4,s1.heap.objs.size+2,s1.heap.objs.size+3,s1.heap.objs.size,s1.heap.objs.size+1],_,_,H1,rfl,I1.kept (t':=s1.toks) hk,Jt9 b b' l m _ _ _ _ _ (by first | exact mm0 | exact mm1 | exact mm2 | exact mm3 | exact mm4 | exact mm5 | simp),⟨hz,hI,⟨_,_,hO⟩,i1,i2⟩,λ c hc=>?_,q⟩
 have hc':s1.heap.objs.size<=c:=by
  simp only [Qg,Uc,or_false] at hc
  rcases hc with rfl | rfl | rfl | rfl | rfl
  . exact Ut _ _
  . exact Ut _ _
  . exact Ut _ _
  . exact Qn _
  . exact Ut _ _
 exact I1.fpOk hc' (I1.hok.fresh hc')
end
abbrev J21 (K:Qc):TG:=Jtk K 2 (gCons (W6 0) (gCons (W6 1) gNil))
section
variable {X:Cx}{pos:Pos}{k:Nat}
abbrev Sto (X:Cx) (i:Nat) (x:Str):Prop:=X.N[i]? = some x/\Loc X.env.scope x/\(X.fn x=true\/X.env.scope.names.lookup x=some .local)
theorem Yv {K':Qc}{i j:Nat}{x y:Str}{px py:Pos}(hc:X.calm=true) (hN:X.N.Nodup) (hx:Sto X i x) (hy:Sto X j y) (hK:X.K=K'):PG X (.Tuple [.Name x px,.Name y py] k pos) (Jtk K' 2 (gCons (W6 i) (gCons (W6 j) gNil))):=
 hK▸Jof hc (Bl (Ju hN hx.1 hx.2.1 hx.2.2) (Bl (Ju hN hy.1 hy.2.1 hy.2.2) Jj1))
theorem Vw {K':Qc}{i j m:Nat}{x y z:Str}{px py pz:Pos}(hc:X.calm=true) (hN:X.N.Nodup) (hx:Sto X i x) (hy:Sto X j y) (hz:Sto X m z) (hK:X.K=K'):PG X (.Tuple [.Name x px,.Name y py,.Name z pz] k pos) (Jtk K' 3 (gCons (W6 i) (gCons (W6 j) (gCons (W6 m) gNil)))):=
 hK▸Jof hc (Bl (Ju hN hx.1 hx.2.1 hx.2.2) (Bl (Ju hN hy.1 hy.2.1 hy.2.2) (Bl (Ju hN hz.1 hz.2.1 hz.2.2) Jj1)))
end
def CW2 (n:Nat) (l:Addr) (fr:St) (Pv:Nat->List V->Hp->Prop) (i m:Nat) (σ:St) (H:Hp):Prop:=i<=n/\m=n-i/\∃ o o' ys,σ = o::o'::fr/\H l=some (.lst ys)/\Pv i ys H
def Jkj (n:Nat) (l:Addr) (fr:St) (Pv:Nat->List V->Hp->Prop) (i:Nat) (x x':V):VK:=λ y H4=>
 ∃ xs,H4 l=some (.lst xs)/\xs.length<sizeLine/\∃ m',m'<n-i/\CW2 n l fr Pv (i+1) m' (some x::some x'::fr) (upd H4 l (.lst (xs++[y])))
def Jkk (n:Nat) (l:Addr) (fr:St) (Pv:Nat->List V->Hp->Prop) (i:Nat) (x x':V) (H3:Hp):Prop:=∃ m',m'<n-i/\CW2 n l fr Pv (i+1) m' (some x::some x'::fr) H3
theorem Jkj.intro {n:Nat}{l:Addr}{fr:St}{Pv:Nat->List V->Hp->Prop}{i:Nat}{x x' y:V}{H4:Hp}{ys:List V}(hi:i<n) (h1:H4 l=some (.lst ys)) (h2:ys.length<sizeLine) (h3:Pv (i+1) (ys++[y]) (upd H4 l (.lst (ys++[y])))):Jkj n l fr Pv i x x' y H4:=
 ⟨ys,h1,h2,n-(i+1),by omega,by omega,rfl,_,_,_,rfl,Jh,h3⟩
theorem Jkk.intro {n:Nat}{l:Addr}{fr:St}{Pv:Nat->List V->Hp->Prop}{i:Nat}{x x':V}{H3:Hp}{ys:List V}(hi:i<n) (h1:H3 l=some (.lst ys)) (h3:Pv (i+1) ys H3):Jkk n l fr Pv i x x' H3:=
 ⟨n-(i+1),by omega,by omega,rfl,_,_,_,rfl,h1,h3⟩
theorem J22 {K:Qc}{J:It}{tt:TT}{te:TE}{l:Addr}{fr:St}{o0 o1:Option V}{H0:Hp}{Q:Hp->Prop}(n:Nat) (Pv:Nat->List V->Hp->Prop) (h0:Pv 0 [] H0) (hl0:H0 l=some (.lst []))
 (hgo:∀ i H ys,i<n->Pv i ys H->H l=some (.lst ys)->J.go i H) (hstop:∀ H ys,Pv n ys H->H l=some (.lst ys)->J.stop n H)
 (step:∀ i H ys v H',i<n->Pv i ys H->H l=some (.lst ys)->J.yld i H v H'->∃ a x x',v = .ref a/\SqT K H' a [x,x']/\tt (some x::some x'::fr) H' λ c H3=>
  if c=true then te (some x::some x'::fr) H3 (Jkj n l fr Pv i x x') else Jkk n l fr Pv i x x' H3)
 (fin:∀ H ys,Pv n ys H->H l=some (.lst ys)->Q H) :
 Jbm J (J21 K) tt te l (o0::o1::fr) H0 Q:=by
 refine ⟨CW2 n l fr Pv,⟨n,Q9 _,rfl,o0,o1,[],rfl,hl0,h0⟩,?_⟩
 rintro i m σ H ⟨hi,rfl,o,o',ys,rfl,hl,hp⟩
 rcases U8 i n with h | h
 . refine .inr ⟨hgo i H ys h hp hl,λ v H' y=>?_⟩
   obtain ⟨a,x,x',rfl,hq,st⟩:=step i H ys v H' h hp hl y
   exact ⟨a,[x,x'],rfl,hq,rfl,_,_,rfl,_,_,rfl,rfl,st⟩
 . have e:i=n:=by omega
   subst e
   exact .inl ⟨hstop H ys hp hl,fin H ys hp hl⟩
def J09 (H1:Hp) (ft:Nat->Bool) (fe:Nat->V) (i:Nat) (ys:List V) (H:Hp):Prop:=Kp [] H1 H/\ys=((Qf i).filter ft).map fe
theorem Jub {ft:Nat->Bool}{fe:Nat->V}{i:Nat}(h:ft i=true):((Qf (i+1)).filter ft).map fe=((Qf i).filter ft).map fe++[fe i]:=by
 rw [Uv,J7v,Qu];simp [h]
theorem Jxc {ft:Nat->Bool}{fe:Nat->V}{i:Nat}(h:ft i=false):((Qf (i+1)).filter ft).map fe=((Qf i).filter ft).map fe:=by
 rw [Uv,J7v,Qu];simp [h]
theorem Juc {ft:Nat->Bool}{fe:Nat->V}(i:Nat):(((Qf i).filter ft).map fe).length<=i:=by
 rw [Qb];have:=J9a ft (Qf i);simpa using this
theorem Jo3 {K:Qc}{b:Bool}{a:Addr}{xs:List V}{tt:TT}{te:TE}{l:Addr}{fr:St}{o0 o1:Option V}{H1:Hp}{Q:Hp->Prop}(ft:Nat->Bool) (fe:Nat->V) (hq:SqK b K H1 a xs) (hz:xs.length<=sizeLine) (hl0:H1 l=none)
 (test:∀ i x H (M:Bool->Hp->Prop),xs[i]? = some x->Kp [] H1 H->(∀ H3,Kp [] H H3->M (ft i) H3)->tt (some (.int i)::some x::fr) H M)
 (step:∀ i x H (N:VK),ft i=true->xs[i]? = some x->Kp [] H1 H->(∀ H4,Kp [] H H4->N (fe i) H4)->te (some (.int i)::some x::fr) H N)
 (fin:∀ H,Kp [] H1 H->H l=some (.lst (((Qf xs.length).filter ft).map fe))->Q H) :
 Jbm (Ite b K a) (J21 K) tt te l (o0::o1::fr) (upd H1 l (.lst [])) Q:=by
 refine J22 xs.length (J09 H1 ft fe) ⟨Kp.new hl0 _,rfl⟩ Jh (λ i H ys hi p _=>⟨xs,xs[i],hq.kp p.1,Qx hi⟩) (λ H ys p _=>⟨xs,hq.kp p.1,rfl⟩) (λ i H ys v H' hi p hl y=>?_) λ H ys p hl=>?_
 . obtain ⟨t,x,ht,rfl,rfl,hx⟩:=y
   obtain ⟨k1,rfl⟩:=p
   have hx:=hx xs (hq.kp k1)
   have k2:Kp [] H (upd H t (.tup [.int i,x])):=Kp.new ht _
   have hlen:=Juc (ft:=ft) (fe:=fe) i
   refine ⟨t,.int i,x,rfl,SqT.of Jh,test i x _ _ hx (k1.trans k2) λ H3 k3=>?_⟩
   have hl3:H3 l=some (.lst (((Qf i).filter ft).map fe)):=k3 _ _ (k2 _ _ hl (by first | exact mm0 | exact mm1 | exact mm2 | exact mm3 | exact mm4 | exact mm5 | simp)) (by first | exact mm0 | exact mm1 | exact mm2 | exact mm3 | exact mm4 | exact mm5 | simp)
   cases hft:ft i with
   | true=>
    refine Z6 (step i x _ _ hft hx ((k1.trans k2).trans k3) λ H4 k4=>?_)
    refine Jkj.intro hi (k4 _ _ hl3 (by first | exact mm0 | exact mm1 | exact mm2 | exact mm3 | exact mm4 | exact mm5 | simp)) (by omega) ⟨λ d o e n=>?_,(Jub hft).symm⟩
    rw [Ji (Jk e hl0)];exact k4 _ _ (k3 _ _ (k2 _ _ (k1 _ _ e n) n) n) n
   | false=>
    refine Wm ?_
    exact Jkk.intro hi hl3 ⟨(k1.trans k2).trans k3,(Jxc hft).symm⟩
 . obtain ⟨k1,rfl⟩:=p
   exact fin H k1 hl
end L2
namespace My
open L2
noncomputable def Ja (ws:List Way) (k:Int):Way:=ws.getD k.toNat ⟨0,0,[]⟩
def InW (ws:List Way) (ns:List Int):Prop:=∀ k∈ns,0<=k/\k<ws.length
def Jbs (ws:List Way):List Int->Prop
 | []=>True
 | [_]=>True
 | j::k::r=>(Ja ws j).b=(Ja ws k).a/\Jbs ws (k::r)
theorem Jbs.snoc {ws:List Way}:∀ {ns:List Int}{j k:Int},Jbs ws (ns++[j])->(Ja ws j).b=(Ja ws k).a->Jbs ws (ns++[j]++[k])
 | [],_,_,_,h=>⟨h,trivial⟩
 | [a],_,_,c,h=>⟨c.1,h,trivial⟩
 | a::b::r,j,k,c,h=>⟨c.1,Jbs.snoc (ns:=b::r) c.2 h⟩
structure BkAt (ex:List Addr) (H:Hp) (R U:Int) (ws:List Way) (bv:V) (ba wa:Addr) (vs:List V):Prop where
 e:bv = .ref ba
 b:H ba=some (.tup [.int R,.int U,.ref wa])
 w:H wa=some (.tup vs)
 r:Reps ex H (ws.map Zx) vs
 nb:ba∉ex
 nw:wa∉ex
 z:vs.length<=sizeLine
theorem Jdj {ex:List Addr}{H:Hp}{R U:Int}{ws:List Way}{bv:V}(r:Rep ex H (Jq R U ws) bv):∃ ba wa vs,BkAt ex H R U ws bv ba wa vs:=by
 obtain ⟨ba,x,y,z,rfl,hb,nb,r1,r2,r3⟩:=Jmf r
 obtain ⟨wa,vs,rfl,hw,nw,hz,rs⟩:=Jfo r3
 rw [Jfp r1,Jfp r2] at hb
 exact ⟨ba,wa,vs,rfl,hb,hw,rs,nb,nw,hz⟩
theorem BkAt.len {ex:List Addr}{H:Hp}{R U:Int}{ws:List Way}{bv:V}{ba wa:Addr}{vs:List V}(B:BkAt ex H R U ws bv ba wa vs):vs.length=ws.length:=by
 rw [<- B.r.length,Qb]
theorem BkAt.keep {ex:List Addr}{H H':Hp}{R U:Int}{ws:List Way}{bv:V}{ba wa:Addr}{vs:List V}(B:BkAt ex H R U ws bv ba wa vs) (k:Kp ex H H'):BkAt ex H' R U ws bv ba wa vs:=
 ⟨B.e,k _ _ B.b B.nb,k _ _ B.w B.nw,B.r.keep k,B.nb,B.nw,B.z⟩
theorem BkAt.rep {ex:List Addr}{H:Hp}{R U:Int}{ws:List Way}{bv:V}{ba wa:Addr}{vs:List V}(B:BkAt ex H R U ws bv ba wa vs):Rep ex H (Jq R U ws) bv:=by
 rw [B.e]
 exact .tuple B.b B.nb (Jbp (X6 rfl)) (.cons (.int R) (.cons (.int U) (.cons (.tuple B.w B.nw B.z B.r) .nil)))
theorem Jo4 {ex:List Addr}{H:Hp}{ws:List Way}{vs:List V}{i:Nat}{v:V}(r:Reps ex H (ws.map Zx) vs) (h:vs[i]? = some v):∃ t g,v = .ref t/\H t=some (.tup [.int (Ja ws i).a,.int (Ja ws i).b,.ref g])/\H g=some (.tup ((Ja ws i).g.map V.int))/\i<ws.length/\Ja ws i∈ws:=by
 obtain ⟨d,e,rd⟩:=r.getV h
 rw [Qs] at e
 cases hw:ws[i]? with
 | none=>rw [hw] at e;cases e
 | some w=>
  rw [hw] at e
  have e:Zx w=d:=Xd e
  subst e
  have ew:Ja ws (i:Int)=w:=by unfold Ja;rw [Xb,Q3,hw];rfl
  rw [ew]
  obtain ⟨t,x,y,z,rfl,ht,_,r1,r2,r3⟩:=Jmf rd
  obtain ⟨g,gs,rfl,hg,_,_,rg⟩:=Jfo r3
  rw [Jfp r1,Jfp r2] at ht
  rw [Reps.ints_inv rg] at hg
  exact ⟨t,g,rfl,ht,hg,(Qr.mp hw).1,Xa hw⟩
theorem J1a {ex:List Addr}{H:Hp}{ws:List Way}{vs:List V}{k:Int}(r:Reps ex H (ws.map Zx) vs) (h0:0<=k) (h1:k<ws.length):∃ t g,atI vs k=some (.ref t)/\H t=some (.tup [.int (Ja ws k).a,.int (Ja ws k).b,.ref g])/\H g=some (.tup ((Ja ws k).g.map V.int))/\Ja ws k∈ws:=by
 have hl:=r.length
 rw [Qb] at hl
 have hk:k.toNat<vs.length:=by omega
 have ek:((k.toNat:Nat):Int)=k:=by omega
 have e:vs[k.toNat]? = some vs[k.toNat]:=Qx hk
 obtain ⟨t,g,ev,ht,hg,_,hm⟩:=Jo4 r e
 rw [ek] at ht hg hm
 refine ⟨t,g,?_,ht,hg,hm⟩
 have q:=Jc8 e
 rw [ek,ev] at q
 exact q
noncomputable def Jao (ws:List Way) (room:Int):List Int:=((Qf ws.length).filter λ i=>decide ((Ja ws (i:Nat)).a=room)).map λ i:Nat=>(i:Int)
theorem Jiz {ws:List Way}{room k:Int}(h:k∈Jao ws room):0<=k/\k<ws.length/\(Ja ws k).a=room:=by
 obtain ⟨i,hi,rfl⟩:=Ql.mp h
 rw [Q6,Xj] at hi
 exact ⟨by omega,by omega,of_decide_eq_true hi.2⟩
def Jkl:Sp:=λ vs H Q _=>∃ ex R U ws bv room,vs=[bv,.int room]/\Rep ex H (Jq R U ws) bv/\∀ l H',Kp [] H H'->H l=none->H' l=some (.lst ((Jao ws room).map V.int))->Q (.ref l) H'
noncomputable def Jdk (ns:List Int):Int:=ns.getLastD 0
theorem Jgt {ns:List Int}(h:ns≠[]):Jdk ns=ns.getLast h:=by
 unfold Jdk;rw [Ya5,Ya6 h];rfl
theorem Ji0 {ns:List Int}(h:ns≠[]):Jdk ns∈ns:=by rw [Jgt h];exact List.getLast_mem h
theorem Jkm (ns:List Int):Ua (.list (ns.map Qo)) (.list [])=ns.isEmpty:=Jqe ns
theorem Rep.lints {ex:List Addr}{H:Hp}{l:Addr}{ns:List Int}(h:H l=some (.lst (ns.map V.int))) (n:l∉ex) (z:ns.length<=sizeLine):Rep ex H (.list (ns.map Qo)) (.ref l):=
 .list h n (by rw [Qb];exact z) (Reps.ints ns)
theorem Rep.tints {ex:List Addr}{H:Hp}{l:Addr}{ns:List Int}(h:H l=some (.tup (ns.map V.int))) (n:l∉ex) (z:ns.length<=sizeLine):Rep ex H (.tuple (ns.map Qo)) (.ref l):=
 .tuple h n (by rw [Qb];exact z) (Reps.ints ns)
theorem at0 (x y z:V):atI [x,y,z] 0=some x:=Jc8 (j:=0) rfl
theorem at1 (x y z:V):atI [x,y,z] 1=some y:=Jc8 (j:=1) rfl
theorem at2 (x y z:V):atI [x,y,z] 2=some z:=Jc8 (j:=2) rfl
end My
namespace L2
section
variable {X:Cx}{K':Qc}
theorem Wv (hK:X.K=K'):IxR X (J0v K'):=hK▸Jn
theorem Jbt (hK:X.K=K'):IxR X (Jtx K'):=hK▸Yq
theorem Jr5 (hK:X.K=K') (hc:X.calm=true):Wz X (.builtin "sum") (λ xs H Q=>∃ (p:Addr) (ns:List Int),xs=[.ref p]/\SqL K' H p (ns.map V.int)/\Q (.int ns.sum) H):=by
 subst hK
 intro pins s σ H xs us Q I r h
 exact Jmc pins s σ H xs us Q I r ⟨hc,h⟩
end
section
variable {X:Cx}{e st:Expr}{te:TE}{ts:TO}{pos p2:Pos}
end
theorem Jfs {X:Cx}:OpR X (binaryOp .Mult) (rI Yde λ i j=>.int (i*j)):=opI λ _ _ _ _ _ _ _ hc q=>mul_int q hc
theorem Vx {X:Cx}{pos:Pos}{i:Nat}{x:Str}{e:Expr}{te:TE}{pos':Pos}(hN:X.N.Nodup) (hi:X.N[i]? = some x) (hx:Loc X.env.scope x) (he:PEs X e te) (hs:Yc0 e (some (.Name x pos')) pos.line X.env=pure false:=by rfl) (hf:X.fn x=true\/X.env.scope.names.lookup x=some .local := by first | exact .inl rfl | exact .inr rfl | assumption):PS X (.Assign [.Name x pos'] e pos) (Jcf te (W6 i)):=Js hN hi hx he.out hs hf
end L2
namespace My
open L2
end My
namespace L2
section
variable {X:Cx}
def Jzi (te:TE) (g g':TG):TS:=λ D σ H=>te σ H λ x H1=>g x σ H1 λ σ2 H2=>g' x σ2 H2 D.nx
theorem Jxd {tg tg' e:Expr}{te:TE}{g g':TG}{pos:Pos}(he:PE X e te) (hg:PG X tg g) (hg':PG X tg' g') (hs:swapsWithSole [tg,tg'] e pos.line X.env=pure false:=by rfl) (hw:swappedStores [tg,tg'] e X.env=pure none:=by rfl)
 (h1:(assignEach [tg,tg'] X.env).map (·.2)=[assign tg X.env,assign tg' X.env]:=by rfl):PS X (.Assign [tg,tg'] e pos) (Jzi te g g'):=by
 intro pins s σ H D I h
 refine wpAny_Assign_stores (thn (he pins s σ H _ I h) λ v s1 ⟨x,H1,I1,r1,q1⟩=>?_) hs hw
 rw [h1]
 show Ych _ _ (do Ycs [v] (assign tg X.env v);assign tg' X.env v) _ _ s1
 refine wpAny_bind (wpAny_holding (thn (hg pins s1 σ H1 x v _ I1 r1 q1) λ _ s2 ⟨σ2,H2,I2,q2⟩=>?_))
 exact thn (hg' pins s2 σ2 H2 x v _ I2 r1 q2) λ _ s3 q=>q
theorem Ji1 (hc:X.calm=true):Wz X (.builtin "min") (λ xs H Q=>∃ (p:Addr) (ns:List Int),xs=[.ref p]/\SqL X.K H p (ns.map V.int)/\ns≠[]/\∀ m∈ns,(∀ n∈ns,m<=n)->Q (.int m) H):=by
 intro pins s σ H xs us Q I r h
 obtain ⟨p,ns,rfl,hq,hne,q⟩:=h
 obtain ⟨u,rfl,ru⟩:=Jak r
 cases ru
 obtain ⟨its,rv,pl,hz⟩:=I.list hq
 have hl:=pl.isList
 have hi:=Jcr rv
 obtain ⟨xs,e⟩:=hi.allInts.items
 have h1:=hi.numsOf
 have h2:numsOf its.toArray.toList=(xs.toList.map (·.1)):=by rw [e,Ydx]
 have h2':(xs.toList.map (·.1))=ns:=by rw [<- h2];simpa using h1
 have hlen:xs.size=ns.length:=by rw [<- h2'];simp
 have hpos:0<ns.length:=J65.mpr hne
 rw [e] at hl
 refine min_intList (I.ok.hd hc) hl (by omega) λ v h' tk hv hk=>?_
 obtain ⟨b1,b2⟩:=argBest_lt (numAt xs) (xs.size-1)
 generalize argBest (λ i j=>decide (numAt xs i<numAt xs j)) (xs.size-1)=m at hv b1 b2
 obtain ⟨t,rfl⟩:=intItems_at hv
 have num:∀ i (hi:i<ns.length),numAt xs i=ns[i]:=λ i hi=>by
  have hix:i<xs.size:=by omega
  have e1:numAt xs i=xs[i].1:=by unfold numAt;rw [Array.getElem?_eq_getElem hix];rfl
  rw [e1]
  have e2:(xs.toList.map (·.1))[i]'(by simpa using hix)=xs[i].1:=by simp
  rw [<- e2]
  congr 1
 refine ⟨.int (numAt xs m),H,I.kept (t':=tk) hk,⟨t,rfl⟩,q _ ?_ λ n hn=>?_⟩
 . rw [num m (by omega)];exact Uh _
 . obtain ⟨i,hi,rfl⟩:=Uz.mp hn
   rw [<- num i hi]
   exact b2 i (by omega)
end
end L2
namespace My
open L2
theorem Ji2 {rs:List Int}{i:Nat}{k:Int}(h:rs[i]? = some k):rs.take (i+1)=rs.take i++[k]:=by
 have hi:=Qr.mp h
 rw [J7w hi.1,hi.2]
end My
namespace L2
abbrev Z9 (h:Heap) (T:Addr) (a b c:Ycf):Prop:=h.get? T=some { cls:=.type "tuple",data:=.seq #[a,b,c] }
structure ZAp3 (z TI TO j1 j2 j3:Addr) (f1 f2 f3:List Addr):Prop where
 m1:j1∈f1
 m2:j2∈f2
 m3:j3∈f3
 z1:z∉f1
 z2:z∉f2
 z3:z∉f3
 o1:TO∉f1
 o2:TO∉f2
 o3:TO∉f3
 q12:j1∉f2
 q13:j1∉f3
 q21:j2∉f1
 q23:j2∉f3
 q31:j3∉f1
 q32:j3∉f2
 iz:TI≠z
 io:TI≠TO
 i1:TI≠j1
 i2:TI≠j2
 i3:TI≠j3
 oz:TO≠z
section
variable {prog:Ycj}{w:Yci}{A:Yck}{E:Ycf->Ycg->Prop}{s:Ycg}{z TI TO j1 j2 j3:Addr}{f1 f2 f3:List Addr}{n1 n2 n3 i:Nat}{P1 P2 P3:Nat->Ycf->Prop}{St1 St2 St3:Nat->Heap->Prop}{a b c:Ycf}
theorem Jkn {T:Addr}{x:Ycf}{k:Nat}{Q:Unit->Ycg->Prop}(hT:Z9 s.heap T a b c)
 (h:∀ h',h'.get? T=some { cls:=.type "tuple",data:=.seq ((#[a,b,c]:Array Ycf).setIfInBounds k x) }->Xl T s.heap h'->Q () { s with heap:=h' }):Ych (model prog w) A (updateSeq T (·.setIfInBounds k x)) Q E s:=by
 refine wpAny_updateSeq hT rfl (h _ ?_ (J89 ..));rw [J8t _ hT rfl];simp [J5y]
theorem Jr6 {Q:Ycf->Ycg->Prop}(D:ZAp3 z TI TO j1 j2 j3 f1 f2 f3) (D1:Ycw prog w A j1 f1 n1 P1 St1) (D2:Ycw prog w A j2 f2 n2 P2 St2) (D3:Ycw prog w A j3 f3 n3 P3 St3) (hz:Ycn s.heap z TI TO .none) (hI:Z9 s.heap TI (.ref j1) (.ref j2) (.ref j3)) (hO:Z9 s.heap TO a b c)
 (st1:St1 i s.heap) (st2:St2 i s.heap) (st3:St3 i s.heap) (l1:i<n1) (l2:i<n2) (l3:i<n3)
 (q:∀ x y u h' tk,P1 i x->P2 i y->P3 i u->Ycn h' z TI TO (rawInt s.heap.objs.size)->Z9 h' TO x y u->St1 (i+1) h'->St2 (i+1) h'->St3 (i+1) h'->Z9 h' s.heap.objs.size x y u->h'.objs.size=s.heap.objs.size+1 ->
  (∀ d o,d≠z->d≠TO->d≠j1->d≠j2->d≠j3->s.heap.get? d=some o->h'.get? d=some o)->Q (.ref s.heap.objs.size) { s with heap:=h',toks:=tk }) :
 Ych (model prog w) A (Builtin.«zip.__next__» ⟨[.ref z],[]⟩) (λ fin s'=>∃ v,fin = .done (.ret v)/\Q v s') E s:=by
 obtain ⟨hp,gg,dd,t0,os⟩:=s
 show Ych _ _ (field (.ref z) 2 >>= _) _ _ _;refine wpAny_bind (wpAny_field hz rfl (x:=.bool false) rfl ?_)
 show Ych _ _ (field (.ref z) 3 >>= _) _ _ _;refine wpAny_bind (wpAny_field hz rfl (x:=.ref TI) rfl ?_)
 refine wpAny_bind (wpAny_seqItems hI rfl ?_)
 show Ych _ _ (J5n (.ref z) >>= _) _ _ _;refine wpAny_bind ?_;unfold J5n
 refine wpAny_bind (wpAny_field hz rfl (x:=.none) rfl (wpAny_pure ?_));simp only [if_true];refine wpAny_bind (wpAny_rule ?_)
 refine wpAny_bind (wpAny_field hz rfl (x:=.ref TO) rfl ?_)
 refine wpAny_bind (wpAny_setField_rec hz (by first | exact mm0 | exact mm1 | exact mm2 | exact mm3 | exact mm4 | exact mm5 | simp) λ g1 z1 b1=>?_);replace z1:Ycn g1 z TI TO .ellipsis:=z1;replace b1:Xl z hp g1:=b1
 have j1z:j1≠z:=J5 D.z1 D.m1
 have j2z:j2≠z:=J5 D.z2 D.m2
 have j3z:j3≠z:=J5 D.z3 D.m3
 have j1o:j1≠TO:=J5 D.o1 D.m1
 have j2o:j2≠TO:=J5 D.o2 D.m2
 have j3o:j3≠TO:=J5 D.o3 D.m3
 refine wpAny_bind ?_;simp only [List.zipIdx_cons,List.zipIdx_nil,J6z,J64]
 refine wpAny_bind (wpAny_bind (wpAny_onRaise ?_))
 show Ych _ _ (Ui (.ref j1) >>= _) _ _ _
 refine wpAny_bind (D1.item i _ _ _ l1 (D1.frame _ _ _ st1 λ d hd o e=>b1.extBut d o (J5 D.z1 hd) e) λ x g2 t2 px s12 b2=>wpAny_pure ?_);replace b2:Xl j1 g1 g2:=b2
 have o2:Z9 g2 TO a b c:=b2.extBut _ _ (Qj j1o) (b1.extBut _ _ D.oz hO)
 refine wpAny_bind (wpAny_seqItems o2 rfl ?_)
 refine wpAny_bind (Jkn o2 λ g3 o3 b3=>?_);replace o3:Z9 g3 TO x b c:=o3;replace b3:Xl TO g2 g3:=b3
 refine wpAny_bind (wpAny_letGo (wpAny_pure ?_));refine wpAny_bind (wpAny_bind (wpAny_onRaise ?_))
 show Ych _ _ (Ui (.ref j2) >>= _) _ _ _
 refine wpAny_bind (D2.item i _ _ _ l2 (D2.frame _ _ _ st2 λ d hd o e=>b3.extBut d o (J5 D.o2 hd) (b2.extBut d o (J5 D.q12 hd) (b1.extBut d o (J5 D.z2 hd) e))) λ y g4 t4 py s24 b4=>wpAny_pure ?_);replace b4:Xl j2 g3 g4:=b4
 have o4:Z9 g4 TO x b c:=b4.extBut _ _ (Qj j2o) o3
 refine wpAny_bind (wpAny_seqItems o4 rfl ?_)
 refine wpAny_bind (Jkn o4 λ g5 o5 b5=>?_);replace o5:Z9 g5 TO x y c:=o5;replace b5:Xl TO g4 g5:=b5
 refine wpAny_bind (wpAny_letGo (wpAny_pure ?_));refine wpAny_bind (wpAny_bind (wpAny_onRaise ?_))
 show Ych _ _ (Ui (.ref j3) >>= _) _ _ _
 refine wpAny_bind (D3.item i _ _ _ l3 (D3.frame _ _ _ st3 λ d hd o e=>b5.extBut d o (J5 D.o3 hd) (b4.extBut d o (J5 D.q23 hd) (b3.extBut d o (J5 D.o3 hd) (b2.extBut d o (J5 D.q13 hd) (b1.extBut d o (J5 D.z3 hd) e))))) λ u g6 t6 pu s36 b6=>wpAny_pure ?_);replace b6:Xl j3 g5 g6:=b6
 have o6:Z9 g6 TO x y c:=b6.extBut _ _ (Qj j3o) o5
 refine wpAny_bind (wpAny_seqItems o6 rfl ?_)
 refine wpAny_bind (Jkn o6 λ g7 o7 b7=>?_);replace o7:Z9 g7 TO x y u:=o7;replace b7:Xl TO g6 g7:=b7
 refine wpAny_bind (wpAny_letGo (wpAny_pure (wpAny_pure ?_)))
 refine wpAny_bind (wpAny_seqItems o7 rfl ?_);refine wpAny_bind (wpAny_newTuple ?_)
 have sz:g7.objs.size=hp.objs.size:=by rw [b7.1,b6.1,b5.1,b4.1,b3.1,b2.1,b1.1]
 have z7:Ycn g7 z TI TO .ellipsis:=b7.extBut _ _ (Qj D.oz) (b6.extBut _ _ (Qj j3z) (b5.extBut _ _ (Qj D.oz) (b4.extBut _ _ (Qj j2z) (b3.extBut _ _ (Qj D.oz) (b2.extBut _ _ (Qj j1z) z1)))))
 have k7:∀ d o,d≠z->d≠TO->d≠j1->d≠j2->d≠j3->hp.get? d=some o->g7.get? d=some o:=λ d o c1 c2 c3 c4 c5 e=>b7.extBut _ _ c2 (b6.extBut _ _ c5 (b5.extBut _ _ c2 (b4.extBut _ _ c4 (b3.extBut _ _ c2 (b2.extBut _ _ c3 (b1.extBut _ _ c1 e))))))
 have s17:St1 (i+1) g7:=D1.frame _ _ _ s12 λ d hd o e=>b7.extBut d o (J5 D.o1 hd) (b6.extBut d o (J5 D.q31 hd) (b5.extBut d o (J5 D.o1 hd) (b4.extBut d o (J5 D.q21 hd) (b3.extBut d o (J5 D.o1 hd) e))))
 have s27:St2 (i+1) g7:=D2.frame _ _ _ s24 λ d hd o e=>b7.extBut d o (J5 D.o2 hd) (b6.extBut d o (J5 D.q32 hd) (b5.extBut d o (J5 D.o2 hd) e))
 have s37:St3 (i+1) g7:=D3.frame _ _ _ s36 λ d hd o e=>b7.extBut d o (J5 D.o3 hd) e
 have zl:z<g7.objs.size:=Qp z7
 show Ych _ _ (J7s (.ref z) (.ref g7.objs.size) >>= _) _ _ _;refine wpAny_bind ?_;unfold J7s
 have z8:Ycn (g7.push { cls:=.type "tuple",data:=.seq #[x,y,u] }) z TI TO .ellipsis:=Qk _ z7
 refine wpAny_bind (wpAny_setField_rec z8 (by first | exact mm0 | exact mm1 | exact mm2 | exact mm3 | exact mm4 | exact mm5 | simp) λ g9 z9 b9=>?_);replace z9:Ycn g9 z TI TO (rawInt g7.objs.size):=z9
 refine wpAny_setField_rec z9 (by first | exact mm0 | exact mm1 | exact mm2 | exact mm3 | exact mm4 | exact mm5 | simp) λ g10 z10 b10=>?_;replace z10:Ycn g10 z TI TO (rawInt g7.objs.size):=z10
 have up:∀ d o,d≠z->g7.get? d=some o->g10.get? d=some o:=λ d o c1 e=>b10.extBut _ _ c1 (b9.extBut _ _ c1 (Qk _ e))
 have t10:Z9 g10 g7.objs.size x y u:=b10.extBut _ _ (U9 zl) (b9.extBut _ _ (U9 zl) (Q5 _ rfl))
 have s10:g10.objs.size=g7.objs.size+1:=by rw [b10.1,b9.1,Xr]
 rw [sz] at z10 t10 s10
 refine wpAny_pure ⟨_,rfl,?_⟩;show Q (.ref g7.objs.size) _;rw [sz]
 exact q x y u g10 t6 px py pu z10 (up _ _ D.oz o7) (D1.frame _ _ _ s17 λ d hd o e=>up d o (J5 D.z1 hd) e) (D2.frame _ _ _ s27 λ d hd o e=>up d o (J5 D.z2 hd) e) (D3.frame _ _ _ s37 λ d hd o e=>up d o (J5 D.z3 hd) e) t10 s10 λ d o c1 c2 c3 c4 c5 e=>up d o c1 (k7 d o c1 c2 c3 c4 c5 e)
theorem Jud {Q:Fin->Ycg->Prop}(D:ZAp3 z TI TO j1 j2 j3 f1 f2 f3) (D1:Ycw prog w A j1 f1 n1 P1 St1) (hz:Ycn s.heap z TI TO .none) (hI:Z9 s.heap TI (.ref j1) (.ref j2) (.ref j3))
 (st1:St1 n1 s.heap) (q:∀ h' e,(∀ d o,d≠z->d≠TO->d≠j1->d≠j2->d≠j3->s.heap.get? d=some o->h'.get? d=some o)->(∃ o,h'.get? e=some o/\o.cls = .type "StopIteration")->E (.ref e) { s with heap:=h' }) :
 Ych (model prog w) A (Builtin.«zip.__next__» ⟨[.ref z],[]⟩) Q E s:=by
 obtain ⟨hp,gg,dd,t0,os⟩:=s
 show Ych _ _ (field (.ref z) 2 >>= _) _ _ _;refine wpAny_bind (wpAny_field hz rfl (x:=.bool false) rfl ?_)
 show Ych _ _ (field (.ref z) 3 >>= _) _ _ _;refine wpAny_bind (wpAny_field hz rfl (x:=.ref TI) rfl ?_)
 refine wpAny_bind (wpAny_seqItems hI rfl ?_)
 show Ych _ _ (J5n (.ref z) >>= _) _ _ _;refine wpAny_bind ?_;unfold J5n
 refine wpAny_bind (wpAny_field hz rfl (x:=.none) rfl (wpAny_pure ?_));simp only [if_true];refine wpAny_bind (wpAny_rule ?_)
 refine wpAny_bind (wpAny_field hz rfl (x:=.ref TO) rfl ?_)
 refine wpAny_bind (wpAny_setField_rec hz (by first | exact mm0 | exact mm1 | exact mm2 | exact mm3 | exact mm4 | exact mm5 | simp) λ g1 z1 b1=>?_);replace z1:Ycn g1 z TI TO .ellipsis:=z1;replace b1:Xl z hp g1:=b1
 refine wpAny_bind ?_;simp only [List.zipIdx_cons,List.zipIdx_nil,J6z,J64]
 refine wpAny_bind (wpAny_bind (wpAny_onRaise ?_))
 show Ych _ _ (Ui (.ref j1) >>= _) _ _ _
 have s11:=D1.frame _ _ _ st1 λ d hd o e=>b1.extBut d o (J5 D.z1 hd) e
 refine wpAny_bind (D1.done _ _ _ s11 λ g2 e b2 he=>?_)
 obtain ⟨oe,hoe,hce⟩:=he
 have z2:Ycn g2 z TI TO .ellipsis:=b2 _ _ (Qj (J5 D.z1 D.m1)) z1
 have ez:e≠z:=λ x=>by subst x;rw [z2] at hoe;cases hoe;simp at hce
 refine wpAny_setField_rec z2 (by first | exact mm0 | exact mm1 | exact mm2 | exact mm3 | exact mm4 | exact mm5 | simp) λ g3 _ b3=>?_
 exact q g3 e (λ d o c1 _ c3 _ _ x=>b3.extBut _ _ c1 (b2 _ _ c3 (b1.extBut _ _ c1 x))) ⟨oe,b3.extBut _ _ ez hoe,hce⟩
end
noncomputable abbrev zt3 (b b' b'':Bool) (h:Heap) (l m k:Addr):Heap:=(zz2 b b' h l m).push (Jbq b'' k)
noncomputable abbrev zt4 (b b' b'':Bool) (h:Heap) (l m k:Addr):Heap:=(zt3 b b' b'' h l m k).push { cls:=.type "tuple",data:=.seq #[.ref h.objs.size,.ref (zz1 b h l).objs.size,.ref (zz2 b b' h l m).objs.size] }
noncomputable abbrev zt5 (b b' b'':Bool) (h:Heap) (l m k:Addr):Heap:=(zt4 b b' b'' h l m k).push { cls:=.type "tuple",data:=.seq #[.none,.none,.none] }
noncomputable abbrev zt6 (b b' b'':Bool) (h:Heap) (l m k:Addr):Heap:=(zt5 b b' b'' h l m k).push { cls:=.type "zip",data:=.fields #[.none,.bool false,.bool false,.ref (zt3 b b' b'' h l m k).objs.size,.ref (zt4 b b' b'' h l m k).objs.size] }
theorem Jue (b b' b'':Bool) (l m k:Addr) (xs ys us:Array Ycf) :
 Meets (Builtin.«zip.__new__» ⟨[.type "zip",.ref l,.ref m,.ref k],[]⟩) (λ _ R s=>Vo b s.heap l xs/\Vo b' s.heap m ys/\Vo b'' s.heap k us /\
  R (.ok (.ret (.ref (zt5 b b' b'' s.heap l m k).objs.size))) { s with heap:=zt6 b b' b'' s.heap l m k }):=
 .of_wp λ prog w A R s h=>by
  obtain ⟨hp,g,d,tk,os⟩:=s;obtain ⟨x1,x2,x3,h⟩:=h
  have hsub:=sub_zip
  have x1':Vo b (J6m ⟨hp,g,d,tk,os⟩) l xs:=x1
  have x2':Vo b' (J6m ⟨hp.push (Jbq b l),g,d,tk,os⟩) m ys:=Vo.at x2 λ o e=>Qk _ e
  have x3':Vo b'' (J6m ⟨(hp.push (Jbq b l)).push (Jbq b' m),g,d,tk,os⟩) k us:=Vo.at x3 λ o e=>Qk _ (Qk _ e)
  wp_walk using W8 x1',W8 x2',W8 x3'
  exact ⟨_,rfl,h⟩
theorem Jif (a b c:Ycf):checkTypeCall "zip" ⟨[a,b,c],[]⟩=pure ():=by kernel_rfl
theorem Jko (a b c:Ycf):checkBuiltinCall "zip.__new__" ⟨[.type "zip",a,b,c],[]⟩=pure ():=by kernel_rfl
theorem Jo5 (a b c d:Ycf):argsOk "object.__init__" ⟨[a,b,c,d],[]⟩:=by
 unfold argsOk;rw [signature?_of (id:="object.__init__") (n:=['_','_','t','i','n','i','_','_']) (o:=['t','c','e','j','b','o']) (by kernel_rfl) F.owner_object];kernel_rfl
theorem Jr7 {prog:Ycj}{w:Yci}{A:Yck}{E:Ycf->Ycg->Prop}{s:Ycg}(b b' b'':Bool) {l m k:Addr}{xs ys us:Array Ycf}{Q:Ycf->Ycg->Prop}(x1:Vo b s.heap l xs) (x2:Vo b' s.heap m ys) (x3:Vo b'' s.heap k us)
 (q:∀ h',Ycn h' (s.heap.objs.size+5) (s.heap.objs.size+3) (s.heap.objs.size+4) .none->Z9 h' (s.heap.objs.size+3) (.ref s.heap.objs.size) (.ref (s.heap.objs.size+1)) (.ref (s.heap.objs.size+2)) ->
  Z9 h' (s.heap.objs.size+4) .none .none .none->ItAt b h' s.heap.objs.size l 0->ItAt b' h' (s.heap.objs.size+1) m 0->ItAt b'' h' (s.heap.objs.size+2) k 0 ->
  (∀ c o,s.heap.get? c=some o->h'.get? c=some o)->Q (.ref (s.heap.objs.size+5)) { s with heap:=h' }) :
 Ych (model prog w) A (call (.type "zip") [.ref l,.ref m,.ref k]) Q E s:=by
 refine Ydy F.called_zip (by decide) (Jif _ _ _) (Jko _ _ _) (λ obj=>Jo5 obj _ _ _) Ya4 (Jue b b' b'' l m k xs ys us) ⟨x1,x2,x3,?_⟩
 have y1:(zz1 b s.heap l).objs.size=s.heap.objs.size+1:=Xr ..
 have y2:(zz2 b b' s.heap l m).objs.size=s.heap.objs.size+2:=by rw [Xr,y1]
 have y3:(zt3 b b' b'' s.heap l m k).objs.size=s.heap.objs.size+3:=by rw [Xr,y2]
 have y4:(zt4 b b' b'' s.heap l m k).objs.size=s.heap.objs.size+4:=by rw [Xr,y3]
 have y5:(zt5 b b' b'' s.heap l m k).objs.size=s.heap.objs.size+5:=by rw [Xr,y4]
 have fr:∀ b l,(Jbq b l).isFreed=false:=λ b l=>by cases b<;>rfl
 have g6:(zt6 b b' b'' s.heap l m k).get? (zt5 b b' b'' s.heap l m k).objs.size=some _:=Q5 _ rfl
 have g5:(zt6 b b' b'' s.heap l m k).get? (zt4 b b' b'' s.heap l m k).objs.size=some _:=Qk _ (Q5 _ rfl)
 have g4:(zt6 b b' b'' s.heap l m k).get? (zt3 b b' b'' s.heap l m k).objs.size=some _:=Qk _ (Qk _ (Q5 _ rfl))
 have g3:(zt6 b b' b'' s.heap l m k).get? (zz2 b b' s.heap l m).objs.size=some _:=Qk _ (Qk _ (Qk _ (Q5 _ (fr b'' k))))
 have g2:(zt6 b b' b'' s.heap l m k).get? (zz1 b s.heap l).objs.size=some _:=Qk _ (Qk _ (Qk _ (Qk _ (Q5 _ (fr b' m)))))
 have g1:(zt6 b b' b'' s.heap l m k).get? s.heap.objs.size=some _:=Qk _ (Qk _ (Qk _ (Qk _ (Qk _ (Q5 _ (fr b l))))))
 show _/\_
 rw [y3,y4,y5] at g6;rw [y1,y2,y3] at g4;rw [y4] at g5;rw [y1] at g2;rw [y2] at g3;rw [y5]
 exact ⟨⟨_,g6,rfl⟩,q _ g6 g4 g5 (Jbr g1) (Jbr g2) (Jbr g3) λ c o x=>Qk _ (Qk _ (Qk _ (Qk _ (Qk _ (Qk _ x)))))⟩
noncomputable def It3 (b b' b'':Bool) (K:Qc) (a c e:Addr):It:=
 ⟨λ i H=>∃ xs ys us x y u,SqK b K H a xs/\SqK b' K H c ys/\SqK b'' K H e us/\xs[i]? = some x/\ys[i]? = some y/\us[i]? = some u,
  λ i H v H'=>∃ p x y u,H p=none/\H'=upd H p (.tup [x,y,u])/\v = .ref p/\(∀ xs,SqK b K H a xs->xs[i]? = some x)/\(∀ ys,SqK b' K H c ys->ys[i]? = some y)/\∀ us,SqK b'' K H e us->us[i]? = some u,
  λ i H=>∃ xs ys us,SqK b K H a xs/\SqK b' K H c ys/\SqK b'' K H e us/\xs.length=i⟩
theorem Jr8 {P:Ycj}{w:Yci}{K:Qc}{es:List Expr}{kk:Nat}{tp:Pos}(b b' b'':Bool) (a c e z TI TO j1 j2 j3:Addr) (dz:[z,TI,TO,j1,j2,j3].Nodup) :
 Turn P w K (.Tuple es kk tp) (It3 b b' b'' K a c e) [z,TI,TO,j1,j2,j3] z (λ i h=>Ycn h z TI TO .none/\Z9 h TI (.ref j1) (.ref j2) (.ref j3)/\(∃ u v x,Z9 h TO u v x)/\ItAt b h j1 a i/\ItAt b' h j2 c i/\ItAt b'' h j3 e i) where
 mem:=by simp
 obj:=λ i h st d hd=>by
  obtain ⟨hz,hI,⟨u,v,x,hO⟩,h1,h2,h3⟩:=st
  simp only [Qg,Uc,or_false] at hd
  rcases hd with rfl | rfl | rfl | rfl | rfl | rfl
  . exact ⟨_,hz,λ v z=>by have z':J7h _=J5h v:=z;cases z'⟩
  . exact ⟨_,hI,λ w z=>by have z':J52 _ _=J5h w:=z;cases z'⟩
  . exact ⟨_,hO,λ w z=>by have z':J52 _ _=J5h w:=z;cases z'⟩
  . exact h1.obj
  . exact h2.obj
  . exact h3.obj
 keep:=λ i h h' st k=>by
  obtain ⟨hz,hI,⟨u,v,x,hO⟩,h1,h2,h3⟩:=st
  exact ⟨k z (by first | exact mm0 | exact mm1 | exact mm2 | exact mm3 | exact mm4 | exact mm5 | simp) _ hz,k TI (by first | exact mm0 | exact mm1 | exact mm2 | exact mm3 | exact mm4 | exact mm5 | simp) _ hI,⟨u,v,x,k TO (by first | exact mm0 | exact mm1 | exact mm2 | exact mm3 | exact mm4 | exact mm5 | simp) _ hO⟩,h1.at λ o q=>k j1 (by first | exact mm0 | exact mm1 | exact mm2 | exact mm3 | exact mm4 | exact mm5 | simp) o q,h2.at λ o q=>k j2 (by first | exact mm0 | exact mm1 | exact mm2 | exact mm3 | exact mm4 | exact mm5 | simp) o q,h3.at λ o q=>k j3 (by first | exact mm0 | exact mm1 | exact mm2 | exact mm3 | exact mm4 | exact mm5 | simp) o q⟩
 item:=by
  intro X hP hw hK hc i pins s σ H E I hf st hg
  subst hP hw hK
  obtain ⟨xs,ys,us,x,y,t,hq,hq',hq'',hx,hy,ht⟩:=hg
  obtain ⟨its,rv,p,_⟩:=I.seqK hq
  obtain ⟨its',rv',p',_⟩:=I.seqK hq'
  obtain ⟨its'',rv'',p'',_⟩:=I.seqK hq''
  obtain ⟨u,hu,ru⟩:=rv.get hx
  obtain ⟨u',hu',ru'⟩:=rv'.get hy
  obtain ⟨u'',hu'',ru''⟩:=rv''.get ht
  obtain ⟨hz,hI,⟨o1,o2,o3,hO⟩,h1,h2,h3⟩:=st
  have na:=λ d hd=>I.seqK_ne hq (hf d hd)
  have na':=λ d hd=>I.seqK_ne hq' (hf d hd)
  have na'':=λ d hd=>I.seqK_ne hq'' (hf d hd)
  simp only [Xm,Qg,Uc,or_false,not_or] at dz
  obtain ⟨⟨d1,d2,d3,d4,d5⟩,⟨d6,d7,d8,d9⟩,⟨d10,d11,d12⟩,⟨d13,d14⟩,d15,_⟩:=dz
  have hlt:i<its.toArray.size:=by have:=(Qr.mp hu).1;simpa using this
  have hlt':i<its'.toArray.size:=by have:=(Qr.mp hu').1;simpa using this
  have hlt'':i<its''.toArray.size:=by have:=(Qr.mp hu'').1;simpa using this
  have nm:∀ {x y z:Addr},x≠y->z≠x->x∉[y,z]:=λ h1 h2=>by simp;exact ⟨h1,Qj h2⟩
  have D:ZAp3 z TI TO j1 j2 j3 [j1,a] [j2,c] [j3,e]:=⟨by simp,by simp,by simp,nm d3 (na z (by first | exact mm0 | exact mm1 | exact mm2 | exact mm3 | exact mm4 | exact mm5 | simp)),nm d4 (na' z (by first | exact mm0 | exact mm1 | exact mm2 | exact mm3 | exact mm4 | exact mm5 | simp)),nm d5 (na'' z (by first | exact mm0 | exact mm1 | exact mm2 | exact mm3 | exact mm4 | exact mm5 | simp)),nm d10 (na TO (by first | exact mm0 | exact mm1 | exact mm2 | exact mm3 | exact mm4 | exact mm5 | simp)),nm d11 (na' TO (by first | exact mm0 | exact mm1 | exact mm2 | exact mm3 | exact mm4 | exact mm5 | simp)),nm d12 (na'' TO (by first | exact mm0 | exact mm1 | exact mm2 | exact mm3 | exact mm4 | exact mm5 | simp)),
   nm d13 (na' j1 (by first | exact mm0 | exact mm1 | exact mm2 | exact mm3 | exact mm4 | exact mm5 | simp)),nm d14 (na'' j1 (by first | exact mm0 | exact mm1 | exact mm2 | exact mm3 | exact mm4 | exact mm5 | simp)),nm (Qj d13) (na j2 (by first | exact mm0 | exact mm1 | exact mm2 | exact mm3 | exact mm4 | exact mm5 | simp)),nm d15 (na'' j2 (by first | exact mm0 | exact mm1 | exact mm2 | exact mm3 | exact mm4 | exact mm5 | simp)),nm (Qj d14) (na j3 (by first | exact mm0 | exact mm1 | exact mm2 | exact mm3 | exact mm4 | exact mm5 | simp)),nm (Qj d15) (na' j3 (by first | exact mm0 | exact mm1 | exact mm2 | exact mm3 | exact mm4 | exact mm5 | simp)),Qj d1,d6,d7,d8,d9,Qj d2⟩
  have hT:s.TypeIs (.ref z) "zip":=⟨_,hz,rfl⟩
  unfold pyNext
  refine wpAny_bind (wpAny_attempt (Yc1 (name:=J5j "__next__") hT J5o (wpAny_call_entry J5o hT J7t
   (Jr6 D (Wq b (A:=X.A.in1) (I.ok.hd hc) j1 a (na j1 (by first | exact mm0 | exact mm1 | exact mm2 | exact mm3 | exact mm4 | exact mm5 | simp)) its.toArray) (Wq b' (A:=X.A.in1) (I.ok.hd hc) j2 c (na' j2 (by first | exact mm0 | exact mm1 | exact mm2 | exact mm3 | exact mm4 | exact mm5 | simp)) its'.toArray) (Wq b'' (A:=X.A.in1) (I.ok.hd hc) j3 e (na'' j3 (by first | exact mm0 | exact mm1 | exact mm2 | exact mm3 | exact mm4 | exact mm5 | simp)) its''.toArray) hz hI hO ⟨h1,p⟩ ⟨h2,p'⟩ ⟨h3,p''⟩ hlt hlt' hlt''
    λ v v' v'' g1 tk e1 e2 e3 z1 O1 s1 s2 s3 T1 sz1 k1=>wpAny_pure ?_) (J7u _))))
  have ev:v=u:=by
   have e1:its.toArray[i]? = some v:=e1
   have:its[i]? = some v:=by simpa using e1
   rw [hu] at this;exact (Xd this).symm
  have ev':v'=u':=by
   have e2:its'.toArray[i]? = some v':=e2
   have:its'[i]? = some v':=by simpa using e2
   rw [hu'] at this;exact (Xd this).symm
  have ev'':v''=u'':=by
   have e3:its''.toArray[i]? = some v'':=e3
   have:its''[i]? = some v'':=by simpa using e3
   rw [hu''] at this;exact (Xd this).symm
  subst ev ev' ev''
  refine ⟨_,rfl,Yd4 z1 λ g2 z2 b2=>?_⟩
  replace b2:Xl z g1 g2:=b2
  have hzs:z<s.heap.objs.size:=Qp hz
  have kk:∀ d o,d∉[z,TI,TO,j1,j2,j3]->s.heap.get? d=some o->g2.get? d=some o:=λ d o hd q=>by
   have h1':d≠z:=(by first | exact mn0 hd | exact mn1 hd | exact mn2 hd | exact mn3 hd | exact mn4 hd | exact mn5 hd)
   exact b2.extBut _ _ h1' (k1 d o h1' (by first | exact mn0 hd | exact mn1 hd | exact mn2 hd | exact mn3 hd | exact mn4 hd | exact mn5 hd) (by first | exact mn0 hd | exact mn1 hd | exact mn2 hd | exact mn3 hd | exact mn4 hd | exact mn5 hd) (by first | exact mn0 hd | exact mn1 hd | exact mn2 hd | exact mn3 hd | exact mn4 hd | exact mn5 hd) (by first | exact mn0 hd | exact mn1 hd | exact mn2 hd | exact mn3 hd | exact mn4 hd | exact mn5 hd) q)
  refine ⟨.ref s.heap.objs.size,upd H s.heap.objs.size (.tup [x,y,t]),I.turnLay (t':=tk) kk hf (Qn _) ?_,rfl,⟨_,x,y,t,I.hok.fresh (Qn _),rfl,rfl,λ zs hy=>by rw [I.seqK_inj hy hq];exact hx,λ zs hy'=>by rw [I.seqK_inj hy' hq'];exact hy,λ zs hy''=>by rw [I.seqK_inj hy'' hq''];exact ht⟩,
   ⟨z2,b2.extBut _ _ (Qj d1) (k1 _ _ (Qj d1) d6 d7 d8 d9 hI),⟨_,_,_,b2.extBut _ _ (Qj d2) O1⟩,s1.1.at λ o q=>b2.extBut _ _ (Qj d3) q,s2.1.at λ o q=>b2.extBut _ _ (Qj d4) q,s3.1.at λ o q=>b2.extBut _ _ (Qj d5) q⟩,λ d hd=>?_⟩
  . exact ⟨by simp [Ycl],[v,v',v''],.cons ru (.cons ru' (.cons ru'' .nil)),_,b2.extBut _ _ (U9 hzs) T1,rfl,0,rfl⟩
  . have lt:d<s.heap.objs.size:=by
     have hd':=hd
     simp only [Qg,Uc,or_false] at hd'
     rcases hd' with rfl | rfl | rfl | rfl | rfl | rfl
     . exact hzs
     . exact Qp hI
     . exact Qp hO
     . obtain ⟨o,q,_⟩:=h1.obj;exact Qp q
     . obtain ⟨o,q,_⟩:=h2.obj;exact Qp q
     . obtain ⟨o,q,_⟩:=h3.obj;exact Qp q
    rw [Ji (Xf lt)]
    exact (hf d hd).1
 done:=by
  intro X hP hw hK hc i pins s σ H E I hf st hg
  subst hP hw hK
  obtain ⟨xs,ys,us,hq,hq',hq'',hm⟩:=hg
  obtain ⟨its,rv,p,_⟩:=I.seqK hq
  obtain ⟨hz,hI,⟨o1,o2,o3,hO⟩,h1,h2,h3⟩:=st
  have na:=λ d hd=>I.seqK_ne hq (hf d hd)
  have na':=λ d hd=>I.seqK_ne hq' (hf d hd)
  have na'':=λ d hd=>I.seqK_ne hq'' (hf d hd)
  simp only [Xm,Qg,Uc,or_false,not_or] at dz
  obtain ⟨⟨d1,d2,d3,d4,d5⟩,⟨d6,d7,d8,d9⟩,⟨d10,d11,d12⟩,⟨d13,d14⟩,d15,_⟩:=dz
  have nm:∀ {x y z:Addr},x≠y->z≠x->x∉[y,z]:=λ h1 h2=>by simp;exact ⟨h1,Qj h2⟩
  have D:ZAp3 z TI TO j1 j2 j3 [j1,a] [j2,c] [j3,e]:=⟨by simp,by simp,by simp,nm d3 (na z (by first | exact mm0 | exact mm1 | exact mm2 | exact mm3 | exact mm4 | exact mm5 | simp)),nm d4 (na' z (by first | exact mm0 | exact mm1 | exact mm2 | exact mm3 | exact mm4 | exact mm5 | simp)),nm d5 (na'' z (by first | exact mm0 | exact mm1 | exact mm2 | exact mm3 | exact mm4 | exact mm5 | simp)),nm d10 (na TO (by first | exact mm0 | exact mm1 | exact mm2 | exact mm3 | exact mm4 | exact mm5 | simp)),nm d11 (na' TO (by first | exact mm0 | exact mm1 | exact mm2 | exact mm3 | exact mm4 | exact mm5 | simp)),nm d12 (na'' TO (by first | exact mm0 | exact mm1 | exact mm2 | exact mm3 | exact mm4 | exact mm5 | simp)),
   nm d13 (na' j1 (by first | exact mm0 | exact mm1 | exact mm2 | exact mm3 | exact mm4 | exact mm5 | simp)),nm d14 (na'' j1 (by first | exact mm0 | exact mm1 | exact mm2 | exact mm3 | exact mm4 | exact mm5 | simp)),nm (Qj d13) (na j2 (by first | exact mm0 | exact mm1 | exact mm2 | exact mm3 | exact mm4 | exact mm5 | simp)),nm d15 (na'' j2 (by first | exact mm0 | exact mm1 | exact mm2 | exact mm3 | exact mm4 | exact mm5 | simp)),nm (Qj d14) (na j3 (by first | exact mm0 | exact mm1 | exact mm2 | exact mm3 | exact mm4 | exact mm5 | simp)),nm (Qj d15) (na' j3 (by first | exact mm0 | exact mm1 | exact mm2 | exact mm3 | exact mm4 | exact mm5 | simp)),Qj d1,d6,d7,d8,d9,Qj d2⟩
  have hl:=rv.length
  have hn:its.toArray.size=i:=by simp;omega
  have hT:s.TypeIs (.ref z) "zip":=⟨_,hz,rfl⟩
  unfold pyNext
  refine wpAny_bind (wpAny_attempt (Yc1 (name:=J5j "__next__") hT J5o (wpAny_call_entry J5o hT J7t
   (Jud D (Wq b (A:=X.A.in1) (I.ok.hd hc) j1 a (na j1 (by first | exact mm0 | exact mm1 | exact mm2 | exact mm3 | exact mm4 | exact mm5 | simp)) its.toArray) hz hI (by rw [hn];exact ⟨h1,p⟩) λ g1 e' k1 he=>?_) (J7u _))))
  obtain ⟨o,ho,hcl⟩:=he
  refine wpAny_bind (wpAny_isInstance (T:="StopIteration") (b:=true) ⟨o,ho,hcl⟩ isSubtype_stop (wpAny_pure ⟨rfl,?_⟩))
  exact I.turnedL (t':=s.toks) (λ d o hd q=>k1 d o (by first | exact mn0 hd | exact mn1 hd | exact mn2 hd | exact mn3 hd | exact mn4 hd | exact mn5 hd) (by first | exact mn0 hd | exact mn1 hd | exact mn2 hd | exact mn3 hd | exact mn4 hd | exact mn5 hd) (by first | exact mn0 hd | exact mn1 hd | exact mn2 hd | exact mn3 hd | exact mn4 hd | exact mn5 hd) (by first | exact mn0 hd | exact mn1 hd | exact mn2 hd | exact mn3 hd | exact mn4 hd | exact mn5 hd) (by first | exact mn0 hd | exact mn1 hd | exact mn2 hd | exact mn3 hd | exact mn4 hd | exact mn5 hd) q) hf
 self:=λ _ _ _ _ _ st q=>Ydn st.1 q
section
variable {X:Cx}{es:List Expr}{kk:Nat}{tp:Pos}
def Jzj (K:Qc) (ta:TA):TI:=λ σ H R=>ta σ H λ vs H1=>∃ b b' b'' l m k xs ys us,vs=[.ref l,.ref m,.ref k]/\SqK b K H1 l xs/\SqK b' K H1 m ys/\SqK b'' K H1 k us/\R (It3 b b' b'' K l m k) H1
theorem Jxe {a b c:Expr}{ta:TA}{p pos:Pos}(hg:Gl X "zip") (hm:X.mg "zip" = none) (ha:PA X [a,b,c] ta) (hs:starEach [a,b,c] X.env=(false,eval a X.env)::starEach [b,c] X.env:=by rfl) (hp:(backTo pos (starEach [b,c] X.env)).any (·.1)=false:=by rfl) :
 PI X (.Tuple es kk tp) (.Call (.Name "zip" p) [a,b,c] [] pos) (Jzj X.K ta):=by
 intro pins s σ H R I h
 refine Call_ (Jbi I hg hm boot_zip (J6c (thn (ha pos pins s σ H _ I h) λ us s1 ⟨vs,H1,I1,r1,q1⟩=>?_) hs hp))
 obtain ⟨b,b',b'',l,m,k,xs,ys,zs,e,hq,hq',hq'',q⟩:=q1
 subst e
 cases r1 with
 | cons ru r1=>cases r1 with
  | cons ru' r1=>cases r1 with
   | cons ru'' r1=>
    cases r1
    cases ru
    cases ru'
    cases ru''
    obtain ⟨its,rv,p,_⟩:=I1.seqK hq
    obtain ⟨its',rv',p',_⟩:=I1.seqK hq'
    obtain ⟨its'',rv'',p'',_⟩:=I1.seqK hq''
    refine Jr7 b b' b'' p p' p'' λ h1 hz hI hO i1 i2 i3 hk=>Ydn hz ?_
    refine ⟨_,[s1.heap.objs.size+5,s1.heap.objs.size+3,s1.heap.objs.size+4,s1.heap.objs.size,s1.heap.objs.size+1,s1.heap.objs.size+2],_,_,H1,rfl,I1.kept (t':=s1.toks) hk,Jr8 b b' b'' l m k _ _ _ _ _ _ (by first | exact mm0 | exact mm1 | exact mm2 | exact mm3 | exact mm4 | exact mm5 | simp),⟨hz,hI,⟨_,_,_,hO⟩,i1,i2,i3⟩,λ c hc=>?_,q⟩
    have hc':s1.heap.objs.size<=c:=by
     simp only [Qg,Uc,or_false] at hc
     rcases hc with rfl | rfl | rfl | rfl | rfl | rfl
     . exact Ut _ _
     . exact Ut _ _
     . exact Ut _ _
     . exact Qn _
     . exact Ut _ _
     . exact Ut _ _
    exact I1.fpOk hc' (I1.hok.fresh hc')
end
end L2
namespace My
open L2
theorem Jkp (ns:List Int):(J57 (ns.map Qo)).canLay0=true:=by rw [Uj];exact W2 ns
end My
namespace L2
section
variable {X:Cx}
def Jzk (K:Qc):R2:=λ x y H Q=>∃ a b xs ys,x = .ref a/\y = .ref b/\SqT K H a xs/\SqT K H b ys/\xs.length+ys.length<=sizeLine /\
 (xs=[]->Q (.ref b) H)/\(xs≠[]->ys=[]->Q (.ref a) H)/\(xs≠[]->ys≠[]->∀ p,H p=none->Q (.ref p) (upd H p (.tup (xs++ys))))
theorem Jqg:OpR X (binaryOp .Add) (Jzk X.K):=by
 intro pins s σ H x y v u Q I rx ry h
 obtain ⟨a,b,xs,ys,rfl,rfl,ha,hb,hz,q0,q1,q2⟩:=h
 by_cases hx:xs=[]
 . cases rx
   cases ry
   obtain ⟨its,r1,⟨⟨cls,dd,data,sl⟩,ho,hc,n,hd⟩,_⟩:=I.tuple ha
   obtain ⟨its2,r2,⟨⟨cls2,dd2,data2,sl2⟩,ho2,hc2,n2,hd2⟩,_⟩:=I.tuple hb
   simp only at hc hd hc2 hd2
   subst hc hd hc2 hd2
   have hi:its=[]:=r1.nil_iff.mpr hx
   exact Ydp ⟨_,ho,rfl⟩ ⟨_,ho2,rfl⟩ Ydq Ydr J8n J8o (J8p _ _) (tuple_addW0 a b its.toArray its2.toArray n n2 dd dd2 sl sl2 (by simp [hi])) ⟨ho,ho2,.ref b,H,I,rfl,q0 hx⟩
 . exact Jw5 pins s σ H (.ref a) (.ref b) v u Q I rx ry ⟨a,b,xs,ys,rfl,rfl,ha,hb,hx,hz,q1 hx,q2 hx⟩
end
end L2
namespace My
open L2
noncomputable def Jdl (xs:List Yce) (lo hi:Option Int):List Yce:=(xs.drop (HT.sIx xs.length 0 lo)).take (HT.sIx xs.length xs.length hi-HT.sIx xs.length 0 lo)
theorem Ji3 (xs:List Yce) (k:Nat):Jdl xs none (some (k:Int))=xs.take k:=by
 unfold Jdl
 rw [HT.sIx_none,HT.sIx_nat,List.drop_zero,Nat.sub_zero]
 rcases Nat.le_total k xs.length with h | h
 . rw [Ya7 h]
 . rw [Ya8 h,J51 (Qn _),J51 h]
theorem Jb8 (xs:List Yce) (k:Nat):Jdl xs (some (k:Int)) none=xs.drop k:=by
 unfold Jdl
 rw [HT.sIx_none,HT.sIx_nat]
 rcases Nat.le_total k xs.length with h | h
 . rw [Ya7 h,J51 (by rw [U7];omega)]
 . rw [Ya8 h,Ya9 (Qn _),Ya9 h];simp
noncomputable def nnD (x:Yce):Bool:=match x with | .int i=>decide (0<=i) | _=>false
noncomputable def Jqh (d:Yce) (n:Int):Bool:=match d with
 | .tuple xs=>decide ((xs.length:Int)=n)&&xs.all nnD
 | _=>false
def Jo6:Sp:=λ vs H Q _=>∃ ex d v n,vs=[v,.int n]/\Rep ex H d v/\∀ H',Kp [] H H'->Q (.bl (Jqh d n)) H'
theorem Jr9 {d:Yce}{n:Int}(h:Jru d n=false):Jqh d n=false:=by
 cases d with
 | tuple xs=>
  have h:decide ((xs.length:Int)=n)=false:=h
  show (decide ((xs.length:Int)=n)&&xs.all nnD)=false
  rw [h];rfl
 | _=>rfl
theorem Juf {d:Yce}{n:Int}(h:Jru d n=true):∃ xs,d = .tuple xs/\(xs.length:Int)=n:=by
 cases d with
 | tuple xs=>exact ⟨xs,rfl,by simpa [Jru] using h⟩
 | _=>cases h
structure Tape (H:Hp) (p c:Addr) (n:Nat):Prop where
 ex:∃ (ns:List Int) (k g:Int),H p=some (.lst [.ref c,.int k,.int g])/\H c=some (.lst (ns.map V.int))/\ns.length<=63/\0<=k/\k<=n
theorem Tape.fresh {H:Hp}{p c l:Addr}{n:Nat}(J:Tape H p c n) (h:H l=none):l∉[p,c]:=by
 obtain ⟨ns,k,g,h1,h2,_⟩:=J.ex
 intro z
 rcases Qg.mp z with rfl | z
 . rw [h] at h1;cases h1
 . cases Qm.mp z;rw [h] at h2;cases h2
theorem Kp.late {ex:List Addr}{H1 H2:Hp}{a:Addr}(k:Kp ex H1 H2) (h:H1 a=none) (o:HO):Kp ex H1 (upd H2 a o):=λ b v e n=>by
 rw [Ji (Jk e h)];exact k b v e n
theorem J4n (k:Nat):(Qy k [V.int 0]).flatten=(Qy k (0:Int)).map V.int:=by
 induction k with
 | zero=>rfl
 | succ k ih=>rw [Us,J5k,ih,Us];rfl
section
variable {X:Cx}{pos:Pos}{k:Nat}
end
end My
namespace L2
section
variable {X:Cx}
end
end L2
namespace My
open L2
theorem Jqi {X:Cx}{es:List Expr}{kk:Nat}{tp:Pos}{K':Qc}{a b:Expr}{ta:TA}{p pos:Pos}(hK:X.K=K') (hg:Gl X "zip") (hm:X.mg "zip" = none) (ha:PA X [a,b] ta) (hs:starEach [a,b] X.env=[(false,eval a X.env),(false,eval b X.env)]:=by rfl) (hs2:starEach [b] X.env=[(false,eval b X.env)]:=by rfl) :
 PI X (.Tuple es kk tp) (.Call (.Name "zip" p) [a,b] [] pos) (Jua K' ta):=hK▸Ja3 hg hm ha hs hs2
section
variable {p c sl:Addr}{R U:Int}{ws:List Way}{bv:V}{sums:List (List Int×List Int)}{svs:List V}{H H':Hp}{n m:Nat}
end
end My
namespace L2
section
variable {P:Ycj}{w:Yci}{H H':Hp}{h h':Heap}{a:Addr}{o:HO}
theorem Y1.there (x:Y1 P w H h a o):∃ ob,h.get? a=some ob:=by
 cases o with
 | lst xs=>obtain ⟨_,_,_,_,e⟩:=x;exact ⟨_,e⟩
 | tup xs=>obtain ⟨_,_,_,ob,e,_⟩:=x;exact ⟨_,e⟩
 | dK kvs=>obtain ⟨_,_,_,_,o,_,_,e,_⟩:=x;exact ⟨_,e⟩
 | dT kvs=>obtain ⟨_,_,_,_,o,_,_,e,_⟩:=x;exact ⟨_,e⟩
 | set S n=>obtain ⟨o,_,_,_,e,_⟩:=x;exact ⟨_,e⟩
 | ins C dx fs=>obtain ⟨_,_,_,e,_⟩:=x;exact ⟨_,e⟩
 | own y=>obtain ⟨_,e⟩:=x;exact ⟨_,e⟩
 | xd fs=>obtain ⟨_,⟨_,_,_,e,_⟩,_⟩:=x;exact ⟨_,e⟩
 | rng lo hi=>obtain ⟨_,_,_,e⟩:=x;exact ⟨_,e⟩
 | frz ob u=>obtain ⟨e,_⟩:=x;exact ⟨_,e⟩
 | tbl ps=>exact ⟨_,(show h.get? a=some _ from x)⟩
 | met f y=>exact ⟨_,(show h.get? a=some _ from x)⟩
 | ext φ=>obtain ⟨_,e,_⟩:=x;exact e
theorem HOk.there (x:HOk P w H h) (e:H a=some o):∃ ob,h.get? a=some ob:=(x a o e).there
theorem HOk.keptT (x:HOk P w H h) (k:∀ b u,(H b).isSome=true->h.get? b=some u->h'.get? b=some u):HOk P w H h':=λ a o e=>
 (x a o e).stay (λ b u hb q=>k b u (by
  rcases hb with rfl | hb
  . rw [e];rfl
  . rw [hb];rfl) q) (λ _ q=>q) λ _ _ q=>q
end
structure Fly (P:Ycj) (w:Yci) (outer:List Env) (H:Hp) (s:Ycg) (H':Hp) (ea:Addr) (cls:Ycf) (s':Ycg):Prop where
 os:s'.os=s.os
 bare:Ycy s'.gens
 un:Un (frs outer) [] H H' s.heap s'.heap
 hok:HOk P w H' s'.heap
 fl:∃ (B:Heap) (t:Addr),(∀ b o,s'.heap.get? b=some o->((H' b).isSome=true\/∃ o₀,s.heap.get? b=some o₀)->b∉frs outer->B.get? b=some o)/\J9b B outer ea cls (.ref t) s'.heap
def CX1 (P:Ycj) (w:Yci):CXT:=λ outer H s E e s'=>∃ ea cls H',e = .ref ea/\Fly P w outer H s H' ea cls s'/\E cls none H'
section
variable {X:Cx}{pins:List (Addr×Obj)}{σ:St}{H H':Hp}{s s':Ycg}
theorem Inv.old_ne (I:Inv X pins σ H s) {b:Addr}{o:Obj}(q:X.s₀.heap.get? b=some o):b≠X.env.locals:=λ z=>by
 have:=Qp q
 rw [z] at this
 exact absurd (Xn this I.ok.above) (Xe _)
theorem Inv.old_stk (I:Inv X pins σ H s) {b:Addr}{o:Obj}(q:X.s₀.heap.get? b=some o) (n:b∉X.fs):b∉frs X.stack:=λ z=>by
 rcases Qg.mp (I.stkSub b z) with z | z
 . exact I.old_ne q z
 . exact n z
theorem Inv.fly (I:Inv X pins σ H s) (hex:X.ex=[]) {B h':Heap}{ea t:Addr}{cls:Ycf}(hB:∀ b o,s.heap.get? b=some o->((H b).isSome=true\/∃ o₀,X.s₀.heap.get? b=some o₀)->b∉frs X.stack->B.get? b=some o)
 (fl:J9b B X.outer ea cls (.ref t) h') (us:s.heap.UpToSlots h') (os:s'.os=s.os) (hg:Ycy s'.gens) (hh:s'.heap=h'):Fly X.prog X.w X.outer X.H₀ X.s₀ H ea cls s':=by
 subst hh
 have nex:∀ b,b∉X.ex:=λ b=>by rw [hex];simp
 have fdata:∀ b o,X.s₀.heap.get? b=some o->b∈X.fs->∀ vs,o.data≠.fields vs:=λ b o q hb vs=>by
  obtain ⟨_,o',ho',hd⟩:=I.ok.funs.mem hb
  rw [q] at ho';cases ho'
  exact hd vs
 have trk:∀ b,(H b).isSome=true->b∉frs X.stack:=λ b hb z=>by rw [I.stkFree b z] at hb;cases hb
 have kt:∀ b u,(H b).isSome=true->s.heap.get? b=some u->s'.heap.get? b=some u:=λ b u hb q=>fl.1 b u (hB b u q (.inl hb) (trk b hb))
 refine ⟨os.trans I.os,hg,⟨λ b o q n hb _=>?_,λ b o q n hb _=>?_,λ b o q n _=>I.base.free b o q n (nex b),λ b o q _=>?_,I.base.tups,I.base.frzs,I.base.tbls⟩,I.hok.keptT kt,B,t,λ b o q hb hn=>?_,fl⟩
 . exact fl.1 b o (hB b o (I.base.keep b o q n hb (nex b)) (.inr ⟨o,q⟩) (I.old_stk q hb))
 . obtain ⟨sl,e⟩:=I.base.slot b o q n hb (nex b)
   obtain ⟨sl',e'⟩:=us b _ e (fdata b o q hb)
   exact ⟨sl',e'⟩
 . obtain ⟨o',e⟩:=I.base.there b o q (nex b)
   by_cases hb:b∈X.fs
   . obtain ⟨sl,e2⟩:=I.base.slot b o q (I.ok.frf b hb) hb (nex b)
     obtain ⟨sl',e'⟩:=us b _ e2 (fdata b o q hb)
     exact ⟨_,e'⟩
   . exact ⟨o',fl.1 b o' (hB b o' e (.inr ⟨o,q⟩) (I.old_stk q hb))⟩
 . rcases hb with hb | ⟨o₀,hb⟩
   . obtain ⟨v,hv⟩:=J8m.mp hb
     obtain ⟨u,hu⟩:=I.hok.there hv
     have e:=hB b u hu (.inl hb) (trk b hb)
     have e2:=fl.1 b u e
     rw [q] at e2;cases e2
     exact e
   . obtain ⟨u,hu⟩:=I.base.there b o₀ hb (nex b)
     have e:=hB b u hu (.inr ⟨o₀,hb⟩) (I.old_stk hb hn)
     have e2:=fl.1 b u e
     rw [q] at e2;cases e2
     exact e
end
section
variable {P:Ycj}{w:Yci}{K:Qc}{mg:Str->Option Ycf}{base:Heap}{N:List Str}{qual:Str}{scope:Ycm}{f:Addr}{cd:Ycf}{A:Yck}{outer:List Env}{s₀:Ycg}{H₀:Hp}{E:XK}
theorem Jxf {pins:List (Addr×Obj)}{σ:St}{H:Hp}{s:Ycg}{h1:Heap}{ea:Addr}{cls:Ycf}{vs:List Ycf}(I:Inv (Jaz (CX1 P w) P w K mg base N qual scope f cd A outer s₀ H₀ E) pins σ H s) (hx:Heap.MadeExcOf s.heap h1 ea cls vs) (hE:E cls none H) :
 (Jaz (CX1 P w) P w K mg base N qual scope f cd A outer s₀ H₀ E).xe (.ref ea) { s with heap:=h1 }:=by
 have hin:∀ env∈(Jaz (CX1 P w) P w K mg base N qual scope f cd A outer s₀ H₀ E).stack,∀ a,env.frame=some a->a∈frs (Jaz (CX1 P w) P w K mg base N qual scope f cd A outer s₀ H₀ E).stack:=λ env he b hb=>J8h.mpr ⟨env,he,hb⟩
 refine wpAny_leaves_madeW (L:=s₀.heap.objs.size) (base:=J90 s.heap (frs (Jaz (CX1 P w) P w K mg base N qual scope f cd A outer s₀ H₀ E).stack)) (h:=s.heap) I.ok.frames rfl (λ b o q=>J92 _ q) (PySem.W.funFrames_hide I.stack hin) hx λ h' t x1 x2 x3 x4=>⟨ea,cls,H,rfl,?_,hE⟩
 exact I.fly rfl (λ b o q _ hn=>J91 _ q hn) x1 ((Yca hx.keeps).trans x4) rfl I.bare rfl
end
open PySem.W Builtin Builtin.ObjectAttr Builtin.Getset_descriptor
def OfC (x D:Addr) (h:Heap):Prop:=∃ o,h.get? x=some o/\o.cls = .ref D
section
variable {prog:Ycj}{w:Yci}{A:Yck}{E:Ycf->Ycg->Prop}{s:Ycg}{K:Qc}{x D:Addr}{R:Yc5->Ycg->Prop}
theorem OfC.ty {M:Model}{h:Heap}(I:OfC x D h):Looks M h (typeOf (.ref x)) (.ref D):=by
 obtain ⟨o,e,c⟩:=I
 exact c▸(Looks.ld e).andThen .now
end
noncomputable def J1b:List Ycf:=[.type "ValueError",.type "Exception",.type "BaseException",.type "object"]
structure RCl (K:Qc) (mg:Str->Option Ycf) (x:Str) (C:Addr):Prop where
 b:mg x=some (.ref C)
 e:J9c K C J1b "ValueError.__new__" = true
theorem RCl.own {K:Qc}{mg:Str->Option Ycf}{x:Str}{C:Addr}{h:Heap}(r:RCl K mg x C) (X:K.In h):OwnCls x C J1b "ValueError.__new__" mg h:=by
 have z:=r.e
 unfold J9c at z
 split at z
 case h_2=>cases z
 case h_1 dd cd sl ho=>
  split at z
  case h_2=>cases z
  case h_1 C' bm k0 k1 k2 k3 n k5 hm hs=>
   simp only [Xg,beq_iff_eq,Bool.not_eq_true'] at z
   obtain ⟨⟨⟨⟨⟨rfl,rfl⟩,hdel⟩,ht⟩,hok⟩,hni⟩:=z
   obtain ⟨nm,bs,mro,ns,qn,hd,sn,sub,ab,col,del⟩:=cd
   dsimp only at hm hdel hok hni
   have es:sl = #[k0,k1,k2,k3,some (.builtin "ValueError.__new__"),k5]:=by
    cases sl with | mk l=>exact congrArg Array.mk hs
   subst hm hdel es
   exact ⟨r.b,bm,ns,nm,qn,bs,hd,sn,sub,ab,col,dd,k0,k1,k2,k3,k5,_,X _ _ ho,.of_isNs (PySem.W.isNs_of_in X hok),PySem.W.nsMap_none_of_in X hok hni,PySem.W.tail_of_in X ht⟩
def Jug (C:Addr) (E:XK) (t:TA):TS:=λ D σ H=>t σ H λ vs H1=>vs.length<=sizeLine/\E (.ref C) none H1
section
variable {P:Ycj}{w:Yci}{K:Qc}{mg:Str->Option Ycf}{base:Heap}{N:List Str}{qual:Str}{scope:Ycm}{f:Addr}{cd:Ycf}{A:Yck}{outer:List Env}{s₀:Ycg}{H₀:Hp}{E:XK}
 {x:Str} {C:Addr} {e:Expr} {es:List Expr} {np cpos pos:Pos} {t:TA}
theorem Juh (r:RCl K mg x C) (hg:Gl (Jaz (CX1 P w) P w K mg base N qual scope f cd A outer s₀ H₀ E) x) (ha:PA (Jaz (CX1 P w) P w K mg base N qual scope f cd A outer s₀ H₀ E) (e::es) t)
 (he:starEach (e::es) (Jaz (CX1 P w) P w K mg base N qual scope f cd A outer s₀ H₀ E).env=(false,eval e (Jaz (CX1 P w) P w K mg base N qual scope f cd A outer s₀ H₀ E).env)::starEach es (Jaz (CX1 P w) P w K mg base N qual scope f cd A outer s₀ H₀ E).env:=by rfl)
 (hpl:(backTo cpos (starEach es (Jaz (CX1 P w) P w K mg base N qual scope f cd A outer s₀ H₀ E).env)).any (·.1)=false:=by rfl) (hdb:(x==("__debug__":Str))=false:=by decide) :
 PS (Jaz (CX1 P w) P w K mg base N qual scope f cd A outer s₀ H₀ E) (.Raise (some (.Call (.Name x np) (e::es) [] cpos)) none pos) (Jug C E t):=by
 intro pins s σ H D I h
 obtain ⟨tl,Nn,nm,q,bs,hdct,sn,sub,ab,col,dd,k0,k1,k2,k3,k5,mN,hC,hN,hni,T⟩:=(r.own I.ok.mod.kin).obj
 refine wpAny_Raise_call_subT (C:=C) (nm:=nm) (q:=q) (N:=Nn) (bs:=bs) (bm:=tl) (hdct:=hdct) (sn:=sn) (sub:=sub) (ab:=ab) (col:=col) (dd:=dd) (k0:=k0) (k1:=k1) (k2:=k2) (k3:=k3) (k5:=k5)
  Yba (mN:=mN) (T.hasType Yba.hasBase) (I.ok.hd rfl) (by rw [he];exact (J8x _).trans hpl) hni (Jfm I hg r.b ⟨rfl,?_⟩ hdb)
 have hA:=ha cpos pins s σ H _ I h
 rw [he] at hA ⊢
 refine J7n (thn hA λ us s1 ⟨vs,H1,I1,rv,hz,hE⟩=>?_)
 exact ⟨rfl,by show us.length<=_;rw [<- rv.length];exact hz,I1.bk _ _ hC,hN.keeps I1.bk,T.keeps I1.bk,λ h' ea hm=>Jxf I1 hm hE⟩
end
section
variable {P:Ycj}{w:Yci}{K:Qc}{mg:Str->Option Ycf}{base:Heap}
def Jmm (P:Ycj) (w:Yci) (K:Qc) (mg:Str->Option Ycf) (base:Heap) (name:Str) (k:Nat) (ps:List Str) (sp:Sp):Prop:=
 ∃ f fd,mg name=some (.ref f)/\J5v K (.ref f)=true/\Je6 K fd ps []/\FnOk P w K mg base (CX1 P w) k f fd ps sp
theorem Fun.okX {x qual:Str}{st:Stmt}{f:Addr}{fd:Ycu}{N ps:List Str}{k:Nat}{sp:Sp}(F:Fun K x qual st f fd) (S:FnScope N ps (Jf st)) (len:∀ vs H Q E,sp vs H Q E->vs.length=ps.length)
 (hbody:∀ (cdv:Ycf) (A:Yck) (outer:List Env) (s:Ycg) (H:Hp) (vs:List V) (Q:VK) (E:XK),Room k (A.deeper (envOfC qual (Jf st) s.heap.objs.size f cdv))->sp vs H Q E ->
  ∃ t,PSs (Jaz (CX1 P w) P w K mg base N qual (Jf st) f cdv A outer s H E) (Vv st) t/\t { nx:=λ _ H'=>Q .non H',rt:=Q } (start N vs) H):FnOk P w K mg base (CX1 P w) (k+1) f fd ps sp:=by
 obtain ⟨oc,od,kV,doc,pm,an,cdv,ct,osl,rfl,lk,hcd⟩:=F.ex
 exact Jzd lk hcd S len λ A outer s H vs Q E hr hsp=>hbody cdv A outer s H vs Q E hr hsp
theorem Def.calX {name:Str}{st:Stmt}{ps:List Str}{k:Nat}{sp:Sp}(d:Def K mg name st ps) (h:∀ f fd,Fun K name name st f fd->FnOk P w K mg base (CX1 P w) k f fd ps sp):Jmm P w K mg base name k ps sp:=by
 obtain ⟨f,fd,hm,F,b⟩:=d
 exact ⟨f,fd,hm,F.kp,b,h f fd F⟩
end
section
variable {X:Cx}{x:Str}{e:Expr}{es:List Expr}{p pos:Pos}{t:TA}{k:Nat}{ps:List Str}{sp:Sp}{E:XK}
theorem J23 (c:Jmm X.prog X.w X.K X.mg X.base x k ps sp) (hr:Room k X.A) (hg:Gl X x) (hp:Jgd (CX1 X.prog X.w) X E) (ha:PA X (e::es) t) (hdb:(x==("__debug__":Str))=false:=by decide)
 (he:starEach (e::es) X.env=(false,eval e X.env)::starEach es X.env:=by rfl) (hpl:(backTo pos (starEach es X.env)).any (·.1)=false:=by rfl) :
 PE X (.Call (.Name x p) (e::es) [] pos) (Jch sp [] E t):=by
 obtain ⟨f,fd,hm,hk,b,F⟩:=c
 exact Jp3 F hr hg hm hk b .nil hp ha hdb he hpl
end
abbrev XW:=St->Ycf->Hp->Prop
def XP (X:Cx) (pins:List (Addr×Obj)) (W:XW) (e:Ycf) (s':Ycg):Prop:=∃ ea cls σ' H H' s,e = .ref ea/\Inv X pins σ' H s/\Fly X.prog X.w X.stack H s H' ea cls s'/\W σ' cls H'
abbrev TSX:=Ends->XW->St->Hp->Prop
def PSX (X:Cx) (st:List Stmt) (t:TSX):Prop:=∀ (pins:List (Addr×Obj)) (s:Ycg) (σ:St) (H:Hp) (D:Ends) (W:XW),Inv X pins σ H s->t D W σ H->Ych (model X.prog X.w) X.A (execs st X.env) (SP X pins D) (XP X pins W) s
section
variable {X:Cx}{x y:Str}{e:Expr}{es:List Expr}{p p' pos apos:Pos}{t:TA}{k:Nat}{ps:List Str}{sp:Sp}
theorem Jxg {pins:List (Addr×Obj)}{s:Ycg}{σ:St}{H:Hp}{Q:VK}{W:XW}(c:Jmm X.prog X.w X.K X.mg X.base x k ps sp) (hr:Room k X.A) (hg:Gl X x) (ha:PA X.nox (e::es) t) (I:Inv X pins σ H s) (h:t σ H λ vs H1=>sp vs H1 Q λ cls _ H2=>W σ cls H2)
 (hdb:(x==("__debug__":Str))=false:=by decide) (he:starEach (e::es) X.env=(false,eval e X.env)::starEach es X.env:=by rfl) (hpl:(backTo pos (starEach es X.env)).any (·.1)=false:=by rfl) :
 Ych (model X.prog X.w) X.A (eval (.Call (.Name x p) (e::es) [] pos) X.env) (EP X pins σ Q) (XP X pins W) s:=by
 obtain ⟨f,fd,hm,hk,b,F⟩:=c
 refine Ydj (Jfm I hg hm ?_ hdb)
 have hA:=wpAny_mono (ha pos pins s σ H _ (I.wish _) h) (λ us s1 q=>q) (E':=XP X pins W) λ _ _ z=>z.elim
 refine Yab (h₀:=X.base) I.ok.mod.kin hk (thn hA λ us s1 ⟨vs,H1,I1',r,q⟩=>⟨I1'.kIn,?_⟩) he hpl
 have I1:Inv X pins σ H1 s1:=I1'.unwish
 have r2:J9 (vs++[]) (us++[]):=r.append .nil
 have q':sp (vs++[]) H1 Q λ cls _ H2=>W σ cls H2:=by rw [X5];exact q
 have hl:(us++[]).length=ps.length:=by rw [<- r2.length];exact F.len _ _ _ _ q'
 refine wpAny_call (codeAny_mono (F.run X.A X.stack s1 H1 ⟨us,[]⟩ (us++[]) (vs++[]) Q _ hr I1.env0 (b s1 us I1.kIn hl) r2 q') λ r s' hq=>?_)
 cases r with
 | error e=>
  obtain ⟨ea,cls,H',rfl,Fl,hW⟩:=hq
  exact ⟨ea,cls,σ,H1,H',s1,rfl,I1,Fl,hW⟩
 | ok fl=>
  cases fl with
  | ret u=>exact I1.after hq
  | next=>exact X8 hq
  | brk=>exact X8 hq
  | cont=>exact X8 hq
end
def HB (X:Cx) (s0:Ycg) (H:Hp) (h B:Heap):Prop:=∀ b o,h.get? b=some o->((H b).isSome=true\/∃ o₀,s0.heap.get? b=some o₀)->b∉frs X.stack->B.get? b=some o
section
variable {X:Cx}{pins:List (Addr×Obj)}{σ σ0:St}{H H0:Hp}{s s0:Ycg}{B h':Heap}
theorem Inv.fdata (I:Inv X pins σ H s) {b:Addr}{o:Obj}(q:X.s₀.heap.get? b=some o) (hb:b∈X.fs):∀ vs,o.data≠.fields vs:=λ vs=>by
 obtain ⟨_,o',ho',hd⟩:=I.ok.funs.mem hb
 rw [q] at ho';cases ho'
 exact hd vs
theorem Inv.trkF (I:Inv X pins σ H s) {b:Addr}(hb:(H b).isSome=true):b∉frs X.stack:=λ z=>by rw [I.stkFree b z] at hb;cases hb
theorem Inv.cellF (I:Inv X pins σ H s) {x:Str}{c:Addr}(e:X.env.cells.lookup x=some c) (nf:c∉X.fs):c∉frs X.stack:=λ z=>by
 rcases Qg.mp (I.stkSub c z) with z | z
 . exact I.cne x c e z
 . exact nf z
theorem Inv.move (I0:Inv X pins σ0 H0 s0) (I:Inv X pins σ H s) (hcf:∀ x c,X.env.cells.lookup x=some c->c∉X.fs) (hB:HB X s0 H s.heap B) (st:B.StaysIn h') (us:s.heap.UpToSlots h'):Inv X pins σ H { s with heap:=h' }:=by
 have kt:∀ b u,(H b).isSome=true->s.heap.get? b=some u->h'.get? b=some u:=λ b u hb q=>st b u (hB b u q (.inl hb) (I.trkF hb))
 have ko:∀ b u,(∃ o₀,s0.heap.get? b=some o₀)->b∉frs X.stack->s.heap.get? b=some u->h'.get? b=some u:=λ b u ho hb q=>st b u (hB b u q (.inr ho) hb)
 have cellK:∀ x c v,X.env.cells.lookup x=some c->s.heap.IsCell c v->h'.IsCell c v:=λ x c v e z=>by
  obtain ⟨o,ho,hd⟩:=z
  obtain ⟨v0,o0,ho0,_⟩:=I0.cell x c e
  exact ⟨o,ko c o ⟨o0,ho0⟩ (I.cellF e (hcf x c e)) ho,hd⟩
 have old:∀ b o,X.s₀.heap.get? b=some o->b∉X.ex->∃ o₀,s0.heap.get? b=some o₀:=λ b o q hx=>I0.base.there b o q hx
 refine ⟨I.ok,I.os,I.bare,⟨λ b o q n hb hx=>?_,λ b o q n hb hx=>?_,I.base.free,λ b o q hx=>?_,I.base.tups,I.base.frzs,I.base.tbls⟩,?_,λ x c e=>?_,I.free,I.freeC,λ p hp=>?_,I.hok.keptT kt,I.len⟩
 . exact ko b o (old b o q hx) (I.old_stk q hb) (I.base.keep b o q n hb hx)
 . obtain ⟨sl,e⟩:=I.base.slot b o q n hb hx
   obtain ⟨sl',e'⟩:=us b _ e (show ∀ vs,o.data≠.fields vs from I.fdata q hb)
   exact ⟨sl',e'⟩
 . obtain ⟨o',e⟩:=I.base.there b o q hx
   by_cases hb:b∈X.fs
   . obtain ⟨sl,e2⟩:=I.base.slot b o q (I.ok.frf b hb) hb hx
     obtain ⟨sl',e'⟩:=us b _ e2 (show ∀ vs,o.data≠.fields vs from I.fdata q hb)
     exact ⟨_,e'⟩
   . exact ⟨o',ko b o' (old b o q hx) (I.old_stk q hb) e⟩
 . obtain ⟨m,hn,hl⟩:=I.loc
   refine ⟨m,us.ns hn,λ i x v e1 e2 e3=>?_⟩
   obtain ⟨u,r,l⟩:=hl i x v e1 e2 e3
   refine ⟨u,r,?_⟩
   rcases l with l | ⟨k,c,e,z⟩
   . exact .inl l
   . exact .inr ⟨k,c,e,cellK x c _ e z⟩
 . obtain ⟨v,z⟩:=I.cell x c e
   exact ⟨v,cellK x c v e z⟩
 . obtain ⟨e,n,ne,nf,d⟩:=I.pin p hp
   obtain ⟨e0,_⟩:=I0.pin p hp
   refine ⟨ko p.1 p.2 ⟨_,e0⟩ (λ z=>?_) e,n,ne,nf,d⟩
   rcases Qg.mp (I.stkSub p.1 z) with z | z
   . exact ne z
   . exact nf z
theorem HB.move (I0:Inv X pins σ0 H0 s0) (I:Inv X pins σ H s) (hth:∀ b o₀,s0.heap.get? b=some o₀->∃ o,s.heap.get? b=some o) (hB:HB X s0 H s.heap B) (st:B.StaysIn h'):HB X s0 H h' B:=λ b o q hb hn=>by
 have ex:∃ u,s.heap.get? b=some u:=by
  rcases hb with hb | ⟨o₀,hb⟩
  . obtain ⟨v,hv⟩:=J8m.mp hb
    exact I.hok.there hv
  . exact hth b o₀ hb
 obtain ⟨u,hu⟩:=ex
 have e:=hB b u hu hb hn
 have e2:=st b u e
 rw [q] at e2;cases e2
 exact e
noncomputable abbrev Cx.inH (X:Cx) (ea:Addr):Cx:={ X with A:=X.A.mark (some (.ref ea)),calm:=false }
theorem Inv.inH (I:Inv X pins σ H s) (ea:Addr) (hfr:(X.A.mark (some (.ref ea))).frames=X.A.frames):Inv (X.inH ea) pins σ H s:=
 ⟨⟨I.ok.mod,I.ok.kind,I.ok.glob,I.ok.blt,I.ok.above,I.ok.inj,I.ok.has,I.ok.cab,λ z=>J88 z,hfr.trans I.ok.frames,I.ok.stk,I.ok.exf,I.ok.bs,I.ok.bsz,I.ok.noex,I.ok.exfs,I.ok.funs,I.ok.frf⟩,I.os,I.bare,I.base,I.loc,I.cell,I.free,I.freeC,I.pin,I.hok,I.len⟩
theorem Inv.outH {ea:Addr}(I:Inv (X.inH ea) pins σ H s) (hd:X.calm=true->X.A.handled=none) (hfr:(X.A.mark (some (.ref ea))).frames=X.A.frames):Inv X pins σ H s:=
 ⟨⟨I.ok.mod,I.ok.kind,I.ok.glob,I.ok.blt,I.ok.above,I.ok.inj,I.ok.has,I.ok.cab,hd,hfr.symm.trans I.ok.frames,I.ok.stk,I.ok.exf,I.ok.bs,I.ok.bsz,I.ok.noex,I.ok.exfs,I.ok.funs,I.ok.frf⟩,I.os,I.bare,I.base,I.loc,I.cell,I.free,I.freeC,I.pin,I.hok,I.len⟩
end
theorem J1c {X:Cx}{pins:List (Addr×Obj)}{σ:St}{H0 H:Hp}{s0 s:Ycg}{ea:Addr}{cls:Ycf}{E:Ycf->Ycg->Prop}{Q:Ycg->Prop}(hst:X.stack=X.env::X.outer) (hf:X.env.frame=some X.env.locals) (hfn:∀ x,X.fn x=true) (I0:Inv X pins σ H0 s0) (F:Fly X.prog X.w X.stack H0 s0 H ea cls s)
 (h:∀ s3 B t,Inv X pins σ H s3->HB X s0 H s3.heap B->(∀ b o₀,s0.heap.get? b=some o₀->∃ o,s3.heap.get? b=some o)->J9b B X.stack ea cls (.ref t) s3.heap->Q s3) :
 Ych (model X.prog X.w) X.A (noteFrame (.ref ea) X.env) (λ _ s₂=>Ych (model X.prog X.w) X.A (setFlight (.ref ea) none) (λ _ s₃=>Q s₃) E s₂) E s:=by
 obtain ⟨B,t,hB,fl⟩:=F.fl
 have I:Inv X pins σ H s:=I0.call' F.os F.un F.hok F.bare λ b z=>absurd z (by simp)
 have hcf:∀ x c,X.env.cells.lookup x=some c->c∉X.fs:=λ x c e z=>by
  obtain ⟨_,o,ho,_⟩:=I0.ok.funs.mem z
  exact absurd (Xn (Qp ho) (I0.ok.cab x c (hfn x) e)) (Xe _)
 have th:∀ b o₀,s0.heap.get? b=some o₀->∃ o,s.heap.get? b=some o:=λ b o₀ q=>F.un.there b o₀ q (by simp)
 have hB0:HB X s0 H s.heap B:=hB
 have fl0:=fl
 rw [hst] at fl
 refine wpAny_looks_onW (by rw [I0.ok.frames,hst]) hf fl λ h4 held4 us4=>?_
 refine wpAny_landsW held4 λ h5 fl5 us5=>?_
 have us:=us4.trans us5
 rw [<- hst] at fl5
 have I5:Inv X pins σ H { s with heap:=h5 }:=Inv.move I0 I hcf hB0 fl5.1 us
 have hB5:HB X s0 H h5 B:=HB.move I0 I th hB0 fl5.1
 refine h _ B t I5 hB5 (λ b o₀ q=>?_) fl5
 by_cases hb:b∈frs X.stack
 . have:=(fl5.2.2.1.mem hb).2
   exact ⟨_,this.choose_spec.1⟩
 . obtain ⟨o,e⟩:=th b o₀ q
   exact ⟨o,fl5.1 b o (hB0 b o e (.inr ⟨o₀,q⟩) hb)⟩
section
variable {X:Cx}{body:List Stmt}{tb:TSX}{ts:TS}{b₀:Stmt}{suite:List Stmt}{c n:Str}{C:Addr}{i:Nat}{np hpos pos:Pos}
end
open PySem.SeqAt
section
variable {P:Ycj}{w:Yci}{K:Qc}{mg:Str->Option Ycf}{base:Heap}
end
section
variable {X:Cx}{x:Str}{e:Expr}{es:List Expr}{p pos:Pos}{t:TA}{k:Nat}{ps:List Str}{sp:Sp}
end
structure Er where
 fall:Addr
 way:Addr
 round:Addr
 ring:Addr
 purse:Addr
 end_:Addr
 stand:Addr
 many:Addr
 line:Addr
 row:Addr
noncomputable def Jig (K:Qc) (x:Str):Addr:=match J62 K Ycq x with
 | some (some (.ref a))=>a
 | _=>0
noncomputable def J24 (K:Qc):Er:=⟨Jig K "FallError",Jig K "NoWay",Jig K "NoRound",Jig K "NoRing",Jig K "NoPurse",Jig K "NoEnd",Jig K "NoStand",Jig K "TooMany",Jig K "NoLine",Jig K "NoRow"⟩
section
variable {K:Qc}{mg:Str->Option Ycf}{z:Er}
end
section
variable {X:Cx}{v:Expr}{te:TE}{a b:Str}{ja jb:Nat}{pa pb pf pos:Pos}
end
theorem J1d {P:Ycj}{w:Yci}{X:Cx}:Jgd (CX1 P w) X E0:=λ _ _ _ _ _ _ _ ⟨_,_,_,_,_,h⟩=>h.elim
section
variable {X:Cx}{x:Str}{e:Expr}{es:List Expr}{p pos apos:Pos}{t:TA}{k:Nat}{ps:List Str}{sp:Sp}
def Jui (sp:Sp) (t:TA):TSX:=λ D W σ H=>t σ H λ vs H1=>sp vs H1 (λ _ H2=>D.nx σ H2) λ cls _ H2=>W σ cls H2
theorem Juj (c:Jmm X.prog X.w X.K X.mg X.base x k ps sp) (hr:Room k X.A) (hg:Gl X x) (ha:PA X.nox (e::es) t)
 (hdb:(x==("__debug__":Str))=false:=by decide) (he:starEach (e::es) X.env=(false,eval e X.env)::starEach es X.env:=by rfl) (hpl:(backTo pos (starEach es X.env)).any (·.1)=false:=by rfl)
 (hs:Yc0 (.Call (.Name x p) (e::es) [] pos) none apos.line X.env=pure false:=by rfl) :
 PSX X [.Expr (.Call (.Name x p) (e::es) [] pos) apos] (Jui sp t):=by
 intro pins s σ H D W I h
 refine Ydo ?_
 exact wpAny_Expr_any (thn (Jxg c hr hg ha I h hdb he hpl) λ v s1 ⟨z,H1,I1,r1,q1⟩=>Ydc ⟨σ,H1,I1,q1⟩) I.quiet hs
variable {body:List Stmt}{tb:TSX}{ts:TS}{b₀:Stmt}{suite:List Stmt}{c:Str}{C:Addr}{np hpos:Pos}
def Jzl (K:Qc) (C:Addr) (tb:TSX) (ts:TS):TS:=λ D σ H=>tb D (λ σ' cls H'=>∃ C0,cls = .ref C0/\J6n K (.ref C0) (.ref C)=some true/\ts D σ' H') σ H
theorem Jxh (hxe:X.xe=λ _ _=>False) (hst:X.stack=X.env::X.outer) (hf:X.env.frame=some X.env.locals) (hfn:∀ x,X.fn x=true) (hex:X.ex=[]) (hfr:∀ ea,(X.A.mark (some (.ref ea))).frames=X.A.frames) (hg:Gl X c) (hc:X.mg c=some (.ref C))
 (hb:PSX X body tb) (hs:∀ ea,PSs (X.inH ea) (b₀ :: suite) ts) (hdb:(c==("__debug__":Str))=false:=by decide) :
 PS X (.Try body [.ExceptHandler (some (.Name c np)) none (b₀ :: suite) hpos] [] [] pos) (Jzl X.K C tb ts):=by
 intro pins s σ H D I h
 refine wpAny_Try_except (wpAny_mono (hb pins s σ H D _ I h) (λ f s1 q=>?_) λ e s1 hx=>?_)
 . cases f with
   | next=>exact Ydc q
   | brk=>exact q
   | cont=>exact q
   | ret u=>exact q
 . obtain ⟨ea,cls,σ',H0,H',s0,rfl,I0,F,C0,rfl,hm,hw⟩:=hx
   refine J1c hst hf hfn I0 F λ s3 B t I3 hB3 th3 fl3=>?_
   have hcf:∀ x c,X.env.cells.lookup x=some c->c∉X.fs:=λ x c e z=>by
    obtain ⟨_,o,ho,_⟩:=I0.ok.funs.mem z
    exact absurd (Xn (Qp ho) (I0.ok.cab x c (hfn x) e)) (Xe _)
   refine wpAny_handleBy_cons (codeAny_handlers_test ?_) (by intro z;cases z)
   refine Jfm (X:=X.inH ea) (I3.inH ea (hfr ea)) hg hc ?_ hdb
   obtain ⟨oe,hoe,hce⟩:=fl3.there
   have ofc:OfC ea C0 s3.heap:=⟨oe,hoe,hce⟩
   refine (PySem.W.exm_one I3.kIn ofc.ty hm).here ?_
   show Yct _ _ (.handlers (.ref ea) [.ExceptHandler none none (b₀ :: suite) hpos] X.env) _ _
   refine codeAny_handlers_suite ?_
   refine lands_againW fl3 λ h6 fl6 us6=>?_
   have I6:Inv X pins σ' H' { s3 with heap:=h6 }:=Inv.move I0 I3 hcf hB3 fl6.1 us6
   have hS:=hs ea pins _ _ _ D (I6.inH ea (hfr ea)) hw
   refine wpAny_mono hS (λ f s8 q=>?_) λ e s8 z=>?_
   . cases f with
     | next=>obtain ⟨σ8,H8,I8,q⟩:=q;exact ⟨_,H8,I8.outH I.ok.hd (hfr ea),q⟩
     | brk=>obtain ⟨σ8,H8,I8,q⟩:=q;exact ⟨_,H8,I8.outH I.ok.hd (hfr ea),q⟩
     | cont=>obtain ⟨σ8,H8,I8,q⟩:=q;exact ⟨_,H8,I8.outH I.ok.hd (hfr ea),q⟩
     | ret u=>obtain ⟨v,σ8,H8,I8,r,q⟩:=q;exact ⟨v,_,H8,I8.outH I.ok.hd (hfr ea),r,q⟩
   . have z:X.xe e s8:=z
     rw [hxe] at z
     exact z.elim
end
end L2
namespace My
open L2
theorem Jmn {α:Type}{xs:List α}{j:Nat}{v:α}(h:atI xs (j:Int)=some v):xs[j]? = some v:=by
 cases e:xs[j]? with
 | some u=>
  rw [Jc8 e] at h
  exact h
 | none=>
  have hl:xs.length<=j:=List.getElem?_eq_none_iff.mp e
  unfold atI ixN at h
  rw [if_pos (by omega),if_neg (by omega)] at h
  cases h
end My
namespace HT
section
variable {prog:Ycj}{w:Yci}{A:Yck}{E:Ycf->Ycg->Prop}{s:Ycg}
end
end HT
namespace L2
end L2
namespace My
open L2
theorem sIx_none (n d:Nat):HT.sIx n d none=d:=rfl
end My
namespace L2
end L2
namespace My
open L2
section
variable {p c wl:Addr}{R U:Int}{ws:List Way}{bv fv hv:V}{r:Int}{xs:List Int}{Hs H H':Hp}{ns:List Int}
end
end My
namespace L2
structure ErW (K:Qc) (mg:Str->Option Ycf) (z:Er):Prop where
 fall:mg "FallError" = some (.ref z.fall)
 way:mg "NoWay" = some (.ref z.way)
 rWay:RCl K mg "NoWay" z.way
 xmW:J6n K (.ref z.way) (.ref z.fall)=some true
 xsW:J6n K (.ref z.way) (.ref z.way)=some true
noncomputable def J25 (K:Qc) (z:Er):Bool:=J62 K Ycq "FallError" == some (some (.ref z.fall))&&J62 K Ycq "NoWay" == some (some (.ref z.way))&&J9c K z.way J1b "ValueError.__new__" && J6n K (.ref z.way) (.ref z.fall)==some true&&J6n K (.ref z.way) (.ref z.way)==some true
theorem erW_mk {K:Qc}{mg:Str->Option Ycf}{h:Heap}(X:K.In h) (G:h.Ns Ycq mg) (e:J25 K (J24 K)=true):ErW K mg (J24 K):=by
 unfold J25 at e
 simp only [Xg,beq_iff_eq] at e
 obtain ⟨⟨⟨⟨n1,n2⟩,h3⟩,h4⟩,h5⟩:=e
 exact ⟨J63 X G n1,J63 X G n2,⟨J63 X G n2,h3⟩,h4,h5⟩
section
variable {prog:Ycj}{w:Yci}{A:Yck}{E:Ycf->Ycg->Prop}{s:Ycg}{l:Addr}{xs:Array (Int×Tok)}
end
section
variable {X:Cx}
end
end L2
namespace My
open L2
inductive W0:List Int->Prop
 | nil:W0 []
 | z {ms:List Int}:W0 ms->W0 (0::ms)
 | ot {ms:List Int}:W0 ms->W0 (1::2::ms)
def Pth (ws:List Way):Int->List Int->Int->Prop
 | a,[],b=>a=b
 | a,k::ns,b=>(0<=k/\k<ws.length)/\(Ja ws k).a=a/\Pth ws (Ja ws k).b ns b
theorem Pth.app {ws:List Way}:∀ {ms:List Int}{a b c:Int}{ns:List Int},Pth ws a ms b->Pth ws b ns c->Pth ws a (ms++ns) c
 | [],_,_,_,_,h,g=>by cases h;exact g
 | _::_,_,_,_,_,h,g=>⟨h.1,h.2.1,h.2.2.app g⟩
theorem Pth.inW {ws:List Way}:∀ {ms:List Int}{a b:Int},Pth ws a ms b->InW ws ms
 | [],_,_,_=>λ k hk=>by cases hk
 | k::ms,_,_,h=>λ j hj=>by
  rcases Qg.mp hj with rfl | hj
  . exact h.1
  . exact h.2.2.inW j hj
theorem Jmo:∀ (n:Nat) (l:List Nat),l.Nodup->(∀ x∈l,x<n)->l.length<=n:=by
 intro n
 induction n with
 | zero=>
  intro l _ h
  cases l with
  | nil=>exact Qn _
  | cons a l=>exact absurd (h a Qd) (J7x _)
 | succ n ih=>
  intro l nd h
  by_cases hm:n∈l
  . have e:=ih (l.erase n) (nd.erase n) λ x hx=>by
     have hx':=(List.Nodup.mem_erase_iff nd).mp hx
     have:=h x hx'.2
     omega
    rw [List.length_erase_of_mem hm] at e
    omega
  . have:=ih l nd λ x hx=>by
     have:=h x hx
     have:x≠n:=λ z=>hm (z▸hx)
     omega
    omega
theorem Jsa {R:Int}(hR:0<=R) {l:List Int}(nd:l.Nodup) (h:∀ x∈l,0<=x/\x<R):(l.length:Int)<=R:=by
 have:=Jmo R.toNat (l.map Int.toNat) (by
  rw [Ybb] at nd ⊢
  rw [J9d]
  exact nd.imp_of_mem λ ha hb hne=>by
   have:=h _ ha
   have:=h _ hb
   omega) (λ x hx=>by
  obtain ⟨y,hy,rfl⟩:=Ql.mp hx
  have:=h y hy
  omega)
 rw [Qb] at this
 omega
abbrev KE:=Int×Addr×List Int
noncomputable def keV (e:KE):Key×V:=(Qi e.1,V.ref e.2.1)
theorem Jft {ks:List KE}{m:Int}(h:m∈ks.map (·.1)):∃ e∈ks,e.1=m/\Wj (ks.map keV) (Qi m)=some (.ref e.2.1):=by
 induction ks with
 | nil=>cases h
 | cons e ks ih=>
  by_cases he:e.1=m
  . exact ⟨e,Qd,he,by rw [Qq];exact Z8 (by show Qi e.1=_;rw [he])⟩
  . rw [Qq] at h
    rcases Qg.mp h with h | h
    . exact absurd h.symm he
    . obtain ⟨e',h1,h2,h3⟩:=ih h
      refine ⟨e',Qh _ h1,h2,?_⟩
      rw [Qq]
      unfold Wj at h3 ⊢
      rw [J7y (by simp [keV,he])]
      exact h3
theorem Jqj {ks:List KE}{m:Int}(h:m∉ks.map (·.1)):Wj (ks.map keV) (Qi m)=none/\∀ v,Zo (ks.map keV) (Qi m) v=ks.map keV++[(Qi m,v)]:=by
 have e:∀ kv∈ks.map keV,kv.1≠Qi m:=λ kv hkv z=>by
  obtain ⟨x,hx,rfl⟩:=Ql.mp hkv
  exact h (Ql.mpr ⟨x,hx,J6s z⟩)
 constructor
 . unfold Wj
   rw [J66.mpr λ kv hkv=>by simpa using e kv hkv]
   rfl
 . intro v
   unfold Zo
   rw [if_neg]
   rw [Bool.not_eq_true,J8k]
   intro kv hkv
   simpa using e kv hkv
structure BkI (R:Int) (ws:List Way) (first:Int) (kd wl:Addr) (H0 H:Hp) (ks:List KE) (ms:List Int):Prop where
 k:Kp [] H0 H
 fk:H0 kd=none
 fw:H0 wl=none
 ne:kd≠wl
 d:H kd=some (.dK (ks.map keV))
 w:H wl=some (.lst (ms.map V.int))
 p:∀ e∈ks,H e.2.1=some (.lst (e.2.2.map V.int))/\H0 e.2.1=none/\e.2.1≠kd/\e.2.1≠wl/\Pth ws first e.2.2 e.1/\e.2.2.length+1<=ks.length/\0<=e.1/\e.1<R
 nd:(ks.map (·.1)).Nodup
 wk:∀ m∈ms,m∈ks.map (·.1)
theorem BkI.kp {R:Int}{ws:List Way}{first:Int}{kd wl:Addr}{H0 H H':Hp}{ks:List KE}{ms:List Int}(I:BkI R ws first kd wl H0 H ks ms) (k:Kp [] H H'):BkI R ws first kd wl H0 H' ks ms:=
 ⟨I.k.trans k,I.fk,I.fw,I.ne,k _ _ I.d (by simp),k _ _ I.w (by simp),λ e he=>by
  obtain ⟨h1,h2⟩:=I.p e he
  exact ⟨k _ _ h1 (by simp),h2⟩,I.nd,I.wk⟩
theorem BkI.len {R:Int}{ws:List Way}{first:Int}{kd wl:Addr}{H0 H:Hp}{ks:List KE}{ms:List Int}(I:BkI R ws first kd wl H0 H ks ms) (hR:0<=R):(ks.length:Int)<=R:=by
 have:=Jsa hR I.nd λ x hx=>by
  obtain ⟨e,he,rfl⟩:=Ql.mp hx
  exact (I.p e he).2.2.2.2.2.2
 rw [Qb] at this;exact this
theorem BkI.setw {R:Int}{ws:List Way}{first:Int}{kd wl:Addr}{H0 H:Hp}{ks:List KE}{ms:List Int}(I:BkI R ws first kd wl H0 H ks ms) {xs:List V}{ns:List Int}(e:xs=ns.map V.int) (h:∀ m∈ns,m∈ks.map (·.1)):BkI R ws first kd wl H0 (upd H wl (.lst xs)) ks ns:=by
 subst e
 refine ⟨λ b o e n=>?_,I.fk,I.fw,I.ne,by rw [Ji I.ne];exact I.d,Jh,λ e he=>?_,I.nd,h⟩
 . rw [Ji (Jk e I.fw)];exact I.k _ _ e n
 . obtain ⟨h1,h2,h3,h4,h5⟩:=I.p e he
   exact ⟨by rw [Ji h4];exact h1,h2,h3,h4,h5⟩
theorem BkI.add {R:Int}{ws:List Way}{first:Int}{kd wl:Addr}{H0 H:Hp}{ks:List KE}{ms:List Int}(I:BkI R ws first kd wl H0 H ks ms) {m:Int}{a:Addr}{ns:List Int}(hm:m∉ks.map (·.1)) (ha:H a=some (.lst (ns.map V.int))) (fa:H0 a=none) (n1:a≠kd) (n2:a≠wl) (hp:Pth ws first ns m) (hz:ns.length<=ks.length) (hR:0<=m/\m<R) :
 BkI R ws first kd wl H0 (upd H kd (.dK (Zo (ks.map keV) (Qi m) (.ref a)))) (ks++[(m,a,ns)]) ms:=by
 rw [(Jqj hm).2]
 refine ⟨λ b o e n=>?_,I.fk,I.fw,I.ne,?_,by rw [Ji I.ne.symm];exact I.w,λ e he=>?_,?_,λ x hx=>?_⟩
 . rw [Ji (Jk e I.fk)];exact I.k _ _ e n
 . rw [Jh,Qu];rfl
 . rw [Qw]
   rcases Qz.mp he with he | he
   . obtain ⟨h1,h2,h3,h4,h5,h6,h7⟩:=I.p e he
     exact ⟨by rw [Ji h3];exact h1,h2,h3,h4,h5,Xk h6 (Ut _ _),h7⟩
   . obtain rfl:=Qm.mp he
     exact ⟨by rw [Ji n1];exact ha,fa,n1,n2,hp,Nat.add_le_add hz (Qn 1),hR⟩
 . rw [Qu,J6o]
   refine ⟨I.nd,by simp,λ x hx y hy=>?_⟩
   rw [J5p,Qm] at hy
   rintro rfl
   have hy:x=m:=hy
   exact hm (hy▸hx)
 . rw [Qu]
   exact Xu _ (I.wk x hx)
def Jo7:Sp:=λ vs H Q _=>∃ (ex:List Addr) (R U:Int) (ws:List Way) (bv:V) (first last:Int),vs=[bv,.int first,.int last]/\Rep ex H (Jq R U ws) bv/\BookOk R U ws/\(0<=first/\first<R) /\
 (∀ H',Kp [] H H'->Q .non H')/\∀ l ns H',Kp [] H H'->H l=none->H' l=some (.lst (ns.map V.int))->Pth ws first ns last->ns.length<=12->Q (.ref l) H'
end My
namespace L2
section
variable {X:Cx}
theorem Jmp (ns:List Int):((Qf ns.length).any λ i=>decide (ns.getD i 0≠0))=ns.any (λ n=>decide (n≠0)):=by
 rw [X0]
 simp only [J58,Xj]
 constructor
 . rintro ⟨i,hi,h⟩
   rw [Q3,Qx hi] at h
   exact ⟨_,Uh hi,h⟩
 . rintro ⟨n,hn,h⟩
   obtain ⟨i,hi,rfl⟩:=Uz.mp hn
   exact ⟨i,hi,by rw [Q3,Qx hi];exact h⟩
theorem Juk {ns:List Int}{its:List Ycf}(rv:J9 (ns.map V.int) its) {i:Nat}{v:Ycf}(h:its[i]? = some v):∃ t,v = .int (ns.getD i 0) t:=by
 have hi:i<its.length:=(Qr.mp h).1
 have hlen:=rv.length
 rw [Qb] at hlen
 have hb:(ns.map V.int)[i]? = some (V.int (ns.getD i 0)):=by
  rw [Qs,Qx (by omega),Q3,Qx (by omega)]
  rfl
 obtain ⟨u,hu,ru⟩:=rv.get hb
 rw [h] at hu
 cases hu
 exact ru
theorem Ji4 (hc:X.calm=true):Wz X (.builtin "any") (λ xs H Q=>∃ (p:Addr) (ns:List Int),xs=[.ref p]/\SqL X.K H p (ns.map V.int)/\Q (.bl (ns.any λ n=>decide (n≠0))) H):=by
 intro pins s σ H xs us Q I r h
 obtain ⟨p,ns,rfl,hq,q⟩:=h
 obtain ⟨u,rfl,ru⟩:=Jak r
 cases ru
 obtain ⟨its,rv,pl,hz⟩:=I.list hq
 have hl:=pl.isList
 have hlt:p<s.heap.objs.size:=by obtain ⟨_,e,_⟩:=hl;exact Qp e
 have hlen:=rv.length
 rw [Qb] at hlen
 refine call_any_walk (wpAny_pyIter_list hl ?_)
 refine ⟨_,_,_,_,_,_,λ i=>decide (ns.getD i 0≠0),rfl,Walks.list (A:=X.A.in1) (I.ok.hd hc) _ p (Xf hlt) its.toArray,⟨⟨_,Q5 _ rfl,rfl,rfl⟩,hl.push _⟩,?_,λ h' tk hk=>?_⟩
 . intro i v s' Q' E' hP hQ
   obtain ⟨t,rfl⟩:=Juk rv (by simpa using hP)
   have e:((ns.getD i 0) != 0)=decide (ns.getD i 0≠0):=by
    rw [X0];simp
   exact J8i (by rw [e];exact hQ)
 . rw [Q1,<- hlen,Jmp]
   exact ⟨.bl _,H,I.kept (t':=tk) (old_kept hk),rfl,q⟩
theorem Jsb (hc:X.calm=true):Wz X (.builtin "any") (λ xs H Q=>∃ (p:Addr) (ns:List Int),xs=[.ref p]/\SqT X.K H p (ns.map V.int)/\Q (.bl (ns.any λ n=>decide (n≠0))) H):=by
 intro pins s σ H xs us Q I r h
 obtain ⟨p,ns,rfl,hq,q⟩:=h
 obtain ⟨u,rfl,ru⟩:=Jak r
 cases ru
 obtain ⟨its,rv,hl,hz⟩:=I.tuple hq
 have hlt:p<s.heap.objs.size:=by obtain ⟨_,e,_⟩:=hl;exact Qp e
 have hlen:=rv.length
 rw [Qb] at hlen
 refine call_any_walk (wpAny_pyIter_tuple hl ?_)
 refine ⟨_,_,_,_,_,_,λ i=>decide (ns.getD i 0≠0),rfl,Walks.tuple (A:=X.A.in1) (I.ok.hd hc) _ p (Xf hlt) its.toArray,⟨⟨_,Q5 _ rfl,rfl,rfl⟩,hl.push _⟩,?_,λ h' tk hk=>?_⟩
 . intro i v s' Q' E' hP hQ
   obtain ⟨t,rfl⟩:=Juk rv (by simpa using hP)
   have e:((ns.getD i 0) != 0)=decide (ns.getD i 0≠0):=by
    rw [X0];simp
   exact J8i (by rw [e];exact hQ)
 . rw [Q1,<- hlen,Jmp]
   refine ⟨.bl _,H,I.kept (t':=tk) (λ b o e=>hk b o (λ hm=>?_) (Qk _ e)),rfl,q⟩
   have:=Qp e
   rw [Qm.mp hm] at this
   exact Xe _ this
def Jzm (K:Qc):V->V->Hp->VK->Prop:=λ o i H Q=>∃ p xs k x,o = .ref p/\i = .int k/\0<=k/\SqL K H p xs/\xs[k.toNat]? = some x/\Q x H
theorem Jgu:J2k X (Jzm X.K):=by
 intro pins s σ H o i ov iv Q I ro ri h
 obtain ⟨p,xs,k,x,rfl,rfl,k0,hq,hx,q⟩:=h
 cases ro
 obtain ⟨t,rfl⟩:=ri
 obtain ⟨its,r,pl,hz⟩:=I.list hq
 obtain ⟨u,eu,ru⟩:=r.get hx
 have hn:=Jeg
 have hi:=(Qr.mp hx).1
 exact wpAny_getItem_list pl.isList k0 (by omega) (by simpa using eu) ⟨x,H,I,ru,q⟩
end
theorem Jxi {K:Qc}{b b':Bool}{a c:Addr}{xs xs':List V}{g:TG}{tb:TS}{D:Ends}{σ:St}{H:Hp}(n:Nat) (hn:min xs.length xs'.length=n) (Pv:Nat->St->Hp->Prop) (h0:Pv 0 σ H) (hl:∀ i σ H,i<=n->Pv i σ H->SqK b K H a xs/\SqK b' K H c xs')
 (hs:∀ i x x' σ H t,i<n->xs[i]? = some x->xs'[i]? = some x'->Pv i σ H->H t=none->g (.ref t) σ (upd H t (.tup [x,x'])) λ σ2 H2=>tb { D with nx:=Pv (i+1),ct:=Pv (i+1),bk:=D.nx } σ2 H2) (hd:∀ σ H,Pv n σ H->D.nx σ H) :
 ∃ W:Nat->Nat->St->Hp->Prop,(∃ m,W 0 m σ H)/\∀ i m σ H,W i m σ H ->
  ((Itz b b' K a c).stop i H/\D.nx σ H)\/((Itz b b' K a c).go i H/\∃ N:St->Hp->Prop,(∀ σ' H',N σ' H'->∃ m',m'<m/\W (i+1) m' σ' H')/\∀ x H',(Itz b b' K a c).yld i H x H'->g x σ H' λ σ2 H2=>tb { D with nx:=N,ct:=N,bk:=D.nx } σ2 H2):=by
 refine ⟨λ i m σ H=>m=n-i/\i<=n/\Pv i σ H,⟨n,by simp,Q9 _,h0⟩,?_⟩
 rintro i m σ H ⟨rfl,hi,p⟩
 obtain ⟨q,q'⟩:=hl i σ H hi p
 by_cases hlt:i<n
 . refine .inr ⟨⟨xs,xs',xs[i]'(by omega),xs'[i]'(by omega),q,q',Qx _,Qx _⟩,Pv (i+1),λ σ' H' p'=>⟨n-(i+1),by omega,rfl,hlt,p'⟩,λ v H' y=>?_⟩
   obtain ⟨t,x,x',ht,rfl,rfl,hx,hx'⟩:=y
   exact hs i x x' σ H t hlt (hx xs q) (hx' xs' q') p ht
 . have e:i=n:=by omega
   subst e
   exact .inl ⟨⟨xs,xs',q,q',hn⟩,hd σ H p⟩
end L2
namespace My
open L2
noncomputable def Wr (ws:List Way) (cs:List Int):Nat->Int->Int
 | 0,_=>0
 | i+1,r=>Wr ws cs i r-(if (Ja ws (i:Nat)).a=r then cs.getD i 0 else 0)+(if (Ja ws (i:Nat)).b=r then cs.getD i 0 else 0)
noncomputable def Jfa (ws:List Way) (cs:List Int) (sel:Way->Int) (n:Nat) (r:Int):List Int:=((Qf n).filter (λ i=>decide (sel (Ja ws (i:Nat))=r))).map (λ i=>cs.getD i 0)
theorem Ji5 (ws:List Way) (cs:List Int) (sel:Way->Int) (n:Nat) (r:Int):(Jfa ws cs sel (n+1) r).sum=(Jfa ws cs sel n r).sum+(if sel (Ja ws (n:Nat))=r then cs.getD n 0 else 0):=by
 unfold Jfa
 rw [Uv,J7v,Qu,Ud]
 by_cases h:sel (Ja ws (n:Nat))=r
 . simp [h]
 . simp [h]
theorem Ji6 (ws:List Way) (cs:List Int) (r:Int):∀ n,Wr ws cs n r=(Jfa ws cs (·.b) n r).sum-(Jfa ws cs (·.a) n r).sum
 | 0=>rfl
 | n+1=>by
  rw [Ji5,Ji5,Wr,Ji6 ws cs r n]
  omega
noncomputable def Jxj (R:Int) (ws:List Way) (cs:List Int):Bool:=(Qf R.toNat).all λ r=>decide (Wr ws cs ws.length (r:Nat)=0)
noncomputable def Jgv (R:Int) (ws:List Way) (cs:List Int):Bool:=cs.all (λ c=>decide (0<=c))&&(cs.any (λ c=>decide (c≠0))&&Jxj R ws cs)
theorem Ji7 {α:Type}(f:Nat->α) (n j:Nat) (v:α):((Qf n).map f).set j v=(Qf n).map λ i=>if i=j then v else f i:=by
 apply J7z
 . simp
 . intro i h1 h2
   rw [List.getElem_set]
   simp only [J9e,J70]
   by_cases e:j=i
   . rw [if_pos e,if_pos e.symm]
   . rw [if_neg e,if_neg λ z=>e z.symm]
theorem Jmq (f:Int->Int) (n:Nat) (a v c:Int) (h0:0<=a) (hv:v=f a+c):(((Qf n).map λ r=>f (r:Nat)).map V.int).set a.toNat (.int v)=(((Qf n).map λ r=>f (r:Nat)+(if a=((r:Nat):Int) then c else 0)).map V.int):=by
 rw [Q0,Ji7,Q0]
 apply Xy
 intro r _
 show (if r=a.toNat then V.int v else V.int (f (r:Nat)))=V.int (f (r:Nat)+(if a=((r:Nat):Int) then c else 0))
 by_cases e:r=a.toNat
 . have e':a=(r:Int):=by omega
   rw [if_pos e,if_pos e',<- e',hv]
 . rw [if_neg e,if_neg (by omega),J71]
theorem Jul {n:Nat}{k:Int}(h0:0<=k) (h1:k<n):ixN n k=some k.toNat:=by
 unfold ixN;rw [if_pos h0,if_pos h1]
theorem Jmr (f:Int->Int) (n:Nat) (a:Int) (h0:0<=a) (h1:a<n):(((Qf n).map λ r=>f (r:Nat)).map V.int)[a.toNat]? = some (V.int (f a)):=by
 rw [Q0,Qs,Qx (by rw [Xi];omega)]
 simp only [J70,Option.map_some,Function.comp]
 rw [show ((a.toNat:Nat):Int)=a by omega]
theorem Jsc (f:Nat->Int) (n:Nat):(!(((Qf n).map f).any λ c=>decide (c≠0)))=(Qf n).all λ r=>decide (f r=0):=by
 rw [List.any_map,List.not_any_eq_all_not]
 congr 1
 funext r
 by_cases h:f r=0<;>simp [h]
theorem Jxk (cs:List Int) (n:Int) (h:(cs.length:Int)=n):Jqh (.tuple (cs.map Qo)) n=cs.all (λ c=>decide (0<=c)):=by
 show (decide (((cs.map Qo).length:Int)=n)&&(cs.map Qo).all nnD)=_
 rw [Qb,decide_eq_true h,J5q,J9f]
 congr 1
def Jum:Sp:=λ vs H Q _=>∃ (ex:List Addr) (R U:Int) (ws:List Way) (bv:V) (ca:Addr) (cs:List Int),vs=[bv,.ref ca]/\Rep ex H (Jq R U ws) bv/\BookOk R U ws/\H ca=some (.tup (cs.map V.int))/\cs.length=ws.length/\∀ H',Kp [] H H'->Q (.bl (Jxj R ws cs)) H'
def Jkq:Sp:=λ vs H Q _=>∃ (ex:List Addr) (R U:Int) (ws:List Way) (bv:V) (ca:Addr) (cs:List Int),vs=[bv,.ref ca]/\Rep ex H (Jq R U ws) bv/\BookOk R U ws/\H ca=some (.tup (cs.map V.int))/\ca∉ex/\cs.length=ws.length/\∀ H',Kp [] H H'->Q (.bl (Jgv R ws cs)) H'
theorem Ji8 {ws:List Way}:∀ {ns:List Int}{k:Int},Jbs ws (k::ns)->InW ws (k::ns)->Pth ws (Ja ws k).a (k::ns) (Ja ws (Jdk (k::ns))).b
 | [],k,_,h=>⟨h k Qd,rfl,rfl⟩
 | j::ns,k,c,h=>⟨h k Qd,rfl,by
  have:=Ji8 (ns:=ns) (k:=j) c.2 λ m hm=>h m (Qh _ hm)
  rw [c.1]
  exact this⟩
inductive Rt (es:List (Nat×Nat)):Nat->Nat->Prop
 | refl (a:Nat):Rt es a a
 | step {a b c:Nat}:Rt es a b->(b,c)∈es->Rt es a c
theorem Rt.trans {es:List (Nat×Nat)}{a b c:Nat}(h:Rt es a b) (g:Rt es b c):Rt es a c:=by
 induction g with
 | refl=>exact h
 | step _ e ih=>exact ih.step e
noncomputable def Pw (es:List (Nat×Nat)):Nat->Nat->Nat->Bool
 | 0,a,b=>decide (a=b)||decide ((a,b)∈es)
 | m+1,a,b=>Pw es m a b||(Pw es m a m&&Pw es m m b)
theorem Pw.mono {es:List (Nat×Nat)}{m a b:Nat}(h:Pw es m a b=true):Pw es (m+1) a b=true:=by
 rw [Pw,h];rfl
theorem Pw.zero {es:List (Nat×Nat)}{a b:Nat}(h:Pw es 0 a b=true):∀ m,Pw es m a b=true
 | 0=>h
 | m+1=>Pw.mono (Pw.zero h m)
theorem Pw.cut {es:List (Nat×Nat)}{m a b:Nat}(h:Pw es (m+1) a b=true):Pw es m a b=true\/(Pw es m a m=true/\Pw es m m b=true):=by
 rw [Pw,J9g,Xg] at h;exact h
theorem Pw.via {es:List (Nat×Nat)}{m a b:Nat}(h:Pw es m a m=true) (g:Pw es m m b=true):Pw es (m+1) a b=true:=by
 rw [Pw,h,g,Bool.and_self,Ybc]
theorem Pw.trans {es:List (Nat×Nat)}:∀ {m a b k:Nat},k<m->Pw es m a k=true->Pw es m k b=true->Pw es m a b=true
 | 0,_,_,_,h,_,_=>absurd h (J7x _)
 | m+1,a,b,k,hk,h,g=>by
  by_cases e:k=m
  . subst e
    have h':Pw es k a k=true:=by rcases (Pw.cut h) with h | h;exact h;exact h.1
    have g':Pw es k k b=true:=by rcases (Pw.cut g) with g | g;exact g;exact g.2
    exact Pw.via h' g'
  . have hk':k<m:=by omega
    rcases (Pw.cut h) with h | ⟨h1,h2⟩
    . rcases (Pw.cut g) with g | ⟨g1,g2⟩
      . exact Pw.mono (Pw.trans hk' h g)
      . exact Pw.via (Pw.trans hk' h g1) g2
    . rcases (Pw.cut g) with g | ⟨g1,g2⟩
      . exact Pw.via h1 (Pw.trans hk' h2 g)
      . exact Pw.via h1 g2
theorem Pw.rt {es:List (Nat×Nat)}:∀ {m a b:Nat},Pw es m a b=true->Rt es a b
 | 0,a,b,h=>by
  rw [Pw,J9g] at h
  rcases h with h | h
  . obtain rfl:=of_decide_eq_true h;exact .refl a
  . exact .step (.refl a) (of_decide_eq_true h)
 | m+1,a,b,h=>by
  rcases (Pw.cut h) with h | ⟨h,g⟩
  . exact Pw.rt h
  . exact (Pw.rt h).trans (Pw.rt g)
theorem Rt.pw {es:List (Nat×Nat)}{R a b:Nat}(hr:∀ e∈es,e.1<R/\e.2<R) (h:Rt es a b):Pw es R a b=true:=by
 induction h with
 | refl=>exact Pw.zero (by rw [Pw];simp) R
 | step _ e ih=>exact Pw.trans (hr _ e).1 ih (Pw.zero (by rw [Pw];simp [e]) R)
theorem Y8 {es:List (Nat×Nat)}{R a b:Nat}(hr:∀ e∈es,e.1<R/\e.2<R):Pw es R a b=true↔Rt es a b:=⟨Pw.rt,Rt.pw hr⟩
end My
namespace L2
section
variable {M:Model}{A:Yck}{E:Ycf->Ycg->Prop}{s:Ycg}
theorem Jkr {scope:Ycm}{globals:Addr}{closure:List (Str×Addr)}{qual:Str}{func:Option Addr}{code:Ycf}{outer:Env}{builtins:Addr}{Q:Env->Ycg->Prop}
 (hQ:Q (newEnv scope s.heap.objs.size globals (cellsFrom (s.heap.objs.size+1) scope.names closure) qual func code (some outer) builtins) { s with heap:=pushCells (s.heap.push { cls:=.type "dict",data:=.dict #[] }) scope.names }) :
 Ych M A (newFunctionEnv scope globals closure [] qual func code (some outer) builtins) Q E s:=by
 simp only [newFunctionEnv,Option.isSome_some,if_true]
 refine wpAny_bind (wpAny_alloc ?_)
 refine wpAny_bind (wpAny_layCells _ (λ name kind cells=>by cases hkc:kind==Uy<;>simp [hkc]) _ _ _ _ ?_)
 rw [show ({ s with heap:=s.heap.push { cls:=.type "dict",data:=.dict #[] } }:Ycg).heap.objs.size=s.heap.objs.size+1 from Xr ..]
 refine wpAny_bind ?_
 rw [J64]
 exact wpAny_pure (wpAny_pure hQ)
end
theorem Jac:∀ (names:List (Str×Ycp)) (n:Nat) (acc:List (Str×Addr)) (x:Str) (c:Addr),(x,c)∈cellsFrom n names acc->(x,c)∈acc\/(n<=c/\(x,Uy)∈names)
 | [],n,acc,x,c,h=>.inl h
 | (name,kind)::r,n,acc,x,c,h=>by
  unfold cellsFrom at h
  split at h
  . rename_i hk
    have hk:kind = .cell:=by simpa using hk
    subst hk
    rcases Jac r (n+1) _ x c h with h | ⟨h1,h2⟩
    . rcases Qg.mp h with e | h
      . cases e;exact .inr ⟨Qn _,Qd⟩
      . exact .inl h
    . exact .inr ⟨by omega,Qh _ h2⟩
  . rcases Jac r n acc x c h with h | ⟨h1,h2⟩
    . exact .inl h
    . exact .inr ⟨h1,Qh _ h2⟩
theorem Ba:∀ (names:List (Str×Ycp)) (n:Nat) (acc:List (Str×Addr)),(∀ p∈acc,p.2<n)->∀ x y c,(x,c)∈cellsFrom n names acc->(y,c)∈cellsFrom n names acc->(∀ x y c,(x,c)∈acc->(y,c)∈acc->x=y)->x=y
 | [],n,acc,_,x,y,c,h,g,inj=>inj x y c h g
 | (name,kind)::r,n,acc,ha,x,y,c,h,g,inj=>by
  unfold cellsFrom at h g
  split at h
  . rename_i hk
    rw [if_pos hk] at g
    refine Ba r (n+1) ((name,n)::acc) (λ p hp=>?_) x y c h g λ x y c h g=>?_
    . rcases Qg.mp hp with rfl | hp
      . exact Ybd _
      . exact J6l (ha p hp)
    . rcases Qg.mp h with e | h<;>rcases Qg.mp g with e' | g
      . cases e;cases e';rfl
      . cases e;exact absurd (ha _ g) (Xe _)
      . cases e';exact absurd (ha _ h) (Xe _)
      . exact inj x y c h g
  . rename_i hk
    rw [if_neg hk] at g
    exact Ba r n acc ha x y c h g inj
theorem Ws:∀ (names:List (Str×Ycp)) (n:Nat) (acc:List (Str×Addr)) (p:Str×Addr),p∈acc->p∈cellsFrom n names acc
 | [],n,acc,p,h=>h
 | (name,kind)::r,n,acc,p,h=>by
  unfold cellsFrom
  split
  . exact Ws r _ _ p (Qh _ h)
  . exact Ws r _ _ p h
theorem Jad:∀ (names:List (Str×Ycp)) (n:Nat) (acc:List (Str×Addr)) (x:Str),(x,Uy)∈names->∃ c,(x,c)∈cellsFrom n names acc
 | (name,kind)::r,n,acc,x,h=>by
  unfold cellsFrom
  rcases Qg.mp h with e | h
  . cases e
    exact ⟨n,Ws r _ _ _ Qd⟩
  . split
    . exact Jad r _ _ x h
    . exact Jad r _ _ x h
theorem Bp:∀ (names:List (Str×Ycp)) (h:Heap) (acc:List (Str×Addr)) (x:Str) (c:Addr),(x,c)∈cellsFrom h.objs.size names acc->(x,c)∈acc\/(pushCells h names).IsCell c none
 | [],h,acc,x,c,m=>.inl m
 | (name,kind)::r,h,acc,x,c,m=>by
  unfold cellsFrom at m
  unfold pushCells
  split at m
  . rename_i hk
    rw [if_pos hk]
    have e:h.objs.size+1=(h.push { cls:=.type "cell",data:=.cell none }).objs.size:=by rw [Xr]
    rw [e] at m
    rcases Bp r _ _ x c m with m | m
    . rcases Qg.mp m with z | m
      . cases z
        exact .inr ⟨_,pushCells_keeps r _ _ _ (Q5 _ rfl),rfl⟩
      . exact .inl m
    . exact .inr m
  . rename_i hk
    rw [if_neg hk]
    exact Bp r h acc x c m
theorem Jfb {env:Env}:∀ (l:List (Str×Ycp)) (cs:List (Str×Addr)) (x:Str) (c:Addr),(x,c)∈Ya env l cs->(x,c)∈cs\/(x,Ug)∈l
 | [],cs,x,c,h=>.inl h
 | (n,k)::r,cs,x,c,h=>by
  unfold Ya at h
  rcases Jfb r _ x c h with g | g
  . split at g
    . rename_i hk
      have hk:k = .free:=by simpa using hk
      subst hk
      rcases Qg.mp g with e | g
      . cases e;exact .inr Qd
      . exact .inl g
    . exact .inl g
  . exact .inr (Qh _ g)
theorem Ji9 {l:List (Str×Ycp)}(u:(l.map (·.1)).Nodup) {x:Str}{j k:Ycp}(h:(x,j)∈l) (g:(x,k)∈l):j=k:=by
 induction l with
 | nil=>cases h
 | cons p l ih=>
  rw [Qq,Xm] at u
  rcases Qg.mp h with e | h<;>rcases Qg.mp g with e' | g
  . rw [<- e] at e';cases e';rfl
  . exact absurd (Ql.mpr ⟨_,g,by rw [<- e]⟩) u.1
  . exact absurd (Ql.mpr ⟨_,h,by rw [<- e']⟩) u.1
  . exact ih u.2 h g
noncomputable def Zf (X:Cx) (N':List Str) (scope:Ycm) (C:Addr) (s:Ycg) (H:Hp) (fp:List Addr):Cx:=
 { Yh X N' scope C s H fp with env:=compEnvC scope (cellsFrom (C+1) scope.names (Ya X.env scope.names [])) C X.env,fn:=λ x=>scope.names.lookup x==some Uy }
structure CompScopeC (sc:Ycm) (N:List Str) (scope:Ycm) (N':List Str) (k:Nat) (idx:List Nat):Prop where
 kind:scope.kind = .function
 uniq:(scope.names.map (·.1)).Nodup
 loc:∀ x∈scope.names,x.2 = .local -> scope.names.lookup x.1=some .local
 fr:∀ x∈scope.names,x.2 = .free->sc.names.lookup x.1=some .cell\/sc.names.lookup x.1=some .free
 nd:N'.Nodup
 free:∀ x∈N'.drop k,scope.names.lookup x=some .free
 ix:(N'.drop k).map some=idx.map λ i=>N[i]?
 len:N'.length=k+idx.length
section
variable {X:Cx}{pins:List (Addr×Obj)}{σ:St}{H:Hp}{s:Ycg}{scope:Ycm}{N':List Str}{k:Nat}{idx:List Nat}{sc:Ycm}{N:List Str}
theorem Jms (I:Inv X pins σ H s) (S:CompScopeC sc N scope N' k idx) (hsc:X.env.scope=sc) (hNN:X.N=N) {fp:List Addr}(hf:∀ b∈fp,Jbj X pins H b) (hlt:∀ b∈fp,b<s.heap.objs.size) {t':Nat} :
 Inv (Zf X N' scope s.heap.objs.size s H fp) [] (Yi k idx σ) H { s with heap:=pushCells (s.heap.push { cls:=.type "dict",data:=.dict #[] }) scope.names,toks:=t' }:=by
 have hcell:∀ x∈scope.names,x.2 = .free->∃ c,X.env.cells.lookup x.1=some c:=λ x hx hfree=>I.ok.has x.1 (by
  show X.env.scope.names.lookup x.1=_\/X.env.scope.names.lookup x.1=_
  rw [hsc];exact S.fr x hx hfree)
 have hclm:∀ x c,(x,c)∈Ya X.env scope.names []->X.env.cells.lookup x=some c:=λ x c e=>Jct hcell (λ p hp=>by cases hp) (x,c) e
 have hold:∀ x c,(x,c)∈Ya X.env scope.names []->c<s.heap.objs.size:=λ x c e=>by
  obtain ⟨v,o,ho,_⟩:=I.cell x c (hclm x c e)
  exact Qp ho
 have hk:∀ b o,s.heap.get? b=some o->(pushCells (s.heap.push { cls:=.type "dict",data:=.dict #[] }) scope.names).get? b=some o:=λ b o e=>pushCells_keeps _ _ b o (Qk _ e)
 have hsp:∀ x c,(cellsFrom (s.heap.objs.size+1) scope.names (Ya X.env scope.names [])).lookup x=some c->((x,c)∈Ya X.env scope.names []\/(s.heap.objs.size+1<=c/\(x,Uy)∈scope.names)):=λ x c e=>
  Jac _ _ _ x c (Xs e)
 have hok:(Zf X N' scope s.heap.objs.size s H fp).Ok:={
  mod:=I.ok.mod
  kind:=S.kind
  glob:=I.ok.glob
  blt:=I.ok.blt
  above:=Qn _
  inj:=λ x y c e1 e2=>Ba _ _ _ (λ p hp=>J6l (hold p.1 p.2 hp)) x y c (Xs e1) (Xs e2) λ x y c h g=>I.ok.inj x y c (hclm x c h) (hclm y c g)
  has:=λ x hx=>by
   have hcf:scope.names.lookup x=some .cell\/scope.names.lookup x=some .free:=by
    rcases hx with hx | hx
    . rcases Wp (env:=X.env) (names:=scope.names) hx with h | ⟨_,h⟩
      . exact .inl h
      . exact .inr h
    . rcases Wp (env:=X.env) (names:=scope.names) hx with h | ⟨h,_⟩
      . exact .inr h
      . cases h
   rcases hcf with h | h
   . obtain ⟨c,hc⟩:=Jad scope.names (s.heap.objs.size+1) (Ya X.env scope.names []) x (Xs h)
     exact Zj hc
   . obtain ⟨c,hc⟩:=Bm (env:=X.env) (cs:=[]) (Xs h)
     exact Zj (Ws scope.names (s.heap.objs.size+1) _ _ hc)
  cab:=λ x c h e=>by
   rcases hsp x c e with m | m
   . rcases Jfb _ _ x c m with z | z
     . cases z
     . have hx:scope.names.lookup x=some .cell:=by simpa using (show (scope.names.lookup x==some Uy)=true from h)
       have:=Ji9 S.uniq z (Xs hx)
       cases this
   . exact J9h m.1
  hd:=I.ok.hd
  frames:=I.ok.frames
  stk:=.inl rfl
  exf:=λ b hb=>⟨Xf (hlt b hb),λ x c e=>by
   rcases hsp x c e with m | m
   . exact (hf b hb).2.2.2.2.1 x c (hclm x c m)
   . intro z
     have h2:=m.1
     rw [z] at h2
     exact absurd (Xn (hlt b hb) (J9h h2)) (Xe _)⟩
  bs:=I.bs
  bsz:=Xk I.ok.bsz I.sz
  noex:=λ b o e hb=>by
   rcases (hf b hb).2.2.2.1 with z | z
   . exact I.ok.noex b o e z
   . exact absurd (Xn (Qp e) (Xk I.ok.bsz z)) (Xe _)
  exfs:=λ b hb hz=>by
   rcases Qg.mp (I.stkSub b hz) with e | e
   . exact (hf b hb).2.1 e
   . exact (hf b hb).2.2.1 e
  funs:=I.stack
  frf:=I.stkFree }
 refine ⟨hok,rfl,I.bare,Un.kept hk,⟨_,(Heap.Ns.new s.heap (.type "dict")).keeps (pushCells_keeps _ _),λ i x v e1 e2 e3=>?_⟩,λ x c e=>?_,I.hok.fresh (Qn _),λ x c e=>?_,(λ p hp=>by cases hp),I.hok.kept hk,?_⟩
 . have hi:k<=i:=by
    rcases U8 i k with h | h
    . have e2:(Yi k idx σ)[i]? = some (some v):=e2
      unfold Yi at e2
      rw [J5x (by simpa using h),J6f] at e2
      split at e2<;>cases e2
    . exact h
   have e1':(N'.drop k)[i-k]? = some x:=by
    rw [Yat,show k+(i-k)=i by omega];exact e1
   have hfree:=S.free x (Xa e1')
   have e2':(idx.map λ i=>(σ[i]?).join)[i-k]? = some (some v):=by
    have e2:(Yi k idx σ)[i]? = some (some v):=e2
    unfold Yi at e2
    rw [J5w (by simpa using hi),Uq] at e2
    exact e2
   rw [Qs] at e2'
   cases hj:idx[i-k]? with
   | none=>rw [hj] at e2';cases e2'
   | some j=>
    rw [hj] at e2'
    have e3':(σ[j]?).join=some v:=by simpa using e2'
    have eσ:σ[j]? = some (some v):=by
     cases q:σ[j]? with
     | none=>rw [q] at e3';cases e3'
     | some o=>rw [q] at e3';cases o with
      | none=>cases e3'
      | some z=>cases e3';rfl
    have eN:X.N[j]? = some x:=by
     rw [hNN]
     have:=congrArg (λ l=>l[i-k]?) S.ix
     simp only [Qs,e1',hj,Option.map_some] at this
     exact (Xd this).symm
    have hvk:=S.fr _ (Xs hfree) rfl
    obtain ⟨m,hm,hl⟩:=I.loc
    obtain ⟨u,ru,lk⟩:=hl j x v eN eσ (by rw [hsc];exact .inr hvk)
    refine ⟨u,ru,.inr ⟨Ja0 (env:=X.env) hfree,?_⟩⟩
    rcases lk with ⟨kl,_⟩ | ⟨_,c,ec,z⟩
    . have kl:X.env.scope.names.lookup x=some .local := kl
      rw [hsc] at kl
      rcases hvk with q | q<;>(rw [kl] at q;cases q)
    . obtain ⟨d,hd⟩:=Bm (env:=X.env) (cs:=[]) (Xs hfree)
      obtain ⟨d',hd'⟩:=Zj (Ws scope.names (s.heap.objs.size+1) _ _ hd)
      have e:d'=c:=by
       rcases hsp x d' hd' with m | m
       . have:=hclm x d' m
         rw [ec] at this
         cases this;rfl
       . have:=Ji9 S.uniq m.2 (Xs hfree)
         cases this
      subst e
      obtain ⟨o,ho,hod⟩:=z
      exact ⟨d',hd',o,hk d' o ho,hod⟩
 . have e0:s.heap.objs.size+1=(s.heap.push { cls:=.type "dict",data:=.dict #[] }).objs.size:=by rw [Xr]
   have m:=Xs (show (cellsFrom (s.heap.objs.size+1) scope.names (Ya X.env scope.names [])).lookup x=some c from e)
   rw [e0] at m
   rcases Bp _ _ _ x c m with m | m
   . obtain ⟨v,o,ho,hod⟩:=I.cell x c (hclm x c m)
     exact ⟨v,o,hk c o ho,hod⟩
   . exact ⟨none,m⟩
 . rcases hsp x c e with m | m
   . exact I.freeC x c (hclm x c m)
   . exact I.hok.fresh (J9h m.1)
 . show (Yi k idx σ).length=N'.length
   unfold Yi
   rw [S.len,Qw,Uq,Qb]
end
section
variable {X:Cx}{tg iter elt:Expr}{ifs:List Expr}{scope sc:Ycm}{N N':List Str}{k:Nat}{idx:List Nat}{wi:TI}{g:TG}{tt:TT}{te:TE}{pos:Pos}
theorem Jfc {pins:List (Addr×Obj)}{s:Ycg}{σ:St}{E:Ycf->Ycg->Prop}{RR:Ycf->Addr->Yc5->Ycg->Prop}{itv:Ycf}{Qe:Addr->Hp->Prop}
 (hc:X.calm=true) (S:CompScopeC sc N scope N' k idx) (hsc:X.env.scope=sc) (hNN:X.N=N)
 (hg:∀ C s H fp,PG (Zf X N' scope C s H fp) tg g) (ht:∀ C s H fp,PTs (Zf X N' scope C s H fp) ifs tt) (he:∀ C s H fp,PE (Zf X N' scope C s H fp) elt te)
 (hit:PIE X pins σ tg (λ J H1=>∀ l,H1 l=none->Jbm J g tt te l (Yi k idx σ) (upd H1 l (.lst [])) λ H2=>Qe l H2) itv s)
 (hRR:∀ l H2 C s2,Inv X pins σ H2 s2->(∃ m,s2.heap.Ns C m)->Free1 X pins H2 C->Qe l H2->RR (.ref l) C (.ok .next) s2) :
 Ych (model X.prog X.w) X.A (newList []) (λ acc s₃=>Ych (model X.prog X.w) X.A (newFunctionEnv scope X.env.globals (Ya X.env scope.names []) [] X.env.qual none .none (some X.env)) (λ cenv s₄=>
  Yct (model X.prog X.w) X.A (.compStart (.ListComp elt [⟨tg,iter,ifs,0⟩] scope pos) 0 itv acc { cenv with scope:=relabel scope X.env }) (RR acc cenv.locals) s₄) E s₃) E s:=by
 obtain ⟨it,fp,tn,J,H1,rfl,I1,T,st1,f1,q⟩:=hit
 refine wpAny_newObj_type ?_
 have hf0:H1 s.heap.objs.size=none:=I1.hok.fresh (Qn _)
 have hflt:∀ b∈fp,b<s.heap.objs.size:=λ b hb=>let ⟨_,e,_⟩:=T.obj _ _ st1 b hb;Qp e
 generalize hl:s.heap.objs.size=l at *
 have I2:Inv X pins σ (upd H1 l (.lst [])) { s with heap:=s.heap.push { cls:=.type "list",dict:=none,data:=.seq ([]:List Ycf).toArray } }:=
  I1.laid (t':=s.toks) (λ b u e=>Qk _ e) (J7o hl) (show Y1 _ _ _ _ l (.lst []) from ⟨Q9 _,[],0,.nil,by rw [<- hl];exact Q5 _ rfl⟩)
 have st2:tn 0 (s.heap.push { cls:=.type "list",dict:=none,data:=.seq ([]:List Ycf).toArray }):=T.keep _ _ _ st1 λ b _ o e=>Qk _ e
 have f2:∀ b∈fp,Jbj X pins (upd H1 l (.lst [])) b:=λ b hb=>⟨by rw [Ji (Xf (hflt b hb))];exact (f1 b hb).1,(f1 b hb).2⟩
 have hsz2:(s.heap.push { cls:=.type "list",dict:=none,data:=.seq ([]:List Ycf).toArray }).objs.size=l+1:=by rw [Xr,hl]
 have q2:=q l hf0
 generalize hs2:({ s with heap:=s.heap.push { cls:=.type "list",dict:=none,data:=.seq ([]:List Ycf).toArray } }:Ycg)=s2 at I2 ⊢
 have st2:tn 0 s2.heap:=by rw [<- hs2];exact st2
 have hsz2:s2.heap.objs.size=l+1:=by rw [<- hs2];exact hsz2
 refine Jkr ?_
 have hk1:∀ b o,s2.heap.get? b=some o->(pushCells (s2.heap.push { cls:=.type "dict",data:=.dict #[] }) scope.names).get? b=some o:=λ b o e=>pushCells_keeps _ _ b o (Qk _ e)
 have hlt2:∀ b∈fp,b<s2.heap.objs.size:=λ b hb=>by rw [hsz2];exact J6l (hflt b hb)
 have I3:=Jms (t':=s2.toks) I2 S hsc hNN f2 hlt2
 generalize pushCells (s2.heap.push { cls:=.type "dict",data:=.dict #[] }) scope.names=h₁ at *
 generalize hC:s2.heap.objs.size=C at *
 have st3:tn 0 h₁:=T.keep _ _ _ st2 λ b _ o e=>hk1 b o e
 obtain ⟨W,⟨m0,w0⟩,turn⟩:=q2
 -- back to the frame around
 have back:∀ {σ':St} {H':Hp} {s':Ycg},Inv (Zf X N' scope C s2 (upd H1 l (.lst [])) fp) [] σ' H' s'->Inv X pins σ H' s':=λ {σ' H' s'} I'=>
  I2.call' I'.os I'.base I'.hok I'.bare λ b hb=>⟨(f2 b hb).2.2.2.1,(f2 b hb).2.1,(f2 b hb).2.2.2.2.1,(f2 b hb).2.2.2.2.2⟩
 have loop:∀ s₃:Ycg,s₃ = { s2 with heap:=h₁,toks:=s2.toks } ->
  Yct (model X.prog X.w) X.A (.compLoop (.ListComp elt [⟨tg,iter,ifs,0⟩] scope pos) 0 (.ref it) (.ref l) (compEnvC scope (cellsFrom (C+1) scope.names (Ya X.env scope.names [])) C X.env)) (RR (.ref l) C) s₃:=by
  rintro s₃ rfl
  refine Je8 (λ n s'=>∃ i σ' H',Inv (Zf X N' scope C s2 (upd H1 l (.lst [])) fp) [] σ' H' s'/\tn i s'.heap/\(∀ b∈fp,H' b=none)/\W i n σ' H') ?_ m0 ⟨0,_,_,I3,st3,λ b hb=>(f2 b hb).1,w0⟩
  rintro n s4 ⟨i,σ4,H4,I4,st4,fr4,w4⟩
  have stat:∀ {H':Hp},(∀ b∈fp,H' b=none)->∀ b∈fp,Jbj (Zf X N' scope C s2 (upd H1 l (.lst [])) fp) [] H' b:=λ {H'} hn b hb=>
   ⟨hn b hb,(I4.ok.exf b hb).1,I4.ok.exfs b hb,.inl hb,(I4.ok.exf b hb).2,λ p hp=>by cases hp⟩
  rcases turn i n σ4 H4 w4 with ⟨stop,qn⟩ | ⟨go,step⟩
  . refine thn (T.done (Zf X N' scope C s2 (upd H1 l (.lst [])) fp) rfl rfl rfl hc i [] s4 σ4 H4 NoE I4 (stat fr4) st4 stop) λ r s5 ⟨hr,I5⟩=>?_
    subst hr
    have IX:=back I5
    have hCl:C≠X.env.locals:=λ e=>by
     have:=I2.lt
     rw [hC,<- e] at this
     exact Xe _ this
    have hCc:∀ x c,X.env.cells.lookup x=some c->c≠C:=λ x c e z=>by
     obtain ⟨v,o,ho,_⟩:=I2.cell x c e
     have:=Qp ho
     rw [hC,z] at this
     exact Xe _ this
    obtain ⟨m5,hm5,_⟩:=I5.loc
    refine hRR l H4 C s5 IX ⟨m5,hm5⟩ ⟨hCl,hCc,I5.free,by rw [<- hC];exact I2.sz,λ p hp z=>?_⟩ qn
    obtain ⟨e,_⟩:=I2.pin p hp
    have:=Qp e
    rw [hC,z] at this
    exact Xe _ this
  . refine thn (T.item (Zf X N' scope C s2 (upd H1 l (.lst [])) fp) rfl rfl rfl hc i [] s4 σ4 H4 NoE I4 (stat fr4) st4 go) λ r s5 ⟨u,hr,h5⟩=>?_
    subst hr
    refine thn h5 λ _ s6 ⟨x,H6,I6,r6,y6,st6,fr6⟩=>?_
    have I6':=I6.pinned (stat fr6) (T.obj _ _ st6)
    have keepT:∀ {σ7:St} {H7:Hp} {s7:Ycg},Inv (Zf X N' scope C s2 (upd H1 l (.lst [])) fp) ([]++Jco fp s6.heap) σ7 H7 s7->tn (i+1) s7.heap/\∀ b∈fp,H7 b=none:=λ {σ7 H7 s7} I7=>
     ⟨T.keep _ _ _ st6 λ b hb o e=>(I7.pin (b,o) (Q8 _ (Q8 _ (Z7 hb e)))).1,λ b hb=>by
      obtain ⟨o,e,d⟩:=T.obj _ _ st6 b hb
      exact (I7.pin (b,o) (Q8 _ (Q8 _ (Z7 hb e)))).2.1⟩
    refine thn (hg C s2 (upd H1 l (.lst [])) fp _ s6 σ4 H6 x u _ I6' r6 (step x H6 y6)) λ _ s7 ⟨σ7,H7,I7,q7⟩=>?_
    refine thn (ht C s2 (upd H1 l (.lst [])) fp _ s7 σ7 H7 _ I7 q7) λ ok s8 ⟨H8,I8,q8⟩=>?_
    cases ok with
    | false=>
     rw [if_neg (by decide)] at q8 ⊢
     obtain ⟨m',hm,w8⟩:=q8
     have kt:=keepT I8
     exact ⟨m',hm,i+1,σ7,H8,I8.unpinned,kt.1,kt.2,w8⟩
    | true=>
     rw [if_pos rfl] at q8 ⊢
     refine thn (he C s2 (upd H1 l (.lst [])) fp _ s8 σ7 H8 _ I8 q8) λ v s9 ⟨y,H9,I9,r9,xs,e9,z9,m',hm,w9⟩=>?_
     refine thn (Zi _ s9 σ7 H9 (.ref l) [y] (.ref l) [v] (λ z H10=>z = .non/\H10=upd H9 l (.lst (xs++[y]))) I9 rfl (.cons r9 .nil) ⟨l,xs,y,rfl,rfl,e9,z9,rfl,rfl⟩) λ _ s10 ⟨z,H10,I10,_,_,e10⟩=>?_
     subst e10
     have kt:=keepT I10
     exact ⟨m',hm,i+1,σ7,_,I10.unpinned,kt.1,kt.2,w9⟩
 have e2:(newEnv scope C X.env.globals (cellsFrom (C+1) scope.names (Ya X.env scope.names [])) X.env.qual none .none (some X.env) Yda).locals=C:=rfl
 show Yct _ _ (.compStart _ 0 (.ref it) (.ref l) (compEnvC scope (cellsFrom (C+1) scope.names (Ya X.env scope.names [])) C X.env)) (RR (.ref l) C) _
 exact Yd3 (loop _ rfl) (T.self _ 0 _ _ _ st3 (loop _ rfl))
theorem Jun (hc:X.calm=true) (S:CompScopeC sc N scope N' k idx) (hsc:X.env.scope=sc) (hNN:X.N=N) (hi:PI X tg iter wi)
 (hg:∀ C s H fp,PG (Zf X N' scope C s H fp) tg g) (ht:∀ C s H fp,PTs (Zf X N' scope C s H fp) ifs tt) (he:∀ C s H fp,PE (Zf X N' scope C s H fp) elt te)
 (hs:∀ x,Ydd iter X.env x=pure x:=by intro _;rfl):PE X (.ListComp elt [⟨tg,iter,ifs,0⟩] scope pos) (Je9 wi k idx g tt te):=by
 intro pins s σ H Q I h
 rw [eval_ListComp]
 have hclos:Yc8 scope X.env=pure (Ya X.env scope.names []):=Wo λ x hx hfree=>I.ok.has x.1 (by
  show X.env.scope.names.lookup x.1=_\/X.env.scope.names.lookup x.1=_
  rw [hsc];exact S.fr x hx hfree)
 refine wpAny_comprehension_free (use:=none) rfl hs hclos S.kind S.loc (thn (hi pins s σ H _ I h) λ v s1 h1=>thn h1 λ itv s2 h2=>?_)
 refine Jfc (RR:=λ acc C=>Ydk (model X.prog X.w) X.A X.xe none (EP X pins σ Q) acc C) (Qe:=λ l H2=>Q (.ref l) H2) hc S hsc hNN hg ht he h2 ?_
 intro l H2 C s2 I2 hm f q
 obtain ⟨m,hm⟩:=hm
 exact ⟨m,hm,λ h' hs'=>⟨.ref l,H2,I2.freed f hs',rfl,q⟩⟩
theorem Jmt {i:Nat}{y:Str}{py spos:Pos}(hc:X.calm=true) (hN:X.N.Nodup) (hiN:X.N[i]? = some y) (hy:X.env.scope.names.lookup y=some .local) (S:CompScopeC sc N scope N' k idx) (hsc:X.env.scope=sc) (hNN:X.N=N) (hi:PI X tg iter wi)
 (hg:∀ C s H fp,PG (Zf X N' scope C s H fp) tg g) (ht:∀ C s H fp,PTs (Zf X N' scope C s H fp) ifs tt) (he:∀ C s H fp,PE (Zf X N' scope C s H fp) elt te)
 (hsw:Yc0 (.ListComp elt [⟨tg,iter,ifs,0⟩] scope pos) (some (.Name y py)) spos.line X.env=pure true:=by rfl)
 (hs:∀ x,Ydd iter X.env x=pure x:=by intro _;rfl):PS X (.Assign [.Name y py] (.ListComp elt [⟨tg,iter,ifs,0⟩] scope pos) spos) (Jbn i wi k idx g tt te):=by
 intro pins s σ H D I h
 rw [Ydv _ _ _ _ hsw]
 refine wpAny_bind (wpAny_standAt (wpAny_bind ?_))
 show Ych _ X.A (do let _ <- Ydw (.ListComp elt [⟨tg,iter,ifs,0⟩] scope pos) scope X.env _ (newList []) false (eval iter X.env) (some (assign (.Name y py) X.env))) _ _ s
 have hclos:Yc8 scope X.env=pure (Ya X.env scope.names []):=Wo λ x hx hfree=>I.ok.has x.1 (by
  show X.env.scope.names.lookup x.1=_\/X.env.scope.names.lookup x.1=_
  rw [hsc];exact S.fr x hx hfree)
 refine wpAny_bind (wpAny_mono (wpAny_comprehension_free (use:=some (assign (.Name y py) X.env)) (Q:=λ _ s'=>SP X pins D .next s') rfl hs hclos S.kind S.loc (thn (hi pins s σ H _ I h) λ v s1 h1=>thn h1 λ itv s2 h2=>?_))
  (λ _ s' hq=>wpAny_pure (wpAny_pure hq)) λ _ _ e=>e)
 refine Jfc (RR:=λ acc C=>Ydk (model X.prog X.w) X.A X.xe (some (assign (.Name y py) X.env)) (λ _ s'=>SP X pins D .next s') acc C) (Qe:=λ l H2=>D.nx (σ.set i (some (.ref l))) H2) hc S hsc hNN hg ht he h2 ?_
 intro l H2 C s2 I2 hm f q
 obtain ⟨m,hm⟩:=hm
 show Ych _ X.A (assign (.Name y py) X.env (.ref l)) _ _ _
 refine Ydl (Jb5 (v:=.ref l) I2 hN hiN (.inl hy) rfl (λ s' I' hch=>?_) (.inr hy))
 obtain ⟨a,hsb,ha⟩:=hch
 have haC:C≠a:=λ z=>by
  rcases ha with e | e
  . exact f.loc (z.trans e)
  . exact f.cel y a e z.symm
 exact ⟨m,hm.sameBut hsb haC,λ h' hs'=>⟨_,H2,I'.freed f hs',q⟩⟩
end
noncomputable def J1e (scope osc:Ycm):Ycm:={ scope with names:=scope.names.map λ (n,k)=>if (k==Ug&&osc.kind == .function&&osc.names.lookup n==some .cell) then (n,Uy) else (n,k) }
theorem J26 {X:Cx}{N':List Str}{scope osc:Ycm}{C:Addr}{s:Ycg}{H:Hp}{fp:List Addr}(h:X.env.scope=osc):(Zf X N' scope C s H fp).env.scope=J1e scope osc:=by
 subst h;rfl
end L2
namespace My
open L2
noncomputable def Juo (ws:List Way) (cs:List Int) (p:Nat):List Int:=(Qf ws.length).map λ i=>cs.getD i 0*(Ja ws (i:Nat)).g.getD p 0
noncomputable def rgI (ws:List Way) (cs:List Int) (U:Int):List Int:=(Qf U.toNat).map λ p=>(Juo ws cs p).sum
inductive Vl where
 | jnk | jar | tape | d (x:Yce) | own (xs:List Yce) | dct (kvs:List (Key×Yce)) | own2 (ks:Option (List Key)) (ps:List (Addr×List Yce)) | pin (v:V) (x:Yce)
structure Src where
 jv:V
 ch:List Addr
 inv:Nat->Hp->Prop
 keep:∀ {n:Nat} {H H':Hp},inv n H->(∀ b∈ch,∀ o,H b=some o->H' b=some o)->inv n H'
 dom:∀ {n:Nat} {H:Hp},inv n H->∀ b∈ch,H b≠none
noncomputable def Src.no:Src:=⟨.non,[],λ _ _=>True,λ _ _=>trivial,λ _ _ h=>by cases h⟩
def Jo8 (H:Hp) (p c:Addr) (n:Nat):Prop:=∃ e,Jmk H p c e/\(n=0\/e=some (n:Int))
theorem Jo8.jar {H:Hp}{p c:Addr}{n:Nat}(J:Jo8 H p c n):Jar H p c:=J.choose_spec.1.jar
theorem Jar.n {H:Hp}{p c:Addr}(J:Jar H p c):Jo8 H p c 0:=let ⟨e,h⟩:=J.e;⟨e,h,.inl rfl⟩
theorem Jxl {H:Hp}{p c:Addr}{n:Nat}(J:Jo8 H p c n):∀ b∈[p,c],H b≠none:=λ b hb z=>J.jar.fresh z hb
theorem Jup {H H':Hp}{p c:Addr}{n:Nat}(J:Jo8 H p c n) (h:∀ b∈[p,c],∀ o,H b=some o->H' b=some o):Jo8 H' p c n:=by
 obtain ⟨e,⟨ns,r,s,t,X,h3⟩,hn⟩:=J
 exact ⟨e,⟨ns,r,s,t,⟨h _ (by simp) _ X.d,h _ (by simp) _ X.l⟩,h3⟩,hn⟩
noncomputable def Src.jar (p c:Addr):Src:=⟨.ref p,[p,c],λ n H=>Jo8 H p c n,λ J h=>Jup J h,λ J=>Jxl J⟩
theorem Jsd {H H':Hp}{p c:Addr}{n:Nat}(J:Tape H p c n) (h:∀ b∈[p,c],∀ o,H b=some o->H' b=some o):Tape H' p c n:=by
 obtain ⟨ns,a,g,h1,h2,h3⟩:=J.ex
 exact ⟨ns,a,g,h _ (by simp) _ h1,h _ (by simp) _ h2,h3⟩
noncomputable def Src.tape (p c:Addr):Src:=⟨.ref p,[p,c],λ n H=>Tape H p c n,λ J h=>Jsd J h,λ J b hb z=>J.fresh z hb⟩
def Yy (S:Src) (n':Nat) (H H':Hp):Prop:=Kp S.ch H H'/\S.inv n' H'
section
variable {S:Src}{n m:Nat}{H H1 H2 H':Hp}{ex:List Addr}
theorem Yy.refl (h:S.inv n H):Yy S n H H:=⟨.refl,h⟩
theorem Yy.trans (a:Yy S n H H1) (b:Yy S m H1 H2):Yy S m H H2:=⟨a.1.trans b.1,b.2⟩
theorem Yy.new (h:S.inv n H) (k:Kp [] H H'):Yy S n H H':=⟨k.of,S.keep h λ b _ o e=>k b o e (by simp)⟩
theorem Yy.then (a:Yy S n H H1) (k:Kp [] H1 H2):Yy S n H H2:=a.trans (.new a.2 k)
theorem Yy.free {p:Addr}(a:Yy S n H H1) (h:H1 p=none):H p=none:=by
 cases e:H p with
 | none=>rfl
 | some o=>
  by_cases hp:p∈S.ch
  . exact absurd h (S.dom a.2 p hp)
  . rw [a.1 p o e hp] at h;cases h
def Alc (ex:List Addr) (H:Hp):Prop:=∀ a∈ex,H a≠none
theorem Alc.nm {p:Addr}(h:Alc ex H) (e:H p=none):p∉ex:=λ z=>h p z e
theorem Alc.step (h:Alc ex H) (k:Yy S n H H'):Alc ex H':=λ a ha z=>h a ha (k.free z)
mutual
theorem Rep.add {l:Addr}(h:H l=none):∀ {d:Yce}{v:V},Rep ex H d v->Rep (l::ex) H d v
 | _,_,.none=>.none
 | _,_,.bool b=>.bool b
 | _,_,.int i=>.int i
 | _,_,.str x=>.str x
 | _,_,.tuple e n z r=>.tuple e (λ q=>(Qg.mp q).elim (λ q=>by rw [q,h] at e;cases e) n) z (Reps.add h r)
 | _,_,.list e n z r=>.list e (λ q=>(Qg.mp q).elim (λ q=>by rw [q,h] at e;cases e) n) z (Reps.add h r)
theorem Reps.add {l:Addr}(h:H l=none):∀ {ds:List Yce}{vs:List V},Reps ex H ds vs->Reps (l::ex) H ds vs
 | _,_,.nil=>.nil
 | _,_,.cons r t=>.cons (Rep.add h r) (Reps.add h t)
end
theorem Reps.sub {l:Addr}{d:List Yce}{v:List V}(r:Reps (l::ex) H d v):Reps ex H d v:=Reps.mono (λ b hb=>Qh _ hb) r
end
noncomputable def exm (m:Bool) (S:Src) (ex:List Addr):List Addr:=match m with | true=>ex | false=>S.ch
def KvR (ex:List Addr) (H:Hp) (kvs:List (Key×Yce)) (kws:List (Key×V)):Prop:=kws.map (·.1)=kvs.map (·.1)/\Reps ex H (kvs.map (·.2)) (kws.map (·.2))
noncomputable def J27 (ks:Option (List Key)) (rs:List V):HO:=match ks with
 | none=>.lst rs
 | some ks=>.dK (ks.zip rs)
structure In2 (S:Src) (ex:List Addr) (H:Hp) (p:Addr×List Yce):Prop where
 m:p.1∈ex
 c:p.1∉S.ch
 h:∃ vs,H p.1=some (.lst vs)/\vs.length<=sizeLine/\Reps ex H p.2 vs
noncomputable def Y4 (ps:List (Addr×List Yce)):List V:=ps.map λ p=>.ref p.1
structure Own2 (S:Src) (ex:List Addr) (H:Hp) (ks:Option (List Key)) (ps:List (Addr×List Yce)) (a:Addr):Prop where
 h:H a=some (J27 ks (Y4 ps))
 z:ps.length<=1000000
 k:∀ l,ks=some l->l.length=ps.length
 nd:(a::ps.map (·.1)).Nodup
 m:a∈ex
 c:a∉S.ch
 i:∀ p∈ps,In2 S ex H p
def SlR (S:Src) (ex:List Addr) (H:Hp):Vl->Option V->Prop
 | .jnk,_=>True
 | .jar,o=>∃ p c,S=Src.jar p c/\o=some (.ref p)
 | .tape,o=>∃ p c,S=Src.tape p c/\o=some (.ref p)
 | .d x,o=>∃ v,o=some v/\Rep ex H x v
 | .own xs,o=>∃ a vs,o=some (.ref a)/\H a=some (.lst vs)/\vs.length<=sizeLine/\Reps ex H xs vs/\a∈ex/\a∉S.ch
 | .dct kvs,o=>∃ a kws,o=some (.ref a)/\H a=some (.dK kws)/\KvR ex H kvs kws/\a∈ex/\a∉S.ch
 | .own2 ks ps,o=>∃ a,o=some (.ref a)/\Own2 S ex H ks ps a
 | .pin v x,o=>o=some v/\Rep ex H x v
structure Ev (S:Src) (ex:List Addr) (env:List Vl) (σ:L2.St) (H:Hp) (n:Nat):Prop where
 len:env.length<=σ.length
 sl:∀ (i:Nat) (w:Vl),env[i]? = some w->SlR S ex H w (σ[i]?).join
 ch:∀ a∈S.ch,a∈ex
 al:Alc ex H
 inv:S.inv n H
section
variable {S:Src}{n m:Nat}{H H1 H2 H':Hp}{ex:List Addr}{env:List Vl}{σ:L2.St}
theorem SlR.kp {w:Vl}{o:Option V}(hc:∀ a∈S.ch,a∈ex) (k:Kp S.ch H H') (h:SlR S ex H w o):SlR S ex H' w o:=by
 have kx:Kp ex H H':=k.mono hc
 cases w with
 | jnk=>trivial
 | jar=>exact h
 | tape=>exact h
 | d x=>obtain ⟨v,e,r⟩:=h;exact ⟨v,e,r.keep kx⟩
 | pin v x=>obtain ⟨e,r⟩:=h;exact ⟨e,r.keep kx⟩
 | own xs=>obtain ⟨a,vs,e,h1,h2,h3,h4,h5⟩:=h;exact ⟨a,vs,e,k _ _ h1 h5,h2,h3.keep kx,h4,h5⟩
 | dct kvs=>obtain ⟨a,kws,e,h1,⟨h2,h3⟩,h4,h5⟩:=h;exact ⟨a,kws,e,k _ _ h1 h5,⟨h2,h3.keep kx⟩,h4,h5⟩
 | own2 ks ps=>obtain ⟨a,e,q⟩:=h;exact ⟨a,e,k _ _ q.h q.c,q.z,q.k,q.nd,q.m,q.c,λ p hp=>let w:=q.i p hp;⟨w.m,w.c,let ⟨vs,h1,h2,h3⟩:=w.h;⟨vs,k _ _ h1 w.c,h2,h3.keep kx⟩⟩⟩
theorem Ev.step (E:Ev S ex env σ H n) (k:Yy S m H H'):Ev S ex env σ H' m:=⟨E.len,λ i w e=>(E.sl i w e).kp E.ch k.1,E.ch,E.al.step k,k.2⟩
theorem Ev.rep (E:Ev S ex env σ H n) (k:Yy S m H H') {d:Yce}{v:V}(r:Rep ex H d v):Rep ex H' d v:=r.keep (k.1.mono E.ch)
theorem Ev.reps (E:Ev S ex env σ H n) (k:Yy S m H H') {d:List Yce}{v:List V}(r:Reps ex H d v):Reps ex H' d v:=r.keep (k.1.mono E.ch)
theorem Ev.sub (E:Ev S ex env σ H n) (b:Bool):∀ a∈exm b S ex,a∈ex:=by
 cases b with
 | true=>exact λ a h=>h
 | false=>exact E.ch
theorem Ev.sup (E:Ev S ex env σ H n) (b:Bool):∀ a∈S.ch,a∈exm b S ex:=by
 cases b with
 | true=>exact E.ch
 | false=>exact λ a h=>h
theorem Ev.alm (E:Ev S ex env σ H n) (b:Bool):Alc (exm b S ex) H:=λ a h=>E.al a (E.sub b a h)
theorem Ev.repm (E:Ev S ex env σ H n) (b:Bool) (k:Yy S m H H') {d:Yce}{v:V}(r:Rep (exm b S ex) H d v):Rep (exm b S ex) H' d v:=r.keep (k.1.mono (E.sup b))
theorem Rep.nil {d:Yce}{v:V}(r:Rep ex H d v):Rep [] H d v:=Rep.mono (λ b hb=>by cases hb) r
theorem Reps.nil' {d:List Yce}{v:List V}(r:Reps ex H d v):Reps [] H d v:=Reps.mono (λ b hb=>by cases hb) r
theorem Jj {i:Nat}{v:V}(h:(σ[i]?).join=some v):σ[i]? = some (some v):=by
 cases e:σ[i]? with
 | none=>rw [e] at h;cases h
 | some o=>rw [e] at h;cases o with
  | none=>cases h
  | some u=>cases h;rfl
end
abbrev GE:=List Vl->Nat->(Yce->Nat->Prop)->Prop
abbrev GT:=List Vl->Nat->(Bool->Nat->Prop)->Prop
abbrev GA:=List Vl->Nat->(List Vl->Nat->Prop)->Prop
abbrev GN:=List Vl->Nat->(List Yce->Nat->Prop)->Prop
abbrev GSp:=List Vl->Nat->(Yce->Nat->Prop)->Prop
abbrev GSn:=List Vl->Nat->(List Yce->Nat->Prop)->Prop
def Bq (S:Src) (ex:List Addr) (H:Hp):List Vl->List V->Prop
 | [],[]=>True
 | a::as,v::vs=>SlR S ex H a (some v)/\Bq S ex H as vs
 | _,_=>False
class EV (m:Bool) (te:TE) (g:outParam GE):Prop where
 ev:∀ {S:Src} {ex:List Addr} {env:List Vl} {σ:L2.St} {H:Hp} {n:Nat} {Q:VK} {P:Yce->Nat->Prop},Ev S ex env σ H n->g env n P->(∀ d n' v H',P d n'->Yy S n' H H'->Rep (exm m S ex) H' d v->Q v H')->te σ H Q
class NV (te:TE) (g:outParam GN):Prop where
 nv:∀ {S:Src} {ex:List Addr} {env:List Vl} {σ:L2.St} {H:Hp} {n:Nat} {Q:VK} {P:List Yce->Nat->Prop},Ev S ex env σ H n->g env n P->(∀ ds n' a vs H',P ds n'->Yy S n' H H'->H a=none->H' a=some (.lst vs)->vs.length<=sizeLine->Reps (a::ex) H' ds vs->Q (.ref a) H')->te σ H Q
class TV (tt:TT) (g:outParam GT):Prop where
 tv:∀ {S:Src} {ex:List Addr} {env:List Vl} {σ:L2.St} {H:Hp} {n:Nat} {Q:Bool->Hp->Prop} {P:Bool->Nat->Prop},Ev S ex env σ H n->g env n P->(∀ b n' H',P b n'->Yy S n' H H'->Q b H')->tt σ H Q
class AV (m:Bool) (ta:TA) (g:outParam GA):Prop where
 av:∀ {S:Src} {ex:List Addr} {env:List Vl} {σ:L2.St} {H:Hp} {n:Nat} {Q:List V->Hp->Prop} {P:List Vl->Nat->Prop},Ev S ex env σ H n->g env n P->(∀ as n' vs H',P as n'->Yy S n' H H'->Bq S (exm m S ex) H' as vs->Q vs H')->ta σ H Q
class DV (m:Bool) (ta:TA) (g:outParam GN):Prop where
 dv:∀ {S:Src} {ex:List Addr} {env:List Vl} {σ:L2.St} {H:Hp} {n:Nat} {Q:List V->Hp->Prop} {P:List Yce->Nat->Prop},Ev S ex env σ H n->g env n P->(∀ ds n' vs H',P ds n'->Yy S n' H H'->Reps (exm m S ex) H' ds vs->Q vs H')->ta σ H Q
abbrev G2:=Yce->Yce->(Yce->Prop)->Prop
class OV (r:R2) (f:outParam G2):Prop where
 ov:∀ {ex:List Addr} {H:Hp} {x y:V} {dx dy:Yce} {Q:VK} {P:Yce->Prop},Alc ex H->Rep ex H dx x->Rep ex H dy y->f dx dy P->(∀ d v H',P d->Kp [] H H'->Rep ex H' d v->Q v H')->r x y H Q
class OS (r:R2) (f:outParam G2):Prop where
 os:∀ {H:Hp} {x y:V} {dx dy:Yce} {Q:VK} {P:Yce->Prop},Rep [] H dx x->Rep [] H dy y->f dx dy P->(∀ d v,P d->(∀ ex,Rep ex H d v)->Q v H)->r x y H Q
class ON (r:R2) (f:outParam (Yce->Yce->(List Yce->Prop)->Prop)):Prop where
 on:∀ {ex:List Addr} {H:Hp} {x y:V} {dx dy:Yce} {Q:VK} {P:List Yce->Prop},Rep ex H dx x->Rep ex H dy y->f dx dy P->(∀ ds p vs,P ds->H p=none->vs.length<=sizeLine->Reps ex H ds vs->Q (.ref p) (upd H p (.lst vs)))->r x y H Q
abbrev G1:=List Yce->(Yce->Prop)->Prop
class CS (r:List V->Hp->VK->Prop) (f:outParam G1):Prop where
 cs:∀ {H:Hp} {xs:List V} {ds:List Yce} {Q:VK} {P:Yce->Prop},Reps [] H ds xs->f ds P->(∀ d v,P d->(∀ ex,Rep ex H d v)->Q v H)->r xs H Q
class CO (r:List V->Hp->VK->Prop) (f:outParam G1):Prop where
 co:∀ {ex:List Addr} {H:Hp} {xs:List V} {ds:List Yce} {Q:VK} {P:Yce->Prop},Alc ex H->Reps ex H ds xs->f ds P->(∀ d v H',P d->Kp [] H H'->Rep ex H' d v->Q v H')->r xs H Q
class CN (r:List V->Hp->VK->Prop) (f:outParam (List Yce->(List Yce->Prop)->Prop)):Prop where
 cn:∀ {ex:List Addr} {H:Hp} {xs:List V} {ds:List Yce} {Q:VK} {P:List Yce->Prop},Reps ex H ds xs->f ds P->(∀ es p vs,P es->H p=none->vs.length<=sizeLine->Reps ex H es vs->Q (.ref p) (upd H p (.lst vs)))->r xs H Q
abbrev Jxm (i:Nat):GE:=λ env n Q=>match env[i]? with
 | some (.d x)=>Q x n
 | some (.pin _ x)=>Q x n
 | _=>False
abbrev Jqk (i:Nat):GE:=λ env n Q=>match env[i]? with
 | some (.d x)=>Q x n
 | some (.pin _ x)=>Q x n
 | some (.own xs)=>Q (.list xs) n
 | some (.own2 none ps)=>Q (.list (ps.map λ p=>.list p.2)) n
 | _=>False
theorem Jeo {S:Src}{ex:List Addr}{H:Hp}:∀ {ps:List (Addr×List Yce)},(∀ a∈S.ch,a∈ex)->(∀ p∈ps,In2 S ex H p)->Reps S.ch H (ps.map λ p=>X7 p.2) (Y4 ps)
 | [],_,_=>.nil
 | p::ps,hc,h=>by
  have w:=h p Qd
  obtain ⟨vs,h1,h2,h3⟩:=w.h
  exact .cons (.list h1 w.c h2 (Reps.mono hc h3)) (Jeo hc λ q hq=>h q (Qh _ hq))
abbrev gC (d:Yce):GE:=λ _ n Q=>Q d n
section
variable {S:Src}{n m:Nat}{H H1 H2 H':Hp}{ex:List Addr}{env:List Vl}{σ:L2.St}{b:Bool}{te ta tb tc:TE}{g ga gb gc:GE}
instance ev_var {i:Nat}:EV true (Zv i) (Jxm i):=⟨λ {S ex env σ H n Q P} E h k=>by
 unfold Jxm at h
 split at h
 . rename_i x e
   obtain ⟨v,ev,r⟩:=E.sl i _ e
   exact ⟨v,Jj ev,k _ _ v H h (.refl E.inv) r⟩
 . rename_i v x e
   obtain ⟨ev,r⟩:=E.sl i _ e
   exact ⟨v,Jj ev,k _ _ v H h (.refl E.inv) r⟩
 . exact h.elim⟩
instance pv_var {i:Nat}:EV false (Zv i) (Jqk i):=⟨λ {S ex env σ H n Q P} E h k=>by
 unfold Jqk at h
 split at h
 . rename_i x e
   obtain ⟨v,ev,r⟩:=E.sl i _ e
   exact ⟨v,Jj ev,k _ _ v H h (.refl E.inv) (Rep.mono E.ch r)⟩
 . rename_i v x e
   obtain ⟨ev,r⟩:=E.sl i _ e
   exact ⟨v,Jj ev,k _ _ v H h (.refl E.inv) (Rep.mono E.ch r)⟩
 . rename_i xs e
   obtain ⟨a,vs,ev,h1,h2,h3,h4,h5⟩:=E.sl i _ e
   exact ⟨_,Jj ev,k _ _ _ H h (.refl E.inv) (.list h1 h5 h2 (Reps.mono E.ch h3))⟩
 . rename_i ps e
   obtain ⟨a,ev,q⟩:=E.sl i _ e
   have hs:sizeLine=16777216:=Ycl
   exact ⟨_,Jj ev,k _ _ _ H h (.refl E.inv) (.list q.h q.c (by unfold Y4;rw [Qb];have:=q.z;omega) (Jeo E.ch q.i))⟩
 . exact h.elim⟩
instance ev_int {i:Int}:EV b (tC (.int i)) (gC (.int i)):=⟨λ E h k=>k _ _ _ _ h (.refl E.inv) (.int i)⟩
instance ev_bl {i:Bool}:EV b (tC (.bl i)) (gC (.bool i)):=⟨λ E h k=>k _ _ _ _ h (.refl E.inv) (.bool i)⟩
instance ev_str {i:Str}:EV b (tC (.str i)) (gC (.str i)):=⟨λ E h k=>k _ _ _ _ h (.refl E.inv) (.str i)⟩
instance ev_non:EV b (tC .non) (gC .none):=⟨λ E h k=>k _ _ _ _ h (.refl E.inv) .none⟩
abbrev gOp (f:G2) (ga gb:GE):GE:=λ env n Q=>ga env n λ x n1=>gb env n1 λ y n2=>f x y λ d=>Q d n2
instance ev_opS {r:R2}{f:G2} [O:OS r f] [A:EV false ta ga] [B:EV false tb gb]:EV b (tOp r ta tb) (gOp f ga gb):=⟨λ {S ex env σ H n Q P} E h k=>by
 refine A.ev E h λ x n1 v1 H1 h1 s1 r1=>B.ev (E.step s1) h1 λ y n2 v2 H2 h2 s2 r2=>?_
 exact O.os (Rep.nil ((E.step s1).repm false s2 r1)) (Rep.nil r2) h2 λ d v p r=>k _ _ _ _ p (s1.trans s2) (r _)⟩
instance (priority:=low) ev_op {r:R2}{f:G2} [O:OV r f] [A:EV b ta ga] [B:EV b tb gb]:EV b (tOp r ta tb) (gOp f ga gb):=⟨λ {S ex env σ H n Q P} E h k=>by
 refine A.ev E h λ x n1 v1 H1 h1 s1 r1=>B.ev (E.step s1) h1 λ y n2 v2 H2 h2 s2 r2=>?_
 exact O.ov ((E.step (s1.trans s2)).alm b) ((E.step s1).repm b s2 r1) r2 h2 λ d v H' p kp r=>k _ _ _ _ p ((s1.trans s2).then kp) r⟩
abbrev J28 (g:GN):GE:=λ env n Q=>g env n λ ds n'=>Q (.list ds) n'
instance (priority:=low) ev_nv {g:GN} [N:NV te g]:EV b te (J28 g):=⟨λ {S ex env σ H n Q P} E h k=>
 N.nv E h λ ds n' a vs H' p st ha hl hz r=>k _ _ _ _ p st (.list hl (λ z=>E.alm b a z ha) hz (Reps.mono (λ c hc=>Qh _ (E.sub b c hc)) r))⟩
abbrev J4o (f:Yce->Yce->(List Yce->Prop)->Prop) (ga gb:GE):GN:=λ env n Q=>ga env n λ x n1=>gb env n1 λ y n2=>f x y λ d=>Q d n2
theorem Jbu {S:Src}{ex:List Addr}{env:List Vl}{σ:L2.St}{H H1:Hp}{n n1:Nat}{p:Addr}{vs:List V}{ds:List Yce}(E:Ev S ex env σ H n) (s:Yy S n1 H H1) (hp:H1 p=none) (r:Reps ex H1 ds vs) :
 Yy S n1 H (upd H1 p (.lst vs))/\H p=none/\Reps (p::ex) (upd H1 p (.lst vs)) ds vs:=
 ⟨s.then (Kp.new hp _),s.free hp,(Reps.add hp r).keep (Kp.new hp _)⟩
instance nv_op {r:R2}{f:Yce->Yce->(List Yce->Prop)->Prop} [O:ON r f] [A:EV true ta ga] [B:EV true tb gb]:NV (tOp r ta tb) (J4o f ga gb):=⟨λ {S ex env σ H n Q P} E h k=>by
 refine A.ev E h λ x n1 v1 H1 h1 s1 r1=>B.ev (E.step s1) h1 λ y n2 v2 H2 h2 s2 r2=>?_
 refine O.on ((E.step s1).repm true s2 r1) r2 h2 λ ds p vs pp hp hz r=>?_
 obtain ⟨c1,c2,c3⟩:=Jbu E (s1.trans s2) hp r
 exact k _ _ _ _ _ pp c1 c2 Jh hz c3⟩
abbrev J29:GA:=λ _ n Q=>Q [] n
abbrev J3a (i:Nat) (rest:GA):GA:=λ env n Q=>match env[i]? with
 | some (.d x)=>rest env n λ as n'=>Q (.d x::as) n'
 | some .jar=>rest env n λ as n'=>Q (.jar::as) n'
 | some .tape=>rest env n λ as n'=>Q (.tape::as) n'
 | _=>False
abbrev Jzn (i:Nat) (rest:GA):GA:=λ env n Q=>match env[i]? with
 | some (.d x)=>rest env n λ as n'=>Q (.d x::as) n'
 | some (.own xs)=>rest env n λ as n'=>Q (.d (.list xs)::as) n'
 | some (.own2 none ps)=>rest env n λ as n'=>Q (.d (.list (ps.map λ p=>.list p.2))::as) n'
 | some .jar=>rest env n λ as n'=>Q (.jar::as) n'
 | some .tape=>rest env n λ as n'=>Q (.tape::as) n'
 | _=>False
abbrev J1f (g:GE) (rest:GA):GA:=λ env n Q=>g env n λ d n1=>rest env n1 λ as n2=>Q (.d d::as) n2
abbrev Jql:GN:=λ _ n Q=>Q [] n
abbrev Jep (g:GE) (rest:GN):GN:=λ env n Q=>g env n λ d n1=>rest env n1 λ as n2=>Q (d::as) n2
instance av_nil:AV b Jgc J29:=⟨λ E h k=>k _ _ _ _ h (.refl E.inv) trivial⟩
instance (priority:=low) av_cons {t:TA}{gt:GA} [A:EV b te g] [B:AV b t gt]:AV b (Zd te t) (J1f g gt):=⟨λ {S ex env σ H n Q P} E h k=>
 A.ev E h λ x n1 v1 H1 h1 s1 r1=>B.av (E.step s1) h1 λ as n2 vs H2 h2 s2 r2=>k _ _ _ _ h2 (s1.trans s2) ⟨⟨_,rfl,(E.step s1).repm b s2 r1⟩,r2⟩⟩
instance av_var {t:TA}{gt:GA}{i:Nat} [B:AV true t gt]:AV true (Zd (Zv i) t) (J3a i gt):=⟨λ {S ex env σ H n Q P} E h k=>by
 unfold J3a at h
 split at h
 . rename_i x e
   obtain ⟨v,ev,r⟩:=E.sl i _ e
   exact ⟨v,Jj ev,B.av E h λ as n2 vs H2 h2 s2 r2=>k _ _ _ _ h2 s2 ⟨⟨_,rfl,E.repm true s2 r⟩,r2⟩⟩
 . rename_i e
   obtain ⟨p,c,hS,ev⟩:=E.sl i _ e
   exact ⟨_,Jj ev,B.av E h λ as n2 vs H2 h2 s2 r2=>k _ _ _ _ h2 s2 ⟨⟨p,c,hS,rfl⟩,r2⟩⟩
 . rename_i e
   obtain ⟨p,c,hS,ev⟩:=E.sl i _ e
   exact ⟨_,Jj ev,B.av E h λ as n2 vs H2 h2 s2 r2=>k _ _ _ _ h2 s2 ⟨⟨p,c,hS,rfl⟩,r2⟩⟩
 . exact h.elim⟩
instance av_look {t:TA}{gt:GA}{i:Nat} [B:AV false t gt]:AV false (Zd (Zv i) t) (Jzn i gt):=⟨λ {S ex env σ H n Q P} E h k=>by
 unfold Jzn at h
 split at h
 . rename_i x e
   obtain ⟨v,ev,r⟩:=E.sl i _ e
   exact ⟨v,Jj ev,B.av E h λ as n2 vs H2 h2 s2 r2=>k _ _ _ _ h2 s2 ⟨⟨_,rfl,E.repm false s2 (Rep.mono E.ch r)⟩,r2⟩⟩
 . rename_i xs e
   obtain ⟨a,vs,ev,h1,h2,h3,h4,h5⟩:=E.sl i _ e
   exact ⟨_,Jj ev,B.av E h λ as n2 vs' H2 hh s2 r2=>k _ _ _ _ hh s2 ⟨⟨_,rfl,E.repm false s2 (.list h1 h5 h2 (Reps.mono E.ch h3))⟩,r2⟩⟩
 . rename_i ps e
   obtain ⟨a,ev,q⟩:=E.sl i _ e
   exact ⟨_,Jj ev,B.av E h λ as n2 vs' H2 hh s2 r2=>k _ _ _ _ hh s2 ⟨⟨_,rfl,E.repm false s2 (.list q.h q.c (by unfold Y4;rw [Qb,Ycl];have:=q.z;omega) (Jeo E.ch q.i))⟩,r2⟩⟩
 . rename_i e
   obtain ⟨p,c,hS,ev⟩:=E.sl i _ e
   exact ⟨_,Jj ev,B.av E h λ as n2 vs H2 h2 s2 r2=>k _ _ _ _ h2 s2 ⟨⟨p,c,hS,rfl⟩,r2⟩⟩
 . rename_i e
   obtain ⟨p,c,hS,ev⟩:=E.sl i _ e
   exact ⟨_,Jj ev,B.av E h λ as n2 vs H2 h2 s2 r2=>k _ _ _ _ h2 s2 ⟨⟨p,c,hS,rfl⟩,r2⟩⟩
 . exact h.elim⟩
instance dv_nil:DV b Jgc Jql:=⟨λ E h k=>k _ _ _ _ h (.refl E.inv) .nil⟩
instance dv_cons {t:TA}{gt:GN} [A:EV b te g] [B:DV b t gt]:DV b (Zd te t) (Jep g gt):=⟨λ {S ex env σ H n Q P} E h k=>
 A.ev E h λ x n1 v1 H1 h1 s1 r1=>B.dv (E.step s1) h1 λ as n2 vs H2 h2 s2 r2=>k _ _ _ _ h2 (s1.trans s2) (.cons ((E.step s1).repm b s2 r1) r2)⟩
abbrev Jzo (t:GN):GE:=λ env n Q=>t env n λ ds n1=>ds.length<=sizeLine/\Q (.tuple ds) n1
abbrev J3b (t:GN):GN:=λ env n Q=>t env n λ ds n1=>ds.length<=sizeLine/\Q ds n1
instance ev_tup {t:TA}{gt:GN} [A:DV b t gt]:EV b (J0p t) (Jzo gt):=⟨λ {S ex env σ H n Q P} E h k=>
 A.dv E h λ ds n1 vs H1 h1 s1 r1=>⟨by rw [<- r1.length];exact h1.1,λ p hp=>k _ _ _ _ h1.2 (s1.then (Kp.new hp _)) (.tuple Jh ((E.step s1).alm b |>.nm hp) (by rw [<- r1.length];exact h1.1) (r1.keep (Kp.new hp _)))⟩⟩
instance nv_lst {t:TA}{gt:GN} [A:DV true t gt]:NV (J0q t) (J3b gt):=⟨λ {S ex env σ H n Q P} E h k=>
 A.dv E h λ ds n1 vs H1 h1 s1 r1=>⟨by rw [<- r1.length];exact h1.1,λ p hp=>by
  obtain ⟨c1,c2,c3⟩:=Jbu E s1 hp r1
  exact k _ _ _ _ _ h1.2 c1 c2 Jh (by rw [<- r1.length];exact h1.1) c3⟩⟩
abbrev gCB (f:G1) (t:GN):GE:=λ env n Q=>t env n λ ds n1=>f ds λ d=>Q d n1
abbrev J4p (f:List Yce->(List Yce->Prop)->Prop) (t:GN):GN:=λ env n Q=>t env n λ ds n1=>f ds λ d=>Q d n1
instance ev_cs {r:List V->Hp->VK->Prop}{f:G1}{t:TA}{gt:GN} [C:CS r f] [A:DV false t gt]:EV b (tCB r t) (gCB f gt):=⟨λ {S ex env σ H n Q P} E h k=>
 A.dv E h λ ds n1 vs H1 h1 s1 r1=>C.cs (Reps.nil' r1) h1 λ d v p r=>k _ _ _ _ p s1 (r _)⟩
instance (priority:=low) ev_co {r:List V->Hp->VK->Prop}{f:G1}{t:TA}{gt:GN} [C:CO r f] [A:DV b t gt]:EV b (tCB r t) (gCB f gt):=⟨λ {S ex env σ H n Q P} E h k=>
 A.dv E h λ ds n1 vs H1 h1 s1 r1=>C.co ((E.step s1).alm b) r1 h1 λ d v H' p kp r=>k _ _ _ _ p (s1.then kp) r⟩
instance nv_cn {r:List V->Hp->VK->Prop}{f:List Yce->(List Yce->Prop)->Prop}{t:TA}{gt:GN} [C:CN r f] [A:DV true t gt]:NV (tCB r t) (J4p f gt):=⟨λ {S ex env σ H n Q P} E h k=>
 A.dv E h λ ds n1 vs H1 h1 s1 r1=>C.cn r1 h1 λ es p ws pp hp hz r=>by
  obtain ⟨c1,c2,c3⟩:=Jbu E s1 hp r
  exact k _ _ _ _ _ pp c1 c2 Jh hz c3⟩
def Jp (sp:GSp):Sp:=λ vs H Q _=>∃ (S:Src) (ex:List Addr) (as:List Vl) (n:Nat) (P:Yce->Nat->Prop),Bq S ex H as vs/\(∀ a∈S.ch,a∈ex)/\Alc ex H/\S.inv n H/\sp as n P/\∀ d n' v H',P d n'->Yy S n' H H'->Rep ex H' d v->Q v H'
def Jck (sp:GSn):Sp:=λ vs H Q _=>∃ (S:Src) (ex:List Addr) (as:List Vl) (n:Nat) (P:List Yce->Nat->Prop),Bq S ex H as vs/\(∀ a∈S.ch,a∈ex)/\Alc ex H/\S.inv n H/\sp as n P/\∀ ds n' a ws H',P ds n'->Yy S n' H H'->H a=none->H' a=some (.lst ws)->ws.length<=sizeLine->Reps (a::ex) H' ds ws->Q (.ref a) H'
noncomputable def W9:Yce->Bool
 | .none | .bool _ | .int _ | .str _=>true
 | _=>false
theorem Jgw {d:Yce}{v:V}(h:W9 d=true) (r:Rep ex H d v):∀ ex',Rep ex' H d v:=λ ex'=>by
 cases r with
 | none=>exact .none
 | bool b=>exact .bool b
 | int i=>exact .int i
 | str x=>exact .str x
 | tuple=>cases h
 | list=>cases h
class Scal (sp:GSp):Prop where
 sc:∀ {as:List Vl} {n:Nat} {P:Yce->Nat->Prop},sp as n P->sp as n λ d n'=>W9 d=true/\P d n'
abbrev Jzp (sp:GSp) (ga:GA):GE:=λ env n Q=>ga env n λ as n1=>sp as n1 Q
abbrev Juq (sp:GSn) (ga:GA):GN:=λ env n Q=>ga env n λ as n1=>sp as n1 Q
instance ev_callS {sp:GSp}{E':XK}{t:TA}{gt:GA} [Z:Scal sp] [A:AV false t gt]:EV b (Jch (Jp sp) [] E' t) (Jzp sp gt):=⟨λ {S ex env σ H n Q P} E h k=>
 A.av E h λ as n1 vs H1 h1 s1 r1=>by
  rw [X5]
  exact ⟨S,S.ch,as,n1,_,r1,λ _ h=>h,λ a ha=>(E.step s1).al a (E.ch a ha),s1.2,Z.sc h1,λ d n' v H' p s2 r=>k _ _ _ _ p.2 (s1.trans s2) (Jgw p.1 r _)⟩⟩
instance (priority:=low) ev_call {sp:GSp}{E':XK}{t:TA}{gt:GA} [A:AV b t gt]:EV b (Jch (Jp sp) [] E' t) (Jzp sp gt):=⟨λ {S ex env σ H n Q P} E h k=>
 A.av E h λ as n1 vs H1 h1 s1 r1=>by
  rw [X5]
  exact ⟨S,exm b S ex,as,n1,_,r1,E.sup b,(E.step s1).alm b,s1.2,h1,λ d n' v H' p s2 r=>k _ _ _ _ p (s1.trans s2) r⟩⟩
instance nv_call {sp:GSn}{E':XK}{t:TA}{gt:GA} [A:AV true t gt]:NV (Jch (Jck sp) [] E' t) (Juq sp gt):=⟨λ {S ex env σ H n Q P} E h k=>
 A.av E h λ as n1 vs H1 h1 s1 r1=>by
  rw [X5]
  exact ⟨S,ex,as,n1,_,r1,E.ch,(E.step s1).al,s1.2,h1,λ ds n' a ws H' p s2 ha hl hz r=>k _ _ _ _ _ p (s1.trans s2) (s1.free ha) hl hz r⟩⟩
abbrev Jzq (g:GE):GT:=λ env n Q=>g env n λ d n1=>match d with
 | .bool c=>Q c n1
 | _=>False
theorem Jgx {d:Yce}{n:Nat}{Q:Bool->Nat->Prop}{v:V}(h:match d with | .bool c=>Q c n | _=>False) (r:Rep ex H d v):∃ c,v = .bl c/\Q c n:=by
 cases r with
 | bool c=>exact ⟨c,rfl,h⟩
 | none=>exact h.elim
 | int=>exact h.elim
 | str=>exact h.elim
 | tuple=>exact h.elim
 | list=>exact h.elim
instance tv_test [A:EV false te g]:TV (Jzc te) (Jzq g):=⟨λ {S ex env σ H n Q P} E h k=>A.ev E h λ d n1 v H1 h1 s1 r1=>by
 obtain ⟨c,e,q⟩:=Jgx h1 r1
 exact ⟨c,e,k _ _ _ q s1⟩⟩
instance tv_b [A:EV false te g]:TV (tB te) (Jzq g):=⟨λ {S ex env σ H n Q P} E h k=>A.ev E h λ d n1 v H1 h1 s1 r1=>by
 obtain ⟨c,e,q⟩:=Jgx h1 r1
 exact ⟨c,e,k _ _ _ q s1⟩⟩
abbrev J4q (a b:GT):GT:=λ env n Q=>a env n λ c n1=>if c=true then b env n1 Q else Q false n1
abbrev gOr (a b:GT):GT:=λ env n Q=>a env n λ c n1=>if c=true then Q true n1 else b env n1 Q
abbrev J4r (a:GT):GT:=λ env n Q=>a env n λ c n1=>Q (!c) n1
instance tv_and {t u:TT}{gt gu:GT} [A:TV t gt] [B:TV u gu]:TV (J2f t u) (J4q gt gu):=⟨λ {S ex env σ H n Q P} E h k=>A.tv E h λ c n1 H1 h1 s1=>by
 cases c with
 | true=>exact B.tv (E.step s1) h1 λ c n2 H2 h2 s2=>k _ _ _ h2 (s1.trans s2)
 | false=>exact k _ _ _ h1 s1⟩
instance tv_or {t u:TT}{gt gu:GT} [A:TV t gt] [B:TV u gu]:TV (tOr t u) (gOr gt gu):=⟨λ {S ex env σ H n Q P} E h k=>A.tv E h λ c n1 H1 h1 s1=>by
 cases c with
 | false=>exact B.tv (E.step s1) h1 λ c n2 H2 h2 s2=>k _ _ _ h2 (s1.trans s2)
 | true=>exact k _ _ _ h1 s1⟩
instance tv_not {t:TT}{gt:GT} [A:TV t gt]:TV (J0g t) (J4r gt):=⟨λ {S ex env σ H n Q P} E h k=>A.tv E h λ c n1 H1 h1 s1=>k _ _ _ h1 s1⟩
instance tv_noTest:TV Jdf (λ _ n Q=>Q true n):=⟨λ {S ex env σ H n Q P} E h k=>k _ _ _ h (.refl E.inv)⟩
abbrev gIf (t:GT) (a b:GE):GE:=λ env n Q=>t env n λ c n1=>if c=true then a env n1 Q else b env n1 Q
instance ev_if {t:TT}{gt:GT} [T:TV t gt] [A:EV b ta ga] [B:EV b tb gb]:EV b (tIf t ta tb) (gIf gt ga gb):=⟨λ {S ex env σ H n Q P} E h k=>T.tv E h λ c n1 H1 h1 s1=>by
 cases c with
 | true=>exact A.ev (E.step s1) h1 λ d n2 v H2 h2 s2 r=>k _ _ _ _ h2 (s1.trans s2) r
 | false=>exact B.ev (E.step s1) h1 λ d n2 v H2 h2 s2 r=>k _ _ _ _ h2 (s1.trans s2) r⟩
abbrev J4s (a b:GE):GE:=λ env n Q=>a env n λ d n1=>match d with
 | .bool c=>if c=true then Q (.bool true) n1 else b env n1 Q
 | _=>False
instance ev_orV [A:EV false ta ga] [B:EV b tb gb]:EV b (J2h ta tb) (J4s ga gb):=⟨λ {S ex env σ H n Q P} E h k=>A.ev E h λ d n1 v H1 h1 s1 r1=>by
 obtain ⟨c,e,q⟩:=Jgx (Q:=λ c n1=>if c=true then P (.bool true) n1 else gb env n1 P) h1 r1
 refine ⟨c,e,?_⟩
 cases c with
 | false=>exact B.ev (E.step s1) q λ d n2 v H2 h2 s2 r=>k _ _ _ _ h2 (s1.trans s2) r
 | true=>exact k _ _ _ _ q s1 (.bool _)⟩
abbrev gUn (f:Yce->(Yce->Prop)->Prop) (a:GE):GE:=λ env n Q=>a env n λ d n1=>f d λ e=>Q e n1
abbrev fU (f:Int->V):Yce->(Yce->Prop)->Prop:=λ d Q=>match d with
 | .int i=>(match f i with | .int k=>Q (.int k) | _=>False)
 | _=>False
instance ev_unI {f:Int->V} [A:EV false ta ga]:EV b (tUn (rU f) ta) (gUn (fU f) ga):=⟨λ {S ex env σ H n Q P} E h k=>A.ev E h λ d n1 v H1 h1 s1 r1=>by
 cases r1 with
 | int i=>
  unfold fU at h1
  refine ⟨i,rfl,?_⟩
  dsimp only at h1
  split at h1
  . rename_i j e;rw [e];exact k _ _ _ _ h1 s1 (.int _)
  . exact h1.elim
 | none=>exact h1.elim
 | bool=>exact h1.elim
 | str=>exact h1.elim
 | tuple=>exact h1.elim
 | list=>exact h1.elim⟩
end
abbrev ofV:V->(Yce->Prop)->Prop
 | .int k,Q=>Q (.int k)
 | .bl c,Q=>Q (.bool c)
 | .str s,Q=>Q (.str s)
 | .non,Q=>Q .none
 | _,_=>False
theorem Jqm {v:V}{P:Yce->Prop}{H:Hp}(h:ofV v P):∃ d,P d/\∀ ex,Rep ex H d v:=by
 cases v with
 | int k=>exact ⟨_,h,λ _=>.int k⟩
 | bl k=>exact ⟨_,h,λ _=>.bool k⟩
 | str k=>exact ⟨_,h,λ _=>.str k⟩
 | non=>exact ⟨_,h,λ _=>.none⟩
 | byt _=>exact h.elim
 | flt _=>exact h.elim
 | ref _=>exact h.elim
 | ty _=>exact h.elim
abbrev fI0 (f:Int->Int->V):G2:=λ x y Q=>match x,y with
 | .int i,.int j=>ofV (f i j) Q
 | _,_=>False
abbrev fI (C:Int->Int->Prop) (f:Int->Int->V):G2:=λ x y Q=>match x,y with
 | .int i,.int j=>C i j/\ofV (f i j) Q
 | _,_=>False
theorem ints_inv {ex:List Addr}{H:Hp}{dx dy:Yce}{x y:V}{A:Int->Int->Prop}(h:match dx,dy with | .int i,.int j=>A i j | _,_=>False) (r1:Rep ex H dx x) (r2:Rep ex H dy y):∃ i j,x = .int i/\y = .int j/\A i j:=by
 split at h
 . cases r1;cases r2;exact ⟨_,_,rfl,rfl,h⟩
 . exact h.elim
instance os_I0 {f:Int->Int->V}:OS (rI0 f) (fI0 f):=⟨λ {H x y dx dy Q P} r1 r2 h k=>by
 obtain ⟨i,j,rfl,rfl,h⟩:=ints_inv (A:=λ i j=>ofV (f i j) P) h r1 r2
 obtain ⟨d,p,r⟩:=Jqm (H:=H) h
 exact ⟨i,j,rfl,rfl,k _ _ p r⟩⟩
instance os_I {C:Int->Int->Prop}{f:Int->Int->V}:OS (rI C f) (fI C f):=⟨λ {H x y dx dy Q P} r1 r2 h k=>by
 obtain ⟨i,j,rfl,rfl,hc,h⟩:=ints_inv (A:=λ i j=>C i j/\ofV (f i j) P) h r1 r2
 obtain ⟨d,p,r⟩:=Jqm (H:=H) h
 exact ⟨i,j,rfl,rfl,hc,k _ _ p r⟩⟩
noncomputable def eqS:Yce->Yce->Option Bool
 | .int i,.int j=>some (decide (i=j))
 | .str a,.str b=>some (decide (a=b))
 | .bool a,.bool b=>some (decide (a=b))
 | .none,.none=>some true
 | .none,.int _ | .none,.bool _ | .none,.str _ | .int _,.none | .bool _,.none | .str _,.none=>some false
 | .int _,.str _ | .str _,.int _ | .bool _,.str _ | .str _,.bool _=>some false
 | _,_=>none
def fEq (neg:Bool):G2:=λ x y Q=>match eqS x y with
 | some c=>Q (.bool (if neg then !c else c))
 | none=>False
theorem Jur {ex:List Addr}{H:Hp}{dx dy:Yce}{x y:V}{c:Bool}(h:eqS dx dy=some c) (r1:Rep ex H dx x) (r2:Rep ex H dy y):Jw3 x y=true/\decide (x=y)=c:=by
 cases r1<;>cases r2<;>simp [eqS] at h<;>subst h<;>simp [Jw3]
instance os_eq:OS rEq (fEq false):=⟨λ {H x y dx dy Q P} r1 r2 h k=>by
 unfold fEq at h
 split at h
 . rename_i c e
   obtain ⟨h1,h2⟩:=Jur e r1 r2
   exact ⟨h1,by rw [h2];exact k _ _ h λ _=>.bool _⟩
 . exact h.elim⟩
instance os_ne:OS rNe (fEq true):=⟨λ {H x y dx dy Q P} r1 r2 h k=>by
 unfold fEq at h
 split at h
 . rename_i c e
   obtain ⟨h1,h2⟩:=Jur e r1 r2
   exact ⟨h1,by rw [h2];exact k _ _ h λ _=>.bool _⟩
 . exact h.elim⟩
def J3c (x y:Yce):Prop:=x.canLay0=true/\y.canLay0=true/\min x.depth y.depth<=50
def Jgy (neg:Bool):G2:=λ x y Q=>J3c x y/\Q (.bool (if neg then !Ua x y else Ua x y))
instance os_eqD:OS J2w (Jgy false):=⟨λ {H x y dx dy Q P} r1 r2 h k=>⟨[],dx,dy,r1,r2,h.1.1,h.1.2.1,h.1.2.2,k _ _ h.2 λ _=>.bool _⟩⟩
instance os_neD:OS J2x (Jgy true):=⟨λ {H x y dx dy Q P} r1 r2 h k=>⟨[],dx,dy,r1,r2,h.1.1,h.1.2.1,h.1.2.2,k _ _ h.2 λ _=>.bool _⟩⟩
noncomputable def Jcu:Yce->Bool
 | .none=>true
 | _=>false
abbrev J4t (neg:Bool):G2:=λ x y Q=>Jcu y=true/\Q (.bool (if neg then !Jcu x else Jcu x))
theorem Jse {ex:List Addr}{H:Hp}{d:Yce}{v:V}(r:Rep ex H d v):decide (v = .non)=Jcu d:=by
 cases r<;>simp [Jcu]
theorem Jus {ex:List Addr}{H:Hp}{d:Yce}{v:V}(r:Rep ex H d v) (h:Jcu d=true):v = .non:=by
 cases r<;>simp [Jcu] at h<;>rfl
instance os_isN:OS (λ x y H Q=>y = .non/\Q (.bl (decide (x = .non))) H) (J4t false):=⟨λ {H x y dx dy Q P} r1 r2 h k=>⟨Jus r2 h.1,by rw [Jse r1];exact k _ _ h.2 λ _=>.bool _⟩⟩
abbrev J3d (neg:Bool):G2:=λ x y Q=>match x,y with
 | .bool a,.bool c=>Q (.bool (if neg then !(a==c) else a==c))
 | _,_=>False
instance os_isnotB:OS (λ x y H Q=>∃ a b,x = .bl a/\y = .bl b/\Q (.bl (!(a==b))) H) (J3d true):=⟨λ {H x y dx dy Q P} r1 r2 h k=>by
 unfold J3d at h
 split at h
 . cases r1;cases r2;exact ⟨_,_,rfl,rfl,k _ _ h λ _=>.bool _⟩
 . exact h.elim⟩
noncomputable def inD (x:Yce) (xs:List Yce):Bool:=xs.any λ y=>Ua y x
def fIn (neg:Bool):G2:=λ x y Q=>match y with
 | .list xs=>W9 x=true/\xs.all W9=true/\Q (.bool (if neg then !inD x xs else inD x xs))
 | .tuple xs=>W9 x=true/\xs.all W9=true/\Q (.bool (if neg then !inD x xs else inD x xs))
 | _=>False
theorem Jks {ex:List Addr}{H:Hp}{d:Yce}{v:V}(r:Rep ex H d v) (h:W9 d=true):Jci v=true:=by
 cases r<;>first | rfl | cases h
theorem Jgz {ex:List Addr}{H:Hp}:∀ {ds:List Yce}{vs:List V},Reps ex H ds vs->ds.all W9=true->vs.all Jci=true
 | _,_,.nil,_=>rfl
 | _,_,.cons r t,h=>by
  simp only [J6g,Xg] at h ⊢
  exact ⟨Jks r h.1,Jgz t h.2⟩
theorem J1g {ex:List Addr}{H:Hp}{d e:Yce}{v w:V}(r:Rep ex H d v) (s:Rep ex H e w) (h:W9 d=true) (g:W9 e=true):eqV v w=Ua d e:=by
 cases r<;>cases s<;>first | rfl | (cases h;done) | (cases g;done) | simp [eqV,Ua]
theorem Jut {ex:List Addr}{H:Hp}{d:Yce}{v:V}(r:Rep ex H d v) (h:W9 d=true):∀ {ds:List Yce}{vs:List V},Reps ex H ds vs->ds.all W9=true->inV v vs=inD d ds
 | _,_,.nil,_=>rfl
 | _,_,.cons s t,g=>by
  simp only [J6g,Xg] at g
  have:=Jut r h t g.2
  unfold inV inD at this ⊢
  rw [Ur,Ur,this,J1g s r g.1 h]
instance os_in {K:Qc}{neg:Bool}:OS (rIn K neg) (fIn neg):=⟨λ {H x y dx dy Q P} r1 r2 h k=>by
 cases r2 with
 | list e _ _ rs=>exact ⟨_,_,rfl,.inl (SqL.of e),Jks r1 h.1,Jgz rs h.2.1,by rw [Jut r1 h.1 rs h.2.1];exact k _ _ h.2.2 λ _=>.bool _⟩
 | tuple e _ _ rs=>exact ⟨_,_,rfl,.inr (SqT.of e),Jks r1 h.1,Jgz rs h.2.1,by rw [Jut r1 h.1 rs h.2.1];exact k _ _ h.2.2 λ _=>.bool _⟩
 | none=>exact h.elim
 | bool=>exact h.elim
 | int=>exact h.elim
 | str=>exact h.elim⟩
theorem Jkt {ex:List Addr}{H:Hp}{ds:List Yce}{vs:List V}{i:Int}{d:Yce}(r:Reps ex H ds vs) (h:atI ds i=some d):∃ v,atI vs i=some v/\Rep ex H d v:=by
 unfold atI at h ⊢
 rw [<- r.length]
 cases e:ixN ds.length i with
 | none=>rw [e] at h;cases h
 | some j=>rw [e] at h;exact r.get h
abbrev Jxn:G2:=λ x y Q=>match x,y with
 | .list xs,.int i=>∃ d,atI xs i=some d/\Q d
 | _,_=>False
abbrev J3e:G2:=λ x y Q=>match x,y with
 | .tuple xs,.int i=>∃ d,atI xs i=some d/\Q d
 | _,_=>False
instance ov_ixL {K:Qc}:OV (Jtx K) Jxn:=⟨λ {ex H x y dx dy Q P} al r1 r2 h k=>by
 unfold Jxn at h
 split at h
 . obtain ⟨d,e,p⟩:=h
   cases r2
   cases r1 with
   | list e1 _ _ rs=>
    obtain ⟨v,ev,r⟩:=Jkt rs e
    exact ⟨_,_,_,v,rfl,rfl,SqL.of e1,ev,k _ _ _ p .refl r⟩
 . exact h.elim⟩
instance ov_ixT {K:Qc}:OV (J0v K) J3e:=⟨λ {ex H x y dx dy Q P} al r1 r2 h k=>by
 unfold J3e at h
 split at h
 . obtain ⟨d,e,p⟩:=h
   cases r2
   cases r1 with
   | tuple e1 _ _ rs=>
    obtain ⟨v,ev,r⟩:=Jkt rs e
    exact ⟨_,_,_,v,rfl,rfl,SqT.of e1,ev,k _ _ _ p .refl r⟩
 . exact h.elim⟩
abbrev J3f (i:Nat) (gb:GE):GE:=λ env n Q=>match env[i]? with
 | some (.own xs)=>gb env n λ y n1=>Jxn (.list xs) y λ d=>Q d n1
 | some (.d x)=>gb env n λ y n1=>Jxn x y λ d=>Q d n1
 | _=>False
instance (priority:=high) ev_ixO {K:Qc}{i:Nat}{tb:TE}{gb:GE} [B:EV true tb gb]:EV true (tOp (Jtx K) (Zv i) tb) (J3f i gb):=⟨λ {S ex env σ H n Q P} E h k=>by
 unfold J3f at h
 split at h
 . rename_i xs e
   obtain ⟨a,vs,ev,h1,h2,h3,h4,h5⟩:=E.sl i _ e
   refine ⟨_,Jj ev,B.ev E h λ y n1 v1 H1 hh s1 r1=>?_⟩
   cases r1 with
   | int j=>
    obtain ⟨d,ed,p⟩:=hh
    obtain ⟨v,ev2,r⟩:=Jkt (E.reps s1 h3) ed
    exact ⟨_,_,_,v,rfl,rfl,SqL.of (s1.1 _ _ h1 h5),ev2,k _ _ _ _ p s1 r⟩
   | none=>exact hh.elim
   | bool=>exact hh.elim
   | str=>exact hh.elim
   | tuple=>exact hh.elim
   | list=>exact hh.elim
 . rename_i x e
   obtain ⟨v,ev,r⟩:=E.sl i _ e
   refine ⟨v,Jj ev,B.ev E h λ y n1 v1 H1 hh s1 r1=>?_⟩
   exact (ov_ixL (K:=K)).ov (E.step s1).al (E.rep s1 r) r1 hh λ d v H' p kp r=>k _ _ _ _ p (s1.then kp) r
 . exact h.elim⟩
instance on_rep:ON J2r (λ x y Q=>match x,y with | .list xs,.int k=>(-(2^63)<=k/\k<2^63/\xs.length*k.toNat<=sizeLine)/\Q (Qy k.toNat xs).flatten | _,_=>False):=⟨λ {ex H x y dx dy Q P} r1 r2 h k=>by
 split at h
 . cases r1 with
   | list e1 _ _ rs=>
    cases r2
    have l1:=rs.length
    refine ⟨_,_,_,rfl,rfl,e1,h.1.1,h.1.2.1,by rw [<- l1];exact h.1.2.2,λ p hp=>k _ p _ h.2 hp ?_ (rs.rep _)⟩
    rw [Jdb,<- l1,Nat.mul_comm];exact h.1.2.2
 . exact h.elim⟩
def Jzr:G2:=λ x y Q=>match x,y with
 | .tuple xs,.int k=>xs≠[]/\-(2^63)<=k/\(xs.length:Int)*k<=sizeLine/\Q (.tuple (Qy k.toNat xs).flatten)
 | _,_=>False
instance ov_repT {K:Qc}:OV (Jt3 K) Jzr:=⟨λ {ex H x y dx dy Q P} al r1 r2 h k=>by
 unfold Jzr at h
 split at h
 . obtain ⟨h1,h2,h3,h4⟩:=h
   rename_i xs k0
   cases r2
   cases r1 with
   | tuple e1 n1 z1 rs=>
    have l1:=rs.length
    refine Jt7 e1 (λ z=>h1 (J72.mp (by rw [l1,z];rfl))) h2 (by rw [<- l1];exact h3) λ t H' kp ht hf=>k _ _ _ h4 kp (.tuple ht ?_ ?_ ((rs.rep _).keep kp.of))
    . rcases hf with rfl | hf
      . exact n1
      . exact al.nm hf
    . rw [Jdb,<- l1]
      rcases J6p k0 0 with hk | hk
      . rw [show k0.toNat=0 by omega];simp
      . have:((k0.toNat*xs.length:Nat):Int)<=sizeLine:=by rw [J84,Xw hk,J7q];exact h3
        exact_mod_cast this
 . exact h.elim⟩
abbrev J3g:G1:=λ ds Q=>match ds with
 | [.list xs]=>Q (.int xs.length)
 | [.tuple xs]=>Q (.int xs.length)
 | _=>False
instance cs_len {K:Qc}:CS (λ xs H Q=>∃ p ys,xs=[.ref p]/\(SqL K H p ys\/SqT K H p ys)/\Q (.int ys.length) H) J3g:=⟨λ {H xs ds Q P} r h k=>by
 unfold J3g at h
 split at h
 . cases r with
   | cons r1 t=>
    cases t
    cases r1 with
    | list e _ _ rs=>exact ⟨_,_,rfl,.inl (SqL.of e),by rw [<- rs.length];exact k _ _ h λ _=>.int _⟩
 . cases r with
   | cons r1 t=>
    cases t
    cases r1 with
    | tuple e _ _ rs=>exact ⟨_,_,rfl,.inr (SqT.of e),by rw [<- rs.length];exact k _ _ h λ _=>.int _⟩
 . exact h.elim⟩
abbrev Jqn (ds:List Yce) (Q:List Yce->Prop):Prop:=match ds with
 | [.list xs]=>Q xs
 | [.tuple xs]=>Q xs
 | _=>False
instance cn_list {K:Qc}:CN (λ xs H Q=>∃ p ys,xs=[.ref p]/\(SqL K H p ys\/SqT K H p ys)/\∀ l,H l=none->Q (.ref l) (upd H l (.lst ys))) Jqn:=⟨λ {ex H xs ds Q P} r h k=>by
 unfold Jqn at h
 split at h
 . cases r with
   | cons r1 t=>
    cases t
    cases r1 with
    | list e _ z rs=>exact ⟨_,_,rfl,.inl (SqL.of e),λ l hl=>k _ l _ h hl z rs⟩
 . cases r with
   | cons r1 t=>
    cases t
    cases r1 with
    | tuple e _ z rs=>exact ⟨_,_,rfl,.inr (SqT.of e),λ l hl=>k _ l _ h hl z rs⟩
 . exact h.elim⟩
abbrev Jg0:G1:=λ ds Q=>match ds with
 | [.list xs]=>Q (.tuple xs)
 | [.tuple xs]=>Q (.tuple xs)
 | _=>False
instance co_tuple {K:Qc}:CO (λ xs H Q=>∃ p ys,xs=[.ref p]/\((SqL K H p ys/\∀ l,H l=none->Q (.ref l) (upd H l (.tup ys)))\/(SqT K H p ys/\Q (.ref p) H))) Jg0:=⟨λ {ex H xs ds Q P} al r h k=>by
 unfold Jg0 at h
 split at h
 . cases r with
   | cons r1 t=>
    cases t
    cases r1 with
    | list e _ z rs=>exact ⟨_,_,rfl,.inl ⟨SqL.of e,λ l hl=>k _ _ _ h (Kp.new hl _) (.tuple Jh (al.nm hl) z (rs.keep (Kp.new hl _)))⟩⟩
 . cases r with
   | cons r1 t=>
    cases t
    cases r1 with
    | tuple e n z rs=>exact ⟨_,_,rfl,.inr ⟨SqT.of e,k _ _ _ h .refl (.tuple e n z rs)⟩⟩
 . exact h.elim⟩
def J3h (c:Bool):G1:=λ ds Q=>∃ ns:List Int,ds=[.list (ns.map .int)]/\c=true/\Q (.int ns.sum)
instance cs_sum {K:Qc}{c:Bool}:CS (λ xs H Q=>c=true/\∃ (p:Addr) (ns:List Int),xs=[.ref p]/\SqL K H p (ns.map V.int)/\Q (.int ns.sum) H) (J3h c):=⟨λ {H xs ds Q P} r h k=>by
 obtain ⟨ns,rfl,hc,q⟩:=h
 cases r with
 | cons r1 t=>
  cases t
  cases r1 with
  | list e _ _ rs=>
   cases rs.ints_inv
   exact ⟨hc,_,ns,rfl,SqL.of e,k _ _ q λ _=>.int _⟩⟩
instance cs_sumK {K:Qc}:CS (λ xs H Q=>∃ (p:Addr) (ns:List Int),xs=[.ref p]/\SqL K H p (ns.map V.int)/\Q (.int ns.sum) H) (J3h true):=⟨λ {H xs ds Q P} r h k=>((cs_sum (K:=K) (c:=true)).cs r h k).2⟩
theorem Reps.bools_inv {ex:List Addr}{H:Hp}:∀ {ns:List Bool}{vs:List V},Reps ex H (ns.map PyData.bool) vs->vs=ns.map V.bl
 | [],_,.nil=>rfl
 | n::r,_,.cons (.bool _) t=>by rw [Reps.bools_inv t];rfl
def J4u (c:Bool):G1:=λ ds Q=>∃ bs:List Bool,ds=[.list (bs.map .bool)]/\c=true/\Q (.bool (bs.all id))
instance cs_all {K:Qc}{c:Bool}:CS (λ xs H Q=>c=true/\∃ (p:Addr) (bs:List Bool),xs=[.ref p]/\SqL K H p (bs.map V.bl)/\Q (.bl (bs.all id)) H) (J4u c):=⟨λ {H xs ds Q P} r h k=>by
 obtain ⟨ns,rfl,hc,q⟩:=h
 cases r with
 | cons r1 t=>
  cases t
  cases r1 with
  | list e _ _ rs=>
   cases Reps.bools_inv rs
   exact ⟨hc,_,ns,rfl,SqL.of e,k _ _ q λ _=>.bool _⟩⟩
def J3i (tup:Bool):G1:=λ ds Q=>∃ ns:List Int,ds=[if tup then .tuple (ns.map .int) else .list (ns.map .int)]/\Q (.bool (ns.any λ n=>decide (n≠0)))
instance cs_anyL {K:Qc}:CS (λ xs H Q=>∃ (p:Addr) (ns:List Int),xs=[.ref p]/\SqL K H p (ns.map V.int)/\Q (.bl (ns.any λ n=>decide (n≠0))) H) (J3i false):=⟨λ {H xs ds Q P} r h k=>by
 obtain ⟨ns,rfl,q⟩:=h
 cases r with
 | cons r1 t=>
  cases t
  cases r1 with
  | list e _ _ rs=>
   cases rs.ints_inv
   exact ⟨_,ns,rfl,SqL.of e,k _ _ q λ _=>.bool _⟩⟩
def J4v (tup:Bool):G1:=λ ds Q=>∃ ns:List Int,ds=[if tup then .tuple (ns.map .int) else .list (ns.map .int)]/\ns≠[]/\∀ m∈ns,(∀ n∈ns,m<=n)->Q (.int m)
instance cs_minL {K:Qc}:CS (λ xs H Q=>∃ (p:Addr) (ns:List Int),xs=[.ref p]/\SqL K H p (ns.map V.int)/\ns≠[]/\∀ m∈ns,(∀ n∈ns,m<=n)->Q (.int m) H) (J4v false):=⟨λ {H xs ds Q P} r h k=>by
 obtain ⟨ns,rfl,hne,q⟩:=h
 cases r with
 | cons r1 t=>
  cases t
  cases r1 with
  | list e _ _ rs=>
   cases rs.ints_inv
   exact ⟨_,ns,rfl,SqL.of e,hne,λ m h1 h2=>k _ _ (q m h1 h2) λ _=>.int _⟩⟩
abbrev J1h (f:Int->Int->Int):G1:=λ ds Q=>match ds with
 | [.int i,.int j]=>Q (.int (f i j))
 | _=>False
theorem Jqo {ex:List Addr}{H:Hp}{ds:List Yce}{xs:List V}{A:Int->Int->Prop}(h:match ds with | [.int i,.int j]=>A i j | _=>False) (r:Reps ex H ds xs):∃ i j,xs=[.int i,.int j]/\A i j:=by
 split at h
 . cases r with
   | cons r1 t=>cases t with
    | cons r2 t=>cases t;cases r1;cases r2;exact ⟨_,_,rfl,h⟩
 . exact h.elim
instance cs_max2:CS (λ xs H Q=>∃ i j,xs=[.int i,.int j]/\Q (.int (if j>i then j else i)) H) (J1h λ i j=>if j>i then j else i):=⟨λ {H xs ds Q P} r h k=>by
 obtain ⟨i,j,rfl,q⟩:=Jqo (A:=λ i j=>P (.int (if j>i then j else i))) h r
 exact ⟨i,j,rfl,k _ _ q λ _=>.int _⟩⟩
instance cs_min2:CS (λ xs H Q=>∃ i j,xs=[.int i,.int j]/\Q (.int (if j<i then j else i)) H) (J1h λ i j=>if j<i then j else i):=⟨λ {H xs ds Q P} r h k=>by
 obtain ⟨i,j,rfl,q⟩:=Jqo (A:=λ i j=>P (.int (if j<i then j else i))) h r
 exact ⟨i,j,rfl,k _ _ q λ _=>.int _⟩⟩
section
variable {b:Bool}{te:TE}{g:GE}
class OPV (t:TO) (g:outParam (List Vl->Nat->(Option Int->Nat->Prop)->Prop)):Prop where
 op:∀ {S:Src} {ex:List Addr} {env:List Vl} {σ:L2.St} {H:Hp} {n:Nat} {Q:Option Int->Hp->Prop} {P:Option Int->Nat->Prop},Ev S ex env σ H n->g env n P->(∀ o n' H',P o n'->Yy S n' H H'->Q o H')->t σ H Q
instance op_no:OPV Jp5 (λ _ n Q=>Q none n):=⟨λ E h k=>k _ _ _ h (.refl E.inv)⟩
abbrev J3j (g:GE):List Vl->Nat->(Option Int->Nat->Prop)->Prop:=λ env n Q=>g env n λ d n1=>match d with
 | .int i=>Q (some i) n1
 | _=>False
instance op_part [A:EV false te g]:OPV (Jiq te) (J3j g):=⟨λ {S ex env σ H n Q P} E h k=>A.ev E h λ d n1 v H1 h1 s1 r1=>by
 cases r1 with
 | int i=>exact ⟨i,rfl,k _ _ _ h1 s1⟩
 | none=>exact h1.elim
 | bool=>exact h1.elim
 | str=>exact h1.elim
 | tuple=>exact h1.elim
 | list=>exact h1.elim⟩
theorem Jmu {ex:List Addr}{H:Hp}{ds:List Yce}{vs:List V}(r:Reps ex H ds vs) (lo hi:Option Int):Reps ex H (Jdl ds lo hi) (Jia vs lo hi):=by
 unfold Jdl Jia
 rw [r.length]
 exact Reps.take _ (Reps.drop _ r)
abbrev J4w (g:GE) (gl gh:List Vl->Nat->(Option Int->Nat->Prop)->Prop):GE:=λ env n Q=>g env n λ d n1=>gl env n1 λ lo n2=>gh env n2 λ hi n3=>match d with
 | .tuple xs=>¬ (HT.sIx xs.length 0 lo=0/\HT.sIx xs.length xs.length hi=xs.length)/\Q (.tuple (Jdl xs lo hi)) n3
 | _=>False
instance ev_slT {K:Qc}{tl th:TO}{gl gh:List Vl->Nat->(Option Int->Nat->Prop)->Prop} [A:EV b te g] [B:OPV tl gl] [C:OPV th gh]:EV b (tSl (J2n K) te tl th) (J4w g gl gh):=⟨λ {S ex env σ H n Q P} E h k=>
 A.ev E h λ d n1 v H1 h1 s1 r1=>B.op (E.step s1) h1 λ lo n2 H2 h2 s2=>C.op (E.step (s1.trans s2)) h2 λ hi n3 H3 h3 s3=>by
  have r3:=(E.step s1).repm b (s2.trans s3) r1
  cases r3 with
  | tuple e m z rs=>
   have l:=rs.length
   refine ⟨_,_,rfl,SqT.of e,by rw [<- l];exact h3.1,λ p hp=>k _ _ _ _ h3.2 (((s1.trans s2).trans s3).then (Kp.new hp _)) (.tuple Jh ((E.step ((s1.trans s2).trans s3)).alm b |>.nm hp) (Xk (By _ _ _) z) ((Jmu rs lo hi).keep (Kp.new hp _)))⟩
  | none=>exact h3.elim
  | bool=>exact h3.elim
  | str=>exact h3.elim
  | list=>exact h3.elim
  | int=>exact h3.elim⟩
end
def ItAt (ex:List Addr) (J:It) (items:List Yce) (H:Hp):Prop:=J.stop items.length H/\∀ (i:Nat) (d:Yce),items[i]? = some d->J.go i H/\∀ x H',J.yld i H x H'->Kp [] H H'/\Rep ex H' d x
class IV (wi:TI) (g:outParam GN):Prop where
 iv:∀ {S:Src} {ex:List Addr} {env:List Vl} {σ:L2.St} {H:Hp} {n:Nat} {R:It->Hp->Prop} {P:List Yce->Nat->Prop},Ev S ex env σ H n->g env n P ->
  (∀ items n' J (hd:List (Yce×V)) H',P items n'->Yy S n' H H'->(∀ h∈hd,Rep ex H' h.1 h.2)->(∀ ex' H2,Alc ex' H2->(∀ h∈hd,Rep ex' H2 h.1 h.2)->ItAt ex' J items H2)->R J H')->wi σ H R
class IC (wi:TI) (g:outParam GN):Prop where
 ic:∀ {S:Src} {ex:List Addr} {env:List Vl} {σ:L2.St} {H:Hp} {n:Nat} {R:It->Hp->Prop} {P:List Yce->Nat->Prop},Ev S ex env σ H n->g env n P ->
  (∀ items n' J H',P items n'->Yy S n' H H'->(∀ l H2,H' l=none->Kp (l::S.ch) H' H2->Alc (l::ex) H2->ItAt (l::ex) J items H2)->R J H')->wi σ H R
section
variable {K:Qc}{S:Src}{n m:Nat}{H H1 H2 H':Hp}{ex:List Addr}{env:List Vl}{σ:L2.St}{b:Bool}{te ta tb tc:TE}{g ga gb gc:GE}{wi:TI}{gi:GN}
theorem Jfu {l:Addr}(hc:∀ a∈S.ch,a∈ex) (k:Kp (l::S.ch) H H'):Kp (l::ex) H H':=k.mono λ b hb=>(Qg.mp hb).elim (λ e=>by rw [e];exact Qd) λ h=>Qh _ (hc b h)
instance (priority:=low) ic_iv [I:IV wi gi]:IC wi gi:=⟨λ {S ex env σ H n R P} E h k=>I.iv E h λ items n' J hd H' p s hr hit=>k _ _ _ _ p s λ l H2 hl kp al=>
 hit _ _ al λ x hx=>(Rep.add hl (hr x hx)).keep (Jfu E.ch kp)⟩
theorem Jku {a:Addr}{vs:List V}{ds:List Yce}(ha:H a=some (.lst vs)) (r:Reps ex H ds vs):ItAt ex (Itl K a) ds H:=by
 refine ⟨⟨vs,SqL.of ha,by rw [r.length];exact Qn _⟩,λ i d e=>?_⟩
 obtain ⟨v,ev,rv⟩:=r.get e
 refine ⟨⟨vs,v,SqL.of ha,ev⟩,λ x H' y=>?_⟩
 obtain ⟨rfl,hx⟩:=y
 have:=hx vs (SqL.of ha)
 rw [ev] at this
 cases this
 exact ⟨.refl,rv⟩
theorem J1i {a:Addr}{vs:List V}{ds:List Yce}(ha:H a=some (.tup vs)) (r:Reps ex H ds vs):ItAt ex (Itt K a) ds H:=by
 refine ⟨⟨vs,SqT.of ha,by rw [r.length];exact Qn _⟩,λ i d e=>?_⟩
 obtain ⟨v,ev,rv⟩:=r.get e
 refine ⟨⟨vs,v,SqT.of ha,ev⟩,λ x H' y=>?_⟩
 obtain ⟨rfl,hx⟩:=y
 have:=hx vs (SqT.of ha)
 rw [ev] at this
 cases this
 exact ⟨.refl,rv⟩
noncomputable def Jg1 (lo:Int) (k:Nat):List Yce:=(Qf k).map λ (i:Nat)=>.int (lo+(i:Int))
theorem Y5 (lo:Int) (k:Nat):(Jg1 lo k).length=k:=by unfold Jg1;rw [Qb,Xi]
theorem J1j {lo:Int}{k:Nat}:ItAt ex (Itr lo k) (Jg1 lo k) H:=by
 refine ⟨by rw [Y5];exact Qn _,λ i d e=>?_⟩
 have hi:i<k:=by
  have:=(Qr.mp e).1
  rw [Y5] at this
  exact this
 unfold Jg1 at e
 rw [Qs,Uk hi] at e
 cases e
 refine ⟨hi,λ x H' y=>?_⟩
 obtain ⟨rfl,rfl⟩:=y
 exact ⟨.refl,.int _⟩
noncomputable def Jfl:Yce->Option (List Yce)
 | .list xs=>some xs
 | .tuple xs=>some xs
 | _=>none
theorem B2 {d:Yce}{v:V}{ds:List Yce}(r:Rep ex H d v) (h:Jfl d=some ds):∃ (c:Bool) (a:Addr) (vs:List V),v = .ref a/\(∀ K,SqK c K H a vs)/\Reps ex H ds vs/\((c=true/\H a=some (.tup vs))\/(c=false/\H a=some (.lst vs)))/\a∉ex:=by
 cases r with
 | tuple e n z rs=>cases h;exact ⟨true,_,_,rfl,λ K=>SqT.of e,rs,.inl ⟨rfl,e⟩,n⟩
 | list e n z rs=>cases h;exact ⟨false,_,_,rfl,λ K=>SqL.of e,rs,.inr ⟨rfl,e⟩,n⟩
 | none=>cases h
 | bool=>cases h
 | int=>cases h
 | str=>cases h
noncomputable def Jja (ds:List Yce):List Yce:=ds.mapIdx λ i d=>.tuple [.int (i:Int),d]
theorem Yz:(2:Nat)<=sizeLine:=by rw [Ycl];decide
theorem Vp:(3:Nat)<=sizeLine:=by rw [Ycl];decide
theorem Jxo {c:Bool}{a:Addr}{vs:List V}{ds:List Yce}(al:Alc ex H) (ha:SqK c K H a vs) (r:Reps ex H ds vs):ItAt ex (Ite c K a) (Jja ds) H:=by
 unfold Jja
 refine ⟨⟨vs,ha,by rw [List.length_mapIdx,r.length]⟩,λ i d e=>?_⟩
 rw [Ybe] at e
 cases hd:ds[i]? with
 | none=>rw [hd] at e;cases e
 | some d0=>
  rw [hd] at e
  cases e
  obtain ⟨v,ev,rv⟩:=r.get hd
  refine ⟨⟨vs,v,ha,ev⟩,λ x H' y=>?_⟩
  obtain ⟨p,y,hp,rfl,rfl,hy⟩:=y
  have:=hy vs ha
  rw [ev] at this
  cases this
  exact ⟨Kp.new hp _,.tuple Jh (al.nm hp) Yz (.cons (.int _) (.cons (rv.keep (Kp.new hp _)) .nil))⟩
noncomputable def Jap (ds es:List Yce):List Yce:=List.zipWith (λ x y=>.tuple [x,y]) ds es
theorem Juu {c c':Bool}{a a':Addr}{vs vs':List V}{ds es:List Yce}(al:Alc ex H) (ha:SqK c K H a vs) (r:Reps ex H ds vs) (ha':SqK c' K H a' vs') (r':Reps ex H es vs'):ItAt ex (Itz c c' K a a') (Jap ds es) H:=by
 unfold Jap
 refine ⟨⟨vs,vs',ha,ha',by rw [Ybf,r.length,r'.length]⟩,λ i d e=>?_⟩
 rw [J9i] at e
 cases hd:ds[i]? with
 | none=>rw [hd] at e;cases e
 | some d0=>
  cases he:es[i]? with
  | none=>rw [hd,he] at e;cases e
  | some e0=>
   rw [hd,he] at e
   cases e
   obtain ⟨v,ev,rv⟩:=r.get hd
   obtain ⟨v',ev',rv'⟩:=r'.get he
   refine ⟨⟨vs,vs',v,v',ha,ha',ev,ev'⟩,λ x H' y=>?_⟩
   obtain ⟨p,y,y',hp,rfl,rfl,hy,hy'⟩:=y
   have:=hy vs ha
   rw [ev] at this
   cases this
   have:=hy' vs' ha'
   rw [ev'] at this
   cases this
   exact ⟨Kp.new hp _,.tuple Jh (al.nm hp) Yz (.cons (rv.keep (Kp.new hp _)) (.cons (rv'.keep (Kp.new hp _)) .nil))⟩
abbrev Juv (f:Yce->Option (List Yce)) (g:GE):GN:=λ env n Q=>g env n λ d n1=>match f d with
 | some ds=>Q ds n1
 | none=>False
noncomputable def J4x:Yce->Option (List Yce)
 | .list xs=>some xs
 | _=>none
noncomputable def Jzs:Yce->Option (List Yce)
 | .tuple xs=>some xs
 | _=>none
instance iv_list [A:EV true te g]:IV (Jtp K te) (Juv J4x g):=⟨λ {S ex env σ H n R P} E h k=>A.ev E h λ d n1 v H1 h1 s1 r1=>by
 cases r1 with
 | list e m z rs=>
  refine ⟨_,rfl,⟨_,SqL.of e⟩,k _ _ _ [(X7 _,V.ref _)] _ h1 s1 (λ h hh=>by rw [Qm.mp hh];exact .list e m z rs) λ ex' H2 al hr=>?_⟩
  have:=hr _ (Qm.mpr rfl)
  cases this with
  | list e m z rs=>exact Jku e rs
 | none=>exact h1.elim
 | bool=>exact h1.elim
 | str=>exact h1.elim
 | int=>exact h1.elim
 | tuple=>exact h1.elim⟩
instance iv_tup [A:EV true te g]:IV (J2l K te) (Juv Jzs g):=⟨λ {S ex env σ H n R P} E h k=>A.ev E h λ d n1 v H1 h1 s1 r1=>by
 cases r1 with
 | tuple e m z rs=>
  refine ⟨_,rfl,⟨_,SqT.of e⟩,k _ _ _ [(J57 _,V.ref _)] _ h1 s1 (λ h hh=>by rw [Qm.mp hh];exact .tuple e m z rs) λ ex' H2 al hr=>?_⟩
  have:=hr _ (Qm.mpr rfl)
  cases this with
  | tuple e m z rs=>exact J1i e rs
 | none=>exact h1.elim
 | bool=>exact h1.elim
 | str=>exact h1.elim
 | int=>exact h1.elim
 | list=>exact h1.elim⟩
abbrev Juw (i:Nat):GN:=λ env n Q=>match env[i]? with
 | some (.own xs)=>Q xs n
 | some (.d (.list xs))=>Q xs n
 | _=>False
instance (priority:=high) ic_own {i:Nat}:IC (Jtp K (Zv i)) (Juw i):=⟨λ {S ex env σ H n R P} E h k=>by
 unfold Juw at h
 split at h
 . rename_i xs e
   obtain ⟨a,vs,ev,h1,h2,h3,h4,h5⟩:=E.sl i _ e
   refine ⟨_,Jj ev,_,rfl,⟨_,SqL.of h1⟩,k _ _ _ _ h (.refl E.inv) λ l H2 hl kp al=>?_⟩
   have na:a≠l:=Jk h1 hl
   exact Jku (kp _ _ h1 λ z=>(Qg.mp z).elim na h5) ((Reps.add hl h3).keep (Jfu E.ch kp))
 . rename_i xs e
   obtain ⟨v,ev,r⟩:=E.sl i _ e
   cases r with
   | list e1 m z rs=>
    refine ⟨_,Jj ev,_,rfl,⟨_,SqL.of e1⟩,k _ _ _ _ h (.refl E.inv) λ l H2 hl kp al=>?_⟩
    have:=(Rep.add hl (.list e1 m z rs)).keep (Jfu E.ch kp)
    cases this with
    | list e m z rs=>exact Jku e rs
 . exact h.elim⟩
abbrev J3k (t:GN):GN:=λ env n Q=>t env n λ ds n1=>∃ j:Int,ds=[.int j]/\(-(2^62)<=j/\j<2^62)/\Q (Jg1 0 j.toNat) n1
instance iv_rng1 {t:TA}{gt:GN} [A:DV false t gt]:IV (Jza t) (J3k gt):=⟨λ {S ex env σ H n R P} E h k=>A.dv E h λ ds n1 vs H1 h1 s1 r1=>by
 obtain ⟨j,rfl,h2,q⟩:=h1
 cases r1 with
 | cons r1 t=>
  cases t
  cases r1
  exact ⟨j,rfl,h2.1,h2.2,k _ _ _ [] _ q s1 (λ h hh=>by cases hh) λ ex' H2 al _=>J1j⟩⟩
abbrev J3l (t:GN):GN:=λ env n Q=>t env n λ ds n1=>∃ d xs,ds=[d]/\Jfl d=some xs/\Q (Jja xs) n1
abbrev J4y (t:GN):GN:=λ env n Q=>t env n λ ds n1=>∃ d e xs ys,ds=[d,e]/\Jfl d=some xs/\Jfl e=some ys/\Q (Jap xs ys) n1
theorem V5 {d:Yce}{ds:List Yce}{c:Bool}{a:Addr}{vs:List V}(hs:Jfl d=some ds) (hc:(c=true/\H a=some (.tup vs))\/(c=false/\H a=some (.lst vs))) (r:Rep ex H d (.ref a)) (ex':List Addr) (H2:Hp) (r2:Rep ex' H2 d (.ref a)):∃ vs',(∀ K,SqK c K H2 a vs')/\Reps ex' H2 ds vs':=by
 cases r2 with
 | tuple e n z rs=>
  cases hs
  refine ⟨_,λ K=>?_,rs⟩
  rcases hc with ⟨rfl,_⟩ | ⟨_,h⟩
  . exact SqT.of e
  . cases r with | tuple e' _ _ _=>rw [h] at e';cases e'
 | list e n z rs=>
  cases hs
  refine ⟨_,λ K=>?_,rs⟩
  rcases hc with ⟨_,h⟩ | ⟨rfl,_⟩
  . cases r with | list e' _ _ _=>rw [h] at e';cases e'
  . exact SqL.of e
instance iv_enum {t:TA}{gt:GN} [A:DV true t gt]:IV (Jzh K t) (J3l gt):=⟨λ {S ex env σ H n R P} E h k=>A.dv E h λ ds n1 vs H1 h1 s1 r1=>by
 obtain ⟨d,xs,rfl,hs,q⟩:=h1
 cases r1 with
 | cons r1 t=>
  cases t
  obtain ⟨c,a,ws,rfl,hq,rs,hc,na⟩:=B2 r1 hs
  refine ⟨c,a,ws,rfl,hq K,k _ _ _ [(d,V.ref a)] _ q s1 (λ h hh=>by rw [Qm.mp hh];exact r1) λ ex' H2 al hr=>?_⟩
  obtain ⟨vs',h3,h4⟩:=V5 hs hc r1 ex' H2 (hr _ (Qm.mpr rfl))
  exact Jxo al (h3 K) h4⟩
instance iv_zip {t:TA}{gt:GN} [A:DV true t gt]:IV (Jua K t) (J4y gt):=⟨λ {S ex env σ H n R P} E h k=>A.dv E h λ ds n1 vs H1 h1 s1 r1=>by
 obtain ⟨d,e,xs,ys,rfl,hs,hs',q⟩:=h1
 cases r1 with
 | cons r1 t=>
  cases t with
  | cons r2 t=>
   cases t
   obtain ⟨c,a,ws,rfl,hq,rs,hc,na⟩:=B2 r1 hs
   obtain ⟨c',a',ws',rfl,hq',rs',hc',na'⟩:=B2 r2 hs'
   refine ⟨c,c',a,a',ws,ws',rfl,hq K,hq' K,k _ _ _ [(d,V.ref a),(e,V.ref a')] _ q s1 (λ h hh=>?_) λ ex' H2 al hr=>?_⟩
   . rcases Qg.mp hh with e | hh
     . rw [e];exact r1
     . rw [Qm.mp hh];exact r2
   obtain ⟨v1,h3,h4⟩:=V5 hs hc r1 ex' H2 (hr _ Qd)
   obtain ⟨v2,h5,h6⟩:=V5 hs' hc' r2 ex' H2 (hr _ (Qh _ (Qm.mpr rfl)))
   exact Juu al (h3 K) h4 (h5 K) h6⟩
end
noncomputable def Jl (env:List Vl) (σ:L2.St) (i:Nat):List Addr:=match env[i]?,(σ[i]?).join with
 | some (.own _),some (.ref a)=>[a]
 | some (.dct _),some (.ref a)=>[a]
 | some (.own2 _ ps),some (.ref a)=>a::ps.map (·.1)
 | _,_=>[]
abbrev GG:=Yce->List Vl->(List Vl->Prop)->Prop
abbrev GGs:=List Yce->List Vl->(List Vl->Prop)->Prop
class GV (g:TG) (bd:outParam GG) (ks:outParam (List Nat)):Prop where
 gv:∀ {S:Src} {ex:List Addr} {env:List Vl} {σ:L2.St} {H:Hp} {n:Nat} {d:Yce} {v:V} {Q:L2.St->Hp->Prop} {P:List Vl->Prop},Ev S ex env σ H n->Rep ex H d v->bd d env P ->
  (∀ env' σ',P env'->Ev S ex env' σ' H n->(∀ i a,a∈Jl env' σ' i->a∈Jl env σ i)->(∀ i:Nat,i∉ks->σ'[i]? = σ[i]?)->σ'.length = σ.length->Q σ' H)->g v σ H Q
class GVs (g:TGs) (bd:outParam GGs) (ks:outParam (List Nat)):Prop where
 gvs:∀ {S:Src} {ex:List Addr} {env:List Vl} {σ:L2.St} {H:Hp} {n:Nat} {d:List Yce} {v:List V} {Q:L2.St->Hp->Prop} {P:List Vl->Prop},Ev S ex env σ H n->Reps ex H d v->bd d env P ->
  (∀ env' σ',P env'->Ev S ex env' σ' H n->(∀ i a,a∈Jl env' σ' i->a∈Jl env σ i)->(∀ i:Nat,i∉ks->σ'[i]? = σ[i]?)->σ'.length = σ.length->Q σ' H)->g v σ H Q
abbrev Jzt (i:Nat):GG:=λ d env P=>P (env.set i (.d d))
theorem Ev.put {S:Src}{ex:List Addr}{env:List Vl}{σ:L2.St}{H:Hp}{n i:Nat}{w:Vl}{v:V}(E:Ev S ex env σ H n) (h:SlR S ex H w (some v)):Ev S ex (env.set i w) (σ.set i (some v)) H n:=by
 refine ⟨by rw [Xh,Xh];exact E.len,λ j u e=>?_,E.ch,E.al,E.inv⟩
 by_cases hj:i=j
 . subst hj
   have hl:i<env.length:=by
    have:=(Qr.mp e).1
    rw [Xh] at this;exact this
   rw [Q4 hl] at e
   cases e
   rw [Q4 (Xn hl E.len)]
   exact h
 . rw [Q2 hj] at e ⊢
   exact E.sl j u e
theorem Jfv {env:List Vl}{σ:L2.St}{i:Nat}{d:Yce}{v:V}:∀ j a,a∈Jl (env.set i (.d d)) (σ.set i (some v)) j->a∈Jl env σ j:=λ j a h=>by
 unfold Jl at h ⊢
 by_cases hj:i=j
 . subst hj
   by_cases hl:i<env.length
   . rw [Q4 hl] at h
     cases h
   . rw [Xt (by rw [Xh];omega)] at h
     cases h
 . rw [Q2 hj,Q2 hj] at h
   exact h
instance gv_name {i:Nat}:GV (W6 i) (Jzt i) [i]:=⟨λ {S ex env σ H n d v Q P} E r h k=>k _ _ h (E.put ⟨v,rfl,r⟩) Jfv (λ j hj=>Q2 (λ z=>hj (by rw [z];exact Qm.mpr rfl))) Xh⟩
abbrev J4z:GGs:=λ ds env P=>ds=[]/\P env
abbrev J3m (t:GG) (u:GGs):GGs:=λ ds env P=>match ds with
 | d::r=>t d env λ env1=>u r env1 P
 | []=>False
instance gvs_nil:GVs L2.gNil J4z []:=⟨λ {S ex env σ H n d v Q P} E r h k=>by
 obtain ⟨rfl,h⟩:=h
 cases r
 exact ⟨rfl,k _ _ h E (λ _ _ h=>h) (λ _ _=>rfl) rfl⟩⟩
instance gvs_cons {t:TG}{u:TGs}{bt:GG}{bu:GGs}{k1 k2:List Nat} [A:GV t bt k1] [B:GVs u bu k2]:GVs (L2.gCons t u) (J3m bt bu) (k1++k2):=⟨λ {S ex env σ H n d v Q P} E r h k=>by
 cases r with
 | nil=>exact h.elim
 | cons r1 t=>
  refine ⟨_,_,rfl,A.gv E r1 h λ env1 σ1 h1 E1 o1 f1 z1=>B.gvs E1 t h1 λ env2 σ2 h2 E2 o2 f2 z2=>k _ _ h2 E2 (λ i a ha=>o1 i a (o2 i a ha)) (λ i hi=>?_) (z2.trans z1)⟩
  rw [f2 i λ z=>hi (Q8 _ z),f1 i λ z=>hi (Xu _ z)]⟩
abbrev J40 (k:Nat) (bs:GGs):GG:=λ d env P=>match d with
 | .tuple ds=>ds.length=k/\bs ds env P
 | _=>False
instance gv_tup {K:Qc}{k:Nat}{t:TGs}{bs:GGs}{ks:List Nat} [A:GVs t bs ks]:GV (Jtk K k t) (J40 k bs) ks:=⟨λ {S ex env σ H n d v Q P} E r h k=>by
 cases r with
 | tuple e m z rs=>exact ⟨_,_,rfl,SqT.of e,by rw [<- rs.length];exact h.1,A.gvs E rs h.2 k⟩
 | none=>exact h.elim
 | bool=>exact h.elim
 | str=>exact h.elim
 | int=>exact h.elim
 | list=>exact h.elim⟩
def Jg2 (f:Yce->Nat->(Option Yce->Nat->Prop)->Prop):List Yce->Nat->(List Yce->Nat->Prop)->Prop
 | [],n,Q=>Q [] n
 | x::xs,n,Q=>f x n λ o n1=>Jg2 f xs n1 λ ys n2=>Q (o.toList++ys) n2
noncomputable def Jcv (k:Nat) (idx:List Nat) (env:List Vl):List Vl:=Qy k .jnk++idx.map λ i=>(env[i]?).getD .jnk
abbrev Jzu (bd:GG) (gt:GT) (ge:GE) (env:List Vl):Yce->Nat->(Option Yce->Nat->Prop)->Prop:=λ x n Q=>bd x env λ env'=>gt env' n λ c n1=>if c=true then ge env' n1 λ y n2=>Q (some y) n2 else Q none n1
abbrev Jzv (gi:GN) (k:Nat) (idx:List Nat) (ks:List Nat) (bd:GG) (gt:GT) (ge:GE):GN:=λ env n Q=>gi env n λ items n1=>(ks.all (λ i=>decide (i<k))=true/\items.length<=sizeLine)/\Jg2 (Jzu bd gt ge (Jcv k idx env)) items n1 Q
theorem SlR.add {S:Src}{ex:List Addr}{H:Hp}{l:Addr}{w:Vl}{o:Option V}(hl:H l=none) (h:SlR S ex H w o):SlR S (l::ex) H w o:=by
 cases w with
 | jnk=>trivial
 | jar=>exact h
 | tape=>exact h
 | d x=>obtain ⟨v,e,r⟩:=h;exact ⟨v,e,Rep.add hl r⟩
 | pin v x=>obtain ⟨e,r⟩:=h;exact ⟨e,Rep.add hl r⟩
 | own xs=>obtain ⟨a,vs,e,h1,h2,h3,h4,h5⟩:=h;exact ⟨a,vs,e,h1,h2,Reps.add hl h3,Qh _ h4,h5⟩
 | dct kvs=>obtain ⟨a,kws,e,h1,⟨h2,h3⟩,h4,h5⟩:=h;exact ⟨a,kws,e,h1,⟨h2,Reps.add hl h3⟩,Qh _ h4,h5⟩
 | own2 ks ps=>obtain ⟨a,e,q⟩:=h;exact ⟨a,e,q.h,q.z,q.k,q.nd,Qh _ q.m,q.c,λ p hp=>let w:=q.i p hp;⟨Qh _ w.m,w.c,let ⟨vs,h1,h2,h3⟩:=w.h;⟨vs,h1,h2,Reps.add hl h3⟩⟩⟩
theorem SlR.upd {S:Src}{ex:List Addr}{H:Hp}{l:Addr}{w:Vl}{o:Option V}{u:HO}(hl:l∈ex) (hn:∀ b∈Jl [w] [o] 0,b≠l) (h:SlR S ex H w o):SlR S ex (upd H l u) w o:=by
 cases w with
 | jnk=>trivial
 | jar=>exact h
 | tape=>exact h
 | d x=>obtain ⟨v,e,r⟩:=h;exact ⟨v,e,r.keep (Kp.at hl _)⟩
 | pin v x=>obtain ⟨e,r⟩:=h;exact ⟨e,r.keep (Kp.at hl _)⟩
 | own xs=>obtain ⟨a,vs,e,h1,h2,h3,h4,h5⟩:=h;subst e;exact ⟨a,vs,rfl,by rw [Ji (hn a Qd)];exact h1,h2,h3.keep (Kp.at hl _),h4,h5⟩
 | dct kvs=>obtain ⟨a,kws,e,h1,⟨h2,h3⟩,h4,h5⟩:=h;subst e;exact ⟨a,kws,rfl,by rw [Ji (hn a Qd)];exact h1,⟨h2,h3.keep (Kp.at hl _)⟩,h4,h5⟩
 | own2 ks ps=>obtain ⟨a,e,q⟩:=h;subst e;exact ⟨a,rfl,by rw [Ji (hn a Qd)];exact q.h,q.z,q.k,q.nd,q.m,q.c,λ p hp=>let w:=q.i p hp;⟨w.m,w.c,let ⟨vs,h1,h2,h3⟩:=w.h;⟨vs,by rw [Ji (hn p.1 (Qh _ (Ql.mpr ⟨p,hp,rfl⟩)))];exact h1,h2,h3.keep (Kp.at hl _)⟩⟩⟩
theorem Jg3 {S:Src}{ex:List Addr}{env:List Vl}{σ:L2.St}{H:Hp}{n:Nat}(E:Ev S ex env σ H n) (k:Nat) (idx:List Nat):Ev S ex (Jcv k idx env) (Yi k idx σ) H n:=by
 refine ⟨by unfold Jcv Yi;simp,λ i w e=>?_,E.ch,E.al,E.inv⟩
 unfold Jcv at e
 by_cases hi:i<k
 . rw [J5x (by simpa using hi),J6f,if_pos hi] at e
   cases e
   trivial
 . rw [J5w (by simpa using J6k hi),Qs] at e
   rw [Uq] at e
   cases hj:idx[i-k]? with
   | none=>rw [hj] at e;cases e
   | some j=>
    rw [hj] at e
    cases e
    have e2:(Yi k idx σ)[i]? = some ((σ[j]?).join):=by
     unfold Yi
     rw [J5w (by simpa using J6k hi),Uq,Qs,hj];rfl
    rw [e2]
    show SlR S ex H ((env[j]?).getD .jnk) (σ[j]?).join
    cases hw:env[j]? with
    | none=>exact trivial
    | some w=>exact E.sl j w hw
theorem Jqp {S:Src}{ex:List Addr}{je:List Vl}{σ0 σ':L2.St}{H1 H2:Hp}{n1 n2 k:Nat}{l:Addr}(E:Ev S ex je σ0 H1 n1) (hl:H1 l=none) (kp:Kp (l::S.ch) H1 H2) (h2:H2 l≠none) (iv:S.inv n2 H2) (hj:∀ j:Nat,j<k->je[j]? = none\/je[j]? = some .jnk) (hs:∀ j:Nat,k<=j->σ'[j]? = σ0[j]?) (hz:σ'.length = σ0.length):Ev S (l::ex) je σ' H2 n2:=by
 have hc:∀ a∈S.ch,a∈l::ex:=λ a h=>Qh _ (E.ch a h)
 have kx:Kp (l::ex) H1 H2:=Jfu E.ch kp
 refine ⟨by rw [hz];exact E.len,λ j w e=>?_,hc,λ a ha=>?_,iv⟩
 . by_cases hjk:j<k
   . rcases hj j hjk with h | h
     . rw [h] at e;cases e
     . rw [h] at e;cases e;trivial
   . rw [hs j (J6k hjk)]
     have h:=SlR.add hl (E.sl j w e)
     cases w with
     | jnk=>trivial
     | jar=>exact h
     | tape=>exact h
     | d x=>obtain ⟨v,e,r⟩:=h;exact ⟨v,e,r.keep kx⟩
     | pin v x=>obtain ⟨e,r⟩:=h;exact ⟨e,r.keep kx⟩
     | own xs=>obtain ⟨a,vs,e,h1,h2,h3,h4,h5⟩:=h;exact ⟨a,vs,e,kp _ _ h1 λ z=>(Qg.mp z).elim (Jk h1 hl) h5,h2,h3.keep kx,h4,h5⟩
     | dct kvs=>obtain ⟨a,kws,e,h1,⟨h2,h3⟩,h4,h5⟩:=h;exact ⟨a,kws,e,kp _ _ h1 λ z=>(Qg.mp z).elim (Jk h1 hl) h5,⟨h2,h3.keep kx⟩,h4,h5⟩
     | own2 ks ps=>obtain ⟨a,e,q⟩:=h;exact ⟨a,e,kp _ _ q.h λ z=>(Qg.mp z).elim (Jk q.h hl) q.c,q.z,q.k,q.nd,q.m,q.c,λ p hp=>let w:=q.i p hp;⟨w.m,w.c,let ⟨vs,h1,h2,h3⟩:=w.h;⟨vs,kp _ _ h1 λ z=>(Qg.mp z).elim (Jk h1 hl) w.c,h2,h3.keep kx⟩⟩⟩
 . rcases Qg.mp ha with rfl | ha
   . exact h2
   . by_cases hac:a∈S.ch
     . exact S.dom iv a hac
     . intro z
       cases e:H1 a with
       | none=>exact E.al a ha e
       | some o=>
        rw [kp a o e λ q=>(Qg.mp q).elim (Jk e hl) hac] at z
        cases z
theorem Jg4 {k:Nat}{idx:List Nat}{env:List Vl}(j:Nat) (h:j<k):(Jcv k idx env)[j]? = none\/(Jcv k idx env)[j]? = some .jnk:=by
 right
 unfold Jcv
 rw [J5x (by simpa using h),J6f,if_pos h]
instance nv_comp {wi:TI}{gi:GN}{k:Nat}{idx ks:List Nat}{g:TG}{bd:GG}{tt:TT}{gt:GT}{te:TE}{ge:GE} [I:IC wi gi] [G:GV g bd ks] [T:TV tt gt] [A:EV true te ge]:NV (Je9 wi k idx g tt te) (Jzv gi k idx ks bd gt ge):=⟨λ {S ex env σ H n Q P} E h kk=>by
 refine I.ic E h λ items n1 J H1 hc s1 hit l hl=>?_
 obtain ⟨⟨hk,hz⟩,hc⟩:=hc
 have E1:=Jg3 (E.step s1) k idx
 have lch:l∉S.ch:=λ z=>S.dom s1.2 l z hl
 have hkk:∀ i∈ks,i<k:=λ i hi=>of_decide_eq_true (Ub.mp hk i hi)
 refine ⟨λ i m σ' H2=>i<=items.length/\m=items.length-i/\∃ (n2:Nat) (ds:List Yce) (vs:List V),Jg2 (Jzu bd gt ge (Jcv k idx env)) (items.drop i) n2 (λ ys n'=>P (ds++ys) n')/\Kp (l::S.ch) H1 H2/\H2 l=some (.lst vs)/\vs.length<=i/\Reps (l::ex) H2 ds vs/\S.inv n2 H2/\(∀ j:Nat,k<=j->σ'[j]? = (Yi k idx σ)[j]?)/\σ'.length=(Yi k idx σ).length,
  ⟨items.length,Q9 _,rfl,n1,[],[],by simpa using hc,Kp.new hl _,Jh,Qn _,.nil,S.keep s1.2 λ b _ o' e=>Kp.new (ex:=[]) hl _ _ _ e (by simp),λ _ _=>rfl,rfl⟩,?_⟩
 rintro i m σ' H2 ⟨hi,rfl,n2,ds,vs,hcm,kp,h2l,hvl,rs,iv2,hsl,hln⟩
 have E2:Ev S (l::ex) (Jcv k idx env) σ' H2 n2:=Jqp E1 hl kp (by rw [h2l];intro z;cases z) iv2 Jg4 hsl hln
 have IT:=hit l H2 hl kp E2.al
 rcases U8 i items.length with hlt | hge
 . refine .inr ⟨(IT.2 i items[i] (Qx hlt)).1,λ x H3 y=>?_⟩
   obtain ⟨kp3,rx⟩:=(IT.2 i items[i] (Qx hlt)).2 x H3 y
   rw [J73 hlt] at hcm
   have st3:Yy S n2 H2 H3:=Yy.new E2.inv kp3
   have E3:=E2.step st3
   refine G.gv E3 rx hcm λ env' σ2 ht E4 _ hs hl2=>T.tv E4 ht λ c n4 H4 h4 s4=>?_
   have hs2:∀ j:Nat,k<=j->σ2[j]? = (Yi k idx σ)[j]?:=λ j hj=>by
    rw [hs j λ z=>by have:=hkk j z;omega];exact hsl j hj
   cases c with
   | true=>
    refine A.ev (E4.step s4) h4 λ d n5 v H5 h5 s5 r5=>?_
    have s25:=st3.trans (s4.trans s5)
    have k5:Kp S.ch H2 H5:=s25.1
    have h5l:H5 l=some (.lst vs):=k5 _ _ h2l lch
    refine ⟨vs,h5l,by omega,_,(?_:items.length-(i+1)<_),hlt,rfl,n5,ds++[d],vs++[v],?_,?_,Jh,?_,?_,?_,hs2,hl2.trans hln⟩
    . omega
    . simpa using h5
    . exact (kp.trans (k5.mono λ b hb=>Qh _ hb)).trans (Kp.at Qd _)
    . rw [Qw,Xq];omega
    . have q1:Reps (l::ex) H5 ds vs:=rs.keep (k5.mono E2.ch)
      exact (Reps.append q1 (.cons r5 .nil)).keep (Kp.at Qd _)
    . exact S.keep s25.2 λ b hb o e=>by rw [Ji (λ z=>lch (by rw [<- z];exact hb))];exact e
   | false=>
    have s24:=st3.trans s4
    refine ⟨_,(?_:items.length-(i+1)<_),hlt,rfl,n4,ds,vs,by simpa using h4,kp.trans (s24.1.mono λ b hb=>Qh _ hb),s24.1 _ _ h2l lch,by omega,rs.keep (s24.1.mono E2.ch),s24.2,hs2,hl2.trans hln⟩
    omega
 . have e:i=items.length:=by omega
   subst e
   rw [J74] at hcm
   refine .inl ⟨IT.1,kk _ _ _ _ _ (by simpa [Jg2] using hcm) ⟨λ b o e nb=>kp b o (s1.1 b o e nb) λ z=>(Qg.mp z).elim (λ e2=>by rw [e2,s1.free hl] at e;cases e) nb,iv2⟩ (s1.free hl) h2l (Xk hvl hz) rs⟩⟩
structure VEnds where
 nx:List Vl->Nat->Prop
 rt:Yce->Nat->Prop
 rtn:List Yce->Nat->Prop
 bk:List Vl->Nat->Prop:=λ _ _=>False
 ct:List Vl->Nat->Prop:=λ _ _=>False
 xc:XK->Addr->Nat->Prop:=λ _ _ _=>False
 rt2:List (List Yce)->Nat->Prop:=λ _ _=>False
abbrev GS:=VEnds->List Vl->Nat->Prop
structure Cv where
 S:Src
 ex0:List Addr
 H0:Hp
 held:List (Yce×V)
structure At (C:Cv) (ex:List Addr) (env:List Vl) (σ:L2.St) (H:Hp) (n:Nat):Prop where
 ev:Ev C.S ex env σ H n
 ex0:∀ a∈C.ex0,a∈ex
 al0:Alc C.ex0 C.H0
 sep:∀ i j a,a∈Jl env σ i->a∈Jl env σ j->i=j
 new:∀ i a,a∈Jl env σ i->C.H0 a=none
 kp:Kp C.S.ch C.H0 H
 held:∀ h∈C.held,Rep ex H h.1 h.2
structure Ret (C:Cv) (d:Yce) (n:Nat) (v:V) (H:Hp):Prop where
 kp:Kp C.S.ch C.H0 H
 inv:C.S.inv n H
 r:Rep C.ex0 H d v
structure RetN (C:Cv) (ds:List Yce) (n:Nat) (a:Addr) (H:Hp):Prop where
 kp:Kp C.S.ch C.H0 H
 inv:C.S.inv n H
 fr:C.H0 a=none
 r:∃ vs,H a=some (.lst vs)/\vs.length<=sizeLine/\Reps (a::C.ex0) H ds vs
structure Ret2 (C:Cv) (ps:List (Addr×List Yce)) (n:Nat) (a:Addr) (H:Hp):Prop where
 kp:Kp C.S.ch C.H0 H
 inv:C.S.inv n H
 fr:C.H0 a=none
 frs:∀ p∈ps,C.H0 p.1=none
 o:Own2 C.S (a::ps.map (·.1)++C.ex0) H none ps a
structure EndsOk (C:Cv) (G:VEnds) (D:Ends):Prop where
 nx:∀ {ex env σ H n},At C ex env σ H n->G.nx env n->D.nx σ H
 bk:∀ {ex env σ H n},At C ex env σ H n->G.bk env n->D.bk σ H
 ct:∀ {ex env σ H n},At C ex env σ H n->G.ct env n->D.ct σ H
 rt:∀ {d n v H},Ret C d n v H->G.rt d n->D.rt v H
 rtn:∀ {ds n a H},RetN C ds n a H->G.rtn ds n->D.rt (.ref a) H
 xc:∀ {E c n H},Kp C.S.ch C.H0 H->C.S.inv n H->G.xc E c n->E (.ref c) none H
 r2:∀ {ps n a H},Ret2 C ps n a H->G.rt2 (ps.map (·.2)) n->D.rt (.ref a) H
class SV (ts:TS) (gs:outParam GS):Prop where
 sv:∀ {C:Cv} {G:VEnds} {D:Ends},EndsOk C G D->∀ {ex env σ H n},At C ex env σ H n->gs G env n->ts D σ H
section
variable {C:Cv}{ex:List Addr}{env:List Vl}{σ:L2.St}{H H':Hp}{n m:Nat}
theorem At.step (A:At C ex env σ H n) (s:Yy C.S m H H'):At C ex env σ H' m:=⟨A.ev.step s,A.ex0,A.al0,A.sep,A.new,A.kp.trans s.1,λ h hh=>A.ev.rep s (A.held h hh)⟩
theorem Wx {i:Nat}{a:Addr}(E:Ev C.S ex env σ H n) (h:a∈Jl env σ i):H a≠none/\a∈ex/\a∉C.S.ch:=by
 unfold Jl at h
 split at h
 . rename_i xs b e1 e2
   obtain ⟨c,vs,e,h1,h2,h3,h4,h5⟩:=E.sl i _ e1
   rw [e2] at e
   cases e
   rw [Qm.mp h]
   exact ⟨(by rw [h1];intro z;cases z),h4,h5⟩
 . rename_i xs b e1 e2
   obtain ⟨c,vs,e,h1,h2,h4,h5⟩:=E.sl i _ e1
   rw [e2] at e
   cases e
   rw [Qm.mp h]
   exact ⟨(by rw [h1];intro z;cases z),h4,h5⟩
 . rename_i ks ps b e1 e2
   obtain ⟨c,e,q⟩:=E.sl i _ e1
   rw [e2] at e
   cases e
   rcases Qg.mp h with rfl | h
   . exact ⟨(by rw [q.h];exact Ul _),q.m,q.c⟩
   . obtain ⟨p,hp,rfl⟩:=Ql.mp h
     have w:=q.i p hp
     obtain ⟨vs,h1,_⟩:=w.h
     exact ⟨(by rw [h1];exact Ul _),w.m,w.c⟩
 . cases h
theorem Va {α:Type}{l:List α}{i:Nat}{a b:α}(h:(l.set i a)[i]? = some b):b=a:=by
 have hl:=(Qr.mp h).1
 rw [Xh] at hl
 rw [Q4 hl] at h
 exact (Xd h).symm
theorem Vy {j:Nat}{w:Vl}(e:env[j]? = some w):Jl env σ j=Jl [w] [(σ[j]?).join] 0:=by
 unfold Jl
 rw [e]
 rfl
theorem At.put (A:At C ex env σ H n) {i:Nat}{d:Yce}{v:V}(r:Rep ex H d v):At C ex (env.set i (.d d)) (σ.set i (some v)) H n:=
 ⟨A.ev.put ⟨v,rfl,r⟩,A.ex0,A.al0,λ j k a h1 h2=>A.sep j k a (Jfv j a h1) (Jfv k a h2),λ j a h=>A.new j a (Jfv j a h),A.kp,A.held⟩
theorem At.bind (A:At C ex env σ H n) {env':List Vl}{σ':L2.St}(E:Ev C.S ex env' σ' H n) (o:∀ i a,a∈Jl env' σ' i->a∈Jl env σ i):At C ex env' σ' H n:=
 ⟨E,A.ex0,A.al0,λ j k a h1 h2=>A.sep j k a (o j a h1) (o k a h2),λ j a h=>A.new j a (o j a h),A.kp,A.held⟩
theorem At.free (A:At C ex env σ H n) {a:Addr}(h:H a=none):C.H0 a=none:=by
 cases e:C.H0 a with
 | none=>rfl
 | some o=>
  by_cases hp:a∈C.S.ch
  . exact absurd h (C.S.dom A.ev.inv a hp)
  . rw [A.kp a o e hp] at h;cases h
theorem Zk {i j:Nat}{w:Vl}{o:Option V}(h:i≠j):Jl (env.set i w) (σ.set i o) j=Jl env σ j:=by
 unfold Jl
 rw [Q2 h,Q2 h]
theorem Jo9 {i:Nat}{ds:List Yce}{a b:Addr}(h:b∈Jl (env.set i (.own ds)) (σ.set i (some (.ref a))) i):b=a:=by
 unfold Jl at h
 split at h
 . rename_i c e1 e2
   have e3:(σ.set i (some (.ref a)))[i]? = some (some (.ref c)):=Jj e2
   have:=Va e3
   cases this
   exact Qm.mp h
 . rename_i e1 e2
   have:=Va e1
   cases this
 . rename_i e1 e2
   have:=Va e1
   cases this
 . cases h
theorem At.own (A:At C ex env σ H n) {i:Nat}{ds:List Yce}{vs:List V}{a:Addr}(s:Yy C.S m H H') (ha:H a=none) (hl:H' a=some (.lst vs)) (hz:vs.length<=sizeLine) (r:Reps (a::ex) H' ds vs) :
 At C (a::ex) (env.set i (.own ds)) (σ.set i (some (.ref a))) H' m:=by
 have ac:a∉C.S.ch:=λ z=>C.S.dom A.ev.inv a z ha
 have hc:∀ b∈C.S.ch,b∈a::ex:=λ b h=>Qh _ (A.ev.ch b h)
 have E1:Ev C.S (a::ex) env σ H' m:=by
  refine ⟨A.ev.len,λ j w e=>(SlR.add ha (A.ev.sl j w e)).kp hc s.1,hc,λ b hb=>?_,s.2⟩
  rcases Qg.mp hb with rfl | hb
  . rw [hl];intro z;cases z
  . exact A.ev.al.step s b hb
 refine ⟨E1.put ⟨a,vs,rfl,hl,hz,r,Qd,ac⟩,λ b h=>Qh _ (A.ex0 b h),A.al0,λ j k b h1 h2=>?_,λ j b h=>?_,A.kp.trans s.1,λ h hh=>(Rep.add ha (A.held h hh)).keep (s.1.mono hc)⟩
 . by_cases hj:i=j
   . subst hj
     have e:=Jo9 h1
     subst e
     by_cases hk:i=k
     . exact hk
     . rw [Zk hk] at h2
       exact absurd ha (Wx A.ev h2).1
   . rw [Zk hj] at h1
     by_cases hk:i=k
     . subst hk
       have e:=Jo9 h2
       subst e
       exact absurd ha (Wx A.ev h1).1
     . rw [Zk hk] at h2
       exact A.sep j k b h1 h2
 . by_cases hj:i=j
   . subst hj
     have e:=Jo9 h
     subst e
     exact A.free ha
   . rw [Zk hj] at h
     exact A.new j b h
theorem Jaq {i:Nat}{xs ys:List Yce}(h:env[i]? = some (.own xs)):∀ j,Jl (env.set i (.own ys)) σ j=Jl env σ j:=λ j=>by
 unfold Jl
 by_cases hj:i=j
 . subst hj
   rw [Q4 (Qr.mp h).1,h]
   cases (σ[i]?).join with
   | none=>rfl
   | some v=>cases v<;>rfl
 . rw [Q2 hj]
theorem At.re (A:At C ex env σ H n) {i:Nat}{xs ys:List Yce}{ws:List V}{a:Addr}(h:env[i]? = some (.own xs)) (hs:(σ[i]?).join=some (.ref a)) (r:Reps ex H ys ws) (hz:ws.length<=sizeLine) :
 At C ex (env.set i (.own ys)) σ (upd H a (.lst ws)) n:=by
 have ha:a∈Jl env σ i:=by unfold Jl;rw [h,hs];exact Qm.mpr rfl
 obtain ⟨h1,h2,h3⟩:=Wx A.ev ha
 have h0:=A.new i a ha
 have kx:Kp ex H (upd H a (.lst ws)):=Kp.at h2 _
 refine ⟨⟨by rw [Xh];exact A.ev.len,λ j w e=>?_,A.ev.ch,λ b hb=>?_,C.S.keep A.ev.inv λ b hb o e=>by rw [Ji (λ z=>h3 (by rw [<- z];exact hb))];exact e⟩,A.ex0,A.al0,λ j k b q1 q2=>?_,λ j b q=>?_,Kp.late A.kp h0 _,λ x hx=>(A.held x hx).keep kx⟩
 . by_cases hj:i=j
   . subst hj
     rw [Q4 (Qr.mp h).1] at e
     cases e
     exact ⟨a,ws,hs,Jh,hz,r.keep kx,h2,h3⟩
   . rw [Q2 hj] at e
     exact SlR.upd h2 (λ b hb z=>hj (A.sep i j a ha (by rw [Vy e,<- z];exact hb))) (A.ev.sl j w e)
 . by_cases hb2:b=a
   . rw [hb2,Jh];intro z;cases z
   . rw [Ji hb2];exact A.ev.al b hb
 . rw [Jaq h] at q1 q2;exact A.sep j k b q1 q2
 . rw [Jaq h] at q;exact A.new j b q
inductive Fz:List Vl->List Vl->Prop
 | refl {env:List Vl}:Fz env env
 | fz {env env':List Vl} (i:Nat) (xs:List Yce) (h:env[i]? = some (.own xs)) (t:Fz (env.set i (.d (.list xs))) env'):Fz env env'
 | jnk {env env':List Vl} (i:Nat) (t:Fz (env.set i .jnk) env'):Fz env env'
 | fz2 {env env':List Vl} (i:Nat) (ps:List (Addr×List Yce)) (h:env[i]? = some (.own2 none ps)) (t:Fz (env.set i (.d (.list (ps.map λ p=>.list p.2)))) env'):Fz env env'
 | fzh {env env':List Vl} (i:Nat) (ps:List (Addr×List Yce)) (h:env[i]? = some (.own2 none ps)) (t:Fz (env.set i (.own (ps.map λ p=>.list p.2))) env'):Fz env env'
theorem At.fz1 (A:At C ex env σ H n) {i:Nat}{xs:List Yce}(h:env[i]? = some (.own xs)):∃ ex',At C ex' (env.set i (.d (.list xs))) σ H n:=by
 obtain ⟨a,vs,e,h1,h2,h3,h4,h5⟩:=A.ev.sl i _ h
 have ha:a∈Jl env σ i:=by unfold Jl;rw [h,e];exact Qm.mpr rfl
 have hsub:∀ b∈ex.filter (λ b=>decide (b≠a)),b∈ex:=λ b hb=>(Q6.mp hb).1
 have hin:∀ b∈ex,b≠a->b∈ex.filter (λ b=>decide (b≠a)):=λ b hb hn=>Q6.mpr ⟨hb,decide_eq_true hn⟩
 have hn:a∉ex.filter (λ b=>decide (b≠a)):=λ z=>(of_decide_eq_true (Q6.mp z).2) rfl
 have oo:∀ j b,b∈Jl (env.set i (.d (.list xs))) σ j->b∈Jl env σ j/\b≠a:=λ j b hb=>by
  by_cases hj:i=j
  . subst hj
    unfold Jl at hb
    rw [Q4 (Qr.mp h).1] at hb
    cases hb
  . have:Jl (env.set i (.d (.list xs))) σ j=Jl env σ j:=by unfold Jl;rw [Q2 hj]
    rw [this] at hb
    exact ⟨hb,λ z=>hj (A.sep i j a ha (by rw [<- z];exact hb))⟩
 refine ⟨ex.filter λ b=>decide (b≠a),⟨by rw [Xh];exact A.ev.len,λ j w ew=>?_,λ b hb=>hin b (A.ev.ch b hb) λ z=>h5 (by rw [<- z];exact hb),λ b hb=>A.ev.al b (hsub b hb),A.ev.inv⟩,λ b hb=>hin b (A.ex0 b hb) λ z=>?_,A.al0,λ j k b q1 q2=>A.sep j k b (oo j b q1).1 (oo k b q2).1,λ j b q=>A.new j b (oo j b q).1,A.kp,λ x hx=>Rep.mono hsub (A.held x hx)⟩
 . by_cases hj:i=j
   . subst hj
     rw [Q4 (Qr.mp h).1] at ew
     cases ew
     exact ⟨_,e,.list h1 hn h2 (Reps.mono hsub h3)⟩
   . rw [Q2 hj] at ew
     have q:=A.ev.sl j w ew
     have ne:∀ b∈Jl [w] [(σ[j]?).join] 0,b≠a:=λ b hb z=>hj (A.sep i j a ha (by rw [Vy ew,<- z];exact hb))
     cases w with
     | jnk=>trivial
     | jar=>exact q
     | tape=>exact q
     | d x=>obtain ⟨v,e,r⟩:=q;exact ⟨v,e,Rep.mono hsub r⟩
     | pin v x=>obtain ⟨e,r⟩:=q;exact ⟨e,Rep.mono hsub r⟩
     | own ys=>obtain ⟨b,ws,e,g1,g2,g3,g4,g5⟩:=q;exact ⟨b,ws,e,g1,g2,Reps.mono hsub g3,hin b g4 (ne b (by rw [e];exact Qd)),g5⟩
     | dct kvs=>obtain ⟨b,ws,e,g1,⟨g2,g3⟩,g4,g5⟩:=q;exact ⟨b,ws,e,g1,⟨g2,Reps.mono hsub g3⟩,hin b g4 (ne b (by rw [e];exact Qd)),g5⟩
     | own2 ks ps=>obtain ⟨b,e,q⟩:=q;exact ⟨b,e,q.h,q.z,q.k,q.nd,hin b q.m (ne b (by rw [e];exact Qd)),q.c,λ p hp=>let w:=q.i p hp;⟨hin p.1 w.m (ne p.1 (by rw [e];exact Qh _ (Ql.mpr ⟨p,hp,rfl⟩))),w.c,let ⟨vs,h1,h2,h3⟩:=w.h;⟨vs,h1,h2,Reps.mono hsub h3⟩⟩⟩
 . subst z
   exact A.al0 b hb (A.new i b ha)
theorem At.fz2 (A:At C ex env σ H n) {i:Nat}{ps:List (Addr×List Yce)}(h:env[i]? = some (.own2 none ps)):∃ ex',At C ex' (env.set i (.d (.list (ps.map λ p=>.list p.2)))) σ H n:=by
 obtain ⟨a,e,o⟩:=A.ev.sl i _ h
 have hL:∀ b∈a::ps.map (·.1),b∈Jl env σ i:=λ b hb=>by unfold Jl;rw [h,e];exact hb
 have hsub:∀ b∈ex.filter (λ b=>decide (b∉a::ps.map (·.1))),b∈ex:=λ b hb=>(Q6.mp hb).1
 have hin:∀ b∈ex,b∉a::ps.map (·.1)->b∈ex.filter (λ b=>decide (b∉a::ps.map (·.1))):=λ b hb hn=>Q6.mpr ⟨hb,decide_eq_true hn⟩
 have hn:∀ b∈a::ps.map (·.1),b∉ex.filter (λ b=>decide (b∉a::ps.map (·.1))):=λ b hb z=>(of_decide_eq_true (Q6.mp z).2) hb
 have hc:∀ b∈a::ps.map (·.1),b∉C.S.ch:=λ b hb=>by
  rcases Qg.mp hb with rfl | hb
  . exact o.c
  . obtain ⟨p,hp,rfl⟩:=Ql.mp hb;exact (o.i p hp).c
 have oo:∀ j b,b∈Jl (env.set i (.d (.list (ps.map λ p=>.list p.2)))) σ j->b∈Jl env σ j/\b∉a::ps.map (·.1):=λ j b hb=>by
  by_cases hj:i=j
  . subst hj
    unfold Jl at hb
    rw [Q4 (Qr.mp h).1] at hb
    cases hb
  . have:Jl (env.set i (.d (.list (ps.map λ p=>.list p.2)))) σ j=Jl env σ j:=by unfold Jl;rw [Q2 hj]
    rw [this] at hb
    exact ⟨hb,λ z=>hj (A.sep i j b (hL b z) hb)⟩
 refine ⟨ex.filter λ b=>decide (b∉a::ps.map (·.1)),⟨by rw [Xh];exact A.ev.len,λ j w ew=>?_,λ b hb=>hin b (A.ev.ch b hb) λ z=>hc b z hb,λ b hb=>A.ev.al b (hsub b hb),A.ev.inv⟩,λ b hb=>hin b (A.ex0 b hb) λ z=>?_,A.al0,λ j k b q1 q2=>A.sep j k b (oo j b q1).1 (oo k b q2).1,λ j b q=>A.new j b (oo j b q).1,A.kp,λ x hx=>Rep.mono hsub (A.held x hx)⟩
 . by_cases hj:i=j
   . subst hj
     rw [Q4 (Qr.mp h).1] at ew
     cases ew
     refine ⟨_,e,.list o.h (hn a Qd) (by unfold Y4;rw [Qb,Ycl];have:=o.z;omega) ?_⟩
     have:∀ qs:List (Addr×List Yce),(∀ q∈qs,q∈ps)->Reps (ex.filter λ b=>decide (b∉a::ps.map (·.1))) H (qs.map λ p=>X7 p.2) (Y4 qs):=by
      intro qs
      induction qs with
      | nil=>exact λ _=>.nil
      | cons q qs ih=>
       intro hq
       have hm:=hq q Qd
       obtain ⟨vs,g1,g2,g3⟩:=(o.i q hm).h
       exact .cons (.list g1 (hn q.1 (Qh _ (Ql.mpr ⟨q,hm,rfl⟩))) g2 (Reps.mono hsub g3)) (ih λ x hx=>hq x (Qh _ hx))
     exact this ps λ _ h=>h
   . rw [Q2 hj] at ew
     have q:=A.ev.sl j w ew
     have ne:∀ b∈Jl [w] [(σ[j]?).join] 0,b∉a::ps.map (·.1):=λ b hb z=>hj (A.sep i j b (hL b z) (by rw [Vy ew];exact hb))
     cases w with
     | jnk=>trivial
     | jar=>exact q
     | tape=>exact q
     | d x=>obtain ⟨v,e,r⟩:=q;exact ⟨v,e,Rep.mono hsub r⟩
     | pin v x=>obtain ⟨e,r⟩:=q;exact ⟨e,Rep.mono hsub r⟩
     | own ys=>obtain ⟨b,ws,e,g1,g2,g3,g4,g5⟩:=q;exact ⟨b,ws,e,g1,g2,Reps.mono hsub g3,hin b g4 (ne b (by rw [e];exact Qd)),g5⟩
     | dct kvs=>obtain ⟨b,ws,e,g1,⟨g2,g3⟩,g4,g5⟩:=q;exact ⟨b,ws,e,g1,⟨g2,Reps.mono hsub g3⟩,hin b g4 (ne b (by rw [e];exact Qd)),g5⟩
     | own2 ks qs=>obtain ⟨b,e,q⟩:=q;exact ⟨b,e,q.h,q.z,q.k,q.nd,hin b q.m (ne b (by rw [e];exact Qd)),q.c,λ p hp=>let w:=q.i p hp;⟨hin p.1 w.m (ne p.1 (by rw [e];exact Qh _ (Ql.mpr ⟨p,hp,rfl⟩))),w.c,let ⟨vs,h1,h2,h3⟩:=w.h;⟨vs,h1,h2,Reps.mono hsub h3⟩⟩⟩
 . exact A.al0 b hb (A.new i b (hL b z))
theorem At.fzh (A:At C ex env σ H n) {i:Nat}{ps:List (Addr×List Yce)}(h:env[i]? = some (.own2 none ps)):∃ ex',At C ex' (env.set i (.own (ps.map λ p=>.list p.2))) σ H n:=by
 obtain ⟨a,e,o⟩:=A.ev.sl i _ h
 have hL:∀ b∈ps.map (·.1),b∈Jl env σ i:=λ b hb=>by unfold Jl;rw [h,e];exact Qh _ hb
 have hsub:∀ b∈ex.filter (λ b=>decide (b∉ps.map (·.1))),b∈ex:=λ b hb=>(Q6.mp hb).1
 have hin:∀ b∈ex,b∉ps.map (·.1)->b∈ex.filter (λ b=>decide (b∉ps.map (·.1))):=λ b hb hn=>Q6.mpr ⟨hb,decide_eq_true hn⟩
 have hn:∀ b∈ps.map (·.1),b∉ex.filter (λ b=>decide (b∉ps.map (·.1))):=λ b hb z=>(of_decide_eq_true (Q6.mp z).2) hb
 have hc:∀ b∈ps.map (·.1),b∉C.S.ch:=λ b hb=>by
  obtain ⟨p,hp,rfl⟩:=Ql.mp hb;exact (o.i p hp).c
 have ha:a∈Jl env σ i:=by unfold Jl;rw [h,e];exact Qd
 have hna:a∉ps.map (·.1):=(Xm.mp o.nd).1
 have oo:∀ j b,b∈Jl (env.set i (.own (ps.map λ p=>.list p.2))) σ j->b∈Jl env σ j/\b∉ps.map (·.1):=λ j b hb=>by
  by_cases hj:i=j
  . subst hj
    unfold Jl at hb
    rw [Q4 (Qr.mp h).1,e] at hb
    have hb':b=a:=Qm.mp hb
    rw [hb']
    exact ⟨ha,hna⟩
  . have:Jl (env.set i (.own (ps.map λ p=>.list p.2))) σ j=Jl env σ j:=by unfold Jl;rw [Q2 hj]
    rw [this] at hb
    exact ⟨hb,λ z=>hj (A.sep i j b (hL b z) hb)⟩
 refine ⟨ex.filter λ b=>decide (b∉ps.map (·.1)),⟨by rw [Xh];exact A.ev.len,λ j w ew=>?_,λ b hb=>hin b (A.ev.ch b hb) λ z=>hc b z hb,λ b hb=>A.ev.al b (hsub b hb),A.ev.inv⟩,λ b hb=>hin b (A.ex0 b hb) λ z=>?_,A.al0,λ j k b q1 q2=>A.sep j k b (oo j b q1).1 (oo k b q2).1,λ j b q=>A.new j b (oo j b q).1,A.kp,λ x hx=>Rep.mono hsub (A.held x hx)⟩
 . by_cases hj:i=j
   . subst hj
     rw [Q4 (Qr.mp h).1] at ew
     cases ew
     refine ⟨a,Y4 ps,e,o.h,by unfold Y4;rw [Qb,Ycl];have:=o.z;omega,?_,hin a o.m hna,o.c⟩
     have:∀ qs:List (Addr×List Yce),(∀ q∈qs,q∈ps)->Reps (ex.filter λ b=>decide (b∉ps.map (·.1))) H (qs.map λ p=>X7 p.2) (Y4 qs):=by
      intro qs
      induction qs with
      | nil=>exact λ _=>.nil
      | cons q qs ih=>
       intro hq
       have hm:=hq q Qd
       obtain ⟨vs,g1,g2,g3⟩:=(o.i q hm).h
       exact .cons (.list g1 (hn q.1 (Ql.mpr ⟨q,hm,rfl⟩)) g2 (Reps.mono hsub g3)) (ih λ x hx=>hq x (Qh _ hx))
     exact this ps λ _ h=>h
   . rw [Q2 hj] at ew
     have q:=A.ev.sl j w ew
     have ne:∀ b∈Jl [w] [(σ[j]?).join] 0,b∉ps.map (·.1):=λ b hb z=>hj (A.sep i j b (hL b z) (by rw [Vy ew];exact hb))
     cases w with
     | jnk=>trivial
     | jar=>exact q
     | tape=>exact q
     | d x=>obtain ⟨v,e,r⟩:=q;exact ⟨v,e,Rep.mono hsub r⟩
     | pin v x=>obtain ⟨e,r⟩:=q;exact ⟨e,Rep.mono hsub r⟩
     | own ys=>obtain ⟨b,ws,e,g1,g2,g3,g4,g5⟩:=q;exact ⟨b,ws,e,g1,g2,Reps.mono hsub g3,hin b g4 (ne b (by rw [e];exact Qd)),g5⟩
     | dct kvs=>obtain ⟨b,ws,e,g1,⟨g2,g3⟩,g4,g5⟩:=q;exact ⟨b,ws,e,g1,⟨g2,Reps.mono hsub g3⟩,hin b g4 (ne b (by rw [e];exact Qd)),g5⟩
     | own2 ks qs=>obtain ⟨b,e,q⟩:=q;exact ⟨b,e,q.h,q.z,q.k,q.nd,hin b q.m (ne b (by rw [e];exact Qd)),q.c,λ p hp=>let w:=q.i p hp;⟨hin p.1 w.m (ne p.1 (by rw [e];exact Qh _ (Ql.mpr ⟨p,hp,rfl⟩))),w.c,let ⟨vs,h1,h2,h3⟩:=w.h;⟨vs,h1,h2,Reps.mono hsub h3⟩⟩⟩
 . exact A.al0 b hb (A.new i b (hL b z))
theorem At.jnk (A:At C ex env σ H n) (i:Nat):At C ex (env.set i .jnk) σ H n:=by
 have oo:∀ j b,b∈Jl (env.set i .jnk) σ j->b∈Jl env σ j:=λ j b hb=>by
  by_cases hj:i=j
  . subst hj
    unfold Jl at hb
    by_cases hl:i<env.length
    . rw [Q4 hl] at hb;cases hb
    . rw [Xt (by rw [Xh];omega)] at hb;cases hb
  . have:Jl (env.set i .jnk) σ j=Jl env σ j:=by unfold Jl;rw [Q2 hj]
    rw [this] at hb
    exact hb
 refine A.bind ⟨by rw [Xh];exact A.ev.len,λ j w e=>?_,A.ev.ch,A.ev.al,A.ev.inv⟩ oo
 by_cases hj:i=j
 . subst hj
   have hl:i<env.length:=by
    have:=(Qr.mp e).1
    rw [Xh] at this;exact this
   rw [Q4 hl] at e
   cases e
   trivial
 . rw [Q2 hj] at e
   exact A.ev.sl j w e
theorem At.fz {env':List Vl}(f:Fz env env'):∀ {ex:List Addr},At C ex env σ H n->∃ ex',At C ex' env' σ H n:=by
 induction f with
 | refl=>exact λ A=>⟨_,A⟩
 | fz i xs h t ih=>exact λ A=>let ⟨_,B⟩:=A.fz1 h;ih B
 | jnk i t ih=>exact λ A=>ih (A.jnk i)
 | fz2 i ps h t ih=>exact λ A=>let ⟨_,B⟩:=A.fz2 h;ih B
 | fzh i ps h t ih=>exact λ A=>let ⟨_,B⟩:=A.fzh h;ih B
end
section
variable {te ta:TE}{ge ga:GE}{gn:GN}{t u tb:TS}{gt gu gb:GS}{i j:Nat}{K:Qc}
instance sv_next:SV Jy8 (λ G env n=>G.nx env n):=⟨λ {C G D} O {ex env σ H n} A h=>O.nx A h⟩
instance sv_never:SV Jti (λ _ _ _=>False):=⟨λ {C G D} O {ex env σ H n} A h=>h⟩
abbrev J1k (t u:GS):GS:=λ G env n=>t { G with nx:=λ env1 n1=>∃ env2,Fz env1 env2/\u G env2 n1 } env n
instance sv_seq [T:SV t gt] [U:SV u gu]:SV (Joe t u) (J1k gt gu):=⟨λ {C G D} O {ex env σ H n} A h=>by
 refine T.sv (C:=C) (G:={ G with nx:=λ env1 n1=>∃ env2,Fz env1 env2/\gu G env2 n1 }) (D:={ D with nx:=u D }) ⟨λ {ex1 env1 σ1 H1 n1} A1 h1=>?_,O.bk,O.ct,O.rt,O.rtn,O.xc,O.r2⟩ A h
 obtain ⟨env2,f,h2⟩:=h1
 obtain ⟨ex2,A2⟩:=A1.fz f
 exact U.sv O A2 h2⟩
abbrev J41 (i:Nat) (g:GE):GS:=λ G env n=>g env n λ d n1=>G.nx (env.set i (.d d)) n1
abbrev Jzw (i:Nat) (g:GN):GS:=λ G env n=>g env n λ ds n1=>G.nx (env.set i (.own ds)) n1
instance sv_setN [E:NV te gn]:SV (Jcf te (W6 i)) (Jzw i gn):=⟨λ {C G D} O {ex env σ H n} A h=>E.nv A.ev h λ ds n1 a vs H1 h1 s1 ha hl hz r=>O.nx (A.own s1 ha hl hz r) h1⟩
instance (priority:=low) sv_set [E:EV true te ge]:SV (Jcf te (W6 i)) (J41 i ge):=⟨λ {C G D} O {ex env σ H n} A h=>E.ev A.ev h λ d n1 v H1 h1 s1 r=>O.nx ((A.step s1).put r) h1⟩
instance sv_setC {wi:TI}{k:Nat}{idx:List Nat}{g:TG}{tt:TT} [E:NV (Je9 wi k idx g tt te) gn]:SV (Jbn i wi k idx g tt te) (Jzw i gn):=⟨λ {C G D} O {ex env σ H n} A h=>
 show Je9 wi k idx g tt te σ H (λ v H2=>D.nx (σ.set i (some v)) H2) from E.nv A.ev h λ ds n1 a vs H1 h1 s1 ha hl hz r=>O.nx (A.own s1 ha hl hz r) h1⟩
abbrev J42 (bd:GG) (g:GE):GS:=λ G env n=>g env n λ d n1=>bd d env λ env1=>G.nx env1 n1
instance (priority:=low) sv_asg {g:TG}{bd:GG}{ks:List Nat} [E:EV true te ge] [B:GV g bd ks]:SV (Jcf te g) (J42 bd ge):=⟨λ {C G D} O {ex env σ H n} A h=>E.ev A.ev h λ d n1 v H1 h1 s1 r=>
 B.gv (A.step s1).ev r h1 λ env' σ' p E' o _ _=>O.nx ((A.step s1).bind E' o) p⟩
abbrev J3n (g:GE):GS:=λ G env n=>g env n λ d n1=>G.rt d n1
abbrev J3o (g:GN):GS:=λ G env n=>g env n λ ds n1=>G.rtn ds n1
abbrev Jzx (i:Nat):GS:=λ G env n=>match env[i]? with
 | some (.d x)=>G.rt x n
 | some (.own xs)=>G.rtn xs n
 | _=>False
instance (priority:=low) sv_ret [E:EV true te ge]:SV (Jrb te) (J3n ge):=⟨λ {C G D} O {ex env σ H n} A h=>E.ev A.ev h λ d n1 v H1 h1 s1 r=>O.rt ⟨(A.step s1).kp,s1.2,Rep.mono A.ex0 r⟩ h1⟩
instance sv_retN [E:NV te gn]:SV (Jrb te) (J3o gn):=⟨λ {C G D} O {ex env σ H n} A h=>E.nv A.ev h λ ds n1 a vs H1 h1 s1 ha hl hz r=>
 O.rtn ⟨(A.step s1).kp,s1.2,A.free ha,vs,hl,hz,Reps.mono (λ b hb=>(Qg.mp hb).elim (λ e=>by rw [e];exact Qd) λ h=>Qh _ (A.ex0 b h)) r⟩ h1⟩
instance (priority:=high) sv_retV:SV (Jrb (Zv i)) (Jzx i):=⟨λ {C G D} O {ex env σ H n} A h=>by
 unfold Jzx at h
 split at h
 . rename_i x e
   obtain ⟨v,ev,r⟩:=A.ev.sl i _ e
   exact ⟨v,Jj ev,O.rt ⟨A.kp,A.ev.inv,Rep.mono A.ex0 r⟩ h⟩
 . rename_i xs e
   obtain ⟨a,vs,ev,h1,h2,h3,h4,h5⟩:=A.ev.sl i _ e
   have ha:a∈Jl env σ i:=by unfold Jl;rw [e,ev];exact Qm.mpr rfl
   obtain ⟨ex',A'⟩:=A.fz1 e
   obtain ⟨v',ev',r'⟩:=A'.ev.sl i _ (Q4 (Qr.mp e).1)
   rw [ev] at ev'
   cases ev'
   have:=A.new i a ha
   refine ⟨_,Jj ev,O.rtn ⟨A.kp,A.ev.inv,this,vs,h1,h2,Reps.mono (λ b hb=>?_) h3⟩ h⟩
   rcases Qg.mp hb with rfl | hb
   . exact h4
   . exact A.ex0 b hb
 . exact h.elim⟩
abbrev J43 (c:GT) (t u:GS):GS:=λ G env n=>c env n λ b n1=>if b=true then t G env n1 else u G env n1
instance sv_if {c:TT}{gc:GT} [X:TV c gc] [T:SV t gt] [U:SV u gu]:SV (J0h c t u) (J43 gc gt gu):=⟨λ {C G D} O {ex env σ H n} A h=>X.tv A.ev h λ b n1 H1 h1 s1=>by
 cases b with
 | true=>exact T.sv O (A.step s1) h1
 | false=>exact U.sv O (A.step s1) h1⟩
abbrev J44 (gi:GN) (bd:GG) (gb:GS):GS:=λ G env n=>gi env n λ items n1=>∃ W:Nat->List Vl->Nat->Prop,W 0 env n1 /\
 (∀ i x env n,items[i]? = some x->W i env n->bd x env λ env1=>gb { G with nx:=W (i+1),ct:=W (i+1),bk:=G.nx } env1 n)/\∀ env n,W items.length env n->G.nx env n
instance sv_for {wi:TI}{gi:GN}{g:TG}{bd:GG}{ks:List Nat} [I:IV wi gi] [B:GV g bd ks] [T:SV tb gb]:SV (J2m wi g tb) (J44 gi bd gb):=⟨λ {C G D} O {ex env σ H n} A h=>I.iv A.ev h λ items n1 J hd H1 h1 s1 hr hit=>by
 obtain ⟨W,w0,wt,wd⟩:=h1
 have A1:=A.step s1
 have dropd:∀ {ex2 env2 σ2 H2 n2},At { C with held:=hd++C.held } ex2 env2 σ2 H2 n2->At C ex2 env2 σ2 H2 n2:=λ {_ _ _ _ _} B=>⟨B.ev,B.ex0,B.al0,B.sep,B.new,B.kp,λ h hh=>B.held h (Q8 _ hh)⟩
 refine ⟨λ i m σ2 H2=>i<=items.length/\m=items.length-i/\∃ ex2 env2 n2,At { C with held:=hd++C.held } ex2 env2 σ2 H2 n2/\W i env2 n2,⟨_,Q9 _,rfl,ex,env,n1,⟨A1.ev,A1.ex0,A1.al0,A1.sep,A1.new,A1.kp,λ h hh=>(Qz.mp hh).elim (hr h) (A1.held h)⟩,w0⟩,?_⟩
 rintro i m σ2 H2 ⟨hi,rfl,ex2,env2,n2,A2,w2⟩
 have IT:=hit ex2 H2 A2.ev.al λ h hh=>A2.held h (Xu _ hh)
 rcases U8 i items.length with hlt | hge
 . refine .inr ⟨(IT.2 i items[i] (Qx hlt)).1,λ σ' H'=>∃ ex3 env3 n3,At { C with held:=hd++C.held } ex3 env3 σ' H' n3/\W (i+1) env3 n3,λ σ' H' h=>⟨items.length-(i+1),by omega,hlt,rfl,h⟩,λ x H3 y=>?_⟩
   obtain ⟨kp3,rx⟩:=(IT.2 i items[i] (Qx hlt)).2 x H3 y
   have A3:=A2.step (Yy.new A2.ev.inv kp3)
   refine B.gv A3.ev rx (wt i _ env2 n2 (Qx hlt) w2) λ env' σ' p E' o _ _=>?_
   refine T.sv (C:={ C with held:=hd++C.held }) (G:={ G with nx:=W (i+1),ct:=W (i+1),bk:=G.nx }) (D:={ D with nx:=λ σ' H'=>∃ ex3 env3 n3,At { C with held:=hd++C.held } ex3 env3 σ' H' n3/\W (i+1) env3 n3,ct:=λ σ' H'=>∃ ex3 env3 n3,At { C with held:=hd++C.held } ex3 env3 σ' H' n3/\W (i+1) env3 n3,bk:=D.nx }) ⟨λ A4 w4=>⟨_,_,_,A4,w4⟩,λ A4 q4=>O.nx (dropd A4) q4,λ A4 w4=>⟨_,_,_,A4,w4⟩,λ R q=>O.rt ⟨R.kp,R.inv,R.r⟩ q,λ R q=>O.rtn ⟨R.kp,R.inv,R.fr,R.r⟩ q,O.xc,λ R q=>O.r2 ⟨R.kp,R.inv,R.fr,R.frs,R.o⟩ q⟩ (A3.bind E' o) p
 . have e:i=items.length:=by omega
   subst e
   exact .inl ⟨IT.1,O.nx (dropd A2) (wd _ _ w2)⟩⟩
abbrev J1l (c:GT) (gb:GS):GS:=λ G env n=>∃ W:Nat->List Vl->Nat->Prop,(∃ m,W m env n)/\∀ m env n,W m env n->c env n λ b n1=>
 if b=true then gb { G with nx:=λ env1 n2=>∃ m',m'<m/\W m' env1 n2,ct:=λ env1 n2=>∃ m',m'<m/\W m' env1 n2,bk:=G.nx } env n1 else G.nx env n1
instance sv_while {c:TT}{gc:GT} [X:TV c gc] [T:SV tb gb]:SV (Jtn c tb) (J1l gc gb):=⟨λ {C G D} O {ex env σ H n} A h=>by
 obtain ⟨W,⟨m0,w0⟩,wt⟩:=h
 refine ⟨λ m σ2 H2=>∃ ex2 env2 n2,At C ex2 env2 σ2 H2 n2/\W m env2 n2,⟨m0,ex,env,n,A,w0⟩,?_⟩
 rintro m σ2 H2 ⟨ex2,env2,n2,A2,w2⟩
 refine X.tv A2.ev (wt m env2 n2 w2) λ b n3 H3 h3 s3=>?_
 cases b with
 | true=>
  refine Z6 ⟨λ σ' H'=>∃ m',m'<m/\∃ ex2 env2 n2,At C ex2 env2 σ' H' n2/\W m' env2 n2,λ σ' H' h=>h,?_⟩
  exact T.sv (C:=C) (G:={ G with nx:=λ env1 n2=>∃ m',m'<m/\W m' env1 n2,ct:=λ env1 n2=>∃ m',m'<m/\W m' env1 n2,bk:=G.nx }) (D:={ D with nx:=λ σ' H'=>∃ m',m'<m/\∃ ex2 env2 n2,At C ex2 env2 σ' H' n2/\W m' env2 n2,ct:=λ σ' H'=>∃ m',m'<m/\∃ ex2 env2 n2,At C ex2 env2 σ' H' n2/\W m' env2 n2,bk:=D.nx }) ⟨λ A4 ⟨m',hm,w4⟩=>⟨m',hm,_,_,_,A4,w4⟩,λ A4 q4=>O.nx A4 q4,λ A4 ⟨m',hm,w4⟩=>⟨m',hm,_,_,_,A4,w4⟩,O.rt,O.rtn,O.xc,O.r2⟩ (A2.step s3) h3
 | false=>exact Wm (O.nx (A2.step s3) h3)⟩
theorem At.at_own {C:Cv}{ex:List Addr}{env:List Vl}{σ:L2.St}{H:Hp}{n:Nat}(A:At C ex env σ H n) {i:Nat}{xs:List Yce}(e:env[i]? = some (.own xs)):∃ a vs,(σ[i]?).join=some (.ref a)/\H a=some (.lst vs)/\vs.length<=sizeLine/\Reps ex H xs vs:=by
 obtain ⟨a,vs,ev,h1,h2,h3,h4,h5⟩:=A.ev.sl i _ e
 exact ⟨a,vs,ev,h1,h2,h3⟩
abbrev J3p (i:Nat) (g:GE):GS:=λ G env n=>match env[i]? with
 | some (.own xs)=>g env n λ d n1=>xs.length<sizeLine/\G.nx (env.set i (.own (xs++[d]))) n1
 | _=>False
theorem Jdm {C:Cv}{ex:List Addr}{env:List Vl}{σ:L2.St}{H H1:Hp}{n n1:Nat}{i:Nat}{xs:List Yce}{a:Addr}{vs:List V}(A:At C ex env σ H n) (e:env[i]? = some (.own xs)) (ev:(σ[i]?).join=some (.ref a)) (h1:H a=some (.lst vs)) (r:Reps ex H xs vs) (s:Yy C.S n1 H H1):H1 a=some (.lst vs)/\Reps ex H1 xs vs:=by
 have ha:a∈Jl env σ i:=by unfold Jl;rw [e,ev];exact Qm.mpr rfl
 exact ⟨s.1 _ _ h1 (Wx A.ev ha).2.2,A.ev.reps s r⟩
instance sv_app [E:EV true te ge]:SV (Jth (tBM K "list" Jj6 (Zv i) (Zd te Jgc))) (J3p i ge):=⟨λ {C G D} O {ex env σ H n} A h=>by
 unfold J3p at h
 split at h
 . rename_i xs e
   obtain ⟨a,vs,ev,h1,h2,h3⟩:=A.at_own e
   refine ⟨_,Jj ev,.inl ⟨rfl,_,SqL.of h1⟩,E.ev A.ev h λ d n1 v H1 hd s1 r=>?_⟩
   obtain ⟨g1,g2⟩:=Jdm A e ev h1 h3 s1
   have l:=g2.length
   exact ⟨a,vs,v,rfl,rfl,g1,by rw [<- l];exact hd.1,O.nx ((A.step s1).re e ev (Reps.append g2 (.cons r .nil)) (by rw [Qw,Xq,<- l];exact hd.1)) hd.2⟩
 . exact h.elim⟩
theorem len_erase (vs:List V) (k:Nat):(vs.eraseIdx k).length<=vs.length:=by
 rw [List.length_eraseIdx];split<;>omega
theorem Jdn {ex:List Addr}{H:Hp}{d:Yce}{v:V}(r:Rep ex H d v):∀ {ds:List Yce}{vs:List V}(k:Nat),Reps ex H ds vs->Reps ex H (ds.set k d) (vs.set k v)
 | _,_,_,.nil=>.nil
 | _,_,0,.cons _ t=>.cons r t
 | _,_,k+1,.cons q t=>.cons q (Jdn r k t)
abbrev J3q (i:Nat) (gx ge:GE):GS:=λ G env n=>ge env n λ d n1=>match env[i]? with
 | some (.own xs)=>gx env n1 λ k n2=>(match k with
  | .int z=>∃ m,ixN xs.length z=some m/\G.nx (env.set i (.own (xs.set m d))) n2
  | _=>False)
 | _=>False
instance sv_setI {tx:TE}{gx:GE} [E:EV true te ge] [X:EV true tx gx]:SV (Jcf te (Jtl (Zv i) tx Jir)) (J3q i gx ge):=⟨λ {C G D} O {ex env σ H n} A h=>by
 refine E.ev A.ev h λ d n1 v H1 hd s1 r=>?_
 have A1:=A.step s1
 split at hd
 . rename_i xs e
   obtain ⟨a,vs,ev,h1,h2,h3⟩:=A1.at_own e
   refine ⟨_,Jj ev,X.ev A1.ev hd λ k n2 kv H2 hk s2 rk=>?_⟩
   obtain ⟨g1,g2⟩:=Jdm A1 e ev h1 h3 s2
   have l:=g2.length
   cases rk with
   | int z=>
    obtain ⟨m,hm,q⟩:=hk
    exact ⟨a,vs,z,m,rfl,rfl,g1,by rw [<- l];exact hm,O.nx ((A1.step s2).re e ev (Jdn (A1.ev.rep s2 r) m g2) (by rw [Xh];exact h2)) q⟩
   | none=>exact hk.elim
   | bool=>exact hk.elim
   | str=>exact hk.elim
   | tuple=>exact hk.elim
   | list=>exact hk.elim
 . exact hd.elim⟩
abbrev Jzy (i:Nat) (gx ge:GE) (f:Int->Int->Int):GS:=λ G env n=>match env[i]? with
 | some (.own xs)=>gx env n λ k n1=>(match k with
  | .int z=>∃ x:Int,0<=z/\xs[z.toNat]? = some (.int x)/\ge env n1 λ d n2=>(match d with
   | .int y=>G.nx (env.set i (.own (xs.set z.toNat (.int (f x y))))) n2
   | _=>False)
  | _=>False)
 | _=>False
instance sv_augI {tx:TE}{gx:GE}{f:Int->Int->Int} [E:EV true te ge] [X:EV true tx gx]:SV (Jy9 (Zv i) tx te (Jzm K) (ipI f) Jir) (Jzy i gx ge f):=⟨λ {C G D} O {ex env σ H n} A h=>by
 unfold Jzy at h
 split at h
 . rename_i xs e
   obtain ⟨a,vs,ev,h1,h2,h3⟩:=A.at_own e
   refine ⟨_,Jj ev,X.ev A.ev h λ k n1 kv H1 hk s1 rk=>?_⟩
   obtain ⟨g1,g2⟩:=Jdm A e ev h1 h3 s1
   have A1:=A.step s1
   cases rk with
   | int z=>
    obtain ⟨x,hz,hx,q⟩:=hk
    obtain ⟨u,hu,ru⟩:=g2.get hx
    cases ru
    refine ⟨a,vs,z,_,rfl,rfl,hz,SqL.of g1,hu,E.ev A1.ev q λ d n2 v H2 hd s2 r=>?_⟩
    obtain ⟨f1,f2⟩:=Jdm A1 e ev g1 g2 s2
    have l:=f2.length
    have hlt:=(Qr.mp hu).1
    cases r with
    | int y=>exact ⟨x,y,rfl,rfl,a,vs,z,z.toNat,rfl,rfl,f1,Vm hz (by omega),O.nx ((A1.step s2).re e ev (Jdn (.int _) _ f2) (by rw [Xh];exact h2)) hd⟩
    | none=>exact hd.elim
    | bool=>exact hd.elim
    | str=>exact hd.elim
    | tuple=>exact hd.elim
    | list=>exact hd.elim
   | none=>exact hk.elim
   | bool=>exact hk.elim
   | str=>exact hk.elim
   | tuple=>exact hk.elim
   | list=>exact hk.elim
 . exact h.elim⟩
end
theorem Bq.len {S:Src}{ex:List Addr}{H:Hp}:∀ {as:List Vl}{vs:List V},Bq S ex H as vs->as.length=vs.length
 | [],[],_=>rfl
 | _::_,_::_,h=>by rw [Xv,Xv,Bq.len h.2]
 | [],_::_,h=>h.elim
 | _::_,[],h=>h.elim
theorem Bq.get {S:Src}{ex:List Addr}{H:Hp}:∀ {as:List Vl}{vs:List V}{i:Nat}{w:Vl},Bq S ex H as vs->as[i]? = some w->∃ v,vs[i]? = some v/\SlR S ex H w (some v)
 | [],[],_,_,_,e=>by simp at e
 | _::_,v::_,0,_,h,e=>by simp at e;subst e;exact ⟨v,rfl,h.1⟩
 | _::_,_::_,i+1,_,h,e=>by simpa using Bq.get (i:=i) h.2 (by simpa using e)
 | [],_::_,_,_,h,_=>h.elim
 | _::_,[],_,_,h,_=>h.elim
noncomputable def Jg5:Vl->Bool
 | .own _ | .dct _ | .own2 _ _=>false
 | _=>true
noncomputable def Jdo (N:List Str) (as:List Vl):List Vl:=as++Qy (N.length-as.length) .jnk
theorem Jdp {S:Src}{ex:List Addr}{H:Hp}{as:List Vl}{vs:List V}{n:Nat}{N:List Str}(r:Bq S ex H as vs) (hp:as.all Jg5=true) (hc:∀ a∈S.ch,a∈ex) (al:Alc ex H) (iv:S.inv n H):At ⟨S,ex,H,[]⟩ ex (Jdo N as) (start N vs) H n:=by
 have l:=r.len
 have no:∀ i,Jl (Jdo N as) (start N vs) i=[]:=λ i=>by
  unfold Jl Jdo
  cases e:(as++Qy (N.length-as.length) Vl.jnk)[i]? with
  | none=>rfl
  | some w=>
   have:w∈as++Qy (N.length-as.length) Vl.jnk:=Xa e
   have hw:Jg5 w=true:=by
    rcases Qz.mp this with h | h
    . exact Ub.mp hp w h
    . rw [(J75.mp h).2];rfl
   cases w with
   | own _=>cases hw
   | dct _=>cases hw
   | own2 _ _=>cases hw
   | _=>rfl
 refine ⟨⟨?_,λ i w e=>?_,hc,al,iv⟩,λ a h=>h,al,λ i j a h=>?_,λ i a h=>?_,.refl,λ h hh=>by cases hh⟩
 . unfold Jdo L2.start
   rw [Qw,Qw,Uq,Uq,Qb,l];exact Qn _
 . unfold Jdo at e
   by_cases hi:i<as.length
   . rw [J5x hi] at e
     obtain ⟨v,hv,sr⟩:=r.get e
     have:(start N vs)[i]? = some (some v):=by
      unfold L2.start
      rw [J5x (by rw [Qb,<- l];exact hi),Qs,hv];rfl
     rw [this]
     exact sr
   . rw [J5w (J6k hi)] at e
     have:w = .jnk:=(J75.mp (Xa e)).2
     subst this
     trivial
 . rw [no] at h;cases h
 . rw [no] at h;cases h
noncomputable def Jzz (P:Yce->Nat->Prop):VEnds:={ nx:=λ _ n=>P .none n,rt:=P,rtn:=λ ds n=>P (.list ds) n,rt2:=λ xss n=>P (.list (xss.map .list)) n }
noncomputable def Jz0 (P:List Yce->Nat->Prop):VEnds:={ nx:=λ _ _=>False,rt:=λ _ _=>False,rtn:=P }
theorem Jux {C:Cv}{ps:List (Addr×List Yce)}{n:Nat}{a:Addr}{H:Hp}(al:Alc C.ex0 C.H0) (R:Ret2 C ps n a H):Rep C.ex0 H (.list ((ps.map (·.2)).map .list)) (.ref a):=by
 refine .list R.o.h (al.nm R.fr) (by unfold Y4;rw [Qb,Ycl];have:=R.o.z;omega) ?_
 have:∀ qs:List (Addr×List Yce),(∀ q∈qs,q∈ps)->Reps C.ex0 H ((qs.map (·.2)).map .list) (Y4 qs):=by
  intro qs
  induction qs with
  | nil=>exact λ _=>.nil
  | cons q qs ih=>
   intro hq
   have hm:=hq q Qd
   obtain ⟨vs,g1,g2,g3⟩:=(R.o.i q hm).h
   exact .cons (.list g1 (al.nm (R.frs q hm)) g2 (Reps.mono (λ b hb=>Q8 _ hb) g3)) (ih λ x hx=>hq x (Qh _ hx))
 exact this ps λ _ h=>h
theorem J6 {sp:GSp}{gs:GS}{ts:TS}{N:List Str}{vs:List V}{H:Hp}{Q:VK}{E:XK} [T:SV ts gs] (h:Jp sp vs H Q E) (hs:∀ as n P,sp as n P->as.all Jg5=true/\gs (Jzz P) (Jdo N as) n):ts { nx:=λ _ H'=>Q .non H',rt:=Q } (start N vs) H:=by
 obtain ⟨S,ex,as,n,P,r,hc,al,iv,p,q⟩:=h
 obtain ⟨hp,g⟩:=hs as n P p
 refine T.sv (C:=⟨S,ex,H,[]⟩) (G:=Jzz P) ⟨λ {ex' env σ H' n'} A h=>?_,λ _ h=>h.elim,λ _ h=>h.elim,λ R h=>?_,λ {ds n' a H'} R h=>?_,λ _ _ h=>h.elim,λ {ps n' a H'} R h=>?_⟩ (Jdp r hp hc al iv) g
 . exact q _ _ _ _ h ⟨A.kp,A.ev.inv⟩ .none
 . exact q _ _ _ _ h ⟨R.kp,R.inv⟩ R.r
 . obtain ⟨ws,h1,h2,h3⟩:=R.r
   exact q _ _ _ _ h ⟨R.kp,R.inv⟩ (.list h1 (al.nm R.fr) h2 (Reps.sub h3))
 . exact q _ _ _ _ h ⟨R.kp,R.inv⟩ (Jux al R)
theorem Jpa {sp:GSn}{gs:GS}{ts:TS}{N:List Str}{vs:List V}{H:Hp}{Q:VK}{E:XK} [T:SV ts gs] (h:Jck sp vs H Q E) (hs:∀ as n P,sp as n P->as.all Jg5=true/\gs (Jz0 P) (Jdo N as) n):ts { nx:=λ _ H'=>Q .non H',rt:=Q } (start N vs) H:=by
 obtain ⟨S,ex,as,n,P,r,hc,al,iv,p,q⟩:=h
 obtain ⟨hp,g⟩:=hs as n P p
 refine T.sv (C:=⟨S,ex,H,[]⟩) (G:=Jz0 P) ⟨λ _ h=>h.elim,λ _ h=>h.elim,λ _ h=>h.elim,λ _ h=>h.elim,λ {ds n' a H'} R h=>?_,λ _ _ h=>h.elim,λ _ h=>h.elim⟩ (Jdp r hp hc al iv) g
 obtain ⟨ws,h1,h2,h3⟩:=R.r
 exact q _ _ _ _ _ h ⟨R.kp,R.inv⟩ R.fr h1 h2 h3
theorem Ye {sp:GSp}{k:Nat}(h:∀ as n P,sp as n P->as.length=k):∀ vs H Q E,Jp sp vs H Q E->vs.length=k:=λ vs H Q E ⟨S,ex,as,n,P,r,_,_,_,p,_⟩=>by rw [<- r.len];exact h _ _ _ p
theorem Jsf {sp:GSn}{k:Nat}(h:∀ as n P,sp as n P->as.length=k):∀ vs H Q E,Jck sp vs H Q E->vs.length=k:=λ vs H Q E ⟨S,ex,as,n,P,r,_,_,_,p,_⟩=>by rw [<- r.len];exact h _ _ _ p
section
variable {turn:Yce->Nat->(Option Yce->Nat->Prop)->Prop}{items:List Yce}{n:Nat}{Q:List Yce->Nat->Prop}
theorem Jbv (f:Yce->Yce) (h:∀ x∈items,∀ n K,K (some (f x)) n->turn x n K) (q:Q (items.map f) n):Jg2 turn items n Q:=by
 induction items generalizing n Q with
 | nil=>exact q
 | cons x xs ih=>exact h x Qd _ _ (ih (λ y hy=>h y (Qh _ hy)) q)
theorem Juy (R:Yce->Prop) (I:Nat->Prop) (h:∀ x∈items,∀ n K,I n->(∀ y n',R y->I n'->K (some y) n')->turn x n K) (h0:I n) (q:∀ ys n',ys.length=items.length->(∀ y∈ys,R y)->I n'->Q ys n'):Jg2 turn items n Q:=by
 induction items generalizing n Q with
 | nil=>exact q [] n rfl (λ y hy=>by cases hy) h0
 | cons x xs ih=>
  refine h x Qd _ _ h0 λ y n' hy hn=>ih (λ z hz=>h z (Qh _ hz)) hn λ ys n2 hl hr hn2=>q _ _ (by simp [hl]) (λ z hz=>?_) hn2
  rcases Qg.mp hz with rfl | hz
  . exact hy
  . exact hr z hz
end
theorem Fz.eq {a b:List Vl}(h:a=b):Fz a b:=h ▸ .refl
noncomputable abbrev Jbw (ns:List Int):Yce:=.list (ns.map .int)
theorem Juz {S:Src}{ex:List Addr}{H:Hp}{a b:Vl}{vs:List V}(h:Bq S ex H [a,b] vs):∃ u v,vs=[u,v]/\SlR S ex H a (some u)/\SlR S ex H b (some v):=by
 match vs,h with
 | [u,v],h=>exact ⟨u,v,rfl,h.1,h.2.1⟩
 | [],h=>exact h.elim
 | [_],h=>exact h.2.elim
 | _::_::_::_,h=>exact h.2.2.elim
theorem J3r {S:Src}{ex:List Addr}{H:Hp}{a:Vl}{vs:List V}(h:Bq S ex H [a] vs):∃ u,vs=[u]/\SlR S ex H a (some u):=by
 match vs,h with
 | [u],h=>exact ⟨u,rfl,h.1⟩
 | [],h=>exact h.elim
 | _::_::_,h=>exact h.2.elim
def Jcw:GSp:=λ as n Q=>∃ many:Int,as=[.jar,.d (.int many)]/\0<many/\many<2^9000/\∀ r:Int,0<=r->r<many->Q (.int r) n
instance scal_pick:Scal Jcw:=⟨λ {as n P} h=>by
 obtain ⟨many,e,h0,h1,q⟩:=h
 exact ⟨many,e,h0,h1,λ r r0 r1=>⟨rfl,q r r0 r1⟩⟩⟩
theorem Ju0:∀ (vs:List V) (H:Hp) (Q:VK) (E:XK),Jp Jcw vs H Q E->Jki vs H Q E:=λ vs H Q E h=>by
 obtain ⟨S,ex,as,n,P,r,hc,al,iv,⟨many,rfl,h0,h1,q⟩,k⟩:=h
 obtain ⟨u,v,rfl,⟨p,c,rfl,eu⟩,⟨w,ew,rw'⟩⟩:=Juz r
 cases eu
 cases ew
 cases rw'
 obtain ⟨e,J,hn⟩:=iv
 exact ⟨p,c,many,e,rfl,J,h0,h1,λ r H' r0 r1 J' kp=>k _ _ _ _ (q r r0 r1) ⟨kp,⟨e,J',hn⟩⟩ (.int r)⟩
def Jkv:GSp:=λ as n Q=>as=[.jar]/\∀ r:Int,-99<=r->r<=99->Q (.int r) n
instance scal_gain:Scal Jkv:=⟨λ {as n P} h=>⟨h.1,λ r r0 r1=>⟨rfl,h.2 r r0 r1⟩⟩⟩
def Jpb:GSp:=λ as n Q=>∃ mr mw:Int,as=[.jar,.d (.int mr),.d (.int mw)]/\(1<=mr/\mr<=12)/\(0<=mw/\mw<=60)/\∀ (R U:Int) (ws:List Way),BookOk R U ws->(ws.length:Int)<=mw->Q (Jq R U ws) n
theorem Ju1 {ys:List Yce}{A:Int->Prop}(h:∀ y∈ys,∃ i:Int,y = .int i/\A i):∃ ns:List Int,ys=ns.map .int/\∀ i∈ns,A i:=by
 induction ys with
 | nil=>exact ⟨[],rfl,λ i hi=>by cases hi⟩
 | cons y ys ih=>
  obtain ⟨i,rfl,hi⟩:=h y Qd
  obtain ⟨ns,e,hn⟩:=ih λ z hz=>h z (Qh _ hz)
  refine ⟨i::ns,by rw [e];rfl,λ j hj=>?_⟩
  rcases Qg.mp hj with rfl | hj
  . exact hi
  . exact hn j hj
theorem J3s {α:Type}{xs:List α}{i:Int}(h0:0<=i) (h1:i<xs.length):∃ d,atI xs i=some d/\d∈xs:=by
 have hk:i.toNat<xs.length:=by omega
 refine ⟨xs[i.toNat],?_,Uh hk⟩
 unfold atI
 rw [Vm h0 (by omega)]
 exact Qx hk
theorem Jdq {α:Type}{xs:List α}{i:Int}{d:α}(h0:0<=i) (h:xs[i.toNat]? = some d):atI xs i=some d:=by
 have:=(Qr.mp h).1
 unfold atI
 rw [Vm h0 (by omega)]
 exact h
theorem Jsg {ex:List Addr}{H H':Hp}{l:Addr}{ns:List Int}(al:Alc ex H) (hl:H l=none) (h:H' l=some (.lst (ns.map V.int))) (z:ns.length<=1000000):Rep ex H' (Jbw ns) (.ref l):=by
 have hs:sizeLine=16777216:=Ycl
 exact .list h (al.nm hl) (by rw [Qb];omega) (Reps.ints ns)
def Jpc:GSn:=λ as n Q=>∃ (R U:Int) (ws:List Way) (room:Int),as=[.d (Jq R U ws),.d (.int room)]/\ws.length<=60/\Q ((Jao ws room).map .int) n
theorem Jg6 (ws:List Way) (room:Int):(Jao ws room).length<=ws.length:=by
 unfold Jao
 rw [Qb]
 exact Xk (J9a _ _) (by rw [Xi];exact Qn _)
theorem Ju2:∀ (vs:List V) (H:Hp) (Q:VK) (E:XK),Jck Jpc vs H Q E->Jkl vs H Q E:=λ vs H Q E h=>by
 obtain ⟨S,ex,as,n,P,r,hc,al,iv,⟨R,U,ws,room,rfl,hz,q⟩,k⟩:=h
 obtain ⟨u,v,rfl,⟨w,ew,rb⟩,⟨w',ew',rr⟩⟩:=Juz r
 cases ew
 cases ew'
 cases rr
 have hs:sizeLine=16777216:=Ycl
 have:=Jg6 ws room
 exact ⟨ex,R,U,ws,_,room,rfl,rb,λ l H' kp hl hl'=>k _ _ _ _ _ q (Yy.new iv kp) hl hl' (by rw [Qb];omega) (Reps.ints _)⟩
def Jpd:GSp:=λ as n Q=>∃ (R U:Int) (ws:List Way) (first last:Int),as=[.d (Jq R U ws),.d (.int first),.d (.int last)]/\BookOk R U ws/\(0<=first/\first<R)/\Q .none n/\∀ bs:List Int,Pth ws first bs last->bs.length<=12->Q (Jbw bs) n
theorem J3t {S:Src}{ex:List Addr}{H:Hp}{a b c:Vl}{vs:List V}(h:Bq S ex H [a,b,c] vs):∃ u v w,vs=[u,v,w]/\SlR S ex H a (some u)/\SlR S ex H b (some v)/\SlR S ex H c (some w):=by
 match vs,h with
 | [u,v,w],h=>exact ⟨u,v,w,rfl,h.1,h.2.1,h.2.2.1⟩
 | [],h=>exact h.elim
 | [_],h=>exact h.2.elim
 | [_,_],h=>exact h.2.2.elim
 | _::_::_::_::_,h=>exact h.2.2.2.elim
theorem Ju3:∀ (vs:List V) (H:Hp) (Q:VK) (E:XK),Jp Jpd vs H Q E->Jo7 vs H Q E:=λ vs H Q E h=>by
 obtain ⟨S,ex,as,n,P,r,hc,al,iv,⟨R,U,ws,first,last,rfl,ok,hf,q0,q1⟩,k⟩:=h
 obtain ⟨u,v,w,rfl,⟨u',eu,rb⟩,⟨v',ev,rv⟩,⟨w',ew,rw'⟩⟩:=J3t r
 cases eu
 cases ev
 cases ew
 cases rv
 cases rw'
 exact ⟨ex,R,U,ws,_,first,last,rfl,rb,ok,hf,λ H' kp=>k _ _ _ _ q0 (Yy.new iv kp) .none,λ lb bs H' kp hl hl' hp hz=>k _ _ _ _ (q1 bs hp hz) (Yy.new iv kp) (Jsg al hl hl' (by omega))⟩
class SQ (te:TE) (g:outParam GN):Prop where
 sq:∀ {S:Src} {ex:List Addr} {env:List Vl} {σ:L2.St} {H:Hp} {n:Nat} {Q:VK} {P:List Yce->Nat->Prop},Ev S ex env σ H n->g env n P->(∀ ds n' a vs H',P ds n'->Yy S n' H H'->a∉S.ch->H' a=some (.lst vs)->vs.length<=sizeLine->Reps ex H' ds vs->Q (.ref a) H')->te σ H Q
abbrev gSq (i:Nat):GN:=λ env n Q=>match env[i]? with
 | some (.own xs)=>Q xs n
 | some (.d (.list xs))=>Q xs n
 | _=>False
instance (priority:=high) sq_var {i:Nat}:SQ (Zv i) (gSq i):=⟨λ {S ex env σ H n Q P} E h k=>by
 unfold gSq at h
 split at h
 . rename_i xs e
   obtain ⟨a,vs,ev,h1,h2,h3,h4,h5⟩:=E.sl i _ e
   exact ⟨_,Jj ev,k _ _ _ _ _ h (.refl E.inv) h5 h1 h2 h3⟩
 . rename_i xs e
   obtain ⟨v,ev,r⟩:=E.sl i _ e
   cases r with
   | list e1 m z rs=>exact ⟨_,Jj ev,k _ _ _ _ _ h (.refl E.inv) (λ z=>m (E.ch _ z)) e1 z rs⟩
 . exact h.elim⟩
instance sq_nv {te:TE}{g:GN} [A:NV te g]:SQ te g:=⟨λ {S ex env σ H n Q P} E h k=>A.nv E h λ ds n1 a vs H1 h1 s1 ha hl hz r=>k _ _ _ _ _ h1 s1 (λ z=>S.dom E.inv a z ha) hl hz (Reps.sub r)⟩
abbrev J3u (ga gb:GN):GN:=λ env n Q=>ga env n λ xs n1=>gb env n1 λ ys n2=>xs.length+ys.length<=sizeLine/\Q (xs++ys) n2
instance (priority:=high) nv_catS {ta tb:TE}{ga gb:GN} [A:SQ ta ga] [B:SQ tb gb]:NV (tOp J2q ta tb) (J3u ga gb):=⟨λ {S ex env σ H n Q P} E h k=>
 A.sq E h λ xs n1 a vs H1 h1 s1 na ha hz r1=>B.sq (E.step s1) h1 λ ys n2 b us H2 h2 s2 nb hb hz2 r2=>by
  have r1':=(E.step s1).reps s2 r1
  have l1:=r1'.length
  have l2:=r2.length
  refine ⟨a,b,vs,us,rfl,rfl,s2.1 _ _ ha na,hb,by rw [<- l1,<- l2];exact h2.1,λ p hp=>?_⟩
  obtain ⟨c1,c2,c3⟩:=Jbu E (s1.trans s2) hp (Reps.append r1' r2)
  exact k _ _ _ _ _ h2.2 c1 c2 Jh (by rw [Qw,<- l1,<- l2];exact h2.1) c3⟩
abbrev J45 (g:GN) (gl gh:List Vl->Nat->(Option Int->Nat->Prop)->Prop):GN:=λ env n Q=>g env n λ xs n1=>gl env n1 λ lo n2=>gh env n2 λ hi n3=>Q (Jdl xs lo hi) n3
instance (priority:=high) nv_slS {K:Qc}{te:TE}{g:GN}{tl th:TO}{gl gh:List Vl->Nat->(Option Int->Nat->Prop)->Prop} [A:SQ te g] [B:OPV tl gl] [C:OPV th gh]:NV (tSl (J2p K) te tl th) (J45 g gl gh):=⟨λ {S ex env σ H n Q P} E h k=>
 A.sq E h λ xs n1 a vs H1 h1 s1 na ha hz r1=>B.op (E.step s1) h1 λ lo n2 H2 h2 s2=>C.op (E.step (s1.trans s2)) h2 λ hi n3 H3 h3 s3=>by
  have r3:=(E.step s1).reps (s2.trans s3) r1
  refine ⟨a,vs,rfl,SqL.of ((s2.trans s3).1 _ _ ha na),λ p hp=>?_⟩
  obtain ⟨c1,c2,c3⟩:=Jbu E ((s1.trans s2).trans s3) hp (Jmu r3 lo hi)
  exact k _ _ _ _ _ h3 c1 c2 Jh (Xk (By _ _ _) hz) c3⟩
def J3v (d:Yce) (xs:List Yce):Prop:=Xx xs=true/\d.canLay0=true/\min (Um xs) d.depth<=50
def J3w (neg:Bool):R2:=λ x y H Q=>∃ ex d c xs,Rep ex H d x/\Rep ex H c y/\Jfl c=some xs/\J3v d xs/\Q (.bl (if neg then !inD d xs else inD d xs)) H
section
variable {X:Cx}
theorem J1m (hu:X.A.units+64<Ycv):OpR X (compareOp .In) (J3w false):=by
 intro pins s σ H x y v u Q I rx ry h
 obtain ⟨ex,d,c,xs,r1,r2,hs,⟨h1,h2,h3⟩,q⟩:=h
 obtain ⟨as,g1⟩:=r1.reads I.hok rx
 obtain ⟨bs,g2⟩:=r2.reads I.hok ry
 cases c with
 | list ys=>cases hs;exact SeqAt.in_list_reads g2 g1 h1 h2 (by omega) ⟨.bl _,H,I,rfl,q⟩
 | tuple ys=>cases hs;exact SeqAt.in_tuple_reads g2 g1 h1 h2 (by omega) ⟨.bl _,H,I,rfl,q⟩
 | _=>cases hs
end
def J46 (neg:Bool):G2:=λ x y Q=>∃ xs,Jfl y=some xs/\J3v x xs/\Q (.bool (if neg then !inD x xs else inD x xs))
instance os_inD {neg:Bool}:OS (J3w neg) (J46 neg):=⟨λ {H x y dx dy Q P} r1 r2 h k=>by
 obtain ⟨xs,hs,ok,q⟩:=h
 exact ⟨[],dx,dy,xs,r1,r2,hs,ok,k _ _ q λ _=>.bool _⟩⟩
noncomputable def B3:List Yce->List Yce->List Yce->List Yce
 | x::xs,y::ys,z::zs=>.tuple [x,y,z]::B3 xs ys zs
 | _,_,_=>[]
theorem Jjb:∀ {xs ys zs:List Yce}{i:Nat}{d:Yce},(B3 xs ys zs)[i]? = some d->∃ x y z,xs[i]? = some x/\ys[i]? = some y/\zs[i]? = some z/\d = .tuple [x,y,z]
 | [],_,_,_,_,h=>by simp [B3] at h
 | _::_,[],_,_,_,h=>by simp [B3] at h
 | _::_,_::_,[],_,_,h=>by simp [B3] at h
 | x::xs,y::ys,z::zs,0,d,h=>by simp [B3] at h;exact ⟨x,y,z,rfl,rfl,rfl,h.symm⟩
 | x::xs,y::ys,z::zs,i+1,d,h=>by
  obtain ⟨a,b,c,h1,h2,h3,h4⟩:=Jjb (xs:=xs) (ys:=ys) (zs:=zs) (i:=i) (d:=d) (by simpa [B3] using h)
  exact ⟨a,b,c,by simpa using h1,by simpa using h2,by simpa using h3,h4⟩
theorem Jeq:∀ {xs ys zs:List Yce},xs.length=ys.length->ys.length=zs.length->(B3 xs ys zs).length=xs.length
 | [],_,_,_,_=>by simp [B3]
 | _::_,[],_,h,_=>by simp at h
 | _::_,_::_,[],_,h=>by simp at h
 | x::xs,y::ys,z::zs,h,h'=>by rw [B3,Xv,Xv,Jeq (by simpa using h) (by simpa using h')]
abbrev J3x (t:GN):GN:=λ env n Q=>t env n λ ds n1=>∃ d e f xs ys zs,ds=[d,e,f]/\Jfl d=some xs/\Jfl e=some ys/\Jfl f=some zs/\(xs.length=ys.length/\ys.length=zs.length)/\Q (B3 xs ys zs) n1
section
variable {K:Qc}{H:Hp}{ex:List Addr}
theorem Jxp {c c' c'':Bool}{a a' a'':Addr}{vs vs' vs'':List V}{ds es fs:List Yce}(al:Alc ex H) (hl:ds.length=es.length/\es.length=fs.length) (ha:SqK c K H a vs) (r:Reps ex H ds vs) (ha':SqK c' K H a' vs') (r':Reps ex H es vs') (ha'':SqK c'' K H a'' vs'') (r'':Reps ex H fs vs''):ItAt ex (It3 c c' c'' K a a' a'') (B3 ds es fs) H:=by
 refine ⟨⟨vs,vs',vs'',ha,ha',ha'',by rw [Jeq hl.1 hl.2,r.length]⟩,λ i d e=>?_⟩
 obtain ⟨x,y,z,hx,hy,hz,rfl⟩:=Jjb e
 obtain ⟨v,ev,rv⟩:=r.get hx
 obtain ⟨v',ev',rv'⟩:=r'.get hy
 obtain ⟨v'',ev'',rv''⟩:=r''.get hz
 refine ⟨⟨vs,vs',vs'',v,v',v'',ha,ha',ha'',ev,ev',ev''⟩,λ w H' y=>?_⟩
 obtain ⟨p,u,u',u'',hp,rfl,rfl,h1,h2,h3⟩:=y
 have e1:=h1 vs ha
 have e2:=h2 vs' ha'
 have e3:=h3 vs'' ha''
 rw [ev] at e1
 rw [ev'] at e2
 rw [ev''] at e3
 cases e1
 cases e2
 cases e3
 exact ⟨Kp.new hp _,.tuple Jh (al.nm hp) Vp (.cons (rv.keep (Kp.new hp _)) (.cons (rv'.keep (Kp.new hp _)) (.cons (rv''.keep (Kp.new hp _)) .nil)))⟩
instance iv_zip3 {t:TA}{gt:GN} [A:DV true t gt]:IV (Jzj K t) (J3x gt):=⟨λ {S ex env σ H n R P} E h k=>A.dv E h λ ds n1 vs H1 h1 s1 r1=>by
 obtain ⟨d,e,f,xs,ys,zs,rfl,hs,hs',hs'',hl,q⟩:=h1
 cases r1 with
 | cons r1 t=>
  cases t with
  | cons r2 t=>
   cases t with
   | cons r3 t=>
    cases t
    obtain ⟨c,a,ws,rfl,hq,rs,hc,na⟩:=B2 r1 hs
    obtain ⟨c',a',ws',rfl,hq',rs',hc',na'⟩:=B2 r2 hs'
    obtain ⟨c'',a'',ws'',rfl,hq'',rs'',hc'',na''⟩:=B2 r3 hs''
    refine ⟨c,c',c'',a,a',a'',ws,ws',ws'',rfl,hq K,hq' K,hq'' K,k _ _ _ [(d,V.ref a),(e,V.ref a'),(f,V.ref a'')] _ q s1 (λ h hh=>?_) λ ex' H2 al hr=>?_⟩
    . simp only [Qg,Uc,or_false] at hh
      rcases hh with e | e | e
      . rw [e];exact r1
      . rw [e];exact r2
      . rw [e];exact r3
    obtain ⟨v1,h3,h4⟩:=V5 hs hc r1 ex' H2 (hr (d,V.ref a) (by simp))
    obtain ⟨v2,h5,h6⟩:=V5 hs' hc' r2 ex' H2 (hr (e,V.ref a') (by simp))
    obtain ⟨v3,h7,h8⟩:=V5 hs'' hc'' r3 ex' H2 (hr (f,V.ref a'') (by simp))
    exact Jxp al hl (h3 K) h4 (h5 K) h6 (h7 K) h8⟩
end
abbrev J3y (bd bd':GG) (g:GE):GS:=λ G env n=>g env n λ d n1=>bd d env λ env1=>bd' d env1 λ env2=>G.nx env2 n1
instance sv_asg2 {te:TE}{ge:GE}{g g':TG}{bd bd':GG}{ks ks':List Nat} [E:EV true te ge] [B:GV g bd ks] [B':GV g' bd' ks']:SV (Jzi te g g') (J3y bd bd' ge):=⟨λ {C G D} O {ex env σ H n} A h=>E.ev A.ev h λ d n1 v H1 h1 s1 r=>
 B.gv (A.step s1).ev r h1 λ env' σ' p E' o _ _=>B'.gv E' r p λ env2 σ2 p2 E2 o2 _ _=>O.nx (((A.step s1).bind E' o).bind E2 o2) p2⟩
structure Fa where
 len:Int
 a:Int
 b:Int
 g:Nat->Int
 d:Nat->Int
noncomputable def Fa.then (x y:Fa):Fa:=⟨x.len+y.len,x.a,y.b,λ i=>x.g i+y.g i,λ i=>max (x.d i) (y.d i-x.g i)⟩
noncomputable def Fa.pw (f:Fa) (n:Int):Fa:=⟨n*f.len,f.a,f.b,λ i=>n*f.g i,λ i=>f.d i-(n-1)*min (f.g i) 0⟩
noncomputable def Wi (w:Way):Fa:=⟨1,w.a,w.b,λ i=>w.g.getD i 0,λ i=>max 0 (-(w.g.getD i 0))⟩
noncomputable def J4 (f:Fa):List Fa->Fa
 | []=>f
 | x::xs=>J4 (f.then x) xs
noncomputable def W5:List Fa->Fa
 | []=>⟨0,0,0,λ _=>0,λ _=>0⟩
 | x::xs=>J4 x xs
def Jbg {α β:Type}(R:α->β->Prop):List α->List β->Prop
 | [],[]=>True
 | x::xs,y::ys=>R x y/\Jbg R xs ys
 | _,_=>False
theorem Jbg.length {α β:Type}{R:α->β->Prop}:∀ {xs:List α}{ys:List β},Jbg R xs ys->xs.length=ys.length
 | [],[],_=>rfl
 | _::_,_::_,h=>by simp [Jbg.length h.2]
 | [],_::_,h=>h.elim
 | _::_,[],h=>h.elim
theorem Jbg.get {α β:Type}{R:α->β->Prop}:∀ {xs:List α}{ys:List β}{i:Nat}{x:α},Jbg R xs ys->xs[i]? = some x->∃ y,ys[i]? = some y/\R x y
 | [],[],_,_,_,e=>by simp at e
 | _::_,y::_,0,_,h,e=>by simp at e;subst e;exact ⟨y,rfl,h.1⟩
 | _::_,_::_,i+1,_,h,e=>by simpa using Jbg.get (i:=i) h.2 (by simpa using e)
 | [],_::_,_,_,h,_=>h.elim
 | _::_,[],_,_,h,_=>h.elim
theorem Jbg.imp {α β:Type}{R S:α->β->Prop}(hi:∀ x y,R x y->S x y):∀ {xs:List α}{ys:List β},Jbg R xs ys->Jbg S xs ys
 | [],[],_=>trivial
 | _::_,_::_,h=>⟨hi _ _ h.1,Jbg.imp hi h.2⟩
 | [],_::_,h=>h.elim
 | _::_,[],h=>h.elim
def Jg7:List Fa->Prop
 | []=>True
 | [_]=>True
 | x::y::r=>x.b=y.a/\Jg7 (y::r)
noncomputable abbrev Jsh (k:Int):Yce:=.tuple [.str "way",.int k]
noncomputable abbrev Jmv (ds:List Yce):Yce:=.tuple [.str "row",.tuple ds]
noncomputable abbrev Ju4 (n:Int) (d:Yce):Yce:=.tuple [.str "times",.int n,d]
def Td (L:Nat) (M:Int) (ws:List Way):Nat->Yce->Fa->Prop
 | 0,d,f=>∃ k:Int,0<=k/\k<ws.length/\d=Jsh k/\f=Wi (Ja ws k)
 | n+1,d,f=>(∃ k:Int,0<=k/\k<ws.length/\d=Jsh k/\f=Wi (Ja ws k)) \/
  (∃ ds fs,d=Jmv ds/\f=W5 fs/\ds≠[]/\ds.length<=L/\Jbg (Td L M ws n) ds fs/\Jg7 fs) \/
  ∃ (m:Int) (e:Yce) (h:Fa),d=Ju4 m e/\f=h.pw m/\1<=m/\m<=M/\(m=1\/h.a=h.b)/\Td L M ws n e h
theorem Td.way {L:Nat}{M:Int}{ws:List Way}{k:Int}(h0:0<=k) (h1:k<ws.length):∀ n,Td L M ws n (Jsh k) (Wi (Ja ws k))
 | 0=>⟨k,h0,h1,rfl,rfl⟩
 | _+1=>.inl ⟨k,h0,h1,rfl,rfl⟩
theorem Td.up {L:Nat}{M:Int}{ws:List Way}:∀ {n:Nat}{d:Yce}{f:Fa},Td L M ws n d f->Td L M ws (n+1) d f
 | 0,_,_,h=>.inl h
 | n+1,d,f,h=>by
  rcases h with h | ⟨ds,fs,h1,h2,h3,h4,h5,h6⟩ | ⟨m,e,g,h1,h2,h3,h4,h5,h6⟩
  . exact .inl h
  . exact .inr (.inl ⟨ds,fs,h1,h2,h3,h4,h5.imp λ _ _ q=>Td.up q,h6⟩)
  . exact .inr (.inr ⟨m,e,g,h1,h2,h3,h4,h5,Td.up h6⟩)
theorem Td.mono {L:Nat}{M:Int}{ws:List Way}{n m:Nat}{d:Yce}{f:Fa}(h:Td L M ws n d f) (hm:n<=m):Td L M ws m d f:=by
 induction hm with
 | refl=>exact h
 | step _ ih=>exact ih.up
structure Fa.Ok (f:Fa):Prop where
 l:1<=f.len
 d0:∀ i,0<=f.d i
 dg:∀ i,-(f.g i)<=f.d i
theorem Jmw (w:Way):(Wi w).Ok:=⟨Uo 1,λ i=>by simp only [Wi];omega,λ i=>by simp only [Wi];omega⟩
theorem Fa.Ok.then {x y:Fa}(h:x.Ok) (k:y.Ok):(x.then y).Ok:=by
 refine ⟨?_,λ i=>?_,λ i=>?_⟩
 . have:=h.l;have:=k.l;simp only [Fa.then];omega
 . have:=h.d0 i;simp only [Fa.then];omega
 . have:=k.dg i;simp only [Fa.then];omega
theorem Jg8 {f:Fa}(h:f.Ok):∀ {fs:List Fa},(∀ x∈fs,x.Ok)->(J4 f fs).Ok
 | [],_=>h
 | x::xs,hx=>Jg8 (h.then (hx x Qd)) λ y hy=>hx y (Qh _ hy)
theorem Fa.Ok.pw {f:Fa}(h:f.Ok) {m:Int}(hm:1<=m):(f.pw m).Ok:=by
 refine ⟨?_,λ i=>?_,λ i=>?_⟩
 . have:=h.l
   have:0<=(m-1)*f.len:=Uw (by omega) (by omega)
   rw [J5r,U0] at this
   simp only [Fa.pw];omega
 . have:=h.d0 i
   simp only [Fa.pw]
   rcases J6p (f.g i) 0 with hg | hg
   . rw [J9j (by omega)]
     have:=Uw (show 0<=m-1 by omega) (show 0<=-(f.g i) by omega)
     rw [J9k] at this
     omega
   . rw [J9l hg];omega
 . have:=h.dg i
   have:=h.d0 i
   simp only [Fa.pw]
   rcases J6p (f.g i) 0 with hg | hg
   . rw [J9j (by omega),J5r,U0];omega
   . rw [J9l hg]
     have:=Uw (show 0<=m by omega) hg
     omega
theorem Jbg.right {α β:Type}{R:α->β->Prop}{S:β->Prop}(h:∀ x y,R x y->S y):∀ {xs:List α}{ys:List β},Jbg R xs ys->∀ y∈ys,S y
 | [],[],_,y,hy=>by cases hy
 | _::_,z::_,r,y,hy=>by
  rcases Qg.mp hy with rfl | hy
  . exact h _ _ r.1
  . exact Jbg.right h r.2 y hy
 | [],_::_,r,_,_=>r.elim
 | _::_,[],r,_,_=>r.elim
theorem Td.ok {L:Nat}{M:Int}{ws:List Way}:∀ {n:Nat}{d:Yce}{f:Fa},Td L M ws n d f->f.Ok
 | 0,_,_,⟨k,_,_,_,e⟩=>e▸Jmw _
 | n+1,d,f,h=>by
  rcases h with ⟨k,_,_,_,rfl⟩ | ⟨ds,fs,h1,rfl,h3,h4,h5,h6⟩ | ⟨m,e,g,h1,rfl,h3,h4,h5,h6⟩
  . exact Jmw _
  . have hx:=h5.right (S:=Fa.Ok) λ _ _ q=>Td.ok q
    cases fs with
    | nil=>cases ds with
     | nil=>exact absurd rfl h3
     | cons _ _=>exact h5.elim
    | cons x xs=>exact Jg8 (hx x Qd) λ y hy=>hx y (Qh _ hy)
  . exact (Td.ok h6).pw h3
noncomputable def fl (u:Nat) (f:Nat->Int):List Yce:=(Qf u).map λ i=>.int (f i)
theorem Y6 (u:Nat) (f:Nat->Int):(fl u f).length=u:=by unfold fl;rw [Qb,Xi]
theorem Jpe {u:Nat}{f:Nat->Int}{i:Nat}(h:i<u):(fl u f)[i]? = some (.int (f i)):=by
 unfold fl;rw [Qs,Uk h];rfl
theorem Jkw (xs:List Int):xs.map Qo=fl xs.length λ i=>xs.getD i 0:=by
 apply U1
 intro i
 by_cases hi:i<xs.length
 . rw [Jpe hi,Qs,Qx hi,Q3,Qx hi];rfl
 . rw [Xt (by rw [Qb];omega),Xt (by rw [Y6];omega)]
theorem Jg9 (u:Nat) (f g:Nat->Int):Jap (fl u f) (fl u g)=(Qf u).map λ i=>.tuple [.int (f i),.int (g i)]:=by
 unfold Jap fl
 rw [List.zipWith_map]
 induction (Qf u) with
 | nil=>rfl
 | cons x xs ih=>rw [List.zipWith_cons_cons,ih];rfl
theorem Jxq (u:Nat) (f g h:Nat->Int):B3 (fl u f) (fl u g) (fl u h)=(Qf u).map λ i=>.tuple [.int (f i),.int (g i),.int (h i)]:=by
 unfold fl
 induction (Qf u) with
 | nil=>rfl
 | cons x xs ih=>rw [Qq,Qq,Qq,B3,ih];rfl
theorem Jcx {a b:Int}(ha:a.natAbs<2^9000) (hb:b.natAbs<2^9000):Yde a b:=by
 have la:a.natAbs.log2<9000:=by
  by_cases h:a.natAbs=0
  . rw [h];decide
  . exact (J82 h).mpr ha
 have lb:b.natAbs.log2<9000:=by
  by_cases h:b.natAbs=0
  . rw [h];decide
  . exact (J82 h).mpr hb
 unfold Yde
 intro h
 rw [Xg,Xg] at h
 have h3:=h.2
 have e1:J76 a<=9001:=by unfold J76;split<;>omega
 have e2:J76 b<=9001:=by unfold J76;split<;>omega
 have hbl:20000<=bitsLine:=by decide +kernel
 unfold Builtin.Int.intTooBig at h3
 simp at h3
 omega
structure Fa.Lt (f:Fa) (Z:Int):Prop where
 l:f.len<=Z
 g0:∀ i,-Z<=f.g i
 g1:∀ i,f.g i<=Z
 d:∀ i,f.d i<=Z
theorem Fa.Lt.mono {f:Fa}{Y Z:Int}(h:f.Lt Y) (hz:Y<=Z):f.Lt Z:=⟨J6j h.l hz,λ i=>by have:=h.g0 i;omega,λ i=>by have:=h.g1 i;omega,λ i=>by have:=h.d i;omega⟩
theorem Fa.Lt.then {x y:Fa}{Y Z:Int}(h:x.Lt Z) (k:y.Lt Y) (hY:0<=Y):(x.then y).Lt (Z+Y):=by
 refine ⟨?_,λ i=>?_,λ i=>?_,λ i=>?_⟩
 . have:=h.l;have:=k.l;simp only [Fa.then];omega
 . have:=h.g0 i;have:=k.g0 i;simp only [Fa.then];omega
 . have:=h.g1 i;have:=k.g1 i;simp only [Fa.then];omega
 . have:=h.d i;have:=k.d i;have:=h.g0 i;simp only [Fa.then];omega
theorem Jha {Y:Int}(hY:0<=Y):∀ {fs:List Fa}{f:Fa}{Z:Int},f.Lt Z->(∀ x∈fs,x.Lt Y)->(J4 f fs).Lt (Z+fs.length*Y)
 | [],f,Z,h,_=>by simpa [J4] using h
 | x::xs,f,Z,h,hx=>by
  have:=Jha hY (h.then (hx x Qd) hY) λ y hy=>hx y (Qh _ hy)
  refine this.mono ?_
  rw [Xv]
  have:((xs.length+1:Nat):Int)*Y=(xs.length:Int)*Y+Y:=by rw [J77,J59];simp
  omega
theorem Fa.Lt.pw {f:Fa}{Y m:Int}(h:f.Lt Y) (ho:f.Ok) (hm:1<=m) (hY:0<=Y):(f.pw m).Lt (m*Y):=by
 have key:∀ {x:Int},x<=Y->m*x<=m*Y:=λ h=>J78 h (by omega)
 refine ⟨key h.l,λ i=>?_,λ i=>key (h.g1 i),λ i=>?_⟩
 . have:=key (x:=-(f.g i)) (by have:=h.g0 i;omega)
   rw [J9k] at this
   simp only [Fa.pw];omega
 . have h1:=h.d i
   simp only [Fa.pw]
   rcases J6p (f.g i) 0 with hg | hg
   . rw [J9j (by omega)]
     have:=J78 (show -(f.g i)<=Y by have:=h.g0 i;omega) (show 0<=m-1 by omega)
     rw [J9k] at this
     have e:(m-1)*Y=m*Y-Y:=by rw [J5r,U0]
     omega
   . rw [J9l hg]
     have:=key (x:=Y) (Uo _)
     have:Y<=m*Y:=by
      have:=Uw (show 0<=m-1 by omega) hY
      rw [J5r,U0] at this
      omega
     omega
noncomputable def XB:Nat->Int
 | 0=>99
 | n+1=>10^100*XB n
theorem Jhb:∀ n,0<=XB n
 | 0=>by decide
 | n+1=>Uw (by decide +kernel) (Jhb n)
theorem Ju5 {n:Nat}(h:n<=20):(XB n).natAbs<2^8000:=(show ∀ n,n<21->(XB n).natAbs<2^8000 by decide +kernel) n (by omega)
abbrev TD (ws:List Way) (n:Nat) (d:Yce) (f:Fa):Prop:=Td 2000 (10^100-1) ws n d f
theorem Jmx {R U:Int}{w:Way}(h:WayOk R U w):(Wi w).Lt 99:=by
 have key:∀ i,-99<=w.g.getD i 0/\w.g.getD i 0<=99:=λ i=>by
  rw [Q3]
  cases e:w.g[i]? with
  | none=>simp
  | some x=>exact h.small x (Xa e)
 refine ⟨by simp only [Wi];omega,λ i=>(key i).1,λ i=>(key i).2,λ i=>?_⟩
 have:=key i
 simp only [Wi];omega
theorem Yd {ws:List Way}{k:Int}(h0:0<=k) (h1:k<ws.length):Ja ws k∈ws:=by
 unfold Ja
 rw [Q3,Qx (by omega)]
 exact Uh _
theorem TD.lt {R U:Int}{ws:List Way}(ok:BookOk R U ws):∀ {n:Nat}{d:Yce}{f:Fa},TD ws n d f->f.Lt (XB n)
 | 0,_,_,⟨k,h0,h1,_,e⟩=>e▸Jmx (ok.ways _ (Yd h0 h1))
 | n+1,d,f,h=>by
  have hX:=Jhb n
  have hbig:XB n<=XB (n+1):=by
   have:0<=(10^100-1)*XB n:=Uw (by decide +kernel) hX
   rw [J5r,U0] at this
   show XB n<=10^100*XB n
   omega
  rcases h with ⟨k,h0,h1,_,rfl⟩ | ⟨ds,fs,h1,rfl,h3,h4,h5,h6⟩ | ⟨m,e,g,h1,rfl,h3,h4,h5,h6⟩
  . refine (Jmx (ok.ways _ (Yd h0 h1))).mono (J6j ?_ hbig)
    clear hbig hX
    induction n with
    | zero=>decide
    | succ n ih=>
     have:0<=(10^100-1)*XB n:=Uw (by decide +kernel) (Jhb n)
     rw [J5r,U0] at this
     show 99<=10^100*XB n
     omega
  . have hx:=h5.right (S:=λ f=>f.Lt (XB n)) λ _ _ q=>TD.lt ok q
    have hl:=h5.length
    cases fs with
    | nil=>cases ds with
     | nil=>exact absurd rfl h3
     | cons _ _=>exact h5.elim
    | cons x xs=>
     refine (Jha hX (hx x Qd) λ y hy=>hx y (Qh _ hy)).mono ?_
     show XB n+(xs.length:Int)*XB n<=10^100*XB n
     rw [Xv] at hl
     have e:XB n+(xs.length:Int)*XB n=(1+(xs.length:Int))*XB n:=by rw [J59,U0]
     rw [e]
     exact J7p (by have:(2000:Int)<=10^100:=by decide +kernel
                   omega) hX
  . refine ((TD.lt ok h6).pw h6.ok h3 hX).mono ?_
    show m*XB n<=10^100*XB n
    exact J7p (by omega) hX
theorem Jjc {x:Int}{n:Nat}(hn:n<=20) (h0:-(XB n)<=x) (h1:x<=XB n):x.natAbs<2^9000:=by
 have h:=Ju5 hn
 have hp:=Jhb n
 have:x.natAbs<=(XB n).natAbs:=by omega
 exact J6y this (Nat.lt_trans h (Nat.pow_lt_pow_right (by decide) (by decide)))
theorem Jfd {m:Int}(h0:0<=m) (h1:m<=10^100):m.natAbs<2^9000:=by
 have h2:(m.natAbs:Int)<=((10^100:Nat):Int):=by rw [Yau h0];exact_mod_cast h1
 have h3:m.natAbs<=10^100:=by exact_mod_cast h2
 exact J6y h3 (by decide +kernel)
theorem Jdr {s:Str}{Q:Yce->Prop}(h:Q (.bool true)):fEq false (.str s) (.str s) Q:=by
 unfold fEq
 simp only [eqS,decide_true]
 exact h
theorem Jds {s t:Str}{Q:Yce->Prop}(hne:¬ s=t) (h:Q (.bool false)):fEq false (.str s) (.str t) Q:=by
 unfold fEq
 simp only [eqS,decide_eq_false hne]
 exact h
theorem Jer:¬ (("row":Str) = "way"):=by decide +kernel
theorem Jbx:¬ (("times":Str) = "way"):=by decide +kernel
theorem Jfe:¬ (("times":Str) = "row"):=by decide +kernel
theorem Jmy:¬ (("row":Str) = "times"):=by decide +kernel
theorem Jhc {β:Type}{turn:Yce->Nat->(Option Yce->Nat->Prop)->Prop}{n:Nat}{R:Yce->β->Prop}{g:β->Yce}:∀ {items:List Yce}{ys:List β}{Q:List Yce->Nat->Prop},Jbg R items ys->(∀ x y,R x y->∀ n K,K (some (g y)) n->turn x n K)->Q (ys.map g) n->Jg2 turn items n Q
 | [],[],_,_,_,q=>q
 | x::xs,y::ys,Q,hr,h,q=>h x y hr.1 _ _ (Jhc hr.2 h q)
 | [],_::_,_,hr,_,_=>hr.elim
 | _::_,[],_,hr,_,_=>hr.elim
noncomputable def Wa:Fa:=⟨0,0,0,λ _=>0,λ _=>0⟩
theorem Jdt (f:Fa):∀ (fs:List Fa) (x:Fa),J4 f (fs++[x])=(J4 f fs).then x
 | [],x=>rfl
 | y::ys,x=>Jdt (f.then y) ys x
theorem Jes:∀ (fs:List Fa) (f:Fa),(J4 f fs).a=f.a
 | [],f=>rfl
 | y::ys,f=>Jes ys (f.then y)
theorem Jjd:∀ (fs:List Fa) (f:Fa),(J4 f fs).b=(fs.getLastD f).b
 | [],f=>rfl
 | [y],f=>rfl
 | y::z::ys,f=>by
  have:=Jjd (z::ys) (f.then y)
  show (J4 (f.then y) (z::ys)).b=_
  rw [this]
  rfl
theorem Jff:∀ (fs:List Fa) (f:Fa),(J4 f fs).len=f.len+(fs.map (·.len)).sum
 | [],f=>by simp [J4]
 | y::ys,f=>by
  show (J4 (f.then y) ys).len=_
  rw [Jff ys]
  simp only [Fa.then,Qq,Xz]
  omega
theorem Jhd {fs:List Fa}:(W5 fs).len=(fs.map (·.len)).sum:=by
 cases fs with
 | nil=>rfl
 | cons x xs=>simp only [W5,Qq,Xz];rw [Jff]
theorem Jfg (c:Int):∀ (fs:List Fa) (f:Fa),J4 { f with a:=c } fs = { J4 f fs with a:=c }
 | [],f=>rfl
 | y::ys,f=>Jfg c ys (f.then y)
theorem Jsi {fs:List Fa}(hne:fs≠[]) (h:∀ x∈fs,x.Ok):(J4 Wa fs).g=(W5 fs).g/\(J4 Wa fs).d=(W5 fs).d:=by
 cases fs with
 | nil=>exact absurd rfl hne
 | cons x xs=>
  have e:Wa.then x = { x with a:=0 }:=by
   have:=(h x Qd).d0
   obtain ⟨l,a,b,g,d⟩:=x
   simp only [Wa,Fa.then,Fa.mk.injEq]
   refine ⟨by omega,trivial,trivial,by funext i;omega,?_⟩
   funext i
   have:0<=d i:=this i
   omega
  show (J4 (Wa.then x) xs).g=(J4 x xs).g/\(J4 (Wa.then x) xs).d=(J4 x xs).d
  rw [e,Jfg]
  exact ⟨rfl,rfl⟩
def Jqq (m:Nat):GSp:=λ as n Q=>∃ (R U:Int) (ws:List Way) (d:Yce) (f:Fa),as=[.d d]/\BookOk R U ws/\TD ws m d f/\m<=20/\Q (.int f.len) n
instance scal_len {m:Nat}:Scal (Jqq m):=⟨λ {as n P} h=>by
 obtain ⟨R,U,ws,d,f,h1,h2,h3,h4,q⟩:=h
 exact ⟨R,U,ws,d,f,h1,h2,h3,h4,rfl,q⟩⟩
def Jkx (m:Nat):GSp:=λ as n Q=>∃ (R U:Int) (ws:List Way) (d:Yce) (f:Fa),as=[.d (Jq R U ws),.d d]/\BookOk R U ws/\TD ws m d f/\m<=20/\Q (.tuple [.int f.a,.int f.b]) n
noncomputable def Wt (f:Fa):Yce:=.tuple [.int f.a,.int f.b]
def Jet:GSp:=λ as n Q=>∃ fs:List Fa,as=[.d (.list (fs.map Wt))]/\fs≠[]/\fs.length<=2000/\Jg7 fs/\Q (Wt (W5 fs)) n
noncomputable abbrev Zg (U:Int) (f:Nat->Int):Yce:=.tuple (fl U.toNat f)
def Jfw:GSp:=λ as n Q=>∃ (U:Int) (f g:Nat->Int),as=[.d (Zg U f),.d (Zg U g)]/\U<=6/\Q (Zg U λ i=>f i+g i) n
def Jpf:GSp:=λ as n Q=>∃ (U:Int) (f:Fa) (m:Int),as=[.d (Zg U f.g),.d (Zg U f.d),.d (.int m)]/\U<=6/\(∀ i,(f.g i).natAbs<2^9000)/\(0<=m/\m<=10^100)/\Q (.tuple [Zg U (f.pw m).g,Zg U (f.pw m).d]) n
def Ju6 (m:Nat):GSp:=λ as n Q=>∃ (R U:Int) (ws:List Way) (d:Yce) (f:Fa),as=[.d (Jq R U ws),.d d]/\BookOk R U ws/\TD ws m d f/\m<=20/\Q (.tuple [Zg U f.g,Zg U f.d]) n
def Jky (m:Nat):GSp:=λ as n Q=>∃ (R U:Int) (ws:List Way) (d:Yce) (f:Fa),as=[.d (Jq R U ws),.d d]/\BookOk R U ws/\TD ws m d f/\m<=20/\Q (Zg U f.g) n
def Jkz (m:Nat):GSp:=λ as n Q=>∃ (R U:Int) (ws:List Way) (d:Yce) (f:Fa),as=[.d (Jq R U ws),.d d]/\BookOk R U ws/\TD ws m d f/\m<=20/\Q (Zg U f.d) n
theorem Vb {ws:List Way}{k:Int}(h0:0<=k) (h1:k<ws.length):atI (ws.map Zx) k=some (Zx (Ja ws k)):=by
 refine Jdq h0 ?_
 rw [Qs,Qx (by omega)]
 unfold Ja
 rw [Q3,Qx (by omega)]
 rfl
theorem Jqr {α:Type}{xs:List α}{x:α}(h:xs≠[]) (e:xs.getLast? = some x):atI xs (-1)=some x:=by
 have hl:0<xs.length:=J65.mpr h
 unfold atI ixN
 rw [if_neg (by omega),if_pos (by omega)]
 show xs[(-1+(xs.length:Int)).toNat]? = some x
 rw [show (-1+(xs.length:Int)).toNat=xs.length-1 by omega,<- List.getLast?_eq_getElem?]
 exact e
theorem Jk0 {α:Type}{x:α}{xs:List α}:atI (x::xs) 0=some x:=by
 refine Jdq (Uo 0) rfl
theorem J47 {xs:List Yce}:Jdl xs (some 1) none=xs.drop 1:=Jb8 xs 1
theorem Ju7:∀ fs:List Fa,Xx (fs.map Wt)=true
 | []=>rfl
 | f::fs=>by rw [Qq,Xx,Ju7 fs];rfl
theorem Ju8:∀ fs:List Fa,inD .none (fs.map Wt)=false
 | []=>rfl
 | f::fs=>by
  have:=Ju8 fs
  unfold inD at this ⊢
  rw [Qq,Ur,this];rfl
theorem Jje:∀ {fs:List Fa},Jg7 fs->∀ x∈Jap (fs.map Wt) ((fs.map Wt).drop 1),∃ a b:Fa,x = .tuple [Wt a,Wt b]/\a.b=b.a
 | [],_,x,h=>by simp [Jap] at h
 | [f],_,x,h=>by simp [Jap] at h
 | f::g::r,hl,x,h=>by
  have e:Jap ((f::g::r).map Wt) (((f::g::r).map Wt).drop 1) = .tuple [Wt f,Wt g]::Jap ((g::r).map Wt) (((g::r).map Wt).drop 1):=rfl
  rw [e] at h
  rcases Qg.mp h with rfl | h
  . exact ⟨f,g,rfl,hl.1⟩
  . exact Jje hl.2 x h
theorem Br (xs ys:List Yce):(Jap xs ys).length=min xs.length ys.length:=by unfold Jap;exact Ybf
theorem Ju9 {α:Type}(xs:List α):(xs.map λ _=>true).all id=true:=by
 rw [J9f];exact Ub.mpr λ _ _=>rfl
theorem Jmz {fs:List Fa}{f:Fa}:((f::fs).map Wt).getLast? = some (Wt (fs.getLastD f)):=by
 rw [Ybg,List.getLast?_cons,Ya5];rfl
theorem Jpg {f:Fa}{fs:List Fa}:(W5 (f::fs)).a=f.a:=Jes fs f
theorem Jph {f:Fa}{fs:List Fa}:(W5 (f::fs)).b=(fs.getLastD f).b:=Jjd fs f
theorem Jsj {R U:Int}{w:Way}(h:WayOk R U w):w.g.map Qo=fl U.toNat (Wi w).g:=by
 rw [Jkw]
 have:=h.len
 rw [show w.g.length=U.toNat by omega]
 rfl
theorem J3z (U:Int):(Qy U.toNat [Qo 0]).flatten=fl U.toNat λ _=>0:=by
 unfold fl
 induction U.toNat with
 | zero=>rfl
 | succ n ih=>rw [List.replicate_succ',Uv,Qu,List.flatten_append,ih];rfl
theorem Jva {x y:Int}:(if y>x then y else x)=max x y:=by
 by_cases h:y>x
 . rw [if_pos h];omega
 . rw [if_neg h];omega
theorem Y7 {turn:Yce->Nat->(Option Yce->Nat->Prop)->Prop}{u n:Nat}{Q:List Yce->Nat->Prop}{e:Nat->Yce}(f:Nat->Yce) (h:∀ i,i<u->∀ n K,K (some (f i)) n->turn (e i) n K) (q:Q ((Qf u).map f) n):Jg2 turn ((Qf u).map e) n Q:=by
 have key:∀ (l:List Nat) (n:Nat) (Q:List Yce->Nat->Prop),(∀ i∈l,i<u)->Q (l.map f) n->Jg2 turn (l.map e) n Q:=by
  intro l
  induction l with
  | nil=>intro n Q _ q;exact q
  | cons x xs ih=>intro n Q hl q;exact h x (hl x Qd) _ _ (ih _ _ (λ i hi=>hl i (Qh _ hi)) q)
 exact key _ _ _ (λ i hi=>Xj.mp hi) q
theorem Jm0 {c:Bool}{A B:Prop}(h:c=true) (a:A):if c=true then A else B:=by rw [if_pos h];exact a
theorem Jhe {c:Bool}{A B:Prop}(h:c=false) (b:B):if c=true then A else B:=by rw [if_neg (by rw [h];exact Q7)];exact b
theorem J30 {i j:Int}{Q:Yce->Prop}(h:Q (.bool (decide (i=j)))):fEq false (.int i) (.int j) Q:=h
theorem Jvb {i j:Int}{Q:Yce->Prop}(h:Q (.bool (!decide (i=j)))):fEq true (.int i) (.int j) Q:=h
noncomputable def B4 (ws:List Way) (bs:List Int):List Fa:=bs.map λ k=>Wi (Ja ws k)
theorem Jz1 {ws:List Way}{b:Int}:∀ {bs:List Int}{f:Fa},Pth ws f.b bs b->(J4 f (B4 ws bs)).b=b
 | [],_,h=>h
 | k::r,f,h=>Jz1 (bs:=r) (f:=f.then (Wi (Ja ws k))) h.2.2
theorem Jjf {ws:List Way}{b:Int}:∀ {bs:List Int}{f:Fa},Pth ws f.b bs b->Jg7 (f::B4 ws bs)
 | [],_,_=>trivial
 | k::r,f,h=>⟨h.2.1.symm,Jjf (bs:=r) (f:=Wi (Ja ws k)) h.2.2⟩
theorem Jqs {L:Nat}{M:Int}{ws:List Way}{n:Nat}:∀ {bs:List Int},InW ws bs->Jbg (Td L M ws n) (bs.map Jsh) (B4 ws bs)
 | [],_=>trivial
 | k::r,h=>⟨Td.way (h k Qd).1 (h k Qd).2 n,Jqs λ j hj=>h j (Qh _ hj)⟩
theorem Jm1 (ns:List Int):J3c (Jbw ns) (.list []):=⟨by rw [Uj];exact W2 ns,rfl,Xk (J6w _ _) (by decide)⟩
theorem Jm2 (ns:List Int):Ua (Jbw ns) (.list [])=ns.isEmpty:=by cases ns<;>rfl
theorem Jvc {ns:List Int}{Q:Yce->Prop}(h1:ns≠[]->Q (.bool true)) (h2:ns=[]->Q (.bool false)):Jgy true (Jbw ns) (.list []) Q:=by
 refine ⟨Jm1 ns,?_⟩
 rw [Jm2]
 cases ns with
 | nil=>exact h2 rfl
 | cons _ _=>exact h1 (by simp)
theorem Jxr (w:Way):Uj (Zx w)=true:=by
 simp [Zx,Uj,Xx,W2]
theorem Jm3:∀ ws:List Way,Xx (ws.map Zx)=true
 | []=>rfl
 | w::ws=>by rw [Qq,Xx,Jxr,Jm3 ws];rfl
theorem Jxs {ns:List Int}{z:Int}(h0:0<=z) (h1:z<ns.length):∃ k,atI (ns.map Qo) z=some (.int k)/\k∈ns:=by
 have hk:z.toNat<ns.length:=by omega
 exact ⟨ns[z.toNat],Jdq h0 (by rw [Qs,Qx hk];rfl),Uh hk⟩
theorem Jm4 {ws:List Way}:∀ ks:List Int,((B4 ws ks).map (·.len)).sum=ks.length
 | []=>rfl
 | k::ks=>by
  have:=Jm4 (ws:=ws) ks
  unfold B4 at this ⊢
  rw [Qq,Qq,Xz,this]
  simp only [Wi,Xv]
  omega
noncomputable def Jvd:VEnds:={ nx:=λ _ _=>False,rt:=λ d _=>d = .bool true,rtn:=λ _ _=>False }
theorem Jsk {K:Qc}{N:List Str}{vs:List V}{H:Hp}{Q:VK}{E E':XK}{rest:TS}{gs:GS} [T:SV rest gs] (hN:2<=N.length) (h:Jml K vs H Q E) (hs:gs Jvd (.jnk :: .jar::Qy (N.length-2) .jnk) 0) :
 Joe (Jcf (Jch (Jqd K) [] E' (Zd (Zv 0) Jgc)) (W6 1)) rest { nx:=λ _ H'=>Q .non H',rt:=Q } (L2.start N vs) H:=by
 obtain ⟨a,ns,rfl,hS,hlen,q⟩:=h
 have est:L2.start N [V.ref a]=some (V.ref a)::none::Qy (N.length-2) none:=by
  unfold L2.start
  rw [show N.length-[V.ref a].length=(N.length-2)+1 by simp;omega]
  rfl
 rw [est]
 refine ⟨_,rfl,a,ns,rfl,hS,hlen,λ p c H1 k1 _ _ J=>?_⟩
 have al:Alc [p,c] H1:=λ b hb z=>J.fresh z hb
 have no:∀ i,Jl (.jnk :: .jar::Qy (N.length-2) .jnk) (some (V.ref a)::some (V.ref p)::Qy (N.length-2) none) i=[]:=λ i=>by
  unfold Jl
  cases e:((.jnk :: .jar::Qy (N.length-2) .jnk:List Vl))[i]? with
  | none=>rfl
  | some w=>
   have hm:=Xa e
   have:w = .jnk\/w = .jar:=by
    rcases Qg.mp hm with h | h
    . exact .inl h
    . rcases Qg.mp h with h | h
      . exact .inr h
      . exact .inl (J75.mp h).2
   rcases this with rfl | rfl<;>rfl
 refine T.sv (C:=⟨Src.jar p c,[p,c],H1,[]⟩) (G:=Jvd) ⟨λ _ h=>h.elim,λ _ h=>h.elim,λ _ h=>h.elim,λ {d n v H'} R h=>?_,λ _ h=>h.elim,λ _ _ h=>h.elim,λ _ h=>h.elim⟩ (ex:=[p,c]) (env:=.jnk :: .jar::Qy (N.length-2) .jnk) (σ:=some (V.ref a)::some (V.ref p)::Qy (N.length-2) none) ⟨⟨?_,λ i w e=>?_,λ b h=>h,al,J.n⟩,λ b h=>h,al,λ i j b h=>?_,λ i b h=>?_,.refl,λ x hx=>by cases hx⟩ hs
 . cases h
   have r:=R.r
   cases r
   exact q _
 . simp
 . match i with
   | 0=>cases e;trivial
   | 1=>cases e;exact ⟨p,c,rfl,rfl⟩
   | i+2=>
    have:w = .jnk:=(J75.mp (Xa (by simpa using e))).2
    subst this
    trivial
 . rw [no] at h;cases h
 . rw [no] at h;cases h
end My
namespace L2
section
variable {X:Cx}{x:Str}{e:Expr}{es:List Expr}{p pos:Pos}{t:TA}{k:Nat}{ps:List Str}{sp:Sp}{i:Int}
end
end L2
namespace My
open L2
theorem J48 {t u:GS}{G:VEnds}{env:List Vl}{n:Nat}(Mid:List Vl->Nat->Prop) (h1:∀ N:List Vl->Nat->Prop,(∀ e k,Mid e k->N e k)->t { G with nx:=N } env n) (h2:∀ e k,Mid e k->∃ e2,Fz e e2/\u G e2 k):J1k t u G env n:=h1 _ h2
abbrev GSx:=List Vl->Nat->(Yce->Nat->Prop)->(Addr->Nat->Prop)->Prop
def Jfh (sp:GSx):Sp:=λ vs H Q E=>∃ (S:Src) (ex:List Addr) (as:List Vl) (n:Nat) (P:Yce->Nat->Prop) (X:Addr->Nat->Prop),Bq S ex H as vs/\(∀ a∈S.ch,a∈ex)/\Alc ex H/\S.inv n H/\sp as n P X/\(∀ d n' v H',P d n'->Yy S n' H H'->Rep ex H' d v->Q v H')/\∀ c n' H',X c n'->Yy S n' H H'->E (.ref c) none H'
abbrev J1n (sp:GSx) (ga:GA):GE:=λ env n Q=>ga env n λ as n1=>sp as n1 Q λ _ _=>False
instance ev_callX {b:Bool}{sp:GSx}{E':XK}{t:TA}{gt:GA} [A:AV b t gt]:EV b (Jch (Jfh sp) [] E' t) (J1n sp gt):=⟨λ {S ex env σ H n Q P} E h k=>
 A.av E h λ as n1 vs H1 h1 s1 r1=>by
  rw [X5]
  exact ⟨S,exm b S ex,as,n1,_,_,r1,E.sup b,(E.step s1).alm b,s1.2,h1,λ d n' v H' p s2 r=>k _ _ _ _ p (s1.trans s2) r,λ _ _ _ x=>x.elim⟩⟩
abbrev J1o (c:Addr) (E:XK) (gt:GN):GS:=λ G env n=>gt env n λ ds n1=>ds.length<=sizeLine/\G.xc E c n1
instance sv_raise {c:Addr}{E:XK}{t:TA}{gt:GN} [T:DV false t gt]:SV (Jug c E t) (J1o c E gt):=⟨λ {C G D} O {ex env σ H n} A h=>
 T.dv A.ev h λ ds n1 vs H1 h1 s1 r1=>⟨by rw [<- r1.length];exact h1.1,O.xc (A.step s1).kp s1.2 h1.2⟩⟩
noncomputable def Jz2 (E:XK) (P:Yce->Nat->Prop) (X:Addr->Nat->Prop):VEnds:={ nx:=λ _ n=>P .none n,rt:=P,rtn:=λ ds n=>P (.list ds) n,xc:=λ E' c n=>E'=E/\X c n }
theorem Jpi {sp:GSx}{gs:GS}{ts:TS}{N:List Str}{vs:List V}{H:Hp}{Q:VK}{E:XK} [T:SV ts gs] (h:Jfh sp vs H Q E) (hs:∀ as n P X,sp as n P X->as.all Jg5=true/\gs (Jz2 E P X) (Jdo N as) n):ts { nx:=λ _ H'=>Q .non H',rt:=Q } (L2.start N vs) H:=by
 obtain ⟨S,ex,as,n,P,X,r,hc,al,iv,p,q,qx⟩:=h
 obtain ⟨hp,g⟩:=hs as n P X p
 refine T.sv (C:=⟨S,ex,H,[]⟩) (G:=Jz2 E P X) ⟨λ {ex' env σ H' n'} A h=>?_,λ _ h=>h.elim,λ _ h=>h.elim,λ R h=>?_,λ {ds n' a H'} R h=>?_,λ {E' c n' H'} kp iv' h=>?_,λ {ps n' a H'} R h=>h.elim⟩ (Jdp r hp hc al iv) g
 . exact q _ _ _ _ h ⟨A.kp,A.ev.inv⟩ .none
 . exact q _ _ _ _ h ⟨R.kp,R.inv⟩ R.r
 . obtain ⟨ws,h1,h2,h3⟩:=R.r
   exact q _ _ _ _ h ⟨R.kp,R.inv⟩ (.list h1 (al.nm R.fr) h2 (Reps.sub h3))
 . obtain ⟨rfl,x⟩:=h
   exact qx _ _ _ x ⟨kp,iv'⟩
theorem Jsl {sp:GSx}{k:Nat}(h:∀ as n P X,sp as n P X->as.length=k):∀ vs H Q E,Jfh sp vs H Q E->vs.length=k:=λ vs H Q E ⟨S,ex,as,n,P,X,r,_,_,_,p,_,_⟩=>by rw [<- r.len];exact h _ _ _ _ p
noncomputable def putF (f:Nat->Int) (k:Nat) (v:Int):Nat->Int:=λ i=>if i=k then v else f i
theorem J1p (u:Nat) (f:Nat->Int) (k:Nat) (v:Int):(fl u f).set k (.int v)=fl u (putF f k v):=by
 apply U1
 intro i
 unfold fl putF
 rw [List.getElem?_set,Qs,Qs]
 by_cases hk:k=i
 . subst hk
   rw [if_pos rfl,Qb,Xi]
   by_cases hu:k<u
   . rw [if_pos hu,Uk hu]
     simp
   . rw [if_neg hu,Xt (by simp;omega)]
     rfl
 . rw [if_neg hk]
   by_cases hu:i<u
   . rw [Uk hu]
     simp [show ¬ i=k from λ e=>hk e.symm]
   . rw [Xt (by simp;omega)]
     rfl
def Jfx (z:Er) (m:Nat):GSx:=λ as n Q X=>∃ (R U:Int) (ws:List Way) (d:Yce) (f:Fa) (room:Int) (s:Nat->Int),as=[.d (Jq R U ws),.d (.tuple [.int room,Zg U s]),.d d]/\BookOk R U ws/\TD ws m d f/\m<=20/\(room=f.a/\(∀ i,i<U.toNat->f.d i<=s i)->Q (.tuple [.int f.b,Zg U λ i=>s i+f.g i]) n)/\(¬ (room=f.a/\∀ i,i<U.toNat->f.d i<=s i)->X z.way n)
theorem Jhf {u:Nat}{p:Nat->Prop} [∀ i,Decidable (p i)]:((Qf u).map λ i=>decide (p i)).all id=true↔∀ i,i<u->p i:=by
 rw [J9f,Ub]
 constructor
 . intro h i hi
   exact of_decide_eq_true (h i (Xj.mpr hi))
 . intro h i hi
   exact decide_eq_true (h i (Xj.mp hi))
theorem Vc {turn:Yce->Nat->(Option Yce->Nat->Prop)->Prop}{u n:Nat}{Q:List Yce->Nat->Prop}{e:Nat->Yce}(p:Nat->Bool) (f:Nat->Yce) (h:∀ i,i<u->∀ n K,(p i=true->K (some (f i)) n)->(p i=false->K none n)->turn (e i) n K) (q:Q (((Qf u).filter p).map f) n):Jg2 turn ((Qf u).map e) n Q:=by
 have key:∀ (l:List Nat) (n:Nat) (Q:List Yce->Nat->Prop),(∀ i∈l,i<u)->Q ((l.filter p).map f) n->Jg2 turn (l.map e) n Q:=by
  intro l
  induction l with
  | nil=>intro n Q _ q;exact q
  | cons x xs ih=>
   intro n Q hl q
   refine h x (hl x Qd) _ _ (λ hp=>?_) (λ hp=>?_)
   . rw [Ybh hp] at q
     exact ih _ _ (λ i hi=>hl i (Qh _ hi)) q
   . rw [Ybi (by rw [hp];exact Q7)] at q
     exact ih _ _ (λ i hi=>hl i (Qh _ hi)) q
 exact key _ _ _ (λ i hi=>Xj.mp hi) q
abbrev J31 (K:Qc) (c:Addr) (sp:GSx) (ga:GA) (gh:GS):GS:=λ G env n=>ga env n λ as n1=>sp as n1 (λ _ n2=>G.nx env n2) λ k n2=>J6n K (.ref k) (.ref c)=some true/\gh G env n2
instance sv_tryN {K:Qc}{c:Addr}{sp:GSx}{t:TA}{gt:GA}{ts:TS}{gh:GS} [T:AV true t gt] [S:SV ts gh]:SV (Jzl K c (Jui (Jfh sp) t) ts) (J31 K c sp gt gh):=⟨λ {C G D} O {ex env σ H n} A h=>by
 refine T.av A.ev h λ as n1 vs H1 h1 s1 r1=>?_
 refine ⟨C.S,ex,as,n1,_,_,r1,A.ev.ch,(A.step s1).ev.al,s1.2,h1,λ d n' v H' p s2 r=>O.nx (A.step (s1.trans s2)) p,λ k n' H' x s2=>?_⟩
 exact ⟨k,rfl,x.1,S.sv O (A.step (s1.trans s2)) x.2⟩⟩
noncomputable abbrev Jve (room U:Int) (s:Nat->Int):Yce:=.tuple [.int room,Zg U s]
def Jk1:GSp:=λ as n Q=>∃ (x:Int),as=[.d (.int x)]/\Q (.bool true) n
def Jz3:G2:=λ x y Q=>match x,y with
 | .tuple xs,.tuple ys=>xs.length+ys.length<=sizeLine/\Q (.tuple (xs++ys))
 | _,_=>False
instance ov_catD {K:Qc}:OV (Jzk K) Jz3:=⟨λ {ex H x y dx dy Q P} al r1 r2 h k=>by
 unfold Jz3 at h
 split at h
 . obtain ⟨h2,h3⟩:=h
   cases r1 with
   | tuple e1 n1 z1 rs=>
    cases r2 with
    | tuple e2 n2 z2 rs2=>
     have l1:=rs.length
     have l2:=rs2.length
     refine ⟨_,_,_,_,rfl,rfl,SqT.of e1,SqT.of e2,by rw [<- l1,<- l2];exact h2,λ z=>?_,λ _ z=>?_,λ _ _ p hp=>k _ _ _ h3 (Kp.new hp _) (.tuple Jh (al.nm hp) (by rw [Qw,<- l1,<- l2];exact h2) ((rs.append rs2).keep (Kp.new hp _)))⟩
     . subst z
       cases rs
       exact k _ _ _ h3 .refl (.tuple e2 n2 z2 rs2)
     . subst z
       cases rs2
       rw [X5] at h3
       exact k _ _ _ h3 .refl (.tuple e1 n1 z1 rs)
 . exact h.elim⟩
theorem Jeu {x:Yce}{Q:Yce->Prop}(h:x.canLay0=true) (hd:x.depth<=50) (q:Q (.bool false)):Jgy true x x Q:=⟨⟨h,h,Xk (Nat.min_le_left _ _) hd⟩,by rw [PySem.SeqAt.eqv_refl _ h];exact q⟩
theorem Jsm (u:Nat) (f:Nat->Int):fl u f=((Qf u).map f).map .int:=by unfold fl;rw [Q0];rfl
theorem Jm5 (U:Int) (f:Nat->Int):(Zg U f).canLay0=true:=by
 unfold Zg
 rw [Jsm]
 exact Jkp _
theorem J1q (u:Nat) (f:Nat->Int):Um (fl u f)=0:=by
 unfold fl
 induction (Qf u) with
 | nil=>rfl
 | cons x xs ih=>rw [Qq,Um,ih];rfl
theorem Jhg (U:Int) (f:Nat->Int):(Zg U f).depth=1:=by rw [J5s,J1q]
theorem neF {U:Int}{f:Nat->Int}{Q:Yce->Prop}(q:Q (.bool false)):Jgy true (Zg U f) (Zg U f) Q:=Jeu (Jm5 U f) (by rw [Jhg];decide) q
theorem J49 {a U:Int}{f:Nat->Int}{Q:Yce->Prop}(q:Q (.bool false)):Jgy true (Jve a U f) (Jve a U f) Q:=Jeu (by
 rw [Uj,Xx,Xx,Xx,Jm5];rfl) (by rw [J5s,Um,Um,Um,Jhg,show (Qo a).depth=0 from rfl];decide) q
theorem J1r (u:Nat) (f:Nat->Int) (p:Nat) (v:Int) (h:p<u):(fl u f).take p++[Qo v]++(fl u f).drop (p+1)=fl u (putF f p v):=by
 rw [<- J1p,List.set_eq_take_append_cons_drop,if_pos (by rw [Y6];exact h)]
 simp
theorem Jxt {k i:Nat}{y:Yce}(h:(Jg1 0 k)[i]? = some y):i<k/\y = .int i:=by
 have hi:=(Qr.mp h).1
 rw [Y5] at hi
 refine ⟨hi,?_⟩
 unfold Jg1 at h
 rw [Qs,Uk hi] at h
 cases h
 simp
abbrev J5a (g:GE):GT:=λ env n Q=>g env n λ d n1=>match d with
 | .list xs=>Q (!xs.isEmpty) n1
 | .tuple xs=>Q (!xs.isEmpty) n1
 | _=>False
theorem Jhh {ex:List Addr}{H:Hp}{ds:List Yce}{vs:List V}(r:Reps ex H ds vs):ds.isEmpty=vs.isEmpty:=by
 cases r<;>rfl
def J32 (K:Qc) (te:TE):TT:=λ σ H Q=>te σ H λ x H'=>∃ k,J0n K x H' k/\Q k H'
theorem Jvf {X:Cx}{a:Expr}{ta:TE}(ha:PE X a ta) (he:∀ whole,isTrue a X.env whole=(do let v <- whole;Yc3 a.pos;Ycs [v] (truthy v))):PT X a (J32 X.K ta):=Jtu ha he
instance tv_tru {K:Qc}{te:TE}{g:GE} [A:EV false te g]:TV (J32 K te) (J5a g):=⟨λ {S ex env σ H n Q P} E h k=>A.ev E h λ d n1 v H1 h1 s1 r1=>by
 cases r1 with
 | list e m z rs=>exact ⟨_,.inl ⟨_,SqL.of e,rfl⟩,by rw [<- Jhh rs];exact k _ _ _ h1 s1⟩
 | tuple e m z rs=>exact ⟨_,.inr (.inl ⟨_,SqT.of e,rfl⟩),by rw [<- Jhh rs];exact k _ _ _ h1 s1⟩
 | none=>exact h1.elim
 | bool=>exact h1.elim
 | str=>exact h1.elim
 | int=>exact h1.elim⟩
theorem Jvg {ns:List Int}{Q:Yce->Prop}(h1:ns=[]->Q (.bool true)) (h2:ns≠[]->Q (.bool false)):Jgy false (Jbw ns) (.list []) Q:=by
 refine ⟨Jm1 ns,?_⟩
 rw [Jm2]
 cases ns with
 | nil=>exact h1 rfl
 | cons _ _=>exact h2 (by simp)
noncomputable abbrev MT:Int:=10^100-1
mutual
noncomputable def nd:Yce->Nat
 | .tuple ds=>1+nds ds
 | _=>0
noncomputable def nds:List Yce->Nat
 | []=>0
 | d::r=>nd d+nds r
end
mutual
noncomputable def smI:Yce->Bool
 | .int i=>decide (i<=MT)
 | .tuple ds=>J1s ds
 | .list ds=>J1s ds
 | _=>true
noncomputable def J1s:List Yce->Bool
 | []=>true
 | d::r=>smI d&&J1s r
end
end My
namespace HT
section
variable {prog:Ycj}{w:Yci}{A:Yck}{E:Ycf->Ycg->Prop}{s:Ycg}
end
end HT
namespace L2
section
variable {X:Cx}{e st:Expr}{te:TE}{ts:TO}{pos p2:Pos}
end
end L2
namespace My
open L2
section
variable {b:Bool}{te:TE}{g:GE}
end
noncomputable def gdB (d:Yce):Bool:=d.canLay0&&(d.intsShort 101&&(d.showable&&smI d))
section
variable {d:Yce}{k n g:Int}(hg:gdB d=true) (gk:gdB (.int k)=true) (wk:(Qo k).weight<=10) (gn:gdB (.int n)=true) (wn:(Qo n).weight<=10) (gg:gdB (.int g)=true) (wg:(Qo g).weight<=333)
include hg gk wk gn wn gg wg
end
end My
namespace L2
section
variable {X:Cx}
end
end L2
namespace My
open L2
section
variable {S:Src}{ex L:List Addr}{H H1 H2:Hp}{w:Vl}{o:Option V}
theorem SlR.adds:∀ {L:List Addr},(∀ b∈L,H b=none)->SlR S ex H w o->SlR S (L++ex) H w o
 | [],_,r=>r
 | l::L,h,r=>SlR.add (h l Qd) (SlR.adds (λ b hb=>h b (Qh _ hb)) r)
theorem Jvh {je:List Vl}{σ0 σ':L2.St}{n1 n2 k:Nat}(E:Ev S ex je σ0 H1 n1) (hL:∀ b∈L,H1 b=none) (kp:Kp (L++S.ch) H1 H2) (h2:∀ b∈L,H2 b≠none) (iv:S.inv n2 H2) (hj:∀ j:Nat,j<k->je[j]? = none\/je[j]? = some .jnk) (hs:∀ j:Nat,k<=j->σ'[j]? = σ0[j]?) (hz:σ'.length = σ0.length):Ev S (L++ex) je σ' H2 n2:=by
 have hc:∀ a∈S.ch,a∈L++ex:=λ a h=>Q8 _ (E.ch a h)
 have kx:Kp (L++ex) H1 H2:=kp.mono λ b hb=>(Qz.mp hb).elim (λ h=>Xu _ h) λ h=>hc b h
 have st:∀ {a:Addr} {u:HO},H1 a=some u->a∉S.ch->H2 a=some u:=λ {a u} e nc=>kp _ _ e λ z=>(Qz.mp z).elim (λ h=>by rw [hL a h] at e;cases e) nc
 refine ⟨by rw [hz];exact E.len,λ j w e=>?_,hc,λ a ha=>?_,iv⟩
 . by_cases hjk:j<k
   . rcases hj j hjk with h | h
     . rw [h] at e;cases e
     . rw [h] at e;cases e;trivial
   . rw [hs j (J6k hjk)]
     have h:=SlR.adds hL (E.sl j w e)
     cases w with
     | jnk=>trivial
     | jar=>exact h
     | tape=>exact h
     | d x=>obtain ⟨v,e,r⟩:=h;exact ⟨v,e,r.keep kx⟩
     | pin v x=>obtain ⟨e,r⟩:=h;exact ⟨e,r.keep kx⟩
     | own xs=>obtain ⟨a,vs,e,h1,h2,h3,h4,h5⟩:=h;exact ⟨a,vs,e,st h1 h5,h2,h3.keep kx,h4,h5⟩
     | dct kvs=>obtain ⟨a,kws,e,h1,⟨h2,h3⟩,h4,h5⟩:=h;exact ⟨a,kws,e,st h1 h5,⟨h2,h3.keep kx⟩,h4,h5⟩
     | own2 ks ps=>obtain ⟨a,e,q⟩:=h;exact ⟨a,e,st q.h q.c,q.z,q.k,q.nd,q.m,q.c,λ p hp=>let w:=q.i p hp;⟨w.m,w.c,let ⟨vs,h1,h2,h3⟩:=w.h;⟨vs,st h1 w.c,h2,h3.keep kx⟩⟩⟩
 . rcases Qz.mp ha with ha | ha
   . exact h2 a ha
   . by_cases hac:a∈S.ch
     . exact S.dom iv a hac
     . intro z
       cases e:H1 a with
       | none=>exact E.al a ha e
       | some u=>rw [st e hac] at z;cases z
end
abbrev GN2:=List Vl->Nat->(List (List Yce)->Nat->Prop)->Prop
class N2 (te:TE) (g:outParam GN2):Prop where
 n2:∀ {S:Src} {ex:List Addr} {env:List Vl} {σ:L2.St} {H:Hp} {n:Nat} {Q:VK} {P:List (List Yce)->Nat->Prop},Ev S ex env σ H n->g env n P ->
  (∀ (ps:List (Addr×List Yce)) (n':Nat) (a:Addr) (H':Hp),P (ps.map (·.2)) n'->Yy S n' H H'->H a=none->(∀ p∈ps,H p.1=none)->Own2 S (a::ps.map (·.1)++ex) H' none ps a->Q (.ref a) H')->te σ H Q
def Jvi (f:Yce->Nat->(List Yce->Nat->Prop)->Prop):List Yce->Nat->(List (List Yce)->Nat->Prop)->Prop
 | [],n,Q=>Q [] n
 | x::xs,n,Q=>f x n λ d n1=>Jvi f xs n1 λ ys n2=>Q (d::ys) n2
abbrev Jvj (bd:GG) (gn:GN) (env:List Vl):Yce->Nat->(List Yce->Nat->Prop)->Prop:=λ x n Q=>bd x env λ env'=>gn env' n Q
abbrev J1t (gi:GN) (k:Nat) (idx ks:List Nat) (bd:GG) (gn:GN):GN2:=λ env n Q=>gi env n λ items n1=>(ks.all (λ i=>decide (i<k))=true/\items.length<=1000000/\items.all W9=true)/\Jvi (Jvj bd gn (Jcv k idx env)) items n1 Q
instance n2_comp {wi:TI}{gi:GN}{k:Nat}{idx ks:List Nat}{g:TG}{bd:GG}{te:TE}{gn:GN} [I:IC wi gi] [G:GV g bd ks] [A:NV te gn]:N2 (Je9 wi k idx g Jdf te) (J1t gi k idx ks bd gn):=⟨λ {S ex env σ H n Q P} E h kk=>by
 refine I.ic E h λ items n1 J H1 hc s1 hit l hl=>?_
 obtain ⟨⟨hk,hz,hsc⟩,hc⟩:=hc
 have hs:sizeLine=16777216:=Ycl
 have E1:=Jg3 (E.step s1) k idx
 have lch:l∉S.ch:=λ z=>S.dom s1.2 l z hl
 have hkk:∀ i∈ks,i<k:=λ i hi=>of_decide_eq_true (Ub.mp hk i hi)
 refine ⟨λ i m σ' H2=>i<=items.length/\m=items.length-i/\∃ (n2:Nat) (ps:List (Addr×List Yce)),Jvi (Jvj bd gn (Jcv k idx env)) (items.drop i) n2 (λ ys n'=>P (ps.map (·.2)++ys) n')/\Kp (l::S.ch) H1 H2/\H2 l=some (.lst (Y4 ps))/\ps.length<=i/\(∀ p∈ps,H1 p.1=none)/\(l::ps.map (·.1)).Nodup/\(∀ p∈ps,In2 S (l::ps.map (·.1)++ex) H2 p)/\S.inv n2 H2/\(∀ j:Nat,k<=j->σ'[j]? = (Yi k idx σ)[j]?)/\σ'.length=(Yi k idx σ).length,
  ⟨items.length,Q9 _,rfl,n1,[],by simpa using hc,Kp.new hl _,Jh,Qn _,(λ p hp=>by cases hp),by simp,(λ p hp=>by cases hp),S.keep s1.2 λ b _ o' e=>Kp.new (ex:=[]) hl _ _ _ e (by simp),λ _ _=>rfl,rfl⟩,?_⟩
 rintro i m σ' H2 ⟨hi,rfl,n2,ps,hcm,kp,h2l,hvl,hno,hnd,hin,iv2,hsl,hln⟩
 have hL:∀ b∈l::ps.map (·.1),H1 b=none:=λ b hb=>by
  rcases Qg.mp hb with rfl | hb
  . exact hl
  . obtain ⟨p,hp,rfl⟩:=Ql.mp hb
    exact hno p hp
 have hL2:∀ b∈l::ps.map (·.1),H2 b≠none:=λ b hb=>by
  rcases Qg.mp hb with rfl | hb
  . rw [h2l];exact Ul _
  . obtain ⟨p,hp,rfl⟩:=Ql.mp hb
    obtain ⟨vs,h1,_⟩:=(hin p hp).h
    rw [h1];exact Ul _
 have E2:Ev S (l::ps.map (·.1)++ex) (Jcv k idx env) σ' H2 n2:=Jvh E1 hL (kp.mono λ b hb=>(Qg.mp hb).elim (λ e=>by rw [e];exact Xu _ Qd) λ h=>Q8 _ h) hL2 iv2 Jg4 hsl hln
 have IT:=hit l H2 hl kp λ a ha=>(Qg.mp ha).elim (λ e=>by rw [e,h2l];exact Ul _) λ h=>E2.al a (Q8 _ h)
 rcases U8 i items.length with hlt | hge
 . refine .inr ⟨(IT.2 i items[i] (Qx hlt)).1,λ x H3 y=>?_⟩
   obtain ⟨kp3,rx⟩:=(IT.2 i items[i] (Qx hlt)).2 x H3 y
   have rx':=Jgw (Ub.mp hsc items[i] (Uh hlt)) rx (l::ps.map (·.1)++ex)
   rw [J73 hlt] at hcm
   have st3:Yy S n2 H2 H3:=Yy.new E2.inv kp3
   have E3:=E2.step st3
   refine G.gv E3 rx' hcm λ env' σ2 ht E4 _ hs2' hl2=>tv_noTest.tv E4 (P:=λ c n'=>c=true/\n'=n2) ⟨rfl,rfl⟩ λ c n4 H4 h4 s4=>?_
   obtain ⟨rfl,rfl⟩:=h4
   have hs2:∀ j:Nat,k<=j->σ2[j]? = (Yi k idx σ)[j]?:=λ j hj=>by
    rw [hs2' j λ z=>by have:=hkk j z;omega];exact hsl j hj
   refine A.nv (E4.step s4) ht λ ds n5 a vs H5 h5 s5 ha hla hzv r5=>?_
   have s24:=st3.trans s4
   have s25:=s24.trans s5
   have k5:Kp S.ch H2 H5:=s25.1
   have h5l:H5 l=some (.lst (Y4 ps)):=k5 _ _ h2l lch
   have an:a∉l::ps.map (·.1)++ex:=λ z=>(E4.step s4).al a z ha
   have ac:a∉S.ch:=λ z=>an (E4.ch a z)
   have ha1:H1 a=none:=by
    cases e:H1 a with
    | none=>rfl
    | some u=>
     have e2:=kp a u e λ z=>(Qg.mp z).elim (λ q=>an (by rw [q];exact Xu _ Qd)) ac
     rw [s24.1 a u e2 ac] at ha;cases ha
   have al:a≠l:=λ e=>an (by rw [e];exact Xu _ Qd)
   have msub:∀ b∈l::(ps++[(a,ds)]).map (·.1)++ex,b∈a::(l::ps.map (·.1)++ex):=λ b hb=>by
    simp only [Qu,Qq,Uf,J55,Qg,Qz,Uc,or_false] at hb ⊢
    rcases hb with h | (h | h) | h
    . exact .inr (.inl h)
    . exact .inr (.inr (.inl h))
    . exact .inl h
    . exact .inr (.inr (.inr h))
   have mup:∀ b∈l::ps.map (·.1)++ex,b∈l::(ps++[(a,ds)]).map (·.1)++ex:=λ b hb=>by
    simp only [Qu,Qq,Uf,J55,Qg,Qz,Uc,or_false] at hb ⊢
    rcases hb with h | h | h
    . exact .inl h
    . exact .inr (.inl (.inl h))
    . exact .inr (.inr h)
   have lin:l∈l::(ps++[(a,ds)]).map (·.1)++ex:=Xu _ Qd
   refine ⟨Y4 ps,h5l,by unfold Y4;rw [Qb];omega,_,(?_:items.length-(i+1)<_),hlt,rfl,n5,ps++[(a,ds)],?_,?_,?_,?_,?_,?_,?_,?_,hs2,hl2.trans hln⟩
   . omega
   . simpa using h5
   . exact (kp.trans (k5.mono λ b hb=>Qh _ hb)).trans (Kp.at Qd _)
   . rw [Jh];unfold Y4;rw [Qu];rfl
   . rw [Qw,Xq];omega
   . intro p hp
     rcases Qz.mp hp with hp | hp
     . exact hno p hp
     . rw [Qm.mp hp];exact ha1
   . rw [Qu,<- J55]
     refine J6o.mpr ⟨hnd,by simp,?_⟩
     intro b hb c hc e
     have e':b=a:=e.trans (Qm.mp hc)
     exact an (Xu _ (e'▸hb))
   . intro p hp
     rcases Qz.mp hp with hp | hp
     . have w:=hin p hp
       obtain ⟨us,g1,g2,g3⟩:=w.h
       have pl:p.1≠l:=λ e=>(Xm.mp hnd).1 (by rw [<- e];exact Ql.mpr ⟨p,hp,rfl⟩)
       refine ⟨mup p.1 w.m,w.c,us,by rw [Ji pl];exact k5 _ _ g1 w.c,g2,?_⟩
       have q4:Reps (l::ps.map (·.1)++ex) H4 p.2 us:=g3.keep (s24.1.mono E2.ch)
       have q5:Reps (a::(l::ps.map (·.1)++ex)) H5 p.2 us:=(Reps.add ha q4).keep (s5.1.mono λ b hb=>Qh _ (E2.ch b hb))
       exact (Reps.mono msub q5).keep (Kp.at lin _)
     . rw [Qm.mp hp]
       refine ⟨?_,ac,vs,by rw [Ji al];exact hla,hzv,(Reps.mono msub r5).keep (Kp.at lin _)⟩
       simp
   . exact S.keep s25.2 λ b hb o e=>by rw [Ji (λ z=>lch (by rw [<- z];exact hb))];exact e
 . have e:i=items.length:=by omega
   subst e
   rw [J74] at hcm
   have hcm':P (ps.map (·.2)) n2:=by simpa [Jvi] using hcm
   refine .inl ⟨IT.1,kk ps n2 l H2 hcm' ⟨λ b o e nb=>kp b o (s1.1 b o e nb) λ z=>(Qg.mp z).elim (λ e2=>by rw [e2,s1.free hl] at e;cases e) nb,iv2⟩ (s1.free hl) (λ p hp=>s1.free (hno p hp)) ⟨h2l,by omega,(λ _ h=>by cases h),hnd,Xu _ Qd,lch,hin⟩⟩⟩
theorem Rep.adds {ex:List Addr}{H:Hp}{d:Yce}{v:V}:∀ {L:List Addr},(∀ b∈L,H b=none)->Rep ex H d v->Rep (L++ex) H d v
 | [],_,r=>r
 | l::L,h,r=>Rep.add (h l Qd) (Rep.adds (λ b hb=>h b (Qh _ hb)) r)
section
variable {C:Cv}{ex:List Addr}{env:List Vl}{σ:L2.St}{H H':Hp}{n m:Nat}
theorem Jk2 {i:Nat}{ks:Option (List Key)}{ps:List (Addr×List Yce)}{a b:Addr}(h:b∈Jl (env.set i (.own2 ks ps)) (σ.set i (some (.ref a))) i):b∈a::ps.map (·.1):=by
 unfold Jl at h
 split at h
 . rename_i e1 e2
   have:=Va e1
   cases this
 . rename_i e1 e2
   have:=Va e1
   cases this
 . rename_i c e1 e2
   have e3:(σ.set i (some (.ref a)))[i]? = some (some (.ref c)):=Jj e2
   have h3:=Va e3
   cases h3
   have h4:=Va e1
   cases h4
   exact h
 . cases h
theorem At.own2 (A:At C ex env σ H n) {i:Nat}{ks:Option (List Key)}{ps:List (Addr×List Yce)}{a:Addr}(s:Yy C.S m H H') (ha:H a=none) (hp:∀ p∈ps,H p.1=none) (q:Own2 C.S (a::ps.map (·.1)++ex) H' ks ps a) :
 At C (a::ps.map (·.1)++ex) (env.set i (.own2 ks ps)) (σ.set i (some (.ref a))) H' m:=by
 have hL:∀ b∈a::ps.map (·.1),H b=none:=λ b hb=>by
  rcases Qg.mp hb with rfl | hb
  . exact ha
  . obtain ⟨p,h,rfl⟩:=Ql.mp hb
    exact hp p h
 have hL2:∀ b∈a::ps.map (·.1),H' b≠none:=λ b hb=>by
  rcases Qg.mp hb with rfl | hb
  . rw [q.h];exact Ul _
  . obtain ⟨p,h,rfl⟩:=Ql.mp hb
    obtain ⟨vs,h1,_⟩:=(q.i p h).h
    rw [h1];exact Ul _
 have hc:∀ b∈C.S.ch,b∈a::ps.map (·.1)++ex:=λ b h=>Q8 _ (A.ev.ch b h)
 have E1:Ev C.S (a::ps.map (·.1)++ex) env σ H' m:=by
  refine ⟨A.ev.len,λ j w e=>(SlR.adds hL (A.ev.sl j w e)).kp hc s.1,hc,λ b hb=>?_,s.2⟩
  rcases Qz.mp hb with hb | hb
  . exact hL2 b hb
  . exact A.ev.al.step s b hb
 refine ⟨E1.put ⟨a,rfl,q⟩,λ b h=>Q8 _ (A.ex0 b h),A.al0,λ j k b h1 h2=>?_,λ j b h=>?_,A.kp.trans s.1,λ h hh=>(Rep.adds hL (A.held h hh)).keep (s.1.mono hc)⟩
 . by_cases hj:i=j
   . subst hj
     have e:=hL b (Jk2 h1)
     by_cases hk:i=k
     . exact hk
     . rw [Zk hk] at h2
       exact absurd e (Wx A.ev h2).1
   . rw [Zk hj] at h1
     by_cases hk:i=k
     . subst hk
       exact absurd (hL b (Jk2 h2)) (Wx A.ev h1).1
     . rw [Zk hk] at h2
       exact A.sep j k b h1 h2
 . by_cases hj:i=j
   . subst hj
     exact A.free (hL b (Jk2 h))
   . rw [Zk hj] at h
     exact A.new j b h
theorem Jjg {i:Nat}{ks:Option (List Key)}{ps qs:List (Addr×List Yce)}(h:env[i]? = some (.own2 ks ps)) (e:qs.map (·.1)=ps.map (·.1)):∀ j,Jl (env.set i (.own2 ks qs)) σ j=Jl env σ j:=λ j=>by
 unfold Jl
 by_cases hj:i=j
 . subst hj
   rw [Q4 (Qr.mp h).1,h]
   cases (σ[i]?).join with
   | none=>rfl
   | some v=>cases v<;>first | rfl | (show _::_=_::_;rw [e])
 . rw [Q2 hj]
theorem Jdu {α:Type}{l:List α}{m:Nat}{a b:α}(h:b∈l.set m a):b=a\/∃ k,k≠m/\l[k]? = some b:=by
 obtain ⟨k,hk⟩:=List.mem_iff_getElem?.mp h
 by_cases e:m=k
 . subst e
   exact .inl (Va hk)
 . rw [Q2 e] at hk
   exact .inr ⟨k,λ z=>e z.symm,hk⟩
theorem J33 {l:List Addr}(hn:l.Nodup) {k m:Nat}{a b:Addr}(h:l[k]? = some a) (g:l[m]? = some b) (e:k≠m):a≠b:=by
 intro z
 subst z
 obtain ⟨h1,h2⟩:=Qr.mp h
 obtain ⟨g1,g2⟩:=Qr.mp g
 have pw:=List.pairwise_iff_getElem.mp hn
 rcases Nat.lt_or_gt_of_ne e with lt | gt
 . exact pw k m h1 g1 lt (h2.trans g2.symm)
 . exact pw m k g1 h1 gt (g2.trans h2.symm)
theorem At.re2 (A:At C ex env σ H n) {i j:Nat}{ks:Option (List Key)}{ps:List (Addr×List Yce)}{p:Addr×List Yce}{ys:List Yce}{ws:List V}{a:Addr}(h:env[i]? = some (.own2 ks ps)) (hs:(σ[i]?).join=some (.ref a)) (hp:ps[j]? = some p) (r:Reps ex H ys ws) (hz:ws.length<=sizeLine) :
 At C ex (env.set i (.own2 ks (ps.set j (p.1,ys)))) σ (upd H p.1 (.lst ws)) n:=by
 obtain ⟨a',e',q⟩:=A.ev.sl i _ h
 rw [hs] at e'
 cases e'
 have hpm:=Xa hp
 have hmap:(ps.set j (p.1,ys)).map (·.1)=ps.map (·.1):=by
  rw [J6a]
  refine U1 λ k=>?_
  by_cases e:j=k
  . subst e
    rw [Q4 (by rw [Qb];exact (Qr.mp hp).1),Qs,hp];rfl
  . rw [Q2 e]
 have hrefs:Y4 (ps.set j (p.1,ys))=Y4 ps:=by
  have e1:∀ l:List (Addr×List Yce),Y4 l=(l.map (·.1)).map V.ref:=λ l=>by unfold Y4;rw [Q0];rfl
  rw [e1,e1,hmap]
 have ha:p.1∈Jl env σ i:=by unfold Jl;rw [h,hs];exact Qh _ (Ql.mpr ⟨p,hpm,rfl⟩)
 obtain ⟨h1,h2,h3⟩:=Wx A.ev ha
 have h0:=A.new i p.1 ha
 have kx:Kp ex H (upd H p.1 (.lst ws)):=Kp.at h2 _
 have pa:a≠p.1:=λ z=>(Xm.mp q.nd).1 (by rw [z];exact Ql.mpr ⟨p,hpm,rfl⟩)
 have hn2:=(Xm.mp q.nd).2
 refine ⟨⟨by rw [Xh];exact A.ev.len,λ k w e=>?_,A.ev.ch,λ b hb=>?_,C.S.keep A.ev.inv λ b hb o e=>by rw [Ji (λ z=>h3 (by rw [<- z];exact hb))];exact e⟩,A.ex0,A.al0,λ k l b q1 q2=>?_,λ k b q=>?_,Kp.late A.kp h0 _,λ x hx=>(A.held x hx).keep kx⟩
 . by_cases hk:i=k
   . subst hk
     rw [Q4 (Qr.mp h).1] at e
     cases e
     refine ⟨a,hs,⟨by rw [Ji pa,hrefs];exact q.h,by rw [Xh];exact q.z,λ l hl=>by rw [Xh];exact q.k l hl,by rw [hmap];exact q.nd,q.m,q.c,λ t ht=>?_⟩⟩
     rcases Jdu ht with rfl | ⟨k,hkj,hk⟩
     . exact ⟨h2,h3,ws,Jh,hz,r.keep kx⟩
     . have w:=q.i t (Xa hk)
       have tp:t.1≠p.1:=J33 hn2 (k:=k) (m:=j) (by rw [Qs,hk];rfl) (by rw [Qs,hp];rfl) hkj
       obtain ⟨us,g1,g2,g3⟩:=w.h
       exact ⟨w.m,w.c,us,by rw [Ji tp];exact g1,g2,g3.keep kx⟩
   . rw [Q2 hk] at e
     exact SlR.upd h2 (λ b hb z=>hk (A.sep i k p.1 ha (by rw [Vy e,<- z];exact hb))) (A.ev.sl k w e)
 . by_cases hb2:b=p.1
   . rw [hb2,Jh];intro z;cases z
   . rw [Ji hb2];exact A.ev.al b hb
 . rw [Jjg h hmap] at q1 q2;exact A.sep k l b q1 q2
 . rw [Jjg h hmap] at q;exact A.new k b q
end
def Jjh (i:Nat) (wi:TI) (k:Nat) (idx:List Nat) (g:TG) (tt:TT) (te:TE):TS:=Jbn i wi k idx g tt te
theorem Jxu {X:Cx}{st:Stmt}{i:Nat}{wi:TI}{k:Nat}{idx:List Nat}{g:TG}{tt:TT}{te:TE}(h:PS X st (Jbn i wi k idx g tt te)):PS X st (Jjh i wi k idx g tt te):=h
abbrev J34 (i:Nat) (g:GN2):GS:=λ G env n=>g env n λ xss n1=>∀ ps:List (Addr×List Yce),ps.map (·.2)=xss->G.nx (env.set i (.own2 none ps)) n1
instance sv_set2 {i:Nat}{wi:TI}{k:Nat}{idx:List Nat}{g:TG}{tt:TT}{te:TE}{gn:GN2} [E:N2 (Je9 wi k idx g tt te) gn]:SV (Jjh i wi k idx g tt te) (J34 i gn):=⟨λ {C G D} O {ex env σ H n} A h=>
 show Je9 wi k idx g tt te σ H (λ v H2=>D.nx (σ.set i (some v)) H2) from E.n2 A.ev h λ ps n1 a H1 h1 s1 ha hp q=>O.nx (A.own2 s1 ha hp q) (h1 ps rfl)⟩
abbrev J1u (i:Nat) (gx gy ge:GE):GS:=λ G env n=>ge env n λ d n1=>match env[i]? with
 | some (.own2 none ps)=>gx env n1 λ x n2=>(match x with
  | .int x=>∃ m p,ixN ps.length x=some m/\ps[m]? = some p/\gy env n2 λ y n3=>(match y with
   | .int y=>∃ m',ixN p.2.length y=some m'/\G.nx (env.set i (.own2 none (ps.set m (p.1,p.2.set m' d)))) n3
   | _=>False)
  | _=>False)
 | _=>False
theorem Jxv {ps:List (Addr×List Yce)}{x:Int}{m:Nat}{p:Addr×List Yce}(h:ixN ps.length x=some m) (hp:ps[m]? = some p):atI (Y4 ps) x=some (V.ref p.1):=by
 unfold atI Y4
 rw [Qb,h]
 show (ps.map λ p=>V.ref p.1)[m]? = _
 rw [Qs,hp];rfl
instance sv_set2I {K:Qc}{i:Nat}{te tx ty:TE}{ge gx gy:GE} [E:EV true te ge] [X:EV false tx gx] [Y:EV false ty gy]:SV (Jcf te (Jtl (tOp (Jtx K) (Zv i) tx) ty Jir)) (J1u i gx gy ge):=⟨λ {C G D} O {ex env σ H n} A h=>by
 refine E.ev A.ev h λ d n1 v H1 hd s1 r=>?_
 have A1:=A.step s1
 split at hd
 . rename_i ps e
   obtain ⟨a,ev,q⟩:=A1.ev.sl i _ e
   refine ⟨_,Jj ev,X.ev A1.ev hd λ x n2 xv H2 hx s2 rx=>?_⟩
   have A2:=A1.step s2
   cases rx with
   | int x=>
    obtain ⟨m,p,hm,hp,hy⟩:=hx
    obtain ⟨a2,ev2,q2⟩:=A2.ev.sl i _ e
    rw [ev] at ev2
    cases ev2
    refine ⟨a,Y4 ps,x,_,rfl,rfl,SqL.of q2.h,Jxv hm hp,Y.ev A2.ev hy λ y n3 yv H3 hy' s3 ry=>?_⟩
    have A3:=A2.step s3
    obtain ⟨a3,ev3,q3⟩:=A3.ev.sl i _ e
    rw [ev] at ev3
    cases ev3
    cases ry with
    | int y=>
     obtain ⟨m',hm',hq⟩:=hy'
     obtain ⟨vs,g1,g2,g3⟩:=(q3.i p (Xa hp)).h
     have l:=g3.length
     have r3:Rep ex H3 d v:=A2.ev.rep s3 (A1.ev.rep s2 r)
     exact ⟨p.1,vs,y,m',rfl,rfl,g1,by rw [<- l];exact hm',O.nx (A3.re2 e ev hp (Jdn r3 m' g3) (by rw [Xh];exact g2)) hq⟩
    | none=>exact hy'.elim
    | bool=>exact hy'.elim
    | str=>exact hy'.elim
    | tuple=>exact hy'.elim
    | list=>exact hy'.elim
   | none=>exact hx.elim
   | bool=>exact hx.elim
   | str=>exact hx.elim
   | tuple=>exact hx.elim
   | list=>exact hx.elim
 . exact hd.elim⟩
section
variable {C:Cv}{ex:List Addr}{env:List Vl}{σ:L2.St}{H H':Hp}{n m:Nat}
theorem At.more (A:At C ex env σ H n) {b:Addr}(s:Yy C.S m H H') (hb:H b=none) (h2:H' b≠none):At C (b::ex) env σ H' m:=by
 have hc:∀ c∈C.S.ch,c∈b::ex:=λ c h=>Qh _ (A.ev.ch c h)
 refine ⟨⟨A.ev.len,λ j w e=>(SlR.add hb (A.ev.sl j w e)).kp hc s.1,hc,λ c hc=>?_,s.2⟩,λ c h=>Qh _ (A.ex0 c h),A.al0,A.sep,A.new,A.kp.trans s.1,λ h hh=>(Rep.add hb (A.held h hh)).keep (s.1.mono hc)⟩
 rcases Qg.mp hc with rfl | hc
 . exact h2
 . exact A.ev.al.step s c hc
theorem Jvk {ps:List (Addr×List Yce)}{j:Nat}{b:Addr}{ds:List Yce}:Y4 (ps.set j (b,ds))=(Y4 ps).set j (.ref b):=by unfold Y4;rw [J6a]
theorem Jsn {l:List Addr}(h:l.Nodup) {b:Addr}(hb:b∉l) (j:Nat):(l.set j b).Nodup:=by
 induction l generalizing j with
 | nil=>simp
 | cons x xs ih=>
  have h1:=Xm.mp h
  cases j with
  | zero=>exact Xm.mpr ⟨λ z=>hb (Qh _ z),h1.2⟩
  | succ j=>
   refine Xm.mpr ⟨λ z=>?_,ih h1.2 (λ z=>hb (Qh _ z)) j⟩
   rcases Jdu z with e | ⟨k,_,hk⟩
   . exact hb (by rw [<- e];exact Qd)
   . exact h1.1 (Xa hk)
theorem At.row2 (A:At C ex env σ H n) {i j:Nat}{ps:List (Addr×List Yce)}{ds:List Yce}{vs:List V}{a b:Addr}(h:env[i]? = some (.own2 none ps)) (hs:(σ[i]?).join=some (.ref a)) (bm:b∈ex) (bc:b∉C.S.ch) (hb:H b=some (.lst vs)) (hz:vs.length<=sizeLine) (r:Reps ex H ds vs) (bo:∀ k,b∉Jl env σ k) (b0:C.H0 b=none) :
 At C ex (env.set i (.own2 none (ps.set j (b,ds)))) σ (upd H a (.lst ((Y4 ps).set j (.ref b)))) n:=by
 obtain ⟨a',e',q⟩:=A.ev.sl i _ h
 rw [hs] at e'
 cases e'
 have oi:Jl env σ i=a::ps.map (·.1):=by unfold Jl;rw [h,hs]
 have ha:a∈Jl env σ i:=by rw [oi];exact Qd
 have bi:=bo i
 rw [oi] at bi
 have ba:b≠a:=λ z=>bi (by rw [z];exact Qd)
 have bp:b∉ps.map (·.1):=λ z=>bi (Qh _ z)
 have h0:=A.new i a ha
 have kx:Kp ex H (upd H a (.lst ((Y4 ps).set j (.ref b)))):=Kp.at q.m _
 have hmap:(ps.set j (b,ds)).map (·.1)=(ps.map (·.1)).set j b:=by rw [J6a]
 have nd2:=Xm.mp q.nd
 have oo:∀ k c,c∈Jl (env.set i (.own2 none (ps.set j (b,ds)))) σ k->c∈Jl env σ k\/(c=b/\k=i):=λ k c hc=>by
  by_cases hk:i=k
  . subst hk
    have e2:Jl (env.set i (.own2 none (ps.set j (b,ds)))) σ i=a::(ps.set j (b,ds)).map (·.1):=by unfold Jl;rw [Q4 (Qr.mp h).1,hs]
    rw [e2,hmap] at hc
    rw [oi]
    rcases Qg.mp hc with e | hc
    . exact .inl (by rw [e];exact Qd)
    . rcases Jdu hc with e | ⟨t,_,ht⟩
      . exact .inr ⟨e,rfl⟩
      . exact .inl (Qh _ (Xa ht))
  . have e2:Jl (env.set i (.own2 none (ps.set j (b,ds)))) σ k=Jl env σ k:=by unfold Jl;rw [Q2 hk]
    rw [e2] at hc
    exact .inl hc
 refine ⟨⟨by rw [Xh];exact A.ev.len,λ k w e=>?_,A.ev.ch,λ c hc=>?_,C.S.keep A.ev.inv λ c hc o e=>by rw [Ji (λ z=>q.c (by rw [<- z];exact hc))];exact e⟩,A.ex0,A.al0,λ k l c q1 q2=>?_,λ k c q=>?_,Kp.late A.kp h0 _,λ x hx=>(A.held x hx).keep kx⟩
 . by_cases hk:i=k
   . subst hk
     rw [Q4 (Qr.mp h).1] at e
     cases e
     refine ⟨a,hs,⟨by rw [Jh,Jvk];rfl,by rw [Xh];exact q.z,(λ l hl=>by cases hl),?_,q.m,q.c,λ t ht=>?_⟩⟩
     . rw [hmap]
       refine Xm.mpr ⟨λ z=>?_,Jsn nd2.2 bp j⟩
       rcases Jdu z with e | ⟨t,_,ht⟩
       . exact ba e.symm
       . exact nd2.1 (Xa ht)
     . rcases Jdu ht with rfl | ⟨k,_,hk⟩
       . exact ⟨bm,bc,vs,by rw [Ji ba];exact hb,hz,r.keep kx⟩
       . have w:=q.i t (Xa hk)
         have ta:t.1≠a:=λ z=>nd2.1 (by rw [<- z];exact Ql.mpr ⟨t,Xa hk,rfl⟩)
         obtain ⟨us,g1,g2,g3⟩:=w.h
         exact ⟨w.m,w.c,us,by rw [Ji ta];exact g1,g2,g3.keep kx⟩
   . rw [Q2 hk] at e
     exact SlR.upd q.m (λ c hc z=>hk (A.sep i k a ha (by rw [Vy e,<- z];exact hc))) (A.ev.sl k w e)
 . by_cases hc2:c=a
   . rw [hc2,Jh];intro z;cases z
   . rw [Ji hc2];exact A.ev.al c hc
 . rcases oo k c q1 with h1 | ⟨rfl,rfl⟩
   . rcases oo l c q2 with h2 | ⟨rfl,rfl⟩
     . exact A.sep k l c h1 h2
     . exact absurd h1 (bo k)
   . rcases oo l c q2 with h2 | ⟨_,rfl⟩
     . exact absurd h2 (bo l)
     . rfl
 . rcases oo k c q with h1 | ⟨rfl,_⟩
   . exact A.new k c h1
   . exact b0
end
def Jvl (te:TE) (i:Nat) (tx:TE):TS:=Jcf te (Jtl (Zv i) tx Jir)
theorem Jxw {X:Cx}{st:Stmt}{te tx:TE}{i:Nat}(h:PS X st (Jcf te (Jtl (Zv i) tx Jir))):PS X st (Jvl te i tx):=h
abbrev J1v (i:Nat) (gx:GE) (gn:GN):GS:=λ G env n=>gn env n λ ds n1=>match env[i]? with
 | some (.own2 none ps)=>gx env n1 λ x n2=>(match x with
  | .int x=>∃ j,ixN ps.length x=some j/\∀ b:Addr,G.nx (env.set i (.own2 none (ps.set j (b,ds)))) n2
  | _=>False)
 | _=>False
instance sv_set2R {i:Nat}{te tx:TE}{gn:GN}{gx:GE} [E:NV te gn] [X:EV false tx gx]:SV (Jvl te i tx) (J1v i gx gn):=⟨λ {C G D} O {ex env σ H n} A h=>by
 refine E.nv A.ev h λ ds n1 b vs H1 hd s1 hb hl hz r=>?_
 have A1:=A.more s1 hb (by rw [hl];exact Ul _)
 split at hd
 . rename_i ps e
   obtain ⟨a,ev,q⟩:=A1.ev.sl i _ e
   refine ⟨_,Jj ev,X.ev A1.ev hd λ x n2 xv H2 hx s2 rx=>?_⟩
   have A2:=A1.step s2
   have bc:b∉C.S.ch:=λ z=>C.S.dom A.ev.inv b z hb
   cases rx with
   | int x=>
    obtain ⟨j,hj,hq⟩:=hx
    obtain ⟨a2,ev2,q2⟩:=A2.ev.sl i _ e
    rw [ev] at ev2
    cases ev2
    refine ⟨a,Y4 ps,x,j,rfl,rfl,q2.h,by unfold Y4;rw [Qb];exact hj,?_⟩
    exact O.nx (A2.row2 e ev Qd bc (s2.1 _ _ hl bc) hz (A1.ev.reps s2 r) (λ k z=>(Wx A.ev z).1 hb) (A.free hb)) (hq b)
   | none=>exact hx.elim
   | bool=>exact hx.elim
   | str=>exact hx.elim
   | tuple=>exact hx.elim
   | list=>exact hx.elim
 . exact hd.elim⟩
theorem Jb9 {ex:List Addr}{H:Hp}:∀ {ds:List Yce}{vs:List V},ds.all W9=true->Reps ex H ds vs->∀ ex',Reps ex' H ds vs
 | _,_,_,.nil,_=>.nil
 | d::ds,_,h,.cons r rs,ex'=>by
  rw [J6g,Xg] at h
  exact .cons (Jgw h.1 r ex') (Jb9 h.2 rs ex')
def Jz4 (K:Qc) (ta:TA):TI:=Jua K ta
theorem Jxx {X:Cx}{tg e:Expr}{K:Qc}{ta:TA}(h:PI X tg e (Jua K ta)):PI X tg e (Jz4 K ta):=h
abbrev J35 (t:GN):GN:=λ env n Q=>t env n λ ds n1=>∃ d e xs ys,ds=[d,e]/\Jfl d=some xs/\Jfl e=some ys/\(xs.all W9=true/\ys.all W9=true)/\Q (Jap xs ys) n1
instance ic_zip2 {K:Qc}{t:TA}{gt:GN} [A:DV false t gt]:IC (Jz4 K t) (J35 gt):=⟨λ {S ex env σ H n R P} E h k=>A.dv E h λ ds n1 vs H1 h1 s1 r1=>by
 obtain ⟨d,e,xs,ys,rfl,hs,hs',⟨c1,c2⟩,q⟩:=h1
 cases r1 with
 | cons r1 t=>
  cases t with
  | cons r2 t=>
   cases t
   obtain ⟨c,a,ws,rfl,hq,rs,hc,na⟩:=B2 r1 hs
   obtain ⟨c',a',ws',rfl,hq',rs',hc',na'⟩:=B2 r2 hs'
   refine ⟨c,c',a,a',ws,ws',rfl,hq K,hq' K,k _ _ _ _ q s1 λ l H2 hl kp al=>?_⟩
   have w1:=(Rep.add hl r1).keep kp
   have w2:=(Rep.add hl r2).keep kp
   obtain ⟨v1,h3,h4⟩:=V5 hs hc r1 _ H2 w1
   obtain ⟨v2,h5,h6⟩:=V5 hs' hc' r2 _ H2 w2
   exact Juu al (h3 K) (Jb9 c1 h4 _) (h5 K) (Jb9 c2 h6 _)⟩
noncomputable def Bs (R:Nat) (f:Nat->Nat->Bool) (a:Nat):List Yce:=(Qf R).map λ b=>.bool (f a b)
noncomputable def Bb (R:Nat) (f:Nat->Nat->Bool):List (List Yce):=(Qf R).map (Bs R f)
section
variable {R a x y:Nat}{f g:Nat->Nat->Bool}
theorem Jby:(Bs R f a).length=R:=by unfold Bs;rw [Qb,Xi]
theorem Bt:(Bb R f).length=R:=by unfold Bb;rw [Qb,Xi]
theorem Jdv (h:y<R):(Bs R f a)[y]? = some (.bool (f a y)):=by
 unfold Bs;rw [Qs,Uk h];rfl
theorem Jas (h:x<R):(Bb R f)[x]? = some (Bs R f x):=by
 unfold Bb;rw [Qs,Uk h];rfl
theorem Jhi (h:∀ b,b<R->f a b=g x b):Bs R f a=Bs R g x:=by
 unfold Bs
 exact Xy λ b hb=>by rw [h b (Xj.mp hb)]
theorem Jhj (h:∀ a,a<R->∀ b,b<R->f a b=g a b):Bb R f=Bb R g:=by
 unfold Bb
 exact Xy λ a ha=>Jhi (h a (Xj.mp ha))
theorem Jm6 (hx:x<R) (h2:∀ a,a<R->a≠x->∀ b,b<R->g a b=f a b) {r:List Yce}(hr:r=Bs R g x):(Bb R f).set x r=Bb R g:=by
 apply U1
 intro i
 by_cases hi:x=i
 . subst hi
   rw [Q4 (by rw [Bt];exact hx),Jas hx,hr]
 . rw [Q2 hi]
   by_cases hl:i<R
   . rw [Jas hl,Jas hl,Jhi λ b hb=>(h2 i hl (λ z=>hi z.symm) b hb).symm]
   . rw [Xt (by rw [Bt];omega),Xt (by rw [Bt];omega)]
theorem Jvm (hy:y<R) {v:Bool}(h1:g a y=v) (h2:∀ b,b<R->b≠y->g a b=f a b):(Bs R f a).set y (.bool v)=Bs R g a:=by
 apply U1
 intro i
 by_cases hi:y=i
 . subst hi
   rw [Q4 (by rw [Jby];exact hy),Jdv hy,h1]
 . rw [Q2 hi]
   by_cases hl:i<R
   . rw [Jdv hl,Jdv hl,h2 i hl λ z=>hi z.symm]
   . rw [Xt (by rw [Jby];omega),Xt (by rw [Jby];omega)]
theorem Jji:(Bs R f a).all W9=true:=by
 unfold Bs
 rw [Ub]
 intro x hx
 obtain ⟨b,_,rfl⟩:=Ql.mp hx
 rfl
theorem Jqt:(Jap (Bs R f a) (Bs R f x))=(Qf R).map λ b=>.tuple [.bool (f a b),.bool (f x b)]:=by
 unfold Jap Bs
 rw [List.zipWith_map_left,List.zipWith_map_right,List.zipWith_self]
end
theorem Jm7 {ps:List (Addr×List Yce)}{m:List (List Yce)}(h:ps.map (·.2)=m) {x:Nat}{r:List Yce}(hr:m[x]? = some r):∃ p,ps[x]? = some p/\p.2=r:=by
 subst h
 rw [Qs] at hr
 exact Uu.mp hr
theorem Jhk {ps:List (Addr×List Yce)}{m:List (List Yce)}(h:ps.map (·.2)=m):ps.length=m.length:=by rw [<- h,Qb]
theorem Jm8 {ps:List (Addr×List Yce)}{m m':List (List Yce)}(h:ps.map (·.2)=m) {x:Nat}{b:Addr}{r:List Yce}(hr:m.set x r=m'):(ps.set x (b,r)).map (·.2)=m':=by rw [J6a,h];exact hr
theorem Jk3 {ps:List (Addr×List Yce)}{R:Nat}{f:Nat->Nat->Bool}(h:ps.map (·.2)=Bb R f) {x:Int}(h0:0<=x) (h1:x<R):atI (ps.map λ p=>X7 p.2) x=some (.list (Bs R f x.toNat)):=by
 have hx:x.toNat<R:=by omega
 obtain ⟨p,hp,e⟩:=Jm7 h (Jas (f:=f) hx)
 unfold atI
 rw [Qb,Vm h0 (by rw [Jhk h,Bt];exact h1)]
 show (ps.map λ p=>X7 p.2)[x.toNat]? = _
 rw [Qs,hp,<- e];rfl
theorem Jk4 {R a:Nat}{f:Nat->Nat->Bool}{y:Int}(h0:0<=y) (h1:y<R):atI (Bs R f a) y=some (.bool (f a y.toNat)):=by
 unfold atI
 rw [Jby,Vm h0 h1]
 exact Jdv (by omega)
theorem Jm9 {turn:Yce->Nat->(List Yce->Nat->Prop)->Prop}{n:Nat}(f:Nat->List Yce) {e:Nat->Yce}:∀ (l:List Nat) {Q:List (List Yce)->Nat->Prop},(∀ i∈l,∀ K:List Yce->Nat->Prop,K (f i) n->turn (e i) n K)->Q (l.map f) n->Jvi turn (l.map e) n Q
 | [],_,_,q=>q
 | i::l,Q,h,q=>by
  show turn (e i) n _
  exact h i Qd _ (Jm9 f l (λ j hj=>h j (Qh _ hj)) q)
noncomputable def J2 (ws:List Way) (ks:List Int):List (Nat×Nat):=ks.map λ k=>((Ja ws k).a.toNat,(Ja ws k).b.toNat)
noncomputable def pw0 (es:List (Nat×Nat)) (a b:Nat):Bool:=decide (a=b)||decide ((a,b)∈es)
noncomputable def pwR (es:List (Nat×Nat)) (m r a b:Nat):Bool:=if a<r then Pw es (m+1) a b else Pw es m a b
theorem Jxy {es:List (Nat×Nat)}{m r b:Nat}:pwR es m r m b=Pw es m m b:=by
 unfold pwR
 split
 . rw [Pw]
   cases Pw es m m b<;>simp
 . rfl
theorem Jk5 {es:List (Nat×Nat)}{a b x y:Nat}:pw0 (es++[(a,b)]) x y=(pw0 es x y||decide (x=a/\y=b)):=by
 unfold pw0
 rw [Bool.or_assoc]
 congr 1
 rw [<- Bool.decide_or]
 exact decide_eq_decide.mpr (by rw [Qz,Qm,Prod.mk.injEq])
theorem Jxz {R a b:Nat}{es:List (Nat×Nat)}(ha:a<R) (hb:b<R):(Bb R (pw0 es)).set a ((Bs R (pw0 es) a).set b (.bool true))=Bb R (pw0 (es++[(a,b)])):=by
 refine Jm6 ha (λ x _ hx y _=>?_) (Jvm hb ?_ λ y _ hy=>?_)
 . rw [Jk5,decide_eq_false λ z=>hx z.1,J79]
 . rw [Jk5,decide_eq_true ⟨rfl,rfl⟩,Ybc]
 . rw [Jk5,decide_eq_false λ z=>hy z.2,J79]
theorem Jhl {es:List (Nat×Nat)}{m r b:Nat}:pwR es m r r b=Pw es m r b:=if_neg (Xe r)
theorem Jx0 {R m r:Nat}{es:List (Nat×Nat)}(hr:r<R) (h:Pw es m r m=true):(Bb R (pwR es m r)).set r ((Qf R).map λ b=>.bool (pwR es m r r b||pwR es m r m b))=Bb R (pwR es m (r+1)):=by
 refine Jm6 hr (λ x _ hx y _=>?_) ?_
 . unfold pwR
   by_cases c:x<r
   . rw [if_pos c,if_pos (by omega)]
   . rw [if_neg c,if_neg (by omega)]
 . unfold Bs
   refine Xy λ b _=>?_
   rw [Jhl,Jxy,pwR,if_pos (by omega),Pw,h,J5q]
theorem J1w {R m r:Nat}{es:List (Nat×Nat)}(h:Pw es m r m=false):Bb R (pwR es m r)=Bb R (pwR es m (r+1)):=by
 refine Jhj λ x _ y _=>?_
 unfold pwR
 by_cases c:x<r
 . rw [if_pos c,if_pos (by omega)]
 . rw [if_neg c]
   by_cases e:x=r
   . subst e
     rw [if_pos (by omega),Pw,h,J96,J79]
   . rw [if_neg (by omega)]
theorem J36 {es:List (Nat×Nat)}{m:Nat}:pwR es m 0=Pw es m:=by
 funext a b
 exact if_neg (J7x a)
theorem Jx1 {R m:Nat}{es:List (Nat×Nat)}:Bb R (pwR es m R)=Bb R (Pw es (m+1)):=Jhj λ _ hx _ _=>if_pos hx
theorem J1x {es:List (Nat×Nat)}:pw0 es=Pw es 0:=by
 funext a b
 rw [Pw];rfl
theorem Jk6 {k i:Nat}{x:Yce}(h:(Jg1 0 k)[i]? = some x):i<k/\x = .int (i:Int):=by
 unfold Jg1 at h
 rw [Qs] at h
 obtain ⟨j,hj,rfl⟩:=Uu.mp h
 obtain ⟨hi,e⟩:=Qr.mp hj
 rw [J70] at e
 subst e
 rw [Xi] at hi
 exact ⟨hi,by rw [J9m]⟩
noncomputable def Jk7 (R:Nat) (es:List (Nat×Nat)):Yce:=.list ((Bb R (Pw es R)).map .list)
def Jk8:GSp:=λ as n Q=>∃ (R U:Int) (ws:List Way) (ks:List Int),as=[.d (Jq R U ws),.d (.list (ks.map .int))]/\BookOk R U ws/\(∀ k∈ks,0<=k/\k<ws.length)/\Q (Jk7 R.toNat (J2 ws ks)) n
theorem Jvn {ps:List (Addr×List Yce)}{R:Nat}{es:List (Nat×Nat)}(h:ps.map (·.2)=Bb R (Pw es R)):X7 (ps.map λ p=>.list p.2)=Jk7 R es:=by
 unfold Jk7
 rw [<- h,Q0];rfl
theorem Jso {ws:List Way}{ks:List Int}{i:Nat}{k:Int}(h:ks[i]? = some k):J2 ws (ks.take (i+1))=J2 ws (ks.take i)++[((Ja ws k).a.toNat,(Ja ws k).b.toNat)]:=by
 unfold J2
 rw [J9n,h,Qu];rfl
section
variable {X:Cx}{pins:List (Addr×Obj)}{σ:L2.St}{H:Hp}{s:Ycg}{a:Addr}{kvs:List (Key×V)}{k:Key}{u:Ycf}{A:Yck}{E:Ycf->Ycg->Prop}
theorem Jvo {r:Ycf}{z:V}{Q:Ycf->Ycg->Prop}(I:Inv X pins σ H s) (e:H a=some (.dK kvs)) (hl:kvs.length<sizeLine) (ry:Yc (kV k) u) (rz:Yc z r)
 (h1:∀ v w' s',Wj kvs k=some v->Inv X pins σ H s'->Yc v w'->Q w' s') (h2:Wj kvs k=none->∀ s',Inv X pins σ (upd H a (.dK (Zo kvs k z))) s'->Q r s') :
 Ych (model X.prog X.w) A (call (.builtin "dict.setdefault") [.ref a,u,r]) Q E s:=by
 obtain ⟨zz,hd,vs,rel,dd⟩:=Jiu I.hok e
 refine Ydm Ybj dd.typeIs PySem.F.entry_dict_setdefault (PySem.F.args_dict_setdefault_3 _ _ _) (kt_meets_setdefault (Yp X.prog X.w) a (Je7 ry) hd r) ⟨vs,dd,by rw [<- rel.length];exact zz,λ w' hw=>?_,λ hn h' dd' hs=>?_⟩
 . cases l:Wj kvs k with
   | none=>
    have:=Jbf.none_of (o:=valueAt vs k) (by rw [<- l];exact rel.val k)
    rw [this] at hw
    cases hw
   | some v=>
    obtain ⟨w2,e2,r2⟩:=Jbf.some_of (v:=v) (o:=valueAt vs k) (by rw [<- l];exact rel.val k)
    rw [e2] at hw
    cases hw
    exact h1 v _ _ l (I.tok _) r2
 . cases l:Wj kvs k with
   | some v=>
    obtain ⟨w2,e2,r2⟩:=Jbf.some_of (v:=v) (o:=valueAt vs k) (by rw [<- l];exact rel.val k)
    rw [e2] at hn
    cases hn
   | none=>
    refine h2 l _ ?_
    have he:∃ q,h'.get? a=some q:=let ⟨q,_,_,hq,_⟩:=dd';⟨q,hq⟩
    have hl':(Zo kvs k z).length<=sizeLine:=by have:=W1 kvs k z;omega
    exact Jde I (by rw [e];exact X9) hs he (Jj8 hl' hd (rel.put k rz) dd')
end
def Jvp (td ty tx:TE):TE:=λ σ H Q=>td σ H λ x H1=>∃ a,x = .ref a/\IsD H1 a/\ty σ H1 λ y H2=>tx σ H2 λ z H3=>∃ kvs k,H3 a=some (.dK kvs)/\y=kV k/\kvs.length<sizeLine /\
 (∀ v,Wj kvs k=some v->Q v H3)/\(Wj kvs k=none->Q z (upd H3 a (.dK (Zo kvs k z))))
def Jvq (td:TE):TE:=λ σ H Q=>td σ H λ x H1=>∃ a kvs,x = .ref a/\H1 a=some (.dK kvs)/\∀ p,H1 p=none->Q (.ref p) (upd H1 p (.lst (kvs.map (·.2))))
theorem Jx2:∀ {kvs:List (Key×V)}{vs:List (Key×Ycf)},KV kvs vs->J9 (kvs.map (·.2)) (vs.map (·.2)):=by
 intro kvs vs r
 unfold KV at r
 induction r with
 | nil=>exact .nil
 | cons h _ ih=>exact .cons h.2 ih
section
variable {X:Cx}{o e f:Expr}{apos cpos p pos:Pos}{td ty tx:TE}
theorem Jvr (ho:PE X o td) (he:PE X e ty) (hf:PE X f tx) (m:M2 X o "setdefault" apos e f cpos):PE X (.Call (.Attribute o "setdefault" apos) [e,f] [] cpos) (Jvp td ty tx):=by
 intro pins s σ H Q I h
 refine wpAny_Call_method m.base m.few m.line J8z Ybj PySem.F.type_dict_setdefault (thn (ho pins s σ H _ I h) λ u s1 ⟨x,H1,I1,rx,a,ex,d,q1⟩=>?_)
 subst ex
 obtain rfl:u=Xc a:=rx
 obtain ⟨t1,t2,_⟩:=Jor I1 d
 refine ⟨t1,t2,?_⟩
 rw [m.trees]
 refine J7m rfl (J7n (J6e (thn (he pins s1 σ H1 _ I1 q1) λ iv s2 ⟨y,H2,I2,ry,q2⟩=>
  J6e (thn (hf pins s2 σ H2 _ I2 q2) λ fv s3 ⟨z,H3,I3,rz,kvs,k,ea,ey,hl,q3,q4⟩=>J7i ?_))))
 subst ey
 exact Jvo I3 ea hl ry rz (λ v w' s4 l I4 rw'=>⟨v,H3,I4,rw',q3 v l⟩) λ l s4 I4=>⟨z,_,I4,rz,q4 l⟩
theorem Jvs (hh:X.A.handled=none) (hg:Gl X "list") (hm:X.mg "list" = none) (ho:PE X o td)
 (hbase:Ydu o "values" X.env (eval o X.env)=eval o X.env:=by rfl) (hline:(apos.endLine==cpos.line)=true:=by rfl)
 (he:starEach [.Call (.Attribute o "values" apos) [] [] cpos] X.env=[(false,eval (.Call (.Attribute o "values" apos) [] [] cpos) X.env)]:=by rfl)
 (ht:backTo pos (starEach [.Call (.Attribute o "values" apos) [] [] cpos] X.env)=[(false,eval (.Call (.Attribute o "values" apos) [] [] cpos) X.env)]:=by rfl) :
 PE X (.Call (.Name "list" p) [.Call (.Attribute o "values" apos) [] [] cpos] [] pos) (Jvq td):=by
 intro pins s σ H Q I h
 refine Ydj (Jbi I hg hm boot_list ?_ (by decide) (by decide))
 refine J6c ?_ he rfl
 rw [ht]
 refine J6e (wpAny_Call_method0_late hbase hline (thn (ho pins s σ H _ I h) λ v s1 ⟨x,H1,I1,r1,a,kvs,ex,ea,q1⟩=>?_))
 subst ex
 obtain rfl:v=Xc a:=r1
 obtain ⟨t1,t2,hd⟩:=Jor I1 (.inl ⟨kvs,.inl ea⟩)
 obtain ⟨z,_,vs,rel,dd⟩:=Jiu I1.hok ea
 refine ⟨"dict","dict.values",J8z,Ybk,PySem.F.type_dict_values,t1,t2,J7m rfl (PySem.evalArgs_none ?_)⟩
 refine Ydm Ybk dd.typeIs PySem.F.entry_dict_values (PySem.F.args_dict_values_1 _) (meets_dict_values (Yp X.prog X.w) a hd) ⟨⟨vs,dd⟩,?_⟩
 refine J7i ?_
 obtain ⟨ep,hat⟩:=dd.dictAt
 refine PySem.W.kdl_call (PySem.W.kdl_values (knd:=Yp X.prog X.w) (kvs:=vs) (ep:=ep)) hh ⟨⟨_,Q5 _ rfl,rfl,rfl⟩,hat.push _⟩ (by rw [<- rel.length];exact z) λ h' tk acc' c' hk hD hacc=>?_
 have ev:=PySem.W.kdl_vals_eq acc'.toList (by rw [J7g];exact hacc.1) λ j v e=>hacc.2 j v (by rw [<- Yag];exact e)
 have hsz:s1.heap.objs.size<=(s1.heap.push { cls:=.type "dict_values",data:=.fields #[.ref a] }).objs.size:=by
  show s1.heap.objs.size<=(s1.heap.objs.push _).size
  rw [Array.size_push];omega
 exact ⟨.ref _,_,I1.laid (t':=tk) (λ b o' q=>hk b o' (Qk _ q)) hsz (show Y1 X.prog X.w _ h' _ (.lst (kvs.map (·.2))) from ⟨by rw [Qb];exact z,acc'.toList,c',by rw [ev];exact Jx2 rel,by rw [Array.toArray_toList];exact hD⟩),rfl,q1 _ (I1.hok.fresh hsz)⟩
end
theorem Jhm {ps:List (Addr×List Yce)}:(Y4 ps).length=ps.length:=by unfold Y4;rw [Qb]
theorem Jvt {ps qs:List (Addr×List Yce)}:Y4 (ps++qs)=Y4 ps++Y4 qs:=by unfold Y4;rw [Qu]
theorem Jx3 {ks:List Key}{vs:List V}{k:Key}(h:k∉ks):((ks.zip vs).any λ kv=>decide (kv.1=k))=false:=by
 rw [J8k]
 intro x hx e
 exact h (of_decide_eq_true e▸(J7j (show (x.1,x.2)∈ks.zip vs from hx)).1)
theorem Jx4 {ks:List Key}{ps:List (Addr×List Yce)}{k:Key}{b:Addr}{ds:List Yce}(hl:ks.length=ps.length) (h:k∉ks):Zo (ks.zip (Y4 ps)) k (.ref b)=(ks++[k]).zip (Y4 (ps++[(b,ds)])):=by
 unfold Zo
 rw [if_neg (by rw [Jx3 h];exact Q7),Jvt,List.zip_append (by rw [Jhm,hl])]
 rfl
theorem Jk9:∀ {ks:List Key}{ps:List (Addr×List Yce)}{k:Key}{v:V},Wj (ks.zip (Y4 ps)) k=some v->∃ (m:Nat) (p:Addr×List Yce),ks[m]? = some k/\ps[m]? = some p/\v = .ref p.1
 | [],ps,k,v,h=>by rw [List.zip_nil_left] at h;cases h
 | c::ks,[],k,v,h=>by cases h
 | c::ks,q::ps,k,v,h=>by
  by_cases e:c=k
  . rw [show ((c::ks).zip (Y4 (q::ps)))=(c,V.ref q.1)::ks.zip (Y4 ps) from rfl,Z8 (show (c,V.ref q.1).1=k from e)] at h
    cases h
    exact ⟨0,q,by rw [<- e];rfl,rfl,rfl⟩
  . rw [show ((c::ks).zip (Y4 (q::ps)))=(c,V.ref q.1)::ks.zip (Y4 ps) from rfl,Yx (show ¬ (c,V.ref q.1).1=k from e)] at h
    obtain ⟨m,p,h1,h2,h3⟩:=Jk9 h
    exact ⟨m+1,p,h1,h2,h3⟩
theorem Jhn:∀ {ks:List Key}{ps:List (Addr×List Yce)}{k:Key},ks.length=ps.length->Wj (ks.zip (Y4 ps)) k=none->k∉ks
 | [],_,_,_,_,h=>by cases h
 | c::ks,[],k,hl,_,_=>by cases hl
 | c::ks,q::ps,k,hl,h,hm=>by
  rw [show ((c::ks).zip (Y4 (q::ps)))=(c,V.ref q.1)::ks.zip (Y4 ps) from rfl] at h
  by_cases e:c=k
  . rw [Z8 (show (c,V.ref q.1).1=k from e)] at h
    cases h
  . rw [Yx (show ¬ (c,V.ref q.1).1=k from e)] at h
    rcases Qg.mp hm with z | hm
    . exact e z.symm
    . exact Jhn (Ybl hl) h hm
section
variable {C:Cv}{ex:List Addr}{env:List Vl}{σ:L2.St}{H H':Hp}{n m:Nat}
theorem At.add2 (A:At C ex env σ H n) {i:Nat}{ks:List Key}{k:Key}{ps:List (Addr×List Yce)}{ds:List Yce}{vs:List V}{a b:Addr}(h:env[i]? = some (.own2 (some ks) ps)) (hs:(σ[i]?).join=some (.ref a)) (hk:k∉ks) (hz1:ps.length<1000000) (bm:b∈ex) (bc:b∉C.S.ch) (hb:H b=some (.lst vs)) (hz:vs.length<=sizeLine) (r:Reps ex H ds vs) (bo:∀ k,b∉Jl env σ k) (b0:C.H0 b=none) :
 At C ex (env.set i (.own2 (some (ks++[k])) (ps++[(b,ds)]))) σ (upd H a (.dK (Zo (ks.zip (Y4 ps)) k (.ref b)))) n:=by
 obtain ⟨a',e',q⟩:=A.ev.sl i _ h
 rw [hs] at e'
 cases e'
 have oi:Jl env σ i=a::ps.map (·.1):=by unfold Jl;rw [h,hs]
 have ha:a∈Jl env σ i:=by rw [oi];exact Qd
 have bi:=bo i
 rw [oi] at bi
 have ba:b≠a:=λ z=>bi (by rw [z];exact Qd)
 have bp:b∉ps.map (·.1):=λ z=>bi (Qh _ z)
 have h0:=A.new i a ha
 have kx:Kp ex H (upd H a (.dK (Zo (ks.zip (Y4 ps)) k (.ref b)))):=Kp.at q.m _
 have hmap:(ps++[(b,ds)]).map (·.1)=ps.map (·.1)++[b]:=by rw [Qu];rfl
 have nd2:=Xm.mp q.nd
 have oo:∀ k' c,c∈Jl (env.set i (.own2 (some (ks++[k])) (ps++[(b,ds)]))) σ k'->c∈Jl env σ k'\/(c=b/\k'=i):=λ k' c hc=>by
  by_cases hk:i=k'
  . subst hk
    have e2:Jl (env.set i (.own2 (some (ks++[k])) (ps++[(b,ds)]))) σ i=a::(ps++[(b,ds)]).map (·.1):=by unfold Jl;rw [Q4 (Qr.mp h).1,hs]
    rw [e2,hmap] at hc
    rw [oi]
    rcases Qg.mp hc with e | hc
    . exact .inl (by rw [e];exact Qd)
    . rcases Qz.mp hc with hc | hc
      . exact .inl (Qh _ hc)
      . exact .inr ⟨Qm.mp hc,rfl⟩
  . have e2:Jl (env.set i (.own2 (some (ks++[k])) (ps++[(b,ds)]))) σ k'=Jl env σ k':=by unfold Jl;rw [Q2 hk]
    rw [e2] at hc
    exact .inl hc
 refine ⟨⟨by rw [Xh];exact A.ev.len,λ k' w e=>?_,A.ev.ch,λ c hc=>?_,C.S.keep A.ev.inv λ c hc o e=>by rw [Ji (λ z=>q.c (by rw [<- z];exact hc))];exact e⟩,A.ex0,A.al0,λ k' l c q1 q2=>?_,λ k' c q=>?_,Kp.late A.kp h0 _,λ x hx=>(A.held x hx).keep kx⟩
 . by_cases hk':i=k'
   . subst hk'
     rw [Q4 (Qr.mp h).1] at e
     cases e
     refine ⟨a,hs,⟨by rw [Jh,Jx4 (ds:=ds) (q.k ks rfl) hk];rfl,by rw [Qw,Xq];omega,(λ l hl=>by cases hl;rw [Qw,Qw,q.k ks rfl];rfl),?_,q.m,q.c,λ t ht=>?_⟩⟩
     . rw [hmap]
       refine Xm.mpr ⟨λ z=>?_,?_⟩
       . rcases Qz.mp z with z | z
         . exact nd2.1 z
         . exact ba (Qm.mp z).symm
       . rw [J6o]
         refine ⟨nd2.2,by simp,λ x hx y hy=>?_⟩
         rw [Qm] at hy
         rintro rfl
         exact bp (hy▸hx)
     . rcases Qz.mp ht with ht | ht
       . have w:=q.i t ht
         have ta:t.1≠a:=λ z=>nd2.1 (by rw [<- z];exact Ql.mpr ⟨t,ht,rfl⟩)
         obtain ⟨us,g1,g2,g3⟩:=w.h
         exact ⟨w.m,w.c,us,by rw [Ji ta];exact g1,g2,g3.keep kx⟩
       . rw [Qm] at ht
         subst ht
         exact ⟨bm,bc,vs,by rw [Ji ba];exact hb,hz,r.keep kx⟩
   . rw [Q2 hk'] at e
     exact SlR.upd q.m (λ c hc z=>hk' (A.sep i k' a ha (by rw [Vy e,<- z];exact hc))) (A.ev.sl k' w e)
 . by_cases hc2:c=a
   . rw [hc2,Jh];intro z;cases z
   . rw [Ji hc2];exact A.ev.al c hc
 . rcases oo k' c q1 with h1 | ⟨rfl,rfl⟩
   . rcases oo l c q2 with h2 | ⟨rfl,rfl⟩
     . exact A.sep k' l c h1 h2
     . exact absurd h1 (bo k')
   . rcases oo l c q2 with h2 | ⟨_,rfl⟩
     . exact absurd h2 (bo l)
     . rfl
 . rcases oo k' c q with h1 | ⟨rfl,_⟩
   . exact A.new k' c h1
   . exact b0
end
def Jvu (i:Nat):TS:=Jcf Jj9 (W6 i)
theorem Jvv {X:Cx}{st:Stmt}{i:Nat}(h:PS X st (Jcf Jj9 (W6 i))):PS X st (Jvu i):=h
abbrev J1y (i:Nat):GS:=λ G env n=>G.nx (env.set i (.own2 (some []) [])) n
instance sv_dnew2 {i:Nat}:SV (Jvu i) (J1y i):=⟨λ {C G D} O {ex env σ H n} A h=>by
 intro p hp
 refine O.nx (A.own2 (ks:=some []) (ps:=[]) (m:=n) (H':=upd H p (.dK [])) ⟨Kp.new hp _,C.S.keep A.ev.inv λ b _ o e=>Kp.new (ex:=[]) hp _ _ _ e (by simp)⟩ hp (λ q hq=>by cases hq) ⟨by rw [Jh];rfl,Q9 _,(λ l hl=>by cases hl;rfl),by simp,Qd,λ z=>C.S.dom A.ev.inv p z hp,λ q hq=>by cases hq⟩) h⟩
abbrev Jz5 (i:Nat) (gy:GE) (gx:GN) (ge:GE):GS:=λ G env n=>match env[i]? with
 | some (.own2 (some ks) ps)=>gy env n λ y n1=>(match y with
  | .int j=>gx env n1 λ ds n2=>ds=[]/\(Qi j∈ks->ge env n2 λ d n3=>∀ m p,ks[m]? = some (Qi j)->ps[m]? = some p->p.2.length<sizeLine/\G.nx (env.set i (.own2 (some ks) (ps.set m (p.1,p.2++[d])))) n3) /\
   (Qi j∉ks->ps.length<1000000/\∀ b,ge (env.set i (.own2 (some (ks++[Qi j])) (ps++[(b,[])]))) n2 λ d n3=>G.nx (env.set i (.own2 (some (ks++[Qi j])) (ps++[(b,[d])]))) n3)
  | _=>False)
 | _=>False
instance sv_setd {K:Qc}{i:Nat}{ty tx te:TE}{gy ge:GE}{gx:GN} [Y:EV false ty gy] [N:NV tx gx] [E:EV true te ge]:SV (Jth (tBM K "list" Jj6 (Jvp (Zv i) ty tx) (Zd te Jgc))) (Jz5 i gy gx ge):=⟨λ {C G D} O {ex env σ H n} A h=>by
 unfold Jz5 at h
 split at h
 . rename_i ks ps e
   obtain ⟨a,ev,q⟩:=A.ev.sl i _ e
   refine ⟨_,Jj ev,a,rfl,.inl ⟨_,.inl q.h⟩,Y.ev A.ev h λ y n1 yv H1 hy s1 ry=>?_⟩
   have A1:=A.step s1
   cases ry with
   | int j=>
    refine N.nv A1.ev hy λ ds n2 b vs H2 hds s2 hb hl hz r=>?_
    obtain ⟨rfl,hin,hout⟩:=hds
    cases r
    have A2:=A1.more s2 hb (by rw [hl];exact Ul _)
    have bc:b∉C.S.ch:=λ z=>C.S.dom A1.ev.inv b z hb
    obtain ⟨a2,ev2,q2⟩:=A2.ev.sl i _ e
    rw [ev] at ev2
    cases ev2
    have hlen:=q2.k ks rfl
    have hzl:=q2.z
    refine ⟨ks.zip (Y4 ps),Qi j,q2.h,rfl,by rw [List.length_zip,Jhm,Ycl];omega,λ v hv=>?_,λ hn=>?_⟩
    . obtain ⟨m,p,hm,hp,rfl⟩:=Jk9 hv
      have w:=q2.i p (Xa hp)
      obtain ⟨us,g1,g2,g3⟩:=w.h
      refine ⟨.inl ⟨rfl,_,SqL.of g1⟩,E.ev A2.ev (hin (Xa hm)) λ d n3 v H3 hd s3 rd=>?_⟩
      obtain ⟨hlt,hnx⟩:=hd m p hm hp
      have g3':=A2.ev.reps s3 g3
      have l:=g3.length
      exact ⟨p.1,us,v,rfl,rfl,s3.1 _ _ g1 w.c,by rw [<- l];exact hlt,O.nx ((A2.step s3).re2 e ev hp (Reps.append g3' (.cons rd .nil)) (by rw [Qw,Xq,<- l];exact hlt)) hnx⟩
    . have hk:=Jhn hlen hn
      obtain ⟨hps,hq⟩:=hout hk
      have A3:=A2.add2 (k:=Qi j) (ds:=[]) e ev hk hps Qd bc hl hz .nil (λ k z=>(Wx A1.ev z).1 hb) (A1.free hb)
      have hba:b≠a:=λ z=>(Wx A1.ev (show a∈Jl env σ i by unfold Jl;rw [e,ev];exact Qd)).1 (by rw [<- z];exact hb)
      have hb3:upd H2 a (.dK (Zo (ks.zip (Y4 ps)) (Qi j) (.ref b))) b=some (.lst []):=by rw [Ji hba];exact hl
      refine ⟨.inl ⟨rfl,_,SqL.of hb3⟩,E.ev A3.ev (hq b) λ d n3 v H3 hd s3 rd=>?_⟩
      have il:i<env.length:=(Qr.mp e).1
      have A5:=(A3.step s3).re2 (j:=ps.length) (p:=(b,[])) (ys:=[d]) (ws:=[v]) (Q4 il) ev (by rw [J5w (Qn _),Nat.sub_self];rfl) (.cons rd .nil) (by rw [Ycl];exact X6 rfl)
      rw [List.set_set,List.set_append_right _ _ (Qn _),Nat.sub_self] at A5
      exact ⟨b,[],v,rfl,rfl,s3.1 _ _ hb3 bc,by rw [Ycl];exact X6 rfl,O.nx A5 hd⟩
   | none=>exact hy.elim
   | bool=>exact hy.elim
   | str=>exact hy.elim
   | list=>exact hy.elim
   | tuple=>exact hy.elim
 . exact h.elim⟩
theorem Jx5 {ks:List Key}{vs:List V}(h:ks.length=vs.length):(ks.zip vs).map (·.2)=vs:=by
 induction ks generalizing vs with
 | nil=>cases vs with
  | nil=>rfl
  | cons=>cases h
 | cons k ks ih=>cases vs with
  | nil=>cases h
  | cons v vs=>
   show v::(ks.zip vs).map (·.2)=_
   rw [ih (Ybl h)]
abbrev Jna (i:Nat):GS:=λ G env n=>match env[i]? with
 | some (.own2 (some _) ps)=>G.rt2 (ps.map (·.2)) n
 | _=>False
instance (priority:=high) sv_retVals {i:Nat}:SV (Jrb (Jvq (Zv i))) (Jna i):=⟨λ {C G D} O {ex env σ H n} A h=>by
 unfold Jna at h
 split at h
 . rename_i ks ps e
   obtain ⟨a,ev,q⟩:=A.ev.sl i _ e
   refine ⟨_,Jj ev,a,_,rfl,q.h,λ p hp=>?_⟩
   rw [Jx5 (by rw [Jhm];exact q.k ks rfl)]
   have s:Yy C.S n H (upd H p (.lst (Y4 ps))):=⟨Kp.new hp _,C.S.keep A.ev.inv λ b _ o e=>Kp.new (ex:=[]) hp _ _ _ e (by simp)⟩
   have oi:Jl env σ i=a::ps.map (·.1):=by unfold Jl;rw [e,ev]
   have pn:∀ x∈ps,x.1≠p:=λ x hx z=>by
    obtain ⟨vs,g1,_⟩:=(q.i x hx).h
    rw [z,hp] at g1;cases g1
   have pex:p∉ex:=λ z=>A.ev.al p z hp
   refine O.r2 ⟨(A.step s).kp,s.2,A.free hp,λ x hx=>A.new i x.1 (by rw [oi];exact Qh _ (Ql.mpr ⟨x,hx,rfl⟩)),⟨Jh,q.z,λ l hl=>(by cases hl),?_,Xu _ Qd,λ z=>pex (A.ev.ch p z),λ x hx=>?_⟩⟩ h
   . refine Xm.mpr ⟨λ z=>?_,(Xm.mp q.nd).2⟩
     obtain ⟨x,hx,e⟩:=Ql.mp z
     exact pn x hx e
   . have w:=q.i x hx
     obtain ⟨vs,g1,g2,g3⟩:=w.h
     refine ⟨Xu _ (Qh _ (Ql.mpr ⟨x,hx,rfl⟩)),w.c,vs,by rw [Ji (pn x hx)];exact g1,g2,?_⟩
     have g4:Reps (p::ex) H x.2 vs:=Reps.add hp g3
     refine Reps.mono (λ b hb=>?_) (g4.keep (Kp.new hp _))
     rcases Qz.mp hb with hb | hb
     . rcases Qg.mp hb with rfl | hb
       . exact Qd
       . obtain ⟨y,hy,rfl⟩:=Ql.mp hb
         exact Qh _ (q.i y hy).m
     . exact Qh _ (A.ex0 b hb)
 . exact h.elim⟩
noncomputable def Vz (g:List (Int×List Int)) (key k:Int):List (Int×List Int):=if key∈g.map (·.1) then g.map λ p=>if p.1=key then (p.1,p.2++[k]) else p else g++[(key,[k])]
noncomputable def Yt (R:Nat) (es:List (Nat×Nat)) (a:Nat):List Nat:=(Qf R).filter λ x=>Pw es R a x&&Pw es R x a
noncomputable def Yk (R:Nat) (es:List (Nat×Nat)) (a:Nat):Int:=(((Yt R es a).headD 0:Nat):Int)
noncomputable def Zp (R:Nat) (es:List (Nat×Nat)) (ws:List Way) (g:List (Int×List Int)) (k:Int):List (Int×List Int):=if Pw es R (Ja ws k).b.toNat (Ja ws k).a.toNat=true then Vz g (Yk R es (Ja ws k).a.toNat) k else g
noncomputable def Ww (R:Nat) (es:List (Nat×Nat)) (ws:List Way) (ks:List Int):List (Int×List Int):=ks.foldl (Zp R es ws) []
noncomputable def Yo (R:Nat) (ws:List Way) (ks:List Int):List (List Int):=(Ww R (J2 ws ks) ws ks).map (·.2)
noncomputable def Jla (rs:List (List Int)):Yce:=.list (rs.map λ r=>.list (r.map .int))
def Jlb:GSp:=λ as n Q=>∃ (R U:Int) (ws:List Way) (ks:List Int),as=[.d (Jq R U ws),.d (.list (ks.map .int))]/\BookOk R U ws/\(∀ k∈ks,0<=k/\k<ws.length)/\ks.length<=1000/\Q (Jla (Yo R.toNat ws ks)) n
theorem Jlc {R:Nat}{es:List (Nat×Nat)}{ws:List Way}{ks:List Int}{i:Nat}{k:Int}(h:ks[i]? = some k):Ww R es ws (ks.take (i+1))=Zp R es ws (Ww R es ws (ks.take i)) k:=by
 unfold Ww
 rw [J9n,h,J8a];rfl
theorem Jvw {R a:Nat}{es:List (Nat×Nat)}{m:Int}(hm:m∈(Yt R es a).map (λ j:Nat=>(j:Int))) (hmin:∀ n∈(Yt R es a).map (λ j:Nat=>(j:Int)),m<=n):m=Yk R es a:=by
 have hp:(Yt R es a).Pairwise (· < ·):=Ycb _ List.pairwise_lt_range
 unfold Yk
 cases e:Yt R es a with
 | nil=>rw [e] at hm;cases hm
 | cons x xs=>
  rw [e] at hm hmin hp
  have h1:=hmin (x:Int) Qd
  obtain ⟨j,hj,rfl⟩:=Ql.mp hm
  show (j:Int)=(x:Int)
  rcases Qg.mp hj with rfl | hj
  . rfl
  . have:=(List.pairwise_cons.mp hp).1 j hj
    omega
theorem Jho {R a:Nat}{es:List (Nat×Nat)}(ha:a<R):a∈Yt R es a:=by
 have:Pw es R a a=true:=Pw.zero (by rw [Pw];simp) R
 unfold Yt
 rw [Q6,this]
 exact ⟨Xj.mpr ha,rfl⟩
noncomputable abbrev Jvx (p:Int×List Int):List Yce:=p.2.map .int
structure RingInv (i:Nat) (g:List (Int×List Int)) (keys:List Key) (ps:List (Addr×List Yce)):Prop where
 ky:keys=g.map λ p=>Qi p.1
 rw:ps.map (·.2)=g.map Jvx
 nd:(g.map (·.1)).Nodup
 gl:g.length<=i
 pl:∀ p∈g,p.2.length<=i
theorem Jx6 {g:List (Int×List Int)}{j:Int}:(Qi j:Key)∈g.map (λ p=>(Qi p.1:Key))↔j∈g.map (·.1):=by
 rw [Ql,Ql]
 constructor
 . rintro ⟨p,hp,e⟩;exact ⟨p,hp,J6s e⟩
 . rintro ⟨p,hp,rfl⟩;exact ⟨p,hp,rfl⟩
theorem RingInv.up {i:Nat}{g:List (Int×List Int)}{keys:List Key}{ps:List (Addr×List Yce)}(h:RingInv i g keys ps):RingInv (i+1) g keys ps:=⟨h.ky,h.rw,h.nd,J8b h.gl,λ p hp=>J8b (h.pl p hp)⟩
theorem RingInv.new {i:Nat}{g:List (Int×List Int)}{keys:List Key}{ps:List (Addr×List Yce)}(h:RingInv i g keys ps) {j k:Int}(hj:(Qi j:Key)∉keys) (b:Addr):RingInv (i+1) (Vz g j k) (keys++[Qi j]) (ps++[(b,[.int k])]):=by
 have hj':j∉g.map (·.1):=λ z=>hj (by rw [h.ky];exact Jx6.mpr z)
 have e:Vz g j k=g++[(j,[k])]:=if_neg hj'
 rw [e]
 refine ⟨by rw [h.ky,Qu];rfl,by rw [Qu,Qu,h.rw];rfl,?_,by rw [Qw,Xq];have:=h.gl;omega,λ p hp=>?_⟩
 . rw [Qu,J6o]
   refine ⟨h.nd,by simp,λ x hx y hy=>?_⟩
   have hy':y=j:=Qm.mp hy
   rintro rfl
   exact hj' (hy'▸hx)
 . rcases Qz.mp hp with hp | hp
   . exact J8b (h.pl p hp)
   . rw [Qm.mp hp];show 1<=i+1;omega
theorem RingInv.add {i:Nat}{g:List (Int×List Int)}{keys:List Key}{ps:List (Addr×List Yce)}(h:RingInv i g keys ps) {j k:Int}{m:Nat}{p:Addr×List Yce}(hm:keys[m]? = some (Qi j)) (hp:ps[m]? = some p):p.2.length<=i/\RingInv (i+1) (Vz g j k) keys (ps.set m (p.1,p.2++[.int k])):=by
 rw [h.ky,Qs] at hm
 obtain ⟨q,hq,ej⟩:=Uu.mp hm
 cases J6s ej
 have e2:p.2=Jvx q:=by
  have:=congrArg (λ l=>l[m]?) h.rw
  simp only [Qs,hp,hq,Option.map_some] at this
  exact Xd this
 have hqm:=Xa hq
 have hj':q.1∈g.map (·.1):=Ql.mpr ⟨q,hqm,rfl⟩
 have e:Vz g q.1 k=g.map λ p=>if p.1=q.1 then (p.1,p.2++[k]) else p:=if_pos hj'
 have ek:(Vz g q.1 k).map (·.1)=g.map (·.1):=by
  rw [e,Q0]
  refine Xy λ x _=>?_
  show (if x.1=q.1 then (x.1,x.2++[k]) else x).1=x.1
  split<;>rfl
 refine ⟨by rw [e2,Qb];exact h.pl q hqm,?_,?_,by rw [ek];exact h.nd,by rw [e,Qb];exact J8b h.gl,λ x hx=>?_⟩
 . have:(Vz g q.1 k).map (λ p=>(Qi p.1:Key))=((Vz g q.1 k).map (·.1)).map (λ x=>(Qi x:Key)):=by rw [Q0];rfl
   rw [this,ek,h.ky,Q0];rfl
 . rw [J6a,h.rw,e,Q0]
   apply U1
   intro t
   by_cases ht:m=t
   . subst ht
     rw [Q4 (by rw [Qb];exact (Qr.mp hq).1),Qs,hq]
     show some (p.2++[Qo k])=some (Jvx (if q.1=q.1 then (q.1,q.2++[k]) else q))
     rw [if_pos rfl,e2]
     show some (q.2.map Qo++[Qo k])=some ((q.2++[k]).map Qo)
     rw [Qu];rfl
   . rw [Q2 ht,Qs,Qs]
     cases hx:g[t]? with
     | none=>rfl
     | some x=>
      have ne:x.1≠q.1:=λ z=>ht (by
       have h1:(g.map (·.1))[m]? = some q.1:=by rw [Qs,hq];rfl
       have h2:(g.map (·.1))[t]? = some q.1:=by rw [Qs,hx,<- z];rfl
       exact (List.getElem?_inj (Qr.mp h1).1 h.nd).mp (h1.trans h2.symm))
      show some (Jvx x)=some (Jvx (if x.1=q.1 then (x.1,x.2++[k]) else x))
      rw [if_neg ne]
 . rw [e] at hx
   obtain ⟨y,hy,rfl⟩:=Ql.mp hx
   have:=h.pl y hy
   split
   . show (y.2++[k]).length<=_
     rw [Qw,Xq];omega
   . omega
theorem Jhp {R:Nat}{f:Nat->Nat->Bool}{x:Int}(h0:0<=x) (h1:x<R):atI ((Bb R f).map X7) x=some (.list (Bs R f x.toNat)):=by
 unfold atI
 rw [Qb,Bt,Vm h0 h1]
 show ((Bb R f).map X7)[x.toNat]? = _
 rw [Qs,Jas (by omega)];rfl
theorem Jsp {i R:Nat}{ws:List Way}{ks:List Int}{keys:List Key}{ps:List (Addr×List Yce)}(h:RingInv i (Ww R (J2 ws ks) ws ks) keys ps):X7 ((ps.map (·.2)).map X7)=Jla (Yo R ws ks):=by
 unfold Jla Yo
 rw [h.rw,Q0,Q0];rfl
noncomputable def onW (cs:List Int):List Int:=((Qf cs.length).filter λ i=>decide (0<cs.getD i 0)).map λ (i:Nat)=>(i:Int)
def Jdw:GSp:=λ as n Q=>∃ (R U:Int) (ws:List Way) (cs:List Int),as=[.d (Jq R U ws),.d (.tuple (cs.map .int))]/\BookOk R U ws/\cs.length=ws.length/\Q (Jla (Yo R.toNat ws (onW cs))) n
noncomputable def Jcg (m:Nat) (ks:List Int):List Int:=(Qf m).map λ (i:Nat)=>((ks.countP λ k=>decide (k=(i:Int)):Nat):Int)
def Jfy:GSp:=λ as n Q=>∃ (R U:Int) (ws:List Way) (cs:List Int),as=[.d (Jq R U ws),.d (.tuple (cs.map .int))]/\BookOk R U ws/\cs.length=ws.length/\Q (.tuple ((rgI ws cs U).map .int)) n
theorem Jqu {ws:List Way}{i:Nat}(h:i<ws.length):(ws.map Zx)[i]? = some (Zx (Ja ws (i:Int))):=Jmn (Vb (Xo i) (by omega))
theorem Jca {cs:List Int}{i:Nat}(h:i<cs.length):(cs.map Qo)[i]? = some (.int (cs.getD i 0)):=by
 rw [Qs,Qx h,Q3,Qx h];rfl
theorem Jdx {m i:Nat}{f:Nat->Yce}(h:i<m):((Qf m).map f)[i]? = some (f i):=by rw [Qs,Uk h];rfl
theorem Jcb {m i:Nat}{f:Nat->Yce}(h:¬ i<m):((Qf m).map f)[i]? = none:=Xt (by rw [Qb,Xi];omega)
theorem Jvy {ws:List Way}{cs:List Int}(h:cs.length=ws.length):Jap (cs.map .int) (ws.map Zx)=(Qf ws.length).map λ (i:Nat)=>J57 [.int (cs.getD i 0),Zx (Ja ws (i:Int))]:=by
 unfold Jap
 apply U1
 intro i
 rw [J9i]
 by_cases hi:i<ws.length
 . rw [Jdx hi,Jca (by omega),Jqu hi]
 . rw [Jcb hi,Xt (l:=cs.map Qo) (by rw [Qb];omega)]
theorem Jcy {cs:List Int}:Jja (cs.map .int)=(Qf cs.length).map λ (i:Nat)=>J57 [.int (i:Int),.int (cs.getD i 0)]:=by
 unfold Jja
 apply U1
 intro i
 rw [Ybe]
 by_cases hi:i<cs.length
 . rw [Jdx hi,Jca hi];rfl
 . rw [Jcb hi,Xt (l:=cs.map Qo) (by rw [Qb];omega)];rfl
theorem J37 {R U:Int}{w:Way}(h:WayOk R U w) {p:Nat}(h1:(p:Int)<U):atI (w.g.map Qo) (p:Int)=some (.int (w.g.getD p 0)):=by
 have gl:=h.len
 have hp:p<w.g.length:=by omega
 unfold atI
 rw [Qb,Vm (Xo p) (by omega)]
 show (w.g.map Qo)[(p:Int).toNat]? = _
 rw [Xb]
 exact Jca hp
theorem Jx7 {m:Nat}:(Jcg m []).map Qo=Qy m (.int 0):=by
 unfold Jcg
 rw [Q0]
 apply U1
 intro i
 rw [Qs]
 by_cases hi:i<m
 . rw [Uk hi,J6f,if_pos hi];rfl
 . rw [Xt (by rw [Xi];omega),Xt (by rw [Uq];omega)];rfl
theorem Jfz {m:Nat}{ks:List Int}:(Jcg m ks).length=m:=by unfold Jcg;rw [Qb,Xi]
theorem Jx8 {m i:Nat}{ks:List Int}(h:i<m):(Jcg m ks)[i]? = some ((ks.countP λ k=>decide (k=(i:Int)):Nat):Int):=by
 unfold Jcg
 rw [Qs,Uk h];rfl
theorem Jjj {m:Nat}{x:Yce}:(Qy m [x]).flatten=Qy m x:=by
 induction m with
 | zero=>rfl
 | succ m ih=>rw [Us,J5k,ih,Us];rfl
def Jld:GSp:=λ as n Q=>∃ (R U:Int) (ws:List Way) (most:Int),as=[.jar,.d (Jq R U ws),.d (.int most)]/\BookOk R U ws/\(1<=most/\most<=5000)/\∀ ns:List Int,InW ws ns->Jbs ws ns->(ns.length:Int)<=most->Q (Jbw ns) n
def Jhq:GSp:=λ as n Q=>∃ (R U:Int) (ws:List Way) (most:Int),as=[.jar,.d (Jq R U ws),.d (.int most)]/\BookOk R U ws/\(1<=most/\most<=5000)/\∀ ns:List Int,InW ws ns->(ns=[]\/∃ a,Pth ws a ns a)->(ns.length:Int)<=most+12->Q (Jbw ns) n
theorem Jx9 {ws:List Way}{Q:Yce->Prop}(h1:ws≠[]->Q (.bool true)) (h2:ws=[]->Q (.bool false)):Jgy true (.tuple (ws.map Zx)) (.tuple []) Q:=by
 refine ⟨⟨by rw [Uj];exact Jm3 ws,rfl,Xk (J6w _ _) (by decide)⟩,?_⟩
 cases ws with
 | nil=>exact h2 rfl
 | cons w ws=>exact h1 (by simp)
theorem Jnb {ns:List Int}(h:ns≠[]):atI (ns.map Qo) (-1)=some (.int (Jdk ns)):=by
 refine Jqr (by simpa using h) ?_
 rw [Ybg,Ya6 h,Jgt h];rfl
theorem Jsq {ws:List Way}{ns:List Int}{k:Int}(h:Jbs ws ns) (hk:ns≠[]->(Ja ws (Jdk ns)).b=(Ja ws k).a):Jbs ws (ns++[k]):=by
 by_cases he:ns=[]
 . subst he;exact trivial
 . have e:=List.dropLast_concat_getLast he
   have h2:=hk he
   rw [Jgt he] at h2
   rw [<- e] at h ⊢
   exact h.snoc h2
theorem Jat {m:Nat}{f:Nat->Int}(h:∀ i,i<m->f i=0):((Qf m).map f).sum=0:=by
 induction m with
 | zero=>rfl
 | succ m ih=>rw [Uv,Qu,Ud,ih λ i hi=>h i (by omega),J5p,J67,h m (by omega)];rfl
theorem Jya {m k:Nat}{f:Nat->Int}(hk:k<m):((Qf m).map λ i=>(if k=i then 1 else 0)*f i).sum=f k:=by
 induction m with
 | zero=>exact absurd hk (J7x k)
 | succ m ih=>
  rw [Uv,Qu,Ud,J5p,J67]
  by_cases e:k=m
  . subst e
    rw [if_pos rfl,Jat (f:=λ i=>(if k=i then 1 else 0)*f i) λ i hi=>by rw [if_neg (by omega),U2]]
    omega
  . rw [if_neg e,ih (by omega),U2,J71]
theorem Jle {m:Nat}{f g:Nat->Int}:((Qf m).map λ i=>f i+g i).sum=((Qf m).map f).sum+((Qf m).map g).sum:=by
 induction m with
 | zero=>rfl
 | succ m ih=>simp only [Uv,Qu,Ud,J5p,J67];rw [ih];omega
theorem Jau {m i:Nat}{ks:List Int}(h:i<m):(Jcg m ks).getD i 0=((ks.countP λ k=>decide (k=(i:Int)):Nat):Int):=by
 rw [Q3,Jx8 h];rfl
theorem Zs {m:Nat}{f g:Nat->Int}(h:∀ i,i<m->f i=g i):((Qf m).map f).sum=((Qf m).map g).sum:=by
 rw [Xy λ i hi=>h i (Xj.mp hi)]
theorem Jf0 {m:Nat}{f:Nat->Int}:∀ {ns:List Int},(∀ k∈ns,0<=k/\k<m)->((Qf m).map λ i=>(Jcg m ns).getD i 0*f i).sum=(ns.map λ k=>f k.toNat).sum
 | [],_=>Jat λ i hi=>by rw [Jau hi];exact U2 _
 | k::ns,h=>by
  obtain ⟨k0,k1⟩:=h k Qd
  have ih:=Jf0 (f:=f) (ns:=ns) λ x hx=>h x (Qh _ hx)
  rw [Qq,Xz,<- ih,<- Jya (m:=m) (k:=k.toNat) (f:=f) (by omega),<- Jle]
  refine Zs λ i hi=>?_
  rw [Jau hi,Jau hi,J68,<- J59]
  congr 1
  by_cases e:k.toNat=i
  . rw [if_pos e,if_pos (decide_eq_true (by omega))];omega
  . rw [if_neg e,if_neg (λ z=>e (by have:=of_decide_eq_true z;omega))];omega
noncomputable def Jae (x r:Int):Int:=if x=r then 1 else 0
theorem Jbz {ws:List Way}{cs:List Int}{r:Int}:∀ i,Wr ws cs i r=((Qf i).map λ j=>cs.getD j 0*(Jae (Ja ws (j:Nat)).b r-Jae (Ja ws (j:Nat)).a r)).sum
 | 0=>rfl
 | i+1=>by
  rw [Wr,Jbz i,Uv,Qu,Ud,J5p,J67]
  unfold Jae
  by_cases h1:(Ja ws (i:Nat)).a=r
  . by_cases h2:(Ja ws (i:Nat)).b=r
    . rw [if_pos h1,if_pos h2,if_pos h1,if_pos h2];simp
    . rw [if_pos h1,if_neg h2,if_pos h1,if_neg h2];omega
  . by_cases h2:(Ja ws (i:Nat)).b=r
    . rw [if_neg h1,if_pos h2,if_neg h1,if_pos h2];omega
    . rw [if_neg h1,if_neg h2,if_neg h1,if_neg h2];omega
theorem Jhr {ws:List Way}{r:Int}:∀ {ns:List Int}{a b:Int},Pth ws a ns b->(ns.map λ k=>Jae (Ja ws ((k.toNat:Nat):Int)).b r-Jae (Ja ws ((k.toNat:Nat):Int)).a r).sum=Jae b r-Jae a r
 | [],a,b,h=>by
  have:a=b:=h
  subst this
  show (0:Int)=_
  omega
 | k::ns,a,b,h=>by
  obtain ⟨⟨k0,_⟩,e,t⟩:=h
  rw [Qq,Xz,Jhr t,Xw k0,e]
  omega
theorem Jpj {ws:List Way}{es:List (Nat×Nat)}:∀ {ns:List Int}{a b:Int},Pth ws a ns b->(∀ k∈ns,((Ja ws k).a.toNat,(Ja ws k).b.toNat)∈es)->Rt es a.toNat b.toNat/\∀ k∈ns,Rt es a.toNat (Ja ws k).a.toNat/\Rt es (Ja ws k).b.toNat b.toNat
 | [],a,b,h,_=>by
  have:a=b:=h
  subst this
  exact ⟨.refl _,λ k hk=>by cases hk⟩
 | k::ns,a,b,h,he=>by
  obtain ⟨_,e,t⟩:=h
  obtain ⟨h1,h2⟩:=Jpj t λ x hx=>he x (Qh _ hx)
  have st:Rt es a.toNat (Ja ws k).b.toNat:=by
   rw [<- e]
   exact .step (.refl _) (he k Qd)
  refine ⟨st.trans h1,λ x hx=>?_⟩
  rcases Qg.mp hx with rfl | hx
  . exact ⟨by rw [e];exact .refl _,h1⟩
  . exact ⟨st.trans (h2 x hx).1,(h2 x hx).2⟩
theorem Jvz {R:Nat}{es:List (Nat×Nat)}{ws:List Way}{l:Int}:∀ (ks:List Int) (js:List Int),(∀ k∈ks,Pw es R (Ja ws k).b.toNat (Ja ws k).a.toNat=true/\Yk R es (Ja ws k).a.toNat=l)->ks.foldl (Zp R es ws) [(l,js)]=[(l,js++ks)]
 | [],js,_=>by rw [X5];rfl
 | k::ks,js,h=>by
  obtain ⟨h1,h2⟩:=h k Qd
  rw [J6i]
  have:Zp R es ws [(l,js)] k=[(l,js++[k])]:=by
   unfold Zp Vz
   rw [if_pos h1,h2,if_pos (by simp)]
   show [if l=l then (l,js++[k]) else (l,js)]=_
   rw [if_pos rfl]
  rw [this,Jvz ks _ λ x hx=>h x (Qh _ hx),J5z];rfl
theorem Jv0 {R:Nat}{ws:List Way}{ks:List Int}(hne:ks≠[]) (hr:∀ e∈J2 ws ks,e.1<R/\e.2<R) (h:∀ k∈ks,∀ j∈ks,Rt (J2 ws ks) (Ja ws k).b.toNat (Ja ws j).a.toNat):Yo R ws ks=[ks]:=by
 have ab:∀ k∈ks,Rt (J2 ws ks) (Ja ws k).a.toNat (Ja ws k).b.toNat:=λ k hk=>.step (.refl _) (Ql.mpr ⟨k,hk,rfl⟩)
 have aa:∀ k∈ks,∀ j∈ks,Rt (J2 ws ks) (Ja ws k).a.toNat (Ja ws j).a.toNat:=λ k hk j hj=>(ab k hk).trans (h k hk j hj)
 have rr:∀ k∈ks,∀ j∈ks,Yt R (J2 ws ks) (Ja ws k).a.toNat=Yt R (J2 ws ks) (Ja ws j).a.toNat:=λ k hk j hj=>by
  unfold Yt
  refine J69 λ x _=>?_
  rw [X0,Xg,Xg,Y8 hr,Y8 hr,Y8 hr,Y8 hr]
  exact ⟨λ z=>⟨(aa j hj k hk).trans z.1,z.2.trans (aa k hk j hj)⟩,λ z=>⟨(aa k hk j hj).trans z.1,z.2.trans (aa j hj k hk)⟩⟩
 obtain ⟨k0,rest,e⟩:∃ k rest,ks=k::rest:=by
  cases ks with
  | nil=>exact absurd rfl hne
  | cons a b=>exact ⟨a,b,rfl⟩
 have hk0:k0∈ks:=by rw [e];exact Qd
 have st:Zp R (J2 ws ks) ws [] k0=[(Yk R (J2 ws ks) (Ja ws k0).a.toNat,[k0])]:=by
  unfold Zp
  rw [if_pos ((Y8 hr).mpr (h k0 hk0 k0 hk0))]
  rfl
 have go:Ww R (J2 ws ks) ws ks=[(Yk R (J2 ws ks) (Ja ws k0).a.toNat,ks)]:=by
  have g:∀ es',ks.foldl (Zp R es' ws) []=rest.foldl (Zp R es' ws) (Zp R es' ws [] k0):=λ es'=>by rw [e,J6i]
  unfold Ww
  rw [g,st,Jvz rest [k0] λ x hx=>?_]
  . rw [e];rfl
  . have hx':x∈ks:=by rw [e];exact Qh _ hx
    refine ⟨(Y8 hr).mpr (h x hx' x hx'),?_⟩
    unfold Yk
    rw [rr x hx' k0 hk0]
 unfold Yo
 rw [go];rfl
def Jlf:GSp:=λ as n Q=>∃ (R U:Int) (ws:List Way) (cs:List Int),as=[.d (Jq R U ws),.d (.tuple (cs.map .int))]/\BookOk R U ws/\cs.length=ws.length/\Q (.bool (Jgv R ws cs)) n
theorem Jsr:∀ (vs:List V) (H:Hp) (Q:VK) (E:XK),Jp Jlf vs H Q E->Jkq vs H Q E:=λ vs H Q E h=>by
 obtain ⟨S,ex,as,n,P,r,hc,al,iv,⟨R,U,ws,cs,rfl,ok,hl,q⟩,k⟩:=h
 obtain ⟨u,v,rfl,⟨u',eu,rb⟩,⟨v',ev,rv⟩⟩:=Juz r
 cases eu
 cases ev
 cases rv with
 | tuple e nm z rs=>
  cases rs.ints_inv
  exact ⟨ex,R,U,ws,_,_,cs,rfl,rb,ok,e,nm,hl,λ H' kp=>k _ _ _ _ q (Yy.new iv kp) (.bool _)⟩
theorem Jhs {X:Cx}{K':Qc}(hK:X.K=K'):OpR X (compareOp .In) (rIn K' false):=hK▸Jrj
theorem Jlg:∀ ns:List Int,Xx (ns.map Qo)=true
 | []=>rfl
 | n::ns=>by rw [Qq,Xx,Jlg ns];rfl
theorem Jlh:∀ ns:List Int,Um (ns.map Qo)=0
 | []=>rfl
 | n::ns=>by rw [Qq,Um,Jlh ns];rfl
theorem neL {ns:List Int}{Q:Yce->Prop}(q:Q (.bool false)):Jgy true (Jbw ns) (Jbw ns) Q:=Jeu (by unfold Jbw;rw [Uj];exact Jlg ns) (by unfold Jbw;rw [J5s,Jlh];decide) q
theorem J5b {ns:List Int}{Q:Yce->Prop}(q:Q (.bool false)):Jgy true (.list [.list (ns.map Qo)]) (.list [.list (ns.map Qo)]) Q:=Jeu (by rw [Uj,Xx,Uj,Jlg];rfl) (by rw [J5s,Um,J5s,Jlh];decide) q
theorem Jdy:∀ ns:List Int,(ns.map Qo).all W9=true
 | []=>rfl
 | n::ns=>by rw [Qq,J6g,Jdy ns];rfl
theorem Jqv {k:Int}{ns:List Int}:inD (.int k) (ns.map .int)=decide (k∈ns):=by
 unfold inD
 induction ns with
 | nil=>rfl
 | cons n ns ih=>
  rw [Qq,Ur,ih]
  have:Ua (.int n) (.int k)=decide (n=k):=rfl
  rw [this,X0,J9g,decide_eq_true_iff,decide_eq_true_iff,decide_eq_true_iff,Qg]
  constructor
  . rintro (h | h)
    . exact .inl h.symm
    . exact .inr h
  . rintro (h | h)
    . exact .inl h.symm
    . exact .inr h
theorem Jv1 {ks:List Key}{ps:List (Addr×List Yce)}{k:Key}(hl:ks.length=ps.length) (h:k∈ks):∃ v,Wj (ks.zip (Y4 ps)) k=some v:=by
 cases e:Wj (ks.zip (Y4 ps)) k with
 | none=>exact absurd h (Jhn hl e)
 | some v=>exact ⟨v,rfl⟩
abbrev Jpk (i:Nat) (gy:GE):GE:=λ env n Q=>match env[i]? with
 | some (.own2 (some ks) ps)=>gy env n λ y n1=>(match y with
  | .int j=>Qi j∈ks/\∀ (m:Nat) (p:Addr×List Yce),ks[m]? = some (Qi j)->ps[m]? = some p->Q (.list p.2) n1
  | _=>False)
 | _=>False
instance ev_dlook {i:Nat}{ty:TE}{gy:GE} [Y:EV false ty gy]:EV false (Jp8 (Zv i) ty) (Jpk i gy):=⟨λ {S ex env σ H n Q P} E h k=>by
 unfold Jpk at h
 split at h
 . rename_i ks ps e
   obtain ⟨a,ev,q⟩:=E.sl i _ e
   refine ⟨_,Jj ev,Y.ev E h λ y n1 yv H1 hy s1 ry=>?_⟩
   cases ry with
   | int j=>
    obtain ⟨hj,hq⟩:=hy
    have E1:=E.step s1
    obtain ⟨a1,ev1,q1⟩:=E1.sl i _ e
    rw [ev] at ev1
    cases ev1
    obtain ⟨v,hv⟩:=Jv1 (q1.k ks rfl) hj
    obtain ⟨m,p,hm,hp,rfl⟩:=Jk9 hv
    have w:=q1.i p (Xa hp)
    obtain ⟨us,g1,g2,g3⟩:=w.h
    refine ⟨a,.ref p.1,rfl,by rw [<- hv];exact V7.k (k:=Qi j) q1.h,k _ _ _ _ (hq m p hm hp) s1 (.list g1 w.c g2 (Reps.mono E1.ch g3))⟩
   | none=>exact hy.elim
   | bool=>exact hy.elim
   | str=>exact hy.elim
   | list=>exact hy.elim
   | tuple=>exact hy.elim
 . exact h.elim⟩
noncomputable abbrev J5c:=List Vl->Nat->(List (List Yce)->Nat->Prop)->Prop
section
variable {b:Bool}{i:Nat}{sp:J5c}{E':XK}{t:TA}{gt:GA}
end
theorem Jss {α:Type}{a b c d:List α}(h:a=b) (g:c=d):a++c=b++d:=by rw [h,g]
theorem Jht {α:Type}{P:List α->Prop}(h0:P []) (h1:∀ l a,P l->P (l++[a])) (l:List α):P l:=by
 have:∀ l:List α,P l.reverse:=by
  intro l
  induction l with
  | nil=>exact h0
  | cons a l ih=>rw [List.reverse_cons];exact h1 _ _ ih
 have h:=this l.reverse
 rw [List.reverse_reverse] at h
 exact h
noncomputable def Jdz (c:Int->Option Int) (g:List Int) (k:Int):List Int:=match c k with
 | some y=>if y∈g then g else g++[y]
 | none=>g
noncomputable def Bu (c:Int->Option Int) (ks:List Int):List Int:=ks.foldl (Jdz c) []
theorem Jev {c:Int->Option Int}{ks:List Int}{k:Int}:Bu c (ks++[k])=Jdz c (Bu c ks) k:=by
 unfold Bu;rw [J8a];rfl
theorem Jd0 {c:Int->Option Int}{ks:List Int}{y:Int}:y∈Bu c ks↔∃ k∈ks,c k=some y:=by
 induction ks using Jht with
 | h0=>exact ⟨λ h=>(by cases h),λ ⟨k,h,_⟩=>(by cases h)⟩
 | h1 ks k ih=>
  rw [Jev,Jdz]
  have key:(∃ j∈ks++[k],c j=some y)↔(∃ j∈ks,c j=some y)\/c k=some y:=by
   constructor
   . rintro ⟨j,hj,e⟩
     rcases Qz.mp hj with hj | hj
     . exact .inl ⟨j,hj,e⟩
     . rw [Qm.mp hj] at e;exact .inr e
   . rintro (⟨j,hj,e⟩ | e)
     . exact ⟨j,Xu _ hj,e⟩
     . exact ⟨k,Q8 _ (Qm.mpr rfl),e⟩
  rw [key,<- ih]
  cases e:c k with
  | none=>exact ⟨.inl,λ h=>h.elim id λ h=>by cases h⟩
  | some x=>
   dsimp only
   split
   . rename_i hx
     refine ⟨.inl,λ h=>h.elim id λ h=>?_⟩
     cases h;exact hx
   . rw [Qz,Qm]
     refine ⟨λ h=>h.imp id λ h=>by rw [h],λ h=>h.imp id λ h=>by cases h;rfl⟩
noncomputable def grp (c:Int->Option Int) (ks:List Int) (y:Int):List Int:=ks.filter λ k=>decide (c k=some y)
theorem Jd1 {c:Int->Option Int}{ks:List Int}{k y:Int}:grp c (ks++[k]) y=if c k=some y then grp c ks y++[k] else grp c ks y:=by
 unfold grp
 rw [J7v]
 by_cases e:c k=some y
 . rw [if_pos e,Ybh (by simp [e])];rfl
 . rw [if_neg e,Ybi (by simp [e])];exact X5 _
noncomputable def Zt (R:Nat) (es:List (Nat×Nat)) (ws:List Way) (k:Int):Option Int:=if Pw es R (Ja ws k).b.toNat (Ja ws k).a.toNat=true then some (Yk R es (Ja ws k).a.toNat) else none
theorem Jpl {R:Nat}{es:List (Nat×Nat)}{ws:List Way}(ks:List Int):Ww R es ws ks=(Bu (Zt R es ws) ks).map λ y=>(y,grp (Zt R es ws) ks y):=by
 induction ks using Jht with
 | h0=>rfl
 | h1 ks k ih=>
  have e0:Ww R es ws (ks++[k])=Zp R es ws (Ww R es ws ks) k:=by unfold Ww;rw [J8a];rfl
  rw [e0,ih,Jev,Jdz]
  unfold Zp
  by_cases c:Pw es R (Ja ws k).b.toNat (Ja ws k).a.toNat=true
  . have ck:Zt R es ws k=some (Yk R es (Ja ws k).a.toNat):=if_pos c
    rw [if_pos c,ck]
    generalize Yk R es (Ja ws k).a.toNat=y at ck
    dsimp only
    unfold Vz
    have em:((Bu (Zt R es ws) ks).map λ y=>(y,grp (Zt R es ws) ks y)).map (·.1)=Bu (Zt R es ws) ks:=by rw [Q0];exact List.map_id _
    rw [em]
    split
    . rw [Q0]
      refine Xy λ x hx=>?_
      show (if x=y then (x,grp (Zt R es ws) ks x++[k]) else (x,grp (Zt R es ws) ks x))=_
      rw [Jd1,ck]
      by_cases e:x=y
      . rw [if_pos e,if_pos (by rw [e])]
      . rw [if_neg e,if_neg (λ z=>e (Xd z).symm)]
    . rename_i hy
      rw [Qu]
      refine Jss (Xy λ x hx=>?_) ?_
      . rw [Jd1,ck,if_neg (λ z=>hy (by rw [Xd z];exact hx))]
      . show [(y,[k])]=[(y,grp (Zt R es ws) (ks++[k]) y)]
        rw [Jd1,ck,if_pos rfl]
        have:grp (Zt R es ws) ks y=[]:=by
         unfold grp
         rw [List.filter_eq_nil_iff]
         intro j hj z
         exact hy (Jd0.mpr ⟨j,hj,of_decide_eq_true z⟩)
        rw [this];rfl
  . have ck:Zt R es ws k=none:=if_neg c
    rw [if_neg c,ck]
    refine Xy λ x hx=>?_
    rw [Jd1,ck,if_neg (λ z=>by cases z)]
theorem Jli {R:Nat}{ws:List Way}{ks:List Int}(hr:∀ e∈J2 ws ks,e.1<R/\e.2<R) {k j:Int}(hk:k∈ks) (hj:j∈ks) (h:Pw (J2 ws ks) R (Ja ws k).b.toNat (Ja ws k).a.toNat=true) :
 (Pw (J2 ws ks) R (Ja ws k).b.toNat (Ja ws j).a.toNat&&Pw (J2 ws ks) R (Ja ws j).b.toNat (Ja ws k).a.toNat)=decide (Zt R (J2 ws ks) ws j=some (Yk R (J2 ws ks) (Ja ws k).a.toNat)):=by
 have ab:∀ k∈ks,Rt (J2 ws ks) (Ja ws k).a.toNat (Ja ws k).b.toNat:=λ k hk=>.step (.refl _) (Ql.mpr ⟨k,hk,rfl⟩)
 have lt:∀ k∈ks,(Ja ws k).a.toNat<R:=λ k hk=>(hr _ (Ql.mpr ⟨k,hk,rfl⟩)).1
 rw [Y8 hr] at h
 rw [X0,Xg,Y8 hr,Y8 hr,decide_eq_true_iff]
 unfold Zt
 have least_mem:∀ a,a<R->∃ m,Yk R (J2 ws ks) a=((m:Nat):Int)/\Rt (J2 ws ks) a m/\Rt (J2 ws ks) m a:=λ a ha=>by
  have hs:=Jho (es:=J2 ws ks) ha
  unfold Yk
  cases e:Yt R (J2 ws ks) a with
  | nil=>rw [e] at hs;cases hs
  | cons x xs=>
   have hx:x∈Yt R (J2 ws ks) a:=by rw [e];exact Qd
   have:=(Q6.mp hx).2
   rw [Xg,Y8 hr,Y8 hr] at this
   exact ⟨x,rfl,this.1,this.2⟩
 constructor
 . rintro ⟨h1,h2⟩
   have jj:Rt (J2 ws ks) (Ja ws j).b.toNat (Ja ws j).a.toNat:=(h2.trans (ab k hk)).trans h1
   rw [if_pos ((Y8 hr).mpr jj)]
   have e:Yt R (J2 ws ks) (Ja ws j).a.toNat=Yt R (J2 ws ks) (Ja ws k).a.toNat:=by
    have jk:=(ab j hj).trans h2
    have kj:=(ab k hk).trans h1
    unfold Yt
    refine J69 λ x _=>?_
    rw [X0,Xg,Xg,Y8 hr,Y8 hr,Y8 hr,Y8 hr]
    exact ⟨λ z=>⟨kj.trans z.1,z.2.trans jk⟩,λ z=>⟨jk.trans z.1,z.2.trans kj⟩⟩
   unfold Yk
   rw [e]
 . intro z
   split at z
   . rename_i c
     rw [Y8 hr] at c
     have z:=Xd z
     obtain ⟨m,e1,m1,m2⟩:=least_mem _ (lt j hj)
     obtain ⟨m',e2,m3,m4⟩:=least_mem _ (lt k hk)
     have:m=m':=by rw [e1,e2] at z;omega
     subst this
     exact ⟨h.trans (m3.trans m2),c.trans (m1.trans m4)⟩
   . cases z
noncomputable def Jjk (r:List Int):Yce:=.list (r.map .int)
theorem Jjl:∀ rs:List (List Int),Xx (rs.map Jjk)=true
 | []=>rfl
 | r::rs=>by
  rw [Qq,Xx,Jjl rs]
  unfold Jjk
  rw [Uj,Jlg];rfl
theorem Jjm:∀ rs:List (List Int),Um (rs.map Jjk)<=1
 | []=>by rw [Uf,Um];decide
 | r::rs=>by
  have:=Jjm rs
  rw [Qq,Um]
  have:(Jjk r).depth<=1:=by unfold Jjk;rw [J5s,Jlh];decide
  omega
noncomputable def wkD (p:Int×List Int):Yce:=.tuple [.int p.1,Jbw p.2]
end My
namespace L2
open My
section
variable {X:Cx}
end
end L2
namespace My
open L2
noncomputable def headD:Yce->Yce
 | .tuple (w::_)=>w
 | _=>.none
end My
namespace L2
open My
section
variable {X:Cx}{x y:Str}{e:Expr}{es:List Expr}{p p' pos apos:Pos}{t:TA}{k:Nat}{ps:List Str}{sp:Sp}{i:Int}
end
end L2
namespace My
open L2
noncomputable abbrev J5d:=List Vl->Nat->(List Yce->Nat->Prop)->(Addr->Nat->Prop)->Prop
section
variable {i:Nat}{sp:J5d}{t:TA}{gt:GA}{tv:TE}{gv:GE}{d:Int}
end
end My
namespace L2
open My
theorem Jlj {prog:Ycj}{w:Yci}{A:Yck}{R:Yc5->Ycg->Prop}{s:Ycg}{kx vx target iter:Expr}{ifs:List Expr}{scope:Ycm}{pos:Pos}{it:Ycf}{acc:Addr}{env:Env}(I:Nat->Ycg->Prop)
 (turn:∀ n s,I n s->Ych (model prog w) A (pyNext it) (λ r s₁=>match r with
  | none=>R (.ok .next) s₁
  | some v=>Ych (model prog w) A (letOwnedTupleGo target it v) (λ _ s₁'=>Ych (model prog w) A (assign target env v) (λ _ s₂=>
   Ych (model prog w) A (forIn ifs true λ c r=>if r=true then do let ok <- isTrue c env (eval c env);pure (J5m ok) else pure (J5m r)) (λ ok s₃=>
    if ok=true then Ych (model prog w) A (eval kx env) (λ kv s₄=>Ych (model prog w) A (eval vx env) (λ vv s₄'=>
     Ych (model prog w) A (dictSet acc kv vv) (λ _ s₅=>∃ m,m<n/\I m s₅) NoE s₄') NoE s₄) NoE s₃
    else ∃ m,m<n/\I m s₃) NoE s₂) NoE s₁') NoE s₁) NoE s)
 (n:Nat) (h:I n s) :
 Yct (model prog w) A (.compLoop (.DictComp kx vx [⟨target,iter,ifs,0⟩] scope pos) 0 it (.ref acc) env) R s:=by
 refine codeAny_loop rfl I (λ n s hI=>?_) n h
 show Ych _ A ((compTurn (.DictComp kx vx [⟨target,iter,ifs,0⟩] scope pos) 0 it (.ref acc) env).onRaise (λ x=>do noteFrame x env;theTreesLotGoes x)) _ _ s
 refine wpAny_noted ?_
 rw [compTurn_dict]
 refine wpAny_bind (wpAny_standAt (wpAny_bind (wpAny_mono (turn n s hI) (λ r s₁ h₁=>?_) λ _ _ f=>f.elim)))
 cases r with
 | none=>exact wpAny_pure h₁
 | some v=>
  refine wpAny_bind (wpAny_mono h₁ (λ _ s₁' h₁'=>wpAny_bind (wpAny_mono h₁' (λ _ s₂ h₂=>wpAny_bind (wpAny_mono h₂ (λ ok s₃ h₃=>?_) λ _ _ f=>f.elim)) λ _ _ f=>f.elim)) λ _ _ f=>f.elim)
  cases ok with
  | false=>exact wpAny_pure ⟨rfl,h₃⟩
  | true=>
   exact wpAny_bind (wpAny_bind (wpAny_mono h₃ (λ kv s₄ h₄=>wpAny_bind (wpAny_holding (wpAny_mono h₄ (λ vv s₄' h₄'=>wpAny_bind (wpAny_standAt (wpAny_holding (wpAny_mono h₄' (λ _ s₅ h₅=>wpAny_pure ⟨rfl,h₅⟩) λ _ _ f=>f.elim)))) λ _ _ f=>f.elim))) λ _ _ f=>f.elim))
def Jv2 (J:It) (g:TG) (tt:TT) (tk tv:TE) (l:Addr) (σ0:St) (H0:Hp) (Q:Hp->Prop):Prop:=
 ∃ W:Nat->Nat->St->Hp->Prop,(∃ m,W 0 m σ0 H0)/\∀ i m σ H,W i m σ H ->
  (J.stop i H/\Q H)\/(J.go i H/\∀ x H',J.yld i H x H'->g x σ H' λ σ2 H2=>tt σ2 H2 λ c H3=>
   if c=true then tk σ2 H3 λ y H4=>tv σ2 H4 λ v H5=>∃ kvs k,y=kV k/\H5 l=some (.dK kvs)/\kvs.length<sizeLine/\∃ m',m'<m/\W (i+1) m' σ2 (upd H5 l (.dK (Zo kvs k v)))
   else ∃ m',m'<m/\W (i+1) m' σ2 H3)
theorem J38 {X:Cx}{pins:List (Addr×Obj)}{σ:St}{H:Hp}{s:Ycg}{A:Yck}{E:Ycf->Ycg->Prop}{a:Addr}{kvs:List (Key×V)}{k:Key}{v:V}{u r:Ycf}{Q:Unit->Ycg->Prop}(I:Inv X pins σ H s) (e:H a=some (.dK kvs)) (l:kvs.length<sizeLine) (ry:Yc (kV k) u) (rv:Yc v r) (h:∀ s',Inv X pins σ (upd H a (.dK (Zo kvs k v))) s'->Q () s') :
 Ych (model X.prog X.w) A (dictSet a u r) Q E s:=by
 obtain ⟨z,hd,vs,rel,dd⟩:=Jiu I.hok e
 have hz:vs.length<=sizeLine:=by rw [<- rel.length];exact z
 have hl:(Zo kvs k v).length<=sizeLine:=by have:=W1 kvs k v;omega
 refine wpAny_dictSet_pairs (hsz:=hz) (Je7 ry) dd λ h' dd' hs=>h _ ?_
 have he:∃ q,h'.get? a=some q:=let ⟨q,_,_,hq,_⟩:=dd';⟨q,hq⟩
 exact Jde I (by rw [e];exact X9) hs he (Jj8 hl hd (rel.put k rv) dd')
section
variable {X:Cx}{tg iter kx vx:Expr}{ifs:List Expr}{scope sc:Ycm}{N N':List Str}{k:Nat}{idx:List Nat}{wi:TI}{g:TG}{tt:TT}{tk tv:TE}{pos:Pos}
theorem Jnc {pins:List (Addr×Obj)}{s:Ycg}{σ:St}{E:Ycf->Ycg->Prop}{RR:Ycf->Addr->Yc5->Ycg->Prop}{itv:Ycf}{Qe:Addr->Hp->Prop}
 (hc:X.calm=true) (S:CompScope sc N scope N' k idx) (hsc:X.env.scope=sc) (hNN:X.N=N)
 (hg:∀ C s H fp,PG (Yh X N' scope C s H fp) tg g) (ht:∀ C s H fp,PTs (Yh X N' scope C s H fp) ifs tt) (hk:∀ C s H fp,PE (Yh X N' scope C s H fp) kx tk) (hv:∀ C s H fp,PE (Yh X N' scope C s H fp) vx tv)
 (hit:PIE X pins σ tg (λ J H1=>∀ l,H1 l=none->Jv2 J g tt tk tv l (Yi k idx σ) (upd H1 l (.dK [])) λ H2=>Qe l H2) itv s)
 (hRR:∀ l H2 C s2,Inv X pins σ H2 s2->(∃ m,s2.heap.Ns C m)->Free1 X pins H2 C->Qe l H2->RR (.ref l) C (.ok .next) s2) :
 Ych (model X.prog X.w) X.A newDict (λ acc s₃=>Ych (model X.prog X.w) X.A (newFunctionEnv scope X.env.globals (Ya X.env scope.names []) [] X.env.qual none .none (some X.env)) (λ cenv s₄=>
  Yct (model X.prog X.w) X.A (.compStart (.DictComp kx vx [⟨tg,iter,ifs,0⟩] scope pos) 0 itv acc { cenv with scope:=relabel scope X.env }) (RR acc cenv.locals) s₄) E s₃) E s:=by
 obtain ⟨it,fp,tn,J,H1,rfl,I1,T,st1,f1,q⟩:=hit
 refine wpAny_newObj_type ?_
 have hf0:H1 s.heap.objs.size=none:=I1.hok.fresh (Qn _)
 have hflt:∀ b∈fp,b<s.heap.objs.size:=λ b hb=>let ⟨_,e,_⟩:=T.obj _ _ st1 b hb;Qp e
 generalize hl:s.heap.objs.size=l at *
 have I2:Inv X pins σ (upd H1 l (.dK [])) { s with heap:=s.heap.push { cls:=.type "dict",data:=.dict #[] } }:=
  I1.laid (t':=s.toks) (λ b u e=>Qk _ e) (J7o hl) (by rw [<- hl];exact Jgh s.heap I1.big)
 have st2:tn 0 (s.heap.push { cls:=.type "dict",data:=.dict #[] }):=T.keep _ _ _ st1 λ b _ o e=>Qk _ e
 have f2:∀ b∈fp,Jbj X pins (upd H1 l (.dK [])) b:=λ b hb=>⟨by rw [Ji (Xf (hflt b hb))];exact (f1 b hb).1,(f1 b hb).2⟩
 have hsz2:(s.heap.push { cls:=.type "dict",data:=.dict #[] }).objs.size=l+1:=by rw [Xr,hl]
 have q2:=q l hf0
 generalize hs2:({ s with heap:=s.heap.push { cls:=.type "dict",data:=.dict #[] } }:Ycg)=s2 at I2 ⊢
 have st2:tn 0 s2.heap:=by rw [<- hs2];exact st2
 have hsz2:s2.heap.objs.size=l+1:=by rw [<- hs2];exact hsz2
 refine wpAny_newFunctionEnv S.nocell (by intro y hy;simp at hy) (λ h₁ hns₁ hsb₁=>?_) S.kind
 have hk1:∀ b o,s2.heap.get? b=some o->h₁.get? b=some o:=λ b o e=>hsb₁.extBut b o (Xf (Qp e)) (Qk _ e)
 have hlt2:∀ b∈fp,b<s2.heap.objs.size:=λ b hb=>by rw [hsz2];exact J6l (hflt b hb)
 have I3:=Jgk (t':=s2.toks+([]:List (Str×Ycf)).length) I2 S hsc hNN f2 hlt2 (by simpa using hns₁) hk1
 generalize hC:s2.heap.objs.size=C at *
 have st3:tn 0 h₁:=T.keep _ _ _ st2 λ b _ o e=>hk1 b o e
 obtain ⟨W,⟨m0,w0⟩,turn⟩:=q2
 -- back to the frame around
 have back:∀ {σ':St} {H':Hp} {s':Ycg},Inv (Yh X N' scope C s2 (upd H1 l (.dK [])) fp) [] σ' H' s'->Inv X pins σ H' s':=λ {σ' H' s'} I'=>
  I2.call' I'.os I'.base I'.hok I'.bare λ b hb=>⟨(f2 b hb).2.2.2.1,(f2 b hb).2.1,(f2 b hb).2.2.2.2.1,(f2 b hb).2.2.2.2.2⟩
 have loop:∀ s₃:Ycg,s₃ = { s2 with heap:=h₁,toks:=s2.toks+([]:List (Str×Ycf)).length } ->
  Yct (model X.prog X.w) X.A (.compLoop (.DictComp kx vx [⟨tg,iter,ifs,0⟩] scope pos) 0 (.ref it) (.ref l) (compEnvC scope (Ya X.env scope.names []) C X.env)) (RR (.ref l) C) s₃:=by
  rintro s₃ rfl
  refine Jlj (λ n s'=>∃ i σ' H',Inv (Yh X N' scope C s2 (upd H1 l (.dK [])) fp) [] σ' H' s'/\tn i s'.heap/\(∀ b∈fp,H' b=none)/\W i n σ' H') ?_ m0 ⟨0,_,_,I3,st3,λ b hb=>(f2 b hb).1,w0⟩
  rintro n s4 ⟨i,σ4,H4,I4,st4,fr4,w4⟩
  have stat:∀ {H':Hp},(∀ b∈fp,H' b=none)->∀ b∈fp,Jbj (Yh X N' scope C s2 (upd H1 l (.dK [])) fp) [] H' b:=λ {H'} hn b hb=>
   ⟨hn b hb,(I4.ok.exf b hb).1,I4.ok.exfs b hb,.inl hb,(I4.ok.exf b hb).2,λ p hp=>by cases hp⟩
  rcases turn i n σ4 H4 w4 with ⟨stop,qn⟩ | ⟨go,step⟩
  . refine thn (T.done (Yh X N' scope C s2 (upd H1 l (.dK [])) fp) rfl rfl rfl hc i [] s4 σ4 H4 NoE I4 (stat fr4) st4 stop) λ r s5 ⟨hr,I5⟩=>?_
    subst hr
    have IX:=back I5
    have hCl:C≠X.env.locals:=λ e=>by
     have:=I2.lt
     rw [hC,<- e] at this
     exact Xe _ this
    have hCc:∀ x c,X.env.cells.lookup x=some c->c≠C:=λ x c e z=>by
     obtain ⟨v,o,ho,_⟩:=I2.cell x c e
     have:=Qp ho
     rw [hC,z] at this
     exact Xe _ this
    obtain ⟨m5,hm5,_⟩:=I5.loc
    refine hRR l H4 C s5 IX ⟨m5,hm5⟩ ⟨hCl,hCc,I5.free,by rw [<- hC];exact I2.sz,λ p hp z=>?_⟩ qn
    obtain ⟨e,_⟩:=I2.pin p hp
    have:=Qp e
    rw [hC,z] at this
    exact Xe _ this
  . refine thn (T.item (Yh X N' scope C s2 (upd H1 l (.dK [])) fp) rfl rfl rfl hc i [] s4 σ4 H4 NoE I4 (stat fr4) st4 go) λ r s5 ⟨u,hr,h5⟩=>?_
    subst hr
    refine thn h5 λ _ s6 ⟨x,H6,I6,r6,y6,st6,fr6⟩=>?_
    have I6':=I6.pinned (stat fr6) (T.obj _ _ st6)
    have keepT:∀ {σ7:St} {H7:Hp} {s7:Ycg},Inv (Yh X N' scope C s2 (upd H1 l (.dK [])) fp) ([]++Jco fp s6.heap) σ7 H7 s7->tn (i+1) s7.heap/\∀ b∈fp,H7 b=none:=λ {σ7 H7 s7} I7=>
     ⟨T.keep _ _ _ st6 λ b hb o e=>(I7.pin (b,o) (Q8 _ (Q8 _ (Z7 hb e)))).1,λ b hb=>by
      obtain ⟨o,e,d⟩:=T.obj _ _ st6 b hb
      exact (I7.pin (b,o) (Q8 _ (Q8 _ (Z7 hb e)))).2.1⟩
    refine thn (hg C s2 (upd H1 l (.dK [])) fp _ s6 σ4 H6 x u _ I6' r6 (step x H6 y6)) λ _ s7 ⟨σ7,H7,I7,q7⟩=>?_
    refine thn (ht C s2 (upd H1 l (.dK [])) fp _ s7 σ7 H7 _ I7 q7) λ ok s8 ⟨H8,I8,q8⟩=>?_
    cases ok with
    | false=>
     rw [if_neg (by decide)] at q8 ⊢
     obtain ⟨m',hm,w8⟩:=q8
     have kt:=keepT I8
     exact ⟨m',hm,i+1,σ7,H8,I8.unpinned,kt.1,kt.2,w8⟩
    | true=>
     rw [if_pos rfl] at q8 ⊢
     refine thn (hk C s2 (upd H1 l (.dK [])) fp _ s8 σ7 H8 _ I8 q8) λ u9 s9 ⟨y,H9,I9,r9,q9⟩=>?_
     refine thn (hv C s2 (upd H1 l (.dK [])) fp _ s9 σ7 H9 _ I9 q9) λ v s9' ⟨y',H9',I9',r9',kvs,ky,ey,e9,z9,m',hm,w9⟩=>?_
     subst ey
     refine J38 (X:=Yh X N' scope C s2 (upd H1 l (.dK [])) fp) I9' e9 z9 r9 r9' λ s10 I10=>?_
     have kt:=keepT I10
     exact ⟨m',hm,i+1,σ7,_,I10.unpinned,kt.1,kt.2,w9⟩
 have e2:(newEnv scope C X.env.globals (Ya X.env scope.names []) X.env.qual none .none (some X.env) Yda).locals=C:=rfl
 show Yct _ _ (.compStart _ 0 (.ref it) (.ref l) (compEnvC scope (Ya X.env scope.names []) C X.env)) (RR (.ref l) C) _
 exact codeAny_compStart_dict (loop _ rfl) (T.self _ 0 _ _ _ st3 (loop _ rfl))
def Jjn (i:Nat) (wi:TI) (k:Nat) (idx:List Nat) (g:TG) (tt:TT) (tk tv:TE):TS:=λ D σ H=>wi σ H λ J H1=>∀ l,H1 l=none->Jv2 J g tt tk tv l (Yi k idx σ) (upd H1 l (.dK [])) λ H2=>D.nx (σ.set i (some (.ref l))) H2
theorem Jnd {i:Nat}{y:Str}{py spos:Pos}(hc:X.calm=true) (hN:X.N.Nodup) (hiN:X.N[i]? = some y) (hy:X.env.scope.names.lookup y=some .local) (S:CompScope sc N scope N' k idx) (hsc:X.env.scope=sc) (hNN:X.N=N) (hi:PI X tg iter wi)
 (hg:∀ C s H fp,PG (Yh X N' scope C s H fp) tg g) (ht:∀ C s H fp,PTs (Yh X N' scope C s H fp) ifs tt) (hk:∀ C s H fp,PE (Yh X N' scope C s H fp) kx tk) (hv:∀ C s H fp,PE (Yh X N' scope C s H fp) vx tv)
 (hsw:Yc0 (.DictComp kx vx [⟨tg,iter,ifs,0⟩] scope pos) (some (.Name y py)) spos.line X.env=pure true:=by rfl)
 (hs:∀ x,Ydd iter X.env x=pure x:=by intro _;rfl):PS X (.Assign [.Name y py] (.DictComp kx vx [⟨tg,iter,ifs,0⟩] scope pos) spos) (Jjn i wi k idx g tt tk tv):=by
 intro pins s σ H D I h
 rw [Ydv _ _ _ _ hsw]
 refine wpAny_bind (wpAny_standAt (wpAny_bind ?_))
 show Ych _ X.A (do let _ <- Ydw (.DictComp kx vx [⟨tg,iter,ifs,0⟩] scope pos) scope X.env _ newDict false (eval iter X.env) (some (assign (.Name y py) X.env))) _ _ s
 have hclos:Yc8 scope X.env=pure (Ya X.env scope.names []):=Wo λ x hx hfree=>I.ok.has x.1 (by
  show X.env.scope.names.lookup x.1=_\/X.env.scope.names.lookup x.1=_
  rw [hsc];exact S.fr x hx hfree)
 refine wpAny_bind (wpAny_mono (wpAny_comprehension_free (use:=some (assign (.Name y py) X.env)) (Q:=λ _ s'=>SP X pins D .next s') rfl hs hclos S.kind S.loc (thn (hi pins s σ H _ I h) λ v s1 h1=>thn h1 λ itv s2 h2=>?_))
  (λ _ s' hq=>wpAny_pure (wpAny_pure hq)) λ _ _ e=>e)
 refine Jnc (RR:=λ acc C=>Ydk (model X.prog X.w) X.A X.xe (some (assign (.Name y py) X.env)) (λ _ s'=>SP X pins D .next s') acc C) (Qe:=λ l H2=>D.nx (σ.set i (some (.ref l))) H2) hc S hsc hNN hg ht hk hv h2 ?_
 intro l H2 C s2 I2 hm f q
 obtain ⟨m,hm⟩:=hm
 show Ych _ X.A (assign (.Name y py) X.env (.ref l)) _ _ _
 refine Ydl (Jb5 (v:=.ref l) I2 hN hiN (.inl hy) rfl (λ s' I' hch=>?_) (.inr hy))
 obtain ⟨a,hsb,ha⟩:=hch
 have haC:C≠a:=λ z=>by
  rcases ha with e | e
  . exact f.loc (z.trans e)
  . exact f.cel y a e z.symm
 exact ⟨m,hm.sameBut hsb haC,λ h' hs'=>⟨_,H2,I'.freed f hs',q⟩⟩
end
section
variable {X:Cx}
theorem Jst (hc:X.calm=true):Wz X (.builtin "min") (λ xs H Q=>∃ (p:Addr) (kvs:List (Key×V)) (ns:List Int),xs=[.ref p]/\H p=some (.dK kvs)/\kvs.map (·.1)=ns.map Qi/\ns≠[]/\∀ m∈ns,(∀ n∈ns,m<=n)->Q (.int m) H):=by
 intro pins s σ H xs us Q I r h
 obtain ⟨p,kvs,ns,rfl,e,hn,hne,q⟩:=h
 obtain ⟨u,rfl,ru⟩:=Jak r
 cases ru
 obtain ⟨z,hd,vs,rel,dd⟩:=Jiu I.hok e
 have hl:vs.length=kvs.length:=rel.length.symm
 have hk:vs.map (·.1)=ns.map Qi:=by
  rw [<- hn]
  have:∀ {a:List (Key×V)} {b:List (Key×Ycf)},KV a b->b.map (·.1)=a.map (·.1):=by
   intro a b h
   unfold KV at h
   induction h with
   | nil=>rfl
   | cons h _ ih=>rw [Qq,Qq,ih,h.1]
  exact this rel
 have hlen:vs.length=ns.length:=by
  have:=congrArg J5i hk
  rw [Qb,Qb] at this
  exact this
 have hpos:0<ns.length:=J65.mpr hne
 obtain ⟨ep,da⟩:∃ ep,s.heap.DictAt (Yp X.prog X.w) p vs ep:=by
  obtain ⟨o,es,ep,r⟩:=id dd
  exact ⟨ep,o,es,r⟩
 have hlt:p<s.heap.objs.size:=by
  obtain ⟨o,es,ho,_⟩:=id da
  exact Qp ho
 refine call_min_walk (wpAny_pyIter_dict hd da ?_)
 have inv:∀ i v,(∃ k x,vs[i]? = some (k,x)/\(Yp X.prog X.w).is k v=true)->i<ns.length/\∃ t,v = .int (ns.getD i 0) t:=by
  rintro i v ⟨k,x,hx,hkv⟩
  have hi:i<ns.length:=by rw [<- hlen];exact (Qr.mp hx).1
  have e1:(vs.map (·.1))[i]? = some k:=by rw [Qs,hx];rfl
  rw [hk,Qs,Qx hi] at e1
  cases e1
  refine ⟨hi,?_⟩
  rcases Za (show Jf7 (Qi ns[i]) v=true from hkv) with ⟨j,t,ek,ev⟩ | ⟨y,t,ek,_⟩
  . refine ⟨t,?_⟩
    rw [ev,Q3,Qx hi]
    have:=J6s ek
    rw [<- this];rfl
  . cases ek
 refine ⟨_,_,_,_,_,_,_,rfl,Walks.dictKeys (knd:=Yp X.prog X.w) (A:=X.A.in1) (I.ok.hd hc) s.heap.objs.size p (Xf hlt) vs ep,?_,?_,by omega,CmpOf.ints_lt (λ i=>ns.getD i 0) (λ i v h=>(inv i v h).2),λ v h' tk hP hkp=>?_⟩
 . exact ⟨⟨_,Q5 _ rfl,rfl,rfl⟩,da.at' λ o e=>Qk _ e⟩
 . intro b hb
   show b<(s.heap.push _).objs.size
   rw [Xr]
   rcases Qg.mp hb with rfl | hb
   . exact Ybd _
   . rw [Qm.mp hb];exact J6l hlt
 . obtain ⟨b1,b2⟩:=argBest_lt (λ i=>ns.getD i 0) (vs.length-1)
   generalize argBest (λ i j=>decide ((λ i=>ns.getD i 0) i<(λ i=>ns.getD i 0) j)) (vs.length-1)=m at hP b1 b2
   obtain ⟨hm,t,rfl⟩:=inv m v hP
   have keep:∀ b o,s.heap.get? b=some o->h'.get? b=some o:=λ b o e=>hkp b o (λ z=>by
    rw [Qm.mp z] at e
    exact absurd (Qp e) (Xe _)) (Qk _ e)
   have gm:∀ i (hi:i<ns.length),ns.getD i 0=ns[i]:=λ i hi=>by rw [Q3,Qx hi];rfl
   refine ⟨.int (ns.getD m 0),H,I.kept (t':=tk) keep,⟨t,rfl⟩,q _ ?_ λ n hn=>?_⟩
   . rw [gm m hm];exact Uh _
   . obtain ⟨i,hi,rfl⟩:=Uz.mp hn
     rw [<- gm i hi]
     exact b2 i (by omega)
end
end L2
namespace My
open L2
noncomputable def Vd (kvs:List (Key×Yce)) (k:Key):Option Yce:=(kvs.find? λ kv=>decide (kv.1=k)).map (·.2)
noncomputable def Jcz (kvs:List (Key×Yce)) (k:Key) (v:Yce):List (Key×Yce):=
 if (kvs.any λ kv=>decide (kv.1=k))=true then kvs.map (λ kv=>if kv.1=k then (kv.1,v) else kv) else kvs++[(k,v)]
theorem Jlk {ex:List Addr}{H:Hp}{p:Key×Yce}{kvs:List (Key×Yce)}{kws:List (Key×V)}(h:KvR ex H (p::kvs) kws):∃ v rest,kws=(p.1,v)::rest/\Rep ex H p.2 v/\KvR ex H kvs rest:=by
 obtain ⟨h1,h2⟩:=h
 cases kws with
 | nil=>cases h1
 | cons q rest=>
  rw [Qq,Qq] at h1 h2
  injection h1 with a b
  cases h2 with
  | cons r t=>exact ⟨q.2,rest,by rw [<- a],r,b,t⟩
theorem Jpm {ex:List Addr}{H:Hp}{kws:List (Key×V)}(h:KvR ex H [] kws):kws=[]:=by
 have:=h.1
 cases kws with
 | nil=>rfl
 | cons _ _=>cases this
theorem Jpn {ex:List Addr}{H:Hp}{k:Key}:∀ {kvs:List (Key×Yce)}{kws:List (Key×V)},KvR ex H kvs kws->(Vd kvs k=none/\Wj kws k=none)\/∃ d v,Vd kvs k=some d/\Wj kws k=some v/\Rep ex H d v
 | [],kws,h=>by rw [Jpm h];exact .inl ⟨rfl,rfl⟩
 | p::kvs,kws,h=>by
  obtain ⟨v,rest,rfl,r,t⟩:=Jlk h
  by_cases e:p.1=k
  . exact .inr ⟨p.2,v,by unfold Vd;rw [J9o (by simp [e])];rfl,Z8 e,r⟩
  . have e1:Vd (p::kvs) k=Vd kvs k:=by unfold Vd;rw [J7y (by simp [e])]
    rw [e1,Yx (p:=(p.1,v)) e]
    exact Jpn t
theorem Jv3 {ex:List Addr}{H:Hp}{k:Key}:∀ {kvs:List (Key×Yce)}{kws:List (Key×V)},KvR ex H kvs kws->(kws.any λ kv=>decide (kv.1=k))=kvs.any λ kv=>decide (kv.1=k)
 | [],kws,h=>by rw [Jpm h];rfl
 | p::kvs,kws,h=>by
  obtain ⟨v,rest,rfl,r,t⟩:=Jlk h
  rw [Ur,Ur,Jv3 t]
theorem Jv4 {ex:List Addr}{H:Hp}{k:Key}{d:Yce}{w:V}(rd:Rep ex H d w):∀ {kvs:List (Key×Yce)}{kws:List (Key×V)},KvR ex H kvs kws->KvR ex H (kvs.map λ kv=>if kv.1=k then (kv.1,d) else kv) (kws.map λ kv=>if kv.1=k then (kv.1,w) else kv)
 | [],kws,h=>by rw [Jpm h];exact ⟨rfl,.nil⟩
 | p::kvs,kws,h=>by
  obtain ⟨v,rest,rfl,r,t⟩:=Jlk h
  obtain ⟨t1,t2⟩:=Jv4 rd t
  rw [Qq,Qq]
  by_cases e:p.1=k
  . rw [if_pos e,if_pos e]
    exact ⟨by rw [Qq,Qq,t1],.cons rd t2⟩
  . rw [if_neg e,if_neg e]
    exact ⟨by rw [Qq,Qq,t1],.cons r t2⟩
theorem Jv5 {ex:List Addr}{H:Hp}{k:Key}{d:Yce}{w:V}{kvs:List (Key×Yce)}{kws:List (Key×V)}(h:KvR ex H kvs kws) (rd:Rep ex H d w):KvR ex H (Jcz kvs k d) (Zo kws k w):=by
 unfold Jcz Zo
 rw [Jv3 h]
 split
 . exact Jv4 rd h
 . exact ⟨by rw [Qu,Qu,h.1];rfl,by rw [Qu,Qu];exact Reps.append h.2 (.cons rd .nil)⟩
theorem J1z {ex:List Addr}{H:Hp}{kvs:List (Key×Yce)}{kws:List (Key×V)}(h:KvR ex H kvs kws):kws.length=kvs.length:=by
 have:=congrArg J5i h.1
 rw [Qb,Qb] at this
 exact this
theorem KvR.kp {ex:List Addr}{H H':Hp}{kvs:List (Key×Yce)}{kws:List (Key×V)}(h:KvR ex H kvs kws) (k:Kp ex H H'):KvR ex H' kvs kws:=⟨h.1,h.2.keep k⟩
section
variable {C:Cv}{ex:List Addr}{env:List Vl}{σ:L2.St}{H H':Hp}{n m:Nat}
theorem Jll {i:Nat}{ds:List (Key×Yce)}{a b:Addr}(h:b∈Jl (env.set i (.dct ds)) (σ.set i (some (.ref a))) i):b=a:=by
 unfold Jl at h
 split at h
 . rename_i e1 e2
   have:=Va e1
   cases this
 . rename_i c e1 e2
   have e3:(σ.set i (some (.ref a)))[i]? = some (some (.ref c)):=Jj e2
   have:=Va e3
   cases this
   exact Qm.mp h
 . rename_i e1 e2
   have:=Va e1
   cases this
 . cases h
theorem At.ownD (A:At C ex env σ H n) {i:Nat}{ds:List (Key×Yce)}{vs:List (Key×V)}{a:Addr}(s:Yy C.S m H H') (ha:H a=none) (hl:H' a=some (.dK vs)) (r:KvR (a::ex) H' ds vs) :
 At C (a::ex) (env.set i (.dct ds)) (σ.set i (some (.ref a))) H' m:=by
 have ac:a∉C.S.ch:=λ z=>C.S.dom A.ev.inv a z ha
 have hc:∀ b∈C.S.ch,b∈a::ex:=λ b h=>Qh _ (A.ev.ch b h)
 have E1:Ev C.S (a::ex) env σ H' m:=by
  refine ⟨A.ev.len,λ j w e=>(SlR.add ha (A.ev.sl j w e)).kp hc s.1,hc,λ b hb=>?_,s.2⟩
  rcases Qg.mp hb with rfl | hb
  . rw [hl];intro z;cases z
  . exact A.ev.al.step s b hb
 refine ⟨E1.put ⟨a,vs,rfl,hl,r,Qd,ac⟩,λ b h=>Qh _ (A.ex0 b h),A.al0,λ j k b h1 h2=>?_,λ j b h=>?_,A.kp.trans s.1,λ h hh=>(Rep.add ha (A.held h hh)).keep (s.1.mono hc)⟩
 . by_cases hj:i=j
   . subst hj
     have e:=Jll h1
     subst e
     by_cases hk:i=k
     . exact hk
     . rw [Zk hk] at h2
       exact absurd ha (Wx A.ev h2).1
   . rw [Zk hj] at h1
     by_cases hk:i=k
     . subst hk
       have e:=Jll h2
       subst e
       exact absurd ha (Wx A.ev h1).1
     . rw [Zk hk] at h2
       exact A.sep j k b h1 h2
 . by_cases hj:i=j
   . subst hj
     have e:=Jll h
     subst e
     exact A.free ha
   . rw [Zk hj] at h
     exact A.new j b h
theorem Jjo {i:Nat}{xs ys:List (Key×Yce)}(h:env[i]? = some (.dct xs)):∀ j,Jl (env.set i (.dct ys)) σ j=Jl env σ j:=λ j=>by
 unfold Jl
 by_cases hj:i=j
 . subst hj
   rw [Q4 (Qr.mp h).1,h]
   cases (σ[i]?).join with
   | none=>rfl
   | some v=>cases v<;>rfl
 . rw [Q2 hj]
theorem At.reD (A:At C ex env σ H n) {i:Nat}{xs ys:List (Key×Yce)}{ws:List (Key×V)}{a:Addr}(h:env[i]? = some (.dct xs)) (hs:(σ[i]?).join=some (.ref a)) (r:KvR ex H ys ws) :
 At C ex (env.set i (.dct ys)) σ (upd H a (.dK ws)) n:=by
 have ha:a∈Jl env σ i:=by unfold Jl;rw [h,hs];exact Qm.mpr rfl
 obtain ⟨h1,h2,h3⟩:=Wx A.ev ha
 have h0:=A.new i a ha
 have kx:Kp ex H (upd H a (.dK ws)):=Kp.at h2 _
 refine ⟨⟨by rw [Xh];exact A.ev.len,λ j w e=>?_,A.ev.ch,λ b hb=>?_,C.S.keep A.ev.inv λ b hb o e=>by rw [Ji (λ z=>h3 (by rw [<- z];exact hb))];exact e⟩,A.ex0,A.al0,λ j k b q1 q2=>?_,λ j b q=>?_,Kp.late A.kp h0 _,λ x hx=>(A.held x hx).keep kx⟩
 . by_cases hj:i=j
   . subst hj
     rw [Q4 (Qr.mp h).1] at e
     cases e
     exact ⟨a,ws,hs,Jh,⟨r.1,r.2.keep kx⟩,h2,h3⟩
   . rw [Q2 hj] at e
     exact SlR.upd h2 (λ b hb z=>hj (A.sep i j a ha (by rw [Vy e,<- z];exact hb))) (A.ev.sl j w e)
 . by_cases hb2:b=a
   . rw [hb2,Jh];intro z;cases z
   . rw [Ji hb2];exact A.ev.al b hb
 . rw [Jjo h] at q1 q2;exact A.sep j k b q1 q2
 . rw [Jjo h] at q;exact A.new j b q
theorem At.at_dct (A:At C ex env σ H n) {i:Nat}{xs:List (Key×Yce)}(e:env[i]? = some (.dct xs)):∃ a kws,(σ[i]?).join=some (.ref a)/\H a=some (.dK kws)/\KvR ex H xs kws/\a∈ex/\a∉C.S.ch:=by
 obtain ⟨a,vs,ev,h1,h2,h4,h5⟩:=A.ev.sl i _ e
 exact ⟨a,vs,ev,h1,h2,h4,h5⟩
end
instance (priority:=high) sv_dnew {i:Nat}:SV (Jcf Jj9 (W6 i)) (λ G env n=>G.nx (env.set i (.dct [])) n):=⟨λ {C G D} O {ex env σ H n} A h=>λ p hp=>
 O.nx (A.ownD (Yy.new A.ev.inv (Kp.new hp _)) hp Jh ⟨rfl,.nil⟩) h⟩
abbrev Jlm (i:Nat) (gy:GE):GE:=λ env n Q=>match env[i]? with
 | some (.dct kvs)=>gy env n λ y n1=>(match y with
  | .int j=>∃ d,Vd kvs (Qi j)=some d/\Q d n1
  | _=>False)
 | _=>False
instance ev_dctGet {i:Nat}{ty:TE}{gy:GE} [Y:EV false ty gy]:EV true (Jp8 (Zv i) ty) (Jlm i gy):=⟨λ {S ex env σ H n Q P} E h k=>by
 unfold Jlm at h
 split at h
 . rename_i kvs e
   obtain ⟨a,kws,ev,h1,h2,h4,h5⟩:=E.sl i _ e
   refine ⟨_,Jj ev,Y.ev E h λ y n1 yv H1 hy s1 ry=>?_⟩
   cases ry with
   | int j=>
    obtain ⟨d,hd,hq⟩:=hy
    have h2':=h2.kp (s1.1.mono E.ch)
    rcases Jpn (k:=Qi j) h2' with ⟨e1,_⟩ | ⟨d',v,e1,e2,rd⟩
    . rw [hd] at e1;cases e1
    . rw [hd] at e1;cases e1
      refine ⟨a,v,rfl,by rw [<- e2];exact V7.k (k:=Qi j) (s1.1 _ _ h1 h5),k _ _ _ _ hq s1 rd⟩
   | none=>exact hy.elim
   | bool=>exact hy.elim
   | str=>exact hy.elim
   | list=>exact hy.elim
   | tuple=>exact hy.elim
 . exact h.elim⟩
abbrev Jqw (i:Nat) (gy:GE):GE:=λ env n Q=>match env[i]? with
 | some (.dct kvs)=>gy env n λ y n1=>(match y with
  | .int j=>∃ d,Vd kvs (Qi j)=some d/\Q d n1
  | _=>False)
 | some (.own2 (some ks) ps)=>gy env n λ y n1=>(match y with
  | .int j=>Qi j∈ks/\∀ (m:Nat) (p:Addr×List Yce),ks[m]? = some (Qi j)->ps[m]? = some p->Q (.list p.2) n1
  | _=>False)
 | _=>False
instance (priority:=high) ev_dlook2 {i:Nat}{ty:TE}{gy:GE} [Y:EV false ty gy]:EV false (Jp8 (Zv i) ty) (Jqw i gy):=⟨λ {S ex env σ H n Q P} E h k=>by
 unfold Jqw at h
 split at h
 . rename_i kvs e
   refine (ev_dctGet (i:=i) (ty:=ty)).ev (P:=P) E ?_ λ d n' v H' p s r=>k d n' v H' p s (Rep.mono E.ch r)
   unfold Jlm
   rw [e]
   exact h
 . rename_i ks ps e
   refine (ev_dlook (i:=i) (ty:=ty)).ev (P:=P) E ?_ k
   unfold Jpk
   rw [e]
   exact h
 . exact h.elim⟩
abbrev J5e (neg:Bool) (i:Nat) (gy:GE):GE:=λ env n Q=>gy env n λ y n1=>match env[i]? with
 | some (.dct kvs)=>(match y with
  | .int j=>Q (.bool (if neg then !(Vd kvs (Qi j)).isSome else (Vd kvs (Qi j)).isSome)) n1
  | _=>False)
 | _=>False
theorem J10 {S:Src}{ex:List Addr}{env:List Vl}{σ:L2.St}{H:Hp}{n:Nat}{i:Nat}{kvs:List (Key×Yce)}{j:Int}(E:Ev S ex env σ H n) (e:env[i]? = some (.dct kvs)):∃ a o,(σ[i]?).join=some (.ref a)/\V7 H a (.int j) o/\o.isSome=(Vd kvs (Qi j)).isSome:=by
 obtain ⟨a,kws,ev,h1,h2,h4,h5⟩:=E.sl i _ e
 refine ⟨a,_,ev,V7.k (k:=Qi j) h1,?_⟩
 rcases Jpn (k:=Qi j) h2 with ⟨e1,e2⟩ | ⟨d',v,e1,e2,rd⟩
 . rw [e1,e2];rfl
 . rw [e1,e2];rfl
instance ev_dNotIn {b:Bool}{i:Nat}{ty:TE}{gy:GE} [Y:EV false ty gy]:EV b (Jp9 ty (Zv i)) (J5e true i gy):=⟨λ {S ex env σ H n Q P} E h k=>Y.ev E h λ y n1 yv H1 hy s1 ry=>by
 have E1:=E.step s1
 split at hy
 . rename_i kvs e
   cases ry with
   | int j=>
    obtain ⟨a,o,ev,dg,eo⟩:=J10 (j:=j) E1 e
    exact ⟨_,Jj ev,a,o,rfl,dg,k _ _ _ _ hy s1 (by rw [if_pos rfl,<- eo];exact .bool _)⟩
   | none=>exact hy.elim
   | bool=>exact hy.elim
   | str=>exact hy.elim
   | list=>exact hy.elim
   | tuple=>exact hy.elim
 . exact hy.elim⟩
abbrev J11 (i:Nat) (gy ge:GE):GS:=λ G env n=>ge env n λ d n1=>match env[i]? with
 | some (.dct kvs)=>gy env n1 λ y n2=>(match y with
  | .int j=>kvs.length<sizeLine/\G.nx (env.set i (.dct (Jcz kvs (Qi j) d))) n2
  | _=>False)
 | _=>False
instance sv_dputQ {i:Nat}{ty tv:TE}{gy ge:GE} [Y:EV false ty gy] [E:EV true tv ge]:SV (Jzf (Zv i) ty tv) (J11 i gy ge):=⟨λ {C G D} O {ex env σ H n} A h=>E.ev A.ev h λ d n1 v H1 hd s1 rd=>by
 have A1:=A.step s1
 split at hd
 . rename_i kvs e
   obtain ⟨a,kws,ev,h1,h2,h4,h5⟩:=A1.at_dct e
   refine ⟨_,Jj ev,Y.ev A1.ev hd λ y n2 yv H2 hy s2 ry=>?_⟩
   have A2:=A1.step s2
   cases ry with
   | int j=>
    obtain ⟨hl,hq⟩:=hy
    have h1':=s2.1 _ _ h1 h5
    have h2':=h2.kp (s2.1.mono A1.ev.ch)
    have rd':=A1.ev.rep s2 rd
    exact ⟨a,_,rfl,Jfj.k (k:=Qi j) h1' (by rw [J1z h2];exact hl),O.nx (A2.reD e ev (Jv5 h2' rd')) hq⟩
   | none=>exact hy.elim
   | bool=>exact hy.elim
   | str=>exact hy.elim
   | list=>exact hy.elim
   | tuple=>exact hy.elim
 . exact hd.elim⟩
def Jjp (turn:Yce->Nat->(Option (Int×Yce)->Nat->Prop)->Prop):List Yce->Nat->List (Key×Yce)->(List (Key×Yce)->Nat->Prop)->Prop
 | [],n,acc,Q=>Q acc n
 | x::xs,n,acc,Q=>turn x n λ o n1=>match o with
  | none=>Jjp turn xs n1 acc Q
  | some p=>Jjp turn xs n1 (Jcz acc (Qi p.1) p.2) Q
abbrev Jv6 (bd:GG) (gt:GT) (gk gv:GE) (env:List Vl):Yce->Nat->(Option (Int×Yce)->Nat->Prop)->Prop:=λ x n Q=>bd x env λ env'=>gt env' n λ c n1=>if c=true then gk env' n1 λ y n2=>(match y with | .int j=>gv env' n2 λ d n3=>Q (some (j,d)) n3 | _=>False) else Q none n1
abbrev Jsu (i:Nat) (gi:GN) (k:Nat) (idx ks:List Nat) (bd:GG) (gt:GT) (gk gv:GE):GS:=λ G env n=>gi env n λ items n1=>(ks.all (λ i=>decide (i<k))=true/\items.length<=sizeLine)/\Jjp (Jv6 bd gt gk gv (Jcv k idx env)) items n1 [] λ kvs n2=>G.nx (env.set i (.dct kvs)) n2
instance sv_setcompD {i0:Nat}{wi:TI}{gi:GN}{k:Nat}{idx ks:List Nat}{g:TG}{bd:GG}{tt:TT}{gt:GT}{tk tv:TE}{gk gv:GE} [I:IC wi gi] [G':GV g bd ks] [T:TV tt gt] [A:EV false tk gk] [B:EV true tv gv]:SV (Jjn i0 wi k idx g tt tk tv) (Jsu i0 gi k idx ks bd gt gk gv):=⟨λ {C G D} O {ex env σ H n} A0 h=>by
 have E:=A0.ev
 refine I.ic E h λ items n1 J H1 hc s1 hit l hl=>?_
 obtain ⟨⟨hk,hz⟩,hc⟩:=hc
 have E1:=Jg3 (E.step s1) k idx
 have lch:l∉C.S.ch:=λ z=>C.S.dom s1.2 l z hl
 have hkk:∀ i∈ks,i<k:=λ i hi=>of_decide_eq_true (Ub.mp hk i hi)
 refine ⟨λ i m σ' H2=>i<=items.length/\m=items.length-i/\∃ (n2:Nat) (ds:List (Key×Yce)) (vs:List (Key×V)),Jjp (Jv6 bd gt gk gv (Jcv k idx env)) (items.drop i) n2 ds (λ kvs n'=>G.nx (env.set i0 (.dct kvs)) n')/\Kp (l::C.S.ch) H1 H2/\H2 l=some (.dK vs)/\vs.length<=i/\KvR (l::ex) H2 ds vs/\C.S.inv n2 H2/\(∀ j:Nat,k<=j->σ'[j]? = (Yi k idx σ)[j]?)/\σ'.length=(Yi k idx σ).length,
  ⟨items.length,Q9 _,rfl,n1,[],[],by simpa using hc,Kp.new hl _,Jh,Qn _,⟨rfl,.nil⟩,C.S.keep s1.2 λ b _ o' e=>Kp.new (ex:=[]) hl _ _ _ e (by simp),λ _ _=>rfl,rfl⟩,?_⟩
 rintro i m σ' H2 ⟨hi,rfl,n2,ds,vs,hcm,kp,h2l,hvl,rs,iv2,hsl,hln⟩
 have E2:Ev C.S (l::ex) (Jcv k idx env) σ' H2 n2:=Jqp E1 hl kp (by rw [h2l];intro z;cases z) iv2 Jg4 hsl hln
 have IT:=hit l H2 hl kp E2.al
 rcases U8 i items.length with hlt | hge
 . refine .inr ⟨(IT.2 i items[i] (Qx hlt)).1,λ x H3 y=>?_⟩
   obtain ⟨kp3,rx⟩:=(IT.2 i items[i] (Qx hlt)).2 x H3 y
   rw [J73 hlt] at hcm
   have st3:Yy C.S n2 H2 H3:=Yy.new E2.inv kp3
   have E3:=E2.step st3
   refine G'.gv E3 rx hcm λ env' σ2 ht E4 _ hs hl2=>T.tv E4 ht λ c n4 H4 h4 s4=>?_
   have hs2:∀ j:Nat,k<=j->σ2[j]? = (Yi k idx σ)[j]?:=λ j hj=>by
    rw [hs j λ z=>by have:=hkk j z;omega];exact hsl j hj
   cases c with
   | true=>
    refine A.ev (E4.step s4) h4 λ y n5 yv H5 h5 s5 ry=>?_
    cases ry with
    | int j=>
     refine B.ev ((E4.step s4).step s5) h5 λ d n6 v H6 h6 s6 r6=>?_
     have s26:=st3.trans (s4.trans (s5.trans s6))
     have k6:Kp C.S.ch H2 H6:=s26.1
     have h6l:H6 l=some (.dK vs):=k6 _ _ h2l lch
     have q1:KvR (l::ex) H6 ds vs:=rs.kp (k6.mono E2.ch)
     refine ⟨vs,Qi j,rfl,h6l,by omega,_,(?_:items.length-(i+1)<_),hlt,rfl,n6,Jcz ds (Qi j) d,Zo vs (Qi j) v,h6,?_,Jh,?_,(Jv5 q1 r6).kp (Kp.at Qd _),?_,hs2,hl2.trans hln⟩
     . omega
     . exact (kp.trans (k6.mono λ b hb=>Qh _ hb)).trans (Kp.at Qd _)
     . have:=W1 vs (Qi j) v;omega
     . exact C.S.keep s26.2 λ b hb o e=>by rw [Ji (λ z=>lch (by rw [<- z];exact hb))];exact e
    | none=>exact h5.elim
    | bool=>exact h5.elim
    | str=>exact h5.elim
    | list=>exact h5.elim
    | tuple=>exact h5.elim
   | false=>
    have s24:=st3.trans s4
    refine ⟨_,(?_:items.length-(i+1)<_),hlt,rfl,n4,ds,vs,h4,kp.trans (s24.1.mono λ b hb=>Qh _ hb),s24.1 _ _ h2l lch,by omega,rs.kp (s24.1.mono E2.ch),s24.2,hs2,hl2.trans hln⟩
    omega
 . have e:i=items.length:=by omega
   subst e
   rw [J74] at hcm
   refine .inl ⟨IT.1,?_⟩
   exact O.nx (A0.ownD (i:=i0) ⟨λ b o e nb=>kp b o (s1.1 b o e nb) λ z=>(Qg.mp z).elim (λ e2=>by rw [e2,s1.free hl] at e;cases e) nb,iv2⟩ (s1.free hl) h2l rs) hcm⟩
def Jz6:List V->Hp->VK->Prop:=λ xs H Q=>∃ (p:Addr) (kvs:List (Key×V)) (ns:List Int),xs=[.ref p]/\H p=some (.dK kvs)/\kvs.map (·.1)=ns.map Qi/\ns≠[]/\∀ m∈ns,(∀ n∈ns,m<=n)->Q (.int m) H
theorem Jsv {X:Cx}(hc:X.calm=true):Wz X (.builtin "min") Jz6:=Jst hc
abbrev Jz7 (i:Nat):GE:=λ env n Q=>match env[i]? with
 | some (.dct kvs)=>∃ ns:List Int,kvs.map (·.1)=ns.map Qi/\ns≠[]/\∀ m∈ns,(∀ k∈ns,m<=k)->Q (.int m) n
 | _=>False
instance (priority:=high) ev_minD {b:Bool}{i:Nat}:EV b (tCB Jz6 (Zd (Zv i) Jgc)) (Jz7 i):=⟨λ {S ex env σ H n Q P} E h k=>by
 unfold Jz7 at h
 split at h
 . rename_i kvs e
   obtain ⟨a,kws,ev,h1,h2,h4,h5⟩:=E.sl i _ e
   obtain ⟨ns,hn,hne,q⟩:=h
   exact ⟨_,Jj ev,a,kws,ns,rfl,h1,h2.1.trans hn,hne,λ m hm hle=>k _ _ _ _ (q m hm hle) (.refl E.inv) (.int m)⟩
 . exact h.elim⟩
class ScalN (sp:GSn):Prop where
 sc:∀ {as:List Vl} {n:Nat} {P:List Yce->Nat->Prop},sp as n P->sp as n λ ds n'=>ds.all W9=true/\P ds n'
instance (priority:=high) nv_callL {sp:GSn}{E':XK}{t:TA}{gt:GA} [Z:ScalN sp] [A:AV false t gt]:NV (Jch (Jck sp) [] E' t) (Juq sp gt):=⟨λ {S ex env σ H n Q P} E h k=>
 A.av E h λ as n1 vs H1 h1 s1 r1=>by
  rw [X5]
  exact ⟨S,S.ch,as,n1,_,r1,λ _ h=>h,λ a ha=>(E.step s1).al a (E.ch a ha),s1.2,Z.sc h1,λ ds n' a ws H' p s2 ha hl hz r=>k _ _ _ _ _ p.2 (s1.trans s2) (s1.free ha) hl hz (Jb9 p.1 r _)⟩⟩
theorem Jjq {k k':Key}{v:Yce}:∀ (kvs:List (Key×Yce)),(kvs.map λ kv=>if kv.1=k then (kv.1,v) else kv).find? (λ kv=>decide (kv.1=k'))=(kvs.find? λ kv=>decide (kv.1=k')).map λ kv=>if kv.1=k then (kv.1,v) else kv
 | []=>rfl
 | p::kvs=>by
  rw [Qq]
  have e1:(if p.1=k then (p.1,v) else p).1=p.1:=by split<;>rfl
  by_cases e:p.1=k'
  . rw [J9o (p:=λ kv:Key×Yce=>decide (kv.1=k')) (show decide ((if p.1=k then (p.1,v) else p).1=k')=true by rw [e1];exact decide_eq_true e),J9o (p:=λ kv:Key×Yce=>decide (kv.1=k')) (decide_eq_true e)];rfl
  . rw [J7y (p:=λ kv:Key×Yce=>decide (kv.1=k')) (show ¬ decide ((if p.1=k then (p.1,v) else p).1=k')=true by rw [e1];simpa using e),J7y (p:=λ kv:Key×Yce=>decide (kv.1=k')) (by simpa using e)]
    exact Jjq kvs
theorem Jf1 (kvs:List (Key×Yce)) (k k':Key) (v:Yce):Vd (Jcz kvs k v) k'=if k'=k then some v else Vd kvs k':=by
 unfold Jcz Vd
 by_cases h:(kvs.any λ kv=>decide (kv.1=k))=true
 . rw [if_pos h,Jjq]
   by_cases e:k'=k
   . subst e
     rw [if_pos rfl]
     cases hf:kvs.find? λ kv=>decide (kv.1=k') with
     | none=>
      obtain ⟨x,hx,hk⟩:=J58.mp h
      exact absurd hk (J66.mp hf x hx)
     | some p=>
      have:p.1=k':=by have z:=Ybm hf;exact of_decide_eq_true z
      show some (if p.1=k' then (p.1,v) else p).2=_
      rw [if_pos this]
   . rw [if_neg e]
     cases hf:kvs.find? λ kv=>decide (kv.1=k') with
     | none=>rfl
     | some p=>
      have:p.1=k':=by have z:=Ybm hf;exact of_decide_eq_true z
      show some (if p.1=k then (p.1,v) else p).2=some p.2
      rw [if_neg (λ z=>e (this.symm.trans z))]
 . rw [if_neg h,List.find?_append]
   have hn:∀ x∈kvs,¬ x.1=k:=λ x hx e=>h (J58.mpr ⟨x,hx,decide_eq_true e⟩)
   by_cases e:k'=k
   . subst e
     rw [if_pos rfl,J66.mpr λ x hx=>by simpa using hn x hx]
     simp
   . rw [if_neg e]
     cases hf:kvs.find? λ kv=>decide (kv.1=k') with
     | none=>simp [Qj e,λ z:k=k'=>e z.symm]
     | some p=>rfl
theorem Jyb {kvs:List (Key×Yce)}{k:Key}{v:Yce}{p:Key×Yce}(h:p∈Jcz kvs k v):p.1=k\/p∈kvs:=by
 unfold Jcz at h
 split at h
 . obtain ⟨q,hq,rfl⟩:=Ql.mp h
   by_cases e:q.1=k
   . rw [if_pos e];exact .inl e
   . rw [if_neg e];exact .inr hq
 . rcases Qz.mp h with h | h
   . exact .inr h
   . exact .inl (by rw [Qm.mp h])
theorem Jyc {kvs:List (Key×Yce)}{k:Key}{v:Yce}(h:Vd kvs k=none):(Jcz kvs k v).length=kvs.length+1:=by
 unfold Jcz
 rw [if_neg]
 . rw [Qw];rfl
 . intro z
   obtain ⟨x,hx,hk⟩:=J58.mp z
   unfold Vd at h
   rw [Option.map_eq_none_iff] at h
   exact J66.mp h x hx hk
theorem Jyd {kvs:List (Key×Yce)}{p:Key×Yce}(h:p∈kvs):∃ d,Vd kvs p.1=some d:=by
 unfold Vd
 cases hf:kvs.find? λ kv=>decide (kv.1=p.1) with
 | none=>exact absurd (decide_eq_true rfl) (J66.mp hf p h)
 | some q=>exact ⟨q.2,rfl⟩
noncomputable def Wu (f:Nat->Option (Int×Yce)):Nat->List (Key×Yce)
 | 0=>[]
 | m+1=>match f m with
  | none=>Wu f m
  | some p=>Jcz (Wu f m) (Qi p.1) p.2
theorem Jhu {turn:Yce->Nat->(Option (Int×Yce)->Nat->Prop)->Prop}{f:Nat->Option (Int×Yce)}{n:Nat}{Q:List (Key×Yce)->Nat->Prop}:∀ (xs:List Yce) (m:Nat),(∀ (j:Nat) (x:Yce) (Q':Option (Int×Yce)->Nat->Prop),xs[j]? = some x->Q' (f (m+j)) n->turn x n Q')->Q (Wu f (m+xs.length)) n->Jjp turn xs n (Wu f m) Q
 | [],m,_,q=>q
 | x::xs,m,h,q=>by
  refine h 0 x _ rfl ?_
  have step:Jjp turn xs n (Wu f (m+1)) Q:=Jhu xs (m+1) (λ j y Q' hy hq=>h (j+1) y Q' (by simpa using hy) (by rw [show m+(j+1)=m+1+j by omega];exact hq)) (by rw [show m+1+xs.length=m+(x::xs).length by rw [Xv];omega];exact q)
  have e:Wu f (m+1)=match f m with | none=>Wu f m | some p=>Jcz (Wu f m) (Qi p.1) p.2:=rfl
  rw [e] at step
  rw [Nat.add_zero]
  cases hf:f m with
  | none=>rw [hf] at step;exact step
  | some p=>rw [hf] at step;exact step
theorem Jd2 {f:Nat->Option (Int×Yce)}:∀ {m:Nat}{p:Key×Yce},p∈Wu f m->∃ r:Int,p.1=Qi r
 | 0,p,h=>by cases h
 | m+1,p,h=>by
  unfold Wu at h
  split at h
  . exact Jd2 h
  . rcases Jyb h with e | h
    . exact ⟨_,e⟩
    . exact Jd2 h
theorem Jew {f:Nat->Option (Int×Yce)}{r:Int}:∀ {m:Nat}{d:Yce},Vd (Wu f m) (Qi r)=some d->∃ i,i<m/\f i=some (r,d)
 | 0,d,h=>by cases h
 | m+1,d,h=>by
  unfold Wu at h
  split at h
  . obtain ⟨i,hi,e⟩:=Jew h
    exact ⟨i,by omega,e⟩
  . rename_i p hp
    rw [Jf1] at h
    by_cases e:(Qi r:Key)=Qi p.1
    . rw [if_pos e] at h
      injection e with e
      injection h with h
      exact ⟨m,by omega,by rw [hp,e,<- h]⟩
    . rw [if_neg e] at h
      obtain ⟨i,hi,e⟩:=Jew h
      exact ⟨i,by omega,e⟩
theorem Jne {f:Nat->Option (Int×Yce)}{r:Int}:∀ {m i:Nat}{d:Yce},i<m->f i=some (r,d)->∃ d',Vd (Wu f m) (Qi r)=some d'
 | 0,i,d,h,_=>by omega
 | m+1,i,d,h,e=>by
  unfold Wu
  by_cases hi:i=m
  . subst hi
    rw [e]
    exact ⟨d,by rw [Jf1,if_pos rfl]⟩
  . obtain ⟨d',hd⟩:=Jne (m:=m) (by omega) e
    split
    . exact ⟨d',hd⟩
    . rename_i p hp
      rw [Jf1]
      by_cases e2:(Qi r:Key)=Qi p.1
      . exact ⟨_,if_pos e2⟩
      . exact ⟨d',by rw [if_neg e2];exact hd⟩
noncomputable def J39:Key->Int
 | Qi r=>r
 | _=>0
theorem Jsw {f:Nat->Option (Int×Yce)}{m:Nat}:∃ ns:List Int,(Wu f m).map (·.1)=ns.map Qi/\∀ r∈ns,∃ d,Vd (Wu f m) (Qi r)=some d:=by
 refine ⟨(Wu f m).map λ p=>J39 p.1,?_,?_⟩
 . rw [Q0]
   refine Xy λ p hp=>?_
   obtain ⟨r,e⟩:=Jd2 hp
   show p.1=Qi (J39 p.1)
   rw [e];rfl
 . intro r hr
   obtain ⟨p,hp,rfl⟩:=Ql.mp hr
   obtain ⟨r,e⟩:=Jd2 hp
   have:=Jyd hp
   rw [e] at this ⊢
   exact this
theorem Jqx:∀ {l:List Int},(∀ x∈l,0<=x)->0<=l.sum
 | [],_=>Uo _
 | a::l,h=>by
  rw [Xz]
  have:=h a Qd
  have:=Jqx (l:=l) λ x hx=>h x (Qh _ hx)
  omega
theorem Jv7 {l:List Int}(h:∀ x∈l,0<=x) {a:Int}(ha:a∈l) (hp:0<a):0<l.sum:=by
 induction l with
 | nil=>cases ha
 | cons b l ih=>
  rw [Xz]
  have b0:=h b Qd
  have s0:=Jqx (l:=l) λ x hx=>h x (Qh _ hx)
  rcases Qg.mp ha with rfl | ha
  . omega
  . have:=ih (λ x hx=>h x (Qh _ hx)) ha
    omega
theorem Jnf:∀ {l:List Int},0<l.sum->∃ a∈l,0<a
 | [],h=>by cases h
 | a::l,h=>by
  rw [Xz] at h
  by_cases ha:0<a
  . exact ⟨a,Qd,ha⟩
  . obtain ⟨b,hb,hp⟩:=Jnf (l:=l) (by omega)
    exact ⟨b,Qh _ hb,hp⟩
theorem Jav {cs:List Int}(h:∀ c∈cs,0<=c) (i:Nat):0<=cs.getD i 0:=by
 rw [Q3]
 cases e:cs[i]? with
 | none=>exact Uo _
 | some c=>exact h c (Xa e)
structure RoundOk (R:Int) (ws:List Way) (cs:List Int):Prop where
 len:cs.length=ws.length
 nn:∀ c∈cs,0<=c
 bal:∀ r:Nat,r<R.toNat->Wr ws cs ws.length (r:Nat)=0
theorem Jqy {R U:Int}{ws:List Way}{cs:List Int}(ok:BookOk R U ws) (h:RoundOk R ws cs) {i:Nat}(hi:i<ws.length) (hp:0<cs.getD i 0):∃ j,j<ws.length/\0<cs.getD j 0/\(Ja ws (j:Nat)).a=(Ja ws (i:Nat)).b:=by
 have wok:=ok.ways _ (Yd (Xo i) (by omega))
 have b0:=wok.b0
 have b1:=wok.b1
 have hb:=h.bal (Ja ws (i:Nat)).b.toNat (by omega)
 rw [Xw b0,Ji6] at hb
 have nn:∀ (sel:Way->Int),∀ x∈Jfa ws cs sel ws.length (Ja ws (i:Nat)).b,0<=x:=λ sel x hx=>by
  obtain ⟨j,_,rfl⟩:=Ql.mp hx
  exact Jav h.nn j
 have p1:0<(Jfa ws cs (·.b) ws.length (Ja ws (i:Nat)).b).sum:=Jv7 (nn _) (Ql.mpr ⟨i,Q6.mpr ⟨Xj.mpr hi,decide_eq_true rfl⟩,rfl⟩) hp
 obtain ⟨x,hx,px⟩:=Jnf (l:=Jfa ws cs (·.a) ws.length (Ja ws (i:Nat)).b) (by omega)
 obtain ⟨j,hj,rfl⟩:=Ql.mp hx
 obtain ⟨hj1,hj2⟩:=Q6.mp hj
 exact ⟨j,Xj.mp hj1,px,of_decide_eq_true hj2⟩
theorem Jng {ws:List Way}{b:Int}:∀ {ks:List Int}{a:Int}{p:Nat}{k:Int},Pth ws a ks b->ks[p]? = some k->Pth ws (Ja ws k).a (ks.drop p) b
 | [],_,_,_,_,e=>by cases e
 | x::ks,a,0,k,h,e=>by
  injection e with e
  subst e
  exact ⟨h.1,rfl,h.2.2⟩
 | x::ks,a,p+1,k,h,e=>by
  rw [List.drop_succ_cons]
  exact Jng h.2.2 e
structure ShortOk (ws:List Way) (cs:List Int) (a:Int) (ks:List Int):Prop where
 ne:ks≠[]
 pth:Pth ws a ks a
 nd:(ks.map λ k=>(Ja ws k).a).Nodup
 pos:∀ k∈ks,0<cs.getD k.toNat 0
def Jf2:GSn:=λ as n Q=>∃ (R U:Int) (ws:List Way) (cs:List Int),as=[.d (Jq R U ws),.d (.list (cs.map .int))]/\BookOk R U ws/\RoundOk R ws cs/\(∃ i,i<ws.length/\0<cs.getD i 0)/\∀ (a:Int) (ks:List Int),ShortOk ws cs a ks->Q (ks.map .int) n
noncomputable instance:ScalN Jf2:=⟨λ {as n P} h=>by
 obtain ⟨R,U,ws,cs,e,ok,hl,hi,q⟩:=h
 exact ⟨R,U,ws,cs,e,ok,hl,hi,λ a ks t=>⟨Jdy ks,q a ks t⟩⟩⟩
noncomputable def Jln (ws:List Way) (cs:List Int) (i:Nat):Option (Int×Yce):=if 0<cs.getD i 0 then some ((Ja ws (i:Nat)).a,.int (i:Int)) else none
theorem Jv8 {ws:List Way}{cs:List Int}{r:Int}{d:Yce}{m:Nat}(h:Vd (Wu (Jln ws cs) m) (Qi r)=some d):∃ i:Nat,i<m/\d = .int (i:Int)/\0<cs.getD i 0/\(Ja ws (i:Nat)).a=r:=by
 obtain ⟨i,hi,e⟩:=Jew h
 unfold Jln at e
 split at e
 . rename_i hp
   injection e with e
   injection e with e1 e2
   exact ⟨i,hi,e2.symm,hp,e1⟩
 . cases e
theorem Jqz {ws:List Way}{cs:List Int}{m i:Nat}(hi:i<m) (hp:0<cs.getD i 0):∃ d,Vd (Wu (Jln ws cs) m) (Qi (Ja ws (i:Nat)).a)=some d:=Jne hi (by unfold Jln;rw [if_pos hp])
def Jd3 (rs:List Int) (pl:List (Key×Yce)):Prop:=∀ x:Int,Vd pl (Qi x)=if x∈rs then some (.int ((rs.idxOf x:Nat):Int)) else none
theorem Jpo:Jd3 [] []:=λ x=>by rw [if_neg (by simp)];rfl
theorem Jnh {rs:List Int}{pl:List (Key×Yce)}{r:Int}(h:Jd3 rs pl) (hr:r∉rs):Jd3 (rs++[r]) (Jcz pl (Qi r) (.int ((rs.length:Nat):Int))):=λ x=>by
 rw [Jf1]
 by_cases e:x=r
 . subst e
   rw [if_pos rfl,if_pos (by simp),Ybn,if_neg hr]
   simp
 . rw [if_neg (λ z=>e (by injection z)),h x]
   by_cases hx:x∈rs
   . rw [if_pos hx,if_pos (by simp [hx]),Ybn,if_pos hx]
   . rw [if_neg hx,if_neg (by simp [hx,e])]
theorem Jaw {R:Int}{rs:List Int}(nd:rs.Nodup) (h:∀ x∈rs,0<=x/\x<R):rs.length<=R.toNat:=by
 have:=Jmo R.toNat (rs.map Int.toNat) (by
  unfold List.Nodup at nd ⊢
  rw [J9d]
  refine Ycc (λ {a b} ha hb hab z=>hab ?_) nd
  have:=h a ha
  have:=h b hb
  omega) λ x hx=>by
   obtain ⟨y,hy,rfl⟩:=Ql.mp hx
   have:=h y hy
   omega
 rw [Qb] at this
 exact this
theorem Jv9 {ws:List Way}{ks:List Int}{a b k:Int}(h:Pth ws a ks b) (hk:0<=k/\k<ws.length) (e:(Ja ws k).a=b):Pth ws a (ks++[k]) (Ja ws k).b:=h.app ⟨hk,e,rfl⟩
theorem Jf3 {r:Int}:∀ {rs:List Int},r∈rs->rs[rs.idxOf r]? = some r
 | [],h=>by cases h
 | x::rs,h=>by
  rw [Ybo]
  by_cases e:x=r
  . rw [e];simp
  . have e2:(x==r)=false:=by simpa using e
    rw [e2]
    have:=Jf3 (rs:=rs) ((Qg.mp h).resolve_left (Qj e))
    simpa using this
theorem Jye {ws:List Way}{cs:List Int}{ks rs:List Int}{a r:Int}(h:Pth ws a ks r) (es:ks.map (λ k=>(Ja ws k).a)=rs) (nd:rs.Nodup) (pos:∀ k∈ks,0<cs.getD k.toNat 0) (hr:r∈rs):ShortOk ws cs r (ks.drop (rs.idxOf r)):=by
 have hlt:=J8c hr
 have hl:ks.length=rs.length:=by rw [<- es,Qb]
 have hg:ks[rs.idxOf r]? = some (ks[rs.idxOf r]'(by omega)):=Qx (by omega)
 have ha:(Ja ws (ks[rs.idxOf r]'(by omega))).a=r:=by
  have e1:rs[rs.idxOf r]? = some r:=Jf3 hr
  have e2:rs[rs.idxOf r]? = (ks.map λ k=>(Ja ws k).a)[rs.idxOf r]?:=by rw [es]
  rw [e2,Qs,hg] at e1
  injection e1
 refine ⟨λ z=>?_,?_,?_,λ k hk=>pos k (List.mem_of_mem_drop hk)⟩
 . have:=congrArg J5i z
   rw [U7,J5l] at this
   omega
 . have:=Jng h hg
   rw [ha] at this
   exact this
 . rw [J56,es]
   exact nd.sublist (List.drop_sublist _ _)
theorem Ve {l:List Int}{i:Nat}(h:i<l.length):l.getD i 0=l[i]:=by
 rw [Q3,Qx h];rfl
noncomputable def Wb (ls ks:List Int) (m:Int):List Int:=(Qf ls.length).map λ i=>ls.getD i 0-m*(Jcg ls.length ks).getD i 0
theorem Zy {ls ks:List Int}{m:Int}:(Wb ls ks m).length=ls.length:=by unfold Wb;rw [Qb,Xi]
theorem Jb0 {ls ks:List Int}{m:Int}{i:Nat}(h:i<ls.length):(Wb ls ks m).getD i 0=ls.getD i 0-m*(Jcg ls.length ks).getD i 0:=by
 unfold Wb
 rw [Q3,Qs,Uk h];rfl
theorem Jni {ls:List Int}{m:Int}:Wb ls [] m=ls:=by
 apply J7z
 . exact Zy
 . intro i h1 h2
   have e:=Jb0 (ls:=ls) (ks:=[]) (m:=m) h2
   rw [Jau h2] at e
   have e2:((List.countP (λ k=>decide (k=(i:Int))) ([]:List Int):Nat):Int)=0:=rfl
   rw [e2,J7a,Int.sub_zero,Ve h1,Ve h2] at e
   exact e
theorem Jjr {ls ks:List Int}{m k:Int}(h0:0<=k) (h1:k<ls.length):(Wb ls ks m).set k.toNat ((Wb ls ks m).getD k.toNat 0-m)=Wb ls (ks++[k]) m:=by
 have hk:k.toNat<ls.length:=by omega
 rw [Jb0 hk]
 unfold Wb
 rw [Ji7]
 refine Xy λ i hi=>?_
 have hi':=Xj.mp hi
 rw [Jau hi',Jau hi',Jau hk,Ybp,List.countP_singleton]
 by_cases e:i=k.toNat
 . subst e
   rw [if_pos rfl,if_pos (decide_eq_true (by omega))]
   rw [J77,J9p]
   omega
 . rw [if_neg e,if_neg (λ z=>e (by have:=of_decide_eq_true z;omega))]
   rw [Nat.add_zero]
theorem Jhv {m:Int}{a c f:Nat->Int}:∀ n:Nat,((Qf n).map λ j=>(a j-m*c j)*f j).sum=((Qf n).map λ j=>a j*f j).sum-m*((Qf n).map λ j=>c j*f j).sum
 | 0=>by simp
 | n+1=>by
  rw [Uv,Qu,Qu,Qu,Ud,Ud,Ud,Jhv n]
  simp only [Qq,Uf,Xz,List.sum_nil,J71]
  rw [J9p,J5r,J9q]
  omega
theorem Jex {ks:List Int}{f:Int->Int}(h:(ks.map f).Nodup):ks.Nodup:=by
 rw [Ybb] at h ⊢
 rw [J9d] at h
 exact h.imp λ hne e=>hne (by rw [e])
theorem Jf4 {i:Int}:∀ {ks:List Int},ks.Nodup->(i∉ks->ks.countP (λ k=>decide (k=i))=0)/\(i∈ks->ks.countP (λ k=>decide (k=i))=1)
 | [],_=>⟨λ _=>rfl,λ h=>by cases h⟩
 | k::ks,nd=>by
  obtain ⟨h1,h2⟩:=Xm.mp nd
  obtain ⟨c0,c1⟩:=Jf4 (i:=i) h2
  rw [J68]
  by_cases e:k=i
  . subst e
    rw [c0 h1,if_pos (decide_eq_true rfl)]
    exact ⟨λ z=>absurd Qd z,λ _=>rfl⟩
  . rw [if_neg (by simpa using e)]
    refine ⟨λ z=>c0 λ y=>z (Qh _ y),λ z=>c1 ((Qg.mp z).resolve_left (Qj e))⟩
structure Least (ls ks:List Int) (m:Int):Prop where
 pos:0<m
 le:∀ k∈ks,m<=ls.getD k.toNat 0
 at_:∃ k∈ks,ls.getD k.toNat 0=m
theorem Ja4 {ls ks:List Int}{m:Int}{i:Nat}(nd:ks.Nodup) (hi:i<ls.length):((i:Int)∉ks/\(Wb ls ks m).getD i 0=ls.getD i 0)\/((i:Int)∈ks/\(Wb ls ks m).getD i 0=ls.getD i 0-m):=by
 rw [Jb0 hi,Jau hi]
 by_cases e:(i:Int)∈ks
 . rw [(Jf4 nd).2 e]
   exact .inr ⟨e,by omega⟩
 . rw [(Jf4 nd).1 e]
   exact .inl ⟨e,by omega⟩
theorem Jyf {R:Int}{ws:List Way}{ls ks:List Int}{a m:Int}(ro:RoundOk R ws ls) (sh:ShortOk ws ls a ks) (l:Least ls ks m):RoundOk R ws (Wb ls ks m):=by
 have nd:=Jex sh.nd
 refine ⟨by rw [Zy];exact ro.len,λ c hc=>?_,λ r hr=>?_⟩
 . obtain ⟨i,hi,rfl⟩:=Uz.mp hc
   rw [<- Ve hi]
   rw [Zy] at hi
   rcases Ja4 (m:=m) nd hi with ⟨_,e⟩ | ⟨hm,e⟩
   . rw [e];exact Jav ro.nn i
   . rw [e]
     have:=l.le _ hm
     rw [Xb] at this
     omega
 . have h1:=ro.bal r hr
   rw [Jbz] at h1 ⊢
   have e1:((Qf ws.length).map λ j=>(Wb ls ks m).getD j 0*(Jae (Ja ws (j:Nat)).b (r:Nat)-Jae (Ja ws (j:Nat)).a (r:Nat))).sum=((Qf ws.length).map λ j=>(ls.getD j 0-m*(Jcg ls.length ks).getD j 0)*(Jae (Ja ws (j:Nat)).b (r:Nat)-Jae (Ja ws (j:Nat)).a (r:Nat))).sum:=Zs λ j hj=>by rw [Jb0 (by rw [ro.len];exact hj)]
   rw [e1,Jhv,h1,ro.len,Jf0 (f:=λ j=>Jae (Ja ws (j:Nat)).b (r:Nat)-Jae (Ja ws (j:Nat)).a (r:Nat)) sh.pth.inW,Jhr sh.pth]
   simp
noncomputable def pcI (ls:List Int):Nat:=(Qf ls.length).countP λ i=>decide (0<ls.getD i 0)
theorem Jjs {p q:Nat->Bool}:∀ {l:List Nat},(∀ x∈l,p x=true->q x=true)->(∃ x∈l,q x=true/\p x=false)->l.countP p+1<=l.countP q
 | [],_,⟨x,hx,_⟩=>by cases hx
 | y::l,h,hx=>by
  rw [J68,J68]
  have hle:l.countP p<=l.countP q:=List.countP_mono_left λ x hx=>h x (Qh _ hx)
  have hy:=h y Qd
  obtain ⟨x,hx,hq,hp⟩:=hx
  rcases Qg.mp hx with rfl | hx
  . rw [if_pos hq,if_neg (by rw [hp];exact Q7)];omega
  . have ih:=Jjs (l:=l) (λ x hx=>h x (Qh _ hx)) ⟨x,hx,hq,hp⟩
    by_cases e:p y=true
    . rw [if_pos e,if_pos (hy e)];omega
    . rw [if_neg e]
      split<;>omega
theorem Jq0 {ws:List Way}{ls ks:List Int}{a m:Int}(hl:ls.length=ws.length) (sh:ShortOk ws ls a ks) (l:Least ls ks m):pcI (Wb ls ks m)+1<=pcI ls:=by
 have nd:=Jex sh.nd
 unfold pcI
 rw [Zy]
 refine Jjs (λ i hi hp=>decide_eq_true ?_) ?_
 . have hp:=of_decide_eq_true hp
   have:=l.pos
   rcases Ja4 (m:=m) nd (Xj.mp hi) with ⟨_,e⟩ | ⟨_,e⟩<;>omega
 . obtain ⟨k,hk,e⟩:=l.at_
   obtain ⟨k0,k1⟩:=sh.pth.inW k hk
   refine ⟨k.toNat,Xj.mpr (by omega),decide_eq_true (by rw [e];exact l.pos),decide_eq_false ?_⟩
   rcases Ja4 (ls:=ls) (m:=m) (i:=k.toNat) nd (by omega) with ⟨z,_⟩ | ⟨_,e2⟩
   . exact absurd (by rw [Xw k0];exact hk) z
   . rw [e2,e];omega
theorem Jnj {ls:List Int}{k:Int}(h0:0<=k) (h1:k<ls.length):atI (ls.map Qo) k=some (.int (ls.getD k.toNat 0)):=by
 unfold atI
 rw [Qb,Vm h0 h1]
 exact Jca (by omega)
noncomputable def J5f (ls:List Int):Yce->Yce
 | .int k=>.int (ls.getD k.toNat 0)
 | d=>d
noncomputable def Jbh (ts:List (List Int×Int)) (i:Nat):Int:=(ts.map λ t=>t.2*((t.1.countP λ k=>decide (k=(i:Int)):Nat):Int)).sum
theorem Jsx {ts:List (List Int×Int)}{ks:List Int}{m:Int}{i:Nat}:Jbh (ts++[(ks,m)]) i=Jbh ts i+m*((ks.countP λ k=>decide (k=(i:Int)):Nat):Int):=by
 unfold Jbh
 rw [Qu,Ud]
 simp
noncomputable def Wk (t:List Int×Int):Yce:=.tuple [.list (t.1.map .int),.int t.2]
structure TurnsOk (ws:List Way) (cs ls:List Int) (ts:List (List Int×Int)):Prop where
 ok:∀ t∈ts,(∃ a,ShortOk ws cs a t.1)/\1<=t.2
 sum:∀ i,i<ws.length->cs.getD i 0=ls.getD i 0+Jbh ts i
 le:∀ i,i<ws.length->ls.getD i 0<=cs.getD i 0
 len:ts.length+pcI ls<=ws.length
theorem Jsy {ws:List Way}{cs:List Int}(hl:cs.length=ws.length):TurnsOk ws cs cs []:=by
 refine ⟨(λ t h=>by cases h),λ i _=>(J71 _).symm,λ i _=>Uo _,?_⟩
 unfold pcI
 have:=Ybq (p:=λ i=>decide (0<cs.getD i 0)) (l:=Qf cs.length)
 rw [Xi] at this
 rw [J5l]
 omega
theorem Jpp {ws:List Way}{cs ls ks:List Int}{a m:Int}{ts:List (List Int×Int)}(hl:ls.length=ws.length) (t:TurnsOk ws cs ls ts) (sh:ShortOk ws ls a ks) (l:Least ls ks m):TurnsOk ws cs (Wb ls ks m) (ts++[(ks,m)]):=by
 have nd:=Jex sh.nd
 have hp:=l.pos
 refine ⟨λ x hx=>?_,λ i hi=>?_,λ i hi=>?_,?_⟩
 . rcases Qz.mp hx with hx | hx
   . exact t.ok x hx
   . rw [Qm.mp hx]
     refine ⟨⟨a,sh.ne,sh.pth,sh.nd,λ k hk=>?_⟩,hp⟩
     obtain ⟨k0,k1⟩:=sh.pth.inW k hk
     have:=sh.pos k hk
     have:=t.le k.toNat (by omega)
     omega
 . rw [Jsx,Jb0 (by omega),Jau (by omega),t.sum i hi]
   omega
 . have:=t.le i hi
   rcases Ja4 (ls:=ls) (m:=m) (i:=i) nd (by omega) with ⟨_,e⟩ | ⟨_,e⟩<;>omega
 . have:=Jq0 hl sh l
   have:=t.len
   rw [Qw,Xq]
   omega
def Jlo:GSp:=λ as n Q=>∃ (R U:Int) (ws:List Way) (cs:List Int),as=[.d (Jq R U ws),.d (.tuple (cs.map .int))]/\BookOk R U ws/\RoundOk R ws cs/\∀ (ls:List Int) (ts:List (List Int×Int)),ls.length=ws.length->(∀ i:Nat,ls.getD i 0=0)->TurnsOk ws cs ls ts->Q (.list (ts.map Wk)) n
end My
namespace L2
section
variable {X:Cx}{pos p2:Pos}
def J12 (to:TE) (tl th:TO):TG:=λ v σ H Q=>to σ H λ o H1=>tl σ H1 λ l H2=>th σ H2 λ u H3=>
 ∃ (a b:Addr) (xs ys:List V) (i c:Int),o = .ref a/\v = .ref b/\l=some i/\u=some c/\H3 a=some (.lst xs)/\H3 b=some (.lst ys)/\a≠b/\0<=i/\i<=c/\c<=xs.length/\xs.length+ys.length<=sizeLine/\Q σ (upd H3 a (.lst (xs.take i.toNat++ys++xs.drop c.toNat)))
theorem Jwa {o:Expr}{lo hi:Option Expr}{to:TE}{tl th:TO}(ho:PE X o to) (hl:PO X lo tl) (hu:PO X hi th)
 (ha:∀ v,assign (.Subscript o (.Slice lo hi none p2) pos) X.env v=(do
  let ov <- Ycs [v] (eval o X.env)
  let iv <- Ycs [v,ov] (eval (.Slice lo hi none p2) X.env)
  Yc3 pos
  Ycs [v,ov,iv] (setItem ov iv v)
  release [iv,v,ov] []):=by intro _;rfl):PG X (.Subscript o (.Slice lo hi none p2) pos) (J12 to tl th):=by
 intro pins s σ H v u Q I r h
 rw [ha]
 refine wpAny_bind (wpAny_holding (thn (ho pins s σ H _ I h) λ ov s1 ⟨x,H1,I1,r1,q1⟩=>?_))
 refine wpAny_bind (wpAny_holding (wpAny_Slice (thn (hl pins s1 σ H1 _ I1 q1) λ vl s2 ⟨l,H2,I2,pl,q2⟩=>thn (hu pins s2 σ H2 _ I2 q2) λ vu s3 ⟨c,H3,I3,pu,q3⟩=>?_)))
 rw [Yds]
 refine wpAny_pure ?_
 have I4:Inv X pins σ H3 { s3 with heap:=s3.heap.push { cls:=.type "slice",data:=.fields #[vl,vu,.none] } }:=I3.kept (t':=s3.toks) λ b ob q=>Qk _ q
 obtain ⟨a,b,xs,ys,i,k,rfl,rfl,rfl,rfl,ha1,hb1,hne,h0,hik,hk,hz,q⟩:=q3
 cases r1
 cases r
 cases pl with
 | int _ tl=>
  cases pu with
  | int _ th=>
   refine wpAny_bind (wpAny_standAt (wpAny_bind (wpAny_holding (Jrl I4 ha1 hb1 hne (Yae ..) ⟨tl,rfl⟩ ⟨th,rfl⟩ h0 hik hk hz λ s' I5=>?_))))
   exact wpAny_release ⟨σ,_,I5,q⟩
end
end L2
namespace My
open L2
theorem Jsz {R:Nat}{ws:List Way}{ks:List Int}(hr:∀ e∈J2 ws ks,e.1<R/\e.2<R) (h1:(Yo R ws ks).length=1) (hall:∀ k∈ks,Rt (J2 ws ks) (Ja ws k).b.toNat (Ja ws k).a.toNat) :
 ∀ k∈ks,∀ j∈ks,Rt (J2 ws ks) (Ja ws k).a.toNat (Ja ws j).a.toNat:=by
 intro k hk j hj
 have hp:∀ k∈ks,Pw (J2 ws ks) R (Ja ws k).b.toNat (Ja ws k).a.toNat=true:=λ k hk=>(Y8 hr).mpr (hall k hk)
 have hc:∀ k∈ks,Zt R (J2 ws ks) ws k=some (Yk R (J2 ws ks) (Ja ws k).a.toNat):=λ k hk=>by unfold Zt;rw [if_pos (hp k hk)]
 have hlen:(Bu (Zt R (J2 ws ks) ws) ks).length=1:=by
  unfold Yo at h1
  rw [Jpl,Qb,Qb] at h1
  exact h1
 obtain ⟨y,hy⟩:=List.length_eq_one_iff.mp hlen
 have one:∀ k∈ks,Yk R (J2 ws ks) (Ja ws k).a.toNat=y:=λ k hk=>by
  have:=Jd0.mpr ⟨k,hk,hc k hk⟩
  rw [hy] at this
  exact Qm.mp this
 have e:=Jli hr hk hj (hp k hk)
 rw [decide_eq_true (show Zt R (J2 ws ks) ws j=some (Yk R (J2 ws ks) (Ja ws k).a.toNat) by rw [hc j hj,one j hj,one k hk]),Xg] at e
 exact (Rt.step (.refl _) (Ql.mpr ⟨k,hk,rfl⟩)).trans ((Y8 hr).mp e.1)
theorem Jnk {ws:List Way}{k b:Int}:∀ {ks:List Int}{a:Int},Pth ws a ks b->k∈ks->(∃ j∈ks,(Ja ws j).a=(Ja ws k).b)\/(Ja ws k).b=b
 | [],_,_,hk=>by cases hk
 | x::ks,a,h,hk=>by
  rcases Qg.mp hk with rfl | hk
  . cases ks with
    | nil=>exact .inr h.2.2
    | cons y ks=>exact .inl ⟨y,Qh _ Qd,h.2.2.2.1⟩
  . rcases Jnk h.2.2 hk with ⟨j,hj,e⟩ | e
    . exact .inl ⟨j,Qh _ hj,e⟩
    . exact .inr e
theorem Jpq {ws:List Way}{cs:List Int}{a:Int}{ks:List Int}(h:ShortOk ws cs a ks) {k:Int}(hk:k∈ks):∃ j∈ks,(Ja ws j).a=(Ja ws k).b:=by
 rcases Jnk h.pth hk with r | e
 . exact r
 . obtain ⟨x,rest,rfl⟩:∃ x rest,ks=x::rest:=by
    cases ks with
    | nil=>cases hk
    | cons x r=>exact ⟨x,r,rfl⟩
   exact ⟨x,Qd,by rw [e];exact h.pth.2.1⟩
theorem Z4 {cs:List Int}{k:Int}:k∈onW cs↔0<=k/\k<cs.length/\0<cs.getD k.toNat 0:=by
 unfold onW
 rw [Ql]
 constructor
 . rintro ⟨i,hi,rfl⟩
   obtain ⟨h1,h2⟩:=Q6.mp hi
   have:=Xj.mp h1
   exact ⟨by omega,by omega,by rw [Xb];exact of_decide_eq_true h2⟩
 . rintro ⟨h0,h1,h2⟩
   exact ⟨k.toNat,Q6.mpr ⟨Xj.mpr (by omega),decide_eq_true h2⟩,by omega⟩
theorem Jnl {i:Nat}:∀ {ts:List (List Int×Int)},0<Jbh ts i->∃ t∈ts,(i:Int)∈t.1
 | [],h=>by cases h
 | t::ts,h=>by
  by_cases e:(i:Int)∈t.1
  . exact ⟨t,Qd,e⟩
  . have h0:t.1.countP (λ k=>decide (k=(i:Int)))=0:=Ybr.mpr λ k hk z=>e (by rw [<- of_decide_eq_true z];exact hk)
    have e2:Jbh (t::ts) i=Jbh ts i:=by
     unfold Jbh
     rw [Qq,Xz,h0]
     simp
    rw [e2] at h
    obtain ⟨u,hu,hm⟩:=Jnl h
    exact ⟨u,Qh _ hu,hm⟩
theorem Jnm {ws:List Way}{cs ls:List Int}{ts:List (List Int×Int)}(hl:cs.length=ws.length) (t:TurnsOk ws cs ls ts) (hz:∀ i:Nat,ls.getD i 0=0) {k:Int}(hk:k∈onW cs):∃ t∈ts,k∈t.1:=by
 obtain ⟨h0,h1,h2⟩:=Z4.mp hk
 have:=t.sum k.toNat (by omega)
 rw [hz] at this
 obtain ⟨u,hu,hm⟩:=Jnl (ts:=ts) (i:=k.toNat) (by omega)
 rw [Xw h0] at hm
 exact ⟨u,hu,hm⟩
theorem Jpr {ws:List Way}{cs:List Int}{a:Int}{ks:List Int}(hl:cs.length=ws.length) (h:ShortOk ws cs a ks):∀ k∈ks,Rt (J2 ws (onW cs)) (Ja ws k).b.toNat (Ja ws k).a.toNat:=by
 have hin:∀ k∈ks,k∈onW cs:=λ k hk=>by
  obtain ⟨k0,k1⟩:=h.pth.inW k hk
  exact Z4.mpr ⟨k0,by omega,h.pos k hk⟩
 obtain ⟨e1,e2⟩:=Jpj (es:=J2 ws (onW cs)) h.pth λ k hk=>Ql.mpr ⟨k,hin k hk,rfl⟩
 exact λ k hk=>(e2 k hk).2.trans (e2 k hk).1
theorem J4a {R U:Int}{ws:List Way}{cs:List Int}{dn pd:List (List Int×Int)}{rs:List Int}{r0:Int}(ok:BookOk R U ws) (hl:cs.length=ws.length) (one:(Yo R.toNat ws (onW cs)).length=1)
 (cover:∀ k∈onW cs,∃ t∈dn++pd,k∈t.1) (okT:∀ t∈dn++pd,∃ a,ShortOk ws cs a t.1) (hdn:∀ t∈dn,∀ k∈t.1,(Ja ws k).a∈rs) (h0:r0∈rs) (hr0:∃ k∈onW cs,(Ja ws k).a=r0) (hp:pd≠[]) :
 ∃ t∈pd,∃ k∈t.1,(Ja ws k).a∈rs:=by
 have wok:∀ k∈onW cs,WayOk R U (Ja ws k):=λ k hk=>by
  obtain ⟨k0,k1,_⟩:=Z4.mp hk
  exact ok.ways _ (Yd k0 (by omega))
 have hr:∀ e∈J2 ws (onW cs),e.1<R.toNat/\e.2<R.toNat:=λ e he=>by
  obtain ⟨k,hk,rfl⟩:=Ql.mp he
  have w:=wok k hk
  have:=w.a0
  have:=w.a1
  have:=w.b0
  have:=w.b1
  exact ⟨by omega,by omega⟩
 have back:∀ k∈onW cs,Rt (J2 ws (onW cs)) (Ja ws k).b.toNat (Ja ws k).a.toNat:=λ k hk=>by
  obtain ⟨t,ht,hm⟩:=cover k hk
  obtain ⟨a,sh⟩:=okT t ht
  exact Jpr hl sh k hm
 have conn:=Jsz hr one back
 by_cases hex:∃ t∈pd,∃ k∈t.1,(Ja ws k).a∈rs
 . exact hex
 exfalso
 have clo:∀ {x y:Nat},Rt (J2 ws (onW cs)) x y->(x:Int)∈rs->(y:Int)∈rs:=by
  intro x y h
  induction h with
  | refl=>exact λ h=>h
  | step h1 h2 ih=>
   intro hx
   have hb:=ih hx
   obtain ⟨k,hk,e⟩:=Ql.mp h2
   injection e with ea eb
   have w:=wok k hk
   have a0:=w.a0
   have b0:=w.b0
   obtain ⟨t,ht,hm⟩:=cover k hk
   obtain ⟨a,sh⟩:=okT t ht
   have hka:(Ja ws k).a∈rs:=by
    have:(Ja ws k).a=((Ja ws k).a.toNat:Int):=(Xw a0).symm
    rw [this,ea]
    exact hb
   rcases Qz.mp ht with ht | ht
   . obtain ⟨j,hj,e⟩:=Jpq sh hm
     have:=hdn t ht j hj
     rw [e] at this
     rw [<- eb,Xw b0]
     exact this
   . exact absurd ⟨t,ht,k,hm,hka⟩ hex
 obtain ⟨t,rest,rfl⟩:∃ t rest,pd=t::rest:=by
  cases pd with
  | nil=>exact absurd rfl hp
  | cons t r=>exact ⟨t,r,rfl⟩
 obtain ⟨a,sh⟩:=okT t (Q8 _ Qd)
 obtain ⟨k,ks,e⟩:∃ k ks,t.1=k::ks:=by
  cases e:t.1 with
  | nil=>exact absurd e sh.ne
  | cons k r=>exact ⟨k,r,rfl⟩
 have hk:k∈t.1:=by rw [e];exact Qd
 obtain ⟨k0,k1⟩:=sh.pth.inW k hk
 have hon:k∈onW cs:=Z4.mpr ⟨k0,by omega,sh.pos k hk⟩
 obtain ⟨j,hj,ej⟩:=hr0
 have w:=wok k hon
 have a0:=w.a0
 have wj:=wok j hj
 have ja0:=wj.a0
 have:=clo (conn j hj k hon) (by rw [Xw ja0,ej];exact h0)
 rw [Xw a0] at this
 exact hex ⟨t,Qd,k,hk,this⟩
mutual
noncomputable def noL:Yce->Bool
 | .list _=>false
 | .tuple ds=>Vf ds
 | _=>true
noncomputable def Vf:List Yce->Bool
 | []=>true
 | d::ds=>noL d&&Vf ds
end
mutual
theorem Jyg {ex L:List Addr}{H:Hp}(hL:∀ a∈L,∃ vs,H a=some (.lst vs)):∀ {d:Yce}{v:V},noL d=true->Rep ex H d v->Rep (L++ex) H d v
 | _,_,_,.none=>.none
 | _,_,_,.bool b=>.bool b
 | _,_,_,.int i=>.int i
 | _,_,_,.str x=>.str x
 | _,_,h,.tuple (a:=a) e n z r=>.tuple e (λ m=>(Qz.mp m).elim (λ m=>by obtain ⟨vs,e2⟩:=hL a m;rw [e2] at e;cases e) n) z (Jhw hL (by unfold noL at h;exact h) r)
 | _,_,h,.list _ _ _ _=>by unfold noL at h;cases h
theorem Jhw {ex L:List Addr}{H:Hp}(hL:∀ a∈L,∃ vs,H a=some (.lst vs)):∀ {ds:List Yce}{vs:List V},Vf ds=true->Reps ex H ds vs->Reps (L++ex) H ds vs
 | _,_,_,.nil=>.nil
 | _,_,h,.cons r t=>by
  unfold Vf at h
  rw [Xg] at h
  exact .cons (Jyg hL h.1 r) (Jhw hL h.2 t)
end
theorem Bv:Vf []=true:=by unfold Vf;rfl
theorem Z0 {d:Yce}{ds:List Yce}:Vf (d::ds)=(noL d&&Vf ds):=by conv=>lhs;unfold Vf
theorem Jb1:∀ {ds es:List Yce},Vf (ds++es)=(Vf ds&&Vf es)
 | [],es=>by rw [J50,Bv,J5q]
 | d::ds,es=>by rw [J55,Z0,Z0,Jb1,Bool.and_assoc]
theorem Jnn {ds:List Yce}(h:∀ d∈ds,noL d=true):Vf ds=true:=by
 induction ds with
 | nil=>unfold Vf;rfl
 | cons d ds ih=>
  unfold Vf
  rw [h d Qd,ih λ x hx=>h x (Qh _ hx)];rfl
theorem Vg {s u:TS}{gs:GS} [T:SV s gs] {C:Cv}{D:Ends}{G:VEnds}{ex:List Addr}{env:List Vl}{σ:L2.St}{H:Hp}{n:Nat}(O:EndsOk C { G with nx:=λ _ _=>False } D) (A:At C ex env σ H n) (h:gs G env n)
 (k:∀ {ex:List Addr} {env:List Vl} {σ:L2.St} {H:Hp} {n:Nat},At C ex env σ H n->G.nx env n->u D σ H):Joe s u D σ H:=
 T.sv (C:=C) (G:=G) (D:={ D with nx:=u D }) ⟨λ A1 h1=>k A1 h1,O.bk,O.ct,O.rt,O.rtn,O.xc,O.r2⟩ A h
theorem Jwb {D:Ends}{C:Cv}{ex:List Addr}{env:List Vl}{σ:L2.St}{H:Hp}{n:Nat}(A:At C ex env σ H n) {i1 i2 p b q:Nat}{a1 a2:Addr}{xs ys ps bs:List Yce}{k:Int}(e1:env[i1]? = some (.pin (.ref a1) (.list xs))) (e2:env[i2]? = some (.pin (.ref a2) (.list ys)))
 (ep:env[p]? = some (.own ps)) (eb:env[b]? = some (.own bs)) (eq:env[q]? = some (.d (.int k))) (h0:0<=k) (h1:k<=xs.length) (h2:k<=ys.length) (hne:a1≠a2) (z1:xs.length+ps.length<=sizeLine) (z2:ys.length+bs.length<=sizeLine)
 (nx:Vf xs=true) (ny:Vf ys=true) (np:Vf ps=true) (nb:Vf bs=true)
 (h:∀ (vs us:List V) (H':Hp),H' a1=some (.lst vs)->H' a2=some (.lst us)->Reps (a1::a2::C.ex0) H' (xs.take k.toNat++ps++xs.drop k.toNat) vs->Reps (a1::a2::C.ex0) H' (ys.take k.toNat++bs++ys.drop k.toNat) us->Kp [a1,a2] H H'->D.rt (.bl true) H') :
 Joe (Jcf (Zv p) (J12 (Zv i1) (Jiq (Zv q)) (Jiq (Zv q)))) (Joe (Jcf (Zv b) (J12 (Zv i2) (Jiq (Zv q)) (Jiq (Zv q)))) (Jrb (tC (.bl true)))) D σ H:=by
 obtain ⟨s1,r1⟩:=A.ev.sl i1 _ e1
 obtain ⟨s2,r2⟩:=A.ev.sl i2 _ e2
 obtain ⟨ap,pv,sp,hp1,hp2,hp3,hp4,hp5⟩:=A.ev.sl p _ ep
 obtain ⟨ab,bv,sb,hb1,hb2,hb3,hb4,hb5⟩:=A.ev.sl b _ eb
 obtain ⟨qv,sq,rq⟩:=A.ev.sl q _ eq
 cases rq
 cases r1 with
 | list f1 n1 y1 t1=>
  rename_i xv
  cases r2 with
  | list f2 n2 y2 t2=>
   rename_i yv
   have lx:=t1.length
   have ly:=t2.length
   have lp:=hp3.length
   have lb:=hb3.length
   have np1:a1≠ap:=λ z=>n1 (by rw [z];exact hp4)
   have nb2:a2≠ab:=λ z=>n2 (by rw [z];exact hb4)
   have nb1:ab≠a1:=λ z=>n1 (by rw [<- z];exact hb4)
   have hLs:∀ a∈[a1,a2],∃ vs,H a=some (.lst vs):=λ a ha=>by
    rcases Qg.mp ha with rfl | ha
    . exact ⟨_,f1⟩
    . rw [Qm.mp ha];exact ⟨_,f2⟩
   have sub:∀ c∈a1::a2::C.ex0,c∈[a1,a2]++ex:=λ c hc=>by
    rcases Qg.mp hc with rfl | hc
    . simp
    . rcases Qg.mp hc with rfl | hc
      . simp
      . exact Q8 _ (A.ex0 c hc)
   have up:∀ {ds:List Yce} {vs:List V},Vf ds=true->Reps ex H ds vs->Reps (a1::a2::C.ex0) H ds vs:=λ hn r=>Reps.mono sub (Jhw hLs hn r)
   have kp:Kp (a1::a2::C.ex0) H (upd (upd H a1 (.lst (xv.take k.toNat++pv++xv.drop k.toNat))) a2 (.lst (yv.take k.toNat++bv++yv.drop k.toNat))):=(Kp.at Qd _).trans (Kp.at (Qh _ Qd) _)
   refine ⟨_,Jj sp,_,Jj s1,_,Jj sq,k,rfl,_,Jj sq,k,rfl,a1,ap,xv,pv,k,k,rfl,rfl,rfl,rfl,f1,hp1,np1,h0,Uo _,by omega,by omega,?_⟩
   refine ⟨_,Jj sb,_,Jj s2,_,Jj sq,k,rfl,_,Jj sq,k,rfl,a2,ab,yv,bv,k,k,rfl,rfl,rfl,rfl,by rw [Ji (Qj hne)];exact f2,by rw [Ji nb1];exact hb1,nb2,h0,Uo _,by omega,by omega,?_⟩
   refine h _ _ _ (by rw [Ji hne];exact Jh) Jh ?_ ?_ ((Kp.at Qd _).trans (Kp.at (Qh _ Qd) _))
   . exact (((up nx t1).take _).append (up np hp3) |>.append ((up nx t1).drop _)).keep kp
   . exact (((up ny t2).take _).append (up nb hb3) |>.append ((up ny t2).drop _)).keep kp
abbrev Js0:=Yce->List Yce->List Yce->Yce->(Option (List Yce×List Yce)->Prop)->Prop
def Jcc (sp:Js0):Sp:=λ vs H Q _=>∃ (ex:List Addr) (bk tn:Yce) (row rooms:List Yce) (bv tv:V) (a1 a2:Addr) (us ws:List V) (P:Option (List Yce×List Yce)->Prop),
 vs=[bv,.ref a1,.ref a2,tv]/\Rep ex H bk bv/\Rep ex H tn tv/\H a1=some (.lst us)/\H a2=some (.lst ws)/\us.length<=sizeLine/\ws.length<=sizeLine/\Reps ex H row us/\Reps ex H rooms ws/\a1≠a2/\Alc ex H/\sp bk row rooms tn P /\
 (P none->∀ H',Kp [] H H'->Q (.bl false) H')/\∀ row' rooms',P (some (row',rooms'))->∀ (us' ws':List V) (H':Hp),H' a1=some (.lst us')->H' a2=some (.lst ws')->Reps ex H' row' us'->Reps ex H' rooms' ws'->Kp [a1,a2] H H'->Q (.bl true) H'
theorem Jyh {sp:Js0}:∀ vs H Q E,Jcc sp vs H Q E->vs.length=4:=λ vs H Q E ⟨_,_,_,_,_,_,_,_,_,_,_,_,e,_⟩=>by rw [e];rfl
theorem Jwc {sp:Js0}{ts:TS}{N:List Str}{vs:List V}{H:Hp}{Q:VK}{E:XK}(h:Jcc sp vs H Q E)
 (hs:∀ bk row rooms tn P (D:Ends) (C:Cv) (a1 a2:Addr) (σ:L2.St) (H:Hp) (ex:List Addr),sp bk row rooms tn P->a1≠a2->At C ex (Jdo N [.d bk,.pin (.ref a1) (.list row),.pin (.ref a2) (.list rooms),.d tn]) σ H 0 ->
  (∀ {n v H},Ret C (.bool false) n v H->P none->D.rt v H) ->
  (∀ {H1:Hp} {row' rooms':List Yce},Kp [] H H1->P (some (row',rooms'))->∀ (us' ws':List V) (H':Hp),H' a1=some (.lst us')->H' a2=some (.lst ws')->Reps (a1::a2::C.ex0) H' row' us'->Reps (a1::a2::C.ex0) H' rooms' ws'->Kp [a1,a2] H1 H'->D.rt (.bl true) H') ->
  C.S=Src.no->C.H0=H->ts D σ H):ts { nx:=λ _ H'=>Q .non H',rt:=Q } (start N vs) H:=by
 obtain ⟨ex,bk,tn,row,rooms,bv,tv,a1,a2,us,ws,P,rfl,rb,rt,h1,h2,z1,z2,r1,r2,hne,al,p,q1,q2⟩:=h
 have hf:∀ c∈ex.filter (λ c=>decide (c≠a1)&&decide (c≠a2)),c∈ex:=λ c hc=>(Q6.mp hc).1
 have n1:a1∉ex.filter (λ c=>decide (c≠a1)&&decide (c≠a2)):=λ z=>by
  have:=(Q6.mp z).2
  simp at this
 have n2:a2∉ex.filter (λ c=>decide (c≠a1)&&decide (c≠a2)):=λ z=>by
  have:=(Q6.mp z).2
  simp at this
 have sub:∀ c∈ex,c∈a1::a2::ex.filter (λ c=>decide (c≠a1)&&decide (c≠a2)):=λ c hc=>by
  by_cases e1:c=a1
  . rw [e1];exact Qd
  . by_cases e2:c=a2
    . rw [e2];exact Qh _ Qd
    . exact Qh _ (Qh _ (Q6.mpr ⟨hc,by simp [e1,e2]⟩))
 refine hs bk row rooms tn P _ ⟨Src.no,ex.filter (λ c=>decide (c≠a1)&&decide (c≠a2)),H,[]⟩ a1 a2 (start N [bv,.ref a1,.ref a2,tv]) H (ex.filter (λ c=>decide (c≠a1)&&decide (c≠a2))) p hne ?_ ?_ ?_ rfl rfl
 . refine Jdp (S:=Src.no) (vs:=[bv,.ref a1,.ref a2,tv]) ⟨⟨bv,rfl,Rep.mono hf rb⟩,⟨rfl,.list h1 n1 z1 (Reps.mono hf r1)⟩,⟨rfl,.list h2 n2 z2 (Reps.mono hf r2)⟩,⟨tv,rfl,Rep.mono hf rt⟩,trivial⟩ rfl (λ a ha=>by cases ha) (λ a ha=>al a (hf a ha)) trivial
 . intro n v H' R hp
   cases R.r
   exact q1 hp _ R.kp
 . intro H1 row' rooms' k1 hp us' ws' H' g1 g2 g3 g4 k2
   exact q2 _ _ hp us' ws' H' g1 g2 (Reps.mono sub g3) (Reps.mono sub g4) ((Kp.of k1).trans k2)
end My
namespace L2
open PySem.SeqAt
section
variable {X:Cx}
noncomputable def J4b (y:Int):Ycf->Bool | .int a _=>a==y | _=>false
theorem Jhx {ns:List Int}:∀ {us:List Ycf},J9 (ns.map V.int) us->∀ i (h:i<us.length),∃ t,us[i]=J6b (ns.getD i 0) t:=by
 induction ns with
 | nil=>intro us r i h;cases r;cases h
 | cons n ns ih=>
  intro us r i h
  cases r with
  | cons r t=>
   obtain ⟨tk,e⟩:=r
   cases i with
   | zero=>exact ⟨tk,e⟩
   | succ i=>
    obtain ⟨t2,e2⟩:=ih t i (by simpa using h)
    exact ⟨t2,by simpa using e2⟩
def Jq1 (K:Qc):V->List V->Hp->VK->Prop:=λ x vs H Q=>∃ (l:Addr) (ns:List Int) (y:Int) (j:Nat),x = .ref l/\vs=[.int y]/\H l=some (.lst (ns.map V.int))/\ns[j]? = some y/\(∀ m,m<j->ns.getD m 0≠y)/\Q (.int (j:Nat)) H
theorem Js1:MtM X "list.index" (Jq1 X.K):=by
 intro pins s σ H x vs v us Q I rx rv h
 obtain ⟨l,ns,y,j,rfl,rfl,hH,hj,hno,q⟩:=h
 cases rx
 obtain ⟨u,rfl,ru⟩:=rv.one
 obtain ⟨ty,rfl⟩:=ru
 obtain ⟨z,its,n,r,hl,e⟩:=I.lstM hH
 have hs:=Ycl
 have hjl:j<ns.length:=(Qr.mp hj).1
 have hlen:its.length=ns.length:=by have:=r.length;rw [Qb] at this;exact this.symm
 rw [Qb] at z
 refine call_meets F.slot_list_index ⟨_,e,rfl⟩ F.entry_list_index (F.args_list_index_2 _ _) (list_indexAt l its.toArray n none #[] (.int y ty) (J4b y) j (by simpa [hlen] using hjl) (by omega) ?_ ?_) ⟨e,?_,?_⟩
 . obtain ⟨t,e2⟩:=Jhx r j (by omega)
   have:ns.getD j 0=y:=by rw [Q3,hj];rfl
   have e3:its.toArray[j]'(by simpa [hlen] using hjl) = .int (ns.getD j 0) t:=e2
   rw [e3,this]
   show (y==y)=true
   simp
 . intro m hm hmj
   obtain ⟨t,e2⟩:=Jhx r m (by simpa using hm)
   have e3:its.toArray[m] = .int (ns.getD m 0) t:=e2
   rw [e3]
   exact beq_eq_false_iff_ne.mpr (hno m hmj)
 . intro a ha
   have ha:a∈its:=by simpa using ha
   obtain ⟨i,hi,rfl⟩:=List.getElem_of_mem ha
   obtain ⟨t,e2⟩:=Jhx r i hi
   rw [e2]
   exact EqAt.int_int _ _ _ _
 . exact ⟨.int _,H,I.tok _,⟨_,rfl⟩,q⟩
end
end L2
namespace My
open L2
theorem Jz8 {ex:List Addr}{H:Hp}:∀ {ns:List Int}{vs:List V},Reps ex H (ns.map .int) vs->vs=ns.map V.int
 | [],_,.nil=>rfl
 | n::ns,_,.cons r t=>by
  cases r
  rw [Jz8 t];rfl
abbrev Jyi (i:Nat) (gy:GE):GE:=λ env n Q=>Jqk i env n λ d n1=>∃ ns:List Int,d = .list (ns.map .int)/\gy env n1 λ y n2=>match y with
 | .int k=>∃ j:Nat,ns[j]? = some k/\(∀ m,m<j->ns.getD m 0≠k)/\Q (.int ((j:Nat):Int)) n2
 | _=>False
instance ev_indexI {b:Bool}{K:Qc}{i:Nat}{ty:TE}{gy:GE} [Y:EV false ty gy]:EV b (tBM K "list" (Jq1 K) (Zv i) (Zd ty Jgc)) (Jyi i gy):=⟨λ {S ex env σ H n Q P} E h k=>
 (pv_var (i:=i)).ev E h λ d n1 v H1 hd s1 r=>by
  obtain ⟨ns,rfl,hy⟩:=hd
  cases r with
  | list e nm z rs=>
   refine ⟨.inl ⟨rfl,_,SqL.of e⟩,Y.ev (E.step s1) hy λ y n2 yv H2 hy2 s2 ry=>?_⟩
   cases ry with
   | int x=>
    obtain ⟨j,hj,hno,q⟩:=hy2
    have hl:=s2.1 _ _ e nm
    rw [Jz8 rs] at hl
    exact ⟨_,ns,x,j,rfl,rfl,hl,hj,hno,k _ _ _ _ q (s1.trans s2) (.int _)⟩
   | none=>exact hy2.elim
   | bool=>exact hy2.elim
   | str=>exact hy2.elim
   | list=>exact hy2.elim
   | tuple=>exact hy2.elim⟩
theorem Jwd {r:Int}:∀ {rs:List Int}{m:Nat},m<rs.idxOf r->rs.getD m 0≠r
 | [],m,h=>by simp at h
 | x::rs,m,h=>by
  rw [Ybo] at h
  by_cases e:x=r
  . rw [e] at h;simp at h
  . have e2:(x==r)=false:=by simpa using e
    rw [e2] at h
    simp only [cond_false] at h
    cases m with
    | zero=>exact e
    | succ m=>exact Jwd (rs:=rs) (m:=m) (by omega)
abbrev Jz9 (i:Nat):GE:=λ env n Q=>match env[i]? with
 | some (.own xs)=>Q (.tuple xs) n
 | some (.d (.list xs))=>Q (.tuple xs) n
 | some (.d (.tuple xs))=>Q (.tuple xs) n
 | _=>False
instance (priority:=high) ev_tupO {K:Qc}{i:Nat}:EV true (tCB (λ xs H Q=>∃ p ys,xs=[.ref p]/\((SqL K H p ys/\∀ l,H l=none->Q (.ref l) (upd H l (.tup ys)))\/(SqT K H p ys/\Q (.ref p) H))) (Zd (Zv i) Jgc)) (Jz9 i):=⟨λ {S ex env σ H n Q P} E h k=>by
 unfold Jz9 at h
 split at h
 . rename_i xs e
   obtain ⟨a,vs,ev,h1,h2,h3,h4,h5⟩:=E.sl i _ e
   exact ⟨_,Jj ev,_,_,rfl,.inl ⟨SqL.of h1,λ l hl=>k _ _ _ _ h (Yy.new E.inv (Kp.new hl _)) (.tuple Jh (E.al.nm hl) h2 (h3.keep (Kp.new hl _)))⟩⟩
 . rename_i xs e
   obtain ⟨v,ev,r⟩:=E.sl i _ e
   cases r with
   | list h1 _ h2 h3=>exact ⟨_,Jj ev,_,_,rfl,.inl ⟨SqL.of h1,λ l hl=>k _ _ _ _ h (Yy.new E.inv (Kp.new hl _)) (.tuple Jh (E.al.nm hl) h2 (h3.keep (Kp.new hl _)))⟩⟩
 . rename_i xs e
   obtain ⟨v,ev,r⟩:=E.sl i _ e
   cases r with
   | tuple h1 hn h2 h3=>exact ⟨_,Jj ev,_,_,rfl,.inr ⟨SqT.of h1,k _ _ _ _ h (.refl E.inv) (.tuple h1 hn h2 h3)⟩⟩
 . exact h.elim⟩
noncomputable def Jcl (k:Int):Yce:=.tuple [.str "way",.int k]
noncomputable def Z5 (ks:List Int) (m:Int):List Yce:=ks.map Jcl++if 1<m then [.tuple [.str "times",.int (m-1),.tuple [.str "row",.tuple (ks.map Jcl)]]] else []
noncomputable def Zw (ws:List Way) (ks:List Int) (m:Int) (r:Int):List Int:=(ks.map λ k=>(Ja ws k).a)++if 1<m then [r] else []
noncomputable def Zb (ks:List Int) (j:Nat):List Int:=ks.drop j++ks.take j
noncomputable def Bh {α:Type}(xs ys:List α) (p:Nat):List α:=xs.take p++ys++xs.drop p
def Jwe:Js0:=λ bk row rooms tn P=>∃ (R U:Int) (ws:List Way) (cs:List Int) (rs ks:List Int) (m a:Int),bk=Jq R U ws/\rooms=rs.map .int/\tn=Wk (ks,m)/\BookOk R U ws/\ShortOk ws cs a ks/\1<=m/\Vf row=true/\rs.length=row.length+1/\row.length<=100000 /\
 ((∀ k∈ks,(Ja ws k).a∉rs)->P none)/\∀ (j:Nat) (k:Int),ks[j]? = some k->(Ja ws k).a∈rs->P (some (Bh row (Z5 (Zb ks j) m) (rs.idxOf (Ja ws k).a),(Bh rs (Zw ws (Zb ks j) m (Ja ws k).a) (rs.idxOf (Ja ws k).a)).map .int))
theorem Jf5 (xs:List Int) (j:Nat):Jdl (xs.map Qo) (some ((j:Nat):Int)) none++Jdl (xs.map Qo) none (some ((j:Nat):Int))=(Zb xs j).map .int:=by
 rw [Jb8,Ji3,<- J56,<- J61,<- Qu];rfl
theorem Ja5 {α:Type}(xs:List Int) (j:Nat):(Zb xs j).length=xs.length:=by
 unfold Zb
 rw [Qw,U7,U6]
 omega
theorem Jno (xs:List Int) (j:Nat):(Jdl (xs.map Qo) (some ((j:Nat):Int)) none).length+(Jdl (xs.map Qo) none (some ((j:Nat):Int))).length=xs.length:=by
 rw [<- Qw,Jf5,Qb]
 exact Ja5 (α:=Int) xs j
theorem Jyj (xs:List Int) (j:Nat):((Zb xs j).map Qo).map (λ d=>J57 [.str "way",d])=(Zb xs j).map Jcl:=by
 rw [Q0];rfl
theorem Jyk (ws:List Way) (xs:List Int) (j:Nat):Zb (xs.map λ k=>(Ja ws k).a) j=(Zb xs j).map λ k=>(Ja ws k).a:=by
 unfold Zb
 rw [Qu,J56,J61]
theorem Jnp (ns:List Int):Vf (ns.map .int)=true:=Jnn λ d hd=>by
 obtain ⟨n,_,rfl⟩:=Ql.mp hd
 unfold noL;rfl
theorem Jyl (k:Int):noL (Jcl k)=true:=by
 unfold Jcl noL
 rw [Z0,Z0,Bv]
 unfold noL;rfl
theorem Jnq (ks:List Int):Vf (ks.map Jcl)=true:=Jnn λ d hd=>by
 obtain ⟨n,_,rfl⟩:=Ql.mp hd
 exact Jyl n
theorem Jlp {ds:List Yce}(h:Vf ds=true):noL (.tuple ds)=true:=by unfold noL;exact h
theorem Jym (i:Int):noL (.int i)=true:=by unfold noL;rfl
theorem Jq2 (i:Str):noL (.str i)=true:=by unfold noL;rfl
theorem Jjt (ks:List Int) (m:Int):Vf (Z5 ks m)=true:=by
 unfold Z5
 rw [Jb1,Jnq,J5q]
 split
 . rw [Z0,Bv,J9r]
   refine Jlp ?_
   rw [Z0,Z0,Z0,Bv,Jq2,Jym,J5q,J5q,J9r]
   refine Jlp ?_
   rw [Z0,Z0,Bv,Jq2,J5q,J9r]
   exact Jlp (Jnq ks)
 . exact Bv
theorem Jju (ks:List Int) (m:Int):(Z5 ks m).length<=ks.length+1:=by
 unfold Z5
 rw [Qw,Qb]
 split
 . exact Qn _
 . rw [J5l];omega
theorem Js2 (ws:List Way) (ks:List Int) (m r:Int):(Zw ws ks m r).length<=ks.length+1:=by
 unfold Zw
 rw [Qw,Qb]
 split
 . exact Qn _
 . rw [J5l];omega
theorem Jyn (rs bs:List Int) (p:Nat):(rs.map Qo).take p++bs.map Qo++(rs.map Qo).drop p=(Bh rs bs p).map .int:=by
 unfold Bh
 rw [Qu,Qu,J61,J56]
theorem Jcd {ws:List Way}{ks:List Int}{j:Nat}(h:j<ks.length):(ks.map λ k=>(Ja ws k).a).getD j 0=(Ja ws (ks.getD j 0)).a:=by
 rw [Q3,Qs,Q3,Qx h];rfl
theorem SlR.chg {S:Src}{ex L:List Addr}{H H':Hp}{w:Vl}{o:Option V}(hl:∀ l∈L,l∈ex) (k:Kp L H H') (hn:∀ b∈Jl [w] [o] 0,b∉L) (h:SlR S ex H w o):SlR S ex H' w o:=by
 have kx:Kp ex H H':=k.mono hl
 cases w with
 | jnk=>trivial
 | jar=>exact h
 | tape=>exact h
 | d x=>obtain ⟨v,e,r⟩:=h;exact ⟨v,e,r.keep kx⟩
 | pin v x=>obtain ⟨e,r⟩:=h;exact ⟨e,r.keep kx⟩
 | own xs=>obtain ⟨a,vs,e,h1,h2,h3,h4,h5⟩:=h;subst e;exact ⟨a,vs,rfl,k _ _ h1 (hn a Qd),h2,h3.keep kx,h4,h5⟩
 | dct kvs=>obtain ⟨a,kws,e,h1,⟨h2,h3⟩,h4,h5⟩:=h;subst e;exact ⟨a,kws,rfl,k _ _ h1 (hn a Qd),⟨h2,h3.keep kx⟩,h4,h5⟩
 | own2 ks ps=>obtain ⟨a,e,q⟩:=h;subst e;exact ⟨a,rfl,k _ _ q.h (hn a Qd),q.z,q.k,q.nd,q.m,q.c,λ p hp=>let w:=q.i p hp;⟨w.m,w.c,let ⟨vs,h1,h2,h3⟩:=w.h;⟨vs,k _ _ h1 (hn p.1 (Qh _ (Ql.mpr ⟨p,hp,rfl⟩))),h2,h3.keep kx⟩⟩⟩
theorem At.lay2 {C:Cv}{ex:List Addr}{env:List Vl}{σ:L2.St}{H H':Hp}{n:Nat}(A:At C ex env σ H n) {i1 i2:Nat}{xs ys xs' ys':List Yce}{us ws:List V}{a1 a2:Addr}(hi:i1≠i2) (e1:env[i1]? = some (.own xs)) (e2:env[i2]? = some (.own ys)) (s1:(σ[i1]?).join=some (.ref a1)) (s2:(σ[i2]?).join=some (.ref a2))
 (k:Kp [a1,a2] H H') (g1:H' a1=some (.lst us)) (g2:H' a2=some (.lst ws)) (r1:Reps ex H' xs' us) (r2:Reps ex H' ys' ws) (z1:us.length<=sizeLine) (z2:ws.length<=sizeLine):At C ex ((env.set i1 (.own xs')).set i2 (.own ys')) σ H' n:=by
 have ha1:a1∈Jl env σ i1:=by unfold Jl;rw [e1,s1];exact Qm.mpr rfl
 have ha2:a2∈Jl env σ i2:=by unfold Jl;rw [e2,s2];exact Qm.mpr rfl
 obtain ⟨p1,p2,p3⟩:=Wx A.ev ha1
 obtain ⟨q1,q2,q3⟩:=Wx A.ev ha2
 have n1:=A.new i1 a1 ha1
 have n2:=A.new i2 a2 ha2
 have hl:∀ l∈[a1,a2],l∈ex:=λ l h=>by
  rcases Qg.mp h with rfl | h
  . exact p2
  . rw [Qm.mp h];exact q2
 have e2':(env.set i1 (.own xs'))[i2]? = some (.own ys):=by rw [Q2 hi];exact e2
 refine ⟨⟨by rw [Xh,Xh];exact A.ev.len,λ j w e=>?_,A.ev.ch,λ b hb=>?_,C.S.keep A.ev.inv λ b hb o e=>k b o e λ z=>?_⟩,A.ex0,A.al0,λ j m b t1 t2=>?_,λ j b t=>?_,λ b o e nb=>?_,λ x hx=>(A.held x hx).keep (k.mono hl)⟩
 . by_cases hj2:i2=j
   . subst hj2
     rw [Q4 (Qr.mp e2').1] at e
     cases e
     exact ⟨a2,ws,s2,g2,z2,r2,q2,q3⟩
   . rw [Q2 hj2] at e
     by_cases hj1:i1=j
     . subst hj1
       rw [Q4 (Qr.mp e1).1] at e
       cases e
       exact ⟨a1,us,s1,g1,z1,r1,p2,p3⟩
     . rw [Q2 hj1] at e
       refine SlR.chg hl k (λ b hb z=>?_) (A.ev.sl j w e)
       rcases Qg.mp z with rfl | z
       . exact hj1 (A.sep i1 j _ ha1 (by rw [Vy e];exact hb))
       . rw [Qm.mp z] at hb
         exact hj2 (A.sep i2 j _ ha2 (by rw [Vy e];exact hb))
 . by_cases b1:b=a1
   . rw [b1,g1];exact Ul _
   . by_cases b2:b=a2
     . rw [b2,g2];exact Ul _
     . cases e:H b with
       | none=>exact absurd e (A.ev.al b hb)
       | some o=>rw [k b o e (by simp [b1,b2])];exact Ul _
 . rcases Qg.mp z with rfl | z
   . exact p3 hb
   . rw [Qm.mp z] at hb;exact q3 hb
 . rw [Jaq e2',Jaq e1] at t1 t2;exact A.sep j m b t1 t2
 . rw [Jaq e2',Jaq e1] at t;exact A.new j b t
 . refine k b o (A.kp b o e nb) λ z=>?_
   rcases Qg.mp z with rfl | z
   . rw [n1] at e;cases e
   . rw [Qm.mp z,n2] at e;cases e
abbrev J13 (sp:Js0) (i0 i1 i2 i3:Nat) (gt gu:GS):GS:=λ G env n=>i1≠i2/\match env[i0]?,env[i1]?,env[i2]?,env[i3]? with
 | some (.d bk),some (.own row),some (.own rooms),some (.d tn)=>sp bk row rooms tn λ o=>match o with
  | none=>gt G env n
  | some p=>p.1.length<=sizeLine/\p.2.length<=sizeLine/\gu G ((env.set i1 (.own p.1)).set i2 (.own p.2)) n
 | _,_,_,_=>False
instance (priority:=high) sv_ifLay {sp:Js0}{E':XK}{i0 i1 i2 i3:Nat}{t u:TS}{gt gu:GS} [T:SV t gt] [U:SV u gu]:SV (J0h (J0g (tB (Jch (Jcc sp) [] E' (Zd (Zv i0) (Zd (Zv i1) (Zd (Zv i2) (Zd (Zv i3) Jgc))))))) t u) (J13 sp i0 i1 i2 i3 gt gu):=⟨λ {C G D} O {ex env σ H n} A h=>by
 obtain ⟨hi,h⟩:=h
 split at h
 . rename_i bk row rooms tn e0 e1 e2 e3
   obtain ⟨bv,s0,rb⟩:=A.ev.sl i0 _ e0
   obtain ⟨a1,us,s1,h1,z1,r1,m1,c1⟩:=A.ev.sl i1 _ e1
   obtain ⟨a2,ws,s2,h2,z2,r2,m2,c2⟩:=A.ev.sl i2 _ e2
   obtain ⟨tv,s3,rt⟩:=A.ev.sl i3 _ e3
   have hne:a1≠a2:=λ z=>by
    subst z
    exact hi (A.sep i1 i2 a1 (by unfold Jl;rw [e1,s1];exact Qm.mpr rfl) (by unfold Jl;rw [e2,s2];exact Qm.mpr rfl))
   refine ⟨_,Jj s0,_,Jj s1,_,Jj s2,_,Jj s3,ex,bk,tn,row,rooms,bv,tv,a1,a2,us,ws,_,rfl,rb,rt,h1,h2,z1,z2,r1,r2,hne,A.ev.al,h,λ hp H' k=>⟨false,rfl,?_⟩,λ row' rooms' hp us' ws' H' g1 g2 g3 g4 k=>⟨true,rfl,?_⟩⟩
   . exact T.sv O (A.step (Yy.new A.ev.inv k)) hp
   . obtain ⟨l1,l2,q⟩:=hp
     exact U.sv O (A.lay2 hi e1 e2 s1 s2 k g1 g2 g3 g4 (by rw [<- g3.length];exact l1) (by rw [<- g4.length];exact l2)) q
 . exact h.elim⟩
theorem J14 {ws:List Way}{cs:List Int}(h:cs.length=ws.length):Jap (ws.map Zx) (cs.map .int)=(Qf ws.length).map λ (i:Nat)=>J57 [Zx (Ja ws (i:Int)),.int (cs.getD i 0)]:=by
 unfold Jap
 apply U1
 intro i
 rw [J9i]
 by_cases hi:i<ws.length
 . rw [Jdx hi,Jca (by omega),Jqu hi]
 . rw [Jcb hi,Xt (l:=ws.map Zx) (by rw [Qb];omega)]
theorem Jhy {α:Type}{xs ys:List α}{p:Nat}(h:p<=xs.length):(Bh xs ys p).length=xs.length+ys.length:=by
 unfold Bh
 rw [Qw,Qw,U6,U7]
 omega
theorem Jhz {α:Type}{xs ys:List α}{p:Nat}{x:α}(h:x∈xs):x∈Bh xs ys p:=by
 unfold Bh
 rw [Qz,Qz]
 rw [<- J7b p xs] at h
 rcases Qz.mp h with h | h
 . exact .inl (.inl h)
 . exact .inr h
theorem Jwf {α:Type}{xs ys:List α}{p:Nat}{x:α}(h:x∈ys):x∈Bh xs ys p:=by
 unfold Bh
 rw [Qz,Qz]
 exact .inl (.inr h)
theorem Jyo {xs ys:List Yce}{p:Nat}(h:Vf xs=true) (g:Vf ys=true):Vf (Bh xs ys p)=true:=by
 unfold Bh
 rw [Jb1,Jb1,g]
 rw [<- J7b p xs,Jb1,Xg] at h
 rw [h.1,h.2];rfl
theorem Jyp {ks:List Int}{j:Nat}{k:Int}(h:k∈ks):k∈Zb ks j:=by
 unfold Zb
 rw [<- J7b j ks] at h
 rw [Qz]
 exact (Qz.mp h).symm
theorem Js3 {ws:List Way}{ks:List Int}{m r k:Int}{j:Nat}(h:k∈ks):(Ja ws k).a∈Zw ws (Zb ks j) m r:=by
 unfold Zw
 exact Xu _ (Ql.mpr ⟨k,Jyp h,rfl⟩)
theorem Jwg (ws:List Way) (ks:List Int) (m r:Int):(Zw ws ks m r).length=(Z5 ks m).length:=by
 unfold Zw Z5
 rw [Qw,Qw,Qb,Qb]
 split<;>rfl
structure WkO (ws:List Way) (cs:List Int) (room:Int) (row:List Yce) (rs:List Int) (dn pd:List (List Int×Int)):Prop where
 okT:∀ t∈dn++pd,(∃ a,ShortOk ws cs a t.1)/\1<=t.2
 cover:∀ k∈onW cs,∃ t∈dn++pd,k∈t.1
 hdn:∀ t∈dn,∀ k∈t.1,(Ja ws k).a∈rs
 hr:room∈rs
 no:Vf row=true
 len:rs.length=row.length+1
 sz:row.length<=13*dn.length
 cnt:dn.length+pd.length<=60
theorem WkO.put {R U:Int}{ws:List Way}{cs:List Int}{room:Int}{row:List Yce}{rs:List Int}{dn lt rest:List (List Int×Int)}{t:List Int×Int}(ok:BookOk R U ws) (W:WkO ws cs room row rs dn (lt++t::rest)) {j:Nat}{k:Int}(hk:t.1[j]? = some k) (hr:(Ja ws k).a∈rs) :
 WkO ws cs room (Bh row (Z5 (Zb t.1 j) t.2) (rs.idxOf (Ja ws k).a)) (Bh rs (Zw ws (Zb t.1 j) t.2 (Ja ws k).a) (rs.idxOf (Ja ws k).a)) (dn++[t]) (lt++rest):=by
 have hix:rs.idxOf (Ja ws k).a<rs.length:=J8c hr
 have wl:=W.len
 have mem:∀ x,x∈dn++[t]++(lt++rest)↔x∈dn++(lt++t::rest):=λ x=>by
  simp only [Qz,Qg,Qm,Uc,or_false]
  constructor
  . rintro ((h | h) | h | h)<;>simp [h]
  . rintro (h | h | h | h)<;>simp [h]
 obtain ⟨⟨a,sh⟩,_⟩:=W.okT t (by simp)
 have hkl:t.1.length<=12:=by
  have:=Jaw (R:=R) sh.nd λ x hx=>by
   obtain ⟨k,hk,rfl⟩:=Ql.mp hx
   obtain ⟨k0,k1⟩:=sh.pth.inW k hk
   have wok:=ok.ways _ (Yd k0 k1)
   exact ⟨wok.a0,wok.a1⟩
  rw [Qb] at this
  have:=ok.r1
  omega
 have pl:=Jju (Zb t.1 j) t.2
 rw [Ja5 (α:=Int)] at pl
 refine ⟨λ x hx=>W.okT x ((mem x).mp hx),λ k hk=>?_,λ x hx k2 hk2=>?_,Jhz W.hr,Jyo W.no (Jjt _ _),?_,?_,?_⟩
 . obtain ⟨x,hx,h⟩:=W.cover k hk
   exact ⟨x,(mem x).mpr hx,h⟩
 . rcases Qz.mp hx with hx | hx
   . exact Jhz (W.hdn x hx k2 hk2)
   . rw [Qm.mp hx] at hk2
     exact Jwf (Js3 hk2)
 . rw [Jhy (by omega),Jhy (by omega),Jwg];omega
 . rw [Jhy (by omega),Qw,Xq]
   have:=W.sz
   omega
 . have:=W.cnt
   rw [Qw,Xv] at this
   rw [Qw,Qw,Xq]
   omega
def Clo (ws:List Way) (p:Int×List Int):Prop:=1<=p.1/\InW ws p.2/\(p.2=[]\/∃ a,Pth ws a p.2 a)
structure CntOk (R:Int) (ws:List Way) (cs:List Int) (wk:List (Int×List Int)):Prop where
 ro:RoundOk R ws cs
 cov:∀ i:Nat,0<cs.getD i 0->∃ p∈wk,(i:Int)∈p.2
 pos:∀ p∈wk,∀ k∈p.2,0<cs.getD k.toNat 0
theorem Jlq (m i:Nat):(Jcg m []).getD i 0=0:=by
 by_cases h:i<m
 . rw [Jau h];rfl
 . rw [Q3,Xt (by rw [Jfz];omega)];rfl
theorem Jwh {R:Int}{ws:List Way}:CntOk R ws (Jcg ws.length []) []:=by
 refine ⟨⟨Jfz,λ c hc=>?_,λ r hr=>?_⟩,λ i h=>?_,λ p hp=>by cases hp⟩
 . obtain ⟨i,hi,rfl⟩:=Uz.mp hc
   rw [<- Ve hi,Jlq];exact Uo _
 . rw [Jbz]
   exact Jat λ i hi=>by rw [Jlq];exact U2 _
 . rw [Jlq] at h;cases h
theorem Jyq {R:Int}{ws:List Way}{ls ks:List Int}{m:Int}(ro:RoundOk R ws ls) (hin:InW ws ks) (hc:ks=[]\/∃ a,Pth ws a ks a):∀ r:Nat,r<R.toNat->Wr ws (Wb ls ks m) ws.length (r:Nat)=0:=λ r hr=>by
 have h1:=ro.bal r hr
 rw [Jbz] at h1 ⊢
 have e1:((Qf ws.length).map λ j=>(Wb ls ks m).getD j 0*(Jae (Ja ws (j:Nat)).b (r:Nat)-Jae (Ja ws (j:Nat)).a (r:Nat))).sum=((Qf ws.length).map λ j=>(ls.getD j 0-m*(Jcg ls.length ks).getD j 0)*(Jae (Ja ws (j:Nat)).b (r:Nat)-Jae (Ja ws (j:Nat)).a (r:Nat))).sum:=Zs λ j hj=>by rw [Jb0 (by rw [ro.len];exact hj)]
 rw [e1,Jhv,h1,ro.len,Jf0 (f:=λ j=>Jae (Ja ws (j:Nat)).b (r:Nat)-Jae (Ja ws (j:Nat)).a (r:Nat)) hin]
 rcases hc with rfl | ⟨a,hp⟩
 . simp
 . rw [Jhr hp];simp
theorem Jd4 {ls ks:List Int}{m:Int}{i:Nat}(hm:1<=m) (hi:i<ls.length):ls.getD i 0<=(Wb ls ks (-m)).getD i 0/\((i:Int)∉ks->(Wb ls ks (-m)).getD i 0=ls.getD i 0)/\((i:Int)∈ks->ls.getD i 0<(Wb ls ks (-m)).getD i 0):=by
 rw [Jb0 hi,Jau hi]
 have hc:(0:Int)<=((ks.countP λ k=>decide (k=(i:Int)):Nat):Int):=Xo _
 have hmul:=Uw (show (0:Int)<=m by omega) hc
 rw [Int.neg_mul]
 refine ⟨by omega,λ h=>?_,λ h=>?_⟩
 . have:ks.countP (λ k=>decide (k=(i:Int)))=0:=Ybr.mpr λ k hk z=>h (by rw [<- of_decide_eq_true z];exact hk)
   rw [this];simp
 . have h1:0<ks.countP (λ k=>decide (k=(i:Int))):=Ybs.mpr ⟨_,h,decide_eq_true rfl⟩
   have:=Int.mul_pos (show (0:Int)<m by omega) (show (0:Int)<((ks.countP λ k=>decide (k=(i:Int)):Nat):Int) by omega)
   omega
theorem Jyr {R:Int}{ws:List Way}{cs:List Int}{wk:List (Int×List Int)}{p:Int×List Int}(h:CntOk R ws cs wk) (c:Clo ws p):CntOk R ws (Wb cs p.2 (-p.1)) (wk++[p]):=by
 obtain ⟨hm,hin,hc⟩:=c
 have hl:=h.ro.len
 refine ⟨⟨by rw [Zy];exact hl,λ x hx=>?_,Jyq h.ro hin hc⟩,λ i hp=>?_,λ q hq k hk=>?_⟩
 . obtain ⟨i,hi,rfl⟩:=Uz.mp hx
   rw [<- Ve hi]
   rw [Zy] at hi
   have:=(Jd4 (ks:=p.2) hm hi).1
   have:=Jav h.ro.nn i
   omega
 . by_cases hi:i<cs.length
   . by_cases hk:(i:Int)∈p.2
     . exact ⟨p,by simp,hk⟩
     . rw [(Jd4 (ks:=p.2) hm hi).2.1 hk] at hp
       obtain ⟨q,hq,hk⟩:=h.cov i hp
       exact ⟨q,Xu _ hq,hk⟩
   . rw [Q3,Xt (by rw [Zy];omega)] at hp
     cases hp
 . rcases Qz.mp hq with hq | hq
   . have h0:=h.pos q hq k hk
     have hi:k.toNat<cs.length:=by
      rcases U8 k.toNat cs.length with g | g
      . exact g
      . rw [Q3,Xt g] at h0;cases h0
     have:=(Jd4 (ks:=p.2) hm hi).1
     omega
   . rw [Qm.mp hq] at hk
     obtain ⟨k0,k1⟩:=hin k hk
     have hi:k.toNat<cs.length:=by omega
     have:=(Jd4 (ks:=p.2) hm hi).2.2 (by rw [Xw k0];exact hk)
     have:=Jav h.ro.nn k.toNat
     omega
theorem Jwi {R:Int}{ws:List Way}{cs:List Int}{wk:List (Int×List Int)}(h:CntOk R ws cs wk) (hw:∀ p∈wk,Clo ws p):∀ k∈onW cs,Rt (J2 ws (onW cs)) (Ja ws k).b.toNat (Ja ws k).a.toNat:=λ k hk=>by
 obtain ⟨k0,k1,kp⟩:=Z4.mp hk
 obtain ⟨p,hp,hm⟩:=h.cov k.toNat kp
 rw [Xw k0] at hm
 obtain ⟨_,hin,hc⟩:=hw p hp
 have hon:∀ j∈p.2,j∈onW cs:=λ j hj=>Z4.mpr ⟨(hin j hj).1,by have:=(hin j hj).2;have:=h.ro.len;omega,h.pos p hp j hj⟩
 rcases hc with e | ⟨a,hpt⟩
 . rw [e] at hm;cases hm
 . obtain ⟨e1,e2⟩:=Jpj (es:=J2 ws (onW cs)) hpt λ j hj=>Ql.mpr ⟨j,hon j hj,rfl⟩
   exact (e2 k hm).2.trans (e2 k hm).1
def J0a:G1:=λ ds Q=>match ds with
 | [.int i]=>Q (.int i)
 | [.bool b]=>Q (.int (if b=true then 1 else 0))
 | _=>False
instance cs_intB:CS (λ xs H Q=>(∃ i,xs=[V.int i]/\Q (V.int i) H)\/∃ k,xs=[V.bl k]/\Q (V.int (if k=true then 1 else 0)) H) J0a:=⟨λ {H xs ds Q P} r h k=>by
 unfold J0a at h
 split at h
 . cases r with
   | cons r1 t=>
    cases t
    cases r1
    exact .inl ⟨_,rfl,k _ _ h λ ex=>.int _⟩
 . cases r with
   | cons r1 t=>
    cases t
    cases r1
    exact .inr ⟨_,rfl,k _ _ h λ ex=>.int _⟩
 . exact h.elim⟩
theorem J15 {ws:List Way}{cs:List Int}(hl:cs.length=ws.length) (hne:onW cs≠[]):∃ i,i<ws.length/\0<cs.getD i 0:=by
 obtain ⟨k,rest,e⟩:∃ k rest,onW cs=k::rest:=by
  cases e:onW cs with
  | nil=>exact absurd e hne
  | cons k r=>exact ⟨k,r,rfl⟩
 obtain ⟨k0,k1,kp⟩:=Z4.mp (show k∈onW cs by rw [e];exact Qd)
 exact ⟨k.toNat,by omega,kp⟩
inductive Prt where
 | way (k:Int)
 | tms (m:Int) (ks:List Int)
noncomputable def Prt.pd:Prt->Yce
 | .way k=>Jcl k
 | .tms m ks=>.tuple [.str "times",.int m,.tuple [.str "row",.tuple (ks.map Jcl)]]
def Prt.ld (ws:List Way):Prt->Int->Int->Prop
 | .way k,a,b=>(0<=k/\k<ws.length)/\(Ja ws k).a=a/\(Ja ws k).b=b
 | .tms m ks,a,b=>a=b/\(1<=m/\m<=10^100-1)/\ks≠[]/\ks.length<=12/\Pth ws a ks a
noncomputable def Bc (ks:List Int) (i:Nat):Int:=((ks.countP λ k=>decide (k=(i:Int)):Nat):Int)
noncomputable def Prt.cn:Prt->Nat->Int
 | .way k,i=>Bc [k] i
 | .tms m ks,i=>m*Bc ks i
noncomputable def cnP (ps:List Prt) (i:Nat):Int:=(ps.map λ p=>p.cn i).sum
noncomputable def Jps (ks:List Int) (m:Int):List Prt:=ks.map .way++if 1<m then [.tms (m-1) ks] else []
theorem Jys (ks:List Int) (m:Int):Z5 ks m=(Jps ks m).map Prt.pd:=by
 unfold Z5 Jps
 rw [Qu,Q0]
 congr 1
 by_cases h:1<m
 . rw [if_pos h,if_pos h];rfl
 . rw [if_neg h,if_neg h];rfl
theorem Jh0 (xs ys:List Int) (i:Nat):Bc (xs++ys) i=Bc xs i+Bc ys i:=by
 unfold Bc
 rw [Ybp];omega
theorem Jwj (ks:List Int) (j i:Nat):Bc (Zb ks j) i=Bc ks i:=by
 unfold Zb
 rw [Jh0]
 have:=Jh0 (ks.take j) (ks.drop j) i
 rw [J7b] at this
 omega
theorem Js4 (k:Int) (ks:List Int) (i:Nat):Bc (k::ks) i=Bc [k] i+Bc ks i:=Jh0 [k] ks i
theorem Jf6 (xs ys:List Prt) (i:Nat):cnP (xs++ys) i=cnP xs i+cnP ys i:=by
 unfold cnP
 rw [Qu,Ud]
theorem Jnr (i:Nat):∀ ks:List Int,cnP (ks.map .way) i=Bc ks i
 | []=>rfl
 | k::ks=>by
  rw [Js4,<- Jnr i ks]
  unfold cnP
  rw [Qq,Qq,Xz];rfl
theorem Jwk {ks:List Int}{m:Int}(hm:1<=m) (i:Nat):cnP (Jps ks m) i=m*Bc ks i:=by
 unfold Jps
 rw [Jf6,Jnr]
 by_cases h:1<m
 . rw [if_pos h]
   show Bc ks i+((m-1)*Bc ks i+0)=_
   rw [J5r,U0];omega
 . rw [if_neg h]
   have:m=1:=by omega
   rw [this]
   show Bc ks i+0=_
   omega
theorem J16 (xs ys:List Prt) (p i:Nat):cnP (Bh xs ys p) i=cnP xs i+cnP ys i:=by
 unfold Bh
 rw [Jf6,Jf6]
 have:=Jf6 (xs.take p) (xs.drop p) i
 rw [J7b] at this
 omega
theorem Jq3 {ws:List Way}{b:Int}:∀ {ks:List Int}{a:Int}{p:Nat}{k:Int},Pth ws a ks b->ks[p]? = some k->Pth ws a (ks.take p) (Ja ws k).a/\Pth ws (Ja ws k).a (ks.drop p) b
 | [],_,_,_,_,e=>by cases e
 | x::ks,a,0,k,h,e=>by
  cases e
  refine ⟨h.2.1.symm,?_⟩
  rw [h.2.1];exact h
 | x::ks,a,p+1,k,h,e=>by
  obtain ⟨h1,h2⟩:=Jq3 h.2.2 (p:=p) (by simpa using e)
  exact ⟨⟨h.1,h.2.1,h1⟩,h2⟩
theorem Jyt {ws:List Way}{a:Int}{ks:List Int}{j:Nat}{k:Int}(h:Pth ws a ks a) (hk:ks[j]? = some k):Pth ws (Ja ws k).a (Zb ks j) (Ja ws k).a:=by
 obtain ⟨h1,h2⟩:=Jq3 h hk
 exact h2.app h1
def Ldp (ws:List Way):Int->List Prt->List Int->Int->Prop
 | a,[],[],b=>a=b
 | a,p::ps,r::rs,b=>a=r/\∃ c,p.ld ws r c/\Ldp ws c ps rs b
 | _,[],_::_,_=>False
 | _,_::_,[],_=>False
theorem Ldp.app {ws:List Way}:∀ {ps qs:List Prt}{rs ss:List Int}{a b c:Int},Ldp ws a ps rs b->Ldp ws b qs ss c->Ldp ws a (ps++qs) (rs++ss) c
 | [],_,[],_,a,b,c,h,g=>by
  have:a=b:=h
  subst this;exact g
 | p::ps,qs,r::rs,ss,a,b,c,h,g=>by
  obtain ⟨e,d,h1,h2⟩:=h
  exact ⟨e,d,h1,h2.app g⟩
 | [],_,_::_,_,_,_,_,h,_=>h.elim
 | _::_,_,[],_,_,_,_,h,_=>h.elim
theorem Ldp.cut {ws:List Way}:∀ {ps:List Prt}{rs:List Int}{a b r:Int}{p:Nat},Ldp ws a ps rs b->(rs++[b])[p]? = some r->Ldp ws a (ps.take p) (rs.take p) r/\Ldp ws r (ps.drop p) (rs.drop p) b
 | [],[],a,b,r,p,h,e=>by
  have hab:a=b:=h
  cases p with
  | zero=>
   simp at e
   subst e
   exact ⟨hab,rfl⟩
  | succ p=>simp at e
 | x::ps,y::rs,a,b,r,0,h,e=>by
  have e1:=h.1
  simp at e
  subst e
  exact ⟨e1,⟨rfl,h.2⟩⟩
 | x::ps,y::rs,a,b,r,p+1,h,e=>by
  obtain ⟨e1,c,h1,h2⟩:=h
  obtain ⟨g1,g2⟩:=h2.cut (p:=p) (r:=r) (by simpa using e)
  exact ⟨⟨e1,c,h1,g1⟩,g2⟩
 | [],_::_,_,_,_,_,h,_=>h.elim
 | _::_,[],_,_,_,_,h,_=>h.elim
theorem Jns {ws:List Way}{b:Int}:∀ {ks:List Int}{a:Int},Pth ws a ks b->Ldp ws a (ks.map .way) (ks.map λ k=>(Ja ws k).a) b
 | [],_,h=>h
 | k::ks,a,h=>⟨h.2.1.symm,_,⟨h.1,rfl,rfl⟩,Jns h.2.2⟩
theorem Jwl {ws:List Way}{ks:List Int}{r m:Int}(h:Pth ws r ks r) (hne:ks≠[]) (hl:ks.length<=12) (hm:m<=10^100):Ldp ws r (Jps ks m) (Zw ws ks m r) r:=by
 unfold Jps Zw
 refine (Jns h).app ?_
 by_cases c:1<m
 . rw [if_pos c,if_pos c]
   exact ⟨rfl,r,⟨rfl,⟨by omega,by omega⟩,hne,hl,h⟩,rfl⟩
 . rw [if_neg c,if_neg c];exact rfl
theorem Jey (t:List Int×Int) (ts:List (List Int×Int)) (i:Nat):Jbh (t::ts) i=t.2*Bc t.1 i+Jbh ts i:=by
 unfold Jbh Bc
 rw [Qq,Xz]
theorem Jnt (ts us:List (List Int×Int)) (i:Nat):Jbh (ts++us) i=Jbh ts i+Jbh us i:=by
 unfold Jbh
 rw [Qu,Ud]
structure WkT (ws:List Way) (cs:List Int) (room:Int) (row:List Yce) (rs:List Int) (dn pd:List (List Int×Int)):Prop where
 o:WkO ws cs room row rs dn pd
 t:∃ (ps:List Prt) (st:List Int),row=ps.map Prt.pd/\rs=st++[room]/\Ldp ws room ps st room/\∀ i:Nat,i<ws.length->cs.getD i 0=cnP ps i+Jbh pd i
theorem WkT.put {R U:Int}{ws:List Way}{cs:List Int}{room:Int}{row:List Yce}{rs:List Int}{dn lt rest:List (List Int×Int)}{t:List Int×Int}(ok:BookOk R U ws) (W:WkT ws cs room row rs dn (lt++t::rest)) (hb:t.2<=10^100) {j:Nat}{k:Int}(hk:t.1[j]? = some k) (hr:(Ja ws k).a∈rs) :
 WkT ws cs room (Bh row (Z5 (Zb t.1 j) t.2) (rs.idxOf (Ja ws k).a)) (Bh rs (Zw ws (Zb t.1 j) t.2 (Ja ws k).a) (rs.idxOf (Ja ws k).a)) (dn++[t]) (lt++rest):=by
 refine ⟨W.o.put ok hk hr,?_⟩
 obtain ⟨ps,st,rfl,rfl,hl,hc⟩:=W.t
 obtain ⟨⟨a,sh⟩,hm⟩:=W.o.okT t (by simp)
 have hkl:t.1.length<=12:=by
  have:=Jaw (R:=R) sh.nd λ x hx=>by
   obtain ⟨k,hk,rfl⟩:=Ql.mp hx
   obtain ⟨k0,k1⟩:=sh.pth.inW k hk
   have wok:=ok.ways _ (Yd k0 k1)
   exact ⟨wok.a0,wok.a1⟩
  rw [Qb] at this
  have:=ok.r1
  omega
 have hix:(st++[room]).idxOf (Ja ws k).a<(st++[room]).length:=J8c hr
 have hget:=Jf3 hr
 generalize (st++[room]).idxOf (Ja ws k).a=p at hix hget
 rw [Qw,Xq] at hix
 obtain ⟨g1,g2⟩:=hl.cut (p:=p) hget
 have rp:=Jyt sh.pth hk
 have rl:(Zb t.1 j).length=t.1.length:=Ja5 (α:=Int) t.1 j
 have rne:Zb t.1 j≠[]:=λ z=>by
  rw [z] at rl
  exact sh.ne (J72.mp rl.symm)
 refine ⟨Bh ps (Jps (Zb t.1 j) t.2) p,Bh st (Zw ws (Zb t.1 j) t.2 (Ja ws k).a) p,?_,?_,?_,λ i hi=>?_⟩
 . unfold Bh
   rw [Qu,Qu,Jys,J61,J56]
 . unfold Bh
   rw [List.take_append_of_le_length (by omega),List.drop_append_of_le_length (by omega),J5z,J5z,J5z]
 . unfold Bh
   exact (g1.app (Jwl rp rne (by omega) hb)).app g2
 . rw [hc i hi,J16,Jwk hm,Jwj,Jnt,Jnt,Jey];omega
theorem Jyu {ws:List Way}{cs ls:List Int}{room:Int}{ts:List (List Int×Int)}(tk:TurnsOk ws cs ls ts) (lt:∀ i:Nat,ls.getD i 0=0) (W:WkO ws cs room [] [room] [] ts):WkT ws cs room [] [room] [] ts:=
 ⟨W,[],[],rfl,rfl,rfl,λ i hi=>by
  rw [tk.sum i hi,lt];rfl⟩
theorem Jq4 {i:Nat}:∀ {ts:List (List Int×Int)},(∀ t∈ts,1<=t.2)->0<=Jbh ts i
 | [],_=>Uo _
 | t::ts,h=>by
  rw [Jey]
  have:=Jq4 (i:=i) λ u hu=>h u (Qh _ hu)
  have:=Uw (show 0<=t.2 by have:=h t Qd;omega) (show 0<=Bc t.1 i from Xo _)
  omega
theorem Jq5 {i:Nat}{t:List Int×Int}:∀ {ts:List (List Int×Int)},(∀ t∈ts,1<=t.2)->t∈ts->(i:Int)∈t.1->t.2<=Jbh ts i
 | [],_,h,_=>by cases h
 | u::ts,h,hm,hi=>by
  rw [Jey]
  have h1:=Jq4 (i:=i) λ u hu=>h u (Qh _ hu)
  have h0:0<=u.2:=by have:=h u Qd;omega
  rcases Qg.mp hm with rfl | hm
  . have c1:1<=Bc t.1 i:=by
     unfold Bc
     have:0<t.1.countP (λ k=>decide (k=(i:Int))):=Ybs.mpr ⟨_,hi,decide_eq_true rfl⟩
     omega
    have:=J78 c1 h0
    omega
  . have:=Jq5 (λ u hu=>h u (Qh _ hu)) hm hi
    have:=Uw h0 (show 0<=Bc u.1 i from Xo _)
    omega
theorem Jyv {ws:List Way}{cs ls:List Int}{ts:List (List Int×Int)}(hl:cs.length=ws.length) (tk:TurnsOk ws cs ls ts) (lt:∀ i:Nat,ls.getD i 0=0) {B:Int}(hB:∀ i:Nat,i<ws.length->cs.getD i 0<=B):∀ t∈ts,t.2<=B:=λ t ht=>by
 obtain ⟨⟨a,sh⟩,_⟩:=tk.ok t ht
 obtain ⟨k,rest,e⟩:∃ k rest,t.1=k::rest:=by
  cases h:t.1 with
  | nil=>exact absurd h sh.ne
  | cons k r=>exact ⟨k,r,rfl⟩
 have hk:k∈t.1:=by rw [e];exact Qd
 obtain ⟨k0,k1⟩:=sh.pth.inW k hk
 have h1:=Jq5 (i:=k.toNat) (λ u hu=>(tk.ok u hu).2) ht (by rw [Xw k0];exact hk)
 have h2:=tk.sum k.toNat (by omega)
 rw [lt] at h2
 have:=hB k.toNat (by omega)
 omega
structure RowOk (ws:List Way) (cs:List Int) (room:Int) (ps:List Prt):Prop where
 ne:ps≠[]
 len:ps.length<=1000
 ld:∃ st,Ldp ws room ps st room
 cn:∀ i:Nat,i<ws.length->cs.getD i 0=cnP ps i
theorem WkT.done {ws:List Way}{cs:List Int}{room:Int}{row:List Yce}{rs:List Int}{dn:List (List Int×Int)}(W:WkT ws cs room row rs dn []) (hp:∃ i,i<ws.length/\0<cs.getD i 0):∃ ps,row=ps.map Prt.pd/\RowOk ws cs room ps:=by
 obtain ⟨ps,st,rfl,_,hl,hc⟩:=W.t
 have hsz:=W.o.sz
 have hct:=W.o.cnt
 rw [Qb] at hsz
 rw [J5l] at hct
 refine ⟨ps,rfl,λ z=>?_,by omega,⟨st,hl⟩,λ i hi=>?_⟩
 . obtain ⟨i,hi,h⟩:=hp
   rw [hc i hi,z] at h
   cases h
 . rw [hc i hi]
   show _+0=_
   omega
def Jlr:GSp:=λ as n Q=>∃ (R U:Int) (ws:List Way) (cs:List Int) (room:Int),as=[.d (Jq R U ws),.d (.tuple (cs.map .int)),.d (.int room)]/\BookOk R U ws/\RoundOk R ws cs/\(∃ i,i<ws.length/\0<cs.getD i 0)/\(∀ i:Nat,i<ws.length->cs.getD i 0<=10^100) /\
 (Yo R.toNat ws (onW cs)).length=1/\(∃ k∈onW cs,(Ja ws k).a=room)/\∀ ps:List Prt,RowOk ws cs room ps->Q (.tuple [.str "row",.tuple (ps.map Prt.pd)]) n
noncomputable def Prt.fa (ws:List Way):Prt->Fa
 | .way k=>Wi (Ja ws k)
 | .tms m ks=>(W5 (B4 ws ks)).pw m
theorem Jjv (i:Nat):∀ (fs:List Fa) (f:Fa),(J4 f fs).g i=f.g i+(fs.map (λ x=>x.g i)).sum
 | [],f=>by simp [J4]
 | y::ys,f=>by
  show (J4 (f.then y) ys).g i=_
  rw [Jjv i ys]
  simp only [Fa.then,Qq,Xz]
  omega
theorem Jwm {fs:List Fa}{i:Nat}:(W5 fs).g i=(fs.map (λ x=>x.g i)).sum:=by
 cases fs with
 | nil=>rfl
 | cons x xs=>simp only [W5,Qq,Xz];rw [Jjv]
theorem Jwn {ws:List Way}{ks:List Int}{a b:Int}(h:Pth ws a ks b) (hne:ks≠[]):(W5 (B4 ws ks)).a=a/\(W5 (B4 ws ks)).b=b/\Jg7 (B4 ws ks):=by
 cases ks with
 | nil=>exact absurd rfl hne
 | cons k r=>
  refine ⟨?_,?_,?_⟩
  . show (J4 (Wi (Ja ws k)) (B4 ws r)).a=a
    rw [Jes];exact h.2.1
  . exact Jz1 (bs:=r) (f:=Wi (Ja ws k)) h.2.2
  . exact Jjf (bs:=r) (f:=Wi (Ja ws k)) h.2.2
theorem J17 {ws:List Way}{p:Prt}{a b:Int}(h:p.ld ws a b):(p.fa ws).a=a/\(p.fa ws).b=b:=by
 cases p with
 | way k=>exact ⟨h.2.1,h.2.2⟩
 | tms m ks=>
  obtain ⟨e,_,hne,_,hp⟩:=h
  obtain ⟨h1,h2,_⟩:=Jwn hp hne
  exact ⟨h1,h2.trans e⟩
theorem Jwo {ws:List Way}{p:Prt}{a b:Int}(h:p.ld ws a b):TD ws 2 p.pd (p.fa ws):=by
 cases p with
 | way k=>exact Td.way h.1.1 h.1.2 2
 | tms m ks=>
  obtain ⟨e,hm,hne,hl,hp⟩:=h
  obtain ⟨h1,h2,h3⟩:=Jwn hp hne
  refine .inr (.inr ⟨m,Jmv (ks.map Jsh),W5 (B4 ws ks),rfl,rfl,hm.1,hm.2,.inr (h1.trans h2.symm),?_⟩)
  exact .inr (.inl ⟨_,_,rfl,rfl,λ z=>hne (J6q.mp z),by rw [Qb];omega,Jqs hp.inW,h3⟩)
theorem Jwp {ws:List Way}:∀ {ps:List Prt}{rs:List Int}{a b:Int},Ldp ws a ps rs b->Jbg (TD ws 2) (ps.map Prt.pd) (ps.map (Prt.fa ws))/\Jg7 (ps.map (Prt.fa ws))/\(ps≠[]->(W5 (ps.map (Prt.fa ws))).a=a/\(W5 (ps.map (Prt.fa ws))).b=b)
 | [],[],_,_,_=>⟨trivial,trivial,λ z=>absurd rfl z⟩
 | p::ps,r::rs,a,b,h=>by
  obtain ⟨e,c,h1,h2⟩:=h
  obtain ⟨g1,g2,g3⟩:=Jwp h2
  obtain ⟨pa,pb⟩:=J17 h1
  cases ps with
  | nil=>
   cases rs with
   | nil=>
    have hc:c=b:=h2
    exact ⟨⟨Jwo h1,trivial⟩,trivial,λ _=>⟨by rw [e];exact pa,pb.trans hc⟩⟩
   | cons _ _=>exact h2.elim
  | cons q qs=>
   obtain ⟨ga,gb⟩:=g3 (by simp)
   refine ⟨⟨Jwo h1,g1⟩,⟨?_,g2⟩,λ _=>⟨?_,?_⟩⟩
   . show (p.fa ws).b=(q.fa ws).a
     have:(W5 ((q::qs).map (Prt.fa ws))).a=(q.fa ws).a:=Jpg
     rw [pb,<- this,ga]
   . have:(W5 ((p::q::qs).map (Prt.fa ws))).a=(p.fa ws).a:=Jpg
     rw [this,pa,e]
   . have h5:(W5 ((p::q::qs).map (Prt.fa ws))).b=(((q::qs).map (Prt.fa ws)).getLastD (p.fa ws)).b:=Jph
     have h6:(W5 ((q::qs).map (Prt.fa ws))).b=((qs.map (Prt.fa ws)).getLastD (q.fa ws)).b:=Jph
     rw [h5,<- gb,h6]
     cases qs<;>rfl
 | [],_::_,_,_,h=>h.elim
 | _::_,[],_,_,h=>h.elim
theorem J18 {ws:List Way}{cs:List Int}{room:Int}{ps:List Prt}(h:RowOk ws cs room ps):TD ws 3 (Jmv (ps.map Prt.pd)) (W5 (ps.map (Prt.fa ws)))/\(W5 (ps.map (Prt.fa ws))).a=room/\(W5 (ps.map (Prt.fa ws))).b=room:=by
 obtain ⟨st,hl⟩:=h.ld
 obtain ⟨g1,g2,g3⟩:=Jwp hl
 refine ⟨.inr (.inl ⟨_,_,rfl,rfl,λ z=>h.ne (J6q.mp z),by rw [Qb];have:=h.len;omega,g1,g2⟩),g3 h.ne⟩
noncomputable def Prt.lin (φ:Nat->Int):Prt->Int
 | .way k=>φ k.toNat
 | .tms m ks=>m*(ks.map λ k=>φ k.toNat).sum
theorem Jjw {n:Nat}{m:Int}{f:Nat->Int}:((Qf n).map λ i=>m*f i).sum=m*((Qf n).map f).sum:=by
 induction n with
 | zero=>simp
 | succ n ih=>simp only [Uv,Qu,Ud,J5p,J67];rw [ih,J9p]
theorem Jnu {n:Nat}{f:Nat->Int}{ns:List Int}(h:∀ k∈ns,0<=k/\k<n):((Qf n).map λ i=>Bc ns i*f i).sum=(ns.map λ k=>f k.toNat).sum:=by
 rw [<- Jf0 (m:=n) h]
 exact Zs λ i hi=>by rw [Jau hi];rfl
theorem Jyw {ws:List Way}{φ:Nat->Int}{p:Prt}{a b:Int}(h:p.ld ws a b):p.lin φ = ((Qf ws.length).map λ i=>p.cn i * φ i).sum:=by
 cases p with
 | way k=>
  rw [show (λ i=>Prt.cn (.way k) i * φ i)=λ i=>Bc [k] i * φ i from rfl,Jnu λ x hx=>by rw [Qm.mp hx];exact h.1]
  show φ k.toNat = φ k.toNat+0
  omega
 | tms m ks=>
  obtain ⟨_,_,_,_,hp⟩:=h
  rw [show (λ i=>Prt.cn (.tms m ks) i * φ i)=λ i=>m*(Bc ks i * φ i) from funext λ i=>J9q _ _ _,Jjw,Jnu hp.inW]
  rfl
theorem Jls {ws:List Way}{φ:Nat->Int}:∀ {ps:List Prt}{rs:List Int}{a b:Int},Ldp ws a ps rs b->(ps.map (Prt.lin φ)).sum=((Qf ws.length).map λ i=>cnP ps i * φ i).sum
 | [],[],_,_,_=>by
  rw [Jat (f:=λ i=>cnP [] i * φ i) λ i _=>U2 _];rfl
 | p::ps,r::rs,a,b,h=>by
  obtain ⟨e,c,h1,h2⟩:=h
  rw [Qq,Xz,Jls h2,Jyw h1,<- Jle]
  refine Zs λ i _=>?_
  rw [<- J59];rfl
 | [],_::_,_,_,h=>h.elim
 | _::_,[],_,_,h=>h.elim
theorem J19 {ws:List Way}(p:Prt):(p.fa ws).len=p.lin λ _=>1:=by
 cases p with
 | way k=>rfl
 | tms m ks=>
  show m*(W5 (B4 ws ks)).len=m*_
  rw [Jhd,Jm4]
  congr 1
  induction ks with
  | nil=>rfl
  | cons k ks ih=>rw [Qq,Xz,<- ih,Xv];show _=(1:Int)+_;omega
theorem J5g {ws:List Way}(q:Nat) {p:Prt}{a b:Int}(h:p.ld ws a b):(p.fa ws).g q=p.lin λ i=>(Ja ws ((i:Nat):Int)).g.getD q 0:=by
 cases p with
 | way k=>
  show (Ja ws k).g.getD q 0=(Ja ws ((k.toNat:Nat):Int)).g.getD q 0
  rw [Xw h.1.1]
 | tms m ks=>
  obtain ⟨_,_,_,_,hp⟩:=h
  show m*(W5 (B4 ws ks)).g q=m*_
  rw [Jwm]
  unfold B4
  rw [Q0]
  refine congrArg (λ x=>m*List.sum x) ?_
  exact Xy λ k hk=>by
   show (Ja ws k).g.getD q 0=(Ja ws ((k.toNat:Nat):Int)).g.getD q 0
   rw [Xw (hp.inW k hk).1]
theorem Jwq {ws:List Way}(q:Nat):∀ {ps:List Prt}{rs:List Int}{a b:Int},Ldp ws a ps rs b->((ps.map (Prt.fa ws)).map λ x=>x.g q)=ps.map (Prt.lin λ i=>(Ja ws ((i:Nat):Int)).g.getD q 0)
 | [],[],_,_,_=>rfl
 | p::ps,r::rs,a,b,h=>by
  obtain ⟨e,c,h1,h2⟩:=h
  rw [Qq,Qq,Qq,Jwq q h2,J5g q h1]
 | [],_::_,_,_,h=>h.elim
 | _::_,[],_,_,h=>h.elim
theorem J4c {ws:List Way}{cs:List Int}{room:Int}{ps:List Prt}(h:RowOk ws cs room ps) (q:Nat):(W5 (ps.map (Prt.fa ws))).g q=((Qf ws.length).map λ i=>cs.getD i 0*(Ja ws ((i:Nat):Int)).g.getD q 0).sum:=by
 obtain ⟨st,hl⟩:=h.ld
 rw [Jwm,Jwq q hl,Jls hl]
 exact Zs λ i hi=>by rw [h.cn i hi]
theorem Jyx {ws:List Way}{cs:List Int}{room:Int}{ps:List Prt}(h:RowOk ws cs room ps):(W5 (ps.map (Prt.fa ws))).len=((Qf ws.length).map λ i=>cs.getD i 0).sum:=by
 obtain ⟨st,hl⟩:=h.ld
 rw [Jhd,Q0]
 have:(ps.map (Fa.len∘Prt.fa ws))=ps.map (Prt.lin λ _=>1):=Xy λ p _=>J19 p
 rw [this,Jls hl]
 exact Zs λ i hi=>by rw [h.cn i hi,J8g]
noncomputable def Be (ws:List Way) (wk:List (Int×List Int)):List Int:=wk.foldl (λ cs p=>Wb cs p.2 (-p.1)) (Jcg ws.length [])
def Jez:GSp:=λ as n Q=>∃ (R U:Int) (ws:List Way) (wk:List (Int×List Int)),as=[.d (Jq R U ws),.d (.list (wk.map wkD))]/\BookOk R U ws/\(∀ p∈wk,InW ws p.2)/\Q (.tuple ((Be ws wk).map .int)) n
theorem Js5 (ws:List Way) (wk:List (Int×List Int)) (p:Int×List Int):Be ws (wk++[p])=Wb (Be ws wk) p.2 (-p.1):=by
 unfold Be
 rw [J8a];rfl
theorem Jjx {ls:List Int}:∀ (wk:List (Int×List Int)) (ls:List Int),(wk.foldl (λ cs p=>Wb cs p.2 (-p.1)) ls).length=ls.length
 | [],_=>rfl
 | p::wk,ls=>by rw [J6i,Jjx (ls:=ls) wk,Zy]
theorem Jwr (ws:List Way) (wk:List (Int×List Int)):(Be ws wk).length=ws.length:=by
 unfold Be
 rw [Jjx (ls:=[]),Jfz]
theorem Jnv {R:Int}{ws:List Way}:∀ (wk dn:List (Int×List Int)) (ls:List Int),CntOk R ws ls dn->(∀ p∈wk,Clo ws p)->CntOk R ws (wk.foldl (λ cs p=>Wb cs p.2 (-p.1)) ls) (dn++wk)
 | [],dn,ls,h,_=>by rw [X5];exact h
 | p::wk,dn,ls,h,hc=>by
  rw [J6i]
  have:=Jnv wk (dn++[p]) _ (Jyr h (hc p Qd)) λ q hq=>hc q (Qh _ hq)
  rw [J5z] at this
  exact this
theorem Jyy {R:Int}{ws:List Way}{wk:List (Int×List Int)}(h:∀ p∈wk,Clo ws p):CntOk R ws (Be ws wk) wk:=Jnv wk [] _ Jwh h
theorem Jnw {B:Int}{i:Nat}:∀ (wk:List (Int×List Int)) (ls:List Int),(∀ p∈wk,0<=p.1/\p.1*p.2.length<=B)->0<=B->i<ls.length->(wk.foldl (λ cs p=>Wb cs p.2 (-p.1)) ls).getD i 0<=ls.getD i 0+wk.length*B
 | [],ls,_,_,_=>by simp
 | p::wk,ls,h,hB,hi=>by
  rw [J6i]
  have ih:=Jnw (B:=B) wk (Wb ls p.2 (-p.1)) (λ q hq=>h q (Qh _ hq)) hB (by rw [Zy];exact hi)
  obtain ⟨h0,h1⟩:=h p Qd
  rw [Jb0 hi,Jau hi,Int.neg_mul] at ih
  have:p.1*((p.2.countP λ k=>decide (k=(i:Int)):Nat):Int)<=p.1*(p.2.length:Int):=J78 (by have:=Ybq (p:=λ k=>decide (k=(i:Int))) (l:=p.2);omega) h0
  rw [Xv,J77,J59]
  simp only [Int.natCast_one,U0]
  omega
theorem Jyz {ws:List Way}{wk:List (Int×List Int)}{B:Int}{i:Nat}(h:∀ p∈wk,0<=p.1/\p.1*p.2.length<=B) (hB:0<=B) (hi:i<ws.length):(Be ws wk).getD i 0<=wk.length*B:=by
 have:=Jnw (B:=B) (i:=i) wk (Jcg ws.length []) h hB (by rw [Jfz];exact hi)
 rw [Jlq] at this
 unfold Be
 omega
theorem Js6 {ws:List Way}{ks rg:List Int}{x y:Nat}(h:Rt (J2 ws ks) x y) (hin:∀ i∈ks,Rt (J2 ws ks) x (Ja ws i).a.toNat->Rt (J2 ws ks) (Ja ws i).b.toNat y->i∈rg):Rt (J2 ws rg) x y:=by
 induction h with
 | refl=>exact .refl _
 | step h1 e ih=>
  obtain ⟨i,hi,ei⟩:=Ql.mp e
  have ea:(Ja ws i).a.toNat=_:=congrArg Prod.fst ei
  have eb:(Ja ws i).b.toNat=_:=congrArg Prod.snd ei
  have hr:i∈rg:=hin i hi (by rw [ea];exact h1) (by rw [eb];exact .refl _)
  exact (ih λ j hj h2 h3=>hin j hj h2 (h3.step e)).step (Ql.mpr ⟨i,hr,ei⟩)
theorem Je0 {R:Nat}{ws:List Way}{ks rg:List Int}(h:rg∈Yo R ws ks):∃ y∈Bu (Zt R (J2 ws ks) ws) ks,rg=grp (Zt R (J2 ws ks) ws) ks y:=by
 unfold Yo at h
 rw [Jpl,Q0] at h
 obtain ⟨y,hy,rfl⟩:=Ql.mp h
 exact ⟨y,hy,rfl⟩
theorem Jd5 {R:Nat}{ws:List Way}{ks rg:List Int}(hr:∀ e∈J2 ws ks,e.1<R/\e.2<R) (h:rg∈Yo R ws ks) {k:Int}(hk:k∈rg) :
 k∈ks/\Rt (J2 ws ks) (Ja ws k).b.toNat (Ja ws k).a.toNat/\∀ j,j∈rg↔j∈ks/\Rt (J2 ws ks) (Ja ws k).b.toNat (Ja ws j).a.toNat/\Rt (J2 ws ks) (Ja ws j).b.toNat (Ja ws k).a.toNat:=by
 obtain ⟨y,hy,rfl⟩:=Je0 h
 obtain ⟨hks,hc⟩:=Q6.mp hk
 have hc:=of_decide_eq_true hc
 have hp:Pw (J2 ws ks) R (Ja ws k).b.toNat (Ja ws k).a.toNat=true:=by
  unfold Zt at hc
  by_cases c:Pw (J2 ws ks) R (Ja ws k).b.toNat (Ja ws k).a.toNat=true
  . exact c
  . rw [if_neg c] at hc;cases hc
 have hy2:y=Yk R (J2 ws ks) (Ja ws k).a.toNat:=by
  unfold Zt at hc
  rw [if_pos hp] at hc
  exact (Xd hc).symm
 refine ⟨hks,(Y8 hr).mp hp,λ j=>?_⟩
 constructor
 . intro hj
   obtain ⟨hjs,hcj⟩:=Q6.mp hj
   have hcj:=of_decide_eq_true hcj
   rw [hy2] at hcj
   have:=Jli hr hks hjs hp
   rw [decide_eq_true hcj,Xg,Y8 hr,Y8 hr] at this
   exact ⟨hjs,this.1,this.2⟩
 . rintro ⟨hjs,h1,h2⟩
   have:=Jli hr hks hjs hp
   rw [(Y8 hr).mpr h1,(Y8 hr).mpr h2] at this
   refine Q6.mpr ⟨hjs,decide_eq_true ?_⟩
   rw [hy2]
   exact of_decide_eq_true this.symm
theorem Jlt {R:Nat}{ws:List Way}{ks rg:List Int}(h:rg∈Yo R ws ks):rg≠[]:=by
 obtain ⟨y,hy,rfl⟩:=Je0 h
 obtain ⟨k,hk,hc⟩:=Jd0.mp hy
 intro z
 have:k∈grp (Zt R (J2 ws ks) ws) ks y:=Q6.mpr ⟨hk,decide_eq_true hc⟩
 rw [z] at this
 cases this
theorem Jnx {R:Nat}{ws:List Way}{ks rg:List Int}(h:rg∈Yo R ws ks):ks.filter (λ k=>decide (k∈rg))=rg:=by
 obtain ⟨y,hy,rfl⟩:=Je0 h
 unfold grp
 refine J69 λ k hk=>?_
 refine decide_eq_decide.mpr ?_
 rw [Q6,decide_eq_true_iff]
 exact ⟨λ z=>z.2,λ z=>⟨hk,z⟩⟩
theorem Jpt {R:Nat}{ws:List Way}{ks rg:List Int}(hr:∀ e∈J2 ws ks,e.1<R/\e.2<R) (h:rg∈Yo R ws ks):∀ k∈rg,∀ j∈rg,Rt (J2 ws rg) (Ja ws k).b.toNat (Ja ws j).a.toNat:=λ k hk j hj=>by
 obtain ⟨hks,kk,mem⟩:=Jd5 hr h hk
 obtain ⟨hjs,h1,h2⟩:=(mem j).mp hj
 have jj:Rt (J2 ws ks) (Ja ws j).a.toNat (Ja ws j).b.toNat:=.step (.refl _) (Ql.mpr ⟨j,hjs,rfl⟩)
 refine Js6 h1 λ i hi g1 g2=>(mem i).mpr ⟨hi,g1,g2.trans (jj.trans h2)⟩
theorem Js7 {R:Nat}{ws:List Way}{ks rg:List Int}(hr:∀ e∈J2 ws ks,e.1<R/\e.2<R) (h:rg∈Yo R ws ks):Yo R ws rg=[rg]:=by
 refine Jv0 (Jlt h) (λ e he=>?_) (Jpt hr h)
 obtain ⟨k,hk,rfl⟩:=Ql.mp he
 exact hr _ (Ql.mpr ⟨k,(Jd5 hr h hk).1,rfl⟩)
noncomputable def Ja6 (cs rg:List Int):List Int:=(Qf cs.length).map λ (i:Nat)=>cs.getD i 0*(if ((i:Nat):Int)∈rg then 1 else 0)
theorem Jlu (cs rg:List Int):(Ja6 cs rg).length=cs.length:=by unfold Ja6;rw [Qb,Xi]
theorem Jws {cs rg:List Int}{i:Nat}(h:i<cs.length):(Ja6 cs rg).getD i 0=cs.getD i 0*(if ((i:Nat):Int)∈rg then 1 else 0):=by
 unfold Ja6
 rw [Q3,Qs,Uk h];rfl
theorem Jlv {cs rg:List Int}{i:Nat}(h:i<cs.length) (hi:((i:Nat):Int)∈rg):(Ja6 cs rg).getD i 0=cs.getD i 0:=by rw [Jws h,if_pos hi,J8g]
theorem Jlw {cs rg:List Int}{i:Nat}(h:i<cs.length) (hi:((i:Nat):Int)∉rg):(Ja6 cs rg).getD i 0=0:=by rw [Jws h,if_neg hi,J7a]
theorem J2a {cs rg:List Int}(h:(onW cs).filter (λ k=>decide (k∈rg))=rg):onW (Ja6 cs rg)=rg:=by
 conv=>rhs;rw [<- h]
 unfold onW
 rw [Jlu,List.filter_map,List.filter_filter]
 congr 1
 refine J69 λ i hi=>?_
 have hi:=Xj.mp hi
 rw [X0,Xg,decide_eq_true_iff,decide_eq_true_iff]
 show _↔decide (((i:Nat):Int)∈rg)=true/\_
 rw [decide_eq_true_iff]
 by_cases c:((i:Nat):Int)∈rg
 . rw [Jlv hi c];exact ⟨λ z=>⟨c,z⟩,λ z=>z.2⟩
 . rw [Jlw hi c];exact ⟨λ z=>absurd z (by decide),λ z=>absurd z.1 c⟩
theorem Js8 {R U:Int}{ws:List Way}{cs rg:List Int}(ok:BookOk R U ws) (ro:RoundOk R ws cs) (hr:∀ e∈J2 ws (onW cs),e.1<R.toNat/\e.2<R.toNat) (back:∀ k∈onW cs,Rt (J2 ws (onW cs)) (Ja ws k).b.toNat (Ja ws k).a.toNat) (h:rg∈Yo R.toNat ws (onW cs)):RoundOk R ws (Ja6 cs rg):=by
 have hl:=ro.len
 obtain ⟨k,hk⟩:∃ k,k∈rg:=by
  cases e:rg with
  | nil=>exact absurd e (Jlt h)
  | cons k _=>exact ⟨k,Qd⟩
 have nn:∀ i:Nat,0<=cs.getD i 0:=λ i=>Jav ro.nn i
 have inn:∀ j∈onW cs,0<=j/\j<ws.length:=λ j hj=>by obtain ⟨a,b,_⟩:=Z4.mp hj;exact ⟨a,by omega⟩
 have a0:∀ j∈onW cs,0<=(Ja ws j).a/\0<=(Ja ws j).b:=λ j hj=>by
  have w:=ok.ways _ (Yd (inn j hj).1 (inn j hj).2)
  exact ⟨w.a0,w.b0⟩
 refine ⟨by rw [Jlu];exact hl,λ c hc=>?_,λ r hrr=>?_⟩
 . unfold Ja6 at hc
   obtain ⟨i,hi,rfl⟩:=Ql.mp hc
   exact Uw (nn i) (by split<;>decide)
 . have hb:=ro.bal r hrr
   rw [Jbz] at hb ⊢
   by_cases hS:∃ k∈rg,(Ja ws k).a=((r:Nat):Int)
   . refine Eq.trans (Zs λ j hj=>?_) hb
     by_cases hj2:((j:Nat):Int)∈rg
     . rw [Jlv (by omega) hj2]
     . rw [Jlw (by omega) hj2,U2]
       rcases J6p 0 (cs.getD j 0) with hp | hp
       . have hon:((j:Nat):Int)∈onW cs:=Z4.mpr ⟨Xo j,by omega,by rw [Xb];exact hp⟩
         obtain ⟨k,hk,ek⟩:=hS
         obtain ⟨hks,kk,mem⟩:=Jd5 hr h hk
         have na:(Ja ws ((j:Nat):Int)).a≠((r:Nat):Int):=λ e=>hj2 ((mem _).mpr ⟨hon,by rw [e,<- ek];exact kk,by
          have:=back _ hon
          rw [e,<- ek] at this
          exact this⟩)
         have nb:(Ja ws ((j:Nat):Int)).b≠((r:Nat):Int):=λ e=>hj2 ((mem _).mpr ⟨hon,by
          have:=back _ hon
          rw [e,<- ek] at this
          exact kk.trans this,by rw [e,ek];exact .refl _⟩)
         unfold Jae
         rw [if_neg na,if_neg nb,Int.sub_self,J7a]
       . have:cs.getD j 0=0:=by have:=nn j;omega
         rw [this,U2]
   . refine Jat λ j hj=>?_
     by_cases hj2:((j:Nat):Int)∈rg
     . have na:(Ja ws ((j:Nat):Int)).a≠((r:Nat):Int):=λ e=>hS ⟨_,hj2,e⟩
       have nb:(Ja ws ((j:Nat):Int)).b≠((r:Nat):Int):=λ e=>by
        obtain ⟨hon,_,mem⟩:=Jd5 hr h hj2
        obtain ⟨_,_,hp⟩:=Z4.mp hon
        rw [Xb] at hp
        obtain ⟨i,hi,ip,ei⟩:=Jqy ok ro hj hp
        have hion:((i:Nat):Int)∈onW cs:=Z4.mpr ⟨Xo i,by omega,by rw [Xb];exact ip⟩
        refine hS ⟨((i:Nat):Int),(mem _).mpr ⟨hion,by rw [ei];exact .refl _,?_⟩,ei.trans e⟩
        have:=back _ hion
        rw [ei] at this
        exact this.trans (back _ hon)
       unfold Jae
       rw [if_neg na,if_neg nb,Int.sub_self,J7a]
     . rw [Jlw (by omega) hj2,U2]
theorem Jy0 {c:Int->Option Int}{ks:List Int}:(Bu c ks).Nodup:=by
 induction ks using Jht with
 | h0=>exact J9s
 | h1 ks k ih=>
  rw [Jev,Jdz]
  split
  . split
    . exact ih
    . rename_i hy
      rw [J6o]
      refine ⟨ih,Xm.mpr ⟨(λ z=>by cases z),J9s⟩,λ a ha b hb e=>?_⟩
      rw [Qm.mp hb] at e
      rw [e] at ha
      exact hy ha
  . exact ih
noncomputable def inN (rs:List (List Int)) (k:Int):Int:=((rs.countP λ r=>decide (k∈r):Nat):Int)
theorem Jy1 {R:Nat}{ws:List Way}{ks:List Int}(hr:∀ e∈J2 ws ks,e.1<R/\e.2<R) {k:Int}(hk:k∈ks) (back:Rt (J2 ws ks) (Ja ws k).b.toNat (Ja ws k).a.toNat):inN (Yo R ws ks) k=1:=by
 obtain ⟨y,hy⟩:∃ y,Zt R (J2 ws ks) ws k=some y:=⟨_,by unfold Zt;rw [if_pos ((Y8 hr).mpr back)]⟩
 have hm:y∈Bu (Zt R (J2 ws ks) ws) ks:=Jd0.mpr ⟨k,hk,hy⟩
 unfold inN Yo
 rw [Jpl,Q0,List.countP_map]
 have e:((λ r=>decide (k∈r))∘((·.2)∘λ y=>(y,grp (Zt R (J2 ws ks) ws) ks y)))=λ z=>decide (z=y):=by
  funext z
  show decide (k∈grp (Zt R (J2 ws ks) ws) ks z)=_
  refine decide_eq_decide.mpr ?_
  unfold grp
  rw [Q6,decide_eq_true_iff,hy]
  exact ⟨λ h=>(Xd h.2).symm,λ h=>⟨hk,by rw [h]⟩⟩
 rw [e]
 rw [(Jf4 Jy0).2 hm];rfl
noncomputable def rgS (ws:List Way) (cs:List Int) (p:Nat):Int:=(Juo ws cs p).sum
theorem Jq6 (ws:List Way) (cs:List Int) (U:Int):J57 ((rgI ws cs U).map .int)=Zg U (rgS ws cs):=by
 unfold Zg fl rgI rgS
 rw [Q0];rfl
theorem Jwt {ws:List Way}{cs:List Int}{p:Nat}:rgS ws cs p=((Qf ws.length).map λ i=>cs.getD i 0*(Ja ws ((i:Nat):Int)).g.getD p 0).sum:=rfl
noncomputable def Jlx (ws:List Way) (cs:List Int) (rs:List (List Int)) (p:Nat):Int:=(rs.map λ rg=>rgS ws (Ja6 cs rg) p).sum
theorem Jq7 {ws:List Way}{cs:List Int}(hl:cs.length=ws.length) (p:Nat):∀ rs:List (List Int),Jlx ws cs rs p=((Qf ws.length).map λ i=>(inN rs ((i:Nat):Int)*cs.getD i 0)*(Ja ws ((i:Nat):Int)).g.getD p 0).sum
 | []=>by
  show (0:Int)=_
  rw [Jat λ i _=>?_]
  show (0:Int)*_*_=0
  rw [U2,U2]
 | rg::rs=>by
  show rgS ws (Ja6 cs rg) p+Jlx ws cs rs p=_
  rw [Jq7 hl p rs,Jwt,<- Jle]
  refine Zs λ i hi=>?_
  rw [Jws (by omega),<- J59]
  congr 1
  show _=(((rg::rs).countP λ r=>decide (((i:Nat):Int)∈r):Nat):Int)*_
  rw [J68,J77,J59,J7q (cs.getD i 0)]
  show _+(((rs.countP λ r=>decide (((i:Nat):Int)∈r):Nat):Int))*_=_
  by_cases c:((i:Nat):Int)∈rg
  . rw [if_pos c,if_pos (decide_eq_true c)];omega
  . rw [if_neg c,if_neg (λ z=>c (of_decide_eq_true z))];omega
theorem Jy2 {R:Int}{ws:List Way}{cs:List Int}(ro:RoundOk R ws cs) (hr:∀ e∈J2 ws (onW cs),e.1<R.toNat/\e.2<R.toNat) (back:∀ k∈onW cs,Rt (J2 ws (onW cs)) (Ja ws k).b.toNat (Ja ws k).a.toNat) (p:Nat):Jlx ws cs (Yo R.toNat ws (onW cs)) p=rgS ws cs p:=by
 rw [Jq7 ro.len,Jwt]
 refine Zs λ i hi=>?_
 congr 1
 rcases J6p 0 (cs.getD i 0) with hp | hp
 . have hon:((i:Nat):Int)∈onW cs:=Z4.mpr ⟨Xo i,by have:=ro.len;omega,by rw [Xb];exact hp⟩
   rw [Jy1 hr hon (back _ hon),U0]
 . have:cs.getD i 0=0:=by have:=Jav ro.nn i;omega
   rw [this,J7a]
noncomputable def twI (cs:List Int):List Int:=cs.map λ c=>2*c
theorem J4d {cs:List Int}{i:Nat}:(twI cs).getD i 0=2*cs.getD i 0:=by
 unfold twI
 rw [Q3,Qs,Q3]
 cases cs[i]? <;> rfl
theorem J4e (cs:List Int):onW (twI cs)=onW cs:=by
 unfold onW
 rw [show (twI cs).length=cs.length by unfold twI;rw [Qb]]
 congr 1
 refine J69 λ i _=>decide_eq_decide.mpr ?_
 rw [J4d];omega
theorem Jy3 {ws:List Way}{cs:List Int}{p:Nat}:rgS ws (twI cs) p=2*rgS ws cs p:=by
 rw [Jwt,Jwt,<- Jjw]
 exact Zs λ i _=>by rw [J4d,J9q]
theorem Jy4 {R:Int}{ws:List Way}{cs:List Int}(ro:RoundOk R ws cs) (hp:∃ i,i<ws.length/\0<cs.getD i 0):Jgv R ws cs=true:=by
 unfold Jgv
 rw [Xg,Xg]
 refine ⟨Ub.mpr λ c hc=>decide_eq_true (ro.nn c hc),?_,?_⟩
 . obtain ⟨i,hi,h⟩:=hp
   have hi:i<cs.length:=by rw [ro.len];exact hi
   refine J58.mpr ⟨cs[i],Uh hi,decide_eq_true ?_⟩
   rw [Ve hi] at h
   omega
 . unfold Jxj
   rw [Ub]
   intro r hr
   exact decide_eq_true (ro.bal r (Xj.mp hr))
end My
namespace L2
section
variable {X:Cx}
theorem Js9:Wz X (.builtin "sum") (λ xs H Q=>X.calm=true/\∃ (p:Addr) (ns:List Int),xs=[.ref p]/\SqT X.K H p (ns.map V.int)/\Q (.int ns.sum) H):=by
 intro pins s σ H xs us Q I r h
 obtain ⟨hc,p,ns,rfl,hq,q⟩:=h
 obtain ⟨u,rfl,ru⟩:=Jak r
 cases ru
 obtain ⟨its,rv,hl,hz⟩:=I.tuple hq
 have hi:=Jcr rv
 obtain ⟨xs,e⟩:=hi.allInts.items
 rw [e] at hl
 refine PySem.W.ktm_sumG (I.ok.hd hc) hl λ h' tk t' hk=>?_
 have e2:preSum (numAt xs) xs.size=ns.sum:=by
  have h1:=hi.numsOf
  have h2:numsOf its.toArray.toList=(xs.toList.map (·.1)):=by rw [e,Ydx]
  rw [preSum_eq,J51 (by simp)]
  have h2':numsOf its=(xs.toList.map (·.1)):=by simpa using h2
  rw [<- h2',h1]
 rw [e2]
 exact ⟨.int ns.sum,H,I.kept (t':=tk) hk,⟨_,rfl⟩,q⟩
theorem Jpu {K':Qc}(hK:X.K=K') (hc:X.calm=true):Wz X (.builtin "sum") (λ xs H Q=>∃ (p:Addr) (ns:List Int),xs=[.ref p]/\SqT K' H p (ns.map V.int)/\Q (.int ns.sum) H):=by
 subst hK
 intro pins s σ H xs us Q I r h
 exact Js9 pins s σ H xs us Q I r ⟨hc,h⟩
end
end L2
namespace My
open L2
def J4f:G1:=λ ds Q=>∃ ns:List Int,ds=[.tuple (ns.map .int)]/\Q (.int ns.sum)
instance cs_sumT {K:Qc}:CS (λ xs H Q=>∃ (p:Addr) (ns:List Int),xs=[.ref p]/\SqT K H p (ns.map V.int)/\Q (.int ns.sum) H) J4f:=⟨λ {H xs ds Q P} r h k=>by
 obtain ⟨ns,rfl,q⟩:=h
 cases r with
 | cons r1 t=>
  cases t
  cases r1 with
  | tuple e _ _ rs=>
   cases rs.ints_inv
   exact ⟨_,ns,rfl,SqT.of e,k _ _ q λ _=>.int _⟩⟩
theorem Jta:∀ (vs:List V) (H:Hp) (Q:VK) (E:XK),Jp Jk1 vs H Q E->Jfn vs H Q E:=λ vs H Q E h=>by
 obtain ⟨S,ex,as,n,P,r,hc,al,iv,⟨x,rfl,q⟩,k⟩:=h
 obtain ⟨u,rfl,⟨u',eu,rb⟩⟩:=J3r r
 cases eu
 exact ⟨ex,.int x,_,rfl,rb,k _ _ _ _ q (.refl iv) (.bool _)⟩
def Jd6:GSp:=λ as n Q=>∃ (R U:Int) (ws:List Way) (d:Yce) (f:Fa) (room:Int) (s:Nat->Int),as=[.d (Jq R U ws),.d (.tuple [.int room,Zg U s]),.d d]/\BookOk R U ws/\TD ws 6 d f/\¬ (room=f.a/\∀ i,i<U.toNat->f.d i<=s i)/\Q (.bool false) n
instance scal_isDone:Scal Jd6:=⟨λ {as n P} h=>by
 obtain ⟨R,U,ws,d,f,room,s,e,ok,td,nb,q⟩:=h
 exact ⟨R,U,ws,d,f,room,s,e,ok,td,nb,rfl,q⟩⟩
def B6:GSp:=λ as n Q=>∃ (R U:Int) (ws:List Way) (cs:List Int),as=[.d (Jq R U ws),.d (Jbw (onW cs)),.d (.tuple (cs.map .int))]/\BookOk R U ws/\RoundOk R ws cs/\onW cs≠[]/\(∀ i:Nat,i<ws.length->cs.getD i 0<=10^99)/\Yo R.toNat ws (onW cs)=[onW cs]/\Q (.bool true) n
instance scal_partRight:Scal B6:=⟨λ {as n P} h=>by
 obtain ⟨R,U,ws,cs,e,ok,ro,hne,hb,h1,q⟩:=h
 exact ⟨R,U,ws,cs,e,ok,ro,hne,hb,h1,rfl,q⟩⟩
theorem Jwu:∀ cs:List Int,((Qf cs.length).map λ i=>cs.getD i 0).sum=cs.sum:=λ cs=>by
 congr 1
 apply J7z
 . rw [Qb,Xi]
 . intro i h1 h2
   rw [J9e,J70,Ve h2]
theorem J4g:Yde (10^50) (10^46):=by unfold Yde;decide +kernel
theorem J2b (u:Nat):Qy u (Qo 0)=fl u λ _=>0:=by
 unfold fl
 apply J7z
 . rw [Uq,Qb,Xi]
 . intro i h1 h2
   rw [List.getElem_replicate,J9e]
theorem Jy5 {rs:List (List Int)}{Q:Yce->Prop}(q:Q (.bool false)):Jgy true (.list (rs.map λ r=>.list (r.map .int))) (.list (rs.map λ r=>.list (r.map .int))) Q:=by
 have e:(rs.map λ r=>X7 (r.map .int))=rs.map Jjk:=rfl
 rw [e]
 refine Jeu (by rw [Uj];exact Jjl rs) ?_ q
 have:=Jjm rs
 rw [J5s]
 omega
theorem J2c {cs:List Int}:(((Qf cs.length).filter λ i=>decide (0<cs.getD i 0)).map λ i=>cs.getD i 0)≠[]->onW cs≠[]:=λ h z=>h (by
 unfold onW at z
 have:=J6q.mp z
 rw [this];rfl)
theorem Jwv {R U:Int}{ws:List Way}{cs:List Int}(ok:BookOk R U ws) (hl:cs.length=ws.length):∀ e∈J2 ws (onW cs),e.1<R.toNat/\e.2<R.toNat:=λ e he=>by
 obtain ⟨k,hk,rfl⟩:=Ql.mp he
 obtain ⟨k0,k1,_⟩:=Z4.mp hk
 have w:=ok.ways _ (Yd (ws:=ws) k0 (by omega))
 have:=w.a0
 have:=w.a1
 have:=w.b0
 have:=w.b1
 exact ⟨by omega,by omega⟩
theorem J2d {cs rg:List Int}{i:Nat}{B:Int}(nn:∀ c∈cs,0<=c) (hB:0<=B) (hi:i<cs.length) (h:cs.getD i 0<=B):(Ja6 cs rg).getD i 0<=B:=by
 by_cases c:((i:Nat):Int)∈rg
 . rw [Jlv hi c];exact h
 . rw [Jlw hi c];exact hB
theorem Jww (cs rg:List Int):((Qf cs.length).map λ (i:Nat)=>Qo (cs.getD i 0*(if inD (.int (i:Int)) (rg.map .int)=true then 1 else 0)))=(Ja6 cs rg).map .int:=by
 unfold Ja6
 rw [Q0]
 refine Xy λ i _=>?_
 show Qo _=Qo (cs.getD i 0*if ((i:Nat):Int)∈rg then 1 else 0)
 rw [Jqv]
 by_cases c:((i:Nat):Int)∈rg
 . rw [if_pos c,if_pos (decide_eq_true c)]
 . rw [if_neg c,if_neg (λ z=>c (of_decide_eq_true z))]
theorem Jwx {ws:List Way}{cs:List Int}{rs:List (List Int)}{rg:List Int}{p:Nat}:Jlx ws cs (rs++[rg]) p=Jlx ws cs rs p+rgS ws (Ja6 cs rg) p:=by
 unfold Jlx
 rw [Qu,Ud]
 simp
theorem Jwy {x:Int}(b:Bool):Jw2 x (if b=true then 1 else 0):=.inr (by cases b<;>decide)
noncomputable def J4h:Yce->Yce
 | .int c=>.int (2*c)
 | d=>d
theorem Jy6 (cs:List Int):(cs.map Qo).map J4h=(twI cs).map .int:=by
 unfold twI
 rw [Q0,Q0];rfl
section
variable {n:Nat}{key:Nat->Int}
structure PA (n:Nat) (p:Array Nat):Prop where
 size:p.size=n
 perm:p.toList.Perm (Qf n)
noncomputable def kv (key:Nat->Int) (p:Array Nat) (i:Nat):Int:=key (p.getD i 0)
end
end My
set_option synthInstance.maxSize 100000
set_option synthInstance.maxHeartbeats 4000000
namespace My
open L2
noncomputable def top (i:Nat):Stmt:=Ycd.main.body.getD i (.Pass ⟨0,0,0,0⟩)
noncomputable abbrev Jc0:Stmt:=top 5
noncomputable abbrev Jaf:Stmt:=top 6
noncomputable abbrev V0:Stmt:=top 7
noncomputable abbrev Jd7:Stmt:=top 8
noncomputable abbrev Zl:Stmt:=top 10
noncomputable abbrev Ja7:Stmt:=top 11
noncomputable abbrev Jag:Stmt:=top 13
noncomputable abbrev Jc1:Stmt:=top 14
noncomputable abbrev Vh:Stmt:=top 15
noncomputable abbrev Ja8:Stmt:=top 16
noncomputable abbrev Bi:Stmt:=top 17
noncomputable abbrev Ja9:Stmt:=top 18
noncomputable abbrev Vq:Stmt:=top 19
noncomputable abbrev Jce:Stmt:=top 20
noncomputable abbrev V1:Stmt:=top 22
noncomputable abbrev B8:Stmt:=top 23
noncomputable abbrev V2:Stmt:=top 24
noncomputable abbrev Zz:Stmt:=top 25
noncomputable abbrev Zm:Stmt:=top 26
noncomputable abbrev Jb2:Stmt:=top 27
noncomputable abbrev Jb3:Stmt:=top 28
noncomputable abbrev B9:Stmt:=top 29
noncomputable abbrev Je1:Stmt:=top 31
noncomputable abbrev Je2:Stmt:=top 32
noncomputable abbrev Jc2:Stmt:=top 33
noncomputable abbrev Jc3:Stmt:=top 34
noncomputable abbrev Jba:Stmt:=top 35
noncomputable abbrev Jbb:Stmt:=top 36
noncomputable abbrev Jc4:Stmt:=top 37
noncomputable abbrev Jc5:Stmt:=top 38
noncomputable abbrev Jbc:Stmt:=top 39
noncomputable abbrev Jbd:Stmt:=top 40
noncomputable abbrev Jah:Stmt:=top 42
noncomputable abbrev Wh:Stmt:=top 43
noncomputable abbrev Jaa:Stmt:=top 44
structure Txt (mg:Str->Option Ycf):Prop where
 b_isinstance:mg "isinstance" = none
 b_int:mg "int" = none
 b_bool:mg "bool" = none
 b_str:mg "str" = none
 b_tuple:mg "tuple" = none
 b_len:mg "len" = none
 b_all:mg "all" = none
 b_sum:mg "sum" = none
 b_range:mg "range" = none
 b_list:mg "list" = none
 b_zip:mg "zip" = none
 b_enumerate:mg "enumerate" = none
 b_min:mg "min" = none
 b_max:mg "max" = none
 b_any:mg "any" = none
variable {z:Er}
section
variable {P:Ycj}{w:Yci}{K:Qc}{mg:Str->Option Ycf}{base:Heap}
theorem Jny:FnScope ["thing"] ["thing"] (Jf Jc0):=⟨rfl,rfl,rfl,by decide +kernel,rfl,by decide +kernel,by decide +kernel⟩
theorem Jnz (T:Txt mg) (D:Def K mg "is_whole" Jc0 ["thing"]):Cal P w K mg base "is_whole" 1 ["thing"] Jfn:=by
 refine D.cal λ f fd F=>F.ok Jny (λ vs H Q E h=>?_) (λ cdv A outer s H vs Q E hr h=>?_)
 . obtain ⟨ex,d,v,rfl,_⟩:=h
   rfl
 obtain ⟨ex,d,v,rfl,r,q⟩:=h
 refine ⟨_,(@Jg _ _ _ (@Jr _ _ _ _ (Jee (J7 Jgo rfl T.b_isinstance Ydz (Jc (pv 0) (Jc (Jjz rfl T.b_int boot_int (v:=.ty "int") rfl) Jd))) (Jed (Jtg (J7 Jgo rfl T.b_isinstance Ydz (Jc (pv 0) (Jc (Jjz rfl T.b_bool boot_bool (v:=.ty "bool") rfl) Jd)))))))),?_⟩
 refine ⟨_,rfl,ex,d,_,_,rfl,r,Jxa,_,rfl,?_⟩
 refine Ze (λ c=>?_) (λ c=>?_)
 . refine ⟨_,rfl,ex,d,_,_,rfl,r,Jt4,_,rfl,?_⟩
   have e:(!Jdi d "bool")=Jel d:=by cases d<;>simp_all [Jdi,Jbo,Jel]
   rw [e];exact q
 . have e:Jel d=false:=by cases d<;>simp_all [Jdi,Jbo,Jel]
   rw [e] at q;exact q
theorem Jh1:FnScope ["thing","many"] ["thing","many"] (Jf Jaf):=⟨rfl,rfl,rfl,by decide +kernel,rfl,by decide +kernel,by decide +kernel⟩
theorem Jh2 (T:Txt mg) (D:Def K mg "is_tuple_of" Jaf ["thing","many"]):Cal P w K mg base "is_tuple_of" 1 ["thing","many"] Jt5:=by
 refine D.cal λ f fd F=>F.ok Jh1 (λ vs H Q E h=>?_) (λ cdv A outer s H vs Q E hr h=>?_)
 . obtain ⟨ex,d,v,n,rfl,_⟩:=h
   rfl
 obtain ⟨ex,d,v,n,rfl,r,q⟩:=h
 refine ⟨_,(@Jg _ _ _ (@Jr _ _ _ _ (Jee (J7 Jgo rfl T.b_isinstance Ydz (Jc (pv 0) (Jc (Jjz rfl T.b_tuple Ycr (v:=.ty "tuple") rfl) Jd))) (Jed (Jb6 Bx (J7 Zn rfl T.b_len J5t (Jc (pv 0) Jd)) (pv 1) (Jw _)))))),?_⟩
 refine ⟨_,rfl,ex,d,_,_,rfl,r,Jrt,_,rfl,?_⟩
 refine Ze (λ c=>?_) (λ c=>?_)
 . obtain ⟨xs,rfl⟩:=Jmg c
   cases r with
   | tuple e n' z rs=>
    refine ⟨_,rfl,_,_,rfl,.inr (SqT.of e),_,rfl,rfl,?_⟩
    have hl:=rs.length
    have e:decide (V.int (↑(J5i ‹List V›))=V.int n)=Jru (.tuple xs) n:=by show _=decide ((xs.length:Int)=n);rw [hl];simp
    rw [e];exact q
 . have e:Jru d n=false:=by cases d<;>first | rfl | exact absurd rfl (Jid c _)
   rw [e] at q;exact q
theorem Jh3:FnScope ["thing","many"] ["thing","many"] (Jf V0):=⟨rfl,rfl,rfl,by decide +kernel,rfl,by decide +kernel,by decide +kernel⟩
theorem Jh4 (T:Txt mg) (D:Def K mg "are_numbers" V0 ["thing","many"]) (Gm:Cal P w K mg base "is_tuple_of" 1 ["thing","many"] Jt5) (Gi:Cal P w K mg base "is_whole" 1 ["thing"] Jfn):Cal P w K mg base "are_numbers" 2 ["thing","many"] Jo6:=by
 refine D.cal λ f fd F=>F.ok Jh3 (λ vs H Q E h=>?_) (λ cdv A outer s H vs Q E hr h=>?_)
 . obtain ⟨ex,d,v,n,rfl,_⟩:=h
   rfl
 obtain ⟨ex,d,v,n,rfl,r,q⟩:=h
 refine ⟨_,(@Jg _ _ _ (@Jr _ _ _ _ (Jee (Yg Gm (hr.mono (by decide)) rfl (Jc (pv 0) (Jc (pv 1) Jd))) (Jed (J7 Jgm rfl T.b_all boot_all (Y2 (Ym (sc:=(Jf V0)) (N:=["thing","many"]) (N':=["part"]) (k:=1) (idx:=[]) rfl (by exact ⟨rfl,by decide +kernel,by decide +kernel,by decide +kernel,by decide +kernel,by decide +kernel,rfl,rfl⟩) rfl rfl (Jax (pv 0)) (λ _ _ _ _=>(Ju (i:=0) (show (["part"]:List Str).Nodup by decide +kernel) rfl (Qa rfl) (Qt rfl))) (λ _ _ _ _=>Yl) (λ _ _ _ _=>(Jee (Yg Gi (hr.mono (by decide)) rfl (Jc (pv 0) Jd)) (Jed (Jb6 Jzb (pv 0) Je (Jw _)))))) Jd)))))),?_⟩
 refine ⟨_,rfl,_,rfl,ex,d,_,_,rfl,r,_,rfl,Ze (λ cc=>?_) (λ cc=>?_)⟩
 . obtain ⟨ds,rfl,hlen⟩:=Juf cc
   obtain ⟨a,xs,rfl,ha,_,za,rs⟩:=Jfo r
   have hl:=rs.length
   refine ⟨_,rfl,a,rfl,⟨_,SqT.of ha⟩,λ l hl0=>?_⟩
   refine Jrr (K:=K) (λ i=>.bl (nnD (ds.getD i .none))) (SqT.of ha) za hl0 ?_ ?_
   . intro i x H1 M hx k1 hM
     obtain ⟨d,ed,rd⟩:=rs.getV hx
     have eg:ds.getD i .none=d:=by rw [Q3,ed];rfl
     have hm:=hM H1 .refl
     rw [eg] at hm
     refine ⟨_,rfl,ex,d,_,rfl,rd.keep k1.of,_,rfl,Ze (λ c2=>?_) (λ c2=>?_)⟩
     . obtain ⟨j,rfl⟩:=Jox c2
       cases rd
       exact ⟨_,rfl,_,_,rfl,rfl,hm⟩
     . have e:nnD d=false:=by cases d<;>first | rfl | cases c2
       rw [e] at hm;exact hm
   . intro H1 k1 hl1
     rw [<- hl,J04] at hl1
     refine ⟨rfl,l,_,rfl,SqL.of hl1,?_⟩
     rw [Jrv nnD ds .none]
     have:=q H1 k1
     have e:Jqh (.tuple ds) n=ds.all nnD:=by
      show (decide ((ds.length:Int)=n)&&ds.all nnD)=_
      rw [decide_eq_true hlen,J5q]
     rw [e] at this
     exact this
 . have:=q H .refl
   rw [Jr9 cc] at this
   exact this
theorem Wc:FnScope ["book","counts","rooms","purses","ways","more","a","b","gains","count"] ["book","counts"] (Jf Jag):=⟨rfl,rfl,rfl,by decide +kernel,rfl,by decide +kernel,by decide +kernel⟩
theorem Jh5 (T:Txt mg) (D:Def K mg "is_balanced" Jag ["book","counts"]):Cal P w K mg base "is_balanced" 1 ["book","counts"] Jum:=by
 refine D.cal λ f fd F=>F.ok Wc (λ vs H Q E h=>?_) (λ cdv A outer s H vs Q E hr h=>?_)
 . obtain ⟨ex,R,U,ws,bv,ca,cs,rfl,_⟩:=h
   rfl
 obtain ⟨ex,R,U,ws,bv,ca,cs,rfl,rb,ok,hca,hcl,q⟩:=h
 refine ⟨_,(@Jb _ _ _ _ _ (Zq (pv 0) (Vw (K':=K) (i:=2) (j:=3) (m:=4) rfl Wc.nd ⟨rfl,(Qa rfl),(Qa rfl)⟩ ⟨rfl,(Qa rfl),(Qa rfl)⟩ ⟨rfl,(Qa rfl),(Qa rfl)⟩ rfl))
  (@Jb _ _ _ _ _ (Js (i:=5) Wc.nd rfl (Qa rfl) (J3 Joo (@PEs.out _ _ _ (Yb (Jz Yu Jo))) (pv 2)))
  (@Jb _ _ _ _ _ (Z1 Xp rfl (Ja3 rfl T.b_zip (Jc (pv 4) (Jc (pv 1) Jd))) (Jof (n:=2) rfl (Bl (Vw (K':=K) (i:=6) (j:=7) (m:=8) rfl Wc.nd ⟨rfl,(Qa rfl),(Qa rfl)⟩ ⟨rfl,(Qa rfl),(Qa rfl)⟩ ⟨rfl,(Qa rfl),(Qa rfl)⟩ rfl) (Bl (Ju (i:=9) Wc.nd rfl (Qa rfl) (Qa rfl)) Jj1)))
  (@Jb _ _ _ _ _ (Jj2 (pv 5) (pv 6) Jgu (pv 9) Jtm Jal)
  (@Jg _ _ _ (Jj2 (pv 5) (pv 7) Jgu (pv 9) J0j Jal))))
  (@Jg _ _ _ (@Jr _ _ _ _ (Jtg (J7 (Ji4 rfl) rfl T.b_any boot_any (Jc (pv 5) Jd)))))))),?_⟩
 have hs:sizeLine=16777216:=Ycl
 have r0:=ok.r0
 have r1:=ok.r1
 have wz:=ok.len
 obtain ⟨ba,wa,vs,B⟩:=Jdj rb
 have eb:=B.e
 subst eb
 have vl:=B.len
 refine Vk (λ σ' H'=>σ'=[some (.ref ba),some (.ref ca),some (.int R),some (.int U),some (.ref wa),none,none,none,none,none]/\H'=H) (λ N hN=>?_) ?_
 . exact ⟨_,rfl,ba,_,rfl,SqT.of B.b,rfl,_,_,rfl,_,_,rfl,_,_,rfl,rfl,hN _ _ ⟨rfl,rfl⟩⟩
 rintro _ H ⟨rfl,rfl⟩
 refine Vk (λ σ' H'=>∃ lm,σ'=[some (.ref ba),some (.ref ca),some (.int R),some (.int U),some (.ref wa),some (.ref lm),none,none,none,none]/\Kp [] H H'/\H lm=none/\H' lm=some (.lst (((Qf R.toNat).map λ r=>Wr ws cs 0 (r:Nat)).map V.int))) (λ N hN=>?_) ?_
 . refine ⟨Jbp (X6 rfl),λ t ht=>⟨_,rfl,t,R,_,rfl,rfl,Jh,by omega,by omega,by simp;omega,λ l hl=>hN _ _ ⟨l,rfl,(Kp.new ht _).trans (Kp.new hl _),Kp.free (Kp.new (ex:=[]) ht _) hl (by simp),?_⟩⟩⟩
   rw [Jh,J4n]
   have e:((Qf R.toNat).map λ r=>Wr ws cs 0 (r:Nat))=Qy R.toNat (0:Int):=by
    rw [show (λ r:Nat=>Wr ws cs 0 (r:Int))=λ _=>(0:Int) from rfl,List.map_const',Xi]
   rw [e]
 rintro _ H1 ⟨lm,rfl,k1,fl,h1⟩
 refine Vk (λ σ' H'=>∃ o1 o2 o3 o4,σ'=[some (.ref ba),some (.ref ca),some (.int R),some (.int U),some (.ref wa),some (.ref lm),o1,o2,o3,o4]/\Kp [] H H'/\H' lm=some (.lst (((Qf R.toNat).map λ r=>Wr ws cs ws.length (r:Nat)).map V.int))) (λ N hN=>?_) ?_
 . refine ⟨_,rfl,_,rfl,true,true,wa,ca,_,_,rfl,SqT.of (k1 _ _ B.w (by simp)),SqT.of (k1 _ _ hca (by simp)),?_⟩
   refine Jxi (K:=K) (b:=true) (b':=true) (xs:=vs) (xs':=cs.map V.int) ws.length (by rw [Qb];omega) (λ i σ' H'=>∃ o1 o2 o3 o4,σ'=[some (.ref ba),some (.ref ca),some (.int R),some (.int U),some (.ref wa),some (.ref lm),o1,o2,o3,o4]/\Kp [] H H'/\H' lm=some (.lst (((Qf R.toNat).map λ r=>Wr ws cs i (r:Nat)).map V.int)))
    ⟨_,_,_,_,rfl,k1,h1⟩ (λ i σ' H' _ ⟨_,_,_,_,_,k',_⟩=>⟨SqT.of (k' _ _ B.w (by simp)),SqT.of (k' _ _ hca (by simp))⟩) ?_ (λ σ' H' h=>hN _ _ h)
   rintro i x x' σ' H2 t hi hx hx' ⟨o1,o2,o3,o4,rfl,k2,h2⟩ ht
   have k3:Kp [] H (upd H2 t (.tup [x,x'])):=k2.trans (Kp.new ht _)
   have h3:upd H2 t (.tup [x,x']) lm=some (.lst (((Qf R.toNat).map λ r=>Wr ws cs i (r:Nat)).map V.int)):=by rw [Ji (Jk h2 ht)];exact h2
   have h3t:upd H2 t (.tup [x,x']) t=some (.tup [x,x']):=Jh
   generalize upd H2 t (.tup [x,x'])=H3 at k3 h3 h3t
   rw [Qs,Qx (by omega)] at hx'
   cases hx'
   obtain ⟨t1,g,rfl,ht1,hg1,_,hm⟩:=Jo4 B.r hx
   have wok:=ok.ways _ hm
   have a0:=wok.a0
   have a1:=wok.a1
   have b0:=wok.b0
   have b1:=wok.b1
   have hc:cs.getD i 0=cs[i]:=by rw [Q3,Qx (by omega)];rfl
   refine ⟨t,_,rfl,SqT.of h3t,rfl,_,_,rfl,⟨t1,_,rfl,SqT.of (k3 _ _ ht1 (by simp)),rfl,_,_,rfl,_,_,rfl,_,_,rfl,rfl,_,_,rfl,rfl,?_⟩⟩
   refine Vk (λ σ' H'=>σ'=[some (.ref ba),some (.ref ca),some (.int R),some (.int U),some (.ref wa),some (.ref lm),some (.int (Ja ws (i:Nat)).a),some (.int (Ja ws (i:Nat)).b),some (.ref g),some (.int cs[i])]/\Kp [] H H'/\H' lm=some (.lst (((Qf R.toNat).map λ r=>Wr ws cs i (r:Nat)-(if (Ja ws (i:Nat)).a=((r:Nat):Int) then cs.getD i 0 else 0)).map V.int))) (λ N' hN'=>?_) ?_
   . refine ⟨_,rfl,_,rfl,lm,_,_,_,rfl,rfl,a0,SqL.of h3,Jmr (λ r=>Wr ws cs i r) _ _ a0 (by omega),_,rfl,_,_,rfl,rfl,lm,_,_,(Ja ws (i:Nat)).a.toNat,rfl,rfl,h3,Jul (by omega) (by rw [Qb,Qb,Xi];omega),hN' _ _ ⟨rfl,?_,?_⟩⟩
     . exact λ b o e n=>by rw [Ji (Jk e fl)];exact k3 _ _ e n
     . rw [Jh,Jmq (λ r=>Wr ws cs i r) _ _ _ (-cs[i]) a0 (Ybt)]
       congr 2
       apply congrArg
       apply Xy
       intro r _
       rw [hc]
       by_cases e:(Ja ws (i:Nat)).a=(r:Int)
       . rw [if_pos e,if_pos e];exact Ybt.symm
       . rw [if_neg e,if_neg e];omega
   rintro _ H4 ⟨rfl,k4,h4⟩
   refine ⟨_,rfl,_,rfl,lm,_,_,_,rfl,rfl,b0,SqL.of h4,Jmr (λ r=>Wr ws cs i r-(if (Ja ws (i:Nat)).a=r then cs.getD i 0 else 0)) _ _ b0 (by omega),_,rfl,_,_,rfl,rfl,lm,_,_,(Ja ws (i:Nat)).b.toNat,rfl,rfl,h4,Jul (by omega) (by rw [Qb,Qb,Xi];omega),_,_,_,_,rfl,?_,?_⟩
   . exact λ b o e n=>by rw [Ji (Jk e fl)];exact k4 _ _ e n
   . rw [Jh,Jmq (λ r=>Wr ws cs i r-(if (Ja ws (i:Nat)).a=r then cs.getD i 0 else 0)) _ _ _ cs[i] b0 rfl]
     congr 2
     apply congrArg
     apply Xy
     intro r _
     rw [Wr,hc]
 rintro _ H2 ⟨o1,o2,o3,o4,rfl,k2,h2⟩
 refine ⟨_,rfl,lm,_,rfl,SqL.of h2,?_⟩
 have:=q H2 k2
 unfold Jxj at this
 rw [<- Jsc (λ r=>Wr ws cs ws.length (r:Nat))] at this
 exact ⟨_,rfl,this⟩
theorem Jn0:FnScope ["book","counts"] ["book","counts"] (Jf Jc1):=⟨rfl,rfl,rfl,by decide +kernel,rfl,by decide +kernel,by decide +kernel⟩
theorem Jn1 (T:Txt mg) (D:Def K mg "is_round" Jc1 ["book","counts"]) (Gn:Cal P w K mg base "are_numbers" 2 ["thing","many"] Jo6) (Go:Cal P w K mg base "is_balanced" 1 ["book","counts"] Jum):Cal P w K mg base "is_round" 3 ["book","counts"] Jkq:=by
 refine D.cal λ f fd F=>F.ok Jn0 (λ vs H Q E h=>?_) (λ cdv A outer s H vs Q E hr h=>?_)
 . obtain ⟨ex,R,U,ws,bv,ca,cs,rfl,_⟩:=h
   rfl
 obtain ⟨ex,R,U,ws,bv,ca,cs,rfl,rb,ok,hca,nca,hcl,q⟩:=h
 refine ⟨_,(@Jg _ _ _ (@Jr _ _ _ _ (Jee (Yg Gn (hr.mono (by decide)) rfl (Jc (pv 1) (Bg (J7 Zn rfl T.b_len J5t (Y9 (Jm Jn (pv 0) Je (λ _ _=>rfl)) Jd)) Jd))) (Jee (J7 (Jsb rfl) rfl T.b_any boot_any (Jc (pv 1) Jd)) (Jed (Yg Go (hr.mono (by decide)) rfl (Jc (pv 0) (Jc (pv 1) Jd)))))))),?_⟩
 have hs:sizeLine=16777216:=Ycl
 have wz:=ok.len
 obtain ⟨ba,wa,vs,B⟩:=Jdj rb
 have eb:=B.e
 subst eb
 have vl:=B.len
 unfold Jgv at q
 refine ⟨_,rfl,_,rfl,ba,_,_,_,rfl,rfl,SqT.of B.b,at2 _ _ _,wa,_,rfl,.inr (SqT.of B.w),ex,_,_,_,rfl,Rep.tints hca nca (by omega),λ H1 k1=>?_⟩
 rw [Jxk cs _ (by omega)]
 refine ⟨_,rfl,Ze (λ cc=>?_) (λ cc=>?_)⟩
 . rw [cc] at q
   refine ⟨_,rfl,ca,cs,rfl,SqT.of (k1 _ _ hca (by simp)),_,rfl,Ze (λ c2=>?_) (λ c2=>?_)⟩
   . rw [c2] at q
     exact ⟨_,rfl,_,rfl,ex,R,U,ws,_,ca,cs,rfl,rb.keep k1.of,ok,k1 _ _ hca (by simp),hcl,λ H2 k2=>q H2 (k1.trans k2)⟩
   . rw [c2] at q
     exact q H1 k1
 . rw [cc] at q
   exact q H1 k1
theorem Jc6:FnScope ["one"] ["one"] (Jf Je1):=⟨rfl,rfl,rfl,by decide +kernel,rfl,by decide +kernel,by decide +kernel⟩
theorem Jpv (T:Txt mg) (D:Def K mg "_law_mix" Je1 ["one"]):Cal P w K mg base "_law_mix" 1 ["one"] Jqc:=by
 refine D.cal λ f fd F=>F.ok Jc6 (λ vs H Q E h=>?_) (λ cdv A outer s H vs Q E hr h=>?_)
 . obtain ⟨n,rfl,_⟩:=h
   rfl
 obtain ⟨n,rfl,h0,h1,q⟩:=h
 refine ⟨_,(@Jb _ _ _ _ _ (Js (i:=0) Jc6.nd rfl (Qa rfl) (J3 Jef (J3 Jay (J3 Jj3 (pv 0) (J3 Jdg (pv 0) Je)) Je) Je))
  (@Jb _ _ _ _ _ (Js (i:=0) Jc6.nd rfl (Qa rfl) (J3 Jef (J3 Jay (J3 Jj3 (pv 0) (J3 Jdg (pv 0) Je)) Je) Je))
  (@Jg _ _ _ (@Jr _ _ _ _ (J3 Jj3 (pv 0) (J3 Jdg (pv 0) Je)))))),?_⟩
 have m:∀ z:Int,0<=z%18446744073709551616/\z%18446744073709551616<18446744073709551616:=λ z=>⟨J7c _ (by decide),J7d _ (by decide)⟩
 have xb:∀ z:Int,(0<=z/\z<18446744073709551616)->0<=J6d z (z/2147483648)/\J6d z (z/2147483648)<2^64:=λ z hz=>Jek (by omega) (by omega) (by omega) (by omega)
 refine ⟨_,rfl,_,rfl,_,_,rfl,rfl,Jdh (by decide) (by decide +kernel),_,_,rfl,rfl,_,_,rfl,rfl,.inr ⟨by decide,by decide⟩,_,_,rfl,rfl,(show (0:Int)<18446744073709551616 by decide),?_⟩
 refine ⟨_,rfl,_,rfl,_,_,rfl,rfl,Jdh (by decide) (by decide +kernel),_,_,rfl,rfl,_,_,rfl,rfl,.inr ⟨by decide,by decide⟩,_,_,rfl,rfl,(show (0:Int)<18446744073709551616 by decide),?_⟩
 refine ⟨_,rfl,_,rfl,_,_,rfl,rfl,Jdh (by decide) (by decide +kernel),_,_,rfl,rfl,?_⟩
 exact q _ (xb _ (m _)).1 (xb _ (m _)).2
theorem Jbe:FnScope ["script","seed","cell"] ["script"] (Jf Je2):=⟨rfl,rfl,rfl,by decide +kernel,rfl,by decide +kernel,by decide +kernel⟩
theorem Jpw (T:Txt mg) (D:Def K mg "_law_jar" Je2 ["script"]) (Gj:Cal P w K mg base "_law_mix" 1 ["one"] Jqc):Cal P w K mg base "_law_jar" 2 ["script"] (Jqd K):=by
 refine D.cal λ f fd F=>F.ok Jbe (λ vs H Q E h=>?_) (λ cdv A outer s H vs Q E hr h=>?_)
 . obtain ⟨a,ns,rfl,_⟩:=h
   rfl
 obtain ⟨a,ns,rfl,hS,hlen,q⟩:=h
 refine ⟨_,(@Jb _ _ _ _ _ (Js (i:=1) Jbe.nd rfl (Qa rfl) Je)
  (@Jb _ _ _ _ _ (Z1 Xp rfl (Wf (Wl Bz (pv 0) Vu (Z2 Je))) (Ju (i:=2) Jbe.nd rfl (Qa rfl) (Qa rfl))
  (@Jg _ _ _ (Js (i:=1) Jbe.nd rfl (Qa rfl) (Yg Gj (hr.mono (by decide)) rfl (V4 (J3 Jef (J3 Vj (J3 Jay (pv 1) Je) (pv 2)) Je) Jd)))))
  (@Jg _ _ _ (@Jr _ _ _ _ (Jqb (Jbl Yr (Yf Jda rfl T.b_list boot_list (Y9 (Wl Bz (pv 0) Vu (Z2 Je)) Jd)) (Jbl Yr Je (Jbl Yr (pv 1) (Jbl Yr Je Jqa)))) rfl rfl (by simp) (by simp)))))),?_⟩
 obtain ⟨ms,ems,lms⟩:=Jrx ns none (some 63)
 refine Vk (λ σ' H'=>∃ (x:Option V) (sd:Int),σ'=[some (.ref a),some (.int sd),x]/\Kp [] H H'/\0<=sd/\sd<2^64) (λ N hN=>hN _ _ ⟨none,2545678901234567,rfl,.refl,by decide,by decide⟩) ?_
 rintro σ1 H1 ⟨x1,sd1,rfl,k1,b1,b2⟩
 have hS1:SqL K H1 a (ns.map V.int):=(show Jka H H1 from λ b o e=>k1 b o e (by simp)).seq hS
 refine Vk (λ σ' H'=>∃ (x:Option V) (sd:Int),σ'=[some (.ref a),some (.int sd),x]/\Kp [] H H'/\0<=sd/\sd<2^64) (λ N hN=>?_) ?_
 . refine ⟨_,rfl,_,rfl,a,_,rfl,hS1,λ p hp=>?_⟩
   rw [ems]
   refine ⟨p,rfl,⟨_,SqL.of Jh⟩,Jl7 (K:=K) (a:=p) (xs:=ms.map V.int) (λ i σ H2=>∃ (x:Option V) (sd:Int),σ = [some (.ref a),some (.int sd),x]/\Kp [] (upd H1 p (.lst (ms.map V.int))) H2/\0<=sd/\sd<2^64)
    ⟨x1,sd1,rfl,.refl,b1,b2⟩ (λ i σ H2 _ ⟨_,_,_,k2,_⟩=>SqL.of (k2 _ _ Jh (by simp))) ?_ ?_⟩
   . rintro i y σ H2 hi ⟨x2,sd2,rfl,k2,c1,c2⟩
     obtain ⟨z,rfl⟩:∃ z,y=V.int z:=by
      rw [Qs] at hi
      cases e:ms[i]? with
      | none=>rw [e] at hi;cases hi
      | some z=>rw [e] at hi;exact ⟨z,(Xd hi).symm⟩
     refine ⟨_,rfl,_,_,rfl,rfl,.inr ⟨by decide,by decide⟩,_,rfl,_,_,rfl,rfl,_,_,rfl,rfl,(show (0:Int)<18446744073709551616 by decide),_,rfl,J7c _ (by decide),J7d _ (by decide),λ r r0 r1=>?_⟩
     exact ⟨_,r,rfl,k2,r0,r1⟩
   . rintro σ H2 ⟨x2,sd2,rfl,k2,c1,c2⟩
     exact hN _ _ ⟨x2,sd2,rfl,k1.trans ((Kp.new hp _).trans k2),c1,c2⟩
 . rintro σ2 H2 ⟨x2,sd2,rfl,k2,c1,c2⟩
   have hS2:SqL K H2 a (ns.map V.int):=(show Jka H H2 from λ b o e=>k2 b o e (by simp)).seq hS
   intro p hp
   have kp:Kp [] H2 (upd H2 p (.dK [])):=Kp.new hp _
   refine ⟨_,rfl,_,rfl,a,_,rfl,(show Jka H2 _ from λ b o e=>kp b o e (by simp)).seq hS2,λ l1 hl1=>?_⟩
   rw [ems]
   refine ⟨l1,_,rfl,.inl (SqL.of Jh),λ l2 hl2=>?_⟩
   have n1:l1≠p:=λ z=>by rw [z,Jh] at hl1;cases hl1
   have n2:l2≠p:=λ z=>by rw [z,Ji (Qj n1),Jh] at hl2;cases hl2
   refine ⟨_,rfl,?_⟩
   refine ⟨by rw [Ji (Qj n2),Ji (Qj n1),Jh],[(Qv "cells",V.ref l2),(Qv "rest",V.int 0),(Qv "seed",V.int sd2),(Qv "turn",V.int 0)],rfl,(show 4<=15 by decide),?_⟩
   have k3:Kp [] H2 (upd (upd (upd H2 p (.dK [])) l1 (.lst (ms.map V.int))) l2 (.lst (ms.map V.int))):=kp.trans ((Kp.new hl1 _).trans (Kp.new hl2 _))
   have hl2':H2 l2=none:=by
    rw [Ji (λ z=>by rw [z,Jh] at hl2;cases hl2),Ji n2] at hl2;exact hl2
   refine q p l2 _ (k2.trans (λ b o e _=>?_)) ?_ ?_ ⟨ms,0,sd2,(0,none),?_,?_,by omega,c1,c2⟩
   . rw [Ji (Jk e hp)];exact k3 b o e (by simp)
   . exact (show Jka H H2 from λ b o e=>k2 b o e (by simp)).free hp
   . exact (show Jka H H2 from λ b o e=>k2 b o e (by simp)).free hl2'
   . rw [Jh,<- Jt6]
   . rw [Ji n2,Jh]
theorem Jab:FnScope ["jar","many","cell","one","found"] ["jar","many"] (Jf Jc2):=⟨rfl,rfl,rfl,by decide +kernel,rfl,by decide +kernel,by decide +kernel⟩
theorem Jly (T:Txt mg) (D:Def K mg "_law_pick" Jc2 ["jar","many"]) (Gj:Cal P w K mg base "_law_mix" 1 ["one"] Jqc):Cal P w K mg base "_law_pick" 2 ["jar","many"] Jki:=by
 refine D.cal λ f fd F=>F.ok Jab (λ vs H Q E h=>?_) (λ cdv A outer s H vs Q E hr h=>?_)
 . obtain ⟨p,c,n,e,rfl,_⟩:=h
   rfl
 obtain ⟨p,c,n,e,rfl,J,h0,h1,q⟩:=h
 refine ⟨_,(@Jb _ _ _ _ _ (Yw (Jt Jts (Wg (Z3 hr) (pv 0) Yr (λ _ _=>rfl)) (pv 1) (Jw _)) (@Jb _ _ _ _ _ (B0 (Z3 hr) (pv 0) Yr (J3 Vj (Wg (Z3 hr) (pv 0) Yr (λ _ _=>rfl)) Je) rfl)
  (@Jg _ _ _ (Yw (Jt (V8 hr.units) (Wg (Z3 hr) (pv 0) Yr (λ _ _=>rfl)) (@PEs.out _ _ _ (Yb Jo)) (Jw _)) (@Jb _ _ _ _ _ (Js (i:=2) Jab.nd rfl (Qa rfl) (Jam Ue Ybu Ybv Jl9 (Wg (Z3 hr) (pv 0) Yr (λ _ _=>rfl)) (Y3 Je Jd)))
  (@Jb _ _ _ _ _ (B0 (Z3 hr) (pv 0) Yr (pv 2) rfl)
  (@Jg _ _ _ (Yw (Jt Jts (pv 2) (J3 Joj Je Je) (Jw _)) (@Jb _ _ _ _ _ (Js (i:=3) Jab.nd rfl (Qa rfl) (Yg Gj (hr.mono (by decide)) rfl (V4 (J3 Jef (J3 Vj (J3 Jay (pv 2) Je) (Wg (Z3 hr) (pv 0) Yr (λ _ _=>rfl))) Je) Jd)))
  (@Jg _ _ _ (B0 (Z3 hr) (pv 0) Yr (J3 Vj (J3 Jay (pv 3) Je) (Yg Gj (hr.mono (by decide)) rfl (V4 (J3 Jj3 (pv 3) Je) Jd))) rfl))) J0)))) (@Jb _ _ _ _ _ (B0 (Z3 hr) (pv 0) Yr (Yg Gj (hr.mono (by decide)) rfl (V4 (J3 Jef (J3 Vj (Wg (Z3 hr) (pv 0) Yr (λ _ _=>rfl)) Je) Je) Jd)) rfl)
  (@Jg _ _ _ (B0 (Z3 hr) (pv 0) Yr (Wg (Z3 hr) (pv 0) Yr (λ _ _=>rfl)) rfl)))))) J0)
  (@Jb _ _ _ _ _ (Js (i:=4) Jab.nd rfl (Qa rfl) (J3 Jef (Wg (Z3 hr) (pv 0) Yr (λ _ _=>rfl)) (pv 1)))
  (@Jb _ _ _ _ _ (B0 (Z3 hr) (pv 0) Yr (J3 Jdg (Wg (Z3 hr) (pv 0) Yr (λ _ _=>rfl)) (pv 1)) rfl)
  (@Jg _ _ _ (@Jr _ _ _ _ (pv 4)))))),?_⟩
 refine Vk (λ σ' H'=>∃ x y:Option V,σ'=[some (.ref p),some (.int n),x,y,none]/\Jmk H' p c e/\Kp [p,c] H H') (λ N hN=>?_) ?_
 . obtain ⟨ns,r,sd,tn,X,hl,s0,s1⟩:=J
   refine ⟨_,rfl,p,_,rfl,X.rest,_,rfl,_,_,rfl,rfl,_,rfl,?_⟩
   refine Ze (λ cc=>?_) (λ cc=>hN _ _ ⟨none,none,rfl,⟨ns,r,sd,tn,X,hl,s0,s1⟩,.refl⟩)
   -- turn
   refine ⟨_,rfl,p,_,rfl,X.turn,_,_,rfl,rfl,_,rfl,p,_,rfl,X.pTurn _,?_⟩
   have X1:=X.put r sd (tn+1,e)
   have k1:Kp [p,c] H (upd H p (.dK (Zh c r sd (tn+1,e)))):=Kp.at (by simp) _
   generalize upd H p (.dK (Zh c r sd (tn+1,e)))=H1 at X1 k1 ⊢
   refine ⟨_,rfl,p,_,rfl,X1.cells,(by decide),λ l hl1=>?_⟩
   have X2:JarX (upd H1 l (.lst [])) p c ns r sd (tn+1,e):=X1.new hl1
   have k2:Kp [p,c] H (upd H1 l (.lst [])):=k1.trans (Kp.new hl1 _)
   refine ⟨[],.list (ns.map Qo),.list [],.list X2.l (by simp) (by rw [Qb];exact Xk hl (by decide)) (Reps.ints ns),.list Jh (by simp) (by simp) .nil,W2 ns,rfl,Xk (J6w _ _) (by decide),_,rfl,?_⟩
   rw [Jqe]
   generalize upd H1 l (.lst [])=H2 at X2 k2 ⊢
   cases ns with
   | nil=>
    refine Wm ?_
    refine ⟨_,rfl,p,_,rfl,X2.seed,_,_,rfl,rfl,_,_,rfl,rfl,(show (0:Int)<18446744073709551616 by decide),_,rfl,J7c _ (by decide),J7d _ (by decide),λ m m0 m1=>?_⟩
    refine ⟨_,rfl,p,_,rfl,X2.pSeed m,?_⟩
    have X3:=X2.put r m (tn+1,e)
    refine ⟨_,rfl,p,_,rfl,X3.seed,_,rfl,p,_,rfl,X3.pRest m,?_⟩
    exact hN _ _ ⟨none,none,rfl,(X3.put m m (tn+1,e)).jarE hl m0 m1,k2.trans ((Kp.at (by simp) _).trans (Kp.at (by simp) _))⟩
   | cons n0 ns=>
    refine Z6 ?_
    refine ⟨_,rfl,p,_,rfl,X2.cells,.inl ⟨rfl,_,SqL.of X2.l⟩,c,_,0,0,V.int n0,rfl,rfl,X2.l,by decide,by decide,by rw [Qb];exact Jo1 _,rfl,?_⟩
    have X3:JarX (upd H2 c (.lst (J9t ((n0::ns).map V.int) 0))) p c ns r sd (tn+1,e):=X2.cut ns
    have k3:Kp [p,c] H (upd H2 c (.lst (J9t ((n0::ns).map V.int) 0))):=k2.trans (Kp.at (by simp) _)
    generalize upd H2 c (.lst (J9t ((n0::ns).map V.int) 0))=H3 at X3 k3 ⊢
    have hl':ns.length<=63:=by rw [Xv] at hl;omega
    refine ⟨_,rfl,_,rfl,p,_,rfl,X3.pRest n0,?_⟩
    have X4:=X3.put n0 sd (tn+1,e)
    have k4:Kp [p,c] H (upd H3 p (.dK (Zh c n0 sd (tn+1,e)))):=k3.trans (Kp.at (by simp) _)
    generalize upd H3 p (.dK (Zh c n0 sd (tn+1,e)))=H4 at X4 k4 ⊢
    refine ⟨_,rfl,_,_,rfl,rfl,⟨by decide,by decide,by decide⟩,_,_,rfl,rfl,_,rfl,?_⟩
    refine Ze (λ cc=>?_) (λ cc=>hN _ _ ⟨_,none,rfl,X4.jarE hl' s0 s1,k4⟩)
    refine ⟨_,rfl,_,_,rfl,rfl,.inr ⟨by decide,by decide⟩,_,rfl,p,_,rfl,X4.turn,_,_,rfl,rfl,_,_,rfl,rfl,(show (0:Int)<18446744073709551616 by decide),_,rfl,J7c _ (by decide),J7d _ (by decide),λ m m0 m1=>?_⟩
    refine ⟨_,rfl,_,_,rfl,rfl,.inl ⟨by omega,by omega⟩,_,rfl,_,_,rfl,rfl,_,rfl,(Jek m0 m1 (by decide) (by decide)).1,(Jek m0 m1 (by decide) (by decide)).2,λ m' m'0 m'1=>?_⟩
    refine ⟨_,_,rfl,rfl,_,rfl,p,_,rfl,X4.pRest _,?_⟩
    exact hN _ _ ⟨_,_,rfl,(X4.put _ sd (tn+1,e)).jarE hl' s0 s1,k4.trans (Kp.at (by simp) _)⟩
 . rintro σ1 H1 ⟨x,y,rfl,J1,k1⟩
   obtain ⟨ns,r,sd,tn,X,hl,s0,s1⟩:=J1
   refine ⟨_,rfl,p,_,rfl,X.rest,_,rfl,_,_,rfl,rfl,h0,?_⟩
   refine ⟨_,rfl,p,_,rfl,X.rest,_,rfl,_,_,rfl,rfl,Jdh h0 h1,_,rfl,p,_,rfl,X.pRest _,?_⟩
   refine ⟨_,rfl,?_⟩
   exact q _ _ (J7c _ (by omega)) (J7d _ h0) ((X.put _ sd (tn,e)).jarE hl s0 s1) (k1.trans (Kp.at (by simp) _))
theorem Jfi:FnScope ["jar","way"] ["jar"] (Jf Jc3):=⟨rfl,rfl,rfl,by decide +kernel,rfl,by decide +kernel,by decide +kernel⟩
theorem Jn2 (T:Txt mg) (D:Def K mg "_law_gain" Jc3 ["jar"]) (Ga:Cal P w K mg base "_law_pick" 2 ["jar","many"] (Jp Jcw)):Cal P w K mg base "_law_gain" 3 ["jar"] (Jp Jkv):=by
 refine D.cal λ f fd F=>F.ok Jfi (Ye ?_) (λ cdv A outer s H vs Q E hr h=>?_)
 . rintro as n P ⟨rfl,_⟩
   rfl
 refine ⟨_,(@Jb _ _ _ _ _ (Js (i:=1) Jfi.nd rfl (Qa rfl) (Yg Ga (hr.mono (by decide)) rfl (Jc (pv 0) (Y3 Je Jd))))
  (@Jb _ _ _ _ _ (Yw (Jt Jts (pv 1) Je (Jw _)) (@Jg _ _ _ (@Jr _ _ _ _ (Jm Yq (@PEs.out _ _ _ (Yb (Jz Yu (Jz Yu (Jiy (Jx (Jf9 Jcq Je)) (Jz Yu (Jiy (Jx (Jf9 Jcq Je)) Jo))))))) (pv 1) (λ _ _=>rfl)))) J0)
  (@Jg _ _ _ (@Jr _ _ _ _ (Jf8 (Jt Bx (pv 1) Je (Jw _)) (J3 Jcp (Yg Ga (hr.mono (by decide)) rfl (Jc (pv 0) (Y3 Je Jd))) Je) (J3 Jcp (Yg Ga (hr.mono (by decide)) rfl (Jc (pv 0) (Y3 Je Jd))) Je)))))),J6 h ?_⟩
 rintro as n P ⟨rfl,q⟩
 refine ⟨rfl,7,rfl,by decide,by decide +kernel,λ r r0 r1=>⟨[.jar,.d (.int r)],.eq rfl,?_⟩⟩
 refine Ze (λ c=>?_) (λ c=>⟨_,.refl,?_⟩)
 . have hr5:r<5:=of_decide_eq_true c
   refine ⟨by decide,?_⟩
   have:r=0\/r=1\/r=2\/r=3\/r=4:=by omega
   rcases this with rfl | rfl | rfl | rfl | rfl
   . exact ⟨_,rfl,q 0 (by decide) (by decide)⟩
   . exact ⟨_,rfl,q 1 (by decide) (by decide)⟩
   . exact ⟨_,rfl,q (-1) (by decide) (by decide)⟩
   . exact ⟨_,rfl,q 2 (by decide) (by decide)⟩
   . exact ⟨_,rfl,q (-2) (by decide) (by decide)⟩
 . refine Ze (λ c=>?_) (λ c=>?_)
   . exact ⟨7,rfl,by decide,by decide +kernel,λ z z0 z1=>q _ (by omega) (by omega)⟩
   . exact ⟨199,rfl,by decide,by decide +kernel,λ z z0 z1=>q _ (by omega) (by omega)⟩
theorem Wd:FnScope ["jar","most_rooms","most_ways","rooms","purses","ways","k","first","last"] ["jar","most_rooms","most_ways"] (Jf Jba):=⟨rfl,rfl,rfl,by decide +kernel,rfl,by decide +kernel,by decide +kernel⟩
theorem Jn3 (T:Txt mg) (D:Def K mg "_law_book" Jba ["jar","most_rooms","most_ways"]) (Ga:Cal P w K mg base "_law_pick" 2 ["jar","many"] (Jp Jcw)) (G7:Cal P w K mg base "_law_gain" 3 ["jar"] (Jp Jkv)):Cal P w K mg base "_law_book" 4 ["jar","most_rooms","most_ways"] (Jp Jpb):=by
 refine D.cal λ f fd F=>F.ok Wd (Ye ?_) (λ cdv A outer s H vs Q E hr h=>?_)
 . rintro as n P ⟨mr,mw,rfl,_⟩
   rfl
 refine ⟨_,(@Jb _ _ _ _ _ (Js (i:=3) Wd.nd rfl (Qa rfl) (J3 Vj Je (Yg Ga (hr.mono (by decide)) rfl (Jc (pv 0) (Jc (pv 1) Jd)))))
  (@Jb _ _ _ _ _ (Js (i:=4) Wd.nd rfl (Qa rfl) (Jm Yq (@PEs.out _ _ _ (Yb (Jz Yu (Jz Yu (Jz Yu (Jz Yu (Jz Yu (Jz Yu Jo)))))))) (Yg Ga (hr.mono (by decide)) rfl (Jc (pv 0) (Y3 Je Jd))) (λ _ _=>rfl)))
  (@Jb _ _ _ _ _ (@Vx _ _ 5 _ _ _ _ Wd.nd rfl (Qa rfl) (Yb Jo) rfl (Qa rfl))
  (@Jb _ _ _ _ _ (Z1 Xp rfl (Zc rfl T.b_range (Bg (Yg Ga (hr.mono (by decide)) rfl (Jc (pv 0) (V4 (J3 Vj (pv 2) Je) Jd))) Jd)) (Ju (i:=6) Wd.nd rfl (Qa rfl) (Qa rfl))
  (@Jb _ _ _ _ _ (Js (i:=7) Wd.nd rfl (Qa rfl) (Yg Ga (hr.mono (by decide)) rfl (Jc (pv 0) (Jc (pv 3) Jd))))
  (@Jb _ _ _ _ _ (Js (i:=8) Wd.nd rfl (Qa rfl) (Yg Ga (hr.mono (by decide)) rfl (Jc (pv 0) (Jc (pv 3) Jd))))
  (@Jg _ _ _ (Vt (Jam Ue U3 U4 Zi (pv 5) (Bo (@PEs.out _ _ _ (Ys (Jy (Jx (pv 7)) (Jy (Jx (pv 8)) (W7 (Jx (Yf Jv rfl T.b_tuple Ycr (Y2 (Ym (sc:=(Jf Jba)) (N:=["jar","most_rooms","most_ways","rooms","purses","ways","k","first","last"]) (N':=["p","jar"]) (k:=1) (idx:=[0]) rfl (by exact ⟨rfl,by decide +kernel,by decide +kernel,by decide +kernel,by decide +kernel,by decide +kernel,rfl,rfl⟩) rfl rfl (Zc rfl T.b_range (Jc (pv 4) Jd)) (λ _ _ _ _=>(Ju (i:=0) (show (["p","jar"]:List Str).Nodup by decide +kernel) rfl (Qa rfl) (Qt rfl))) (λ _ _ _ _=>Yl) (λ _ _ _ _=>(Yg G7 (hr.mono (by decide)) rfl (Jc (pv 1) Jd)))) Jd))) Jo))))) Jd)))))))
  (@Jg _ _ _ (@Jr _ _ _ _ (@PEs.out _ _ _ (Ys (Jy (Jx (pv 3)) (Jy (Jx (pv 4)) (W7 (Jx (Yf Jv rfl T.b_tuple Ycr (Jc (pv 5) Jd))) Jo))))))))))),J6 h ?_⟩
 rintro as n P ⟨mr,mw,rfl,hr,hw,q⟩
 have hs:sizeLine=16777216:=Ycl
 refine ⟨rfl,mr,rfl,by omega,Vn (by omega),λ r r0 r1=>⟨[.jar,.d (.int mr),.d (.int mw),.d (.int (1+r)),.jnk,.jnk,.jnk,.jnk,.jnk],.eq rfl,?_⟩⟩
 refine ⟨by decide,6,rfl,by decide,by decide +kernel,λ u u0 u1=>?_⟩
 obtain ⟨U,hU,hUm⟩:=J3s (xs:=[Qo 1,.int 2,.int 2,.int 3,.int 4,.int 6]) u0 u1
 obtain ⟨U,rfl,hU0,hU1⟩:∃ k:Int,U = .int k/\1<=k/\k<=6:=by
  simp only [Qg,Uc,or_false] at hUm
  rcases hUm with rfl | rfl | rfl | rfl | rfl | rfl<;>exact ⟨_,rfl,by decide,by decide⟩
 refine ⟨_,hU,⟨[.jar,.d (.int mr),.d (.int mw),.d (.int (1+r)),.d (.int U),.jnk,.jnk,.jnk,.jnk],.eq rfl,?_⟩⟩
 refine ⟨by decide,⟨[.jar,.d (.int mr),.d (.int mw),.d (.int (1+r)),.d (.int U),.own [],.jnk,.jnk,.jnk],.eq rfl,?_⟩⟩
 refine ⟨mw+1,rfl,by omega,Vn (by omega),λ m m0 m1=>⟨m,rfl,⟨by omega,by omega⟩,?_⟩⟩
 refine ⟨λ i env n'=>n'=n/\∃ (ws:List Way) (x y z:Vl),env=[.jar,.d (.int mr),.d (.int mw),.d (.int (1+r)),.d (.int U),.own (ws.map Zx),x,y,z]/\ws.length=i/\∀ w∈ws,WayOk (1+r) U w,⟨rfl,[],_,_,_,rfl,rfl,λ w hw=>by cases hw⟩,?_,?_⟩
 . rintro i x env n' hx ⟨rfl,ws,_,_,_,rfl,hl,hws⟩
   have hi:=(Qr.mp hx).1
   rw [Y5] at hi
   refine ⟨1+r,rfl,by omega,Vn (by omega),λ a a0 a1=>⟨_,.refl,?_⟩⟩
   refine ⟨1+r,rfl,by omega,Vn (by omega),λ b b0 b1=>⟨_,.refl,?_⟩⟩
   refine ⟨U,rfl,⟨by omega,by omega⟩,⟨rfl,by rw [Y5];omega⟩,?_⟩
   refine Juy (λ y=>∃ g:Int,y = .int g/\-99<=g/\g<=99) (λ k=>k=n') (λ x _ k K hk h=>?_) rfl (λ ys k hy hg hk=>?_)
   . exact ⟨rfl,λ g g0 g1=>h _ _ ⟨g,rfl,g0,g1⟩ hk⟩
   . subst hk
     obtain ⟨gs,rfl,hgs⟩:=Ju1 hg
     rw [Y5,Qb] at hy
     refine ⟨Vp,by rw [Qb];omega,rfl,ws++[⟨a,b,gs⟩],_,_,_,by rw [Qu];rfl,by simp [hl],λ w hw=>?_⟩
     rcases Qz.mp hw with hw | hw
     . exact hws w hw
     . rw [Qm.mp hw]
       exact ⟨a0,a1,b0,b1,(show (gs.length:Int)=U by omega),hgs⟩
 . rintro env n' ⟨rfl,ws,_,_,_,rfl,hl,hws⟩
   rw [Y5] at hl
   refine ⟨_,.fz 5 _ rfl .refl,?_⟩
   exact ⟨Vp,q (1+r) U ws ⟨by omega,by omega,hU0,hU1,by omega,hws⟩ (by omega)⟩
theorem Jn4:FnScope ["book","room"] ["book","room"] (Jf Jbb):=⟨rfl,rfl,rfl,by decide +kernel,rfl,by decide +kernel,by decide +kernel⟩
theorem Jn5 (T:Txt mg) (D:Def K mg "_law_from" Jbb ["book","room"]):Cal P w K mg base "_law_from" 1 ["book","room"] Jkl:=by
 refine D.cal λ f fd F=>F.ok Jn4 (λ vs H Q E h=>?_) (λ cdv A outer s H vs Q E hr h=>?_)
 . obtain ⟨ex,R,U,ws,bv,room,rfl,_⟩:=h
   rfl
 obtain ⟨ex,R,U,ws,bv,room,rfl,rb,q⟩:=h
 refine ⟨_,(@Jg _ _ _ (@Jr _ _ _ _ (Ym (sc:=(Jf Jbb)) (N:=["book","room"]) (N':=["k","way","room"]) (k:=2) (idx:=[1]) rfl (by exact ⟨rfl,by decide +kernel,by decide +kernel,by decide +kernel,by decide +kernel,by decide +kernel,rfl,rfl⟩) rfl rfl (Jfr rfl T.b_enumerate (Y9 (Jm Jn (pv 0) Je (λ _ _=>rfl)) Jd)) (λ _ _ _ _=>(Yv (K':=K) (i:=0) (j:=1) rfl (show (["k","way","room"]:List Str).Nodup by decide +kernel) ⟨rfl,(Qa rfl),(Qt rfl)⟩ ⟨rfl,(Qa rfl),(Qt rfl)⟩ rfl)) (λ _ _ _ _=>Ja1 (Jt Bx (Jm (Wv (K':=K) rfl) (pv 1) Je (λ _ _=>rfl)) (pv 2) (Jw _))) (λ _ _ _ _=>(pv 0))))),?_⟩
 obtain ⟨ba,wa,vs,B⟩:=Jdj rb
 have eb:=B.e
 subst eb
 refine ⟨_,rfl,ba,_,_,_,rfl,rfl,SqT.of B.b,at2 _ _ _,true,wa,vs,rfl,SqT.of B.w,λ l hl=>?_⟩
 refine Jo3 (λ i=>decide ((Ja ws (i:Nat)).a=room)) (λ i=>.int (i:Nat)) (SqT.of B.w) B.z hl ?_ ?_ ?_
 . intro i x H1 M hx k1 hM
   obtain ⟨t,g,rfl,ht,hg,_,_⟩:=Jo4 B.r hx
   refine ⟨_,rfl,t,_,_,_,rfl,rfl,SqT.of (k1 _ _ ht (by simp)),at0 _ _ _,_,rfl,rfl,_,rfl,?_⟩
   have:=hM H1 .refl
   have e:decide (V.int (Ja ws (i:Nat)).a=V.int room)=decide ((Ja ws (i:Nat)).a=room):=by simp
   rw [e];exact this
 . intro i x H1 M hi hx k1 hM
   exact ⟨_,rfl,hM H1 .refl⟩
 . intro H1 k1 hl1
   refine q l H1 k1 hl ?_
   rw [hl1,B.len]
   unfold Jao
   rw [Q0]
   rfl
theorem W3:FnScope ["book","first","last","known","waiting","here","k","there"] ["book","first","last"] (Jf Jc5):=⟨rfl,rfl,rfl,by decide +kernel,rfl,by decide +kernel,by decide +kernel⟩
theorem Jn6 (T:Txt mg) (D:Def K mg "_law_back" Jc5 ["book","first","last"]) (Gp:Cal P w K mg base "_law_from" 1 ["book","room"] Jkl):Cal P w K mg base "_law_back" 2 ["book","first","last"] Jo7:=by
 refine D.cal λ f fd F=>F.ok W3 (λ vs H Q E h=>?_) (λ cdv A outer s H vs Q E hr h=>?_)
 . obtain ⟨ex,R,U,ws,bv,first,last,rfl,_⟩:=h
   rfl
 obtain ⟨ex,R,U,ws,bv,first,last,rfl,rb,ok,hfi,q0,q1⟩:=h
 refine ⟨_,(@Jb _ _ _ _ _ (Js (i:=3) W3.nd rfl (Qa rfl) (Jqb (Jbl (pv 1) (@PEs.out _ _ _ (Yb Jo)) Jqa) rfl rfl (by simp) (by simp)))
  (@Jb _ _ _ _ _ (@Vx _ _ 4 _ _ _ _ W3.nd rfl (Qa rfl) (Yb (Jy (Jx (pv 1)) Jo)) rfl (Qa rfl))
  (@Jb _ _ _ _ _ (Jc7 Xp (Jt (V8 hr.units) (pv 4) (@PEs.out _ _ _ (Yb Jo)) (Jw _))
  (@Jb _ _ _ _ _ (Js (i:=5) W3.nd rfl (Qa rfl) (Jam Ue Ybu Ybv Jl9 (pv 4) (Y3 Je Jd)))
  (@Jg _ _ _ (Z1 Xp rfl (Wf (Yg Gp (hr.mono (by decide)) rfl (Jc (pv 0) (Jc (pv 5) Jd)))) (Ju (i:=6) W3.nd rfl (Qa rfl) (Qa rfl))
  (@Jb _ _ _ _ _ (Js (i:=7) W3.nd rfl (Qa rfl) (Jm Jn (Jm Jn (Jm Jn (pv 0) Je (λ _ _=>rfl)) (pv 6) (λ _ _=>rfl)) Je (λ _ _=>rfl)))
  (@Jg _ _ _ (Yw (Jtf (Jiw (Z3 hr) (pv 7) (pv 3))) (@Jb _ _ _ _ _ (B0 (Z3 hr) (pv 3) (pv 7) (J3 Jj7 (Wg (Z3 hr) (pv 3) (pv 5) (λ _ _=>rfl)) (@PEs.out _ _ _ (Yb (Jy (Jx (pv 6)) Jo)))) rfl)
  (@Jg _ _ _ (Vt (Jam Ue U3 U4 Zi (pv 4) (Jc (pv 7) Jd))))) J0)))))))
  (@Jg _ _ _ (@Jr _ _ _ _ (Jtz (Z3 hr) (pv 3) (pv 2) Jcn ⟨rfl,rfl,rfl,rfl⟩)))))),?_⟩
 have hs:sizeLine=16777216:=Ycl
 have r0:=ok.r0
 have r1:=ok.r1
 have wz:=ok.len
 obtain ⟨ba,wa,vs,B⟩:=Jdj rb
 have eb:=B.e
 subst eb
 refine Vk (λ σ' H'=>∃ (kd l0:Addr),σ'=[some (.ref ba),some (.int first),some (.int last),some (.ref kd),none,none,none,none]/\Kp [] H H'/\H kd=none/\H l0=none/\l0≠kd/\H' l0=some (.lst [])/\H' kd=some (.dK [(Qi first,V.ref l0)])) (λ N hN=>?_) ?_
 . refine λ p hp=>⟨_,rfl,Jbp (X6 rfl),λ l hl=>⟨(by rw [Ji (Jk Jh hl)];exact Jh),[(Qi first,V.ref l)],rfl,by simp,?_⟩⟩
   have hne:l≠p:=λ z=>by rw [z,Jh] at hl;cases hl
   have hH:H l=none:=by rw [Ji hne] at hl;exact hl
   refine hN _ _ ⟨p,l,rfl,?_,hp,hH,hne,by rw [Ji hne,Jh],by rw [Jh];rfl⟩
   exact λ b o e n=>by rw [Ji (Jk e hp),Ji (Jk e hH),Ji (Jk e hp)];exact e
 rintro _ H1 ⟨kd,l0,rfl,k1,fkd,fl0,ne0,hl0,hkd⟩
 refine Vk (λ σ' H'=>∃ (wl:Addr),σ'=[some (.ref ba),some (.int first),some (.int last),some (.ref kd),some (.ref wl),none,none,none]/\BkI R ws first kd wl H H' [(first,l0,[])] [first]) (λ N hN=>?_) ?_
 . refine ⟨_,rfl,Jbp (X6 rfl),λ l hl=>hN _ _ ⟨l,rfl,?_⟩⟩
   have hH:H l=none:=Kp.free k1 hl (by simp)
   have n1:kd≠l:=Jk hkd hl
   have n2:l0≠l:=Jk hl0 hl
   refine ⟨k1.trans (Kp.new hl _),fkd,hH,n1,by rw [Ji n1];exact hkd,Jh,?_,by simp,by simp⟩
   intro e he
   obtain rfl:=Qm.mp he
   exact ⟨by rw [Ji n2];exact hl0,fl0,ne0,n2,rfl,by simp,hfi⟩
 rintro _ H2 ⟨wl,rfl,I2⟩
 refine Vk (λ σ' H'=>∃ (ks:List KE) (ms:List Int) (o1 o2 o3:Option V),σ'=[some (.ref ba),some (.int first),some (.int last),some (.ref kd),some (.ref wl),o1,o2,o3]/\BkI R ws first kd wl H H' ks ms) (λ N hN=>?_) ?_
 . refine ⟨λ m σ H'=>∃ (ks:List KE) (ms:List Int) (o1 o2 o3:Option V),σ = [some (.ref ba),some (.int first),some (.int last),some (.ref kd),some (.ref wl),o1,o2,o3]/\BkI R ws first kd wl H H' ks ms/\m=2*(R.toNat-ks.length)+ms.length/\m<=40,⟨_,_,_,_,_,_,rfl,I2,rfl,by simp;omega⟩,?_⟩
   rintro m σ H3 ⟨ks,ms,o1,o2,o3,rfl,I,rfl,mz⟩
   have lz:=I.len (by omega)
   refine ⟨_,rfl,Jbp (X6 rfl),λ t ht=>?_⟩
   have I4:=I.kp (Kp.new ht (.lst []))
   refine ⟨[],.list (ms.map Qo),.list [],Rep.lints I4.w (by simp) (by omega),.list Jh (by simp) (by simp) .nil,by rw [Uj];exact W2 ms,rfl,Xk (J6w _ _) (by decide),_,rfl,Ze (λ cc=>?_) (λ cc=>?_)⟩
   . rw [Jkm] at cc
     cases hms:ms with
     | nil=>rw [hms] at cc;simp at cc
     | cons here rest=>
      subst hms
      clear cc
      generalize upd H3 t (.lst [])=H4 at I4
      have hk4:=I4.wk here Qd
      obtain ⟨eh,heh,rfl,hvh⟩:=Jft hk4
      refine ⟨_,λ σ' H' h=>h,?_⟩
      refine Vk (λ σ' H'=>σ'=[some (.ref ba),some (.int first),some (.int last),some (.ref kd),some (.ref wl),some (.int eh.1),o2,o3]/\BkI R ws first kd wl H H' ks rest) (λ N' hN'=>?_) ?_
      . exact ⟨_,rfl,.inl ⟨rfl,_,SqL.of I4.w⟩,wl,_,0,0,.int eh.1,rfl,rfl,I4.w,by omega,by omega,by simp [Ydh],rfl,hN' _ _ ⟨rfl,I4.setw rfl λ m hm=>I4.wk m (Qh _ hm)⟩⟩
      rintro _ H5 ⟨rfl,I5⟩
      have B5:=B.keep I5.k.of
      refine ⟨_,rfl,_,rfl,ex,R,U,ws,_,_,rfl,B5.rep,λ l5 H6 k6 hl5 h5=>⟨l5,rfl,⟨_,SqL.of h5⟩,?_⟩⟩
      have I6:=I5.kp k6
      have n5k:l5≠kd:=(Jk I5.d hl5).symm
      have n5w:l5≠wl:=(Jk I5.w hl5).symm
      rw [Xv] at mz
      refine Jl7 (K:=K) (xs:=(Jao ws eh.1).map V.int) (λ j σ H'=>∃ (kt:List KE) (mt:List Int) (o2 o3:Option V),σ = [some (.ref ba),some (.int first),some (.int last),some (.ref kd),some (.ref wl),some (.int eh.1),o2,o3]/\BkI R ws first kd wl H H' kt mt/\eh.1∈kt.map (·.1)/\2*(R.toNat-kt.length)+mt.length<=2*(R.toNat-ks.length)+rest.length/\H' l5=some (.lst ((Jao ws eh.1).map V.int)))
       ⟨ks,rest,_,_,rfl,I6,hk4,Qn _,h5⟩ (λ j σ H' _ ⟨_,_,_,_,_,_,_,_,h⟩=>SqL.of h) ?_ (λ σ H' ⟨kt,mt,_,_,e,I',_,z',_⟩=>⟨_,by rw [Xv];exact Nat.lt_succ_of_le z',kt,mt,_,_,_,e,I',rfl,by omega⟩)
      rintro j x σ H7 hx ⟨kt,mt,o2,o3,rfl,I7,hkt,zt,h57⟩
      rw [Qs] at hx
      cases hn:(Jao ws eh.1)[j]? with
      | none=>rw [hn] at hx;cases hx
      | some k=>
       rw [hn] at hx
       obtain rfl:V.int k=x:=Xd hx
       have ik:=Jiz (Xa hn)
       have B7:=B.keep (I7.k.of (ex:=ex))
       have z7:=I7.len (by omega)
       obtain ⟨t1,g1,e1,ht1,hg1,hm⟩:=J1a B7.r ik.1 ik.2.1
       have wok:=ok.ways _ hm
       refine Vk (λ σ' H'=>σ'=[some (.ref ba),some (.int first),some (.int last),some (.ref kd),some (.ref wl),some (.int eh.1),some (.int k),some (.int (Ja ws k).b)]/\H'=H7) (λ N' hN'=>⟨_,rfl,ba,_,_,_,rfl,rfl,SqT.of B7.b,at2 _ _ _,_,rfl,wa,_,_,_,rfl,rfl,SqT.of B7.w,e1,t1,_,_,_,rfl,rfl,SqT.of ht1,at1 _ _ _,hN' _ _ ⟨rfl,rfl⟩⟩) ?_
       rintro _ H7 ⟨rfl,rfl⟩
       refine ⟨_,rfl,_,rfl,kd,_,rfl,V7.k (k:=Qi (Ja ws k).b) I7.d,_,rfl,Ze (λ cc=>?_) (λ cc=>?_)⟩
       . have hnew:(Ja ws k).b∉kt.map (·.1):=λ h=>by
          obtain ⟨e,_,_,hv⟩:=Jft h
          rw [hv] at cc
          simp at cc
         obtain ⟨e7,he7,ee7,hv7⟩:=Jft hkt
         obtain ⟨p1,p2,p3,p4,p5,p6,p7⟩:=I7.p e7 he7
         refine Vk (λ σ' H'=>σ'=[some (.ref ba),some (.int first),some (.int last),some (.ref kd),some (.ref wl),some (.int eh.1),some (.int k),some (.int (Ja ws k).b)]/\(∃ a ns,BkI R ws first kd wl H H' (kt++[((Ja ws k).b,a,ns)]) mt)/\H' l5=some (.lst ((Jao ws eh.1).map V.int))) (λ N' hN'=>?_) ?_
         . refine ⟨_,rfl,_,rfl,kd,_,rfl,by have:=V7.k (k:=Qi eh.1) I7.d;rw [hv7] at this;exact this,_,rfl,Jbp (X6 rfl),λ t ht=>?_⟩
           have I8:=I7.kp (Kp.new ht (.lst [.int k]))
           obtain ⟨p1',_⟩:=I8.p e7 he7
           refine ⟨_,t,_,_,rfl,rfl,p1',Jh,by rw [Qb];simp only [Xq];omega,λ a ha=>⟨_,rfl,_,rfl,kd,_,rfl,Jfj.k (k:=Qi (Ja ws k).b) (I8.kp (Kp.new ha _)).d (by rw [Qb];omega),hN' _ _ ⟨rfl,⟨a,e7.2.2++[k],?_⟩,?_⟩⟩⟩
           . have I9:=I8.kp (Kp.new ha (.lst (e7.2.2.map V.int++[.int k])))
             refine I9.add hnew (by rw [Jh,Qu];rfl) (Kp.free I8.k ha (by simp)) (Jk I8.d ha).symm (Jk I8.w ha).symm (p5.app ⟨⟨ik.1,ik.2.1⟩,by rw [ik.2.2,ee7],rfl⟩) (by rw [Qw];exact p6) ⟨wok.b0,wok.b1⟩
           . have n1:l5≠t:=Jk h57 ht
             have h8:upd H7 t (.lst [.int k]) l5=some (.lst ((Jao ws eh.1).map V.int)):=by rw [Ji n1];exact h57
             rw [Ji n5k,Ji (Jk h8 ha)];exact h8
         . rintro _ H8 ⟨rfl,⟨a,ns,I8⟩,h58⟩
           have z8:=I8.len (by omega)
           rw [Qw,Xq] at z8
           refine ⟨_,rfl,.inl ⟨rfl,_,SqL.of I8.w⟩,_,rfl,wl,_,_,rfl,rfl,I8.w,by rw [Qb];omega,kt++[((Ja ws k).b,a,ns)],mt++[(Ja ws k).b],_,_,rfl,I8.setw (by rw [Qu];rfl) λ m hm=>?_,by rw [Qu];exact Xu _ hkt,by rw [Qw,Qw,Xq,Xq];omega,by rw [Ji n5w];exact h58⟩
           rcases Qz.mp hm with hm | hm
           . exact I8.wk m hm
           . rw [Qm.mp hm,Qu]
             exact Q8 _ (Qm.mpr rfl)
       . exact ⟨kt,mt,_,_,rfl,I7,hkt,zt,h57⟩
   . exact hN _ _ ⟨ks,ms,_,_,_,rfl,I4⟩
 rintro _ H3 ⟨ks,ms,o1,o2,o3,rfl,I3⟩
 have lz:=I3.len (by omega)
 refine ⟨_,rfl,kd,rfl,.inl ⟨_,.inl I3.d⟩,_,rfl,?_⟩
 by_cases hm:last∈ks.map (·.1)
 . obtain ⟨e,he,rfl,hv⟩:=Jft hm
   obtain ⟨h1,h2,_,_,h3,h4,_⟩:=I3.p e he
   refine ⟨_,V7.k (k:=Qi e.1) I3.d,?_⟩
   rw [hv]
   exact q1 _ _ _ I3.k h2 h1 h3 (by omega)
 . refine ⟨_,V7.k (k:=Qi last) I3.d,?_⟩
   rw [(Jqj hm).1]
   exact q0 _ I3.k
theorem Jb4:FnScope ["told"] ["told"] (Jf V2):=⟨rfl,rfl,rfl,by decide +kernel,rfl,by decide +kernel,by decide +kernel⟩
theorem Jh6 (T:Txt mg) (D:Def K mg "told_length" V2 ["told"]):∀ m:Nat,Cal P w K mg base "told_length" (m+1) ["told"] (Jp (Jqq m)):=by
 intro m
 induction m with
 | zero=>
  refine D.cal λ f fd F=>F.ok Jb4 (Ye ?_) (λ cdv A outer s H vs Q E hr h=>?_)
  . rintro as n P ⟨R,U,ws,d,f,rfl,_⟩
    rfl
  refine ⟨_,(@Jb _ _ _ _ _ (Yw (Jt Bx (Jm Jn (pv 0) Je (λ _ _=>rfl)) Yr (Jw _)) (@Jg _ _ _ (@Jr _ _ _ _ Je)) J0) Jaj),J6 h ?_⟩
  rintro as n P ⟨R,U,ws,d,f,rfl,ok,⟨k,h0,h1,rfl,rfl⟩,hm,q⟩
  exact ⟨rfl,_,rfl,Jdr (Z6 q)⟩
 | succ m Gf=>
  refine D.cal λ f fd F=>F.ok Jb4 (Ye ?_) (λ cdv A outer s H vs Q E hr h=>?_)
  . rintro as n P ⟨R,U,ws,d,f,rfl,_⟩
    rfl
  refine ⟨_,(@Jb _ _ _ _ _ (Yw (Jt Bx (Jm Jn (pv 0) Je (λ _ _=>rfl)) Yr (Jw _)) (@Jg _ _ _ (@Jr _ _ _ _ Je)) J0)
   (@Jb _ _ _ _ _ (Yw (Jt Bx (Jm Jn (pv 0) Je (λ _ _=>rfl)) Yr (Jw _)) (@Jg _ _ _ (@Jr _ _ _ _ (J7 Jmc rfl T.b_sum boot_sum (Y2 (Ym (sc:=(Jf V2)) (N:=["told"]) (N':=["part"]) (k:=1) (idx:=[]) rfl (by exact ⟨rfl,by decide +kernel,by decide +kernel,by decide +kernel,by decide +kernel,by decide +kernel,rfl,rfl⟩) rfl rfl (Jax (Jm Jn (pv 0) Je (λ _ _=>rfl))) (λ _ _ _ _=>(Ju (i:=0) (show (["part"]:List Str).Nodup by decide +kernel) rfl (Qa rfl) (Qt rfl))) (λ _ _ _ _=>Yl) (λ _ _ _ _=>(Yg Gf (hr.mono (by omega)) rfl (Jc (pv 0) Jd)))) Jd)))) J0)
   (@Jg _ _ _ (@Jr _ _ _ _ (J3 Jfs (Jm Jn (pv 0) Je (λ _ _=>rfl)) (Yg Gf (hr.mono (by omega)) rfl (Y9 (Jm Jn (pv 0) Je (λ _ _=>rfl)) Jd))))))),J6 h ?_⟩
  rintro as n P ⟨R,U,ws,d,f,rfl,ok,td,hm,q⟩
  rcases td with ⟨k,h0,h1,rfl,rfl⟩ | ⟨ds,fs,rfl,rfl,hne,hl,ha,hld⟩ | ⟨c,e,g,rfl,rfl,hc1,hc2,hcl,te⟩
  . exact ⟨rfl,_,rfl,Jdr (Z6 q)⟩
  . refine ⟨rfl,_,rfl,Jds Jer (Wm ⟨_,.refl,_,rfl,Jdr (Z6 ?_)⟩)⟩
    have hs:sizeLine=16777216:=Ycl
    refine ⟨_,rfl,⟨rfl,by omega⟩,Jhc (g:=λ f=>.int f.len) ha (λ x y hxy n K hk=>?_) ?_⟩
    . exact ⟨R,U,ws,x,y,rfl,ok,hxy,by omega,hk⟩
    . refine ⟨fs.map (·.len),by rw [Q0];rfl,rfl,?_⟩
      rw [<- Jhd]
      exact q
  . refine ⟨rfl,_,rfl,Jds Jbx (Wm ⟨_,.refl,_,rfl,Jds Jfe (Wm ⟨_,.refl,_,rfl,?_⟩)⟩)⟩
    refine ⟨_,rfl,R,U,ws,e,g,rfl,ok,te,by omega,⟨?_,q⟩⟩
    have hlt:=TD.lt ok te
    have hok:=te.ok
    exact Jcx (Jfd (by omega) (by omega)) (Jjc (n:=m) (by omega) (by have:=hok.l;have:=Jhb m;omega) hlt.l)
theorem Jh7:FnScope ["ends"] ["ends"] (Jf V1):=⟨rfl,rfl,rfl,by decide +kernel,rfl,by decide +kernel,by decide +kernel⟩
theorem Jh8 (T:Txt mg) (D:Def K mg "ends_of_row" V1 ["ends"]):Cal P w K mg base "ends_of_row" 1 ["ends"] (Jp Jet):=by
 refine D.cal λ f fd F=>F.ok Jh7 (Ye ?_) (λ cdv A outer s H vs Q E hr h=>?_)
 . rintro as n P ⟨fs,rfl,_⟩
   rfl
 refine ⟨_,(@Jb _ _ _ _ _ (Yw (Jt (J1m hr.units) Jcn (pv 0) (by with_unfolding_all rfl)) (@Jg _ _ _ (@Jr _ _ _ _ Jcn)) J0)
  (@Jb _ _ _ _ _ (Yw (Jec (Bk (J7 Jgm rfl T.b_all boot_all (Y2 (Ym (sc:=(Jf V1)) (N:=["ends"]) (N':=["ahead","then"]) (k:=2) (idx:=[]) rfl (by exact ⟨rfl,by decide +kernel,by decide +kernel,by decide +kernel,by decide +kernel,by decide +kernel,rfl,rfl⟩) rfl rfl (Ja3 rfl T.b_zip (Jc (pv 0) (Y9 (Wl Bz (pv 0) (Z2 Je) Vu) Jd))) (λ _ _ _ _=>(Yv (K':=K) (i:=0) (j:=1) rfl (show (["ahead","then"]:List Str).Nodup by decide +kernel) ⟨rfl,(Qa rfl),(Qt rfl)⟩ ⟨rfl,(Qa rfl),(Qt rfl)⟩ rfl)) (λ _ _ _ _=>Yl) (λ _ _ _ _=>(Jb6 Bx (Jm (Wv (K':=K) rfl) (pv 0) Je (λ _ _=>rfl)) (Jm (Wv (K':=K) rfl) (pv 1) Je (λ _ _=>rfl)) (Jw _)))) Jd)))) (@Jg _ _ _ (@Jr _ _ _ _ Jcn)) J0)
  (@Jg _ _ _ (@Jr _ _ _ _ (@PEs.out _ _ _ (Ys (Jqf (Jx (Jm Jn (Jm Yq (pv 0) Je (λ _ _=>rfl)) Je (λ _ _=>rfl))) (Jqf (Jx (Jm Jn (Jm Yq (pv 0) (Jf9 Jcq Je) (λ _ _=>rfl)) Je (λ _ _=>rfl))) Jo)))))))),J6 h ?_⟩
 rintro as n P ⟨fs,rfl,hne,hl,hld,q⟩
 have hs:sizeLine=16777216:=Ycl
 refine ⟨rfl,_,rfl,⟨Ju7 fs,rfl,by rw [show J5s .none=0 from rfl];omega⟩,?_⟩
 rw [Ju8]
 refine Wm ⟨_,.refl,?_⟩
 refine ⟨_,_,_,_,rfl,rfl,rfl,⟨rfl,?_⟩,?_⟩
 . rw [Br,Qb];omega
 refine Jbv (λ _=>.bool true) (λ x hx n K hk=>?_) ?_
 . rw [J47] at hx
   obtain ⟨a,b,rfl,e⟩:=Jje hld x hx
   refine ⟨rfl,rfl,Z6 ⟨_,rfl,_,rfl,?_⟩⟩
   show K (some (.bool (decide (a.b=b.a)))) n
   rw [decide_eq_true e]
   exact hk
 . refine ⟨(Jap (fs.map Wt) (Jdl (fs.map Wt) (some 1) none)).map λ _=>true,by rw [Q0];rfl,rfl,?_⟩
   rw [Ju9]
   refine Wm ⟨_,.refl,?_⟩
   cases fs with
   | nil=>exact absurd rfl hne
   | cons f fs=>
    refine ⟨_,Jk0,_,rfl,_,Jqr (by simp) Jmz,_,rfl,Yz,?_⟩
    have:=q
    unfold Wt at this
    rw [Jpg,Jph] at this
    exact this
theorem Vi:FnScope ["book","told","a","b","gains","ends"] ["book","told"] (Jf B8):=⟨rfl,rfl,rfl,by decide +kernel,rfl,by decide +kernel,by decide +kernel⟩
theorem Jlz (T:Txt mg) (D:Def K mg "told_ends" B8 ["book","told"]) (Gq:Cal P w K mg base "ends_of_row" 1 ["ends"] (Jp Jet)):∀ m:Nat,Cal P w K mg base "told_ends" (m+2) ["book","told"] (Jp (Jkx m)):=by
 intro m
 induction m with
 | zero=>
  refine D.cal λ f fd F=>F.ok Vi (Ye ?_) (λ cdv A outer s H vs Q E hr h=>?_)
  . rintro as n P ⟨R,U,ws,d,f,rfl,_⟩
    rfl
  refine ⟨_,(@Jb _ _ _ _ _ (Yw (Jt Bx (Jm Jn (pv 1) Je (λ _ _=>rfl)) Yr (Jw _)) (@Jb _ _ _ _ _ (Zq (Jm Jn (Jm Jn (pv 0) Je (λ _ _=>rfl)) (Jm Jn (pv 1) Je (λ _ _=>rfl)) (λ _ _=>rfl)) (Vw (K':=K) (i:=2) (j:=3) (m:=4) rfl Vi.nd ⟨rfl,(Qa rfl),(Qa rfl)⟩ ⟨rfl,(Qa rfl),(Qa rfl)⟩ ⟨rfl,(Qa rfl),(Qa rfl)⟩ rfl))
   (@Jg _ _ _ (@Jr _ _ _ _ (@PEs.out _ _ _ (Ys (Jy (Jx (pv 2)) (Jy (Jx (pv 3)) Jo))))))) J0)
   Jaj),J6 h ?_⟩
  rintro as n P ⟨R,U,ws,d,f,rfl,ok,⟨k,h0,h1,rfl,rfl⟩,hm,q⟩
  exact ⟨rfl,_,rfl,Jdr (Z6 ⟨_,rfl,_,rfl,_,Vb h0 h1,rfl,rfl,⟨_,.refl,Yz,q⟩⟩)⟩
 | succ m Gd=>
  refine D.cal λ f fd F=>F.ok Vi (Ye ?_) (λ cdv A outer s H vs Q E hr h=>?_)
  . rintro as n P ⟨R,U,ws,d,f,rfl,_⟩
    rfl
  refine ⟨_,(@Jb _ _ _ _ _ (Yw (Jt Bx (Jm Jn (pv 1) Je (λ _ _=>rfl)) Yr (Jw _)) (@Jb _ _ _ _ _ (Zq (Jm Jn (Jm Jn (pv 0) Je (λ _ _=>rfl)) (Jm Jn (pv 1) Je (λ _ _=>rfl)) (λ _ _=>rfl)) (Vw (K':=K) (i:=2) (j:=3) (m:=4) rfl Vi.nd ⟨rfl,(Qa rfl),(Qa rfl)⟩ ⟨rfl,(Qa rfl),(Qa rfl)⟩ ⟨rfl,(Qa rfl),(Qa rfl)⟩ rfl))
   (@Jg _ _ _ (@Jr _ _ _ _ (@PEs.out _ _ _ (Ys (Jy (Jx (pv 2)) (Jy (Jx (pv 3)) Jo))))))) J0)
   (@Jb _ _ _ _ _ (Yw (Jt Bx (Jm Jn (pv 1) Je (λ _ _=>rfl)) Yr (Jw _)) (@Jg _ _ _ (@Jr _ _ _ _ (Yg Gq (hr.mono (by omega)) rfl (Y2 (Ym (sc:=(Jf B8)) (N:=["book","told","a","b","gains","ends"]) (N':=["part","book"]) (k:=1) (idx:=[0]) rfl (by exact ⟨rfl,by decide +kernel,by decide +kernel,by decide +kernel,by decide +kernel,by decide +kernel,rfl,rfl⟩) rfl rfl (Jax (Jm Jn (pv 1) Je (λ _ _=>rfl))) (λ _ _ _ _=>(Ju (i:=0) (show (["part","book"]:List Str).Nodup by decide +kernel) rfl (Qa rfl) (Qt rfl))) (λ _ _ _ _=>Yl) (λ _ _ _ _=>(Yg Gd (hr.mono (by omega)) rfl (Jc (pv 1) (Jc (pv 0) Jd))))) Jd)))) J0)
   (@Jb _ _ _ _ _ (Js (i:=5) Vi.nd rfl (Qa rfl) (Yg Gd (hr.mono (by omega)) rfl (Jc (pv 0) (Y9 (Jm Jn (pv 1) Je (λ _ _=>rfl)) Jd))))
   (@Jb _ _ _ _ _ (Yw (PW.pt (Jil (Jt Jtt (pv 5) Jcn (Jw _)) (Jeb (PW.pt (Jod (Jt Jga (Jm Jn (pv 1) Je (λ _ _=>rfl)) Je (Jw _)) (Jj0 (Jt Jp1 (Jm Jn (pv 5) Je (λ _ _=>rfl)) (Jm Jn (pv 5) Je (λ _ _=>rfl)) (Jw _)))))))) (@Jg _ _ _ (@Jr _ _ _ _ Jcn)) J0)
   (@Jg _ _ _ (@Jr _ _ _ _ (pv 5))))))),J6 h ?_⟩
  rintro as n P ⟨R,U,ws,d,f,rfl,ok,td,hm,q⟩
  rcases td with ⟨k,h0,h1,rfl,rfl⟩ | ⟨ds,fs,rfl,rfl,hne,hl,ha,hld⟩ | ⟨c,e,g,rfl,rfl,hc1,hc2,hcl,te⟩
  . exact ⟨rfl,_,rfl,Jdr (Z6 ⟨_,rfl,_,rfl,_,Vb h0 h1,rfl,rfl,⟨_,.refl,Yz,q⟩⟩)⟩
  . have hs:sizeLine=16777216:=Ycl
    have hln:=ha.length
    refine ⟨rfl,_,rfl,Jds Jer (Wm ⟨_,.refl,_,rfl,Jdr (Z6 ?_)⟩)⟩
    refine ⟨_,rfl,⟨rfl,by omega⟩,Jhc (g:=Wt) ha (λ x y hxy n K hk=>?_) ?_⟩
    . exact ⟨R,U,ws,x,y,rfl,ok,hxy,by omega,hk⟩
    . refine ⟨fs,rfl,?_,by omega,hld,q⟩
      rintro rfl
      exact hne (J72.mp hln)
  . refine ⟨rfl,_,rfl,Jds Jbx (Wm ⟨_,.refl,_,rfl,Jds Jfe (Wm ⟨_,.refl,_,rfl,?_⟩)⟩)⟩
    refine ⟨R,U,ws,e,g,rfl,ok,te,by omega,⟨[.d (Jq R U ws),.d (Ju4 c e),.jnk,.jnk,.jnk,.d (Wt g)],.eq rfl,?_⟩⟩
    refine ⟨rfl,Wm ⟨_,rfl,?_⟩⟩
    refine Ze (λ c1=>?_) (λ c1=>Wm ⟨_,.refl,q⟩)
    have hab:g.a=g.b:=by
     rcases hcl with rfl | h
     . exact absurd (of_decide_eq_true c1) (by decide)
     . exact h
    refine ⟨_,rfl,_,rfl,?_⟩
    show if (!decide (g.a=g.b))=true then _ else _
    rw [decide_eq_true hab]
    exact Wm ⟨_,.refl,q⟩
theorem Jtb:FnScope ["numbers","gains"] ["numbers","gains"] (Jf Jd7):=⟨rfl,rfl,rfl,by decide +kernel,rfl,by decide +kernel,by decide +kernel⟩
theorem Jtc (T:Txt mg) (D:Def K mg "put_to" Jd7 ["numbers","gains"]):Cal P w K mg base "put_to" 1 ["numbers","gains"] (Jp Jfw):=by
 refine D.cal λ f fd F=>F.ok Jtb (Ye ?_) (λ cdv A outer s H vs Q E hr h=>?_)
 . rintro as n P ⟨U,f,g,rfl,_⟩
   rfl
 refine ⟨_,(@Jg _ _ _ (@Jr _ _ _ _ (Yf Jv rfl T.b_tuple Ycr (Y2 (Ym (sc:=(Jf Jd7)) (N:=["numbers","gains"]) (N':=["number","more"]) (k:=2) (idx:=[]) rfl (by exact ⟨rfl,by decide +kernel,by decide +kernel,by decide +kernel,by decide +kernel,by decide +kernel,rfl,rfl⟩) rfl rfl (Ja3 rfl T.b_zip (Jc (pv 0) (Jc (pv 1) Jd))) (λ _ _ _ _=>(Yv (K':=K) (i:=0) (j:=1) rfl (show (["number","more"]:List Str).Nodup by decide +kernel) ⟨rfl,(Qa rfl),(Qt rfl)⟩ ⟨rfl,(Qa rfl),(Qt rfl)⟩ rfl)) (λ _ _ _ _=>Yl) (λ _ _ _ _=>(J3 Vj (pv 0) (pv 1)))) Jd)))),J6 h ?_⟩
 rintro as n P ⟨U,f,g,rfl,hU,q⟩
 have hs:sizeLine=16777216:=Ycl
 refine ⟨rfl,_,_,_,_,rfl,rfl,rfl,⟨rfl,by rw [Br,Y6,Y6];omega⟩,?_⟩
 rw [Jg9]
 refine Y7 (λ i=>.int (f i+g i)) (λ i hi n K hk=>⟨rfl,rfl,Z6 hk⟩) q
theorem Vr:FnScope ["gains","needs","many","whole","lowest"] ["gains","needs","many"] (Jf Zz):=⟨rfl,rfl,rfl,by decide +kernel,rfl,by decide +kernel,by decide +kernel⟩
theorem Je3 (T:Txt mg) (D:Def K mg "over_and_over" Zz ["gains","needs","many"]):Cal P w K mg base "over_and_over" 1 ["gains","needs","many"] (Jp Jpf):=by
 refine D.cal λ f fd F=>F.ok Vr (Ye ?_) (λ cdv A outer s H vs Q E hr h=>?_)
 . rintro as n P ⟨U,f,m,rfl,_⟩
   rfl
 refine ⟨_,(@Jb _ _ _ _ _ (Js (i:=3) Vr.nd rfl (Qa rfl) (Yf Jv rfl T.b_tuple Ycr (Y2 (Ym (sc:=(Jf Zz)) (N:=["gains","needs","many","whole","lowest"]) (N':=["more","many"]) (k:=1) (idx:=[2]) rfl (by exact ⟨rfl,by decide +kernel,by decide +kernel,by decide +kernel,by decide +kernel,by decide +kernel,rfl,rfl⟩) rfl rfl (Jax (pv 0)) (λ _ _ _ _=>(Ju (i:=0) (show (["more","many"]:List Str).Nodup by decide +kernel) rfl (Qa rfl) (Qt rfl))) (λ _ _ _ _=>Yl) (λ _ _ _ _=>(J3 Jfs (pv 1) (pv 0)))) Jd)))
  (@Jb _ _ _ _ _ (Js (i:=4) Vr.nd rfl (Qa rfl) (Yf Jv rfl T.b_tuple Ycr (Y2 (Ym (sc:=(Jf Zz)) (N:=["gains","needs","many","whole","lowest"]) (N':=["least","more","many"]) (k:=2) (idx:=[2]) rfl (by exact ⟨rfl,by decide +kernel,by decide +kernel,by decide +kernel,by decide +kernel,by decide +kernel,rfl,rfl⟩) rfl rfl (Ja3 rfl T.b_zip (Jc (pv 1) (Jc (pv 0) Jd))) (λ _ _ _ _=>(Yv (K':=K) (i:=0) (j:=1) rfl (show (["least","more","many"]:List Str).Nodup by decide +kernel) ⟨rfl,(Qa rfl),(Qt rfl)⟩ ⟨rfl,(Qa rfl),(Qt rfl)⟩ rfl)) (λ _ _ _ _=>Yl) (λ _ _ _ _=>(J3 Jcp (pv 0) (J3 Jfs (J3 Jcp (pv 2) Je) (J7 (Jre rfl) rfl T.b_min boot_min (Jc (pv 1) (Y3 Je Jd))))))) Jd)))
  (@Jg _ _ _ (@Jr _ _ _ _ (@PEs.out _ _ _ (Ys (Jy (Jx (pv 3)) (Jy (Jx (pv 4)) Jo)))))))),J6 h ?_⟩
 rintro as n P ⟨U,f,m,rfl,hU,hg,hm,q⟩
 have hs:sizeLine=16777216:=Ycl
 have hm1:=Jfd hm.1 hm.2
 refine ⟨rfl,⟨rfl,by rw [Y6];omega⟩,?_⟩
 refine Y7 (λ i=>.int (m*f.g i)) (λ i hi n K hk=>Z6 ⟨Jcx hm1 (hg i),hk⟩) ?_
 refine ⟨[.d (Zg U f.g),.d (Zg U f.d),.d (.int m),.d (Zg U (f.pw m).g),.jnk],.eq rfl,?_⟩
 refine ⟨_,_,_,_,rfl,rfl,rfl,⟨rfl,by rw [Br,Y6,Y6];omega⟩,?_⟩
 rw [Jg9]
 refine Y7 (λ i=>.int ((f.pw m).d i)) (λ i hi n K hk=>⟨rfl,rfl,Z6 ⟨Jcx ?_ ?_,?_⟩⟩) ⟨_,.refl,Yz,q⟩
 . omega
 . show (if (0:Int)<f.g i then 0 else f.g i).natAbs<2^9000
   have:=hg i
   split
   . exact Nat.pow_pos (by decide)
   . exact this
 . show K (some (.int (f.d i-(m-1)*(if (0:Int)<f.g i then 0 else f.g i)))) n
   rw [show (if (0:Int)<f.g i then 0 else f.g i)=min (f.g i) 0 by split<;>omega]
   exact hk
theorem Jwz {R U:Int}{ws:List Way}{k:Int}{n:Nat}{G:VEnds}{b c d e:Vl}(ok:BookOk R U ws) (wok:WayOk R U (Ja ws k)) (q:G.rt (.tuple [Zg U (Wi (Ja ws k)).g,Zg U (Wi (Ja ws k)).d]) n) :
 ∃ env2,Fz [.d (Jq R U ws),.d (Jsh k),.d (.tuple ((Ja ws k).g.map .int)),b,c,d,e] env2/\J3n (Jzo (Jep (Jxm 2) (Jep (gCB Jg0 (Jep (J28 (Jzv (Juv Jzs (Jxm 2)) 1 [] [0] (Jzt 0) (λ x n Q=>Q true n) (gCB (J1h λ i j=>if j>i then j else i) (Jep (gC (.int 0)) (Jep (gUn (fU λ i=>V.int (-i)) (Jqk 0)) Jql))))) Jql)) Jql))) G env2 n:=by
 have hs:sizeLine=16777216:=Ycl
 have p1:=ok.p1
 rw [Jsj wok]
 refine ⟨_,.refl,⟨rfl,by rw [Y6];omega⟩,?_⟩
 refine Y7 (λ i=>.int ((Wi (Ja ws k)).d i)) (λ i hi n K hk=>Z6 ?_) ⟨Yz,q⟩
 show K (some (.int (if -((Wi (Ja ws k)).g i)>0 then _ else _))) n
 rw [Jva]
 exact hk
theorem J8:FnScope ["book","told","gains","needs","part","then","least"] ["book","told"] (Jf Zm):=⟨rfl,rfl,rfl,by decide +kernel,rfl,by decide +kernel,by decide +kernel⟩
theorem Je4 (T:Txt mg) (D:Def K mg "gain_and_need" Zm ["book","told"]) (Gr:Cal P w K mg base "over_and_over" 1 ["gains","needs","many"] (Jp Jpf)) (Gg:Cal P w K mg base "put_to" 1 ["numbers","gains"] (Jp Jfw)):∀ m:Nat,Cal P w K mg base "gain_and_need" (m+2) ["book","told"] (Jp (Ju6 m)):=by
 intro m
 induction m with
 | zero=>
  refine D.cal λ f fd F=>F.ok J8 (Ye ?_) (λ cdv A outer s H vs Q E hr h=>?_)
  . rintro as n P ⟨R,U,ws,d,f,rfl,_⟩
    rfl
  refine ⟨_,(@Jb _ _ _ _ _ (Yw (Jt Bx (Jm Jn (pv 1) Je (λ _ _=>rfl)) Yr (Jw _)) (@Jb _ _ _ _ _ (Js (i:=2) J8.nd rfl (Qa rfl) (Jm Jn (Jm Jn (Jm Jn (pv 0) Je (λ _ _=>rfl)) (Jm Jn (pv 1) Je (λ _ _=>rfl)) (λ _ _=>rfl)) Je (λ _ _=>rfl)))
   (@Jg _ _ _ (@Jr _ _ _ _ (@PEs.out _ _ _ (Ys (Jy (Jx (pv 2)) (W7 (Jx (Yf Jv rfl T.b_tuple Ycr (Y2 (Ym (sc:=(Jf Zm)) (N:=["book","told","gains","needs","part","then","least"]) (N':=["more"]) (k:=1) (idx:=[]) rfl (by exact ⟨rfl,by decide +kernel,by decide +kernel,by decide +kernel,by decide +kernel,by decide +kernel,rfl,rfl⟩) rfl rfl (Jax (pv 2)) (λ _ _ _ _=>(Ju (i:=0) (show (["more"]:List Str).Nodup by decide +kernel) rfl (Qa rfl) (Qt rfl))) (λ _ _ _ _=>Yl) (λ _ _ _ _=>(J7 (Jeh rfl) rfl T.b_max boot_max (Y3 Je (Jgr (Jf9 Jcq (pv 0)) Jd))))) Jd))) Jo))))))) J0)
   Jaj),J6 h ?_⟩
  rintro as n P ⟨R,U,ws,d,f,rfl,ok,⟨k,h0,h1,rfl,rfl⟩,hm,q⟩
  have wok:=ok.ways _ (Yd h0 h1)
  refine ⟨rfl,_,rfl,Jdr (Z6 ⟨_,rfl,_,rfl,_,Vb h0 h1,_,rfl,?_⟩)⟩
  exact Jwz ok wok q
 | succ m Gb=>
  refine D.cal λ f fd F=>F.ok J8 (Ye ?_) (λ cdv A outer s H vs Q E hr h=>?_)
  . rintro as n P ⟨R,U,ws,d,f,rfl,_⟩
    rfl
  refine ⟨_,(@Jb _ _ _ _ _ (Yw (Jt Bx (Jm Jn (pv 1) Je (λ _ _=>rfl)) Yr (Jw _)) (@Jb _ _ _ _ _ (Js (i:=2) J8.nd rfl (Qa rfl) (Jm Jn (Jm Jn (Jm Jn (pv 0) Je (λ _ _=>rfl)) (Jm Jn (pv 1) Je (λ _ _=>rfl)) (λ _ _=>rfl)) Je (λ _ _=>rfl)))
   (@Jg _ _ _ (@Jr _ _ _ _ (@PEs.out _ _ _ (Ys (Jy (Jx (pv 2)) (W7 (Jx (Yf Jv rfl T.b_tuple Ycr (Y2 (Ym (sc:=(Jf Zm)) (N:=["book","told","gains","needs","part","then","least"]) (N':=["more"]) (k:=1) (idx:=[]) rfl (by exact ⟨rfl,by decide +kernel,by decide +kernel,by decide +kernel,by decide +kernel,by decide +kernel,rfl,rfl⟩) rfl rfl (Jax (pv 2)) (λ _ _ _ _=>(Ju (i:=0) (show (["more"]:List Str).Nodup by decide +kernel) rfl (Qa rfl) (Qt rfl))) (λ _ _ _ _=>Yl) (λ _ _ _ _=>(J7 (Jeh rfl) rfl T.b_max boot_max (Y3 Je (Jgr (Jf9 Jcq (pv 0)) Jd))))) Jd))) Jo))))))) J0)
   (@Jb _ _ _ _ _ (Yw (Jt Bx (Jm Jn (pv 1) Je (λ _ _=>rfl)) Yr (Jw _)) (@Jb _ _ _ _ _ (Zq (Yg Gb (hr.mono (by omega)) rfl (Jc (pv 0) (Y9 (Jm Jn (pv 1) Je (λ _ _=>rfl)) Jd))) (Yv (K':=K) (i:=2) (j:=3) rfl J8.nd ⟨rfl,(Qa rfl),(Qa rfl)⟩ ⟨rfl,(Qa rfl),(Qa rfl)⟩ rfl))
   (@Jg _ _ _ (@Jr _ _ _ _ (Yg Gr (hr.mono (by omega)) rfl (Jc (pv 2) (Jc (pv 3) (Y9 (Jm Jn (pv 1) Je (λ _ _=>rfl)) Jd))))))) J0)
   (@Jb _ _ _ _ _ (Jxd (J3 Jw9 (@PEs.out _ _ _ (Ys (Jz Yu Jo))) (Jm Jn (pv 0) Je (λ _ _=>rfl))) (Ju (i:=2) J8.nd rfl (Qa rfl) (Qa rfl)) (Ju (i:=3) J8.nd rfl (Qa rfl) (Qa rfl)))
   (@Jb _ _ _ _ _ (Z1 Xp rfl (Jax (Jm Jn (pv 1) Je (λ _ _=>rfl))) (Ju (i:=4) J8.nd rfl (Qa rfl) (Qa rfl))
   (@Jb _ _ _ _ _ (Zq (Yg Gb (hr.mono (by omega)) rfl (Jc (pv 0) (Jc (pv 4) Jd))) (Yv (K':=K) (i:=5) (j:=6) rfl J8.nd ⟨rfl,(Qa rfl),(Qa rfl)⟩ ⟨rfl,(Qa rfl),(Qa rfl)⟩ rfl))
   (@Jb _ _ _ _ _ (Js (i:=3) J8.nd rfl (Qa rfl) (Yf Jv rfl T.b_tuple Ycr (Y2 (Ym (sc:=(Jf Zm)) (N:=["book","told","gains","needs","part","then","least"]) (N':=["ahead","now","more"]) (k:=3) (idx:=[]) rfl (by exact ⟨rfl,by decide +kernel,by decide +kernel,by decide +kernel,by decide +kernel,by decide +kernel,rfl,rfl⟩) rfl rfl (Jxe rfl T.b_zip (Jc (pv 3) (Jc (pv 6) (Jc (pv 2) Jd)))) (λ _ _ _ _=>(Vw (K':=K) (i:=0) (j:=1) (m:=2) rfl (show (["ahead","now","more"]:List Str).Nodup by decide +kernel) ⟨rfl,(Qa rfl),(Qt rfl)⟩ ⟨rfl,(Qa rfl),(Qt rfl)⟩ ⟨rfl,(Qa rfl),(Qt rfl)⟩ rfl)) (λ _ _ _ _=>Yl) (λ _ _ _ _=>(J7 (Jeh rfl) rfl T.b_max boot_max (Jc (pv 0) (V4 (J3 Jcp (pv 1) (pv 2)) Jd))))) Jd)))
   (@Jg _ _ _ (Js (i:=2) J8.nd rfl (Qa rfl) (Yg Gg (hr.mono (by omega)) rfl (Jc (pv 2) (Jc (pv 5) Jd))))))))
   (@Jg _ _ _ (@Jr _ _ _ _ (@PEs.out _ _ _ (Ys (Jy (Jx (pv 2)) (Jy (Jx (pv 3)) Jo)))))))))),J6 h ?_⟩
  rintro as n P ⟨R,U,ws,d,f,rfl,ok,td,hm,q⟩
  have hs:sizeLine=16777216:=Ycl
  have p1:=ok.p1
  have p0:=ok.p0
  rcases td with ⟨k,h0,h1,rfl,rfl⟩ | ⟨ds,fs,rfl,rfl,hne,hl,ha,hld⟩ | ⟨c,e,g,rfl,rfl,hc1,hc2,hcl,te⟩
  . have wok:=ok.ways _ (Yd h0 h1)
    refine ⟨rfl,_,rfl,Jdr (Z6 ⟨_,rfl,_,rfl,_,Vb h0 h1,_,rfl,?_⟩)⟩
    exact Jwz ok wok q
  . refine ⟨rfl,_,rfl,Jds Jer (Wm ⟨_,.refl,_,rfl,Jds Jmy (Wm ⟨_,.refl,?_⟩)⟩)⟩
    refine ⟨by decide,_,rfl,by simp,by omega,by simp;omega,?_⟩
    rw [J3z]
    refine ⟨[.d (Jq R U ws),.d (Jmv ds),.d (Zg U Wa.g),.d (Zg U Wa.d),.jnk,.jnk,.jnk],.eq rfl,_,rfl,?_⟩
    refine ⟨λ i env n'=>n'=n/\∃ x y z,env=[.d (Jq R U ws),.d (Jmv ds),.d (Zg U (J4 Wa (fs.take i)).g),.d (Zg U (J4 Wa (fs.take i)).d),x,y,z],⟨rfl,_,_,_,rfl⟩,?_,?_⟩
    . rintro i x env n' hx ⟨rfl,_,_,_,rfl⟩
      obtain ⟨fi,hfi,tfi⟩:=ha.get hx
      have key:J4 Wa (fs.take (i+1))=(J4 Wa (fs.take i)).then fi:=by
       rw [J9n,hfi];exact Jdt _ _ _
      refine ⟨R,U,ws,x,fi,rfl,ok,tfi,by omega,rfl,rfl,⟨[.d (Jq R U ws),.d (Jmv ds),.d (Zg U (J4 Wa (fs.take i)).g),.d (Zg U (J4 Wa (fs.take i)).d),.d x,.d (Zg U fi.g),.d (Zg U fi.d)],.eq rfl,?_⟩⟩
      refine ⟨_,_,_,_,_,_,rfl,rfl,rfl,rfl,⟨by rw [Y6,Y6],by rw [Y6,Y6]⟩,⟨rfl,by rw [Jeq (by rw [Y6,Y6]) (by rw [Y6,Y6]),Y6];omega⟩,?_⟩
      rw [Jxq]
      refine Y7 (λ j=>.int (((J4 Wa (fs.take i)).then fi).d j)) (λ j hj n K hk=>⟨rfl,rfl,Z6 ?_⟩) ?_
      . show K (some (.int (if fi.d j-(J4 Wa (fs.take i)).g j>(J4 Wa (fs.take i)).d j then _ else _))) n
        rw [Jva]
        exact hk
      . exact ⟨_,.refl,U,_,_,rfl,by omega,rfl,_,_,_,by rw [key];rfl⟩
    . rintro env n' ⟨rfl,_,_,_,rfl⟩
      have hln:=ha.length
      rw [hln,J5u]
      have hz:=Jsi (fs:=fs) (by rintro rfl;exact hne (J72.mp hln)) (ha.right λ _ _ t=>t.ok)
      rw [hz.1,hz.2]
      exact ⟨_,.refl,Yz,q⟩
  . refine ⟨rfl,_,rfl,Jds Jbx (Wm ⟨_,.refl,_,rfl,Jdr (Z6 ⟨_,rfl,?_⟩)⟩)⟩
    refine ⟨R,U,ws,e,g,rfl,ok,te,by omega,rfl,rfl,⟨_,.refl,_,rfl,?_⟩⟩
    have hlt:=TD.lt ok te
    exact ⟨U,g,c,rfl,by omega,λ i=>Jjc (n:=m) (by omega) (hlt.g0 i) (hlt.g1 i),⟨by omega,by omega⟩,q⟩
theorem Jd8:FnScope ["book","told","gains","needs"] ["book","told"] (Jf Jb2):=⟨rfl,rfl,rfl,by decide +kernel,rfl,by decide +kernel,by decide +kernel⟩
theorem Jl0 (T:Txt mg) (D:Def K mg "told_gain" Jb2 ["book","told"]) (m:Nat) (Gb:Cal P w K mg base "gain_and_need" (m+2) ["book","told"] (Jp (Ju6 m))):Cal P w K mg base "told_gain" (m+3) ["book","told"] (Jp (Jky m)):=by
 refine D.cal λ f fd F=>F.ok Jd8 (Ye ?_) (λ cdv A outer s H vs Q E hr h=>?_)
 . rintro as n P ⟨R,U,ws,d,f,rfl,_⟩
   rfl
 refine ⟨_,(@Jb _ _ _ _ _ (Zq (Yg Gb (hr.mono (by omega)) rfl (Jc (pv 0) (Jc (pv 1) Jd))) (Yv (K':=K) (i:=2) (j:=3) rfl Jd8.nd ⟨rfl,(Qa rfl),(Qa rfl)⟩ ⟨rfl,(Qa rfl),(Qa rfl)⟩ rfl))
  (@Jg _ _ _ (@Jr _ _ _ _ (pv 2)))),J6 h ?_⟩
 rintro as n P ⟨R,U,ws,d,f,rfl,ok,td,hm,q⟩
 exact ⟨rfl,R,U,ws,d,f,rfl,ok,td,hm,rfl,rfl,⟨_,.refl,q⟩⟩
theorem Jd9:FnScope ["book","told","gains","needs"] ["book","told"] (Jf Jb3):=⟨rfl,rfl,rfl,by decide +kernel,rfl,by decide +kernel,by decide +kernel⟩
theorem Jl1 (T:Txt mg) (D:Def K mg "told_need" Jb3 ["book","told"]) (m:Nat) (Gb:Cal P w K mg base "gain_and_need" (m+2) ["book","told"] (Jp (Ju6 m))):Cal P w K mg base "told_need" (m+3) ["book","told"] (Jp (Jkz m)):=by
 refine D.cal λ f fd F=>F.ok Jd9 (Ye ?_) (λ cdv A outer s H vs Q E hr h=>?_)
 . rintro as n P ⟨R,U,ws,d,f,rfl,_⟩
   rfl
 refine ⟨_,(@Jb _ _ _ _ _ (Zq (Yg Gb (hr.mono (by omega)) rfl (Jc (pv 0) (Jc (pv 1) Jd))) (Yv (K':=K) (i:=2) (j:=3) rfl Jd9.nd ⟨rfl,(Qa rfl),(Qa rfl)⟩ ⟨rfl,(Qa rfl),(Qa rfl)⟩ rfl))
  (@Jg _ _ _ (@Jr _ _ _ _ (pv 3)))),J6 h ?_⟩
 rintro as n P ⟨R,U,ws,d,f,rfl,ok,td,hm,q⟩
 exact ⟨rfl,R,U,ws,d,f,rfl,ok,td,hm,rfl,rfl,⟨_,.refl,q⟩⟩
theorem Bj:FnScope ["book","stand","told","room","numbers","first","last","gains","needs"] ["book","stand","told"] (Jf B9):=⟨rfl,rfl,rfl,by decide +kernel,rfl,by decide +kernel,by decide +kernel⟩
theorem Jl2 (T:Txt mg) (Z:ErW K mg z) (D:Def K mg "told_done" B9 ["book","stand","told"]) (Gd:Cal P w K mg base "told_ends" 8 ["book","told"] (Jp (Jkx 6))) (Gb:Cal P w K mg base "gain_and_need" 8 ["book","told"] (Jp (Ju6 6))) (Gg:Cal P w K mg base "put_to" 1 ["numbers","gains"] (Jp Jfw)):Jmm P w K mg base "told_done" 9 ["book","stand","told"] (Jfh (Jfx z 6)):=by
 refine D.calX λ f fd F=>F.okX Bj (Jsl ?_) (λ cdv A outer s H vs Q E hr h=>?_)
 . rintro as n P X ⟨R,U,ws,d,f,room,st,rfl,_⟩
   rfl
 refine ⟨_,(@Jb _ _ _ _ _ (Zq (pv 1) (Yv (K':=K) (i:=3) (j:=4) rfl Bj.nd ⟨rfl,(Qa rfl),(Qa rfl)⟩ ⟨rfl,(Qa rfl),(Qa rfl)⟩ rfl))
  (@Jb _ _ _ _ _ (Zq (Yg Gd (hr.mono (by decide)) rfl (Jc (pv 0) (Jc (pv 2) Jd))) (Yv (K':=K) (i:=5) (j:=6) rfl Bj.nd ⟨rfl,(Qa rfl),(Qa rfl)⟩ ⟨rfl,(Qa rfl),(Qa rfl)⟩ rfl))
  (@Jb _ _ _ _ _ (Zq (Yg Gb (hr.mono (by decide)) rfl (Jc (pv 0) (Jc (pv 2) Jd))) (Yv (K':=K) (i:=7) (j:=8) rfl Bj.nd ⟨rfl,(Qa rfl),(Qa rfl)⟩ ⟨rfl,(Qa rfl),(Qa rfl)⟩ rfl))
  (@Jb _ _ _ _ _ (Yw (PW.pt (Jil (Jt Jp1 (pv 3) (pv 5) (Jw _)) (Jeb (Jec (Bk (J7 Jgm rfl T.b_all boot_all (Y2 (Ym (sc:=(Jf B9)) (N:=["book","stand","told","room","numbers","first","last","gains","needs"]) (N':=["number","least"]) (k:=2) (idx:=[]) rfl (by exact ⟨rfl,by decide +kernel,by decide +kernel,by decide +kernel,by decide +kernel,by decide +kernel,rfl,rfl⟩) rfl rfl (Ja3 rfl T.b_zip (Jc (pv 4) (Jc (pv 8) Jd))) (λ _ _ _ _=>(Yv (K':=K) (i:=0) (j:=1) rfl (show (["number","least"]:List Str).Nodup by decide +kernel) ⟨rfl,(Qa rfl),(Qt rfl)⟩ ⟨rfl,(Qa rfl),(Qt rfl)⟩ rfl)) (λ _ _ _ _=>Yl) (λ _ _ _ _=>(Jb6 Jzb (pv 0) (pv 1) (Jw _)))) Jd))))))) (@Jg _ _ _ (Juh Z.rWay rfl (Y3 Yr Jd))) J0)
  (@Jg _ _ _ (@Jr _ _ _ _ (@PEs.out _ _ _ (Ys (Jy (Jx (pv 6)) (W7 (Jx (Yg Gg (hr.mono (by decide)) rfl (Jc (pv 4) (Jc (pv 7) Jd)))) Jo)))))))))),Jpi h ?_⟩
 rintro as n P X ⟨R,U,ws,d,f,room,st,rfl,ok,td,hm,q,x⟩
 have p1:=ok.p1
 have hs:sizeLine=16777216:=Ycl
 refine ⟨rfl,rfl,rfl,⟨[.d (Jq R U ws),.d (.tuple [.int room,Zg U st]),.d d,.d (.int room),.d (Zg U st),.jnk,.jnk,.jnk,.jnk],.eq rfl,?_⟩⟩
 refine ⟨R,U,ws,d,f,rfl,ok,td,hm,rfl,rfl,⟨[.d (Jq R U ws),.d (.tuple [.int room,Zg U st]),.d d,.d (.int room),.d (Zg U st),.d (.int f.a),.d (.int f.b),.jnk,.jnk],.eq rfl,?_⟩⟩
 refine ⟨R,U,ws,d,f,rfl,ok,td,hm,rfl,rfl,⟨[.d (Jq R U ws),.d (.tuple [.int room,Zg U st]),.d d,.d (.int room),.d (Zg U st),.d (.int f.a),.d (.int f.b),.d (Zg U f.g),.d (Zg U f.d)],.eq rfl,?_⟩⟩
 refine Jvb (Ze (λ c=>?_) (λ c=>?_))
 . have hne:room≠f.a:=λ e=>by rw [decide_eq_true e] at c;cases c
   exact Z6 ⟨by decide,rfl,x λ h=>hne h.1⟩
 . have he:room=f.a:=by
    by_cases e:room=f.a
    . exact e
    . rw [decide_eq_false e] at c;cases c
   refine ⟨_,_,_,_,rfl,rfl,rfl,⟨rfl,by rw [Br,Y6,Y6];omega⟩,?_⟩
   rw [Jg9]
   refine Y7 (λ i=>.bool (decide (f.d i<=st i))) (λ i hi n K hk=>⟨rfl,rfl,Z6 hk⟩) ?_
   refine ⟨(Qf U.toNat).map λ i=>decide (f.d i<=st i),by rw [Q0];rfl,rfl,?_⟩
   by_cases ha:∀ i,i<U.toNat->f.d i<=st i
   . rw [Jhf.mpr ha]
     exact Wm ⟨_,.refl,U,st,f.g,rfl,by omega,Yz,q ⟨he,ha⟩⟩
   . rw [Bool.eq_false_iff.mpr λ h=>ha (Jhf.mp h)]
     exact Z6 ⟨by decide,rfl,x λ h=>ha h.2⟩
theorem Y0:FnScope ["book","some","rooms","purses","ways","leads","k","a","b","gains","middle","room"] ["book","some"] (Jf Zl):=⟨rfl,rfl,rfl,by decide +kernel,rfl,by decide +kernel,by decide +kernel⟩
theorem Je5 (T:Txt mg) (D:Def K mg "rooms_reached" Zl ["book","some"]):Cal P w K mg base "rooms_reached" 1 ["book","some"] (Jp Jk8):=by
 refine D.cal λ f fd F=>F.ok Y0 (Ye ?_) (λ cdv A outer s H vs Q E hr h=>?_)
 . rintro as n P ⟨R,U,ws,ks,rfl,_⟩
   rfl
 refine ⟨_,(@Jb _ _ _ _ _ (Zq (pv 0) (Vw (K':=K) (i:=2) (j:=3) (m:=4) rfl Y0.nd ⟨rfl,(Qt rfl),(Qa rfl)⟩ ⟨rfl,(Qa rfl),(Qa rfl)⟩ ⟨rfl,(Qa rfl),(Qa rfl)⟩ rfl))
  (@Jb _ _ _ _ _ (Jxu (Jmt (i:=5) (sc:=(Jf Zl)) (N:=["book","some","rooms","purses","ways","leads","k","a","b","gains","middle","room"]) (N':=["room","rooms"]) (k:=1) (idx:=[2]) rfl Y0.nd rfl rfl (by exact ⟨rfl,by decide +kernel,by decide +kernel,by decide +kernel,by decide +kernel,by decide +kernel,rfl,rfl⟩) rfl rfl (Zc rfl T.b_range (Jc (pv 2) Jd)) (λ _ _ _ _=>(Ju (i:=0) (show (["room","rooms"]:List Str).Nodup by decide +kernel) rfl (Qt rfl) (Qa rfl))) (λ _ _ _ _=>Yl) (λ _ _ _ _=>(Ym (sc:=J1e _ (Jf Zl)) (N:=["room","rooms"]) (N':=["other","room"]) (k:=1) (idx:=[0]) rfl (by exact ⟨rfl,by decide +kernel,by decide +kernel,by decide +kernel,by decide +kernel,by decide +kernel,rfl,rfl⟩) (J26 rfl) rfl (by exact (Zc rfl T.b_range (Jc (pv 1) Jd))) (λ _ _ _ _=>(Ju (i:=0) (show (["other","room"]:List Str).Nodup by decide +kernel) rfl (Qa rfl) (Qt rfl))) (λ _ _ _ _=>Yl) (λ _ _ _ _=>(Jb6 Bx (pv 1) (pv 0) (Jw _)))))))
  (@Jb _ _ _ _ _ (Z1 Xp rfl (Wf (pv 1)) (Ju (i:=6) Y0.nd rfl (Qa rfl) (Qa rfl))
  (@Jb _ _ _ _ _ (Zq (Jm Jn (pv 4) (pv 6) (λ _ _=>rfl)) (Vw (K':=K) (i:=7) (j:=8) (m:=9) rfl Y0.nd ⟨rfl,(Qa rfl),(Qa rfl)⟩ ⟨rfl,(Qa rfl),(Qa rfl)⟩ ⟨rfl,(Qa rfl),(Qa rfl)⟩ rfl))
  (@Jg _ _ _ (Zq Bd (Jog (Jm Yq (pv 5) (pv 7) (λ _ _=>rfl)) (pv 8) Jal (λ v=>V9 _ _ _ _ _ v))))))
  (@Jb _ _ _ _ _ (Z1 Xp rfl (Zc rfl T.b_range (Jc (pv 2) Jd)) (Ju (i:=10) Y0.nd rfl (Qa rfl) (Qa rfl))
  (@Jg _ _ _ (Z1 Xp rfl (Zc rfl T.b_range (Jc (pv 2) Jd)) (Ju (i:=11) Y0.nd rfl (Qa rfl) (Qa rfl))
  (@Jg _ _ _ (Yw (Bk (Jm Yq (Jm Yq (pv 5) (pv 11) (λ _ _=>rfl)) (pv 10) (λ _ _=>rfl))) (@Jg _ _ _ (Jxw (Zq (Ym (sc:=(Jf Zl)) (N:=["book","some","rooms","purses","ways","leads","k","a","b","gains","middle","room"]) (N':=["now","then"]) (k:=2) (idx:=[]) rfl (by exact ⟨rfl,by decide +kernel,by decide +kernel,by decide +kernel,by decide +kernel,by decide +kernel,rfl,rfl⟩) rfl rfl (Jxx (Jqi (K':=K) rfl rfl T.b_zip (Y9 (Jm Yq (pv 5) (pv 11) (λ _ _=>rfl)) (Y9 (Jm Yq (pv 5) (pv 10) (λ _ _=>rfl)) Jd)))) (λ _ _ _ _=>(Yv (K':=K) (i:=0) (j:=1) rfl (show (["now","then"]:List Str).Nodup by decide +kernel) ⟨rfl,(Qa rfl),(Qt rfl)⟩ ⟨rfl,(Qa rfl),(Qt rfl)⟩ rfl)) (λ _ _ _ _=>Yl) (λ _ _ _ _=>(J2j (pv 0) (Jed (pv 1))))) (Jog (pv 5) (pv 11) Jal (λ v=>V9 _ _ _ _ _ v))))) J0)))))
  (@Jg _ _ _ (@Jr _ _ _ _ (pv 5))))))),J6 h ?_⟩
 rintro as n P ⟨R,U,ws,ks,rfl,ok,hk,q⟩
 have r0:=ok.r0
 have r1:=ok.r1
 have hs:sizeLine=16777216:=Ycl
 have hR:((R.toNat:Nat):Int)=R:=Xw (by omega)
 refine ⟨rfl,rfl,rfl,⟨_,.refl,?_⟩⟩
 refine ⟨R,rfl,⟨by omega,by omega⟩,⟨rfl,by rw [Y5];omega,?_⟩,?_⟩
 . unfold Jg1
   rw [Ub]
   intro x hx
   obtain ⟨b,_,rfl⟩:=Ql.mp hx
   rfl
 refine Jm9 (λ a=>Bs R.toNat (pw0 []) a) (Qf R.toNat) (λ i hi K hK=>?_) ?_
 . refine ⟨R,rfl,⟨by omega,by omega⟩,⟨rfl,by rw [Y5];omega⟩,?_⟩
   refine Y7 (λ j=>.bool (pw0 [] i j)) (λ j hj n K hK=>Z6 (J30 ?_)) hK
   have:decide ((0+(i:Int))=0+(j:Int))=pw0 [] i j:=by
    unfold pw0
    rw [decide_eq_false (p:=(i,j)∈[]) (by simp),J79]
    exact decide_eq_decide.mpr (by omega)
   rw [this]
   exact hK
 intro ps hps
 refine ⟨_,.refl,?_⟩
 refine ⟨λ i env n'=>n'=n/\∃ (ps:List (Addr×List Yce)) (x6 x7 x8 x9:Vl),env=[.d (Jq R U ws),.d (.list (ks.map .int)),.d (.int R),.d (.int U),.d (.tuple (ws.map Zx)),.own2 none ps,x6,x7,x8,x9,.jnk,.jnk]/\ps.map (·.2)=Bb R.toNat (pw0 (J2 ws (ks.take i))),⟨rfl,ps,_,_,_,_,rfl,hps⟩,?_,?_⟩
 . rintro i x env n' hx ⟨rfl,ps,x6,x7,x8,x9,rfl,hps⟩
   rw [Qs] at hx
   obtain ⟨k,hki,rfl⟩:=Uu.mp hx
   obtain ⟨k0,k1⟩:=hk k (Xa hki)
   have wok:=ok.ways _ (Yd k0 k1)
   have a0:=wok.a0
   have a1:=wok.a1
   have b0:=wok.b0
   have b1:=wok.b1
   have ha:(Ja ws k).a.toNat<R.toNat:=by omega
   have hb:(Ja ws k).b.toNat<R.toNat:=by omega
   obtain ⟨p,hp,ep⟩:=Jm7 hps (Jas (f:=pw0 (J2 ws (ks.take i))) ha)
   refine ⟨_,Vb k0 k1,rfl,rfl,⟨_,.refl,?_⟩⟩
   refine ⟨_,p,Vm a0 (by rw [Jhk hps,Bt];omega),hp,_,Vm b0 (by rw [ep,Jby];omega),rfl,_,_,_,_,_,rfl,?_⟩
   rw [Jso hki,ep]
   exact Jm8 hps (Jxz ha hb)
 . rintro env _ ⟨rfl,ps,x6,x7,x8,x9,rfl,hps⟩
   rw [Qb,J5u,J1x] at hps
   refine ⟨_,.refl,R,rfl,⟨by omega,by omega⟩,λ m env k=>k=_/\∃ (ps:List (Addr×List Yce)) (x6 x7 x8 x9 x10 x11:Vl),env=[.d (Jq R U ws),.d (.list (ks.map .int)),.d (.int R),.d (.int U),.d (.tuple (ws.map Zx)),.own2 none ps,x6,x7,x8,x9,x10,x11]/\ps.map (·.2)=Bb R.toNat (Pw (J2 ws ks) m),⟨rfl,ps,_,_,_,_,_,_,rfl,hps⟩,?_,?_⟩
   . rintro m x env _ hx ⟨rfl,ps,x6,x7,x8,x9,x10,x11,rfl,hps⟩
     obtain ⟨hm,rfl⟩:=Jk6 hx
     refine ⟨R,rfl,⟨by omega,by omega⟩,λ r env k=>k=_/\∃ (ps:List (Addr×List Yce)) (x11:Vl),env=[.d (Jq R U ws),.d (.list (ks.map .int)),.d (.int R),.d (.int U),.d (.tuple (ws.map Zx)),.own2 none ps,x6,x7,x8,x9,.d (.int m),x11]/\ps.map (·.2)=Bb R.toNat (pwR (J2 ws ks) m r),⟨rfl,ps,_,rfl,by rw [J36];exact hps⟩,?_,?_⟩
     . rintro r x env _ hx ⟨rfl,ps,x11,rfl,hps⟩
       obtain ⟨hr',rfl⟩:=Jk6 hx
       refine ⟨_,Jk3 hps (Xo r) (by omega),_,Jk4 (Xo m) (by omega),Ze (λ c=>?_) (λ c=>?_)⟩
       . rw [Xb,Xb,Jhl] at c
         refine ⟨_,Jk3 hps (Xo r) (by omega),_,Jk3 hps (Xo m) (by omega),_,_,_,_,rfl,rfl,rfl,⟨Jji,Jji⟩,⟨rfl,?_⟩,?_⟩
         . rw [Jqt,Qb,Xi];omega
         rw [Xb,Xb,Jqt]
         refine Y7 (λ b=>.bool (pwR (J2 ws ks) m r r b||pwR (J2 ws ks) m r m b)) (λ j hj n K hK=>⟨rfl,rfl,Z6 (Ze (λ e=>?_) (λ e=>?_))⟩) ?_
         . rw [e,J8w] at hK;exact hK
         . rw [e,J8x] at hK;exact hK
         . exact ⟨r,by rw [Vm (Xo r) (by rw [Jhk hps,Bt];omega),Xb],λ b=>⟨rfl,_,_,rfl,Jm8 hps (Jx0 hr' c)⟩⟩
       . rw [Xb,Xb,Jhl] at c
         exact ⟨rfl,ps,_,rfl,by rw [hps];exact J1w c⟩
     . rintro env _ ⟨rfl,ps,x11,rfl,hps⟩
       rw [Y5,Jx1] at hps
       exact ⟨rfl,ps,_,_,_,_,_,_,rfl,hps⟩
   . rintro env _ ⟨rfl,ps,x6,x7,x8,x9,x10,x11,rfl,hps⟩
     rw [Y5] at hps
     refine ⟨_,.fz2 5 ps rfl .refl,?_⟩
     show P _ _
     rw [Jvn hps]
     exact q
theorem We:FnScope ["book","some","rooms","purses","ways","leads","rings","k","a","b","gains","least"] ["book","some"] (Jf Ja7):=⟨rfl,rfl,rfl,by decide +kernel,rfl,by decide +kernel,by decide +kernel⟩
theorem Jn7 (T:Txt mg) (D:Def K mg "rings_of" Ja7 ["book","some"]) (Gs:Cal P w K mg base "rooms_reached" 1 ["book","some"] (Jp Jk8)):Cal P w K mg base "rings_of" 2 ["book","some"] (Jp Jlb):=by
 refine D.cal λ f fd F=>F.ok We (Ye ?_) (λ cdv A outer s H vs Q E hr h=>?_)
 . rintro as n P ⟨R,U,ws,ks,rfl,_⟩
   rfl
 refine ⟨_,(@Jb _ _ _ _ _ (Zq (pv 0) (Vw (K':=K) (i:=2) (j:=3) (m:=4) rfl We.nd ⟨rfl,(Qa rfl),(Qa rfl)⟩ ⟨rfl,(Qa rfl),(Qa rfl)⟩ ⟨rfl,(Qa rfl),(Qa rfl)⟩ rfl))
  (@Jb _ _ _ _ _ (Js (i:=5) We.nd rfl (Qt rfl) (Yg Gs (hr.mono (by decide)) rfl (Jc (pv 0) (Jc (pv 1) Jd))))
  (@Jb _ _ _ _ _ (Jvv (Js (i:=6) We.nd rfl (Qa rfl) Jmb))
  (@Jb _ _ _ _ _ (Z1 Xp rfl (Wf (pv 1)) (Ju (i:=7) We.nd rfl (Qa rfl) (Qa rfl))
  (@Jb _ _ _ _ _ (Zq (Jm Jn (pv 4) (pv 7) (λ _ _=>rfl)) (Vw (K':=K) (i:=8) (j:=9) (m:=10) rfl We.nd ⟨rfl,(Qt rfl),(Qa rfl)⟩ ⟨rfl,(Qa rfl),(Qa rfl)⟩ ⟨rfl,(Qa rfl),(Qa rfl)⟩ rfl))
  (@Jg _ _ _ (Yw (Bk (Jm Yq (Jm Yq (pv 5) (pv 9) (λ _ _=>rfl)) (pv 8) (λ _ _=>rfl))) (@Jb _ _ _ _ _ (Js (i:=11) We.nd rfl (Qa rfl) (J7 (Ji1 rfl) rfl T.b_min boot_min (Y2 (Ym (sc:=(Jf Ja7)) (N:=["book","some","rooms","purses","ways","leads","rings","k","a","b","gains","least"]) (N':=["room","leads","a"]) (k:=1) (idx:=[5,8]) rfl (by exact ⟨rfl,by decide +kernel,by decide +kernel,by decide +kernel,by decide +kernel,by decide +kernel,rfl,rfl⟩) rfl rfl (Zc rfl T.b_range (Jc (pv 2) Jd)) (λ _ _ _ _=>(Ju (i:=0) (show (["room","leads","a"]:List Str).Nodup by decide +kernel) rfl (Qa rfl) (Qt rfl))) (λ _ _ _ _=>Ja1 (PW.pt (Jod (Bk (Jm (Jbt (K':=K) rfl) (Jm (Jbt (K':=K) rfl) (pv 1) (pv 2) (λ _ _=>rfl)) (pv 0) (λ _ _=>rfl))) (Jj0 (Bk (Jm (Jbt (K':=K) rfl) (Jm (Jbt (K':=K) rfl) (pv 1) (pv 0) (λ _ _=>rfl)) (pv 2) (λ _ _=>rfl))))))) (λ _ _ _ _=>(pv 0))) Jd)))
  (@Jg _ _ _ (Vt (Jam Ue U3 U4 Zi (Jvr (pv 6) (pv 11) (@PEs.out _ _ _ (Yb Jo)) ⟨rfl,rfl,rfl,rfl⟩) (Jc (pv 7) Jd))))) J0))))
  (@Jg _ _ _ (@Jr _ _ _ _ (Jvs hr.hd rfl T.b_list (pv 6)))))))),J6 h ?_⟩
 rintro as n P ⟨R,U,ws,ks,rfl,ok,hk,hl,q⟩
 have r0:=ok.r0
 have r1:=ok.r1
 have hs:sizeLine=16777216:=Ycl
 have hR:((R.toNat:Nat):Int)=R:=Xw (by omega)
 refine ⟨rfl,rfl,rfl,⟨_,.refl,?_⟩⟩
 refine ⟨R,U,ws,ks,rfl,ok,hk,⟨_,.refl,⟨_,.refl,?_⟩⟩⟩
 refine ⟨λ i env n'=>n'=n/\∃ (keys:List Key) (ps:List (Addr×List Yce)) (x7 x8 x9 x10 x11:Vl),env=[.d (Jq R U ws),.d (.list (ks.map .int)),.d (.int R),.d (.int U),.d (.tuple (ws.map Zx)),.d (Jk7 R.toNat (J2 ws ks)),.own2 (some keys) ps,x7,x8,x9,x10,x11]/\RingInv i (Ww R.toNat (J2 ws ks) ws (ks.take i)) keys ps,⟨rfl,[],[],_,_,_,_,_,rfl,⟨rfl,rfl,J9s,Qn _,λ p hp=>by cases hp⟩⟩,?_,?_⟩
 . rintro i x env _ hx ⟨rfl,keys,ps,x7,x8,x9,x10,x11,rfl,hi⟩
   rw [Qs] at hx
   obtain ⟨k,hki,rfl⟩:=Uu.mp hx
   obtain ⟨k0,k1⟩:=hk k (Xa hki)
   have il:=(Qr.mp hki).1
   have wok:=ok.ways _ (Yd k0 k1)
   have a0:=wok.a0
   have a1:=wok.a1
   have b0:=wok.b0
   have b1:=wok.b1
   have ha:(Ja ws k).a.toNat<R.toNat:=by omega
   have hg:=Jlc (R:=R.toNat) (es:=J2 ws ks) (ws:=ws) hki
   refine ⟨_,Vb k0 k1,rfl,rfl,⟨_,.refl,_,Jhp b0 (by omega),_,Jk4 a0 (by omega),Ze (λ c=>?_) (λ c=>?_)⟩⟩
   . rw [Zp,if_pos c] at hg
     refine ⟨R,rfl,⟨by omega,by omega⟩,⟨rfl,by rw [Y5];omega⟩,?_⟩
     refine Vc (λ x=>Pw (J2 ws ks) R.toNat (Ja ws k).a.toNat x&&Pw (J2 ws ks) R.toNat x (Ja ws k).a.toNat) (λ j=>.int (j:Int)) (λ j hj n K h1 h2=>?_) ?_
     . rw [J9m]
       refine ⟨_,Jhp a0 (by omega),_,Jk4 (Xo j) (by omega),Ze (λ c1=>⟨_,Jhp (Xo j) (by omega),_,Jk4 a0 (by omega),Ze (λ c2=>?_) (λ c2=>?_)⟩) (λ c1=>Wm ?_)⟩
       . rw [Xb] at c1 c2
         exact h1 (by rw [c1,c2];rfl)
       . rw [Xb] at c1 c2
         exact h2 (by rw [c1,c2];rfl)
       . rw [Xb] at c1
         exact h2 (by rw [c1];rfl)
     refine ⟨(Yt R.toNat (J2 ws ks) (Ja ws k).a.toNat).map (λ j:Nat=>(j:Int)),?_,?_,λ m hm hmin=>?_⟩
     . rw [Q0];rfl
     . exact λ z=>by
        have:=Jho (es:=J2 ws ks) ha
        rw [J6q.mp z] at this
        cases this
     rw [Jvw hm hmin]
     have pl:ps.length<1000000:=by
      have e:=congrArg J5i hi.rw
      rw [Qb,Qb] at e
      have:=hi.gl
      omega
     refine ⟨_,.refl,Q9 _,rfl,λ hin m p hm hp=>⟨?_,rfl,keys,_,_,_,_,_,_,rfl,by rw [hg];exact (hi.add hm hp).2⟩,λ hout=>⟨pl,λ b=>⟨rfl,_,_,_,_,_,_,_,rfl,by rw [hg];exact hi.new hout b⟩⟩⟩
     have:=(hi.add (k:=k) hm hp).1
     omega
   . rw [Zp,if_neg (by rw [c];exact Q7)] at hg
     exact ⟨rfl,_,_,_,_,_,_,_,rfl,by rw [hg];exact hi.up⟩
 . rintro env _ ⟨rfl,keys,ps,x7,x8,x9,x10,x11,rfl,hi⟩
   rw [Qb,J5u] at hi
   refine ⟨_,.refl,?_⟩
   show P _ _
   rw [Jsp hi]
   exact q
theorem Jn8:FnScope ["book","counts"] ["book","counts"] (Jf Ja8):=⟨rfl,rfl,rfl,by decide +kernel,rfl,by decide +kernel,by decide +kernel⟩
theorem Jn9 (T:Txt mg) (D:Def K mg "parts_of" Ja8 ["book","counts"]) (Gu:Cal P w K mg base "rings_of" 2 ["book","some"] (Jp Jlb)):Cal P w K mg base "parts_of" 3 ["book","counts"] (Jp Jdw):=by
 refine D.cal λ f fd F=>F.ok Jn8 (Ye ?_) (λ cdv A outer s H vs Q E hr h=>?_)
 . rintro as n P ⟨R,U,ws,cs,rfl,_⟩
   rfl
 refine ⟨_,(@Jg _ _ _ (@Jr _ _ _ _ (Yg Gu (hr.mono (by decide)) rfl (Jc (pv 0) (Y2 (Ym (sc:=(Jf Ja8)) (N:=["book","counts"]) (N':=["k","count"]) (k:=2) (idx:=[]) rfl (by exact ⟨rfl,by decide +kernel,by decide +kernel,by decide +kernel,by decide +kernel,by decide +kernel,rfl,rfl⟩) rfl rfl (Jfr rfl T.b_enumerate (Jc (pv 1) Jd)) (λ _ _ _ _=>(Yv (K':=K) (i:=0) (j:=1) rfl (show (["k","count"]:List Str).Nodup by decide +kernel) ⟨rfl,(Qa rfl),(Qt rfl)⟩ ⟨rfl,(Qa rfl),(Qt rfl)⟩ rfl)) (λ _ _ _ _=>Ja1 (Jt Jga (pv 1) Je (Jw _))) (λ _ _ _ _=>(pv 0))) Jd))))),J6 h ?_⟩
 rintro as n P ⟨R,U,ws,cs,rfl,ok,hl,q⟩
 have hs:sizeLine=16777216:=Ycl
 have wz:=ok.len
 refine ⟨rfl,_,_,rfl,rfl,⟨rfl,by rw [Jcy,Qb,Xi];omega⟩,?_⟩
 rw [Jcy]
 refine Vc (λ i=>decide (0<cs.getD i 0)) (λ i=>.int (i:Int)) (λ i hi n K h1 h2=>⟨rfl,rfl,Ze h1 h2⟩) ?_
 refine ⟨R,U,ws,onW cs,?_,ok,λ k hk=>?_,?_,q⟩
 . unfold onW
   rw [Q0];rfl
 . obtain ⟨i,hi,rfl⟩:=Ql.mp hk
   have:=Xj.mp (Q6.mp hi).1
   omega
 . unfold onW
   rw [Qb]
   have:=J9a (λ i=>decide (0<cs.getD i 0)) (Qf cs.length)
   rw [Xi] at this
   omega
theorem Jcm:FnScope ["book","counts","rooms","purses","ways"] ["book","counts"] (Jf Vh):=⟨rfl,rfl,rfl,by decide +kernel,rfl,by decide +kernel,by decide +kernel⟩
theorem Jih (T:Txt mg) (D:Def K mg "round_gain" Vh ["book","counts"]):Cal P w K mg base "round_gain" 1 ["book","counts"] (Jp Jfy):=by
 refine D.cal λ f fd F=>F.ok Jcm (Ye ?_) (λ cdv A outer s H vs Q E hr h=>?_)
 . rintro as n P ⟨R,U,ws,cs,rfl,_⟩
   rfl
 refine ⟨_,(@Jb _ _ _ _ _ (Zq (pv 0) (Vw (K':=K) (i:=2) (j:=3) (m:=4) rfl Jcm.nd ⟨rfl,(Qa rfl),(Qa rfl)⟩ ⟨rfl,(Qa rfl),(Qa rfl)⟩ ⟨rfl,(Qt rfl),(Qa rfl)⟩ rfl))
  (@Jg _ _ _ (@Jr _ _ _ _ (Yf Jv rfl T.b_tuple Ycr (Y2 (Jun (sc:=(Jf Vh)) (N:=["book","counts","rooms","purses","ways"]) (N':=["p","counts","ways"]) (k:=1) (idx:=[1,4]) rfl (by exact ⟨rfl,by decide +kernel,by decide +kernel,by decide +kernel,by decide +kernel,by decide +kernel,rfl,rfl⟩) rfl rfl (Zc rfl T.b_range (Jc (pv 3) Jd)) (λ _ _ _ _=>(Ju (i:=0) (show (["p","counts","ways"]:List Str).Nodup by decide +kernel) rfl (Qt rfl) (Qa rfl))) (λ _ _ _ _=>Yl) (λ _ _ _ _=>(J7 (Jr5 (K':=K) rfl rfl) rfl T.b_sum boot_sum (Y2 (Ym (sc:=J1e _ (Jf Vh)) (N:=["p","counts","ways"]) (N':=["count","way","p"]) (k:=2) (idx:=[0]) rfl (by exact ⟨rfl,by decide +kernel,by decide +kernel,by decide +kernel,by decide +kernel,by decide +kernel,rfl,rfl⟩) (J26 rfl) rfl (by exact (Jqi (K':=K) rfl rfl T.b_zip (Jc (pv 1) (Jc (pv 2) Jd)))) (λ _ _ _ _=>(Yv (K':=K) (i:=0) (j:=1) rfl (show (["count","way","p"]:List Str).Nodup by decide +kernel) ⟨rfl,(Qa rfl),(Qt rfl)⟩ ⟨rfl,(Qa rfl),(Qt rfl)⟩ rfl)) (λ _ _ _ _=>Yl) (λ _ _ _ _=>(J3 Jay (pv 0) (Jm (Wv (K':=K) rfl) (Jm (Wv (K':=K) rfl) (pv 1) Je (λ _ _=>rfl)) (pv 2) (λ _ _=>rfl))))) Jd)))) Jd))))),J6 h ?_⟩
 rintro as n P ⟨R,U,ws,cs,rfl,ok,hl,q⟩
 have hs:sizeLine=16777216:=Ycl
 have wz:=ok.len
 have u0:=ok.p0
 have u1:=ok.p1
 refine ⟨rfl,rfl,rfl,⟨_,.refl,U,rfl,⟨by omega,by omega⟩,⟨rfl,by rw [Y5];omega⟩,?_⟩⟩
 refine Y7 (λ p=>.int (Juo ws cs p).sum) (λ p hp n K hK=>Z6 ?_) ?_
 . refine ⟨_,_,_,_,rfl,rfl,rfl,⟨rfl,by rw [Jvy hl,Qb,Xi];omega⟩,?_⟩
   rw [Jvy hl,J9m]
   refine Y7 (λ i=>.int (cs.getD i 0*(Ja ws (i:Int)).g.getD p 0)) (λ i hi n K hK=>⟨rfl,rfl,Z6 ?_⟩) ?_
   . have wok:=ok.ways _ (Yd (ws:=ws) (k:=(i:Int)) (by omega) (by omega))
     refine ⟨_,rfl,_,J37 wok (by omega),?_,hK⟩
     right
     have gl:=wok.len
     have hp':p<(Ja ws (i:Int)).g.length:=by omega
     have:=wok.small ((Ja ws (i:Int)).g.getD p 0) (by rw [Q3,Qx hp'];exact Uh hp')
     exact ⟨by omega,by omega⟩
   . refine ⟨Juo ws cs p,?_,rfl,hK⟩
     unfold Juo
     rw [Q0];rfl
 . show P _ _
   unfold rgI at q
   rw [Q0] at q
   exact q
theorem Zr:FnScope ["book","counts","ways","onward","room","places","walk"] ["book","counts"] (Jf Bi):=⟨rfl,rfl,rfl,by decide +kernel,rfl,by decide +kernel,by decide +kernel⟩
theorem Jii (T:Txt mg) (D:Def K mg "short_turn" Bi ["book","counts"]):Cal P w K mg base "short_turn" 1 ["book","counts"] (Jck Jf2):=by
 refine D.cal λ f fd F=>F.ok Zr (Jsf ?_) (λ cdv A outer s H vs Q E hr h=>?_)
 . rintro as n P ⟨R,U,ws,cs,rfl,_⟩
   rfl
 refine ⟨_,(@Jb _ _ _ _ _ (Js (i:=2) Zr.nd rfl (Qt rfl) (Jm Jn (pv 0) Je (λ _ _=>rfl)))
  (@Jb _ _ _ _ _ (Jnd (i:=3) (sc:=(Jf Bi)) (N:=["book","counts","ways","onward","room","places","walk"]) (N':=["k","count","ways"]) (k:=2) (idx:=[2]) rfl Zr.nd rfl rfl (by exact ⟨rfl,by decide +kernel,by decide +kernel,by decide +kernel,by decide +kernel,by decide +kernel,rfl,rfl⟩) rfl rfl (Jfr rfl T.b_enumerate (Jc (pv 1) Jd)) (λ _ _ _ _=>(Yv (K':=K) (i:=0) (j:=1) rfl (show (["k","count","ways"]:List Str).Nodup by decide +kernel) ⟨rfl,(Qa rfl),(Qt rfl)⟩ ⟨rfl,(Qa rfl),(Qt rfl)⟩ rfl)) (λ _ _ _ _=>Ja1 (Jt Jga (pv 1) Je (Jw _))) (λ _ _ _ _=>(Jm (Wv (K':=K) rfl) (Jm (Wv (K':=K) rfl) (pv 2) (pv 0) (λ _ _=>rfl)) Je (λ _ _=>rfl))) (λ _ _ _ _=>(pv 0)))
  (@Jb _ _ _ _ _ (Js (i:=4) Zr.nd rfl (Qa rfl) (J7 (Jsv rfl) rfl T.b_min boot_min (Jc (pv 3) Jd)))
  (@Jb _ _ _ _ _ (Js (i:=5) Zr.nd rfl (Qa rfl) Jmb)
  (@Jb _ _ _ _ _ (@Vx _ _ 6 _ _ _ _ Zr.nd rfl (Qa rfl) (Yb Jo) rfl (Qa rfl))
  (@Jb _ _ _ _ _ (Jc7 Xp (Jtf (Jiw (Z3 hr) (pv 4) (pv 5)))
  (@Jb _ _ _ _ _ (B0 (Z3 hr) (pv 5) (pv 4) (J7 Zn rfl T.b_len J5t (Jc (pv 6) Jd)) rfl)
  (@Jb _ _ _ _ _ (Vt (Jam Ue U3 U4 Zi (pv 6) (Y9 (Wg (Z3 hr) (pv 3) (pv 4) (λ _ _=>rfl)) Jd)))
  (@Jg _ _ _ (Js (i:=4) Zr.nd rfl (Qa rfl) (Jm Jn (Jm Jn (pv 2) (Wg (Z3 hr) (pv 3) (pv 4) (λ _ _=>rfl)) (λ _ _=>rfl)) Je (λ _ _=>rfl)))))))
  (@Jg _ _ _ (@Jr _ _ _ _ (Wl Bz (pv 6) (Z2 (Wg (Z3 hr) (pv 5) (pv 4) (λ _ _=>rfl))) Vu))))))))),Jpa h ?_⟩
 rintro as n P ⟨R,U,ws,cs,rfl,ok,ro,⟨i0,hi0,hp0⟩,q⟩
 have hs:sizeLine=16777216:=Ycl
 have r0:=ok.r0
 have r1:=ok.r1
 have wz:=ok.len
 have hl:=ro.len
 refine ⟨rfl,_,rfl,_,.refl,?_⟩
 refine ⟨_,_,rfl,rfl,⟨rfl,by rw [Jcy,Qb,Xi];omega⟩,?_⟩
 refine Jhu (f:=Jln ws cs) (Jja (cs.map .int)) 0 (λ j x Q' hx hq=>?_) ?_
 . rw [Jcy] at hx
   by_cases hj:j<cs.length
   . rw [Jdx hj] at hx
     injection hx with hx
     subst hx
     rw [Nat.zero_add] at hq
     unfold Jln at hq
     refine ⟨rfl,rfl,?_⟩
     refine Ze (λ c=>?_) (λ c=>?_)
     . rw [if_pos (of_decide_eq_true c)] at hq
       exact ⟨_,Vb (Xo j) (by omega),_,rfl,hq⟩
     . rw [if_neg (of_decide_eq_false c)] at hq
       exact hq
   . rw [Jcb hj] at hx
     cases hx
 rw [Nat.zero_add,Jcy,Qb,Xi,hl]
 refine ⟨_,.refl,?_⟩
 obtain ⟨ns,e1,hns⟩:=Jsw (f:=Jln ws cs) (m:=ws.length)
 refine ⟨ns,e1,λ z=>?_,λ r hr _=>?_⟩
 . obtain ⟨d,hd⟩:=Jqz (ws:=ws) hi0 hp0
   rw [z] at e1
   rw [J6q.mp e1] at hd
   cases hd
 refine ⟨_,.refl,?_⟩
 refine ⟨_,.refl,?_⟩
 refine ⟨Q9 _,?_⟩
 refine ⟨_,.refl,?_⟩
 refine ⟨λ m env n'=>n'=n/\∃ (ks:List Int) (r':Int) (pl:List (Key×Yce)),env=[.d (Jq R U ws),.d (.list (cs.map .int)),.d (.tuple (ws.map Zx)),.dct (Wu (Jln ws cs) ws.length),.d (.int r'),.dct pl,.own (ks.map .int)]/\Pth ws r ks r'/\(ks.map λ k=>(Ja ws k).a).Nodup/\(∀ k∈ks,0<cs.getD k.toNat 0)/\Jd3 (ks.map λ k=>(Ja ws k).a) pl/\pl.length=ks.length/\(∃ d,Vd (Wu (Jln ws cs) ws.length) (Qi r')=some d)/\m=R.toNat-ks.length,⟨_,rfl,[],r,[],rfl,rfl,.nil,(λ k hk=>by cases hk),Jpo,rfl,hns r hr,rfl⟩,?_⟩
 rintro m env _ ⟨rfl,ks,r',pl,rfl,pth,nd,pos,pok,hpl,⟨d,hd⟩,rfl⟩
 obtain ⟨i,hi,rfl,hpi,hai⟩:=Jv8 hd
 have hrs:∀ x∈ks.map (λ k=>(Ja ws k).a),0<=x/\x<R:=λ x hx=>by
  obtain ⟨k,hk,rfl⟩:=Ql.mp hx
  obtain ⟨k0,k1⟩:=pth.inW k hk
  have wok:=ok.ways _ (Yd k0 k1)
  exact ⟨wok.a0,wok.a1⟩
 have hle:=Jaw nd hrs
 rw [Qb] at hle
 refine Ze (λ c=>?_) (λ c=>?_)
 . have c1:(Vd pl (Qi r')).isSome=false:=by simpa using c
   have hnr:r'∉ks.map λ k=>(Ja ws k).a:=λ z=>by
    rw [pok r',if_pos z] at c1
    cases c1
   have nd2:((ks++[(i:Int)]).map λ k=>(Ja ws k).a).Nodup:=by
    rw [Qu,J5p,hai]
    exact J6o.mpr ⟨nd,Xm.mpr ⟨by simp,.nil⟩,λ a ha b hb e=>hnr (by rw [<- Qm.mp hb,<- e];exact ha)⟩
   have pth2:=Jv9 pth ⟨Xo i,by omega⟩ hai
   have hrs2:∀ x∈(ks++[(i:Int)]).map (λ k=>(Ja ws k).a),0<=x/\x<R:=λ x hx=>by
    obtain ⟨k,hk,rfl⟩:=Ql.mp hx
    obtain ⟨k0,k1⟩:=pth2.inW k hk
    have wok:=ok.ways _ (Yd k0 k1)
    exact ⟨wok.a0,wok.a1⟩
   have hle2:=Jaw nd2 hrs2
   rw [Qb,Qw,Xq] at hle2
   refine ⟨by omega,_,.refl,_,hd,by rw [Qb];omega,_,.refl,_,hd,_,Vb (Xo i) (by omega),_,rfl,R.toNat-(ks.length+1),by omega,rfl,ks++[(i:Int)],_,Jcz pl (Qi r') (.int (((ks.map Qo).length:Nat):Int)),by rw [Qu];rfl,pth2,nd2,?_,?_,?_,?_,?_⟩
   . intro k hk
     rcases Qz.mp hk with hk | hk
     . exact pos k hk
     . rw [Qm.mp hk,Xb]
       exact hpi
   . have:=Jnh pok hnr
     rw [Qb] at this ⊢
     rw [Qu,J5p,hai]
     exact this
   . rw [Jyc,hpl,Qw];rfl
     cases hv:Vd pl (Qi r') with
     | none=>rfl
     | some d=>rw [hv] at c1;cases c1
   . obtain ⟨j,hj,hpj,haj⟩:=Jqy ok ro hi hpi
     obtain ⟨d,hd⟩:=Jqz (ws:=ws) hj hpj
     exact ⟨d,by rw [<- haj];exact hd⟩
   . rw [Qw];rfl
 . have c1:(Vd pl (Qi r')).isSome=true:=by simpa using c
   have hr':r'∈ks.map λ k=>(Ja ws k).a:=by
    by_cases z:r'∈ks.map λ k=>(Ja ws k).a
    . exact z
    . rw [pok r',if_neg z] at c1
      cases c1
   refine ⟨_,.refl,?_⟩
   have ev:Vd pl (Qi r')=some (.int (((ks.map λ k=>(Ja ws k).a).idxOf r':Nat):Int)):=by rw [pok r',if_pos hr']
   refine ⟨_,ev,?_⟩
   show P _ _
   rw [Jb8,<- J56]
   exact q _ _ (Jye pth rfl nd pos hr')
theorem W4:FnScope ["book","counts","left","turns","walk","many","k"] ["book","counts"] (Jf Ja9):=⟨rfl,rfl,rfl,by decide +kernel,rfl,by decide +kernel,by decide +kernel⟩
theorem Joa (T:Txt mg) (D:Def K mg "turns_of" Ja9 ["book","counts"]) (Gv:Cal P w K mg base "short_turn" 1 ["book","counts"] (Jck Jf2)):Cal P w K mg base "turns_of" 2 ["book","counts"] (Jp Jlo):=by
 refine D.cal λ f fd F=>F.ok W4 (Ye ?_) (λ cdv A outer s H vs Q E hr h=>?_)
 . rintro as n P ⟨R,U,ws,cs,rfl,_⟩
   rfl
 refine ⟨_,(@Jb _ _ _ _ _ (Js (i:=2) W4.nd rfl (Qt rfl) (Yf Jda rfl T.b_list boot_list (Jc (pv 1) Jd)))
  (@Jb _ _ _ _ _ (@Vx _ _ 3 _ _ _ _ W4.nd rfl (Qa rfl) (Yb Jo) rfl (Qa rfl))
  (@Jb _ _ _ _ _ (Jc7 Xp (Bk (J7 (Ji4 rfl) rfl T.b_any boot_any (Jc (pv 2) Jd)))
  (@Jb _ _ _ _ _ (Js (i:=4) W4.nd rfl (Qa rfl) (Yg Gv (hr.mono (by decide)) rfl (Jc (pv 0) (Jc (pv 2) Jd))))
  (@Jb _ _ _ _ _ (Js (i:=5) W4.nd rfl (Qa rfl) (J7 (Ji1 rfl) rfl T.b_min boot_min (Y2 (Ym (sc:=(Jf Ja9)) (N:=["book","counts","left","turns","walk","many","k"]) (N':=["k","left"]) (k:=1) (idx:=[2]) rfl (by exact ⟨rfl,by decide +kernel,by decide +kernel,by decide +kernel,by decide +kernel,by decide +kernel,rfl,rfl⟩) rfl rfl (Wf (pv 4)) (λ _ _ _ _=>(Ju (i:=0) (show (["k","left"]:List Str).Nodup by decide +kernel) rfl (Qa rfl) (Qt rfl))) (λ _ _ _ _=>Yl) (λ _ _ _ _=>(Jm (Jbt (K':=K) rfl) (pv 1) (pv 0) (λ _ _=>rfl)))) Jd)))
  (@Jb _ _ _ _ _ (Z1 Xp rfl (Wf (pv 4)) (Ju (i:=6) W4.nd rfl (Qa rfl) (Qa rfl))
  (@Jg _ _ _ (Jj2 (pv 2) (pv 6) Jgu (pv 5) Jtm Jal)))
  (@Jg _ _ _ (Vt (Jam Ue U3 U4 Zi (pv 3) (Bo (@PEs.out _ _ _ (Ys (Jy (Jx (pv 4)) (Jy (Jx (pv 5)) Jo)))) Jd))))))))
  (@Jg _ _ _ (@Jr _ _ _ _ (pv 3)))))),J6 h ?_⟩
 rintro as n P ⟨R,U,ws,cs,rfl,ok,ro,q⟩
 have hs:sizeLine=16777216:=Ycl
 have wz:=ok.len
 have hl:=ro.len
 refine ⟨rfl,?_⟩
 refine ⟨_,.refl,Q9 _,_,.refl,?_⟩
 refine ⟨λ m env n'=>n'=n/\∃ (ls:List Int) (ts:List (List Int×Int)) (x4 x5 x6:Vl),env=[.d (Jq R U ws),.d (.tuple (cs.map .int)),.own (ls.map .int),.own (ts.map Wk),x4,x5,x6]/\RoundOk R ws ls/\TurnsOk ws cs ls ts/\m=pcI ls,⟨_,rfl,cs,[],_,_,_,rfl,ro,Jsy hl,rfl⟩,?_⟩
 rintro m env _ ⟨rfl,ls,ts,x4,x5,x6,rfl,rl,tk,rfl⟩
 refine ⟨ls,rfl,Ze (λ c=>?_) (λ c=>?_)⟩
 . obtain ⟨x,hx,hx0⟩:=J58.mp c
   obtain ⟨i,hi,rfl⟩:=Uz.mp hx
   refine ⟨R,U,ws,ls,rfl,ok,rl,⟨i,by rw [<- rl.len];exact hi,?_⟩,λ a ks sh=>?_⟩
   . have:=of_decide_eq_true hx0
     have:=rl.nn _ hx
     rw [Ve hi]
     omega
   refine ⟨_,.fz 4 _ rfl .refl,?_⟩
   have inw:=sh.pth.inW
   have hk60:ks.length<=R.toNat:=by
    have:=Jaw (R:=R) sh.nd λ x hx=>by
     obtain ⟨k,hk,rfl⟩:=Ql.mp hx
     obtain ⟨k0,k1⟩:=inw k hk
     have wok:=ok.ways _ (Yd k0 k1)
     exact ⟨wok.a0,wok.a1⟩
    rw [Qb] at this
    exact this
   have r1:=ok.r1
   have ll:=rl.len
   refine ⟨⟨rfl,by rw [Qb];omega⟩,?_⟩
   refine Jbv (J5f ls) (λ x hx n K hK=>?_) ?_
   . obtain ⟨k,hk,rfl⟩:=Ql.mp hx
     obtain ⟨k0,k1⟩:=inw k hk
     exact Z6 ⟨_,Jnj k0 (by omega),hK⟩
   refine ⟨ks.map λ k=>ls.getD k.toNat 0,by rw [Q0,Q0];rfl,λ z=>sh.ne (J6q.mp z),λ m hm hle=>?_⟩
   have least:Least ls ks m:=by
    obtain ⟨k,hk,e⟩:=Ql.mp hm
    exact ⟨by rw [<- e];exact sh.pos k hk,λ j hj=>hle _ (Ql.mpr ⟨j,hj,rfl⟩),⟨k,hk,e⟩⟩
   refine ⟨_,.refl,?_⟩
   refine ⟨λ i env n'=>n'=_/\∃ x6:Vl,env=[.d (Jq R U ws),.d (.tuple (cs.map .int)),.own ((Wb ls (ks.take i) m).map .int),.own (ts.map Wk),.d (.list (ks.map .int)),.d (.int m),x6],⟨rfl,_,by rw [Ybw,Jni];rfl⟩,?_,?_⟩
   . rintro i x env _ hx ⟨rfl,x6,rfl⟩
     rw [Qs] at hx
     obtain ⟨k,hki,rfl⟩:=Uu.mp hx
     obtain ⟨k0,k1⟩:=inw k (Xa hki)
     refine ⟨(Wb ls (ks.take i) m).getD k.toNat 0,k0,Jca (by rw [Zy];omega),rfl,.d (.int k),?_⟩
     show [_,_,Vl.own (((Wb ls (ks.take i) m).map Qo).set k.toNat (.int ((Wb ls (ks.take i) m).getD k.toNat 0-m))),_,_,_,_]=_
     rw [<- J6a,Jjr k0 (by omega),<- Ji2 hki]
   . rintro env _ ⟨rfl,x6,rfl⟩
     rw [Qb,J5u]
     refine ⟨_,.refl,?_⟩
     have pl:=Jq0 rl.len sh least
     have tn:=Jpp rl.len tk sh least
     have tl:=tk.len
     refine ⟨Yz,by rw [Qb];omega,_,pl,rfl,_,ts++[(ks,m)],.d (.list (ks.map .int)),.d (.int m),x6,by rw [Qu];rfl,Jyf rl sh least,tn,rfl⟩
 . refine ⟨_,.refl,?_⟩
   show P _ _
   refine q ls ts rl.len (λ i=>?_) tk
   by_cases hi:i<ls.length
   . rw [Ve hi]
     by_cases e:ls[i]=0
     . exact e
     . rw [J58.mpr ⟨ls[i],Uh hi,decide_eq_true e⟩] at c
       cases c
   . rw [Q3,Xt (by omega)];rfl
theorem Zu:FnScope ["book","row","rooms","turn","walk","many","starts","common","first","place","parts","begins"] ["book","row","rooms","turn"] (Jf Vq):=⟨rfl,rfl,rfl,by decide +kernel,rfl,by decide +kernel,by decide +kernel⟩
theorem Job (T:Txt mg) (D:Def K mg "lay_turn" Vq ["book","row","rooms","turn"]):Cal P w K mg base "lay_turn" 1 ["book","row","rooms","turn"] (Jcc Jwe):=by
 refine D.cal λ f fd F=>F.ok Zu Jyh (λ cdv A outer s H vs Q E hr h=>?_)
 refine ⟨_,(@Jb _ _ _ _ _ (Zq (pv 3) (Yv (K':=K) (i:=4) (j:=5) rfl Zu.nd ⟨rfl,(Qa rfl),(Qa rfl)⟩ ⟨rfl,(Qa rfl),(Qa rfl)⟩ rfl))
  (@Jb _ _ _ _ _ (Ja2 (i:=6) (sc:=(Jf Vq)) (N:=["book","row","rooms","turn","walk","many","starts","common","first","place","parts","begins"]) (N':=["k","book"]) (k:=1) (idx:=[0]) rfl Zu.nd rfl rfl (by exact ⟨rfl,by decide +kernel,by decide +kernel,by decide +kernel,by decide +kernel,by decide +kernel,rfl,rfl⟩) rfl rfl (Wf (pv 4)) (λ _ _ _ _=>(Ju (i:=0) (show (["k","book"]:List Str).Nodup by decide +kernel) rfl (Qa rfl) (Qt rfl))) (λ _ _ _ _=>Yl) (λ _ _ _ _=>(Jm (Wv (K':=K) rfl) (Jm (Wv (K':=K) rfl) (Jm (Wv (K':=K) rfl) (pv 1) Je (λ _ _=>rfl)) (pv 0) (λ _ _=>rfl)) Je (λ _ _=>rfl))))
  (@Jb _ _ _ _ _ (Ja2 (i:=7) (sc:=(Jf Vq)) (N:=["book","row","rooms","turn","walk","many","starts","common","first","place","parts","begins"]) (N':=["at","room","rooms"]) (k:=2) (idx:=[2]) rfl Zu.nd rfl rfl (by exact ⟨rfl,by decide +kernel,by decide +kernel,by decide +kernel,by decide +kernel,by decide +kernel,rfl,rfl⟩) rfl rfl (Jfr rfl T.b_enumerate (Jc (pv 6) Jd)) (λ _ _ _ _=>(Yv (K':=K) (i:=0) (j:=1) rfl (show (["at","room","rooms"]:List Str).Nodup by decide +kernel) ⟨rfl,(Qa rfl),(Qt rfl)⟩ ⟨rfl,(Qa rfl),(Qt rfl)⟩ rfl)) (λ _ _ _ _=>Ja1 (Jt (Jhs (K':=K) rfl) (pv 1) (pv 2) (by with_unfolding_all rfl))) (λ _ _ _ _=>(pv 0)))
  (@Jb _ _ _ _ _ (Yw (Jec (Jvf (pv 7) (λ _=>rfl))) (@Jg _ _ _ (@Jr _ _ _ _ Bd)) J0)
  (@Jb _ _ _ _ _ (Js (i:=8) Zu.nd rfl (Qa rfl) (Jm Yq (pv 7) Je (λ _ _=>rfl)))
  (@Jb _ _ _ _ _ (Js (i:=9) Zu.nd rfl (Qa rfl) (Jam Ue PySem.F.slot_list_index PySem.F.type_list_index Js1 (pv 2) (Y9 (Jm Yq (pv 6) (pv 8) (λ _ _=>rfl)) Jd)))
  (@Jb _ _ _ _ _ (Ja2 (i:=10) (sc:=(Jf Vq)) (N:=["book","row","rooms","turn","walk","many","starts","common","first","place","parts","begins"]) (N':=["k"]) (k:=1) (idx:=[]) rfl Zu.nd rfl rfl (by exact ⟨rfl,by decide +kernel,by decide +kernel,by decide +kernel,by decide +kernel,by decide +kernel,rfl,rfl⟩) rfl rfl (Wf (J3 Jj7 (Wl Bz (pv 4) (Z2 (pv 8)) Vu) (Wl Bz (pv 4) Vu (Z2 (pv 8))))) (λ _ _ _ _=>(Ju (i:=0) (show (["k"]:List Str).Nodup by decide +kernel) rfl (Qa rfl) (Qt rfl))) (λ _ _ _ _=>Yl) (λ _ _ _ _=>(@PEs.out _ _ _ (Ys (Jz Jfq (Jy (Jx (pv 0)) Jo))))))
  (@Jb _ _ _ _ _ (Js (i:=11) Zu.nd rfl (Qa rfl) (J3 Jj7 (Wl Bz (pv 6) (Z2 (pv 8)) Vu) (Wl Bz (pv 6) Vu (Z2 (pv 8)))))
  (@Jb _ _ _ _ _ (Yw (Jt Jga (pv 5) Je (Jw _)) (@Jb _ _ _ _ _ (Vt (Jam Ue U3 U4 Zi (pv 10) (Bo (@PEs.out _ _ _ (Ys (Jz Jfq (Jen (Jx (J3 Jcp (pv 5) Je)) (Jry (Ys (Jz Jfq (W7 (Jx (Yf Jv rfl T.b_tuple Ycr (Jc (pv 10) Jd))) Jo))) Jo))))) Jd)))
  (@Jg _ _ _ (Vt (Jam Ue U3 U4 Zi (pv 11) (Y9 (Jm Yq (pv 6) (pv 8) (λ _ _=>rfl)) Jd))))) J0)
  (@Jb _ _ _ _ _ (Zq (pv 10) (Jwa (pv 1) (Z2 (pv 9)) (Z2 (pv 9)) (λ v=>Bn _ _ _ _ _)))
  (@Jb _ _ _ _ _ (Zq (pv 11) (Jwa (pv 2) (Z2 (pv 9)) (Z2 (pv 9)) (λ v=>Bn _ _ _ _ _)))
  (@Jg _ _ _ (@Jr _ _ _ _ Bd))))))))))))),Jwc h ?_⟩
 rintro bk row rooms tn P D C a1 a2 σ H ex ⟨R,U,ws,cs,rs,ks,m,a,rfl,rfl,rfl,ok,sh,hm,hn,hrl,hz,q1,q2⟩ hne A hret hlay hS hH0
 have hs:sizeLine=16777216:=Ycl
 have O:∀ M:List Vl->Nat->Prop,EndsOk C { nx:=λ _ _=>False,rt:=λ d n=>d = .bool false/\P none,rtn:=λ _ _=>False } D:=λ M=>⟨λ _ h=>h.elim,λ _ h=>h.elim,λ _ h=>h.elim,λ {d n v H} R h=>by obtain ⟨rfl,hp⟩:=h;exact hret R hp,λ _ h=>h.elim,λ _ _ h=>h.elim,λ _ h=>h.elim⟩
 have inw:=sh.pth.inW
 have wok:∀ k∈ks,WayOk R U (Ja ws k):=λ k hk=>ok.ways _ (Yd (inw k hk).1 (inw k hk).2)
 have hkl:ks.length<=12:=by
  have:=Jaw (R:=R) sh.nd λ x hx=>by
   obtain ⟨k,hk,rfl⟩:=Ql.mp hx
   exact ⟨(wok k hk).a0,(wok k hk).a1⟩
  rw [Qb] at this
  have:=ok.r1
  omega
 refine Vg (G:={ nx:=λ env n=>n=0/\env=[.d (Jq R U ws),.pin (.ref a1) (.list row),.pin (.ref a2) (.list (rs.map .int)),.d (Wk (ks,m)),.d (.list (ks.map .int)),.d (.int m),.jnk,.jnk,.jnk,.jnk,.jnk,.jnk],rt:=λ d n=>d = .bool false/\P none,rtn:=λ _ _=>False }) (O λ _ _=>False) A ⟨rfl,rfl,rfl,rfl⟩ ?_
 rintro ex env σ H _ A ⟨rfl,rfl⟩
 refine Vg (G:={ nx:=λ env n=>n=0/\env=[.d (Jq R U ws),.pin (.ref a1) (.list row),.pin (.ref a2) (.list (rs.map .int)),.d (Wk (ks,m)),.d (.list (ks.map .int)),.d (.int m),.own ((ks.map λ k=>(Ja ws k).a).map .int),.jnk,.jnk,.jnk,.jnk,.jnk],rt:=λ d n=>d = .bool false/\P none,rtn:=λ _ _=>False }) (O λ _ _=>False) A ?_ ?_
 . refine ⟨⟨rfl,by rw [Qb];omega⟩,?_⟩
   refine Jbv (λ d=>match d with | .int k=>.int (Ja ws k).a | d=>d) (λ x hx n K hK=>?_) ?_
   . obtain ⟨k,hk,rfl⟩:=Ql.mp hx
     obtain ⟨k0,k1⟩:=inw k hk
     exact Z6 ⟨_,rfl,_,Vb k0 k1,_,rfl,hK⟩
   . refine ⟨rfl,?_⟩
     rw [Q0,Q0]
     rfl
 rintro ex env σ H _ A ⟨rfl,rfl⟩
 obtain ⟨ex,A⟩:=A.fz (.fz 6 _ rfl .refl)
 refine Vg (G:={ nx:=λ env n=>n=0/\env=[.d (Jq R U ws),.pin (.ref a1) (.list row),.pin (.ref a2) (.list (rs.map .int)),.d (Wk (ks,m)),.d (.list (ks.map .int)),.d (.int m),.d (.list ((ks.map λ k=>(Ja ws k).a).map .int)),.own (((Qf ks.length).filter λ j=>decide ((Ja ws (ks.getD j 0)).a∈rs)).map λ j=>Qo ((j:Nat):Int)),.jnk,.jnk,.jnk,.jnk],rt:=λ d n=>d = .bool false/\P none,rtn:=λ _ _=>False }) (O λ _ _=>False) A ?_ ?_
 . refine ⟨_,_,rfl,rfl,⟨rfl,by rw [Jcy,Qb,Xi,Qb];omega⟩,?_⟩
   rw [Jcy,Qb]
   refine Vc (λ j=>decide ((Ja ws (ks.getD j 0)).a∈rs)) (λ j=>.int (j:Int)) (λ j hj n K h1 h2=>⟨rfl,rfl,⟨rfl,Jdy rs,?_⟩⟩) ⟨rfl,rfl⟩
   have e:inD (.int ((ks.map λ k=>(Ja ws k).a).getD j 0)) (rs.map .int)=decide ((Ja ws (ks.getD j 0)).a∈rs):=by rw [Jqv,Jcd (by omega)]
   show if inD (.int ((ks.map λ k=>(Ja ws k).a).getD j 0)) (rs.map .int)=true then _ else _
   rw [e]
   exact Ze h1 h2
 rintro ex env σ H _ A ⟨rfl,rfl⟩
 refine Vg (G:={ nx:=λ env n=>n=0/\env=[.d (Jq R U ws),.pin (.ref a1) (.list row),.pin (.ref a2) (.list (rs.map .int)),.d (Wk (ks,m)),.d (.list (ks.map .int)),.d (.int m),.d (.list ((ks.map λ k=>(Ja ws k).a).map .int)),.own (((Qf ks.length).filter λ j=>decide ((Ja ws (ks.getD j 0)).a∈rs)).map λ j=>Qo ((j:Nat):Int)),.jnk,.jnk,.jnk,.jnk]/\((Qf ks.length).filter λ j=>decide ((Ja ws (ks.getD j 0)).a∈rs))≠[],rt:=λ d n=>d = .bool false/\P none,rtn:=λ _ _=>False }) (O λ _ _=>False) A ?_ ?_
 . cases e:((Qf ks.length).filter λ j=>decide ((Ja ws (ks.getD j 0)).a∈rs)) with
   | nil=>
    refine Z6 ⟨rfl,q1 λ k hk hr=>?_⟩
    obtain ⟨i,hi,rfl⟩:=Uz.mp hk
    have:i∈((Qf ks.length).filter λ j=>decide ((Ja ws (ks.getD j 0)).a∈rs)):=Q6.mpr ⟨Xj.mpr hi,decide_eq_true (by rw [Ve hi];exact hr)⟩
    rw [e] at this
    cases this
   | cons j js=>exact Wm ⟨rfl,rfl,by simp⟩
 rintro ex env σ H _ A ⟨rfl,rfl,hcn⟩
 obtain ⟨j,js,ej⟩:∃ j js,((Qf ks.length).filter λ j=>decide ((Ja ws (ks.getD j 0)).a∈rs))=j::js:=by
  cases e:((Qf ks.length).filter λ j=>decide ((Ja ws (ks.getD j 0)).a∈rs)) with
  | nil=>exact absurd e hcn
  | cons j js=>exact ⟨j,js,rfl⟩
 have hj:j<ks.length/\(Ja ws (ks.getD j 0)).a∈rs:=by
  have:j∈((Qf ks.length).filter λ j=>decide ((Ja ws (ks.getD j 0)).a∈rs)):=by rw [ej];exact Qd
  obtain ⟨h1,h2⟩:=Q6.mp this
  exact ⟨Xj.mp h1,of_decide_eq_true h2⟩
 rw [ej] at A
 refine Vg (G:={ nx:=λ env n=>n=0/\env=[.d (Jq R U ws),.pin (.ref a1) (.list row),.pin (.ref a2) (.list (rs.map .int)),.d (Wk (ks,m)),.d (.list (ks.map .int)),.d (.int m),.d (.list ((ks.map λ k=>(Ja ws k).a).map .int)),.own ((j::js).map λ j=>Qo ((j:Nat):Int)),.d (.int j),.jnk,.jnk,.jnk],rt:=λ d n=>d = .bool false/\P none,rtn:=λ _ _=>False }) (O λ _ _=>False) A ?_ ?_
 . exact ⟨_,by unfold atI;rw [Vm (Uo _) (by rw [Qb,Xv];omega)];rfl,rfl,rfl⟩
 rintro ex env σ H _ A ⟨rfl,rfl⟩
 have hjk:ks[j]? = some (ks.getD j 0):=by rw [Ve hj.1];exact Qx hj.1
 refine Vg (G:={ nx:=λ env n=>n=0/\env=[.d (Jq R U ws),.pin (.ref a1) (.list row),.pin (.ref a2) (.list (rs.map .int)),.d (Wk (ks,m)),.d (.list (ks.map .int)),.d (.int m),.d (.list ((ks.map λ k=>(Ja ws k).a).map .int)),.own ((j::js).map λ j=>Qo ((j:Nat):Int)),.d (.int j),.d (.int ((rs.idxOf (Ja ws (ks.getD j 0)).a:Nat):Int)),.jnk,.jnk],rt:=λ d n=>d = .bool false/\P none,rtn:=λ _ _=>False }) (O λ _ _=>False) A ?_ ?_
 . refine ⟨rs,rfl,_,Jnj (Xo j) (by rw [Qb];omega),rs.idxOf (Ja ws (ks.getD j 0)).a,?_,?_,rfl,rfl⟩
   . rw [Xb,Jcd hj.1]
     exact Jf3 hj.2
   . intro m hm
     rw [Xb,Jcd hj.1]
     exact Jwd hm
 rintro ex env σ H _ A ⟨rfl,rfl⟩
 refine Vg (G:={ nx:=λ env n=>n=0/\env=[.d (Jq R U ws),.pin (.ref a1) (.list row),.pin (.ref a2) (.list (rs.map .int)),.d (Wk (ks,m)),.d (.list (ks.map .int)),.d (.int m),.d (.list ((ks.map λ k=>(Ja ws k).a).map .int)),.own ((j::js).map λ j=>Qo ((j:Nat):Int)),.d (.int j),.d (.int ((rs.idxOf (Ja ws (ks.getD j 0)).a:Nat):Int)),.own ((Zb ks j).map Jcl),.jnk],rt:=λ d n=>d = .bool false/\P none,rtn:=λ _ _=>False }) (O λ _ _=>False) A ?_ ?_
 . refine ⟨by rw [Jno];omega,⟨rfl,by rw [Jf5,Qb,Ja5 (α:=Int)];omega⟩,?_⟩
   rw [Jf5]
   refine Jbv (λ d=>.tuple [.str "way",d]) (λ x hx n K hK=>Z6 ⟨Yz,hK⟩) ?_
   rw [Jyj]
   exact ⟨rfl,rfl⟩
 rintro ex env σ H _ A ⟨rfl,rfl⟩
 refine Vg (G:={ nx:=λ env n=>n=0/\env=[.d (Jq R U ws),.pin (.ref a1) (.list row),.pin (.ref a2) (.list (rs.map .int)),.d (Wk (ks,m)),.d (.list (ks.map .int)),.d (.int m),.d (.list ((ks.map λ k=>(Ja ws k).a).map .int)),.own ((j::js).map λ j=>Qo ((j:Nat):Int)),.d (.int j),.d (.int ((rs.idxOf (Ja ws (ks.getD j 0)).a:Nat):Int)),.own ((Zb ks j).map Jcl),.own (((Zb ks j).map λ k=>(Ja ws k).a).map .int)],rt:=λ d n=>d = .bool false/\P none,rtn:=λ _ _=>False }) (O λ _ _=>False) A ?_ ?_
 . refine ⟨by rw [Jno,Qb];omega,?_⟩
   rw [Jf5,Jyk]
   exact ⟨rfl,rfl⟩
 rintro ex env σ H _ A ⟨rfl,rfl⟩
 refine Vg (G:={ nx:=λ env n=>n=0/\env=[.d (Jq R U ws),.pin (.ref a1) (.list row),.pin (.ref a2) (.list (rs.map .int)),.d (Wk (ks,m)),.d (.list (ks.map .int)),.d (.int m),.d (.list ((ks.map λ k=>(Ja ws k).a).map .int)),.own ((j::js).map λ j=>Qo ((j:Nat):Int)),.d (.int j),.d (.int ((rs.idxOf (Ja ws (ks.getD j 0)).a:Nat):Int)),.own (Z5 (Zb ks j) m),.own ((Zw ws (Zb ks j) m (Ja ws (ks.getD j 0)).a).map .int)],rt:=λ d n=>d = .bool false/\P none,rtn:=λ _ _=>False }) (O λ _ _=>False) A ?_ ?_
 . refine Ze (λ c=>?_) (λ c=>?_)
   . have c1:1<m:=of_decide_eq_true c
     refine ⟨Yz,Vp,by rw [Qb,Ja5 (α:=Int)];omega,_,.refl,?_⟩
     refine ⟨_,Jnj (Xo j) (by rw [Qb];omega),by rw [Qb,Qb,Ja5 (α:=Int)];omega,rfl,?_⟩
     unfold Z5 Zw
     rw [if_pos c1,if_pos c1,Qu,Xb,Jcd hj.1]
     rfl
   . have c1:¬ 1<m:=of_decide_eq_false c
     refine ⟨rfl,?_⟩
     unfold Z5 Zw
     rw [if_neg c1,if_neg c1,X5,X5]
 rintro ex env σ H _ A ⟨rfl,rfl⟩
 have hix:rs.idxOf (Ja ws (ks.getD j 0)).a<rs.length:=J8c hj.2
 have pl:=Jju (Zb ks j) m
 have rl:=Js2 ws (Zb ks j) m (Ja ws (ks.getD j 0)).a
 rw [Ja5 (α:=Int)] at pl rl
 refine Jwb A rfl rfl rfl rfl rfl (Xo _) ?_ ?_ hne ?_ ?_ hn (Jnp _) (Jjt _ _) (Jnp _) ?_
 . omega
 . rw [Qb];omega
 . omega
 . rw [Qb,Qb];omega
 . intro vs us H' g1 g2 g3 g4 k2
   have kp0:=A.kp
   rw [hS,hH0] at kp0
   rw [Xb] at g3 g4
   rw [Jyn] at g4
   exact hlay kp0 (q2 j (ks.getD j 0) hjk hj.2) vs us H' g1 g2 g3 g4 k2
theorem Wy:FnScope ["book","counts","room","row","rooms","pending","later","turn"] ["book","counts","room"] (Jf Jce):=⟨rfl,rfl,rfl,by decide +kernel,rfl,by decide +kernel,by decide +kernel⟩
theorem Jpx (T:Txt mg) (D:Def K mg "walk_of" Jce ["book","counts","room"]) (Gc:Cal P w K mg base "parts_of" 3 ["book","counts"] (Jp Jdw)) (Gi:Cal P w K mg base "is_whole" 1 ["thing"] (Jp Jk1)) (Gw:Cal P w K mg base "turns_of" 2 ["book","counts"] (Jp Jlo)) (Gx:Cal P w K mg base "lay_turn" 1 ["book","row","rooms","turn"] (Jcc Jwe))  :Cal P w K mg base "walk_of" 4 ["book","counts","room"] (Jp Jlr):=by
 refine D.cal λ f fd F=>F.ok Wy (Ye ?_) (λ cdv A outer s H vs Q E hr h=>?_)
 . rintro as n P ⟨R,U,ws,cs,room,rfl,_⟩
   rfl
 refine ⟨_,(@Jb _ _ _ _ _ (Yw (Jt Jp1 (J7 Zn rfl T.b_len J5t (Bg (Yg Gc (hr.mono (by decide)) rfl (Jc (pv 0) (Jc (pv 1) Jd))) Jd)) Je (Jw _)) Jaj J0)
  (@Jb _ _ _ _ _ (Yw (PW.pt (Jil (Jec (Bk (Yg Gi (hr.mono (by decide)) rfl (Jc (pv 2) Jd)))) (Jeb (Jt Jj5 (pv 2) (Ym (sc:=(Jf Jce)) (N:=["book","counts","room","row","rooms","pending","later","turn"]) (N':=["way","count"]) (k:=2) (idx:=[]) rfl (by exact ⟨rfl,by decide +kernel,by decide +kernel,by decide +kernel,by decide +kernel,by decide +kernel,rfl,rfl⟩) rfl rfl (Ja3 rfl T.b_zip (Y9 (Jm Jn (pv 0) Je (λ _ _=>rfl)) (Jc (pv 1) Jd))) (λ _ _ _ _=>(Yv (K':=K) (i:=0) (j:=1) rfl (show (["way","count"]:List Str).Nodup by decide +kernel) ⟨rfl,(Qa rfl),(Qt rfl)⟩ ⟨rfl,(Qa rfl),(Qt rfl)⟩ rfl)) (λ _ _ _ _=>Ja1 (Jt Jga (pv 1) Je (Jw _))) (λ _ _ _ _=>(Jm (Wv (K':=K) rfl) (pv 0) Je (λ _ _=>rfl)))) (by with_unfolding_all rfl))))) Jaj J0)
  (@Jb _ _ _ _ _ (@Vx _ _ 3 _ _ _ _ Wy.nd rfl (Qa rfl) (Yb Jo) rfl (Qa rfl))
  (@Jb _ _ _ _ _ (@Vx _ _ 4 _ _ _ _ Wy.nd rfl (Qa rfl) (Yb (Jy (Jx (pv 2)) Jo)) rfl (Qa rfl))
  (@Jb _ _ _ _ _ (Js (i:=5) Wy.nd rfl (Qa rfl) (Yg Gw (hr.mono (by decide)) rfl (Jc (pv 0) (Jc (pv 1) Jd))))
  (@Jb _ _ _ _ _ (Jc7 Xp (Jvf (pv 5) (λ _=>rfl))
  (@Jb _ _ _ _ _ (@Vx _ _ 6 _ _ _ _ Wy.nd rfl (Qa rfl) (Yb Jo) rfl (Qa rfl))
  (@Jb _ _ _ _ _ (Z1 Xp rfl (Wf (pv 5)) (Ju (i:=7) Wy.nd rfl (Qa rfl) (Qa rfl))
  (@Jg _ _ _ (Yw (Jec (Bk (Yg Gx (hr.mono (by decide)) rfl (Jc (pv 0) (Jc (pv 3) (Jc (pv 4) (Jc (pv 7) Jd))))))) (@Jg _ _ _ (Vt (Jam Ue U3 U4 Zi (pv 6) (Jc (pv 7) Jd)))) J0)))
  (@Jg _ _ _ (Js (i:=5) Wy.nd rfl (Qa rfl) (pv 6))))))
  (@Jg _ _ _ (@Jr _ _ _ _ (@PEs.out _ _ _ (Ys (Jz Jfq (W7 (Jx (Yf Jv rfl T.b_tuple Ycr (Jc (pv 3) Jd))) Jo)))))))))))),J6 h ?_⟩
 rintro as n P ⟨R,U,ws,cs,room,rfl,ok,ro,hpos,hbd,one,hrm0,q⟩
 have hs:sizeLine=16777216:=Ycl
 have wz:=ok.len
 have hl:=ro.len
 refine ⟨rfl,R,U,ws,cs,rfl,ok,hl,?_⟩
 refine Jvb (Ze (λ c=>?_) (λ c=>⟨_,.refl,?_⟩))
 . exfalso
   have c1:(!decide (((((Yo R.toNat ws (onW cs)).map λ r=>X7 (r.map .int)).length:Nat):Int)=1))=true:=c
   rw [Qb,one] at c1
   cases c1
 have h1:(Yo R.toNat ws (onW cs)).length=1:=by
  have c1:(!decide (((((Yo R.toNat ws (onW cs)).map λ r=>X7 (r.map .int)).length:Nat):Int)=1))=false:=c
  rw [Qb] at c1
  simp at c1
  omega
 refine ⟨room,rfl,?_⟩
 refine ⟨_,rfl,_,_,_,_,rfl,rfl,rfl,⟨rfl,by rw [Br,Qb];omega⟩,?_⟩
 rw [J14 hl]
 refine Vc (λ i=>decide (0<cs.getD i 0)) (λ i=>.int (Ja ws ((i:Nat):Int)).a) (λ i hi n K h1 h2=>⟨rfl,rfl,Ze (λ c=>⟨_,rfl,h1 c⟩) h2⟩) ?_
 have em:(((Qf ws.length).filter λ i=>decide (0<cs.getD i 0)).map λ i=>Qo (Ja ws ((i:Nat):Int)).a)=((onW cs).map λ k=>(Ja ws k).a).map .int:=by
  unfold onW
  rw [hl,Q0,Q0];rfl
 rw [em]
 refine ⟨rfl,Jdy _,Ze (λ c=>?_) (λ c=>⟨_,.refl,?_⟩)⟩
 . exfalso
   have c1:(!inD (.int room) (((onW cs).map λ k=>(Ja ws k).a).map .int))=true:=c
   rw [Jqv,decide_eq_true (Ql.mpr hrm0)] at c1
   cases c1
 have hrm:∃ k∈onW cs,(Ja ws k).a=room:=by
  have c1:(!inD (.int room) (((onW cs).map λ k=>(Ja ws k).a).map .int))=false:=c
  rw [Jqv] at c1
  simp at c1
  exact c1
 refine ⟨Q9 _,_,.refl,(by show 1<=sizeLine;omega),_,.refl,R,U,ws,cs,rfl,ok,ro,λ ls ts lz lt tk=>⟨_,.refl,?_⟩⟩
 have W0:WkT ws cs room [] [room] [] ts:=Jyu tk lt ⟨λ t ht=>tk.ok t ht,λ k hk=>Jnm hl tk lt hk,(λ t ht=>by cases ht),Qm.mpr rfl,Bv,rfl,Q9 _,by have:=tk.len;rw [J5l];omega⟩
 have hbt:∀ t∈ts,t.2<=10^100:=Jyv hl tk lt hbd
 refine ⟨λ m env n'=>n'=n/\∃ (row:List Yce) (rs:List Int) (dn pd:List (List Int×Int)) (x6 x7:Vl),env=[.d (Jq R U ws),.d (.tuple (cs.map .int)),.d (.int room),.own row,.own (rs.map .int),.d (.list (pd.map Wk)),x6,x7]/\WkT ws cs room row rs dn pd/\(∀ t∈pd,t.2<=10^100)/\m=pd.length,⟨_,rfl,[],[room],[],ts,_,_,rfl,W0,hbt,rfl⟩,?_⟩
 rintro m env _ ⟨rfl,row,rs,dn,pd,x6,x7,rfl,W,hpb,rfl⟩
 refine Ze (λ c=>?_) (λ c=>⟨_,.refl,Yz,?_⟩)
 rotate_left
 . have hpn:pd=[]:=by
    cases pd with
    | nil=>rfl
    | cons _ _=>cases c
   subst hpn
   obtain ⟨ps,rfl,rk⟩:=W.done hpos
   exact q ps rk
 have hpd:pd≠[]:=λ z=>by rw [z] at c;cases c
 obtain ⟨tm,htm,km,hkm,hkr⟩:=J4a (R:=R) (U:=U) ok hl h1 W.o.cover (λ t ht=>(W.o.okT t ht).1) W.o.hdn W.o.hr hrm hpd
 refine ⟨Q9 _,_,.refl,?_⟩
 refine ⟨λ i env n'=>n'=_/\∃ (row':List Yce) (rs':List Int) (dn' lt:List (List Int×Int)) (x7:Vl),env=[.d (Jq R U ws),.d (.tuple (cs.map .int)),.d (.int room),.own row',.own (rs'.map .int),.d (.list (pd.map Wk)),.own (lt.map Wk),x7]/\WkT ws cs room row' rs' dn' (lt++pd.drop i)/\(∀ t∈lt,t.2<=10^100)/\(∀ r∈rs,r∈rs')/\lt.length<=i/\(tm∈pd.take i->lt.length<i),⟨rfl,row,rs,dn,[],x7,rfl,W,(λ t ht=>by cases ht),λ r h=>h,Qn _,λ h=>by simp at h⟩,?_,?_⟩
 . rintro i x env _ hx ⟨rfl,row',rs',dn',lt,x7,rfl,W',hlb,hsub,hle,hlt⟩
   rw [Qs] at hx
   obtain ⟨t,hti,rfl⟩:=Uu.mp hx
   have hi:=(Qr.mp hti).1
   have het:pd[i]=t:=(Qr.mp hti).2
   have hdr:pd.drop i=t::pd.drop (i+1):=by rw [J73 hi,het]
   have htk:pd.take (i+1)=pd.take i++[t]:=by rw [J7w hi,het]
   rw [hdr] at W'
   obtain ⟨⟨a,sh⟩,hm⟩:=W'.o.okT t (by simp)
   have hsz:=W'.o.sz
   have hct:=W'.o.cnt
   have hln:=W'.o.len
   rw [Qw,Xv] at hct
   have htb:t.2<=10^100:=hpb t (Xa hti)
   refine ⟨by decide,R,U,ws,cs,rs',t.1,t.2,a,rfl,rfl,rfl,ok,sh,hm,W'.o.no,W'.o.len,by omega,λ hno=>?_,λ j k hk hr=>?_⟩
   . refine ⟨by rw [Qb];omega,rfl,row',rs',dn',lt++[t],_,by rw [Qu];rfl,?_,?_,hsub,?_,λ h=>?_⟩
     . rw [J5z];exact W'
     . intro u hu
       rcases Qz.mp hu with hu | hu
       . exact hlb u hu
       . rw [Qm.mp hu];exact htb
     . rw [Qw,Xq];omega
     . rw [Qw,Xq]
       rw [htk] at h
       rcases Qz.mp h with h | h
       . have:=hlt h;omega
       . have e:=Qm.mp h
         rw [e] at hkm
         exact absurd (hsub _ hkr) (hno km hkm)
   . have Wn:=W'.put ok htb hk hr
     have nsz:=Wn.o.sz
     have nln:=Wn.o.len
     have nct:=Wn.o.cnt
     refine ⟨by show J5i (Bh _ _ _)<=_;omega,by show J5i (List.map _ _)<=_;rw [Qb];omega,rfl,_,_,dn'++[t],lt,_,rfl,Wn,hlb,λ r h=>Jhz (hsub r h),by omega,λ _=>by omega⟩
 . rintro env _ ⟨rfl,row',rs',dn',lt,x7,rfl,W',hlb,hsub,hle,hlt⟩
   rw [Qb] at W' hle hlt
   rw [J74,X5] at W'
   rw [J5u] at hlt
   exact ⟨_,.fz 6 _ rfl .refl,lt.length,hlt htm,rfl,row',rs',dn',lt,_,_,rfl,W',hlb,rfl⟩
theorem V6:FnScope ["jar","book","most","walk","turn","some"] ["jar","book","most"] (Jf Jc4):=⟨rfl,rfl,rfl,by decide +kernel,rfl,by decide +kernel,by decide +kernel⟩
theorem Joc (T:Txt mg) (D:Def K mg "_law_walk" Jc4 ["jar","book","most"]) (Ga:Cal P w K mg base "_law_pick" 2 ["jar","many"] (Jp Jcw)) (Gp:Cal P w K mg base "_law_from" 1 ["book","room"] (Jck Jpc)):Cal P w K mg base "_law_walk" 3 ["jar","book","most"] (Jp Jld):=by
 refine D.cal λ f fd F=>F.ok V6 (Ye ?_) (λ cdv A outer s H vs Q E hr h=>?_)
 . rintro as n P ⟨R,U,ws,most,rfl,_⟩
   rfl
 refine ⟨_,(@Jb _ _ _ _ _ (@Vx _ _ 3 _ _ _ _ V6.nd rfl (Qa rfl) (Yb Jo) rfl (Qa rfl))
  (@Jb _ _ _ _ _ (Yw (Jt (V8 hr.units) (Jm Jn (pv 1) Je (λ _ _=>rfl)) (@PEs.out _ _ _ (Ys Jo)) (Jw _)) (@Jg _ _ _ (@Vx _ _ 3 _ _ _ _ V6.nd rfl (Qa rfl) (Yb (W7 (Jx (Yg Ga (hr.mono (by decide)) rfl (Jc (pv 0) (Bg (J7 Zn rfl T.b_len J5t (Y9 (Jm Jn (pv 1) Je (λ _ _=>rfl)) Jd)) Jd)))) Jo)) rfl (Qa rfl))) J0)
  (@Jb _ _ _ _ _ (Z1 Xp rfl (Zc rfl T.b_range (Bg (Yg Ga (hr.mono (by decide)) rfl (Jc (pv 0) (Jc (pv 2) Jd))) Jd)) (Ju (i:=4) V6.nd rfl (Qa rfl) (Qa rfl))
  (@Jb _ _ _ _ _ (Js (i:=5) V6.nd rfl (Qa rfl) (Jf8 (Jt (Jt1 hr.units) (pv 3) (@PEs.out _ _ _ (Yb Jo)) (Jw _)) (@PEs.out _ _ _ (Yb Jo)) (Yg Gp (hr.mono (by decide)) rfl (Jc (pv 1) (Y9 (Jm Jn (Jm Jn (Jm Jn (pv 1) Je (λ _ _=>rfl)) (Jm Yq (pv 3) (Jf9 Jcq Je) (λ _ _=>rfl)) (λ _ _=>rfl)) Je (λ _ _=>rfl)) Jd)))))
  (@Jg _ _ _ (Yw (Jt (V8 hr.units) (pv 5) (@PEs.out _ _ _ (Yb Jo)) (Jw _)) (@Jg _ _ _ (Vt (Jam Ue U3 U4 Zi (pv 3) (Y9 (Jm Yq (pv 5) (Yg Ga (hr.mono (by decide)) rfl (Jc (pv 0) (Bg (J7 Zn rfl T.b_len J5t (Jc (pv 5) Jd)) Jd))) (λ _ _=>rfl)) Jd)))) J0))))
  (@Jg _ _ _ (@Jr _ _ _ _ (pv 3)))))),J6 h ?_⟩
 rintro as n P ⟨R,U,ws,most,rfl,ok,hm,q⟩
 have hs:sizeLine=16777216:=Ycl
 have wz:=ok.len
 refine ⟨rfl,Q9 _,⟨_,.refl,?_⟩⟩
 refine J48 (λ env k=>k=n/\∃ ns:List Int,env=[.jar,.d (Jq R U ws),.d (.int most),.own (ns.map .int),.jnk,.jnk]/\InW ws ns/\Jbs ws ns/\ns.length<=1) (λ N hN=>?_) ?_
 . refine ⟨_,rfl,Q9 _,Jx9 (λ hne=>Jm0 rfl ?_) (λ he=>Jhe rfl ?_)⟩
   . have wp:0<ws.length:=J65.mpr hne
     refine ⟨_,rfl,(ws.length:Int),by rw [Qb],by omega,Vn (by omega),λ r r0 r1=>⟨X6 (by rw [hs];rfl),hN _ _ ⟨rfl,[r],rfl,λ k hk=>?_,trivial,Qn _⟩⟩⟩
     rw [Qm.mp hk]
     exact ⟨r0,r1⟩
   . exact hN _ _ ⟨rfl,[],rfl,(λ k hk=>by cases hk),trivial,Q9 _⟩
 rintro _ _ ⟨rfl,ns,rfl,hin,hch,hl1⟩
 refine ⟨_,.refl,most,rfl,by omega,Vn (by omega),λ t t0 t1=>⟨t,rfl,⟨by omega,by omega⟩,?_⟩⟩
 refine ⟨λ i env k=>k=_/\∃ (ns:List Int) (x4 x5:Vl),env=[.jar,.d (Jq R U ws),.d (.int most),.own (ns.map .int),x4,x5]/\InW ws ns/\Jbs ws ns/\ns.length<=i+1,⟨rfl,ns,_,_,rfl,hin,hch,hl1⟩,?_,?_⟩
 . rintro i x env _ hx ⟨rfl,ns,x4,x5,rfl,hin,hch,hl⟩
   have hi:=(Qr.mp hx).1
   rw [Y5] at hi
   refine ⟨Q9 _,Jvg (λ he=>Jm0 rfl ⟨Q9 _,⟨_,.refl,Q9 _,Jvc (ns:=[]) (λ h=>absurd rfl h) (λ _=>Jhe rfl ⟨rfl,ns,_,_,rfl,hin,hch,by omega⟩)⟩⟩) (λ hne=>Jhe rfl ?_)⟩
   obtain ⟨l0,l1⟩:=hin _ (Ji0 hne)
   refine ⟨_,rfl,_,Jnb hne,_,Vb l0 l1,_,rfl,R,U,ws,_,rfl,wz,⟨_,.refl,Q9 _,Jvc (λ hf=>Jm0 rfl ?_) (λ _=>Jhe rfl ⟨rfl,ns,_,_,rfl,hin,hch,by omega⟩)⟩⟩
   have fz:=Jg6 ws (Ja ws (Jdk ns)).b
   have fp:0<(Jao ws (Ja ws (Jdk ns)).b).length:=J65.mpr hf
   refine ⟨((Jao ws (Ja ws (Jdk ns)).b).length:Int),by rw [<- Qb (f:=Qo)],by omega,Vn (by omega),λ z z0 z1=>?_⟩
   obtain ⟨k,hka,hkm⟩:=Jxs z0 z1
   obtain ⟨h0,h1,h2⟩:=Jiz hkm
   refine ⟨_,hka,by rw [Qb];omega,rfl,ns++[k],_,_,by rw [Qu];rfl,λ j hj=>?_,Jsq hch (λ _=>h2.symm),by rw [Qw,Xq];omega⟩
   rcases Qz.mp hj with hj | hj
   . exact hin j hj
   . rw [Qm.mp hj];exact ⟨h0,h1⟩
 . rintro env _ ⟨rfl,ns,x4,x5,rfl,hin,hch,hl⟩
   rw [Y5] at hl
   exact ⟨_,.fz 3 _ rfl .refl,q ns hin hch (by omega)⟩
theorem Jai:FnScope ["jar","book","most","walk","back"] ["jar","book","most"] (Jf Jbc):=⟨rfl,rfl,rfl,by decide +kernel,rfl,by decide +kernel,by decide +kernel⟩
theorem Jij (T:Txt mg) (D:Def K mg "_law_closed" Jbc ["jar","book","most"]) (G8:Cal P w K mg base "_law_walk" 3 ["jar","book","most"] (Jp Jld)) (G9:Cal P w K mg base "_law_back" 2 ["book","first","last"] (Jp Jpd)):Cal P w K mg base "_law_closed" 4 ["jar","book","most"] (Jp Jhq):=by
 refine D.cal λ f fd F=>F.ok Jai (Ye ?_) (λ cdv A outer s H vs Q E hr h=>?_)
 . rintro as n P ⟨R,U,ws,most,rfl,_⟩
   rfl
 refine ⟨_,(@Jb _ _ _ _ _ (Js (i:=3) Jai.nd rfl (Qa rfl) (Yg G8 (hr.mono (by decide)) rfl (Jc (pv 0) (Jc (pv 1) (Jc (pv 2) Jd)))))
  (@Jb _ _ _ _ _ (Yw (Jt (Jt1 hr.units) (pv 3) (@PEs.out _ _ _ (Yb Jo)) (Jw _)) (@Jg _ _ _ (@Jr _ _ _ _ (@PEs.out _ _ _ (Yb Jo)))) J0)
  (@Jb _ _ _ _ _ (Js (i:=4) Jai.nd rfl (Qa rfl) (Yg G9 (hr.mono (by decide)) rfl (Jc (pv 1) (Y9 (Jm Jn (Jm Jn (Jm Jn (pv 1) Je (λ _ _=>rfl)) (Jm Yq (pv 3) (Jf9 Jcq Je) (λ _ _=>rfl)) (λ _ _=>rfl)) Je (λ _ _=>rfl)) (Y9 (Jm Jn (Jm Jn (Jm Jn (pv 1) Je (λ _ _=>rfl)) (Jm Yq (pv 3) Je (λ _ _=>rfl)) (λ _ _=>rfl)) Je (λ _ _=>rfl)) Jd)))))
  (@Jg _ _ _ (@Jr _ _ _ _ (Jf8 (Jt Jtt (pv 4) Jcn (Jw _)) (@PEs.out _ _ _ (Yb Jo)) (J3 Jj7 (pv 3) (pv 4)))))))),J6 h ?_⟩
 rintro as n P ⟨R,U,ws,most,rfl,ok,hm,q⟩
 have hs:sizeLine=16777216:=Ycl
 refine ⟨rfl,R,U,ws,most,rfl,ok,hm,λ ns hin hch hlen=>⟨_,.refl,Q9 _,Jvg (λ he=>Jm0 rfl ⟨Q9 _,?_⟩) (λ hne=>Jhe rfl ?_)⟩⟩
 . exact q [] (λ k hk=>by cases hk) (.inl rfl) (by show (0:Int)<=_;omega)
 obtain ⟨k0,rest,rfl⟩:∃ k0 rest,ns=k0::rest:=by
  cases ns with
  | nil=>exact absurd rfl hne
  | cons a b=>exact ⟨a,b,rfl⟩
 have pth:=Ji8 hch hin
 obtain ⟨l0,l1⟩:=hin _ (Ji0 hne)
 obtain ⟨f0,f1⟩:=hin k0 Qd
 have wok:=ok.ways _ (Yd l0 l1)
 refine ⟨_,.refl,_,rfl,_,Jnb hne,_,Vb l0 l1,_,rfl,_,rfl,_,Jk0,_,Vb f0 f1,_,rfl,R,U,ws,_,_,rfl,ok,⟨wok.b0,wok.b1⟩,⟨_,.refl,rfl,Jm0 rfl ⟨Q9 _,?_⟩⟩,λ bs hp hb=>⟨_,.refl,rfl,Jhe rfl ⟨?_,?_⟩⟩⟩
 . exact q [] (λ k hk=>by cases hk) (.inl rfl) (by show (0:Int)<=_;omega)
 . rw [Qb,Qb];omega
 . rw [<- Qu]
   have pp:=pth.app hp
   refine q _ (λ k hk=>?_) (.inr ⟨_,pp⟩) (by rw [Qw];omega)
   exact pp.inW k hk
theorem V3:FnScope ["book","walks","found","many","walk","k"] ["book","walks"] (Jf Jbd):=⟨rfl,rfl,rfl,by decide +kernel,rfl,by decide +kernel,by decide +kernel⟩
theorem Jik (T:Txt mg) (D:Def K mg "_law_counts" Jbd ["book","walks"]):Cal P w K mg base "_law_counts" 1 ["book","walks"] (Jp Jez):=by
 refine D.cal λ f fd F=>F.ok V3 (Ye ?_) (λ cdv A outer s H vs Q E hr h=>?_)
 . rintro as n P ⟨R,U,ws,ks,rfl,_⟩
   rfl
 refine ⟨_,(@Jb _ _ _ _ _ (Js (i:=2) V3.nd rfl (Qa rfl) (J3 Joo (@PEs.out _ _ _ (Yb (Jz Yu Jo))) (J7 Zn rfl T.b_len J5t (Y9 (Jm Jn (pv 0) Je (λ _ _=>rfl)) Jd))))
  (@Jb _ _ _ _ _ (Z1 Xp rfl (Wf (pv 1)) (Yv (K':=K) (i:=3) (j:=4) rfl V3.nd ⟨rfl,(Qa rfl),(Qa rfl)⟩ ⟨rfl,(Qa rfl),(Qa rfl)⟩ rfl)
  (@Jg _ _ _ (Z1 Xp rfl (Wf (pv 4)) (Ju (i:=5) V3.nd rfl (Qa rfl) (Qa rfl))
  (@Jg _ _ _ (Zq (J3 Vj (Jm Yq (pv 2) (pv 5) (λ _ _=>rfl)) (pv 3)) (Jog (pv 2) (pv 5) Jal (λ v=>V9 _ _ _ _ _ v)))))))
  (@Jg _ _ _ (@Jr _ _ _ _ (Yf Jv rfl T.b_tuple Ycr (Jc (pv 2) Jd)))))),J6 h ?_⟩
 rintro as n P ⟨R,U,ws,wk,rfl,ok,hk,q⟩
 have hs:sizeLine=16777216:=Ycl
 have wz:=ok.len
 have hz:((ws.map Zx).length:Int).toNat=ws.length:=by rw [Qb];exact Xb _
 refine ⟨rfl,X6 (by rw [hs];rfl),_,rfl,⟨⟨by omega,by rw [Qb];omega,by rw [hz,hs];show 1*ws.length<=_;omega⟩,?_⟩⟩
 rw [hz,Jjj,<- Jx7]
 refine ⟨_,.refl,λ i env n'=>n'=n/\∃ (x3 x4 x5:Vl),env=[.d (Jq R U ws),.d (.list (wk.map wkD)),.own ((Be ws (wk.take i)).map .int),x3,x4,x5],⟨rfl,_,_,_,rfl⟩,?_,?_⟩
 . rintro i x env _ hx ⟨rfl,x3,x4,x5,rfl⟩
   rw [Qs] at hx
   obtain ⟨p,hpi,rfl⟩:=Uu.mp hx
   have hpk:=hk p (Xa hpi)
   have hi:=(Qr.mp hpi).1
   have he:wk[i]=p:=(Qr.mp hpi).2
   have hnx:Be ws (wk.take (i+1))=Wb (Be ws (wk.take i)) p.2 (-p.1):=by rw [J7w hi,he,Js5]
   have hcl:=Jwr ws (wk.take i)
   obtain ⟨cs,ecs⟩:∃ cs,cs=Be ws (wk.take i):=⟨_,rfl⟩
   rw [<- ecs] at hnx hcl ⊢
   refine ⟨rfl,rfl,λ i env n'=>n'=_/\∃ (x5:Vl),env=[.d (Jq R U ws),.d (.list (wk.map wkD)),.own ((Wb cs (p.2.take i) (-p.1)).map .int),.d (.int p.1),.d (Jbw p.2),x5],⟨rfl,_,by rw [Ybw,Jni];rfl⟩,?_,?_⟩
   . rintro i x env _ hx ⟨rfl,x5,rfl⟩
     rw [Qs] at hx
     obtain ⟨k,hki,rfl⟩:=Uu.mp hx
     obtain ⟨k0,k1⟩:=hpk k (Xa hki)
     refine ⟨_,Jnj k0 (by rw [Zy];omega),_,Vm k0 (by rw [Qb,Zy];omega),rfl,.d (.int k),?_⟩
     show [_,_,Vl.own (((Wb cs (p.2.take i) (-p.1)).map Qo).set k.toNat (.int ((Wb cs (p.2.take i) (-p.1)).getD k.toNat 0+p.1))),_,_,_]=_
     have e:=Jjr (ls:=cs) (ks:=p.2.take i) (m:=-p.1) k0 (by omega)
     rw [Int.sub_neg] at e
     rw [<- J6a,e,<- Ji2 hki]
   . rintro env _ ⟨rfl,x5,rfl⟩
     exact ⟨rfl,.d (.int p.1),.d (Jbw p.2),x5,by rw [Qb,J5u,hnx]⟩
 . rintro env _ ⟨rfl,x3,x4,x5,rfl⟩
   rw [Qb,J5u]
   exact ⟨_,.fz 2 _ rfl .refl,q⟩
theorem Bw:FnScope ["book","stand","told","good"] ["book","stand","told"] (Jf Jah):=⟨rfl,rfl,rfl,by decide +kernel,rfl,by decide +kernel,by decide +kernel⟩
theorem Jh9 (T:Txt mg) (Z:ErW K mg z) (D:Def K mg "_law_is_done" Jah ["book","stand","told"]) (Gh:Jmm P w K mg base "told_done" 9 ["book","stand","told"] (Jfh (Jfx z 6))):Cal P w K mg base "_law_is_done" 10 ["book","stand","told"] (Jp Jd6):=by
 refine D.cal λ f fd F=>F.ok Bw (Ye ?_) (λ cdv A outer s H vs Q E hr h=>?_)
 . rintro as n P ⟨R,U,ws,d,f,room,st,rfl,_⟩
   rfl
 refine ⟨_,(@Jb _ _ _ _ _ (Js (i:=3) Bw.nd rfl (Qa rfl) Bd)
  (@Jb _ _ _ _ _ (Jxh rfl rfl rfl (λ _=>rfl) rfl (λ _=>rfl) rfl Z.way (Juj Gh (hr.mono (by decide)) rfl (Jc (pv 0) (Jc (pv 1) (Jc (pv 2) Jd))))
  (λ ea=>(@Jg _ _ _ (Js (i:=3) Bw.nd rfl (Qa rfl) Bd))))
  (@Jg _ _ _ (@Jr _ _ _ _ (pv 3))))),J6 h ?_⟩
 rintro as n P ⟨R,U,ws,d,f,room,st,rfl,ok,td,nb,q⟩
 refine ⟨rfl,_,.refl,R,U,ws,d,f,room,st,rfl,ok,td,by decide,λ g=>absurd g nb,λ _=>⟨Z.xsW,⟨_,.refl,q⟩⟩⟩
theorem Yj:FnScope ["book","part","counts","room","told","gains","wanted","there","p","less"] ["book","part","counts"] (Jf Wh):=⟨rfl,rfl,rfl,by decide +kernel,rfl,by decide +kernel,by decide +kernel⟩
theorem Jea (T:Txt mg) (Z:ErW K mg z) (D:Def K mg "_law_part_right" Wh ["book","part","counts"]) (Gy:Cal P w K mg base "is_round" 3 ["book","counts"] (Jp Jlf)) (Gc:Cal P w K mg base "parts_of" 3 ["book","counts"] (Jp Jdw)) (Gz:Cal P w K mg base "walk_of" 4 ["book","counts","room"] (Jp Jlr)) (Ge:Cal P w K mg base "round_gain" 1 ["book","counts"] (Jp Jfy)) (G0:Cal P w K mg base "told_need" 9 ["book","told"] (Jp (Jkz 6))) (Gf:Cal P w K mg base "told_length" 7 ["told"] (Jp (Jqq 6))) (G3:Cal P w K mg base "told_gain" 9 ["book","told"] (Jp (Jky 6))) (Gd:Cal P w K mg base "told_ends" 8 ["book","told"] (Jp (Jkx 6))) (Gh:Jmm P w K mg base "told_done" 9 ["book","stand","told"] (Jfh (Jfx z 6))) (Ma:Cal P w K mg base "_law_is_done" 10 ["book","stand","told"] (Jp Jd6)):Cal P w K mg base "_law_part_right" 11 ["book","part","counts"] (Jp B6):=by
 refine D.cal λ f fd F=>F.ok Yj (Ye ?_) (λ cdv A outer s H vs Q E hr h=>?_)
 . rintro as n P ⟨R,U,ws,cs,rfl,_⟩
   rfl
 refine ⟨_,(@Jb _ _ _ _ _ (Yw (PW.pt (Jil (Jt Jrs (Yg Gy (hr.mono (by decide)) rfl (Jc (pv 0) (Jc (pv 2) Jd))) Bd (Jw _)) (Jeb (Jt (V8 hr.units) (Yg Gc (hr.mono (by decide)) rfl (Jc (pv 0) (Jc (pv 2) Jd))) (@PEs.out _ _ _ (Yb (Jy (Jx (pv 1)) Jo))) (Jw _))))) (@Jg _ _ _ (@Jr _ _ _ _ Bd)) J0)
  (@Jb _ _ _ _ _ (Js (i:=3) Yj.nd rfl (Qa rfl) (Jm Jn (Jm Jn (Jm Jn (pv 0) Je (λ _ _=>rfl)) (Jm Yq (pv 1) Je (λ _ _=>rfl)) (λ _ _=>rfl)) Je (λ _ _=>rfl)))
  (@Jb _ _ _ _ _ (Js (i:=4) Yj.nd rfl (Qa rfl) (Yg Gz (hr.mono (by decide)) rfl (Jc (pv 0) (Jc (pv 2) (Jc (pv 3) Jd)))))
  (@Jb _ _ _ _ _ (Js (i:=5) Yj.nd rfl (Qa rfl) (Yg Ge (hr.mono (by decide)) rfl (Jc (pv 0) (Jc (pv 2) Jd))))
  (@Jb _ _ _ _ _ (Js (i:=6) Yj.nd rfl (Qa rfl) (Yg G0 (hr.mono (by decide)) rfl (Jc (pv 0) (Jc (pv 4) Jd))))
  (@Jb _ _ _ _ _ (Yw (PW.pt (Jil (Jt Jp1 (Yg Gf (hr.mono (by decide)) rfl (Jc (pv 4) Jd)) (J7 (Jpu (K':=K) rfl rfl) rfl T.b_sum boot_sum (Jc (pv 2) Jd)) (Jw _)) (Jeb (Jt (V8 hr.units) (Yg G3 (hr.mono (by decide)) rfl (Jc (pv 0) (Jc (pv 4) Jd))) (pv 5) (Jw _))))) (@Jg _ _ _ (@Jr _ _ _ _ Bd)) J0)
  (@Jb _ _ _ _ _ (Js (i:=7) Yj.nd rfl (Qa rfl) (Yf Jv rfl T.b_tuple Ycr (Y2 (Ym (sc:=(Jf Wh)) (N:=["book","part","counts","room","told","gains","wanted","there","p","less"]) (N':=["one","more"]) (k:=2) (idx:=[]) rfl (by exact ⟨rfl,by decide +kernel,by decide +kernel,by decide +kernel,by decide +kernel,by decide +kernel,rfl,rfl⟩) rfl rfl (Ja3 rfl T.b_zip (Jc (pv 6) (Jc (pv 5) Jd))) (λ _ _ _ _=>(Yv (K':=K) (i:=0) (j:=1) rfl (show (["one","more"]:List Str).Nodup by decide +kernel) ⟨rfl,(Qa rfl),(Qt rfl)⟩ ⟨rfl,(Qa rfl),(Qt rfl)⟩ rfl)) (λ _ _ _ _=>Yl) (λ _ _ _ _=>(J3 Vj (pv 0) (pv 1)))) Jd)))
  (@Jb _ _ _ _ _ (Yw (PW.pt (Jil (Jt (V8 hr.units) (Yg Gd (hr.mono (by decide)) rfl (Jc (pv 0) (Jc (pv 4) Jd))) (@PEs.out _ _ _ (Ys (Jy (Jx (pv 3)) (Jy (Jx (pv 3)) Jo)))) (Jw _)) (Jeb (Jt (V8 hr.units) (J23 Gh (hr.mono (by decide)) rfl J1d (Jc (pv 0) (Bo (@PEs.out _ _ _ (Ys (Jy (Jx (pv 3)) (Jy (Jx (pv 6)) Jo)))) (Jc (pv 4) Jd)))) (@PEs.out _ _ _ (Ys (Jy (Jx (pv 3)) (Jy (Jx (pv 7)) Jo)))) (Jw _))))) (@Jg _ _ _ (@Jr _ _ _ _ Bd)) J0)
  (@Jb _ _ _ _ _ (Z1 Xp rfl (Zc rfl T.b_range (Y9 (Jm Jn (pv 0) Je (λ _ _=>rfl)) Jd)) (Ju (i:=8) Yj.nd rfl (Qa rfl) (Qa rfl))
  (@Jb _ _ _ _ _ (Js (i:=9) Yj.nd rfl (Qa rfl) (J3 Jqg (J3 Jqg (Wl Jtw (pv 6) Vu (Z2 (pv 8))) (@PEs.out _ _ _ (Ys (Jen (Jx (J3 Jcp (Jm Jn (pv 6) (pv 8) (λ _ _=>rfl)) Je)) Jo)))) (Wl Jtw (pv 6) (Z2 (J3 Vj (pv 8) Je)) Vu)))
  (@Jg _ _ _ (Yw (PW.pt (Jod (Jt Jga (Jm Jn (pv 6) (pv 8) (λ _ _=>rfl)) Je (Jw _)) (Jj0 (Bk (Yg Ma (hr.mono (by decide)) rfl (Jc (pv 0) (Bo (@PEs.out _ _ _ (Ys (Jy (Jx (pv 3)) (Jy (Jx (pv 9)) Jo)))) (Jc (pv 4) Jd)))))))) (@Jg _ _ _ (@Jr _ _ _ _ Bd)) J0))))
  (@Jg _ _ _ (@Jr _ _ _ _ Bd))))))))))),J6 h ?_⟩
 rintro as n P ⟨R,U,ws,cs,rfl,ok,ro,hne,hb,h1,q⟩
 have hs:sizeLine=16777216:=Ycl
 have hl:=ro.len
 have wz:=ok.len
 have p1:=ok.p1
 have p0:=ok.p0
 have hpos:=J15 hl hne
 obtain ⟨k,rest,ek⟩:∃ k rest,onW cs=k::rest:=by
  cases e:onW cs with
  | nil=>exact absurd e hne
  | cons k r=>exact ⟨k,r,rfl⟩
 have hk:k∈onW cs:=by rw [ek];exact Qd
 obtain ⟨k0,k1,_⟩:=Z4.mp hk
 rw [hl] at k1
 have hat:atI ((onW cs).map Qo) 0=some (.int k):=by rw [ek];exact Jk0
 refine ⟨rfl,R,U,ws,cs,rfl,ok,hl,?_⟩
 rw [Jy4 ro hpos]
 refine Wm ⟨R,U,ws,cs,rfl,ok,hl,Jbp (X6 rfl),?_⟩
 rw [h1]
 refine J5b (Wm ⟨_,.refl,_,rfl,_,hat,_,Vb k0 k1,_,rfl,_,.refl,?_⟩)
 refine ⟨R,U,ws,cs,_,rfl,ok,ro,hpos,(λ i hi=>J6j (hb i hi) (by decide +kernel)),by rw [h1];rfl,⟨k,hk,rfl⟩,λ ps rk=>⟨_,.refl,?_⟩⟩
 refine ⟨R,U,ws,cs,rfl,ok,hl,_,.refl,?_⟩
 obtain ⟨td,fa,fb⟩:=J18 rk
 have fg:∀ p,(W5 (ps.map (Prt.fa ws))).g p=rgS ws cs p:=λ p=>by rw [J4c rk,Jwt]
 have fl:=Jyx rk
 have td:TD ws 6 (Jmv (ps.map Prt.pd)) (W5 (ps.map (Prt.fa ws))):=td.mono (by decide)
 have fok:=td.ok
 generalize W5 (ps.map (Prt.fa ws))=f at *
 refine ⟨R,U,ws,_,f,rfl,ok,td,by decide,_,.refl,?_⟩
 refine ⟨R,U,ws,_,f,rfl,ok,td,by decide,cs,rfl,?_⟩
 have el:f.len=cs.sum:=by rw [fl,<- hl,Jwu]
 have eg:f.g=rgS ws cs:=funext fg
 rw [el]
 refine Jvb (Jhe (by simp) ⟨R,U,ws,_,f,rfl,ok,td,by decide,?_⟩)
 rw [eg,Jq6]
 refine neF (Wm ⟨_,.refl,_,_,_,_,rfl,rfl,rfl,⟨rfl,by rw [Br,Y6];omega⟩,?_⟩)
 rw [Jg9]
 refine Y7 (λ i=>.int (f.d i+rgS ws cs i)) (λ i hi n K hk=>⟨rfl,rfl,Z6 hk⟩) ?_
 refine ⟨_,.refl,R,U,ws,_,f,rfl,ok,td,by decide,Yz,?_⟩
 rw [fa,fb]
 refine Jeu rfl (show (2:Nat)-1<=50 by decide) (Wm ⟨Yz,R,U,ws,_,f,_,f.d,rfl,ok,td,by decide,λ _=>⟨Yz,?_⟩,λ g=>absurd ⟨fa.symm,λ i _=>Uo _⟩ g⟩)
 rw [fb,eg]
 refine J49 (Wm ⟨_,.refl,?_⟩)
 refine ⟨_,rfl,U,rfl,⟨by omega,by omega⟩,λ i env n'=>n'=n/\∃ x8 x9:Vl,env=[.d (Jq R U ws),.d (Jbw (onW cs)),.d (.tuple (cs.map .int)),.d (.int (Ja ws k).a),.d (Jmv (ps.map Prt.pd)),.d (Zg U (rgS ws cs)),.d (Zg U f.d),.d (Zg U λ i=>f.d i+rgS ws cs i),x8,x9],⟨rfl,_,_,rfl⟩,?_,?_⟩
 rotate_left
 . rintro env _ ⟨rfl,x8,x9,rfl⟩
   exact ⟨_,.refl,q⟩
 rintro i y env _ hy ⟨rfl,x8,x9,rfl⟩
 obtain ⟨hp,rfl⟩:=Jxt hy
 generalize i=p at *
 refine ⟨by rw [HT.sIx_nat,Y6];omega,_,Jdq (by omega) (Jpe (by omega)),Jbp (X6 rfl),?_⟩
 rw [Ji3]
 refine ⟨by rw [U6,Y6];simp;omega,?_⟩
 refine ⟨?_,?_⟩
 . rw [show ((p:Int)+1)=((p+1:Nat):Int) by omega,HT.sIx_nat,Y6];omega
 rw [show ((p:Int)+1)=((p+1:Nat):Int) by omega,Jb8]
 refine ⟨by rw [Qw,U6,U7,Y6];simp;omega,?_⟩
 rw [J1r U.toNat f.d p _ hp]
 refine ⟨_,.refl,_,Jdq (by omega) (Jpe (by omega)),Ze (λ c=>?_) (λ c=>Wm ⟨rfl,_,_,rfl⟩)⟩
 refine ⟨Yz,R,U,ws,_,f,_,putF f.d p (f.d p-1),rfl,ok,td,λ g=>?_,Wm ⟨rfl,_,_,rfl⟩⟩
 have:=g.2 p hp
 unfold putF at this
 rw [if_pos rfl] at this
 omega
theorem Vs:FnScope ["script","jar","book","turn","walks","again","often","counts","total","part","inner","twice"] ["script"] (Jf Jaa):=⟨rfl,rfl,rfl,by decide +kernel,rfl,by decide +kernel,by decide +kernel⟩
theorem J2e {f:Addr}{fd:Ycu}(T:Txt mg) (F:Fun K "law" "law" Jaa f fd) (Mb:Cal P w K mg base "_law_jar" 2 ["script"] (Jqd K)) (Ga:Cal P w K mg base "_law_pick" 2 ["jar","many"] (Jp Jcw)) (Mc:Cal P w K mg base "_law_book" 4 ["jar","most_rooms","most_ways"] (Jp Jpb)) (Md:Cal P w K mg base "_law_closed" 4 ["jar","book","most"] (Jp Jhq)) (Me:Cal P w K mg base "_law_counts" 1 ["book","walks"] (Jp Jez)) (Gc:Cal P w K mg base "parts_of" 3 ["book","counts"] (Jp Jdw)) (Mf:Cal P w K mg base "_law_part_right" 11 ["book","part","counts"] (Jp B6)) (Ge:Cal P w K mg base "round_gain" 1 ["book","counts"] (Jp Jfy)):FnOk P w K mg base CX0 14 f fd ["script"] (Jml K):=by
 refine F.ok Vs (λ vs H Q E h=>?_) (λ cdv A outer s H vs Q E hr h=>?_)
 . obtain ⟨a,ns,rfl,_⟩:=h
   rfl
 refine ⟨_,(@Jb _ _ _ _ _ (Js (i:=1) Vs.nd rfl (Qa rfl) (Yg Mb (hr.mono (by decide)) rfl (Jc (pv 0) Jd)))
  (@Jb _ _ _ _ _ (Js (i:=2) Vs.nd rfl (Qa rfl) (Yg Mc (hr.mono (by decide)) rfl (Jc (pv 1) (Y9 (Jm Yq (@PEs.out _ _ _ (Yb (Jz Yu (Jz Yu (Jz Yu Jo))))) (Yg Ga (hr.mono (by decide)) rfl (Jc (pv 1) (Y3 Je Jd))) (λ _ _=>rfl)) (Y9 (Jm Yq (@PEs.out _ _ _ (Yb (Jz Yu (Jz Yu (Jz Yu Jo))))) (Yg Ga (hr.mono (by decide)) rfl (Jc (pv 1) (Y3 Je Jd))) (λ _ _=>rfl)) Jd)))))
  (@Jb _ _ _ _ _ (Z1 Xp rfl (Zc rfl T.b_range (Y3 Je Jd)) (Ju (i:=3) Vs.nd rfl (Qa rfl) (Qa rfl))
  (@Jb _ _ _ _ _ (@Vx _ _ 4 _ _ _ _ Vs.nd rfl (Qa rfl) (Yb Jo) rfl (Qa rfl))
  (@Jb _ _ _ _ _ (Z1 Xp rfl (Zc rfl T.b_range (V4 (J3 Vj Je (Yg Ga (hr.mono (by decide)) rfl (Jc (pv 1) (Y3 Je Jd)))) Jd)) (Ju (i:=5) Vs.nd rfl (Qa rfl) (Qa rfl))
  (@Jb _ _ _ _ _ (Js (i:=6) Vs.nd rfl (Qa rfl) (Jm Yq (@PEs.out _ _ _ (Yb (Jz Yu (Jz Yu (Jen (Jx (J3 Jfs (J3 Joj Je Je) (J3 Joj Je Je))) (Jz Yu Jo)))))) (Yg Ga (hr.mono (by decide)) rfl (Jc (pv 1) (Y3 Je Jd))) (λ _ _=>rfl)))
  (@Jg _ _ _ (Vt (Jam Ue U3 U4 Zi (pv 4) (Bo (@PEs.out _ _ _ (Ys (Jy (Jx (pv 6)) (W7 (Jx (Yg Md (hr.mono (by decide)) rfl (Jc (pv 1) (Jc (pv 2) (Y3 Je Jd))))) Jo)))) Jd))))))
  (@Jb _ _ _ _ _ (Js (i:=7) Vs.nd rfl (Qt rfl) (Yg Me (hr.mono (by decide)) rfl (Jc (pv 2) (Jc (pv 4) Jd))))
  (@Jg _ _ _ (Yw (Jt (V8 hr.units) (Ym (sc:=(Jf Jaa)) (N:=["script","jar","book","turn","walks","again","often","counts","total","part","inner","twice"]) (N':=["many"]) (k:=1) (idx:=[]) rfl (by exact ⟨rfl,by decide +kernel,by decide +kernel,by decide +kernel,by decide +kernel,by decide +kernel,rfl,rfl⟩) rfl rfl (Jax (pv 7)) (λ _ _ _ _=>(Ju (i:=0) (show (["many"]:List Str).Nodup by decide +kernel) rfl (Qa rfl) (Qt rfl))) (λ _ _ _ _=>Ja1 (Jt Jga (pv 0) Je (Jw _))) (λ _ _ _ _=>(pv 0))) (@PEs.out _ _ _ (Yb Jo)) (Jw _)) (@Jb _ _ _ _ _ (Js (i:=8) Vs.nd rfl (Qa rfl) (J3 Joo (@PEs.out _ _ _ (Yb (Jz Yu Jo))) (Jm Jn (pv 2) Je (λ _ _=>rfl))))
  (@Jb _ _ _ _ _ (Z1 Xp rfl (Wf (Yg Gc (hr.mono (by decide)) rfl (Jc (pv 2) (Jc (pv 7) Jd)))) (Ju (i:=9) Vs.nd rfl (Qt rfl) (Qa rfl))
  (@Jb _ _ _ _ _ (Js (i:=10) Vs.nd rfl (Qa rfl) (Yf Jv rfl T.b_tuple Ycr (Y2 (Ym (sc:=(Jf Jaa)) (N:=["script","jar","book","turn","walks","again","often","counts","total","part","inner","twice"]) (N':=["k","counts","part"]) (k:=1) (idx:=[7,9]) rfl (by exact ⟨rfl,by decide +kernel,by decide +kernel,by decide +kernel,by decide +kernel,by decide +kernel,rfl,rfl⟩) rfl rfl (Zc rfl T.b_range (Bg (J7 Zn rfl T.b_len J5t (Jc (pv 7) Jd)) Jd)) (λ _ _ _ _=>(Ju (i:=0) (show (["k","counts","part"]:List Str).Nodup by decide +kernel) rfl (Qa rfl) (Qt rfl))) (λ _ _ _ _=>Yl) (λ _ _ _ _=>(J3 Jay (Jm (Wv (K':=K) rfl) (pv 1) (pv 0) (λ _ _=>rfl)) (Yf Jrf rfl T.b_int boot_int (J08 (Jb6 (Jhs (K':=K) rfl) (pv 0) (pv 2) (by with_unfolding_all rfl)) Jd))))) Jd)))
  (@Jb _ _ _ _ _ (Yw (Jec (Bk (Yg Mf (hr.mono (by decide)) rfl (Jc (pv 2) (Jc (pv 9) (Jc (pv 10) Jd)))))) (@Jg _ _ _ (@Jr _ _ _ _ Bd)) J0)
  (@Jg _ _ _ (Ja2 (i:=8) (sc:=(Jf Jaa)) (N:=["script","jar","book","turn","walks","again","often","counts","total","part","inner","twice"]) (N':=["one","more"]) (k:=2) (idx:=[]) rfl Vs.nd rfl rfl (by exact ⟨rfl,by decide +kernel,by decide +kernel,by decide +kernel,by decide +kernel,by decide +kernel,rfl,rfl⟩) rfl rfl (Ja3 rfl T.b_zip (Jc (pv 8) (Bg (Yg Ge (hr.mono (by decide)) rfl (Jc (pv 2) (Jc (pv 10) Jd))) Jd))) (λ _ _ _ _=>(Yv (K':=K) (i:=0) (j:=1) rfl (show (["one","more"]:List Str).Nodup by decide +kernel) ⟨rfl,(Qa rfl),(Qt rfl)⟩ ⟨rfl,(Qa rfl),(Qt rfl)⟩ rfl)) (λ _ _ _ _=>Yl) (λ _ _ _ _=>(J3 Vj (pv 0) (pv 1))))))))
  (@Jb _ _ _ _ _ (Yw (Jt (V8 hr.units) (Yf Jv rfl T.b_tuple Ycr (Jc (pv 8) Jd)) (Yg Ge (hr.mono (by decide)) rfl (Jc (pv 2) (Jc (pv 7) Jd))) (Jw _)) (@Jg _ _ _ (@Jr _ _ _ _ Bd)) J0)
  (@Jb _ _ _ _ _ (Js (i:=11) Vs.nd rfl (Qa rfl) (Yf Jv rfl T.b_tuple Ycr (Y2 (Ym (sc:=(Jf Jaa)) (N:=["script","jar","book","turn","walks","again","often","counts","total","part","inner","twice"]) (N':=["many"]) (k:=1) (idx:=[]) rfl (by exact ⟨rfl,by decide +kernel,by decide +kernel,by decide +kernel,by decide +kernel,by decide +kernel,rfl,rfl⟩) rfl rfl (Jax (pv 7)) (λ _ _ _ _=>(Ju (i:=0) (show (["many"]:List Str).Nodup by decide +kernel) rfl (Qa rfl) (Qt rfl))) (λ _ _ _ _=>Yl) (λ _ _ _ _=>(J3 Jay Je (pv 0)))) Jd)))
  (@Jb _ _ _ _ _ (Yw (Jt (V8 hr.units) (Yg Ge (hr.mono (by decide)) rfl (Jc (pv 2) (Jc (pv 11) Jd))) (Yf Jv rfl T.b_tuple Ycr (Y2 (Ym (sc:=(Jf Jaa)) (N:=["script","jar","book","turn","walks","again","often","counts","total","part","inner","twice"]) (N':=["one"]) (k:=1) (idx:=[]) rfl (by exact ⟨rfl,by decide +kernel,by decide +kernel,by decide +kernel,by decide +kernel,by decide +kernel,rfl,rfl⟩) rfl rfl (Wf (pv 8)) (λ _ _ _ _=>(Ju (i:=0) (show (["one"]:List Str).Nodup by decide +kernel) rfl (Qa rfl) (Qt rfl))) (λ _ _ _ _=>Yl) (λ _ _ _ _=>(J3 Jay Je (pv 0)))) Jd)) (Jw _)) (@Jg _ _ _ (@Jr _ _ _ _ Bd)) J0)
  (@Jg _ _ _ (Yw (Jt (V8 hr.units) (Yg Gc (hr.mono (by decide)) rfl (Jc (pv 2) (Jc (pv 11) Jd))) (Yg Gc (hr.mono (by decide)) rfl (Jc (pv 2) (Jc (pv 7) Jd))) (Jw _)) (@Jg _ _ _ (@Jr _ _ _ _ Bd)) J0))))))) J0))))))
  (@Jg _ _ _ (@Jr _ _ _ _ Bd))))),Jsk (by decide) h ?_⟩
 show J1k _ _ Jvd [.jnk,.jar,.jnk,.jnk,.jnk,.jnk,.jnk,.jnk,.jnk,.jnk,.jnk,.jnk] 0
 have hs:sizeLine=16777216:=Ycl
 refine ⟨Vp,3,rfl,by decide,by decide +kernel,λ t t0 t1=>?_⟩
 obtain ⟨mr,hat,m0,m1⟩:∃ mr:Int,atI [Qo 1,.int 3,.int 12] t=some (.int mr)/\1<=mr/\mr<=12:=by
  have:t=0\/t=1\/t=2:=by omega
  rcases this with rfl | rfl | rfl<;>exact ⟨_,rfl,by decide,by decide⟩
 refine ⟨_,hat,Vp,3,rfl,by decide,by decide +kernel,λ t t0 t1=>?_⟩
 obtain ⟨mw,hat,w0,w1⟩:∃ mw:Int,atI [Qo 6,.int 14,.int 60] t=some (.int mw)/\0<=mw/\mw<=60:=by
  have:t=0\/t=1\/t=2:=by omega
  rcases this with rfl | rfl | rfl<;>exact ⟨_,rfl,by decide,by decide⟩
 refine ⟨_,hat,mr,mw,rfl,⟨m0,m1⟩,⟨w0,w1⟩,λ R U ws ok _=>⟨[.jnk,.jar,.d (Jq R U ws),.jnk,.jnk,.jnk,.jnk,.jnk,.jnk,.jnk,.jnk,.jnk],.eq rfl,?_⟩⟩
 have wz:=ok.len
 have p0:=ok.p0
 have p1:=ok.p1
 refine ⟨3,rfl,⟨by decide,by decide⟩,λ i env _=>∃ x3 x4 x5 x6 x7 x8 x9 x10 x11,env=[.jnk,.jar,.d (Jq R U ws),x3,x4,x5,x6,x7,x8,x9,x10,x11],⟨_,_,_,_,_,_,_,_,_,rfl⟩,?_,λ env n _=>⟨_,.refl,rfl⟩⟩
 rintro i x env j hx ⟨x3,x4,x5,x6,x7,x8,x9,x10,x11,rfl⟩
 refine ⟨Q9 _,⟨_,.refl,?_⟩⟩
 refine ⟨3,rfl,by decide,by decide +kernel,λ t t0 t1=>⟨1+t,rfl,⟨by omega,by omega⟩,λ i env _=>∃ (wk:List (Int×List Int)) (x5 x6:Vl),env=[.jnk,.jar,.d (Jq R U ws),.d x,.own (wk.map wkD),x5,x6,x7,x8,x9,x10,x11]/\wk.length<=i/\∀ p∈wk,Clo ws p/\p.1<=10^96/\p.2.length<=16,⟨[],_,_,rfl,Qn _,λ p hp=>by cases hp⟩,?_,?_⟩⟩
 . rintro i y env j hy ⟨wk,x5,x6,rfl,wl,hw⟩
   obtain ⟨hi,rfl⟩:=Jk6 hy
   refine ⟨⟨by decide,by decide,by decide⟩,⟨by decide,by decide,by decide⟩,J4g,X6 (by rw [hs];rfl),4,rfl,by decide,by decide +kernel,λ r r0 r1=>?_⟩
   obtain ⟨often,hof,ho1,ho2⟩:∃ often:Int,atI [Qo 1,.int 2,.int (10^50*10^46),.int 7] r=some (.int often)/\1<=often/\often<=10^96:=by
    have:r=0\/r=1\/r=2\/r=3:=by omega
    rcases this with rfl | rfl | rfl | rfl<;>exact ⟨_,rfl,by decide,by decide +kernel⟩
   refine ⟨_,hof,_,.refl,R,U,ws,4,rfl,ok,⟨by decide,by decide⟩,λ ns hin hcl hlen=>⟨Yz,by rw [Qb];omega,wk++[(often,ns)],_,_,by rw [Qu];rfl,by rw [Qw,Xq];omega,λ p hp=>?_⟩⟩
   rcases Qz.mp hp with hp | hp
   . exact hw p hp
   . rw [Qm.mp hp];exact ⟨⟨ho1,hin,hcl⟩,ho2,by show ns.length<=16;omega⟩
 rintro env j ⟨wk,x5,x6,rfl,wl,hw⟩
 have wl3:wk.length<=3:=by
  rw [Y5] at wl
  omega
 have hclo:∀ p∈wk,Clo ws p:=λ p hp=>(hw p hp).1
 refine ⟨_,.fz 4 _ rfl .refl,?_⟩
 refine ⟨R,U,ws,wk,rfl,ok,λ p hp=>(hclo p hp).2.1,?_⟩
 have hc:CntOk R ws (Be ws wk) wk:=Jyy hclo
 have hbd:∀ i:Nat,i<ws.length->(Be ws wk).getD i 0<=10^99:=λ i hi=>by
  have:=Jyz (ws:=ws) (wk:=wk) (B:=10^96*16) (i:=i) (λ p hp=>⟨by have:=(hclo p hp).1;omega,Int.mul_le_mul (hw p hp).2.1 (by have:=(hw p hp).2.2;omega) (by omega) (by decide +kernel)⟩) (by decide +kernel) hi
  have h4:(wk.length:Int)*(10^96*16)<=3*(10^96*16):=J7p (by omega) (by decide +kernel)
  exact J6j this (J6j h4 (by decide +kernel))
 generalize Be ws wk=cs at *
 have hl:=hc.ro.len
 have back:=Jwi hc hclo
 have hrr:=Jwv (R:=R) (U:=U) ok hl
 refine ⟨_,.refl,?_⟩
 refine ⟨⟨rfl,by rw [Qb];omega⟩,?_⟩
 rw [Jkw cs]
 refine Vc (λ i=>decide (0<cs.getD i 0)) (λ i=>.int (cs.getD i 0)) (λ i hi n K h1 h2=>Ze (λ c=>h1 c) h2) ?_
 rw [<- Jkw cs]
 rw [show (((Qf cs.length).filter λ i=>decide (0<cs.getD i 0)).map λ i=>Qo (cs.getD i 0))=(((Qf cs.length).filter λ i=>decide (0<cs.getD i 0)).map λ i=>cs.getD i 0).map .int by rw [Q0];rfl]
 refine ⟨Q9 _,Jvc (λ hne=>Z6 ?_) (λ _=>Wm ⟨_,_,_,_,_,_,_,_,_,rfl⟩)⟩
 have hno:=J2c hne
 refine ⟨X6 (by rw [hs];rfl),_,rfl,⟨⟨by omega,by omega,by show 1*U.toNat<=_;omega⟩,?_⟩⟩
 rw [Jjj,J2b]
 refine ⟨_,.refl,R,U,ws,cs,rfl,ok,hl,?_⟩
 refine ⟨λ i env _=>∃ x9 x10,env=[.jnk,.jar,.d (Jq R U ws),.d x,.d (.list (wk.map wkD)),x5,x6,.d (.tuple (cs.map .int)),.own (fl U.toNat (Jlx ws cs ((Yo R.toNat ws (onW cs)).take i))),x9,x10,x11],⟨_,_,rfl⟩,?_,?_⟩
 . rintro i y env j hy ⟨x9,x10,rfl⟩
   rw [Qs] at hy
   obtain ⟨rg,hrg,rfl⟩:=Uu.mp hy
   have hm:=Xa hrg
   have eon:onW (Ja6 cs rg)=rg:=J2a (Jnx hm)
   refine ⟨_,rfl,⟨by omega,by rw [Qb];omega⟩,⟨rfl,by rw [Y5];simp;omega⟩,?_⟩
   have eu:(((cs.map Qo).length:Nat):Int).toNat=cs.length:=by rw [Qb];exact Xb _
   rw [eu]
   unfold Jg1
   refine Y7 (λ i=>.int (cs.getD i 0*(if inD (.int (i:Int)) (rg.map .int)=true then 1 else 0))) (λ i hi n K hK=>?_) ?_
   . have e:((0:Int)+(i:Int)).toNat=i:=by omega
     have e2:((0:Int)+(i:Int))=(i:Int):=by omega
     refine Z6 ⟨_,Jnj (by omega) (by omega),rfl,Jdy rg,Jwy _,?_⟩
     rw [e,e2]
     exact hK
   rw [Jww]
   have ro':=Js8 ok hc.ro hrr back hm
   have hno':onW (Ja6 cs rg)≠[]:=by rw [eon];exact Jlt hm
   refine ⟨_,.fz 8 _ rfl .refl,R,U,ws,Ja6 cs rg,by rw [eon],ok,ro',hno',(λ i hi=>J2d hc.ro.nn (by decide +kernel) (by omega) (hbd i hi)),by rw [eon];exact Js7 hrr hm,Wm ⟨_,.refl,?_⟩⟩
   refine ⟨R,U,ws,Ja6 cs rg,rfl,ok,by rw [Jlu];exact hl,?_⟩
   rw [Jq6]
   refine ⟨_,_,_,_,rfl,rfl,rfl,⟨rfl,by rw [Br,Y6];omega⟩,?_⟩
   rw [Jg9]
   have hsn:(Yo R.toNat ws (onW cs)).take (i+1)=(Yo R.toNat ws (onW cs)).take i++[rg]:=by rw [J7w (Qr.mp hrg).1,(Qr.mp hrg).2]
   refine Y7 (λ p=>.int (Jlx ws cs ((Yo R.toNat ws (onW cs)).take (i+1)) p)) (λ p hp n K hK=>⟨rfl,rfl,Z6 ?_⟩) ⟨_,_,rfl⟩
   rw [hsn,Jwx] at hK
   exact hK
 . rintro env j ⟨x9,x10,rfl⟩
   rw [Qb,J5u]
   refine ⟨_,.refl,R,U,ws,cs,rfl,ok,hl,?_⟩
   have et:Jlx ws cs (Yo R.toNat ws (onW cs))=rgS ws cs:=funext λ p=>Jy2 hc.ro hrr back p
   have htl:(twI cs).length=ws.length:=by unfold twI;rw [Qb];exact hl
   rw [et,Jq6]
   refine neF (Wm ⟨_,.refl,⟨rfl,by rw [Qb];omega⟩,?_⟩)
   refine Jbv J4h (λ x hx n K hK=>?_) ?_
   . obtain ⟨c,hc,rfl⟩:=Ql.mp hx
     exact Z6 ⟨.inl ⟨by decide,by decide⟩,hK⟩
   rw [Jy6]
   refine ⟨_,.refl,R,U,ws,twI cs,rfl,ok,htl,⟨rfl,by rw [Y6];omega⟩,?_⟩
   rw [Jq6]
   unfold fl
   refine Y7 (λ p=>.int (rgS ws (twI cs) p)) (λ p hp n K hK=>Z6 ⟨.inl ⟨by decide,by decide⟩,?_⟩) ?_
   . rw [Jy3] at hK
     exact hK
   refine neF (U:=U) (f:=rgS ws (twI cs)) (Wm ⟨_,.refl,R,U,ws,twI cs,rfl,ok,htl,R,U,ws,cs,rfl,ok,hl,?_⟩)
   rw [J4e]
   exact Jy5 (Wm ⟨_,_,_,_,_,_,_,_,_,rfl⟩)
end
theorem all_mk {l:J81}{w:Yci}{K:Qc}{h:Heap}{mg:Str->Option Ycf}{fa f4:Addr}(X:K.In h) (G:h.Ns Ycq mg) (hfa:mg "law" = some (.ref fa)) (T:Txt mg) {z:L2.Er}(Z:L2.ErW K mg z)
 (Mg:Def K mg "is_whole" Jc0 ["thing"]) (Mh:Def K mg "is_tuple_of" Jaf ["thing","many"]) (Mi:Def K mg "are_numbers" V0 ["thing","many"]) (Mj:Def K mg "is_balanced" Jag ["book","counts"]) (Mk:Def K mg "is_round" Jc1 ["book","counts"]) (Ml:Def K mg "_law_mix" Je1 ["one"]) (Mm:Def K mg "_law_jar" Je2 ["script"]) (Mn:Def K mg "_law_pick" Jc2 ["jar","many"]) (Mo:Def K mg "_law_gain" Jc3 ["jar"]) (Mp:Def K mg "_law_book" Jba ["jar","most_rooms","most_ways"]) (Mq:Def K mg "_law_from" Jbb ["book","room"]) (Mr:Def K mg "_law_back" Jc5 ["book","first","last"]) (Ms:Def K mg "told_length" V2 ["told"]) (Mt:Def K mg "ends_of_row" V1 ["ends"]) (Mu:Def K mg "told_ends" B8 ["book","told"]) (Mv:Def K mg "put_to" Jd7 ["numbers","gains"]) (Mw:Def K mg "over_and_over" Zz ["gains","needs","many"]) (Mx:Def K mg "gain_and_need" Zm ["book","told"]) (Mz:Def K mg "told_gain" Jb2 ["book","told"]) (M0:Def K mg "told_need" Jb3 ["book","told"]) (M1:Def K mg "told_done" B9 ["book","stand","told"]) (M3:Def K mg "rooms_reached" Zl ["book","some"]) (M4:Def K mg "rings_of" Ja7 ["book","some"]) (M5:Def K mg "parts_of" Ja8 ["book","counts"]) (M6:Def K mg "round_gain" Vh ["book","counts"]) (M7:Def K mg "short_turn" Bi ["book","counts"]) (M8:Def K mg "turns_of" Ja9 ["book","counts"]) (M9:Def K mg "lay_turn" Vq ["book","row","rooms","turn"]) (Ta:Def K mg "walk_of" Jce ["book","counts","room"]) (Tb:Def K mg "_law_walk" Jc4 ["jar","book","most"]) (Tc:Def K mg "_law_closed" Jbc ["jar","book","most"]) (Te:Def K mg "_law_counts" Jbd ["book","walks"]) (Tf:Def K mg "_law_is_done" Jah ["book","stand","told"]) (Tg:Def K mg "_law_part_right" Wh ["book","part","counts"])
 {od4 an4:Option Addr} {sl4:Array (Option Ycf)} {oc4 kV4 dc4 pm4 cd4 ct4:Ycf} (a4:J62 K Ycq "law" = some (some (.ref f4)))
 (l4:K.lookup f4=some ⟨oc4,od4,.func (Ux "law" "law" (B1 Jaa) (Vv Jaa) (Jf Jaa) .none kV4 dc4 pm4 an4 cd4 ct4),sl4⟩) (c4:J6v K cd4 "law" = true) (k4:J5v K (.ref f4)=true) :
 ∃ fd:Ycu,(∀ (s:Ycg) (v:Ycf),Ydf s fd ⟨[v],[]⟩ [("script",v)])/\∀ base:Heap,K.In base->base.Ns Ycq mg->FnOk l.prog w K mg base CX0 14 fa fd ["script"] (Jml K):=by
 have e:=hfa.symm.trans (J63 X G a4)
 cases e
 have F4:=Jos (st:=Jaa) l4 c4 k4
 refine ⟨Ux "law" "law" (B1 Jaa) (Vv Jaa) (Jf Jaa) .none kV4 dc4 pm4 an4 cd4 ct4,λ s v=>.of_eq rfl,λ base _ _=>?_⟩
 have G4:Cal l.prog w K mg base "is_whole" 1 ["thing"] Jfn:=Jnz T Mg
 have Gi:Cal l.prog w K mg base "is_whole" 1 ["thing"] (Jp Jk1):=G4.imp Jta
 have Gm:Cal l.prog w K mg base "is_tuple_of" 1 ["thing","many"] Jt5:=Jh2 T Mh
 have Gn:Cal l.prog w K mg base "are_numbers" 2 ["thing","many"] Jo6:=Jh4 T Mi Gm G4
 have Go:Cal l.prog w K mg base "is_balanced" 1 ["book","counts"] Jum:=Jh5 T Mj
 have Th:Cal l.prog w K mg base "is_round" 3 ["book","counts"] Jkq:=Jn1 T Mk Gn Go
 have Gy:Cal l.prog w K mg base "is_round" 3 ["book","counts"] (Jp Jlf):=Th.imp Jsr
 have G5:Cal l.prog w K mg base "_law_mix" 1 ["one"] Jqc:=Jpv T Ml
 have Ti:Cal l.prog w K mg base "_law_jar" 2 ["script"] (Jqd K):=Jpw T Mm G5
 have Tj:Cal l.prog w K mg base "_law_pick" 2 ["jar","many"] Jki:=Jly T Mn G5
 have Gk:Cal l.prog w K mg base "_law_pick" 2 ["jar","many"] (Jp Jcw):=Tj.imp Ju0
 have Tk:Cal l.prog w K mg base "_law_gain" 3 ["jar"] (Jp Jkv):=Jn2 T Mo Gk
 have Tl:Cal l.prog w K mg base "_law_book" 4 ["jar","most_rooms","most_ways"] (Jp Jpb):=Jn3 T Mp Gk Tk
 have G6:Cal l.prog w K mg base "_law_from" 1 ["book","room"] Jkl:=Jn5 T Mq
 have Tm:Cal l.prog w K mg base "_law_from" 1 ["book","room"] (Jck Jpc):=G6.imp Ju2
 have Tn:Cal l.prog w K mg base "_law_back" 2 ["book","first","last"] Jo7:=Jn6 T Mr G6
 have To:Cal l.prog w K mg base "_law_back" 2 ["book","first","last"] (Jp Jpd):=Tn.imp Ju3
 have Gf:Cal l.prog w K mg base "told_length" 7 ["told"] (Jp (Jqq 6)):=Jh6 T Ms 6
 have Gq:Cal l.prog w K mg base "ends_of_row" 1 ["ends"] (Jp Jet):=Jh8 T Mt
 have Gd:Cal l.prog w K mg base "told_ends" 8 ["book","told"] (Jp (Jkx 6)):=Jlz T Mu Gq 6
 have Gg:Cal l.prog w K mg base "put_to" 1 ["numbers","gains"] (Jp Jfw):=Jtc T Mv
 have Gr:Cal l.prog w K mg base "over_and_over" 1 ["gains","needs","many"] (Jp Jpf):=Je3 T Mw
 have Gb:Cal l.prog w K mg base "gain_and_need" 8 ["book","told"] (Jp (Ju6 6)):=Je4 T Mx Gr Gg 6
 have G3:Cal l.prog w K mg base "told_gain" 9 ["book","told"] (Jp (Jky 6)):=Jl0 T Mz 6 Gb
 have G0:Cal l.prog w K mg base "told_need" 9 ["book","told"] (Jp (Jkz 6)):=Jl1 T M0 6 Gb
 have Gh:Jmm l.prog w K mg base "told_done" 9 ["book","stand","told"] (Jfh (Jfx z 6)):=Jl2 T Z M1 Gd Gb Gg
 have Gs:Cal l.prog w K mg base "rooms_reached" 1 ["book","some"] (Jp Jk8):=Je5 T M3
 have Gu:Cal l.prog w K mg base "rings_of" 2 ["book","some"] (Jp Jlb):=Jn7 T M4 Gs
 have Gc:Cal l.prog w K mg base "parts_of" 3 ["book","counts"] (Jp Jdw):=Jn9 T M5 Gu
 have Ge:Cal l.prog w K mg base "round_gain" 1 ["book","counts"] (Jp Jfy):=Jih T M6
 have Gv:Cal l.prog w K mg base "short_turn" 1 ["book","counts"] (Jck Jf2):=Jii T M7
 have Gw:Cal l.prog w K mg base "turns_of" 2 ["book","counts"] (Jp Jlo):=Joa T M8 Gv
 have Gx:Cal l.prog w K mg base "lay_turn" 1 ["book","row","rooms","turn"] (Jcc Jwe):=Job T M9
 have Gz:Cal l.prog w K mg base "walk_of" 4 ["book","counts","room"] (Jp Jlr):=Jpx T Ta Gc Gi Gw Gx
 have Tp:Cal l.prog w K mg base "_law_walk" 3 ["jar","book","most"] (Jp Jld):=Joc T Tb Gk Tm
 have Tq:Cal l.prog w K mg base "_law_closed" 4 ["jar","book","most"] (Jp Jhq):=Jij T Tc Tp To
 have Tr:Cal l.prog w K mg base "_law_counts" 1 ["book","walks"] (Jp Jez):=Jik T Te
 have Ts:Cal l.prog w K mg base "_law_is_done" 10 ["book","stand","told"] (Jp Jd6):=Jh9 T Z Tf Gh
 have Tt:Cal l.prog w K mg base "_law_part_right" 11 ["book","part","counts"] (Jp B6):=Jea T Z Tg Gy Gc Gz Ge G0 Gf G3 Gd Gh Ts
 exact J2e T F4 Ti Gk Tl Tq Tr Gc Tt Ge
theorem walk {l:J81}{q:Ycj}{loose:List Str}{XP:(Str->Option Ycf)->Heap->Prop}{YP:Yci->Heap->Prop}{d:DefRec}{K:Params->Qc}(hn:l.most=some 63) (hdf:d.params.defaults=[])
 (hY:∀ (w:Yci) (h:Heap),YP w h->(K w.params).In h)
 (F:∀ (w:Yci) (mg:Str->Option Ycf) (fa:Addr) (h:Heap),(K w.params).In h->h.Ns Ycq mg->mg d.name=some (.ref fa) ->
  ∃ fd:Ycu,(∀ (s:Ycg) (u:Ycf),Ydf s fd ⟨[u],[]⟩ [("script",u)])/\∀ base:Heap,(K w.params).In base->base.Ns Ycq mg->FnOk l.prog w (K w.params) mg base CX0 14 fa fd ["script"] (Jml (K w.params))) :
 Yar q loose XP YP l.row.toRowW d [] (λ f vs=>J80 f vs):=
 L2.walk_of (n:=63) (k:=14) (x:="script") (CX:=λ _=>CX0) (sp:=λ w=>Jml (K w.params)) hn (by decide) hdf ⟨rfl,by decide,by decide,rfl⟩ hY F (λ _ _ a ns hl _ hS=>⟨a,ns,rfl,hS,hl,λ _=>rfl⟩) λ _ _ _ _ _ z=>z
end My
end
theorem PySem.W.Fast.tw14339270103613490284 : True := trivial
theorem PySem.W.Fast.tw2061613011333908962 : True := trivial
theorem PySem.W.Fast.tw14792578592371300246 : True := trivial
theorem PySem.W.Fast.tw4685484507291273110 : True := trivial
theorem PySem.W.Fast.tw10267811066985560763 : True := trivial
theorem PySem.W.Fast.tw7240365258786565419 : True := trivial
theorem PySem.W.Fast.tw17227295922660680734 : True := trivial
theorem PySem.W.Fast.tw17827250978009170208 : True := trivial
theorem PySem.W.Fast.tw17849085037746417294 : True := trivial
theorem PySem.W.Fast.tw7132941881612740061 : True := trivial
theorem PySem.W.Fast.tw10616836338011985333 : True := trivial
theorem PySem.W.Fast.tw105676219963442983 : True := trivial
theorem PySem.W.Fast.tw16744783517992490799 : True := trivial
theorem PySem.W.Fast.tw11252569687186188685 : True := trivial
theorem PySem.W.Fast.tw6531939097370882785 : True := trivial
theorem PySem.W.Fast.tw17703735571664099102 : True := trivial
theorem PySem.W.Fast.tw18332563932360787920 : True := trivial
theorem PySem.W.Fast.tw2364605730116895826 : True := trivial
theorem PySem.W.Fast.tw9829929707526277962 : True := trivial
theorem PySem.W.Fast.tw16940223495700027409 : True := trivial
theorem PySem.W.Fast.tw8788440869110797566 : True := trivial
theorem PySem.W.Fast.tw4748112578813298213 : True := trivial
theorem PySem.W.Fast.tw1757941075886144774 : True := trivial
theorem PySem.W.Fast.tw1861747607895683384 : True := trivial
theorem PySem.W.Fast.tw1550058715671000459 : True := trivial
theorem PySem.W.Fast.tw7636002497258562960 : True := trivial
theorem PySem.W.Fast.tw1009029641048645089 : True := trivial
theorem PySem.W.Fast.tw6388401683798409286 : True := trivial
theorem PySem.W.Fast.tw1488950933837026568 : True := trivial
theorem PySem.W.Fast.tw8771769694608199958 : True := trivial
theorem PySem.W.Fast.tw10196161139520809920 : True := trivial
theorem PySem.W.Fast.tw12377513263636303100 : True := trivial
theorem PySem.W.Fast.tw14392975931592356349 : True := trivial
theorem PySem.W.Fast.tw528611859714905969 : True := trivial
theorem PySem.W.Fast.tw2509303418553845859 : True := trivial
open PySem PySem.W PyProof.Rows
set_option maxRecDepth 100000 in
set_option maxHeartbeats 0 in
theorem PySem.Challenge.cw_fallsum_k25_whole_rounds_part_by_part_holds : PySem.Challenge.rw_fallsum_k25_whole_rounds_part_by_part.Holds := by
  w_on; o_law; k_head; (case hw => w_witness2)
  k_fill
  refine My.walk (l := PySem.Challenge.rw_fallsum_k25_whole_rounds_part_by_part) rfl rfl (fun w h Y => PySem.W.kIn_of Y) ?F
  case F =>
    intro w mg fa h KX G hmg
    refine' My.all_mk KX G hmg ⟨PySem.W.mg_none_of KX G ?z_isinstance, PySem.W.mg_none_of KX G ?z_int, PySem.W.mg_none_of KX G ?z_bool, PySem.W.mg_none_of KX G ?z_str, PySem.W.mg_none_of KX G ?z_tuple, PySem.W.mg_none_of KX G ?z_len, PySem.W.mg_none_of KX G ?z_all, PySem.W.mg_none_of KX G ?z_sum, PySem.W.mg_none_of KX G ?z_range, PySem.W.mg_none_of KX G ?z_list, PySem.W.mg_none_of KX G ?z_zip, PySem.W.mg_none_of KX G ?z_enumerate, PySem.W.mg_none_of KX G ?z_min, PySem.W.mg_none_of KX G ?z_max, PySem.W.mg_none_of KX G ?z_any⟩ (L2.erW_mk KX G ?er)
      (L2.def_mk KX G ?a_is_whole ?l_is_whole ?c_is_whole ?k_is_whole (fun _ _ _ _ _ _ us hl => match us, hl with | [_], _ => rfl))
      (L2.def_mk KX G ?a_is_tuple_of ?l_is_tuple_of ?c_is_tuple_of ?k_is_tuple_of (fun _ _ _ _ _ _ us hl => match us, hl with | [_, _], _ => rfl))
      (L2.def_mk KX G ?a_are_numbers ?l_are_numbers ?c_are_numbers ?k_are_numbers (fun _ _ _ _ _ _ us hl => match us, hl with | [_, _], _ => rfl))
      (L2.def_mk KX G ?a_is_balanced ?l_is_balanced ?c_is_balanced ?k_is_balanced (fun _ _ _ _ _ _ us hl => match us, hl with | [_, _], _ => rfl))
      (L2.def_mk KX G ?a_is_round ?l_is_round ?c_is_round ?k_is_round (fun _ _ _ _ _ _ us hl => match us, hl with | [_, _], _ => rfl))
      (L2.def_mk KX G ?a_law_mix ?l_law_mix ?c_law_mix ?k_law_mix (fun _ _ _ _ _ _ us hl => match us, hl with | [_], _ => rfl))
      (L2.def_mk KX G ?a_law_jar ?l_law_jar ?c_law_jar ?k_law_jar (fun _ _ _ _ _ _ us hl => match us, hl with | [_], _ => rfl))
      (L2.def_mk KX G ?a_law_pick ?l_law_pick ?c_law_pick ?k_law_pick (fun _ _ _ _ _ _ us hl => match us, hl with | [_, _], _ => rfl))
      (L2.def_mk KX G ?a_law_gain ?l_law_gain ?c_law_gain ?k_law_gain (fun _ _ _ _ _ _ us hl => match us, hl with | [_], _ => rfl))
      (L2.def_mk KX G ?a_law_book ?l_law_book ?c_law_book ?k_law_book (fun _ _ _ _ _ _ us hl => match us, hl with | [_, _, _], _ => rfl))
      (L2.def_mk KX G ?a_law_from ?l_law_from ?c_law_from ?k_law_from (fun _ _ _ _ _ _ us hl => match us, hl with | [_, _], _ => rfl))
      (L2.def_mk KX G ?a_law_back ?l_law_back ?c_law_back ?k_law_back (fun _ _ _ _ _ _ us hl => match us, hl with | [_, _, _], _ => rfl))
      (L2.def_mk KX G ?a_told_length ?l_told_length ?c_told_length ?k_told_length (fun _ _ _ _ _ _ us hl => match us, hl with | [_], _ => rfl))
      (L2.def_mk KX G ?a_ends_of_row ?l_ends_of_row ?c_ends_of_row ?k_ends_of_row (fun _ _ _ _ _ _ us hl => match us, hl with | [_], _ => rfl))
      (L2.def_mk KX G ?a_told_ends ?l_told_ends ?c_told_ends ?k_told_ends (fun _ _ _ _ _ _ us hl => match us, hl with | [_, _], _ => rfl))
      (L2.def_mk KX G ?a_put_to ?l_put_to ?c_put_to ?k_put_to (fun _ _ _ _ _ _ us hl => match us, hl with | [_, _], _ => rfl))
      (L2.def_mk KX G ?a_over_and_over ?l_over_and_over ?c_over_and_over ?k_over_and_over (fun _ _ _ _ _ _ us hl => match us, hl with | [_, _, _], _ => rfl))
      (L2.def_mk KX G ?a_gain_and_need ?l_gain_and_need ?c_gain_and_need ?k_gain_and_need (fun _ _ _ _ _ _ us hl => match us, hl with | [_, _], _ => rfl))
      (L2.def_mk KX G ?a_told_gain ?l_told_gain ?c_told_gain ?k_told_gain (fun _ _ _ _ _ _ us hl => match us, hl with | [_, _], _ => rfl))
      (L2.def_mk KX G ?a_told_need ?l_told_need ?c_told_need ?k_told_need (fun _ _ _ _ _ _ us hl => match us, hl with | [_, _], _ => rfl))
      (L2.def_mk KX G ?a_told_done ?l_told_done ?c_told_done ?k_told_done (fun _ _ _ _ _ _ us hl => match us, hl with | [_, _, _], _ => rfl))
      (L2.def_mk KX G ?a_rooms_reached ?l_rooms_reached ?c_rooms_reached ?k_rooms_reached (fun _ _ _ _ _ _ us hl => match us, hl with | [_, _], _ => rfl))
      (L2.def_mk KX G ?a_rings_of ?l_rings_of ?c_rings_of ?k_rings_of (fun _ _ _ _ _ _ us hl => match us, hl with | [_, _], _ => rfl))
      (L2.def_mk KX G ?a_parts_of ?l_parts_of ?c_parts_of ?k_parts_of (fun _ _ _ _ _ _ us hl => match us, hl with | [_, _], _ => rfl))
      (L2.def_mk KX G ?a_round_gain ?l_round_gain ?c_round_gain ?k_round_gain (fun _ _ _ _ _ _ us hl => match us, hl with | [_, _], _ => rfl))
      (L2.def_mk KX G ?a_short_turn ?l_short_turn ?c_short_turn ?k_short_turn (fun _ _ _ _ _ _ us hl => match us, hl with | [_, _], _ => rfl))
      (L2.def_mk KX G ?a_turns_of ?l_turns_of ?c_turns_of ?k_turns_of (fun _ _ _ _ _ _ us hl => match us, hl with | [_, _], _ => rfl))
      (L2.def_mk KX G ?a_lay_turn ?l_lay_turn ?c_lay_turn ?k_lay_turn (fun _ _ _ _ _ _ us hl => match us, hl with | [_, _, _, _], _ => rfl))
      (L2.def_mk KX G ?a_walk_of ?l_walk_of ?c_walk_of ?k_walk_of (fun _ _ _ _ _ _ us hl => match us, hl with | [_, _, _], _ => rfl))
      (L2.def_mk KX G ?a_law_walk ?l_law_walk ?c_law_walk ?k_law_walk (fun _ _ _ _ _ _ us hl => match us, hl with | [_, _, _], _ => rfl))
      (L2.def_mk KX G ?a_law_closed ?l_law_closed ?c_law_closed ?k_law_closed (fun _ _ _ _ _ _ us hl => match us, hl with | [_, _, _], _ => rfl))
      (L2.def_mk KX G ?a_law_counts ?l_law_counts ?c_law_counts ?k_law_counts (fun _ _ _ _ _ _ us hl => match us, hl with | [_, _], _ => rfl))
      (L2.def_mk KX G ?a_law_is_done ?l_law_is_done ?c_law_is_done ?k_law_is_done (fun _ _ _ _ _ _ us hl => match us, hl with | [_, _, _], _ => rfl))
      (L2.def_mk KX G ?a_law_part_right ?l_law_part_right ?c_law_part_right ?k_law_part_right (fun _ _ _ _ _ _ us hl => match us, hl with | [_, _, _], _ => rfl))
      ?a4 ?l4 ?c4 ?k4
    (case z_isinstance => k_is)
    (case z_int => k_is)
    (case z_bool => k_is)
    (case z_str => k_is)
    (case z_tuple => k_is)
    (case z_len => k_is)
    (case z_all => k_is)
    (case z_sum => k_is)
    (case z_range => k_is)
    (case z_list => k_is)
    (case z_zip => k_is)
    (case z_enumerate => k_is)
    (case z_min => k_is)
    (case z_max => k_is)
    (case z_any => k_is)
    (case a_is_whole => k_is)
    (case l_is_whole => k_is)
    (case c_is_whole => k_is)
    (case k_is_whole => k_is)
    (case a_is_tuple_of => k_is)
    (case l_is_tuple_of => k_is)
    (case c_is_tuple_of => k_is)
    (case k_is_tuple_of => k_is)
    (case a_are_numbers => k_is)
    (case l_are_numbers => k_is)
    (case c_are_numbers => k_is)
    (case k_are_numbers => k_is)
    (case a_is_balanced => k_is)
    (case l_is_balanced => k_is)
    (case c_is_balanced => k_is)
    (case k_is_balanced => k_is)
    (case a_is_round => k_is)
    (case l_is_round => k_is)
    (case c_is_round => k_is)
    (case k_is_round => k_is)
    (case a_law_mix => k_is)
    (case l_law_mix => k_is)
    (case c_law_mix => k_is)
    (case k_law_mix => k_is)
    (case a_law_jar => k_is)
    (case l_law_jar => k_is)
    (case c_law_jar => k_is)
    (case k_law_jar => k_is)
    (case a_law_pick => k_is)
    (case l_law_pick => k_is)
    (case c_law_pick => k_is)
    (case k_law_pick => k_is)
    (case a_law_gain => k_is)
    (case l_law_gain => k_is)
    (case c_law_gain => k_is)
    (case k_law_gain => k_is)
    (case a_law_book => k_is)
    (case l_law_book => k_is)
    (case c_law_book => k_is)
    (case k_law_book => k_is)
    (case a_law_from => k_is)
    (case l_law_from => k_is)
    (case c_law_from => k_is)
    (case k_law_from => k_is)
    (case a_law_back => k_is)
    (case l_law_back => k_is)
    (case c_law_back => k_is)
    (case k_law_back => k_is)
    (case a_told_length => k_is)
    (case l_told_length => k_is)
    (case c_told_length => k_is)
    (case k_told_length => k_is)
    (case a_ends_of_row => k_is)
    (case l_ends_of_row => k_is)
    (case c_ends_of_row => k_is)
    (case k_ends_of_row => k_is)
    (case a_told_ends => k_is)
    (case l_told_ends => k_is)
    (case c_told_ends => k_is)
    (case k_told_ends => k_is)
    (case a_put_to => k_is)
    (case l_put_to => k_is)
    (case c_put_to => k_is)
    (case k_put_to => k_is)
    (case a_over_and_over => k_is)
    (case l_over_and_over => k_is)
    (case c_over_and_over => k_is)
    (case k_over_and_over => k_is)
    (case a_gain_and_need => k_is)
    (case l_gain_and_need => k_is)
    (case c_gain_and_need => k_is)
    (case k_gain_and_need => k_is)
    (case a_told_gain => k_is)
    (case l_told_gain => k_is)
    (case c_told_gain => k_is)
    (case k_told_gain => k_is)
    (case a_told_need => k_is)
    (case l_told_need => k_is)
    (case c_told_need => k_is)
    (case k_told_need => k_is)
    (case a_told_done => k_is)
    (case l_told_done => k_is)
    (case c_told_done => k_is)
    (case k_told_done => k_is)
    (case a_rooms_reached => k_is)
    (case l_rooms_reached => k_is)
    (case c_rooms_reached => k_is)
    (case k_rooms_reached => k_is)
    (case a_rings_of => k_is)
    (case l_rings_of => k_is)
    (case c_rings_of => k_is)
    (case k_rings_of => k_is)
    (case a_parts_of => k_is)
    (case l_parts_of => k_is)
    (case c_parts_of => k_is)
    (case k_parts_of => k_is)
    (case a_round_gain => k_is)
    (case l_round_gain => k_is)
    (case c_round_gain => k_is)
    (case k_round_gain => k_is)
    (case a_short_turn => k_is)
    (case l_short_turn => k_is)
    (case c_short_turn => k_is)
    (case k_short_turn => k_is)
    (case a_turns_of => k_is)
    (case l_turns_of => k_is)
    (case c_turns_of => k_is)
    (case k_turns_of => k_is)
    (case a_lay_turn => k_is)
    (case l_lay_turn => k_is)
    (case c_lay_turn => k_is)
    (case k_lay_turn => k_is)
    (case a_walk_of => k_is)
    (case l_walk_of => k_is)
    (case c_walk_of => k_is)
    (case k_walk_of => k_is)
    (case a_law_walk => k_is)
    (case l_law_walk => k_is)
    (case c_law_walk => k_is)
    (case k_law_walk => k_is)
    (case a_law_closed => k_is)
    (case l_law_closed => k_is)
    (case c_law_closed => k_is)
    (case k_law_closed => k_is)
    (case a_law_counts => k_is)
    (case l_law_counts => k_is)
    (case c_law_counts => k_is)
    (case k_law_counts => k_is)
    (case a_law_is_done => k_is)
    (case l_law_is_done => k_is)
    (case c_law_is_done => k_is)
    (case k_law_is_done => k_is)
    (case a_law_part_right => k_is)
    (case l_law_part_right => k_is)
    (case c_law_part_right => k_is)
    (case k_law_part_right => k_is)
    (case a4 => k_is)
    (case l4 => k_is)
    (case c4 => k_is)
    (case k4 => k_is)
    (case er => kernel_rfl)
