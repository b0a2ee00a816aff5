import PyProof.Rows.All
import Wide.All
import OpenK.AllK
import Wide.FinOn
import Lean
import PyProof.EqAt
import PyProof.EqKinds
import PyProof.TupleCall
import KE.KTryMore
import OpenK.KOwn
import PyProof.Rows.CatchOwn
import PyProof.StrLawsTight
import PyProof.StrLawsJoin
import PyProof.ExcInit
import PyProof.ExcClass2
import PyProof.InstStore
import PyProof.AttrMissSeq
import PySem.Challenge.RW_fallsum_k57_whole_purses_along_walks
set_option Elab.async false
set_option linter.all false
set_option maxRecDepth 100000
section
open Or renaming inl->Qa,inr->Qo
open List renaming length_map->Qb,getElem?_eq_getElem->Qd,mem_cons->Qf,getD_eq_getElem?_getD->Qg,getElem?_map->Qh,mem_cons_self->Qi,mem_cons_of_mem->Qj,range->Ql,mem_map->Qn,getElem?_eq_some_iff->Qp,length_set->Qr,mem_singleton->Qs,map_map->Qv,replicate->Qw,length_range->Qx,getElem?_eq_none->Qy,map_cons->Qz,getElem?_set_self->Q2,getElem?_set_ne->Q3,mem_range->Q6,length_append->Q7,mem_append->Q8,size_toArray->Xa,map_append->Xd,mem_append_right->Xf,mem_of_getElem?->Xg,getElem?_range->Xk,mem_filter->Xm,mem_append_left->Xn,getElem_mem->Xo,nodup_cons->Xq,ext_getElem?->Xu,not_mem_nil->X2,all_eq_true->X3,map_congr_left->X5,map_set->X6,length_cons->Ub,length_replicate->Uc,length_eraseIdx_of_lt->Ue,length_singleton->Uj,mem_iff_getElem?->Ul,getElem?_append_left->Uo,append_nil->Us,lookup_cons->Ut,getElem?_zipWith->Uw,getElem?_append_right->U2,replicate_succ->U4,of_mem_zip->U9,getElem?_replicate->J21,mem_replicate->J24,lookup->J27,map_nil->J28,any_cons->J29,flatten_cons->J3a,map_replicate->J3c,length_pos_iff->J3m,cons_append->J3n,length_drop->J3z,all_cons->J31,zipWith->J35,map_drop->J37,range_succ->J39,getElem?_set->J4b,length_zip->J4c,map_singleton->J4e,getElem?_eraseIdx->J4f,length_take->J4m,mem_iff_getElem->J4q,take_of_length_le->J4r,map_take->J4s,getElem?_mapIdx->J4x,length_zipWith->J4y,filter_cons_of_pos->J40,filter_cons_of_neg->J41,nodup_append->J42,pairwise_iff_getElem->J43,take_add_one->J46,foldl_append->J47,zip_cons_cons->J49,zip->J5a,pairwise_map->J5c,map_eq_nil_iff->J5d,map_const'->J5i,take_length->J5j,filterMap_cons->J5p,getElem_inj->J5q,mem_filterMap->J5v,any_eq_false->J5x,length->J55,foldl->J57,foldl_cons->J58,forIn_cons->J6d,getElem?_drop->J6e,forIn_nil->J6k,drop_eq_getElem_cons->J6q,drop_length->J6r,set_set->J6s,pairwise_lt_range->J6t,filter_congr->J6u,length_filter_le->J6x,zipWith_cons_cons->J6y,map_zipWith->J6z,set_comm->J7i,append_assoc->J7p,nil_append->J7q,drop_of_length_le->J73,length_eq_zero_iff->J74,dropLast_concat_getLast->J75,any_eq_true->J77,length_mapIdx->J79,getLast?_eq_getElem?->J8a,range_succ_eq_map->J8b,set_append_right->J8i,sum_append->J8j,sum_singleton->J8k,filter_eq_nil_iff->J8l,lookup_cons_self->J8m,range_add->J8z,mem_of_mem_take->J80,sum_cons->J82
open PySem.W renaming Frag->Qc,fnOf->X0,findIn->Uh,keepIn->Ui,kia_one->Um,emptyDict->U0,instObj->U8,codeIn->J22,isFn->J3w,lookIn->J4i,plainGet->J4j,methodObj->J5o,hasDictIn->J5y,plainGet_of->J5z,takerIn->J50,makesIn->J51,kitOne->J52,callWith_K->J53,OpenLaw->J6c,nsIn->J6h,mg_of->J6i,handedIn->J7j,plainOver->J7k,kitx_list->J7l,kitx_dict->J7m,cellsFrom_some->J7n,WalkO->J7s
open Ne renaming symm->Qk
open Nat renaming le_refl->Qm,lt_of_lt_of_le->Q1,ne_of_lt->Q5,lt_irrefl->Xc,le_trans->Xi,le_of_ble_eq_true->Xl,zero_le->Xz,lt_or_ge->X1,le_of_lt->Uy,gcd->J3d,le_of_not_lt->J3k,ne_of_gt->J3t,lt_succ_self->J3x,lt_of_le_of_lt->J32,lt_succ_of_lt->J34,le_add_right->J38,sub_self->J4d,le_of_eq->J4k,le_succ_of_le->J48,pow_le_pow_right->J5e,two_pow_pos->J5f,le_succ->J54,mul_comm->J59,log2_lt->J6g,le_total->J6l,min_eq_left->J6m,not_lt_zero->J6n,le_of_succ_le->J6p,lt_trichotomy->J60,lt_of_succ_lt->J67,min_eq_right->J72,min_le_left->J8c,add_mul_mod_self_left->J8q,mod_eq_of_lt->J8r,dvd_trans->J8w
open PySem.PyData renaming int->Qq,list->X4,tuple->Ud,eqv->Uv,canLay0->U5,canLayAll0->J3b,bool->J4a,depthAll->J6v,depth->J6w
open PySem.Heap renaming lt_size->Qt,get?_push_of_some->Qu,get?_push_size->Q9,size_push->Xv,SameBut->Xy,get?_update_other->U3,get?_update_self->J4n
open Int renaming toNat_natCast->Q0,natCast_nonneg->Xb,mul_zero->Xt,zero_mul->Xx,mul_comm->X8,mul_left_comm->Up,one_mul->Ux,zero_add->U6,mul_assoc->U7,le_refl->J25,emod_nonneg->J26,toNat_of_nonneg->J3f,emod_lt_of_pos->J3g,mul_add->J3o,natAbs_of_nonneg->J36,mul_neg->J4g,neg_mul->J5b,nonneg_of_mul_nonneg_right->J5g,pos_of_mul_pos_right->J5h,mul_one->J5t,add_zero->J61,ne_of_gt->J62,sub_mul->J63,lt_or_le->J64,sub_zero->J68,mul_sub->J69,mul_nonneg->J7a,eq_of_mul_eq_mul_left->J8n,natAbs_mul->J8o,mul_nonpos_of_nonpos_of_nonneg->J8p,natAbs_neg->J8v,ofNat_dvd_left->J8x,mul_eq_zero->J81
open PySem.Value renaming ref->Q4,int->Uq,none->Ur,str->J3h,bool->J3i,type->J4h,float->J5l,isInt->J7b,isStrOf->J7c,bytes->J7f
open Bool renaming false_ne_true->Xe,and_eq_true->Xw,eq_iff_iff->Ug,false_and->J3u,false_eq_true->J33,or_false->J44,true_and->J45,or_eq_true->J6o,noConfusion->J7t,or_true->J78,true_or->J83,false_or->J84
open Sum renaming inl->Xh,inr->X9
open Option.some renaming inj->Xj
open PySem.PassesOwn renaming never->Xp
open PySem renaming mem_of_lookup->Xr,boot_len->Uf,Within->J5n,call->J6a,Value->J9g,PyData->J9h,Shared->J9i,wpAny->J9j,World->J9k,Program->J9l,Around->J9m,sizeLine_eq->J9n,Scope->J9o,IsPair->J9p,NameKind->J9q,mainGlobals->J9r,FuncData->J9s,IsZip->J9t,codeAny->J9u,sysModules->J9w,standAt->J9y,wpAny_loadPart'->J9z,Result->J91,Keyword->J92,wpAny_passesOwn->J93,wpAny_Call_Name_kw->J94,callerA->J95,seqItems?->J96,bootBuiltins->J97,swapsWith->J98,Operator->J99,release->Yaa,attributeBase->Yab,BindsTo->Yac,bindArgs->Yad,closureFor->Yaf,builtinsNs->Yag,foldedSetIterable->Yah,wpAny_execs_nil->Yak,behindInMarks->Yal,wpAny_callSpecial?_slot->Yam,wpAny_assign_Name->Yan,rangeSize_one->Yao,seqIndex_neg->Yap,nums_intItems->Yaq,codeAny_builtin->Yar,codeAny_compStart_list->Yau,exec_Assign_Name_used->Yav
open Option renaming some_ne_none->Xs,map_eq_some_iff->X7
open False renaming elim->Ua
open PySem.NameKind renaming free->Uk,cell->Uu
open PyProof.Rows renaming callWith_type1->Uz,boot_tuple->J9v,AllBare->J9x,boot_list->J90,IntsAre->Yae,boot_min->Yai,boot_all->Yaj,boot_isinstance->Yas,subscriptTail_builtinR->Yat
open True renaming intro->U1
open PySem.Builtin.SmallTypes renaming nextOf->J23,ownedTupleIsFree->J4v,ownedTupleHandOut->J7y
open PySem.F renaming plain_min_loop->J3e,plainAttrs_list->J3q,slot_list_append->J3r,type_list_append->J3s,slot_tuple_iterator_next->J4u,slot_zip_next->J4w,entry_min_loop->J65,slot_int_rmul->J7r,entry_tuple_iterator_next->J7w,args_tuple_iterator_next_1->J7x,entry_zip_next->J7z,args_zip_next_1->J70,slot_dict_setdefault->J8e,plainAttrs_dict->J8f,slot_dict_values->J8g,slot_tuple_lt->J8s,slot_list_iadd->J8u
open PySem.Calls renaming spliced_cons->J3j,spliced_nil->J3y,callWith_builtin->J56,Name_function_global->J7g,evalArgs_plain->J7o
open ForInStep renaming yield->J3l
open Classical renaming byContradiction->J3p
open PySem.Data renaming cell->J3v,fields->J5s,seq->J6b
open PySem.Obj renaming mapSeq->J30,data_mapFields->J7u
open PySem.Around renaming under->J4l,under_plainId->J66
open PySem.Builtin.List renaming listTooLong->J4o
open Eq renaming trans->J4p
open PySem.Str renaming ofString->J4t
open PySem.Builtin.Int renaming intBits->J4z
open Sum.inl renaming inj->J5k
open PySem.Paired renaming length->J5m
open Array renaming length_toList->J5r,toList->J7h,getElem?_eq_getElem->J71
open PySem.IsRange renaming new->J5u
open PySem.P renaming truthy_int->J5w
open PySem.Walks renaming list->J6f,tuple->J76
open PySem.Shared renaming heap->J6j
open PySem.SeqAt.EqAt renaming int_str->J7d,str_int->J7e
open PySem.Heap.SameBut renaming update->J7v
open PySem.SeqAt renaming eqv_refl->J8d
open Nat.succ renaming inj->J8h
open PySem.Builtin.Builtins renaming bindParams->J8t
open PySem.BindsTo renaming of_defaults->J8y
open PySem.Builtin.Range renaming rangeSize->J85
open PySem.EqMixed renaming eq_bool_str->J86,eq_int_str->J87,eq_str_bool->J88,eq_str_int->J89
open PySem.W.Looks renaming here->J9a
open PySem.Heap.IsSliceOf renaming new->J9b
open List.Pairwise renaming nil->J9c,filter->J9d,imp_of_mem->J9e
open PySem.Challenge renaming pw_fallsum_k57_whole_purses_along_walks->J9f
open PySem PySem.Spec PyProof.Rows
namespace L2
abbrev Key:=Sum Int Str
noncomputable def Jiy:Key->J9g->Bool
 | .inl k,v=>J7b k v
 | .inr x,v=>J7c x v
noncomputable def J15 (w:J9k):Key->Int
 | .inl k=>hashInt k
 | .inr x=>hashStr w x
theorem Zl:∀ {k:Key}{v:J9g},Jiy k v=true->(∃ i t,k=Xh i/\v=Uq i t)\/(∃ x t,k=X9 x/\v=J3h x t)
 | .inl i,v,h=>by
  obtain ⟨t,e⟩:=Value.isInt_shape (k:=i) (v:=v) h
  exact .inl ⟨i,t,rfl,e⟩
 | .inr x,v,h=>by
  obtain ⟨t,e⟩:=Value.isStrOf_shape (x:=x) (v:=v) h
  exact .inr ⟨x,t,rfl,e⟩
theorem Jqd (i:Int) (t:Tok):Jiy (.inl i) (.int i t)=true:=by simp [Jiy,J7b]
theorem Jqe (x:Str) (t:Tok):Jiy (.inr x) (.str x t)=true:=by simp [Jiy,J7c]
theorem Jyd (a b:Int):decide ((Xh a:Key)=Xh b)=(a==b):=by
 by_cases e:a=b
 . subst e;simp
 . have h:¬ (Xh a:Key)=Xh b:=λ q=>e (J5k q)
   rw [decide_eq_false h]
   exact (beq_eq_false_iff_ne.mpr e).symm
theorem Jye (a b:Str):decide ((X9 a:Key)=X9 b)=decide (a=b):=by
 by_cases e:a=b
 . subst e;simp
 . have h:¬ (X9 a:Key)=X9 b:=λ q=>e (X9.inj q)
   rw [decide_eq_false h,decide_eq_false e]
theorem Jyf (a:Int) (b:Str):decide ((Xh a:Key)=X9 b)=false:=decide_eq_false (λ q=>nomatch q)
theorem Jyg (a:Str) (b:Int):decide ((X9 a:Key)=Xh b)=false:=decide_eq_false (λ q=>nomatch q)
noncomputable def Zw (prog:J9l) (w:J9k):PySem.KeyKind prog w Key where
 is:=Jiy
 hash:=J15 w
 inj:=λ v a b ha hb=>by
  rcases Zl ha with ⟨i,t,rfl,rfl⟩ | ⟨x,t,rfl,rfl⟩
  . rcases Zl hb with ⟨j,u,rfl,e⟩ | ⟨y,u,rfl,e⟩
    . injection e with e1 _;rw [e1]
    . exact nomatch e
  . rcases Zl hb with ⟨j,u,rfl,e⟩ | ⟨y,u,rfl,e⟩
    . exact nomatch e
    . injection e with e1 _;rw [e1]
 byValue:=λ k v h=>by
  rcases Zl h with ⟨i,t,rfl,rfl⟩ | ⟨x,t,rfl,rfl⟩<;>rfl
 pyHash:=λ hv h=>by
  rcases Zl hv with ⟨i,t,rfl,rfl⟩ | ⟨x,t,rfl,rfl⟩
  . exact wpAny_pyHash_int h
  . exact wpAny_pyHash_str h
 eqBool:=λ hu hv h=>by
  rcases Zl hu with ⟨i,t,rfl,rfl⟩ | ⟨x,t,rfl,rfl⟩
  . rcases Zl hv with ⟨j,u,rfl,rfl⟩ | ⟨y,u,rfl,rfl⟩
    . rw [Jyd] at h;exact wpAny_eqBool_int h
    . rw [Jyf] at h;exact J7d i t y u _ _ _ _ h
  . rcases Zl hv with ⟨j,u,rfl,rfl⟩ | ⟨y,u,rfl,rfl⟩
    . rw [Jyg] at h;exact J7e x t j u _ _ _ _ h
    . rw [Jye] at h;exact wpAny_eqBool_str h
 «strs»:=λ k x t v h=>by
  rcases Zl h with ⟨i,u,rfl,e⟩ | ⟨y,u,rfl,e⟩
  . exact nomatch e
  . injection e with e1 _
    subst e1
    cases v<;>rfl
theorem Jlh (prog:J9l) (w:J9k) (i:Int) (t:Tok):(Zw prog w).is (.inl i) (.int i t)=true:=Jqd i t
theorem Jli (prog:J9l) (w:J9k) (x:Str) (t:Tok):(Zw prog w).is (.inr x) (.str x t)=true:=Jqe x t
inductive V where
 | non | bl (b:Bool) | int (i:Int) | str (x:Str) | byt (b:Array UInt8) | flt (b:UInt64) | ref (a:Addr) | ty (n:String)
 deriving DecidableEq
def Yo:V->J9g->Prop
 | .non,u=>u=Ur
 | .bl b,u=>u=J3i b
 | .int i,u=>∃ t,u=Uq i t
 | .str x,u=>∃ t,u=J3h x t
 | .byt b,u=>∃ t,u=J7f b t
 | .flt b,u=>∃ t,u=J5l b t
 | .ref a,u=>u=Q4 a
 | .ty n,u=>u=J4h n
abbrev J9:List V->List J9g->Prop:=Paired Yo
theorem J9.length {xs:List V}{us:List J9g}(r:J9 xs us):xs.length=us.length:=J5m r
theorem J9.get:∀ {xs:List V}{us:List J9g}{i:Nat}{x:V},J9 xs us->xs[i]? = some x->∃ u,us[i]? = some u/\Yo x u
 | _,_,_,_,.nil,e=>by simp at e
 | _,_,0,_,.cons r _,e=>by simp at e;subst e;exact ⟨_,rfl,r⟩
 | _,_,i+1,x,.cons _ t,e=>by
  obtain ⟨u,h1,h2⟩:=J9.get (i:=i) (x:=x) t (by simpa using e)
  exact ⟨u,by simpa using h1,h2⟩
theorem J9.set {x:V}{u:J9g}(r:Yo x u):∀ {xs:List V}{us:List J9g}(i:Nat),J9 xs us->J9 (xs.set i x) (us.set i u)
 | _,_,_,.nil=>.nil
 | _,_,0,.cons _ t=>.cons r t
 | _,_,i+1,.cons q t=>.cons q (J9.set r i t)
theorem J9.append:∀ {xs ys:List V}{us ws:List J9g},J9 xs us->J9 ys ws->J9 (xs++ys) (us++ws)
 | _,_,_,_,.nil,s=>s
 | _,_,_,_,.cons r t,s=>.cons r (J9.append t s)
theorem J9.take:∀ {xs:List V}{us:List J9g}(n:Nat),J9 xs us->J9 (xs.take n) (us.take n)
 | _,_,0,_=>.nil
 | _,_,_+1,.nil=>.nil
 | _,_,n+1,.cons r t=>.cons r (J9.take n t)
theorem J9.drop:∀ {xs:List V}{us:List J9g}(n:Nat),J9 xs us->J9 (xs.drop n) (us.drop n)
 | _,_,0,r=>r
 | _,_,_+1,.nil=>.nil
 | _,_,n+1,.cons _ t=>J9.drop n t
def Jdm:Option V->Option J9g->Prop
 | some v,some u=>Yo v u
 | none,none=>True
 | _,_=>False
def KV {κ:Type}:List (κ×V)->List (κ×J9g)->Prop:=Paired λ (p:κ×V) (q:κ×J9g)=>p.1=q.1/\Yo p.2 q.2
noncomputable def kV:Key->V
 | .inl i=>.int i
 | .inr x=>.str x
inductive HO where
 /-- a list -/
 | lst (xs:List V)
 /-- a tuple (never changes) -/
 | tup (xs:List V)
 /-- a dict whose keys are ints and texts;one whose keys are tuples of ints and texts (the empty one is both) -/
 | dK (kvs:List (Key×V)) | dT (kvs:List (List Key×V))
 /-- a set of ints: its members,its size -/
 | set (S:Int->Bool) (n:Nat)
 /-- an instance of the class at C,its dict at dx,its attributes -/
 | ins (C dx:Addr) (fs:List (Str×V))
 /-- the dict of the instance at x -/
 | own (x:Addr)
 /-- the dict of an exception -/
 | xd (fs:List (Str×V))
 /-- a bound method,f of x -/
 | met (f x:Addr)
 /-- a range object lo,lo+1,.. below hi -/
 | rng (lo hi:Int)
 /-- a thing that is known to the object (the script;a dict while a loop walks it): read,never written while it is so -/
 | frz (o:Obj) (u:HO)
 /-- a code object's table -/
 | tbl (ps:Array J9g)
 /-- any other thing,by what is true of its one object (a def of one's own: SetO a S n:=HO.ext λ h=>..) -/
 | ext (φ:Heap->Prop)
abbrev Hp:=Addr->Option HO
noncomputable def upd (H:Hp) (a:Addr) (o:HO):Hp:=λ b=>if b=a then some o else H b
theorem Jh {H:Hp}{a:Addr}{o:HO}:upd H a o a=some o:=by unfold upd;rw [if_pos rfl]
theorem Jf {H:Hp}{a b:Addr}{o:HO}(h:b≠a):upd H a o b=H b:=by unfold upd;rw [if_neg h]
theorem Jf1 {H:Hp}{a:Addr}{o u:HO}:upd (upd H a o) a u=upd H a u:=by
 funext b;unfold upd;split<;>rfl
theorem Jq {H:Hp}{a b:Addr}{o:HO}(h:H a=some o) (h':H b=none):a≠b:=by
 intro e;subst e;rw [h] at h';cases h'
section
variable (P:J9l) (w:J9k)
def Y3 (H:Hp) (h:Heap) (a:Addr):HO->Prop
 | .lst xs=>xs.length<=sizeLine/\∃ (its:List J9g) (n:Nat),J9 xs its/\h.get? a=some { cls:=.type "list",data:=.seq its.toArray n }
 | .tup xs=>xs.length<=sizeLine/\∃ its:List J9g,J9 xs its/\IsTup h a its.toArray
 | .dK kvs=>kvs.length<=sizeLine/\(a==J9w)=false/\∃ vs,KV kvs vs/\h.DictOf (Zw P w) a vs
 | .dT kvs=>kvs.length<=sizeLine/\(a==J9w)=false/\∃ xs:List (List Key×Addr×J9g),
  Paired (λ (p:List Key×V) (q:List Key×Addr×J9g)=>p.1=q.1/\H q.2.1=some (.tup (p.1.map kV))/\Yo p.2 q.2.2) kvs xs /\
  ∃ o es ep,h.get? a=some o/\o.ExactDict/\o.data = .dict es ep/\es.toList=xs.map (entryOfKey (tupleKind (Zw P w)))/\(xs.map (·.1)).Nodup
 | .set S n=>h.SetOf (intKind P w) a S n
 | .ins C dx fs=>H dx=some (.own a)/\fs.length<=1000/\dx≠a/\h.get? a=some (U8 C dx) /\
  ∃ mA,h.Ns1 dx mA/\(∀ f,Jdm (fs.lookup f) (mA f))/\J5n mA (fs.map (·.1))
 | .own _=>∃ o,h.get? a=some o
 | .xd fs=>∃ mA,h.Ns1 a mA/\∀ f,Jdm (fs.lookup f) (mA f)
 | .rng lo hi=>∃ t u v,h.get? a=some { cls:=.type "range",data:=.fields #[.int lo t,.int hi u,.int 1 v] }
 | .frz o u=>h.get? a=some o/\Y3 H h a u
 | .tbl ps=>h.get? a=some { cls:=.none,data:=.fields ps }
 | .met f x=>h.get? a=some (J5o (.ref f) (.ref x))
 | .ext φ=>φ h/\(∃ o,h.get? a=some o)/\∀ h1 h2:Heap,φ h1->(∀ o,h1.get? a=some o->h2.get? a=some o)->φ h2
def HOk (H:Hp) (h:Heap):Prop:=∀ a o,H a=some o->Y3 P w H h a o
end
section
variable {P:J9l}{w:J9k}{H H':Hp}{h h':Heap}{a:Addr}{o:HO}
theorem Y3.lt (x:Y3 P w H h a o):a<h.objs.size:=by
 cases o with
 | lst xs=>obtain ⟨_,_,_,_,e⟩:=x;exact Qt e
 | tup xs=>obtain ⟨_,_,_,p⟩:=x;exact p.lt
 | dK kvs=>obtain ⟨_,_,_,_,o,_,_,e,_⟩:=x;exact Qt e
 | dT kvs=>obtain ⟨_,_,_,_,o,_,_,e,_⟩:=x;exact Qt e
 | set S n=>obtain ⟨o,_,_,_,e,_⟩:=x;exact Qt e
 | ins C dx fs=>obtain ⟨_,_,_,e,_⟩:=x;exact Qt e
 | own y=>obtain ⟨_,e⟩:=x;exact Qt e
 | xd fs=>obtain ⟨_,⟨_,_,_,e,_⟩,_⟩:=x;exact Qt e
 | rng lo hi=>obtain ⟨_,_,_,e⟩:=x;exact Qt e
 | frz ob u=>obtain ⟨e,_⟩:=x;exact Qt e
 | tbl ps=>exact Qt (show h.get? a=some _ from x)
 | met f y=>exact Qt (show h.get? a=some _ from x)
 | ext φ=>obtain ⟨_,⟨_,e⟩,_⟩:=x;exact Qt e
theorem Paired.mapP {α β:Type}{F G:α->β->Prop}:∀ {l₁:List α}{l₂:List β},Paired F l₁ l₂->(∀ a b,F a b->G a b)->Paired G l₁ l₂
 | _,_,.nil,_=>.nil
 | _,_,.cons r t,f=>.cons (f _ _ r) (Paired.mapP t f)
theorem Y3.stay (x:Y3 P w H h a o) (k:∀ b u,(b=a\/H b=some (.own a))->h.get? b=some u->h'.get? b=some u)
 (ho:∀ b,H b=some (.own a)->H' b=some (.own a)) (ht:∀ b xs,H b=some (.tup xs)->H' b=some (.tup xs)):Y3 P w H' h' a o:=by
 induction o with
 | lst xs=>obtain ⟨z,its,n,r,e⟩:=x;exact ⟨z,its,n,r,k _ _ (.inl rfl) e⟩
 | tup xs=>obtain ⟨z,its,r,ob,e,c⟩:=x;exact ⟨z,its,r,ob,k _ _ (.inl rfl) e,c⟩
 | dK kvs=>obtain ⟨z,y,vs,r,ob,es,ep,e,c⟩:=x;exact ⟨z,y,vs,r,ob,es,ep,k _ _ (.inl rfl) e,c⟩
 | dT kvs=>
  obtain ⟨z,y,xs,r,ob,es,ep,e,c⟩:=x
  exact ⟨z,y,xs,Paired.mapP r λ p q z=>⟨z.1,ht _ _ z.2.1,z.2.2⟩,ob,es,ep,k _ _ (.inl rfl) e,c⟩
 | set S n=>obtain ⟨ob,es,ep,t,e,c⟩:=x;exact ⟨ob,es,ep,t,k _ _ (.inl rfl) e,c⟩
 | ins C dx fs=>
  obtain ⟨d,z,ne,e,mA,⟨od,es,ep,e2,c⟩,r⟩:=x
  exact ⟨ho _ d,z,ne,k _ _ (.inl rfl) e,mA,⟨od,es,ep,k _ _ (.inr d) e2,c⟩,r⟩
 | own y=>obtain ⟨ob,e⟩:=x;exact ⟨ob,k _ _ (.inl rfl) e⟩
 | xd fs=>obtain ⟨mA,⟨od,es,ep,e,c⟩,r⟩:=x;exact ⟨mA,⟨od,es,ep,k _ _ (.inl rfl) e,c⟩,r⟩
 | rng lo hi=>obtain ⟨t,u,v,e⟩:=x;exact ⟨t,u,v,k _ _ (.inl rfl) e⟩
 | frz ob u ih=>obtain ⟨e,q⟩:=x;exact ⟨k _ _ (.inl rfl) e,ih q⟩
 | tbl ps=>
  have e:h.get? a=some { cls:=.none,data:=.fields ps }:=x
  show h'.get? a=some { cls:=.none,data:=.fields ps }
  exact k a _ (.inl rfl) e
 | met f y=>
  have e:h.get? a=some (J5o (.ref f) (.ref y)):=x
  show h'.get? a=some (J5o (.ref f) (.ref y))
  exact k a _ (.inl rfl) e
 | ext φ=>obtain ⟨p,⟨o,e⟩,st⟩:=x;exact ⟨st _ _ p λ o q=>k _ _ (.inl rfl) q,⟨o,k _ _ (.inl rfl) e⟩,st⟩
theorem HOk.lt (x:HOk P w H h) (e:H a=some o):a<h.objs.size:=(x a o e).lt
theorem HOk.fresh (x:HOk P w H h) (e:h.objs.size<=a):H a=none:=by
 cases q:H a with
 | none=>rfl
 | some u=>exact absurd (Q1 (x.lt q) e) (Xc _)
theorem HOk.kept (x:HOk P w H h) (k:∀ b u,h.get? b=some u->h'.get? b=some u):HOk P w H h':=λ a o e=>
 (x a o e).stay (λ b u _ q=>k b u q) (λ _ q=>q) λ _ _ q=>q
theorem HOk.laid (x:HOk P w H h) (k:∀ b u,h.get? b=some u->h'.get? b=some u) (hp:h.objs.size<=a) (new:Y3 P w (upd H a o) h' a o):HOk P w (upd H a o) h':=λ b u e=>by
 have hn:=x.fresh hp
 by_cases hb:b=a
 . subst hb;rw [Jh] at e;cases e;exact new
 . rw [Jf hb] at e
   exact (x b u e).stay (λ c v _ q=>k c v q) (λ c q=>by rw [Jf (Jq q hn)];exact q) λ c xs q=>by rw [Jf (Jq q hn)];exact q
end
def Rd (H:Hp) (a:Addr) (u:HO):Prop:=H a=some u\/∃ o,H a=some (.frz o u)
theorem Rd.ok {P:J9l}{w:J9k}{H:Hp}{h:Heap}{a:Addr}{u:HO}(r:Rd H a u) (x:HOk P w H h):Y3 P w H h a u:=by
 rcases r with r | ⟨o,r⟩
 . exact x a u r
 . obtain ⟨_,q⟩:=x a _ r
   exact q
def Mut:Option HO->Prop
 | some (.lst _)=>True
 | some (.dK _)=>True
 | some (.dT _)=>True
 | some (.set _ _)=>True
 | some (.ins _ _ _)=>True
 | some (.ext _)=>True
 | _=>False
section
variable {P:J9l}{w:J9k}{H:Hp}{h h':Heap}{x e:Addr}{o':HO}
theorem HOk.write (ok:HOk P w H h) (mu:Mut (H x)) (he:e=x\/H e=some (.own x)) (k:∀ b u,b≠e->h.get? b=some u->h'.get? b=some u) (heo:∃ u,h'.get? e=some u)
 (new:Y3 P w (upd H x o') h' x o'):HOk P w (upd H x o') h':=λ b u q=>by
 have nown:∀ c y,H c=some (.own y)->c≠x:=λ c y r z=>by subst z;rw [r] at mu;exact mu
 have ntup:∀ c xs,H c=some (.tup xs)->c≠x:=λ c xs r z=>by subst z;rw [r] at mu;exact mu
 by_cases hb:b=x
 . subst hb;rw [Jh] at q;cases q;exact new
 . rw [Jf hb] at q
   by_cases hbe:b=e
   . have q':H b=some (.own x):=by
      rcases he with z | z
      . exact absurd (hbe.trans z) hb
      . rw [hbe];exact z
     rw [q] at q';cases q'
     obtain ⟨v,hv⟩:=heo
     exact ⟨v,by rw [hbe];exact hv⟩
   . refine (ok b u q).stay (λ c v hc r=>k c v ?_ r) (λ c r=>by rw [Jf (nown c b r)];exact r) λ c xs r=>by rw [Jf (ntup c xs r)];exact r
     rcases hc with rfl | hc
     . exact hbe
     . rintro rfl
       rcases he with z | z
       . exact nown c b hc z
       . rw [hc] at z;cases z;exact hb rfl
end
structure Un (fs ex:List Addr) (H H':Hp) (h h':Heap):Prop where
 keep:∀ b o,h.get? b=some o->H b=none->b∉fs->b∉ex->h'.get? b=some o
 slot:∀ b o,h.get? b=some o->H b=none->b∈fs->b∉ex->∃ sl,h'.get? b=some { o with slots:=sl }
 free:∀ b o,h.get? b=some o->H b=none->b∉ex->H' b=none
 there:∀ b o,h.get? b=some o->b∉ex->∃ o',h'.get? b=some o'
 tups:∀ b xs,H b=some (.tup xs)->H' b=some (.tup xs)
 frzs:∀ b o u,H b=some (.frz o u)->H' b=some (.frz o u)
 tbls:∀ b ps,H b=some (.tbl ps)->∃ more,H' b=some (.tbl (ps++more))
section
variable {fs fs' ex ex':List Addr}{H H1 H2:Hp}{h h1 h2 h':Heap}{a x e:Addr}{o:HO}
theorem Un.any (u:Un fs ex H H1 h h1) {b:Addr}{ob:Obj}(q:h.get? b=some ob) (n:H b=none) (hx:b∉ex):∃ sl,h1.get? b=some { ob with slots:=sl }:=by
 by_cases hb:b∈fs
 . exact u.slot b ob q n hb hx
 . exact ⟨ob.slots,u.keep b ob q n hb hx⟩
theorem Un.kept (k:∀ b u,h.get? b=some u->h'.get? b=some u):Un fs ex H H h h':=
 ⟨λ b ob q _ _ _=>k b ob q,λ b ob q _ _ _=>⟨ob.slots,k b ob q⟩,λ _ _ _ n _=>n,λ b ob q _=>⟨ob,k b ob q⟩,λ _ _ q=>q,λ _ _ _ q=>q,λ _ ps q=>⟨#[],by rw [q];simp⟩⟩
theorem Un.refl:Un fs ex H H h h:=Un.kept λ _ _ q=>q
theorem Un.laid (k:∀ b u,h.get? b=some u->h'.get? b=some u) (hp:h.objs.size<=a) (hn:H a=none):Un fs ex H (upd H a o) h h' where
 keep:=λ b u q _ _ _=>k b u q
 slot:=λ b u q _ _ _=>⟨u.slots,k b u q⟩
 free:=λ b u q n _=>by rw [Jf (Q5 (Q1 (Qt q) hp))];exact n
 there:=λ b u q _=>⟨u,k b u q⟩
 tups:=λ b xs q=>by rw [Jf (Jq q hn)];exact q
 frzs:=λ b u xs q=>by rw [Jf (Jq q hn)];exact q
 tbls:=λ b ps q=>⟨#[],by rw [Jf (Jq q hn),q];simp⟩
theorem Un.write (mu:Mut (H x)) (he:e=x\/H e=some (.own x)) (k:∀ b u,b≠e->h.get? b=some u->h'.get? b=some u) (heo:∃ u,h'.get? e=some u):Un fs ex H (upd H x o) h h':=by
 have hx:∀ b,H b=none->b≠x:=λ b n z=>by subst z;rw [n] at mu;exact mu
 have hb:∀ b,H b=none->b≠e:=λ b n z=>by
  subst z
  rcases he with r | r
  . exact hx b n r
  . rw [n] at r;cases r
 have hm:∀ b u,H b=some u->¬ Mut (some u)->b≠x:=λ b u q nm z=>by subst z;rw [q] at mu;exact nm mu
 refine ⟨λ b u q n _ _=>k b u (hb b n) q,λ b u q n _ _=>⟨u.slots,k b u (hb b n) q⟩,λ b u q n _=>by rw [Jf (hx b n)];exact n,λ b u q _=>?_,
  λ b xs q=>by rw [Jf (hm b _ q λ z=>z)];exact q,λ b u xs q=>by rw [Jf (hm b _ q λ z=>z)];exact q,λ b ps q=>⟨#[],by rw [Jf (hm b _ q λ z=>z),q];simp⟩⟩
 by_cases hbe:b=e
 . subst hbe;exact heo
 . exact ⟨u,k b u hbe q⟩
end
noncomputable def trk (h:Heap) (H:Hp):List Addr:=(Ql h.objs.size).filter λ a=>(H a).isSome
noncomputable def Jjt (h:Heap) (H:Hp):Heap:=PySem.W.hideAll h (trk h H)
theorem Jqf (h:Heap) (H:Hp):(Jjt h H).objs.size=h.objs.size:=PySem.W.hideAll_size _ _
theorem Jru {h:Heap}{H:Hp}{b:Addr}{o:Obj}(e:h.get? b=some o) (n:H b=none):(Jjt h H).get? b=some o:=
 PySem.W.hideAll_get _ e λ hm=>by
  have q:(H b).isSome=true:=(Xm.mp hm).2
  rw [n] at q;simp at q
theorem Ju5 {h:Heap}{H:Hp}{b:Addr}{o:Obj}(e:(Jjt h H).get? b=some o):h.get? b=some o/\H b=none:=by
 have e':h.get? b=some o:=PySem.W.of_hideAll (trk h H) e
 refine ⟨e',?_⟩
 cases q:H b with
 | none=>rfl
 | some x=>
  have hm:b∈trk h H:=Xm.mpr ⟨Q6.mpr (Qt e'),by simp [q]⟩
  have z:(Jjt h H).get? b=none:=PySem.W.hideAll_none (trk h H) hm
  rw [z] at e;cases e
noncomputable def Ju6 (g h:Heap) (L:Addr):List (Addr×Obj):=(Ql h.objs.size).filterMap λ a=>if a=L\/(g.get? a).isSome=true then none else (h.get? a).map λ o=>(a,o)
noncomputable def rest (g h:Heap) (L d:Addr):List (Addr×Obj):=(Ju6 g h L).filter λ p=>decide (p.1≠d)
structure Mod (K:Qc) (mg:Str->Option J9g) (base:Heap):Prop where
 kin:K.In base
 glob:base.Ns J9r mg
 blt:∃ mb,base.Ns Yag mb/\∀ x:Str,x≠"__name__"->mb x=J97 x
 nolimit:base.NoLimit
structure Cx where
 prog:J9l
 w:J9k
 K:Qc
 mg:Str->Option J9g
 base:Heap
 A:J9m
 N:List Str
 s₀:J9i
 H₀:Hp
 env:Env
 outer:List Env
 stack:List Env
 ex:List Addr
 fn:Str->Bool
 calm:Bool
 pn:List (Addr×Obj)
 xe:J9g->J9i->Prop
noncomputable def frs (l:List Env):List Addr:=l.filterMap (·.frame)
noncomputable abbrev Cx.fs (X:Cx):List Addr:=frs X.outer
def Vis (sc:J9o) (x:Str):Prop:=sc.names.lookup x=some .local \/ sc.names.lookup x=some .cell\/sc.names.lookup x=some .free
def Loc (sc:J9o) (x:Str):Prop:=sc.names.lookup x=some .local \/ sc.names.lookup x=some .cell
def J16 (env:Env) (h:Heap) (m:Str->Option J9g) (x:Str) (u:J9g):Prop:=
 (env.kindOf x=some .local /\ m x=some u)\/((env.kindOf x=some .cell\/env.kindOf x=some .free)/\∃ c,env.cells.lookup x=some c/\h.IsCell c (some u))
structure Cx.Ok (X:Cx):Prop where
 mod:Mod X.K X.mg X.base
 kind:X.env.scope.kind = .function
 glob:X.env.globals=J9r
 blt:X.env.builtins=Yag
 above:X.s₀.heap.objs.size<=X.env.locals
 inj:∀ x y c,X.env.cells.lookup x=some c->X.env.cells.lookup y=some c->x=y
 has:∀ x,(X.env.kindOf x=some .cell\/X.env.kindOf x=some .free)->∃ c,X.env.cells.lookup x=some c
 cab:∀ x c,X.fn x=true->X.env.cells.lookup x=some c->X.s₀.heap.objs.size<=c
 hd:X.calm=true->X.A.handled=none
 frames:X.A.frames=some X.stack
 stk:X.stack=X.outer\/(X.stack=X.env::X.outer/\X.env.frame=some X.env.locals)
 exf:∀ b∈X.ex,b≠X.env.locals/\∀ x c,X.env.cells.lookup x=some c->c≠b
 bs:∀ b o,X.base.get? b=some o->X.s₀.heap.get? b=some o/\X.H₀ b=none
 bsz:X.base.objs.size<=X.s₀.heap.objs.size
 noex:∀ b o,X.base.get? b=some o->b∉X.ex
 exfs:∀ b∈X.ex,b∉X.fs
 funs:X.s₀.heap.FunFrames X.base X.outer
 frf:∀ b∈X.fs,X.H₀ b=none
structure Inv (X:Cx) (pins:List (Addr×Obj)) (σ:List (Option V)) (H:Hp) (s:J9i):Prop where
 ok:X.Ok
 os:s.os=X.s₀.os
 bare:J9x s.gens
 base:Un X.fs X.ex X.H₀ H X.s₀.heap s.heap
 loc:∃ m,s.heap.Ns X.env.locals m/\∀ (i:Nat) (x:Str) (v:V),X.N[i]? = some x->σ[i]? = some (some v)->Vis X.env.scope x->∃ u,Yo v u/\J16 X.env s.heap m x u
 cell:∀ x c,X.env.cells.lookup x=some c->∃ v,s.heap.IsCell c v
 free:H X.env.locals=none
 freeC:∀ x c,X.env.cells.lookup x=some c->H c=none
 pin:∀ p∈X.pn++pins,s.heap.get? p.1=some p.2/\H p.1=none/\p.1≠X.env.locals/\p.1∉X.fs/\∀ v,p.2.data≠.cell v
 hok:HOk X.prog X.w H s.heap
 len:σ.length=X.N.length
section
variable {X:Cx}{pins:List (Addr×Obj)}{σ:List (Option V)}{H H':Hp}{s:J9i}{h':Heap}
theorem Cx.Ok.nofr (ok:X.Ok) {b:Addr}{o:Obj}(e:X.base.get? b=some o):b∉X.fs:=λ hb=>by
 have:=(ok.funs.mem hb).1
 rw [e] at this;cases this
theorem Inv.bs (I:Inv X pins σ H s):∀ b o,X.base.get? b=some o->s.heap.get? b=some o/\H b=none:=λ b o e=>
 ⟨I.base.keep b o (I.ok.bs b o e).1 (I.ok.bs b o e).2 (I.ok.nofr e) (I.ok.noex b o e),I.base.free b o (I.ok.bs b o e).1 (I.ok.bs b o e).2 (I.ok.noex b o e)⟩
theorem Inv.bk (I:Inv X pins σ H s):∀ b o,X.base.get? b=some o->s.heap.get? b=some o:=λ b o e=>(I.bs b o e).1
theorem Inv.mod (I:Inv X pins σ H s):Mod X.K X.mg X.base:=I.ok.mod
theorem Inv.kIn (I:Inv X pins σ H s):X.K.In s.heap:=I.ok.mod.kin.keeps I.bk
theorem Inv.lt (I:Inv X pins σ H s):X.env.locals<s.heap.objs.size:=let ⟨_,hn,_⟩:=I.loc;hn.lt
theorem Inv.sz (I:Inv X pins σ H s):X.s₀.heap.objs.size<=s.heap.objs.size:=Xi I.ok.above (Uy I.lt)
theorem Inv.nofs (I:Inv X pins σ H s) {a:Addr}(h:s.heap.objs.size<=a):a∉X.fs:=λ hb=>by
 obtain ⟨_,o,ho,_⟩:=I.ok.funs.mem hb
 exact absurd (Q1 (Qt ho) (Xi I.sz h)) (Xc _)
theorem Inv.cne (I:Inv X pins σ H s):∀ x c,X.env.cells.lookup x=some c->c≠X.env.locals:=λ x c e z=>by
 obtain ⟨v,o,ho,hd⟩:=I.cell x c e
 obtain ⟨m,⟨o',es,ep,ho',hd',_⟩,_⟩:=I.loc
 rw [z,ho'] at ho;cases ho;rw [hd'] at hd;cases hd
theorem Inv.funs (I:Inv X pins σ H s):s.heap.FunFrames X.base X.outer:=by
 have all:∀ (l:List Env),(∀ b∈frs l,b∈X.fs)->X.s₀.heap.FunFrames X.base l->s.heap.FunFrames X.base l:=by
  intro l
  induction l with
  | nil=>intro _ _;trivial
  | cons env r ih=>
   intro hs hl
   obtain ⟨hk,⟨L,o,hf,hn,ho,hd⟩,hr⟩:=hl
   have hL:L∈X.fs:=hs L (by unfold frs;rw [J5p,hf];exact Qi)
   obtain ⟨sl,e⟩:=I.base.slot L o ho (I.ok.frf L hL) hL λ z=>I.ok.exfs L z hL
   exact ⟨hk,⟨L,_,hf,hn,e,hd⟩,ih (λ b hb=>hs b (by unfold frs;rw [J5p,hf];exact Qj _ hb)) hr⟩
 exact all X.outer (λ _ hb=>hb) I.ok.funs
theorem Inv.stack (I:Inv X pins σ H s):s.heap.FunFrames X.base X.stack:=by
 rcases I.ok.stk with e | ⟨e,hf⟩
 . rw [e];exact I.funs
 . rw [e]
   obtain ⟨m,hn,_⟩:=I.loc
   refine .cons (by rw [I.ok.kind];decide) hf hn ?_ I.funs
   exact Heap.get?_none_of_le (Xi I.ok.bsz I.ok.above)
theorem Inv.stkSub (I:Inv X pins σ H s):∀ b∈frs X.stack,b∈X.env.locals::X.fs:=λ b hb=>by
 rcases I.ok.stk with e | ⟨e,hf⟩
 . rw [e] at hb;exact Qj _ hb
 . rw [e] at hb
   unfold frs at hb
   rw [J5p,hf] at hb
   exact hb
theorem Inv.stkFree (I:Inv X pins σ H s):∀ b∈frs X.stack,H b=none:=λ b hb=>by
 rcases Qf.mp (I.stkSub b hb) with e | hb
 . rw [e];exact I.free
 . obtain ⟨_,o,ho,_⟩:=I.ok.funs.mem hb
   exact I.base.free b o ho (I.ok.frf b hb) λ z=>I.ok.exfs b z hb
theorem Inv.step {g':Array GenState}{t':Nat}{d':Drawn}{ch:List Addr}(I:Inv X pins σ H s)
 (hch:∀ b∈ch,(b∈X.ex\/X.s₀.heap.objs.size<=b)/\b≠X.env.locals/\(∀ x c,X.env.cells.lookup x=some c->c≠b)/\∀ p∈X.pn++pins,p.1≠b)
 (keep:∀ b o,b≠X.env.locals->b∉X.fs->b∉ch->s.heap.get? b=some o->H b=none->h'.get? b=some o)
 (slot:∀ b o,b≠X.env.locals->b∈X.fs->b∉ch->s.heap.get? b=some o->H b=none->∃ sl,h'.get? b=some { o with slots:=sl }) (free:∀ b o,b∉ch->s.heap.get? b=some o->H b=none->H' b=none)
 (there:∀ b o,b∉ch->s.heap.get? b=some o->∃ o',h'.get? b=some o')
 (tups:∀ b xs,H b=some (.tup xs)->H' b=some (.tup xs)) (frzs:∀ b o u,H b=some (.frz o u)->H' b=some (.frz o u)) (tbls:∀ b ps,H b=some (.tbl ps)->∃ more,H' b=some (.tbl (ps++more)))
 (ns:∀ m,s.heap.Ns X.env.locals m->h'.Ns X.env.locals m) (hok:HOk X.prog X.w H' h') (hg:J9x g') :
 Inv X pins σ H' { s with heap:=h',gens:=g',drawn:=d',toks:=t' }:=by
 have neL:∀ b o,X.s₀.heap.get? b=some o->b≠X.env.locals:=λ b o e=>Q5 (Q1 (Qt e) I.ok.above)
 have neC:∀ b o,X.s₀.heap.get? b=some o->b∉X.ex->b∉ch:=λ b o e hx hb=>by
  rcases (hch b hb).1 with z | z
  . exact hx z
  . exact absurd (Q1 (Qt e) z) (Xc _)
 have cellK:∀ x c,X.env.cells.lookup x=some c->∀ v,s.heap.IsCell c v->h'.IsCell c v:=λ x c e v ⟨o,ho,hd⟩=>by
  have nch:c∉ch:=λ z=>(hch c z).2.2.1 x c e rfl
  by_cases hc:c∈X.fs
  . obtain ⟨sl,q⟩:=slot c o (I.cne x c e) hc nch ho (I.freeC x c e)
    exact ⟨_,q,hd⟩
  . exact ⟨o,keep c o (I.cne x c e) hc nch ho (I.freeC x c e),hd⟩
 refine ⟨I.ok,I.os,hg,⟨λ b o e n hb hx=>?_,λ b o e n hb hx=>?_,λ b o e n hx=>?_,λ b o e hx=>?_,λ b xs e=>tups b xs (I.base.tups b xs e),λ b o xs e=>frzs b o xs (I.base.frzs b o xs e),λ b ps e=>?_⟩,?_,λ x c e=>?_,?_,λ x c e=>?_,λ p hp=>?_,hok,I.len⟩
 . exact keep b o (neL b o e) hb (neC b o e hx) (I.base.keep b o e n hb hx) (I.base.free b o e n hx)
 . obtain ⟨sl,e1⟩:=I.base.slot b o e n hb hx
   obtain ⟨sl',e2⟩:=slot b _ (neL b o e) hb (neC b o e hx) e1 (I.base.free b o e n hx)
   exact ⟨sl',e2⟩
 . obtain ⟨o',e1⟩:=I.base.there b o e hx
   exact free b o' (neC b o e hx) e1 (I.base.free b o e n hx)
 . obtain ⟨o',e1⟩:=I.base.there b o e hx
   exact there b o' (neC b o e hx) e1
 . obtain ⟨m1,e1⟩:=I.base.tbls b ps e
   obtain ⟨m2,e2⟩:=tbls b _ e1
   exact ⟨m1++m2,by rw [e2,Array.append_assoc]⟩
 . obtain ⟨m,hn,hl⟩:=I.loc
   refine ⟨m,ns m hn,λ i x v e1 e2 e3=>?_⟩
   obtain ⟨u,r,l⟩:=hl i x v e1 e2 e3
   refine ⟨u,r,?_⟩
   rcases l with l | ⟨k,c,e,z⟩
   . exact .inl l
   . exact .inr ⟨k,c,e,cellK x c e _ z⟩
 . obtain ⟨v,z⟩:=I.cell x c e
   exact ⟨v,cellK x c e v z⟩
 . obtain ⟨m,⟨o,_,_,ho,_⟩,_⟩:=I.loc
   exact free _ o (λ z=>(hch _ z).2.1 rfl) ho I.free
 . obtain ⟨v,o,ho,hd⟩:=I.cell x c e
   exact free c o (λ z=>(hch c z).2.2.1 x c e rfl) ho (I.freeC x c e)
 . obtain ⟨e,n,ne,nf,d⟩:=I.pin p hp
   have nch:p.1∉ch:=λ z=>(hch p.1 z).2.2.2 p hp rfl
   exact ⟨keep p.1 p.2 ne nf nch e n,free p.1 p.2 nch e n,ne,nf,d⟩
theorem Inv.un {t':Nat}(I:Inv X pins σ H s) (u:Un X.fs [] H H' s.heap h') (hok:HOk X.prog X.w H' h'):Inv X pins σ H' { s with heap:=h',toks:=t' }:=by
 obtain ⟨m,⟨o,es,ep,ho,r⟩,_⟩:=id I.loc
 obtain ⟨sl,hL⟩:=u.any ho I.free (by simp)
 exact I.step (g':=s.gens) (d':=s.drawn) (ch:=[]) (λ _ z=>nomatch z) (λ b o _ hb _ e n=>u.keep b o e n hb (by simp)) (λ b o _ hb _ e n=>u.slot b o e n hb (by simp)) (λ b o _ e n=>u.free b o e n (by simp)) (λ b o _ e=>u.there b o e (by simp)) u.tups u.frzs u.tbls (λ m' hm=>by
  obtain ⟨o',es',ep',ho',r'⟩:=hm
  rw [ho] at ho';cases ho'
  exact ⟨_,es',ep',hL,r'⟩) hok I.bare
theorem Inv.call {g':Array GenState}{t':Nat}{d':Drawn}{ch:List Addr}(I:Inv X pins σ H s) (u:Un (frs X.stack) ch H H' s.heap h') (hok:HOk X.prog X.w H' h') (hg:J9x g')
 (hch:∀ b∈ch,(b∈X.ex\/X.s₀.heap.objs.size<=b)/\b≠X.env.locals/\(∀ x c,X.env.cells.lookup x=some c->c≠b)/\∀ p∈X.pn++pins,p.1≠b) :
 Inv X pins σ H' { s with heap:=h',gens:=g',drawn:=d',toks:=t' }:=by
 obtain ⟨m,⟨o,es,ep,ho,r⟩,_⟩:=id I.loc
 obtain ⟨sl,hL⟩:=u.any ho I.free λ z=>(hch _ z).2.1 rfl
 exact I.step (ch:=ch) hch (λ b o hL hb hc e n=>u.keep b o e n (λ z=>(Qf.mp (I.stkSub b z)).elim hL hb) hc) (λ b o _ _ hc e n=>u.any e n hc) (λ b o hc e n=>u.free b o e n hc) (λ b o hc e=>u.there b o e hc) u.tups u.frzs u.tbls (λ m' hm=>by
  obtain ⟨o',es',ep',ho',r'⟩:=hm
  rw [ho] at ho';cases ho'
  exact ⟨_,es',ep',hL,r'⟩) hok hg
theorem Inv.turned {t':Nat}{it:Addr}(I:Inv X pins σ H s) (k:∀ b o,b≠it->s.heap.get? b=some o->h'.get? b=some o) (hn:H it=none) (hL:it≠X.env.locals)
 (h1:it∈X.ex\/X.s₀.heap.objs.size<=it) (h2:∀ x c,X.env.cells.lookup x=some c->c≠it) (h3:∀ p∈X.pn++pins,p.1≠it):Inv X pins σ H { s with heap:=h',toks:=t' }:=by
 have nit:∀ b u,H b=some u->b≠it:=λ b u e z=>by rw [z,hn] at e;cases e
 refine I.step (g':=s.gens) (d':=s.drawn) (ch:=[it]) (λ b hb=>?_) (λ b o _ _ hc e _=>k b o (λ z=>hc (by simp [z])) e) (λ b o _ _ hc e _=>⟨o.slots,k b o (λ z=>hc (by simp [z])) e⟩) (λ _ _ _ _ n=>n)
  (λ b o hc e=>⟨o,k b o (λ z=>hc (by simp [z])) e⟩) (λ _ _ e=>e) (λ _ _ _ e=>e) (λ b ps e=>⟨#[],by rw [e];simp⟩) (λ m hm=>?_) (λ b u e=>?_) I.bare
 . have e:b=it:=by simpa using hb
   subst e
   exact ⟨h1,hL,h2,h3⟩
 . obtain ⟨o,es,ep,ho,r⟩:=hm
   exact ⟨o,es,ep,k _ o (Qk hL) ho,r⟩
 . refine (I.hok b u e).stay (λ c v hc q=>k c v ?_ q) (λ _ q=>q) λ _ _ q=>q
   rcases hc with z | z
   . rw [z];exact nit b u e
   . exact nit c _ z
theorem Inv.tok (I:Inv X pins σ H s) (t:Nat):Inv X pins σ H { s with toks:=t }:=I.un (h':=s.heap) (t':=t) Un.refl I.hok
theorem Inv.kept {t':Nat}(I:Inv X pins σ H s) (k:∀ b u,s.heap.get? b=some u->h'.get? b=some u):Inv X pins σ H { s with heap:=h',toks:=t' }:=I.un (Un.kept k) (I.hok.kept k)
theorem Inv.laid {a:Addr}{o:HO}{t':Nat}(I:Inv X pins σ H s) (k:∀ b u,s.heap.get? b=some u->h'.get? b=some u) (hp:s.heap.objs.size<=a) (new:Y3 X.prog X.w (upd H a o) h' a o) :
 Inv X pins σ (upd H a o) { s with heap:=h',toks:=t' }:=I.un (Un.laid k hp (I.hok.fresh hp)) (I.hok.laid k hp new)
theorem Inv.write {x e:Addr}{o:HO}{t':Nat}(I:Inv X pins σ H s) (mu:Mut (H x)) (he:e=x\/H e=some (.own x)) (k:∀ b u,b≠e->s.heap.get? b=some u->h'.get? b=some u) (heo:∃ u,h'.get? e=some u)
 (new:Y3 X.prog X.w (upd H x o) h' x o):Inv X pins σ (upd H x o) { s with heap:=h',toks:=t' }:=I.un (Un.write mu he k heo) (I.hok.write mu he k heo new)
theorem Inv.pins_of {pins':List (Addr×Obj)}(I:Inv X pins σ H s) (h:∀ p∈pins',s.heap.get? p.1=some p.2/\H p.1=none/\p.1≠X.env.locals/\p.1∉X.fs/\∀ v,p.2.data≠.cell v):Inv X pins' σ H s:=
 ⟨I.ok,I.os,I.bare,I.base,I.loc,I.cell,I.free,I.freeC,λ p hp=>(Q8.mp hp).elim (λ z=>I.pin p (Xn _ z)) (h p),I.hok,I.len⟩
theorem Jlj {N:List Str}(hN:N.Nodup) {i j:Nat}{x:Str}(a:N[i]? = some x) (b:N[j]? = some x):i=j:=by
 obtain ⟨h1,e1⟩:=Qp.mp a
 obtain ⟨h2,e2⟩:=Qp.mp b
 exact (J5q hN).mp (e1.trans e2.symm)
theorem Jer {M:Model}{A:J9m}{E:J9g->J9i->Prop}{i:Nat}{x:Str}{v:V}{u:J9g}{Q:Unit->J9i->Prop}(I:Inv X pins σ H s) (hN:X.N.Nodup) (hi:X.N[i]? = some x) (hx:Loc X.env.scope x) (r:Yo v u)
 (h:∀ s',Inv X pins (σ.set i (some v)) H s'->(∃ a,Xy a s.heap s'.heap/\(a=X.env.locals\/X.env.cells.lookup x=some a))->Q () s') (hf:X.fn x=true\/X.env.scope.names.lookup x=some .local := by first | exact .inl rfl | exact .inr rfl | assumption):J9j M A (storeName X.env x u) Q E s:=by
 obtain ⟨m,hn,hl⟩:=id I.loc
 have hcls:(X.env.scope.kind == .class||(X.env.scope.kind == .module&&X.env.locals != X.env.globals))=false:=by rw [I.ok.kind];rfl
 have hiσ:i < σ.length:=by rw [I.len];exact (Qp.mp hi).1
 have cne:=I.cne
 have tracked:∀ {a:Addr} {h':Heap},(∃ o,s.heap.get? a=some o/\H a=none)->Xy a s.heap h'->HOk X.prog X.w H h':=λ {a h'} ha hs b ob e=>by
  obtain ⟨_,_,hfree⟩:=ha
  refine (I.hok b ob e).stay (λ c w' hc q=>(hs.2 c ?_).trans q) (λ _ q=>q) λ _ _ q=>q
  rintro rfl
  rcases hc with rfl | hc
  . rw [hfree] at e;cases e
  . rw [hfree] at hc;cases hc
 rcases hx with hk | hk
 . refine wpAny_storeName_local hk hn (λ h' hn' hs=>?_) hcls
   obtain ⟨oL,_,_,hoL,_⟩:=id hn
   refine h _ ⟨I.ok,I.os,I.bare,⟨λ b o e n hb hx=>?_,λ b o e n hb hx=>?_,I.base.free,λ b o e hx=>?_,I.base.tups,I.base.frzs,I.base.tbls⟩,⟨_,hn',λ j y v' e1 e2 e3=>?_⟩,λ y c e=>?_,I.free,I.freeC,λ p hp=>?_,tracked ⟨oL,hoL,I.free⟩ hs,by simpa using I.len⟩ ⟨_,hs,.inl rfl⟩
   . exact (hs.2 b (Q5 (Q1 (Qt e) I.ok.above))).trans (I.base.keep b o e n hb hx)
   . obtain ⟨sl,e1⟩:=I.base.slot b o e n hb hx
     exact ⟨sl,(hs.2 b (Q5 (Q1 (Qt e) I.ok.above))).trans e1⟩
   . obtain ⟨o',e1⟩:=I.base.there b o e hx
     exact ⟨o',(hs.2 b (Q5 (Q1 (Qt e) I.ok.above))).trans e1⟩
   . by_cases hj:j=i
     . subst hj
       rw [hi] at e1;cases e1
       rw [Q2 hiσ] at e2
       cases e2
       exact ⟨u,r,.inl ⟨hk,by simp⟩⟩
     . rw [Q3 (Qk hj)] at e2
       obtain ⟨u',r',q⟩:=hl j y v' e1 e2 e3
       refine ⟨u',r',?_⟩
       rcases q with ⟨k,e⟩ | ⟨k,c,e,z⟩
       . refine .inl ⟨k,?_⟩
         have:y≠x:=λ e=>hj (Jlj hN e1 (e▸hi))
         simp [this,e]
       . exact .inr ⟨k,c,e,z.sameBut hs (cne y c e)⟩
   . obtain ⟨w',z⟩:=I.cell y c e
     exact ⟨w',z.sameBut hs (cne y c e)⟩
   . obtain ⟨e,n,ne,nf,d⟩:=I.pin p hp
     exact ⟨(hs.2 p.1 ne).trans e,n,ne,nf,d⟩
 . have hfn:X.fn x=true:=by
    rcases hf with z | z
    . exact z
    . rw [z] at hk;cases hk
   obtain ⟨c,hc⟩:=I.ok.has x (.inl hk)
   obtain ⟨w',z⟩:=I.cell x c hc
   refine wpAny_storeName_cell I.ok.kind hk hc z (λ h' hc' hs=>?_)
   obtain ⟨oc,hoc,hocd⟩:=id z
   refine h { s with heap:=h' } ⟨I.ok,I.os,I.bare,⟨λ b o e n hb hx=>?_,λ b o e n hb hx=>?_,I.base.free,λ b o e hx=>?_,I.base.tups,I.base.frzs,I.base.tbls⟩,⟨m,hn.sameBut hs (Qk (cne x c hc)),λ j y v' e1 e2 e3=>?_⟩,λ y c' e=>?_,I.free,I.freeC,λ p hp=>?_,tracked ⟨oc,hoc,I.freeC x c hc⟩ hs,by simpa using I.len⟩ ⟨c,hs,.inr hc⟩
   . exact (hs.2 b (Q5 (Q1 (Qt e) (I.ok.cab x c hfn hc)))).trans (I.base.keep b o e n hb hx)
   . obtain ⟨sl,e1⟩:=I.base.slot b o e n hb hx
     exact ⟨sl,(hs.2 b (Q5 (Q1 (Qt e) (I.ok.cab x c hfn hc)))).trans e1⟩
   . obtain ⟨o',e1⟩:=I.base.there b o e hx
     exact ⟨o',(hs.2 b (Q5 (Q1 (Qt e) (I.ok.cab x c hfn hc)))).trans e1⟩
   . by_cases hj:j=i
     . subst hj
       rw [hi] at e1;cases e1
       rw [Q2 hiσ] at e2
       cases e2
       exact ⟨u,r,.inr ⟨.inl hk,c,hc,hc'⟩⟩
     . rw [Q3 (Qk hj)] at e2
       obtain ⟨u',r',q⟩:=hl j y v' e1 e2 e3
       refine ⟨u',r',?_⟩
       rcases q with q | ⟨k,c',e,z'⟩
       . exact .inl q
       . refine .inr ⟨k,c',e,z'.sameBut hs ?_⟩
         rintro rfl
         exact hj (Jlj hN e1 (I.ok.inj _ _ _ e hc▸hi))
   . by_cases hcc:c'=c
     . subst hcc;exact ⟨_,hc'⟩
     . obtain ⟨w2,z2⟩:=I.cell y c' e
       exact ⟨w2,z2.sameBut hs hcc⟩
   . obtain ⟨e,n,ne,nf,d⟩:=I.pin p hp
     refine ⟨(hs.2 p.1 ?_).trans e,n,ne,nf,d⟩
     intro q
     rw [q,hoc] at e
     have q':oc=p.2:=Xj e
     exact d w' (by rw [<- q'];exact hocd)
theorem Jbu {M:Model}{A:J9m}{E:J9g->J9i->Prop}{i:Nat}{x:Str}{v:V}{u:J9g}{Q:Unit->J9i->Prop}(I:Inv X pins σ H s) (hN:X.N.Nodup) (hi:X.N[i]? = some x) (hx:Loc X.env.scope x) (r:Yo v u)
 (h:∀ s',Inv X pins (σ.set i (some v)) H s'->Q () s') (hf:X.fn x=true\/X.env.scope.names.lookup x=some .local := by first | exact .inl rfl | exact .inr rfl | assumption):J9j M A (storeName X.env x u) Q E s:=
 Jer I hN hi hx r (λ s' I' _=>h s' I') hf
theorem Inv.call' {s':J9i}{ch:List Addr}(I:Inv X pins σ H s) (ho:s'.os=s.os) (u:Un (frs X.stack) ch H H' s.heap s'.heap) (hok:HOk X.prog X.w H' s'.heap) (hg:J9x s'.gens)
 (hch:∀ b∈ch,(b∈X.ex\/X.s₀.heap.objs.size<=b)/\b≠X.env.locals/\(∀ x c,X.env.cells.lookup x=some c->c≠b)/\∀ p∈X.pn++pins,p.1≠b):Inv X pins σ H' s':=by
 obtain ⟨h',g',d',t',o'⟩:=s'
 have e:o'=s.os:=ho
 subst e
 exact I.call (g':=g') (t':=t') (d':=d') u hok hg hch
end
abbrev XK:=J9g->Option Addr->Hp->Prop
abbrev St:=List (Option V)
abbrev VK:=V->Hp->Prop
abbrev TE:=St->Hp->VK->Prop
abbrev TT:=St->Hp->(Bool->Hp->Prop)->Prop
abbrev TA:=St->Hp->(List V->Hp->Prop)->Prop
structure Ends where
 nx:St->Hp->Prop
 rt:VK
 bk:St->Hp->Prop:=λ _ _=>False
 ct:St->Hp->Prop:=λ _ _=>False
abbrev TS:=Ends->St->Hp->Prop
def EP (X:Cx) (pins:List (Addr×Obj)) (σ:St) (Q:VK) (u:J9g) (s':J9i):Prop:=∃ v H',Inv X pins σ H' s'/\Yo v u/\Q v H'
def TP (X:Cx) (pins:List (Addr×Obj)) (σ:St) (Q:Bool->Hp->Prop) (b:Bool) (s':J9i):Prop:=∃ H',Inv X pins σ H' s'/\Q b H'
def AP (X:Cx) (pins:List (Addr×Obj)) (σ:St) (Q:List V->Hp->Prop) (us:List J9g) (s':J9i):Prop:=∃ vs H',Inv X pins σ H' s'/\J9 vs us/\Q vs H'
def SP (X:Cx) (pins:List (Addr×Obj)) (D:Ends) (f:Flow) (s':J9i):Prop:=
 match f with
 | .next=>∃ σ' H',Inv X pins σ' H' s'/\D.nx σ' H'
 | .brk=>∃ σ' H',Inv X pins σ' H' s'/\D.bk σ' H'
 | .cont=>∃ σ' H',Inv X pins σ' H' s'/\D.ct σ' H'
 | .ret u=>∃ v σ' H',Inv X pins σ' H' s'/\Yo v u/\D.rt v H'
def PE (X:Cx) (e:Expr) (t:TE):Prop:=
 ∀ (pins:List (Addr×Obj)) (s:J9i) (σ:St) (H:Hp) (Q:VK),Inv X pins σ H s->t σ H Q->J9j (model X.prog X.w) X.A (eval e X.env) (EP X pins σ Q) X.xe s
def PT (X:Cx) (e:Expr) (t:TT):Prop:=
 ∀ (pins:List (Addr×Obj)) (s:J9i) (σ:St) (H:Hp) (Q:Bool->Hp->Prop),Inv X pins σ H s->t σ H Q->J9j (model X.prog X.w) X.A (isTrue e X.env (eval e X.env)) (TP X pins σ Q) X.xe s
def PW (X:Cx) (e:Expr) (t:TT):Prop:=
 ∀ (whole:Sem J9g) (pins:List (Addr×Obj)) (s:J9i) (σ:St) (H:Hp) (Q:Bool->Hp->Prop),Inv X pins σ H s->t σ H Q->J9j (model X.prog X.w) X.A (isTrue e X.env whole) (TP X pins σ Q) X.xe s
theorem PW.pt {X:Cx}{e:Expr}{t:TT}(h:PW X e t):PT X e t:=h _
def PA (X:Cx) (es:List Expr) (t:TA):Prop:=
 ∀ (pos:Pos) (pins:List (Addr×Obj)) (s:J9i) (σ:St) (H:Hp) (Q:List V->Hp->Prop),Inv X pins σ H s->t σ H Q->J9j (model X.prog X.w) X.A (spliced (backTo pos (starEach es X.env))) (AP X pins σ Q) X.xe s
def PS (X:Cx) (st:Stmt) (t:TS):Prop:=
 ∀ (pins:List (Addr×Obj)) (s:J9i) (σ:St) (H:Hp) (D:Ends),Inv X pins σ H s->t D σ H->J9j (model X.prog X.w) X.A (exec st X.env) (SP X pins D) X.xe s
def PSs (X:Cx) (st:List Stmt) (t:TS):Prop:=
 ∀ (pins:List (Addr×Obj)) (s:J9i) (σ:St) (H:Hp) (D:Ends),Inv X pins σ H s->t D σ H->J9j (model X.prog X.w) X.A (execs st X.env) (SP X pins D) X.xe s
theorem thn {α:Type}{t:Sem α}{Q Q':α->J9i->Prop}{M:Model}{A:J9m}{E:J9g->J9i->Prop}{s:J9i}(h:J9j M A t Q E s) (hQ:∀ a s,Q a s->Q' a s):J9j M A t Q' E s:=wpAny_mono h hQ λ _ _ x=>x
section
variable {X:Cx}
def Zv (i:Nat):TE:=λ σ H Q=>∃ v,σ[i]? = some (some v)/\Q v H
def tC (v:V):TE:=λ _ H Q=>Q v H
theorem Jyh {i:Nat}{x:Str}{pos:Pos}(hN:X.N[i]? = some x) (hv:Vis X.env.scope x) (hd:(x==("__debug__":Str))=false:=by decide) (hcd:(x==("__classdict__":Str))=false:=by decide):PE X (.Name x pos) (Zv i):=by
 intro pins s σ H Q I h
 obtain ⟨v,e,h⟩:=h
 obtain ⟨m,hn,hl⟩:=I.loc
 obtain ⟨u,r,l⟩:=hl i x v hN e hv
 have fin:EP X pins σ Q u s:=⟨v,H,I,r,h⟩
 rcases l with ⟨hk,hm⟩ | ⟨hk,c,hc,hcell⟩
 . exact wpAny_Name (wpAny_loadName_local I.ok.kind hk hn hm fin) hd
 . rcases hk with hk | hk
   . exact wpAny_Name (wpAny_loadName_cell I.ok.kind hk hc hcell fin) hd
   . exact wpAny_Name (wpAny_loadName_free I.ok.kind hk hc hcell fin hcd) hd
theorem Ji {i j pos}:PE X (.Constant (.int i) j pos) (tC (.int i)):=λ _ _ _ H _ I h=>wpAny_Constant_int ⟨.int i,H,I.tok _,⟨_,rfl⟩,h⟩
theorem Jbq {b j pos}:PE X (.Constant (.bool b) j pos) (tC (.bl b)):=λ _ _ _ H _ I h=>Constant_bool ⟨.bl b,H,I,rfl,h⟩
theorem Jag {j pos}:PE X (.Constant .none j pos) (tC .non):=λ _ _ _ H _ I h=>Constant_none ⟨.non,H,I,rfl,h⟩
theorem Jgj {x j pos}:PE X (.Constant (.str x) j pos) (tC (.str x)):=λ _ _ _ H _ I h=>Calls.Constant_str ⟨.str x,H,I.tok _,⟨_,rfl⟩,h⟩
def Gl (X:Cx) (x:Str):Prop:=X.env.kindOf x=some .globalImplicit
theorem Jo1 {E:J9g->J9i->Prop}{pins:List (Addr×Obj)}{s:J9i}{σ:St}{H:Hp}{x:Str}{u:J9g}{pos:Pos}{Q:J9g->J9i->Prop}(I:Inv X pins σ H s) (hg:Gl X x) (hm:X.mg x=some u) (h:Q u s)
 (hd:(x==("__debug__":Str))=false:=by decide):J9j (model X.prog X.w) X.A (eval (.Name x pos) X.env) Q E s:=
 J7g I.ok.kind hg (Calls.loadGlobal_global (by rw [I.ok.glob];exact I.mod.glob.keeps I.bk) hm h) hd
theorem Bs {E:J9g->J9i->Prop}{pins:List (Addr×Obj)}{s:J9i}{σ:St}{H:Hp}{x:Str}{u:J9g}{pos:Pos}{Q:J9g->J9i->Prop}(I:Inv X pins σ H s) (hg:Gl X x) (hm:X.mg x=none) (hv:J97 x=some u) (h:Q u s)
 (hn:x≠"__name__":=by decide) (hd:(x==("__debug__":Str))=false:=by decide):J9j (model X.prog X.w) X.A (eval (.Name x pos) X.env) Q E s:=by
 obtain ⟨mb,h1,h2⟩:=I.mod.blt
 exact J7g I.ok.kind hg (Calls.loadGlobal_builtin (by rw [I.ok.glob];exact I.mod.glob.keeps I.bk) hm (by rw [I.ok.blt];exact h1.keeps I.bk) ((h2 x hn).trans hv) h) hd
theorem Jju {x:Str}{v:V}{u:J9g}{pos:Pos}(hg:Gl X x) (hm:X.mg x=none) (hv:J97 x=some u) (r:Yo v u) (hn:x≠"__name__":=by decide) (hd:(x==("__debug__":Str))=false:=by decide):PE X (.Name x pos) (tC v):=
 λ _ _ _ H _ I h=>Bs I hg hm hv ⟨v,H,I,r,h⟩ hn hd
variable {a b:Expr}{ta tb:TE}{pos:Pos}
def tB (t:TE):TT:=λ σ H Q=>t σ H λ x H1=>∃ c,x = .bl c/\Q c H1
theorem W5 {e:Expr}{t:TE}(h:PE X e t) (he:∀ whole,isTrue e X.env whole=(do let v <- whole;J9y e.pos;holding [v] (truthy v)):=by intro _;rfl):PT X e (tB t):=by
 intro pins s σ H Q I hw
 refine isTrue_plain (thn (h pins s σ H _ I hw) λ v s1 ⟨x,H1,I1,r1,q1⟩=>?_) (he _)
 obtain ⟨d,rfl,q⟩:=q1
 cases r1
 exact wpAny_truthy_bool ⟨H1,I1,q⟩
variable {tA tB':TT}{rest:List Expr}
def J0e (t u:TT):TT:=λ σ H Q=>t σ H λ c H1=>if c=true then u σ H1 Q else Q false H1
def tOr (t u:TT):TT:=λ σ H Q=>t σ H λ c H1=>if c=true then Q true H1 else u σ H1 Q
def J0f (t:TT):TT:=λ σ H Q=>t σ H λ c H1=>Q (!c) H1
theorem Ja4 (ha:PT X a tA):PW X (.BoolOp .And [a] pos) tA:=by
 intro wh pins s σ H Q I h
 refine isTrue_and (thn (ha pins s σ H Q I h) λ c s1 e=>?_)
 cases c with
 | true=>exact isTrue_and_nil e
 | false=>exact e
theorem Jnh (ha:PT X a tA):PW X (.BoolOp .Or [a] pos) tA:=by
 intro wh pins s σ H Q I h
 refine isTrue_or (thn (ha pins s σ H Q I h) λ c s1 e=>?_)
 cases c with
 | false=>exact isTrue_or_nil e
 | true=>exact e
theorem Jc1 (ha:PT X a tA) (hb:PW X (.BoolOp .And (b::rest) pos) tB'):PW X (.BoolOp .And (a::b::rest) pos) (J0e tA tB'):=by
 intro wh pins s σ H Q I h
 refine isTrue_and (thn (ha pins s σ H _ I h) λ c s1 ⟨H1,I1,q1⟩=>?_)
 cases c with
 | true=>exact hb wh pins s1 σ H1 Q I1 q1
 | false=>exact ⟨H1,I1,q1⟩
theorem Jrv (ha:PT X a tA) (hb:PW X (.BoolOp .Or (b::rest) pos) tB'):PW X (.BoolOp .Or (a::b::rest) pos) (tOr tA tB'):=by
 intro wh pins s σ H Q I h
 refine isTrue_or (thn (ha pins s σ H _ I h) λ c s1 ⟨H1,I1,q1⟩=>?_)
 cases c with
 | true=>exact ⟨H1,I1,q1⟩
 | false=>exact hb wh pins s1 σ H1 Q I1 q1
theorem Jah (ha:PT X a tA):PT X (.UnaryOp .Not a pos) (J0f tA):=by
 intro pins s σ H Q I h
 exact isTrue_not (ha pins s σ H (λ c H1=>Q (!c) H1) I h)
def Jw6 (ta tb:TE):TE:=λ σ H Q=>ta σ H λ x H1=>∃ c,x = .bl c/\if c=true then tb σ H1 Q else Q (.bl false) H1
def J0g (ta tb:TE):TE:=λ σ H Q=>ta σ H λ x H1=>∃ c,x = .bl c/\if c=true then Q (.bl true) H1 else tb σ H1 Q
def Jw7 (ta:TE):TE:=λ σ H Q=>ta σ H λ x H1=>∃ c,x = .bl c/\Q (.bl (!c)) H1
theorem Jai {op} {t:TE}(h:PE X a t):PE X (.BoolOp op [a] pos) t:=λ pins s σ H Q I hw=>BoolOp_one (h pins s σ H Q I hw)
theorem Ja5 (ha:PE X a ta) (hb:PE X (.BoolOp .And (b::rest) pos) tb):PE X (.BoolOp .And (a::b::rest) pos) (Jw6 ta tb):=by
 intro pins s σ H Q I h
 refine BoolOp_and (thn (ha pins s σ H _ I h) λ v s1 ⟨x,H1,I1,r1,q1⟩=>?_)
 obtain ⟨c,rfl,q1⟩:=q1
 cases r1
 refine wpAny_truthy_bool ?_
 cases c with
 | true=>exact hb pins s1 σ H1 Q I1 q1
 | false=>exact ⟨.bl false,H1,I1,rfl,q1⟩
theorem Jw8 (ha:PE X a ta) (hb:PE X (.BoolOp .Or (b::rest) pos) tb):PE X (.BoolOp .Or (a::b::rest) pos) (J0g ta tb):=by
 intro pins s σ H Q I h
 refine BoolOp_or (thn (ha pins s σ H _ I h) λ v s1 ⟨x,H1,I1,r1,q1⟩=>?_)
 obtain ⟨c,rfl,q1⟩:=q1
 cases r1
 refine wpAny_truthy_bool ?_
 cases c with
 | false=>exact hb pins s1 σ H1 Q I1 q1
 | true=>exact ⟨.bl true,H1,I1,rfl,q1⟩
theorem Jrw (ha:PE X a ta):PE X (.UnaryOp .Not a pos) (Jw7 ta):=by
 intro pins s σ H Q I h
 refine UnaryOp_ (thn (ha pins s σ H _ I h) λ v s1 ⟨x,H1,I1,r1,q1⟩=>?_)
 obtain ⟨c,rfl,q1⟩:=q1
 cases r1
 exact not_of (wpAny_truthy_bool ⟨.bl (!c),H1,I1,rfl,q1⟩)
def tIf (t:TT) (ta tb:TE):TE:=λ σ H Q=>t σ H λ c H1=>if c=true then ta σ H1 Q else tb σ H1 Q
theorem Jlk {c:Expr}(hc:PT X c tA) (ha:PE X a ta) (hb:PE X b tb):PE X (.IfExp c a b pos) (tIf tA ta tb):=by
 intro pins s σ H Q I h
 refine wpAny_IfExp (thn (hc pins s σ H _ I h) λ d s1 ⟨H1,I1,q1⟩=>?_)
 cases d with
 | true=>exact ha pins s1 σ H1 Q I1 q1
 | false=>exact hb pins s1 σ H1 Q I1 q1
end
def SqL (K:Qc) (H:Hp) (a:Addr) (xs:List V):Prop:=
 Rd H a (.lst xs) \/
  ∃ (o:Obj) (its:Array J9g) (n:Nat),K.lookup a=some o/\o.cls = .type "list"/\o.dict=none/\o.data = .seq its n/\its.size<=sizeLine/\J9 xs its.toList
def SqT (K:Qc) (H:Hp) (a:Addr) (xs:List V):Prop:=
 Rd H a (.tup xs) \/
  ∃ (o:Obj) (its:Array J9g) (n:Nat),K.lookup a=some o/\o.cls = .type "tuple"/\o.data = .seq its n/\its.size<=sizeLine/\J9 xs its.toList
noncomputable def J17:J9g->Option V
 | .none=>some .non
 | .bool b=>some (.bl b)
 | .int i _=>some (.int i)
 | .str x _=>some (.str x)
 | .bytes b _=>some (.byt b)
 | .float b _=>some (.flt b)
 | .ref a=>some (.ref a)
 | .type n=>some (.ty n)
 | _=>none
theorem Yo.abs {x:V}{u:J9g}(r:Yo x u):J17 u=some x:=by
 cases x with
 | non=>cases r;rfl
 | bl _=>cases r;rfl
 | int _=>obtain ⟨t,rfl⟩:=r;rfl
 | str _=>obtain ⟨t,rfl⟩:=r;rfl
 | byt _=>obtain ⟨t,rfl⟩:=r;rfl
 | flt _=>obtain ⟨t,rfl⟩:=r;rfl
 | ref _=>cases r;rfl
 | ty _=>cases r;rfl
theorem Yo.inj {x y:V}{u:J9g}(r:Yo x u) (q:Yo y u):x=y:=Xj (r.abs.symm.trans q.abs)
theorem J9.inj:∀ {xs ys:List V}{us:List J9g},J9 xs us->J9 ys us->xs=ys
 | _,_,_,.nil,.nil=>rfl
 | _,_,_,.cons r t,.cons r' t'=>by rw [r.inj r',J9.inj t t']
section
variable {X:Cx}{pins:List (Addr×Obj)}{σ:St}{H:Hp}{s:J9i}{a:Addr}{xs ys:List V}
theorem SqL.of {K:Qc}(h:H a=some (.lst xs)):SqL K H a xs:=.inl (.inl h)
theorem SqT.of {K:Qc}(h:H a=some (.tup xs)):SqT K H a xs:=.inl (.inl h)
theorem Inv.list (I:Inv X pins σ H s) (h:SqL X.K H a xs):∃ its:List J9g,J9 xs its/\PlainL s.heap a its.toArray/\xs.length<=sizeLine:=by
 rcases h with h | ⟨o,its,n,hk,hc,hd,hs,hz,r⟩
 . obtain ⟨z,its,n,r,e⟩:=h.ok I.hok
   exact ⟨its,r,⟨_,n,e,rfl,rfl,rfl⟩,z⟩
 . refine ⟨its.toList,r,⟨o,n,I.kIn a o hk,hc,hd,by simpa using hs⟩,?_⟩
   have e:=r.length
   simp only [J5r] at e
   omega
theorem Inv.tuple (I:Inv X pins σ H s) (h:SqT X.K H a xs):∃ its:List J9g,J9 xs its/\IsTup s.heap a its.toArray/\xs.length<=sizeLine:=by
 rcases h with h | ⟨o,its,n,hk,hc,hs,hz,r⟩
 . obtain ⟨z,its,r,p⟩:=h.ok I.hok
   exact ⟨its,r,p,z⟩
 . refine ⟨its.toList,r,⟨o,I.kIn a o hk,hc,n,by simpa using hs⟩,?_⟩
   have e:=r.length
   simp only [J5r] at e
   omega
theorem Inv.list_inj (I:Inv X pins σ H s) (h:SqL X.K H a xs) (h':SqL X.K H a ys):xs=ys:=by
 obtain ⟨its,r,⟨o,n,e,_,_,d⟩,_⟩:=I.list h
 obtain ⟨its',r',⟨o',n',e',_,_,d'⟩,_⟩:=I.list h'
 rw [e] at e';cases e'
 rw [d] at d'
 injection d' with d1 _
 have:its=its':=by simpa using congrArg J7h d1
 subst this
 exact r.inj r'
theorem Inv.tuple_inj (I:Inv X pins σ H s) (h:SqT X.K H a xs) (h':SqT X.K H a ys):xs=ys:=by
 obtain ⟨its,r,⟨o,e,_,n,d⟩,_⟩:=I.tuple h
 obtain ⟨its',r',⟨o',e',_,n',d'⟩,_⟩:=I.tuple h'
 rw [e] at e';cases e'
 rw [d] at d'
 injection d' with d1 _
 have:its=its':=by simpa using congrArg J7h d1
 subst this
 exact r.inj r'
end
noncomputable abbrev Cx.wish (X:Cx) (E:J9g->J9i->Prop):Cx:={ X with xe:=E }
noncomputable abbrev Cx.nox (X:Cx):Cx:=X.wish λ _ _=>False
theorem Cx.Ok.wish {X:Cx}(ok:X.Ok) (E:J9g->J9i->Prop):(X.wish E).Ok:=
 ⟨ok.mod,ok.kind,ok.glob,ok.blt,ok.above,ok.inj,ok.has,ok.cab,ok.hd,ok.frames,ok.stk,ok.exf,ok.bs,ok.bsz,ok.noex,ok.exfs,ok.funs,ok.frf⟩
theorem Cx.Ok.unwish {X:Cx}{E:J9g->J9i->Prop}(ok:(X.wish E).Ok):X.Ok:=
 ⟨ok.mod,ok.kind,ok.glob,ok.blt,ok.above,ok.inj,ok.has,ok.cab,ok.hd,ok.frames,ok.stk,ok.exf,ok.bs,ok.bsz,ok.noex,ok.exfs,ok.funs,ok.frf⟩
section
variable {X:Cx}{pins:List (Addr×Obj)}{σ:St}{H:Hp}{s:J9i}{E:J9g->J9i->Prop}
theorem Inv.wish (I:Inv X pins σ H s) (E:J9g->J9i->Prop):Inv (X.wish E) pins σ H s:=⟨I.ok.wish E,I.os,I.bare,I.base,I.loc,I.cell,I.free,I.freeC,I.pin,I.hok,I.len⟩
theorem Inv.unwish (I:Inv (X.wish E) pins σ H s):Inv X pins σ H s:=⟨I.ok.unwish,I.os,I.bare,I.base,I.loc,I.cell,I.free,I.freeC,I.pin,I.hok,I.len⟩
theorem SP.unwish {D:Ends}{f:Flow}{s':J9i}(h:SP (X.wish E) pins D f s'):SP X pins D f s':=by
 cases f with
 | next=>obtain ⟨σ',H',I,q⟩:=h;exact ⟨σ',H',I.unwish,q⟩
 | brk=>obtain ⟨σ',H',I,q⟩:=h;exact ⟨σ',H',I.unwish,q⟩
 | cont=>obtain ⟨σ',H',I,q⟩:=h;exact ⟨σ',H',I.unwish,q⟩
 | ret u=>obtain ⟨v,σ',H',I,r,q⟩:=h;exact ⟨v,σ',H',I.unwish,r,q⟩
theorem PSs.nox {st:List Stmt}{t:TS}(h:PSs X.nox st t):PSs X st t:=λ pins s σ H D I hw=>
 wpAny_mono (h pins s σ H D (I.wish _) hw) (λ _ _ q=>q.unwish) λ _ _ z=>Ua z
end
section
variable {X:Cx}{st:Stmt}{rest:List Stmt}{t u:TS}{e:Expr}{te:TE}{pos:Pos}
def Jrx:TS:=λ D σ H=>D.nx σ H
def Jas (t u:TS):TS:=λ D σ H=>t { D with nx:=u D } σ H
theorem Yj:PSs X [] Jrx:=λ _ _ σ H _ I h=>Yak ⟨σ,H,I,h⟩
theorem Jb (h1:PS X st t) (h2:PSs X rest u):PSs X (st::rest) (Jas t u):=by
 intro pins s σ H D I h
 refine wpAny_execs_cons (thn (h1 pins s σ H { D with nx:=u D } I h) λ f s1 q=>?_)
 cases f with
 | next=>
  obtain ⟨σ',H',I',q⟩:=q
  exact h2 pins s1 σ' H' D I' q
 | ret v=>exact q
 | brk=>exact q
 | cont=>exact q
theorem Jg (h1:PS X st t):PSs X [st] t:=by
 intro pins s σ H D I h
 refine wpAny_execs_cons (thn (h1 pins s σ H D I h) λ f s1 q=>?_)
 cases f with
 | next=>exact Yak q
 | ret v=>exact q
 | brk=>exact q
 | cont=>exact q
theorem Inv.quiet {pins:List (Addr×Obj)}{σ:St}{H:Hp}{s:J9i}(I:Inv X pins σ H s):interactive X.env=false:=by simp [interactive,I.ok.kind]
def Jry (te:TE):TS:=λ D σ H=>te σ H λ _ H1=>D.nx σ H1
theorem Ja6 (he:PE X e te) (hs:J98 e none pos.line X.env=pure false:=by rfl):PS X (.Expr e pos) (Jry te):=by
 intro pins s σ H D I h
 exact wpAny_Expr_any (thn (he pins s σ H _ I h) λ v s1 ⟨x,H1,I1,r1,q1⟩=>⟨σ,H1,I1,q1⟩) I.quiet hs
def Jrz (te:TE):TS:=λ D σ H=>te σ H D.rt
theorem Jr (he:PE X e te):PS X (.Return (some e) pos) (Jrz te):=by
 intro pins s σ H D I h
 exact wpAny_Return_some (thn (he pins s σ H _ I h) λ v s1 ⟨x,H1,I1,r1,q1⟩=>⟨x,σ,H1,I1,r1,q1⟩)
def J0h (c:TT) (t u:TS):TS:=λ D σ H=>c σ H λ b H1=>if b=true then t D σ H1 else u D σ H1
theorem Z5 {c:Expr}{a b:List Stmt}{tc:TT}(hc:PT X c tc) (ha:PSs X a t) (hb:PSs X b u):PS X (.If c a b pos) (J0h tc t u):=by
 intro pins s σ H D I h
 refine wpAny_If (thn (hc pins s σ H _ I h) λ d s1 ⟨H1,I1,q1⟩=>?_)
 cases d with
 | true=>exact ha pins s1 σ H1 D I1 q1
 | false=>exact hb pins s1 σ H1 D I1 q1
def Jr0:TS:=λ _ _ _=>False
theorem Jcf {sts:List Stmt}:PSs X sts Jr0:=λ _ _ _ _ _ _ h=>h.elim
end
abbrev TG:=V->St->Hp->(St->Hp->Prop)->Prop
abbrev TGs:=List V->St->Hp->(St->Hp->Prop)->Prop
def PG (X:Cx) (target:Expr) (t:TG):Prop:=
 ∀ (pins:List (Addr×Obj)) (s:J9i) (σ:St) (H:Hp) (v:V) (u:J9g) (Q:St->Hp->Prop),Inv X pins σ H s->Yo v u->t v σ H Q ->
  J9j (model X.prog X.w) X.A (assign target X.env u) (λ _ s'=>∃ σ' H',Inv X pins σ' H' s'/\Q σ' H') X.xe s
def PGs (X:Cx) (ts:List Expr) (t:TGs):Prop:=
 ∀ (pins:List (Addr×Obj)) (s:J9i) (σ:St) (H:Hp) (vs:List V) (us:List J9g) (Q:St->Hp->Prop),Inv X pins σ H s->J9 vs us->t vs σ H Q ->
  J9j (model X.prog X.w) X.A (assignInOrder ((assignEach ts X.env).map (·.2)) us) (λ _ s'=>∃ σ' H',Inv X pins σ' H' s'/\Q σ' H') X.xe s
abbrev Jr1:=V->V->V->Hp->(Hp->Prop)->Prop
def Jyi (X:Cx) (t:Jr1):Prop:=
 ∀ (pins:List (Addr×Obj)) (s:J9i) (σ:St) (H:Hp) (o i v:V) (ov iv u:J9g) (Q:Hp->Prop),Inv X pins σ H s->Yo o ov->Yo i iv->Yo v u->t o i v H Q ->
  J9j (model X.prog X.w) X.A (setItem ov iv u) (λ _ s'=>∃ H',Inv X pins σ H' s'/\Q H') X.xe s
abbrev TIp:=V->V->Hp->VK->Prop
def PIp (X:Cx) (op:J99) (t:TIp):Prop:=
 ∀ (pins:List (Addr×Obj)) (s:J9i) (σ:St) (H:Hp) (x y:V) (v u:J9g) (Q:VK),Inv X pins σ H s->Yo x v->Yo y u->t x y H Q ->
  J9j (model X.prog X.w) X.A (inplaceOp op v u) (EP X pins σ Q) X.xe s
section
variable {X:Cx}{pos:Pos}
def Bm (i:Nat):TG:=λ v σ H Q=>Q (σ.set i (some v)) H
theorem Jt {i:Nat}{x:Str}(hN:X.N.Nodup) (hi:X.N[i]? = some x) (hx:Loc X.env.scope x) (hf:X.fn x=true\/X.env.scope.names.lookup x=some .local := by first | exact .inl rfl | exact .inr rfl | assumption):PG X (.Name x pos) (Bm i):=by
 intro pins s σ H v u Q I r h
 exact Yan (Jbu I hN hi hx r (λ s' I'=>⟨_,H,I',h⟩) hf)
def gNil:TGs:=λ vs σ H Q=>vs=[]/\Q σ H
def gCons (t:TG) (u:TGs):TGs:=λ vs σ H Q=>∃ v r,vs=v::r/\t v σ H λ σ' H'=>u r σ' H' Q
theorem Jdn:PGs X [] gNil:=by
 intro pins s σ H vs us Q I r h
 obtain ⟨e,h⟩:=h
 subst e
 cases r
 exact assignInOrder_nil ⟨σ,H,I,h⟩
theorem Wk {e:Expr}{es:List Expr}{t:TG}{u:TGs}(h1:PG X e t) (h2:PGs X es u)
 (hs:(assignEach (e::es) X.env).map (·.2)=assign e X.env::(assignEach es X.env).map (·.2):=by rfl):PGs X (e::es) (gCons t u):=by
 intro pins s σ H vs us Q I r h
 obtain ⟨v,vr,e1,h⟩:=h
 subst e1
 cases r with
 | cons r rr=>
  rw [hs]
  refine assignInOrder_cons (thn (h1 pins s σ H _ _ _ I r h) λ _ s1 ⟨σ1,H1,I1,q1⟩=>?_)
  exact h2 pins s1 σ1 H1 _ _ Q I1 rr q1
def Jr2 (K:Qc) (n:Nat) (t:TGs):TG:=λ v σ H Q=>∃ a xs,v = .ref a/\SqT K H a xs/\xs.length=n/\t xs σ H Q
theorem Jjv {es:List Expr}{k:Nat}{t:TGs}{n:Nat}(hc:X.calm=true) (h:PGs X es t)
 (hn:(assignEach es X.env).length=n:=by rfl) (hst:(assignEach es X.env).findIdx? (·.1)=none:=by rfl):PG X (.Tuple es k pos) (Jr2 X.K n t):=by
 intro pins s σ H v u Q I r hw
 obtain ⟨a,xs,e1,hq,hl,hw⟩:=hw
 subst e1
 cases r
 obtain ⟨its,rv,ht,hz⟩:=I.tuple hq
 refine assign_Tuple_tuple (I.ok.hd hc) ht (by simp [hn,<- hl,rv.length]) hst λ h' hx=>?_
 have I1:Inv X pins σ H { s with heap:=h' }:=I.kept (t':=s.toks) λ b o e=>hx b o (Q5 (Qt e)) e
 exact h pins _ σ H xs _ Q I1 (by simpa using rv) hw
def Jni (to ti:TE) (t:Jr1):TG:=λ v σ H Q=>to σ H λ o H1=>ti σ H1 λ i H2=>t o i v H2 λ H3=>Q σ H3
theorem Z9 {o i:Expr}{to ti:TE}{t:Jr1}(ho:PE X o to) (hi:PE X i ti) (hs:Jyi X t)
 (ha:∀ v,assign (.Subscript o i pos) X.env v=(do
  let ov <- holding [v] (eval o X.env)
  let iv <- holding [v,ov] (eval i X.env)
  J9y pos
  holding [v,ov,iv] (setItem ov iv v)
  Yaa [v,ov,iv] []):=by intro _;rfl):PG X (.Subscript o i pos) (Jni to ti t):=by
 intro pins s σ H v u Q I r h
 rw [ha]
 refine wpAny_bind (wpAny_holding (thn (ho pins s σ H _ I h) λ ov s1 ⟨x,H1,I1,r1,q1⟩=>?_))
 refine wpAny_bind (wpAny_holding (thn (hi pins s1 σ H1 _ I1 q1) λ iv s2 ⟨y,H2,I2,r2,q2⟩=>?_))
 refine wpAny_bind (wpAny_standAt (wpAny_bind (wpAny_holding (thn (hs pins s2 σ H2 x y v ov iv u _ I2 r1 r2 r q2) λ _ s3 ⟨H3,I3,q3⟩=>?_))))
 exact wpAny_release ⟨σ,H3,I3,q3⟩
def Jdo (te:TE) (g:TG):TS:=λ D σ H=>te σ H λ x H1=>g x σ H1 D.nx
theorem Ye {tg e:Expr}{te:TE}{g:TG}(he:PE X e te) (hg:PG X tg g) (hs:swapsWithSole [tg] e pos.line X.env=pure false:=by rfl) (hw:swappedStores [tg] e X.env=pure none:=by rfl)
 (h1:(assignEach [tg] X.env).map (·.2)=[assign tg X.env]:=by rfl):PS X (.Assign [tg] e pos) (Jdo te g):=by
 intro pins s σ H D I h
 refine wpAny_Assign_stores (thn (he pins s σ H _ I h) λ v s1 ⟨x,H1,I1,r1,q1⟩=>?_) hs hw
 rw [h1]
 exact thn (hg pins s1 σ H1 x v _ I1 r1 q1) λ _ s2 q=>q
theorem Jz {i:Nat}{x:Str}{e:Expr}{te:TE}{pos':Pos}(hN:X.N.Nodup) (hi:X.N[i]? = some x) (hx:Loc X.env.scope x) (he:PE X e te) (hs:J98 e (some (.Name x pos')) pos.line X.env=pure false:=by rfl) (hf:X.fn x=true\/X.env.scope.names.lookup x=some .local := by first | exact .inl rfl | exact .inr rfl | assumption) :
 PS X (.Assign [.Name x pos'] e pos) (Jdo te (Bm i)):=by
 intro pins s σ H D I h
 refine wpAny_Assign_Name (thn (he pins s σ H _ I h) λ v s1 ⟨y,H1,I1,r1,q1⟩=>?_) hs
 exact Jbu I1 hN hi hx r1 (λ s2 I2=>⟨_,H1,I2,q1⟩) hf
def J0i (i j:Nat) (ta:TA):TS:=λ D σ H=>ta σ H λ vs H1=>∃ v w,vs=[v,w]/\D.nx ((σ.set i (some v)).set j (some w)) H1
theorem Jnj {i j:Nat}{x y:Str}{a b:Expr}{ta:TA}{px py pt:Pos}{kt k2 pt2} (hc:X.calm=true) (hN:X.N.Nodup) (hi:X.N[i]? = some x) (hj:X.N[j]? = some y) (hij:i≠j)
 (hx:X.env.scope.names.lookup x=some .local) (hy:X.env.scope.names.lookup y=some .local) (ha:PA X [a,b] ta)
 (hw:swappedStores [.Tuple [.Name x px,.Name y py] kt pt] (.Tuple [a,b] k2 pt2) X.env=pure (some [x,y]))
 (hs:swapsWithSole [.Tuple [.Name x px,.Name y py] kt pt] (.Tuple [a,b] k2 pt2) pos.line X.env=pure false:=by rfl) :
 PS X (.Assign [.Tuple [.Name x px,.Name y py] kt pt] (.Tuple [a,b] k2 pt2) pos) (J0i i j ta):=by
 intro pins s σ H D I h
 rw [exec_Assign_arm]
 refine wpAny_bind (wpAny_standAt ?_)
 rw [hs]
 refine wpAny_bind (wpAny_pure ?_)
 rw [if_neg (by decide)]
 refine wpAny_bind (Tuple_ (thn (ha _ pins s σ H _ I h) λ us s1 ⟨vs,H1,I1,r1,q1⟩=>?_))
 obtain ⟨v,w,e1,q1⟩:=q1
 subst e1
 obtain ⟨u1,u2,rfl,rv,rw'⟩:∃ u1 u2,us=[u1,u2]/\Yo v u1/\Yo w u2:=by
  cases r1 with
  | cons p q=>
   cases q with
   | cons p' q'=>
    cases q'
    exact ⟨_,_,rfl,p,p'⟩
 refine wpAny_newObj_type ?_ (by show 2<=sizeLine;decide)
 have I2:Inv X pins σ H1 { s1 with heap:=s1.heap.push { cls:=.type "tuple",data:=.seq [u1,u2].toArray } }:=I1.kept (t':=s1.toks) λ b o e=>Qu _ e
 rw [hw]
 refine wpAny_bind (wpAny_pure ?_)
 show J9j (model X.prog X.w) X.A (do rule "assign.swapped-stores";let items <- unpackItems (.ref s1.heap.objs.size) 2 none;assignInOrder [λ v=>bindName X.env y v,λ v=>bindName X.env x v] items.reverse;pure Flow.next) _ _ _
 refine wpAny_bind (wpAny_rule (wpAny_bind (unpackItems_tuple (items:=#[u1,u2]) (I.ok.hd hc) (IsTup.new s1.heap _) λ h' hx'=>?_)))
 have I3:=I2.kept (h':=h') (t':=s1.toks) λ b o e=>hx' b o (Q5 (Qt e)) e
 show J9j _ _ (assignInOrder [λ v=>bindName X.env y v,λ v=>bindName X.env x v] [u2,u1] >>= λ _=>pure Flow.next) _ _ _
 refine wpAny_bind (assignInOrder_cons (wpAny_bindName (Jbu I3 hN hj (.inl hy) rw' (λ s2 I4=>?_) (.inr hy))))
 refine assignInOrder_cons (wpAny_bindName (Jbu I4 hN hi (.inl hx) rv (λ s3 I5=>assignInOrder_nil (wpAny_pure ?_)) (.inr hx)))
 rw [J7i _ _ (Qk hij)] at I5
 exact ⟨_,H1,I5,q1⟩
def J0j (i:Nat) (te:TE) (ti:TIp):TS:=λ D σ H=>∃ x,σ[i]? = some (some x)/\te σ H λ y H1=>ti x y H1 λ z H2=>D.nx (σ.set i (some z)) H2
theorem Jyj {i:Nat}{x:Str}{e:Expr}{te:TE}{op:J99}{ti:TIp}{pos':Pos}(hN:X.N.Nodup) (hi:X.N[i]? = some x) (hx:Loc X.env.scope x) (he:PE X e te) (ho:PIp X op ti) (hf:X.fn x=true\/X.env.scope.names.lookup x=some .local := by first | exact .inl rfl | exact .inr rfl | assumption) :
 PS X (.AugAssign (.Name x pos') op e pos) (J0j i te ti):=by
 intro pins s σ H D I h
 obtain ⟨v,e1,h⟩:=h
 obtain ⟨m,hn,hl⟩:=I.loc
 have vis:Vis X.env.scope x:=by rcases hx with k | k;exact .inl k;exact .inr (.inl k)
 obtain ⟨u,r,l⟩:=hl i x v hi e1 vis
 refine wpAny_AugAssign_Name ?_
 have go:J9j (model X.prog X.w) X.A (eval e X.env) (λ w s₂=>J9j (model X.prog X.w) X.A (inplaceOp op u w) (λ r s₃=>J9j (model X.prog X.w) X.A (storeName X.env x r) (λ _=>SP X pins D .next) X.xe s₃) X.xe s₂) X.xe s:=by
  refine thn (he pins s σ H _ I h) λ w s1 ⟨y,H1,I1,r1,q1⟩=>?_
  refine thn (ho pins s1 σ H1 v y u w _ I1 r r1 q1) λ z s2 ⟨zv,H2,I2,r2,q2⟩=>?_
  exact Jbu I2 hN hi hx r2 (λ s3 I3=>⟨_,H2,I3,q2⟩) hf
 rcases l with ⟨hk,hm⟩ | ⟨hk,c,hc,hcell⟩
 . exact wpAny_loadName_local I.ok.kind hk hn hm go
 . rcases hk with hk | hk
   . exact wpAny_loadName_cell I.ok.kind hk hc hcell go
   . rcases hx with k | k
     . have:X.env.scope.names.lookup x=some .free:=hk
       rw [k] at this;cases this
     . have:X.env.scope.names.lookup x=some .free:=hk
       rw [k] at this;cases this
def Jw9 (to ti te:TE) (tget:V->V->Hp->VK->Prop) (tip:TIp) (tset:Jr1):TS:=λ D σ H=>to σ H λ o H1=>ti σ H1 λ i H2=>tget o i H2 λ x H3=>te σ H3 λ y H4=>tip x y H4 λ z H5=>tset o i z H5 λ H6=>D.nx σ H6
def J0k (X:Cx) (t:V->V->Hp->VK->Prop):Prop:=
 ∀ (pins:List (Addr×Obj)) (s:J9i) (σ:St) (H:Hp) (o i:V) (ov iv:J9g) (Q:VK),Inv X pins σ H s->Yo o ov->Yo i iv->t o i H Q ->
  J9j (model X.prog X.w) X.A (getItem ov iv) (EP X pins σ Q) X.xe s
theorem Jo2 {o i e:Expr}{to ti te:TE}{tget:V->V->Hp->VK->Prop}{tip:TIp}{tset:Jr1}{op:J99}{tpos:Pos}(ho:PE X o to) (hi:PE X i ti) (hg:J0k X tget) (he:PE X e te) (hp:PIp X op tip) (hs:Jyi X tset)
 (ha:∀ ov iv new,augStore i ov iv new=(do holding [new,ov,iv] (setItem ov iv new);Yaa [new,ov,iv] [];pure .next):=by intros;rfl):PS X (.AugAssign (.Subscript o i tpos) op e pos) (Jw9 to ti te tget tip tset):=by
 intro pins s σ H D I h
 refine wpAny_AugAssign_SubscriptAny (thn (ho pins s σ H _ I h) λ ov s1 ⟨x1,H1,I1,r1,q1⟩=>?_) ha
 refine thn (hi pins s1 σ H1 _ I1 q1) λ iv s2 ⟨x2,H2,I2,r2,q2⟩=>?_
 refine thn (hg pins s2 σ H2 x1 x2 ov iv _ I2 r1 r2 q2) λ old s3 ⟨x3,H3,I3,r3,q3⟩=>?_
 refine thn (he pins s3 σ H3 _ I3 q3) λ v s4 ⟨x4,H4,I4,r4,q4⟩=>?_
 refine thn (hp pins s4 σ H4 x3 x4 old v _ I4 r3 r4 q4) λ new s5 ⟨x5,H5,I5,r5,q5⟩=>?_
 exact thn (hs pins s5 σ H5 x1 x2 x5 ov iv new _ I5 r1 r2 r5 q5) λ _ s6 ⟨H6,I6,q6⟩=>⟨σ,H6,I6,q6⟩
def ipI (f:Int->Int->Int):TIp:=λ x y H Q=>∃ i j,x = .int i/\y = .int j/\Q (.int (f i j)) H
theorem Jyk:PIp X .Add (ipI λ i j=>i+j):=by
 intro pins s σ H x y v u Q I r1 r2 h
 obtain ⟨i,j,e1,e2,q⟩:=h
 subst e1;subst e2
 obtain ⟨t,rfl⟩:=r1
 obtain ⟨t',rfl⟩:=r2
 exact iadd_int ⟨.int _,H,I.tok _,⟨_,rfl⟩,q⟩
theorem Jyl:PIp X .Sub (ipI λ i j=>i-j):=by
 intro pins s σ H x y v u Q I r1 r2 h
 obtain ⟨i,j,e1,e2,q⟩:=h
 subst e1;subst e2
 obtain ⟨t,rfl⟩:=r1
 obtain ⟨t',rfl⟩:=r2
 exact isub_int ⟨.int _,H,I.tok _,⟨_,rfl⟩,q⟩
end
section
variable {X:Cx}{pos:Pos}
def Jr3 (c:TT) (tb:TS):TS:=λ D σ H=>∃ W:Nat->St->Hp->Prop,(∃ m,W m σ H)/\∀ m σ H,W m σ H ->
 c σ H λ b H1=>if b=true then ∃ N:St->Hp->Prop,(∀ σ' H',N σ' H'->∃ m',m'<m/\W m' σ' H')/\tb { D with nx:=N,ct:=N,bk:=D.nx } σ H1 else D.nx σ H1
theorem Jll {c:Expr}{body:List Stmt}{tc:TT}{tb:TS}(hp:PassesOwn (model X.prog X.w) X.A X.env X.xe) (hc:PT X c tc) (hb:PSs X body tb):PS X (.While c body [] pos) (Jr3 tc tb):=by
 intro pins s σ H D I h
 obtain ⟨W,⟨m0,w0⟩,turn⟩:=h
 refine wpAny_While (codeAny_whileLoop (λ n s'=>∃ σ' H',Inv X pins σ' H' s'/\W n σ' H') ?_ m0 ⟨σ,H,I,w0⟩)
 rintro n s1 ⟨σ1,H1,I1,w1⟩
 refine J93 hp (thn (hc pins s1 σ1 H1 _ I1 (turn n σ1 H1 w1)) λ b s2 ⟨H2,I2,q2⟩=>?_)
 cases b with
 | true=>
  obtain ⟨N,hN,q2⟩:=q2
  rw [if_pos rfl]
  refine J93 hp (thn (hb pins s2 σ1 H2 _ I2 q2) λ f s3 q3=>?_)
  cases f with
  | next=>
   obtain ⟨σ3,H3,I3,n3⟩:=q3
   obtain ⟨m',hm,w3⟩:=hN σ3 H3 n3
   exact ⟨m',hm,σ3,H3,I3,w3⟩
  | cont=>
   obtain ⟨σ3,H3,I3,n3⟩:=q3
   obtain ⟨m',hm,w3⟩:=hN σ3 H3 n3
   exact ⟨m',hm,σ3,H3,I3,w3⟩
  | brk=>exact q3
  | ret v=>exact q3
 | false=>
  rw [if_neg Xe]
  exact Yak ⟨σ1,H2,I2,q2⟩
end
structure It where
 go:Nat->Hp->Prop
 yld:Nat->Hp->V->Hp->Prop
 stop:Nat->Hp->Prop
def Jc2 (X:Cx) (pins:List (Addr×Obj)) (H:Hp) (b:Addr):Prop:=
 H b=none/\b≠X.env.locals/\b∉X.fs/\(b∈X.ex\/X.s₀.heap.objs.size<=b)/\(∀ x c,X.env.cells.lookup x=some c->c≠b)/\∀ p∈X.pn++pins,p.1≠b
theorem Inv.fpOk {X:Cx}{pins:List (Addr×Obj)}{σ:St}{H H':Hp}{s:J9i}{b:Addr}(I:Inv X pins σ H s) (hb:s.heap.objs.size<=b) (hn:H' b=none):Jc2 X pins H' b:=by
 refine ⟨hn,J3t (Q1 I.lt hb),I.nofs hb,.inr (Xi I.sz hb),λ x c e z=>?_,λ p hp z=>?_⟩
 . obtain ⟨v,q⟩:=I.cell x c e
   exact absurd (Q1 q.lt (by rw [z];exact hb)) (Xc _)
 . exact absurd (Q1 (Qt (I.pin p hp).1) (by rw [z];exact hb)) (Xc _)
structure Turn (P:J9l) (w:J9k) (K:Qc) (tg:Expr) (J:It) (fp:List Addr) (it:Addr) (tn:Nat->Heap->Prop):Prop where
 mem:it∈fp
 obj:∀ i h,tn i h->∀ b∈fp,∃ o,h.get? b=some o/\∀ v,o.data≠.cell v
 keep:∀ i h h',tn i h->(∀ b∈fp,∀ o,h.get? b=some o->h'.get? b=some o)->tn i h'
 item:∀ (X:Cx),X.prog=P->X.w=w->X.K=K->X.calm=true->∀ (i:Nat) (pins:List (Addr×Obj)) (s:J9i) (σ:St) (H:Hp) (E:J9g->J9i->Prop),Inv X pins σ H s->(∀ b∈fp,Jc2 X pins H b)->tn i s.heap->J.go i H ->
  J9j (model P w) X.A (pyNext (.ref it)) (λ r s1=>∃ u,r=some u /\
   J9j (model P w) X.A (letOwnedTupleGo tg (.ref it) u) (λ _ s2=>∃ x H',Inv X pins σ H' s2/\Yo x u/\J.yld i H x H'/\tn (i+1) s2.heap/\∀ b∈fp,H' b=none) E s1) E s
 done:∀ (X:Cx),X.prog=P->X.w=w->X.K=K->X.calm=true->∀ (i:Nat) (pins:List (Addr×Obj)) (s:J9i) (σ:St) (H:Hp) (E:J9g->J9i->Prop),Inv X pins σ H s->(∀ b∈fp,Jc2 X pins H b)->tn i s.heap->J.stop i H ->
  J9j (model P w) X.A (pyNext (.ref it)) (λ r s1=>r=none/\Inv X pins σ H s1) E s
 self:∀ (A:J9m) (i:Nat) (s:J9i) (Q:J9g->J9i->Prop) (E:J9g->J9i->Prop),tn i s.heap->Q (.ref it) s->J9j (model P w) A (pyIter (.ref it)) Q E s
abbrev TI:=St->Hp->(It->Hp->Prop)->Prop
def PIE (X:Cx) (pins:List (Addr×Obj)) (σ:St) (tg:Expr) (R:It->Hp->Prop) (itv:J9g) (s2:J9i):Prop:=
 ∃ (it:Addr) (fp:List Addr) (tn:Nat->Heap->Prop) (J:It) (H':Hp),itv = .ref it/\Inv X pins σ H' s2/\Turn X.prog X.w X.K tg J fp it tn/\tn 0 s2.heap/\(∀ b∈fp,Jc2 X pins H' b)/\R J H'
def PI (X:Cx) (tg iter:Expr) (wi:TI):Prop:=
 ∀ (pins:List (Addr×Obj)) (s:J9i) (σ:St) (H:Hp) (R:It->Hp->Prop),Inv X pins σ H s->wi σ H R ->
  J9j (model X.prog X.w) X.A (eval iter X.env) (λ v s1=>J9j (model X.prog X.w) X.A (pyIter v) (PIE X pins σ tg R) X.xe s1) X.xe s
theorem Jr4 {M:Model}{A:J9m}{E:J9g->J9i->Prop}{s:J9i}{tg:Expr}{it:Addr}{u:J9g}{o:Obj}{n:String}{vs:Array J9g}{Q:Unit->J9i->Prop}(ho:s.heap.get? it=some o) (hc:o.cls = .type n) (hd:o.data = .fields vs)
 (hn:["enumerate","zip","dict_itemiterator","dict_reverseitemiterator","odict_iterator","itertools.zip_longest","itertools.pairwise"].contains n=false) (hQ:Q () s):J9j M A (letOwnedTupleGo tg (.ref it) u) Q E s:=by
 unfold letOwnedTupleGo
 cases tg<;>first
  | exact wpAny_pure hQ
  | (cases u<;>first
   | exact wpAny_pure hQ
   | (refine wpAny_bind (wpAny_load ho ?_)
      rw [hc,hd]
      show J9j M A (if (["enumerate","zip","dict_itemiterator","dict_reverseitemiterator","odict_iterator","itertools.zip_longest","itertools.pairwise"].contains n&&vs[0]? == some (rawInt _))=true then _ else _) Q E s
      rw [if_neg (by intro h;rw [hn,J3u] at h;cases h)]
      exact wpAny_pure hQ))
noncomputable def Itl (K:Qc) (a:Addr):It:=
 ⟨λ i H=>∃ xs x,SqL K H a xs/\xs[i]? = some x,λ i H x H'=>H'=H/\∀ xs,SqL K H a xs->xs[i]? = some x,λ i H=>∃ xs,SqL K H a xs/\xs.length<=i⟩
noncomputable def Itt (K:Qc) (a:Addr):It:=
 ⟨λ i H=>∃ xs x,SqT K H a xs/\xs[i]? = some x,λ i H x H'=>H'=H/\∀ xs,SqT K H a xs->xs[i]? = some x,λ i H=>∃ xs,SqT K H a xs/\xs.length<=i⟩
noncomputable def Itr (lo:Int) (n:Nat):It:=⟨λ i _=>i<n,λ i H x H'=>H'=H/\x = .int (lo+i),λ i _=>n<=i⟩
theorem Jqg {P:J9l}{w:J9k}{K:Qc}{tg:Expr}(a it:Addr):Turn P w K tg (Itl K a) [it] it (λ i h=>h.IsListIter it a i) where
 mem:=by simp
 obj:=λ i h st b hb=>by
  have e:b=it:=by simpa using hb
  subst e
  obtain ⟨o,e,c,d⟩:=st
  exact ⟨o,e,λ v z=>by rw [d] at z;cases z⟩
 keep:=λ i h h' st k=>st.at λ o e=>k it (by simp) o e
 item:=by
  intro X hP hw hK hc i pins s σ H E I hf st hg
  subst hP hw hK
  obtain ⟨xs,x,hq,hx⟩:=hg
  obtain ⟨its,rv,p,hz⟩:=I.list hq
  obtain ⟨u,hu,ru⟩:=rv.get hx
  obtain ⟨f0,f1,f2,f3,f4,f5⟩:=hf it (by simp)
  refine wpAny_pyNext_list_item st p.isList (x:=u) (by simpa using hu) λ h' st' sb=>?_
  have I1:Inv X pins σ H { s with heap:=h' }:=I.turned (t':=s.toks) (λ b o hb e=>(sb.2 b hb).trans e) f0 f1 f3 f4 f5
  obtain ⟨o,e,c,d⟩:=id st'
  exact ⟨u,rfl,Jr4 (s:={ s with heap:=h' }) e c d (by decide) ⟨x,H,I1,ru,⟨rfl,λ ys hy=>by rw [I.list_inj hy hq];exact hx⟩,st',λ b hb=>(hf b hb).1⟩⟩
 done:=by
  intro X hP hw hK hc i pins s σ H E I hf st hg
  subst hP hw hK
  obtain ⟨xs,hq,hx⟩:=hg
  obtain ⟨its,rv,p,hz⟩:=I.list hq
  obtain ⟨f0,f1,f2,f3,f4,f5⟩:=hf it (by simp)
  have hl:=rv.length
  exact wpAny_pyNext_list_end (I.ok.hd hc) st p.isList (by simp;omega) λ h' eb=>⟨rfl,I.turned (t':=s.toks) (λ b o hb e=>eb b o hb e) f0 f1 f3 f4 f5⟩
 self:=λ _ _ _ _ _ st h=>wpAny_pyIter_listiter st h
theorem Jnk {P:J9l}{w:J9k}{K:Qc}{tg:Expr}(a it:Addr):Turn P w K tg (Itt K a) [it] it (λ i h=>h.IsTupleIter it a i) where
 mem:=by simp
 obj:=λ i h st b hb=>by
  have e:b=it:=by simpa using hb
  subst e
  obtain ⟨o,e,c,d⟩:=st
  exact ⟨o,e,λ v z=>by rw [d] at z;cases z⟩
 keep:=λ i h h' st k=>st.at λ o e=>k it (by simp) o e
 item:=by
  intro X hP hw hK hc i pins s σ H E I hf st hg
  subst hP hw hK
  obtain ⟨xs,x,hq,hx⟩:=hg
  obtain ⟨its,rv,p,hz⟩:=I.tuple hq
  obtain ⟨u,hu,ru⟩:=rv.get hx
  obtain ⟨f0,f1,f2,f3,f4,f5⟩:=hf it (by simp)
  refine wpAny_pyNext_tuple_item st (show s.heap.IsTuple a its.toArray from p) (x:=u) (by simpa using hu) λ h' st' sb=>?_
  have I1:Inv X pins σ H { s with heap:=h' }:=I.turned (t':=s.toks) (λ b o hb e=>(sb.2 b hb).trans e) f0 f1 f3 f4 f5
  obtain ⟨o,e,c,d⟩:=id st'
  exact ⟨u,rfl,Jr4 (s:={ s with heap:=h' }) e c d (by decide) ⟨x,H,I1,ru,⟨rfl,λ ys hy=>by rw [I.tuple_inj hy hq];exact hx⟩,st',λ b hb=>(hf b hb).1⟩⟩
 done:=by
  intro X hP hw hK hc i pins s σ H E I hf st hg
  subst hP hw hK
  obtain ⟨xs,hq,hx⟩:=hg
  obtain ⟨its,rv,p,hz⟩:=I.tuple hq
  obtain ⟨f0,f1,f2,f3,f4,f5⟩:=hf it (by simp)
  have hl:=rv.length
  exact wpAny_pyNext_tuple_end (I.ok.hd hc) st (show s.heap.IsTuple a its.toArray from p) (by simp;omega) λ h' eb=>⟨rfl,I.turned (t':=s.toks) (λ b o hb e=>eb b o hb e) f0 f1 f3 f4 f5⟩
 self:=λ _ _ _ _ _ st h=>wpAny_pyIter_tupleiter st h
theorem Jnl {P:J9l}{w:J9k}{K:Qc}{tg:Expr}(it:Addr) (lo:Int) (n:Nat):Turn P w K tg (Itr lo n) [it] it (λ i h=>IsRangeIter h it (lo+(i:Nat)*1) ((n:Int)-(i:Nat)) 1) where
 mem:=by simp
 obj:=λ i h st b hb=>by
  have e:b=it:=by simpa using hb
  subst e
  exact ⟨_,st,λ v z=>by
   have z':J5s _=J3v v:=z
   cases z'⟩
 keep:=λ i h h' st k=>k it (by simp) _ st
 item:=by
  intro X hP hw hK hc i pins s σ H E I hf st hg
  subst hP hw hK
  obtain ⟨f0,f1,f2,f3,f4,f5⟩:=hf it (by simp)
  have W:=Walks.range (prog:=X.prog) (w:=X.w) (I.ok.hd hc) it lo 1 n
  refine W.item i s _ _ hg st λ v h' tk hv st' kk=>?_
  obtain ⟨t,rfl⟩:=hv
  have I1:Inv X pins σ H { s with heap:=h',toks:=tk }:=I.turned (λ b o hb e=>kk b o (by simpa using hb) e) f0 f1 f3 f4 f5
  refine ⟨_,rfl,Jr4 (s:={ s with heap:=h',toks:=tk }) (n:="range_iterator") st' rfl rfl (by decide) ⟨.int (lo+i),H,I1,⟨t,?_⟩,⟨rfl,rfl⟩,st',λ b hb=>(hf b hb).1⟩⟩
  rw [J5t]
 done:=by
  intro X hP hw hK hc i pins s σ H E I hf st hg
  subst hP hw hK
  obtain ⟨f0,f1,f2,f3,f4,f5⟩:=hf it (by simp)
  exact wpAny_pyNext_range_end (I.ok.hd hc) st (by have:n<=i:=hg;omega) λ h' eb=>⟨rfl,I.turned (t':=s.toks) (λ b o hb e=>eb b o hb e) f0 f1 f3 f4 f5⟩
 self:=λ _ _ _ _ _ st h=>wpAny_pyIter_rangeiter st h
section
variable {X:Cx}{tg:Expr}
def Jo3 (K:Qc) (tl:TE):TI:=λ σ H R=>tl σ H λ x H1=>∃ a,x = .ref a/\(∃ xs,SqL K H1 a xs)/\R (Itl K a) H1
def J0l (K:Qc) (tl:TE):TI:=λ σ H R=>tl σ H λ x H1=>∃ a,x = .ref a/\(∃ xs,SqT K H1 a xs)/\R (Itt K a) H1
theorem Zm {l:Expr}{tl:TE}(hl:PE X l tl):PI X tg l (Jo3 X.K tl):=by
 intro pins s σ H R I h
 refine thn (hl pins s σ H _ I h) λ v s1 ⟨x,H1,I1,r1,q1⟩=>?_
 obtain ⟨a,e,⟨xs,hq⟩,q⟩:=q1
 subst e
 cases r1
 obtain ⟨its,rv,p,hz⟩:=I1.list hq
 refine wpAny_pyIter_list p.isList ?_
 refine ⟨s1.heap.objs.size,[s1.heap.objs.size],_,_,H1,rfl,I1.kept (t':=s1.toks) λ b o e=>Qu _ e,Jqg a _,⟨_,Q9 _ rfl,rfl,rfl⟩,λ b hb=>?_,q⟩
 have e:b=s1.heap.objs.size:=by simpa using hb
 subst e
 exact I1.fpOk (Qm _) (I1.hok.fresh (Qm _))
theorem Jnm {l:Expr}{tl:TE}(hl:PE X l tl):PI X tg l (J0l X.K tl):=by
 intro pins s σ H R I h
 refine thn (hl pins s σ H _ I h) λ v s1 ⟨x,H1,I1,r1,q1⟩=>?_
 obtain ⟨a,e,⟨xs,hq⟩,q⟩:=q1
 subst e
 cases r1
 obtain ⟨its,rv,p,hz⟩:=I1.tuple hq
 refine wpAny_pyIter_tuple (show s1.heap.IsTuple a its.toArray from p) ?_
 refine ⟨s1.heap.objs.size,[s1.heap.objs.size],_,_,H1,rfl,I1.kept (t':=s1.toks) λ b o e=>Qu _ e,Jnk a _,⟨_,Q9 _ rfl,rfl,rfl⟩,λ b hb=>?_,q⟩
 have e:b=s1.heap.objs.size:=by simpa using hb
 subst e
 exact I1.fpOk (Qm _) (I1.hok.fresh (Qm _))
theorem Jr5 {pins:List (Addr×Obj)}{σ:St}{H:Hp}{s:J9i}{R:It->Hp->Prop}{E:J9g->J9i->Prop}{lo hi:Int}{t u v:Tok}{tk:Nat}(I:Inv X pins σ H s) (h1:-(2^62)<=lo) (h2:lo<2^62) (h3:-(2^62)<=hi) (h4:hi<2^62)
 (q:R (Itr lo (hi-lo).toNat) H):J9j (model X.prog X.w) X.A (pyIter (.ref s.heap.objs.size)) (PIE X pins σ tg R) E { s with heap:=s.heap.push { cls:=.type "range",data:=.fields #[.int lo t,.int hi u,.int 1 v] },toks:=tk }:=by
 refine wpAny_pyIter_range (J5u ..) (small_one h1 h2 h3 h4) ?_
 have I1:Inv X pins σ H { s with heap:=s.heap.push { cls:=.type "range",data:=.fields #[.int lo t,.int hi u,.int 1 v] },toks:=tk }:=I.kept λ b o e=>Qu _ e
 refine ⟨(s.heap.push { cls:=.type "range",data:=.fields #[.int lo t,.int hi u,.int 1 v] }).objs.size,[(s.heap.push { cls:=.type "range",data:=.fields #[.int lo t,.int hi u,.int 1 v] }).objs.size],_,_,H,rfl,
  I1.kept (t':=tk) λ b o e=>Qu _ e,Jnl _ lo (hi-lo).toNat,?_,λ b hb=>?_,q⟩
 . have e1:lo+((0:Nat):Int)*1=lo:=by simp
   have e2:(((hi-lo).toNat:Nat):Int)-((0:Nat):Int)=J85 lo hi 1:=by rw [Yao];split<;>omega
   show IsRangeIter _ _ (lo+((0:Nat):Int)*1) ((((hi-lo).toNat:Nat):Int)-((0:Nat):Int)) 1
   rw [e1,e2]
   exact Q9 _ rfl
 . have e:b=(s.heap.push { cls:=.type "range",data:=.fields #[.int lo t,.int hi u,.int 1 v] }).objs.size:=by simpa using hb
   subst e
   exact I1.fpOk (Qm _) (I1.hok.fresh (Qm _))
def Jxa (ta:TA):TI:=λ σ H R=>ta σ H λ vs H1=>∃ j:Int,vs=[.int j]/\-(2^62)<=j/\j<2^62/\R (Itr 0 j.toNat) H1
theorem Yg {a:Expr}{ta:TA}{p pos:Pos}(hg:Gl X "range") (hm:X.mg "range" = none) (ha:PA X [a] ta) (hs:starEach [a] X.env=[(false,eval a X.env)]:=by rfl):PI X tg (.Call (.Name "range" p) [a] [] pos) (Jxa ta):=by
 intro pins s σ H R I h
 refine Call_ (Bs I hg hm boot_range (Uz (thn (ha pos pins s σ H _ I h) λ us s1 ⟨vs,H1,I1,r1,q1⟩=>?_) hs rfl))
 obtain ⟨j,e,q1,q2,q⟩:=q1
 subst e
 cases r1 with
 | cons r rr=>
  cases rr
  obtain ⟨t,rfl⟩:=r
  exact call_range_1 (Jr5 I1 (by omega) (by omega) q1 q2 (by simpa using q))
def J0m (wi:TI) (g:TG) (tb:TS):TS:=λ D σ H=>wi σ H λ J H1=>∃ W:Nat->Nat->St->Hp->Prop,(∃ m,W 0 m σ H1)/\∀ i m σ H,W i m σ H ->
 (J.stop i H/\D.nx σ H)\/(J.go i H/\∃ N:St->Hp->Prop,(∀ σ' H',N σ' H'->∃ m',m'<m/\W (i+1) m' σ' H')/\∀ x H',J.yld i H x H'->g x σ H' λ σ2 H2=>tb { D with nx:=N,ct:=N,bk:=D.nx } σ2 H2)
noncomputable def Jes (fp:List Addr) (h:Heap):List (Addr×Obj):=fp.filterMap λ b=>(h.get? b).map λ o=>(b,o)
theorem V1 {fp:List Addr}{h:Heap}{b:Addr}{o:Obj}(hb:b∈fp) (e:h.get? b=some o):(b,o)∈Jes fp h:=J5v.mpr ⟨b,hb,by rw [e];rfl⟩
theorem Jqh {fp:List Addr}{h:Heap}{p:Addr×Obj}(hp:p∈Jes fp h):p.1∈fp/\h.get? p.1=some p.2:=by
 obtain ⟨b,hb,e⟩:=J5v.mp hp
 cases q:h.get? b with
 | none=>rw [q] at e;cases e
 | some o=>
  rw [q] at e
  have e':(b,o)=p:=Xj e
  subst e'
  exact ⟨hb,q⟩
theorem Inv.pinned {pins:List (Addr×Obj)}{σ:St}{H:Hp}{s:J9i}{fp:List Addr}(I:Inv X pins σ H s) (hf:∀ b∈fp,Jc2 X pins H b) (ho:∀ b∈fp,∃ o,s.heap.get? b=some o/\∀ v,o.data≠.cell v):Inv X (pins++Jes fp s.heap) σ H s:=
 I.pins_of λ p hp=>(Q8.mp hp).elim (λ z=>I.pin p (Xf _ z)) λ z=>by
  obtain ⟨hb,e⟩:=Jqh z
  obtain ⟨f0,f1,f2,_⟩:=hf p.1 hb
  obtain ⟨o,e',d⟩:=ho p.1 hb
  rw [e] at e';cases e'
  exact ⟨e,f0,f1,f2,d⟩
theorem Inv.unpinned {pins pl:List (Addr×Obj)}{σ:St}{H:Hp}{s:J9i}(I:Inv X (pins++pl) σ H s):Inv X pins σ H s:=I.pins_of λ p hp=>I.pin p (Xf _ (Xn _ hp))
theorem Zy {iter:Expr}{body:List Stmt}{wi:TI}{g:TG}{tb:TS}{pos:Pos}(hp:PassesOwn (model X.prog X.w) X.A X.env X.xe) (hc:X.calm=true) (hi:PI X tg iter wi) (hg:PG X tg g) (hb:PSs X body tb)
 (hs:∀ x,Yah iter X.env x=pure x:=by intro _;rfl):PS X (.For tg iter body [] pos) (J0m wi g tb):=by
 intro pins s σ H D I h
 refine wpAny_For (thn (hi pins s σ H _ I h) λ v s1 h1=>thn h1 λ itv s2 h2=>?_) hs
 obtain ⟨it,fp,tn,J,H2,e,I2,T,st2,f2,W,⟨m0,w0⟩,turn⟩:=h2
 subst e
 -- what stays true of the iterator's objects through the loop
 have stat:∀ {H':Hp},(∀ b∈fp,H' b=none)->∀ b∈fp,Jc2 X pins H' b:=λ hn b hb=>⟨hn b hb,(f2 b hb).2⟩
 refine codeAny_forLoop_any (λ n s'=>∃ i σ' H',Inv X pins σ' H' s'/\tn i s'.heap/\(∀ b∈fp,H' b=none)/\W i n σ' H') ?_ m0 ⟨0,σ,H2,I2,st2,λ b hb=>(f2 b hb).1,w0⟩
 rintro n s3 ⟨i,σ3,H3,I3,st3,fr3,w3⟩
 rcases turn i n σ3 H3 w3 with ⟨stop,qn⟩ | ⟨go,N,hN,step⟩
 . refine J93 hp (thn (T.done X rfl rfl rfl hc i pins s3 σ3 H3 X.xe I3 (stat fr3) st3 stop) λ r s4 ⟨hr,I4⟩=>?_)
   subst hr
   exact Yak ⟨σ3,H3,I4,qn⟩
 . refine J93 hp (thn (T.item X rfl rfl rfl hc i pins s3 σ3 H3 X.xe I3 (stat fr3) st3 go) λ r s4 ⟨u,hr,h4⟩=>?_)
   subst hr
   refine J93 hp (thn h4 λ _ s5 ⟨x,H5,I5,r5,y5,st5,fr5⟩=>?_)
   have I5':=I5.pinned (stat fr5) (T.obj _ _ st5)
   refine J93 hp (thn (hg _ s5 σ3 H5 x u _ I5' r5 (step x H5 y5)) λ _ s6 ⟨σ6,H6,I6,q6⟩=>?_)
   refine J93 hp (thn (hb _ s6 σ6 H6 _ I6 q6) λ f s7 q7=>?_)
   have again:∀ {σ7:St} {H7:Hp},Inv X (pins++Jes fp s5.heap) σ7 H7 s7->N σ7 H7->∃ m,m<n/\∃ i σ' H',Inv X pins σ' H' s7/\tn i s7.heap/\(∀ b∈fp,H' b=none)/\W i m σ' H':=λ {σ7 H7} I7 n7=>by
    obtain ⟨m',hm,w7⟩:=hN σ7 H7 n7
    refine ⟨m',hm,i+1,σ7,H7,I7.unpinned,T.keep _ _ _ st5 λ b hb o e=>(I7.pin (b,o) (Xf _ (Xf _ (V1 hb e)))).1,λ b hb=>?_,w7⟩
    obtain ⟨o,e,d⟩:=T.obj _ _ st5 b hb
    exact (I7.pin (b,o) (Xf _ (Xf _ (V1 hb e)))).2.1
   cases f with
   | next=>obtain ⟨σ7,H7,I7,n7⟩:=q7;exact again I7 n7
   | cont=>obtain ⟨σ7,H7,I7,n7⟩:=q7;exact again I7 n7
   | brk=>obtain ⟨σ7,H7,I7,q7⟩:=q7;exact ⟨σ7,H7,I7.unpinned,q7⟩
   | ret v=>obtain ⟨x7,σ7,H7,I7,r7,q7⟩:=q7;exact ⟨x7,σ7,H7,I7.unpinned,r7,q7⟩
end
abbrev R2:=V->V->Hp->VK->Prop
def OpR (X:Cx) (f:J9g->J9g->Sem J9g) (r:R2):Prop:=
 ∀ (pins:List (Addr×Obj)) (s:J9i) (σ:St) (H:Hp) (x y:V) (v u:J9g) (Q:VK),Inv X pins σ H s->Yo x v->Yo y u->r x y H Q ->
  J9j (model X.prog X.w) X.A (f v u) (EP X pins σ Q) X.xe s
def UnR (X:Cx) (f:J9g->Sem J9g) (r:V->Hp->VK->Prop):Prop:=
 ∀ (pins:List (Addr×Obj)) (s:J9i) (σ:St) (H:Hp) (x:V) (v:J9g) (Q:VK),Inv X pins σ H s->Yo x v->r x H Q ->
  J9j (model X.prog X.w) X.A (f v) (EP X pins σ Q) X.xe s
def Vt (X:Cx) (f:J9g) (r:List V->Hp->VK->Prop):Prop:=
 ∀ (pins:List (Addr×Obj)) (s:J9i) (σ:St) (H:Hp) (xs:List V) (us:List J9g) (Q:VK),Inv X pins σ H s->J9 xs us->r xs H Q ->
  J9j (model X.prog X.w) X.A (call f us) (EP X pins σ Q) X.xe s
def J18 (X:Cx) (r:V->Hp->(Bool->Hp->Prop)->Prop):Prop:=
 ∀ (pins:List (Addr×Obj)) (s:J9i) (σ:St) (H:Hp) (x:V) (v:J9g) (Q:Bool->Hp->Prop),Inv X pins σ H s->Yo x v->r x H Q ->
  J9j (model X.prog X.w) X.A (truthy v) (TP X pins σ Q) X.xe s
def tOp (r:R2) (ta tb:TE):TE:=λ σ H Q=>ta σ H λ x H1=>tb σ H1 λ y H2=>r x y H2 Q
def tUn (r:V->Hp->VK->Prop) (ta:TE):TE:=λ σ H Q=>ta σ H λ x H1=>r x H1 Q
def rI (C:Int->Int->Prop) (g:Int->Int->V):R2:=λ x y H Q=>∃ i j,x = .int i/\y = .int j/\C i j/\Q (g i j) H
def rI0 (g:Int->Int->V):R2:=λ x y H Q=>∃ i j,x = .int i/\y = .int j/\Q (g i j) H
def rU (g:Int->V):V->Hp->VK->Prop:=λ x H Q=>∃ i,x = .int i/\Q (g i) H
section
variable {X:Cx}{a b c:Expr}{ta tb tc:TE}{pos:Pos}
theorem Jym (ha:PE X a ta) (hb:PE X b tb) {pins:List (Addr×Obj)}{s:J9i}{σ:St}{H:Hp}{R:V->V->Hp->Prop}(I:Inv X pins σ H s)
 (h:ta σ H λ x H1=>tb σ H1 λ y H2=>R x y H2) {Q:J9g->J9i->Prop} {f:J9g->J9g->Sem J9g}
 (hf:∀ v u s2 x y H2,Inv X pins σ H2 s2->Yo x v->Yo y u->R x y H2->J9j (model X.prog X.w) X.A (f v u) Q X.xe s2) :
 J9j (model X.prog X.w) X.A (eval a X.env) (λ v s₁=>J9j (model X.prog X.w) X.A (eval b X.env) (λ u s₂=>J9j (model X.prog X.w) X.A (f v u) Q X.xe s₂) X.xe s₁) X.xe s:=by
 refine thn (ha pins s σ H _ I h) λ v s1 ⟨x,H1,I1,r1,q1⟩=>?_
 refine thn (hb pins s1 σ H1 _ I1 q1) λ u s2 ⟨y,H2,I2,r2,q2⟩=>?_
 exact hf v u s2 x y H2 I2 r1 r2 q2
theorem Jv {op:J99}{r:R2}(ho:OpR X (binaryOp op) r) (ha:PE X a ta) (hb:PE X b tb):PE X (.BinOp a op b pos) (tOp r ta tb):=by
 intro pins s σ H Q I h
 exact wpAny_BinOp (Jym ha hb I h λ v u s2 x y H2 I2 rx ry q=>ho pins s2 σ H2 x y v u Q I2 rx ry q)
theorem Be {op:UnaryOp}{r:V->Hp->VK->Prop}(ho:UnR X (unaryOp op) r) (ha:PE X a ta):PE X (.UnaryOp op a pos) (tUn r ta):=by
 intro pins s σ H Q I h
 exact UnaryOp_ (thn (ha pins s σ H _ I h) λ v s1 ⟨x,H1,I1,r1,q1⟩=>ho pins s1 σ H1 x v Q I1 r1 q1)
theorem opI {f:J9g->J9g->Sem J9g}{C:Int->Int->Prop}{g:Int->Int->Int}
 (rule:∀ (i j:Int) (t u:Tok) (s:J9i) (Q:J9g->J9i->Prop) (E:J9g->J9i->Prop),C i j->Q (.int (g i j) s.toks) { s with toks:=s.toks+1 }->J9j (model X.prog X.w) X.A (f (.int i t) (.int j u)) Q E s) :
 OpR X f (rI C λ i j=>.int (g i j)):=by
 intro pins s σ H x y v u Q I rx ry h
 obtain ⟨i,j,rfl,rfl,hc,q⟩:=h
 obtain ⟨t,rfl⟩:=rx
 obtain ⟨t',rfl⟩:=ry
 exact rule i j t t' s _ _ hc ⟨.int (g i j),H,I.tok _,⟨_,rfl⟩,q⟩
theorem J0n {f:J9g->J9g->Sem J9g}{g:Int->Int->Int}
 (rule:∀ (i j:Int) (t u:Tok) (s:J9i) (Q:J9g->J9i->Prop) (E:J9g->J9i->Prop),Q (.int (g i j) s.toks) { s with toks:=s.toks+1 }->J9j (model X.prog X.w) X.A (f (.int i t) (.int j u)) Q E s) :
 OpR X f (rI0 λ i j=>.int (g i j)):=by
 intro pins s σ H x y v u Q I rx ry h
 obtain ⟨i,j,rfl,rfl,q⟩:=h
 obtain ⟨t,rfl⟩:=rx
 obtain ⟨t',rfl⟩:=ry
 exact rule i j t t' s _ _ ⟨.int (g i j),H,I.tok _,⟨_,rfl⟩,q⟩
theorem Ju7 {f:J9g->J9g->Sem J9g}{g:Int->Int->Bool}
 (rule:∀ (i j:Int) (t u:Tok) (s:J9i) (Q:J9g->J9i->Prop) (E:J9g->J9i->Prop),Q (.bool (g i j)) s->J9j (model X.prog X.w) X.A (f (.int i t) (.int j u)) Q E s) :
 OpR X f (rI0 λ i j=>.bl (g i j)):=by
 intro pins s σ H x y v u Q I rx ry h
 obtain ⟨i,j,rfl,rfl,q⟩:=h
 obtain ⟨t,rfl⟩:=rx
 obtain ⟨t',rfl⟩:=ry
 exact rule i j t t' s _ _ ⟨.bl (g i j),H,I,rfl,q⟩
def J19 (i j:Int):Prop:=0<=j/\j<=1000000/\i.natAbs<2^64
def Jyn (i j:Int):Prop:=(-(2^64)<i/\i<2^64)\/(-(2^64)<j/\j<2^64)
theorem Jyn.ok {i j:Int}(h:Jyn i j):IntMulOk i j:=by
 rcases h with ⟨h1,h2⟩ | ⟨h1,h2⟩
 . exact .of_left (intBits_le_64 h1 h2)
 . exact .of_right (intBits_le_64 h1 h2)
theorem Wa:OpR X (binaryOp .Add) (rI0 λ i j=>.int (i+j)):=J0n λ _ _ _ _ _ _ _ q=>add_int q
theorem Bt:OpR X (binaryOp .Sub) (rI0 λ i j=>.int (i-j)):=J0n λ _ _ _ _ _ _ _ q=>sub_int q
theorem Jc3:OpR X (binaryOp .Mult) (rI Jyn λ i j=>.int (i*j)):=opI λ _ _ _ _ _ _ _ hc q=>mul_int q hc.ok
theorem Bu:OpR X (binaryOp .Mod) (rI (λ _ j=>0<j) λ i j=>.int (i%j)):=opI λ i j _ _ _ _ _ hc q=>by
 have h1:(0:Int)<j:=hc
 exact mod_int' (by omega) (by rw [Int.fmod_eq_emod_of_nonneg i (by omega)];exact q)
theorem Jyo:OpR X (binaryOp .Pow) (rI J19 λ i j=>.int (i^j.toNat)):=opI λ _ _ _ _ _ _ _ hc q=>pow_int_small hc.1 hc.2.1 hc.2.2 q
theorem unI {f:J9g->Sem J9g}{g:Int->Int}
 (rule:∀ (i:Int) (t:Tok) (s:J9i) (Q:J9g->J9i->Prop) (E:J9g->J9i->Prop),Q (.int (g i) s.toks) { s with toks:=s.toks+1 }->J9j (model X.prog X.w) X.A (f (.int i t)) Q E s) :
 UnR X f (rU λ i=>.int (g i)):=by
 intro pins s σ H x v Q I rx h
 obtain ⟨i,rfl,q⟩:=h
 obtain ⟨t,rfl⟩:=rx
 exact rule i t s _ _ ⟨.int (g i),H,I.tok _,⟨_,rfl⟩,q⟩
theorem Wl:UnR X (unaryOp .USub) (rU λ i=>.int (-i)):=unI λ _ _ _ _ _ q=>neg_int q
end
noncomputable def Jyp:V->V->Bool
 | .non,.non=>true | .non,.int _=>true | .int _,.non=>true | .non,.bl _=>true | .bl _,.non=>true | .non,.str _=>true | .str _,.non=>true
 | .int _,.int _=>true | .bl _,.bl _=>true | .str _,.str _=>true | .byt _,.byt _=>true
 | .int _,.str _=>true | .str _,.int _=>true | .bl _,.str _=>true | .str _,.bl _=>true
 | _,_=>false
def rEq:R2:=λ x y H Q=>Jyp x y=true/\Q (.bl (decide (x=y))) H
theorem Ju8 {i j:Int}:decide (V.int i=V.int j)=(i==j):=by
 rw [Ug]
 simp
theorem Jyq {i j:Bool}:decide (V.bl i=V.bl j)=(i==j):=by
 rw [Ug]
 simp
theorem Ju9 {i j:Str}:decide (V.str i=V.str j)=(i==j):=by
 rw [Ug]
 simp
theorem Jva {i j:Array UInt8}:decide (V.byt i=V.byt j)=(i.toList==j.toList):=by
 rw [Ug]
 cases i
 cases j
 simp
section
variable {X:Cx}{a b c:Expr}{ta tb tc:TE}{pos:Pos}
theorem Wm {pins:List (Addr×Obj)}{σ:St}{H:Hp}{s:J9i}{Q:VK}{k k':Bool}(I:Inv X pins σ H s) (q:Q (.bl k) H) (e:k=k'):EP X pins σ Q (.bool k') s:=by
 subst e
 exact ⟨.bl k,H,I,rfl,q⟩
theorem Jab:OpR X (compareOp .Eq) rEq:=by
 intro pins s σ H x y v u Q I rx ry h
 obtain ⟨hs,q⟩:=h
 cases x with
 | non=>
  cases rx
  cases y with
  | non=>cases ry;exact PySem.EqNone.eq_none_none (Wm I q (by simp))
  | bl j=>cases ry;exact PySem.EqNone.eq_none_bool (Wm I q (by simp))
  | int j=>obtain ⟨t',rfl⟩:=ry;exact PySem.EqNone.eq_none_int (Wm I q (by simp))
  | str j=>obtain ⟨t',rfl⟩:=ry;exact PySem.EqNone.eq_none_str (Wm I q (by simp))
  | _=>exact absurd (show false=true from hs) Xe
 | bl i=>
  cases rx
  cases y with
  | non=>cases ry;exact PySem.EqNone.eq_bool_none (Wm I q (by simp))
  | bl j=>cases ry;exact eq_bool (Wm I q Jyq)
  | str j=>obtain ⟨t',rfl⟩:=ry;exact J86 (Wm I q (by simp))
  | _=>exact absurd (show false=true from hs) Xe
 | int i=>
  obtain ⟨t,rfl⟩:=rx
  cases y with
  | non=>cases ry;exact PySem.EqNone.eq_int_none (Wm I q (by simp))
  | int j=>obtain ⟨t',rfl⟩:=ry;exact eq_int (Wm I q Ju8)
  | str j=>obtain ⟨t',rfl⟩:=ry;exact J87 (Wm I q (by simp))
  | _=>exact absurd (show false=true from hs) Xe
 | str i=>
  obtain ⟨t,rfl⟩:=rx
  cases y with
  | non=>cases ry;exact PySem.EqNone.eq_str_none (Wm I q (by simp))
  | bl j=>cases ry;exact J88 (Wm I q (by simp))
  | int j=>obtain ⟨t',rfl⟩:=ry;exact J89 (Wm I q (by simp))
  | str j=>obtain ⟨t',rfl⟩:=ry;exact eq_str (Wm I q Ju9)
  | _=>exact absurd (show false=true from hs) Xe
 | byt i=>
  obtain ⟨t,rfl⟩:=rx
  cases y with
  | byt j=>obtain ⟨t',rfl⟩:=ry;exact PySem.W.eq_bytes (Wm I q Jva)
  | _=>exact absurd (show false=true from hs) Xe
 | _=>cases y<;>exact absurd (show false=true from hs) Xe
theorem Jlm:OpR X (compareOp .Lt) (rI0 λ i j=>.bl (decide (i<j))):=Ju7 λ _ _ _ _ _ _ _ q=>lt_int q
theorem Jxb:OpR X (compareOp .LtE) (rI0 λ i j=>.bl (decide (i<=j))):=Ju7 λ _ _ _ _ _ _ _ q=>le_int q
theorem Jfg:OpR X (compareOp .Gt) (rI0 λ i j=>.bl (decide (j<i))):=Ju7 λ _ _ _ _ _ _ _ q=>gt_int q
theorem Jo4:OpR X (compareOp .GtE) (rI0 λ i j=>.bl (decide (j<=i))):=Ju7 λ _ _ _ _ _ _ _ q=>ge_int q
theorem Jjw:OpR X (compareOp .Is) (λ x y H Q=>y = .non/\Q (.bl (decide (x = .non))) H):=by
 intro pins s σ H x y v u Q I rx ry h
 obtain ⟨rfl,q⟩:=h
 cases ry
 refine is_none_gen (Wm I q ?_)
 cases x<;>first
  | (cases rx;rfl)
  | (obtain ⟨t,rfl⟩:=rx;rfl)
theorem Jo5:OpR X (compareOp .IsNot) (λ x y H Q=>y = .non/\Q (.bl (!decide (x = .non))) H):=by
 intro pins s σ H x y v u Q I rx ry h
 obtain ⟨rfl,q⟩:=h
 cases ry
 refine isnot_none_gen (Wm I q ?_)
 cases x<;>first
  | (cases rx;rfl)
  | (obtain ⟨t,rfl⟩:=rx;rfl)
theorem J6 (b:Expr) {op:CmpOp}(h:op≠.In:=by decide) (h2:op≠.NotIn:=by decide):Yal op b=false:=by
 have e1:(op==CmpOp.In)=false:=by cases op<;>first | rfl | exact absurd rfl h
 have e2:(op==CmpOp.NotIn)=false:=by cases op<;>first | rfl | exact absurd rfl h2
 cases b<;>simp [Yal,e1,e2]
theorem Wd {op:CmpOp}{r:R2}(ho:OpR X (compareOp op) r) (ha:PE X a ta) (hb:PE X b tb) (hm:Yal op b=false):PE X (.Compare a [op] [b] pos) (tOp r ta tb):=by
 intro pins s σ H Q I h
 exact wpAny_Compare1 (Jym ha hb I h λ v u s2 x y H2 I2 rx ry q=>ho pins s2 σ H2 x y v u Q I2 rx ry q) hm
def Jxc (t:TE):TT:=λ σ H Q=>t σ H λ x H'=>∃ k,x = .bl k/\Q k H'
theorem Yb {op:CmpOp}{r:R2}(ho:OpR X (compareOp op) r) (ha:PE X a ta) (hb:PE X b tb) (hm:Yal op b=false):PT X (.Compare a [op] [b] pos) (Jxc (tOp r ta tb)):=by
 intro pins s σ H Q I h
 refine wpAny_isTrue_Compare1 (thn (ha pins s σ H _ I h) λ v s1 ⟨x,H1,I1,r1,q1⟩=>thn (hb pins s1 σ H1 _ I1 q1) λ u s2 ⟨y,H2,I2,r2,q2⟩=>
  thn (ho pins s2 σ H2 x y v u _ I2 r1 r2 q2) λ c s3 ⟨z,H3,I3,r3,k,e,q3⟩=>?_) hm
 subst e
 cases r3
 exact wpAny_truthy_bool ⟨H3,I3,q3⟩
def Jr6 (r r':R2) (ta tb tc:TE):TE:=λ σ H Q=>ta σ H λ x H1=>tb σ H1 λ y H2=>r x y H2 λ z H3=>∃ k,z = .bl k /\
 (if k=true then tc σ H3 λ w' H4=>r' y w' H4 Q else Q (.bl false) H3)
theorem Jr7 {op op':CmpOp}{r r':R2}(ho:OpR X (compareOp op) r) (ho':OpR X (compareOp op') r') (ha:PE X a ta) (hb:PE X b tb) (hc:PE X c tc)
 (hm:lastMarks [op,op'] [b,c]=false:=by with_unfolding_all rfl):PE X (.Compare a [op,op'] [b,c] pos) (Jr6 r r' ta tb tc):=by
 intro pins s σ H Q I h
 refine Compare_chain (thn (ha pins s σ H _ I h) λ v s1 ⟨x,H1,I1,r1,q1⟩=>chain_link (thn (hb pins s1 σ H1 _ I1 q1) λ u s2 ⟨y,H2,I2,r2,q2⟩=>
  thn (ho pins s2 σ H2 x y v u _ I2 r1 r2 q2) λ d s3 ⟨z,H3,I3,r3,k,e,q3⟩=>?_)) hm
 subst e
 cases r3
 refine wpAny_truthy_bool ?_
 cases k with
 | false=>exact ite_ff ⟨.bl false,H3,I3,rfl,q3⟩
 | true=>exact ite_tt (chain_last (thn (hc pins s3 σ H3 _ I3 q3) λ w' s4 ⟨z',H4,I4,r4,q4⟩=>ho' pins s4 σ H4 y z' u w' Q I4 r2 r4 q4))
def Jyr (K:Qc) (x:V) (H:Hp) (k:Bool):Prop:=
 match x with
 | .non=>k=false
 | .bl b=>k=b
 | .int i=>k=(i != 0)
 | .str y=>y.length<=sizeLine/\k=((y.length:Int) != 0)
 | .byt y=>y.size<=sizeLine/\k=((y.size:Int) != 0)
 | .ref p=>(∃ xs,SqL K H p xs/\k = !xs.isEmpty)\/(∃ xs,SqT K H p xs/\k = !xs.isEmpty)\/∃ kvs,H p=some (.dK kvs)/\k = !kvs.isEmpty
 | _=>False
theorem Jnn {κ:Type}{kvs:List (κ×V)}{vs:List (κ×J9g)}(r:KV kvs vs):(!vs.isEmpty) = !kvs.isEmpty:=by
 cases r<;>rfl
theorem Jgk {xs:List V}{its:List J9g}(r:J9 xs its):(!its.toArray.isEmpty) = !xs.isEmpty:=by
 cases r<;>simp
theorem Jet:(sizeLine:Nat)<2^63:=by rw [J9n];decide
theorem Jys:J18 X (λ x H Q=>∃ k,Jyr X.K x H k/\Q k H):=by
 intro pins s σ H x v Q I rx h
 obtain ⟨k,e,q⟩:=h
 have hl:=Jet
 have hs:sizeLine=16777216:=J9n
 cases x with
 | non=>
  cases rx
  have e':k=false:=e
  subst e'
  exact truthy_none ⟨H,I,q⟩
 | bl b=>
  cases rx
  have e':k=b:=e
  subst e'
  exact wpAny_truthy_bool ⟨H,I,q⟩
 | int i=>
  obtain ⟨t,rfl⟩:=rx
  have e':k=(i != 0):=e
  subst e'
  exact J5w ⟨H,I,q⟩
 | str y=>
  obtain ⟨t,rfl⟩:=rx
  obtain ⟨hy,e'⟩:y.length<=sizeLine/\k=((y.length:Int) != 0):=e
  subst e'
  exact PySem.P.truthy_str (by omega) ⟨H,I.tok _,q⟩
 | byt y=>
  obtain ⟨t,rfl⟩:=rx
  obtain ⟨hy,e'⟩:y.size<=sizeLine/\k=((y.size:Int) != 0):=e
  subst e'
  exact PySem.W.truthy_bytes (by omega) ⟨H,I.tok _,q⟩
 | ref p=>
  cases rx
  have e':(∃ xs,SqL X.K H p xs/\k = !xs.isEmpty)\/(∃ xs,SqT X.K H p xs/\k = !xs.isEmpty)\/∃ kvs,H p=some (.dK kvs)/\k = !kvs.isEmpty:=e
  rcases e' with ⟨xs,hx,e'⟩ | ⟨xs,hx,e'⟩ | ⟨kvs,hx,e'⟩
  . subst e'
    obtain ⟨its,r,pl,hz⟩:=I.list hx
    have hlen:=r.length
    exact wpAny_truthy_list pl.isList (by simp only [Xa];omega) ⟨H,I.tok _,by rw [Jgk r];exact q⟩
  . subst e'
    obtain ⟨its,r,pl,hz⟩:=I.tuple hx
    have hlen:=r.length
    exact truthy_tuple pl (by simp only [Xa];omega) ⟨H,I.tok _,by rw [Jgk r];exact q⟩
  . subst e'
    obtain ⟨hz,hS,vs,r,m⟩:kvs.length<=sizeLine/\(p==J9w)=false/\∃ vs,KV kvs vs/\s.heap.DictOf (Zw X.prog X.w) p vs:=I.hok p _ hx
    have hlen:kvs.length=vs.length:=J5m r
    exact wpAny_truthy_dict hS m (by omega) ⟨H,I.tok _,by rw [Jnn r];exact q⟩
 | _=>exact (show False from e).elim
theorem Jr8 (ha:PE X a ta) (he:∀ whole,isTrue a X.env whole=(do let v <- whole;J9y a.pos;holding [v] (truthy v))) :
 PT X a (λ σ H Q=>ta σ H λ x H'=>∃ k,Jyr X.K x H' k/\Q k H'):=by
 intro pins s σ H Q I h
 exact isTrue_plain (thn (ha pins s σ H _ I h) λ v s1 ⟨x,H1,I1,r1,q1⟩=>Jys pins s1 σ H1 x v Q I1 r1 q1) (he _)
theorem Jac {x:V}{us:List J9g}(r:J9 [x] us):∃ u,us=[u]/\Yo x u:=by
 cases r with
 | cons r1 r2=>cases r2;exact ⟨_,rfl,r1⟩
theorem Jo6 {x y:V}{us:List J9g}(r:J9 [x,y] us):∃ u w',us=[u,w']/\Yo x u/\Yo y w':=by
 cases r with
 | cons r1 r2=>
  cases r2 with
  | cons r3 r4=>cases r4;exact ⟨_,_,rfl,r1,r3⟩
theorem Jr9:Vt X (.builtin "abs") (λ xs H Q=>∃ i,xs=[.int i]/\Q (.int (if i<0 then -i else i)) H):=by
 intro pins s σ H xs us Q I r h
 obtain ⟨i,rfl,q⟩:=h
 obtain ⟨u,rfl,t,rfl⟩:=Jac r
 exact call_abs_int λ u tk=>⟨.int (if i<0 then -i else i),H,I.tok _,⟨_,rfl⟩,q⟩
theorem Jqi (hc:X.calm=true):Vt X (.builtin "max") (λ xs H Q=>∃ i j,xs=[.int i,.int j]/\Q (.int (if j>i then j else i)) H):=by
 intro pins s σ H xs us Q I r h
 obtain ⟨i,j,rfl,q⟩:=h
 obtain ⟨u,w',rfl,⟨t,rfl⟩,⟨t',rfl⟩⟩:=Jo6 r
 refine max_two_ints (I.ok.hd hc) λ h' tk k=>⟨_,H,I.kept k,?_,q⟩
 by_cases hj:j>i
 . rw [if_pos hj,if_pos hj];exact ⟨_,rfl⟩
 . rw [if_neg hj,if_neg hj];exact ⟨_,rfl⟩
theorem Jqj (hc:X.calm=true):Vt X (.builtin "min") (λ xs H Q=>∃ i j,xs=[.int i,.int j]/\Q (.int (if j<i then j else i)) H):=by
 intro pins s σ H xs us Q I r h
 obtain ⟨i,j,rfl,q⟩:=h
 obtain ⟨u,w',rfl,⟨t,rfl⟩,⟨t',rfl⟩⟩:=Jo6 r
 refine min_two_ints (I.ok.hd hc) λ h' tk k=>⟨_,H,I.kept k,?_,q⟩
 by_cases hj:j<i
 . rw [if_pos hj,if_pos hj];exact ⟨_,rfl⟩
 . rw [if_neg hj,if_neg hj];exact ⟨_,rfl⟩
theorem Jeu:Vt X (.type "int") (λ xs H Q=>(∃ i,xs=[.int i]/\Q (.int i) H)\/∃ k,xs=[.bl k]/\Q (.int (if k then 1 else 0)) H):=by
 intro pins s σ H xs us Q I r h
 rcases h with ⟨i,rfl,q⟩ | ⟨k,rfl,q⟩
 . obtain ⟨u,rfl,t,rfl⟩:=Jac r
   exact call_int_int ⟨.int i,H,I,⟨_,rfl⟩,q⟩
 . obtain ⟨u,rfl,r1⟩:=Jac r
   cases r1
   exact call_int_bool ⟨.int (if k then 1 else 0),H,I.tok _,⟨_,rfl⟩,q⟩
end
structure ObjM (h:Heap) (x dx C:Addr) (mA:Str->Option J9g):Prop where
 obj:h.get? x=some (U8 C dx)
 ns:h.Ns1 dx mA
 ne:dx≠x
theorem Jqk {h:Heap}{dx:Addr}{mA:Str->Option J9g}(n:h.Ns1 dx mA):∃ od,h.get? dx=some od/\∀ name,J4i name od=some (mA name):=by
 obtain ⟨o,es,ep,ho,hd,hk,_,hm⟩:=n
 refine ⟨o,ho,λ name=>?_⟩
 have e:=hm name
 unfold nsFind findBy at e
 rw [<- Array.find?_toList] at e
 unfold J4i
 rw [hd]
 dsimp only
 split
 . rename_i y q
   rw [q] at e
   exact congrArg some e
 . rename_i q
   rw [q] at e
   have a:es.toList.any (·.refKey)=false:=by
    rw [J5x]
    intro y hy
    obtain ⟨z,t,hkey⟩:=hk y (Array.mem_toList_iff.mp hy)
    simp [DictEntry.refKey,hkey]
   have a':¬ es.toList.any (·.refKey)=true:=by rw [a];exact Xe
   rw [if_neg a']
   exact congrArg some e
theorem ObjM.look {h:Heap}{x dx C:Addr}{mA:Str->Option J9g}(I:ObjM h x dx C mA):∃ od,PySem.W.InstAt h x (U8 C dx) C (some od)/\∀ name,J4i name od=some (mA name):=
 let ⟨od,ho,hl⟩:=Jqk I.ns
 ⟨od,⟨I.obj,rfl,rfl,ho⟩,hl⟩
section
variable {prog:J9l}{w:J9k}{A:J9m}{E:J9g->J9i->Prop}{s:J9i}{K:Qc}{x dx C f:Addr}{mA:Str->Option J9g}{name:Str}{v:J9g}
theorem Jvb {expr:Bool}{Q:J9g->J9i->Prop}(X:K.In s.heap) (I:ObjM s.heap x dx C mA) (hg:J4j K C name=true) (hh:J5y K C=true)
 (ha:Uh K (.ref C) name=some none) (hv:mA name=some v) (hv':J7j v=true) (h:Q v { s with toks:=s.toks+1 }) :
 J9j (model prog w) A (getAttr (.ref x) name expr) Q E s:=by
 obtain ⟨od,J,hl⟩:=I.look
 exact PySem.W.get_value X J (J5z hg).1 (PySem.W.findObj_own hh ha rfl (by rw [hl,hv])) hv' h
theorem Jsa {pl:Sem Bool}{Q:J9g×List J9g->J9i->Prop}(X:K.In s.heap) (I:ObjM s.heap x dx C mA) (hg:J4j K C name=true)
 (hf:Uh K (.ref C) name=some (some (.ref f))) (ht:J3w K (.ref f)=true) (hv:mA name=none) (h:Q (.ref f,[.ref x]) s) :
 J9j (model prog w) A (getMethod (.ref x) name pl) Q E s:=by
 obtain ⟨od,J,hl⟩:=I.look
 exact PySem.W.method_fn X J (J5z hg).1 (J5z hg).2 hf (beq_iff_eq.mp ht) (by show (J4i name od).map (·.isSome)=some false;rw [hl,hv];rfl) h
theorem Jvc {ns:List Str}{Q:Unit->J9i->Prop}(X:K.In s.heap) (I:ObjM s.heap x dx C mA)
 (hs:Uh K (.ref C) "__setattr__" = some (some (.builtin "object.__setattr__"))) (hp:J7k K C=true) (ht:J50 K C name=some none) (hh:J5y K C=true)
 (hw:J5n mA ns) (hsz:ns.length<=sizeLine)
 (h:∀ h',ObjM h' x dx C (λ y=>if y=name then some v else mA y)->Xy dx s.heap h'->Q () { s with heap:=h',toks:=s.toks+2 }) :
 J9j (model prog w) A (setAttr (.ref x) name v) Q E s:=by
 obtain ⟨od,J,hl⟩:=I.look
 refine PySem.W.set_plain X J hs (PySem.W.osa_open (s:={ s with toks:=s.toks+1 }) (r:=none) X J hp ht λ b=>?_)
 obtain ⟨cd,hc,hd'⟩:=PySem.W.any_some hh
 have hx:s.heap.get? x=some ⟨.ref C,some dx,.plain,#[]⟩:=I.obj
 refine wpAny_bind (wpAny_pure (wpAny_bind (wpAny_bind (wpAny_loadPart hx (wpAny_bind (J9a (s:={ s with toks:=s.toks+1 }) (PySem.W.looks_clsIn X hc) ?_))))))
 rw [hd']
 refine wpAny_pure (a:=some dx) (wpAny_bind (wpAny_pure (wpAny_bind ?_)))
 refine wpAny_nsSet1 (s:={ s with toks:=s.toks+1 }) I.ns λ h' hn2 hs2=>?_
 obtain ⟨oD,esD,epD,hoD,hdD,hcD⟩:=hn2.count (J5n.cons name v hw)
 refine wpAny_bind (wpAny_lookBehind hoD (by rw [hdD];exact pastItsLine_dict (Xi hcD (by rw [Ub];omega))) ?_)
 exact wpAny_pure (h _ ⟨(hs2.2 _ (Qk I.ne)).trans I.obj,hn2,I.ne⟩ hs2)
theorem Jsb {R:J91->J9i->Prop}{vs:List J9g}{kw:List (Str×J9g)}(X:K.In s.heap) (hm:J51 K C=true)
 (hi:Uh K (.ref C) "__init__" = some (some (.ref f))) (hf:PySem.W.typeIn K (.ref f)=some (.type "function"))
 (h:J9u (model prog w) (A.under (.builtin "type.__call__" ⟨.ref C::vs,kw⟩)) (.call (.ref f) ⟨.ref (s.heap.objs.size+1)::vs,kw⟩) (PySem.W.InitBack (s.heap.objs.size+1) R)
  { s with heap:=(s.heap.push U0).push (U8 C s.heap.objs.size) }) :
 J9u (model prog w) A (.call (.ref C) ⟨vs,kw⟩) R s:=by
 obtain ⟨hh,g,d,t,os⟩:=s
 exact PySem.W.make_core (PySem.W.makes_of X hm) (PySem.W.looks_findIn X hi) (λ self=>PySem.W.bind_fn X self hf) (.inl rfl) h
end
noncomputable def putF (f:Str) (v:V):List (Str×V)->List (Str×V)
 | []=>[(f,v)]
 | (g,x)::r=>if g=f then (g,v)::r else (g,x)::putF f v r
theorem Jfh (f g:Str) (v:V):∀ fs:List (Str×V),(putF f v fs).lookup g=if g=f then some v else fs.lookup g
 | []=>by
  show J27 g [(f,v)]=_
  by_cases h:g=f
  . have hb:(g==f)=true:=beq_iff_eq.mpr h
    simp only [J27,hb,if_pos h]
  . have hb:(g==f)=false:=beq_eq_false_iff_ne.mpr h
    simp only [J27,hb,if_neg h]
 | (k,x)::r=>by
  have ih:=Jfh f g v r
  rw [show putF f v ((k,x)::r)=(if k=f then (k,v)::r else (k,x)::putF f v r) from rfl]
  by_cases hk:k=f
  . rw [if_pos hk]
    by_cases h:g=k
    . have hb:(g==k)=true:=beq_iff_eq.mpr h
      simp only [J27,hb,if_pos (h.trans hk)]
    . have hb:(g==k)=false:=beq_eq_false_iff_ne.mpr h
      simp only [J27,hb,if_neg (λ e:g=f=>h (e.trans hk.symm))]
  . rw [if_neg hk]
    by_cases h:g=k
    . have hb:(g==k)=true:=beq_iff_eq.mpr h
      simp only [J27,hb,if_neg (λ e:g=f=>hk (h.symm.trans e))]
    . have hb:(g==k)=false:=beq_eq_false_iff_ne.mpr h
      simp only [J27,hb]
      exact ih
theorem Jev (f:Str) (v:V):∀ fs:List (Str×V),f∈(putF f v fs).map (·.1)/\∀ g,g∈fs.map (·.1)->g∈(putF f v fs).map (·.1)
 | []=>⟨by simp [putF],λ g h=>by simp at h⟩
 | (k,x)::r=>by
  obtain ⟨i1,i2⟩:=Jev f v r
  rw [show putF f v ((k,x)::r)=(if k=f then (k,v)::r else (k,x)::putF f v r) from rfl]
  by_cases hk:k=f
  . rw [if_pos hk]
    subst hk
    exact ⟨by simp,λ g h=>by simpa using h⟩
  . rw [if_neg hk]
    refine ⟨?_,λ g h=>?_⟩
    . rw [Qz]
      exact Qj _ i1
    . rw [Qz] at h ⊢
      rcases Qf.mp h with e | e
      . exact Qf.mpr (.inl e)
      . exact Qj _ (i2 g e)
theorem Jfi (f:Str) (v:V):∀ fs:List (Str×V),(putF f v fs).length<=fs.length+1
 | []=>by simp [putF]
 | (k,x)::r=>by
  have ih:=Jfi f v r
  rw [show putF f v ((k,x)::r)=(if k=f then (k,v)::r else (k,x)::putF f v r) from rfl]
  by_cases hk:k=f
  . rw [if_pos hk,Ub,Ub];omega
  . rw [if_neg hk,Ub,Ub];omega
theorem Jdm.some_of {v:V}{o:Option J9g}(r:Jdm (some v) o):∃ u,o=some u/\Yo v u:=by
 cases o with
 | none=>exact (show False from r).elim
 | some u=>exact ⟨u,rfl,r⟩
theorem Jdm.none_of {o:Option J9g}(r:Jdm none o):o=none:=by
 cases o with
 | none=>rfl
 | some u=>exact (show False from r).elim
theorem Jql {v:V}{u:J9g}(r:Yo v u):J7j u=true:=by
 cases v with
 | non=>cases (show u=Ur from r);rfl
 | bl b=>cases (show u=J3i b from r);rfl
 | int i=>obtain ⟨t,e⟩:=(show ∃ t,u=Uq i t from r);cases e;rfl
 | str x=>obtain ⟨t,e⟩:=(show ∃ t,u=J3h x t from r);cases e;rfl
 | byt b=>obtain ⟨t,e⟩:=(show ∃ t,u=J7f b t from r);cases e;rfl
 | flt b=>obtain ⟨t,e⟩:=(show ∃ t,u=J5l b t from r);cases e;rfl
 | ref a=>cases (show u=Q4 a from r);rfl
 | ty n=>cases (show u=J4h n from r);rfl
section
variable {P:J9l}{w:J9k}{H H':Hp}{h h':Heap}{a C dx:Addr}{fs fs':List (Str×V)}
theorem Jf2 (hok:HOk P w H h) (e:H a=some (.ins C dx fs)):∃ mA,ObjM h a dx C mA/\(∀ f,Jdm (fs.lookup f) (mA f))/\J5n mA (fs.map (·.1))/\fs.length<=1000/\H dx=some (.own a):=by
 obtain ⟨d,z,ne,ob,mA,n,r,q⟩:=(show Y3 P w H h a (.ins C dx fs) from hok a _ e)
 exact ⟨mA,⟨ob,n,ne⟩,r,q,z,d⟩
end
structure Cls (K:Qc) (C:Addr):Prop where
 pg:J4j K C Str.empty=true
 hd:J5y K C=true
 po:J7k K C=true
 sa:Uh K (.ref C) "__setattr__" = some (some (.builtin "object.__setattr__"))
theorem Cls.get {K:Qc}{C:Addr}(c:Cls K C) (f:Str):J4j K C f=true:=c.pg
def NoAttr (K:Qc) (C:Addr) (f:Str):Prop:=Uh K (.ref C) f=some none
theorem NoAttr.taker {K:Qc}{C:Addr}{f:Str}(n:NoAttr K C f):J50 K C f=some none:=by
 unfold J50
 rw [show Uh K (.ref C) f=some none from n]
 rfl
structure Meth (K:Qc) (C:Addr) (m:Str) (f:Addr):Prop where
 at_:Uh K (.ref C) m=some (some (.ref f))
 fn:J3w K (.ref f)=true
 kp:Ui K (.ref f)=true
section
variable {X:Cx}{pins:List (Addr×Obj)}{σ:St}{H:Hp}{s:J9i}{a C dx:Addr}{fs:List (Str×V)}{f:Str}{v:V}{A:J9m}{E:J9g->J9i->Prop}
theorem Jno {b:Bool}{Q:J9g->J9i->Prop}(I:Inv X pins σ H s) (e:H a=some (.ins C dx fs)) (c:Cls X.K C) (n:NoAttr X.K C f) (l:fs.lookup f=some v)
 (h:∀ u s',Inv X pins σ H s'->Yo v u->Q u s'):J9j (model X.prog X.w) A (getAttr (.ref a) f b) Q E s:=by
 obtain ⟨mA,O,r,_,_,_⟩:=Jf2 I.hok e
 obtain ⟨u,hu,ru⟩:=Jdm.some_of (v:=v) (o:=mA f) (by rw [<- l];exact r f)
 exact Jvb I.kIn O (c.get f) c.hd n hu (Jql ru) (h u _ (I.tok _) ru)
theorem Jnp {m:Str}{g:Addr}{pl:Sem Bool}{Q:J9g×List J9g->J9i->Prop}(I:Inv X pins σ H s) (e:H a=some (.ins C dx fs)) (c:Cls X.K C) (k:Meth X.K C m g) (l:fs.lookup m=none)
 (h:Q (.ref g,[.ref a]) s):J9j (model X.prog X.w) A (getMethod (.ref a) m pl) Q E s:=by
 obtain ⟨mA,O,r,_,_,_⟩:=Jf2 I.hok e
 have hn:mA m=none:=Jdm.none_of (by rw [<- l];exact r m)
 exact Jsa I.kIn O (c.get m) k.at_ k.fn hn h
theorem Jnq {y:V}{u:J9g}{Q:Unit->J9i->Prop}(I:Inv X pins σ H s) (e:H a=some (.ins C dx fs)) (c:Cls X.K C) (n:NoAttr X.K C f) (hl:fs.length<1000) (ry:Yo y u)
 (h:∀ s',Inv X pins σ (upd H a (.ins C dx (putF f y fs))) s'->Q () s'):J9j (model X.prog X.w) A (setAttr (.ref a) f u) Q E s:=by
 obtain ⟨mA,O,r,wi,_,ho⟩:=Jf2 I.hok e
 have hz:(fs.map (·.1)).length<=sizeLine:=by rw [Qb,J9n];omega
 refine Jvc I.kIn O c.sa c.po n.taker c.hd wi hz λ h' O' sb=>h _ ?_
 have hd:∃ o,h'.get? dx=some o:=let ⟨o,_,_,e',_⟩:=O'.ns;⟨o,e'⟩
 refine I.write (x:=a) (e:=dx) (by rw [e];exact U1) (.inr ho) (λ b q hb z=>(sb.2 b hb).trans z) hd ?_
 refine ⟨by rw [Jf O.ne];exact ho,?_,O.ne,O'.obj,_,O'.ns,λ g=>?_,λ g hg=>?_⟩
 . have:=Jfi f y fs;omega
 . show Jdm ((putF f y fs).lookup g) (if g=f then some u else mA g)
   rw [Jfh]
   by_cases q:g=f
   . rw [if_pos q,if_pos q];exact ry
   . rw [if_neg q,if_neg q];exact r g
 . by_cases q:g=f
   . rw [q];exact (Jev f y fs).1
   . refine (Jev f y fs).2 g (wi g λ z=>hg ?_)
     show (if g=f then some u else mA g)=none
     rw [if_neg q];exact z
theorem Inv.made (I:Inv X pins σ H s):Inv X pins σ (upd (upd H s.heap.objs.size (.own (s.heap.objs.size+1))) (s.heap.objs.size+1) (.ins C s.heap.objs.size []))
 { s with heap:=(s.heap.push U0).push (U8 C s.heap.objs.size) }:=by
 have e1:(s.heap.push U0).get? s.heap.objs.size=some U0:=Q9 s.heap rfl
 have e2:((s.heap.push U0).push (U8 C s.heap.objs.size)).get? (s.heap.objs.size+1)=some (U8 C s.heap.objs.size):=by
  have:=Q9 (s.heap.push U0) (o:=U8 C s.heap.objs.size) rfl
  rwa [Xv] at this
 have e3:(s.heap.push U0).Ns s.heap.objs.size (λ _=>none):=⟨U0,#[],_,e1,rfl,(λ e he=>absurd he (by simp)),λ _=>rfl⟩
 have I1:=I.laid (a:=s.heap.objs.size) (o:=.own (s.heap.objs.size+1)) (h':=s.heap.push U0) (t':=s.toks) (λ b u q=>Qu _ q) (Qm _) ⟨_,e1⟩
 refine I1.laid (a:=s.heap.objs.size+1) (o:=.ins C s.heap.objs.size []) (t':=s.toks) (λ b u q=>Qu _ q) (J4k (Xv _ _)) ?_
 have ne:s.heap.objs.size≠s.heap.objs.size+1:=Q5 (J3x _)
 refine ⟨by rw [Jf ne,Jh],Xz _,ne,e2,λ _=>none,(Heap.Ns1.of_empty e3).at λ o q=>Qu _ q,λ _=>U1,λ y hy=>absurd rfl hy⟩
theorem Jvd {prog:J9l}{w:J9k}{env:Env}{e:Expr}{f:Str}{pos:Pos}{s:J9i}{Q:J9g->J9i->Prop}(hb:Yab e f env (eval e env)=eval e env)
 (h:J9j (model prog w) A (eval e env) (λ o s₁=>J9j (model prog w) A (getAttr o f true) Q E s₁) E s):J9j (model prog w) A (eval (.Attribute e f pos) env) Q E s:=
 Attribute_any_ h (by rw [arm_eval_Attribute,hb])
end
def Jnr (K:Qc) (ta:TE) (f:Str):TE:=λ σ H Q=>ta σ H λ x H1=>∃ a C dx fs v,x = .ref a/\H1 a=some (.ins C dx fs)/\Cls K C/\NoAttr K C f/\fs.lookup f=some v/\Q v H1
def Jve (K:Qc) (ta tv:TE) (f:Str):TS:=λ D σ H=>tv σ H λ y H1=>ta σ H1 λ x H2=>∃ a C dx fs,x = .ref a/\H2 a=some (.ins C dx fs)/\Cls K C/\NoAttr K C f/\fs.length<1000 /\
 D.nx σ (upd H2 a (.ins C dx (putF f y fs)))
section
variable {X:Cx}{o e value:Expr}{f:Str}{pos pos' tpos:Pos}{ta tv:TE}
theorem Jyt (he:PE X e ta) (hb:Yab e f X.env (eval e X.env)=eval e X.env):PE X (.Attribute e f pos) (Jnr X.K ta f):=by
 intro pins s σ H Q I h
 refine Jvd hb (thn (he pins s σ H _ I h) λ u s1 ⟨x,H1,I1,rx,a,C,dx,fs,v,ex,ea,c,n,l,q⟩=>?_)
 subst ex
 obtain rfl:u=Q4 a:=rx
 exact Jno I1 ea c n l λ u' s2 I2 ru=>⟨v,H1,I2,ru,q⟩
theorem Ja7 (ha:PE X o ta) (hv:PE X value tv) (hs:J98 value (some (.Attribute o f pos')) pos.line X.env=pure false):PS X (.Assign [.Attribute o f pos'] value pos) (Jve X.K ta tv f):=by
 intro pins s σ H D I h
 refine plainObj_wpAny_Assign_Attribute (thn (hv pins s σ H _ I h) λ u s1 ⟨y,H1,I1,ry,q⟩=>thn (ha pins s1 σ H1 _ I1 q) λ ov s2 ⟨x,H2,I2,rx,a,C,dx,fs,ex,ea,c,n,l,q2⟩=>?_) hs
 subst ex
 obtain rfl:ov=Q4 a:=rx
 exact Jnq I2 ea c n l ry λ s3 I3=>⟨σ,_,I3,q2⟩
end
section
variable {X:Cx}{pins:List (Addr×Obj)}{σ:St}{H:Hp}{s:J9i}{A:J9m}{E:J9g->J9i->Prop}{Q:J9g->J9i->Prop}{c:J9g}{b:Bool}
inductive TyOf (K:Qc) (H:Hp):V->J9g->Prop where
 | non:TyOf K H .non (.type "NoneType")
 | bl (x:Bool):TyOf K H (.bl x) (.type "bool")
 | int (i:Int):TyOf K H (.int i) (.type "int")
 | str (x:Str):TyOf K H (.str x) (.type "str")
 | flt (x:UInt64):TyOf K H (.flt x) (.type "float")
 | lst {a:Addr} {xs:List V} (e:H a=some (.lst xs)):TyOf K H (.ref a) (.type "list")
 | frz {a:Addr} {o:Obj} {xs:List V} (e:H a=some (.frz o (.lst xs))):TyOf K H (.ref a) (.type "list")
 | tup {a:Addr} {xs:List V} (e:H a=some (.tup xs)):TyOf K H (.ref a) (.type "tuple")
 | dK {a:Addr} {kvs:List (Key×V)} (e:H a=some (.dK kvs)):TyOf K H (.ref a) (.type "dict")
 | dT {a:Addr} {kvs:List (List Key×V)} (e:H a=some (.dT kvs)):TyOf K H (.ref a) (.type "dict")
 | ins {a C dx:Addr} {fs:List (Str×V)} (e:H a=some (.ins C dx fs)) (cl:Cls K C) (ha:Uh K (.ref C) "__class__" = some (some (.builtin "object.__class__")))
  (hn:PySem.W.specialIn K (.builtin "object.__class__") "__get__" = some (some (.builtin "getset_descriptor.__get__"))) (htk:PySem.W.takesIn K (.builtin "object.__class__")=some true)
  (hm:PySem.W.mroIn K C (.type "object")=some true):TyOf K H (.ref a) (.ref C)
theorem Jqm {x:V}{u t:J9g}(I:Inv X pins σ H s) (rx:Yo x u) (ty:TyOf X.K H x t) (e:J52 X.K t c=some b) (h:∀ tk,Q (.bool b) { s with toks:=tk }) :
 J9j (model X.prog X.w) A (call (.builtin "isinstance") [u,c]) Q E s:=by
 cases ty with
 | non=>cases (show u=Ur from rx);exact Um PySem.W.kitx_none I.kIn U1 e (λ z=>nomatch z) h
 | bl y=>cases (show u=J3i y from rx);exact Um PySem.W.kitx_bool I.kIn U1 e (λ z=>nomatch z) h
 | int i=>obtain ⟨t,q⟩:=(show ∃ t,u=Uq i t from rx);cases q;exact Um PySem.W.kitx_int I.kIn U1 e (λ z=>nomatch z) h
 | str y=>obtain ⟨t,q⟩:=(show ∃ t,u=J3h y t from rx);cases q;exact Um PySem.W.kitx_str I.kIn U1 e (λ z=>nomatch z) h
 | flt y=>obtain ⟨t,q⟩:=(show ∃ t,u=J5l y t from rx);cases q;exact Um PySem.W.kitx_float I.kIn U1 e (λ z=>nomatch z) h
 | @lst a xs ea=>
  cases (show u=Q4 a from rx)
  obtain ⟨_,_,n,_,h1⟩:=(show Y3 X.prog X.w H s.heap a (.lst xs) from I.hok a _ ea)
  exact Um J7l I.kIn ⟨_,h1,rfl⟩ e (λ z=>nomatch z) h
 | @frz a ob xs ea=>
  cases (show u=Q4 a from rx)
  obtain ⟨_,_,_,n,_,h1⟩:=(show Y3 X.prog X.w H s.heap a (.frz ob (.lst xs)) from I.hok a _ ea)
  exact Um J7l I.kIn ⟨_,h1,rfl⟩ e (λ z=>nomatch z) h
 | @tup a xs ea=>
  cases (show u=Q4 a from rx)
  obtain ⟨_,_,_,p⟩:=(show Y3 X.prog X.w H s.heap a (.tup xs) from I.hok a _ ea)
  obtain ⟨o,h1,h2,_⟩:=p
  exact Um PySem.W.kitx_tuple I.kIn ⟨o,h1,h2⟩ e (λ z=>nomatch z) h
 | @dK a kvs ea=>
  cases (show u=Q4 a from rx)
  obtain ⟨_,_,vs,_,p⟩:=(show Y3 X.prog X.w H s.heap a (.dK kvs) from I.hok a _ ea)
  obtain ⟨o,es,ep,h1,h2,_⟩:=p
  exact Um J7m I.kIn ⟨o,h1,h2.1⟩ e (λ z=>nomatch z) h
 | @dT a kvs ea=>
  cases (show u=Q4 a from rx)
  obtain ⟨_,_,xs,_,o,es,ep,h1,h2,_⟩:=(show Y3 X.prog X.w H s.heap a (.dT kvs) from I.hok a _ ea)
  exact Um J7m I.kIn ⟨o,h1,h2.1⟩ e (λ z=>nomatch z) h
 | @ins a C dx fs ea cl ha hn htk hm=>
  cases (show u=Q4 a from rx)
  obtain ⟨mA,O,_⟩:=Jf2 I.hok ea
  obtain ⟨od,J,_⟩:=O.look
  exact Um (PySem.W.kitx_own (cl.get _) cl.hd ha hn htk hm) I.kIn J e (λ z=>nomatch z) h
end
structure Room (k:Nat) (A:J9m):Prop where
 hd:A.handled=none
 dp:A.depth+3*k+5<recursionLimit
 un:A.units+16*k+200<cLine
 gd:A.guards=some []
theorem Room.mono {j k:Nat}{A:J9m}(r:Room k A) (h:j<=k):Room j A:=⟨r.hd,by have:=r.dp;omega,by have:=r.un;omega,r.gd⟩
theorem Room.deeper {k:Nat}{A:J9m}(r:Room (k+1) A) (env:Env):Room k (A.deeper env):=
 ⟨r.hd,by have:=r.dp;show A.depth+1+3*k+5<_;omega,by have:=r.un;show A.units+3+16*k+200<_;omega,r.gd⟩
theorem Jns {A:J9m}{C:Addr}{us:List J9g}{kw:List (Str×J9g)}:(A.under (.builtin "type.__call__" ⟨.ref C::us,kw⟩)).depth=A.depth+1:=by
 first | rfl | simp [J4l,Code.weight,Code.isCreation,Code.isGuard,Code.isCaller,Code.frames,Code.isFrame,guardIds]
theorem Jnt {A:J9m}{C:Addr}{us:List J9g}{kw:List (Str×J9g)}:(A.under (.builtin "type.__call__" ⟨.ref C::us,kw⟩)).units=A.units+1:=by
 first | rfl | simp [J4l,Code.cUnits,Code.frames,Code.isFrame]
theorem Room.make {k:Nat}{A:J9m}(r:Room (k+1) A) (C:Addr) (us:List J9g) (kw:List (Str×J9g)):Room k (A.under (.builtin "type.__call__" ⟨.ref C::us,kw⟩)):=
 ⟨r.hd,by have:=r.dp;rw [Jns];omega,by have:=r.un;rw [Jnt];omega,by first | exact r.gd | (simpa [J4l,Code.guards,pushGuards,Code.isGuard,guardIds] using r.gd)⟩
theorem Room.depth {k:Nat}{A:J9m}(r:Room k A):A.depth<recursionLimit:=by have:=r.dp;omega
theorem Room.units {k:Nat}{A:J9m}(r:Room k A):A.units+64<cLine:=by have:=r.un;omega
def Jbr:TA:=λ _ H Q=>Q [] H
def Yq (ta:TE) (tr:TA):TA:=λ σ H Q=>ta σ H λ x H1=>tr σ H1 λ xs H2=>Q (x::xs) H2
section
variable {X:Cx}{e:Expr}{es:List Expr}{te:TE}{t:TA}{pos:Pos}
theorem Jd:PA X [] Jbr:=λ _ _ _ _ H Q I h=>J3y ⟨[],H,I,.nil,h⟩
theorem V9 (ha:PE X e te) (hr:PA X es t) (hs:starEach (e::es) X.env=(false,eval e X.env)::starEach es X.env:=by rfl):PA X (e::es) (Yq te t):=by
 intro pos pins s σ H Q I h
 rw [hs]
 show J9j _ _ (spliced ((false,eval e X.env)::backTo pos (starEach es X.env))) _ _ s
 refine J3j (thn (ha pins s σ H _ I h) λ u s1 ⟨x,H1,I1,r1,q1⟩=>?_)
 exact thn (hr pos pins s1 σ H1 _ I1 q1) λ us s2 ⟨xs,H2,I2,r2,q2⟩=>⟨x::xs,H2,I2,.cons r1 r2,q2⟩
def Jvf (t:TA):TE:=λ σ H Q=>t σ H λ xs H1=>xs.length<=sizeLine/\∀ p,H1 p=none->Q (.ref p) (upd H1 p (.tup xs))
def Jyu (t:TA):TE:=λ σ H Q=>t σ H λ xs H1=>xs.length<=sizeLine/\∀ p,H1 p=none->Q (.ref p) (upd H1 p (.lst xs))
theorem Jyv {x1} (h:PA X es t):PE X (.Tuple es x1 pos) (Jvf t):=by
 intro pins s σ H Q I hq
 refine wpAny_Tuple_spliced (thn (h pos pins s σ H _ I hq) λ us s1 ⟨xs,H1,I1,r,z,q⟩=>⟨by rw [<- r.length];exact z,?_⟩)
 have hf:H1 s1.heap.objs.size=none:=I1.hok.fresh (Qm _)
 refine ⟨.ref s1.heap.objs.size,upd H1 s1.heap.objs.size (.tup xs),I1.laid (t':=s1.toks) (λ b u e=>Qu _ e) (Qm _) ?_,rfl,q _ hf⟩
 exact ⟨z,us,r,⟨_,Q9 _ rfl,rfl,_,rfl⟩⟩
theorem Jyw (h:PA X es t):PE X (.List es pos) (Jyu t):=by
 intro pins s σ H Q I hq
 refine wpAny_List_spliced (thn (h pos pins s σ H _ I hq) λ us s1 ⟨xs,H1,I1,r,z,q⟩=>⟨by rw [<- r.length];exact z,?_⟩)
 have hf:H1 s1.heap.objs.size=none:=I1.hok.fresh (Qm _)
 refine ⟨.ref s1.heap.objs.size,upd H1 s1.heap.objs.size (.lst xs),I1.laid (t':=s1.toks) (λ b u e=>Qu _ e) (Qm _) ?_,rfl,q _ hf⟩
 exact ⟨z,us,0,r,Q9 _ rfl⟩
end
abbrev Sp:=List V->Hp->VK->XK->Prop
abbrev CXT:=List Env->Hp->J9i->XK->J9g->J9i->Prop
structure Env0 (P:J9l) (w:J9k) (K:Qc) (mg:Str->Option J9g) (base:Heap) (A:J9m) (outer:List Env) (s:J9i) (H:Hp):Prop where
 frames:A.frames=some outer
 mod:Mod K mg base
 bs:∀ b o,base.get? b=some o->s.heap.get? b=some o/\H b=none
 bsz:base.objs.size<=s.heap.objs.size
 funs:s.heap.FunFrames base outer
 frf:∀ b∈frs outer,H b=none
 hok:HOk P w H s.heap
 bare:J9x s.gens
def CE (outer:List Env) (P:J9l) (w:J9k) (H:Hp) (s:J9i) (Q:VK) (u:J9g) (s':J9i):Prop:=
 ∃ v H',s'.os=s.os/\J9x s'.gens/\Un (frs outer) [] H H' s.heap s'.heap/\HOk P w H' s'.heap/\Yo v u/\Q v H'
def CR (CX:CXT) (outer:List Env) (P:J9l) (w:J9k) (H:Hp) (s:J9i) (Q:VK) (E:XK) (r:J91) (s':J9i):Prop:=
 match r with
 | .ok (.ret u)=>CE outer P w H s Q u s'
 | .ok _=>False
 | .error e=>CX outer H s E e s'
structure FnOk (P:J9l) (w:J9k) (K:Qc) (mg:Str->Option J9g) (base:Heap) (CX:CXT) (k:Nat) (f:Addr) (fd:J9s) (ps:List Str) (sp:Sp):Prop where
 len:∀ vs H Q E,sp vs H Q E->vs.length=ps.length
 run:∀ (A:J9m) (outer:List Env) (s:J9i) (H:Hp) (args:Args) (us:List J9g) (vs:List V) (Q:VK) (E:XK),Room k A->Env0 P w K mg base A outer s H->Yac s fd args (ps.zip us)->J9 vs us->sp vs H Q E ->
  J9u (model P w) A (.call (.ref f) args) (CR CX outer P w H s Q E) s
theorem FnOk.imp {P:J9l}{w:J9k}{K:Qc}{mg:Str->Option J9g}{base:Heap}{CX:CXT}{k:Nat}{f:Addr}{fd:J9s}{ps:List Str}{sp sp':Sp}(F:FnOk P w K mg base CX k f fd ps sp)
 (h:∀ vs H Q E,sp' vs H Q E->sp vs H Q E):FnOk P w K mg base CX k f fd ps sp':=
 ⟨λ vs H Q E q=>F.len vs H Q E (h _ _ _ _ q),λ A outer s H args us vs Q E hr he hb hv hs=>F.run A outer s H args us vs Q E hr he hb hv (h _ _ _ _ hs)⟩
theorem Env0.make {P:J9l}{w:J9k}{K:Qc}{mg:Str->Option J9g}{base:Heap}{A:J9m}{outer:List Env}{s:J9i}{H:Hp}(e:Env0 P w K mg base A outer s H) (C:Addr) (us:List J9g) (kw:List (Str×J9g)) :
 Env0 P w K mg base (A.under (.builtin "type.__call__" ⟨.ref C::us,kw⟩)) outer s H:=⟨by first | exact e.frames | (simpa [J4l,Code.envs,Code.isFrame,pushEnvs] using e.frames),e.mod,e.bs,e.bsz,e.funs,e.frf,e.hok,e.bare⟩
section
variable {X:Cx}{pins:List (Addr×Obj)}{σ:St}{H:Hp}{s s':J9i}
theorem Inv.env0 (I:Inv X pins σ H s):Env0 X.prog X.w X.K X.mg X.base X.A X.stack s H:=
 ⟨I.ok.frames,I.ok.mod,I.bs,Xi I.ok.bsz I.sz,I.stack,I.stkFree,I.hok,I.bare⟩
theorem Inv.after {Q:VK}{u:J9g}(I:Inv X pins σ H s) (h:CE X.stack X.prog X.w H s Q u s'):EP X pins σ Q u s':=by
 obtain ⟨v,H',os,bare,un,hok,r,q⟩:=h
 obtain ⟨hh,g,d,t,os'⟩:=s'
 obtain rfl:os'=s.os:=os
 exact ⟨v,H',I.call (h':=hh) (g':=g) (d':=d) (t':=t) (ch:=[]) un hok bare (λ b z=>absurd z (by simp)),r,q⟩
end
def Jiz (sp:Sp) (dvs:List V) (E:XK) (t:TA):TE:=λ σ H Q=>t σ H λ vs H1=>sp (vs++dvs) H1 Q E
def Ji0 (C:Addr) (m:Str) (sp:Sp) (dvs:List V) (E:XK) (ta:TE) (t:TA):TE:=λ σ H Q=>ta σ H λ x H1=>∃ a dx fs,x = .ref a/\H1 a=some (.ins C dx fs)/\fs.lookup m=none /\
 t σ H1 λ vs H2=>sp (x::(vs++dvs)) H2 Q E
def Jxd (C:Addr) (sp:Sp) (dvs:List V) (E:XK) (t:TA):TE:=λ σ H Q=>t σ H λ vs H1=>∀ x dx,H1 x=none->H1 dx=none->dx≠x ->
 sp (.ref x::(vs++dvs)) (upd (upd H1 dx (.own x)) x (.ins C dx [])) (λ v H2=>v = .non/\Q (.ref x) H2) E
def Bn (K:Qc) (fd:J9s) (ps:List Str) (ds:List J9g):Prop:=
 ∀ (s:J9i) (us:List J9g),K.In s.heap->(us++ds).length=ps.length->Yac s fd ⟨us,[]⟩ (ps.zip (us++ds))
theorem Bn.all {K:Qc}{fd:J9s}{ps:List Str}(h:∀ us:List J9g,us.length=ps.length->Yad fd ⟨us,[]⟩=pure (ps.zip us)):Bn K fd ps []:=λ s us _ hl=>by
 rw [Us] at hl ⊢
 exact .of_eq (h us hl)
def Jew (CX:CXT) (X:Cx) (E:XK):Prop:=∀ (pins:List (Addr×Obj)) (σ:St) (H:Hp) (s:J9i) (e:J9g) (s':J9i),Inv X pins σ H s->CX X.stack H s E e s'->X.xe e s'
section
variable {X:Cx}{CX:CXT}{k:Nat}{f C:Addr}{fd:J9s}{ps:List Str}{sp:Sp}{dvs:List V}{ds:List J9g}{E:XK}{x m:Str}{p pos apos:Pos}{e o:Expr}{es:List Expr}{ta:TE}{t:TA}
theorem Jsc {pins:List (Addr×Obj)}{σ:St}{H:Hp}{s:J9i}{Q:VK}{us:List J9g}{vs:List V}(F:FnOk X.prog X.w X.K X.mg X.base CX k f fd ps sp) (hr:Room k X.A) (hb:Bn X.K fd ps ds) (hd:J9 dvs ds) (hx:Jew CX X E)
 (I:Inv X pins σ H s) (r:J9 vs us) (h:sp (vs++dvs) H Q E):J9j (model X.prog X.w) X.A (call (.ref f) us) (EP X pins σ Q) X.xe s:=by
 have r2:J9 (vs++dvs) (us++ds):=r.append hd
 have hl:(us++ds).length=ps.length:=by rw [<- r2.length];exact F.len _ _ _ _ h
 refine wpAny_call (codeAny_mono (F.run X.A X.stack s H ⟨us,[]⟩ (us++ds) (vs++dvs) Q E hr I.env0 (hb s us I.kIn hl) r2 h) λ r s' hq=>?_)
 cases r with
 | error e=>exact hx pins σ H s e s' I hq
 | ok fl=>
  cases fl with
  | ret u=>exact I.after hq
  | next=>exact Ua hq
  | brk=>exact Ua hq
  | cont=>exact Ua hq
theorem Jvg (F:FnOk X.prog X.w X.K X.mg X.base CX k f fd ps sp) (hr:Room k X.A) (hg:Gl X x) (hm:X.mg x=some (.ref f)) (hk:Ui X.K (.ref f)=true) (hb:Bn X.K fd ps ds) (hd:J9 dvs ds) (hx:Jew CX X E)
 (ha:PA X (e::es) t) (hdb:(x==("__debug__":Str))=false:=by decide) (he:starEach (e::es) X.env=(false,eval e X.env)::starEach es X.env:=by rfl) (hpl:(backTo pos (starEach es X.env)).any (·.1)=false:=by rfl) :
 PE X (.Call (.Name x p) (e::es) [] pos) (Jiz sp dvs E t):=by
 intro pins s σ H Q I h
 refine J94 (Jo1 I hg hm ?_ hdb)
 refine J53 (h₀:=X.base) I.ok.mod.kin hk (thn (ha pos pins s σ H _ I h) λ us s1 ⟨vs,H1,I1,r,q⟩=>⟨I1.kIn,?_⟩) he hpl
 exact Jsc F hr hb hd hx I1 r q
theorem Jvh {pl:Sem Bool}(he:PE X o ta) (c:Cls X.K C) (hm:Meth X.K C m f) (F:FnOk X.prog X.w X.K X.mg X.base CX k f fd ps sp) (hr:Room k X.A) (hb:Bn X.K fd ps ds) (hd:J9 dvs ds) (hx:Jew CX X E) (ha:PA X (e::es) t)
 (hst:starEach (e::es) X.env=(false,eval e X.env)::starEach es X.env:=by rfl) (hpl:(backTo pos (starEach es X.env)).any (·.1)=false:=by rfl)
 (ht:eval (.Call (.Attribute o m apos) (e::es) [] pos) X.env=(do
  let ov <- eval o X.env
  J9y apos.atName
  let (f,first) <- holding [ov] (getMethod ov m pl)
  callWith pos f first (backTo pos (starEach (e::es) X.env)) (backToKw pos (keywordEach [] X.env))):=by rfl) :
 PE X (.Call (.Attribute o m apos) (e::es) [] pos) (Ji0 C m sp dvs E ta t):=by
 intro pins s σ H Q I h
 refine PySem.W.methodCall_KW (pl:=pl) (thn (he pins s σ H _ I h) λ u s1 ⟨x,H1,I1,rx,a,dx,fs,ex,ea,l,q⟩=>?_) ht
 subst ex
 obtain rfl:u=Q4 a:=rx
 refine Jnp I1 ea c hm l ?_
 refine J53 (first:=[.ref a]) (h₀:=X.base) I.ok.mod.kin hm.kp (thn (ha pos pins s1 σ H1 _ I1 q) λ us s2 ⟨vs,H2,I2,r,q2⟩=>⟨I2.kIn,?_⟩) hst hpl
 exact Jsc (us:=.ref a::us) (vs:=.ref a::vs) F hr hb hd hx I2 (.cons rfl r) q2
structure Mk (K:Qc) (C f:Addr):Prop where
 makes:J51 K C=true
 init:Uh K (.ref C) "__init__" = some (some (.ref f))
 fn:J3w K (.ref f)=true
 kp:Ui K (.ref C)=true
theorem Jsd {pins:List (Addr×Obj)}{σ:St}{H:Hp}{s:J9i}{Q:VK}{us:List J9g}{vs:List V}(M:Mk X.K C f) (F:FnOk X.prog X.w X.K X.mg X.base CX k f fd ps sp) (hr:Room (k+1) X.A) (hb:Bn X.K fd ps ds) (hd:J9 dvs ds)
 (hx:Jew CX X E) (I:Inv X pins σ H s) (r:J9 vs us)
 (h:∀ x dx,H x=none->H dx=none->dx≠x->sp (.ref x::(vs++dvs)) (upd (upd H dx (.own x)) x (.ins C dx [])) (λ v H2=>v = .non/\Q (.ref x) H2) E) :
 J9j (model X.prog X.w) X.A (call (.ref C) us) (EP X pins σ Q) X.xe s:=by
 have hq:=h (s.heap.objs.size+1) s.heap.objs.size (I.hok.fresh (J54 _)) (I.hok.fresh (Qm _)) (Q5 (J3x _))
 have I2:=Inv.made (C:=C) I
 have r2:J9 (V.ref (s.heap.objs.size+1)::(vs++dvs)) (Q4 (s.heap.objs.size+1)::(us++ds)):=.cons rfl (r.append hd)
 have hl:(Q4 (s.heap.objs.size+1)::us++ds).length=ps.length:=by
  have e:=r2.length
  rw [F.len _ _ _ _ hq] at e
  exact e.symm
 refine wpAny_call (Jsb (f:=f) I.kIn M.makes M.init (beq_iff_eq.mp M.fn) (codeAny_mono (F.run _ X.stack _ _ ⟨Q4 (s.heap.objs.size+1)::us,[]⟩ (Q4 (s.heap.objs.size+1)::(us++ds)) _ _ E (hr.make C us [])
  (I2.env0.make C us []) (hb _ (Q4 (s.heap.objs.size+1)::us) I2.kIn hl) r2 hq) λ r s' hq'=>?_))
 cases r with
 | error e=>exact hx pins σ _ _ e s' I2 hq'
 | ok fl=>
  cases fl with
  | ret u=>
   obtain ⟨v,H',I3,rv,ev,q3⟩:=I2.after hq'
   subst ev
   exact ⟨rv,⟨V.ref (s.heap.objs.size+1),H',I3,rfl,q3⟩⟩
  | next=>exact Ua hq'
  | brk=>exact Ua hq'
  | cont=>exact Ua hq'
theorem Jvi (M:Mk X.K C f) (F:FnOk X.prog X.w X.K X.mg X.base CX k f fd ps sp) (hr:Room (k+1) X.A) (hg:Gl X x) (hm:X.mg x=some (.ref C)) (hb:Bn X.K fd ps ds) (hd:J9 dvs ds) (hx:Jew CX X E)
 (ha:PA X (e::es) t) (hdb:(x==("__debug__":Str))=false:=by decide) (he:starEach (e::es) X.env=(false,eval e X.env)::starEach es X.env:=by rfl) (hpl:(backTo pos (starEach es X.env)).any (·.1)=false:=by rfl) :
 PE X (.Call (.Name x p) (e::es) [] pos) (Jxd C sp dvs E t):=by
 intro pins s σ H Q I h
 refine J94 (Jo1 I hg hm ?_ hdb)
 refine J53 (h₀:=X.base) I.ok.mod.kin M.kp (thn (ha pos pins s σ H _ I h) λ us s1 ⟨vs,H1,I1,r,q⟩=>⟨I1.kIn,?_⟩) he hpl
 exact Jsd M F hr hb hd hx I1 r q
end
section
variable {X:Cx}{CX:CXT}{k:Nat}{f C:Addr}{fd:J9s}{ps ks:List Str}{sp:Sp}{E:XK}{x m:Str}{p pos apos kpos:Pos}{e o:Expr}{es:List Expr}{kws:List J92}{te ta:TE}{t tk:TA}{nm:Option Str}
variable {g:List J9g->List J9g->List J9g}{gV:List V->List V->List V}
end
structure FnScope (N P:List Str) (sc:J9o):Prop where
 kind:sc.kind = .function
 co:sc.isCoroutine=false
 gen:sc.isGenerator=false
 nd:N.Nodup
 pre:N.take P.length=P
 par:∀ x∈P,sc.names.lookup x=some .local \/ sc.names.lookup x=some .cell
 nofree:∀ y∈sc.names,y.2≠.free
theorem Ji1 {kindOf:Str->Option J9q}{x:Str}:∀ {binds:List (Str×J9g)}{m:Str->Option J9g},(∀ v,(x,v)∉binds)->bindL kindOf binds m x=m x
 | [],_,_=>rfl
 | (n,v)::r,m,h=>by
  unfold bindL
  rw [Ji1 λ w hw=>h w (Qj _ hw)]
  split
  . have:x≠n:=by rintro rfl;exact h v Qi
    simp [this]
  . rfl
theorem Ji2 {kindOf:Str->Option J9q}{x:Str}:∀ {binds:List (Str×J9g)}{m:Str->Option J9g},(∀ v,(x,v)∉binds)->bindC kindOf binds m x=m x
 | [],_,_=>rfl
 | (n,v)::r,m,h=>by
  unfold bindC
  rw [Ji2 λ w hw=>h w (Qj _ hw)]
  split
  . rfl
  . have:x≠n:=by rintro rfl;exact h v Qi
    simp [this]
theorem Ji3 {kindOf:Str->Option J9q}{x:Str}{v:J9g}:∀ {P:List Str}{vs:List J9g}{i:Nat}{m:Str->Option J9g},P.Nodup->P[i]? = some x->vs[i]? = some v->kindOf x=some .local ->
 bindL kindOf (P.zip vs) m x=some v
 | [],_,_,_,_,h,_,_=>by simp at h
 | _::_,[],_,_,_,_,h,_=>by simp at h
 | p::P,w::vs,0,m,nd,h1,h2,hk=>by
  simp at h1 h2;subst h1;subst h2
  show bindL kindOf ((p,w)::P.zip vs) m p=_
  unfold bindL
  rw [Ji1 λ v hv=>(Xq.mp nd).1 (U9 hv).1,if_pos hk]
  simp
 | p::P,w::vs,i+1,m,nd,h1,h2,hk=>by
  show bindL kindOf ((p,w)::P.zip vs) m x=_
  unfold bindL
  exact Ji3 (i:=i) (Xq.mp nd).2 (by simpa using h1) (by simpa using h2) hk
theorem Ji4 {kindOf:Str->Option J9q}{x:Str}{v:J9g}:∀ {P:List Str}{vs:List J9g}{i:Nat}{m:Str->Option J9g},P.Nodup->P[i]? = some x->vs[i]? = some v->kindOf x≠some .local ->
 bindC kindOf (P.zip vs) m x=some v
 | [],_,_,_,_,h,_,_=>by simp at h
 | _::_,[],_,_,_,_,h,_=>by simp at h
 | p::P,w::vs,0,m,nd,h1,h2,hk=>by
  simp at h1 h2;subst h1;subst h2
  show bindC kindOf ((p,w)::P.zip vs) m p=_
  unfold bindC
  rw [Ji2 λ v hv=>(Xq.mp nd).1 (U9 hv).1,if_neg hk]
  simp
 | p::P,w::vs,i+1,m,nd,h1,h2,hk=>by
  show bindC kindOf ((p,w)::P.zip vs) m x=_
  unfold bindC
  exact Ji4 (i:=i) (Xq.mp nd).2 (by simpa using h1) (by simpa using h2) hk
noncomputable def start (N:List Str) (vs:List V):St:=vs.map some++Qw (N.length-vs.length) none
noncomputable def Jnu (CX:CXT) (P:J9l) (w:J9k) (K:Qc) (mg:Str->Option J9g) (base:Heap) (N:List Str) (qual:Str) (scope:J9o) (f:Addr) (cd:J9g) (A:J9m) (outer:List Env) (s:J9i) (H:Hp) (E:XK):Cx where
 prog:=P
 w:=w
 K:=K
 mg:=mg
 base:=base
 A:=A.deeper (envOfC qual scope s.heap.objs.size f cd)
 N:=N
 s₀:=s
 H₀:=H
 env:=envOfC qual scope s.heap.objs.size f cd
 outer:=outer
 stack:=envOfC qual scope s.heap.objs.size f cd::outer
 ex:=[]
 calm:=true
 fn:=λ _=>true
 pn:=[]
 xe:=λ e s'=>J9j (model P w) (A.deeper (envOfC qual scope s.heap.objs.size f cd)) (leaving (envOfC qual scope s.heap.objs.size f cd) e) (λ _ s''=>CX outer H s E e s'') (λ e' s''=>CX outer H s E e' s'') s'
theorem Jln {sc:J9o}{n:Nat}{x:Str}(h:sc.names.lookup x=some .cell):∃ c,(cellsFrom n sc.names []).lookup x=some c:=by
 have q:=J7n sc.names n [] (.inl h)
 exact Option.isSome_iff_exists.mp q
theorem Jqn {CX:CXT}{P:J9l}{w:J9k}{K:Qc}{mg:Str->Option J9g}{base:Heap}{N ps:List Str}{qual:Str}{scope:J9o}{f:Addr}{cd:J9g}{A:J9m}{outer:List Env}{s s1:J9i}{H:Hp}{E:XK}{us:List J9g}{vs:List V}
 (S:FnScope N ps scope) (hd:A.handled=none) (e0:Env0 P w K mg base A outer s H) (hl:vs.length=ps.length) (r:J9 vs us)
 (x:InCallC s s.heap.objs.size (bindL (envOfC qual scope s.heap.objs.size f cd).kindOf (ps.zip us) λ _=>none) (cellsFrom (s.heap.objs.size+1) scope.names []) (bindC (envOfC qual scope s.heap.objs.size f cd).kindOf (ps.zip us) λ _=>none) s1) :
 Inv (Jnu CX P w K mg base N qual scope f cd A outer s H E) [] (start N vs) H s1:=by
 have hpl:ps.length<=N.length:=by have:=congrArg J55 S.pre;rw [J4m] at this;omega
 obtain ⟨h1,tk,rfl,hk⟩:=x.done
 have noA:∀ b:Addr,b∉(Jnu CX P w K mg base N qual scope f cd A outer s H E).ex:=λ b z=>absurd (show b∈([]:List Addr) from z) (by simp)
 refine ⟨⟨e0.mod,S.kind,rfl,rfl,Qm _,λ y z c h1 h2=>?_,λ y hy=>?_,λ y c _ h=>?_,λ _=>hd,Around.frames_deeper e0.frames,.inr ⟨rfl,rfl⟩,λ b z=>absurd z (noA b),e0.bs,e0.bsz,λ b _ _=>noA b,λ b z=>absurd z (noA b),e0.funs,e0.frf⟩,
  rfl,e0.bare,Un.kept hk,⟨_,x.toInCall.ns,λ i y v h1 h2 h3=>?_⟩,λ y c h=>⟨_,x.cell y c h⟩,e0.hok.fresh (Qm _),λ y c h=>?_,λ p hp=>absurd (show p∈([]:List (Addr×Obj)) from hp) (by simp),e0.hok.kept hk,?_⟩
 . exact name_of_addr x.apart (Xr h1) (Xr h2)
 . have hy:scope.names.lookup y=some .cell\/scope.names.lookup y=some .free:=hy
   rcases hy with hy | hy
   . exact Jln hy
   . exact absurd rfl (S.nofree _ (Xr hy))
 . exact Uy (x.above y c (Xr h))
 . have hi:i<vs.length:=by
    unfold start at h2
    by_cases hi:i<vs.length
    . exact hi
    . rw [U2 (by simpa using hi)] at h2
      rw [J21] at h2
      split at h2<;>cases h2
   have ha:vs[i]? = some v:=by
    unfold start at h2
    rw [Uo (by simpa using hi),Qh] at h2
    cases e:vs[i]? with
    | none=>rw [e] at h2;cases h2
    | some a=>rw [e] at h2;cases h2;rfl
   obtain ⟨u,hu,rv⟩:=r.get ha
   have hp:ps[i]? = some y:=by
    rw [<- S.pre,List.getElem?_take_of_lt (by omega)];exact h1
   have ndP:ps.Nodup:=by rw [<- S.pre];exact S.nd.sublist (List.take_sublist _ _)
   refine ⟨u,rv,?_⟩
   rcases S.par y (Xg hp) with k | k
   . exact .inl ⟨k,Ji3 ndP hp hu k⟩
   . obtain ⟨c,e⟩:=Jln (n:=s.heap.objs.size+1) k
     refine .inr ⟨.inl k,c,e,?_⟩
     have q:=x.cell y c e
     rw [Ji4 ndP hp hu (by show scope.names.lookup y≠_;rw [k];decide)] at q
     exact q
 . exact e0.hok.fresh (Uy (x.above y c (Xr h)))
 . unfold start
   show _=N.length
   rw [Q7,Qb,Uc]
   omega
theorem Jxe {CX:CXT}{P:J9l}{w:J9k}{K:Qc}{mg:Str->Option J9g}{base:Heap}{k:Nat}{f:Addr}{name qual:Str}{params:Arguments}{body:List Stmt}{scope:J9o}{dV kV doc pm cdv ct oc:J9g}{an od:Option Addr}
 {osl:Array (Option J9g)} {N ps:List Str} {sp:Sp} (lk:K.lookup f=some ⟨oc,od,.func (X0 name qual params body scope dV kV doc pm an cdv ct),osl⟩) (hcd:J22 K cdv qual=true) (S:FnScope N ps scope)
 (len:∀ vs H Q E,sp vs H Q E->vs.length=ps.length)
 (hbody:∀ (A:J9m) (outer:List Env) (s:J9i) (H:Hp) (vs:List V) (Q:VK) (E:XK),Room k (A.deeper (envOfC qual scope s.heap.objs.size f cdv))->sp vs H Q E ->
  ∃ t,PSs (Jnu CX P w K mg base N qual scope f cdv A outer s H E) body t/\t { nx:=λ _ H'=>Q .non H',rt:=Q } (start N vs) H) :
 FnOk P w K mg base CX (k+1) f (X0 name qual params body scope dV kV doc pm an cdv ct) ps sp:=by
 refine ⟨len,λ A outer s H args us vs Q E hr e0 hb r hsp=>?_⟩
 have hl:=len _ _ _ _ hsp
 have KX:K.In s.heap:=e0.mod.kin.keeps λ b o e=>(e0.bs b o e).1
 have lim:s.heap.NoLimit:=e0.mod.nolimit.keeps λ b o e=>(e0.bs b o e).1
 have hkind:∀ y∈ps.zip us,scope.names.lookup y.1=some .local \/ (scope.names.lookup y.1=some .cell/\((cellsFrom (s.heap.objs.size+1) scope.names []).lookup y.1).isSome=true):=λ ⟨n,v⟩ hy=>by
  rcases S.par n (U9 hy).1 with q | q
  . exact .inl q
  . exact .inr ⟨q,J7n _ _ _ (.inl q)⟩
 refine codeAny_call_function hr.depth (KX _ _ lk) rfl S.co S.gen rfl (PySem.W.codeRec_of KX hcd) (hb _ _ _ _ ?_)
 refine wpAny_newFunctionEnv_cells S.kind hkind λ env he s1 x=>?_
 subst he
 refine ⟨lim.keeps x.toInCall.keep,codeAny_func ?_⟩
 obtain ⟨t,ht,hq⟩:=hbody A outer s H vs Q E (hr.deeper _) hsp
 have I:Inv (Jnu CX P w K mg base N qual scope f cdv A outer s H E) [] (start N vs) H s1:=Jqn S hr.hd e0 hl r x
 refine wpAny_mono (ht [] s1 (start N vs) H _ I hq) (λ fl s' hs=>?_) λ e s' hs=>hs
 have fin:∀ {σ':St} {H':Hp} {v:V} {u:J9g},Inv (Jnu CX P w K mg base N qual scope f cdv A outer s H E) [] σ' H' s'->Yo v u->Q v H'->CE outer P w H s Q u s':=
  λ {σ' H' v u} J rv q=>⟨v,H',J.os,J.bare,J.base,J.hok,rv,q⟩
 cases fl with
 | ret u=>
  obtain ⟨v,σ',H',J,rv,q⟩:=hs
  exact fin J rv q
 | next=>
  obtain ⟨σ',H',J,q⟩:=hs
  exact fin (v:=V.non) (u:=Ur) J rfl q
 | brk=>
  obtain ⟨_,_,_,q⟩:=hs
  exact Ua q
 | cont=>
  obtain ⟨_,_,_,q⟩:=hs
  exact Ua q
section
variable {X:Cx}{x:Str}{p pos:Pos}{e:Expr}{es:List Expr}{t:TA}{id T:String}{r:List V->Hp->VK->Prop}
def tCB (r:List V->Hp->VK->Prop) (t:TA):TE:=λ σ H Q=>t σ H λ vs H1=>r vs H1 Q
theorem Jw (hc:Vt X (.builtin id) r) (hg:Gl X x) (hm:X.mg x=none) (hv:J97 x=some (.builtin id)) (ha:PA X (e::es) t) (hn:x≠"__name__":=by decide) (hdb:(x==("__debug__":Str))=false:=by decide)
 (he:starEach (e::es) X.env=(false,eval e X.env)::starEach es X.env:=by rfl) (hpl:(backTo pos (starEach es X.env)).any (·.1)=false:=by rfl):PE X (.Call (.Name x p) (e::es) [] pos) (tCB r t):=by
 intro pins s σ H Q I h
 refine J94 (Bs I hg hm hv ?_ hn hdb)
 exact PyProof.Rows.callWith_builtin1 (thn (ha pos pins s σ H _ I h) λ us s1 ⟨vs,H1,I1,r1,q1⟩=>hc pins s1 σ H1 vs us Q I1 r1 q1) he hpl
theorem Ya (hc:Vt X (.type T) r) (hg:Gl X x) (hm:X.mg x=none) (hv:J97 x=some (.type T)) (ha:PA X (e::es) t) (hn:x≠"__name__":=by decide) (hdb:(x==("__debug__":Str))=false:=by decide)
 (he:starEach (e::es) X.env=(false,eval e X.env)::starEach es X.env:=by rfl) (hpl:(backTo pos (starEach es X.env)).any (·.1)=false:=by rfl):PE X (.Call (.Name x p) (e::es) [] pos) (tCB r t):=by
 intro pins s σ H Q I h
 refine J94 (Bs I hg hm hv ?_ hn hdb)
 exact Uz (thn (ha pos pins s σ H _ I h) λ us s1 ⟨vs,H1,I1,r1,q1⟩=>hc pins s1 σ H1 vs us Q I1 r1 q1) he hpl
end
end L2
namespace HT
open PySem PyProof.Rows
section
open PySem.SeqAt
open PySem.AutoSeq1 (wpAny_loadPart')
open PySem.MeetsSeq PySem.MeetsSeq2 PySem.MeetsSeq3
end
section
variable {prog:J9l}{w:J9k}{A:J9m}{E:J9g->J9i->Prop}{s:J9i}
noncomputable def sIx (n d:Nat):Option Int->Nat
 | none=>d
 | some v=>if v<0 then (v+(n:Int)).toNat else min v.toNat n
theorem sIx_none (n d:Nat):sIx n d none=d:=rfl
theorem sIx_nat (n d k:Nat):sIx n d (some (k:Int))=min k n:=by
 show (if (k:Int)<0 then ((k:Int)+(n:Int)).toNat else min (k:Int).toNat n)=min k n
 rw [if_neg (by omega),Q0]
end
end HT
namespace L2
abbrev TO:=St->Hp->(Option Int->Hp->Prop)->Prop
def PO (X:Cx) (e:Option Expr) (t:TO):Prop:=
 ∀ (pins:List (Addr×Obj)) (s:J9i) (σ:St) (H:Hp) (Q:Option Int->Hp->Prop),Inv X pins σ H s->t σ H Q ->
  J9j (model X.prog X.w) X.A (evalPart e X.env) (λ u s'=>∃ o H',Inv X pins σ H' s'/\IsPart u o/\Q o H') X.xe s
def Jo7:TO:=λ _ H Q=>Q none H
def Jxf (t:TE):TO:=λ σ H Q=>t σ H λ x H1=>∃ i,x = .int i/\Q (some i) H1
theorem Jc4 {ns:List Int}:∀ {us:List J9g},J9 (ns.map V.int) us->Yae us ns:=by
 induction ns with
 | nil=>intro us r;rw [J28] at r;cases r;exact .nil
 | cons n ns ih=>
  intro us r
  rw [Qz] at r
  cases r with
  | cons r1 r2=>
   obtain ⟨t,e⟩:=r1
   subst e
   exact .cons n t (ih r2)
section
variable {X:Cx}{e:Expr}{te:TE}{lo hi:Option Expr}{tl th:TO}{pos p2:Pos}
theorem Jcg:PO X none Jo7:=by
 intro pins s σ H Q I h
 rw [evalPart_none]
 exact wpAny_pure ⟨none,H,I,.none,h⟩
theorem Jch (h:PE X e te):PO X (some e) (Jxf te):=by
 intro pins s σ H Q I hw
 rw [evalPart_some]
 refine thn (h pins s σ H _ I hw) λ u s1 ⟨x,H1,I1,r1,q1⟩=>?_
 obtain ⟨i,rfl,q⟩:=q1
 obtain ⟨t,rfl⟩:=r1
 exact ⟨some i,H1,I1,.int i t,q⟩
def SlR (X:Cx) (r:V->Option Int->Option Int->Hp->VK->Prop):Prop:=
 ∀ (pins:List (Addr×Obj)) (s:J9i) (σ:St) (H:Hp) (x:V) (v vl vu:J9g) (lo hi:Option Int) (sl:Addr) (Q:VK),Inv X pins σ H s->Yo x v->s.heap.IsSliceOf sl vl vu .none->IsPart vl lo->IsPart vu hi->r x lo hi H Q ->
  ∃ T id,typeLookup (.type T) "__getitem__" = pure (some (.builtin id))/\s.TypeIs v T/\J9j (model X.prog X.w) X.A (getItem v (.ref sl)) (EP X pins σ Q) X.xe s
def tSl (r:V->Option Int->Option Int->Hp->VK->Prop) (te:TE) (tl th:TO):TE:=λ σ H Q=>te σ H λ x H1=>tl σ H1 λ l H2=>th σ H2 λ u H3=>r x l u H3 Q
theorem Jat {r:V->Option Int->Option Int->Hp->VK->Prop}(hr:SlR X r) (he:PE X e te) (hl:PO X lo tl) (hu:PO X hi th):PE X (.Subscript e (.Slice lo hi none p2) pos) (tSl r te tl th):=by
 intro pins s σ H Q I h
 refine Subscript_ (thn (he pins s σ H _ I h) λ v s1 ⟨x,H1,I1,r1,q1⟩=>?_)
 refine wpAny_Slice (thn (hl pins s1 σ H1 _ I1 q1) λ vl s2 ⟨l,H2,I2,pl,q2⟩=>thn (hu pins s2 σ H2 _ I2 q2) λ vu s3 ⟨u,H3,I3,pu,q3⟩=>?_)
 rw [evalPart_none]
 refine wpAny_pure ?_
 have I4:Inv X pins σ H3 { s3 with heap:=s3.heap.push { cls:=.type "slice",data:=.fields #[vl,vu,.none] } }:=I3.kept (t':=s3.toks) λ b ob q=>Qu _ q
 obtain ⟨T,id,hT,ht,hg⟩:=hr pins { s3 with heap:=s3.heap.push { cls:=.type "slice",data:=.fields #[vl,vu,.none] } } σ H3 x v vl vu l u s3.heap.objs.size Q I4 r1 (J9b ..) pl pu q3
 show J9j (model X.prog X.w) X.A (subscriptTail e (.Slice lo hi none p2) v (.ref s3.heap.objs.size)) (EP X pins σ Q) X.xe { s3 with heap:=s3.heap.push { cls:=.type "slice",data:=.fields #[vl,vu,.none] } }
 exact tail_any (ops:=[.ref s3.heap.objs.size,v]) ht hT hg (by with_unfolding_all rfl)
noncomputable def Jlo (xs:List V) (lo hi:Option Int):List V:=(xs.drop (HT.sIx xs.length 0 lo)).take (HT.sIx xs.length xs.length hi-HT.sIx xs.length 0 lo)
theorem Jfj (xs:List V) (lo hi:Option Int):(Jlo xs lo hi).length<=xs.length:=by
 unfold Jlo
 rw [J4m,J3z]
 omega
end
noncomputable def ixN (n:Nat) (i:Int):Option Nat:=if 0<=i then (if i<n then some i.toNat else none) else if -(n:Int)<=i then some (i+n).toNat else none
noncomputable def atI {α:Type}(xs:List α) (i:Int):Option α:=(ixN xs.length i).bind λ j=>xs[j]?
theorem Jo8 {n:Nat}{i:Int}{j:Nat}(h:ixN n i=some j):seqIndex? i n=some j/\j<n/\-(n:Int)<=i/\i<n:=by
 unfold ixN at h
 by_cases h0:0<=i
 . rw [if_pos h0] at h
   by_cases h1:i<n
   . rw [if_pos h1] at h
     have e:i.toNat=j:=Xj h
     exact ⟨by rw [seqIndex_of h0 h1,e],by omega,by omega,h1⟩
   . rw [if_neg h1] at h;cases h
 . rw [if_neg h0] at h
   by_cases h1:-(n:Int)<=i
   . rw [if_pos h1] at h
     have e:(i+n).toNat=j:=Xj h
     exact ⟨by rw [Yap (by omega) h1,e],by omega,h1,by omega⟩
   . rw [if_neg h1] at h;cases h
theorem Jo9 {α:Type}{xs:List α}{i:Int}{v:α}(h:atI xs i=some v):∃ j,seqIndex? i xs.length=some j/\xs[j]? = some v/\j<xs.length/\-(xs.length:Int)<=i/\i<xs.length:=by
 unfold atI at h
 cases e:ixN xs.length i with
 | none=>rw [e] at h;cases h
 | some j=>
  rw [e] at h
  obtain ⟨h1,h2,h3,h4⟩:=Jo8 e
  exact ⟨j,h1,h,h2,h3,h4⟩
theorem Jjx {α:Type}{xs:List α}{j:Nat}{v:α}(h:xs[j]? = some v):atI xs (j:Int)=some v:=by
 have hj:j<xs.length:=(Qp.mp h).1
 have e:ixN xs.length (j:Int)=some j:=by
  unfold ixN
  rw [if_pos (by omega),if_pos (by omega)];simp
 unfold atI;rw [e];exact h
def Jvj (b:Expr):Prop:=∀ o i,subscripted b false o i=operate [o,i] (getItem o i)
def IxR (X:Cx) (r:R2):Prop:=
 ∀ (value slice:Expr) (pins:List (Addr×Obj)) (s:J9i) (σ:St) (H:Hp) (x y:V) (v u:J9g) (Q:VK),Inv X pins σ H s->Yo x v->Yo y u->r x y H Q ->
  subscripted slice false v u=operate [v,u] (getItem v u)->J9j (model X.prog X.w) X.A (subscriptTail value slice v u) (EP X pins σ Q) X.xe s
def MtR (X:Cx) (id:String) (r:V->List V->Hp->VK->Prop):Prop:=
 ∀ (pins:List (Addr×Obj)) (s:J9i) (σ:St) (H:Hp) (x:V) (xs:List V) (v:J9g) (us:List J9g) (Q:VK),Inv X pins σ H s->Yo x v->J9 xs us->r x xs H Q ->
  J9j (model X.prog X.w) X.A (call (.builtin id) (v::us)) (EP X pins σ Q) X.xe s
section
variable {X:Cx}{a b:Expr}{ta tb:TE}{pos:Pos}
theorem Jo {r:R2}(hr:IxR X r) (ha:PE X a ta) (hb:PE X b tb) (hs:Jvj b):PE X (.Subscript a b pos) (tOp r ta tb):=by
 intro pins s σ H Q I h
 exact Subscript_ (Jym ha hb I h λ v u s2 x y H2 I2 rx ry q=>hr a b pins s2 σ H2 x y v u Q I2 rx ry q (hs _ _))
def Jlp (K:Qc):R2:=λ x y H Q=>∃ p xs i v,x = .ref p/\y = .int i/\SqL K H p xs/\atI xs i=some v/\Q v H
def Jyx (K:Qc):R2:=λ x y H Q=>∃ p xs i v,x = .ref p/\y = .int i/\SqT K H p xs/\atI xs i=some v/\Q v H
theorem Js:IxR X (Jlp X.K):=by
 intro value slice pins s σ H x y v u Q I rx ry h hs
 obtain ⟨p,xs,i,z,rfl,rfl,hq,he,q⟩:=h
 cases rx
 obtain ⟨t,rfl⟩:=ry
 obtain ⟨its,r,pl,hz⟩:=I.list hq
 obtain ⟨j,h1,h2,h3,h4,h5⟩:=Jo9 he
 obtain ⟨w,ew,rw'⟩:=r.get h2
 have hl:=r.length
 have hn:=Jet
 have fin:EP X pins σ Q w s:=⟨z,H,I,rw',q⟩
 by_cases h0:0<=i
 . have hj:i.toNat=j:=by
    rw [seqIndex_of h0 h5] at h1
    exact Xj h1
   exact item_listR pl.isList h0 (by omega) (by rw [hj];simpa using ew) fin hs
 . have hj:(i+(its.toArray.size:Int)).toNat=j:=by
    rw [Yap (by omega) h4] at h1
    rw [Xa,<- hl]
    exact Xj h1
   exact Yat (x:=w) pl.isList.typeIs slot_list_getitem.lookup
    (wpAny_getItem_list_neg (Q:=λ r s'=>r=w/\EP X pins σ Q r s') pl.isList (by omega) (by rw [Xa]<;>omega) (by omega) (by rw [hj];simpa using ew) ⟨rfl,fin⟩) hs
theorem Ys:IxR X (Jyx X.K):=by
 intro value slice pins s σ H x y v u Q I rx ry h hs
 obtain ⟨p,xs,i,z,rfl,rfl,hq,he,q⟩:=h
 cases rx
 obtain ⟨t,rfl⟩:=ry
 obtain ⟨its,r,pl,hz⟩:=I.tuple hq
 obtain ⟨j,h1,h2,h3,h4,h5⟩:=Jo9 he
 obtain ⟨w,ew,rw'⟩:=r.get h2
 have hl:=r.length
 have hn:=Jet
 have fin:EP X pins σ Q w s:=⟨z,H,I,rw',q⟩
 exact Yat (x:=w) pl.typeIs slot_tuple_getitem.lookup
  (getItem_tuple (j:=j) (Q:=λ r s'=>r=w/\EP X pins σ Q r s') pl (by omega) (by omega) (by rw [Xa,<- hl];exact h1) (by simpa using ew) ⟨rfl,fin⟩) hs
theorem Jnv (its:List J9g) (n j:Nat) (u:J9g):J30 (·.setIfInBounds j u) { cls:=.type "list",data:=.seq its.toArray n } = { cls:=.type "list",data:=.seq (its.set j u).toArray n }:=by
 simp [J30]
theorem Inv.lst {pins:List (Addr×Obj)}{σ:St}{H:Hp}{s:J9i}{p:Addr}{xs:List V}(I:Inv X pins σ H s) (h:H p=some (.lst xs)) :
 ∃ (its:List J9g) (n:Nat),J9 xs its/\s.heap.get? p=some { cls:=.type "list",data:=.seq its.toArray n }/\xs.length<=sizeLine:=by
 obtain ⟨z,its,n,r,e⟩:=I.hok p _ h
 exact ⟨its,n,r,e,z⟩
theorem Inv.lstUpd {pins:List (Addr×Obj)}{σ:St}{H:Hp}{s:J9i}{p:Addr}{xs ys:List V}{its its':List J9g}{n n':Nat}{f:Obj->Obj}(I:Inv X pins σ H s) (h:H p=some (.lst xs))
 (ho:s.heap.get? p=some { cls:=.type "list",data:=.seq its.toArray n }) (hf:f { cls:=.type "list",data:=.seq its.toArray n } = { cls:=.type "list",data:=.seq its'.toArray n' }) (r:J9 ys its') (hz:ys.length<=sizeLine) (t:Nat) :
 Inv X pins σ (upd H p (.lst ys)) { s with heap:=s.heap.update p f,toks:=t }:=by
 have e:(s.heap.update p f).get? p=some { cls:=.type "list",data:=.seq its'.toArray n' }:=by
  rw [J4n f ho (by rw [hf]<;>rfl),hf]
 refine I.write (x:=p) (e:=p) (by rw [h];trivial) (.inl rfl) (λ b u hb q=>(U3 _ _ (Qk hb)).trans q) ⟨_,e⟩ ?_
 exact ⟨hz,its',n',r,e⟩
def Jfk:V->V->V->Hp->(Hp->Prop)->Prop:=λ o i v H Q=>∃ p xs k j,o = .ref p/\i = .int k/\H p=some (.lst xs)/\ixN xs.length k=some j/\Q (upd H p (.lst (xs.set j v)))
theorem Yr:Jyi X Jfk:=by
 intro pins s σ H o i v ov iv u Q I ro ri rv h
 obtain ⟨p,xs,k,j,rfl,rfl,hp,hj,q⟩:=h
 cases ro
 obtain ⟨t,rfl⟩:=ri
 obtain ⟨its,n,r,ho,hz⟩:=I.lst hp
 obtain ⟨h1,h2,h3,h4⟩:=Jo8 hj
 have hl:=r.length
 have hn:=Jet
 have I':Inv X pins σ (upd H p (.lst (xs.set j v))) { s with heap:=s.heap.update p (J30 (·.setIfInBounds j u)) }:=
  I.lstUpd hp ho (Jnv its n j u) (r.set rv j) (by rw [Qr];exact hz) s.toks
 by_cases h0:0<=k
 . have hk:k.toNat=j:=by
    rw [seqIndex_of h0 h4] at h1
    exact Xj h1
   exact PySem.W.ki_setAt ho h0 (by omega) (by rw [Xa,<- hl];exact h4) (by rw [hk];exact ⟨_,I',q⟩)
 . have hk:(k+(its.toArray.size:Int)).toNat=j:=by
    rw [Yap (by omega) h3] at h1
    rw [Xa,<- hl]
    exact Xj h1
   exact PySem.W.ki_setBack ho (by omega) (by rw [Xa,<- hl];exact h3) (by omega) (by rw [hk];exact ⟨_,I',q⟩)
theorem Jjy (lo hi:Option Int) (n:Nat):(sliceBounds lo hi none n).1=((HT.sIx n 0 lo:Nat):Int)/\(sliceBounds lo hi none n).2.1=((HT.sIx n n hi:Nat):Int)/\(sliceBounds lo hi none n).2.2=1:=by
 refine ⟨?_,?_,rfl⟩
 . cases lo with
   | none=>simp [sliceBounds,HT.sIx]
   | some i=>
    simp only [sliceBounds,HT.sIx,Option.getD_none,show (1:Int)>0 by decide,if_true]
    by_cases h:i<0
    . simp only [h,if_true]<;>omega
    . simp only [h,if_false]<;>omega
 . cases hi with
   | none=>simp [sliceBounds,HT.sIx]
   | some i=>
    simp only [sliceBounds,HT.sIx,Option.getD_none,show (1:Int)>0 by decide,if_true]
    by_cases h:i<0
    . simp only [h,if_true]<;>omega
    . simp only [h,if_false]<;>omega
theorem Jii (its:List J9g) (lo hi:Option Int):slicePick its.toArray lo hi none=((its.drop (HT.sIx its.length 0 lo)).take (HT.sIx its.length its.length hi-HT.sIx its.length 0 lo)).toArray:=by
 obtain ⟨h1,h2,h3⟩:=Jjy lo hi its.toArray.size
 unfold slicePick
 rw [h1,h2,h3]
 simp only [sliceRange_one,pick_run,Xa]<;>rfl
def J0o (K:Qc):V->Option Int->Option Int->Hp->VK->Prop:=λ x lo hi H Q=>∃ a xs,x = .ref a/\SqL K H a xs/\∀ p,H p=none->Q (.ref p) (upd H p (.lst (Jlo xs lo hi)))
theorem Jci:SlR X (J0o X.K):=by
 intro pins s σ H x v vl vu lo hi sl Q I rx hs pl pu h
 obtain ⟨a,xs,rfl,hx,q⟩:=h
 cases rx
 obtain ⟨its,r,ht,hz⟩:=I.list hx
 have hlen:=r.length
 refine ⟨"list",_,slot_list_getitem.lookup,ht.isList.typeIs,?_⟩
 refine wpAny_getItem_list_slice ht.isList hs pl pu .none (by simp) ?_ (by rw [Xa]<;>omega)
 rw [Jii,<- hlen]
 refine ⟨.ref s.heap.objs.size,_,I.laid (t':=s.toks) (o:=.lst (Jlo xs lo hi)) (λ b ob q=>Qu _ q) (Qm _) ?_,rfl,q _ (I.hok.fresh (Qm _))⟩
 exact ⟨Xi (Jfj xs lo hi) hz,_,0,(r.drop (HT.sIx xs.length 0 lo)).take (HT.sIx xs.length xs.length hi-HT.sIx xs.length 0 lo),Q9 _ rfl⟩
noncomputable def Jcw:V->Bool
 | .non=>true
 | .bl _=>true
 | .int _=>true
 | .str _=>true
 | _=>false
noncomputable def eqV:V->V->Bool
 | .non,.non=>true
 | .bl a,.bl b=>a==b
 | .bl a,.int b=>(if a then 1 else 0)==b
 | .int a,.bl b=>a==(if b then 1 else 0)
 | .int a,.int b=>a==b
 | .str a,.str b=>a==b
 | _,_=>false
theorem Jyy {A:J9m}{s:J9i}{y x:V}{u v:J9g}(ry:Yo y u) (rx:Yo x v) (fy:Jcw y=true) (fx:Jcw x=true):SeqAt.EqAt A s u v (eqV y x):=by
 cases y with
 | non=>
  cases ry
  cases x with
  | non=>cases rx;exact SeqAt.EqAt.same _
  | bl b=>cases rx;exact SeqAt.EqAt.none_bool b
  | int b=>obtain ⟨t,rfl⟩:=rx;exact SeqAt.EqAt.none_int b t
  | str b=>obtain ⟨t,rfl⟩:=rx;exact SeqAt.EqAt.none_str b t
  | _=>exact absurd (show false=true from fx) Xe
 | bl a=>
  cases ry
  cases x with
  | non=>cases rx;exact SeqAt.EqAt.bool_none a
  | bl b=>cases rx;exact SeqAt.EqAt.bool_bool a b
  | int b=>obtain ⟨t,rfl⟩:=rx;exact SeqAt.EqAt.bool_int a b t
  | str b=>obtain ⟨t,rfl⟩:=rx;exact SeqAt.EqAt.bool_str a b t
  | _=>exact absurd (show false=true from fx) Xe
 | int a=>
  obtain ⟨t',rfl⟩:=ry
  cases x with
  | non=>cases rx;exact SeqAt.EqAt.int_none a t'
  | bl b=>cases rx;exact SeqAt.EqAt.int_bool a t' b
  | int b=>obtain ⟨t,rfl⟩:=rx;exact SeqAt.EqAt.int_int a t' b t
  | str b=>obtain ⟨t,rfl⟩:=rx;exact J7d a t' b t
  | _=>exact absurd (show false=true from fx) Xe
 | str a=>
  obtain ⟨t',rfl⟩:=ry
  cases x with
  | non=>cases rx;exact SeqAt.EqAt.str_none a t'
  | bl b=>cases rx;exact SeqAt.EqAt.str_bool a t' b
  | int b=>obtain ⟨t,rfl⟩:=rx;exact J7e a t' b t
  | str b=>obtain ⟨t,rfl⟩:=rx;exact SeqAt.EqAt.str_str a t' b t
  | _=>exact absurd (show false=true from fx) Xe
 | _=>exact absurd (show false=true from fy) Xe
noncomputable def eqU (x:V) (u:J9g):Bool:=match u with
 | .none=>eqV .non x
 | .bool b=>eqV (.bl b) x
 | .int i _=>eqV (.int i) x
 | .str z _=>eqV (.str z) x
 | _=>false
theorem Jse {x y:V}{u:J9g}(r:Yo y u) (f:Jcw y=true):eqU x u=eqV y x:=by
 cases y with
 | non=>cases r;rfl
 | bl b=>cases r;rfl
 | int i=>obtain ⟨t,rfl⟩:=r;rfl
 | str z=>obtain ⟨t,rfl⟩:=r;rfl
 | _=>exact absurd (show false=true from f) Xe
theorem Jjz {x:V}:∀ {xs:List V}{us:List J9g},J9 xs us->xs.all Jcw=true->us.any (eqU x)=xs.any λ y=>eqV y x
 | _,_,.nil,_=>rfl
 | y::xs,u::us,.cons r t,f=>by
  rw [J31,Xw] at f
  rw [J29,J29,Jse r f.1,Jjz t f.2]
theorem Jgl {A:J9m}{s:J9i}{x:V}{v:J9g}(rx:Yo x v) (fx:Jcw x=true):∀ {xs:List V}{us:List J9g},J9 xs us->xs.all Jcw=true->∀ u∈us,SeqAt.EqAt A s u v (eqU x u)
 | _,_,.nil,_=>λ u hu=>by cases hu
 | y::xs,u::us,.cons r t,f=>λ u' hu=>by
  rw [J31,Xw] at f
  rcases Qf.mp hu with rfl | hu
  . rw [Jse r f.1];exact Jyy r rx f.1 fx
  . exact Jgl rx fx t f.2 u' hu
noncomputable def inV (x:V) (xs:List V):Bool:=xs.any λ y=>eqV y x
def rIn (K:Qc) (neg:Bool):R2:=λ x y H Q=>∃ p xs,y = .ref p/\(SqL K H p xs\/SqT K H p xs)/\Jcw x=true/\xs.all Jcw=true/\Q (.bl (if neg then !inV x xs else inV x xs)) H
theorem Ji5:OpR X (compareOp .In) (rIn X.K false):=by
 intro pins s σ H x y v u Q I rx ry h
 obtain ⟨p,xs,rfl,hq,fx,fs,q⟩:=h
 cases ry
 rcases hq with hq | hq
 . obtain ⟨its,r,pl,hz⟩:=I.list hq
   refine SeqAt.in_listAt (eqU x) pl.isList (λ w hw=>Jgl rx fx r fs w (by simpa using hw)) ⟨.bl _,H,I,rfl,?_⟩
   rw [show its.toArray.any (eqU x)=its.any (eqU x) by simp,Jjz r fs]
   exact q
 . obtain ⟨its,r,pl,hz⟩:=I.tuple hq
   refine SeqAt.in_tupleAt (eqU x) pl (λ w hw=>Jgl rx fx r fs w (by simpa using hw)) ⟨.bl _,H,I,rfl,?_⟩
   rw [show its.toArray.any (eqU x)=its.any (eqU x) by simp,Jjz r fs]
   exact q
theorem Yh:Vt X (.builtin "len") (λ xs H Q=>∃ p ys,xs=[.ref p]/\(SqL X.K H p ys\/SqT X.K H p ys)/\Q (.int ys.length) H):=by
 intro pins s σ H xs us Q I r h
 obtain ⟨p,ys,rfl,hq,q⟩:=h
 obtain ⟨u,rfl,rx⟩:=Jac r
 cases rx
 have hn:=Jet
 rcases hq with hq | hq
 . obtain ⟨its,r',pl,hz⟩:=I.list hq
   have hlen:=r'.length
   exact Calls.call_len_list pl.isList (by simp only [Xa]<;>omega) ⟨.int ys.length,H,I.tok _,⟨s.toks+1,by rw [Xa,hlen]⟩,q⟩
 . obtain ⟨its,r',pl,hz⟩:=I.tuple hq
   have hlen:=r'.length
   exact len_tuple pl (by simp only [Xa]<;>omega) ⟨.int ys.length,H,I.tok _,⟨s.toks+1,by rw [Xa,hlen]⟩,q⟩
theorem Wx:Vt X (.type "list") (λ xs H Q=>∃ p ys,xs=[.ref p]/\(SqL X.K H p ys\/SqT X.K H p ys)/\∀ l,H l=none->Q (.ref l) (upd H l (.lst ys))):=by
 intro pins s σ H xs us Q I r h
 obtain ⟨p,ys,rfl,hq,q⟩:=h
 obtain ⟨u,rfl,rx⟩:=Jac r
 cases rx
 have fin:∀ (its:List J9g),J9 ys its->ys.length<=sizeLine->∀ (h':Heap) (c':Nat),(∀ b o',s.heap.get? b=some o'->h'.get? b=some o') ->
  h'.get? s.heap.objs.size=some { cls:=.type "list",dict:=none,data:=.seq its.toArray c',slots:=#[] }->EP X pins σ Q (.ref s.heap.objs.size) { s with heap:=h' }:=λ its r' hz h' c' kp e=>
  ⟨.ref s.heap.objs.size,_,I.laid (t':=s.toks) kp (Qm _) (show Y3 X.prog X.w _ h' _ (.lst ys) from ⟨hz,its,c',r',e⟩),rfl,q _ (I.hok.fresh (Qm _))⟩
 rcases hq with hq | hq
 . obtain ⟨its,r',pl,hz⟩:=I.list hq
   have hlen:=r'.length
   obtain ⟨o,ho,hc,n,hd⟩:=pl.isList
   exact call_list_seq p (.inl rfl) ho hc hd (λ h' c' kp e=>fin its r' hz h' c' kp e) (by simp only [Xa]<;>omega)
 . obtain ⟨its,r',pl,hz⟩:=I.tuple hq
   have hlen:=r'.length
   obtain ⟨o,ho,hc,n,hd⟩:=pl
   exact call_list_seq p (.inr rfl) ho hc hd (λ h' c' kp e=>fin its r' hz h' c' kp e) (by simp only [Xa]<;>omega)
theorem Yf:Vt X (.type "tuple") (λ xs H Q=>∃ p ys,xs=[.ref p]/\((SqL X.K H p ys/\∀ l,H l=none->Q (.ref l) (upd H l (.tup ys)))\/(SqT X.K H p ys/\Q (.ref p) H))):=by
 intro pins s σ H xs us Q I r h
 obtain ⟨p,ys,rfl,h⟩:=h
 obtain ⟨u,rfl,rx⟩:=Jac r
 cases rx
 rcases h with ⟨hq,q⟩ | ⟨hq,q⟩
 . obtain ⟨its,r',pl,hz⟩:=I.list hq
   have hlen:=r'.length
   refine call_tuple_list pl.isList (λ h' kp=>?_) (by simp only [Xa]<;>omega)
   have I1:Inv X pins σ H { s with heap:=h' }:=I.kept (t':=s.toks) kp
   have I2:Inv X pins σ (upd H h'.objs.size (.tup ys)) { s with heap:=h'.push { cls:=.type "tuple",data:=.seq its.toArray } }:=
    I1.laid (t':=s.toks) (λ b o e=>Qu _ e) (Qm _) (show Y3 X.prog X.w _ _ _ (.tup ys) from ⟨hz,its,r',IsTup.new _ _⟩)
   exact ⟨.ref h'.objs.size,_,I2,rfl,q _ (I1.hok.fresh (Qm _))⟩
 . obtain ⟨its,r',pl,hz⟩:=I.tuple hq
   exact call_tuple_same pl ⟨.ref p,H,I,rfl,q⟩
def tyV (K:Qc) (T:String) (x:V) (H:Hp):Prop:=match x with
 | .str _=>T = "str"
 | .int _=>T = "int"
 | .ref p=>(T = "list"/\∃ xs,SqL K H p xs)\/(T = "tuple"/\∃ o,K.lookup p=some o/\o.cls = .type "tuple"/\o.dict=none) \/
  (T = "dict"/\((∃ kvs,H p=some (.dK kvs))\/∃ kvs,H p=some (.dT kvs)))\/(T = "set"/\∃ S n,H p=some (.set S n))
 | _=>False
theorem Jyz {pins:List (Addr×Obj)}{σ:St}{H:Hp}{s:J9i}{T:String}{x:V}{v:J9g}(I:Inv X pins σ H s) (r:Yo x v) (ty:tyV X.K T x H) :
 s.TypeIs v T/\∀ a,v = .ref a->∃ ob,s.heap.get? a=some ob/\ob.dict=none:=by
 cases x with
 | str z=>
  obtain ⟨t,rfl⟩:=r
  cases (show T = "str" from ty)
  exact ⟨typeIs_str s z t,λ _ e=>nomatch e⟩
 | int i=>
  obtain ⟨t,rfl⟩:=r
  cases (show T = "int" from ty)
  exact ⟨typeIs_int s i t,λ _ e=>nomatch e⟩
 | ref p=>
  cases r
  rcases ty with ⟨rfl,xs,hq⟩ | ⟨rfl,o,hk,hc,hd⟩ | ⟨rfl,hk⟩ | ⟨rfl,S,n,hk⟩
  . obtain ⟨its,_,pl,_⟩:=I.list hq
    refine ⟨pl.isList.typeIs,λ a e=>?_⟩
    cases e
    obtain ⟨o,n,e,c,hd,_⟩:=pl
    exact ⟨o,e,hd⟩
  . refine ⟨⟨o,I.kIn p o hk,hc⟩,λ a e=>?_⟩
    cases e
    exact ⟨o,I.kIn _ o hk,hd⟩
  . have z:∃ o,s.heap.get? p=some o/\o.ExactDict:=by
     rcases hk with ⟨kvs,hk⟩ | ⟨kvs,hk⟩
     . obtain ⟨_,_,_,_,o,_,_,e,ex,_⟩:=I.hok p _ hk
       exact ⟨o,e,ex⟩
     . obtain ⟨_,_,_,_,o,_,_,e,ex,_⟩:=I.hok p _ hk
       exact ⟨o,e,ex⟩
    obtain ⟨o,e,ex⟩:=z
    refine ⟨⟨o,e,ex.1⟩,λ a e2=>?_⟩
    cases e2
    exact ⟨o,e,ex.2.1⟩
  . obtain ⟨o,_,_,_,e,ex,_⟩:=I.hok p _ hk
    refine ⟨⟨o,e,ex.1⟩,λ a e2=>?_⟩
    cases e2
    exact ⟨o,e,ex.2.1⟩
 | _=>exact Ua ty
def tBM (K:Qc) (T:String) (r:V->List V->Hp->VK->Prop) (to:TE) (t:TA):TE:=λ σ H Q=>to σ H λ x H1=>tyV K T x H1/\t σ H1 λ xs H2=>r x xs H2 Q
variable {o e:Expr}{es:List Expr}{to:TE}{t:TA}{name:Str}{apos cpos:Pos}{T id:String}{r:V->List V->Hp->VK->Prop}
theorem Ji6 (pa:PlainAttrs T) (slot:Slot T name id) (hty:typeOf (.builtin id)=pure (.type "method_descriptor")) (hm:MtR X id r) (ho:PE X o to) (ha:PA X (e::es) t)
 (hbase:Yab o name X.env (eval o X.env)=eval o X.env:=by rfl)
 (hfew:((backTo cpos (starEach (e::es) X.env)).all (λ x=>!x.1)&&(backToKw cpos (keywordEach [] X.env)).all (λ x=>x.1.isSome)
  && decide ((e::es).length+([]:List J92).length+(if ([]:List J92).isEmpty then 0 else 1)<30))=true:=by rfl)
 (hline:(apos.endLine==cpos.line)=true:=by rfl) (hs:starEach (e::es) X.env=(false,eval e X.env)::starEach es X.env:=by rfl) (hplain:(backTo cpos (starEach es X.env)).any (·.1)=false:=by rfl) :
 PE X (.Call (.Attribute o name apos) (e::es) [] cpos) (tBM X.K T r to t):=by
 intro pins s σ H Q I h
 refine wpAny_Call_method_late hbase hfew hline rfl (thn (ho pins s σ H _ I h) λ v s1 ⟨x,H1,I1,r1,ty,q1⟩=>?_)
 obtain ⟨h1,h2⟩:=Jyz I1 r1 ty
 refine ⟨T,id,pa,slot,hty,h1,h2,?_⟩
 have hA:=ha cpos pins s1 σ H1 _ I1 q1
 rw [hs] at hA ⊢
 refine J56 (by show (false||(backTo cpos (starEach es X.env)).any (·.1))=false;rw [hplain]<;>rfl) (J7o ?_)
 exact thn hA λ us s2 ⟨vs,H2,I2,r2,q2⟩=>hm pins s2 σ H2 x vs v us Q I2 r1 r2 q2
end
def MtM (X:Cx) (id:String) (r:V->List V->Hp->VK->Prop):Prop:=
 ∀ (pins:List (Addr×Obj)) (s:J9i) (σ:St) (H:Hp) (x:V) (xs:List V) (v:J9g) (us:List J9g) (Q:VK),Inv X pins σ H s->Yo x v->J9 xs us->r x xs H Q ->
  J9j (model X.prog X.w) X.A (call (.builtin id) (v::us)) (EP X pins σ Q) X.xe s
theorem J9.one:∀ {x:V}{us:List J9g},J9 [x] us->∃ u,us=[u]/\Yo x u
 | _,_,.cons r .nil=>⟨_,rfl,r⟩
theorem J9.rep {xs:List V}{us:List J9g}(h:J9 xs us):∀ k:Nat,J9 (Qw k xs).flatten (Qw k us).flatten
 | 0=>.nil
 | k+1=>by
  rw [U4,U4,J3a,J3a]
  exact J9.append h (J9.rep h k)
theorem Ji7 (its:List J9g):∀ (k:Nat) (acc:List J9g),
 J57 (λ x1 x2=>x1++x2) acc.toArray (Qw k its.toArray)=(acc++(Qw k its).flatten).toArray
 | 0,acc=>by simp
 | k+1,acc=>by
  have e:acc.toArray++its.toArray=(acc++its).toArray:=by simp
  have e2:(acc++its)++(Qw k its).flatten=acc++(Qw (k+1) its).flatten:=by
   rw [U4,J3a,J7p]
  rw [<- e2,<- Ji7 its k (acc++its),<- e,U4,J58]
section
variable {X:Cx}{pins:List (Addr×Obj)}{σ:St}{H:Hp}{s:J9i}{l b:Addr}{xs ys zs:List V}
theorem Inv.lset {its its':List J9g}{n:Nat}{f:Array J9g->Array J9g}{t':Nat}(I:Inv X pins σ H s) (hH:H l=some (.lst xs))
 (e:s.heap.get? l=some { cls:=.type "list",data:=.seq its.toArray n }) (hf:f its.toArray=its'.toArray) (hv:J9 ys its') (hz:ys.length<=sizeLine) :
 Inv X pins σ (upd H l (.lst ys)) { s with heap:=s.heap.update l (J30 f),toks:=t' }:=by
 have q:=PySem.IsL.update e f
 rw [hf] at q
 refine I.write (x:=l) (e:=l) (by rw [hH];exact trivial) (.inl rfl) (λ b' u hb hu=>(U3 s.heap (J30 f) (Qk hb)).trans hu) ⟨_,q⟩ ?_
 exact ⟨hz,its',_,hv,q⟩
theorem Inv.lnew {its:List J9g}{t':Nat}(I:Inv X pins σ H s) (hv:J9 ys its) (hz:ys.length<=sizeLine) :
 Inv X pins σ (upd H s.heap.objs.size (.lst ys)) { s with heap:=s.heap.push { cls:=.type "list",data:=.seq its.toArray },toks:=t' }:=
 I.laid (λ _ _ q=>Qu _ q) (Qm _) ⟨hz,its,0,hv,Q9 _ rfl⟩
theorem Inv.fresh (I:Inv X pins σ H s):H s.heap.objs.size=none:=I.hok.fresh (Qm _)
theorem Inv.lstM (I:Inv X pins σ H s) (hH:H l=some (.lst xs)):xs.length<=sizeLine/\∃ (its:List J9g) (n:Nat),J9 xs its/\xs.length=its.length/\s.heap.get? l=some { cls:=.type "list",data:=.seq its.toArray n }:=by
 obtain ⟨z,its,n,r,e⟩:=I.hok l _ hH
 exact ⟨z,its,n,r,r.length,e⟩
theorem Jlq {n:Nat}(h:n<=sizeLine):J4o n=false:=by
 unfold J4o
 exact decide_eq_false (by omega)
end
section
variable {X:Cx}
def Jj0:V->List V->Hp->VK->Prop:=λ x vs H Q=>∃ l xs y,x = .ref l/\vs=[y]/\H l=some (.lst xs)/\xs.length<sizeLine/\Q .non (upd H l (.lst (xs++[y])))
theorem Vm:MtM X "list.append" Jj0:=by
 intro pins s σ H x vs v us Q I rx rv h
 obtain ⟨l,xs,y,rfl,rfl,hH,hz,q⟩:=h
 cases rx
 obtain ⟨u,rfl,ru⟩:=rv.one
 obtain ⟨z,its,n,r,hl,e⟩:=I.lstM hH
 refine call_meets F.slot_list_append ⟨_,e,rfl⟩ F.entry_list_append (F.args_list_append_2 _ _) (PySem.list_append l its.toArray n u (by rw [Xa];omega)) ⟨e,?_⟩
 refine ⟨.non,_,I.lset (its':=its++[u]) hH e (by simp) (r.append (.cons ru .nil)) ?_,rfl,q⟩
 rw [Q7,Uj]
 omega
def J0p:R2:=λ x y H Q=>∃ l b xs zs,x = .ref l/\y = .ref b/\H l=some (.lst xs)/\H b=some (.lst zs)/\xs.length+zs.length<=sizeLine/\∀ p,H p=none->Q (.ref p) (upd H p (.lst (xs++zs)))
theorem Jsf:OpR X (binaryOp .Add) J0p:=by
 intro pins s σ H x y v u Q I rx ry h
 obtain ⟨l,b,xs,zs,rfl,rfl,hH,hB,hz,q⟩:=h
 cases rx
 cases ry
 obtain ⟨z,its,n,r,hl,e⟩:=I.lstM hH
 obtain ⟨z2,its2,n2,r2,hl2,e2⟩:=I.lstM hB
 refine PySem.P.add_list e e2 ?_ (by rw [Xa,Xa];omega)
 have ea:its.toArray++its2.toArray=(its++its2).toArray:=by simp
 rw [ea]
 exact ⟨.ref _,_,I.lnew (t':=s.toks) (r.append r2) (by rw [Q7];omega),rfl,q _ I.fresh⟩
def J0q:R2:=λ x y H Q=>∃ l k xs,x = .ref l/\y = .int k/\H l=some (.lst xs)/\-(2^63)<=k/\k<2^63/\xs.length*k.toNat<=sizeLine /\
 ∀ p,H p=none->Q (.ref p) (upd H p (.lst (Qw k.toNat xs).flatten))
theorem Jpa {α:Type}(xs:List α) (k:Nat):(Qw k xs).flatten.length=k*xs.length:=by
 induction k with
 | zero=>simp
 | succ k ih=>rw [U4,J3a,Q7,ih,Nat.succ_mul,Nat.add_comm]
theorem Jgm:OpR X (binaryOp .Mult) J0q:=by
 intro pins s σ H x y v u Q I rx ry h
 obtain ⟨l,k,xs,rfl,rfl,hH,h1,h2,hz,q⟩:=h
 cases rx
 obtain ⟨t,rfl⟩:=ry
 obtain ⟨z,its,n,r,hl,e⟩:=I.lstM hH
 have hlen:its.toArray.size*k.toNat<=sizeLine:=by rw [Xa,<- hl];exact hz
 have hcap:¬ its.toArray.size*k.toNat>(2^63-1)/8:=by
  have:(sizeLine:Nat)<=(2^63-1)/8:=by decide
  omega
 have hfit:¬ (!Builtin.List.listFitsIndex k)=true:=by
  rw [fitsIndex_both h1 h2]
  exact Xe
 have hlong:¬ J4o (its.toArray.size*k.toNat)=true:=by
  rw [Jlq hlen]
  exact Xe
 have hnew:J57 (λ x1 x2=>x1++x2) #[] (Qw (if its.toArray.isEmpty=true then 0 else k.toNat) its.toArray)=(Qw k.toNat its).flatten.toArray:=by
  have f0:∀ m:Nat,J57 (λ x1 x2=>x1++x2) #[] (Qw m its.toArray)=(Qw m its).flatten.toArray:=λ m=>by
   have:=Ji7 its m []
   rw [J7q] at this
   exact this
  rw [f0]
  cases its with
  | nil=>simp
  | cons a r'=>rw [if_neg (by simp)]
 refine wpAny_binaryOp_repeat_ref (T:="list") (U:="int") (by decide) ⟨_,e,rfl⟩ (λ s'=>typeIs_int s' k t) noFill_list_mul F.fills_int_mul J7r repeat_list F.slot_int_index.lookup
  (call_meets J7r (typeIs_int s k t) F.entry_int_rmul (F.args_int_rmul_2 _ _) (int___rmul___int_list k t l its.toArray n)
   ⟨e,rfl,⟨_,e,rfl⟩,call_meets F.slot_list_mul ⟨_,e,rfl⟩ F.entry_list_mul (F.args_list_mul_2 _ _) (AutoListH.list___mul___list_int_3 l its.toArray n k t hfit hcap hlong) ⟨e,?_⟩⟩)
 rw [hnew]
 exact ⟨.ref _,_,I.lnew (t':=s.toks) (r.rep k.toNat) (by rw [Jpa,J59];exact hz),rfl,q _ I.fresh⟩
end
section
variable {prog:J9l}{w:J9k}{A:J9m}{E:J9g->J9i->Prop}{s:J9i}
end
section
variable {X:Cx}
end
section
variable {κ:Type} [DecidableEq κ]
noncomputable def Jdp (kvs:List (κ×V)) (k:κ):Option V:=(kvs.find? λ kv=>decide (kv.1=k)).map (·.2)
noncomputable def Jfu (kvs:List (κ×V)) (k:κ) (v:V):List (κ×V):=
 if (kvs.any λ kv=>decide (kv.1=k))=true then kvs.map (λ kv=>if kv.1=k then (kv.1,v) else kv) else kvs++[(k,v)]
theorem Jgn {p:κ×V}{r:List (κ×V)}{k:κ}(e:p.1=k):Jdp (p::r) k=some p.2:=by simp [Jdp,List.find?_cons,e]
theorem Jgo {p:κ×V}{r:List (κ×V)}{k:κ}(e:¬ p.1=k):Jdp (p::r) k=Jdp r k:=by simp [Jdp,List.find?_cons,e]
theorem Jlr (kvs:List (κ×V)) (k:κ) (v:V):(Jfu kvs k v).length<=kvs.length+1:=by
 unfold Jfu
 split
 . rw [Qb];omega
 . rw [Q7,Ub,List.length_nil];omega
theorem KV.val {kvs:List (κ×V)}{vs:List (κ×J9g)}(r:KV kvs vs) (k:κ):Jdm (Jdp kvs k) (valueAt vs k):=by
 unfold KV at r
 induction r with
 | nil=>exact U1
 | @cons p q ps qs h t ih=>
  obtain ⟨h1,h2⟩:=h
  by_cases e:p.1=k
  . have e':q.1=k:=h1.symm.trans e
    have b:valueAt (q::qs) k=some q.2:=by simp [valueAt,List.find?_cons,e']
    rw [Jgn e,b];exact h2
  . have e':¬ q.1=k:=λ z=>e (h1.trans z)
    have b:valueAt (q::qs) k=valueAt qs k:=by simp [valueAt,List.find?_cons,e']
    rw [Jgo e,b];exact ih
theorem KV.any {kvs:List (κ×V)}{vs:List (κ×J9g)}(r:KV kvs vs) (k:κ):(kvs.any λ kv=>decide (kv.1=k))=vs.any λ kv=>decide (kv.1=k):=by
 unfold KV at r
 induction r with
 | nil=>rfl
 | cons h t ih=>rw [J29,J29,ih,h.1]
theorem KV.repl {kvs:List (κ×V)}{vs:List (κ×J9g)}(r:KV kvs vs) (k:κ) {y:V}{u:J9g}(ry:Yo y u) :
 KV (kvs.map λ kv=>if kv.1=k then (kv.1,y) else kv) (vs.map λ kv=>if kv.1=k then (kv.1,u) else kv):=by
 unfold KV at r ⊢
 induction r with
 | nil=>exact .nil
 | @cons p q ps qs h t ih=>
  rw [Qz,Qz]
  refine .cons ?_ ih
  obtain ⟨h1,h2⟩:=h
  by_cases e:p.1=k
  . rw [if_pos e,if_pos (h1.symm.trans e)];exact ⟨h1,ry⟩
  . rw [if_neg e,if_neg (λ z=>e (h1.trans z))];exact ⟨h1,h2⟩
theorem KV.put {kvs:List (κ×V)}{vs:List (κ×J9g)}(r:KV kvs vs) (k:κ) {y:V}{u:J9g}(ry:Yo y u):KV (Jfu kvs k y) (stored vs k u):=by
 unfold Jfu stored
 rw [r.any k]
 by_cases e:(vs.any λ kv=>decide (kv.1=k))=true
 . rw [if_pos e,if_pos e];exact r.repl k ry
 . rw [if_neg e,if_neg e];exact Paired.snoc r ⟨rfl,ry⟩
theorem KV.length {kvs:List (κ×V)}{vs:List (κ×J9g)}(r:KV kvs vs):kvs.length=vs.length:=J5m r
end
theorem Jxg {P:J9l}{w:J9k}{k:Key}{u:J9g}(r:Yo (kV k) u):(Zw P w).is k u=true:=by
 cases k with
 | inl i=>obtain ⟨t,e⟩:=(show ∃ t,u=Uq i t from r);subst e;exact Jlh P w i t
 | inr x=>obtain ⟨t,e⟩:=(show ∃ t,u=J3h x t from r);subst e;exact Jli P w x t
theorem Ji8 {P:J9l}{w:J9k}:∀ {ks:List Key}{us:List J9g},J9 (ks.map kV) us->ItemsAre (Zw P w) ks us
 | [],_,r=>by rw [J28] at r;cases r;exact .nil
 | k::ks,_,r=>by
  rw [Qz] at r
  cases r with
  | cons h t=>exact .cons (Jxg h) (Ji8 t)
abbrev KT (H:Hp):List (List Key×V)->List (List Key×Addr×J9g)->Prop:=Paired λ p q=>p.1=q.1/\H q.2.1=some (.tup (p.1.map kV))/\Yo p.2 q.2.2
section
variable {P:J9l}{w:J9k}{H:Hp}{h:Heap}{a:Addr}
theorem Jxh {u:HO}(ok:HOk P w H h) (e:Rd H a u):Y3 P w H h a u:=e.ok ok
theorem Jxi {kvs:List (Key×V)}(ok:HOk P w H h) (e:Rd H a (.dK kvs)):kvs.length<=sizeLine/\(a==J9w)=false/\∃ vs,KV kvs vs/\h.DictOf (Zw P w) a vs:=
 show Y3 P w H h a (.dK kvs) from Jxh ok e
theorem Jxj {kvs:List (Key×V)}(ok:HOk P w H h) (e:H a=some (.dK kvs)):kvs.length<=sizeLine/\(a==J9w)=false/\∃ vs,KV kvs vs/\h.DictOf (Zw P w) a vs:=Jxi ok (.inl e)
theorem Jy0 {ks:List Key}(ok:HOk P w H h) (e:H a=some (.tup (ks.map kV))):(tupleKind (Zw P w)).is h ks a:=by
 obtain ⟨_,its,r,o,h1,h2,n,h3⟩:=(show Y3 P w H h a (.tup (ks.map kV)) from ok a _ e)
 exact ⟨o,its.toArray,n,h1,h2,h3,by simpa using Ji8 r⟩
theorem J0r {kvs:List (List Key×V)}(ok:HOk P w H h) (e:Rd H a (.dT kvs)):kvs.length<=sizeLine/\(a==J9w)=false /\
 ∃ xs,KT H kvs xs/\h.DictOfH (tupleKind (Zw P w)) a xs:=by
 obtain ⟨z,y,xs,r,o,es,ep,h1,h2,h3,h4,h5⟩:=(show Y3 P w H h a (.dT kvs) from Jxh ok e)
 refine ⟨z,y,xs,r,o,es,ep,h1,h2,h3,h4,λ x hx=>?_,h5⟩
 have all:∀ {l:List (List Key×V)} {m:List (List Key×Addr×J9g)},KT H l m->∀ x∈m,(tupleKind (Zw P w)).is h x.1 x.2.1:=by
  intro l m q
  induction q with
  | nil=>intro x hx;exact nomatch hx
  | @cons p q ps qs hq t ih=>
   intro x hx
   rcases Qf.mp hx with e | hx
   . subst e
     exact Jy0 ok (by rw [<- hq.1];exact hq.2.1)
   . exact ih x hx
 exact all r x hx
end
section
variable {X:Cx}{pins:List (Addr×Obj)}{σ:St}{H:Hp}{s:J9i}{a:Addr}{y v:V}{u r:J9g}{o:Option V}{A:J9m}{E:J9g->J9i->Prop}
theorem Inv.big (I:Inv X pins σ H s):J9w<s.heap.objs.size:=by
 have h:J9r<s.heap.objs.size:=(I.mod.glob.keeps I.bk).lt
 exact Nat.lt_trans (by decide) h
theorem Jvk {h':Heap}{t':Nat}{ob:HO}(I:Inv X pins σ H s) (mu:Mut (H a)) (hs:Xy a s.heap h') (he:∃ q,h'.get? a=some q) (new:Y3 X.prog X.w (upd H a ob) h' a ob) :
 Inv X pins σ (upd H a ob) { s with heap:=h',toks:=t' }:=
 I.write (x:=a) (e:=a) mu (.inl rfl) (λ b q hb z=>(hs.2 b hb).trans z) he new
theorem Jy1 {P:J9l}{w:J9k}{H':Hp}{h':Heap}{kvs:List (Key×V)}{vs:List (Key×J9g)}(z:kvs.length<=sizeLine) (hd:(a==J9w)=false) (rel:KV kvs vs) (dd:h'.DictOf (Zw P w) a vs) :
 Y3 P w H' h' a (.dK kvs):=⟨z,hd,vs,rel,dd⟩
end
section
variable {X:Cx}{pins:List (Addr×Obj)}{σ:St}{H:Hp}{s:J9i}{a:Addr}{kvs:List (Key×V)}{k:Key}{u:J9g}{A:J9m}{E:J9g->J9i->Prop}
end
section
variable {X:Cx}{o i e value:Expr}{pos pos' tpos:Pos}{td ty tv:TE}
end
theorem Jsg {P:J9l}{w:J9k}{H:Hp}(h:Heap) (hb:J9w<h.objs.size):Y3 P w H (h.push { cls:=.type "dict",data:=.dict #[] }) h.objs.size (.dK []):=
 ⟨Xz _,beq_eq_false_iff_ne.mpr (Qk (Q5 hb)),[],.nil,Heap.DictOf.new h⟩
def Jnw:TE:=λ _ H Q=>∀ p,H p=none->Q (.ref p) (upd H p (.dK []))
section
variable {X:Cx}{pos:Pos}
theorem Jsh:PE X (.Dict [] [] pos) Jnw:=λ pins s σ H Q I h=>
 wpAny_Dict_empty ⟨.ref s.heap.objs.size,_,I.laid (a:=s.heap.objs.size) (o:=.dK []) (t':=s.toks) (λ _ _ q=>Qu _ q) (Qm _) (Jsg s.heap I.big),rfl,h _ (I.hok.fresh (Qm _))⟩
end
structure M2 (X:Cx) (o:Expr) (m:Str) (apos:Pos) (e f:Expr) (cpos:Pos):Prop where
 base:Yab o m X.env (eval o X.env)=eval o X.env
 few:((backTo cpos (starEach [e,f] X.env)).all (λ x=>!x.1)&&(backToKw cpos (keywordEach [] X.env)).all (λ x=>x.1.isSome)
  && decide (([e,f]:List Expr).length+([]:List J92).length+(if ([]:List J92).isEmpty then 0 else 1)<30))=true
 line:(apos.endLine==cpos.line)=true
 trees:backTo cpos (starEach [e,f] X.env)=[(false,eval e X.env),(false,eval f X.env)]
def IsD (H:Hp) (a:Addr):Prop:=(∃ kvs,Rd H a (.dK kvs))\/∃ kvs,Rd H a (.dT kvs)
theorem Jsi {X:Cx}{pins:List (Addr×Obj)}{σ:St}{H:Hp}{s:J9i}{a:Addr}(I:Inv X pins σ H s) (d:IsD H a) :
 s.TypeIs (.ref a) "dict"/\(∀ b,Q4 a = .ref b->∃ ob,s.heap.get? b=some ob/\ob.dict=none)/\(a==J9w)=false:=by
 rcases d with ⟨kvs,e⟩ | ⟨kvs,e⟩
 . obtain ⟨_,hd,vs,_,dd⟩:=Jxi I.hok e
   refine ⟨dd.typeIs,λ b q=>?_,hd⟩
   cases q
   obtain ⟨ob,_,_,h1,h2,_⟩:=dd
   exact ⟨ob,h1,h2.2.1⟩
 . obtain ⟨_,hd,xs,_,dd⟩:=J0r I.hok e
   refine ⟨dd.typeIs,λ b q=>?_,hd⟩
   cases q
   obtain ⟨ob,_,_,h1,h2,_⟩:=dd
   exact ⟨ob,h1,h2.2.1⟩
section
variable {X:Cx}{pins:List (Addr×Obj)}{σ:St}{H:Hp}{s:J9i}{a:Addr}{y d:V}{u r:J9g}{o:Option V}{A:J9m}{E:J9g->J9i->Prop}
end
section
variable {X:Cx}{o e f:Expr}{apos cpos:Pos}{td ty tx:TE}
end
section
variable {X:Cx}{pins:List (Addr×Obj)}{σ:St}{H:Hp}{s:J9i}{a:Addr}{kvs:List (Key×V)}{A:J9m}{E:J9g->J9i->Prop}
end
section
variable {X:Cx}{pins:List (Addr×Obj)}{σ:St}{H:Hp}{s:J9i}{a:Addr}{y:V}{u:J9g}{A:J9m}{E:J9g->J9i->Prop}
end
end L2
namespace Att
open PySem PySem.W PySem.Calls PyProof.Rows
theorem Jfv {P:Params}{h:Heap}:∀ (ns:List Int) (vs:List J9g),WellAll P h vs (ns.map WData.int)->Yae vs ns:=by
 intro ns
 induction ns with
 | nil=>
  intro vs w
  rw [J28] at w
  cases w
  exact .nil
 | cons n ns ih=>
  intro vs w
  rw [Qz] at w
  cases w with
  | cons a b=>
   cases a
   exact .cons _ _ (ih _ b)
theorem Jqo {l:OpenLaw}{n:Nat}(hn:l.most=some n) {P:Params}{h:Heap}{args:List WData}{vals:List J9g}
 (hpre:l.row.toRowW.claim.pre args=true) (hwl:WellAll P h vals args) :
 ∃ a vs ns,vals=[Q4 a]/\args=[WData.list (ns.map WData.int)]/\h.get? a=some { cls:=.type "list",data:=.seq vs.toArray }/\Yae vs ns/\ns.length<=n:=by
 have hsh:WShape.hasAll [] args [.list .int]=true:=(pre_splitW hpre).1
 have hc:l.pre.holds [] { args:=args }=true:=(pre_splitW hpre).2
 obtain ⟨d,r,rfl,h1,h2⟩:=hasAllW_cons hsh
 obtain rfl:=hasAllW_nil h2
 obtain ⟨xs,rfl,h3⟩:=hasW_list h1
 obtain ⟨ns,rfl⟩:=items_int h3
 have hlen:ns.length<=n:=by
  unfold OpenLaw.pre at hc
  have h4:(WTm.not (.lt (.lit (.int (n:Int))) (.len (.arg 0)))).holds [] { args:=[.list (ns.map .int)] }=true:=by
   have h4:=(holds_andW hc).1
   rw [hn] at h4
   exact h4
  have h5:=condW_of h4 (w_not (w_lt w_lit (w_len_list (w_arg rfl))))
  rw [Qb] at h5
  refine J3k λ q=>?_
  have q':(n:Int)<((ns.length:Nat):Int):=by omega
  first
   | (rw [decide_eq_true q'] at h5;exact absurd h5 (by decide))
   | (simp at h5;omega)
 cases hwl with
 | cons w1 w2=>
  cases w2
  cases w1 with
  | list ho hall=>exact ⟨_,_,ns,rfl,rfl,ho,Jfv ns _ hall,hlen⟩
theorem Jqp (l:OpenLaw) (args:List WData):l.row.toRowW.claim.post args (.bool true) args=true:=
 postW_of (r:=l.row.toRowW) (X:=(true==true))
  (show WShape.has [] (.bool true) .bool=true by first | rfl | decide | simp [WShape.has,WShape.arms,WShape.armsAll])
  (show (WTm.eq .res (.lit (.bool true))).value [] { args:=args,res:=some (.bool true),after:=args }=some (.bool (true==true)) from w_eq_bool (w_res rfl) w_lit) rfl
theorem attach_call {l:OpenLaw}{n:Nat}{q:J9l}{loose:List Str}{XP:(Str->Option J9g)->Heap->Prop}{YP:J9k->Heap->Prop}{d:DefRec}
 (hn:l.most=some n) (hdf:d.params.defaults=[])
 (call:∀ (w:J9k) (s₀ s₁:J9i) (mg mb:Str->Option J9g) (fa:Addr) (o:Obj) (pm cd doc:J9g) (a:Addr) (vs:List J9g) (ns:List Int),
  Ground q loose [] XP w s₀ mg mb s₁.heap->YP w s₁.heap ->
  s₁.heap.get? fa=some o->o.data = .func (docDef d.name d.params d.body d.scope pm cd doc)->s₁.heap.CodeRec cd d.name->mg d.name=some (.ref fa) ->
  s₁.heap.get? a=some { cls:=.type "list",data:=.seq vs.toArray }->Yae vs ns->ns.length<=n->s₁.gens = #[] ->
  J9u (model l.prog w) J95 (.call (.ref fa) ⟨[.ref a],[]⟩) (λ r s'=>r = .ok (.ret (.bool true))/\OldK s₁.heap s'.heap/\s'.os=s₁.os/\J9x s'.gens) s₁) :
 WalkO q loose XP YP l.row.toRowW d [] (λ f vs=>J6a f vs):=by
 intro w s₀ s₁ mg mb G Y fa o pm cd doc dV kV ho hd hcd hD hmg hg args vals as hpre hlay hrd hwl hlo
 obtain rfl:dV = .none:=Dflts.none hD hdf
 obtain rfl:kV = .none:=Dflts.noKw hD
 obtain ⟨a,vs,ns,rfl,rfl,hobj,hints,hlen⟩:=Jqo hn hpre hwl
 refine enter_call (codeAny_mono (call w s₀ s₁ mg mb fa o pm cd doc a vs ns G Y ho (fd_plain hd) hcd hmg hobj hints hlen hg) λ r s' hq=>?_)
 obtain ⟨rfl,h2,h3,h4⟩:=hq
 exact ⟨.inl ⟨.bool true,.bool true,[],rfl,λ _=>rfl,.bool true,Jqp l _,λ _=>⟨J9c,λ _ hm=>(nomatch hm)⟩⟩,h2,h3,h4⟩
section
variable {prog:J9l}{w:J9k}{A:J9m}{E:J9g->J9i->Prop}{s:J9i}{K:Frag}
end
end Att
namespace L2
theorem Ji9:∀ {vs:List J9g}{ns:List Int},Yae vs ns->J9 (ns.map V.int) vs
 | _,_,.nil=>.nil
 | _,_,.cons n t h=>.cons ⟨t,rfl⟩ (Ji9 h)
def Jy2 (H:Hp):Prop:=∀ b,H b=none\/∃ o xs,H b=some (.frz o (.lst xs))
theorem Jsj {P:J9l}{w:J9k}{K:Qc}{mg mb:Str->Option J9g}{CX:CXT}{k:Nat}{fa a:Addr}{fd:J9s}{x:Str}{sp:Sp}{s₁:J9i}{vs:List J9g}{ns:List Int}
 (KX:K.In s₁.heap) (hns:s₁.heap.Ns J9r mg) (hb:s₁.heap.Ns Yag mb) (hbb:∀ x:Str,x≠"__name__"->mb x=J97 x) (hlim:s₁.heap.NoLimit) (hg:s₁.gens = #[])
 (ha:s₁.heap.get? a=some { cls:=.type "list",data:=.seq vs.toArray }) (hi:Yae vs ns) (hl:ns.length<=sizeLine) (hr:Room k J95)
 (F:∀ base:Heap,K.In base->base.Ns J9r mg->FnOk P w K mg base CX k fa fd [x] sp) (hbind:∀ (s:J9i) (u:J9g),Yac s fd ⟨[u],[]⟩ [(x,u)])
 (hsp:∀ H:Hp,Jy2 H->SqL K H a (ns.map V.int)->sp [.ref a] H (λ v _=>v = .bl true) λ _ _ _=>False)
 (hCX:∀ H e s',CX [] H s₁ (λ _ _ _=>False) e s'->False) :
 J9u (model P w) J95 (.call (.ref fa) ⟨[.ref a],[]⟩) (λ r s'=>r = .ok (.ret (.bool true))/\OldK s₁.heap s'.heap/\s'.os=s₁.os/\J9x s'.gens) s₁:=by
 have rv:=Ji9 hi
 have lenV:=hi.length
 -- from an abstract heap in which nothing but the script may be tracked
 have core:∀ H:Hp,Jy2 H->SqL K H a (ns.map V.int)->HOk P w H s₁.heap->(∀ b,H b≠none->b=a)->(H a≠none->K.lookup a=none) ->
  J9u (model P w) J95 (.call (.ref fa) ⟨[.ref a],[]⟩) (λ r s'=>r = .ok (.ret (.bool true))/\OldK s₁.heap s'.heap/\s'.os=s₁.os/\J9x s'.gens) s₁:=by
  intro H hO hS hok hA hK
  have base_of:∀ {b:Addr} {o:Obj},s₁.heap.get? b=some o->H b=none->(Jjt s₁.heap H).get? b=some o:=λ e n=>Jru e n
  have noA:∀ {b:Addr} {o:Obj} {es:Array DictEntry} {ep:Nat},s₁.heap.get? b=some o->o.data = .dict es ep->H b=none:=λ {b o es ep} e d=>by
   cases q:H b with
   | none=>rfl
   | some u=>
    have e':b=a:=hA b (by rw [q];simp)
    subst e'
    rw [ha] at e;cases e
    have d':J6b vs.toArray _=Data.dict es ep:=d
    cases d'
  have nsK:∀ {b:Addr} {m:Str->Option J9g},s₁.heap.Ns b m->(Jjt s₁.heap H).Ns b m:=λ {b m} ⟨o,es,ep,e,d,r⟩=>⟨o,es,ep,base_of e (noA e d),d,r⟩
  have hKb:K.In (Jjt s₁.heap H):=λ b o e=>base_of (KX b o e) (by
   cases q:H b with
   | none=>rfl
   | some u=>
    have e':b=a:=hA b (by rw [q];simp)
    subst e'
    rw [hK (by rw [q];simp)] at e;cases e)
  have hM:Mod K mg (Jjt s₁.heap H):=⟨hKb,nsK hns,⟨mb,nsK hb,hbb⟩,let ⟨mc,h1,h2⟩:=hlim;⟨mc,nsK h1,h2⟩⟩
  have e0:Env0 P w K mg (Jjt s₁.heap H) J95 [] s₁ H:=⟨rfl,hM,λ b o e=>Ju5 e,J4k (Jqf _ _),trivial,λ b hb=>absurd (show b∈([]:List Addr) from hb) (by simp),hok,.of_eq hg⟩
  refine codeAny_mono ((F _ hKb (nsK hns)).run J95 [] s₁ H ⟨[.ref a],[]⟩ [.ref a] [.ref a] _ _ hr e0 (hbind s₁ (.ref a)) (.cons rfl .nil) (hsp H hO hS)) λ r s' h=>?_
  cases r with
  | error e=>exact (hCX H e s' h).elim
  | ok fl=>
   cases fl with
   | next=>exact Ua h
   | brk=>exact Ua h
   | cont=>exact Ua h
   | ret u=>
    obtain ⟨v,H',os,bare,un,hok',r',q⟩:=h
    have q':v = .bl true:=q
    subst q'
    obtain rfl:u=J3i true:=r'
    refine ⟨rfl,OldK.of_keep λ b o e=>?_,os,bare⟩
    cases q:H b with
    | none=>exact un.keep b o e q (by intro z;exact absurd (show b∈([]:List Addr) from z) (by simp)) (by simp)
    | some u=>
     rcases hO b with z | ⟨ob,xs,z⟩
     . rw [q] at z;cases z
     . have z2:=un.frzs b ob _ z
       obtain ⟨e1,_⟩:=hok b _ z
       obtain ⟨e2,_⟩:=hok' b _ z2
       rw [e] at e1;cases e1
       exact e2
 cases hk:K.lookup a with
 | some o=>
  -- the script is one of the module's own objects
  have e:=KX a o hk
  rw [ha] at e
  cases e
  refine core (λ _=>none) (λ _=>.inl rfl) (.inr ⟨_,vs.toArray,_,hk,rfl,rfl,rfl,by rw [Xa,lenV];exact hl,by simpa using rv⟩) (λ b u z=>by have z':(none:Option HO)=some u:=z;cases z') (λ b z=>absurd rfl z) λ z=>absurd rfl z
 | none=>
  refine core (λ b=>if b=a then some (.frz { cls:=.type "list",data:=.seq vs.toArray } (.lst (ns.map V.int))) else none) (λ b=>?_) (.inl (.inr ⟨{ cls:=.type "list",data:=.seq vs.toArray },if_pos rfl⟩)) (λ b u z=>?_) (λ b z=>?_) λ _=>hk
  . by_cases hb:b=a
    . exact .inr ⟨_,_,if_pos hb⟩
    . exact .inl (if_neg hb)
  . by_cases hb:b=a
    . have z':=(if_pos hb).symm.trans z
      cases z'
      subst hb
      exact ⟨ha,by rw [Qb];exact hl,vs,_,rv,ha⟩
    . have z':=(if_neg hb).symm.trans z
      cases z'
  . by_cases hb:b=a
    . exact hb
    . exact absurd (if_neg hb) z
theorem walk_of {l:J6c}{n k:Nat}{q:J9l}{loose:List Str}{XP:(Str->Option J9g)->Heap->Prop}{YP:J9k->Heap->Prop}{d:DefRec}{K:Params->Qc}{CX:J9k->CXT}{sp:J9k->Sp}{x:Str}
 (hn:l.most=some n) (hn2:n<=sizeLine) (hdf:d.params.defaults=[]) (hr:Room k J95)
 (hY:∀ (w:J9k) (h:Heap),YP w h->(K w.params).In h)
 (F:∀ (w:J9k) (mg:Str->Option J9g) (fa:Addr) (h:Heap),(K w.params).In h->h.Ns J9r mg->mg d.name=some (.ref fa) ->
  ∃ fd:J9s,(∀ (s:J9i) (u:J9g),Yac s fd ⟨[u],[]⟩ [(x,u)]) /\
   ∀ base:Heap,(K w.params).In base->base.Ns J9r mg->FnOk l.prog w (K w.params) mg base (CX w) k fa fd [x] (sp w))
 (hsp:∀ (w:J9k) (H:Hp) (a:Addr) (ns:List Int),ns.length<=n->Jy2 H->SqL (K w.params) H a (ns.map V.int)->sp w [.ref a] H (λ v _=>v = .bl true) λ _ _ _=>False)
 (hCX:∀ (w:J9k) (H:Hp) (s:J9i) (e:J9g) (s':J9i),CX w [] H s (λ _ _ _=>False) e s'->False) :
 J7s q loose XP YP l.row.toRowW d [] (λ f vs=>J6a f vs):=by
 refine Att.attach_call hn hdf λ w s₀ s₁ mg mb fa o pm cd doc a vs ns G Y ho hd hcd hmg hobj hints hlen hg=>?_
 have KX:=hY w _ Y
 obtain ⟨fd,hb,hF⟩:=F w mg fa _ KX G.T.g hmg
 exact Jsj KX G.T.g G.T.b G.T.builtins G.T.nolimit hg hobj hints (Xi hlen hn2) hr hF hb (λ H hO hS=>hsp w H a ns hlen hO hS) λ H e s'=>hCX w H s₁ e s'
noncomputable def We (s:Stmt):Arguments:=match s with
 | .FunctionDef _ a _ _ _ _ _ _ _ _=>a
 | _=>{ posonlyargs:=[],args:=[],vararg:=none,kwonlyargs:=[],kw_defaults:=[],kwarg:=none,defaults:=[] }
noncomputable def Zx (s:Stmt):List Stmt:=match s with
 | .FunctionDef _ _ b _ _ _ _ _ _ _=>b
 | _=>[]
noncomputable def Je (s:Stmt):J9o:=match s with
 | .FunctionDef _ _ _ _ _ _ sc _ _ _=>sc
 | _=>{ kind:=.function,names:=[],isGenerator:=false,isCoroutine:=false }
abbrev CX0:CXT:=λ _ _ _ _ _ _=>False
abbrev E0:XK:=λ _ _ _=>False
theorem Jsk {X:Cx}:Jew CX0 X E0:=λ _ _ _ _ _ _ _ h=>h.elim
structure Fun (K:Qc) (x qual:Str) (st:Stmt) (f:Addr) (fd:J9s):Prop where
 ex:∃ (oc:J9g) (od:Option Addr) (kV doc pm:J9g) (an:Option Addr) (cdv ct:J9g) (osl:Array (Option J9g)),
  fd=X0 x qual (We st) (Zx st) (Je st) .none kV doc pm an cdv ct/\K.lookup f=some ⟨oc,od,.func fd,osl⟩/\J22 K cdv qual=true
 kp:Ui K (.ref f)=true
section
variable {P:J9l}{w:J9k}{K:Qc}{mg:Str->Option J9g}{base:Heap}
theorem Fun.ok {x qual:Str}{st:Stmt}{f:Addr}{fd:J9s}{N ps:List Str}{k:Nat}{sp:Sp}(F:Fun K x qual st f fd) (S:FnScope N ps (Je st)) (len:∀ vs H Q E,sp vs H Q E->vs.length=ps.length)
 (hbody:∀ (cdv:J9g) (A:J9m) (outer:List Env) (s:J9i) (H:Hp) (vs:List V) (Q:VK) (E:XK),Room k (A.deeper (envOfC qual (Je st) s.heap.objs.size f cdv))->sp vs H Q E ->
  ∃ t,PSs (Jnu CX0 P w K mg base N qual (Je st) f cdv A outer s H E).nox (Zx st) t/\t { nx:=λ _ H'=>Q .non H',rt:=Q } (start N vs) H):FnOk P w K mg base CX0 (k+1) f fd ps sp:=by
 obtain ⟨oc,od,kV,doc,pm,an,cdv,ct,osl,rfl,lk,hcd⟩:=F.ex
 refine Jxe lk hcd S len λ A outer s H vs Q E hr hsp=>?_
 obtain ⟨t,h,q⟩:=hbody cdv A outer s H vs Q E hr hsp
 exact ⟨t,h.nox,q⟩
theorem Fun.binds {x qual:Str}{st:Stmt}{f:Addr}{fd:J9s}{ps:List Str}(F:Fun K x qual st f fd)
 (h:∀ (kV doc pm:J9g) (an:Option Addr) (cdv ct:J9g) (us:List J9g),us.length=ps.length->Yad (X0 x qual (We st) (Zx st) (Je st) .none kV doc pm an cdv ct) ⟨us,[]⟩=pure (ps.zip us)):Bn K fd ps []:=by
 obtain ⟨oc,od,kV,doc,pm,an,cdv,ct,osl,rfl,lk,hcd⟩:=F.ex
 exact .all (h kV doc pm an cdv ct)
theorem Jgp {x qual:Str}{st:Stmt}{f:Addr}{oc:J9g}{od an:Option Addr}{osl:Array (Option J9g)}{kV doc pm cdv ct:J9g}(l:K.lookup f=some ⟨oc,od,.func (X0 x qual (We st) (Zx st) (Je st) .none kV doc pm an cdv ct),osl⟩)
 (c:J22 K cdv qual=true) (k:Ui K (.ref f)=true):Fun K x qual st f (X0 x qual (We st) (Zx st) (Je st) .none kV doc pm an cdv ct):=⟨⟨oc,od,kV,doc,pm,an,cdv,ct,osl,rfl,l,c⟩,k⟩
end
theorem Jqq {n:Nat}(h:n<=1000):n<sizeLine:=J32 h (by decide)
section
variable {X:Cx}
theorem pv (i:Nat) {x:Str}{pos:Pos}(hN:X.N[i]? = some x:=by rfl) (hv:Vis X.env.scope x:=by first | exact Qa rfl | exact Qo (Qa rfl) | exact Qo (Qo rfl)) (hd:(x==("__debug__":Str))=false:=by decide)
 (hcd:(x==("__classdict__":Str))=false:=by decide):PE X (.Name x pos) (Zv i):=Jyh hN hv hd hcd
end
theorem Jbv {A B:Prop}(h:B):if false=true then A else B:=by
 rw [if_neg Xe]
 exact h
theorem W9 {A B:Prop}(h:A):if true=true then A else B:=by
 rw [if_pos rfl]
 exact h
section
variable {κ:Type} [DecidableEq κ]
end
end L2
set_option maxHeartbeats 4000000
namespace L2
abbrev NoE:J9g->J9i->Prop:=λ _ _=>False
theorem Jfl {prog:J9l}{w:J9k}{A:J9m}{R:J91->J9i->Prop}{s:J9i}{elt target iter:Expr}{ifs:List Expr}{scope:J9o}{pos:Pos}{it acc:J9g}{env:Env}(I:Nat->J9i->Prop)
 (turn:∀ n s,I n s->J9j (model prog w) A (pyNext it) (λ r s₁=>match r with
  | none=>R (.ok .next) s₁
  | some v=>J9j (model prog w) A (letOwnedTupleGo target it v) (λ _ s₁'=>J9j (model prog w) A (assign target env v) (λ _ s₂=>
   J9j (model prog w) A (forIn ifs true λ c r=>if r=true then do let ok <- isTrue c env (eval c env);pure (J3l ok) else pure (J3l r)) (λ ok s₃=>
    if ok=true then J9j (model prog w) A (eval elt env) (λ x s₄=>
     J9j (model prog w) A (call (.builtin "list.append") [acc,x]) (λ _ s₅=>∃ m,m<n/\I m s₅) NoE s₄) NoE s₃
    else ∃ m,m<n/\I m s₃) NoE s₂) NoE s₁') NoE s₁) NoE s)
 (n:Nat) (h:I n s) :
 J9u (model prog w) A (.compLoop (.ListComp elt [⟨target,iter,ifs,0⟩] scope pos) 0 it acc env) R s:=by
 refine codeAny_loop rfl I (λ n s hI=>?_) n h
 show J9j _ A ((compTurn (.ListComp elt [⟨target,iter,ifs,0⟩] scope pos) 0 it acc env).onRaise (λ x=>do noteFrame x env;theTreesLotGoes x)) _ _ s
 refine wpAny_noted ?_
 rw [compTurn_list]
 refine wpAny_bind (wpAny_standAt (wpAny_bind (wpAny_mono (turn n s hI) (λ r s₁ h₁=>?_) λ _ _ f=>f.elim)))
 cases r with
 | none=>exact wpAny_pure h₁
 | some v=>
  refine wpAny_bind (wpAny_mono h₁ (λ _ s₁' h₁'=>wpAny_bind (wpAny_mono h₁' (λ _ s₂ h₂=>wpAny_bind (wpAny_mono h₂ (λ ok s₃ h₃=>?_) λ _ _ f=>f.elim)) λ _ _ f=>f.elim)) λ _ _ f=>f.elim)
  cases ok with
  | false=>exact wpAny_pure ⟨rfl,h₃⟩
  | true=>
   exact wpAny_bind (wpAny_bind (wpAny_mono h₃ (λ x s₄ h₄=>wpAny_bind (wpAny_mono h₄ (λ _ s₅ h₅=>wpAny_pure (wpAny_pure ⟨rfl,h₅⟩)) λ _ _ f=>f.elim)) λ _ _ f=>f.elim))
noncomputable def Yi (env:Env):List (Str×J9q)->List (Str×Addr)->List (Str×Addr)
 | [],cs=>cs
 | (n,k)::r,cs=>Yi env r (if (k==Uk)=true then (n,(env.cells.lookup n).getD 0)::cs else cs)
theorem Ba {scope:J9o}{env:Env}(h:∀ x∈scope.names,x.2 = .free->∃ c,env.cells.lookup x.1=some c):Yaf scope env=pure (Yi env scope.names []):=by
 have key:∀ (l:List (Str×J9q)) (cs:List (Str×Addr)),(∀ x∈l,x.2 = .free->∃ c,env.cells.lookup x.1=some c) ->
  (forIn (m:=Sem) l cs λ (x:Str×J9q) (r:List (Str×Addr))=>if (x.2==Uk)=true then (do let c <- cellOf env x.1;pure (J3l ((x.1,c)::r))) else (do pure PUnit.unit;pure (J3l r)))=pure (Yi env l cs):=by
  intro l
  induction l with
  | nil=>intro cs _;rfl
  | cons x r ih=>
   intro cs hx
   obtain ⟨n,k⟩:=x
   rw [J6d]
   by_cases hk:k = .free
   . subst hk
     obtain ⟨c,hc⟩:=hx _ Qi rfl
     have e:cellOf env n=pure c:=by unfold cellOf;rw [show env.cells.lookup n=some c from hc]
     simp only [beq_self_eq_true,if_true,e,pure_bind]
     rw [ih _ λ y hy=>hx y (Qj _ hy)]
     simp only [Yi,beq_self_eq_true,if_true]
     rw [show env.cells.lookup n=some c from hc]
     rfl
   . have hb:(k==Uk)=false:=by simpa using hk
     simp only [hb,J33,if_false,pure_bind]
     rw [ih _ λ y hy=>hx y (Qj _ hy)]
     simp only [Yi,hb,J33,if_false]
 unfold Yaf
 have:=key scope.names [] h
 show ((forIn (m:=Sem) scope.names ([]:List (Str×Addr)) _) >>= _)=_
 refine J4p (congrArg (λ z=>z >>= _) (J4p ?_ this)) ?_
 . congr 1
 . rfl
theorem Jc5 {env:Env}:∀ {l:List (Str×J9q)}{cs:List (Str×Addr)},(∀ x∈l,x.2 = .free->∃ c,env.cells.lookup x.1=some c)->(∀ p∈cs,env.cells.lookup p.1=some p.2)->∀ p∈Yi env l cs,env.cells.lookup p.1=some p.2
 | [],_,_,hc=>hc
 | (n,k)::r,cs,hx,hc=>by
  unfold Yi
  refine Jc5 (λ y hy=>hx y (Qj _ hy)) λ p hp=>?_
  by_cases hk:k = .free
  . subst hk
    simp only [beq_self_eq_true,if_true] at hp
    rcases Qf.mp hp with rfl | hp
    . obtain ⟨c,e⟩:=hx _ Qi rfl
      have e:env.cells.lookup n=some c:=e
      show env.cells.lookup n=some ((env.cells.lookup n).getD 0)
      rw [e]
      rfl
    . exact hc p hp
  . have hb:(k==Uk)=false:=by simpa using hk
    simp only [hb,J33,if_false] at hp
    exact hc p hp
theorem Jgq {env:Env}:∀ {l:List (Str×J9q)}{cs:List (Str×Addr)}{p:Str×Addr},p∈cs->p∈Yi env l cs
 | [],_,_,h=>h
 | (n,k)::r,cs,p,h=>by
  unfold Yi
  refine Jgq ?_
  split
  . exact Qj _ h
  . exact h
theorem Bv {env:Env}:∀ {l:List (Str×J9q)}{cs:List (Str×Addr)}{x:Str},(x,Uk)∈l->∃ c,(x,c)∈Yi env l cs
 | [],_,_,h=>by cases h
 | (n,k)::r,cs,x,h=>by
  unfold Yi
  rcases Qf.mp h with e | h
  . cases e
    simp only [beq_self_eq_true,if_true]
    exact ⟨_,Jgq Qi⟩
  . exact Bv h
theorem Zj {α:Type}{x:Str}{c:α}:∀ {l:List (Str×α)},(x,c)∈l->∃ d,l.lookup x=some d
 | [],h=>by cases h
 | (n,k)::r,h=>by
  rw [Ut]
  cases hx:x==n with
  | true=>exact ⟨k,rfl⟩
  | false=>
   rcases Qf.mp h with e | h
   . cases e;simp at hx
   . exact Zj h
theorem Va {env:Env}{x:Str}:∀ {names:List (Str×J9q)}{k:J9q},
 (names.map λ (n,k)=>if (k==Uk&&env.scope.kind == .function&&env.kindOf n==some .cell) then (n,Uu) else (n,k)).lookup x=some k->names.lookup x=some k\/(k = .cell/\names.lookup x=some .free)
 | [],_,h=>by simp at h
 | (n,j)::r,k,h=>by
  have ih:=@Va env x r k
  rw [Qz] at h
  rw [Ut]
  dsimp only at h
  by_cases hc:(j==Uk&&env.scope.kind == .function&&env.kindOf n==some .cell)=true
  . rw [if_pos hc,Ut] at h
    cases hx:x==n with
    | true=>
     rw [hx] at h
     simp only [Xw] at hc
     have:j = .free:=by simpa using hc.1.1
     subst this
     cases h
     exact .inr ⟨rfl,rfl⟩
    | false=>rw [hx] at h;exact ih h
  . rw [if_neg hc,Ut] at h
    cases hx:x==n with
    | true=>rw [hx] at h;exact .inl h
    | false=>rw [hx] at h;exact ih h
theorem Ja8 {env:Env}{x:Str}:∀ {names:List (Str×J9q)},names.lookup x=some .free ->
 (names.map λ (n,k)=>if (k==Uk&&env.scope.kind == .function&&env.kindOf n==some .cell) then (n,Uu) else (n,k)).lookup x=some .cell \/
 (names.map λ (n,k)=>if (k==Uk&&env.scope.kind == .function&&env.kindOf n==some .cell) then (n,Uu) else (n,k)).lookup x=some .free
 | [],h=>by simp at h
 | (n,j)::r,h=>by
  have ih:=@Ja8 env x r
  rw [Ut] at h
  rw [Qz]
  dsimp only
  by_cases hc:(j==Uk&&env.scope.kind == .function&&env.kindOf n==some .cell)=true
  . rw [if_pos hc,Ut]
    cases hx:x==n with
    | true=>exact .inl rfl
    | false=>rw [hx] at h;exact ih h
  . rw [if_neg hc,Ut]
    cases hx:x==n with
    | true=>rw [hx] at h;cases h;exact .inr rfl
    | false=>rw [hx] at h;exact ih h
noncomputable def Wb (X:Cx) (N':List Str) (scope:J9o) (C:Addr) (s:J9i) (H:Hp) (fp:List Addr):Cx where
 prog:=X.prog
 w:=X.w
 K:=X.K
 mg:=X.mg
 base:=X.base
 A:=X.A
 N:=N'
 s₀:=s
 H₀:=H
 env:=compEnvC scope (Yi X.env scope.names []) C X.env
 outer:=X.stack
 stack:=X.stack
 ex:=fp
 fn:=λ _=>false
 calm:=X.calm
 pn:=[]
 xe:=NoE
structure CompScope (sc:J9o) (N:List Str) (scope:J9o) (N':List Str) (k:Nat) (idx:List Nat):Prop where
 kind:scope.kind = .function
 nocell:∀ x∈scope.names,x.2≠.cell
 loc:∀ x∈scope.names,x.2 = .local -> scope.names.lookup x.1=some .local
 fr:∀ x∈scope.names,x.2 = .free->sc.names.lookup x.1=some .cell\/sc.names.lookup x.1=some .free
 nd:N'.Nodup
 free:∀ x∈N'.drop k,scope.names.lookup x=some .free
 ix:(N'.drop k).map some=idx.map λ i=>N[i]?
 len:N'.length=k+idx.length
noncomputable def Yp (k:Nat) (idx:List Nat) (σ:St):St:=Qw k none++idx.map λ i=>(σ[i]?).join
section
variable {X:Cx}{pins:List (Addr×Obj)}{σ:St}{H:Hp}{s:J9i}{scope:J9o}{N':List Str}{k:Nat}{idx:List Nat}{sc:J9o}{N:List Str}
theorem Jnx (I:Inv X pins σ H s) (S:CompScope sc N scope N' k idx) (hsc:X.env.scope=sc) (hNN:X.N=N) {fp:List Addr}(hf:∀ b∈fp,Jc2 X pins H b) (hlt:∀ b∈fp,b<s.heap.objs.size) {h':Heap}{t':Nat}
 (hn:h'.Ns s.heap.objs.size (λ _=>none)) (hk:∀ b o,s.heap.get? b=some o->h'.get? b=some o) :
 Inv (Wb X N' scope s.heap.objs.size s H fp) [] (Yp k idx σ) H { s with heap:=h',toks:=t' }:=by
 have hcell:∀ x∈scope.names,x.2 = .free->∃ c,X.env.cells.lookup x.1=some c:=λ x hx hfree=>I.ok.has x.1 (by
  show X.env.scope.names.lookup x.1=_\/X.env.scope.names.lookup x.1=_
  rw [hsc];exact S.fr x hx hfree)
 have hcl:∀ x c,(Yi X.env scope.names []).lookup x=some c->X.env.cells.lookup x=some c:=λ x c e=>Jc5 hcell (λ p hp=>by cases hp) (x,c) (Xr e)
 have hok:(Wb X N' scope s.heap.objs.size s H fp).Ok:={
  mod:=I.ok.mod
  kind:=S.kind
  glob:=I.ok.glob
  blt:=I.ok.blt
  above:=Qm _
  inj:=λ x y c e1 e2=>I.ok.inj x y c (hcl x c e1) (hcl y c e2)
  has:=λ x hx=>by
   have hfree:scope.names.lookup x=some .free:=by
    rcases hx with hx | hx
    . rcases Va (env:=X.env) (names:=scope.names) hx with h | ⟨_,h⟩
      . exact absurd rfl (S.nocell _ (Xr h))
      . exact h
    . rcases Va (env:=X.env) (names:=scope.names) hx with h | ⟨h,_⟩
      . exact h
      . cases h
   obtain ⟨c,hc⟩:=Bv (env:=X.env) (cs:=[]) (Xr hfree)
   exact Zj hc
  cab:=λ x c h=>by cases h
  hd:=I.ok.hd
  frames:=I.ok.frames
  stk:=.inl rfl
  exf:=λ b hb=>⟨Q5 (hlt b hb),λ x c e=>(hf b hb).2.2.2.2.1 x c (hcl x c e)⟩
  bs:=I.bs
  bsz:=Xi I.ok.bsz I.sz
  noex:=λ b o e hb=>by
   rcases (hf b hb).2.2.2.1 with z | z
   . exact I.ok.noex b o e z
   . exact absurd (Q1 (Qt e) (Xi I.ok.bsz z)) (Xc _)
  exfs:=λ b hb hz=>by
   rcases Qf.mp (I.stkSub b hz) with e | e
   . exact (hf b hb).2.1 e
   . exact (hf b hb).2.2.1 e
  funs:=I.stack
  frf:=I.stkFree }
 refine ⟨hok,rfl,I.bare,Un.kept hk,⟨_,hn,λ i x v e1 e2 e3=>?_⟩,λ x c e=>?_,I.hok.fresh (Qm _),λ x c e=>I.freeC x c (hcl x c e),(λ p hp=>by cases hp),I.hok.kept hk,?_⟩
 . -- a name with a value is one of the others
   have hi:k<=i:=by
    rcases X1 i k with h | h
    . have e2:(Yp k idx σ)[i]? = some (some v):=e2
      unfold Yp at e2
      rw [Uo (by simpa using h),J21] at e2
      split at e2<;>cases e2
    . exact h
   have e1':(N'.drop k)[i-k]? = some x:=by
    rw [J6e,show k+(i-k)=i by omega];exact e1
   have hfree:=S.free x (Xg e1')
   have e2':(idx.map λ i=>(σ[i]?).join)[i-k]? = some (some v):=by
    have e2:(Yp k idx σ)[i]? = some (some v):=e2
    unfold Yp at e2
    rw [U2 (by simpa using hi),Uc] at e2
    exact e2
   rw [Qh] at e2'
   cases hj:idx[i-k]? with
   | none=>rw [hj] at e2';cases e2'
   | some j=>
    rw [hj] at e2'
    have e3':(σ[j]?).join=some v:=by simpa using e2'
    have eσ:σ[j]? = some (some v):=by
     cases q:σ[j]? with
     | none=>rw [q] at e3';cases e3'
     | some o=>rw [q] at e3';cases o with
      | none=>cases e3'
      | some z=>cases e3';rfl
    have eN:X.N[j]? = some x:=by
     rw [hNN]
     have:=congrArg (λ l=>l[i-k]?) S.ix
     simp only [Qh,e1',hj,Option.map_some] at this
     exact (Xj this).symm
    have hvk:=S.fr _ (Xr hfree) rfl
    obtain ⟨m,hm,hl⟩:=I.loc
    obtain ⟨u,ru,lk⟩:=hl j x v eN eσ (by rw [hsc];exact .inr hvk)
    refine ⟨u,ru,.inr ⟨Ja8 (env:=X.env) hfree,?_⟩⟩
    rcases lk with ⟨kl,_⟩ | ⟨_,c,ec,z⟩
    . have kl:X.env.scope.names.lookup x=some .local := kl
      rw [hsc] at kl
      rcases hvk with q | q<;>(rw [kl] at q;cases q)
    . obtain ⟨d,hd⟩:=Bv (env:=X.env) (cs:=[]) (Xr hfree)
      obtain ⟨d',hd'⟩:=Zj hd
      have e:=hcl x d' hd'
      rw [ec] at e
      cases e
      obtain ⟨o,ho,hod⟩:=z
      exact ⟨c,hd',o,hk c o ho,hod⟩
 . obtain ⟨v,o,ho,hod⟩:=I.cell x c (hcl x c e)
   exact ⟨v,o,hk c o ho,hod⟩
 . show (Yp k idx σ).length=N'.length
   unfold Yp
   rw [S.len,Q7,Uc,Qb]
end
def PTs (X:Cx) (ifs:List Expr) (t:TT):Prop:=
 ∀ (pins:List (Addr×Obj)) (s:J9i) (σ:St) (H:Hp) (Q:Bool->Hp->Prop),Inv X pins σ H s->t σ H Q ->
  J9j (model X.prog X.w) X.A (forIn ifs true λ c r=>if r=true then do let ok <- isTrue c X.env (eval c X.env);pure (J3l ok) else pure (J3l r)) (TP X pins σ Q) X.xe s
def Jf3:TT:=λ _ H Q=>Q true H
theorem Yc {X:Cx}:PTs X [] Jf3:=λ pins s σ H Q I h=>wpAny_tests_nil ⟨H,I,h⟩
theorem Jcj {X:Cx}{c:Expr}{t:TT}(h:PT X c t):PTs X [c] t:=λ pins s σ H Q I q=>wpAny_tests_one (h pins s σ H Q I q)
def Jj1 (J:It) (g:TG) (tt:TT) (te:TE) (l:Addr) (σ0:St) (H0:Hp) (Q:Hp->Prop):Prop:=
 ∃ W:Nat->Nat->St->Hp->Prop,(∃ m,W 0 m σ0 H0)/\∀ i m σ H,W i m σ H ->
  (J.stop i H/\Q H)\/(J.go i H/\∀ x H',J.yld i H x H'->g x σ H' λ σ2 H2=>tt σ2 H2 λ c H3=>
   if c=true then te σ2 H3 λ y H4=>∃ xs,H4 l=some (.lst xs)/\xs.length<sizeLine/\∃ m',m'<m/\W (i+1) m' σ2 (upd H4 l (.lst (xs++[y])))
   else ∃ m',m'<m/\W (i+1) m' σ2 H3)
def Jau (wi:TI) (k:Nat) (idx:List Nat) (g:TG) (tt:TT) (te:TE):TE:=λ σ H Q=>wi σ H λ J H1=>∀ l,H1 l=none->Jj1 J g tt te l (Yp k idx σ) (upd H1 l (.lst [])) λ H2=>Q (.ref l) H2
section
variable {X:Cx}{tg iter elt:Expr}{ifs:List Expr}{scope sc:J9o}{N N':List Str}{k:Nat}{idx:List Nat}{wi:TI}{g:TG}{tt:TT}{te:TE}{pos:Pos}
structure Free1 (X:Cx) (pins:List (Addr×Obj)) (H:Hp) (C:Addr):Prop where
 loc:C≠X.env.locals
 cel:∀ x c,X.env.cells.lookup x=some c->c≠C
 fr:H C=none
 new:X.s₀.heap.objs.size<=C
 pin:∀ p∈X.pn++pins,p.1≠C
theorem Inv.freed {X:Cx}{pins:List (Addr×Obj)}{σ:St}{H:Hp}{s:J9i}{C:Addr}{h':Heap}(I:Inv X pins σ H s) (f:Free1 X pins H C) (hs:Xy C s.heap h'):Inv X pins σ H { s with heap:=h' }:=
 I.turned (t':=s.toks) (it:=C) (λ b o hb e=>(hs.2 b hb).trans e) f.fr f.loc (.inr f.new) f.cel f.pin
theorem Jgr {pins:List (Addr×Obj)}{s:J9i}{σ:St}{E:J9g->J9i->Prop}{RR:J9g->Addr->J91->J9i->Prop}{itv:J9g}{Qe:Addr->Hp->Prop}
 (hc:X.calm=true) (S:CompScope sc N scope N' k idx) (hsc:X.env.scope=sc) (hNN:X.N=N)
 (hg:∀ C s H fp,PG (Wb X N' scope C s H fp) tg g) (ht:∀ C s H fp,PTs (Wb X N' scope C s H fp) ifs tt) (he:∀ C s H fp,PE (Wb X N' scope C s H fp) elt te)
 (hit:PIE X pins σ tg (λ J H1=>∀ l,H1 l=none->Jj1 J g tt te l (Yp k idx σ) (upd H1 l (.lst [])) λ H2=>Qe l H2) itv s)
 (hRR:∀ l H2 C s2,Inv X pins σ H2 s2->(∃ m,s2.heap.Ns C m)->Free1 X pins H2 C->Qe l H2->RR (.ref l) C (.ok .next) s2) :
 J9j (model X.prog X.w) X.A (newList []) (λ acc s₃=>J9j (model X.prog X.w) X.A (newFunctionEnv scope X.env.globals (Yi X.env scope.names []) [] X.env.qual none .none (some X.env)) (λ cenv s₄=>
  J9u (model X.prog X.w) X.A (.compStart (.ListComp elt [⟨tg,iter,ifs,0⟩] scope pos) 0 itv acc { cenv with scope:=relabel scope X.env }) (RR acc cenv.locals) s₄) E s₃) E s:=by
 obtain ⟨it,fp,tn,J,H1,rfl,I1,T,st1,f1,q⟩:=hit
 refine wpAny_newObj_type ?_
 have hf0:H1 s.heap.objs.size=none:=I1.hok.fresh (Qm _)
 have hflt:∀ b∈fp,b<s.heap.objs.size:=λ b hb=>let ⟨_,e,_⟩:=T.obj _ _ st1 b hb;Qt e
 generalize hl:s.heap.objs.size=l at *
 have I2:Inv X pins σ (upd H1 l (.lst [])) { s with heap:=s.heap.push { cls:=.type "list",dict:=none,data:=.seq ([]:List J9g).toArray } }:=
  I1.laid (t':=s.toks) (λ b u e=>Qu _ e) (J4k hl) (show Y3 _ _ _ _ l (.lst []) from ⟨Xz _,[],0,.nil,by rw [<- hl];exact Q9 _ rfl⟩)
 have st2:tn 0 (s.heap.push { cls:=.type "list",dict:=none,data:=.seq ([]:List J9g).toArray }):=T.keep _ _ _ st1 λ b _ o e=>Qu _ e
 have f2:∀ b∈fp,Jc2 X pins (upd H1 l (.lst [])) b:=λ b hb=>⟨by rw [Jf (Q5 (hflt b hb))];exact (f1 b hb).1,(f1 b hb).2⟩
 have hsz2:(s.heap.push { cls:=.type "list",dict:=none,data:=.seq ([]:List J9g).toArray }).objs.size=l+1:=by rw [Xv,hl]
 have q2:=q l hf0
 generalize hs2:({ s with heap:=s.heap.push { cls:=.type "list",dict:=none,data:=.seq ([]:List J9g).toArray } }:J9i)=s2 at I2 ⊢
 have st2:tn 0 s2.heap:=by rw [<- hs2];exact st2
 have hsz2:s2.heap.objs.size=l+1:=by rw [<- hs2];exact hsz2
 refine wpAny_newFunctionEnv S.nocell (by intro y hy;simp at hy) (λ h₁ hns₁ hsb₁=>?_) S.kind
 have hk1:∀ b o,s2.heap.get? b=some o->h₁.get? b=some o:=λ b o e=>hsb₁.extBut b o (Q5 (Qt e)) (Qu _ e)
 have hlt2:∀ b∈fp,b<s2.heap.objs.size:=λ b hb=>by rw [hsz2];exact J34 (hflt b hb)
 have I3:=Jnx (t':=s2.toks+([]:List (Str×J9g)).length) I2 S hsc hNN f2 hlt2 (by simpa using hns₁) hk1
 generalize hC:s2.heap.objs.size=C at *
 have st3:tn 0 h₁:=T.keep _ _ _ st2 λ b _ o e=>hk1 b o e
 obtain ⟨W,⟨m0,w0⟩,turn⟩:=q2
 -- back to the frame around
 have back:∀ {σ':St} {H':Hp} {s':J9i},Inv (Wb X N' scope C s2 (upd H1 l (.lst [])) fp) [] σ' H' s'->Inv X pins σ H' s':=λ {σ' H' s'} I'=>
  I2.call' I'.os I'.base I'.hok I'.bare λ b hb=>⟨(f2 b hb).2.2.2.1,(f2 b hb).2.1,(f2 b hb).2.2.2.2.1,(f2 b hb).2.2.2.2.2⟩
 have loop:∀ s₃:J9i,s₃ = { s2 with heap:=h₁,toks:=s2.toks+([]:List (Str×J9g)).length } ->
  J9u (model X.prog X.w) X.A (.compLoop (.ListComp elt [⟨tg,iter,ifs,0⟩] scope pos) 0 (.ref it) (.ref l) (compEnvC scope (Yi X.env scope.names []) C X.env)) (RR (.ref l) C) s₃:=by
  rintro s₃ rfl
  refine Jfl (λ n s'=>∃ i σ' H',Inv (Wb X N' scope C s2 (upd H1 l (.lst [])) fp) [] σ' H' s'/\tn i s'.heap/\(∀ b∈fp,H' b=none)/\W i n σ' H') ?_ m0 ⟨0,_,_,I3,st3,λ b hb=>(f2 b hb).1,w0⟩
  rintro n s4 ⟨i,σ4,H4,I4,st4,fr4,w4⟩
  have stat:∀ {H':Hp},(∀ b∈fp,H' b=none)->∀ b∈fp,Jc2 (Wb X N' scope C s2 (upd H1 l (.lst [])) fp) [] H' b:=λ {H'} hn b hb=>
   ⟨hn b hb,(I4.ok.exf b hb).1,I4.ok.exfs b hb,.inl hb,(I4.ok.exf b hb).2,λ p hp=>by cases hp⟩
  rcases turn i n σ4 H4 w4 with ⟨stop,qn⟩ | ⟨go,step⟩
  . refine thn (T.done (Wb X N' scope C s2 (upd H1 l (.lst [])) fp) rfl rfl rfl hc i [] s4 σ4 H4 NoE I4 (stat fr4) st4 stop) λ r s5 ⟨hr,I5⟩=>?_
    subst hr
    have IX:=back I5
    have hCl:C≠X.env.locals:=λ e=>by
     have:=I2.lt
     rw [hC,<- e] at this
     exact Xc _ this
    have hCc:∀ x c,X.env.cells.lookup x=some c->c≠C:=λ x c e z=>by
     obtain ⟨v,o,ho,_⟩:=I2.cell x c e
     have:=Qt ho
     rw [hC,z] at this
     exact Xc _ this
    obtain ⟨m5,hm5,_⟩:=I5.loc
    refine hRR l H4 C s5 IX ⟨m5,hm5⟩ ⟨hCl,hCc,I5.free,by rw [<- hC];exact I2.sz,λ p hp z=>?_⟩ qn
    obtain ⟨e,_⟩:=I2.pin p hp
    have:=Qt e
    rw [hC,z] at this
    exact Xc _ this
  . refine thn (T.item (Wb X N' scope C s2 (upd H1 l (.lst [])) fp) rfl rfl rfl hc i [] s4 σ4 H4 NoE I4 (stat fr4) st4 go) λ r s5 ⟨u,hr,h5⟩=>?_
    subst hr
    refine thn h5 λ _ s6 ⟨x,H6,I6,r6,y6,st6,fr6⟩=>?_
    have I6':=I6.pinned (stat fr6) (T.obj _ _ st6)
    have keepT:∀ {σ7:St} {H7:Hp} {s7:J9i},Inv (Wb X N' scope C s2 (upd H1 l (.lst [])) fp) ([]++Jes fp s6.heap) σ7 H7 s7->tn (i+1) s7.heap/\∀ b∈fp,H7 b=none:=λ {σ7 H7 s7} I7=>
     ⟨T.keep _ _ _ st6 λ b hb o e=>(I7.pin (b,o) (Xf _ (Xf _ (V1 hb e)))).1,λ b hb=>by
      obtain ⟨o,e,d⟩:=T.obj _ _ st6 b hb
      exact (I7.pin (b,o) (Xf _ (Xf _ (V1 hb e)))).2.1⟩
    refine thn (hg C s2 (upd H1 l (.lst [])) fp _ s6 σ4 H6 x u _ I6' r6 (step x H6 y6)) λ _ s7 ⟨σ7,H7,I7,q7⟩=>?_
    refine thn (ht C s2 (upd H1 l (.lst [])) fp _ s7 σ7 H7 _ I7 q7) λ ok s8 ⟨H8,I8,q8⟩=>?_
    cases ok with
    | false=>
     rw [if_neg (by decide)] at q8 ⊢
     obtain ⟨m',hm,w8⟩:=q8
     have kt:=keepT I8
     exact ⟨m',hm,i+1,σ7,H8,I8.unpinned,kt.1,kt.2,w8⟩
    | true=>
     rw [if_pos rfl] at q8 ⊢
     refine thn (he C s2 (upd H1 l (.lst [])) fp _ s8 σ7 H8 _ I8 q8) λ v s9 ⟨y,H9,I9,r9,xs,e9,z9,m',hm,w9⟩=>?_
     refine thn (Vm _ s9 σ7 H9 (.ref l) [y] (.ref l) [v] (λ z H10=>z = .non/\H10=upd H9 l (.lst (xs++[y]))) I9 rfl (.cons r9 .nil) ⟨l,xs,y,rfl,rfl,e9,z9,rfl,rfl⟩) λ _ s10 ⟨z,H10,I10,_,_,e10⟩=>?_
     subst e10
     have kt:=keepT I10
     exact ⟨m',hm,i+1,σ7,_,I10.unpinned,kt.1,kt.2,w9⟩
 have e2:(newEnv scope C X.env.globals (Yi X.env scope.names []) X.env.qual none .none (some X.env) Yag).locals=C:=rfl
 show J9u _ _ (.compStart _ 0 (.ref it) (.ref l) (compEnvC scope (Yi X.env scope.names []) C X.env)) (RR (.ref l) C) _
 exact Yau (loop _ rfl) (T.self _ 0 _ _ _ st3 (loop _ rfl))
theorem Yt (hc:X.calm=true) (S:CompScope sc N scope N' k idx) (hsc:X.env.scope=sc) (hNN:X.N=N) (hi:PI X tg iter wi)
 (hg:∀ C s H fp,PG (Wb X N' scope C s H fp) tg g) (ht:∀ C s H fp,PTs (Wb X N' scope C s H fp) ifs tt) (he:∀ C s H fp,PE (Wb X N' scope C s H fp) elt te)
 (hs:∀ x,Yah iter X.env x=pure x:=by intro _;rfl):PE X (.ListComp elt [⟨tg,iter,ifs,0⟩] scope pos) (Jau wi k idx g tt te):=by
 intro pins s σ H Q I h
 rw [eval_ListComp]
 have hclos:Yaf scope X.env=pure (Yi X.env scope.names []):=Ba λ x hx hfree=>I.ok.has x.1 (by
  show X.env.scope.names.lookup x.1=_\/X.env.scope.names.lookup x.1=_
  rw [hsc];exact S.fr x hx hfree)
 refine wpAny_comprehension_free (use:=none) rfl hs hclos S.kind S.loc (thn (hi pins s σ H _ I h) λ v s1 h1=>thn h1 λ itv s2 h2=>?_)
 refine Jgr (RR:=λ acc C=>compPost (model X.prog X.w) X.A X.xe none (EP X pins σ Q) acc C) (Qe:=λ l H2=>Q (.ref l) H2) hc S hsc hNN hg ht he h2 ?_
 intro l H2 C s2 I2 hm f q
 obtain ⟨m,hm⟩:=hm
 exact ⟨m,hm,λ h' hs'=>⟨.ref l,H2,I2.freed f hs',rfl,q⟩⟩
def Bf (i:Nat) (wi:TI) (k:Nat) (idx:List Nat) (g:TG) (tt:TT) (te:TE):TS:=λ D σ H=>wi σ H λ J H1=>∀ l,H1 l=none->Jj1 J g tt te l (Yp k idx σ) (upd H1 l (.lst [])) λ H2=>D.nx (σ.set i (some (.ref l))) H2
theorem Wn {i:Nat}{y:Str}{py spos:Pos}(hc:X.calm=true) (hN:X.N.Nodup) (hiN:X.N[i]? = some y) (hy:X.env.scope.names.lookup y=some .local) (S:CompScope sc N scope N' k idx) (hsc:X.env.scope=sc) (hNN:X.N=N) (hi:PI X tg iter wi)
 (hg:∀ C s H fp,PG (Wb X N' scope C s H fp) tg g) (ht:∀ C s H fp,PTs (Wb X N' scope C s H fp) ifs tt) (he:∀ C s H fp,PE (Wb X N' scope C s H fp) elt te)
 (hsw:J98 (.ListComp elt [⟨tg,iter,ifs,0⟩] scope pos) (some (.Name y py)) spos.line X.env=pure true:=by rfl)
 (hs:∀ x,Yah iter X.env x=pure x:=by intro _;rfl):PS X (.Assign [.Name y py] (.ListComp elt [⟨tg,iter,ifs,0⟩] scope pos) spos) (Bf i wi k idx g tt te):=by
 intro pins s σ H D I h
 rw [Yav _ _ _ _ hsw]
 refine wpAny_bind (wpAny_standAt (wpAny_bind ?_))
 show J9j _ X.A (do let _ <- comprehension (.ListComp elt [⟨tg,iter,ifs,0⟩] scope pos) scope X.env _ (newList []) false (eval iter X.env) (some (assign (.Name y py) X.env))) _ _ s
 have hclos:Yaf scope X.env=pure (Yi X.env scope.names []):=Ba λ x hx hfree=>I.ok.has x.1 (by
  show X.env.scope.names.lookup x.1=_\/X.env.scope.names.lookup x.1=_
  rw [hsc];exact S.fr x hx hfree)
 refine wpAny_bind (wpAny_mono (wpAny_comprehension_free (use:=some (assign (.Name y py) X.env)) (Q:=λ _ s'=>SP X pins D .next s') rfl hs hclos S.kind S.loc (thn (hi pins s σ H _ I h) λ v s1 h1=>thn h1 λ itv s2 h2=>?_))
  (λ _ s' hq=>wpAny_pure (wpAny_pure hq)) λ _ _ e=>e)
 refine Jgr (RR:=λ acc C=>compPost (model X.prog X.w) X.A X.xe (some (assign (.Name y py) X.env)) (λ _ s'=>SP X pins D .next s') acc C) (Qe:=λ l H2=>D.nx (σ.set i (some (.ref l))) H2) hc S hsc hNN hg ht he h2 ?_
 intro l H2 C s2 I2 hm f q
 obtain ⟨m,hm⟩:=hm
 show J9j _ X.A (assign (.Name y py) X.env (.ref l)) _ _ _
 refine Yan (Jer (v:=.ref l) I2 hN hiN (.inl hy) rfl (λ s' I' hch=>?_) (.inr hy))
 obtain ⟨a,hsb,ha⟩:=hch
 have haC:C≠a:=λ z=>by
  rcases ha with e | e
  . exact f.loc (z.trans e)
  . exact f.cel y a e z.symm
 exact ⟨m,hm.sameBut hsb haC,λ h' hs'=>⟨_,H2,I'.freed f hs',q⟩⟩
end
noncomputable def Ja9 (C:Addr) (ns:List Str) (ds:List J9h):List (J9h×J9h):=(.int (C:Nat),.none)::J35 (λ n d=>(PyData.str n,d)) ns ds
mutual
inductive Rep (ex:List Addr) (H:Hp):J9h->V->Prop
 | none:Rep ex H .none .non
 | bool (b:Bool):Rep ex H (.bool b) (.bl b)
 | int (i:Int):Rep ex H (.int i) (.int i)
 | str (x:Str):Rep ex H (.str x) (.str x)
 | tuple {a:Addr} {xs:List V} {ds:List J9h} (e:H a=some (.tup xs)) (n:a∉ex) (z:xs.length<=sizeLine) (r:Reps ex H ds xs):Rep ex H (.tuple ds) (.ref a)
 | list {a:Addr} {xs:List V} {ds:List J9h} (e:H a=some (.lst xs)) (n:a∉ex) (z:xs.length<=sizeLine) (r:Reps ex H ds xs):Rep ex H (.list ds) (.ref a)
 | obj {a C dx:Addr} {fs:List (Str×V)} {ds:List J9h} {kvs:List (J9h×J9h)} (e:H a=some (.ins C dx fs)) (n:a∉ex) (k:kvs=Ja9 C (fs.map (·.1)) ds) (r:Reps ex H ds (fs.map (·.2))):Rep ex H (.dict kvs) (.ref a)
inductive Reps (ex:List Addr) (H:Hp):List J9h->List V->Prop
 | nil:Reps ex H [] []
 | cons {d:J9h} {v:V} {ds:List J9h} {vs:List V}:Rep ex H d v->Reps ex H ds vs->Reps ex H (d::ds) (v::vs)
end
def Kp (ex:List Addr) (H H':Hp):Prop:=∀ b o,H b=some o->b∉ex->H' b=some o
theorem Kp.refl {ex:List Addr}{H:Hp}:Kp ex H H:=λ _ _ e _=>e
theorem Kp.trans {ex:List Addr}{H H1 H2:Hp}(a:Kp ex H H1) (b:Kp ex H1 H2):Kp ex H H2:=λ c o e n=>b c o (a c o e n) n
theorem Kp.of {ex:List Addr}{H H':Hp}(a:Kp [] H H'):Kp ex H H':=λ c o e _=>a c o e (by simp)
theorem Kp.mono {ex ex':List Addr}{H H':Hp}(a:Kp ex H H') (h:∀ b∈ex,b∈ex'):Kp ex' H H':=λ c o e n=>a c o e λ z=>n (h c z)
theorem Kp.new {ex:List Addr}{H:Hp}{p:Addr}(h:H p=none) (o:HO):Kp ex H (upd H p o):=λ b u q _=>by rw [Jf (Jq q h)];exact q
theorem Kp.at {ex:List Addr}{H:Hp}{p:Addr}(h:p∈ex) (o:HO):Kp ex H (upd H p o):=λ b u q n=>by rw [Jf (λ (z:b=p)=>n (by rw [z];exact h))];exact q
mutual
theorem Rep.keep {ex:List Addr}{H H':Hp}(k:Kp ex H H'):∀ {d:J9h}{v:V},Rep ex H d v->Rep ex H' d v
 | _,_,.none=>.none
 | _,_,.bool b=>.bool b
 | _,_,.int i=>.int i
 | _,_,.str x=>.str x
 | _,_,.tuple e n z r=>.tuple (k _ _ e n) n z (Reps.keep k r)
 | _,_,.list e n z r=>.list (k _ _ e n) n z (Reps.keep k r)
 | _,_,.obj e n q r=>.obj (k _ _ e n) n q (Reps.keep k r)
theorem Reps.keep {ex:List Addr}{H H':Hp}(k:Kp ex H H'):∀ {ds:List J9h}{vs:List V},Reps ex H ds vs->Reps ex H' ds vs
 | _,_,.nil=>.nil
 | _,_,.cons r t=>.cons (Rep.keep k r) (Reps.keep k t)
end
theorem Reps.length {ex:List Addr}{H:Hp}:∀ {ds:List J9h}{vs:List V},Reps ex H ds vs->ds.length=vs.length
 | _,_,.nil=>rfl
 | _,_,.cons _ t=>by simp [Reps.length t]
theorem Reps.get {ex:List Addr}{H:Hp}:∀ {ds:List J9h}{vs:List V}{i:Nat}{d:J9h},Reps ex H ds vs->ds[i]? = some d->∃ v,vs[i]? = some v/\Rep ex H d v
 | _,_,_,_,.nil,e=>by simp at e
 | _,_,0,_,.cons r _,e=>by simp at e;subst e;exact ⟨_,rfl,r⟩
 | _,_,i+1,d,.cons _ t,e=>by
  obtain ⟨u,h1,h2⟩:=Reps.get (i:=i) (d:=d) t (by simpa using e)
  exact ⟨u,by simpa using h1,h2⟩
theorem Reps.append {ex:List Addr}{H:Hp}:∀ {ds es:List J9h}{vs ws:List V},Reps ex H ds vs->Reps ex H es ws->Reps ex H (ds++es) (vs++ws)
 | _,_,_,_,.nil,s=>s
 | _,_,_,_,.cons r t,s=>.cons r (Reps.append t s)
theorem Reps.take {ex:List Addr}{H:Hp}:∀ {ds:List J9h}{vs:List V}(n:Nat),Reps ex H ds vs->Reps ex H (ds.take n) (vs.take n)
 | _,_,0,_=>.nil
 | _,_,_+1,.nil=>.nil
 | _,_,n+1,.cons r t=>.cons r (Reps.take n t)
theorem Reps.drop {ex:List Addr}{H:Hp}:∀ {ds:List J9h}{vs:List V}(n:Nat),Reps ex H ds vs->Reps ex H (ds.drop n) (vs.drop n)
 | _,_,0,r=>r
 | _,_,_+1,.nil=>.nil
 | _,_,n+1,.cons _ t=>Reps.drop n t
theorem Reps.ints {ex:List Addr}{H:Hp}:∀ ns:List Int,Reps ex H (ns.map Qq) (ns.map V.int)
 | []=>.nil
 | n::r=>.cons (.int n) (Reps.ints r)
theorem Reps.ints_inv {ex:List Addr}{H:Hp}:∀ {ns:List Int}{vs:List V},Reps ex H (ns.map Qq) vs->vs=ns.map V.int
 | [],_,.nil=>rfl
 | n::r,_,.cons (.int _) t=>by rw [Reps.ints_inv t];rfl
theorem Reps.rep {ex:List Addr}{H:Hp}{ds:List J9h}{vs:List V}(h:Reps ex H ds vs):∀ k:Nat,Reps ex H (Qw k ds).flatten (Qw k vs).flatten
 | 0=>.nil
 | k+1=>by
  rw [U4,U4,J3a,J3a]
  exact Reps.append h (Reps.rep h k)
theorem Jls {d:J9h}{ds:List J9h}(h:J3b (d::ds)=true):d.canLay0=true/\J3b ds=true:=by rw [J3b,Xw] at h;exact h
mutual
theorem Rep.reads {ex:List Addr}{P:J9l}{w:J9k}{H:Hp}{h:Heap}(ok:HOk P w H h):∀ {d:J9h}{v:V}{u:J9g},d.canLay0=true->Rep ex H d v->Yo v u->∃ as,Reads h u d as
 | _,_,_,_,.none,r=>by cases (show _=Ur from r);exact ⟨_,.none⟩
 | _,_,_,_,.bool b,r=>by cases (show _=J3i b from r);exact ⟨_,.bool b⟩
 | _,_,_,_,.int i,r=>by obtain ⟨t,rfl⟩:=(show ∃ t,_=Uq i t from r);exact ⟨_,.int i t⟩
 | _,_,_,_,.str x,r=>by obtain ⟨t,rfl⟩:=(show ∃ t,_=J3h x t from r);exact ⟨_,.str x t⟩
 | _,_,_,hc,.tuple (a:=a) (xs:=xs) e n _ rs,r=>by
  cases (show _=Q4 a from r)
  obtain ⟨z,its,rv,o,e1,e2,n',e3⟩:=(show Y3 P w H h a (.tup xs) from ok a _ e)
  obtain ⟨as,ra⟩:=Reps.reads ok (by rw [U5] at hc;exact hc) rs rv
  exact ⟨as,.tuple e1 e2 e3 (by simpa using ra)⟩
 | _,_,_,hc,.list (a:=a) (xs:=xs) e n _ rs,r=>by
  cases (show _=Q4 a from r)
  obtain ⟨z,its,n',rv,e1⟩:=(show Y3 P w H h a (.lst xs) from ok a _ e)
  obtain ⟨as,ra⟩:=Reps.reads ok (by rw [U5] at hc;exact hc) rs rv
  exact ⟨_,.list e1 rfl rfl (by simpa using ra)⟩
 | _,_,_,hc,.obj _ _ _ _,r=>by rw [U5] at hc;cases hc
theorem Reps.reads {ex:List Addr}{P:J9l}{w:J9k}{H:Hp}{h:Heap}(ok:HOk P w H h):∀ {ds:List J9h}{vs:List V}{us:List J9g},J3b ds=true->Reps ex H ds vs->J9 vs us->∃ as,ReadsAll h us ds as
 | _,_,_,_,.nil,r=>by cases r;exact ⟨_,.nil⟩
 | _,_,_,hc,.cons q t,r=>by
  cases r with
  | cons r1 r2=>
   obtain ⟨as,h1⟩:=Rep.reads ok (Jls hc).1 q r1
   obtain ⟨bs,h2⟩:=Reps.reads ok (Jls hc).2 t r2
   exact ⟨_,.cons h1 h2⟩
end
section
variable {X:Cx}
def J0s:R2:=λ x y H Q=>∃ ex da db,Rep ex H da x/\Rep ex H db y/\da.canLay0=true/\db.canLay0=true/\min da.depth db.depth<=50/\Q (.bl (Uv da db)) H
def J0t:R2:=λ x y H Q=>∃ ex da db,Rep ex H da x/\Rep ex H db y/\da.canLay0=true/\db.canLay0=true/\min da.depth db.depth<=50/\Q (.bl (!Uv da db)) H
theorem Jsl (hu:X.A.units+64<cLine):OpR X (compareOp .Eq) J0s:=by
 intro pins s σ H x y v u Q I rx ry h
 obtain ⟨ex,da,db,r1,r2,c1,c2,hd,q⟩:=h
 obtain ⟨as,h1⟩:=Rep.reads I.hok c1 r1 rx
 obtain ⟨bs,h2⟩:=Rep.reads I.hok c2 r2 ry
 exact SeqAt.compareEq_reads h1 h2 c1 c2 (by omega) ⟨.bl (Uv da db),H,I,rfl,q⟩
theorem Jbw:Vt X (.builtin "all") (λ xs H Q=>X.calm=true/\∃ (p:Addr) (bs:List Bool),xs=[.ref p]/\SqL X.K H p (bs.map V.bl)/\Q (.bl (bs.all id)) H):=by
 intro pins s σ H xs us Q I r h
 obtain ⟨hc,p,bs,rfl,hq,q⟩:=h
 obtain ⟨u,rfl,ru⟩:=Jac r
 cases ru
 obtain ⟨its,rv,pl,hz⟩:=I.list hq
 have hl:=pl.isList
 have hlt:p<s.heap.objs.size:=by obtain ⟨_,e,_⟩:=hl;exact Qt e
 refine call_all_walk (wpAny_pyIter_list hl ?_)
 refine ⟨_,_,_,_,_,_,λ i=>bs.getD i true,rfl,J6f (A:=X.A.in1) (I.ok.hd hc) _ p (Q5 hlt) its.toArray,⟨⟨_,Q9 _ rfl,rfl,rfl⟩,hl.push _⟩,?_,λ h' tk hk=>?_⟩
 . intro i v s' Q' E' hP hQ
   have hP:its[i]? = some v:=by simpa using hP
   have hi:i<its.length:=(Qp.mp hP).1
   have hlen:=rv.length
   have hb:(bs.map V.bl)[i]? = some (V.bl (bs.getD i true)):=by
    rw [Qb] at hlen
    rw [Qh,Qd (by omega),Qg,Qd (by omega)]
    rfl
   obtain ⟨u,hu,ru⟩:=rv.get hb
   rw [hP] at hu
   cases hu
   cases (show v=J3i _ from ru)
   exact wpAny_truthy_bool hQ
 . have e:((Ql its.toArray.size).all λ i=>bs.getD i true)=bs.all id:=by
    have hlen:=rv.length
    rw [Qb] at hlen
    rw [Xa,<- hlen,Ug]
    simp only [X3,Q6]
    constructor
    . intro h b hb
      obtain ⟨i,hi,rfl⟩:=J4q.mp hb
      have:=h i hi
      rw [Qg,Qd hi] at this
      exact this
    . intro h i hi
      rw [Qg,Qd hi]
      exact h _ (Xo hi)
   rw [e]
   exact ⟨.bl (bs.all id),H,I.kept (t':=tk) (old_kept hk),rfl,q⟩
theorem Jlt:Vt X (.builtin "sum") (λ xs H Q=>X.calm=true/\∃ (p:Addr) (ns:List Int),xs=[.ref p]/\SqL X.K H p (ns.map V.int)/\Q (.int ns.sum) H):=by
 intro pins s σ H xs us Q I r h
 obtain ⟨hc,p,ns,rfl,hq,q⟩:=h
 obtain ⟨u,rfl,ru⟩:=Jac r
 cases ru
 obtain ⟨its,rv,pl,hz⟩:=I.list hq
 have hl:=pl.isList
 have hi:=Jc4 rv
 obtain ⟨xs,e⟩:=hi.allInts.items
 rw [e] at hl
 refine sum_intListG (I.ok.hd hc) hl λ h' tk t' hk=>?_
 have e2:preSum (numAt xs) xs.size=ns.sum:=by
  have h1:=hi.numsOf
  have h2:numsOf its.toArray.toList=(xs.toList.map (·.1)):=by rw [e,Yaq]
  rw [preSum_eq,J4r (by simp)]
  have h2':numsOf its=(xs.toList.map (·.1)):=by simpa using h2
  rw [<- h2',h1]
 rw [e2]
 exact ⟨.int ns.sum,H,I.kept (t':=tk) hk,⟨_,rfl⟩,q⟩
theorem Jlu:Vt X (.builtin "isinstance") (λ xs H Q=>∃ x T t b,xs=[x,.ty T]/\TyOf X.K H x t/\J52 X.K t (.type T)=some b/\Q (.bl b) H):=by
 intro pins s σ H xs us Q I r h
 obtain ⟨x,T,t,b,rfl,ty,e,q⟩:=h
 obtain ⟨u,w',rfl,ru,rw'⟩:=Jo6 r
 cases (show w'=J4h T from rw')
 exact Jqm I ru ty e λ tk=>⟨.bl b,H,I.tok tk,rfl,q⟩
noncomputable def Jj2:J9h->String
 | .none=>"NoneType"
 | .bool _=>"bool"
 | .int _=>"int"
 | .str _=>"str"
 | .list _=>"list"
 | .tuple _=>"tuple"
 | .dict _=>"dict"
noncomputable def noD:J9h->Bool
 | .dict _=>false
 | _=>true
theorem Rep.tyOf {ex:List Addr}{H:Hp}{K:Qc}{d:J9h}{v:V}(hn:noD d=true) (r:Rep ex H d v):TyOf K H v (.type (Jj2 d)):=by
 cases r with
 | none=>exact .non
 | bool b=>exact .bl b
 | int i=>exact .int i
 | str x=>exact .str x
 | tuple e n z r=>exact .tup e
 | list e n z r=>exact .lst e
 | obj=>cases hn
def Jxk (i j:Int):Prop:=0<j/\j.natAbs.log2<9000
theorem Jbx:OpR X (binaryOp .FloorDiv) (rI Jxk λ i j=>.int (i/j)):=opI λ i j _ _ _ _ _ hc q=>by
 have h1:(0:Int)<j:=hc.1
 exact floordiv_int (by omega) (by rw [Int.fdiv_eq_ediv_of_nonneg i (by omega)];exact q) (.inl (PyProof.noPylong_of_log2 hc.2))
end
theorem Jby {i j:Int}(h0:0<j) (h1:j<2^9000):Jxk i j:=by
 refine ⟨h0,?_⟩
 have hn:j.natAbs≠0:=by omega
 rw [J6g hn]
 have:(j.natAbs:Int)=j:=J36 (by omega)
 have h2:((j.natAbs:Nat):Int)<((2^9000:Nat):Int):=by rw [this];exact_mod_cast h1
 exact_mod_cast h2
def Cal (P:J9l) (w:J9k) (K:Qc) (mg:Str->Option J9g) (base:Heap) (name:Str) (k:Nat) (ps:List Str) (sp:Sp):Prop:=
 ∃ f fd,mg name=some (.ref f)/\Ui K (.ref f)=true/\Bn K fd ps []/\FnOk P w K mg base CX0 k f fd ps sp
def Def (K:Qc) (mg:Str->Option J9g) (name:Str) (st:Stmt) (ps:List Str):Prop:=
 ∃ f fd,mg name=some (.ref f)/\Fun K name name st f fd/\Bn K fd ps []
theorem Def.cal {P:J9l}{w:J9k}{K:Qc}{mg:Str->Option J9g}{base:Heap}{name:Str}{st:Stmt}{ps:List Str}{k:Nat}{sp:Sp}(d:Def K mg name st ps)
 (h:∀ f fd,Fun K name name st f fd->FnOk P w K mg base CX0 k f fd ps sp):Cal P w K mg base name k ps sp:=by
 obtain ⟨f,fd,hm,F,b⟩:=d
 exact ⟨f,fd,hm,F.kp,b,h f fd F⟩
theorem Cal.imp {P:J9l}{w:J9k}{K:Qc}{mg:Str->Option J9g}{base:Heap}{name:Str}{k:Nat}{ps:List Str}{sp sp':Sp}(c:Cal P w K mg base name k ps sp) (h:∀ vs H Q E,sp' vs H Q E->sp vs H Q E):Cal P w K mg base name k ps sp':=by
 obtain ⟨f,fd,hm,hk,b,F⟩:=c
 exact ⟨f,fd,hm,hk,b,F.imp h⟩
section
variable {X:Cx}{x:Str}{e:Expr}{es:List Expr}{p pos:Pos}{t:TA}{k:Nat}{ps:List Str}{sp:Sp}
theorem Yz (c:Cal X.prog X.w X.K X.mg X.base x k ps sp) (hr:Room k X.A) (hg:Gl X x) (ha:PA X (e::es) t) (hdb:(x==("__debug__":Str))=false:=by decide)
 (he:starEach (e::es) X.env=(false,eval e X.env)::starEach es X.env:=by rfl) (hpl:(backTo pos (starEach es X.env)).any (·.1)=false:=by rfl) :
 PE X (.Call (.Name x p) (e::es) [] pos) (Jiz sp [] E0 t):=by
 obtain ⟨f,fd,hm,hk,b,F⟩:=c
 exact Jvg F hr hg hm hk b .nil Jsk ha hdb he hpl
end
section
variable {X:Cx}
theorem Jy3 (hu:X.A.units+64<cLine):OpR X (compareOp .NotEq) J0t:=by
 intro pins s σ H x y v u Q I rx ry h
 obtain ⟨ex,da,db,r1,r2,c1,c2,hd,q⟩:=h
 obtain ⟨as,h1⟩:=Rep.reads I.hok c1 r1 rx
 obtain ⟨bs,h2⟩:=Rep.reads I.hok c2 r2 ry
 exact SeqAt.compareNe_reads h1 h2 c1 c2 (by omega) ⟨.bl (!Uv da db),H,I,rfl,q⟩
end
section
variable {X:Cx}
end
noncomputable def Jgs (d:J9h) (T:String):Bool:=Jj2 d==T||(Jj2 d == "bool" && T == "int")
theorem J0u (K:Qc) (d:J9h) (T:String) (hT:T = "int"\/T = "bool"\/T = "str"\/T = "tuple"\/T = "list"):J52 K (.type (Jj2 d)) (.type T)=some (Jgs d T):=by
 rcases hT with rfl | rfl | rfl | rfl | rfl<;>cases d<;>first | rfl | kernel_rfl
theorem Jgt {X:Cx}:Vt X (.builtin "isinstance") (λ xs H Q=>∃ ex d x T,xs=[x,.ty T]/\Rep ex H d x/\noD d=true/\(T = "int"\/T = "bool"\/T = "str"\/T = "tuple"\/T = "list")/\Q (.bl (Jgs d T)) H):=by
 intro pins s σ H xs us Q I r h
 obtain ⟨ex,d,x,T,rfl,rd,hn,hT,q⟩:=h
 exact Jlu pins s σ H _ us Q I r ⟨x,T,_,_,rfl,Rep.tyOf hn rd,J0u _ _ _ hT,q⟩
end L2
namespace My
open L2
theorem Jpb {ex:List Addr}{H:Hp}{ds:List J9h}{v:V}(r:Rep ex H (.tuple ds) v):∃ a xs,v = .ref a/\H a=some (.tup xs)/\a∉ex/\xs.length<=sizeLine/\Reps ex H ds xs:=by
 cases r with | tuple e n z rs=>exact ⟨_,_,rfl,e,n,z,rs⟩
theorem Jvl {ex:List Addr}{H:Hp}{ds:List J9h}{v:V}(r:Rep ex H (.list ds) v):∃ a xs,v = .ref a/\H a=some (.lst xs)/\a∉ex/\xs.length<=sizeLine/\Reps ex H ds xs:=by
 cases r with | list e n z rs=>exact ⟨_,_,rfl,e,n,z,rs⟩
theorem Jy4 {ex:List Addr}{H:Hp}{a b c:J9h}{vs:List V}(r:Reps ex H [a,b,c] vs):∃ x y z,vs=[x,y,z]/\Rep ex H a x/\Rep ex H b y/\Rep ex H c z:=by
 cases r with | cons r1 r=>cases r with | cons r2 r=>cases r with | cons r3 r=>cases r;exact ⟨_,_,_,rfl,r1,r2,r3⟩
theorem Jsm {ex:List Addr}{H:Hp}{a b c:J9h}{v:V}(r:Rep ex H (.tuple [a,b,c]) v):∃ at' x y z,v = .ref at'/\H at'=some (.tup [x,y,z])/\at'∉ex/\Rep ex H a x/\Rep ex H b y/\Rep ex H c z:=by
 obtain ⟨at',xs,rfl,e,n,_,rs⟩:=Jpb r
 obtain ⟨x,y,z,rfl,r1,r2,r3⟩:=Jy4 rs
 exact ⟨at',x,y,z,rfl,e,n,r1,r2,r3⟩
theorem Jpc {ex:List Addr}{H:Hp}{i:Int}{v:V}(r:Rep ex H (.int i) v):v = .int i:=by cases r;rfl
theorem Wf {c:Bool}{A B:Prop}(h1:c=true->A) (h2:c=false->B):if c=true then A else B:=by
 cases c with
 | true=>exact h1 rfl
 | false=>exact h2 rfl
noncomputable def Jy5:Option Int->List (Key×V)
 | none=>[]
 | some m=>[(X9 "most",V.int m)]
noncomputable def Jxl (c:Addr) (rest seed:Int) (turn:Int×Option Int):List (Key×V):=(X9 "cells",V.ref c)::(X9 "rest",V.int rest)::(X9 "seed",V.int seed)::(X9 "turn",V.int turn.1)::Jy5 turn.2
structure Jar (H:Hp) (p c:Addr):Prop where
 ex:∃ (ns:List Int) (rest seed:Int) (turn:Int×Option Int),H p=some (.dK (Jxl c rest seed turn))/\H c=some (.lst (ns.map V.int))/\ns.length<=63/\0<=seed/\seed<2^64
theorem Jar.fresh {H:Hp}{p c l:Addr}(J:Jar H p c) (h:H l=none):l∉[p,c]:=by
 obtain ⟨ns,r,s,t,h1,h2,_⟩:=J.ex
 intro z
 rcases Qf.mp z with rfl | z
 . rw [h] at h1;cases h1
 . cases Qs.mp z;rw [h] at h2;cases h2
section
variable (c:Addr) (r s:Int) (t:Int×Option Int) (x:Int)
end
structure JarX (H:Hp) (p c:Addr) (ns:List Int) (r sd:Int) (tn:Int×Option Int):Prop where
 d:H p=some (.dK (Jxl c r sd tn))
 l:H c=some (.lst (ns.map V.int))
theorem JarX.jar {H:Hp}{p c:Addr}{ns:List Int}{r sd:Int}{tn:Int×Option Int}(J:JarX H p c ns r sd tn) (h1:ns.length<=63) (h2:0<=sd) (h3:sd<2^64):Jar H p c:=⟨ns,r,sd,tn,J.d,J.l,h1,h2,h3⟩
def Jy6 (H:Hp) (p c:Addr) (e:Option Int):Prop:=∃ ns r sd tn,JarX H p c ns r sd (tn,e)/\ns.length<=63/\0<=sd/\sd<2^64
theorem Jy6.jar {H:Hp}{p c:Addr}{e:Option Int}(J:Jy6 H p c e):Jar H p c:=by
 obtain ⟨ns,r,sd,tn,X,h1,h2,h3⟩:=J
 exact X.jar h1 h2 h3
theorem W6 {t u:TS}{D:Ends}{σ:L2.St}{H:Hp}(Mid:L2.St->Hp->Prop) (h1:∀ N:L2.St->Hp->Prop,(∀ σ' H',Mid σ' H'->N σ' H')->t { D with nx:=N } σ H) (h2:∀ σ' H',Mid σ' H'->u D σ' H'):Jas t u D σ H:=h1 _ h2
theorem Jqr (ns:List Int) (lo hi:Option Int):∃ ms:List Int,Jlo (ns.map V.int) lo hi=ms.map V.int/\ms.length<=ns.length:=by
 unfold Jlo
 refine ⟨_,by rw [<- J37,<- J4s],?_⟩
 rw [J4m,J3z]
 omega
mutual
theorem Rep.mono {ex ex':List Addr}{H:Hp}(h:∀ b∈ex,b∈ex'):∀ {d:J9h}{v:V},Rep ex' H d v->Rep ex H d v
 | _,_,.none=>.none
 | _,_,.bool b=>.bool b
 | _,_,.int i=>.int i
 | _,_,.str x=>.str x
 | _,_,.tuple e n z r=>.tuple e (λ q=>n (h _ q)) z (Reps.mono h r)
 | _,_,.list e n z r=>.list e (λ q=>n (h _ q)) z (Reps.mono h r)
 | _,_,.obj e n k r=>.obj e (λ q=>n (h _ q)) k (Reps.mono h r)
theorem Reps.mono {ex ex':List Addr}{H:Hp}(h:∀ b∈ex,b∈ex'):∀ {ds:List J9h}{vs:List V},Reps ex' H ds vs->Reps ex H ds vs
 | _,_,.nil=>.nil
 | _,_,.cons r t=>.cons (Rep.mono h r) (Reps.mono h t)
end
theorem J0v {P:Int->Prop}(ns:List Int) {i:Int}(h:∀ n∈ns,P n) (h0:0<=i) (h1:i<ns.length):∃ n,atI (ns.map V.int) i=some (V.int n)/\P n:=by
 have hk:i.toNat<ns.length:=by omega
 have e:i=((i.toNat:Nat):Int):=by omega
 refine ⟨ns[i.toNat],?_,h _ (Xo hk)⟩
 have q:atI (ns.map V.int) ((i.toNat:Nat):Int)=some (V.int ns[i.toNat]):=Jjx (by rw [Qh,Qd hk];rfl)
 rw [<- e] at q
 exact q
theorem Jba {n:Nat}{i:Int}(h0:0<=i) (h1:i<n):ixN n i=some i.toNat:=by
 unfold ixN;rw [if_pos h0,if_pos h1]
def Jlv (K:Qc):Sp:=λ vs H Q _=>∃ (a:Addr) (ns:List Int),vs=[.ref a]/\SqL K H a (ns.map V.int)/\ns.length<=63/\∀ H',Q (.bl true) H'
theorem Jbz {α:Type}{l:List α}(h:l.length<=1000):l.length<=sizeLine:=Uy (Jqq h)
end My
namespace L2
theorem Bw (o i:Expr) (pos:Pos) (env:Env) (v:J9g):assign (.Subscript o i pos) env v=(do
 let ov <- holding [v] (eval o env)
 let iv <- holding [v,ov] (eval i env)
 J9y pos
 holding [v,ov,iv] (setItem ov iv v)
 Yaa (match i with | .Slice _ _ none _=>[iv,v,ov] | _=>[v,ov,iv]) []):=rfl
theorem Jfw (o f:Expr) (args:List Expr) (kws:List J92) (p pos:Pos) (env:Env) (v:J9g):assign (.Subscript o (.Call f args kws p) pos) env v=(do
 let ov <- holding [v] (eval o env)
 let iv <- holding [v,ov] (eval (.Call f args kws p) env)
 J9y pos
 holding [v,ov,iv] (setItem ov iv v)
 Yaa [v,ov,iv] []):=Bw _ _ _ _ _
theorem J2 (o:Expr) (x:Str) (p pos:Pos) (env:Env) (v:J9g):assign (.Subscript o (.Name x p) pos) env v=(do
 let ov <- holding [v] (eval o env)
 let iv <- holding [v,ov] (eval (.Name x p) env)
 J9y pos
 holding [v,ov,iv] (setItem ov iv v)
 Yaa [v,ov,iv] []):=Bw _ _ _ _ _
section
variable {X:Cx}{es:List Expr}{te:TE}{t:TA}{pos:Pos}
theorem Jdq {xs:List Expr}{k:Nat}(ha:PE X (.Tuple xs k pos) te) (hr:PA X es t):PA X (.Tuple xs k pos::es) (Yq te t):=V9 ha hr rfl
theorem Zc {k:Const}{j:Nat}(ha:PE X (.Constant k j pos) te) (hr:PA X es t):PA X (.Constant k j pos::es) (Yq te t):=V9 ha hr rfl
theorem Ja {x:Str}(ha:PE X (.Name x pos) te) (hr:PA X es t):PA X (.Name x pos::es) (Yq te t):=V9 ha hr rfl
theorem Zn {f:Expr}{xs:List Expr}{ks:List J92}(ha:PE X (.Call f xs ks pos) te) (hr:PA X es t):PA X (.Call f xs ks pos::es) (Yq te t):=V9 ha hr rfl
theorem Bx {a b:Expr}{op:J99}(ha:PE X (.BinOp a op b pos) te) (hr:PA X es t):PA X (.BinOp a op b pos::es) (Yq te t):=V9 ha hr rfl
theorem Jlw {a:Expr}{op:UnaryOp}(ha:PE X (.UnaryOp op a pos) te) (hr:PA X es t):PA X (.UnaryOp op a pos::es) (Yq te t):=V9 ha hr rfl
theorem Jny {a:Expr}{ops:List CmpOp}{bs:List Expr}(ha:PE X (.Compare a ops bs pos) te) (hr:PA X es t):PA X (.Compare a ops bs pos::es) (Yq te t):=V9 ha hr rfl
theorem Y4 {a b:Expr}(ha:PE X (.Subscript a b pos) te) (hr:PA X es t):PA X (.Subscript a b pos::es) (Yq te t):=V9 ha hr rfl
theorem Wy {e:Expr}{gs:List Comprehension}{sc:J9o}(ha:PE X (.ListComp e gs sc pos) te) (hr:PA X es t):PA X (.ListComp e gs sc pos::es) (Yq te t):=V9 ha hr rfl
end
structure PEs (X:Cx) (e:Expr) (t:TE):Prop where
 out:PE X e t
structure PAs (X:Cx) (es:List Expr) (t:TA):Prop where
 out:PA X es t
section
variable {X:Cx}{es:List Expr}{te:TE}{t:TA}{pos:Pos}
theorem J7 {e:Expr}(h:PE X e te):PEs X e te:=⟨h⟩
theorem Wz {k:Nat}(h:PAs X es t):PEs X (.Tuple es k pos) (Jvf t):=⟨Jyv h.out⟩
theorem Y9 (h:PAs X es t):PEs X (.List es pos) (Jyu t):=⟨Jyw h.out⟩
theorem Y2 {i:Int}{j:Nat}:PEs X (.Constant (.int i) j pos) (tC (.int i)):=⟨Ji⟩
theorem Jpd {i:Str}{j:Nat}:PEs X (.Constant (.str i) j pos) (tC (.str i)):=⟨Jgj⟩
theorem J5:PAs X [] Jbr:=⟨Jd⟩
theorem J3 {k:Const}{j:Nat}(ha:PEs X (.Constant k j pos) te) (hr:PAs X es t):PAs X (.Constant k j pos::es) (Yq te t):=⟨Zc ha.out hr.out⟩
theorem Zz {x:Str}(ha:PEs X (.Name x pos) te) (hr:PAs X es t):PAs X (.Name x pos::es) (Yq te t):=⟨Ja ha.out hr.out⟩
theorem Wo {f:Expr}{xs:List Expr}{ks:List J92}(ha:PEs X (.Call f xs ks pos) te) (hr:PAs X es t):PAs X (.Call f xs ks pos::es) (Yq te t):=⟨Zn ha.out hr.out⟩
theorem Jja {a b:Expr}{op:J99}(ha:PEs X (.BinOp a op b pos) te) (hr:PAs X es t):PAs X (.BinOp a op b pos::es) (Yq te t):=⟨Bx ha.out hr.out⟩
theorem Vn {a:Expr}{op:UnaryOp}(ha:PEs X (.UnaryOp op a pos) te) (hr:PAs X es t):PAs X (.UnaryOp op a pos::es) (Yq te t):=⟨Jlw ha.out hr.out⟩
theorem Jdr {a b:Expr}(ha:PEs X (.Subscript a b pos) te) (hr:PAs X es t):PAs X (.Subscript a b pos::es) (Yq te t):=⟨Y4 ha.out hr.out⟩
end
theorem def_mk {K:Qc}{h:Heap}{mg:Str->Option J9g}{x:Str}{st:Stmt}{ps:List Str}{f:Addr}{oc:J9g}{od an:Option Addr}{osl:Array (Option J9g)}{kV doc pm cdv ct:J9g}(X:K.In h) (G:h.Ns J9r mg)
 (a:J6h K J9r x=some (some (.ref f))) (l:K.lookup f=some ⟨oc,od,.func (X0 x x (We st) (Zx st) (Je st) .none kV doc pm an cdv ct),osl⟩) (c:J22 K cdv x=true) (k:Ui K (.ref f)=true)
 (hb:∀ (kV doc pm:J9g) (an:Option Addr) (cdv ct:J9g) (us:List J9g),us.length=ps.length->Yad (X0 x x (We st) (Zx st) (Je st) .none kV doc pm an cdv ct) ⟨us,[]⟩=pure (ps.zip us)):Def K mg x st ps:=
 ⟨f,_,J6i X G a,Jgp (st:=st) l c k,(Jgp (st:=st) l c k).binds hb⟩
end L2
namespace My
open L2
structure Way where
 a:Int
 b:Int
 g:List Int
noncomputable def Yk (w:Way):J9h:=.tuple [.int w.a,.int w.b,.tuple (w.g.map Qq)]
noncomputable def J0 (R P:Int) (ws:List Way):J9h:=.tuple [.int R,.int P,.tuple (ws.map Yk)]
structure WayOk (R P:Int) (w:Way):Prop where
 a0:0<=w.a
 a1:w.a<R
 b0:0<=w.b
 b1:w.b<R
 len:(w.g.length:Int)=P
 small:∀ x∈w.g,-99<=x/\x<=99
structure BookOk (R P:Int) (ws:List Way):Prop where
 r0:1<=R
 r1:R<=12
 p0:1<=P
 p1:P<=6
 len:ws.length<=60
 ways:∀ w∈ws,WayOk R P w
theorem W0 {n:Int}(h:n<=100000):n<2^9000:=Int.lt_of_le_of_lt h (by decide +kernel)
end My
namespace L2
section
variable {α:Type}{a b c d e f x:α}{l:List α}
theorem mm0:a∈a::l:=Qi
theorem mm1:b∈a::b::l:=Qj _ mm0
theorem mm2:c∈a::b::c::l:=Qj _ mm1
theorem mm3:d∈a::b::c::d::l:=Qj _ mm2
theorem mm4:e∈a::b::c::d::e::l:=Qj _ mm3
theorem mm5:f∈a::b::c::d::e::f::l:=Qj _ mm4
theorem mn0 (h:¬ x∈a::l):x≠a:=λ e=>h (e▸mm0)
theorem mn1 (h:¬ x∈a::b::l):x≠b:=λ e=>h (e▸mm1)
theorem mn2 (h:¬ x∈a::b::c::l):x≠c:=λ e=>h (e▸mm2)
theorem mn3 (h:¬ x∈a::b::c::d::l):x≠d:=λ e=>h (e▸mm3)
theorem mn4 (h:¬ x∈a::b::c::d::e::l):x≠e:=λ e=>h (e▸mm4)
theorem mn5 (h:¬ x∈a::b::c::d::e::f::l):x≠f:=λ e=>h (e▸mm5)
end
section
variable {prog:J9l}{w:J9k}{A:J9m}{E:J9g->J9i->Prop}{s:J9i}
theorem Jnz {j t:Addr}{i:Nat}{vs:Array J9g}{y:J9g}{Q:J9g->J9i->Prop}(g:s.heap.IsTupleIter j t i) (gt:s.heap.IsTuple t vs) (gy:vs[i]? = some y)
 (q:∀ h',h'.IsTupleIter j t (i+1)->Xy j s.heap h'->Q y { s with heap:=h' }):J9j (model prog w) A (J23 (.ref j)) Q E s:=by
 obtain ⟨oj,e1,e2,e3⟩:=id g
 obtain ⟨ot,e4,_,n4,e5⟩:=gt
 have goal2:J9j (model prog w) A.in1 (Builtin.«tuple_iterator.__next__» ⟨[.ref j],[]⟩) (λ fin s'=>∃ v,fin = .done (.ret v)/\J9j (model prog w) A (pure v) Q E s') E s:=by
  show J9j _ _ (field (.ref j) 0 >>= _) _ _ s
  refine wpAny_bind (wpAny_field e1 e3 (x:=.ref t) rfl ?_)
  show J9j _ _ (if (Q4 t==Ur)=true then _ else _) _ _ s;rw [if_neg (show ¬ ((Q4 t==Ur)=true) from λ z=>J7t z)]
  show J9j _ _ (field (.ref j) 1 >>= _) _ _ s
  refine wpAny_bind (wpAny_field e1 e3 (x:=.int i 0) rfl ?_)
  show J9j _ _ (J96 (.ref t) >>= _) _ _ s
  refine wpAny_bind (wpAny_seqItems e4 e5 ?_)
  simp only [Q0,gy]
  refine wpAny_bind (wpAny_setField e1 e3 (by first | exact mm0 | exact mm1 | exact mm2 | exact mm3 | exact mm4 | exact mm5 | simp) (wpAny_pure ⟨y,rfl,wpAny_pure (q _ ⟨_,J4n _ e1 (Obj.isFreed_of_fields (J7u e3 _)),(Obj.cls_mapFields ..).trans e2,?_⟩ (J7v ..))⟩))
  rw [J7u e3];simp [rawInt]
 unfold J23
 exact wpAny_bind (Yam (name:=J4t "__next__") g.typeIs J4u (wpAny_call_entry J4u g.typeIs J7w goal2 (J7x _)))
theorem Jqs {j t:Addr}{i:Nat}{vs:Array J9g}{Q:J9g->J9i->Prop}(hh:A.handled=none) (g:s.heap.IsTupleIter j t i) (gt:s.heap.IsTuple t vs) (gy:vs[i]? = none)
 (q:∀ h' e,Heap.ExtBut j s.heap h'->(∃ o,h'.get? e=some o/\o.cls = .type "StopIteration")->E (.ref e) { s with heap:=h' }):J9j (model prog w) A (J23 (.ref j)) Q E s:=by
 obtain ⟨oj,e1,e2,e3⟩:=id g
 obtain ⟨ot,e4,_,n4,e5⟩:=gt
 unfold J23
 refine wpAny_bind (Yam (name:=J4t "__next__") g.typeIs J4u (wpAny_call_entry J4u g.typeIs J7w ?_ (J7x _)))
 show J9j _ _ (field (.ref j) 0 >>= _) _ _ s
 refine wpAny_bind (wpAny_field e1 e3 (x:=.ref t) rfl ?_)
 show J9j _ _ (if (Q4 t==Ur)=true then _ else _) _ _ s;rw [if_neg (show ¬ ((Q4 t==Ur)=true) from λ z=>J7t z)]
 show J9j _ _ (field (.ref j) 1 >>= _) _ _ s
 refine wpAny_bind (wpAny_field e1 e3 (x:=.int i 0) rfl ?_)
 show J9j _ _ (J96 (.ref t) >>= _) _ _ s
 refine wpAny_bind (wpAny_seqItems e4 e5 ?_)
 simp only [Q0,gy]
 refine wpAny_bind (wpAny_rule (wpAny_bind (wpAny_setField e1 e3 (by first | exact mm0 | exact mm1 | exact mm2 | exact mm3 | exact mm4 | exact mm5 | simp) ?_)))
 show J9j _ _ (newExc (.type "StopIteration") [] >>= _) _ _ _;refine wpAny_bind ?_;simp only [newExc,newTuple]
 refine wpAny_bind (wpAny_newObj_type ?_ (by size_fits));refine wpAny_bind (m:=firstArgMember _ _) (wpAny_of_eq (a:=Ur) (by first | rfl | (simp only [firstArgMember];rfl)) ?_);refine wpAny_newObj_type ?_ (by size_fits)
 simp only [raiseNew];refine wpAny_bind (wpAny_handled ?_);first | rw [show A.in1.handled=none from hh] | rw [hh]
 refine wpAny_bind (wpAny_pure (wpAny_throw (q _ _ (((J7v ..).extBut.push _).push _) ⟨_,Q9 _ rfl,rfl⟩)))
end
def Jct (b:Bool) (h:Heap) (a:Addr) (vs:Array J9g):Prop:=match b with | true=>h.IsTuple a vs | false=>h.IsList a vs
def ItAt (b:Bool) (h:Heap) (j a:Addr) (i:Nat):Prop:=match b with | true=>h.IsTupleIter j a i | false=>h.IsListIter j a i
theorem Jct.at {b:Bool}{h h':Heap}{a:Addr}{vs:Array J9g}(x:Jct b h a vs) (k:∀ o,h.get? a=some o->h'.get? a=some o):Jct b h' a vs:=by
 cases b with
 | true=>exact let ⟨o,e,r⟩:=x;⟨o,k o e,r⟩
 | false=>exact let ⟨o,e,r⟩:=x;⟨o,k o e,r⟩
theorem ItAt.at {b:Bool}{h h':Heap}{j a:Addr}{i:Nat}(x:ItAt b h j a i) (k:∀ o,h.get? j=some o->h'.get? j=some o):ItAt b h' j a i:=by
 cases b with
 | true=>exact let ⟨o,e,r⟩:=x;⟨o,k o e,r⟩
 | false=>exact let ⟨o,e,r⟩:=x;⟨o,k o e,r⟩
theorem ItAt.obj {b:Bool}{h:Heap}{j a:Addr}{i:Nat}(x:ItAt b h j a i):∃ o,h.get? j=some o/\∀ v,o.data≠.cell v:=by
 cases b with
 | true=>exact let ⟨o,e,_,d⟩:=x;⟨o,e,λ v z=>by rw [d] at z;cases z⟩
 | false=>exact let ⟨o,e,_,d⟩:=x;⟨o,e,λ v z=>by rw [d] at z;cases z⟩
theorem Jav {prog:J9l}{w:J9k}{A:J9m}(b:Bool) (hh:A.handled=none) (j a:Addr) (hne:a≠j) (vs:Array J9g) :
 Draws prog w A j [j,a] vs.size (λ i v=>vs[i]? = some v) (λ i h=>ItAt b h j a i/\Jct b h a vs):=by
 cases b with
 | false=>exact Draws.list hh j a hne vs
 | true=>exact {
  live:=λ _ _ st=>let ⟨o,ho,_⟩:=st.1;⟨o,ho⟩
  frame:=λ _ _ _ st hk=>⟨ItAt.at (b:=true) st.1 λ o e=>hk j (by first | exact mm0 | exact mm1 | exact mm2 | exact mm3 | exact mm4 | exact mm5 | simp) o e,Jct.at (b:=true) st.2 λ o e=>hk a (by first | exact mm0 | exact mm1 | exact mm2 | exact mm3 | exact mm4 | exact mm5 | simp) o e⟩
  item:=λ i s Q E hi st hQ=>by
   have e:vs[i]? = some vs[i]:=by simp [hi]
   exact Jnz st.1 st.2 e λ h' g' sb=>hQ _ h' s.toks e ⟨g',Jct.at (b:=true) st.2 λ o z=>(sb.2 a hne).trans z⟩ sb
  done:=λ s Q E st hE=>Jqs hh st.1 st.2 (by first | exact mm0 | exact mm1 | exact mm2 | exact mm3 | exact mm4 | exact mm5 | simp) hE }
section
open AutoSeq1 (wpAny_loadPart')
theorem Jqt (l:Addr) (vs:Array J9g) (n:Nat) (dc:Option Addr) (sl:Array (Option J9g)) :
 Meets (Builtin.«enumerate.__new__» ⟨[.type "enumerate",.ref l],[]⟩) (λ _ R s=>s.heap.get? l=some { cls:=.type "tuple",dict:=dc,data:=.seq vs n,slots:=sl } /\
  R (.ok (.ret (.ref (s.heap.push { cls:=.type "tuple_iterator",data:=.fields #[.ref l,.int 0 0] }).objs.size)))
   { s with heap:=(s.heap.push { cls:=.type "tuple_iterator",data:=.fields #[.ref l,.int 0 0] }).push { cls:=.type "enumerate",data:=.fields #[.none,.bool false,.ref s.heap.objs.size,rawInt 0,.none,.none] } }):=
 .of_wp λ prog w A R s h=>by
  obtain ⟨hp,g,d,tk,os⟩:=s;obtain ⟨hl,h⟩:=h;have hsub:=sub_enumerate
  have hL:Heap.IsTuple (J6j ⟨hp,g,d,tk,os⟩) l vs:=⟨_,hl,rfl,n,rfl⟩
  wp_walk using J9z hl
  refine wpAny_stack_any λ st=>wpAny_pure ?_
  split
  . rename_i c _ _ _ _ _
    cases (c==J4h "enumerate")<;>(wp_walk using J9z hl,wpAny_pyIter_tuple hL;exact ⟨_,rfl,h⟩)
  . wp_walk using J9z hl,wpAny_pyIter_tuple hL
    exact ⟨_,rfl,h⟩
end
theorem Jqu {prog:J9l}{w:J9k}{A:J9m}{E:J9g->J9i->Prop}{s:J9i}(b:Bool) {l:Addr}{vs:Array J9g}{Q:J9g->J9i->Prop}(x:Jct b s.heap l vs)
 (q:∀ h',IsEnum h' (s.heap.objs.size+1) s.heap.objs.size 0 .none->ItAt b h' s.heap.objs.size l 0->h'.objs.size=s.heap.objs.size+2 ->
  (∀ c o,s.heap.get? c=some o->h'.get? c=some o)->Q (.ref (s.heap.objs.size+1)) { s with heap:=h' }) :
 J9j (model prog w) A (call (.type "enumerate") [.ref l]) Q E s:=by
 cases b with
 | false=>exact call_enumerate_list x q
 | true=>
  obtain ⟨⟨c,dc,dt,sl⟩,hl,hc,n,hd⟩:=x
  replace hc:c = .type "tuple":=hc
  replace hd:dt = .seq vs n:=hd
  subst hc hd
  refine callType_new F.called_enumerate (by decide) (F.typeCall_enumerate_1 _) (F.newCall_enumerate_1 _) (λ obj=>F.args_object_init_2 obj _) F.entry_enumerate_new (Jqt l vs n dc sl) ⟨hl,?_⟩
  have hz:(s.heap.push { cls:=.type "tuple_iterator",data:=.fields #[.ref l,.int 0 0] }).objs.size=s.heap.objs.size+1:=Xv ..
  show _/\_
  rw [hz]
  have he:IsEnum ((s.heap.push { cls:=.type "tuple_iterator",data:=.fields #[.ref l,.int 0 0] }).push { cls:=.type "enumerate",data:=.fields #[.none,.bool false,.ref s.heap.objs.size,rawInt 0,.none,.none] }) (s.heap.objs.size+1) s.heap.objs.size 0 .none:=by
   have z:=Q9 (s.heap.push { cls:=.type "tuple_iterator",data:=.fields #[.ref l,.int 0 0] }) (o:={ cls:=.type "enumerate",data:=.fields #[.none,.bool false,.ref s.heap.objs.size,rawInt 0,.none,.none] }) rfl
   rw [hz] at z;exact z
  exact ⟨⟨_,he,rfl⟩,q _ he ⟨_,Qu _ (Q9 _ rfl),rfl,rfl⟩ (by rw [Xv,hz]) λ c o y=>Qu _ (Qu _ y)⟩
noncomputable def Jjb (b:Bool) (l:Addr):Obj:={ cls:=.type (match b with | true=>"tuple_iterator" | false=>"list_iterator"),data:=.fields #[.ref l,.int 0 0] }
theorem Jlx {b:Bool}{h:Heap}{j l:Addr}(e:h.get? j=some (Jjb b l)):ItAt b h j l 0:=by
 cases b with
 | true=>exact ⟨_,e,rfl,rfl⟩
 | false=>exact ⟨_,e,rfl,rfl⟩
theorem Jds {prog:J9l}{w:J9k}{A:J9m}{E:J9g->J9i->Prop}{s:J9i}{b:Bool}{a:Addr}{vs:Array J9g}{Q:J9g->J9i->Prop}(x:Jct b s.heap a vs)
 (q:Q (.ref s.heap.objs.size) { s with heap:=s.heap.push (Jjb b a) }):J9j (model prog w) A (pyIter (.ref a)) Q E s:=by
 cases b with
 | true=>exact wpAny_pyIter_tuple x q
 | false=>exact wpAny_pyIter_list x q
noncomputable abbrev zz1 (b:Bool) (h:Heap) (l:Addr):Heap:=h.push (Jjb b l)
noncomputable abbrev zz2 (b b':Bool) (h:Heap) (l m:Addr):Heap:=(zz1 b h l).push (Jjb b' m)
noncomputable abbrev zz3 (b b':Bool) (h:Heap) (l m:Addr):Heap:=(zz2 b b' h l m).push { cls:=.type "tuple",data:=.seq #[.ref h.objs.size,.ref (zz1 b h l).objs.size] }
noncomputable abbrev zz4 (b b':Bool) (h:Heap) (l m:Addr):Heap:=(zz3 b b' h l m).push { cls:=.type "tuple",data:=.seq #[.none,.none] }
noncomputable abbrev zz5 (b b':Bool) (h:Heap) (l m:Addr):Heap:=(zz4 b b' h l m).push { cls:=.type "zip",data:=.fields #[.none,.bool false,.bool false,.ref (zz2 b b' h l m).objs.size,.ref (zz3 b b' h l m).objs.size] }
theorem Jvm (b b':Bool) (l m:Addr) (xs ys:Array J9g) :
 Meets (Builtin.«zip.__new__» ⟨[.type "zip",.ref l,.ref m],[]⟩) (λ _ R s=>Jct b s.heap l xs/\Jct b' s.heap m ys /\
  R (.ok (.ret (.ref (zz4 b b' s.heap l m).objs.size))) { s with heap:=zz5 b b' s.heap l m }):=
 .of_wp λ prog w A R s h=>by
  obtain ⟨hp,g,d,tk,os⟩:=s;obtain ⟨x1,x2,h⟩:=h
  have hsub:=sub_zip
  have x1':Jct b (J6j ⟨hp,g,d,tk,os⟩) l xs:=x1
  have x2':Jct b' (J6j ⟨hp.push (Jjb b l),g,d,tk,os⟩) m ys:=Jct.at x2 λ o e=>Qu _ e
  wp_walk using Jds x1',Jds x2'
  exact ⟨_,rfl,h⟩
structure ZApart (z TI TO j1 j2:Addr) (f1 f2:List Addr):Prop where
 m1:j1∈f1
 m2:j2∈f2
 z1:z∉f1
 z2:z∉f2
 o1:TO∉f1
 o2:TO∉f2
 q1:j1∉f2
 q2:j2∉f1
 iz:TI≠z
 io:TI≠TO
 i1:TI≠j1
 i2:TI≠j2
 oz:TO≠z
theorem ZApart.j1z {z TI TO j1 j2:Addr}{f1 f2:List Addr}(D:ZApart z TI TO j1 j2 f1 f2):j1≠z:=λ e=>D.z1 (e▸D.m1)
theorem ZApart.j2z {z TI TO j1 j2:Addr}{f1 f2:List Addr}(D:ZApart z TI TO j1 j2 f1 f2):j2≠z:=λ e=>D.z2 (e▸D.m2)
theorem ZApart.j1o {z TI TO j1 j2:Addr}{f1 f2:List Addr}(D:ZApart z TI TO j1 j2 f1 f2):j1≠TO:=λ e=>D.o1 (e▸D.m1)
theorem ZApart.j2o {z TI TO j1 j2:Addr}{f1 f2:List Addr}(D:ZApart z TI TO j1 j2 f1 f2):j2≠TO:=λ e=>D.o2 (e▸D.m2)
theorem Vu {a b:Addr}{l:List Addr}(h:a∉l) (hb:b∈l):b≠a:=λ e=>h (e▸hb)
section
variable {prog:J9l}{w:J9k}{A:J9m}{E:J9g->J9i->Prop}{s:J9i}{z TI TO j1 j2:Addr}{f1 f2:List Addr}{n1 n2 i:Nat}{P1 P2:Nat->J9g->Prop}{St1 St2:Nat->Heap->Prop}{a b:J9g}
theorem Jqv {Q:J9g->J9i->Prop}(D:ZApart z TI TO j1 j2 f1 f2) (D1:Draws prog w A j1 f1 n1 P1 St1) (D2:Draws prog w A j2 f2 n2 P2 St2) (hz:J9t s.heap z TI TO .none) (hI:J9p s.heap TI (.ref j1) (.ref j2)) (hO:J9p s.heap TO a b)
 (st1:St1 i s.heap) (st2:St2 i s.heap) (l1:i<n1) (l2:i<n2)
 (q:∀ x y h' tk,P1 i x->P2 i y->J9t h' z TI TO (rawInt s.heap.objs.size)->J9p h' TO x y->St1 (i+1) h'->St2 (i+1) h'->J9p h' s.heap.objs.size x y->h'.objs.size=s.heap.objs.size+1 ->
  (∀ c o,c≠z->c≠TO->c≠j1->c≠j2->s.heap.get? c=some o->h'.get? c=some o)->Q (.ref s.heap.objs.size) { s with heap:=h',toks:=tk }) :
 J9j (model prog w) A (Builtin.«zip.__next__» ⟨[.ref z],[]⟩) (λ fin s'=>∃ v,fin = .done (.ret v)/\Q v s') E s:=by
 obtain ⟨hp,gg,dd,t0,os⟩:=s
 show J9j _ _ (field (.ref z) 2 >>= _) _ _ _;refine wpAny_bind (wpAny_field hz rfl (x:=.bool false) rfl ?_)
 show J9j _ _ (field (.ref z) 3 >>= _) _ _ _;refine wpAny_bind (wpAny_field hz rfl (x:=.ref TI) rfl ?_)
 refine wpAny_bind (wpAny_seqItems hI rfl ?_)
 show J9j _ _ (J4v (.ref z) >>= _) _ _ _;refine wpAny_bind ?_;unfold J4v
 refine wpAny_bind (wpAny_field hz rfl (x:=.none) rfl (wpAny_pure ?_));simp only [if_true];refine wpAny_bind (wpAny_rule ?_)
 refine wpAny_bind (wpAny_field hz rfl (x:=.ref TO) rfl ?_)
 refine wpAny_bind (wpAny_setField_rec hz (by first | exact mm0 | exact mm1 | exact mm2 | exact mm3 | exact mm4 | exact mm5 | simp) λ g1 z1 b1=>?_);replace z1:J9t g1 z TI TO .ellipsis:=z1;replace b1:Xy z hp g1:=b1
 refine wpAny_bind ?_;simp only [List.zipIdx_cons,List.zipIdx_nil,J6d,J6k]
 refine wpAny_bind (wpAny_bind (wpAny_onRaise ?_))
 show J9j _ _ (J23 (.ref j1) >>= _) _ _ _
 refine wpAny_bind (D1.item i _ _ _ l1 (D1.frame _ _ _ st1 λ c hc o e=>b1.extBut c o (Vu D.z1 hc) e) λ x g2 t2 px s12 b2=>wpAny_pure ?_);replace b2:Xy j1 g1 g2:=b2
 have o2:J9p g2 TO a b:=b2.extBut _ _ (Qk D.j1o) (b1.extBut _ _ D.oz hO)
 refine wpAny_bind (wpAny_seqItems o2 rfl ?_)
 refine wpAny_bind (wpAny_updateSeq_pair o2 λ g3 o3 b3=>?_);replace o3:J9p g3 TO x b:=o3;replace b3:Xy TO g2 g3:=b3
 refine wpAny_bind (wpAny_letGo (wpAny_pure ?_));refine wpAny_bind (wpAny_bind (wpAny_onRaise ?_))
 show J9j _ _ (J23 (.ref j2) >>= _) _ _ _
 refine wpAny_bind (D2.item i _ _ _ l2 (D2.frame _ _ _ st2 λ c hc o e=>b3.extBut c o (Vu D.o2 hc) (b2.extBut c o (Vu D.q1 hc) (b1.extBut c o (Vu D.z2 hc) e))) λ y g4 t4 py s24 b4=>wpAny_pure ?_);replace b4:Xy j2 g3 g4:=b4
 have o4:J9p g4 TO x b:=b4.extBut _ _ (Qk D.j2o) o3
 refine wpAny_bind (wpAny_seqItems o4 rfl ?_)
 refine wpAny_bind (wpAny_updateSeq_pair o4 λ g5 o5 b5=>?_);replace o5:J9p g5 TO x y:=o5;replace b5:Xy TO g4 g5:=b5
 refine wpAny_bind (wpAny_letGo (wpAny_pure (wpAny_pure ?_)))
 refine wpAny_bind (wpAny_seqItems o5 rfl ?_);refine wpAny_bind (wpAny_newTuple ?_)
 have sz:g5.objs.size=hp.objs.size:=by rw [b5.1,b4.1,b3.1,b2.1,b1.1]
 have z5:J9t g5 z TI TO .ellipsis:=b5.extBut _ _ (Qk D.oz) (b4.extBut _ _ (Qk D.j2z) (b3.extBut _ _ (Qk D.oz) (b2.extBut _ _ (Qk D.j1z) z1)))
 have k5:∀ c o,c≠z->c≠TO->c≠j1->c≠j2->hp.get? c=some o->g5.get? c=some o:=λ c o c1 c2 c3 c4 e=>b5.extBut _ _ c2 (b4.extBut _ _ c4 (b3.extBut _ _ c2 (b2.extBut _ _ c3 (b1.extBut _ _ c1 e))))
 have s15:St1 (i+1) g5:=D1.frame _ _ _ s12 λ c hc o e=>b5.extBut c o (Vu D.o1 hc) (b4.extBut c o (Vu D.q2 hc) (b3.extBut c o (Vu D.o1 hc) e))
 have s25:St2 (i+1) g5:=D2.frame _ _ _ s24 λ c hc o e=>b5.extBut c o (Vu D.o2 hc) e
 have zl:z<g5.objs.size:=Qt z5
 show J9j _ _ (J7y (.ref z) (.ref g5.objs.size) >>= _) _ _ _;refine wpAny_bind ?_;unfold J7y
 have z6:J9t (g5.push { cls:=.type "tuple",data:=.seq #[x,y] }) z TI TO .ellipsis:=Qu _ z5
 refine wpAny_bind (wpAny_setField_rec z6 (by first | exact mm0 | exact mm1 | exact mm2 | exact mm3 | exact mm4 | exact mm5 | simp) λ g7 z7 b7=>?_);replace z7:J9t g7 z TI TO (rawInt g5.objs.size):=z7
 refine wpAny_setField_rec z7 (by first | exact mm0 | exact mm1 | exact mm2 | exact mm3 | exact mm4 | exact mm5 | simp) λ g8 z8 b8=>?_;replace z8:J9t g8 z TI TO (rawInt g5.objs.size):=z8
 have up:∀ c o,c≠z->g5.get? c=some o->g8.get? c=some o:=λ c o c1 e=>b8.extBut _ _ c1 (b7.extBut _ _ c1 (Qu _ e))
 have t8:J9p g8 g5.objs.size x y:=b8.extBut _ _ (J3t zl) (b7.extBut _ _ (J3t zl) (Q9 _ rfl))
 have s8:g8.objs.size=g5.objs.size+1:=by rw [b8.1,b7.1,Xv]
 rw [sz] at z8 t8 s8
 refine wpAny_pure ⟨_,rfl,?_⟩;show Q (.ref g5.objs.size) _;rw [sz]
 exact q x y g8 t4 px py z8 (up _ _ D.oz o5) (D1.frame _ _ _ s15 λ c hc o e=>up c o (Vu D.z1 hc) e) (D2.frame _ _ _ s25 λ c hc o e=>up c o (Vu D.z2 hc) e) t8 s8 λ c o c1 c2 c3 c4 e=>up c o c1 (k5 c o c1 c2 c3 c4 e)
theorem Jsn {Q:Fin->J9i->Prop}(D:ZApart z TI TO j1 j2 f1 f2) (D1:Draws prog w A j1 f1 n1 P1 St1) (D2:Draws prog w A j2 f2 n2 P2 St2) (hz:J9t s.heap z TI TO .none) (hI:J9p s.heap TI (.ref j1) (.ref j2)) (hO:J9p s.heap TO a b)
 (st1:St1 i s.heap) (st2:St2 i s.heap) (hend:i=n1\/(i<n1/\i=n2))
 (q:∀ h' e tk,(∀ c o,c≠z->c≠TO->c≠j1->c≠j2->s.heap.get? c=some o->h'.get? c=some o)->(∃ o,h'.get? e=some o/\o.cls = .type "StopIteration")->E (.ref e) { s with heap:=h',toks:=tk }) :
 J9j (model prog w) A (Builtin.«zip.__next__» ⟨[.ref z],[]⟩) Q E s:=by
 obtain ⟨hp,gg,dd,t0,os⟩:=s
 show J9j _ _ (field (.ref z) 2 >>= _) _ _ _;refine wpAny_bind (wpAny_field hz rfl (x:=.bool false) rfl ?_)
 show J9j _ _ (field (.ref z) 3 >>= _) _ _ _;refine wpAny_bind (wpAny_field hz rfl (x:=.ref TI) rfl ?_)
 refine wpAny_bind (wpAny_seqItems hI rfl ?_)
 show J9j _ _ (J4v (.ref z) >>= _) _ _ _;refine wpAny_bind ?_;unfold J4v
 refine wpAny_bind (wpAny_field hz rfl (x:=.none) rfl (wpAny_pure ?_));simp only [if_true];refine wpAny_bind (wpAny_rule ?_)
 refine wpAny_bind (wpAny_field hz rfl (x:=.ref TO) rfl ?_)
 refine wpAny_bind (wpAny_setField_rec hz (by first | exact mm0 | exact mm1 | exact mm2 | exact mm3 | exact mm4 | exact mm5 | simp) λ g1 z1 b1=>?_);replace z1:J9t g1 z TI TO .ellipsis:=z1;replace b1:Xy z hp g1:=b1
 refine wpAny_bind ?_;simp only [List.zipIdx_cons,List.zipIdx_nil,J6d,J6k]
 refine wpAny_bind (wpAny_bind (wpAny_onRaise ?_))
 show J9j _ _ (J23 (.ref j1) >>= _) _ _ _
 have s11:=D1.frame _ _ _ st1 λ c hc o e=>b1.extBut c o (Vu D.z1 hc) e
 rcases hend with he | ⟨l1,he⟩
 . subst he
   refine wpAny_bind (D1.done _ _ _ s11 λ g2 e b2 he=>?_)
   obtain ⟨oe,hoe,hce⟩:=he
   have z2:J9t g2 z TI TO .ellipsis:=b2 _ _ (Qk D.j1z) z1
   have ez:e≠z:=λ x=>by subst x;rw [z2] at hoe;cases hoe;simp at hce
   refine wpAny_setField_rec z2 (by first | exact mm0 | exact mm1 | exact mm2 | exact mm3 | exact mm4 | exact mm5 | simp) λ g3 _ b3=>?_
   exact q g3 e t0 (λ c o c1 _ c3 _ x=>b3.extBut _ _ c1 (b2 _ _ c3 (b1.extBut _ _ c1 x))) ⟨oe,b3.extBut _ _ ez hoe,hce⟩
 . subst he
   refine wpAny_bind (D1.item i _ _ _ l1 s11 λ x g2 t2 px s12 b2=>wpAny_pure ?_);replace b2:Xy j1 g1 g2:=b2
   have o2:J9p g2 TO a b:=b2.extBut _ _ (Qk D.j1o) (b1.extBut _ _ D.oz hO)
   refine wpAny_bind (wpAny_seqItems o2 rfl ?_)
   refine wpAny_bind (wpAny_updateSeq_pair o2 λ g3 o3 b3=>?_);replace b3:Xy TO g2 g3:=b3
   refine wpAny_bind (wpAny_letGo (wpAny_pure ?_));refine wpAny_bind (wpAny_bind (wpAny_onRaise ?_))
   show J9j _ _ (J23 (.ref j2) >>= _) _ _ _
   refine wpAny_bind (D2.done _ _ _ (D2.frame _ _ _ st2 λ c hc o e=>b3.extBut c o (Vu D.o2 hc) (b2.extBut c o (Vu D.q1 hc) (b1.extBut c o (Vu D.z2 hc) e))) λ g4 e b4 he=>?_)
   obtain ⟨oe,hoe,hce⟩:=he
   have z4:J9t g4 z TI TO .ellipsis:=b4 _ _ (Qk D.j2z) (b3.extBut _ _ (Qk D.oz) (b2.extBut _ _ (Qk D.j1z) z1))
   have ez:e≠z:=λ x=>by subst x;rw [z4] at hoe;cases hoe;simp at hce
   refine wpAny_setField_rec z4 (by first | exact mm0 | exact mm1 | exact mm2 | exact mm3 | exact mm4 | exact mm5 | simp) λ g5 _ b5=>?_
   exact q g5 e t2 (λ c o c1 c2 c3 c4 x=>b5.extBut _ _ c1 (b4 _ _ c4 (b3.extBut _ _ c2 (b2.extBut _ _ c3 (b1.extBut _ _ c1 x))))) ⟨oe,b5.extBut _ _ ez hoe,hce⟩
theorem Jgu {Q:Option J9g->J9i->Prop}(D:ZApart z TI TO j1 j2 f1 f2) (D1:Draws prog w A.in1 j1 f1 n1 P1 St1) (D2:Draws prog w A.in1 j2 f2 n2 P2 St2) (hz:J9t s.heap z TI TO .none) (hI:J9p s.heap TI (.ref j1) (.ref j2)) (hO:J9p s.heap TO a b)
 (st1:St1 i s.heap) (st2:St2 i s.heap) (l1:i<n1) (l2:i<n2)
 (q:∀ x y h' tk,P1 i x->P2 i y->J9t h' z TI TO (rawInt s.heap.objs.size)->J9p h' TO x y->St1 (i+1) h'->St2 (i+1) h'->J9p h' s.heap.objs.size x y->h'.objs.size=s.heap.objs.size+1 ->
  (∀ c o,c≠z->c≠TO->c≠j1->c≠j2->s.heap.get? c=some o->h'.get? c=some o)->Q (some (.ref s.heap.objs.size)) { s with heap:=h',toks:=tk }) :
 J9j (model prog w) A (pyNext (.ref z)) Q E s:=by
 have hT:s.TypeIs (.ref z) "zip":=⟨_,hz,rfl⟩
 unfold pyNext
 exact wpAny_bind (wpAny_attempt (Yam (name:=J4t "__next__") hT J4w (wpAny_call_entry J4w hT J7z
  (Jqv D D1 D2 hz hI hO st1 st2 l1 l2 λ x y h' tk a1 a2 a3 a4 a5 a6 a7 a8 a9=>wpAny_pure (q x y h' tk a1 a2 a3 a4 a5 a6 a7 a8 a9)) (J70 _))))
theorem Jij {Q:Option J9g->J9i->Prop}(D:ZApart z TI TO j1 j2 f1 f2) (D1:Draws prog w A.in1 j1 f1 n1 P1 St1) (D2:Draws prog w A.in1 j2 f2 n2 P2 St2) (hz:J9t s.heap z TI TO .none) (hI:J9p s.heap TI (.ref j1) (.ref j2)) (hO:J9p s.heap TO a b)
 (st1:St1 i s.heap) (st2:St2 i s.heap) (hend:i=n1\/(i<n1/\i=n2))
 (q:∀ h' tk,(∀ c o,c≠z->c≠TO->c≠j1->c≠j2->s.heap.get? c=some o->h'.get? c=some o)->Q none { s with heap:=h',toks:=tk }):J9j (model prog w) A (pyNext (.ref z)) Q E s:=by
 have hT:s.TypeIs (.ref z) "zip":=⟨_,hz,rfl⟩
 unfold pyNext
 refine wpAny_bind (wpAny_attempt (Yam (name:=J4t "__next__") hT J4w (wpAny_call_entry J4w hT J7z (Jsn D D1 D2 hz hI hO st1 st2 hend λ h' e tk hk he=>?_) (J70 _))))
 obtain ⟨o,ho,hc⟩:=he
 refine wpAny_bind (wpAny_isInstance (T:="StopIteration") (b:=true) ⟨o,ho,hc⟩ isSubtype_stop ?_)
 exact wpAny_pure (q _ _ hk)
end
theorem Jqw {prog:J9l}{w:J9k}{A:J9m}{E:J9g->J9i->Prop}{s:J9i}(b b':Bool) {l m:Addr}{xs ys:Array J9g}{Q:J9g->J9i->Prop}(x1:Jct b s.heap l xs) (x2:Jct b' s.heap m ys)
 (q:∀ h',J9t h' (s.heap.objs.size+4) (s.heap.objs.size+2) (s.heap.objs.size+3) .none->J9p h' (s.heap.objs.size+2) (.ref s.heap.objs.size) (.ref (s.heap.objs.size+1)) ->
  J9p h' (s.heap.objs.size+3) .none .none->ItAt b h' s.heap.objs.size l 0->ItAt b' h' (s.heap.objs.size+1) m 0->h'.objs.size=s.heap.objs.size+5 ->
  (∀ c o,s.heap.get? c=some o->h'.get? c=some o)->Q (.ref (s.heap.objs.size+4)) { s with heap:=h' }) :
 J9j (model prog w) A (call (.type "zip") [.ref l,.ref m]) Q E s:=by
 refine callType_new F.called_zip (by decide) (F.typeCall_zip_2 _ _) (F.newCall_zip_2 _ _) (λ obj=>F.args_object_init_3 obj _ _) F.entry_zip_new (Jvm b b' l m xs ys) ⟨x1,x2,?_⟩
 have y1:(zz1 b s.heap l).objs.size=s.heap.objs.size+1:=Xv ..
 have y2:(zz2 b b' s.heap l m).objs.size=s.heap.objs.size+2:=by rw [Xv,y1]
 have y3:(zz3 b b' s.heap l m).objs.size=s.heap.objs.size+3:=by rw [Xv,y2]
 have y4:(zz4 b b' s.heap l m).objs.size=s.heap.objs.size+4:=by rw [Xv,y3]
 have y5:(zz5 b b' s.heap l m).objs.size=s.heap.objs.size+5:=by rw [Xv,y4]
 have fr:∀ b l,(Jjb b l).isFreed=false:=λ b l=>by cases b<;>rfl
 have g5:(zz5 b b' s.heap l m).get? (zz4 b b' s.heap l m).objs.size=some _:=Q9 _ rfl
 have g4:(zz5 b b' s.heap l m).get? (zz3 b b' s.heap l m).objs.size=some _:=Qu _ (Q9 _ rfl)
 have g3:(zz5 b b' s.heap l m).get? (zz2 b b' s.heap l m).objs.size=some _:=Qu _ (Qu _ (Q9 _ rfl))
 have g2:(zz5 b b' s.heap l m).get? (zz1 b s.heap l).objs.size=some _:=Qu _ (Qu _ (Qu _ (Q9 _ (fr b' m))))
 have g1:(zz5 b b' s.heap l m).get? s.heap.objs.size=some _:=Qu _ (Qu _ (Qu _ (Qu _ (Q9 _ (fr b l)))))
 show _/\_
 rw [y2,y3,y4] at g5;rw [y1,y2] at g3;rw [y3] at g4;rw [y1] at g2;rw [y4]
 exact ⟨⟨_,g5,rfl⟩,q _ g5 g3 g4 (Jlx g1) (Jlx g2) y5 λ c o x=>Qu _ (Qu _ (Qu _ (Qu _ (Qu _ x))))⟩
def SqK (b:Bool) (K:Qc) (H:Hp) (a:Addr) (xs:List V):Prop:=match b with | true=>SqT K H a xs | false=>SqL K H a xs
section
variable {X:Cx}{pins:List (Addr×Obj)}{σ:St}{H:Hp}{s:J9i}{a c:Addr}{xs ys:List V}{b:Bool}{h':Heap}
theorem Inv.seqK (I:Inv X pins σ H s) (h:SqK b X.K H a xs):∃ its:List J9g,J9 xs its/\Jct b s.heap a its.toArray/\xs.length<=sizeLine:=by
 cases b with
 | true=>exact let ⟨its,r,p,z⟩:=I.tuple h;⟨its,r,p,z⟩
 | false=>exact let ⟨its,r,p,z⟩:=I.list h;⟨its,r,p.isList,z⟩
theorem Inv.seqK_inj (I:Inv X pins σ H s) (h:SqK b X.K H a xs) (h':SqK b X.K H a ys):xs=ys:=by
 cases b with
 | true=>exact I.tuple_inj h h'
 | false=>exact I.list_inj h h'
theorem Inv.seqK_ne (I:Inv X pins σ H s) (h:SqK b X.K H a xs) (f:Jc2 X pins H c):a≠c:=by
 have base:∀ o,X.K.lookup a=some o->a≠c:=λ o hk e=>by
  have e1:=I.ok.mod.kin a o hk
  rcases f.2.2.2.1 with z | z
  . exact I.ok.noex a o e1 (e▸z)
  . exact absurd (Q1 (Qt e1) (Xi I.ok.bsz (e▸z))) (Xc _)
 cases b with
 | true=>
  rcases h with (q | ⟨o,q⟩) | ⟨o,_,_,hk,_⟩
  . exact Jq q f.1
  . exact Jq q f.1
  . exact base o hk
 | false=>
  rcases h with (q | ⟨o,q⟩) | ⟨o,_,_,hk,_⟩
  . exact Jq q f.1
  . exact Jq q f.1
  . exact base o hk
theorem Inv.turnedL {t':Nat}{fp:List Addr}(I:Inv X pins σ H s) (k:∀ b o,b∉fp->s.heap.get? b=some o->h'.get? b=some o) (hf:∀ b∈fp,Jc2 X pins H b):Inv X pins σ H { s with heap:=h',toks:=t' }:=by
 refine I.step (g':=s.gens) (d':=s.drawn) (ch:=fp) (λ b hb=>⟨(hf b hb).2.2.2.1,(hf b hb).2.1,(hf b hb).2.2.2.2.1,(hf b hb).2.2.2.2.2⟩) (λ b o _ _ hc e _=>k b o hc e) (λ b o _ _ hc e _=>⟨o.slots,k b o hc e⟩) (λ _ _ _ _ n=>n)
  (λ b o hc e=>⟨o,k b o hc e⟩) (λ _ _ e=>e) (λ _ _ _ e=>e) (λ b ps e=>⟨#[],by rw [e];simp⟩) (λ m hm=>?_) (λ b u e=>?_) I.bare
 . obtain ⟨o,es,ep,ho,r⟩:=hm
   exact ⟨o,es,ep,k _ o (λ z=>(hf _ z).2.1 rfl) ho,r⟩
 . refine (I.hok b u e).stay (λ c v hc q=>k c v (λ z=>?_) q) (λ _ q=>q) λ _ _ q=>q
   have hn:=(hf c z).1
   rcases hc with hc | hc
   . rw [hc,e] at hn;cases hn
   . rw [hc] at hn;cases hn
theorem Inv.turnLay {t':Nat}{fp:List Addr}{p:Addr}{o:HO}(I:Inv X pins σ H s) (k:∀ b o,b∉fp->s.heap.get? b=some o->h'.get? b=some o) (hf:∀ b∈fp,Jc2 X pins H b)
 (hp:s.heap.objs.size<=p) (new:Y3 X.prog X.w (upd H p o) h' p o):Inv X pins σ (upd H p o) { s with heap:=h',toks:=t' }:=by
 have hn:=I.hok.fresh hp
 refine I.step (g':=s.gens) (d':=s.drawn) (ch:=fp) (λ b hb=>⟨(hf b hb).2.2.2.1,(hf b hb).2.1,(hf b hb).2.2.2.2.1,(hf b hb).2.2.2.2.2⟩) (λ b o _ _ hc e _=>k b o hc e) (λ b o _ _ hc e _=>⟨o.slots,k b o hc e⟩) (λ b ob _ e n=>?_)
  (λ b o hc e=>⟨o,k b o hc e⟩) (λ b xs e=>?_) (λ b _ _ e=>?_) (λ b ps e=>⟨#[],?_⟩) (λ m hm=>?_) (λ b u e=>?_) I.bare
 . have hbp:b≠p:=Q5 (Q1 (Qt e) hp);rw [Jf hbp];exact n
 . rw [Jf (Jq e hn)];exact e
 . rw [Jf (Jq e hn)];exact e
 . rw [Jf (Jq e hn)];simpa using e
 . obtain ⟨o,es,ep,ho,r⟩:=hm
   exact ⟨o,es,ep,k _ o (λ z=>(hf _ z).2.1 rfl) ho,r⟩
 . by_cases hb:b=p
   . subst hb
     rw [Jh] at e;cases e
     exact new
   . rw [Jf hb] at e
     refine (I.hok b u e).stay (λ c v hc q=>k c v (λ z=>?_) q) (λ c q=>by rw [Jf (Jq q hn)];exact q) λ c _ q=>by rw [Jf (Jq q hn)];exact q
     have hn:=(hf c z).1
     rcases hc with hc | hc
     . rw [hc,e] at hn;cases hn
     . rw [hc] at hn;cases hn
end
noncomputable def Ite (b:Bool) (K:Qc) (a:Addr):It:=
 ⟨λ i H=>∃ xs x,SqK b K H a xs/\xs[i]? = some x,λ i H v H'=>∃ p y,H p=none/\H'=upd H p (.tup [.int i,y])/\v = .ref p/\∀ xs,SqK b K H a xs->xs[i]? = some y,λ i H=>∃ xs,SqK b K H a xs/\xs.length=i⟩
noncomputable def Itz (b b':Bool) (K:Qc) (a c:Addr):It:=
 ⟨λ i H=>∃ xs ys x y,SqK b K H a xs/\SqK b' K H c ys/\xs[i]? = some x/\ys[i]? = some y,λ i H v H'=>∃ p x y,H p=none/\H'=upd H p (.tup [x,y])/\v = .ref p/\(∀ xs,SqK b K H a xs->xs[i]? = some x)/\∀ ys,SqK b' K H c ys->ys[i]? = some y,
  λ i H=>∃ xs ys,SqK b K H a xs/\SqK b' K H c ys/\min xs.length ys.length=i⟩
theorem Jqx {P:J9l}{w:J9k}{K:Qc}{es:List Expr}{kk:Nat}{tp:Pos}(b:Bool) (a e j:Addr) (hej:e≠j):Turn P w K (.Tuple es kk tp) (Ite b K a) [e,j] e (λ i h=>(∃ old,IsEnum h e j i old)/\ItAt b h j a i) where
 mem:=by simp
 obj:=λ i h st c hc=>by
  obtain ⟨⟨old,he⟩,hj⟩:=st
  rcases Qf.mp hc with rfl | hc
  . exact ⟨_,he,λ v z=>by have z':J5s _=J3v v:=z;cases z'⟩
  . rw [Qs.mp hc];exact hj.obj
 keep:=λ i h h' st k=>by
  obtain ⟨⟨old,he⟩,hj⟩:=st
  exact ⟨⟨old,k e (by first | exact mm0 | exact mm1 | exact mm2 | exact mm3 | exact mm4 | exact mm5 | simp) _ he⟩,hj.at λ o q=>k j (by first | exact mm0 | exact mm1 | exact mm2 | exact mm3 | exact mm4 | exact mm5 | simp) o q⟩
 item:=by
  intro X hP hw hK hc i pins s σ H E I hf st hg
  subst hP hw hK
  obtain ⟨xs,x,hq,hx⟩:=hg
  obtain ⟨its,rv,p,hz⟩:=I.seqK hq
  obtain ⟨u,hu,ru⟩:=rv.get hx
  obtain ⟨⟨old,he⟩,hj⟩:=st
  have nae:=I.seqK_ne hq (hf e (by first | exact mm0 | exact mm1 | exact mm2 | exact mm3 | exact mm4 | exact mm5 | simp))
  have naj:=I.seqK_ne hq (hf j (by first | exact mm0 | exact mm1 | exact mm2 | exact mm3 | exact mm4 | exact mm5 | simp))
  have hlt:i<its.toArray.size:=by
   have:=(Qp.mp hu).1
   simpa using this
  refine wpAny_pyNext_enum_itemD (Jav b (A:=X.A.in1) (I.ok.hd hc) j a naj its.toArray) he ⟨hj,p⟩ hlt hej (by simp;exact ⟨hej,Qk nae⟩) λ y h1 tk hP ho st1 hT hsz hk=>?_
  have ey:y=u:=by
   have hP:its.toArray[i]? = some y:=hP
   have:its[i]? = some y:=by simpa using hP
   rw [hu] at this;exact (Xj this).symm
  subst ey
  refine ⟨_,rfl,wpAny_letOwnedTupleGo_enum ho λ h2 he2 hs2=>?_⟩
  replace hs2:Xy e h1 h2:=hs2
  have hes:e<s.heap.objs.size:=Qt he
  have hjs:j<s.heap.objs.size:=by obtain ⟨o,q,_⟩:=hj.obj;exact Qt q
  have kk:∀ c o,c∉[e,j]->s.heap.get? c=some o->h2.get? c=some o:=λ c o hc q=>by
   have h1':c≠e:=λ z=>hc (by simp [z])
   exact hs2.extBut _ _ h1' (hk c o h1' (λ z=>hc (by simp [z])) q)
  refine ⟨.ref s.heap.objs.size,upd H s.heap.objs.size (.tup [.int i,x]),I.turnLay (t':=tk+1) kk hf (Qm _) ?_,rfl,⟨_,x,I.hok.fresh (Qm _),rfl,rfl,λ ys hy=>by rw [I.seqK_inj hy hq];exact hx⟩,⟨⟨y,by simpa using he2⟩,st1.1.at λ o q=>hs2.extBut _ _ (Qk hej) q⟩,λ c hc=>?_⟩
  . exact ⟨by simp [J9n],[.int i tk,y],.cons ⟨tk,rfl⟩ (.cons ru .nil),_,hs2.extBut _ _ (J3t hes) hT,rfl,0,rfl⟩
  . rw [Jf]
    . exact (hf c hc).1
    . rcases Qf.mp hc with rfl | hc
      . exact Q5 hes
      . rw [Qs.mp hc];exact Q5 hjs
 done:=by
  intro X hP hw hK hc i pins s σ H E I hf st hg
  subst hP hw hK
  obtain ⟨xs,hq,hx⟩:=hg
  obtain ⟨its,rv,p,hz⟩:=I.seqK hq
  obtain ⟨⟨old,he⟩,hj⟩:=st
  have naj:=I.seqK_ne hq (hf j (by first | exact mm0 | exact mm1 | exact mm2 | exact mm3 | exact mm4 | exact mm5 | simp))
  have hl:=rv.length
  have hn:its.toArray.size=i:=by simp;omega
  refine wpAny_pyNext_enum_endD (Jav b (A:=X.A.in1) (I.ok.hd hc) j a naj its.toArray) he (by rw [hn];exact ⟨hj,p⟩) λ h1 hk=>⟨rfl,?_⟩
  exact I.turnedL (t':=s.toks) (λ c o hc q=>hk c o (λ z=>hc (by simp [z])) q) hf
 self:=λ _ _ _ _ _ st q=>by
  obtain ⟨⟨old,he⟩,_⟩:=st
  exact wpAny_pyIter_enum he q
theorem Jso {P:J9l}{w:J9k}{K:Qc}{es:List Expr}{kk:Nat}{tp:Pos}(b b':Bool) (a c z TI TO j1 j2:Addr) (dz:[z,TI,TO,j1,j2].Nodup) :
 Turn P w K (.Tuple es kk tp) (Itz b b' K a c) [z,TI,TO,j1,j2] z (λ i h=>J9t h z TI TO .none/\J9p h TI (.ref j1) (.ref j2)/\(∃ u v,J9p h TO u v)/\ItAt b h j1 a i/\ItAt b' h j2 c i) where
 mem:=by simp
 obj:=λ i h st d hd=>by
  obtain ⟨hz,hI,⟨u,v,hO⟩,h1,h2⟩:=st
  have notup:∀ (o:Obj) {w:J9g} {vs:Array J9g} {n:Nat},o.data = .seq vs n->o.data≠.cell w:=λ o w vs n e z=>by rw [e] at z;cases z
  rcases Qf.mp hd with rfl | hd
  . exact ⟨_,hz,λ v z=>by have z':J5s _=J3v v:=z;cases z'⟩
  . rcases Qf.mp hd with rfl | hd
    . exact ⟨_,hI,λ w z=>by have z':J6b _ _=J3v w:=z;cases z'⟩
    . rcases Qf.mp hd with rfl | hd
      . exact ⟨_,hO,λ w z=>by have z':J6b _ _=J3v w:=z;cases z'⟩
      . rcases Qf.mp hd with rfl | hd
        . exact h1.obj
        . rw [Qs.mp hd];exact h2.obj
 keep:=λ i h h' st k=>by
  obtain ⟨hz,hI,⟨u,v,hO⟩,h1,h2⟩:=st
  exact ⟨k z (by first | exact mm0 | exact mm1 | exact mm2 | exact mm3 | exact mm4 | exact mm5 | simp) _ hz,k TI (by first | exact mm0 | exact mm1 | exact mm2 | exact mm3 | exact mm4 | exact mm5 | simp) _ hI,⟨u,v,k TO (by first | exact mm0 | exact mm1 | exact mm2 | exact mm3 | exact mm4 | exact mm5 | simp) _ hO⟩,h1.at λ o q=>k j1 (by first | exact mm0 | exact mm1 | exact mm2 | exact mm3 | exact mm4 | exact mm5 | simp) o q,h2.at λ o q=>k j2 (by first | exact mm0 | exact mm1 | exact mm2 | exact mm3 | exact mm4 | exact mm5 | simp) o q⟩
 item:=by
  intro X hP hw hK hc i pins s σ H E I hf st hg
  subst hP hw hK
  obtain ⟨xs,ys,x,y,hq,hq',hx,hy⟩:=hg
  obtain ⟨its,rv,p,_⟩:=I.seqK hq
  obtain ⟨its',rv',p',_⟩:=I.seqK hq'
  obtain ⟨u,hu,ru⟩:=rv.get hx
  obtain ⟨u',hu',ru'⟩:=rv'.get hy
  obtain ⟨hz,hI,⟨o1,o2,hO⟩,h1,h2⟩:=st
  have na:=λ d hd=>I.seqK_ne hq (hf d hd)
  have na':=λ d hd=>I.seqK_ne hq' (hf d hd)
  simp only [Xq,Qf,X2,or_false,not_or] at dz
  obtain ⟨⟨d1,d2,d3,d4⟩,⟨d5,d6,d7⟩,⟨d8,d9⟩,d10,_⟩:=dz
  have hlt:i<its.toArray.size:=by have:=(Qp.mp hu).1;simpa using this
  have hlt':i<its'.toArray.size:=by have:=(Qp.mp hu').1;simpa using this
  have D:ZApart z TI TO j1 j2 [j1,a] [j2,c]:=⟨by simp,by simp,by simp;exact ⟨d3,Qk (na z (by first | exact mm0 | exact mm1 | exact mm2 | exact mm3 | exact mm4 | exact mm5 | simp))⟩,by simp;exact ⟨d4,Qk (na' z (by first | exact mm0 | exact mm1 | exact mm2 | exact mm3 | exact mm4 | exact mm5 | simp))⟩,by simp;exact ⟨d8,Qk (na TO (by first | exact mm0 | exact mm1 | exact mm2 | exact mm3 | exact mm4 | exact mm5 | simp))⟩,by simp;exact ⟨d9,Qk (na' TO (by first | exact mm0 | exact mm1 | exact mm2 | exact mm3 | exact mm4 | exact mm5 | simp))⟩,
   by simp;exact ⟨d10,Qk (na' j1 (by first | exact mm0 | exact mm1 | exact mm2 | exact mm3 | exact mm4 | exact mm5 | simp))⟩,by simp;exact ⟨Qk d10,Qk (na j2 (by first | exact mm0 | exact mm1 | exact mm2 | exact mm3 | exact mm4 | exact mm5 | simp))⟩,Qk d1,d5,d6,d7,Qk d2⟩
  refine Jgu D (Jav b (A:=X.A.in1) (I.ok.hd hc) j1 a (na j1 (by first | exact mm0 | exact mm1 | exact mm2 | exact mm3 | exact mm4 | exact mm5 | simp)) its.toArray) (Jav b' (A:=X.A.in1) (I.ok.hd hc) j2 c (na' j2 (by first | exact mm0 | exact mm1 | exact mm2 | exact mm3 | exact mm4 | exact mm5 | simp)) its'.toArray) hz hI hO ⟨h1,p⟩ ⟨h2,p'⟩ hlt hlt' λ v v' g1 tk e1 e2 z1 O1 s1 s2 T1 sz1 k1=>?_
  have ev:v=u:=by
   have e1:its.toArray[i]? = some v:=e1
   have:its[i]? = some v:=by simpa using e1
   rw [hu] at this;exact (Xj this).symm
  have ev':v'=u':=by
   have e2:its'.toArray[i]? = some v':=e2
   have:its'[i]? = some v':=by simpa using e2
   rw [hu'] at this;exact (Xj this).symm
  subst ev ev'
  refine ⟨_,rfl,wpAny_letOwnedTupleGo_zip z1 λ g2 z2 b2=>?_⟩
  replace b2:Xy z g1 g2:=b2
  have hzs:z<s.heap.objs.size:=Qt hz
  have kk:∀ d o,d∉[z,TI,TO,j1,j2]->s.heap.get? d=some o->g2.get? d=some o:=λ d o hd q=>by
   have h1':d≠z:=(by first | exact mn0 hd | exact mn1 hd | exact mn2 hd | exact mn3 hd | exact mn4 hd | exact mn5 hd)
   exact b2.extBut _ _ h1' (k1 d o h1' (by first | exact mn0 hd | exact mn1 hd | exact mn2 hd | exact mn3 hd | exact mn4 hd | exact mn5 hd) (by first | exact mn0 hd | exact mn1 hd | exact mn2 hd | exact mn3 hd | exact mn4 hd | exact mn5 hd) (by first | exact mn0 hd | exact mn1 hd | exact mn2 hd | exact mn3 hd | exact mn4 hd | exact mn5 hd) q)
  refine ⟨.ref s.heap.objs.size,upd H s.heap.objs.size (.tup [x,y]),I.turnLay (t':=tk) kk hf (Qm _) ?_,rfl,⟨_,x,y,I.hok.fresh (Qm _),rfl,rfl,λ zs hy=>by rw [I.seqK_inj hy hq];exact hx,λ zs hy'=>by rw [I.seqK_inj hy' hq'];exact hy⟩,
   ⟨z2,b2.extBut _ _ (Qk d1) (k1 _ _ (Qk d1) d5 d6 d7 hI),⟨_,_,b2.extBut _ _ (Qk d2) O1⟩,s1.1.at λ o q=>b2.extBut _ _ (Qk d3) q,s2.1.at λ o q=>b2.extBut _ _ (Qk d4) q⟩,λ d hd=>?_⟩
  . exact ⟨by simp [J9n],[v,v'],.cons ru (.cons ru' .nil),_,b2.extBut _ _ (J3t hzs) T1,rfl,0,rfl⟩
  . have lt:d<s.heap.objs.size:=by
     rcases Qf.mp hd with rfl | hd
     . exact hzs
     . rcases Qf.mp hd with rfl | hd
       . exact Qt hI
       . rcases Qf.mp hd with rfl | hd
         . exact Qt hO
         . rcases Qf.mp hd with rfl | hd
           . obtain ⟨o,q,_⟩:=h1.obj;exact Qt q
           . rw [Qs.mp hd];obtain ⟨o,q,_⟩:=h2.obj;exact Qt q
    rw [Jf (Q5 lt)]
    exact (hf d hd).1
 done:=by
  intro X hP hw hK hc i pins s σ H E I hf st hg
  subst hP hw hK
  obtain ⟨xs,ys,hq,hq',hm⟩:=hg
  obtain ⟨its,rv,p,_⟩:=I.seqK hq
  obtain ⟨its',rv',p',_⟩:=I.seqK hq'
  obtain ⟨hz,hI,⟨o1,o2,hO⟩,h1,h2⟩:=st
  have na:=λ d hd=>I.seqK_ne hq (hf d hd)
  have na':=λ d hd=>I.seqK_ne hq' (hf d hd)
  simp only [Xq,Qf,X2,or_false,not_or] at dz
  obtain ⟨⟨d1,d2,d3,d4⟩,⟨d5,d6,d7⟩,⟨d8,d9⟩,d10,_⟩:=dz
  have D:ZApart z TI TO j1 j2 [j1,a] [j2,c]:=⟨by simp,by simp,by simp;exact ⟨d3,Qk (na z (by first | exact mm0 | exact mm1 | exact mm2 | exact mm3 | exact mm4 | exact mm5 | simp))⟩,by simp;exact ⟨d4,Qk (na' z (by first | exact mm0 | exact mm1 | exact mm2 | exact mm3 | exact mm4 | exact mm5 | simp))⟩,by simp;exact ⟨d8,Qk (na TO (by first | exact mm0 | exact mm1 | exact mm2 | exact mm3 | exact mm4 | exact mm5 | simp))⟩,by simp;exact ⟨d9,Qk (na' TO (by first | exact mm0 | exact mm1 | exact mm2 | exact mm3 | exact mm4 | exact mm5 | simp))⟩,
   by simp;exact ⟨d10,Qk (na' j1 (by first | exact mm0 | exact mm1 | exact mm2 | exact mm3 | exact mm4 | exact mm5 | simp))⟩,by simp;exact ⟨Qk d10,Qk (na j2 (by first | exact mm0 | exact mm1 | exact mm2 | exact mm3 | exact mm4 | exact mm5 | simp))⟩,Qk d1,d5,d6,d7,Qk d2⟩
  have hl:=rv.length
  have hl':=rv'.length
  refine Jij D (Jav b (A:=X.A.in1) (I.ok.hd hc) j1 a (na j1 (by first | exact mm0 | exact mm1 | exact mm2 | exact mm3 | exact mm4 | exact mm5 | simp)) its.toArray) (Jav b' (A:=X.A.in1) (I.ok.hd hc) j2 c (na' j2 (by first | exact mm0 | exact mm1 | exact mm2 | exact mm3 | exact mm4 | exact mm5 | simp)) its'.toArray) hz hI hO ⟨h1,p⟩ ⟨h2,p'⟩ (by simp;omega) λ g1 tk k1=>⟨rfl,?_⟩
  exact I.turnedL (t':=tk) (λ d o hd q=>k1 d o (by first | exact mn0 hd | exact mn1 hd | exact mn2 hd | exact mn3 hd | exact mn4 hd | exact mn5 hd) (by first | exact mn0 hd | exact mn1 hd | exact mn2 hd | exact mn3 hd | exact mn4 hd | exact mn5 hd) (by first | exact mn0 hd | exact mn1 hd | exact mn2 hd | exact mn3 hd | exact mn4 hd | exact mn5 hd) (by first | exact mn0 hd | exact mn1 hd | exact mn2 hd | exact mn3 hd | exact mn4 hd | exact mn5 hd) q) hf
 self:=λ _ _ _ _ _ st q=>wpAny_pyIter_zip st.1 q
section
variable {X:Cx}{es:List Expr}{kk:Nat}{tp:Pos}
def Jxm (K:Qc) (ta:TA):TI:=λ σ H R=>ta σ H λ vs H1=>∃ b l xs,vs=[.ref l]/\SqK b K H1 l xs/\R (Ite b K l) H1
def Jn0 (K:Qc) (ta:TA):TI:=λ σ H R=>ta σ H λ vs H1=>∃ b b' l m xs ys,vs=[.ref l,.ref m]/\SqK b K H1 l xs/\SqK b' K H1 m ys/\R (Itz b b' K l m) H1
theorem Jj3 {a:Expr}{ta:TA}{p pos:Pos}(hg:Gl X "enumerate") (hm:X.mg "enumerate" = none) (ha:PA X [a] ta) (hs:starEach [a] X.env=[(false,eval a X.env)]:=by rfl):PI X (.Tuple es kk tp) (.Call (.Name "enumerate" p) [a] [] pos) (Jxm X.K ta):=by
 intro pins s σ H R I h
 refine Call_ (Bs I hg hm boot_enumerate (Uz (thn (ha pos pins s σ H _ I h) λ us s1 ⟨vs,H1,I1,r1,q1⟩=>?_) hs rfl))
 obtain ⟨b,l,xs,e,hq,q⟩:=q1
 subst e
 obtain ⟨u,rfl,ru⟩:=Jac r1
 cases ru
 obtain ⟨its,rv,p,_⟩:=I1.seqK hq
 refine Jqu b p λ h1 he hj hsz hk=>wpAny_pyIter_enum he ?_
 refine ⟨_,[s1.heap.objs.size+1,s1.heap.objs.size],_,_,H1,rfl,I1.kept (t':=s1.toks) hk,Jqx b l _ _ (Nat.succ_ne_self _),⟨⟨_,he⟩,hj⟩,λ c hc=>?_,q⟩
 rcases Qf.mp hc with rfl | hc
 . exact I1.fpOk (J54 _) (I1.hok.fresh (J54 _))
 . rw [Qs.mp hc];exact I1.fpOk (Qm _) (I1.hok.fresh (Qm _))
theorem By {a b:Expr}{ta:TA}{p pos:Pos}(hg:Gl X "zip") (hm:X.mg "zip" = none) (ha:PA X [a,b] ta) (hs:starEach [a,b] X.env=[(false,eval a X.env),(false,eval b X.env)]:=by rfl) (hs2:starEach [b] X.env=[(false,eval b X.env)]:=by rfl) :
 PI X (.Tuple es kk tp) (.Call (.Name "zip" p) [a,b] [] pos) (Jn0 X.K ta):=by
 intro pins s σ H R I h
 refine Call_ (Bs I hg hm boot_zip (Uz (thn (ha pos pins s σ H _ I h) λ us s1 ⟨vs,H1,I1,r1,q1⟩=>?_) (by rw [hs,hs2]) (by rw [hs2];rfl)))
 obtain ⟨b,b',l,m,xs,ys,e,hq,hq',q⟩:=q1
 subst e
 obtain ⟨u,u',rfl,ru,ru'⟩:=Jo6 r1
 cases ru
 cases ru'
 obtain ⟨its,rv,p,_⟩:=I1.seqK hq
 obtain ⟨its',rv',p',_⟩:=I1.seqK hq'
 refine Jqw b b' p p' λ h1 hz hI hO i1 i2 hsz hk=>wpAny_pyIter_zip hz ?_
 refine ⟨_,[s1.heap.objs.size+4,s1.heap.objs.size+2,s1.heap.objs.size+3,s1.heap.objs.size,s1.heap.objs.size+1],_,_,H1,rfl,I1.kept (t':=s1.toks) hk,Jso b b' l m _ _ _ _ _ (by first | exact mm0 | exact mm1 | exact mm2 | exact mm3 | exact mm4 | exact mm5 | simp),⟨hz,hI,⟨_,_,hO⟩,i1,i2⟩,λ c hc=>?_,q⟩
 have hc':s1.heap.objs.size<=c:=by
  simp only [Qf,X2,or_false] at hc
  rcases hc with rfl | rfl | rfl | rfl | rfl
  . exact J38 _ _
  . exact J38 _ _
  . exact J38 _ _
  . exact Qm _
  . exact J38 _ _
 exact I1.fpOk hc' (I1.hok.fresh hc')
end
section
variable {X:Cx}{pos:Pos}{k:Nat}
abbrev Sto (X:Cx) (i:Nat) (x:Str):Prop:=X.N[i]? = some x/\Loc X.env.scope x/\(X.fn x=true\/X.env.scope.names.lookup x=some .local)
theorem Yu {K':Qc}{i j:Nat}{x y:Str}{px py:Pos}(hc:X.calm=true) (hN:X.N.Nodup) (hx:Sto X i x) (hy:Sto X j y) (hK:X.K=K'):PG X (.Tuple [.Name x px,.Name y py] k pos) (Jr2 K' 2 (gCons (Bm i) (gCons (Bm j) gNil))):=
 hK▸Jjv hc (Wk (Jt hN hx.1 hx.2.1 hx.2.2) (Wk (Jt hN hy.1 hy.2.1 hy.2.2) Jdn))
theorem Vd {K':Qc}{i j m:Nat}{x y z:Str}{px py pz:Pos}(hc:X.calm=true) (hN:X.N.Nodup) (hx:Sto X i x) (hy:Sto X j y) (hz:Sto X m z) (hK:X.K=K'):PG X (.Tuple [.Name x px,.Name y py,.Name z pz] k pos) (Jr2 K' 3 (gCons (Bm i) (gCons (Bm j) (gCons (Bm m) gNil)))):=
 hK▸Jjv hc (Wk (Jt hN hx.1 hx.2.1 hx.2.2) (Wk (Jt hN hy.1 hy.2.1 hy.2.2) (Wk (Jt hN hz.1 hz.2.1 hz.2.2) Jdn)))
end
end L2
namespace My
open L2
noncomputable def Jc (ws:List Way) (k:Int):Way:=ws.getD k.toNat ⟨0,0,[]⟩
structure BkAt (ex:List Addr) (H:Hp) (R U:Int) (ws:List Way) (bv:V) (ba wa:Addr) (vs:List V):Prop where
 e:bv = .ref ba
 b:H ba=some (.tup [.int R,.int U,.ref wa])
 w:H wa=some (.tup vs)
 r:Reps ex H (ws.map Yk) vs
 nb:ba∉ex
 nw:wa∉ex
 z:vs.length<=sizeLine
theorem Jly {ex:List Addr}{H:Hp}{R U:Int}{ws:List Way}{bv:V}(r:Rep ex H (J0 R U ws) bv):∃ ba wa vs,BkAt ex H R U ws bv ba wa vs:=by
 obtain ⟨ba,x,y,z,rfl,hb,nb,r1,r2,r3⟩:=Jsm r
 obtain ⟨wa,vs,rfl,hw,nw,hz,rs⟩:=Jpb r3
 rw [Jpc r1,Jpc r2] at hb
 exact ⟨ba,wa,vs,rfl,hb,hw,rs,nb,nw,hz⟩
theorem BkAt.len {ex:List Addr}{H:Hp}{R U:Int}{ws:List Way}{bv:V}{ba wa:Addr}{vs:List V}(B:BkAt ex H R U ws bv ba wa vs):vs.length=ws.length:=by
 rw [<- B.r.length,Qb]
theorem at_map (ns:List Int) {i:Int}(h0:0<=i) (h1:i<ns.length):∃ n∈ns,atI (ns.map V.int) i=some (V.int n):=by
 obtain ⟨n,e,h⟩:=J0v (P:=λ n=>n∈ns) ns (λ _ h=>h) h0 h1
 exact ⟨n,h,e⟩
theorem range_getD {α β:Type}(f:α->β) (xs:List α) (dflt:α):((Ql xs.length).map λ i=>f (xs.getD i dflt))=xs.map f:=by
 refine List.ext_getElem (by simp) λ i h1 h2=>?_
 have hi:i<xs.length:=by simpa using h1
 simp [Qg,Qd hi]
theorem at0 (x y z:V):atI [x,y,z] 0=some x:=Jjx (j:=0) rfl
end My
namespace L2
section
variable {X:Cx}{K':Qc}
theorem Zo (hK:X.K=K'):IxR X (Jyx K'):=hK▸Ys
theorem Jb0 (hK:X.K=K'):IxR X (Jlp K'):=hK▸Js
theorem Jqy (hK:X.K=K') (hc:X.calm=true):Vt X (.builtin "sum") (λ xs H Q=>∃ (p:Addr) (ns:List Int),xs=[.ref p]/\SqL K' H p (ns.map V.int)/\Q (.int ns.sum) H):=by
 subst hK
 intro pins s σ H xs us Q I r h
 exact Jlt pins s σ H xs us Q I r ⟨hc,h⟩
end
section
variable {X:Cx}{e st:Expr}{te:TE}{ts:TO}{pos p2:Pos}
end
theorem Jdt {X:Cx}:OpR X (binaryOp .Mult) (rI IntMulOk λ i j=>.int (i*j)):=opI λ _ _ _ _ _ _ _ hc q=>mul_int q hc
theorem Jck {X:Cx}{pos:Pos}{i:Nat}{x:Str}{e:Expr}{te:TE}{pos':Pos}(hN:X.N.Nodup) (hi:X.N[i]? = some x) (hx:Loc X.env.scope x) (he:PEs X e te) (hs:J98 e (some (.Name x pos')) pos.line X.env=pure false:=by rfl) (hf:X.fn x=true\/X.env.scope.names.lookup x=some .local := by first | exact .inl rfl | exact .inr rfl | assumption):PS X (.Assign [.Name x pos'] e pos) (Jdo te (Bm i)):=Jz hN hi hx he.out hs hf
end L2
namespace My
open L2
end My
namespace L2
section
variable {X:Cx}
theorem Jjc (hc:X.calm=true):Vt X (.builtin "min") (λ xs H Q=>∃ (p:Addr) (ns:List Int),xs=[.ref p]/\SqL X.K H p (ns.map V.int)/\ns≠[]/\∀ m∈ns,(∀ n∈ns,m<=n)->Q (.int m) H):=by
 intro pins s σ H xs us Q I r h
 obtain ⟨p,ns,rfl,hq,hne,q⟩:=h
 obtain ⟨u,rfl,ru⟩:=Jac r
 cases ru
 obtain ⟨its,rv,pl,hz⟩:=I.list hq
 have hl:=pl.isList
 have hi:=Jc4 rv
 obtain ⟨xs,e⟩:=hi.allInts.items
 have h1:=hi.numsOf
 have h2:numsOf its.toArray.toList=(xs.toList.map (·.1)):=by rw [e,Yaq]
 have h2':(xs.toList.map (·.1))=ns:=by rw [<- h2];simpa using h1
 have hlen:xs.size=ns.length:=by rw [<- h2'];simp
 have hpos:0<ns.length:=J3m.mpr hne
 rw [e] at hl
 refine min_intList (I.ok.hd hc) hl (by omega) λ v h' tk hv hk=>?_
 obtain ⟨b1,b2⟩:=argBest_lt (numAt xs) (xs.size-1)
 generalize argBest (λ i j=>decide (numAt xs i<numAt xs j)) (xs.size-1)=m at hv b1 b2
 obtain ⟨t,rfl⟩:=intItems_at hv
 have num:∀ i (hi:i<ns.length),numAt xs i=ns[i]:=λ i hi=>by
  have hix:i<xs.size:=by omega
  have e1:numAt xs i=xs[i].1:=by unfold numAt;rw [J71 hix];rfl
  rw [e1]
  have e2:(xs.toList.map (·.1))[i]'(by simpa using hix)=xs[i].1:=by simp
  rw [<- e2]
  congr 1
 refine ⟨.int (numAt xs m),H,I.kept (t':=tk) hk,⟨t,rfl⟩,q _ ?_ λ n hn=>?_⟩
 . rw [num m (by omega)];exact Xo _
 . obtain ⟨i,hi,rfl⟩:=J4q.mp hn
   rw [<- num i hi]
   exact b2 i (by omega)
end
end L2
namespace My
open L2
end My
namespace L2
section
variable {prog:J9l}{w:J9k}{A:J9m}{E:J9g->J9i->Prop}{s:J9i}{z TI TO j1 j2 j3:Addr}{f1 f2 f3:List Addr}{n1 n2 n3 i:Nat}{P1 P2 P3:Nat->J9g->Prop}{St1 St2 St3:Nat->Heap->Prop}{a b c:J9g}
end
section
variable {X:Cx}{es:List Expr}{kk:Nat}{tp:Pos}
end
end L2
namespace My
open L2
noncomputable def Jcu (xs gs:List Int):List Int:=J35 (· + ·) xs gs
theorem Jlz (xs gs:List Int):(Jcu xs gs).length=min xs.length gs.length:=by unfold Jcu;simp
noncomputable def Jdu (r:Int) (xs:List Int):J9h:=.tuple [.int r,.tuple (xs.map Qq)]
noncomputable def Jjd (a r:Int) (xs gs:List Int):Bool:=decide (a=r)&&(Jcu xs gs).all λ x=>decide (0<=x)
end My
namespace L2
section
variable {X:Cx}
end
end L2
namespace My
open L2
noncomputable def Jik (xs:List J9h) (lo hi:Option Int):List J9h:=(xs.drop (HT.sIx xs.length 0 lo)).take (HT.sIx xs.length xs.length hi-HT.sIx xs.length 0 lo)
theorem Jje (xs:List J9h) (k:Nat):Jik xs none (some (k:Int))=xs.take k:=by
 unfold Jik
 rw [HT.sIx_none,HT.sIx_nat,List.drop_zero,Nat.sub_zero]
 rcases J6l k xs.length with h | h
 . rw [J6m h]
 . rw [J72 h,J4r (Qm _),J4r h]
theorem Jex (xs:List J9h) (k:Nat):Jik xs (some (k:Int)) none=xs.drop k:=by
 unfold Jik
 rw [HT.sIx_none,HT.sIx_nat]
 rcases J6l k xs.length with h | h
 . rw [J6m h,J4r (by rw [J3z];omega)]
 . rw [J72 h,J73 (Qm _),J73 h];simp
theorem V2 (o:Expr) (k:Const) (j:Nat) (p pos:Pos) (env:Env) (v:J9g):assign (.Subscript o (.Constant k j p) pos) env v=(do
 let ov <- holding [v] (eval o env)
 let iv <- holding [v,ov] (eval (.Constant k j p) env)
 J9y pos
 holding [v,ov,iv] (setItem ov iv v)
 Yaa [v,ov,iv] []):=Bw _ _ _ _ _
structure Tape (H:Hp) (p c:Addr) (n:Nat):Prop where
 ex:∃ (ns:List Int) (k g:Int),H p=some (.lst [.ref c,.int k,.int g])/\H c=some (.lst (ns.map V.int))/\ns.length<=63/\0<=k/\k<=n
theorem Tape.ne {H:Hp}{p c:Addr}{n:Nat}(J:Tape H p c n):p≠c:=by
 obtain ⟨ns,k,g,h1,h2,_⟩:=J.ex
 rintro rfl
 rw [h1] at h2
 cases ns with
 | nil=>cases h2
 | cons a r=>cases h2
theorem Tape.fresh {H:Hp}{p c l:Addr}{n:Nat}(J:Tape H p c n) (h:H l=none):l∉[p,c]:=by
 obtain ⟨ns,k,g,h1,h2,_⟩:=J.ex
 intro z
 rcases Qf.mp z with rfl | z
 . rw [h] at h1;cases h1
 . cases Qs.mp z;rw [h] at h2;cases h2
def Jj4 (K:Qc):Sp:=λ vs H Q _=>∃ (a:Addr) (ns:List Int),vs=[.ref a]/\SqL K H a (ns.map V.int)/\ns.length<=63/\∀ p c H',Kp [] H H'->H p=none->H c=none->Tape H' p c 0->Q (.ref p) H'
def Jn1:Sp:=λ vs H Q _=>∃ (p c:Addr) (n:Nat) (many:Int),vs=[.ref p,.int many]/\Tape H p c n/\n<2^40/\0<many/\many<2^9000/\∀ (r:Int) (H':Hp),0<=r->r<many->Tape H' p c (n+1)->Kp [p,c] H H'->Q (.int r) H'
theorem Kp.late {ex:List Addr}{H1 H2:Hp}{a:Addr}(k:Kp ex H1 H2) (h:H1 a=none) (o:HO):Kp ex H1 (upd H2 a o):=λ b v e n=>by
 rw [Jf (Jq e h)];exact k b v e n
theorem Jn2 {n:Nat}{i:Int}(h0:0<=i) (h1:i<n):ixN n i=some i.toNat:=by
 unfold ixN
 rw [if_pos h0,if_pos (by omega)]
def Jsp (K:Qc) (n:Nat) (t:TGs):TG:=λ v σ H Q=>∃ a xs,v = .ref a/\SqL K H a xs/\xs.length=n/\t xs σ H Q
section
variable {X:Cx}{pos:Pos}{k:Nat}
theorem Jvn {es:List Expr}{t:TGs}{n:Nat}(hc:X.calm=true) (h:PGs X es t)
 (hn:(assignEach es X.env).length=n:=by rfl) (hst:(assignEach es X.env).findIdx? (·.1)=none:=by rfl):PG X (.Tuple es k pos) (Jsp X.K n t):=by
 intro pins s σ H v u Q I r hw
 obtain ⟨a,xs,e1,hq,hl,hw⟩:=hw
 subst e1
 cases r
 obtain ⟨its,rv,pl,hz⟩:=I.list hq
 rw [assign_Tuple]
 refine wpAny_bind (wpAny_standAt ?_)
 unfold unpack
 have hsz:(assignEach es X.env).length=its.toArray.size:=by simp [hn,<- hl,rv.length]
 rw [hsz,hst]
 refine wpAny_bind (wpAny_holding (PySem.W.kun_itemsOf (I.ok.hd hc) pl.isList λ h' hx=>?_))
 have I1:Inv X pins σ H { s with heap:=h' }:=I.kept (t':=s.toks) λ b o e=>hx b o (Q5 (Qt e)) e
 exact h pins _ σ H xs _ Q I1 (by simpa using rv) hw
theorem Jsq {K':Qc}{i j:Nat}{x y:Str}{px py:Pos}(hc:X.calm=true) (hN:X.N.Nodup) (hx:Sto X i x) (hy:Sto X j y) (hK:X.K=K'):PG X (.Tuple [.Name x px,.Name y py] k pos) (Jsp K' 2 (gCons (Bm i) (gCons (Bm j) gNil))):=
 hK▸Jvn hc (Wk (Jt hN hx.1 hx.2.1 hx.2.2) (Wk (Jt hN hy.1 hy.2.1 hy.2.2) Jdn))
end
end My
namespace L2
noncomputable def Jn3 (n:Nat):List V:=(Ql n).map λ (i:Nat)=>V.int (i:Int)
def tLR (ta:TA):TE:=λ σ H Q=>ta σ H λ vs H1=>∃ j:Int,vs=[.int j]/\0<=j/\j<=1000000/\∀ l,H1 l=none->Q (.ref l) (upd H1 l (.lst (Jn3 j.toNat)))
theorem Jsr:∀ (n:Nat) (us:List J9g),us.length=n->(∀ (k:Nat) (u:J9g),us[k]? = some u->∃ t,u=Uq ((k:Nat):Int) t)->J9 (Jn3 n) us:=by
 intro n
 induction n with
 | zero=>intro us h _;rw [J74.mp h];exact .nil
 | succ n ih=>
  intro us h hk
  have hne:us≠[]:=λ e=>by rw [e] at h;cases h
  obtain ⟨l,x,rfl⟩:∃ l x,us=l++[x]:=⟨us.dropLast,us.getLast hne,(J75 hne).symm⟩
  have hl:l.length=n:=by simpa using h
  have e:Jn3 (n+1)=Jn3 n++[V.int n]:=by unfold Jn3;rw [J39,Xd];rfl
  rw [e]
  obtain ⟨t,et⟩:=hk n x (by rw [<- hl];simp)
  subst et
  exact (ih l hl λ k u hu=>hk k u (by rw [Uo (by exact (Qp.mp hu).1)];exact hu)).append (.cons ⟨t,rfl⟩ .nil)
section
variable {X:Cx}
theorem Jj5 {a:Expr}{ta:TA}{p1 p2 pos1 pos2:Pos}(hc:X.calm=true) (hg1:Gl X "list") (hm1:X.mg "list" = none) (hg2:Gl X "range") (hm2:X.mg "range" = none) (ha:PA X [a] ta) (hs:starEach [a] X.env=[(false,eval a X.env)]:=by rfl)
 (hs1:starEach [.Call (.Name "range" p2) [a] [] pos2] X.env=[(false,eval (.Call (.Name "range" p2) [a] [] pos2) X.env)]:=by rfl):PE X (.Call (.Name "list" p1) [.Call (.Name "range" p2) [a] [] pos2] [] pos1) (tLR ta):=by
 intro pins s σ H Q I h
 refine J94 (Bs I hg1 hm1 J90 ?_)
 refine Uz ?_ hs1 rfl
 rw [hs1]
 show J9j _ _ (spliced ((false,eval (.Call (.Name "range" p2) [a] [] pos2) X.env)::[])) _ _ s
 refine J3j ?_
 refine Call_ (Bs I hg2 hm2 boot_range (Uz (thn (ha pos2 pins s σ H _ I h) λ us s1 ⟨vs,H1,I1,r1,q1⟩=>?_) hs rfl))
 obtain ⟨j,e,b1,b2,q⟩:=q1
 subst e
 cases r1 with
 | cons r rr=>
  cases rr
  obtain ⟨t,rfl⟩:=r
  refine call_range_1 (J3y ?_)
  have I2:Inv X pins σ H1 { s1 with heap:=s1.heap.push { cls:=.type "range",data:=.fields #[.int 0 s1.toks,.int j t,.int 1 (s1.toks+1)] },toks:=s1.toks+1+1 }:=I1.kept λ b o e=>Qu _ e
  have hs:=J9n
  refine call_list_range (n:=j.toNat) (I2.ok.hd hc) (J5u ..) (small_one (by omega) (by omega) (by omega) (by omega)) (by rw [Yao];split<;>omega) (by omega) λ h' tk acc' c' hk hS' hacc=>?_
  refine ⟨.ref _,_,I2.laid (t':=tk) hk (Qm _) (show Y3 X.prog X.w _ h' _ (.lst (Jn3 j.toNat)) from ⟨by unfold Jn3;simp;omega,acc'.toList,c',Jsr _ _ (by simp [hacc.1]) (λ k u hu=>?_),by simpa using hS'⟩),rfl,q _ (I2.hok.fresh (Qm _))⟩
  obtain ⟨t,et⟩:=hacc.2 k u (by simpa using hu)
  exact ⟨t,by rw [et];simp⟩
end
end L2
namespace My
open L2
noncomputable def Jc6 (xs ys:List Int) (n:Nat):Int:=((Ql n).map λ i=>xs.getD i 0*ys.getD i 0).sum
noncomputable def Bo (ws:List Way) (wts hts:List Int) (k:Int):Int:=hts.getD (Jc ws k).a.toNat 0-hts.getD (Jc ws k).b.toNat 0-Jc6 wts (Jc ws k).g wts.length
noncomputable def V3 (wts hts:List Int) (r:Int) (ns:List Int):Int:=hts.getD r.toNat 0+Jc6 wts ns wts.length
theorem Jpe {X:Cx}{es:List Expr}{kk:Nat}{tp:Pos}{K':Qc}{a b:Expr}{ta:TA}{p pos:Pos}(hK:X.K=K') (hg:Gl X "zip") (hm:X.mg "zip" = none) (ha:PA X [a,b] ta) (hs:starEach [a,b] X.env=[(false,eval a X.env),(false,eval b X.env)]:=by rfl) (hs2:starEach [b] X.env=[(false,eval b X.env)]:=by rfl) :
 PI X (.Tuple es kk tp) (.Call (.Name "zip" p) [a,b] [] pos) (Jn0 K' ta):=hK▸By hg hm ha hs hs2
section
variable {p c sl:Addr}{R U:Int}{ws:List Way}{bv:V}{sums:List (List Int×List Int)}{svs:List V}{H H':Hp}{n m:Nat}
end
end My
namespace L2
section
variable {P:J9l}{w:J9k}{H H':Hp}{h h':Heap}{a:Addr}{o:HO}
end
structure Fly (P:J9l) (w:J9k) (outer:List Env) (H:Hp) (s:J9i) (H':Hp) (ea:Addr) (cls:J9g) (s':J9i):Prop where
 os:s'.os=s.os
 bare:J9x s'.gens
 un:Un (frs outer) [] H H' s.heap s'.heap
 hok:HOk P w H' s'.heap
 fl:∃ (B:Heap) (t:Addr),(∀ b o,s'.heap.get? b=some o->((H' b).isSome=true\/∃ o₀,s.heap.get? b=some o₀)->b∉frs outer->B.get? b=some o)/\Heap.FlyingW B outer ea cls (.ref t) s'.heap
section
variable {X:Cx}{pins:List (Addr×Obj)}{σ:St}{H H':Hp}{s s':J9i}
end
section
variable {P:J9l}{w:J9k}{K:Qc}{mg:Str->Option J9g}{base:Heap}{N:List Str}{qual:Str}{scope:J9o}{f:Addr}{cd:J9g}{A:J9m}{outer:List Env}{s₀:J9i}{H₀:Hp}{E:XK}
end
open PySem.W Builtin Builtin.ObjectAttr Builtin.Getset_descriptor
section
variable {prog:J9l}{w:J9k}{A:J9m}{E:J9g->J9i->Prop}{s:J9i}{K:Qc}{x D:Addr}{R:J91->J9i->Prop}
end
section
variable {P:J9l}{w:J9k}{K:Qc}{mg:Str->Option J9g}{base:Heap}{N:List Str}{qual:Str}{scope:J9o}{f:Addr}{cd:J9g}{A:J9m}{outer:List Env}{s₀:J9i}{H₀:Hp}{E:XK}
 {x:Str} {C:Addr} {e:Expr} {es:List Expr} {np cpos pos:Pos} {t:TA}
end
section
variable {P:J9l}{w:J9k}{K:Qc}{mg:Str->Option J9g}{base:Heap}
end
section
variable {X:Cx}{x:Str}{e:Expr}{es:List Expr}{p pos:Pos}{t:TA}{k:Nat}{ps:List Str}{sp:Sp}{E:XK}
end
noncomputable abbrev XW:=St->J9g->Hp->Prop
noncomputable def XP (X:Cx) (pins:List (Addr×Obj)) (W:XW) (e:J9g) (s':J9i):Prop:=∃ ea cls σ' H H' s,e = .ref ea/\Inv X pins σ' H s/\Fly X.prog X.w X.stack H s H' ea cls s'/\W σ' cls H'
noncomputable abbrev TSX:=Ends->XW->St->Hp->Prop
section
variable {X:Cx}{x y:Str}{e:Expr}{es:List Expr}{p p' pos apos:Pos}{t:TA}{k:Nat}{ps:List Str}{sp:Sp}
end
section
variable {X:Cx}{pins:List (Addr×Obj)}{σ σ0:St}{H H0:Hp}{s s0:J9i}{B h':Heap}
end
section
variable {X:Cx}{body:List Stmt}{tb:TSX}{ts:TS}{b₀:Stmt}{suite:List Stmt}{c n:Str}{C:Addr}{i:Nat}{np hpos pos:Pos}
end
open PySem.SeqAt
section
variable {P:J9l}{w:J9k}{K:Qc}{mg:Str->Option J9g}{base:Heap}
end
section
variable {X:Cx}{x:Str}{e:Expr}{es:List Expr}{p pos:Pos}{t:TA}{k:Nat}{ps:List Str}{sp:Sp}
end
structure Er where
 fall:Addr
 way:Addr
 round:Addr
 ring:Addr
 purse:Addr
 end_:Addr
 stand:Addr
 many:Addr
 line:Addr
 row:Addr
section
variable {K:Qc}{mg:Str->Option J9g}{z:Er}
end
section
variable {X:Cx}{v:Expr}{te:TE}{a b:Str}{ja jb:Nat}{pa pb pf pos:Pos}
theorem Jad {o:Expr}{n:Str}{es:List Expr}{t:TA}(ha:PE X (.Attribute o n pos) te) (hr:PA X es t):PA X (.Attribute o n pos::es) (Yq te t):=V9 ha hr rfl
end
section
variable {X:Cx}{x:Str}{e:Expr}{es:List Expr}{p pos apos:Pos}{t:TA}{k:Nat}{ps:List Str}{sp:Sp}
variable {body:List Stmt}{tb:TSX}{ts:TS}{b₀:Stmt}{suite:List Stmt}{c:Str}{C:Addr}{np hpos:Pos}
end
end L2
namespace My
open L2
theorem Jl0 {α:Type}{xs:List α}{j:Nat}{v:α}(h:atI xs (j:Int)=some v):xs[j]? = some v:=by
 cases e:xs[j]? with
 | some u=>
  rw [Jjx e] at h
  exact h
 | none=>
  have hl:xs.length<=j:=List.getElem?_eq_none_iff.mp e
  unfold atI ixN at h
  rw [if_pos (by omega),if_neg (by omega)] at h
  cases h
end My
namespace HT
section
variable {prog:J9l}{w:J9k}{A:J9m}{E:J9g->J9i->Prop}{s:J9i}
end
end HT
namespace L2
end L2
namespace My
open L2
theorem sIx_none (n d:Nat):HT.sIx n d none=d:=rfl
end My
namespace L2
end L2
namespace My
open L2
section
variable {p c wl:Addr}{R U:Int}{ws:List Way}{bv fv hv:V}{r:Int}{xs:List Int}{Hs H H':Hp}{ns:List Int}
end
end My
namespace L2
section
variable {prog:J9l}{w:J9k}{A:J9m}{E:J9g->J9i->Prop}{s:J9i}{l:Addr}{xs:Array (Int×Tok)}
theorem Jn4 {Q:J9g->J9i->Prop}(hh:A.handled=none) (hl:s.heap.IsTuple l (intItems xs)) (hne:0<xs.size)
 (h:∀ v h' tk,(intItems xs)[argBest (λ i j=>decide (numAt xs i<numAt xs j)) (xs.size-1)]? = some v->(∀ b o,s.heap.get? b=some o->h'.get? b=some o)->Q v { s with heap:=h',toks:=tk }) :
 J9j (model prog w) A (call (.builtin "min") [.ref l]) Q E s:=by
 have hlt:l<s.heap.objs.size:=by obtain ⟨_,e,_⟩:=hl;exact Qt e
 refine call_min_walk (wpAny_pyIter_tuple hl ?_)
 refine ⟨_,[_,l],[_],_,_,_,_,rfl,J76 (A:=A.in1) hh _ l (Q5 hlt) (intItems xs),⟨⟨_,Q9 _ rfl,rfl,rfl⟩,hl.push _⟩,λ c hc=>?_,by simpa [intItems] using hne,CmpOf.ints_lt (numAt xs) (λ _ _=>intItems_at),λ v h' tk hP hk=>?_⟩
 . show c<(s.heap.push _).objs.size
   rw [Xv]
   simp only [Qf,X2,or_false] at hc
   rcases hc with rfl | rfl
   . exact J3x _
   . exact J34 hlt
 . refine h v h' tk (by simpa [intItems] using hP) λ b o e=>hk b o (λ hm=>?_) (Qu _ e)
   simp only [Qf,X2,or_false] at hm
   have:=Qt e
   rw [hm] at this
   exact Xc _ this
end
section
variable {X:Cx}
theorem Jqz (hc:X.calm=true):Vt X (.builtin "min") (λ xs H Q=>∃ (p:Addr) (ns:List Int),xs=[.ref p]/\SqT X.K H p (ns.map V.int)/\ns≠[]/\∀ m∈ns,(∀ n∈ns,m<=n)->Q (.int m) H):=by
 intro pins s σ H xs us Q I r h
 obtain ⟨p,ns,rfl,hq,hne,q⟩:=h
 obtain ⟨u,rfl,ru⟩:=Jac r
 cases ru
 obtain ⟨its,rv,pl,hz⟩:=I.tuple hq
 have hi:=Jc4 rv
 obtain ⟨xs,e⟩:=hi.allInts.items
 have h1:=hi.numsOf
 have h2:numsOf its.toArray.toList=(xs.toList.map (·.1)):=by rw [e,Yaq]
 have h2':(xs.toList.map (·.1))=ns:=by rw [<- h2];simpa using h1
 have hlen:xs.size=ns.length:=by rw [<- h2'];simp
 have hpos:0<ns.length:=J3m.mpr hne
 have hl:s.heap.IsTuple p (intItems xs):=by
  rw [<- e]
  obtain ⟨o,ho,hc',n,hd⟩:=id pl
  exact ⟨o,ho,hc',n,hd⟩
 refine Jn4 (I.ok.hd hc) hl (by omega) λ v h' tk hv hk=>?_
 obtain ⟨b1,b2⟩:=argBest_lt (numAt xs) (xs.size-1)
 generalize argBest (λ i j=>decide (numAt xs i<numAt xs j)) (xs.size-1)=m at hv b1 b2
 obtain ⟨t,rfl⟩:=intItems_at hv
 have num:∀ i (hi:i<ns.length),numAt xs i=ns[i]:=λ i hi=>by
  have hix:i<xs.size:=by omega
  have e1:numAt xs i=xs[i].1:=by unfold numAt;rw [J71 hix];rfl
  rw [e1]
  have e2:(xs.toList.map (·.1))[i]'(by simpa using hix)=xs[i].1:=by simp
  rw [<- e2]
  congr 1
 refine ⟨.int (numAt xs m),H,I.kept (t':=tk) hk,⟨t,rfl⟩,q _ ?_ λ n hn=>?_⟩
 . rw [num m (by omega)];exact Xo _
 . obtain ⟨i,hi,rfl⟩:=J4q.mp hn
   rw [<- num i hi]
   exact b2 i (by omega)
end
end L2
namespace My
open L2
theorem nodup_le:∀ (n:Nat) (l:List Nat),l.Nodup->(∀ x∈l,x<n)->l.length<=n:=by
 intro n
 induction n with
 | zero=>
  intro l _ h
  cases l with
  | nil=>exact Qm _
  | cons a l=>exact absurd (h a Qi) (J6n _)
 | succ n ih=>
  intro l nd h
  by_cases hm:n∈l
  . have e:=ih (l.erase n) (nd.erase n) λ x hx=>by
     have hx':=(List.Nodup.mem_erase_iff nd).mp hx
     have:=h x hx'.2
     omega
    rw [List.length_erase_of_mem hm] at e
    omega
  . have:=ih l nd λ x hx=>by
     have:=h x hx
     have:x≠n:=λ z=>hm (z▸hx)
     omega
    omega
end My
namespace L2
section
variable {X:Cx}
theorem Jl1 (ns:List Int):((Ql ns.length).any λ i=>decide (ns.getD i 0≠0))=ns.any (λ n=>decide (n≠0)):=by
 rw [Ug]
 simp only [J77,Q6]
 constructor
 . rintro ⟨i,hi,h⟩
   rw [Qg,Qd hi] at h
   exact ⟨_,Xo hi,h⟩
 . rintro ⟨n,hn,h⟩
   obtain ⟨i,hi,rfl⟩:=J4q.mp hn
   exact ⟨i,hi,by rw [Qg,Qd hi];exact h⟩
theorem Jss {ns:List Int}{its:List J9g}(rv:J9 (ns.map V.int) its) {i:Nat}{v:J9g}(h:its[i]? = some v):∃ t,v = .int (ns.getD i 0) t:=by
 have hi:i<its.length:=(Qp.mp h).1
 have hlen:=rv.length
 rw [Qb] at hlen
 have hb:(ns.map V.int)[i]? = some (V.int (ns.getD i 0)):=by
  rw [Qh,Qd (by omega),Qg,Qd (by omega)]
  rfl
 obtain ⟨u,hu,ru⟩:=rv.get hb
 rw [h] at hu
 cases hu
 exact ru
theorem Jq0 (hc:X.calm=true):Vt X (.builtin "any") (λ xs H Q=>∃ (p:Addr) (ns:List Int),xs=[.ref p]/\SqL X.K H p (ns.map V.int)/\Q (.bl (ns.any λ n=>decide (n≠0))) H):=by
 intro pins s σ H xs us Q I r h
 obtain ⟨p,ns,rfl,hq,q⟩:=h
 obtain ⟨u,rfl,ru⟩:=Jac r
 cases ru
 obtain ⟨its,rv,pl,hz⟩:=I.list hq
 have hl:=pl.isList
 have hlt:p<s.heap.objs.size:=by obtain ⟨_,e,_⟩:=hl;exact Qt e
 have hlen:=rv.length
 rw [Qb] at hlen
 refine call_any_walk (wpAny_pyIter_list hl ?_)
 refine ⟨_,_,_,_,_,_,λ i=>decide (ns.getD i 0≠0),rfl,J6f (A:=X.A.in1) (I.ok.hd hc) _ p (Q5 hlt) its.toArray,⟨⟨_,Q9 _ rfl,rfl,rfl⟩,hl.push _⟩,?_,λ h' tk hk=>?_⟩
 . intro i v s' Q' E' hP hQ
   obtain ⟨t,rfl⟩:=Jss rv (by simpa using hP)
   have e:((ns.getD i 0) != 0)=decide (ns.getD i 0≠0):=by
    rw [Ug];simp
   exact J5w (by rw [e];exact hQ)
 . rw [Xa,<- hlen,Jl1]
   exact ⟨.bl _,H,I.kept (t':=tk) (old_kept hk),rfl,q⟩
theorem Jq1 (hc:X.calm=true):Vt X (.builtin "any") (λ xs H Q=>∃ (p:Addr) (ns:List Int),xs=[.ref p]/\SqT X.K H p (ns.map V.int)/\Q (.bl (ns.any λ n=>decide (n≠0))) H):=by
 intro pins s σ H xs us Q I r h
 obtain ⟨p,ns,rfl,hq,q⟩:=h
 obtain ⟨u,rfl,ru⟩:=Jac r
 cases ru
 obtain ⟨its,rv,hl,hz⟩:=I.tuple hq
 have hlt:p<s.heap.objs.size:=by obtain ⟨_,e,_⟩:=hl;exact Qt e
 have hlen:=rv.length
 rw [Qb] at hlen
 refine call_any_walk (wpAny_pyIter_tuple hl ?_)
 refine ⟨_,_,_,_,_,_,λ i=>decide (ns.getD i 0≠0),rfl,J76 (A:=X.A.in1) (I.ok.hd hc) _ p (Q5 hlt) its.toArray,⟨⟨_,Q9 _ rfl,rfl,rfl⟩,hl.push _⟩,?_,λ h' tk hk=>?_⟩
 . intro i v s' Q' E' hP hQ
   obtain ⟨t,rfl⟩:=Jss rv (by simpa using hP)
   have e:((ns.getD i 0) != 0)=decide (ns.getD i 0≠0):=by
    rw [Ug];simp
   exact J5w (by rw [e];exact hQ)
 . rw [Xa,<- hlen,Jl1]
   refine ⟨.bl _,H,I.kept (t':=tk) (λ b o e=>hk b o (λ hm=>?_) (Qu _ e)),rfl,q⟩
   have:=Qt e
   rw [Qs.mp hm] at this
   exact Xc _ this
def Jxn (K:Qc):V->V->Hp->VK->Prop:=λ o i H Q=>∃ p xs k x,o = .ref p/\i = .int k/\0<=k/\SqL K H p xs/\xs[k.toNat]? = some x/\Q x H
theorem Jl2:J0k X (Jxn X.K):=by
 intro pins s σ H o i ov iv Q I ro ri h
 obtain ⟨p,xs,k,x,rfl,rfl,k0,hq,hx,q⟩:=h
 cases ro
 obtain ⟨t,rfl⟩:=ri
 obtain ⟨its,r,pl,hz⟩:=I.list hq
 obtain ⟨u,eu,ru⟩:=r.get hx
 have hn:=Jet
 have hi:=(Qp.mp hx).1
 exact wpAny_getItem_list pl.isList k0 (by omega) (by simpa using eu) ⟨x,H,I,ru,q⟩
end
end L2
namespace My
open L2
noncomputable def W4 (ws:List Way) (cs:List Int):Nat->Int->Int
 | 0,_=>0
 | i+1,r=>W4 ws cs i r-(if (Jc ws (i:Nat)).a=r then cs.getD i 0 else 0)+(if (Jc ws (i:Nat)).b=r then cs.getD i 0 else 0)
theorem Jaj {n:Nat}{k:Int}(h0:0<=k) (h1:k<n):ixN n k=some k.toNat:=by
 unfold ixN;rw [if_pos h0,if_pos h1]
inductive Rt (es:List (Nat×Nat)):Nat->Nat->Prop
 | refl (a:Nat):Rt es a a
 | step {a b c:Nat}:Rt es a b->(b,c)∈es->Rt es a c
theorem Rt.trans {es:List (Nat×Nat)}{a b c:Nat}(h:Rt es a b) (g:Rt es b c):Rt es a c:=by
 induction g with
 | refl=>exact h
 | step _ e ih=>exact ih.step e
noncomputable def Pw (es:List (Nat×Nat)):Nat->Nat->Nat->Bool
 | 0,a,b=>decide (a=b)||decide ((a,b)∈es)
 | m+1,a,b=>Pw es m a b||(Pw es m a m&&Pw es m m b)
theorem Pw.mono {es:List (Nat×Nat)}{m a b:Nat}(h:Pw es m a b=true):Pw es (m+1) a b=true:=by
 rw [Pw,h];rfl
theorem Pw.zero {es:List (Nat×Nat)}{a b:Nat}(h:Pw es 0 a b=true):∀ m,Pw es m a b=true
 | 0=>h
 | m+1=>Pw.mono (Pw.zero h m)
theorem Pw.cut {es:List (Nat×Nat)}{m a b:Nat}(h:Pw es (m+1) a b=true):Pw es m a b=true\/(Pw es m a m=true/\Pw es m m b=true):=by
 rw [Pw,J6o,Xw] at h;exact h
theorem Pw.via {es:List (Nat×Nat)}{m a b:Nat}(h:Pw es m a m=true) (g:Pw es m m b=true):Pw es (m+1) a b=true:=by
 rw [Pw,h,g,Bool.and_self,J78]
theorem Pw.trans {es:List (Nat×Nat)}:∀ {m a b k:Nat},k<m->Pw es m a k=true->Pw es m k b=true->Pw es m a b=true
 | 0,_,_,_,h,_,_=>absurd h (J6n _)
 | m+1,a,b,k,hk,h,g=>by
  by_cases e:k=m
  . subst e
    have h':Pw es k a k=true:=by rcases (Pw.cut h) with h | h;exact h;exact h.1
    have g':Pw es k k b=true:=by rcases (Pw.cut g) with g | g;exact g;exact g.2
    exact Pw.via h' g'
  . have hk':k<m:=by omega
    rcases (Pw.cut h) with h | ⟨h1,h2⟩
    . rcases (Pw.cut g) with g | ⟨g1,g2⟩
      . exact Pw.mono (Pw.trans hk' h g)
      . exact Pw.via (Pw.trans hk' h g1) g2
    . rcases (Pw.cut g) with g | ⟨g1,g2⟩
      . exact Pw.via h1 (Pw.trans hk' h2 g)
      . exact Pw.via h1 g2
theorem Pw.rt {es:List (Nat×Nat)}:∀ {m a b:Nat},Pw es m a b=true->Rt es a b
 | 0,a,b,h=>by
  rw [Pw,J6o] at h
  rcases h with h | h
  . obtain rfl:=of_decide_eq_true h;exact .refl a
  . exact .step (.refl a) (of_decide_eq_true h)
 | m+1,a,b,h=>by
  rcases (Pw.cut h) with h | ⟨h,g⟩
  . exact Pw.rt h
  . exact (Pw.rt h).trans (Pw.rt g)
theorem Rt.pw {es:List (Nat×Nat)}{R a b:Nat}(hr:∀ e∈es,e.1<R/\e.2<R) (h:Rt es a b):Pw es R a b=true:=by
 induction h with
 | refl=>exact Pw.zero (by rw [Pw];simp) R
 | step _ e ih=>exact Pw.trans (hr _ e).1 ih (Pw.zero (by rw [Pw];simp [e]) R)
theorem Zi {es:List (Nat×Nat)}{R a b:Nat}(hr:∀ e∈es,e.1<R/\e.2<R):Pw es R a b=true↔Rt es a b:=⟨Pw.rt,Rt.pw hr⟩
end My
namespace L2
section
variable {M:Model}{A:J9m}{E:J9g->J9i->Prop}{s:J9i}
theorem Jj6 {scope:J9o}{globals:Addr}{closure:List (Str×Addr)}{qual:Str}{func:Option Addr}{code:J9g}{outer:Env}{builtins:Addr}{Q:Env->J9i->Prop}
 (hQ:Q (newEnv scope s.heap.objs.size globals (cellsFrom (s.heap.objs.size+1) scope.names closure) qual func code (some outer) builtins) { s with heap:=pushCells (s.heap.push { cls:=.type "dict",data:=.dict #[] }) scope.names }) :
 J9j M A (newFunctionEnv scope globals closure [] qual func code (some outer) builtins) Q E s:=by
 simp only [newFunctionEnv,Option.isSome_some,if_true]
 refine wpAny_bind (wpAny_alloc ?_)
 refine wpAny_bind (wpAny_layCells _ (λ name kind cells=>by cases hkc:kind==Uu<;>simp [hkc]) _ _ _ _ ?_)
 rw [show ({ s with heap:=s.heap.push { cls:=.type "dict",data:=.dict #[] } }:J9i).heap.objs.size=s.heap.objs.size+1 from Xv ..]
 refine wpAny_bind ?_
 rw [J6k]
 exact wpAny_pure (wpAny_pure hQ)
end
theorem Jak:∀ (names:List (Str×J9q)) (n:Nat) (acc:List (Str×Addr)) (x:Str) (c:Addr),(x,c)∈cellsFrom n names acc->(x,c)∈acc\/(n<=c/\(x,Uu)∈names)
 | [],n,acc,x,c,h=>.inl h
 | (name,kind)::r,n,acc,x,c,h=>by
  unfold cellsFrom at h
  split at h
  . rename_i hk
    have hk:kind = .cell:=by simpa using hk
    subst hk
    rcases Jak r (n+1) _ x c h with h | ⟨h1,h2⟩
    . rcases Qf.mp h with e | h
      . cases e;exact .inr ⟨Qm _,Qi⟩
      . exact .inl h
    . exact .inr ⟨by omega,Qj _ h2⟩
  . rcases Jak r n acc x c h with h | ⟨h1,h2⟩
    . exact .inl h
    . exact .inr ⟨h1,Qj _ h2⟩
theorem Bh:∀ (names:List (Str×J9q)) (n:Nat) (acc:List (Str×Addr)),(∀ p∈acc,p.2<n)->∀ x y c,(x,c)∈cellsFrom n names acc->(y,c)∈cellsFrom n names acc->(∀ x y c,(x,c)∈acc->(y,c)∈acc->x=y)->x=y
 | [],n,acc,_,x,y,c,h,g,inj=>inj x y c h g
 | (name,kind)::r,n,acc,ha,x,y,c,h,g,inj=>by
  unfold cellsFrom at h g
  split at h
  . rename_i hk
    rw [if_pos hk] at g
    refine Bh r (n+1) ((name,n)::acc) (λ p hp=>?_) x y c h g λ x y c h g=>?_
    . rcases Qf.mp hp with rfl | hp
      . exact J3x _
      . exact J34 (ha p hp)
    . rcases Qf.mp h with e | h<;>rcases Qf.mp g with e' | g
      . cases e;cases e';rfl
      . cases e;exact absurd (ha _ g) (Xc _)
      . cases e';exact absurd (ha _ h) (Xc _)
      . exact inj x y c h g
  . rename_i hk
    rw [if_neg hk] at g
    exact Bh r n acc ha x y c h g inj
theorem Vb:∀ (names:List (Str×J9q)) (n:Nat) (acc:List (Str×Addr)) (p:Str×Addr),p∈acc->p∈cellsFrom n names acc
 | [],n,acc,p,h=>h
 | (name,kind)::r,n,acc,p,h=>by
  unfold cellsFrom
  split
  . exact Vb r _ _ p (Qj _ h)
  . exact Vb r _ _ p h
theorem Jal:∀ (names:List (Str×J9q)) (n:Nat) (acc:List (Str×Addr)) (x:Str),(x,Uu)∈names->∃ c,(x,c)∈cellsFrom n names acc
 | (name,kind)::r,n,acc,x,h=>by
  unfold cellsFrom
  rcases Qf.mp h with e | h
  . cases e
    exact ⟨n,Vb r _ _ _ Qi⟩
  . split
    . exact Jal r _ _ x h
    . exact Jal r _ _ x h
theorem Bz:∀ (names:List (Str×J9q)) (h:Heap) (acc:List (Str×Addr)) (x:Str) (c:Addr),(x,c)∈cellsFrom h.objs.size names acc->(x,c)∈acc\/(pushCells h names).IsCell c none
 | [],h,acc,x,c,m=>.inl m
 | (name,kind)::r,h,acc,x,c,m=>by
  unfold cellsFrom at m
  unfold pushCells
  split at m
  . rename_i hk
    rw [if_pos hk]
    have e:h.objs.size+1=(h.push { cls:=.type "cell",data:=.cell none }).objs.size:=by rw [Xv]
    rw [e] at m
    rcases Bz r _ _ x c m with m | m
    . rcases Qf.mp m with z | m
      . cases z
        exact .inr ⟨_,pushCells_keeps r _ _ _ (Q9 _ rfl),rfl⟩
      . exact .inl m
    . exact .inr m
  . rename_i hk
    rw [if_neg hk]
    exact Bz r h acc x c m
theorem Jfm {env:Env}:∀ (l:List (Str×J9q)) (cs:List (Str×Addr)) (x:Str) (c:Addr),(x,c)∈Yi env l cs->(x,c)∈cs\/(x,Uk)∈l
 | [],cs,x,c,h=>.inl h
 | (n,k)::r,cs,x,c,h=>by
  unfold Yi at h
  rcases Jfm r _ x c h with g | g
  . split at g
    . rename_i hk
      have hk:k = .free:=by simpa using hk
      subst hk
      rcases Qf.mp g with e | g
      . cases e;exact .inr Qi
      . exact .inl g
    . exact .inl g
  . exact .inr (Qj _ g)
theorem Jjf {l:List (Str×J9q)}(u:(l.map (·.1)).Nodup) {x:Str}{j k:J9q}(h:(x,j)∈l) (g:(x,k)∈l):j=k:=by
 induction l with
 | nil=>cases h
 | cons p l ih=>
  rw [Qz,Xq] at u
  rcases Qf.mp h with e | h<;>rcases Qf.mp g with e' | g
  . rw [<- e] at e';cases e';rfl
  . exact absurd (Qn.mpr ⟨_,g,by rw [<- e]⟩) u.1
  . exact absurd (Qn.mpr ⟨_,h,by rw [<- e']⟩) u.1
  . exact ih u.2 h g
noncomputable def Ze (X:Cx) (N':List Str) (scope:J9o) (C:Addr) (s:J9i) (H:Hp) (fp:List Addr):Cx:=
 { Wb X N' scope C s H fp with env:=compEnvC scope (cellsFrom (C+1) scope.names (Yi X.env scope.names [])) C X.env,fn:=λ x=>scope.names.lookup x==some Uu }
structure CompScopeC (sc:J9o) (N:List Str) (scope:J9o) (N':List Str) (k:Nat) (idx:List Nat):Prop where
 kind:scope.kind = .function
 uniq:(scope.names.map (·.1)).Nodup
 loc:∀ x∈scope.names,x.2 = .local -> scope.names.lookup x.1=some .local
 fr:∀ x∈scope.names,x.2 = .free->sc.names.lookup x.1=some .cell\/sc.names.lookup x.1=some .free
 nd:N'.Nodup
 free:∀ x∈N'.drop k,scope.names.lookup x=some .free
 ix:(N'.drop k).map some=idx.map λ i=>N[i]?
 len:N'.length=k+idx.length
section
variable {X:Cx}{pins:List (Addr×Obj)}{σ:St}{H:Hp}{s:J9i}{scope:J9o}{N':List Str}{k:Nat}{idx:List Nat}{sc:J9o}{N:List Str}
theorem Jl3 (I:Inv X pins σ H s) (S:CompScopeC sc N scope N' k idx) (hsc:X.env.scope=sc) (hNN:X.N=N) {fp:List Addr}(hf:∀ b∈fp,Jc2 X pins H b) (hlt:∀ b∈fp,b<s.heap.objs.size) {t':Nat} :
 Inv (Ze X N' scope s.heap.objs.size s H fp) [] (Yp k idx σ) H { s with heap:=pushCells (s.heap.push { cls:=.type "dict",data:=.dict #[] }) scope.names,toks:=t' }:=by
 have hcell:∀ x∈scope.names,x.2 = .free->∃ c,X.env.cells.lookup x.1=some c:=λ x hx hfree=>I.ok.has x.1 (by
  show X.env.scope.names.lookup x.1=_\/X.env.scope.names.lookup x.1=_
  rw [hsc];exact S.fr x hx hfree)
 have hclm:∀ x c,(x,c)∈Yi X.env scope.names []->X.env.cells.lookup x=some c:=λ x c e=>Jc5 hcell (λ p hp=>by cases hp) (x,c) e
 have hold:∀ x c,(x,c)∈Yi X.env scope.names []->c<s.heap.objs.size:=λ x c e=>by
  obtain ⟨v,o,ho,_⟩:=I.cell x c (hclm x c e)
  exact Qt ho
 have hk:∀ b o,s.heap.get? b=some o->(pushCells (s.heap.push { cls:=.type "dict",data:=.dict #[] }) scope.names).get? b=some o:=λ b o e=>pushCells_keeps _ _ b o (Qu _ e)
 have hsp:∀ x c,(cellsFrom (s.heap.objs.size+1) scope.names (Yi X.env scope.names [])).lookup x=some c->((x,c)∈Yi X.env scope.names []\/(s.heap.objs.size+1<=c/\(x,Uu)∈scope.names)):=λ x c e=>
  Jak _ _ _ x c (Xr e)
 have hok:(Ze X N' scope s.heap.objs.size s H fp).Ok:={
  mod:=I.ok.mod
  kind:=S.kind
  glob:=I.ok.glob
  blt:=I.ok.blt
  above:=Qm _
  inj:=λ x y c e1 e2=>Bh _ _ _ (λ p hp=>J34 (hold p.1 p.2 hp)) x y c (Xr e1) (Xr e2) λ x y c h g=>I.ok.inj x y c (hclm x c h) (hclm y c g)
  has:=λ x hx=>by
   have hcf:scope.names.lookup x=some .cell\/scope.names.lookup x=some .free:=by
    rcases hx with hx | hx
    . rcases Va (env:=X.env) (names:=scope.names) hx with h | ⟨_,h⟩
      . exact .inl h
      . exact .inr h
    . rcases Va (env:=X.env) (names:=scope.names) hx with h | ⟨h,_⟩
      . exact .inr h
      . cases h
   rcases hcf with h | h
   . obtain ⟨c,hc⟩:=Jal scope.names (s.heap.objs.size+1) (Yi X.env scope.names []) x (Xr h)
     exact Zj hc
   . obtain ⟨c,hc⟩:=Bv (env:=X.env) (cs:=[]) (Xr h)
     exact Zj (Vb scope.names (s.heap.objs.size+1) _ _ hc)
  cab:=λ x c h e=>by
   rcases hsp x c e with m | m
   . rcases Jfm _ _ x c m with z | z
     . cases z
     . have hx:scope.names.lookup x=some .cell:=by simpa using (show (scope.names.lookup x==some Uu)=true from h)
       have:=Jjf S.uniq z (Xr hx)
       cases this
   . exact J6p m.1
  hd:=I.ok.hd
  frames:=I.ok.frames
  stk:=.inl rfl
  exf:=λ b hb=>⟨Q5 (hlt b hb),λ x c e=>by
   rcases hsp x c e with m | m
   . exact (hf b hb).2.2.2.2.1 x c (hclm x c m)
   . intro z
     have h2:=m.1
     rw [z] at h2
     exact absurd (Q1 (hlt b hb) (J6p h2)) (Xc _)⟩
  bs:=I.bs
  bsz:=Xi I.ok.bsz I.sz
  noex:=λ b o e hb=>by
   rcases (hf b hb).2.2.2.1 with z | z
   . exact I.ok.noex b o e z
   . exact absurd (Q1 (Qt e) (Xi I.ok.bsz z)) (Xc _)
  exfs:=λ b hb hz=>by
   rcases Qf.mp (I.stkSub b hz) with e | e
   . exact (hf b hb).2.1 e
   . exact (hf b hb).2.2.1 e
  funs:=I.stack
  frf:=I.stkFree }
 refine ⟨hok,rfl,I.bare,Un.kept hk,⟨_,(Heap.Ns.new s.heap (.type "dict")).keeps (pushCells_keeps _ _),λ i x v e1 e2 e3=>?_⟩,λ x c e=>?_,I.hok.fresh (Qm _),λ x c e=>?_,(λ p hp=>by cases hp),I.hok.kept hk,?_⟩
 . have hi:k<=i:=by
    rcases X1 i k with h | h
    . have e2:(Yp k idx σ)[i]? = some (some v):=e2
      unfold Yp at e2
      rw [Uo (by simpa using h),J21] at e2
      split at e2<;>cases e2
    . exact h
   have e1':(N'.drop k)[i-k]? = some x:=by
    rw [J6e,show k+(i-k)=i by omega];exact e1
   have hfree:=S.free x (Xg e1')
   have e2':(idx.map λ i=>(σ[i]?).join)[i-k]? = some (some v):=by
    have e2:(Yp k idx σ)[i]? = some (some v):=e2
    unfold Yp at e2
    rw [U2 (by simpa using hi),Uc] at e2
    exact e2
   rw [Qh] at e2'
   cases hj:idx[i-k]? with
   | none=>rw [hj] at e2';cases e2'
   | some j=>
    rw [hj] at e2'
    have e3':(σ[j]?).join=some v:=by simpa using e2'
    have eσ:σ[j]? = some (some v):=by
     cases q:σ[j]? with
     | none=>rw [q] at e3';cases e3'
     | some o=>rw [q] at e3';cases o with
      | none=>cases e3'
      | some z=>cases e3';rfl
    have eN:X.N[j]? = some x:=by
     rw [hNN]
     have:=congrArg (λ l=>l[i-k]?) S.ix
     simp only [Qh,e1',hj,Option.map_some] at this
     exact (Xj this).symm
    have hvk:=S.fr _ (Xr hfree) rfl
    obtain ⟨m,hm,hl⟩:=I.loc
    obtain ⟨u,ru,lk⟩:=hl j x v eN eσ (by rw [hsc];exact .inr hvk)
    refine ⟨u,ru,.inr ⟨Ja8 (env:=X.env) hfree,?_⟩⟩
    rcases lk with ⟨kl,_⟩ | ⟨_,c,ec,z⟩
    . have kl:X.env.scope.names.lookup x=some .local := kl
      rw [hsc] at kl
      rcases hvk with q | q<;>(rw [kl] at q;cases q)
    . obtain ⟨d,hd⟩:=Bv (env:=X.env) (cs:=[]) (Xr hfree)
      obtain ⟨d',hd'⟩:=Zj (Vb scope.names (s.heap.objs.size+1) _ _ hd)
      have e:d'=c:=by
       rcases hsp x d' hd' with m | m
       . have:=hclm x d' m
         rw [ec] at this
         cases this;rfl
       . have:=Jjf S.uniq m.2 (Xr hfree)
         cases this
      subst e
      obtain ⟨o,ho,hod⟩:=z
      exact ⟨d',hd',o,hk d' o ho,hod⟩
 . have e0:s.heap.objs.size+1=(s.heap.push { cls:=.type "dict",data:=.dict #[] }).objs.size:=by rw [Xv]
   have m:=Xr (show (cellsFrom (s.heap.objs.size+1) scope.names (Yi X.env scope.names [])).lookup x=some c from e)
   rw [e0] at m
   rcases Bz _ _ _ x c m with m | m
   . obtain ⟨v,o,ho,hod⟩:=I.cell x c (hclm x c m)
     exact ⟨v,o,hk c o ho,hod⟩
   . exact ⟨none,m⟩
 . rcases hsp x c e with m | m
   . exact I.freeC x c (hclm x c m)
   . exact I.hok.fresh (J6p m.1)
 . show (Yp k idx σ).length=N'.length
   unfold Yp
   rw [S.len,Q7,Uc,Qb]
end
section
variable {X:Cx}{tg iter elt:Expr}{ifs:List Expr}{scope sc:J9o}{N N':List Str}{k:Nat}{idx:List Nat}{wi:TI}{g:TG}{tt:TT}{te:TE}{pos:Pos}
theorem Jfn {pins:List (Addr×Obj)}{s:J9i}{σ:St}{E:J9g->J9i->Prop}{RR:J9g->Addr->J91->J9i->Prop}{itv:J9g}{Qe:Addr->Hp->Prop}
 (hc:X.calm=true) (S:CompScopeC sc N scope N' k idx) (hsc:X.env.scope=sc) (hNN:X.N=N)
 (hg:∀ C s H fp,PG (Ze X N' scope C s H fp) tg g) (ht:∀ C s H fp,PTs (Ze X N' scope C s H fp) ifs tt) (he:∀ C s H fp,PE (Ze X N' scope C s H fp) elt te)
 (hit:PIE X pins σ tg (λ J H1=>∀ l,H1 l=none->Jj1 J g tt te l (Yp k idx σ) (upd H1 l (.lst [])) λ H2=>Qe l H2) itv s)
 (hRR:∀ l H2 C s2,Inv X pins σ H2 s2->(∃ m,s2.heap.Ns C m)->Free1 X pins H2 C->Qe l H2->RR (.ref l) C (.ok .next) s2) :
 J9j (model X.prog X.w) X.A (newList []) (λ acc s₃=>J9j (model X.prog X.w) X.A (newFunctionEnv scope X.env.globals (Yi X.env scope.names []) [] X.env.qual none .none (some X.env)) (λ cenv s₄=>
  J9u (model X.prog X.w) X.A (.compStart (.ListComp elt [⟨tg,iter,ifs,0⟩] scope pos) 0 itv acc { cenv with scope:=relabel scope X.env }) (RR acc cenv.locals) s₄) E s₃) E s:=by
 obtain ⟨it,fp,tn,J,H1,rfl,I1,T,st1,f1,q⟩:=hit
 refine wpAny_newObj_type ?_
 have hf0:H1 s.heap.objs.size=none:=I1.hok.fresh (Qm _)
 have hflt:∀ b∈fp,b<s.heap.objs.size:=λ b hb=>let ⟨_,e,_⟩:=T.obj _ _ st1 b hb;Qt e
 generalize hl:s.heap.objs.size=l at *
 have I2:Inv X pins σ (upd H1 l (.lst [])) { s with heap:=s.heap.push { cls:=.type "list",dict:=none,data:=.seq ([]:List J9g).toArray } }:=
  I1.laid (t':=s.toks) (λ b u e=>Qu _ e) (J4k hl) (show Y3 _ _ _ _ l (.lst []) from ⟨Xz _,[],0,.nil,by rw [<- hl];exact Q9 _ rfl⟩)
 have st2:tn 0 (s.heap.push { cls:=.type "list",dict:=none,data:=.seq ([]:List J9g).toArray }):=T.keep _ _ _ st1 λ b _ o e=>Qu _ e
 have f2:∀ b∈fp,Jc2 X pins (upd H1 l (.lst [])) b:=λ b hb=>⟨by rw [Jf (Q5 (hflt b hb))];exact (f1 b hb).1,(f1 b hb).2⟩
 have hsz2:(s.heap.push { cls:=.type "list",dict:=none,data:=.seq ([]:List J9g).toArray }).objs.size=l+1:=by rw [Xv,hl]
 have q2:=q l hf0
 generalize hs2:({ s with heap:=s.heap.push { cls:=.type "list",dict:=none,data:=.seq ([]:List J9g).toArray } }:J9i)=s2 at I2 ⊢
 have st2:tn 0 s2.heap:=by rw [<- hs2];exact st2
 have hsz2:s2.heap.objs.size=l+1:=by rw [<- hs2];exact hsz2
 refine Jj6 ?_
 have hk1:∀ b o,s2.heap.get? b=some o->(pushCells (s2.heap.push { cls:=.type "dict",data:=.dict #[] }) scope.names).get? b=some o:=λ b o e=>pushCells_keeps _ _ b o (Qu _ e)
 have hlt2:∀ b∈fp,b<s2.heap.objs.size:=λ b hb=>by rw [hsz2];exact J34 (hflt b hb)
 have I3:=Jl3 (t':=s2.toks) I2 S hsc hNN f2 hlt2
 generalize pushCells (s2.heap.push { cls:=.type "dict",data:=.dict #[] }) scope.names=h₁ at *
 generalize hC:s2.heap.objs.size=C at *
 have st3:tn 0 h₁:=T.keep _ _ _ st2 λ b _ o e=>hk1 b o e
 obtain ⟨W,⟨m0,w0⟩,turn⟩:=q2
 -- back to the frame around
 have back:∀ {σ':St} {H':Hp} {s':J9i},Inv (Ze X N' scope C s2 (upd H1 l (.lst [])) fp) [] σ' H' s'->Inv X pins σ H' s':=λ {σ' H' s'} I'=>
  I2.call' I'.os I'.base I'.hok I'.bare λ b hb=>⟨(f2 b hb).2.2.2.1,(f2 b hb).2.1,(f2 b hb).2.2.2.2.1,(f2 b hb).2.2.2.2.2⟩
 have loop:∀ s₃:J9i,s₃ = { s2 with heap:=h₁,toks:=s2.toks } ->
  J9u (model X.prog X.w) X.A (.compLoop (.ListComp elt [⟨tg,iter,ifs,0⟩] scope pos) 0 (.ref it) (.ref l) (compEnvC scope (cellsFrom (C+1) scope.names (Yi X.env scope.names [])) C X.env)) (RR (.ref l) C) s₃:=by
  rintro s₃ rfl
  refine Jfl (λ n s'=>∃ i σ' H',Inv (Ze X N' scope C s2 (upd H1 l (.lst [])) fp) [] σ' H' s'/\tn i s'.heap/\(∀ b∈fp,H' b=none)/\W i n σ' H') ?_ m0 ⟨0,_,_,I3,st3,λ b hb=>(f2 b hb).1,w0⟩
  rintro n s4 ⟨i,σ4,H4,I4,st4,fr4,w4⟩
  have stat:∀ {H':Hp},(∀ b∈fp,H' b=none)->∀ b∈fp,Jc2 (Ze X N' scope C s2 (upd H1 l (.lst [])) fp) [] H' b:=λ {H'} hn b hb=>
   ⟨hn b hb,(I4.ok.exf b hb).1,I4.ok.exfs b hb,.inl hb,(I4.ok.exf b hb).2,λ p hp=>by cases hp⟩
  rcases turn i n σ4 H4 w4 with ⟨stop,qn⟩ | ⟨go,step⟩
  . refine thn (T.done (Ze X N' scope C s2 (upd H1 l (.lst [])) fp) rfl rfl rfl hc i [] s4 σ4 H4 NoE I4 (stat fr4) st4 stop) λ r s5 ⟨hr,I5⟩=>?_
    subst hr
    have IX:=back I5
    have hCl:C≠X.env.locals:=λ e=>by
     have:=I2.lt
     rw [hC,<- e] at this
     exact Xc _ this
    have hCc:∀ x c,X.env.cells.lookup x=some c->c≠C:=λ x c e z=>by
     obtain ⟨v,o,ho,_⟩:=I2.cell x c e
     have:=Qt ho
     rw [hC,z] at this
     exact Xc _ this
    obtain ⟨m5,hm5,_⟩:=I5.loc
    refine hRR l H4 C s5 IX ⟨m5,hm5⟩ ⟨hCl,hCc,I5.free,by rw [<- hC];exact I2.sz,λ p hp z=>?_⟩ qn
    obtain ⟨e,_⟩:=I2.pin p hp
    have:=Qt e
    rw [hC,z] at this
    exact Xc _ this
  . refine thn (T.item (Ze X N' scope C s2 (upd H1 l (.lst [])) fp) rfl rfl rfl hc i [] s4 σ4 H4 NoE I4 (stat fr4) st4 go) λ r s5 ⟨u,hr,h5⟩=>?_
    subst hr
    refine thn h5 λ _ s6 ⟨x,H6,I6,r6,y6,st6,fr6⟩=>?_
    have I6':=I6.pinned (stat fr6) (T.obj _ _ st6)
    have keepT:∀ {σ7:St} {H7:Hp} {s7:J9i},Inv (Ze X N' scope C s2 (upd H1 l (.lst [])) fp) ([]++Jes fp s6.heap) σ7 H7 s7->tn (i+1) s7.heap/\∀ b∈fp,H7 b=none:=λ {σ7 H7 s7} I7=>
     ⟨T.keep _ _ _ st6 λ b hb o e=>(I7.pin (b,o) (Xf _ (Xf _ (V1 hb e)))).1,λ b hb=>by
      obtain ⟨o,e,d⟩:=T.obj _ _ st6 b hb
      exact (I7.pin (b,o) (Xf _ (Xf _ (V1 hb e)))).2.1⟩
    refine thn (hg C s2 (upd H1 l (.lst [])) fp _ s6 σ4 H6 x u _ I6' r6 (step x H6 y6)) λ _ s7 ⟨σ7,H7,I7,q7⟩=>?_
    refine thn (ht C s2 (upd H1 l (.lst [])) fp _ s7 σ7 H7 _ I7 q7) λ ok s8 ⟨H8,I8,q8⟩=>?_
    cases ok with
    | false=>
     rw [if_neg (by decide)] at q8 ⊢
     obtain ⟨m',hm,w8⟩:=q8
     have kt:=keepT I8
     exact ⟨m',hm,i+1,σ7,H8,I8.unpinned,kt.1,kt.2,w8⟩
    | true=>
     rw [if_pos rfl] at q8 ⊢
     refine thn (he C s2 (upd H1 l (.lst [])) fp _ s8 σ7 H8 _ I8 q8) λ v s9 ⟨y,H9,I9,r9,xs,e9,z9,m',hm,w9⟩=>?_
     refine thn (Vm _ s9 σ7 H9 (.ref l) [y] (.ref l) [v] (λ z H10=>z = .non/\H10=upd H9 l (.lst (xs++[y]))) I9 rfl (.cons r9 .nil) ⟨l,xs,y,rfl,rfl,e9,z9,rfl,rfl⟩) λ _ s10 ⟨z,H10,I10,_,_,e10⟩=>?_
     subst e10
     have kt:=keepT I10
     exact ⟨m',hm,i+1,σ7,_,I10.unpinned,kt.1,kt.2,w9⟩
 have e2:(newEnv scope C X.env.globals (cellsFrom (C+1) scope.names (Yi X.env scope.names [])) X.env.qual none .none (some X.env) Yag).locals=C:=rfl
 show J9u _ _ (.compStart _ 0 (.ref it) (.ref l) (compEnvC scope (cellsFrom (C+1) scope.names (Yi X.env scope.names [])) C X.env)) (RR (.ref l) C) _
 exact Yau (loop _ rfl) (T.self _ 0 _ _ _ st3 (loop _ rfl))
theorem Jl4 (hc:X.calm=true) (S:CompScopeC sc N scope N' k idx) (hsc:X.env.scope=sc) (hNN:X.N=N) (hi:PI X tg iter wi)
 (hg:∀ C s H fp,PG (Ze X N' scope C s H fp) tg g) (ht:∀ C s H fp,PTs (Ze X N' scope C s H fp) ifs tt) (he:∀ C s H fp,PE (Ze X N' scope C s H fp) elt te)
 (hs:∀ x,Yah iter X.env x=pure x:=by intro _;rfl):PE X (.ListComp elt [⟨tg,iter,ifs,0⟩] scope pos) (Jau wi k idx g tt te):=by
 intro pins s σ H Q I h
 rw [eval_ListComp]
 have hclos:Yaf scope X.env=pure (Yi X.env scope.names []):=Ba λ x hx hfree=>I.ok.has x.1 (by
  show X.env.scope.names.lookup x.1=_\/X.env.scope.names.lookup x.1=_
  rw [hsc];exact S.fr x hx hfree)
 refine wpAny_comprehension_free (use:=none) rfl hs hclos S.kind S.loc (thn (hi pins s σ H _ I h) λ v s1 h1=>thn h1 λ itv s2 h2=>?_)
 refine Jfn (RR:=λ acc C=>compPost (model X.prog X.w) X.A X.xe none (EP X pins σ Q) acc C) (Qe:=λ l H2=>Q (.ref l) H2) hc S hsc hNN hg ht he h2 ?_
 intro l H2 C s2 I2 hm f q
 obtain ⟨m,hm⟩:=hm
 exact ⟨m,hm,λ h' hs'=>⟨.ref l,H2,I2.freed f hs',rfl,q⟩⟩
theorem Jfo {i:Nat}{y:Str}{py spos:Pos}(hc:X.calm=true) (hN:X.N.Nodup) (hiN:X.N[i]? = some y) (hy:X.env.scope.names.lookup y=some .local) (S:CompScopeC sc N scope N' k idx) (hsc:X.env.scope=sc) (hNN:X.N=N) (hi:PI X tg iter wi)
 (hg:∀ C s H fp,PG (Ze X N' scope C s H fp) tg g) (ht:∀ C s H fp,PTs (Ze X N' scope C s H fp) ifs tt) (he:∀ C s H fp,PE (Ze X N' scope C s H fp) elt te)
 (hsw:J98 (.ListComp elt [⟨tg,iter,ifs,0⟩] scope pos) (some (.Name y py)) spos.line X.env=pure true:=by rfl)
 (hs:∀ x,Yah iter X.env x=pure x:=by intro _;rfl):PS X (.Assign [.Name y py] (.ListComp elt [⟨tg,iter,ifs,0⟩] scope pos) spos) (Bf i wi k idx g tt te):=by
 intro pins s σ H D I h
 rw [Yav _ _ _ _ hsw]
 refine wpAny_bind (wpAny_standAt (wpAny_bind ?_))
 show J9j _ X.A (do let _ <- comprehension (.ListComp elt [⟨tg,iter,ifs,0⟩] scope pos) scope X.env _ (newList []) false (eval iter X.env) (some (assign (.Name y py) X.env))) _ _ s
 have hclos:Yaf scope X.env=pure (Yi X.env scope.names []):=Ba λ x hx hfree=>I.ok.has x.1 (by
  show X.env.scope.names.lookup x.1=_\/X.env.scope.names.lookup x.1=_
  rw [hsc];exact S.fr x hx hfree)
 refine wpAny_bind (wpAny_mono (wpAny_comprehension_free (use:=some (assign (.Name y py) X.env)) (Q:=λ _ s'=>SP X pins D .next s') rfl hs hclos S.kind S.loc (thn (hi pins s σ H _ I h) λ v s1 h1=>thn h1 λ itv s2 h2=>?_))
  (λ _ s' hq=>wpAny_pure (wpAny_pure hq)) λ _ _ e=>e)
 refine Jfn (RR:=λ acc C=>compPost (model X.prog X.w) X.A X.xe (some (assign (.Name y py) X.env)) (λ _ s'=>SP X pins D .next s') acc C) (Qe:=λ l H2=>D.nx (σ.set i (some (.ref l))) H2) hc S hsc hNN hg ht he h2 ?_
 intro l H2 C s2 I2 hm f q
 obtain ⟨m,hm⟩:=hm
 show J9j _ X.A (assign (.Name y py) X.env (.ref l)) _ _ _
 refine Yan (Jer (v:=.ref l) I2 hN hiN (.inl hy) rfl (λ s' I' hch=>?_) (.inr hy))
 obtain ⟨a,hsb,ha⟩:=hch
 have haC:C≠a:=λ z=>by
  rcases ha with e | e
  . exact f.loc (z.trans e)
  . exact f.cel y a e z.symm
 exact ⟨m,hm.sameBut hsb haC,λ h' hs'=>⟨_,H2,I'.freed f hs',q⟩⟩
end
noncomputable def Jst (scope osc:J9o):J9o:={ scope with names:=scope.names.map λ (n,k)=>if (k==Uk&&osc.kind == .function&&osc.names.lookup n==some .cell) then (n,Uu) else (n,k) }
theorem Jvo {X:Cx}{N':List Str}{scope osc:J9o}{C:Addr}{s:J9i}{H:Hp}{fp:List Addr}(h:X.env.scope=osc):(Ze X N' scope C s H fp).env.scope=Jst scope osc:=by
 subst h;rfl
end L2
namespace My
open L2
noncomputable def Jbb (ws:List Way) (cs:List Int) (p:Nat):List Int:=(Ql ws.length).map λ i=>cs.getD i 0*(Jc ws (i:Nat)).g.getD p 0
noncomputable def rgI (ws:List Way) (cs:List Int) (U:Int):List Int:=(Ql U.toNat).map λ p=>(Jbb ws cs p).sum
inductive Vl where
 | jnk | jar | tape | d (x:J9h) | own (xs:List J9h) | dct (kvs:List (Key×J9h)) | own2 (ks:Option (List Key)) (ps:List (Addr×List J9h)) | pin (v:V) (x:J9h)
structure Src where
 jv:V
 ch:List Addr
 inv:Nat->Hp->Prop
 keep:∀ {n:Nat} {H H':Hp},inv n H->(∀ b∈ch,∀ o,H b=some o->H' b=some o)->inv n H'
 dom:∀ {n:Nat} {H:Hp},inv n H->∀ b∈ch,H b≠none
noncomputable def Src.no:Src:=⟨.non,[],λ _ _=>True,λ _ _=>trivial,λ _ _ h=>by cases h⟩
def Jq2 (H:Hp) (p c:Addr) (n:Nat):Prop:=∃ e,Jy6 H p c e/\(n=0\/e=some (n:Int))
theorem Jq2.jar {H:Hp}{p c:Addr}{n:Nat}(J:Jq2 H p c n):Jar H p c:=J.choose_spec.1.jar
theorem Jvp {H:Hp}{p c:Addr}{n:Nat}(J:Jq2 H p c n):∀ b∈[p,c],H b≠none:=λ b hb z=>J.jar.fresh z hb
theorem Jsu {H H':Hp}{p c:Addr}{n:Nat}(J:Jq2 H p c n) (h:∀ b∈[p,c],∀ o,H b=some o->H' b=some o):Jq2 H' p c n:=by
 obtain ⟨e,⟨ns,r,s,t,X,h3⟩,hn⟩:=J
 exact ⟨e,⟨ns,r,s,t,⟨h _ (by simp) _ X.d,h _ (by simp) _ X.l⟩,h3⟩,hn⟩
noncomputable def Src.jar (p c:Addr):Src:=⟨.ref p,[p,c],λ n H=>Jq2 H p c n,λ J h=>Jsu J h,λ J=>Jvp J⟩
theorem Jq3 {H H':Hp}{p c:Addr}{n:Nat}(J:Tape H p c n) (h:∀ b∈[p,c],∀ o,H b=some o->H' b=some o):Tape H' p c n:=by
 obtain ⟨ns,a,g,h1,h2,h3⟩:=J.ex
 exact ⟨ns,a,g,h _ (by simp) _ h1,h _ (by simp) _ h2,h3⟩
noncomputable def Src.tape (p c:Addr):Src:=⟨.ref p,[p,c],λ n H=>Tape H p c n,λ J h=>Jq3 J h,λ J b hb z=>J.fresh z hb⟩
def Yv (S:Src) (n':Nat) (H H':Hp):Prop:=Kp S.ch H H'/\S.inv n' H'
section
variable {S:Src}{n m:Nat}{H H1 H2 H':Hp}{ex:List Addr}
theorem Yv.refl (h:S.inv n H):Yv S n H H:=⟨.refl,h⟩
theorem Yv.trans (a:Yv S n H H1) (b:Yv S m H1 H2):Yv S m H H2:=⟨a.1.trans b.1,b.2⟩
theorem Yv.new (h:S.inv n H) (k:Kp [] H H'):Yv S n H H':=⟨k.of,S.keep h λ b _ o e=>k b o e (by simp)⟩
theorem Yv.then (a:Yv S n H H1) (k:Kp [] H1 H2):Yv S n H H2:=a.trans (.new a.2 k)
theorem Yv.free {p:Addr}(a:Yv S n H H1) (h:H1 p=none):H p=none:=by
 cases e:H p with
 | none=>rfl
 | some o=>
  by_cases hp:p∈S.ch
  . exact absurd h (S.dom a.2 p hp)
  . rw [a.1 p o e hp] at h;cases h
def Alc (ex:List Addr) (H:Hp):Prop:=∀ a∈ex,H a≠none
theorem Alc.nm {p:Addr}(h:Alc ex H) (e:H p=none):p∉ex:=λ z=>h p z e
theorem Alc.kp (h:Alc ex H) (k:Kp [] H H'):Alc ex H':=λ a ha z=>by
 cases e:H a with
 | none=>exact h a ha e
 | some o=>rw [k a o e (by simp)] at z;cases z
theorem Alc.step (h:Alc ex H) (k:Yv S n H H'):Alc ex H':=λ a ha z=>h a ha (k.free z)
mutual
theorem Rep.add {l:Addr}(h:H l=none):∀ {d:J9h}{v:V},Rep ex H d v->Rep (l::ex) H d v
 | _,_,.none=>.none
 | _,_,.bool b=>.bool b
 | _,_,.int i=>.int i
 | _,_,.str x=>.str x
 | _,_,.tuple e n z r=>.tuple e (λ q=>(Qf.mp q).elim (λ q=>by rw [q,h] at e;cases e) n) z (Reps.add h r)
 | _,_,.list e n z r=>.list e (λ q=>(Qf.mp q).elim (λ q=>by rw [q,h] at e;cases e) n) z (Reps.add h r)
 | _,_,.obj e n k r=>.obj e (λ q=>(Qf.mp q).elim (λ q=>by rw [q,h] at e;cases e) n) k (Reps.add h r)
theorem Reps.add {l:Addr}(h:H l=none):∀ {ds:List J9h}{vs:List V},Reps ex H ds vs->Reps (l::ex) H ds vs
 | _,_,.nil=>.nil
 | _,_,.cons r t=>.cons (Rep.add h r) (Reps.add h t)
end
theorem Rep.sub {l:Addr}{d:J9h}{v:V}(r:Rep (l::ex) H d v):Rep ex H d v:=Rep.mono (λ b hb=>Qj _ hb) r
theorem Reps.sub {l:Addr}{d:List J9h}{v:List V}(r:Reps (l::ex) H d v):Reps ex H d v:=Reps.mono (λ b hb=>Qj _ hb) r
end
noncomputable def exm (m:Bool) (S:Src) (ex:List Addr):List Addr:=match m with | true=>ex | false=>S.ch
def KvR (ex:List Addr) (H:Hp) (kvs:List (Key×J9h)) (kws:List (Key×V)):Prop:=kws.map (·.1)=kvs.map (·.1)/\Reps ex H (kvs.map (·.2)) (kws.map (·.2))
noncomputable def J0w (ks:Option (List Key)) (rs:List V):HO:=match ks with
 | none=>.lst rs
 | some ks=>.dK (ks.zip rs)
structure In2 (S:Src) (ex:List Addr) (H:Hp) (p:Addr×List J9h):Prop where
 m:p.1∈ex
 c:p.1∉S.ch
 h:∃ vs,H p.1=some (.lst vs)/\vs.length<=sizeLine/\Reps ex H p.2 vs
noncomputable def Yx (ps:List (Addr×List J9h)):List V:=ps.map λ p=>.ref p.1
structure Own2 (S:Src) (ex:List Addr) (H:Hp) (ks:Option (List Key)) (ps:List (Addr×List J9h)) (a:Addr):Prop where
 h:H a=some (J0w ks (Yx ps))
 z:ps.length<=1000000
 k:∀ l,ks=some l->l.length=ps.length
 nd:(a::ps.map (·.1)).Nodup
 m:a∈ex
 c:a∉S.ch
 i:∀ p∈ps,In2 S ex H p
def SlR (S:Src) (ex:List Addr) (H:Hp):Vl->Option V->Prop
 | .jnk,_=>True
 | .jar,o=>∃ p c,S=Src.jar p c/\o=some (.ref p)
 | .tape,o=>∃ p c,S=Src.tape p c/\o=some (.ref p)
 | .d x,o=>∃ v,o=some v/\Rep ex H x v
 | .own xs,o=>∃ a vs,o=some (.ref a)/\H a=some (.lst vs)/\vs.length<=sizeLine/\Reps ex H xs vs/\a∈ex/\a∉S.ch
 | .dct kvs,o=>∃ a kws,o=some (.ref a)/\H a=some (.dK kws)/\KvR ex H kvs kws/\a∈ex/\a∉S.ch
 | .own2 ks ps,o=>∃ a,o=some (.ref a)/\Own2 S ex H ks ps a
 | .pin v x,o=>o=some v/\Rep ex H x v
structure Ev (S:Src) (ex:List Addr) (env:List Vl) (σ:L2.St) (H:Hp) (n:Nat):Prop where
 len:env.length<=σ.length
 sl:∀ (i:Nat) (w:Vl),env[i]? = some w->SlR S ex H w (σ[i]?).join
 ch:∀ a∈S.ch,a∈ex
 al:Alc ex H
 inv:S.inv n H
section
variable {S:Src}{n m:Nat}{H H1 H2 H':Hp}{ex:List Addr}{env:List Vl}{σ:L2.St}
theorem SlR.kp {w:Vl}{o:Option V}(hc:∀ a∈S.ch,a∈ex) (k:Kp S.ch H H') (h:SlR S ex H w o):SlR S ex H' w o:=by
 have kx:Kp ex H H':=k.mono hc
 cases w with
 | jnk=>trivial
 | jar=>exact h
 | tape=>exact h
 | d x=>obtain ⟨v,e,r⟩:=h;exact ⟨v,e,r.keep kx⟩
 | pin v x=>obtain ⟨e,r⟩:=h;exact ⟨e,r.keep kx⟩
 | own xs=>obtain ⟨a,vs,e,h1,h2,h3,h4,h5⟩:=h;exact ⟨a,vs,e,k _ _ h1 h5,h2,h3.keep kx,h4,h5⟩
 | dct kvs=>obtain ⟨a,kws,e,h1,⟨h2,h3⟩,h4,h5⟩:=h;exact ⟨a,kws,e,k _ _ h1 h5,⟨h2,h3.keep kx⟩,h4,h5⟩
 | own2 ks ps=>obtain ⟨a,e,q⟩:=h;exact ⟨a,e,k _ _ q.h q.c,q.z,q.k,q.nd,q.m,q.c,λ p hp=>let w:=q.i p hp;⟨w.m,w.c,let ⟨vs,h1,h2,h3⟩:=w.h;⟨vs,k _ _ h1 w.c,h2,h3.keep kx⟩⟩⟩
theorem Ev.step (E:Ev S ex env σ H n) (k:Yv S m H H'):Ev S ex env σ H' m:=⟨E.len,λ i w e=>(E.sl i w e).kp E.ch k.1,E.ch,E.al.step k,k.2⟩
theorem Ev.rep (E:Ev S ex env σ H n) (k:Yv S m H H') {d:J9h}{v:V}(r:Rep ex H d v):Rep ex H' d v:=r.keep (k.1.mono E.ch)
theorem Ev.reps (E:Ev S ex env σ H n) (k:Yv S m H H') {d:List J9h}{v:List V}(r:Reps ex H d v):Reps ex H' d v:=r.keep (k.1.mono E.ch)
theorem Ev.sub (E:Ev S ex env σ H n) (b:Bool):∀ a∈exm b S ex,a∈ex:=by
 cases b with
 | true=>exact λ a h=>h
 | false=>exact E.ch
theorem Ev.sup (E:Ev S ex env σ H n) (b:Bool):∀ a∈S.ch,a∈exm b S ex:=by
 cases b with
 | true=>exact E.ch
 | false=>exact λ a h=>h
theorem Ev.alm (E:Ev S ex env σ H n) (b:Bool):Alc (exm b S ex) H:=λ a h=>E.al a (E.sub b a h)
theorem Ev.repm (E:Ev S ex env σ H n) (b:Bool) (k:Yv S m H H') {d:J9h}{v:V}(r:Rep (exm b S ex) H d v):Rep (exm b S ex) H' d v:=r.keep (k.1.mono (E.sup b))
theorem Rep.nil {d:J9h}{v:V}(r:Rep ex H d v):Rep [] H d v:=Rep.mono (λ b hb=>by cases hb) r
theorem Reps.nil' {d:List J9h}{v:List V}(r:Reps ex H d v):Reps [] H d v:=Reps.mono (λ b hb=>by cases hb) r
theorem Jm {i:Nat}{v:V}(h:(σ[i]?).join=some v):σ[i]? = some (some v):=by
 cases e:σ[i]? with
 | none=>rw [e] at h;cases h
 | some o=>rw [e] at h;cases o with
  | none=>cases h
  | some u=>cases h;rfl
end
abbrev GE:=List Vl->Nat->(J9h->Nat->Prop)->Prop
abbrev GT:=List Vl->Nat->(Bool->Nat->Prop)->Prop
abbrev GA:=List Vl->Nat->(List Vl->Nat->Prop)->Prop
abbrev GN:=List Vl->Nat->(List J9h->Nat->Prop)->Prop
abbrev GSp:=List Vl->Nat->(J9h->Nat->Prop)->Prop
abbrev GSn:=List Vl->Nat->(List J9h->Nat->Prop)->Prop
def B1 (S:Src) (ex:List Addr) (H:Hp):List Vl->List V->Prop
 | [],[]=>True
 | a::as,v::vs=>SlR S ex H a (some v)/\B1 S ex H as vs
 | _,_=>False
class EV (m:Bool) (te:TE) (g:outParam GE):Prop where
 ev:∀ {S:Src} {ex:List Addr} {env:List Vl} {σ:L2.St} {H:Hp} {n:Nat} {Q:VK} {P:J9h->Nat->Prop},Ev S ex env σ H n->g env n P->(∀ d n' v H',P d n'->Yv S n' H H'->Rep (exm m S ex) H' d v->Q v H')->te σ H Q
class NV (te:TE) (g:outParam GN):Prop where
 nv:∀ {S:Src} {ex:List Addr} {env:List Vl} {σ:L2.St} {H:Hp} {n:Nat} {Q:VK} {P:List J9h->Nat->Prop},Ev S ex env σ H n->g env n P->(∀ ds n' a vs H',P ds n'->Yv S n' H H'->H a=none->H' a=some (.lst vs)->vs.length<=sizeLine->Reps (a::ex) H' ds vs->Q (.ref a) H')->te σ H Q
class TV (tt:TT) (g:outParam GT):Prop where
 tv:∀ {S:Src} {ex:List Addr} {env:List Vl} {σ:L2.St} {H:Hp} {n:Nat} {Q:Bool->Hp->Prop} {P:Bool->Nat->Prop},Ev S ex env σ H n->g env n P->(∀ b n' H',P b n'->Yv S n' H H'->Q b H')->tt σ H Q
class AV (m:Bool) (ta:TA) (g:outParam GA):Prop where
 av:∀ {S:Src} {ex:List Addr} {env:List Vl} {σ:L2.St} {H:Hp} {n:Nat} {Q:List V->Hp->Prop} {P:List Vl->Nat->Prop},Ev S ex env σ H n->g env n P->(∀ as n' vs H',P as n'->Yv S n' H H'->B1 S (exm m S ex) H' as vs->Q vs H')->ta σ H Q
class DV (m:Bool) (ta:TA) (g:outParam GN):Prop where
 dv:∀ {S:Src} {ex:List Addr} {env:List Vl} {σ:L2.St} {H:Hp} {n:Nat} {Q:List V->Hp->Prop} {P:List J9h->Nat->Prop},Ev S ex env σ H n->g env n P->(∀ ds n' vs H',P ds n'->Yv S n' H H'->Reps (exm m S ex) H' ds vs->Q vs H')->ta σ H Q
abbrev G2:=J9h->J9h->(J9h->Prop)->Prop
class OV (r:R2) (f:outParam G2):Prop where
 ov:∀ {ex:List Addr} {H:Hp} {x y:V} {dx dy:J9h} {Q:VK} {P:J9h->Prop},Alc ex H->Rep ex H dx x->Rep ex H dy y->f dx dy P->(∀ d v H',P d->Kp [] H H'->Rep ex H' d v->Q v H')->r x y H Q
class OS (r:R2) (f:outParam G2):Prop where
 os:∀ {H:Hp} {x y:V} {dx dy:J9h} {Q:VK} {P:J9h->Prop},Rep [] H dx x->Rep [] H dy y->f dx dy P->(∀ d v,P d->(∀ ex,Rep ex H d v)->Q v H)->r x y H Q
class ON (r:R2) (f:outParam (J9h->J9h->(List J9h->Prop)->Prop)):Prop where
 on:∀ {ex:List Addr} {H:Hp} {x y:V} {dx dy:J9h} {Q:VK} {P:List J9h->Prop},Rep ex H dx x->Rep ex H dy y->f dx dy P->(∀ ds p vs,P ds->H p=none->vs.length<=sizeLine->Reps ex H ds vs->Q (.ref p) (upd H p (.lst vs)))->r x y H Q
abbrev G1:=List J9h->(J9h->Prop)->Prop
class CS (r:List V->Hp->VK->Prop) (f:outParam G1):Prop where
 cs:∀ {H:Hp} {xs:List V} {ds:List J9h} {Q:VK} {P:J9h->Prop},Reps [] H ds xs->f ds P->(∀ d v,P d->(∀ ex,Rep ex H d v)->Q v H)->r xs H Q
class CO (r:List V->Hp->VK->Prop) (f:outParam G1):Prop where
 co:∀ {ex:List Addr} {H:Hp} {xs:List V} {ds:List J9h} {Q:VK} {P:J9h->Prop},Alc ex H->Reps ex H ds xs->f ds P->(∀ d v H',P d->Kp [] H H'->Rep ex H' d v->Q v H')->r xs H Q
class CN (r:List V->Hp->VK->Prop) (f:outParam (List J9h->(List J9h->Prop)->Prop)):Prop where
 cn:∀ {ex:List Addr} {H:Hp} {xs:List V} {ds:List J9h} {Q:VK} {P:List J9h->Prop},Reps ex H ds xs->f ds P->(∀ es p vs,P es->H p=none->vs.length<=sizeLine->Reps ex H es vs->Q (.ref p) (upd H p (.lst vs)))->r xs H Q
abbrev Jvq (i:Nat):GE:=λ env n Q=>match env[i]? with
 | some (.d x)=>Q x n
 | some (.pin _ x)=>Q x n
 | _=>False
abbrev Jxo (i:Nat):GE:=λ env n Q=>match env[i]? with
 | some (.d x)=>Q x n
 | some (.pin _ x)=>Q x n
 | some (.own xs)=>Q (.list xs) n
 | some (.own2 none ps)=>Q (.list (ps.map λ p=>.list p.2)) n
 | _=>False
theorem Jey {S:Src}{ex:List Addr}{H:Hp}:∀ {ps:List (Addr×List J9h)},(∀ a∈S.ch,a∈ex)->(∀ p∈ps,In2 S ex H p)->Reps S.ch H (ps.map λ p=>X4 p.2) (Yx ps)
 | [],_,_=>.nil
 | p::ps,hc,h=>by
  have w:=h p Qi
  obtain ⟨vs,h1,h2,h3⟩:=w.h
  exact .cons (.list h1 w.c h2 (Reps.mono hc h3)) (Jey hc λ q hq=>h q (Qj _ hq))
abbrev gC (d:J9h):GE:=λ _ n Q=>Q d n
section
variable {S:Src}{n m:Nat}{H H1 H2 H':Hp}{ex:List Addr}{env:List Vl}{σ:L2.St}{b:Bool}{te ta tb tc:TE}{g ga gb gc:GE}
instance ev_var {i:Nat}:EV true (Zv i) (Jvq i):=⟨λ {S ex env σ H n Q P} E h k=>by
 unfold Jvq at h
 split at h
 . rename_i x e
   obtain ⟨v,ev,r⟩:=E.sl i _ e
   exact ⟨v,Jm ev,k _ _ v H h (.refl E.inv) r⟩
 . rename_i v x e
   obtain ⟨ev,r⟩:=E.sl i _ e
   exact ⟨v,Jm ev,k _ _ v H h (.refl E.inv) r⟩
 . exact h.elim⟩
instance pv_var {i:Nat}:EV false (Zv i) (Jxo i):=⟨λ {S ex env σ H n Q P} E h k=>by
 unfold Jxo at h
 split at h
 . rename_i x e
   obtain ⟨v,ev,r⟩:=E.sl i _ e
   exact ⟨v,Jm ev,k _ _ v H h (.refl E.inv) (Rep.mono E.ch r)⟩
 . rename_i v x e
   obtain ⟨ev,r⟩:=E.sl i _ e
   exact ⟨v,Jm ev,k _ _ v H h (.refl E.inv) (Rep.mono E.ch r)⟩
 . rename_i xs e
   obtain ⟨a,vs,ev,h1,h2,h3,h4,h5⟩:=E.sl i _ e
   exact ⟨_,Jm ev,k _ _ _ H h (.refl E.inv) (.list h1 h5 h2 (Reps.mono E.ch h3))⟩
 . rename_i ps e
   obtain ⟨a,ev,q⟩:=E.sl i _ e
   have hs:sizeLine=16777216:=J9n
   exact ⟨_,Jm ev,k _ _ _ H h (.refl E.inv) (.list q.h q.c (by unfold Yx;rw [Qb];have:=q.z;omega) (Jey E.ch q.i))⟩
 . exact h.elim⟩
instance ev_int {i:Int}:EV b (tC (.int i)) (gC (.int i)):=⟨λ E h k=>k _ _ _ _ h (.refl E.inv) (.int i)⟩
instance ev_bl {i:Bool}:EV b (tC (.bl i)) (gC (.bool i)):=⟨λ E h k=>k _ _ _ _ h (.refl E.inv) (.bool i)⟩
instance ev_str {i:Str}:EV b (tC (.str i)) (gC (.str i)):=⟨λ E h k=>k _ _ _ _ h (.refl E.inv) (.str i)⟩
instance ev_non:EV b (tC .non) (gC .none):=⟨λ E h k=>k _ _ _ _ h (.refl E.inv) .none⟩
abbrev gOp (f:G2) (ga gb:GE):GE:=λ env n Q=>ga env n λ x n1=>gb env n1 λ y n2=>f x y λ d=>Q d n2
instance ev_opS {r:R2}{f:G2} [O:OS r f] [A:EV false ta ga] [B:EV false tb gb]:EV b (tOp r ta tb) (gOp f ga gb):=⟨λ {S ex env σ H n Q P} E h k=>by
 refine A.ev E h λ x n1 v1 H1 h1 s1 r1=>B.ev (E.step s1) h1 λ y n2 v2 H2 h2 s2 r2=>?_
 exact O.os (Rep.nil ((E.step s1).repm false s2 r1)) (Rep.nil r2) h2 λ d v p r=>k _ _ _ _ p (s1.trans s2) (r _)⟩
instance (priority:=low) ev_op {r:R2}{f:G2} [O:OV r f] [A:EV b ta ga] [B:EV b tb gb]:EV b (tOp r ta tb) (gOp f ga gb):=⟨λ {S ex env σ H n Q P} E h k=>by
 refine A.ev E h λ x n1 v1 H1 h1 s1 r1=>B.ev (E.step s1) h1 λ y n2 v2 H2 h2 s2 r2=>?_
 exact O.ov ((E.step (s1.trans s2)).alm b) ((E.step s1).repm b s2 r1) r2 h2 λ d v H' p kp r=>k _ _ _ _ p ((s1.trans s2).then kp) r⟩
abbrev J2a (g:GN):GE:=λ env n Q=>g env n λ ds n'=>Q (.list ds) n'
instance (priority:=low) ev_nv {g:GN} [N:NV te g]:EV b te (J2a g):=⟨λ {S ex env σ H n Q P} E h k=>
 N.nv E h λ ds n' a vs H' p st ha hl hz r=>k _ _ _ _ p st (.list hl (λ z=>E.alm b a z ha) hz (Reps.mono (λ c hc=>Qj _ (E.sub b c hc)) r))⟩
abbrev J2b (f:J9h->J9h->(List J9h->Prop)->Prop) (ga gb:GE):GN:=λ env n Q=>ga env n λ x n1=>gb env n1 λ y n2=>f x y λ d=>Q d n2
theorem B2 {S:Src}{ex:List Addr}{env:List Vl}{σ:L2.St}{H H1:Hp}{n n1:Nat}{p:Addr}{vs:List V}{ds:List J9h}(E:Ev S ex env σ H n) (s:Yv S n1 H H1) (hp:H1 p=none) (r:Reps ex H1 ds vs) :
 Yv S n1 H (upd H1 p (.lst vs))/\H p=none/\Reps (p::ex) (upd H1 p (.lst vs)) ds vs:=
 ⟨s.then (Kp.new hp _),s.free hp,(Reps.add hp r).keep (Kp.new hp _)⟩
instance nv_op {r:R2}{f:J9h->J9h->(List J9h->Prop)->Prop} [O:ON r f] [A:EV true ta ga] [B:EV true tb gb]:NV (tOp r ta tb) (J2b f ga gb):=⟨λ {S ex env σ H n Q P} E h k=>by
 refine A.ev E h λ x n1 v1 H1 h1 s1 r1=>B.ev (E.step s1) h1 λ y n2 v2 H2 h2 s2 r2=>?_
 refine O.on ((E.step s1).repm true s2 r1) r2 h2 λ ds p vs pp hp hz r=>?_
 obtain ⟨c1,c2,c3⟩:=B2 E (s1.trans s2) hp r
 exact k _ _ _ _ _ pp c1 c2 Jh hz c3⟩
abbrev J0x:GA:=λ _ n Q=>Q [] n
abbrev J0y (i:Nat) (rest:GA):GA:=λ env n Q=>match env[i]? with
 | some (.d x)=>rest env n λ as n'=>Q (.d x::as) n'
 | some .jar=>rest env n λ as n'=>Q (.jar::as) n'
 | some .tape=>rest env n λ as n'=>Q (.tape::as) n'
 | _=>False
abbrev Jxp (i:Nat) (rest:GA):GA:=λ env n Q=>match env[i]? with
 | some (.d x)=>rest env n λ as n'=>Q (.d x::as) n'
 | some (.own xs)=>rest env n λ as n'=>Q (.d (.list xs)::as) n'
 | some (.own2 none ps)=>rest env n λ as n'=>Q (.d (.list (ps.map λ p=>.list p.2))::as) n'
 | some .jar=>rest env n λ as n'=>Q (.jar::as) n'
 | some .tape=>rest env n λ as n'=>Q (.tape::as) n'
 | _=>False
abbrev Jy7 (g:GE) (rest:GA):GA:=λ env n Q=>g env n λ d n1=>rest env n1 λ as n2=>Q (.d d::as) n2
abbrev J0z:GN:=λ _ n Q=>Q [] n
abbrev Jy8 (g:GE) (rest:GN):GN:=λ env n Q=>g env n λ d n1=>rest env n1 λ as n2=>Q (d::as) n2
instance av_nil:AV b Jbr J0x:=⟨λ E h k=>k _ _ _ _ h (.refl E.inv) trivial⟩
instance (priority:=low) av_cons {t:TA}{gt:GA} [A:EV b te g] [B:AV b t gt]:AV b (Yq te t) (Jy7 g gt):=⟨λ {S ex env σ H n Q P} E h k=>
 A.ev E h λ x n1 v1 H1 h1 s1 r1=>B.av (E.step s1) h1 λ as n2 vs H2 h2 s2 r2=>k _ _ _ _ h2 (s1.trans s2) ⟨⟨_,rfl,(E.step s1).repm b s2 r1⟩,r2⟩⟩
instance av_var {t:TA}{gt:GA}{i:Nat} [B:AV true t gt]:AV true (Yq (Zv i) t) (J0y i gt):=⟨λ {S ex env σ H n Q P} E h k=>by
 unfold J0y at h
 split at h
 . rename_i x e
   obtain ⟨v,ev,r⟩:=E.sl i _ e
   exact ⟨v,Jm ev,B.av E h λ as n2 vs H2 h2 s2 r2=>k _ _ _ _ h2 s2 ⟨⟨_,rfl,E.repm true s2 r⟩,r2⟩⟩
 . rename_i e
   obtain ⟨p,c,hS,ev⟩:=E.sl i _ e
   exact ⟨_,Jm ev,B.av E h λ as n2 vs H2 h2 s2 r2=>k _ _ _ _ h2 s2 ⟨⟨p,c,hS,rfl⟩,r2⟩⟩
 . rename_i e
   obtain ⟨p,c,hS,ev⟩:=E.sl i _ e
   exact ⟨_,Jm ev,B.av E h λ as n2 vs H2 h2 s2 r2=>k _ _ _ _ h2 s2 ⟨⟨p,c,hS,rfl⟩,r2⟩⟩
 . exact h.elim⟩
instance av_look {t:TA}{gt:GA}{i:Nat} [B:AV false t gt]:AV false (Yq (Zv i) t) (Jxp i gt):=⟨λ {S ex env σ H n Q P} E h k=>by
 unfold Jxp at h
 split at h
 . rename_i x e
   obtain ⟨v,ev,r⟩:=E.sl i _ e
   exact ⟨v,Jm ev,B.av E h λ as n2 vs H2 h2 s2 r2=>k _ _ _ _ h2 s2 ⟨⟨_,rfl,E.repm false s2 (Rep.mono E.ch r)⟩,r2⟩⟩
 . rename_i xs e
   obtain ⟨a,vs,ev,h1,h2,h3,h4,h5⟩:=E.sl i _ e
   exact ⟨_,Jm ev,B.av E h λ as n2 vs' H2 hh s2 r2=>k _ _ _ _ hh s2 ⟨⟨_,rfl,E.repm false s2 (.list h1 h5 h2 (Reps.mono E.ch h3))⟩,r2⟩⟩
 . rename_i ps e
   obtain ⟨a,ev,q⟩:=E.sl i _ e
   exact ⟨_,Jm ev,B.av E h λ as n2 vs' H2 hh s2 r2=>k _ _ _ _ hh s2 ⟨⟨_,rfl,E.repm false s2 (.list q.h q.c (by unfold Yx;rw [Qb,J9n];have:=q.z;omega) (Jey E.ch q.i))⟩,r2⟩⟩
 . rename_i e
   obtain ⟨p,c,hS,ev⟩:=E.sl i _ e
   exact ⟨_,Jm ev,B.av E h λ as n2 vs H2 h2 s2 r2=>k _ _ _ _ h2 s2 ⟨⟨p,c,hS,rfl⟩,r2⟩⟩
 . rename_i e
   obtain ⟨p,c,hS,ev⟩:=E.sl i _ e
   exact ⟨_,Jm ev,B.av E h λ as n2 vs H2 h2 s2 r2=>k _ _ _ _ h2 s2 ⟨⟨p,c,hS,rfl⟩,r2⟩⟩
 . exact h.elim⟩
instance dv_nil:DV b Jbr J0z:=⟨λ E h k=>k _ _ _ _ h (.refl E.inv) .nil⟩
instance dv_cons {t:TA}{gt:GN} [A:EV b te g] [B:DV b t gt]:DV b (Yq te t) (Jy8 g gt):=⟨λ {S ex env σ H n Q P} E h k=>
 A.ev E h λ x n1 v1 H1 h1 s1 r1=>B.dv (E.step s1) h1 λ as n2 vs H2 h2 s2 r2=>k _ _ _ _ h2 (s1.trans s2) (.cons ((E.step s1).repm b s2 r1) r2)⟩
abbrev J00 (t:GN):GE:=λ env n Q=>t env n λ ds n1=>ds.length<=sizeLine/\Q (.tuple ds) n1
abbrev J01 (t:GN):GN:=λ env n Q=>t env n λ ds n1=>ds.length<=sizeLine/\Q ds n1
instance ev_tup {t:TA}{gt:GN} [A:DV b t gt]:EV b (Jvf t) (J00 gt):=⟨λ {S ex env σ H n Q P} E h k=>
 A.dv E h λ ds n1 vs H1 h1 s1 r1=>⟨by rw [<- r1.length];exact h1.1,λ p hp=>k _ _ _ _ h1.2 (s1.then (Kp.new hp _)) (.tuple Jh ((E.step s1).alm b |>.nm hp) (by rw [<- r1.length];exact h1.1) (r1.keep (Kp.new hp _)))⟩⟩
instance nv_lst {t:TA}{gt:GN} [A:DV true t gt]:NV (Jyu t) (J01 gt):=⟨λ {S ex env σ H n Q P} E h k=>
 A.dv E h λ ds n1 vs H1 h1 s1 r1=>⟨by rw [<- r1.length];exact h1.1,λ p hp=>by
  obtain ⟨c1,c2,c3⟩:=B2 E s1 hp r1
  exact k _ _ _ _ _ h1.2 c1 c2 Jh (by rw [<- r1.length];exact h1.1) c3⟩⟩
abbrev gCB (f:G1) (t:GN):GE:=λ env n Q=>t env n λ ds n1=>f ds λ d=>Q d n1
abbrev J2c (f:List J9h->(List J9h->Prop)->Prop) (t:GN):GN:=λ env n Q=>t env n λ ds n1=>f ds λ d=>Q d n1
instance ev_cs {r:List V->Hp->VK->Prop}{f:G1}{t:TA}{gt:GN} [C:CS r f] [A:DV false t gt]:EV b (tCB r t) (gCB f gt):=⟨λ {S ex env σ H n Q P} E h k=>
 A.dv E h λ ds n1 vs H1 h1 s1 r1=>C.cs (Reps.nil' r1) h1 λ d v p r=>k _ _ _ _ p s1 (r _)⟩
instance (priority:=low) ev_co {r:List V->Hp->VK->Prop}{f:G1}{t:TA}{gt:GN} [C:CO r f] [A:DV b t gt]:EV b (tCB r t) (gCB f gt):=⟨λ {S ex env σ H n Q P} E h k=>
 A.dv E h λ ds n1 vs H1 h1 s1 r1=>C.co ((E.step s1).alm b) r1 h1 λ d v H' p kp r=>k _ _ _ _ p (s1.then kp) r⟩
instance nv_cn {r:List V->Hp->VK->Prop}{f:List J9h->(List J9h->Prop)->Prop}{t:TA}{gt:GN} [C:CN r f] [A:DV true t gt]:NV (tCB r t) (J2c f gt):=⟨λ {S ex env σ H n Q P} E h k=>
 A.dv E h λ ds n1 vs H1 h1 s1 r1=>C.cn r1 h1 λ es p ws pp hp hz r=>by
  obtain ⟨c1,c2,c3⟩:=B2 E s1 hp r
  exact k _ _ _ _ _ pp c1 c2 Jh hz c3⟩
def Jj (sp:GSp):Sp:=λ vs H Q _=>∃ (S:Src) (ex:List Addr) (as:List Vl) (n:Nat) (P:J9h->Nat->Prop),B1 S ex H as vs/\(∀ a∈S.ch,a∈ex)/\Alc ex H/\S.inv n H/\sp as n P/\∀ d n' v H',P d n'->Yv S n' H H'->Rep ex H' d v->Q v H'
def Zh (sp:GSn):Sp:=λ vs H Q _=>∃ (S:Src) (ex:List Addr) (as:List Vl) (n:Nat) (P:List J9h->Nat->Prop),B1 S ex H as vs/\(∀ a∈S.ch,a∈ex)/\Alc ex H/\S.inv n H/\sp as n P/\∀ ds n' a ws H',P ds n'->Yv S n' H H'->H a=none->H' a=some (.lst ws)->ws.length<=sizeLine->Reps (a::ex) H' ds ws->Q (.ref a) H'
noncomputable def Vv:J9h->Bool
 | .none | .bool _ | .int _ | .str _=>true
 | _=>false
theorem Jgv {d:J9h}{v:V}(h:Vv d=true) (r:Rep ex H d v):∀ ex',Rep ex' H d v:=λ ex'=>by
 cases r with
 | none=>exact .none
 | bool b=>exact .bool b
 | int i=>exact .int i
 | str x=>exact .str x
 | tuple=>cases h
 | list=>cases h
 | obj=>cases h
class Scal (sp:GSp):Prop where
 sc:∀ {as:List Vl} {n:Nat} {P:J9h->Nat->Prop},sp as n P->sp as n λ d n'=>Vv d=true/\P d n'
abbrev Jxq (sp:GSp) (ga:GA):GE:=λ env n Q=>ga env n λ as n1=>sp as n1 Q
abbrev Jy9 (sp:GSn) (ga:GA):GN:=λ env n Q=>ga env n λ as n1=>sp as n1 Q
instance ev_callS {sp:GSp}{E':XK}{t:TA}{gt:GA} [Z:Scal sp] [A:AV false t gt]:EV b (Jiz (Jj sp) [] E' t) (Jxq sp gt):=⟨λ {S ex env σ H n Q P} E h k=>
 A.av E h λ as n1 vs H1 h1 s1 r1=>by
  rw [Us]
  exact ⟨S,S.ch,as,n1,_,r1,λ _ h=>h,λ a ha=>(E.step s1).al a (E.ch a ha),s1.2,Z.sc h1,λ d n' v H' p s2 r=>k _ _ _ _ p.2 (s1.trans s2) (Jgv p.1 r _)⟩⟩
instance (priority:=low) ev_call {sp:GSp}{E':XK}{t:TA}{gt:GA} [A:AV b t gt]:EV b (Jiz (Jj sp) [] E' t) (Jxq sp gt):=⟨λ {S ex env σ H n Q P} E h k=>
 A.av E h λ as n1 vs H1 h1 s1 r1=>by
  rw [Us]
  exact ⟨S,exm b S ex,as,n1,_,r1,E.sup b,(E.step s1).alm b,s1.2,h1,λ d n' v H' p s2 r=>k _ _ _ _ p (s1.trans s2) r⟩⟩
instance nv_call {sp:GSn}{E':XK}{t:TA}{gt:GA} [A:AV true t gt]:NV (Jiz (Zh sp) [] E' t) (Jy9 sp gt):=⟨λ {S ex env σ H n Q P} E h k=>
 A.av E h λ as n1 vs H1 h1 s1 r1=>by
  rw [Us]
  exact ⟨S,ex,as,n1,_,r1,E.ch,(E.step s1).al,s1.2,h1,λ ds n' a ws H' p s2 ha hl hz r=>k _ _ _ _ _ p (s1.trans s2) (s1.free ha) hl hz r⟩⟩
abbrev Jxr (g:GE):GT:=λ env n Q=>g env n λ d n1=>match d with
 | .bool c=>Q c n1
 | _=>False
theorem Jb1 {d:J9h}{n:Nat}{Q:Bool->Nat->Prop}{v:V}(h:match d with | .bool c=>Q c n | _=>False) (r:Rep ex H d v):∃ c,v = .bl c/\Q c n:=by
 cases r with
 | bool c=>exact ⟨c,rfl,h⟩
 | none=>exact h.elim
 | obj=>exact h.elim
 | int=>exact h.elim
 | str=>exact h.elim
 | tuple=>exact h.elim
 | list=>exact h.elim
instance tv_test [A:EV false te g]:TV (Jxc te) (Jxr g):=⟨λ {S ex env σ H n Q P} E h k=>A.ev E h λ d n1 v H1 h1 s1 r1=>by
 obtain ⟨c,e,q⟩:=Jb1 h1 r1
 exact ⟨c,e,k _ _ _ q s1⟩⟩
instance tv_b [A:EV false te g]:TV (tB te) (Jxr g):=⟨λ {S ex env σ H n Q P} E h k=>A.ev E h λ d n1 v H1 h1 s1 r1=>by
 obtain ⟨c,e,q⟩:=Jb1 h1 r1
 exact ⟨c,e,k _ _ _ q s1⟩⟩
abbrev J2d (a b:GT):GT:=λ env n Q=>a env n λ c n1=>if c=true then b env n1 Q else Q false n1
abbrev gOr (a b:GT):GT:=λ env n Q=>a env n λ c n1=>if c=true then Q true n1 else b env n1 Q
abbrev J2e (a:GT):GT:=λ env n Q=>a env n λ c n1=>Q (!c) n1
instance tv_and {t u:TT}{gt gu:GT} [A:TV t gt] [B:TV u gu]:TV (J0e t u) (J2d gt gu):=⟨λ {S ex env σ H n Q P} E h k=>A.tv E h λ c n1 H1 h1 s1=>by
 cases c with
 | true=>exact B.tv (E.step s1) h1 λ c n2 H2 h2 s2=>k _ _ _ h2 (s1.trans s2)
 | false=>exact k _ _ _ h1 s1⟩
instance tv_or {t u:TT}{gt gu:GT} [A:TV t gt] [B:TV u gu]:TV (tOr t u) (gOr gt gu):=⟨λ {S ex env σ H n Q P} E h k=>A.tv E h λ c n1 H1 h1 s1=>by
 cases c with
 | false=>exact B.tv (E.step s1) h1 λ c n2 H2 h2 s2=>k _ _ _ h2 (s1.trans s2)
 | true=>exact k _ _ _ h1 s1⟩
instance tv_not {t:TT}{gt:GT} [A:TV t gt]:TV (J0f t) (J2e gt):=⟨λ {S ex env σ H n Q P} E h k=>A.tv E h λ c n1 H1 h1 s1=>k _ _ _ h1 s1⟩
instance tv_noTest:TV Jf3 (λ _ n Q=>Q true n):=⟨λ {S ex env σ H n Q P} E h k=>k _ _ _ h (.refl E.inv)⟩
abbrev gIf (t:GT) (a b:GE):GE:=λ env n Q=>t env n λ c n1=>if c=true then a env n1 Q else b env n1 Q
instance ev_if {t:TT}{gt:GT} [T:TV t gt] [A:EV b ta ga] [B:EV b tb gb]:EV b (tIf t ta tb) (gIf gt ga gb):=⟨λ {S ex env σ H n Q P} E h k=>T.tv E h λ c n1 H1 h1 s1=>by
 cases c with
 | true=>exact A.ev (E.step s1) h1 λ d n2 v H2 h2 s2 r=>k _ _ _ _ h2 (s1.trans s2) r
 | false=>exact B.ev (E.step s1) h1 λ d n2 v H2 h2 s2 r=>k _ _ _ _ h2 (s1.trans s2) r⟩
abbrev J02 (a b:GE):GE:=λ env n Q=>a env n λ d n1=>match d with
 | .bool c=>if c=true then b env n1 Q else Q (.bool false) n1
 | _=>False
abbrev J2f (a b:GE):GE:=λ env n Q=>a env n λ d n1=>match d with
 | .bool c=>if c=true then Q (.bool true) n1 else b env n1 Q
 | _=>False
abbrev J03 (a:GE):GE:=λ env n Q=>a env n λ d n1=>match d with
 | .bool c=>Q (.bool (!c)) n1
 | _=>False
instance ev_andV [A:EV false ta ga] [B:EV b tb gb]:EV b (Jw6 ta tb) (J02 ga gb):=⟨λ {S ex env σ H n Q P} E h k=>A.ev E h λ d n1 v H1 h1 s1 r1=>by
 obtain ⟨c,e,q⟩:=Jb1 (Q:=λ c n1=>if c=true then gb env n1 P else P (.bool false) n1) h1 r1
 refine ⟨c,e,?_⟩
 cases c with
 | true=>exact B.ev (E.step s1) q λ d n2 v H2 h2 s2 r=>k _ _ _ _ h2 (s1.trans s2) r
 | false=>exact k _ _ _ _ q s1 (.bool _)⟩
instance ev_orV [A:EV false ta ga] [B:EV b tb gb]:EV b (J0g ta tb) (J2f ga gb):=⟨λ {S ex env σ H n Q P} E h k=>A.ev E h λ d n1 v H1 h1 s1 r1=>by
 obtain ⟨c,e,q⟩:=Jb1 (Q:=λ c n1=>if c=true then P (.bool true) n1 else gb env n1 P) h1 r1
 refine ⟨c,e,?_⟩
 cases c with
 | false=>exact B.ev (E.step s1) q λ d n2 v H2 h2 s2 r=>k _ _ _ _ h2 (s1.trans s2) r
 | true=>exact k _ _ _ _ q s1 (.bool _)⟩
instance ev_notV [A:EV false ta ga]:EV b (Jw7 ta) (J03 ga):=⟨λ {S ex env σ H n Q P} E h k=>A.ev E h λ d n1 v H1 h1 s1 r1=>by
 obtain ⟨c,e,q⟩:=Jb1 (Q:=λ c n1=>P (.bool (!c)) n1) h1 r1
 exact ⟨c,e,k _ _ _ _ q s1 (.bool _)⟩⟩
abbrev gUn (f:J9h->(J9h->Prop)->Prop) (a:GE):GE:=λ env n Q=>a env n λ d n1=>f d λ e=>Q e n1
abbrev fU (f:Int->V):J9h->(J9h->Prop)->Prop:=λ d Q=>match d with
 | .int i=>(match f i with | .int k=>Q (.int k) | _=>False)
 | _=>False
instance ev_unI {f:Int->V} [A:EV false ta ga]:EV b (tUn (rU f) ta) (gUn (fU f) ga):=⟨λ {S ex env σ H n Q P} E h k=>A.ev E h λ d n1 v H1 h1 s1 r1=>by
 cases r1 with
 | int i=>
  unfold fU at h1
  refine ⟨i,rfl,?_⟩
  dsimp only at h1
  split at h1
  . rename_i j e;rw [e];exact k _ _ _ _ h1 s1 (.int _)
  . exact h1.elim
 | none=>exact h1.elim
 | obj=>exact h1.elim
 | bool=>exact h1.elim
 | str=>exact h1.elim
 | tuple=>exact h1.elim
 | list=>exact h1.elim⟩
end
abbrev ofV:V->(J9h->Prop)->Prop
 | .int k,Q=>Q (.int k)
 | .bl c,Q=>Q (.bool c)
 | .str s,Q=>Q (.str s)
 | .non,Q=>Q .none
 | _,_=>False
theorem Jpf {v:V}{P:J9h->Prop}{H:Hp}(h:ofV v P):∃ d,P d/\∀ ex,Rep ex H d v:=by
 cases v with
 | int k=>exact ⟨_,h,λ _=>.int k⟩
 | bl k=>exact ⟨_,h,λ _=>.bool k⟩
 | str k=>exact ⟨_,h,λ _=>.str k⟩
 | non=>exact ⟨_,h,λ _=>.none⟩
 | byt _=>exact h.elim
 | flt _=>exact h.elim
 | ref _=>exact h.elim
 | ty _=>exact h.elim
abbrev fI0 (f:Int->Int->V):G2:=λ x y Q=>match x,y with
 | .int i,.int j=>ofV (f i j) Q
 | _,_=>False
abbrev fI (C:Int->Int->Prop) (f:Int->Int->V):G2:=λ x y Q=>match x,y with
 | .int i,.int j=>C i j/\ofV (f i j) Q
 | _,_=>False
theorem ints_inv {ex:List Addr}{H:Hp}{dx dy:J9h}{x y:V}{A:Int->Int->Prop}(h:match dx,dy with | .int i,.int j=>A i j | _,_=>False) (r1:Rep ex H dx x) (r2:Rep ex H dy y):∃ i j,x = .int i/\y = .int j/\A i j:=by
 split at h
 . cases r1;cases r2;exact ⟨_,_,rfl,rfl,h⟩
 . exact h.elim
instance os_I0 {f:Int->Int->V}:OS (rI0 f) (fI0 f):=⟨λ {H x y dx dy Q P} r1 r2 h k=>by
 obtain ⟨i,j,rfl,rfl,h⟩:=ints_inv (A:=λ i j=>ofV (f i j) P) h r1 r2
 obtain ⟨d,p,r⟩:=Jpf (H:=H) h
 exact ⟨i,j,rfl,rfl,k _ _ p r⟩⟩
instance os_I {C:Int->Int->Prop}{f:Int->Int->V}:OS (rI C f) (fI C f):=⟨λ {H x y dx dy Q P} r1 r2 h k=>by
 obtain ⟨i,j,rfl,rfl,hc,h⟩:=ints_inv (A:=λ i j=>C i j/\ofV (f i j) P) h r1 r2
 obtain ⟨d,p,r⟩:=Jpf (H:=H) h
 exact ⟨i,j,rfl,rfl,hc,k _ _ p r⟩⟩
noncomputable def eqS:J9h->J9h->Option Bool
 | .int i,.int j=>some (decide (i=j))
 | .str a,.str b=>some (decide (a=b))
 | .bool a,.bool b=>some (decide (a=b))
 | .none,.none=>some true
 | .none,.int _ | .none,.bool _ | .none,.str _ | .int _,.none | .bool _,.none | .str _,.none=>some false
 | .int _,.str _ | .str _,.int _ | .bool _,.str _ | .str _,.bool _=>some false
 | _,_=>none
def fEq (neg:Bool):G2:=λ x y Q=>match eqS x y with
 | some c=>Q (.bool (if neg then !c else c))
 | none=>False
theorem Jza {ex:List Addr}{H:Hp}{dx dy:J9h}{x y:V}{c:Bool}(h:eqS dx dy=some c) (r1:Rep ex H dx x) (r2:Rep ex H dy y):Jyp x y=true/\decide (x=y)=c:=by
 cases r1<;>cases r2<;>simp [eqS] at h<;>subst h<;>simp [Jyp]
instance os_eq:OS rEq (fEq false):=⟨λ {H x y dx dy Q P} r1 r2 h k=>by
 unfold fEq at h
 split at h
 . rename_i c e
   obtain ⟨h1,h2⟩:=Jza e r1 r2
   exact ⟨h1,by rw [h2];exact k _ _ h λ _=>.bool _⟩
 . exact h.elim⟩
def J2g (x y:J9h):Prop:=x.canLay0=true/\y.canLay0=true/\min x.depth y.depth<=50
def Jsv (neg:Bool):G2:=λ x y Q=>J2g x y/\Q (.bool (if neg then !Uv x y else Uv x y))
instance os_eqD:OS J0s (Jsv false):=⟨λ {H x y dx dy Q P} r1 r2 h k=>⟨[],dx,dy,r1,r2,h.1.1,h.1.2.1,h.1.2.2,k _ _ h.2 λ _=>.bool _⟩⟩
instance os_neD:OS J0t (Jsv true):=⟨λ {H x y dx dy Q P} r1 r2 h k=>⟨[],dx,dy,r1,r2,h.1.1,h.1.2.1,h.1.2.2,k _ _ h.2 λ _=>.bool _⟩⟩
noncomputable def Jc7:J9h->Bool
 | .none=>true
 | _=>false
abbrev J04 (neg:Bool):G2:=λ x y Q=>Jc7 y=true/\Q (.bool (if neg then !Jc7 x else Jc7 x))
theorem Jjg {ex:List Addr}{H:Hp}{d:J9h}{v:V}(r:Rep ex H d v):decide (v = .non)=Jc7 d:=by
 cases r<;>simp [Jc7]
theorem Jl5 {ex:List Addr}{H:Hp}{d:J9h}{v:V}(r:Rep ex H d v) (h:Jc7 d=true):v = .non:=by
 cases r<;>simp [Jc7] at h<;>rfl
instance os_isN:OS (λ x y H Q=>y = .non/\Q (.bl (decide (x = .non))) H) (J04 false):=⟨λ {H x y dx dy Q P} r1 r2 h k=>⟨Jl5 r2 h.1,by rw [Jjg r1];exact k _ _ h.2 λ _=>.bool _⟩⟩
instance os_notN:OS (λ x y H Q=>y = .non/\Q (.bl (!decide (x = .non))) H) (J04 true):=⟨λ {H x y dx dy Q P} r1 r2 h k=>⟨Jl5 r2 h.1,by rw [Jjg r1];exact k _ _ h.2 λ _=>.bool _⟩⟩
noncomputable def inD (x:J9h) (xs:List J9h):Bool:=xs.any λ y=>Uv y x
def fIn (neg:Bool):G2:=λ x y Q=>match y with
 | .list xs=>Vv x=true/\xs.all Vv=true/\Q (.bool (if neg then !inD x xs else inD x xs))
 | .tuple xs=>Vv x=true/\xs.all Vv=true/\Q (.bool (if neg then !inD x xs else inD x xs))
 | _=>False
theorem Jj7 {ex:List Addr}{H:Hp}{d:J9h}{v:V}(r:Rep ex H d v) (h:Vv d=true):Jcw v=true:=by
 cases r<;>first | rfl | cases h
theorem Jgw {ex:List Addr}{H:Hp}:∀ {ds:List J9h}{vs:List V},Reps ex H ds vs->ds.all Vv=true->vs.all Jcw=true
 | _,_,.nil,_=>rfl
 | _,_,.cons r t,h=>by
  simp only [J31,Xw] at h ⊢
  exact ⟨Jj7 r h.1,Jgw t h.2⟩
theorem Jzb {ex:List Addr}{H:Hp}{d e:J9h}{v w:V}(r:Rep ex H d v) (s:Rep ex H e w) (h:Vv d=true) (g:Vv e=true):eqV v w=Uv d e:=by
 cases r<;>cases s<;>first | rfl | (cases h;done) | (cases g;done) | simp [eqV,Uv]
theorem Jsw {ex:List Addr}{H:Hp}{d:J9h}{v:V}(r:Rep ex H d v) (h:Vv d=true):∀ {ds:List J9h}{vs:List V},Reps ex H ds vs->ds.all Vv=true->inV v vs=inD d ds
 | _,_,.nil,_=>rfl
 | _,_,.cons s t,g=>by
  simp only [J31,Xw] at g
  have:=Jsw r h t g.2
  unfold inV inD at this ⊢
  rw [J29,J29,this,Jzb s r g.1 h]
instance os_in {K:Qc}{neg:Bool}:OS (rIn K neg) (fIn neg):=⟨λ {H x y dx dy Q P} r1 r2 h k=>by
 cases r2 with
 | list e _ _ rs=>exact ⟨_,_,rfl,.inl (SqL.of e),Jj7 r1 h.1,Jgw rs h.2.1,by rw [Jsw r1 h.1 rs h.2.1];exact k _ _ h.2.2 λ _=>.bool _⟩
 | tuple e _ _ rs=>exact ⟨_,_,rfl,.inr (SqT.of e),Jj7 r1 h.1,Jgw rs h.2.1,by rw [Jsw r1 h.1 rs h.2.1];exact k _ _ h.2.2 λ _=>.bool _⟩
 | none=>exact h.elim
 | obj=>exact h.elim
 | bool=>exact h.elim
 | int=>exact h.elim
 | str=>exact h.elim⟩
theorem Jj8 {ex:List Addr}{H:Hp}{ds:List J9h}{vs:List V}{i:Int}{d:J9h}(r:Reps ex H ds vs) (h:atI ds i=some d):∃ v,atI vs i=some v/\Rep ex H d v:=by
 unfold atI at h ⊢
 rw [<- r.length]
 cases e:ixN ds.length i with
 | none=>rw [e] at h;cases h
 | some j=>rw [e] at h;exact r.get h
abbrev Jvr:G2:=λ x y Q=>match x,y with
 | .list xs,.int i=>∃ d,atI xs i=some d/\Q d
 | _,_=>False
abbrev J05:G2:=λ x y Q=>match x,y with
 | .tuple xs,.int i=>∃ d,atI xs i=some d/\Q d
 | _,_=>False
instance ov_ixL {K:Qc}:OV (Jlp K) Jvr:=⟨λ {ex H x y dx dy Q P} al r1 r2 h k=>by
 unfold Jvr at h
 split at h
 . obtain ⟨d,e,p⟩:=h
   cases r2
   cases r1 with
   | list e1 _ _ rs=>
    obtain ⟨v,ev,r⟩:=Jj8 rs e
    exact ⟨_,_,_,v,rfl,rfl,SqL.of e1,ev,k _ _ _ p .refl r⟩
 . exact h.elim⟩
instance ov_ixT {K:Qc}:OV (Jyx K) J05:=⟨λ {ex H x y dx dy Q P} al r1 r2 h k=>by
 unfold J05 at h
 split at h
 . obtain ⟨d,e,p⟩:=h
   cases r2
   cases r1 with
   | tuple e1 _ _ rs=>
    obtain ⟨v,ev,r⟩:=Jj8 rs e
    exact ⟨_,_,_,v,rfl,rfl,SqT.of e1,ev,k _ _ _ p .refl r⟩
 . exact h.elim⟩
abbrev J06 (i:Nat) (gb:GE):GE:=λ env n Q=>match env[i]? with
 | some (.own xs)=>gb env n λ y n1=>Jvr (.list xs) y λ d=>Q d n1
 | some (.d x)=>gb env n λ y n1=>Jvr x y λ d=>Q d n1
 | _=>False
instance (priority:=high) ev_ixO {K:Qc}{i:Nat}{tb:TE}{gb:GE} [B:EV true tb gb]:EV true (tOp (Jlp K) (Zv i) tb) (J06 i gb):=⟨λ {S ex env σ H n Q P} E h k=>by
 unfold J06 at h
 split at h
 . rename_i xs e
   obtain ⟨a,vs,ev,h1,h2,h3,h4,h5⟩:=E.sl i _ e
   refine ⟨_,Jm ev,B.ev E h λ y n1 v1 H1 hh s1 r1=>?_⟩
   cases r1 with
   | int j=>
    obtain ⟨d,ed,p⟩:=hh
    obtain ⟨v,ev2,r⟩:=Jj8 (E.reps s1 h3) ed
    exact ⟨_,_,_,v,rfl,rfl,SqL.of (s1.1 _ _ h1 h5),ev2,k _ _ _ _ p s1 r⟩
   | none=>exact hh.elim
   | obj=>exact hh.elim
   | bool=>exact hh.elim
   | str=>exact hh.elim
   | tuple=>exact hh.elim
   | list=>exact hh.elim
 . rename_i x e
   obtain ⟨v,ev,r⟩:=E.sl i _ e
   refine ⟨v,Jm ev,B.ev E h λ y n1 v1 H1 hh s1 r1=>?_⟩
   exact (ov_ixL (K:=K)).ov (E.step s1).al (E.rep s1 r) r1 hh λ d v H' p kp r=>k _ _ _ _ p (s1.then kp) r
 . exact h.elim⟩
instance on_rep:ON J0q (λ x y Q=>match x,y with | .list xs,.int k=>(-(2^63)<=k/\k<2^63/\xs.length*k.toNat<=sizeLine)/\Q (Qw k.toNat xs).flatten | _,_=>False):=⟨λ {ex H x y dx dy Q P} r1 r2 h k=>by
 split at h
 . cases r1 with
   | list e1 _ _ rs=>
    cases r2
    have l1:=rs.length
    refine ⟨_,_,_,rfl,rfl,e1,h.1.1,h.1.2.1,by rw [<- l1];exact h.1.2.2,λ p hp=>k _ p _ h.2 hp ?_ (rs.rep _)⟩
    rw [Jpa,<- l1,J59];exact h.1.2.2
 . exact h.elim⟩
abbrev J07:G1:=λ ds Q=>match ds with
 | [.list xs]=>Q (.int xs.length)
 | [.tuple xs]=>Q (.int xs.length)
 | _=>False
instance cs_len {K:Qc}:CS (λ xs H Q=>∃ p ys,xs=[.ref p]/\(SqL K H p ys\/SqT K H p ys)/\Q (.int ys.length) H) J07:=⟨λ {H xs ds Q P} r h k=>by
 unfold J07 at h
 split at h
 . cases r with
   | cons r1 t=>
    cases t
    cases r1 with
    | list e _ _ rs=>exact ⟨_,_,rfl,.inl (SqL.of e),by rw [<- rs.length];exact k _ _ h λ _=>.int _⟩
 . cases r with
   | cons r1 t=>
    cases t
    cases r1 with
    | tuple e _ _ rs=>exact ⟨_,_,rfl,.inr (SqT.of e),by rw [<- rs.length];exact k _ _ h λ _=>.int _⟩
 . exact h.elim⟩
abbrev Jj9 (ds:List J9h) (Q:List J9h->Prop):Prop:=match ds with
 | [.list xs]=>Q xs
 | [.tuple xs]=>Q xs
 | _=>False
instance cn_list {K:Qc}:CN (λ xs H Q=>∃ p ys,xs=[.ref p]/\(SqL K H p ys\/SqT K H p ys)/\∀ l,H l=none->Q (.ref l) (upd H l (.lst ys))) Jj9:=⟨λ {ex H xs ds Q P} r h k=>by
 unfold Jj9 at h
 split at h
 . cases r with
   | cons r1 t=>
    cases t
    cases r1 with
    | list e _ z rs=>exact ⟨_,_,rfl,.inl (SqL.of e),λ l hl=>k _ l _ h hl z rs⟩
 . cases r with
   | cons r1 t=>
    cases t
    cases r1 with
    | tuple e _ z rs=>exact ⟨_,_,rfl,.inr (SqT.of e),λ l hl=>k _ l _ h hl z rs⟩
 . exact h.elim⟩
abbrev Jl6:G1:=λ ds Q=>match ds with
 | [.list xs]=>Q (.tuple xs)
 | [.tuple xs]=>Q (.tuple xs)
 | _=>False
instance co_tuple {K:Qc}:CO (λ xs H Q=>∃ p ys,xs=[.ref p]/\((SqL K H p ys/\∀ l,H l=none->Q (.ref l) (upd H l (.tup ys)))\/(SqT K H p ys/\Q (.ref p) H))) Jl6:=⟨λ {ex H xs ds Q P} al r h k=>by
 unfold Jl6 at h
 split at h
 . cases r with
   | cons r1 t=>
    cases t
    cases r1 with
    | list e _ z rs=>exact ⟨_,_,rfl,.inl ⟨SqL.of e,λ l hl=>k _ _ _ h (Kp.new hl _) (.tuple Jh (al.nm hl) z (rs.keep (Kp.new hl _)))⟩⟩
 . cases r with
   | cons r1 t=>
    cases t
    cases r1 with
    | tuple e n z rs=>exact ⟨_,_,rfl,.inr ⟨SqT.of e,k _ _ _ h .refl (.tuple e n z rs)⟩⟩
 . exact h.elim⟩
def J08 (c:Bool):G1:=λ ds Q=>∃ ns:List Int,ds=[.list (ns.map .int)]/\c=true/\Q (.int ns.sum)
instance cs_sum {K:Qc}{c:Bool}:CS (λ xs H Q=>c=true/\∃ (p:Addr) (ns:List Int),xs=[.ref p]/\SqL K H p (ns.map V.int)/\Q (.int ns.sum) H) (J08 c):=⟨λ {H xs ds Q P} r h k=>by
 obtain ⟨ns,rfl,hc,q⟩:=h
 cases r with
 | cons r1 t=>
  cases t
  cases r1 with
  | list e _ _ rs=>
   cases rs.ints_inv
   exact ⟨hc,_,ns,rfl,SqL.of e,k _ _ q λ _=>.int _⟩⟩
instance cs_sumK {K:Qc}:CS (λ xs H Q=>∃ (p:Addr) (ns:List Int),xs=[.ref p]/\SqL K H p (ns.map V.int)/\Q (.int ns.sum) H) (J08 true):=⟨λ {H xs ds Q P} r h k=>((cs_sum (K:=K) (c:=true)).cs r h k).2⟩
theorem Reps.bools_inv {ex:List Addr}{H:Hp}:∀ {ns:List Bool}{vs:List V},Reps ex H (ns.map J4a) vs->vs=ns.map V.bl
 | [],_,.nil=>rfl
 | n::r,_,.cons (.bool _) t=>by rw [Reps.bools_inv t];rfl
def J2h (c:Bool):G1:=λ ds Q=>∃ bs:List Bool,ds=[.list (bs.map .bool)]/\c=true/\Q (.bool (bs.all id))
instance cs_all {K:Qc}{c:Bool}:CS (λ xs H Q=>c=true/\∃ (p:Addr) (bs:List Bool),xs=[.ref p]/\SqL K H p (bs.map V.bl)/\Q (.bl (bs.all id)) H) (J2h c):=⟨λ {H xs ds Q P} r h k=>by
 obtain ⟨ns,rfl,hc,q⟩:=h
 cases r with
 | cons r1 t=>
  cases t
  cases r1 with
  | list e _ _ rs=>
   cases Reps.bools_inv rs
   exact ⟨hc,_,ns,rfl,SqL.of e,k _ _ q λ _=>.bool _⟩⟩
def Jxs (tup:Bool):G1:=λ ds Q=>∃ ns:List Int,ds=[if tup then .tuple (ns.map .int) else .list (ns.map .int)]/\Q (.bool (ns.any λ n=>decide (n≠0)))
instance cs_anyL {K:Qc}:CS (λ xs H Q=>∃ (p:Addr) (ns:List Int),xs=[.ref p]/\SqL K H p (ns.map V.int)/\Q (.bl (ns.any λ n=>decide (n≠0))) H) (Jxs false):=⟨λ {H xs ds Q P} r h k=>by
 obtain ⟨ns,rfl,q⟩:=h
 cases r with
 | cons r1 t=>
  cases t
  cases r1 with
  | list e _ _ rs=>
   cases rs.ints_inv
   exact ⟨_,ns,rfl,SqL.of e,k _ _ q λ _=>.bool _⟩⟩
instance cs_anyT {K:Qc}:CS (λ xs H Q=>∃ (p:Addr) (ns:List Int),xs=[.ref p]/\SqT K H p (ns.map V.int)/\Q (.bl (ns.any λ n=>decide (n≠0))) H) (Jxs true):=⟨λ {H xs ds Q P} r h k=>by
 obtain ⟨ns,rfl,q⟩:=h
 cases r with
 | cons r1 t=>
  cases t
  cases r1 with
  | tuple e _ _ rs=>
   cases rs.ints_inv
   exact ⟨_,ns,rfl,SqT.of e,k _ _ q λ _=>.bool _⟩⟩
def J09 (tup:Bool):G1:=λ ds Q=>∃ ns:List Int,ds=[if tup then .tuple (ns.map .int) else .list (ns.map .int)]/\ns≠[]/\∀ m∈ns,(∀ n∈ns,m<=n)->Q (.int m)
instance cs_minL {K:Qc}:CS (λ xs H Q=>∃ (p:Addr) (ns:List Int),xs=[.ref p]/\SqL K H p (ns.map V.int)/\ns≠[]/\∀ m∈ns,(∀ n∈ns,m<=n)->Q (.int m) H) (J09 false):=⟨λ {H xs ds Q P} r h k=>by
 obtain ⟨ns,rfl,hne,q⟩:=h
 cases r with
 | cons r1 t=>
  cases t
  cases r1 with
  | list e _ _ rs=>
   cases rs.ints_inv
   exact ⟨_,ns,rfl,SqL.of e,hne,λ m h1 h2=>k _ _ (q m h1 h2) λ _=>.int _⟩⟩
instance cs_minT {K:Qc}:CS (λ xs H Q=>∃ (p:Addr) (ns:List Int),xs=[.ref p]/\SqT K H p (ns.map V.int)/\ns≠[]/\∀ m∈ns,(∀ n∈ns,m<=n)->Q (.int m) H) (J09 true):=⟨λ {H xs ds Q P} r h k=>by
 obtain ⟨ns,rfl,hne,q⟩:=h
 cases r with
 | cons r1 t=>
  cases t
  cases r1 with
  | tuple e _ _ rs=>
   cases rs.ints_inv
   exact ⟨_,ns,rfl,SqT.of e,hne,λ m h1 h2=>k _ _ (q m h1 h2) λ _=>.int _⟩⟩
abbrev J1a (f:Int->Int->Int):G1:=λ ds Q=>match ds with
 | [.int i,.int j]=>Q (.int (f i j))
 | _=>False
theorem Jpg {ex:List Addr}{H:Hp}{ds:List J9h}{xs:List V}{A:Int->Int->Prop}(h:match ds with | [.int i,.int j]=>A i j | _=>False) (r:Reps ex H ds xs):∃ i j,xs=[.int i,.int j]/\A i j:=by
 split at h
 . cases r with
   | cons r1 t=>cases t with
    | cons r2 t=>cases t;cases r1;cases r2;exact ⟨_,_,rfl,h⟩
 . exact h.elim
instance cs_max2:CS (λ xs H Q=>∃ i j,xs=[.int i,.int j]/\Q (.int (if j>i then j else i)) H) (J1a λ i j=>if j>i then j else i):=⟨λ {H xs ds Q P} r h k=>by
 obtain ⟨i,j,rfl,q⟩:=Jpg (A:=λ i j=>P (.int (if j>i then j else i))) h r
 exact ⟨i,j,rfl,k _ _ q λ _=>.int _⟩⟩
instance cs_min2:CS (λ xs H Q=>∃ i j,xs=[.int i,.int j]/\Q (.int (if j<i then j else i)) H) (J1a λ i j=>if j<i then j else i):=⟨λ {H xs ds Q P} r h k=>by
 obtain ⟨i,j,rfl,q⟩:=Jpg (A:=λ i j=>P (.int (if j<i then j else i))) h r
 exact ⟨i,j,rfl,k _ _ q λ _=>.int _⟩⟩
abbrev Jph (T:String) (g:GE):GE:=λ env n Q=>g env n λ d n1=>noD d=true/\Q (.bool (Jgs d T)) n1
section
variable {b:Bool}{te:TE}{g:GE}
theorem Jka (T:String) (hT:T = "int"\/T = "bool"\/T = "str"\/T = "tuple"\/T = "list") [A:EV false te g]:EV b (tCB (λ xs H Q=>∃ ex d x T,xs=[x,.ty T]/\Rep ex H d x/\noD d=true/\(T = "int"\/T = "bool"\/T = "str"\/T = "tuple"\/T = "list")/\Q (.bl (Jgs d T)) H) (Yq te (Yq (tC (.ty T)) Jbr))) (Jph T g):=⟨λ {S ex env σ H n Q P} E h k=>
 A.ev E h λ d n1 v H1 h1 s1 r1=>⟨_,d,v,T,rfl,r1,h1.1,hT,k _ _ _ _ h1.2 s1 (.bool _)⟩⟩
instance (priority:=high) ev_instI [A:EV false te g]:EV b (tCB (λ xs H Q=>∃ ex d x T,xs=[x,.ty T]/\Rep ex H d x/\noD d=true/\(T = "int"\/T = "bool"\/T = "str"\/T = "tuple"\/T = "list")/\Q (.bl (Jgs d T)) H) (Yq te (Yq (tC (.ty "int")) Jbr))) (Jph "int" g):=Jka _ (by simp)
instance (priority:=high) ev_instB [A:EV false te g]:EV b (tCB (λ xs H Q=>∃ ex d x T,xs=[x,.ty T]/\Rep ex H d x/\noD d=true/\(T = "int"\/T = "bool"\/T = "str"\/T = "tuple"\/T = "list")/\Q (.bl (Jgs d T)) H) (Yq te (Yq (tC (.ty "bool")) Jbr))) (Jph "bool" g):=Jka _ (by simp)
instance (priority:=high) ev_instT [A:EV false te g]:EV b (tCB (λ xs H Q=>∃ ex d x T,xs=[x,.ty T]/\Rep ex H d x/\noD d=true/\(T = "int"\/T = "bool"\/T = "str"\/T = "tuple"\/T = "list")/\Q (.bl (Jgs d T)) H) (Yq te (Yq (tC (.ty "tuple")) Jbr))) (Jph "tuple" g):=Jka _ (by simp)
abbrev gLR (t:GN):GN:=λ env n Q=>t env n λ ds n1=>∃ j:Int,ds=[.int j]/\0<=j/\j<=1000000/\Q ((Ql j.toNat).map λ (i:Nat)=>.int (i:Int)) n1
theorem Jl7 {ex:List Addr}{H:Hp}(f:Nat->Int):∀ l:List Nat,Reps ex H (l.map λ i=>.int (f i)) (l.map λ i=>.int (f i))
 | []=>.nil
 | _::r=>.cons (.int _) (Jl7 f r)
instance nv_lr {t:TA}{gt:GN} [A:DV true t gt]:NV (tLR t) (gLR gt):=⟨λ {S ex env σ H n Q P} E h k=>
 A.dv E h λ ds n1 vs H1 h1 s1 r1=>by
  obtain ⟨j,rfl,h2,h3,q⟩:=h1
  cases r1 with
  | cons r1 t=>
   cases t
   cases r1
   have hs:sizeLine=16777216:=J9n
   refine ⟨j,rfl,h2,h3,λ l hl=>?_⟩
   obtain ⟨c1,c2,c3⟩:=B2 E s1 hl (Jl7 (λ i:Nat=>(i:Int)) (Ql j.toNat))
   exact k _ _ _ _ _ q c1 c2 Jh (by show ((Ql j.toNat).map _).length<=_;rw [Qb,Qx];omega) c3⟩
class OPV (t:TO) (g:outParam (List Vl->Nat->(Option Int->Nat->Prop)->Prop)):Prop where
 op:∀ {S:Src} {ex:List Addr} {env:List Vl} {σ:L2.St} {H:Hp} {n:Nat} {Q:Option Int->Hp->Prop} {P:Option Int->Nat->Prop},Ev S ex env σ H n->g env n P->(∀ o n' H',P o n'->Yv S n' H H'->Q o H')->t σ H Q
instance op_no:OPV Jo7 (λ _ n Q=>Q none n):=⟨λ E h k=>k _ _ _ h (.refl E.inv)⟩
abbrev J1b (g:GE):List Vl->Nat->(Option Int->Nat->Prop)->Prop:=λ env n Q=>g env n λ d n1=>match d with
 | .int i=>Q (some i) n1
 | _=>False
instance op_part [A:EV false te g]:OPV (Jxf te) (J1b g):=⟨λ {S ex env σ H n Q P} E h k=>A.ev E h λ d n1 v H1 h1 s1 r1=>by
 cases r1 with
 | int i=>exact ⟨i,rfl,k _ _ _ h1 s1⟩
 | none=>exact h1.elim
 | obj=>exact h1.elim
 | bool=>exact h1.elim
 | str=>exact h1.elim
 | tuple=>exact h1.elim
 | list=>exact h1.elim⟩
theorem Jsx {ex:List Addr}{H:Hp}{ds:List J9h}{vs:List V}(r:Reps ex H ds vs) (lo hi:Option Int):Reps ex H (Jik ds lo hi) (Jlo vs lo hi):=by
 unfold Jik Jlo
 rw [r.length]
 exact Reps.take _ (Reps.drop _ r)
abbrev Jzc (f f':G2) (ga gb gc:GE):GE:=λ env n Q=>ga env n λ x n1=>gb env n1 λ y n2=>f x y λ d=>match d with
 | .bool true=>gc env n2 λ z n3=>f' y z λ e=>Q e n3
 | .bool false=>Q (.bool false) n2
 | _=>False
instance ev_chain {r r':R2}{f f':G2}{ta tb tc:TE}{ga gb gc:GE} [O:OS r f] [O':OS r' f'] [A:EV false ta ga] [B:EV false tb gb] [C:EV false tc gc]:EV b (Jr6 r r' ta tb tc) (Jzc f f' ga gb gc):=⟨λ {S ex env σ H n Q P} E h k=>by
 refine A.ev E h λ x n1 v1 H1 h1 s1 r1=>B.ev (E.step s1) h1 λ y n2 v2 H2 h2 s2 r2=>?_
 refine O.os (Rep.nil ((E.step s1).repm false s2 r1)) (Rep.nil r2) h2 λ d v p r=>?_
 cases r [] with
 | bool c=>
  refine ⟨c,rfl,?_⟩
  cases c with
  | true=>exact C.ev (E.step (s1.trans s2)) p λ z n3 v3 H3 h3 s3 r3=>O'.os (Rep.nil ((E.step (s1.trans s2)).repm false s3 r2)) (Rep.nil r3) h3 λ d v p r=>k _ _ _ _ p ((s1.trans s2).trans s3) (r _)
  | false=>exact k _ _ _ _ p (s1.trans s2) (.bool _)
 | none=>exact p.elim
 | obj=>exact p.elim
 | int=>exact p.elim
 | str=>exact p.elim
 | tuple=>exact p.elim
 | list=>exact p.elim⟩
end
def ItAt (ex:List Addr) (J:It) (items:List J9h) (H:Hp):Prop:=J.stop items.length H/\∀ (i:Nat) (d:J9h),items[i]? = some d->J.go i H/\∀ x H',J.yld i H x H'->Kp [] H H'/\Rep ex H' d x
class IV (wi:TI) (g:outParam GN):Prop where
 iv:∀ {S:Src} {ex:List Addr} {env:List Vl} {σ:L2.St} {H:Hp} {n:Nat} {R:It->Hp->Prop} {P:List J9h->Nat->Prop},Ev S ex env σ H n->g env n P ->
  (∀ items n' J (hd:List (J9h×V)) H',P items n'->Yv S n' H H'->(∀ h∈hd,Rep ex H' h.1 h.2)->(∀ ex' H2,Alc ex' H2->(∀ h∈hd,Rep ex' H2 h.1 h.2)->ItAt ex' J items H2)->R J H')->wi σ H R
class IC (wi:TI) (g:outParam GN):Prop where
 ic:∀ {S:Src} {ex:List Addr} {env:List Vl} {σ:L2.St} {H:Hp} {n:Nat} {R:It->Hp->Prop} {P:List J9h->Nat->Prop},Ev S ex env σ H n->g env n P ->
  (∀ items n' J H',P items n'->Yv S n' H H'->(∀ l H2,H' l=none->Kp (l::S.ch) H' H2->Alc (l::ex) H2->ItAt (l::ex) J items H2)->R J H')->wi σ H R
section
variable {K:Qc}{S:Src}{n m:Nat}{H H1 H2 H':Hp}{ex:List Addr}{env:List Vl}{σ:L2.St}{b:Bool}{te ta tb tc:TE}{g ga gb gc:GE}{wi:TI}{gi:GN}
theorem Jcl {l:Addr}(hc:∀ a∈S.ch,a∈ex) (k:Kp (l::S.ch) H H'):Kp (l::ex) H H':=k.mono λ b hb=>(Qf.mp hb).elim (λ e=>by rw [e];exact Qi) λ h=>Qj _ (hc b h)
instance (priority:=low) ic_iv [I:IV wi gi]:IC wi gi:=⟨λ {S ex env σ H n R P} E h k=>I.iv E h λ items n' J hd H' p s hr hit=>k _ _ _ _ p s λ l H2 hl kp al=>
 hit _ _ al λ x hx=>(Rep.add hl (hr x hx)).keep (Jcl E.ch kp)⟩
theorem Jkb {a:Addr}{vs:List V}{ds:List J9h}(ha:H a=some (.lst vs)) (r:Reps ex H ds vs):ItAt ex (Itl K a) ds H:=by
 refine ⟨⟨vs,SqL.of ha,by rw [r.length];exact Qm _⟩,λ i d e=>?_⟩
 obtain ⟨v,ev,rv⟩:=r.get e
 refine ⟨⟨vs,v,SqL.of ha,ev⟩,λ x H' y=>?_⟩
 obtain ⟨rfl,hx⟩:=y
 have:=hx vs (SqL.of ha)
 rw [ev] at this
 cases this
 exact ⟨.refl,rv⟩
theorem Jzd {a:Addr}{vs:List V}{ds:List J9h}(ha:H a=some (.tup vs)) (r:Reps ex H ds vs):ItAt ex (Itt K a) ds H:=by
 refine ⟨⟨vs,SqT.of ha,by rw [r.length];exact Qm _⟩,λ i d e=>?_⟩
 obtain ⟨v,ev,rv⟩:=r.get e
 refine ⟨⟨vs,v,SqT.of ha,ev⟩,λ x H' y=>?_⟩
 obtain ⟨rfl,hx⟩:=y
 have:=hx vs (SqT.of ha)
 rw [ev] at this
 cases this
 exact ⟨.refl,rv⟩
noncomputable def Jfx (lo:Int) (k:Nat):List J9h:=(Ql k).map λ (i:Nat)=>.int (lo+(i:Int))
theorem J4 (lo:Int) (k:Nat):(Jfx lo k).length=k:=by unfold Jfx;rw [Qb,Qx]
theorem Jze {lo:Int}{k:Nat}:ItAt ex (Itr lo k) (Jfx lo k) H:=by
 refine ⟨by rw [J4];exact Qm _,λ i d e=>?_⟩
 have hi:i<k:=by
  have:=(Qp.mp e).1
  rw [J4] at this
  exact this
 unfold Jfx at e
 rw [Qh,Xk hi] at e
 cases e
 refine ⟨hi,λ x H' y=>?_⟩
 obtain ⟨rfl,rfl⟩:=y
 exact ⟨.refl,.int _⟩
noncomputable def Jn5:J9h->Option (List J9h)
 | .list xs=>some xs
 | .tuple xs=>some xs
 | _=>none
theorem Jdv {d:J9h}{v:V}{ds:List J9h}(r:Rep ex H d v) (h:Jn5 d=some ds):∃ (c:Bool) (a:Addr) (vs:List V),v = .ref a/\(∀ K,SqK c K H a vs)/\Reps ex H ds vs/\((c=true/\H a=some (.tup vs))\/(c=false/\H a=some (.lst vs)))/\a∉ex:=by
 cases r with
 | tuple e n z rs=>cases h;exact ⟨true,_,_,rfl,λ K=>SqT.of e,rs,.inl ⟨rfl,e⟩,n⟩
 | list e n z rs=>cases h;exact ⟨false,_,_,rfl,λ K=>SqL.of e,rs,.inr ⟨rfl,e⟩,n⟩
 | none=>cases h
 | obj=>cases h
 | bool=>cases h
 | int=>cases h
 | str=>cases h
noncomputable def Jb2 (ds:List J9h):List J9h:=ds.mapIdx λ i d=>.tuple [.int (i:Int),d]
theorem Jaw:(2:Nat)<=sizeLine:=by rw [J9n];decide
theorem B3:(3:Nat)<=sizeLine:=by rw [J9n];decide
theorem Jvs {c:Bool}{a:Addr}{vs:List V}{ds:List J9h}(al:Alc ex H) (ha:SqK c K H a vs) (r:Reps ex H ds vs):ItAt ex (Ite c K a) (Jb2 ds) H:=by
 unfold Jb2
 refine ⟨⟨vs,ha,by rw [J79,r.length]⟩,λ i d e=>?_⟩
 rw [J4x] at e
 cases hd:ds[i]? with
 | none=>rw [hd] at e;cases e
 | some d0=>
  rw [hd] at e
  cases e
  obtain ⟨v,ev,rv⟩:=r.get hd
  refine ⟨⟨vs,v,ha,ev⟩,λ x H' y=>?_⟩
  obtain ⟨p,y,hp,rfl,rfl,hy⟩:=y
  have:=hy vs ha
  rw [ev] at this
  cases this
  exact ⟨Kp.new hp _,.tuple Jh (al.nm hp) Jaw (.cons (.int _) (.cons (rv.keep (Kp.new hp _)) .nil))⟩
noncomputable def Vh (ds es:List J9h):List J9h:=J35 (λ x y=>.tuple [x,y]) ds es
theorem Jn6 {c c':Bool}{a a':Addr}{vs vs':List V}{ds es:List J9h}(al:Alc ex H) (ha:SqK c K H a vs) (r:Reps ex H ds vs) (ha':SqK c' K H a' vs') (r':Reps ex H es vs'):ItAt ex (Itz c c' K a a') (Vh ds es) H:=by
 unfold Vh
 refine ⟨⟨vs,vs',ha,ha',by rw [J4y,r.length,r'.length]⟩,λ i d e=>?_⟩
 rw [Uw] at e
 cases hd:ds[i]? with
 | none=>rw [hd] at e;cases e
 | some d0=>
  cases he:es[i]? with
  | none=>rw [hd,he] at e;cases e
  | some e0=>
   rw [hd,he] at e
   cases e
   obtain ⟨v,ev,rv⟩:=r.get hd
   obtain ⟨v',ev',rv'⟩:=r'.get he
   refine ⟨⟨vs,vs',v,v',ha,ha',ev,ev'⟩,λ x H' y=>?_⟩
   obtain ⟨p,y,y',hp,rfl,rfl,hy,hy'⟩:=y
   have:=hy vs ha
   rw [ev] at this
   cases this
   have:=hy' vs' ha'
   rw [ev'] at this
   cases this
   exact ⟨Kp.new hp _,.tuple Jh (al.nm hp) Jaw (.cons (rv.keep (Kp.new hp _)) (.cons (rv'.keep (Kp.new hp _)) .nil))⟩
abbrev Jxt (f:J9h->Option (List J9h)) (g:GE):GN:=λ env n Q=>g env n λ d n1=>match f d with
 | some ds=>Q ds n1
 | none=>False
noncomputable def J2i:J9h->Option (List J9h)
 | .list xs=>some xs
 | _=>none
noncomputable def J1c:J9h->Option (List J9h)
 | .tuple xs=>some xs
 | _=>none
instance iv_list [A:EV true te g]:IV (Jo3 K te) (Jxt J2i g):=⟨λ {S ex env σ H n R P} E h k=>A.ev E h λ d n1 v H1 h1 s1 r1=>by
 cases r1 with
 | list e m z rs=>
  refine ⟨_,rfl,⟨_,SqL.of e⟩,k _ _ _ [(X4 _,V.ref _)] _ h1 s1 (λ h hh=>by rw [Qs.mp hh];exact .list e m z rs) λ ex' H2 al hr=>?_⟩
  have:=hr _ (Qs.mpr rfl)
  cases this with
  | list e m z rs=>exact Jkb e rs
 | none=>exact h1.elim
 | obj=>exact h1.elim
 | bool=>exact h1.elim
 | str=>exact h1.elim
 | int=>exact h1.elim
 | tuple=>exact h1.elim⟩
instance iv_tup [A:EV true te g]:IV (J0l K te) (Jxt J1c g):=⟨λ {S ex env σ H n R P} E h k=>A.ev E h λ d n1 v H1 h1 s1 r1=>by
 cases r1 with
 | tuple e m z rs=>
  refine ⟨_,rfl,⟨_,SqT.of e⟩,k _ _ _ [(Ud _,V.ref _)] _ h1 s1 (λ h hh=>by rw [Qs.mp hh];exact .tuple e m z rs) λ ex' H2 al hr=>?_⟩
  have:=hr _ (Qs.mpr rfl)
  cases this with
  | tuple e m z rs=>exact Jzd e rs
 | none=>exact h1.elim
 | obj=>exact h1.elim
 | bool=>exact h1.elim
 | str=>exact h1.elim
 | int=>exact h1.elim
 | list=>exact h1.elim⟩
abbrev Jsy (i:Nat):GN:=λ env n Q=>match env[i]? with
 | some (.own xs)=>Q xs n
 | some (.d (.list xs))=>Q xs n
 | _=>False
instance (priority:=high) ic_own {i:Nat}:IC (Jo3 K (Zv i)) (Jsy i):=⟨λ {S ex env σ H n R P} E h k=>by
 unfold Jsy at h
 split at h
 . rename_i xs e
   obtain ⟨a,vs,ev,h1,h2,h3,h4,h5⟩:=E.sl i _ e
   refine ⟨_,Jm ev,_,rfl,⟨_,SqL.of h1⟩,k _ _ _ _ h (.refl E.inv) λ l H2 hl kp al=>?_⟩
   have na:a≠l:=Jq h1 hl
   exact Jkb (kp _ _ h1 λ z=>(Qf.mp z).elim na h5) ((Reps.add hl h3).keep (Jcl E.ch kp))
 . rename_i xs e
   obtain ⟨v,ev,r⟩:=E.sl i _ e
   cases r with
   | list e1 m z rs=>
    refine ⟨_,Jm ev,_,rfl,⟨_,SqL.of e1⟩,k _ _ _ _ h (.refl E.inv) λ l H2 hl kp al=>?_⟩
    have:=(Rep.add hl (.list e1 m z rs)).keep (Jcl E.ch kp)
    cases this with
    | list e m z rs=>exact Jkb e rs
 . exact h.elim⟩
abbrev J1d (t:GN):GN:=λ env n Q=>t env n λ ds n1=>∃ j:Int,ds=[.int j]/\(-(2^62)<=j/\j<2^62)/\Q (Jfx 0 j.toNat) n1
instance iv_rng1 {t:TA}{gt:GN} [A:DV false t gt]:IV (Jxa t) (J1d gt):=⟨λ {S ex env σ H n R P} E h k=>A.dv E h λ ds n1 vs H1 h1 s1 r1=>by
 obtain ⟨j,rfl,h2,q⟩:=h1
 cases r1 with
 | cons r1 t=>
  cases t
  cases r1
  exact ⟨j,rfl,h2.1,h2.2,k _ _ _ [] _ q s1 (λ h hh=>by cases hh) λ ex' H2 al _=>Jze⟩⟩
abbrev J1e (t:GN):GN:=λ env n Q=>t env n λ ds n1=>∃ d xs,ds=[d]/\Jn5 d=some xs/\Q (Jb2 xs) n1
abbrev J2j (t:GN):GN:=λ env n Q=>t env n λ ds n1=>∃ d e xs ys,ds=[d,e]/\Jn5 d=some xs/\Jn5 e=some ys/\Q (Vh xs ys) n1
theorem Jb3 {d:J9h}{ds:List J9h}{c:Bool}{a:Addr}{vs:List V}(hs:Jn5 d=some ds) (hc:(c=true/\H a=some (.tup vs))\/(c=false/\H a=some (.lst vs))) (r:Rep ex H d (.ref a)) (ex':List Addr) (H2:Hp) (r2:Rep ex' H2 d (.ref a)):∃ vs',(∀ K,SqK c K H2 a vs')/\Reps ex' H2 ds vs':=by
 cases r2 with
 | obj=>cases hs
 | tuple e n z rs=>
  cases hs
  refine ⟨_,λ K=>?_,rs⟩
  rcases hc with ⟨rfl,_⟩ | ⟨_,h⟩
  . exact SqT.of e
  . cases r with | tuple e' _ _ _=>rw [h] at e';cases e'
 | list e n z rs=>
  cases hs
  refine ⟨_,λ K=>?_,rs⟩
  rcases hc with ⟨_,h⟩ | ⟨rfl,_⟩
  . cases r with | list e' _ _ _=>rw [h] at e';cases e'
  . exact SqL.of e
instance iv_enum {t:TA}{gt:GN} [A:DV true t gt]:IV (Jxm K t) (J1e gt):=⟨λ {S ex env σ H n R P} E h k=>A.dv E h λ ds n1 vs H1 h1 s1 r1=>by
 obtain ⟨d,xs,rfl,hs,q⟩:=h1
 cases r1 with
 | cons r1 t=>
  cases t
  obtain ⟨c,a,ws,rfl,hq,rs,hc,na⟩:=Jdv r1 hs
  refine ⟨c,a,ws,rfl,hq K,k _ _ _ [(d,V.ref a)] _ q s1 (λ h hh=>by rw [Qs.mp hh];exact r1) λ ex' H2 al hr=>?_⟩
  obtain ⟨vs',h3,h4⟩:=Jb3 hs hc r1 ex' H2 (hr _ (Qs.mpr rfl))
  exact Jvs al (h3 K) h4⟩
instance iv_zip {t:TA}{gt:GN} [A:DV true t gt]:IV (Jn0 K t) (J2j gt):=⟨λ {S ex env σ H n R P} E h k=>A.dv E h λ ds n1 vs H1 h1 s1 r1=>by
 obtain ⟨d,e,xs,ys,rfl,hs,hs',q⟩:=h1
 cases r1 with
 | cons r1 t=>
  cases t with
  | cons r2 t=>
   cases t
   obtain ⟨c,a,ws,rfl,hq,rs,hc,na⟩:=Jdv r1 hs
   obtain ⟨c',a',ws',rfl,hq',rs',hc',na'⟩:=Jdv r2 hs'
   refine ⟨c,c',a,a',ws,ws',rfl,hq K,hq' K,k _ _ _ [(d,V.ref a),(e,V.ref a')] _ q s1 (λ h hh=>?_) λ ex' H2 al hr=>?_⟩
   . rcases Qf.mp hh with e | hh
     . rw [e];exact r1
     . rw [Qs.mp hh];exact r2
   obtain ⟨v1,h3,h4⟩:=Jb3 hs hc r1 ex' H2 (hr _ Qi)
   obtain ⟨v2,h5,h6⟩:=Jb3 hs' hc' r2 ex' H2 (hr _ (Qj _ (Qs.mpr rfl)))
   exact Jn6 al (h3 K) h4 (h5 K) h6⟩
end
noncomputable def Jk (env:List Vl) (σ:L2.St) (i:Nat):List Addr:=match env[i]?,(σ[i]?).join with
 | some (.own _),some (.ref a)=>[a]
 | some (.dct _),some (.ref a)=>[a]
 | some (.own2 _ ps),some (.ref a)=>a::ps.map (·.1)
 | _,_=>[]
abbrev GG:=J9h->List Vl->(List Vl->Prop)->Prop
abbrev GGs:=List J9h->List Vl->(List Vl->Prop)->Prop
class GV (g:TG) (bd:outParam GG) (ks:outParam (List Nat)):Prop where
 gv:∀ {S:Src} {ex:List Addr} {env:List Vl} {σ:L2.St} {H:Hp} {n:Nat} {d:J9h} {v:V} {Q:L2.St->Hp->Prop} {P:List Vl->Prop},Ev S ex env σ H n->Rep ex H d v->bd d env P ->
  (∀ env' σ',P env'->Ev S ex env' σ' H n->(∀ i a,a∈Jk env' σ' i->a∈Jk env σ i)->(∀ i:Nat,i∉ks->σ'[i]? = σ[i]?)->σ'.length = σ.length->Q σ' H)->g v σ H Q
class GVs (g:TGs) (bd:outParam GGs) (ks:outParam (List Nat)):Prop where
 gvs:∀ {S:Src} {ex:List Addr} {env:List Vl} {σ:L2.St} {H:Hp} {n:Nat} {d:List J9h} {v:List V} {Q:L2.St->Hp->Prop} {P:List Vl->Prop},Ev S ex env σ H n->Reps ex H d v->bd d env P ->
  (∀ env' σ',P env'->Ev S ex env' σ' H n->(∀ i a,a∈Jk env' σ' i->a∈Jk env σ i)->(∀ i:Nat,i∉ks->σ'[i]? = σ[i]?)->σ'.length = σ.length->Q σ' H)->g v σ H Q
abbrev J1f (i:Nat):GG:=λ d env P=>P (env.set i (.d d))
theorem Ev.put {S:Src}{ex:List Addr}{env:List Vl}{σ:L2.St}{H:Hp}{n i:Nat}{w:Vl}{v:V}(E:Ev S ex env σ H n) (h:SlR S ex H w (some v)):Ev S ex (env.set i w) (σ.set i (some v)) H n:=by
 refine ⟨by rw [Qr,Qr];exact E.len,λ j u e=>?_,E.ch,E.al,E.inv⟩
 by_cases hj:i=j
 . subst hj
   have hl:i<env.length:=by
    have:=(Qp.mp e).1
    rw [Qr] at this;exact this
   rw [Q2 hl] at e
   cases e
   rw [Q2 (Q1 hl E.len)]
   exact h
 . rw [Q3 hj] at e ⊢
   exact E.sl j u e
theorem Jf4 {env:List Vl}{σ:L2.St}{i:Nat}{d:J9h}{v:V}:∀ j a,a∈Jk (env.set i (.d d)) (σ.set i (some v)) j->a∈Jk env σ j:=λ j a h=>by
 unfold Jk at h ⊢
 by_cases hj:i=j
 . subst hj
   by_cases hl:i<env.length
   . rw [Q2 hl] at h
     cases h
   . rw [Qy (by rw [Qr];omega)] at h
     cases h
 . rw [Q3 hj,Q3 hj] at h
   exact h
instance gv_name {i:Nat}:GV (Bm i) (J1f i) [i]:=⟨λ {S ex env σ H n d v Q P} E r h k=>k _ _ h (E.put ⟨v,rfl,r⟩) Jf4 (λ j hj=>Q3 (λ z=>hj (by rw [z];exact Qs.mpr rfl))) Qr⟩
abbrev J2k:GGs:=λ ds env P=>ds=[]/\P env
abbrev J1g (t:GG) (u:GGs):GGs:=λ ds env P=>match ds with
 | d::r=>t d env λ env1=>u r env1 P
 | []=>False
instance gvs_nil:GVs L2.gNil J2k []:=⟨λ {S ex env σ H n d v Q P} E r h k=>by
 obtain ⟨rfl,h⟩:=h
 cases r
 exact ⟨rfl,k _ _ h E (λ _ _ h=>h) (λ _ _=>rfl) rfl⟩⟩
instance gvs_cons {t:TG}{u:TGs}{bt:GG}{bu:GGs}{k1 k2:List Nat} [A:GV t bt k1] [B:GVs u bu k2]:GVs (L2.gCons t u) (J1g bt bu) (k1++k2):=⟨λ {S ex env σ H n d v Q P} E r h k=>by
 cases r with
 | nil=>exact h.elim
 | cons r1 t=>
  refine ⟨_,_,rfl,A.gv E r1 h λ env1 σ1 h1 E1 o1 f1 z1=>B.gvs E1 t h1 λ env2 σ2 h2 E2 o2 f2 z2=>k _ _ h2 E2 (λ i a ha=>o1 i a (o2 i a ha)) (λ i hi=>?_) (z2.trans z1)⟩
  rw [f2 i λ z=>hi (Xf _ z),f1 i λ z=>hi (Xn _ z)]⟩
abbrev J2l (k:Nat) (bs:GGs):GG:=λ d env P=>match d with
 | .tuple ds=>ds.length=k/\bs ds env P
 | _=>False
abbrev J2m (k:Nat) (bs:GGs):GG:=λ d env P=>match d with
 | .list ds=>ds.length=k/\bs ds env P
 | _=>False
instance gv_tup {K:Qc}{k:Nat}{t:TGs}{bs:GGs}{ks:List Nat} [A:GVs t bs ks]:GV (Jr2 K k t) (J2l k bs) ks:=⟨λ {S ex env σ H n d v Q P} E r h k=>by
 cases r with
 | tuple e m z rs=>exact ⟨_,_,rfl,SqT.of e,by rw [<- rs.length];exact h.1,A.gvs E rs h.2 k⟩
 | none=>exact h.elim
 | obj=>exact h.elim
 | bool=>exact h.elim
 | str=>exact h.elim
 | int=>exact h.elim
 | list=>exact h.elim⟩
instance gv_lst {K:Qc}{k:Nat}{t:TGs}{bs:GGs}{ks:List Nat} [A:GVs t bs ks]:GV (Jsp K k t) (J2m k bs) ks:=⟨λ {S ex env σ H n d v Q P} E r h k=>by
 cases r with
 | list e m z rs=>exact ⟨_,_,rfl,SqL.of e,by rw [<- rs.length];exact h.1,A.gvs E rs h.2 k⟩
 | none=>exact h.elim
 | obj=>exact h.elim
 | bool=>exact h.elim
 | str=>exact h.elim
 | int=>exact h.elim
 | tuple=>exact h.elim⟩
def Jfy (f:J9h->Nat->(Option J9h->Nat->Prop)->Prop):List J9h->Nat->(List J9h->Nat->Prop)->Prop
 | [],n,Q=>Q [] n
 | x::xs,n,Q=>f x n λ o n1=>Jfy f xs n1 λ ys n2=>Q (o.toList++ys) n2
noncomputable def Jc8 (k:Nat) (idx:List Nat) (env:List Vl):List Vl:=Qw k .jnk++idx.map λ i=>(env[i]?).getD .jnk
abbrev Jxu (bd:GG) (gt:GT) (ge:GE) (env:List Vl):J9h->Nat->(Option J9h->Nat->Prop)->Prop:=λ x n Q=>bd x env λ env'=>gt env' n λ c n1=>if c=true then ge env' n1 λ y n2=>Q (some y) n2 else Q none n1
abbrev J1h (gi:GN) (k:Nat) (idx:List Nat) (ks:List Nat) (bd:GG) (gt:GT) (ge:GE):GN:=λ env n Q=>gi env n λ items n1=>(ks.all (λ i=>decide (i<k))=true/\items.length<=sizeLine)/\Jfy (Jxu bd gt ge (Jc8 k idx env)) items n1 Q
theorem SlR.add {S:Src}{ex:List Addr}{H:Hp}{l:Addr}{w:Vl}{o:Option V}(hl:H l=none) (h:SlR S ex H w o):SlR S (l::ex) H w o:=by
 cases w with
 | jnk=>trivial
 | jar=>exact h
 | tape=>exact h
 | d x=>obtain ⟨v,e,r⟩:=h;exact ⟨v,e,Rep.add hl r⟩
 | pin v x=>obtain ⟨e,r⟩:=h;exact ⟨e,Rep.add hl r⟩
 | own xs=>obtain ⟨a,vs,e,h1,h2,h3,h4,h5⟩:=h;exact ⟨a,vs,e,h1,h2,Reps.add hl h3,Qj _ h4,h5⟩
 | dct kvs=>obtain ⟨a,kws,e,h1,⟨h2,h3⟩,h4,h5⟩:=h;exact ⟨a,kws,e,h1,⟨h2,Reps.add hl h3⟩,Qj _ h4,h5⟩
 | own2 ks ps=>obtain ⟨a,e,q⟩:=h;exact ⟨a,e,q.h,q.z,q.k,q.nd,Qj _ q.m,q.c,λ p hp=>let w:=q.i p hp;⟨Qj _ w.m,w.c,let ⟨vs,h1,h2,h3⟩:=w.h;⟨vs,h1,h2,Reps.add hl h3⟩⟩⟩
theorem SlR.upd {S:Src}{ex:List Addr}{H:Hp}{l:Addr}{w:Vl}{o:Option V}{u:HO}(hl:l∈ex) (hn:∀ b∈Jk [w] [o] 0,b≠l) (h:SlR S ex H w o):SlR S ex (upd H l u) w o:=by
 cases w with
 | jnk=>trivial
 | jar=>exact h
 | tape=>exact h
 | d x=>obtain ⟨v,e,r⟩:=h;exact ⟨v,e,r.keep (Kp.at hl _)⟩
 | pin v x=>obtain ⟨e,r⟩:=h;exact ⟨e,r.keep (Kp.at hl _)⟩
 | own xs=>obtain ⟨a,vs,e,h1,h2,h3,h4,h5⟩:=h;subst e;exact ⟨a,vs,rfl,by rw [Jf (hn a Qi)];exact h1,h2,h3.keep (Kp.at hl _),h4,h5⟩
 | dct kvs=>obtain ⟨a,kws,e,h1,⟨h2,h3⟩,h4,h5⟩:=h;subst e;exact ⟨a,kws,rfl,by rw [Jf (hn a Qi)];exact h1,⟨h2,h3.keep (Kp.at hl _)⟩,h4,h5⟩
 | own2 ks ps=>obtain ⟨a,e,q⟩:=h;subst e;exact ⟨a,rfl,by rw [Jf (hn a Qi)];exact q.h,q.z,q.k,q.nd,q.m,q.c,λ p hp=>let w:=q.i p hp;⟨w.m,w.c,let ⟨vs,h1,h2,h3⟩:=w.h;⟨vs,by rw [Jf (hn p.1 (Qj _ (Qn.mpr ⟨p,hp,rfl⟩)))];exact h1,h2,h3.keep (Kp.at hl _)⟩⟩⟩
theorem Jgx {S:Src}{ex:List Addr}{env:List Vl}{σ:L2.St}{H:Hp}{n:Nat}(E:Ev S ex env σ H n) (k:Nat) (idx:List Nat):Ev S ex (Jc8 k idx env) (Yp k idx σ) H n:=by
 refine ⟨by unfold Jc8 Yp;simp,λ i w e=>?_,E.ch,E.al,E.inv⟩
 unfold Jc8 at e
 by_cases hi:i<k
 . rw [Uo (by simpa using hi),J21,if_pos hi] at e
   cases e
   trivial
 . rw [U2 (by simpa using J3k hi),Qh] at e
   rw [Uc] at e
   cases hj:idx[i-k]? with
   | none=>rw [hj] at e;cases e
   | some j=>
    rw [hj] at e
    cases e
    have e2:(Yp k idx σ)[i]? = some ((σ[j]?).join):=by
     unfold Yp
     rw [U2 (by simpa using J3k hi),Uc,Qh,hj];rfl
    rw [e2]
    show SlR S ex H ((env[j]?).getD .jnk) (σ[j]?).join
    cases hw:env[j]? with
    | none=>exact trivial
    | some w=>exact E.sl j w hw
theorem Jvt {S:Src}{ex:List Addr}{je:List Vl}{σ0 σ':L2.St}{H1 H2:Hp}{n1 n2 k:Nat}{l:Addr}(E:Ev S ex je σ0 H1 n1) (hl:H1 l=none) (kp:Kp (l::S.ch) H1 H2) (h2:H2 l≠none) (iv:S.inv n2 H2) (hj:∀ j:Nat,j<k->je[j]? = none\/je[j]? = some .jnk) (hs:∀ j:Nat,k<=j->σ'[j]? = σ0[j]?) (hz:σ'.length = σ0.length):Ev S (l::ex) je σ' H2 n2:=by
 have hc:∀ a∈S.ch,a∈l::ex:=λ a h=>Qj _ (E.ch a h)
 have kx:Kp (l::ex) H1 H2:=Jcl E.ch kp
 refine ⟨by rw [hz];exact E.len,λ j w e=>?_,hc,λ a ha=>?_,iv⟩
 . by_cases hjk:j<k
   . rcases hj j hjk with h | h
     . rw [h] at e;cases e
     . rw [h] at e;cases e;trivial
   . rw [hs j (J3k hjk)]
     have h:=SlR.add hl (E.sl j w e)
     cases w with
     | jnk=>trivial
     | jar=>exact h
     | tape=>exact h
     | d x=>obtain ⟨v,e,r⟩:=h;exact ⟨v,e,r.keep kx⟩
     | pin v x=>obtain ⟨e,r⟩:=h;exact ⟨e,r.keep kx⟩
     | own xs=>obtain ⟨a,vs,e,h1,h2,h3,h4,h5⟩:=h;exact ⟨a,vs,e,kp _ _ h1 λ z=>(Qf.mp z).elim (Jq h1 hl) h5,h2,h3.keep kx,h4,h5⟩
     | dct kvs=>obtain ⟨a,kws,e,h1,⟨h2,h3⟩,h4,h5⟩:=h;exact ⟨a,kws,e,kp _ _ h1 λ z=>(Qf.mp z).elim (Jq h1 hl) h5,⟨h2,h3.keep kx⟩,h4,h5⟩
     | own2 ks ps=>obtain ⟨a,e,q⟩:=h;exact ⟨a,e,kp _ _ q.h λ z=>(Qf.mp z).elim (Jq q.h hl) q.c,q.z,q.k,q.nd,q.m,q.c,λ p hp=>let w:=q.i p hp;⟨w.m,w.c,let ⟨vs,h1,h2,h3⟩:=w.h;⟨vs,kp _ _ h1 λ z=>(Qf.mp z).elim (Jq h1 hl) w.c,h2,h3.keep kx⟩⟩⟩
 . rcases Qf.mp ha with rfl | ha
   . exact h2
   . by_cases hac:a∈S.ch
     . exact S.dom iv a hac
     . intro z
       cases e:H1 a with
       | none=>exact E.al a ha e
       | some o=>
        rw [kp a o e λ q=>(Qf.mp q).elim (Jq e hl) hac] at z
        cases z
theorem Jgy {k:Nat}{idx:List Nat}{env:List Vl}(j:Nat) (h:j<k):(Jc8 k idx env)[j]? = none\/(Jc8 k idx env)[j]? = some .jnk:=by
 right
 unfold Jc8
 rw [Uo (by simpa using h),J21,if_pos h]
instance nv_comp {wi:TI}{gi:GN}{k:Nat}{idx ks:List Nat}{g:TG}{bd:GG}{tt:TT}{gt:GT}{te:TE}{ge:GE} [I:IC wi gi] [G:GV g bd ks] [T:TV tt gt] [A:EV true te ge]:NV (Jau wi k idx g tt te) (J1h gi k idx ks bd gt ge):=⟨λ {S ex env σ H n Q P} E h kk=>by
 refine I.ic E h λ items n1 J H1 hc s1 hit l hl=>?_
 obtain ⟨⟨hk,hz⟩,hc⟩:=hc
 have E1:=Jgx (E.step s1) k idx
 have lch:l∉S.ch:=λ z=>S.dom s1.2 l z hl
 have hkk:∀ i∈ks,i<k:=λ i hi=>of_decide_eq_true (X3.mp hk i hi)
 refine ⟨λ i m σ' H2=>i<=items.length/\m=items.length-i/\∃ (n2:Nat) (ds:List J9h) (vs:List V),Jfy (Jxu bd gt ge (Jc8 k idx env)) (items.drop i) n2 (λ ys n'=>P (ds++ys) n')/\Kp (l::S.ch) H1 H2/\H2 l=some (.lst vs)/\vs.length<=i/\Reps (l::ex) H2 ds vs/\S.inv n2 H2/\(∀ j:Nat,k<=j->σ'[j]? = (Yp k idx σ)[j]?)/\σ'.length=(Yp k idx σ).length,
  ⟨items.length,Xz _,rfl,n1,[],[],by simpa using hc,Kp.new hl _,Jh,Qm _,.nil,S.keep s1.2 λ b _ o' e=>Kp.new (ex:=[]) hl _ _ _ e (by simp),λ _ _=>rfl,rfl⟩,?_⟩
 rintro i m σ' H2 ⟨hi,rfl,n2,ds,vs,hcm,kp,h2l,hvl,rs,iv2,hsl,hln⟩
 have E2:Ev S (l::ex) (Jc8 k idx env) σ' H2 n2:=Jvt E1 hl kp (by rw [h2l];intro z;cases z) iv2 Jgy hsl hln
 have IT:=hit l H2 hl kp E2.al
 rcases X1 i items.length with hlt | hge
 . refine .inr ⟨(IT.2 i items[i] (Qd hlt)).1,λ x H3 y=>?_⟩
   obtain ⟨kp3,rx⟩:=(IT.2 i items[i] (Qd hlt)).2 x H3 y
   rw [J6q hlt] at hcm
   have st3:Yv S n2 H2 H3:=Yv.new E2.inv kp3
   have E3:=E2.step st3
   refine G.gv E3 rx hcm λ env' σ2 ht E4 _ hs hl2=>T.tv E4 ht λ c n4 H4 h4 s4=>?_
   have hs2:∀ j:Nat,k<=j->σ2[j]? = (Yp k idx σ)[j]?:=λ j hj=>by
    rw [hs j λ z=>by have:=hkk j z;omega];exact hsl j hj
   cases c with
   | true=>
    refine A.ev (E4.step s4) h4 λ d n5 v H5 h5 s5 r5=>?_
    have s25:=st3.trans (s4.trans s5)
    have k5:Kp S.ch H2 H5:=s25.1
    have h5l:H5 l=some (.lst vs):=k5 _ _ h2l lch
    refine ⟨vs,h5l,by omega,_,(?_:items.length-(i+1)<_),hlt,rfl,n5,ds++[d],vs++[v],?_,?_,Jh,?_,?_,?_,hs2,hl2.trans hln⟩
    . omega
    . simpa using h5
    . exact (kp.trans (k5.mono λ b hb=>Qj _ hb)).trans (Kp.at Qi _)
    . rw [Q7,Uj];omega
    . have q1:Reps (l::ex) H5 ds vs:=rs.keep (k5.mono E2.ch)
      exact (Reps.append q1 (.cons r5 .nil)).keep (Kp.at Qi _)
    . exact S.keep s25.2 λ b hb o e=>by rw [Jf (λ z=>lch (by rw [<- z];exact hb))];exact e
   | false=>
    have s24:=st3.trans s4
    refine ⟨_,(?_:items.length-(i+1)<_),hlt,rfl,n4,ds,vs,by simpa using h4,kp.trans (s24.1.mono λ b hb=>Qj _ hb),s24.1 _ _ h2l lch,by omega,rs.keep (s24.1.mono E2.ch),s24.2,hs2,hl2.trans hln⟩
    omega
 . have e:i=items.length:=by omega
   subst e
   rw [J6r] at hcm
   refine .inl ⟨IT.1,kk _ _ _ _ _ (by simpa [Jfy] using hcm) ⟨λ b o e nb=>kp b o (s1.1 b o e nb) λ z=>(Qf.mp z).elim (λ e2=>by rw [e2,s1.free hl] at e;cases e) nb,iv2⟩ (s1.free hl) h2l (Xi hvl hz) rs⟩⟩
structure VEnds where
 nx:List Vl->Nat->Prop
 rt:J9h->Nat->Prop
 rtn:List J9h->Nat->Prop
 bk:List Vl->Nat->Prop:=λ _ _=>False
 ct:List Vl->Nat->Prop:=λ _ _=>False
 xc:XK->Addr->Nat->Prop:=λ _ _ _=>False
 rt2:List (List J9h)->Nat->Prop:=λ _ _=>False
abbrev GS:=VEnds->List Vl->Nat->Prop
structure Cv where
 S:Src
 ex0:List Addr
 H0:Hp
 held:List (J9h×V)
structure At (C:Cv) (ex:List Addr) (env:List Vl) (σ:L2.St) (H:Hp) (n:Nat):Prop where
 ev:Ev C.S ex env σ H n
 ex0:∀ a∈C.ex0,a∈ex
 al0:Alc C.ex0 C.H0
 sep:∀ i j a,a∈Jk env σ i->a∈Jk env σ j->i=j
 new:∀ i a,a∈Jk env σ i->C.H0 a=none
 kp:Kp C.S.ch C.H0 H
 held:∀ h∈C.held,Rep ex H h.1 h.2
structure Ret (C:Cv) (d:J9h) (n:Nat) (v:V) (H:Hp):Prop where
 kp:Kp C.S.ch C.H0 H
 inv:C.S.inv n H
 r:Rep C.ex0 H d v
structure RetN (C:Cv) (ds:List J9h) (n:Nat) (a:Addr) (H:Hp):Prop where
 kp:Kp C.S.ch C.H0 H
 inv:C.S.inv n H
 fr:C.H0 a=none
 r:∃ vs,H a=some (.lst vs)/\vs.length<=sizeLine/\Reps (a::C.ex0) H ds vs
structure Ret2 (C:Cv) (ps:List (Addr×List J9h)) (n:Nat) (a:Addr) (H:Hp):Prop where
 kp:Kp C.S.ch C.H0 H
 inv:C.S.inv n H
 fr:C.H0 a=none
 frs:∀ p∈ps,C.H0 p.1=none
 o:Own2 C.S (a::ps.map (·.1)++C.ex0) H none ps a
structure EndsOk (C:Cv) (G:VEnds) (D:Ends):Prop where
 nx:∀ {ex env σ H n},At C ex env σ H n->G.nx env n->D.nx σ H
 bk:∀ {ex env σ H n},At C ex env σ H n->G.bk env n->D.bk σ H
 ct:∀ {ex env σ H n},At C ex env σ H n->G.ct env n->D.ct σ H
 rt:∀ {d n v H},Ret C d n v H->G.rt d n->D.rt v H
 rtn:∀ {ds n a H},RetN C ds n a H->G.rtn ds n->D.rt (.ref a) H
 xc:∀ {E c n H},Kp C.S.ch C.H0 H->C.S.inv n H->G.xc E c n->E (.ref c) none H
 r2:∀ {ps n a H},Ret2 C ps n a H->G.rt2 (ps.map (·.2)) n->D.rt (.ref a) H
class SV (ts:TS) (gs:outParam GS):Prop where
 sv:∀ {C:Cv} {G:VEnds} {D:Ends},EndsOk C G D->∀ {ex env σ H n},At C ex env σ H n->gs G env n->ts D σ H
section
variable {C:Cv}{ex:List Addr}{env:List Vl}{σ:L2.St}{H H':Hp}{n m:Nat}
theorem At.step (A:At C ex env σ H n) (s:Yv C.S m H H'):At C ex env σ H' m:=⟨A.ev.step s,A.ex0,A.al0,A.sep,A.new,A.kp.trans s.1,λ h hh=>A.ev.rep s (A.held h hh)⟩
theorem Jam {i:Nat}{a:Addr}(E:Ev C.S ex env σ H n) (h:a∈Jk env σ i):H a≠none/\a∈ex/\a∉C.S.ch:=by
 unfold Jk at h
 split at h
 . rename_i xs b e1 e2
   obtain ⟨c,vs,e,h1,h2,h3,h4,h5⟩:=E.sl i _ e1
   rw [e2] at e
   cases e
   rw [Qs.mp h]
   exact ⟨(by rw [h1];intro z;cases z),h4,h5⟩
 . rename_i xs b e1 e2
   obtain ⟨c,vs,e,h1,h2,h4,h5⟩:=E.sl i _ e1
   rw [e2] at e
   cases e
   rw [Qs.mp h]
   exact ⟨(by rw [h1];intro z;cases z),h4,h5⟩
 . rename_i ks ps b e1 e2
   obtain ⟨c,e,q⟩:=E.sl i _ e1
   rw [e2] at e
   cases e
   rcases Qf.mp h with rfl | h
   . exact ⟨(by rw [q.h];exact Xs _),q.m,q.c⟩
   . obtain ⟨p,hp,rfl⟩:=Qn.mp h
     have w:=q.i p hp
     obtain ⟨vs,h1,_⟩:=w.h
     exact ⟨(by rw [h1];exact Xs _),w.m,w.c⟩
 . cases h
theorem Jae {α:Type}{l:List α}{i:Nat}{a b:α}(h:(l.set i a)[i]? = some b):b=a:=by
 have hl:=(Qp.mp h).1
 rw [Qr] at hl
 rw [Q2 hl] at h
 exact (Xj h).symm
theorem Jbc {j:Nat}{w:Vl}(e:env[j]? = some w):Jk env σ j=Jk [w] [(σ[j]?).join] 0:=by
 unfold Jk
 rw [e]
 rfl
theorem At.put (A:At C ex env σ H n) {i:Nat}{d:J9h}{v:V}(r:Rep ex H d v):At C ex (env.set i (.d d)) (σ.set i (some v)) H n:=
 ⟨A.ev.put ⟨v,rfl,r⟩,A.ex0,A.al0,λ j k a h1 h2=>A.sep j k a (Jf4 j a h1) (Jf4 k a h2),λ j a h=>A.new j a (Jf4 j a h),A.kp,A.held⟩
theorem At.bind (A:At C ex env σ H n) {env':List Vl}{σ':L2.St}(E:Ev C.S ex env' σ' H n) (o:∀ i a,a∈Jk env' σ' i->a∈Jk env σ i):At C ex env' σ' H n:=
 ⟨E,A.ex0,A.al0,λ j k a h1 h2=>A.sep j k a (o j a h1) (o k a h2),λ j a h=>A.new j a (o j a h),A.kp,A.held⟩
theorem At.free (A:At C ex env σ H n) {a:Addr}(h:H a=none):C.H0 a=none:=by
 cases e:C.H0 a with
 | none=>rfl
 | some o=>
  by_cases hp:a∈C.S.ch
  . exact absurd h (C.S.dom A.ev.inv a hp)
  . rw [A.kp a o e hp] at h;cases h
theorem Vo {i j:Nat}{w:Vl}{o:Option V}(h:i≠j):Jk (env.set i w) (σ.set i o) j=Jk env σ j:=by
 unfold Jk
 rw [Q3 h,Q3 h]
theorem Jn7 {i:Nat}{ds:List J9h}{a b:Addr}(h:b∈Jk (env.set i (.own ds)) (σ.set i (some (.ref a))) i):b=a:=by
 unfold Jk at h
 split at h
 . rename_i c e1 e2
   have e3:(σ.set i (some (.ref a)))[i]? = some (some (.ref c)):=Jm e2
   have:=Jae e3
   cases this
   exact Qs.mp h
 . rename_i e1 e2
   have:=Jae e1
   cases this
 . rename_i e1 e2
   have:=Jae e1
   cases this
 . cases h
theorem At.own (A:At C ex env σ H n) {i:Nat}{ds:List J9h}{vs:List V}{a:Addr}(s:Yv C.S m H H') (ha:H a=none) (hl:H' a=some (.lst vs)) (hz:vs.length<=sizeLine) (r:Reps (a::ex) H' ds vs) :
 At C (a::ex) (env.set i (.own ds)) (σ.set i (some (.ref a))) H' m:=by
 have ac:a∉C.S.ch:=λ z=>C.S.dom A.ev.inv a z ha
 have hc:∀ b∈C.S.ch,b∈a::ex:=λ b h=>Qj _ (A.ev.ch b h)
 have E1:Ev C.S (a::ex) env σ H' m:=by
  refine ⟨A.ev.len,λ j w e=>(SlR.add ha (A.ev.sl j w e)).kp hc s.1,hc,λ b hb=>?_,s.2⟩
  rcases Qf.mp hb with rfl | hb
  . rw [hl];intro z;cases z
  . exact A.ev.al.step s b hb
 refine ⟨E1.put ⟨a,vs,rfl,hl,hz,r,Qi,ac⟩,λ b h=>Qj _ (A.ex0 b h),A.al0,λ j k b h1 h2=>?_,λ j b h=>?_,A.kp.trans s.1,λ h hh=>(Rep.add ha (A.held h hh)).keep (s.1.mono hc)⟩
 . by_cases hj:i=j
   . subst hj
     have e:=Jn7 h1
     subst e
     by_cases hk:i=k
     . exact hk
     . rw [Vo hk] at h2
       exact absurd ha (Jam A.ev h2).1
   . rw [Vo hj] at h1
     by_cases hk:i=k
     . subst hk
       have e:=Jn7 h2
       subst e
       exact absurd ha (Jam A.ev h1).1
     . rw [Vo hk] at h2
       exact A.sep j k b h1 h2
 . by_cases hj:i=j
   . subst hj
     have e:=Jn7 h
     subst e
     exact A.free ha
   . rw [Vo hj] at h
     exact A.new j b h
theorem Jl8 {i:Nat}{xs ys:List J9h}(h:env[i]? = some (.own xs)):∀ j,Jk (env.set i (.own ys)) σ j=Jk env σ j:=λ j=>by
 unfold Jk
 by_cases hj:i=j
 . subst hj
   rw [Q2 (Qp.mp h).1,h]
   cases (σ[i]?).join with
   | none=>rfl
   | some v=>cases v<;>rfl
 . rw [Q3 hj]
theorem At.re (A:At C ex env σ H n) {i:Nat}{xs ys:List J9h}{ws:List V}{a:Addr}(h:env[i]? = some (.own xs)) (hs:(σ[i]?).join=some (.ref a)) (r:Reps ex H ys ws) (hz:ws.length<=sizeLine) :
 At C ex (env.set i (.own ys)) σ (upd H a (.lst ws)) n:=by
 have ha:a∈Jk env σ i:=by unfold Jk;rw [h,hs];exact Qs.mpr rfl
 obtain ⟨h1,h2,h3⟩:=Jam A.ev ha
 have h0:=A.new i a ha
 have kx:Kp ex H (upd H a (.lst ws)):=Kp.at h2 _
 refine ⟨⟨by rw [Qr];exact A.ev.len,λ j w e=>?_,A.ev.ch,λ b hb=>?_,C.S.keep A.ev.inv λ b hb o e=>by rw [Jf (λ z=>h3 (by rw [<- z];exact hb))];exact e⟩,A.ex0,A.al0,λ j k b q1 q2=>?_,λ j b q=>?_,Kp.late A.kp h0 _,λ x hx=>(A.held x hx).keep kx⟩
 . by_cases hj:i=j
   . subst hj
     rw [Q2 (Qp.mp h).1] at e
     cases e
     exact ⟨a,ws,hs,Jh,hz,r.keep kx,h2,h3⟩
   . rw [Q3 hj] at e
     exact SlR.upd h2 (λ b hb z=>hj (A.sep i j a ha (by rw [Jbc e,<- z];exact hb))) (A.ev.sl j w e)
 . by_cases hb2:b=a
   . rw [hb2,Jh];intro z;cases z
   . rw [Jf hb2];exact A.ev.al b hb
 . rw [Jl8 h] at q1 q2;exact A.sep j k b q1 q2
 . rw [Jl8 h] at q;exact A.new j b q
inductive Fz:List Vl->List Vl->Prop
 | refl {env:List Vl}:Fz env env
 | fz {env env':List Vl} (i:Nat) (xs:List J9h) (h:env[i]? = some (.own xs)) (t:Fz (env.set i (.d (.list xs))) env'):Fz env env'
 | jnk {env env':List Vl} (i:Nat) (t:Fz (env.set i .jnk) env'):Fz env env'
 | fz2 {env env':List Vl} (i:Nat) (ps:List (Addr×List J9h)) (h:env[i]? = some (.own2 none ps)) (t:Fz (env.set i (.d (.list (ps.map λ p=>.list p.2)))) env'):Fz env env'
 | fzh {env env':List Vl} (i:Nat) (ps:List (Addr×List J9h)) (h:env[i]? = some (.own2 none ps)) (t:Fz (env.set i (.own (ps.map λ p=>.list p.2))) env'):Fz env env'
theorem At.fz1 (A:At C ex env σ H n) {i:Nat}{xs:List J9h}(h:env[i]? = some (.own xs)):∃ ex',At C ex' (env.set i (.d (.list xs))) σ H n:=by
 obtain ⟨a,vs,e,h1,h2,h3,h4,h5⟩:=A.ev.sl i _ h
 have ha:a∈Jk env σ i:=by unfold Jk;rw [h,e];exact Qs.mpr rfl
 have hsub:∀ b∈ex.filter (λ b=>decide (b≠a)),b∈ex:=λ b hb=>(Xm.mp hb).1
 have hin:∀ b∈ex,b≠a->b∈ex.filter (λ b=>decide (b≠a)):=λ b hb hn=>Xm.mpr ⟨hb,decide_eq_true hn⟩
 have hn:a∉ex.filter (λ b=>decide (b≠a)):=λ z=>(of_decide_eq_true (Xm.mp z).2) rfl
 have oo:∀ j b,b∈Jk (env.set i (.d (.list xs))) σ j->b∈Jk env σ j/\b≠a:=λ j b hb=>by
  by_cases hj:i=j
  . subst hj
    unfold Jk at hb
    rw [Q2 (Qp.mp h).1] at hb
    cases hb
  . have:Jk (env.set i (.d (.list xs))) σ j=Jk env σ j:=by unfold Jk;rw [Q3 hj]
    rw [this] at hb
    exact ⟨hb,λ z=>hj (A.sep i j a ha (by rw [<- z];exact hb))⟩
 refine ⟨ex.filter λ b=>decide (b≠a),⟨by rw [Qr];exact A.ev.len,λ j w ew=>?_,λ b hb=>hin b (A.ev.ch b hb) λ z=>h5 (by rw [<- z];exact hb),λ b hb=>A.ev.al b (hsub b hb),A.ev.inv⟩,λ b hb=>hin b (A.ex0 b hb) λ z=>?_,A.al0,λ j k b q1 q2=>A.sep j k b (oo j b q1).1 (oo k b q2).1,λ j b q=>A.new j b (oo j b q).1,A.kp,λ x hx=>Rep.mono hsub (A.held x hx)⟩
 . by_cases hj:i=j
   . subst hj
     rw [Q2 (Qp.mp h).1] at ew
     cases ew
     exact ⟨_,e,.list h1 hn h2 (Reps.mono hsub h3)⟩
   . rw [Q3 hj] at ew
     have q:=A.ev.sl j w ew
     have ne:∀ b∈Jk [w] [(σ[j]?).join] 0,b≠a:=λ b hb z=>hj (A.sep i j a ha (by rw [Jbc ew,<- z];exact hb))
     cases w with
     | jnk=>trivial
     | jar=>exact q
     | tape=>exact q
     | d x=>obtain ⟨v,e,r⟩:=q;exact ⟨v,e,Rep.mono hsub r⟩
     | pin v x=>obtain ⟨e,r⟩:=q;exact ⟨e,Rep.mono hsub r⟩
     | own ys=>obtain ⟨b,ws,e,g1,g2,g3,g4,g5⟩:=q;exact ⟨b,ws,e,g1,g2,Reps.mono hsub g3,hin b g4 (ne b (by rw [e];exact Qi)),g5⟩
     | dct kvs=>obtain ⟨b,ws,e,g1,⟨g2,g3⟩,g4,g5⟩:=q;exact ⟨b,ws,e,g1,⟨g2,Reps.mono hsub g3⟩,hin b g4 (ne b (by rw [e];exact Qi)),g5⟩
     | own2 ks ps=>obtain ⟨b,e,q⟩:=q;exact ⟨b,e,q.h,q.z,q.k,q.nd,hin b q.m (ne b (by rw [e];exact Qi)),q.c,λ p hp=>let w:=q.i p hp;⟨hin p.1 w.m (ne p.1 (by rw [e];exact Qj _ (Qn.mpr ⟨p,hp,rfl⟩))),w.c,let ⟨vs,h1,h2,h3⟩:=w.h;⟨vs,h1,h2,Reps.mono hsub h3⟩⟩⟩
 . subst z
   exact A.al0 b hb (A.new i b ha)
theorem At.fz2 (A:At C ex env σ H n) {i:Nat}{ps:List (Addr×List J9h)}(h:env[i]? = some (.own2 none ps)):∃ ex',At C ex' (env.set i (.d (.list (ps.map λ p=>.list p.2)))) σ H n:=by
 obtain ⟨a,e,o⟩:=A.ev.sl i _ h
 have hL:∀ b∈a::ps.map (·.1),b∈Jk env σ i:=λ b hb=>by unfold Jk;rw [h,e];exact hb
 have hsub:∀ b∈ex.filter (λ b=>decide (b∉a::ps.map (·.1))),b∈ex:=λ b hb=>(Xm.mp hb).1
 have hin:∀ b∈ex,b∉a::ps.map (·.1)->b∈ex.filter (λ b=>decide (b∉a::ps.map (·.1))):=λ b hb hn=>Xm.mpr ⟨hb,decide_eq_true hn⟩
 have hn:∀ b∈a::ps.map (·.1),b∉ex.filter (λ b=>decide (b∉a::ps.map (·.1))):=λ b hb z=>(of_decide_eq_true (Xm.mp z).2) hb
 have hc:∀ b∈a::ps.map (·.1),b∉C.S.ch:=λ b hb=>by
  rcases Qf.mp hb with rfl | hb
  . exact o.c
  . obtain ⟨p,hp,rfl⟩:=Qn.mp hb;exact (o.i p hp).c
 have oo:∀ j b,b∈Jk (env.set i (.d (.list (ps.map λ p=>.list p.2)))) σ j->b∈Jk env σ j/\b∉a::ps.map (·.1):=λ j b hb=>by
  by_cases hj:i=j
  . subst hj
    unfold Jk at hb
    rw [Q2 (Qp.mp h).1] at hb
    cases hb
  . have:Jk (env.set i (.d (.list (ps.map λ p=>.list p.2)))) σ j=Jk env σ j:=by unfold Jk;rw [Q3 hj]
    rw [this] at hb
    exact ⟨hb,λ z=>hj (A.sep i j b (hL b z) hb)⟩
 refine ⟨ex.filter λ b=>decide (b∉a::ps.map (·.1)),⟨by rw [Qr];exact A.ev.len,λ j w ew=>?_,λ b hb=>hin b (A.ev.ch b hb) λ z=>hc b z hb,λ b hb=>A.ev.al b (hsub b hb),A.ev.inv⟩,λ b hb=>hin b (A.ex0 b hb) λ z=>?_,A.al0,λ j k b q1 q2=>A.sep j k b (oo j b q1).1 (oo k b q2).1,λ j b q=>A.new j b (oo j b q).1,A.kp,λ x hx=>Rep.mono hsub (A.held x hx)⟩
 . by_cases hj:i=j
   . subst hj
     rw [Q2 (Qp.mp h).1] at ew
     cases ew
     refine ⟨_,e,.list o.h (hn a Qi) (by unfold Yx;rw [Qb,J9n];have:=o.z;omega) ?_⟩
     have:∀ qs:List (Addr×List J9h),(∀ q∈qs,q∈ps)->Reps (ex.filter λ b=>decide (b∉a::ps.map (·.1))) H (qs.map λ p=>X4 p.2) (Yx qs):=by
      intro qs
      induction qs with
      | nil=>exact λ _=>.nil
      | cons q qs ih=>
       intro hq
       have hm:=hq q Qi
       obtain ⟨vs,g1,g2,g3⟩:=(o.i q hm).h
       exact .cons (.list g1 (hn q.1 (Qj _ (Qn.mpr ⟨q,hm,rfl⟩))) g2 (Reps.mono hsub g3)) (ih λ x hx=>hq x (Qj _ hx))
     exact this ps λ _ h=>h
   . rw [Q3 hj] at ew
     have q:=A.ev.sl j w ew
     have ne:∀ b∈Jk [w] [(σ[j]?).join] 0,b∉a::ps.map (·.1):=λ b hb z=>hj (A.sep i j b (hL b z) (by rw [Jbc ew];exact hb))
     cases w with
     | jnk=>trivial
     | jar=>exact q
     | tape=>exact q
     | d x=>obtain ⟨v,e,r⟩:=q;exact ⟨v,e,Rep.mono hsub r⟩
     | pin v x=>obtain ⟨e,r⟩:=q;exact ⟨e,Rep.mono hsub r⟩
     | own ys=>obtain ⟨b,ws,e,g1,g2,g3,g4,g5⟩:=q;exact ⟨b,ws,e,g1,g2,Reps.mono hsub g3,hin b g4 (ne b (by rw [e];exact Qi)),g5⟩
     | dct kvs=>obtain ⟨b,ws,e,g1,⟨g2,g3⟩,g4,g5⟩:=q;exact ⟨b,ws,e,g1,⟨g2,Reps.mono hsub g3⟩,hin b g4 (ne b (by rw [e];exact Qi)),g5⟩
     | own2 ks qs=>obtain ⟨b,e,q⟩:=q;exact ⟨b,e,q.h,q.z,q.k,q.nd,hin b q.m (ne b (by rw [e];exact Qi)),q.c,λ p hp=>let w:=q.i p hp;⟨hin p.1 w.m (ne p.1 (by rw [e];exact Qj _ (Qn.mpr ⟨p,hp,rfl⟩))),w.c,let ⟨vs,h1,h2,h3⟩:=w.h;⟨vs,h1,h2,Reps.mono hsub h3⟩⟩⟩
 . exact A.al0 b hb (A.new i b (hL b z))
theorem At.fzh (A:At C ex env σ H n) {i:Nat}{ps:List (Addr×List J9h)}(h:env[i]? = some (.own2 none ps)):∃ ex',At C ex' (env.set i (.own (ps.map λ p=>.list p.2))) σ H n:=by
 obtain ⟨a,e,o⟩:=A.ev.sl i _ h
 have hL:∀ b∈ps.map (·.1),b∈Jk env σ i:=λ b hb=>by unfold Jk;rw [h,e];exact Qj _ hb
 have hsub:∀ b∈ex.filter (λ b=>decide (b∉ps.map (·.1))),b∈ex:=λ b hb=>(Xm.mp hb).1
 have hin:∀ b∈ex,b∉ps.map (·.1)->b∈ex.filter (λ b=>decide (b∉ps.map (·.1))):=λ b hb hn=>Xm.mpr ⟨hb,decide_eq_true hn⟩
 have hn:∀ b∈ps.map (·.1),b∉ex.filter (λ b=>decide (b∉ps.map (·.1))):=λ b hb z=>(of_decide_eq_true (Xm.mp z).2) hb
 have hc:∀ b∈ps.map (·.1),b∉C.S.ch:=λ b hb=>by
  obtain ⟨p,hp,rfl⟩:=Qn.mp hb;exact (o.i p hp).c
 have ha:a∈Jk env σ i:=by unfold Jk;rw [h,e];exact Qi
 have hna:a∉ps.map (·.1):=(Xq.mp o.nd).1
 have oo:∀ j b,b∈Jk (env.set i (.own (ps.map λ p=>.list p.2))) σ j->b∈Jk env σ j/\b∉ps.map (·.1):=λ j b hb=>by
  by_cases hj:i=j
  . subst hj
    unfold Jk at hb
    rw [Q2 (Qp.mp h).1,e] at hb
    have hb':b=a:=Qs.mp hb
    rw [hb']
    exact ⟨ha,hna⟩
  . have:Jk (env.set i (.own (ps.map λ p=>.list p.2))) σ j=Jk env σ j:=by unfold Jk;rw [Q3 hj]
    rw [this] at hb
    exact ⟨hb,λ z=>hj (A.sep i j b (hL b z) hb)⟩
 refine ⟨ex.filter λ b=>decide (b∉ps.map (·.1)),⟨by rw [Qr];exact A.ev.len,λ j w ew=>?_,λ b hb=>hin b (A.ev.ch b hb) λ z=>hc b z hb,λ b hb=>A.ev.al b (hsub b hb),A.ev.inv⟩,λ b hb=>hin b (A.ex0 b hb) λ z=>?_,A.al0,λ j k b q1 q2=>A.sep j k b (oo j b q1).1 (oo k b q2).1,λ j b q=>A.new j b (oo j b q).1,A.kp,λ x hx=>Rep.mono hsub (A.held x hx)⟩
 . by_cases hj:i=j
   . subst hj
     rw [Q2 (Qp.mp h).1] at ew
     cases ew
     refine ⟨a,Yx ps,e,o.h,by unfold Yx;rw [Qb,J9n];have:=o.z;omega,?_,hin a o.m hna,o.c⟩
     have:∀ qs:List (Addr×List J9h),(∀ q∈qs,q∈ps)->Reps (ex.filter λ b=>decide (b∉ps.map (·.1))) H (qs.map λ p=>X4 p.2) (Yx qs):=by
      intro qs
      induction qs with
      | nil=>exact λ _=>.nil
      | cons q qs ih=>
       intro hq
       have hm:=hq q Qi
       obtain ⟨vs,g1,g2,g3⟩:=(o.i q hm).h
       exact .cons (.list g1 (hn q.1 (Qn.mpr ⟨q,hm,rfl⟩)) g2 (Reps.mono hsub g3)) (ih λ x hx=>hq x (Qj _ hx))
     exact this ps λ _ h=>h
   . rw [Q3 hj] at ew
     have q:=A.ev.sl j w ew
     have ne:∀ b∈Jk [w] [(σ[j]?).join] 0,b∉ps.map (·.1):=λ b hb z=>hj (A.sep i j b (hL b z) (by rw [Jbc ew];exact hb))
     cases w with
     | jnk=>trivial
     | jar=>exact q
     | tape=>exact q
     | d x=>obtain ⟨v,e,r⟩:=q;exact ⟨v,e,Rep.mono hsub r⟩
     | pin v x=>obtain ⟨e,r⟩:=q;exact ⟨e,Rep.mono hsub r⟩
     | own ys=>obtain ⟨b,ws,e,g1,g2,g3,g4,g5⟩:=q;exact ⟨b,ws,e,g1,g2,Reps.mono hsub g3,hin b g4 (ne b (by rw [e];exact Qi)),g5⟩
     | dct kvs=>obtain ⟨b,ws,e,g1,⟨g2,g3⟩,g4,g5⟩:=q;exact ⟨b,ws,e,g1,⟨g2,Reps.mono hsub g3⟩,hin b g4 (ne b (by rw [e];exact Qi)),g5⟩
     | own2 ks qs=>obtain ⟨b,e,q⟩:=q;exact ⟨b,e,q.h,q.z,q.k,q.nd,hin b q.m (ne b (by rw [e];exact Qi)),q.c,λ p hp=>let w:=q.i p hp;⟨hin p.1 w.m (ne p.1 (by rw [e];exact Qj _ (Qn.mpr ⟨p,hp,rfl⟩))),w.c,let ⟨vs,h1,h2,h3⟩:=w.h;⟨vs,h1,h2,Reps.mono hsub h3⟩⟩⟩
 . exact A.al0 b hb (A.new i b (hL b z))
theorem At.jnk (A:At C ex env σ H n) (i:Nat):At C ex (env.set i .jnk) σ H n:=by
 have oo:∀ j b,b∈Jk (env.set i .jnk) σ j->b∈Jk env σ j:=λ j b hb=>by
  by_cases hj:i=j
  . subst hj
    unfold Jk at hb
    by_cases hl:i<env.length
    . rw [Q2 hl] at hb;cases hb
    . rw [Qy (by rw [Qr];omega)] at hb;cases hb
  . have:Jk (env.set i .jnk) σ j=Jk env σ j:=by unfold Jk;rw [Q3 hj]
    rw [this] at hb
    exact hb
 refine A.bind ⟨by rw [Qr];exact A.ev.len,λ j w e=>?_,A.ev.ch,A.ev.al,A.ev.inv⟩ oo
 by_cases hj:i=j
 . subst hj
   have hl:i<env.length:=by
    have:=(Qp.mp e).1
    rw [Qr] at this;exact this
   rw [Q2 hl] at e
   cases e
   trivial
 . rw [Q3 hj] at e
   exact A.ev.sl j w e
theorem At.fz {env':List Vl}(f:Fz env env'):∀ {ex:List Addr},At C ex env σ H n->∃ ex',At C ex' env' σ H n:=by
 induction f with
 | refl=>exact λ A=>⟨_,A⟩
 | fz i xs h t ih=>exact λ A=>let ⟨_,B⟩:=A.fz1 h;ih B
 | jnk i t ih=>exact λ A=>ih (A.jnk i)
 | fz2 i ps h t ih=>exact λ A=>let ⟨_,B⟩:=A.fz2 h;ih B
 | fzh i ps h t ih=>exact λ A=>let ⟨_,B⟩:=A.fzh h;ih B
end
section
variable {te ta:TE}{ge ga:GE}{gn:GN}{t u tb:TS}{gt gu gb:GS}{i j:Nat}{K:Qc}
instance sv_next:SV Jrx (λ G env n=>G.nx env n):=⟨λ {C G D} O {ex env σ H n} A h=>O.nx A h⟩
instance sv_never:SV Jr0 (λ _ _ _=>False):=⟨λ {C G D} O {ex env σ H n} A h=>h⟩
abbrev Jzf (t u:GS):GS:=λ G env n=>t { G with nx:=λ env1 n1=>∃ env2,Fz env1 env2/\u G env2 n1 } env n
instance sv_seq [T:SV t gt] [U:SV u gu]:SV (Jas t u) (Jzf gt gu):=⟨λ {C G D} O {ex env σ H n} A h=>by
 refine T.sv (C:=C) (G:={ G with nx:=λ env1 n1=>∃ env2,Fz env1 env2/\gu G env2 n1 }) (D:={ D with nx:=u D }) ⟨λ {ex1 env1 σ1 H1 n1} A1 h1=>?_,O.bk,O.ct,O.rt,O.rtn,O.xc,O.r2⟩ A h
 obtain ⟨env2,f,h2⟩:=h1
 obtain ⟨ex2,A2⟩:=A1.fz f
 exact U.sv O A2 h2⟩
abbrev J2n (i:Nat) (g:GE):GS:=λ G env n=>g env n λ d n1=>G.nx (env.set i (.d d)) n1
abbrev Jxv (i:Nat) (g:GN):GS:=λ G env n=>g env n λ ds n1=>G.nx (env.set i (.own ds)) n1
instance sv_setN [E:NV te gn]:SV (Jdo te (Bm i)) (Jxv i gn):=⟨λ {C G D} O {ex env σ H n} A h=>E.nv A.ev h λ ds n1 a vs H1 h1 s1 ha hl hz r=>O.nx (A.own s1 ha hl hz r) h1⟩
instance (priority:=low) sv_set [E:EV true te ge]:SV (Jdo te (Bm i)) (J2n i ge):=⟨λ {C G D} O {ex env σ H n} A h=>E.ev A.ev h λ d n1 v H1 h1 s1 r=>O.nx ((A.step s1).put r) h1⟩
instance sv_setC {wi:TI}{k:Nat}{idx:List Nat}{g:TG}{tt:TT} [E:NV (Jau wi k idx g tt te) gn]:SV (Bf i wi k idx g tt te) (Jxv i gn):=⟨λ {C G D} O {ex env σ H n} A h=>
 show Jau wi k idx g tt te σ H (λ v H2=>D.nx (σ.set i (some v)) H2) from E.nv A.ev h λ ds n1 a vs H1 h1 s1 ha hl hz r=>O.nx (A.own s1 ha hl hz r) h1⟩
abbrev J2o (bd:GG) (g:GE):GS:=λ G env n=>g env n λ d n1=>bd d env λ env1=>G.nx env1 n1
instance (priority:=low) sv_asg {g:TG}{bd:GG}{ks:List Nat} [E:EV true te ge] [B:GV g bd ks]:SV (Jdo te g) (J2o bd ge):=⟨λ {C G D} O {ex env σ H n} A h=>E.ev A.ev h λ d n1 v H1 h1 s1 r=>
 B.gv (A.step s1).ev r h1 λ env' σ' p E' o _ _=>O.nx ((A.step s1).bind E' o) p⟩
abbrev J2p (g:GE):GS:=λ G env n=>g env n λ d n1=>G.rt d n1
abbrev J1i (g:GN):GS:=λ G env n=>g env n λ ds n1=>G.rtn ds n1
abbrev Jxw (i:Nat):GS:=λ G env n=>match env[i]? with
 | some (.d x)=>G.rt x n
 | some (.own xs)=>G.rtn xs n
 | _=>False
instance (priority:=low) sv_ret [E:EV true te ge]:SV (Jrz te) (J2p ge):=⟨λ {C G D} O {ex env σ H n} A h=>E.ev A.ev h λ d n1 v H1 h1 s1 r=>O.rt ⟨(A.step s1).kp,s1.2,Rep.mono A.ex0 r⟩ h1⟩
instance sv_retN [E:NV te gn]:SV (Jrz te) (J1i gn):=⟨λ {C G D} O {ex env σ H n} A h=>E.nv A.ev h λ ds n1 a vs H1 h1 s1 ha hl hz r=>
 O.rtn ⟨(A.step s1).kp,s1.2,A.free ha,vs,hl,hz,Reps.mono (λ b hb=>(Qf.mp hb).elim (λ e=>by rw [e];exact Qi) λ h=>Qj _ (A.ex0 b h)) r⟩ h1⟩
instance (priority:=high) sv_retV:SV (Jrz (Zv i)) (Jxw i):=⟨λ {C G D} O {ex env σ H n} A h=>by
 unfold Jxw at h
 split at h
 . rename_i x e
   obtain ⟨v,ev,r⟩:=A.ev.sl i _ e
   exact ⟨v,Jm ev,O.rt ⟨A.kp,A.ev.inv,Rep.mono A.ex0 r⟩ h⟩
 . rename_i xs e
   obtain ⟨a,vs,ev,h1,h2,h3,h4,h5⟩:=A.ev.sl i _ e
   have ha:a∈Jk env σ i:=by unfold Jk;rw [e,ev];exact Qs.mpr rfl
   obtain ⟨ex',A'⟩:=A.fz1 e
   obtain ⟨v',ev',r'⟩:=A'.ev.sl i _ (Q2 (Qp.mp e).1)
   rw [ev] at ev'
   cases ev'
   have:=A.new i a ha
   refine ⟨_,Jm ev,O.rtn ⟨A.kp,A.ev.inv,this,vs,h1,h2,Reps.mono (λ b hb=>?_) h3⟩ h⟩
   rcases Qf.mp hb with rfl | hb
   . exact h4
   . exact A.ex0 b hb
 . exact h.elim⟩
abbrev J2q (c:GT) (t u:GS):GS:=λ G env n=>c env n λ b n1=>if b=true then t G env n1 else u G env n1
instance sv_if {c:TT}{gc:GT} [X:TV c gc] [T:SV t gt] [U:SV u gu]:SV (J0h c t u) (J2q gc gt gu):=⟨λ {C G D} O {ex env σ H n} A h=>X.tv A.ev h λ b n1 H1 h1 s1=>by
 cases b with
 | true=>exact T.sv O (A.step s1) h1
 | false=>exact U.sv O (A.step s1) h1⟩
abbrev J2r (gi:GN) (bd:GG) (gb:GS):GS:=λ G env n=>gi env n λ items n1=>∃ W:Nat->List Vl->Nat->Prop,W 0 env n1 /\
 (∀ i x env n,items[i]? = some x->W i env n->bd x env λ env1=>gb { G with nx:=W (i+1),ct:=W (i+1),bk:=G.nx } env1 n)/\∀ env n,W items.length env n->G.nx env n
instance sv_for {wi:TI}{gi:GN}{g:TG}{bd:GG}{ks:List Nat} [I:IV wi gi] [B:GV g bd ks] [T:SV tb gb]:SV (J0m wi g tb) (J2r gi bd gb):=⟨λ {C G D} O {ex env σ H n} A h=>I.iv A.ev h λ items n1 J hd H1 h1 s1 hr hit=>by
 obtain ⟨W,w0,wt,wd⟩:=h1
 have A1:=A.step s1
 have dropd:∀ {ex2 env2 σ2 H2 n2},At { C with held:=hd++C.held } ex2 env2 σ2 H2 n2->At C ex2 env2 σ2 H2 n2:=λ {_ _ _ _ _} B=>⟨B.ev,B.ex0,B.al0,B.sep,B.new,B.kp,λ h hh=>B.held h (Xf _ hh)⟩
 refine ⟨λ i m σ2 H2=>i<=items.length/\m=items.length-i/\∃ ex2 env2 n2,At { C with held:=hd++C.held } ex2 env2 σ2 H2 n2/\W i env2 n2,⟨_,Xz _,rfl,ex,env,n1,⟨A1.ev,A1.ex0,A1.al0,A1.sep,A1.new,A1.kp,λ h hh=>(Q8.mp hh).elim (hr h) (A1.held h)⟩,w0⟩,?_⟩
 rintro i m σ2 H2 ⟨hi,rfl,ex2,env2,n2,A2,w2⟩
 have IT:=hit ex2 H2 A2.ev.al λ h hh=>A2.held h (Xn _ hh)
 rcases X1 i items.length with hlt | hge
 . refine .inr ⟨(IT.2 i items[i] (Qd hlt)).1,λ σ' H'=>∃ ex3 env3 n3,At { C with held:=hd++C.held } ex3 env3 σ' H' n3/\W (i+1) env3 n3,λ σ' H' h=>⟨items.length-(i+1),by omega,hlt,rfl,h⟩,λ x H3 y=>?_⟩
   obtain ⟨kp3,rx⟩:=(IT.2 i items[i] (Qd hlt)).2 x H3 y
   have A3:=A2.step (Yv.new A2.ev.inv kp3)
   refine B.gv A3.ev rx (wt i _ env2 n2 (Qd hlt) w2) λ env' σ' p E' o _ _=>?_
   refine T.sv (C:={ C with held:=hd++C.held }) (G:={ G with nx:=W (i+1),ct:=W (i+1),bk:=G.nx }) (D:={ D with nx:=λ σ' H'=>∃ ex3 env3 n3,At { C with held:=hd++C.held } ex3 env3 σ' H' n3/\W (i+1) env3 n3,ct:=λ σ' H'=>∃ ex3 env3 n3,At { C with held:=hd++C.held } ex3 env3 σ' H' n3/\W (i+1) env3 n3,bk:=D.nx }) ⟨λ A4 w4=>⟨_,_,_,A4,w4⟩,λ A4 q4=>O.nx (dropd A4) q4,λ A4 w4=>⟨_,_,_,A4,w4⟩,λ R q=>O.rt ⟨R.kp,R.inv,R.r⟩ q,λ R q=>O.rtn ⟨R.kp,R.inv,R.fr,R.r⟩ q,O.xc,λ R q=>O.r2 ⟨R.kp,R.inv,R.fr,R.frs,R.o⟩ q⟩ (A3.bind E' o) p
 . have e:i=items.length:=by omega
   subst e
   exact .inl ⟨IT.1,O.nx (dropd A2) (wd _ _ w2)⟩⟩
abbrev Jzg (c:GT) (gb:GS):GS:=λ G env n=>∃ W:Nat->List Vl->Nat->Prop,(∃ m,W m env n)/\∀ m env n,W m env n->c env n λ b n1=>
 if b=true then gb { G with nx:=λ env1 n2=>∃ m',m'<m/\W m' env1 n2,ct:=λ env1 n2=>∃ m',m'<m/\W m' env1 n2,bk:=G.nx } env n1 else G.nx env n1
instance sv_while {c:TT}{gc:GT} [X:TV c gc] [T:SV tb gb]:SV (Jr3 c tb) (Jzg gc gb):=⟨λ {C G D} O {ex env σ H n} A h=>by
 obtain ⟨W,⟨m0,w0⟩,wt⟩:=h
 refine ⟨λ m σ2 H2=>∃ ex2 env2 n2,At C ex2 env2 σ2 H2 n2/\W m env2 n2,⟨m0,ex,env,n,A,w0⟩,?_⟩
 rintro m σ2 H2 ⟨ex2,env2,n2,A2,w2⟩
 refine X.tv A2.ev (wt m env2 n2 w2) λ b n3 H3 h3 s3=>?_
 cases b with
 | true=>
  refine W9 ⟨λ σ' H'=>∃ m',m'<m/\∃ ex2 env2 n2,At C ex2 env2 σ' H' n2/\W m' env2 n2,λ σ' H' h=>h,?_⟩
  exact T.sv (C:=C) (G:={ G with nx:=λ env1 n2=>∃ m',m'<m/\W m' env1 n2,ct:=λ env1 n2=>∃ m',m'<m/\W m' env1 n2,bk:=G.nx }) (D:={ D with nx:=λ σ' H'=>∃ m',m'<m/\∃ ex2 env2 n2,At C ex2 env2 σ' H' n2/\W m' env2 n2,ct:=λ σ' H'=>∃ m',m'<m/\∃ ex2 env2 n2,At C ex2 env2 σ' H' n2/\W m' env2 n2,bk:=D.nx }) ⟨λ A4 ⟨m',hm,w4⟩=>⟨m',hm,_,_,_,A4,w4⟩,λ A4 q4=>O.nx A4 q4,λ A4 ⟨m',hm,w4⟩=>⟨m',hm,_,_,_,A4,w4⟩,O.rt,O.rtn,O.xc,O.r2⟩ (A2.step s3) h3
 | false=>exact Jbv (O.nx (A2.step s3) h3)⟩
theorem At.at_own {C:Cv}{ex:List Addr}{env:List Vl}{σ:L2.St}{H:Hp}{n:Nat}(A:At C ex env σ H n) {i:Nat}{xs:List J9h}(e:env[i]? = some (.own xs)):∃ a vs,(σ[i]?).join=some (.ref a)/\H a=some (.lst vs)/\vs.length<=sizeLine/\Reps ex H xs vs:=by
 obtain ⟨a,vs,ev,h1,h2,h3,h4,h5⟩:=A.ev.sl i _ e
 exact ⟨a,vs,ev,h1,h2,h3⟩
abbrev J1j (i:Nat) (g:GE):GS:=λ G env n=>match env[i]? with
 | some (.own xs)=>g env n λ d n1=>xs.length<sizeLine/\G.nx (env.set i (.own (xs++[d]))) n1
 | _=>False
theorem Jdw {C:Cv}{ex:List Addr}{env:List Vl}{σ:L2.St}{H H1:Hp}{n n1:Nat}{i:Nat}{xs:List J9h}{a:Addr}{vs:List V}(A:At C ex env σ H n) (e:env[i]? = some (.own xs)) (ev:(σ[i]?).join=some (.ref a)) (h1:H a=some (.lst vs)) (r:Reps ex H xs vs) (s:Yv C.S n1 H H1):H1 a=some (.lst vs)/\Reps ex H1 xs vs:=by
 have ha:a∈Jk env σ i:=by unfold Jk;rw [e,ev];exact Qs.mpr rfl
 exact ⟨s.1 _ _ h1 (Jam A.ev ha).2.2,A.ev.reps s r⟩
instance sv_app [E:EV true te ge]:SV (Jry (tBM K "list" Jj0 (Zv i) (Yq te Jbr))) (J1j i ge):=⟨λ {C G D} O {ex env σ H n} A h=>by
 unfold J1j at h
 split at h
 . rename_i xs e
   obtain ⟨a,vs,ev,h1,h2,h3⟩:=A.at_own e
   refine ⟨_,Jm ev,.inl ⟨rfl,_,SqL.of h1⟩,E.ev A.ev h λ d n1 v H1 hd s1 r=>?_⟩
   obtain ⟨g1,g2⟩:=Jdw A e ev h1 h3 s1
   have l:=g2.length
   exact ⟨a,vs,v,rfl,rfl,g1,by rw [<- l];exact hd.1,O.nx ((A.step s1).re e ev (Reps.append g2 (.cons r .nil)) (by rw [Q7,Uj,<- l];exact hd.1)) hd.2⟩
 . exact h.elim⟩
theorem Jdx {ex:List Addr}{H:Hp}{d:J9h}{v:V}(r:Rep ex H d v):∀ {ds:List J9h}{vs:List V}(k:Nat),Reps ex H ds vs->Reps ex H (ds.set k d) (vs.set k v)
 | _,_,_,.nil=>.nil
 | _,_,0,.cons _ t=>.cons r t
 | _,_,k+1,.cons q t=>.cons q (Jdx r k t)
abbrev J1k (i:Nat) (gx ge:GE):GS:=λ G env n=>ge env n λ d n1=>match env[i]? with
 | some (.own xs)=>gx env n1 λ k n2=>(match k with
  | .int z=>∃ m,ixN xs.length z=some m/\G.nx (env.set i (.own (xs.set m d))) n2
  | _=>False)
 | _=>False
instance sv_setI {tx:TE}{gx:GE} [E:EV true te ge] [X:EV true tx gx]:SV (Jdo te (Jni (Zv i) tx Jfk)) (J1k i gx ge):=⟨λ {C G D} O {ex env σ H n} A h=>by
 refine E.ev A.ev h λ d n1 v H1 hd s1 r=>?_
 have A1:=A.step s1
 split at hd
 . rename_i xs e
   obtain ⟨a,vs,ev,h1,h2,h3⟩:=A1.at_own e
   refine ⟨_,Jm ev,X.ev A1.ev hd λ k n2 kv H2 hk s2 rk=>?_⟩
   obtain ⟨g1,g2⟩:=Jdw A1 e ev h1 h3 s2
   have l:=g2.length
   cases rk with
   | int z=>
    obtain ⟨m,hm,q⟩:=hk
    exact ⟨a,vs,z,m,rfl,rfl,g1,by rw [<- l];exact hm,O.nx ((A1.step s2).re e ev (Jdx (A1.ev.rep s2 r) m g2) (by rw [Qr];exact h2)) q⟩
   | none=>exact hk.elim
   | obj=>exact hk.elim
   | bool=>exact hk.elim
   | str=>exact hk.elim
   | tuple=>exact hk.elim
   | list=>exact hk.elim
 . exact hd.elim⟩
abbrev Jxx (i:Nat) (gx ge:GE) (f:Int->Int->Int):GS:=λ G env n=>match env[i]? with
 | some (.own xs)=>gx env n λ k n1=>(match k with
  | .int z=>∃ x:Int,0<=z/\xs[z.toNat]? = some (.int x)/\ge env n1 λ d n2=>(match d with
   | .int y=>G.nx (env.set i (.own (xs.set z.toNat (.int (f x y))))) n2
   | _=>False)
  | _=>False)
 | _=>False
instance sv_augI {tx:TE}{gx:GE}{f:Int->Int->Int} [E:EV true te ge] [X:EV true tx gx]:SV (Jw9 (Zv i) tx te (Jxn K) (ipI f) Jfk) (Jxx i gx ge f):=⟨λ {C G D} O {ex env σ H n} A h=>by
 unfold Jxx at h
 split at h
 . rename_i xs e
   obtain ⟨a,vs,ev,h1,h2,h3⟩:=A.at_own e
   refine ⟨_,Jm ev,X.ev A.ev h λ k n1 kv H1 hk s1 rk=>?_⟩
   obtain ⟨g1,g2⟩:=Jdw A e ev h1 h3 s1
   have A1:=A.step s1
   cases rk with
   | int z=>
    obtain ⟨x,hz,hx,q⟩:=hk
    obtain ⟨u,hu,ru⟩:=g2.get hx
    cases ru
    refine ⟨a,vs,z,_,rfl,rfl,hz,SqL.of g1,hu,E.ev A1.ev q λ d n2 v H2 hd s2 r=>?_⟩
    obtain ⟨f1,f2⟩:=Jdw A1 e ev g1 g2 s2
    have l:=f2.length
    have hlt:=(Qp.mp hu).1
    cases r with
    | int y=>exact ⟨x,y,rfl,rfl,a,vs,z,z.toNat,rfl,rfl,f1,Jba hz (by omega),O.nx ((A1.step s2).re e ev (Jdx (.int _) _ f2) (by rw [Qr];exact h2)) hd⟩
    | none=>exact hd.elim
    | obj=>exact hd.elim
    | bool=>exact hd.elim
    | str=>exact hd.elim
    | tuple=>exact hd.elim
    | list=>exact hd.elim
   | none=>exact hk.elim
   | obj=>exact hk.elim
   | bool=>exact hk.elim
   | str=>exact hk.elim
   | tuple=>exact hk.elim
   | list=>exact hk.elim
 . exact h.elim⟩
end
theorem B1.len {S:Src}{ex:List Addr}{H:Hp}:∀ {as:List Vl}{vs:List V},B1 S ex H as vs->as.length=vs.length
 | [],[],_=>rfl
 | _::_,_::_,h=>by rw [Ub,Ub,B1.len h.2]
 | [],_::_,h=>h.elim
 | _::_,[],h=>h.elim
theorem B1.get {S:Src}{ex:List Addr}{H:Hp}:∀ {as:List Vl}{vs:List V}{i:Nat}{w:Vl},B1 S ex H as vs->as[i]? = some w->∃ v,vs[i]? = some v/\SlR S ex H w (some v)
 | [],[],_,_,_,e=>by simp at e
 | _::_,v::_,0,_,h,e=>by simp at e;subst e;exact ⟨v,rfl,h.1⟩
 | _::_,_::_,i+1,_,h,e=>by simpa using B1.get (i:=i) h.2 (by simpa using e)
 | [],_::_,_,_,h,_=>h.elim
 | _::_,[],_,_,h,_=>h.elim
noncomputable def Jgz:Vl->Bool
 | .own _ | .dct _ | .own2 _ _=>false
 | _=>true
noncomputable def Jfp (N:List Str) (as:List Vl):List Vl:=as++Qw (N.length-as.length) .jnk
theorem Jg0 {S:Src}{ex:List Addr}{H:Hp}{as:List Vl}{vs:List V}{n:Nat}{N:List Str}(r:B1 S ex H as vs) (hp:as.all Jgz=true) (hc:∀ a∈S.ch,a∈ex) (al:Alc ex H) (iv:S.inv n H):At ⟨S,ex,H,[]⟩ ex (Jfp N as) (start N vs) H n:=by
 have l:=r.len
 have no:∀ i,Jk (Jfp N as) (start N vs) i=[]:=λ i=>by
  unfold Jk Jfp
  cases e:(as++Qw (N.length-as.length) Vl.jnk)[i]? with
  | none=>rfl
  | some w=>
   have:w∈as++Qw (N.length-as.length) Vl.jnk:=Xg e
   have hw:Jgz w=true:=by
    rcases Q8.mp this with h | h
    . exact X3.mp hp w h
    . rw [(J24.mp h).2];rfl
   cases w with
   | own _=>cases hw
   | dct _=>cases hw
   | own2 _ _=>cases hw
   | _=>rfl
 refine ⟨⟨?_,λ i w e=>?_,hc,al,iv⟩,λ a h=>h,al,λ i j a h=>?_,λ i a h=>?_,.refl,λ h hh=>by cases hh⟩
 . unfold Jfp L2.start
   rw [Q7,Q7,Uc,Uc,Qb,l];exact Qm _
 . unfold Jfp at e
   by_cases hi:i<as.length
   . rw [Uo hi] at e
     obtain ⟨v,hv,sr⟩:=r.get e
     have:(start N vs)[i]? = some (some v):=by
      unfold L2.start
      rw [Uo (by rw [Qb,<- l];exact hi),Qh,hv];rfl
     rw [this]
     exact sr
   . rw [U2 (J3k hi)] at e
     have:w = .jnk:=(J24.mp (Xg e)).2
     subst this
     trivial
 . rw [no] at h;cases h
 . rw [no] at h;cases h
noncomputable def Jxy (P:J9h->Nat->Prop):VEnds:={ nx:=λ _ n=>P .none n,rt:=P,rtn:=λ ds n=>P (.list ds) n,rt2:=λ xss n=>P (.list (xss.map .list)) n }
noncomputable def Jxz (P:List J9h->Nat->Prop):VEnds:={ nx:=λ _ _=>False,rt:=λ _ _=>False,rtn:=P }
theorem Jsz {C:Cv}{ps:List (Addr×List J9h)}{n:Nat}{a:Addr}{H:Hp}(al:Alc C.ex0 C.H0) (R:Ret2 C ps n a H):Rep C.ex0 H (.list ((ps.map (·.2)).map .list)) (.ref a):=by
 refine .list R.o.h (al.nm R.fr) (by unfold Yx;rw [Qb,J9n];have:=R.o.z;omega) ?_
 have:∀ qs:List (Addr×List J9h),(∀ q∈qs,q∈ps)->Reps C.ex0 H ((qs.map (·.2)).map .list) (Yx qs):=by
  intro qs
  induction qs with
  | nil=>exact λ _=>.nil
  | cons q qs ih=>
   intro hq
   have hm:=hq q Qi
   obtain ⟨vs,g1,g2,g3⟩:=(R.o.i q hm).h
   exact .cons (.list g1 (al.nm (R.frs q hm)) g2 (Reps.mono (λ b hb=>Xf _ hb) g3)) (ih λ x hx=>hq x (Qj _ hx))
 exact this ps λ _ h=>h
theorem Ju {sp:GSp}{gs:GS}{ts:TS}{N:List Str}{vs:List V}{H:Hp}{Q:VK}{E:XK} [T:SV ts gs] (h:Jj sp vs H Q E) (hs:∀ as n P,sp as n P->as.all Jgz=true/\gs (Jxy P) (Jfp N as) n):ts { nx:=λ _ H'=>Q .non H',rt:=Q } (start N vs) H:=by
 obtain ⟨S,ex,as,n,P,r,hc,al,iv,p,q⟩:=h
 obtain ⟨hp,g⟩:=hs as n P p
 refine T.sv (C:=⟨S,ex,H,[]⟩) (G:=Jxy P) ⟨λ {ex' env σ H' n'} A h=>?_,λ _ h=>h.elim,λ _ h=>h.elim,λ R h=>?_,λ {ds n' a H'} R h=>?_,λ _ _ h=>h.elim,λ {ps n' a H'} R h=>?_⟩ (Jg0 r hp hc al iv) g
 . exact q _ _ _ _ h ⟨A.kp,A.ev.inv⟩ .none
 . exact q _ _ _ _ h ⟨R.kp,R.inv⟩ R.r
 . obtain ⟨ws,h1,h2,h3⟩:=R.r
   exact q _ _ _ _ h ⟨R.kp,R.inv⟩ (.list h1 (al.nm R.fr) h2 (Reps.sub h3))
 . exact q _ _ _ _ h ⟨R.kp,R.inv⟩ (Jsz al R)
theorem Wp {sp:GSn}{gs:GS}{ts:TS}{N:List Str}{vs:List V}{H:Hp}{Q:VK}{E:XK} [T:SV ts gs] (h:Zh sp vs H Q E) (hs:∀ as n P,sp as n P->as.all Jgz=true/\gs (Jxz P) (Jfp N as) n):ts { nx:=λ _ H'=>Q .non H',rt:=Q } (start N vs) H:=by
 obtain ⟨S,ex,as,n,P,r,hc,al,iv,p,q⟩:=h
 obtain ⟨hp,g⟩:=hs as n P p
 refine T.sv (C:=⟨S,ex,H,[]⟩) (G:=Jxz P) ⟨λ _ h=>h.elim,λ _ h=>h.elim,λ _ h=>h.elim,λ _ h=>h.elim,λ {ds n' a H'} R h=>?_,λ _ _ h=>h.elim,λ _ h=>h.elim⟩ (Jg0 r hp hc al iv) g
 obtain ⟨ws,h1,h2,h3⟩:=R.r
 exact q _ _ _ _ _ h ⟨R.kp,R.inv⟩ R.fr h1 h2 h3
theorem Jx {sp:GSp}{k:Nat}(h:∀ as n P,sp as n P->as.length=k):∀ vs H Q E,Jj sp vs H Q E->vs.length=k:=λ vs H Q E ⟨S,ex,as,n,P,r,_,_,_,p,_⟩=>by rw [<- r.len];exact h _ _ _ p
theorem Vp {sp:GSn}{k:Nat}(h:∀ as n P,sp as n P->as.length=k):∀ vs H Q E,Zh sp vs H Q E->vs.length=k:=λ vs H Q E ⟨S,ex,as,n,P,r,_,_,_,p,_⟩=>by rw [<- r.len];exact h _ _ _ p
section
variable {turn:J9h->Nat->(Option J9h->Nat->Prop)->Prop}{items:List J9h}{n:Nat}{Q:List J9h->Nat->Prop}
end
theorem Fz.eq {a b:List Vl}(h:a=b):Fz a b:=h ▸ .refl
noncomputable abbrev Jvu (ns:List Int):J9h:=.list (ns.map .int)
theorem J1l {S:Src}{ex:List Addr}{H:Hp}{a b:Vl}{vs:List V}(h:B1 S ex H [a,b] vs):∃ u v,vs=[u,v]/\SlR S ex H a (some u)/\SlR S ex H b (some v):=by
 match vs,h with
 | [u,v],h=>exact ⟨u,v,rfl,h.1,h.2.1⟩
 | [],h=>exact h.elim
 | [_],h=>exact h.2.elim
 | _::_::_::_,h=>exact h.2.2.elim
theorem Yl {α:Type}{xs:List α}{i:Int}{d:α}(h0:0<=i) (h:xs[i.toNat]? = some d):atI xs i=some d:=by
 have:=(Qp.mp h).1
 unfold atI
 rw [Jba h0 (by omega)]
 exact h
class SQ (te:TE) (g:outParam GN):Prop where
 sq:∀ {S:Src} {ex:List Addr} {env:List Vl} {σ:L2.St} {H:Hp} {n:Nat} {Q:VK} {P:List J9h->Nat->Prop},Ev S ex env σ H n->g env n P->(∀ ds n' a vs H',P ds n'->Yv S n' H H'->a∉S.ch->H' a=some (.lst vs)->vs.length<=sizeLine->Reps ex H' ds vs->Q (.ref a) H')->te σ H Q
abbrev gSq (i:Nat):GN:=λ env n Q=>match env[i]? with
 | some (.own xs)=>Q xs n
 | some (.d (.list xs))=>Q xs n
 | _=>False
instance (priority:=high) sq_var {i:Nat}:SQ (Zv i) (gSq i):=⟨λ {S ex env σ H n Q P} E h k=>by
 unfold gSq at h
 split at h
 . rename_i xs e
   obtain ⟨a,vs,ev,h1,h2,h3,h4,h5⟩:=E.sl i _ e
   exact ⟨_,Jm ev,k _ _ _ _ _ h (.refl E.inv) h5 h1 h2 h3⟩
 . rename_i xs e
   obtain ⟨v,ev,r⟩:=E.sl i _ e
   cases r with
   | list e1 m z rs=>exact ⟨_,Jm ev,k _ _ _ _ _ h (.refl E.inv) (λ z=>m (E.ch _ z)) e1 z rs⟩
 . exact h.elim⟩
instance sq_nv {te:TE}{g:GN} [A:NV te g]:SQ te g:=⟨λ {S ex env σ H n Q P} E h k=>A.nv E h λ ds n1 a vs H1 h1 s1 ha hl hz r=>k _ _ _ _ _ h1 s1 (λ z=>S.dom E.inv a z ha) hl hz (Reps.sub r)⟩
abbrev J1m (ga gb:GN):GN:=λ env n Q=>ga env n λ xs n1=>gb env n1 λ ys n2=>xs.length+ys.length<=sizeLine/\Q (xs++ys) n2
instance (priority:=high) nv_catS {ta tb:TE}{ga gb:GN} [A:SQ ta ga] [B:SQ tb gb]:NV (tOp J0p ta tb) (J1m ga gb):=⟨λ {S ex env σ H n Q P} E h k=>
 A.sq E h λ xs n1 a vs H1 h1 s1 na ha hz r1=>B.sq (E.step s1) h1 λ ys n2 b us H2 h2 s2 nb hb hz2 r2=>by
  have r1':=(E.step s1).reps s2 r1
  have l1:=r1'.length
  have l2:=r2.length
  refine ⟨a,b,vs,us,rfl,rfl,s2.1 _ _ ha na,hb,by rw [<- l1,<- l2];exact h2.1,λ p hp=>?_⟩
  obtain ⟨c1,c2,c3⟩:=B2 E (s1.trans s2) hp (Reps.append r1' r2)
  exact k _ _ _ _ _ h2.2 c1 c2 Jh (by rw [Q7,<- l1,<- l2];exact h2.1) c3⟩
abbrev J2s (g:GN) (gl gh:List Vl->Nat->(Option Int->Nat->Prop)->Prop):GN:=λ env n Q=>g env n λ xs n1=>gl env n1 λ lo n2=>gh env n2 λ hi n3=>Q (Jik xs lo hi) n3
instance (priority:=high) nv_slS {K:Qc}{te:TE}{g:GN}{tl th:TO}{gl gh:List Vl->Nat->(Option Int->Nat->Prop)->Prop} [A:SQ te g] [B:OPV tl gl] [C:OPV th gh]:NV (tSl (J0o K) te tl th) (J2s g gl gh):=⟨λ {S ex env σ H n Q P} E h k=>
 A.sq E h λ xs n1 a vs H1 h1 s1 na ha hz r1=>B.op (E.step s1) h1 λ lo n2 H2 h2 s2=>C.op (E.step (s1.trans s2)) h2 λ hi n3 H3 h3 s3=>by
  have r3:=(E.step s1).reps (s2.trans s3) r1
  refine ⟨a,vs,rfl,SqL.of ((s2.trans s3).1 _ _ ha na),λ p hp=>?_⟩
  obtain ⟨c1,c2,c3⟩:=B2 E ((s1.trans s2).trans s3) hp (Jsx r3 lo hi)
  exact k _ _ _ _ _ h3 c1 c2 Jh (Xi (Jfj _ _ _) hz) c3⟩
section
variable {X:Cx}
end
section
variable {K:Qc}{H:Hp}{ex:List Addr}
end
def Jzh {α β:Type}(R:α->β->Prop):List α->List β->Prop
 | [],[]=>True
 | x::xs,y::ys=>R x y/\Jzh R xs ys
 | _,_=>False
noncomputable def fl (u:Nat) (f:Nat->Int):List J9h:=(Ql u).map λ i=>.int (f i)
theorem Jkc (u:Nat) (f:Nat->Int):(fl u f).length=u:=by unfold fl;rw [Qb,Qx]
theorem Jkd {u:Nat}{f:Nat->Int}{i:Nat}(h:i<u):(fl u f)[i]? = some (.int (f i)):=by
 unfold fl;rw [Qh,Xk h];rfl
theorem Js0 {u:Nat}{f g:Nat->Int}(h:∀ i,i<u->f i=g i):fl u f=fl u g:=by
 unfold fl
 exact X5 λ i hi=>by rw [h i (Q6.mp hi)]
theorem B4 {a b:Int}(ha:a.natAbs<2^9000) (hb:b.natAbs<2^9000):IntMulOk a b:=by
 have la:a.natAbs.log2<9000:=by
  by_cases h:a.natAbs=0
  . rw [h];decide
  . exact (J6g h).mpr ha
 have lb:b.natAbs.log2<9000:=by
  by_cases h:b.natAbs=0
  . rw [h];decide
  . exact (J6g h).mpr hb
 unfold IntMulOk
 intro h
 rw [Xw,Xw] at h
 have h3:=h.2
 have e1:J4z a<=9001:=by unfold J4z;split<;>omega
 have e2:J4z b<=9001:=by unfold J4z;split<;>omega
 have hbl:20000<=bitsLine:=by decide +kernel
 unfold Builtin.Int.intTooBig at h3
 simp at h3
 omega
theorem J8 {ws:List Way}{k:Int}(h0:0<=k) (h1:k<ws.length):Jc ws k∈ws:=by
 unfold Jc
 rw [Qg,Qd (by omega)]
 exact Xo _
noncomputable abbrev Jez (U:Int) (f:Nat->Int):J9h:=.tuple (fl U.toNat f)
theorem B5 {ws:List Way}{k:Int}(h0:0<=k) (h1:k<ws.length):atI (ws.map Yk) k=some (Yk (Jc ws k)):=by
 refine Yl h0 ?_
 rw [Qh,Qd (by omega)]
 unfold Jc
 rw [Qg,Qd (by omega)]
 rfl
theorem Jvv {α:Type}{xs:List α}{x:α}(h:xs≠[]) (e:xs.getLast? = some x):atI xs (-1)=some x:=by
 have hl:0<xs.length:=J3m.mpr h
 unfold atI ixN
 rw [if_neg (by omega),if_pos (by omega)]
 show xs[(-1+(xs.length:Int)).toNat]? = some x
 rw [show (-1+(xs.length:Int)).toNat=xs.length-1 by omega,<- J8a]
 exact e
theorem B6 (xs ys:List J9h):(Vh xs ys).length=min xs.length ys.length:=by unfold Vh;exact J4y
theorem Jx0 (U:Int):(Qw U.toNat [Qq 0]).flatten=fl U.toNat λ _=>0:=by
 unfold fl
 induction U.toNat with
 | zero=>rfl
 | succ n ih=>rw [List.replicate_succ',J39,Xd,List.flatten_append,ih];rfl
theorem Vq {turn:J9h->Nat->(Option J9h->Nat->Prop)->Prop}{u n:Nat}{Q:List J9h->Nat->Prop}{e:Nat->J9h}(f:Nat->J9h) (h:∀ i,i<u->∀ n K,K (some (f i)) n->turn (e i) n K) (q:Q ((Ql u).map f) n):Jfy turn ((Ql u).map e) n Q:=by
 have key:∀ (l:List Nat) (n:Nat) (Q:List J9h->Nat->Prop),(∀ i∈l,i<u)->Q (l.map f) n->Jfy turn (l.map e) n Q:=by
  intro l
  induction l with
  | nil=>intro n Q _ q;exact q
  | cons x xs ih=>intro n Q hl q;exact h x (hl x Qi) _ _ (ih _ _ (λ i hi=>hl i (Qj _ hi)) q)
 exact key _ _ _ (λ i hi=>Q6.mp hi) q
theorem Jfq {c:Bool}{A B:Prop}(h:c=true) (a:A):if c=true then A else B:=by rw [if_pos h];exact a
theorem Jcx {c:Bool}{A B:Prop}(h:c=false) (b:B):if c=true then A else B:=by rw [if_neg (by rw [h];exact Xe)];exact b
theorem Jg1 {i j:Int}{Q:J9h->Prop}(h:Q (.bool (decide (i=j)))):fEq false (.int i) (.int j) Q:=h
noncomputable def Js1:VEnds:={ nx:=λ _ _=>False,rt:=λ d _=>d = .bool true,rtn:=λ _ _=>False }
end My
namespace L2
structure FunD (K:Qc) (x qual:Str) (st:Stmt) (f:Addr) (fd:J9s):Prop where
 ex:∃ (oc:J9g) (od:Option Addr) (dV kV doc pm:J9g) (an:Option Addr) (cdv ct:J9g) (osl:Array (Option J9g)),
  fd=X0 x qual (We st) (Zx st) (Je st) dV kV doc pm an cdv ct/\K.lookup f=some ⟨oc,od,.func fd,osl⟩/\J22 K cdv qual=true
 kp:Ui K (.ref f)=true
theorem FunD.ok {P:J9l}{w:J9k}{K:Qc}{mg:Str->Option J9g}{base:Heap}{x qual:Str}{st:Stmt}{f:Addr}{fd:J9s}{N ps:List Str}{k:Nat}{sp:Sp}(F:FunD K x qual st f fd) (S:FnScope N ps (Je st)) (len:∀ vs H Q E,sp vs H Q E->vs.length=ps.length)
 (hbody:∀ (cdv:J9g) (A:J9m) (outer:List Env) (s:J9i) (H:Hp) (vs:List V) (Q:VK) (E:XK),Room k (A.deeper (envOfC qual (Je st) s.heap.objs.size f cdv))->sp vs H Q E ->
  ∃ t,PSs (Jnu CX0 P w K mg base N qual (Je st) f cdv A outer s H E).nox (Zx st) t/\t { nx:=λ _ H'=>Q .non H',rt:=Q } (start N vs) H):FnOk P w K mg base CX0 (k+1) f fd ps sp:=by
 obtain ⟨oc,od,dV,kV,doc,pm,an,cdv,ct,osl,rfl,lk,hcd⟩:=F.ex
 refine Jxe lk hcd S len λ A outer s H vs Q E hr hsp=>?_
 obtain ⟨t,h,q⟩:=hbody cdv A outer s H vs Q E hr hsp
 exact ⟨t,h.nox,q⟩
section
variable {X:Cx}{x:Str}{e:Expr}{es:List Expr}{p pos:Pos}{t:TA}{k:Nat}{ps:List Str}{sp:Sp}{i:Int}
end
end L2
namespace My
open L2
theorem Jl9 {t u:GS}{G:VEnds}{env:List Vl}{n:Nat}(Mid:List Vl->Nat->Prop) (h1:∀ N:List Vl->Nat->Prop,(∀ e k,Mid e k->N e k)->t { G with nx:=N } env n) (h2:∀ e k,Mid e k->∃ e2,Fz e e2/\u G e2 k):Jzf t u G env n:=h1 _ h2
noncomputable abbrev GSx:=List Vl->Nat->(J9h->Nat->Prop)->(Addr->Nat->Prop)->Prop
theorem J1n (xs:List J9h) (u:Nat) (hl:xs.length=u) (h:∀ x∈xs,∃ i:Int,x = .int i):∃ f:Nat->Int,xs=fl u f:=by
 subst hl
 induction xs with
 | nil=>exact ⟨λ _=>0,rfl⟩
 | cons x xs ih=>
  obtain ⟨i,rfl⟩:=h x Qi
  obtain ⟨f,hf⟩:=ih λ y hy=>h y (Qj _ hy)
  refine ⟨λ k=>match k with | 0=>i | k+1=>f k,?_⟩
  unfold fl at hf ⊢
  rw [Ub,J8b,Qz,Qv]
  exact congrArg (Qq i :: ·) hf
noncomputable def putF (f:Nat->Int) (k:Nat) (v:Int):Nat->Int:=λ i=>if i=k then v else f i
theorem Jg2 (u:Nat) (f:Nat->Int) (k:Nat) (v:Int):(fl u f).set k (.int v)=fl u (putF f k v):=by
 apply Xu
 intro i
 unfold fl putF
 rw [J4b,Qh,Qh]
 by_cases hk:k=i
 . subst hk
   rw [if_pos rfl,Qb,Qx]
   by_cases hu:k<u
   . rw [if_pos hu,Xk hu]
     simp
   . rw [if_neg hu,Qy (by simp;omega)]
     rfl
 . rw [if_neg hk]
   by_cases hu:i<u
   . rw [Xk hu]
     simp [show ¬ i=k from λ e=>hk e.symm]
   . rw [Qy (by simp;omega)]
     rfl
theorem Jke {turn:J9h->Nat->(Option J9h->Nat->Prop)->Prop}{u n:Nat}{Q:List J9h->Nat->Prop}{e:Nat->J9h}(p:Nat->Bool) (f:Nat->J9h) (h:∀ i,i<u->∀ n K,(p i=true->K (some (f i)) n)->(p i=false->K none n)->turn (e i) n K) (q:Q (((Ql u).filter p).map f) n):Jfy turn ((Ql u).map e) n Q:=by
 have key:∀ (l:List Nat) (n:Nat) (Q:List J9h->Nat->Prop),(∀ i∈l,i<u)->Q ((l.filter p).map f) n->Jfy turn (l.map e) n Q:=by
  intro l
  induction l with
  | nil=>intro n Q _ q;exact q
  | cons x xs ih=>
   intro n Q hl q
   refine h x (hl x Qi) _ _ (λ hp=>?_) (λ hp=>?_)
   . rw [J40 hp] at q
     exact ih _ _ (λ i hi=>hl i (Qj _ hi)) q
   . rw [J41 (by rw [hp];exact Xe)] at q
     exact ih _ _ (λ i hi=>hl i (Qj _ hi)) q
 exact key _ _ _ (λ i hi=>Q6.mp hi) q
def Jdy:GSp:=λ as n Q=>∃ (R U:Int) (ws:List Way) (k:Int),as=[.d (J0 R U ws),.d (.int k)]/\(0<=k/\k<ws.length)/\Q (.bool true) n
def Jcm:GSp:=λ as n Q=>∃ (x a b:Int),as=[.d (.int x),.d (.int a),.d (.int b)]/\Q (.bool (decide (a<=x)&&decide (x<=b))) n
def Jf5:GSp:=λ as n Q=>∃ (x:Int),as=[.d (.int x)]/\Q (.bool true) n
theorem Jzi {x:J9h}{Q:J9h->Prop}(h:x.canLay0=true) (hd:x.depth<=50) (q:Q (.bool false)):Jsv true x x Q:=⟨⟨h,h,Xi (J8c _ _) hd⟩,by rw [J8d _ h];exact q⟩
theorem Jq4 (u:Nat) (f:Nat->Int):fl u f=((Ql u).map f).map .int:=by unfold fl;rw [Qv];rfl
theorem Jdz {k i:Nat}{y:J9h}(h:(Jfx 0 k)[i]? = some y):i<k/\y = .int i:=by
 have hi:=(Qp.mp h).1
 rw [J4] at hi
 refine ⟨hi,?_⟩
 unfold Jfx at h
 rw [Qh,Xk hi] at h
 cases h
 simp
def Jc9:GSp:=λ as n Q=>∃ many:Int,as=[.tape,.d (.int many)]/\n<2^40/\0<many/\many<2^9000/\∀ r:Int,0<=r->r<many->Q (.int r) (n+1)
instance scal_draw:Scal Jc9:=⟨λ {as n P} h=>by
 obtain ⟨many,e,hn,h0,h1,q⟩:=h
 exact ⟨many,e,hn,h0,h1,λ r r0 r1=>⟨rfl,q r r0 r1⟩⟩⟩
theorem Js2:∀ (vs:List V) (H:Hp) (Q:VK) (E:XK),Jj Jc9 vs H Q E->Jn1 vs H Q E:=λ vs H Q E h=>by
 obtain ⟨S,ex,as,n,P,r,hc,al,iv,⟨many,rfl,hn,h0,h1,q⟩,k⟩:=h
 obtain ⟨u,v,rfl,⟨p,c,rfl,eu⟩,⟨w,ew,rw'⟩⟩:=J1l r
 cases eu
 cases ew
 cases rw'
 exact ⟨p,c,n,many,rfl,iv,hn,h0,h1,λ r H' r0 r1 J' kp=>k _ _ _ _ (q r r0 r1) ⟨kp,J'⟩ (.int r)⟩
theorem Jn8 {K:Qc}{N:List Str}{vs:List V}{H:Hp}{Q:VK}{E E':XK}{rest:TS}{gs:GS} [T:SV rest gs] (hN:2<=N.length) (h:Jlv K vs H Q E) (hs:gs Js1 (.jnk :: .tape::Qw (N.length-2) .jnk) 0) :
 Jas (Jdo (Jiz (Jj4 K) [] E' (Yq (Zv 0) Jbr)) (Bm 1)) rest { nx:=λ _ H'=>Q .non H',rt:=Q } (L2.start N vs) H:=by
 obtain ⟨a,ns,rfl,hS,hlen,q⟩:=h
 have est:L2.start N [V.ref a]=some (V.ref a)::none::Qw (N.length-2) none:=by
  unfold L2.start
  rw [show N.length-[V.ref a].length=(N.length-2)+1 by simp;omega]
  rfl
 rw [est]
 refine ⟨_,rfl,a,ns,rfl,hS,hlen,λ p c H1 k1 _ _ J=>?_⟩
 have al:Alc [p,c] H1:=λ b hb z=>J.fresh z hb
 have no:∀ i,Jk (.jnk :: .tape::Qw (N.length-2) .jnk) (some (V.ref a)::some (V.ref p)::Qw (N.length-2) none) i=[]:=λ i=>by
  unfold Jk
  cases e:((.jnk :: .tape::Qw (N.length-2) .jnk:List Vl))[i]? with
  | none=>rfl
  | some w=>
   have hm:=Xg e
   have:w = .jnk\/w = .tape:=by
    rcases Qf.mp hm with h | h
    . exact .inl h
    . rcases Qf.mp h with h | h
      . exact .inr h
      . exact .inl (J24.mp h).2
   rcases this with rfl | rfl<;>rfl
 refine T.sv (C:=⟨Src.tape p c,[p,c],H1,[]⟩) (G:=Js1) ⟨λ _ h=>h.elim,λ _ h=>h.elim,λ _ h=>h.elim,λ {d n v H'} R h=>?_,λ _ h=>h.elim,λ _ _ h=>h.elim,λ _ h=>h.elim⟩ (ex:=[p,c]) (env:=.jnk :: .tape::Qw (N.length-2) .jnk) (σ:=some (V.ref a)::some (V.ref p)::Qw (N.length-2) none) ⟨⟨?_,λ i w e=>?_,λ b h=>h,al,J⟩,λ b h=>h,al,λ i j b h=>?_,λ i b h=>?_,.refl,λ x hx=>by cases hx⟩ hs
 . cases h
   have r:=R.r
   cases r
   exact q _
 . simp
 . match i with
   | 0=>cases e;trivial
   | 1=>cases e;exact ⟨p,c,rfl,rfl⟩
   | i+2=>
    have:w = .jnk:=(J24.mp (Xg (by simpa using e))).2
    subst this
    trivial
 . rw [no] at h;cases h
 . rw [no] at h;cases h
def Jf6:GSp:=λ as n Q=>as=[.tape]/\n<2^39/\∀ (r:Int) (m:Nat),-9<=r->r<=9->m<=n+2->Q (.int r) m
instance scal_gainV:Scal Jf6:=⟨λ {as n P} h=>⟨h.1,h.2.1,λ r m r0 r1 hm=>⟨rfl,h.2.2 r m r0 r1 hm⟩⟩⟩
def Jd0:GSp:=λ as n Q=>∃ U:Int,as=[.tape,.d (.int U)]/\n<2^38/\0<=U/\U<=6/\∀ (f:Nat->Int) (m:Nat),(∀ i,i<U.toNat->-9<=f i/\f i<=9)->m<=n+12->Q (Jez U f) m
def Je0:GSn:=λ as n Q=>∃ R U:Int,as=[.tape,.d (.int R),.d (.int U)]/\n<2^37/\(1<=R/\R<=12)/\(1<=U/\U<=6)/\∀ (ws:List Way) (m:Nat),(∀ w∈ws,WayOk R U w)->ws.length<=24->m<=n+60->Q (ws.map Yk) m
def Jkf:GSp:=λ as n Q=>∃ mr mu mw:Int,as=[.tape,.d (.tuple [.int mr,.int mu,.int mw])]/\n<2^30/\(1<=mr/\mr<=12)/\(1<=mu/\mu<=6)/\(0<=mw/\mw<=36)/\∀ (R U:Int) (ws:List Way) (m:Nat),BookOk R U ws->R<=mr->U<=mu->m<=n+2000->Q (J0 R U ws) m
theorem Jg3 {turn:J9h->Nat->(Option J9h->Nat->Prop)->Prop}{items:List J9h}{n:Nat}{Q:List J9h->Nat->Prop}(c B:Nat) (R:J9h->Prop) (h:∀ x∈items,∀ n K,n<=B->(∀ y n',R y->n'<=n+c->K (some y) n')->turn x n K) (hB:n+c*items.length<=B) (q:∀ ys n',ys.length=items.length->(∀ y∈ys,R y)->n'<=n+c*items.length->Q ys n'):Jfy turn items n Q:=by
 induction items generalizing n Q with
 | nil=>exact q [] n rfl (λ y hy=>by cases hy) (J38 _ _)
 | cons x xs ih=>
  rw [Ub,Nat.mul_add] at hB
  refine h x Qi _ _ (by omega) λ y n' hy hn=>ih (λ z hz=>h z (Qj _ hz)) (by omega) λ ys n2 hl hr hn2=>q _ _ (by simp [hl]) (λ z hz=>?_) (by rw [Ub,Nat.mul_add];omega)
  rcases Qf.mp hz with rfl | hz
  . exact hy
  . exact hr z hz
noncomputable def Jfr (a b U:Int) (f:Nat->Int):Way:=⟨a,b,(Ql U.toNat).map f⟩
theorem Jg4 (a b U:Int) (f:Nat->Int):Ud [.int a,.int b,Jez U f]=Yk (Jfr a b U f):=by
 unfold Yk Jfr Jez
 rw [Jq4]
theorem Jg5 {R a b U:Int}{f:Nat->Int}(ha:0<=a/\a<R) (hb:0<=b/\b<R) (hU:0<=U) (hf:∀ i,i<U.toNat->-99<=f i/\f i<=99):WayOk R U (Jfr a b U f):=by
 refine ⟨ha.1,ha.2,hb.1,hb.2,?_,λ x hx=>?_⟩
 . show (((Ql U.toNat).map f).length:Int)=U
   rw [Qb,Qx];omega
 . obtain ⟨i,hi,rfl⟩:=Qn.mp hx
   exact hf i (Q6.mp hi)
theorem Jzj (ys:List J9h) (u:Nat) {lo hi:Int}(hl:ys.length=u) (h:∀ y∈ys,∃ i:Int,y = .int i/\lo<=i/\i<=hi):∃ f:Nat->Int,ys=fl u f/\∀ i,i<u->lo<=f i/\f i<=hi:=by
 obtain ⟨f,rfl⟩:=J1n ys u hl λ y hy=>(h y hy).imp λ i hi=>hi.1
 refine ⟨f,rfl,λ i hi=>?_⟩
 have hm:Qq (f i)∈fl u f:=by unfold fl;exact Qn.mpr ⟨i,Q6.mpr hi,rfl⟩
 obtain ⟨j,e,h1⟩:=h _ hm
 cases e
 exact h1
theorem Jkg {u:Nat}{f:Nat->Int}{k:Nat}{v lo hi:Int}(h:∀ i,i<u->lo<=f i/\f i<=hi) (hv:lo<=v/\v<=hi):∀ i,i<u->lo<=putF f k v i/\putF f k v i<=hi:=λ i hi'=>by
 unfold putF
 split
 . exact hv
 . exact h i hi'
abbrev J2t (g:GE):GT:=λ env n Q=>g env n λ d n1=>match d with
 | .list xs=>Q (!xs.isEmpty) n1
 | .tuple xs=>Q (!xs.isEmpty) n1
 | _=>False
theorem Jg6 {ex:List Addr}{H:Hp}{ds:List J9h}{vs:List V}(r:Reps ex H ds vs):ds.isEmpty=vs.isEmpty:=by
 cases r<;>rfl
def J1o (K:Qc) (te:TE):TT:=λ σ H Q=>te σ H λ x H'=>∃ k,Jyr K x H' k/\Q k H'
theorem Jzk {X:Cx}{a:Expr}{ta:TE}(ha:PE X a ta) (he:∀ whole,isTrue a X.env whole=(do let v <- whole;J9y a.pos;holding [v] (truthy v))):PT X a (J1o X.K ta):=Jr8 ha he
instance tv_tru {K:Qc}{te:TE}{g:GE} [A:EV false te g]:TV (J1o K te) (J2t g):=⟨λ {S ex env σ H n Q P} E h k=>A.ev E h λ d n1 v H1 h1 s1 r1=>by
 cases r1 with
 | list e m z rs=>exact ⟨_,.inl ⟨_,SqL.of e,rfl⟩,by rw [<- Jg6 rs];exact k _ _ _ h1 s1⟩
 | tuple e m z rs=>exact ⟨_,.inr (.inl ⟨_,SqT.of e,rfl⟩),by rw [<- Jg6 rs];exact k _ _ _ h1 s1⟩
 | none=>exact h1.elim
 | obj=>exact h1.elim
 | bool=>exact h1.elim
 | str=>exact h1.elim
 | int=>exact h1.elim⟩
noncomputable abbrev MT:Int:=10^100-1
theorem Jg7 (n:Nat) (d:J9h):(Qw n [d]).flatten=Qw n d:=by
 induction n with
 | zero=>rfl
 | succ n ih=>rw [U4,J3a,ih,U4];rfl
mutual
noncomputable def nd:J9h->Nat
 | .tuple ds=>1+nds ds
 | _=>0
noncomputable def nds:List J9h->Nat
 | []=>0
 | d::r=>nd d+nds r
end
mutual
noncomputable def smI:J9h->Bool
 | .int i=>decide (i<=MT)
 | .tuple ds=>Jzl ds
 | .list ds=>Jzl ds
 | _=>true
noncomputable def Jzl:List J9h->Bool
 | []=>true
 | d::r=>smI d&&Jzl r
end
end My
namespace HT
section
variable {prog:J9l}{w:J9k}{A:J9m}{E:J9g->J9i->Prop}{s:J9i}
end
end HT
namespace L2
section
variable {X:Cx}{e st:Expr}{te:TE}{ts:TO}{pos p2:Pos}
end
end L2
namespace My
open L2
section
variable {b:Bool}{te:TE}{g:GE}
end
noncomputable def gdB (d:J9h):Bool:=d.canLay0&&(d.intsShort 101&&(d.showable&&smI d))
theorem Jb4 {s t:Str}{Q:J9h->Prop}(h:Q (.bool (decide (s=t)))):fEq false (.str s) (.str t) Q:=h
section
variable {d:J9h}{k n g:Int}(hg:gdB d=true) (gk:gdB (.int k)=true) (wk:(Qq k).weight<=10) (gn:gdB (.int n)=true) (wn:(Qq n).weight<=10) (gg:gdB (.int g)=true) (wg:(Qq g).weight<=333)
include hg gk wk gn wn gg wg
end
end My
namespace L2
section
variable {X:Cx}
end
end L2
namespace My
open L2
theorem Jma {turn:J9h->Nat->(Option J9h->Nat->Prop)->Prop}{n:Nat}{R:J9h->J9h->Prop}:∀ {items:List J9h}{Q:List J9h->Nat->Prop},(∀ x∈items,∀ K,(∀ y,R x y->K (some y) n)->turn x n K)->(∀ ys,Jzh R items ys->Q ys n)->Jfy turn items n Q
 | [],Q,_,q=>q [] trivial
 | x::xs,Q,h,q=>h x Qi _ λ y hy=>Jma (R:=R) (λ z hz=>h z (Qj _ hz)) λ ys hys=>q (y::ys) ⟨hy,hys⟩
section
variable {S:Src}{ex L:List Addr}{H H1 H2:Hp}{w:Vl}{o:Option V}
theorem SlR.adds:∀ {L:List Addr},(∀ b∈L,H b=none)->SlR S ex H w o->SlR S (L++ex) H w o
 | [],_,r=>r
 | l::L,h,r=>SlR.add (h l Qi) (SlR.adds (λ b hb=>h b (Qj _ hb)) r)
theorem Jmb {je:List Vl}{σ0 σ':L2.St}{n1 n2 k:Nat}(E:Ev S ex je σ0 H1 n1) (hL:∀ b∈L,H1 b=none) (kp:Kp (L++S.ch) H1 H2) (h2:∀ b∈L,H2 b≠none) (iv:S.inv n2 H2) (hj:∀ j:Nat,j<k->je[j]? = none\/je[j]? = some .jnk) (hs:∀ j:Nat,k<=j->σ'[j]? = σ0[j]?) (hz:σ'.length = σ0.length):Ev S (L++ex) je σ' H2 n2:=by
 have hc:∀ a∈S.ch,a∈L++ex:=λ a h=>Xf _ (E.ch a h)
 have kx:Kp (L++ex) H1 H2:=kp.mono λ b hb=>(Q8.mp hb).elim (λ h=>Xn _ h) λ h=>hc b h
 have st:∀ {a:Addr} {u:HO},H1 a=some u->a∉S.ch->H2 a=some u:=λ {a u} e nc=>kp _ _ e λ z=>(Q8.mp z).elim (λ h=>by rw [hL a h] at e;cases e) nc
 refine ⟨by rw [hz];exact E.len,λ j w e=>?_,hc,λ a ha=>?_,iv⟩
 . by_cases hjk:j<k
   . rcases hj j hjk with h | h
     . rw [h] at e;cases e
     . rw [h] at e;cases e;trivial
   . rw [hs j (J3k hjk)]
     have h:=SlR.adds hL (E.sl j w e)
     cases w with
     | jnk=>trivial
     | jar=>exact h
     | tape=>exact h
     | d x=>obtain ⟨v,e,r⟩:=h;exact ⟨v,e,r.keep kx⟩
     | pin v x=>obtain ⟨e,r⟩:=h;exact ⟨e,r.keep kx⟩
     | own xs=>obtain ⟨a,vs,e,h1,h2,h3,h4,h5⟩:=h;exact ⟨a,vs,e,st h1 h5,h2,h3.keep kx,h4,h5⟩
     | dct kvs=>obtain ⟨a,kws,e,h1,⟨h2,h3⟩,h4,h5⟩:=h;exact ⟨a,kws,e,st h1 h5,⟨h2,h3.keep kx⟩,h4,h5⟩
     | own2 ks ps=>obtain ⟨a,e,q⟩:=h;exact ⟨a,e,st q.h q.c,q.z,q.k,q.nd,q.m,q.c,λ p hp=>let w:=q.i p hp;⟨w.m,w.c,let ⟨vs,h1,h2,h3⟩:=w.h;⟨vs,st h1 w.c,h2,h3.keep kx⟩⟩⟩
 . rcases Q8.mp ha with ha | ha
   . exact h2 a ha
   . by_cases hac:a∈S.ch
     . exact S.dom iv a hac
     . intro z
       cases e:H1 a with
       | none=>exact E.al a ha e
       | some u=>rw [st e hac] at z;cases z
end
abbrev GN2:=List Vl->Nat->(List (List J9h)->Nat->Prop)->Prop
class N2 (te:TE) (g:outParam GN2):Prop where
 n2:∀ {S:Src} {ex:List Addr} {env:List Vl} {σ:L2.St} {H:Hp} {n:Nat} {Q:VK} {P:List (List J9h)->Nat->Prop},Ev S ex env σ H n->g env n P ->
  (∀ (ps:List (Addr×List J9h)) (n':Nat) (a:Addr) (H':Hp),P (ps.map (·.2)) n'->Yv S n' H H'->H a=none->(∀ p∈ps,H p.1=none)->Own2 S (a::ps.map (·.1)++ex) H' none ps a->Q (.ref a) H')->te σ H Q
def Jkh (f:J9h->Nat->(List J9h->Nat->Prop)->Prop):List J9h->Nat->(List (List J9h)->Nat->Prop)->Prop
 | [],n,Q=>Q [] n
 | x::xs,n,Q=>f x n λ d n1=>Jkh f xs n1 λ ys n2=>Q (d::ys) n2
abbrev Jki (bd:GG) (gn:GN) (env:List Vl):J9h->Nat->(List J9h->Nat->Prop)->Prop:=λ x n Q=>bd x env λ env'=>gn env' n Q
abbrev Jzm (gi:GN) (k:Nat) (idx ks:List Nat) (bd:GG) (gn:GN):GN2:=λ env n Q=>gi env n λ items n1=>(ks.all (λ i=>decide (i<k))=true/\items.length<=1000000/\items.all Vv=true)/\Jkh (Jki bd gn (Jc8 k idx env)) items n1 Q
instance n2_comp {wi:TI}{gi:GN}{k:Nat}{idx ks:List Nat}{g:TG}{bd:GG}{te:TE}{gn:GN} [I:IC wi gi] [G:GV g bd ks] [A:NV te gn]:N2 (Jau wi k idx g Jf3 te) (Jzm gi k idx ks bd gn):=⟨λ {S ex env σ H n Q P} E h kk=>by
 refine I.ic E h λ items n1 J H1 hc s1 hit l hl=>?_
 obtain ⟨⟨hk,hz,hsc⟩,hc⟩:=hc
 have hs:sizeLine=16777216:=J9n
 have E1:=Jgx (E.step s1) k idx
 have lch:l∉S.ch:=λ z=>S.dom s1.2 l z hl
 have hkk:∀ i∈ks,i<k:=λ i hi=>of_decide_eq_true (X3.mp hk i hi)
 refine ⟨λ i m σ' H2=>i<=items.length/\m=items.length-i/\∃ (n2:Nat) (ps:List (Addr×List J9h)),Jkh (Jki bd gn (Jc8 k idx env)) (items.drop i) n2 (λ ys n'=>P (ps.map (·.2)++ys) n')/\Kp (l::S.ch) H1 H2/\H2 l=some (.lst (Yx ps))/\ps.length<=i/\(∀ p∈ps,H1 p.1=none)/\(l::ps.map (·.1)).Nodup/\(∀ p∈ps,In2 S (l::ps.map (·.1)++ex) H2 p)/\S.inv n2 H2/\(∀ j:Nat,k<=j->σ'[j]? = (Yp k idx σ)[j]?)/\σ'.length=(Yp k idx σ).length,
  ⟨items.length,Xz _,rfl,n1,[],by simpa using hc,Kp.new hl _,Jh,Qm _,(λ p hp=>by cases hp),by simp,(λ p hp=>by cases hp),S.keep s1.2 λ b _ o' e=>Kp.new (ex:=[]) hl _ _ _ e (by simp),λ _ _=>rfl,rfl⟩,?_⟩
 rintro i m σ' H2 ⟨hi,rfl,n2,ps,hcm,kp,h2l,hvl,hno,hnd,hin,iv2,hsl,hln⟩
 have hL:∀ b∈l::ps.map (·.1),H1 b=none:=λ b hb=>by
  rcases Qf.mp hb with rfl | hb
  . exact hl
  . obtain ⟨p,hp,rfl⟩:=Qn.mp hb
    exact hno p hp
 have hL2:∀ b∈l::ps.map (·.1),H2 b≠none:=λ b hb=>by
  rcases Qf.mp hb with rfl | hb
  . rw [h2l];exact Xs _
  . obtain ⟨p,hp,rfl⟩:=Qn.mp hb
    obtain ⟨vs,h1,_⟩:=(hin p hp).h
    rw [h1];exact Xs _
 have E2:Ev S (l::ps.map (·.1)++ex) (Jc8 k idx env) σ' H2 n2:=Jmb E1 hL (kp.mono λ b hb=>(Qf.mp hb).elim (λ e=>by rw [e];exact Xn _ Qi) λ h=>Xf _ h) hL2 iv2 Jgy hsl hln
 have IT:=hit l H2 hl kp λ a ha=>(Qf.mp ha).elim (λ e=>by rw [e,h2l];exact Xs _) λ h=>E2.al a (Xf _ h)
 rcases X1 i items.length with hlt | hge
 . refine .inr ⟨(IT.2 i items[i] (Qd hlt)).1,λ x H3 y=>?_⟩
   obtain ⟨kp3,rx⟩:=(IT.2 i items[i] (Qd hlt)).2 x H3 y
   have rx':=Jgv (X3.mp hsc items[i] (Xo hlt)) rx (l::ps.map (·.1)++ex)
   rw [J6q hlt] at hcm
   have st3:Yv S n2 H2 H3:=Yv.new E2.inv kp3
   have E3:=E2.step st3
   refine G.gv E3 rx' hcm λ env' σ2 ht E4 _ hs2' hl2=>tv_noTest.tv E4 (P:=λ c n'=>c=true/\n'=n2) ⟨rfl,rfl⟩ λ c n4 H4 h4 s4=>?_
   obtain ⟨rfl,rfl⟩:=h4
   have hs2:∀ j:Nat,k<=j->σ2[j]? = (Yp k idx σ)[j]?:=λ j hj=>by
    rw [hs2' j λ z=>by have:=hkk j z;omega];exact hsl j hj
   refine A.nv (E4.step s4) ht λ ds n5 a vs H5 h5 s5 ha hla hzv r5=>?_
   have s24:=st3.trans s4
   have s25:=s24.trans s5
   have k5:Kp S.ch H2 H5:=s25.1
   have h5l:H5 l=some (.lst (Yx ps)):=k5 _ _ h2l lch
   have an:a∉l::ps.map (·.1)++ex:=λ z=>(E4.step s4).al a z ha
   have ac:a∉S.ch:=λ z=>an (E4.ch a z)
   have ha1:H1 a=none:=by
    cases e:H1 a with
    | none=>rfl
    | some u=>
     have e2:=kp a u e λ z=>(Qf.mp z).elim (λ q=>an (by rw [q];exact Xn _ Qi)) ac
     rw [s24.1 a u e2 ac] at ha;cases ha
   have al:a≠l:=λ e=>an (by rw [e];exact Xn _ Qi)
   have msub:∀ b∈l::(ps++[(a,ds)]).map (·.1)++ex,b∈a::(l::ps.map (·.1)++ex):=λ b hb=>by
    simp only [Xd,Qz,J28,J3n,Qf,Q8,X2,or_false] at hb ⊢
    rcases hb with h | (h | h) | h
    . exact .inr (.inl h)
    . exact .inr (.inr (.inl h))
    . exact .inl h
    . exact .inr (.inr (.inr h))
   have mup:∀ b∈l::ps.map (·.1)++ex,b∈l::(ps++[(a,ds)]).map (·.1)++ex:=λ b hb=>by
    simp only [Xd,Qz,J28,J3n,Qf,Q8,X2,or_false] at hb ⊢
    rcases hb with h | h | h
    . exact .inl h
    . exact .inr (.inl (.inl h))
    . exact .inr (.inr h)
   have lin:l∈l::(ps++[(a,ds)]).map (·.1)++ex:=Xn _ Qi
   refine ⟨Yx ps,h5l,by unfold Yx;rw [Qb];omega,_,(?_:items.length-(i+1)<_),hlt,rfl,n5,ps++[(a,ds)],?_,?_,?_,?_,?_,?_,?_,?_,hs2,hl2.trans hln⟩
   . omega
   . simpa using h5
   . exact (kp.trans (k5.mono λ b hb=>Qj _ hb)).trans (Kp.at Qi _)
   . rw [Jh];unfold Yx;rw [Xd];rfl
   . rw [Q7,Uj];omega
   . intro p hp
     rcases Q8.mp hp with hp | hp
     . exact hno p hp
     . rw [Qs.mp hp];exact ha1
   . rw [Xd,<- J3n]
     refine J42.mpr ⟨hnd,by simp,?_⟩
     intro b hb c hc e
     have e':b=a:=e.trans (Qs.mp hc)
     exact an (Xn _ (e'▸hb))
   . intro p hp
     rcases Q8.mp hp with hp | hp
     . have w:=hin p hp
       obtain ⟨us,g1,g2,g3⟩:=w.h
       have pl:p.1≠l:=λ e=>(Xq.mp hnd).1 (by rw [<- e];exact Qn.mpr ⟨p,hp,rfl⟩)
       refine ⟨mup p.1 w.m,w.c,us,by rw [Jf pl];exact k5 _ _ g1 w.c,g2,?_⟩
       have q4:Reps (l::ps.map (·.1)++ex) H4 p.2 us:=g3.keep (s24.1.mono E2.ch)
       have q5:Reps (a::(l::ps.map (·.1)++ex)) H5 p.2 us:=(Reps.add ha q4).keep (s5.1.mono λ b hb=>Qj _ (E2.ch b hb))
       exact (Reps.mono msub q5).keep (Kp.at lin _)
     . rw [Qs.mp hp]
       refine ⟨?_,ac,vs,by rw [Jf al];exact hla,hzv,(Reps.mono msub r5).keep (Kp.at lin _)⟩
       simp
   . exact S.keep s25.2 λ b hb o e=>by rw [Jf (λ z=>lch (by rw [<- z];exact hb))];exact e
 . have e:i=items.length:=by omega
   subst e
   rw [J6r] at hcm
   have hcm':P (ps.map (·.2)) n2:=by simpa [Jkh] using hcm
   refine .inl ⟨IT.1,kk ps n2 l H2 hcm' ⟨λ b o e nb=>kp b o (s1.1 b o e nb) λ z=>(Qf.mp z).elim (λ e2=>by rw [e2,s1.free hl] at e;cases e) nb,iv2⟩ (s1.free hl) (λ p hp=>s1.free (hno p hp)) ⟨h2l,by omega,(λ _ h=>by cases h),hnd,Xn _ Qi,lch,hin⟩⟩⟩
theorem Rep.adds {ex:List Addr}{H:Hp}{d:J9h}{v:V}:∀ {L:List Addr},(∀ b∈L,H b=none)->Rep ex H d v->Rep (L++ex) H d v
 | [],_,r=>r
 | l::L,h,r=>Rep.add (h l Qi) (Rep.adds (λ b hb=>h b (Qj _ hb)) r)
section
variable {C:Cv}{ex:List Addr}{env:List Vl}{σ:L2.St}{H H':Hp}{n m:Nat}
theorem Jkj {i:Nat}{ks:Option (List Key)}{ps:List (Addr×List J9h)}{a b:Addr}(h:b∈Jk (env.set i (.own2 ks ps)) (σ.set i (some (.ref a))) i):b∈a::ps.map (·.1):=by
 unfold Jk at h
 split at h
 . rename_i e1 e2
   have:=Jae e1
   cases this
 . rename_i e1 e2
   have:=Jae e1
   cases this
 . rename_i c e1 e2
   have e3:(σ.set i (some (.ref a)))[i]? = some (some (.ref c)):=Jm e2
   have h3:=Jae e3
   cases h3
   have h4:=Jae e1
   cases h4
   exact h
 . cases h
theorem At.own2 (A:At C ex env σ H n) {i:Nat}{ks:Option (List Key)}{ps:List (Addr×List J9h)}{a:Addr}(s:Yv C.S m H H') (ha:H a=none) (hp:∀ p∈ps,H p.1=none) (q:Own2 C.S (a::ps.map (·.1)++ex) H' ks ps a) :
 At C (a::ps.map (·.1)++ex) (env.set i (.own2 ks ps)) (σ.set i (some (.ref a))) H' m:=by
 have hL:∀ b∈a::ps.map (·.1),H b=none:=λ b hb=>by
  rcases Qf.mp hb with rfl | hb
  . exact ha
  . obtain ⟨p,h,rfl⟩:=Qn.mp hb
    exact hp p h
 have hL2:∀ b∈a::ps.map (·.1),H' b≠none:=λ b hb=>by
  rcases Qf.mp hb with rfl | hb
  . rw [q.h];exact Xs _
  . obtain ⟨p,h,rfl⟩:=Qn.mp hb
    obtain ⟨vs,h1,_⟩:=(q.i p h).h
    rw [h1];exact Xs _
 have hc:∀ b∈C.S.ch,b∈a::ps.map (·.1)++ex:=λ b h=>Xf _ (A.ev.ch b h)
 have E1:Ev C.S (a::ps.map (·.1)++ex) env σ H' m:=by
  refine ⟨A.ev.len,λ j w e=>(SlR.adds hL (A.ev.sl j w e)).kp hc s.1,hc,λ b hb=>?_,s.2⟩
  rcases Q8.mp hb with hb | hb
  . exact hL2 b hb
  . exact A.ev.al.step s b hb
 refine ⟨E1.put ⟨a,rfl,q⟩,λ b h=>Xf _ (A.ex0 b h),A.al0,λ j k b h1 h2=>?_,λ j b h=>?_,A.kp.trans s.1,λ h hh=>(Rep.adds hL (A.held h hh)).keep (s.1.mono hc)⟩
 . by_cases hj:i=j
   . subst hj
     have e:=hL b (Jkj h1)
     by_cases hk:i=k
     . exact hk
     . rw [Vo hk] at h2
       exact absurd e (Jam A.ev h2).1
   . rw [Vo hj] at h1
     by_cases hk:i=k
     . subst hk
       exact absurd (hL b (Jkj h2)) (Jam A.ev h1).1
     . rw [Vo hk] at h2
       exact A.sep j k b h1 h2
 . by_cases hj:i=j
   . subst hj
     exact A.free (hL b (Jkj h))
   . rw [Vo hj] at h
     exact A.new j b h
theorem Jjh {i:Nat}{ks:Option (List Key)}{ps qs:List (Addr×List J9h)}(h:env[i]? = some (.own2 ks ps)) (e:qs.map (·.1)=ps.map (·.1)):∀ j,Jk (env.set i (.own2 ks qs)) σ j=Jk env σ j:=λ j=>by
 unfold Jk
 by_cases hj:i=j
 . subst hj
   rw [Q2 (Qp.mp h).1,h]
   cases (σ[i]?).join with
   | none=>rfl
   | some v=>cases v<;>first | rfl | (show _::_=_::_;rw [e])
 . rw [Q3 hj]
theorem Jd1 {α:Type}{l:List α}{m:Nat}{a b:α}(h:b∈l.set m a):b=a\/∃ k,k≠m/\l[k]? = some b:=by
 obtain ⟨k,hk⟩:=Ul.mp h
 by_cases e:m=k
 . subst e
   exact .inl (Jae hk)
 . rw [Q3 e] at hk
   exact .inr ⟨k,λ z=>e z.symm,hk⟩
theorem J1p {l:List Addr}(hn:l.Nodup) {k m:Nat}{a b:Addr}(h:l[k]? = some a) (g:l[m]? = some b) (e:k≠m):a≠b:=by
 intro z
 subst z
 obtain ⟨h1,h2⟩:=Qp.mp h
 obtain ⟨g1,g2⟩:=Qp.mp g
 have pw:=J43.mp hn
 rcases Nat.lt_or_gt_of_ne e with lt | gt
 . exact pw k m h1 g1 lt (h2.trans g2.symm)
 . exact pw m k g1 h1 gt (g2.trans h2.symm)
theorem At.re2 (A:At C ex env σ H n) {i j:Nat}{ks:Option (List Key)}{ps:List (Addr×List J9h)}{p:Addr×List J9h}{ys:List J9h}{ws:List V}{a:Addr}(h:env[i]? = some (.own2 ks ps)) (hs:(σ[i]?).join=some (.ref a)) (hp:ps[j]? = some p) (r:Reps ex H ys ws) (hz:ws.length<=sizeLine) :
 At C ex (env.set i (.own2 ks (ps.set j (p.1,ys)))) σ (upd H p.1 (.lst ws)) n:=by
 obtain ⟨a',e',q⟩:=A.ev.sl i _ h
 rw [hs] at e'
 cases e'
 have hpm:=Xg hp
 have hmap:(ps.set j (p.1,ys)).map (·.1)=ps.map (·.1):=by
  rw [X6]
  refine Xu λ k=>?_
  by_cases e:j=k
  . subst e
    rw [Q2 (by rw [Qb];exact (Qp.mp hp).1),Qh,hp];rfl
  . rw [Q3 e]
 have hrefs:Yx (ps.set j (p.1,ys))=Yx ps:=by
  have e1:∀ l:List (Addr×List J9h),Yx l=(l.map (·.1)).map V.ref:=λ l=>by unfold Yx;rw [Qv];rfl
  rw [e1,e1,hmap]
 have ha:p.1∈Jk env σ i:=by unfold Jk;rw [h,hs];exact Qj _ (Qn.mpr ⟨p,hpm,rfl⟩)
 obtain ⟨h1,h2,h3⟩:=Jam A.ev ha
 have h0:=A.new i p.1 ha
 have kx:Kp ex H (upd H p.1 (.lst ws)):=Kp.at h2 _
 have pa:a≠p.1:=λ z=>(Xq.mp q.nd).1 (by rw [z];exact Qn.mpr ⟨p,hpm,rfl⟩)
 have hn2:=(Xq.mp q.nd).2
 refine ⟨⟨by rw [Qr];exact A.ev.len,λ k w e=>?_,A.ev.ch,λ b hb=>?_,C.S.keep A.ev.inv λ b hb o e=>by rw [Jf (λ z=>h3 (by rw [<- z];exact hb))];exact e⟩,A.ex0,A.al0,λ k l b q1 q2=>?_,λ k b q=>?_,Kp.late A.kp h0 _,λ x hx=>(A.held x hx).keep kx⟩
 . by_cases hk:i=k
   . subst hk
     rw [Q2 (Qp.mp h).1] at e
     cases e
     refine ⟨a,hs,⟨by rw [Jf pa,hrefs];exact q.h,by rw [Qr];exact q.z,λ l hl=>by rw [Qr];exact q.k l hl,by rw [hmap];exact q.nd,q.m,q.c,λ t ht=>?_⟩⟩
     rcases Jd1 ht with rfl | ⟨k,hkj,hk⟩
     . exact ⟨h2,h3,ws,Jh,hz,r.keep kx⟩
     . have w:=q.i t (Xg hk)
       have tp:t.1≠p.1:=J1p hn2 (k:=k) (m:=j) (by rw [Qh,hk];rfl) (by rw [Qh,hp];rfl) hkj
       obtain ⟨us,g1,g2,g3⟩:=w.h
       exact ⟨w.m,w.c,us,by rw [Jf tp];exact g1,g2,g3.keep kx⟩
   . rw [Q3 hk] at e
     exact SlR.upd h2 (λ b hb z=>hk (A.sep i k p.1 ha (by rw [Jbc e,<- z];exact hb))) (A.ev.sl k w e)
 . by_cases hb2:b=p.1
   . rw [hb2,Jh];intro z;cases z
   . rw [Jf hb2];exact A.ev.al b hb
 . rw [Jjh h hmap] at q1 q2;exact A.sep k l b q1 q2
 . rw [Jjh h hmap] at q;exact A.new k b q
end
def Jji (i:Nat) (wi:TI) (k:Nat) (idx:List Nat) (g:TG) (tt:TT) (te:TE):TS:=Bf i wi k idx g tt te
theorem Jvw {X:Cx}{st:Stmt}{i:Nat}{wi:TI}{k:Nat}{idx:List Nat}{g:TG}{tt:TT}{te:TE}(h:PS X st (Bf i wi k idx g tt te)):PS X st (Jji i wi k idx g tt te):=h
abbrev Jx1 (i:Nat) (g:GN2):GS:=λ G env n=>g env n λ xss n1=>∀ ps:List (Addr×List J9h),ps.map (·.2)=xss->G.nx (env.set i (.own2 none ps)) n1
instance sv_set2 {i:Nat}{wi:TI}{k:Nat}{idx:List Nat}{g:TG}{tt:TT}{te:TE}{gn:GN2} [E:N2 (Jau wi k idx g tt te) gn]:SV (Jji i wi k idx g tt te) (Jx1 i gn):=⟨λ {C G D} O {ex env σ H n} A h=>
 show Jau wi k idx g tt te σ H (λ v H2=>D.nx (σ.set i (some v)) H2) from E.n2 A.ev h λ ps n1 a H1 h1 s1 ha hp q=>O.nx (A.own2 s1 ha hp q) (h1 ps rfl)⟩
abbrev Jzn (i:Nat) (gx gy ge:GE):GS:=λ G env n=>ge env n λ d n1=>match env[i]? with
 | some (.own2 none ps)=>gx env n1 λ x n2=>(match x with
  | .int x=>∃ m p,ixN ps.length x=some m/\ps[m]? = some p/\gy env n2 λ y n3=>(match y with
   | .int y=>∃ m',ixN p.2.length y=some m'/\G.nx (env.set i (.own2 none (ps.set m (p.1,p.2.set m' d)))) n3
   | _=>False)
  | _=>False)
 | _=>False
theorem Jvx {ps:List (Addr×List J9h)}{x:Int}{m:Nat}{p:Addr×List J9h}(h:ixN ps.length x=some m) (hp:ps[m]? = some p):atI (Yx ps) x=some (V.ref p.1):=by
 unfold atI Yx
 rw [Qb,h]
 show (ps.map λ p=>V.ref p.1)[m]? = _
 rw [Qh,hp];rfl
instance sv_set2I {K:Qc}{i:Nat}{te tx ty:TE}{ge gx gy:GE} [E:EV true te ge] [X:EV false tx gx] [Y:EV false ty gy]:SV (Jdo te (Jni (tOp (Jlp K) (Zv i) tx) ty Jfk)) (Jzn i gx gy ge):=⟨λ {C G D} O {ex env σ H n} A h=>by
 refine E.ev A.ev h λ d n1 v H1 hd s1 r=>?_
 have A1:=A.step s1
 split at hd
 . rename_i ps e
   obtain ⟨a,ev,q⟩:=A1.ev.sl i _ e
   refine ⟨_,Jm ev,X.ev A1.ev hd λ x n2 xv H2 hx s2 rx=>?_⟩
   have A2:=A1.step s2
   cases rx with
   | int x=>
    obtain ⟨m,p,hm,hp,hy⟩:=hx
    obtain ⟨a2,ev2,q2⟩:=A2.ev.sl i _ e
    rw [ev] at ev2
    cases ev2
    refine ⟨a,Yx ps,x,_,rfl,rfl,SqL.of q2.h,Jvx hm hp,Y.ev A2.ev hy λ y n3 yv H3 hy' s3 ry=>?_⟩
    have A3:=A2.step s3
    obtain ⟨a3,ev3,q3⟩:=A3.ev.sl i _ e
    rw [ev] at ev3
    cases ev3
    cases ry with
    | int y=>
     obtain ⟨m',hm',hq⟩:=hy'
     obtain ⟨vs,g1,g2,g3⟩:=(q3.i p (Xg hp)).h
     have l:=g3.length
     have r3:Rep ex H3 d v:=A2.ev.rep s3 (A1.ev.rep s2 r)
     exact ⟨p.1,vs,y,m',rfl,rfl,g1,by rw [<- l];exact hm',O.nx (A3.re2 e ev hp (Jdx r3 m' g3) (by rw [Qr];exact g2)) hq⟩
    | none=>exact hy'.elim
    | obj=>exact hy'.elim
    | bool=>exact hy'.elim
    | str=>exact hy'.elim
    | tuple=>exact hy'.elim
    | list=>exact hy'.elim
   | none=>exact hx.elim
   | obj=>exact hx.elim
   | bool=>exact hx.elim
   | str=>exact hx.elim
   | tuple=>exact hx.elim
   | list=>exact hx.elim
 . exact hd.elim⟩
section
variable {C:Cv}{ex:List Addr}{env:List Vl}{σ:L2.St}{H H':Hp}{n m:Nat}
theorem At.more (A:At C ex env σ H n) {b:Addr}(s:Yv C.S m H H') (hb:H b=none) (h2:H' b≠none):At C (b::ex) env σ H' m:=by
 have hc:∀ c∈C.S.ch,c∈b::ex:=λ c h=>Qj _ (A.ev.ch c h)
 refine ⟨⟨A.ev.len,λ j w e=>(SlR.add hb (A.ev.sl j w e)).kp hc s.1,hc,λ c hc=>?_,s.2⟩,λ c h=>Qj _ (A.ex0 c h),A.al0,A.sep,A.new,A.kp.trans s.1,λ h hh=>(Rep.add hb (A.held h hh)).keep (s.1.mono hc)⟩
 rcases Qf.mp hc with rfl | hc
 . exact h2
 . exact A.ev.al.step s c hc
theorem Js3 {ps:List (Addr×List J9h)}{j:Nat}{b:Addr}{ds:List J9h}:Yx (ps.set j (b,ds))=(Yx ps).set j (.ref b):=by unfold Yx;rw [X6]
theorem Jq5 {l:List Addr}(h:l.Nodup) {b:Addr}(hb:b∉l) (j:Nat):(l.set j b).Nodup:=by
 induction l generalizing j with
 | nil=>simp
 | cons x xs ih=>
  have h1:=Xq.mp h
  cases j with
  | zero=>exact Xq.mpr ⟨λ z=>hb (Qj _ z),h1.2⟩
  | succ j=>
   refine Xq.mpr ⟨λ z=>?_,ih h1.2 (λ z=>hb (Qj _ z)) j⟩
   rcases Jd1 z with e | ⟨k,_,hk⟩
   . exact hb (by rw [<- e];exact Qi)
   . exact h1.1 (Xg hk)
theorem At.row2 (A:At C ex env σ H n) {i j:Nat}{ps:List (Addr×List J9h)}{ds:List J9h}{vs:List V}{a b:Addr}(h:env[i]? = some (.own2 none ps)) (hs:(σ[i]?).join=some (.ref a)) (bm:b∈ex) (bc:b∉C.S.ch) (hb:H b=some (.lst vs)) (hz:vs.length<=sizeLine) (r:Reps ex H ds vs) (bo:∀ k,b∉Jk env σ k) (b0:C.H0 b=none) :
 At C ex (env.set i (.own2 none (ps.set j (b,ds)))) σ (upd H a (.lst ((Yx ps).set j (.ref b)))) n:=by
 obtain ⟨a',e',q⟩:=A.ev.sl i _ h
 rw [hs] at e'
 cases e'
 have oi:Jk env σ i=a::ps.map (·.1):=by unfold Jk;rw [h,hs]
 have ha:a∈Jk env σ i:=by rw [oi];exact Qi
 have bi:=bo i
 rw [oi] at bi
 have ba:b≠a:=λ z=>bi (by rw [z];exact Qi)
 have bp:b∉ps.map (·.1):=λ z=>bi (Qj _ z)
 have h0:=A.new i a ha
 have kx:Kp ex H (upd H a (.lst ((Yx ps).set j (.ref b)))):=Kp.at q.m _
 have hmap:(ps.set j (b,ds)).map (·.1)=(ps.map (·.1)).set j b:=by rw [X6]
 have nd2:=Xq.mp q.nd
 have oo:∀ k c,c∈Jk (env.set i (.own2 none (ps.set j (b,ds)))) σ k->c∈Jk env σ k\/(c=b/\k=i):=λ k c hc=>by
  by_cases hk:i=k
  . subst hk
    have e2:Jk (env.set i (.own2 none (ps.set j (b,ds)))) σ i=a::(ps.set j (b,ds)).map (·.1):=by unfold Jk;rw [Q2 (Qp.mp h).1,hs]
    rw [e2,hmap] at hc
    rw [oi]
    rcases Qf.mp hc with e | hc
    . exact .inl (by rw [e];exact Qi)
    . rcases Jd1 hc with e | ⟨t,_,ht⟩
      . exact .inr ⟨e,rfl⟩
      . exact .inl (Qj _ (Xg ht))
  . have e2:Jk (env.set i (.own2 none (ps.set j (b,ds)))) σ k=Jk env σ k:=by unfold Jk;rw [Q3 hk]
    rw [e2] at hc
    exact .inl hc
 refine ⟨⟨by rw [Qr];exact A.ev.len,λ k w e=>?_,A.ev.ch,λ c hc=>?_,C.S.keep A.ev.inv λ c hc o e=>by rw [Jf (λ z=>q.c (by rw [<- z];exact hc))];exact e⟩,A.ex0,A.al0,λ k l c q1 q2=>?_,λ k c q=>?_,Kp.late A.kp h0 _,λ x hx=>(A.held x hx).keep kx⟩
 . by_cases hk:i=k
   . subst hk
     rw [Q2 (Qp.mp h).1] at e
     cases e
     refine ⟨a,hs,⟨by rw [Jh,Js3];rfl,by rw [Qr];exact q.z,(λ l hl=>by cases hl),?_,q.m,q.c,λ t ht=>?_⟩⟩
     . rw [hmap]
       refine Xq.mpr ⟨λ z=>?_,Jq5 nd2.2 bp j⟩
       rcases Jd1 z with e | ⟨t,_,ht⟩
       . exact ba e.symm
       . exact nd2.1 (Xg ht)
     . rcases Jd1 ht with rfl | ⟨k,_,hk⟩
       . exact ⟨bm,bc,vs,by rw [Jf ba];exact hb,hz,r.keep kx⟩
       . have w:=q.i t (Xg hk)
         have ta:t.1≠a:=λ z=>nd2.1 (by rw [<- z];exact Qn.mpr ⟨t,Xg hk,rfl⟩)
         obtain ⟨us,g1,g2,g3⟩:=w.h
         exact ⟨w.m,w.c,us,by rw [Jf ta];exact g1,g2,g3.keep kx⟩
   . rw [Q3 hk] at e
     exact SlR.upd q.m (λ c hc z=>hk (A.sep i k a ha (by rw [Jbc e,<- z];exact hc))) (A.ev.sl k w e)
 . by_cases hc2:c=a
   . rw [hc2,Jh];intro z;cases z
   . rw [Jf hc2];exact A.ev.al c hc
 . rcases oo k c q1 with h1 | ⟨rfl,rfl⟩
   . rcases oo l c q2 with h2 | ⟨rfl,rfl⟩
     . exact A.sep k l c h1 h2
     . exact absurd h1 (bo k)
   . rcases oo l c q2 with h2 | ⟨_,rfl⟩
     . exact absurd h2 (bo l)
     . rfl
 . rcases oo k c q with h1 | ⟨rfl,_⟩
   . exact A.new k c h1
   . exact b0
end
def Js4 (te:TE) (i:Nat) (tx:TE):TS:=Jdo te (Jni (Zv i) tx Jfk)
theorem Jpi {X:Cx}{st:Stmt}{te tx:TE}{i:Nat}(h:PS X st (Jdo te (Jni (Zv i) tx Jfk))):PS X st (Js4 te i tx):=h
abbrev Jzo (i:Nat) (gx:GE) (gn:GN):GS:=λ G env n=>gn env n λ ds n1=>match env[i]? with
 | some (.own2 none ps)=>gx env n1 λ x n2=>(match x with
  | .int x=>∃ j,ixN ps.length x=some j/\∀ b:Addr,G.nx (env.set i (.own2 none (ps.set j (b,ds)))) n2
  | _=>False)
 | _=>False
instance sv_set2R {i:Nat}{te tx:TE}{gn:GN}{gx:GE} [E:NV te gn] [X:EV false tx gx]:SV (Js4 te i tx) (Jzo i gx gn):=⟨λ {C G D} O {ex env σ H n} A h=>by
 refine E.nv A.ev h λ ds n1 b vs H1 hd s1 hb hl hz r=>?_
 have A1:=A.more s1 hb (by rw [hl];exact Xs _)
 split at hd
 . rename_i ps e
   obtain ⟨a,ev,q⟩:=A1.ev.sl i _ e
   refine ⟨_,Jm ev,X.ev A1.ev hd λ x n2 xv H2 hx s2 rx=>?_⟩
   have A2:=A1.step s2
   have bc:b∉C.S.ch:=λ z=>C.S.dom A.ev.inv b z hb
   cases rx with
   | int x=>
    obtain ⟨j,hj,hq⟩:=hx
    obtain ⟨a2,ev2,q2⟩:=A2.ev.sl i _ e
    rw [ev] at ev2
    cases ev2
    refine ⟨a,Yx ps,x,j,rfl,rfl,q2.h,by unfold Yx;rw [Qb];exact hj,?_⟩
    exact O.nx (A2.row2 e ev Qi bc (s2.1 _ _ hl bc) hz (A1.ev.reps s2 r) (λ k z=>(Jam A.ev z).1 hb) (A.free hb)) (hq b)
   | none=>exact hx.elim
   | obj=>exact hx.elim
   | bool=>exact hx.elim
   | str=>exact hx.elim
   | tuple=>exact hx.elim
   | list=>exact hx.elim
 . exact hd.elim⟩
theorem Je1 {ex:List Addr}{H:Hp}:∀ {ds:List J9h}{vs:List V},ds.all Vv=true->Reps ex H ds vs->∀ ex',Reps ex' H ds vs
 | _,_,_,.nil,_=>.nil
 | d::ds,_,h,.cons r rs,ex'=>by
  rw [J31,Xw] at h
  exact .cons (Jgv h.1 r ex') (Je1 h.2 rs ex')
def Jx2 (K:Qc) (ta:TA):TI:=Jn0 K ta
theorem Jvy {X:Cx}{tg e:Expr}{K:Qc}{ta:TA}(h:PI X tg e (Jn0 K ta)):PI X tg e (Jx2 K ta):=h
abbrev J1q (t:GN):GN:=λ env n Q=>t env n λ ds n1=>∃ d e xs ys,ds=[d,e]/\Jn5 d=some xs/\Jn5 e=some ys/\(xs.all Vv=true/\ys.all Vv=true)/\Q (Vh xs ys) n1
instance ic_zip2 {K:Qc}{t:TA}{gt:GN} [A:DV false t gt]:IC (Jx2 K t) (J1q gt):=⟨λ {S ex env σ H n R P} E h k=>A.dv E h λ ds n1 vs H1 h1 s1 r1=>by
 obtain ⟨d,e,xs,ys,rfl,hs,hs',⟨c1,c2⟩,q⟩:=h1
 cases r1 with
 | cons r1 t=>
  cases t with
  | cons r2 t=>
   cases t
   obtain ⟨c,a,ws,rfl,hq,rs,hc,na⟩:=Jdv r1 hs
   obtain ⟨c',a',ws',rfl,hq',rs',hc',na'⟩:=Jdv r2 hs'
   refine ⟨c,c',a,a',ws,ws',rfl,hq K,hq' K,k _ _ _ _ q s1 λ l H2 hl kp al=>?_⟩
   have w1:=(Rep.add hl r1).keep kp
   have w2:=(Rep.add hl r2).keep kp
   obtain ⟨v1,h3,h4⟩:=Jb3 hs hc r1 _ H2 w1
   obtain ⟨v2,h5,h6⟩:=Jb3 hs' hc' r2 _ H2 w2
   exact Jn6 al (h3 K) (Je1 c1 h4 _) (h5 K) (Je1 c2 h6 _)⟩
noncomputable def B7 (R:Nat) (f:Nat->Nat->Bool) (a:Nat):List J9h:=(Ql R).map λ b=>.bool (f a b)
noncomputable def Bi (R:Nat) (f:Nat->Nat->Bool):List (List J9h):=(Ql R).map (B7 R f)
section
variable {R a x y:Nat}{f g:Nat->Nat->Bool}
theorem Jb5:(B7 R f a).length=R:=by unfold B7;rw [Qb,Qx]
theorem B8:(Bi R f).length=R:=by unfold Bi;rw [Qb,Qx]
theorem Jd2 (h:y<R):(B7 R f a)[y]? = some (.bool (f a y)):=by
 unfold B7;rw [Qh,Xk h];rfl
theorem Jax (h:x<R):(Bi R f)[x]? = some (B7 R f x):=by
 unfold Bi;rw [Qh,Xk h];rfl
theorem Jg8 (h:∀ b,b<R->f a b=g x b):B7 R f a=B7 R g x:=by
 unfold B7
 exact X5 λ b hb=>by rw [h b (Q6.mp hb)]
theorem Jg9 (h:∀ a,a<R->∀ b,b<R->f a b=g a b):Bi R f=Bi R g:=by
 unfold Bi
 exact X5 λ a ha=>Jg8 (h a (Q6.mp ha))
theorem Jmc (hx:x<R) (h2:∀ a,a<R->a≠x->∀ b,b<R->g a b=f a b) {r:List J9h}(hr:r=B7 R g x):(Bi R f).set x r=Bi R g:=by
 apply Xu
 intro i
 by_cases hi:x=i
 . subst hi
   rw [Q2 (by rw [B8];exact hx),Jax hx,hr]
 . rw [Q3 hi]
   by_cases hl:i<R
   . rw [Jax hl,Jax hl,Jg8 λ b hb=>(h2 i hl (λ z=>hi z.symm) b hb).symm]
   . rw [Qy (by rw [B8];omega),Qy (by rw [B8];omega)]
theorem Js5 (hy:y<R) {v:Bool}(h1:g a y=v) (h2:∀ b,b<R->b≠y->g a b=f a b):(B7 R f a).set y (.bool v)=B7 R g a:=by
 apply Xu
 intro i
 by_cases hi:y=i
 . subst hi
   rw [Q2 (by rw [Jb5];exact hy),Jd2 hy,h1]
 . rw [Q3 hi]
   by_cases hl:i<R
   . rw [Jd2 hl,Jd2 hl,h2 i hl λ z=>hi z.symm]
   . rw [Qy (by rw [Jb5];omega),Qy (by rw [Jb5];omega)]
theorem Jjj:(B7 R f a).all Vv=true:=by
 unfold B7
 rw [X3]
 intro x hx
 obtain ⟨b,_,rfl⟩:=Qn.mp hx
 rfl
theorem Jpj:(Vh (B7 R f a) (B7 R f x))=(Ql R).map λ b=>.tuple [.bool (f a b),.bool (f x b)]:=by
 unfold Vh B7
 rw [List.zipWith_map_left,List.zipWith_map_right,List.zipWith_self]
end
theorem Jmd {ps:List (Addr×List J9h)}{m:List (List J9h)}(h:ps.map (·.2)=m) {x:Nat}{r:List J9h}(hr:m[x]? = some r):∃ p,ps[x]? = some p/\p.2=r:=by
 subst h
 rw [Qh] at hr
 exact X7.mp hr
theorem Jha {ps:List (Addr×List J9h)}{m:List (List J9h)}(h:ps.map (·.2)=m):ps.length=m.length:=by rw [<- h,Qb]
theorem Jme {ps:List (Addr×List J9h)}{m m':List (List J9h)}(h:ps.map (·.2)=m) {x:Nat}{b:Addr}{r:List J9h}(hr:m.set x r=m'):(ps.set x (b,r)).map (·.2)=m':=by rw [X6,h];exact hr
theorem Jkk {ps:List (Addr×List J9h)}{R:Nat}{f:Nat->Nat->Bool}(h:ps.map (·.2)=Bi R f) {x:Int}(h0:0<=x) (h1:x<R):atI (ps.map λ p=>X4 p.2) x=some (.list (B7 R f x.toNat)):=by
 have hx:x.toNat<R:=by omega
 obtain ⟨p,hp,e⟩:=Jmd h (Jax (f:=f) hx)
 unfold atI
 rw [Qb,Jba h0 (by rw [Jha h,B8];exact h1)]
 show (ps.map λ p=>X4 p.2)[x.toNat]? = _
 rw [Qh,hp,<- e];rfl
theorem Jkl {R a:Nat}{f:Nat->Nat->Bool}{y:Int}(h0:0<=y) (h1:y<R):atI (B7 R f a) y=some (.bool (f a y.toNat)):=by
 unfold atI
 rw [Jb5,Jba h0 h1]
 exact Jd2 (by omega)
theorem Jmf {turn:J9h->Nat->(List J9h->Nat->Prop)->Prop}{n:Nat}(f:Nat->List J9h) {e:Nat->J9h}:∀ (l:List Nat) {Q:List (List J9h)->Nat->Prop},(∀ i∈l,∀ K:List J9h->Nat->Prop,K (f i) n->turn (e i) n K)->Q (l.map f) n->Jkh turn (l.map e) n Q
 | [],_,_,q=>q
 | i::l,Q,h,q=>by
  show turn (e i) n _
  exact h i Qi _ (Jmf f l (λ j hj=>h j (Qj _ hj)) q)
noncomputable def Ym (ws:List Way) (ks:List Int):List (Nat×Nat):=ks.map λ k=>((Jc ws k).a.toNat,(Jc ws k).b.toNat)
noncomputable def pw0 (es:List (Nat×Nat)) (a b:Nat):Bool:=decide (a=b)||decide ((a,b)∈es)
noncomputable def pwR (es:List (Nat×Nat)) (m r a b:Nat):Bool:=if a<r then Pw es (m+1) a b else Pw es m a b
theorem Jvz {es:List (Nat×Nat)}{m r b:Nat}:pwR es m r m b=Pw es m m b:=by
 unfold pwR
 split
 . rw [Pw]
   cases Pw es m m b<;>simp
 . rfl
theorem Jkm {es:List (Nat×Nat)}{a b x y:Nat}:pw0 (es++[(a,b)]) x y=(pw0 es x y||decide (x=a/\y=b)):=by
 unfold pw0
 rw [Bool.or_assoc]
 congr 1
 rw [<- Bool.decide_or]
 exact decide_eq_decide.mpr (by rw [Q8,Qs,Prod.mk.injEq])
theorem Jv0 {R a b:Nat}{es:List (Nat×Nat)}(ha:a<R) (hb:b<R):(Bi R (pw0 es)).set a ((B7 R (pw0 es) a).set b (.bool true))=Bi R (pw0 (es++[(a,b)])):=by
 refine Jmc ha (λ x _ hx y _=>?_) (Js5 hb ?_ λ y _ hy=>?_)
 . rw [Jkm,decide_eq_false λ z=>hx z.1,J44]
 . rw [Jkm,decide_eq_true ⟨rfl,rfl⟩,J78]
 . rw [Jkm,decide_eq_false λ z=>hy z.2,J44]
theorem Jhb {es:List (Nat×Nat)}{m r b:Nat}:pwR es m r r b=Pw es m r b:=if_neg (Xc r)
theorem Jv1 {R m r:Nat}{es:List (Nat×Nat)}(hr:r<R) (h:Pw es m r m=true):(Bi R (pwR es m r)).set r ((Ql R).map λ b=>.bool (pwR es m r r b||pwR es m r m b))=Bi R (pwR es m (r+1)):=by
 refine Jmc hr (λ x _ hx y _=>?_) ?_
 . unfold pwR
   by_cases c:x<r
   . rw [if_pos c,if_pos (by omega)]
   . rw [if_neg c,if_neg (by omega)]
 . unfold B7
   refine X5 λ b _=>?_
   rw [Jhb,Jvz,pwR,if_pos (by omega),Pw,h,J45]
theorem Jzp {R m r:Nat}{es:List (Nat×Nat)}(h:Pw es m r m=false):Bi R (pwR es m r)=Bi R (pwR es m (r+1)):=by
 refine Jg9 λ x _ y _=>?_
 unfold pwR
 by_cases c:x<r
 . rw [if_pos c,if_pos (by omega)]
 . rw [if_neg c]
   by_cases e:x=r
   . subst e
     rw [if_pos (by omega),Pw,h,J3u,J44]
   . rw [if_neg (by omega)]
theorem J1r {es:List (Nat×Nat)}{m:Nat}:pwR es m 0=Pw es m:=by
 funext a b
 exact if_neg (J6n a)
theorem Jv2 {R m:Nat}{es:List (Nat×Nat)}:Bi R (pwR es m R)=Bi R (Pw es (m+1)):=Jg9 λ _ hx _ _=>if_pos hx
theorem Jzq {es:List (Nat×Nat)}:pw0 es=Pw es 0:=by
 funext a b
 rw [Pw];rfl
theorem Jpk {k i:Nat}{x:J9h}(h:(Jfx 0 k)[i]? = some x):i<k/\x = .int (i:Int):=by
 unfold Jfx at h
 rw [Qh] at h
 obtain ⟨j,hj,rfl⟩:=X7.mp h
 obtain ⟨hi,e⟩:=Qp.mp hj
 rw [List.getElem_range] at e
 subst e
 rw [Qx] at hi
 exact ⟨hi,by rw [U6]⟩
noncomputable def Jkn (R:Nat) (es:List (Nat×Nat)):J9h:=.list ((Bi R (Pw es R)).map .list)
def Jko:GSp:=λ as n Q=>∃ (R U:Int) (ws:List Way) (ks:List Int),as=[.d (J0 R U ws),.d (.list (ks.map .int))]/\BookOk R U ws/\(∀ k∈ks,0<=k/\k<ws.length)/\Q (Jkn R.toNat (Ym ws ks)) n
theorem Js6 {ps:List (Addr×List J9h)}{R:Nat}{es:List (Nat×Nat)}(h:ps.map (·.2)=Bi R (Pw es R)):X4 (ps.map λ p=>.list p.2)=Jkn R es:=by
 unfold Jkn
 rw [<- h,Qv];rfl
theorem Jq6 {ws:List Way}{ks:List Int}{i:Nat}{k:Int}(h:ks[i]? = some k):Ym ws (ks.take (i+1))=Ym ws (ks.take i)++[((Jc ws k).a.toNat,(Jc ws k).b.toNat)]:=by
 unfold Ym
 rw [J46,h,Xd];rfl
section
variable {X:Cx}{pins:List (Addr×Obj)}{σ:L2.St}{H:Hp}{s:J9i}{a:Addr}{kvs:List (Key×V)}{k:Key}{u:J9g}{A:J9m}{E:J9g->J9i->Prop}
theorem Js7 {r:J9g}{z:V}{Q:J9g->J9i->Prop}(I:Inv X pins σ H s) (e:H a=some (.dK kvs)) (hl:kvs.length<sizeLine) (ry:Yo (kV k) u) (rz:Yo z r)
 (h1:∀ v w' s',Jdp kvs k=some v->Inv X pins σ H s'->Yo v w'->Q w' s') (h2:Jdp kvs k=none->∀ s',Inv X pins σ (upd H a (.dK (Jfu kvs k z))) s'->Q r s') :
 J9j (model X.prog X.w) A (call (.builtin "dict.setdefault") [.ref a,u,r]) Q E s:=by
 obtain ⟨zz,hd,vs,rel,dd⟩:=Jxj I.hok e
 refine call_meetsIn J8e dd.typeIs PySem.F.entry_dict_setdefault (PySem.F.args_dict_setdefault_3 _ _ _) (kt_meets_setdefault (Zw X.prog X.w) a (Jxg ry) hd r) ⟨vs,dd,by rw [<- rel.length];exact zz,λ w' hw=>?_,λ hn h' dd' hs=>?_⟩
 . cases l:Jdp kvs k with
   | none=>
    have:=Jdm.none_of (o:=valueAt vs k) (by rw [<- l];exact rel.val k)
    rw [this] at hw
    cases hw
   | some v=>
    obtain ⟨w2,e2,r2⟩:=Jdm.some_of (v:=v) (o:=valueAt vs k) (by rw [<- l];exact rel.val k)
    rw [e2] at hw
    cases hw
    exact h1 v _ _ l (I.tok _) r2
 . cases l:Jdp kvs k with
   | some v=>
    obtain ⟨w2,e2,r2⟩:=Jdm.some_of (v:=v) (o:=valueAt vs k) (by rw [<- l];exact rel.val k)
    rw [e2] at hn
    cases hn
   | none=>
    refine h2 l _ ?_
    have he:∃ q,h'.get? a=some q:=let ⟨q,_,_,hq,_⟩:=dd';⟨q,hq⟩
    have hl':(Jfu kvs k z).length<=sizeLine:=by have:=Jlr kvs k z;omega
    exact Jvk I (by rw [e];exact U1) hs he (Jy1 hl' hd (rel.put k rz) dd')
end
def Js8 (td ty tx:TE):TE:=λ σ H Q=>td σ H λ x H1=>∃ a,x = .ref a/\IsD H1 a/\ty σ H1 λ y H2=>tx σ H2 λ z H3=>∃ kvs k,H3 a=some (.dK kvs)/\y=kV k/\kvs.length<sizeLine /\
 (∀ v,Jdp kvs k=some v->Q v H3)/\(Jdp kvs k=none->Q z (upd H3 a (.dK (Jfu kvs k z))))
def Js9 (td:TE):TE:=λ σ H Q=>td σ H λ x H1=>∃ a kvs,x = .ref a/\H1 a=some (.dK kvs)/\∀ p,H1 p=none->Q (.ref p) (upd H1 p (.lst (kvs.map (·.2))))
theorem Jv3:∀ {kvs:List (Key×V)}{vs:List (Key×J9g)},KV kvs vs->J9 (kvs.map (·.2)) (vs.map (·.2)):=by
 intro kvs vs r
 unfold KV at r
 induction r with
 | nil=>exact .nil
 | cons h _ ih=>exact .cons h.2 ih
section
variable {X:Cx}{o e f:Expr}{apos cpos p pos:Pos}{td ty tx:TE}
theorem Jta (ho:PE X o td) (he:PE X e ty) (hf:PE X f tx) (m:M2 X o "setdefault" apos e f cpos):PE X (.Call (.Attribute o "setdefault" apos) [e,f] [] cpos) (Js8 td ty tx):=by
 intro pins s σ H Q I h
 refine wpAny_Call_method m.base m.few m.line J8f J8e PySem.F.type_dict_setdefault (thn (ho pins s σ H _ I h) λ u s1 ⟨x,H1,I1,rx,a,ex,d,q1⟩=>?_)
 subst ex
 obtain rfl:u=Q4 a:=rx
 obtain ⟨t1,t2,_⟩:=Jsi I1 d
 refine ⟨t1,t2,?_⟩
 rw [m.trees]
 refine J56 rfl (J7o (J3j (thn (he pins s1 σ H1 _ I1 q1) λ iv s2 ⟨y,H2,I2,ry,q2⟩=>
  J3j (thn (hf pins s2 σ H2 _ I2 q2) λ fv s3 ⟨z,H3,I3,rz,kvs,k,ea,ey,hl,q3,q4⟩=>J3y ?_))))
 subst ey
 exact Js7 I3 ea hl ry rz (λ v w' s4 l I4 rw'=>⟨v,H3,I4,rw',q3 v l⟩) λ l s4 I4=>⟨z,_,I4,rz,q4 l⟩
theorem Jtb (hh:X.A.handled=none) (hg:Gl X "list") (hm:X.mg "list" = none) (ho:PE X o td)
 (hbase:Yab o "values" X.env (eval o X.env)=eval o X.env:=by rfl) (hline:(apos.endLine==cpos.line)=true:=by rfl)
 (he:starEach [.Call (.Attribute o "values" apos) [] [] cpos] X.env=[(false,eval (.Call (.Attribute o "values" apos) [] [] cpos) X.env)]:=by rfl)
 (ht:backTo pos (starEach [.Call (.Attribute o "values" apos) [] [] cpos] X.env)=[(false,eval (.Call (.Attribute o "values" apos) [] [] cpos) X.env)]:=by rfl) :
 PE X (.Call (.Name "list" p) [.Call (.Attribute o "values" apos) [] [] cpos] [] pos) (Js9 td):=by
 intro pins s σ H Q I h
 refine J94 (Bs I hg hm J90 ?_ (by decide) (by decide))
 refine Uz ?_ he rfl
 rw [ht]
 refine J3j (wpAny_Call_method0_late hbase hline (thn (ho pins s σ H _ I h) λ v s1 ⟨x,H1,I1,r1,a,kvs,ex,ea,q1⟩=>?_))
 subst ex
 obtain rfl:v=Q4 a:=r1
 obtain ⟨t1,t2,hd⟩:=Jsi I1 (.inl ⟨kvs,.inl ea⟩)
 obtain ⟨z,_,vs,rel,dd⟩:=Jxj I1.hok ea
 refine ⟨"dict","dict.values",J8f,J8g,PySem.F.type_dict_values,t1,t2,J56 rfl (PySem.evalArgs_none ?_)⟩
 refine call_meetsIn J8g dd.typeIs PySem.F.entry_dict_values (PySem.F.args_dict_values_1 _) (meets_dict_values (Zw X.prog X.w) a hd) ⟨⟨vs,dd⟩,?_⟩
 refine J3y ?_
 obtain ⟨ep,hat⟩:=dd.dictAt
 refine PySem.W.kdl_call (PySem.W.kdl_values (knd:=Zw X.prog X.w) (kvs:=vs) (ep:=ep)) hh ⟨⟨_,Q9 _ rfl,rfl,rfl⟩,hat.push _⟩ (by rw [<- rel.length];exact z) λ h' tk acc' c' hk hD hacc=>?_
 have ev:=PySem.W.kdl_vals_eq acc'.toList (by rw [J5r];exact hacc.1) λ j v e=>hacc.2 j v (by rw [<- Array.getElem?_toList];exact e)
 have hsz:s1.heap.objs.size<=(s1.heap.push { cls:=.type "dict_values",data:=.fields #[.ref a] }).objs.size:=by
  show s1.heap.objs.size<=(s1.heap.objs.push _).size
  rw [Array.size_push];omega
 exact ⟨.ref _,_,I1.laid (t':=tk) (λ b o' q=>hk b o' (Qu _ q)) hsz (show Y3 X.prog X.w _ h' _ (.lst (kvs.map (·.2))) from ⟨by rw [Qb];exact z,acc'.toList,c',by rw [ev];exact Jv3 rel,by rw [Array.toArray_toList];exact hD⟩),rfl,q1 _ (I1.hok.fresh hsz)⟩
end
theorem Jhc {ps:List (Addr×List J9h)}:(Yx ps).length=ps.length:=by unfold Yx;rw [Qb]
theorem Jtc {ps qs:List (Addr×List J9h)}:Yx (ps++qs)=Yx ps++Yx qs:=by unfold Yx;rw [Xd]
theorem Jv4 {ks:List Key}{vs:List V}{k:Key}(h:k∉ks):((ks.zip vs).any λ kv=>decide (kv.1=k))=false:=by
 rw [J5x]
 intro x hx e
 exact h (of_decide_eq_true e▸(U9 (show (x.1,x.2)∈ks.zip vs from hx)).1)
theorem Jv5 {ks:List Key}{ps:List (Addr×List J9h)}{k:Key}{b:Addr}{ds:List J9h}(hl:ks.length=ps.length) (h:k∉ks):Jfu (ks.zip (Yx ps)) k (.ref b)=(ks++[k]).zip (Yx (ps++[(b,ds)])):=by
 unfold Jfu
 rw [if_neg (by rw [Jv4 h];exact Xe),Jtc,List.zip_append (by rw [Jhc,hl])]
 rfl
theorem Jpl:∀ {ks:List Key}{ps:List (Addr×List J9h)}{k:Key}{v:V},Jdp (ks.zip (Yx ps)) k=some v->∃ (m:Nat) (p:Addr×List J9h),ks[m]? = some k/\ps[m]? = some p/\v = .ref p.1
 | [],ps,k,v,h=>by rw [List.zip_nil_left] at h;cases h
 | c::ks,[],k,v,h=>by cases h
 | c::ks,q::ps,k,v,h=>by
  by_cases e:c=k
  . rw [show ((c::ks).zip (Yx (q::ps)))=(c,V.ref q.1)::ks.zip (Yx ps) from rfl,Jgn (show (c,V.ref q.1).1=k from e)] at h
    cases h
    exact ⟨0,q,by rw [<- e];rfl,rfl,rfl⟩
  . rw [show ((c::ks).zip (Yx (q::ps)))=(c,V.ref q.1)::ks.zip (Yx ps) from rfl,Jgo (show ¬ (c,V.ref q.1).1=k from e)] at h
    obtain ⟨m,p,h1,h2,h3⟩:=Jpl h
    exact ⟨m+1,p,h1,h2,h3⟩
theorem Jmg:∀ {ks:List Key}{ps:List (Addr×List J9h)}{k:Key},ks.length=ps.length->Jdp (ks.zip (Yx ps)) k=none->k∉ks
 | [],_,_,_,_,h=>by cases h
 | c::ks,[],k,hl,_,_=>by cases hl
 | c::ks,q::ps,k,hl,h,hm=>by
  rw [show ((c::ks).zip (Yx (q::ps)))=(c,V.ref q.1)::ks.zip (Yx ps) from rfl] at h
  by_cases e:c=k
  . rw [Jgn (show (c,V.ref q.1).1=k from e)] at h
    cases h
  . rw [Jgo (show ¬ (c,V.ref q.1).1=k from e)] at h
    rcases Qf.mp hm with z | hm
    . exact e z.symm
    . exact Jmg (J8h hl) h hm
section
variable {C:Cv}{ex:List Addr}{env:List Vl}{σ:L2.St}{H H':Hp}{n m:Nat}
theorem At.add2 (A:At C ex env σ H n) {i:Nat}{ks:List Key}{k:Key}{ps:List (Addr×List J9h)}{ds:List J9h}{vs:List V}{a b:Addr}(h:env[i]? = some (.own2 (some ks) ps)) (hs:(σ[i]?).join=some (.ref a)) (hk:k∉ks) (hz1:ps.length<1000000) (bm:b∈ex) (bc:b∉C.S.ch) (hb:H b=some (.lst vs)) (hz:vs.length<=sizeLine) (r:Reps ex H ds vs) (bo:∀ k,b∉Jk env σ k) (b0:C.H0 b=none) :
 At C ex (env.set i (.own2 (some (ks++[k])) (ps++[(b,ds)]))) σ (upd H a (.dK (Jfu (ks.zip (Yx ps)) k (.ref b)))) n:=by
 obtain ⟨a',e',q⟩:=A.ev.sl i _ h
 rw [hs] at e'
 cases e'
 have oi:Jk env σ i=a::ps.map (·.1):=by unfold Jk;rw [h,hs]
 have ha:a∈Jk env σ i:=by rw [oi];exact Qi
 have bi:=bo i
 rw [oi] at bi
 have ba:b≠a:=λ z=>bi (by rw [z];exact Qi)
 have bp:b∉ps.map (·.1):=λ z=>bi (Qj _ z)
 have h0:=A.new i a ha
 have kx:Kp ex H (upd H a (.dK (Jfu (ks.zip (Yx ps)) k (.ref b)))):=Kp.at q.m _
 have hmap:(ps++[(b,ds)]).map (·.1)=ps.map (·.1)++[b]:=by rw [Xd];rfl
 have nd2:=Xq.mp q.nd
 have oo:∀ k' c,c∈Jk (env.set i (.own2 (some (ks++[k])) (ps++[(b,ds)]))) σ k'->c∈Jk env σ k'\/(c=b/\k'=i):=λ k' c hc=>by
  by_cases hk:i=k'
  . subst hk
    have e2:Jk (env.set i (.own2 (some (ks++[k])) (ps++[(b,ds)]))) σ i=a::(ps++[(b,ds)]).map (·.1):=by unfold Jk;rw [Q2 (Qp.mp h).1,hs]
    rw [e2,hmap] at hc
    rw [oi]
    rcases Qf.mp hc with e | hc
    . exact .inl (by rw [e];exact Qi)
    . rcases Q8.mp hc with hc | hc
      . exact .inl (Qj _ hc)
      . exact .inr ⟨Qs.mp hc,rfl⟩
  . have e2:Jk (env.set i (.own2 (some (ks++[k])) (ps++[(b,ds)]))) σ k'=Jk env σ k':=by unfold Jk;rw [Q3 hk]
    rw [e2] at hc
    exact .inl hc
 refine ⟨⟨by rw [Qr];exact A.ev.len,λ k' w e=>?_,A.ev.ch,λ c hc=>?_,C.S.keep A.ev.inv λ c hc o e=>by rw [Jf (λ z=>q.c (by rw [<- z];exact hc))];exact e⟩,A.ex0,A.al0,λ k' l c q1 q2=>?_,λ k' c q=>?_,Kp.late A.kp h0 _,λ x hx=>(A.held x hx).keep kx⟩
 . by_cases hk':i=k'
   . subst hk'
     rw [Q2 (Qp.mp h).1] at e
     cases e
     refine ⟨a,hs,⟨by rw [Jh,Jv5 (ds:=ds) (q.k ks rfl) hk];rfl,by rw [Q7,Uj];omega,(λ l hl=>by cases hl;rw [Q7,Q7,q.k ks rfl];rfl),?_,q.m,q.c,λ t ht=>?_⟩⟩
     . rw [hmap]
       refine Xq.mpr ⟨λ z=>?_,?_⟩
       . rcases Q8.mp z with z | z
         . exact nd2.1 z
         . exact ba (Qs.mp z).symm
       . rw [J42]
         refine ⟨nd2.2,by simp,λ x hx y hy=>?_⟩
         rw [Qs] at hy
         rintro rfl
         exact bp (hy▸hx)
     . rcases Q8.mp ht with ht | ht
       . have w:=q.i t ht
         have ta:t.1≠a:=λ z=>nd2.1 (by rw [<- z];exact Qn.mpr ⟨t,ht,rfl⟩)
         obtain ⟨us,g1,g2,g3⟩:=w.h
         exact ⟨w.m,w.c,us,by rw [Jf ta];exact g1,g2,g3.keep kx⟩
       . rw [Qs] at ht
         subst ht
         exact ⟨bm,bc,vs,by rw [Jf ba];exact hb,hz,r.keep kx⟩
   . rw [Q3 hk'] at e
     exact SlR.upd q.m (λ c hc z=>hk' (A.sep i k' a ha (by rw [Jbc e,<- z];exact hc))) (A.ev.sl k' w e)
 . by_cases hc2:c=a
   . rw [hc2,Jh];intro z;cases z
   . rw [Jf hc2];exact A.ev.al c hc
 . rcases oo k' c q1 with h1 | ⟨rfl,rfl⟩
   . rcases oo l c q2 with h2 | ⟨rfl,rfl⟩
     . exact A.sep k' l c h1 h2
     . exact absurd h1 (bo k')
   . rcases oo l c q2 with h2 | ⟨_,rfl⟩
     . exact absurd h2 (bo l)
     . rfl
 . rcases oo k' c q with h1 | ⟨rfl,_⟩
   . exact A.new k' c h1
   . exact b0
end
def Jtd (i:Nat):TS:=Jdo Jnw (Bm i)
theorem Jte {X:Cx}{st:Stmt}{i:Nat}(h:PS X st (Jdo Jnw (Bm i))):PS X st (Jtd i):=h
abbrev Jzr (i:Nat):GS:=λ G env n=>G.nx (env.set i (.own2 (some []) [])) n
instance sv_dnew2 {i:Nat}:SV (Jtd i) (Jzr i):=⟨λ {C G D} O {ex env σ H n} A h=>by
 intro p hp
 refine O.nx (A.own2 (ks:=some []) (ps:=[]) (m:=n) (H':=upd H p (.dK [])) ⟨Kp.new hp _,C.S.keep A.ev.inv λ b _ o e=>Kp.new (ex:=[]) hp _ _ _ e (by simp)⟩ hp (λ q hq=>by cases hq) ⟨by rw [Jh];rfl,Xz _,(λ l hl=>by cases hl;rfl),by simp,Qi,λ z=>C.S.dom A.ev.inv p z hp,λ q hq=>by cases hq⟩) h⟩
abbrev Jx3 (i:Nat) (gy:GE) (gx:GN) (ge:GE):GS:=λ G env n=>match env[i]? with
 | some (.own2 (some ks) ps)=>gy env n λ y n1=>(match y with
  | .int j=>gx env n1 λ ds n2=>ds=[]/\(Xh j∈ks->ge env n2 λ d n3=>∀ m p,ks[m]? = some (Xh j)->ps[m]? = some p->p.2.length<sizeLine/\G.nx (env.set i (.own2 (some ks) (ps.set m (p.1,p.2++[d])))) n3) /\
   (Xh j∉ks->ps.length<1000000/\∀ b,ge (env.set i (.own2 (some (ks++[Xh j])) (ps++[(b,[])]))) n2 λ d n3=>G.nx (env.set i (.own2 (some (ks++[Xh j])) (ps++[(b,[d])]))) n3)
  | _=>False)
 | _=>False
instance sv_setd {K:Qc}{i:Nat}{ty tx te:TE}{gy ge:GE}{gx:GN} [Y:EV false ty gy] [N:NV tx gx] [E:EV true te ge]:SV (Jry (tBM K "list" Jj0 (Js8 (Zv i) ty tx) (Yq te Jbr))) (Jx3 i gy gx ge):=⟨λ {C G D} O {ex env σ H n} A h=>by
 unfold Jx3 at h
 split at h
 . rename_i ks ps e
   obtain ⟨a,ev,q⟩:=A.ev.sl i _ e
   refine ⟨_,Jm ev,a,rfl,.inl ⟨_,.inl q.h⟩,Y.ev A.ev h λ y n1 yv H1 hy s1 ry=>?_⟩
   have A1:=A.step s1
   cases ry with
   | int j=>
    refine N.nv A1.ev hy λ ds n2 b vs H2 hds s2 hb hl hz r=>?_
    obtain ⟨rfl,hin,hout⟩:=hds
    cases r
    have A2:=A1.more s2 hb (by rw [hl];exact Xs _)
    have bc:b∉C.S.ch:=λ z=>C.S.dom A1.ev.inv b z hb
    obtain ⟨a2,ev2,q2⟩:=A2.ev.sl i _ e
    rw [ev] at ev2
    cases ev2
    have hlen:=q2.k ks rfl
    have hzl:=q2.z
    refine ⟨ks.zip (Yx ps),Xh j,q2.h,rfl,by rw [J4c,Jhc,J9n];omega,λ v hv=>?_,λ hn=>?_⟩
    . obtain ⟨m,p,hm,hp,rfl⟩:=Jpl hv
      have w:=q2.i p (Xg hp)
      obtain ⟨us,g1,g2,g3⟩:=w.h
      refine ⟨.inl ⟨rfl,_,SqL.of g1⟩,E.ev A2.ev (hin (Xg hm)) λ d n3 v H3 hd s3 rd=>?_⟩
      obtain ⟨hlt,hnx⟩:=hd m p hm hp
      have g3':=A2.ev.reps s3 g3
      have l:=g3.length
      exact ⟨p.1,us,v,rfl,rfl,s3.1 _ _ g1 w.c,by rw [<- l];exact hlt,O.nx ((A2.step s3).re2 e ev hp (Reps.append g3' (.cons rd .nil)) (by rw [Q7,Uj,<- l];exact hlt)) hnx⟩
    . have hk:=Jmg hlen hn
      obtain ⟨hps,hq⟩:=hout hk
      have A3:=A2.add2 (k:=Xh j) (ds:=[]) e ev hk hps Qi bc hl hz .nil (λ k z=>(Jam A1.ev z).1 hb) (A1.free hb)
      have hba:b≠a:=λ z=>(Jam A1.ev (show a∈Jk env σ i by unfold Jk;rw [e,ev];exact Qi)).1 (by rw [<- z];exact hb)
      have hb3:upd H2 a (.dK (Jfu (ks.zip (Yx ps)) (Xh j) (.ref b))) b=some (.lst []):=by rw [Jf hba];exact hl
      refine ⟨.inl ⟨rfl,_,SqL.of hb3⟩,E.ev A3.ev (hq b) λ d n3 v H3 hd s3 rd=>?_⟩
      have il:i<env.length:=(Qp.mp e).1
      have A5:=(A3.step s3).re2 (j:=ps.length) (p:=(b,[])) (ys:=[d]) (ws:=[v]) (Q2 il) ev (by rw [U2 (Qm _),J4d];rfl) (.cons rd .nil) (by rw [J9n];exact Xl rfl)
      rw [J6s,J8i _ _ (Qm _),J4d] at A5
      exact ⟨b,[],v,rfl,rfl,s3.1 _ _ hb3 bc,by rw [J9n];exact Xl rfl,O.nx A5 hd⟩
   | none=>exact hy.elim
   | obj=>exact hy.elim
   | bool=>exact hy.elim
   | str=>exact hy.elim
   | list=>exact hy.elim
   | tuple=>exact hy.elim
 . exact h.elim⟩
theorem Jv6 {ks:List Key}{vs:List V}(h:ks.length=vs.length):(ks.zip vs).map (·.2)=vs:=by
 induction ks generalizing vs with
 | nil=>cases vs with
  | nil=>rfl
  | cons=>cases h
 | cons k ks ih=>cases vs with
  | nil=>cases h
  | cons v vs=>
   show v::(ks.zip vs).map (·.2)=_
   rw [ih (J8h h)]
abbrev Jmh (i:Nat):GS:=λ G env n=>match env[i]? with
 | some (.own2 (some _) ps)=>G.rt2 (ps.map (·.2)) n
 | _=>False
instance (priority:=high) sv_retVals {i:Nat}:SV (Jrz (Js9 (Zv i))) (Jmh i):=⟨λ {C G D} O {ex env σ H n} A h=>by
 unfold Jmh at h
 split at h
 . rename_i ks ps e
   obtain ⟨a,ev,q⟩:=A.ev.sl i _ e
   refine ⟨_,Jm ev,a,_,rfl,q.h,λ p hp=>?_⟩
   rw [Jv6 (by rw [Jhc];exact q.k ks rfl)]
   have s:Yv C.S n H (upd H p (.lst (Yx ps))):=⟨Kp.new hp _,C.S.keep A.ev.inv λ b _ o e=>Kp.new (ex:=[]) hp _ _ _ e (by simp)⟩
   have oi:Jk env σ i=a::ps.map (·.1):=by unfold Jk;rw [e,ev]
   have pn:∀ x∈ps,x.1≠p:=λ x hx z=>by
    obtain ⟨vs,g1,_⟩:=(q.i x hx).h
    rw [z,hp] at g1;cases g1
   have pex:p∉ex:=λ z=>A.ev.al p z hp
   refine O.r2 ⟨(A.step s).kp,s.2,A.free hp,λ x hx=>A.new i x.1 (by rw [oi];exact Qj _ (Qn.mpr ⟨x,hx,rfl⟩)),⟨Jh,q.z,λ l hl=>(by cases hl),?_,Xn _ Qi,λ z=>pex (A.ev.ch p z),λ x hx=>?_⟩⟩ h
   . refine Xq.mpr ⟨λ z=>?_,(Xq.mp q.nd).2⟩
     obtain ⟨x,hx,e⟩:=Qn.mp z
     exact pn x hx e
   . have w:=q.i x hx
     obtain ⟨vs,g1,g2,g3⟩:=w.h
     refine ⟨Xn _ (Qj _ (Qn.mpr ⟨x,hx,rfl⟩)),w.c,vs,by rw [Jf (pn x hx)];exact g1,g2,?_⟩
     have g4:Reps (p::ex) H x.2 vs:=Reps.add hp g3
     refine Reps.mono (λ b hb=>?_) (g4.keep (Kp.new hp _))
     rcases Q8.mp hb with hb | hb
     . rcases Qf.mp hb with rfl | hb
       . exact Qi
       . obtain ⟨y,hy,rfl⟩:=Qn.mp hb
         exact Qj _ (q.i y hy).m
     . exact Qj _ (A.ex0 b hb)
 . exact h.elim⟩
noncomputable def Bb (g:List (Int×List Int)) (key k:Int):List (Int×List Int):=if key∈g.map (·.1) then g.map λ p=>if p.1=key then (p.1,p.2++[k]) else p else g++[(key,[k])]
noncomputable def Yw (R:Nat) (es:List (Nat×Nat)) (a:Nat):List Nat:=(Ql R).filter λ x=>Pw es R a x&&Pw es R x a
noncomputable def Y0 (R:Nat) (es:List (Nat×Nat)) (a:Nat):Int:=(((Yw R es a).headD 0:Nat):Int)
noncomputable def Zp (R:Nat) (es:List (Nat×Nat)) (ws:List Way) (g:List (Int×List Int)) (k:Int):List (Int×List Int):=if Pw es R (Jc ws k).b.toNat (Jc ws k).a.toNat=true then Bb g (Y0 R es (Jc ws k).a.toNat) k else g
noncomputable def Ve (R:Nat) (es:List (Nat×Nat)) (ws:List Way) (ks:List Int):List (Int×List Int):=ks.foldl (Zp R es ws) []
noncomputable def Z6 (R:Nat) (ws:List Way) (ks:List Int):List (List Int):=(Ve R (Ym ws ks) ws ks).map (·.2)
noncomputable def Jkp (rs:List (List Int)):J9h:=.list (rs.map λ r=>.list (r.map .int))
def Jf7:GSp:=λ as n Q=>∃ (R U:Int) (ws:List Way) (ks:List Int),as=[.d (J0 R U ws),.d (.list (ks.map .int))]/\BookOk R U ws/\(∀ k∈ks,0<=k/\k<ws.length)/\ks.length<=1000/\Q (Jkp (Z6 R.toNat ws ks)) n
theorem Jkq {R:Nat}{es:List (Nat×Nat)}{ws:List Way}{ks:List Int}{i:Nat}{k:Int}(h:ks[i]? = some k):Ve R es ws (ks.take (i+1))=Zp R es ws (Ve R es ws (ks.take i)) k:=by
 unfold Ve
 rw [J46,h,J47];rfl
theorem Jtf {R a:Nat}{es:List (Nat×Nat)}{m:Int}(hm:m∈(Yw R es a).map (λ j:Nat=>(j:Int))) (hmin:∀ n∈(Yw R es a).map (λ j:Nat=>(j:Int)),m<=n):m=Y0 R es a:=by
 have hp:(Yw R es a).Pairwise (· < ·):=J9d _ J6t
 unfold Y0
 cases e:Yw R es a with
 | nil=>rw [e] at hm;cases hm
 | cons x xs=>
  rw [e] at hm hmin hp
  have h1:=hmin (x:Int) Qi
  obtain ⟨j,hj,rfl⟩:=Qn.mp hm
  show (j:Int)=(x:Int)
  rcases Qf.mp hj with rfl | hj
  . rfl
  . have:=(List.pairwise_cons.mp hp).1 j hj
    omega
theorem Jhd {R a:Nat}{es:List (Nat×Nat)}(ha:a<R):a∈Yw R es a:=by
 have:Pw es R a a=true:=Pw.zero (by rw [Pw];simp) R
 unfold Yw
 rw [Xm,this]
 exact ⟨Q6.mpr ha,rfl⟩
noncomputable abbrev Jtg (p:Int×List Int):List J9h:=p.2.map .int
structure RingInv (i:Nat) (g:List (Int×List Int)) (keys:List Key) (ps:List (Addr×List J9h)):Prop where
 ky:keys=g.map λ p=>Xh p.1
 rw:ps.map (·.2)=g.map Jtg
 nd:(g.map (·.1)).Nodup
 gl:g.length<=i
 pl:∀ p∈g,p.2.length<=i
theorem Jv7 {g:List (Int×List Int)}{j:Int}:(Xh j:Key)∈g.map (λ p=>(Xh p.1:Key))↔j∈g.map (·.1):=by
 rw [Qn,Qn]
 constructor
 . rintro ⟨p,hp,e⟩;exact ⟨p,hp,J5k e⟩
 . rintro ⟨p,hp,rfl⟩;exact ⟨p,hp,rfl⟩
theorem RingInv.up {i:Nat}{g:List (Int×List Int)}{keys:List Key}{ps:List (Addr×List J9h)}(h:RingInv i g keys ps):RingInv (i+1) g keys ps:=⟨h.ky,h.rw,h.nd,J48 h.gl,λ p hp=>J48 (h.pl p hp)⟩
theorem RingInv.new {i:Nat}{g:List (Int×List Int)}{keys:List Key}{ps:List (Addr×List J9h)}(h:RingInv i g keys ps) {j k:Int}(hj:(Xh j:Key)∉keys) (b:Addr):RingInv (i+1) (Bb g j k) (keys++[Xh j]) (ps++[(b,[.int k])]):=by
 have hj':j∉g.map (·.1):=λ z=>hj (by rw [h.ky];exact Jv7.mpr z)
 have e:Bb g j k=g++[(j,[k])]:=if_neg hj'
 rw [e]
 refine ⟨by rw [h.ky,Xd];rfl,by rw [Xd,Xd,h.rw];rfl,?_,by rw [Q7,Uj];have:=h.gl;omega,λ p hp=>?_⟩
 . rw [Xd,J42]
   refine ⟨h.nd,by simp,λ x hx y hy=>?_⟩
   have hy':y=j:=Qs.mp hy
   rintro rfl
   exact hj' (hy'▸hx)
 . rcases Q8.mp hp with hp | hp
   . exact J48 (h.pl p hp)
   . rw [Qs.mp hp];show 1<=i+1;omega
theorem RingInv.add {i:Nat}{g:List (Int×List Int)}{keys:List Key}{ps:List (Addr×List J9h)}(h:RingInv i g keys ps) {j k:Int}{m:Nat}{p:Addr×List J9h}(hm:keys[m]? = some (Xh j)) (hp:ps[m]? = some p):p.2.length<=i/\RingInv (i+1) (Bb g j k) keys (ps.set m (p.1,p.2++[.int k])):=by
 rw [h.ky,Qh] at hm
 obtain ⟨q,hq,ej⟩:=X7.mp hm
 cases J5k ej
 have e2:p.2=Jtg q:=by
  have:=congrArg (λ l=>l[m]?) h.rw
  simp only [Qh,hp,hq,Option.map_some] at this
  exact Xj this
 have hqm:=Xg hq
 have hj':q.1∈g.map (·.1):=Qn.mpr ⟨q,hqm,rfl⟩
 have e:Bb g q.1 k=g.map λ p=>if p.1=q.1 then (p.1,p.2++[k]) else p:=if_pos hj'
 have ek:(Bb g q.1 k).map (·.1)=g.map (·.1):=by
  rw [e,Qv]
  refine X5 λ x _=>?_
  show (if x.1=q.1 then (x.1,x.2++[k]) else x).1=x.1
  split<;>rfl
 refine ⟨by rw [e2,Qb];exact h.pl q hqm,?_,?_,by rw [ek];exact h.nd,by rw [e,Qb];exact J48 h.gl,λ x hx=>?_⟩
 . have:(Bb g q.1 k).map (λ p=>(Xh p.1:Key))=((Bb g q.1 k).map (·.1)).map (λ x=>(Xh x:Key)):=by rw [Qv];rfl
   rw [this,ek,h.ky,Qv];rfl
 . rw [X6,h.rw,e,Qv]
   apply Xu
   intro t
   by_cases ht:m=t
   . subst ht
     rw [Q2 (by rw [Qb];exact (Qp.mp hq).1),Qh,hq]
     show some (p.2++[Qq k])=some (Jtg (if q.1=q.1 then (q.1,q.2++[k]) else q))
     rw [if_pos rfl,e2]
     show some (q.2.map Qq++[Qq k])=some ((q.2++[k]).map Qq)
     rw [Xd];rfl
   . rw [Q3 ht,Qh,Qh]
     cases hx:g[t]? with
     | none=>rfl
     | some x=>
      have ne:x.1≠q.1:=λ z=>ht (by
       have h1:(g.map (·.1))[m]? = some q.1:=by rw [Qh,hq];rfl
       have h2:(g.map (·.1))[t]? = some q.1:=by rw [Qh,hx,<- z];rfl
       exact (List.getElem?_inj (Qp.mp h1).1 h.nd).mp (h1.trans h2.symm))
      show some (Jtg x)=some (Jtg (if x.1=q.1 then (x.1,x.2++[k]) else x))
      rw [if_neg ne]
 . rw [e] at hx
   obtain ⟨y,hy,rfl⟩:=Qn.mp hx
   have:=h.pl y hy
   split
   . show (y.2++[k]).length<=_
     rw [Q7,Uj];omega
   . omega
theorem Jhe {R:Nat}{f:Nat->Nat->Bool}{x:Int}(h0:0<=x) (h1:x<R):atI ((Bi R f).map X4) x=some (.list (B7 R f x.toNat)):=by
 unfold atI
 rw [Qb,B8,Jba h0 h1]
 show ((Bi R f).map X4)[x.toNat]? = _
 rw [Qh,Jax (by omega)];rfl
theorem Jq7 {i R:Nat}{ws:List Way}{ks:List Int}{keys:List Key}{ps:List (Addr×List J9h)}(h:RingInv i (Ve R (Ym ws ks) ws ks) keys ps):X4 ((ps.map (·.2)).map X4)=Jkp (Z6 R ws ks):=by
 unfold Jkp Z6
 rw [h.rw,Qv,Qv];rfl
def Jkr:GSp:=λ as n Q=>∃ (R U:Int) (ws:List Way) (cs:List Int),as=[.d (J0 R U ws),.d (.tuple (cs.map .int))]/\BookOk R U ws/\cs.length=ws.length/\Q (.tuple ((rgI ws cs U).map .int)) n
theorem Jpm {ws:List Way}{i:Nat}(h:i<ws.length):(ws.map Yk)[i]? = some (Yk (Jc ws (i:Int))):=Jl0 (B5 (Xb i) (by omega))
theorem Bq {cs:List Int}{i:Nat}(h:i<cs.length):(cs.map Qq)[i]? = some (.int (cs.getD i 0)):=by
 rw [Qh,Qd h,Qg,Qd h];rfl
theorem Jhf {m i:Nat}{f:Nat->J9h}(h:i<m):((Ql m).map f)[i]? = some (f i):=by rw [Qh,Xk h];rfl
theorem Jjk {m i:Nat}{f:Nat->J9h}(h:¬ i<m):((Ql m).map f)[i]? = none:=Qy (by rw [Qb,Qx];omega)
theorem Jth {ws:List Way}{cs:List Int}(h:cs.length=ws.length):Vh (cs.map .int) (ws.map Yk)=(Ql ws.length).map λ (i:Nat)=>Ud [.int (cs.getD i 0),Yk (Jc ws (i:Int))]:=by
 unfold Vh
 apply Xu
 intro i
 rw [Uw]
 by_cases hi:i<ws.length
 . rw [Jhf hi,Bq (by omega),Jpm hi]
 . rw [Jjk hi,Qy (l:=cs.map Qq) (by rw [Qb];omega)]
theorem J1s {R U:Int}{w:Way}(h:WayOk R U w) {p:Nat}(h1:(p:Int)<U):atI (w.g.map Qq) (p:Int)=some (.int (w.g.getD p 0)):=by
 have gl:=h.len
 have hp:p<w.g.length:=by omega
 unfold atI
 rw [Qb,Jba (Xb p) (by omega)]
 show (w.g.map Qq)[(p:Int).toNat]? = _
 rw [Q0]
 exact Bq hp
noncomputable def Jb6 (x r:Int):Int:=if x=r then 1 else 0
theorem Jhg {ws:List Way}{cs:List Int}{r:Int}:∀ i,W4 ws cs i r=((Ql i).map λ j=>cs.getD j 0*(Jb6 (Jc ws (j:Nat)).b r-Jb6 (Jc ws (j:Nat)).a r)).sum
 | 0=>rfl
 | i+1=>by
  rw [W4,Jhg i,J39,Xd,J8j,J4e,J8k]
  unfold Jb6
  by_cases h1:(Jc ws (i:Nat)).a=r
  . by_cases h2:(Jc ws (i:Nat)).b=r
    . rw [if_pos h1,if_pos h2,if_pos h1,if_pos h2];simp
    . rw [if_pos h1,if_neg h2,if_pos h1,if_neg h2];omega
  . by_cases h2:(Jc ws (i:Nat)).b=r
    . rw [if_neg h1,if_pos h2,if_neg h1,if_pos h2];omega
    . rw [if_neg h1,if_neg h2,if_neg h1,if_neg h2];omega
theorem Jti {R:Nat}{es:List (Nat×Nat)}{ws:List Way}{l:Int}:∀ (ks:List Int) (js:List Int),(∀ k∈ks,Pw es R (Jc ws k).b.toNat (Jc ws k).a.toNat=true/\Y0 R es (Jc ws k).a.toNat=l)->ks.foldl (Zp R es ws) [(l,js)]=[(l,js++ks)]
 | [],js,_=>by rw [Us];rfl
 | k::ks,js,h=>by
  obtain ⟨h1,h2⟩:=h k Qi
  rw [J58]
  have:Zp R es ws [(l,js)] k=[(l,js++[k])]:=by
   unfold Zp Bb
   rw [if_pos h1,h2,if_pos (by simp)]
   show [if l=l then (l,js++[k]) else (l,js)]=_
   rw [if_pos rfl]
  rw [this,Jti ks _ λ x hx=>h x (Qj _ hx),J7p];rfl
theorem Jtj {R:Nat}{ws:List Way}{ks:List Int}(hne:ks≠[]) (hr:∀ e∈Ym ws ks,e.1<R/\e.2<R) (h:∀ k∈ks,∀ j∈ks,Rt (Ym ws ks) (Jc ws k).b.toNat (Jc ws j).a.toNat):Z6 R ws ks=[ks]:=by
 have ab:∀ k∈ks,Rt (Ym ws ks) (Jc ws k).a.toNat (Jc ws k).b.toNat:=λ k hk=>.step (.refl _) (Qn.mpr ⟨k,hk,rfl⟩)
 have aa:∀ k∈ks,∀ j∈ks,Rt (Ym ws ks) (Jc ws k).a.toNat (Jc ws j).a.toNat:=λ k hk j hj=>(ab k hk).trans (h k hk j hj)
 have rr:∀ k∈ks,∀ j∈ks,Yw R (Ym ws ks) (Jc ws k).a.toNat=Yw R (Ym ws ks) (Jc ws j).a.toNat:=λ k hk j hj=>by
  unfold Yw
  refine J6u λ x _=>?_
  rw [Ug,Xw,Xw,Zi hr,Zi hr,Zi hr,Zi hr]
  exact ⟨λ z=>⟨(aa j hj k hk).trans z.1,z.2.trans (aa k hk j hj)⟩,λ z=>⟨(aa k hk j hj).trans z.1,z.2.trans (aa j hj k hk)⟩⟩
 obtain ⟨k0,rest,e⟩:∃ k rest,ks=k::rest:=by
  cases ks with
  | nil=>exact absurd rfl hne
  | cons a b=>exact ⟨a,b,rfl⟩
 have hk0:k0∈ks:=by rw [e];exact Qi
 have st:Zp R (Ym ws ks) ws [] k0=[(Y0 R (Ym ws ks) (Jc ws k0).a.toNat,[k0])]:=by
  unfold Zp
  rw [if_pos ((Zi hr).mpr (h k0 hk0 k0 hk0))]
  rfl
 have go:Ve R (Ym ws ks) ws ks=[(Y0 R (Ym ws ks) (Jc ws k0).a.toNat,ks)]:=by
  have g:∀ es',ks.foldl (Zp R es' ws) []=rest.foldl (Zp R es' ws) (Zp R es' ws [] k0):=λ es'=>by rw [e,J58]
  unfold Ve
  rw [g,st,Jti rest [k0] λ x hx=>?_]
  . rw [e];rfl
  . have hx':x∈ks:=by rw [e];exact Qj _ hx
    refine ⟨(Zi hr).mpr (h x hx' x hx'),?_⟩
    unfold Y0
    rw [rr x hx' k0 hk0]
 unfold Z6
 rw [go];rfl
theorem Jjl {ex:List Addr}{H:Hp}:∀ (ns:List Int),Reps ex H (ns.map Qq) (ns.map V.int)
 | []=>.nil
 | n::ns=>.cons (.int n) (Jjl ns)
theorem Jhh {X:Cx}{K':Qc}(hK:X.K=K'):OpR X (compareOp .In) (rIn K' false):=hK▸Ji5
theorem Jks:∀ ns:List Int,J3b (ns.map Qq)=true
 | []=>rfl
 | n::ns=>by rw [Qz,J3b,Jks ns];rfl
theorem Jn9:∀ ns:List Int,J6v (ns.map Qq)=0
 | []=>rfl
 | n::ns=>by rw [Qz,J6v,Jn9 ns];rfl
theorem neL {ns:List Int}{Q:J9h->Prop}(q:Q (.bool false)):Jsv true (Jvu ns) (Jvu ns) Q:=Jzi (by unfold Jvu;rw [U5];exact Jks ns) (by unfold Jvu;rw [J6w,Jn9];decide) q
theorem Jx4 {k:Int}{ns:List Int}:inD (.int k) (ns.map .int)=decide (k∈ns):=by
 unfold inD
 induction ns with
 | nil=>rfl
 | cons n ns ih=>
  rw [Qz,J29,ih]
  have:Uv (.int n) (.int k)=decide (n=k):=rfl
  rw [this,Ug,J6o,decide_eq_true_iff,decide_eq_true_iff,decide_eq_true_iff,Qf]
  constructor
  . rintro (h | h)
    . exact .inl h.symm
    . exact .inr h
  . rintro (h | h)
    . exact .inl h.symm
    . exact .inr h
noncomputable abbrev J2u:=List Vl->Nat->(List (List J9h)->Nat->Prop)->Prop
section
variable {b:Bool}{i:Nat}{sp:J2u}{E':XK}{t:TA}{gt:GA}
end
theorem Jq8 {α:Type}{a b c d:List α}(h:a=b) (g:c=d):a++c=b++d:=by rw [h,g]
theorem Jhi {α:Type}{P:List α->Prop}(h0:P []) (h1:∀ l a,P l->P (l++[a])) (l:List α):P l:=by
 have:∀ l:List α,P l.reverse:=by
  intro l
  induction l with
  | nil=>exact h0
  | cons a l ih=>rw [List.reverse_cons];exact h1 _ _ ih
 have h:=this l.reverse
 rw [List.reverse_reverse] at h
 exact h
noncomputable def Jd3 (c:Int->Option Int) (g:List Int) (k:Int):List Int:=match c k with
 | some y=>if y∈g then g else g++[y]
 | none=>g
noncomputable def Jbd (c:Int->Option Int) (ks:List Int):List Int:=ks.foldl (Jd3 c) []
theorem Je2 {c:Int->Option Int}{ks:List Int}{k:Int}:Jbd c (ks++[k])=Jd3 c (Jbd c ks) k:=by
 unfold Jbd;rw [J47];rfl
theorem Jmi {c:Int->Option Int}{ks:List Int}{y:Int}:y∈Jbd c ks↔∃ k∈ks,c k=some y:=by
 induction ks using Jhi with
 | h0=>exact ⟨λ h=>(by cases h),λ ⟨k,h,_⟩=>(by cases h)⟩
 | h1 ks k ih=>
  rw [Je2,Jd3]
  have key:(∃ j∈ks++[k],c j=some y)↔(∃ j∈ks,c j=some y)\/c k=some y:=by
   constructor
   . rintro ⟨j,hj,e⟩
     rcases Q8.mp hj with hj | hj
     . exact .inl ⟨j,hj,e⟩
     . rw [Qs.mp hj] at e;exact .inr e
   . rintro (⟨j,hj,e⟩ | e)
     . exact ⟨j,Xn _ hj,e⟩
     . exact ⟨k,Xf _ (Qs.mpr rfl),e⟩
  rw [key,<- ih]
  cases e:c k with
  | none=>exact ⟨.inl,λ h=>h.elim id λ h=>by cases h⟩
  | some x=>
   dsimp only
   split
   . rename_i hx
     refine ⟨.inl,λ h=>h.elim id λ h=>?_⟩
     cases h;exact hx
   . rw [Q8,Qs]
     refine ⟨λ h=>h.imp id λ h=>by rw [h],λ h=>h.imp id λ h=>by cases h;rfl⟩
theorem Jtk (c:Int->Option Int) (ks:List Int):(Jbd c ks).length<=ks.length:=by
 induction ks using Jhi with
 | h0=>exact Qm _
 | h1 ks k ih=>
  rw [Je2,Jd3,Q7,Uj]
  split
  . split
    . omega
    . rw [Q7,Uj];omega
  . omega
noncomputable def grp (c:Int->Option Int) (ks:List Int) (y:Int):List Int:=ks.filter λ k=>decide (c k=some y)
theorem Jd4 {c:Int->Option Int}{ks:List Int}{k y:Int}:grp c (ks++[k]) y=if c k=some y then grp c ks y++[k] else grp c ks y:=by
 unfold grp
 rw [List.filter_append]
 by_cases e:c k=some y
 . rw [if_pos e,J40 (by simp [e])];rfl
 . rw [if_neg e,J41 (by simp [e])];exact Us _
noncomputable def V0 (R:Nat) (es:List (Nat×Nat)) (ws:List Way) (k:Int):Option Int:=if Pw es R (Jc ws k).b.toNat (Jc ws k).a.toNat=true then some (Y0 R es (Jc ws k).a.toNat) else none
theorem Jtl {R:Nat}{es:List (Nat×Nat)}{ws:List Way}(ks:List Int):Ve R es ws ks=(Jbd (V0 R es ws) ks).map λ y=>(y,grp (V0 R es ws) ks y):=by
 induction ks using Jhi with
 | h0=>rfl
 | h1 ks k ih=>
  have e0:Ve R es ws (ks++[k])=Zp R es ws (Ve R es ws ks) k:=by unfold Ve;rw [J47];rfl
  rw [e0,ih,Je2,Jd3]
  unfold Zp
  by_cases c:Pw es R (Jc ws k).b.toNat (Jc ws k).a.toNat=true
  . have ck:V0 R es ws k=some (Y0 R es (Jc ws k).a.toNat):=if_pos c
    rw [if_pos c,ck]
    generalize Y0 R es (Jc ws k).a.toNat=y at ck
    dsimp only
    unfold Bb
    have em:((Jbd (V0 R es ws) ks).map λ y=>(y,grp (V0 R es ws) ks y)).map (·.1)=Jbd (V0 R es ws) ks:=by rw [Qv];exact List.map_id _
    rw [em]
    split
    . rw [Qv]
      refine X5 λ x hx=>?_
      show (if x=y then (x,grp (V0 R es ws) ks x++[k]) else (x,grp (V0 R es ws) ks x))=_
      rw [Jd4,ck]
      by_cases e:x=y
      . rw [if_pos e,if_pos (by rw [e])]
      . rw [if_neg e,if_neg (λ z=>e (Xj z).symm)]
    . rename_i hy
      rw [Xd]
      refine Jq8 (X5 λ x hx=>?_) ?_
      . rw [Jd4,ck,if_neg (λ z=>hy (by rw [Xj z];exact hx))]
      . show [(y,[k])]=[(y,grp (V0 R es ws) (ks++[k]) y)]
        rw [Jd4,ck,if_pos rfl]
        have:grp (V0 R es ws) ks y=[]:=by
         unfold grp
         rw [J8l]
         intro j hj z
         exact hy (Jmi.mpr ⟨j,hj,of_decide_eq_true z⟩)
        rw [this];rfl
  . have ck:V0 R es ws k=none:=if_neg c
    rw [if_neg c,ck]
    refine X5 λ x hx=>?_
    rw [Jd4,ck,if_neg (λ z=>by cases z)]
theorem Jpn {R:Nat}{ws:List Way}{ks:List Int}(hr:∀ e∈Ym ws ks,e.1<R/\e.2<R) {k j:Int}(hk:k∈ks) (hj:j∈ks) (h:Pw (Ym ws ks) R (Jc ws k).b.toNat (Jc ws k).a.toNat=true) :
 (Pw (Ym ws ks) R (Jc ws k).b.toNat (Jc ws j).a.toNat&&Pw (Ym ws ks) R (Jc ws j).b.toNat (Jc ws k).a.toNat)=decide (V0 R (Ym ws ks) ws j=some (Y0 R (Ym ws ks) (Jc ws k).a.toNat)):=by
 have ab:∀ k∈ks,Rt (Ym ws ks) (Jc ws k).a.toNat (Jc ws k).b.toNat:=λ k hk=>.step (.refl _) (Qn.mpr ⟨k,hk,rfl⟩)
 have lt:∀ k∈ks,(Jc ws k).a.toNat<R:=λ k hk=>(hr _ (Qn.mpr ⟨k,hk,rfl⟩)).1
 rw [Zi hr] at h
 rw [Ug,Xw,Zi hr,Zi hr,decide_eq_true_iff]
 unfold V0
 have least_mem:∀ a,a<R->∃ m,Y0 R (Ym ws ks) a=((m:Nat):Int)/\Rt (Ym ws ks) a m/\Rt (Ym ws ks) m a:=λ a ha=>by
  have hs:=Jhd (es:=Ym ws ks) ha
  unfold Y0
  cases e:Yw R (Ym ws ks) a with
  | nil=>rw [e] at hs;cases hs
  | cons x xs=>
   have hx:x∈Yw R (Ym ws ks) a:=by rw [e];exact Qi
   have:=(Xm.mp hx).2
   rw [Xw,Zi hr,Zi hr] at this
   exact ⟨x,rfl,this.1,this.2⟩
 constructor
 . rintro ⟨h1,h2⟩
   have jj:Rt (Ym ws ks) (Jc ws j).b.toNat (Jc ws j).a.toNat:=(h2.trans (ab k hk)).trans h1
   rw [if_pos ((Zi hr).mpr jj)]
   have e:Yw R (Ym ws ks) (Jc ws j).a.toNat=Yw R (Ym ws ks) (Jc ws k).a.toNat:=by
    have jk:=(ab j hj).trans h2
    have kj:=(ab k hk).trans h1
    unfold Yw
    refine J6u λ x _=>?_
    rw [Ug,Xw,Xw,Zi hr,Zi hr,Zi hr,Zi hr]
    exact ⟨λ z=>⟨kj.trans z.1,z.2.trans jk⟩,λ z=>⟨jk.trans z.1,z.2.trans kj⟩⟩
   unfold Y0
   rw [e]
 . intro z
   split at z
   . rename_i c
     rw [Zi hr] at c
     have z:=Xj z
     obtain ⟨m,e1,m1,m2⟩:=least_mem _ (lt j hj)
     obtain ⟨m',e2,m3,m4⟩:=least_mem _ (lt k hk)
     have:m=m':=by rw [e1,e2] at z;omega
     subst this
     exact ⟨h.trans (m3.trans m2),c.trans (m1.trans m4)⟩
   . cases z
theorem Jq9 {R:Nat}{ws:List Way}{ks:List Int}:(Z6 R ws ks).length<=ks.length/\∀ r∈Z6 R ws ks,r.length<=ks.length:=by
 unfold Z6
 rw [Jtl,Qv]
 refine ⟨by rw [Qb];exact Jtk _ _,λ r hr=>?_⟩
 obtain ⟨y,_,rfl⟩:=Qn.mp hr
 exact J6x _ _
end My
namespace L2
open My
section
variable {X:Cx}
end
end L2
namespace My
open L2
noncomputable def headD:J9h->J9h
 | .tuple (w::_)=>w
 | _=>.none
end My
namespace L2
open My
section
variable {X:Cx}{x y:Str}{e:Expr}{es:List Expr}{p p' pos apos:Pos}{t:TA}{k:Nat}{ps:List Str}{sp:Sp}{i:Int}
end
end L2
namespace My
open L2
noncomputable abbrev J2v:=List Vl->Nat->(List J9h->Nat->Prop)->(Addr->Nat->Prop)->Prop
section
variable {i:Nat}{sp:J2v}{t:TA}{gt:GA}{tv:TE}{gv:GE}{d:Int}
end
end My
namespace L2
open My
section
variable {X:Cx}{tg iter kx vx:Expr}{ifs:List Expr}{scope sc:J9o}{N N':List Str}{k:Nat}{idx:List Nat}{wi:TI}{g:TG}{tt:TT}{tk tv:TE}{pos:Pos}
end
section
variable {X:Cx}
end
end L2
namespace My
open L2
section
variable {C:Cv}{ex:List Addr}{env:List Vl}{σ:L2.St}{H H':Hp}{n m:Nat}
end
theorem Jb7 {cs:List Int}(h:∀ c∈cs,0<=c) (i:Nat):0<=cs.getD i 0:=by
 rw [Qg]
 cases e:cs[i]? with
 | none=>exact J25 _
 | some c=>exact h c (Xg e)
structure RoundOk (R:Int) (ws:List Way) (cs:List Int):Prop where
 len:cs.length=ws.length
 nn:∀ c∈cs,0<=c
 bal:∀ r:Nat,r<R.toNat->W4 ws cs ws.length (r:Nat)=0
end My
namespace L2
section
variable {X:Cx}{pos p2:Pos}
end
end L2
namespace My
open L2
end My
namespace L2
open PySem.SeqAt
section
variable {X:Cx}
end
end L2
namespace My
open L2
abbrev Jx5 (i:Nat):GE:=λ env n Q=>match env[i]? with
 | some (.own xs)=>Q (.tuple xs) n
 | some (.d (.list xs))=>Q (.tuple xs) n
 | some (.d (.tuple xs))=>Q (.tuple xs) n
 | _=>False
instance (priority:=high) ev_tupO {K:Qc}{i:Nat}:EV true (tCB (λ xs H Q=>∃ p ys,xs=[.ref p]/\((SqL K H p ys/\∀ l,H l=none->Q (.ref l) (upd H l (.tup ys)))\/(SqT K H p ys/\Q (.ref p) H))) (Yq (Zv i) Jbr)) (Jx5 i):=⟨λ {S ex env σ H n Q P} E h k=>by
 unfold Jx5 at h
 split at h
 . rename_i xs e
   obtain ⟨a,vs,ev,h1,h2,h3,h4,h5⟩:=E.sl i _ e
   exact ⟨_,Jm ev,_,_,rfl,.inl ⟨SqL.of h1,λ l hl=>k _ _ _ _ h (Yv.new E.inv (Kp.new hl _)) (.tuple Jh (E.al.nm hl) h2 (h3.keep (Kp.new hl _)))⟩⟩
 . rename_i xs e
   obtain ⟨v,ev,r⟩:=E.sl i _ e
   cases r with
   | list h1 _ h2 h3=>exact ⟨_,Jm ev,_,_,rfl,.inl ⟨SqL.of h1,λ l hl=>k _ _ _ _ h (Yv.new E.inv (Kp.new hl _)) (.tuple Jh (E.al.nm hl) h2 (h3.keep (Kp.new hl _)))⟩⟩
 . rename_i xs e
   obtain ⟨v,ev,r⟩:=E.sl i _ e
   cases r with
   | tuple h1 hn h2 h3=>exact ⟨_,Jm ev,_,_,rfl,.inr ⟨SqT.of h1,k _ _ _ _ h (.refl E.inv) (.tuple h1 hn h2 h3)⟩⟩
 . exact h.elim⟩
theorem Jtm {ws:List Way}{cs:List Int}(h:cs.length=ws.length):Vh (ws.map Yk) (cs.map .int)=(Ql ws.length).map λ (i:Nat)=>Ud [Yk (Jc ws (i:Int)),.int (cs.getD i 0)]:=by
 unfold Vh
 apply Xu
 intro i
 rw [Uw]
 by_cases hi:i<ws.length
 . rw [Jhf hi,Bq (by omega),Jpm hi]
 . rw [Jjk hi,Qy (l:=ws.map Yk) (by rw [Qb];omega)]
def Jx6:G1:=λ ds Q=>match ds with
 | [.int i]=>Q (.int i)
 | [.bool b]=>Q (.int (if b=true then 1 else 0))
 | _=>False
instance cs_intB:CS (λ xs H Q=>(∃ i,xs=[V.int i]/\Q (V.int i) H)\/∃ k,xs=[V.bl k]/\Q (V.int (if k=true then 1 else 0)) H) Jx6:=⟨λ {H xs ds Q P} r h k=>by
 unfold Jx6 at h
 split at h
 . cases r with
   | cons r1 t=>
    cases t
    cases r1
    exact .inl ⟨_,rfl,k _ _ h λ ex=>.int _⟩
 . cases r with
   | cons r1 t=>
    cases t
    cases r1
    exact .inr ⟨_,rfl,k _ _ h λ ex=>.int _⟩
 . exact h.elim⟩
theorem Jra {ws:List Way}{ks rg:List Int}{x y:Nat}(h:Rt (Ym ws ks) x y) (hin:∀ i∈ks,Rt (Ym ws ks) x (Jc ws i).a.toNat->Rt (Ym ws ks) (Jc ws i).b.toNat y->i∈rg):Rt (Ym ws rg) x y:=by
 induction h with
 | refl=>exact .refl _
 | step h1 e ih=>
  obtain ⟨i,hi,ei⟩:=Qn.mp e
  have ea:(Jc ws i).a.toNat=_:=congrArg Prod.fst ei
  have eb:(Jc ws i).b.toNat=_:=congrArg Prod.snd ei
  have hr:i∈rg:=hin i hi (by rw [ea];exact h1) (by rw [eb];exact .refl _)
  exact (ih λ j hj h2 h3=>hin j hj h2 (h3.step e)).step (Qn.mpr ⟨i,hr,ei⟩)
theorem Je3 {R:Nat}{ws:List Way}{ks rg:List Int}(h:rg∈Z6 R ws ks):∃ y∈Jbd (V0 R (Ym ws ks) ws) ks,rg=grp (V0 R (Ym ws ks) ws) ks y:=by
 unfold Z6 at h
 rw [Jtl,Qv] at h
 obtain ⟨y,hy,rfl⟩:=Qn.mp h
 exact ⟨y,hy,rfl⟩
theorem Jhj {R:Nat}{ws:List Way}{ks rg:List Int}(hr:∀ e∈Ym ws ks,e.1<R/\e.2<R) (h:rg∈Z6 R ws ks) {k:Int}(hk:k∈rg) :
 k∈ks/\Rt (Ym ws ks) (Jc ws k).b.toNat (Jc ws k).a.toNat/\∀ j,j∈rg↔j∈ks/\Rt (Ym ws ks) (Jc ws k).b.toNat (Jc ws j).a.toNat/\Rt (Ym ws ks) (Jc ws j).b.toNat (Jc ws k).a.toNat:=by
 obtain ⟨y,hy,rfl⟩:=Je3 h
 obtain ⟨hks,hc⟩:=Xm.mp hk
 have hc:=of_decide_eq_true hc
 have hp:Pw (Ym ws ks) R (Jc ws k).b.toNat (Jc ws k).a.toNat=true:=by
  unfold V0 at hc
  by_cases c:Pw (Ym ws ks) R (Jc ws k).b.toNat (Jc ws k).a.toNat=true
  . exact c
  . rw [if_neg c] at hc;cases hc
 have hy2:y=Y0 R (Ym ws ks) (Jc ws k).a.toNat:=by
  unfold V0 at hc
  rw [if_pos hp] at hc
  exact (Xj hc).symm
 refine ⟨hks,(Zi hr).mp hp,λ j=>?_⟩
 constructor
 . intro hj
   obtain ⟨hjs,hcj⟩:=Xm.mp hj
   have hcj:=of_decide_eq_true hcj
   rw [hy2] at hcj
   have:=Jpn hr hks hjs hp
   rw [decide_eq_true hcj,Xw,Zi hr,Zi hr] at this
   exact ⟨hjs,this.1,this.2⟩
 . rintro ⟨hjs,h1,h2⟩
   have:=Jpn hr hks hjs hp
   rw [(Zi hr).mpr h1,(Zi hr).mpr h2] at this
   refine Xm.mpr ⟨hjs,decide_eq_true ?_⟩
   rw [hy2]
   exact of_decide_eq_true this.symm
theorem Jpo {R:Nat}{ws:List Way}{ks rg:List Int}(h:rg∈Z6 R ws ks):rg≠[]:=by
 obtain ⟨y,hy,rfl⟩:=Je3 h
 obtain ⟨k,hk,hc⟩:=Jmi.mp hy
 intro z
 have:k∈grp (V0 R (Ym ws ks) ws) ks y:=Xm.mpr ⟨hk,decide_eq_true hc⟩
 rw [z] at this
 cases this
theorem Jmj {R:Nat}{ws:List Way}{ks rg:List Int}(h:rg∈Z6 R ws ks):ks.filter (λ k=>decide (k∈rg))=rg:=by
 obtain ⟨y,hy,rfl⟩:=Je3 h
 unfold grp
 refine J6u λ k hk=>?_
 refine decide_eq_decide.mpr ?_
 rw [Xm,decide_eq_true_iff]
 exact ⟨λ z=>z.2,λ z=>⟨hk,z⟩⟩
theorem Joa {R:Nat}{ws:List Way}{ks rg:List Int}(hr:∀ e∈Ym ws ks,e.1<R/\e.2<R) (h:rg∈Z6 R ws ks):∀ k∈rg,∀ j∈rg,Rt (Ym ws rg) (Jc ws k).b.toNat (Jc ws j).a.toNat:=λ k hk j hj=>by
 obtain ⟨hks,kk,mem⟩:=Jhj hr h hk
 obtain ⟨hjs,h1,h2⟩:=(mem j).mp hj
 have jj:Rt (Ym ws ks) (Jc ws j).a.toNat (Jc ws j).b.toNat:=.step (.refl _) (Qn.mpr ⟨j,hjs,rfl⟩)
 refine Jra h1 λ i hi g1 g2=>(mem i).mpr ⟨hi,g1,g2.trans (jj.trans h2)⟩
theorem Jrb {R:Nat}{ws:List Way}{ks rg:List Int}(hr:∀ e∈Ym ws ks,e.1<R/\e.2<R) (h:rg∈Z6 R ws ks):Z6 R ws rg=[rg]:=by
 refine Jtj (Jpo h) (λ e he=>?_) (Joa hr h)
 obtain ⟨k,hk,rfl⟩:=Qn.mp he
 exact hr _ (Qn.mpr ⟨k,(Jhj hr h hk).1,rfl⟩)
noncomputable def inN (rs:List (List Int)) (k:Int):Int:=((rs.countP λ r=>decide (k∈r):Nat):Int)
end My
namespace L2
section
variable {X:Cx}
end
end L2
namespace My
open L2
section
variable {n:Nat}{key:Nat->Int}
structure PA (n:Nat) (p:Array Nat):Prop where
 size:p.size=n
 perm:p.toList.Perm (Ql n)
noncomputable def kv (key:Nat->Int) (p:Array Nat) (i:Nat):Int:=key (p.getD i 0)
end
end My
namespace L2
open PySem.SeqAt
open AutoSeq1 (wpAny_loadPart')
section
variable {prog:J9l}{w:J9k}{A:J9m}{E:J9g->J9i->Prop}{s:J9i}
end
section
variable {prog:J9l}{w:J9k}{A:J9m}{E:J9g->J9i->Prop}{s:J9i}
end
theorem Jrc:∀ {as:List Addr}{us:List J9g},J9 (as.map V.ref) us->us=as.map Q4:=by
 intro as
 induction as with
 | nil=>intro us r;cases r;rfl
 | cons a as ih=>
  intro us r
  cases r with
  | cons r t=>
   cases r
   rw [ih t];rfl
section
variable {X:Cx}
end
section
variable {X:Cx}
end
end L2
namespace My
open L2
noncomputable abbrev rt (ws:List Way) (ks:List Int) (i j:Int):Prop:=Rt (Ym ws ks) (Jc ws i).b.toNat (Jc ws j).a.toNat
end My
namespace L2
open PySem.SeqAt
section
variable {X:Cx}
end
section
variable {X:Cx}{v:Expr}{te:TE}{a:Str}{ja:Nat}{pa pf pos:Pos}
end
end L2
namespace My
open L2
end My
namespace L2
open PySem.SeqAt
section
open AutoSeq1 (wpAny_loadPart')
end
section
variable {prog:J9l}{w:J9k}{A:J9m}{E:J9g->J9i->Prop}{s:J9i}
end
section
variable {X:Cx}{es:List Expr}{kk:Nat}{tp:Pos}
end
end L2
namespace My
open L2
section
variable {K:Qc}{ex:List Addr}{H:Hp}
end
open PySem.StrLaws PySem.Builtin.Str
end My
namespace L2
open PySem.SeqAt
end L2
namespace My
open L2
theorem Y6 {α:Type}{turn:J9h->Nat->(Option J9h->Nat->Prop)->Prop}{n:Nat}{Q:List J9h->Nat->Prop}{f:α->J9h}(g:α->J9h) {xs:List α}(h:∀ x∈xs,∀ n K,K (some (g x)) n->turn (f x) n K) (q:Q (xs.map g) n):Jfy turn (xs.map f) n Q:=by
 induction xs generalizing n Q with
 | nil=>exact q
 | cons x xs ih=>exact h x Qi _ _ (ih (λ y hy=>h y (Qj _ hy)) q)
end My
namespace PySem
open PySem.Sem (wp)
section
variable {prog:J9l}{w:J9k}{A:J9m}{E:J9g->J9i->Prop}{h:Heap}{g:Array GenState}{d:Drawn}{t:Nat}{os:OsState}
variable {nm q:Str}{C N:Addr}{bs bm bmB:List J9g}{hdct:Bool}{sn:List Str}{sub:List J9g}{ab:Bool}{col:Option Bool}{dd:Option Addr}{k0 k1 k2 k3 k5:Option J9g}{B newId initId:String}
end
end PySem
namespace L2
section
variable {prog:J9l}{w:J9k}{A:J9m}{E:J9g->J9i->Prop}{s:J9i}{l:Addr}{xs:Array (Int×Tok)}
end
section
variable {X:Cx}
end
end L2
namespace My
open L2
section
variable {R:Int}{ws:List Way}{ks:List Int}{x:Int}{l:List Int}{i j:Nat}
end
end My
namespace L2
open PySem.SeqAt
section
variable {X:Cx}{pins:List (Addr×Obj)}{σ:St}{A:J9m}{R:J91->J9i->Prop}{it l d:Addr}{ps:List (Key×V×Addr)}
end
section
variable {prog:J9l}{w:J9k}{A:J9m}{E:J9g->J9i->Prop}{s:J9i}
end
section
variable {X:Cx}
end
end L2
namespace My
open L2 PySem.SeqAt PySem.MeetsSeq
section
variable {X:Cx}
end
abbrev Jtn (i:Nat):GN:=λ env n Q=>match env[i]? with
 | some (.own xs)=>Q xs n
 | some (.d x)=>Jj9 [x] λ d=>Q d n
 | _=>False
instance (priority:=high) nv_listO {K:Qc}{i:Nat}:NV (tCB (λ xs H Q=>∃ p ys,xs=[.ref p]/\(SqL K H p ys\/SqT K H p ys)/\∀ l,H l=none->Q (.ref l) (upd H l (.lst ys))) (Yq (Zv i) Jbr)) (Jtn i):=⟨λ {S ex env σ H n Q P} E h k=>by
 unfold Jtn at h
 split at h
 . rename_i xs e
   obtain ⟨a,vs,ev,h1,h2,h3,h4,h5⟩:=E.sl i _ e
   refine ⟨_,Jm ev,_,_,rfl,.inl (SqL.of h1),λ p hp=>?_⟩
   obtain ⟨c1,c2,c3⟩:=B2 E (.refl E.inv) hp h3
   exact k _ _ _ _ _ h c1 c2 Jh h2 c3
 . rename_i x e
   refine (nv_cn (r:=λ xs H Q=>∃ p ys,xs=[.ref p]/\(SqL K H p ys\/SqT K H p ys)/\∀ l,H l=none->Q (.ref l) (upd H l (.lst ys))) (t:=Yq (Zv i) Jbr)).nv E ?_ k
   show Jvq i env n _
   unfold Jvq
   rw [e]
   exact h
 . exact h.elim⟩
open L2
section
variable {R U:Int}{ws:List Way}{ks:List Int}
end
end My
namespace L2
def DefM (K:Qc) (C:Addr) (m qual:Str) (st:Stmt) (ps:List Str):Prop:=∃ f fd,Meth K C m f/\Fun K m qual st f fd/\Bn K fd ps []
def Wj (P:J9l) (w:J9k) (K:Qc) (mg:Str->Option J9g) (base:Heap) (C:Addr) (m:Str) (k:Nat) (ps:List Str) (sp:Sp):Prop:=
 ∃ f fd,Cls K C/\Meth K C m f/\Bn K fd ps []/\FnOk P w K mg base CX0 k f fd ps sp
section
variable {P:J9l}{w:J9k}{K:Qc}{mg:Str->Option J9g}{base:Heap}{C:Addr}{x m qual:Str}{st:Stmt}{ps:List Str}{k:Nat}{sp:Sp}
theorem DefM.cal (d:DefM K C m qual st ps) (c:Cls K C) (h:∀ f fd,Fun K m qual st f fd->FnOk P w K mg base CX0 k f fd ps sp):Wj P w K mg base C m k ps sp:=by
 obtain ⟨f,fd,hm,F,b⟩:=d
 exact ⟨f,fd,c,hm,b,h f fd F⟩
theorem defM_mk {f:Addr}{oc:J9g}{od an:Option Addr}{osl:Array (Option J9g)}{kV doc pm cdv ct:J9g}
 (a:Uh K (.ref C) m=some (some (.ref f))) (i:J3w K (.ref f)=true) (l:K.lookup f=some ⟨oc,od,.func (X0 m qual (We st) (Zx st) (Je st) .none kV doc pm an cdv ct),osl⟩) (c:J22 K cdv qual=true) (kp:Ui K (.ref f)=true)
 (hb:∀ (kV doc pm:J9g) (an:Option Addr) (cdv ct:J9g) (us:List J9g),us.length=ps.length->Yad (X0 m qual (We st) (Zx st) (Je st) .none kV doc pm an cdv ct) ⟨us,[]⟩=pure (ps.zip us)):DefM K C m qual st ps:=
 ⟨f,_,⟨a,i,kp⟩,Jgp (st:=st) l c kp,(Jgp (st:=st) l c kp).binds hb⟩
end
section
variable {X:Cx}{x m:Str}{C:Addr}{o e:Expr}{es:List Expr}{p pos apos:Pos}{ta:TE}{t:TA}{k:Nat}{ps:List Str}{sp:Sp}
theorem J1 {K':Qc}{f:Str}(hK:X.K=K') (he:PE X e ta) (hb:Yab e f X.env (eval e X.env)=eval e X.env:=by rfl):PE X (.Attribute e f pos) (Jnr K' ta f):=hK▸Jyt he hb
theorem Je4 {pl:Sem Bool}(c:Wj X.prog X.w X.K X.mg X.base C m k ps sp) (hr:Room k X.A) (he:PE X o ta) (ha:PA X (e::es) t)
 (hst:starEach (e::es) X.env=(false,eval e X.env)::starEach es X.env:=by rfl) (hpl:(backTo pos (starEach es X.env)).any (·.1)=false:=by rfl)
 (ht:eval (.Call (.Attribute o m apos) (e::es) [] pos) X.env=(do
  let ov <- eval o X.env
  J9y apos.atName
  let (f,first) <- holding [ov] (getMethod ov m pl)
  callWith pos f first (backTo pos (starEach (e::es) X.env)) (backToKw pos (keywordEach [] X.env))):=by rfl):PE X (.Call (.Attribute o m apos) (e::es) [] pos) (Ji0 C m sp [] E0 ta t):=by
 obtain ⟨f,fd,hc,hm,b,F⟩:=c
 exact Jvh he hc hm F hr b .nil Jsk ha hst hpl ht
end
end L2
namespace My
open L2
theorem Jmk {C C':Addr}{ns ns':List Str}{ds ds':List J9h}(hl:ns.length=ds.length) (hl':ns'.length=ds'.length) (h:Ja9 C ns ds=Ja9 C' ns' ds'):C=C'/\ns=ns'/\ds=ds':=by
 unfold Ja9 at h
 injection h with h1 h2
 injection h1 with h1 _
 injection h1 with h1
 refine ⟨by exact_mod_cast h1,?_⟩
 clear h1
 induction ns generalizing ds ns' ds' with
 | nil=>
  cases ds with
  | cons _ _=>cases hl
  | nil=>
   cases ns' with
   | nil=>
    cases ds' with
    | nil=>exact ⟨rfl,rfl⟩
    | cons _ _=>cases hl'
   | cons _ _=>
    cases ds' with
    | nil=>cases hl'
    | cons _ _=>cases h2
 | cons n ns ih=>
  cases ds with
  | nil=>cases hl
  | cons d ds=>
   cases ns' with
   | nil=>
    cases ds' with
    | nil=>cases h2
    | cons _ _=>cases hl'
   | cons n' ns'=>
    cases ds' with
    | nil=>cases hl'
    | cons d' ds'=>
     rw [J6y,J6y] at h2
     injection h2 with h3 h4
     injection h3 with h5 h6
     injection h5 with h5
     obtain ⟨e1,e2⟩:=ih (by simpa using hl) (by simpa using hl') h4
     exact ⟨by rw [h5,e1],by rw [h6,e2]⟩
noncomputable def Jil (ns:List Str) (ds:List J9h) (f:Str):Option J9h:=(ns.zip ds).lookup f
theorem Jpp {ex:List Addr}{H:Hp}{f:Str}{x:J9h}:∀ {fs:List (Str×V)}{ds:List J9h},Reps ex H ds (fs.map (·.2))->Jil (fs.map (·.1)) ds f=some x->∃ v,fs.lookup f=some v/\Rep ex H x v
 | [],ds,r,h=>by cases h
 | p::fs,ds,r,h=>by
  cases r with
  | cons r1 t=>
   unfold Jil at h
   rw [Qz,J49] at h
   by_cases e:f=p.1
   . subst e
     rw [J8m] at h
     cases h
     exact ⟨p.2,J8m,r1⟩
   . have hb:(f==p.1)=false:=beq_eq_false_iff_ne.mpr e
     rw [Ut,hb] at h
     obtain ⟨v,hv,rv⟩:=Jpp t h
     exact ⟨v,by rw [Ut,hb];exact hv,rv⟩
theorem Jto {f:Str}:∀ {fs:List (Str×V)},f∉fs.map (·.1)->fs.lookup f=none
 | [],_=>rfl
 | p::fs,h=>by
  rw [Qz,Qf,not_or] at h
  rw [Ut,beq_eq_false_iff_ne.mpr h.1]
  exact Jto h.2
section
variable {b:Bool}{te ta:TE}{g:GE}
abbrev J2w (K:Qc) (f:Str) (g:GE):GE:=λ env n Q=>g env n λ d n1=>∃ (C:Addr) (ns:List Str) (ds:List J9h) (x:J9h),d = .dict (Ja9 C ns ds)/\Cls K C/\NoAttr K C f/\ns.length=ds.length/\Jil ns ds f=some x/\Q x n1
instance ev_fld {K:Qc}{f:Str} [A:EV b te g]:EV b (Jnr K te f) (J2w K f g):=⟨λ {S ex env σ H n Q P} E h k=>A.ev E h λ d n1 v H1 h1 s1 r1=>by
 obtain ⟨C,ns,ds,x,rfl,hc,hn,hl,hx,q⟩:=h1
 cases r1 with
 | obj e m ek r=>
  have hr:=r.length
  rw [Qb] at hr
  obtain ⟨rfl,rfl,rfl⟩:=Jmk hl (by rw [Qb,hr]) ek
  obtain ⟨v',hv,rv⟩:=Jpp r hx
  exact ⟨_,_,_,_,v',rfl,e,hc,hn,hv,k _ _ _ _ q s1 rv⟩⟩
abbrev J1t (C:Addr) (m:Str) (sp:GSp) (g:GE) (ga:GA):GE:=λ env n Q=>g env n λ d n1=>(∃ (ns:List Str) (ds:List J9h),d = .dict (Ja9 C ns ds)/\ns.length=ds.length/\m∉ns)/\ga env n1 λ as n2=>sp (.d d::as) n2 Q
abbrev Jzs (C:Addr) (m:Str) (sp:GSn) (g:GE) (ga:GA):GN:=λ env n Q=>g env n λ d n1=>(∃ (ns:List Str) (ds:List J9h),d = .dict (Ja9 C ns ds)/\ns.length=ds.length/\m∉ns)/\ga env n1 λ as n2=>sp (.d d::as) n2 Q
theorem Jtp {ex:List Addr}{H:Hp}{C:Addr}{m:Str}{ns:List Str}{ds:List J9h}{v:V}(hl:ns.length=ds.length) (hm:m∉ns) (r:Rep ex H (.dict (Ja9 C ns ds)) v):∃ a dx fs,v = .ref a/\H a=some (.ins C dx fs)/\fs.lookup m=none:=by
 cases r with
 | obj e n ek r=>
  have hr:=r.length
  rw [Qb] at hr
  obtain ⟨rfl,rfl,rfl⟩:=Jmk hl (by rw [Qb,hr]) ek
  exact ⟨_,_,_,rfl,e,Jto hm⟩
instance ev_meth {C:Addr}{m:Str}{sp:GSp}{E':XK}{t:TA}{gt:GA} [A:EV b ta g] [B:AV b t gt]:EV b (Ji0 C m (Jj sp) [] E' ta t) (J1t C m sp g gt):=⟨λ {S ex env σ H n Q P} E h k=>A.ev E h λ d n1 v H1 h1 s1 r1=>by
 obtain ⟨⟨ns,ds,rfl,hl,hm⟩,h2⟩:=h1
 obtain ⟨a,dx,fs,rfl,e,hf⟩:=Jtp hl hm r1
 refine ⟨a,dx,fs,rfl,e,hf,B.av (E.step s1) h2 λ as n2 vs H2 h3 s2 r2=>?_⟩
 rw [Us]
 exact ⟨S,exm b S ex,.d (.dict (Ja9 C ns ds))::as,n2,_,⟨⟨_,rfl,(E.step s1).repm b s2 r1⟩,r2⟩,E.sup b,(E.step (s1.trans s2)).alm b,s2.2,h3,λ d n' v H' p s3 r=>k _ _ _ _ p ((s1.trans s2).trans s3) r⟩⟩
instance nv_meth {C:Addr}{m:Str}{sp:GSn}{E':XK}{t:TA}{gt:GA} [A:EV true ta g] [B:AV true t gt]:NV (Ji0 C m (Zh sp) [] E' ta t) (Jzs C m sp g gt):=⟨λ {S ex env σ H n Q P} E h k=>A.ev E h λ d n1 v H1 h1 s1 r1=>by
 obtain ⟨⟨ns,ds,rfl,hl,hm⟩,h2⟩:=h1
 obtain ⟨a,dx,fs,rfl,e,hf⟩:=Jtp hl hm r1
 refine ⟨a,dx,fs,rfl,e,hf,B.av (E.step s1) h2 λ as n2 vs H2 h3 s2 r2=>?_⟩
 rw [Us]
 exact ⟨S,ex,.d (.dict (Ja9 C ns ds))::as,n2,_,⟨⟨_,rfl,(E.step s1).repm true s2 r1⟩,r2⟩,E.ch,(E.step (s1.trans s2)).al,s2.2,h3,λ ds n' a ws H' p s3 ha hl hz r=>k _ _ _ _ _ p ((s1.trans s2).trans s3) ((s1.trans s2).free ha) hl hz r⟩⟩
end
noncomputable def Jv8:Stmt->List Stmt
 | .ClassDef (body:=b) ..=>b
 | _=>[]
abbrev St':=Int×List Int
noncomputable def stD (s:St'):J9h:=Jdu s.1 s.2
noncomputable abbrev Kn:=List (Int×St')
noncomputable def Jd5 (ws:List Way) (s:St'):List Int:=((Ql ws.length).filter λ i=>Jjd (Jc ws ((i:Nat):Int)).a s.1 s.2 (Jc ws ((i:Nat):Int)).g).map λ i=>((i:Nat):Int)
noncomputable def Jzt (ws:List Way) (s:St') (k:Int):St':=((Jc ws k).b,Jcu s.2 (Jc ws k).g)
def Jkt:GSp:=λ as n Q=>∃ (xs gs:List Int),as=[.d (.tuple (xs.map .int)),.d (.tuple (gs.map .int))]/\xs.length<=1000/\xs.length=gs.length/\Q (.tuple ((Jcu xs gs).map .int)) n
def Jd6:GSp:=λ as n Q=>∃ (w:Way) (s:St'),as=[.d (Yk w),.d (stD s)]/\s.2.length<=1000/\s.2.length=w.g.length/\Q (.bool (Jjd w.a s.1 s.2 w.g)) n
noncomputable instance:Scal Jd6:=⟨λ {as n P} h=>by obtain ⟨w,s,e,h1,h2,q⟩:=h;exact ⟨w,s,e,h1,h2,rfl,q⟩⟩
def Job:GSn:=λ as n Q=>∃ (R U:Int) (ws:List Way) (s:St'),as=[.d (J0 R U ws),.d (stD s)]/\BookOk R U ws/\(s.2.length:Int)=U/\Q ((Jd5 ws s).map .int) n
def Joc:GSp:=λ as n Q=>∃ (R U:Int) (ws:List Way) (s:St') (k:Int),as=[.d (J0 R U ws),.d (stD s),.d (.int k)]/\BookOk R U ws/\(s.2.length:Int)=U/\k∈Jd5 ws s/\Q (stD (Jzt ws s k)) n
theorem Jv9 {ws:List Way}{s:St'}{k:Int}(h:k∈Jd5 ws s):(0<=k/\k<ws.length)/\Jjd (Jc ws k).a s.1 s.2 (Jc ws k).g=true:=by
 obtain ⟨i,hi,rfl⟩:=Qn.mp h
 obtain ⟨h1,h2⟩:=Xm.mp hi
 have:=Q6.mp h1
 exact ⟨⟨by omega,by omega⟩,h2⟩
end My
namespace L2
open My
section
variable {X:Cx}{x:Str}{e:Expr}{es:List Expr}{p pos:Pos}{t:TA}{k:Nat}{ps:List Str}{sp:Sp}{i:Int}{E:XK}
end
end L2
namespace My
open L2
section
variable {i:Nat}{sp:GSx}{t:TA}{gt:GA}{tv:TE}{gv:GE}{d:Int}{b:Bool}{E':XK}
end
theorem V4:∀ xs gs:List Int,Vh (xs.map Qq) (gs.map Qq)=(xs.zip gs).map λ p=>.tuple [.int p.1,.int p.2]
 | [],_=>by simp [Vh]
 | _::_,[]=>by simp [Vh]
 | x::xs,g::gs=>by
  rw [Qz,Qz,J49,Qz,<- V4 xs gs]
  simp [Vh]
theorem Jhk (ws:List Way):Jb2 (ws.map Yk)=(Ql ws.length).map λ i=>.tuple [.int ((i:Nat):Int),Yk (Jc ws ((i:Nat):Int))]:=by
 apply Xu
 intro i
 unfold Jb2
 rw [J4x,Qh,Qh]
 by_cases h:i<ws.length
 . rw [Xk h,Qd h]
   have:Jc ws ((i:Nat):Int)=ws[i]:=by
    have h2:=B5 (ws:=ws) (k:=((i:Nat):Int)) (by omega) (by omega)
    unfold Jc
    simp [h]
   show some (Ud [.int ((i:Nat):Int),Yk ws[i]])=some (Ud [.int ((i:Nat):Int),Yk (Jc ws ((i:Nat):Int))])
   rw [this]
 . rw [Qy (by omega),Qy (by rw [Qx];omega)];rfl
theorem Jbe {β:Type}{turn:J9h->Nat->(Option J9h->Nat->Prop)->Prop}{n:Nat}{g h:β->J9h}{p:β->Bool}:∀ {ks:List β}{Q:List J9h->Nat->Prop},(∀ k∈ks,∀ K:Option J9h->Nat->Prop,(p k=true->K (some (h k)) n)->(p k=false->K none n)->turn (g k) n K)->Q ((ks.filter p).map h) n->Jfy turn (ks.map g) n Q
 | [],_,_,q=>q
 | k::ks,Q,ht,q=>by
  refine ht k Qi _ (λ c=>?_) (λ c=>?_)
  . rw [J40 c] at q
    exact Jbe (λ k hk=>ht k (Qj _ hk)) q
  . rw [J41 (by rw [c];exact Xe)] at q
    exact Jbe (λ k hk=>ht k (Qj _ hk)) q
theorem Jtq (xs gs:List Int):Jcu xs gs=(xs.zip gs).map λ p=>p.1+p.2:=by
 unfold Jcu
 rw [J5a,J6z]
section
variable {K:Qc}{C:Addr}{s0:St'}{p:Kn}{Q:J9h->Prop}
end
section
variable {x t:Int}{xr gr:List Int}{N:Nat}
end
theorem Jtr {k:Int}:(Qw k.toNat [Qq 0]).flatten=(Qw k.toNat (0:Int)).map .int:=by
 rw [Jg7,J3c]
end My
namespace Tb
abbrev Vec:=Nat->Int
noncomputable def Jn:Nat->(Nat->Int)->Int
 | 0,_=>0
 | n+1,f=>Jn n f+f n
theorem Jl {n:Nat}{f g:Nat->Int}(h:∀ i,i<n->f i=g i):Jn n f=Jn n g:=by
 induction n with
 | zero=>rfl
 | succ n ih=>rw [Jn,Jn,ih λ i hi=>h i (by omega),h n (by omega)]
theorem Z8 (n:Nat):Jn n (λ _=>0)=0:=by
 induction n with
 | zero=>rfl
 | succ n ih=>rw [Jn,ih];rfl
theorem Z0 (n:Nat) (f g:Nat->Int):Jn n (λ i=>f i+g i)=Jn n f+Jn n g:=by
 induction n with
 | zero=>rfl
 | succ n ih=>rw [Jn,Jn,Jn,ih];omega
theorem Y8 (n:Nat) (c:Int) (f:Nat->Int):Jn n (λ i=>c*f i)=c*Jn n f:=by
 induction n with
 | zero=>simp [Jn]
 | succ n ih=>rw [Jn,Jn,ih,J3o]
theorem Jjm (n:Nat) (c:Int) (f:Nat->Int):Jn n (λ i=>f i*c)=Jn n f*c:=by
 rw [X8,<- Y8];exact Jl λ i _=>X8 _ _
theorem Z7 (n:Nat) (f:Nat->Int):Jn n (λ i=>-f i) = -Jn n f:=by
 induction n with
 | zero=>rfl
 | succ n ih=>rw [Jn,Jn,ih];omega
theorem Yd {n a:Nat}{f:Nat->Int}(ha:a<n) (h:∀ i,i<n->i≠a->f i=0):Jn n f=f a:=by
 induction n with
 | zero=>omega
 | succ n ih=>
  rw [Jn]
  by_cases e:a=n
  . subst e
    have:Jn a f=0:=by rw [Jl (g:=λ _=>0) λ i hi=>h i (by omega) (by omega),Z8]
    rw [this];omega
  . rw [ih (by omega) λ i hi hne=>h i (by omega) hne,h n (by omega) λ z=>e z.symm];omega
theorem Jml {n a b:Nat}{f:Nat->Int}(ha:a<n) (hb:b<n) (hab:a≠b) (h:∀ i,i<n->i≠a->i≠b->f i=0):Jn n f=f a+f b:=by
 have e:Jn n f=Jn n (λ i=>(if i=a then f a else 0)+(if i=b then f b else 0)):=Jl λ i hi=>by
  by_cases h1:i=a
  . subst h1;rw [if_pos rfl,if_neg hab];omega
  . by_cases h2:i=b
    . subst h2;rw [if_neg h1,if_pos rfl];omega
    . rw [if_neg h1,if_neg h2,h i hi h1 h2];rfl
 rw [e,Z0,Yd (a:=a) ha (λ i _ hi=>if_neg hi),Yd (a:=b) hb (λ i _ hi=>if_neg hi),if_pos rfl,if_pos rfl]
theorem Jay (n m:Nat) (f:Nat->Nat->Int):Jn n (λ i=>Jn m (λ j=>f i j))=Jn m (λ j=>Jn n (λ i=>f i j)):=by
 induction n with
 | zero=>show 0=Jn m (λ _=>0);rw [Z8]
 | succ n ih=>
  show Jn n _+Jn m (λ j=>f n j)=Jn m (λ j=>Jn n (λ i=>f i j)+f n j)
  rw [ih,Z0]
noncomputable def sg (j:Nat):Int:=if j%2=0 then 1 else -1
theorem Jwa (j:Nat):sg (j+1) = -sg j:=by unfold sg;split<;>split<;>omega
noncomputable def atV (vs:List Vec) (j:Nat):Vec:=vs.getD j (λ _=>0)
noncomputable def D:Nat->List Vec->Int
 | 0,_=>1
 | k+1,vs=>Jn vs.length λ j=>sg (j+k)*atV vs j k*D k (vs.eraseIdx j)
theorem Yy {vs:List Vec}{a:Nat}{v:Vec}(h:a<vs.length):atV (vs.set a v) a=v:=by
 unfold atV;rw [Qg,Q2 h];rfl
theorem Yn {vs:List Vec}{a b:Nat}{v:Vec}(h:a≠b):atV (vs.set a v) b=atV vs b:=by
 unfold atV;rw [Qg,Q3 h,<- Qg]
theorem B9 (vs:List Vec) (a:Nat) (v:Vec):(vs.set a v).eraseIdx a=vs.eraseIdx a:=by
 induction vs generalizing a with
 | nil=>rfl
 | cons x vs ih=>cases a with
  | zero=>rfl
  | succ a=>show x::(vs.set a v).eraseIdx a=_;rw [ih];rfl
theorem Jbf (vs:List Vec) {a j:Nat}(v:Vec) (h:j<a):(vs.set a v).eraseIdx j=(vs.eraseIdx j).set (a-1) v:=by
 induction vs generalizing a j with
 | nil=>rfl
 | cons x vs ih=>
  cases a with
  | zero=>omega
  | succ a=>
   cases j with
   | zero=>rfl
   | succ j=>
    show x::(vs.set a v).eraseIdx j=(x::vs.eraseIdx j).set (a+1-1) v
    rw [ih (by omega)]
    obtain ⟨b,rfl⟩:∃ b,a=b+1:=⟨a-1,by omega⟩
    rfl
theorem Jbg (vs:List Vec) {a j:Nat}(v:Vec) (h:a<j):(vs.set a v).eraseIdx j=(vs.eraseIdx j).set a v:=by
 induction vs generalizing a j with
 | nil=>rfl
 | cons x vs ih=>
  cases j with
  | zero=>omega
  | succ j=>
   cases a with
   | zero=>rfl
   | succ a=>show x::(vs.set a v).eraseIdx j=x::(vs.eraseIdx j).set a v;rw [ih (by omega)]
theorem Jku:∀ (k:Nat) (vs us:List Vec),vs.length=us.length->(∀ j,j<vs.length->∀ r,r<k->atV vs j r=atV us j r)->D k vs=D k us
 | 0,_,_,_,_=>rfl
 | k+1,vs,us,hl,h=>by
  rw [D,D,hl]
  refine Jl λ j hj=>?_
  rw [h j (by omega) k (by omega)]
  congr 1
  refine Jku k _ _ (by rw [Ue (by omega),Ue hj,hl]) λ i hi r hr=>?_
  rw [Ue (by omega)] at hi
  have e:∀ ws:List Vec,atV (ws.eraseIdx j) i=if i<j then atV ws i else atV ws (i+1):=λ ws=>by
   unfold atV
   rw [Qg,J4f]
   split<;>rw [<- Qg]
  rw [e,e]
  split
  . exact h i (by omega) r (by omega)
  . exact h (i+1) (by omega) r (by omega)
theorem Jhl:∀ (k:Nat) (vs:List Vec) (a:Nat) (c d:Int) (u w:Vec),a<vs.length->vs.length=k->D k (vs.set a λ r=>c*u r+d*w r)=c*D k (vs.set a u)+d*D k (vs.set a w)
 | 0,vs,a,_,_,_,_,h,hk=>by omega
 | k+1,vs,a,c,d,u,w,h,hk=>by
  rw [D,D,D,Qr,Qr,Qr,<- Y8,<- Y8,<- Z0]
  refine Jl λ j hj=>?_
  rcases J60 j a with z | z | z
  . rw [Yn (by omega),Yn (by omega),Yn (by omega),Jbf vs _ z,Jbf vs _ z,Jbf vs _ z,Jhl k _ (a-1) c d u w (by rw [Ue hj];omega) (by rw [Ue hj];omega)]
    rw [J3o,Up _ c,Up _ d]
  . subst z
    rw [Yy h,Yy h,Yy h,B9,B9,B9]
    rw [J3o,Int.add_mul,Up (sg (j+k)) c,Up (sg (j+k)) d,U7 c,U7 d]
  . rw [Yn (by omega),Yn (by omega),Yn (by omega),Jbg vs _ z,Jbg vs _ z,Jbg vs _ z,Jhl k _ a c d u w (by rw [Ue hj];omega) (by rw [Ue hj];omega)]
    rw [J3o,Up _ c,Up _ d]
theorem Jpq:∀ (k:Nat) (vs:List Vec) (a:Nat),a+1<vs.length->vs.length=k->atV vs a=atV vs (a+1)->D k vs=0
 | 0,vs,a,h,hk,_=>by omega
 | k+1,vs,a,h,hk,e=>by
  have er:vs.eraseIdx a=vs.eraseIdx (a+1):=by
   apply Xu
   intro i
   rw [J4f,J4f]
   by_cases c1:i<a
   . rw [if_pos c1,if_pos (by omega)]
   . rw [if_neg c1]
     by_cases c2:i=a
     . subst c2
       rw [if_pos (by omega),Qd h,Qd (show i<vs.length by omega)]
       unfold atV at e
       rw [Qg,Qg,Qd h,Qd (show i<vs.length by omega)] at e
       exact congrArg some e.symm
     . rw [if_neg (by omega)]
  rw [D,Jml (a:=a) (b:=a+1) (by omega) h (by omega) λ j hj h1 h2=>?_]
  . rw [show a+1+k=a+k+1 by omega,Jwa,<- er,e,J5b,J5b];omega
  . have:D k (vs.eraseIdx j)=0:=by
     have el:∀ i,atV (vs.eraseIdx j) i=if i<j then atV vs i else atV vs (i+1):=λ i=>by
      unfold atV
      rw [Qg,J4f]
      split<;>rw [<- Qg]
     rcases X1 j a with z | z
     . refine Jpq k _ (a-1) (by rw [Ue hj];omega) (by rw [Ue hj];omega) ?_
       rw [el,el,if_neg (by omega),if_neg (by omega),show a-1+1=a by omega];exact e
     . refine Jpq k _ a (by rw [Ue hj];omega) (by rw [Ue hj];omega) ?_
       rw [el,el,if_pos (by omega),if_pos (by omega)];exact e
    rw [this,Xt]
theorem Jkv (vs:List Vec) {a:Nat}(h:a<vs.length):vs.set a (atV vs a)=vs:=by
 unfold atV
 rw [Qg,Qd h]
 exact List.set_getElem_self h
theorem Jts {k:Nat}{vs:List Vec}{a:Nat}(u w:Vec) (h:a<vs.length) (hk:vs.length=k):D k (vs.set a λ r=>u r+w r)=D k (vs.set a u)+D k (vs.set a w):=by
 have:=Jhl k vs a 1 1 u w h hk
 rw [Ux,Ux] at this
 rw [<- this]
 congr 1;congr 1;funext r
 rw [Ux,Ux]
theorem Jpr {k:Nat}{vs:List Vec}{a b:Nat}(ha:a<vs.length) (hb:b<vs.length) (hab:a≠b) (hk:vs.length=k) (zero:∀ us:List Vec,us.length=k->atV us a=atV us b->D k us=0) (u w:Vec):D k ((vs.set a u).set b w) = -D k ((vs.set a w).set b u):=by
 have la:∀ (x:Vec),a<(vs.set b x).length:=λ x=>by rw [Qr];exact ha
 have lb:∀ (x:Vec),b<(vs.set a x).length:=λ x=>by rw [Qr];exact hb
 have z:∀ x:Vec,D k ((vs.set a x).set b x)=0:=λ x=>zero _ (by rw [Qr,Qr];exact hk) (by rw [Yn (Qk hab),Yy ha,Yy (lb x)])
 have h1:=z (λ r=>u r+w r)
 rw [Jts u w (lb _) (by rw [Qr];exact hk)] at h1
 have c:∀ x y:Vec,(vs.set a x).set b y=(vs.set b y).set a x:=λ x y=>J7i _ _ hab
 rw [c,c,Jts u w (la _) (by rw [Qr];exact hk),Jts u w (la _) (by rw [Qr];exact hk),<- c,<- c,<- c,<- c,z u,z w] at h1
 omega
theorem Jtt {k:Nat}:∀ (d a:Nat) (vs:List Vec),a+d+1<vs.length->vs.length=k->atV vs a=atV vs (a+d+1)->D k vs=0
 | 0,a,vs,h,hk,e=>Jpq k vs a h hk e
 | d+1,a,vs,h,hk,e=>by
  have hz:∀ us:List Vec,us.length=k->atV us (a+d+1)=atV us (a+d+2)->D k us=0:=λ us hu he=>Jpq k us (a+d+1) (by omega) hu he
  have p:=Jpr (vs:=vs) (a:=a+d+1) (b:=a+d+2) (by omega) (by omega) (by omega) hk hz (atV vs (a+d+1)) (atV vs (a+d+2))
  rw [Jkv vs (by omega),Jkv vs (by omega)] at p
  rw [p,Jtt d a _ (by rw [Qr,Qr];omega) (by rw [Qr,Qr];exact hk) ?_]
  . rfl
  . rw [Yn (by omega),Yn (by omega),Yn (by omega),Yy (by omega)]
    exact e
theorem Jtu {k:Nat}{vs:List Vec}{a b:Nat}(ha:a<vs.length) (hb:b<vs.length) (hab:a≠b) (hk:vs.length=k) (e:atV vs a=atV vs b):D k vs=0:=by
 rcases J60 a b with z | z | z
 . exact Jtt (b-a-1) a vs (by omega) hk (by rw [show a+(b-a-1)+1=b by omega];exact e)
 . exact absurd z hab
 . exact Jtt (a-b-1) b vs (by omega) hk (by rw [show b+(a-b-1)+1=a by omega];exact e.symm)
theorem Jzu {k:Nat}{vs:List Vec}{a b:Nat}(ha:a<vs.length) (hb:b<vs.length) (hab:a≠b) (hk:vs.length=k) (u w:Vec):D k ((vs.set a u).set b w) = -D k ((vs.set a w).set b u):=
 Jpr ha hb hab hk (λ us hu he=>Jtu (by omega) (by omega) hab hu he) u w
theorem Jx7 {k:Nat}{vs:List Vec}{a:Nat}(ha:a<vs.length) (hk:vs.length=k) (c:Nat->Int) (u:Nat->Vec):∀ n,D k (vs.set a λ r=>Jn n λ i=>c i*u i r)=Jn n λ i=>c i*D k (vs.set a (u i))
 | 0=>by
  have:=Jhl k vs a 0 0 (λ _=>0) (λ _=>0) ha hk
  simp only [Xx,J61] at this
  exact this
 | n+1=>by
  have:=Jhl k vs a 1 (c n) (λ r=>Jn n λ i=>c i*u i r) (u n) ha hk
  rw [Ux,Jx7 ha hk c u n] at this
  show D k (vs.set a λ r=>Jn n (λ i=>c i*u i r)+c n*u n r)=Jn n (λ i=>c i*D k (vs.set a (u i)))+c n*D k (vs.set a (u n))
  rw [<- this]
  congr 1;congr 1;funext r
  rw [Ux]
theorem Jps {k:Nat}{vs:List Vec}{a:Nat}(ha:a<vs.length) (hk:vs.length=k) (c:Int) (u:Vec):D k (vs.set a λ r=>c*u r)=c*D k (vs.set a u):=by
 have:=Jhl k vs a c 0 u (λ _=>0) ha hk
 simp only [Xx,J61] at this
 exact this
theorem Jtv {k:Nat}{vs:List Vec}{a:Nat}(ha:a<vs.length) (hk:vs.length=k) (h:∀ r,r<k->atV vs a r=0):D k vs=0:=by
 have:=Jps ha hk 0 (atV vs a)
 rw [Xx] at this
 rw [<- this]
 refine Jku k _ _ (by rw [Qr]) λ j hj r hr=>?_
 by_cases e:a=j
 . subst e;rw [Yy ha,h r hr,Xx]
 . rw [Yn e]
theorem Jtw (k:Nat):sg (k+k)=1:=by unfold sg;rw [if_pos (by omega)]
noncomputable def cr (m:Nat) (B:List Vec) (i:Nat) (v:Vec):Int:=D m (B.set i v)
structure Base (m:Nat) (B:List Vec):Prop where
 len:B.length=m
 pos:0<D m B
 cra:∀ (v:Vec) (r:Nat),r<m->D m B*v r=Jn m λ i=>cr m B i v*atV B i r
section
variable {m:Nat}{B:List Vec}
theorem Jd7 (hB:B.length=m) {i:Nat}(hi:i<m):cr m B i (atV B i)=D m B:=by unfold cr;rw [Jkv B (by omega)]
theorem Jd8 (hB:B.length=m) {i r:Nat}(hi:i<m) (hr:r<m) (h:i≠r):cr m B i (atV B r)=0:=by
 unfold cr
 refine Jtu (a:=i) (b:=r) (by rw [Qr];omega) (by rw [Qr];omega) h (by rw [Qr];exact hB) ?_
 rw [Yy (by omega),Yn h]
theorem Jhm (hB:B.length=m) {i:Nat}(hi:i<m) {v w:Vec}(h:∀ r,r<m->v r=w r):cr m B i v=cr m B i w:=by
 unfold cr
 refine Jku m _ _ (by rw [Qr,Qr]) λ j hj r hr=>?_
 by_cases e:i=j
 . subst e;rw [Yy (by omega),Yy (by omega)];exact h r hr
 . rw [Yn e,Yn e]
theorem Jzv (hB:B.length=m) {i:Nat}(hi:i<m) (c d:Int) (v w:Vec):cr m B i (λ r=>c*v r+d*w r)=c*cr m B i v+d*cr m B i w:=Jhl m B i c d v w (by omega) hB
theorem Jmm (hB:B.length=m) {i:Nat}(hi:i<m) (c:Int) (v:Vec):cr m B i (λ r=>c*v r)=c*cr m B i v:=Jps (by omega) hB c v
theorem Jkw (hB:B.length=m) {i:Nat}(hi:i<m) (c:Nat->Int) (u:Nat->Vec) (n:Nat):cr m B i (λ r=>Jn n λ j=>c j*u j r)=Jn n λ j=>c j*cr m B i (u j):=Jx7 (by omega) hB c u n
theorem Jd9 (hb:Base m B) {l i:Nat}(hl:l<m) (hi:i<m) (hil:i≠l) (c v:Vec):D m B*cr m (B.set l c) i v=cr m B l c*cr m B i v-cr m B i c*cr m B l v:=by
 have hB:=hb.len
 have hB':(B.set l c).length=m:=by rw [Qr];exact hB
 rw [<- Jmm hB' hi,Jhm hB' hi (hb.cra v)]
 rw [Jkw hB' hi]
 rw [Jml (a:=i) (b:=l) hi hl hil λ r hr h1 h2=>?_]
 . have e1:cr m (B.set l c) i (atV B i)=cr m B l c:=by
    have:atV B i=atV (B.set l c) i:=(Yn (Qk hil)).symm
    rw [this,Jd7 hB' hi];rfl
   have e2:cr m (B.set l c) i (atV B l) = -cr m B i c:=by
    unfold cr
    rw [Jzu (a:=l) (b:=i) (by omega) (by omega) (Qk hil) hB c (atV B l)]
    rw [Jkv B (by omega)]
   rw [e1,e2,X8 (cr m B i v),J4g,X8 (cr m B l v)];omega
 . have:atV B r=atV (B.set l c) r:=(Yn (Qk h2)).symm
   rw [this,Jd8 hB' hi hr (Qk h1),Xt]
theorem Jkx (hB:B.length=m) {l:Nat}(hl:l<m) (c v:Vec):cr m (B.set l c) l v=cr m B l v:=by
 unfold cr
 rw [J6s]
theorem Base.swap (hb:Base m B) {l:Nat}(hl:l<m) {c:Vec}(hp:0<cr m B l c):Base m (B.set l c):=by
 have hB:=hb.len
 have hq:=hb.pos
 refine ⟨by rw [Qr];exact hB,hp,λ v r hr=>?_⟩
 refine J8n (J62 hq) ?_
 rw [<- Y8]
 have e0:D m (B.set l c)=cr m B l c:=rfl
 rw [e0,Up,hb.cra v r hr]
 have step:∀ i,i<m->D m B*(cr m (B.set l c) i v*atV (B.set l c) i r)=cr m B l c*(cr m B i v*atV B i r)+(if i=l then cr m B l v*(D m B*c r)-cr m B l v*(cr m B l c*atV B l r) else -(cr m B l v*(cr m B i c*atV B i r))):=λ i hi=>by
  by_cases e:i=l
  . subst e
    rw [if_pos rfl,Jkx hB hi,Yy (by omega),Up,Up (cr m B i c)]
    omega
  . rw [if_neg e,Yn (Qk e),<- U7,Jd9 hb hl hi e,J63,U7,X8 (cr m B i c),U7]
    omega
 rw [Jl step,Z0,Y8]
 have key:Jn m (λ i=>if i=l then cr m B l v*(D m B*c r)-cr m B l v*(cr m B l c*atV B l r) else -(cr m B l v*(cr m B i c*atV B i r)))=0:=by
  have e2:∀ i,i<m->(if i=l then cr m B l v*(D m B*c r)-cr m B l v*(cr m B l c*atV B l r) else -(cr m B l v*(cr m B i c*atV B i r)))=(if i=l then cr m B l v*(D m B*c r) else 0) + -(cr m B l v*(cr m B i c*atV B i r)):=λ i _=>by
   by_cases e:i=l
   . subst e;rw [if_pos rfl,if_pos rfl];omega
   . rw [if_neg e,if_neg e];omega
  rw [Jl e2,Z0,Yd (a:=l) hl (λ i _ hi=>if_neg hi),if_pos rfl,Z7,Y8,<- hb.cra c r hr]
  omega
 rw [key];omega
noncomputable def Vr (i:Nat):Vec:=λ r=>if r=i then 1 else 0
end
theorem Jaz (vs:List Vec) (j i:Nat):atV (vs.eraseIdx j) i=if i<j then atV vs i else atV vs (i+1):=by
 unfold atV
 rw [Qg,J4f]
 split<;>rw [<- Qg]
theorem Jbh:∀ (k:Nat) (vs:List Vec) (i:Nat),vs.length=k->i<k->(∀ j,j<k->j≠i->atV vs j=Vr j)->D k vs=atV vs i i
 | 0,_,_,_,h,_=>by omega
 | k+1,vs,i,hl,hi,hu=>by
  rw [D,hl]
  have le:∀ j,j<k+1->(vs.eraseIdx j).length=k:=λ j hj=>by rw [Ue (by omega)];omega
  by_cases e:i=k
  . subst e
    have one:D i (vs.eraseIdx i)=1:=by
     cases i with
     | zero=>rfl
     | succ i=>
      rw [Jbh (i+1) _ 0 (le _ (by omega)) (by omega) λ j hj _=>?_,Jaz,if_pos (by omega),hu 0 (by omega) (by omega)]
      . rfl
      . rw [Jaz,if_pos hj,hu j (by omega) (by omega)]
    rw [Yd (a:=i) (by omega) λ j hj hne=>?_,Jtw,one]
    . omega
    . rw [hu j hj hne]
      have:Vr j i=0:=if_neg (by omega)
      rw [this,Xt,Xx]
  . have hik:i<k:=by omega
    rw [Yd (a:=k) (by omega) λ j hj hne=>?_,Jtw,hu k (by omega) (λ z=>e z.symm),Jbh k _ i (le k (by omega)) hik λ j hj hne=>?_,Jaz,if_pos hik]
    . have:Vr k k=1:=if_pos rfl
      rw [this];omega
    . rw [Jaz,if_pos hj,hu j (by omega) hne]
    . by_cases ej:j=i
      . subst ej
        rw [Jtv (a:=k-1) (by rw [le j hj];omega) (le j hj) λ r hr=>?_,Xt]
        rw [Jaz,if_neg (by omega),show k-1+1=k by omega,hu k (by omega) (by omega)]
        exact if_neg (by omega)
      . rw [hu j hj ej]
        have:Vr j k=0:=if_neg (by omega)
        rw [this,Xt,Xx]
noncomputable def Jb8 (m:Nat):List Vec:=(Ql m).map Vr
theorem Jea {m i:Nat}(h:i<m):atV (Jb8 m) i=Vr i:=by
 unfold atV Jb8
 rw [Qg,Qh,Xk h];rfl
theorem Jky {m i:Nat}(h:i<m) (v:Vec):cr m (Jb8 m) i v=v i:=by
 have hl:(Jb8 m).length=m:=by unfold Jb8;rw [Qb,Qx]
 unfold cr
 rw [Jbh m _ i (by rw [Qr];exact hl) h λ j hj hne=>by rw [Yn (Qk hne),Jea hj]]
 rw [Yy (by omega)]
theorem Jod (m:Nat):D m (Jb8 m)=1:=by
 cases m with
 | zero=>rfl
 | succ m=>
  have hl:(Jb8 (m+1)).length=m+1:=by unfold Jb8;rw [Qb,Qx]
  rw [Jbh (m+1) _ 0 hl (by omega) λ j hj _=>Jea hj,Jea (by omega)];rfl
theorem Jrd (m:Nat):Base m (Jb8 m):=by
 refine ⟨by unfold Jb8;rw [Qb,Qx],by rw [Jod];decide,λ v r hr=>?_⟩
 rw [Jod,Ux,Yd (a:=r) hr λ i hi hne=>?_]
 . rw [Jky hr,Jea hr]
   have:Vr r r=1:=if_pos rfl
   rw [this,J5t]
 . rw [Jea hi]
   have:Vr i r=0:=if_neg (Qk hne)
   rw [this,Xt]
noncomputable def Jim (b:Nat):Nat->Nat
 | 0=>1
 | k+1=>(k+1)*b*Jim b k
theorem Jmn {n:Nat}{f:Nat->Int}{b:Nat}(h:∀ i,i<n->(f i).natAbs<=b):(Jn n f).natAbs<=n*b:=by
 induction n with
 | zero=>simp [Jn]
 | succ n ih=>
  rw [Jn,Nat.succ_mul]
  have h1:=ih λ i hi=>h i (by omega)
  have h2:=h n (by omega)
  have:=Int.natAbs_add_le (Jn n f) (f n)
  omega
theorem Jtx {b:Nat}:∀ (k:Nat) (vs:List Vec),vs.length=k->(∀ j,j<k->∀ r,r<k->(atV vs j r).natAbs<=b)->(D k vs).natAbs<=Jim b k
 | 0,_,_,_=>Qm _
 | k+1,vs,hl,h=>by
  rw [D,hl,Jim,Nat.mul_assoc]
  refine Jmn λ j hj=>?_
  rw [J8o,J8o]
  have s1:(sg (j+k)).natAbs=1:=by unfold sg;split<;>rfl
  rw [s1,Nat.one_mul]
  refine Nat.mul_le_mul (h j hj k (by omega)) (Jtx k _ (by rw [Ue (by omega)];omega) λ i hi r hr=>?_)
  rw [Jaz]
  split
  . exact h i (by omega) r (by omega)
  . exact h (i+1) (by omega) r (by omega)
structure Tab where
 fr:List Nat
 bd:List Nat
 rows:List (List Int)
 q:Int
noncomputable def Tab.f (T:Tab) (j:Nat):Nat:=T.fr.getD j 0
noncomputable def Tab.b (T:Tab) (i:Nat):Nat:=T.bd.getD i 0
noncomputable def Tab.row (T:Tab) (i:Nat):List Int:=T.rows.getD i []
noncomputable def Tab.e (T:Tab) (i j:Nat):Int:=(T.row i).getD j 0
noncomputable def Jb9 (q:Int) (row other:List Int) (k:Nat):List Int:=(J35 (λ x y=>(row.getD k 0*x-other.getD k 0*y)/q) other row).set k (-(other.getD k 0))
noncomputable def Tab.ex (T:Tab) (l k:Nat):Tab:=⟨T.fr.set k (T.b l),T.bd.set l (T.f k),(T.rows.map λ o=>Jb9 T.q (T.row l) o k).set l ((T.row l).set k T.q),T.e l k⟩
structure TabOk (m n:Nat) (c:Nat->Vec) (rhs:Vec) (T:Tab):Prop where
 lb:T.bd.length=m
 lf:T.fr.length=n
 lr:T.rows.length=m
 lw:∀ i,i<m->(T.row i).length=n+1
 base:Base m (T.bd.map c)
 qq:T.q=D m (T.bd.map c)
 en:∀ i,i<m->∀ j,j<n->T.e i j=cr m (T.bd.map c) i (c (T.f j))
 el:∀ i,i<m->T.e i n=cr m (T.bd.map c) i rhs
 bi:∀ i i',i<m->i'<m->T.b i=T.b i'->i=i'
 fi:∀ j j',j<n->j'<n->T.f j=T.f j'->j=j'
 ne:∀ i j,i<m->j<n->T.b i≠T.f j
section
variable {m n:Nat}{c:Nat->Vec}{rhs:Vec}{T:Tab}
theorem Zt {α:Type}{l:List α}{i:Nat}{x d:α}(h:i<l.length):(l.set i x).getD i d=x:=by rw [Qg,Q2 h];rfl
theorem Vs {α:Type}{l:List α}{i j:Nat}{x d:α}(h:i≠j):(l.set i x).getD j d=l.getD j d:=by rw [Qg,Q3 h,<- Qg]
theorem at_map {l:List Nat}{c:Nat->Vec}{i:Nat}(h:i<l.length):atV (l.map c) i=c (l.getD i 0):=by
 unfold atV
 rw [Qg,Qh,Qd h,Qg,Qd h];rfl
theorem Jty {f:Int->Int->Int}{xs ys:List Int}{j:Nat}(hx:j<xs.length) (hy:j<ys.length):(J35 f xs ys).getD j 0=f (xs.getD j 0) (ys.getD j 0):=by
 rw [Qg,Uw,Qd hx,Qd hy,Qg,Qg,Qd hx,Qd hy];rfl
theorem TabOk.qpos (h:TabOk m n c rhs T):0<T.q:=by rw [h.qq];exact h.base.pos
theorem TabOk.at_b (h:TabOk m n c rhs T) {i:Nat}(hi:i<m):atV (T.bd.map c) i=c (T.b i):=at_map (by rw [h.lb];exact hi)
theorem Jhn (h:TabOk m n c rhs T) {l k:Nat}(hl:l<m):(T.ex l k).row l=(T.row l).set k T.q:=by
 unfold Tab.ex Tab.row
 exact Zt (by rw [Qb,h.lr];exact hl)
theorem Joe (h:TabOk m n c rhs T) {l k i:Nat}(hi:i<m) (hil:i≠l):(T.ex l k).row i=Jb9 T.q (T.row l) (T.row i) k:=by
 have hi':i<T.rows.length:=by rw [h.lr];exact hi
 show (((T.rows.map λ o=>Jb9 T.q (T.row l) o k).set l _).getD i [])=Jb9 T.q (T.row l) (T.rows.getD i []) k
 rw [Vs (Qk hil),Qg,Qh,Qd hi',Qg,Qd hi']
 rfl
theorem Jca (h:TabOk m n c rhs T) {l k:Nat}(hk:k<n):(T.ex l k).f k=T.b l:=Zt (by rw [h.lf];exact hk)
theorem Jin {l k j:Nat}(hj:j≠k):(T.ex l k).f j=T.f j:=Vs (Qk hj)
theorem Jda (h:TabOk m n c rhs T) {l k:Nat}(hl:l<m):(T.ex l k).b l=T.f k:=Zt (by rw [h.lb];exact hl)
theorem Jkz {l k i:Nat}(hi:i≠l):(T.ex l k).b i=T.b i:=Vs (Qk hi)
theorem Jf8 (l k:Nat):(T.ex l k).bd.map c=(T.bd.map c).set l (c (T.f k)):=by
 show (T.bd.set l (T.f k)).map c=_
 rw [X6]
theorem Jwb (h:TabOk m n c rhs T) {l k:Nat}(hl:l<m) (hk:k<n):(T.ex l k).e l k=T.q:=by
 unfold Tab.e
 rw [Jhn h hl,Zt (by rw [h.lw l hl];omega)]
theorem Jpt (h:TabOk m n c rhs T) {l k j:Nat}(hl:l<m) (hj:j≠k):(T.ex l k).e l j=T.e l j:=by
 unfold Tab.e
 rw [Jhn h hl,Vs (Qk hj)]
theorem Jwc (h:TabOk m n c rhs T) {l k i:Nat}(hi:i<m) (hl:l<m) (hk:k<n) (hil:i≠l):(T.ex l k).e i k = -T.e i k:=by
 unfold Tab.e
 rw [Joe h hi hil]
 unfold Jb9
 rw [Zt (by rw [J4y,h.lw i hi,h.lw l hl];omega)]
theorem J1u (h:TabOk m n c rhs T) {l k i j:Nat}(hi:i<m) (hl:l<m) (hj:j<n+1) (hil:i≠l) (hjk:j≠k):(T.ex l k).e i j=(T.e l k*T.e i j-T.e i k*T.e l j)/T.q:=by
 unfold Tab.e
 rw [Joe h hi hil]
 unfold Jb9
 rw [Vs (Qk hjk),Jty (by rw [h.lw i hi];exact hj) (by rw [h.lw l hl];exact hj)]
theorem TabOk.ex (h:TabOk m n c rhs T) {l k:Nat}(hl:l<m) (hk:k<n) (hp:0<T.e l k):TabOk m n c rhs (T.ex l k):=by
 have hB:=h.base.len
 have el:T.e l k=cr m (T.bd.map c) l (c (T.f k)):=h.en l hl k hk
 have qne:T.q≠0:=J62 h.qpos
 have div:∀ {x y:Int},T.q*x=y->y/T.q=x:=λ {x y} e=>by rw [<- e,Int.mul_ediv_cancel_left _ qne]
 refine ⟨by show (T.bd.set l _).length=m;rw [Qr];exact h.lb,by show (T.fr.set k _).length=n;rw [Qr];exact h.lf,by show ((T.rows.map _).set l _).length=m;rw [Qr,Qb];exact h.lr,λ i hi=>?_,?_,?_,λ i hi j hj=>?_,λ i hi=>?_,λ i i' hi hi' e=>?_,λ j j' hj hj' e=>?_,λ i j hi hj e=>?_⟩
 . by_cases e:i=l
   . subst e;rw [Jhn h hi,Qr];exact h.lw i hi
   . rw [Joe h hi e]
     unfold Jb9
     rw [Qr,J4y,h.lw i hi,h.lw l hl];omega
 . rw [Jf8]
   exact h.base.swap hl (by rw [<- el];exact hp)
 . rw [Jf8];exact el
 . rw [Jf8]
   by_cases e:i=l
   . subst e
     rw [Jkx hB hl]
     by_cases e2:j=k
     . subst e2
       rw [Jwb h hi hj,Jca h hj,h.qq,<- h.at_b hi,Jd7 hB hi]
     . rw [Jpt h hi e2,Jin e2];exact h.en i hi j hj
   . by_cases e2:j=k
     . subst e2
       rw [Jwc h hi hl hj e,Jca h hj,h.en i hi j hj]
       have:=Jd9 h.base hl hi e (c (T.f j)) (c (T.b l))
       rw [<- h.at_b hl,Jd8 hB hi hl e,Jd7 hB hl,<- h.qq] at this
       refine (J8n qne ?_).symm
       rw [<- h.at_b hl,this,Xt,J4g,X8 T.q];omega
     . rw [J1u h hi hl (by omega) e e2,Jin e2]
       refine div ?_
       rw [h.qq,Jd9 h.base hl hi e,<- el,<- h.en i hi j hj,<- h.en i hi k hk,<- h.en l hl j hj]
 . rw [Jf8]
   by_cases e:i=l
   . subst e
     rw [Jkx hB hl,Jpt h hi (by omega)];exact h.el i hi
   . rw [J1u h hi hl (by omega) e (by omega)]
     refine div ?_
     rw [h.qq,Jd9 h.base hl hi e,<- el,<- h.el i hi,<- h.en i hi k hk,<- h.el l hl]
 . by_cases a:i=l
   . by_cases b:i'=l
     . rw [a,b]
     . subst a
       rw [Jda h hi,Jkz b] at e
       exact absurd e.symm (h.ne i' k hi' hk)
   . by_cases b:i'=l
     . subst b
       rw [Jda h hi',Jkz a] at e
       exact absurd e (h.ne i k hi hk)
     . rw [Jkz a,Jkz b] at e
       exact h.bi i i' hi hi' e
 . by_cases a:j=k
   . by_cases b:j'=k
     . rw [a,b]
     . subst a
       rw [Jca h hj,Jin b] at e
       exact absurd e (h.ne l j' hl hj')
   . by_cases b:j'=k
     . subst b
       rw [Jca h hj',Jin a] at e
       exact absurd e.symm (h.ne l j hl hj)
     . rw [Jin a,Jin b] at e
       exact h.fi j j' hj hj' e
 . by_cases a:i=l
   . subst a
     rw [Jda h hi] at e
     by_cases b:j=k
     . subst b;rw [Jca h hj] at e;exact h.ne i j hi hj e.symm
     . rw [Jin b] at e
       exact b (h.fi k j hk hj e).symm
   . rw [Jkz a] at e
     by_cases b:j=k
     . subst b;rw [Jca h hj] at e;exact a (h.bi i l hi hl e)
     . rw [Jin b] at e;exact h.ne i j hi hj e
noncomputable def Tab.tot (T:Tab) (m n:Nat) (g:Nat->Int):Int:=Jn m (λ i=>g (T.b i))+Jn n (λ j=>g (T.f j))
theorem Jho {n k:Nat}{f g:Nat->Int}(hk:k<n) (h:∀ i,i<n->i≠k->f i=g i):Jn n f=Jn n g+(f k-g k):=by
 have:Jn n f=Jn n (λ i=>g i+(if i=k then f k-g k else 0)):=Jl λ i hi=>by
  by_cases e:i=k
  . subst e;rw [if_pos rfl];omega
  . rw [if_neg e,h i hi e];omega
 rw [this,Z0,Yd (a:=k) hk (λ i _ hi=>if_neg hi),if_pos rfl]
theorem Jtz (h:TabOk m n c rhs T) {l k:Nat}(hl:l<m) (hk:k<n) (g:Nat->Int):(T.ex l k).tot m n g=T.tot m n g:=by
 unfold Tab.tot
 rw [Jho (k:=l) (f:=λ i=>g ((T.ex l k).b i)) (g:=λ i=>g (T.b i)) hl (λ i _ hne=>by rw [Jkz hne]),Jho (k:=k) (f:=λ j=>g ((T.ex l k).f j)) (g:=λ j=>g (T.f j)) hk (λ j _ hne=>by rw [Jin hne])]
 rw [Jda h hl,Jca h hk]
 omega
end
noncomputable def ind (W:List Nat) (ν:Nat) (x:Int):Int:=if ν∈W then x else 0
noncomputable def Tab.rise (T:Tab) (m:Nat) (W:List Nat) (j:Nat):Int:=ind W (T.f j) T.q-Jn m λ i=>ind W (T.b i) (T.e i j)
def Sol (m n:Nat) (c:Nat->Vec) (T:Tab) (x:Nat->Int):Prop:=∀ r,r<m->T.tot m n (λ ν=>x ν * c ν r)=0
theorem Jwd (W:List Nat) (ν:Nat) (a b:Int):ind W ν a*b=ind W ν (a*b):=by unfold ind;split;rfl;exact Xx _
theorem Jmo (W:List Nat) (ν:Nat) (a b:Int):a*ind W ν b=ind W ν (a*b):=by unfold ind;split;rfl;exact Xt _
section
variable {m n:Nat}{c:Nat->Vec}{rhs:Vec}{T:Tab}{W:List Nat}{x:Nat->Int}
theorem Jwe (h:TabOk m n c rhs T) (s:Sol m n c T x) {i:Nat}(hi:i<m):T.q*x (T.b i) = -Jn n λ j=>T.e i j*x (T.f j):=by
 have hB:=h.base.len
 have z:cr m (T.bd.map c) i (λ r=>Jn m (λ t=>x (T.b t)*c (T.b t) r)+Jn n (λ j=>x (T.f j)*c (T.f j) r))=0:=by
  rw [Jhm hB hi (w:=λ r=>0*(λ _=>0:Vec) r) (λ r hr=>by rw [Xx];exact s r hr),Jmm hB hi,Xx]
 have e:=Jzv hB hi 1 1 (λ r=>Jn m (λ t=>x (T.b t)*c (T.b t) r)) (λ r=>Jn n (λ j=>x (T.f j)*c (T.f j) r))
 simp only [Ux] at e
 rw [z,Jkw hB hi,Jkw hB hi] at e
 rw [Yd (a:=i) hi (λ t ht hne=>by rw [<- h.at_b ht,Jd8 hB hi ht (Qk hne),Xt]),<- h.at_b hi,Jd7 hB hi,<- h.qq] at e
 have e2:Jn n (λ j=>x (T.f j)*cr m (T.bd.map c) i (c (T.f j)))=Jn n λ j=>T.e i j*x (T.f j):=Jl λ j hj=>by rw [h.en i hi j hj,X8]
 rw [e2,X8] at e
 omega
theorem Jhp (h:TabOk m n c rhs T) (s:Sol m n c T x):T.q*T.tot m n (λ ν=>ind W ν (x ν))=Jn n λ j=>T.rise m W j*x (T.f j):=by
 unfold Tab.tot
 rw [J3o,<- Y8,<- Y8]
 have e1:Jn m (λ i=>T.q*ind W (T.b i) (x (T.b i))) = -Jn n (λ j=>Jn m (λ i=>ind W (T.b i) (T.e i j))*x (T.f j)):=by
  have:∀ i,i<m->T.q*ind W (T.b i) (x (T.b i)) = -Jn n (λ j=>ind W (T.b i) (T.e i j)*x (T.f j)):=λ i hi=>by
   rw [Jmo,Jwe h s hi]
   by_cases w:T.b i∈W
   . unfold ind;rw [if_pos w]
     congr 1
     exact Jl λ j _=>by rw [if_pos w]
   . unfold ind;rw [if_neg w]
     rw [Jl (g:=λ _=>0) λ j _=>by rw [if_neg w,Xx],Z8];rfl
  rw [Jl this,Z7,Jay]
  congr 1
  exact Jl λ j _=>Jjm m (x (T.f j)) _
 rw [e1]
 have e2:Jn n (λ j=>T.rise m W j*x (T.f j))=Jn n (λ j=>T.q*ind W (T.f j) (x (T.f j)) + -(Jn m (λ i=>ind W (T.b i) (T.e i j))*x (T.f j))):=Jl λ j _=>by
  unfold Tab.rise
  rw [J63,Jwd,Jmo];omega
 rw [e2,Z0,Z7]
 exact Int.add_comm _ _
noncomputable def Tab.dir (T:Tab) (m k:Nat) (ν:Nat):Int:=(if ν = T.f k then T.q else 0)-Jn m λ i=>if T.b i = ν then T.e i k else 0
theorem Jt0 (h:TabOk m n c rhs T) {k i:Nat}(hk:k<n) (hi:i<m):T.dir m k (T.b i) = -T.e i k:=by
 unfold Tab.dir
 rw [if_neg (h.ne i k hi hk),Yd (a:=i) hi (λ t ht hne=>if_neg λ z=>hne (h.bi t i ht hi z)),if_pos rfl];omega
theorem Jpu (h:TabOk m n c rhs T) {k:Nat}(hk:k<n):T.dir m k (T.f k)=T.q:=by
 unfold Tab.dir
 rw [if_pos rfl,Jl (g:=λ _=>0) (λ i hi=>if_neg (h.ne i k hi hk)),Z8];omega
theorem Jt1 (h:TabOk m n c rhs T) {k j:Nat}(hk:k<n) (hj:j<n) (hne:j≠k):T.dir m k (T.f j)=0:=by
 unfold Tab.dir
 rw [if_neg (λ z=>hne (h.fi j k hj hk z)),Jl (g:=λ _=>0) (λ i hi=>if_neg (h.ne i j hi hj)),Z8];rfl
theorem Jf9 (h:TabOk m n c rhs T) {k:Nat}(hk:k<n):Sol m n c T (T.dir m k):=λ r hr=>by
 unfold Tab.tot
 rw [Yd (f:=λ j=>T.dir m k (T.f j)*c (T.f j) r) (a:=k) hk (λ j hj hne=>by rw [Jt1 h hk hj hne,Xx]),Jpu h hk]
 rw [h.qq,h.base.cra (c (T.f k)) r hr,Jl (f:=λ i=>T.dir m k (T.b i)*c (T.b i) r) (g:=λ i=>-(cr m (T.bd.map c) i (c (T.f k))*atV (T.bd.map c) i r)) (λ i hi=>by rw [Jt0 h hk hi,h.at_b hi,h.en i hi k hk,J5b]),Z7]
 omega
theorem Jdb (h:TabOk m n c rhs T) {k:Nat}(hk:k<n):T.tot m n (λ ν=>ind W ν (T.dir m k ν))=T.rise m W k:=by
 have e:=Jhp (W:=W) h (Jf9 h hk)
 rw [Yd (a:=k) hk (λ j hj hne=>by rw [Jt1 h hk hj hne,Xt]),Jpu h hk,X8] at e
 exact Int.eq_of_mul_eq_mul_right (J62 h.qpos) e
theorem Jzw {T':Tab}(p:∀ g,T'.tot m n g=T.tot m n g):Sol m n c T x->Sol m n c T' x:=λ s r hr=>by rw [p];exact s r hr
structure Yv (m n:Nat) (W:List Nat) (T:Tab) (l k:Nat):Prop where
 hl:l<m
 hk:k<n
 rise:0<T.rise m W k
 first:∀ j,j<n->0<T.rise m W j->T.f k<=T.f j
 pos:0<T.e l k
 low:∀ i,i<m->0<T.e i k->T.b l<=T.b i
theorem Vi {n:Nat}{f:Nat->Int}(h:0<Jn n f):∃ j,j<n/\0<f j:=by
 induction n with
 | zero=>exact absurd h (by simp [Jn])
 | succ n ih=>
  rw [Jn] at h
  by_cases e:0<f n
  . exact ⟨n,by omega,e⟩
  . obtain ⟨j,hj,hp⟩:=ih (by omega)
    exact ⟨j,by omega,hp⟩
theorem Jre {T T':Tab}{l k l' k':Nat}(h:TabOk m n c rhs T) (h':TabOk m n c rhs T') (p:∀ g,T'.tot m n g=T.tot m n g) (s:Yv m n W T l k) (s':Yv m n W T' l' k')
 (out:T.b l=T'.f k') (e1:T.f k<T.b l) (mid:∀ i j,i<m->j<n->T.b i=T'.f j->T.b i<=T.b l):False:=by
 have sol':Sol m n c T' (T.dir m k):=Jzw p (Jf9 h s.hk)
 have w:=Jdb (W:=W) h s.hk
 have w':=Jhp (W:=W) h' sol'
 rw [p,w] at w'
 have pos:0<T'.q*T.rise m W k:=Int.mul_pos h'.qpos s.rise
 rw [w'] at pos
 obtain ⟨j,hj,hp⟩:=Vi pos
 have nz:T.dir m k (T'.f j)≠0:=λ z=>by rw [z,Xt] at hp;exact absurd hp (by decide)
 have neg_of:∀ {a b:Int},0<a*b->a<=0->b<0:=λ {a b} hab ha=>by
  rcases Int.lt_trichotomy b 0 with z | z | z
  . exact z
  . rw [z,Xt] at hab;exact absurd hab (by decide)
  . have:a*b<=0:=J8p ha (by omega)
    omega
 have pos_of:∀ {a b:Int},0<a*b->0<b->0<a:=λ {a b} hab hb=>by
  rcases J64 0 a with z | z
  . exact z
  . have:a*b<=0:=J8p z (by omega)
    omega
 by_cases ek:T'.f j=T.f k
 . rw [ek,Jpu h s.hk] at hp
   have r1:=pos_of hp h.qpos
   have:=s'.first j hj r1
   omega
 . have:∃ i,i<m/\T.b i=T'.f j:=by
    refine J3p λ no=>nz ?_
    unfold Tab.dir
    rw [if_neg ek,Jl (g:=λ _=>0) (λ i hi=>if_neg λ z=>no ⟨i,hi,z⟩),Z8];rfl
   obtain ⟨i,hi,eb⟩:=this
   rw [<- eb,Jt0 h s.hk hi] at hp
   have le:=mid i j hi hj eb
   by_cases el:T.b i=T.b l
   . have il:=h.bi i l hi s.hl el
     subst il
     have jk:j=k':=h'.fi j k' hj s'.hk (by rw [<- eb,el];exact out)
     subst jk
     have:T'.rise m W j * -T.e i k<=0:=Int.mul_nonpos_of_nonneg_of_nonpos (Int.le_of_lt s'.rise) (by have:=s.pos;omega)
     omega
   . have r1:T'.rise m W j<=0:=by
      rcases J64 0 (T'.rise m W j) with z | z
      . have:=s'.first j hj z
        omega
      . exact z
     have:=neg_of hp r1
     have:=s.low i hi (by omega)
     omega
end
structure Path (m n:Nat) (c:Nat->Vec) (rhs:Vec) (W:List Nat) (N:Nat) (st:Nat->Tab) (l k:Nat->Nat):Prop where
 ok:∀ t,t<=N->TabOk m n c rhs (st t)
 sp:∀ t,t<N->Yv m n W (st t) (l t) (k t)
 ex:∀ t,t<N->st (t+1)=(st t).ex (l t) (k t)
section
variable {m n:Nat}{c:Nat->Vec}{rhs:Vec}{W:List Nat}{N:Nat}{st:Nat->Tab}{l k:Nat->Nat}
def inB (m:Nat) (T:Tab) (ν:Nat):Prop:=∃ i,i<m/\T.b i = ν
theorem Path.tot (h:Path m n c rhs W N st l k) (g:Nat->Int):∀ t,t<=N->(st t).tot m n g=(st 0).tot m n g
 | 0,_=>rfl
 | t+1,ht=>by
  rw [h.ex t (by omega),Jtz (h.ok t (by omega)) (h.sp t (by omega)).hl (h.sp t (by omega)).hk]
  exact h.tot g t (by omega)
theorem Path.stay (h:Path m n c rhs W N st l k) {t:Nat}(ht:t<N) {ν:Nat}:inB m (st (t+1)) ν↔(inB m (st t) ν/\ν≠(st t).b (l t))\/ν = (st t).f (k t):=by
 have o:=h.ok t (by omega)
 have s:=h.sp t ht
 rw [h.ex t ht]
 constructor
 . rintro ⟨i,hi,e⟩
   by_cases il:i=l t
   . subst il
     rw [Jda o hi] at e
     exact .inr e.symm
   . rw [Jkz il] at e
     exact .inl ⟨⟨i,hi,e⟩,λ z=>il (o.bi i (l t) hi s.hl (by rw [e,z]))⟩
 . rintro (⟨⟨i,hi,e⟩,ne⟩ | e)
   . have il:i≠l t:=λ z=>ne (by rw [<- e,z])
     exact ⟨i,hi,by rw [Jkz il];exact e⟩
   . exact ⟨l t,s.hl,by rw [Jda o s.hl];exact e.symm⟩
theorem Path.leave (h:Path m n c rhs W N st l k) {ν:Nat}:∀ (d s:Nat),s+d<=N->inB m (st s) ν->¬ inB m (st (s+d)) ν->∃ t,s<=t/\t<s+d/\(st t).b (l t) = ν
 | 0,s,_,h1,h2=>absurd h1 h2
 | d+1,s,hs,h1,h2=>by
  by_cases e:inB m (st (s+d)) ν
  . refine ⟨s+d,by omega,by omega,J3p λ z=>h2 ?_⟩
    exact (h.stay (t:=s+d) (by omega)).mpr (.inl ⟨e,λ y=>z y.symm⟩)
  . obtain ⟨t,a,b,e⟩:=h.leave d s (by omega) h1 e
    exact ⟨t,a,by omega,e⟩
theorem Path.enter (h:Path m n c rhs W N st l k) {ν:Nat}:∀ (d s:Nat),s+d<=N->¬ inB m (st s) ν->inB m (st (s+d)) ν->∃ t,s<=t/\t<s+d/\(st t).f (k t) = ν
 | 0,s,_,h1,h2=>absurd h2 h1
 | d+1,s,hs,h1,h2=>by
  by_cases e:inB m (st (s+d)) ν
  . obtain ⟨t,a,b,e⟩:=h.enter d s (by omega) h1 e
    exact ⟨t,a,by omega,e⟩
  . refine ⟨s+d,by omega,by omega,?_⟩
    rcases (h.stay (t:=s+d) (by omega)).mp h2 with z | z
    . exact absurd z.1 e
    . exact z.symm
theorem Path.lv (h:Path m n c rhs W N st l k) {s u:Nat}{ν:Nat}(hsu:s<=u) (hu:u<=N) (h1:inB m (st s) ν) (h2:¬ inB m (st u) ν):∃ t,s<=t/\t<u/\(st t).b (l t) = ν:=by
 have:=h.leave (ν:=ν) (u-s) s (by omega) h1 (by rw [show s+(u-s)=u by omega];exact h2)
 rwa [show s+(u-s)=u by omega] at this
theorem Path.en (h:Path m n c rhs W N st l k) {s u:Nat}{ν:Nat}(hsu:s<=u) (hu:u<=N) (h1:¬ inB m (st s) ν) (h2:inB m (st u) ν):∃ t,s<=t/\t<u/\(st t).f (k t) = ν:=by
 have:=h.enter (ν:=ν) (u-s) s (by omega) h1 (by rw [show s+(u-s)=u by omega];exact h2)
 rwa [show s+(u-s)=u by omega] at this
theorem Jt2 (f:Nat->Nat) (a:Nat):∀ d,∃ t,a<=t/\t<a+d+1/\∀ s,a<=s->s<a+d+1->f s<=f t
 | 0=>⟨a,Qm _,by omega,λ s h1 h2=>by rw [show s=a by omega];exact Qm _⟩
 | d+1=>by
  obtain ⟨t,h1,h2,h3⟩:=Jt2 f a d
  by_cases e:f t<=f (a+d+1)
  . refine ⟨a+d+1,by omega,by omega,λ s s1 s2=>?_⟩
    rcases X1 s (a+d+1) with z | z
    . exact Xi (h3 s s1 z) e
    . rw [show s=a+d+1 by omega];exact Qm _
  . refine ⟨t,h1,by omega,λ s s1 s2=>?_⟩
    rcases X1 s (a+d+1) with z | z
    . exact h3 s s1 z
    . rw [show s=a+d+1 by omega];omega
theorem Path.differ (h:Path m n c rhs W N st l k) {a b:Nat}(hab:a<b) (hb:b<=N):(st a).bd≠(st b).bd:=by
 intro same
 have sb:∀ ν,inB m (st a) ν↔inB m (st b) ν:=λ ν=>by unfold inB Tab.b;rw [same]
 obtain ⟨t0,h1,h2,h3⟩:=Jt2 (λ t=>max ((st t).b (l t)) ((st t).f (k t))) a (b-a-1)
 rw [show a+(b-a-1)+1=b by omega] at h2 h3
 have top:∀ t,a<=t->t<b->(st t).b (l t)<=max ((st t0).b (l t0)) ((st t0).f (k t0))/\(st t).f (k t)<=max ((st t0).b (l t0)) ((st t0).f (k t0)):=λ t x y=>by
  have:=h3 t x y
  exact ⟨by omega,by omega⟩
 have inl:∀ t,t<N->inB m (st t) ((st t).b (l t)):=λ t ht=>⟨l t,(h.sp t ht).hl,rfl⟩
 have notf:∀ t,t<N->¬ inB m (st t) ((st t).f (k t)):=λ t ht ⟨i,hi,e⟩=>(h.ok t (by omega)).ne i (k t) hi (h.sp t ht).hk e
 have outl:∀ t,t<N->¬ inB m (st (t+1)) ((st t).b (l t)):=λ t ht z=>by
  rcases (h.stay ht).mp z with z | z
  . exact z.2 rfl
  . exact (h.ok t (by omega)).ne (l t) (k t) (h.sp t ht).hl (h.sp t ht).hk z
 have inf:∀ t,t<N->inB m (st (t+1)) ((st t).f (k t)):=λ t ht=>(h.stay ht).mpr (.inr rfl)
 generalize hτ:max ((st t0).b (l t0)) ((st t0).f (k t0)) = τ at top
 have both:(∃ t1,a<=t1/\t1<b/\(st t1).b (l t1) = τ)/\∃ t2,a<=t2/\t2<b/\(st t2).f (k t2) = τ:=by
  rcases J6l ((st t0).b (l t0)) ((st t0).f (k t0)) with z | z
  . have e:(st t0).f (k t0) = τ:=by omega
    refine ⟨?_,t0,h1,h2,e⟩
    by_cases q:inB m (st b) τ
    . obtain ⟨t,x,y,w⟩:=h.lv (s:=a) (u:=t0) h1 (by omega) ((sb τ).mpr q) (by rw [<- e];exact notf t0 (by omega))
      exact ⟨t,x,by omega,w⟩
    . obtain ⟨t,x,y,w⟩:=h.lv (s:=t0+1) (u:=b) (by omega) hb (by rw [<- e];exact inf t0 (by omega)) q
      exact ⟨t,by omega,y,w⟩
  . have e:(st t0).b (l t0) = τ:=by omega
    refine ⟨⟨t0,h1,h2,e⟩,?_⟩
    by_cases q:inB m (st b) τ
    . obtain ⟨t,x,y,w⟩:=h.en (s:=t0+1) (u:=b) (by omega) hb (by rw [<- e];exact outl t0 (by omega)) q
      exact ⟨t,by omega,y,w⟩
    . obtain ⟨t,x,y,w⟩:=h.en (s:=a) (u:=t0) h1 (by omega) (λ z=>q ((sb τ).mp z)) (by rw [<- e];exact inl t0 (by omega))
      exact ⟨t,x,by omega,w⟩
 obtain ⟨⟨t1,x1,y1,w1⟩,t2,x2,y2,w2⟩:=both
 have o1:=h.ok t1 (by omega)
 have s1:=h.sp t1 (by omega)
 refine Jre o1 (h.ok t2 (by omega)) (λ g=>by rw [h.tot g t2 (by omega),h.tot g t1 (by omega)]) s1 (h.sp t2 (by omega)) (by rw [w1,w2]) ?_ λ i j hi hj e=>?_
 . have:=(top t1 x1 y1).2
   have:=o1.ne (l t1) (k t1) s1.hl s1.hk
   omega
 . rw [w1]
   have b1:inB m (st t1) ((st t1).b i):=⟨i,hi,rfl⟩
   have b2:¬ inB m (st t2) ((st t1).b i):=λ ⟨i',hi',e'⟩=>(h.ok t2 (by omega)).ne i' j hi' hj (by rw [e',e])
   rcases X1 t1 t2 with z | z
   . obtain ⟨t,x,y,w⟩:=h.lv (Uy z) (by omega) b1 b2
     rw [<- w];exact (top t (by omega) (by omega)).1
   . obtain ⟨t,x,y,w⟩:=h.en z (by omega) b2 b1
     rw [<- w];exact (top t (by omega) (by omega)).2
end
noncomputable def Bp (K:Nat):List Nat->Nat
 | []=>0
 | x::l=>x+K*Bp K l
theorem Jpv {K:Nat}:∀ {l:List Nat},(∀ x∈l,x<K)->Bp K l<K^l.length
 | [],_=>by simp [Bp]
 | x::l,h=>by
  have h1:=h x Qi
  have h2:=Jpv (l:=l) λ y hy=>h y (Qj _ hy)
  rw [Bp,Ub,Nat.pow_succ,J59 (K^l.length)]
  have:K*Bp K l+K<=K*K^l.length:=by
   have:=Nat.mul_le_mul_left K h2
   rwa [Nat.mul_succ] at this
  omega
theorem Jmp {K:Nat}:∀ {l l':List Nat},l.length=l'.length->(∀ x∈l,x<K)->(∀ x∈l',x<K)->Bp K l=Bp K l'->l=l'
 | [],[],_,_,_,_=>rfl
 | [],_::_,h,_,_,_=>by cases h
 | _::_,[],h,_,_,_=>by cases h
 | x::l,y::l',hl,h1,h2,e=>by
  have a:=h1 x Qi
  have b:=h2 y Qi
  rw [Bp,Bp] at e
  have em:(x+K*Bp K l)%K=(y+K*Bp K l')%K:=by rw [e]
  rw [J8q,J8q,J8r a,J8r b] at em
  subst em
  have ec:Bp K l=Bp K l':=by
   have:K*Bp K l=K*Bp K l':=by omega
   exact Nat.eq_of_mul_eq_mul_left (by omega) this
  rw [Jmp (by simpa using hl) (λ z hz=>h1 z (Qj _ hz)) (λ z hz=>h2 z (Qj _ hz)) ec]
theorem Path.bound {m n:Nat}{c:Nat->Vec}{rhs:Vec}{W:List Nat}{N:Nat}{st:Nat->Tab}{l k:Nat->Nat}{K:Nat}(h:Path m n c rhs W N st l k) (hK:∀ t,t<=N->∀ x∈(st t).bd,x<K):N<K^m:=by
 have nd:((Ql (N+1)).map λ t=>Bp K (st t).bd).Nodup:=by
  rw [List.Nodup,J5c]
  refine J9e ?_ J6t
  intro a b ha hb hab e
  have ha:=Q6.mp ha
  have hb:=Q6.mp hb
  exact h.differ hab (by omega) (Jmp (by rw [(h.ok a (by omega)).lb,(h.ok b (by omega)).lb]) (hK a (by omega)) (hK b (by omega)) e)
 have:=My.nodup_le (K^m) _ nd λ x hx=>by
  obtain ⟨t,ht,rfl⟩:=Qn.mp hx
  have ht:=Q6.mp ht
  have:=Jpv (hK t (by omega))
  rwa [(h.ok t (by omega)).lb] at this
 rw [Qb,Qx] at this
 omega
structure Cols (nw m:Nat) (c:Nat->Vec):Prop where
 un:∀ s,s<m->c (nw+s)=Vr s
noncomputable def Bj (nw m:Nat) (c:Nat->Vec) (rhs:Vec) (some:List Nat):Tab:=⟨some,(Ql m).map (nw + ·),(Ql m).map λ i=>some.map (λ k=>c k i)++[rhs i],1⟩
theorem range_getD {m i:Nat}{f:Nat->Nat}(h:i<m):((Ql m).map f).getD i 0=f i:=by
 rw [Qg,Qh,Xk h];rfl
section
variable {nw m:Nat}{c:Nat->Vec}{rhs:Vec}{some:List Nat}
theorem Jeb {i:Nat}(h:i<m):(Bj nw m c rhs some).b i=nw+i:=range_getD h
theorem Je5 {i:Nat}(h:i<m):(Bj nw m c rhs some).row i=some.map (λ k=>c k i)++[rhs i]:=by
 show ((Ql m).map λ i=>some.map (λ k=>c k i)++[rhs i]).getD i []=_
 rw [Qg,Qh,Xk h];rfl
theorem Jt3 (C:Cols nw m c) (hn:some.Nodup) (hs:∀ k∈some,k<nw):TabOk m some.length c rhs (Bj nw m c rhs some):=by
 have hbd:((Bj nw m c rhs some).bd.map c)=Jb8 m:=by
  show ((Ql m).map (nw + ·)).map c=_
  rw [Qv]
  exact X5 λ i hi=>C.un i (Q6.mp hi)
 have fj:∀ j,j<some.length->(Bj nw m c rhs some).f j=some[j]!:=λ j hj=>by
  show some.getD j 0=_
  rw [Qg,Qd hj]
  simp [hj]
 have mem:∀ j,j<some.length->(Bj nw m c rhs some).f j∈some:=λ j hj=>by
  show some.getD j 0∈some
  rw [Qg,Qd hj]
  exact Xo _
 refine ⟨by show ((Ql m).map _).length=m;rw [Qb,Qx],rfl,by show ((Ql m).map _).length=m;rw [Qb,Qx],λ i hi=>by rw [Je5 hi,Q7,Qb];rfl,by rw [hbd];exact Jrd m,by rw [hbd,Jod];rfl,λ i hi j hj=>?_,λ i hi=>?_,λ i i' hi hi' e=>?_,λ j j' hj hj' e=>?_,λ i j hi hj e=>?_⟩
 . rw [hbd,Jky hi]
   unfold Tab.e
   rw [Je5 hi,Qg,Uo (by rw [Qb];exact hj),Qh,Qd hj]
   show c some[j] i=c (some.getD j 0) i
   rw [Qg,Qd hj];rfl
 . rw [hbd,Jky hi]
   unfold Tab.e
   rw [Je5 hi,Qg,U2 (by rw [Qb];exact Qm _),Qb,J4d];rfl
 . rw [Jeb hi,Jeb hi'] at e;omega
 . have e:some.getD j 0=some.getD j' 0:=e
   rw [Qg,Qg,Qd hj,Qd hj'] at e
   exact (J5q hn).mp e
 . rw [Jeb hi] at e
   have:=hs _ (mem j hj)
   omega
theorem Jrf (g:Nat->Int):(Bj nw m c rhs some).tot m some.length g=Jn m (λ s=>g (nw+s))+Jn some.length (λ j=>g (some.getD j 0)):=by
 unfold Tab.tot
 rw [Jl (f:=λ i=>g ((Bj nw m c rhs some).b i)) λ i hi=>by rw [Jeb hi]]
 rfl
end
section
variable {nw m n:Nat}{c:Nat->Vec}{rhs:Vec}{T:Tab}{W:List Nat}
def inN (m n:Nat) (T:Tab) (ν:Nat):Prop:=(∃ i,i<m/\T.b i = ν)\/∃ j,j<n/\T.f j = ν
noncomputable def Tab.L (T:Tab) (m:Nat) (c:Nat->Vec) (W:List Nat) (v:Vec):Int:=Jn m λ i=>ind W (T.b i) (cr m (T.bd.map c) i v)
theorem Jt4 (h:TabOk m n c rhs T) {j:Nat}(hj:j<n):T.L m c W (c (T.f j))=ind W (T.f j) T.q-T.rise m W j:=by
 unfold Tab.L Tab.rise
 rw [Jl (g:=λ i=>ind W (T.b i) (T.e i j)) λ i hi=>by rw [h.en i hi j hj]]
 omega
theorem Jpw (h:TabOk m n c rhs T) {t:Nat}(ht:t<m):T.L m c W (c (T.b t))=ind W (T.b t) T.q:=by
 unfold Tab.L
 rw [Yd (a:=t) ht λ i hi hne=>?_,<- h.at_b ht,Jd7 h.base.len ht,<- h.qq]
 rw [<- h.at_b ht,Jd8 h.base.len hi ht hne]
 unfold ind;split<;>rfl
theorem J1v (h:TabOk m n c rhs T) (v:Vec):T.L m c W v=Jn m λ s=>v s*T.L m c W (Vr s):=by
 have hB:=h.base.len
 unfold Tab.L
 have:∀ i,i<m->ind W (T.b i) (cr m (T.bd.map c) i v)=Jn m λ s=>v s*ind W (T.b i) (cr m (T.bd.map c) i (Vr s)):=λ i hi=>by
  have e:cr m (T.bd.map c) i v=Jn m λ s=>v s*cr m (T.bd.map c) i (Vr s):=by
   rw [<- Jkw hB hi]
   refine Jhm hB hi λ r hr=>?_
   rw [Yd (a:=r) hr λ s _ hne=>?_]
   . have:Vr r r=1:=if_pos rfl
     rw [this,J5t]
   . have:Vr s r=0:=if_neg (Qk hne)
     rw [this,Xt]
  rw [e]
  unfold ind
  split
  . rfl
  . rw [Jl (g:=λ _=>0) λ s _=>Xt _,Z8]
 rw [Jl this,Jay]
 exact Jl λ s _=>Y8 m (v s) _
structure Last (m n:Nat) (W:List Nat) (T:Tab):Prop where
 no:∀ j,j<n->T.rise m W j<=0
theorem J2x (h:TabOk m n c rhs T) (l:Last m n W T) {ν:Nat}(i:inN m n T ν):ind W ν T.q<=T.L m c W (c ν):=by
 rcases i with ⟨i,hi,rfl⟩ | ⟨j,hj,rfl⟩
 . rw [Jpw h hi];exact J25 _
 . rw [Jt4 h hj];have:=l.no j hj;omega
noncomputable def Tab.share (T:Tab) (m n:Nat) (W:List Nat) (ν:Nat):Int:=Jn n (λ j=>if T.f j = ν then -T.rise m W j else 0)+(if (∃ j,j<n/\T.f j = ν) then 0 else ind W ν T.q)
theorem Jdc (h:TabOk m n c rhs T) {j:Nat}(hj:j<n):T.share m n W (T.f j) = -T.rise m W j:=by
 unfold Tab.share
 rw [if_pos ⟨j,hj,rfl⟩,Yd (a:=j) hj λ i hi hne=>if_neg λ z=>hne (h.fi i j hi hj z),if_pos rfl];omega
theorem Bg (h:TabOk m n c rhs T) {i:Nat}(hi:i<m):T.share m n W (T.b i)=ind W (T.b i) T.q:=by
 unfold Tab.share
 rw [if_neg λ ⟨j,hj,e⟩=>h.ne i j hi hj e.symm,Jl (g:=λ _=>0) λ j hj=>if_neg λ e=>h.ne i j hi hj e.symm,Z8];omega
theorem Jwf (h:TabOk m n c rhs T) {ν:Nat}(i:inN m n T ν) (hw:ν∉W\/∃ i,i<m/\T.b i = ν):T.share m n W ν = T.L m c W (c ν):=by
 rcases i with ⟨i,hi,rfl⟩ | ⟨j,hj,rfl⟩
 . rw [Bg h hi,Jpw h hi]
 . rw [Jdc h hj,Jt4 h hj]
   rcases hw with hw | ⟨i,hi,e⟩
   . unfold ind;rw [if_neg hw];omega
   . exact absurd e (h.ne i j hi hj)
theorem Jjn (C:Cols nw m c) (h:TabOk m n c rhs T) (l:Last m n W T) (hu:∀ s,s<m->inN m n T (nw+s)) (hw:∀ s,s<m->nw+s∉W\/∃ i,i<m/\T.b i=nw+s) {k:Nat}(hk:inN m n T k) :
 ind W k T.q<=Jn m (λ s=>c k s*T.share m n W (nw+s)):=by
 have e:Jn m (λ s=>c k s*T.share m n W (nw+s))=T.L m c W (c k):=by
  rw [J1v h]
  exact Jl λ s hs=>by rw [Jwf h (hu s hs) (hw s hs),C.un s hs]
 rw [e]
 exact J2x h l hk
theorem Jt5 (h:TabOk m n c rhs T) (l:Last m n W T) {ν:Nat}(i:inN m n T ν):0<=T.share m n W ν:=by
 rcases i with ⟨i,hi,rfl⟩ | ⟨j,hj,rfl⟩
 . rw [Bg h hi]
   unfold ind
   split
   . exact Int.le_of_lt h.qpos
   . exact J25 _
 . rw [Jdc h hj];have:=l.no j hj;omega
structure Ray (m n:Nat) (W:List Nat) (T:Tab) (k:Nat):Prop where
 hk:k<n
 rise:0<T.rise m W k
 no:∀ i,i<m->T.e i k<=0
theorem Jt6 (h:TabOk m n c rhs T) {k:Nat}(r:Ray m n W T k) (ν:Nat):0<=T.dir m k ν:=by
 unfold Tab.dir
 have:Jn m (λ i=>if T.b i = ν then T.e i k else 0)<=0:=by
  have:∀ M,M<=m->Jn M (λ i=>if T.b i = ν then T.e i k else 0)<=0:=by
   intro M
   induction M with
   | zero=>intro _;exact J25 _
   | succ M ih=>
    intro hM
    have a:=ih (by omega)
    have b:(if T.b M = ν then T.e M k else 0)<=0:=by
     split
     . exact r.no M (by omega)
     . exact J25 _
    show Jn M (λ i=>if T.b i = ν then T.e i k else 0)+(if T.b M = ν then T.e M k else 0)<=0
    omega
  exact this m (Qm _)
 have:=h.qpos
 split<;>omega
end
end Tb
namespace My
open L2
end My
namespace L2
variable {X:Cx}
end L2
namespace My
open L2
abbrev J2y (i j:Nat) (ga:GN):GS:=λ G env n=>ga env n λ ds n1=>∃ x y,ds=[x,y]/\G.nx ((env.set i (.d x)).set j (.d y)) n1
instance sv_par {i j:Nat}{t:TA}{gt:GN} [T:DV true t gt]:SV (J0i i j t) (J2y i j gt):=⟨λ {C G D} O {ex env σ H n} A h=>
 T.dv A.ev h λ ds n1 vs H1 h1 s1 r1=>by
  obtain ⟨x,y,rfl,q⟩:=h1
  cases r1 with
  | cons r1 r2=>
   cases r2 with
   | cons r2 r3=>
    cases r3
    exact ⟨_,_,rfl,O.nx (((A.step s1).put r1).put r2) q⟩⟩
def J1w:G1:=λ ds Q=>match ds with
 | [.int i]=>Q (.int (if i<0 then -i else i))
 | _=>False
instance cs_abs:CS (λ xs H Q=>∃ i,xs=[.int i]/\Q (.int (if i<0 then -i else i)) H) J1w:=⟨λ {H xs ds Q P} r h k=>by
 unfold J1w at h
 split at h
 . cases r with
   | cons r1 t=>
    cases t
    cases r1
    exact ⟨_,rfl,k _ _ h λ _=>.int _⟩
 . exact h.elim⟩
noncomputable def Zg (ns:List Int):Nat:=ns.foldl (λ g x=>J3d g x.natAbs) 0
def Jec:GSp:=λ as n Q=>∃ ns:List Int,as=[.d (.list (ns.map .int))]/\Q (.int ((Zg ns:Nat):Int)) n
noncomputable instance:Scal Jec:=⟨λ {as n P} h=>by obtain ⟨w,e,q⟩:=h;exact ⟨w,e,rfl,q⟩⟩
def Jga:GSn:=λ as n Q=>∃ ns:List Int,as=[.d (.list (ns.map .int))]/\ns.length<=100000/\Zg ns≠0/\((Zg ns:Nat):Int)<2^9000/\Q ((ns.map λ x=>x/((Zg ns:Nat):Int)).map .int) n
theorem Jt7 (ns:List Int) (x:Int):Zg (ns++[x])=J3d (Zg ns) x.natAbs:=by unfold Zg;rw [J47];rfl
theorem Jt8 {ns:List Int}{i:Nat}{x:Int}(h:ns[i]? = some x):Zg (ns.take (i+1))=J3d (Zg (ns.take i)) x.natAbs:=by
 rw [J46,h]
 exact Jt7 _ _
end My
namespace L2
open PySem.SeqAt
open AutoSeq1 (wpAny_loadPart')
theorem Jwg (l b:Addr) (n n2:Nat) (dd dd2:Option Addr) (sl sl2:Array (Option J9g)) {x y:Int}{tx ty:Tok}{u u2:J9g}(hne:x≠y) :
 Meets (Builtin.«tuple.__lt__» ⟨[.ref l,.ref b],[]⟩) (λ A R s=>s.heap.get? l=some { cls:=.type "tuple",dict:=dd,data:=.seq #[.int x tx,u] n,slots:=sl }/\s.heap.get? b=some { cls:=.type "tuple",dict:=dd2,data:=.seq #[.int y ty,u2] n2,slots:=sl2 }/\R (.ok (.ret (.bool (decide (x<y))))) s):=
 .of_wp λ prog w A R s h=>by
  obtain ⟨hp,g,d,tk,os⟩:=s
  obtain ⟨hl,hb,hR⟩:=h
  have f2:=AutoSeq1.sub_tuple_tuple
  wp_walk using J9z hl,J9z hb,wpAny_forIn_list _ (λ rest b s'=>b.1=none/\s'=⟨hp,g,d,tk,os⟩/\rest=[(Uq x tx,Uq y ty),(u,u2)]) _
  case turn=>
   rintro ⟨p,q⟩ rest b s' ⟨hb',rfl,hz⟩
   injection hz with h1 h2
   cases h1
   refine wpAny_bind (EqAt.int_int x tx y ty prog w _ _ ?_)
   rw [show (x==y)=false from beq_eq_false_iff_ne.mpr hne]
   show J9j _ _ (rule "tuple.compare.by-the-first-pair-that-differs" >>= λ _=>richCompare .Lt (.int x tx) (.int y ty) >>= _) _ _ _
   wp_step
   wp_step
   refine wpAny_bind (wpAny_richCompare_same (op:=.Lt) (T:="int") (typeIs_int _ x tx) (typeIs_int _ y ty) slot_int_lt (call_int_lt ⟨by simp,?_⟩))
   wp_walk
   exact ⟨_,rfl,hR⟩
  case fin=>
   rintro ⟨b1,b2⟩ s' ⟨hb',rfl,hz⟩
   cases hz
  case h=>exact ⟨rfl,rfl,rfl⟩
section
variable {prog:J9l}{w:J9k}{A:J9m}{E:J9g->J9i->Prop}{s:J9i}{R:J91->J9i->Prop}
theorem Jt9 {l b:Addr}{x y:Int}{tx ty:Tok}{u u2:J9g}{Q:J9g->J9i->Prop}(hu:A.units<cLine) (hne:x≠y) (hl:s.heap.IsTuple l #[.int x tx,u]) (hb:s.heap.IsTuple b #[.int y ty,u2]) (q:Q (.bool (decide (x<y))) s):J9j (model prog w) A (richCompare .Lt (.ref l) (.ref b)) Q E s:=by
 obtain ⟨⟨c1,d1,e1,f1⟩,h1,rfl,n1,rfl⟩:=hl
 obtain ⟨⟨c2,d2,e2,f2⟩,h2,rfl,n2,rfl⟩:=hb
 exact wpAny_richCompare_same_room (op:=.Lt) (T:="tuple") ⟨_,h1,rfl⟩ ⟨_,h2,rfl⟩ J8s (call_meets J8s ⟨_,h1,rfl⟩ F.entry_tuple_lt (F.args_tuple_lt_2 _ _) (Jwg l b n1 n2 d1 d2 f1 f2 hne) ⟨h1,h2,by simp,q⟩) hu
theorem Jpx (bt:Nat->Nat->Bool):∀ k,argBest bt k<=k
 | 0=>Qm _
 | k+1=>by
  have:=Jpx bt k
  rw [argBest]
  split<;>omega
theorem Jmq {I S:Addr}{fp wr:List Addr}{n:Nat}{P:Nat->J9g->Prop}{St:Nat->Heap->Prop}(W:Walks prog w A.in1 I fp wr n P St) (bt:Nat->Nat->Bool) (G:Heap->Prop) (hSf:S∉fp)
 (keep:∀ h h',G h->(∀ b o,b∉wr->b≠S->h.get? b=some o->h'.get? b=some o)->G h')
 (ask:∀ i j vi vj (s:J9i) (Q:J9g->J9i->Prop) (E:J9g->J9i->Prop),i≠j->P i vi->P j vj->G s.heap->Q (.bool (bt i j)) s->J9j (model prog w) A.in1 (richCompare .Lt vi vj) Q E s) :
 ∀ (k j:Nat) (s:J9i) (vb:J9g) (c:Nat),n-(j+1)=k->j+1<=n->St (j+1) s.heap->P (argBest bt j) vb->G s.heap ->
 s.heap.get? S=some { cls:=.type "list",dict:=none,data:=.seq #[vb,vb] c,slots:=#[] } ->
 (∀ v h' tk,P (argBest bt (n-1)) v->(∀ b o,b∉wr->b≠S->s.heap.get? b=some o->h'.get? b=some o)->R (.ok (.ret v)) { s with heap:=h',toks:=tk }) ->
 J9u (model prog w) A (.builtin "min.loop" ⟨[.ref I,.none,.ref S],[]⟩) R s:=by
 have off:S∉wr:=λ h=>hSf (W.sub _ h)
 have nm:(toString "min" ++ toString ".loop":String) = "min.loop":=by decide
 intro k
 induction k with
 | zero=>
  intro j s vb c hk hj st hv hg hS fin
  have last:j+1=n:=by omega
  refine Yar J65 ?_
  rw [J66 J3e _]
  show J9j _ A.in1 (J96 (.ref S) >>= _) _ _ s
  refine wpAny_bind (wpAny_seqItems hS rfl ?_)
  show J9j _ A.in1 (tryCatch (pyNext (.ref I)) _ >>= _) _ _ s
  refine wpAny_bind (wpAny_tryCatch (W.done s _ _ (last▸st) λ h' tk kp=>?_))
  have hS':=kp S _ off hS
  show J9j _ A.in1 (updateSeq S (λ _=>#[]) >>= _) _ _ _
  refine wpAny_bind (wpAny_updateSeq hS' rfl (wpAny_bind (wpAny_letGo (wpAny_pure ?_))))
  exact fin vb _ tk (by rw [<- last];exact hv) λ b o hbw hbS e=>(U3 _ _ (Qk hbS)).trans (kp b o hbw e)
 | succ k ih=>
  intro j s vb c hk hj st hv hg hS fin
  have more:j+1<n:=by omega
  refine Yar J65 ?_
  rw [J66 J3e _]
  show J9j _ A.in1 (J96 (.ref S) >>= _) _ _ s
  refine wpAny_bind (wpAny_seqItems hS rfl ?_)
  show J9j _ A.in1 (tryCatch (pyNext (.ref I)) _ >>= _) _ _ s
  refine wpAny_bind (wpAny_tryCatch (W.item (j+1) s _ _ more st λ v h' tk hp st' kp=>?_))
  have hS':=kp S _ off hS
  have hg':G h':=keep _ _ hg λ b o hbw _ e=>kp b o hbw e
  have ne:j+1≠argBest bt j:=by have:=Jpx bt j;omega
  show J9j _ A.in1 (tryCatch (holding [v,v] (richCompare .Lt v vb >>= _)) _ >>= _) _ _ _
  refine wpAny_bind (wpAny_tryCatch (wpAny_holding (wpAny_bind (ask (j+1) (argBest bt j) v vb _ _ _ ne hp hv hg' ?_))))
  refine wpAny_bind (wpAny_holding (wpAny_truthy_bool ?_))
  refine wpAny_bind (wpAny_letGo (wpAny_pure ?_))
  cases hb:bt (j+1) (argBest bt j) with
  | true=>
   simp only [if_true]
   refine wpAny_bind (wpAny_updateSeq hS' rfl (wpAny_bind (wpAny_letGo ?_)))
   rw [nm]
   refine wpAny_pure ⟨plainId_quiet J3e _,ih (j+1) _ v _ (by omega) more (W.frame _ _ _ st' λ b hbf o e=>?_) (by simp only [argBest,hb,if_true];exact hp) (keep _ _ hg' λ b o _ hbS e=>(U3 _ _ (Qk hbS)).trans e) (J4n _ hS' rfl) λ v' h2 t2 hp' k2=>?_⟩
   . exact (U3 _ _ (λ h:S=b=>hSf (by rw [h];exact hbf))).trans e
   . exact fin v' h2 t2 hp' λ b o hbw hbS e=>k2 b o hbw hbS ((U3 _ _ (Qk hbS)).trans (kp b o hbw e))
  | false=>
   simp only [J33,if_false]
   refine wpAny_bind (wpAny_letGo ?_)
   rw [nm]
   refine wpAny_pure ⟨plainId_quiet J3e _,ih (j+1) _ vb c (by omega) more st' (by simp only [argBest,hb,J33,if_false];exact hv) hg' hS' λ v' h2 t2 hp' k2=>?_⟩
   exact fin v' h2 t2 hp' λ b o hbw hbS e=>k2 b o hbw hbS (kp b o hbw e)
theorem Jmr {I S:Addr}{fp wr:List Addr}{n:Nat}{P:Nat->J9g->Prop}{St:Nat->Heap->Prop}(W:Walks prog w A.in1 I fp wr n P St) (bt:Nat->Nat->Bool) (G:Heap->Prop) (hSf:S∉fp)
 (keep:∀ h h',G h->(∀ b o,b∉wr->b≠S->h.get? b=some o->h'.get? b=some o)->G h')
 (ask:∀ i j vi vj (s:J9i) (Q:J9g->J9i->Prop) (E:J9g->J9i->Prop),i≠j->P i vi->P j vj->G s.heap->Q (.bool (bt i j)) s->J9j (model prog w) A.in1 (richCompare .Lt vi vj) Q E s)
 (hn:0<n) {c:Nat} (st:St 0 s.heap) (hg:G s.heap) (hS:s.heap.get? S=some { cls:=.type "list",dict:=none,data:=.seq #[] c,slots:=#[] })
 (fin:∀ v h' tk,P (argBest bt (n-1)) v->(∀ b o,b∉wr->b≠S->s.heap.get? b=some o->h'.get? b=some o)->R (.ok (.ret v)) { s with heap:=h',toks:=tk }) :
 J9u (model prog w) A (.builtin "min.loop" ⟨[.ref I,.none,.ref S],[]⟩) R s:=by
 have off:S∉wr:=λ h=>hSf (W.sub _ h)
 have nm:(toString "min" ++ toString ".loop":String) = "min.loop":=by decide
 refine Yar J65 ?_
 rw [J66 J3e _]
 show J9j _ A.in1 (J96 (.ref S) >>= _) _ _ s
 refine wpAny_bind (wpAny_seqItems hS rfl ?_)
 show J9j _ A.in1 (tryCatch (pyNext (.ref I)) _ >>= _) _ _ s
 refine wpAny_bind (wpAny_tryCatch (W.item 0 s _ _ hn st λ v h' tk hp st' kp=>?_))
 have hS':=kp S _ off hS
 have hg':G h':=keep _ _ hg λ b o hbw _ e=>kp b o hbw e
 show J9j _ A.in1 (updateSeq S (λ _=>#[v,v]) >>= _) _ _ _
 refine wpAny_bind (wpAny_updateSeq hS' rfl ?_)
 rw [nm]
 refine wpAny_pure ⟨plainId_quiet J3e _,Jmq W bt G hSf keep ask _ 0 _ v _ rfl hn (W.frame _ _ _ st' λ b hbf o e=>?_) hp (keep _ _ hg' λ b o _ hbS e=>(U3 _ _ (Qk hbS)).trans e) (J4n _ hS' rfl) λ v' h2 t2 hp' k2=>?_⟩
 . exact (U3 _ _ (λ h:S=b=>hSf (by rw [h];exact hbf))).trans e
 . exact fin v' h2 t2 hp' λ b o hbw hbS e=>k2 b o hbw hbS ((U3 _ _ (Qk hbS)).trans (kp b o hbw e))
theorem Jua {l:Addr}{vs:List J9g}{Q:J9g->J9i->Prop}(bt:Nat->Nat->Bool) (G:Heap->Prop) (hh:A.handled=none) (hl:s.heap.IsList l vs.toArray) (hne:0<vs.length) (hg:G s.heap)
 (keep:∀ h h',G h->(∀ b o,b<s.heap.objs.size->h.get? b=some o->h'.get? b=some o)->G h')
 (ask:∀ i j vi vj (s:J9i) (Q:J9g->J9i->Prop) (E:J9g->J9i->Prop),i≠j->vs[i]? = some vi->vs[j]? = some vj->G s.heap->Q (.bool (bt i j)) s->J9j (model prog w) A.in1 (richCompare .Lt vi vj) Q E s)
 (h:∀ v h' tk,vs[argBest bt (vs.length-1)]? = some v->(∀ b o,s.heap.get? b=some o->h'.get? b=some o)->Q v { s with heap:=h',toks:=tk }) :
 J9j (model prog w) A (call (.builtin "min") [.ref l]) Q E s:=by
 have nm:(toString "min" ++ toString ".loop":String) = "min.loop":=by decide
 have hlt:l<s.heap.objs.size:=by obtain ⟨_,e,_⟩:=hl;exact Qt e
 refine call_function_tree F.kind_min F.plain_min F.entry_min (F.args_min1 _) ?_
 show J9j _ A.in1 (J8t "min" ["key","default"] 0 ⟨[],[]⟩ >>= _) _ _ s
 refine wpAny_bind (wpAny_of_eq (show J8t "min" ["key","default"] 0 ⟨[],[]⟩=pure [none,none] from rfl) ?_)
 refine wpAny_bind (wpAny_pure ?_)
 refine wpAny_bind (wpAny_pyIter_list hl ?_)
 refine wpAny_bind (wpAny_newObj_type ?_)
 rw [nm]
 have ne:l≠s.heap.objs.size:=Q5 hlt
 have z1:∀ o,(s.heap.push o).objs.size=s.heap.objs.size+1:=λ o=>Xv ..
 refine wpAny_pure ⟨plainId_quiet J3e _,Jmr (J6f (A:=A.in1) hh _ l ne vs.toArray) bt G (λ hm=>?_) (λ h h' g k=>keep h h' g λ b o hb e=>k b o (λ hm=>?_) (λ hm=>?_) e) (λ i j vi vj s Q E d h1 h2=>ask i j vi vj s Q E d (by simpa using h1) (by simpa using h2)) (by simpa using hne) ⟨⟨_,Qu _ (Q9 _ rfl),rfl,rfl⟩,(hl.push _).push _⟩ (keep _ _ hg λ b o _ e=>Qu _ (Qu _ e)) (Q9 _ rfl) λ v h' tk hp k=>?_⟩
 . simp only [Qf,X2,or_false] at hm
   rcases hm with hm | hm
   . have hm':(s.heap.objs.size+1:Nat)=s.heap.objs.size:=(z1 _).symm.trans hm
     omega
   . have hm':(s.heap.objs.size+1:Nat)=l:=(z1 _).symm.trans hm
     rw [<- hm'] at hlt
     exact Xc _ (J67 hlt)
 . rw [Qs.mp hm] at hb
   exact Xc _ hb
 . rw [show b=s.heap.objs.size+1 from J4p hm (z1 _)] at hb
   exact Xc _ (J67 hb)
 . refine h v h' tk (by simpa using hp) λ b o e=>k b o (λ hm=>?_) ?_ (Qu _ (Qu _ e))
   . have:=Qt e
     rw [Qs.mp hm] at this
     exact Xc _ this
   . intro hm
     have:=Qt e
     rw [show b=s.heap.objs.size+1 from J4p hm (z1 _)] at this
     exact Xc _ (J67 this)
end
section
variable {X:Cx}
def Jx8:List V->Hp->VK->Prop:=λ xs H Q=>∃ (p:Addr) (as:List Addr) (rs:List (Int×Int)),xs=[.ref p]/\H p=some (.lst (as.map V.ref))/\as.length=rs.length/\(∀ (i:Nat) (a:Addr) (r:Int×Int),as[i]? = some a->rs[i]? = some r->H a=some (.tup [.int r.1,.int r.2]))/\rs≠[]/\(rs.map (·.1)).Nodup /\
 ∀ (i:Nat) (a:Addr) (r:Int×Int),as[i]? = some a->rs[i]? = some r->(∀ r'∈rs,r.1<=r'.1)->Q (.ref a) H
theorem Jrg (hc:X.calm=true) (hu:X.A.units+64<cLine):Vt X (.builtin "min") Jx8:=by
 intro pins s σ H xs us Q I r h
 obtain ⟨p,as,rs,rfl,hp,hln,hi,hne,hnd,q⟩:=h
 obtain ⟨u,rfl,ru⟩:=Jac r
 cases ru
 obtain ⟨z,its,n,rv,hl,e⟩:=I.lstM hp
 have ei:its=as.map Q4:=Jrc rv
 subst ei
 have pos:0<rs.length:=J3m.mpr hne
 have gd:∀ i,i<rs.length->∃ (a:Addr) (r:Int×Int) (t1 t2:Tok),as[i]? = some a/\rs[i]? = some r/\rs.getD i (0,0)=r/\s.heap.IsTuple a #[.int r.1 t1,.int r.2 t2]:=λ i h2=>by
  have ha:as[i]? = some (as[i]'(by omega)):=Qd _
  have hr:rs[i]? = some rs[i]:=Qd h2
  obtain ⟨it,rv2,pl,_⟩:=I.tuple (SqT.of (hi i _ _ ha hr))
  cases rv2 with
  | cons p1 q1=>
   cases q1 with
   | cons p2 q2=>
    cases q2
    obtain ⟨t1,rfl⟩:=p1
    obtain ⟨t2,rfl⟩:=p2
    exact ⟨_,rs[i],t1,t2,ha,hr,by rw [Qg,hr];rfl,pl⟩
 refine Jua (λ i j=>decide ((rs.getD i (0,0)).1<(rs.getD j (0,0)).1)) (λ h=>∀ b o,s.heap.get? b=some o->h.get? b=some o) (I.ok.hd hc) ⟨_,e,rfl,n,rfl⟩ (by rw [Qb];omega) (λ b o e=>e) (λ h h' g k b o e=>k b o (Qt e) (g b o e)) (λ i j vi vj s' Q' E' d h1 h2 g q'=>?_) (λ v h' tk hv k=>?_)
 . rw [Qh] at h1 h2
   obtain ⟨a1,e1,rfl⟩:=X7.mp h1
   obtain ⟨a2,e2,rfl⟩:=X7.mp h2
   have l1:=(Qp.mp e1).1
   have l2:=(Qp.mp e2).1
   obtain ⟨b1,r1,t1,t2,w1,w2,w3,w4⟩:=gd i (by omega)
   obtain ⟨b2,r2,t3,t4,v1,v2,v3,v4⟩:=gd j (by omega)
   cases e1.symm.trans w1
   cases e2.symm.trans v1
   rw [w3,v3] at q'
   refine Jt9 (by show X.A.units+1<cLine;omega) (λ ez=>?_) (w4.at λ o=>g _ o) (v4.at λ o=>g _ o) q'
   have m1:(rs.map (·.1))[i]? = some r1.1:=by rw [Qh,w2];rfl
   have m2:(rs.map (·.1))[j]? = some r2.1:=by rw [Qh,v2];rfl
   obtain ⟨n1,m1⟩:=Qp.mp m1
   obtain ⟨n2,m2⟩:=Qp.mp m2
   rcases J60 i j with z | z | z
   . exact J43.mp hnd i j n1 n2 z (by rw [m1,m2];exact ez)
   . exact d z
   . exact J43.mp hnd j i n2 n1 z (by rw [m1,m2];exact ez.symm)
 . obtain ⟨b1,b2⟩:=argBest_lt (λ i=>(rs.getD i (0,0)).1) ((as.map Q4).length-1)
   rw [Qh] at hv
   obtain ⟨a,ha,rfl⟩:=X7.mp hv
   have l1:=(Qp.mp ha).1
   obtain ⟨a',r,t1,t2,w1,w2,w3,w4⟩:=gd _ (show _<rs.length by rw [<- hln];exact l1)
   refine ⟨.ref a,H,I.kept (t':=tk) k,rfl,q _ a r ha w2 λ r' hr'=>?_⟩
   obtain ⟨j,hj⟩:=Ul.mp hr'
   have lj:=(Qp.mp hj).1
   have:=b2 j (by rw [Qb];omega)
   rw [Qg (l:=rs) (i:=j),hj] at this
   rw [<- w3]
   exact this
end
end L2
namespace My
open L2
noncomputable def Jhq (r:Int×Int):J9h:=.tuple [.int r.1,.int r.2]
theorem Jhr {ex:List Addr}{H:Hp}:∀ {rs:List (Int×Int)}{vs:List V},Reps ex H (rs.map Jhq) vs->∃ as:List Addr,vs=as.map V.ref/\as.length=rs.length/\∀ (i:Nat) (a:Addr) (r:Int×Int),as[i]? = some a->rs[i]? = some r->H a=some (.tup [.int r.1,.int r.2])/\Rep ex H (Jhq r) (.ref a)
 | [],vs,h=>by
  cases h
  exact ⟨[],rfl,rfl,λ i a r h=>by simp at h⟩
 | r::rs,vs,h=>by
  cases h with
  | cons h1 h2=>
   obtain ⟨as,rfl,hl,ha⟩:=Jhr h2
   have hr:=h1
   cases h1 with
   | @tuple p us _ e nm z rr=>
    cases rr with
    | cons r1 r2=>
     cases r2 with
     | cons r2 r3=>
      cases r3
      cases r1
      cases r2
      refine ⟨p::as,rfl,by simp [hl],λ i a r' h3 h4=>?_⟩
      cases i with
      | zero=>
       cases h3
       cases h4
       exact ⟨e,hr⟩
      | succ i=>exact ha i a r' h3 h4
def J1x:G1:=λ ds Q=>∃ rs:List (Int×Int),ds=[.list (rs.map Jhq)]/\rs≠[]/\(rs.map (·.1)).Nodup/\∀ r∈rs,(∀ r'∈rs,r.1<=r'.1)->Q (Jhq r)
instance co_minP:CO Jx8 J1x:=⟨λ {ex H xs ds Q P} al r h k=>by
 obtain ⟨rs,rfl,hne,hnd,q⟩:=h
 cases r with
 | cons r1 t=>
  cases t
  cases r1 with
  | @list p vs _ e nm z rr=>
   obtain ⟨as,rfl,hl,ha⟩:=Jhr rr
   exact ⟨p,as,rs,rfl,e,hl,λ i a r h1 h2=>(ha i a r h1 h2).1,hne,hnd,λ i a r h1 h2 h3=>k _ _ _ (q r (Xg h2) h3) Kp.refl (ha i a r h1 h2).2⟩⟩
noncomputable abbrev Jp (k:Nat):J9h:=.int (k:Int)
noncomputable abbrev Y5 (r:List Int):J9h:=.list (r.map .int)
noncomputable abbrev Jio:List Str:=["first_purse","first_room","behind_all","free","bound","rows","divisor"]
structure Siz where
 fp:Int
 fr:Int
 be:Int
noncomputable def W1 (C:Addr) (z:Siz) (T:Tb.Tab):J9h:=.dict (Ja9 C Jio [.int z.fp,.int z.fr,.int z.be,.list (T.fr.map Jp),.list (T.bd.map Jp),.list (T.rows.map Y5),.int T.q])
structure TableOk (K:Qc) (C:Addr):Prop where
 c:Cls K C
 n1:NoAttr K C "first_purse"
 n2:NoAttr K C "first_room"
 n3:NoAttr K C "behind_all"
 n4:NoAttr K C "free"
 n5:NoAttr K C "bound"
 n6:NoAttr K C "rows"
 n7:NoAttr K C "divisor"
section
variable {K:Qc}{C:Addr}{z:Siz}{T:Tb.Tab}{Q:J9h->Prop}
theorem Jub (Y:TableOk K C) (q:Q (.int z.fp)):∃ (C':Addr) (ns:List Str) (ds:List J9h) (x:J9h),W1 C z T = .dict (Ja9 C' ns ds)/\Cls K C'/\NoAttr K C' "first_purse"/\ns.length=ds.length/\Jil ns ds "first_purse" = some x/\Q x:=⟨C,Jio,_,_,rfl,Y.c,Y.n1,rfl,rfl,q⟩
theorem J1y (Y:TableOk K C) (q:Q (.int z.fr)):∃ (C':Addr) (ns:List Str) (ds:List J9h) (x:J9h),W1 C z T = .dict (Ja9 C' ns ds)/\Cls K C'/\NoAttr K C' "first_room"/\ns.length=ds.length/\Jil ns ds "first_room" = some x/\Q x:=⟨C,Jio,_,_,rfl,Y.c,Y.n2,rfl,rfl,q⟩
theorem Jx9 (Y:TableOk K C) (q:Q (.int z.be)):∃ (C':Addr) (ns:List Str) (ds:List J9h) (x:J9h),W1 C z T = .dict (Ja9 C' ns ds)/\Cls K C'/\NoAttr K C' "behind_all"/\ns.length=ds.length/\Jil ns ds "behind_all" = some x/\Q x:=⟨C,Jio,_,_,rfl,Y.c,Y.n3,rfl,rfl,q⟩
theorem Jgb (Y:TableOk K C) (q:Q (.list (T.fr.map Jp))):∃ (C':Addr) (ns:List Str) (ds:List J9h) (x:J9h),W1 C z T = .dict (Ja9 C' ns ds)/\Cls K C'/\NoAttr K C' "free"/\ns.length=ds.length/\Jil ns ds "free" = some x/\Q x:=⟨C,Jio,_,_,rfl,Y.c,Y.n4,rfl,rfl,q⟩
theorem Jed (Y:TableOk K C) (q:Q (.list (T.bd.map Jp))):∃ (C':Addr) (ns:List Str) (ds:List J9h) (x:J9h),W1 C z T = .dict (Ja9 C' ns ds)/\Cls K C'/\NoAttr K C' "bound"/\ns.length=ds.length/\Jil ns ds "bound" = some x/\Q x:=⟨C,Jio,_,_,rfl,Y.c,Y.n5,rfl,rfl,q⟩
theorem Jbi (Y:TableOk K C) (q:Q (.list (T.rows.map Y5))):∃ (C':Addr) (ns:List Str) (ds:List J9h) (x:J9h),W1 C z T = .dict (Ja9 C' ns ds)/\Cls K C'/\NoAttr K C' "rows"/\ns.length=ds.length/\Jil ns ds "rows" = some x/\Q x:=⟨C,Jio,_,_,rfl,Y.c,Y.n6,rfl,rfl,q⟩
theorem Juc (Y:TableOk K C) (q:Q (.int T.q)):∃ (C':Addr) (ns:List Str) (ds:List J9h) (x:J9h),W1 C z T = .dict (Ja9 C' ns ds)/\Cls K C'/\NoAttr K C' "divisor"/\ns.length=ds.length/\Jil ns ds "divisor" = some x/\Q x:=⟨C,Jio,_,_,rfl,Y.c,Y.n7,rfl,rfl,q⟩
theorem Jcn {m:Str}(hm:m∉Jio):∃ (ns:List Str) (ds:List J9h),W1 C z T = .dict (Ja9 C ns ds)/\ns.length=ds.length/\m∉ns:=⟨Jio,_,rfl,rfl,hm⟩
end
structure Shape (m n:Nat) (T:Tb.Tab):Prop where
 lb:T.bd.length=m
 lf:T.fr.length=n
 lr:T.rows.length=m
 lw:∀ i,i<m->(T.row i).length=n+1
 mm:m<=20
 nn:n<=100
 small:∀ r∈T.rows,∀ x∈r,x.natAbs<2^4000
 q0:0<T.q
 q1:T.q<2^4000
def Jof (C:Addr):GSn:=λ as n Q=>∃ (z:Siz) (T:Tb.Tab) (other row:List Int) (k:Nat),as=[.d (W1 C z T),.d (Y5 other),.d (Y5 row),.d (Jp k)]/\k<other.length/\k<row.length/\other.length<=1000/\(∀ x∈other,x.natAbs<2^4000)/\(∀ x∈row,x.natAbs<2^4000)/\0<T.q/\T.q<2^4000/\Q ((Tb.Jb9 T.q row other k).map .int) n
def Jgc (C:Addr):GSn:=λ as n' Q=>∃ (z:Siz) (T:Tb.Tab) (m n:Nat) (W:List Nat),as=[.d (W1 C z T),.d (.list (W.map Jp))]/\Shape m n T/\Q (((Ql n).map (T.rise m W)).map .int) n'
def Jco (C:Addr):GSp:=λ as n' Q=>∃ (z:Siz) (T:Tb.Tab) (m n:Nat) (W:List Nat),as=[.d (W1 C z T),.d (.list (W.map Jp))]/\Shape m n T/\(∀ j j',j<n->j'<n->T.f j=T.f j'->j=j')/\(∀ k,k<n->0<T.rise m W k->(∀ j,j<n->0<T.rise m W j->T.f k<=T.f j)->Q (Jp k) n')/\((∀ j,j<n->T.rise m W j<=0)->Q .none n')
def Jya (K:Qc) (ta:TA):TI:=Jn0 K ta
theorem Jwh {X:Cx}{tg e:Expr}{K:Qc}{ta:TA}(h:PI X tg e (Jn0 K ta)):PI X tg e (Jya K ta):=h
abbrev Jpy (env:List Vl) (i:Nat) (k:List J9h->Prop):Prop:=match env[i]? with
 | some (.own xs)=>k xs
 | some (.d (.list xs))=>k xs
 | _=>False
abbrev J1z (i j:Nat):GN:=λ env n Q=>Jpy env i λ xs=>Jpy env j λ ys=>Q (Vh xs ys) n
theorem Jpz {S:Src}{ex:List Addr}{env:List Vl}{σ:L2.St}{H:Hp}{n i:Nat}{k:List J9h->Prop}(E:Ev S ex env σ H n) (h:Jpy env i k):∃ (xs:List J9h) (a:Addr) (vs:List V),k xs/\σ[i]? = some (some (.ref a))/\H a=some (.lst vs)/\∀ l H2,H l=none->Kp (l::S.ch) H H2->∃ vs',H2 a=some (.lst vs')/\Reps (l::ex) H2 xs vs':=by
 unfold Jpy at h
 split at h
 . rename_i xs e
   obtain ⟨a,vs,ev,h1,h2,h3,h4,h5⟩:=E.sl i _ e
   refine ⟨xs,a,vs,h,Jm ev,h1,λ l H2 hl kp=>?_⟩
   have na:a≠l:=Jq h1 hl
   exact ⟨vs,kp _ _ h1 λ z=>(Qf.mp z).elim na h5,(Reps.add hl h3).keep (Jcl E.ch kp)⟩
 . rename_i xs e
   obtain ⟨v,ev,r⟩:=E.sl i _ e
   cases r with
   | list e1 m z rs=>
    refine ⟨xs,_,_,h,Jm ev,e1,λ l H2 hl kp=>?_⟩
    have:=(Rep.add hl (.list e1 m z rs)).keep (Jcl E.ch kp)
    cases this with
    | list e m z rs=>exact ⟨_,e,rs⟩
 . exact h.elim
instance ic_zipO {K:Qc}{i j:Nat}:IC (Jya K (Yq (Zv i) (Yq (Zv j) Jbr))) (J1z i j):=⟨λ {S ex env σ H n R P} E h k=>by
 obtain ⟨xs,a,vs,h,s1,h1,r1⟩:=Jpz E h
 obtain ⟨ys,b,us,h,s2,h2,r2⟩:=Jpz E h
 refine ⟨_,s1,_,s2,false,false,a,b,vs,us,rfl,SqL.of h1,SqL.of h2,k _ _ _ _ h (.refl E.inv) λ l H2 hl kp al=>?_⟩
 obtain ⟨v1,w1,w2⟩:=r1 l H2 hl kp
 obtain ⟨v2,w3,w4⟩:=r2 l H2 hl kp
 exact Jn6 al (c:=false) (c':=false) (SqL.of w1) w2 (SqL.of w3) w4⟩
noncomputable def tl (T:Tb.Tab) (n:Nat) (W:List Nat) (i:Nat):List Int:=(Ql n).map λ j=>Tb.ind W (T.f j) T.q-Tb.Jn i λ i=>Tb.ind W (T.b i) (T.e i j)
section
variable {m n i:Nat}{T:Tb.Tab}{W:List Nat}
theorem Jog:(tl T n W i).length=n:=by unfold tl;rw [Qb,Qx]
theorem Joh {j:Nat}(hj:j<n):(tl T n W i)[j]? = some (Tb.ind W (T.f j) T.q-Tb.Jn i λ i=>Tb.ind W (T.b i) (T.e i j)):=by unfold tl;rw [Qh,Xk hj];rfl
theorem Jwi (sh:Shape m n T):T.fr.map (λ ν=>Tb.ind W ν T.q)=tl T n W 0:=by
 apply Xu
 intro j
 by_cases hj:j<n
 . have h1:j<T.fr.length:=by rw [sh.lf];exact hj
   rw [Joh hj,Qh,Qd h1]
   have:T.f j=T.fr[j]:=by unfold Tb.Tab.f;rw [Qg,Qd h1];rfl
   rw [this]
   show some _=some (_-(0:Int))
   rw [J68]
 . rw [Qy (by rw [Qb,sh.lf];omega),Qy (by rw [Jog];omega)]
theorem J10 (sh:Shape m n T) (hi:i<m) (c:T.b i∈W):((tl T n W i).zip (T.row i)).map (λ p=>p.1-p.2)=tl T n W (i+1):=by
 have lw:=sh.lw i hi
 apply Xu
 intro j
 by_cases hj:j<n
 . have h1:j<(T.row i).length:=by omega
   rw [J5a,Qh,Uw,Joh hj,Joh hj,Qd h1]
   have e:Tb.ind W (T.b i) (T.e i j)=(T.row i)[j]:=by
    unfold Tb.ind Tb.Tab.e
    rw [if_pos c,Qg,Qd h1];rfl
   show some (_-(T.row i)[j])=some (_-(Tb.Jn i (λ i=>Tb.ind W (T.b i) (T.e i j))+Tb.ind W (T.b i) (T.e i j)))
   rw [e]
   congr 1
   omega
 . rw [Qy (by rw [Qb,J4c,Jog];omega),Qy (by rw [Jog];omega)]
theorem Jzx (c:T.b i∉W):tl T n W (i+1)=tl T n W i:=by
 unfold tl
 refine X5 λ j _=>?_
 show _-(Tb.Jn i (λ i=>Tb.ind W (T.b i) (T.e i j))+Tb.ind W (T.b i) (T.e i j))=_
 have:Tb.ind W (T.b i) (T.e i j)=0:=by unfold Tb.ind;rw [if_neg c]
 rw [this]
 omega
theorem Jud {x:J9h}(sh:Shape m n T) (h:(Vh (T.bd.map Jp) (T.rows.map Y5))[i]? = some x):i<m/\x = .tuple [Jp (T.b i),Y5 (T.row i)]:=by
 unfold Vh at h
 rw [Uw,Qh,Qh] at h
 by_cases hi:i<m
 . have h1:i<T.bd.length:=by rw [sh.lb];exact hi
   have h2:i<T.rows.length:=by rw [sh.lr];exact hi
   rw [Qd h1,Qd h2] at h
   refine ⟨hi,?_⟩
   have e1:T.b i=T.bd[i]:=by unfold Tb.Tab.b;rw [Qg,Qd h1];rfl
   have e2:T.row i=T.rows[i]:=by unfold Tb.Tab.row;rw [Qg,Qd h2];rfl
   rw [e1,e2]
   exact (Xj h).symm
 . rw [Qy (by rw [sh.lb];omega)] at h
   cases h
end
theorem Jwj (n:Nat) (f:Nat->Int):Jb2 (((Ql n).map f).map .int)=(Ql n).map λ j=>.tuple [Jp j,.int (f j)]:=by
 apply Xu
 intro i
 unfold Jb2
 rw [J4x,Qh,Qh,Qh]
 by_cases h:i<n
 . rw [Xk h];rfl
 . rw [Qy (by rw [Qx];omega)];rfl
noncomputable def Jhs (T:Tb.Tab) (n a o k:Nat):Bool:=decide (T.e a n*T.e o k<T.e o n*T.e a k)||(decide (T.e a n*T.e o k=T.e o n*T.e a k)&&decide (T.b a<T.b o))
noncomputable def rf (T:Tb.Tab) (n k:Nat):Nat->Option Nat
 | 0=>none
 | i+1=>match rf T n k i with
  | none=>if 0<T.e i k then some i else none
  | some o=>if 0<T.e i k/\Jhs T n i o k=true then some i else some o
noncomputable def Jzy:Option Nat->J9h
 | none=>.none
 | some i=>Jp i
def Jk0 (C:Addr):GSp:=λ as n' Q=>∃ (z:Siz) (T:Tb.Tab) (m n a o k:Nat),as=[.d (W1 C z T),.d (Jp a),.d (Jp o),.d (Jp k)]/\Shape m n T/\a<m/\o<m/\k<n/\Q (.bool (Jhs T n a o k)) n'
def Je6 (C:Addr):GSp:=λ as n' Q=>∃ (z:Siz) (T:Tb.Tab) (m n k:Nat),as=[.d (W1 C z T),.d (Jp k)]/\Shape m n T/\k<n/\Q (Jzy (rf T n k m)) n'
def Jk1 (C:Addr):GSp:=λ as n' Q=>∃ (z:Siz) (T:Tb.Tab) (u:Nat) (xs:List Int),as=[.d (W1 C z T),.d (Y5 xs)]/\z.fr-z.fp=(u:Int)/\xs.length<=1000/\Q (.tuple [.tuple ((xs.take u).map .int),.tuple ((xs.drop u).map .int)]) n'
section
variable {m n:Nat}{T:Tb.Tab}
theorem Jht (sh:Shape m n T) {i:Nat}(hi:i<m):atI (T.rows.map Y5) ((i:Nat):Int)=some (Y5 (T.row i)):=by
 have h2:i<T.rows.length:=by rw [sh.lr];exact hi
 refine Yl (by omega) ?_
 unfold Tb.Tab.row
 rw [Q0,Qh,Qd h2,Qg,Qd h2]
 rfl
theorem Jyb (sh:Shape m n T) {i:Nat}(hi:i<m):atI (T.bd.map Jp) ((i:Nat):Int)=some (Jp (T.b i)):=by
 have h2:i<T.bd.length:=by rw [sh.lb];exact hi
 refine Yl (by omega) ?_
 unfold Tb.Tab.b
 rw [Q0,Qh,Qd h2,Qg,Qd h2]
 rfl
theorem J11 (sh:Shape m n T) {j:Nat}(hj:j<n):atI (T.fr.map Jp) ((j:Nat):Int)=some (Jp (T.f j)):=by
 have h2:j<T.fr.length:=by rw [sh.lf];exact hj
 refine Yl (by omega) ?_
 unfold Tb.Tab.f
 rw [Q0,Qh,Qd h2,Qg,Qd h2]
 rfl
theorem Jwk (sh:Shape m n T) {i j:Nat}(hi:i<m) (hj:j<=n):atI ((T.row i).map Qq) ((j:Nat):Int)=some (.int (T.e i j)):=by
 have h2:j<(T.row i).length:=by rw [sh.lw i hi];omega
 refine Yl (by omega) ?_
 unfold Tb.Tab.e
 rw [Q0,Qh,Qd h2,Qg,Qd h2]
 rfl
theorem Jue (sh:Shape m n T) {i:Nat}(hi:i<m):atI ((T.row i).map Qq) (-1)=some (.int (T.e i n)):=by
 have hl:=sh.lw i hi
 have h2:n<(T.row i).length:=by omega
 refine Jvv (by intro h;rw [J5d] at h;rw [h] at hl;cases hl) ?_
 rw [List.getLast?_map,J8a,hl,show n+1-1=n by omega,Qd h2]
 unfold Tb.Tab.e
 rw [Qg,Qd h2]
 rfl
theorem Jgd (sh:Shape m n T) {i j:Nat}(hi:i<m) (hj:j<=n):(T.e i j).natAbs<2^9000:=by
 have h2:j<(T.row i).length:=by rw [sh.lw i hi];omega
 have h3:i<T.rows.length:=by rw [sh.lr];exact hi
 have hr:T.row i∈T.rows:=by unfold Tb.Tab.row;rw [Qg,Qd h3];exact Xo _
 refine Q1 (sh.small _ hr (T.e i j) ?_) (J5e (by decide) (by decide))
 unfold Tb.Tab.e
 rw [Qg,Qd h2]
 exact Xo _
theorem Jwl (sh:Shape m n T) {i:Nat}{x:J9h}(h:(Jb2 (T.rows.map Y5))[i]? = some x):i<m/\x = .tuple [Jp i,Y5 (T.row i)]:=by
 unfold Jb2 at h
 rw [J4x,Qh] at h
 by_cases hi:i<m
 . have h2:i<T.rows.length:=by rw [sh.lr];exact hi
   rw [Qd h2] at h
   refine ⟨hi,?_⟩
   have e2:T.row i=T.rows[i]:=by unfold Tb.Tab.row;rw [Qg,Qd h2];rfl
   rw [e2]
   exact (Xj h).symm
 . rw [Qy (by rw [sh.lr];omega)] at h
   cases h
theorem Jp0 (k:Nat):∀ {i o:Nat},rf T n k i=some o->o<i
 | i+1,o,h=>by
  rw [rf] at h
  cases e:rf T n k i with
  | none=>
   rw [e] at h
   simp only at h
   split at h
   . cases h;omega
   . cases h
  | some p=>
   rw [e] at h
   simp only at h
   have:=Jp0 k e
   split at h
   . cases h;omega
   . cases h;omega
end
structure Names (m n be:Nat) (T:Tb.Tab):Prop where
 bi:∀ i i',i<m->i'<m->T.b i=T.b i'->i=i'
 fi:∀ j j',j<n->j'<n->T.f j=T.f j'->j=j'
 ne:∀ i j,i<m->j<n->T.b i≠T.f j
 bl:∀ i,i<m->T.b i<be
 fl:∀ j,j<n->T.f j<be
noncomputable def Jms (T:Tb.Tab) (k i ν:Nat):Int:=(if ν = T.f k then T.q else 0)-Tb.Jn i λ i=>if T.b i = ν then T.e i k else 0
noncomputable def dl (T:Tb.Tab) (be k i:Nat):List Int:=(Ql be).map (Jms T k i)
theorem Jhu {T:Tb.Tab}{be k i:Nat}:(dl T be k i).length=be:=by unfold dl;rw [Qb,Qx]
theorem Joi {T:Tb.Tab}{be k i ν:Nat}(h:ν < be):(dl T be k i)[ν]? = some (Jms T k i ν):=by unfold dl;rw [Qh,Xk h];rfl
theorem Jwm {T:Tb.Tab}{be k:Nat}(h:T.f k<be):(Qw be (0:Int)).set (T.f k) T.q=dl T be k 0:=by
 apply Xu
 intro i
 by_cases hi:i<be
 . rw [Joi hi,J4b,Uc,J21,if_pos hi]
   unfold Jms
   show _=some (_-(0:Int))
   rw [J68]
   by_cases e:T.f k=i
   . rw [if_pos e,if_pos h,if_pos e.symm]
   . rw [if_neg e,if_neg (Qk e)]
 . rw [Qy (by rw [Qr,Uc];omega),Qy (by rw [Jhu];omega)]
theorem Jzz {m n be:Nat}{T:Tb.Tab}(N:Names m n be T) {k:Nat}(hk:k<n) {i:Nat}(hi:i<m):∀ c,c<=i->Jms T k c (T.b i)=0:=by
 intro c hc
 unfold Jms
 rw [if_neg (N.ne i k hi hk)]
 have:Tb.Jn c (λ j=>if T.b j=T.b i then T.e j k else 0)=0:=by
  induction c with
  | zero=>rfl
  | succ c ih=>
   show Tb.Jn c _+(if T.b c=T.b i then T.e c k else 0)=0
   rw [ih (by omega),if_neg λ e=>by have:=N.bi c i (by omega) hi e;omega]
   rfl
 rw [this]
 rfl
theorem Jwn {m n be:Nat}{T:Tb.Tab}(N:Names m n be T) {k:Nat}(hk:k<n) {i:Nat}(hi:i<m):(dl T be k i).set (T.b i) (-(T.e i k))=dl T be k (i+1):=by
 apply Xu
 intro ν
 by_cases hν:ν < be
 . rw [Joi hν,J4b,Jhu,Joi hν]
   have st:Jms T k (i+1) ν = Jms T k i ν - (if T.b i = ν then T.e i k else 0):=by
    unfold Jms
    show _-(Tb.Jn i _+(if T.b i = ν then T.e i k else 0))=_
    omega
   rw [st]
   by_cases e:T.b i = ν
   . rw [if_pos e,if_pos e,if_pos (N.bl i hi),<- e,Jzz N hk hi i (Qm _)]
     congr 1
     omega
   . rw [if_neg e,if_neg e,J68]
 . rw [Qy (by rw [Qr,Jhu];omega),Qy (by rw [Jhu];omega)]
theorem Jwo {T:Tb.Tab}{be k m:Nat}:dl T be k m=(Ql be).map (T.dir m k):=rfl
def Jee (C:Addr):GSp:=λ as n' Q=>∃ (T:Tb.Tab) (m n k nw nr be:Nat),as=[.d (W1 C ⟨(nw:Int),(nr:Int),(be:Int)⟩ T),.d (Jp k)]/\Shape m n T/\Names m n be T/\k<n/\nw<=be/\be<=1000/\Zg ((Ql nw).map (T.dir m k))≠0/\((Zg ((Ql nw).map (T.dir m k)):Nat):Int)<2^9000/\Q (.tuple (((Ql nw).map (T.dir m k)).map λ x=>.int (x/((Zg ((Ql nw).map (T.dir m k)):Nat):Int)))) n'
noncomputable def wl (q:Int) (be:Nat) (W:List Nat):List Int:=(Ql be).map λ ν=>Tb.ind W ν q
theorem Jhv {q:Int}{be:Nat}{W:List Nat}:(wl q be W).length=be:=by unfold wl;rw [Qb,Qx]
theorem Joj {q:Int}{be ν:Nat}{W:List Nat}(h:ν < be):(wl q be W)[ν]? = some (Tb.ind W ν q):=by unfold wl;rw [Qh,Xk h];rfl
theorem Jz0 {q:Int}{be:Nat}:Qw be (0:Int)=wl q be []:=by
 apply Xu
 intro i
 by_cases h:i<be
 . rw [Joj h,J21,if_pos h]
   unfold Tb.ind
   rw [if_neg X2]
 . rw [Qy (by rw [Uc];omega),Qy (by rw [Jhv];omega)]
theorem Jwp {q:Int}{be w:Nat}{W:List Nat}(h:w<be):(wl q be W).set w q=wl q be (W++[w]):=by
 apply Xu
 intro ν
 by_cases hν:ν < be
 . rw [Joj hν,J4b,Jhv,Joj hν]
   unfold Tb.ind
   by_cases e:w = ν
   . rw [if_pos e,if_pos h,if_pos (by rw [<- e];simp)]
   . rw [if_neg e]
     by_cases c:ν∈W
     . rw [if_pos c,if_pos (Xn _ c)]
     . rw [if_neg c,if_neg]
       intro z
       rcases Q8.mp z with z | z
       . exact c z
       . exact e (Qs.mp z).symm
 . rw [Qy (by rw [Qr,Jhv];omega),Qy (by rw [Jhv];omega)]
open Classical in
noncomputable def shN (T:Tb.Tab) (m:Nat) (W:List Nat) (i ν:Nat):Int:=Tb.Jn i (λ j=>if T.f j = ν then -T.rise m W j else 0)+(if (∃ j,j<i/\T.f j = ν) then 0 else Tb.ind W ν T.q)
noncomputable def sl (T:Tb.Tab) (m be:Nat) (W:List Nat) (i:Nat):List Int:=(Ql be).map (shN T m W i)
theorem Jhw {T:Tb.Tab}{m be i:Nat}{W:List Nat}:(sl T m be W i).length=be:=by unfold sl;rw [Qb,Qx]
theorem Juf {T:Tb.Tab}{m be i ν:Nat}{W:List Nat}(h:ν < be):(sl T m be W i)[ν]? = some (shN T m W i ν):=by unfold sl;rw [Qh,Xk h];rfl
theorem Jwq {T:Tb.Tab}{m be:Nat}{W:List Nat}:wl T.q be W=sl T m be W 0:=by
 unfold wl sl
 refine X5 λ ν _=>?_
 unfold shN
 show _=(0:Int)+_
 rw [if_neg (by rintro ⟨j,hj,_⟩;omega),U6]
theorem Jwr {m n be i:Nat}{T:Tb.Tab}{W:List Nat}(N:Names m n be T) (hi:i<n):(sl T m be W i).set (T.f i) (-(T.rise m W i))=sl T m be W (i+1):=by
 apply Xu
 intro ν
 by_cases hν:ν < be
 . rw [Juf hν,J4b,Jhw,Juf hν]
   by_cases e:T.f i = ν
   . rw [if_pos e,if_pos (N.fl i hi)]
     unfold shN
     rw [if_pos ⟨i,by omega,e⟩]
     show _=some (Tb.Jn i (λ j=>if T.f j = ν then -T.rise m W j else 0)+(if T.f i = ν then -T.rise m W i else 0)+0)
     have z:∀ c,c<=i->Tb.Jn c (λ j=>if T.f j = ν then -T.rise m W j else 0)=0:=by
      intro c hc
      induction c with
      | zero=>rfl
      | succ c ih=>
       show Tb.Jn c _+(if T.f c = ν then -T.rise m W c else 0)=0
       rw [ih (by omega),if_neg λ h=>by have:=N.fi c i (by omega) hi (h.trans e.symm);omega]
       rfl
     rw [z i (Qm _),if_pos e]
     congr 1
     omega
   . rw [if_neg e]
     unfold shN
     show some (_+_)=some (Tb.Jn i (λ j=>if T.f j = ν then -T.rise m W j else 0)+(if T.f i = ν then -T.rise m W i else 0)+_)
     rw [if_neg e,J61]
     congr 2
     by_cases c:∃ j,j<i/\T.f j = ν
     . obtain ⟨j,h1,h2⟩:=c
       rw [if_pos ⟨j,h1,h2⟩,if_pos ⟨j,by omega,h2⟩]
     . rw [if_neg c,if_neg]
       rintro ⟨j,h1,h2⟩
       by_cases z:j=i
       . rw [z] at h2;exact e h2
       . exact c ⟨j,by omega,h2⟩
 . rw [Qy (by rw [Qr,Jhw];omega),Qy (by rw [Jhw];omega)]
def Jhx (C:Addr):GSn:=λ as n' Q=>∃ (T:Tb.Tab) (m n nw nr be:Nat) (W:List Nat),as=[.d (W1 C ⟨(nw:Int),(nr:Int),(be:Int)⟩ T),.d (.list (W.map Jp))]/\Shape m n T/\Names m n be T/\(∀ w∈W,w<be)/\nw<=be/\be<=1000/\Q (((sl T m be W n).drop nw).map .int) n'
theorem Jz1 {m n i:Nat}{T:Tb.Tab}{x:J9h}{f:Nat->Int}(sh:Shape m n T) (h:(Vh (T.fr.map Jp) (((Ql n).map f).map .int))[i]? = some x):i<n/\x = .tuple [Jp (T.f i),.int (f i)]:=by
 unfold Vh at h
 rw [Uw,Qh,Qh,Qh] at h
 by_cases hi:i<n
 . have h1:i<T.fr.length:=by rw [sh.lf];exact hi
   rw [Qd h1,Xk hi] at h
   refine ⟨hi,?_⟩
   have e1:T.f i=T.fr[i]:=by unfold Tb.Tab.f;rw [Qg,Qd h1];rfl
   rw [e1]
   exact (Xj h).symm
 . rw [Qy (by rw [sh.lf];omega)] at h
   cases h
def Ja0 (C:Addr):GSp:=λ as n' Q=>∃ (T:Tb.Tab) (m n nw nr be:Nat) (W:List Nat),as=[.d (W1 C ⟨(nw:Int),(nr:Int),(be:Int)⟩ T),.d (.list (W.map Jp))]/\Shape m n T/\Names m n be T/\(∀ w∈W,w<be)/\nw<=be/\be<=1000/\nw<=nr/\Zg ((sl T m be W n).drop nw)≠0/\((Zg ((sl T m be W n).drop nw):Nat):Int)<2^9000 /\
 Q (.tuple [.tuple (((((sl T m be W n).drop nw).map λ x=>x/((Zg ((sl T m be W n).drop nw):Nat):Int)).take (nr-nw)).map .int),.tuple (((((sl T m be W n).drop nw).map λ x=>x/((Zg ((sl T m be W n).drop nw):Nat):Int)).drop (nr-nw)).map .int)]) n'
section
variable {T:Tb.Tab}{n k:Nat}
theorem Jk2:∀ {i:Nat},rf T n k i=none->∀ j,j<i->T.e j k<=0
 | 0,_,j,hj=>by omega
 | i+1,h,j,hj=>by
  rw [rf] at h
  cases e:rf T n k i with
  | none=>
   rw [e] at h
   simp only at h
   split at h
   . cases h
   . rename_i c
     by_cases z:j=i
     . rw [z];omega
     . exact Jk2 e j (by omega)
  | some o=>
   rw [e] at h
   simp only at h
   split at h<;>cases h
theorem Jok {a o:Nat}(ha:T.e a n=0) (ho:T.e o n=0):Jhs T n a o k=decide (T.b a<T.b o):=by
 unfold Jhs
 rw [ha,ho,Xx,Xx]
 simp
theorem Jp1 {m:Nat}(z:∀ i,i<m->T.e i n=0):∀ {i l:Nat},i<=m->rf T n k i=some l->0<T.e l k/\∀ j,j<i->0<T.e j k->T.b l<=T.b j
 | 0,l,_,h=>by cases h
 | i+1,l,hm,h=>by
  rw [rf] at h
  cases e:rf T n k i with
  | none=>
   rw [e] at h
   simp only at h
   split at h
   . rename_i c
     cases h
     refine ⟨c,λ j hj hp=>?_⟩
     by_cases y:j=i
     . rw [y];exact Qm _
     . have:=Jk2 e j (by omega)
       omega
   . cases h
  | some o=>
   rw [e] at h
   simp only at h
   obtain ⟨p1,p2⟩:=Jp1 z (i:=i) (by omega) e
   have lo:=Jp0 k e
   rw [Jok (z i (by omega)) (z o (by omega))] at h
   split at h
   . rename_i c
     cases h
     refine ⟨c.1,λ j hj hp=>?_⟩
     have c2:=of_decide_eq_true c.2
     by_cases y:j=i
     . rw [y];exact Qm _
     . have:=p2 j (by omega) hp
       omega
   . rename_i c
     cases h
     refine ⟨p1,λ j hj hp=>?_⟩
     by_cases y:j=i
     . rw [y] at hp ⊢
       rcases X1 (T.b i) (T.b l) with q | q
       . exact absurd ⟨hp,decide_eq_true q⟩ c
       . exact q
     . exact p2 j (by omega) hp
end
section
variable {m n be:Nat}{c:Nat->Tb.Vec}{rhs:Tb.Vec}{T:Tb.Tab}{W:List Nat}
theorem Jmt (b:Nat) (hb:1<=b):∀ k d,Tb.Jim b k<=Tb.Jim b (k+d)
 | k,0=>Qm _
 | k,d+1=>by
  refine Xi (Jmt b hb k d) ?_
  show Tb.Jim b (k+d)<=(k+d+1)*b*Tb.Jim b (k+d)
  exact Nat.le_mul_of_pos_left _ (Nat.mul_pos (by omega) hb)
theorem Jrh (hm:m<=18):Tb.Jim 100 m<2^4000:=by
 have h1:=Jmt 100 (by decide) m (18-m)
 rw [show m+(18-m)=18 by omega] at h1
 exact J32 h1 (by decide +kernel)
structure Small (m:Nat) (c:Nat->Tb.Vec) (rhs:Tb.Vec):Prop where
 c:∀ ν r,r<m->(c ν r).natAbs<=100
 r:∀ r,r<m->(rhs r).natAbs<=100
theorem Jhy (S:Small m c rhs) (h:Tb.TabOk m n c rhs T) {i:Nat}{v:Tb.Vec}(hv:∀ r,r<m->(v r).natAbs<=100):(Tb.cr m (T.bd.map c) i v).natAbs<=Tb.Jim 100 m:=by
 unfold Tb.cr
 refine Tb.Jtx m _ (by rw [Qr,Qb,h.lb]) λ j hj r hr=>?_
 unfold Tb.atV
 have hl:j<(T.bd.map c).length:=by rw [Qb,h.lb];exact hj
 by_cases e:i=j
 . subst e
   rw [Tb.Zt hl]
   exact hv r hr
 . rw [Tb.Vs e]
   have:=Tb.at_map (c:=c) (l:=T.bd) (i:=j) (by rw [h.lb];exact hj)
   unfold Tb.atV at this
   rw [this]
   exact S.c _ r hr
theorem Jcb (S:Small m c rhs) (h:Tb.TabOk m n c rhs T) (hm:m<=18) (hn:n<=100):Shape m n T:=by
 have fs:=Jrh hm
 refine ⟨h.lb,h.lf,h.lr,h.lw,by omega,hn,λ r hr x hx=>?_,h.qpos,?_⟩
 . obtain ⟨i,hi⟩:=Ul.mp hr
   obtain ⟨j,hj⟩:=Ul.mp hx
   have il:=(Qp.mp hi).1
   rw [h.lr] at il
   have er:T.row i=r:=by unfold Tb.Tab.row;rw [Qg,hi];rfl
   have jl:=(Qp.mp hj).1
   rw [<- er,h.lw i il] at jl
   have ex:T.e i j=x:=by unfold Tb.Tab.e;rw [er,Qg,hj];rfl
   rw [<- ex]
   refine J32 ?_ fs
   by_cases z:j<n
   . rw [h.en i il j z]
     exact Jhy S h λ r hr=>S.c _ r hr
   . rw [show j=n by omega,h.el i il]
     exact Jhy S h S.r
 . have:T.q.natAbs<=Tb.Jim 100 m:=by
    rw [h.qq]
    refine Tb.Jtx m _ (by rw [Qb,h.lb]) λ j hj r hr=>?_
    rw [Tb.at_map (by rw [h.lb];exact hj)]
    exact S.c _ r hr
   have q0:=h.qpos
   have:T.q.natAbs<2^4000:=J32 this fs
   have e:((T.q.natAbs:Nat):Int)=T.q:=J36 (by omega)
   rw [<- e]
   exact_mod_cast this
theorem Jmu (h:Tb.TabOk m n c rhs T) (bl:∀ i,i<m->T.b i<be) (fl:∀ j,j<n->T.f j<be):Names m n be T:=⟨h.bi,h.fi,h.ne,bl,fl⟩
theorem Jug (h:Tb.TabOk m n c rhs T) (N:Names m n be T) {l k:Nat}(hl:l<m) (hk:k<n) (hp:0<T.e l k):Names m n be (T.ex l k):=by
 refine Jmu (h.ex hl hk hp) (λ i hi=>?_) (λ j hj=>?_)
 . by_cases e:i=l
   . rw [e,Tb.Jda h hl];exact N.fl k hk
   . rw [Tb.Jkz e];exact N.bl i hi
 . by_cases e:j=k
   . rw [e,Tb.Jca h hk];exact N.bl l hl
   . rw [Tb.Jin e];exact N.fl j hj
theorem Juh (ν:Nat):shN T m W n ν = T.share m n W ν:=by
 unfold shN Tb.Tab.share
 congr 1
end
section
variable {m n be:Nat}{c:Nat->Tb.Vec}{T:Tb.Tab}{W:List Nat}
noncomputable abbrev Jcy:Tb.Vec:=λ _=>0
theorem Jz2 (h:Tb.TabOk m n c Jcy T) {i:Nat}(hi:i<m):T.e i n=0:=by
 rw [h.el i hi]
 unfold Tb.cr
 have hl:i<(T.bd.map c).length:=by rw [Qb,h.lb];exact hi
 refine Tb.Jtv (a:=i) (by rw [Qr];exact hl) (by rw [Qr,Qb,h.lb]) λ r _=>?_
 unfold Tb.atV
 rw [Tb.Zt hl]
theorem Jws (h:Tb.TabOk m n c Jcy T) {l k:Nat}(hk:k<n) (hr:0<T.rise m W k) (hf:∀ j,j<n->0<T.rise m W j->T.f k<=T.f j) (hl:rf T n k m=some l):Tb.Yv m n W T l k:=by
 obtain ⟨p1,p2⟩:=Jp1 (T:=T) (n:=n) (k:=k) (λ i hi=>Jz2 h hi) (Qm m) hl
 exact ⟨Jp0 k hl,hk,hr,hf,p1,p2⟩
theorem Jz3 {k:Nat}(hk:k<n) (hr:0<T.rise m W k) (hl:rf T n k m=none):Tb.Ray m n W T k:=⟨hk,hr,λ i hi=>Jk2 hl i hi⟩
end
theorem Jri {m n:Nat}{c:Nat->Tb.Vec}{rhs:Tb.Vec}{W:List Nat}{N:Nat}{st:Nat->Tb.Tab}{l k:Nat->Nat}(h:Tb.Path m n c rhs W N st l k) {l' k':Nat}(s:Tb.Yv m n W (st N) l' k'):∃ st' l2 k2,Tb.Path m n c rhs W (N+1) st' l2 k2/\st' (N+1)=(st N).ex l' k'/\∀ t,t<=N->st' t=st t:=by
 refine ⟨λ t=>if t<=N then st t else (st N).ex l' k',λ t=>if t<N then l t else l',λ t=>if t<N then k t else k',⟨λ t ht=>?_,λ t ht=>?_,λ t ht=>?_⟩,?_,λ t ht=>if_pos ht⟩
 . by_cases z:t<=N
   . simp only [if_pos z];exact h.ok t z
   . simp only [if_neg z];exact (h.ok N (Qm _)).ex s.hl s.hk s.pos
 . by_cases z:t<N
   . simp only [if_pos z,if_pos (Uy z)];exact h.sp t z
   . have e:t=N:=by omega
     subst e
     simp only [if_neg (Xc _),if_pos (Qm _)];exact s
 . by_cases z:t<N
   . simp only [if_pos z,if_pos (Uy z),if_pos (show t+1<=N by omega)];exact h.ex t z
   . have e:t=N:=by omega
     subst e
     simp only [if_neg (Xc _),if_pos (Qm _),if_neg (show ¬ t+1<=t by omega)]
 . simp only [if_neg (show ¬ N+1<=N by omega)]
theorem Jui {m n:Nat}{c:Nat->Tb.Vec}{rhs:Tb.Vec}{W:List Nat}{T:Tb.Tab}(h:Tb.TabOk m n c rhs T):Tb.Path m n c rhs W 0 (λ _=>T) (λ _=>0) (λ _=>0):=⟨λ _ _=>h,λ t ht=>by omega,λ t ht=>by omega⟩
def Jhz:GSn:=λ as n Q=>∃ (R U:Int) (ws:List Way),as=[.d (J0 R U ws),.d .none]/\BookOk R U ws/\Q ((Qw (U+R).toNat (0:Int)).map .int) n
noncomputable abbrev Zd (k:Nat):V:=.int (k:Int)
noncomputable def Jmv (z:Siz) (q:Int) (fa ba:Addr) (rv:V):List (Str×V):=[("first_purse",.int z.fp),("first_room",.int z.fr),("behind_all",.int z.be),("free",.ref fa),("bound",.ref ba),("rows",rv),("divisor",.int q)]
structure TabH (C:Addr) (ex:List Addr) (p fa ba:Addr) (z:Siz) (T:Tb.Tab) (H:Hp):Prop where
 o:∃ (dx:Addr) (rv:V),H p=some (.ins C dx (Jmv z T.q fa ba rv))/\Rep (p::fa::ba::ex) H (.list (T.rows.map Y5)) rv
 f:H fa=some (.lst (T.fr.map Zd))
 b:H ba=some (.lst (T.bd.map Zd))
 pf:p≠fa
 pb:p≠ba
 fb:fa≠ba
 np:p∉ex
 nf:fa∉ex
 nb:ba∉ex
 al:Alc ex H
theorem Jjo {ex:List Addr}{H:Hp}(ks:List Nat):Reps ex H (ks.map Jp) (ks.map Zd):=by
 have:=Jjl (ex:=ex) (H:=H) (ks.map λ k:Nat=>(k:Int))
 rw [Qv,Qv] at this
 exact this
theorem TabH.rep {C p fa ba:Addr}{ex:List Addr}{z:Siz}{T:Tb.Tab}{H:Hp}(h:TabH C ex p fa ba z T H) (lf:T.fr.length<=sizeLine) (lb:T.bd.length<=sizeLine):Rep ex H (W1 C z T) (.ref p):=by
 obtain ⟨dx,rv,h1,h2⟩:=h.o
 refine .obj (fs:=Jmv z T.q fa ba rv) (ds:=[.int z.fp,.int z.fr,.int z.be,.list (T.fr.map Jp),.list (T.bd.map Jp),.list (T.rows.map Y5),.int T.q]) h1 h.np rfl ?_
 refine .cons (.int _) (.cons (.int _) (.cons (.int _) (.cons (.list h.f h.nf (by rw [Qb];exact lf) (Jjo _)) (.cons (.list h.b h.nb (by rw [Qb];exact lb) (Jjo _)) (.cons (Rep.sub (Rep.sub (Rep.sub h2))) (.cons (.int _) .nil))))))
theorem TabH.keep {C p fa ba:Addr}{ex:List Addr}{z:Siz}{T:Tb.Tab}{H H':Hp}(h:TabH C ex p fa ba z T H) (k:Kp [] H H'):TabH C ex p fa ba z T H':=by
 obtain ⟨dx,rv,h1,h2⟩:=h.o
 exact ⟨⟨dx,rv,k _ _ h1 (by simp),h2.keep (k.mono λ a ha=>by cases ha)⟩,k _ _ h.f (by simp),k _ _ h.b (by simp),h.pf,h.pb,h.fb,h.np,h.nf,h.nb,h.al.kp k⟩
def Jz4 (C:Addr):Sp:=λ vs H Q _=>∃ (ex:List Addr) (p fa ba:Addr) (z:Siz) (T:Tb.Tab) (m n l k:Nat),vs=[.ref p,Zd l,Zd k]/\TabH C ex p fa ba z T H/\Shape m n T/\l<m/\k<n/\∀ H',TabH C ex p fa ba z (T.ex l k) H'->Kp [p,fa,ba] H H'->Q .non H'
structure Kept (m n be:Nat) (c:Nat->Tb.Vec) (T0 T:Tb.Tab):Prop where
 ok:Tb.TabOk m n c Jcy T
 nm:Names m n be T
 tot:∀ g,T.tot m n g=T0.tot m n g
structure Fit (nw m n:Nat) (c:Nat->Tb.Vec) (some:List Nat) (T:Tb.Tab):Prop where
 cols:Tb.Cols nw m c
 sm:∀ k∈some,k<nw
 len:some.length=n
 tot:∀ g:Nat->Int,T.tot m n g=Tb.Jn m (λ s=>g (nw+s))+Tb.Jn n (λ j=>g (some.getD j 0))
def Jk3 (C:Addr):Sp:=λ vs H Q _=>∃ (ex:List Addr) (p fa ba:Addr) (nw nr be m n:Nat) (c:Nat->Tb.Vec) (T:Tb.Tab) (W some:List Nat) (wv:V),vs=[.ref p,wv]/\TabH C ex p fa ba ⟨(nw:Int),(nr:Int),(be:Int)⟩ T H/\Rep (p::fa::ba::ex) H (.list (W.map Jp)) wv/\Small m c Jcy/\m<=18/\n<=100/\nw<=be/\be<=1000/\Kept m n be c T T/\Fit nw m n c some T /\
 (∀ (H':Hp) (T':Tb.Tab) (k:Nat) (v:V),TabH C ex p fa ba ⟨(nw:Int),(nr:Int),(be:Int)⟩ T' H'->Kept m n be c T T'->Tb.Ray m n W T' k->Kp [p,fa,ba] H H'->Rep ex H' (.tuple (((Ql nw).map (T'.dir m k)).map λ x=>.int (x/((Zg ((Ql nw).map (T'.dir m k)):Nat):Int)))) v->Q v H') /\
 (∀ (H':Hp) (T':Tb.Tab),TabH C ex p fa ba ⟨(nw:Int),(nr:Int),(be:Int)⟩ T' H'->Kept m n be c T T'->Tb.Last m n W T'->Kp [p,fa,ba] H H'->Q .non H')
theorem Jp2 {m n be:Nat}{c:Nat->Tb.Vec}{T0 T:Tb.Tab}{W:List Nat}{l k:Nat}(h:Kept m n be c T0 T) (s:Tb.Yv m n W T l k):Kept m n be c T0 (T.ex l k):=
 ⟨h.ok.ex s.hl s.hk s.pos,Jug h.ok h.nm s.hl s.hk s.pos,λ g=>by rw [Tb.Jtz h.ok s.hl s.hk];exact h.tot g⟩
theorem Jef {sp:GSp}{C p fa ba:Addr}{ex:List Addr}{z:Siz}{T:Tb.Tab}{H:Hp}{as:List Vl}{vs:List V}{Q:VK}{E:XK}{P:J9h->Nat->Prop}(h:TabH C ex p fa ba z T H) (lf:T.fr.length<=sizeLine) (lb:T.bd.length<=sizeLine) (ra:B1 Src.no ex H as vs) (hs:sp (.d (W1 C z T)::as) 0 P) (k:∀ d n' v H',P d n'->Kp [] H H'->Rep ex H' d v->Q v H'):Jj sp (.ref p::vs) H Q E:=
 ⟨Src.no,ex,.d (W1 C z T)::as,0,P,⟨⟨_,rfl,h.rep lf lb⟩,ra⟩,λ a ha=>(by cases ha),h.al,trivial,hs,λ d n' v H' p s r=>k d n' v H' p s.1 r⟩
structure Turn (C:Addr) (ex:List Addr) (p fa ba:Addr) (z:Siz) (m n be:Nat) (c:Nat->Tb.Vec) (W:List Nat) (T0:Tb.Tab) (H0:Hp) (wv:V) (N:Nat) (T:Tb.Tab) (H:Hp):Prop where
 h:TabH C ex p fa ba z T H
 k:Kept m n be c T0 T
 kp:Kp [p,fa,ba] H0 H
 w:Rep (p::fa::ba::ex) H (.list (W.map Jp)) wv
 path:∃ st l k,Tb.Path m n c Jcy W N st l k/\st N=T/\∀ t,t<=N->Names m n be (st t)
theorem Turn.few {C p fa ba:Addr}{ex:List Addr}{z:Siz}{m n be N:Nat}{c:Nat->Tb.Vec}{W:List Nat}{T0 T:Tb.Tab}{H0 H:Hp}{wv:V}(t:Turn C ex p fa ba z m n be c W T0 H0 wv N T H):N<be^m:=by
 obtain ⟨st,l,k,hp,_,hn⟩:=t.path
 refine hp.bound λ s hs x hx=>?_
 obtain ⟨i,hi⟩:=Ul.mp hx
 have lt:=(Qp.mp hi).1
 rw [(hp.ok s hs).lb] at lt
 have:=(hn s hs).bl i lt
 unfold Tb.Tab.b at this
 rwa [Qg,hi] at this
theorem Turn.next {C p fa ba:Addr}{ex:List Addr}{z:Siz}{m n be N l k:Nat}{c:Nat->Tb.Vec}{W:List Nat}{T0 T:Tb.Tab}{H0 H H':Hp}{wv:V}(t:Turn C ex p fa ba z m n be c W T0 H0 wv N T H) (s:Tb.Yv m n W T l k) (h':TabH C ex p fa ba z (T.ex l k) H') (k':Kp [p,fa,ba] H H'):Turn C ex p fa ba z m n be c W T0 H0 wv (N+1) (T.ex l k) H':=by
 obtain ⟨st,l1,k1,hp,e,hn⟩:=t.path
 subst e
 obtain ⟨st',l2,k2,hp',e',same⟩:=Jri hp s
 refine ⟨h',Jp2 t.k s,t.kp.trans k',t.w.keep (k'.mono λ b hb=>by simp only [Qf,X2,or_false] at hb ⊢;rcases hb with h | h | h<;>simp [h]),st',l2,k2,hp',e',λ u hu=>?_⟩
 by_cases y:u<=N
 . rw [same u y];exact hn u y
 . rw [show u=N+1 by omega,e']
   exact (Jp2 t.k s).nm
theorem Jh0 {E:XK}{C p fa ba:Addr}{ex:List Addr}{z:Siz}{m n be N:Nat}{c:Nat->Tb.Vec}{W:List Nat}{T0 T:Tb.Tab}{H0 H:Hp}{wv:V}{σ:L2.St}{Q:VK}(S:Small m c Jcy) (hm:m<=18) (hn:n<=100) (t:Turn C ex p fa ba z m n be c W T0 H0 wv N T H) (s0:σ[0]? = some (some (.ref p))) (s1:σ[1]? = some (some wv))
 (q1:∀ (k:Nat) (H':Hp),k<n->0<T.rise m W k->(∀ j,j<n->0<T.rise m W j->T.f k<=T.f j)->Kp [] H H'->Q (Zd k) H') (q2:∀ H',Tb.Last m n W T->Kp [] H H'->Q .non H'):Ji0 C "place_to_raise" (Jj (Jco C)) [] E (Zv 0) (Yq (Zv 1) Jbr) σ H Q:=by
 have sh:=Jcb S t.k.ok hm hn
 have hs:sizeLine=16777216:=J9n
 obtain ⟨dx,rv,h1,h2⟩:=t.h.o
 refine ⟨_,s0,p,dx,_,rfl,h1,rfl,_,s1,?_⟩
 show Jj (Jco C) [.ref p,wv] H Q E
 refine Jef (sp:=Jco C) (E:=E) (vs:=[wv]) (as:=[.d (.list (W.map Jp))]) t.h (by rw [sh.lf];omega) (by rw [sh.lb];omega) ⟨⟨_,rfl,Rep.sub (Rep.sub (Rep.sub t.w))⟩,trivial⟩ (P:=λ d _=>(∃ k,d=Jp k/\k<n/\0<T.rise m W k/\∀ j,j<n->0<T.rise m W j->T.f k<=T.f j)\/(d = .none/\Tb.Last m n W T)) ⟨z,T,m,n,W,rfl,sh,t.k.ok.fi,λ k a b c=>.inl ⟨k,rfl,a,b,c⟩,λ h=>.inr ⟨rfl,⟨h⟩⟩⟩ λ d n' v H' hp kp r=>?_
 rcases hp with ⟨k,rfl,a,b,c⟩ | ⟨rfl,h⟩
 . cases r
   exact q1 k H' a b c kp
 . cases r
   exact q2 H' h kp
theorem Jrj {E:XK}{C p fa ba:Addr}{ex:List Addr}{z:Siz}{m n be N k:Nat}{c:Nat->Tb.Vec}{W:List Nat}{T0 T:Tb.Tab}{H0 H:Hp}{wv:V}{σ:L2.St}{Q:VK}(S:Small m c Jcy) (hm:m<=18) (hn:n<=100) (t:Turn C ex p fa ba z m n be c W T0 H0 wv N T H) (s0:σ[0]? = some (some (.ref p))) (s2:σ[2]? = some (some (Zd k))) (hk:k<n)
 (q1:∀ (l:Nat) (H':Hp),rf T n k m=some l->Kp [] H H'->Q (Zd l) H') (q2:∀ H',rf T n k m=none->Kp [] H H'->Q .non H'):Ji0 C "row_to_free" (Jj (Je6 C)) [] E (Zv 0) (Yq (Zv 2) Jbr) σ H Q:=by
 have sh:=Jcb S t.k.ok hm hn
 have hs:sizeLine=16777216:=J9n
 obtain ⟨dx,rv,h1,h2⟩:=t.h.o
 refine ⟨_,s0,p,dx,_,rfl,h1,rfl,_,s2,?_⟩
 show Jj (Je6 C) [.ref p,Zd k] H Q E
 refine Jef (sp:=Je6 C) (E:=E) (vs:=[Zd k]) (as:=[.d (Jp k)]) t.h (by rw [sh.lf];omega) (by rw [sh.lb];omega) ⟨⟨_,rfl,.int _⟩,trivial⟩ (P:=λ d _=>d=Jzy (rf T n k m)) ⟨z,T,m,n,k,rfl,sh,hk,rfl⟩ λ d n' v H' hp kp r=>?_
 subst hp
 cases e:rf T n k m with
 | none=>
  rw [e] at r
  cases r
  exact q2 H' e kp
 | some l=>
  rw [e] at r
  cases r
  exact q1 l H' e kp
theorem Turn.keep {C p fa ba:Addr}{ex:List Addr}{z:Siz}{m n be N:Nat}{c:Nat->Tb.Vec}{W:List Nat}{T0 T:Tb.Tab}{H0 H H':Hp}{wv:V}(t:Turn C ex p fa ba z m n be c W T0 H0 wv N T H) (k:Kp [] H H'):Turn C ex p fa ba z m n be c W T0 H0 wv N T H':=
 ⟨t.h.keep k,t.k,t.kp.trans (k.mono λ a ha=>by cases ha),t.w.keep (k.mono λ a ha=>by cases ha),t.path⟩
theorem J2z {s1 s2 s3 s4 r:TS}{D:Ends}{σ:L2.St}{H:Hp}(h:Jas s1 (Jas s2 (Jas s3 s4)) { D with nx:=r D } σ H):Jas s1 (Jas s2 (Jas s3 (Jas s4 r))) D σ H:=h
theorem Jz5 {ts:TS}{gs:GS}{N:List Str}{as:List Vl}{vs:List V}{H:Hp}{D:Ends}{P:List Vl->Prop} [T:SV ts gs] (r:B1 Src.no [] H as vs) (hp:as.all Jgz=true) (g:gs { nx:=λ env _=>P env,rt:=λ _ _=>False,rtn:=λ _ _=>False } (Jfp N as) 0) (k:∀ ex env σ H' n,At ⟨Src.no,[],H,[]⟩ ex env σ H' n->P env->D.nx σ H'):ts D (start N vs) H:=
 T.sv (C:=⟨Src.no,[],H,[]⟩) (G:={ nx:=λ env _=>P env,rt:=λ _ _=>False,rtn:=λ _ _=>False }) ⟨λ A h=>k _ _ _ _ _ A h,λ _ h=>h.elim,λ _ h=>h.elim,λ _ h=>h.elim,λ _ h=>h.elim,λ _ _ h=>h.elim,λ _ h=>h.elim⟩ (Jg0 r hp (λ a ha=>by cases ha) (λ a ha=>by cases ha) trivial) g
def Jyc (C p:Addr) (z:Siz) (T:Tb.Tab) (l k:Nat) (env:List Vl):Prop:=∃ ps:List (Addr×List J9h),env=[.pin (.ref p) (W1 C z T),.d (Jp l),.d (Jp k),.d (Y5 (T.row l)),.own2 none ps]/\ps.map (·.2)=(T.ex l k).rows.map (·.map .int)
theorem Juj {a p fa ba:Addr}{xx:List Addr}(h1:a≠p) (h2:a≠fa) (h3:a≠ba) (h4:a∉xx):a∉p::fa::ba::xx:=λ z=>by
 rcases Qf.mp z with z | z
 . exact h1 z
 . rcases Qf.mp z with z | z
   . exact h2 z
   . rcases Qf.mp z with z | z
     . exact h3 z
     . exact h4 z
theorem Jmw (ks:List Nat) (i j:Nat):(ks.map Zd).set i (Zd j)=(ks.set i j).map Zd:=by rw [X6]
theorem Jwt {K:Qc}{C p fa ba:Addr}{xx:List Addr}{z:Siz}{T:Tb.Tab}{m n l k nn:Nat}{H H':Hp}{σ:L2.St}{Q:VK}{ex:List Addr}{env:List Vl}{rt:VK}(Y:TableOk K C) (hT:TabH C xx p fa ba z T H) (sh:Shape m n T) (hl:l<m) (hk:k<n) (A:At ⟨Src.no,[],H,[]⟩ ex env σ H' nn) (hP:Jyc C p z T l k env) (q:∀ H',TabH C xx p fa ba z (T.ex l k) H'->Kp [p,fa,ba] H H'->Q .non H') :
 Jas (Jve K (Zv 0) (Zv 4) "rows") (Jas (Jve K (Zv 0) (tOp (Jlp K) (Zv 3) (Zv 2)) "divisor") (Jdo (Jvf (Yq (tOp (Jlp K) (Jnr K (Zv 0) "bound") (Zv 1)) (Yq (tOp (Jlp K) (Jnr K (Zv 0) "free") (Zv 2)) Jbr))) (Jr2 K 2 (gCons (Jni (Jnr K (Zv 0) "free") (Zv 2) Jfk) (gCons (Jni (Jnr K (Zv 0) "bound") (Zv 1) Jfk) gNil))))) { nx:=λ _ H'=>Q .non H',rt:=rt } σ H':=by
 obtain ⟨ps,rfl,hps⟩:=hP
 obtain ⟨e0,_⟩:=A.ev.sl 0 _ rfl
 obtain ⟨v1,e1,r1⟩:=A.ev.sl 1 _ rfl
 cases r1
 obtain ⟨v2,e2,r2⟩:=A.ev.sl 2 _ rfl
 cases r2
 obtain ⟨v3,e3,r3⟩:=A.ev.sl 3 _ rfl
 obtain ⟨a,e4,o4⟩:=A.ev.sl 4 _ rfl
 have s0:=Jm e0
 have s1:=Jm e1
 have s2:=Jm e2
 have s3:=Jm e3
 have s4:=Jm e4
 have kp:=A.kp
 have kp:Kp [] H H':=kp
 obtain ⟨dx,rv,o1,o2⟩:=hT.o
 have p1:=kp _ _ o1 (by simp)
 have f1:=kp _ _ hT.f (by simp)
 have b1:=kp _ _ hT.b (by simp)
 have oi:Jk [Vl.pin (.ref p) (W1 C z T),.d (Jp l),.d (Jp k),.d (Y5 (T.row l)),.own2 none ps] σ 4=a::ps.map (·.1):=by
  unfold Jk;rw [e4];rfl
 have new:∀ b,b∈a::ps.map (·.1)->H b=none:=λ b hb=>A.new 4 b (by rw [oi];exact hb)
 have ne:∀ b,b∈a::ps.map (·.1)->b≠p/\b≠fa/\b≠ba:=λ b hb=>by
  have h:=new b hb
  refine ⟨λ z=>?_,λ z=>?_,λ z=>?_⟩
  . rw [z,o1] at h;cases h
  . rw [z,hT.f] at h;cases h
  . rw [z,hT.b] at h;cases h
 cases r3 with
 | @list ra rvs _ re rn rz rr=>
 have rp:ra≠p:=λ z=>by rw [z,p1] at re;cases re
 have rin:=Reps.ints_inv rr
 subst rin
 have hkr:k<(T.row l).length:=by rw [sh.lw l hl];omega
 have el:atI ((T.row l).map V.int) ((k:Nat):Int)=some (.int (T.e l k)):=by
  refine Yl (by omega) ?_
  unfold Tb.Tab.e
  rw [Q0,Qh,Qd hkr,Qg,Qd hkr]
  rfl
 have lb:l<T.bd.length:=by rw [sh.lb];exact hl
 have lf:k<T.fr.length:=by rw [sh.lf];exact hk
 have eb:atI (T.bd.map Zd) ((l:Nat):Int)=some (Zd (T.b l)):=by
  refine Yl (by omega) ?_
  unfold Tb.Tab.b
  rw [Q0,Qh,Qd lb,Qg,Qd lb]
  rfl
 have ef:atI (T.fr.map Zd) ((k:Nat):Int)=some (Zd (T.f k)):=by
  refine Yl (by omega) ?_
  unfold Tb.Tab.f
  rw [Q0,Qh,Qd lf,Qg,Qd lf]
  rfl
 have one:(2:Nat)<=sizeLine:=by rw [J9n];decide
 refine ⟨_,s4,_,s0,p,C,dx,_,rfl,p1,Y.c,Y.n6,Xl rfl,?_⟩
 have pu:L2.putF "rows" (V.ref a) (Jmv z T.q fa ba rv)=Jmv z T.q fa ba (.ref a):=rfl
 rw [pu]
 refine ⟨_,s3,_,s2,ra,_,_,_,rfl,rfl,SqL.of (by rw [Jf rp];exact re),el,_,s0,p,C,dx,_,rfl,Jh,Y.c,Y.n7,Xl rfl,?_⟩
 have pu2:L2.putF "divisor" (V.int (T.e l k)) (Jmv z T.q fa ba (.ref a))=Jmv z (T.e l k) fa ba (.ref a):=rfl
 rw [pu2,Jf1]
 have fp:fa≠p:=Qk hT.pf
 have bp:ba≠p:=Qk hT.pb
 refine ⟨_,s0,p,C,dx,_,_,rfl,Jh,Y.c,Y.n5,rfl,_,s1,ba,_,_,_,rfl,rfl,SqL.of (by rw [Jf bp];exact b1),eb,_,s0,p,C,dx,_,_,rfl,Jh,Y.c,Y.n4,rfl,_,s2,fa,_,_,_,rfl,rfl,SqL.of (by rw [Jf fp];exact f1),ef,one,λ pt hpt=>?_⟩
 have ptp:pt≠p:=λ z=>by rw [z,Jh] at hpt;cases hpt
 have hpt':H' pt=none:=by rw [Jf ptp] at hpt;exact hpt
 have ptf:pt≠fa:=λ z=>by rw [z,f1] at hpt';cases hpt'
 have ptb:pt≠ba:=λ z=>by rw [z,b1] at hpt';cases hpt'
 refine ⟨pt,_,rfl,SqT.of Jh,rfl,_,_,rfl,_,s0,p,C,dx,_,_,rfl,by rw [Jf (Qk ptp),Jh],Y.c,Y.n4,rfl,_,s2,fa,_,_,k,rfl,rfl,by rw [Jf (Qk ptf),Jf fp];exact f1,Jaj (by omega) (by rw [Qb];omega),?_⟩
 refine ⟨_,_,rfl,_,s0,p,C,dx,_,_,rfl,by rw [Jf hT.pf,Jf (Qk ptp),Jh],Y.c,Y.n5,rfl,_,s1,ba,_,_,l,rfl,rfl,by rw [Jf (Qk hT.fb),Jf (Qk ptb),Jf bp];exact b1,Jaj (by omega) (by rw [Qb];omega),rfl,?_⟩
 rw [Jmw,Jmw]
 have same:∀ b o,H' b=some o->b≠p->b≠fa->b≠ba->upd (upd (upd (upd H' p (.ins C dx (Jmv z (T.e l k) fa ba (.ref a)))) pt (.tup [Zd (T.b l),Zd (T.f k)])) fa (.lst ((T.fr.set k (T.b l)).map Zd))) ba (.lst ((T.bd.set l (T.f k)).map Zd)) b=some o:=λ b o e n1 n2 n3=>by
  rw [Jf n3,Jf n2,Jf (Jq e hpt'),Jf n1];exact e
 refine q _ ⟨⟨dx,.ref a,?_,?_⟩,?_,?_,hT.pf,hT.pb,hT.fb,hT.np,hT.nf,hT.nb,λ b hb=>?_⟩ λ b o e nb=>?_
 . rw [Jf hT.pb,Jf hT.pf,Jf (Qk ptp),Jh];rfl
 . have na:=ne a Qi
   refine .list (same a _ o4.h na.1 na.2.1 na.2.2) (Juj na.1 na.2.1 na.2.2 λ z=>hT.al a z (new a Qi)) (by unfold Yx;rw [Qb,J9n];have:=o4.z;omega) ?_
   have go:∀ (qs:List (Addr×List J9h)) (rs:List (List Int)),(∀ x∈qs,x∈ps)->qs.map (·.2)=rs.map (·.map .int)->Reps (p::fa::ba::xx) (upd (upd (upd (upd H' p (.ins C dx (Jmv z (T.e l k) fa ba (.ref a)))) pt (.tup [Zd (T.b l),Zd (T.f k)])) fa (.lst ((T.fr.set k (T.b l)).map Zd))) ba (.lst ((T.bd.set l (T.f k)).map Zd))) (rs.map Y5) (Yx qs):=by
    intro qs
    induction qs with
    | nil=>
     intro rs _ e
     cases rs with
     | nil=>exact .nil
     | cons r rs=>cases e
    | cons x qs ih=>
     intro rs hm e
     cases rs with
     | nil=>cases e
     | cons r rs=>
      rw [Qz,Qz] at e
      injection e with e1 e2
      have hx:=hm x Qi
      obtain ⟨vs,g1,g2,g3⟩:=(o4.i x hx).h
      have nx:=ne x.1 (Qj _ (Qn.mpr ⟨x,hx,rfl⟩))
      rw [e1] at g3
      have:=Reps.ints_inv g3
      subst this
      exact .cons (.list (same _ _ g1 nx.1 nx.2.1 nx.2.2) (Juj nx.1 nx.2.1 nx.2.2 λ z=>hT.al x.1 z (new x.1 (Qj _ (Qn.mpr ⟨x,hx,rfl⟩)))) g2 (Reps.ints r)) (ih rs (λ y hy=>hm y (Qj _ hy)) e2)
   exact go ps _ (λ _ h=>h) hps
 . rw [Jf hT.fb,Jh];rfl
 . rw [Jh];rfl
 . cases e:H b with
   | none=>exact absurd e (hT.al b hb)
   | some o=>
    rw [same b o (kp b o e (by simp)) (λ z=>hT.np (by rw [<- z];exact hb)) (λ z=>hT.nf (by rw [<- z];exact hb)) (λ z=>hT.nb (by rw [<- z];exact hb))]
    exact Xs _
 . simp only [Qf,X2,or_false,not_or] at nb
   exact same b o (kp b o e (by simp)) nb.1 nb.2.1 nb.2.2
end My
namespace L2
theorem Jip {M:Model}{A:J9m}{E:J9g->J9i->Prop}{s:J9i}{a b:J9g}{Q:J9g->J9i->Prop}(ha:s.TypeIs a "list") (hb:s.TypeIs b "list") (hc:J9j M A (call (.builtin "list.__iadd__") [a,b]) Q E s):J9j M A (inplaceOp .Add a b) Q E s:=by
 have hl:typeLookup (.type "list") (dunderI "add")=pure (some (.builtin "list.__iadd__")):=J8u.lookup
 unfold inplaceOp
 refine wpAny_holding ?_
 have hfi:fillsInplaceSlot (.type "list") "add" (Operator.Add == .Add)=pure false:=by
  unfold fillsInplaceSlot
  show (typeLookup (.type "list") (dunderI "add") >>= λ fi=>pure (fi.isSome && !isSeqSlot fi))=pure false
  rw [hl];rfl
 refine wpAny_bind (wpAny_typeOf ha (wpAny_bind (wpAny_of_eq hfi ?_)))
 show J9j M A (if false=true then _ else _) Q E s
 rw [if_neg Xe]
 refine wpAny_bind (wpAny_binaryOp1_none (nm:="add") ha hb PySem.noFill_list_add ?_)
 refine wpAny_bind (wpAny_of_eq (PySem.seqSlot_of hl (by decide +kernel)) ?_)
 exact wpAny_bind (wpAny_rule hc)
def ipL:TIp:=λ x y H Q=>∃ l b xs zs,x = .ref l/\y = .ref b/\H l=some (.lst xs)/\H b=some (.lst zs)/\xs.length+zs.length<=sizeLine/\Q (.ref l) (upd H l (.lst (xs++zs)))
theorem Jwu {X:Cx}:PIp X .Add ipL:=by
 intro pins s σ H x y v u Q I rx ru h
 obtain ⟨l,b,xs,zs,rfl,rfl,hH,hB,hz,q⟩:=h
 cases rx
 cases ru
 obtain ⟨z,its,n,r,hl,e⟩:=I.lstM hH
 obtain ⟨z2,its2,n2,r2,hl2,e2⟩:=I.lstM hB
 have hsz:its.toArray.size+its2.toArray.size<=sizeLine:=by rw [Xa,Xa];omega
 have hlong:¬ (!its.toArray.isEmpty&&J4o (its.toArray.size+its2.toArray.size))=true:=by
  rw [Jlq hsz,Bool.and_false]
  exact Xe
 refine Jip (a:=.ref l) (b:=.ref b) (s:=s) ⟨_,e,rfl⟩ ⟨_,e2,rfl⟩ ?_
 refine call_meets J8u ⟨_,e,rfl⟩ F.entry_list_iadd (F.args_list_iadd_2 _ _)
  (AutoSeq1.list___iadd___list_list_0 l its.toArray n b its2.toArray n2 hlong (by rw [Xa];omega) (by omega)) ⟨e,e2,?_⟩
 refine ⟨.ref l,_,I.lset (its':=its++its2) hH e (by simp) (r.append r2) ?_,rfl,q⟩
 rw [Q7]
 omega
end L2
namespace My
open L2
class N2V (te:TE) (g:outParam GN2):Prop where
 n2:∀ {S:Src} {ex:List Addr} {env:List Vl} {σ:L2.St} {H:Hp} {n:Nat} {Q:VK} {P:List (List J9h)->Nat->Prop},Ev S ex env σ H n->g env n P ->
  (∀ (ps:List (Addr×List J9h)) (n':Nat) (a:Addr) (H':Hp),P (ps.map (·.2)) n'->Yv S n' H H'->H a=none->(∀ p∈ps,H p.1=none)->Own2 S (a::ps.map (·.1)++ex) H' none ps a->Q (.ref a) H')->te σ H Q
abbrev Jwv (gi:GN) (k:Nat) (idx ks:List Nat) (bd:GG) (gn:GN):GN2:=λ env n Q=>gi env n λ items n1=>(ks.all (λ i=>decide (i<k))=true/\items.length<=1000000)/\Jkh (Jki bd gn (Jc8 k idx env)) items n1 Q
instance n2v_comp {wi:TI}{gi:GN}{k:Nat}{idx ks:List Nat}{g:TG}{bd:GG}{te:TE}{gn:GN} [I:IV wi gi] [G:GV g bd ks] [A:NV te gn]  :N2V (Jau wi k idx g Jf3 te) (Jwv gi k idx ks bd gn):=⟨λ {S ex env σ H n Q P} E h kk=>by
 refine I.iv E h λ items n1 J hd H1 hc s1 hrd hit l hl=>?_
 obtain ⟨⟨hk,hz⟩,hc⟩:=hc
 have hs:sizeLine=16777216:=J9n
 have E1:=Jgx (E.step s1) k idx
 have lch:l∉S.ch:=λ z=>S.dom s1.2 l z hl
 have hkk:∀ i∈ks,i<k:=λ i hi=>of_decide_eq_true (X3.mp hk i hi)
 refine ⟨λ i m σ' H2=>i<=items.length/\m=items.length-i/\∃ (n2:Nat) (ps:List (Addr×List J9h)),Jkh (Jki bd gn (Jc8 k idx env)) (items.drop i) n2 (λ ys n'=>P (ps.map (·.2)++ys) n')/\Kp (l::S.ch) H1 H2/\H2 l=some (.lst (Yx ps))/\ps.length<=i/\(∀ p∈ps,H1 p.1=none)/\(l::ps.map (·.1)).Nodup/\(∀ p∈ps,In2 S (l::ps.map (·.1)++ex) H2 p)/\S.inv n2 H2/\(∀ j:Nat,k<=j->σ'[j]? = (Yp k idx σ)[j]?)/\σ'.length=(Yp k idx σ).length,
  ⟨items.length,Xz _,rfl,n1,[],by simpa using hc,Kp.new hl _,Jh,Qm _,(λ p hp=>by cases hp),by simp,(λ p hp=>by cases hp),S.keep s1.2 λ b _ o' e=>Kp.new (ex:=[]) hl _ _ _ e (by simp),λ _ _=>rfl,rfl⟩,?_⟩
 rintro i m σ' H2 ⟨hi,rfl,n2,ps,hcm,kp,h2l,hvl,hno,hnd,hin,iv2,hsl,hln⟩
 have hL:∀ b∈l::ps.map (·.1),H1 b=none:=λ b hb=>by
  rcases Qf.mp hb with rfl | hb
  . exact hl
  . obtain ⟨p,hp,rfl⟩:=Qn.mp hb
    exact hno p hp
 have hL2:∀ b∈l::ps.map (·.1),H2 b≠none:=λ b hb=>by
  rcases Qf.mp hb with rfl | hb
  . rw [h2l];exact Xs _
  . obtain ⟨p,hp,rfl⟩:=Qn.mp hb
    obtain ⟨vs,h1,_⟩:=(hin p hp).h
    rw [h1];exact Xs _
 have E2:Ev S (l::ps.map (·.1)++ex) (Jc8 k idx env) σ' H2 n2:=Jmb E1 hL (kp.mono λ b hb=>(Qf.mp hb).elim (λ e=>by rw [e];exact Xn _ Qi) λ h=>Xf _ h) hL2 iv2 Jgy hsl hln
 have kpx:Kp (l::ps.map (·.1)++ex) H1 H2:=kp.mono λ b hb=>(Qf.mp hb).elim (λ e=>by rw [e];exact Xn _ Qi) λ h=>Xf _ (E.ch b h)
 have IT:=hit (l::ps.map (·.1)++ex) H2 E2.al λ h hh=>(Rep.adds hL (hrd h hh)).keep kpx
 rcases X1 i items.length with hlt | hge
 . refine .inr ⟨(IT.2 i items[i] (Qd hlt)).1,λ x H3 y=>?_⟩
   obtain ⟨kp3,rx⟩:=(IT.2 i items[i] (Qd hlt)).2 x H3 y
   have rx':=rx
   rw [J6q hlt] at hcm
   have st3:Yv S n2 H2 H3:=Yv.new E2.inv kp3
   have E3:=E2.step st3
   refine G.gv E3 rx' hcm λ env' σ2 ht E4 _ hs2' hl2=>tv_noTest.tv E4 (P:=λ c n'=>c=true/\n'=n2) ⟨rfl,rfl⟩ λ c n4 H4 h4 s4=>?_
   obtain ⟨rfl,rfl⟩:=h4
   have hs2:∀ j:Nat,k<=j->σ2[j]? = (Yp k idx σ)[j]?:=λ j hj=>by
    rw [hs2' j λ z=>by have:=hkk j z;omega];exact hsl j hj
   refine A.nv (E4.step s4) ht λ ds n5 a vs H5 h5 s5 ha hla hzv r5=>?_
   have s24:=st3.trans s4
   have s25:=s24.trans s5
   have k5:Kp S.ch H2 H5:=s25.1
   have h5l:H5 l=some (.lst (Yx ps)):=k5 _ _ h2l lch
   have an:a∉l::ps.map (·.1)++ex:=λ z=>(E4.step s4).al a z ha
   have ac:a∉S.ch:=λ z=>an (E4.ch a z)
   have ha1:H1 a=none:=by
    cases e:H1 a with
    | none=>rfl
    | some u=>
     have e2:=kp a u e λ z=>(Qf.mp z).elim (λ q=>an (by rw [q];exact Xn _ Qi)) ac
     rw [s24.1 a u e2 ac] at ha;cases ha
   have al:a≠l:=λ e=>an (by rw [e];exact Xn _ Qi)
   have msub:∀ b∈l::(ps++[(a,ds)]).map (·.1)++ex,b∈a::(l::ps.map (·.1)++ex):=λ b hb=>by
    simp only [Xd,Qz,J28,J3n,Qf,Q8,X2,or_false] at hb ⊢
    rcases hb with h | (h | h) | h
    . exact .inr (.inl h)
    . exact .inr (.inr (.inl h))
    . exact .inl h
    . exact .inr (.inr (.inr h))
   have mup:∀ b∈l::ps.map (·.1)++ex,b∈l::(ps++[(a,ds)]).map (·.1)++ex:=λ b hb=>by
    simp only [Xd,Qz,J28,J3n,Qf,Q8,X2,or_false] at hb ⊢
    rcases hb with h | h | h
    . exact .inl h
    . exact .inr (.inl (.inl h))
    . exact .inr (.inr h)
   have lin:l∈l::(ps++[(a,ds)]).map (·.1)++ex:=Xn _ Qi
   refine ⟨Yx ps,h5l,by unfold Yx;rw [Qb];omega,_,(?_:items.length-(i+1)<_),hlt,rfl,n5,ps++[(a,ds)],?_,?_,?_,?_,?_,?_,?_,?_,hs2,hl2.trans hln⟩
   . omega
   . simpa using h5
   . exact (kp.trans (k5.mono λ b hb=>Qj _ hb)).trans (Kp.at Qi _)
   . rw [Jh];unfold Yx;rw [Xd];rfl
   . rw [Q7,Uj];omega
   . intro p hp
     rcases Q8.mp hp with hp | hp
     . exact hno p hp
     . rw [Qs.mp hp];exact ha1
   . rw [Xd,<- J3n]
     refine J42.mpr ⟨hnd,by simp,?_⟩
     intro b hb c hc e
     have e':b=a:=e.trans (Qs.mp hc)
     exact an (Xn _ (e'▸hb))
   . intro p hp
     rcases Q8.mp hp with hp | hp
     . have w:=hin p hp
       obtain ⟨us,g1,g2,g3⟩:=w.h
       have pl:p.1≠l:=λ e=>(Xq.mp hnd).1 (by rw [<- e];exact Qn.mpr ⟨p,hp,rfl⟩)
       refine ⟨mup p.1 w.m,w.c,us,by rw [Jf pl];exact k5 _ _ g1 w.c,g2,?_⟩
       have q4:Reps (l::ps.map (·.1)++ex) H4 p.2 us:=g3.keep (s24.1.mono E2.ch)
       have q5:Reps (a::(l::ps.map (·.1)++ex)) H5 p.2 us:=(Reps.add ha q4).keep (s5.1.mono λ b hb=>Qj _ (E2.ch b hb))
       exact (Reps.mono msub q5).keep (Kp.at lin _)
     . rw [Qs.mp hp]
       refine ⟨?_,ac,vs,by rw [Jf al];exact hla,hzv,(Reps.mono msub r5).keep (Kp.at lin _)⟩
       simp
   . exact S.keep s25.2 λ b hb o e=>by rw [Jf (λ z=>lch (by rw [<- z];exact hb))];exact e
 . have e:i=items.length:=by omega
   subst e
   rw [J6r] at hcm
   have hcm':P (ps.map (·.2)) n2:=by simpa [Jkh] using hcm
   refine .inl ⟨IT.1,kk ps n2 l H2 hcm' ⟨λ b o e nb=>kp b o (s1.1 b o e nb) λ z=>(Qf.mp z).elim (λ e2=>by rw [e2,s1.free hl] at e;cases e) nb,iv2⟩ (s1.free hl) (λ p hp=>s1.free (hno p hp)) ⟨h2l,by omega,(λ _ h=>by cases h),hnd,Xn _ Qi,lch,hin⟩⟩⟩
def Jh1 (i:Nat) (wi:TI) (k:Nat) (idx:List Nat) (g:TG) (tt:TT) (te:TE):TS:=Bf i wi k idx g tt te
theorem Juk {X:Cx}{st:Stmt}{i:Nat}{wi:TI}{k:Nat}{idx:List Nat}{g:TG}{tt:TT}{te:TE}(h:PS X st (Bf i wi k idx g tt te)):PS X st (Jh1 i wi k idx g tt te):=h
instance sv_set2V {i:Nat}{wi:TI}{k:Nat}{idx:List Nat}{g:TG}{tt:TT}{te:TE}{gn:GN2} [E:N2V (Jau wi k idx g tt te) gn]:SV (Jh1 i wi k idx g tt te) (Jx1 i gn):=⟨λ {C G D} O {ex env σ H n} A h=>
 show Jau wi k idx g tt te σ H (λ v H2=>D.nx (σ.set i (some v)) H2) from E.n2 A.ev h λ ps n1 a H1 h1 s1 ha hp q=>O.nx (A.own2 s1 ha hp q) (h1 ps rfl)⟩
theorem Jmx {α:Type}{turn:J9h->Nat->(List J9h->Nat->Prop)->Prop}{n:Nat}(f:α->List J9h) {e:α->J9h}:∀ (l:List α) {Q:List (List J9h)->Nat->Prop},(∀ i∈l,∀ K:List J9h->Nat->Prop,K (f i) n->turn (e i) n K)->Q (l.map f) n->Jkh turn (l.map e) n Q
 | [],_,_,q=>q
 | i::l,Q,h,q=>h i Qi _ (Jmx f l (Q:=λ ys n2=>Q (f i::ys) n2) (λ j hj=>h j (Qj _ hj)) q)
theorem Jbj {n:Nat}{f:Nat->Int}(h:∀ i,i<n->0<=f i):0<=Tb.Jn n f:=by
 induction n with
 | zero=>exact J25 _
 | succ n ih=>
  have:=ih λ i hi=>h i (by omega)
  have:=h n (by omega)
  show 0<=Tb.Jn n f+f n
  omega
theorem Jcp {n a:Nat}{f:Nat->Int}(ha:a<n) (h:∀ i,i<n->0<=f i):f a<=Tb.Jn n f:=by
 induction n with
 | zero=>omega
 | succ n ih=>
  have h1:=h n (by omega)
  show f a<=Tb.Jn n f+f n
  by_cases e:a=n
  . subst e
    have:=Jbj (f:=f) λ i (hi:i<a)=>h i (by omega)
    omega
  . have:=ih (by omega) λ i hi=>h i (by omega)
    omega
section
variable {nw m n:Nat}{c:Nat->Tb.Vec}{rhs:Tb.Vec}{some W:List Nat}{T T0:Tb.Tab}
noncomputable def one (ν:Nat):Nat->Int:=λ μ=>if μ = ν then 1 else 0
theorem Jcc (ν μ:Nat):0<=one ν μ:=by unfold one;split<;>decide
theorem Jz6 {ν:Nat}:Tb.inN m n T ν↔0<T.tot m n (one ν):=by
 have b:=Jbj (n:=m) (f:=λ i=>one ν (T.b i)) λ i _=>Jcc _ _
 have f:=Jbj (n:=n) (f:=λ j=>one ν (T.f j)) λ i _=>Jcc _ _
 unfold Tb.Tab.tot
 constructor
 . rintro (⟨i,hi,e⟩ | ⟨j,hj,e⟩)
   . have:=Jcp (f:=λ i=>one ν (T.b i)) hi λ i _=>Jcc _ _
     have e1:one ν (T.b i)=1:=if_pos e
     simp only [e1] at this
     omega
   . have:=Jcp (f:=λ j=>one ν (T.f j)) hj λ i _=>Jcc _ _
     have e1:one ν (T.f j)=1:=if_pos e
     simp only [e1] at this
     omega
 . intro h
   have pos:∀ μ,0<one ν μ->μ = ν:=λ μ h=>by
    unfold one at h
    split at h
    . assumption
    . exact absurd h (by decide)
   by_cases c:0<Tb.Jn m (λ i=>one ν (T.b i))
   . obtain ⟨i,hi,hp⟩:=Tb.Vi c
     exact .inl ⟨i,hi,pos _ hp⟩
   . obtain ⟨j,hj,hp⟩:=Tb.Vi (n:=n) (f:=λ j=>one ν (T.f j)) (by omega)
     exact .inr ⟨j,hj,pos _ hp⟩
theorem Fit.names (F:Fit nw m n c some T0) (tot:∀ g,T.tot m n g=T0.tot m n g) (ν:Nat):Tb.inN m n T ν↔((∃ s,s<m/\ν = nw+s)\/ν∈some):=by
 rw [Jz6,tot,F.tot]
 have b:=Jbj (n:=m) (f:=λ s=>one ν (nw+s)) λ i _=>Jcc _ _
 have f:=Jbj (n:=n) (f:=λ j=>one ν (some.getD j 0)) λ i _=>Jcc _ _
 have pos:∀ μ,0<one ν μ->μ = ν:=λ μ h=>by
  unfold one at h
  split at h
  . assumption
  . exact absurd h (by decide)
 constructor
 . intro h
   by_cases c:0<Tb.Jn m (λ s=>one ν (nw+s))
   . obtain ⟨i,hi,hp⟩:=Tb.Vi c
     exact .inl ⟨i,hi,(pos _ hp).symm⟩
   . obtain ⟨j,hj,hp⟩:=Tb.Vi (n:=n) (f:=λ j=>one ν (some.getD j 0)) (by omega)
     have e:=pos _ hp
     right
     have hl:j<some.length:=by rw [F.len];exact hj
     rw [Qg,Qd hl] at e
     rw [<- e]
     exact Xo _
 . rintro (⟨s,hs,e⟩ | e)
   . have:=Jcp (f:=λ s=>one ν (nw+s)) hs λ i _=>Jcc _ _
     have e1:one ν (nw+s)=1:=if_pos e.symm
     simp only [e1] at this
     omega
   . obtain ⟨j,hj⟩:=Ul.mp e
     have hl:=(Qp.mp hj).1
     have:=Jcp (n:=n) (a:=j) (f:=λ j=>one ν (some.getD j 0)) (by rw [<- F.len];exact hl) λ i _=>Jcc _ _
     have e1:one ν (some.getD j 0)=1:=by
      rw [Qg,hj]
      exact if_pos rfl
     simp only [e1] at this
     omega
theorem Wq {n:Nat}{f:Nat->Int}(h:∀ i,i<n->f i=0):Tb.Jn n f=0:=by rw [Tb.Jl (g:=λ _=>0) h,Tb.Z8]
theorem Je7 {j:Nat}(h:j<some.length):some.getD j 0∈some:=by rw [Qg,Qd h];exact Xo _
theorem Jp3 (F:Fit nw m n c some T0) (tot:∀ g,T.tot m n g=T0.tot m n g) (h:Tb.TabOk m n c rhs T) {k:Nat}(r:Tb.Ray m n W T k):∃ j∈some,0<T.dir m k j:=by
 refine J3p λ no=>?_
 have z:∀ j∈some,T.dir m k j=0:=λ j hj=>by
  have:=Tb.Jt6 h r j
  rcases J64 0 (T.dir m k j) with q | q
  . exact absurd ⟨j,hj,q⟩ no
  . omega
 have zm:∀ j,j<n->some.getD j 0∈some:=λ j hj=>Je7 (by rw [F.len];exact hj)
 have zu:∀ s,s<m->T.dir m k (nw+s)=0:=λ s hs=>by
  have e:=Tb.Jf9 h r.hk s hs
  rw [tot,F.tot,Wq (n:=n) (λ j hj=>by rw [z _ (zm j hj),Xx]),Tb.Yd (a:=s) hs (λ i hi hne=>?_)] at e
  . rw [F.cols.un s hs] at e
    have:Tb.Vr s s=1:=if_pos rfl
    rw [this] at e
    omega
  . rw [F.cols.un i hi]
    have:Tb.Vr i s=0:=if_neg (Qk hne)
    rw [this,Xt]
 have w:=Tb.Jdb (W:=W) h r.hk
 have rp:=r.rise
 rw [<- w,tot,F.tot,Wq (n:=m) (λ s hs=>by rw [zu s hs];unfold Tb.ind;split<;>rfl),Wq (n:=n) (λ j hj=>by rw [z _ (zm j hj)];unfold Tb.ind;split<;>rfl)] at rp
 exact absurd rp (by decide)
theorem Jmy (sh:Shape m n T) {i j:Nat}(hi:i<m) (hj:j<=n):(T.e i j).natAbs<2^4000:=by
 have h2:j<(T.row i).length:=by rw [sh.lw i hi];omega
 have h3:i<T.rows.length:=by rw [sh.lr];exact hi
 have hr:T.row i∈T.rows:=by unfold Tb.Tab.row;rw [Qg,Qd h3];exact Xo _
 refine sh.small _ hr (T.e i j) ?_
 unfold Tb.Tab.e
 rw [Qg,Qd h2]
 exact Xo _
theorem Jjp (sh:Shape m n T) (h:Tb.TabOk m n c rhs T) {k ν:Nat}(hk:k<n) (i:Tb.inN m n T ν):(T.dir m k ν).natAbs<2^4000:=by
 rcases i with ⟨i,hi,rfl⟩ | ⟨j,hj,rfl⟩
 . rw [Tb.Jt0 h hk hi,J8v]
   exact Jmy sh hi (by omega)
 . by_cases e:j=k
   . subst e
     rw [Tb.Jpu h hk]
     have q0:=sh.q0
     have q1:=sh.q1
     have:((T.q.natAbs:Nat):Int)<((2^4000:Nat):Int):=by
      rw [J36 (by omega)]
      exact_mod_cast q1
     exact_mod_cast this
   . rw [Tb.Jt1 h hk hj e]
     exact J5f _
end
theorem Jk4 {ns:List Int}:∀ x∈ns,((Zg ns:Nat):Int) ∣ x:=by
 have key:∀ (l:List Int) (g:Nat),(l.foldl (λ g x=>J3d g x.natAbs) g ∣ g)/\∀ x∈l,l.foldl (λ g x=>J3d g x.natAbs) g ∣ x.natAbs:=by
  intro l
  induction l with
  | nil=>exact λ g=>⟨Nat.dvd_refl _,λ x hx=>by cases hx⟩
  | cons y l ih=>
   intro g
   obtain ⟨h1,h2⟩:=ih (J3d g y.natAbs)
   refine ⟨J8w h1 (Nat.gcd_dvd_left _ _),λ x hx=>?_⟩
   rcases Qf.mp hx with rfl | hx
   . exact J8w h1 (Nat.gcd_dvd_right _ _)
   . exact h2 x hx
 intro x hx
 exact J8x.mpr ((key ns 0).2 x hx)
theorem Jol {ns:List Int}{x:Int}(hx:x∈ns) (h:x≠0):Zg ns≠0:=λ z=>by
 have:=Jk4 x hx
 rw [z] at this
 exact h (Int.zero_dvd.mp this)
theorem Jul {ns:List Int}{x:Int}(hx:x∈ns) (h:x≠0) (hb:x.natAbs<2^9000):((Zg ns:Nat):Int)<2^9000:=by
 have d:=J8x.mp (Jk4 x hx)
 have:=Nat.le_of_dvd (by omega) d
 have h2:Zg ns<2^9000:=by omega
 exact_mod_cast h2
theorem Jk5 {ns:List Int}{x:Int}(hx:x∈ns):x/((Zg ns:Nat):Int)*((Zg ns:Nat):Int)=x:=Int.ediv_mul_cancel (Jk4 x hx)
end My
namespace L2
def DefI2 (K:Qc) (mg:Str->Option J9g) (x:Str) (C:Addr) (qual:Str) (st:Stmt) (ps:List Str):Prop:=∃ f fd,mg x=some (.ref C)/\Mk K C f/\FunD K "__init__" qual st f fd/\Bn K fd ps [.none]/\Bn K fd ps []
def Jmz (P:J9l) (w:J9k) (K:Qc) (mg:Str->Option J9g) (base:Heap) (x:Str) (C:Addr) (k:Nat) (ps:List Str) (sp:Sp):Prop:=
 ∃ f fd,mg x=some (.ref C)/\Mk K C f/\Bn K fd ps [.none]/\Bn K fd ps []/\FnOk P w K mg base CX0 k f fd ps sp
section
variable {P:J9l}{w:J9k}{K:Qc}{mg:Str->Option J9g}{base:Heap}{C:Addr}{x m qual:Str}{st:Stmt}{ps:List Str}{k:Nat}{sp:Sp}
theorem DefI2.cal (d:DefI2 K mg x C qual st ps) (h:∀ f fd,FunD K "__init__" qual st f fd->FnOk P w K mg base CX0 k f fd ps sp):Jmz P w K mg base x C k ps sp:=by
 obtain ⟨f,fd,hg,hm,F,b1,b2⟩:=d
 exact ⟨f,fd,hg,hm,b1,b2,h f fd F⟩
theorem defI2_mk {h:Heap}{f T:Addr}{oc oc':J9g}{od an od':Option Addr}{osl osl':Array (Option J9g)}{kV doc pm cdv ct:J9g}{nn:Nat}(X:K.In h) (G:h.Ns J9r mg) (aC:J6h K J9r x=some (some (.ref C)))
 (mk:J51 K C=true) (kc:Ui K (.ref C)=true)
 (a:Uh K (.ref C) "__init__" = some (some (.ref f))) (i:J3w K (.ref f)=true) (l:K.lookup f=some ⟨oc,od,.func (X0 "__init__" qual (We st) (Zx st) (Je st) (.ref T) kV doc pm an cdv ct),osl⟩) (c:J22 K cdv qual=true) (kp:Ui K (.ref f)=true)
 (lT:K.lookup T=some ⟨oc',od',.seq #[.none] nn,osl'⟩)
 (hb:∀ (T:Addr) (d kV doc pm:J9g) (an:Option Addr) (cdv ct:J9g) (us:List J9g),us.length=ps.length-1->∃ q,Yad (X0 "__init__" qual (We st) (Zx st) (Je st) (.ref T) kV doc pm an cdv ct) ⟨us,[]⟩=J96 (.ref T) >>= q/\q (some #[d])=pure (ps.zip (us++[d])))
 (hb2:∀ (T:Addr) (d kV doc pm:J9g) (an:Option Addr) (cdv ct:J9g) (us:List J9g),us.length=ps.length->∃ q,Yad (X0 "__init__" qual (We st) (Zx st) (Je st) (.ref T) kV doc pm an cdv ct) ⟨us,[]⟩=J96 (.ref T) >>= q/\q (some #[d])=pure (ps.zip us)):DefI2 K mg x C qual st ps:=by
 refine ⟨f,_,J6i X G aC,⟨mk,a,i,kc⟩,⟨⟨oc,od,.ref T,kV,doc,pm,an,cdv,ct,osl,rfl,l,c⟩,kp⟩,λ s us KX hl=>?_,λ s us KX hl=>?_⟩
 . obtain ⟨q,h1,h2⟩:=hb T .none kV doc pm an cdv ct us (by rw [Q7,Uj] at hl;omega)
   exact J8y rfl (KX _ _ lT) rfl h1 h2
 . obtain ⟨q,h1,h2⟩:=hb2 T .none kV doc pm an cdv ct us (by rw [Us] at hl;exact hl)
   rw [Us]
   exact J8y rfl (KX _ _ lT) rfl h1 h2
end
section
variable {X:Cx}{x:Str}{C:Addr}{e:Expr}{es:List Expr}{p pos:Pos}{t:TA}{k:Nat}{ps:List Str}{sp:Sp}
theorem J12 (c:Jmz X.prog X.w X.K X.mg X.base x C k ps sp) (hr:Room (k+1) X.A) (hg:Gl X x) (ha:PA X (e::es) t) (hdb:(x==("__debug__":Str))=false:=by decide)
 (he:starEach (e::es) X.env=(false,eval e X.env)::starEach es X.env:=by rfl) (hpl:(backTo pos (starEach es X.env)).any (·.1)=false:=by rfl):PE X (.Call (.Name x p) (e::es) [] pos) (Jxd C sp [.non] E0 t):=by
 obtain ⟨f,fd,hm,M,b,_,F⟩:=c
 exact Jvi M F hr hg hm b (.cons rfl .nil) Jsk ha hdb he hpl
end
section
variable {X:Cx}{tg e:Expr}{te:TE}{K':Qc}
theorem Jm0 (hK:X.K=K') (he:PE X e te):PI X tg e (Jo3 K' te):=hK▸Zm he
end
noncomputable def Jeg (i:Int) (n:Nat):List V:=(Ql n).map λ (k:Nat)=>V.int (i+(k:Int))
def J20 (ta:TA):TE:=λ σ H Q=>ta σ H λ vs H1=>∃ i j:Int,vs=[.int i,.int j]/\0<=i/\i<=j/\j<=1000000/\∀ l,H1 l=none->Q (.ref l) (upd H1 l (.lst (Jeg i (j-i).toNat)))
theorem Jrk (i:Int):∀ (n:Nat) (us:List J9g),us.length=n->(∀ (k:Nat) (u:J9g),us[k]? = some u->∃ t,u=Uq (i+((k:Nat):Int)) t)->J9 (Jeg i n) us:=by
 intro n
 induction n with
 | zero=>intro us h _;rw [J74.mp h];exact .nil
 | succ n ih=>
  intro us h hk
  have hne:us≠[]:=λ e=>by rw [e] at h;cases h
  obtain ⟨l,x,rfl⟩:∃ l x,us=l++[x]:=⟨us.dropLast,us.getLast hne,(J75 hne).symm⟩
  have hl:l.length=n:=by simpa using h
  have e:Jeg i (n+1)=Jeg i n++[V.int (i+n)]:=by unfold Jeg;rw [J39,Xd];rfl
  rw [e]
  obtain ⟨t,et⟩:=hk n x (by rw [<- hl];simp)
  subst et
  exact (ih l hl λ k u hu=>hk k u (by rw [Uo (by exact (Qp.mp hu).1)];exact hu)).append (.cons ⟨t,rfl⟩ .nil)
theorem Jiq {X:Cx}{a b:Expr}{ta:TA}{p1 p2 pos1 pos2:Pos}(hc:X.calm=true) (hg1:Gl X "list") (hm1:X.mg "list" = none) (hg2:Gl X "range") (hm2:X.mg "range" = none) (ha:PA X [a,b] ta) (hs:starEach [a,b] X.env=[(false,eval a X.env),(false,eval b X.env)]:=by rfl) (hs2:starEach [b] X.env=[(false,eval b X.env)]:=by rfl)
 (hs1:starEach [.Call (.Name "range" p2) [a,b] [] pos2] X.env=[(false,eval (.Call (.Name "range" p2) [a,b] [] pos2) X.env)]:=by rfl):PE X (.Call (.Name "list" p1) [.Call (.Name "range" p2) [a,b] [] pos2] [] pos1) (J20 ta):=by
 intro pins s σ H Q I h
 refine J94 (Bs I hg1 hm1 J90 ?_)
 refine Uz ?_ hs1 rfl
 rw [hs1]
 show J9j _ _ (spliced ((false,eval (.Call (.Name "range" p2) [a,b] [] pos2) X.env)::[])) _ _ s
 refine J3j ?_
 refine Call_ (Bs I hg2 hm2 boot_range (Uz (thn (ha pos2 pins s σ H _ I h) λ us s1 ⟨vs,H1,I1,r1,q1⟩=>?_) (by rw [hs,hs2]) (by rw [hs2];rfl)))
 obtain ⟨i,j,e,b0,b1,b2,q⟩:=q1
 subst e
 cases r1 with
 | cons r rr=>
  cases rr with
  | cons r' rr=>
   cases rr
   obtain ⟨t,rfl⟩:=r
   obtain ⟨t',rfl⟩:=r'
   refine call_range_2 (J3y ?_)
   have I2:Inv X pins σ H1 { s1 with heap:=s1.heap.push { cls:=.type "range",data:=.fields #[.int i t,.int j t',.int 1 s1.toks] },toks:=s1.toks+1 }:=I1.kept λ b o e=>Qu _ e
   have hs:=J9n
   refine call_list_range (n:=(j-i).toNat) (I2.ok.hd hc) (J5u ..) (small_one (by omega) (by omega) (by omega) (by omega)) (by rw [Yao];split<;>omega) (by omega) λ h' tk acc' c' hk hS' hacc=>?_
   refine ⟨.ref _,_,I2.laid (t':=tk) hk (Qm _) (show Y3 X.prog X.w _ h' _ (.lst (Jeg i (j-i).toNat)) from ⟨by unfold Jeg;simp;omega,acc'.toList,c',Jrk i _ _ (by simp [hacc.1]) (λ k u hu=>?_),by simpa using hS'⟩),rfl,q _ (I2.hok.fresh (Qm _))⟩
   obtain ⟨t,et⟩:=hacc.2 k u (by simpa using hu)
   exact ⟨t,by rw [et];simp⟩
end L2
namespace My
open L2
def Jh2 (ex:List Addr) (H:Hp):List Vl->L2.St->Prop
 | [],_=>True
 | w::ws,o :: σ=>SlR Src.no ex H w o/\Jh2 ex H ws σ
 | _::_,[]=>False
theorem Jh2.len {ex:List Addr}{H:Hp}:∀ {env:List Vl}{σ:L2.St},Jh2 ex H env σ->env.length<=σ.length
 | [],_,_=>Xz _
 | _::_,_::_,h=>Nat.succ_le_succ h.2.len
 | _::_,[],h=>h.elim
theorem Jh2.sl {ex:List Addr}{H:Hp}:∀ {env:List Vl}{σ:L2.St}(i:Nat) (w:Vl),Jh2 ex H env σ->env[i]? = some w->SlR Src.no ex H w (σ[i]?).join
 | [],_,_,_,_,e=>by cases e
 | _::_,_::_,0,_,h,e=>by cases e;exact h.1
 | _::_,_::_,i+1,w,h,e=>Jh2.sl i w h.2 e
 | _::_,[],_,_,h,_=>h.elim
theorem Jh2.ev {ex:List Addr}{H:Hp}{env:List Vl}{σ:L2.St}(h:Jh2 ex H env σ) (al:Alc ex H):Ev Src.no ex env σ H 0:=⟨h.len,λ i w e=>h.sl i w e,λ a ha=>(by cases ha),al,trivial⟩
theorem Jum {S:Src}{ex:List Addr}{env:List Vl}{σ:L2.St}{H:Hp}{n i k:Nat}{wi:TI}{idx:List Nat}{g:TG}{tt:TT}{te:TE}{r:TS}{D:Ends}{gn:GN} [N:NV (Jau wi k idx g tt te) gn] (P:List J9h->Nat->Prop) (E:Ev S ex env σ H n) (h:gn env n P) (q:∀ ds n' a vs H',P ds n'->Yv S n' H H'->H a=none->H' a=some (.lst vs)->vs.length<=sizeLine->Reps (a::ex) H' ds vs->r D (σ.set i (some (.ref a))) H'):Jas (Bf i wi k idx g tt te) r D σ H:=
 show Jau wi k idx g tt te σ H (λ v H2=>r D (σ.set i (some v)) H2) from N.nv E h q
theorem Jun {S:Src}{ex:List Addr}{env:List Vl}{σ:L2.St}{H:Hp}{n i:Nat}{te:TE}{r:TS}{D:Ends}{gn:GN}{a:Addr}{vs:List V} [N:NV te gn] (P:List J9h->Nat->Prop) (E:Ev S ex env σ H n) (h:gn env n P) (hi:σ[i]? = some (some (.ref a))) (ha:H a=some (.lst vs)) (ac:a∉S.ch) (q:∀ ds n' b us H',P ds n'->Yv S n' H H'->H b=none->H' b=some (.lst us)->us.length<=sizeLine->Reps (b::ex) H' ds us->H' a=some (.lst vs)->vs.length+us.length<=sizeLine/\r D (σ.set i (some (.ref a))) (upd H' a (.lst (vs++us)))):Jas (J0j i te ipL) r D σ H:=
 ⟨_,hi,N.nv E h λ ds n' b us H' p s hb hl hz rr=>⟨a,b,vs,us,rfl,rfl,s.1 _ _ ha ac,hl,(q ds n' b us H' p s hb hl hz rr (s.1 _ _ ha ac)).1,(q ds n' b us H' p s hb hl hz rr (s.1 _ _ ha ac)).2⟩⟩
theorem Juo {K:Qc}{S:Src}{ex:List Addr}{env:List Vl}{σ:L2.St}{H:Hp}{n i:Nat}{te:TE}{f:Str}{r:TS}{D:Ends}{gn:GN}{x C dx:Addr}{fs:List (Str×V)} [N:NV te gn] (P:List J9h->Nat->Prop) (E:Ev S ex env σ H n) (h:gn env n P) (hi:σ[i]? = some (some (.ref x))) (hx:H x=some (.ins C dx fs)) (xc:x∉S.ch) (c:Cls K C) (no:NoAttr K C f) (lf:fs.length<1000) (q:∀ ds n' b us H',P ds n'->Yv S n' H H'->H b=none->H' b=some (.lst us)->us.length<=sizeLine->Reps (b::ex) H' ds us->H' x=some (.ins C dx fs)->r D σ (upd H' x (.ins C dx (L2.putF f (.ref b) fs)))):Jas (Jve K (Zv i) te f) r D σ H:=
 N.nv E h λ ds n' b us H' p s hb hl hz rr=>⟨_,hi,x,C,dx,fs,rfl,s.1 _ _ hx xc,c,no,lf,q ds n' b us H' p s hb hl hz rr (s.1 _ _ hx xc)⟩
noncomputable def Z1 (U:Int) (ws:List Way):Nat->Tb.Vec:=λ ν r=>if ν < ws.length then (if (r:Int)<U then -((Jc ws (ν:Int)).g.getD r 0) else (if (Jc ws (ν:Int)).a=(r:Int)-U then 1 else 0)-(if (Jc ws (ν:Int)).b=(r:Int)-U then 1 else 0)) else Tb.Vr (ν - ws.length) r
noncomputable def Ja1 (R U:Int) (ws:List Way) (some:List Nat):Tb.Tab:=Tb.Bj ws.length (U+R).toNat (Z1 U ws) Jcy some
noncomputable def Jir (R U:Int) (ws:List Way):Siz:=⟨(ws.length:Int),(ws.length:Int)+U,(ws.length:Int)+U+R⟩
def Jk6 (C:Addr):Sp:=λ vs H Q _=>∃ (ex:List Addr) (x dx:Addr) (R U:Int) (ws:List Way) (ks:List Nat) (bv sv:V),vs=[.ref x,bv,sv,.non]/\H x=some (.ins C dx [])/\Alc ex H/\x∉ex/\Rep (x::ex) H (J0 R U ws) bv/\Rep (x::ex) H (.list (ks.map Jp)) sv/\BookOk R U ws/\(∀ k∈ks,k<ws.length)/\ks.length<=100 /\
 ∀ H' fa ba,H fa=none->H ba=none->TabH C ex x fa ba (Jir R U ws) (Ja1 R U ws ks) H'->Kp [x] H H'->Q .non H'
noncomputable def nI (ks:List Nat):List Int:=ks.map λ k:Nat=>(k:Int)
structure IsRing (R:Int) (ws:List Way) (ks:List Nat):Prop where
 lt:∀ k∈ks,k<ws.length
 up:ks.Pairwise (· < ·)
 one:Z6 R.toNat ws (nI ks)=[nI ks]
theorem IsRing.nd {R:Int}{ws:List Way}{ks:List Nat}(h:IsRing R ws ks):ks.Nodup:=h.up.imp λ h=>Q5 h
theorem IsRing.len {R:Int}{ws:List Way}{ks:List Nat}(h:IsRing R ws ks):ks.length<=ws.length:=nodup_le _ _ h.nd h.lt
theorem Z2 (f:Nat->Int):∀ n,Tb.Jn n f=((Ql n).map f).sum
 | 0=>rfl
 | n+1=>by rw [Tb.Jn,Z2 f n,J39,Xd,J8j,J4e,J8k]
theorem Jh3 (f:Nat->Int) (a:Nat):∀ b,Tb.Jn (a+b) f=Tb.Jn a f+Tb.Jn b λ i=>f (a+i)
 | 0=>by show Tb.Jn a f=Tb.Jn a f+0;omega
 | b+1=>by
  show Tb.Jn (a+b) f+f (a+b)=Tb.Jn a f+(Tb.Jn b (λ i=>f (a+i))+f (a+b))
  rw [Jh3 f a b];omega
section
variable {R U:Int}{ws:List Way}
theorem Jm1 {k r:Nat}(hk:k<ws.length) (hr:(r:Int)<U):Z1 U ws k r = -((Jc ws (k:Int)).g.getD r 0):=by
 unfold Z1;rw [if_pos hk,if_pos hr]
theorem Jjq {k a:Nat}(hk:k<ws.length) (hU:0<=U):Z1 U ws k (U.toNat+a)=(if (Jc ws (k:Int)).a=(a:Int) then 1 else 0)-(if (Jc ws (k:Int)).b=(a:Int) then 1 else 0):=by
 unfold Z1;rw [if_pos hk,if_neg (by omega),show ((U.toNat+a:Nat):Int)-U=(a:Int) by omega]
theorem V5 (m:Nat):Tb.Cols ws.length m (Z1 U ws):=⟨λ s _=>by
 funext r
 unfold Z1
 rw [if_neg (by omega),show ws.length+s-ws.length=s by omega]⟩
theorem Jh4 (ok:BookOk R U ws):Small (U+R).toNat (Z1 U ws) Jcy:=by
 refine ⟨λ ν r _=>?_,λ r _=>by show (0:Int).natAbs<=100;decide⟩
 unfold Z1
 split
 . rename_i h
   have wok:=ok.ways _ (J8 (Xb ν) (by omega))
   split
   . by_cases hr:r<(Jc ws (ν:Int)).g.length
     . have:=wok.small _ (Xo hr)
       rw [Qg,Qd hr]
       show (-(Jc ws (ν:Int)).g[r]).natAbs<=100
       omega
     . rw [Qg,Qy (by omega)]
       show (-(0:Int)).natAbs<=100
       decide
   . split<;>split<;>decide
 . unfold Tb.Vr
   split<;>decide
variable {ks:List Nat}
theorem Jp4 (nd:ks.Nodup) (lt:∀ k∈ks,k<ws.length):Tb.TabOk (U+R).toNat ks.length (Z1 U ws) Jcy (Ja1 R U ws ks):=Tb.Jt3 (V5 _) nd lt
theorem Jom (nd:ks.Nodup) (lt:∀ k∈ks,k<ws.length):Names (U+R).toNat ks.length (ws.length+(U+R).toNat) (Ja1 R U ws ks):=by
 refine Jmu (Jp4 nd lt) (λ i hi=>?_) (λ j hj=>?_)
 . show (Tb.Bj _ _ _ _ _).b i<_
   rw [Tb.Jeb hi];omega
 . have:(Ja1 R U ws ks).f j=ks.getD j 0:=rfl
   rw [this]
   have:=lt _ (Je7 hj)
   omega
theorem Jup (lt:∀ k∈ks,k<ws.length):Fit ws.length (U+R).toNat ks.length (Z1 U ws) ks (Ja1 R U ws ks):=⟨V5 _,lt,rfl,λ g=>Tb.Jrf g⟩
theorem Jrl (nd:ks.Nodup) (lt:∀ k∈ks,k<ws.length):Kept (U+R).toNat ks.length (ws.length+(U+R).toNat) (Z1 U ws) (Ja1 R U ws ks) (Ja1 R U ws ks):=⟨Jp4 nd lt,Jom nd lt,λ _=>rfl⟩
end
theorem Juq {ks:List Nat}(nd:ks.Nodup) {nw:Nat}(lt:∀ k∈ks,k<nw) {F:Nat->Int}(z:∀ i,i<nw->i∉ks->F i=0):Tb.Jn ks.length (λ j=>F (ks.getD j 0))=Tb.Jn nw F:=by
 have e:∀ j,j<ks.length->F (ks.getD j 0)=Tb.Jn nw λ i=>(if ks.getD j 0=i then 1 else 0)*F i:=λ j hj=>by
  rw [Tb.Yd (a:=ks.getD j 0) (lt _ (Je7 hj)) (λ i _ hne=>by rw [if_neg (Qk hne),Xx]),if_pos rfl,Ux]
 rw [Tb.Jl e,Tb.Jay]
 refine Tb.Jl λ i hi=>?_
 rw [Tb.Jjm]
 by_cases h:i∈ks
 . obtain ⟨j,hj⟩:=Ul.mp h
   obtain ⟨jl,je⟩:=Qp.mp hj
   rw [Tb.Yd (a:=j) jl (λ t ht hne=>if_neg λ e=>hne (by
    have e2:ks.getD t 0=ks[t]:=by rw [Qg,Qd ht];rfl
    exact (J5q nd).mp (by rw [<- e2,e,je]))),if_pos (by rw [Qg,hj];rfl),Ux]
 . rw [z i hi h,Xt]
noncomputable abbrev Jm2 (wt ht:List Int):J9h:=.tuple [.tuple (wt.map .int),.tuple (ht.map .int)]
structure SumK (R U:Int) (ws:List Way) (ks:List Nat) (wt ht:List Int):Prop where
 lw:(wt.length:Int)=U
 lh:(ht.length:Int)=R
 nn:∀ x∈wt,0<=x
 bw:∀ x∈wt,x.natAbs<2^8000
 bh:∀ x∈ht,x.natAbs<2^8000
 kept:∀ k∈ks,0<=Bo ws wt ht (k:Int)
section
variable {R U:Int}{ws:List Way}{ks W:List Nat}{T:Tb.Tab}
theorem Jur (ok:BookOk R U ws) {S:Nat->Int}{k:Nat}(hk:k<ws.length) {wt ht:List Int}{g:Int}(lw:(wt.length:Int)=U) (hw:∀ p:Nat,(p:Int)<U->g*wt.getD p 0=S p) (hh:∀ a:Nat,(a:Int)<R->g*ht.getD a 0=S (U.toNat+a)):g*Bo ws wt ht (k:Int)=Tb.Jn (U+R).toNat λ s=>Z1 U ws k s*S s:=by
 have r0:=ok.r0
 have p0:=ok.p0
 have wok:=ok.ways _ (J8 (k:=(k:Int)) (Xb k) (by omega))
 have a0:=wok.a0
 have a1:=wok.a1
 have b0:=wok.b0
 have b1:=wok.b1
 rw [show (U+R).toNat=U.toNat+R.toNat by omega,Jh3]
 have e1:Tb.Jn U.toNat (λ s=>Z1 U ws k s*S s) = -(g*Jc6 wt (Jc ws (k:Int)).g wt.length):=by
  unfold Jc6
  rw [<- Z2,<- Tb.Y8,<- Tb.Z7,show wt.length=U.toNat by omega]
  refine Tb.Jl λ s hs=>?_
  rw [Jm1 hk (by omega),<- hw s (by omega)]
  generalize wt.getD s 0=x
  generalize (Jc ws (k:Int)).g.getD s 0=y
  rw [J5b,<- U7,X8 y,U7,X8 y]
 have e2:Tb.Jn R.toNat (λ i=>Z1 U ws k (U.toNat+i)*S (U.toNat+i))=g*ht.getD (Jc ws (k:Int)).a.toNat 0-g*ht.getD (Jc ws (k:Int)).b.toNat 0:=by
  have e3:∀ i,i<R.toNat->Z1 U ws k (U.toNat+i)*S (U.toNat+i)=(if i=(Jc ws (k:Int)).a.toNat then S (U.toNat+i) else 0) + -(if i=(Jc ws (k:Int)).b.toNat then S (U.toNat+i) else 0):=λ i hi=>by
   rw [Jjq hk (by omega),J63]
   have h1:((Jc ws (k:Int)).a=(i:Int))↔i=(Jc ws (k:Int)).a.toNat:=by omega
   have h2:((Jc ws (k:Int)).b=(i:Int))↔i=(Jc ws (k:Int)).b.toNat:=by omega
   by_cases c1:i=(Jc ws (k:Int)).a.toNat<;>by_cases c2:i=(Jc ws (k:Int)).b.toNat
   . rw [if_pos (h1.mpr c1),if_pos (h2.mpr c2),if_pos c1,if_pos c2];omega
   . rw [if_pos (h1.mpr c1),if_neg (mt h2.mp c2),if_pos c1,if_neg c2];omega
   . rw [if_neg (mt h1.mp c1),if_pos (h2.mpr c2),if_neg c1,if_pos c2];omega
   . rw [if_neg (mt h1.mp c1),if_neg (mt h2.mp c2),if_neg c1,if_neg c2];omega
  rw [Tb.Jl e3,Tb.Z0,Tb.Z7,Tb.Yd (a:=(Jc ws (k:Int)).a.toNat) (by omega) (λ i _ h=>if_neg h),Tb.Yd (a:=(Jc ws (k:Int)).b.toNat) (by omega) (λ i _ h=>if_neg h),if_pos rfl,if_pos rfl,<- hh _ (by omega),<- hh _ (by omega)]
  omega
 rw [e1,e2]
 unfold Bo
 rw [J69,J69]
 omega
theorem Jon (be nw m n:Nat) (h:be=nw+m):(sl T m be W n).drop nw=(Ql m).map λ s=>T.share m n W (nw+s):=by
 subst h
 unfold sl
 rw [<- J37,J8z,List.drop_append_of_le_length (by rw [Qx];exact Qm _),List.drop_eq_nil_of_le (by rw [Qx];exact Qm _),J7q,Qv]
 refine X5 λ s _=>?_
 exact Juh _
end
section
variable {R U:Int}{ws:List Way}{ks W:List Nat}{T:Tb.Tab}
theorem Jan {a b:Nat}(h:a<=b):2^a<=2^b:=J5e (by decide) h
theorem Joo {m n:Nat}(sh:Shape m n T) {j:Nat}(hj:j<n):(T.rise m W j).natAbs<2^4100:=by
 have q0:=sh.q0
 have q1:T.q.natAbs<2^4000:=by
  have:=sh.q1
  have h:((T.q.natAbs:Nat):Int)<((2^4000:Nat):Int):=by
   rw [J36 (by omega)]
   exact_mod_cast this
  exact_mod_cast h
 have mm:=sh.mm
 have s1:(Tb.Jn m λ i=>Tb.ind W (T.b i) (T.e i j)).natAbs<=m*2^4000:=Tb.Jmn λ i hi=>by
  unfold Tb.ind
  split
  . exact Uy (Jmy sh hi (by omega))
  . exact Xz _
 have s2:(Tb.ind W (T.f j) T.q).natAbs<=2^4000:=by
  unfold Tb.ind
  split
  . exact Uy q1
  . exact Xz _
 have s3:m*2^4000<=20*2^4000:=Nat.mul_le_mul_right _ mm
 have s4:21*2^4000<2^4100:=by
  have:(2:Nat)^4100=2^100*2^4000:=by rw [<- Nat.pow_add]
  rw [this]
  exact Nat.mul_lt_mul_of_pos_right (by decide) (J5f _)
 unfold Tb.Tab.rise
 generalize (Tb.Jn m λ i=>Tb.ind W (T.b i) (T.e i j))=a at *
 generalize Tb.ind W (T.f j) T.q=b at *
 generalize 2^4000=c at *
 generalize 2^4100=d at *
 omega
theorem Jfs {m n:Nat}{c:Nat->Tb.Vec}{rhs:Tb.Vec}(sh:Shape m n T) (h:Tb.TabOk m n c rhs T) {ν:Nat}(i:Tb.inN m n T ν):(T.share m n W ν).natAbs<2^4100:=by
 rcases i with ⟨i,hi,rfl⟩ | ⟨j,hj,rfl⟩
 . rw [Tb.Bg h hi]
   unfold Tb.ind
   split
   . have q0:=sh.q0
     have:=sh.q1
     have h:((T.q.natAbs:Nat):Int)<((2^4000:Nat):Int):=by
      rw [J36 (by omega)]
      exact_mod_cast this
     exact Q1 (by exact_mod_cast h) (Jan (by decide))
   . exact J5f _
 . rw [Tb.Jdc h hj,J8v]
   exact Joo sh hj
theorem Jop {m n w:Nat}{c:Nat->Tb.Vec}{rhs:Tb.Vec}(h:Tb.TabOk m n c rhs T) (l:Tb.Last m n [w] T) (i:Tb.inN m n T w):∃ i,i<m/\T.b i=w:=by
 rcases i with h1 | ⟨j,hj,e⟩
 . exact h1
 . have:=l.no j hj
   have q:=h.qpos
   unfold Tb.Tab.rise at this
   rw [Wq (n:=m) (λ i hi=>by unfold Tb.ind;rw [if_neg (by rw [Qs];intro z;exact h.ne i j hi hj (by rw [z,e]))])] at this
   unfold Tb.ind at this
   rw [if_pos (by rw [e];exact Qs.mpr rfl)] at this
   omega
theorem Jz7 {g x:Int}(g0:0<g) (h:0<=x):0<=x/g:=Int.ediv_nonneg h (by omega)
theorem Jjr {g x:Int}{b:Nat}(g0:0<g) (h:x.natAbs<b):(x/g).natAbs<b:=by
 refine J32 ?_ h
 have:=Int.natAbs_ediv_le_natAbs x g
 exact this
noncomputable def shL (R U:Int) (ws:List Way) (n:Nat) (W:List Nat) (T:Tb.Tab):List Int:=(Ql (U+R).toNat).map λ s=>T.share (U+R).toNat n W (ws.length+s)
noncomputable def shQ (R U:Int) (ws:List Way) (n:Nat) (W:List Nat) (T:Tb.Tab):List Int:=(shL R U ws n W T).map λ x=>x/((Zg (shL R U ws n W T):Nat):Int)
structure Told (R U:Int) (ws:List Way) (ks W:List Nat) (T:Tb.Tab):Prop where
 ok:BookOk R U ws
 kept:Kept (U+R).toNat ks.length (ws.length+(U+R).toNat) (Z1 U ws) (Ja1 R U ws ks) T
 nd:ks.Nodup
 lt:∀ k∈ks,k<ws.length
theorem Told.m (t:Told R U ws ks W T):(U+R).toNat<=18:=by have:=t.ok.r1;have:=t.ok.p1;omega
theorem Told.n (t:Told R U ws ks W T):ks.length<=100:=by have:=nodup_le _ _ t.nd t.lt;have:=t.ok.len;omega
theorem Told.shape (t:Told R U ws ks W T):Shape (U+R).toNat ks.length T:=Jcb (Jh4 t.ok) t.kept.ok t.m t.n
theorem Told.fit (t:Told R U ws ks W T):Fit ws.length (U+R).toNat ks.length (Z1 U ws) ks (Ja1 R U ws ks):=Jup t.lt
theorem Told.unit (t:Told R U ws ks W T) {s:Nat}(hs:s<(U+R).toNat):Tb.inN (U+R).toNat ks.length T (ws.length+s):=(t.fit.names t.kept.tot _).mpr (.inl ⟨s,hs,rfl⟩)
theorem Told.way (t:Told R U ws ks W T) {k:Nat}(hk:k∈ks):Tb.inN (U+R).toNat ks.length T k:=(t.fit.names t.kept.tot _).mpr (.inr hk)
theorem Jge {n s:Nat}(hs:s<(U+R).toNat):T.share (U+R).toNat n W (ws.length+s)∈shL R U ws n W T:=Qn.mpr ⟨s,Q6.mpr hs,rfl⟩
theorem Jww {n:Nat}:(shL R U ws n W T).length=(U+R).toNat:=by unfold shL;rw [Qb,Qx]
theorem Jwx {n:Nat}:(shQ R U ws n W T).length=(U+R).toNat:=by unfold shQ;rw [Qb,Jww]
theorem Jp5 {n s:Nat}(hs:s<(U+R).toNat):(shQ R U ws n W T)[s]? = some (T.share (U+R).toNat n W (ws.length+s)/((Zg (shL R U ws n W T):Nat):Int)):=by
 unfold shQ
 rw [Qh]
 conv=>lhs;rw [show shL R U ws n W T=(Ql (U+R).toNat).map (λ s=>T.share (U+R).toNat n W (ws.length+s)) from rfl]
 rw [Qh,Xk hs];rfl
theorem Jus (t:Told R U ws ks W T) (l:Tb.Last (U+R).toNat ks.length W T) (hw:∀ s,s<(U+R).toNat->ws.length+s∉W\/∃ i,i<(U+R).toNat/\T.b i=ws.length+s) (g0:Zg (shL R U ws ks.length W T)≠0) :
 SumK R U ws ks ((shQ R U ws ks.length W T).take U.toNat) ((shQ R U ws ks.length W T).drop U.toNat)/\(∀ k∈ks,k∈W->1<=Bo ws ((shQ R U ws ks.length W T).take U.toNat) ((shQ R U ws ks.length W T).drop U.toNat) (k:Int))/\∀ p:Nat,(p:Int)<U->ws.length+p∈W->1<=((shQ R U ws ks.length W T).take U.toNat).getD p 0:=by
 have r0:=t.ok.r0
 have p0:=t.ok.p0
 have gp:(0:Int)<((Zg (shL R U ws ks.length W T):Nat):Int):=by omega
 have ql:=Jwx (R:=R) (U:=U) (ws:=ws) (n:=ks.length) (W:=W) (T:=T)
 have sm:∀ x∈shQ R U ws ks.length W T,0<=x/\x.natAbs<2^8000:=λ x hx=>by
  obtain ⟨y,hy,rfl⟩:=Qn.mp hx
  obtain ⟨s,hs,rfl⟩:=Qn.mp hy
  have hs:=Q6.mp hs
  exact ⟨Jz7 gp (Tb.Jt5 t.kept.ok l (t.unit hs)),Jjr gp (Q1 (Jfs t.shape t.kept.ok (t.unit hs)) (Jan (by decide)))⟩
 have lw:((((shQ R U ws ks.length W T).take U.toNat).length:Nat):Int)=U:=by rw [J4m,ql];omega
 have gw:∀ p:Nat,(p:Int)<U->((Zg (shL R U ws ks.length W T):Nat):Int)*((shQ R U ws ks.length W T).take U.toNat).getD p 0=T.share (U+R).toNat ks.length W (ws.length+p):=λ p hp=>by
  rw [Qg,List.getElem?_take,if_pos (by omega),Jp5 (by omega),X8]
  exact Jk5 (Jge (by omega))
 have gh:∀ a:Nat,(a:Int)<R->((Zg (shL R U ws ks.length W T):Nat):Int)*((shQ R U ws ks.length W T).drop U.toNat).getD a 0=T.share (U+R).toNat ks.length W (ws.length+(U.toNat+a)):=λ a ha=>by
  rw [Qg,J6e,Jp5 (by omega),X8]
  exact Jk5 (Jge (by omega))
 have fl:∀ k∈ks,Tb.ind W k T.q<=((Zg (shL R U ws ks.length W T):Nat):Int)*Bo ws ((shQ R U ws ks.length W T).take U.toNat) ((shQ R U ws ks.length W T).drop U.toNat) (k:Int):=λ k hk=>by
  rw [Jur t.ok (S:=λ s=>T.share (U+R).toNat ks.length W (ws.length+s)) (t.lt k hk) lw gw gh]
  exact Tb.Jjn (V5 _) t.kept.ok l (λ s hs=>t.unit hs) hw (t.way hk)
 have q0:=t.kept.ok.qpos
 refine ⟨⟨lw,by rw [J3z,ql];omega,λ x hx=>(sm x (J80 hx)).1,λ x hx=>(sm x (J80 hx)).2,λ x hx=>(sm x (List.mem_of_mem_drop hx)).2,λ k hk=>?_⟩,λ k hk kw=>?_,λ p hp pw=>?_⟩
 . have:=fl k hk
   have i0:0<=Tb.ind W k T.q:=by unfold Tb.ind;split<;>omega
   have:=Int.le_trans i0 this
   exact J5g this gp
 . have:=fl k hk
   unfold Tb.ind at this
   rw [if_pos kw] at this
   have:0<((Zg (shL R U ws ks.length W T):Nat):Int)*Bo ws ((shQ R U ws ks.length W T).take U.toNat) ((shQ R U ws ks.length W T).drop U.toNat) (k:Int):=by omega
   exact J5h this gp
 . have e:=gw p hp
   rcases hw p (by omega) with h | ⟨i,hi,eb⟩
   . exact absurd pw h
   . rw [<- eb,Tb.Bg t.kept.ok hi,eb] at e
     unfold Tb.ind at e
     rw [if_pos pw] at e
     have:0<((Zg (shL R U ws ks.length W T):Nat):Int)*((shQ R U ws ks.length W T).take U.toNat).getD p 0:=by omega
     exact J5h this gp
end
section
variable {R U:Int}{ws:List Way}{ks W:List Nat}{T:Tb.Tab}
theorem Jwy (t:Told R U ws ks W T) (l:Tb.Last (U+R).toNat ks.length W T) (hw:∀ s,s<(U+R).toNat->ws.length+s∉W\/∃ i,i<(U+R).toNat/\T.b i=ws.length+s) (h:(∃ k∈ks,k∈W)\/∃ s,s<(U+R).toNat/\ws.length+s∈W):∃ s,s<(U+R).toNat/\T.share (U+R).toNat ks.length W (ws.length+s)≠0:=by
 have q0:=t.kept.ok.qpos
 rcases h with ⟨k,hk,kw⟩ | ⟨s,hs,sw⟩
 . refine J3p λ no=>?_
   have z:∀ s,s<(U+R).toNat->T.share (U+R).toNat ks.length W (ws.length+s)=0:=λ s hs=>J3p λ c=>no ⟨s,hs,c⟩
   have f:=Tb.Jjn (V5 (U:=U) (ws:=ws) _) t.kept.ok l (λ s hs=>t.unit hs) hw (t.way hk)
   rw [Wq λ s hs=>by rw [z s hs,Xt]] at f
   unfold Tb.ind at f
   rw [if_pos kw] at f
   omega
 . refine ⟨s,hs,?_⟩
   rcases hw s hs with h | ⟨i,hi,e⟩
   . exact absurd sw h
   . rw [<- e,Tb.Bg t.kept.ok hi,e]
     unfold Tb.ind
     rw [if_pos sw]
     omega
theorem Jm3 (t:Told R U ws ks W T) {s:Nat}(hs:s<(U+R).toNat) (h:T.share (U+R).toNat ks.length W (ws.length+s)≠0):Zg (shL R U ws ks.length W T)≠0/\((Zg (shL R U ws ks.length W T):Nat):Int)<2^9000:=
 ⟨Jol (Jge hs) h,Jul (Jge hs) h (Q1 (Jfs t.shape t.kept.ok (t.unit hs)) (Jan (by decide)))⟩
structure RoundK (R U:Int) (ws:List Way) (ks:List Nat) (cs:List Int):Prop where
 ro:RoundOk R ws cs
 sub:∀ k:Nat,cs.getD k 0≠0->k∈ks
 gn:∀ p:Nat,(p:Int)<U->0<=(Jbb ws cs p).sum
 bd:∀ c∈cs,c.natAbs<2^8000
 ne:∃ k∈ks,0<cs.getD k 0
noncomputable def drL (ws:List Way) (m:Nat) (T:Tb.Tab) (k:Nat):List Int:=(Ql ws.length).map (T.dir m k)
noncomputable def drQ (ws:List Way) (m:Nat) (T:Tb.Tab) (k:Nat):List Int:=(drL ws m T k).map λ x=>x/((Zg (drL ws m T k):Nat):Int)
theorem Jk7 {m k:Nat}:(drQ ws m T k).length=ws.length:=by unfold drQ drL;rw [Qb,Qb,Qx]
theorem Jp6 {m k i:Nat}(h:i<ws.length):T.dir m k i∈drL ws m T k:=Qn.mpr ⟨i,Q6.mpr h,rfl⟩
theorem Jp7 {m k i:Nat}(h:i<ws.length):(drQ ws m T k)[i]? = some (T.dir m k i/((Zg (drL ws m T k):Nat):Int)):=by
 unfold drQ
 rw [Qh]
 conv=>lhs;rw [show drL ws m T k=(Ql ws.length).map (T.dir m k) from rfl]
 rw [Qh,Xk h];rfl
theorem Jwz {m k i:Nat}(h:i<ws.length):((Zg (drL ws m T k):Nat):Int)*(drQ ws m T k).getD i 0=T.dir m k i:=by
 rw [Qg,Jp7 h,X8]
 exact Jk5 (Jp6 h)
theorem Jm4 (ok:BookOk R U ws) (cs:List Int):∀ i,i<=ws.length->Tb.Jn R.toNat (λ r=>W4 ws cs i (r:Nat))=0
 | 0,_=>Tb.Z8 _
 | i+1,hi=>by
  have wok:=ok.ways _ (J8 (k:=(i:Int)) (Xb i) (by omega))
  have r0:=ok.r0
  have a0:=wok.a0
  have a1:=wok.a1
  have b0:=wok.b0
  have b1:=wok.b1
  have e:∀ r,r<R.toNat->W4 ws cs (i+1) (r:Nat)=W4 ws cs i (r:Nat)+(-(if r=(Jc ws (i:Nat)).a.toNat then cs.getD i 0 else 0)+(if r=(Jc ws (i:Nat)).b.toNat then cs.getD i 0 else 0)):=λ r hr=>by
   rw [W4]
   have h1:((Jc ws (i:Nat)).a=((r:Nat):Int))↔r=(Jc ws (i:Nat)).a.toNat:=by omega
   have h2:((Jc ws (i:Nat)).b=((r:Nat):Int))↔r=(Jc ws (i:Nat)).b.toNat:=by omega
   by_cases c1:r=(Jc ws (i:Nat)).a.toNat<;>by_cases c2:r=(Jc ws (i:Nat)).b.toNat
   . rw [if_pos (h1.mpr c1),if_pos (h2.mpr c2),if_pos c1,if_pos c2];omega
   . rw [if_pos (h1.mpr c1),if_neg (mt h2.mp c2),if_pos c1,if_neg c2];omega
   . rw [if_neg (mt h1.mp c1),if_pos (h2.mpr c2),if_neg c1,if_pos c2];omega
   . rw [if_neg (mt h1.mp c1),if_neg (mt h2.mp c2),if_neg c1,if_neg c2];omega
  rw [Tb.Jl e,Tb.Z0,Jm4 ok cs i (by omega),Tb.Z0,Tb.Z7,Tb.Yd (a:=(Jc ws (i:Nat)).a.toNat) (by omega) (λ r _ h=>if_neg h),Tb.Yd (a:=(Jc ws (i:Nat)).b.toNat) (by omega) (λ r _ h=>if_neg h),if_pos rfl,if_pos rfl]
  omega
theorem Jm5 {n:Nat}{f:Nat->Int}(h:∀ i,i<n->0<=f i) (z:Tb.Jn n f=0) {i:Nat}(hi:i<n):f i=0:=by
 have:=Jcp hi h
 have:=h i hi
 omega
theorem Jjs (t:Told R U ws ks W T) {k:Nat}(hk:k<ks.length) {r:Nat}(hr:r<(U+R).toNat):T.dir (U+R).toNat k (ws.length+r) = -Tb.Jn ws.length λ i=>T.dir (U+R).toNat k i*Z1 U ws i r:=by
 have e:=Tb.Jf9 t.kept.ok hk r hr
 have ze:∀ i,i<ws.length->i∉ks->T.dir (U+R).toNat k i*Z1 U ws i r=0:=λ i hi hn=>by
  have no:¬ Tb.inN (U+R).toNat ks.length T i:=λ z=>by
   rcases (t.fit.names t.kept.tot i).mp z with ⟨s,_,e⟩ | h
   . omega
   . exact hn h
  have:T.dir (U+R).toNat k i=0:=by
   unfold Tb.Tab.dir
   rw [if_neg (λ z=>no (.inr ⟨k,hk,z.symm⟩)),Wq λ j hj=>if_neg λ z=>no (.inl ⟨j,hj,z⟩)]
   rfl
  rw [this,Xx]
 rw [t.kept.tot,t.fit.tot,Juq t.nd t.lt ze,Tb.Yd (a:=r) hr (λ s hs hne=>?_)] at e
 . rw [(V5 (U:=U) (ws:=ws) (U+R).toNat).un r hr] at e
   have:Tb.Vr r r=1:=if_pos rfl
   rw [this] at e
   omega
 . rw [(V5 (U:=U) (ws:=ws) (U+R).toNat).un s hs]
   have:Tb.Vr s r=0:=if_neg (Qk hne)
   rw [this,Xt]
theorem Joq (t:Told R U ws ks W T) {k:Nat}(ry:Tb.Ray (U+R).toNat ks.length W T k):RoundK R U ws ks (drQ ws (U+R).toNat T k)/\(∀ i,i<ws.length->0<T.dir (U+R).toNat k i->1<=(drQ ws (U+R).toNat T k).getD i 0)/\(∀ p:Nat,(p:Int)<U->0<T.dir (U+R).toNat k (ws.length+p)->1<=(Jbb ws (drQ ws (U+R).toNat T k) p).sum)/\∃ ν∈W,Tb.inN (U+R).toNat ks.length T ν/\0<T.dir (U+R).toNat k ν:=by
 have r0:=t.ok.r0
 have p0:=t.ok.p0
 obtain ⟨j,hj,jp⟩:=Jp3 t.fit t.kept.tot t.kept.ok ry
 have jl:=t.lt j hj
 have g0:=Jol (Jp6 (m:=(U+R).toNat) (T:=T) (k:=k) jl) (by omega)
 have gp:(0:Int)<((Zg (drL ws (U+R).toNat T k):Nat):Int):=by omega
 have mul:=λ {i:Nat} (h:i<ws.length)=>Jwz (m:=(U+R).toNat) (T:=T) (k:=k) h
 have dn:∀ i,0<=T.dir (U+R).toNat k i:=λ i=>Tb.Jt6 t.kept.ok ry i
 have no:∀ i,i<ws.length->i∉ks->T.dir (U+R).toNat k i=0:=λ i hi hn=>by
  have no:¬ Tb.inN (U+R).toNat ks.length T i:=λ z=>by
   rcases (t.fit.names t.kept.tot i).mp z with ⟨s,_,e⟩ | h
   . omega
   . exact hn h
  unfold Tb.Tab.dir
  rw [if_neg (λ z=>no (.inr ⟨k,ry.hk,z.symm⟩)),Wq λ j hj=>if_neg λ z=>no (.inl ⟨j,hj,z⟩)]
  rfl
 have purse:∀ p:Nat,(p:Int)<U->T.dir (U+R).toNat k (ws.length+p)=((Zg (drL ws (U+R).toNat T k):Nat):Int)*(Jbb ws (drQ ws (U+R).toNat T k) p).sum:=λ p hp=>by
  rw [Jjs t ry.hk (by omega)]
  unfold Jbb
  rw [<- Z2,<- Tb.Y8,<- Tb.Z7]
  refine Tb.Jl λ i hi=>?_
  rw [Jm1 hi hp,<- mul hi,J4g,Int.neg_neg,U7]
 have room:∀ a:Nat,a<R.toNat->T.dir (U+R).toNat k (ws.length+(U.toNat+a))=((Zg (drL ws (U+R).toNat T k):Nat):Int)*W4 ws (drQ ws (U+R).toNat T k) ws.length (a:Nat):=λ a ha=>by
  rw [Jjs t ry.hk (by omega),Jhg,<- Z2,<- Tb.Y8,<- Tb.Z7]
  refine Tb.Jl λ i hi=>?_
  rw [Jjq hi (by omega),<- mul hi]
  unfold Jb6
  generalize (drQ ws (U+R).toNat T k).getD i 0=x
  generalize (if (Jc ws ((i:Nat):Int)).a=((a:Nat):Int) then (1:Int) else 0)=y
  generalize (if (Jc ws ((i:Nat):Int)).b=((a:Nat):Int) then (1:Int) else 0)=z
  rw [<- J4g,Int.neg_sub,U7]
 have bal:∀ a:Nat,a<R.toNat->W4 ws (drQ ws (U+R).toNat T k) ws.length (a:Nat)=0:=λ a ha=>
  Jm5 (f:=λ a=>W4 ws (drQ ws (U+R).toNat T k) ws.length (a:Nat)) (λ a ha=>J5g (by rw [<- room a ha];exact dn _) gp) (Jm4 t.ok _ _ (Qm _)) ha
 have at0:∀ i,i<ws.length->0<=(drQ ws (U+R).toNat T k).getD i 0:=λ i hi=>J5g (by rw [mul hi];exact dn _) gp
 have ps:∀ i,i<ws.length->0<T.dir (U+R).toNat k i->1<=(drQ ws (U+R).toNat T k).getD i 0:=λ i hi h=>by
  rw [<- mul hi] at h
  exact J5h h gp
 have memi:∀ c∈drQ ws (U+R).toNat T k,∃ i,i<ws.length/\c=(drQ ws (U+R).toNat T k).getD i 0/\c=T.dir (U+R).toNat k i/((Zg (drL ws (U+R).toNat T k):Nat):Int):=λ c hc=>by
  obtain ⟨i,hi⟩:=Ul.mp hc
  have il:=(Qp.mp hi).1
  rw [Jk7] at il
  refine ⟨i,il,by rw [Qg,hi];rfl,?_⟩
  rw [Jp7 il] at hi
  exact (Xj hi).symm
 refine ⟨⟨⟨Jk7,λ c hc=>?_,bal⟩,λ i hi=>?_,λ p hp=>?_,λ c hc=>?_,j,hj,ps j jl jp⟩,ps,λ p hp h=>?_,?_⟩
 . obtain ⟨i,il,e,_⟩:=memi c hc
   rw [e];exact at0 i il
 . refine J3p λ hn=>hi ?_
   by_cases il:i<ws.length
   . have:=mul il
     rw [no i il hn] at this
     rcases J81.mp this with z | z
     . omega
     . exact z
   . rw [Qg,Qy (by rw [Jk7];omega)];rfl
 . exact J5g (by rw [<- purse p hp];exact dn _) gp
 . obtain ⟨i,il,_,e⟩:=memi c hc
   rw [e]
   by_cases h:i∈ks
   . exact Jjr gp (Q1 (Jjp t.shape t.kept.ok ry.hk (t.way h)) (Jan (by decide)))
   . rw [no i il h,Int.zero_ediv];exact J5f _
 . rw [purse p hp] at h
   exact J5h h gp
 . have w:=Tb.Jdb (W:=W) t.kept.ok ry.hk
   have rp:=ry.rise
   rw [<- w] at rp
   have pos:∀ ν,0<Tb.ind W ν (T.dir (U+R).toNat k ν)->ν∈W/\0<T.dir (U+R).toNat k ν:=λ ν h=>by
    unfold Tb.ind at h
    split at h
    . exact ⟨by assumption,h⟩
    . exact absurd h (by decide)
   unfold Tb.Tab.tot at rp
   dsimp only at rp
   by_cases c:0<Tb.Jn (U+R).toNat (λ i=>Tb.ind W (T.b i) (T.dir (U+R).toNat k (T.b i)))
   . obtain ⟨i,hi,hp⟩:=Tb.Vi c
     obtain ⟨a,b⟩:=pos _ hp
     exact ⟨_,a,.inl ⟨i,hi,rfl⟩,b⟩
   . obtain ⟨j,hj,hp⟩:=Tb.Vi (n:=ks.length) (f:=λ j=>Tb.ind W (T.f j) (T.dir (U+R).toNat k (T.f j))) (by omega)
     obtain ⟨a,b⟩:=pos _ hp
     exact ⟨_,a,.inr ⟨j,hj,rfl⟩,b⟩
end
def Jh5:GSp:=λ as n Q=>∃ (R U:Int) (ws:List Way) (ks:List Nat),as=[.d (J0 R U ws),.d (.list (ks.map Jp))]/\BookOk R U ws/\IsRing R ws ks/\Q (.bool true) n
def Jk8 (C:Addr):Sp:=λ vs H Q _=>∃ (ex:List Addr) (R U:Int) (ws:List Way) (ks:List Nat) (bv sv:V),vs=[bv,sv]/\Alc ex H/\Rep ex H (J0 R U ws) bv/\Rep ex H (.list (ks.map Jp)) sv/\BookOk R U ws/\IsRing R ws ks /\
 ∀ H' p fa ba,H p=none->H fa=none->H ba=none->TabH C ex p fa ba (Jir R U ws) (Ja1 R U ws ks) H'->Kp [] H H'->Q (.ref p) H'
section
variable {R U:Int}{ws:List Way}{ks W W':List Nat}{T T':Tb.Tab}{C p fa ba:Addr}{ex:List Addr}{H:Hp}{wv:V}{Q:VK}{E:XK}
theorem Jgf (ok:BookOk R U ws):Jir R U ws=⟨((ws.length:Nat):Int),((ws.length+U.toNat:Nat):Int),((ws.length+(U+R).toNat:Nat):Int)⟩:=by
 have r0:=ok.r0
 have p0:=ok.p0
 unfold Jir
 congr 1<;>omega
theorem Told.zero (ok:BookOk R U ws) (nd:ks.Nodup) (lt:∀ k∈ks,k<ws.length):Told R U ws ks W (Ja1 R U ws ks):=⟨ok,Jrl nd lt,nd,lt⟩
theorem Told.self (t:Told R U ws ks W T):Kept (U+R).toNat ks.length (ws.length+(U+R).toNat) (Z1 U ws) T T:=⟨t.kept.ok,t.kept.nm,λ _=>rfl⟩
theorem Told.fitT (t:Told R U ws ks W T):Fit ws.length (U+R).toNat ks.length (Z1 U ws) ks T:=⟨V5 _,t.lt,rfl,λ g=>by rw [t.kept.tot];exact t.fit.tot g⟩
theorem Told.next (t:Told R U ws ks W T) (k:Kept (U+R).toNat ks.length (ws.length+(U+R).toNat) (Z1 U ws) T T'):Told R U ws ks W' T':=⟨t.ok,⟨k.ok,k.nm,λ g=>by rw [k.tot,t.kept.tot]⟩,t.nd,t.lt⟩
theorem Jrm (t:Told R U ws ks W T) (hT:TabH C ex p fa ba (Jir R U ws) T H) (hw:Rep (p::fa::ba::ex) H (.list (W.map Jp)) wv)
 (qr:∀ H' T' k v,TabH C ex p fa ba (Jir R U ws) T' H'->Told R U ws ks W T'->Tb.Ray (U+R).toNat ks.length W T' k->Kp [p,fa,ba] H H'->Rep ex H' (.tuple ((drQ ws (U+R).toNat T' k).map .int)) v->Q v H')
 (ql:∀ H' T',TabH C ex p fa ba (Jir R U ws) T' H'->Told R U ws ks W T'->Tb.Last (U+R).toNat ks.length W T'->Kp [p,fa,ba] H H'->Q .non H'):Jk3 C [.ref p,wv] H Q E:=by
 rw [Jgf t.ok] at hT
 have wl:=t.ok.len
 have m18:=t.m
 refine ⟨ex,p,fa,ba,ws.length,ws.length+U.toNat,ws.length+(U+R).toNat,(U+R).toNat,ks.length,Z1 U ws,T,W,ks,wv,rfl,hT,hw,Jh4 t.ok,t.m,t.n,by omega,by omega,t.self,t.fitT,λ H' T' k v h1 h2 h3 h4 h5=>?_,λ H' T' h1 h2 h3 h4=>?_⟩
 . refine qr H' T' k v (by rw [Jgf t.ok];exact h1) (t.next h2) h3 h4 ?_
   unfold drQ drL
   rw [Qv]
   exact h5
 . exact ql H' T' (by rw [Jgf t.ok];exact h1) (t.next h2) h3 h4
theorem Jut (t:Told R U ws ks W T) (hT:TabH C ex p fa ba (Jir R U ws) T H) (hw:Rep ex H (.list (W.map Jp)) wv) (wlt:∀ w∈W,w<ws.length+(U+R).toNat) {s:Nat}(hs:s<(U+R).toNat) (hne:T.share (U+R).toNat ks.length W (ws.length+s)≠0)
 (q:∀ H' v,Kp [] H H'->Rep ex H' (Jm2 ((shQ R U ws ks.length W T).take U.toNat) ((shQ R U ws ks.length W T).drop U.toNat)) v->Q v H'):Jj (Ja0 C) [.ref p,wv] H Q E:=by
 have hsz:sizeLine=16777216:=J9n
 have sh:=t.shape
 have wl:=t.ok.len
 have m18:=t.m
 have n100:=t.n
 obtain ⟨g0,g1⟩:=Jm3 t hs hne
 have sl0:(sl T (U+R).toNat (ws.length+(U+R).toNat) W ks.length).drop ws.length=shL R U ws ks.length W T:=Jon _ _ _ _ rfl
 have hT':=hT
 rw [Jgf t.ok] at hT'
 refine Jef (sp:=Ja0 C) (vs:=[wv]) (as:=[.d (.list (W.map Jp))]) hT' (by rw [sh.lf];omega) (by rw [sh.lb];omega) ⟨⟨_,rfl,hw⟩,trivial⟩ (P:=λ d _=>d=Jm2 ((shQ R U ws ks.length W T).take U.toNat) ((shQ R U ws ks.length W T).drop U.toNat)) ⟨T,(U+R).toNat,ks.length,ws.length,ws.length+U.toNat,ws.length+(U+R).toNat,W,rfl,sh,t.kept.nm,wlt,by omega,by omega,by omega,?_,?_,?_⟩ λ d n' v H' hp kp r=>?_
 . rw [sl0];exact g0
 . rw [sl0];exact g1
 . rw [sl0,show ws.length+U.toNat-ws.length=U.toNat by omega]
   rfl
 . subst hp
   exact q H' v kp r
end
structure RdB (R:Int) (ws:List Way) (cs:List Int):Prop where
 ro:RoundOk R ws cs
 bd:∀ c∈cs,c.natAbs<2^8000
 ne:∃ k,0<cs.getD k 0
theorem RoundK.b {R U:Int}{ws:List Way}{ks:List Nat}{cs:List Int}(h:RoundK R U ws ks cs):RdB R ws cs:=⟨h.ro,h.bd,h.ne.imp λ _ h=>h.2⟩
noncomputable def toN (r:List Int):List Nat:=r.map Int.toNat
theorem Jp8 {r:List Int}(h:∀ k∈r,0<=k):(toN r).map Jp=r.map .int:=by
 unfold toN
 rw [Qv]
 refine X5 λ k hk=>?_
 show Qq ((k.toNat:Nat):Int) = .int k
 rw [J3f (h k hk)]
theorem Jz8 {r:List Int}(h:∀ k∈r,0<=k):nI (toN r)=r:=by
 unfold nI toN
 rw [Qv]
 conv=>rhs;rw [<- List.map_id r]
 refine X5 λ k hk=>?_
 exact J3f (h k hk)
noncomputable def evI (ws:List Way):List Int:=(Ql ws.length).map λ i:Nat=>(i:Int)
theorem Jz9 (ws:List Way):(evI ws).Pairwise (· < ·):=by
 unfold evI
 rw [J5c]
 exact J6t.imp λ h=>by exact_mod_cast h
theorem Jk9 {ws:List Way}:∀ k∈evI ws,0<=k/\k<ws.length:=λ k hk=>by
 obtain ⟨i,hi,rfl⟩:=Qn.mp hk
 have:=Q6.mp hi
 omega
def Jbk:GSp:=λ as n Q=>∃ (R U:Int) (ws:List Way) (ks:List Nat) (p:Nat),as=[.d (J0 R U ws),.d (.list (ks.map Jp)),.d (Jp p)]/\BookOk R U ws/\IsRing R ws ks/\(p:Int)<U /\
 (∀ wt ht,SumK R U ws ks wt ht->1<=wt.getD p 0->Q (.tuple [.str "kept",Jm2 wt ht]) n)/\∀ cs,RoundK R U ws ks cs->1<=(Jbb ws cs p).sum->Q (.tuple [.str "raised",.tuple (cs.map .int)]) n
section
variable {R U:Int}{ws:List Way}{ks W:List Nat}{T:Tb.Tab}
theorem Juu (ok:BookOk R U ws) {wt ht cs:List Int}(lw:(wt.length:Int)=U) (ro:RoundOk R ws cs):Tb.Jn ws.length (λ i=>cs.getD i 0*Bo ws wt ht (i:Nat)) = -Tb.Jn U.toNat λ p=>wt.getD p 0*(Jbb ws cs p).sum:=by
 have p0:=ok.p0
 have r0:=ok.r0
 have e:∀ i,i<ws.length->cs.getD i 0*Bo ws wt ht (i:Nat)=Tb.Jn R.toNat (λ r=>ht.getD r 0*(cs.getD i 0*(Jb6 (Jc ws (i:Nat)).a (r:Nat)-Jb6 (Jc ws (i:Nat)).b (r:Nat)))) + -Tb.Jn U.toNat (λ p=>wt.getD p 0*(cs.getD i 0*(Jc ws (i:Nat)).g.getD p 0)):=λ i hi=>by
  have wok:=ok.ways _ (J8 (k:=(i:Int)) (Xb i) (by omega))
  have a0:=wok.a0
  have a1:=wok.a1
  have b0:=wok.b0
  have b1:=wok.b1
  have e1:Tb.Jn R.toNat (λ r=>ht.getD r 0*(cs.getD i 0*(Jb6 (Jc ws (i:Nat)).a (r:Nat)-Jb6 (Jc ws (i:Nat)).b (r:Nat))))=cs.getD i 0*(ht.getD (Jc ws (i:Nat)).a.toNat 0-ht.getD (Jc ws (i:Nat)).b.toNat 0):=by
   have e2:∀ r,r<R.toNat->ht.getD r 0*(cs.getD i 0*(Jb6 (Jc ws (i:Nat)).a (r:Nat)-Jb6 (Jc ws (i:Nat)).b (r:Nat)))=cs.getD i 0*((if r=(Jc ws (i:Nat)).a.toNat then ht.getD r 0 else 0) + -(if r=(Jc ws (i:Nat)).b.toNat then ht.getD r 0 else 0)):=λ r hr=>by
    rw [Up]
    congr 1
    unfold Jb6
    have h1:((Jc ws (i:Nat)).a=((r:Nat):Int))↔r=(Jc ws (i:Nat)).a.toNat:=by omega
    have h2:((Jc ws (i:Nat)).b=((r:Nat):Int))↔r=(Jc ws (i:Nat)).b.toNat:=by omega
    by_cases c1:r=(Jc ws (i:Nat)).a.toNat<;>by_cases c2:r=(Jc ws (i:Nat)).b.toNat
    . rw [if_pos (h1.mpr c1),if_pos (h2.mpr c2),if_pos c1,if_pos c2];omega
    . rw [if_pos (h1.mpr c1),if_neg (mt h2.mp c2),if_pos c1,if_neg c2];omega
    . rw [if_neg (mt h1.mp c1),if_pos (h2.mpr c2),if_neg c1,if_pos c2];omega
    . rw [if_neg (mt h1.mp c1),if_neg (mt h2.mp c2),if_neg c1,if_neg c2];omega
   rw [Tb.Jl e2,Tb.Y8,Tb.Z0,Tb.Z7,Tb.Yd (a:=(Jc ws (i:Nat)).a.toNat) (by omega) (λ r _ h=>if_neg h),Tb.Yd (a:=(Jc ws (i:Nat)).b.toNat) (by omega) (λ r _ h=>if_neg h),if_pos rfl,if_pos rfl]
   rfl
  have e3:Tb.Jn U.toNat (λ p=>wt.getD p 0*(cs.getD i 0*(Jc ws (i:Nat)).g.getD p 0))=cs.getD i 0*Jc6 wt (Jc ws (i:Nat)).g wt.length:=by
   unfold Jc6
   rw [<- Z2,<- Tb.Y8,show wt.length=U.toNat by omega]
   exact Tb.Jl λ p _=>Up _ _ _
  rw [e1,e3]
  unfold Bo
  rw [J69]
  omega
 rw [Tb.Jl e,Tb.Z0,Tb.Z7,Tb.Jay ws.length R.toNat,Tb.Jay ws.length U.toNat]
 have z:Tb.Jn R.toNat (λ r=>Tb.Jn ws.length λ i=>ht.getD r 0*(cs.getD i 0*(Jb6 (Jc ws (i:Nat)).a (r:Nat)-Jb6 (Jc ws (i:Nat)).b (r:Nat))))=0:=Wq λ r hr=>by
  rw [Tb.Y8]
  have h:=ro.bal r hr
  rw [Jhg,<- Z2] at h
  have h2:Tb.Jn ws.length (λ i=>cs.getD i 0*(Jb6 (Jc ws (i:Nat)).a (r:Nat)-Jb6 (Jc ws (i:Nat)).b (r:Nat))) = -Tb.Jn ws.length (λ j=>cs.getD j 0*(Jb6 (Jc ws (j:Nat)).b (r:Nat)-Jb6 (Jc ws (j:Nat)).a (r:Nat))):=by
   rw [<- Tb.Z7]
   refine Tb.Jl λ i _=>?_
   rw [<- J4g,Int.neg_sub]
  rw [h2,h,Int.neg_zero,Xt]
 rw [z,U6]
 congr 1
 refine Tb.Jl λ p _=>?_
 rw [Tb.Y8]
 congr 1
 unfold Jbb
 exact Z2 _ _
theorem Juv {xs ys:List Int}(h:xs.length=ys.length) (i:Nat):(Jcu xs ys).getD i 0=xs.getD i 0+ys.getD i 0:=by
 unfold Jcu
 rw [Qg,Uw,Qg,Qg]
 by_cases c:i<xs.length
 . rw [Qd c,Qd (by omega)];rfl
 . rw [Qy (by omega),Qy (by omega)];rfl
end
theorem Juw (ks:List Nat):ks.map Jp=(nI ks).map .int:=by unfold nI;rw [Qv];rfl
theorem Jw0 (ks:List Nat):U5 (.list (ks.map Jp))=true:=by rw [Juw,U5];exact Jks _
theorem J0a {ks:List Nat}{Q:J9h->Prop}(h1:ks=[]->Q (.bool true)) (h2:ks≠[]->Q (.bool false)):Jsv false (.list (ks.map Jp)) (.list []) Q:=by
 refine ⟨⟨Jw0 ks,rfl,Xi (Nat.min_le_right _ _) (by decide)⟩,?_⟩
 cases ks with
 | nil=>exact h1 rfl
 | cons _ _=>exact h2 (by simp)
theorem J0b (ks:List Nat) (ν:Nat):inD (Jp ν) (ks.map Jp)=decide (ν∈ks):=by
 rw [Juw,Jx4]
 unfold nI
 exact decide_eq_decide.mpr ⟨λ h=>by obtain ⟨k,hk,e⟩:=Qn.mp h;rwa [<- show k = ν by exact_mod_cast e],λ h=>Qn.mpr ⟨ν,h,rfl⟩⟩
theorem Jux (ks:List Nat):(ks.map Jp).all Vv=true:=X3.mpr λ x hx=>by obtain ⟨k,_,rfl⟩:=Qn.mp hx;rfl
structure SumC (R U:Int) (wt ht:List Int):Prop where
 lw:(wt.length:Int)=U
 lh:(ht.length:Int)=R
 nn:∀ x∈wt,0<=x
 bw:∀ x∈wt,x.natAbs<2^8900
 bh:∀ x∈ht,x.natAbs<2^8900
theorem SumK.c {R U:Int}{ws:List Way}{ks:List Nat}{wt ht:List Int}(h:SumK R U ws ks wt ht):SumC R U wt ht:=⟨h.lw,h.lh,h.nn,λ x hx=>Q1 (h.bw x hx) (Jan (by decide)),λ x hx=>Q1 (h.bh x hx) (Jan (by decide))⟩
def Jeh:GSp:=λ as n Q=>∃ (xs gs:List Int),as=[.d (.tuple (xs.map .int)),.d (.tuple (gs.map .int))]/\xs.length=gs.length/\xs.length<=1000/\(∀ x∈xs,x.natAbs<2^9000)/\(∀ x∈gs,x.natAbs<2^9000)/\Q (.int (Jc6 xs gs xs.length)) n
noncomputable instance:Scal Jeh:=⟨λ {as n P} h=>by obtain ⟨a,b,e,h1,h2,h3,h4,q⟩:=h;exact ⟨a,b,e,h1,h2,h3,h4,rfl,q⟩⟩
def Jgg:GSp:=λ as n Q=>∃ (R U:Int) (ws:List Way) (wt ht:List Int) (k:Nat),as=[.d (J0 R U ws),.d (Jm2 wt ht),.d (Jp k)]/\BookOk R U ws/\SumC R U wt ht/\k<ws.length/\Q (.int (Bo ws wt ht (k:Int))) n
noncomputable instance:Scal Jgg:=⟨λ {as n P} h=>by obtain ⟨R,U,ws,wt,ht,k,e,h1,h2,h3,q⟩:=h;exact ⟨R,U,ws,wt,ht,k,e,h1,h2,h3,rfl,q⟩⟩
def Jgh:GSp:=λ as n Q=>∃ (R U:Int) (ws:List Way) (wt ht:List Int) (ks:List Nat),as=[.d (J0 R U ws),.d (Jm2 wt ht),.d (.list (ks.map Jp))]/\BookOk R U ws/\SumC R U wt ht/\(∀ k∈ks,k<ws.length)/\ks.length<=1000/\(∀ k∈ks,0<=Bo ws wt ht (k:Int))/\Q (.bool true) n
noncomputable instance:Scal Jgh:=⟨λ {as n P} h=>by obtain ⟨R,U,ws,wt,ht,k,e,h1,h2,h3,h4,h5,q⟩:=h;exact ⟨R,U,ws,wt,ht,k,e,h1,h2,h3,h4,h5,rfl,q⟩⟩
theorem Jp9:∀ (xs gs:List Int),xs.length=gs.length->((xs.zip gs).map λ p=>p.1*p.2).sum=Jc6 xs gs xs.length
 | [],[],_=>rfl
 | [],_::_,h=>by cases h
 | _::_,[],h=>by cases h
 | x::xs,g::gs,h=>by
  rw [J49,Qz,J82,Jp9 xs gs (by simpa using h)]
  unfold Jc6
  rw [Ub,J8b,Qz,J82,Qv]
  rfl
abbrev Ans:=Sum (List Int×List Int) (List Int)
noncomputable def Jor:Ans->J9h
 | .inl s=>Jm2 s.1 s.2
 | .inr c=>.tuple (c.map .int)
noncomputable def Jrn:Ans->Bool
 | .inl _=>true
 | .inr _=>false
section
variable {R U:Int}{ws:List Way}{ks L:List Nat}
noncomputable def Jei (as:List Ans):List (List Int):=as.filterMap λ a=>match a with | .inl _=>none | .inr c=>some c
theorem Jla:∀ as:List Ans,((as.filter λ a=>!Jrn a).map Jor)=(Jei as).map λ c=>Ud (c.map .int)
 | []=>rfl
 | .inr c::as=>by
  have h:=Jla as
  have e1:(X9 c::as:List Ans).filter (λ a=>!Jrn a) = .inr c::as.filter (λ a=>!Jrn a):=J40 rfl
  have e2:Jei (.inr c::as)=c::Jei as:=rfl
  rw [e1,e2,Qz,Qz,h]
  rfl
 | .inl s::as=>by
  have h:=Jla as
  have e1:(Xh s::as:List Ans).filter (λ a=>!Jrn a)=as.filter (λ a=>!Jrn a):=J41 Xe
  have e2:Jei (.inl s::as)=Jei as:=rfl
  rw [e1,e2,h]
theorem Jw1 {as:List Ans}{c:List Int}:c∈Jei as↔.inr c∈as:=by
 unfold Jei
 rw [J5v]
 constructor
 . rintro ⟨a,ha,e⟩
   cases a with
   | inl s'=>cases e
   | inr c=>cases e;exact ha
 . intro h;exact ⟨_,h,rfl⟩
end
noncomputable def krW:Ans->Str
 | .inl _=>"kept"
 | .inr _=>"raised"
noncomputable def krD (a:Ans):J9h:=.tuple [.str (krW a),Jor a]
def J0c (R U:Int) (ws:List Way) (ks:List Nat) (p:Nat):Ans->Prop
 | .inl s=>SumK R U ws ks s.1 s.2/\1<=s.1.getD p 0
 | .inr c=>RoundK R U ws ks c/\1<=(Jbb ws c p).sum
structure KrAll (R U:Int) (ws:List Way) (ks:List Nat) (as:List Ans):Prop where
 len:(as.length:Int)=U
 ok:∀ (p:Nat) (a:Ans),as[p]? = some a->J0c R U ws ks p a
noncomputable def Juy (ws:List Way) (ht:List Int) (ks:List Nat):List Int:=ks.map λ k:Nat=>ht.getD (Jc ws (k:Int)).a.toNat 0
def Jej:GSp:=λ as n Q=>∃ (R U:Int) (wt ht:List Int) (s:St'),as=[.d (Jm2 wt ht),.d (stD s)]/\SumC R U wt ht/\U<=6/\(0<=s.1/\s.1<R)/\(s.2.length:Int)=U/\(∀ x∈s.2,x.natAbs<2^9000)/\Q (.int (V3 wt ht s.1 s.2)) n
noncomputable instance:Scal Jej:=⟨λ {as n P} h=>by obtain ⟨R,U,wt,ht,s,e,h1,h2,h3,h4,h5,q⟩:=h;exact ⟨R,U,wt,ht,s,e,h1,h2,h3,h4,h5,rfl,q⟩⟩
def Je8:GSn:=λ as n Q=>∃ (R U:Int) (ws:List Way) (wt ht:List Int) (ks:List Nat),as=[.d (J0 R U ws),.d (.list (ks.map Jp)),.d (Jm2 wt ht)]/\BookOk R U ws/\(ht.length:Int)=R/\(∀ k∈ks,k<ws.length)/\ks.length<=1000/\Q ((Juy ws ht ks).map .int) n
def Jcq:GSp:=λ as n Q=>∃ (R U:Int) (ws:List Way) (ks:List Nat) (an:List Ans),as=[.d (J0 R U ws),.d (.list (ks.map Jp)),.d (.list (an.map krD))]/\BookOk R U ws/\IsRing R ws ks/\KrAll R U ws ks an/\Q (.bool true) n
noncomputable instance:Scal Jcq:=⟨λ {as n P} h=>by obtain ⟨R,U,ws,ks,an,e,h1,h2,h3,q⟩:=h;exact ⟨R,U,ws,ks,an,e,h1,h2,h3,rfl,q⟩⟩
def Jh6:GSp:=λ as n Q=>∃ (R U:Int) (ws:List Way) (ks:List Nat) (an:List Ans),as=[.tape,.d (J0 R U ws),.d (.list (ks.map Jp)),.d (.list (an.map krD))]/\BookOk R U ws/\IsRing R ws ks/\ks≠[]/\KrAll R U ws ks an/\n<2^36/\∀ m:Nat,m<=n+200->Q (.bool true) m
def Jlb:GSp:=λ as n Q=>∃ (xs:List J9h),as=[.d (.tuple xs),.d (.int (xs.length:Int))]/\Q (.bool true) n
noncomputable instance:Scal Jlb:=⟨λ {as n P} h=>by obtain ⟨xs,e,q⟩:=h;exact ⟨xs,e,rfl,q⟩⟩
def Jgi:GSp:=λ as n Q=>∃ (cs:List Int),as=[.d (.tuple (cs.map .int)),.d (.int (cs.length:Int))]/\(∀ c∈cs,0<=c)/\cs.length<=1000/\Q (.bool true) n
noncomputable instance:Scal Jgi:=⟨λ {as n P} h=>by obtain ⟨xs,e,h1,h2,q⟩:=h;exact ⟨xs,e,h1,h2,rfl,q⟩⟩
def Jlc:GSp:=λ as n Q=>∃ (R U:Int) (ws:List Way) (cs:List Int),as=[.d (J0 R U ws),.d (.tuple (cs.map .int))]/\BookOk R U ws/\RoundOk R ws cs/\Q (.bool true) n
noncomputable instance:Scal Jlc:=⟨λ {as n P} h=>by obtain ⟨R,U,ws,cs,e,h1,h2,q⟩:=h;exact ⟨R,U,ws,cs,e,h1,h2,rfl,q⟩⟩
def Jqa:GSp:=λ as n Q=>∃ (R U:Int) (ws:List Way) (cs:List Int),as=[.d (J0 R U ws),.d (.tuple (cs.map .int))]/\BookOk R U ws/\RdB R ws cs/\Q (.bool true) n
noncomputable instance:Scal Jqa:=⟨λ {as n P} h=>by obtain ⟨R,U,ws,cs,e,h1,h2,q⟩:=h;exact ⟨R,U,ws,cs,e,h1,h2,rfl,q⟩⟩
theorem Juz:decide (("kept":Str) = "kept")=true:=decide_eq_true rfl
theorem Ju0:decide (("raised":Str) = "kept")=false:=by decide +kernel
theorem J13:decide (("kept":Str) = "raised")=false:=by decide +kernel
theorem J14:decide (("raised":Str) = "raised")=true:=decide_eq_true rfl
section
variable {R U:Int}{ws:List Way}{ks:List Nat}{an:List Ans}
theorem Jro (ok:BookOk R U ws) {wt ht cs:List Int}(lw:(wt.length:Int)=U) (nn:∀ x∈wt,0<=x) (kept:∀ k∈ks,0<=Bo ws wt ht (k:Int)) (ro:RoundOk R ws cs) (sub:∀ k:Nat,cs.getD k 0≠0->k∈ks) (gn:∀ p:Nat,(p:Int)<U->0<=(Jbb ws cs p).sum) {p:Nat}(hp:(p:Int)<U) (h1:0<wt.getD p 0):(Jbb ws cs p).sum=0:=by
 have p0:=ok.p0
 have cn:∀ i,0<=cs.getD i 0:=λ i=>Jb7 ro.nn i
 have tn:∀ i,i<ws.length->0<=cs.getD i 0*Bo ws wt ht (i:Nat):=λ i hi=>by
  by_cases z:cs.getD i 0=0
  . rw [z,Xx];exact J25 _
  . exact J7a (cn i) (kept i (sub i z))
 have m:=Juu (ht:=ht) ok lw ro
 have wn:∀ p,p<U.toNat->0<=wt.getD p 0*(Jbb ws cs p).sum:=λ p hp=>J7a (Jb7 nn p) (gn p (by omega))
 have s1:=Jbj tn
 have s2:=Jbj wn
 have z:=Jm5 wn (by omega) (show p<U.toNat by omega)
 rcases J81.mp z with h | h
 . omega
 . exact h
theorem Jw2 {es:List (Nat×Nat)}{a b:Nat}(h:Rt es a b):a=b\/∃ z,(a,z)∈es:=by
 induction h with
 | refl=>exact .inl rfl
 | step _ e ih=>
  rcases ih with h | h
  . exact .inr ⟨_,h▸e⟩
  . exact .inr h
theorem Jw3 (ok:BookOk R U ws) (rg:IsRing R ws ks) {k:Nat}(hk:k∈ks):∃ j∈ks,(Jc ws (j:Int)).a=(Jc ws (k:Int)).b:=by
 have wk:∀ j∈ks,0<=(Jc ws (j:Int)).a/\(Jc ws (j:Int)).a<R/\0<=(Jc ws (j:Int)).b/\(Jc ws (j:Int)).b<R:=λ j hj=>by
  have:=rg.lt j hj
  have wok:=ok.ways _ (J8 (k:=(j:Int)) (Xb j) (by omega))
  exact ⟨wok.a0,wok.a1,wok.b0,wok.b1⟩
 have r0:=ok.r0
 have hr:∀ e∈Ym ws (nI ks),e.1<R.toNat/\e.2<R.toNat:=λ e he=>by
  obtain ⟨x,hx,rfl⟩:=Qn.mp he
  obtain ⟨j,hj,rfl⟩:=Qn.mp hx
  have:=wk j hj
  exact ⟨by omega,by omega⟩
 have hm:nI ks∈Z6 R.toNat ws (nI ks):=by rw [rg.one];exact Qs.mpr rfl
 have kk:((k:Nat):Int)∈nI ks:=Qn.mpr ⟨k,hk,rfl⟩
 have h1:=wk k hk
 rcases Jw2 (Jhj hr hm kk).2.1 with h | ⟨z,hz⟩
 . exact ⟨k,hk,by omega⟩
 . obtain ⟨x,hx,e⟩:=Qn.mp hz
   obtain ⟨j,hj,rfl⟩:=Qn.mp hx
   have h2:=wk j hj
   have e1:=congrArg Prod.fst e
   dsimp only at e1
   exact ⟨j,hj,by omega⟩
structure WalkP (U:Int) (ws:List Way) (ks:List Nat) (an:List Ans) (s0 s:St'):Prop where
 len:(s.2.length:Int)=U
 room:∃ j∈ks,(Jc ws (j:Int)).a=s.1
 nn:∀ x∈s.2,0<=x
 low:∀ (p:Nat) (wt ht:List Int),an[p]? = some (.inl (wt,ht))->V3 wt ht s.1 s.2<=V3 wt ht s0.1 s0.2
theorem Jh7 {s:St'}{k:Int}(h:k∈Jd5 ws s):∃ i:Nat,k=(i:Int)/\i<ws.length/\(Jc ws (i:Int)).a=s.1/\∀ x∈Jcu s.2 (Jc ws (i:Int)).g,0<=x:=by
 obtain ⟨i,hi,rfl⟩:=Qn.mp h
 obtain ⟨h1,h2⟩:=Xm.mp hi
 have h2:=Bool.and_eq_true_iff.mp h2
 exact ⟨i,rfl,Q6.mp h1,of_decide_eq_true h2.1,λ x hx=>of_decide_eq_true (X3.mp h2.2 x hx)⟩
theorem WalkP.next (ok:BookOk R U ws) (rg:IsRing R ws ks) (ka:KrAll R U ws ks an) {s0 s:St'}(h:WalkP U ws ks an s0 s) {k:Nat}(hk:k∈ks) (hc:((k:Nat):Int)∈Jd5 ws s):WalkP U ws ks an s0 (Jzt ws s (k:Int)):=by
 obtain ⟨i,e,hi,ha,hp⟩:=Jh7 hc
 have e:i=k:=by omega
 subst e
 have wok:=ok.ways _ (J8 (k:=(i:Int)) (Xb i) (by omega))
 have gl:=wok.len
 have hl:=h.len
 have l2:s.2.length=(Jc ws (i:Int)).g.length:=by omega
 refine ⟨by show ((Jcu s.2 _).length:Int)=U;rw [Jlz];omega,Jw3 ok rg hk,hp,λ p wt ht hpa=>?_⟩
 have old:=h.low p wt ht hpa
 have fl:0<=Bo ws wt ht (i:Int):=(ka.ok p _ hpa).1.kept i hk
 refine Int.le_trans ?_ old
 show V3 wt ht (Jc ws (i:Int)).b (Jcu s.2 (Jc ws (i:Int)).g)<=_
 unfold V3
 unfold Bo at fl
 have e:Jc6 wt (Jcu s.2 (Jc ws (i:Int)).g) wt.length=Jc6 wt s.2 wt.length+Jc6 wt (Jc ws (i:Int)).g wt.length:=by
  unfold Jc6
  rw [<- Z2,<- Z2,<- Z2,<- Tb.Z0]
  exact Tb.Jl λ i _=>by rw [Juv l2,J3o]
 rw [e,<- ha]
 omega
theorem WalkP.le {s0 s:St'}(h:WalkP U ws ks an s0 s) {p:Nat}{wt ht:List Int}(hp:an[p]? = some (.inl (wt,ht))) (sk:SumK R U ws ks wt ht) (h1:1<=wt.getD p 0) {m:Int}(hm:∀ x∈Juy ws ht ks,m<=x):s.2.getD p 0<=V3 wt ht s0.1 s0.2-m:=by
 have old:=h.low p wt ht hp
 obtain ⟨j,hj,ej⟩:=h.room
 have hmj:=hm _ (Qn.mpr ⟨j,hj,rfl⟩)
 rw [ej] at hmj
 have pl:p<wt.length:=by
  rcases X1 p wt.length with z | z
  . exact z
  . rw [Qg,Qy z] at h1
    exact absurd h1 (by decide)
 unfold V3 at old
 have d:wt.getD p 0*s.2.getD p 0<=Jc6 wt s.2 wt.length:=by
  unfold Jc6
  rw [<- Z2]
  exact Jcp (f:=λ i=>wt.getD i 0*s.2.getD i 0) pl λ i _=>J7a (Jb7 sk.nn i) (Jb7 h.nn i)
 have d2:s.2.getD p 0<=wt.getD p 0*s.2.getD p 0:=by
  have:=Int.mul_le_mul_of_nonneg_right h1 (Jb7 h.nn p)
  omega
 have eo:V3 wt ht s0.1 s0.2=V3 wt ht s0.1 s0.2:=rfl
 unfold V3
 omega
theorem Jw4 (ok:BookOk R U ws) {cs:List Int}{i:Nat}(hi:i<ws.length):fl R.toNat (putF (putF (λ r=>W4 ws cs i (r:Nat)) (Jc ws (i:Int)).a.toNat (W4 ws cs i ((Jc ws (i:Int)).a.toNat:Nat)-cs.getD i 0)) (Jc ws (i:Int)).b.toNat (putF (λ r=>W4 ws cs i (r:Nat)) (Jc ws (i:Int)).a.toNat (W4 ws cs i ((Jc ws (i:Int)).a.toNat:Nat)-cs.getD i 0) (Jc ws (i:Int)).b.toNat+cs.getD i 0))=fl R.toNat λ r=>W4 ws cs (i+1) (r:Nat):=by
 have wok:=ok.ways _ (J8 (k:=(i:Int)) (Xb i) (by omega))
 have a0:=wok.a0
 have b0:=wok.b0
 refine Js0 λ r hr=>?_
 unfold putF
 dsimp only
 rw [W4]
 have h1:((Jc ws (i:Nat)).a=((r:Nat):Int))↔r=(Jc ws (i:Nat)).a.toNat:=by omega
 have h2:((Jc ws (i:Nat)).b=((r:Nat):Int))↔r=(Jc ws (i:Nat)).b.toNat:=by omega
 by_cases c2:r=(Jc ws (i:Nat)).b.toNat
 . rw [if_pos c2,if_pos (h2.mpr c2)]
   by_cases c1:r=(Jc ws (i:Nat)).a.toNat
   . rw [if_pos (h1.mpr c1),if_pos (by rw [<- c2,<- c1]),<- c1]
   . rw [if_neg (mt h1.mp c1),if_neg (by rw [<- c2];exact c1),<- c2];omega
 . rw [if_neg c2,if_neg (mt h2.mp c2)]
   by_cases c1:r=(Jc ws (i:Nat)).a.toNat
   . rw [if_pos (h1.mpr c1),if_pos c1,<- c1];omega
   . rw [if_neg (mt h1.mp c1),if_neg c1];omega
def Ju1 (ws:List Way) (ks:List Nat) (s0:St'):Ans->J9h->Prop
 | .inl s,d=>∃ m:Int,(∀ x∈Juy ws s.2 ks,m<=x)/\d = .int (V3 s.1 s.2 s0.1 s0.2-m)
 | .inr _,d=>d = .none
structure MostI (ws:List Way) (ks:List Nat) (s0:St') (an:List Ans) (i:Nat) (ds:List J9h):Prop where
 len:ds.length=i
 ok:∀ (p:Nat) (a:Ans) (d:J9h),an[p]? = some a->ds[p]? = some d->Ju1 ws ks s0 a d
theorem MostI.next {s0:St'}{i:Nat}{ds:List J9h}(h:MostI ws ks s0 an i ds) {a:Ans}(ha:an[i]? = some a) {d:J9h}(hd:Ju1 ws ks s0 a d):MostI ws ks s0 an (i+1) (ds++[d]):=by
 have hl:=h.len
 refine ⟨by rw [Q7,hl];rfl,λ p b e h1 h2=>?_⟩
 rcases X1 p i with z | z
 . rw [Uo (by omega)] at h2
   exact h.ok p b e h1 h2
 . have pl:=(Qp.mp h2).1
   rw [Q7] at pl
   simp at pl
   have e0:p=i:=by omega
   subst e0
   rw [U2 (by omega),hl,J4d] at h2
   cases h2
   rw [ha] at h1
   cases h1
   exact hd
end
theorem Jqb {P:Int->Prop}:∀ {ys:List J9h},(∀ y∈ys,∃ i:Int,y = .int i/\P i)->∃ gs:List Int,ys=gs.map .int/\∀ g∈gs,P g
 | [],_=>⟨[],rfl,λ _ h=>by cases h⟩
 | y::ys,h=>by
  obtain ⟨i,rfl,p⟩:=h y Qi
  obtain ⟨gs,rfl,q⟩:=Jqb (ys:=ys) λ z hz=>h z (Qj _ hz)
  refine ⟨i::gs,rfl,λ g hg=>?_⟩
  rcases Qf.mp hg with rfl | hg
  . exact p
  . exact q g hg
theorem Ju2 (ds:List J9h) (x y:J9h):(ds++[x]).set ds.length y=ds++[y]:=by
 rw [J8i _ _ (Qm _),J4d];rfl
theorem Ju3 (ds:List J9h) (x:J9h):ixN (ds++[x]).length (-1)=some ds.length:=by
 have e:(ds++[x]).length=ds.length+1:=by simp
 rw [e]
 unfold ixN
 rw [if_neg (by omega),if_pos (by omega)]
 congr 1
 omega
theorem Jqc:∀ {xs ys:List J9h}{P:J9h->Ans->Prop},Jzh (λ x y=>∃ a:Ans,y=krD a/\P x a) xs ys->∃ an:List Ans,ys=an.map krD/\an.length=xs.length/\∀ (i:Nat) (x:J9h) (a:Ans),xs[i]? = some x->an[i]? = some a->P x a
 | [],[],_,_=>⟨[],rfl,rfl,λ i k a h=>by simp at h⟩
 | x::xs,y::ys,P,h=>by
  obtain ⟨⟨a,rfl,p⟩,h2⟩:=h
  obtain ⟨an,rfl,hl,hp⟩:=Jqc h2
  refine ⟨a::an,rfl,by simp [hl],λ i j b h3 h4=>?_⟩
  cases i with
  | zero=>cases h3;cases h4;exact p
  | succ i=>exact hp i j b h3 h4
 | [],_::_,_,h=>h.elim
 | _::_,[],_,h=>h.elim
end My
set_option synthInstance.maxSize 100000
set_option synthInstance.maxHeartbeats 4000000
namespace My
open L2
noncomputable def top (i:Nat):Stmt:=J9f.main.body.getD i (.Pass ⟨0,0,0,0⟩)
noncomputable def Jfz (i j:Nat):Stmt:=(Jv8 (top i)).getD j (.Pass ⟨0,0,0,0⟩)
noncomputable abbrev Jdd:Stmt:=top 7
noncomputable abbrev Jbl:Stmt:=top 8
noncomputable abbrev Jao:Stmt:=top 9
noncomputable abbrev Bc:Stmt:=top 10
noncomputable abbrev Je9:Stmt:=top 11
noncomputable abbrev Jek:Stmt:=top 12
noncomputable abbrev Jbm:Stmt:=top 13
noncomputable abbrev Jel:Stmt:=top 14
noncomputable abbrev Jh8:Stmt:=top 15
noncomputable abbrev Zk:Stmt:=top 17
noncomputable abbrev Jbn:Stmt:=top 18
noncomputable abbrev V6:Stmt:=top 20
noncomputable abbrev Wg:Stmt:=top 21
noncomputable abbrev Vf:Stmt:=top 23
noncomputable abbrev Za:Stmt:=Jfz 24 0
noncomputable abbrev Wh:Stmt:=Jfz 24 1
noncomputable abbrev W2:Stmt:=Jfz 24 2
noncomputable abbrev Wr:Stmt:=Jfz 24 3
noncomputable abbrev Y7:Stmt:=Jfz 24 4
noncomputable abbrev Ws:Stmt:=Jfz 24 5
noncomputable abbrev Wt:Stmt:=Jfz 24 6
noncomputable abbrev Vj:Stmt:=Jfz 24 7
noncomputable abbrev W7:Stmt:=Jfz 24 8
noncomputable abbrev Bk:Stmt:=Jfz 24 9
noncomputable abbrev Vw:Stmt:=Jfz 24 10
noncomputable abbrev Bl:Stmt:=Jfz 24 11
noncomputable abbrev Ja2:Stmt:=top 26
noncomputable abbrev Jbo:Stmt:=top 27
noncomputable abbrev V7:Stmt:=top 29
noncomputable abbrev Jap:Stmt:=top 31
noncomputable abbrev Jde:Stmt:=top 32
noncomputable abbrev Vx:Stmt:=top 33
noncomputable abbrev Jcr:Stmt:=top 35
noncomputable abbrev Jld:Stmt:=top 36
noncomputable abbrev Jos:Stmt:=top 37
noncomputable abbrev Jcs:Stmt:=top 38
noncomputable abbrev Jdf:Stmt:=top 40
noncomputable abbrev Jdg:Stmt:=top 41
noncomputable abbrev Jdh:Stmt:=top 42
noncomputable abbrev Jaf:Stmt:=top 43
noncomputable abbrev Br:Stmt:=top 44
noncomputable abbrev Jbp:Stmt:=top 45
noncomputable abbrev Bd:Stmt:=top 46
noncomputable abbrev Z3:Stmt:=top 47
noncomputable abbrev Z4:Stmt:=top 48
noncomputable abbrev Jcz:Stmt:=top 49
structure Txt (mg:Str->Option J9g):Prop where
 b_isinstance:mg "isinstance" = none
 b_int:mg "int" = none
 b_bool:mg "bool" = none
 b_str:mg "str" = none
 b_tuple:mg "tuple" = none
 b_len:mg "len" = none
 b_all:mg "all" = none
 b_sum:mg "sum" = none
 b_range:mg "range" = none
 b_list:mg "list" = none
 b_zip:mg "zip" = none
 b_enumerate:mg "enumerate" = none
 b_min:mg "min" = none
 b_max:mg "max" = none
 b_abs:mg "abs" = none
 b_any:mg "any" = none
section
variable {P:J9l}{w:J9k}{K:Qc}{mg:Str->Option J9g}{base:Heap}
theorem Jm6:FnScope ["_law_script"] ["_law_script"] (Je Jdf):=⟨rfl,rfl,rfl,by decide +kernel,rfl,by decide +kernel,by decide +kernel⟩
theorem Jm7 (T:Txt mg) (D:Def K mg "_law_tape" Jdf ["_law_script"]):Cal P w K mg base "_law_tape" 1 ["_law_script"] (Jj4 K):=by
 refine D.cal λ f fd F=>F.ok Jm6 (λ vs H Q E h=>?_) (λ cdv A outer s H vs Q E hr h=>?_)
 . obtain ⟨a,ns,rfl,_⟩:=h
   rfl
 obtain ⟨a,ns,rfl,hS,hlen,q⟩:=h
 refine ⟨_,(@Jg _ _ _ (@Jr _ _ _ _ (@PEs.out _ _ _ (Y9 (Wo (J7 (Ya Wx rfl T.b_list J90 (Y4 (Jat Jci (pv 0) Jcg (Jch Ji)) Jd))) (J3 Y2 (J3 Y2 J5))))))),?_⟩
 obtain ⟨ms,ems,lms⟩:=Jqr ns none (some 63)
 refine ⟨_,rfl,_,rfl,a,_,rfl,hS,λ l1 hl1=>?_⟩
 rw [ems]
 refine ⟨l1,_,rfl,.inl (SqL.of Jh),λ l2 hl2=>⟨Jbz (Xl rfl),λ p hp=>?_⟩⟩
 have n1:l2≠l1:=λ z=>by rw [z,Jh] at hl2;cases hl2
 have n2:p≠l2:=λ z=>by rw [z,Jh] at hp;cases hp
 have n3:p≠l1:=λ z=>by rw [z,Jf (Qk n1),Jh] at hp;cases hp
 rw [Jf n1] at hl2
 rw [Jf n2,Jf n3] at hp
 refine q p l2 _ (λ b o e _=>?_) hp hl2 ⟨ms,0,0,Jh,by rw [Jf (Qk n2),Jh],by omega,by decide,by decide⟩
 rw [Jf (Jq e hp),Jf (Jq e hl2),Jf (Jq e hl1)];exact e
theorem Wu:FnScope ["_law_tape_here","_law_many","_law_digit","_law_at","_law_cell","_law_mixed"] ["_law_tape_here","_law_many"] (Je Jdg):=⟨rfl,rfl,rfl,by decide +kernel,rfl,by decide +kernel,by decide +kernel⟩
theorem Jm8 (T:Txt mg) (D:Def K mg "_law_draw" Jdg ["_law_tape_here","_law_many"]):Cal P w K mg base "_law_draw" 1 ["_law_tape_here","_law_many"] Jn1:=by
 refine D.cal λ f fd F=>F.ok Wu (λ vs H Q E h=>?_) (λ cdv A outer s H vs Q E hr h=>?_)
 . obtain ⟨p,c,n,m,rfl,_⟩:=h
   rfl
 obtain ⟨p,c,n,m,rfl,J,hn,h0,h1,q⟩:=h
 refine ⟨_,(@Jb _ _ _ _ _ (Z5 (Yb Jfg (Jo Js (pv 0) Ji (λ _ _=>rfl)) Ji (J6 _)) (@Jb _ _ _ _ _ (Jz (i:=2) Wu.nd rfl (Qa rfl) (Jv Bu (Jo Js (pv 0) Ji (λ _ _=>rfl)) (pv 1)))
  (@Jb _ _ _ _ _ (Ye (Jv Jbx (Jo Js (pv 0) Ji (λ _ _=>rfl)) (pv 1)) (Z9 (pv 0) Ji Yr (λ v=>V2 _ _ _ _ _ _ v)))
  (@Jg _ _ _ (@Jr _ _ _ _ (pv 2))))) Yj)
  (@Jb _ _ _ _ _ (Jz (i:=3) Wu.nd rfl (Qa rfl) (Jo Js (pv 0) Ji (λ _ _=>rfl)))
  (@Jb _ _ _ _ _ (Ye (Jv Wa (pv 3) Ji) (Z9 (pv 0) Ji Yr (λ v=>V2 _ _ _ _ _ _ v)))
  (@Jb _ _ _ _ _ (Jz (i:=4) Wu.nd rfl (Qa rfl) Ji)
  (@Jb _ _ _ _ _ (Z5 (Yb Jfg (Jw Yh rfl T.b_len Uf (Y4 (Jo Js (pv 0) Ji (λ _ _=>rfl)) Jd)) Ji (J6 _)) (@Jg _ _ _ (Jz (i:=4) Wu.nd rfl (Qa rfl) (Jo Js (Jo Js (pv 0) Ji (λ _ _=>rfl)) (Jv Bu (pv 3) (Jw Yh rfl T.b_len Uf (Y4 (Jo Js (pv 0) Ji (λ _ _=>rfl)) Jd))) (λ _ _=>rfl)))) Yj)
  (@Jb _ _ _ _ _ (Z5 (PW.pt (Jc1 (Yb Jlm (pv 3) (Jw Yh rfl T.b_len Uf (Y4 (Jo Js (pv 0) Ji (λ _ _=>rfl)) Jd)) (J6 _)) (Ja4 (Yb Jo4 (pv 4) (Jv Jyo Ji Ji) (J6 _))))) (@Jb _ _ _ _ _ (Ye (Jv Jbx (pv 4) (pv 1)) (Z9 (pv 0) Ji Yr (λ v=>V2 _ _ _ _ _ _ v)))
  (@Jg _ _ _ (@Jr _ _ _ _ (Jv Bu (pv 4) (pv 1))))) Yj)
  (@Jb _ _ _ _ _ (Jz (i:=5) Wu.nd rfl (Qa rfl) (Jv Bu (Jv Jc3 (Jv Wa (Jv Bu (pv 4) Ji) Ji) (Jv Wa (Jv Wa (Jv Jc3 (Jv Jc3 Ji (pv 3)) (pv 3)) (Jv Jc3 Ji (pv 3))) Ji)) Ji))
  (@Jb _ _ _ _ _ (Jz (i:=5) Wu.nd rfl (Qa rfl) (Jv Bu (Jv Wa (Jv Wa (Jv Jc3 (pv 5) (pv 5)) (Jv Jc3 Ji (pv 3))) (Jv Bu (pv 4) Ji)) Ji))
  (@Jg _ _ _ (@Jr _ _ _ _ (Jv Bu (Jv Jbx (pv 5) Ji) (pv 1)))))))))))),?_⟩
 have npc:=J.ne
 obtain ⟨ns,k,g,hp,hc,hl,k0,k1⟩:=J.ex
 refine W6 (λ σ' H'=>σ'=[some (.ref p),some (.int m),none,none,none,none]/\H=H') (λ N hN=>?_) ?_
 . refine ⟨_,rfl,p,_,2,_,rfl,rfl,SqL.of hp,rfl,_,_,rfl,rfl,_,rfl,Wf (λ cc=>?_) (λ cc=>hN _ _ ⟨rfl,rfl⟩)⟩
   refine ⟨_,rfl,p,_,2,_,rfl,rfl,SqL.of hp,rfl,_,rfl,_,_,rfl,rfl,h0,?_⟩
   refine ⟨_,rfl,p,_,2,_,rfl,rfl,SqL.of hp,rfl,_,rfl,_,_,rfl,rfl,Jby h0 h1,_,rfl,p,_,2,2,rfl,rfl,hp,rfl,?_⟩
   refine ⟨_,rfl,q _ _ (J26 _ (by omega)) (J3g _ h0) ⟨ns,k,_,Jh,by rw [Jf (Qk npc)];exact hc,hl,k0,by omega⟩ (Kp.at (by simp) _)⟩
 rintro _ _ ⟨rfl,rfl⟩
 refine W6 (λ σ' H'=>σ'=[some (.ref p),some (.int m),none,some (.int k),none,none]/\H=H') (λ N hN=>⟨_,rfl,p,_,1,_,rfl,rfl,SqL.of hp,rfl,hN _ _ ⟨rfl,rfl⟩⟩) ?_
 rintro _ _ ⟨rfl,rfl⟩
 refine W6 (λ σ' H'=>σ'=[some (.ref p),some (.int m),none,some (.int k),none,none]/\H' p=some (.lst [.ref c,.int (k+1),.int g])/\H' c=some (.lst (ns.map V.int))/\Kp [p,c] H H') (λ N hN=>?_) ?_
 . refine ⟨_,rfl,_,_,rfl,rfl,_,rfl,p,_,1,1,rfl,rfl,hp,rfl,hN _ _ ⟨rfl,Jh,by rw [Jf (Qk npc)];exact hc,Kp.at (by simp) _⟩⟩
 rintro _ H1 ⟨rfl,hp1,hc1,kp1⟩
 have nl:((ns.map V.int).length:Int)=ns.length:=by rw [Qb]
 refine W6 (λ σ' H'=>σ'=[some (.ref p),some (.int m),none,some (.int k),some (.int 0),none]/\H1=H') (λ N hN=>hN _ _ ⟨rfl,rfl⟩) ?_
 rintro _ _ ⟨rfl,rfl⟩
 refine W6 (λ σ' H'=>∃ x:Int,σ'=[some (.ref p),some (.int m),none,some (.int k),some (.int x),none]/\H1=H') (λ N hN=>?_) ?_
 . refine ⟨_,rfl,p,_,0,_,rfl,rfl,SqL.of hp1,rfl,c,_,rfl,.inl (SqL.of hc1),_,_,rfl,rfl,_,rfl,Wf (λ cc=>?_) (λ cc=>hN _ _ ⟨0,rfl,rfl⟩)⟩
   have cc:(0:Int)<ns.length:=by simpa using cc
   refine ⟨_,rfl,p,_,0,_,rfl,rfl,SqL.of hp1,rfl,_,rfl,_,rfl,p,_,0,_,rfl,rfl,SqL.of hp1,rfl,c,_,rfl,.inl (SqL.of hc1),_,_,rfl,rfl,by rw [nl];exact cc,?_⟩
   obtain ⟨x,hx,_⟩:=J0v (P:=λ _=>True) ns (i:=k%((ns.map V.int).length:Int)) (by simp) (J26 _ (by rw [nl];omega)) (by rw [nl];exact J3g _ cc)
   exact ⟨c,_,_,_,rfl,rfl,SqL.of hc1,hx,hN _ _ ⟨x,rfl,rfl⟩⟩
 rintro _ _ ⟨x,rfl,rfl⟩
 refine W6 (λ σ' H'=>σ'=[some (.ref p),some (.int m),none,some (.int k),some (.int x),none]/\H1=H') (λ N hN=>?_) ?_
 . refine ⟨_,rfl,_,rfl,p,_,0,_,rfl,rfl,SqL.of hp1,rfl,c,_,rfl,.inl (SqL.of hc1),_,_,rfl,rfl,_,rfl,?_⟩
   refine Wf (λ cc=>?_) (λ cc=>Jbv (hN _ _ ⟨rfl,rfl⟩))
   refine ⟨_,rfl,_,_,rfl,rfl,⟨by decide,by decide,by decide⟩,_,_,rfl,rfl,_,rfl,Wf (λ cc=>?_) (λ cc=>hN _ _ ⟨rfl,rfl⟩)⟩
   refine ⟨_,rfl,_,rfl,_,_,rfl,rfl,Jby h0 h1,_,rfl,p,_,2,2,rfl,rfl,hp1,rfl,?_⟩
   refine ⟨_,rfl,_,rfl,_,_,rfl,rfl,h0,?_⟩
   exact q _ _ (J26 _ (by omega)) (J3g _ h0) ⟨ns,k+1,_,Jh,by rw [Jf (Qk npc)];exact hc1,hl,by omega,by omega⟩ (kp1.trans (Kp.at (by simp) _))
 rintro _ _ ⟨rfl,rfl⟩
 have kb:k<2^41:=by omega
 refine W6 (λ σ' H'=>∃ y:Int,σ'=[some (.ref p),some (.int m),none,some (.int k),some (.int x),some (.int y)]/\H1=H'/\0<=y/\y<2147483647) (λ N hN=>?_) ?_
 . refine ⟨_,rfl,_,_,rfl,rfl,(show (0:Int)<1000003 by decide),_,_,rfl,rfl,_,rfl,_,_,rfl,rfl,.inl ⟨by decide,by decide⟩,_,rfl,_,_,rfl,rfl,.inr ⟨by omega,by omega⟩,_,rfl,_,_,rfl,rfl,.inl ⟨by decide,by decide⟩,_,_,rfl,rfl,_,_,rfl,rfl,_,_,rfl,rfl,.inl ⟨?_,?_⟩,_,_,rfl,rfl,(show (0:Int)<2147483647 by decide),hN _ _ ⟨_,rfl,rfl,J26 _ (by decide),J3g _ (by decide)⟩⟩
   all_goals (have:=J26 x (show (1000003:Int)≠0 by decide);have:=J3g x (show (0:Int)<1000003 by decide);omega)
 rintro _ _ ⟨y,rfl,rfl,y0,y1⟩
 refine W6 (λ σ' H'=>∃ y:Int,σ'=[some (.ref p),some (.int m),none,some (.int k),some (.int x),some (.int y)]/\H1=H'/\0<=y) (λ N hN=>?_) ?_
 . refine ⟨_,rfl,_,rfl,_,_,rfl,rfl,.inl ⟨by omega,by omega⟩,_,rfl,_,_,rfl,rfl,.inl ⟨by decide,by decide⟩,_,_,rfl,rfl,_,rfl,_,_,rfl,rfl,(show (0:Int)<65537 by decide),_,_,rfl,rfl,_,_,rfl,rfl,(show (0:Int)<2147483629 by decide),hN _ _ ⟨_,rfl,rfl,J26 _ (by decide)⟩⟩
 rintro _ _ ⟨y,rfl,rfl,y0⟩
 refine ⟨_,rfl,_,_,rfl,rfl,Jby (by decide) (by decide +kernel),_,rfl,_,_,rfl,rfl,h0,?_⟩
 exact q _ _ (J26 _ (by omega)) (J3g _ h0) ⟨ns,k+1,g,hp1,hc1,hl,by omega,by omega⟩ kp1
theorem Jft:FnScope ["_law_tape_here","_law_way"] ["_law_tape_here"] (Je Jdh):=⟨rfl,rfl,rfl,by decide +kernel,rfl,by decide +kernel,by decide +kernel⟩
theorem Jm9 (T:Txt mg) (D:Def K mg "_law_gain" Jdh ["_law_tape_here"]) (Ga:Cal P w K mg base "_law_draw" 1 ["_law_tape_here","_law_many"] (Jj Jc9)):Cal P w K mg base "_law_gain" 2 ["_law_tape_here"] (Jj Jf6):=by
 refine D.cal λ f fd F=>F.ok Jft (Jx ?_) (λ cdv A outer s H vs Q E hr h=>?_)
 . rintro as n P ⟨rfl,_⟩
   rfl
 refine ⟨_,(@Jb _ _ _ _ _ (Jz (i:=1) Jft.nd rfl (Qa rfl) (Yz Ga (hr.mono (by decide)) rfl (Ja (pv 0) (Zc Ji Jd))))
  (@Jb _ _ _ _ _ (Z5 (Yb Jab (pv 1) Ji (J6 _)) (@Jg _ _ _ (@Jr _ _ _ _ (Jv Bt (Yz Ga (hr.mono (by decide)) rfl (Ja (pv 0) (Zc Ji Jd))) Ji))) Yj)
  (@Jg _ _ _ (@Jr _ _ _ _ (Jo Js (@PEs.out _ _ _ (Y9 (J3 Y2 (J3 Y2 (Vn (J7 (Be Wl Ji)) (Vn (J7 (Be Wl Ji)) (Vn (J7 (Be Wl Ji)) (J3 Y2 (J3 Y2 (J3 Y2 (Vn (J7 (Be Wl Ji)) J5))))))))))) (pv 1) (λ _ _=>rfl)))))),Ju h ?_⟩
 rintro as n P ⟨rfl,hn,q⟩
 refine ⟨rfl,10,rfl,by omega,by decide,by decide +kernel,λ r r0 r1=>⟨[.tape,.d (.int r)],.eq rfl,?_⟩⟩
 refine Jg1 (Wf (λ c=>?_) (λ c=>⟨_,.refl,?_⟩))
 . exact ⟨19,rfl,by omega,by decide,by decide +kernel,λ z z0 z1=>q _ _ (by omega) (by omega) (by omega)⟩
 . have hr9:r≠9:=of_decide_eq_false c
   refine ⟨Jbz (Xl rfl),?_⟩
   have:r=0\/r=1\/r=2\/r=3\/r=4\/r=5\/r=6\/r=7\/r=8:=by omega
   rcases this with rfl | rfl | rfl | rfl | rfl | rfl | rfl | rfl | rfl<;>exact ⟨_,rfl,q _ _ (by decide) (by decide) (by omega)⟩
theorem Jle:FnScope ["_law_tape_here","_law_purses"] ["_law_tape_here","_law_purses"] (Je Jaf):=⟨rfl,rfl,rfl,by decide +kernel,rfl,by decide +kernel,by decide +kernel⟩
theorem Jlf (T:Txt mg) (D:Def K mg "_law_gains" Jaf ["_law_tape_here","_law_purses"]) (G6:Cal P w K mg base "_law_gain" 2 ["_law_tape_here"] (Jj Jf6)):Cal P w K mg base "_law_gains" 3 ["_law_tape_here","_law_purses"] (Jj Jd0):=by
 refine D.cal λ f fd F=>F.ok Jle (Jx ?_) (λ cdv A outer s H vs Q E hr h=>?_)
 . rintro as n P ⟨U,rfl,_⟩
   rfl
 refine ⟨_,(@Jg _ _ _ (@Jr _ _ _ _ (Ya Yf rfl T.b_tuple J9v (Wy (Yt (sc:=(Je Jaf)) (N:=["_law_tape_here","_law_purses"]) (N':=["_law_p","_law_tape_here"]) (k:=1) (idx:=[0]) rfl (by exact ⟨rfl,by decide +kernel,by decide +kernel,by decide +kernel,by decide +kernel,by decide +kernel,rfl,rfl⟩) rfl rfl (Yg rfl T.b_range (Ja (pv 1) Jd)) (λ _ _ _ _=>(Jt (i:=0) (show (["_law_p","_law_tape_here"]:List Str).Nodup by decide +kernel) rfl (Qa rfl) (Qo rfl))) (λ _ _ _ _=>Yc) (λ _ _ _ _=>(Yz G6 (hr.mono (by decide)) rfl (Ja (pv 1) Jd)))) Jd)))),Ju h ?_⟩
 rintro as n P ⟨U,rfl,hn,u0,u1,q⟩
 have hs:sizeLine=16777216:=J9n
 refine ⟨rfl,U,rfl,⟨by omega,by omega⟩,⟨rfl,by rw [J4];omega⟩,?_⟩
 refine Jg3 2 (n+12) (λ y=>∃ i:Int,y = .int i/\-9<=i/\i<=9) (λ x _ k K hk h=>W9 ⟨rfl,by omega,λ r m r0 r1 hm=>h _ _ ⟨r,rfl,r0,r1⟩ hm⟩) (by rw [J4];omega) (λ ys k hy hg hk=>?_)
 rw [J4] at hy hk
 obtain ⟨f,rfl,hf⟩:=Jzj ys _ hy hg
 exact q f k hf (by omega)
theorem Zu:FnScope ["_law_tape_here","_law_rooms","_law_purses","_law_ways","_law_pair","_law_extra","_law_room","_law_one","_law_step"] ["_law_tape_here","_law_rooms","_law_purses"] (Je Br):=⟨rfl,rfl,rfl,by decide +kernel,rfl,by decide +kernel,by decide +kernel⟩
theorem Jis (T:Txt mg) (D:Def K mg "_law_nested" Br ["_law_tape_here","_law_rooms","_law_purses"]) (Gk:Cal P w K mg base "_law_gains" 3 ["_law_tape_here","_law_purses"] (Jj Jd0)) (Ga:Cal P w K mg base "_law_draw" 1 ["_law_tape_here","_law_many"] (Jj Jc9)):Cal P w K mg base "_law_nested" 4 ["_law_tape_here","_law_rooms","_law_purses"] (Zh Je0):=by
 refine D.cal λ f fd F=>F.ok Zu (Vp ?_) (λ cdv A outer s H vs Q E hr h=>?_)
 . rintro as n P ⟨R,U,rfl,_⟩
   rfl
 refine ⟨_,(@Jb _ _ _ _ _ (@Jck _ _ 3 _ _ _ _ Zu.nd rfl (Qa rfl) (Y9 J5) rfl (Qa rfl))
  (@Jb _ _ _ _ _ (@Jck _ _ 4 _ _ _ _ Zu.nd rfl (Qa rfl) (Y9 (Wo (J7 (Yz Gk (hr.mono (by decide)) rfl (Ja (pv 0) (Ja (pv 2) Jd)))) J5)) rfl (Qa rfl))
  (@Jb _ _ _ _ _ (Ja6 (Ji6 J3q J3r J3s Vm (pv 4) (Zn (Ya Yf rfl T.b_tuple J9v (Wy (Yt (sc:=(Je Br)) (N:=["_law_tape_here","_law_rooms","_law_purses","_law_ways","_law_pair","_law_extra","_law_room","_law_one","_law_step"]) (N':=["_law_number"]) (k:=1) (idx:=[]) rfl (by exact ⟨rfl,by decide +kernel,by decide +kernel,by decide +kernel,by decide +kernel,by decide +kernel,rfl,rfl⟩) rfl rfl (Jnm (Jo Js (pv 4) Ji (λ _ _=>rfl))) (λ _ _ _ _=>(Jt (i:=0) (show (["_law_number"]:List Str).Nodup by decide +kernel) rfl (Qa rfl) (Qo rfl))) (λ _ _ _ _=>Yc) (λ _ _ _ _=>(Be Wl (pv 0)))) Jd)) Jd)))
  (@Jb _ _ _ _ _ (Jz (i:=5) Zu.nd rfl (Qa rfl) (Yz Ga (hr.mono (by decide)) rfl (Ja (pv 0) (Ja (pv 2) Jd))))
  (@Jb _ _ _ _ _ (Zy Xp rfl (Yg rfl T.b_range (Ja (pv 1) Jd)) (Jt (i:=6) Zu.nd rfl (Qa rfl) (Qa rfl))
  (@Jb _ _ _ _ _ (Jz (i:=7) Zu.nd rfl (Qa rfl) (Ya Wx rfl T.b_list J90 (Y4 (Jo Js (pv 4) (Jv Bu (pv 6) Ji) (λ _ _=>rfl)) Jd)))
  (@Jb _ _ _ _ _ (Ye (Jv Wa (Jo Js (pv 7) (pv 5) (λ _ _=>rfl)) (Jo Js (@PEs.out _ _ _ (Y9 (J3 Y2 (J3 Y2 (J3 Y2 (J3 Y2 (Vn (J7 (Be Wl Ji)) J5))))))) (Yz Ga (hr.mono (by decide)) rfl (Ja (pv 0) (Zc Ji Jd))) (λ _ _=>rfl))) (Z9 (pv 7) (pv 5) Yr (λ v=>J2 _ _ _ _ _ v)))
  (@Jb _ _ _ _ _ (Ja6 (Ji6 J3q J3r J3s Vm (pv 3) (Jdq (@PEs.out _ _ _ (Wz (Zz (J7 (pv 6)) (Zz (J7 (pv 6)) (Wo (J7 (Ya Yf rfl T.b_tuple J9v (Ja (pv 7) Jd))) J5))))) Jd)))
  (@Jb _ _ _ _ _ (Jz (i:=8) Zu.nd rfl (Qa rfl) (Jv Jgm (@PEs.out _ _ _ (Y9 (J3 Y2 J5))) (pv 2)))
  (@Jb _ _ _ _ _ (Ye (Jo Js (@PEs.out _ _ _ (Y9 (Vn (J7 (Be Wl Ji)) (Vn (J7 (Be Wl Ji)) (Vn (J7 (Be Wl Ji)) (J3 Y2 (J3 Y2 J5))))))) (Yz Ga (hr.mono (by decide)) rfl (Ja (pv 0) (Zc Ji Jd))) (λ _ _=>rfl)) (Z9 (pv 8) (Yz Ga (hr.mono (by decide)) rfl (Ja (pv 0) (Ja (pv 2) Jd))) Yr (λ v=>Jfw _ _ _ _ _ _ _ v)))
  (@Jg _ _ _ (Ja6 (Ji6 J3q J3r J3s Vm (pv 3) (Jdq (@PEs.out _ _ _ (Wz (Zz (J7 (pv 6)) (Jja (J7 (Jv Bu (Jv Wa (pv 6) Ji) (pv 1))) (Wo (J7 (Ya Yf rfl T.b_tuple J9v (Ja (pv 8) Jd))) J5))))) Jd))))))))))
  (@Jg _ _ _ (@Jr _ _ _ _ (pv 3)))))))),Wp h ?_⟩
 rintro as n P ⟨R,U,rfl,hn,hR,hU,q⟩
 have hs:sizeLine=16777216:=J9n
 refine ⟨rfl,Xz _,⟨[.tape,.d (.int R),.d (.int U),.own [],.jnk,.jnk,.jnk,.jnk,.jnk],.eq rfl,?_⟩⟩
 refine ⟨U,rfl,by omega,by omega,by omega,λ f m hf hm=>⟨Jbz (Xl rfl),⟨[.tape,.d (.int R),.d (.int U),.own [],.own [Jez U f],.jnk,.jnk,.jnk,.jnk],.eq rfl,?_⟩⟩⟩
 refine ⟨_,rfl,⟨rfl,by rw [Jkc];omega⟩,?_⟩
 refine Vq (λ i=>.int (-(f i))) (λ i hi n K hk=>W9 hk) ⟨show 1<sizeLine by omega,⟨[.tape,.d (.int R),.d (.int U),.own [],.own [Jez U f,Jez U λ i=>-(f i)],.jnk,.jnk,.jnk,.jnk],.eq rfl,?_⟩⟩
 refine ⟨U,rfl,by omega,by omega,W0 (by omega),λ e e0 e1=>⟨_,.refl,?_⟩⟩
 refine ⟨R,rfl,⟨by omega,by omega⟩,?_⟩
 refine ⟨λ i env k=>∃ (ws:List Way) (x y z:Vl),env=[.tape,.d (.int R),.d (.int U),.own (ws.map Yk),.own [Jez U f,Jez U λ i=>-(f i)],.d (.int e),x,y,z]/\ws.length=2*i/\(∀ w∈ws,WayOk R U w)/\k<=n+13+3*i,⟨[],_,_,_,rfl,rfl,(λ w hw=>by cases hw),by omega⟩,?_,?_⟩
 . rintro i x env k hx ⟨ws,_,_,_,rfl,hl,hw,hk⟩
   obtain ⟨hi,rfl⟩:=Jdz hx
   have hi12:i<12:=by omega
   obtain ⟨g,hg,hgb⟩:∃ g:Nat->Int,atI [Jez U f,Jez U λ i=>-(f i)] ((i:Int)%2)=some (Jez U g)/\∀ j,j<U.toNat->-9<=g j/\g j<=9:=by
    have:(i:Int)%2=0\/(i:Int)%2=1:=by omega
    rcases this with h | h
    . exact ⟨f,by rw [h];rfl,hf⟩
    . exact ⟨λ i=>-(f i),by rw [h];rfl,λ j hj=>by have:=hf j hj;show -9<=-(f j)/\-(f j)<=9;omega⟩
   refine ⟨show (0:Int)<2 by decide,_,hg,⟨_,.refl,?_⟩⟩
   refine ⟨_,Yl e0 (Jkd (by omega)),Jbz (Xl rfl),5,rfl,by omega,by decide,by decide +kernel,λ r r0 r1=>?_⟩
   obtain ⟨v,hv,v0,v1⟩:∃ v:Int,atI [Qq 0,.int 0,.int 0,.int 1,.int (-1)] r=some (.int v)/\-1<=v/\v<=1:=by
    have:r=0\/r=1\/r=2\/r=3\/r=4:=by omega
    rcases this with rfl | rfl | rfl | rfl | rfl<;>exact ⟨_,rfl,by decide,by decide⟩
   refine ⟨_,hv,_,Jn2 e0 (by rw [Jkc];omega),?_⟩
   rw [Jg2]
   have ge:=hgb e.toNat (by omega)
   have b1:∀ j,j<U.toNat->-99<=putF g e.toNat (g e.toNat+v) j/\putF g e.toNat (g e.toNat+v) j<=99:=Jkg (λ j hj=>by have:=hgb j hj;omega) (by omega)
   generalize putF g e.toNat (g e.toNat+v)=g1 at b1
   refine ⟨_,.fz 7 _ rfl .refl,B3,by rw [Qb];omega,?_⟩
   refine ⟨[.tape,.d (.int R),.d (.int U),.own ((ws++[Jfr i i U g1]).map Yk),.own [Jez U f,Jez U λ i=>-(f i)],.d (.int e),.d (.int i),.d (.list (fl U.toNat g1)),_],.eq (by rw [Xd,J4e,<- Jg4];rfl),?_⟩
   refine ⟨Jbz (Xl rfl),⟨by omega,by omega,by simp;omega⟩,?_⟩
   rw [Jx0]
   refine ⟨_,.refl,Jbz (Xl rfl),5,rfl,by omega,by decide,by decide +kernel,λ r r0 r1=>?_⟩
   obtain ⟨v2,hv2,v20,v21⟩:∃ v:Int,atI [Qq (-1),.int (-1),.int (-1),.int 0,.int 1] r=some (.int v)/\-1<=v/\v<=1:=by
    have:r=0\/r=1\/r=2\/r=3\/r=4:=by omega
    rcases this with rfl | rfl | rfl | rfl | rfl<;>exact ⟨_,rfl,by decide,by decide⟩
   refine ⟨_,hv2,U,rfl,by omega,by omega,W0 (by omega),λ z z0 z1=>⟨_,Jn2 z0 (by rw [Jkc];omega),?_⟩⟩
   rw [Jg2]
   have b2:∀ j,j<U.toNat->-99<=putF (λ _=>0) z.toNat v2 j/\putF (λ _=>0) z.toNat v2 j<=99:=Jkg (λ j hj=>by omega) (by omega)
   generalize putF (λ _=>0) z.toNat v2=g2 at b2
   refine ⟨_,.fz 8 _ rfl .refl,show (0:Int)<R by omega,B3,by rw [Qb,Q7];simp;omega,?_⟩
   refine ⟨ws++[Jfr i i U g1]++[Jfr i ((i+1:Int)%R) U g2],.d (.int i),.d (.list (fl U.toNat g1)),.d (.list (fl U.toNat g2)),?_,by simp;omega,λ w hw'=>?_,by omega⟩
   . rw [Xd (l₂:=[Jfr i ((i+1:Int)%R) U g2]),J4e,<- Jg4];rfl
   . have hmod:0<=(i+1:Int)%R/\(i+1:Int)%R<R:=⟨J26 _ (by omega),J3g _ (by omega)⟩
     rcases Q8.mp hw' with hw' | hw'
     . rcases Q8.mp hw' with hw' | hw'
       . exact hw w hw'
       . rw [Qs.mp hw']
         exact Jg5 (by omega) (by omega) (by omega) b1
     . rw [Qs.mp hw']
       exact Jg5 (by omega) hmod (by omega) b2
 . rintro env k ⟨ws,_,_,_,rfl,hl,hw,hk⟩
   rw [J4] at hl hk
   exact ⟨_,.refl,q ws k hw (by omega) (by omega)⟩
theorem Zb:FnScope ["_law_tape_here","_law_most","_law_rooms","_law_purses","_law_ways","_law_down","_law_k","_law_one","_law_at","_law_a","_law_b"] ["_law_tape_here","_law_most"] (Je Jbp):=⟨rfl,rfl,rfl,by decide +kernel,rfl,by decide +kernel,by decide +kernel⟩
theorem Jna (T:Txt mg) (D:Def K mg "_law_book" Jbp ["_law_tape_here","_law_most"]) (Ga:Cal P w K mg base "_law_draw" 1 ["_law_tape_here","_law_many"] (Jj Jc9)) (G7:Cal P w K mg base "_law_nested" 4 ["_law_tape_here","_law_rooms","_law_purses"] (Zh Je0)) (Gk:Cal P w K mg base "_law_gains" 3 ["_law_tape_here","_law_purses"] (Jj Jd0)):Cal P w K mg base "_law_book" 5 ["_law_tape_here","_law_most"] (Jj Jkf):=by
 refine D.cal λ f fd F=>F.ok Zb (Jx ?_) (λ cdv A outer s H vs Q E hr h=>?_)
 . rintro as n P ⟨mr,mu,mw,rfl,_⟩
   rfl
 refine ⟨_,(@Jb _ _ _ _ _ (Jz (i:=2) Zb.nd rfl (Qo rfl) (Jv Wa Ji (Yz Ga (hr.mono (by decide)) rfl (Ja (pv 0) (Y4 (Jo Ys (pv 1) Ji (λ _ _=>rfl)) Jd)))))
  (@Jb _ _ _ _ _ (Jz (i:=3) Zb.nd rfl (Qa rfl) (Jv Wa Ji (Yz Ga (hr.mono (by decide)) rfl (Ja (pv 0) (Y4 (Jo Ys (pv 1) Ji (λ _ _=>rfl)) Jd)))))
  (@Jb _ _ _ _ _ (@Jck _ _ 4 _ _ _ _ Zb.nd rfl (Qa rfl) (Y9 J5) rfl (Qa rfl))
  (@Jb _ _ _ _ _ (Z5 (Yb Jab (Yz Ga (hr.mono (by decide)) rfl (Ja (pv 0) (Zc Ji Jd))) Ji (J6 _)) (@Jg _ _ _ (Jz (i:=4) Zb.nd rfl (Qa rfl) (Yz G7 (hr.mono (by decide)) rfl (Ja (pv 0) (Ja (pv 2) (Ja (pv 3) Jd)))))) Yj)
  (@Jb _ _ _ _ _ (Jz (i:=5) Zb.nd rfl (Qa rfl) (Yz Ga (hr.mono (by decide)) rfl (Ja (pv 0) (Zc Ji Jd))))
  (@Jb _ _ _ _ _ (Zy Xp rfl (Yg rfl T.b_range (Zn (Yz Ga (hr.mono (by decide)) rfl (Ja (pv 0) (Zn (Jw (Jqi rfl) rfl T.b_max boot_max (Zc Ji (Bx (Jv Bt (Jv Wa (Jo Ys (pv 1) Ji (λ _ _=>rfl)) Ji) (Jw Yh rfl T.b_len Uf (Ja (pv 4) Jd))) Jd))) Jd))) Jd)) (Jt (i:=6) Zb.nd rfl (Qa rfl) (Qa rfl))
  (@Jb _ _ _ _ _ (Jz (i:=7) Zb.nd rfl (Qa rfl) (Ya Wx rfl T.b_list J90 (Zn (Yz Gk (hr.mono (by decide)) rfl (Ja (pv 0) (Ja (pv 3) Jd))) Jd)))
  (@Jb _ _ _ _ _ (Z5 (Yb Jab (pv 5) Ji (J6 _)) (@Jb _ _ _ _ _ (Jz (i:=8) Zb.nd rfl (Qa rfl) (Yz Ga (hr.mono (by decide)) rfl (Ja (pv 0) (Ja (pv 3) Jd))))
  (@Jg _ _ _ (Ye (Jw (Jqj rfl) rfl T.b_min Yai (Y4 (Jo Js (pv 7) (pv 8) (λ _ _=>rfl)) (Jlw (Be Wl Ji) Jd))) (Z9 (pv 7) (pv 8) Yr (λ v=>J2 _ _ _ _ _ v))))) Yj)
  (@Jb _ _ _ _ _ (Ye (Yt (sc:=(Je Jbp)) (N:=["_law_tape_here","_law_most","_law_rooms","_law_purses","_law_ways","_law_down","_law_k","_law_one","_law_at","_law_a","_law_b"]) (N':=["_law_end","_law_tape_here","_law_rooms"]) (k:=1) (idx:=[0,2]) rfl (by exact ⟨rfl,by decide +kernel,by decide +kernel,by decide +kernel,by decide +kernel,by decide +kernel,rfl,rfl⟩) rfl rfl (Yg rfl T.b_range (Zc Ji Jd)) (λ _ _ _ _=>(Jt (i:=0) (show (["_law_end","_law_tape_here","_law_rooms"]:List Str).Nodup by decide +kernel) rfl (Qa rfl) (Qo rfl))) (λ _ _ _ _=>Yc) (λ _ _ _ _=>(Yz Ga (hr.mono (by decide)) rfl (Ja (pv 1) (Ja (pv 2) Jd))))) (Jsq (K':=K) (i:=9) (j:=10) rfl Zb.nd ⟨rfl,(Qa rfl),(Qa rfl)⟩ ⟨rfl,(Qa rfl),(Qa rfl)⟩ rfl))
  (@Jg _ _ _ (Ja6 (Ji6 J3q J3r J3s Vm (pv 4) (Jdq (@PEs.out _ _ _ (Wz (Zz (J7 (pv 9)) (Zz (J7 (pv 10)) (Wo (J7 (Ya Yf rfl T.b_tuple J9v (Ja (pv 7) Jd))) J5))))) Jd))))))))
  (@Jg _ _ _ (@Jr _ _ _ _ (@PEs.out _ _ _ (Wz (Zz (J7 (pv 2)) (Zz (J7 (pv 3)) (Wo (J7 (Ya Yf rfl T.b_tuple J9v (Ja (pv 4) Jd))) J5))))))))))))),Ju h ?_⟩
 rintro as n P ⟨mr,mu,mw,rfl,hn,hr,hu,hw,q⟩
 have hs:sizeLine=16777216:=J9n
 refine ⟨rfl,_,rfl,mr,rfl,by omega,by omega,W0 (by omega),λ r r0 r1=>⟨_,.refl,_,rfl,mu,rfl,by omega,by omega,W0 (by omega),λ u u0 u1=>⟨_,.refl,Xz _,?_⟩⟩⟩
 refine ⟨[.tape,.d (.tuple [.int mr,.int mu,.int mw]),.d (.int (1+r)),.d (.int (1+u)),.own [],.jnk,.jnk,.jnk,.jnk,.jnk,.jnk],.eq rfl,?_⟩
 generalize hR:1+r=R
 generalize hU:1+u=U
 refine Jl9 (λ e k=>∃ ws:List Way,e=[.tape,.d (.tuple [.int mr,.int mu,.int mw]),.d (.int R),.d (.int U),.own (ws.map Yk),.jnk,.jnk,.jnk,.jnk,.jnk,.jnk]/\(∀ w∈ws,WayOk R U w)/\ws.length<=24/\k<=n+63) (λ N hN=>?_) ?_
 . refine ⟨3,rfl,by omega,by decide,by decide +kernel,λ z z0 z1=>Jg1 (Wf (λ c=>?_) (λ c=>?_))⟩
   . exact ⟨R,U,rfl,by omega,by omega,by omega,λ ws m hw hl hm=>hN _ _ ⟨ws,rfl,hw,hl,by omega⟩⟩
   . exact hN _ _ ⟨[],rfl,(λ w hw=>by cases hw),by decide,by omega⟩
 rintro _ k ⟨ws,rfl,hw0,hl0,hk⟩
 refine ⟨_,.refl,3,rfl,by omega,by decide,by decide +kernel,λ dn d0 d1=>⟨_,.refl,_,rfl,?_⟩⟩
 generalize hmm:(if mw+1-((ws.map Yk).length:Int)>1 then mw+1-((ws.map Yk).length:Int) else 1)=mm
 have hmm2:1<=mm/\mm<=37/\(mm=1\/mm+ws.length=mw+1):=by
  rw [Qb] at hmm
  split at hmm<;>omega
 refine ⟨mm,by rw [<- hmm],by omega,by omega,W0 (by omega),λ t t0 t1=>⟨t,rfl,⟨by omega,by omega⟩,?_⟩⟩
 refine ⟨λ i env k'=>∃ (vs:List Way) (a b c d e:Vl),env=[.tape,.d (.tuple [.int mr,.int mu,.int mw]),.d (.int R),.d (.int U),.own (vs.map Yk),.d (.int dn),a,b,c,d,e]/\(∀ w∈vs,WayOk R U w)/\vs.length=ws.length+i/\k'<=n+65+15*i,⟨ws,_,_,_,_,_,rfl,hw0,rfl,by omega⟩,?_,?_⟩
 . rintro i x env k' hx ⟨vs,xa,xb,xc,xd,xe,rfl,hw,hl,hk'⟩
   obtain ⟨hi,rfl⟩:=Jdz hx
   refine ⟨U,rfl,by omega,by omega,by omega,λ f m hf hm=>⟨_,.refl,?_⟩⟩
   refine Jl9 (λ e j=>∃ (g:Nat->Int) (x:Vl),e=[.tape,.d (.tuple [.int mr,.int mu,.int mw]),.d (.int R),.d (.int U),.own (vs.map Yk),.d (.int dn),.d (.int i),.own (fl U.toNat g),x,xd,xe]/\(∀ j,j<U.toNat->-99<=g j/\g j<=99)/\j<=m+1) (λ N hN=>?_) ?_
   . refine Jg1 (Wf (λ c=>?_) (λ c=>hN _ _ ⟨f,_,rfl,λ j hj=>by have:=hf j hj;omega,by omega⟩))
     refine ⟨U,rfl,by omega,by omega,W0 (by omega),λ p p0 p1=>⟨_,.refl,_,Yl p0 (Jkd (by omega)),_,Jn2 p0 (by rw [Jkc];omega),?_⟩⟩
     rw [Jg2]
     have fp:=hf p.toNat (by omega)
     exact hN _ _ ⟨_,_,rfl,Jkg (λ j hj=>by have:=hf j hj;omega) (by show -99<=(if (-1:Int)<f p.toNat then (-1:Int) else f p.toNat)/\(if (-1:Int)<f p.toNat then (-1:Int) else f p.toNat)<=99;split<;>omega),by omega⟩
   rintro _ j ⟨g,y,rfl,hg,hj⟩
   refine ⟨_,.fz 7 _ rfl .refl,2,rfl,⟨by decide,by decide⟩,⟨rfl,by rw [J4];decide⟩,?_⟩
   refine Jg3 1 (m+3) (λ y=>∃ i:Int,y = .int i/\0<=i/\i<=R-1) (λ x _ k K hk h=>W9 ⟨R,rfl,by omega,by omega,W0 (by omega),λ r r0 r1=>h _ _ ⟨r,rfl,r0,by omega⟩ (by omega)⟩) (by rw [J4];show j+1*2<=m+3;omega) (λ ys k hy hgy hk=>?_)
   rw [J4] at hy hk
   match ys,hy with
   | [y0,y1],_=>
    obtain ⟨a,rfl,a0,a1⟩:=hgy _ Qi
    obtain ⟨b,rfl,b0,b1⟩:=hgy _ (Qj _ Qi)
    refine ⟨rfl,rfl,⟨_,.refl,B3,by rw [Qb];omega,?_⟩⟩
    have hk2:k<=j+1*2:=hk
    refine ⟨vs++[Jfr a b U g],.d (.int i),.d (.list (fl U.toNat g)),y,.d (.int a),.d (.int b),?_,λ w hw'=>?_,by simp;omega,by omega⟩
    . rw [Xd,J4e,<- Jg4];rfl
    . rcases Q8.mp hw' with hw' | hw'
      . exact hw w hw'
      . rw [Qs.mp hw']
        exact Jg5 (by omega) (by omega) (by omega) hg
 . rintro env k' ⟨vs,_,_,_,_,_,rfl,hw,hl,hk'⟩
   rw [J4] at hl hk'
   refine ⟨_,.fz 4 _ rfl .refl,B3,q R U vs k' ⟨by omega,by omega,by omega,by omega,by omega,hw⟩ (by omega) (by omega) (by omega)⟩
theorem Jnb:FnScope ["thing"] ["thing"] (Je Jdd):=⟨rfl,rfl,rfl,by decide +kernel,rfl,by decide +kernel,by decide +kernel⟩
theorem Jnc (T:Txt mg) (D:Def K mg "is_whole" Jdd ["thing"]):Cal P w K mg base "is_whole" 1 ["thing"] (Jj Jf5):=by
 refine D.cal λ f fd F=>F.ok Jnb (Jx ?_) (λ cdv A outer s H vs Q E hr h=>?_)
 . rintro as n P ⟨x,rfl,_⟩
   rfl
 refine ⟨_,(@Jg _ _ _ (@Jr _ _ _ _ (Ja5 (Jw Jgt rfl T.b_isinstance Yas (Ja (pv 0) (Ja (Jju rfl T.b_int boot_int (v:=.ty "int") rfl) Jd))) (Jai (Jrw (Jw Jgt rfl T.b_isinstance Yas (Ja (pv 0) (Ja (Jju rfl T.b_bool boot_bool (v:=.ty "bool") rfl) Jd)))))))),Ju h ?_⟩
 rintro as n P ⟨x,rfl,q⟩
 exact ⟨rfl,rfl,rfl,q⟩
theorem Jit:FnScope ["thing","least","most"] ["thing","least","most"] (Je Jbl):=⟨rfl,rfl,rfl,by decide +kernel,rfl,by decide +kernel,by decide +kernel⟩
theorem Jiu (T:Txt mg) (D:Def K mg "is_between" Jbl ["thing","least","most"]) (Gb:Cal P w K mg base "is_whole" 1 ["thing"] (Jj Jf5)):Cal P w K mg base "is_between" 2 ["thing","least","most"] (Jj Jcm):=by
 refine D.cal λ f fd F=>F.ok Jit (Jx ?_) (λ cdv A outer s H vs Q E hr h=>?_)
 . rintro as n P ⟨x,a,b,rfl,_⟩
   rfl
 refine ⟨_,(@Jg _ _ _ (@Jr _ _ _ _ (Ja5 (Yz Gb (hr.mono (by decide)) rfl (Ja (pv 0) Jd)) (Jai (Jr7 Jxb Jxb (pv 1) (pv 0) (pv 2)))))),Ju h ?_⟩
 rintro as n P ⟨x,a,b,rfl,q⟩
 refine ⟨rfl,x,rfl,?_⟩
 by_cases h:a<=x
 . rw [decide_eq_true h] at q
   show match J4a (decide (a<=x)) with | .bool true=>_ | .bool false=>_ | _=>_
   rw [decide_eq_true h]
   exact q
 . rw [decide_eq_false h] at q
   show match J4a (decide (a<=x)) with | .bool true=>_ | .bool false=>_ | _=>_
   rw [decide_eq_false h]
   exact q
theorem Jot:FnScope ["book","k"] ["book","k"] (Je Je9):=⟨rfl,rfl,rfl,by decide +kernel,rfl,by decide +kernel,by decide +kernel⟩
theorem Jou (T:Txt mg) (D:Def K mg "has_way" Je9 ["book","k"]) (Gc:Cal P w K mg base "is_between" 2 ["thing","least","most"] (Jj Jcm)):Cal P w K mg base "has_way" 3 ["book","k"] (Jj Jdy):=by
 refine D.cal λ f fd F=>F.ok Jot (Jx ?_) (λ cdv A outer s H vs Q E hr h=>?_)
 . rintro as n P ⟨R,U,ws,k,rfl,_⟩
   rfl
 refine ⟨_,(@Jg _ _ _ (@Jr _ _ _ _ (Yz Gc (hr.mono (by decide)) rfl (Ja (pv 1) (Zc Ji (Bx (Jv Bt (Jw Yh rfl T.b_len Uf (Y4 (Jo Ys (pv 0) Ji (λ _ _=>rfl)) Jd)) Ji) Jd)))))),Ju h ?_⟩
 rintro as n P ⟨R,U,ws,k,rfl,hk,q⟩
 refine ⟨rfl,_,rfl,k,0,_,rfl,?_⟩
 rw [decide_eq_true hk.1,decide_eq_true (by rw [Qb];omega)]
 exact q
theorem Jh9:FnScope ["thing","many"] ["thing","many"] (Je Jao):=⟨rfl,rfl,rfl,by decide +kernel,rfl,by decide +kernel,by decide +kernel⟩
theorem Jia (T:Txt mg) (D:Def K mg "is_tuple_of" Jao ["thing","many"]):Cal P w K mg base "is_tuple_of" 1 ["thing","many"] (Jj Jlb):=by
 refine D.cal λ f fd F=>F.ok Jh9 (Jx ?_) (λ cdv A outer s H vs Q E hr h=>?_)
 . rintro as n P ⟨xs,rfl,_⟩
   rfl
 refine ⟨_,(@Jg _ _ _ (@Jr _ _ _ _ (Ja5 (Jw Jgt rfl T.b_isinstance Yas (Ja (pv 0) (Ja (Jju rfl T.b_tuple J9v (v:=.ty "tuple") rfl) Jd))) (Jai (Wd Jab (Jw Yh rfl T.b_len Uf (Ja (pv 0) Jd)) (pv 1) (J6 _)))))),Ju h ?_⟩
 rintro as n P ⟨xs,rfl,q⟩
 refine ⟨rfl,rfl,W9 (Jg1 ?_)⟩
 rw [decide_eq_true rfl]
 exact q
theorem Jib:FnScope ["thing","many"] ["thing","many"] (Je Bc):=⟨rfl,rfl,rfl,by decide +kernel,rfl,by decide +kernel,by decide +kernel⟩
theorem Jic (T:Txt mg) (D:Def K mg "are_numbers" Bc ["thing","many"]) (Gm:Cal P w K mg base "is_tuple_of" 1 ["thing","many"] (Jj Jlb)) (Gb:Cal P w K mg base "is_whole" 1 ["thing"] (Jj Jf5)):Cal P w K mg base "are_numbers" 2 ["thing","many"] (Jj Jgi):=by
 refine D.cal λ f fd F=>F.ok Jib (Jx ?_) (λ cdv A outer s H vs Q E hr h=>?_)
 . rintro as n P ⟨cs,rfl,_⟩
   rfl
 refine ⟨_,(@Jg _ _ _ (@Jr _ _ _ _ (Ja5 (Yz Gm (hr.mono (by decide)) rfl (Ja (pv 0) (Ja (pv 1) Jd))) (Jai (Jw Jbw rfl T.b_all Yaj (Wy (Yt (sc:=(Je Bc)) (N:=["thing","many"]) (N':=["part"]) (k:=1) (idx:=[]) rfl (by exact ⟨rfl,by decide +kernel,by decide +kernel,by decide +kernel,by decide +kernel,by decide +kernel,rfl,rfl⟩) rfl rfl (Jnm (pv 0)) (λ _ _ _ _=>(Jt (i:=0) (show (["part"]:List Str).Nodup by decide +kernel) rfl (Qa rfl) (Qo rfl))) (λ _ _ _ _=>Yc) (λ _ _ _ _=>(Ja5 (Yz Gb (hr.mono (by decide)) rfl (Ja (pv 0) Jd)) (Jai (Wd Jo4 (pv 0) Ji (J6 _)))))) Jd)))))),Ju h ?_⟩
 rintro as n P ⟨cs,rfl,nn,cl,q⟩
 have hs:sizeLine=16777216:=J9n
 refine ⟨rfl,cs.map .int,by rw [Qb],⟨rfl,by rw [Qb];omega⟩,?_⟩
 refine Y6 (f:=Qq) (λ _:Int=>J4a true) (λ c hc m K hK=>W9 ⟨c,rfl,?_⟩) ?_
 . have:=nn c hc
   rw [<- decide_eq_true (p:=(0:Int)<=c) this] at hK
   exact hK
 refine ⟨cs.map λ _=>true,by rw [Qv];rfl,rfl,?_⟩
 rw [show (cs.map λ _=>true).all id=true from X3.mpr λ x hx=>by obtain ⟨_,_,rfl⟩:=Qn.mp hx;rfl]
 exact q
theorem Wv:FnScope ["book","counts","rooms","purses","ways","more","a","b","gains","count"] ["book","counts"] (Je Jap):=⟨rfl,rfl,rfl,by decide +kernel,rfl,by decide +kernel,by decide +kernel⟩
theorem Jid (T:Txt mg) (D:Def K mg "is_balanced" Jap ["book","counts"]):Cal P w K mg base "is_balanced" 1 ["book","counts"] (Jj Jlc):=by
 refine D.cal λ f fd F=>F.ok Wv (Jx ?_) (λ cdv A outer s H vs Q E hr h=>?_)
 . rintro as n P ⟨R,U,ws,cs,rfl,_⟩
   rfl
 refine ⟨_,(@Jb _ _ _ _ _ (Ye (pv 0) (Vd (K':=K) (i:=2) (j:=3) (m:=4) rfl Wv.nd ⟨rfl,(Qa rfl),(Qa rfl)⟩ ⟨rfl,(Qa rfl),(Qa rfl)⟩ ⟨rfl,(Qa rfl),(Qa rfl)⟩ rfl))
  (@Jb _ _ _ _ _ (Jz (i:=5) Wv.nd rfl (Qa rfl) (Jv Jgm (@PEs.out _ _ _ (Y9 (J3 Y2 J5))) (pv 2)))
  (@Jb _ _ _ _ _ (Zy Xp rfl (By rfl T.b_zip (Ja (pv 4) (Ja (pv 1) Jd))) (Jjv (n:=2) rfl (Wk (Vd (K':=K) (i:=6) (j:=7) (m:=8) rfl Wv.nd ⟨rfl,(Qa rfl),(Qa rfl)⟩ ⟨rfl,(Qa rfl),(Qa rfl)⟩ ⟨rfl,(Qa rfl),(Qa rfl)⟩ rfl) (Wk (Jt (i:=9) Wv.nd rfl (Qa rfl) (Qa rfl)) Jdn)))
  (@Jb _ _ _ _ _ (Jo2 (pv 5) (pv 6) Jl2 (pv 9) Jyl Yr)
  (@Jg _ _ _ (Jo2 (pv 5) (pv 7) Jl2 (pv 9) Jyk Yr))))
  (@Jg _ _ _ (@Jr _ _ _ _ (Jrw (Jw (Jq0 rfl) rfl T.b_any boot_any (Ja (pv 5) Jd)))))))),Ju h ?_⟩
 rintro as n P ⟨R,U,ws,cs,rfl,ok,ro,q⟩
 have hs:sizeLine=16777216:=J9n
 have r0:=ok.r0
 have r1:=ok.r1
 have wl:=ok.len
 have cl:=ro.len
 refine ⟨rfl,rfl,rfl,⟨[.d (J0 R U ws),.d (.tuple (cs.map .int)),.d (.int R),.d (.int U),.d (.tuple (ws.map Yk)),.jnk,.jnk,.jnk,.jnk,.jnk],.eq rfl,Jbz (Xl rfl),⟨by omega,by omega,by simp;omega⟩,?_⟩⟩
 rw [Jx0]
 refine ⟨[.d (J0 R U ws),.d (.tuple (cs.map .int)),.d (.int R),.d (.int U),.d (.tuple (ws.map Yk)),.own (fl R.toNat λ r=>W4 ws cs 0 (r:Nat)),.jnk,.jnk,.jnk,.jnk],.eq rfl,_,_,_,_,rfl,rfl,rfl,?_⟩
 refine ⟨λ i env j=>j=n/\∃ x y z t:Vl,env=[.d (J0 R U ws),.d (.tuple (cs.map .int)),.d (.int R),.d (.int U),.d (.tuple (ws.map Yk)),.own (fl R.toNat λ r=>W4 ws cs i (r:Nat)),x,y,z,t],⟨rfl,_,_,_,_,rfl⟩,?_,?_⟩
 . rintro i x env j hx ⟨rfl,x',y',z',t',rfl⟩
   rw [Jtm cl] at hx
   have hi:i<ws.length:=by
    have:=(Qp.mp hx).1
    rwa [Qb,Qx] at this
   rw [Jhf hi] at hx
   cases hx
   have wok:=ok.ways _ (J8 (k:=(i:Int)) (Xb i) (by omega))
   have a0:=wok.a0
   have a1:=wok.a1
   have b0:=wok.b0
   have b1:=wok.b1
   refine ⟨rfl,rfl,rfl,rfl,⟨_,a0,Jkd (by omega),?_⟩⟩
   refine ⟨[.d (J0 R U ws),.d (.tuple (cs.map .int)),.d (.int R),.d (.int U),.d (.tuple (ws.map Yk)),.own (fl R.toNat (putF (λ r=>W4 ws cs i (r:Nat)) (Jc ws (i:Int)).a.toNat (W4 ws cs i ((Jc ws (i:Int)).a.toNat:Nat)-cs.getD i 0))),.d (.int (Jc ws (i:Int)).a),.d (.int (Jc ws (i:Int)).b),.d (.tuple ((Jc ws (i:Int)).g.map .int)),.d (.int (cs.getD i 0))],.eq (by rw [<- Jg2];rfl),_,b0,Jkd (by omega),rfl,.d (.int (Jc ws (i:Int)).a),.d (.int (Jc ws (i:Int)).b),.d (.tuple ((Jc ws (i:Int)).g.map .int)),.d (.int (cs.getD i 0)),?_⟩
   rw [Jg2,<- Jw4 ok hi]
   rfl
 . rintro env j ⟨rfl,x,y,z,t,rfl⟩
   have lz:(Vh (ws.map Yk) (cs.map Qq)).length=ws.length:=by rw [Jtm cl,Qb,Qx]
   rw [lz]
   have er:fl R.toNat (λ r=>W4 ws cs ws.length (r:Nat))=(Qw R.toNat (0:Int)).map .int:=by
    rw [Js0 (g:=λ _=>0) (λ r hr=>ro.bal r hr)]
    unfold fl
    rw [J3c,J5i,Qx]
   rw [er]
   refine ⟨_,.fz 5 _ rfl .refl,Qw R.toNat (0:Int),rfl,?_⟩
   rw [show (Qw R.toNat (0:Int)).any (λ n=>decide (n≠0))=false from J5x.mpr λ x hx=>by rw [(J24.mp hx).2];decide]
   exact q
theorem Jnd:FnScope ["book","counts"] ["book","counts"] (Je Jde):=⟨rfl,rfl,rfl,by decide +kernel,rfl,by decide +kernel,by decide +kernel⟩
theorem Jne (T:Txt mg) (D:Def K mg "is_round" Jde ["book","counts"]) (Gn:Cal P w K mg base "are_numbers" 2 ["thing","many"] (Jj Jgi)) (Go:Cal P w K mg base "is_balanced" 1 ["book","counts"] (Jj Jlc)):Cal P w K mg base "is_round" 3 ["book","counts"] (Jj Jqa):=by
 refine D.cal λ f fd F=>F.ok Jnd (Jx ?_) (λ cdv A outer s H vs Q E hr h=>?_)
 . rintro as n P ⟨R,U,ws,cs,rfl,_⟩
   rfl
 refine ⟨_,(@Jg _ _ _ (@Jr _ _ _ _ (Ja5 (Yz Gn (hr.mono (by decide)) rfl (Ja (pv 1) (Zn (Jw Yh rfl T.b_len Uf (Y4 (Jo Ys (pv 0) Ji (λ _ _=>rfl)) Jd)) Jd))) (Ja5 (Jw (Jq1 rfl) rfl T.b_any boot_any (Ja (pv 1) Jd)) (Jai (Yz Go (hr.mono (by decide)) rfl (Ja (pv 0) (Ja (pv 1) Jd)))))))),Ju h ?_⟩
 rintro as n P ⟨R,U,ws,cs,rfl,ok,rd,q⟩
 have wl:=ok.len
 have cl:=rd.ro.len
 obtain ⟨k0,hk0⟩:=rd.ne
 refine ⟨rfl,_,rfl,cs,by rw [Qb,cl],rd.ro.nn,by omega,cs,rfl,?_⟩
 rw [show cs.any (λ n=>decide (n≠0))=true from ?_]
 . exact ⟨R,U,ws,cs,rfl,ok,rd.ro,q⟩
 have kl:k0<cs.length:=by
  rcases X1 k0 cs.length with z | z
  . exact z
  . rw [Qg,Qy z] at hk0
    exact absurd hk0 (by decide)
 rw [Qg,Qd kl] at hk0
 have hk0:0<cs[k0]:=hk0
 exact J77.mpr ⟨cs[k0],Xo kl,decide_eq_true (by omega)⟩
theorem Jc0:FnScope ["book","counts","rooms","purses","ways"] ["book","counts"] (Je Vx):=⟨rfl,rfl,rfl,by decide +kernel,rfl,by decide +kernel,by decide +kernel⟩
theorem Jiv (T:Txt mg) (D:Def K mg "round_gain" Vx ["book","counts"]):Cal P w K mg base "round_gain" 1 ["book","counts"] (Jj Jkr):=by
 refine D.cal λ f fd F=>F.ok Jc0 (Jx ?_) (λ cdv A outer s H vs Q E hr h=>?_)
 . rintro as n P ⟨R,U,ws,cs,rfl,_⟩
   rfl
 refine ⟨_,(@Jb _ _ _ _ _ (Ye (pv 0) (Vd (K':=K) (i:=2) (j:=3) (m:=4) rfl Jc0.nd ⟨rfl,(Qa rfl),(Qa rfl)⟩ ⟨rfl,(Qa rfl),(Qa rfl)⟩ ⟨rfl,(Qo rfl),(Qa rfl)⟩ rfl))
  (@Jg _ _ _ (@Jr _ _ _ _ (Ya Yf rfl T.b_tuple J9v (Wy (Jl4 (sc:=(Je Vx)) (N:=["book","counts","rooms","purses","ways"]) (N':=["p","counts","ways"]) (k:=1) (idx:=[1,4]) rfl (by exact ⟨rfl,by decide +kernel,by decide +kernel,by decide +kernel,by decide +kernel,by decide +kernel,rfl,rfl⟩) rfl rfl (Yg rfl T.b_range (Ja (pv 3) Jd)) (λ _ _ _ _=>(Jt (i:=0) (show (["p","counts","ways"]:List Str).Nodup by decide +kernel) rfl (Qo rfl) (Qa rfl))) (λ _ _ _ _=>Yc) (λ _ _ _ _=>(Jw (Jqy (K':=K) rfl rfl) rfl T.b_sum boot_sum (Wy (Yt (sc:=Jst _ (Je Vx)) (N:=["p","counts","ways"]) (N':=["count","way","p"]) (k:=2) (idx:=[0]) rfl (by exact ⟨rfl,by decide +kernel,by decide +kernel,by decide +kernel,by decide +kernel,by decide +kernel,rfl,rfl⟩) (Jvo rfl) rfl (by exact (Jpe (K':=K) rfl rfl T.b_zip (Ja (pv 1) (Ja (pv 2) Jd)))) (λ _ _ _ _=>(Yu (K':=K) (i:=0) (j:=1) rfl (show (["count","way","p"]:List Str).Nodup by decide +kernel) ⟨rfl,(Qa rfl),(Qo rfl)⟩ ⟨rfl,(Qa rfl),(Qo rfl)⟩ rfl)) (λ _ _ _ _=>Yc) (λ _ _ _ _=>(Jv Jc3 (pv 0) (Jo (Zo (K':=K) rfl) (Jo (Zo (K':=K) rfl) (pv 1) Ji (λ _ _=>rfl)) (pv 2) (λ _ _=>rfl))))) Jd)))) Jd))))),Ju h ?_⟩
 rintro as n P ⟨R,U,ws,cs,rfl,ok,hl,q⟩
 have hs:sizeLine=16777216:=J9n
 have wz:=ok.len
 have u0:=ok.p0
 have u1:=ok.p1
 refine ⟨rfl,rfl,rfl,⟨_,.refl,U,rfl,⟨by omega,by omega⟩,⟨rfl,by rw [J4];omega⟩,?_⟩⟩
 refine Vq (λ p=>.int (Jbb ws cs p).sum) (λ p hp n K hK=>W9 ?_) ?_
 . refine ⟨_,_,_,_,rfl,rfl,rfl,⟨rfl,by rw [Jth hl,Qb,Qx];omega⟩,?_⟩
   rw [Jth hl,U6]
   refine Vq (λ i=>.int (cs.getD i 0*(Jc ws (i:Int)).g.getD p 0)) (λ i hi n K hK=>⟨rfl,rfl,W9 ?_⟩) ?_
   . have wok:=ok.ways _ (J8 (ws:=ws) (k:=(i:Int)) (by omega) (by omega))
     refine ⟨_,rfl,_,J1s wok (by omega),?_,hK⟩
     right
     have gl:=wok.len
     have hp':p<(Jc ws (i:Int)).g.length:=by omega
     have:=wok.small ((Jc ws (i:Int)).g.getD p 0) (by rw [Qg,Qd hp'];exact Xo hp')
     exact ⟨by omega,by omega⟩
   . refine ⟨Jbb ws cs p,?_,rfl,hK⟩
     unfold Jbb
     rw [Qv];rfl
 . show P _ _
   unfold rgI at q
   rw [Qv] at q
   exact q
theorem Jrp:FnScope ["numbers","gains"] ["numbers","gains"] (Je Jek):=⟨rfl,rfl,rfl,by decide +kernel,rfl,by decide +kernel,by decide +kernel⟩
theorem Jrq (T:Txt mg) (D:Def K mg "put_to" Jek ["numbers","gains"]):Cal P w K mg base "put_to" 1 ["numbers","gains"] (Jj Jkt):=by
 refine D.cal λ f fd F=>F.ok Jrp (Jx ?_) (λ cdv A outer s H vs Q E hr h=>?_)
 . rintro as n P ⟨xs,gs,rfl,_⟩
   rfl
 refine ⟨_,(@Jg _ _ _ (@Jr _ _ _ _ (Ya Yf rfl T.b_tuple J9v (Wy (Yt (sc:=(Je Jek)) (N:=["numbers","gains"]) (N':=["number","more"]) (k:=2) (idx:=[]) rfl (by exact ⟨rfl,by decide +kernel,by decide +kernel,by decide +kernel,by decide +kernel,by decide +kernel,rfl,rfl⟩) rfl rfl (By rfl T.b_zip (Ja (pv 0) (Ja (pv 1) Jd))) (λ _ _ _ _=>(Yu (K':=K) (i:=0) (j:=1) rfl (show (["number","more"]:List Str).Nodup by decide +kernel) ⟨rfl,(Qa rfl),(Qo rfl)⟩ ⟨rfl,(Qa rfl),(Qo rfl)⟩ rfl)) (λ _ _ _ _=>Yc) (λ _ _ _ _=>(Jv Wa (pv 0) (pv 1)))) Jd)))),Ju h ?_⟩
 rintro as n P ⟨xs,gs,rfl,h1,h2,q⟩
 have hs:sizeLine=16777216:=J9n
 refine ⟨rfl,_,_,_,_,rfl,rfl,rfl,⟨rfl,by rw [V4,Qb,J4c];omega⟩,?_⟩
 rw [V4]
 refine Y6 (f:=λ p:Int×Int=>Ud [.int p.1,.int p.2]) (λ p:Int×Int=>Qq (p.1+p.2)) (λ p hp m K hK=>⟨rfl,rfl,W9 hK⟩) ?_
 have e:((xs.zip gs).map λ p=>Qq (p.1+p.2))=(Jcu xs gs).map .int:=by rw [Jtq,Qv];rfl
 rw [e]
 exact q
theorem Jcd:FnScope ["way","stand","a","b","gains","room","numbers"] ["way","stand"] (Je Jbm):=⟨rfl,rfl,rfl,by decide +kernel,rfl,by decide +kernel,by decide +kernel⟩
theorem Jnf (T:Txt mg) (D:Def K mg "leads_on" Jbm ["way","stand"]) (Gd:Cal P w K mg base "put_to" 1 ["numbers","gains"] (Jj Jkt)):Cal P w K mg base "leads_on" 2 ["way","stand"] (Jj Jd6):=by
 refine D.cal λ f fd F=>F.ok Jcd (Jx ?_) (λ cdv A outer s H vs Q E hr h=>?_)
 . rintro as n P ⟨way,st,rfl,_⟩
   rfl
 refine ⟨_,(@Jb _ _ _ _ _ (Ye (pv 0) (Vd (K':=K) (i:=2) (j:=3) (m:=4) rfl Jcd.nd ⟨rfl,(Qa rfl),(Qa rfl)⟩ ⟨rfl,(Qa rfl),(Qa rfl)⟩ ⟨rfl,(Qa rfl),(Qa rfl)⟩ rfl))
  (@Jb _ _ _ _ _ (Ye (pv 1) (Yu (K':=K) (i:=5) (j:=6) rfl Jcd.nd ⟨rfl,(Qa rfl),(Qa rfl)⟩ ⟨rfl,(Qa rfl),(Qa rfl)⟩ rfl))
  (@Jg _ _ _ (@Jr _ _ _ _ (Ja5 (Wd Jab (pv 2) (pv 5) (J6 _)) (Jai (Jw Jbw rfl T.b_all Yaj (Wy (Yt (sc:=(Je Jbm)) (N:=["way","stand","a","b","gains","room","numbers"]) (N':=["number"]) (k:=1) (idx:=[]) rfl (by exact ⟨rfl,by decide +kernel,by decide +kernel,by decide +kernel,by decide +kernel,by decide +kernel,rfl,rfl⟩) rfl rfl (Jnm (Yz Gd (hr.mono (by decide)) rfl (Ja (pv 6) (Ja (pv 4) Jd)))) (λ _ _ _ _=>(Jt (i:=0) (show (["number"]:List Str).Nodup by decide +kernel) rfl (Qa rfl) (Qo rfl))) (λ _ _ _ _=>Yc) (λ _ _ _ _=>(Wd Jo4 (pv 0) Ji (J6 _)))) Jd)))))))),Ju h ?_⟩
 rintro as n P ⟨way,⟨room,xs⟩,rfl,h1,h2,q⟩
 have hs:sizeLine=16777216:=J9n
 have h1:xs.length<=1000:=h1
 have h2:xs.length=way.g.length:=h2
 have q:P (.bool (decide (way.a=room)&&(Jcu xs way.g).all λ x=>decide (0<=x))) n:=q
 refine ⟨rfl,rfl,rfl,⟨[.d (Yk way),.d (Jdu room xs),.d (.int way.a),.d (.int way.b),.d (.tuple (way.g.map .int)),.jnk,.jnk],.eq rfl,rfl,rfl,⟨[.d (Yk way),.d (Jdu room xs),.d (.int way.a),.d (.int way.b),.d (.tuple (way.g.map .int)),.d (.int room),.d (.tuple (xs.map .int))],.eq rfl,?_⟩⟩⟩
 refine Jg1 ?_
 by_cases e:way.a=room
 . rw [decide_eq_true e]
   rw [decide_eq_true e,J45] at q
   refine ⟨xs,way.g,rfl,h1,h2,⟨rfl,by rw [Qb,Jlz];omega⟩,?_⟩
   refine Y6 (λ x=>J4a (decide (0<=x))) (λ x hx m K hK=>W9 hK) ?_
   refine ⟨(Jcu xs way.g).map λ x=>decide (0<=x),by rw [Qv];rfl,rfl,?_⟩
   rw [List.all_map]
   exact q
 . rw [decide_eq_false e]
   rw [decide_eq_false e,J3u] at q
   exact q
theorem Jrr:FnScope ["book","stand"] ["book","stand"] (Je Jel):=⟨rfl,rfl,rfl,by decide +kernel,rfl,by decide +kernel,by decide +kernel⟩
theorem Jrs (T:Txt mg) (D:Def K mg "can_do" Jel ["book","stand"]) (Ge:Cal P w K mg base "leads_on" 2 ["way","stand"] (Jj Jd6)):Cal P w K mg base "can_do" 3 ["book","stand"] (Zh Job):=by
 refine D.cal λ f fd F=>F.ok Jrr (Vp ?_) (λ cdv A outer s H vs Q E hr h=>?_)
 . rintro as n P ⟨R,U,ws,st,rfl,_⟩
   rfl
 refine ⟨_,(@Jg _ _ _ (@Jr _ _ _ _ (Yt (sc:=(Je Jel)) (N:=["book","stand"]) (N':=["k","way","stand"]) (k:=2) (idx:=[1]) rfl (by exact ⟨rfl,by decide +kernel,by decide +kernel,by decide +kernel,by decide +kernel,by decide +kernel,rfl,rfl⟩) rfl rfl (Jj3 rfl T.b_enumerate (Y4 (Jo Ys (pv 0) Ji (λ _ _=>rfl)) Jd)) (λ _ _ _ _=>(Yu (K':=K) (i:=0) (j:=1) rfl (show (["k","way","stand"]:List Str).Nodup by decide +kernel) ⟨rfl,(Qa rfl),(Qo rfl)⟩ ⟨rfl,(Qa rfl),(Qo rfl)⟩ rfl)) (λ _ _ _ _=>Jcj (W5 (Yz Ge (hr.mono (by decide)) rfl (Ja (pv 1) (Ja (pv 2) Jd))))) (λ _ _ _ _=>(pv 0))))),Wp h ?_⟩
 rintro as n P ⟨R,U,ws,st,rfl,ok,hU,q⟩
 have hs:sizeLine=16777216:=J9n
 have wl:=ok.len
 have p1:=ok.p1
 refine ⟨rfl,_,Yl (by decide) rfl,_,_,rfl,rfl,⟨rfl,by rw [Jhk,Qb,Qx];omega⟩,?_⟩
 rw [Jhk]
 refine Jbe (p:=λ i=>Jjd (Jc ws ((i:Nat):Int)).a st.1 st.2 (Jc ws ((i:Nat):Int)).g) (h:=λ i=>Qq ((i:Nat):Int)) (λ i hi K h1 h2=>?_) ?_
 . have hi:=Q6.mp hi
   have wok:=(ok.ways _ (J8 (ws:=ws) (k:=((i:Nat):Int)) (by omega) (by omega))).len
   exact ⟨rfl,rfl,Jc ws ((i:Nat):Int),st,rfl,by omega,by omega,Wf (λ c=>h1 c) (λ c=>h2 c)⟩
 . unfold Jd5 at q
   rw [Qv] at q
   exact q
theorem Jfa:FnScope ["book","stand","k","way","a","b","gains"] ["book","stand","k"] (Je Jh8):=⟨rfl,rfl,rfl,by decide +kernel,rfl,by decide +kernel,by decide +kernel⟩
theorem Jrt (T:Txt mg) (D:Def K mg "behind" Jh8 ["book","stand","k"]) (Gf:Cal P w K mg base "has_way" 3 ["book","k"] (Jj Jdy)) (Ge:Cal P w K mg base "leads_on" 2 ["way","stand"] (Jj Jd6)) (Gd:Cal P w K mg base "put_to" 1 ["numbers","gains"] (Jj Jkt)):Cal P w K mg base "behind" 4 ["book","stand","k"] (Jj Joc):=by
 refine D.cal λ f fd F=>F.ok Jfa (Jx ?_) (λ cdv A outer s H vs Q E hr h=>?_)
 . rintro as n P ⟨R,U,ws,st,k,rfl,_⟩
   rfl
 refine ⟨_,(@Jb _ _ _ _ _ (Z5 (Jah (W5 (Yz Gf (hr.mono (by decide)) rfl (Ja (pv 0) (Ja (pv 2) Jd))))) Jcf Yj)
  (@Jb _ _ _ _ _ (Jz (i:=3) Jfa.nd rfl (Qa rfl) (Jo Ys (Jo Ys (pv 0) Ji (λ _ _=>rfl)) (pv 2) (λ _ _=>rfl)))
  (@Jb _ _ _ _ _ (Z5 (Jah (W5 (Yz Ge (hr.mono (by decide)) rfl (Ja (pv 3) (Ja (pv 1) Jd))))) Jcf Yj)
  (@Jb _ _ _ _ _ (Ye (pv 3) (Vd (K':=K) (i:=4) (j:=5) (m:=6) rfl Jfa.nd ⟨rfl,(Qa rfl),(Qa rfl)⟩ ⟨rfl,(Qa rfl),(Qa rfl)⟩ ⟨rfl,(Qa rfl),(Qa rfl)⟩ rfl))
  (@Jg _ _ _ (@Jr _ _ _ _ (@PEs.out _ _ _ (Wz (Zz (J7 (pv 5)) (Wo (J7 (Yz Gd (hr.mono (by decide)) rfl (Y4 (Jo Ys (pv 1) Ji (λ _ _=>rfl)) (Ja (pv 6) Jd)))) J5)))))))))),Ju h ?_⟩
 rintro as n P ⟨R,U,ws,⟨room,xs⟩,k,rfl,ok,hU,hk,q⟩
 obtain ⟨⟨k0,k1⟩,hl⟩:=Jv9 hk
 have hU:(xs.length:Int)=U:=hU
 have hl:Jjd (Jc ws k).a room xs (Jc ws k).g=true:=hl
 have wok:=(ok.ways _ (J8 k0 k1)).len
 have p1:=ok.p1
 refine ⟨rfl,R,U,ws,k,rfl,⟨k0,k1⟩,Jbv ⟨_,.refl,_,Yl (by decide) rfl,_,B5 k0 k1,⟨[.d (J0 R U ws),.d (Jdu room xs),.d (.int k),.d (Yk (Jc ws k)),.jnk,.jnk,.jnk],.eq rfl,?_⟩⟩⟩
 refine ⟨Jc ws k,(room,xs),rfl,by show xs.length<=1000;omega,by show xs.length=_;omega,?_⟩
 show if (!Jjd (Jc ws k).a room xs (Jc ws k).g)=true then _ else _
 rw [hl]
 refine Jbv ⟨_,.refl,rfl,rfl,⟨[.d (J0 R U ws),.d (Jdu room xs),.d (.int k),.d (Yk (Jc ws k)),.d (.int (Jc ws k).a),.d (.int (Jc ws k).b),.d (.tuple ((Jc ws k).g.map .int))],.eq rfl,?_⟩⟩
 exact ⟨_,Yl (by decide) rfl,xs,(Jc ws k).g,rfl,by omega,by omega,Jaw,q⟩
theorem Y1:FnScope ["book","some","rooms","purses","ways","leads","k","a","b","gains","middle","room"] ["book","some"] (Je Zk):=⟨rfl,rfl,rfl,by decide +kernel,rfl,by decide +kernel,by decide +kernel⟩
theorem Jfb (T:Txt mg) (D:Def K mg "rooms_reached" Zk ["book","some"]):Cal P w K mg base "rooms_reached" 1 ["book","some"] (Jj Jko):=by
 refine D.cal λ f fd F=>F.ok Y1 (Jx ?_) (λ cdv A outer s H vs Q E hr h=>?_)
 . rintro as n P ⟨R,U,ws,ks,rfl,_⟩
   rfl
 refine ⟨_,(@Jb _ _ _ _ _ (Ye (pv 0) (Vd (K':=K) (i:=2) (j:=3) (m:=4) rfl Y1.nd ⟨rfl,(Qo rfl),(Qa rfl)⟩ ⟨rfl,(Qa rfl),(Qa rfl)⟩ ⟨rfl,(Qa rfl),(Qa rfl)⟩ rfl))
  (@Jb _ _ _ _ _ (Jvw (Jfo (i:=5) (sc:=(Je Zk)) (N:=["book","some","rooms","purses","ways","leads","k","a","b","gains","middle","room"]) (N':=["room","rooms"]) (k:=1) (idx:=[2]) rfl Y1.nd rfl rfl (by exact ⟨rfl,by decide +kernel,by decide +kernel,by decide +kernel,by decide +kernel,by decide +kernel,rfl,rfl⟩) rfl rfl (Yg rfl T.b_range (Ja (pv 2) Jd)) (λ _ _ _ _=>(Jt (i:=0) (show (["room","rooms"]:List Str).Nodup by decide +kernel) rfl (Qo rfl) (Qa rfl))) (λ _ _ _ _=>Yc) (λ _ _ _ _=>(Yt (sc:=Jst _ (Je Zk)) (N:=["room","rooms"]) (N':=["other","room"]) (k:=1) (idx:=[0]) rfl (by exact ⟨rfl,by decide +kernel,by decide +kernel,by decide +kernel,by decide +kernel,by decide +kernel,rfl,rfl⟩) (Jvo rfl) rfl (by exact (Yg rfl T.b_range (Ja (pv 1) Jd))) (λ _ _ _ _=>(Jt (i:=0) (show (["other","room"]:List Str).Nodup by decide +kernel) rfl (Qa rfl) (Qo rfl))) (λ _ _ _ _=>Yc) (λ _ _ _ _=>(Wd Jab (pv 1) (pv 0) (J6 _)))))))
  (@Jb _ _ _ _ _ (Zy Xp rfl (Zm (pv 1)) (Jt (i:=6) Y1.nd rfl (Qa rfl) (Qa rfl))
  (@Jb _ _ _ _ _ (Ye (Jo Ys (pv 4) (pv 6) (λ _ _=>rfl)) (Vd (K':=K) (i:=7) (j:=8) (m:=9) rfl Y1.nd ⟨rfl,(Qa rfl),(Qa rfl)⟩ ⟨rfl,(Qa rfl),(Qa rfl)⟩ ⟨rfl,(Qa rfl),(Qa rfl)⟩ rfl))
  (@Jg _ _ _ (Ye Jbq (Z9 (Jo Js (pv 5) (pv 7) (λ _ _=>rfl)) (pv 8) Yr (λ v=>J2 _ _ _ _ _ v))))))
  (@Jb _ _ _ _ _ (Zy Xp rfl (Yg rfl T.b_range (Ja (pv 2) Jd)) (Jt (i:=10) Y1.nd rfl (Qa rfl) (Qa rfl))
  (@Jg _ _ _ (Zy Xp rfl (Yg rfl T.b_range (Ja (pv 2) Jd)) (Jt (i:=11) Y1.nd rfl (Qa rfl) (Qa rfl))
  (@Jg _ _ _ (Z5 (W5 (Jo Js (Jo Js (pv 5) (pv 11) (λ _ _=>rfl)) (pv 10) (λ _ _=>rfl))) (@Jg _ _ _ (Jpi (Ye (Yt (sc:=(Je Zk)) (N:=["book","some","rooms","purses","ways","leads","k","a","b","gains","middle","room"]) (N':=["now","then"]) (k:=2) (idx:=[]) rfl (by exact ⟨rfl,by decide +kernel,by decide +kernel,by decide +kernel,by decide +kernel,by decide +kernel,rfl,rfl⟩) rfl rfl (Jvy (Jpe (K':=K) rfl rfl T.b_zip (Y4 (Jo Js (pv 5) (pv 11) (λ _ _=>rfl)) (Y4 (Jo Js (pv 5) (pv 10) (λ _ _=>rfl)) Jd)))) (λ _ _ _ _=>(Yu (K':=K) (i:=0) (j:=1) rfl (show (["now","then"]:List Str).Nodup by decide +kernel) ⟨rfl,(Qa rfl),(Qo rfl)⟩ ⟨rfl,(Qa rfl),(Qo rfl)⟩ rfl)) (λ _ _ _ _=>Yc) (λ _ _ _ _=>(Jw8 (pv 0) (Jai (pv 1))))) (Z9 (pv 5) (pv 11) Yr (λ v=>J2 _ _ _ _ _ v))))) Yj)))))
  (@Jg _ _ _ (@Jr _ _ _ _ (pv 5))))))),Ju h ?_⟩
 rintro as n P ⟨R,U,ws,ks,rfl,ok,hk,q⟩
 have r0:=ok.r0
 have r1:=ok.r1
 have hs:sizeLine=16777216:=J9n
 have hR:((R.toNat:Nat):Int)=R:=J3f (by omega)
 refine ⟨rfl,rfl,rfl,⟨_,.refl,?_⟩⟩
 refine ⟨R,rfl,⟨by omega,by omega⟩,⟨rfl,by rw [J4];omega,?_⟩,?_⟩
 . unfold Jfx
   rw [X3]
   intro x hx
   obtain ⟨b,_,rfl⟩:=Qn.mp hx
   rfl
 refine Jmf (λ a=>B7 R.toNat (pw0 []) a) (Ql R.toNat) (λ i hi K hK=>?_) ?_
 . refine ⟨R,rfl,⟨by omega,by omega⟩,⟨rfl,by rw [J4];omega⟩,?_⟩
   refine Vq (λ j=>.bool (pw0 [] i j)) (λ j hj n K hK=>W9 (Jg1 ?_)) hK
   have:decide ((0+(i:Int))=0+(j:Int))=pw0 [] i j:=by
    unfold pw0
    rw [decide_eq_false (p:=(i,j)∈[]) (by simp),J44]
    exact decide_eq_decide.mpr (by omega)
   rw [this]
   exact hK
 intro ps hps
 refine ⟨_,.refl,?_⟩
 refine ⟨λ i env n'=>n'=n/\∃ (ps:List (Addr×List J9h)) (x6 x7 x8 x9:Vl),env=[.d (J0 R U ws),.d (.list (ks.map .int)),.d (.int R),.d (.int U),.d (.tuple (ws.map Yk)),.own2 none ps,x6,x7,x8,x9,.jnk,.jnk]/\ps.map (·.2)=Bi R.toNat (pw0 (Ym ws (ks.take i))),⟨rfl,ps,_,_,_,_,rfl,hps⟩,?_,?_⟩
 . rintro i x env n' hx ⟨rfl,ps,x6,x7,x8,x9,rfl,hps⟩
   rw [Qh] at hx
   obtain ⟨k,hki,rfl⟩:=X7.mp hx
   obtain ⟨k0,k1⟩:=hk k (Xg hki)
   have wok:=ok.ways _ (J8 k0 k1)
   have a0:=wok.a0
   have a1:=wok.a1
   have b0:=wok.b0
   have b1:=wok.b1
   have ha:(Jc ws k).a.toNat<R.toNat:=by omega
   have hb:(Jc ws k).b.toNat<R.toNat:=by omega
   obtain ⟨p,hp,ep⟩:=Jmd hps (Jax (f:=pw0 (Ym ws (ks.take i))) ha)
   refine ⟨_,B5 k0 k1,rfl,rfl,⟨_,.refl,?_⟩⟩
   refine ⟨_,p,Jba a0 (by rw [Jha hps,B8];omega),hp,_,Jba b0 (by rw [ep,Jb5];omega),rfl,_,_,_,_,_,rfl,?_⟩
   rw [Jq6 hki,ep]
   exact Jme hps (Jv0 ha hb)
 . rintro env _ ⟨rfl,ps,x6,x7,x8,x9,rfl,hps⟩
   rw [Qb,J5j,Jzq] at hps
   refine ⟨_,.refl,R,rfl,⟨by omega,by omega⟩,λ m env k=>k=_/\∃ (ps:List (Addr×List J9h)) (x6 x7 x8 x9 x10 x11:Vl),env=[.d (J0 R U ws),.d (.list (ks.map .int)),.d (.int R),.d (.int U),.d (.tuple (ws.map Yk)),.own2 none ps,x6,x7,x8,x9,x10,x11]/\ps.map (·.2)=Bi R.toNat (Pw (Ym ws ks) m),⟨rfl,ps,_,_,_,_,_,_,rfl,hps⟩,?_,?_⟩
   . rintro m x env _ hx ⟨rfl,ps,x6,x7,x8,x9,x10,x11,rfl,hps⟩
     obtain ⟨hm,rfl⟩:=Jpk hx
     refine ⟨R,rfl,⟨by omega,by omega⟩,λ r env k=>k=_/\∃ (ps:List (Addr×List J9h)) (x11:Vl),env=[.d (J0 R U ws),.d (.list (ks.map .int)),.d (.int R),.d (.int U),.d (.tuple (ws.map Yk)),.own2 none ps,x6,x7,x8,x9,.d (.int m),x11]/\ps.map (·.2)=Bi R.toNat (pwR (Ym ws ks) m r),⟨rfl,ps,_,rfl,by rw [J1r];exact hps⟩,?_,?_⟩
     . rintro r x env _ hx ⟨rfl,ps,x11,rfl,hps⟩
       obtain ⟨hr',rfl⟩:=Jpk hx
       refine ⟨_,Jkk hps (Xb r) (by omega),_,Jkl (Xb m) (by omega),Wf (λ c=>?_) (λ c=>?_)⟩
       . rw [Q0,Q0,Jhb] at c
         refine ⟨_,Jkk hps (Xb r) (by omega),_,Jkk hps (Xb m) (by omega),_,_,_,_,rfl,rfl,rfl,⟨Jjj,Jjj⟩,⟨rfl,?_⟩,?_⟩
         . rw [Jpj,Qb,Qx];omega
         rw [Q0,Q0,Jpj]
         refine Vq (λ b=>.bool (pwR (Ym ws ks) m r r b||pwR (Ym ws ks) m r m b)) (λ j hj n K hK=>⟨rfl,rfl,W9 (Wf (λ e=>?_) (λ e=>?_))⟩) ?_
         . rw [e,J83] at hK;exact hK
         . rw [e,J84] at hK;exact hK
         . exact ⟨r,by rw [Jba (Xb r) (by rw [Jha hps,B8];omega),Q0],λ b=>⟨rfl,_,_,rfl,Jme hps (Jv1 hr' c)⟩⟩
       . rw [Q0,Q0,Jhb] at c
         exact ⟨rfl,ps,_,rfl,by rw [hps];exact Jzp c⟩
     . rintro env _ ⟨rfl,ps,x11,rfl,hps⟩
       rw [J4,Jv2] at hps
       exact ⟨rfl,ps,_,_,_,_,_,_,rfl,hps⟩
   . rintro env _ ⟨rfl,ps,x6,x7,x8,x9,x10,x11,rfl,hps⟩
     rw [J4] at hps
     refine ⟨_,.fz2 5 ps rfl .refl,?_⟩
     show P _ _
     rw [Js6 hps]
     exact q
theorem Ww:FnScope ["book","some","rooms","purses","ways","leads","rings","k","a","b","gains","least"] ["book","some"] (Je Jbn):=⟨rfl,rfl,rfl,by decide +kernel,rfl,by decide +kernel,by decide +kernel⟩
theorem Jng (T:Txt mg) (D:Def K mg "rings_of" Jbn ["book","some"]) (Gp:Cal P w K mg base "rooms_reached" 1 ["book","some"] (Jj Jko)):Cal P w K mg base "rings_of" 2 ["book","some"] (Jj Jf7):=by
 refine D.cal λ f fd F=>F.ok Ww (Jx ?_) (λ cdv A outer s H vs Q E hr h=>?_)
 . rintro as n P ⟨R,U,ws,ks,rfl,_⟩
   rfl
 refine ⟨_,(@Jb _ _ _ _ _ (Ye (pv 0) (Vd (K':=K) (i:=2) (j:=3) (m:=4) rfl Ww.nd ⟨rfl,(Qa rfl),(Qa rfl)⟩ ⟨rfl,(Qa rfl),(Qa rfl)⟩ ⟨rfl,(Qa rfl),(Qa rfl)⟩ rfl))
  (@Jb _ _ _ _ _ (Jz (i:=5) Ww.nd rfl (Qo rfl) (Yz Gp (hr.mono (by decide)) rfl (Ja (pv 0) (Ja (pv 1) Jd))))
  (@Jb _ _ _ _ _ (Jte (Jz (i:=6) Ww.nd rfl (Qa rfl) Jsh))
  (@Jb _ _ _ _ _ (Zy Xp rfl (Zm (pv 1)) (Jt (i:=7) Ww.nd rfl (Qa rfl) (Qa rfl))
  (@Jb _ _ _ _ _ (Ye (Jo Ys (pv 4) (pv 7) (λ _ _=>rfl)) (Vd (K':=K) (i:=8) (j:=9) (m:=10) rfl Ww.nd ⟨rfl,(Qo rfl),(Qa rfl)⟩ ⟨rfl,(Qa rfl),(Qa rfl)⟩ ⟨rfl,(Qa rfl),(Qa rfl)⟩ rfl))
  (@Jg _ _ _ (Z5 (W5 (Jo Js (Jo Js (pv 5) (pv 9) (λ _ _=>rfl)) (pv 8) (λ _ _=>rfl))) (@Jb _ _ _ _ _ (Jz (i:=11) Ww.nd rfl (Qa rfl) (Jw (Jjc rfl) rfl T.b_min Yai (Wy (Yt (sc:=(Je Jbn)) (N:=["book","some","rooms","purses","ways","leads","rings","k","a","b","gains","least"]) (N':=["room","leads","a"]) (k:=1) (idx:=[5,8]) rfl (by exact ⟨rfl,by decide +kernel,by decide +kernel,by decide +kernel,by decide +kernel,by decide +kernel,rfl,rfl⟩) rfl rfl (Yg rfl T.b_range (Ja (pv 2) Jd)) (λ _ _ _ _=>(Jt (i:=0) (show (["room","leads","a"]:List Str).Nodup by decide +kernel) rfl (Qa rfl) (Qo rfl))) (λ _ _ _ _=>Jcj (PW.pt (Jc1 (W5 (Jo (Jb0 (K':=K) rfl) (Jo (Jb0 (K':=K) rfl) (pv 1) (pv 2) (λ _ _=>rfl)) (pv 0) (λ _ _=>rfl))) (Ja4 (W5 (Jo (Jb0 (K':=K) rfl) (Jo (Jb0 (K':=K) rfl) (pv 1) (pv 0) (λ _ _=>rfl)) (pv 2) (λ _ _=>rfl))))))) (λ _ _ _ _=>(pv 0))) Jd)))
  (@Jg _ _ _ (Ja6 (Ji6 J3q J3r J3s Vm (Jta (pv 6) (pv 11) (@PEs.out _ _ _ (Y9 J5)) ⟨rfl,rfl,rfl,rfl⟩) (Ja (pv 7) Jd))))) Yj))))
  (@Jg _ _ _ (@Jr _ _ _ _ (Jtb hr.hd rfl T.b_list (pv 6)))))))),Ju h ?_⟩
 rintro as n P ⟨R,U,ws,ks,rfl,ok,hk,hl,q⟩
 have r0:=ok.r0
 have r1:=ok.r1
 have hs:sizeLine=16777216:=J9n
 have hR:((R.toNat:Nat):Int)=R:=J3f (by omega)
 refine ⟨rfl,rfl,rfl,⟨_,.refl,?_⟩⟩
 refine ⟨R,U,ws,ks,rfl,ok,hk,⟨_,.refl,⟨_,.refl,?_⟩⟩⟩
 refine ⟨λ i env n'=>n'=n/\∃ (keys:List Key) (ps:List (Addr×List J9h)) (x7 x8 x9 x10 x11:Vl),env=[.d (J0 R U ws),.d (.list (ks.map .int)),.d (.int R),.d (.int U),.d (.tuple (ws.map Yk)),.d (Jkn R.toNat (Ym ws ks)),.own2 (some keys) ps,x7,x8,x9,x10,x11]/\RingInv i (Ve R.toNat (Ym ws ks) ws (ks.take i)) keys ps,⟨rfl,[],[],_,_,_,_,_,rfl,⟨rfl,rfl,List.nodup_nil,Qm _,λ p hp=>by cases hp⟩⟩,?_,?_⟩
 . rintro i x env _ hx ⟨rfl,keys,ps,x7,x8,x9,x10,x11,rfl,hi⟩
   rw [Qh] at hx
   obtain ⟨k,hki,rfl⟩:=X7.mp hx
   obtain ⟨k0,k1⟩:=hk k (Xg hki)
   have il:=(Qp.mp hki).1
   have wok:=ok.ways _ (J8 k0 k1)
   have a0:=wok.a0
   have a1:=wok.a1
   have b0:=wok.b0
   have b1:=wok.b1
   have ha:(Jc ws k).a.toNat<R.toNat:=by omega
   have hg:=Jkq (R:=R.toNat) (es:=Ym ws ks) (ws:=ws) hki
   refine ⟨_,B5 k0 k1,rfl,rfl,⟨_,.refl,_,Jhe b0 (by omega),_,Jkl a0 (by omega),Wf (λ c=>?_) (λ c=>?_)⟩⟩
   . rw [Zp,if_pos c] at hg
     refine ⟨R,rfl,⟨by omega,by omega⟩,⟨rfl,by rw [J4];omega⟩,?_⟩
     refine Jke (λ x=>Pw (Ym ws ks) R.toNat (Jc ws k).a.toNat x&&Pw (Ym ws ks) R.toNat x (Jc ws k).a.toNat) (λ j=>.int (j:Int)) (λ j hj n K h1 h2=>?_) ?_
     . rw [U6]
       refine ⟨_,Jhe a0 (by omega),_,Jkl (Xb j) (by omega),Wf (λ c1=>⟨_,Jhe (Xb j) (by omega),_,Jkl a0 (by omega),Wf (λ c2=>?_) (λ c2=>?_)⟩) (λ c1=>Jbv ?_)⟩
       . rw [Q0] at c1 c2
         exact h1 (by rw [c1,c2];rfl)
       . rw [Q0] at c1 c2
         exact h2 (by rw [c1,c2];rfl)
       . rw [Q0] at c1
         exact h2 (by rw [c1];rfl)
     refine ⟨(Yw R.toNat (Ym ws ks) (Jc ws k).a.toNat).map (λ j:Nat=>(j:Int)),?_,?_,λ m hm hmin=>?_⟩
     . rw [Qv];rfl
     . exact λ z=>by
        have:=Jhd (es:=Ym ws ks) ha
        rw [J5d.mp z] at this
        cases this
     rw [Jtf hm hmin]
     have pl:ps.length<1000000:=by
      have e:=congrArg J55 hi.rw
      rw [Qb,Qb] at e
      have:=hi.gl
      omega
     refine ⟨_,.refl,Xz _,rfl,λ hin m p hm hp=>⟨?_,rfl,keys,_,_,_,_,_,_,rfl,by rw [hg];exact (hi.add hm hp).2⟩,λ hout=>⟨pl,λ b=>⟨rfl,_,_,_,_,_,_,_,rfl,by rw [hg];exact hi.new hout b⟩⟩⟩
     have:=(hi.add (k:=k) hm hp).1
     omega
   . rw [Zp,if_neg (by rw [c];exact Xe)] at hg
     exact ⟨rfl,_,_,_,_,_,_,_,rfl,by rw [hg];exact hi.up⟩
 . rintro env _ ⟨rfl,keys,ps,x7,x8,x9,x10,x11,rfl,hi⟩
   rw [Qb,J5j] at hi
   refine ⟨_,.refl,?_⟩
   show P _ _
   rw [Jq7 hi]
   exact q
theorem Zq:FnScope ["numbers","divisor","number","rest"] ["numbers"] (Je V6):=⟨rfl,rfl,rfl,by decide +kernel,rfl,by decide +kernel,by decide +kernel⟩
theorem Jem (T:Txt mg) (D:Def K mg "common_divisor" V6 ["numbers"]):Cal P w K mg base "common_divisor" 1 ["numbers"] (Jj Jec):=by
 refine D.cal λ f fd F=>F.ok Zq (Jx ?_) (λ cdv A outer s H vs Q E hr h=>?_)
 . rintro as n P ⟨ns,rfl,_⟩
   rfl
 refine ⟨_,(@Jb _ _ _ _ _ (Jz (i:=1) Zq.nd rfl (Qa rfl) Ji)
  (@Jb _ _ _ _ _ (Zy Xp rfl (Zm (pv 0)) (Jt (i:=2) Zq.nd rfl (Qa rfl) (Qa rfl))
  (@Jb _ _ _ _ _ (Jz (i:=3) Zq.nd rfl (Qa rfl) (Jw Jr9 rfl T.b_abs boot_abs (Ja (pv 2) Jd)))
  (@Jg _ _ _ (Jll Xp (Yb Jfg (pv 3) Ji (J6 _))
  (@Jg _ _ _ (Jnj (i:=1) (j:=3) rfl Zq.nd rfl rfl (by decide) rfl rfl (Ja (pv 3) (Bx (Jv Bu (pv 1) (pv 3)) Jd)) rfl))))))
  (@Jg _ _ _ (@Jr _ _ _ _ (pv 1))))),Ju h ?_⟩
 rintro as n P ⟨ns,rfl,q⟩
 refine ⟨rfl,_,.refl,?_⟩
 refine ⟨λ i env n'=>n'=n/\∃ x y:Vl,env=[.d (.list (ns.map .int)),.d (.int ((Zg (ns.take i):Nat):Int)),x,y],⟨rfl,_,_,rfl⟩,?_,?_⟩
 . rintro i x env n' hx ⟨rfl,_,_,rfl⟩
   rw [Qh] at hx
   obtain ⟨k,hk,rfl⟩:=X7.mp hx
   refine ⟨_,.refl,?_⟩
   refine ⟨λ m env j=>j=n'/\∃ g:Nat,env=[.d (.list (ns.map .int)),.d (.int ((g:Nat):Int)),.d (.int k),.d (.int ((m:Nat):Int))]/\J3d g m=Zg (ns.take (i+1)),⟨k.natAbs,rfl,Zg (ns.take i),?_,(Jt8 hk).symm⟩,?_⟩
   . show [Vl.d (.list (ns.map .int)),_,_,Vl.d (.int (if k<0 then -k else k))]=_
     rw [show (if k<0 then -k else k)=(k.natAbs:Int) by split<;>omega]
   . rintro m _ _ ⟨rfl,g,rfl,hg⟩
     refine Wf (λ c=>?_) (λ c=>?_)
     . have hm:0<m:=by have:=of_decide_eq_true c;omega
       refine ⟨by omega,_,_,rfl,g%m,Nat.mod_lt _ hm,rfl,m,?_,?_⟩
       . rfl
       . rw [<- hg,Nat.gcd_comm m,<- Nat.gcd_rec,Nat.gcd_comm]
     . have hm:m=0:=by have:=of_decide_eq_false c;omega
       subst hm
       rw [Nat.gcd_zero_right] at hg
       exact ⟨rfl,_,_,by rw [hg]⟩
 . rintro env n' ⟨rfl,_,_,rfl⟩
   rw [Qb,J5j]
   exact ⟨_,.refl,q⟩
theorem Jaa:FnScope ["numbers","divisor"] ["numbers"] (Je Wg):=⟨rfl,rfl,rfl,by decide +kernel,rfl,by decide +kernel,by decide +kernel⟩
theorem Jdi (T:Txt mg) (D:Def K mg "without_divisor" Wg ["numbers"]) (Gq:Cal P w K mg base "common_divisor" 1 ["numbers"] (Jj Jec)):Cal P w K mg base "without_divisor" 2 ["numbers"] (Zh Jga):=by
 refine D.cal λ f fd F=>F.ok Jaa (Vp ?_) (λ cdv A outer s H vs Q E hr h=>?_)
 . rintro as n P ⟨ns,rfl,_⟩
   rfl
 refine ⟨_,(@Jb _ _ _ _ _ (Jz (i:=1) Jaa.nd rfl (Qo rfl) (Yz Gq (hr.mono (by decide)) rfl (Ja (pv 0) Jd)))
  (@Jg _ _ _ (@Jr _ _ _ _ (Yt (sc:=(Je Wg)) (N:=["numbers","divisor"]) (N':=["number","divisor"]) (k:=1) (idx:=[1]) rfl (by exact ⟨rfl,by decide +kernel,by decide +kernel,by decide +kernel,by decide +kernel,by decide +kernel,rfl,rfl⟩) rfl rfl (Zm (pv 0)) (λ _ _ _ _=>(Jt (i:=0) (show (["number","divisor"]:List Str).Nodup by decide +kernel) rfl (Qa rfl) (Qo rfl))) (λ _ _ _ _=>Yc) (λ _ _ _ _=>(Jv Jbx (pv 0) (pv 1))))))),Wp h ?_⟩
 rintro as n P ⟨ns,rfl,hl,h0,h1,q⟩
 have hs:sizeLine=16777216:=J9n
 refine ⟨rfl,ns,rfl,_,.refl,⟨rfl,by rw [Qb];omega⟩,?_⟩
 refine Y6 (f:=Qq) (λ x=>.int (x/((Zg ns:Nat):Int))) (λ x hx n K hk=>W9 ⟨Jby (by omega) h1,hk⟩) ?_
 rw [Qv] at q
 exact q
theorem Vy:FnScope ["self","other","row","place","by","times","fresh"] ["self","other","row","place"] (Je W2):=⟨rfl,rfl,rfl,by decide +kernel,rfl,by decide +kernel,by decide +kernel⟩
theorem Jen {C:Addr}(T:Txt mg) (Y:TableOk K C) (D:DefM K C "without" "Table.without" W2 ["self","other","row","place"]):Wj P w K mg base C "without" 1 ["self","other","row","place"] (Zh (Jof C)):=by
 refine D.cal Y.c λ f fd F=>F.ok Vy (Vp ?_) (λ cdv A outer s H vs Q E hr h=>?_)
 . rintro as n P ⟨z,T,other,row,k,rfl,_⟩
   rfl
 refine ⟨_,(@Jb _ _ _ _ _ (Ye (@PEs.out _ _ _ (Wz (Jdr (J7 (Jo Js (pv 2) (pv 3) (λ _ _=>rfl))) (Jdr (J7 (Jo Js (pv 1) (pv 3) (λ _ _=>rfl))) J5)))) (Yu (K':=K) (i:=4) (j:=5) rfl Vy.nd ⟨rfl,(Qo rfl),(Qa rfl)⟩ ⟨rfl,(Qo rfl),(Qa rfl)⟩ rfl))
  (@Jb _ _ _ _ _ (Wn (i:=6) (sc:=(Je W2)) (N:=["self","other","row","place","by","times","fresh"]) (N':=["number","more","by","times","self"]) (k:=2) (idx:=[4,5,0]) rfl Vy.nd rfl rfl (by exact ⟨rfl,by decide +kernel,by decide +kernel,by decide +kernel,by decide +kernel,by decide +kernel,rfl,rfl⟩) rfl rfl (By rfl T.b_zip (Ja (pv 1) (Ja (pv 2) Jd))) (λ _ _ _ _=>(Yu (K':=K) (i:=0) (j:=1) rfl (show (["number","more","by","times","self"]:List Str).Nodup by decide +kernel) ⟨rfl,(Qa rfl),(Qo rfl)⟩ ⟨rfl,(Qa rfl),(Qo rfl)⟩ rfl)) (λ _ _ _ _=>Yc) (λ _ _ _ _=>(Jv Jbx (Jv Bt (Jv Jdt (pv 2) (pv 0)) (Jv Jdt (pv 3) (pv 1))) (J1 (K':=K) rfl (pv 4)))))
  (@Jb _ _ _ _ _ (Ye (Be Wl (pv 5)) (Z9 (pv 6) (pv 3) Yr (λ v=>J2 _ _ _ _ _ v)))
  (@Jg _ _ _ (@Jr _ _ _ _ (pv 6)))))),Wp h ?_⟩
 rintro as n P ⟨z,T,other,row,k,rfl,k1,k2,ol,so,sr,q0,q1,q⟩
 have hs:sizeLine=16777216:=J9n
 have big:∀ {x:Int},x.natAbs<2^4000->x.natAbs<2^9000:=λ h=>Q1 h (J5e (by decide) (by decide))
 have a1:atI (row.map Qq) ((k:Nat):Int)=some (.int (row.getD k 0)):=Yl (by omega) (by rw [Q0,Qh,Qd k2,Qg,Qd k2];rfl)
 have a2:atI (other.map Qq) ((k:Nat):Int)=some (.int (other.getD k 0)):=Yl (by omega) (by rw [Q0,Qh,Qd k1,Qg,Qd k1];rfl)
 have by1:(row.getD k 0).natAbs<2^4000:=sr _ (by rw [Qg,Qd k2];exact Xo _)
 have by2:(other.getD k 0).natAbs<2^4000:=so _ (by rw [Qg,Qd k1];exact Xo _)
 refine ⟨rfl,_,a1,_,a2,Jaw,rfl,rfl,⟨[.d (W1 C z T),.d (Y5 other),.d (Y5 row),.d (Jp k),.d (.int (row.getD k 0)),.d (.int (other.getD k 0)),.jnk],.eq rfl,?_⟩⟩
 refine ⟨_,_,_,_,rfl,rfl,rfl,⟨rfl,by rw [B6,Qb];omega⟩,?_⟩
 rw [V4]
 refine Y6 (f:=λ p:Int×Int=>Ud [.int p.1,.int p.2]) (λ p=>.int ((row.getD k 0*p.1-other.getD k 0*p.2)/T.q)) (λ p hp n K hk=>⟨rfl,rfl,W9 ⟨B4 (big by1) (big (so _ (U9 hp).1)),B4 (big by2) (big (sr _ (U9 hp).2)),?_⟩⟩) ?_
 . exact Juc Y ⟨Jby q0 (Int.lt_of_lt_of_le q1 (by decide +kernel)),hk⟩
 refine ⟨_,.refl,k,Jaj (by omega) (by rw [Qb,J4c];omega),_,.refl,?_⟩
 have e:((other.zip row).map λ p=>Qq ((row.getD k 0*p.1-other.getD k 0*p.2)/T.q)).set k (.int (-(other.getD k 0)))=(Tb.Jb9 T.q row other k).map .int:=by
  unfold Tb.Jb9
  rw [X6,J5a,J6z,J6z]
 show P (List.set _ k _) n
 rw [e]
 exact q
theorem Vg:FnScope ["self","wanted","told","name","row"] ["self","wanted"] (Je Wr):=⟨rfl,rfl,rfl,by decide +kernel,rfl,by decide +kernel,by decide +kernel⟩
theorem Jf0 {C:Addr}(T:Txt mg) (Y:TableOk K C) (D:DefM K C "rises" "Table.rises" Wr ["self","wanted"]):Wj P w K mg base C "rises" 1 ["self","wanted"] (Zh (Jgc C)):=by
 refine D.cal Y.c λ f fd F=>F.ok Vg (Vp ?_) (λ cdv A outer s H vs Q E hr h=>?_)
 . rintro as n P ⟨z,T,m,n,W,rfl,_⟩
   rfl
 refine ⟨_,(@Jb _ _ _ _ _ (Wn (i:=2) (sc:=(Je Wr)) (N:=["self","wanted","told","name","row"]) (N':=["name","wanted","self"]) (k:=1) (idx:=[1,0]) rfl Vg.nd rfl rfl (by exact ⟨rfl,by decide +kernel,by decide +kernel,by decide +kernel,by decide +kernel,by decide +kernel,rfl,rfl⟩) rfl rfl (Zm (J1 (K':=K) rfl (pv 0))) (λ _ _ _ _=>(Jt (i:=0) (show (["name","wanted","self"]:List Str).Nodup by decide +kernel) rfl (Qa rfl) (Qo rfl))) (λ _ _ _ _=>Yc) (λ _ _ _ _=>(Jlk (Yb (Jhh (K':=K) rfl) (pv 0) (pv 1) (by with_unfolding_all rfl)) (J1 (K':=K) rfl (pv 2)) Ji)))
  (@Jb _ _ _ _ _ (Zy Xp rfl (By rfl T.b_zip (Jad (J1 (K':=K) rfl (pv 0)) (Jad (J1 (K':=K) rfl (pv 0)) Jd))) (Yu (K':=K) (i:=3) (j:=4) rfl Vg.nd ⟨rfl,(Qa rfl),(Qa rfl)⟩ ⟨rfl,(Qa rfl),(Qa rfl)⟩ rfl)
  (@Jg _ _ _ (Z5 (Yb Ji5 (pv 3) (pv 1) (by with_unfolding_all rfl)) (@Jg _ _ _ (Wn (i:=2) (sc:=(Je Wr)) (N:=["self","wanted","told","name","row"]) (N':=["rise","number"]) (k:=2) (idx:=[]) rfl Vg.nd rfl rfl (by exact ⟨rfl,by decide +kernel,by decide +kernel,by decide +kernel,by decide +kernel,by decide +kernel,rfl,rfl⟩) rfl rfl (Jwh (By rfl T.b_zip (Ja (pv 2) (Ja (pv 4) Jd)))) (λ _ _ _ _=>(Yu (K':=K) (i:=0) (j:=1) rfl (show (["rise","number"]:List Str).Nodup by decide +kernel) ⟨rfl,(Qa rfl),(Qo rfl)⟩ ⟨rfl,(Qa rfl),(Qo rfl)⟩ rfl)) (λ _ _ _ _=>Yc) (λ _ _ _ _=>(Jv Bt (pv 0) (pv 1))))) Yj)))
  (@Jg _ _ _ (@Jr _ _ _ _ (pv 2))))),Wp h ?_⟩
 rintro as n' P ⟨z,T,m,n,W,rfl,sh,q⟩
 have hs:sizeLine=16777216:=J9n
 have mm:=sh.mm
 have nn:=sh.nn
 have isin:∀ ν:Nat,inD (Jp ν) (W.map Jp)=decide (ν∈W):=λ ν=>by
  have:=Jx4 (k:=(ν:Int)) (ns:=W.map λ k:Nat=>(k:Int))
  rw [Qv] at this
  rw [show W.map Jp=W.map (Qq∘λ k:Nat=>(k:Int)) from rfl,this]
  exact decide_eq_decide.mpr ⟨λ h=>by obtain ⟨k,hk,e⟩:=Qn.mp h;rwa [<- show k = ν by exact_mod_cast e],λ h=>Qn.mpr ⟨ν,h,rfl⟩⟩
 have scw:(W.map Jp).all Vv=true:=X3.mpr λ x hx=>by obtain ⟨k,_,rfl⟩:=Qn.mp hx;rfl
 refine ⟨rfl,Jgb Y ⟨⟨rfl,by rw [Qb,sh.lf];omega⟩,?_⟩⟩
 refine Y6 (f:=Jp) (λ ν=>.int (Tb.ind W ν T.q)) (λ ν hν n K hk=>W9 ⟨rfl,scw,?_⟩) ?_
 . show if inD (Jp ν) (W.map Jp)=true then _ else _
   rw [isin]
   unfold Tb.ind at hk
   refine Wf (λ c=>Juc Y ?_) (λ c=>?_)
   . rw [if_pos (of_decide_eq_true c)] at hk
     exact hk
   . rw [if_neg (of_decide_eq_false c)] at hk
     exact hk
 rw [show T.fr.map (λ ν=>Qq (Tb.ind W ν T.q))=(tl T n W 0).map .int by rw [<- Jwi sh,Qv];rfl]
 refine ⟨_,.refl,Jed Y (Jbi Y ⟨_,_,_,_,rfl,rfl,rfl,?_⟩)⟩
 refine ⟨λ i env k=>k=n'/\∃ x y:Vl,env=[.d (W1 C z T),.d (.list (W.map Jp)),.own ((tl T n W i).map .int),x,y],⟨rfl,_,_,rfl⟩,?_,?_⟩
 . rintro i x env k hx ⟨rfl,_,_,rfl⟩
   obtain ⟨hi,rfl⟩:=Jud sh hx
   refine ⟨rfl,rfl,rfl,scw,?_⟩
   show if inD (Jp (T.b i)) (W.map Jp)=true then _ else _
   rw [isin]
   refine Wf (λ c=>?_) (λ c=>⟨rfl,_,_,by rw [Jzx (of_decide_eq_false c)];rfl⟩)
   refine ⟨⟨rfl,?_⟩,?_⟩
   . rw [B6,Qb,Qb]
     unfold tl
     rw [Qb,Qx]
     omega
   . rw [V4]
     refine Y6 (f:=λ p:Int×Int=>Ud [.int p.1,.int p.2]) (λ p=>.int (p.1-p.2)) (λ p hp n K hk=>⟨rfl,rfl,W9 hk⟩) ⟨rfl,.d (Jp (T.b i)),.d (Y5 (T.row i)),?_⟩
     rw [<- J10 sh hi (of_decide_eq_true c),Qv]
     rfl
 . rintro env k ⟨rfl,_,_,rfl⟩
   refine ⟨_,.refl,?_⟩
   have:(Vh (T.bd.map Jp) (T.rows.map Y5)).length=m:=by rw [B6,Qb,Qb,sh.lb,sh.lr];omega
   rw [this]
   exact q
theorem Vc:FnScope ["self","wanted","names"] ["self","wanted"] (Je Y7):=⟨rfl,rfl,rfl,by decide +kernel,rfl,by decide +kernel,by decide +kernel⟩
theorem Jaq {C:Addr}(T:Txt mg) (Y:TableOk K C) (D:DefM K C "place_to_raise" "Table.place_to_raise" Y7 ["self","wanted"]) (c_Table__rises:Wj P w K mg base C "rises" 1 ["self","wanted"] (Zh (Jgc C))):Wj P w K mg base C "place_to_raise" 2 ["self","wanted"] (Jj (Jco C)):=by
 refine D.cal Y.c λ f fd F=>F.ok Vc (Jx ?_) (λ cdv A outer s H vs Q E hr h=>?_)
 . rintro as n P ⟨z,T,m,n,W,rfl,_⟩
   rfl
 refine ⟨_,(@Jb _ _ _ _ _ (Wn (i:=2) (sc:=(Je Y7)) (N:=["self","wanted","names"]) (N':=["place","rise","self"]) (k:=2) (idx:=[0]) rfl Vc.nd rfl rfl (by exact ⟨rfl,by decide +kernel,by decide +kernel,by decide +kernel,by decide +kernel,by decide +kernel,rfl,rfl⟩) rfl rfl (Jj3 rfl T.b_enumerate (Zn (Je4 c_Table__rises (hr.mono (by decide)) (pv 0) (Ja (pv 1) Jd)) Jd)) (λ _ _ _ _=>(Yu (K':=K) (i:=0) (j:=1) rfl (show (["place","rise","self"]:List Str).Nodup by decide +kernel) ⟨rfl,(Qa rfl),(Qo rfl)⟩ ⟨rfl,(Qa rfl),(Qo rfl)⟩ rfl)) (λ _ _ _ _=>Jcj (Yb Jfg (pv 1) Ji (J6 _))) (λ _ _ _ _=>(@PEs.out _ _ _ (Wz (Jdr (J7 (Jo (Jb0 (K':=K) rfl) (J1 (K':=K) rfl (pv 2)) (pv 0) (λ _ _=>rfl))) (Zz (J7 (pv 0)) J5))))))
  (@Jg _ _ _ (@Jr _ _ _ _ (Jlk (Jzk (pv 2) (λ _=>rfl)) (Jo Ys (Jw (Jrg rfl hr.units) rfl T.b_min Yai (Ja (pv 2) Jd)) Ji (λ _ _=>rfl)) Jag)))),Ju h ?_⟩
 rintro as n' P ⟨z,T,m,n,W,rfl,sh,inj,q1,q2⟩
 have hs:sizeLine=16777216:=J9n
 have mm:=sh.mm
 have nn:=sh.nn
 refine ⟨rfl,?_⟩
 refine ⟨Jcn (m:="rises") (by decide),z,T,m,n,W,rfl,sh,_,_,rfl,rfl,?_⟩
 rw [Jwj]
 refine ⟨⟨rfl,by rw [Qb,Qx];omega⟩,?_⟩
 have fat:∀ {j:Nat},j<n->atI (T.fr.map Jp) ((j:Nat):Int)=some (Jp (T.f j)):=λ {j} hj=>by
  have h1:j<T.fr.length:=by rw [sh.lf];exact hj
  refine Yl (by omega) ?_
  unfold Tb.Tab.f
  rw [Q0,Qh,Qd h1,Qg,Qd h1]
  rfl
 refine Jbe (p:=λ j=>decide (0<T.rise m W j)) (h:=λ j=>Jhq ((T.f j:Int),(j:Int))) (λ j hj K k1 k2=>⟨rfl,rfl,Wf (λ c=>Jgb Y ⟨_,fat (Q6.mp hj),Jaw,k1 c⟩) (λ c=>k2 c)⟩) ?_
 refine ⟨_,.fz 2 _ rfl .refl,?_⟩
 have mem:∀ {j:Nat},j∈(Ql n).filter (λ j=>decide (0<T.rise m W j))↔j<n/\0<T.rise m W j:=λ {j}=>by rw [Xm,Q6,decide_eq_true_iff]
 have nd:((Ql n).filter λ j=>decide (0<T.rise m W j)).Nodup:=List.nodup_range.filter _
 generalize (Ql n).filter (λ j=>decide (0<T.rise m W j))=js at *
 have nrm:js.map (λ j=>Jhq ((T.f j:Int),(j:Int)))=(js.map λ j=>((T.f j:Int),(j:Int))).map Jhq:=by rw [Qv];rfl
 rw [nrm]
 by_cases hn:js=[]
 . subst hn
   refine Jcx rfl (q2 λ j hj=>?_)
   have:=mt (λ h=>mem.mpr ⟨hj,h⟩) (X2)
   omega
 . refine Jfq ?_ ⟨_,rfl,by simpa using hn,?_,λ r hr hmin=>⟨_,rfl,?_⟩⟩
   . cases js with
     | nil=>exact absurd rfl hn
     | cons a l=>rfl
   . rw [Qv]
     refine J5c.mpr (nd.imp_of_mem λ {a b} ha hb hne e=>hne ?_)
     have e:(T.f a:Int)=(T.f b:Int):=e
     exact inj a b (mem.mp ha).1 (mem.mp hb).1 (by exact_mod_cast e)
   . obtain ⟨k,hk,rfl⟩:=Qn.mp hr
     refine q1 k (mem.mp hk).1 (mem.mp hk).2 λ j hj hp=>?_
     have:(T.f k:Int)<=(T.f j:Int):=hmin _ (Qn.mpr ⟨j,mem.mpr ⟨hj,hp⟩,rfl⟩)
     exact_mod_cast this
theorem Wc:FnScope ["self","at","other","place","row","than","soon","late"] ["self","at","other","place"] (Je Ws):=⟨rfl,rfl,rfl,by decide +kernel,rfl,by decide +kernel,by decide +kernel⟩
theorem Jbs {C:Addr}(T:Txt mg) (Y:TableOk K C) (D:DefM K C "comes_first" "Table.comes_first" Ws ["self","at","other","place"]):Wj P w K mg base C "comes_first" 1 ["self","at","other","place"] (Jj (Jk0 C)):=by
 refine D.cal Y.c λ f fd F=>F.ok Wc (Jx ?_) (λ cdv A outer s H vs Q E hr h=>?_)
 . rintro as n P ⟨z,T,m,n,a,o,k,rfl,_⟩
   rfl
 refine ⟨_,(@Jb _ _ _ _ _ (Jnj (i:=4) (j:=5) rfl Wc.nd rfl rfl (by decide) rfl rfl (Y4 (Jo Js (J1 (K':=K) rfl (pv 0)) (pv 1) (λ _ _=>rfl)) (Y4 (Jo Js (J1 (K':=K) rfl (pv 0)) (pv 2) (λ _ _=>rfl)) Jd)) rfl)
  (@Jb _ _ _ _ _ (Jnj (i:=6) (j:=7) rfl Wc.nd rfl rfl (by decide) rfl rfl (Bx (Jv Jdt (Jo Js (pv 4) (Be Wl Ji) (λ _ _=>rfl)) (Jo Js (pv 5) (pv 3) (λ _ _=>rfl))) (Bx (Jv Jdt (Jo Js (pv 5) (Be Wl Ji) (λ _ _=>rfl)) (Jo Js (pv 4) (pv 3) (λ _ _=>rfl))) Jd)) rfl)
  (@Jg _ _ _ (@Jr _ _ _ _ (Jw8 (Wd Jlm (pv 6) (pv 7) (J6 _)) (Jai (Ja5 (Wd Jab (pv 6) (pv 7) (J6 _)) (Jai (Wd Jlm (Jo Js (J1 (K':=K) rfl (pv 0)) (pv 1) (λ _ _=>rfl)) (Jo Js (J1 (K':=K) rfl (pv 0)) (pv 2) (λ _ _=>rfl)) (J6 _)))))))))),Ju h ?_⟩
 rintro as n' P ⟨z,T,m,n,a,o,k,rfl,sh,ha,ho,hk,q⟩
 refine ⟨rfl,Jbi Y ⟨_,Jht sh ha,Jbi Y ⟨_,Jht sh ho,_,_,rfl,⟨[.d (W1 C z T),.d (Jp a),.d (Jp o),.d (Jp k),.d (Y5 (T.row a)),.d (Y5 (T.row o)),.jnk,.jnk],.eq rfl,?_⟩⟩⟩⟩
 refine ⟨_,Jue sh ha,_,Jwk sh ho (by omega),B4 (Jgd sh ha (Qm _)) (Jgd sh ho (by omega)),_,Jue sh ho,_,Jwk sh ha (by omega),B4 (Jgd sh ho (Qm _)) (Jgd sh ha (by omega)),_,_,rfl,⟨[.d (W1 C z T),.d (Jp a),.d (Jp o),.d (Jp k),.d (Y5 (T.row a)),.d (Y5 (T.row o)),.d (.int (T.e a n*T.e o k)),.d (.int (T.e o n*T.e a k))],.eq rfl,?_⟩⟩
 unfold Jhs at q
 generalize T.e a n*T.e o k=soon at *
 generalize T.e o n*T.e a k=late at *
 refine Wf (λ c1=>?_) (λ c1=>?_)
 . rw [c1,J83] at q
   exact q
 . rw [c1,J84] at q
   refine Jg1 (Wf (λ c2=>?_) (λ c2=>?_))
   . rw [c2,J45] at q
     refine Jed Y ⟨_,Jyb sh ha,Jed Y ⟨_,Jyb sh ho,?_⟩⟩
     show P (.bool (decide ((T.b a:Int)<(T.b o:Int)))) n'
     rw [show decide ((T.b a:Int)<(T.b o:Int))=decide (T.b a<T.b o) from decide_eq_decide.mpr ⟨λ h=>by omega,λ h=>by omega⟩]
     exact q
   . rw [c2,J3u] at q
     exact q
theorem Zf:FnScope ["self","place","first","at","row"] ["self","place"] (Je Wt):=⟨rfl,rfl,rfl,by decide +kernel,rfl,by decide +kernel,by decide +kernel⟩
theorem Jbt {C:Addr}(T:Txt mg) (Y:TableOk K C) (D:DefM K C "row_to_free" "Table.row_to_free" Wt ["self","place"]) (c_Table__comes_first:Wj P w K mg base C "comes_first" 1 ["self","at","other","place"] (Jj (Jk0 C))):Wj P w K mg base C "row_to_free" 2 ["self","place"] (Jj (Je6 C)):=by
 refine D.cal Y.c λ f fd F=>F.ok Zf (Jx ?_) (λ cdv A outer s H vs Q E hr h=>?_)
 . rintro as n P ⟨z,T,m,n,k,rfl,_⟩
   rfl
 refine ⟨_,(@Jb _ _ _ _ _ (Jz (i:=2) Zf.nd rfl (Qa rfl) Jag)
  (@Jb _ _ _ _ _ (Zy Xp rfl (Jj3 rfl T.b_enumerate (Jad (J1 (K':=K) rfl (pv 0)) Jd)) (Yu (K':=K) (i:=3) (j:=4) rfl Zf.nd ⟨rfl,(Qa rfl),(Qa rfl)⟩ ⟨rfl,(Qa rfl),(Qa rfl)⟩ rfl)
  (@Jg _ _ _ (Z5 (PW.pt (Jc1 (Yb Jfg (Jo Js (pv 4) (pv 1) (λ _ _=>rfl)) Ji (J6 _)) (Ja4 (PW.pt (Jrv (Yb Jjw (pv 2) Jag (J6 _)) (Jnh (W5 (Je4 c_Table__comes_first (hr.mono (by decide)) (pv 0) (Ja (pv 3) (Ja (pv 2) (Ja (pv 1) Jd))))))))))) (@Jg _ _ _ (Jz (i:=2) Zf.nd rfl (Qa rfl) (pv 3))) Yj)))
  (@Jg _ _ _ (@Jr _ _ _ _ (pv 2))))),Ju h ?_⟩
 rintro as n' P ⟨z,T,m,n,k,rfl,sh,hk,q⟩
 refine ⟨rfl,_,.refl,Jbi Y ⟨_,_,rfl,rfl,?_⟩⟩
 refine ⟨λ i env j=>j=n'/\∃ x y:Vl,env=[.d (W1 C z T),.d (Jp k),.d (Jzy (rf T n k i)),x,y],⟨rfl,_,_,rfl⟩,?_,?_⟩
 . rintro i x env j hx ⟨rfl,_,_,rfl⟩
   obtain ⟨hi,rfl⟩:=Jwl sh hx
   refine ⟨rfl,rfl,_,Jwk sh hi (by omega),?_⟩
   refine Wf (λ c=>?_) (λ c=>?_)
   . have c:=of_decide_eq_true c
     cases e:rf T n k i with
     | none=>
      refine ⟨rfl,W9 ⟨rfl,.d (Jp i),.d (Y5 (T.row i)),?_⟩⟩
      rw [show rf T n k (i+1)=some i by rw [rf,e];simp only;rw [if_pos c]]
      rfl
     | some o=>
      have ho:=Jp0 k e
      refine ⟨rfl,Jbv ⟨Jcn (m:="comes_first") (by decide),z,T,m,n,i,o,k,rfl,sh,hi,by omega,hk,?_⟩⟩
      refine Wf (λ c2=>⟨rfl,.d (Jp i),.d (Y5 (T.row i)),?_⟩) (λ c2=>⟨rfl,.d (Jp i),.d (Y5 (T.row i)),?_⟩)
      . rw [show rf T n k (i+1)=some i by rw [rf,e];simp only;rw [if_pos ⟨c,c2⟩]]
        rfl
      . rw [show rf T n k (i+1)=some o by rw [rf,e];simp only;rw [if_neg λ z=>by rw [z.2] at c2;cases c2]]
        rfl
   . have c:=of_decide_eq_false c
     refine ⟨rfl,.d (Jp i),.d (Y5 (T.row i)),?_⟩
     rw [show rf T n k (i+1)=rf T n k i by
      rw [rf]
      cases rf T n k i with
      | none=>simp only;rw [if_neg c]
      | some o=>simp only;rw [if_neg λ z=>c z.1]]
     rfl
 . rintro env j ⟨rfl,_,_,rfl⟩
   have:(Jb2 (T.rows.map Y5)).length=m:=by unfold Jb2;rw [J79,Qb,sh.lr]
   rw [this]
   exact ⟨_,.refl,q⟩
theorem Ja3:FnScope ["self","shares","purses"] ["self","shares"] (Je Bl):=⟨rfl,rfl,rfl,by decide +kernel,rfl,by decide +kernel,by decide +kernel⟩
theorem Jfc {C:Addr}(T:Txt mg) (Y:TableOk K C) (D:DefM K C "as_sum" "Table.as_sum" Bl ["self","shares"]):Wj P w K mg base C "as_sum" 1 ["self","shares"] (Jj (Jk1 C)):=by
 refine D.cal Y.c λ f fd F=>F.ok Ja3 (Jx ?_) (λ cdv A outer s H vs Q E hr h=>?_)
 . rintro as n P ⟨z,T,u,xs,rfl,_⟩
   rfl
 refine ⟨_,(@Jb _ _ _ _ _ (Jz (i:=2) Ja3.nd rfl (Qa rfl) (Jv Bt (J1 (K':=K) rfl (pv 0)) (J1 (K':=K) rfl (pv 0))))
  (@Jg _ _ _ (@Jr _ _ _ _ (@PEs.out _ _ _ (Wz (Wo (J7 (Ya Yf rfl T.b_tuple J9v (Y4 (Jat Jci (pv 1) Jcg (Jch (pv 2))) Jd))) (Wo (J7 (Ya Yf rfl T.b_tuple J9v (Y4 (Jat Jci (pv 1) (Jch (pv 2)) Jcg) Jd))) J5))))))),Ju h ?_⟩
 rintro as n' P ⟨z,T,u,xs,rfl,hu,hl,q⟩
 refine ⟨rfl,J1y Y (Jub Y ⟨[.d (W1 C z T),.d (Y5 xs),.d (Jp u)],.eq (by rw [hu];rfl),?_⟩)⟩
 have hs:sizeLine=16777216:=J9n
 refine ⟨Jaw,?_⟩
 rw [Jje,Jex,<- J4s,<- J37]
 exact q
theorem W8:FnScope ["self","place","told","name","row"] ["self","place"] (Je Vj):=⟨rfl,rfl,rfl,by decide +kernel,rfl,by decide +kernel,by decide +kernel⟩
theorem Jcv {C:Addr}(T:Txt mg) (Y:TableOk K C) (D:DefM K C "counts_by" "Table.counts_by" Vj ["self","place"]) (Gg:Cal P w K mg base "without_divisor" 2 ["numbers"] (Zh Jga)):Wj P w K mg base C "counts_by" 3 ["self","place"] (Jj (Jee C)):=by
 refine D.cal Y.c λ f fd F=>F.ok W8 (Jx ?_) (λ cdv A outer s H vs Q E hr h=>?_)
 . rintro as n P ⟨T,m,n,k,nw,nr,be,rfl,_⟩
   rfl
 refine ⟨_,(@Jb _ _ _ _ _ (Jz (i:=2) W8.nd rfl (Qa rfl) (Jv Jgm (@PEs.out _ _ _ (Y9 (J3 Y2 J5))) (J1 (K':=K) rfl (pv 0))))
  (@Jb _ _ _ _ _ (Ye (J1 (K':=K) rfl (pv 0)) (Z9 (pv 2) (Jo Js (J1 (K':=K) rfl (pv 0)) (pv 1) (λ _ _=>rfl)) Yr ))
  (@Jb _ _ _ _ _ (Zy Xp rfl (By rfl T.b_zip (Jad (J1 (K':=K) rfl (pv 0)) (Jad (J1 (K':=K) rfl (pv 0)) Jd))) (Yu (K':=K) (i:=3) (j:=4) rfl W8.nd ⟨rfl,(Qa rfl),(Qa rfl)⟩ ⟨rfl,(Qa rfl),(Qa rfl)⟩ rfl)
  (@Jg _ _ _ (Ye (Be Wl (Jo Js (pv 4) (pv 1) (λ _ _=>rfl))) (Z9 (pv 2) (pv 3) Yr (λ v=>J2 _ _ _ _ _ v)))))
  (@Jg _ _ _ (@Jr _ _ _ _ (Ya Yf rfl T.b_tuple J9v (Zn (Yz Gg (hr.mono (by decide)) rfl (Y4 (Jat Jci (pv 2) Jcg (Jch (J1 (K':=K) rfl (pv 0)))) Jd)) Jd))))))),Ju h ?_⟩
 rintro as n' P ⟨T,m,n,k,nw,nr,be,rfl,sh,N,hk,h1,h2,g0,g1,q⟩
 have hs:sizeLine=16777216:=J9n
 have one:(1:Nat)<=sizeLine:=by rw [hs];decide
 refine ⟨rfl,one,Jx9 Y ⟨⟨by show (-2^63:Int)<=(be:Int);omega,by show (be:Int)<2^63;omega,by show 1*(be:Int).toNat<=_;omega⟩,?_⟩⟩
 rw [show ((be:Nat):Int).toNat=be from Q0 _,Jg7]
 refine ⟨_,.refl,Juc Y (Jgb Y ⟨_,J11 sh hk,T.f k,Jaj (by omega) (by rw [Uc];have:=N.fl k hk;omega),?_⟩)⟩
 rw [show (Qw be (Qq 0)).set (T.f k) (.int T.q)=(dl T be k 0).map .int by rw [<- Jwm (N.fl k hk),X6,J3c]]
 refine ⟨[.d (W1 C ⟨(nw:Int),(nr:Int),(be:Int)⟩ T),.d (Jp k),.own ((dl T be k 0).map .int),.jnk,.jnk],.eq rfl,Jed Y (Jbi Y ⟨_,_,_,_,rfl,rfl,rfl,?_⟩)⟩
 refine ⟨λ i env j=>j=n'/\∃ x y:Vl,env=[.d (W1 C ⟨(nw:Int),(nr:Int),(be:Int)⟩ T),.d (Jp k),.own ((dl T be k i).map .int),x,y],⟨rfl,_,_,rfl⟩,?_,?_⟩
 . rintro i x env j hx ⟨rfl,_,_,rfl⟩
   obtain ⟨hi,rfl⟩:=Jud sh hx
   refine ⟨rfl,rfl,_,Jwk sh hi (by omega),T.b i,Jaj (by omega) (by rw [Qb,Jhu];have:=N.bl i hi;omega),rfl,.d (Jp (T.b i)),.d (Y5 (T.row i)),?_⟩
   rw [<- Jwn N hk hi,X6]
   rfl
 . rintro env j ⟨rfl,_,_,rfl⟩
   have lz:(Vh (T.bd.map Jp) (T.rows.map Y5)).length=m:=by rw [B6,Qb,Qb,sh.lb,sh.lr];omega
   rw [lz]
   have cut:Jik ((dl T be k m).map Qq) none (some ((nw:Nat):Int))=((Ql nw).map (T.dir m k)).map .int:=by
    rw [Jje,Jwo,<- J4s,<- J4s,List.take_range,J6m h1]
   refine ⟨_,.refl,Jub Y ⟨(Ql nw).map (T.dir m k),by rw [cut],by rw [Qb,Qx];omega,g0,g1,?_⟩⟩
   rw [Qv]
   exact q
theorem W3:FnScope ["self","wanted","told","name","rise"] ["self","wanted"] (Je Bk):=⟨rfl,rfl,rfl,by decide +kernel,rfl,by decide +kernel,by decide +kernel⟩
theorem Jfd {C:Addr}(T:Txt mg) (Y:TableOk K C) (D:DefM K C "shares" "Table.shares" Bk ["self","wanted"]) (c_Table__rises:Wj P w K mg base C "rises" 1 ["self","wanted"] (Zh (Jgc C))):Wj P w K mg base C "shares" 2 ["self","wanted"] (Zh (Jhx C)):=by
 refine D.cal Y.c λ f fd F=>F.ok W3 (Vp ?_) (λ cdv A outer s H vs Q E hr h=>?_)
 . rintro as n P ⟨T,m,n,nw,nr,be,W,rfl,_⟩
   rfl
 refine ⟨_,(@Jb _ _ _ _ _ (Jz (i:=2) W3.nd rfl (Qa rfl) (Jv Jgm (@PEs.out _ _ _ (Y9 (J3 Y2 J5))) (J1 (K':=K) rfl (pv 0))))
  (@Jb _ _ _ _ _ (Zy Xp rfl (Zm (pv 1)) (Jt (i:=3) W3.nd rfl (Qa rfl) (Qa rfl))
  (@Jg _ _ _ (Ye (J1 (K':=K) rfl (pv 0)) (Z9 (pv 2) (pv 3) Yr (λ v=>J2 _ _ _ _ _ v)))))
  (@Jb _ _ _ _ _ (Zy Xp rfl (By rfl T.b_zip (Jad (J1 (K':=K) rfl (pv 0)) (Zn (Je4 c_Table__rises (hr.mono (by decide)) (pv 0) (Ja (pv 1) Jd)) Jd))) (Yu (K':=K) (i:=3) (j:=4) rfl W3.nd ⟨rfl,(Qa rfl),(Qa rfl)⟩ ⟨rfl,(Qa rfl),(Qa rfl)⟩ rfl)
  (@Jg _ _ _ (Ye (Be Wl (pv 4)) (Z9 (pv 2) (pv 3) Yr (λ v=>J2 _ _ _ _ _ v)))))
  (@Jg _ _ _ (@Jr _ _ _ _ (Jat Jci (pv 2) (Jch (J1 (K':=K) rfl (pv 0))) Jcg)))))),Wp h ?_⟩
 rintro as n' P ⟨T,m,n,nw,nr,be,W,rfl,sh,N,hw,h1,h2,q⟩
 have hs:sizeLine=16777216:=J9n
 have one:(1:Nat)<=sizeLine:=by rw [hs];decide
 refine ⟨rfl,one,Jx9 Y ⟨⟨by show (-2^63:Int)<=(be:Int);omega,by show (be:Int)<2^63;omega,by show 1*(be:Int).toNat<=_;omega⟩,?_⟩⟩
 rw [show ((be:Nat):Int).toNat=be from Q0 _,Jg7,show Qw be (Qq 0)=(wl T.q be []).map .int by rw [<- Jz0,J3c]]
 refine ⟨_,.refl,?_⟩
 refine Jl9 (λ e j=>j=n'/\∃ x:Vl,e=[.d (W1 C ⟨(nw:Int),(nr:Int),(be:Int)⟩ T),.d (.list (W.map Jp)),.own ((wl T.q be W).map .int),x,.jnk]) (λ M hM=>?_) ?_
 . refine ⟨λ i env j=>j=n'/\∃ x:Vl,env=[.d (W1 C ⟨(nw:Int),(nr:Int),(be:Int)⟩ T),.d (.list (W.map Jp)),.own ((wl T.q be (W.take i)).map .int),x,.jnk],⟨rfl,_,rfl⟩,?_,?_⟩
   . rintro i x env j hx ⟨rfl,_,rfl⟩
     rw [Qh] at hx
     obtain ⟨w0,hw0,rfl⟩:=X7.mp hx
     have lt:=hw w0 (Xg hw0)
     refine Juc Y ⟨w0,Jaj (by omega) (by rw [Qb,Jhv];omega),rfl,.d (Jp w0),?_⟩
     rw [J46,hw0]
     show _=[_,_,Vl.own ((wl T.q be (W.take i++[w0])).map .int),_,_]
     rw [<- Jwp lt,X6]
     rfl
   . rintro env j ⟨rfl,x,rfl⟩
     rw [Qb,J5j]
     exact hM _ _ ⟨rfl,x,rfl⟩
 rintro _ j ⟨rfl,x,rfl⟩
 rw [Jwq (m:=m)]
 refine ⟨_,.refl,Jgb Y ⟨Jcn (m:="rises") (by decide),_,T,m,n,W,rfl,sh,_,_,_,_,rfl,rfl,rfl,?_⟩⟩
 refine ⟨λ i env k=>k=j/\∃ x y:Vl,env=[.d (W1 C ⟨(nw:Int),(nr:Int),(be:Int)⟩ T),.d (.list (W.map Jp)),.own ((sl T m be W i).map .int),x,y],⟨rfl,_,_,rfl⟩,?_,?_⟩
 . rintro i x env k hx ⟨rfl,_,_,rfl⟩
   obtain ⟨hi,rfl⟩:=Jz1 sh hx
   refine ⟨rfl,rfl,T.f i,Jaj (by omega) (by rw [Qb,Jhw];have:=N.fl i hi;omega),rfl,.d (Jp (T.f i)),.d (.int (T.rise m W i)),?_⟩
   rw [<- Jwr N hi,X6]
   rfl
 . rintro env k ⟨rfl,_,_,rfl⟩
   have lz:(Vh (T.fr.map Jp) (((Ql n).map (T.rise m W)).map .int)).length=n:=by rw [B6,Qb,Qb,Qb,Qx,sh.lf];omega
   rw [lz]
   refine ⟨_,.refl,Jub Y ?_⟩
   show P (Jik ((sl T m be W n).map Qq) (some ((nw:Nat):Int)) none) k
   rw [Jex,<- J37]
   exact q
theorem Jdj:FnScope ["self","wanted"] ["self","wanted"] (Je Vw):=⟨rfl,rfl,rfl,by decide +kernel,rfl,by decide +kernel,by decide +kernel⟩
theorem Jdk {C:Addr}(T:Txt mg) (Y:TableOk K C) (D:DefM K C "read_sum" "Table.read_sum" Vw ["self","wanted"]) (c_Table__as_sum:Wj P w K mg base C "as_sum" 1 ["self","shares"] (Jj (Jk1 C))) (Gg:Cal P w K mg base "without_divisor" 2 ["numbers"] (Zh Jga)) (c_Table__shares:Wj P w K mg base C "shares" 2 ["self","wanted"] (Zh (Jhx C))):Wj P w K mg base C "read_sum" 3 ["self","wanted"] (Jj (Ja0 C)):=by
 refine D.cal Y.c λ f fd F=>F.ok Jdj (Jx ?_) (λ cdv A outer s H vs Q E hr h=>?_)
 . rintro as n P ⟨T,m,n,nw,nr,be,W,rfl,_⟩
   rfl
 refine ⟨_,(@Jg _ _ _ (@Jr _ _ _ _ (Je4 c_Table__as_sum (hr.mono (by decide)) (pv 0) (Zn (Yz Gg (hr.mono (by decide)) rfl (Zn (Je4 c_Table__shares (hr.mono (by decide)) (pv 0) (Ja (pv 1) Jd)) Jd)) Jd)))),Ju h ?_⟩
 rintro as n' P ⟨T,m,n,nw,nr,be,W,rfl,sh,N,hw,h1,h2,h3,g0,g1,q⟩
 have ll:((sl T m be W n).drop nw).length<=1000:=by rw [J3z,Jhw];omega
 refine ⟨rfl,Jcn (m:="as_sum") (by decide),Jcn (m:="shares") (by decide),T,m,n,nw,nr,be,W,rfl,sh,N,hw,h1,h2,(sl T m be W n).drop nw,rfl,by omega,g0,g1,?_⟩
 exact ⟨_,T,nr-nw,_,rfl,by show (nr:Int)-(nw:Int)=_;omega,by rw [Qb];exact ll,q⟩
theorem Vk:FnScope ["self","at","place","row","rows"] ["self","at","place"] (Je Wh):=⟨rfl,rfl,rfl,by decide +kernel,rfl,by decide +kernel,by decide +kernel⟩
theorem Jdl {C:Addr}(T:Txt mg) (Y:TableOk K C) (D:DefM K C "exchange" "Table.exchange" Wh ["self","at","place"]) (c_Table__without:Wj P w K mg base C "without" 1 ["self","other","row","place"] (Zh (Jof C))):Wj P w K mg base C "exchange" 2 ["self","at","place"] (Jz4 C):=by
 refine D.cal Y.c λ f fd F=>F.ok Vk (λ vs H Q E h=>by obtain ⟨xx,p,fa,ba,z,T,m,n,l,k,rfl,_⟩:=h;rfl) (λ cdv A outer s H vs Q E hr h=>?_)
 refine ⟨_,(@Jb _ _ _ _ _ (Jz (i:=3) Vk.nd rfl (Qo rfl) (Jo Js (J1 (K':=K) rfl (pv 0)) (pv 1) (λ _ _=>rfl)))
  (@Jb _ _ _ _ _ (Juk (Wn (i:=4) (sc:=(Je Wh)) (N:=["self","at","place","row","rows"]) (N':=["other","self","row","place"]) (k:=1) (idx:=[0,3,2]) rfl Vk.nd rfl rfl (by exact ⟨rfl,by decide +kernel,by decide +kernel,by decide +kernel,by decide +kernel,by decide +kernel,rfl,rfl⟩) rfl rfl (Zm (J1 (K':=K) rfl (pv 0))) (λ _ _ _ _=>(Jt (i:=0) (show (["other","self","row","place"]:List Str).Nodup by decide +kernel) rfl (Qa rfl) (Qo rfl))) (λ _ _ _ _=>Yc) (λ _ _ _ _=>(Je4 c_Table__without (hr.mono (by decide)) (pv 1) (Ja (pv 0) (Ja (pv 2) (Ja (pv 3) Jd)))))))
  (@Jb _ _ _ _ _ (Jpi (Ye (Ya Wx rfl T.b_list J90 (Ja (pv 3) Jd)) (Z9 (pv 4) (pv 1) Yr (λ v=>J2 _ _ _ _ _ v))))
  (@Jb _ _ _ _ _ (Ye (J1 (K':=K) rfl (pv 0)) (Z9 (Jo Js (pv 4) (pv 1) (λ _ _=>rfl)) (pv 2) Yr (λ v=>J2 _ _ _ _ _ v)))
  (@Jb _ _ _ _ _ (Ja7 (pv 0) (pv 4) rfl)
  (@Jb _ _ _ _ _ (Ja7 (pv 0) (Jo Js (pv 3) (pv 2) (λ _ _=>rfl)) rfl)
  (@Jg _ _ _ (Ye (@PEs.out _ _ _ (Wz (Jdr (J7 (Jo Js (J1 (K':=K) rfl (pv 0)) (pv 1) (λ _ _=>rfl))) (Jdr (J7 (Jo Js (J1 (K':=K) rfl (pv 0)) (pv 2) (λ _ _=>rfl))) J5)))) (Jjv (n:=2) rfl (Wk (Z9 (J1 (K':=K) rfl (pv 0)) (pv 2) Yr (λ v=>J2 _ _ _ _ _ v)) (Wk (Z9 (J1 (K':=K) rfl (pv 0)) (pv 1) Yr (λ v=>J2 _ _ _ _ _ v)) Jdn))))))))))),?_⟩
 obtain ⟨xx,p,fa,ba,z,T,m,n,l,k,rfl,hT,sh,hl,hk,q⟩:=h
 have hs:sizeLine=16777216:=J9n
 have mm:=sh.mm
 have nn:=sh.nn
 refine J2z (Jz5 (N:=["self","at","place","row","rows"]) (as:=[.pin (.ref p) (W1 C z T),.d (Jp l),.d (Jp k)]) (P:=Jyc C p z T l k) ⟨⟨rfl,Rep.nil (hT.rep (by rw [sh.lf];omega) (by rw [sh.lb];omega))⟩,⟨_,rfl,.int _⟩,⟨_,rfl,.int _⟩,trivial⟩ rfl ?_ (λ ex env σ H' n' A hP=>Jwt Y hT sh hl hk A hP q))
 have hlr:l<T.rows.length:=by rw [sh.lr];exact hl
 refine Jbi Y ⟨_,Jht sh hl,_,.refl,Jbi Y ⟨⟨rfl,by rw [Qb,sh.lr];omega⟩,?_⟩⟩
 refine Jmx (λ o=>(Tb.Jb9 T.q (T.row l) o k).map .int) T.rows (λ o ho K hK=>⟨Jcn (m:="without") (by decide),z,T,o,T.row l,k,rfl,?_,?_,?_,sh.small o ho,sh.small _ ?_,sh.q0,sh.q1,hK⟩) ?_
 . obtain ⟨i,hi⟩:=Ul.mp ho
   have il:=(Qp.mp hi).1
   rw [sh.lr] at il
   have:=sh.lw i il
   unfold Tb.Tab.row at this
   rw [Qg,hi] at this
   have this:o.length=n+1:=this
   omega
 . rw [sh.lw l hl];omega
 . obtain ⟨i,hi⟩:=Ul.mp ho
   have il:=(Qp.mp hi).1
   rw [sh.lr] at il
   have:=sh.lw i il
   unfold Tb.Tab.row at this
   rw [Qg,hi] at this
   have this:o.length=n+1:=this
   omega
 . unfold Tb.Tab.row
   rw [Qg,Qd hlr]
   exact Xo _
 intro ps hps
 have lps:ps.length=T.rows.length:=by have:=congrArg J55 hps;rwa [Qb,Qb] at this
 refine ⟨_,.refl,?_⟩
 refine ⟨l,Jaj (by omega) (by omega),λ b=>?_⟩
 refine ⟨_,.refl,Juc Y ⟨l,(b,(T.row l).map .int),Jaj (by omega) (by rw [Qr];omega),by rw [Q2 (by omega)],k,Jaj (by omega) (by rw [Qb,sh.lw l hl];omega),?_⟩⟩
 refine ⟨_,rfl,?_⟩
 rw [J6s,X6,hps]
 unfold Tb.Tab.ex
 rw [X6,X6,Qv]
 rfl
theorem Zr:FnScope ["self","wanted","place","at"] ["self","wanted"] (Je W7):=⟨rfl,rfl,rfl,by decide +kernel,rfl,by decide +kernel,by decide +kernel⟩
theorem Jce {C:Addr}(T:Txt mg) (Y:TableOk K C) (D:DefM K C "find_round" "Table.find_round" W7 ["self","wanted"]) (c_Table__place_to_raise:Wj P w K mg base C "place_to_raise" 2 ["self","wanted"] (Jj (Jco C))) (c_Table__row_to_free:Wj P w K mg base C "row_to_free" 2 ["self","place"] (Jj (Je6 C))) (c_Table__counts_by:Wj P w K mg base C "counts_by" 3 ["self","place"] (Jj (Jee C))) (c_Table__exchange:Wj P w K mg base C "exchange" 2 ["self","at","place"] (Jz4 C)):Wj P w K mg base C "find_round" 4 ["self","wanted"] (Jk3 C):=by
 refine D.cal Y.c λ f fd F=>F.ok Zr (λ vs H Q E h=>by obtain ⟨ex,p,fa,ba,nw,nr,be,m,n,c,T,W,some,wv,rfl,_⟩:=h;rfl) (λ cdv A outer s H vs Q E hr h=>?_)
 refine ⟨_,(@Jb _ _ _ _ _ (Jz (i:=2) Zr.nd rfl (Qa rfl) (Je4 c_Table__place_to_raise (hr.mono (by decide)) (pv 0) (Ja (pv 1) Jd)))
  (@Jb _ _ _ _ _ (Jll Xp (Yb Jo5 (pv 2) Jag (J6 _))
  (@Jb _ _ _ _ _ (Jz (i:=3) Zr.nd rfl (Qa rfl) (Je4 c_Table__row_to_free (hr.mono (by decide)) (pv 0) (Ja (pv 2) Jd)))
  (@Jb _ _ _ _ _ (Z5 (Yb Jjw (pv 3) Jag (J6 _)) (@Jg _ _ _ (@Jr _ _ _ _ (Je4 c_Table__counts_by (hr.mono (by decide)) (pv 0) (Ja (pv 2) Jd)))) Yj)
  (@Jb _ _ _ _ _ (Ja6 (Je4 c_Table__exchange (hr.mono (by decide)) (pv 0) (Ja (pv 3) (Ja (pv 2) Jd))))
  (@Jg _ _ _ (Jz (i:=2) Zr.nd rfl (Qa rfl) (Je4 c_Table__place_to_raise (hr.mono (by decide)) (pv 0) (Ja (pv 1) Jd))))))))
  (@Jg _ _ _ (@Jr _ _ _ _ Jag)))),?_⟩
 obtain ⟨ex,p,fa,ba,nw,nr,be,m,n,c,T0,W,ways,wv,rfl,hT,hw,S,hm,hn,h1,h2,hk,fit,qr,ql⟩:=h
 have t0:Turn C ex p fa ba ⟨(nw:Int),(nr:Int),(be:Int)⟩ m n be c W T0 H wv 0 T0 H:=⟨hT,hk,.refl,hw,λ _=>T0,λ _=>0,λ _=>0,Jui hk.ok,rfl,λ _ _=>hk.nm⟩
 let Pl:V->Tb.Tab->Prop:=λ pv T'=>(pv = .non/\Tb.Last m n W T')\/∃ k,pv=Zd k/\k<n/\0<T'.rise m W k/\∀ j,j<n->0<T'.rise m W j->T'.f k<=T'.f j
 show Jas _ _ _ [some (.ref p),some wv,none,none] H
 refine W6 (λ σ' H'=>∃ pv,σ'=[some (.ref p),some wv,some pv,none]/\Turn C ex p fa ba ⟨(nw:Int),(nr:Int),(be:Int)⟩ m n be c W T0 H wv 0 T0 H'/\Pl pv T0) (λ N hN=>?_) ?_
 . exact Jh0 S hm hn t0 rfl rfl (λ k H' a b c kp=>hN _ _ ⟨Zd k,rfl,t0.keep kp,.inr ⟨k,rfl,a,b,c⟩⟩) (λ H' hl kp=>hN _ _ ⟨.non,rfl,t0.keep kp,.inl ⟨rfl,hl⟩⟩)
 rintro σ' H' ⟨pv,rfl,t1,pl⟩
 refine W6 (λ σ2 H2=>∃ N T',Turn C ex p fa ba ⟨(nw:Int),(nr:Int),(be:Int)⟩ m n be c W T0 H wv N T' H2/\Tb.Last m n W T') (λ N hN=>?_) ?_
 . refine ⟨λ μ σ2 H2=>∃ pv av N T',σ2=[some (.ref p),some wv,some pv,av]/\Turn C ex p fa ba ⟨(nw:Int),(nr:Int),(be:Int)⟩ m n be c W T0 H wv N T' H2/\Pl pv T'/\μ = be^m-N,⟨_,pv,none,0,T0,rfl,t1,pl,rfl⟩,?_⟩
   rintro μ σ2 H2 ⟨pv,av,N1,T1,rfl,t2,pl,rfl⟩
   rcases pl with ⟨rfl,hl⟩ | ⟨k,rfl,a,b,cf⟩
   . exact ⟨_,rfl,rfl,_,rfl,Jcx (by simp) (hN _ _ ⟨N1,T1,t2,hl⟩)⟩
   . refine ⟨_,rfl,rfl,_,rfl,Jfq (by simp) ⟨λ σ' H'=>∃ μ',μ'<be^m-N1/\∃ pv av N T',σ'=[some (.ref p),some wv,some pv,av]/\Turn C ex p fa ba ⟨(nw:Int),(nr:Int),(be:Int)⟩ m n be c W T0 H wv N T' H'/\Pl pv T'/\μ'=be^m-N,λ σ' H' h=>h,?_⟩⟩
     refine W6 (λ σ' H'=>∃ av',σ'=[some (.ref p),some wv,some (Zd k),some av']/\Turn C ex p fa ba ⟨(nw:Int),(nr:Int),(be:Int)⟩ m n be c W T0 H wv N1 T1 H'/\((av' = .non/\rf T1 n k m=none)\/∃ l,av'=Zd l/\rf T1 n k m=some l)) (λ M hM=>?_) ?_
     . exact Jrj S hm hn t2 rfl rfl a (λ l H' e kp=>hM _ _ ⟨_,rfl,t2.keep kp,.inr ⟨l,rfl,e⟩⟩) (λ H' e kp=>hM _ _ ⟨_,rfl,t2.keep kp,.inl ⟨rfl,e⟩⟩)
     rintro σ3 H3 ⟨av',rfl,t3,hf⟩
     rcases hf with ⟨rfl,e⟩ | ⟨l,rfl,e⟩
     . refine ⟨_,rfl,rfl,_,rfl,Jfq (by simp) ?_⟩
       have ry:=Jz3 a b e
       have sh:=Jcb S t3.k.ok hm hn
       have hs:sizeLine=16777216:=J9n
       obtain ⟨dx,rv,o1,o2⟩:=t3.h.o
       obtain ⟨j,hj,jp⟩:=Jp3 fit t3.k.tot t3.k.ok ry
       have jn:=fit.sm j hj
       have jm:T1.dir m k j∈(Ql nw).map (T1.dir m k):=Qn.mpr ⟨j,Q6.mpr jn,rfl⟩
       have jb:(T1.dir m k j).natAbs<2^9000:=Q1 (Jjp sh t3.k.ok a ((fit.names t3.k.tot j).mpr (.inr hj))) (J5e (by decide) (by decide))
       have j0:T1.dir m k j≠0:=by omega
       refine ⟨_,rfl,p,dx,_,rfl,o1,rfl,_,rfl,?_⟩
       refine Jef (sp:=Jee C) (E:=E0) (vs:=[Zd k]) (as:=[.d (Jp k)]) t3.h (by rw [sh.lf];omega) (by rw [sh.lb];omega) ⟨⟨_,rfl,.int _⟩,trivial⟩ (P:=λ d _=>d = .tuple (((Ql nw).map (T1.dir m k)).map λ x=>.int (x/((Zg ((Ql nw).map (T1.dir m k)):Nat):Int)))) ⟨T1,m,n,k,nw,nr,be,rfl,sh,t3.k.nm,a,h1,h2,Jol jm j0,Jul jm j0 jb,rfl⟩ λ d n' v H' hp kp r=>?_
       subst hp
       exact qr H' T1 k v (t3.keep kp).h t3.k ry (t3.keep kp).kp r
     . refine ⟨_,rfl,rfl,_,rfl,Jcx (by simp) ?_⟩
       have st:=Jws t3.k.ok a b cf e
       have sh:=Jcb S t3.k.ok hm hn
       obtain ⟨dx,rv,o1,o2⟩:=t3.h.o
       unfold Jrx
       dsimp only
       refine W6 (λ σ' H'=>σ'=[some (.ref p),some wv,some (Zd k),some (Zd l)]/\Turn C ex p fa ba ⟨(nw:Int),(nr:Int),(be:Int)⟩ m n be c W T0 H wv (N1+1) (T1.ex l k) H') (λ M hM=>?_) ?_
       . exact ⟨_,rfl,p,dx,_,rfl,o1,rfl,_,rfl,_,rfl,ex,p,fa,ba,_,T1,m,n,l,k,rfl,t3.h,sh,st.hl,a,λ H' hT' kp=>hM _ _ ⟨rfl,t3.next st hT' kp⟩⟩
       rintro σ4 H4 ⟨rfl,t4⟩
       have few:=t4.few
       refine Jh0 S hm hn t4 rfl rfl (λ k' H' a b c kp=>⟨_,?_,Zd k',_,_,_,rfl,t4.keep kp,.inr ⟨k',rfl,a,b,c⟩,rfl⟩) (λ H' hl kp=>⟨_,?_,.non,_,_,_,rfl,t4.keep kp,.inl ⟨rfl,hl⟩,rfl⟩)
       . omega
       . omega
 . rintro σ2 H2 ⟨N,T',t,hl⟩
   exact ql H2 T' t.h t.k hl t.kp
theorem V8:FnScope ["book","stand","rooms","purses","ways","room","numbers"] ["book","stand"] (Je Vf):=⟨rfl,rfl,rfl,by decide +kernel,rfl,by decide +kernel,by decide +kernel⟩
theorem Jfe (T:Txt mg) (D:Def K mg "first_numbers" Vf ["book","stand"]):Cal P w K mg base "first_numbers" 1 ["book","stand"] (Zh Jhz):=by
 refine D.cal λ f fd F=>F.ok V8 (Vp ?_) (λ cdv A outer s H vs Q E hr h=>?_)
 . rintro as n P ⟨R,U,ws,rfl,_⟩
   rfl
 refine ⟨_,(@Jb _ _ _ _ _ (Ye (pv 0) (Vd (K':=K) (i:=2) (j:=3) (m:=4) rfl V8.nd ⟨rfl,(Qa rfl),(Qa rfl)⟩ ⟨rfl,(Qa rfl),(Qa rfl)⟩ ⟨rfl,(Qa rfl),(Qa rfl)⟩ rfl))
  (@Jb _ _ _ _ _ (Z5 (Yb Jjw (pv 1) Jag (J6 _)) (@Jg _ _ _ (@Jr _ _ _ _ (Jv Jgm (@PEs.out _ _ _ (Y9 (J3 Y2 J5))) (Jv Wa (pv 3) (pv 2))))) Yj)
  (@Jb _ _ _ _ _ (Ye (pv 1) (Yu (K':=K) (i:=5) (j:=6) rfl V8.nd ⟨rfl,(Qo rfl),(Qa rfl)⟩ ⟨rfl,(Qa rfl),(Qa rfl)⟩ rfl))
  (@Jg _ _ _ (@Jr _ _ _ _ (Jv Jsf (Ya Wx rfl T.b_list J90 (Ja (pv 6) Jd)) (Yt (sc:=(Je Vf)) (N:=["book","stand","rooms","purses","ways","room","numbers"]) (N':=["other","room"]) (k:=1) (idx:=[5]) rfl (by exact ⟨rfl,by decide +kernel,by decide +kernel,by decide +kernel,by decide +kernel,by decide +kernel,rfl,rfl⟩) rfl rfl (Yg rfl T.b_range (Ja (pv 2) Jd)) (λ _ _ _ _=>(Jt (i:=0) (show (["other","room"]:List Str).Nodup by decide +kernel) rfl (Qa rfl) (Qo rfl))) (λ _ _ _ _=>Yc) (λ _ _ _ _=>(Ya Jeu rfl T.b_int boot_int (Jny (Wd Jab (pv 0) (pv 1) (J6 _)) Jd)))))))))),Wp h ?_⟩
 rintro as n P ⟨R,U,ws,rfl,ok,q⟩
 have hs:sizeLine=16777216:=J9n
 have one:(1:Nat)<=sizeLine:=by rw [hs];decide
 have r0:=ok.r0
 have r1:=ok.r1
 have p0:=ok.p0
 have p1:=ok.p1
 refine ⟨rfl,rfl,rfl,_,.refl,rfl,W9 ⟨one,⟨by omega,by omega,by show 1*(U+R).toNat<=_;omega⟩,?_⟩⟩
 rw [Jtr]
 exact q
theorem Vz:FnScope ["self","book","some","stand","rooms","purses","ways","rows"] ["self","book","some","stand"] (Je Za):=⟨rfl,rfl,rfl,by decide +kernel,rfl,by decide +kernel,by decide +kernel⟩
theorem Jie {C:Addr}(T:Txt mg) (Y:TableOk K C) (D:DefI2 K mg "Table" C "Table.__init__" Za ["self","book","some","stand"]) (Gr:Cal P w K mg base "first_numbers" 1 ["book","stand"] (Zh Jhz)):Jmz P w K mg base "Table" C 2 ["self","book","some","stand"] (Jk6 C):=by
 refine D.cal λ f fd F=>F.ok Vz (λ vs H Q E h=>by obtain ⟨ex,x,dx,R,U,ws,ks,bv,sv,rfl,_⟩:=h;rfl) (λ cdv A outer s H vs Q E hr h=>?_)
 refine ⟨_,(@Jb _ _ _ _ _ (Ye (pv 1) (Vd (K':=K) (i:=4) (j:=5) (m:=6) rfl Vz.nd ⟨rfl,(Qa rfl),(Qa rfl)⟩ ⟨rfl,(Qa rfl),(Qa rfl)⟩ ⟨rfl,(Qo rfl),(Qa rfl)⟩ rfl))
  (@Jb _ _ _ _ _ (Ja7 (pv 0) (Jw Yh rfl T.b_len Uf (Ja (pv 6) Jd)) rfl)
  (@Jb _ _ _ _ _ (Ja7 (pv 0) (Jv Wa (Jw Yh rfl T.b_len Uf (Ja (pv 6) Jd)) (pv 5)) rfl)
  (@Jb _ _ _ _ _ (Ja7 (pv 0) (Jv Wa (Jv Wa (Jw Yh rfl T.b_len Uf (Ja (pv 6) Jd)) (pv 5)) (pv 4)) rfl)
  (@Jb _ _ _ _ _ (Ja7 (pv 0) (Ya Wx rfl T.b_list J90 (Ja (pv 2) Jd)) rfl)
  (@Jb _ _ _ _ _ (Ja7 (pv 0) (Jiq rfl rfl T.b_list rfl T.b_range (Jad (J1 (K':=K) rfl (pv 0)) (Jad (J1 (K':=K) rfl (pv 0)) Jd))) rfl)
  (@Jb _ _ _ _ _ (Jfo (i:=7) (sc:=(Je Za)) (N:=["self","book","some","stand","rooms","purses","ways","rows"]) (N':=["p","some","ways"]) (k:=1) (idx:=[2,6]) rfl Vz.nd rfl rfl (by exact ⟨rfl,by decide +kernel,by decide +kernel,by decide +kernel,by decide +kernel,by decide +kernel,rfl,rfl⟩) rfl rfl (Yg rfl T.b_range (Ja (pv 5) Jd)) (λ _ _ _ _=>(Jt (i:=0) (show (["p","some","ways"]:List Str).Nodup by decide +kernel) rfl (Qo rfl) (Qa rfl))) (λ _ _ _ _=>Yc) (λ _ _ _ _=>(Yt (sc:=Jst _ (Je Za)) (N:=["p","some","ways"]) (N':=["k","ways","p"]) (k:=1) (idx:=[2,0]) rfl (by exact ⟨rfl,by decide +kernel,by decide +kernel,by decide +kernel,by decide +kernel,by decide +kernel,rfl,rfl⟩) (Jvo rfl) rfl (by exact (Jm0 (K':=K) rfl (pv 1))) (λ _ _ _ _=>(Jt (i:=0) (show (["k","ways","p"]:List Str).Nodup by decide +kernel) rfl (Qa rfl) (Qo rfl))) (λ _ _ _ _=>Yc) (λ _ _ _ _=>(Be Wl (Jo (Zo (K':=K) rfl) (Jo (Zo (K':=K) rfl) (Jo (Zo (K':=K) rfl) (pv 1) (pv 0) (λ _ _=>rfl)) Ji (λ _ _=>rfl)) (pv 2) (λ _ _=>rfl)))))))
  (@Jb _ _ _ _ _ (Jyj (i:=7) Vz.nd rfl (Qa rfl) (Jl4 (sc:=(Je Za)) (N:=["self","book","some","stand","rooms","purses","ways","rows"]) (N':=["room","some","ways"]) (k:=1) (idx:=[2,6]) rfl (by exact ⟨rfl,by decide +kernel,by decide +kernel,by decide +kernel,by decide +kernel,by decide +kernel,rfl,rfl⟩) rfl rfl (Yg rfl T.b_range (Ja (pv 4) Jd)) (λ _ _ _ _=>(Jt (i:=0) (show (["room","some","ways"]:List Str).Nodup by decide +kernel) rfl (Qo rfl) (Qa rfl))) (λ _ _ _ _=>Yc) (λ _ _ _ _=>(Yt (sc:=Jst _ (Je Za)) (N:=["room","some","ways"]) (N':=["k","ways","room"]) (k:=1) (idx:=[2,0]) rfl (by exact ⟨rfl,by decide +kernel,by decide +kernel,by decide +kernel,by decide +kernel,by decide +kernel,rfl,rfl⟩) (Jvo rfl) rfl (by exact (Jm0 (K':=K) rfl (pv 1))) (λ _ _ _ _=>(Jt (i:=0) (show (["k","ways","room"]:List Str).Nodup by decide +kernel) rfl (Qa rfl) (Qo rfl))) (λ _ _ _ _=>Yc) (λ _ _ _ _=>(Jv Bt (Ya Jeu rfl T.b_int boot_int (Jny (Wd Jab (Jo (Zo (K':=K) rfl) (Jo (Zo (K':=K) rfl) (pv 1) (pv 0) (λ _ _=>rfl)) Ji (λ _ _=>rfl)) (pv 2) (J6 _)) Jd)) (Ya Jeu rfl T.b_int boot_int (Jny (Wd Jab (Jo (Zo (K':=K) rfl) (Jo (Zo (K':=K) rfl) (pv 1) (pv 0) (λ _ _=>rfl)) Ji (λ _ _=>rfl)) (pv 2) (J6 _)) Jd))))))) Jwu)
  (@Jb _ _ _ _ _ (Ja7 (pv 0) (Yt (sc:=(Je Za)) (N:=["self","book","some","stand","rooms","purses","ways","rows"]) (N':=["row","first"]) (k:=2) (idx:=[]) rfl (by exact ⟨rfl,by decide +kernel,by decide +kernel,by decide +kernel,by decide +kernel,by decide +kernel,rfl,rfl⟩) rfl rfl (By rfl T.b_zip (Ja (pv 7) (Zn (Yz Gr (hr.mono (by decide)) rfl (Ja (pv 1) (Ja (pv 3) Jd))) Jd))) (λ _ _ _ _=>(Yu (K':=K) (i:=0) (j:=1) rfl (show (["row","first"]:List Str).Nodup by decide +kernel) ⟨rfl,(Qa rfl),(Qo rfl)⟩ ⟨rfl,(Qa rfl),(Qo rfl)⟩ rfl)) (λ _ _ _ _=>Yc) (λ _ _ _ _=>(Jv Jsf (pv 0) (@PEs.out _ _ _ (Y9 (Zz (J7 (pv 1)) J5)))))) rfl)
  (@Jg _ _ _ (Ja7 (pv 0) Ji rfl))))))))))),?_⟩
 obtain ⟨ex,x,dx,R,U,ws,ks,bv,sv,rfl,hx,alx,nxe,rb,rs,ok,hk,kl,q⟩:=h
 have hs:sizeLine=16777216:=J9n
 have r0:=ok.r0
 have r1:=ok.r1
 have p0:=ok.p0
 have p1:=ok.p1
 have wl:=ok.len
 obtain ⟨ba,wa,vs,B⟩:=Jly rb
 have bl:=B.len
 obtain ⟨sa,svs,rfl,hsa,nsa,zsa,rsa⟩:=Jvl rs
 have bx:ba≠x:=λ z=>B.nb (by rw [z];exact Qi)
 have wx:wa≠x:=λ z=>B.nw (by rw [z];exact Qi)
 have sx:sa≠x:=λ z=>nsa (by rw [z];exact Qi)
 refine ⟨_,rfl,ba,_,B.e,SqT.of B.b,rfl,_,_,rfl,_,_,rfl,_,_,rfl,rfl,?_⟩
 show Jas _ _ _ [some (.ref x),some bv,some (.ref sa),some .non,some (.int R),some (.int U),some (.ref wa),none] H
 refine ⟨_,rfl,wa,vs,rfl,.inr (SqT.of B.w),_,rfl,x,C,dx,_,rfl,hx,Y.c,Y.n1,Xl rfl,?_⟩
 refine ⟨_,rfl,wa,vs,rfl,.inr (SqT.of (by rw [Jf wx];exact B.w)),_,rfl,_,_,rfl,rfl,_,rfl,x,C,dx,_,rfl,Jh,Y.c,Y.n2,Xl rfl,?_⟩
 rw [Jf1]
 refine ⟨_,rfl,wa,vs,rfl,.inr (SqT.of (by rw [Jf wx];exact B.w)),_,rfl,_,_,rfl,rfl,_,rfl,_,_,rfl,rfl,_,rfl,x,C,dx,_,rfl,Jh,Y.c,Y.n3,Xl rfl,?_⟩
 rw [Jf1,bl]
 refine ⟨_,rfl,sa,svs,rfl,.inl (SqL.of (by rw [Jf sx];exact hsa)),λ fa hfa=>?_⟩
 have fx:fa≠x:=λ z=>by rw [z,Jh] at hfa;cases hfa
 rw [Jf fx] at hfa
 refine ⟨_,rfl,x,C,dx,_,rfl,by rw [Jf (Qk fx),Jh],Y.c,Y.n4,Xl rfl,?_⟩
 refine ⟨_,rfl,x,C,dx,_,_,rfl,Jh,Y.c,Y.n1,rfl,_,rfl,x,C,dx,_,_,rfl,Jh,Y.c,Y.n3,rfl,_,_,rfl,by omega,by omega,by omega,λ ba' hba=>?_⟩
 have bx':ba'≠x:=λ z=>by rw [z,Jh] at hba;cases hba
 rw [Jf bx'] at hba
 have bf:ba'≠fa:=λ z=>by rw [z,Jh] at hba;cases hba
 rw [Jf bf,Jf bx'] at hba
 refine ⟨_,rfl,x,C,dx,_,rfl,by rw [Jf (Qk bx'),Jh],Y.c,Y.n5,Xl rfl,?_⟩
 have svs':svs=ks.map Zd:=by
  have:=Reps.ints_inv (ns:=ks.map λ k:Nat=>(k:Int)) (vs:=svs) (by rw [Qv];exact rsa)
  rw [this,Qv];rfl
 have bds:Jeg (ws.length:Int) ((ws.length:Int)+U+R-(ws.length:Int)).toNat=(Ja1 R U ws ks).bd.map Zd:=by
  unfold Jeg Ja1 Tb.Bj
  rw [Qv,show ((ws.length:Int)+U+R-(ws.length:Int)).toNat=(U+R).toNat by omega]
  refine X5 λ i _=>?_
  show V.int _=V.int _
  congr 1
 subst svs'
 rw [bds]
 let fs5:List (Str×V):=[("first_purse",.int ws.length),("first_room",.int (ws.length+U)),("behind_all",.int (ws.length+U+R)),("free",.ref fa),("bound",.ref ba')]
 obtain ⟨H6,e6,h6x,h6f,h6b,k6⟩:∃ H6:Hp,H6=upd (upd (upd (upd (upd H x (.ins C dx (L2.putF "behind_all" (.int ((ws.length:Int)+U+R)) (L2.putF "first_room" (.int ((ws.length:Int)+U)) (L2.putF "first_purse" (.int (ws.length:Int)) []))))) fa (.lst (ks.map Zd))) x (.ins C dx (L2.putF "free" (.ref fa) (L2.putF "behind_all" (.int ((ws.length:Int)+U+R)) (L2.putF "first_room" (.int ((ws.length:Int)+U)) (L2.putF "first_purse" (.int (ws.length:Int)) [])))))) ba' (.lst ((Ja1 R U ws ks).bd.map Zd))) x (.ins C dx fs5)/\H6 x=some (.ins C dx fs5)/\H6 fa=some (.lst (ks.map Zd))/\H6 ba'=some (.lst ((Ja1 R U ws ks).bd.map Zd))/\Kp [x] H H6:=by
  refine ⟨_,rfl,Jh,by rw [Jf fx,Jf (Qk bf),Jf fx,Jh],by rw [Jf bx',Jh],λ b o e nb=>?_⟩
  have nx:b≠x:=λ z=>nb (by rw [z];exact Qi)
  rw [Jf nx,Jf (Jq e hba),Jf nx,Jf (Jq e hfa),Jf nx]
  exact e
 dsimp only
 have go:∀ {a b:TS} {D:Ends} {σ:L2.St} (H':Hp),H'=H6->Jas a b D σ H6->Jas a b D σ H':=λ {a b D σ} H' e g=>by rw [e];exact g
 refine go _ e6.symm ?_
 clear go
 have kx6:Kp (fa::ba'::x::ex) H H6:=k6.mono λ b hb=>by rw [Qs.mp hb];simp
 have frx:∀ b∈[fa,ba'],H b=none:=λ b hb=>by
  rcases Qf.mp hb with rfl | hb
  . exact hfa
  . rw [Qs.mp hb];exact hba
 have rb6:Rep (fa::ba'::x::ex) H6 (J0 R U ws) bv:=(Rep.adds (L:=[fa,ba']) frx rb).keep kx6
 have rs6:Rep (fa::ba'::x::ex) H6 (.list (ks.map Jp)) (.ref sa):=(Rep.adds (L:=[fa,ba']) frx rs).keep kx6
 have rw6:Rep (fa::ba'::x::ex) H6 (.tuple (ws.map Yk)) (.ref wa):=(Rep.adds (L:=[fa,ba']) frx (.tuple B.w B.nw B.z B.r)).keep kx6
 have al6:Alc (fa::ba'::x::ex) H6:=λ b hb=>by
  rcases Qf.mp hb with rfl | hb
  . rw [h6f];exact Xs _
  . rcases Qf.mp hb with rfl | hb
    . rw [h6b];exact Xs _
    . rcases Qf.mp hb with rfl | hb
      . rw [h6x];exact Xs _
      . cases e:H b with
        | none=>exact absurd e (alx b hb)
        | some o=>rw [k6 b o e (λ z=>nxe (by rw [<- Qs.mp z];exact hb))];exact Xs _
 have hU:((U.toNat:Nat):Int)=U:=J3f (by omega)
 have hR:((R.toNat:Nat):Int)=R:=J3f (by omega)
 have E6:Ev Src.no (fa::ba'::x::ex) [.jnk,.d (J0 R U ws),.d (.list (ks.map Jp)),.d .none,.d (.int R),.d (.int U),.d (.tuple (ws.map Yk))] [some (.ref x),some bv,some (.ref sa),some .non,some (.int R),some (.int U),some (.ref wa),none] H6 0:=Jh2.ev ⟨trivial,⟨_,rfl,rb6⟩,⟨_,rfl,rs6⟩,⟨_,rfl,.none⟩,⟨_,rfl,.int _⟩,⟨_,rfl,.int _⟩,⟨_,rfl,rw6⟩,trivial⟩ al6
 refine Jum (λ ds _=>ds=(Ql U.toNat).map λ i=>.list (ks.map λ k=>.int (Z1 U ws k i))) E6 ?_ ?_
 . refine ⟨U,rfl,⟨by omega,by omega⟩,⟨rfl,by rw [J4];omega⟩,?_⟩
   refine Vq (λ i=>.list (ks.map λ k=>.int (Z1 U ws k i))) (λ i hi n K hK=>W9 ⟨⟨rfl,by rw [Qb];omega⟩,?_⟩) rfl
   refine Y6 (f:=Jp) (λ k=>.int (Z1 U ws k i)) (λ k hkk n K hK=>W9 ?_) hK
   have k1:=hk k hkk
   have wok:=ok.ways _ (J8 (Xb k) (by omega))
   have gl:i<(Jc ws (k:Int)).g.length:=by have:=wok.len;omega
   refine ⟨_,B5 (Xb k) (by omega),_,rfl,_,Yl (by omega) (by rw [U6,Q0,Qh,Qd gl];rfl),?_⟩
   have e:Z1 U ws k i = -(Jc ws (k:Int)).g[i]:=by
    unfold Z1
    rw [if_pos k1,if_pos (by omega),Qg,Qd gl];rfl
   rw [e] at hK
   exact hK
 rintro ds n7 ra rvs H7 rfl st7 hra h7a z7 r7
 have k7:Kp [] H6 H7:=st7.1
 have E7:=E6.step st7
 have kx7:Kp (ra::fa::ba'::x::ex) H6 H7:=k7.mono λ a ha=>by cases ha
 have al7:Alc (ra::fa::ba'::x::ex) H7:=λ b hb=>by
  rcases Qf.mp hb with rfl | hb
  . rw [h7a];exact Xs _
  . exact E7.al b hb
 have rb7:Rep (ra::fa::ba'::x::ex) H7 (J0 R U ws) bv:=(Rep.add hra rb6).keep kx7
 have rs7:Rep (ra::fa::ba'::x::ex) H7 (.list (ks.map Jp)) (.ref sa):=(Rep.add hra rs6).keep kx7
 have rw7:Rep (ra::fa::ba'::x::ex) H7 (.tuple (ws.map Yk)) (.ref wa):=(Rep.add hra rw6).keep kx7
 have E7':Ev Src.no (ra::fa::ba'::x::ex) [.jnk,.d (J0 R U ws),.d (.list (ks.map Jp)),.d .none,.d (.int R),.d (.int U),.d (.tuple (ws.map Yk))] [some (.ref x),some bv,some (.ref sa),some .non,some (.int R),some (.int U),some (.ref wa),some (.ref ra)] H7 0:=Jh2.ev ⟨trivial,⟨_,rfl,rb7⟩,⟨_,rfl,rs7⟩,⟨_,rfl,.none⟩,⟨_,rfl,.int _⟩,⟨_,rfl,.int _⟩,⟨_,rfl,rw7⟩,trivial⟩ al7
 refine Jun (λ ds _=>ds=(Ql R.toNat).map λ i=>.list (ks.map λ k=>.int (Z1 U ws k (U.toNat+i)))) E7' ?_ rfl h7a (by simp [Src.no]) ?_
 . refine ⟨R,rfl,⟨by omega,by omega⟩,⟨rfl,by rw [J4];omega⟩,?_⟩
   refine Vq (λ i=>.list (ks.map λ k=>.int (Z1 U ws k (U.toNat+i)))) (λ i hi n K hK=>W9 ⟨⟨rfl,by rw [Qb];omega⟩,?_⟩) rfl
   refine Y6 (f:=Jp) (λ k=>.int (Z1 U ws k (U.toNat+i))) (λ k hkk n K hK=>W9 ?_) hK
   have k1:=hk k hkk
   have wok:=ok.ways _ (J8 (Xb k) (by omega))
   have e:Z1 U ws k (U.toNat+i)=(if decide ((Jc ws (k:Int)).a=0+(i:Int))=true then 1 else 0)-(if decide ((Jc ws (k:Int)).b=0+(i:Int))=true then 1 else 0):=by
    unfold Z1
    rw [if_pos k1,if_neg (by omega),show ((U.toNat+i:Nat):Int)-U=0+(i:Int) by omega]
    simp only [decide_eq_true_eq]
   rw [e] at hK
   exact ⟨_,B5 (Xb k) (by omega),_,rfl,_,B5 (Xb k) (by omega),_,rfl,hK⟩
 rintro ds n8 rb us H8 rfl st8 hrb h8b z8 r8 h8a
 have k8:Kp [] H7 H8:=st8.1
 have l7:=r7.length
 rw [Qb,Qx] at l7
 have l8:=r8.length
 rw [Qb,Qx] at l8
 refine ⟨by omega,?_⟩
 have nra:ra∉(fa::ba'::x::ex):=λ z=>E6.al ra z hra
 have nrb:ra≠rb:=λ z=>by rw [z,hrb] at h7a;cases h7a
 have ram:ra∈(ra::fa::ba'::x::ex):=Qi
 have k8':Kp (ra::fa::ba'::x::ex) H7 (upd H8 ra (.lst (rvs++us))):=(k8.mono λ a ha=>by cases ha).trans (Kp.at ram _)
 have rows8:Reps (ra::fa::ba'::x::ex) (upd H8 ra (.lst (rvs++us))) ((Ql (U+R).toNat).map λ i=>.list (ks.map λ k=>.int (Z1 U ws k i))) (rvs++us):=by
  rw [show (U+R).toNat=U.toNat+R.toNat by omega,J8z,Xd,Qv]
  exact Reps.append (r7.keep k8') ((Reps.sub r8).keep (Kp.at ram _))
 have al8:Alc (fa::ba'::x::ex) (upd H8 ra (.lst (rvs++us))):=λ b hb=>by
  by_cases e:b=ra
  . rw [e,Jh];exact Xs _
  . rw [Jf e];exact (E7'.step st8).al b (Qj _ hb)
 have E8:Ev Src.no (fa::ba'::x::ex) [.jnk,.d (J0 R U ws),.d (.list (ks.map Jp)),.d .none,.d (.int R),.d (.int U),.d (.tuple (ws.map Yk)),.d (.list ((Ql (U+R).toNat).map λ i=>.list (ks.map λ k=>.int (Z1 U ws k i))))] [some (.ref x),some bv,some (.ref sa),some .non,some (.int R),some (.int U),some (.ref wa),some (.ref ra)] (upd H8 ra (.lst (rvs++us))) 0:=Jh2.ev ⟨trivial,⟨_,rfl,Rep.sub (rb7.keep k8')⟩,⟨_,rfl,Rep.sub (rs7.keep k8')⟩,⟨_,rfl,.none⟩,⟨_,rfl,.int _⟩,⟨_,rfl,.int _⟩,⟨_,rfl,Rep.sub (rw7.keep k8')⟩,⟨_,rfl,.list Jh nra (by rw [Q7];omega) (Reps.sub rows8)⟩,trivial⟩ al8
 have xra:x≠ra:=λ z=>nra (by rw [<- z];simp)
 have fra:fa≠ra:=λ z=>nra (by rw [<- z];simp)
 have bra:ba'≠ra:=λ z=>nra (by rw [<- z];simp)
 have h8x:(upd H8 ra (.lst (rvs++us))) x=some (.ins C dx fs5):=by rw [Jf xra];exact k8 _ _ (k7 _ _ h6x (by simp)) (by simp)
 refine Juo (λ ds _=>ds=(Ja1 R U ws ks).rows.map Y5) E8 ?_ rfl h8x (by simp [Src.no]) Y.c Y.n6 (Xl rfl) ?_
 . refine ⟨R,U,ws,rfl,ok,_,_,_,_,rfl,rfl,rfl,⟨rfl,by rw [B6,Qb,Qx];omega⟩,?_⟩
   have ez:Vh ((Ql (U+R).toNat).map λ i=>X4 (ks.map λ k=>.int (Z1 U ws k i))) ((Qw (U+R).toNat (0:Int)).map .int)=(Ql (U+R).toNat).map λ i=>Ud [.list (ks.map λ k=>.int (Z1 U ws k i)),.int 0]:=by
    apply Xu
    intro i
    unfold Vh
    rw [Uw,Qh,Qh,Qh,J21]
    by_cases hi:i<(U+R).toNat
    . rw [Xk hi,if_pos hi];rfl
    . rw [Qy (by rw [Qx];omega)];rfl
   rw [ez]
   refine Vq (λ i=>Y5 (ks.map (λ k=>Z1 U ws k i)++[0])) (λ i hi n K hK=>⟨rfl,rfl,W9 ?_⟩) ?_
   . have e:Y5 (ks.map (λ k=>Z1 U ws k i)++[0]) = .list ((ks.map λ k=>.int (Z1 U ws k i))++[.int 0]):=by
      show X4 _=_
      rw [Xd,Qv];rfl
     rw [e] at hK
     exact ⟨Xl rfl,by rw [Qb];show ks.length+1<=sizeLine;omega,hK⟩
   . unfold Ja1 Tb.Bj
     rw [Qv]
     rfl
 rintro ds n9 rr vs9 H9 rfl st9 hrr h9r z9 r9 h9x
 have k9:Kp [] (upd H8 ra (.lst (rvs++us))) H9:=st9.1
 refine ⟨_,rfl,x,C,dx,_,rfl,Jh,Y.c,Y.n7,Xl rfl,?_⟩
 rw [Jf1]
 have h8f:(upd H8 ra (.lst (rvs++us))) fa=some (.lst (ks.map Zd)):=by rw [Jf fra];exact k8 _ _ (k7 _ _ h6f (by simp)) (by simp)
 have h8b':(upd H8 ra (.lst (rvs++us))) ba'=some (.lst ((Ja1 R U ws ks).bd.map Zd)):=by rw [Jf bra];exact k8 _ _ (k7 _ _ h6b (by simp)) (by simp)
 have xr:rr≠x:=λ z=>by rw [z,h8x] at hrr;cases hrr
 have fr:rr≠fa:=λ z=>by rw [z,h8f] at hrr;cases hrr
 have br:rr≠ba':=λ z=>by rw [z,h8b'] at hrr;cases hrr
 have nrx:rr∉fa::ba'::x::ex:=λ z=>E8.al rr z hrr
 have mv:∀ b,b∈x::fa::ba'::ex->b∈fa::ba'::x::ex:=λ b hb=>by
  simp only [Qf] at hb ⊢
  rcases hb with h | h | h | h
  . exact .inr (.inr (.inl h))
  . exact .inl h
  . exact .inr (.inl h)
  . exact .inr (.inr (.inr h))
 refine q _ fa ba' hfa hba ⟨⟨dx,.ref rr,?_,?_⟩,?_,?_,Qk fx,Qk bx',Qk bf,nxe,λ z=>alx fa z hfa,λ z=>alx ba' z hba,λ b hb=>?_⟩ λ b o e nb=>?_
 . rw [Jh];rfl
 . refine .list (by rw [Jf xr];exact h9r) (λ z=>nrx (mv rr z)) z9 ?_
   exact (Reps.mono (λ b hb=>Qj _ (mv b hb)) r9).keep (Kp.at Qi _)
 . rw [Jf fx];exact k9 _ _ h8f (by simp)
 . rw [Jf bx'];exact k9 _ _ h8b' (by simp)
 . by_cases e:b=x
   . rw [e,Jh];exact Xs _
   . rw [Jf e]
     exact E8.al.kp k9 b (Qj _ (Qj _ (Qj _ hb)))
 . have nx:b≠x:=λ z=>nb (by rw [z];exact Qi)
   rw [Jf nx]
   refine k9 _ _ ?_ (by simp)
   have e6':=k6 b o e nb
   rw [Jf (Jq e6' hra)]
   exact k8 _ _ (k7 _ _ e6' (by simp)) (by simp)
theorem Jov:FnScope ["book","some"] ["book","some"] (Je Ja2):=⟨rfl,rfl,rfl,by decide +kernel,rfl,by decide +kernel,by decide +kernel⟩
theorem Jow (T:Txt mg) (D:Def K mg "is_ring" Ja2 ["book","some"]) (Gf:Cal P w K mg base "has_way" 3 ["book","k"] (Jj Jdy)) (Gh:Cal P w K mg base "rings_of" 2 ["book","some"] (Jj Jf7)):Cal P w K mg base "is_ring" 4 ["book","some"] (Jj Jh5):=by
 refine D.cal λ f fd F=>F.ok Jov (Jx ?_) (λ cdv A outer s H vs Q E hr h=>?_)
 . rintro as n P ⟨R,U,ws,ks,rfl,_⟩
   rfl
 refine ⟨_,(@Jb _ _ _ _ _ (Z5 (PW.pt (Jrv (Jah (W5 (Jw Jbw rfl T.b_all Yaj (Wy (Yt (sc:=(Je Ja2)) (N:=["book","some"]) (N':=["k","book"]) (k:=1) (idx:=[0]) rfl (by exact ⟨rfl,by decide +kernel,by decide +kernel,by decide +kernel,by decide +kernel,by decide +kernel,rfl,rfl⟩) rfl rfl (Zm (pv 1)) (λ _ _ _ _=>(Jt (i:=0) (show (["k","book"]:List Str).Nodup by decide +kernel) rfl (Qa rfl) (Qo rfl))) (λ _ _ _ _=>Yc) (λ _ _ _ _=>(Yz Gf (hr.mono (by decide)) rfl (Ja (pv 1) (Ja (pv 0) Jd))))) Jd)))) (Jnh (Jah (W5 (Jw Jbw rfl T.b_all Yaj (Wy (Yt (sc:=(Je Ja2)) (N:=["book","some"]) (N':=["k","then"]) (k:=2) (idx:=[]) rfl (by exact ⟨rfl,by decide +kernel,by decide +kernel,by decide +kernel,by decide +kernel,by decide +kernel,rfl,rfl⟩) rfl rfl (By rfl T.b_zip (Ja (pv 1) (Y4 (Jat Jci (pv 1) (Jch Ji) Jcg) Jd))) (λ _ _ _ _=>(Yu (K':=K) (i:=0) (j:=1) rfl (show (["k","then"]:List Str).Nodup by decide +kernel) ⟨rfl,(Qa rfl),(Qo rfl)⟩ ⟨rfl,(Qa rfl),(Qo rfl)⟩ rfl)) (λ _ _ _ _=>Yc) (λ _ _ _ _=>(Wd Jlm (pv 0) (pv 1) (J6 _)))) Jd))))))) (@Jg _ _ _ (@Jr _ _ _ _ Jbq)) Yj)
  (@Jg _ _ _ (@Jr _ _ _ _ (Wd (Jsl hr.units) (Yz Gh (hr.mono (by decide)) rfl (Ja (pv 0) (Ja (pv 1) Jd))) (@PEs.out _ _ _ (Y9 (Zz (J7 (pv 1)) J5))) (J6 _))))),Ju h ?_⟩
 rintro as n P ⟨R,U,ws,ks,rfl,ok,rg,q⟩
 have hs:sizeLine=16777216:=J9n
 have wl:=ok.len
 have kl:=rg.len
 refine ⟨rfl,⟨rfl,by rw [Qb];omega⟩,?_⟩
 refine Y6 (f:=Jp) (λ k=>.bool true) (λ k hk n K hK=>W9 ⟨R,U,ws,(k:Int),rfl,⟨by omega,by have:=rg.lt k hk;omega⟩,hK⟩) ?_
 refine ⟨Qw ks.length true,by rw [J3c];rw [J5i],rfl,?_⟩
 have all1:(Qw ks.length true).all id=true:=X3.mpr λ b hb=>by rw [(J24.mp hb).2];rfl
 rw [all1]
 refine Jbv ?_
 have cut:Jik (ks.map Jp) (some (1:Int)) none=ks.tail.map Jp:=by
  have:=Jex (ks.map Jp) 1
  rw [show ((1:Nat):Int)=1 from rfl] at this
  rw [this,<- J37,List.drop_one]
 have zz:∀ l l':List Nat,Vh (l.map Jp) (l'.map Jp)=(l.zip l').map λ p=>.tuple [Jp p.1,Jp p.2]:=λ l=>by
  induction l with
  | nil=>intro l';simp [Vh]
  | cons a l ih=>intro l';cases l' with
   | nil=>simp [Vh]
   | cons b l'=>have:=ih l';unfold Vh at this ⊢;rw [Qz,Qz,J6y,this,J49,Qz]
 have upz:∀ p∈ks.zip ks.tail,p.1<p.2:=λ p hp=>by
  obtain ⟨i,hi⟩:=Ul.mp hp
  rw [J5a,Uw] at hi
  have i1:i<ks.length:=by
   rcases X1 i ks.length with h | h
   . exact h
   . rw [Qy h] at hi;cases hi
  have i2:i+1<ks.length:=by
   rcases X1 i ks.tail.length with h | h
   . rw [List.length_tail] at h;omega
   . rw [Qd i1,Qy h] at hi;cases hi
  rw [Qd i1,List.getElem?_tail,Qd i2] at hi
  cases hi
  exact J43.mp rg.up i (i+1) i1 i2 (J3x i)
 refine ⟨_,_,_,_,rfl,rfl,rfl,⟨rfl,by rw [B6,Qb];omega⟩,?_⟩
 rw [cut,zz]
 refine Y6 (f:=λ p:Nat×Nat=>Ud [Jp p.1,Jp p.2]) (λ p=>.bool true) (λ p hp n K hK=>⟨rfl,rfl,W9 ?_⟩) ?_
 . have lt:((p.1:Nat):Int)<((p.2:Nat):Int):=by exact_mod_cast upz p hp
   show K (some (.bool (decide (((p.1:Nat):Int)<((p.2:Nat):Int))))) n
   rw [decide_eq_true lt]
   exact hK
 refine ⟨Qw (ks.zip ks.tail).length true,by rw [J3c];rw [J5i],rfl,?_⟩
 have all2:(Qw (ks.zip ks.tail).length true).all id=true:=X3.mpr λ b hb=>by rw [(J24.mp hb).2];rfl
 rw [all2]
 refine Jbv ⟨_,.refl,R,U,ws,nI ks,?_,ok,?_,by unfold nI;rw [Qb];omega,Xl rfl,?_⟩
 . unfold nI;rw [Qv];rfl
 . intro k hk
   obtain ⟨j,hj,rfl⟩:=Qn.mp hk
   have:=rg.lt j hj
   omega
 . rw [rg.one]
   have e:Jkp [nI ks] = .list [.list ((nI ks).map .int)]:=rfl
   have e2:(X4 (ks.map Jp)) = .list ((nI ks).map .int):=by unfold nI;rw [Qv];rfl
   rw [e2,e]
   have hl:U5 (.list [.list ((nI ks).map .int)])=true:=by rw [U5,J3b,U5,Jks];rfl
   refine ⟨⟨hl,hl,Xi (J8c _ _) (by rw [J6w,J6v,J6w,Jn9];decide)⟩,?_⟩
   rw [J8d _ hl]
   exact q
theorem Jiw:FnScope ["book","some"] ["book","some"] (Je Jbo):=⟨rfl,rfl,rfl,by decide +kernel,rfl,by decide +kernel,by decide +kernel⟩
theorem Jix {C:Addr}(T:Txt mg) (Y:TableOk K C) (D:Def K mg "ring_table" Jbo ["book","some"]) (Gs:Cal P w K mg base "is_ring" 4 ["book","some"] (Jj Jh5)) (c_Table__init:Jmz P w K mg base "Table" C 2 ["self","book","some","stand"] (Jk6 C)):Cal P w K mg base "ring_table" 5 ["book","some"] (Jk8 C):=by
 refine D.cal λ f fd F=>F.ok Jiw (λ vs H Q E h=>by obtain ⟨ex,R,U,ws,ks,bv,sv,rfl,_⟩:=h;rfl) (λ cdv A outer s H vs Q E hr h=>?_)
 refine ⟨_,(@Jb _ _ _ _ _ (Z5 (Jah (W5 (Yz Gs (hr.mono (by decide)) rfl (Ja (pv 0) (Ja (pv 1) Jd))))) Jcf Yj)
  (@Jg _ _ _ (@Jr _ _ _ _ (J12 c_Table__init (hr.mono (by decide)) rfl (Ja (pv 0) (Ja (pv 1) Jd)))))),?_⟩
 obtain ⟨ex,R,U,ws,ks,bv,sv,rfl,al,rb,rs,ok,rg,q⟩:=h
 have ra:B1 Src.no ex H [.d (J0 R U ws),.d (.list (ks.map Jp))] [bv,sv]:=⟨⟨_,rfl,rb⟩,⟨_,rfl,rs⟩,trivial⟩
 refine ⟨_,rfl,_,rfl,Src.no,ex,_,0,λ d _=>d = .bool true,ra,λ a ha=>(by cases ha),al,trivial,⟨R,U,ws,ks,rfl,ok,rg,rfl⟩,λ d n' v H1 hd st r=>?_⟩
 subst hd
 cases r
 refine ⟨true,rfl,?_⟩
 have k1:Kp [] H H1:=st.1
 refine Jbv ?_
 refine ⟨_,rfl,_,rfl,λ x dx hx hdx hne=>?_⟩
 have lifted:∀ {b:Addr},H1 b=none->H b=none:=λ {b} hb=>by
  cases e:H b with
  | none=>rfl
  | some o=>rw [k1 b o e (by simp)] at hb;cases hb
 have kn:Kp [] H1 (upd (upd H1 dx (.own x)) x (.ins C dx [])):=λ b o e _=>by rw [Jf (Jq e hx),Jf (Jq e hdx)];exact e
 have al1:Alc ex H1:=al.kp k1
 have nx:x∉ex:=λ z=>al1 x z hx
 have kxx:Kp (x::ex) H1 (upd (upd H1 dx (.own x)) x (.ins C dx [])):=kn.mono λ a ha=>by cases ha
 have fresh:∀ {b:Addr},(upd (upd H1 dx (.own x)) x (.ins C dx [])) b=none->H1 b=none:=λ {b} hb=>by
  cases e:H1 b with
  | none=>rfl
  | some o=>rw [kn b o e (by simp)] at hb;cases hb
 refine ⟨ex,x,dx,R,U,ws,ks,bv,sv,rfl,Jh,al1.kp kn,nx,(Rep.add hx (rb.keep (k1.mono λ a ha=>by cases ha))).keep kxx,(Rep.add hx (rs.keep (k1.mono λ a ha=>by cases ha))).keep kxx,ok,rg.lt,by have:=rg.len;have:=ok.len;omega,λ H' fa ba hfa hba hT kp=>⟨rfl,q H' x fa ba (lifted hx) (lifted (fresh hfa)) (lifted (fresh hba)) hT (λ b o e _=>?_)⟩⟩
 have e1:=k1 b o e (by simp)
 exact kp b o (kn b o e1 (by simp)) (λ z=>by rw [Qs.mp z,hx] at e1;cases e1)
theorem Wi:FnScope ["book","some","p","table","wanted","counts"] ["book","some","p"] (Je V7):=⟨rfl,rfl,rfl,by decide +kernel,rfl,by decide +kernel,by decide +kernel⟩
theorem Jeo {C:Addr}(T:Txt mg) (Y:TableOk K C) (D:Def K mg "kept_or_raised" V7 ["book","some","p"]) (Gu:Cal P w K mg base "ring_table" 5 ["book","some"] (Jk8 C)) (Gc:Cal P w K mg base "is_between" 2 ["thing","least","most"] (Jj Jcm)) (c_Table__find_round:Wj P w K mg base C "find_round" 4 ["self","wanted"] (Jk3 C)) (c_Table__read_sum:Wj P w K mg base C "read_sum" 3 ["self","wanted"] (Jj (Ja0 C))):Cal P w K mg base "kept_or_raised" 6 ["book","some","p"] (Jj Jbk):=by
 refine D.cal λ f fd F=>F.ok Wi (Jx ?_) (λ cdv A outer s H vs Q E hr h=>?_)
 . rintro as n P ⟨R,U,ws,ks,k,rfl,_⟩
   rfl
 refine ⟨_,(@Jb _ _ _ _ _ (Jz (i:=3) Wi.nd rfl (Qa rfl) (Yz Gu (hr.mono (by decide)) rfl (Ja (pv 0) (Ja (pv 1) Jd))))
  (@Jb _ _ _ _ _ (Z5 (Jah (W5 (Yz Gc (hr.mono (by decide)) rfl (Ja (pv 2) (Zc Ji (Bx (Jv Bt (Jo Ys (pv 0) Ji (λ _ _=>rfl)) Ji) Jd)))))) Jcf Yj)
  (@Jb _ _ _ _ _ (@Jck _ _ 4 _ _ _ _ Wi.nd rfl (Qa rfl) (Y9 (Jja (J7 (Jv Wa (J1 (K':=K) rfl (pv 3)) (pv 2))) J5)) rfl (Qa rfl))
  (@Jb _ _ _ _ _ (Jz (i:=5) Wi.nd rfl (Qa rfl) (Je4 c_Table__find_round (hr.mono (by decide)) (pv 3) (Ja (pv 4) Jd)))
  (@Jb _ _ _ _ _ (Z5 (Yb Jjw (pv 5) Jag (J6 _)) (@Jg _ _ _ (@Jr _ _ _ _ (@PEs.out _ _ _ (Wz (J3 Jpd (Wo (J7 (Je4 c_Table__read_sum (hr.mono (by decide)) (pv 3) (Ja (pv 4) Jd))) J5)))))) Yj)
  (@Jg _ _ _ (@Jr _ _ _ _ (@PEs.out _ _ _ (Wz (J3 Jpd (Zz (J7 (pv 5)) J5))))))))))),?_⟩
 obtain ⟨S,ex,as,n,P,ra,hc,al,iv,⟨R,U,ws,ks,k,rfl,ok,rg,hk,q1,q2⟩,q⟩:=h
 obtain ⟨bv,sv,kv,rfl,rb,rs,rfl⟩:∃ bv sv kv,vs=[bv,sv,kv]/\Rep ex H (J0 R U ws) bv/\Rep ex H (.list (ks.map Jp)) sv/\kv=Zd k:=by
  cases vs with
  | nil=>exact ra.elim
  | cons bv vs=>
   cases vs with
   | nil=>exact ra.2.elim
   | cons sv vs=>
    cases vs with
    | nil=>exact ra.2.2.elim
    | cons kv vs=>
     cases vs with
     | cons _ _=>exact ra.2.2.2.elim
     | nil=>
      obtain ⟨⟨_,e1,r1⟩,⟨_,e2,r2⟩,⟨_,e3,r3⟩,_⟩:=ra
      cases e1
      cases e2
      cases e3
      cases r3
      exact ⟨_,_,_,rfl,r1,r2,rfl⟩
 have hs:sizeLine=16777216:=J9n
 have one:(1:Nat)<=sizeLine:=by rw [hs];decide
 have two:(2:Nat)<=sizeLine:=by rw [hs];decide
 have wl:=ok.len
 have r0:=ok.r0
 have p0:=ok.p0
 have m0:k<(U+R).toNat:=by omega
 have t0:Told R U ws ks [ws.length+k] (Ja1 R U ws ks):=.zero ok rg.nd rg.lt
 refine W6 (λ σ' H1=>∃ p fa ba,σ'=[some bv,some sv,some (Zd k),some (.ref p),none,none]/\TabH C ex p fa ba (Jir R U ws) (Ja1 R U ws ks) H1/\Kp [] H H1/\H p=none/\H fa=none/\H ba=none) (λ N hN=>?_) ?_
 . exact ⟨_,rfl,_,rfl,ex,R,U,ws,ks,bv,sv,rfl,al,rb,rs,ok,rg,λ H1 p fa ba hp hfa hba hT k1=>hN _ _ ⟨p,fa,ba,rfl,hT,k1,hp,hfa,hba⟩⟩
 rintro σ1 H1 ⟨p,fa,ba,rfl,hT,k1,hp,hfa,hba⟩
 have kx1:Kp ex H H1:=k1.mono λ a ha=>by cases ha
 refine W6 (λ σ' H2=>σ'=[some bv,some sv,some (Zd k),some (.ref p),none,none]/\Kp [] H1 H2) (λ N hN=>?_) ?_
 . obtain ⟨bk,wa,wvs,B⟩:=Jly (rb.keep kx1)
   refine ⟨_,rfl,_,rfl,bk,_,_,_,B.e,rfl,SqT.of B.b,rfl,_,_,rfl,rfl,Src.no,ex,[.d (Jp k),.d (.int 0),.d (.int (U-1))],0,λ d _=>d = .bool true,⟨⟨_,rfl,.int _⟩,⟨_,rfl,.int _⟩,⟨_,rfl,.int _⟩,trivial⟩,λ a ha=>(by cases ha),al.kp k1,trivial,⟨_,_,_,rfl,?_⟩,λ d n' v H2 hd st r=>?_⟩
   . rw [decide_eq_true (show (0:Int)<=((k:Nat):Int) by omega),decide_eq_true (show ((k:Nat):Int)<=U-1 by omega)];rfl
   subst hd
   cases r
   exact ⟨true,rfl,Jbv (hN _ _ ⟨rfl,st.1⟩)⟩
 rintro σ2 H2 ⟨rfl,k2⟩
 have hT2:=hT.keep k2
 refine W6 (λ σ' H3=>∃ l,σ'=[some bv,some sv,some (Zd k),some (.ref p),some (.ref l),none]/\Kp [] H2 H3/\H2 l=none/\H3 l=some (.lst [Zd (ws.length+k)])) (λ N hN=>?_) ?_
 . obtain ⟨dx,rv,o1,o2⟩:=hT2.o
   refine ⟨_,rfl,p,C,dx,_,_,rfl,o1,Y.c,Y.n1,rfl,_,rfl,_,_,rfl,rfl,one,λ l hl=>hN _ _ ⟨l,rfl,Kp.new hl _,hl,?_⟩⟩
   rw [Jh]
   rfl
 rintro σ2' H2' ⟨l,rfl,k2',hl,hll⟩
 have hT2':=hT2.keep k2'
 have nl:l∉p::fa::ba::ex:=by
  obtain ⟨dx,rv,o1,o2⟩:=hT2.o
  exact Juj (λ z=>by rw [z,o1] at hl;cases hl) (λ z=>by rw [z,hT2.f] at hl;cases hl) (λ z=>by rw [z,hT2.b] at hl;cases hl) (λ z=>hT2.al l z hl)
 have hw2:Rep (p::fa::ba::ex) H2' (.list ([ws.length+k].map Jp)) (.ref l):=.list hll nl one (.cons (.int _) .nil)
 refine W6 (λ σ' H3=>∃ v T',σ'=[some bv,some sv,some (Zd k),some (.ref p),some (.ref l),some v]/\TabH C ex p fa ba (Jir R U ws) T' H3/\Told R U ws ks [ws.length+k] T'/\Kp [p,fa,ba] H2' H3/\((v = .non/\Tb.Last (U+R).toNat ks.length [ws.length+k] T')\/∃ j,Tb.Ray (U+R).toNat ks.length [ws.length+k] T' j/\v≠.non/\Rep ex H3 (.tuple ((drQ ws (U+R).toNat T' j).map .int)) v)) (λ N hN=>?_) ?_
 . obtain ⟨dx,rv,o1,o2⟩:=hT2'.o
   refine ⟨_,rfl,p,dx,_,rfl,o1,rfl,_,rfl,?_⟩
   exact Jrm (E:=E0) t0 hT2' hw2 (λ H3 T' j v h1 h2 h3 h4 h5=>hN _ _ ⟨v,T',rfl,h1,h2,h4,.inr ⟨j,h3,(λ z=>by subst z;cases h5),h5⟩⟩) (λ H3 T' h1 h2 h3 h4=>hN _ _ ⟨.non,T',rfl,h1,h2,h4,.inl ⟨rfl,h3⟩⟩)
 rintro σ3 H3 ⟨v,T',rfl,hT3,t3,k3,hv⟩
 have k03:Kp [] H H3:=λ b o e _=>k3 b o (k2' b o (k2 b o (k1 b o e (by simp)) (by simp)) (by simp)) (λ z=>by
  simp only [Qf,X2,or_false] at z
  rcases z with z | z | z
  . rw [z,hp] at e;cases e
  . rw [z,hfa] at e;cases e
  . rw [z,hba] at e;cases e)
 rcases hv with ⟨rfl,hl3⟩ | ⟨j,ry,nn,rc⟩
 . refine ⟨_,rfl,rfl,_,rfl,Jfq (by simp) ?_⟩
   obtain ⟨dx,rv,o1,o2⟩:=hT3.o
   have bnd:=Jop t3.kept.ok hl3 (t3.unit m0)
   have hw:∀ s,s<(U+R).toNat->ws.length+s∉[ws.length+k]\/∃ i,i<(U+R).toNat/\T'.b i=ws.length+s:=λ s hs=>by
    by_cases e:s=k
    . subst e;exact .inr bnd
    . exact .inl (by rw [Qs];omega)
   obtain ⟨s,hs',hne⟩:=Jwy t3 hl3 hw (.inr ⟨k,m0,Qs.mpr rfl⟩)
   obtain ⟨sk,_,fl⟩:=Jus t3 hl3 hw (Jm3 t3 hs' hne).1
   have lrep:Rep ex H3 (.list ([ws.length+k].map Jp)) (.ref l):=by
    have:=hw2.keep (k3.mono λ b hb=>by simp only [Qf,X2,or_false] at hb ⊢;rcases hb with h | h | h<;>simp [h])
    exact Rep.sub (Rep.sub (Rep.sub this))
   refine ⟨_,rfl,p,dx,_,rfl,o1,rfl,_,rfl,?_⟩
   refine Jut (E:=E0) t3 hT3 lrep (λ x hx=>by rw [Qs.mp hx];omega) hs' hne λ H4 v k4 r4=>⟨two,λ tp htp=>?_⟩
   have kt:Kp [] H4 (upd H4 tp (.tup [.str "kept",v])):=Kp.new htp _
   have k04:Kp [] H (upd H4 tp (.tup [.str "kept",v])):=(k03.trans k4).trans kt
   exact q _ n _ _ (q1 _ _ sk (fl k hk (Qs.mpr rfl))) (.new iv k04) (.tuple Jh (λ z=>(al.kp k03).kp k4 tp z htp) two (.cons (.str _) (.cons (r4.keep (kt.mono λ a ha=>by cases ha)) .nil)))
 . refine ⟨_,rfl,rfl,_,rfl,Jcx (by simp [nn]) ?_⟩
   obtain ⟨rk,_,ps,ν,hν,_,pos⟩:=Joq t3 ry
   rw [Qs.mp hν] at pos
   refine ⟨_,rfl,two,λ tp htp=>?_⟩
   have kt:Kp [] H3 (upd H3 tp (.tup [.str "raised",v])):=Kp.new htp _
   exact q _ n _ _ (q2 _ rk (ps k hk pos)) (.new iv (k03.trans kt)) (.tuple Jh (λ z=>(al.kp k03) tp z htp) two (.cons (.str _) (.cons (rc.keep (kt.mono λ a ha=>by cases ha)) .nil)))
theorem Jox:FnScope ["weights","numbers"] ["weights","numbers"] (Je Jcr):=⟨rfl,rfl,rfl,by decide +kernel,rfl,by decide +kernel,by decide +kernel⟩
theorem Joy (T:Txt mg) (D:Def K mg "weighed" Jcr ["weights","numbers"]):Cal P w K mg base "weighed" 1 ["weights","numbers"] (Jj Jeh):=by
 refine D.cal λ f fd F=>F.ok Jox (Jx ?_) (λ cdv A outer s H vs Q E hr h=>?_)
 . rintro as n P ⟨xs,gs,rfl,_⟩
   rfl
 refine ⟨_,(@Jg _ _ _ (@Jr _ _ _ _ (Jw Jlt rfl T.b_sum boot_sum (Wy (Yt (sc:=(Je Jcr)) (N:=["weights","numbers"]) (N':=["weight","number"]) (k:=2) (idx:=[]) rfl (by exact ⟨rfl,by decide +kernel,by decide +kernel,by decide +kernel,by decide +kernel,by decide +kernel,rfl,rfl⟩) rfl rfl (By rfl T.b_zip (Ja (pv 0) (Ja (pv 1) Jd))) (λ _ _ _ _=>(Yu (K':=K) (i:=0) (j:=1) rfl (show (["weight","number"]:List Str).Nodup by decide +kernel) ⟨rfl,(Qa rfl),(Qo rfl)⟩ ⟨rfl,(Qa rfl),(Qo rfl)⟩ rfl)) (λ _ _ _ _=>Yc) (λ _ _ _ _=>(Jv Jdt (pv 0) (pv 1)))) Jd)))),Ju h ?_⟩
 rintro as n P ⟨xs,gs,rfl,hl,h1,bx,bg,q⟩
 have hs:sizeLine=16777216:=J9n
 refine ⟨rfl,_,_,_,_,rfl,rfl,rfl,⟨rfl,by rw [V4,Qb,J4c];omega⟩,?_⟩
 rw [V4]
 refine Y6 (f:=λ p:Int×Int=>Ud [.int p.1,.int p.2]) (λ p:Int×Int=>Qq (p.1*p.2)) (λ p hp m K hK=>⟨rfl,rfl,W9 ⟨B4 (bx _ (U9 hp).1) (bg _ (U9 hp).2),hK⟩⟩) ?_
 refine ⟨(xs.zip gs).map λ p=>p.1*p.2,by rw [Qv];rfl,rfl,?_⟩
 rw [Jp9 xs gs hl]
 exact q
theorem Jlg:FnScope ["book","tally","k","weights","heights","a","b","gains"] ["book","tally","k"] (Je Jos):=⟨rfl,rfl,rfl,by decide +kernel,rfl,by decide +kernel,by decide +kernel⟩
theorem Jw5 (T:Txt mg) (D:Def K mg "fall" Jos ["book","tally","k"]) (Gi:Cal P w K mg base "weighed" 1 ["weights","numbers"] (Jj Jeh)):Cal P w K mg base "fall" 2 ["book","tally","k"] (Jj Jgg):=by
 refine D.cal λ f fd F=>F.ok Jlg (Jx ?_) (λ cdv A outer s H vs Q E hr h=>?_)
 . rintro as n P ⟨R,U,ws,wt,ht,k,rfl,_⟩
   rfl
 refine ⟨_,(@Jb _ _ _ _ _ (Ye (pv 1) (Yu (K':=K) (i:=3) (j:=4) rfl Jlg.nd ⟨rfl,(Qa rfl),(Qa rfl)⟩ ⟨rfl,(Qa rfl),(Qa rfl)⟩ rfl))
  (@Jb _ _ _ _ _ (Ye (Jo Ys (Jo Ys (pv 0) Ji (λ _ _=>rfl)) (pv 2) (λ _ _=>rfl)) (Vd (K':=K) (i:=5) (j:=6) (m:=7) rfl Jlg.nd ⟨rfl,(Qa rfl),(Qa rfl)⟩ ⟨rfl,(Qa rfl),(Qa rfl)⟩ ⟨rfl,(Qa rfl),(Qa rfl)⟩ rfl))
  (@Jg _ _ _ (@Jr _ _ _ _ (Jv Bt (Jv Bt (Jo Ys (pv 4) (pv 5) (λ _ _=>rfl)) (Jo Ys (pv 4) (pv 6) (λ _ _=>rfl))) (Yz Gi (hr.mono (by decide)) rfl (Ja (pv 3) (Ja (pv 7) Jd)))))))),Ju h ?_⟩
 rintro as n P ⟨R,U,ws,wt,ht,k,rfl,ok,sc,hk,q⟩
 have hs:sizeLine=16777216:=J9n
 have lw:=sc.lw
 have lh:=sc.lh
 have p1:=ok.p1
 have wok:=ok.ways _ (J8 (k:=(k:Int)) (Xb k) (by omega))
 have a0:=wok.a0
 have a1:=wok.a1
 have b0:=wok.b0
 have b1:=wok.b1
 have gl:=wok.len
 have hat:∀ {x:Int},0<=x->x<R->atI (ht.map Qq) x=some (.int (ht.getD x.toNat 0)):=λ {x} x0 x1=>Yl x0 (Bq (by omega))
 refine ⟨rfl,rfl,rfl,⟨_,.refl,_,rfl,_,B5 (Xb k) (by omega),rfl,rfl,⟨_,.refl,_,hat a0 a1,_,hat b0 b1,wt,(Jc ws (k:Int)).g,rfl,by omega,by omega,λ x hx=>Q1 (sc.bw x hx) (Jan (by decide)),λ x hx=>?_,q⟩⟩⟩
 have:=wok.small x hx
 have e:(100:Nat)<=2^9000:=Xi (by decide) (Jan (a:=7) (by decide))
 generalize 2^9000=z at e ⊢
 omega
theorem Joz:FnScope ["book","tally","some"] ["book","tally","some"] (Je Jcs):=⟨rfl,rfl,rfl,by decide +kernel,rfl,by decide +kernel,by decide +kernel⟩
theorem Jo0 (T:Txt mg) (D:Def K mg "is_kept" Jcs ["book","tally","some"]) (Gv:Cal P w K mg base "fall" 2 ["book","tally","k"] (Jj Jgg)):Cal P w K mg base "is_kept" 3 ["book","tally","some"] (Jj Jgh):=by
 refine D.cal λ f fd F=>F.ok Joz (Jx ?_) (λ cdv A outer s H vs Q E hr h=>?_)
 . rintro as n P ⟨R,U,ws,wt,ht,ks,rfl,_⟩
   rfl
 refine ⟨_,(@Jg _ _ _ (@Jr _ _ _ _ (Jw Jbw rfl T.b_all Yaj (Wy (Yt (sc:=(Je Jcs)) (N:=["book","tally","some"]) (N':=["k","book","tally"]) (k:=1) (idx:=[0,1]) rfl (by exact ⟨rfl,by decide +kernel,by decide +kernel,by decide +kernel,by decide +kernel,by decide +kernel,rfl,rfl⟩) rfl rfl (Zm (pv 2)) (λ _ _ _ _=>(Jt (i:=0) (show (["k","book","tally"]:List Str).Nodup by decide +kernel) rfl (Qa rfl) (Qo rfl))) (λ _ _ _ _=>Yc) (λ _ _ _ _=>(Wd Jo4 (Yz Gv (hr.mono (by decide)) rfl (Ja (pv 1) (Ja (pv 2) (Ja (pv 0) Jd)))) Ji (J6 _)))) Jd)))),Ju h ?_⟩
 rintro as n P ⟨R,U,ws,wt,ht,ks,rfl,ok,sc,hk,hl,kp,q⟩
 have hs:sizeLine=16777216:=J9n
 refine ⟨rfl,⟨rfl,by rw [Qb];omega⟩,?_⟩
 refine Y6 (f:=Jp) (λ k=>.bool true) (λ k hkk n K hK=>W9 ⟨R,U,ws,wt,ht,k,rfl,ok,sc,hk k hkk,?_⟩) ?_
 . show K (some (.bool (decide (0<=Bo ws wt ht (k:Int))))) n
   rw [decide_eq_true (kp k hkk)]
   exact hK
 refine ⟨Qw ks.length true,by rw [J3c];rw [J5i],rfl,?_⟩
 have all1:(Qw ks.length true).all id=true:=X3.mpr λ b hb=>by rw [(J24.mp hb).2];rfl
 rw [all1]
 exact q
theorem Jif:FnScope ["tally","stand","weights","heights","room","numbers"] ["tally","stand"] (Je Jld):=⟨rfl,rfl,rfl,by decide +kernel,rfl,by decide +kernel,by decide +kernel⟩
theorem Ju4 (T:Txt mg) (D:Def K mg "worth" Jld ["tally","stand"]) (Gi:Cal P w K mg base "weighed" 1 ["weights","numbers"] (Jj Jeh)):Cal P w K mg base "worth" 2 ["tally","stand"] (Jj Jej):=by
 refine D.cal λ f fd F=>F.ok Jif (Jx ?_) (λ cdv A outer s H vs Q E hr h=>?_)
 . rintro as n P ⟨R,U,wt,ht,st,rfl,_⟩
   rfl
 refine ⟨_,(@Jb _ _ _ _ _ (Ye (pv 0) (Yu (K':=K) (i:=2) (j:=3) rfl Jif.nd ⟨rfl,(Qa rfl),(Qa rfl)⟩ ⟨rfl,(Qa rfl),(Qa rfl)⟩ rfl))
  (@Jb _ _ _ _ _ (Ye (pv 1) (Yu (K':=K) (i:=4) (j:=5) rfl Jif.nd ⟨rfl,(Qa rfl),(Qa rfl)⟩ ⟨rfl,(Qa rfl),(Qa rfl)⟩ rfl))
  (@Jg _ _ _ (@Jr _ _ _ _ (Jv Wa (Jo Ys (pv 3) (pv 4) (λ _ _=>rfl)) (Yz Gi (hr.mono (by decide)) rfl (Ja (pv 2) (Ja (pv 5) Jd)))))))),Ju h ?_⟩
 rintro as n P ⟨R,U,wt,ht,⟨room,xs⟩,rfl,sc,u6,hr,sl,sb,q⟩
 have hr:0<=room/\room<R:=hr
 have sl:(xs.length:Int)=U:=sl
 have lw:=sc.lw
 have lh:=sc.lh
 have ar:atI (ht.map Qq) room=some (.int (ht.getD room.toNat 0)):=Yl hr.1 (Bq (by omega))
 exact ⟨rfl,rfl,rfl,⟨_,.refl,rfl,rfl,⟨_,.refl,_,ar,wt,xs,rfl,by omega,by omega,λ x hx=>Q1 (sc.bw x hx) (Jan (by decide)),sb,q⟩⟩⟩
theorem Jig:FnScope ["_law_book_here","_law_ring","_law_total"] ["_law_book_here","_law_ring","_law_total"] (Je Bd):=⟨rfl,rfl,rfl,by decide +kernel,rfl,by decide +kernel,by decide +kernel⟩
theorem Jih (T:Txt mg) (D:Def K mg "_law_heights" Bd ["_law_book_here","_law_ring","_law_total"]):Cal P w K mg base "_law_heights" 1 ["_law_book_here","_law_ring","_law_total"] (Zh Je8):=by
 refine D.cal λ f fd F=>F.ok Jig (Vp ?_) (λ cdv A outer s H vs Q E hr h=>?_)
 . rintro as n P ⟨R,U,ws,wt,ht,ks,rfl,_⟩
   rfl
 refine ⟨_,(@Jg _ _ _ (@Jr _ _ _ _ (Yt (sc:=(Je Bd)) (N:=["_law_book_here","_law_ring","_law_total"]) (N':=["_law_k","_law_total","_law_book_here"]) (k:=1) (idx:=[2,0]) rfl (by exact ⟨rfl,by decide +kernel,by decide +kernel,by decide +kernel,by decide +kernel,by decide +kernel,rfl,rfl⟩) rfl rfl (Zm (pv 1)) (λ _ _ _ _=>(Jt (i:=0) (show (["_law_k","_law_total","_law_book_here"]:List Str).Nodup by decide +kernel) rfl (Qa rfl) (Qo rfl))) (λ _ _ _ _=>Yc) (λ _ _ _ _=>(Jo (Zo (K':=K) rfl) (Jo (Zo (K':=K) rfl) (pv 1) Ji (λ _ _=>rfl)) (Jo (Zo (K':=K) rfl) (Jo (Zo (K':=K) rfl) (Jo (Zo (K':=K) rfl) (pv 2) Ji (λ _ _=>rfl)) (pv 0) (λ _ _=>rfl)) Ji (λ _ _=>rfl)) (λ _ _=>rfl)))))),Wp h ?_⟩
 rintro as n P ⟨R,U,ws,wt,ht,ks,rfl,ok,lh,lt,kl,q⟩
 have hs:sizeLine=16777216:=J9n
 refine ⟨rfl,⟨rfl,by rw [Qb];omega⟩,?_⟩
 refine Y6 (f:=Jp) (λ k:Nat=>Qq (ht.getD (Jc ws (k:Int)).a.toNat 0)) (λ k hk m K hK=>W9 ?_) ?_
 . have wok:=ok.ways _ (J8 (k:=(k:Int)) (Xb k) (by have:=lt k hk;omega))
   have a0:=wok.a0
   have a1:=wok.a1
   have kw:=lt k hk
   have ah:atI (ht.map Qq) (Jc ws (k:Int)).a=some (.int (ht.getD (Jc ws (k:Int)).a.toNat 0)):=Yl a0 (Bq (by omega))
   exact ⟨_,rfl,_,rfl,_,B5 (Xb k) (by omega),_,rfl,_,ah,hK⟩
 . unfold Juy at q
   rw [Qv] at q
   exact q
theorem Zs:FnScope ["_law_book_here","_law_ring","_law_answers","_law_raised","_law_word","_law_paper","_law_counts","_law_gain_here"] ["_law_book_here","_law_ring","_law_answers"] (Je Z4):=⟨rfl,rfl,rfl,by decide +kernel,rfl,by decide +kernel,by decide +kernel⟩
theorem Jep (T:Txt mg) (D:Def K mg "_law_never_both" Z4 ["_law_book_here","_law_ring","_law_answers"]) (Gw:Cal P w K mg base "round_gain" 1 ["book","counts"] (Jj Jkr)) (Gx:Cal P w K mg base "is_round" 3 ["book","counts"] (Jj Jqa)) (Gy:Cal P w K mg base "is_kept" 3 ["book","tally","some"] (Jj Jgh)):Cal P w K mg base "_law_never_both" 4 ["_law_book_here","_law_ring","_law_answers"] (Jj Jcq):=by
 refine D.cal λ f fd F=>F.ok Zs (Jx ?_) (λ cdv A outer s H vs Q E hr h=>?_)
 . rintro as n P ⟨R,U,ws,ks,an,rfl,_⟩
   rfl
 refine ⟨_,(@Jb _ _ _ _ _ (Wn (i:=3) (sc:=(Je Z4)) (N:=["_law_book_here","_law_ring","_law_answers","_law_raised","_law_word","_law_paper","_law_counts","_law_gain_here"]) (N':=["_law_word","_law_paper"]) (k:=2) (idx:=[]) rfl Zs.nd rfl rfl (by exact ⟨rfl,by decide +kernel,by decide +kernel,by decide +kernel,by decide +kernel,by decide +kernel,rfl,rfl⟩) rfl rfl (Zm (pv 2)) (λ _ _ _ _=>(Yu (K':=K) (i:=0) (j:=1) rfl (show (["_law_word","_law_paper"]:List Str).Nodup by decide +kernel) ⟨rfl,(Qa rfl),(Qo rfl)⟩ ⟨rfl,(Qa rfl),(Qo rfl)⟩ rfl)) (λ _ _ _ _=>Jcj (Yb Jab (pv 0) Jgj (J6 _))) (λ _ _ _ _=>(pv 1)))
  (@Jb _ _ _ _ _ (Zy Xp rfl (Zm (pv 2)) (Yu (K':=K) (i:=4) (j:=5) rfl Zs.nd ⟨rfl,(Qa rfl),(Qa rfl)⟩ ⟨rfl,(Qo rfl),(Qa rfl)⟩ rfl)
  (@Jb _ _ _ _ _ (Zy Xp rfl (Zm (pv 3)) (Jt (i:=6) Zs.nd rfl (Qa rfl) (Qa rfl))
  (@Jb _ _ _ _ _ (Jz (i:=7) Zs.nd rfl (Qo rfl) (Yz Gw (hr.mono (by decide)) rfl (Ja (pv 0) (Ja (pv 6) Jd))))
  (@Jb _ _ _ _ _ (Z5 (PW.pt (Jrv (Jah (W5 (Yz Gx (hr.mono (by decide)) rfl (Ja (pv 0) (Ja (pv 6) Jd))))) (Jnh (Yb Jlm (Jw (Jqz rfl) rfl T.b_min Yai (Ja (pv 7) Jd)) Ji (J6 _))))) (@Jg _ _ _ (@Jr _ _ _ _ Jbq)) Yj)
  (@Jg _ _ _ (Z5 (PW.pt (Jc1 (Yb Jab (pv 4) Jgj (J6 _)) (Ja4 (Yb (Jy3 hr.units) (Yt (sc:=(Je Z4)) (N:=["_law_book_here","_law_ring","_law_answers","_law_raised","_law_word","_law_paper","_law_counts","_law_gain_here"]) (N':=["_law_p","_law_paper","_law_gain_here"]) (k:=1) (idx:=[5,7]) rfl (by exact ⟨rfl,by decide +kernel,by decide +kernel,by decide +kernel,by decide +kernel,by decide +kernel,rfl,rfl⟩) rfl rfl (Yg rfl T.b_range (Y4 (Jo Ys (pv 0) Ji (λ _ _=>rfl)) Jd)) (λ _ _ _ _=>(Jt (i:=0) (show (["_law_p","_law_paper","_law_gain_here"]:List Str).Nodup by decide +kernel) rfl (Qa rfl) (Qo rfl))) (λ _ _ _ _=>Jcj (PW.pt (Jc1 (Yb Jfg (Jo (Zo (K':=K) rfl) (Jo (Zo (K':=K) rfl) (pv 1) Ji (λ _ _=>rfl)) (pv 0) (λ _ _=>rfl)) Ji (J6 _)) (Ja4 (Yb Jfg (Jo (Zo (K':=K) rfl) (pv 2) (pv 0) (λ _ _=>rfl)) Ji (J6 _)))))) (λ _ _ _ _=>(pv 0))) (@PEs.out _ _ _ (Y9 J5)) (J6 _))))) (@Jg _ _ _ (@Jr _ _ _ _ Jbq)) Yj)))))
  (@Jg _ _ _ (Z5 (PW.pt (Jc1 (Yb Jab (pv 4) Jgj (J6 _)) (Ja4 (Jah (W5 (Yz Gy (hr.mono (by decide)) rfl (Ja (pv 0) (Ja (pv 5) (Ja (pv 1) Jd))))))))) (@Jg _ _ _ (@Jr _ _ _ _ Jbq)) Yj))))
  (@Jg _ _ _ (@Jr _ _ _ _ Jbq)))),Ju h ?_⟩
 rintro as n P ⟨R,U,ws,ks,an,rfl,ok,rg,ka,q⟩
 have hs:sizeLine=16777216:=J9n
 have p0:=ok.p0
 have p1:=ok.p1
 have wl:=ok.len
 have kn:=rg.len
 have al:=ka.len
 refine ⟨rfl,⟨rfl,by rw [Qb];omega⟩,?_⟩
 refine Jbe (g:=krD) (h:=Jor) (p:=λ a=>!Jrn a) (λ a ha K k1 k2=>?_) ?_
 . cases a with
   | inl s=>exact ⟨rfl,rfl,Jb4 (Jcx J13 (k2 rfl))⟩
   | inr c=>exact ⟨rfl,rfl,Jb4 (Jfq J14 (k1 rfl))⟩
 rw [Jla]
 have amem:∀ a∈an,∃ p,J0c R U ws ks p a:=λ a ha=>by
  obtain ⟨i,hi⟩:=Ul.mp ha
  exact ⟨i,ka.ok i a hi⟩
 have rok:∀ c∈Jei an,RoundK R U ws ks c:=λ c hc=>by
  obtain ⟨p,h⟩:=amem _ (Jw1.mp hc)
  exact h.1
 let E0:List Vl:=[.d (J0 R U ws),.d (.list (ks.map Jp)),.d (.list (an.map krD)),.d (.list ((Jei an).map λ c=>.tuple (c.map .int)))]
 refine ⟨E0++[.jnk,.jnk,.jnk,.jnk],.fz 3 _ rfl .refl,?_⟩
 refine ⟨λ i env j=>j=n/\∃ a b c d:Vl,env=E0++[a,b,c,d],⟨rfl,_,_,_,_,rfl⟩,?_,?_⟩
 rotate_left
 . rintro env j ⟨rfl,a,b,c,d,rfl⟩
   exact ⟨_,.refl,q⟩
 rintro i x env j hx ⟨rfl,a,b,c,d,rfl⟩
 rw [Qh] at hx
 obtain ⟨A,hA,rfl⟩:=X7.mp hx
 have hA:=ka.ok i A hA
 refine ⟨rfl,rfl,?_⟩
 refine Jl9 (λ e j2=>j2=j/\∃ c d:Vl,e=E0++[.d (.str (krW A)),.d (Jor A),c,d]) (λ M hM=>?_) ?_
 . refine ⟨λ i env j2=>j2=j/\∃ c d:Vl,env=E0++[.d (.str (krW A)),.d (Jor A),c,d],⟨rfl,_,_,rfl⟩,?_,?_⟩
   rotate_left
   . rintro env j2 ⟨rfl,c,d,rfl⟩
     exact hM _ _ ⟨rfl,_,_,rfl⟩
   rintro i2 x env j2 hx ⟨rfl,c,d,rfl⟩
   rw [Qh] at hx
   obtain ⟨cs,hc,rfl⟩:=X7.mp hx
   have rk:=rok cs (Xg hc)
   have cl:=rk.ro.len
   have rl:(rgI ws cs U).length=U.toNat:=by unfold rgI;rw [Qb,Qx]
   have rgg:∀ p,p<U.toNat->(rgI ws cs U).getD p 0=(Jbb ws cs p).sum:=λ p hp=>by
    unfold rgI
    rw [Qg,Qh,Xk hp];rfl
   refine ⟨R,U,ws,cs,rfl,ok,cl,⟨_,.refl,?_⟩⟩
   refine ⟨R,U,ws,cs,rfl,ok,rk.b,Jbv ⟨rgI ws cs U,rfl,?_,λ m hm _=>Jcx (decide_eq_false ?_) ⟨_,.refl,?_⟩⟩⟩
   . intro e
     rw [e] at rl
     simp at rl
     omega
   . obtain ⟨p,hp,rfl⟩:=Qn.mp hm
     have:=rk.gn p (by have:=Q6.mp hp;omega)
     omega
   . cases A with
     | inr c0=>exact Jb4 (Jcx Ju0 ⟨rfl,_,_,rfl⟩)
     | inl s=>
      have sk:=hA.1
      have lw:=sk.lw
      refine Jb4 (Jfq Juz ?_)
      refine ⟨_,rfl,U,rfl,⟨by omega,by omega⟩,⟨rfl,by rw [J4];omega⟩,?_⟩
      have e0:Jfx 0 U.toNat=(Ql U.toNat).map λ i:Nat=>Qq (0+(i:Int)):=rfl
      rw [e0]
      refine Jbe (g:=λ i:Nat=>Qq (0+(i:Int))) (h:=λ i:Nat=>Qq (0+(i:Int))) (p:=λ i:Nat=>decide (0<s.1.getD i 0)&&decide (0<(Jbb ws cs i).sum)) (λ p hp K k1 k2=>?_) ?_
      . have hp:=Q6.mp hp
        have aw:atI (s.1.map Qq) (0+((p:Nat):Int))=some (.int (s.1.getD p 0)):=by
         rw [U6];exact Yl (by omega) (by rw [Q0];exact Bq (by omega))
        have ag:atI ((rgI ws cs U).map Qq) (0+((p:Nat):Int))=some (.int (Jbb ws cs p).sum):=by
         rw [U6];exact Yl (by omega) (by rw [Q0,Bq (by omega),rgg p hp])
        refine ⟨_,rfl,_,aw,Wf (λ c=>?_) (λ c=>?_)⟩
        . rw [c,J45] at k1 k2
          refine ⟨_,ag,?_⟩
          exact Wf k1 k2
        . rw [c,J3u] at k2
          exact k2 rfl
      . have e:(Ql U.toNat).filter (λ i:Nat=>decide (0<s.1.getD i 0)&&decide (0<(Jbb ws cs i).sum))=[]:=J8l.mpr λ p hp=>by
         have hp:=Q6.mp hp
         by_cases c:0<s.1.getD p 0
         . rw [Jro ok sk.lw sk.nn sk.kept rk.ro rk.sub rk.gn (by omega) c];simp
         . rw [decide_eq_false c];simp
        rw [e]
        exact ⟨Xl rfl,⟨⟨rfl,rfl,by decide⟩,Jbv ⟨rfl,_,_,rfl⟩⟩⟩
 rintro _ j2 ⟨rfl,c,d,rfl⟩
 refine ⟨_,.refl,?_⟩
 cases A with
 | inr c0=>exact Jb4 (Jcx Ju0 ⟨rfl,_,_,_,_,rfl⟩)
 | inl s=>exact Jb4 (Jfq Juz ⟨R,U,ws,s.1,s.2,ks,rfl,ok,hA.1.c,rg.lt,by omega,hA.1.kept,Jbv ⟨rfl,_,_,_,_,rfl⟩⟩)
theorem Jy:FnScope ["_law_tape_here","_law_book_here","_law_ring","_law_answers","_law_room","_law_stand_here","_law_most","_law_word","_law_paper","_law_least","_law_step","_law_p","_law_some","_law_k"] ["_law_tape_here","_law_book_here","_law_ring","_law_answers"] (Je Z3):=⟨rfl,rfl,rfl,by decide +kernel,rfl,by decide +kernel,by decide +kernel⟩
theorem Jeq (T:Txt mg) (D:Def K mg "_law_walk_right" Z3 ["_law_tape_here","_law_book_here","_law_ring","_law_answers"]) (Ga:Cal P w K mg base "_law_draw" 1 ["_law_tape_here","_law_many"] (Jj Jc9)) (G8:Cal P w K mg base "_law_heights" 1 ["_law_book_here","_law_ring","_law_total"] (Zh Je8)) (Gz:Cal P w K mg base "worth" 2 ["tally","stand"] (Jj Jej)) (G0:Cal P w K mg base "can_do" 3 ["book","stand"] (Zh Job)) (G3:Cal P w K mg base "behind" 4 ["book","stand","k"] (Jj Joc)):Cal P w K mg base "_law_walk_right" 5 ["_law_tape_here","_law_book_here","_law_ring","_law_answers"] (Jj Jh6):=by
 refine D.cal λ f fd F=>F.ok Jy (Jx ?_) (λ cdv A outer s H vs Q E hr h=>?_)
 . rintro as n P ⟨R,U,ws,ks,an,rfl,_⟩
   rfl
 refine ⟨_,(@Jb _ _ _ _ _ (Jz (i:=4) Jy.nd rfl (Qa rfl) (Jo Ys (Jo Ys (Jo Ys (pv 1) Ji (λ _ _=>rfl)) (Jo Js (pv 2) (Yz Ga (hr.mono (by decide)) rfl (Ja (pv 0) (Zn (Jw Yh rfl T.b_len Uf (Ja (pv 2) Jd)) Jd))) (λ _ _=>rfl)) (λ _ _=>rfl)) Ji (λ _ _=>rfl)))
  (@Jb _ _ _ _ _ (@Jck _ _ 5 _ _ _ _ Jy.nd rfl (Qa rfl) (Wz (Zz (J7 (pv 4)) (Wo (J7 (Ya Yf rfl T.b_tuple J9v (Wy (Yt (sc:=(Je Z3)) (N:=["_law_tape_here","_law_book_here","_law_ring","_law_answers","_law_room","_law_stand_here","_law_most","_law_word","_law_paper","_law_least","_law_step","_law_p","_law_some","_law_k"]) (N':=["_law_p","_law_tape_here"]) (k:=1) (idx:=[0]) rfl (by exact ⟨rfl,by decide +kernel,by decide +kernel,by decide +kernel,by decide +kernel,by decide +kernel,rfl,rfl⟩) rfl rfl (Yg rfl T.b_range (Y4 (Jo Ys (pv 1) Ji (λ _ _=>rfl)) Jd)) (λ _ _ _ _=>(Jt (i:=0) (show (["_law_p","_law_tape_here"]:List Str).Nodup by decide +kernel) rfl (Qa rfl) (Qo rfl))) (λ _ _ _ _=>Yc) (λ _ _ _ _=>(Yz Ga (hr.mono (by decide)) rfl (Ja (pv 1) (Zc Ji Jd))))) Jd))) J5))) rfl (Qa rfl))
  (@Jb _ _ _ _ _ (@Jck _ _ 6 _ _ _ _ Jy.nd rfl (Qa rfl) (Y9 J5) rfl (Qa rfl))
  (@Jb _ _ _ _ _ (Zy Xp rfl (Zm (pv 3)) (Yu (K':=K) (i:=7) (j:=8) rfl Jy.nd ⟨rfl,(Qa rfl),(Qa rfl)⟩ ⟨rfl,(Qa rfl),(Qa rfl)⟩ rfl)
  (@Jb _ _ _ _ _ (Ja6 (Ji6 J3q J3r J3s Vm (pv 6) (Zc Jag Jd)))
  (@Jg _ _ _ (Z5 (Yb Jab (pv 7) Jgj (J6 _)) (@Jb _ _ _ _ _ (Jz (i:=9) Jy.nd rfl (Qa rfl) (Jw (Jjc rfl) rfl T.b_min Yai (Zn (Yz G8 (hr.mono (by decide)) rfl (Ja (pv 1) (Ja (pv 2) (Ja (pv 8) Jd)))) Jd)))
  (@Jg _ _ _ (Ye (Jv Bt (Yz Gz (hr.mono (by decide)) rfl (Ja (pv 8) (Ja (pv 5) Jd))) (pv 9)) (Z9 (pv 6) (Be Wl Ji) Yr )))) Yj))))
  (@Jb _ _ _ _ _ (Zy Xp rfl (Yg rfl T.b_range (Zc Ji Jd)) (Jt (i:=10) Jy.nd rfl (Qa rfl) (Qa rfl))
  (@Jb _ _ _ _ _ (Zy Xp rfl (Yg rfl T.b_range (Y4 (Jo Ys (pv 1) Ji (λ _ _=>rfl)) Jd)) (Jt (i:=11) Jy.nd rfl (Qa rfl) (Qa rfl))
  (@Jg _ _ _ (Z5 (PW.pt (Jc1 (Yb Jo5 (Jo Js (pv 6) (pv 11) (λ _ _=>rfl)) Jag (J6 _)) (Ja4 (Yb Jfg (Jo Ys (Jo Ys (pv 5) Ji (λ _ _=>rfl)) (pv 11) (λ _ _=>rfl)) (Jo Js (pv 6) (pv 11) (λ _ _=>rfl)) (J6 _))))) (@Jg _ _ _ (@Jr _ _ _ _ Jbq)) Yj)))
  (@Jb _ _ _ _ _ (Wn (i:=12) (sc:=(Je Z3)) (N:=["_law_tape_here","_law_book_here","_law_ring","_law_answers","_law_room","_law_stand_here","_law_most","_law_word","_law_paper","_law_least","_law_step","_law_p","_law_some","_law_k"]) (N':=["_law_k","_law_ring"]) (k:=1) (idx:=[2]) rfl Jy.nd rfl rfl (by exact ⟨rfl,by decide +kernel,by decide +kernel,by decide +kernel,by decide +kernel,by decide +kernel,rfl,rfl⟩) rfl rfl (Zm (Yz G0 (hr.mono (by decide)) rfl (Ja (pv 1) (Ja (pv 5) Jd)))) (λ _ _ _ _=>(Jt (i:=0) (show (["_law_k","_law_ring"]:List Str).Nodup by decide +kernel) rfl (Qa rfl) (Qo rfl))) (λ _ _ _ _=>Jcj (Yb (Jhh (K':=K) rfl) (pv 0) (pv 1) (by with_unfolding_all rfl))) (λ _ _ _ _=>(pv 0)))
  (@Jb _ _ _ _ _ (Z5 (Yb (Jsl hr.units) (pv 12) (@PEs.out _ _ _ (Y9 J5)) (J6 _)) (@Jg _ _ _ (@Jr _ _ _ _ Jbq)) Yj)
  (@Jb _ _ _ _ _ (Jz (i:=13) Jy.nd rfl (Qa rfl) (Jo Js (pv 12) (Yz Ga (hr.mono (by decide)) rfl (Ja (pv 0) (Zn (Jw Yh rfl T.b_len Uf (Ja (pv 12) Jd)) Jd))) (λ _ _=>rfl)))
  (@Jg _ _ _ (Jz (i:=5) Jy.nd rfl (Qa rfl) (Yz G3 (hr.mono (by decide)) rfl (Ja (pv 1) (Ja (pv 5) (Ja (pv 13) Jd)))))))))))
  (@Jg _ _ _ (@Jr _ _ _ _ Jbq))))))),Ju h ?_⟩
 rintro as n P ⟨R,U,ws,ks,an,rfl,ok,rg,kne,ka,hn,q⟩
 have hs:sizeLine=16777216:=J9n
 have p0:=ok.p0
 have p1:=ok.p1
 have wl:=ok.len
 have kn:=rg.len
 have al:=ka.len
 have kl0:0<ks.length:=J3m.mpr kne
 let B0:List Vl:=[.tape,.d (J0 R U ws),.d (.list (ks.map Jp)),.d (.list (an.map krD))]
 refine ⟨rfl,?_⟩
 refine Jl9 (λ e j=>j<=n+1/\∃ k∈ks,e=B0++[.d (.int (Jc ws ((k:Nat):Int)).a),.jnk,.jnk,.jnk,.jnk,.jnk,.jnk,.jnk,.jnk,.jnk]) (λ M hM=>?_) ?_
 . refine ⟨_,rfl,(ks.length:Int),by rw [Qb],by omega,by omega,W0 (by omega),λ r r0 r1=>?_⟩
   have rl:r.toNat<ks.length:=by omega
   have ar:atI (ks.map Jp) r=some (Jp ks[r.toNat]):=Yl r0 (by rw [Qh,Qd rl];rfl)
   have km:ks[r.toNat]∈ks:=Xo rl
   have kw:=rg.lt _ km
   exact ⟨_,ar,_,B5 (Xb _) (by omega),_,rfl,hM _ _ ⟨by omega,_,km,rfl⟩⟩
 rintro _ j ⟨hj,k0,hk0,rfl⟩
 have kw0:=rg.lt _ hk0
 have wok0:=ok.ways _ (J8 (k:=(k0:Int)) (Xb k0) (by omega))
 have a0:=wok0.a0
 have a1:=wok0.a1
 refine ⟨_,.refl,?_⟩
 refine Jl9 (λ e j2=>j2<=n+7/\∃ xs:List Int,e=B0++[.d (.int (Jc ws (k0:Int)).a),.d (stD ((Jc ws (k0:Int)).a,xs)),.jnk,.jnk,.jnk,.jnk,.jnk,.jnk,.jnk,.jnk]/\(xs.length:Int)=U/\∀ x∈xs,0<=x/\x<=9) (λ M hM=>?_) ?_
 . refine ⟨_,rfl,U,rfl,⟨by omega,by omega⟩,⟨rfl,by rw [J4];omega⟩,?_⟩
   refine Jg3 1 (j+6) (λ y=>∃ i:Int,y = .int i/\0<=i/\i<=9) (λ x _ k K hk h=>W9 ⟨10,rfl,by omega,by decide,by decide +kernel,λ r r0 r1=>h _ _ ⟨r,rfl,r0,by omega⟩ (by omega)⟩) (by rw [J4];omega) (λ ys k hy hg hk=>?_)
   rw [J4] at hy hk
   obtain ⟨gs,rfl,hgs⟩:=Jqb hg
   rw [Qb] at hy
   exact ⟨Jbz (Xl rfl),hM _ _ ⟨by omega,gs,rfl,by omega,hgs⟩⟩
 rintro _ j2 ⟨hj2,xs0,rfl,xl,xb⟩
 refine ⟨_,.refl,?_⟩
 refine ⟨Xz _,⟨B0++[.d (.int (Jc ws (k0:Int)).a),.d (stD ((Jc ws (k0:Int)).a,xs0)),.own [],.jnk,.jnk,.jnk,.jnk,.jnk,.jnk,.jnk],.eq rfl,?_⟩⟩
 let s0:St':=((Jc ws (k0:Int)).a,xs0)
 refine Jl9 (λ e j3=>j3=j2/\∃ (ds:List J9h) (x y z:Vl),e=B0++[.d (.int (Jc ws (k0:Int)).a),.d (stD s0),.own ds,x,y,z,.jnk,.jnk,.jnk,.jnk]/\MostI ws ks s0 an an.length ds) (λ M hM=>?_) ?_
 . refine ⟨λ i env j3=>j3=j2/\∃ (ds:List J9h) (x y z:Vl),env=B0++[.d (.int (Jc ws (k0:Int)).a),.d (stD s0),.own ds,x,y,z,.jnk,.jnk,.jnk,.jnk]/\MostI ws ks s0 an i ds,⟨rfl,[],_,_,_,rfl,⟨rfl,λ p a d _ h=>by cases h⟩⟩,?_,?_⟩
   . rintro i x env j3 hx ⟨rfl,ds,x',y',z',rfl,mi⟩
     rw [Qh] at hx
     obtain ⟨a,ha,rfl⟩:=X7.mp hx
     have il:=(Qp.mp ha).1
     have dl:=mi.len
     have hok:=ka.ok i a ha
     refine ⟨rfl,rfl,by omega,⟨_,.refl,?_⟩⟩
     cases a with
     | inr c=>exact Jb4 (Jcx Ju0 ⟨rfl,_,_,_,_,rfl,mi.next ha rfl⟩)
     | inl s=>
      have sk:=hok.1
      refine Jb4 (Jfq Juz ⟨R,U,ws,s.1,s.2,ks,rfl,ok,sk.lh,rg.lt,by omega,Juy ws s.2 ks,rfl,?_,λ m hm hmin=>⟨_,.refl,?_⟩⟩)
      . exact λ e=>kne (J5d.mp e)
      . refine ⟨R,U,s.1,s.2,s0,rfl,sk.c,p1,⟨a0,a1⟩,xl,λ x hx=>?_,⟨ds.length,Ju3 ds _,⟨rfl,ds++[.int (V3 s.1 s.2 s0.1 s0.2-m)],.d (.str (krW (.inl s))),.d (Jor (.inl s)),.d (.int m),?_,mi.next ha ⟨m,hmin,rfl⟩⟩⟩⟩
        . have:=xb x hx
          have e:(10:Nat)<=2^9000:=Xi (by decide) (Jan (a:=4) (by decide))
          generalize 2^9000=c at *
          omega
        . exact congrArg (λ l=>B0++[.d (.int (Jc ws (k0:Int)).a),.d (stD s0),.own l,.d (.str (krW (.inl s))),.d (Jor (.inl s)),.d (.int m),.jnk,.jnk,.jnk,.jnk]) (Ju2 ds .none (.int (V3 s.1 s.2 s0.1 s0.2-m)))
   . rintro env j3 ⟨rfl,ds,x,y,z,rfl,mi⟩
     rw [Qb] at mi
     exact hM _ _ ⟨rfl,ds,x,y,z,rfl,mi⟩
 rintro _ j3 ⟨rfl,ds,x,y,z,rfl,mi⟩
 have dl:=mi.len
 let E1:St'->List Vl:=λ s=>B0++[.d (.int (Jc ws (k0:Int)).a),.d (stD s),.d (.list ds),x,y,z]
 refine ⟨E1 s0++[.jnk,.jnk,.jnk,.jnk],.fz 6 _ rfl .refl,?_⟩
 refine ⟨100,rfl,⟨by decide,by decide⟩,λ i env j=>j<=n+7+i/\∃ (s:St') (a b c d:Vl),env=E1 s++[a,b,c,d]/\WalkP U ws ks an s0 s,⟨by omega,s0,_,_,_,_,rfl,⟨xl,⟨k0,hk0,rfl⟩,λ x hx=>(xb x hx).1,λ _ _ _ _=>J25 _⟩⟩,?_,?_⟩
 rotate_left
 . rintro env j ⟨hj,s,a,b,c,d,rfl,_⟩
   rw [J4] at hj
   have hj:j<=n+7+100:=hj
   exact ⟨_,.refl,q _ (by omega)⟩
 rintro i t env j4 hx ⟨hj4,s,a,b,c,d,rfl,wk⟩
 obtain ⟨hi,rfl⟩:=Jdz hx
 have hi:i<100:=hi
 have sl:=wk.len
 refine Jl9 (λ e j=>j=j4/\∃ a b c d:Vl,e=E1 s++[a,b,c,d]) (λ M hM=>?_) ?_
 . refine ⟨_,rfl,U,rfl,⟨by omega,by omega⟩,?_⟩
   refine ⟨λ p env j=>j=j4/\∃ a b c d:Vl,env=E1 s++[a,b,c,d],⟨rfl,_,_,_,_,rfl⟩,?_,?_⟩
   . rintro p t env j hx ⟨rfl,a,b,c,d,rfl⟩
     obtain ⟨hp,rfl⟩:=Jdz hx
     have pa:an[p]? = some an[p]:=Qd (by omega)
     have pd:ds[p]? = some ds[p]:=Qd (by omega)
     have mo:=mi.ok p _ _ pa pd
     have hok:=ka.ok p _ pa
     have ad:atI ds ((p:Nat):Int)=some ds[p]:=Yl (by omega) (by rw [Q0];exact pd)
     have as:atI (s.2.map Qq) ((p:Nat):Int)=some (.int (s.2.getD p 0)):=Yl (by omega) (by rw [Q0];exact Bq (by omega))
     generalize ds[p]=dp at *
     generalize an[p]=A at *
     cases A with
     | inr c0=>
      cases mo
      exact ⟨_,ad,rfl,Jbv ⟨rfl,_,_,_,_,rfl⟩⟩
     | inl t=>
      obtain ⟨m,hm,rfl⟩:=mo
      have le:=wk.le pa hok.1 hok.2 hm
      exact ⟨_,ad,rfl,W9 ⟨_,rfl,_,as,_,ad,Jcx (decide_eq_false (by omega)) ⟨rfl,_,_,_,_,rfl⟩⟩⟩
   . rintro env j ⟨rfl,a,b,c,d,rfl⟩
     exact hM _ _ ⟨rfl,_,_,_,_,rfl⟩
 rintro _ j ⟨rfl,a,b,c,d,rfl⟩
 have cn:∀ k∈Jd5 ws s,0<=k:=λ k hk=>by
  obtain ⟨i,rfl,_⟩:=Jh7 hk
  omega
 have cl:(Jd5 ws s).length<=60:=by
  unfold Jd5
  rw [Qb]
  exact Xi (J6x _ _) (by rw [Qx];exact wl)
 refine ⟨_,.refl,R,U,ws,s,rfl,ok,sl,⟨rfl,by rw [Qb];omega⟩,?_⟩
 refine Jbe (g:=Qq) (h:=Qq) (p:=λ k=>decide (k.toNat∈ks)) (λ k hk K k1 k2=>?_) ?_
 . obtain ⟨i,rfl,_⟩:=Jh7 hk
   refine ⟨rfl,Jux _,?_⟩
   have e:=J0b ks i
   have e:inD (.int ((i:Nat):Int)) (ks.map Jp)=decide (((i:Nat):Int).toNat∈ks):=e
   show if inD (.int ((i:Nat):Int)) (ks.map Jp)=true then _ else _
   rw [e]
   exact Wf k1 k2
 have lm:∀ k∈(Jd5 ws s).filter (λ k=>decide (k.toNat∈ks)),k∈Jd5 ws s/\k.toNat∈ks:=λ k hk=>by
  obtain ⟨h1,h2⟩:=Xm.mp hk
  exact ⟨h1,of_decide_eq_true h2⟩
 have ll:((Jd5 ws s).filter λ k=>decide (k.toNat∈ks)).length<=60:=Xi (J6x _ _) cl
 generalize (Jd5 ws s).filter (λ k=>decide (k.toNat∈ks))=L at lm ll
 have en:L.map Qq=(toN L).map Jp:=(Jp8 λ k hk=>cn k (lm k hk).1).symm
 have tl:(toN L).length<=60:=by unfold toN;rw [Qb];exact ll
 have tm:∀ k∈toN L,((k:Nat):Int)∈Jd5 ws s/\k∈ks:=λ k hk=>by
  obtain ⟨x,hx,rfl⟩:=Qn.mp hk
  have:=cn x (lm x hx).1
  exact ⟨by rw [J3f this];exact (lm x hx).1,(lm x hx).2⟩
 rw [en]
 generalize toN L=T0 at tl tm
 refine ⟨E1 s++[a,b,.d (.list (T0.map Jp)),d],.fz 12 _ rfl .refl,?_⟩
 refine ⟨Xl rfl,J0a (λ e=>W9 (q _ (by omega))) (λ ne=>Jbv ⟨_,.refl,?_⟩)⟩
 have t0:0<T0.length:=J3m.mpr ne
 refine ⟨(T0.length:Int),by rw [Qb],by omega,by omega,W0 (by omega),λ r r0 r1=>?_⟩
 have rl:r.toNat<T0.length:=by omega
 have ar:atI (T0.map Jp) r=some (Jp T0[r.toNat]):=Yl r0 (by rw [Qh,Qd rl];rfl)
 have km:=tm _ (Xo rl)
 exact ⟨_,ar,⟨_,.refl,R,U,ws,s,_,rfl,ok,sl,km.1,⟨by omega,Jzt ws s ((T0[r.toNat]:Nat):Int),_,_,_,_,rfl,wk.next ok rg ka km.2 km.1⟩⟩⟩
theorem Jff:FnScope ["_law_script","_law_tape_here","_law_book_here","_law_ring","_law_answers","_law_turn"] ["_law_script"] (Je Jcz):=⟨rfl,rfl,rfl,by decide +kernel,rfl,by decide +kernel,by decide +kernel⟩
theorem J0d {f:Addr}{fd:J9s}(T:Txt mg) (F:Fun K "law" "law" Jcz f fd) (G9:Cal P w K mg base "_law_tape" 1 ["_law_script"] (Jj4 K)) (Ma:Cal P w K mg base "_law_book" 5 ["_law_tape_here","_law_most"] (Jj Jkf)) (Gh:Cal P w K mg base "rings_of" 2 ["book","some"] (Jj Jf7)) (G4:Cal P w K mg base "kept_or_raised" 6 ["book","some","p"] (Jj Jbk)) (Mb:Cal P w K mg base "_law_never_both" 4 ["_law_book_here","_law_ring","_law_answers"] (Jj Jcq)) (Mc:Cal P w K mg base "_law_walk_right" 5 ["_law_tape_here","_law_book_here","_law_ring","_law_answers"] (Jj Jh6)):FnOk P w K mg base CX0 14 f fd ["_law_script"] (Jlv K):=by
 refine F.ok Jff (λ vs H Q E h=>?_) (λ cdv A outer s H vs Q E hr h=>?_)
 . obtain ⟨a,ns,rfl,_⟩:=h
   rfl
 refine ⟨_,(@Jb _ _ _ _ _ (Jz (i:=1) Jff.nd rfl (Qa rfl) (Yz G9 (hr.mono (by decide)) rfl (Ja (pv 0) Jd)))
  (@Jb _ _ _ _ _ (Jz (i:=2) Jff.nd rfl (Qo rfl) (Yz Ma (hr.mono (by decide)) rfl (Ja (pv 1) (Jdq (@PEs.out _ _ _ (Wz (J3 Y2 (J3 Y2 (J3 Y2 J5))))) Jd))))
  (@Jb _ _ _ _ _ (Zy Xp rfl (Zm (Yz Gh (hr.mono (by decide)) rfl (Ja (pv 2) (Zn (Jj5 rfl rfl T.b_list rfl T.b_range (Zn (Jw Yh rfl T.b_len Uf (Y4 (Jo Ys (pv 2) Ji (λ _ _=>rfl)) Jd)) Jd)) Jd)))) (Jt (i:=3) Jff.nd rfl (Qo rfl) (Qa rfl))
  (@Jb _ _ _ _ _ (Wn (i:=4) (sc:=(Je Jcz)) (N:=["_law_script","_law_tape_here","_law_book_here","_law_ring","_law_answers","_law_turn"]) (N':=["_law_p","_law_book_here","_law_ring"]) (k:=1) (idx:=[2,3]) rfl Jff.nd rfl rfl (by exact ⟨rfl,by decide +kernel,by decide +kernel,by decide +kernel,by decide +kernel,by decide +kernel,rfl,rfl⟩) rfl rfl (Yg rfl T.b_range (Y4 (Jo Ys (pv 2) Ji (λ _ _=>rfl)) Jd)) (λ _ _ _ _=>(Jt (i:=0) (show (["_law_p","_law_book_here","_law_ring"]:List Str).Nodup by decide +kernel) rfl (Qa rfl) (Qo rfl))) (λ _ _ _ _=>Yc) (λ _ _ _ _=>(Yz G4 (hr.mono (by decide)) rfl (Ja (pv 1) (Ja (pv 2) (Ja (pv 0) Jd))))))
  (@Jb _ _ _ _ _ (Z5 (Jah (W5 (Yz Mb (hr.mono (by decide)) rfl (Ja (pv 2) (Ja (pv 3) (Ja (pv 4) Jd)))))) (@Jg _ _ _ (@Jr _ _ _ _ Jbq)) Yj)
  (@Jg _ _ _ (Zy Xp rfl (Yg rfl T.b_range (Zc Ji Jd)) (Jt (i:=5) Jff.nd rfl (Qa rfl) (Qa rfl))
  (@Jg _ _ _ (Z5 (Jah (W5 (Yz Mc (hr.mono (by decide)) rfl (Ja (pv 1) (Ja (pv 2) (Ja (pv 3) (Ja (pv 4) Jd))))))) (@Jg _ _ _ (@Jr _ _ _ _ Jbq)) Yj)))))))
  (@Jg _ _ _ (@Jr _ _ _ _ Jbq))))),Jn8 (by decide) h ?_⟩
 have hs:sizeLine=16777216:=J9n
 show Jzf _ _ Js1 [.jnk,.tape,.jnk,.jnk,.jnk,.jnk] 0
 refine ⟨B3,4,3,10,rfl,by decide,by decide,by decide,by decide,λ R U ws m ok _ _ hmm=>⟨_,.refl,?_⟩⟩
 have r0:=ok.r0
 have p0:=ok.p0
 have p1:=ok.p1
 have wl:=ok.len
 refine ⟨_,rfl,(ws.length:Int),by rw [Qb],by omega,by omega,?_⟩
 have hz:((ws.length:Nat):Int).toNat=ws.length:=Q0 _
 rw [hz]
 have e0:((Ql ws.length).map λ (i:Nat)=>Qq (i:Int))=(evI ws).map .int:=by unfold evI;rw [Qv];rfl
 rw [e0]
 have el:(evI ws).length=ws.length:=by unfold evI;rw [Qb,Qx]
 have es:∀ e∈Ym ws (evI ws),e.1<R.toNat/\e.2<R.toNat:=λ e he=>by
  obtain ⟨k,hk,rfl⟩:=Qn.mp he
  have hk:=Jk9 k hk
  have wok:=ok.ways _ (J8 hk.1 hk.2)
  have:=wok.a0
  have:=wok.a1
  have:=wok.b0
  have:=wok.b1
  exact ⟨by omega,by omega⟩
 refine ⟨R,U,ws,evI ws,rfl,ok,Jk9,by omega,?_⟩
 have rgl:=(Jq9 (R:=R.toNat) (ws:=ws) (ks:=evI ws)).1
 refine ⟨λ i env j=>j<=m+400*i/\∃ a b c:Vl,env=[.jnk,.tape,.d (J0 R U ws),a,b,c],⟨by omega,_,_,_,rfl⟩,?_,?_⟩
 rotate_left
 . rintro env j ⟨hj,a,b,c,rfl⟩
   exact ⟨_,.refl,rfl⟩
 rintro i x env j hx ⟨hj,a,b,c,rfl⟩
 have hx:((Z6 R.toNat ws (evI ws)).map λ r=>X4 (r.map .int))[i]? = some x:=hx
 have il:i<ws.length:=by
  have:=(Qp.mp hx).1
  rw [Qb] at this
  omega
 rw [Qh] at hx
 obtain ⟨r,hr,rfl⟩:=X7.mp hx
 have hr:=Xg hr
 have sb:r.Sublist (evI ws):=by
  rw [<- Jmj hr];exact List.filter_sublist
 have nn:∀ k∈r,0<=k:=λ k h=>(Jk9 k (sb.subset h)).1
 have rg:IsRing R ws (toN r):=by
  refine ⟨λ k h=>?_,?_,?_⟩
  . obtain ⟨j,hj,rfl⟩:=Qn.mp h
    have:=Jk9 j (sb.subset hj)
    omega
  . unfold toN
    rw [J5c]
    refine ((Jz9 ws).sublist sb).imp_of_mem λ ha hb h=>?_
    have:=nn _ ha
    omega
  . rw [Jz8 nn];exact Jrb es hr
 have rne:toN r≠[]:=λ e=>Jpo hr (J5d.mp e)
 rw [<- Jp8 nn]
 generalize toN r=ks at rg rne
 refine ⟨_,rfl,U,rfl,⟨by omega,by omega⟩,⟨rfl,by rw [J4];omega⟩,?_⟩
 refine Jma (R:=λ x y=>∃ a:Ans,y=krD a/\∃ p:Nat,x=Qq (0+(p:Int))/\J0c R U ws ks p a) (λ x hx K hK=>?_) (λ ys hys=>?_)
 . obtain ⟨p,hp,rfl⟩:=Qn.mp hx
   have hp:=Q6.mp hp
   exact W9 ⟨R,U,ws,ks,p,by rw [U6],ok,rg,by omega,λ wt ht sk fl=>hK _ ⟨.inl (wt,ht),rfl,p,rfl,sk,fl⟩,λ cs rk ck=>hK _ ⟨.inr cs,rfl,p,rfl,rk,ck⟩⟩
 obtain ⟨an,rfl,al,hans⟩:=Jqc hys
 rw [J4] at al
 have ka:KrAll R U ws ks an:=by
  refine ⟨by omega,λ p a ha=>?_⟩
  have pl:=(Qp.mp ha).1
  obtain ⟨p',e,h⟩:=hans p (.int (0+(p:Int))) a (by unfold Jfx;rw [Qh,Xk (by omega)];rfl) ha
  have e:p=p':=by injection e with e;omega
  rw [e];exact h
 refine ⟨[.jnk,.tape,.d (J0 R U ws),.d (.list (ks.map Jp)),.d (.list (an.map krD)),c],.fz 4 _ rfl .refl,?_⟩
 refine ⟨R,U,ws,ks,an,rfl,ok,rg,ka,Jbv ⟨_,.refl,?_⟩⟩
 refine ⟨2,rfl,⟨by decide,by decide⟩,λ i2 env j2=>j2<=j+200*i2/\∃ c:Vl,env=[.jnk,.tape,.d (J0 R U ws),.d (.list (ks.map Jp)),.d (.list (an.map krD)),c],⟨by omega,_,rfl⟩,?_,?_⟩
 . rintro i2 t env j2 hx ⟨hj2,c,rfl⟩
   obtain ⟨hi2,rfl⟩:=Jdz hx
   have hi2:i2<2:=hi2
   exact ⟨R,U,ws,ks,an,rfl,ok,rg,rne,ka,by omega,λ m2 hm2=>Jbv ⟨by omega,_,rfl⟩⟩
 . rintro env j2 ⟨hj2,c,rfl⟩
   rw [J4] at hj2
   have hj2:j2<=j+200*2:=hj2
   exact ⟨by omega,_,_,_,rfl⟩
end
theorem all_mk {l:J6c}{w:J9k}{K:Qc}{h:Heap}{mg:Str->Option J9g}{fa f4:Addr}(X:K.In h) (G:h.Ns J9r mg) (hfa:mg "law" = some (.ref fa)) (T:Txt mg)
 {C_Table:Addr} (Y_Table:TableOk K C_Table) (Md:Def K mg "_law_tape" Jdf ["_law_script"]) (Me:Def K mg "_law_draw" Jdg ["_law_tape_here","_law_many"]) (Mf:Def K mg "_law_gain" Jdh ["_law_tape_here"]) (Mg:Def K mg "_law_gains" Jaf ["_law_tape_here","_law_purses"]) (Mh:Def K mg "_law_nested" Br ["_law_tape_here","_law_rooms","_law_purses"]) (Mi:Def K mg "_law_book" Jbp ["_law_tape_here","_law_most"]) (Mj:Def K mg "is_whole" Jdd ["thing"]) (Ml:Def K mg "is_between" Jbl ["thing","least","most"]) (Mm:Def K mg "has_way" Je9 ["book","k"]) (Mn:Def K mg "is_tuple_of" Jao ["thing","many"]) (Mo:Def K mg "are_numbers" Bc ["thing","many"]) (Mp:Def K mg "is_balanced" Jap ["book","counts"]) (Mq:Def K mg "is_round" Jde ["book","counts"]) (Mr:Def K mg "round_gain" Vx ["book","counts"]) (Ms:Def K mg "put_to" Jek ["numbers","gains"]) (Mt:Def K mg "leads_on" Jbm ["way","stand"]) (Mu:Def K mg "can_do" Jel ["book","stand"]) (Mv:Def K mg "behind" Jh8 ["book","stand","k"]) (Mw:Def K mg "rooms_reached" Zk ["book","some"]) (Mx:Def K mg "rings_of" Jbn ["book","some"]) (Mz:Def K mg "common_divisor" V6 ["numbers"]) (M0:Def K mg "without_divisor" Wg ["numbers"]) (M1:Def K mg "first_numbers" Vf ["book","stand"]) (D_Table__init:L2.DefI2 K mg "Table" C_Table "Table.__init__" Za ["self","book","some","stand"]) (D_Table__without:L2.DefM K C_Table "without" "Table.without" W2 ["self","other","row","place"]) (D_Table__exchange:L2.DefM K C_Table "exchange" "Table.exchange" Wh ["self","at","place"]) (D_Table__rises:L2.DefM K C_Table "rises" "Table.rises" Wr ["self","wanted"]) (D_Table__place_to_raise:L2.DefM K C_Table "place_to_raise" "Table.place_to_raise" Y7 ["self","wanted"]) (D_Table__comes_first:L2.DefM K C_Table "comes_first" "Table.comes_first" Ws ["self","at","other","place"]) (D_Table__row_to_free:L2.DefM K C_Table "row_to_free" "Table.row_to_free" Wt ["self","place"]) (D_Table__counts_by:L2.DefM K C_Table "counts_by" "Table.counts_by" Vj ["self","place"]) (D_Table__find_round:L2.DefM K C_Table "find_round" "Table.find_round" W7 ["self","wanted"]) (D_Table__shares:L2.DefM K C_Table "shares" "Table.shares" Bk ["self","wanted"]) (D_Table__as_sum:L2.DefM K C_Table "as_sum" "Table.as_sum" Bl ["self","shares"]) (D_Table__read_sum:L2.DefM K C_Table "read_sum" "Table.read_sum" Vw ["self","wanted"]) (M3:Def K mg "is_ring" Ja2 ["book","some"]) (M4:Def K mg "ring_table" Jbo ["book","some"]) (M5:Def K mg "kept_or_raised" V7 ["book","some","p"]) (M6:Def K mg "weighed" Jcr ["weights","numbers"]) (M7:Def K mg "fall" Jos ["book","tally","k"]) (M8:Def K mg "is_kept" Jcs ["book","tally","some"]) (M9:Def K mg "worth" Jld ["tally","stand"]) (Ta:Def K mg "_law_heights" Bd ["_law_book_here","_law_ring","_law_total"]) (Tc:Def K mg "_law_never_both" Z4 ["_law_book_here","_law_ring","_law_answers"]) (Td:Def K mg "_law_walk_right" Z3 ["_law_tape_here","_law_book_here","_law_ring","_law_answers"])
 {od4 an4:Option Addr} {sl4:Array (Option J9g)} {oc4 kV4 dc4 pm4 cd4 ct4:J9g} (a4:J6h K J9r "law" = some (some (.ref f4)))
 (l4:K.lookup f4=some ⟨oc4,od4,.func (X0 "law" "law" (We Jcz) (Zx Jcz) (Je Jcz) .none kV4 dc4 pm4 an4 cd4 ct4),sl4⟩) (c4:J22 K cd4 "law" = true) (k4:Ui K (.ref f4)=true) :
 ∃ fd:J9s,(∀ (s:J9i) (v:J9g),Yac s fd ⟨[v],[]⟩ [("_law_script",v)])/\∀ base:Heap,K.In base->base.Ns J9r mg->FnOk l.prog w K mg base CX0 14 fa fd ["_law_script"] (Jlv K):=by
 have e:=hfa.symm.trans (J6i X G a4)
 cases e
 have F4:=Jgp (st:=Jcz) l4 c4 k4
 refine ⟨X0 "law" "law" (We Jcz) (Zx Jcz) (Je Jcz) .none kV4 dc4 pm4 an4 cd4 ct4,λ s v=>.of_eq rfl,λ base _ _=>?_⟩
 have Te:Cal l.prog w K mg base "_law_tape" 1 ["_law_script"] (Jj4 K):=Jm7 T Md
 have Tf:Cal l.prog w K mg base "_law_draw" 1 ["_law_tape_here","_law_many"] Jn1:=Jm8 T Me
 have Gj:Cal l.prog w K mg base "_law_draw" 1 ["_law_tape_here","_law_many"] (Jj Jc9):=Tf.imp Js2
 have Tg:Cal l.prog w K mg base "_law_gain" 2 ["_law_tape_here"] (Jj Jf6):=Jm9 T Mf Gj
 have G5:Cal l.prog w K mg base "_law_gains" 3 ["_law_tape_here","_law_purses"] (Jj Jd0):=Jlf T Mg Tg
 have Th:Cal l.prog w K mg base "_law_nested" 4 ["_law_tape_here","_law_rooms","_law_purses"] (Zh Je0):=Jis T Mh G5 Gj
 have Ti:Cal l.prog w K mg base "_law_book" 5 ["_law_tape_here","_law_most"] (Jj Jkf):=Jna T Mi Gj Th G5
 have Gb:Cal l.prog w K mg base "is_whole" 1 ["thing"] (Jj Jf5):=Jnc T Mj
 have Gc:Cal l.prog w K mg base "is_between" 2 ["thing","least","most"] (Jj Jcm):=Jiu T Ml Gb
 have Gf:Cal l.prog w K mg base "has_way" 3 ["book","k"] (Jj Jdy):=Jou T Mm Gc
 have Gm:Cal l.prog w K mg base "is_tuple_of" 1 ["thing","many"] (Jj Jlb):=Jia T Mn
 have Gn:Cal l.prog w K mg base "are_numbers" 2 ["thing","many"] (Jj Jgi):=Jic T Mo Gm Gb
 have Go:Cal l.prog w K mg base "is_balanced" 1 ["book","counts"] (Jj Jlc):=Jid T Mp
 have Gx:Cal l.prog w K mg base "is_round" 3 ["book","counts"] (Jj Jqa):=Jne T Mq Gn Go
 have Gw:Cal l.prog w K mg base "round_gain" 1 ["book","counts"] (Jj Jkr):=Jiv T Mr
 have Gd:Cal l.prog w K mg base "put_to" 1 ["numbers","gains"] (Jj Jkt):=Jrq T Ms
 have Ge:Cal l.prog w K mg base "leads_on" 2 ["way","stand"] (Jj Jd6):=Jnf T Mt Gd
 have G0:Cal l.prog w K mg base "can_do" 3 ["book","stand"] (Zh Job):=Jrs T Mu Ge
 have G3:Cal l.prog w K mg base "behind" 4 ["book","stand","k"] (Jj Joc):=Jrt T Mv Gf Ge Gd
 have Gp:Cal l.prog w K mg base "rooms_reached" 1 ["book","some"] (Jj Jko):=Jfb T Mw
 have Gh:Cal l.prog w K mg base "rings_of" 2 ["book","some"] (Jj Jf7):=Jng T Mx Gp
 have Gq:Cal l.prog w K mg base "common_divisor" 1 ["numbers"] (Jj Jec):=Jem T Mz
 have Gg:Cal l.prog w K mg base "without_divisor" 2 ["numbers"] (Zh Jga):=Jdi T M0 Gq
 have Gr:Cal l.prog w K mg base "first_numbers" 1 ["book","stand"] (Zh Jhz):=Jfe T M1
 have c_Table__init:Jmz l.prog w K mg base "Table" C_Table 2 ["self","book","some","stand"] (Jk6 C_Table):=Jie T Y_Table D_Table__init Gr
 have c_Table__without:Wj l.prog w K mg base C_Table "without" 1 ["self","other","row","place"] (Zh (Jof C_Table)):=Jen T Y_Table D_Table__without
 have c_Table__exchange:Wj l.prog w K mg base C_Table "exchange" 2 ["self","at","place"] (Jz4 C_Table):=Jdl T Y_Table D_Table__exchange c_Table__without
 have c_Table__rises:Wj l.prog w K mg base C_Table "rises" 1 ["self","wanted"] (Zh (Jgc C_Table)):=Jf0 T Y_Table D_Table__rises
 have c_Table__place_to_raise:Wj l.prog w K mg base C_Table "place_to_raise" 2 ["self","wanted"] (Jj (Jco C_Table)):=Jaq T Y_Table D_Table__place_to_raise c_Table__rises
 have c_Table__comes_first:Wj l.prog w K mg base C_Table "comes_first" 1 ["self","at","other","place"] (Jj (Jk0 C_Table)):=Jbs T Y_Table D_Table__comes_first
 have c_Table__row_to_free:Wj l.prog w K mg base C_Table "row_to_free" 2 ["self","place"] (Jj (Je6 C_Table)):=Jbt T Y_Table D_Table__row_to_free c_Table__comes_first
 have c_Table__counts_by:Wj l.prog w K mg base C_Table "counts_by" 3 ["self","place"] (Jj (Jee C_Table)):=Jcv T Y_Table D_Table__counts_by Gg
 have c_Table__find_round:Wj l.prog w K mg base C_Table "find_round" 4 ["self","wanted"] (Jk3 C_Table):=Jce T Y_Table D_Table__find_round c_Table__place_to_raise c_Table__row_to_free c_Table__counts_by c_Table__exchange
 have c_Table__shares:Wj l.prog w K mg base C_Table "shares" 2 ["self","wanted"] (Zh (Jhx C_Table)):=Jfd T Y_Table D_Table__shares c_Table__rises
 have c_Table__as_sum:Wj l.prog w K mg base C_Table "as_sum" 1 ["self","shares"] (Jj (Jk1 C_Table)):=Jfc T Y_Table D_Table__as_sum
 have c_Table__read_sum:Wj l.prog w K mg base C_Table "read_sum" 3 ["self","wanted"] (Jj (Ja0 C_Table)):=Jdk T Y_Table D_Table__read_sum c_Table__as_sum Gg c_Table__shares
 have Gs:Cal l.prog w K mg base "is_ring" 4 ["book","some"] (Jj Jh5):=Jow T M3 Gf Gh
 have Gu:Cal l.prog w K mg base "ring_table" 5 ["book","some"] (Jk8 C_Table):=Jix T Y_Table M4 Gs c_Table__init
 have G4:Cal l.prog w K mg base "kept_or_raised" 6 ["book","some","p"] (Jj Jbk):=Jeo T Y_Table M5 Gu Gc c_Table__find_round c_Table__read_sum
 have Gi:Cal l.prog w K mg base "weighed" 1 ["weights","numbers"] (Jj Jeh):=Joy T M6
 have Gv:Cal l.prog w K mg base "fall" 2 ["book","tally","k"] (Jj Jgg):=Jw5 T M7 Gi
 have Gy:Cal l.prog w K mg base "is_kept" 3 ["book","tally","some"] (Jj Jgh):=Jo0 T M8 Gv
 have Gz:Cal l.prog w K mg base "worth" 2 ["tally","stand"] (Jj Jej):=Ju4 T M9 Gi
 have Tj:Cal l.prog w K mg base "_law_heights" 1 ["_law_book_here","_law_ring","_law_total"] (Zh Je8):=Jih T Ta
 have Tk:Cal l.prog w K mg base "_law_never_both" 4 ["_law_book_here","_law_ring","_law_answers"] (Jj Jcq):=Jep T Tc Gw Gx Gy
 have Tl:Cal l.prog w K mg base "_law_walk_right" 5 ["_law_tape_here","_law_book_here","_law_ring","_law_answers"] (Jj Jh6):=Jeq T Td Gj Tj Gz G0 G3
 exact J0d T F4 Te Ti Gh G4 Tk Tl
theorem walk {l:J6c}{q:J9l}{loose:List Str}{XP:(Str->Option J9g)->Heap->Prop}{YP:J9k->Heap->Prop}{d:DefRec}{K:Params->Qc}(hn:l.most=some 63) (hdf:d.params.defaults=[])
 (hY:∀ (w:J9k) (h:Heap),YP w h->(K w.params).In h)
 (F:∀ (w:J9k) (mg:Str->Option J9g) (fa:Addr) (h:Heap),(K w.params).In h->h.Ns J9r mg->mg d.name=some (.ref fa) ->
  ∃ fd:J9s,(∀ (s:J9i) (u:J9g),Yac s fd ⟨[u],[]⟩ [("_law_script",u)])/\∀ base:Heap,(K w.params).In base->base.Ns J9r mg->FnOk l.prog w (K w.params) mg base CX0 14 fa fd ["_law_script"] (Jlv (K w.params))) :
 J7s q loose XP YP l.row.toRowW d [] (λ f vs=>J6a f vs):=
 L2.walk_of (n:=63) (k:=14) (x:="_law_script") (CX:=λ _=>CX0) (sp:=λ w=>Jlv (K w.params)) hn (by decide) hdf ⟨rfl,by decide,by decide,rfl⟩ hY F (λ _ _ a ns hl _ hS=>⟨a,ns,rfl,hS,hl,λ _=>rfl⟩) λ _ _ _ _ _ z=>z
end My
end
theorem PySem.W.Fast.tw6886330757402839559 : True := trivial
theorem PySem.W.Fast.tw14915229712964970514 : True := trivial
theorem PySem.W.Fast.tw6738431349578422915 : True := trivial
theorem PySem.W.Fast.tw17506476523082339537 : True := trivial
theorem PySem.W.Fast.tw3876807755556222432 : True := trivial
theorem PySem.W.Fast.tw13318301145953686185 : True := trivial
theorem PySem.W.Fast.tw2764846088414177147 : True := trivial
theorem PySem.W.Fast.tw2362380602248578368 : True := trivial
theorem PySem.W.Fast.tw5860951138422132919 : True := trivial
theorem PySem.W.Fast.tw13320970670938348610 : True := trivial
theorem PySem.W.Fast.tw5579858591617171955 : True := trivial
theorem PySem.W.Fast.tw12003625959798866748 : True := trivial
theorem PySem.W.Fast.tw1842167922804269116 : True := trivial
theorem PySem.W.Fast.tw2471981915224265450 : True := trivial
theorem PySem.W.Fast.tw3179265143089047457 : True := trivial
theorem PySem.W.Fast.tw9378413290439463826 : True := trivial
theorem PySem.W.Fast.tw9292647494314326974 : True := trivial
theorem PySem.W.Fast.tw13682231014976795967 : True := trivial
theorem PySem.W.Fast.tw15459226082345448114 : True := trivial
theorem PySem.W.Fast.tw5588298593292094829 : True := trivial
theorem PySem.W.Fast.tw2545264781935903247 : True := trivial
theorem PySem.W.Fast.tw2439352682523383854 : True := trivial
theorem PySem.W.Fast.tw16524583087866394482 : True := trivial
theorem PySem.W.Fast.tw3064397611586768475 : True := trivial
theorem PySem.W.Fast.tw3337047371500541918 : True := trivial
theorem PySem.W.Fast.tw11693147983741115045 : True := trivial
theorem PySem.W.Fast.tw17407459882338138786 : True := trivial
theorem PySem.W.Fast.tw8794965672396739632 : True := trivial
theorem PySem.W.Fast.tw10577895102257073828 : True := trivial
theorem PySem.W.Fast.tw9508872499525137629 : True := trivial
theorem PySem.W.Fast.tw16512153644481387426 : True := trivial
theorem PySem.W.Fast.tw11710879561335018576 : True := trivial
theorem PySem.W.Fast.tw14908177040493691920 : True := trivial
theorem PySem.W.Fast.tw2875520507758788353 : True := trivial
theorem PySem.W.Fast.tw10229424437979706782 : True := trivial
theorem PySem.W.Fast.tw3868834083501111753 : True := trivial
theorem PySem.W.Fast.tw1134273444453199290 : True := trivial
open PySem PySem.W PyProof.Rows
set_option maxRecDepth 100000 in
set_option maxHeartbeats 0 in
theorem PySem.Challenge.cw_fallsum_k57_whole_purses_along_walks_holds : PySem.Challenge.rw_fallsum_k57_whole_purses_along_walks.Holds := by
  w_on; o_law; k_head; (case hw => w_witness2)
  k_fill
  refine My.walk (l := PySem.Challenge.rw_fallsum_k57_whole_purses_along_walks) rfl rfl (fun w h Y => PySem.W.kIn_of Y) ?F
  case F =>
    intro w mg fa h KX G hmg
    refine' My.all_mk KX G hmg ⟨PySem.W.mg_none_of KX G ?z_isinstance, PySem.W.mg_none_of KX G ?z_int, PySem.W.mg_none_of KX G ?z_bool, PySem.W.mg_none_of KX G ?z_str, PySem.W.mg_none_of KX G ?z_tuple, PySem.W.mg_none_of KX G ?z_len, PySem.W.mg_none_of KX G ?z_all, PySem.W.mg_none_of KX G ?z_sum, PySem.W.mg_none_of KX G ?z_range, PySem.W.mg_none_of KX G ?z_list, PySem.W.mg_none_of KX G ?z_zip, PySem.W.mg_none_of KX G ?z_enumerate, PySem.W.mg_none_of KX G ?z_min, PySem.W.mg_none_of KX G ?z_max, PySem.W.mg_none_of KX G ?z_abs, PySem.W.mg_none_of KX G ?z_any⟩
      (C_Table := ?C_Table) (⟨⟨?pg_Table, ?hd_Table, ?po_Table, ?sa_Table⟩, ?n0_Table, ?n1_Table, ?n2_Table, ?n3_Table, ?n4_Table, ?n5_Table, ?n6_Table⟩)
      (L2.def_mk KX G ?a_law_tape ?l_law_tape ?c_law_tape ?k_law_tape (fun _ _ _ _ _ _ us hl => match us, hl with | [_], _ => rfl))
      (L2.def_mk KX G ?a_law_draw ?l_law_draw ?c_law_draw ?k_law_draw (fun _ _ _ _ _ _ us hl => match us, hl with | [_, _], _ => rfl))
      (L2.def_mk KX G ?a_law_gain ?l_law_gain ?c_law_gain ?k_law_gain (fun _ _ _ _ _ _ us hl => match us, hl with | [_], _ => rfl))
      (L2.def_mk KX G ?a_law_gains ?l_law_gains ?c_law_gains ?k_law_gains (fun _ _ _ _ _ _ us hl => match us, hl with | [_, _], _ => rfl))
      (L2.def_mk KX G ?a_law_nested ?l_law_nested ?c_law_nested ?k_law_nested (fun _ _ _ _ _ _ us hl => match us, hl with | [_, _, _], _ => rfl))
      (L2.def_mk KX G ?a_law_book ?l_law_book ?c_law_book ?k_law_book (fun _ _ _ _ _ _ us hl => match us, hl with | [_, _], _ => rfl))
      (L2.def_mk KX G ?a_is_whole ?l_is_whole ?c_is_whole ?k_is_whole (fun _ _ _ _ _ _ us hl => match us, hl with | [_], _ => rfl))
      (L2.def_mk KX G ?a_is_between ?l_is_between ?c_is_between ?k_is_between (fun _ _ _ _ _ _ us hl => match us, hl with | [_, _, _], _ => rfl))
      (L2.def_mk KX G ?a_has_way ?l_has_way ?c_has_way ?k_has_way (fun _ _ _ _ _ _ us hl => match us, hl with | [_, _], _ => rfl))
      (L2.def_mk KX G ?a_is_tuple_of ?l_is_tuple_of ?c_is_tuple_of ?k_is_tuple_of (fun _ _ _ _ _ _ us hl => match us, hl with | [_, _], _ => rfl))
      (L2.def_mk KX G ?a_are_numbers ?l_are_numbers ?c_are_numbers ?k_are_numbers (fun _ _ _ _ _ _ us hl => match us, hl with | [_, _], _ => rfl))
      (L2.def_mk KX G ?a_is_balanced ?l_is_balanced ?c_is_balanced ?k_is_balanced (fun _ _ _ _ _ _ us hl => match us, hl with | [_, _], _ => rfl))
      (L2.def_mk KX G ?a_is_round ?l_is_round ?c_is_round ?k_is_round (fun _ _ _ _ _ _ us hl => match us, hl with | [_, _], _ => rfl))
      (L2.def_mk KX G ?a_round_gain ?l_round_gain ?c_round_gain ?k_round_gain (fun _ _ _ _ _ _ us hl => match us, hl with | [_, _], _ => rfl))
      (L2.def_mk KX G ?a_put_to ?l_put_to ?c_put_to ?k_put_to (fun _ _ _ _ _ _ us hl => match us, hl with | [_, _], _ => rfl))
      (L2.def_mk KX G ?a_leads_on ?l_leads_on ?c_leads_on ?k_leads_on (fun _ _ _ _ _ _ us hl => match us, hl with | [_, _], _ => rfl))
      (L2.def_mk KX G ?a_can_do ?l_can_do ?c_can_do ?k_can_do (fun _ _ _ _ _ _ us hl => match us, hl with | [_, _], _ => rfl))
      (L2.def_mk KX G ?a_behind ?l_behind ?c_behind ?k_behind (fun _ _ _ _ _ _ us hl => match us, hl with | [_, _, _], _ => rfl))
      (L2.def_mk KX G ?a_rooms_reached ?l_rooms_reached ?c_rooms_reached ?k_rooms_reached (fun _ _ _ _ _ _ us hl => match us, hl with | [_, _], _ => rfl))
      (L2.def_mk KX G ?a_rings_of ?l_rings_of ?c_rings_of ?k_rings_of (fun _ _ _ _ _ _ us hl => match us, hl with | [_, _], _ => rfl))
      (L2.def_mk KX G ?a_common_divisor ?l_common_divisor ?c_common_divisor ?k_common_divisor (fun _ _ _ _ _ _ us hl => match us, hl with | [_], _ => rfl))
      (L2.def_mk KX G ?a_without_divisor ?l_without_divisor ?c_without_divisor ?k_without_divisor (fun _ _ _ _ _ _ us hl => match us, hl with | [_], _ => rfl))
      (L2.def_mk KX G ?a_first_numbers ?l_first_numbers ?c_first_numbers ?k_first_numbers (fun _ _ _ _ _ _ us hl => match us, hl with | [_, _], _ => rfl))
      (L2.defI2_mk KX G ?aC_Table__init ?mk_Table__init ?kc_Table__init ?a_Table__init ?i_Table__init ?l_Table__init ?c_Table__init ?k_Table__init ?t_Table__init (fun _ _ _ _ _ _ _ _ us hl => match us, hl with | [_, _, _], _ => ⟨_, rfl, rfl⟩) (fun _ _ _ _ _ _ _ _ us hl => match us, hl with | [_, _, _, _], _ => ⟨_, rfl, rfl⟩))
      (L2.defM_mk ?a_Table__without ?i_Table__without ?l_Table__without ?c_Table__without ?k_Table__without (fun _ _ _ _ _ _ us hl => match us, hl with | [_, _, _, _], _ => rfl))
      (L2.defM_mk ?a_Table__exchange ?i_Table__exchange ?l_Table__exchange ?c_Table__exchange ?k_Table__exchange (fun _ _ _ _ _ _ us hl => match us, hl with | [_, _, _], _ => rfl))
      (L2.defM_mk ?a_Table__rises ?i_Table__rises ?l_Table__rises ?c_Table__rises ?k_Table__rises (fun _ _ _ _ _ _ us hl => match us, hl with | [_, _], _ => rfl))
      (L2.defM_mk ?a_Table__place_to_raise ?i_Table__place_to_raise ?l_Table__place_to_raise ?c_Table__place_to_raise ?k_Table__place_to_raise (fun _ _ _ _ _ _ us hl => match us, hl with | [_, _], _ => rfl))
      (L2.defM_mk ?a_Table__comes_first ?i_Table__comes_first ?l_Table__comes_first ?c_Table__comes_first ?k_Table__comes_first (fun _ _ _ _ _ _ us hl => match us, hl with | [_, _, _, _], _ => rfl))
      (L2.defM_mk ?a_Table__row_to_free ?i_Table__row_to_free ?l_Table__row_to_free ?c_Table__row_to_free ?k_Table__row_to_free (fun _ _ _ _ _ _ us hl => match us, hl with | [_, _], _ => rfl))
      (L2.defM_mk ?a_Table__counts_by ?i_Table__counts_by ?l_Table__counts_by ?c_Table__counts_by ?k_Table__counts_by (fun _ _ _ _ _ _ us hl => match us, hl with | [_, _], _ => rfl))
      (L2.defM_mk ?a_Table__find_round ?i_Table__find_round ?l_Table__find_round ?c_Table__find_round ?k_Table__find_round (fun _ _ _ _ _ _ us hl => match us, hl with | [_, _], _ => rfl))
      (L2.defM_mk ?a_Table__shares ?i_Table__shares ?l_Table__shares ?c_Table__shares ?k_Table__shares (fun _ _ _ _ _ _ us hl => match us, hl with | [_, _], _ => rfl))
      (L2.defM_mk ?a_Table__as_sum ?i_Table__as_sum ?l_Table__as_sum ?c_Table__as_sum ?k_Table__as_sum (fun _ _ _ _ _ _ us hl => match us, hl with | [_, _], _ => rfl))
      (L2.defM_mk ?a_Table__read_sum ?i_Table__read_sum ?l_Table__read_sum ?c_Table__read_sum ?k_Table__read_sum (fun _ _ _ _ _ _ us hl => match us, hl with | [_, _], _ => rfl))
      (L2.def_mk KX G ?a_is_ring ?l_is_ring ?c_is_ring ?k_is_ring (fun _ _ _ _ _ _ us hl => match us, hl with | [_, _], _ => rfl))
      (L2.def_mk KX G ?a_ring_table ?l_ring_table ?c_ring_table ?k_ring_table (fun _ _ _ _ _ _ us hl => match us, hl with | [_, _], _ => rfl))
      (L2.def_mk KX G ?a_kept_or_raised ?l_kept_or_raised ?c_kept_or_raised ?k_kept_or_raised (fun _ _ _ _ _ _ us hl => match us, hl with | [_, _, _], _ => rfl))
      (L2.def_mk KX G ?a_weighed ?l_weighed ?c_weighed ?k_weighed (fun _ _ _ _ _ _ us hl => match us, hl with | [_, _], _ => rfl))
      (L2.def_mk KX G ?a_fall ?l_fall ?c_fall ?k_fall (fun _ _ _ _ _ _ us hl => match us, hl with | [_, _, _], _ => rfl))
      (L2.def_mk KX G ?a_is_kept ?l_is_kept ?c_is_kept ?k_is_kept (fun _ _ _ _ _ _ us hl => match us, hl with | [_, _, _], _ => rfl))
      (L2.def_mk KX G ?a_worth ?l_worth ?c_worth ?k_worth (fun _ _ _ _ _ _ us hl => match us, hl with | [_, _], _ => rfl))
      (L2.def_mk KX G ?a_law_heights ?l_law_heights ?c_law_heights ?k_law_heights (fun _ _ _ _ _ _ us hl => match us, hl with | [_, _, _], _ => rfl))
      (L2.def_mk KX G ?a_law_never_both ?l_law_never_both ?c_law_never_both ?k_law_never_both (fun _ _ _ _ _ _ us hl => match us, hl with | [_, _, _], _ => rfl))
      (L2.def_mk KX G ?a_law_walk_right ?l_law_walk_right ?c_law_walk_right ?k_law_walk_right (fun _ _ _ _ _ _ us hl => match us, hl with | [_, _, _, _], _ => rfl))
      ?a4 ?l4 ?c4 ?k4
    (case aC_Table__init => k_is)
    (case z_isinstance => k_is)
    (case z_int => k_is)
    (case z_bool => k_is)
    (case z_str => k_is)
    (case z_tuple => k_is)
    (case z_len => k_is)
    (case z_all => k_is)
    (case z_sum => k_is)
    (case z_range => k_is)
    (case z_list => k_is)
    (case z_zip => k_is)
    (case z_enumerate => k_is)
    (case z_min => k_is)
    (case z_max => k_is)
    (case z_abs => k_is)
    (case z_any => k_is)
    (case a_law_tape => k_is)
    (case l_law_tape => k_is)
    (case c_law_tape => k_is)
    (case k_law_tape => k_is)
    (case a_law_draw => k_is)
    (case l_law_draw => k_is)
    (case c_law_draw => k_is)
    (case k_law_draw => k_is)
    (case a_law_gain => k_is)
    (case l_law_gain => k_is)
    (case c_law_gain => k_is)
    (case k_law_gain => k_is)
    (case a_law_gains => k_is)
    (case l_law_gains => k_is)
    (case c_law_gains => k_is)
    (case k_law_gains => k_is)
    (case a_law_nested => k_is)
    (case l_law_nested => k_is)
    (case c_law_nested => k_is)
    (case k_law_nested => k_is)
    (case a_law_book => k_is)
    (case l_law_book => k_is)
    (case c_law_book => k_is)
    (case k_law_book => k_is)
    (case a_is_whole => k_is)
    (case l_is_whole => k_is)
    (case c_is_whole => k_is)
    (case k_is_whole => k_is)
    (case a_is_between => k_is)
    (case l_is_between => k_is)
    (case c_is_between => k_is)
    (case k_is_between => k_is)
    (case a_has_way => k_is)
    (case l_has_way => k_is)
    (case c_has_way => k_is)
    (case k_has_way => k_is)
    (case a_is_tuple_of => k_is)
    (case l_is_tuple_of => k_is)
    (case c_is_tuple_of => k_is)
    (case k_is_tuple_of => k_is)
    (case a_are_numbers => k_is)
    (case l_are_numbers => k_is)
    (case c_are_numbers => k_is)
    (case k_are_numbers => k_is)
    (case a_is_balanced => k_is)
    (case l_is_balanced => k_is)
    (case c_is_balanced => k_is)
    (case k_is_balanced => k_is)
    (case a_is_round => k_is)
    (case l_is_round => k_is)
    (case c_is_round => k_is)
    (case k_is_round => k_is)
    (case a_round_gain => k_is)
    (case l_round_gain => k_is)
    (case c_round_gain => k_is)
    (case k_round_gain => k_is)
    (case a_put_to => k_is)
    (case l_put_to => k_is)
    (case c_put_to => k_is)
    (case k_put_to => k_is)
    (case a_leads_on => k_is)
    (case l_leads_on => k_is)
    (case c_leads_on => k_is)
    (case k_leads_on => k_is)
    (case a_can_do => k_is)
    (case l_can_do => k_is)
    (case c_can_do => k_is)
    (case k_can_do => k_is)
    (case a_behind => k_is)
    (case l_behind => k_is)
    (case c_behind => k_is)
    (case k_behind => k_is)
    (case a_rooms_reached => k_is)
    (case l_rooms_reached => k_is)
    (case c_rooms_reached => k_is)
    (case k_rooms_reached => k_is)
    (case a_rings_of => k_is)
    (case l_rings_of => k_is)
    (case c_rings_of => k_is)
    (case k_rings_of => k_is)
    (case a_common_divisor => k_is)
    (case l_common_divisor => k_is)
    (case c_common_divisor => k_is)
    (case k_common_divisor => k_is)
    (case a_without_divisor => k_is)
    (case l_without_divisor => k_is)
    (case c_without_divisor => k_is)
    (case k_without_divisor => k_is)
    (case a_first_numbers => k_is)
    (case l_first_numbers => k_is)
    (case c_first_numbers => k_is)
    (case k_first_numbers => k_is)
    (case mk_Table__init => k_is)
    (case kc_Table__init => k_is)
    (case a_Table__init => k_is)
    (case i_Table__init => k_is)
    (case l_Table__init => k_is)
    (case c_Table__init => k_is)
    (case k_Table__init => k_is)
    (case t_Table__init => k_is)
    (case a_Table__without => k_is)
    (case i_Table__without => k_is)
    (case l_Table__without => k_is)
    (case c_Table__without => k_is)
    (case k_Table__without => k_is)
    (case a_Table__exchange => k_is)
    (case i_Table__exchange => k_is)
    (case l_Table__exchange => k_is)
    (case c_Table__exchange => k_is)
    (case k_Table__exchange => k_is)
    (case a_Table__rises => k_is)
    (case i_Table__rises => k_is)
    (case l_Table__rises => k_is)
    (case c_Table__rises => k_is)
    (case k_Table__rises => k_is)
    (case a_Table__place_to_raise => k_is)
    (case i_Table__place_to_raise => k_is)
    (case l_Table__place_to_raise => k_is)
    (case c_Table__place_to_raise => k_is)
    (case k_Table__place_to_raise => k_is)
    (case a_Table__comes_first => k_is)
    (case i_Table__comes_first => k_is)
    (case l_Table__comes_first => k_is)
    (case c_Table__comes_first => k_is)
    (case k_Table__comes_first => k_is)
    (case a_Table__row_to_free => k_is)
    (case i_Table__row_to_free => k_is)
    (case l_Table__row_to_free => k_is)
    (case c_Table__row_to_free => k_is)
    (case k_Table__row_to_free => k_is)
    (case a_Table__counts_by => k_is)
    (case i_Table__counts_by => k_is)
    (case l_Table__counts_by => k_is)
    (case c_Table__counts_by => k_is)
    (case k_Table__counts_by => k_is)
    (case a_Table__find_round => k_is)
    (case i_Table__find_round => k_is)
    (case l_Table__find_round => k_is)
    (case c_Table__find_round => k_is)
    (case k_Table__find_round => k_is)
    (case a_Table__shares => k_is)
    (case i_Table__shares => k_is)
    (case l_Table__shares => k_is)
    (case c_Table__shares => k_is)
    (case k_Table__shares => k_is)
    (case a_Table__as_sum => k_is)
    (case i_Table__as_sum => k_is)
    (case l_Table__as_sum => k_is)
    (case c_Table__as_sum => k_is)
    (case k_Table__as_sum => k_is)
    (case a_Table__read_sum => k_is)
    (case i_Table__read_sum => k_is)
    (case l_Table__read_sum => k_is)
    (case c_Table__read_sum => k_is)
    (case k_Table__read_sum => k_is)
    (case a_is_ring => k_is)
    (case l_is_ring => k_is)
    (case c_is_ring => k_is)
    (case k_is_ring => k_is)
    (case a_ring_table => k_is)
    (case l_ring_table => k_is)
    (case c_ring_table => k_is)
    (case k_ring_table => k_is)
    (case a_kept_or_raised => k_is)
    (case l_kept_or_raised => k_is)
    (case c_kept_or_raised => k_is)
    (case k_kept_or_raised => k_is)
    (case a_weighed => k_is)
    (case l_weighed => k_is)
    (case c_weighed => k_is)
    (case k_weighed => k_is)
    (case a_fall => k_is)
    (case l_fall => k_is)
    (case c_fall => k_is)
    (case k_fall => k_is)
    (case a_is_kept => k_is)
    (case l_is_kept => k_is)
    (case c_is_kept => k_is)
    (case k_is_kept => k_is)
    (case a_worth => k_is)
    (case l_worth => k_is)
    (case c_worth => k_is)
    (case k_worth => k_is)
    (case a_law_heights => k_is)
    (case l_law_heights => k_is)
    (case c_law_heights => k_is)
    (case k_law_heights => k_is)
    (case a_law_never_both => k_is)
    (case l_law_never_both => k_is)
    (case c_law_never_both => k_is)
    (case k_law_never_both => k_is)
    (case a_law_walk_right => k_is)
    (case l_law_walk_right => k_is)
    (case c_law_walk_right => k_is)
    (case k_law_walk_right => k_is)
    (case a4 => k_is)
    (case l4 => k_is)
    (case c4 => k_is)
    (case k4 => k_is)
    (case pg_Table => k_is)
    (case hd_Table => k_is)
    (case po_Table => k_is)
    (case sa_Table => k_is)
    (case n0_Table => (unfold L2.NoAttr; k_is))
    (case n1_Table => (unfold L2.NoAttr; k_is))
    (case n2_Table => (unfold L2.NoAttr; k_is))
    (case n3_Table => (unfold L2.NoAttr; k_is))
    (case n4_Table => (unfold L2.NoAttr; k_is))
    (case n5_Table => (unfold L2.NoAttr; k_is))
    (case n6_Table => (unfold L2.NoAttr; k_is))
