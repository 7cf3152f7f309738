import Derived.Lib.AppendZeros
import Derived.Deep.LoopGhost
import Derived.Deep.AppendSrc
import Derived.Lib.ConvBytes
import Derived.Test.YtmfodnkinmnopaaGreatSp6
set_option linter.unusedVariables false
set_option linter.constructorNameAsVariable false
set_option linter.unusedSimpArgs false
set_option maxRecDepth 1000000
set_option maxHeartbeats 4000000
namespace Go.Proofs.YtmfodnkinmnopaaGreat
open _root_.Array renaming all_eq_true'->QA,any_eq_true'->QY,ext_getElem?->Uh,getD_eq_getD_getElem?->Ov,getElem?_eq_getElem->OJ,getElem?_eq_some_iff->OH,getElem?_replicate->QX,getElem?_setIfInBounds->PW,getElem?_toList->O7,getElem_append_left->RP,length_toList->Ot,replicate->Oj,size_append->ON,size_replicate->Ou,size_setIfInBounds->O6,toArray_toList->Rn,toList_replicate->TP
open _root_.Bool renaming and_eq_true->Ox,or_eq_false_iff->TZ,or_eq_true->UQ,true_or->QP
open _root_.Classical renaming byContradiction->PC
open _root_.Fin renaming val->Uo
open _root_.Go.Act renaming put->Pk
open _root_.Go.Builtin renaming append_->Qv,clear_->Un,zeroCells->Pu
open _root_.Go.Code renaming region->Qh
open _root_.Go.Instr renaming indexAt->Py,makeSlice->PN,sliceAt->Pp
open _root_.Go.IntKind renaming i64->OZ,wrap_i64->Rh
open _root_.Go.Lib renaming bytesCells->QN,bytesWorld->R7,bytesWorld_size->SZ,run_append_nil_zeros->TJ,wpList_append_run->Qt
open _root_.Go.Next renaming value->Rf
open _root_.Go.Oper renaming upon_enter->Q9,wp->Qg
open _root_.Go.Question renaming cut->Ul
open _root_.Go.Region renaming binds->P0,ready->Qj,wanted->RN
open _root_.Go.RowKit.Below renaming refl->Ow
open _root_.Go.Sem renaming run_bind->OG
open _root_.Go.Value renaming agg->O8
open _root_.Go.World renaming cell?->Qs,cell?_of_block->OR,freeze->Ss,frozen?->RZ,frozen?_of_block->P4,ownsRow_made->Ue,ownsRow_nil->SS,rangeAt_setCells_apart->QF,rangeAt_setCells_same->QJ,size_alloc->Oo,there_setCells->SD
open _root_.Int renaming natCast_add->U1,natCast_mul->Qd,toNat_natCast->Si
open _root_.List renaming all_eq_true->OP,append_nil->Q6,countP_replicate->TV,eq_nil_iff_forall_not_mem->Te,ext_getElem?->Sg,filter_sublist->Ub,finRange->U5,flatMap_append->Rx,flatMap_cons->Td,getElem?_append_left->Pn,getElem?_eq_getElem->OA,getElem?_eq_some_iff->OE,getElem?_map->PD,getElem?_of_mem->PZ,getElem?_range->QT,getElem?_take->PO,getElem_cons_succ->TR,getElem_mem->Pm,length_append->Oz,length_cons->OV,length_filter_le->TU,length_map->OO,length_range->QI,length_take->QS,map_append->Sy,map_cons->Qu,mem_cons->Pg,mem_cons_of_mem->OU,mem_cons_self->O5,mem_filter->Su,mem_finRange->Ut,mem_flatMap->Tb,mem_map->Pw,mem_of_mem_take->TW,mem_range->PY,mem_toArray->Sb,nodup_cons->Rq,nodup_finRange->SK,not_mem_nil->OD,pairwise_map->Us,range->Pj,range_succ->Rp,setIfInBounds_toArray->OL,set_cons_succ->Pd,set_cons_zero->Pf,size_toArray->O4,take_add_one->Ur,take_length->Ta
open _root_.List.Pairwise renaming imp->Tx
open _root_.Nat renaming add_zero->P9,div_add_mod->SI,div_eq_of_lt->Rv,le_add_right->RL,le_of_ble_eq_true->PH,le_refl->Oh,le_trans->OM,lt_of_lt_of_le->Oi,lt_of_succ_le->Qx,lt_or_ge->Ru,mod_eq_of_lt->Oy,mod_lt->Qf,mul_add->Qr,mul_add_div->UT,mul_comm->OX,mul_le_mul->P7,mul_le_mul_right->Qw,mul_one->Qn,mul_succ->SB,reduceAdd->QL,sub_zero->So,zero_add->Om,zero_le->QB
open _root_.Ne renaming symm->VI
open _root_.Option renaming isSome_iff_exists->O9,map_eq_some_iff->Ol,map_some->Sf,some->OW
open _root_.Or renaming inl->OQ,inr->OC
open _root_.Prod renaming mk->P3
open _root_.UInt8 renaming toNat_inj->Tf
open Go.Proofs.Tryz (prog)
namespace RG
open Go Go.RowKit
variable {P:Program}{ops:Array Oper}{Q:Exit->Act->World->Prop}{w:World}{a0:Act}{L:Array Bool}
structure Flow where
 R:Nat->Value->World->Prop
 B:Nat->World->Prop
 E:Nat->World->World->Prop
 kill:Nat->List Nat
 killB:Nat->List Nat
def eE(ops:Array Oper)(i:Nat):Option Tmp:=(ops[i]?).bind (·.dst)
def depOn(ops:Array Oper)(x k:Nat):Bool:=match ops[x]? with|some o=>iU o k|none=>true
def okK(ops:Array Oper)(k:Nat)(l:List Nat):Bool:=l.all (fun x=>x == k || depOn ops x k)
def Cl(ops:Array Oper)(k:Nat)(t:Tmp):Bool:=(Pj ops.size).all (fun i=>eE ops i != some t || i == k || depOn ops i k)
structure InvF(F:Flow)(ops:Array Oper)(a0:Act)(L:Array Bool)(a:Act)(w:World):Prop where
 size:L.size=ops.size
 cl:∀(i:Nat) (o:Oper),ops[i]? = some o->on L i=true->∀e∈o.after,P0 .any e=true->on L e.on=true
 def':a.defers=a0.defers
 sz:a.tmps.size=a0.tmps.size
 rest:∀t:Tmp,(∀i,on L i=true->eE ops i≠some t)->a.tmps[t]? = a0.tmps[t]?
 all:∃V:Nat->Value,(∀i d,on L i=true->eE ops i=some d->a.tmps[d]? = some (V i))/\(∀i,on L i=true->(∀x∈F.kill i,on L x=false)->F.R i (V i) w)
 base:∀b,(∀x∈F.killB b,on L x=false)->F.B b w
def kX(P:Program)(Q:Exit->Act->World->Prop)(F:Flow)(ops:Array Oper)(a0:Act)(k:Nat)(o:Oper):Prop:=
 ∀(a:Act) (w:World) (K:Act->World->Prop),
  (∀j d,iU o j=true->okK ops k (F.kill j)=true->eE ops j=some d->F.R j (a.eval (.tmp d)) w) ->
  (∀t,Cl ops k t=true->a.eval (.tmp t)=a0.eval (.tmp t)) ->
  (∀b,okK ops k (F.killB b)=true->F.B b w) ->
  (∀v w',F.E k w w'->F.R k v w'->K (a.put o.dst v) w')->o.wp P a w K Q
def vG(P:Program)(Q:Exit->Act->World->Prop)(F:Flow)(ops:Array Oper)(a0:Act)(k:Nat)(o:Oper):Prop:=
 match o.guard with
 | none=>kX P Q F ops a0 k o
 | some (j,want)=>iU o j=true/\(eE ops j).isSome=true/\okK ops k (F.kill j)=true /\
  (((∀v w,F.R j v w->v=.bool want)/\kX P Q F ops a0 k o)\/((∀v w,F.R j v w->v=.bool (!want))/\∀w,F.E k w w/\F.R k undef w))
def IQ(ops:Array Oper)(n:Nat):Bool:=
 (Pj ops.size).all (fun i=>match ops[i]? with
  | some o=>o.after.all (fun e=>!P0 .any e || e.on<i) && (match o.dst with|none=>true|some d=>decide (d<n) && (Pj ops.size).all (fun j=>j == i || eE ops j != some d))
  | none=>false)
structure RegF(P:Program)(Q:Exit->Act->World->Prop)(F:Flow)(ops:Array Oper)(a0:Act)(m:Nat):Prop where
 chk:IQ ops a0.tmps.size=true
 cert:∀k o,k<m->ops[k]? = some o->vG P Q F ops a0 k o
 stab:∀i j,i<m->j<m->i≠j->(F.kill j).contains i=false->depOn ops j i=false->∀v w w',F.E i w w'->F.R j v w->F.R j v w'
 stabB:∀i b,i<m->(F.killB b).contains i=false->∀w w',F.E i w w'->F.B b w->F.B b w'
variable {F:Flow}{m:Nat}
theorem RegF.of{k:Nat}{o:Oper}(h:RegF P Q F ops a0 m)(ho:ops[k]? = some o):(∀e∈o.after,P0 .any e=true->e.on<k)/\∀d,o.dst=some d->d<a0.tmps.size/\∀j,eE ops j=some d->j=k:=by
 have hk:k<ops.size:=(OH.1 ho).1;have h1:=OP.1 h.chk k (PY.2 hk);rw[ho]at h1;simp only[Ox]at h1;obtain⟨h2,h3⟩:=h1;refine⟨fun e he hb=>?_,fun d hd=>?_⟩
 ·have:=QA.1 h2 e he;simpa[hb]using this
 ·rw[hd]at h3;simp only[Ox,decide_eq_true_eq]at h3;refine⟨h3.1,fun j hj=>?_⟩;have hjs:j<ops.size:=by
   unfold eE at hj;cases hx:ops[j]? with
   | none=>rw[hx]at hj;cases hj
   | some x=>exact(OH.1 hx).1
  have:=OP.1 h3.2 j (PY.2 hjs);simpa[hj]using this
theorem gJ{i:Nat}{o:Oper}(ho:ops[i]? = some o):eE ops i=o.dst:=by unfold eE;rw[ho];rfl
theorem FH{a:Act}{x k:Nat}{o:Oper}(h:InvF F ops a0 L a w){ho:ops[x]? = some o}(hd:iU o k=true)(hx:on L x=true):on L k=true:=by
 obtain⟨e,he,hb⟩:=QY.1 hd;simp only[Ox,beq_iff_eq]at hb;rw[<-hb.2];exact h.cl x o ho hx e he hb.1
theorem uN{L:Array Bool}{x:Nat}(h:on L x=true):x<L.size:=by
 rcases Ru x L.size with h1|h1
 ·exact h1
 ·unfold on at h;rw[Ov,Array.getElem?_eq_none h1]at h;cases h
theorem Je{k:Nat}{o:Oper}{a:Act}(R:RegF P Q F ops a0 m)(hkm:k<m)(hlt:∀i,on L i=true->i<m)(ho:ops[k]? = some o)(hun:on L k=false)(hdep:∀e∈o.after,P0 .any e=true->on L e.on=true)(h:InvF F ops a0 L a w):
 wpOp P ops Q k (InvF F ops a0 (L.setIfInBounds k true)) a w:=by
 obtain⟨hback,hdst⟩:=R.of ho;have hks:k<ops.size:=(OH.1 ho).1;have hkL:k<L.size:=by rw[h.size];exact hks
 have hdo:eE ops k=o.dst:=gJ ho;have hnot:∀x,(x == k || depOn ops x k)=true->on L x=false:=fun x hx=>by
  cases hon:on L x with
  | false=>rfl
  | true =>
   rcases UQ _ _ ▸ hx with h1|h1
   ·rw[show x=k by simpa using h1,hun]at hon;cases hon
   ·unfold depOn at h1;have hxs:x<ops.size:=by rw[<-h.size];exact uN hon
    have hox:ops[x]? = some ops[x]:=OJ hxs;rw[hox]at h1;have:=FH (ho:=hox) h h1 hon;rw[hun]at this;cases this
 obtain⟨V,hV1,hV2⟩:=h.all;have hp1:∀j d,iU o j=true->okK ops k (F.kill j)=true->eE ops j=some d->a.tmps[d]? = some (V j)/\F.R j (V j) w:=fun j d hj hok hd=>by
  obtain⟨e,he,hb⟩:=QY.1 hj;simp only[Ox,beq_iff_eq]at hb;have hjon:on L j=true:=by rw[<-hb.2];exact hdep e he hb.1
  exact⟨hV1 j d hjon hd,hV2 j hjon fun x hx=>hnot x (OP.1 hok x hx)⟩
 have hpre1:∀j d,iU o j=true->okK ops k (F.kill j)=true->eE ops j=some d->F.R j (a.eval (.tmp d)) w:=fun j d hj hok hd=>by
  rw[Cp (hp1 j d hj hok hd).1];exact(hp1 j d hj hok hd).2
 have hpre2:∀t,Cl ops k t=true->a.eval (.tmp t)=a0.eval (.tmp t):=fun t hf=>by
  have h1:=h.rest t fun i hi hd=>by
   have his:i<ops.size:=by rw[<-h.size];exact uN hi
   have h2:=OP.1 hf i (PY.2 his);rw[hd]at h2;have h3:(i == k || depOn ops i k)=true:=by simpa using h2
   rw[hnot i h3]at hi;cases hi
  show a.tmps.getD t undef=a0.tmps.getD t undef;rw[Ov,Ov,h1]
 have hpre3:∀b,okK ops k (F.killB b)=true->F.B b w:=fun b hb=>h.base b fun x hx=>hnot x (OP.1 hb x hx)
 have hpost:∀v w',F.E k w w'->F.R k v w'->InvF F ops a0 (L.setIfInBounds k true) (a.put o.dst v) w':=fun v w' hE hR=>by
  have hon:∀x,on (L.setIfInBounds k true) x=(on L x || k == x):=fun x=>fL hkL
  refine⟨by rw[O6];exact h.size,fun i oi hoi hi e he hb=>?_,?_,?_,fun t ht=>?_,⟨fun x=>if x=k then v else V x,fun i d hi hd=>?_,fun i hi hkl=>?_⟩,fun b hb=>?_⟩
  ·rw[hon]at hi⊢;by_cases hik:k=i
   ·subst hik;rw[ho]at hoi;obtain rfl:=OW.inj hoi;rw[hdep e he hb,QP]
   ·rw[h.cl i oi hoi (by simpa[hik]using hi) e he hb,QP]
  ·rw[<-h.def'];cases o.dst<;>rfl
  ·rw[m8];exact h.sz
  ·have h1:o.dst≠some t:=fun hd=>ht k (by rw[hon];simp) (by rw[hdo];exact hd)
   rw[lF a v h1];exact h.rest t fun i hi=>ht i (by rw[hon,hi,QP])
  ·rw[hon]at hi;by_cases hik:i=k
   ·subst hik;rw[hdo]at hd;rw[hd];show(a.tmps.setIfInBounds d v)[d]? = some (if i=i then v else V i);rw[if_pos (rfl:i=i)];rw[PW,if_pos rfl,if_pos (by rw[h.sz];exact(hdst d hd).1)]
   ·have hne:o.dst≠some d:=fun hd2=>hik ((hdst d hd2).2 i hd)
    rw[lF a v hne];show _=some (if i=k then v else V i);rw[if_neg hik];have hik':¬k=i:=fun e=>hik e.symm
    exact hV1 i d (by simpa[hik']using hi) hd
  ·rw[hon]at hi;by_cases hik:i=k
   ·subst hik;show F.R i (if i=i then v else V i) w';rw[if_pos rfl];exact hR
   ·show F.R i (if i=k then v else V i) w';rw[if_neg hik];have hik':¬k=i:=fun e=>hik e.symm
    have hi':on L i=true:=by simpa[hik']using hi
    have h1:∀x∈F.kill i,on L x=false:=fun x hx=>by
     have:=hkl x hx;rw[hon,TZ]at this;exact this.1
    have h2:(F.kill i).contains k=false:=by
     cases hc:(F.kill i).contains k with
     | false=>rfl
     | true =>
      have:=hkl k (by simpa using hc);rw[hon]at this;simp at this
    have his:i<ops.size:=by rw[<-h.size];exact uN hi'
    have h3:depOn ops i k=false:=by
     cases hc:depOn ops i k with
     | false=>rfl
     | true=>rw[hnot i (by rw[hc,Bool.or_true])]at hi';cases hi'
    exact R.stab k i hkm (hlt i hi') (VI hik) h2 h3 _ _ _ hE (hV2 i hi' h1)
  ·have h1:∀x∈F.killB b,on L x=false:=fun x hx=>by
    have:=hb x hx;rw[hon,TZ]at this;exact this.1
   have h2:(F.killB b).contains k=false:=by
    cases hc:(F.killB b).contains k with
    | false=>rfl
    | true =>
     have:=hb k (by simpa using hc);rw[hon]at this;simp at this
   exact R.stabB k b hkm h2 _ _ hE (h.base b h1)
 have hC:=R.cert k o hkm ho;unfold vG at hC;unfold wpOp;rw[ho];dsimp only;cases hg:o.guard with
 | none =>
  rw[hg]at hC;rw[xF hg,if_pos rfl];left;exact hC a w _ hpre1 hpre2 hpre3 hpost
 | some jw =>
  obtain⟨j,want⟩:=jw;rw[hg]at hC;obtain⟨hd1,hd2,hd3,hcase⟩:=hC;obtain⟨d,hd⟩:=O9.1 hd2;obtain⟨hs,hRj⟩:=hp1 j d hd1 hd3 hd;have hy:∀b,V j=.bool b->RN o (yielded ops a.tmps)=(b == want):=fun b hb=>by
   have h4:yielded ops a.tmps j=some b:=by
    unfold eE at hd;unfold yielded;cases hoj:ops[j]? with
    | none=>rw[hoj]at hd;cases hd
    | some oj =>
     rw[hoj]at hd;show(match oj.dst.bind (a.tmps[·]?) with|some (.bool b)=>some b|_=>none)=_;rw[show oj.dst=some d from hd];show(match a.tmps[d]? with|some (.bool b)=>some b|_=>none)=_;rw[hs,hb]
   unfold RN;rw[hg];show(yielded ops a.tmps j == some want)=_;rw[h4];cases b<;>cases want<;>rfl
  rcases hcase with⟨hw,hc⟩|⟨hw,hsk⟩
  ·rw[hy _ (hw _ _ hRj),show(want == want)=true by cases want<;>rfl,if_pos rfl];left;exact hc a w _ hpre1 hpre2 hpre3 hpost
  ·rw[hy _ (hw _ _ hRj),show((!want) == want)=false by cases want<;>rfl];exact hpost undef w (hsk w).1 (hsk w).2
def gP(V:Nat->Value):List Oper->Nat->Act->Act
 | [],_,a=>a
 | o :: r,i,a=>gP V r (i+1) (a.put o.dst (V i))
theorem kG(V:Nat->Value):∀(l:List Oper) (i:Nat) (a:Act),(gP V l i a).defers=a.defers
 | [],_,_=>rfl
 | o :: r,i,a=>by
  rw[gP,kG V r];cases o.dst<;>rfl
theorem jI(V:Nat->Value):∀(l:List Oper) (i:Nat) (a:Act) (t:Tmp),(∀o∈l,o.dst≠some t)->(gP V l i a).tmps[t]? = a.tmps[t]?
 | [],_,_,_,_=>rfl
 | o :: r,i,a,t,h=>by
  rw[gP,jI V r _ _ t (fun x hx=>h x (OU _ hx)),lF a _ (h o O5)]
theorem oV(V:Nat->Value):∀(l:List Oper) (i:Nat) (a:Act) (j:Nat) (o:Oper) (d:Tmp),l[j]? = some o->o.dst=some d->(∀j' o',l[j']? = some o'->o'.dst=some d->j'=j)->d<a.tmps.size->(gP V l i a).tmps[d]? = some (V (i+j))
 | [],_,_,_,_,_,h,_,_,_=>by simp at h
 | x :: r,i,a,0,o,d,h,hd,hu,hs=>by
  obtain rfl:x=o:=by simpa using h
  rw[gP,jI V r _ _ d (fun y hy hyd=>by
   obtain⟨j',hj'⟩:=PZ hy;have:=hu (j'+1) y (by simpa using hj') hyd;omega),hd]
  show(a.tmps.setIfInBounds d _)[d]? = _;rw[PW,if_pos rfl,if_pos hs];rfl
 | x :: r,i,a,j+1,o,d,h,hd,hu,hs=>by
  rw[gP,oV V r (i+1) _ j o d (by simpa using h) hd (fun j' o' h' hd'=>by
   have:=hu (j'+1) o' (by simpa using h') hd';omega) (by rw[m8];exact hs)]
  congr 2
  omega
theorem InvF.done{a:Act}(R:RegF P Q F ops a0 m)(h:InvF F ops a0 L a w)(hall:∀i,i<ops.size->on L i=true)
 (hp:∀(V:Nat->Value),(∀i,i<ops.size->F.kill i=[]->F.R i (V i) w)->(∀b,F.killB b=[]->F.B b w)->Q .normal (gP V ops.toList 0 a0) w):Q .normal a w:=by
 obtain⟨V,hV1,hV2⟩:=h.all;have e:a=gP V ops.toList 0 a0:=by
  refine Act.ext' ?_ (by rw[kG];exact h.def');apply Uh;intro t;by_cases ht:∃(i:Nat) (o:Oper),ops[i]? = some o/\o.dst=some t
  ·obtain⟨i,o,ho,hd⟩:=ht;rw[hV1 i t (hall i (OH.1 ho).1) (by rw[gJ ho];exact hd)];rw[oV V ops.toList 0 a0 i o t (by rw[O7];exact ho) hd (fun j' o' hj' hd'=>((R.of ho).2 t hd).2 j' (by rw[O7]at hj';rw[gJ hj'];exact hd')) ((R.of ho).2 t hd).1,Om]
  ·rw[h.rest t (fun i hi hd=>?_),jI V ops.toList 0 a0 t (fun o hm hd=>?_)]
   ·obtain⟨i,hi⟩:=PZ hm;rw[O7]at hi;exact ht ⟨i,o,hi,hd⟩
   ·unfold eE at hd;cases hx:ops[i]? with
    | none=>rw[hx]at hd;cases hd
    | some x=>rw[hx]at hd;exact ht ⟨i,x,hx,hd⟩
 rw[e];exact hp V (fun i hi hk=>hV2 i (hall i hi) (by rw[hk];simp)) (fun b hb=>h.base b (by rw[hb];simp))
theorem InvF.full{a:Act}(R:RegF P Q F ops a0 m)(h:InvF F ops a0 L a w)(hr:Qj .any ops L=[]):∀i,i<ops.size->on L i=true:=by
 intro i;induction i using Nat.strongRecOn with
 | ind i ih =>
  intro hi;have ho:ops[i]? = some ops[i]:=OJ _;cases hon:on L i with
  | true=>rfl
  | false =>
   have:i∈Qj .any ops L:=mem_ready.2 ⟨?_,_,ho,fun e he hb=>?_⟩
   ·rw[hr]at this;cases this
   ·unfold on at hon;rw[Ov,OJ (by rw[h.size];exact hi)]at hon⊢;exact hon
   ·have hlt:=(R.of ho).1 e he hb;exact ih e.on hlt (Nat.lt_trans hlt hi)
theorem sN{id:Nat}(F:Flow)(hm:P.follows .mixedOrders=true)(R:RegF P Q F ops a0 ops.size)(hB:∀b,F.B b w.drew)
 (hp:∀(V:Nat->Value) (w':World),(∀i,i<ops.size->F.kill i=[]->F.R i (V i) w')->(∀b,F.killB b=[]->F.B b w')->Q .normal (gP V ops.toList 0 a0) w'):(Qh id ops true).wp P Q a0 w:=by
 have key:∀(fuel:Nat) (L:Array Bool) (a:Act) (w:World),unl L=fuel->InvF F ops a0 L a w->wpAny P .any ops Q fuel L a w:=by
  intro fuel;induction fuel with
  | zero =>
   intro L a w hu hI;have hall:∀i,i<ops.size->on L i=true:=fun i hi=>qY hu i (by rw[hI.size];exact hi)
   refine⟨?_,hI.done R hall (fun V=>hp V w)⟩;apply Te.2;intro i hi;obtain⟨h1,o,ho,-⟩:=mem_ready.1 hi;have h2:=hall i (OH.1 ho).1;unfold on at h2;rw[Ov]at h1 h2;cases hh:L[i]? with
   | none=>rw[hh]at h1;cases h1
   | some b=>rw[hh]at h1 h2;rw[show b=false from h1]at h2;cases h2
  | succ fuel ih =>
   intro L a w hu hI;refine⟨fun hr=>hI.done R (hI.full R hr) (fun V=>hp V w),fun i hi=>?_⟩;obtain⟨h1,o,ho,hdep⟩:=mem_ready.1 hi;have hoff:on L i=false:=by
    unfold on;rw[Ov]at h1⊢;cases hh:L[i]? with
    | none=>rfl
    | some b=>rw[hh]at h1;exact h1
   exact wpOp_mono (fun a' w' hI'=>ih _ a' w' (by have:=vL h1;omega) hI') (Je R (OH.1 ho).1 (fun i hi=>by rw[<-hI.size];exact uN hi) ho hoff hdep hI)
 have hoff:∀i,on (Oj ops.size false) i=false:=fun i=>by
  unfold on;rw[Ov,QX];by_cases h:i<ops.size
  ·rw[if_pos h];rfl
  ·rw[if_neg h];rfl
 refine wp_region_any hm (key _ _ a0 _ ?_ ⟨Ou,(fun i o _ h=>by rw[hoff]at h;cases h),rfl,rfl,fun _ _=>rfl,⟨fun _=>undef,fun i d h=>(by rw[hoff]at h;cases h),fun i h=>(by rw[hoff]at h;cases h)⟩,fun b _=>hB b⟩);unfold unl;rw[TP,TV];simp
structure PreF(F:Flow)(ops:Array Oper)(a0:Act)(k:Nat)(o:Oper)(a:Act)(w:World):Prop where
 n:∀j d,iU o j=true->okK ops k (F.kill j)=true->eE ops j=some d->F.R j (a.eval (.tmp d)) w
 o:∀t,Cl ops k t=true->a.eval (.tmp t)=a0.eval (.tmp t)
 b:∀b,okK ops k (F.killB b)=true->F.B b w
def mO(P:Program)(Q:Exit->Act->World->Prop)(F:Flow)(ops:Array Oper)(a0:Act):Nat->List Oper->Prop
 | _,[]=>True
 | k,o :: r=>vG P Q F ops a0 k o/\mO P Q F ops a0 (k+1) r
theorem sX:∀(l:List Oper) (i:Nat),mO P Q F ops a0 i l->∀k o,l[k]? = some o->vG P Q F ops a0 (i+k) o
 | [],_,_,k,o,h=>by simp at h
 | x :: r,i,hc,0,o,h=>by
  obtain rfl:x=o:=by simpa using h
  exact hc.1
 | x :: r,i,hc,k+1,o,h=>by
  have:=sX r (i+1) hc.2 k o (by simpa using h);rwa[show i+1+k=i+(k+1) by omega]at this
theorem FQ(h:mO P Q F ops a0 0 ops.toList):∀k o,k<ops.size->ops[k]? = some o->vG P Q F ops a0 k o:=fun k o _ ho=>by
 have:=sX ops.toList 0 h k o (by rw[O7];exact ho);rwa[Om]at this
def evo(ev:Tmp->Value):Operand->Value
 | .tmp t=>ev t
 | .const v=>v
 | .global g=>.pointer (some ⟨g,0,none⟩)
 | .func f=>.func (.func f) #[] #[]
def t9(T:List Tmp)(o:Oper):Bool:=
 (match o.op with | .select _ _=>false|_=>true) && o.op.operands.all (fun x=>match x with | .tmp t=>T.contains t|_=>true)
theorem qN{a:Act}{o:Oper}(ev:Tmp->Value)(T:List Tmp)(h:t9 T o=true)(he:∀t∈T,a.eval (.tmp t)=ev t):execOp a.eval o=execOp (evo ev) o:=by
 simp only[t9,Ox]at h;refine execOp_congr o (fun cs b he=>?_) (fun x hx=>?_)
 ·rw[he]at h;exact absurd h.1 (by simp)
 ·have h1:=QA.1 h.2 x hx;cases x with
  | tmp t=>exact he t (by simpa using h1)
  | const v=>rfl
  | global g=>rfl
  | func f=>rfl
theorem Bh{k:Nat}{o:Oper}(h:∀(a:Act) (w:World),PreF F ops a0 k o a w->∃v w',(execOp a.eval o).run P w=.ok (.value v) w'/\F.E k w w'/\F.R k v w'):kX P Q F ops a0 k o:=by
 intro a w K h1 h2 h3 hK;obtain⟨v,w',hr,hE,hR⟩:=h a w ⟨h1,h2,h3⟩;unfold Qg;rw[hr];exact hK v w' hE hR
theorem kQ{k:Nat}{o:Oper}(t:Tmp)(h:∀(a:Act) (w:World),PreF F ops a0 k o a w->∃v w',(t9 [t] o=true)/\(execOp (evo fun _=>a.eval (.tmp t)) o).run P w=.ok (.value v) w'/\F.E k w w'/\F.R k v w'):kX P Q F ops a0 k o:=by
 refine Bh fun a w hp=>?_
 obtain⟨v,w',hs,hr,hE⟩:=h a w hp;refine⟨v,w',?_,hE⟩;rw[qN (fun _=>a.eval (.tmp t)) [t] hs (fun x hx=>by rw[show x=t by simpa using hx])];exact hr
theorem Cz{k:Nat}{o:Oper}(t:Tmp)(h:∀(a:Act) (w:World),PreF F ops a0 k o a w->∃f args,(t9 [t] o=true)/\(execOp (evo fun _=>a.eval (.tmp t)) o).run P w=.ok (.enter f args) w/\Calls P f args w (Ret fun e w'=>F.E k w w'/\F.R k e w')):kX P Q F ops a0 k o:=by
 intro a w K h1 h2 h3 hK;obtain⟨f,args,hs,hr,hc⟩:=h a w ⟨h1,h2,h3⟩;unfold Qg;rw[qN (fun _=>a.eval (.tmp t)) [t] hs (fun x hx=>by rw[show x=t by simpa using hx]),hr,Q9];refine hc.mono ?_;rintro e w' ⟨v,rfl,hE,hR⟩;exact hK _ _ hE hR
theorem wO{k:Nat}{o:Oper}(T:TypeId)(t:Tmp)(ho:o.op=.load T (.tmp t))(hu:(P.underlying T).map (·.isRow)=some true)
 (h:∀(a:Act) (w:World),PreF F ops a0 k o a w->∃g off cs,a.eval (.tmp t)=.pointer (some ⟨g,off,none⟩)/\w.rangeAt g off cs/\(P.info? T).map (·.size)=some cs.length/\F.E k w w/\F.R k (.agg cs.toArray) w):kX P Q F ops a0 k o:=by
 intro a w K h1 h2 h3 hK;obtain⟨g,off,cs,he,hr,hi,hE,hR⟩:=h a w ⟨h1,h2,h3⟩;obtain⟨d,hu,hd⟩:=Ol.1 hu;exact wp_load_mid T (.tmp t) ho g off he cs d hr hu hd hi (hK _ _ hE hR)
theorem FO{k:Nat}{o:Oper}(s u:Tmp)(t:TypeId)(ho:o.op=.call { callee:=.builtin .append,args:=#[.tmp s,.tmp u],argTypes:=#[t,t] })
 (h:∀(a:Act) (w:World),PreF F ops a0 k o a w->∃v w',(Qv #[t,t] o.type #[a.eval (.tmp s),a.eval (.tmp u)]).run P w=.ok v w'/\F.E k w w'/\F.R k v w'):kX P Q F ops a0 k o:=by
 intro a w K h1 h2 h3 hK;obtain⟨v,w',hr,hE,hR⟩:=h a w ⟨h1,h2,h3⟩;unfold Qg execOp;simp only[ho,resolve,invoke,builtin,OG,Sem.run_pure,Result.andThen_ok,List.map_toArray,Qu,List.map_nil,hr];exact hK _ _ hE hR
theorem DW(h:mO P Q F ops a0 0 (ops.toList.take m)):∀k o,k<m->ops[k]? = some o->vG P Q F ops a0 k o:=fun k o hk ho=>by
 have:=sX (ops.toList.take m) 0 h k o (by rw[PO,if_pos hk,O7];exact ho);rwa[Om]at this
theorem InvF.act{a:Act}(R:RegF P Q F ops a0 m)(h:InvF F ops a0 L a w)(hm:m<=ops.size)(hall:∀i,on L i=true↔i<m){V:Nat->Value}(hV1:∀i d,on L i=true->eE ops i=some d->a.tmps[d]? = some (V i)):a=gP V (ops.toList.take m) 0 a0:=by
 refine Act.ext' ?_ (by rw[kG];exact h.def');apply Uh;intro t;by_cases ht:∃(i:Nat) (o:Oper),i<m/\ops[i]? = some o/\o.dst=some t
 ·obtain⟨i,o,him,ho,hd⟩:=ht;rw[hV1 i t ((hall i).2 him) (by rw[gJ ho];exact hd)];rw[oV V (ops.toList.take m) 0 a0 i o t (by rw[PO,if_pos him,O7];exact ho) hd (fun j' o' hj' hd'=>((R.of ho).2 t hd).2 j' (by
   rw[PO]at hj';split at hj'
   ·rw[O7]at hj';rw[gJ hj'];exact hd'
   ·cases hj')) ((R.of ho).2 t hd).1,Om]
 ·rw[h.rest t (fun i hi hd=>?_),jI V (ops.toList.take m) 0 a0 t (fun o hm' hd=>?_)]
  ·obtain⟨i,hi⟩:=PZ hm';rw[PO]at hi;split at hi
   ·rename_i him
    rw[O7]at hi;exact ht ⟨i,o,him,hi,hd⟩
   ·cases hi
  ·unfold eE at hd;cases hx:ops[i]? with
   | none=>rw[hx]at hd;cases hd
   | some x=>rw[hx]at hd;exact ht ⟨i,x,(hall i).1 hi,hx,hd⟩
theorem DR{id:Nat}(F:Flow)(n:Nat)(hn:ops.size=n+1)(hd:(Pj n).all (fun j=>depOn ops n j || (Pj n).any (fun i=>depOn ops n i && depOn ops i j))=true)(hm:P.follows .mixedOrders=true)(R:RegF P Q F ops a0 n)(hB:∀b,F.B b w.drew)
 (hp:∀(V:Nat->Value) (w':World),(∀i,i<n->F.kill i=[]->F.R i (V i) w')->(∀b,F.killB b=[]->F.B b w')->wpList P ops Q (ops.toList.drop n) (gP V (ops.toList.take n) 0 a0) w'):(Qh id ops true).wp P Q a0 w:=by
 have hon':ops[n]? = some (ops[n]'(by omega)):=OJ _;have key:∀(fuel:Nat) (L:Array Bool) (a:Act) (w:World),unl L=fuel->on L n=false->InvF F ops a0 L a w->wpAny P .any ops Q fuel L a w:=by
  intro fuel;induction fuel with
  | zero =>
   intro L a w hu hoff hI;have:=qY hu n (by rw[hI.size];omega);rw[hoff]at this;cases this
  | succ fuel ih =>
   intro L a w hu hoff hI;refine⟨fun hr=>?_,fun i hi=>?_⟩
   ·have:=hI.full R hr n (by omega);rw[hoff]at this;cases this
   ·obtain⟨h1,o,ho,hdep⟩:=mem_ready.1 hi;have his:i<ops.size:=(OH.1 ho).1;have hoi:on L i=false:=by
     unfold on;rw[Ov]at h1⊢;cases hh:L[i]? with
     | none=>rfl
     | some b=>rw[hh]at h1;exact h1
    by_cases hin:i=n
    ·subst hin;have hall:∀j,on L j=true↔j<i:=fun j=>by
      constructor
      ·intro hj;have h2:j<ops.size:=by rw[<-hI.size];exact uN hj
       rcases Ru j i with h|h
       ·exact h
       ·obtain rfl:j=i:=by omega
        rw[hoff]at hj;cases hj
      ·intro hj;have hdir:∀j,depOn ops i j=true->on L j=true:=fun j h2=>by
        unfold depOn at h2;rw[ho]at h2;obtain⟨e,he,hb⟩:=QY.1 h2;simp only[Ox,beq_iff_eq]at hb;have:=hdep e he hb.1;rw[hb.2]at this;exact this
       have h2:=OP.1 hd j (PY.2 hj);rw[UQ]at h2;rcases h2 with h2|h2
       ·exact hdir j h2
       ·obtain⟨x,hx,h3⟩:=List.any_eq_true.1 h2;rw[Ox]at h3;have hxo:=hdir x h3.1;have hxs:x<ops.size:=by have:=PY.1 hx;omega
        have hox:ops[x]? = some ops[x]:=OJ hxs;have h4:=h3.2;unfold depOn at h4;rw[hox]at h4;exact FH (ho:=hox) hI h4 hxo
     obtain⟨V,hV1,hV2⟩:=hI.all;have ha:=hI.act R (by omega) hall hV1;have hkl:∀l:List Nat,l=[]->∀x∈l,on L x=false:=fun l hl x hx=>by rw[hl]at hx;cases hx
     have hfin:=hp V w (fun j hj hk=>hV2 j ((hall j).2 hj) (hkl _ hk)) (fun b hb=>hI.base b (hkl _ hb));have hdrop:ops.toList.drop i=[o]:=by
      have hlen:ops.toList.length=i+1:=by rw[Ot];exact hn
      rw[List.drop_eq_getElem_cons (by omega),List.drop_of_length_le (by omega)];have:ops.toList[i]? = some o:=by rw[O7];exact ho
      rw[OA (by omega)]at this;rw[OW.inj this]
     rw[hdrop,<-ha]at hfin;have hop:wpOp P ops Q i (fun a' w'=>Q .normal a' w') a w:=by
      unfold wpOp;rw[ho];exact hfin
     refine wpOp_mono (fun a' w' hq=>?_) hop;have hon2:∀j,j<ops.size->on (L.setIfInBounds i true) j=true:=fun j hj=>by
      rw[fL (by rw[hI.size];omega)];by_cases h:j<i
      ·rw[(hall j).2 h,QP]
      ·rw[show j=i by omega];simp
     have hr:Qj .any ops (L.setIfInBounds i true)=[]:=by
      apply Te.2;intro j hj;obtain⟨h1,o',ho',-⟩:=mem_ready.1 hj;have h2:=hon2 j (OH.1 ho').1;unfold on at h2;rw[Ov]at h1 h2;cases hh:(L.setIfInBounds i true)[j]? with
      | none=>rw[hh]at h1;cases h1
      | some b=>rw[hh]at h1 h2;rw[show b=false from h1]at h2;cases h2
     cases fuel with
     | zero=>exact⟨hr,hq⟩
     | succ f=>exact⟨fun _=>hq,fun j hj=>by rw[hr]at hj;cases hj⟩
    ·refine wpOp_mono (fun a' w' hI'=>ih _ a' w' (by have:=vL h1;omega) ?_ hI') (Je R (by omega) (fun j hj=>?_) ho hoi hdep hI)
     ·rw[fL (by rw[hI.size];exact his),hoff];simpa using hin
     ·have h2:j<ops.size:=by rw[<-hI.size];exact uN hj
      rcases Ru j n with h|h
      ·exact h
      ·obtain rfl:j=n:=by omega
       rw[hoff]at hj;cases hj
 have hoff:∀i,on (Oj ops.size false) i=false:=fun i=>by
  unfold on;rw[Ov,QX];by_cases h:i<ops.size
  ·rw[if_pos h];rfl
  ·rw[if_neg h];rfl
 refine wp_region_any hm (key _ _ a0 _ ?_ (hoff n) ⟨Ou,(fun i o _ h=>by rw[hoff]at h;cases h),rfl,rfl,fun _ _=>rfl,⟨fun _=>undef,fun i d h=>(by rw[hoff]at h;cases h),fun i h=>(by rw[hoff]at h;cases h)⟩,fun b _=>hB b⟩);unfold unl;rw[TP,TV];simp
end RG
section
open Go.RowKit Go.Sort Go.Deep
variable {P:Nat}[NeZero P]{N:Nat}
theorem LI{p:Option Addr}{n c:Nat}{x:UInt8}:encB x≠.slice p n c:=fun h=>by cases h
def El(n:Nat)(W:World)(x:Value)(b:Bs):Prop:=∃k c,x=.slice (some ⟨k,0,none⟩) n c/\n<=c/\b.size=n/\k<W.heap.size/\Holds encB W k 0 b
def isL(n:Nat)(W:World)(g:Nat):Prop:=∃p c,W.cell? ⟨g,0,none⟩=some (.slice p n c)
structure Gr(n:Nat)(v:Value)(W W':World):Prop where
 gr:W.grownBy W' v.ownBlock
 is:∀g,v.ownBlock=some g->isL n W g
theorem Gr.of{W W':World}{n:Nat}(h:Below W.heap.size W W'):Gr n (.slice none 0 0) W W':=
 ⟨⟨h.os,h.tape,h.output,h.size,fun k hk _=>h.block k hk⟩,fun g hg=>by cases hg⟩
theorem Gr.below{n:Nat}{v:Value}{w W W':World}{B:Nat}(h:Gr n v W W')(hb:Below B w W)(hB:B<=W.heap.size)(hv:∀g,v.ownBlock=some g->B<=g):Below B w W':=
 hb.grown h.gr hB (fun k hk=>hv k hk)
theorem Gr.block{n k:Nat}{v:Value}{W W':World}(h:Gr n v W W')(hk:k<W.heap.size)(hne:∀p c,W.cell? ⟨k,0,none⟩≠some (.slice p n c)):W'.heap[k]? = W.heap[k]? :=
 h.gr.block k hk fun e=>by
  obtain⟨p,c,hc⟩:=h.is k e.symm;exact hne p c hc
theorem Holds.kept{W W':World}{k:Nat}{b:Bs}(h:Holds encB W k 0 b)(e:W'.heap[k]? = W.heap[k]?):Holds encB W' k 0 b:=fun j hj=>by
 rw[OR (a:=⟨k,0+j,none⟩) e,P4 (a:=⟨k,0+j,none⟩) e];exact h j hj
theorem El.kept{m n:Nat}{v x:Value}{W W':World}{b:Bs}(h:El m W x b)(hm:0<m)(hg:Gr n v W W'):El m W' x b:=by
 obtain⟨k,c,rfl,h1,h2,h3,h4⟩:=h;refine⟨k,c,rfl,h1,h2,Oi h3 hg.gr.size,Holds.kept h4 (hg.block h3 fun p c' hc=>?_)⟩;have:=(h4 0 (by omega)).1;rw[Om,hc]at this;exact LI (OW.inj this).symm
theorem Row.kept{n k:Nat}{v:Value}{W W':World}{vs:List Value}(h:Row W k vs)(hg:Gr n v W W')(hne:∀p c,vs[0]?≠some (.slice p n c))(hl:0<vs.length):Row W' k vs:=by
 have e:=hg.block h.1 fun p c hc=>by
  have h0:=h.2.1 0 vs[0] (OA hl);rw[Om,hc]at h0;exact hne p c (by rw[OA hl,h0])
 refine⟨Oi h.1 hg.gr.size,fun j u hj=>?_,fun j hj=>?_⟩
 ·rw[OR (a:=⟨k,0+j,none⟩) e];exact h.2.1 j u hj
 ·rw[OR (a:=⟨k,0+j,none⟩) e,P4 (a:=⟨k,0+j,none⟩) e];exact h.2.2 j hj
structure Lo(n base:Nat)(W:World)(v:Value)(bs:List Bs):Prop where
 ex:∃xs:List Value,xs.length=bs.length/\W.ownsRow base 22 1 v bs.length xs/\∀(j:Nat) (x:Value) (b:Bs),xs[j]? = some x->bs[j]? = some b->El n W x b
 nil:bs=[]->v=.slice none 0 0
theorem Lo.begin(n base:Nat)(W:World):Lo n base W (.slice none 0 0) []:=⟨⟨[],rfl,SS _ _ _ _,fun j x b h=>by cases h⟩,fun _=>rfl⟩
theorem add0(g j:Nat):(⟨g,0,none⟩:Addr).add j=⟨g,j,none⟩:=by unfold Addr.add;split<;>simp_all
theorem Lo.isL{n base:Nat}{W:World}{v:Value}{bs:List Bs}(h:Lo n base W v bs){g:Nat}(hg:v.ownBlock=some g):isL n W g:=by
 obtain⟨xs,h1,h2,h3⟩:=h.ex;have hne:bs≠[]:=fun e=>by rw[h.nil e]at hg;cases hg
 cases bs with
 | nil=>exact absurd rfl hne
 | cons b r =>
  cases xs with
  | nil=>cases h1
  | cons x xr =>
   obtain⟨k,c,rfl,-⟩:=h3 0 x b rfl rfl;have:=h2.cells hg 0 _ rfl;rw[add0]at this;exact⟨_,_,this⟩
theorem Lo.lt{n base:Nat}{W:World}{v:Value}{bs:List Bs}(h:Lo n base W v bs):∀g,v.ownBlock=some g->base<=g/\g<W.heap.size:=by
 obtain⟨xs,h1,h2,h3⟩:=h.ex;exact h2.lt
theorem Lo.kept{m n base:Nat}{W W':World}{v v':Value}{bs:List Bs}(h:Lo m base W v bs)(hm:0<m)(hg:Gr n v' W W')(hne:m≠n):Lo m base W' v bs:=by
 have hL:=fun {g}=>h.isL (g:=g)
 obtain⟨xs,h1,h2,h3⟩:=h.ex;refine⟨⟨xs,h1,h2.kept hg.gr ?_,fun j x b hx hb=>(h3 j x b hx hb).kept hm hg⟩,h.nil⟩;cases hv:v.ownBlock with
 | none=>exact OQ rfl
 | some g =>
  refine OC fun e=>hne ?_
  obtain⟨p,c,hc⟩:=hL hv;obtain⟨p',c',hc'⟩:=hg.is g e.symm;rw[hc]at hc';injection hc' with hc'
  injection hc' with _ h5 _
theorem Mp:(prog.info? 22).map (fun i=>(i.size,i.bytes,i.zero.map fun z=>z.cells.size))=some (1,24,some 1):=by kernel_rfl
theorem Nk:prog.underlying 82=some (.slice 22):=by kernel_rfl
theorem Lo.app{n base g:Nat}{W:World}{v x:Value}{bs:List Bs}{b:Bs}(h:Lo n base W v bs)(hn:0<n)(hx:El n W x b)(hc:W.cell? ⟨g,0,none⟩=some x)(hk:bs.length<=1000000)(hb:base<=W.heap.size):
 ∃v' W',(Qv #[82,82] 82 #[v,.slice (some ⟨g,0,none⟩) 1 1]).run prog W=.ok v' W'/\Lo n base W' v' (bs++[b])/\Gr n v W W':=by
 obtain⟨i,hi,he⟩:=Ol.1 Mp;simp only[P3.injEq]at he;obtain⟨h1,h2,h3⟩:=he;obtain⟨z,hz,hz2⟩:=Ol.1 h3;obtain⟨xs,x1,x2,x3⟩:=h.ex;obtain⟨v',W',r1,r2,r3,r4⟩:=run_append_own (P:=prog) W base 82 82 22 i z 1 24 Nk hi hz h1 h2 hz2 (by decide) v bs.length xs x2 ⟨g,0,none⟩ 1 1 [x] rfl
  (fun j u hj=>by
   cases j with
   | zero =>
    obtain rfl:x=u:=by simpa using hj
    rw[add0];exact hc
   | succ j=>simp at hj) (fun u hu=>by
   obtain rfl:u=x:=by simpa using hu
   obtain⟨k,c,rfl,-⟩:=hx;rfl) (by unfold maxLen;omega) (by omega) hb
 have G:Gr n v W W':=⟨r3,fun g hg=>h.isL hg⟩
 refine⟨v',W',r1,⟨⟨xs++[x],by simp[x1],by rw[Oz];exact r2,fun j y c hy hcy=>?_⟩,fun e=>by simp at e⟩,G⟩;by_cases hj:j<bs.length
 ·rw[Pn (by omega)]at hy hcy;exact(x3 j y c hy hcy).kept hn G
 ·rw[List.getElem?_append_right (by omega)]at hy hcy;rw[x1]at hy;cases hjj:j-bs.length with
  | zero =>
   rw[hjj]at hy hcy;obtain rfl:x=y:=by simpa using hy
   obtain rfl:b=c:=by simpa using hcy
   exact hx.kept hn G
  | succ d=>rw[hjj]at hy;simp at hy
theorem Dp{a:Bs}(ha:a.size=33)(w:World):Calls prog 94 #[pvl a] w (Ret fun e w'=>Below w.heap.size w w'/\El 33 w' e a):=by
 have B1:=Hid.mk' (CJ ha w);obtain⟨w1,hw1⟩:∃w1,Hid (w.alloc (.cells (aD a).toArray 47)=w1):=⟨_,rfl⟩
 rw[hw1.out]at B1;have K:Hid (Row w1 w.heap.size (aD a)/\Below w.heap.size w w1):=by rw[<-hw1.out];exact⟨aO w _ _,aH w _⟩
 obtain⟨va,hva⟩:∃v,Hid (pvl a=v):=⟨_,rfl⟩
 have B1':Hid ((Instr.box 47 va).run prog w=.ok (.pointer (some ⟨w.heap.size,0,none⟩)) w1):=by rw[<-hva.out];exact B1
 rw[hva.out];have hs:=JX w.heap.size;clear B1 hw1;go_enter Tryz.func94,Tryz.ntmps94;go_wp2_with (first|(refine dB (u:=va) (v:=.pointer (some ⟨w.heap.size,0,none⟩)) (w':=w1) rfl 47 (.tmp 0) rfl ?_ ?_ ?_;rfl;exact B1'.out))
 go_ret;exact⟨_,rfl,K.out.2,w.heap.size,33,rfl,by omega,ha,K.out.1.1,row_holds K.out.1⟩
end
section
open Go.RowKit Go.Sort Go.Deep
variable {P:Nat}[NeZero P]{N:Nat}
def Bo(n B0:Nat)(W:World)(v:Value)(b:Bs):Prop:=∃k x,v=.slice (some ⟨k,0,none⟩) 1 1/\B0<=k/\k<W.heap.size/\W.cell? ⟨k,0,none⟩=some x/\El n W x b
theorem Bo.kept{m n B0:Nat}{W W':World}{v u:Value}{b:Bs}(h:Bo n B0 W v b)(hn:0<n)(hg:Gr m u W W')(hu:∀g,u.ownBlock=some g->g<B0):Bo n B0 W' v b:=by
 obtain⟨k,x,rfl,h1,h2,h3,h4⟩:=h;refine⟨k,x,rfl,h1,Oi h2 hg.gr.size,?_,h4.kept hn hg⟩;rw[OR (a:=⟨k,0,none⟩) (hg.gr.block k h2 fun e=>by have:=hu k e.symm;omega)];exact h3
def Tm(W:World)(q:Option Addr)(k:Nat)(ns:Nat->Nat)(az:Nat->Bs):Prop:=0<k->∃g,q=some ⟨g,0,none⟩/\g<W.heap.size/\∀j,j<k->W.rangeAt g (37*j) (wn (ns j)++aD (az j))
theorem Tm.kept{m k:Nat}{W W':World}{u:Value}{q:Option Addr}{ns:Nat->Nat}{az:Nat->Bs}(h:Tm W q k ns az)(hg:Gr m u W W'):Tm W' q k ns az:=fun hk=>by
 obtain⟨g,h1,h2,h3⟩:=h hk;refine⟨g,h1,Oi h2 hg.gr.size,fun j hj i v hv=>?_⟩;have e:=hg.block h2 fun p c hc=>by
  have h0:=h3 0 hk 0 _ (show(wn (ns 0)++aD (az 0))[0]? = some _ from rfl);rw[show 37*0+0=0 from rfl,hc]at h0;cases h0
 rw[OR (a:=⟨g,37*j+i,none⟩) e];exact h3 j hj i v hv
section
variable (w0:World) (v3 v4:Value) (k6 n B0 base:Nat) (p:Bs) (bs cs:List Bs) (q:Option Addr) (k:Nat) (ns:Nat->Nat) (az:Nat->Bs)
def PR:Nat->Value->World->Prop
 | 0,v,_=>v=v3
 | 1,v,_=>v=.pointer (some ⟨k6,0,none⟩)
 | 2,v,_=>v=nv n
 | 3,v,w=>El 32 w v (bx n)
 | 4,v,w=>Bo 32 B0 w v (bx n)
 | 5,v,w=>Lo 32 base w v (bs++[bx n])
 | 6,v,_=>v=v4
 | 7,v,_=>v=.pointer (some ⟨k6,4,none⟩)
 | 8,v,_=>v=pvl p
 | 9,v,w=>El 33 w v p
 | 10,v,w=>Bo 33 B0 w v p
 | 11,v,w=>Lo 33 base w v (cs++[p])
 | 12,v,w=>Lo 32 base w v (bs++[bx n])
 | 13,v,w=>Lo 33 base w v (cs++[p])
 | _,_,_=>True
def PBs:Nat->World->Prop
 | 0,w=>Row w k6 (wn n++aD p)
 | 1,w=>Lo 32 base w v3 bs
 | 2,w=>Lo 33 base w v4 cs
 | 3,w=>Below base w0 w/\base<=w.heap.size/\B0<=w.heap.size
 | 4,w=>Tm w q k ns az
 | 5,w=>Row w base z33
 | _,_=>True
def PE:Nat->World->World->Prop
 | 5=>Gr 32 v3
 | 11=>Gr 33 v4
 | _=>Gr 0 (.slice none 0 0)
def Pk1:Nat->List Nat
 | 4=>[5]
 | 10=>[11]
 | _=>[]
def Pk2:Nat->List Nat
 | 1=>[5]
 | 2=>[11]
 | _=>[]
def FP:RG.Flow:=⟨PR v3 v4 k6 n B0 base p bs cs,PBs w0 v3 v4 k6 n B0 base p bs cs q k ns az,PE v3 v4,Pk1,Pk2⟩
theorem Gj{i:Nat}{w w':World}(h:PE v3 v4 i w w'):∃m u,Gr m u w w'/\((i=5/\m=32/\u=v3)\/(i=11/\m=33/\u=v4)\/(i≠5/\i≠11/\m=0/\u=.slice none 0 0)):=by
 unfold PE at h;split at h
 ·exact⟨_,_,h,OQ ⟨rfl,rfl,rfl⟩⟩
 ·exact⟨_,_,h,OC (OQ ⟨rfl,rfl,rfl⟩)⟩
 ·rename_i h1 h2
  exact⟨_,_,h,OC (OC ⟨h1,h2,rfl,rfl⟩)⟩
variable (hv3:∀g,v3.ownBlock=some g->base<=g/\g<B0) (hv4:∀g,v4.ownBlock=some g->base<=g/\g<B0)
include hv3 hv4
theorem Gi{i m:Nat}{u:Value}(h:(i=5/\m=32/\u=v3)\/(i=11/\m=33/\u=v4)\/(i≠5/\i≠11/\m=0/\u=.slice none 0 0)):∀g,u.ownBlock=some g->base<=g/\g<B0:=by
 rcases h with⟨-,-,rfl⟩|⟨-,-,rfl⟩|⟨-,-,-,rfl⟩
 ·exact hv3
 ·exact hv4
 ·intro g hg;cases hg
theorem Ls(i j:Nat)(hj:j<14)(hij:i≠j)(hk:(Pk1 j).contains i=false)(h1:¬(j=12/\i=5))(h2:¬(j=13/\i=11))(v:Value)(w w':World)(hE:PE v3 v4 i w w')(hR:PR v3 v4 k6 n B0 base p bs cs j v w):PR v3 v4 k6 n B0 base p bs cs j v w':=by
 obtain⟨m,u,hg,hc⟩:=Gj v3 v4 hE;have hu:=Gi v3 v4 B0 base hv3 hv4 hc;have m32:m=32->i=5:=fun h=>by rcases hc with⟨h1,-⟩|⟨-,h2,-⟩|⟨-,-,h2,-⟩<;>omega
 have m33:m=33->i=11:=fun h=>by rcases hc with⟨-,h2,-⟩|⟨h1,-⟩|⟨-,-,h2,-⟩<;>omega
 match j,hj,hR with
 | 0,_,h=>exact h
 | 1,_,h=>exact h
 | 2,_,h=>exact h
 | 3,_,h=>exact El.kept h (by decide) hg
 | 4,_,h=>exact Bo.kept h (by decide) hg fun g hgg=>(hu g hgg).2
 | 5,_,h=>exact Lo.kept h (by decide) hg fun e=>hij (m32 e.symm)
 | 6,_,h=>exact h
 | 7,_,h=>exact h
 | 8,_,h=>exact h
 | 9,_,h=>exact El.kept h (by decide) hg
 | 10,_,h=>exact Bo.kept h (by decide) hg fun g hgg=>(hu g hgg).2
 | 11,_,h=>exact Lo.kept h (by decide) hg fun e=>hij (m33 e.symm)
 | 12,_,h=>exact Lo.kept h (by decide) hg fun e=>h1 ⟨rfl,m32 e.symm⟩
 | 13,_,h=>exact Lo.kept h (by decide) hg fun e=>h2 ⟨rfl,m33 e.symm⟩
 | _+14,hj,_=>omega
theorem I6(i b:Nat)(hk:(Pk2 b).contains i=false)(w w':World)(hE:PE v3 v4 i w w')(hR:PBs w0 v3 v4 k6 n B0 base p bs cs q k ns az b w):PBs w0 v3 v4 k6 n B0 base p bs cs q k ns az b w':=by
 obtain⟨m,u,hg,hc⟩:=Gj v3 v4 hE;have hu:=Gi v3 v4 B0 base hv3 hv4 hc;have m32:m=32->i=5:=fun h=>by rcases hc with⟨h1,-⟩|⟨-,h2,-⟩|⟨-,-,h2,-⟩<;>omega
 have m33:m=33->i=11:=fun h=>by rcases hc with⟨-,h2,-⟩|⟨h1,-⟩|⟨-,-,h2,-⟩<;>omega
 match b,hk,hR with
 | 0,_,h=>exact Row.kept h hg (fun p c e=>by cases e) (by rw[Oz];exact Oi (by decide) (RL 4 _))
 | 1,hk,h=>exact Lo.kept h (by decide) hg fun e=>by rw[m32 e.symm]at hk;cases hk
 | 2,hk,h=>exact Lo.kept h (by decide) hg fun e=>by rw[m33 e.symm]at hk;cases hk
 | 3,_,h=>exact⟨hg.below h.1 h.2.1 fun g hgg=>(hu g hgg).1,OM h.2.1 hg.gr.size,OM h.2.2 hg.gr.size⟩
 | 4,_,h=>exact Tm.kept h hg
 | 5,_,h=>exact Row.kept h hg (fun p c e=>by cases e) (by decide)
 | _+6,_,_=>trivial
end
end
section
open Go.RowKit Go.Sort Go.Deep
variable {P:Nat}[NeZero P]{N:Nat}
theorem Lo.drew{n base:Nat}{W:World}{v:Value}{bs:List Bs}(h:Lo n base W v bs):Lo n base W.drew v bs:=⟨h.ex,h.nil⟩
theorem SumR.all(C:Fld P)(O:Ord N){w w':World}{k:Nat}(hk:k<=512){ns:Nat->Nat}{X:Nat->EC.Pt P}(hn:∀j,j<k->ns j<N)(hX:∀j,j<k->EC.On (X j)){L M:Nat->Bs}(hL:∀j,j<k->L j=bx (ns j))(hM:∀j,j<k->M j=wr (X j)){e:Value}(h:SumR P N w k k L M e w'):
 I7 w (wr (EC.tot X k (fun j=>(ns j:Int)))) e w':=by
 have hq:∀j,j<k->rq N (L j)=some (ns j):=fun j hj=>by
  rw[hL j hj];have hb:beV (bx (ns j)).toList=ns j:=wT (Oi (hn j hj) O.le);unfold rq;rw[if_pos ⟨bM _,by rw[hb];exact hn j hj⟩,hb]
 have hr:∀j,j<k->∃p,rd P (M j)=some p/\pt p=X j:=fun j hj=>by rw[hM j hj];exact uD C (hX j hj)
 rcases h with⟨h,-⟩|⟨-,h,-⟩|⟨-,-,⟨⟨j,hj,hn'⟩,-⟩|⟨ns',hns,⟨⟨j,hj,hn'⟩,-⟩|⟨xs,ys,hxy,h⟩⟩⟩
 ·exact absurd rfl h
 ·omega
 ·rw[hq j hj]at hn';cases hn'
 ·obtain⟨p,hp,-⟩:=hr j hj;rw[hp]at hn';cases hn'
 ·have e1:∀j,j<k->ns' j=ns j:=fun j hj=>by
   have:=hns j hj;rw[hq j hj]at this;exact(OW.inj this).symm
  have hp:∀j,j<k->EC.Pair (xs j) (ys j) (X j)/\EC.On (X j):=fun j hj=>by
   obtain⟨p,hp,hpt⟩:=hr j hj;have h1:=hxy j hj;rw[hp]at h1;have h2:=OW.inj h1;have h3:=BV C hp;rw[hpt]at h3;rw[h2]at h3;exact h3
  have hJ:=xI C (ns:=ns') (xs:=xs) (ys:=ys) (p:=X) (N:=k) (fun i hi=>by rw[e1 i hi];exact Oi (hn i hi) O.le) (fun i hi=>(hp i hi).1) (fun i hi=>(hp i hi).2);have e2:EC.tot X k (fun j=>(ns' j:Int))=EC.tot X k (fun j=>(ns j:Int)):=EC.dF k fun j hj=>by rw[e1 j hj]
  rw[e2]at hJ;rw[<-CH C (hJ.pair C) hJ.2];exact h
structure Pz(w W:World)(q:Option Addr)(k i:Nat)(ns:Nat->Nat)(az:Nat->Bs)(s3 s4:Value):Prop where
 bl:Below w.heap.size w W
 l3:Lo 32 w.heap.size W s3 ((Pj i).map fun j=>bx (ns j))
 l4:Lo 33 w.heap.size W s4 ((Pj i).map az)
 tm:Tm W q k ns az
 r2:Row W w.heap.size z33
theorem El.of_made{w w':World}{k n:Nat}{b:Bs}(h:RG.Made w k (cb b) w')(hb:b.size=n):El n w' (.slice (some ⟨k,0,none⟩) n n) b:=⟨k,n,rfl,Oh _,hb,h.lt,cb_holds h.range h.there⟩
theorem Bo.of{n B0:Nat}{w:World}{x:Value}{b:Bs}(h:El n w x b)(hn:0<n)(hB:B0<=w.heap.size)(T:TypeId):Bo n B0 (w.alloc (.cells #[x] T)) (.slice (some ⟨w.heap.size,0,none⟩) 1 1) b:=
 ⟨w.heap.size,x,rfl,hB,by rw[Oo];omega,by rw[World.cell?_alloc_new];rfl,h.kept hn (Gr.of (n:=0) (aH w _))⟩
theorem Lo.args{n base:Nat}{W:World}{v:Value}{bs:List Bs}(h:Lo n base W v bs):∃q cap,v=.slice q bs.length cap/\(0<bs.length->∃g,q=some ⟨g,0,none⟩/\g<W.heap.size/\∀(j:Nat) (b:Bs),bs[j]? = some b->∃x,W.cell? ⟨g,j,none⟩=some x/\El n W x b):=by
 obtain⟨xs,h1,h2,h3⟩:=h.ex;have h4:=fun {g:Nat}=>h2.cells (g:=g)
 rcases h2.2 with⟨rfl,h0⟩|⟨g,cap,cur,rfl,-,hc,-⟩
 ·exact⟨none,0,by rw[h0],fun h=>by omega⟩
 ·refine⟨_,_,rfl,fun _=>⟨g,rfl,(OH.1 hc).1,fun j b hb=>?_⟩⟩;have hj:j<xs.length:=by rw[h1];exact(OE.1 hb).1
  have:=h4 (g:=g) rfl j xs[j] (OA hj);rw[add0]at this;exact⟨_,this,h3 j _ b (OA hj) hb⟩
theorem El.arg{W:World}{x:Value}{b:Bs}(h:El 32 W x b):Arg W x b:=by
 obtain⟨k,c,rfl,h1,h2,h3,h4⟩:=h;exact⟨_,_,_,rfl,h2,fun _=>⟨k,0,rfl,h1,h3,h4⟩⟩
theorem El.arg33{W:World}{x:Value}{b:Bs}(h:El 33 W x b):Arg33 W x b:=by
 obtain⟨k,c,rfl,h1,h2,h3,h4⟩:=h;exact⟨_,_,_,rfl,h2,fun _=>⟨k,0,rfl,h1,h3,h4⟩⟩
theorem Al(C:Fld P)(O:Ord N)(v:Value)(w:World)(k:Nat)(hk:k<=512)(ns:Nat->Nat)(X:Nat->EC.Pt P)(hn:∀j,j<k->ns j<N)(hX:∀j,j<k->EC.On (X j))
 (hmer:∀W,Below w.heap.size w W->Calls prog 93 #[v] W (Ret fun e w'=>Below W.heap.size W w'/\∃q cap,e=.slice q k cap/\Tm w' q k ns (fun j=>wr (X j)))) :
 Calls prog 39 #[v] w (Ret fun e w'=>Below w.heap.size w w'/\e=pvl (wr (EC.tot X k (fun j=>(ns j:Int))))):=by
 have HM:=Hid.mk' hmer;have HC:Hid (Fld P/\Ord N/\(∀j,j<k->ns j<N)/\∀j,j<k->EC.On (X j)):=⟨C,O,hn,hX⟩
 obtain⟨az,haz⟩:∃az:Nat->Bs,Hid ((fun j=>wr (X j))=az):=⟨_,rfl⟩
 have haz':Hid (∀j,az j=wr (X j)):=fun j=>by rw[<-haz.out]
 rw[haz.out]at HM;obtain⟨w1,hw1⟩:∃w1,Hid (w.alloc (.cells z33.toArray 47)=w1):=⟨_,rfl⟩
 have K1:Hid (Row w1 w.heap.size z33/\Below w.heap.size w w1):=by rw[<-hw1.out];exact⟨aO w _ _,aH w _⟩
 obtain⟨d,hd1,hd2⟩:=Ol.1 uCP;obtain⟨d',hd3,hd4⟩:=Ol.1 uT;have HD:Hid ((prog.underlying 47=some d/\d.isRow=true)/\prog.underlying 150=some d'/\d'.isRow=true):=⟨⟨hd1,hd2⟩,hd3,hd4⟩
 clear hd1 hd2 hd3 hd4 hmer hn hX haz C O;go_enter Tryz.func39,Tryz.ntmps39;go_wp2_with (refine bJ (v:=.pointer (some ⟨w.heap.size,0,none⟩)) (w':=w1) rfl (.alloc 47) rfl ?_ ?_;(rw[<-hw1.out];kernel_rfl))
 clear hw1;refine(HM.out w1 K1.out.2).mono ?_;rintro e w2 ⟨vv,rfl,hb2,q,cap,rfl,hT⟩;have K2:Hid (Pz w w2 q k 0 ns az (.slice none 0 0) (.slice none 0 0)):=⟨K1.out.2.trans (hb2.mono K1.out.2.size),Lo.begin _ _ _,Lo.begin _ _ _,hT,K1.out.1.below hb2⟩
 clear hb2 hT K1 HM;go_wp2_with fail
 go_loopg [3,4,12] k (fun m s3 s4 s12 W=>∃i:Nat,i+m=k/\s12=.int .i64 i/\Hid (Pz w W q k i ns az s3 s4))
 case atStart=>exact⟨0,by omega,rfl,K2⟩
 case round =>
  clear K2;obtain⟨i,hik,rfl,KM⟩:=hrel;by_cases hi:i<k
  ·have hi':(i:Int)<(k:Int):=by omega
   obtain⟨g,hq,hg,hr⟩:=KM.out.tm (by omega);subst hq;obtain⟨n,hne⟩:∃n,Hid (ns i=n):=⟨_,rfl⟩
   obtain⟨p,hpe⟩:∃p,Hid (az i=p):=⟨_,rfl⟩
   have B0:Hid (wr.rangeAt g (37*i) (wn n++aD p)):=by
    have h:=hr i hi;rw[hne.out,hpe.out]at h;exact h
   have hps:Hid (p.size=33):=by rw[<-hpe.out,haz'.out i];exact bO _
   have hnN:Hid (n<N):=by rw[<-hne.out];exact HC.out.2.2.1 i hi
   obtain⟨W1,hW1⟩:∃W1,Hid (wr.alloc (.cells zT.toArray 150)=W1):=⟨_,rfl⟩
   obtain⟨W2,hW2⟩:∃W2,Hid (W1.setCells wr.heap.size 0 (wn n++aD p)=W2):=⟨_,rfl⟩
   have hlen:(wn n++aD p).length=37:=by rw[Oz,aM hps.out];rfl
   have F1:Hid (Row W1 wr.heap.size zT/\Below wr.heap.size wr W1/\W1.heap.size=wr.heap.size+1):=by rw[<-hW1.out];exact⟨aO wr _ _,aH wr _,Oo _ _⟩
   have F2:Hid (Row W2 wr.heap.size (wn n++aD p)/\Below wr.heap.size wr W2):=by rw[<-hW2.out];exact⟨F1.out.1.put (by rw[hlen];rfl),RG.below_setCells (Oh _) _ _ _ F1.out.2.1⟩
   have HLT:Hid ((prog.info? 150).map (·.size)=some (wn n++aD p).length):=by show _=_;rw[hlen];exact iT
   have HLS:Hid ((prog.info? 150).map (·.size)=some (wn n++aD p).toArray.size/\W1.there wr.heap.size 0 (wn n++aD p).toArray.size):=by
    have e:(wn n++aD p).toArray.size=37:=by rw[O4];exact hlen
    rw[e];exact⟨iT,F1.out.1.2.2⟩
   have HAL:Hid ((wn n++aD p).toArray.all (·.oneCell')=true):=by
    show _=_;rw[QA];intro u hu;exact cells_one n p u (Sb.1 hu)
   have hix:=atT g 0 k cap i hi;obtain⟨vt,hvt⟩:∃v,Hid (O8 (wn n++aD p).toArray=v):=⟨_,rfl⟩
   have G2:Gr 0 (.slice none 0 0) wr W2:=Gr.of F2.out.2;have HB:Hid (∀b,PBs w u3 u4 wr.heap.size n W2.heap.size w.heap.size p ((Pj i).map fun j=>bx (ns j)) ((Pj i).map az) (some ⟨g,0,none⟩) k ns az b W2.drew):=fun b=>by
    match b with
    | 0=>exact F2.out.1
    | 1=>exact(KM.out.l3.kept (by decide) G2 (by decide)).drew
    | 2=>exact(KM.out.l4.kept (by decide) G2 (by decide)).drew
    | 3=>exact⟨(KM.out.bl.trans (F2.out.2.mono KM.out.bl.size)).drew,OM KM.out.bl.size F2.out.2.size,Oh _⟩
    | 4=>exact KM.out.tm.kept (W':=W2) G2
    | 5=>exact KM.out.r2.below (W':=W2) F2.out.2
    | _+6=>trivial
   have H3:Hid (∀g,u3.ownBlock=some g->w.heap.size<=g/\g<W2.heap.size):=fun g hg=>⟨(KM.out.l3.lt g hg).1,Oi (KM.out.l3.lt g hg).2 F2.out.2.size⟩
   have H4:Hid (∀g,u4.ownBlock=some g->w.heap.size<=g/\g<W2.heap.size):=fun g hg=>⟨(KM.out.l4.lt g hg).1,Oi (KM.out.l4.lt g hg).2 F2.out.2.size⟩
   have HG:=Hid.mk' hg;clear hlen hr G2 KM F2 hg;go_wp2_with (first|(refine wpList_load_mid rfl 150 _ rfl g (37*i) ?_ (wn n++aD p) d' ?_ ?_ ?_ ?_ ?_;rfl;exact B0.out;exact HD.out.2.1;exact HD.out.2.2;exact HLT.out;rw[hvt.out])|(refine bJ (v:=.pointer (some ⟨wr.heap.size,0,none⟩)) (w':=W1) rfl (.alloc 150) rfl ?_ ?_;(rw[<-hW1.out];kernel_rfl))|(refine wpList_store_mid rfl 150 _ _ rfl wr.heap.size 0 (wn n++aD p).toArray ?_ ?_ ?_ ?_ ?_ ?_;rfl;exact hvt.out.symm;exact HLS.out.2;exact HLS.out.1;exact HAL.out;rw[show(wn n++aD p).toArray.toList=wn n++aD p from rfl,hW2.out])|fail)
   refine RG.sN (FP w u3 u4 wr.heap.size n W2.heap.size w.heap.size p ((Pj i).map fun j=>bx (ns j)) ((Pj i).map az) (some ⟨g,0,none⟩) k ns az) (by kernel_rfl) ⟨by kernel_rfl,RG.FQ ?_,fun i' j hi0 hj hij hkl hdp=>Ls u3 u4 wr.heap.size n W2.heap.size w.heap.size p _ _ H3.out H4.out i' j hj hij hkl (fun h=>by rw[h.1,h.2]at hdp;exact absurd (show false=true from hdp.symm.trans (by kernel_rfl)) (by decide)) (fun h=>by rw[h.1,h.2]at hdp;exact absurd (show false=true from hdp.symm.trans (by kernel_rfl)) (by decide)),fun i' b _ hkl=>I6 w u3 u4 wr.heap.size n W2.heap.size w.heap.size p _ _ _ k ns az H3.out H4.out i' b hkl⟩ HB.out ?_
   ·have hb0:∀W:World,Gr 0 (.slice none 0 0) W W:=fun W=>Gr.of (Ow _ _)
    refine⟨RG.kQ 3 fun a W hp=>⟨a.eval (.tmp 3),W,by kernel_rfl,by kernel_rfl,hb0 W,hp.o 3 (by kernel_rfl)⟩,
     RG.kQ 6 fun a W hp=>⟨.pointer (some ⟨wr.heap.size,0,none⟩),W,by kernel_rfl,by rw[show a.eval (.tmp 6)=.pointer (some ⟨wr.heap.size,0,none⟩) from hp.o 6 (by kernel_rfl)];kernel_rfl,hb0 W,rfl⟩,
     RG.wO 43 17 rfl u40 fun a W hp=>⟨wr.heap.size,0,wn n,hp.n 1 17 (by kernel_rfl) (by kernel_rfl) (by kernel_rfl),dS (show Row W wr.heap.size (wn n++aD p) from hp.b 0 (by kernel_rfl)).2.1,i40,hb0 W,rfl⟩,
     RG.Cz 18 fun a W hp=>⟨24,#[nv n],by kernel_rfl,by rw[show a.eval (.tmp 18)=nv n from hp.n 2 18 (by kernel_rfl) (by kernel_rfl) (by kernel_rfl)];kernel_rfl,(jZ HC.out.2.1 hnN.out W).mono (by
      rintro e W' ⟨u,rfl,k',hm,rfl⟩;exact⟨_,rfl,Gr.of hm.bel,El.of_made hm (bM n)⟩)⟩,
     RG.kQ 19 fun a W hp=>⟨.slice (some ⟨W.heap.size,0,none⟩) 1 1,W.alloc (.cells #[a.eval (.tmp 19)] 22),by kernel_rfl,by
      obtain⟨k',c',he,-⟩:=show El 32 W (a.eval (.tmp 19)) (bx n) from hp.n 3 19 (by kernel_rfl) (by kernel_rfl) (by kernel_rfl)
      rw[he];kernel_rfl,Gr.of (aH W _),Bo.of (show El 32 W (a.eval (.tmp 19)) (bx n) from hp.n 3 19 (by kernel_rfl) (by kernel_rfl) (by kernel_rfl)) (by decide) (hp.b 3 (by kernel_rfl)).2.2 _⟩,
     RG.FO 16 20 82 rfl fun a W hp=>?_,
     RG.kQ 4 fun a W hp=>⟨a.eval (.tmp 4),W,by kernel_rfl,by kernel_rfl,hb0 W,hp.o 4 (by kernel_rfl)⟩,
     RG.kQ 6 fun a W hp=>⟨.pointer (some ⟨wr.heap.size,4,none⟩),W,by kernel_rfl,by rw[show a.eval (.tmp 6)=.pointer (some ⟨wr.heap.size,0,none⟩) from hp.o 6 (by kernel_rfl)];kernel_rfl,hb0 W,rfl⟩,
     RG.wO 47 23 rfl uCP fun a W hp=>⟨wr.heap.size,4,aD p,hp.n 7 23 (by kernel_rfl) (by kernel_rfl) (by kernel_rfl),eJ (xs:=wn n) (show Row W wr.heap.size (wn n++aD p) from hp.b 0 (by kernel_rfl)).2.1,by rw[aM hps.out];exact cK,hb0 W,rfl⟩,
     RG.Cz 24 fun a W hp=>⟨94,#[pvl p],by kernel_rfl,by rw[show a.eval (.tmp 24)=pvl p from hp.n 8 24 (by kernel_rfl) (by kernel_rfl) (by kernel_rfl)];kernel_rfl,(Dp hps.out W).mono (by
      rintro e W' ⟨u,rfl,hb,hE⟩;exact⟨_,rfl,Gr.of hb,hE⟩)⟩,
     RG.kQ 25 fun a W hp=>⟨.slice (some ⟨W.heap.size,0,none⟩) 1 1,W.alloc (.cells #[a.eval (.tmp 25)] 22),by kernel_rfl,by
      obtain⟨k',c',he,-⟩:=show El 33 W (a.eval (.tmp 25)) p from hp.n 9 25 (by kernel_rfl) (by kernel_rfl) (by kernel_rfl)
      rw[he];kernel_rfl,Gr.of (aH W _),Bo.of (show El 33 W (a.eval (.tmp 25)) p from hp.n 9 25 (by kernel_rfl) (by kernel_rfl) (by kernel_rfl)) (by decide) (hp.b 3 (by kernel_rfl)).2.2 _⟩,
     RG.FO 22 26 82 rfl fun a W hp=>?_,
     RG.kQ 21 fun a W hp=>⟨a.eval (.tmp 21),W,by kernel_rfl,by kernel_rfl,hb0 W,hp.n 5 21 (by kernel_rfl) (by kernel_rfl) (by kernel_rfl)⟩,
     RG.kQ 27 fun a W hp=>⟨a.eval (.tmp 27),W,by kernel_rfl,by kernel_rfl,hb0 W,hp.n 11 27 (by kernel_rfl) (by kernel_rfl) (by kernel_rfl)⟩,trivial⟩
    ·obtain⟨k',x,he,h1,h2,h3,h4⟩:=show Bo 32 W2.heap.size W (a.eval (.tmp 20)) (bx n) from hp.n 4 20 (by kernel_rfl) (by kernel_rfl) (by kernel_rfl)
     obtain⟨v',W',r1,r2,r3⟩:=Lo.app (show Lo 32 w.heap.size W u3 _ from hp.b 1 (by kernel_rfl)) (by decide) h4 h3 (by rw[OO,QI];omega) (hp.b 3 (by kernel_rfl)).2.1;refine⟨v',W',?_,r3,r2⟩;rw[he,show a.eval (.tmp 16)=u3 from hp.n 0 16 (by kernel_rfl) (by kernel_rfl) (by kernel_rfl)];exact r1
    ·obtain⟨k',x,he,h1,h2,h3,h4⟩:=show Bo 33 W2.heap.size W (a.eval (.tmp 26)) p from hp.n 10 26 (by kernel_rfl) (by kernel_rfl) (by kernel_rfl)
     obtain⟨v',W',r1,r2,r3⟩:=Lo.app (show Lo 33 w.heap.size W u4 _ from hp.b 2 (by kernel_rfl)) (by decide) h4 h3 (by rw[OO,QI];omega) (hp.b 3 (by kernel_rfl)).2.1;refine⟨v',W',?_,r3,r2⟩;rw[he,show a.eval (.tmp 22)=u4 from hp.n 6 22 (by kernel_rfl) (by kernel_rfl) (by kernel_rfl)];exact r1
   ·intro V w5 hR5 hB5;have KN:Hid (Pz w w5 (some ⟨g,0,none⟩) k (i+1) ns az (V 12) (V 13)):=by
     have h1:=hR5 12 (Qx (PH (by kernel_rfl))) rfl;have h2:=hR5 13 (Qx (PH (by kernel_rfl))) rfl;refine⟨(hB5 3 rfl).1,?_,?_,hB5 4 rfl,hB5 5 rfl⟩
     ·rw[Rp,Sy];show Lo 32 w.heap.size w5 (V 12) (_++[bx (ns i)]);rw[hne.out];exact h1
     ·rw[Rp,Sy];show Lo 33 w.heap.size w5 (V 13) (_++[az i]);rw[hpe.out];exact h2
    clear hR5 hB5 HB H3 H4;dsimp only[RG.gP,QL];generalize V 12=s3 at KN⊢;generalize V 13=s4 at KN⊢;go_wp2;go_roundg (gk-1)
    case measure=>omega
    case rel=>exact⟨i+1,by omega,rfl,KN⟩
  ·have hi':¬(i:Int)<(k:Int):=by omega
   obtain rfl:i=k:=by omega
   obtain⟨q3,c3,rfl,h3⟩:=KM.out.l3.args;obtain⟨q4,c4,rfl,h4⟩:=KM.out.l4.args;rw[OO,QI]at h3 h4;have HA:Hid (oH wr q3 i (fun j=>bx (ns j))):=fun h0=>by
    obtain⟨g,e1,e2,e3⟩:=h3 h0;refine⟨g,e1,e2,fun j hj=>?_⟩;obtain⟨x,x1,x2⟩:=e3 j (bx (ns j)) (by rw[PD,QT hj];rfl);exact⟨x,x1,x2.arg⟩
   have HP:Hid (ArgsPts wr q4 i az):=fun h0=>by
    obtain⟨g,e1,e2,e3⟩:=h4 h0;refine⟨g,e1,e2,fun j hj=>?_⟩;obtain⟨x,x1,x2⟩:=e3 j (az j) (by rw[PD,QT hj];rfl);exact⟨x,x1,x2.arg33⟩
   rw[OO,QI,OO,QI];have KB:Hid (Below w.heap.size w wr/\Row wr w.heap.size z33):=⟨KM.out.bl,KM.out.r2⟩
   clear h3 h4 KM;go_wp2_with fail
   refine(KR HC.out.1 HC.out.2.1.gap HC.out.2.1.le q3 q4 i c3 i c4 (fun j=>bx (ns j)) az wr HA.out HP.out).mono ?_;rintro e w6 ⟨vv,rfl,hb6,hS⟩;obtain⟨gs,cs,rfl,-,-,h6,h7⟩:=SumR.all HC.out.1 HC.out.2.1 (by omega) HC.out.2.2.1 HC.out.2.2.2 (fun _ _=>rfl) (fun j _=>haz'.out j) hS;obtain⟨T,hT⟩:∃T,Hid (Go.Proofs.YtmfodnkinmnopaaGreat.wr (EC.tot X i (fun j=>(ns j:Int)))=T):=⟨_,rfl⟩
   have hTs:T.size=33:=by rw[<-hT.out];exact bO _
   rw[hT.out]at h7;have K6:Hid (Row w6 w.heap.size z33/\Below w.heap.size w w6/\Row w6 gs (aD T)):=⟨KB.out.2.below hb6,KB.out.1.trans (hb6.mono KB.out.1.size),EE h7 h6⟩
   clear hb6 hS h6 h7 KB HA HP;have harr:=Jy gs cs;obtain⟨w7,hw7⟩:∃w7,Hid (w6.setCells w.heap.size 0 (aD T)=w7):=⟨_,rfl⟩
   have hlen:(aD T).length=33:=aM hTs;have K7:Hid (Row w7 w.heap.size (aD T)/\Below w.heap.size w w7):=by rw[<-hw7.out];exact⟨K6.out.1.put (by rw[hlen];rfl),RG.below_setCells (Oh _) _ _ _ K6.out.2.1⟩
   obtain⟨vt,hvt⟩:∃vt,Hid (O8 (aD T).toArray=vt):=⟨_,rfl⟩
   have HI:Hid ((prog.info? 47).map (·.size)=some (aD T).length/\w6.there w.heap.size 0 (aD T).toArray.size/\(prog.info? 47).map (·.size)=some (aD T).toArray.size):=by
    have e:(aD T).toArray.size=33:=by rw[O4];exact hlen
    refine⟨by rw[hlen];exact cK,by rw[e];exact K6.out.1.2.2,by rw[e];exact cK⟩
   clear hlen;go_wp2_with (first|(refine wpList_load_mid rfl 47 _ rfl gs 0 ?_ (aD T) d ?_ ?_ ?_ ?_ ?_;rfl;exact K6.out.2.2.2.1;exact HD.out.1.1;exact HD.out.1.2;exact HI.out.1;rw[hvt.out])|(refine wpList_store_mid rfl 47 _ _ rfl w.heap.size 0 (aD T).toArray ?_ ?_ ?_ ?_ ?_ ?_;rfl;exact hvt.out.symm;exact HI.out.2.1;exact HI.out.2.2;exact fD T;rw[show(aD T).toArray.toList=aD T from rfl,hw7.out]))
   refine bodyPost_ret (bF 2 47 rfl K7.out.1 rfl uCP HI.out.1) rfl ?_;exact⟨_,rfl,K7.out.2,by rw[hT.out];rfl⟩
theorem LD:prog.underlying 22=some (.slice 5):=by kernel_rfl
theorem LH:prog.underlying 3=some (.int .i64):=by kernel_rfl
theorem Jo:(prog.info? 5).map (fun i=>(i.size,i.bytes,i.zero.map fun z=>z.cells.size))=some (1,1,some 1):=by kernel_rfl
theorem atB(k o n c i:Nat)(hi:i<n)(w:World):(Py 82 (.slice (some ⟨k,o,none⟩) n c) (.int .i64 i)).run prog w=.ok (.pointer (some ⟨k,o+1*i,none⟩)) w:=by
 have h1:¬(i:Int)<0:=by omega
 have h2:(i:Int)<n:=by omega
 go_simp
theorem KO(n:Nat)(hn:n<=10000000)(w:World):Calls prog 69 #[.slice none 0 0,.int .i64 n] w (Ret fun e w'=>Below w.heap.size w w'/\w'.ownsRow w.heap.size 5 1 e 0 []):=by
 by_cases h0:n=0
 ·subst h0;go_enter Tryz.func69,Tryz.ntmps69;go_wp2;go_ret;exact⟨_,rfl,Ow _ _,SS _ _ _ _⟩
 ·obtain⟨i,hi,he⟩:=Ol.1 Jo;simp only[P3.injEq]at he;obtain⟨h1,h2,h3⟩:=he;obtain⟨z,hz,hz2⟩:=Ol.1 h3;have hr:=TJ (P:=prog) w 22 3 22 5 i z .i64 .i64 LD LH hi hz n (by omega) (by omega) (by omega) (by rw[h2];omega);have hcap:=grownCap_ge w n 0 5;have hcap2:=grownCap_le_maxLen w n 0 5 (by unfold maxLen;omega);have hcs:(Pu z.cells n++Pu z.cells (grownCap w n 0 5-n)).size=grownCap w n 0 5*1:=by rw[ON,size_zeroCells,size_zeroCells,hz2];omega
  generalize grownCap w n 0 5=cp at hr hcap hcap2 hcs;generalize Pu z.cells n++Pu z.cells (cp-n)=cur at hr hcs;obtain⟨w1,hw1⟩:∃w1,Hid (w.drew.alloc (.cells cur 5)=w1):=⟨_,rfl⟩
  rw[hw1.out]at hr;have HR:=Hid.mk' hr;have K:Hid (Below w.heap.size w w1/\w1.ownsRow w.heap.size 5 1 (.slice (some ⟨w.heap.size,0,none⟩) 0 cp) 0 []):=by
   rw[<-hw1.out];exact⟨(Ow _ _).drew.alloc (Oh _) _,Ue w.drew cur cp (Oh _) hcap2 hcs⟩
  clear hr hw1 hcs hi hz hz2 h1 h2 h3;have hn1:(0:Int)<(n:Int):=by omega
  have hn2:¬((n:Int)<0):=by omega
  have hw:OZ.wrap (n:Int)=n:=by rw[Rh];omega
  go_enter Tryz.func69,Tryz.ntmps69;go_wp2_with (at_builtin;refine Qt _ rfl _ _ _ _ rfl _ _ rfl rfl _ _ HR.out ?_)
  go_ret;exact⟨_,rfl,K.out.1,K.out.2⟩
def fM(L:Nat->Bs)(k:Nat):List UInt8:=(Pj k).flatMap fun j=>(L j).toList
theorem eM(L:Nat->Bs)(i:Nat):fM L (i+1)=fM L i++(L i).toList:=by
 unfold fM;rw[Rp,Rx];simp
theorem CC(L:Nat->Bs){k m:Nat}(hs:∀j,j<k->(L j).size<=m):∀i,i<=k->(fM L i).length<=m*i
 | 0,_=>Oh _
 | i+1,hi=>by
  have h1:=CC L hs i (by omega);have h2:=hs i (by omega);have e:(L i).toList.length=(L i).size:=rfl;rw[eM,Oz,e,SB];omega
theorem El.below{n B:Nat}{W W':World}{x:Value}{b:Bs}(h:El n W x b)(hb:Below B W W')(hB:W.heap.size<=B):El n W' x b:=by
 obtain⟨k,c,rfl,h1,h2,h3,h4⟩:=h;exact⟨k,c,rfl,h1,h2,Oi h3 hb.size,Holds.kept h4 (hb.block k (by omega))⟩
theorem Ij{base n m:Nat}{W:World}{v x:Value}{xs:List Value}{b:Bs}(hown:W.ownsRow base 5 1 v n xs)(hx:El m W x b)(hn:n+m<=100000000)(hb:base<=W.heap.size):
 ∃v' W',(Qv #[22,22] 22 #[v,x]).run prog W=.ok v' W'/\W'.ownsRow base 5 1 v' (n+m) (xs++cb b)/\W.grownBy W' v.ownBlock:=by
 obtain⟨i,hi,he⟩:=Ol.1 Jo;simp only[P3.injEq]at he;obtain⟨h1,h2,h3⟩:=he;obtain⟨z,hz,hz2⟩:=Ol.1 h3;obtain⟨k,c,rfl,e1,e2,e3,e4⟩:=hx;obtain⟨v',W',r1,r2,r3,-⟩:=run_append_own (P:=prog) W base 22 22 5 i z 1 1 LD hi hz h1 h2 hz2 (by decide) v n xs hown ⟨k,0,none⟩ m c (cb b) (by rw[lO,e2];omega)
  (fun j u hj=>by
   have:=(nV e4).1 j u hj;rw[Om]at this;rw[add0];exact this) (fun u hu=>by
   obtain⟨y,-,rfl⟩:=Pw.1 hu;rfl) (by unfold maxLen;omega) (by omega) hb
 exact⟨v',W',r1,r2,r3⟩
theorem Lg(L:Nat->Bs)(i:Nat):(fM L (i+1)).map encB=(fM L i).map encB++cb (L i):=by rw[eM,Sy];rfl
theorem FN(g k c:Nat)(L:Nat->Bs)(hk:k<=1000)(hs:∀j,j<k->(L j).size<=10000)(w:World)(hg:g<w.heap.size)(hL:∀j,j<k->∃x,w.cell? ⟨g,j,none⟩=some x/\El (L j).size w x (L j)):
 Calls prog 22 #[.slice (some ⟨g,0,none⟩) k c] w (Ret fun e w'=>Below w.heap.size w w'/\w'.ownsRow w.heap.size 5 1 e (fM L k).length ((fM L k).map encB)):=by
 have HL:=Hid.mk' hL;have HS:Hid (∀i,i<=k->(fM L i).length<=10000*i):=CC L hs;have HG:=Hid.mk' hg;clear hL hs hg;go_enter Tryz.func22,Tryz.ntmps22;go_wp2_with fail
 go_loopg [3,11] k (fun m s3 s11 W=>∃i:Nat,i+m=k/\s11=.int .i64 i/\s3=.int .i64 ((fM L i).length:Int)/\w=W)
 case atStart=>exact⟨0,by omega,rfl,rfl,rfl⟩
 case round =>
  obtain⟨i,hik,rfl,rfl,rfl⟩:=hrel;by_cases hi:i<k
  ·have hi':(i:Int)<(k:Int):=by omega
   obtain⟨x,hc,hE⟩:=HL.out i hi;obtain⟨kx,cx,rfl,h1,-⟩:=hE;have hix:=atB g 0 k c i hi;rw[show 0+1*i=i by omega]at hix;have hlen:(fM L (i+1)).length=(fM L i).length+(L i).size:=by rw[eM,Oz];rfl
   have hb1:=HS.out i (by omega);have hb2:=HS.out (i+1) (by omega);obtain⟨a,ha⟩:∃a,Hid ((fM L i).length=a):=⟨_,rfl⟩
   obtain⟨b,hb⟩:∃b,Hid ((L i).size=b):=⟨_,rfl⟩
   rw[ha.out]at hlen hb1;rw[hb.out]at hlen h1;rw[ha.out];have hwr:OZ.wrap ((a:Int)+(b:Int))=((a+b:Nat):Int):=by rw[Rh];omega
   have hng:¬(((a+b:Nat):Int)<0):=by omega
   rw[hb.out]at hc;go_wp2;go_roundg (gk-1)
   case measure=>omega
   case rel=>exact⟨i+1,by omega,rfl,by rw[hlen,U1],rfl⟩
  ·have hi':¬(i:Int)<(k:Int):=by omega
   obtain rfl:i=k:=by omega
   go_wp2_with fail
   refine(KO (fM L i).length (by have:=HS.out i (Oh _);omega) w).mono ?_;rintro e w1 ⟨v,rfl,hb1,ho1⟩;have K1:Hid (Below w.heap.size w w1/\w1.ownsRow w.heap.size 5 1 v (fM L 0).length ((fM L 0).map encB)):=⟨hb1,ho1⟩
   clear hb1 ho1;go_wp2_with fail
   go_loopg [6,27] i (fun m s6 s27 W=>∃j:Nat,j+m=i/\s27=.int .i64 j/\Hid (Below w.heap.size w W/\W.ownsRow w.heap.size 5 1 s6 (fM L j).length ((fM L j).map encB)))
   case atStart=>exact⟨0,by omega,rfl,K1⟩
   case round =>
    clear K1;obtain⟨j,hjk,rfl,KM⟩:=hrel;by_cases hj:j<i
    ·have hj':(j:Int)<(i:Int):=by omega
     obtain⟨x,hc0,hE0⟩:=HL.out j hj;have hc:wr.cell? ⟨g,j,none⟩=some x:=by rw[KM.out.1.cell (p:=⟨g,j,none⟩) HG.out];exact hc0
     have hE:=hE0.below KM.out.1 (Oh _);have hb2:=HS.out (j+1) (by omega);have hlen:(fM L (j+1)).length=(fM L j).length+(L j).size:=by rw[eM,Oz];rfl
     obtain⟨v',W',r1,r2,r3⟩:=Ij KM.out.2 hE (by omega) KM.out.1.size;rw[<-hlen,<-Lg]at r2;have KN:Hid (Below w.heap.size w W'/\W'.ownsRow w.heap.size 5 1 v' (fM L (j+1)).length ((fM L (j+1)).map encB)):=⟨KM.out.1.grown r3 KM.out.1.size (fun k hk=>(KM.out.2.lt k hk).1),r2⟩
     have HAP:=Hid.mk' r1;obtain⟨kx,cx,rfl,-⟩:=hE;have hix:=atB g 0 i c j hj;rw[show 0+1*j=j by omega]at hix;clear r1 r2 r3 hlen hb2 KM hE0 hc0;go_wp2_with (first|(refine mA (x:=u6) (y:=.slice (some ⟨kx,0,none⟩) (L j).size cx) (v:=v') (w':=W') rfl _ _ 22 rfl ?_ ?_ ?_ ?_;rfl;rfl;exact HAP.out)|fail)
     go_roundg (gk-1)
     case measure=>omega
     case rel=>exact⟨j+1,by omega,rfl,KN⟩
    ·have hj':¬(j:Int)<(i:Int):=by omega
     obtain rfl:j=i:=by omega
     go_wp2;go_ret;exact⟨_,rfl,KM.out.1,KM.out.2⟩
end
namespace RG
open Go Go.RowKit
variable {P:Program}{ops:Array Oper}{Q:Exit->Act->World->Prop}{w:World}{a0:Act}
def AllE(a:Act):List (Tmp × Value)->Prop
 | []=>True
 | x :: r=>a.eval (.tmp x.1)=x.2/\AllE a r
def evl(ps:List (Tmp × Value))(t:Tmp):Value:=match ps.find? (fun x=>x.1 == t) with|some x=>x.2|none=>undef
theorem AllE.mem{a:Act}:∀ {ps:List (Tmp × Value)},AllE a ps->∀x∈ps,a.eval (.tmp x.1)=x.2
 | [],_,x,hx=>by cases hx
 | y :: r,h,x,hx=>by
  rcases Pg.1 hx with rfl|hx
  ·exact h.1
  ·exact AllE.mem h.2 x hx
theorem AllE.ev{a:Act}{ps:List (Tmp × Value)}(h:AllE a ps):∀t∈ps.map (·.1),a.eval (.tmp t)=evl ps t:=fun t ht=>by
 obtain⟨x,hx,rfl⟩:=Pw.1 ht;unfold evl;cases hf:ps.find? (fun y=>y.1 == x.1) with
 | none =>
  have:=List.find?_eq_none.1 hf x hx;simp at this
 | some y =>
  have h1:=List.mem_of_find?_eq_some hf;have h2:y.1=x.1:=by simpa using List.find?_some hf
  have:=h.mem y h1;rw[h2]at this;exact this
structure Gw where
 R:Nat->Value->World->Prop
 B:World->Prop
 sR:∀i v w w',Below w.heap.size w w'->R i v w->R i v w'
 sB:∀w w',Below w.heap.size w w'->B w->B w'
def Gw.flow(G:Gw):Flow:=⟨G.R,fun _=>G.B,fun _ w w'=>Below w.heap.size w w',fun _=>[],fun _=>[]⟩
structure PreG(G:Gw)(ops:Array Oper)(a0:Act)(k:Nat)(o:Oper)(a:Act)(w:World):Prop where
 n:∀j d,iU o j=true->eE ops j=some d->G.R j (a.eval (.tmp d)) w
 o:∀t,Cl ops k t=true->a.eval (.tmp t)=a0.eval (.tmp t)
 b:G.B w
variable {G:Gw}
theorem vY{k:Nat}{o:Oper}{a:Act}(h:PreF G.flow ops a0 k o a w):PreG G ops a0 k o a w:=⟨fun j d hj hd=>h.n j d hj rfl hd,h.o,h.b 0 rfl⟩
theorem aY{k:Nat}{o:Oper}(h:∀(a:Act) (w:World),PreG G ops a0 k o a w->∃(ps:List (Tmp × Value)) (v:Value) (w':World),AllE a ps/\(t9 (ps.map (·.1)) o,(execOp (evo (evl ps)) o).run P w)=(true,.ok (.value v) w')/\Below w.heap.size w w'/\G.R k v w'):kX P Q G.flow ops a0 k o:=
 Bh fun a w hp=>by
  obtain⟨ps,v,w',he,hs,hE⟩:=h a w (vY hp);simp only[P3.injEq]at hs;refine⟨v,w',?_,hE⟩;rw[qN (evl ps) (ps.map (·.1)) hs.1 he.ev];exact hs.2
theorem b9{k:Nat}{o:Oper}(h:∀(a:Act) (w:World),PreG G ops a0 k o a w->∃(ps:List (Tmp × Value)) (f:FuncId) (args:Array Value),AllE a ps/\(t9 (ps.map (·.1)) o,(execOp (evo (evl ps)) o).run P w)=(true,.ok (.enter f args) w)/\Calls P f args w (Ret fun e w'=>Below w.heap.size w w'/\G.R k e w')):kX P Q G.flow ops a0 k o:=by
 intro a w K h1 h2 h3 hK;obtain⟨ps,f,args,he,hs,hc⟩:=h a w (vY ⟨h1,h2,h3⟩);simp only[P3.injEq]at hs;unfold Qg;rw[qN (evl ps) (ps.map (·.1)) hs.1 he.ev,hs.2,Q9];refine hc.mono ?_;rintro e w' ⟨v,rfl,hE,hR⟩;exact hK _ _ hE hR
theorem bU{k:Nat}{o:Oper}(T:TypeId)(t:Tmp)(ho:o.op=.load T (.tmp t))(hu:(P.underlying T).map (·.isRow)=some true)
 (h:∀(a:Act) (w:World),PreG G ops a0 k o a w->∃g off cs,a.eval (.tmp t)=.pointer (some ⟨g,off,none⟩)/\w.rangeAt g off cs/\(P.info? T).map (·.size)=some cs.length/\G.R k (.agg cs.toArray) w):kX P Q G.flow ops a0 k o:=
 wO T t ho hu fun a w hp=>by
  obtain⟨g,off,cs,h1,h2,h3,h4⟩:=h a w (vY hp);exact⟨g,off,cs,h1,h2,h3,Ow _ _,h4⟩
theorem KL{k:Nat}{o:Oper}(op:BinOp)(T T':TypeId)(t1 t2:Tmp)(ho:o.op=.binOp op T (.tmp t1) (.tmp t2) T')
 (h:∀(a:Act) (w:World),PreG G ops a0 k o a w->∃v1 v2 v,a.eval (.tmp t1)=v1/\a.eval (.tmp t2)=v2/\(eqGuard op T (.tmp t1) (.tmp t2) v1 v2).run P w=.ok () w/\(binOp op T v1 v2).run P w=.ok v w/\G.R k v w):kX P Q G.flow ops a0 k o:=
 Bh fun a w hp=>by
  obtain⟨v1,v2,v,h1,h2,hg,hb,hR⟩:=h a w (vY hp);refine⟨v,w,?_,Ow _ _,hR⟩;unfold execOp;rw[ho];dsimp only;rw[h1,h2,OG,OG,hg];dsimp only[Result.andThen];rw[hb];rfl
theorem Gw.reg{m:Nat}(hc:IQ ops a0.tmps.size=true)(h:mO P Q G.flow ops a0 0 (ops.toList.take m)):RegF P Q G.flow ops a0 m:=
 ⟨hc,DW h,fun i j _ _ _ _ _ v w w' hE hR=>G.sR j v w w' hE hR,fun i b _ _ w w' hE hB=>G.sB w w' hE hB⟩
theorem Gw.draws{id:Nat}(G:Gw)(hm:P.follows .mixedOrders=true)(hc:IQ ops a0.tmps.size=true)(h:mO P Q G.flow ops a0 0 (ops.toList.take ops.size))(hB:G.B w.drew)
 (hp:∀(V:Nat->Value) (w':World),(∀i,i<ops.size->G.R i (V i) w')->G.B w'->Q .normal (gP V ops.toList 0 a0) w'):(Qh id ops true).wp P Q a0 w:=
 sN G.flow hm (Gw.reg hc h) (fun _=>hB) fun V w' h1 h2=>hp V w' (fun i hi=>h1 i hi rfl) (h2 0 rfl)
theorem Gw.last{id:Nat}(G:Gw)(n:Nat)(hn:((ops.size == n+1) && (Pj n).all (fun j=>depOn ops n j || (Pj n).any (fun i=>depOn ops n i && depOn ops i j)))=true)(hm:P.follows .mixedOrders=true)(hc:IQ ops a0.tmps.size=true)(h:mO P Q G.flow ops a0 0 (ops.toList.take n))(hB:G.B w.drew)
 (hp:∀(V:Nat->Value) (w':World),(∀i,i<n->G.R i (V i) w')->G.B w'->wpList P ops Q (ops.toList.drop n) (gP V (ops.toList.take n) 0 a0) w'):(Qh id ops true).wp P Q a0 w:=by
 rw[Ox,beq_iff_eq]at hn;exact DR G.flow n hn.1 hn.2 hm (Gw.reg hc h) (fun _=>hB) fun V w' h1 h2=>hp V w' (fun i hi=>h1 i hi rfl) (h2 0 rfl)
end RG
section
open Go.RowKit Go.Sort Go.Deep
variable {P:Nat}[NeZero P]{N:Nat}
structure Kp(w:World)(W:World)(rs:List (Nat × List Value)):Prop where
 bl:Below w.heap.size w W
 rw:∀x∈rs,Row W x.1 x.2
theorem Kp.grow{w W W':World}{rs:List (Nat × List Value)}(h:Kp w W rs)(hb:Below W.heap.size W W'):Kp w W' rs:=⟨h.bl.trans (hb.mono h.bl.size),fun x hx=>(h.rw x hx).below hb⟩
theorem Kp.drew{w W:World}{rs:List (Nat × List Value)}(h:Kp w W rs):Kp w W.drew rs:=⟨h.bl.drew,h.rw⟩
theorem Kp.at{w W:World}{rs:List (Nat × List Value)}(h:Kp w W rs){k:Nat}{c:List Value}(i:Nat)(hi:rs[i]? = some (k,c)):Row W k c:=h.rw _ (List.mem_of_getElem? hi)
theorem Kp.put{w W:World}{rs:List (Nat × List Value)}{k:Nat}{old new:List Value}(h:Kp w W rs)(hr:Row W k old)(hl:new.length=old.length)(hk:w.heap.size<=k)(hne:∀x∈rs,x.1≠k):Kp w (W.setCells k 0 new) ((k,new) :: rs):=
 ⟨RG.below_setCells hk _ _ _ h.bl,fun x hx=>by
  rcases Pg.1 hx with rfl|hx
  ·exact hr.put hl
  ·exact(h.rw x hx).other (hne x hx)⟩
def Nw(B:Nat)(c:List Value)(v:Value)(W:World):Prop:=∃k,v=.pointer (some ⟨k,0,none⟩)/\B<=k/\Row W k c
theorem Nw.grow{B:Nat}{c:List Value}{v:Value}{W W':World}(h:Nw B c v W)(hb:Below W.heap.size W W'):Nw B c v W':=by
 obtain⟨k,h1,h2,h3⟩:=h;exact⟨k,h1,h2,h3.below hb⟩
section
variable (w:World) (k6 k8 k9 k10 x kk c z B0:Nat) (A F:Bs) (v1:Value)
def Two(v:Value)(W:World):Prop:=∃k y,v=.slice (some ⟨k,0,none⟩) 2 2/\k<W.heap.size/\W.cell? ⟨k,0,none⟩=some (.slice (some ⟨k9,0,none⟩) 33 33)/\W.cell? ⟨k,1,none⟩=some y/\El 32 W y (bx z)
end
end
section
open Go.RowKit Go.Sort Go.Deep
variable {P:Nat}[NeZero P]{N:Nat}
theorem xK{w:World}{g o:Nat}{v:Value}{cur:Array Value}{e:TypeId}{z:Nat × Nat}(h:w.heap[g]? = some (.cells cur e z)):∃cur2:Array Value,(w.setCell ⟨g,o,none⟩ v).heap[g]? = some (.cells cur2 e z)/\cur2.size=cur.size:=by
 have hlt:g<w.heap.size:=(OH.1 h).1;refine⟨cur.setIfInBounds o v,?_,O6 ..⟩;have h2:w.heap[g]=.cells cur e z:=by rw[OJ hlt]at h;exact OW.inj h
 simp[World.setCell,Array.getElem_modify,hlt,h2]
theorem mU{g:Nat}{e:TypeId}{z:Nat × Nat}:∀(vs:List Value) (o:Nat) (w:World) (cur:Array Value),w.heap[g]? = some (.cells cur e z)->∃cur2:Array Value,(w.setCells g o vs).heap[g]? = some (.cells cur2 e z)/\cur2.size=cur.size
 | [],_,_,cur,h=>⟨cur,h,rfl⟩
 | v :: r,o,w,cur,h=>by
  obtain⟨c1,h1,h2⟩:=xK (o:=o) (v:=v) h;obtain⟨c2,h3,h4⟩:=mU r (o+1) _ c1 h1;exact⟨c2,h3,h4.trans h2⟩
theorem EY{W:World}{base n s g o cap:Nat}{e:TypeId}{xs vs:List Value}(h:W.ownsRow base e s (.slice (some ⟨g,0,none⟩) n cap) n xs)(hl:o+vs.length<=n*s):(W.setCells g o vs).ownsRow base e s (.slice (some ⟨g,0,none⟩) n cap) n (RG.rep xs o vs):=by
 have hx:o+vs.length<=xs.length:=by rw[h.1];exact hl
 refine⟨by rw[RG.cH hx];exact h.1,?_⟩;rcases h.2 with⟨h1,-⟩|⟨g',cap',cur,h1,h2,h3,h4,h5,h6,h7⟩
 ·cases h1
 ·injection h1 with e1 e2 e3
  injection e1 with e1
  injection e1 with e1
  subst e1;subst e3;obtain⟨c2,k1,k2⟩:=mU vs o W cur h3;refine OC ⟨g,cap,c2,rfl,h2,k1,h4,h5,by rw[k2];exact h6,?_⟩;have hcs:n*s<=cur.size:=by rw[h6];exact Qw s h4
  apply Sg;intro i;rw[RG.rep_at hx,PO,<-h7];have c1:∀i,W.cell? ⟨g,i,none⟩=cur[i]?:=fun i=>cell_of_row W g i cur e (0,0) h3
  have c3:(W.setCells g o vs).cell? ⟨g,i,none⟩=c2[i]?:=cell_of_row _ g i c2 e (0,0) k1;by_cases hi:i<n*s
  ·rw[if_pos hi];by_cases hin:o<=i/\i<o+vs.length
   ·rw[if_pos hin];have hj:i-o<vs.length:=by omega
    have:=World.cell?_setCells_in g vs o W (fun j hj=>by rw[c1 (o+j),OJ (by omega)];rfl) (i-o) hj;rw[show o+(i-o)=i by omega,c3]at this;rw[O7,this,OA hj]
   ·rw[if_neg hin,PO,if_pos hi,O7,O7,<-c3,<-c1 i];exact World.cell?_setCells_out g vs o W ⟨g,i,none⟩ (fun _ _=>by show i<o\/o+vs.length<=i;omega)
  ·rw[if_neg hi,if_neg (by omega),PO,if_neg hi]
theorem Hg{xs ys vs:List Value}{o:Nat}:RG.rep (xs++ys) (xs.length+o) vs=xs++RG.rep ys o vs:=by
 unfold RG.rep;rw[List.take_length_add_append,Nat.add_assoc,List.drop_length_add_append,List.append_assoc]
theorem lC{n:Nat}{p:Bs}(hp:p.size=33):(wn n++aD p).length=37:=by rw[Oz,aM hp];rfl
theorem dV(x:Nat × Bs)(r:List (Nat × Bs)):aZ (x :: r)=(wn x.1++aD x.2)++aZ r:=by unfold aZ;rw[Td]
theorem tA(s:Nat):∀(l:List (Nat × Bs)) (j:Nat) (hj:j<l.length),(∀x∈l.map (·.2),x.size=33)->aZ (l.set j (s,(l[j]).2))=RG.rep (aZ l) (37*j) (wn s)
 | [],j,hj,_=>by cases hj
 | x :: r,0,_,_=>by
  show aZ ((s,x.2) :: r)=_;rw[dV,dV];rfl
 | x :: r,j+1,hj,hs=>by
  have hx:=lC (n:=x.1) (hs x.2 (by simp));show aZ (x :: r.set j (s,(r[j]'(by simpa using hj)).2))=_;rw[dV,dV,tA s r j (by simpa using hj) (fun y hy=>hs y (OU _ hy)),show 37*(j+1)=(wn x.1++aD x.2).length+37*j by rw[hx];omega,Hg]
theorem at?_some{p:Bs}:∀ {l:List (Nat × Bs)}{i j:Nat},at? p (l.map (·.2)) i=some j->i<=j/\∃h:j-i<l.length,(l[j-i]).2=p/\∀n,dR N l n p=l.set (j-i) (sPl N (l[j-i]).1 n,p)
 | [],i,j,h=>by cases h
 | (s,q) :: r,i,j,h=>by
  rw[Qu]at h;unfold at? at h;by_cases hq:p=q
  ·rw[if_pos hq]at h;obtain rfl:=OW.inj h;refine⟨Oh _,by simp,?_,fun n=>?_⟩
   ·simp[hq]
   ·unfold dR;rw[if_pos hq];simp[hq]
  ·rw[if_neg hq]at h;obtain⟨h1,h2,h3,h4⟩:=at?_some h;have e:j-i=(j-(i+1))+1:=by omega
   refine⟨by omega,by simp;omega,?_,fun n=>?_⟩
   ·simp only[e,TR];exact h3
   ·unfold dR;rw[if_neg hq,h4 n];simp only[e,TR,Pd]
theorem Gd{n:Nat}{p:Bs}{l:List (Nat × Bs)}{j:Nat}(h:at? p (l.map (·.2)) 0=some j):(dR N l n p).map (·.2)=l.map (·.2)/\(dR N l n p).length=l.length:=by
 obtain⟨-,h2,h3,h4⟩:=at?_some (N:=N) h;rw[h4 n];refine⟨?_,List.length_set ..⟩;rw[List.map_set];apply Sg;intro i;rw[List.getElem?_set];by_cases hi:j-0=i
 ·subst hi;rw[if_pos rfl,if_pos (by rw[OO];exact h2),PD,OA h2];exact congrArg some h3.symm
 ·rw[if_neg hi]
theorem Mx.again{w W:World}{m g cap:Nat}{l:List (Nat × Bs)}{p:Bs}{j:Nat}(h:Mx w W m l (.slice (some ⟨g,0,none⟩) l.length cap))(hs:∀x∈l.map (·.2),x.size=33)(hj:at? p (l.map (·.2)) 0=some j)(hl:j<l.length)(n:Nat):
 Mx w (W.setCells g (37*j) (wn (sPl N (l[j]).1 n))) m (dR N l n p) (.slice (some ⟨g,0,none⟩) l.length cap):=by
 have hne:=h.own_ne (g:=g) rfl;obtain⟨e1,e2⟩:=Gd (N:=N) (n:=n) hj;refine⟨RG.below_setCells hne.2.1 _ _ _ h.bl,?_,h.lm,?_⟩
 ·rw[RG.cN _ _ _ _ _ (VI hne.1),e1,e2];exact h.mp
 ·obtain⟨-,h2,h3,h4⟩:=at?_some (N:=N) hj;have e3:dR N l n p=l.set j (sPl N (l[j]).1 n,(l[j]).2):=by rw[h4 n];simp only[So]at h3⊢;rw[h3]
  rw[e2,e3,tA _ l j hl hs];exact EY h.ow (by show 37*j+4<=_;omega)
theorem AS(O:Ord N)(ns:Nat->Nat)(az:Nat->Bs){k:Nat}(hn:∀j,j<k->ns j<N):∀i,i<=k->∀x∈mrg N ns az i,x.1<N
 | 0,_=>fun x hx=>by cases hx
 | i+1,hi=>by
  have ih:=AS O ns az hn i (by omega);have h:∀(l:List (Nat × Bs)) n p,n<N->(∀x∈l,x.1<N)->∀x∈dR N l n p,x.1<N:=by
   intro l n p hp;induction l with
   | nil=>intro _ x hx;simp[dR]at hx;rw[hx];exact hp
   | cons y r ihr =>
    intro hl x hx;unfold dR at hx;split at hx
    ·rcases Pg.1 hx with rfl|hx
     ·exact Qf _ O.pos
     ·exact hl x (OU _ hx)
    ·rcases Pg.1 hx with rfl|hx
     ·exact hl _ O5
     ·exact ihr (fun z hz=>hl z (OU _ hz)) x hx
  exact h _ _ _ (hn i (by omega)) ih
end
section
open Go.RowKit Go.Sort Go.Deep
variable {N:Nat}
section
variable (w:World) (m g4 cap k6 j s n z:Nat) (l:List (Nat × Bs)) (p:Bs)
def Ra:Nat->Value->World->Prop
 | 0,v,_=>v=.slice (some ⟨g4,0,none⟩) l.length cap
 | 1,v,_=>v=.int .i64 j
 | 2,v,_=>v=.slice (some ⟨g4,0,none⟩) l.length cap
 | 3,v,_=>v=.int .i64 j
 | 4,v,_=>v=.pointer (some ⟨g4,0+37*j,none⟩)
 | 5,v,_=>v=.pointer (some ⟨g4,0+37*j,none⟩)
 | 6,v,_=>v=nv s
 | 7,v,_=>v=.pointer (some ⟨k6,0,none⟩)
 | 8,v,_=>v=nv n
 | 9,v,_=>v=nv z
 | 10,v,_=>v=.pointer (some ⟨g4,0+37*j,none⟩)
 | 11,v,_=>v=.pointer (some ⟨g4,0+37*j,none⟩)
 | _,_,_=>True
theorem Lr{i:Nat}{v:Value}{W W':World}(h:Ra g4 cap k6 j s n z l i v W):Ra g4 cap k6 j s n z l i v W':=by
 match i,h with
 | 0,h=>exact h
 | 1,h=>exact h
 | 2,h=>exact h
 | 3,h=>exact h
 | 4,h=>exact h
 | 5,h=>exact h
 | 6,h=>exact h
 | 7,h=>exact h
 | 8,h=>exact h
 | 9,h=>exact h
 | 10,h=>exact h
 | 11,h=>exact h
 | _+12,_=>trivial
def Ga:RG.Gw:=⟨Ra g4 cap k6 j s n z l,fun W=>Mx w W m l (.slice (some ⟨g4,0,none⟩) l.length cap)/\Row W k6 (wn n++aD p),fun _ _ _ _ _ h=>Lr g4 cap k6 j s n z l h,fun _ _ hb h=>⟨h.1.kept hb,h.2.below hb⟩⟩
end
theorem range_front'{W:World}{k o:Nat}{xs ys:List Value}(h:W.rangeAt k o (xs++ys)):W.rangeAt k o xs:=fun j v hj=>h j v (by rw[Pn (OE.1 hj).1];exact hj)
theorem Mx.drew{w W:World}{m:Nat}{l:List (Nat × Bs)}{v:Value}(h:Mx w W m l v):Mx w W.drew m l v:=⟨h.bl.drew,h.mp,h.lm,h.ow⟩
theorem Fe(O:Ord N)(R:Value->World->Prop)(g k c:Nat)(hk:k<=1000)(ns:Nat->Nat)(az:Nat->Bs)(ha:∀j,j<k->(az j).size=33)(hn:∀j,j<k->ns j<N)(w:World)(hg:g<w.heap.size)(hr:∀j,j<k->w.rangeAt g (37*j) (wn (ns j)++aD (az j)))
 (hdel:∀W v,Mx w W w.heap.size (mrg N ns az k) v->Calls prog 143 #[v,.func (.func 144) #[] #[]] W (Ret R)) :
 Calls prog 93 #[.slice (some ⟨g,0,none⟩) k c] w (Ret R):=by
 have HDEL:=Hid.mk' hdel;clear hdel;have hmm:(Instr.makeMap 210 none).run prog w=.ok (.map (some w.heap.size)) (w.alloc (.map #[] 0)):=by kernel_rfl
 obtain⟨w1,hw1⟩:∃w1,Hid (w.alloc (.map #[] 0)=w1):=⟨_,rfl⟩
 rw[hw1.out]at hmm;have M1:Hid (Mx w w1 w.heap.size (mrg N ns az 0) (.slice none 0 0)):=by
  rw[<-hw1.out];exact⟨aH w _,by show(w.heap.push (.map #[] 0))[w.heap.size]? = _;rw[Array.getElem?_push_size];rfl,Oh _,rfl,OQ ⟨rfl,rfl⟩⟩
 have HH:Hid (Ord N/\(∀j,j<k->(az j).size=33)/\(∀i,i<k->ns i<N)/\g<w.heap.size/\∀j,j<k->w.rangeAt g (37*j) (wn (ns j)++aD (az j))):=⟨O,ha,hn,hg,hr⟩
 obtain⟨d,hd1,hd2⟩:=Ol.1 uCP;obtain⟨d',hd3,hd4⟩:=Ol.1 uT;have HD:Hid ((prog.underlying 47=some d/\d.isRow=true)/\prog.underlying 150=some d'/\d'.isRow=true):=⟨⟨hd1,hd2⟩,hd3,hd4⟩
 clear hd1 hd2 hd3 hd4 hw1 ha hn hg hr O;go_enter Tryz.func93,Tryz.ntmps93;go_wp2;clear hmm;go_loopg [4,12] k (fun q s4 s12 W=>∃i:Nat,i+q=k/\s12=.int .i64 i/\Hid (Mx w W w.heap.size (mrg N ns az i) s4))
 case atStart=>exact⟨0,by omega,rfl,M1⟩
 case round =>
  clear M1;obtain⟨i,hik,rfl,KM⟩:=hrel;by_cases hi:i<k
  ·have hi':(i:Int)<(k:Int):=by omega
   obtain⟨n,hne⟩:∃n,Hid (ns i=n):=⟨_,rfl⟩
   obtain⟨p,hpe⟩:∃p,Hid (az i=p):=⟨_,rfl⟩
   obtain⟨l,hl⟩:∃l,Hid (mrg N ns az i=l):=⟨_,rfl⟩
   rw[hl.out]at KM;have hps:Hid (p.size=33):=by have:=HH.out.2.1 i hi;rw[hpe.out]at this;exact this
   have hll:Hid (l.length<=i):=by have:=wG (N:=N) ns az i;rw[hl.out]at this;exact this
   obtain⟨q,cap,rfl⟩:=Dv KM.out.ow;obtain⟨W1,hW1⟩:∃W1,Hid (wr.alloc (.cells zT.toArray 150)=W1):=⟨_,rfl⟩
   obtain⟨W2,hW2⟩:∃W2,Hid (W1.setCells wr.heap.size 0 (wn n++aD p)=W2):=⟨_,rfl⟩
   have hlen:(wn n++aD p).length=37:=by rw[Oz,aM hps.out];rfl
   have F1:Hid (Row W1 wr.heap.size zT/\Below wr.heap.size wr W1/\W1.heap.size=wr.heap.size+1):=by rw[<-hW1.out];exact⟨aO wr _ _,aH wr _,Oo _ _⟩
   have F2:Hid (Row W2 wr.heap.size (wn n++aD p)/\Below wr.heap.size wr W2/\W2.heap.size=wr.heap.size+1):=by rw[<-hW2.out];exact⟨F1.out.1.put (by rw[hlen];rfl),RG.below_setCells (Oh _) _ _ _ F1.out.2.1,by rw[RG.setCells_size];exact F1.out.2.2⟩
   have K2:Hid (Mx w W2 w.heap.size l (.slice q l.length cap)):=KM.out.kept F2.out.2.1;have hsz:∀x∈l.map (·.2),x.size=33:=by have:=rZ (N:=N) ns az HH.out.2.1 i (by omega);rw[hl.out]at this;exact this
   cases hat:at? p (l.map (·.2)) 0 with
   | none =>
    have hnone:Hid (at? p (l.map (·.2)) 0=none):=hat;have B1:=Hid.mk' (yN hps.out (l.map (·.2)) hsz w.heap.size l.length W2 K2.out.mp);rw[hnone.out]at B1;have B2:Hid ((Instr.mapUpdate 210 (.map (some w.heap.size)) (.agg (aD p).toArray) (.int .i64 (l.length:Int))).run prog W2=.ok () (W2.putObj w.heap.size (.map (ents (l.map (·.2)++[p]) 0).toArray (l.length+1)))):=by
     have h:=GG hps.out (l.map (·.2)) hsz w.heap.size W2 (by rw[OO];exact K2.out.mp) hnone.out;rw[OO]at h;exact h
    obtain⟨v',W5,happ,K5,lt5,-⟩:=K2.out.push hps.out (by have:=hll.out;omega) n;obtain⟨W3,hW3⟩:∃W3,Hid (W2.putObj w.heap.size (.map (ents (l.map (·.2)++[p]) 0).toArray (l.length+1))=W3):=⟨_,rfl⟩
    have F3:Hid (Row W3 wr.heap.size (wn n++aD p)/\W3.heap.size=wr.heap.size+1):=by rw[<-hW3.out];exact⟨F2.out.1.putObj K2.out.mp rfl _,by simp[World.putObj];exact F2.out.2.2⟩
    have B3:=Hid.mk' (MJ hps.out n W3);obtain⟨W4,hW4⟩:∃W4,Hid (W3.alloc (.cells (wn n++aD p).toArray 150)=W4):=⟨_,rfl⟩
    rw[hW3.out]at B2 happ;rw[hW4.out]at B3 happ;rw[F3.out.2]at B3;rw[F2.out.2.2]at happ;have K5':Hid (Mx w W5 w.heap.size (mrg N ns az (i+1)) v'):=by
     have e:mrg N ns az (i+1)=l++[(n,p)]:=by
      show dR N (mrg N ns az i) (ns i) (az i)=_;rw[hl.out,hne.out,hpe.out];exact zS hnone.out
     rw[e];exact K5
    have B0:Hid (wr.rangeAt g (37*i) (wn n++aD p)):=by
     have h:=RG.aN (HH.out.2.2.2.2 i hi) KM.out.bl HH.out.2.2.2.1;rw[hne.out,hpe.out]at h;exact h
    have HLT:Hid ((prog.info? 150).map (·.size)=some (wn n++aD p).length):=by show _=_;rw[hlen];exact iT
    have HLS:Hid ((prog.info? 150).map (·.size)=some (wn n++aD p).toArray.size/\W1.there wr.heap.size 0 (wn n++aD p).toArray.size):=by
     have e:(wn n++aD p).toArray.size=37:=by rw[O4];exact hlen
     rw[e];exact⟨iT,F1.out.1.2.2⟩
    have HLP:Hid ((prog.info? 47).map (·.size)=some (aD p).length):=by show _=_;rw[aM hps.out];exact cK
    have HB:Hid (W2.rangeAt wr.heap.size 4 (aD p)):=eJ (xs:=wn n) F2.out.1.2.1;have HAL:Hid ((wn n++aD p).toArray.all (·.oneCell')=true):=by
     show _=_;rw[QA];intro u hu;exact cells_one n p u (Sb.1 hu)
    have hix:=atT g 0 k c i hi;have HAP:=Hid.mk' happ;clear happ;obtain⟨vt,hvt⟩:∃v,Hid (O8 (wn n++aD p).toArray=v):=⟨_,rfl⟩
    obtain⟨vp,hvp⟩:∃v,Hid (O8 (aD p).toArray=v):=⟨_,rfl⟩
    rw[hvp.out]at B1 B2;rw[hvt.out]at B3;clear hlen hsz K5 lt5 hW4 hW3 K2 KM;go_wp2_with (first|(refine wpList_load_mid rfl 150 _ rfl g (37*i) ?_ (wn n++aD p) d' ?_ ?_ ?_ ?_ ?_;rfl;exact B0.out;exact HD.out.2.1;exact HD.out.2.2;exact HLT.out;rw[hvt.out])|(refine bJ (v:=.pointer (some ⟨wr.heap.size,0,none⟩)) (w':=W1) rfl (.alloc 150) rfl ?_ ?_;(rw[<-hW1.out];kernel_rfl))|(refine wpList_store_mid rfl 150 _ _ rfl wr.heap.size 0 (wn n++aD p).toArray ?_ ?_ ?_ ?_ ?_ ?_;rfl;exact hvt.out.symm;exact HLS.out.2;exact HLS.out.1;exact HAL.out;rw[show(wn n++aD p).toArray.toList=wn n++aD p from rfl,hW2.out])|(refine wpList_load_mid rfl 47 _ rfl wr.heap.size 4 ?_ (aD p) d ?_ ?_ ?_ ?_ ?_;rfl;exact HB.out;exact HD.out.1.1;exact HD.out.1.2;exact HLP.out;rw[hvp.out])|(refine tW (x:=.map (some w.heap.size)) (y:=vp) (w':=W2) rfl 210 _ _ true rfl ?_ ?_ B1.out ?_;rfl;rfl)|(refine C3 (x:=.map (some w.heap.size)) (y:=vp) (z:=.int .i64 (l.length:Int)) (w':=W3) rfl 210 _ _ _ rfl ?_ ?_ ?_ B2.out ?_;rfl;rfl;rfl)|(refine wpList_load_mid rfl 150 _ rfl wr.heap.size 0 ?_ (wn n++aD p) d' ?_ ?_ ?_ ?_ ?_;rfl;exact F3.out.1.2.1;exact HD.out.2.1;exact HD.out.2.2;exact HLT.out;rw[hvt.out])|(refine qW (v:=.slice (some ⟨wr.heap.size+1,0,none⟩) 1 1) (w':=W4) rfl 71 1 _ rfl #[(0,vt)] ?_ B3.out ?_;kernel_rfl)|(refine mA (x:=.slice q l.length cap) (y:=.slice (some ⟨wr.heap.size+1,0,none⟩) 1 1) (v:=v') (w':=W5) rfl _ _ 71 rfl ?_ ?_ ?_ ?_;rfl;rfl;exact HAP.out))
    go_roundg (gk-1)
    case measure=>omega
    case rel=>exact⟨i+1,by omega,rfl,K5'⟩
   | some j =>
    obtain⟨-,hjl,hjp,-⟩:=at?_some (N:=N) hat;rw[So]at hjl;simp only[So]at hjp;have B1:=Hid.mk' (yN hps.out (l.map (·.2)) hsz w.heap.size l.length W2 K2.out.mp);rw[hat]at B1;obtain⟨g4,cap4,he4,-,hg4,hr4⟩:=oZ K2.out.ow hsz (by omega);injection he4 with q1 q2 q3
    subst q1;obtain⟨s,hse⟩:∃s,Hid ((l[j]'hjl).1=s):=⟨(l[j]'hjl).1,(rfl:(l[j]'hjl).1=(l[j]'hjl).1)⟩
    have hsN:Hid (s<N):=by
     have:=AS HH.out.1 ns az HH.out.2.2.1 i (by omega);rw[hl.out]at this;rw[<-hse.out];exact this _ (Pm hjl)
    have hnN:Hid (n<N):=by rw[<-hne.out];exact HH.out.2.2.1 i hi
    have B0:Hid (wr.rangeAt g (37*i) (wn n++aD p)):=by
     have h:=RG.aN (HH.out.2.2.2.2 i hi) KM.out.bl HH.out.2.2.2.1;rw[hne.out,hpe.out]at h;exact h
    have HLT:Hid ((prog.info? 150).map (·.size)=some (wn n++aD p).length):=by show _=_;rw[hlen];exact iT
    have HLS:Hid ((prog.info? 150).map (·.size)=some (wn n++aD p).toArray.size/\W1.there wr.heap.size 0 (wn n++aD p).toArray.size):=by
     have e:(wn n++aD p).toArray.size=37:=by rw[O4];exact hlen
     rw[e];exact⟨iT,F1.out.1.2.2⟩
    have HLP:Hid ((prog.info? 47).map (·.size)=some (aD p).length):=by show _=_;rw[aM hps.out];exact cK
    have HB:Hid (W2.rangeAt wr.heap.size 4 (aD p)):=eJ (xs:=wn n) F2.out.1.2.1;have HAL:Hid ((wn n++aD p).toArray.all (·.oneCell')=true):=by
     show _=_;rw[QA];intro u hu;exact cells_one n p u (Sb.1 hu)
    have hix:=atT g 0 k c i hi;obtain⟨vt,hvt⟩:∃v,Hid (O8 (wn n++aD p).toArray=v):=⟨_,rfl⟩
    obtain⟨vp,hvp⟩:∃v,Hid (O8 (aD p).toArray=v):=⟨_,rfl⟩
    rw[hvp.out]at B1;have HL:Hid (j<l.length):=hjl;have HS:Hid (∀h:j<l.length,(l[j]'h).1=s):=fun _=>hse.out
    have HJ:Hid (at? p (l.map (·.2)) 0=some j/\(∀x∈l.map (·.2),x.size=33)):=⟨hat,hsz⟩
    have HK:Hid (Mx w W2 w.heap.size l (.slice (some ⟨g4,0,none⟩) l.length cap)/\Row W2 wr.heap.size (wn n++aD p)):=⟨K2.out,F2.out.1⟩
    have KN:Hid (mrg N ns az (i+1)=dR N l n p):=by
     show dR N (mrg N ns az i) (ns i) (az i)=_;rw[hl.out,hne.out,hpe.out]
    clear hlen hsz K2 KM hjp q2 q3 hr4 hg4;clear hat;go_wp2_with (first|(refine wpList_load_mid rfl 150 _ rfl g (37*i) ?_ (wn n++aD p) d' ?_ ?_ ?_ ?_ ?_;rfl;exact B0.out;exact HD.out.2.1;exact HD.out.2.2;exact HLT.out;rw[hvt.out])|(refine bJ (v:=.pointer (some ⟨wr.heap.size,0,none⟩)) (w':=W1) rfl (.alloc 150) rfl ?_ ?_;(rw[<-hW1.out];kernel_rfl))|(refine wpList_store_mid rfl 150 _ _ rfl wr.heap.size 0 (wn n++aD p).toArray ?_ ?_ ?_ ?_ ?_ ?_;rfl;exact hvt.out.symm;exact HLS.out.2;exact HLS.out.1;exact HAL.out;rw[show(wn n++aD p).toArray.toList=wn n++aD p from rfl,hW2.out])|(refine wpList_load_mid rfl 47 _ rfl wr.heap.size 4 ?_ (aD p) d ?_ ?_ ?_ ?_ ?_;rfl;exact HB.out;exact HD.out.1.1;exact HD.out.1.2;exact HLP.out;rw[hvp.out])|(refine tW (x:=.map (some w.heap.size)) (y:=vp) (w':=W2) rfl 210 _ _ true rfl ?_ ?_ B1.out ?_;rfl;rfl)|fail)
    refine(Ga w w.heap.size g4 cap wr.heap.size j s n (sPl N s n) l p).last 12 (by kernel_rfl) (by kernel_rfl) (by kernel_rfl) ⟨
     RG.aY fun a W hp=>⟨[(4,.slice (some ⟨g4,0,none⟩) l.length cap)],.slice (some ⟨g4,0,none⟩) l.length cap,W,⟨hp.o 4 (by kernel_rfl),trivial⟩,by kernel_rfl,Ow _ _,rfl⟩,
     RG.aY fun a W hp=>⟨[(7,.int .i64 j)],.int .i64 j,W,⟨hp.o 7 (by kernel_rfl),trivial⟩,by kernel_rfl,Ow _ _,rfl⟩,
     RG.aY fun a W hp=>⟨[(4,.slice (some ⟨g4,0,none⟩) l.length cap)],.slice (some ⟨g4,0,none⟩) l.length cap,W,⟨hp.o 4 (by kernel_rfl),trivial⟩,by kernel_rfl,Ow _ _,rfl⟩,
     RG.aY fun a W hp=>⟨[(7,.int .i64 j)],.int .i64 j,W,⟨hp.o 7 (by kernel_rfl),trivial⟩,by kernel_rfl,Ow _ _,rfl⟩,
     RG.aY fun a W hp=>⟨[(36,.slice (some ⟨g4,0,none⟩) l.length cap),(37,.int .i64 j)],.pointer (some ⟨g4,0+37*j,none⟩),W,⟨hp.n 2 36 (by kernel_rfl) (by kernel_rfl),hp.n 3 37 (by kernel_rfl) (by kernel_rfl),trivial⟩,by
      rw[P3.injEq];refine⟨by kernel_rfl,?_⟩;show((Py 71 (.slice (some ⟨g4,0,none⟩) l.length cap) (.int .i64 j)) >>= fun v=>pure (Rf v)).run prog W=_;rw[OG,atT g4 0 l.length cap j HL.out];rfl,Ow _ _,rfl⟩,
     RG.aY fun a W hp=>⟨[(38,.pointer (some ⟨g4,0+37*j,none⟩))],.pointer (some ⟨g4,0+37*j,none⟩),W,⟨hp.n 4 38 (by kernel_rfl) (by kernel_rfl),trivial⟩,by kernel_rfl,Ow _ _,rfl⟩,
     RG.bU 43 39 rfl Go.Proofs.YtmfodnkinmnopaaGreat.u40 fun a W hp=>⟨g4,0+37*j,wn s,hp.n 5 39 (by kernel_rfl) (by kernel_rfl),by
      obtain⟨g5,cap5,he5,-,-,hr5⟩:=oZ hp.b.1.ow HJ.out.2 (by have:=HL.out;omega);injection he5 with q1 q2 q3
      injection q1 with q1
      injection q1 with q1
      subst q1;have:=hr5 j HL.out;rw[(HS.out HL.out)]at this;rw[Om];exact range_front' this,i40,rfl⟩,
     RG.aY fun a W hp=>⟨[(6,.pointer (some ⟨wr.heap.size,0,none⟩))],.pointer (some ⟨wr.heap.size,0,none⟩),W,⟨hp.o 6 (by kernel_rfl),trivial⟩,by kernel_rfl,Ow _ _,rfl⟩,
     RG.bU 43 41 rfl Go.Proofs.YtmfodnkinmnopaaGreat.u40 fun a W hp=>⟨wr.heap.size,0,wn n,hp.n 7 41 (by kernel_rfl) (by kernel_rfl),dS hp.b.2.2.1,i40,rfl⟩,
     RG.b9 fun a W hp=>⟨[(40,nv s),(42,nv n)],70,#[nv s,nv n],⟨hp.n 6 40 (by kernel_rfl) (by kernel_rfl),hp.n 8 42 (by kernel_rfl) (by kernel_rfl),trivial⟩,by kernel_rfl,(Ex HH.out.1 s n hsN.out hnN.out W).mono (by
      rintro e W' ⟨u,rfl,hb,rfl⟩;exact⟨_,rfl,hb,rfl⟩)⟩,
     RG.aY fun a W hp=>⟨[(34,.slice (some ⟨g4,0,none⟩) l.length cap),(35,.int .i64 j)],.pointer (some ⟨g4,0+37*j,none⟩),W,⟨hp.n 0 34 (by kernel_rfl) (by kernel_rfl),hp.n 1 35 (by kernel_rfl) (by kernel_rfl),trivial⟩,by
      rw[P3.injEq];refine⟨by kernel_rfl,?_⟩;show((Py 71 (.slice (some ⟨g4,0,none⟩) l.length cap) (.int .i64 j)) >>= fun v=>pure (Rf v)).run prog W=_;rw[OG,atT g4 0 l.length cap j HL.out];rfl,Ow _ _,rfl⟩,
     RG.aY fun a W hp=>⟨[(44,.pointer (some ⟨g4,0+37*j,none⟩))],.pointer (some ⟨g4,0+37*j,none⟩),W,⟨hp.n 10 44 (by kernel_rfl) (by kernel_rfl),trivial⟩,by kernel_rfl,Ow _ _,rfl⟩,trivial⟩ ⟨HK.out.1.drew,HK.out.2⟩ ?_
    intro V W3 hR3 hB3;have hV9:V 9=nv (sPl N s n):=hR3 9 (by decide);have hV11:V 11=.pointer (some ⟨g4,0+37*j,none⟩):=hR3 11 (by decide);obtain⟨W4,hW4⟩:∃W4,Hid (W3.setCells g4 (37*j) (wn (sPl N s n))=W4):=⟨_,rfl⟩
    have K4:Hid (Mx w W4 w.heap.size (mrg N ns az (i+1)) (.slice (some ⟨g4,0,none⟩) l.length cap)):=by
     rw[<-hW4.out,KN.out,<-(HS.out HL.out)];exact hB3.1.again HJ.out.2 HJ.out.1 HL.out n
    have HTH:Hid (W3.there g4 (37*j) 4):=by
     intro t ht;have hj:=HL.out;rcases hB3.1.ow.2 with⟨h,-⟩|⟨g2,cap2,cur,he,-,hc,hn,-,hs,-⟩
     ·cases h
     ·injection he with he1 he2 he3
      injection he1 with he1
      injection he1 with he1
      subst he1;have hlt:37*j+t<cur.size:=by
       rw[hs];have:(j+1)*37<=cap2*37:=Qw 37 (by omega);omega
      refine⟨?_,?_⟩
      ·simp[Qs,hc,hlt]
      ·simp[RZ,hc]
    clear hR3 hB3;dsimp only[RG.gP,QL,List.take,List.drop];simp only[Pk,OL,Pd,Pf];obtain⟨vz,hvz⟩:∃v,Hid (nv (sPl N s n)=v):=⟨_,rfl⟩
    rw[hV9,hV11,hvz.out,Om];clear hV9 hV11;generalize V 0=s0;generalize V 1=s1;generalize V 2=s2;generalize V 3=s3;generalize V 4=s4;generalize V 5=s5;generalize V 6=s6;generalize V 7=s7;generalize V 8=s8;generalize V 10=s10;go_wp2_with (first|(refine wpList_store_mid rfl 43 _ _ rfl g4 (37*j) (wn (sPl N s n)).toArray ?_ ?_ ?_ ?_ ?_ ?_;rfl;exact hvz.out.symm;exact HTH.out;exact i40;exact fF (sPl N s n);rw[show(wn (sPl N s n)).toArray.toList=wn (sPl N s n) from rfl,hW4.out])|fail)
    go_roundg (gk-1)
    case measure=>omega
    case rel=>exact⟨i+1,by omega,rfl,K4⟩
  ·have hi':¬(i:Int)<(k:Int):=by omega
   obtain rfl:i=k:=by omega
   go_wp2_with fail
   refine(HDEL.out wr _ KM.out).mono ?_;rintro e w9 ⟨vv,rfl,hR9⟩;have HR9:=Hid.mk' hR9;clear hR9 HDEL;go_wp2;go_ret;exact⟨_,rfl,HR9.out⟩
end
section
open Go.RowKit Go.Sort Go.Deep
variable {P:Nat}[NeZero P]{N:Nat}
def LF(l:List (Nat × Bs)):List (Nat × Bs):=l.filter fun x=>x.1 != 0
theorem lR{l:List (Nat × Bs)}{j:Nat}(hj:j<l.length):LF (l.take (j+1))=LF (l.take j)++(if (l[j]).1=0 then [] else [l[j]]):=by
 unfold LF;rw[Ur,OA hj,List.filter_append]
 congr 1
 by_cases h:(l[j]).1=0
 ·simp[h]
 ·simp[h]
theorem JH(l:List (Nat × Bs))(j:Nat):(LF (l.take j)).length<=j:=
 OM (TU _ _) (by rw[QS];exact Nat.min_le_left _ _)
theorem wZ{l:List (Nat × Bs)}{x:Nat × Bs}(h:x∈LF l):x∈l:=(Su.1 h).1
theorem pU{ns:Nat->Nat}:∀(m i:Nat),(∃j,i<=j/\j<i+m/\ns j=0)->∃i0,iM ns i m=((i0:Nat):Int)/\i<=i0/\i0<i+m/\ns i0=0/\∀j,i<=j->j<i0->ns j≠0
 | 0,i,h=>by obtain⟨j,h1,h2,-⟩:=h;omega
 | m+1,i,h=>by
  unfold iM;by_cases h0:ns i=0
  ·rw[if_pos h0];exact⟨i,rfl,Oh _,by omega,h0,fun j h1 h2=>by omega⟩
  ·rw[if_neg h0];obtain⟨j,h1,h2,h3⟩:=h;obtain⟨i0,e1,e2,e3,e4,e5⟩:=pU m (i+1) ⟨j,by
    rcases Ru i j with h|h
    ·omega
    ·obtain rfl:j=i:=by omega
     exact absurd h3 h0,by omega,h3⟩
   refine⟨i0,e1,by omega,by omega,e4,fun j' h1' h2'=>?_⟩;rcases Ru i j' with h|h
   ·exact e5 j' h h2'
   ·obtain rfl:j'=i:=by omega
    exact h0
def Rw(W:World)(g j:Nat)(x:Nat × Bs):Prop:=W.rangeAt g (37*j) (wn x.1++aD x.2)
theorem Rw.below{W W':World}{g j:Nat}{x:Nat × Bs}(h:Rw W g j x)(hb:Below W.heap.size W W')(hg:g<W.heap.size):Rw W' g j x:=RG.aN h hb hg
structure Dz(base:Nat)(w W:World)(g:Nat)(l:List (Nat × Bs))(j:Nat):Prop where
 bl:Below base w W
 hb:base<=W.heap.size
 lt:g<W.heap.size
 th:W.there g 0 (37*l.length)
 lo:∀a (ha:a<(LF (l.take j)).length),Rw W g a ((LF (l.take j))[a])
 hi:∀b (hb:b<l.length),j<=b->Rw W g b (l[b])
theorem Dz.grow{base:Nat}{w W W':World}{g:Nat}{l:List (Nat × Bs)}{j:Nat}(h:Dz base w W g l j)(hb:Below W.heap.size W W'):Dz base w W' g l j:=
 ⟨h.bl.trans (hb.mono h.hb),OM h.hb hb.size,Oi h.lt hb.size,RG.dC h.th hb h.lt,fun a ha=>(h.lo a ha).below hb h.lt,fun b hb' hj=>(h.hi b hb' hj).below hb h.lt⟩
theorem Dz.skip{base:Nat}{w W:World}{g:Nat}{l:List (Nat × Bs)}{j:Nat}(h:Dz base w W g l j)(hj:j<l.length)(h0:(l[j]).1=0):Dz base w W g l (j+1):=by
 have e:LF (l.take (j+1))=LF (l.take j):=by rw[lR hj,if_pos h0,Q6]
 exact⟨h.bl,h.hb,h.lt,h.th,fun a ha=>by
  have h1:=h.lo a (by rw[<-e];exact ha);simp only[e];exact h1,fun b hb hj=>h.hi b hb (by omega)⟩
theorem Dz.put{base:Nat}{w W:World}{g:Nat}{l:List (Nat × Bs)}{j:Nat}(h:Dz base w W g l j)(hg:base<=g)(hs:∀x∈l.map (·.2),x.size=33)(hj:j<l.length)(h0:(l[j]).1≠0):
 Dz base w (W.setCells g (37*(LF (l.take j)).length) (wn (l[j]).1++aD (l[j]).2)) g l (j+1):=by
 have e:LF (l.take (j+1))=LF (l.take j)++[l[j]]:=by rw[lR hj,if_neg h0]
 have hle:=JH l j;have hsz:∀x∈l,(wn x.1++aD x.2).length=37:=fun x hx=>lC (hs x.2 (Pw.2 ⟨x,hx,rfl⟩))
 have hlen:=hsz (l[j]) (Pm hj);refine⟨RG.below_setCells hg _ _ _ h.bl,by rw[RG.setCells_size];exact h.hb,by rw[RG.setCells_size];exact h.lt,SD h.th _ _ _,fun a ha=>?_,fun b hb hjb=>?_⟩
 ·simp only[e]at ha⊢;by_cases hlt:a<(LF (l.take j)).length
  ·rw[List.getElem_append_left hlt];have h1:=h.lo a hlt;have hm:(LF (l.take j))[a]∈l:=TW (wZ (Pm hlt));exact QF h1 g _ _ (OC (OQ (by rw[hsz _ hm];omega)))
  ·have ha2:a=(LF (l.take j)).length:=by rw[Oz,List.length_singleton]at ha;omega
   subst ha2;rw[List.getElem_append_right (Oh _)];simp only[Nat.sub_self,List.getElem_singleton];refine QJ W g _ _ fun t ht=>?_
   rw[hlen]at ht;have:=h.th (37*(LF (l.take j)).length+t) (by omega);rwa[Om]at this
 ·exact QF (h.hi b hb (by omega)) g _ _ (OC (OC (by rw[hlen];omega)))
theorem Ea(n:Nat):∀v∈(Pu (O8 zT.toArray).cells n).toList,v.oneCell'=true:=by
 intro v hv;have hz:=JM;have hl:(O8 zT.toArray).cells.size=37:=by kernel_rfl
 unfold Pu at hv;rw[Array.toList_map]at hv;obtain⟨i,-,rfl⟩:=Pw.1 hv;have hi:i%(O8 zT.toArray).cells.size<(O8 zT.toArray).cells.size:=Qf _ (by rw[hl];decide);rw[getElem!_pos (O8 zT.toArray).cells _ hi];exact hz _ (by
  have e:(O8 zT.toArray).cells.toList=zT:=by kernel_rfl
  have h2:=Array.getElem_mem_toList hi;rwa[e]at h2)
theorem IM(g i n c:Nat)(w:World)(hn:0<n)(h:w.there g 0 (37*(i+n))):∃Z:List Value,∀ty,(Un #[71] ty #[.slice (some ⟨g,37*i,none⟩) n c]).run prog w=.ok (.tuple #[]) (w.setCells g (37*i) Z):=by
 have h1:=JL w;have h3:=run_underlying GH w;have ho:=Ea n;have hl:(Pu (O8 zT.toArray).cells n).toList.length=n*37:=by
  have:(O8 zT.toArray).cells.size=37:=by kernel_rfl
  rw[Ot,size_zeroCells,this]
 generalize (O8 zT.toArray)=Zv at h1 ho hl;generalize hZ:(Pu Zv.cells n).toList=Z at ho hl;have h4:(storeCells ⟨g,37*i,none⟩ Z).run prog w=.ok () (w.setCells g (37*i) Z):=
  run_storeCells_cells (P:=prog) g (37*i) Z 0 w (fun j hj=>by rw[hl]at hj;have:=(h (37*i+j) (by omega)).1;simpa using this) (fun j hj=>by rw[hl]at hj;have:=(h (37*i+j) (by omega)).2;simpa using this) ho
 refine⟨Z,fun ty=>?_⟩;obtain⟨n',rfl⟩:∃n',n=n'+1:=⟨n-1,by omega⟩
 unfold Un;simp[OG,h3,h1,hZ,h4]
theorem Nu(g n c i:Nat)(hi:i<=n)(hn:n<=c)(w:World):(Pp 71 (.slice (some ⟨g,0,none⟩) n c) none (some (.int .i64 i)) none).run prog w=.ok (.slice (some ⟨g,0,none⟩) i c) w:=by
 have h1:¬(i:Int)<0:=by omega
 have h2:(i:Int)<=(c:Int):=by omega
 go_simp
theorem Nt(g n c i:Nat)(hi:i<n)(hn:n<=c)(w:World):(Pp 71 (.slice (some ⟨g,0,none⟩) n c) (some (.int .i64 i)) none none).run prog w=.ok (.slice (some ⟨g,37*i,none⟩) (n-i) (c-i)) w:=by
 have h1:¬(i:Int)<0:=by omega
 have h2:(i:Int)<=(n:Int):=by omega
 have h3:(n:Int)<=(c:Int):=by omega
 go_simp;rw[if_neg (by omega),OX]
def TmL(W:World)(q:Option Addr)(l:List (Nat × Bs)):Prop:=0<l.length->∃g,q=some ⟨g,0,none⟩/\g<W.heap.size/\∀j (hj:j<l.length),W.rangeAt g (37*j) (wn (l[j]).1++aD (l[j]).2)
def Od(base:Nat)(l:List (Nat × Bs))(w:World)(e:Value)(w':World):Prop:=Below base w w'/\∃q cap,e=.slice q (LF l).length cap/\TmL w' q (LF l)
theorem CV{l:List (Nat × Bs)}(h:∀x∈l,x.1≠0):LF l=l:=List.filter_eq_self.2 fun x hx=>by simpa using h x hx
theorem JG{l:List (Nat × Bs)}{i0:Nat}(hi:i0<l.length)(h0:(l[i0]).1=0):∀j,i0<j->j<=l.length->(LF (l.take j)).length<j
 | 0,h,_=>by omega
 | j+1,h,hj=>by
  rw[lR (by omega),Oz];rcases Ru i0 j with h1|h1
  ·have:=JG hi h0 j h1 (by omega);split<;>simp<;>omega
  ·obtain rfl:j=i0:=by omega
   rw[if_pos h0];have:=JH l j;simp;omega
theorem FI(l:List (Nat × Bs))(hl0:0<l.length)(hlk:l.length<=1000)(hs:∀x∈l.map (·.2),x.size=33)(hn:∀x∈l,x.1<top)(base:Nat)(v:Value)(w:World)(hb:base<=w.heap.size)(ho:w.ownsRow base 150 37 v l.length (aZ l)):
 Calls prog 143 #[v,.func (.func 144) #[] #[]] w (Ret (Od base l w)):=by
 obtain⟨g,c,rfl,hg1,hg2,hr⟩:=oZ ho hs hl0;have hsz:∀(j:Nat) (hj:j<l.length),(l[j]).2.size=33:=fun j hj=>hs _ (Pw.2 ⟨_,Pm hj,rfl⟩)
 have hcap:l.length<=c/\w.there g 0 (37*l.length):=by
  rcases ho.2 with⟨h,-⟩|⟨g2,cap2,cur,he,-,hc,hn',-,hs',-⟩
  ·cases h
  ·injection he with he1 he2 he3
   injection he1 with he1
   injection he1 with he1
   subst he1;subst he3;refine⟨hn',fun t ht=>?_⟩;have hlt:0+t<cur.size:=by
    rw[hs'];have:l.length*37<=c*37:=Qw 37 hn';omega
   exact⟨by simp only[Qs,hc];simp;omega,by simp[RZ,hc]⟩
 by_cases hall:∀x∈l,x.1≠0
 ·have eL:=CV hall;refine(zB g l.length c (by omega) (fun j=>((l[j]?).getD (0,#[])).1) (fun j=>((l[j]?).getD (0,#[])).2) (fun j hj=>by rw[OA hj];exact hn _ (Pm hj)) (fun j hj=>by rw[OA hj];exact hall _ (Pm hj)) (fun j hj=>by rw[OA hj];exact hsz j hj) w hg2 (fun j hj=>by rw[OA hj];exact hr j hj)).mono ?_;rintro e w9 ⟨vv,rfl,hb9,rfl⟩;refine⟨_,rfl,hb9.mono hb,some ⟨g,0,none⟩,c,by rw[eL],?_⟩;rw[eL];exact fun _=>⟨g,rfl,Oi hg2 hb9.size,fun j hj=>RG.aN (hr j hj) hb9 hg2⟩
 ·have hI:=Ci g l.length c (by omega) (fun j=>((l[j]?).getD (0,#[])).1) (fun j=>((l[j]?).getD (0,#[])).2) (fun j hj=>by rw[OA hj];exact hn _ (Pm hj)) (fun j hj=>by rw[OA hj];exact hsz j hj) w hg2 (fun j hj=>by rw[OA hj];exact hr j hj);obtain⟨i0,e1,-,e3,e4,e5⟩:=pU (ns:=fun j=>((l[j]?).getD (0,#[])).1) l.length 0 (by
   have:∃x,x∈l/\x.1=0:=PC fun h=>hall fun x hx h0=>h ⟨x,hx,h0⟩
   obtain⟨x,hx,hx0⟩:=this;obtain⟨j,hj⟩:=PZ hx;exact⟨j,QB _,by have:=(OE.1 hj).1;omega,by show((l[j]?).getD (0,#[])).1=0;rw[hj];exact hx0⟩)
  rw[e1]at hI;have hi0:i0<l.length:=by omega
  have hz0:(l[i0]).1=0:=by
   have:((l[i0]?).getD (0,#[])).1=0:=e4;rw[OA hi0]at this;exact this
  have hpre:LF (l.take i0)=l.take i0:=CV fun x hx=>by
   obtain⟨j,hj⟩:=PZ hx;rw[PO]at hj;split at hj
   ·rename_i hji
    have:=e5 j (QB _) hji;have h6:((l[j]?).getD (0,#[])).1≠0:=this;rw[hj]at h6;exact h6
   ·cases hj
  have hlen0:(LF (l.take i0)).length=i0:=by rw[hpre,QS];omega
  have D0:Dz base w w g l i0:=⟨Ow _ _,hb,hg2,hcap.2,fun a ha=>by
   simp only[hpre]at ha⊢;rw[List.getElem_take];exact hr a _,fun b hb' _=>hr b hb'⟩
  have D1:Dz base w w g l (i0+1):=D0.skip hi0 hz0;have e6:(LF (l.take (i0+1))).length=i0:=by rw[lR hi0,if_pos hz0,Q6];exact hlen0
  have HI:=Hid.mk' hI;have HZ:Hid (∀j,i0<j->j<=l.length->(LF (l.take j)).length<j):=JG hi0 hz0;have HD1:=Hid.mk' D1;have HF:Hid (base<=g/\l.length<=c/\(∀x∈l.map (·.2),x.size=33)/\(∀x∈l,x.1<top)/\∀(j:Nat) (hj:j<l.length),(l[j]).2.size=33):=⟨hg1,hcap.1,hs,hn,hsz⟩
  obtain⟨d',hd3,hd4⟩:=Ol.1 uT;have HD:Hid (prog.underlying 150=some d'/\d'.isRow=true):=⟨hd3,hd4⟩
  have hi1:¬((i0:Int) = -1):=by omega
  clear hd3 hd4 hI D0 D1 hs hn ho hr hsz hcap hall e1 e4 e5 hpre hlen0 hz0 hg1 hg2;go_enter Tryz.func143,Tryz.ntmps143;go_wp2_with fail
  refine HI.out.mono ?_;rintro e w1 ⟨vv,rfl,hb1,rfl⟩;have K1:Hid (Dz base w w1 g l (i0+1)):=HD1.out.grow hb1;clear hb1 HI HD1;go_wp2_with fail
  go_loopg [5,6] (l.length-(i0+1)) (fun m s5 s6 W=>∃j:Nat,i0<j/\j+m=l.length/\s6=.int .i64 j/\s5=.int .i64 ((LF (l.take j)).length:Int)/\Hid (Dz base w W g l j))
  case atStart=>exact⟨i0+1,by omega,by omega,rfl,by rw[e6],K1⟩
  case round =>
   clear K1;obtain⟨j,hij,hjk,rfl,rfl,KM⟩:=hrel;by_cases hj:j<l.length
   ·have hj':(j:Int)<(l.length:Int):=by omega
    obtain⟨n,hne⟩:∃n,Hid ((l[j]'hj).1=n):=⟨(l[j]'hj).1,(rfl:(l[j]'hj).1=(l[j]'hj).1)⟩
    obtain⟨p,hpe⟩:∃p,Hid ((l[j]'hj).2=p):=⟨(l[j]'hj).2,(rfl:(l[j]'hj).2=(l[j]'hj).2)⟩
    obtain⟨i,hie⟩:∃i,Hid ((LF (l.take j)).length=i):=⟨_,rfl⟩
    have hilt:i<l.length:=by have:=HZ.out j hij (by omega);rw[hie.out]at this;omega
    rw[hie.out];have hps:Hid (p.size=33):=by rw[<-hpe.out];exact HF.out.2.2.2.2 j hj
    have hnt:Hid (n<top):=by rw[<-hne.out];exact HF.out.2.2.2.1 _ (Pm hj)
    have B0:Hid (wr.rangeAt g (37*j) (wn n++aD p)):=by
     have h:=KM.out.hi j hj (Oh _);unfold Rw at h;rw[hne.out,hpe.out]at h;exact h
    obtain⟨W1,hW1⟩:∃W1,Hid (wr.alloc (.cells zT.toArray 150)=W1):=⟨_,rfl⟩
    obtain⟨W2,hW2⟩:∃W2,Hid (W1.setCells wr.heap.size 0 (wn n++aD p)=W2):=⟨_,rfl⟩
    have hlen:(wn n++aD p).length=37:=lC hps.out;have F1:Hid (Row W1 wr.heap.size zT/\Below wr.heap.size wr W1/\W1.heap.size=wr.heap.size+1):=by rw[<-hW1.out];exact⟨aO wr _ _,aH wr _,Oo _ _⟩
    have F2:Hid (Row W2 wr.heap.size (wn n++aD p)/\Below wr.heap.size wr W2):=by rw[<-hW2.out];exact⟨F1.out.1.put (by rw[hlen];rfl),RG.below_setCells (Oh _) _ _ _ F1.out.2.1⟩
    have HLT:Hid ((prog.info? 150).map (·.size)=some (wn n++aD p).length):=by show _=_;rw[hlen];exact iT
    have HLS:Hid ((prog.info? 150).map (·.size)=some (wn n++aD p).toArray.size/\W1.there wr.heap.size 0 (wn n++aD p).toArray.size):=by
     have e:(wn n++aD p).toArray.size=37:=by rw[O4];exact hlen
     rw[e];exact⟨iT,F1.out.1.2.2⟩
    have HAL:Hid ((wn n++aD p).toArray.all (·.oneCell')=true):=by
     show _=_;rw[QA];intro u hu;exact cells_one n p u (Sb.1 hu)
    have hix:=atT g 0 l.length c j hj;obtain⟨vt,hvt⟩:∃v,Hid (tvl n p=v):=⟨_,rfl⟩
    have hvt':Hid (O8 (wn n++aD p).toArray=vt):=hvt;have K2:Hid (Dz base w W2 g l j):=KM.out.grow F2.out.2;have HN:=Hid.mk' (E6 hnt.out hps.out W2);rw[hvt.out]at HN;clear KM;go_wp2_with (first|(refine wpList_load_mid rfl 150 _ rfl g (37*j) ?_ (wn n++aD p) d' ?_ ?_ ?_ ?_ ?_;rfl;exact B0.out;exact HD.out.1;exact HD.out.2;exact HLT.out;rw[hvt'.out])|(refine bJ (v:=.pointer (some ⟨wr.heap.size,0,none⟩)) (w':=W1) rfl (.alloc 150) rfl ?_ ?_;(rw[<-hW1.out];kernel_rfl))|(refine wpList_store_mid rfl 150 _ _ rfl wr.heap.size 0 (wn n++aD p).toArray ?_ ?_ ?_ ?_ ?_ ?_;rfl;exact hvt'.out.symm;exact HLS.out.2;exact HLS.out.1;exact HAL.out;rw[show(wn n++aD p).toArray.toList=wn n++aD p from rfl,hW2.out])|(refine wpList_load_mid rfl 150 _ rfl wr.heap.size 0 ?_ (wn n++aD p) d' ?_ ?_ ?_ ?_ ?_;rfl;exact F2.out.1.2.1;exact HD.out.1;exact HD.out.2;exact HLT.out;rw[hvt'.out])|fail)
    refine HN.out.mono ?_;rintro e W3 ⟨vv,rfl,hb3,rfl⟩;have K3:Hid (Dz base w W3 g l j/\Row W3 wr.heap.size (wn n++aD p)):=⟨K2.out.grow hb3,F2.out.1.below hb3⟩
    clear hb3 K2 HN F2 F1;by_cases h0:n=0
    ·rw[show decide (n=0)=true by simp[h0]];have K4:Hid (Dz base w W3 g l (j+1)):=K3.out.1.skip hj (by rw[hne.out];exact h0);have e4:Hid ((LF (l.take (j+1))).length=i):=by
      show _=_;rw[lR hj,if_pos (by rw[hne.out];exact h0),Q6];exact hie.out
     go_wp2;go_roundg (gk-1)
     case measure=>omega
     case rel=>exact⟨j+1,by omega,by omega,rfl,by rw[e4.out],K4⟩
    ·rw[show decide (n=0)=false by simp[h0]];obtain⟨W4,hW4⟩:∃W4,Hid (W3.setCells g (37*i) (wn n++aD p)=W4):=⟨_,rfl⟩
     have K4:Hid (Dz base w W4 g l (j+1)):=by
      have h:=K3.out.1.put HF.out.1 HF.out.2.2.1 hj (by rw[hne.out];exact h0);rw[hie.out,hne.out,hpe.out,hW4.out]at h;exact h
     have e4:Hid ((LF (l.take (j+1))).length=i+1):=by
      show _=_;rw[lR hj,if_neg (by rw[hne.out];exact h0),Oz,hie.out];rfl
     have HTH:Hid (W3.there g (37*i) (wn n++aD p).toArray.size):=by
      have e:(wn n++aD p).toArray.size=37:=by rw[O4];exact hlen
      rw[e];intro t ht;have:=K3.out.1.th (37*i+t) (by omega);rwa[Om]at this
     have hix2:=atT g 0 l.length c i hilt;go_wp2_with (first|(refine wpList_load_mid rfl 150 _ rfl wr.heap.size 0 ?_ (wn n++aD p) d' ?_ ?_ ?_ ?_ ?_;rfl;exact K3.out.2.2.1;exact HD.out.1;exact HD.out.2;exact HLT.out;rw[hvt'.out])|(refine wpList_store_mid rfl 150 _ _ rfl g (37*i) (wn n++aD p).toArray ?_ ?_ ?_ ?_ ?_ ?_;rfl;exact hvt'.out.symm;exact HTH.out;exact HLS.out.1;exact HAL.out;rw[show(wn n++aD p).toArray.toList=wn n++aD p from rfl,hW4.out])|fail)
     go_roundg (gk-1)
     case measure=>omega
     case rel=>exact⟨j+1,by omega,by omega,rfl,by rw[e4.out];rfl,K4⟩
   ·have hj':¬(j:Int)<(l.length:Int):=by omega
    obtain rfl:j=l.length:=by omega
    have eL:LF (l.take l.length)=LF l:=by rw[Ta]
    rw[eL];have hilt:(LF l).length<l.length:=by have:=HZ.out l.length hij (Oh _);rw[eL]at this;exact this
    have hlo:∀a (ha:a<(LF l).length),Rw wr g a ((LF l)[a]):=fun a ha=>by
     have:=KM.out.lo a (by rw[eL];exact ha);simp only[eL]at this;exact this
    have hszL:∀x∈LF l,(wn x.1++aD x.2).length=37:=fun x hx=>lC (HF.out.2.2.1 _ (Pw.2 ⟨x,wZ hx,rfl⟩))
    obtain⟨Z,hZ⟩:=IM g (LF l).length (l.length-(LF l).length) (c-(LF l).length) wr (by omega) (by rw[show(LF l).length+(l.length-(LF l).length)=l.length by omega];exact KM.out.th);obtain⟨W5,hW5⟩:∃W5,Hid (wr.setCells g (37*(LF l).length) Z=W5):=⟨_,rfl⟩
    rw[hW5.out]at hZ;have K5:Hid (Below base w W5/\TmL W5 (some ⟨g,0,none⟩) (LF l)):=by
     rw[<-hW5.out];refine⟨RG.below_setCells HF.out.1 _ _ _ KM.out.bl,fun _=>⟨g,rfl,by rw[RG.setCells_size];exact KM.out.lt,fun a ha=>?_⟩⟩;exact QF (hlo a ha) g _ _ (OC (OQ (by rw[hszL _ (Pm ha)];omega)))
    have hs1:=Nt g l.length c (LF l).length hilt HF.out.2.1;have hs2:=Nu g l.length c (LF l).length (by omega) HF.out.2.1;clear KM hlo hszL eL hW5;obtain⟨i,hie⟩:∃i,Hid ((LF l).length=i):=⟨_,rfl⟩
    rw[hie.out]at hs1 hs2 hZ hilt⊢;go_wp2;go_ret;exact⟨_,rfl,K5.out.1,some ⟨g,0,none⟩,c,by rw[hie.out];rfl,K5.out.2⟩
end
namespace EC
variable {P:Nat}[NeZero P]
def pts(P:Nat)[NeZero P]:List (Pt P):=
 none :: (U5 P).flatMap fun x=>((U5 P).filter fun y=>decide (y^2=x^3+7)).map fun y=>some (x,y)
theorem jK(a:Pt P):a∈pts P↔On a:=by
 unfold pts;rcases a with _|⟨x,y⟩
 ·exact⟨fun _=>trivial,fun _=>O5⟩
 ·rw[Pg,Tb];constructor
  ·rintro(h|⟨u,-,h⟩)
   ·cases h
   ·obtain⟨v,hv,e⟩:=Pw.1 h;cases e
    have h2:=(Su.1 hv).2;exact(decide_eq_true_iff (p:=y^2=x^3+7)).1 h2
  ·intro h;have h:y^2=x^3+7:=h;exact OC ⟨x,Ut x,Pw.2 ⟨y,Su.2 ⟨Ut y,decide_eq_true h⟩,rfl⟩⟩
theorem uO:(pts P).Nodup:=by
 unfold pts;refine Rq.2 ⟨fun h=>?_,?_⟩
 ·obtain⟨u,-,h⟩:=Tb.1 h;obtain⟨v,-,e⟩:=Pw.1 h;cases e
 ·refine List.pairwise_flatMap.2 ⟨fun x _=>Us.2 ?_,?_⟩
  ·refine Tx ?_ ((SK P).sublist Ub);intro a b h e;exact h (by cases e;rfl)
  ·refine Tx ?_ (SK P);intro a b h u hu v hv e;obtain⟨c,-,rfl⟩:=Pw.1 hu;obtain⟨d,-,rfl⟩:=Pw.1 hv;exact h (by cases e;rfl)
theorem GV{u v c:Fin P}(hu:u^2=c)(hv:v^2=c):(u-v)*(u+v)=0:=by grobner
theorem Iq{a b d:Fin P}(e1:a+b=0)(e2:a+d=0):b=d:=by grobner
theorem C5(C:Cur P){c:Fin P}:∀l:List (Fin P),l.Nodup->(∀y,y∈l->y^2=c)->l.length<=2
 | [],_,_=>QB _
 | [_],_,_=>Nat.le_succ _
 | [_,_],_,_=>Oh _
 | a :: b :: d :: l,hn,h=>by
  exfalso;have ha:a^2=c:=h a (by simp);have hb:b^2=c:=h b (by simp);have hd:d^2=c:=h d (by simp);have n1:a≠b:=fun e=>(Rq.1 hn).1 (by rw[e];simp)
  have n2:a≠d:=fun e=>(Rq.1 hn).1 (by rw[e];simp)
  have n3:b≠d:=fun e=>(Rq.1 (Rq.1 hn).2).1 (by rw[e];simp)
  have f:∀u v:Fin P,u^2=c->v^2=c->u≠v->u+v=0:=fun u v hu hv hn=>by
   exact PC fun hs=>bE C.pr (jW hn) hs (GV hu hv)
  have e1:=f a b ha hb n1;have e2:=f a d ha hd n2;exact n3 (Iq e1 e2)
theorem y8{α β:Type}(f:α->List β)(k:Nat)(h:∀a,(f a).length<=k):∀l:List α,(l.flatMap f).length<=k*l.length
 | []=>QB _
 | a :: l=>by
  rw[Td,Oz,OV,SB,Nat.add_comm];exact Nat.add_le_add (y8 f k h l) (h a)
theorem IA(C:Cur P):(pts P).length<=2*P+1:=by
 unfold pts;rw[OV];refine Nat.succ_le_succ (OM (y8 _ 2 (fun x=>?_) _) (by rw[List.length_finRange];exact Oh _));rw[OO];exact C5 C (c:=x^3+7) _ ((SK P).sublist Ub) fun y hy=>of_decide_eq_true (Su.1 hy).2
theorem H7:0<(pts P).length:=Nat.succ_pos _
def qB:List (Pt P)->Pt P
 | []=>none
 | a :: l=>add a (qB l)
theorem qM(C:Cur P):∀l:List (Pt P),(∀a,a∈l->On a)->On (qB l)
 | [],_=>fP
 | a :: l,h=>C.on (h a O5) (qM C l fun b hb=>h b (OU _ hb))
theorem DJ(C:Cur P){l m:List (Pt P)}(p:l.Perm m):(∀a,a∈l->On a)->qB l=qB m:=by
 induction p with
 | nil=>intro _;rfl
 | cons x _ ih =>
  intro h;show add x _=add x _;rw[ih fun b hb=>h b (OU _ hb)]
 | swap x y l =>
  intro h;have hy:=h y O5;have hx:=h x (OU _ O5);have hl:=qM C l fun b hb=>h b (OU _ (OU _ hb))
  show add y (add x (qB l))=add x (add y (qB l));rw[<-C.assoc hy hx hl,C.comm hy hx,C.assoc hx hy hl]
 | trans p _ ih1 ih2 =>
  intro h;rw[ih1 h,ih2 fun a ha=>h a (p.mem_iff.2 ha)]
theorem sF(C:Cur P){r:Pt P}(hr:On r):∀l:List (Pt P),(∀a,a∈l->On a)->qB (l.map fun a=>add a r)=add (qB l) (mul l.length r)
 | [],_=>rfl
 | a :: l,h=>by
  have ha:=h a O5;have hl:∀b,b∈l->On b:=fun b hb=>h b (OU _ hb)
  show add (add a r) (qB (l.map _))=add (add a (qB l)) (add (mul l.length r) r);rw[sF C hr l hl,C.comm (cJ C hr _) hr,C.swap ha hr (qM C l hl) (cJ C hr _)]
theorem tJ(C:Cur P){a b r:Pt P}(ha:On a)(hb:On b)(hr:On r)(e:add a r=add b r):a=b:=by
 have:add (add a r) (neg r)=add (add b r) (neg r):=by rw[e]
 rwa[C.assoc ha hr (cB hr),C.assoc hb hr (cB hr),add_neg,bL,bL]at this
theorem rD(C:Cur P){r:Pt P}(hr:On r):((pts P).map fun a=>add a r).Perm (pts P):=by
 refine(List.perm_ext_iff_of_nodup ?_ uO).2 fun a=>?_
 ·refine Us.2 (List.Pairwise.imp_of_mem ?_ (uO (P:=P)));intro a b ha hb h e;exact h (tJ C ((jK a).1 ha) ((jK b).1 hb) hr e)
 ·rw[jK,Pw];constructor
  ·rintro⟨b,hb,rfl⟩;exact C.on ((jK b).1 hb) hr
  ·intro ha;refine⟨add a (neg r),(jK _).2 (C.on ha (cB hr)),?_⟩;rw[C.assoc ha (cB hr) hr,C.neg_l hr,bL]
theorem Cd(C:Cur P){r:Pt P}(hr:On r):mul (pts P).length r=none:=by
 have h0:∀a,a∈pts P->On a:=fun a ha=>(jK a).1 ha
 have h1:=sF C hr (pts P) h0;rw[DJ C (rD C hr) fun a ha=>(jK a).1 ((rD C hr).mem_iff.1 ha)]at h1;have hs:=qM C (pts P) h0;have hm:=cJ C hr (pts P).length;have h2:add (mul (pts P).length r) (qB (pts P))=add none (qB (pts P)):=by
  rw[C.comm hm hs,<-h1,eB]
 exact tJ C hm fP hs h2
theorem nH(C:Cur P){a:Pt P}(ha:On a)(m:Nat):∀n,mul (m*n) a=mul n (mul m a)
 | 0=>rfl
 | n+1=>by
  rw[SB,mul_add C ha,nH C ha m n];rfl
theorem nG:∀n,mul n (none:Pt P)=none
 | 0=>rfl
 | n+1=>by
  show add (mul n none) none=none;rw[nG n];rfl
theorem Af(C:Cur P){a:Pt P}(ha:On a)(e:add a a=none):a=none:=by
 rcases a with _|⟨x,y⟩
 ·rfl
 ·exfalso;have ho:=C.opp_ne ha;rw[bT C.pr C.two ha ha ho (bH C.pr C.two ha ha ho)]at e;cases e
theorem E1(C:Cur P){n:Nat}(hn:NT.IsP n)(h3:2*P+1<3*n){g:Pt P}(hg:On g)(h0:g≠none)(hz:mul n g=none){r:Pt P}(hr:On r):mul n r=none:=by
 have hd:n ∣ (pts P).length:=PC fun hd=>by
  have h1:=hn.fermat1 _ hd;have h2:mul ((pts P).length^(n-1)) g=none:=by
   have:n-1=(n-2)+1:=by have:=hn.1;omega
   rw[this,Nat.pow_succ,OX,nH C hg,Cd C hg,nG]
  have h4:=SI ((pts P).length^(n-1)) n;rw[h1]at h4;rw[<-h4,mul_add C hg,nH C hg,hz,nG,eB]at h2;exact h0 h2
 obtain⟨c,hc⟩:=hd;have hl:=IA C;have hp:=H7 (P:=P);have hm:=Cd C hr;rw[hc]at hl hp hm;have hc3:c<3:=Nat.lt_of_mul_lt_mul_left (a:=n) (by omega);match c,hc3 with
 | 0,_=>omega
 | 1,_=>rwa[Qn]at hm
 | 2,_ =>
  rw[nH C hr]at hm;exact Af C (cJ C hr n) hm
end EC
section
open Go.RowKit Go.Sort Go.Deep
variable {P:Nat}[NeZero P]{N:Nat}
def fH(P:Nat)[NeZero P](b:Bs):EC.Pt P:=match rd P b with|some p=>pt p|none=>none
theorem iY(C:Fld P){X:EC.Pt P}(h:EC.On X):fH P (wr X)=X:=by
 obtain⟨p,h1,h2⟩:=uD C h;unfold fH;rw[h1];exact h2
def gK(P:Nat)[NeZero P]:List (Nat × Bs)->EC.Pt P
 | []=>none
 | x :: r=>EC.add (EC.mul x.1 (fH P x.2)) (gK P r)
def PtsL(P:Nat)[NeZero P](l:List (Nat × Bs)):Prop:=∀x∈l,∃X:EC.Pt P,EC.On X/\x.2=wr X
theorem PtsL.on(C:Fld P){l:List (Nat × Bs)}(h:PtsL P l){x:Nat × Bs}(hx:x∈l):EC.On (fH P x.2):=by
 obtain⟨X,h1,h2⟩:=h x hx;rw[h2,iY C h1];exact h1
theorem vN(C:Fld P):∀ {l:List (Nat × Bs)},PtsL P l->EC.On (gK P l)
 | [],_=>EC.fP
 | x :: r,h=>C.cur.on (EC.cJ C.cur (h.on C O5) _) (vN C fun y hy=>h y (OU _ hy))
theorem t5(C:Fld P)(y:Nat × Bs)(hy:EC.On (fH P y.2)):∀ {l:List (Nat × Bs)},PtsL P l->gK P (l++[y])=EC.add (gK P l) (EC.mul y.1 (fH P y.2))
 | [],_=>EC.bL _
 | x :: r,h=>by
  have hr:PtsL P r:=fun z hz=>h z (OU _ hz)
  show EC.add (EC.mul x.1 (fH P x.2)) (gK P (r++[y]))=_;rw[t5 C y hy hr];exact(C.cur.assoc (EC.cJ C.cur (h.on C O5) _) (vN C hr) (EC.cJ C.cur hy _)).symm
theorem vO:∀l:List (Nat × Bs),gK P (LF l)=gK P l
 | []=>rfl
 | x :: r=>by
  unfold LF;rw[List.filter_cons];by_cases h:x.1=0
  ·rw[if_neg (by simp[h])];show gK P (LF r)=EC.add (EC.mul x.1 (fH P x.2)) (gK P r);rw[h,vO r];rfl
  ·rw[if_pos (by simp[h])];show EC.add _ (gK P (LF r))=EC.add _ (gK P r);rw[vO r]
theorem mul_mod(C:Fld P)(hord:∀r:EC.Pt P,EC.On r->EC.mul N r=none){X:EC.Pt P}(hX:EC.On X)(n:Nat):EC.mul (n%N) X=EC.mul n X:=by
 have h:=EC.mul_add C.cur hX (N*(n/N)) (n%N);rw[SI,EC.nH C.cur hX N (n/N),hord X hX,EC.nG,EC.eB]at h;exact h.symm
theorem t6(C:Fld P)(hord:∀r:EC.Pt P,EC.On r->EC.mul N r=none)(n:Nat)(p:Bs)(hp:EC.On (fH P p)):∀ {l:List (Nat × Bs)},PtsL P l->gK P (dR N l n p)=EC.add (gK P l) (EC.mul n (fH P p))
 | [],_=>EC.bL _
 | (s,q) :: r,h=>by
  have hr:PtsL P r:=fun z hz=>h z (OU _ hz)
  have hq:=h.on C (x:=(s,q)) O5;have h1:=EC.cJ C.cur hq s;have h2:=vN C hr;have h3:=EC.cJ C.cur hp n;unfold dR;by_cases e:p=q
  ·rw[if_pos e];subst e;show EC.add (EC.mul (sPl N s n) (fH P p)) (gK P r)=EC.add (EC.add (EC.mul s (fH P p)) (gK P r)) (EC.mul n (fH P p));unfold sPl;rw[mul_mod C hord hp,EC.mul_add C.cur hp,C.cur.assoc h1 h3 h2,C.cur.assoc h1 h2 h3,C.cur.comm h3 h2]
  ·rw[if_neg e];show EC.add (EC.mul s (fH P q)) (gK P (dR N r n p))=EC.add (EC.add (EC.mul s (fH P q)) (gK P r)) (EC.mul n (fH P p));rw[t6 C hord n p hp hr,C.cur.assoc h1 h2 h3]
theorem CQ{n:Nat}{p:Bs}(hp:∃X:EC.Pt P,EC.On X/\p=wr X):∀ {l:List (Nat × Bs)},PtsL P l->PtsL P (dR N l n p)
 | [],_=>fun x hx=>by
  have:x=(n,p):=by simpa[dR]using hx
  rw[this];exact hp
 | (s,q) :: r,h=>by
  have hr:PtsL P r:=fun z hz=>h z (OU _ hz)
  unfold dR;split
  ·intro x hx;rcases Pg.1 hx with rfl|hx
   ·exact h (s,q) O5
   ·exact hr x hx
  ·intro x hx;rcases Pg.1 hx with rfl|hx
   ·exact h (s,q) O5
   ·exact CQ hp hr x hx
theorem wF(ns:Nat->Nat)(X:Nat->EC.Pt P){k:Nat}(hX:∀j,j<k->EC.On (X j)):∀i,i<=k->PtsL P (mrg N ns (fun j=>wr (X j)) i)
 | 0,_=>fun x hx=>by cases hx
 | i+1,hi=>CQ ⟨X i,hX i (by omega),rfl⟩ (wF ns X hX i (by omega))
theorem Ce(C:Fld P)(hord:∀r:EC.Pt P,EC.On r->EC.mul N r=none)(ns:Nat->Nat)(X:Nat->EC.Pt P){k:Nat}(hX:∀j,j<k->EC.On (X j)):∀i,i<=k->gK P (mrg N ns (fun j=>wr (X j)) i)=EC.tot X i (fun j=>(ns j:Int))
 | 0,_=>rfl
 | i+1,hi=>by
  have hi':=hX i (by omega);show gK P (dR N (mrg N ns (fun j=>wr (X j)) i) (ns i) (wr (X i)))=EC.add (EC.tot X i (fun j=>(ns j:Int))) (EC.mul (ns i) (X i));rw[t6 C hord _ _ (by rw[iY C hi'];exact hi') (wF ns X hX i (by omega)),Ce C hord ns X hX i (by omega),iY C hi']
theorem rA(C:Fld P)(l:List (Nat × Bs))(h:PtsL P l):∀i,i<=l.length->EC.tot (fun j=>fH P ((l[j]?).getD (0,#[])).2) i (fun j=>(((l[j]?).getD (0,#[])).1:Int))=gK P (l.take i)
 | 0,_=>by rw[List.take_zero];rfl
 | i+1,hi=>by
  have hlt:i<l.length:=by omega
  show EC.add (EC.tot _ i _) (EC.mul ((l[i]?).getD (0,#[])).1 (fH P ((l[i]?).getD (0,#[])).2))=_;rw[rA C l h i (by omega),Ur,OA hlt];exact(t5 C (l[i]) (h.on C (Pm hlt)) fun x hx=>h x (TW hx)).symm
theorem Am(C:Fld P)(O:Ord N)(hord:∀r:EC.Pt P,EC.On r->EC.mul N r=none)(g k c:Nat)(hk0:0<k)(hk:k<=512)(ns:Nat->Nat)(X:Nat->EC.Pt P)(hn:∀j,j<k->ns j<N)(hX:∀j,j<k->EC.On (X j))(w:World)(hg:g<w.heap.size)(hr:∀j,j<k->w.rangeAt g (37*j) (wn (ns j)++aD (wr (X j)))):
 Calls prog 39 #[.slice (some ⟨g,0,none⟩) k c] w (Ret fun e w'=>Below w.heap.size w w'/\e=pvl (wr (EC.tot X k (fun j=>(ns j:Int))))):=by
 have hM:=wF (N:=N) ns X hX k (Oh _);have hlt:=AS O ns (fun j=>wr (X j)) hn k (Oh _);have hsz:=rZ (N:=N) ns (fun j=>wr (X j)) (k:=k) (fun j _=>bO _) k (Oh _);have hle:=wG (N:=N) ns (fun j=>wr (X j)) k;have hsum:=Ce C hord ns X hX k (Oh _);have hpos:0<(mrg N ns (fun j=>wr (X j)) k).length:=by
  obtain⟨k',rfl⟩:∃k',k=k'+1:=⟨k-1,by omega⟩
  show 0<(dR N _ _ _).length;cases mrg N ns (fun j=>wr (X j)) k' with
  | nil=>exact Nat.lt_succ_self 0
  | cons x r=>unfold dR;split<;>simp
 have hmer:=fun W (hb:Below w.heap.size w W)=>Fe O (fun e w'=>Below W.heap.size W w'/\∃q cap,e=.slice q (LF (mrg N ns (fun j=>wr (X j)) k)).length cap/\TmL w' q (LF (mrg N ns (fun j=>wr (X j)) k))) g k c (by omega) ns (fun j=>wr (X j)) (fun j _=>bO _) hn W (Oi hg hb.size) (fun j hj=>RG.aN (hr j hj) hb hg) (fun W' v hMx=>by
  refine(FI _ hpos (by omega) hsz (fun x hx=>Oi (hlt x hx) O.le) W.heap.size v W' hMx.bl.size hMx.ow).mono ?_;rintro e w' ⟨u,rfl,hb',hT⟩;exact⟨_,rfl,hMx.bl.trans hb',hT⟩)
 generalize mrg N ns (fun j=>wr (X j)) k=L at hM hlt hsz hle hsum hpos hmer;have hF:PtsL P (LF L):=fun x hx=>hM x (wZ hx)
 have hFl:(LF L).length<=L.length:=TU _ _;refine(Al C O _ w (LF L).length (by omega) (fun j=>(((LF L)[j]?).getD (0,#[])).1) (fun j=>fH P (((LF L)[j]?).getD (0,#[])).2) (fun j hj=>by rw[OA hj];exact hlt _ (wZ (Pm hj))) (fun j hj=>by rw[OA hj];exact hF.on C (Pm hj)) fun W hb=>?_).mono ?_
 ·refine(hmer W hb).mono ?_;rintro e w' ⟨u,rfl,hb',q,cap,rfl,hT⟩;refine⟨_,rfl,hb',q,cap,rfl,fun h0=>?_⟩;obtain⟨g',e1,e2,e3⟩:=hT h0;refine⟨g',e1,e2,fun j hj=>?_⟩;have h5:=e3 j hj;obtain⟨Y,y1,y2⟩:=hF _ (Pm hj);show w'.rangeAt g' (37*j) (wn (((LF L)[j]?).getD (0,#[])).1++aD (wr (fH P (((LF L)[j]?).getD (0,#[])).2)));rw[OA hj];show w'.rangeAt g' (37*j) (wn ((LF L)[j]).1++aD (wr (fH P ((LF L)[j]).2)));rw[y2,iY C y1,<-y2];exact h5
 ·rintro e w' ⟨u,rfl,hb',rfl⟩;refine⟨_,rfl,hb',?_⟩;rw[rA C (LF L) hF _ (Oh _),Ta,vO,hsum]
end
section
open Go.RowKit Go.Sort Go.Deep
variable {P:Nat}[NeZero P]{N:Nat}
theorem rG(O:Ord N){n:Nat}(hn:n<N):rq N (bx n)=some n:=by
 have hv:beV (bx n).toList=n:=wT (Oi hn O.le);unfold rq;rw[hv,if_pos ⟨bM n,hn⟩]
def Ez(W:World)(v:Value)(T:Bs):Prop:=∃g c,v=.slice (some ⟨g,0,none⟩) 33 c/\33<=c/\g<W.heap.size/\Holds encB W g 0 T
theorem Ez.grow{W W':World}{v:Value}{T:Bs}(h:Ez W v T)(hb:Below W.heap.size W W'):Ez W' v T:=by
 obtain⟨g,c,h1,h2,h3,h4⟩:=h;exact⟨g,c,h1,h2,Oi h3 hb.size,Holds.below h4 hb h3⟩
def Et(W:World)(v:Value)(T:Bs):Prop:=∃u,v=.tuple #[u,.int .i64 0]/\Ez W u T
section
variable (w:World) (k2 k3 k4 a b:Nat) (T:Bs)
def RC1:Nat->Value->World->Prop
 | 0,v,_=>v=nv a
 | 1,v,W=>El 32 W v (bx a)
 | 2,v,_=>v=nv b
 | 3,v,W=>El 32 W v (bx b)
 | 4,v,W=>Et W v T
 | 5,v,W=>Et W v T
 | 6,v,W=>Ez W v T
 | 7,v,_=>v=.int .i64 0
 | 8,v,W=>Ez W v T
 | 9,v,_=>v=.int .i64 0
 | _,_,_=>True
def GC1:RG.Gw:=⟨RC1 a b T,fun W=>Kp w W [(k4,z33),(k3,wn b),(k2,wn a)],fun i v W W' hb h=>by
 match i,h with
 | 0,h=>exact h
 | 1,h=>exact El.below h hb (Oh _)
 | 2,h=>exact h
 | 3,h=>exact El.below h hb (Oh _)
 | 4,h=>obtain⟨u,h1,h2⟩:=h;exact⟨u,h1,h2.grow hb⟩
 | 5,h=>obtain⟨u,h1,h2⟩:=h;exact⟨u,h1,h2.grow hb⟩
 | 6,h=>exact Ez.grow h hb
 | 7,h=>exact h
 | 8,h=>exact Ez.grow h hb
 | 9,h=>exact h
 | _+10,_=>trivial,fun W W' hb h=>h.grow hb⟩
end
theorem pG(C:Fld P)(O:Ord N){a b:Nat}(ha:a<N)(hb:b<N):Gives 20 #[nv a,nv b] (pvl (wr (cmt P a b))):=by
 intro w;obtain⟨T,hT⟩:∃T,Hid (wr (cmt P a b)=T):=⟨_,rfl⟩
 have hTs:T.size=33:=by rw[<-hT.out];exact bO _
 have HO:Hid (Ord N/\a<N/\b<N):=⟨O,ha,hb⟩
 have HC:Hid (∀(v0 v1:Value) (W:World),El 32 W v0 (bx a)->El 32 W v1 (bx b)->Calls prog 16 #[v0,v1] W (Ret fun e w'=>Below W.heap.size W w'/\Et w' e T)):=fun v0 v1 W h0 h1=>by
  refine(Gm (N:=N) C O.gap O.le v0 v1 (bx a) (bx b) W h0.arg h1.arg).mono ?_;rintro e W' ⟨u,rfl,hbl,hR⟩;unfold Aa at hR;rw[rG O ha,rG O hb]at hR;obtain⟨g,c,rfl,q1,q2,q3,q4⟩:=hR;rw[hT.out]at q4;exact⟨_,rfl,hbl,_,rfl,g,c,rfl,q1,q3,q4⟩
 rw[hT.out];clear C O hT ha hb;obtain⟨va,hva⟩:∃v,Hid (nv a=v):=⟨_,rfl⟩
 obtain⟨vb,hvb⟩:∃v,Hid (nv b=v):=⟨_,rfl⟩
 have bA:=boxS a w;obtain⟨w1,hw1⟩:∃w1,Hid (w.alloc (.cells (wn a).toArray 43)=w1):=⟨_,rfl⟩
 have bB:=boxS b w1;obtain⟨w2,hw2⟩:∃w2,Hid (w1.alloc (.cells (wn b).toArray 43)=w2):=⟨_,rfl⟩
 obtain⟨w3,hw3⟩:∃w3,Hid (w2.alloc (.cells z33.toArray 47)=w3):=⟨_,rfl⟩
 rw[hva.out,hw1.out]at bA;rw[hvb.out,hw2.out]at bB;rw[hva.out,hvb.out];have e1:w1.heap.size=w.heap.size+1:=by rw[<-hw1.out,Oo]
 have e2:w2.heap.size=w.heap.size+2:=by rw[<-hw2.out,Oo,e1]
 rw[e1]at bB;have K3:Hid (Kp w w3 [(w.heap.size+2,z33),(w.heap.size+1,wn b),(w.heap.size,wn a)]):=by
  have q1:Row w1 w.heap.size (wn a):=by rw[<-hw1.out];exact aO w _ _
  have q2:Row w2 (w.heap.size+1) (wn b):=by rw[<-hw2.out,<-e1];exact aO w1 _ _
  have q3:Row w3 (w.heap.size+2) z33:=by rw[<-hw3.out,<-e2];exact aO w2 _ _
  have b1:Below w.heap.size w w1:=by rw[<-hw1.out];exact aH w _
  have b2:Below w1.heap.size w1 w2:=by rw[<-hw2.out];exact aH w1 _
  have b3:Below w2.heap.size w2 w3:=by rw[<-hw3.out];exact aH w2 _
  refine⟨(b1.trans (b2.mono (by omega))).trans (b3.mono (by omega)),fun x hx=>?_⟩;simp only[Pg,OD,or_false]at hx;rcases hx with rfl|rfl|rfl
  ·exact q3
  ·exact q2.below b3
  ·exact(q1.below b2).below b3
 have BA:=Hid.mk' bA;have BB:=Hid.mk' bB;have E2:=Hid.mk' e2;clear bA bB e1 e2;go_enter Tryz.func20,Tryz.ntmps20;go_wp2_with (first|(refine dB (u:=va) (v:=.pointer (some ⟨w.heap.size,0,none⟩)) (w':=w1) rfl 43 (.tmp 0) rfl ?_ ?_ ?_;rfl;exact BA.out)|(refine dB (u:=vb) (v:=.pointer (some ⟨w.heap.size+1,0,none⟩)) (w':=w2) rfl 43 (.tmp 1) rfl ?_ ?_ ?_;rfl;exact BB.out)|(refine bJ (v:=.pointer (some ⟨w.heap.size+2,0,none⟩)) (w:=w2) (w':=w3) rfl (.alloc 47) rfl ?_ ?_;(rw[<-hw3.out,<-E2.out];kernel_rfl))|fail)
 clear BA BB hw1 hw2 hw3 E2;refine(GC1 w w.heap.size (w.heap.size+1) (w.heap.size+2) a b T).draws (by kernel_rfl) (by kernel_rfl) ⟨
  RG.bU 43 2 rfl u40 fun x W hp=>⟨w.heap.size,0,wn a,hp.o 2 (by kernel_rfl),(hp.b.at 2 rfl).2.1,i40,rfl⟩,
  RG.b9 fun x W hp=>⟨[(8,nv a)],24,#[nv a],⟨hp.n 0 8 (by kernel_rfl) (by kernel_rfl),trivial⟩,by kernel_rfl,by
   refine(jZ HO.out.1 HO.out.2.1 W).mono ?_;rintro e W' ⟨u,rfl,k',hm,rfl⟩;exact⟨_,rfl,hm.bel,El.of_made hm (bM a)⟩⟩,
  RG.bU 43 3 rfl u40 fun x W hp=>⟨w.heap.size+1,0,wn b,hp.o 3 (by kernel_rfl),(hp.b.at 1 rfl).2.1,i40,rfl⟩,
  RG.b9 fun x W hp=>⟨[(10,nv b)],24,#[nv b],⟨hp.n 2 10 (by kernel_rfl) (by kernel_rfl),trivial⟩,by kernel_rfl,by
   refine(jZ HO.out.1 HO.out.2.2 W).mono ?_;rintro e W' ⟨u,rfl,k',hm,rfl⟩;exact⟨_,rfl,hm.bel,El.of_made hm (bM b)⟩⟩,
  RG.b9 fun x W hp=>⟨[(9,x.eval (.tmp 9)),(11,x.eval (.tmp 11))],16,#[x.eval (.tmp 9),x.eval (.tmp 11)],⟨rfl,rfl,trivial⟩,by kernel_rfl,HC.out _ _ W (hp.n 1 9 (by kernel_rfl) (by kernel_rfl)) (hp.n 3 11 (by kernel_rfl) (by kernel_rfl))⟩,
  RG.aY fun x W hp=>⟨[(12,x.eval (.tmp 12))],x.eval (.tmp 12),W,⟨rfl,trivial⟩,by kernel_rfl,Ow _ _,hp.n 4 12 (by kernel_rfl) (by kernel_rfl)⟩,
  RG.aY fun x W hp=>by
   obtain⟨u,he,hu⟩:=show Et W (x.eval (.tmp 7)) T from hp.n 5 7 (by kernel_rfl) (by kernel_rfl)
   exact⟨[(7,.tuple #[u,.int .i64 0])],u,W,⟨he,trivial⟩,by kernel_rfl,Ow _ _,hu⟩,
  RG.aY fun x W hp=>by
   obtain⟨u,he,hu⟩:=show Et W (x.eval (.tmp 7)) T from hp.n 5 7 (by kernel_rfl) (by kernel_rfl)
   exact⟨[(7,.tuple #[u,.int .i64 0])],.int .i64 0,W,⟨he,trivial⟩,by kernel_rfl,Ow _ _,rfl⟩,
  RG.aY fun x W hp=>⟨[(13,x.eval (.tmp 13))],x.eval (.tmp 13),W,⟨rfl,trivial⟩,by kernel_rfl,Ow _ _,hp.n 6 13 (by kernel_rfl) (by kernel_rfl)⟩,
  RG.aY fun x W hp=>⟨[(14,.int .i64 0)],.int .i64 0,W,⟨hp.n 7 14 (by kernel_rfl) (by kernel_rfl),trivial⟩,by kernel_rfl,Ow _ _,rfl⟩,trivial⟩ K3.out.drew ?_
 intro V wc hRc hBc;obtain⟨g,cg,hV8,-,k3,k4⟩:=show Ez wc (V 8) T from hRc 8 (Qx (PH (by kernel_rfl)))
 have hB':Kp w wc [(w.heap.size+2,z33),(w.heap.size+1,wn b),(w.heap.size,wn a)]:=hBc;have K2:Hid (Row wc (w.heap.size+2) z33/\Below w.heap.size w wc/\Row wc g (aD T)):=⟨hB'.at 0 rfl,hB'.bl,EE k4 k3⟩
 dsimp only[RG.gP,QL];simp only[Pk,OL,Pd,Pf];rw[hV8];clear hRc hBc hV8 hB' K3 k3 k4 HO HC;have harr:=Jy g cg;obtain⟨w3,hw3⟩:∃w3,Hid (wc.setCells (w.heap.size+2) 0 (aD T)=w3):=⟨_,rfl⟩
 have hlen:(aD T).length=33:=aM hTs;have K3:Hid (Row w3 (w.heap.size+2) (aD T)/\Below w.heap.size w w3):=by rw[<-hw3.out];exact⟨K2.out.1.put (by rw[hlen];rfl),RG.below_setCells (by omega) _ _ _ K2.out.2.1⟩
 obtain⟨vt,hvt⟩:∃vt,Hid (O8 (aD T).toArray=vt):=⟨_,rfl⟩
 obtain⟨d,hd1,hd2⟩:=Ol.1 uCP;have HD:Hid (prog.underlying 47=some d/\d.isRow=true):=⟨hd1,hd2⟩
 have HI:Hid ((prog.info? 47).map (·.size)=some (aD T).length/\wc.there (w.heap.size+2) 0 (aD T).toArray.size/\(prog.info? 47).map (·.size)=some (aD T).toArray.size):=by
  have e:(aD T).toArray.size=33:=by rw[O4];exact hlen
  refine⟨by rw[hlen];exact cK,by rw[e];exact K2.out.1.2.2,by rw[e];exact cK⟩
 clear hlen hd1 hd2;generalize V 0=s0;generalize V 1=s1;generalize V 2=s2;generalize V 3=s3;generalize V 4=s4;generalize V 5=s5;generalize V 6=s6;generalize V 7=s7;generalize V 9=s9;go_wp2_with (first|(refine wpList_load_mid rfl 47 _ rfl g 0 ?_ (aD T) d ?_ ?_ ?_ ?_ ?_;rfl;exact K2.out.2.2.2.1;exact HD.out.1;exact HD.out.2;exact HI.out.1;rw[hvt.out])|(refine wpList_store_mid rfl 47 _ _ rfl (w.heap.size+2) 0 (aD T).toArray ?_ ?_ ?_ ?_ ?_ ?_;rfl;exact hvt.out.symm;exact HI.out.2.1;exact HI.out.2.2;exact fD T;rw[show(aD T).toArray.toList=aD T from rfl,hw3.out])|fail)
 refine bodyPost_ret (bF 4 47 rfl K3.out.1 rfl uCP HI.out.1) rfl ?_;exact⟨_,rfl,K3.out.2,rfl⟩
end
section
open Go.RowKit Go.Sort Go.Deep
variable {P:Nat}[NeZero P]{N:Nat}
theorem u22:(prog.underlying 22).map (·.isRow)=some false:=by kernel_rfl
theorem MM(k o n c i:Nat)(hi:i<n)(w:World):(Py 82 (.slice (some ⟨k,o,none⟩) n c) (.int .i64 i)).run prog w=.ok (.pointer (some ⟨k,o+i,none⟩)) w:=by
 have h1:¬(i:Int)<0:=by omega
 have h2:(i:Int)<n:=by omega
 go_simp
theorem N9(k o n c i:Nat)(hi:i<n)(w:World):(Py 36 (.slice (some ⟨k,o,none⟩) n c) (.int .i64 i)).run prog w=.ok (.pointer (some ⟨k,o+4*i,none⟩)) w:=by
 have h1:¬(i:Int)<0:=by omega
 have h2:(i:Int)<n:=by omega
 go_simp
theorem NI(N:Nat)(hN:N<=512):∃C0:List Value,C0.length=4*N/\∀w:World,(PN 36 (.int .i64 N) (.int .i64 N)).run prog w=.ok (.slice (some ⟨w.heap.size,0,none⟩) N N) (w.alloc (.cells C0.toArray 43)):=by
 have hu:prog.underlying 36=some (.slice 43):=by kernel_rfl
 have hi:(prog.info? 43).map (fun i=>(i.size,decide (i.bytes<=4000),i.zero.isSome))=some (4,true,true):=by kernel_rfl
 obtain⟨i,hi1,hi2⟩:=Ol.1 hi;simp only[P3.injEq,decide_eq_true_eq]at hi2;obtain⟨h1,h2,h3⟩:=hi2;obtain⟨z,hz⟩:=O9.1 h3;refine⟨(madeCells z.cells (N*4)).toList,by rw[Ot,size_madeCells,OX],fun w=>?_⟩;have hb:(i.bytes:Int)*(N:Int)<=281474976710656:=by
  have:i.bytes*N<=4000*512:=P7 h2 hN;have h5:((i.bytes*N:Nat):Int)<=281474976710656:=by omega
  rwa[Qd]at h5
 have:=run_make (P:=prog) w 36 43 i z hu hi1 hz .i64 .i64 (N:Int) (N:Int) (by omega) (by omega) hb (by omega);rw[Si,h1]at this;rw[Rn];exact this
def Oe(N:Nat)(w:World)(n:Nat)(L:Nat->Bs)(e:Value)(w':World):Prop:=
 ((∃j,j<n/\rq N (L j)=none)/\Below w.heap.size w w'/\e=.tuple #[.slice none 0 0,.bool false]) \/
 ((∀j,j<n->(rq N (L j)).isSome=true)/\∃k C,RG.Made w k C w'/\Rows 4 n (fun j=>wn ((rq N (L j)).getD 0)) n C/\e=.tuple #[.slice (some ⟨k,0,none⟩) n n,.bool true])
theorem qR(O:Ord N)(n cap:Nat)(hn:n<=512)(q:Option Addr)(L:Nat->Bs)(w:World)(hA:Args w q n L):Calls prog 17 #[(.func (.func 18) #[] #[]),.slice q n cap] w (Ret fun e w'=>Oe N w n L e w'):=by
 obtain⟨C,hCl,hmk⟩:=NI n hn;go_enter Tryz.func17,Tryz.ntmps17;refine RG.M.enter [(0,.v (.func (.func 18) #[] #[])),(1,.v (.slice q n cap))] 35 (by kernel_rfl) ?_;intro a0 M0;repeat refine wp_seq ?_
 refine M0.u [.x 4 [] (.slice none 0 0),.x 5 [] (.bool false)] [(0,(.v (.func (.func 18) #[] #[]))),(1,(.v (.slice q n cap)))] ⟨RG.st,RG.st,trivial⟩ ?_;intro a1 w1 M1;repeat refine wp_seq ?_
 refine M1.t [.x 11 [] (.slice q n cap),.x 12 [(11,0)] (.int .i64 n),⟨some 13,[(12,1)],(.s 0 n n),.make 0⟩,.s 6 [(13,2)] (.s 0 n n)] [(2,C)] [] [C] [(0,(.v (.func (.func 18) #[] #[]))),(1,(.v (.slice q n cap))),(6,(.s 0 n n))] ⟨RG.st,RG.st,RG.jP 0 rfl _ rfl 36 43 12 12 n rfl rfl RG.sx RG.sx (hmk),RG.st,trivial⟩ ?_;intro j2 a2 w2 M2;repeat refine wp_seq ?_
 refine M2.u [.x 14 [] (.slice q n cap),.x 15 [(14,0)] (.int .i64 n),.x 16 [] (.int .i64 0)] [(0,(.v (.func (.func 18) #[] #[]))),(6,(.s 0 n n)),(14,(.v (.slice q n cap))),(15,(.v (.int .i64 n))),(16,(.v (.int .i64 0)))] ⟨RG.st,RG.st,RG.st,trivial⟩ ?_;intro a3 w3 M3;repeat refine wp_seq ?_
 refine wp_block ?_;refine wp_loop_ghost (fun m a wr=>∃(i:Nat) (C:List Value) (kt:Nat),i+m=n/\(∀j,j<i->(rq N (L j)).isSome=true)/\Rows 4 n (fun j=>wn ((rq N (L j)).getD 0)) i C/\RG.M w w.heap.size [] 35 [C] [kt] [(0,.v (.func (.func 18) #[] #[])),(6,.s 0 n n),(14,.v (.slice q n cap)),(15,.v (.int .i64 n)),(16,.v (.int .i64 i))] a wr) n ⟨0,C,_,by omega,fun j hj=>by omega,⟨hCl,fun j r hj=>by omega⟩,M3⟩ ?_;clear hmk;intro m' a wr;rintro⟨i,C,kt,him,hall,hR,M20⟩;by_cases hi:i<n
 ·obtain⟨gg,hqe,hgg,hc⟩:=hA (by omega);subst hqe;obtain⟨v,hv,harg⟩:=hc i hi;have hcell:w.cell? ⟨gg,0+i,none⟩=some v:=by rw[Om];exact hv
  have hrd0:=fun w' (hb:RG.BelX w.heap.size [] w w')=>GU O v (L i) w' (harg.below hb.below)
  obtain⟨m,hm⟩:∃m,m=(rq N (L i)).getD 0:=⟨_,rfl⟩
  cases hok:(rq N (L i)).isSome with
  | true =>
   have hrd:∀w',RG.BelX w.heap.size [] w w'->Calls prog 18 #[v] w' (Ret fun e w''=>Below w'.heap.size w' w''/\e=.tuple #[nv m,.bool true]):=fun w' hb=>by
    have h:=hrd0 w' hb;rw[hok,<-hm]at h;exact h
   have hlen:=hR.len;have hoff:0+4*i+(wn m).length<=C.length:=by rw[hlen];show 0+4*i+4<=4*n;omega
   obtain⟨C2,hC2e⟩:∃c,RG.rep C (0+4*i) (wn m)=c:=⟨_,rfl⟩
   have hC2:=hC2e ▸ RG.rep_at hoff;have hcl:C2.length=C.length:=hC2e ▸ RG.cH hoff;have hR2:Rows 4 n (fun j=>wn ((rq N (L j)).getD 0)) (i+1) C2:=by
    have:=hR.next hi rfl;rw[<-hC2e,hm];exact this
   repeat refine wp_seq ?_
   refine M20.u [.x 17 [] (.bool true)] [(0,(.v (.func (.func 18) #[] #[]))),(6,(.s 0 n n)),(14,(.v (.slice (some ⟨gg,0,none⟩) n cap))),(15,(.v (.int .i64 n))),(16,(.v (.int .i64 i))),(17,(.v (.bool true)))] ⟨RG.aK rfl .lss 3 3 16 15 (.int .i64 i) (.int .i64 n) (.bool true) rfl rfl RG.sx RG.sx (fun w=>by kernel_rfl) (dJ hi),trivial⟩ ?_;intro a21 w21 M21;repeat refine wp_seq ?_
   refine wp_cond_true M21.ev ?_;refine wp_skip ?_;refine wp_seq ?_;refine wp_block ?_;repeat refine wp_seq ?_
   refine M21.u [.x 18 [] (.int .i64 i),.x 19 [] (.pointer (some ⟨gg,(0+i),none⟩)),.x 20 [(19,1)] v,.x 7 [(18,0)] (.int .i64 i),.x 8 [(20,2)] v] [(0,(.v (.func (.func 18) #[] #[]))),(6,(.s 0 n n)),(7,(.v (.int .i64 i))),(8,(.v v)),(14,(.v (.slice (some ⟨gg,0,none⟩) n cap))),(15,(.v (.int .i64 n))),(16,(.v (.int .i64 i)))] ⟨RG.st,RG.bC rfl 82 14 16 rfl (.v (.slice (some ⟨gg,0,none⟩) n cap)) (.int .i64 i) RG.sx RG.sx (fun μ w=>MM _ 0 _ _ i hi w),RG.bK rfl gg (0+i) hgg OD 22 19 rfl v rfl RG.sx hcell u22,RG.st,RG.st,trivial⟩ ?_;intro a22 w22 M22;repeat refine wp_seq ?_
   refine M22.t [.x 22 [] (.func (.func 18) #[] #[]),.x 23 [] v,.c 24 [(22,0),(23,1)] (.tuple #[(nv m),(.bool true)]),.x 21 [(24,2)] (.tuple #[(nv m),(.bool true)]),.x 25 [(21,3)] (nv m),.x 26 [(21,3)] (.bool true),.m 9 [] 1,.u [(9,6),(25,4)] 1,.x 10 [(26,5)] (.bool true)] [(6,(RG.z 4))] [(1,7,(wn m))] [C,(wn m)] [(0,(.v (.func (.func 18) #[] #[]))),(6,(.s 0 n n)),(7,(.v (.int .i64 i))),(9,(.p 1 0)),(10,(.v (.bool true))),(14,(.v (.slice (some ⟨gg,0,none⟩) n cap))),(15,(.v (.int .i64 n))),(16,(.v (.int .i64 i)))] ⟨RG.st,RG.st,RG.clB (fun _ _=>by kernel_rfl) hrd,RG.st,RG.st,RG.st,RG.mk 1 43,RG.pt i40,RG.st,trivial⟩ ?_;intro j23 a23 w23 M23;repeat refine wp_seq ?_
   refine M23.u [.x 27 [] (.bool true),.x 28 [(27,0)] (.bool false)] [(0,(.v (.func (.func 18) #[] #[]))),(6,(.s 0 n n)),(7,(.v (.int .i64 i))),(9,(.p 1 0)),(14,(.v (.slice (some ⟨gg,0,none⟩) n cap))),(15,(.v (.int .i64 n))),(16,(.v (.int .i64 i))),(28,(.v (.bool false)))] ⟨RG.st,RG.st,trivial⟩ ?_;intro a24 w24 M24;repeat refine wp_seq ?_
   refine wp_cond_false M24.ev ?_;refine wp_skip ?_;repeat refine wp_seq ?_
   refine M24.tx [.s 29 [] (.s 0 n n),.x 30 [] (.int .i64 i),.x 31 [] (nv m),.s 32 [(29,0),(30,1)] (.p 0 (0+4*i)),.u [(32,3),(31,2)] 0] [] [(0,4,C2)] [C2,(wn m)] [(0,(.v (.func (.func 18) #[] #[]))),(6,(.s 0 n n)),(14,(.v (.slice (some ⟨gg,0,none⟩) n cap))),(15,(.v (.int .i64 n))),(16,(.v (.int .i64 i)))] (by kernel_rfl) (congrArg (fun n=>[n]) hcl) ⟨RG.st,RG.st,RG.ld u40 i40,RG.bC rfl 36 29 30 rfl (.s 0 n n) (.int .i64 i) RG.sx RG.sx (fun μ w=>N9 _ 0 _ _ i hi w),RG.dO 0 (0+4*i) rfl _ rfl 43 (.tmp 32) (.tmp 31) (wn m) rfl rfl RG.sx RG.sx hoff hC2 i40 rfl,trivial⟩ ?_;intro a25 w25 M25;repeat refine wp_seq ?_
   refine M25.u [.x 33 [] (.int .i64 ((i+1:Nat):Int)),.x 16 [(33,0)] (.int .i64 ((i+1:Nat):Int))] [(0,(.v (.func (.func 18) #[] #[]))),(6,(.s 0 n n)),(14,(.v (.slice (some ⟨gg,0,none⟩) n cap))),(15,(.v (.int .i64 n))),(16,(.v (.int .i64 ((i+1:Nat):Int))))] ⟨RG.aI rfl .add 3 3 16 (.int .i64 i) (.int .i64 1) (.int .i64 ((i+1:Nat):Int)) rfl rfl RG.sx (fun w=>by kernel_rfl) (nY i 1 (by omega) (by omega)),RG.st,trivial⟩ ?_;intro a26 w26 M26;show ∃n',_;exact⟨m'-1,by omega,i+1,C2,kt,by omega,fun j hj=>(by
    by_cases hji:j=i
    ·rw[hji];exact hok
    ·exact hall j (by omega)),hR2,RG.M.drop (cs:=[C2]) (cs2:=[_]) (ks:=[kt]) (ks2:=[_]) M26 rfl rfl⟩
  | false =>
   have hrd:∀w',RG.BelX w.heap.size [] w w'->Calls prog 18 #[v] w' (Ret fun e w''=>Below w'.heap.size w' w''/\e=.tuple #[nv m,.bool false]):=fun w' hb=>by
    have h:=hrd0 w' hb;rw[hok,<-hm]at h;exact h
   repeat refine wp_seq ?_
   refine M20.u [.x 17 [] (.bool true)] [(0,(.v (.func (.func 18) #[] #[]))),(14,(.v (.slice (some ⟨gg,0,none⟩) n cap))),(16,(.v (.int .i64 i))),(17,(.v (.bool true)))] ⟨RG.aK rfl .lss 3 3 16 15 (.int .i64 i) (.int .i64 n) (.bool true) rfl rfl RG.sx RG.sx (fun w=>by kernel_rfl) (dJ hi),trivial⟩ ?_;intro a21 w21 M21;repeat refine wp_seq ?_
   refine wp_cond_true M21.ev ?_;refine wp_skip ?_;refine wp_seq ?_;refine wp_block ?_;repeat refine wp_seq ?_
   refine M21.u [.x 18 [] (.int .i64 i),.x 19 [] (.pointer (some ⟨gg,(0+i),none⟩)),.x 20 [(19,1)] v,.x 7 [(18,0)] (.int .i64 i),.x 8 [(20,2)] v] [(0,(.v (.func (.func 18) #[] #[]))),(8,(.v v))] ⟨RG.st,RG.bC rfl 82 14 16 rfl (.v (.slice (some ⟨gg,0,none⟩) n cap)) (.int .i64 i) RG.sx RG.sx (fun μ w=>MM _ 0 _ _ i hi w),RG.bK rfl gg (0+i) hgg OD 22 19 rfl v rfl RG.sx hcell u22,RG.st,RG.st,trivial⟩ ?_;intro a22 w22 M22;repeat refine wp_seq ?_
   refine M22.t [.x 22 [] (.func (.func 18) #[] #[]),.x 23 [] v,.c 24 [(22,0),(23,1)] (.tuple #[(nv m),(.bool false)]),.x 21 [(24,2)] (.tuple #[(nv m),(.bool false)]),.x 25 [(21,3)] (nv m),.x 26 [(21,3)] (.bool false),.m 9 [] 1,.u [(9,6),(25,4)] 1,.x 10 [(26,5)] (.bool false)] [(6,(RG.z 4))] [(1,7,(wn m))] [C,(wn m)] [(10,(.v (.bool false)))] ⟨RG.st,RG.st,RG.clB (fun _ _=>by kernel_rfl) hrd,RG.st,RG.st,RG.st,RG.mk 1 43,RG.pt i40,RG.st,trivial⟩ ?_;intro j23 a23 w23 M23;repeat refine wp_seq ?_
   refine M23.u [.x 27 [] (.bool false),.x 28 [(27,0)] (.bool true)] [(28,(.v (.bool true)))] ⟨RG.st,RG.st,trivial⟩ ?_;intro a24 w24 M24;repeat refine wp_seq ?_
   refine wp_cond_true M24.ev ?_;repeat refine wp_seq ?_
   refine M24.u [.x 4 [] (.slice none 0 0),.x 5 [] (.bool false)] [(4,(.v (.slice none 0 0))),(5,(.v (.bool false)))] ⟨RG.st,RG.st,trivial⟩ ?_;intro a25 w25 M25;refine wp_ret ?_;refine bodyPost_ret (v:=.tuple #[.slice none 0 0,.bool false]) (RG.cS 4 5 rfl (.slice none 0 0) (.bool false) M25.av M25.av) M25.sl.defers ?_;exact⟨_,rfl,OQ ⟨⟨i,hi,by simpa using hok⟩,M25.st.bel.below,rfl⟩⟩
 ·have hiN:i=n:=by omega
  rw[hiN]at hall hR;repeat refine wp_seq ?_
  refine M20.u [.x 17 [] (.bool false)] [(6,(.s 0 n n)),(17,(.v (.bool false)))] ⟨RG.aK rfl .lss 3 3 16 15 (.int .i64 i) (.int .i64 n) (.bool false) rfl rfl RG.sx RG.sx (fun w=>by kernel_rfl) (jL hi),trivial⟩ ?_;intro a21 w21 M21;repeat refine wp_seq ?_
  refine wp_cond_false M21.ev ?_;refine wp_exit ?_;dsimp only[Exit.then,Exit.inBlock];rw[if_pos rfl];repeat refine wp_seq ?_
  refine M21.u [.s 34 [] (.s 0 n n),.s 4 [(34,0)] (.s 0 n n),.x 5 [] (.bool true)] [(4,(.s 0 n n)),(5,(.v (.bool true)))] ⟨RG.st,RG.st,RG.st,trivial⟩ ?_;intro a22 w22 M22;refine wp_ret ?_;refine bodyPost_ret (v:=_) (RG.cS 4 5 rfl _ (.bool true) (M22.at (s:=.s 0 n n)) M22.av) M22.sl.defers ?_;exact⟨_,rfl,OC ⟨hall,_,C,M22.st.made (b:=0) rfl,hR,rfl⟩⟩
def zz(n:Nat):List Value:=(List.replicate n (Value.int .u8 0))
end
section
open Go.RowKit Go.Sort Go.Deep
variable {P:Nat}[NeZero P]{N:Nat}
theorem Me:Gives 37 #[.int .u64 1] (nv 1):=by
 intro w;go_enter Tryz.func37,Tryz.ntmps37;refine RG.M.enter [(0,.v (.int .u64 1))] 6 (by kernel_rfl) ?_;intro a0 M0;repeat refine wp_seq ?_
 refine M0.t [.m 2 [] 0] [(0,RG.z 4)] [] [RG.z 4] [(0,.v (.int .u64 1)),(2,.p 0 0)] ⟨RG.mk 0 43,trivial⟩ ?_;intro k a1 w1 M1;repeat refine wp_seq ?_
 refine M1.t [.x 3 [] (.int .u64 1),.x 4 [(3,0)] (nv 1),.x 5 [(4,1)] (nv 1),.u [(5,2)] 0] [] [(0,3,wn 1)] [wn 1] [(2,.p 0 0)] ⟨RG.st,RG.st,RG.st,RG.pt i40,trivial⟩ ?_;intro a2 w2 M2;refine wp_ret ?_;refine bodyPost_ret (v:=nv 1) (RG.aF M2.st 2 43 rfl 0 _ rfl (M2.at (s:=(.p 0 0))) u40 i40) M2.sl.defers ?_;exact⟨_,rfl,M2.st.bel.below,rfl⟩
def Sm(B:Nat)(W:World)(v:Value)(l:List (Nat × Bs)):Prop:=∃g c,v=.slice (some ⟨g,0,none⟩) l.length c/\l.length<=c/\B<=g/\g<W.heap.size/\W.rangeAt g 0 (aZ l)
theorem Sm.grow{B:Nat}{W W':World}{v:Value}{l:List (Nat × Bs)}(h:Sm B W v l)(hb:Below W.heap.size W W'):Sm B W' v l:=by
 obtain⟨g,c,h1,h2,h3,h4,h5⟩:=h;exact⟨g,c,h1,h2,h3,Oi h4 hb.size,RG.aN h5 hb h4⟩
theorem cellsT_one'(n:Nat)(a:Bs):aZ [(n,a)]=wn n++aD a:=by rw[dV];exact Q6 _
theorem Sm.one{B W k n}{w:World}{a:Bs}(h:Row w k (wn n++aD a))(hB:B<=k)(hW:w=W):Sm B W (.slice (some ⟨k,0,none⟩) 1 1) [(n,a)]:=by
 subst hW;exact⟨k,1,rfl,Oh _,hB,h.1,by rw[cellsT_one'];exact h.2.1⟩
section
variable (a:Bs) (w:World) (k1:Nat)
end
theorem infoT':(prog.info? 150).map (fun i=>(i.size,i.bytes,i.zero.map fun z=>z.cells.size))=some (37,72,some 37):=by kernel_rfl
theorem ID(n:Nat)(hn:n<=10000000)(w:World):Calls prog 142 #[.slice none 0 0,.int .i64 n] w (Ret fun e w'=>Below w.heap.size w w'/\w'.ownsRow w.heap.size 150 37 e 0 []):=by
 by_cases h0:n=0
 ·subst h0;go_enter Tryz.func142,Tryz.ntmps142;go_wp2;go_ret;exact⟨_,rfl,Ow _ _,SS _ _ _ _⟩
 ·obtain⟨i,hi,he⟩:=Ol.1 infoT';simp only[P3.injEq]at he;obtain⟨h1,h2,h3⟩:=he;obtain⟨z,hz,hz2⟩:=Ol.1 h3;have hr:=TJ (P:=prog) w 71 3 71 150 i z .i64 .i64 GH LH hi hz n (by omega) (by omega) (by omega) (by rw[h2];omega);have hcap:=grownCap_ge w n 0 150;have hcap2:=grownCap_le_maxLen w n 0 150 (by unfold maxLen;omega);have hcs:(Pu z.cells n++Pu z.cells (grownCap w n 0 150-n)).size=grownCap w n 0 150*37:=by rw[ON,size_zeroCells,size_zeroCells,hz2];omega
  generalize grownCap w n 0 150=cp at hr hcap hcap2 hcs;generalize Pu z.cells n++Pu z.cells (cp-n)=cur at hr hcs;obtain⟨w1,hw1⟩:∃w1,Hid (w.drew.alloc (.cells cur 150)=w1):=⟨_,rfl⟩
  rw[hw1.out]at hr;have HR:=Hid.mk' hr;have K:Hid (Below w.heap.size w w1/\w1.ownsRow w.heap.size 150 37 (.slice (some ⟨w.heap.size,0,none⟩) 0 cp) 0 []):=by
   rw[<-hw1.out];exact⟨(Ow _ _).drew.alloc (Oh _) _,Ue w.drew cur cp (Oh _) hcap2 hcs⟩
  clear hr hw1 hcs hi hz hz2 h1 h2 h3;have hn1:(0:Int)<(n:Int):=by omega
  have hn2:¬((n:Int)<0):=by omega
  have hw:OZ.wrap (n:Int)=n:=by rw[Rh];omega
  go_enter Tryz.func142,Tryz.ntmps142;go_wp2_with (at_builtin;refine Qt _ rfl _ _ _ _ rfl _ _ rfl rfl _ _ HR.out ?_)
  go_ret;exact⟨_,rfl,K.out.1,K.out.2⟩
theorem Bj(l m:List (Nat × Bs)):aZ (l++m)=aZ l++aZ m:=by unfold aZ;rw[Rx]
theorem DY(l:List (Nat × Bs)):∀u∈aZ l,u.oneCell'=true:=fun u hu=>by
 unfold aZ at hu;obtain⟨x,-,hx⟩:=Tb.1 hu;exact cells_one x.1 x.2 u hx
theorem tB:∀ {l:List (Nat × Bs)},(∀x∈l,x.2.size=33)->(aZ l).length=l.length*37
 | [],_=>rfl
 | x :: r,h=>by
  rw[dV,Oz,lC (h x O5),tB fun y hy=>h y (OU _ hy),OV];omega
theorem EZ{base B:Nat}{W:World}{v x:Value}{l m:List (Nat × Bs)}(hown:W.ownsRow base 150 37 v l.length (aZ l))(hm:∀y∈m,y.2.size=33)(hx:Sm B W x m)(hn:l.length+m.length<=1000000)(hb:base<=W.heap.size):
 ∃v' W',(Qv #[71,71] 71 #[v,x]).run prog W=.ok v' W'/\W'.ownsRow base 150 37 v' (l++m).length (aZ (l++m))/\W.grownBy W' v.ownBlock:=by
 obtain⟨i,hi,he⟩:=Ol.1 infoT';simp only[P3.injEq]at he;obtain⟨h1,h2,h3⟩:=he;obtain⟨z,hz,hz2⟩:=Ol.1 h3;obtain⟨k,c,rfl,e1,e2,e3,e4⟩:=hx;obtain⟨v',W',r1,r2,r3,-⟩:=run_append_own (P:=prog) W base 71 71 150 i z 37 72 GH hi hz h1 h2 hz2 (by decide) v l.length (aZ l) hown ⟨k,0,none⟩ m.length c (aZ m) (tB hm)
  (fun j u hj=>by
   have:=e4 j u hj;rw[Om]at this;rw[add0];exact this) (DY m) (by unfold maxLen;omega) (by omega) hb
 exact⟨v',W',r1,by rw[Oz,Bj];exact r2,r3⟩
end
section
open Go.RowKit Go.Sort Go.Deep
variable {P:Nat}[NeZero P]{N:Nat}
theorem atS(k o n c i:Nat)(hi:i<n)(w:World):(Py 208 (.slice (some ⟨k,o,none⟩) n c) (.int .i64 i)).run prog w=.ok (.pointer (some ⟨k,o+1*i,none⟩)) w:=by
 have h1:¬(i:Int)<0:=by omega
 have h2:(i:Int)<n:=by omega
 go_simp
def gQ(L:Nat->List (Nat × Bs))(k:Nat):List (Nat × Bs):=(Pj k).flatMap L
theorem fW(L:Nat->List (Nat × Bs))(i:Nat):gQ L (i+1)=gQ L i++L i:=by
 unfold gQ;rw[Rp,Rx];simp
theorem CB(L:Nat->List (Nat × Bs)){k m:Nat}(hs:∀j,j<k->(L j).length<=m):∀i,i<=k->(gQ L i).length<=m*i
 | 0,_=>Oh _
 | i+1,hi=>by
  have h1:=CB L hs i (by omega);have h2:=hs i (by omega);rw[fW,Oz,SB];omega
theorem DU(g k c:Nat)(L:Nat->List (Nat × Bs))(hk:k<=1000)(hs:∀j,j<k->(L j).length<=600)(h33:∀j,j<k->∀x∈L j,x.2.size=33)(w:World)(hg:g<w.heap.size)(hL:∀j,j<k->∃x,w.cell? ⟨g,j,none⟩=some x/\Sm 0 w x (L j)):
 Calls prog 92 #[.slice (some ⟨g,0,none⟩) k c] w (Ret fun e w'=>Below w.heap.size w w'/\w'.ownsRow w.heap.size 150 37 e (gQ L k).length (aZ (gQ L k))):=by
 have HL:=Hid.mk' hL;have HS:Hid (∀i,i<=k->(gQ L i).length<=600*i):=CB L hs;have HG:=Hid.mk' hg;have H3:=Hid.mk' h33;clear hL hs hg h33;go_enter Tryz.func92,Tryz.ntmps92;go_wp2_with fail
 go_loopg [3,11] k (fun m s3 s11 W=>∃i:Nat,i+m=k/\s11=.int .i64 i/\s3=.int .i64 ((gQ L i).length:Int)/\w=W)
 case atStart=>exact⟨0,by omega,rfl,rfl,rfl⟩
 case round =>
  obtain⟨i,hik,rfl,rfl,rfl⟩:=hrel;by_cases hi:i<k
  ·have hi':(i:Int)<(k:Int):=by omega
   obtain⟨x,hc,hE⟩:=HL.out i hi;obtain⟨kx,cx,rfl,h1,-⟩:=hE;have hix:=atS g 0 k c i hi;rw[show 0+1*i=i by omega]at hix;have hlen:(gQ L (i+1)).length=(gQ L i).length+(L i).length:=by rw[fW,Oz]
   have hb1:=HS.out i (by omega);have hb2:=HS.out (i+1) (by omega);obtain⟨a,ha⟩:∃a,Hid ((gQ L i).length=a):=⟨_,rfl⟩
   obtain⟨b,hb⟩:∃b,Hid ((L i).length=b):=⟨_,rfl⟩
   rw[ha.out]at hlen hb1;rw[hb.out]at hlen h1;rw[ha.out];have hwr:OZ.wrap ((a:Int)+(b:Int))=((a+b:Nat):Int):=by rw[Rh];omega
   have hng:¬(((a+b:Nat):Int)<0):=by omega
   rw[hb.out]at hc;go_wp2;go_roundg (gk-1)
   case measure=>omega
   case rel=>exact⟨i+1,by omega,rfl,by rw[hlen,U1],rfl⟩
  ·have hi':¬(i:Int)<(k:Int):=by omega
   obtain rfl:i=k:=by omega
   go_wp2_with fail
   refine(ID (gQ L i).length (by have:=HS.out i (Oh _);omega) w).mono ?_;rintro e w1 ⟨v,rfl,hb1,ho1⟩;have K1:Hid (Below w.heap.size w w1/\w1.ownsRow w.heap.size 150 37 v (gQ L 0).length (aZ (gQ L 0))):=⟨hb1,ho1⟩
   clear hb1 ho1;go_wp2_with fail
   go_loopg [6,27] i (fun m s6 s27 W=>∃j:Nat,j+m=i/\s27=.int .i64 j/\Hid (Below w.heap.size w W/\W.ownsRow w.heap.size 150 37 s6 (gQ L j).length (aZ (gQ L j))))
   case atStart=>exact⟨0,by omega,rfl,K1⟩
   case round =>
    clear K1;obtain⟨j,hjk,rfl,KM⟩:=hrel;by_cases hj:j<i
    ·have hj':(j:Int)<(i:Int):=by omega
     obtain⟨x,hc0,hE0⟩:=HL.out j hj;have hc:wr.cell? ⟨g,j,none⟩=some x:=by rw[KM.out.1.cell (p:=⟨g,j,none⟩) HG.out];exact hc0
     have hE:=hE0.grow KM.out.1;have hb2:=HS.out (j+1) (by omega);have hlen:(gQ L (j+1)).length=(gQ L j).length+(L j).length:=by rw[fW,Oz]
     obtain⟨v',W',r1,r2,r3⟩:=EZ KM.out.2 (H3.out j hj) hE (by rw[<-hlen];omega) KM.out.1.size;rw[<-fW]at r2;have KN:Hid (Below w.heap.size w W'/\W'.ownsRow w.heap.size 150 37 v' (gQ L (j+1)).length (aZ (gQ L (j+1)))):=⟨KM.out.1.grown r3 KM.out.1.size (fun k hk=>(KM.out.2.lt k hk).1),r2⟩
     have HAP:=Hid.mk' r1;obtain⟨kx,cx,rfl,-⟩:=hE;have hix:=atS g 0 i c j hj;rw[show 0+1*j=j by omega]at hix;clear r1 r2 r3 hlen hb2 KM hE0 hc0;go_wp2_with (first|(refine mA (x:=u6) (y:=.slice (some ⟨kx,0,none⟩) (L j).length cx) (v:=v') (w':=W') rfl _ _ 71 rfl ?_ ?_ ?_ ?_;rfl;rfl;exact HAP.out)|fail)
     go_roundg (gk-1)
     case measure=>omega
     case rel=>exact⟨j+1,by omega,rfl,KN⟩
    ·have hj':¬(j:Int)<(i:Int):=by omega
     obtain rfl:j=i:=by omega
     go_wp2;go_ret;exact⟨_,rfl,KM.out.1,KM.out.2⟩
theorem Ih{W:World}{base:Nat}{v:Value}{l:List (Nat × Bs)}(h:W.ownsRow base 150 37 v l.length (aZ l))(hl:0<l.length):Sm base W v l:=by
 have h0:=fun {g:Nat}=>h.cells (g:=g)
 rcases h.2 with⟨-,h2⟩|⟨g,cap,cur,rfl,h1,hc,hn,-⟩
 ·omega
 ·refine⟨g,cap,rfl,hn,h1,(OH.1 hc).1,fun j u hu=>?_⟩;have:=h0 (g:=g) rfl j u hu;rw[add0]at this;rw[Om];exact this
theorem C9(B:Nat)(s t:Value)(l m:List (Nat × Bs))(hl0:0<l.length)(hl:l.length<=500)(hm:m.length<=500)(hl3:∀x∈l,x.2.size=33)(hm3:∀x∈m,x.2.size=33)(w:World)(h1:Sm B w s l)(h2:Sm B w t m):
 Calls prog 38 #[s,t] w (Ret fun e w'=>Below w.heap.size w w'/\Sm w.heap.size w' e (l++m)):=by
 have hb0:=hl0;obtain⟨g1,c1,e1,-⟩:=id h1;obtain⟨g2,c2,e2,-⟩:=id h2;subst e1;subst e2;obtain⟨w1,hw1⟩:∃w1,Hid (w.alloc (.cells #[.slice (some ⟨g1,0,none⟩) l.length c1,.slice (some ⟨g2,0,none⟩) m.length c2] 71)=w1):=⟨_,rfl⟩
 have hb:Below w.heap.size w w1:=by rw[<-hw1.out];exact aH _ _
 have hlt:w.heap.size<w1.heap.size:=by rw[<-hw1.out,Oo];omega
 have hM:w1.rangeAt w.heap.size 0 [.slice (some ⟨g1,0,none⟩) l.length c1,.slice (some ⟨g2,0,none⟩) m.length c2]:=by rw[<-hw1.out];exact(RG.Made.alloc w [.slice (some ⟨g1,0,none⟩) l.length c1,.slice (some ⟨g2,0,none⟩) m.length c2] 71).range
 have HC:=Hid.mk' (DU w.heap.size 2 2 (fun j=>if j=0 then l else m) (by decide) (fun j _=>by show(if j=0 then l else m).length<=600;split<;>omega) (fun j _=>by
  show ∀x∈(if j=0 then l else m),x.2.size=33;split
  ·exact hl3
  ·exact hm3) w1 hlt (fun j hj=>by
  have hz:∀ {v:Value}{l:List (Nat × Bs)},Sm B w v l->Sm 0 w1 v l:=fun h=>by
   obtain⟨g,c,q1,q2,-,q4,q5⟩:=h.grow hb;exact⟨g,c,q1,q2,QB _,q4,q5⟩
  have hj2:j=0\/j=1:=by omega
  rcases hj2 with rfl|rfl
  ·exact⟨_,hM 0 _ rfl,hz h1⟩
  ·exact⟨_,hM 1 _ rfl,hz h2⟩))
 have hcat:gQ (fun j=>if j=0 then l else m) 2=l++m:=by rw[fW,fW];rfl
 have HB:=Hid.mk' hb;have HK:Hid (gQ (fun j=>if j=0 then l else m) 2=l++m/\0<(l++m).length):=⟨hcat,by rw[Oz];omega⟩
 clear h1 h2 hM hlt hb hcat hl3 hm3;go_enter Tryz.func38,Tryz.ntmps38;go_wp2_with fail
 rw[hw1.out];refine HC.out.mono ?_;rintro e w2 ⟨vv,rfl,hb2,ho⟩;rw[HK.out.1]at ho;have K2:Hid (Below w.heap.size w w2/\Sm w.heap.size w2 vv (l++m)):=by
  obtain⟨g,c,q1,q2,q3,q4,q5⟩:=Ih ho HK.out.2;exact⟨HB.out.trans (hb2.mono HB.out.size),g,c,q1,q2,OM HB.out.size q3,q4,q5⟩
 clear hb2 ho HC;go_wp2;go_ret;exact⟨_,rfl,K2.out.1,K2.out.2⟩
theorem Sm.point(C:Fld P)(O:Ord N)(hord:∀r:EC.Pt P,EC.On r->EC.mul N r=none){B:Nat}{w:World}{v:Value}{l:List (Nat × Bs)}(h:Sm B w v l)(hl0:0<l.length)(hl:l.length<=512)(hn:∀x∈l,x.1<N)(hp:PtsL P l):
 Calls prog 39 #[v] w (Ret fun e w'=>Below w.heap.size w w'/\e=pvl (wr (gK P l))):=by
 obtain⟨g,c,rfl,-,-,hg,hr⟩:=h;have h33:∀x∈l.map (·.2),x.size=33:=fun x hx=>by
  obtain⟨y,hy,rfl⟩:=Pw.1 hx;obtain⟨X,-,e⟩:=hp y hy;rw[e];exact bO _
 have hm:∀j (hj:j<l.length),((l[j]?).getD (0,#[]))=l[j]:=fun j hj=>by rw[OA hj];rfl
 have hX:∀j,j<l.length->EC.On (fH P ((l[j]?).getD (0,#[])).2):=fun j hj=>by rw[hm j hj];exact hp.on C (Pm hj)
 refine(Am C O hord g l.length c hl0 hl (fun j=>((l[j]?).getD (0,#[])).1) (fun j=>fH P ((l[j]?).getD (0,#[])).2) (fun j hj=>by rw[hm j hj];exact hn _ (Pm hj)) hX w hg (fun j hj=>?_)).mono ?_
 ·rw[hm j hj];obtain⟨X,x1,x2⟩:=hp _ (Pm hj);rw[x2,iY C x1,<-x2];intro t u hu;have ht:t<37:=by
   have:=(OE.1 hu).1;rw[lC (h33 _ (Pw.2 ⟨_,Pm hj,rfl⟩))]at this;exact this
  have:=hr (37*j+t) u (by rw[pF l h33 j hj t ht];exact hu);rw[Om]at this;exact this
 ·rintro e w' ⟨u,rfl,hb,rfl⟩;refine⟨_,rfl,hb,?_⟩;rw[rA C l hp _ (Oh _),Ta]
theorem rH{P:Program}{fn:Func}{tmps:Array Value}{W:World}{k:Nat}{vs:List Value}{v:Value}(t u:Tmp)(T:TypeId)(hr:fn.results=#[.cell t T,.tmp u])(h:Row W k vs)(ht:tmps[t]? = some (.pointer (some ⟨k,0,none⟩)))(hv:tmps[u]? = some v)
 (hu:(P.underlying T).map (·.isRow)=some true) (hi:(P.info? T).map (·.size)=some vs.length):(results fn tmps).run P W=.ok (.tuple #[.agg vs.toArray,v]) W:=by
 obtain⟨d,hu,hd⟩:=Ol.1 hu;have h1:=run_loadVar_mid (P:=P) W k 0 T vs d h.2.1 hu hd hi;have h2:tmps.getD t undef=.pointer (some ⟨k,0,none⟩):=by rw[Ov,ht];rfl
 have h3:tmps.getD u undef=v:=by rw[Ov,hv];rfl
 unfold results;rw[hr];simp only[Array.mapM_eq_mapM_toList,List.mapM_cons,List.mapM_nil,h2,h3,asAddr];simp[OG,h1]
theorem MK(w:World):(Instr.build 47 #[]).run prog w=.ok (.agg z33.toArray) w:=by kernel_rfl
theorem Ln(g o cg:Nat)(w:World):(Instr.arrayAt 47 (.slice (some ⟨g,o,none⟩) 33 cg)).run prog w=.ok (.pointer (some ⟨g,o,none⟩)) w:=by kernel_rfl
theorem BW{bs:Bs}{p:Fin P × Fin P}(h:rd P bs=some p):bs.size=33:=by
 unfold rd at h;split at h
 ·assumption
 ·cases h
theorem DL{W:World}{g o:Nat}{b:Bs}(h:Holds encB W g o b):W.rangeAt g o (aD b):=fun j u hu=>by
 unfold aD at hu;rw[PD]at hu;obtain⟨x,hx,rfl⟩:=Ol.1 hu;have hj:j<b.size:=by have:=(OE.1 hx).1;simpa using this
 rw[(h j hj).1,getElem!_pos b j hj];rw[O7,OJ hj]at hx;rw[OW.inj hx]
theorem wR(C:Fld P)(v:Value)(bs:Bs)(p:Fin P × Fin P)(w:World)(hv:Arg33 w v bs)(hr:rd P bs=some p):Calls prog 34 #[v] w (Ret fun e w'=>Below w.heap.size w w'/\e=.tuple #[pvl bs,.bool true]):=by
 have hs:=BW hr;have HG:Hid (∀W,Below w.heap.size w W->Calls prog 89 #[v] W (Ret fun e w'=>Below W.heap.size W w'/\e=.bool true)):=fun W hb=>by
  have h:=yX C v bs W (hv.below hb);rw[hr]at h;exact h
 obtain⟨q,n,cap,rfl,e1,e2⟩:=hv;rw[hs]at e1;subst e1;obtain⟨g,o,rfl,-,hg,hH⟩:=e2 rfl;have HH:Hid (w.rangeAt g o (aD bs)/\g<w.heap.size):=⟨DL hH,hg⟩
 obtain⟨w1,hw1⟩:∃w1,Hid (w.alloc (.cells z33.toArray 47)=w1):=⟨_,rfl⟩
 have K1:Hid (Row w1 w.heap.size z33/\Below w.heap.size w w1):=by rw[<-hw1.out];exact⟨aO w _ _,aH w _⟩
 obtain⟨d,hd1,hd2⟩:=Ol.1 uCP;have HD:Hid (prog.underlying 47=some d/\d.isRow=true):=⟨hd1,hd2⟩
 have HS:=Hid.mk' hs;have harr:=Ln g o cap;clear hd1 hd2 C hr hs hH hg e2;go_enter Tryz.func34,Tryz.ntmps34;go_wp2_with (first|(refine bJ (v:=.pointer (some ⟨w.heap.size,0,none⟩)) (w':=w1) rfl (.alloc 47) rfl ?_ ?_;(rw[<-hw1.out];kernel_rfl))|fail)
 refine(HG.out w1 K1.out.2).mono ?_;rintro e w2 ⟨vv,rfl,hb2,rfl⟩;have K2:Hid (Row w2 w.heap.size z33/\Below w.heap.size w w2/\w2.rangeAt g o (aD bs)):=⟨K1.out.1.below hb2,K1.out.2.trans (hb2.mono K1.out.2.size),RG.aN HH.out.1 (K1.out.2.trans (hb2.mono K1.out.2.size)) HH.out.2⟩
 clear hb2 K1 hw1 HG;obtain⟨w3,hw3⟩:∃w3,Hid (w2.setCells w.heap.size 0 (aD bs)=w3):=⟨_,rfl⟩
 have hlen:(aD bs).length=33:=aM HS.out;have K3:Hid (Row w3 w.heap.size (aD bs)/\Below w.heap.size w w3):=by rw[<-hw3.out];exact⟨K2.out.1.put (by rw[hlen];rfl),RG.below_setCells (Oh _) _ _ _ K2.out.2.1⟩
 obtain⟨vt,hvt⟩:∃vt,Hid (O8 (aD bs).toArray=vt):=⟨_,rfl⟩
 have HI:Hid ((prog.info? 47).map (·.size)=some (aD bs).length/\w2.there w.heap.size 0 (aD bs).toArray.size/\(prog.info? 47).map (·.size)=some (aD bs).toArray.size):=by
  have e:(aD bs).toArray.size=33:=by rw[O4];exact hlen
  refine⟨by rw[hlen];exact cK,by rw[e];exact K2.out.1.2.2,by rw[e];exact cK⟩
 clear hlen;go_wp2_with (first|(refine wpList_load_mid rfl 47 _ rfl g o ?_ (aD bs) d ?_ ?_ ?_ ?_ ?_;rfl;exact K2.out.2.2;exact HD.out.1;exact HD.out.2;exact HI.out.1;rw[hvt.out])|(refine wpList_store_mid rfl 47 _ _ rfl w.heap.size 0 (aD bs).toArray ?_ ?_ ?_ ?_ ?_ ?_;rfl;exact hvt.out.symm;exact HI.out.2.1;exact HI.out.2.2;exact fD bs;rw[show(aD bs).toArray.toList=aD bs from rfl,hw3.out])|fail)
 refine bodyPost_ret (rH 2 3 47 rfl K3.out.1 rfl rfl uCP HI.out.1) rfl ?_;exact⟨_,rfl,K3.out.2,rfl⟩
theorem CE(C:Fld P)(v:Value)(bs:Bs)(w:World)(hv:Arg33 w v bs)(hr:rd P bs=none):Calls prog 34 #[v] w (Ret fun e w'=>Below w.heap.size w w'/\e=.tuple #[.agg z33.toArray,.bool false]):=by
 have HG:Hid (∀W,Below w.heap.size w W->Calls prog 89 #[v] W (Ret fun e w'=>Below W.heap.size W w'/\e=.bool false)):=fun W hb=>by
  have h:=yX C v bs W (hv.below hb);rw[hr]at h;exact h
 clear hv hr C;obtain⟨w1,hw1⟩:∃w1,Hid (w.alloc (.cells z33.toArray 47)=w1):=⟨_,rfl⟩
 have K1:Hid (Row w1 w.heap.size z33/\Below w.heap.size w w1):=by rw[<-hw1.out];exact⟨aO w _ _,aH w _⟩
 obtain⟨vt,hvt⟩:∃vt,Hid (O8 z33.toArray=vt):=⟨_,rfl⟩
 have HO:Hid (z33.toArray.all (·.oneCell')=true):=by show _=_;decide +kernel
 go_enter Tryz.func34,Tryz.ntmps34;go_wp2_with (first|(refine bJ (v:=.pointer (some ⟨w.heap.size,0,none⟩)) (w':=w1) rfl (.alloc 47) rfl ?_ ?_;(rw[<-hw1.out];kernel_rfl))|fail)
 refine(HG.out w1 K1.out.2).mono ?_;rintro e w2 ⟨vv,rfl,hb2,rfl⟩;have K2:Hid (Row w2 w.heap.size z33/\Below w.heap.size w w2):=⟨K1.out.1.below hb2,K1.out.2.trans (hb2.mono K1.out.2.size)⟩
 clear hb2 K1 hw1 HG;obtain⟨w3,hw3⟩:∃w3,Hid (w2.setCells w.heap.size 0 z33=w3):=⟨_,rfl⟩
 have K3:Hid (Row w3 w.heap.size z33/\Below w.heap.size w w3):=by rw[<-hw3.out];exact⟨K2.out.1.put rfl,RG.below_setCells (Oh _) _ _ _ K2.out.2⟩
 have HB:=Hid.mk' (MK w2);rw[hvt.out]at HB;go_wp2_with (first|(refine l9 (v:=vt) (w':=w2) rfl 47 _ rfl #[] ?_ ?_ ?_;kernel_rfl;exact HB.out)|(refine wpList_store_mid rfl 47 _ _ rfl w.heap.size 0 z33.toArray ?_ ?_ ?_ ?_ ?_ ?_;rfl;exact hvt.out.symm;exact K2.out.1.2.2;exact cK;exact HO.out;rw[show z33.toArray.toList=z33 from rfl,hw3.out])|fail)
 refine bodyPost_ret (rH 2 3 47 rfl K3.out.1 rfl rfl uCP cK) rfl ?_;exact⟨_,rfl,K3.out.2,rfl⟩
def o33:Bs:=Oj 33 0
end
section
open Go.RowKit Go.Sort Go.Deep
variable {P:Nat}[NeZero P]{N:Nat}
section
variable (w:World) (k6 k8 k9 k10 x kk c z B0:Nat) (X A B F G:Bs)
end
end
section
open Go.RowKit Go.Sort Go.Deep
variable {P:Nat}[NeZero P]{N:Nat}
theorem atP(k o n c i:Nat)(hi:i<n)(w:World):(Py 67 (.slice (some ⟨k,o,none⟩) n c) (.int .i64 i)).run prog w=.ok (.pointer (some ⟨k,o+33*i,none⟩)) w:=by
 have h1:¬(i:Int)<0:=by omega
 have h2:(i:Int)<n:=by omega
 go_simp
theorem NJ(N:Nat)(hN:N<=512):∃C0:List Value,C0.length=33*N/\∀w:World,(PN 67 (.int .i64 N) (.int .i64 N)).run prog w=.ok (.slice (some ⟨w.heap.size,0,none⟩) N N) (w.alloc (.cells C0.toArray 47)):=by
 have hu:prog.underlying 67=some (.slice 47):=by kernel_rfl
 have hi:(prog.info? 47).map (fun i=>(i.size,decide (i.bytes<=4000),i.zero.isSome))=some (33,true,true):=by kernel_rfl
 obtain⟨i,hi1,hi2⟩:=Ol.1 hi;simp only[P3.injEq,decide_eq_true_eq]at hi2;obtain⟨h1,h2,h3⟩:=hi2;obtain⟨z,hz⟩:=O9.1 h3;refine⟨(madeCells z.cells (N*33)).toList,by rw[Ot,size_madeCells,OX],fun w=>?_⟩;have hb:(i.bytes:Int)*(N:Int)<=281474976710656:=by
  have:i.bytes*N<=4000*512:=P7 h2 hN;have h5:((i.bytes*N:Nat):Int)<=281474976710656:=by omega
  rwa[Qd]at h5
 have:=run_make (P:=prog) w 67 47 i z hu hi1 hz .i64 .i64 (N:Int) (N:Int) (by omega) (by omega) hb (by omega);rw[Si,h1]at this;rw[Rn];exact this
structure Az(w W:World)(K k i:Nat)(L:Nat->Bs):Prop where
 bl:Below w.heap.size w W
 lt:K<W.heap.size
 th:W.there K 0 (33*k)
 rw:∀j,j<i->W.rangeAt K (33*j) (aD (L j))
theorem Az.grow{w W W':World}{K k i:Nat}{L:Nat->Bs}(h:Az w W K k i L)(hb:Below W.heap.size W W'):Az w W' K k i L:=
 ⟨h.bl.trans (hb.mono h.bl.size),Oi h.lt hb.size,RG.dC h.th hb h.lt,fun j hj=>RG.aN (h.rw j hj) hb h.lt⟩
theorem Az.put{w W:World}{K k i:Nat}{L:Nat->Bs}(h:Az w W K k i L)(hK:w.heap.size<=K)(hi:i<k)(hL:∀j,j<=i->(L j).size=33):Az w (W.setCells K (33*i) (aD (L i))) K k (i+1) L:=by
 refine⟨RG.below_setCells hK _ _ _ h.bl,by rw[RG.setCells_size];exact h.lt,SD h.th _ _ _,fun j hj=>?_⟩;by_cases hji:j=i
 ·subst hji;refine QJ W K _ _ fun t ht=>?_
  rw[aM (hL j (Oh _))]at ht;have:=h.th (33*j+t) (by omega);rwa[Om]at this
 ·exact QF (h.rw j (by omega)) K _ _ (OC (OQ (by rw[aM (hL j (by omega))];omega)))
def Ng(P:Nat)[NeZero P](w:World)(k:Nat)(L:Nat->Bs)(e:Value)(w':World):Prop:=
 Below w.heap.size w w'/\(((∀j,j<k->∃p,rd P (L j)=some p)/\∃K,e=.tuple #[.slice (some ⟨K,0,none⟩) k k,.bool true]/\w.heap.size<=K/\K<w'.heap.size/\w'.there K 0 (33*k)/\∀j,j<k->w'.rangeAt K (33*j) (aD (L j)))\/((∃j,j<k/\rd P (L j)=none)/\e=.tuple #[.slice none 0 0,.bool false]))
theorem Gc(C:Fld P)(gg k c:Nat)(hk:k<=512)(L:Nat->Bs)(w:World)(hg:gg<w.heap.size)(hL:∀j,j<k->∃v,w.cell? ⟨gg,j,none⟩=some v/\Arg33 w v (L j)):
 Calls prog 56 #[.func (.func 34) #[] #[],.slice (some ⟨gg,0,none⟩) k c] w (Ret (Ng P w k L)):=by
 obtain⟨C0,hC0,hmk⟩:=NJ k hk;have hmk':=hmk w;obtain⟨w1,hw1⟩:∃w1,Hid (w.alloc (.cells C0.toArray 47)=w1):=⟨_,rfl⟩
 rw[hw1.out]at hmk';have HM:=Hid.mk' hmk';have K1:Hid (Az w w1 w.heap.size k 0 L):=by
  have hR:Row w1 w.heap.size C0:=by rw[<-hw1.out];exact aO w _ _
  refine⟨by rw[<-hw1.out];exact aH _ _,hR.1,by rw[<-hC0];exact hR.2.2,fun j hj=>by omega⟩
 have HC:Hid (Fld P/\(∀j,j<k->∃v,w.cell? ⟨gg,j,none⟩=some v/\Arg33 w v (L j))/\gg<w.heap.size):=⟨C,hL,hg⟩
 obtain⟨d,hd1,hd2⟩:=Ol.1 uCP;have HD:Hid (prog.underlying 47=some d/\d.isRow=true):=⟨hd1,hd2⟩
 have HO:Hid (z33.toArray.all (·.oneCell')=true):=by show _=_;decide +kernel
 clear hd1 hd2 C hL hg hmk hC0 hw1;go_enter Tryz.func56,Tryz.ntmps56;go_wp2;clear hmk';go_loopg [16] k (fun m s16 W=>∃i:Nat,i+m=k/\s16=.int .i64 i/\Hid (Az w W w.heap.size k i L/\∀j,j<i->∃p,rd P (L j)=some p))
 case atStart=>exact⟨0,by omega,rfl,K1.out,fun j hj=>by omega⟩
 case round =>
  clear K1 HM;obtain⟨i,hik,rfl,KM⟩:=hrel;by_cases hi:i<k
  ·have hi':(i:Int)<(k:Int):=by omega
   obtain⟨v,hc0,hA0⟩:=HC.out.2.1 i hi;have hc:wr.cell? ⟨gg,i,none⟩=some v:=by rw[KM.out.1.bl.cell (p:=⟨gg,i,none⟩) HC.out.2.2];exact hc0
   have HA:Hid (Arg33 wr v (L i)):=hA0.below KM.out.1.bl;have hix:=atB gg 0 k c i hi;rw[show 0+1*i=i by omega]at hix;clear hc0 hA0;obtain⟨b,hbe⟩:∃b,Hid (L i=b):=⟨_,rfl⟩
   rw[hbe.out]at HA;obtain⟨k9,hk9⟩:∃k9:Nat,True:=⟨0,trivial⟩
   clear hk9 k9;cases hr:rd P b with
   | none =>
    go_wp2_with fail
    refine(CE HC.out.1 v b wr HA.out hr).mono ?_;rintro e W1 ⟨vv,rfl,hb1,rfl⟩;obtain⟨vz,hvz⟩:∃vz,Hid (O8 z33.toArray=vz):=⟨_,rfl⟩
    rw[hvz.out];obtain⟨k9,hk9⟩:∃k9,Hid (W1.heap.size=k9):=⟨_,rfl⟩
    obtain⟨W2,hW2⟩:∃W2,Hid (W1.alloc (.cells z33.toArray 47)=W2):=⟨_,rfl⟩
    obtain⟨W3,hW3⟩:∃W3,Hid (W2.setCells k9 0 z33=W3):=⟨_,rfl⟩
    have F2:Hid (Row W2 k9 z33/\Below w.heap.size w W2/\w.heap.size<=k9):=by
     have hbb:Below w.heap.size w W1:=KM.out.1.bl.trans (hb1.mono KM.out.1.bl.size);rw[<-hW2.out,<-hk9.out];exact⟨aO W1 _ _,hbb.alloc hbb.size _,hbb.size⟩
    have K3:Hid (Below w.heap.size w W3):=by rw[<-hW3.out];exact RG.below_setCells F2.out.2.2 _ _ _ F2.out.2.1
    have HN:Hid (i<k/\rd P (L i)=none):=⟨hi,by rw[hbe.out];exact hr⟩
    clear hb1 KM hr;go_wp2_with (first|(refine bJ (v:=.pointer (some ⟨k9,0,none⟩)) (w':=W2) rfl (.alloc 47) rfl ?_ ?_;(rw[<-hW2.out,<-hk9.out];kernel_rfl))|(refine wpList_store_mid rfl 47 _ _ rfl k9 0 z33.toArray ?_ ?_ ?_ ?_ ?_ ?_;rfl;exact hvz.out.symm;exact F2.out.1.2.2;exact cK;exact HO.out;rw[show z33.toArray.toList=z33 from rfl,hW3.out])|fail)
    go_ret2
    exact⟨_,rfl,K3.out,OC ⟨⟨i,HN.out⟩,rfl⟩⟩
   | some p =>
    have hs:=BW hr;go_wp2_with fail
    refine(wR HC.out.1 v b p wr HA.out hr).mono ?_;rintro e W1 ⟨vv,rfl,hb1,rfl⟩;obtain⟨vz,hvz⟩:∃vz,Hid (pvl b=vz):=⟨_,rfl⟩
    rw[hvz.out];have hlen:(aD b).length=33:=aM hs;have hsz:(aD b).toArray.size=33:=by rw[O4];exact hlen
    obtain⟨k9,hk9⟩:∃k9,Hid (W1.heap.size=k9):=⟨_,rfl⟩
    obtain⟨W2,hW2⟩:∃W2,Hid (W1.alloc (.cells z33.toArray 47)=W2):=⟨_,rfl⟩
    obtain⟨W3,hW3⟩:∃W3,Hid (W2.setCells k9 0 (aD b)=W3):=⟨_,rfl⟩
    obtain⟨W4,hW4⟩:∃W4,Hid (W3.setCells w.heap.size (33*i) (aD b)=W4):=⟨_,rfl⟩
    have A1:Az w W1 w.heap.size k i L:=KM.out.1.grow hb1;have F2:Hid (Row W2 k9 z33/\Below W1.heap.size W1 W2):=by
     rw[<-hW2.out,<-hk9.out];exact⟨aO W1 _ _,aH _ _⟩
    have F3:Hid (Row W3 k9 (aD b)/\Az w W3 w.heap.size k i L):=by
     rw[<-hW3.out];exact⟨F2.out.1.put (by rw[hlen];rfl),A1.grow (RG.below_setCells (by rw[hk9.out];exact Oh _) _ _ _ F2.out.2)⟩
    have K4:Hid (Az w W4 w.heap.size k (i+1) L/\∀j,j<i+1->∃p,rd P (L j)=some p):=by
     have hall:∀j,j<i+1->∃p,rd P (L j)=some p:=fun j hj=>by
      by_cases hji:j=i
      ·subst hji;exact⟨p,by rw[hbe.out];exact hr⟩
      ·exact KM.out.2 j (by omega)
     have h:=F3.out.2.put (Oh _) hi (fun j hj=>by obtain⟨q,hq⟩:=hall j (by omega);exact BW hq);rw[hbe.out,hW4.out]at h;exact⟨h,hall⟩
    have HI:Hid ((prog.info? 47).map (·.size)=some (aD b).length/\(prog.info? 47).map (·.size)=some (aD b).toArray.size/\W2.there k9 0 (aD b).toArray.size/\W3.there w.heap.size (33*i) (aD b).toArray.size):=by
     rw[hlen,hsz];refine⟨cK,cK,F2.out.1.2.2,fun t ht=>?_⟩;have:=F3.out.2.th (33*i+t) (by omega);rwa[Om]at this
    have hix2:=atP w.heap.size 0 k k i hi;clear hb1 KM hr hlen hsz A1 hs;go_wp2_with (first|(refine bJ (v:=.pointer (some ⟨k9,0,none⟩)) (w':=W2) rfl (.alloc 47) rfl ?_ ?_;(rw[<-hW2.out,<-hk9.out];kernel_rfl))|(refine wpList_store_mid rfl 47 _ _ rfl k9 0 (aD b).toArray ?_ ?_ ?_ ?_ ?_ ?_;rfl;exact hvz.out.symm;exact HI.out.2.2.1;exact HI.out.2.1;exact fD b;rw[show(aD b).toArray.toList=aD b from rfl,hW3.out])|(refine wpList_load_mid rfl 47 _ rfl k9 0 ?_ (aD b) d ?_ ?_ ?_ ?_ ?_;rfl;exact F3.out.1.2.1;exact HD.out.1;exact HD.out.2;exact HI.out.1;rw[show O8 (aD b).toArray=vz from hvz.out])|(refine wpList_store_mid rfl 47 _ _ rfl w.heap.size (33*i) (aD b).toArray ?_ ?_ ?_ ?_ ?_ ?_;rfl;exact hvz.out.symm;exact HI.out.2.2.2;exact HI.out.2.1;exact fD b;rw[show(aD b).toArray.toList=aD b from rfl,hW4.out])|fail)
    go_roundg (gk-1)
    case measure=>omega
    case rel=>exact⟨i+1,by omega,rfl,K4⟩
  ·have hi':¬(i:Int)<(k:Int):=by omega
   obtain rfl:i=k:=by omega
   go_wp2
   go_ret2
   exact⟨_,rfl,KM.out.1.bl,OQ ⟨KM.out.2,w.heap.size,rfl,Oh _,KM.out.1.lt,KM.out.1.th,KM.out.1.rw⟩⟩
end
section
open Go.RowKit Go.Sort Go.Deep
variable {P:Nat}[NeZero P]{N:Nat}
section
variable (w:World) (n K k3 k7 i s m:Nat) (p:Bs) (l:List (Nat × Bs))
end
end
section
open Go.RowKit Go.Sort Go.Deep
variable {P:Nat}[NeZero P]{N:Nat}
def Cw(W:World)(q:Option Addr)(n cap:Nat)(T:Bs):Prop:=(q=none/\n=0/\cap=0/\T=#[])\/∃g,q=some ⟨g,0,none⟩/\T.size=n/\g<W.heap.size/\Holds encB W g 0 T/\n<=cap
theorem Cw.grow{W W':World}{q:Option Addr}{n cap:Nat}{T:Bs}(h:Cw W q n cap T)(hb:Below W.heap.size W W'):Cw W' q n cap T:=by
 rcases h with h|⟨g,h1,h2,h3,h4,h5⟩
 ·exact OQ h
 ·exact OC ⟨g,h1,h2,Oi h3 hb.size,Holds.below h4 hb h3,h5⟩
theorem Cw.conv{W:World}{q:Option Addr}{n cap:Nat}{T:Bs}(h:Cw W q n cap T):(convert 22 9 (.slice q n cap)).run prog W=.ok (.string ⟨T⟩) W:=by
 rcases h with⟨rfl,rfl,rfl,rfl⟩|⟨g,rfl,h2,h3,h4,-⟩
 ·kernel_rfl
 ·exact conv_str prog 22 9 5 slice22 int5 str9 W g 0 n cap T h4 h2
theorem El.cw{n:Nat}{W:World}{x:Value}{b:Bs}(h:El n W x b):∃q m cap,x=.slice q m cap/\Cw W q m cap b:=by
 obtain⟨k,c,rfl,h1,h2,h3,h4⟩:=h;exact⟨_,_,_,rfl,OC ⟨k,rfl,h2,h3,h4,h1⟩⟩
end
section
open Go.RowKit Go.Sort Go.Deep
variable {P:Nat}[NeZero P]{N:Nat}
section
variable (w:World) (k6 k8 n:Nat) (Y A T:Bs)
end
end
section
open Go.RowKit Go.Sort Go.Deep
variable {P:Nat}[NeZero P]{N:Nat}
theorem zP(x:UInt8)(r:List UInt8):beV (x :: r)=x.toNat*256^r.length+beV r:=by
 have h:=dQ [x] r;rw[show [x]++r=x :: r from rfl]at h;rw[h];simp[beV]
theorem GR(a:Bs):((⟨a⟩:ByteArray).toList == (⟨a⟩:ByteArray).toList)=true:=by simp
end
section
open Go.RowKit Go.Sort Go.Deep
theorem CN:∀(l r:List UInt8),l.length=r.length->beV l=beV r->l=r
 | [],[],_,_=>rfl
 | x :: l,y :: r,hl,h=>by
  have h1:l.length=r.length:=Nat.succ.inj hl;rw[zP,zP,h1]at h;have b1:=Bu l;have b2:=Bu r;rw[h1]at b1;have hp:0<256^r.length:=Nat.pow_pos (by decide);have e1:(x.toNat*256^r.length+beV l)/256^r.length=x.toNat:=by
   rw[OX,UT hp,Rv b1,P9]
  have e2:(y.toNat*256^r.length+beV r)/256^r.length=y.toNat:=by
   rw[OX,UT hp,Rv b2,P9]
  have e3:x.toNat=y.toNat:=by rw[<-e1,<-e2,h]
  have e4:x=y:=Tf.1 e3;subst e4;rw[CN l r h1 (by omega)]
theorem Ju{b:Bs}(hs:b.size=32){n:Nat}(hn:n<top)(h:beV b.toList=n):bx n=b:=by
 have:=CN (bx n).toList b.toList (by rw[Ot,Ot,bM,hs]) (by rw[wT hn,h]);exact Array.toList_inj.1 this
variable {P:Nat}[NeZero P]
theorem J3(C:Fld P){m y:Fin P}(h:rt m=some y):y.val%2=0:=by
 have h2:=EB C (xN h);rw[h]at h2;have e:=OW.inj h2;by_cases ho:y.val%2=1
 ·rw[if_pos ho]at e;have e3:=congrArg Uo e;have h0:(0-y:Fin P).val=(P-y.val)%P:=by rw[<-jC,EC.val_zero,Om]
  rw[h0]at e3;have h3:=C.p3;have hy:=y.isLt;rw[Oy (by omega)]at e3;omega
 ·omega
theorem Js{b:Bs}(hs:b.size=33):b=#[b[0]!]++dX b:=by
 unfold dX;apply Array.ext
 ·rw[ON,Array.size_extract,hs];rfl
 ·intro i h1 h2;by_cases hi:i=0
  ·subst hi;rw[RP (by simp),getElem!_pos b 0 (by omega)];rfl
  ·rw[Array.getElem_append_right (by simp;omega),Array.getElem_extract]
   congr 1
   simp;omega
theorem JS{x:UInt8}(h:ub x=2):x=2:=by
 apply Tf.1;have:(x.toNat:Int)=2:=h;show x.toNat=2;omega
theorem Ei{x:UInt8}(h:ub x=3):x=3:=by
 apply Tf.1;have:(x.toNat:Int)=3:=h;show x.toNat=3;omega
theorem LC(C:Fld P){b:Bs}{p:Fin P × Fin P}(h:rd P b=some p):wr (pt p)=b:=by
 have hon:=BV C h;unfold rd at h;split at h
 ·rename_i hs
  split at h
  ·rename_i hz
   obtain rfl:=OW.inj h;unfold pt;rw[if_pos ⟨rfl,rfl⟩];exact((iW hs).1 hz).symm
  ·split at h
   ·rename_i hm
    split at h
    ·rename_i hx
     obtain⟨y,hr,rfl⟩:=Ol.1 h;have hsq:=xN hr;have hpar:=J3 C hr;have hy0:y≠0:=C.cur.y_ne (uM hsq);have hyv:y.val≠0:=fun e=>hy0 (Fin.ext (by rw[EC.val_zero];exact e))
     have hxv:(rdx P b).val=beV (dX b).toList:=Oy hx;have hbx:bx (rdx P b).val=dX b:=Ju (eH hs) (C.top _) hxv.symm;have h3:=C.p3;have hyl:=y.isLt;have h0:(0-y:Fin P).val=P-y.val:=by rw[<-jC,EC.val_zero,Om,Oy (by omega)]
     by_cases h3':ub b[0]! = 3
     ·rw[if_pos h3'];unfold pt;rw[if_neg (fun e=>by
       have:=congrArg Uo e.2;rw[EC.val_zero,h0]at this;omega)]
      show #[mark (0-y:Fin P).val]++bx (rdx P b).val=b;rw[hbx,h0];unfold mark;rw[if_pos (by omega),<-Ei h3'];exact(Js hs).symm
     ·rw[if_neg h3'];have h2':ub b[0]! = 2:=hm.resolve_right h3';unfold pt;rw[if_neg (fun e=>hy0 e.2)];show #[mark y.val]++bx (rdx P b).val=b;rw[hbx];unfold mark;rw[if_neg (by omega),<-JS h2'];exact(Js hs).symm
    ·cases h
   ·cases h
 ·cases h
end
section
open Go.RowKit Go.Sort Go.Deep
variable {P:Nat}[NeZero P]{N:Nat}
section
variable (w:World) (K k8 n o:Nat) (S Q T:Bs)
end
end
section
open Go.RowKit Go.Sort Go.Deep
variable {P:Nat}[NeZero P]{N:Nat}
def encV(v:Value):Value:=v
theorem qO(s:ByteArray)(w:World):
 ∃cap w',(convert 9 22 (.string s)).run prog w=.ok (.slice (some ⟨w.heap.size,0,none⟩) s.size cap) w'/\s.size<=cap/\Below w.heap.size w w'/\Holds encB w' w.heap.size 0 s.data/\w.heap.size<w'.heap.size:=by
 have h:=Lib.run_convert_string_bytes (P:=prog) w 9 22 5 s str9 slice22 int5;have hcap:s.size<=grownCap w s.size 0 5:=by
  unfold grownCap Ul;exact RL _ _
 have hl:s.data.size=s.size:=rfl;refine⟨_,_,h,hcap,?_,?_,by rw[SZ];omega⟩
 ·refine⟨?_,?_,?_,?_,fun k hk=>Lib.bytesWorld_at_old w 5 s k hk⟩
  ·unfold R7 Ss;rw[if_neg (by decide)];rfl
  ·unfold R7 Ss;rw[if_neg (by decide)];rfl
  ·unfold R7 Ss;rw[if_neg (by decide)];rfl
  ·rw[SZ];omega
 ·intro j hj;have hb:=Lib.bytesWorld_at_new w 5 s;have hsz:(QN w 5 s).size=grownCap w s.size 0 5:=by
   unfold QN;rw[ON,Array.size_map,Ou];omega
  have hc:(QN w 5 s)=(s.data++Oj (grownCap w s.size 0 5-s.size) 0).map encB:=by
   unfold QN;rw[Array.map_append,Array.map_replicate];rfl
  have hj2:j<(s.data++Oj (grownCap w s.size 0 5-s.size) 0).size:=by rw[ON,Ou];omega
  have hget:(s.data++Oj (grownCap w s.size 0 5-s.size) 0)[j]=s.data[j]!:=by
   rw[RP hj,getElem!_pos s.data j hj]
  constructor
  ·unfold Qs;rw[hb];simp only[Om];rw[if_neg (by decide),hc,Array.getElem?_map,OJ hj2,Sf,hget]
  ·unfold RZ;rw[hb];simp only[Om,hsz];simp;omega
def rdT(P:Nat)[NeZero P](bs:Bs):T3 P:=
 if bs.size=33 then if jR bs then(0,1,0) else if ub bs[0]! = 2\/ub bs[0]! = 3 then if beV (dX bs).toList<P then
  (rdx P bs,if ub bs[0]! = 3 then 0-(rt (rdx P bs*rdx P bs*rdx P bs+7)).getD 0 else(rt (rdx P bs*rdx P bs*rdx P bs+7)).getD 0,1) else(0,0,0) else(0,0,0) else(0,0,0)
theorem B5(C:Fl3 P)(bs:Bs):Gives 40 #[.string ⟨bs⟩] (.tuple #[tv (rdT P bs),.bool (rd P bs).isSome]):=by
 intro w;unfold rdT rd;by_cases hs:bs.size=33
 ·rw[if_pos hs,if_pos hs];by_cases hz:jR bs
  ·rw[if_pos hz,if_pos hz];obtain rfl:=(iW hs).1 hz;exact Ha C w
  ·rw[if_neg hz,if_neg hz];have hz':¬bs=mP:=fun h=>hz ((iW hs).2 h)
   by_cases hm:ub bs[0]! = 2\/ub bs[0]! = 3
   ·rw[if_pos hm,if_pos hm];by_cases hx:beV (dX bs).toList<P
    ·rw[if_pos hx,if_pos hx];have hx':beV (dX bs).toList=(rdx P bs).val:=(Oy hx).symm;cases hr:rt (rdx P bs*rdx P bs*rdx P bs+7) with
     | none=>exact BS C bs (rdx P bs) 0 false w hs hz' hm hx' (BX C _ hr)
     | some y =>
      rw[Sf];exact BS C bs (rdx P bs) y true w hs hz' hm hx' (vW C _ _ hr)
    ·rw[if_neg hx,if_neg hx];exact J4 C _ bs w hs hz' hm (uH C (dX bs) (eH hs) hx)
   ·rw[if_neg hm,if_neg hm];exact Hb C bs hs hz' _ rfl (fun h=>hm (OQ h)) (fun h=>hm (OC h)) w
 ·rw[if_neg hs,if_neg hs];exact J5 C bs hs w
def lT(P:Nat)[NeZero P](bs:Bs):EC.Pt P:=match rd P bs with|some p=>pt p|none=>none
theorem B9{bs:Bs}{p:Fin P × Fin P}(h:rd P bs=some p):lT P bs=pt p:=by unfold lT;rw[h]
theorem rJ(C:Fl3 P){bs:Bs}(h:(rd P bs).isSome=true):FracT (rdT P bs) (lT P bs):=by
 obtain⟨p,hp⟩:=O9.1 h;rw[B9 hp];have hp0:=hp;unfold rdT;unfold rd at hp;split at hp
 ·rename_i hs
  rw[if_pos hs];split at hp
  ·rename_i hz
   rw[if_pos hz];obtain rfl:=OW.inj hp;unfold pt;rw[if_pos ⟨rfl,rfl⟩];exact FracT.none
  ·rename_i hz
   rw[if_neg hz];split at hp
   ·rename_i hm
    rw[if_pos hm];split at hp
    ·rename_i hx
     rw[if_pos hx];obtain⟨y,hr,hpe⟩:=Ol.1 hp;have hsq:=xN hr;have hon:=BV C.toFld hp0;rw[hr];show FracT (rdx P bs,(if ub bs[0]! = 3 then 0-y else y),1) (pt p);have hb:p=(rdx P bs,if ub bs[0]! = 3 then 0-y else y):=hpe.symm;have hpt:pt p=some p:=by
      unfold pt;rw[if_neg];rintro⟨-,h2⟩;rw[hb]at h2;dsimp only at h2;split at h2
      ·exact C.toFld.cur.y_ne (AO hsq) h2
      ·exact C.toFld.cur.y_ne (uM hsq) h2
     rw[hpt,hb];split
     ·exact⟨nO C.toFld _ _,AO hsq⟩
     ·exact⟨nO C.toFld _ _,uM hsq⟩
    ·cases hp
   ·cases hp
 ·cases hp
theorem Ii{W:World}{B0 n:Nat}{v:Value}{T:Bs}(h:W.ownsRow B0 5 1 v n (cb T))(hn:0<n)(hT:T.size=n):El n W v T:=by
 have h0:=fun {g:Nat}=>h.cells (g:=g)
 rcases h.2 with⟨-,h2⟩|⟨g,cap,cur,rfl,-,hc,hq⟩
 ·omega
 ·have hr:W.rangeAt g 0 (cb T):=fun j u hu=>by
   have:=h0 (g:=g) rfl j u hu;rw[add0]at this;rw[Om];exact this
  refine⟨g,cap,rfl,?_,hT,(OH.1 hc).1,cb_holds hr fun j hj=>⟨?_,?_⟩⟩
  ·exact hq.1
  ·rw[hr j _ (OA hj)];rfl
  ·simp[RZ,hc]
end
section
open Go.RowKit Go.Sort Go.Deep Go.Shelf
attribute [local go_sem] Oper.semAt_some
def chv(sb so c i:Nat):Value:=.slice (some ⟨sb,so+c*i,none⟩) c c
theorem Fl{w w':World}(h:Below w.heap.size w w')(row:Option Nat):w.grownBy w' row:=⟨h.os,h.tape,h.output,h.size,fun k hk _=>h.block k hk⟩
theorem sl3(sb so n cap x y:Nat)(h1:x<y)(h2:y<=cap)(w:World):(Pp 22 (.slice (some ⟨sb,so,none⟩) n cap) (some (.int .i64 x)) (some (.int .i64 y)) (some (.int .i64 y))).run prog w=.ok (.slice (some ⟨sb,so+x,none⟩) (y-x) (y-x)) w:=by
 have h3:¬y=x:=by omega
 have h4:(x:Int)<=y:=by omega
 have h5:(y:Int)<=cap:=by omega
 have h6:x<=y:=by omega
 go_simp
theorem IP(sb so c m n cap k1 k2:Nat)(w:World)(hc:0<c)(hn:n=c*m)(hcap:n<=cap)(hbig:n<=1073741824)(h1:w.cell? ⟨k1,0,none⟩=some (.slice (some ⟨sb,so,none⟩) n cap))(h2:w.cell? ⟨k2,0,none⟩=some (.int .i64 c))(l1:k1<w.heap.size)(l2:k2<w.heap.size)(nn:Nat):
 SeqStopsK Fence.wide nn prog 141 #[.pointer (some ⟨k1,0,none⟩),.pointer (some ⟨k2,0,none⟩)] (fun i:Nat=>#[chv sb so c i]) (Below w.heap.size) (fun xs=>xs=Pj m) (fun _=>True) m w:=by
 intro l J Jx W hW hJ hJx hY h0;have HN:Hid (n=c*m):=hn;clear hn;refine callsIn_of_wp Tryz.func141 rfl trivial ?_ rfl;simp only[Tryz.ntmps141,O4,OV,List.length_nil,QL,Nat.reduceSub,Array.replicate_succ,Array.replicate_zero,List.push_toArray,List.append_toArray,List.nil_append,List.cons_append]
 gi_wp2
 gi_loopw [4] (fun p wr=>∃i:Nat,i<=m/\p=.int .i64 ((c*i:Nat):Int)/\J (Pj i) wr/\Below w.heap.size w wr/\W.heap.size<=wr.heap.size) (fun p wr=>n-(intOf p).toNat)
 case atStart =>
  exact⟨0,QB _,by rw[Nat.mul_zero];rfl,h0,hW,Oh _⟩
 case round =>
  obtain⟨i,hi,rfl,hJi,hB,hsz⟩:=hrel;have c1:wr.cell? ⟨k1,0,none⟩=some (.slice (some ⟨sb,so,none⟩) n cap):=(OR (hB.block k1 l1)).trans h1;have c2:wr.cell? ⟨k2,0,none⟩=some (.int .i64 c):=(OR (hB.block k2 l2)).trans h2;by_cases he:i=m
  ·subst he;have hge:¬((c*i:Nat):Int)<(n:Int):=by rw[HN.out];omega
   gi_wp2
   go_end0
   exact⟨⟨_,rfl⟩,.inl hJi⟩
  ·obtain⟨x,hx⟩:∃x,Hid (c*i=x):=⟨_,rfl⟩
   have hxn:x+c<=n:=by
    have:=Nat.mul_le_mul_left c (show i+1<=m by omega);rw[Qr,hx.out,<-HN.out]at this;omega
   have hlt:(x:Int)<(n:Int):=by omega
   rw[hx.out]
   gi_wp2_with fail
   refine wpIn_wide.2 ?_;have hsl:(Pp 22 (.slice (some ⟨sb,so,none⟩) n cap) (some (.int .i64 x)) none none).run prog wr.drew=.ok (.slice (some ⟨sb,so+x,none⟩) (n-x) (cap-x)) wr.drew:=by
    have h1:¬(x:Int)<0:=by omega
    have h2:(x:Int)<=n:=by omega
    have h3:(n:Int)<=cap:=by omega
    have h4:¬cap=x:=by omega
    go_simp
   have c1':wr.drew.cell? ⟨k1,0,none⟩=some (.slice (some ⟨sb,so,none⟩) n cap):=c1;have c2':wr.drew.cell? ⟨k2,0,none⟩=some (.int .i64 c):=c2;go_region
   rename_i K ha
   refine ha _ _ ?_;clear ha hsl c1' c2' hlt;obtain⟨fn,tmps,assign,body,hy,hR⟩:=hY (Pj i) i wr.drew (hJ _ wr _ none hJi (Fl ((Ow _ wr).drew) none) (fun _ e=>by cases e)) (by rw[QI];omega);have c1':wr.drew.cell? ⟨k1,0,none⟩=some (.slice (some ⟨sb,so,none⟩) n cap):=c1;have c2':wr.drew.cell? ⟨k2,0,none⟩=some (.int .i64 c):=c2;have hsl:∀w:World,(Pp 22 (.slice (some ⟨sb,so,none⟩) n cap) (some (.int .i64 x)) (some (.int .i64 ((x+c:Nat):Int))) (some (.int .i64 ((x+c:Nat):Int)))).run prog w=.ok (.slice (some ⟨sb,so+x,none⟩) c c) w:=fun w=>by
    have:=sl3 sb so n cap x (x+c) (by omega) (by omega) w;rwa[show x+c-x=c by omega]at this
   unfold chv at hy;rw[hx.out]at hy
   gi_wp2_with fail
   clear hy;refine⟨fun h=>(by cases h),hR.mono ?_⟩;clear hR hsl c1' c2' c1;have hBd:Below w.heap.size w wr.drew:=hB.drew;rintro e W8 (⟨rfl,hJ8,hk8⟩|⟨rfl,hJx8⟩)
   ·have c3:W8.cell? ⟨k2,0,none⟩=some (.int .i64 c):=(OR ((hBd.trans hk8).block k2 l2)).trans h2
    gi_wp2_with fail
    refine⟨⟨i+1,by omega,?_,?_,hBd.trans hk8,OM hsz hk8.size⟩,?_⟩
    ·rw[Qr,hx.out,Qn];rfl
    ·rw[Rp];exact hJ8
    ·simp[intOf];omega
   ·gi_wp2_with fail
    refine bodyPost_ret (results_none rfl _ _ _) rfl ?_;exact⟨⟨_,rfl⟩,.inr ⟨_,trivial,hJx8⟩⟩
end
end Go.Proofs.YtmfodnkinmnopaaGreat
