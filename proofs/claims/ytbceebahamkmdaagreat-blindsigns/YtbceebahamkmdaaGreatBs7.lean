import Derived.Lib.AppendZeros
import Derived.Test.YtbceebahamkmdaaGreatBs6
set_option linter.unusedVariables false
set_option linter.unusedSimpArgs false
set_option maxRecDepth 1000000
set_option maxHeartbeats 4000000
namespace Go.Proofs.YtbceebahamkmdaaGreat
open _root_.Array renaming all_eq_true'->RQ,any_eq_true'->S7,ext_getElem?->VK,getD_eq_getD_getElem?->P7,getElem?_eq_getElem->Qp,getElem?_eq_some_iff->Ql,getElem?_replicate->S5,getElem?_setIfInBounds->Ry,getElem?_toList->QF,length_toList->P5,replicate->P3,size_append->Qg,size_replicate->P8,size_setIfInBounds->Qw,toList_replicate->T0
open _root_.Bool renaming and_eq_true->Qa,or_eq_false_iff->Vx,or_eq_true->Wq,true_or->SU
open _root_.Classical renaming byContradiction->Q9
open _root_.Fin renaming ofNat->Su
open _root_.Go.Builtin renaming append_->QV,clear_->TZ,zeroCells->QZ
open _root_.Go.Code renaming region->RY
open _root_.Go.Instr renaming box->SQ,indexAt->Rc,sliceAt->Rk
open _root_.Go.IntKind renaming i64->QE,wrap_i64->Tf
open _root_.Go.Lib renaming run_append_nil_zeros->Vj,wpList_append_run->Rj
open _root_.Go.Next renaming value->Te
open _root_.Go.Op renaming equal->Vv
open _root_.Go.Oper renaming semAt_some->U5,upon_enter->S9,wp->Sc
open _root_.Go.Region renaming binds->RH,ready->R7,wanted->TK
open _root_.Go.RowKit.Below renaming refl->Qd
open _root_.Go.Sem renaming run_bind->Qm
open _root_.Go.Value renaming agg->QA
open _root_.Go.World renaming cell?->Rs,cell?_of_block->QD,frozen?->S6,frozen?_of_block->RL,ownsRow_made->VG,ownsRow_nil->Uu,rangeAt_setCells_apart->RX,size_alloc->P4
open _root_.Int renaming natCast_add->WC
open _root_.List renaming all_eq_true->Qt,append_nil->SK,countP_replicate->Vq,eq_nil_iff_forall_not_mem->UK,ext_getElem?->UJ,filter_sublist->VC,finRange->WG,flatMap_append->TC,flatMap_cons->UI,getElem?_append_left->QU,getElem?_eq_getElem->Qb,getElem?_eq_some_iff->Qf,getElem?_map->Re,getElem?_of_mem->RD,getElem?_range->Uq,getElem?_take->Rp,getElem_cons_succ->Vm,getElem_mem->QG,length_append->P9,length_cons->QB,length_filter_le->Vp,length_map->Qi,length_range->SL,length_take->SZ,map_append->SJ,map_cons->Sx,mem_cons->QT,mem_cons_of_mem->Qx,mem_cons_self->QH,mem_filter->Ud,mem_finRange->VW,mem_flatMap->UG,mem_map->QN,mem_of_mem_take->Vt,mem_range->RB,mem_toArray->SY,nodup_cons->Tt,nodup_finRange->Um,pairwise_map->VV,range->QJ,range_succ->Tw,set_cons_succ->QM,size_toArray->Qr,take_add_one->VT,take_length->UF
open _root_.List.Pairwise renaming imp->U4
open _root_.Nat renaming div_add_mod->Uk,le_of_ble_eq_true->Ss,le_refl->PX,le_trans->Qj,lt_of_lt_of_le->PY,lt_of_succ_le->Ts,lt_or_ge->Ty,lt_succ_self->So,mod_lt->Rz,mul_comm->Qy,mul_le_mul_right->SA,mul_succ->Uj,reduceAdd->Tb,sub_zero->T8,zero_add->P0,zero_le->Rh
open _root_.Ne renaming symm->Xj
open _root_.Option renaming isSome_iff_exists->Qz,map_eq_some_iff->PZ,some->Qn
open _root_.Or renaming inl->Qh,inr->Qc
open _root_.Prod renaming mk->Ro
open _root_.UInt8 renaming ofNat->P6
open Go.Proofs.Tryz (prog)
namespace RG
open Go Go.RowKit
variable {P:Program}{ops:Array Oper}{Q:Exit->Act->World->Prop}{w:World}{a0:Act}{L:Array Bool}
structure Flow where
 R:Nat->Value->World->Prop
 B:Nat->World->Prop
 E:Nat->World->World->Prop
 kill:Nat->List Nat
 killB:Nat->List Nat
def dY(ops:Array Oper)(i:Nat):Option Tmp:=(ops[i]?).bind (·.dst)
def depOn(ops:Array Oper)(x k:Nat):Bool:=match ops[x]? with|some o=>jC o k|none=>true
def okK(ops:Array Oper)(k:Nat)(l:List Nat):Bool:=l.all (fun x=>x == k || depOn ops x k)
def Db(ops:Array Oper)(k:Nat)(t:Tmp):Bool:=(QJ ops.size).all (fun i=>dY ops i != some t || i == k || depOn ops i k)
structure InvF(F:Flow)(ops:Array Oper)(a0:Act)(L:Array Bool)(a:Act)(w:World):Prop where
 size:L.size=ops.size
 cl:∀(i:Nat) (o:Oper),ops[i]? = some o->on L i=true->∀e∈o.after,RH .any e=true->on L e.on=true
 def':a.defers=a0.defers
 sz:a.tmps.size=a0.tmps.size
 rest:∀t:Tmp,(∀i,on L i=true->dY ops i≠some t)->a.tmps[t]? = a0.tmps[t]?
 all:∃V:Nat->Value,(∀i d,on L i=true->dY ops i=some d->a.tmps[d]? = some (V i))/\(∀i,on L i=true->(∀x∈F.kill i,on L x=false)->F.R i (V i) w)
 base:∀b,(∀x∈F.killB b,on L x=false)->F.B b w
def jP(P:Program)(Q:Exit->Act->World->Prop)(F:Flow)(ops:Array Oper)(a0:Act)(k:Nat)(o:Oper):Prop:=
 ∀(a:Act) (w:World) (K:Act->World->Prop),
  (∀j d,jC o j=true->okK ops k (F.kill j)=true->dY ops j=some d->F.R j (a.eval (.tmp d)) w) ->
  (∀t,Db ops k t=true->a.eval (.tmp t)=a0.eval (.tmp t)) ->
  (∀b,okK ops k (F.killB b)=true->F.B b w) ->
  (∀v w',F.E k w w'->F.R k v w'->K (a.put o.dst v) w')->o.wp P a w K Q
def qI(P:Program)(Q:Exit->Act->World->Prop)(F:Flow)(ops:Array Oper)(a0:Act)(k:Nat)(o:Oper):Prop:=
 match o.guard with
 | none=>jP P Q F ops a0 k o
 | some (j,want)=>jC o j=true/\(dY ops j).isSome=true/\okK ops k (F.kill j)=true /\
  (((∀v w,F.R j v w->v=.bool want)/\jP P Q F ops a0 k o)\/((∀v w,F.R j v w->v=.bool (!want))/\∀w,F.E k w w/\F.R k undef w))
def JD(ops:Array Oper)(n:Nat):Bool:=
 (QJ ops.size).all (fun i=>match ops[i]? with
  | some o=>o.after.all (fun e=>!RH .any e || e.on<i) && (match o.dst with|none=>true|some d=>decide (d<n) && (QJ ops.size).all (fun j=>j == i || dY ops j != some d))
  | none=>false)
structure RegF(P:Program)(Q:Exit->Act->World->Prop)(F:Flow)(ops:Array Oper)(a0:Act)(m:Nat):Prop where
 chk:JD ops a0.tmps.size=true
 cert:∀k o,k<m->ops[k]? = some o->qI P Q F ops a0 k o
 stab:∀i j,i<m->j<m->i≠j->(F.kill j).contains i=false->depOn ops j i=false->∀v w w',F.E i w w'->F.R j v w->F.R j v w'
 stabB:∀i b,i<m->(F.killB b).contains i=false->∀w w',F.E i w w'->F.B b w->F.B b w'
variable {F:Flow}{m:Nat}
theorem RegF.of{k:Nat}{o:Oper}(h:RegF P Q F ops a0 m)(ho:ops[k]? = some o):(∀e∈o.after,RH .any e=true->e.on<k)/\∀d,o.dst=some d->d<a0.tmps.size/\∀j,dY ops j=some d->j=k:=by
 have hk:k<ops.size:=(Ql.1 ho).1;have h1:=Qt.1 h.chk k (RB.2 hk);rw[ho]at h1;simp only[Qa]at h1;obtain⟨h2,h3⟩:=h1;refine⟨fun e he hb=>?_,fun d hd=>?_⟩
 ·have:=RQ.1 h2 e he;simpa[hb]using this
 ·rw[hd]at h3;simp only[Qa,decide_eq_true_eq]at h3;refine⟨h3.1,fun j hj=>?_⟩;have hjs:j<ops.size:=by
   unfold dY at hj;cases hx:ops[j]? with
   | none=>rw[hx]at hj;cases hj
   | some x=>exact(Ql.1 hx).1
  have:=Qt.1 h3.2 j (RB.2 hjs);simpa[hj]using this
theorem g8{i:Nat}{o:Oper}(ho:ops[i]? = some o):dY ops i=o.dst:=by unfold dY;rw[ho];rfl
theorem GH{a:Act}{x k:Nat}{o:Oper}(h:InvF F ops a0 L a w){ho:ops[x]? = some o}(hd:jC o k=true)(hx:on L x=true):on L k=true:=by
 obtain⟨e,he,hb⟩:=S7.1 hd;simp only[Qa,beq_iff_eq]at hb;rw[<-hb.2];exact h.cl x o ho hx e he hb.1
theorem u9{L:Array Bool}{x:Nat}(h:on L x=true):x<L.size:=by
 rcases Ty x L.size with h1|h1
 ·exact h1
 ·unfold on at h;rw[P7,Array.getElem?_eq_none h1]at h;cases h
theorem J6{k:Nat}{o:Oper}{a:Act}(R:RegF P Q F ops a0 m)(hkm:k<m)(hlt:∀i,on L i=true->i<m)(ho:ops[k]? = some o)(hun:on L k=false)(hdep:∀e∈o.after,RH .any e=true->on L e.on=true)(h:InvF F ops a0 L a w):
 wpOp P ops Q k (InvF F ops a0 (L.setIfInBounds k true)) a w:=by
 obtain⟨hback,hdst⟩:=R.of ho;have hks:k<ops.size:=(Ql.1 ho).1;have hkL:k<L.size:=by rw[h.size];exact hks
 have hdo:dY ops k=o.dst:=g8 ho;have hnot:∀x,(x == k || depOn ops x k)=true->on L x=false:=fun x hx=>by
  cases hon:on L x with
  | false=>rfl
  | true =>
   rcases Wq _ _ ▸ hx with h1|h1
   ·rw[show x=k by simpa using h1,hun]at hon;cases hon
   ·unfold depOn at h1;have hxs:x<ops.size:=by rw[<-h.size];exact u9 hon
    have hox:ops[x]? = some ops[x]:=Qp hxs;rw[hox]at h1;have:=GH (ho:=hox) h h1 hon;rw[hun]at this;cases this
 obtain⟨V,hV1,hV2⟩:=h.all;have hp1:∀j d,jC o j=true->okK ops k (F.kill j)=true->dY ops j=some d->a.tmps[d]? = some (V j)/\F.R j (V j) w:=fun j d hj hok hd=>by
  obtain⟨e,he,hb⟩:=S7.1 hj;simp only[Qa,beq_iff_eq]at hb;have hjon:on L j=true:=by rw[<-hb.2];exact hdep e he hb.1
  exact⟨hV1 j d hjon hd,hV2 j hjon fun x hx=>hnot x (Qt.1 hok x hx)⟩
 have hpre1:∀j d,jC o j=true->okK ops k (F.kill j)=true->dY ops j=some d->F.R j (a.eval (.tmp d)) w:=fun j d hj hok hd=>by
  rw[Dg (hp1 j d hj hok hd).1];exact(hp1 j d hj hok hd).2
 have hpre2:∀t,Db ops k t=true->a.eval (.tmp t)=a0.eval (.tmp t):=fun t hf=>by
  have h1:=h.rest t fun i hi hd=>by
   have his:i<ops.size:=by rw[<-h.size];exact u9 hi
   have h2:=Qt.1 hf i (RB.2 his);rw[hd]at h2;have h3:(i == k || depOn ops i k)=true:=by simpa using h2
   rw[hnot i h3]at hi;cases hi
  show a.tmps.getD t undef=a0.tmps.getD t undef;rw[P7,P7,h1]
 have hpre3:∀b,okK ops k (F.killB b)=true->F.B b w:=fun b hb=>h.base b fun x hx=>hnot x (Qt.1 hb x hx)
 have hpost:∀v w',F.E k w w'->F.R k v w'->InvF F ops a0 (L.setIfInBounds k true) (a.put o.dst v) w':=fun v w' hE hR=>by
  have hon:∀x,on (L.setIfInBounds k true) x=(on L x || k == x):=fun x=>fO hkL
  refine⟨by rw[Qw];exact h.size,fun i oi hoi hi e he hb=>?_,?_,?_,fun t ht=>?_,⟨fun x=>if x=k then v else V x,fun i d hi hd=>?_,fun i hi hkl=>?_⟩,fun b hb=>?_⟩
  ·rw[hon]at hi⊢;by_cases hik:k=i
   ·subst hik;rw[ho]at hoi;obtain rfl:=Qn.inj hoi;rw[hdep e he hb,SU]
   ·rw[h.cl i oi hoi (by simpa[hik]using hi) e he hb,SU]
  ·rw[<-h.def'];cases o.dst<;>rfl
  ·rw[nQ];exact h.sz
  ·have h1:o.dst≠some t:=fun hd=>ht k (by rw[hon];simp) (by rw[hdo];exact hd)
   rw[lV a v h1];exact h.rest t fun i hi=>ht i (by rw[hon,hi,SU])
  ·rw[hon]at hi;by_cases hik:i=k
   ·subst hik;rw[hdo]at hd;rw[hd];show(a.tmps.setIfInBounds d v)[d]? = some (if i=i then v else V i);rw[if_pos (rfl:i=i)];rw[Ry,if_pos rfl,if_pos (by rw[h.sz];exact(hdst d hd).1)]
   ·have hne:o.dst≠some d:=fun hd2=>hik ((hdst d hd2).2 i hd)
    rw[lV a v hne];show _=some (if i=k then v else V i);rw[if_neg hik];have hik':¬k=i:=fun e=>hik e.symm
    exact hV1 i d (by simpa[hik']using hi) hd
  ·rw[hon]at hi;by_cases hik:i=k
   ·subst hik;show F.R i (if i=i then v else V i) w';rw[if_pos rfl];exact hR
   ·show F.R i (if i=k then v else V i) w';rw[if_neg hik];have hik':¬k=i:=fun e=>hik e.symm
    have hi':on L i=true:=by simpa[hik']using hi
    have h1:∀x∈F.kill i,on L x=false:=fun x hx=>by
     have:=hkl x hx;rw[hon,Vx]at this;exact this.1
    have h2:(F.kill i).contains k=false:=by
     cases hc:(F.kill i).contains k with
     | false=>rfl
     | true =>
      have:=hkl k (by simpa using hc);rw[hon]at this;simp at this
    have his:i<ops.size:=by rw[<-h.size];exact u9 hi'
    have h3:depOn ops i k=false:=by
     cases hc:depOn ops i k with
     | false=>rfl
     | true=>rw[hnot i (by rw[hc,Bool.or_true])]at hi';cases hi'
    exact R.stab k i hkm (hlt i hi') (Xj hik) h2 h3 _ _ _ hE (hV2 i hi' h1)
  ·have h1:∀x∈F.killB b,on L x=false:=fun x hx=>by
    have:=hb x hx;rw[hon,Vx]at this;exact this.1
   have h2:(F.killB b).contains k=false:=by
    cases hc:(F.killB b).contains k with
    | false=>rfl
    | true =>
     have:=hb k (by simpa using hc);rw[hon]at this;simp at this
   exact R.stabB k b hkm h2 _ _ hE (h.base b h1)
 have hC:=R.cert k o hkm ho;unfold qI at hC;unfold wpOp;rw[ho];dsimp only;cases hg:o.guard with
 | none =>
  rw[hg]at hC;rw[xY hg,if_pos rfl];left;exact hC a w _ hpre1 hpre2 hpre3 hpost
 | some jw =>
  obtain⟨j,want⟩:=jw;rw[hg]at hC;obtain⟨hd1,hd2,hd3,hcase⟩:=hC;obtain⟨d,hd⟩:=Qz.1 hd2;obtain⟨hs,hRj⟩:=hp1 j d hd1 hd3 hd;have hy:∀b,V j=.bool b->TK o (yielded ops a.tmps)=(b == want):=fun b hb=>by
   have h4:yielded ops a.tmps j=some b:=by
    unfold dY at hd;unfold yielded;cases hoj:ops[j]? with
    | none=>rw[hoj]at hd;cases hd
    | some oj =>
     rw[hoj]at hd;show(match oj.dst.bind (a.tmps[·]?) with|some (.bool b)=>some b|_=>none)=_;rw[show oj.dst=some d from hd];show(match a.tmps[d]? with|some (.bool b)=>some b|_=>none)=_;rw[hs,hb]
   unfold TK;rw[hg];show(yielded ops a.tmps j == some want)=_;rw[h4];cases b<;>cases want<;>rfl
  rcases hcase with⟨hw,hc⟩|⟨hw,hsk⟩
  ·rw[hy _ (hw _ _ hRj),show(want == want)=true by cases want<;>rfl,if_pos rfl];left;exact hc a w _ hpre1 hpre2 hpre3 hpost
  ·rw[hy _ (hw _ _ hRj),show((!want) == want)=false by cases want<;>rfl];exact hpost undef w (hsk w).1 (hsk w).2
def iC(V:Nat->Value):List Oper->Nat->Act->Act
 | [],_,a=>a
 | o :: r,i,a=>iC V r (i+1) (a.put o.dst (V i))
theorem kZ(V:Nat->Value):∀(l:List Oper) (i:Nat) (a:Act),(iC V l i a).defers=a.defers
 | [],_,_=>rfl
 | o :: r,i,a=>by
  rw[iC,kZ V r];cases o.dst<;>rfl
theorem kA(V:Nat->Value):∀(l:List Oper) (i:Nat) (a:Act) (t:Tmp),(∀o∈l,o.dst≠some t)->(iC V l i a).tmps[t]? = a.tmps[t]?
 | [],_,_,_,_=>rfl
 | o :: r,i,a,t,h=>by
  rw[iC,kA V r _ _ t (fun x hx=>h x (Qx _ hx)),lV a _ (h o QH)]
theorem pC(V:Nat->Value):∀(l:List Oper) (i:Nat) (a:Act) (j:Nat) (o:Oper) (d:Tmp),l[j]? = some o->o.dst=some d->(∀j' o',l[j']? = some o'->o'.dst=some d->j'=j)->d<a.tmps.size->(iC V l i a).tmps[d]? = some (V (i+j))
 | [],_,_,_,_,_,h,_,_,_=>by simp at h
 | x :: r,i,a,0,o,d,h,hd,hu,hs=>by
  obtain rfl:x=o:=by simpa using h
  rw[iC,kA V r _ _ d (fun y hy hyd=>by
   obtain⟨j',hj'⟩:=RD hy;have:=hu (j'+1) y (by simpa using hj') hyd;omega),hd]
  show(a.tmps.setIfInBounds d _)[d]? = _;rw[Ry,if_pos rfl,if_pos hs];rfl
 | x :: r,i,a,j+1,o,d,h,hd,hu,hs=>by
  rw[iC,pC V r (i+1) _ j o d (by simpa using h) hd (fun j' o' h' hd'=>by
   have:=hu (j'+1) o' (by simpa using h') hd';omega) (by rw[nQ];exact hs)]
  congr 2
  omega
theorem InvF.done{a:Act}(R:RegF P Q F ops a0 m)(h:InvF F ops a0 L a w)(hall:∀i,i<ops.size->on L i=true)
 (hp:∀(V:Nat->Value),(∀i,i<ops.size->F.kill i=[]->F.R i (V i) w)->(∀b,F.killB b=[]->F.B b w)->Q .normal (iC V ops.toList 0 a0) w):Q .normal a w:=by
 obtain⟨V,hV1,hV2⟩:=h.all;have e:a=iC V ops.toList 0 a0:=by
  refine Act.ext' ?_ (by rw[kZ];exact h.def');apply VK;intro t;by_cases ht:∃(i:Nat) (o:Oper),ops[i]? = some o/\o.dst=some t
  ·obtain⟨i,o,ho,hd⟩:=ht;rw[hV1 i t (hall i (Ql.1 ho).1) (by rw[g8 ho];exact hd)];rw[pC V ops.toList 0 a0 i o t (by rw[QF];exact ho) hd (fun j' o' hj' hd'=>((R.of ho).2 t hd).2 j' (by rw[QF]at hj';rw[g8 hj'];exact hd')) ((R.of ho).2 t hd).1,P0]
  ·rw[h.rest t (fun i hi hd=>?_),kA V ops.toList 0 a0 t (fun o hm hd=>?_)]
   ·obtain⟨i,hi⟩:=RD hm;rw[QF]at hi;exact ht ⟨i,o,hi,hd⟩
   ·unfold dY at hd;cases hx:ops[i]? with
    | none=>rw[hx]at hd;cases hd
    | some x=>rw[hx]at hd;exact ht ⟨i,x,hx,hd⟩
 rw[e];exact hp V (fun i hi hk=>hV2 i (hall i hi) (by rw[hk];simp)) (fun b hb=>h.base b (by rw[hb];simp))
theorem InvF.full{a:Act}(R:RegF P Q F ops a0 m)(h:InvF F ops a0 L a w)(hr:R7 .any ops L=[]):∀i,i<ops.size->on L i=true:=by
 intro i;induction i using Nat.strongRecOn with
 | ind i ih =>
  intro hi;have ho:ops[i]? = some ops[i]:=Qp _;cases hon:on L i with
  | true=>rfl
  | false =>
   have:i∈R7 .any ops L:=mem_ready.2 ⟨?_,_,ho,fun e he hb=>?_⟩
   ·rw[hr]at this;cases this
   ·unfold on at hon;rw[P7,Qp (by rw[h.size];exact hi)]at hon⊢;exact hon
   ·have hlt:=(R.of ho).1 e he hb;exact ih e.on hlt (Nat.lt_trans hlt hi)
theorem sU{id:Nat}(F:Flow)(hm:P.follows .mixedOrders=true)(R:RegF P Q F ops a0 ops.size)(hB:∀b,F.B b w.drew)
 (hp:∀(V:Nat->Value) (w':World),(∀i,i<ops.size->F.kill i=[]->F.R i (V i) w')->(∀b,F.killB b=[]->F.B b w')->Q .normal (iC V ops.toList 0 a0) w'):(RY id ops true).wp P Q a0 w:=by
 have key:∀(fuel:Nat) (L:Array Bool) (a:Act) (w:World),unl L=fuel->InvF F ops a0 L a w->wpAny P .any ops Q fuel L a w:=by
  intro fuel;induction fuel with
  | zero =>
   intro L a w hu hI;have hall:∀i,i<ops.size->on L i=true:=fun i hi=>rD hu i (by rw[hI.size];exact hi)
   refine⟨?_,hI.done R hall (fun V=>hp V w)⟩;apply UK.2;intro i hi;obtain⟨h1,o,ho,-⟩:=mem_ready.1 hi;have h2:=hall i (Ql.1 ho).1;unfold on at h2;rw[P7]at h1 h2;cases hh:L[i]? with
   | none=>rw[hh]at h1;cases h1
   | some b=>rw[hh]at h1 h2;rw[show b=false from h1]at h2;cases h2
  | succ fuel ih =>
   intro L a w hu hI;refine⟨fun hr=>hI.done R (hI.full R hr) (fun V=>hp V w),fun i hi=>?_⟩;obtain⟨h1,o,ho,hdep⟩:=mem_ready.1 hi;have hoff:on L i=false:=by
    unfold on;rw[P7]at h1⊢;cases hh:L[i]? with
    | none=>rfl
    | some b=>rw[hh]at h1;exact h1
   exact wpOp_mono (fun a' w' hI'=>ih _ a' w' (by have:=vS h1;omega) hI') (J6 R (Ql.1 ho).1 (fun i hi=>by rw[<-hI.size];exact u9 hi) ho hoff hdep hI)
 have hoff:∀i,on (P3 ops.size false) i=false:=fun i=>by
  unfold on;rw[P7,S5];by_cases h:i<ops.size
  ·rw[if_pos h];rfl
  ·rw[if_neg h];rfl
 refine wp_region_any hm (key _ _ a0 _ ?_ ⟨P8,(fun i o _ h=>by rw[hoff]at h;cases h),rfl,rfl,fun _ _=>rfl,⟨fun _=>undef,fun i d h=>(by rw[hoff]at h;cases h),fun i h=>(by rw[hoff]at h;cases h)⟩,fun b _=>hB b⟩);unfold unl;rw[T0,Vq];simp
structure PreF(F:Flow)(ops:Array Oper)(a0:Act)(k:Nat)(o:Oper)(a:Act)(w:World):Prop where
 n:∀j d,jC o j=true->okK ops k (F.kill j)=true->dY ops j=some d->F.R j (a.eval (.tmp d)) w
 o:∀t,Db ops k t=true->a.eval (.tmp t)=a0.eval (.tmp t)
 b:∀b,okK ops k (F.killB b)=true->F.B b w
def m9(P:Program)(Q:Exit->Act->World->Prop)(F:Flow)(ops:Array Oper)(a0:Act):Nat->List Oper->Prop
 | _,[]=>True
 | k,o :: r=>qI P Q F ops a0 k o/\m9 P Q F ops a0 (k+1) r
theorem tD:∀(l:List Oper) (i:Nat),m9 P Q F ops a0 i l->∀k o,l[k]? = some o->qI P Q F ops a0 (i+k) o
 | [],_,_,k,o,h=>by simp at h
 | x :: r,i,hc,0,o,h=>by
  obtain rfl:x=o:=by simpa using h
  exact hc.1
 | x :: r,i,hc,k+1,o,h=>by
  have:=tD r (i+1) hc.2 k o (by simpa using h);rwa[show i+1+k=i+(k+1) by omega]at this
theorem GO(h:m9 P Q F ops a0 0 ops.toList):∀k o,k<ops.size->ops[k]? = some o->qI P Q F ops a0 k o:=fun k o _ ho=>by
 have:=tD ops.toList 0 h k o (by rw[QF];exact ho);rwa[P0]at this
def evo(ev:Tmp->Value):Operand->Value
 | .tmp t=>ev t
 | .const v=>v
 | .global g=>.pointer (some ⟨g,0,none⟩)
 | .func f=>.func (.func f) #[] #[]
def uL(T:List Tmp)(o:Oper):Bool:=
 (match o.op with | .select _ _=>false|_=>true) && o.op.operands.all (fun x=>match x with | .tmp t=>T.contains t|_=>true)
theorem qX{a:Act}{o:Oper}(ev:Tmp->Value)(T:List Tmp)(h:uL T o=true)(he:∀t∈T,a.eval (.tmp t)=ev t):execOp a.eval o=execOp (evo ev) o:=by
 simp only[uL,Qa]at h;refine execOp_congr o (fun cs b he=>?_) (fun x hx=>?_)
 ·rw[he]at h;exact absurd h.1 (by simp)
 ·have h1:=RQ.1 h.2 x hx;cases x with
  | tmp t=>exact he t (by simpa using h1)
  | const v=>rfl
  | global g=>rfl
  | func f=>rfl
theorem xE{k:Nat}{o:Oper}(h:∀(a:Act) (w:World),PreF F ops a0 k o a w->∃v w',(execOp a.eval o).run P w=.ok (.value v) w'/\F.E k w w'/\F.R k v w'):jP P Q F ops a0 k o:=by
 intro a w K h1 h2 h3 hK;obtain⟨v,w',hr,hE,hR⟩:=h a w ⟨h1,h2,h3⟩;unfold Sc;rw[hr];exact hK v w' hE hR
theorem lJ{k:Nat}{o:Oper}(t:Tmp)(h:∀(a:Act) (w:World),PreF F ops a0 k o a w->∃v w',(uL [t] o=true)/\(execOp (evo fun _=>a.eval (.tmp t)) o).run P w=.ok (.value v) w'/\F.E k w w'/\F.R k v w'):jP P Q F ops a0 k o:=by
 refine xE fun a w hp=>?_
 obtain⟨v,w',hs,hr,hE⟩:=h a w hp;refine⟨v,w',?_,hE⟩;rw[qX (fun _=>a.eval (.tmp t)) [t] hs (fun x hx=>by rw[show x=t by simpa using hx])];exact hr
theorem Do{k:Nat}{o:Oper}(t:Tmp)(h:∀(a:Act) (w:World),PreF F ops a0 k o a w->∃f args,(uL [t] o=true)/\(execOp (evo fun _=>a.eval (.tmp t)) o).run P w=.ok (.enter f args) w/\Calls P f args w (Ret fun e w'=>F.E k w w'/\F.R k e w')):jP P Q F ops a0 k o:=by
 intro a w K h1 h2 h3 hK;obtain⟨f,args,hs,hr,hc⟩:=h a w ⟨h1,h2,h3⟩;unfold Sc;rw[qX (fun _=>a.eval (.tmp t)) [t] hs (fun x hx=>by rw[show x=t by simpa using hx]),hr,S9];refine hc.mono ?_;rintro e w' ⟨v,rfl,hE,hR⟩;exact hK _ _ hE hR
theorem xF{k:Nat}{o:Oper}(T:TypeId)(t:Tmp)(ho:o.op=.load T (.tmp t))(hu:(P.underlying T).map (·.isRow)=some true)
 (h:∀(a:Act) (w:World),PreF F ops a0 k o a w->∃g off cs,a.eval (.tmp t)=.pointer (some ⟨g,off,none⟩)/\w.rangeAt g off cs/\(P.info? T).map (·.size)=some cs.length/\F.E k w w/\F.R k (.agg cs.toArray) w):jP P Q F ops a0 k o:=by
 intro a w K h1 h2 h3 hK;obtain⟨g,off,cs,he,hr,hi,hE,hR⟩:=h a w ⟨h1,h2,h3⟩;obtain⟨d,hu,hd⟩:=PZ.1 hu;exact wp_load_mid T (.tmp t) ho g off he cs d hr hu hd hi (hK _ _ hE hR)
theorem GN{k:Nat}{o:Oper}(s u:Tmp)(t:TypeId)(ho:o.op=.call { callee:=.builtin .append,args:=#[.tmp s,.tmp u],argTypes:=#[t,t] })
 (h:∀(a:Act) (w:World),PreF F ops a0 k o a w->∃v w',(QV #[t,t] o.type #[a.eval (.tmp s),a.eval (.tmp u)]).run P w=.ok v w'/\F.E k w w'/\F.R k v w'):jP P Q F ops a0 k o:=by
 intro a w K h1 h2 h3 hK;obtain⟨v,w',hr,hE,hR⟩:=h a w ⟨h1,h2,h3⟩;unfold Sc execOp;simp only[ho,resolve,invoke,builtin,Qm,Sem.run_pure,Result.andThen_ok,List.map_toArray,Sx,List.map_nil,hr];exact hK _ _ hE hR
theorem Ew(h:m9 P Q F ops a0 0 (ops.toList.take m)):∀k o,k<m->ops[k]? = some o->qI P Q F ops a0 k o:=fun k o hk ho=>by
 have:=tD (ops.toList.take m) 0 h k o (by rw[Rp,if_pos hk,QF];exact ho);rwa[P0]at this
theorem InvF.act{a:Act}(R:RegF P Q F ops a0 m)(h:InvF F ops a0 L a w)(hm:m<=ops.size)(hall:∀i,on L i=true↔i<m){V:Nat->Value}(hV1:∀i d,on L i=true->dY ops i=some d->a.tmps[d]? = some (V i)):a=iC V (ops.toList.take m) 0 a0:=by
 refine Act.ext' ?_ (by rw[kZ];exact h.def');apply VK;intro t;by_cases ht:∃(i:Nat) (o:Oper),i<m/\ops[i]? = some o/\o.dst=some t
 ·obtain⟨i,o,him,ho,hd⟩:=ht;rw[hV1 i t ((hall i).2 him) (by rw[g8 ho];exact hd)];rw[pC V (ops.toList.take m) 0 a0 i o t (by rw[Rp,if_pos him,QF];exact ho) hd (fun j' o' hj' hd'=>((R.of ho).2 t hd).2 j' (by
   rw[Rp]at hj';split at hj'
   ·rw[QF]at hj';rw[g8 hj'];exact hd'
   ·cases hj')) ((R.of ho).2 t hd).1,P0]
 ·rw[h.rest t (fun i hi hd=>?_),kA V (ops.toList.take m) 0 a0 t (fun o hm' hd=>?_)]
  ·obtain⟨i,hi⟩:=RD hm';rw[Rp]at hi;split at hi
   ·rename_i him
    rw[QF]at hi;exact ht ⟨i,o,him,hi,hd⟩
   ·cases hi
  ·unfold dY at hd;cases hx:ops[i]? with
   | none=>rw[hx]at hd;cases hd
   | some x=>rw[hx]at hd;exact ht ⟨i,x,(hall i).1 hi,hx,hd⟩
theorem Et{id:Nat}(F:Flow)(n:Nat)(hn:ops.size=n+1)(hd:(QJ n).all (fun j=>depOn ops n j || (QJ n).any (fun i=>depOn ops n i && depOn ops i j))=true)(hm:P.follows .mixedOrders=true)(R:RegF P Q F ops a0 n)(hB:∀b,F.B b w.drew)
 (hp:∀(V:Nat->Value) (w':World),(∀i,i<n->F.kill i=[]->F.R i (V i) w')->(∀b,F.killB b=[]->F.B b w')->wpList P ops Q (ops.toList.drop n) (iC V (ops.toList.take n) 0 a0) w'):(RY id ops true).wp P Q a0 w:=by
 have hon':ops[n]? = some (ops[n]'(by omega)):=Qp _;have key:∀(fuel:Nat) (L:Array Bool) (a:Act) (w:World),unl L=fuel->on L n=false->InvF F ops a0 L a w->wpAny P .any ops Q fuel L a w:=by
  intro fuel;induction fuel with
  | zero =>
   intro L a w hu hoff hI;have:=rD hu n (by rw[hI.size];omega);rw[hoff]at this;cases this
  | succ fuel ih =>
   intro L a w hu hoff hI;refine⟨fun hr=>?_,fun i hi=>?_⟩
   ·have:=hI.full R hr n (by omega);rw[hoff]at this;cases this
   ·obtain⟨h1,o,ho,hdep⟩:=mem_ready.1 hi;have his:i<ops.size:=(Ql.1 ho).1;have hoi:on L i=false:=by
     unfold on;rw[P7]at h1⊢;cases hh:L[i]? with
     | none=>rfl
     | some b=>rw[hh]at h1;exact h1
    by_cases hin:i=n
    ·subst hin;have hall:∀j,on L j=true↔j<i:=fun j=>by
      constructor
      ·intro hj;have h2:j<ops.size:=by rw[<-hI.size];exact u9 hj
       rcases Ty j i with h|h
       ·exact h
       ·obtain rfl:j=i:=by omega
        rw[hoff]at hj;cases hj
      ·intro hj;have hdir:∀j,depOn ops i j=true->on L j=true:=fun j h2=>by
        unfold depOn at h2;rw[ho]at h2;obtain⟨e,he,hb⟩:=S7.1 h2;simp only[Qa,beq_iff_eq]at hb;have:=hdep e he hb.1;rw[hb.2]at this;exact this
       have h2:=Qt.1 hd j (RB.2 hj);rw[Wq]at h2;rcases h2 with h2|h2
       ·exact hdir j h2
       ·obtain⟨x,hx,h3⟩:=List.any_eq_true.1 h2;rw[Qa]at h3;have hxo:=hdir x h3.1;have hxs:x<ops.size:=by have:=RB.1 hx;omega
        have hox:ops[x]? = some ops[x]:=Qp hxs;have h4:=h3.2;unfold depOn at h4;rw[hox]at h4;exact GH (ho:=hox) hI h4 hxo
     obtain⟨V,hV1,hV2⟩:=hI.all;have ha:=hI.act R (by omega) hall hV1;have hkl:∀l:List Nat,l=[]->∀x∈l,on L x=false:=fun l hl x hx=>by rw[hl]at hx;cases hx
     have hfin:=hp V w (fun j hj hk=>hV2 j ((hall j).2 hj) (hkl _ hk)) (fun b hb=>hI.base b (hkl _ hb));have hdrop:ops.toList.drop i=[o]:=by
      have hlen:ops.toList.length=i+1:=by rw[P5];exact hn
      rw[List.drop_eq_getElem_cons (by omega),List.drop_of_length_le (by omega)];have:ops.toList[i]? = some o:=by rw[QF];exact ho
      rw[Qb (by omega)]at this;rw[Qn.inj this]
     rw[hdrop,<-ha]at hfin;have hop:wpOp P ops Q i (fun a' w'=>Q .normal a' w') a w:=by
      unfold wpOp;rw[ho];exact hfin
     refine wpOp_mono (fun a' w' hq=>?_) hop;have hon2:∀j,j<ops.size->on (L.setIfInBounds i true) j=true:=fun j hj=>by
      rw[fO (by rw[hI.size];omega)];by_cases h:j<i
      ·rw[(hall j).2 h,SU]
      ·rw[show j=i by omega];simp
     have hr:R7 .any ops (L.setIfInBounds i true)=[]:=by
      apply UK.2;intro j hj;obtain⟨h1,o',ho',-⟩:=mem_ready.1 hj;have h2:=hon2 j (Ql.1 ho').1;unfold on at h2;rw[P7]at h1 h2;cases hh:(L.setIfInBounds i true)[j]? with
      | none=>rw[hh]at h1;cases h1
      | some b=>rw[hh]at h1 h2;rw[show b=false from h1]at h2;cases h2
     cases fuel with
     | zero=>exact⟨hr,hq⟩
     | succ f=>exact⟨fun _=>hq,fun j hj=>by rw[hr]at hj;cases hj⟩
    ·refine wpOp_mono (fun a' w' hI'=>ih _ a' w' (by have:=vS h1;omega) ?_ hI') (J6 R (by omega) (fun j hj=>?_) ho hoi hdep hI)
     ·rw[fO (by rw[hI.size];exact his),hoff];simpa using hin
     ·have h2:j<ops.size:=by rw[<-hI.size];exact u9 hj
      rcases Ty j n with h|h
      ·exact h
      ·obtain rfl:j=n:=by omega
       rw[hoff]at hj;cases hj
 have hoff:∀i,on (P3 ops.size false) i=false:=fun i=>by
  unfold on;rw[P7,S5];by_cases h:i<ops.size
  ·rw[if_pos h];rfl
  ·rw[if_neg h];rfl
 refine wp_region_any hm (key _ _ a0 _ ?_ (hoff n) ⟨P8,(fun i o _ h=>by rw[hoff]at h;cases h),rfl,rfl,fun _ _=>rfl,⟨fun _=>undef,fun i d h=>(by rw[hoff]at h;cases h),fun i h=>(by rw[hoff]at h;cases h)⟩,fun b _=>hB b⟩);unfold unl;rw[T0,Vq];simp
end RG
section
open Go.RowKit Go.Sort Go.Deep
variable {P:Nat}[NeZero P]{N:Nat}
theorem MX{p:Option Addr}{n c:Nat}{x:UInt8}:encB x≠.slice p n c:=fun h=>by cases h
def El(n:Nat)(W:World)(x:Value)(b:Bs):Prop:=∃k c,x=.slice (some ⟨k,0,none⟩) n c/\n<=c/\b.size=n/\k<W.heap.size/\Holds encB W k 0 b
def isL(n:Nat)(W:World)(g:Nat):Prop:=∃p c,W.cell? ⟨g,0,none⟩=some (.slice p n c)
structure Gr(n:Nat)(v:Value)(W W':World):Prop where
 gr:W.grownBy W' v.ownBlock
 is:∀g,v.ownBlock=some g->isL n W g
theorem Gr.of{W W':World}{n:Nat}(h:Below W.heap.size W W'):Gr n (.slice none 0 0) W W':=
 ⟨⟨h.os,h.tape,h.output,h.size,fun k hk _=>h.block k hk⟩,fun g hg=>by cases hg⟩
theorem Gr.below{n:Nat}{v:Value}{w W W':World}{B:Nat}(h:Gr n v W W')(hb:Below B w W)(hB:B<=W.heap.size)(hv:∀g,v.ownBlock=some g->B<=g):Below B w W':=
 hb.grown h.gr hB (fun k hk=>hv k hk)
theorem Gr.block{n k:Nat}{v:Value}{W W':World}(h:Gr n v W W')(hk:k<W.heap.size)(hne:∀p c,W.cell? ⟨k,0,none⟩≠some (.slice p n c)):W'.heap[k]? = W.heap[k]? :=
 h.gr.block k hk fun e=>by
  obtain⟨p,c,hc⟩:=h.is k e.symm;exact hne p c hc
theorem Holds.kept{W W':World}{k:Nat}{b:Bs}(h:Holds encB W k 0 b)(e:W'.heap[k]? = W.heap[k]?):Holds encB W' k 0 b:=fun j hj=>by
 rw[QD (a:=⟨k,0+j,none⟩) e,RL (a:=⟨k,0+j,none⟩) e];exact h j hj
theorem El.kept{m n:Nat}{v x:Value}{W W':World}{b:Bs}(h:El m W x b)(hm:0<m)(hg:Gr n v W W'):El m W' x b:=by
 obtain⟨k,c,rfl,h1,h2,h3,h4⟩:=h;refine⟨k,c,rfl,h1,h2,PY h3 hg.gr.size,Holds.kept h4 (hg.block h3 fun p c' hc=>?_)⟩;have:=(h4 0 (by omega)).1;rw[P0,hc]at this;exact MX (Qn.inj this).symm
theorem Row.kept{n k:Nat}{v:Value}{W W':World}{vs:List Value}(h:Row W k vs)(hg:Gr n v W W')(hne:∀p c,vs[0]?≠some (.slice p n c))(hl:0<vs.length):Row W' k vs:=by
 have e:=hg.block h.1 fun p c hc=>by
  have h0:=h.2.1 0 vs[0] (Qb hl);rw[P0,hc]at h0;exact hne p c (by rw[Qb hl,h0])
 refine⟨PY h.1 hg.gr.size,fun j u hj=>?_,fun j hj=>?_⟩
 ·rw[QD (a:=⟨k,0+j,none⟩) e];exact h.2.1 j u hj
 ·rw[QD (a:=⟨k,0+j,none⟩) e,RL (a:=⟨k,0+j,none⟩) e];exact h.2.2 j hj
structure Lo(n base:Nat)(W:World)(v:Value)(bs:List Bs):Prop where
 ex:∃xs:List Value,xs.length=bs.length/\W.ownsRow base 22 1 v bs.length xs/\∀(j:Nat) (x:Value) (b:Bs),xs[j]? = some x->bs[j]? = some b->El n W x b
 nil:bs=[]->v=.slice none 0 0
theorem Lo.begin(n base:Nat)(W:World):Lo n base W (.slice none 0 0) []:=⟨⟨[],rfl,Uu _ _ _ _,fun j x b h=>by cases h⟩,fun _=>rfl⟩
theorem add0(g j:Nat):(⟨g,0,none⟩:Addr).add j=⟨g,j,none⟩:=by unfold Addr.add;split<;>simp_all
theorem Lo.isL{n base:Nat}{W:World}{v:Value}{bs:List Bs}(h:Lo n base W v bs){g:Nat}(hg:v.ownBlock=some g):isL n W g:=by
 obtain⟨xs,h1,h2,h3⟩:=h.ex;have hne:bs≠[]:=fun e=>by rw[h.nil e]at hg;cases hg
 cases bs with
 | nil=>exact absurd rfl hne
 | cons b r =>
  cases xs with
  | nil=>cases h1
  | cons x xr =>
   obtain⟨k,c,rfl,-⟩:=h3 0 x b rfl rfl;have:=h2.cells hg 0 _ rfl;rw[add0]at this;exact⟨_,_,this⟩
theorem Lo.lt{n base:Nat}{W:World}{v:Value}{bs:List Bs}(h:Lo n base W v bs):∀g,v.ownBlock=some g->base<=g/\g<W.heap.size:=by
 obtain⟨xs,h1,h2,h3⟩:=h.ex;exact h2.lt
theorem Lo.kept{m n base:Nat}{W W':World}{v v':Value}{bs:List Bs}(h:Lo m base W v bs)(hm:0<m)(hg:Gr n v' W W')(hne:m≠n):Lo m base W' v bs:=by
 have hL:=fun {g}=>h.isL (g:=g)
 obtain⟨xs,h1,h2,h3⟩:=h.ex;refine⟨⟨xs,h1,h2.kept hg.gr ?_,fun j x b hx hb=>(h3 j x b hx hb).kept hm hg⟩,h.nil⟩;cases hv:v.ownBlock with
 | none=>exact Qh rfl
 | some g =>
  refine Qc fun e=>hne ?_
  obtain⟨p,c,hc⟩:=hL hv;obtain⟨p',c',hc'⟩:=hg.is g e.symm;rw[hc]at hc';injection hc' with hc'
  injection hc' with _ h5 _
theorem NR:(prog.info? 22).map (fun i=>(i.size,i.bytes,i.zero.map fun z=>z.cells.size))=some (1,24,some 1):=by kernel_rfl
theorem OQ:prog.underlying 31=some (.slice 22):=by kernel_rfl
theorem Lo.app{n base g:Nat}{W:World}{v x:Value}{bs:List Bs}{b:Bs}(h:Lo n base W v bs)(hn:0<n)(hx:El n W x b)(hc:W.cell? ⟨g,0,none⟩=some x)(hk:bs.length<=1000000)(hb:base<=W.heap.size):
 ∃v' W',(QV #[31,31] 31 #[v,.slice (some ⟨g,0,none⟩) 1 1]).run prog W=.ok v' W'/\Lo n base W' v' (bs++[b])/\Gr n v W W':=by
 obtain⟨i,hi,he⟩:=PZ.1 NR;simp only[Ro.injEq]at he;obtain⟨h1,h2,h3⟩:=he;obtain⟨z,hz,hz2⟩:=PZ.1 h3;obtain⟨xs,x1,x2,x3⟩:=h.ex;obtain⟨v',W',r1,r2,r3,r4⟩:=run_append_own (P:=prog) W base 31 31 22 i z 1 24 OQ hi hz h1 h2 hz2 (by decide) v bs.length xs x2 ⟨g,0,none⟩ 1 1 [x] rfl
  (fun j u hj=>by
   cases j with
   | zero =>
    obtain rfl:x=u:=by simpa using hj
    rw[add0];exact hc
   | succ j=>simp at hj) (fun u hu=>by
   obtain rfl:u=x:=by simpa using hu
   obtain⟨k,c,rfl,-⟩:=hx;rfl) (by unfold maxLen;omega) (by omega) hb
 have G:Gr n v W W':=⟨r3,fun g hg=>h.isL hg⟩
 refine⟨v',W',r1,⟨⟨xs++[x],by simp[x1],by rw[P9];exact r2,fun j y c hy hcy=>?_⟩,fun e=>by simp at e⟩,G⟩;by_cases hj:j<bs.length
 ·rw[QU (by omega)]at hy hcy;exact(x3 j y c hy hcy).kept hn G
 ·rw[List.getElem?_append_right (by omega)]at hy hcy;rw[x1]at hy;cases hjj:j-bs.length with
  | zero =>
   rw[hjj]at hy hcy;obtain rfl:x=y:=by simpa using hy
   obtain rfl:b=c:=by simpa using hcy
   exact hx.kept hn G
  | succ d=>rw[hjj]at hy;simp at hy
theorem uU{a:Bs}(ha:a.size=33)(w:World):Calls prog 13 #[pvl a] w (Ret fun e w'=>Below w.heap.size w w'/\El 33 w' e a):=by
 have B1:=Hid.mk' (tJ ha w);obtain⟨w1,hw1⟩:∃w1,Hid (w.alloc (.cells (aC a).toArray 38)=w1):=⟨_,rfl⟩
 rw[hw1.out]at B1;have K:Hid (Row w1 w.heap.size (aC a)/\Below w.heap.size w w1):=by rw[<-hw1.out];exact⟨aJ w _ _,aH w _⟩
 obtain⟨va,hva⟩:∃v,Hid (pvl a=v):=⟨_,rfl⟩
 have B1':Hid ((SQ 38 va).run prog w=.ok (.pointer (some ⟨w.heap.size,0,none⟩)) w1):=by rw[<-hva.out];exact B1
 rw[hva.out];have hs:=OZ w.heap.size;clear B1 hw1;go_enter Tryz.func13,Tryz.ntmps13;go_wp2_with (first|(refine bH (u:=va) (v:=.pointer (some ⟨w.heap.size,0,none⟩)) (w':=w1) rfl 38 (.tmp 0) rfl ?_ ?_ ?_;rfl;exact B1'.out))
 go_ret;exact⟨_,rfl,K.out.2,w.heap.size,33,rfl,by omega,ha,K.out.1.1,row_holds K.out.1⟩
end
section
open Go.RowKit Go.Sort Go.Deep
variable {P:Nat}[NeZero P]{N:Nat}
def Bo(n B0:Nat)(W:World)(v:Value)(b:Bs):Prop:=∃k x,v=.slice (some ⟨k,0,none⟩) 1 1/\B0<=k/\k<W.heap.size/\W.cell? ⟨k,0,none⟩=some x/\El n W x b
theorem Bo.kept{m n B0:Nat}{W W':World}{v u:Value}{b:Bs}(h:Bo n B0 W v b)(hn:0<n)(hg:Gr m u W W')(hu:∀g,u.ownBlock=some g->g<B0):Bo n B0 W' v b:=by
 obtain⟨k,x,rfl,h1,h2,h3,h4⟩:=h;refine⟨k,x,rfl,h1,PY h2 hg.gr.size,?_,h4.kept hn hg⟩;rw[QD (a:=⟨k,0,none⟩) (hg.gr.block k h2 fun e=>by have:=hu k e.symm;omega)];exact h3
def Tm(W:World)(q:Option Addr)(k:Nat)(ns:Nat->Nat)(az:Nat->Bs):Prop:=0<k->∃g,q=some ⟨g,0,none⟩/\g<W.heap.size/\∀j,j<k->W.rangeAt g (37*j) (wn (ns j)++aC (az j))
theorem Tm.kept{m k:Nat}{W W':World}{u:Value}{q:Option Addr}{ns:Nat->Nat}{az:Nat->Bs}(h:Tm W q k ns az)(hg:Gr m u W W'):Tm W' q k ns az:=fun hk=>by
 obtain⟨g,h1,h2,h3⟩:=h hk;refine⟨g,h1,PY h2 hg.gr.size,fun j hj i v hv=>?_⟩;have e:=hg.block h2 fun p c hc=>by
  have h0:=h3 0 hk 0 _ (show(wn (ns 0)++aC (az 0))[0]? = some _ from rfl);rw[show 37*0+0=0 from rfl,hc]at h0;cases h0
 rw[QD (a:=⟨g,37*j+i,none⟩) e];exact h3 j hj i v hv
section
variable (w0:World) (v3 v4:Value) (k6 n B0 base:Nat) (p:Bs) (bs cs:List Bs) (q:Option Addr) (k:Nat) (ns:Nat->Nat) (az:Nat->Bs)
def PR:Nat->Value->World->Prop
 | 0,v,_=>v=v3
 | 1,v,_=>v=.pointer (some ⟨k6,0,none⟩)
 | 2,v,_=>v=nv n
 | 3,v,w=>El 32 w v (bx n)
 | 4,v,w=>Bo 32 B0 w v (bx n)
 | 5,v,w=>Lo 32 base w v (bs++[bx n])
 | 6,v,_=>v=v4
 | 7,v,_=>v=.pointer (some ⟨k6,4,none⟩)
 | 8,v,_=>v=pvl p
 | 9,v,w=>El 33 w v p
 | 10,v,w=>Bo 33 B0 w v p
 | 11,v,w=>Lo 33 base w v (cs++[p])
 | 12,v,w=>Lo 32 base w v (bs++[bx n])
 | 13,v,w=>Lo 33 base w v (cs++[p])
 | _,_,_=>True
def PBs:Nat->World->Prop
 | 0,w=>Row w k6 (wn n++aC p)
 | 1,w=>Lo 32 base w v3 bs
 | 2,w=>Lo 33 base w v4 cs
 | 3,w=>Below base w0 w/\base<=w.heap.size/\B0<=w.heap.size
 | 4,w=>Tm w q k ns az
 | 5,w=>Row w base z33
 | _,_=>True
def PE:Nat->World->World->Prop
 | 5=>Gr 32 v3
 | 11=>Gr 33 v4
 | _=>Gr 0 (.slice none 0 0)
def Pk1:Nat->List Nat
 | 4=>[5]
 | 10=>[11]
 | _=>[]
def Pk2:Nat->List Nat
 | 1=>[5]
 | 2=>[11]
 | _=>[]
def FP:RG.Flow:=⟨PR v3 v4 k6 n B0 base p bs cs,PBs w0 v3 v4 k6 n B0 base p bs cs q k ns az,PE v3 v4,Pk1,Pk2⟩
theorem Hp{i:Nat}{w w':World}(h:PE v3 v4 i w w'):∃m u,Gr m u w w'/\((i=5/\m=32/\u=v3)\/(i=11/\m=33/\u=v4)\/(i≠5/\i≠11/\m=0/\u=.slice none 0 0)):=by
 unfold PE at h;split at h
 ·exact⟨_,_,h,Qh ⟨rfl,rfl,rfl⟩⟩
 ·exact⟨_,_,h,Qc (Qh ⟨rfl,rfl,rfl⟩)⟩
 ·rename_i h1 h2
  exact⟨_,_,h,Qc (Qc ⟨h1,h2,rfl,rfl⟩)⟩
variable (hv3:∀g,v3.ownBlock=some g->base<=g/\g<B0) (hv4:∀g,v4.ownBlock=some g->base<=g/\g<B0)
include hv3 hv4
theorem Hk{i m:Nat}{u:Value}(h:(i=5/\m=32/\u=v3)\/(i=11/\m=33/\u=v4)\/(i≠5/\i≠11/\m=0/\u=.slice none 0 0)):∀g,u.ownBlock=some g->base<=g/\g<B0:=by
 rcases h with⟨-,-,rfl⟩|⟨-,-,rfl⟩|⟨-,-,-,rfl⟩
 ·exact hv3
 ·exact hv4
 ·intro g hg;cases hg
theorem MD(i j:Nat)(hj:j<14)(hij:i≠j)(hk:(Pk1 j).contains i=false)(h1:¬(j=12/\i=5))(h2:¬(j=13/\i=11))(v:Value)(w w':World)(hE:PE v3 v4 i w w')(hR:PR v3 v4 k6 n B0 base p bs cs j v w):PR v3 v4 k6 n B0 base p bs cs j v w':=by
 obtain⟨m,u,hg,hc⟩:=Hp v3 v4 hE;have hu:=Hk v3 v4 B0 base hv3 hv4 hc;have m32:m=32->i=5:=fun h=>by rcases hc with⟨h1,-⟩|⟨-,h2,-⟩|⟨-,-,h2,-⟩<;>omega
 have m33:m=33->i=11:=fun h=>by rcases hc with⟨-,h2,-⟩|⟨h1,-⟩|⟨-,-,h2,-⟩<;>omega
 match j,hj,hR with
 | 0,_,h=>exact h
 | 1,_,h=>exact h
 | 2,_,h=>exact h
 | 3,_,h=>exact El.kept h (by decide) hg
 | 4,_,h=>exact Bo.kept h (by decide) hg fun g hgg=>(hu g hgg).2
 | 5,_,h=>exact Lo.kept h (by decide) hg fun e=>hij (m32 e.symm)
 | 6,_,h=>exact h
 | 7,_,h=>exact h
 | 8,_,h=>exact h
 | 9,_,h=>exact El.kept h (by decide) hg
 | 10,_,h=>exact Bo.kept h (by decide) hg fun g hgg=>(hu g hgg).2
 | 11,_,h=>exact Lo.kept h (by decide) hg fun e=>hij (m33 e.symm)
 | 12,_,h=>exact Lo.kept h (by decide) hg fun e=>h1 ⟨rfl,m32 e.symm⟩
 | 13,_,h=>exact Lo.kept h (by decide) hg fun e=>h2 ⟨rfl,m33 e.symm⟩
 | _+14,hj,_=>omega
theorem JX(i b:Nat)(hk:(Pk2 b).contains i=false)(w w':World)(hE:PE v3 v4 i w w')(hR:PBs w0 v3 v4 k6 n B0 base p bs cs q k ns az b w):PBs w0 v3 v4 k6 n B0 base p bs cs q k ns az b w':=by
 obtain⟨m,u,hg,hc⟩:=Hp v3 v4 hE;have hu:=Hk v3 v4 B0 base hv3 hv4 hc;have m32:m=32->i=5:=fun h=>by rcases hc with⟨h1,-⟩|⟨-,h2,-⟩|⟨-,-,h2,-⟩<;>omega
 have m33:m=33->i=11:=fun h=>by rcases hc with⟨-,h2,-⟩|⟨h1,-⟩|⟨-,-,h2,-⟩<;>omega
 match b,hk,hR with
 | 0,_,h=>exact Row.kept h hg (fun p c e=>by cases e) (by rw[P9];exact PY (by decide) (Nat.le_add_right 4 _))
 | 1,hk,h=>exact Lo.kept h (by decide) hg fun e=>by rw[m32 e.symm]at hk;cases hk
 | 2,hk,h=>exact Lo.kept h (by decide) hg fun e=>by rw[m33 e.symm]at hk;cases hk
 | 3,_,h=>exact⟨hg.below h.1 h.2.1 fun g hgg=>(hu g hgg).1,Qj h.2.1 hg.gr.size,Qj h.2.2 hg.gr.size⟩
 | 4,_,h=>exact Tm.kept h hg
 | 5,_,h=>exact Row.kept h hg (fun p c e=>by cases e) (by decide)
 | _+6,_,_=>trivial
end
end
section
open Go.RowKit Go.Sort Go.Deep
variable {P:Nat}[NeZero P]{N:Nat}
theorem Lo.drew{n base:Nat}{W:World}{v:Value}{bs:List Bs}(h:Lo n base W v bs):Lo n base W.drew v bs:=⟨h.ex,h.nil⟩
theorem SumR.all(C:Fld P)(O:Ord N){w w':World}{k:Nat}(hk:k<=512){ns:Nat->Nat}{X:Nat->EC.Pt P}(hn:∀j,j<k->ns j<N)(hX:∀j,j<k->EC.On (X j)){L M:Nat->Bs}(hL:∀j,j<k->L j=bx (ns j))(hM:∀j,j<k->M j=wr (X j)){e:Value}(h:SumR P N w k k L M e w'):
 ME w (wr (EC.tot X k (fun j=>(ns j:Int)))) e w':=by
 have hq:∀j,j<k->rq N (L j)=some (ns j):=fun j hj=>by
  rw[hL j hj];have hb:beV (bx (ns j)).toList=ns j:=xI (PY (hn j hj) O.le);unfold rq;rw[if_pos ⟨aY _,by rw[hb];exact hn j hj⟩,hb]
 have hr:∀j,j<k->∃p,rd P (M j)=some p/\pt p=X j:=fun j hj=>by rw[hM j hj];exact yQ C (hX j hj)
 rcases h with⟨h,-⟩|⟨-,h,-⟩|⟨-,-,⟨⟨j,hj,hn'⟩,-⟩|⟨ns',hns,⟨⟨j,hj,hn'⟩,-⟩|⟨xs,ys,hxy,h⟩⟩⟩
 ·exact absurd rfl h
 ·omega
 ·rw[hq j hj]at hn';cases hn'
 ·obtain⟨p,hp,-⟩:=hr j hj;rw[hp]at hn';cases hn'
 ·have e1:∀j,j<k->ns' j=ns j:=fun j hj=>by
   have:=hns j hj;rw[hq j hj]at this;exact(Qn.inj this).symm
  have hp:∀j,j<k->EC.Pair (xs j) (ys j) (X j)/\EC.On (X j):=fun j hj=>by
   obtain⟨p,hp,hpt⟩:=hr j hj;have h1:=hxy j hj;rw[hp]at h1;have h2:=Qn.inj h1;have h3:=CL C hp;rw[hpt]at h3;rw[h2]at h3;exact h3
  have hJ:=E0 C (ns:=ns') (xs:=xs) (ys:=ys) (p:=X) (N:=k) (fun i hi=>by rw[e1 i hi];exact PY (hn i hi) O.le) (fun i hi=>(hp i hi).1) (fun i hi=>(hp i hi).2);have e2:EC.tot X k (fun j=>(ns' j:Int))=EC.tot X k (fun j=>(ns j:Int)):=EC.dU k fun j hj=>by rw[e1 j hj]
  rw[e2]at hJ;rw[<-Du C (hJ.pair C) hJ.2];exact h
structure Pz(w W:World)(q:Option Addr)(k i:Nat)(ns:Nat->Nat)(az:Nat->Bs)(s3 s4:Value):Prop where
 bl:Below w.heap.size w W
 l3:Lo 32 w.heap.size W s3 ((QJ i).map fun j=>bx (ns j))
 l4:Lo 33 w.heap.size W s4 ((QJ i).map az)
 tm:Tm W q k ns az
 r2:Row W w.heap.size z33
theorem El.of_made{w w':World}{k n:Nat}{b:Bs}(h:RG.Made w k (cb b) w')(hb:b.size=n):El n w' (.slice (some ⟨k,0,none⟩) n n) b:=⟨k,n,rfl,PX _,hb,h.lt,cb_holds h.range h.there⟩
theorem Bo.of{n B0:Nat}{w:World}{x:Value}{b:Bs}(h:El n w x b)(hn:0<n)(hB:B0<=w.heap.size)(T:TypeId):Bo n B0 (w.alloc (.cells #[x] T)) (.slice (some ⟨w.heap.size,0,none⟩) 1 1) b:=
 ⟨w.heap.size,x,rfl,hB,by rw[P4];omega,by rw[World.cell?_alloc_new];rfl,h.kept hn (Gr.of (n:=0) (aH w _))⟩
theorem Lo.args{n base:Nat}{W:World}{v:Value}{bs:List Bs}(h:Lo n base W v bs):∃q cap,v=.slice q bs.length cap/\(0<bs.length->∃g,q=some ⟨g,0,none⟩/\g<W.heap.size/\∀(j:Nat) (b:Bs),bs[j]? = some b->∃x,W.cell? ⟨g,j,none⟩=some x/\El n W x b):=by
 obtain⟨xs,h1,h2,h3⟩:=h.ex;have h4:=fun {g:Nat}=>h2.cells (g:=g)
 rcases h2.2 with⟨rfl,h0⟩|⟨g,cap,cur,rfl,-,hc,-⟩
 ·exact⟨none,0,by rw[h0],fun h=>by omega⟩
 ·refine⟨_,_,rfl,fun _=>⟨g,rfl,(Ql.1 hc).1,fun j b hb=>?_⟩⟩;have hj:j<xs.length:=by rw[h1];exact(Qf.1 hb).1
  have:=h4 (g:=g) rfl j xs[j] (Qb hj);rw[add0]at this;exact⟨_,this,h3 j _ b (Qb hj) hb⟩
theorem El.arg{W:World}{x:Value}{b:Bs}(h:El 32 W x b):Arg W x b:=by
 obtain⟨k,c,rfl,h1,h2,h3,h4⟩:=h;exact⟨_,_,_,rfl,h2,fun _=>⟨k,0,rfl,h1,h3,h4⟩⟩
theorem El.arg33{W:World}{x:Value}{b:Bs}(h:El 33 W x b):Arg33 W x b:=by
 obtain⟨k,c,rfl,h1,h2,h3,h4⟩:=h;exact⟨_,_,_,rfl,h2,fun _=>⟨k,0,rfl,h1,h3,h4⟩⟩
theorem mS(C:Fld P)(O:Ord N)(v:Value)(w:World)(k:Nat)(hk:k<=512)(ns:Nat->Nat)(X:Nat->EC.Pt P)(hn:∀j,j<k->ns j<N)(hX:∀j,j<k->EC.On (X j))
 (hmer:∀W,Below w.heap.size w W->Calls prog 65 #[v] W (Ret fun e w'=>Below W.heap.size W w'/\∃q cap,e=.slice q k cap/\Tm w' q k ns (fun j=>wr (X j)))) :
 Calls prog 30 #[v] w (Ret fun e w'=>Below w.heap.size w w'/\e=pvl (wr (EC.tot X k (fun j=>(ns j:Int))))):=by
 have HM:=Hid.mk' hmer;have HC:Hid (Fld P/\Ord N/\(∀j,j<k->ns j<N)/\∀j,j<k->EC.On (X j)):=⟨C,O,hn,hX⟩
 obtain⟨az,haz⟩:∃az:Nat->Bs,Hid ((fun j=>wr (X j))=az):=⟨_,rfl⟩
 have haz':Hid (∀j,az j=wr (X j)):=fun j=>by rw[<-haz.out]
 rw[haz.out]at HM;obtain⟨w1,hw1⟩:∃w1,Hid (w.alloc (.cells z33.toArray 38)=w1):=⟨_,rfl⟩
 have K1:Hid (Row w1 w.heap.size z33/\Below w.heap.size w w1):=by rw[<-hw1.out];exact⟨aJ w _ _,aH w _⟩
 obtain⟨d,hd1,hd2⟩:=PZ.1 uCP;obtain⟨d',hd3,hd4⟩:=PZ.1 uT;have HD:Hid ((prog.underlying 38=some d/\d.isRow=true)/\prog.underlying 101=some d'/\d'.isRow=true):=⟨⟨hd1,hd2⟩,hd3,hd4⟩
 clear hd1 hd2 hd3 hd4 hmer hn hX haz C O;go_enter Tryz.func30,Tryz.ntmps30;go_wp2_with (refine aP (v:=.pointer (some ⟨w.heap.size,0,none⟩)) (w':=w1) rfl (.alloc 38) rfl ?_ ?_;(rw[<-hw1.out];kernel_rfl))
 clear hw1;refine(HM.out w1 K1.out.2).mono ?_;rintro e w2 ⟨vv,rfl,hb2,q,cap,rfl,hT⟩;have K2:Hid (Pz w w2 q k 0 ns az (.slice none 0 0) (.slice none 0 0)):=⟨K1.out.2.trans (hb2.mono K1.out.2.size),Lo.begin _ _ _,Lo.begin _ _ _,hT,K1.out.1.below hb2⟩
 clear hb2 hT K1 HM;go_wp2_with fail
 go_loopg [3,4,12] k (fun m s3 s4 s12 W=>∃i:Nat,i+m=k/\s12=.int .i64 i/\Hid (Pz w W q k i ns az s3 s4))
 case atStart=>exact⟨0,by omega,rfl,K2⟩
 case round =>
  clear K2;obtain⟨i,hik,rfl,KM⟩:=hrel;by_cases hi:i<k
  ·have hi':(i:Int)<(k:Int):=by omega
   obtain⟨g,hq,hg,hr⟩:=KM.out.tm (by omega);subst hq;obtain⟨n,hne⟩:∃n,Hid (ns i=n):=⟨_,rfl⟩
   obtain⟨p,hpe⟩:∃p,Hid (az i=p):=⟨_,rfl⟩
   have B0:Hid (wr.rangeAt g (37*i) (wn n++aC p)):=by
    have h:=hr i hi;rw[hne.out,hpe.out]at h;exact h
   have hps:Hid (p.size=33):=by rw[<-hpe.out,haz'.out i];exact aN _
   have hnN:Hid (n<N):=by rw[<-hne.out];exact HC.out.2.2.1 i hi
   obtain⟨W1,hW1⟩:∃W1,Hid (wr.alloc (.cells zT.toArray 101)=W1):=⟨_,rfl⟩
   obtain⟨W2,hW2⟩:∃W2,Hid (W1.setCells wr.heap.size 0 (wn n++aC p)=W2):=⟨_,rfl⟩
   have hlen:(wn n++aC p).length=37:=by rw[P9,aG hps.out];rfl
   have F1:Hid (Row W1 wr.heap.size zT/\Below wr.heap.size wr W1/\W1.heap.size=wr.heap.size+1):=by rw[<-hW1.out];exact⟨aJ wr _ _,aH wr _,P4 _ _⟩
   have F2:Hid (Row W2 wr.heap.size (wn n++aC p)/\Below wr.heap.size wr W2):=by rw[<-hW2.out];exact⟨F1.out.1.put (by rw[hlen];rfl),RG.below_setCells (PX _) _ _ _ F1.out.2.1⟩
   have HLT:Hid ((prog.info? 101).map (·.size)=some (wn n++aC p).length):=by show _=_;rw[hlen];exact iT
   have HLS:Hid ((prog.info? 101).map (·.size)=some (wn n++aC p).toArray.size/\W1.there wr.heap.size 0 (wn n++aC p).toArray.size):=by
    have e:(wn n++aC p).toArray.size=37:=by rw[Qr];exact hlen
    rw[e];exact⟨iT,F1.out.1.2.2⟩
   have HAL:Hid ((wn n++aC p).toArray.all (·.oneCell')=true):=by
    show _=_;rw[RQ];intro u hu;exact cells_one n p u (SY.1 hu)
   have hix:=atT g 0 k cap i hi;obtain⟨vt,hvt⟩:∃v,Hid (QA (wn n++aC p).toArray=v):=⟨_,rfl⟩
   have G2:Gr 0 (.slice none 0 0) wr W2:=Gr.of F2.out.2;have HB:Hid (∀b,PBs w u3 u4 wr.heap.size n W2.heap.size w.heap.size p ((QJ i).map fun j=>bx (ns j)) ((QJ i).map az) (some ⟨g,0,none⟩) k ns az b W2.drew):=fun b=>by
    match b with
    | 0=>exact F2.out.1
    | 1=>exact(KM.out.l3.kept (by decide) G2 (by decide)).drew
    | 2=>exact(KM.out.l4.kept (by decide) G2 (by decide)).drew
    | 3=>exact⟨(KM.out.bl.trans (F2.out.2.mono KM.out.bl.size)).drew,Qj KM.out.bl.size F2.out.2.size,PX _⟩
    | 4=>exact KM.out.tm.kept (W':=W2) G2
    | 5=>exact KM.out.r2.below (W':=W2) F2.out.2
    | _+6=>trivial
   have H3:Hid (∀g,u3.ownBlock=some g->w.heap.size<=g/\g<W2.heap.size):=fun g hg=>⟨(KM.out.l3.lt g hg).1,PY (KM.out.l3.lt g hg).2 F2.out.2.size⟩
   have H4:Hid (∀g,u4.ownBlock=some g->w.heap.size<=g/\g<W2.heap.size):=fun g hg=>⟨(KM.out.l4.lt g hg).1,PY (KM.out.l4.lt g hg).2 F2.out.2.size⟩
   have HG:=Hid.mk' hg;clear hlen hr G2 KM F2 hg;go_wp2_with (first|(refine wpList_load_mid rfl 101 _ rfl g (37*i) ?_ (wn n++aC p) d' ?_ ?_ ?_ ?_ ?_;rfl;exact B0.out;exact HD.out.2.1;exact HD.out.2.2;exact HLT.out;rw[hvt.out])|(refine aP (v:=.pointer (some ⟨wr.heap.size,0,none⟩)) (w':=W1) rfl (.alloc 101) rfl ?_ ?_;(rw[<-hW1.out];kernel_rfl))|(refine wpList_store_mid rfl 101 _ _ rfl wr.heap.size 0 (wn n++aC p).toArray ?_ ?_ ?_ ?_ ?_ ?_;rfl;exact hvt.out.symm;exact HLS.out.2;exact HLS.out.1;exact HAL.out;rw[show(wn n++aC p).toArray.toList=wn n++aC p from rfl,hW2.out])|fail)
   refine RG.sU (FP w u3 u4 wr.heap.size n W2.heap.size w.heap.size p ((QJ i).map fun j=>bx (ns j)) ((QJ i).map az) (some ⟨g,0,none⟩) k ns az) (by kernel_rfl) ⟨by kernel_rfl,RG.GO ?_,fun i' j hi0 hj hij hkl hdp=>MD u3 u4 wr.heap.size n W2.heap.size w.heap.size p _ _ H3.out H4.out i' j hj hij hkl (fun h=>by rw[h.1,h.2]at hdp;exact absurd (show false=true from hdp.symm.trans (by kernel_rfl)) (by decide)) (fun h=>by rw[h.1,h.2]at hdp;exact absurd (show false=true from hdp.symm.trans (by kernel_rfl)) (by decide)),fun i' b _ hkl=>JX w u3 u4 wr.heap.size n W2.heap.size w.heap.size p _ _ _ k ns az H3.out H4.out i' b hkl⟩ HB.out ?_
   ·have hb0:∀W:World,Gr 0 (.slice none 0 0) W W:=fun W=>Gr.of (Qd _ _)
    refine⟨RG.lJ 3 fun a W hp=>⟨a.eval (.tmp 3),W,by kernel_rfl,by kernel_rfl,hb0 W,hp.o 3 (by kernel_rfl)⟩,
     RG.lJ 6 fun a W hp=>⟨.pointer (some ⟨wr.heap.size,0,none⟩),W,by kernel_rfl,by rw[show a.eval (.tmp 6)=.pointer (some ⟨wr.heap.size,0,none⟩) from hp.o 6 (by kernel_rfl)];kernel_rfl,hb0 W,rfl⟩,
     RG.xF 66 17 rfl u40 fun a W hp=>⟨wr.heap.size,0,wn n,hp.n 1 17 (by kernel_rfl) (by kernel_rfl) (by kernel_rfl),iM (show Row W wr.heap.size (wn n++aC p) from hp.b 0 (by kernel_rfl)).2.1,i40,hb0 W,rfl⟩,
     RG.Do 18 fun a W hp=>⟨36,#[nv n],by kernel_rfl,by rw[show a.eval (.tmp 18)=nv n from hp.n 2 18 (by kernel_rfl) (by kernel_rfl) (by kernel_rfl)];kernel_rfl,(rM HC.out.2.1 hnN.out W).mono (by
      rintro e W' ⟨u,rfl,k',hm,rfl⟩;exact⟨_,rfl,Gr.of hm.bel,El.of_made hm (aY n)⟩)⟩,
     RG.lJ 19 fun a W hp=>⟨.slice (some ⟨W.heap.size,0,none⟩) 1 1,W.alloc (.cells #[a.eval (.tmp 19)] 22),by kernel_rfl,by
      obtain⟨k',c',he,-⟩:=show El 32 W (a.eval (.tmp 19)) (bx n) from hp.n 3 19 (by kernel_rfl) (by kernel_rfl) (by kernel_rfl)
      rw[he];kernel_rfl,Gr.of (aH W _),Bo.of (show El 32 W (a.eval (.tmp 19)) (bx n) from hp.n 3 19 (by kernel_rfl) (by kernel_rfl) (by kernel_rfl)) (by decide) (hp.b 3 (by kernel_rfl)).2.2 _⟩,
     RG.GN 16 20 31 rfl fun a W hp=>?_,
     RG.lJ 4 fun a W hp=>⟨a.eval (.tmp 4),W,by kernel_rfl,by kernel_rfl,hb0 W,hp.o 4 (by kernel_rfl)⟩,
     RG.lJ 6 fun a W hp=>⟨.pointer (some ⟨wr.heap.size,4,none⟩),W,by kernel_rfl,by rw[show a.eval (.tmp 6)=.pointer (some ⟨wr.heap.size,0,none⟩) from hp.o 6 (by kernel_rfl)];kernel_rfl,hb0 W,rfl⟩,
     RG.xF 38 23 rfl uCP fun a W hp=>⟨wr.heap.size,4,aC p,hp.n 7 23 (by kernel_rfl) (by kernel_rfl) (by kernel_rfl),gJ (xs:=wn n) (show Row W wr.heap.size (wn n++aC p) from hp.b 0 (by kernel_rfl)).2.1,by rw[aG hps.out];exact aQ,hb0 W,rfl⟩,
     RG.Do 24 fun a W hp=>⟨13,#[pvl p],by kernel_rfl,by rw[show a.eval (.tmp 24)=pvl p from hp.n 8 24 (by kernel_rfl) (by kernel_rfl) (by kernel_rfl)];kernel_rfl,(uU hps.out W).mono (by
      rintro e W' ⟨u,rfl,hb,hE⟩;exact⟨_,rfl,Gr.of hb,hE⟩)⟩,
     RG.lJ 25 fun a W hp=>⟨.slice (some ⟨W.heap.size,0,none⟩) 1 1,W.alloc (.cells #[a.eval (.tmp 25)] 22),by kernel_rfl,by
      obtain⟨k',c',he,-⟩:=show El 33 W (a.eval (.tmp 25)) p from hp.n 9 25 (by kernel_rfl) (by kernel_rfl) (by kernel_rfl)
      rw[he];kernel_rfl,Gr.of (aH W _),Bo.of (show El 33 W (a.eval (.tmp 25)) p from hp.n 9 25 (by kernel_rfl) (by kernel_rfl) (by kernel_rfl)) (by decide) (hp.b 3 (by kernel_rfl)).2.2 _⟩,
     RG.GN 22 26 31 rfl fun a W hp=>?_,
     RG.lJ 21 fun a W hp=>⟨a.eval (.tmp 21),W,by kernel_rfl,by kernel_rfl,hb0 W,hp.n 5 21 (by kernel_rfl) (by kernel_rfl) (by kernel_rfl)⟩,
     RG.lJ 27 fun a W hp=>⟨a.eval (.tmp 27),W,by kernel_rfl,by kernel_rfl,hb0 W,hp.n 11 27 (by kernel_rfl) (by kernel_rfl) (by kernel_rfl)⟩,trivial⟩
    ·obtain⟨k',x,he,h1,h2,h3,h4⟩:=show Bo 32 W2.heap.size W (a.eval (.tmp 20)) (bx n) from hp.n 4 20 (by kernel_rfl) (by kernel_rfl) (by kernel_rfl)
     obtain⟨v',W',r1,r2,r3⟩:=Lo.app (show Lo 32 w.heap.size W u3 _ from hp.b 1 (by kernel_rfl)) (by decide) h4 h3 (by rw[Qi,SL];omega) (hp.b 3 (by kernel_rfl)).2.1;refine⟨v',W',?_,r3,r2⟩;rw[he,show a.eval (.tmp 16)=u3 from hp.n 0 16 (by kernel_rfl) (by kernel_rfl) (by kernel_rfl)];exact r1
    ·obtain⟨k',x,he,h1,h2,h3,h4⟩:=show Bo 33 W2.heap.size W (a.eval (.tmp 26)) p from hp.n 10 26 (by kernel_rfl) (by kernel_rfl) (by kernel_rfl)
     obtain⟨v',W',r1,r2,r3⟩:=Lo.app (show Lo 33 w.heap.size W u4 _ from hp.b 2 (by kernel_rfl)) (by decide) h4 h3 (by rw[Qi,SL];omega) (hp.b 3 (by kernel_rfl)).2.1;refine⟨v',W',?_,r3,r2⟩;rw[he,show a.eval (.tmp 22)=u4 from hp.n 6 22 (by kernel_rfl) (by kernel_rfl) (by kernel_rfl)];exact r1
   ·intro V w5 hR5 hB5;have KN:Hid (Pz w w5 (some ⟨g,0,none⟩) k (i+1) ns az (V 12) (V 13)):=by
     have h1:=hR5 12 (Ts (Ss (by kernel_rfl))) rfl;have h2:=hR5 13 (Ts (Ss (by kernel_rfl))) rfl;refine⟨(hB5 3 rfl).1,?_,?_,hB5 4 rfl,hB5 5 rfl⟩
     ·rw[Tw,SJ];show Lo 32 w.heap.size w5 (V 12) (_++[bx (ns i)]);rw[hne.out];exact h1
     ·rw[Tw,SJ];show Lo 33 w.heap.size w5 (V 13) (_++[az i]);rw[hpe.out];exact h2
    clear hR5 hB5 HB H3 H4;dsimp only[RG.iC,Tb];generalize V 12=s3 at KN⊢;generalize V 13=s4 at KN⊢;go_wp2;go_roundg (gk-1)
    case measure=>omega
    case rel=>exact⟨i+1,by omega,rfl,KN⟩
  ·have hi':¬(i:Int)<(k:Int):=by omega
   obtain rfl:i=k:=by omega
   obtain⟨q3,c3,rfl,h3⟩:=KM.out.l3.args;obtain⟨q4,c4,rfl,h4⟩:=KM.out.l4.args;rw[Qi,SL]at h3 h4;have HA:Hid (rA wr q3 i (fun j=>bx (ns j))):=fun h0=>by
    obtain⟨g,e1,e2,e3⟩:=h3 h0;refine⟨g,e1,e2,fun j hj=>?_⟩;obtain⟨x,x1,x2⟩:=e3 j (bx (ns j)) (by rw[Re,Uq hj];rfl);exact⟨x,x1,x2.arg⟩
   have HP:Hid (ArgsPts wr q4 i az):=fun h0=>by
    obtain⟨g,e1,e2,e3⟩:=h4 h0;refine⟨g,e1,e2,fun j hj=>?_⟩;obtain⟨x,x1,x2⟩:=e3 j (az j) (by rw[Re,Uq hj];rfl);exact⟨x,x1,x2.arg33⟩
   rw[Qi,SL,Qi,SL];have KB:Hid (Below w.heap.size w wr/\Row wr w.heap.size z33):=⟨KM.out.bl,KM.out.r2⟩
   clear h3 h4 KM;go_wp2_with fail
   refine(L6 HC.out.1 HC.out.2.1.gap HC.out.2.1.le q3 q4 i c3 i c4 (fun j=>bx (ns j)) az wr HA.out HP.out).mono ?_;rintro e w6 ⟨vv,rfl,hb6,hS⟩;obtain⟨gs,cs,rfl,-,-,h6,h7⟩:=SumR.all HC.out.1 HC.out.2.1 (by omega) HC.out.2.2.1 HC.out.2.2.2 (fun _ _=>rfl) (fun j _=>haz'.out j) hS;obtain⟨T,hT⟩:∃T,Hid (Go.Proofs.YtbceebahamkmdaaGreat.wr (EC.tot X i (fun j=>(ns j:Int)))=T):=⟨_,rfl⟩
   have hTs:T.size=33:=by rw[<-hT.out];exact aN _
   rw[hT.out]at h7;have K6:Hid (Row w6 w.heap.size z33/\Below w.heap.size w w6/\Row w6 gs (aC T)):=⟨KB.out.2.below hb6,KB.out.1.trans (hb6.mono KB.out.1.size),Ft h7 h6⟩
   clear hb6 hS h6 h7 KB HA HP;have harr:=Kt gs cs;obtain⟨w7,hw7⟩:∃w7,Hid (w6.setCells w.heap.size 0 (aC T)=w7):=⟨_,rfl⟩
   have hlen:(aC T).length=33:=aG hTs;have K7:Hid (Row w7 w.heap.size (aC T)/\Below w.heap.size w w7):=by rw[<-hw7.out];exact⟨K6.out.1.put (by rw[hlen];rfl),RG.below_setCells (PX _) _ _ _ K6.out.2.1⟩
   obtain⟨vt,hvt⟩:∃vt,Hid (QA (aC T).toArray=vt):=⟨_,rfl⟩
   have HI:Hid ((prog.info? 38).map (·.size)=some (aC T).length/\w6.there w.heap.size 0 (aC T).toArray.size/\(prog.info? 38).map (·.size)=some (aC T).toArray.size):=by
    have e:(aC T).toArray.size=33:=by rw[Qr];exact hlen
    refine⟨by rw[hlen];exact aQ,by rw[e];exact K6.out.1.2.2,by rw[e];exact aQ⟩
   clear hlen;go_wp2_with (first|(refine wpList_load_mid rfl 38 _ rfl gs 0 ?_ (aC T) d ?_ ?_ ?_ ?_ ?_;rfl;exact K6.out.2.2.2.1;exact HD.out.1.1;exact HD.out.1.2;exact HI.out.1;rw[hvt.out])|(refine wpList_store_mid rfl 38 _ _ rfl w.heap.size 0 (aC T).toArray ?_ ?_ ?_ ?_ ?_ ?_;rfl;exact hvt.out.symm;exact HI.out.2.1;exact HI.out.2.2;exact cV T;rw[show(aC T).toArray.toList=aC T from rfl,hw7.out]))
   refine bodyPost_ret (bE 2 38 rfl K7.out.1 rfl uCP HI.out.1) rfl ?_;exact⟨_,rfl,K7.out.2,by rw[hT.out];rfl⟩
theorem u7(C:Fld P)(O:Ord N){g c n:Nat}(hn:n<N){X:EC.Pt P}(hX:EC.On X)(w:World)(hR:Row w g (wn n++aC (wr X))):
 Calls prog 30 #[.slice (some ⟨g,0,none⟩) 1 c] w (Ret fun e w'=>Below w.heap.size w w'/\e=pvl (wr (EC.mul n X))):=by
 by_cases h0:n=0
 ·subst h0;refine(mS C O _ w 0 (by decide) (fun _=>0) (fun _=>X) (fun j hj=>by omega) (fun j hj=>by omega) fun W hb=>?_).mono ?_
  ·refine(Gf g c (wr X) (aN X) W (hR.below hb).1 (hR.below hb).2.1).mono ?_;rintro e w' ⟨v,rfl,hb',q,cap,rfl⟩;exact⟨_,rfl,hb',q,cap,rfl,fun h=>by omega⟩
  ·rintro e w' ⟨v,rfl,hb',rfl⟩;exact⟨_,rfl,hb',rfl⟩
 ·refine(mS C O _ w 1 (by decide) (fun _=>n) (fun _=>X) (fun j hj=>hn) (fun j hj=>hX) fun W hb=>?_).mono ?_
  ·have e1:mrg N (fun _=>n) (fun _=>wr X) 1=[(n,wr X)]:=rfl;have h:=Gd (N:=N) g 1 c (by decide) (fun _=>n) (fun _=>wr X) (fun _ _=>aN X) (fun i hi=>by
    obtain rfl:i=0:=by omega
    rfl) (fun x hx=>by
    rw[e1]at hx;obtain rfl:x=(n,wr X):=by simpa using hx
    exact⟨h0,PY hn O.le⟩) (by rw[e1];exact So 0) W (hR.below hb).1 (fun j hj=>by
    obtain rfl:j=0:=by omega
    exact(hR.below hb).2.1)
   refine h.mono ?_;rintro e w' ⟨v,rfl,hb',g',cap,rfl,h1,h2,h3⟩;refine⟨_,rfl,hb',some ⟨g',0,none⟩,cap,rfl,fun _=>⟨g',rfl,h2,fun j hj=>?_⟩⟩;have:=h3 j hj;obtain rfl:j=0:=by omega
   exact this
  ·rintro e w' ⟨v,rfl,hb',rfl⟩;exact⟨_,rfl,hb',rfl⟩
theorem Cu(C:Fld P)(O:Ord N){n:Nat}(hn:n<N){X:EC.Pt P}(hX:EC.On X):Gives 73 #[nv n,pvl (wr X)] (pvl (wr (EC.mul n X))):=by
 intro w;have HC:Hid (Fld P/\Ord N/\n<N/\EC.On X):=⟨C,O,hn,hX⟩
 obtain⟨a,hae⟩:∃a,Hid (wr X=a):=⟨_,rfl⟩
 have ha:a.size=33:=by rw[<-hae.out];exact aN X
 rw[hae.out];clear C O hn hX;have B2:=Hid.mk' (boxS n w);obtain⟨w1,hw1⟩:∃w1,Hid (w.alloc (.cells (wn n).toArray 66)=w1):=⟨_,rfl⟩
 rw[hw1.out]at B2;have e1:w1.heap.size=w.heap.size+1:=by rw[<-hw1.out,P4]
 have B1:=Hid.mk' (tJ ha w1);obtain⟨w2,hw2⟩:∃w2,Hid (w1.alloc (.cells (aC a).toArray 38)=w2):=⟨_,rfl⟩
 rw[hw2.out,e1]at B1;have e2:w2.heap.size=w.heap.size+2:=by rw[<-hw2.out,P4,e1]
 obtain⟨w3,hw3⟩:∃w3,Hid (w2.alloc (.cells z33.toArray 38)=w3):=⟨_,rfl⟩
 have K:Hid (Row w3 w.heap.size (wn n)/\Row w3 (w.heap.size+1) (aC a)/\Row w3 (w.heap.size+2) z33/\Below w.heap.size w w3):=by
  have q1:Row w1 w.heap.size (wn n):=by rw[<-hw1.out];exact aJ w _ _
  have q2:Row w2 (w.heap.size+1) (aC a):=by rw[<-hw2.out,<-e1];exact aJ w1 _ _
  have q3:Row w3 (w.heap.size+2) z33:=by rw[<-hw3.out,<-e2];exact aJ w2 _ _
  have b1:Below w.heap.size w w1:=by rw[<-hw1.out];exact aH w _
  have b2:Below w1.heap.size w1 w2:=by rw[<-hw2.out];exact aH w1 _
  have b3:Below w2.heap.size w2 w3:=by rw[<-hw3.out];exact aH w2 _
  exact⟨(q1.below b2).below b3,q2.below b3,q3,(b1.trans (b2.mono (by omega))).trans (b3.mono (by omega))⟩
 have HE:Hid (w2.heap.size=w.heap.size+2):=e2;have HL:Hid ((prog.info? 38).map (·.size)=some (aC a).length):=by show _=_;rw[aG ha];exact aQ
 obtain⟨d,hd1,hd2⟩:=PZ.1 uCP;obtain⟨d',hd3,hd4⟩:=PZ.1 u40;have HD:Hid ((prog.underlying 38=some d/\d.isRow=true)/\prog.underlying 66=some d'/\d'.isRow=true):=⟨⟨hd1,hd2⟩,hd3,hd4⟩
 clear hd1 hd2 hd3 hd4 hw1 hw2 e1 e2;obtain⟨va,hva⟩:∃v,Hid (pvl a=v):=⟨_,rfl⟩
 obtain⟨vn,hvn⟩:∃v,Hid (nv n=v):=⟨_,rfl⟩
 have B1':Hid ((SQ 38 va).run prog w1=.ok (.pointer (some ⟨w.heap.size+1,0,none⟩)) w2):=by rw[<-hva.out];exact B1
 rw[hvn.out]at B2;rw[hva.out,hvn.out];clear B1;go_enter Tryz.func73,Tryz.ntmps73;go_wp2_with (first|(refine bH (u:=vn) (v:=.pointer (some ⟨w.heap.size,0,none⟩)) (w':=w1) rfl 66 (.tmp 0) rfl ?_ ?_ ?_;rfl;exact B2.out)|(refine bH (u:=va) (v:=.pointer (some ⟨w.heap.size+1,0,none⟩)) (w':=w2) rfl 38 (.tmp 1) rfl ?_ ?_ ?_;rfl;exact B1'.out)|(refine aP (v:=.pointer (some ⟨w.heap.size+2,0,none⟩)) (w':=w3) rfl (.alloc 38) rfl ?_ ?_;(rw[<-hw3.out,<-HE.out];kernel_rfl))|(refine wpList_load_mid rfl 66 _ rfl w.heap.size 0 ?_ (wn n) d' ?_ ?_ ?_ ?_ ?_;rfl;exact K.out.1.2.1;exact HD.out.2.1;exact HD.out.2.2;exact i40;rw[show QA (wn n).toArray=vn from hvn.out])|(refine wpList_load_mid rfl 38 _ rfl (w.heap.size+1) 0 ?_ (aC a) d ?_ ?_ ?_ ?_ ?_;rfl;exact K.out.2.1.2.1;exact HD.out.1.1;exact HD.out.1.2;exact HL.out;rw[show QA (aC a).toArray=va from hva.out]))
 have HT:=lW a ha n w3;rw[hva.out,hvn.out]at HT;refine HT.mono ?_;rintro e w4 ⟨vv,rfl,hb4,k4,rfl,-,hR4⟩;have K4:Hid (Row w4 (w.heap.size+2) z33/\Below w.heap.size w w4/\Row w4 k4 (wn n++aC a)):=⟨K.out.2.2.1.below hb4,K.out.2.2.2.trans (hb4.mono K.out.2.2.2.size),hR4⟩
 clear hb4 hR4 K HT B2 B1' hw3 HE;go_wp2_with fail
 refine(u7 HC.out.1 HC.out.2.1 HC.out.2.2.1 HC.out.2.2.2 w4 (by rw[hae.out];exact K4.out.2.2)).mono ?_;rintro e w5 ⟨vv,rfl,hb5,rfl⟩;obtain⟨T,hT⟩:∃T,Hid (wr (EC.mul n X)=T):=⟨_,rfl⟩
 have hTs:T.size=33:=by rw[<-hT.out];exact aN _
 rw[hT.out];have K5:Hid (Row w5 (w.heap.size+2) z33/\Below w.heap.size w w5):=⟨K4.out.1.below hb5,K4.out.2.1.trans (hb5.mono K4.out.2.1.size)⟩
 clear hb5 K4;obtain⟨w6,hw6⟩:∃w6,Hid (w5.setCells (w.heap.size+2) 0 (aC T)=w6):=⟨_,rfl⟩
 have hlen:(aC T).length=33:=aG hTs;have K6:Hid (Row w6 (w.heap.size+2) (aC T)/\Below w.heap.size w w6):=by rw[<-hw6.out];exact⟨K5.out.1.put (by rw[hlen];rfl),RG.below_setCells (by omega) _ _ _ K5.out.2⟩
 obtain⟨vt,hvt⟩:∃vt,Hid (pvl T=vt):=⟨_,rfl⟩
 have HI:Hid ((prog.info? 38).map (·.size)=some (aC T).length/\w5.there (w.heap.size+2) 0 (aC T).toArray.size/\(prog.info? 38).map (·.size)=some (aC T).toArray.size):=by
  have e:(aC T).toArray.size=33:=by rw[Qr];exact hlen
  refine⟨by rw[hlen];exact aQ,by rw[e];exact K5.out.1.2.2,by rw[e];exact aQ⟩
 clear hlen;rw[hvt.out];go_wp2_with (first|(refine wpList_store_mid rfl 38 _ _ rfl (w.heap.size+2) 0 (aC T).toArray ?_ ?_ ?_ ?_ ?_ ?_;rfl;exact hvt.out.symm;exact HI.out.2.1;exact HI.out.2.2;exact cV T;rw[show(aC T).toArray.toList=aC T from rfl,hw6.out]))
 refine bodyPost_ret (bE 4 38 rfl K6.out.1 rfl uCP HI.out.1) rfl ?_;exact⟨_,rfl,K6.out.2,by rw[hT.out];rfl⟩
def cF(f:Nat->UInt8):List Value:=(QJ 33).map fun i=>.int .u8 (ub (f i))
theorem iS{a:Bs}(ha:a.size=33):aC a=cF fun i=>a[i]!:=(jO ha).trans rfl
def prv(a b:Bs):Value:=.agg (aC a++aC b).toArray
def fpv(f:Nat->UInt8):Value:=.agg (cF f).toArray
def fpr(f g:Nat->UInt8):Value:=.agg (cF f++cF g).toArray
theorem gP{a:Bs}(ha:a.size=33):pvl a=fpv fun i=>a[i]!:=by unfold pvl fpv;rw[iS ha]
theorem Bh{a b:Bs}(ha:a.size=33)(hb:b.size=33):prv a b=fpr (fun i=>a[i]!) (fun i=>b[i]!):=by unfold prv fpr;rw[iS ha,iS hb]
theorem uPr:(prog.underlying 76).map (·.isRow)=some true:=by kernel_rfl
theorem iPr:(prog.info? 76).map (·.size)=some 66:=by kernel_rfl
def zz(n:Nat):List Value:=(List.replicate n (Value.int .u8 0))
theorem yY(C:Fld P)(O:Ord N){n:Nat}(hn:n<N){X:EC.Pt P}(hX:EC.On X):Gives 34 #[nv n,pvl (wr X)] (prv (wr (EC.mul n (gG P))) (wr (EC.mul n X))):=by
 intro w;have hG:=Kk C;have h1:=Cu C O hn (qB C);have h2:=Cu C O hn hX;rw[gP (aN _)]at hG h1 h2⊢;rw[gP (aN (EC.mul n _))]at h1 h2;rw[Bh (aN _) (aN _)];generalize (fun i:Nat=>(wr (gG P))[i]!)=g at hG h1;generalize (fun i:Nat=>(wr (EC.mul n (gG P)))[i]!)=h at h1⊢;generalize (fun i:Nat=>(wr (EC.mul n X))[i]!)=k at h2⊢;generalize (fun i:Nat=>(wr X)[i]!)=f at h2⊢;go_enter Tryz.func34,Tryz.ntmps34;refine RG.M.enter [(0,.v (nv n)),(1,.v (fpv f))] 12 (by kernel_rfl) ?_;intro a0 M0;repeat refine wp_seq ?_
 refine M0.t [.m 2 [] 0,.m 3 [] 1,.m 4 [] 2] [(0,wn n),(1,cF f),(2,zz 66)] [] [wn n,cF f,zz 66] [(2,.p 0 0),(3,.p 1 0),(4,.p 2 0)] ⟨RG.mk 0 66,RG.mk 1 38,RG.mk 2 76,trivial⟩ ?_;intro j1 j2 j3 a1 w1 M1;repeat refine wp_seq ?_
 refine M1.d [.x 5 [] (nv n),.c 6 [] (fpv g),.c 7 [(5,0),(6,1)] (fpv h),.x 8 [] (nv n),.x 9 [] (fpv f),.c 10 [(8,3),(9,4)] (fpv k),.x 11 [(7,2),(10,5)] (fpr h k),.u [(11,6)] 2] [] [(2,7,cF h++cF k)] [wn n,cF f,cF h++cF k] [(4,.p 2 0)] ⟨RG.ld u40 i40,RG.cl hG,RG.cl h1,RG.ld u40 i40,RG.ld uCP aQ,RG.cl h2,RG.st,RG.pt iPr,trivial⟩ ?_;intro a2 w2 M2;refine wp_ret ?_;refine bodyPost_ret (v:=fpr h k) (RG.aE M2.st 4 76 rfl 2 _ rfl (M2.at (s:=(.p 2 0))) uPr iPr) M2.sl.defers ?_;exact⟨_,rfl,M2.st.bel.below,rfl⟩
theorem rO{W:World}{k:Nat}{a b:Bs}(h:Row W k (aC a++aC b)):Holds encB W k 0 (a++b):=by
 have e:aC a++aC b=cb (a++b):=by unfold aC cb;rw[Array.toList_append,SJ]
 rw[e]at h;exact cb_holds h.2.1 h.2.2
theorem lR{W:World}{k:Nat}{a b:Bs}(ha:a.size=33)(hb:b.size=33)(h:Row W k (aC a++aC b)):SP.PartOk W (.slice (some ⟨k,0,none⟩) 33 33) a.toList:=
 ⟨_,k,0,33,a,by rw[ha],rfl,by omega,by omega,Qc ⟨rfl,by
  have:=Holds.part (p:=0) (e:=a) (rO h) (by rw[Qg];omega) (fun j hj=>by
   rw[P0,getElem!_pos a j hj,getElem!_pos (a++b) j (by rw[Qg];omega),Array.getElem_append_left])
  exact this⟩⟩
theorem lQ{W:World}{k:Nat}{a b:Bs}(ha:a.size=33)(hb:b.size=33)(h:Row W k (aC a++aC b)):SP.PartOk W (.slice (some ⟨k,33,none⟩) 33 33) b.toList:=
 ⟨_,k,33,33,b,by rw[hb],rfl,by omega,by omega,Qc ⟨rfl,by
  have:=Holds.part (p:=33) (e:=b) (rO h) (by rw[Qg];omega) (fun j hj=>by
   rw[getElem!_pos b j hj,getElem!_pos (a++b) (33+j) (by rw[Qg];omega),Array.getElem_append_right (by omega)]
   congr 1
   omega)
  rwa[P0]at this⟩⟩
theorem Kq{a b:Bs}(ha:a.size=33)(hb:b.size=33)(w:World):(SQ 76 (.agg (aC a++aC b).toArray)).run prog w=.ok (.pointer (some ⟨w.heap.size,0,none⟩)) (w.alloc (.cells (aC a++aC b).toArray 76)):=by
 rw[iS ha,iS hb];kernel_rfl
theorem yC(k o:Nat)(w:World):(Rk 38 (.pointer (some ⟨k,o,none⟩)) none none none).run prog w=.ok (.slice (some ⟨k,o,none⟩) 33 33) w:=by kernel_rfl
structure Sy(w W:World)(k3 k4 k5 k6 k7 r:Nat)(a pa pb fa fb L:Bs):Prop where
 bl:Below w.heap.size w W
 r3:Row W k3 (aC a)
 r4:Row W k4 (aC pa++aC pb)
 r5:Row W k5 (aC fa++aC fb)
 r6:Row W k6 [.int .u64 0,.int .u64 0,.int .u64 0,.int .u64 0]
 r7:Row W k7 [.pointer (some ⟨r,0,none⟩)]
 lg:Holds encB W r 0 L
structure Sz(w:World)(k3 k4 k5 k6 k7 r:Nat):Prop where
 lr:w.heap.size<=r
 n3:k3≠r
 n4:k4≠r
 n5:k5≠r
 n6:k6≠r
 n7:k7≠r
theorem Sy.say{w W W':World}{k3 k4 k5 k6 k7 r:Nat}{a pa pb fa fb L L':Bs}(h:Sy w W k3 k4 k5 k6 k7 r a pa pb fa fb L)(n:Sz w k3 k4 k5 k6 k7 r)(hO:SP.Only r 0 32 W W')(hL:Holds encB W' r 0 L'):Sy w W' k3 k4 k5 k6 k7 r a pa pb fa fb L':=
 ⟨h.bl.trans (hO.below h.bl.size n.lr),h.r3.only hO n.n3,h.r4.only hO n.n4,h.r5.only hO n.n5,h.r6.only hO n.n6,h.r7.only hO n.n7,hL⟩
theorem Sy.drew{w W:World}{k3 k4 k5 k6 k7 r:Nat}{a pa pb fa fb L:Bs}(h:Sy w W k3 k4 k5 k6 k7 r a pa pb fa fb L):Sy w W.drew k3 k4 k5 k6 k7 r a pa pb fa fb L:=⟨h.bl.drew,h.r3,h.r4,h.r5,h.r6,h.r7,h.lg⟩
theorem Sy.cell{w W:World}{k3 k4 k5 k6 k7 r:Nat}{a pa pb fa fb L:Bs}(h:Sy w W k3 k4 k5 k6 k7 r a pa pb fa fb L):W.cell? ⟨k7,0,none⟩=some (.pointer (some ⟨r,0,none⟩)):=h.r7.2.1 0 _ rfl
def LL(a pa pb fa fb:List UInt8):Bs:=SP.eG (SP.eG (SP.eG (SP.eG (SP.eG (SP.newL [115,97,109,101]) [98,97,115,101] a) [97] pa) [98] pb) [102,105,114,115,116] fa) [115,101,99,111,110,100] fb
def asm(N:Nat)(a pa pb fa fb:List UInt8):Nat:=cha N (LL a pa pb fa fb)
theorem tN(O:Ord N)(a pa pb fa fb:List UInt8):asm N a pa pb fa fb<N:=wF O _
theorem CB(O:Ord N)(a pa pb fa fb:Bs)(ha:a.size=33)(hpa:pa.size=33)(hpb:pb.size=33)(hfa:fa.size=33)(hfb:fb.size=33):Gives 33 #[pvl a,prv pa pb,prv fa fb] (nv (asm N a.toList pa.toList pb.toList fa.toList fb.toList)):=by
 intro w;unfold pvl prv;obtain⟨L0,h0⟩:∃L,Hid (SP.newL [115,97,109,101]=L):=⟨_,rfl⟩
 obtain⟨L1,h1⟩:∃L,Hid (SP.eG L0 [98,97,115,101] a.toList=L):=⟨_,rfl⟩
 obtain⟨L2,h2⟩:∃L,Hid (SP.eG L1 [97] pa.toList=L):=⟨_,rfl⟩
 obtain⟨L3,h3⟩:∃L,Hid (SP.eG L2 [98] pb.toList=L):=⟨_,rfl⟩
 obtain⟨L4,h4⟩:∃L,Hid (SP.eG L3 [102,105,114,115,116] fa.toList=L):=⟨_,rfl⟩
 obtain⟨L5,h5⟩:∃L,Hid (SP.eG L4 [115,101,99,111,110,100] fb.toList=L):=⟨_,rfl⟩
 have s0:L0.size=32:=by rw[<-h0.out];exact SP.pG _
 have s1:L1.size=32:=by rw[<-h1.out];exact SP.cX _ _ _
 have s2:L2.size=32:=by rw[<-h2.out];exact SP.cX _ _ _
 have s3:L3.size=32:=by rw[<-h3.out];exact SP.cX _ _ _
 have s4:L4.size=32:=by rw[<-h4.out];exact SP.cX _ _ _
 have s5:L5.size=32:=by rw[<-h5.out];exact SP.cX _ _ _
 have hr:asm N a.toList pa.toList pb.toList fa.toList fb.toList=cha N L5:=by unfold asm LL;rw[h0.out,h1.out,h2.out,h3.out,h4.out,h5.out]
 rw[hr];clear hr;obtain⟨va,hva⟩:∃v,Hid (QA (aC a).toArray=v):=⟨_,rfl⟩
 obtain⟨vp,hvp⟩:∃v,Hid (QA (aC pa++aC pb).toArray=v):=⟨_,rfl⟩
 obtain⟨vf,hvf⟩:∃v,Hid (QA (aC fa++aC fb).toArray=v):=⟨_,rfl⟩
 have bA:=tJ ha w;obtain⟨w1,hw1⟩:∃w1,Hid (w.alloc (.cells (aC a).toArray 38)=w1):=⟨_,rfl⟩
 have bB:=Kq hpa hpb w1;obtain⟨w2,hw2⟩:∃w2,Hid (w1.alloc (.cells (aC pa++aC pb).toArray 76)=w2):=⟨_,rfl⟩
 have bC:=Kq hfa hfb w2;obtain⟨w3,hw3⟩:∃w3,Hid (w2.alloc (.cells (aC fa++aC fb).toArray 76)=w3):=⟨_,rfl⟩
 obtain⟨w4,hw4⟩:∃w4,Hid (w3.alloc (.cells #[.int .u64 0,.int .u64 0,.int .u64 0,.int .u64 0] 66)=w4):=⟨_,rfl⟩
 rw[hva.out,hw1.out]at bA;rw[hvp.out,hw2.out]at bB;rw[hvf.out,hw3.out]at bC;rw[hva.out,hvp.out,hvf.out];have e1:w1.heap.size=w.heap.size+1:=by rw[<-hw1.out,P4]
 have e2:w2.heap.size=w.heap.size+2:=by rw[<-hw2.out,P4,e1]
 have e3:w3.heap.size=w.heap.size+3:=by rw[<-hw3.out,P4,e2]
 have e4:w4.heap.size=w.heap.size+4:=by rw[<-hw4.out,P4,e3]
 rw[e1]at bB;rw[e2]at bC;have K4:Hid (Row w4 w.heap.size (aC a)/\Row w4 (w.heap.size+1) (aC pa++aC pb)/\Row w4 (w.heap.size+2) (aC fa++aC fb)/\Row w4 (w.heap.size+3) [.int .u64 0,.int .u64 0,.int .u64 0,.int .u64 0]/\Below w.heap.size w w4):=by
  have q1:Row w1 w.heap.size (aC a):=by rw[<-hw1.out];exact aJ w _ _
  have q2:Row w2 (w.heap.size+1) (aC pa++aC pb):=by rw[<-hw2.out,<-e1];exact aJ w1 _ _
  have q3:Row w3 (w.heap.size+2) (aC fa++aC fb):=by rw[<-hw3.out,<-e2];exact aJ w2 _ _
  have q4:Row w4 (w.heap.size+3) [.int .u64 0,.int .u64 0,.int .u64 0,.int .u64 0]:=by rw[<-hw4.out,<-e3];exact aJ w3 _ _
  have b1:Below w.heap.size w w1:=by rw[<-hw1.out];exact aH w _
  have b2:Below w1.heap.size w1 w2:=by rw[<-hw2.out];exact aH w1 _
  have b3:Below w2.heap.size w2 w3:=by rw[<-hw3.out];exact aH w2 _
  have b4:Below w3.heap.size w3 w4:=by rw[<-hw4.out];exact aH w3 _
  exact⟨((q1.below b2).below b3).below b4,(q2.below b3).below b4,q3.below b4,q4,((b1.trans (b2.mono (by omega))).trans (b3.mono (by omega))).trans (b4.mono (by omega))⟩
 clear hw1 hw2 hw3;have BA:=Hid.mk' bA;have BB:=Hid.mk' bB;have BC:=Hid.mk' bC;clear bA bB bC;go_enter Tryz.func33,Tryz.ntmps33;go_wp2_with (first|(refine bH (u:=va) (v:=.pointer (some ⟨w.heap.size,0,none⟩)) (w':=w1) rfl 38 (.tmp 0) rfl ?_ ?_ ?_;rfl;exact BA.out)|(refine bH (u:=vp) (v:=.pointer (some ⟨w.heap.size+1,0,none⟩)) (w':=w2) rfl 76 (.tmp 1) rfl ?_ ?_ ?_;rfl;exact BB.out)|(refine bH (u:=vf) (v:=.pointer (some ⟨w.heap.size+2,0,none⟩)) (w':=w3) rfl 76 (.tmp 2) rfl ?_ ?_ ?_;rfl;exact BC.out))
 rw[hw4.out];clear hw4 BA BB BC;refine(D4 ⟨#[115,97,109,101]⟩ w4 (by decide)).mono ?_;rintro e w5 ⟨v,rfl,hb5,r,rfl,hr1,hr2,hL⟩;rw[show SP.newL (⟨#[115,97,109,101]⟩:ByteArray).data.toList=L0 from h0.out]at hL;have hb05:Below w.heap.size w w5:=K4.out.2.2.2.2.trans (hb5.mono K4.out.2.2.2.2.size);obtain⟨k7,hk7⟩:∃k,Hid (w5.heap.size=k):=⟨_,rfl⟩
 have hk7r:r<k7:=by rw[<-hk7.out];exact hr2
 have hb05s:=hb05.size;have HN:Hid (Sz w w.heap.size (w.heap.size+1) (w.heap.size+2) (w.heap.size+3) k7 r):=⟨by omega,by omega,by omega,by omega,by omega,by omega⟩
 obtain⟨w6,hw6⟩:∃w6,Hid ((w5.alloc (.cells #[.pointer none] 109)).setCells k7 0 [.pointer (some ⟨r,0,none⟩)]=w6):=⟨_,rfl⟩
 have KS:Hid (Sy w w6 w.heap.size (w.heap.size+1) (w.heap.size+2) (w.heap.size+3) k7 r a pa pb fa fb L0):=by
  rw[<-hw6.out,<-hk7.out];have hR:=aJ w5 [.pointer none] 109;have hlt:w5.heap.size=k7:=hk7.out;refine⟨RG.below_setCells hb05.size _ _ _ (hb05.alloc hb05.size _),((K4.out.1.below hb5).alloc _).other (by omega),((K4.out.2.1.below hb5).alloc _).other (by omega),((K4.out.2.2.1.below hb5).alloc _).other (by omega),((K4.out.2.2.2.1.below hb5).alloc _).other (by omega),hR.put rfl,fun j hj=>?_⟩;have e:=RG.cK w5.heap.size [.pointer (some ⟨r,0,none⟩)] 0 (w5.alloc (.cells #[.pointer none] 109)) r (by omega);have e2:=Below.heap_alloc w5 (.cells #[.pointer none] 109) r hr2;rw[QD (a:=⟨r,0+j,none⟩) e,RL (a:=⟨r,0+j,none⟩) e,QD (a:=⟨r,0+j,none⟩) e2,RL (a:=⟨r,0+j,none⟩) e2];exact hL j hj
 have HTH:Hid ((w5.alloc (.cells #[.pointer none] 109)).there k7 0 1):=by rw[<-hk7.out];exact(aJ w5 [.pointer none] 109).2.2
 clear hb5 hL hb05 hr1 hr2 K4 hk7r hb05s;go_wp2_with (refine aP (v:=.pointer (some ⟨k7,0,none⟩)) (w':=w5.alloc (.cells #[.pointer none] 109)) rfl (.alloc 109) rfl ?_ ?_;(rw[<-hk7.out];kernel_rfl);refine Hid.out ?_)
 show wpList _ _ _ _ _ _;refine wpList_store_mid rfl 109 _ _ rfl k7 0 #[.pointer (some ⟨r,0,none⟩)] ?_ ?_ ?_ ?_ ?_ ?_
 ·kernel_rfl
 ·kernel_rfl
 ·exact HTH.out
 ·exact i124
 ·kernel_rfl
 rw[show(#[Value.pointer (some ⟨r,0,none⟩)]).toList=[.pointer (some ⟨r,0,none⟩)] from rfl,hw6.out];clear HTH hw6 hk7;have KP:=KS.out;clear KS;have hsl:=yC w.heap.size 0;go_wp2_with fail
 go_region_held3 (fun W=>W.cell? ⟨k7,0,none⟩=some (.pointer (some ⟨r,0,none⟩))/\∃L,Sy w W w.heap.size (w.heap.size+1) (w.heap.size+2) (w.heap.size+3) k7 r a pa pb fa fb L) (first|(with_reducible exact⟨KP.cell,_,KP⟩)|(with_reducible exact⟨KP.drew.cell,_,KP.drew⟩)|fail) (first|(go_at_call 71;(first|(with_reducible refine(SP.fD r L0 ⟨#[98,97,115,101]⟩ (some ⟨w.heap.size,0,none⟩) 33 33 a.toList _ (by decide) (tY KP.lg) s0 (yG ha KP.r3)).mono ?_)|(with_reducible refine(SP.fD r L0 ⟨#[98,97,115,101]⟩ (some ⟨w.heap.size,0,none⟩) 33 33 a.toList _ (by decide) (tY KP.drew.lg) s0 (yG ha KP.drew.r3)).mono ?_));rintro e w7 ⟨rfl,hO,hL⟩;rw[show SP.eG L0 (⟨#[98,97,115,101]⟩:ByteArray).data.toList a.toList=L1 from h1.out]at hL;(first|(with_reducible (have KP1:=KP.drew.say HN.out hO (tX hL)))|(with_reducible (have KP1:=KP.say HN.out hO (tX hL)))|fail);clear KP hO hL;have KP:=KP1;clear KP1))
 clear hsl;have hsl:=yC (w.heap.size+1) 0;go_wp2_with fail
 go_region_held3 (fun W=>W.cell? ⟨k7,0,none⟩=some (.pointer (some ⟨r,0,none⟩))/\∃L,Sy w W w.heap.size (w.heap.size+1) (w.heap.size+2) (w.heap.size+3) k7 r a pa pb fa fb L) (first|(with_reducible exact⟨KP.cell,_,KP⟩)|(with_reducible exact⟨KP.drew.cell,_,KP.drew⟩)|fail) (first|(go_at_call 71;(first|(with_reducible refine(SP.fD r L1 ⟨#[97]⟩ (some ⟨w.heap.size+1,0,none⟩) 33 33 pa.toList _ (by decide) (tY KP.lg) s1 (lR hpa hpb KP.r4)).mono ?_)|(with_reducible refine(SP.fD r L1 ⟨#[97]⟩ (some ⟨w.heap.size+1,0,none⟩) 33 33 pa.toList _ (by decide) (tY KP.drew.lg) s1 (lR hpa hpb KP.drew.r4)).mono ?_));rintro e w8 ⟨rfl,hO,hL⟩;rw[show SP.eG L1 (⟨#[97]⟩:ByteArray).data.toList pa.toList=L2 from h2.out]at hL;(first|(with_reducible (have KP1:=KP.drew.say HN.out hO (tX hL)))|(with_reducible (have KP1:=KP.say HN.out hO (tX hL)))|fail);clear KP hO hL;have KP:=KP1;clear KP1))
 clear hsl;have hsl:=yC (w.heap.size+1) 33;go_wp2_with fail
 go_region_held3 (fun W=>W.cell? ⟨k7,0,none⟩=some (.pointer (some ⟨r,0,none⟩))/\∃L,Sy w W w.heap.size (w.heap.size+1) (w.heap.size+2) (w.heap.size+3) k7 r a pa pb fa fb L) (first|(with_reducible exact⟨KP.cell,_,KP⟩)|(with_reducible exact⟨KP.drew.cell,_,KP.drew⟩)|fail) (first|(go_at_call 71;(first|(with_reducible refine(SP.fD r L2 ⟨#[98]⟩ (some ⟨w.heap.size+1,33,none⟩) 33 33 pb.toList _ (by decide) (tY KP.lg) s2 (lQ hpa hpb KP.r4)).mono ?_)|(with_reducible refine(SP.fD r L2 ⟨#[98]⟩ (some ⟨w.heap.size+1,33,none⟩) 33 33 pb.toList _ (by decide) (tY KP.drew.lg) s2 (lQ hpa hpb KP.drew.r4)).mono ?_));rintro e w9 ⟨rfl,hO,hL⟩;rw[show SP.eG L2 (⟨#[98]⟩:ByteArray).data.toList pb.toList=L3 from h3.out]at hL;(first|(with_reducible (have KP1:=KP.drew.say HN.out hO (tX hL)))|(with_reducible (have KP1:=KP.say HN.out hO (tX hL)))|fail);clear KP hO hL;have KP:=KP1;clear KP1))
 clear hsl;have hsl:=yC (w.heap.size+2) 0;go_wp2_with fail
 go_region_held3 (fun W=>W.cell? ⟨k7,0,none⟩=some (.pointer (some ⟨r,0,none⟩))/\∃L,Sy w W w.heap.size (w.heap.size+1) (w.heap.size+2) (w.heap.size+3) k7 r a pa pb fa fb L) (first|(with_reducible exact⟨KP.cell,_,KP⟩)|(with_reducible exact⟨KP.drew.cell,_,KP.drew⟩)|fail) (first|(go_at_call 71;(first|(with_reducible refine(SP.fD r L3 ⟨#[102,105,114,115,116]⟩ (some ⟨w.heap.size+2,0,none⟩) 33 33 fa.toList _ (by decide) (tY KP.lg) s3 (lR hfa hfb KP.r5)).mono ?_)|(with_reducible refine(SP.fD r L3 ⟨#[102,105,114,115,116]⟩ (some ⟨w.heap.size+2,0,none⟩) 33 33 fa.toList _ (by decide) (tY KP.drew.lg) s3 (lR hfa hfb KP.drew.r5)).mono ?_));rintro e w10 ⟨rfl,hO,hL⟩;rw[show SP.eG L3 (⟨#[102,105,114,115,116]⟩:ByteArray).data.toList fa.toList=L4 from h4.out]at hL;(first|(with_reducible (have KP1:=KP.drew.say HN.out hO (tX hL)))|(with_reducible (have KP1:=KP.say HN.out hO (tX hL)))|fail);clear KP hO hL;have KP:=KP1;clear KP1))
 clear hsl;have hsl:=yC (w.heap.size+2) 33;go_wp2_with fail
 go_region_held3 (fun W=>W.cell? ⟨k7,0,none⟩=some (.pointer (some ⟨r,0,none⟩))/\∃L,Sy w W w.heap.size (w.heap.size+1) (w.heap.size+2) (w.heap.size+3) k7 r a pa pb fa fb L) (first|(with_reducible exact⟨KP.cell,_,KP⟩)|(with_reducible exact⟨KP.drew.cell,_,KP.drew⟩)|fail) (first|(go_at_call 71;(first|(with_reducible refine(SP.fD r L4 ⟨#[115,101,99,111,110,100]⟩ (some ⟨w.heap.size+2,33,none⟩) 33 33 fb.toList _ (by decide) (tY KP.lg) s4 (lQ hfa hfb KP.r5)).mono ?_)|(with_reducible refine(SP.fD r L4 ⟨#[115,101,99,111,110,100]⟩ (some ⟨w.heap.size+2,33,none⟩) 33 33 fb.toList _ (by decide) (tY KP.drew.lg) s4 (lQ hfa hfb KP.drew.r5)).mono ?_));rintro e w11 ⟨rfl,hO,hL⟩;rw[show SP.eG L4 (⟨#[115,101,99,111,110,100]⟩:ByteArray).data.toList fb.toList=L5 from h5.out]at hL;(first|(with_reducible (have KP1:=KP.drew.say HN.out hO (tX hL)))|(with_reducible (have KP1:=KP.say HN.out hO (tX hL)))|fail);clear KP hO hL;have KP:=KP1;clear KP1))
 clear hsl;have KT:=Hid.mk' KP;clear KP;obtain⟨d,hd1,hd2⟩:=PZ.1 u124;have HD:Hid (prog.underlying 109=some d/\d.isRow=true):=⟨hd1,hd2⟩
 clear hd1 hd2;go_wp2_with (refine wpList_load_mid rfl 109 _ rfl k7 0 ?_ [.pointer (some ⟨r,0,none⟩)] d ?_ ?_ ?_ ?_ ?_;kernel_rfl;exact KT.out.r7.2.1;exact HD.out.1;exact HD.out.2;exact i124)
 refine(wC O r L5 w11 KT.out.lg s5).mono ?_;rintro e w12 ⟨v,rfl,hO,rfl⟩;have K9:Hid (Row w12 (w.heap.size+3) [.int .u64 0,.int .u64 0,.int .u64 0,.int .u64 0]/\Below w.heap.size w w12):=⟨KT.out.r6.only hO HN.out.n6,KT.out.bl.trans (hO.below KT.out.bl.size HN.out.lr)⟩
 clear hO KT HN;obtain⟨m,hm⟩:∃m,Hid (cha N L5=m):=⟨_,rfl⟩
 rw[hm.out];obtain⟨wa,hwa⟩:∃wa,Hid (w12.setCells (w.heap.size+3) 0 (wn m)=wa):=⟨_,rfl⟩
 have KA:Hid (Row wa (w.heap.size+3) (wn m)/\Below w.heap.size w wa):=by rw[<-hwa.out];exact⟨K9.out.1.put rfl,RG.below_setCells (by omega) _ _ _ K9.out.2⟩
 obtain⟨vm,hvm⟩:∃vm,Hid (nv m=vm):=⟨_,rfl⟩
 rw[hvm.out];go_wp2_with (refine wpList_store_mid rfl 66 _ _ rfl (w.heap.size+3) 0 (wn m).toArray ?_ ?_ ?_ ?_ ?_ ?_;rfl;exact hvm.out.symm;exact K9.out.1.2.2;exact i40;exact dO m;rw[show(wn m).toArray.toList=wn m from rfl,hwa.out])
 refine bodyPost_ret (bE 6 66 rfl KA.out.1 rfl u40 i40) rfl ?_;exact⟨_,rfl,KA.out.2,by rw[hm.out];rfl⟩
end
namespace RG
open Go Go.RowKit
variable {P:Program}{ops:Array Oper}{Q:Exit->Act->World->Prop}{w:World}{a0:Act}
def AllE(a:Act):List (Tmp × Value)->Prop
 | []=>True
 | x :: r=>a.eval (.tmp x.1)=x.2/\AllE a r
def evl(ps:List (Tmp × Value))(t:Tmp):Value:=match ps.find? (fun x=>x.1 == t) with|some x=>x.2|none=>undef
theorem AllE.mem{a:Act}:∀ {ps:List (Tmp × Value)},AllE a ps->∀x∈ps,a.eval (.tmp x.1)=x.2
 | [],_,x,hx=>by cases hx
 | y :: r,h,x,hx=>by
  rcases QT.1 hx with rfl|hx
  ·exact h.1
  ·exact AllE.mem h.2 x hx
theorem AllE.ev{a:Act}{ps:List (Tmp × Value)}(h:AllE a ps):∀t∈ps.map (·.1),a.eval (.tmp t)=evl ps t:=fun t ht=>by
 obtain⟨x,hx,rfl⟩:=QN.1 ht;unfold evl;cases hf:ps.find? (fun y=>y.1 == x.1) with
 | none =>
  have:=List.find?_eq_none.1 hf x hx;simp at this
 | some y =>
  have h1:=List.mem_of_find?_eq_some hf;have h2:y.1=x.1:=by simpa using List.find?_some hf
  have:=h.mem y h1;rw[h2]at this;exact this
structure Gw where
 R:Nat->Value->World->Prop
 B:World->Prop
 sR:∀i v w w',Below w.heap.size w w'->R i v w->R i v w'
 sB:∀w w',Below w.heap.size w w'->B w->B w'
def Gw.flow(G:Gw):Flow:=⟨G.R,fun _=>G.B,fun _ w w'=>Below w.heap.size w w',fun _=>[],fun _=>[]⟩
structure PreG(G:Gw)(ops:Array Oper)(a0:Act)(k:Nat)(o:Oper)(a:Act)(w:World):Prop where
 n:∀j d,jC o j=true->dY ops j=some d->G.R j (a.eval (.tmp d)) w
 o:∀t,Db ops k t=true->a.eval (.tmp t)=a0.eval (.tmp t)
 b:G.B w
variable {G:Gw}
theorem rV{k:Nat}{o:Oper}{a:Act}(h:PreF G.flow ops a0 k o a w):PreG G ops a0 k o a w:=⟨fun j d hj hd=>h.n j d hj rfl hd,h.o,h.b 0 rfl⟩
theorem bN{k:Nat}{o:Oper}(h:∀(a:Act) (w:World),PreG G ops a0 k o a w->∃(ps:List (Tmp × Value)) (v:Value) (w':World),AllE a ps/\(uL (ps.map (·.1)) o,(execOp (evo (evl ps)) o).run P w)=(true,.ok (.value v) w')/\Below w.heap.size w w'/\G.R k v w'):jP P Q G.flow ops a0 k o:=
 xE fun a w hp=>by
  obtain⟨ps,v,w',he,hs,hE⟩:=h a w (rV hp);simp only[Ro.injEq]at hs;refine⟨v,w',?_,hE⟩;rw[qX (evl ps) (ps.map (·.1)) hs.1 he.ev];exact hs.2
theorem dA{k:Nat}{o:Oper}(h:∀(a:Act) (w:World),PreG G ops a0 k o a w->∃(ps:List (Tmp × Value)) (f:FuncId) (args:Array Value),AllE a ps/\(uL (ps.map (·.1)) o,(execOp (evo (evl ps)) o).run P w)=(true,.ok (.enter f args) w)/\Calls P f args w (Ret fun e w'=>Below w.heap.size w w'/\G.R k e w')):jP P Q G.flow ops a0 k o:=by
 intro a w K h1 h2 h3 hK;obtain⟨ps,f,args,he,hs,hc⟩:=h a w (rV ⟨h1,h2,h3⟩);simp only[Ro.injEq]at hs;unfold Sc;rw[qX (evl ps) (ps.map (·.1)) hs.1 he.ev,hs.2,S9];refine hc.mono ?_;rintro e w' ⟨v,rfl,hE,hR⟩;exact hK _ _ hE hR
theorem b8{k:Nat}{o:Oper}(T:TypeId)(t:Tmp)(ho:o.op=.load T (.tmp t))(hu:(P.underlying T).map (·.isRow)=some true)
 (h:∀(a:Act) (w:World),PreG G ops a0 k o a w->∃g off cs,a.eval (.tmp t)=.pointer (some ⟨g,off,none⟩)/\w.rangeAt g off cs/\(P.info? T).map (·.size)=some cs.length/\G.R k (.agg cs.toArray) w):jP P Q G.flow ops a0 k o:=
 xF T t ho hu fun a w hp=>by
  obtain⟨g,off,cs,h1,h2,h3,h4⟩:=h a w (rV hp);exact⟨g,off,cs,h1,h2,h3,Qd _ _,h4⟩
theorem LX{k:Nat}{o:Oper}(op:BinOp)(T T':TypeId)(t1 t2:Tmp)(ho:o.op=.binOp op T (.tmp t1) (.tmp t2) T')
 (h:∀(a:Act) (w:World),PreG G ops a0 k o a w->∃v1 v2 v,a.eval (.tmp t1)=v1/\a.eval (.tmp t2)=v2/\(eqGuard op T (.tmp t1) (.tmp t2) v1 v2).run P w=.ok () w/\(binOp op T v1 v2).run P w=.ok v w/\G.R k v w):jP P Q G.flow ops a0 k o:=
 xE fun a w hp=>by
  obtain⟨v1,v2,v,h1,h2,hg,hb,hR⟩:=h a w (rV hp);refine⟨v,w,?_,Qd _ _,hR⟩;unfold execOp;rw[ho];dsimp only;rw[h1,h2,Qm,Qm,hg];dsimp only[Result.andThen];rw[hb];rfl
theorem kE{k:Nat}{o:Oper}{j:Nat}{want:Bool}(hg:o.guard=some (j,want))(h:(jC o j,(dY ops j).isSome)=(true,true))(hw:∀v w,G.R j v w->v=.bool want)(hc:jP P Q G.flow ops a0 k o):qI P Q G.flow ops a0 k o:=by
 unfold qI;rw[hg];simp only[Ro.injEq]at h;exact⟨h.1,h.2,rfl,Qh ⟨hw,hc⟩⟩
theorem Gw.reg{m:Nat}(hc:JD ops a0.tmps.size=true)(h:m9 P Q G.flow ops a0 0 (ops.toList.take m)):RegF P Q G.flow ops a0 m:=
 ⟨hc,Ew h,fun i j _ _ _ _ _ v w w' hE hR=>G.sR j v w w' hE hR,fun i b _ _ w w' hE hB=>G.sB w w' hE hB⟩
theorem Gw.draws{id:Nat}(G:Gw)(hm:P.follows .mixedOrders=true)(hc:JD ops a0.tmps.size=true)(h:m9 P Q G.flow ops a0 0 (ops.toList.take ops.size))(hB:G.B w.drew)
 (hp:∀(V:Nat->Value) (w':World),(∀i,i<ops.size->G.R i (V i) w')->G.B w'->Q .normal (iC V ops.toList 0 a0) w'):(RY id ops true).wp P Q a0 w:=
 sU G.flow hm (Gw.reg hc h) (fun _=>hB) fun V w' h1 h2=>hp V w' (fun i hi=>h1 i hi rfl) (h2 0 rfl)
theorem Gw.last{id:Nat}(G:Gw)(n:Nat)(hn:((ops.size == n+1) && (QJ n).all (fun j=>depOn ops n j || (QJ n).any (fun i=>depOn ops n i && depOn ops i j)))=true)(hm:P.follows .mixedOrders=true)(hc:JD ops a0.tmps.size=true)(h:m9 P Q G.flow ops a0 0 (ops.toList.take n))(hB:G.B w.drew)
 (hp:∀(V:Nat->Value) (w':World),(∀i,i<n->G.R i (V i) w')->G.B w'->wpList P ops Q (ops.toList.drop n) (iC V (ops.toList.take n) 0 a0) w'):(RY id ops true).wp P Q a0 w:=by
 rw[Qa,beq_iff_eq]at hn;exact Et G.flow n hn.1 hn.2 hm (Gw.reg hc h) (fun _=>hB) fun V w' h1 h2=>hp V w' (fun i hi=>h1 i hi rfl) (h2 0 rfl)
end RG
section
open Go.RowKit Go.Sort Go.Deep
variable {P:Nat}[NeZero P]{N:Nat}
theorem yE{w:World}{g o:Nat}{v:Value}{cur:Array Value}{e:TypeId}{z:Nat × Nat}(h:w.heap[g]? = some (.cells cur e z)):∃cur2:Array Value,(w.setCell ⟨g,o,none⟩ v).heap[g]? = some (.cells cur2 e z)/\cur2.size=cur.size:=by
 have hlt:g<w.heap.size:=(Ql.1 h).1;refine⟨cur.setIfInBounds o v,?_,Qw ..⟩;have h2:w.heap[g]=.cells cur e z:=by rw[Qp hlt]at h;exact Qn.inj h
 simp[World.setCell,Array.getElem_modify,hlt,h2]
theorem nF{g:Nat}{e:TypeId}{z:Nat × Nat}:∀(vs:List Value) (o:Nat) (w:World) (cur:Array Value),w.heap[g]? = some (.cells cur e z)->∃cur2:Array Value,(w.setCells g o vs).heap[g]? = some (.cells cur2 e z)/\cur2.size=cur.size
 | [],_,_,cur,h=>⟨cur,h,rfl⟩
 | v :: r,o,w,cur,h=>by
  obtain⟨c1,h1,h2⟩:=yE (o:=o) (v:=v) h;obtain⟨c2,h3,h4⟩:=nF r (o+1) _ c1 h1;exact⟨c2,h3,h4.trans h2⟩
theorem FW{W:World}{base n s g o cap:Nat}{e:TypeId}{xs vs:List Value}(h:W.ownsRow base e s (.slice (some ⟨g,0,none⟩) n cap) n xs)(hl:o+vs.length<=n*s):(W.setCells g o vs).ownsRow base e s (.slice (some ⟨g,0,none⟩) n cap) n (RG.rep xs o vs):=by
 have hx:o+vs.length<=xs.length:=by rw[h.1];exact hl
 refine⟨by rw[RG.cG hx];exact h.1,?_⟩;rcases h.2 with⟨h1,-⟩|⟨g',cap',cur,h1,h2,h3,h4,h5,h6,h7⟩
 ·cases h1
 ·injection h1 with e1 e2 e3
  injection e1 with e1
  injection e1 with e1
  subst e1;subst e3;obtain⟨c2,k1,k2⟩:=nF vs o W cur h3;refine Qc ⟨g,cap,c2,rfl,h2,k1,h4,h5,by rw[k2];exact h6,?_⟩;have hcs:n*s<=cur.size:=by rw[h6];exact SA s h4
  apply UJ;intro i;rw[RG.rep_at hx,Rp,<-h7];have c1:∀i,W.cell? ⟨g,i,none⟩=cur[i]?:=fun i=>cell_of_row W g i cur e (0,0) h3
  have c3:(W.setCells g o vs).cell? ⟨g,i,none⟩=c2[i]?:=cell_of_row _ g i c2 e (0,0) k1;by_cases hi:i<n*s
  ·rw[if_pos hi];by_cases hin:o<=i/\i<o+vs.length
   ·rw[if_pos hin];have hj:i-o<vs.length:=by omega
    have:=World.cell?_setCells_in g vs o W (fun j hj=>by rw[c1 (o+j),Qp (by omega)];rfl) (i-o) hj;rw[show o+(i-o)=i by omega,c3]at this;rw[QF,this,Qb hj]
   ·rw[if_neg hin,Rp,if_pos hi,QF,QF,<-c3,<-c1 i];exact World.cell?_setCells_out g vs o W ⟨g,i,none⟩ (fun _ _=>by show i<o\/o+vs.length<=i;omega)
  ·rw[if_neg hi,if_neg (by omega),Rp,if_neg hi]
theorem IH{xs ys vs:List Value}{o:Nat}:RG.rep (xs++ys) (xs.length+o) vs=xs++RG.rep ys o vs:=by
 unfold RG.rep;rw[List.take_length_add_append,Nat.add_assoc,List.drop_length_add_append,List.append_assoc]
theorem fA{n:Nat}{p:Bs}(hp:p.size=33):(wn n++aC p).length=37:=by rw[P9,aG hp];rfl
theorem dZ(x:Nat × Bs)(r:List (Nat × Bs)):aW (x :: r)=(wn x.1++aC x.2)++aW r:=by unfold aW;rw[UI]
theorem tI(s:Nat):∀(l:List (Nat × Bs)) (j:Nat) (hj:j<l.length),(∀x∈l.map (·.2),x.size=33)->aW (l.set j (s,(l[j]).2))=RG.rep (aW l) (37*j) (wn s)
 | [],j,hj,_=>by cases hj
 | x :: r,0,_,_=>by
  show aW ((s,x.2) :: r)=_;rw[dZ,dZ];rfl
 | x :: r,j+1,hj,hs=>by
  have hx:=fA (n:=x.1) (hs x.2 (by simp));show aW (x :: r.set j (s,(r[j]'(by simpa using hj)).2))=_;rw[dZ,dZ,tI s r j (by simpa using hj) (fun y hy=>hs y (Qx _ hy)),show 37*(j+1)=(wn x.1++aC x.2).length+37*j by rw[hx];omega,IH]
theorem at?_some{p:Bs}:∀ {l:List (Nat × Bs)}{i j:Nat},at? p (l.map (·.2)) i=some j->i<=j/\∃h:j-i<l.length,(l[j-i]).2=p/\∀n,dL N l n p=l.set (j-i) (sPl N (l[j-i]).1 n,p)
 | [],i,j,h=>by cases h
 | (s,q) :: r,i,j,h=>by
  rw[Sx]at h;unfold at? at h;by_cases hq:p=q
  ·rw[if_pos hq]at h;obtain rfl:=Qn.inj h;refine⟨PX _,by simp,?_,fun n=>?_⟩
   ·simp[hq]
   ·unfold dL;rw[if_pos hq];simp[hq]
  ·rw[if_neg hq]at h;obtain⟨h1,h2,h3,h4⟩:=at?_some h;have e:j-i=(j-(i+1))+1:=by omega
   refine⟨by omega,by simp;omega,?_,fun n=>?_⟩
   ·simp only[e,Vm];exact h3
   ·unfold dL;rw[if_neg hq,h4 n];simp only[e,Vm,QM]
theorem G8{n:Nat}{p:Bs}{l:List (Nat × Bs)}{j:Nat}(h:at? p (l.map (·.2)) 0=some j):(dL N l n p).map (·.2)=l.map (·.2)/\(dL N l n p).length=l.length:=by
 obtain⟨-,h2,h3,h4⟩:=at?_some (N:=N) h;rw[h4 n];refine⟨?_,List.length_set ..⟩;rw[List.map_set];apply UJ;intro i;rw[List.getElem?_set];by_cases hi:j-0=i
 ·subst hi;rw[if_pos rfl,if_pos (by rw[Qi];exact h2),Re,Qb h2];exact congrArg some h3.symm
 ·rw[if_neg hi]
theorem Mx.again{w W:World}{m g cap:Nat}{l:List (Nat × Bs)}{p:Bs}{j:Nat}(h:Mx w W m l (.slice (some ⟨g,0,none⟩) l.length cap))(hs:∀x∈l.map (·.2),x.size=33)(hj:at? p (l.map (·.2)) 0=some j)(hl:j<l.length)(n:Nat):
 Mx w (W.setCells g (37*j) (wn (sPl N (l[j]).1 n))) m (dL N l n p) (.slice (some ⟨g,0,none⟩) l.length cap):=by
 have hne:=h.own_ne (g:=g) rfl;obtain⟨e1,e2⟩:=G8 (N:=N) (n:=n) hj;refine⟨RG.below_setCells hne.2.1 _ _ _ h.bl,?_,h.lm,?_⟩
 ·rw[RG.cK _ _ _ _ _ (Xj hne.1),e1,e2];exact h.mp
 ·obtain⟨-,h2,h3,h4⟩:=at?_some (N:=N) hj;have e3:dL N l n p=l.set j (sPl N (l[j]).1 n,(l[j]).2):=by rw[h4 n];simp only[T8]at h3⊢;rw[h3]
  rw[e2,e3,tI _ l j hl hs];exact FW h.ow (by show 37*j+4<=_;omega)
theorem BD(O:Ord N)(ns:Nat->Nat)(az:Nat->Bs){k:Nat}(hn:∀j,j<k->ns j<N):∀i,i<=k->∀x∈mrg N ns az i,x.1<N
 | 0,_=>fun x hx=>by cases hx
 | i+1,hi=>by
  have ih:=BD O ns az hn i (by omega);have h:∀(l:List (Nat × Bs)) n p,n<N->(∀x∈l,x.1<N)->∀x∈dL N l n p,x.1<N:=by
   intro l n p hp;induction l with
   | nil=>intro _ x hx;simp[dL]at hx;rw[hx];exact hp
   | cons y r ihr =>
    intro hl x hx;unfold dL at hx;split at hx
    ·rcases QT.1 hx with rfl|hx
     ·exact Rz _ O.pos
     ·exact hl x (Qx _ hx)
    ·rcases QT.1 hx with rfl|hx
     ·exact hl _ QH
     ·exact ihr (fun z hz=>hl z (Qx _ hz)) x hx
  exact h _ _ _ (hn i (by omega)) ih
end
section
open Go.RowKit Go.Sort Go.Deep
variable {N:Nat}
section
variable (w:World) (m g4 cap k6 j s n z:Nat) (l:List (Nat × Bs)) (p:Bs)
def Ra:Nat->Value->World->Prop
 | 0,v,_=>v=.slice (some ⟨g4,0,none⟩) l.length cap
 | 1,v,_=>v=.int .i64 j
 | 2,v,_=>v=.slice (some ⟨g4,0,none⟩) l.length cap
 | 3,v,_=>v=.int .i64 j
 | 4,v,_=>v=.pointer (some ⟨g4,0+37*j,none⟩)
 | 5,v,_=>v=.pointer (some ⟨g4,0+37*j,none⟩)
 | 6,v,_=>v=nv s
 | 7,v,_=>v=.pointer (some ⟨k6,0,none⟩)
 | 8,v,_=>v=nv n
 | 9,v,_=>v=nv z
 | 10,v,_=>v=.pointer (some ⟨g4,0+37*j,none⟩)
 | 11,v,_=>v=.pointer (some ⟨g4,0+37*j,none⟩)
 | _,_,_=>True
theorem MC{i:Nat}{v:Value}{W W':World}(h:Ra g4 cap k6 j s n z l i v W):Ra g4 cap k6 j s n z l i v W':=by
 match i,h with
 | 0,h=>exact h
 | 1,h=>exact h
 | 2,h=>exact h
 | 3,h=>exact h
 | 4,h=>exact h
 | 5,h=>exact h
 | 6,h=>exact h
 | 7,h=>exact h
 | 8,h=>exact h
 | 9,h=>exact h
 | 10,h=>exact h
 | 11,h=>exact h
 | _+12,_=>trivial
def Ga:RG.Gw:=⟨Ra g4 cap k6 j s n z l,fun W=>Mx w W m l (.slice (some ⟨g4,0,none⟩) l.length cap)/\Row W k6 (wn n++aC p),fun _ _ _ _ _ h=>MC g4 cap k6 j s n z l h,fun _ _ hb h=>⟨h.1.kept hb,h.2.below hb⟩⟩
end
theorem range_front'{W:World}{k o:Nat}{xs ys:List Value}(h:W.rangeAt k o (xs++ys)):W.rangeAt k o xs:=fun j v hj=>h j v (by rw[QU (Qf.1 hj).1];exact hj)
theorem Mx.drew{w W:World}{m:Nat}{l:List (Nat × Bs)}{v:Value}(h:Mx w W m l v):Mx w W.drew m l v:=⟨h.bl.drew,h.mp,h.lm,h.ow⟩
theorem Ge(O:Ord N)(R:Value->World->Prop)(g k c:Nat)(hk:k<=1000)(ns:Nat->Nat)(az:Nat->Bs)(ha:∀j,j<k->(az j).size=33)(hn:∀j,j<k->ns j<N)(w:World)(hg:g<w.heap.size)(hr:∀j,j<k->w.rangeAt g (37*j) (wn (ns j)++aC (az j)))
 (hdel:∀W v,Mx w W w.heap.size (mrg N ns az k) v->Calls prog 98 #[v,.func (.func 99) #[] #[]] W (Ret R)) :
 Calls prog 65 #[.slice (some ⟨g,0,none⟩) k c] w (Ret R):=by
 have HDEL:=Hid.mk' hdel;clear hdel;have hmm:(Instr.makeMap 148 none).run prog w=.ok (.map (some w.heap.size)) (w.alloc (.map #[] 0)):=by kernel_rfl
 obtain⟨w1,hw1⟩:∃w1,Hid (w.alloc (.map #[] 0)=w1):=⟨_,rfl⟩
 rw[hw1.out]at hmm;have M1:Hid (Mx w w1 w.heap.size (mrg N ns az 0) (.slice none 0 0)):=by
  rw[<-hw1.out];exact⟨aH w _,by show(w.heap.push (.map #[] 0))[w.heap.size]? = _;rw[Array.getElem?_push_size];rfl,PX _,rfl,Qh ⟨rfl,rfl⟩⟩
 have HH:Hid (Ord N/\(∀j,j<k->(az j).size=33)/\(∀i,i<k->ns i<N)/\g<w.heap.size/\∀j,j<k->w.rangeAt g (37*j) (wn (ns j)++aC (az j))):=⟨O,ha,hn,hg,hr⟩
 obtain⟨d,hd1,hd2⟩:=PZ.1 uCP;obtain⟨d',hd3,hd4⟩:=PZ.1 uT;have HD:Hid ((prog.underlying 38=some d/\d.isRow=true)/\prog.underlying 101=some d'/\d'.isRow=true):=⟨⟨hd1,hd2⟩,hd3,hd4⟩
 clear hd1 hd2 hd3 hd4 hw1 ha hn hg hr O;go_enter Tryz.func65,Tryz.ntmps65;go_wp2;clear hmm;go_loopg [4,12] k (fun q s4 s12 W=>∃i:Nat,i+q=k/\s12=.int .i64 i/\Hid (Mx w W w.heap.size (mrg N ns az i) s4))
 case atStart=>exact⟨0,by omega,rfl,M1⟩
 case round =>
  clear M1;obtain⟨i,hik,rfl,KM⟩:=hrel;by_cases hi:i<k
  ·have hi':(i:Int)<(k:Int):=by omega
   obtain⟨n,hne⟩:∃n,Hid (ns i=n):=⟨_,rfl⟩
   obtain⟨p,hpe⟩:∃p,Hid (az i=p):=⟨_,rfl⟩
   obtain⟨l,hl⟩:∃l,Hid (mrg N ns az i=l):=⟨_,rfl⟩
   rw[hl.out]at KM;have hps:Hid (p.size=33):=by have:=HH.out.2.1 i hi;rw[hpe.out]at this;exact this
   have hll:Hid (l.length<=i):=by have:=nX (N:=N) ns az i;rw[hl.out]at this;exact this
   obtain⟨q,cap,rfl⟩:=uX KM.out.ow;obtain⟨W1,hW1⟩:∃W1,Hid (wr.alloc (.cells zT.toArray 101)=W1):=⟨_,rfl⟩
   obtain⟨W2,hW2⟩:∃W2,Hid (W1.setCells wr.heap.size 0 (wn n++aC p)=W2):=⟨_,rfl⟩
   have hlen:(wn n++aC p).length=37:=by rw[P9,aG hps.out];rfl
   have F1:Hid (Row W1 wr.heap.size zT/\Below wr.heap.size wr W1/\W1.heap.size=wr.heap.size+1):=by rw[<-hW1.out];exact⟨aJ wr _ _,aH wr _,P4 _ _⟩
   have F2:Hid (Row W2 wr.heap.size (wn n++aC p)/\Below wr.heap.size wr W2/\W2.heap.size=wr.heap.size+1):=by rw[<-hW2.out];exact⟨F1.out.1.put (by rw[hlen];rfl),RG.below_setCells (PX _) _ _ _ F1.out.2.1,by rw[RG.setCells_size];exact F1.out.2.2⟩
   have K2:Hid (Mx w W2 w.heap.size l (.slice q l.length cap)):=KM.out.kept F2.out.2.1;have hsz:∀x∈l.map (·.2),x.size=33:=by have:=lC (N:=N) ns az HH.out.2.1 i (by omega);rw[hl.out]at this;exact this
   cases hat:at? p (l.map (·.2)) 0 with
   | none =>
    have hnone:Hid (at? p (l.map (·.2)) 0=none):=hat;have B1:=Hid.mk' (sM hps.out (l.map (·.2)) hsz w.heap.size l.length W2 K2.out.mp);rw[hnone.out]at B1;have B2:Hid ((Instr.mapUpdate 148 (.map (some w.heap.size)) (.agg (aC p).toArray) (.int .i64 (l.length:Int))).run prog W2=.ok () (W2.putObj w.heap.size (.map (ents (l.map (·.2)++[p]) 0).toArray (l.length+1)))):=by
     have h:=Cp hps.out (l.map (·.2)) hsz w.heap.size W2 (by rw[Qi];exact K2.out.mp) hnone.out;rw[Qi]at h;exact h
    obtain⟨v',W5,happ,K5,lt5,-⟩:=K2.out.push hps.out (by have:=hll.out;omega) n;obtain⟨W3,hW3⟩:∃W3,Hid (W2.putObj w.heap.size (.map (ents (l.map (·.2)++[p]) 0).toArray (l.length+1))=W3):=⟨_,rfl⟩
    have F3:Hid (Row W3 wr.heap.size (wn n++aC p)/\W3.heap.size=wr.heap.size+1):=by rw[<-hW3.out];exact⟨F2.out.1.putObj K2.out.mp rfl _,by simp[World.putObj];exact F2.out.2.2⟩
    have B3:=Hid.mk' (Mi hps.out n W3);obtain⟨W4,hW4⟩:∃W4,Hid (W3.alloc (.cells (wn n++aC p).toArray 101)=W4):=⟨_,rfl⟩
    rw[hW3.out]at B2 happ;rw[hW4.out]at B3 happ;rw[F3.out.2]at B3;rw[F2.out.2.2]at happ;have K5':Hid (Mx w W5 w.heap.size (mrg N ns az (i+1)) v'):=by
     have e:mrg N ns az (i+1)=l++[(n,p)]:=by
      show dL N (mrg N ns az i) (ns i) (az i)=_;rw[hl.out,hne.out,hpe.out];exact tQ hnone.out
     rw[e];exact K5
    have B0:Hid (wr.rangeAt g (37*i) (wn n++aC p)):=by
     have h:=RG.range_below (HH.out.2.2.2.2 i hi) KM.out.bl HH.out.2.2.2.1;rw[hne.out,hpe.out]at h;exact h
    have HLT:Hid ((prog.info? 101).map (·.size)=some (wn n++aC p).length):=by show _=_;rw[hlen];exact iT
    have HLS:Hid ((prog.info? 101).map (·.size)=some (wn n++aC p).toArray.size/\W1.there wr.heap.size 0 (wn n++aC p).toArray.size):=by
     have e:(wn n++aC p).toArray.size=37:=by rw[Qr];exact hlen
     rw[e];exact⟨iT,F1.out.1.2.2⟩
    have HLP:Hid ((prog.info? 38).map (·.size)=some (aC p).length):=by show _=_;rw[aG hps.out];exact aQ
    have HB:Hid (W2.rangeAt wr.heap.size 4 (aC p)):=gJ (xs:=wn n) F2.out.1.2.1;have HAL:Hid ((wn n++aC p).toArray.all (·.oneCell')=true):=by
     show _=_;rw[RQ];intro u hu;exact cells_one n p u (SY.1 hu)
    have hix:=atT g 0 k c i hi;have HAP:=Hid.mk' happ;clear happ;obtain⟨vt,hvt⟩:∃v,Hid (QA (wn n++aC p).toArray=v):=⟨_,rfl⟩
    obtain⟨vp,hvp⟩:∃v,Hid (QA (aC p).toArray=v):=⟨_,rfl⟩
    rw[hvp.out]at B1 B2;rw[hvt.out]at B3;clear hlen hsz K5 lt5 hW4 hW3 K2 KM;go_wp2_with (first|(refine wpList_load_mid rfl 101 _ rfl g (37*i) ?_ (wn n++aC p) d' ?_ ?_ ?_ ?_ ?_;rfl;exact B0.out;exact HD.out.2.1;exact HD.out.2.2;exact HLT.out;rw[hvt.out])|(refine aP (v:=.pointer (some ⟨wr.heap.size,0,none⟩)) (w':=W1) rfl (.alloc 101) rfl ?_ ?_;(rw[<-hW1.out];kernel_rfl))|(refine wpList_store_mid rfl 101 _ _ rfl wr.heap.size 0 (wn n++aC p).toArray ?_ ?_ ?_ ?_ ?_ ?_;rfl;exact hvt.out.symm;exact HLS.out.2;exact HLS.out.1;exact HAL.out;rw[show(wn n++aC p).toArray.toList=wn n++aC p from rfl,hW2.out])|(refine wpList_load_mid rfl 38 _ rfl wr.heap.size 4 ?_ (aC p) d ?_ ?_ ?_ ?_ ?_;rfl;exact HB.out;exact HD.out.1.1;exact HD.out.1.2;exact HLP.out;rw[hvp.out])|(refine oU (x:=.map (some w.heap.size)) (y:=vp) (w':=W2) rfl 148 _ _ true rfl ?_ ?_ B1.out ?_;rfl;rfl)|(refine uB (x:=.map (some w.heap.size)) (y:=vp) (z:=.int .i64 (l.length:Int)) (w':=W3) rfl 148 _ _ _ rfl ?_ ?_ ?_ B2.out ?_;rfl;rfl;rfl)|(refine wpList_load_mid rfl 101 _ rfl wr.heap.size 0 ?_ (wn n++aC p) d' ?_ ?_ ?_ ?_ ?_;rfl;exact F3.out.1.2.1;exact HD.out.2.1;exact HD.out.2.2;exact HLT.out;rw[hvt.out])|(refine mO (v:=.slice (some ⟨wr.heap.size+1,0,none⟩) 1 1) (w':=W4) rfl 70 1 _ rfl #[(0,vt)] ?_ B3.out ?_;kernel_rfl)|(refine jS (x:=.slice q l.length cap) (y:=.slice (some ⟨wr.heap.size+1,0,none⟩) 1 1) (v:=v') (w':=W5) rfl _ _ 70 rfl ?_ ?_ ?_ ?_;rfl;rfl;exact HAP.out))
    go_roundg (gk-1)
    case measure=>omega
    case rel=>exact⟨i+1,by omega,rfl,K5'⟩
   | some j =>
    obtain⟨-,hjl,hjp,-⟩:=at?_some (N:=N) hat;rw[T8]at hjl;simp only[T8]at hjp;have B1:=Hid.mk' (sM hps.out (l.map (·.2)) hsz w.heap.size l.length W2 K2.out.mp);rw[hat]at B1;obtain⟨g4,cap4,he4,-,hg4,hr4⟩:=jK K2.out.ow hsz (by omega);injection he4 with q1 q2 q3
    subst q1;obtain⟨s,hse⟩:∃s,Hid ((l[j]'hjl).1=s):=⟨(l[j]'hjl).1,(rfl:(l[j]'hjl).1=(l[j]'hjl).1)⟩
    have hsN:Hid (s<N):=by
     have:=BD HH.out.1 ns az HH.out.2.2.1 i (by omega);rw[hl.out]at this;rw[<-hse.out];exact this _ (QG hjl)
    have hnN:Hid (n<N):=by rw[<-hne.out];exact HH.out.2.2.1 i hi
    have B0:Hid (wr.rangeAt g (37*i) (wn n++aC p)):=by
     have h:=RG.range_below (HH.out.2.2.2.2 i hi) KM.out.bl HH.out.2.2.2.1;rw[hne.out,hpe.out]at h;exact h
    have HLT:Hid ((prog.info? 101).map (·.size)=some (wn n++aC p).length):=by show _=_;rw[hlen];exact iT
    have HLS:Hid ((prog.info? 101).map (·.size)=some (wn n++aC p).toArray.size/\W1.there wr.heap.size 0 (wn n++aC p).toArray.size):=by
     have e:(wn n++aC p).toArray.size=37:=by rw[Qr];exact hlen
     rw[e];exact⟨iT,F1.out.1.2.2⟩
    have HLP:Hid ((prog.info? 38).map (·.size)=some (aC p).length):=by show _=_;rw[aG hps.out];exact aQ
    have HB:Hid (W2.rangeAt wr.heap.size 4 (aC p)):=gJ (xs:=wn n) F2.out.1.2.1;have HAL:Hid ((wn n++aC p).toArray.all (·.oneCell')=true):=by
     show _=_;rw[RQ];intro u hu;exact cells_one n p u (SY.1 hu)
    have hix:=atT g 0 k c i hi;obtain⟨vt,hvt⟩:∃v,Hid (QA (wn n++aC p).toArray=v):=⟨_,rfl⟩
    obtain⟨vp,hvp⟩:∃v,Hid (QA (aC p).toArray=v):=⟨_,rfl⟩
    rw[hvp.out]at B1;have HL:Hid (j<l.length):=hjl;have HS:Hid (∀h:j<l.length,(l[j]'h).1=s):=fun _=>hse.out
    have HJ:Hid (at? p (l.map (·.2)) 0=some j/\(∀x∈l.map (·.2),x.size=33)):=⟨hat,hsz⟩
    have HK:Hid (Mx w W2 w.heap.size l (.slice (some ⟨g4,0,none⟩) l.length cap)/\Row W2 wr.heap.size (wn n++aC p)):=⟨K2.out,F2.out.1⟩
    have KN:Hid (mrg N ns az (i+1)=dL N l n p):=by
     show dL N (mrg N ns az i) (ns i) (az i)=_;rw[hl.out,hne.out,hpe.out]
    clear hlen hsz K2 KM hjp q2 q3 hr4 hg4;clear hat;go_wp2_with (first|(refine wpList_load_mid rfl 101 _ rfl g (37*i) ?_ (wn n++aC p) d' ?_ ?_ ?_ ?_ ?_;rfl;exact B0.out;exact HD.out.2.1;exact HD.out.2.2;exact HLT.out;rw[hvt.out])|(refine aP (v:=.pointer (some ⟨wr.heap.size,0,none⟩)) (w':=W1) rfl (.alloc 101) rfl ?_ ?_;(rw[<-hW1.out];kernel_rfl))|(refine wpList_store_mid rfl 101 _ _ rfl wr.heap.size 0 (wn n++aC p).toArray ?_ ?_ ?_ ?_ ?_ ?_;rfl;exact hvt.out.symm;exact HLS.out.2;exact HLS.out.1;exact HAL.out;rw[show(wn n++aC p).toArray.toList=wn n++aC p from rfl,hW2.out])|(refine wpList_load_mid rfl 38 _ rfl wr.heap.size 4 ?_ (aC p) d ?_ ?_ ?_ ?_ ?_;rfl;exact HB.out;exact HD.out.1.1;exact HD.out.1.2;exact HLP.out;rw[hvp.out])|(refine oU (x:=.map (some w.heap.size)) (y:=vp) (w':=W2) rfl 148 _ _ true rfl ?_ ?_ B1.out ?_;rfl;rfl)|fail)
    refine(Ga w w.heap.size g4 cap wr.heap.size j s n (sPl N s n) l p).last 12 (by kernel_rfl) (by kernel_rfl) (by kernel_rfl) ⟨
     RG.bN fun a W hp=>⟨[(4,.slice (some ⟨g4,0,none⟩) l.length cap)],.slice (some ⟨g4,0,none⟩) l.length cap,W,⟨hp.o 4 (by kernel_rfl),trivial⟩,by kernel_rfl,Qd _ _,rfl⟩,
     RG.bN fun a W hp=>⟨[(7,.int .i64 j)],.int .i64 j,W,⟨hp.o 7 (by kernel_rfl),trivial⟩,by kernel_rfl,Qd _ _,rfl⟩,
     RG.bN fun a W hp=>⟨[(4,.slice (some ⟨g4,0,none⟩) l.length cap)],.slice (some ⟨g4,0,none⟩) l.length cap,W,⟨hp.o 4 (by kernel_rfl),trivial⟩,by kernel_rfl,Qd _ _,rfl⟩,
     RG.bN fun a W hp=>⟨[(7,.int .i64 j)],.int .i64 j,W,⟨hp.o 7 (by kernel_rfl),trivial⟩,by kernel_rfl,Qd _ _,rfl⟩,
     RG.bN fun a W hp=>⟨[(36,.slice (some ⟨g4,0,none⟩) l.length cap),(37,.int .i64 j)],.pointer (some ⟨g4,0+37*j,none⟩),W,⟨hp.n 2 36 (by kernel_rfl) (by kernel_rfl),hp.n 3 37 (by kernel_rfl) (by kernel_rfl),trivial⟩,by
      rw[Ro.injEq];refine⟨by kernel_rfl,?_⟩;show((Rc 70 (.slice (some ⟨g4,0,none⟩) l.length cap) (.int .i64 j)) >>= fun v=>pure (Te v)).run prog W=_;rw[Qm,atT g4 0 l.length cap j HL.out];rfl,Qd _ _,rfl⟩,
     RG.bN fun a W hp=>⟨[(38,.pointer (some ⟨g4,0+37*j,none⟩))],.pointer (some ⟨g4,0+37*j,none⟩),W,⟨hp.n 4 38 (by kernel_rfl) (by kernel_rfl),trivial⟩,by kernel_rfl,Qd _ _,rfl⟩,
     RG.b8 66 39 rfl Go.Proofs.YtbceebahamkmdaaGreat.u40 fun a W hp=>⟨g4,0+37*j,wn s,hp.n 5 39 (by kernel_rfl) (by kernel_rfl),by
      obtain⟨g5,cap5,he5,-,-,hr5⟩:=jK hp.b.1.ow HJ.out.2 (by have:=HL.out;omega);injection he5 with q1 q2 q3
      injection q1 with q1
      injection q1 with q1
      subst q1;have:=hr5 j HL.out;rw[(HS.out HL.out)]at this;rw[P0];exact range_front' this,i40,rfl⟩,
     RG.bN fun a W hp=>⟨[(6,.pointer (some ⟨wr.heap.size,0,none⟩))],.pointer (some ⟨wr.heap.size,0,none⟩),W,⟨hp.o 6 (by kernel_rfl),trivial⟩,by kernel_rfl,Qd _ _,rfl⟩,
     RG.b8 66 41 rfl Go.Proofs.YtbceebahamkmdaaGreat.u40 fun a W hp=>⟨wr.heap.size,0,wn n,hp.n 7 41 (by kernel_rfl) (by kernel_rfl),iM hp.b.2.2.1,i40,rfl⟩,
     RG.dA fun a W hp=>⟨[(40,nv s),(42,nv n)],75,#[nv s,nv n],⟨hp.n 6 40 (by kernel_rfl) (by kernel_rfl),hp.n 8 42 (by kernel_rfl) (by kernel_rfl),trivial⟩,by kernel_rfl,(Fe HH.out.1 s n hsN.out hnN.out W).mono (by
      rintro e W' ⟨u,rfl,hb,rfl⟩;exact⟨_,rfl,hb,rfl⟩)⟩,
     RG.bN fun a W hp=>⟨[(34,.slice (some ⟨g4,0,none⟩) l.length cap),(35,.int .i64 j)],.pointer (some ⟨g4,0+37*j,none⟩),W,⟨hp.n 0 34 (by kernel_rfl) (by kernel_rfl),hp.n 1 35 (by kernel_rfl) (by kernel_rfl),trivial⟩,by
      rw[Ro.injEq];refine⟨by kernel_rfl,?_⟩;show((Rc 70 (.slice (some ⟨g4,0,none⟩) l.length cap) (.int .i64 j)) >>= fun v=>pure (Te v)).run prog W=_;rw[Qm,atT g4 0 l.length cap j HL.out];rfl,Qd _ _,rfl⟩,
     RG.bN fun a W hp=>⟨[(44,.pointer (some ⟨g4,0+37*j,none⟩))],.pointer (some ⟨g4,0+37*j,none⟩),W,⟨hp.n 10 44 (by kernel_rfl) (by kernel_rfl),trivial⟩,by kernel_rfl,Qd _ _,rfl⟩,trivial⟩ ⟨HK.out.1.drew,HK.out.2⟩ ?_
    intro V W3 hR3 hB3;have hV9:V 9=nv (sPl N s n):=hR3 9 (by decide);have hV11:V 11=.pointer (some ⟨g4,0+37*j,none⟩):=hR3 11 (by decide);obtain⟨W4,hW4⟩:∃W4,Hid (W3.setCells g4 (37*j) (wn (sPl N s n))=W4):=⟨_,rfl⟩
    have K4:Hid (Mx w W4 w.heap.size (mrg N ns az (i+1)) (.slice (some ⟨g4,0,none⟩) l.length cap)):=by
     rw[<-hW4.out,KN.out,<-(HS.out HL.out)];exact hB3.1.again HJ.out.2 HJ.out.1 HL.out n
    have HTH:Hid (W3.there g4 (37*j) 4):=by
     intro t ht;have hj:=HL.out;rcases hB3.1.ow.2 with⟨h,-⟩|⟨g2,cap2,cur,he,-,hc,hn,-,hs,-⟩
     ·cases h
     ·injection he with he1 he2 he3
      injection he1 with he1
      injection he1 with he1
      subst he1;have hlt:37*j+t<cur.size:=by
       rw[hs];have:(j+1)*37<=cap2*37:=SA 37 (by omega);omega
      refine⟨?_,?_⟩
      ·simp[Rs,hc,hlt]
      ·simp[S6,hc]
    clear hR3 hB3;dsimp only[RG.iC,Tb,List.take,List.drop];simp only[Act.put,List.setIfInBounds_toArray,QM,List.set_cons_zero];obtain⟨vz,hvz⟩:∃v,Hid (nv (sPl N s n)=v):=⟨_,rfl⟩
    rw[hV9,hV11,hvz.out,P0];clear hV9 hV11;generalize V 0=s0;generalize V 1=s1;generalize V 2=s2;generalize V 3=s3;generalize V 4=s4;generalize V 5=s5;generalize V 6=s6;generalize V 7=s7;generalize V 8=s8;generalize V 10=s10;go_wp2_with (first|(refine wpList_store_mid rfl 66 _ _ rfl g4 (37*j) (wn (sPl N s n)).toArray ?_ ?_ ?_ ?_ ?_ ?_;rfl;exact hvz.out.symm;exact HTH.out;exact i40;exact dO (sPl N s n);rw[show(wn (sPl N s n)).toArray.toList=wn (sPl N s n) from rfl,hW4.out])|fail)
    go_roundg (gk-1)
    case measure=>omega
    case rel=>exact⟨i+1,by omega,rfl,K4⟩
  ·have hi':¬(i:Int)<(k:Int):=by omega
   obtain rfl:i=k:=by omega
   go_wp2_with fail
   refine(HDEL.out wr _ KM.out).mono ?_;rintro e w9 ⟨vv,rfl,hR9⟩;have HR9:=Hid.mk' hR9;clear hR9 HDEL;go_wp2;go_ret;exact⟨_,rfl,HR9.out⟩
end
section
open Go.RowKit Go.Sort Go.Deep
variable {P:Nat}[NeZero P]{N:Nat}
def LF(l:List (Nat × Bs)):List (Nat × Bs):=l.filter fun x=>x.1 != 0
theorem mF{l:List (Nat × Bs)}{j:Nat}(hj:j<l.length):LF (l.take (j+1))=LF (l.take j)++(if (l[j]).1=0 then [] else [l[j]]):=by
 unfold LF;rw[VT,Qb hj,List.filter_append]
 congr 1
 by_cases h:(l[j]).1=0
 ·simp[h]
 ·simp[h]
theorem KC(l:List (Nat × Bs))(j:Nat):(LF (l.take j)).length<=j:=
 Qj (Vp _ _) (by rw[SZ];exact Nat.min_le_left _ _)
theorem xQ{l:List (Nat × Bs)}{x:Nat × Bs}(h:x∈LF l):x∈l:=(Ud.1 h).1
theorem qC{ns:Nat->Nat}:∀(m i:Nat),(∃j,i<=j/\j<i+m/\ns j=0)->∃i0,gZ ns i m=((i0:Nat):Int)/\i<=i0/\i0<i+m/\ns i0=0/\∀j,i<=j->j<i0->ns j≠0
 | 0,i,h=>by obtain⟨j,h1,h2,-⟩:=h;omega
 | m+1,i,h=>by
  unfold gZ;by_cases h0:ns i=0
  ·rw[if_pos h0];exact⟨i,rfl,PX _,by omega,h0,fun j h1 h2=>by omega⟩
  ·rw[if_neg h0];obtain⟨j,h1,h2,h3⟩:=h;obtain⟨i0,e1,e2,e3,e4,e5⟩:=qC m (i+1) ⟨j,by
    rcases Ty i j with h|h
    ·omega
    ·obtain rfl:j=i:=by omega
     exact absurd h3 h0,by omega,h3⟩
   refine⟨i0,e1,by omega,by omega,e4,fun j' h1' h2'=>?_⟩;rcases Ty i j' with h|h
   ·exact e5 j' h h2'
   ·obtain rfl:j'=i:=by omega
    exact h0
def Rw(W:World)(g j:Nat)(x:Nat × Bs):Prop:=W.rangeAt g (37*j) (wn x.1++aC x.2)
theorem Rw.below{W W':World}{g j:Nat}{x:Nat × Bs}(h:Rw W g j x)(hb:Below W.heap.size W W')(hg:g<W.heap.size):Rw W' g j x:=RG.range_below h hb hg
structure Dz(base:Nat)(w W:World)(g:Nat)(l:List (Nat × Bs))(j:Nat):Prop where
 bl:Below base w W
 hb:base<=W.heap.size
 lt:g<W.heap.size
 th:W.there g 0 (37*l.length)
 lo:∀a (ha:a<(LF (l.take j)).length),Rw W g a ((LF (l.take j))[a])
 hi:∀b (hb:b<l.length),j<=b->Rw W g b (l[b])
theorem Dz.grow{base:Nat}{w W W':World}{g:Nat}{l:List (Nat × Bs)}{j:Nat}(h:Dz base w W g l j)(hb:Below W.heap.size W W'):Dz base w W' g l j:=
 ⟨h.bl.trans (hb.mono h.hb),Qj h.hb hb.size,PY h.lt hb.size,RG.dB h.th hb h.lt,fun a ha=>(h.lo a ha).below hb h.lt,fun b hb' hj=>(h.hi b hb' hj).below hb h.lt⟩
theorem Dz.skip{base:Nat}{w W:World}{g:Nat}{l:List (Nat × Bs)}{j:Nat}(h:Dz base w W g l j)(hj:j<l.length)(h0:(l[j]).1=0):Dz base w W g l (j+1):=by
 have e:LF (l.take (j+1))=LF (l.take j):=by rw[mF hj,if_pos h0,SK]
 exact⟨h.bl,h.hb,h.lt,h.th,fun a ha=>by
  have h1:=h.lo a (by rw[<-e];exact ha);simp only[e];exact h1,fun b hb hj=>h.hi b hb (by omega)⟩
theorem Dz.put{base:Nat}{w W:World}{g:Nat}{l:List (Nat × Bs)}{j:Nat}(h:Dz base w W g l j)(hg:base<=g)(hs:∀x∈l.map (·.2),x.size=33)(hj:j<l.length)(h0:(l[j]).1≠0):
 Dz base w (W.setCells g (37*(LF (l.take j)).length) (wn (l[j]).1++aC (l[j]).2)) g l (j+1):=by
 have e:LF (l.take (j+1))=LF (l.take j)++[l[j]]:=by rw[mF hj,if_neg h0]
 have hle:=KC l j;have hsz:∀x∈l,(wn x.1++aC x.2).length=37:=fun x hx=>fA (hs x.2 (QN.2 ⟨x,hx,rfl⟩))
 have hlen:=hsz (l[j]) (QG hj);refine⟨RG.below_setCells hg _ _ _ h.bl,by rw[RG.setCells_size];exact h.hb,by rw[RG.setCells_size];exact h.lt,World.there_setCells h.th _ _ _,fun a ha=>?_,fun b hb hjb=>?_⟩
 ·simp only[e]at ha⊢;by_cases hlt:a<(LF (l.take j)).length
  ·rw[List.getElem_append_left hlt];have h1:=h.lo a hlt;have hm:(LF (l.take j))[a]∈l:=Vt (xQ (QG hlt));exact RX h1 g _ _ (Qc (Qh (by rw[hsz _ hm];omega)))
  ·have ha2:a=(LF (l.take j)).length:=by rw[P9,List.length_singleton]at ha;omega
   subst ha2;rw[List.getElem_append_right (PX _)];simp only[Nat.sub_self,List.getElem_singleton];refine World.rangeAt_setCells_same W g _ _ fun t ht=>?_
   rw[hlen]at ht;have:=h.th (37*(LF (l.take j)).length+t) (by omega);rwa[P0]at this
 ·exact RX (h.hi b hb (by omega)) g _ _ (Qc (Qc (by rw[hlen];omega)))
theorem EL(n:Nat):∀v∈(QZ (QA zT.toArray).cells n).toList,v.oneCell'=true:=by
 intro v hv;have hz:=EO;have hl:(QA zT.toArray).cells.size=37:=by kernel_rfl
 unfold QZ at hv;rw[Array.toList_map]at hv;obtain⟨i,-,rfl⟩:=QN.1 hv;have hi:i%(QA zT.toArray).cells.size<(QA zT.toArray).cells.size:=Rz _ (by rw[hl];decide);rw[getElem!_pos (QA zT.toArray).cells _ hi];exact hz _ (by
  have e:(QA zT.toArray).cells.toList=zT:=by kernel_rfl
  have h2:=Array.getElem_mem_toList hi;rwa[e]at h2)
theorem JB(g i n c:Nat)(w:World)(hn:0<n)(h:w.there g 0 (37*(i+n))):∃Z:List Value,∀ty,(TZ #[70] ty #[.slice (some ⟨g,37*i,none⟩) n c]).run prog w=.ok (.tuple #[]) (w.setCells g (37*i) Z):=by
 have h1:=EM w;have h3:=run_underlying DU w;have ho:=EL n;have hl:(QZ (QA zT.toArray).cells n).toList.length=n*37:=by
  have:(QA zT.toArray).cells.size=37:=by kernel_rfl
  rw[P5,size_zeroCells,this]
 generalize (QA zT.toArray)=Zv at h1 ho hl;generalize hZ:(QZ Zv.cells n).toList=Z at ho hl;have h4:(storeCells ⟨g,37*i,none⟩ Z).run prog w=.ok () (w.setCells g (37*i) Z):=
  run_storeCells_cells (P:=prog) g (37*i) Z 0 w (fun j hj=>by rw[hl]at hj;have:=(h (37*i+j) (by omega)).1;simpa using this) (fun j hj=>by rw[hl]at hj;have:=(h (37*i+j) (by omega)).2;simpa using this) ho
 refine⟨Z,fun ty=>?_⟩;obtain⟨n',rfl⟩:∃n',n=n'+1:=⟨n-1,by omega⟩
 unfold TZ;simp[Qm,h3,h1,hZ,h4]
theorem OY(g n c i:Nat)(hi:i<=n)(hn:n<=c)(w:World):(Rk 70 (.slice (some ⟨g,0,none⟩) n c) none (some (.int .i64 i)) none).run prog w=.ok (.slice (some ⟨g,0,none⟩) i c) w:=by
 have h1:¬(i:Int)<0:=by omega
 have h2:(i:Int)<=(c:Int):=by omega
 go_simp
theorem OX(g n c i:Nat)(hi:i<n)(hn:n<=c)(w:World):(Rk 70 (.slice (some ⟨g,0,none⟩) n c) (some (.int .i64 i)) none none).run prog w=.ok (.slice (some ⟨g,37*i,none⟩) (n-i) (c-i)) w:=by
 have h1:¬(i:Int)<0:=by omega
 have h2:(i:Int)<=(n:Int):=by omega
 have h3:(n:Int)<=(c:Int):=by omega
 go_simp;rw[if_neg (by omega),Qy]
def TmL(W:World)(q:Option Addr)(l:List (Nat × Bs)):Prop:=0<l.length->∃g,q=some ⟨g,0,none⟩/\g<W.heap.size/\∀j (hj:j<l.length),W.rangeAt g (37*j) (wn (l[j]).1++aC (l[j]).2)
def PS(base:Nat)(l:List (Nat × Bs))(w:World)(e:Value)(w':World):Prop:=Below base w w'/\∃q cap,e=.slice q (LF l).length cap/\TmL w' q (LF l)
theorem DL{l:List (Nat × Bs)}(h:∀x∈l,x.1≠0):LF l=l:=List.filter_eq_self.2 fun x hx=>by simpa using h x hx
theorem Kz{l:List (Nat × Bs)}{i0:Nat}(hi:i0<l.length)(h0:(l[i0]).1=0):∀j,i0<j->j<=l.length->(LF (l.take j)).length<j
 | 0,h,_=>by omega
 | j+1,h,hj=>by
  rw[mF (by omega),P9];rcases Ty i0 j with h1|h1
  ·have:=Kz hi h0 j h1 (by omega);split<;>simp<;>omega
  ·obtain rfl:j=i0:=by omega
   rw[if_pos h0];have:=KC l j;simp;omega
theorem GI(l:List (Nat × Bs))(hl0:0<l.length)(hlk:l.length<=1000)(hs:∀x∈l.map (·.2),x.size=33)(hn:∀x∈l,x.1<top)(base:Nat)(v:Value)(w:World)(hb:base<=w.heap.size)(ho:w.ownsRow base 101 37 v l.length (aW l)):
 Calls prog 98 #[v,.func (.func 99) #[] #[]] w (Ret (PS base l w)):=by
 obtain⟨g,c,rfl,hg1,hg2,hr⟩:=jK ho hs hl0;have hsz:∀(j:Nat) (hj:j<l.length),(l[j]).2.size=33:=fun j hj=>hs _ (QN.2 ⟨_,QG hj,rfl⟩)
 have hcap:l.length<=c/\w.there g 0 (37*l.length):=by
  rcases ho.2 with⟨h,-⟩|⟨g2,cap2,cur,he,-,hc,hn',-,hs',-⟩
  ·cases h
  ·injection he with he1 he2 he3
   injection he1 with he1
   injection he1 with he1
   subst he1;subst he3;refine⟨hn',fun t ht=>?_⟩;have hlt:0+t<cur.size:=by
    rw[hs'];have:l.length*37<=c*37:=SA 37 hn';omega
   exact⟨by simp only[Rs,hc];simp;omega,by simp[S6,hc]⟩
 by_cases hall:∀x∈l,x.1≠0
 ·have eL:=DL hall;refine(qE g l.length c (by omega) (fun j=>((l[j]?).getD (0,#[])).1) (fun j=>((l[j]?).getD (0,#[])).2) (fun j hj=>by rw[Qb hj];exact hn _ (QG hj)) (fun j hj=>by rw[Qb hj];exact hall _ (QG hj)) (fun j hj=>by rw[Qb hj];exact hsz j hj) w hg2 (fun j hj=>by rw[Qb hj];exact hr j hj)).mono ?_;rintro e w9 ⟨vv,rfl,hb9,rfl⟩;refine⟨_,rfl,hb9.mono hb,some ⟨g,0,none⟩,c,by rw[eL],?_⟩;rw[eL];exact fun _=>⟨g,rfl,PY hg2 hb9.size,fun j hj=>RG.range_below (hr j hj) hb9 hg2⟩
 ·have hI:=wV g l.length c (by omega) (fun j=>((l[j]?).getD (0,#[])).1) (fun j=>((l[j]?).getD (0,#[])).2) (fun j hj=>by rw[Qb hj];exact hn _ (QG hj)) (fun j hj=>by rw[Qb hj];exact hsz j hj) w hg2 (fun j hj=>by rw[Qb hj];exact hr j hj);obtain⟨i0,e1,-,e3,e4,e5⟩:=qC (ns:=fun j=>((l[j]?).getD (0,#[])).1) l.length 0 (by
   have:∃x,x∈l/\x.1=0:=Q9 fun h=>hall fun x hx h0=>h ⟨x,hx,h0⟩
   obtain⟨x,hx,hx0⟩:=this;obtain⟨j,hj⟩:=RD hx;exact⟨j,Rh _,by have:=(Qf.1 hj).1;omega,by show((l[j]?).getD (0,#[])).1=0;rw[hj];exact hx0⟩)
  rw[e1]at hI;have hi0:i0<l.length:=by omega
  have hz0:(l[i0]).1=0:=by
   have:((l[i0]?).getD (0,#[])).1=0:=e4;rw[Qb hi0]at this;exact this
  have hpre:LF (l.take i0)=l.take i0:=DL fun x hx=>by
   obtain⟨j,hj⟩:=RD hx;rw[Rp]at hj;split at hj
   ·rename_i hji
    have:=e5 j (Rh _) hji;have h6:((l[j]?).getD (0,#[])).1≠0:=this;rw[hj]at h6;exact h6
   ·cases hj
  have hlen0:(LF (l.take i0)).length=i0:=by rw[hpre,SZ];omega
  have D0:Dz base w w g l i0:=⟨Qd _ _,hb,hg2,hcap.2,fun a ha=>by
   simp only[hpre]at ha⊢;rw[List.getElem_take];exact hr a _,fun b hb' _=>hr b hb'⟩
  have D1:Dz base w w g l (i0+1):=D0.skip hi0 hz0;have e6:(LF (l.take (i0+1))).length=i0:=by rw[mF hi0,if_pos hz0,SK];exact hlen0
  have HI:=Hid.mk' hI;have HZ:Hid (∀j,i0<j->j<=l.length->(LF (l.take j)).length<j):=Kz hi0 hz0;have HD1:=Hid.mk' D1;have HF:Hid (base<=g/\l.length<=c/\(∀x∈l.map (·.2),x.size=33)/\(∀x∈l,x.1<top)/\∀(j:Nat) (hj:j<l.length),(l[j]).2.size=33):=⟨hg1,hcap.1,hs,hn,hsz⟩
  obtain⟨d',hd3,hd4⟩:=PZ.1 uT;have HD:Hid (prog.underlying 101=some d'/\d'.isRow=true):=⟨hd3,hd4⟩
  have hi1:¬((i0:Int) = -1):=by omega
  clear hd3 hd4 hI D0 D1 hs hn ho hr hsz hcap hall e1 e4 e5 hpre hlen0 hz0 hg1 hg2;go_enter Tryz.func98,Tryz.ntmps98;go_wp2_with fail
  refine HI.out.mono ?_;rintro e w1 ⟨vv,rfl,hb1,rfl⟩;have K1:Hid (Dz base w w1 g l (i0+1)):=HD1.out.grow hb1;clear hb1 HI HD1;go_wp2_with fail
  go_loopg [5,6] (l.length-(i0+1)) (fun m s5 s6 W=>∃j:Nat,i0<j/\j+m=l.length/\s6=.int .i64 j/\s5=.int .i64 ((LF (l.take j)).length:Int)/\Hid (Dz base w W g l j))
  case atStart=>exact⟨i0+1,by omega,by omega,rfl,by rw[e6],K1⟩
  case round =>
   clear K1;obtain⟨j,hij,hjk,rfl,rfl,KM⟩:=hrel;by_cases hj:j<l.length
   ·have hj':(j:Int)<(l.length:Int):=by omega
    obtain⟨n,hne⟩:∃n,Hid ((l[j]'hj).1=n):=⟨(l[j]'hj).1,(rfl:(l[j]'hj).1=(l[j]'hj).1)⟩
    obtain⟨p,hpe⟩:∃p,Hid ((l[j]'hj).2=p):=⟨(l[j]'hj).2,(rfl:(l[j]'hj).2=(l[j]'hj).2)⟩
    obtain⟨i,hie⟩:∃i,Hid ((LF (l.take j)).length=i):=⟨_,rfl⟩
    have hilt:i<l.length:=by have:=HZ.out j hij (by omega);rw[hie.out]at this;omega
    rw[hie.out];have hps:Hid (p.size=33):=by rw[<-hpe.out];exact HF.out.2.2.2.2 j hj
    have hnt:Hid (n<top):=by rw[<-hne.out];exact HF.out.2.2.2.1 _ (QG hj)
    have B0:Hid (wr.rangeAt g (37*j) (wn n++aC p)):=by
     have h:=KM.out.hi j hj (PX _);unfold Rw at h;rw[hne.out,hpe.out]at h;exact h
    obtain⟨W1,hW1⟩:∃W1,Hid (wr.alloc (.cells zT.toArray 101)=W1):=⟨_,rfl⟩
    obtain⟨W2,hW2⟩:∃W2,Hid (W1.setCells wr.heap.size 0 (wn n++aC p)=W2):=⟨_,rfl⟩
    have hlen:(wn n++aC p).length=37:=fA hps.out;have F1:Hid (Row W1 wr.heap.size zT/\Below wr.heap.size wr W1/\W1.heap.size=wr.heap.size+1):=by rw[<-hW1.out];exact⟨aJ wr _ _,aH wr _,P4 _ _⟩
    have F2:Hid (Row W2 wr.heap.size (wn n++aC p)/\Below wr.heap.size wr W2):=by rw[<-hW2.out];exact⟨F1.out.1.put (by rw[hlen];rfl),RG.below_setCells (PX _) _ _ _ F1.out.2.1⟩
    have HLT:Hid ((prog.info? 101).map (·.size)=some (wn n++aC p).length):=by show _=_;rw[hlen];exact iT
    have HLS:Hid ((prog.info? 101).map (·.size)=some (wn n++aC p).toArray.size/\W1.there wr.heap.size 0 (wn n++aC p).toArray.size):=by
     have e:(wn n++aC p).toArray.size=37:=by rw[Qr];exact hlen
     rw[e];exact⟨iT,F1.out.1.2.2⟩
    have HAL:Hid ((wn n++aC p).toArray.all (·.oneCell')=true):=by
     show _=_;rw[RQ];intro u hu;exact cells_one n p u (SY.1 hu)
    have hix:=atT g 0 l.length c j hj;obtain⟨vt,hvt⟩:∃v,Hid (tvl n p=v):=⟨_,rfl⟩
    have hvt':Hid (QA (wn n++aC p).toArray=vt):=hvt;have K2:Hid (Dz base w W2 g l j):=KM.out.grow F2.out.2;have HN:=Hid.mk' (F7 hnt.out hps.out W2);rw[hvt.out]at HN;clear KM;go_wp2_with (first|(refine wpList_load_mid rfl 101 _ rfl g (37*j) ?_ (wn n++aC p) d' ?_ ?_ ?_ ?_ ?_;rfl;exact B0.out;exact HD.out.1;exact HD.out.2;exact HLT.out;rw[hvt'.out])|(refine aP (v:=.pointer (some ⟨wr.heap.size,0,none⟩)) (w':=W1) rfl (.alloc 101) rfl ?_ ?_;(rw[<-hW1.out];kernel_rfl))|(refine wpList_store_mid rfl 101 _ _ rfl wr.heap.size 0 (wn n++aC p).toArray ?_ ?_ ?_ ?_ ?_ ?_;rfl;exact hvt'.out.symm;exact HLS.out.2;exact HLS.out.1;exact HAL.out;rw[show(wn n++aC p).toArray.toList=wn n++aC p from rfl,hW2.out])|(refine wpList_load_mid rfl 101 _ rfl wr.heap.size 0 ?_ (wn n++aC p) d' ?_ ?_ ?_ ?_ ?_;rfl;exact F2.out.1.2.1;exact HD.out.1;exact HD.out.2;exact HLT.out;rw[hvt'.out])|fail)
    refine HN.out.mono ?_;rintro e W3 ⟨vv,rfl,hb3,rfl⟩;have K3:Hid (Dz base w W3 g l j/\Row W3 wr.heap.size (wn n++aC p)):=⟨K2.out.grow hb3,F2.out.1.below hb3⟩
    clear hb3 K2 HN F2 F1;by_cases h0:n=0
    ·rw[show decide (n=0)=true by simp[h0]];have K4:Hid (Dz base w W3 g l (j+1)):=K3.out.1.skip hj (by rw[hne.out];exact h0);have e4:Hid ((LF (l.take (j+1))).length=i):=by
      show _=_;rw[mF hj,if_pos (by rw[hne.out];exact h0),SK];exact hie.out
     go_wp2;go_roundg (gk-1)
     case measure=>omega
     case rel=>exact⟨j+1,by omega,by omega,rfl,by rw[e4.out],K4⟩
    ·rw[show decide (n=0)=false by simp[h0]];obtain⟨W4,hW4⟩:∃W4,Hid (W3.setCells g (37*i) (wn n++aC p)=W4):=⟨_,rfl⟩
     have K4:Hid (Dz base w W4 g l (j+1)):=by
      have h:=K3.out.1.put HF.out.1 HF.out.2.2.1 hj (by rw[hne.out];exact h0);rw[hie.out,hne.out,hpe.out,hW4.out]at h;exact h
     have e4:Hid ((LF (l.take (j+1))).length=i+1):=by
      show _=_;rw[mF hj,if_neg (by rw[hne.out];exact h0),P9,hie.out];rfl
     have HTH:Hid (W3.there g (37*i) (wn n++aC p).toArray.size):=by
      have e:(wn n++aC p).toArray.size=37:=by rw[Qr];exact hlen
      rw[e];intro t ht;have:=K3.out.1.th (37*i+t) (by omega);rwa[P0]at this
     have hix2:=atT g 0 l.length c i hilt;go_wp2_with (first|(refine wpList_load_mid rfl 101 _ rfl wr.heap.size 0 ?_ (wn n++aC p) d' ?_ ?_ ?_ ?_ ?_;rfl;exact K3.out.2.2.1;exact HD.out.1;exact HD.out.2;exact HLT.out;rw[hvt'.out])|(refine wpList_store_mid rfl 101 _ _ rfl g (37*i) (wn n++aC p).toArray ?_ ?_ ?_ ?_ ?_ ?_;rfl;exact hvt'.out.symm;exact HTH.out;exact HLS.out.1;exact HAL.out;rw[show(wn n++aC p).toArray.toList=wn n++aC p from rfl,hW4.out])|fail)
     go_roundg (gk-1)
     case measure=>omega
     case rel=>exact⟨j+1,by omega,by omega,rfl,by rw[e4.out];rfl,K4⟩
   ·have hj':¬(j:Int)<(l.length:Int):=by omega
    obtain rfl:j=l.length:=by omega
    have eL:LF (l.take l.length)=LF l:=by rw[UF]
    rw[eL];have hilt:(LF l).length<l.length:=by have:=HZ.out l.length hij (PX _);rw[eL]at this;exact this
    have hlo:∀a (ha:a<(LF l).length),Rw wr g a ((LF l)[a]):=fun a ha=>by
     have:=KM.out.lo a (by rw[eL];exact ha);simp only[eL]at this;exact this
    have hszL:∀x∈LF l,(wn x.1++aC x.2).length=37:=fun x hx=>fA (HF.out.2.2.1 _ (QN.2 ⟨x,xQ hx,rfl⟩))
    obtain⟨Z,hZ⟩:=JB g (LF l).length (l.length-(LF l).length) (c-(LF l).length) wr (by omega) (by rw[show(LF l).length+(l.length-(LF l).length)=l.length by omega];exact KM.out.th);obtain⟨W5,hW5⟩:∃W5,Hid (wr.setCells g (37*(LF l).length) Z=W5):=⟨_,rfl⟩
    rw[hW5.out]at hZ;have K5:Hid (Below base w W5/\TmL W5 (some ⟨g,0,none⟩) (LF l)):=by
     rw[<-hW5.out];refine⟨RG.below_setCells HF.out.1 _ _ _ KM.out.bl,fun _=>⟨g,rfl,by rw[RG.setCells_size];exact KM.out.lt,fun a ha=>?_⟩⟩;exact RX (hlo a ha) g _ _ (Qc (Qh (by rw[hszL _ (QG ha)];omega)))
    have hs1:=OX g l.length c (LF l).length hilt HF.out.2.1;have hs2:=OY g l.length c (LF l).length (by omega) HF.out.2.1;clear KM hlo hszL eL hW5;obtain⟨i,hie⟩:∃i,Hid ((LF l).length=i):=⟨_,rfl⟩
    rw[hie.out]at hs1 hs2 hZ hilt⊢;go_wp2;go_ret;exact⟨_,rfl,K5.out.1,some ⟨g,0,none⟩,c,by rw[hie.out];rfl,K5.out.2⟩
end
namespace EC
variable {P:Nat}[NeZero P]
def pts(P:Nat)[NeZero P]:List (Pt P):=
 none :: (WG P).flatMap fun x=>((WG P).filter fun y=>decide (y^2=x^3+7)).map fun y=>some (x,y)
theorem kC(a:Pt P):a∈pts P↔On a:=by
 unfold pts;rcases a with _|⟨x,y⟩
 ·exact⟨fun _=>trivial,fun _=>QH⟩
 ·rw[QT,UG];constructor
  ·rintro(h|⟨u,-,h⟩)
   ·cases h
   ·obtain⟨v,hv,e⟩:=QN.1 h;cases e
    have h2:=(Ud.1 hv).2;exact(decide_eq_true_iff (p:=y^2=x^3+7)).1 h2
  ·intro h;have h:y^2=x^3+7:=h;exact Qc ⟨x,VW x,QN.2 ⟨y,Ud.2 ⟨VW y,decide_eq_true h⟩,rfl⟩⟩
theorem vA:(pts P).Nodup:=by
 unfold pts;refine Tt.2 ⟨fun h=>?_,?_⟩
 ·obtain⟨u,-,h⟩:=UG.1 h;obtain⟨v,-,e⟩:=QN.1 h;cases e
 ·refine List.pairwise_flatMap.2 ⟨fun x _=>VV.2 ?_,?_⟩
  ·refine U4 ?_ ((Um P).sublist VC);intro a b h e;exact h (by cases e;rfl)
  ·refine U4 ?_ (Um P);intro a b h u hu v hv e;obtain⟨c,-,rfl⟩:=QN.1 hu;obtain⟨d,-,rfl⟩:=QN.1 hv;exact h (by cases e;rfl)
theorem Io{u v c:Fin P}(hu:u^2=c)(hv:v^2=c):(u-v)*(u+v)=0:=by grobner
theorem Je{a b d:Fin P}(e1:a+b=0)(e2:a+d=0):b=d:=by grobner
theorem DV(C:Cur P){c:Fin P}:∀l:List (Fin P),l.Nodup->(∀y,y∈l->y^2=c)->l.length<=2
 | [],_,_=>Rh _
 | [_],_,_=>Nat.le_succ _
 | [_,_],_,_=>PX _
 | a :: b :: d :: l,hn,h=>by
  exfalso;have ha:a^2=c:=h a (by simp);have hb:b^2=c:=h b (by simp);have hd:d^2=c:=h d (by simp);have n1:a≠b:=fun e=>(Tt.1 hn).1 (by rw[e];simp)
  have n2:a≠d:=fun e=>(Tt.1 hn).1 (by rw[e];simp)
  have n3:b≠d:=fun e=>(Tt.1 (Tt.1 hn).2).1 (by rw[e];simp)
  have f:∀u v:Fin P,u^2=c->v^2=c->u≠v->u+v=0:=fun u v hu hv hn=>by
   exact Q9 fun hs=>mul_ne C.pr (kQ hn) hs (Io hu hv)
  have e1:=f a b ha hb n1;have e2:=f a d ha hd n2;exact n3 (Je e1 e2)
theorem zX{α β:Type}(f:α->List β)(k:Nat)(h:∀a,(f a).length<=k):∀l:List α,(l.flatMap f).length<=k*l.length
 | []=>Rh _
 | a :: l=>by
  rw[UI,P9,QB,Uj,Nat.add_comm];exact Nat.add_le_add (zX f k h l) (h a)
theorem Jq(C:Cur P):(pts P).length<=2*P+1:=by
 unfold pts;rw[QB];refine Nat.succ_le_succ (Qj (zX _ 2 (fun x=>?_) _) (by rw[List.length_finRange];exact PX _));rw[Qi];exact DV C (c:=x^3+7) _ ((Um P).sublist VC) fun y hy=>of_decide_eq_true (Ud.1 hy).2
theorem IZ:0<(pts P).length:=Nat.succ_pos _
def qL:List (Pt P)->Pt P
 | []=>none
 | a :: l=>add a (qL l)
theorem qW(C:Cur P):∀l:List (Pt P),(∀a,a∈l->On a)->On (qL l)
 | [],_=>fB
 | a :: l,h=>C.on (h a QH) (qW C l fun b hb=>h b (Qx _ hb))
theorem Em(C:Cur P){l m:List (Pt P)}(p:l.Perm m):(∀a,a∈l->On a)->qL l=qL m:=by
 induction p with
 | nil=>intro _;rfl
 | cons x _ ih =>
  intro h;show add x _=add x _;rw[ih fun b hb=>h b (Qx _ hb)]
 | swap x y l =>
  intro h;have hy:=h y QH;have hx:=h x (Qx _ QH);have hl:=qW C l fun b hb=>h b (Qx _ (Qx _ hb))
  show add y (add x (qL l))=add x (add y (qL l));rw[<-C.assoc hy hx hl,C.comm hy hx,C.assoc hx hy hl]
 | trans p _ ih1 ih2 =>
  intro h;rw[ih1 h,ih2 fun a ha=>h a (p.mem_iff.2 ha)]
theorem sL(C:Cur P){r:Pt P}(hr:On r):∀l:List (Pt P),(∀a,a∈l->On a)->qL (l.map fun a=>add a r)=add (qL l) (mul l.length r)
 | [],_=>rfl
 | a :: l,h=>by
  have ha:=h a QH;have hl:∀b,b∈l->On b:=fun b hb=>h b (Qx _ hb)
  show add (add a r) (qL (l.map _))=add (add a (qL l)) (add (mul l.length r) r);rw[sL C hr l hl,C.comm (bU C hr _) hr,C.swap ha hr (qW C l hl) (bU C hr _)]
theorem tP(C:Cur P){a b r:Pt P}(ha:On a)(hb:On b)(hr:On r)(e:add a r=add b r):a=b:=by
 have:add (add a r) (neg r)=add (add b r) (neg r):=by rw[e]
 rwa[C.assoc ha hr (bT hr),C.assoc hb hr (bT hr),add_neg,bF,bF]at this
theorem rJ(C:Cur P){r:Pt P}(hr:On r):((pts P).map fun a=>add a r).Perm (pts P):=by
 refine(List.perm_ext_iff_of_nodup ?_ vA).2 fun a=>?_
 ·refine VV.2 (List.Pairwise.imp_of_mem ?_ (vA (P:=P)));intro a b ha hb h e;exact h (tP C ((kC a).1 ha) ((kC b).1 hb) hr e)
 ·rw[kC,QN];constructor
  ·rintro⟨b,hb,rfl⟩;exact C.on ((kC b).1 hb) hr
  ·intro ha;refine⟨add a (neg r),(kC _).2 (C.on ha (bT hr)),?_⟩;rw[C.assoc ha (bT hr) hr,C.neg_l hr,bF]
theorem CX(C:Cur P){r:Pt P}(hr:On r):mul (pts P).length r=none:=by
 have h0:∀a,a∈pts P->On a:=fun a ha=>(kC a).1 ha
 have h1:=sL C hr (pts P) h0;rw[Em C (rJ C hr) fun a ha=>(kC a).1 ((rJ C hr).mem_iff.1 ha)]at h1;have hs:=qW C (pts P) h0;have hm:=bU C hr (pts P).length;have h2:add (mul (pts P).length r) (qL (pts P))=add none (qL (pts P)):=by
  rw[C.comm hm hs,<-h1,dK]
 exact tP C hm fB hs h2
theorem iP(C:Cur P){a:Pt P}(ha:On a)(m:Nat):∀n,mul (m*n) a=mul n (mul m a)
 | 0=>rfl
 | n+1=>by
  rw[Uj,mul_add C ha,iP C ha m n];rfl
theorem jM:∀n,mul n (none:Pt P)=none
 | 0=>rfl
 | n+1=>by
  show add (mul n none) none=none;rw[jM n];rfl
theorem AH(C:Cur P){a:Pt P}(ha:On a)(e:add a a=none):a=none:=by
 rcases a with _|⟨x,y⟩
 ·rfl
 ·exfalso;have ho:=C.opp_ne ha;rw[bQ C.pr C.two ha ha ho (bI C.pr C.two ha ha ho)]at e;cases e
theorem FZ(C:Cur P){n:Nat}(hn:NT.IsP n)(h3:2*P+1<3*n){g:Pt P}(hg:On g)(h0:g≠none)(hz:mul n g=none){r:Pt P}(hr:On r):mul n r=none:=by
 have hd:n ∣ (pts P).length:=Q9 fun hd=>by
  have h1:=hn.fermat1 _ hd;have h2:mul ((pts P).length^(n-1)) g=none:=by
   have:n-1=(n-2)+1:=by have:=hn.1;omega
   rw[this,Nat.pow_succ,Qy,iP C hg,CX C hg,jM]
  have h4:=Uk ((pts P).length^(n-1)) n;rw[h1]at h4;rw[<-h4,mul_add C hg,iP C hg,hz,jM,dK]at h2;exact h0 h2
 obtain⟨c,hc⟩:=hd;have hl:=Jq C;have hp:=IZ (P:=P);have hm:=CX C hr;rw[hc]at hl hp hm;have hc3:c<3:=Nat.lt_of_mul_lt_mul_left (a:=n) (by omega);match c,hc3 with
 | 0,_=>omega
 | 1,_=>rwa[Nat.mul_one]at hm
 | 2,_ =>
  rw[iP C hr]at hm;exact AH C (bU C hr n) hm
end EC
section
open Go.RowKit Go.Sort Go.Deep
variable {P:Nat}[NeZero P]{N:Nat}
def fE(P:Nat)[NeZero P](b:Bs):EC.Pt P:=match rd P b with|some p=>pt p|none=>none
theorem fQ(C:Fld P){X:EC.Pt P}(h:EC.On X):fE P (wr X)=X:=by
 obtain⟨p,h1,h2⟩:=yQ C h;unfold fE;rw[h1];exact h2
def fR(P:Nat)[NeZero P]:List (Nat × Bs)->EC.Pt P
 | []=>none
 | x :: r=>EC.add (EC.mul x.1 (fE P x.2)) (fR P r)
def PtsL(P:Nat)[NeZero P](l:List (Nat × Bs)):Prop:=∀x∈l,∃X:EC.Pt P,EC.On X/\x.2=wr X
theorem PtsL.on(C:Fld P){l:List (Nat × Bs)}(h:PtsL P l){x:Nat × Bs}(hx:x∈l):EC.On (fE P x.2):=by
 obtain⟨X,h1,h2⟩:=h x hx;rw[h2,fQ C h1];exact h1
theorem vW(C:Fld P):∀ {l:List (Nat × Bs)},PtsL P l->EC.On (fR P l)
 | [],_=>EC.fB
 | x :: r,h=>C.cur.on (EC.bU C.cur (h.on C QH) _) (vW C fun y hy=>h y (Qx _ hy))
theorem uH(C:Fld P)(y:Nat × Bs)(hy:EC.On (fE P y.2)):∀ {l:List (Nat × Bs)},PtsL P l->fR P (l++[y])=EC.add (fR P l) (EC.mul y.1 (fE P y.2))
 | [],_=>EC.bF _
 | x :: r,h=>by
  have hr:PtsL P r:=fun z hz=>h z (Qx _ hz)
  show EC.add (EC.mul x.1 (fE P x.2)) (fR P (r++[y]))=_;rw[uH C y hy hr];exact(C.cur.assoc (EC.bU C.cur (h.on C QH) _) (vW C hr) (EC.bU C.cur hy _)).symm
theorem vX:∀l:List (Nat × Bs),fR P (LF l)=fR P l
 | []=>rfl
 | x :: r=>by
  unfold LF;rw[List.filter_cons];by_cases h:x.1=0
  ·rw[if_neg (by simp[h])];show fR P (LF r)=EC.add (EC.mul x.1 (fE P x.2)) (fR P r);rw[h,vX r];rfl
  ·rw[if_pos (by simp[h])];show EC.add _ (fR P (LF r))=EC.add _ (fR P r);rw[vX r]
theorem mul_mod(C:Fld P)(hord:∀r:EC.Pt P,EC.On r->EC.mul N r=none){X:EC.Pt P}(hX:EC.On X)(n:Nat):EC.mul (n%N) X=EC.mul n X:=by
 have h:=EC.mul_add C.cur hX (N*(n/N)) (n%N);rw[Uk,EC.iP C.cur hX N (n/N),hord X hX,EC.jM,EC.dK]at h;exact h.symm
theorem uI(C:Fld P)(hord:∀r:EC.Pt P,EC.On r->EC.mul N r=none)(n:Nat)(p:Bs)(hp:EC.On (fE P p)):∀ {l:List (Nat × Bs)},PtsL P l->fR P (dL N l n p)=EC.add (fR P l) (EC.mul n (fE P p))
 | [],_=>EC.bF _
 | (s,q) :: r,h=>by
  have hr:PtsL P r:=fun z hz=>h z (Qx _ hz)
  have hq:=h.on C (x:=(s,q)) QH;have h1:=EC.bU C.cur hq s;have h2:=vW C hr;have h3:=EC.bU C.cur hp n;unfold dL;by_cases e:p=q
  ·rw[if_pos e];subst e;show EC.add (EC.mul (sPl N s n) (fE P p)) (fR P r)=EC.add (EC.add (EC.mul s (fE P p)) (fR P r)) (EC.mul n (fE P p));unfold sPl;rw[mul_mod C hord hp,EC.mul_add C.cur hp,C.cur.assoc h1 h3 h2,C.cur.assoc h1 h2 h3,C.cur.comm h3 h2]
  ·rw[if_neg e];show EC.add (EC.mul s (fE P q)) (fR P (dL N r n p))=EC.add (EC.add (EC.mul s (fE P q)) (fR P r)) (EC.mul n (fE P p));rw[uI C hord n p hp hr,C.cur.assoc h1 h2 h3]
theorem DF{n:Nat}{p:Bs}(hp:∃X:EC.Pt P,EC.On X/\p=wr X):∀ {l:List (Nat × Bs)},PtsL P l->PtsL P (dL N l n p)
 | [],_=>fun x hx=>by
  have:x=(n,p):=by simpa[dL]using hx
  rw[this];exact hp
 | (s,q) :: r,h=>by
  have hr:PtsL P r:=fun z hz=>h z (Qx _ hz)
  unfold dL;split
  ·intro x hx;rcases QT.1 hx with rfl|hx
   ·exact h (s,q) QH
   ·exact hr x hx
  ·intro x hx;rcases QT.1 hx with rfl|hx
   ·exact h (s,q) QH
   ·exact DF hp hr x hx
theorem wT(ns:Nat->Nat)(X:Nat->EC.Pt P){k:Nat}(hX:∀j,j<k->EC.On (X j)):∀i,i<=k->PtsL P (mrg N ns (fun j=>wr (X j)) i)
 | 0,_=>fun x hx=>by cases hx
 | i+1,hi=>DF ⟨X i,hX i (by omega),rfl⟩ (wT ns X hX i (by omega))
theorem CY(C:Fld P)(hord:∀r:EC.Pt P,EC.On r->EC.mul N r=none)(ns:Nat->Nat)(X:Nat->EC.Pt P){k:Nat}(hX:∀j,j<k->EC.On (X j)):∀i,i<=k->fR P (mrg N ns (fun j=>wr (X j)) i)=EC.tot X i (fun j=>(ns j:Int))
 | 0,_=>rfl
 | i+1,hi=>by
  have hi':=hX i (by omega);show fR P (dL N (mrg N ns (fun j=>wr (X j)) i) (ns i) (wr (X i)))=EC.add (EC.tot X i (fun j=>(ns j:Int))) (EC.mul (ns i) (X i));rw[uI C hord _ _ (by rw[fQ C hi'];exact hi') (wT ns X hX i (by omega)),CY C hord ns X hX i (by omega),fQ C hi']
theorem rG(C:Fld P)(l:List (Nat × Bs))(h:PtsL P l):∀i,i<=l.length->EC.tot (fun j=>fE P ((l[j]?).getD (0,#[])).2) i (fun j=>(((l[j]?).getD (0,#[])).1:Int))=fR P (l.take i)
 | 0,_=>by rw[List.take_zero];rfl
 | i+1,hi=>by
  have hlt:i<l.length:=by omega
  show EC.add (EC.tot _ i _) (EC.mul ((l[i]?).getD (0,#[])).1 (fE P ((l[i]?).getD (0,#[])).2))=_;rw[rG C l h i (by omega),VT,Qb hlt];exact(uH C (l[i]) (h.on C (QG hlt)) fun x hx=>h x (Vt hx)).symm
theorem AQ(C:Fld P)(O:Ord N)(hord:∀r:EC.Pt P,EC.On r->EC.mul N r=none)(g k c:Nat)(hk0:0<k)(hk:k<=512)(ns:Nat->Nat)(X:Nat->EC.Pt P)(hn:∀j,j<k->ns j<N)(hX:∀j,j<k->EC.On (X j))(w:World)(hg:g<w.heap.size)(hr:∀j,j<k->w.rangeAt g (37*j) (wn (ns j)++aC (wr (X j)))):
 Calls prog 30 #[.slice (some ⟨g,0,none⟩) k c] w (Ret fun e w'=>Below w.heap.size w w'/\e=pvl (wr (EC.tot X k (fun j=>(ns j:Int))))):=by
 have hM:=wT (N:=N) ns X hX k (PX _);have hlt:=BD O ns (fun j=>wr (X j)) hn k (PX _);have hsz:=lC (N:=N) ns (fun j=>wr (X j)) (k:=k) (fun j _=>aN _) k (PX _);have hle:=nX (N:=N) ns (fun j=>wr (X j)) k;have hsum:=CY C hord ns X hX k (PX _);have hpos:0<(mrg N ns (fun j=>wr (X j)) k).length:=by
  obtain⟨k',rfl⟩:∃k',k=k'+1:=⟨k-1,by omega⟩
  show 0<(dL N _ _ _).length;cases mrg N ns (fun j=>wr (X j)) k' with
  | nil=>exact So 0
  | cons x r=>unfold dL;split<;>simp
 have hmer:=fun W (hb:Below w.heap.size w W)=>Ge O (fun e w'=>Below W.heap.size W w'/\∃q cap,e=.slice q (LF (mrg N ns (fun j=>wr (X j)) k)).length cap/\TmL w' q (LF (mrg N ns (fun j=>wr (X j)) k))) g k c (by omega) ns (fun j=>wr (X j)) (fun j _=>aN _) hn W (PY hg hb.size) (fun j hj=>RG.range_below (hr j hj) hb hg) (fun W' v hMx=>by
  refine(GI _ hpos (by omega) hsz (fun x hx=>PY (hlt x hx) O.le) W.heap.size v W' hMx.bl.size hMx.ow).mono ?_;rintro e w' ⟨u,rfl,hb',hT⟩;exact⟨_,rfl,hMx.bl.trans hb',hT⟩)
 generalize mrg N ns (fun j=>wr (X j)) k=L at hM hlt hsz hle hsum hpos hmer;have hF:PtsL P (LF L):=fun x hx=>hM x (xQ hx)
 have hFl:(LF L).length<=L.length:=Vp _ _;refine(mS C O _ w (LF L).length (by omega) (fun j=>(((LF L)[j]?).getD (0,#[])).1) (fun j=>fE P (((LF L)[j]?).getD (0,#[])).2) (fun j hj=>by rw[Qb hj];exact hlt _ (xQ (QG hj))) (fun j hj=>by rw[Qb hj];exact hF.on C (QG hj)) fun W hb=>?_).mono ?_
 ·refine(hmer W hb).mono ?_;rintro e w' ⟨u,rfl,hb',q,cap,rfl,hT⟩;refine⟨_,rfl,hb',q,cap,rfl,fun h0=>?_⟩;obtain⟨g',e1,e2,e3⟩:=hT h0;refine⟨g',e1,e2,fun j hj=>?_⟩;have h5:=e3 j hj;obtain⟨Y,y1,y2⟩:=hF _ (QG hj);show w'.rangeAt g' (37*j) (wn (((LF L)[j]?).getD (0,#[])).1++aC (wr (fE P (((LF L)[j]?).getD (0,#[])).2)));rw[Qb hj];show w'.rangeAt g' (37*j) (wn ((LF L)[j]).1++aC (wr (fE P ((LF L)[j]).2)));rw[y2,fQ C y1,<-y2];exact h5
 ·rintro e w' ⟨u,rfl,hb',rfl⟩;refine⟨_,rfl,hb',?_⟩;rw[rG C (LF L) hF _ (PX _),UF,vX,hsum]
theorem MQ:prog.underlying 22=some (.slice 5):=by kernel_rfl
theorem MU:prog.underlying 3=some (.int .i64):=by kernel_rfl
theorem Kh:(prog.info? 5).map (fun i=>(i.size,i.bytes,i.zero.map fun z=>z.cells.size))=some (1,1,some 1):=by kernel_rfl
theorem atB(k o n c i:Nat)(hi:i<n)(w:World):(Rc 31 (.slice (some ⟨k,o,none⟩) n c) (.int .i64 i)).run prog w=.ok (.pointer (some ⟨k,o+1*i,none⟩)) w:=by
 have h1:¬(i:Int)<0:=by omega
 have h2:(i:Int)<n:=by omega
 go_simp
theorem LY(n:Nat)(hn:n<=10000000)(w:World):Calls prog 74 #[.slice none 0 0,.int .i64 n] w (Ret fun e w'=>Below w.heap.size w w'/\w'.ownsRow w.heap.size 5 1 e 0 []):=by
 by_cases h0:n=0
 ·subst h0;go_enter Tryz.func74,Tryz.ntmps74;go_wp2;go_ret;exact⟨_,rfl,Qd _ _,Uu _ _ _ _⟩
 ·obtain⟨i,hi,he⟩:=PZ.1 Kh;simp only[Ro.injEq]at he;obtain⟨h1,h2,h3⟩:=he;obtain⟨z,hz,hz2⟩:=PZ.1 h3;have hr:=Vj (P:=prog) w 22 3 22 5 i z .i64 .i64 MQ MU hi hz n (by omega) (by omega) (by omega) (by rw[h2];omega);have hcap:=grownCap_ge w n 0 5;have hcap2:=grownCap_le_maxLen w n 0 5 (by unfold maxLen;omega);have hcs:(QZ z.cells n++QZ z.cells (grownCap w n 0 5-n)).size=grownCap w n 0 5*1:=by rw[Qg,size_zeroCells,size_zeroCells,hz2];omega
  generalize grownCap w n 0 5=cp at hr hcap hcap2 hcs;generalize QZ z.cells n++QZ z.cells (cp-n)=cur at hr hcs;obtain⟨w1,hw1⟩:∃w1,Hid (w.drew.alloc (.cells cur 5)=w1):=⟨_,rfl⟩
  rw[hw1.out]at hr;have HR:=Hid.mk' hr;have K:Hid (Below w.heap.size w w1/\w1.ownsRow w.heap.size 5 1 (.slice (some ⟨w.heap.size,0,none⟩) 0 cp) 0 []):=by
   rw[<-hw1.out];exact⟨(Qd _ _).drew.alloc (PX _) _,VG w.drew cur cp (PX _) hcap2 hcs⟩
  clear hr hw1 hcs hi hz hz2 h1 h2 h3;have hn1:(0:Int)<(n:Int):=by omega
  have hn2:¬((n:Int)<0):=by omega
  have hw:QE.wrap (n:Int)=n:=by rw[Tf];omega
  go_enter Tryz.func74,Tryz.ntmps74;go_wp2_with (at_builtin;refine Rj _ rfl _ _ _ _ rfl _ _ rfl rfl _ _ HR.out ?_)
  go_ret;exact⟨_,rfl,K.out.1,K.out.2⟩
def g9(L:Nat->Bs)(k:Nat):List UInt8:=(QJ k).flatMap fun j=>(L j).toList
theorem fZ(L:Nat->Bs)(i:Nat):g9 L (i+1)=g9 L i++(L i).toList:=by
 unfold g9;rw[Tw,TC];simp
theorem Ds(L:Nat->Bs){k m:Nat}(hs:∀j,j<k->(L j).size<=m):∀i,i<=k->(g9 L i).length<=m*i
 | 0,_=>PX _
 | i+1,hi=>by
  have h1:=Ds L hs i (by omega);have h2:=hs i (by omega);have e:(L i).toList.length=(L i).size:=rfl;rw[fZ,P9,e,Uj];omega
theorem El.below{n B:Nat}{W W':World}{x:Value}{b:Bs}(h:El n W x b)(hb:Below B W W')(hB:W.heap.size<=B):El n W' x b:=by
 obtain⟨k,c,rfl,h1,h2,h3,h4⟩:=h;exact⟨k,c,rfl,h1,h2,PY h3 hb.size,Holds.kept h4 (hb.block k (by omega))⟩
theorem I8{base n m:Nat}{W:World}{v x:Value}{xs:List Value}{b:Bs}(hown:W.ownsRow base 5 1 v n xs)(hx:El m W x b)(hn:n+m<=100000000)(hb:base<=W.heap.size):
 ∃v' W',(QV #[22,22] 22 #[v,x]).run prog W=.ok v' W'/\W'.ownsRow base 5 1 v' (n+m) (xs++cb b)/\W.grownBy W' v.ownBlock:=by
 obtain⟨i,hi,he⟩:=PZ.1 Kh;simp only[Ro.injEq]at he;obtain⟨h1,h2,h3⟩:=he;obtain⟨z,hz,hz2⟩:=PZ.1 h3;obtain⟨k,c,rfl,e1,e2,e3,e4⟩:=hx;obtain⟨v',W',r1,r2,r3,-⟩:=run_append_own (P:=prog) W base 22 22 5 i z 1 1 MQ hi hz h1 h2 hz2 (by decide) v n xs hown ⟨k,0,none⟩ m c (cb b) (by rw[mC,e2];omega)
  (fun j u hj=>by
   have:=(oM e4).1 j u hj;rw[P0]at this;rw[add0];exact this) (fun u hu=>by
   obtain⟨y,-,rfl⟩:=QN.1 hu;rfl) (by unfold maxLen;omega) (by omega) hb
 exact⟨v',W',r1,r2,r3⟩
theorem Mg(L:Nat->Bs)(i:Nat):(g9 L (i+1)).map encB=(g9 L i).map encB++cb (L i):=by rw[fZ,SJ];rfl
theorem GL(g k c:Nat)(L:Nat->Bs)(hk:k<=1000)(hs:∀j,j<k->(L j).size<=10000)(w:World)(hg:g<w.heap.size)(hL:∀j,j<k->∃x,w.cell? ⟨g,j,none⟩=some x/\El (L j).size w x (L j)):
 Calls prog 35 #[.slice (some ⟨g,0,none⟩) k c] w (Ret fun e w'=>Below w.heap.size w w'/\w'.ownsRow w.heap.size 5 1 e (g9 L k).length ((g9 L k).map encB)):=by
 have HL:=Hid.mk' hL;have HS:Hid (∀i,i<=k->(g9 L i).length<=10000*i):=Ds L hs;have HG:=Hid.mk' hg;clear hL hs hg;go_enter Tryz.func35,Tryz.ntmps35;go_wp2_with fail
 go_loopg [3,11] k (fun m s3 s11 W=>∃i:Nat,i+m=k/\s11=.int .i64 i/\s3=.int .i64 ((g9 L i).length:Int)/\w=W)
 case atStart=>exact⟨0,by omega,rfl,rfl,rfl⟩
 case round =>
  obtain⟨i,hik,rfl,rfl,rfl⟩:=hrel;by_cases hi:i<k
  ·have hi':(i:Int)<(k:Int):=by omega
   obtain⟨x,hc,hE⟩:=HL.out i hi;obtain⟨kx,cx,rfl,h1,-⟩:=hE;have hix:=atB g 0 k c i hi;rw[show 0+1*i=i by omega]at hix;have hlen:(g9 L (i+1)).length=(g9 L i).length+(L i).size:=by rw[fZ,P9];rfl
   have hb1:=HS.out i (by omega);have hb2:=HS.out (i+1) (by omega);obtain⟨a,ha⟩:∃a,Hid ((g9 L i).length=a):=⟨_,rfl⟩
   obtain⟨b,hb⟩:∃b,Hid ((L i).size=b):=⟨_,rfl⟩
   rw[ha.out]at hlen hb1;rw[hb.out]at hlen h1;rw[ha.out];have hwr:QE.wrap ((a:Int)+(b:Int))=((a+b:Nat):Int):=by rw[Tf];omega
   have hng:¬(((a+b:Nat):Int)<0):=by omega
   rw[hb.out]at hc;go_wp2;go_roundg (gk-1)
   case measure=>omega
   case rel=>exact⟨i+1,by omega,rfl,by rw[hlen,WC],rfl⟩
  ·have hi':¬(i:Int)<(k:Int):=by omega
   obtain rfl:i=k:=by omega
   go_wp2_with fail
   refine(LY (g9 L i).length (by have:=HS.out i (PX _);omega) w).mono ?_;rintro e w1 ⟨v,rfl,hb1,ho1⟩;have K1:Hid (Below w.heap.size w w1/\w1.ownsRow w.heap.size 5 1 v (g9 L 0).length ((g9 L 0).map encB)):=⟨hb1,ho1⟩
   clear hb1 ho1;go_wp2_with fail
   go_loopg [6,27] i (fun m s6 s27 W=>∃j:Nat,j+m=i/\s27=.int .i64 j/\Hid (Below w.heap.size w W/\W.ownsRow w.heap.size 5 1 s6 (g9 L j).length ((g9 L j).map encB)))
   case atStart=>exact⟨0,by omega,rfl,K1⟩
   case round =>
    clear K1;obtain⟨j,hjk,rfl,KM⟩:=hrel;by_cases hj:j<i
    ·have hj':(j:Int)<(i:Int):=by omega
     obtain⟨x,hc0,hE0⟩:=HL.out j hj;have hc:wr.cell? ⟨g,j,none⟩=some x:=by rw[KM.out.1.cell (p:=⟨g,j,none⟩) HG.out];exact hc0
     have hE:=hE0.below KM.out.1 (PX _);have hb2:=HS.out (j+1) (by omega);have hlen:(g9 L (j+1)).length=(g9 L j).length+(L j).size:=by rw[fZ,P9];rfl
     obtain⟨v',W',r1,r2,r3⟩:=I8 KM.out.2 hE (by omega) KM.out.1.size;rw[<-hlen,<-Mg]at r2;have KN:Hid (Below w.heap.size w W'/\W'.ownsRow w.heap.size 5 1 v' (g9 L (j+1)).length ((g9 L (j+1)).map encB)):=⟨KM.out.1.grown r3 KM.out.1.size (fun k hk=>(KM.out.2.lt k hk).1),r2⟩
     have HAP:=Hid.mk' r1;obtain⟨kx,cx,rfl,-⟩:=hE;have hix:=atB g 0 i c j hj;rw[show 0+1*j=j by omega]at hix;clear r1 r2 r3 hlen hb2 KM hE0 hc0;go_wp2_with (first|(refine jS (x:=u6) (y:=.slice (some ⟨kx,0,none⟩) (L j).size cx) (v:=v') (w':=W') rfl _ _ 22 rfl ?_ ?_ ?_ ?_;rfl;rfl;exact HAP.out)|fail)
     go_roundg (gk-1)
     case measure=>omega
     case rel=>exact⟨j+1,by omega,rfl,KN⟩
    ·have hj':¬(j:Int)<(i:Int):=by omega
     obtain rfl:j=i:=by omega
     go_wp2;go_ret;exact⟨_,rfl,KM.out.1,KM.out.2⟩
end
section
open Go.RowKit Go.Sort Go.Deep Go.Shelf
attribute [local go_sem] U5
variable {P:Nat}[NeZero P]
theorem Gk{w:World}{g o:Nat}{bs:Bs}(h:Holds encB w g o bs)(hs:0<bs.size):g<w.heap.size:=by
 obtain⟨ob,ho,-⟩:=cells_of_cell (h 0 hs).1;exact(Ql.1 ho).1
noncomputable def cand (P:Nat) [NeZero P] (lab:ByteArray) (b:List UInt8) (i:Nat):Option (Fin P × Fin P):=
 if beV (SP.gA ((⟨#[112,111,105,110,116,32]⟩:ByteArray)++lab).data.toList [b,[P6 i]]).toList<P then
  (rt (Su P (beV (SP.gA ((⟨#[112,111,105,110,116,32]⟩:ByteArray)++lab).data.toList [b,[P6 i]]).toList)*Su P (beV (SP.gA ((⟨#[112,111,105,110,116,32]⟩:ByteArray)++lab).data.toList [b,[P6 i]]).toList)*Su P (beV (SP.gA ((⟨#[112,111,105,110,116,32]⟩:ByteArray)++lab).data.toList [b,[P6 i]]).toList)+7)).map fun y=>(Su P (beV (SP.gA ((⟨#[112,111,105,110,116,32]⟩:ByteArray)++lab).data.toList [b,[P6 i]]).toList),y)
 else none
noncomputable def cands (P:Nat) [NeZero P] (lab:ByteArray) (b:List UInt8) (i:Nat):List (Fin P × Fin P):=(QJ i).filterMap (cand P lab b)
end
section
open Go.RowKit Go.Sort Go.Deep Go.Shelf
attribute [local go_sem] U5
section
variable {F:Fence}{n:Nat}{P:Program}{ops:Array Oper}{rest:List Oper}{op:Oper}{a:Act}{w:World}{Q:Exit->Act->World->Prop}
end
variable {P:Nat}[NeZero P]
end
section
open Go.RowKit Go.Sort Go.Deep Go.Shelf
variable {P:Nat}[NeZero P]{N:Nat}
noncomputable def hpt (P:Nat) [NeZero P] (lab:ByteArray) (b:List UInt8):Fin P × Fin P:=(cands P lab b 256).headD (gX P,gY P)
end
section
open Go.RowKit Go.Sort Go.Deep
variable {P:Nat}[NeZero P]{N:Nat}
end
section
open Go.RowKit Go.Sort Go.Deep
variable {P:Nat}[NeZero P]{N:Nat}
theorem NC:Gives 118 #[.int .u64 1] (nv 1):=by
 intro w;go_enter Tryz.func118,Tryz.ntmps118;refine RG.M.enter [(0,.v (.int .u64 1))] 6 (by kernel_rfl) ?_;intro a0 M0;repeat refine wp_seq ?_
 refine M0.t [.m 2 [] 0] [(0,RG.z 4)] [] [RG.z 4] [(0,.v (.int .u64 1)),(2,.p 0 0)] ⟨RG.mk 0 66,trivial⟩ ?_;intro k a1 w1 M1;repeat refine wp_seq ?_
 refine M1.t [.x 3 [] (.int .u64 1),.x 4 [(3,0)] (nv 1),.x 5 [(4,1)] (nv 1),.u [(5,2)] 0] [] [(0,3,wn 1)] [wn 1] [(2,.p 0 0)] ⟨RG.st,RG.st,RG.st,RG.pt i40,trivial⟩ ?_;intro a2 w2 M2;refine wp_ret ?_;refine bodyPost_ret (v:=nv 1) (RG.aE M2.st 2 66 rfl 0 _ rfl (M2.at (s:=(.p 0 0))) u40 i40) M2.sl.defers ?_;exact⟨_,rfl,M2.st.bel.below,rfl⟩
def Sm(B:Nat)(W:World)(v:Value)(l:List (Nat × Bs)):Prop:=∃g c,v=.slice (some ⟨g,0,none⟩) l.length c/\l.length<=c/\B<=g/\g<W.heap.size/\W.rangeAt g 0 (aW l)
theorem Sm.grow{B:Nat}{W W':World}{v:Value}{l:List (Nat × Bs)}(h:Sm B W v l)(hb:Below W.heap.size W W'):Sm B W' v l:=by
 obtain⟨g,c,h1,h2,h3,h4,h5⟩:=h;exact⟨g,c,h1,h2,h3,PY h4 hb.size,RG.range_below h5 hb h4⟩
theorem cellsT_one'(n:Nat)(a:Bs):aW [(n,a)]=wn n++aC a:=by rw[dZ];exact SK _
theorem Sm.one{B W k n}{w:World}{a:Bs}(h:Row w k (wn n++aC a))(hB:B<=k)(hW:w=W):Sm B W (.slice (some ⟨k,0,none⟩) 1 1) [(n,a)]:=by
 subst hW;exact⟨k,1,rfl,PX _,hB,h.1,by rw[cellsT_one'];exact h.2.1⟩
section
variable (a:Bs) (w:World) (k1:Nat)
end
theorem infoT':(prog.info? 101).map (fun i=>(i.size,i.bytes,i.zero.map fun z=>z.cells.size))=some (37,72,some 37):=by kernel_rfl
theorem Jt(n:Nat)(hn:n<=10000000)(w:World):Calls prog 168 #[.slice none 0 0,.int .i64 n] w (Ret fun e w'=>Below w.heap.size w w'/\w'.ownsRow w.heap.size 101 37 e 0 []):=by
 by_cases h0:n=0
 ·subst h0;go_enter Tryz.func168,Tryz.ntmps168;go_wp2;go_ret;exact⟨_,rfl,Qd _ _,Uu _ _ _ _⟩
 ·obtain⟨i,hi,he⟩:=PZ.1 infoT';simp only[Ro.injEq]at he;obtain⟨h1,h2,h3⟩:=he;obtain⟨z,hz,hz2⟩:=PZ.1 h3;have hr:=Vj (P:=prog) w 70 3 70 101 i z .i64 .i64 DU MU hi hz n (by omega) (by omega) (by omega) (by rw[h2];omega);have hcap:=grownCap_ge w n 0 101;have hcap2:=grownCap_le_maxLen w n 0 101 (by unfold maxLen;omega);have hcs:(QZ z.cells n++QZ z.cells (grownCap w n 0 101-n)).size=grownCap w n 0 101*37:=by rw[Qg,size_zeroCells,size_zeroCells,hz2];omega
  generalize grownCap w n 0 101=cp at hr hcap hcap2 hcs;generalize QZ z.cells n++QZ z.cells (cp-n)=cur at hr hcs;obtain⟨w1,hw1⟩:∃w1,Hid (w.drew.alloc (.cells cur 101)=w1):=⟨_,rfl⟩
  rw[hw1.out]at hr;have HR:=Hid.mk' hr;have K:Hid (Below w.heap.size w w1/\w1.ownsRow w.heap.size 101 37 (.slice (some ⟨w.heap.size,0,none⟩) 0 cp) 0 []):=by
   rw[<-hw1.out];exact⟨(Qd _ _).drew.alloc (PX _) _,VG w.drew cur cp (PX _) hcap2 hcs⟩
  clear hr hw1 hcs hi hz hz2 h1 h2 h3;have hn1:(0:Int)<(n:Int):=by omega
  have hn2:¬((n:Int)<0):=by omega
  have hw:QE.wrap (n:Int)=n:=by rw[Tf];omega
  go_enter Tryz.func168,Tryz.ntmps168;go_wp2_with (at_builtin;refine Rj _ rfl _ _ _ _ rfl _ _ rfl rfl _ _ HR.out ?_)
  go_ret;exact⟨_,rfl,K.out.1,K.out.2⟩
theorem B8(l m:List (Nat × Bs)):aW (l++m)=aW l++aW m:=by unfold aW;rw[TC]
theorem Ez(l:List (Nat × Bs)):∀u∈aW l,u.oneCell'=true:=fun u hu=>by
 unfold aW at hu;obtain⟨x,-,hx⟩:=UG.1 hu;exact cells_one x.1 x.2 u hx
theorem m5:∀ {l:List (Nat × Bs)},(∀x∈l,x.2.size=33)->(aW l).length=l.length*37
 | [],_=>rfl
 | x :: r,h=>by
  rw[dZ,P9,fA (h x QH),m5 fun y hy=>h y (Qx _ hy),QB];omega
theorem FX{base B:Nat}{W:World}{v x:Value}{l m:List (Nat × Bs)}(hown:W.ownsRow base 101 37 v l.length (aW l))(hm:∀y∈m,y.2.size=33)(hx:Sm B W x m)(hn:l.length+m.length<=1000000)(hb:base<=W.heap.size):
 ∃v' W',(QV #[70,70] 70 #[v,x]).run prog W=.ok v' W'/\W'.ownsRow base 101 37 v' (l++m).length (aW (l++m))/\W.grownBy W' v.ownBlock:=by
 obtain⟨i,hi,he⟩:=PZ.1 infoT';simp only[Ro.injEq]at he;obtain⟨h1,h2,h3⟩:=he;obtain⟨z,hz,hz2⟩:=PZ.1 h3;obtain⟨k,c,rfl,e1,e2,e3,e4⟩:=hx;obtain⟨v',W',r1,r2,r3,-⟩:=run_append_own (P:=prog) W base 70 70 101 i z 37 72 DU hi hz h1 h2 hz2 (by decide) v l.length (aW l) hown ⟨k,0,none⟩ m.length c (aW m) (m5 hm)
  (fun j u hj=>by
   have:=e4 j u hj;rw[P0]at this;rw[add0];exact this) (Ez m) (by unfold maxLen;omega) (by omega) hb
 exact⟨v',W',r1,by rw[P9,B8];exact r2,r3⟩
end
section
open Go.RowKit Go.Sort Go.Deep
variable {P:Nat}[NeZero P]{N:Nat}
theorem atS(k o n c i:Nat)(hi:i<n)(w:World):(Rc 220 (.slice (some ⟨k,o,none⟩) n c) (.int .i64 i)).run prog w=.ok (.pointer (some ⟨k,o+1*i,none⟩)) w:=by
 have h1:¬(i:Int)<0:=by omega
 have h2:(i:Int)<n:=by omega
 go_simp
def iD(L:Nat->List (Nat × Bs))(k:Nat):List (Nat × Bs):=(QJ k).flatMap L
theorem fY(L:Nat->List (Nat × Bs))(i:Nat):iD L (i+1)=iD L i++L i:=by
 unfold iD;rw[Tw,TC];simp
theorem Dq(L:Nat->List (Nat × Bs)){k m:Nat}(hs:∀j,j<k->(L j).length<=m):∀i,i<=k->(iD L i).length<=m*i
 | 0,_=>PX _
 | i+1,hi=>by
  have h1:=Dq L hs i (by omega);have h2:=hs i (by omega);rw[fY,P9,Uj];omega
theorem Eu(g k c:Nat)(L:Nat->List (Nat × Bs))(hk:k<=1000)(hs:∀j,j<k->(L j).length<=600)(h33:∀j,j<k->∀x∈L j,x.2.size=33)(w:World)(hg:g<w.heap.size)(hL:∀j,j<k->∃x,w.cell? ⟨g,j,none⟩=some x/\Sm 0 w x (L j)):
 Calls prog 147 #[.slice (some ⟨g,0,none⟩) k c] w (Ret fun e w'=>Below w.heap.size w w'/\w'.ownsRow w.heap.size 101 37 e (iD L k).length (aW (iD L k))):=by
 have HL:=Hid.mk' hL;have HS:Hid (∀i,i<=k->(iD L i).length<=600*i):=Dq L hs;have HG:=Hid.mk' hg;have H3:=Hid.mk' h33;clear hL hs hg h33;go_enter Tryz.func147,Tryz.ntmps147;go_wp2_with fail
 go_loopg [3,11] k (fun m s3 s11 W=>∃i:Nat,i+m=k/\s11=.int .i64 i/\s3=.int .i64 ((iD L i).length:Int)/\w=W)
 case atStart=>exact⟨0,by omega,rfl,rfl,rfl⟩
 case round =>
  obtain⟨i,hik,rfl,rfl,rfl⟩:=hrel;by_cases hi:i<k
  ·have hi':(i:Int)<(k:Int):=by omega
   obtain⟨x,hc,hE⟩:=HL.out i hi;obtain⟨kx,cx,rfl,h1,-⟩:=hE;have hix:=atS g 0 k c i hi;rw[show 0+1*i=i by omega]at hix;have hlen:(iD L (i+1)).length=(iD L i).length+(L i).length:=by rw[fY,P9]
   have hb1:=HS.out i (by omega);have hb2:=HS.out (i+1) (by omega);obtain⟨a,ha⟩:∃a,Hid ((iD L i).length=a):=⟨_,rfl⟩
   obtain⟨b,hb⟩:∃b,Hid ((L i).length=b):=⟨_,rfl⟩
   rw[ha.out]at hlen hb1;rw[hb.out]at hlen h1;rw[ha.out];have hwr:QE.wrap ((a:Int)+(b:Int))=((a+b:Nat):Int):=by rw[Tf];omega
   have hng:¬(((a+b:Nat):Int)<0):=by omega
   rw[hb.out]at hc;go_wp2;go_roundg (gk-1)
   case measure=>omega
   case rel=>exact⟨i+1,by omega,rfl,by rw[hlen,WC],rfl⟩
  ·have hi':¬(i:Int)<(k:Int):=by omega
   obtain rfl:i=k:=by omega
   go_wp2_with fail
   refine(Jt (iD L i).length (by have:=HS.out i (PX _);omega) w).mono ?_;rintro e w1 ⟨v,rfl,hb1,ho1⟩;have K1:Hid (Below w.heap.size w w1/\w1.ownsRow w.heap.size 101 37 v (iD L 0).length (aW (iD L 0))):=⟨hb1,ho1⟩
   clear hb1 ho1;go_wp2_with fail
   go_loopg [6,27] i (fun m s6 s27 W=>∃j:Nat,j+m=i/\s27=.int .i64 j/\Hid (Below w.heap.size w W/\W.ownsRow w.heap.size 101 37 s6 (iD L j).length (aW (iD L j))))
   case atStart=>exact⟨0,by omega,rfl,K1⟩
   case round =>
    clear K1;obtain⟨j,hjk,rfl,KM⟩:=hrel;by_cases hj:j<i
    ·have hj':(j:Int)<(i:Int):=by omega
     obtain⟨x,hc0,hE0⟩:=HL.out j hj;have hc:wr.cell? ⟨g,j,none⟩=some x:=by rw[KM.out.1.cell (p:=⟨g,j,none⟩) HG.out];exact hc0
     have hE:=hE0.grow KM.out.1;have hb2:=HS.out (j+1) (by omega);have hlen:(iD L (j+1)).length=(iD L j).length+(L j).length:=by rw[fY,P9]
     obtain⟨v',W',r1,r2,r3⟩:=FX KM.out.2 (H3.out j hj) hE (by rw[<-hlen];omega) KM.out.1.size;rw[<-fY]at r2;have KN:Hid (Below w.heap.size w W'/\W'.ownsRow w.heap.size 101 37 v' (iD L (j+1)).length (aW (iD L (j+1)))):=⟨KM.out.1.grown r3 KM.out.1.size (fun k hk=>(KM.out.2.lt k hk).1),r2⟩
     have HAP:=Hid.mk' r1;obtain⟨kx,cx,rfl,-⟩:=hE;have hix:=atS g 0 i c j hj;rw[show 0+1*j=j by omega]at hix;clear r1 r2 r3 hlen hb2 KM hE0 hc0;go_wp2_with (first|(refine jS (x:=u6) (y:=.slice (some ⟨kx,0,none⟩) (L j).length cx) (v:=v') (w':=W') rfl _ _ 70 rfl ?_ ?_ ?_ ?_;rfl;rfl;exact HAP.out)|fail)
     go_roundg (gk-1)
     case measure=>omega
     case rel=>exact⟨j+1,by omega,rfl,KN⟩
    ·have hj':¬(j:Int)<(i:Int):=by omega
     obtain rfl:j=i:=by omega
     go_wp2;go_ret;exact⟨_,rfl,KM.out.1,KM.out.2⟩
theorem I6{W:World}{base:Nat}{v:Value}{l:List (Nat × Bs)}(h:W.ownsRow base 101 37 v l.length (aW l))(hl:0<l.length):Sm base W v l:=by
 have h0:=fun {g:Nat}=>h.cells (g:=g)
 rcases h.2 with⟨-,h2⟩|⟨g,cap,cur,rfl,h1,hc,hn,-⟩
 ·omega
 ·refine⟨g,cap,rfl,hn,h1,(Ql.1 hc).1,fun j u hu=>?_⟩;have:=h0 (g:=g) rfl j u hu;rw[add0]at this;rw[P0];exact this
theorem DX(B:Nat)(s t:Value)(l m:List (Nat × Bs))(hl0:0<l.length)(hl:l.length<=500)(hm:m.length<=500)(hl3:∀x∈l,x.2.size=33)(hm3:∀x∈m,x.2.size=33)(w:World)(h1:Sm B w s l)(h2:Sm B w t m):
 Calls prog 116 #[s,t] w (Ret fun e w'=>Below w.heap.size w w'/\Sm w.heap.size w' e (l++m)):=by
 have hb0:=hl0;obtain⟨g1,c1,e1,-⟩:=id h1;obtain⟨g2,c2,e2,-⟩:=id h2;subst e1;subst e2;obtain⟨w1,hw1⟩:∃w1,Hid (w.alloc (.cells #[.slice (some ⟨g1,0,none⟩) l.length c1,.slice (some ⟨g2,0,none⟩) m.length c2] 70)=w1):=⟨_,rfl⟩
 have hb:Below w.heap.size w w1:=by rw[<-hw1.out];exact aH _ _
 have hlt:w.heap.size<w1.heap.size:=by rw[<-hw1.out,P4];omega
 have hM:w1.rangeAt w.heap.size 0 [.slice (some ⟨g1,0,none⟩) l.length c1,.slice (some ⟨g2,0,none⟩) m.length c2]:=by rw[<-hw1.out];exact(RG.Made.alloc w [.slice (some ⟨g1,0,none⟩) l.length c1,.slice (some ⟨g2,0,none⟩) m.length c2] 70).range
 have HC:=Hid.mk' (Eu w.heap.size 2 2 (fun j=>if j=0 then l else m) (by decide) (fun j _=>by show(if j=0 then l else m).length<=600;split<;>omega) (fun j _=>by
  show ∀x∈(if j=0 then l else m),x.2.size=33;split
  ·exact hl3
  ·exact hm3) w1 hlt (fun j hj=>by
  have hz:∀ {v:Value}{l:List (Nat × Bs)},Sm B w v l->Sm 0 w1 v l:=fun h=>by
   obtain⟨g,c,q1,q2,-,q4,q5⟩:=h.grow hb;exact⟨g,c,q1,q2,Rh _,q4,q5⟩
  have hj2:j=0\/j=1:=by omega
  rcases hj2 with rfl|rfl
  ·exact⟨_,hM 0 _ rfl,hz h1⟩
  ·exact⟨_,hM 1 _ rfl,hz h2⟩))
 have hcat:iD (fun j=>if j=0 then l else m) 2=l++m:=by rw[fY,fY];rfl
 have HB:=Hid.mk' hb;have HK:Hid (iD (fun j=>if j=0 then l else m) 2=l++m/\0<(l++m).length):=⟨hcat,by rw[P9];omega⟩
 clear h1 h2 hM hlt hb hcat hl3 hm3;go_enter Tryz.func116,Tryz.ntmps116;go_wp2_with fail
 rw[hw1.out];refine HC.out.mono ?_;rintro e w2 ⟨vv,rfl,hb2,ho⟩;rw[HK.out.1]at ho;have K2:Hid (Below w.heap.size w w2/\Sm w.heap.size w2 vv (l++m)):=by
  obtain⟨g,c,q1,q2,q3,q4,q5⟩:=I6 ho HK.out.2;exact⟨HB.out.trans (hb2.mono HB.out.size),g,c,q1,q2,Qj HB.out.size q3,q4,q5⟩
 clear hb2 ho HC;go_wp2;go_ret;exact⟨_,rfl,K2.out.1,K2.out.2⟩
theorem Sm.point(C:Fld P)(O:Ord N)(hord:∀r:EC.Pt P,EC.On r->EC.mul N r=none){B:Nat}{w:World}{v:Value}{l:List (Nat × Bs)}(h:Sm B w v l)(hl0:0<l.length)(hl:l.length<=512)(hn:∀x∈l,x.1<N)(hp:PtsL P l):
 Calls prog 30 #[v] w (Ret fun e w'=>Below w.heap.size w w'/\e=pvl (wr (fR P l))):=by
 obtain⟨g,c,rfl,-,-,hg,hr⟩:=h;have h33:∀x∈l.map (·.2),x.size=33:=fun x hx=>by
  obtain⟨y,hy,rfl⟩:=QN.1 hx;obtain⟨X,-,e⟩:=hp y hy;rw[e];exact aN _
 have hm:∀j (hj:j<l.length),((l[j]?).getD (0,#[]))=l[j]:=fun j hj=>by rw[Qb hj];rfl
 have hX:∀j,j<l.length->EC.On (fE P ((l[j]?).getD (0,#[])).2):=fun j hj=>by rw[hm j hj];exact hp.on C (QG hj)
 refine(AQ C O hord g l.length c hl0 hl (fun j=>((l[j]?).getD (0,#[])).1) (fun j=>fE P ((l[j]?).getD (0,#[])).2) (fun j hj=>by rw[hm j hj];exact hn _ (QG hj)) hX w hg (fun j hj=>?_)).mono ?_
 ·rw[hm j hj];obtain⟨X,x1,x2⟩:=hp _ (QG hj);rw[x2,fQ C x1,<-x2];intro t u hu;have ht:t<37:=by
   have:=(Qf.1 hu).1;rw[fA (h33 _ (QN.2 ⟨_,QG hj,rfl⟩))]at this;exact this
  have:=hr (37*j+t) u (by rw[jN l h33 j hj t ht];exact hu);rw[P0]at this;exact this
 ·rintro e w' ⟨u,rfl,hb,rfl⟩;refine⟨_,rfl,hb,?_⟩;rw[rG C l hp _ (PX _),UF]
end
section
open Go.RowKit Go.Sort Go.Deep
variable {P:Nat}[NeZero P]{N:Nat}
structure Kp(w:World)(W:World)(rs:List (Nat × List Value)):Prop where
 bl:Below w.heap.size w W
 rw:∀x∈rs,Row W x.1 x.2
theorem Kp.grow{w W W':World}{rs:List (Nat × List Value)}(h:Kp w W rs)(hb:Below W.heap.size W W'):Kp w W' rs:=⟨h.bl.trans (hb.mono h.bl.size),fun x hx=>(h.rw x hx).below hb⟩
theorem Kp.drew{w W:World}{rs:List (Nat × List Value)}(h:Kp w W rs):Kp w W.drew rs:=⟨h.bl.drew,h.rw⟩
theorem Kp.cons{w W:World}{rs:List (Nat × List Value)}{k:Nat}{c:List Value}(h:Kp w W rs)(hr:Row W k c):Kp w W ((k,c) :: rs):=⟨h.bl,fun x hx=>by
 rcases QT.1 hx with rfl|hx
 ·exact hr
 ·exact h.rw x hx⟩
theorem Kp.at{w W:World}{rs:List (Nat × List Value)}(h:Kp w W rs){k:Nat}{c:List Value}(i:Nat)(hi:rs[i]? = some (k,c)):Row W k c:=h.rw _ (List.mem_of_getElem? hi)
theorem Kp.put{w W:World}{rs:List (Nat × List Value)}{k:Nat}{old new:List Value}(h:Kp w W rs)(hr:Row W k old)(hl:new.length=old.length)(hk:w.heap.size<=k)(hne:∀x∈rs,x.1≠k):Kp w (W.setCells k 0 new) ((k,new) :: rs):=
 ⟨RG.below_setCells hk _ _ _ h.bl,fun x hx=>by
  rcases QT.1 hx with rfl|hx
  ·exact hr.put hl
  ·exact(h.rw x hx).other (hne x hx)⟩
def Nw(B:Nat)(c:List Value)(v:Value)(W:World):Prop:=∃k,v=.pointer (some ⟨k,0,none⟩)/\B<=k/\Row W k c
theorem Nw.grow{B:Nat}{c:List Value}{v:Value}{W W':World}(h:Nw B c v W)(hb:Below W.heap.size W W'):Nw B c v W':=by
 obtain⟨k,h1,h2,h3⟩:=h;exact⟨k,h1,h2,h3.below hb⟩
section
variable (w:World) (k6 k8 k9 k10 x kk c z B0:Nat) (A F:Bs) (v1:Value)
def Two(v:Value)(W:World):Prop:=∃k y,v=.slice (some ⟨k,0,none⟩) 2 2/\k<W.heap.size/\W.cell? ⟨k,0,none⟩=some (.slice (some ⟨k9,0,none⟩) 33 33)/\W.cell? ⟨k,1,none⟩=some y/\El 32 W y (bx z)
end
end
section
open Go.RowKit Go.Sort Go.Deep
variable {P:Nat}[NeZero P]{N:Nat}
theorem rP{P:Program}{fn:Func}{tmps:Array Value}{W:World}{k:Nat}{vs:List Value}{v:Value}(t u:Tmp)(T:TypeId)(hr:fn.results=#[.cell t T,.tmp u])(h:Row W k vs)(ht:tmps[t]? = some (.pointer (some ⟨k,0,none⟩)))(hv:tmps[u]? = some v)
 (hu:(P.underlying T).map (·.isRow)=some true) (hi:(P.info? T).map (·.size)=some vs.length):(results fn tmps).run P W=.ok (.tuple #[.agg vs.toArray,v]) W:=by
 obtain⟨d,hu,hd⟩:=PZ.1 hu;have h1:=run_loadVar_mid (P:=P) W k 0 T vs d h.2.1 hu hd hi;have h2:tmps.getD t undef=.pointer (some ⟨k,0,none⟩):=by rw[P7,ht];rfl
 have h3:tmps.getD u undef=v:=by rw[P7,hv];rfl
 unfold results;rw[hr];simp only[Array.mapM_eq_mapM_toList,List.mapM_cons,List.mapM_nil,h2,h3,asAddr];simp[Qm,h1]
theorem Oc(w:World):(Instr.build 38 #[]).run prog w=.ok (.agg z33.toArray) w:=by kernel_rfl
theorem Mr(g o cg:Nat)(w:World):(Instr.arrayAt 38 (.slice (some ⟨g,o,none⟩) 33 cg)).run prog w=.ok (.pointer (some ⟨g,o,none⟩)) w:=by kernel_rfl
theorem FA{bs:Bs}{p:Fin P × Fin P}(h:rd P bs=some p):bs.size=33:=by
 unfold rd at h;split at h
 ·assumption
 ·cases h
theorem Ep{W:World}{g o:Nat}{b:Bs}(h:Holds encB W g o b):W.rangeAt g o (aC b):=fun j u hu=>by
 unfold aC at hu;rw[Re]at hu;obtain⟨x,hx,rfl⟩:=PZ.1 hu;have hj:j<b.size:=by have:=(Qf.1 hx).1;simpa using this
 rw[(h j hj).1,getElem!_pos b j hj];rw[QF,Qp hj]at hx;rw[Qn.inj hx]
theorem JG(C:Fld P)(v:Value)(bs:Bs)(p:Fin P × Fin P)(w:World)(hv:Arg33 w v bs)(hr:rd P bs=some p):Calls prog 31 #[v] w (Ret fun e w'=>Below w.heap.size w w'/\e=.tuple #[pvl bs,.bool true]):=by
 have hs:=FA hr;have HG:Hid (∀W,Below w.heap.size w W->Calls prog 67 #[v] W (Ret fun e w'=>Below W.heap.size W w'/\e=.bool true)):=fun W hb=>by
  have h:=zR C v bs W (hv.below hb);rw[hr]at h;exact h
 obtain⟨q,n,cap,rfl,e1,e2⟩:=hv;rw[hs]at e1;subst e1;obtain⟨g,o,rfl,-,hg,hH⟩:=e2 rfl;have HH:Hid (w.rangeAt g o (aC bs)/\g<w.heap.size):=⟨Ep hH,hg⟩
 obtain⟨w1,hw1⟩:∃w1,Hid (w.alloc (.cells z33.toArray 38)=w1):=⟨_,rfl⟩
 have K1:Hid (Row w1 w.heap.size z33/\Below w.heap.size w w1):=by rw[<-hw1.out];exact⟨aJ w _ _,aH w _⟩
 obtain⟨d,hd1,hd2⟩:=PZ.1 uCP;have HD:Hid (prog.underlying 38=some d/\d.isRow=true):=⟨hd1,hd2⟩
 have HS:=Hid.mk' hs;have harr:=Mr g o cap;clear hd1 hd2 C hr hs hH hg e2;go_enter Tryz.func31,Tryz.ntmps31;go_wp2_with (first|(refine aP (v:=.pointer (some ⟨w.heap.size,0,none⟩)) (w':=w1) rfl (.alloc 38) rfl ?_ ?_;(rw[<-hw1.out];kernel_rfl))|fail)
 refine(HG.out w1 K1.out.2).mono ?_;rintro e w2 ⟨vv,rfl,hb2,rfl⟩;have K2:Hid (Row w2 w.heap.size z33/\Below w.heap.size w w2/\w2.rangeAt g o (aC bs)):=⟨K1.out.1.below hb2,K1.out.2.trans (hb2.mono K1.out.2.size),RG.range_below HH.out.1 (K1.out.2.trans (hb2.mono K1.out.2.size)) HH.out.2⟩
 clear hb2 K1 hw1 HG;obtain⟨w3,hw3⟩:∃w3,Hid (w2.setCells w.heap.size 0 (aC bs)=w3):=⟨_,rfl⟩
 have hlen:(aC bs).length=33:=aG HS.out;have K3:Hid (Row w3 w.heap.size (aC bs)/\Below w.heap.size w w3):=by rw[<-hw3.out];exact⟨K2.out.1.put (by rw[hlen];rfl),RG.below_setCells (PX _) _ _ _ K2.out.2.1⟩
 obtain⟨vt,hvt⟩:∃vt,Hid (QA (aC bs).toArray=vt):=⟨_,rfl⟩
 have HI:Hid ((prog.info? 38).map (·.size)=some (aC bs).length/\w2.there w.heap.size 0 (aC bs).toArray.size/\(prog.info? 38).map (·.size)=some (aC bs).toArray.size):=by
  have e:(aC bs).toArray.size=33:=by rw[Qr];exact hlen
  refine⟨by rw[hlen];exact aQ,by rw[e];exact K2.out.1.2.2,by rw[e];exact aQ⟩
 clear hlen;go_wp2_with (first|(refine wpList_load_mid rfl 38 _ rfl g o ?_ (aC bs) d ?_ ?_ ?_ ?_ ?_;rfl;exact K2.out.2.2;exact HD.out.1;exact HD.out.2;exact HI.out.1;rw[hvt.out])|(refine wpList_store_mid rfl 38 _ _ rfl w.heap.size 0 (aC bs).toArray ?_ ?_ ?_ ?_ ?_ ?_;rfl;exact hvt.out.symm;exact HI.out.2.1;exact HI.out.2.2;exact cV bs;rw[show(aC bs).toArray.toList=aC bs from rfl,hw3.out])|fail)
 refine bodyPost_ret (rP 2 3 38 rfl K3.out.1 rfl rfl uCP HI.out.1) rfl ?_;exact⟨_,rfl,K3.out.2,rfl⟩
theorem JH(C:Fld P)(v:Value)(bs:Bs)(w:World)(hv:Arg33 w v bs)(hr:rd P bs=none):Calls prog 31 #[v] w (Ret fun e w'=>Below w.heap.size w w'/\e=.tuple #[.agg z33.toArray,.bool false]):=by
 have HG:Hid (∀W,Below w.heap.size w W->Calls prog 67 #[v] W (Ret fun e w'=>Below W.heap.size W w'/\e=.bool false)):=fun W hb=>by
  have h:=zR C v bs W (hv.below hb);rw[hr]at h;exact h
 clear hv hr C;obtain⟨w1,hw1⟩:∃w1,Hid (w.alloc (.cells z33.toArray 38)=w1):=⟨_,rfl⟩
 have K1:Hid (Row w1 w.heap.size z33/\Below w.heap.size w w1):=by rw[<-hw1.out];exact⟨aJ w _ _,aH w _⟩
 obtain⟨vt,hvt⟩:∃vt,Hid (QA z33.toArray=vt):=⟨_,rfl⟩
 have HO:Hid (z33.toArray.all (·.oneCell')=true):=by show _=_;decide +kernel
 go_enter Tryz.func31,Tryz.ntmps31;go_wp2_with (first|(refine aP (v:=.pointer (some ⟨w.heap.size,0,none⟩)) (w':=w1) rfl (.alloc 38) rfl ?_ ?_;(rw[<-hw1.out];kernel_rfl))|fail)
 refine(HG.out w1 K1.out.2).mono ?_;rintro e w2 ⟨vv,rfl,hb2,rfl⟩;have K2:Hid (Row w2 w.heap.size z33/\Below w.heap.size w w2):=⟨K1.out.1.below hb2,K1.out.2.trans (hb2.mono K1.out.2.size)⟩
 clear hb2 K1 hw1 HG;obtain⟨w3,hw3⟩:∃w3,Hid (w2.setCells w.heap.size 0 z33=w3):=⟨_,rfl⟩
 have K3:Hid (Row w3 w.heap.size z33/\Below w.heap.size w w3):=by rw[<-hw3.out];exact⟨K2.out.1.put rfl,RG.below_setCells (PX _) _ _ _ K2.out.2⟩
 have HB:=Hid.mk' (Oc w2);rw[hvt.out]at HB;go_wp2_with (first|(refine mP (v:=vt) (w':=w2) rfl 38 _ rfl #[] ?_ ?_ ?_;kernel_rfl;exact HB.out)|(refine wpList_store_mid rfl 38 _ _ rfl w.heap.size 0 z33.toArray ?_ ?_ ?_ ?_ ?_ ?_;rfl;exact hvt.out.symm;exact K2.out.1.2.2;exact aQ;exact HO.out;rw[show z33.toArray.toList=z33 from rfl,hw3.out])|fail)
 refine bodyPost_ret (rP 2 3 38 rfl K3.out.1 rfl rfl uCP aQ) rfl ?_;exact⟨_,rfl,K3.out.2,rfl⟩
def o33:Bs:=P3 33 0
theorem wQ:(.agg z33.toArray:Value)=pvl o33:=by
 unfold pvl z33 o33 aC;rw[T0,List.map_replicate];rfl
theorem Pi{a b:Bs}(ha:a.size=33)(hb:b.size=33)(w:World):(binOp .neq 38 (pvl a) (pvl b)).run prog w=.ok (.bool (!decide (a=b))) w:=by
 have h:=N4 ha hb w;have h2:(binOp .neq 38 (pvl a) (pvl b)).run prog w=(Vv 38 (pvl a) (pvl b) >>= fun b=>pure (Value.bool (!b))).run prog w:=rfl;rw[h2,Qm];have h3:(Vv 38 (pvl a) (pvl b)).run prog w=.ok (decide (a=b)) w:=h;rw[h3];rfl
noncomputable def rdB (P:Nat) [NeZero P] (b:Bs):Bs:=if (rd P b).isSome then b else o33
theorem nN(b:Bs):(rdB P b).size=33:=by
 unfold rdB;split
 ·rename_i h
  obtain⟨p,hp⟩:=Qz.1 h;exact FA hp
 ·rfl
theorem JI(C:Fld P)(v:Value)(b:Bs)(w:World)(hv:Arg33 w v b):Calls prog 31 #[v] w (Ret fun e w'=>Below w.heap.size w w'/\e=.tuple #[pvl (rdB P b),.bool (rd P b).isSome]):=by
 unfold rdB;cases hr:rd P b with
 | none =>
  have:=JH C v b w hv hr;rw[wQ]at this;exact this
 | some p=>exact JG C v b p w hv hr
noncomputable def real (P:Nat) [NeZero P] (b:Bs):Bool:=(rd P b).isSome && !decide (rdB P b=o33)
def MM(f g:Nat->UInt8)(z:Bool):List RG.It:=[.x 11 [] (fpv f),.x 12 [] (.bool true),.x 13 [(12,1)] (.bool true),.x 14 [] (fpv f),.x 15 [] (fpv fun _=>0),.x 16 [(14,3),(15,4)] (.bool z),.x 17 [(13,2),(16,5)] (.bool z),.u [(11,0)] 0,.x 3 [(17,6)] (.bool z)]
theorem Jj:pvl o33=fpv fun _=>0:=wQ.symm.trans rfl
theorem lP(C:Fld P)(v:Value)(b:Bs)(w:World)(hv:Arg33 w v b):Calls prog 11 #[v] w (Ret fun e w'=>Below w.heap.size w w'/\e=.tuple #[pvl (rdB P b),.bool (real P b)]):=by
 have hR:∀w',RG.BelX w.heap.size [] w w'->Calls prog 31 #[v] w' (Ret fun e w''=>Below w'.heap.size w' w''/\e=.tuple #[pvl (rdB P b),.bool (rd P b).isSome]):=fun w' hb=>JI C v b w' (hv.below hb.below)
 have hne:=Pi (nN (P:=P) b) (show o33.size=33 from rfl);unfold real;rw[gP (nN b)]at hR hne⊢;rw[Jj]at hne;generalize (fun i:Nat=>(rdB P b)[i]!)=f at hR hne⊢;generalize (rd P b).isSome=ok at hR⊢;generalize (!decide (rdB P b=o33))=z at hne⊢;go_enter Tryz.func11,Tryz.ntmps11;refine RG.M.enter [(0,.v v)] 18 (by kernel_rfl) ?_;intro a0 M0;repeat refine wp_seq ?_
 refine M0.t [.m 2 [] 0,.x 3 [] (.bool false)] [(0,zz 33)] [] [zz 33] [(0,.v v),(2,.p 0 0),(3,.v (.bool false))] ⟨RG.mk 0 38,RG.st,trivial⟩ ?_;intro j1 a1 w1 M1;repeat refine wp_seq ?_
 refine M1.t [.x 7 [] v,.c 8 [(7,0)] (.tuple #[fpv f,.bool ok]),.x 6 [(8,1)] (.tuple #[fpv f,.bool ok]),.x 9 [(6,2)] (fpv f),.x 10 [(6,2)] (.bool ok),.m 4 [] 1,.u [(4,5),(9,3)] 1,.x 5 [(10,4)] (.bool ok)] [(5,zz 33)] [(1,6,cF f)] [zz 33,cF f] [(2,.p 0 0),(4,.p 1 0),(5,.v (.bool ok))] ⟨RG.st,RG.clB (fun _ _=>by kernel_rfl) hR,RG.st,RG.st,RG.st,RG.mk 1 38,RG.pt aQ,RG.st,trivial⟩ ?_;intro j2 a2 w2 M2;repeat refine wp_seq ?_
 cases ok with
 | true =>
  refine M2.d (MM f f z) [] [(0,7,cF f)] [cF f,cF f] [(2,.p 0 0),(3,.v (.bool z))] ⟨RG.ld uCP aQ,RG.st,RG.st,RG.ld uCP aQ,RG.st,RG.aL rfl .neq 38 38 14 15 (fpv f) (fpv fun _=>0) (.bool z) rfl rfl RG.sx RG.sx (fun w=>by kernel_rfl) hne,RG.st,RG.pt aQ,RG.st,trivial⟩ ?_;intro a4 w4 M4;refine wp_ret ?_;refine bodyPost_ret (v:=.tuple #[fpv f,.bool z]) (RG.aO M4.st 2 3 38 rfl 0 _ rfl (M4.at (s:=.p 0 0)) (.bool z) M4.av uCP aQ) M4.sl.defers ?_;exact⟨_,rfl,M4.st.bel.below,rfl⟩
 | false =>
  refine M2.d [.x 11 [] (fpv f),.x 12 [] (.bool false),.x 13 [(12,1)] (.bool false),⟨some 14,[],(.v undef),.pass⟩,⟨some 15,[],(.v undef),.pass⟩,⟨some 16,[],(.v undef),.pass⟩,.x 17 [(13,2),(16,5)] (.bool false),.u [(11,0)] 0,.x 3 [(17,6)] (.bool false)] [] [(0,7,cF f)] [cF f,cF f] [(2,.p 0 0),(3,.v (.bool false))] ⟨RG.ld uCP aQ,RG.st,RG.st,RG.aI rfl rfl,RG.aI rfl rfl,RG.aI rfl rfl,RG.st,RG.pt aQ,RG.st,trivial⟩ ?_;intro a4 w4 M4;refine wp_ret ?_;refine bodyPost_ret (v:=.tuple #[fpv f,.bool false]) (RG.aO M4.st 2 3 38 rfl 0 _ rfl (M4.at (s:=.p 0 0)) (.bool false) M4.av uCP aQ) M4.sl.defers ?_;exact⟨_,rfl,M4.st.bel.below,rfl⟩
end
end Go.Proofs.YtbceebahamkmdaaGreat
