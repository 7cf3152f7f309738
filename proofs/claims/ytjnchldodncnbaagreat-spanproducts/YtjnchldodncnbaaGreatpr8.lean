import Derived.Laws.OwnMore
import Derived.ArgAppend
import Derived.Deep.AppendSrc
import Derived.Deep.LoopGhost
import Derived.Test.YtjnchldodncnbaaGreatpr7
set_option linter.unusedVariables false
set_option linter.constructorNameAsVariable false
set_option linter.unusedSimpArgs false
set_option maxRecDepth 1000000
set_option maxHeartbeats 4000000
namespace Go.Proofs.YtjnchldodncnbaaGreat
open _root_.And renaming intro->U8
open _root_.Array renaming getD->yBL,getD_eq_getD_getElem?->TS,getElem?_eq_none->XD,getElem?_eq_some_iff->Uh,length_toList->TR,mk->YV,replicate->TP,setIfInBounds->WW,size_append->UA,size_setIfInBounds->Up
open _root_.ByteArray renaming size_append->yBU
open _root_.Fin renaming ofNat->Vy
open _root_.Go renaming Addr->V5,Calls->TW,Exit->YJ,Oper->UI,Program->Vd,Tmp->Vn,TypeId->Uw,Value->TC,World->TA,bodyPost_ret->TM,execOp->UD,getD_set_ne->XB,run_append_own->YS,run_storeVar_mid->yAv,run_underlying->Zn,undef->VU,wpList_load_mid->UL,wpList_store_mid->Ui,wp_block->V3,wp_cond_false->UG,wp_cond_true->UC,wp_ret->UZ,wp_seq->TI,wp_skip->Vg
open _root_.Go.Act renaming put->Ug
open _root_.Go.Addr renaming add->XI
open _root_.Go.Builtin renaming append_->Ur,nextslicecap->YC
open _root_.Go.Exit renaming inBlock->Xl
open _root_.Go.Instr renaming box->U6,buildSlice->We,sliceAt->VP,storeAt->Yw,sureAddr->Yk
open _root_.Go.IntKind renaming u8->Yo
open _root_.Go.Next renaming value->Ww
open _root_.Go.Oper renaming semAt_some->ZL,wp->Vp
open _root_.Go.Region renaming binds->U7,free->YO,noSelect->XP,ready->UN,wanted->WI
open _root_.Go.Result renaming andThen_ok->UE
open _root_.Go.RowKit.Below renaming refl->TX
open _root_.Go.Sem renaming run_bind->Ue,run_pure->VA
open _root_.Go.Src renaming ofSlice->yAW
open _root_.Go.Value renaming agg->Um,bool->yBH,ownBlock->VO,tuple->yAf
open _root_.Go.World renaming cell?->WN,cell?_of_block->Ua,frozen?->ZR,frozen?_of_block->UY,rangeAt->XH,rangeAt_setCells_apart->UW,size_alloc->TQ,there_setCells->VM
open _root_.Int renaming cast_ofNat_Int->Yh,natCast_one->YM
open _root_.List renaming cons->Yn,cons_ne_nil->Zr,drop->Vx,eq_nil_of_length_eq_zero->Zu,getElem?_append_left->UB,getElem?_append_right->U1,getElem?_eq_getElem->TZ,getElem?_eq_none->VW,getElem?_eq_some_iff->T9,getElem?_map->UX,length_set->yA6,mem_append->WA,mem_cons->U0,mem_singleton->XA,nodup_append->yAE,nodup_cons->Wy,nodup_nil->yBg,not_mem_nil->Ud,replicate->UU,setIfInBounds_toArray->TD,set_cons_succ->TK,set_cons_zero->TL,size_toArray->UH,take->Vw
open _root_.List.Mem renaming head->Zy
open _root_.Nat renaming le_refl->TG,le_trans->TU,lt_of_lt_of_le->TF,lt_of_sub_eq_succ->Ws,mod_eq_of_lt->Uf,mul_comm->Ut,mul_le_mul_left->WJ,mul_le_mul_right->Xm,ne_of_lt->Vl,not_lt_zero->VC,pow_le_pow_right->Ve,pow_pos->WR,pow_succ->Vk,pow_zero->Wx,reduceAdd->UJ,reducePow->XM,sub_self->Yg,succ_lt_succ->yA2,zero_add->TO,zero_le->VH,zero_lt_succ->Yz
open _root_.Ne renaming symm->yBu
open _root_.Option renaming map_eq_some_iff->TJ,map_some->XK,some->Uc
open _root_.Or renaming inl->Ub,inr->T8
open _root_.Prod renaming mk->Vz
open _root_.UInt8 renaming ofNat->TV,toNat_ofNat'->Yc
open Go.Proofs.Tryz
section
open Go.RowKit Go.Sort Go.Deep
variable {P:Nat}[NeZero P]{N:Nat}
theorem pJ{base n m size c:Nat}{T e:Uw}{i:TypeInfo}{z:TC}{W W':TA}{v w:TC}{xs o:List TC}{a:V5}(G:prog.underlying T=some (.slice e))(C:prog.info? e=some i)(J:i.zero=some z)(D:i.size=size)(E:i.bytes<=1000)
 (k:W.ownsRow base e size v n xs) (s:Src prog size T (.slice (some a) m c) m o W) (b:n+m<=1000000000)
 (r:(Ur #[T,T] T #[v,.slice (some a) m c]).run prog W=.ok w W'):w.ownBlock=v.ownBlock\/(w.ownBlock=some W.heap.size/\Below W.heap.size W W'):=by
 subst D;have d:∀(q:Option V5) (cap:Nat) (olds:List TC),v=.slice q n cap->cap<n+m->(Builtin.firstCells i.size n (.slice q n cap)).run prog W.drew=.ok olds.toArray W.drew->w.ownBlock=v.ownBlock\/(w.ownBlock=some W.heap.size/\Below W.heap.size W W'):=λq cap olds hv H t=>by
  have F:=BM (n+m) cap H;have A:YC (n+m) cap*i.bytes<=(2*(n+m)+768)*1000:=Nat.mul_le_mul F E;have p:=run_append_grow_src (P:=prog) W T T T e i z G C J q n cap olds t (.slice (some a) m c) m o s H (by omega) (TU A (by clear F A;omega));rw[hv,p]at r;injection r with hr1 f
  right;refine⟨by rw[<-hr1];rfl,?_⟩;rw[<-f];exact(⟨rfl,rfl,rfl,TG _,λ_ _=>rfl⟩:Below W.heap.size W W.drew).trans (bU W.drew _)
 rcases id k with⟨-,⟨rfl,rfl⟩|⟨g,cap,cur,rfl,M,I,N,Q,L,O⟩⟩
 ·by_cases K:m=0
  ·subst K;have B:=r;obtain⟨b,f⟩:∃b,(Ur #[T,T] T #[.slice none 0 0,.slice (some a) 0 c]).run prog W=.ok (.slice none 0 0) b:=by
    rcases s.kind with⟨e',y⟩|y<;>exact⟨_,by simp[Ur,Zn G,Zn y,sizeOf,typeInfo,C,s.len,s.cells];rfl⟩
   rw[f]at r;injection r with hr1 f
   left;rw[<-hr1]
  ·exact d none 0 [] rfl (by omega) (run_firstCells_none W.drew i.size 0 0 0)
 ·by_cases b:n+m<=cap
  ·have p:=run_append_room_src (P:=prog) W T T T e i G C g 0 n cap (.slice (some a) m c) m o s b
    (λj y=>by
     have B:n*i.size+j<cur.size:=by
      rw[L];have F:j<m*i.size:=by rw[<-s.newsLen];exact y
      have A:(n+m)*i.size<=cap*i.size:=Xm _ b;rw[Nat.add_mul]at A;omega
     simp[WN,I,TO,Array.getElem?_eq_getElem B])
    (λj y=>by simp[ZR,I])
   rw[p]at r;injection r with hr1 f
   left;rw[<-hr1];rfl
  ·refine d (some (aZ g)) cap xs rfl (by omega) ?_;exact run_firstCells_some W.drew i.size n (aZ g) n cap xs k.1 (λj u y=>by rw[World.cell?_drew];exact k.cells (g:=g) rfl j u y)
structure Ap1(W W':TA)(v v':TC):Prop where
 os:W'.os=W.os
 tape:W'.tape=W.tape
 output:W'.output=W.output
 size:W.heap.size<=W'.heap.size
 keep:∀g,g<W.heap.size->v.ownBlock≠some g->W'.heap[g]? = W.heap[g]?
 mv:v'.ownBlock=v.ownBlock\/((∃g,v'.ownBlock=some g/\W.heap.size<=g)/\∀g,g<W.heap.size->W'.heap[g]? = W.heap[g]?)
theorem bE{W W':TA}{base n k:Nat}{e:Uw}{v:TC}{xs:List TC}(h:W.ownsRow base e k v n xs)(j:∀g,v.ownBlock=some g->W'.heap[g]? = W.heap[g]?):W'.ownsRow base e k v n xs:=by
 rcases h with⟨b,i|⟨g,cap,cur,rfl,d,f,c⟩⟩
 ·exact⟨b,Ub i⟩
 ·exact⟨b,T8 ⟨g,cap,cur,rfl,d,by rw[j g rfl];exact f,c⟩⟩
theorem cN{W:TA}{base n k g:Nat}{e:Uw}{v:TC}{xs:List TC}(h:W.ownsRow base e k v n xs)(b:v.ownBlock=some g):base<=g/\g<W.heap.size/\∃cur,W.heap[g]? = some (.cells cur e (0,0)):=by
 rcases h with⟨j,⟨rfl,-⟩|⟨d,cap,cur,rfl,f,c,i⟩⟩
 ·cases b
 ·obtain rfl:d=g:=Uc.inj b;refine⟨f,?_,cur,c⟩;by_cases b:d<W.heap.size
  ·exact b
  ·rw[XD (by omega)]at c;cases c
theorem vW{base n k:Nat}{T e:Uw}{W:TA}{v x:TC}{xs:List TC}(s:prog.underlying T=some (.slice e))(H:(prog.info? e).map (λi=>(i.size,i.bytes,i.zero.map λz=>z.cells.size))=some (1,k,some 1))(q:k<=1000)
 (b:W.ownsRow base e 1 v n xs) (m:x.oneCell'=true) (f:n<=100000000) (l:base<=W.heap.size) :
 ∃d W',(Ur #[T,T] T #[v,.slice (some ⟨W.heap.size,0,none⟩) 1 1]).run prog (W.alloc (.cells #[x] e))=.ok d W'/\W'.ownsRow base e 1 d (n+1) (xs++[x])/\Ap1 W W' v d:=by
 obtain⟨i,w,a⟩:=TJ.1 H;simp only[Vz.injEq]at a;obtain⟨B,E,G⟩:=a;obtain⟨z,y,r⟩:=TJ.1 G;have p:=bU W (.cells #[x] e);have J:(W.alloc (.cells #[x] e)).heap.size=W.heap.size+1:=TQ _ _;have ho:(W.alloc (.cells #[x] e)).ownsRow base e 1 v n xs:=bE b (λg l=>p.block g (cN b l).2.1);have t:∀(j:Nat) u,[x][j]? = some u->(W.alloc (.cells #[x] e)).cell? ((⟨W.heap.size,0,none⟩:V5).add j)=some u:=λj u D=>by
  rw[mF,TO];exact iC W _ _ j u (by simpa using D)
 have f:∀u∈[x],u.oneCell'=true:=λu C=>by
  obtain rfl:u=x:=by simpa using C
  exact m
 obtain⟨d,W',A,I,m,-⟩:=YS (P:=prog) (W.alloc (.cells #[x] e)) base T T e i z 1 k s w y B E r (by decide) v n xs ho ⟨W.heap.size,0,none⟩ 1 1 [x] rfl t f (by unfold maxLen;omega) (by
  have:(n+1)*k<=(n+1)*1000:=WJ _ q;omega) (by omega)
 have F:=pJ (c:=1) s w y B (by omega) ho (yAW (P:=prog) (size:=1) (W.alloc (.cells #[x] e)) s ⟨W.heap.size,0,none⟩ 1 1 [x] rfl t f) (by omega) A;refine⟨d,W',A,I,m.os,m.tape,m.output,by have:=m.size;omega,λg l hv=>?_,?_⟩
 ·rw[m.block g (by omega) (λh=>hv h.symm),p.block g l]
 ·rcases F with h|⟨h,o⟩
  ·exact Ub h
  ·refine T8 ⟨⟨_,h,by omega⟩,λg l=>?_⟩;rw[o.block g (by omega),p.block g l]
def TyQ(W:TA)(L g:Nat):Prop:=g<W.heap.size/\(g<L\/∃cur,W.heap[g]? = some (.cells cur 5 (0,0)))
theorem TyQ.keep{W W':TA}{L g:Nat}(h:TyQ W L g)(k:W.heap.size<=W'.heap.size)(e:W'.heap[g]? = W.heap[g]?):TyQ W' L g:=⟨TF h.1 k,by rw[e];exact h.2⟩
theorem BW{W W':TA}{k:Nat}{b:SP.Bs}(h:Holds SP.encB W k 0 b)(e:W'.heap[k]? = W.heap[k]?):Holds SP.encB W' k 0 b:=λj c=>by
 rw[Ua (a:=⟨k,0+j,none⟩) e,UY (a:=⟨k,0+j,none⟩) e];exact h j c
def OwQ(W:TA)(L B:Nat)(v:TC)(b:SP.Bs):Prop:=W.ownsRow B 5 1 v b.size (bC b)\/∃g,v=.slice (some (aZ g)) b.size b.size/\B<=g/\g<L/\g<W.heap.size/\Holds SP.encB W g 0 b
theorem OwQ.keep{W W':TA}{L B:Nat}{v:TC}{b:SP.Bs}(h:OwQ W L B v b)(i:W.heap.size<=W'.heap.size)(k:∀g,v.ownBlock=some g->W'.heap[g]? = W.heap[g]?):OwQ W' L B v b:=by
 rcases h with h|⟨g,rfl,d,e,c,f⟩
 ·exact Ub (bE h k)
 ·exact T8 ⟨g,rfl,d,e,TF c i,BW f (k g rfl)⟩
theorem OwQ.lt{W:TA}{L B g:Nat}{v:TC}{b:SP.Bs}(h:OwQ W L B v b)(d:v.ownBlock=some g):B<=g/\TyQ W L g:=by
 rcases h with h|⟨f,rfl,k,c,e,j⟩
 ·obtain⟨i,k,c⟩:=cN h d;exact⟨i,k,T8 c⟩
 ·obtain rfl:f=g:=Uc.inj d;exact⟨k,e,Ub c⟩
theorem Do{W:TA}{B g c:Nat}{b:SP.Bs}(h:W.ownsRow B 5 1 (.slice (some (aZ g)) b.size c) b.size (bC b)):Holds SP.encB W g 0 b:=λk e=>by
 obtain⟨-,-,cur,f⟩:=cN h (g:=g) rfl;refine⟨?_,by simp[ZR,f]⟩;have d:=h.cells (g:=g) rfl k (SP.encB b[k]!) (by
  unfold bC;rw[UX,TZ (by simpa using e),XK,getElem!_pos b k e];simp)
 rw[mF]at d;exact d
theorem OwQ.set{W:TA}{L B g c k:Nat}{b:SP.Bs}{x:UInt8}(h:OwQ W L B (.slice (some (aZ g)) b.size c) b)(p:k<b.size):OwQ (W.setCell ⟨g,k,none⟩ (SP.encB x)) L B (.slice (some (aZ g)) b.size c) (b.setIfInBounds k x):=by
 unfold OwQ;rw[Up];rcases h with h|⟨o,e,m,n,l,i⟩
 ·left;have:=(h.stored k (SP.encB x)).1;have e:bC (b.setIfInBounds k x)=(bC b).set k (SP.encB x):=by unfold bC;rw[Array.toList_setIfInBounds,List.map_set]
  rw[e];exact this
 ·right;simp only[Value.slice.injEq,Uc.injEq,Addr.mk.injEq,and_true,true_and]at e;obtain⟨rfl,rfl⟩:=e;refine⟨g,rfl,m,n,by rw[World.size_setCell];exact l,λj d=>?_⟩;rw[Up]at d;have f:=i j d;rw[TO]at f⊢;rw[World.frozen?_setCell];refine⟨?_,f.2⟩;rw[getElem!_pos (b.setIfInBounds k x) j (by rw[Up];exact d),Array.getElem_setIfInBounds d];by_cases e:k=j
  ·subst e;rw[yB3 rfl];exact World.cell?_setCell_same _ _ _ f.1
  ·rw[yB4 e,World.cell?_setCell_other _ _ _ _ (by intro x;injection x with _ x _;exact e x)];rw[<-getElem!_pos b j d];exact f.1
theorem Hm:prog.underlying 23=some (.slice 5):=by kernel_rfl
theorem OwQ.app{W:TA}{L B:Nat}{v:TC}{b:SP.Bs}{x:UInt8}(h:OwQ W L B v b)(G:b.size<=100000000)(I:B<=W.heap.size):
 ∃k W',(Ur #[23,23] 23 #[v,.slice (some ⟨W.heap.size,0,none⟩) 1 1]).run prog (W.alloc (.cells #[SP.encB x] 5))=.ok k W'/\OwQ W' L B k (b++#[x])/\Ap1 W W' v k:=by
 have r:(b++#[x]).size=b.size+1:=by rw[UA];rfl
 have D:bC (b++#[x])=bC b++[SP.encB x]:=by rw[P6];rfl
 rcases h with h|⟨g,rfl,T,U,H,F⟩
 ·obtain⟨k,W',n,l,d⟩:=vW Hm I8 (by omega) h (x:=SP.encB x) rfl G I;refine⟨k,W',n,Ub ?_,d⟩;rw[r,D];exact l
 ·obtain⟨i,M,t⟩:=TJ.1 I8;simp only[Vz.injEq]at t;obtain⟨E,K,N⟩:=t;obtain⟨z,O,o⟩:=TJ.1 N;have s:=bU W (.cells #[SP.encB x] 5);have Q:(W.alloc (.cells #[SP.encB x] 5)).heap.size=W.heap.size+1:=TQ _ _;obtain⟨k,W',n,l,d⟩:=run_append_arg_grows (P:=prog) (W.alloc (.cells #[SP.encB x] 5)) 23 23 5 i z 1 1 Hm M O E K o (by decide) ⟨g,0,none⟩ b.size b.size (bC b) (by rw[JX,Nat.mul_one]) (λj u f=>by
   have c:j<b.size:=by have:=(T9.1 f).1;rw[JX]at this;exact this
   have e:u=SP.encB b[j]!:=by
    unfold bC at f;rw[UX,TZ (by simpa using c),XK]at f;rw[<-Uc.inj f,getElem!_pos b j c];simp
   rw[mF,Ua (a:=⟨g,0+j,none⟩) (s.block g H),e];exact(F j c).1) ⟨W.heap.size,0,none⟩ 1 1 [SP.encB x] rfl (λj u f=>by
   rw[mF,TO];exact iC W _ _ j u (by simpa using f)) (by omega) (by unfold maxLen;omega) (by omega)
  have hv:∃c,k.ownBlock=some c/\(W.alloc (.cells #[SP.encB x] 5)).heap.size<=c:=by
   rcases l.2 with⟨-,p⟩|⟨c,cap,cur,rfl,m,-⟩
   ·omega
   ·exact⟨c,rfl,m⟩
  obtain⟨c,q,J⟩:=hv;have C:∀y,y<W.heap.size->W'.heap[y]? = W.heap[y]?:=λy p=>by rw[d.block y (by omega) (by simp),s.block y p]
  refine⟨k,W',n,Ub ?_,d.os,d.tape,d.output,by have:=d.size;omega,λy p _=>C y p,T8 ⟨⟨c,q,by omega⟩,C⟩⟩;rw[r,D];rcases l with⟨w,m|⟨y,cap,cur,m,S,R⟩⟩
  ·exact⟨w,Ub m⟩
  ·exact⟨w,T8 ⟨y,cap,cur,m,by omega,R⟩⟩
def RV(W:TA)(L:Nat)(v:TC)(b:SP.Bs):Prop:=(b.size=0/\v=.slice none 0 0)\/∃g c,v=.slice (some (aZ g)) b.size c/\TyQ W L g/\Holds SP.encB W g 0 b
theorem RV.keep{W W':TA}{L:Nat}{v:TC}{b:SP.Bs}(h:RV W L v b)(f:W.heap.size<=W'.heap.size)(k:∀g,v.ownBlock=some g->W'.heap[g]? = W.heap[g]?):RV W' L v b:=by
 rcases h with h|⟨g,c,rfl,e,d⟩
 ·exact Ub h
 ·exact T8 ⟨g,c,rfl,e.keep f (k g rfl),BW d (k g rfl)⟩
theorem RV.of{W:TA}{L B:Nat}{v:TC}{b:SP.Bs}(h:OwQ W L B v b):RV W L v b:=by
 rcases h with h|⟨g,rfl,d,k,c,f⟩
 ·rcases id h with⟨i,⟨rfl,e⟩|⟨g,cap,cur,rfl,d,k,c⟩⟩
  ·exact Ub ⟨e,rfl⟩
  ·exact T8 ⟨g,cap,rfl,⟨(cN h rfl).2.1,T8 ⟨cur,k⟩⟩,Do h⟩
 ·exact T8 ⟨g,b.size,rfl,⟨c,Ub k⟩,f⟩
theorem RV.slice{W:TA}{L:Nat}{v:TC}{b:SP.Bs}(h:RV W L v b):∃q c,v=.slice q b.size c:=by
 rcases h with⟨h,rfl⟩|⟨g,c,rfl,-⟩
 ·exact⟨none,0,by rw[h]⟩
 ·exact⟨_,_,rfl⟩
theorem RV.at{W:TA}{L:Nat}{v:TC}{b:SP.Bs}(h:RV W L v b){k:Nat}(e:k<b.size):∃g c,v=.slice (some (aZ g)) b.size c/\W.cell? ⟨g,k,none⟩=some (SP.encB b[k]!)/\W.frozen? ⟨g,k,none⟩=false:=by
 rcases h with⟨h,-⟩|⟨g,c,rfl,-,d⟩
 ·omega
 ·have:=d k e;rw[TO]at this;exact⟨g,c,rfl,this⟩
theorem RV.pt{W:TA}{L:Nat}{v:TC}{b:SP.Bs}(h:RV W L v b):Pt W v b:=by
 rcases h with⟨k,rfl⟩|⟨g,c,rfl,k,d⟩
 ·exact⟨none,0,by rw[k],Ub k⟩
 ·exact⟨_,_,rfl,T8 ⟨g,0,rfl,k.1,d⟩⟩
theorem Am{W:TA}{g:Nat}{b x:SP.Bs}(h:Holds SP.encB W g 0 (b++x)):Holds SP.encB W g 0 b:=λj k=>by
 have:=h j (by rw[UA];omega);rw[getElem!_pos (b++x) j (by rw[UA];omega),Array.getElem_append_left k,<-getElem!_pos b j k]at this;exact this
theorem RV.typ{W:TA}{L:Nat}{v:TC}{b:SP.Bs}{g:Nat}(h:RV W L v b)(k:v.ownBlock=some g):TyQ W L g:=by
 rcases h with⟨-,rfl⟩|⟨d,c,rfl,e,-⟩
 ·cases k
 ·obtain rfl:d=g:=Uc.inj k;exact e
theorem TyQ.ne{W:TA}{L g b:Nat}{cur:Array TC}{t:Uw}(h:TyQ W L g)(f:L<=b)(d:W.heap[b]? = some (.cells cur t (0,0)))(e:t≠5):b≠g:=by
 rintro rfl;rcases h.2 with k|⟨c,k⟩
 ·omega
 ·rw[d]at k;injection k with k
  injection k with _ k _
  exact e k
theorem uK{base n ga:Nat}{W:TA}{v x:TC}{xs:List TC}(k:W.ownsRow base 23 1 v n xs)(F:x.oneCell'=true)(b:W.cell? ⟨ga,0,none⟩=some x)(I:n<=1000)(D:base<=W.heap.size):
 ∃d W',(Ur #[24,24] 24 #[v,.slice (some (aZ ga)) 1 1]).run prog W=.ok d W'/\W'.ownsRow base 23 1 d (n+1) (xs++[x])/\Ap1 W W' v d:=by
 obtain⟨i,s,w⟩:=TJ.1 DC;simp only[Vz.injEq]at w;obtain⟨A,C,G⟩:=w;obtain⟨z,t,o⟩:=TJ.1 G;have q:∀(j:Nat) u,[x][j]? = some u->W.cell? ((⟨ga,0,none⟩:V5).add j)=some u:=λj u r=>by
  rw[mF,TO];have e:j=0:=by have:=(T9.1 r).1;simp at this;omega
  subst e;obtain rfl:x=u:=by simpa using r
  exact b
 have e:∀u∈[x],u.oneCell'=true:=λu B=>by
  obtain rfl:u=x:=by simpa using B
  exact F
 obtain⟨d,W',y,H,f,-⟩:=YS (P:=prog) W base 24 24 23 i z 1 24 uQ s t A C o dC v n xs k (aZ ga) 1 1 [x] rfl q e (by unfold maxLen;omega) oM D;have E:=pJ (c:=1) uQ s t A oM k (yAW (P:=prog) (size:=1) W uQ (aZ ga) 1 1 [x] rfl q e) oM y;refine⟨d,W',y,H,f.os,f.tape,f.output,f.size,λg p hv=>f.block g p (λh=>hv h.symm),?_⟩;rcases E with h|⟨h,m⟩
 ·exact Ub h
 ·exact T8 ⟨⟨_,h,TG _⟩,λg p=>m.block g p⟩
section
variable {Q Q':Nat->Prop}{W:TA}{v:TC}{n:Nat}
theorem SmQ.mono2{l:List (Nat × Bs)}(h:SmQ Q W v l)(i:∀g,g<W.heap.size->Q g->Q' g):SmQ Q' W v l:=by
 obtain⟨g,c,e,b,d,k,f⟩:=h;exact⟨g,c,e,b,i g k d,k,f⟩
theorem SLq.mono2{a:Nat->Nat}(h:SLq Q W v n a)(i:∀g,g<W.heap.size->Q g->Q' g):SLq Q' W v n a:=by
 obtain⟨g,o,c,e,b,d,k,f⟩:=h;exact⟨g,o,c,e,b,i g k d,k,f⟩
theorem GLq.mono2{T:Nat->List (Nat × Bs)}(h:GLq Q W v n T)(b:∀g,g<W.heap.size->Q g->Q' g):GLq Q' W v n T:=by
 obtain⟨g,o,c,l,d,f,k,p⟩:=h;refine⟨g,o,c,l,d,b g k f,k,λj e=>?_⟩;obtain⟨x,m,i⟩:=p j e;exact⟨x,m,i.mono2 b⟩
theorem GRq.mono2{G H:Nat->List (Nat × Bs)}{U:List (Nat × Bs)}(h:GRq Q W v n G H U)(k:∀g,g<W.heap.size->Q g->Q' g):GRq Q' W v n G H U:=by
 obtain⟨c,f,j,i,d,e,b⟩:=h.ex;exact⟨c,f,j,i,d.mono2 k,e.mono2 k,b.mono2 k⟩
end
def ElQ(Q:Nat->Prop)(m:Nat)(W:TA)(x:TC)(b:Bs):Prop:=∃k c,x=.slice (some (aZ k)) m c/\m<=c/\b.size=m/\Q k/\k<W.heap.size/\Holds encB W k 0 b
section
variable {Q Q':Nat->Prop}{W W':TA}{x:TC}{m:Nat}{b:Bs}
theorem ElQ.keep(h:ElQ Q m W x b)(f:Kq Q W W'):ElQ Q m W' x b:=by
 obtain⟨k,c,o,i,n,d,g,p⟩:=h;refine⟨k,c,o,i,n,d,TF g f.size,λj l=>?_⟩;have e:=f.block k d g;rw[Ua (a:=⟨k,0+j,none⟩) e,UY (a:=⟨k,0+j,none⟩) e];exact p j l
theorem ElQ.mono2(h:ElQ Q m W x b)(n:∀g,g<W.heap.size->Q g->Q' g):ElQ Q' m W x b:=by
 obtain⟨k,c,j,f,i,e,d,l⟩:=h;exact⟨k,c,j,f,i,n k d e,d,l⟩
theorem ElQ.one(h:ElQ Q m W x b):x.cells=#[x]/\x.oneCell'=true:=by
 obtain⟨k,c,rfl,-⟩:=h;exact⟨rfl,rfl⟩
end
def r33(g:Nat):TC:=.slice (some (aZ g)) 33 33
def r32(g:Nat):TC:=.slice (some (aZ g)) 32 32
theorem pC{a:Bs}(j:a.size=33)(w:TA):TW prog 16 #[pvl a] w (rZ w λe w'=>ElQ (w.heap.size<=·) 33 w' e a/\∃g,e=r33 g):=by
 have d:=Hid.mk' (xJ j w);obtain⟨b,k⟩:∃b,Hid (w.alloc (.cells (aA a).toArray 55)=b):=⟨_,rfl⟩
 rw[k.out]at d;have K:Hid (Row b w.heap.size (aA a)/\Below w.heap.size w b):=by rw[<-k.out];exact⟨aE w _ _,aD w _⟩
 obtain⟨i,c⟩:∃v,Hid (pvl a=v):=⟨_,rfl⟩
 have f:Hid ((U6 55 i).run prog w=.ok (.pointer (some ⟨w.heap.size,0,none⟩)) b):=by rw[<-c.out];exact d
 rw[c.out];have l:=Qz w.heap.size;clear d k;go_enter func16,ntmps16;go_wp2_with (first|(refine aM (u:=i) (v:=.pointer (some ⟨w.heap.size,0,none⟩)) (w':=b) rfl 55 (.tmp 0) rfl ?_ ?_ ?_;rfl;exact f.out))
 go_ret;exact⟨_,rfl,K.2,⟨w.heap.size,33,rfl,oM,j,TG _,K.1.1,row_holds K.1⟩,_,rfl⟩
structure TlL(Q:Nat->Prop)(base i:Nat)(W:TA)(v:TC)(B:Nat->Bs):Prop where
 ex:∃xs,W.ownsRow base 23 1 v i xs/\∀j,j<i->∃x,xs[j]? = some x/\ElQ Q 33 W x (B j)
def QH(r k:Nat)(c b:TC)(g:Nat):Prop:=g≠r/\(g<k\/k+4<=g)/\c.ownBlock≠some g/\b.ownBlock≠some g
def Dj(W:TA)(B i j:Nat)(v u:TC):Prop:=∃l m:List Nat,(l++m).Nodup/\W.ownsRow 0 23 1 v i (l.map r33)/\W.ownsRow 0 23 1 u j (m.map r33)/\∀g,g∈l++m->B<=g/\g<W.heap.size
theorem O4{l m:List Nat}{g:Nat}(h:(l++m).Nodup)(k:g ∉ l++m):(l++[g]++m).Nodup:=by
 simp only[yAE,WA,not_or,XA,Wy,Ud,not_false_eq_true,yBg,and_true,true_and]at *;grind
theorem Mf{l m:List Nat}(h:(l++m).Nodup):(m++l).Nodup:=by
 simp only[yAE]at *;grind
theorem m6{W:TA}{b e n:Nat}{T:Uw}{v:TC}{xs ys:List TC}(k:W.ownsRow b T 1 v n xs)(c:W.ownsRow e T 1 v n ys):xs=ys:=by
 have l:=k.1;have o:=c.1;rcases id k with⟨-,⟨-,i⟩|⟨g,cap,cur,rfl,-⟩⟩
 ·subst i;rw[Zu (by omega:xs.length=0),Zu (by omega:ys.length=0)]
 ·refine List.ext_getElem? λj=>?_
  by_cases m:j<n
  ·have f:=k.cells (g:=g) rfl j xs[j] (TZ oM);have d:=c.cells (g:=g) rfl j ys[j] (TZ oM);rw[f]at d;rw[TZ (by omega:j<xs.length),TZ (by omega:j<ys.length)];exact d
  ·rw[VW oM,VW oM]
section
variable {W W' W1:TA}{B i j:Nat}{v u:TC}
theorem Dj.keep(h:Dj W B i j v u)(n:W.heap.size<=W'.heap.size)(hv:∀g,v.ownBlock=some g->W'.heap[g]? = W.heap[g]?)(c:∀g,u.ownBlock=some g->W'.heap[g]? = W.heap[g]?):Dj W' B i j v u:=by
 obtain⟨l,m,f,d,e,k⟩:=h;exact⟨l,m,f,bE d hv,bE e c,λg b=>⟨(k g b).1,TF (k g b).2 n⟩⟩
theorem Dj.swap(h:Dj W B i j v u):Dj W B j i u v:=by
 obtain⟨l,m,e,c,d,b⟩:=h;exact⟨m,l,Mf e,d,c,λg k=>b g (by rw[WA]at k⊢;exact k.symm)⟩
theorem Dj.app{g:Nat}{q:TC}{xs:List TC}{b:Nat}(h:Dj W B i j v u)(s:B<=g/\W.heap.size<=g/\g<W'.heap.size)(w:W.heap.size<=W'.heap.size)(x:W1.ownsRow b 23 1 v i xs)(hv:∀g,v.ownBlock=some g->W1.heap[g]? = W.heap[g]?)(t:∀g,u.ownBlock=some g->W'.heap[g]? = W.heap[g]?)(r:W'.ownsRow b 23 1 q (i+1) (xs++[r33 g])):Dj W' B (i+1) j q u:=by
 obtain⟨l,m,c,o,k,n⟩:=h;rw[m6 x (bE o hv)]at r;refine⟨l++[g],m,O4 c λe=>by have:=(n g e).2;omega,?_,bE k t,λp d=>?_⟩
 ·rw[List.map_append];rcases r with⟨f,c|⟨g,cap,cur,rfl,o,k⟩⟩
  ·exact⟨f,Ub c⟩
  ·exact⟨f,T8 ⟨g,cap,cur,rfl,VH _,k⟩⟩
 ·by_cases e:p=g
  ·rw[e];exact⟨s.1,s.2.2⟩
  ·have f:=n p (by simp only[WA,XA]at d⊢;grind);exact⟨f.1,TF f.2 w⟩
end
def R3(W:TA)(K:Nat)(x y:TC):Prop:=K<W.heap.size/\∃k,k.length=2/\Row W K (x :: y :: k)
theorem R3.same{W W':TA}{K:Nat}{x y:TC}(h:R3 W K x y)(k:W.heap.size<=W'.heap.size)(e:W'.heap[K]? = W.heap[K]?):R3 W' K x y:=by
 obtain⟨d,f,b,c⟩:=h;exact⟨TF d k,f,b,aN c k e⟩
structure Ph(w W:TA)(r k iL iR n:Nat)(cL cR vL vR v va vb:TC)(Lb Rb:Nat->Bs)(L:Bs)(a b:Nat->Nat)(G H:Nat->List (Nat × Bs))(U:List (Nat × Bs)):Prop where
 on:SP.Only r 0 32 w W
 rk:r<k
 wk:w.heap.size=k
 r0:Row W k [pZ r]
 r1:∃e:Array TC,v=.agg e/\e.size=3/\e.all (·.oneCell')=true/\Row W (k+1) e.toList
 r2:Row W (k+2) [.slice none 0 0,.slice none 0 0,.slice none 0 0,.slice none 0 0]
 r3:R3 W (k+3) cL cR
 tL:TlL (QH r k vL vR) (k+4) iL W vL Lb
 tR:TlL (QH r k vL vR) (k+4) iR W vR Rb
 ne:∀g,vL.ownBlock=some g->vR.ownBlock≠some g
 la:SLq (QH r k vL vR) W va n a
 lb:SLq (QH r k vL vR) W vb n b
 gr:GRq (QH r k vL vR) W v n G H U
 lg:Holds encB W r 0 L
 ls:L.size=32
 dj:Dj W (k+4) iL iR vL vR
section
variable {w W W' W1:TA}{r k iL iR n:Nat}{cL cR vL vR v va vb:TC}{Lb Rb:Nat->Bs}{L:Bs}{a b:Nat->Nat}{G H:Nat->List (Nat × Bs)}{U:List (Nat × Bs)}
theorem TlL.lt{Q:Nat->Prop}{base i:Nat}{B:Nat->Bs}(h:TlL Q base i W v B){g:Nat}(k:v.ownBlock=some g):base<=g/\g<W.heap.size:=by
 obtain⟨xs,b,-⟩:=h.ex;have:=cN b k;exact⟨this.1,this.2.1⟩
theorem TlL.keep{Q:Nat->Prop}{base i:Nat}{B:Nat->Bs}(h:TlL Q base i W v B)(f:Kq Q W W')(ho:∀g,v.ownBlock=some g->W'.heap[g]? = W.heap[g]?):TlL Q base i W' v B:=by
 obtain⟨xs,e,c⟩:=h.ex;refine⟨xs,bE e ho,λj b=>?_⟩;obtain⟨x,d,k⟩:=c j b;exact⟨x,d,k.keep f⟩
theorem TlL.mono2{Q Q':Nat->Prop}{base i:Nat}{B:Nat->Bs}(h:TlL Q base i W v B)(f:∀g,g<W.heap.size->Q g->Q' g):TlL Q' base i W v B:=by
 obtain⟨xs,e,c⟩:=h.ex;refine⟨xs,e,λj b=>?_⟩;obtain⟨x,d,k⟩:=c j b;exact⟨x,d,k.mono2 f⟩
theorem Ph.qn(h:Ph w W r k iL iR n cL cR vL vR v va vb Lb Rb L a b G H U):∀g,W.heap.size<=g->QH r k vL vR g:=λg c =>
 ⟨by have:=h.rk;have:=h.r0.1;omega,T8 (by have:=h.r3.1;omega),λe=>by have:=h.tL.lt e;omega,λe=>by have:=h.tR.lt e;omega⟩
theorem Ph.any(h:Ph w W r k iL iR n cL cR vL vR v va vb Lb Rb L a b G H U)(o:SP.Only r 0 32 w W')(c:Kq (QH r k vL vR) W W')(d:∀g,k<=g->g<k+4->W'.heap[g]? = W.heap[g]?)(l:∀g,vL.ownBlock=some g->W'.heap[g]? = W.heap[g]?)(j:∀g,vR.ownBlock=some g->W'.heap[g]? = W.heap[g]?){i:Bs}(s:Holds encB W' r 0 i)(f:i.size=32):Ph w W' r k iL iR n cL cR vL vR v va vb Lb Rb i a b G H U:=by
 obtain⟨e,m,p,e3,q⟩:=h.r1;exact⟨o,h.rk,h.wk,aN h.r0 c.size (d k oM oM),⟨e,m,p,e3,aN q c.size (d _ oM oM)⟩,aN h.r2 c.size (d _ oM oM),h.r3.same c.size (d _ oM oM),h.tL.keep c l,h.tR.keep c j,h.ne,h.la.keep c,h.lb.keep c,h.gr.keep c,s,f,h.dj.keep c.size l j⟩
theorem Ph.grow(h:Ph w W r k iL iR n cL cR vL vR v va vb Lb Rb L a b G H U)(c:Below W.heap.size W W'):Ph w W' r k iL iR n cL cR vL vR v va vb Lb Rb L a b G H U:=by
 have e:=Holds.lt h.lg (by rw[h.ls];decide);exact h.any (h.on.trans (SP.Only.of_below c rfl e)) (Kq.of_below c) (λg i f=>c.block g (by have:=h.r3.1;omega)) (λg d=>c.block g (h.tL.lt d).2) (λg d=>c.block g (h.tR.lt d).2) (Holds.below h.lg c e) h.ls
theorem Ph.drew(h:Ph w W r k iL iR n cL cR vL vR v va vb Lb Rb L a b G H U):Ph w W.drew r k iL iR n cL cR vL vR v va vb Lb Rb L a b G H U:=h.grow ⟨rfl,rfl,rfl,TG _,λ_ _=>rfl⟩
theorem Ph.say{e:Bs}(h:Ph w W r k iL iR n cL cR vL vR v va vb Lb Rb L a b G H U)(d:SP.Only r 0 32 W W')(j:Holds encB W' r 0 e)(i:e.size=32):Ph w W' r k iL iR n cL cR vL vR v va vb Lb Rb e a b G H U:=by
 have f:=h.rk;exact h.any (h.on.trans d) (Kq.of_only d λg c=>c.1) (λg m l=>d.block g (by have:=h.r3.1;omega) oM) (λg c=>d.block g (h.tL.lt c).2 (by have:=(h.tL.lt c).1;omega)) (λg c=>d.block g (h.tR.lt c).2 (by have:=(h.tR.lt c).1;omega)) j i
theorem FI{i n:TC}{k:Nat}(b:SP.Only r 0 32 w W)(c:Ap1 W W' i n)(q:w.heap.size=k)(m:r<k)(hv:∀g,i.ownBlock=some g->k+4<=g):SP.Only r 0 32 w W':=by
 have p:=b.size;have d:∀j,j<k->W'.heap[j]? = W.heap[j]?:=λj l=>c.keep j oM λe=>by have:=hv j e;omega
 exact⟨c.os.trans b.os,c.tape.trans b.tape,c.output.trans b.output,TU b.size c.size,λj l f=>(d j oM).trans (b.block j l f),λo ho=>by rw[Ua (a:=⟨r,o,none⟩) (d r m)];exact b.cell o ho,λo=>by rw[UY (a:=⟨r,o,none⟩) (d r m)];exact b.froz o⟩
theorem lF{W W':TA}{r:Nat}{L:Bs}(h:Holds encB W r 0 L)(e:W'.heap[r]? = W.heap[r]?):Holds encB W' r 0 L:=λj k=>by
 rw[Ua (a:=⟨r,0+j,none⟩) e,UY (a:=⟨r,0+j,none⟩) e];exact h j k
theorem TlL.app{Q Q':Nat->Prop}{base i:Nat}{B:Nat->Bs}{d x:TC}{xs:List TC}(b:∀j,j<i->∃x,xs[j]? = some x/\ElQ Q 33 W x (B j))(k:xs.length=i)(ho:W'.ownsRow base 23 1 d (i+1) (xs++[x]))(m:ElQ Q 33 W x (B i))(f:∀g,g<W.heap.size->Q g->Q' g)(c:Kq Q' W W'):TlL Q' base (i+1) W' d B:=by
 refine⟨_,ho,λj o=>?_⟩;by_cases e:j=i
 ·subst e;exact⟨x,by rw[U1 oM,k];simp,(m.mono2 f).keep c⟩
 ·obtain⟨y,n,l⟩:=b j oM;exact⟨y,by rw[UB oM];exact n,(l.mono2 f).keep c⟩
theorem Ph.appL{ga gx:Nat}(l:Ph w W1 r k iL iR n cL cR vL vR v va vb Lb Rb L a b G H U)(i:Below W1.heap.size W1 W)(p:ElQ (W1.heap.size<=·) 33 W (r33 gx) (Lb iL))(y:W.cell? ⟨ga,0,none⟩=some (r33 gx))(S:iL<=900):
 ∃j W',(Ur #[24,24] 24 #[vL,.slice (some (aZ ga)) 1 1]).run prog W=.ok j W'/\Ph w W' r k (iL+1) iR n cL cR j vR v va vb Lb Rb L a b G H U/\Ap1 W W' vL j:=by
 have h:=l.grow i;have u:ElQ (QH r k vL vR) 33 W (r33 gx) (Lb iL):=p.mono2 λg _ c=>l.qn g c
 obtain⟨xs,t,D⟩:=h.tL.ex;obtain⟨j,W',N,x,A⟩:=uK t u.one.2 y oM (by have:=h.r3.1;omega);have s:∀g,g<W.heap.size->QH r k vL vR g->QH r k j vR g:=λg c q=>⟨q.1,q.2.1,λe=>by
  rcases A.mv with m|⟨⟨F,m,z⟩,-⟩
  ·rw[m]at e;exact q.2.2.1 e
  ·rw[m]at e;have:=Uc.inj e;omega,q.2.2.2⟩
 have o:Kq (QH r k j vR) W W':=⟨A.size,λg q c=>by
  rcases A.mv with m|⟨-,m⟩
  ·exact A.keep g c (by rw[<-m];exact q.2.2.1)
  ·exact m g c⟩
 have d:∀g,vL.ownBlock=some g->k+4<=g:=λg c=>(h.tL.lt c).1
 have J:=h.on.size;have E:=h.wk;have K:=h.rk;have f:∀g,k<=g->g<k+4->W'.heap[g]? = W.heap[g]?:=λg Q R=>A.keep g (by have:=h.r3.1;omega) λe=>by have:=d g e;omega
 obtain⟨e,B,P,e3,I⟩:=h.r1;refine⟨j,W',N,⟨FI h.on A h.wk h.rk d,h.rk,h.wk,aN h.r0 A.size (f k oM oM),⟨e,B,P,e3,aN I A.size (f _ oM oM)⟩,aN h.r2 A.size (f _ oM oM),h.r3.same A.size (f _ oM oM),TlL.app D (by have:=t.1;omega) x u s o,(h.tR.mono2 s).keep o λg c=>A.keep g (h.tR.lt c).2 λe=>h.ne g e c,λg c e=>?_,(h.la.mono2 s).keep o,(h.lb.mono2 s).keep o,(h.gr.mono2 s).keep o,lF h.lg (A.keep r oM λe=>by have:=d r e;omega),h.ls,(by
  obtain⟨O,T,e,-,-,C,M,-⟩:=p;have e:=congrArg VO e;obtain rfl:gx=O:=Uc.inj e;exact(l.dj.app ⟨by have:=l.r3.1;omega,C,TF M A.size⟩ (TU i.size A.size) t (λg c=>i.block g (l.tL.lt c).2) (λg c=>(A.keep g (h.tR.lt c).2 λe=>h.ne g e c).trans (i.block g (l.tR.lt c).2)) x))⟩,A⟩
 rcases A.mv with m|⟨⟨F,m,z⟩,-⟩
 ·rw[m]at c;exact h.ne g c e
 ·rw[m]at c;have:=Uc.inj c;have:=(h.tR.lt e).2;omega
theorem Ph.appR{ga gx:Nat}(l:Ph w W1 r k iL iR n cL cR vL vR v va vb Lb Rb L a b G H U)(i:Below W1.heap.size W1 W)(p:ElQ (W1.heap.size<=·) 33 W (r33 gx) (Rb iR))(y:W.cell? ⟨ga,0,none⟩=some (r33 gx))(S:iR<=900):
 ∃j W',(Ur #[24,24] 24 #[vR,.slice (some (aZ ga)) 1 1]).run prog W=.ok j W'/\Ph w W' r k iL (iR+1) n cL cR vL j v va vb Lb Rb L a b G H U/\Ap1 W W' vR j:=by
 have h:=l.grow i;have u:ElQ (QH r k vL vR) 33 W (r33 gx) (Rb iR):=p.mono2 λg _ c=>l.qn g c
 obtain⟨xs,t,D⟩:=h.tR.ex;obtain⟨j,W',N,x,A⟩:=uK t u.one.2 y oM (by have:=h.r3.1;omega);have s:∀g,g<W.heap.size->QH r k vL vR g->QH r k vL j g:=λg c q=>⟨q.1,q.2.1,q.2.2.1,λe=>by
  rcases A.mv with m|⟨⟨F,m,z⟩,-⟩
  ·rw[m]at e;exact q.2.2.2 e
  ·rw[m]at e;have:=Uc.inj e;omega⟩
 have o:Kq (QH r k vL j) W W':=⟨A.size,λg q c=>by
  rcases A.mv with m|⟨-,m⟩
  ·exact A.keep g c (by rw[<-m];exact q.2.2.2)
  ·exact m g c⟩
 have d:∀g,vR.ownBlock=some g->k+4<=g:=λg c=>(h.tR.lt c).1
 have J:=h.on.size;have E:=h.wk;have K:=h.rk;have f:∀g,k<=g->g<k+4->W'.heap[g]? = W.heap[g]?:=λg Q R=>A.keep g (by have:=h.r3.1;omega) λe=>by have:=d g e;omega
 obtain⟨e,B,P,e3,I⟩:=h.r1;refine⟨j,W',N,⟨FI h.on A h.wk h.rk d,h.rk,h.wk,aN h.r0 A.size (f k oM oM),⟨e,B,P,e3,aN I A.size (f _ oM oM)⟩,aN h.r2 A.size (f _ oM oM),h.r3.same A.size (f _ oM oM),(h.tL.mono2 s).keep o λg c=>A.keep g (h.tL.lt c).2 λe=>h.ne g c e,TlL.app D (by have:=t.1;omega) x u s o,λg c e=>?_,(h.la.mono2 s).keep o,(h.lb.mono2 s).keep o,(h.gr.mono2 s).keep o,lF h.lg (A.keep r oM λe=>by have:=d r e;omega),h.ls,(by
  obtain⟨O,T,e,-,-,C,M,-⟩:=p;have e:=congrArg VO e;obtain rfl:gx=O:=Uc.inj e;exact(l.dj.swap.app ⟨by have:=l.r3.1;omega,C,TF M A.size⟩ (TU i.size A.size) t (λg c=>i.block g (l.tR.lt c).2) (λg c=>(A.keep g (h.tL.lt c).2 λe=>h.ne g c e).trans (i.block g (l.tL.lt c).2)) x).swap)⟩,A⟩
 rcases A.mv with m|⟨⟨F,m,z⟩,-⟩
 ·rw[m]at e;exact h.ne g c e
 ·rw[m]at e;have:=Uc.inj e;have:=(h.tL.lt c).2;omega
theorem iN{W:TA}{K o:Nat}{vs:List TC}{x:TC}(h:Row W K vs)(ho:o<vs.length):Row (W.setCells K o [x]) K (vs.set o x):=by
 have c:W.there K o 1:=λt c=>by
  have k:t=0:=oM;subst k;have:=h.2.2 o ho;rwa[TO]at this
 refine⟨by rw[RG.setCells_size];exact h.1,λj u b=>?_,by rw[yA6];exact VM h.2.2 _ _ _⟩;rw[List.getElem?_set]at b;by_cases e:o=j
 ·subst e;rw[yB3 rfl,yB3 ho]at b;obtain rfl:x=u:=by simpa using b
  have:=World.rangeAt_setCells_same W K o [x] c 0 x rfl;rw[TO];exact this
 ·rw[yB4 e]at b;have f:W.rangeAt K j [u]:=λt y d=>by
   have k:t=0:=by have:=(T9.1 d).1;simp at this;omega
   subst k;obtain rfl:u=y:=by simpa using d
   have:=h.2.1 j u b;rw[TO]at this;exact this
  have:=UW f K o [x] (T8 (by simp;omega)) 0 u rfl;rw[TO];exact this
theorem mP{k K o:Nat}{vs:List TC}(h:SP.Only r 0 32 w W)(d:w.heap.size=k)(b:r<k)(c:k<=K):SP.Only r 0 32 w (W.setCells K o vs):=cE h oM oM _
theorem Ph.put(h:Ph w W r k iL iR n cL cR vL vR v va vb Lb Rb L a b G H U):Ph w ((W.setCells (k+3) 0 [vL]).setCells (k+3) 1 [vR]) r k iL iR n vL vR vL vR v va vb Lb Rb L a b G H U:=by
 have o:=h.rk;have c:∀g,g≠k+3->((W.setCells (k+3) 0 [vL]).setCells (k+3) 1 [vR]).heap[g]? = W.heap[g]?:=λg f=>(RG.aG (k+3) [vR] 1 _ g f).trans (RG.aG (k+3) [vL] 0 W g f)
 have d:W.heap.size<=((W.setCells (k+3) 0 [vL]).setCells (k+3) 1 [vR]).heap.size:=by rw[RG.setCells_size,RG.setCells_size];exact TG _
 have i:Kq (QH r k vL vR) W ((W.setCells (k+3) 0 [vL]).setCells (k+3) 1 [vR]):=⟨d,λg q _=>c g (by have:=q.2.1;omega)⟩
 obtain⟨e,m,t,e3,u⟩:=h.r1;exact⟨mP (mP h.on h.wk h.rk oM) h.wk h.rk oM,h.rk,h.wk,aN h.r0 d (c _ oM),⟨e,m,t,e3,aN u d (c _ oM)⟩,aN h.r2 d (c _ oM),(by
  obtain⟨p,s,j,l⟩:=h.r3;exact⟨TF p d,s,j,iN (iN l (Yz _)) (yA2 (Yz _))⟩),h.tL.keep i λg f=>c g (by have:=(h.tL.lt f).1;omega),h.tR.keep i λg f=>c g (by have:=(h.tR.lt f).1;omega),h.ne,h.la.keep i,h.lb.keep i,h.gr.keep i,lF h.lg (c r oM),h.ls,h.dj.keep d (λg f=>c g (by have:=(h.tL.lt f).1;omega)) (λg f=>c g (by have:=(h.tR.lt f).1;omega))⟩
theorem Ph.putA{o:Nat}{x:TC}(h:Ph w W r k iL iR n cL cR vL vR v va vb Lb Rb L a b G H U)(ho:o<2):Ph w (W.setCells (k+3) (o+2) [x]) r k iL iR n cL cR vL vR v va vb Lb Rb L a b G H U:=by
 have s:=h.rk;have c:∀g,g≠k+3->(W.setCells (k+3) (o+2) [x]).heap[g]? = W.heap[g]?:=λg f=>RG.aG (k+3) [x] _ _ g f
 have d:W.heap.size<=(W.setCells (k+3) (o+2) [x]).heap.size:=by rw[RG.setCells_size];exact TG _
 have i:Kq (QH r k vL vR) W (W.setCells (k+3) (o+2) [x]):=⟨d,λg q _=>c g (by have:=q.2.1;omega)⟩
 obtain⟨e,j,y,e3,m⟩:=h.r1;exact⟨mP h.on h.wk h.rk oM,h.rk,h.wk,aN h.r0 d (c _ oM),⟨e,j,y,e3,aN m d (c _ oM)⟩,aN h.r2 d (c _ oM),(by
  obtain⟨t,u,l,p⟩:=h.r3;exact⟨TF t d,u.set o x,by rw[yA6,l],iN (o:=o+2) p (by simp;omega)⟩),h.tL.keep i λg f=>c g (by have:=(h.tL.lt f).1;omega),h.tR.keep i λg f=>c g (by have:=(h.tR.lt f).1;omega),h.ne,h.la.keep i,h.lb.keep i,h.gr.keep i,lF h.lg (c r oM),h.ls,h.dj.keep d (λg f=>c g (by have:=(h.tL.lt f).1;omega)) (λg f=>c g (by have:=(h.tR.lt f).1;omega))⟩
theorem Ph.next{m:Nat}{j l:TC}{e':Array TC}{x u:Nat->Nat}{t p:Nat->List (Nat × Bs)}(h:Ph w W r k iL iR n cL cR vL vR v va vb Lb Rb L a b G H U)(B:SLq (QH r k vL vR) W j m x)(y:SLq (QH r k vL vR) W l m u)(d:GRq (QH r k vL vR) W (.agg e') m t p U):Ph w (W.setCells (k+1) 0 e'.toList) r k iL iR m cL cR vL vR (.agg e') j l Lb Rb L x u t p U:=by
 have A:=h.rk;have c:∀g,g≠k+1->(W.setCells (k+1) 0 e'.toList).heap[g]? = W.heap[g]?:=λg d=>RG.aG (k+1) _ 0 W g d
 have f:W.heap.size<=(W.setCells (k+1) 0 e'.toList).heap.size:=by rw[RG.setCells_size];exact TG _
 have i:Kq (QH r k vL vR) W (W.setCells (k+1) 0 e'.toList):=⟨f,λg q _=>c g (by have:=q.2.1;omega)⟩
 obtain⟨e,F,E,e3,z⟩:=h.r1;obtain⟨o,C,s,D⟩:=d.ar;obtain rfl:e'=o:=by injection C
 exact⟨mP h.on h.wk h.rk oM,h.rk,h.wk,aN h.r0 f (c _ oM),⟨e',rfl,s,D,z.put (by rw[TR,TR,s,E])⟩,aN h.r2 f (c _ oM),h.r3.same f (c _ oM),h.tL.keep i λg d=>c g (by have:=(h.tL.lt d).1;omega),h.tR.keep i λg d=>c g (by have:=(h.tR.lt d).1;omega),h.ne,B.keep i,y.keep i,d.keep i,lF h.lg (c r oM),h.ls,h.dj.keep f (λg d=>c g (by have:=(h.tL.lt d).1;omega)) (λg d=>c g (by have:=(h.tR.lt d).1;omega))⟩
end
end
section
open Go.RowKit Go.Sort Go.Deep SPA
variable {P:Nat}[NeZero P]{N:Nat}[NeZero N]
abbrev wP{P:Nat}[NeZero P](X:OnP P):Bs:=wr X.1
theorem EP(a b:Nat->Fin N):∀n,prS N (λi=>(a i).val) (λi=>(b i).val) n=(Md.pr a b n).val
 | 0=>(Nat.zero_mod N).symm
 | n+1=>by
  show sPl N (prS N _ _ n) (sTi N (b n).val (a n).val)=(Md.pr a b n+a n*b n).val;rw[EP a b n,Di,zU];unfold sTi;rw[Ut]
omit [NeZero N] in
theorem Ca(x y:Fin N)(n:Nat)(a:Nat->Fin N)(i:Nat):nE N x.val y.val n (λi=>(a i).val) i=(Md.fS x y n a i).val:=by
 show sPl N (sTi N (a i).val x.val) (sTi N (a (n+i)).val y.val)=(x*a i+y*a (n+i)).val;rw[Di,zU,zU];unfold sTi;rw[Ut (a i).val,Ut (a (n+i)).val]
omit [NeZero N] in
theorem Jg{n c:Nat}{G H:Nat->List (Nat × Bs)}{U:List (Nat × Bs)}{g h:Nat->OnP P}{u:OnP P}(f:0<n)(j:0<c)(b:c*n<=64)(e:Gd N n c G g)(d:Gd N n c H h)(m:Tl N U u)(l:0<U.length)(o:U.length<=16):GOk N n c G H U:=
 ⟨f,j,b,λi k=>⟨(e.tl i k).ok,e.len i k⟩,λi k=>⟨(d.tl i k).ok,d.len i k⟩,m.ok,l,o⟩
omit [NeZero N] in
theorem Tl.point(C:Fld P)(O:Ord N)(k:∀r:EC.Pt P,EC.On r->EC.mul N r=none){l:List (Nat × Bs)}{X:OnP P}(b:Tl N l X)(c:0<l.length)(d:l.length<=512){w:TA}{v:TC}(h:Sm 0 w v l):
 TW prog 15 #[v] w (rZ w λe w'=>e=pvl (wr X.1)):=by
 have:=h.point C O k c d b.lt b.pts;rw[b.sum]at this;exact this
theorem iCP:(prog.info? 55).map (·.size)=some 33:=kR
theorem CQ(C:Fld P)(O:Ord N)(k:∀r:EC.Pt P,EC.On r->EC.mul N r=none){Q:Nat->Prop}{m c:Nat}{G H:Nat->List (Nat × Bs)}{U:List (Nat × Bs)}{g h:Nat->OnP P}{u:OnP P}(y:0<m)(w:0<c)(n:c*m<=64)(q:Gd N m c G g)(p:Gd N m c H h)(s:Tl N U u)(A:0<U.length)(E:U.length<=16)(a b:Nat->Fin N):
 ∃l,(∀(W:TA) (v j f:TC),GRq Q W v m G H U->SLq Q W j m (λi=>(a i).val)->SLq Q W f m (λi=>(b i).val)->TW prog 14 #[v,j,f] W (rZ W λe w'=>Sm W.heap.size w' e l)) /\
  (∀(W:TA) (v:TC),Sm 0 W v l->TW prog 15 #[v] W (rZ W λe w'=>e=pvl (wr ((aO C k).hd a b g h u m).1))):=by
 have D:=Jg y w n q p s A E;obtain⟨t,o⟩:=Px C k q p s (d:=U.length) rfl a b;rw[<-EP]at t o;refine⟨_,λW v j f B x z=>Mn O m c G H U D _ _ (λi _=>(a i).isLt) (λi _=>(b i).isLt) v j f W B x z,λW v hv=>t.point C O k (by rw[o];omega) (by rw[o];omega) hv⟩
end
section
open Go Go.RowKit
section
variable {P:Vd}{ops:Array UI}{Q:YJ->Act->TA->Prop}{S:Array Bool->TA->Prop}
theorem fJ{o:UI}(k:o.guard=none)(t:Array TC):WI o (yielded ops t)=true:=by
 unfold WI;rw[k]
def anyS(P:Vd)(k:Array UI)(Q:YJ->Act->TA->Prop)(S:Array Bool->TA->Prop):Nat->Array Bool->Act->TA->Prop
 | 0,listed,a,w=>UN .any k listed=[]/\Q .normal a w
 | fuel+1,listed,a,w=>(UN .any k listed=[]->Q .normal a w) /\
  ∀i∈UN .any k listed,wpOp P k Q i (λb w'=>S (listed.setIfInBounds i true) w'/\anyS P k Q S fuel (listed.setIfInBounds i true) b w') a w
theorem anyS.any:∀(b:Nat) (k:Array Bool) (a:Act) (w:TA),anyS P ops Q S b k a w->wpAny P .any ops Q b k a w
 | 0,_,_,_,h=>h
 | b+1,_,_,_,h=>⟨h.1,λi d=>wpOp_mono (λc w' e=>anyS.any b _ c w' e.2) (h.2 i d)⟩
def Bef(S:Array Bool->TA->Prop)(p:Nat)(w:TA):Prop:=∃l:Array Bool,l.getD p false=false/\S l w
theorem anyS.first{p i:Nat}{y op:UI}{v:TC}(N:ops[i]? = some y)(hp:ops[p]? = some op)(J:∃e∈op.after,U7 .any e=true/\e.on=i)(I:p≠i)(O:∀l w,S (WW l i true) w->S l w)
 (q:∀(j:Nat) (o:UI) cs b,ops[j]? = some o->o.op≠.select cs b) (hQ:∀c a w,Q (.panic c) (a.put y.dst v) w->Q (.panic c) a w) :
 ∀(f:Nat) (d:Array Bool) (a:Act) (w:TA),d.getD p false=false ->
  (∀j x,ops[j]? = some x->j≠i->d.getD j true=false->(∀e∈x.after,U7 .any e=true->e.on≠i)->y.apart ops x=true) ->
  i∈UN .any ops d->YieldsIf P ops (Bef S p) y v a->Bef S p w->S (d.setIfInBounds i true) w ->
  anyS P ops Q S f (d.setIfInBounds i true) (a.put y.dst v) w->anyS P ops Q S (f+1) d a w:=by
 intro f;induction f with
 | zero =>
  intro d a w _ _ C G L t H;refine⟨λh=>absurd C (by rw[h];exact Ud),λj E=>?_⟩;by_cases g:j=i
  ·subst g;exact G.wpOp N L ⟨t,H⟩
  ·exact absurd (ready_mono E g) (by rw[H.1];exact Ud)
 | succ f ih =>
  intro d a w X n C G L t H;refine⟨λh=>absurd C (by rw[h];exact Ud),λj E=>?_⟩;by_cases g:j=i
  ·subst g;exact G.wpOp N L ⟨t,H⟩
  ·obtain⟨r,x,m,z⟩:=mem_ready.1 E;have s:∀e∈x.after,U7 .any e=true->e.on≠i:=λe U M R=>by
    have u:=z e U M;have B:=(mem_ready.1 C).1;rw[R]at u;rcases Nat.lt_or_ge i d.size with A|A
    ·simp[A]at B u;rw[B]at u;cases u
    ·simp[XD A]at u
   have B:j≠p:=by
    intro h;subst h;rw[hp]at m;obtain⟨e,U,M,u⟩:=J;injection m with m
    subst m;exact s e U M u
   have Z:=wpOp_putIf m (n j x m g r s) (λcs b=>q i y cs b N) (λcs b=>q j x cs b m) hQ G (H.2 j (ready_mono E g));have T:(d.setIfInBounds j true).getD p false=false:=by rw[XB false B];exact X
   refine wpOp_mono (λa' w' F=>?_) Z;have Y:(d.setIfInBounds i true).setIfInBounds j true=(d.setIfInBounds j true).setIfInBounds i true:=(Array.setIfInBounds_comm _ _ (yBu g))
   have u:=F.2.1;rw[Y]at u;have V:Bef S p w':=⟨_,by rw[XB false B,XB false (yBu I)];exact X,F.2.1⟩
   refine⟨O _ _ u,ih (d.setIfInBounds j true) a' w' T (λk ok hk W A K=>?_) (ready_mono C (yBu g)) F.1 V u ?_⟩
   ·refine n k ok hk W ?_ K;by_cases D:j=k
    ·subst D;exact r
    ·rw[XB true D]at A;exact A
   ·rw[<-Y];exact F.2.2
theorem anyS.take{p i:Nat}{f:UI}{v:TC}{b:Nat}{k:Array Bool}{a:Act}{w:TA}(o:ops[i]? = some f)(m:∀l w,S (WW l i true) w->S l w)(u:YieldsIf P ops (Bef S p) f v a)(q:Bef S p w)(g:S (k.setIfInBounds i true) w)
 (h:anyS P ops Q S b (k.setIfInBounds i true) (a.put f.dst v) w) (d:waits ops p i=true:=by kernel_rfl) (r:XP ops=true:=by kernel_rfl)
 (n:(k.getD p false || p == i)=false:=by kernel_rfl) (hf:YO .any ops k i=true:=by kernel_rfl) (t:(UN .any ops k).contains i=true:=by kernel_rfl)
 (x:∀c a w,Q (.panic c) (a.put f.dst v) w->Q (.panic c) a w:=by exact λ_ _ _ h=>h):anyS P ops Q S (b+1) k a w:=by
 rw[Bool.or_eq_false_iff]at n;unfold waits at d;cases ho:ops[p]? with
 | none=>rw[ho]at d;cases d
 | some op =>
  rw[ho]at d;obtain⟨e,s,j⟩:=Array.any_eq_true'.1 d;simp only[Bool.and_eq_true,beq_iff_eq]at j;exact anyS.first o ho ⟨e,s,j.1,j.2⟩ (by simpa using n.2) m (Region.noSelect_spec r) x b k a w n.1 (Region.free_spec o hf) (by simpa using t) u q g h
theorem anyS.step{i:Nat}{o:UI}{b:Nat}{k:Array Bool}{a:Act}{w:TA}(ho:ops[i]? = some o)(e:UN .any ops k=[i])
 (h:∀c:Act->TA->Prop,Shut (∀a w,S (k.setIfInBounds i true) w->anyS P ops Q S b (k.setIfInBounds i true) a w->c a w) ->
  if WI o (yielded ops a.tmps)=true then Vp P o a w c Q else c (a.put o.dst VU) w):anyS P ops Q S (b+1) k a w:=by
 refine⟨λd=>(by rw[e]at d;cases d),λj f=>?_⟩;rw[e,XA]at f;subst f;exact wpOp_step ho (λc g=>h c (λa w l m=>g a w ⟨l,m⟩))
theorem anyS.done{k:Array Bool}{a:Act}{w:TA}(c:UN .any ops k=[])(h:Q .normal a w):∀b,anyS P ops Q S b k a w
 | 0=>⟨c,h⟩
 | _+1=>⟨λ_=>h,by rw[c];intro i d;cases d⟩
theorem anyS.begin{id:Nat}{a:Act}{w:TA}(S:Array Bool->TA->Prop)(k:P.follows .mixedOrders=true)(h:anyS P ops Q S ops.size (TP ops.size false) a w.drew):(Code.region id ops true).wp P Q a w:=
 wp_region_any k (anyS.any _ _ _ _ h)
section
variable {i p fuel:Nat}{o:UI}{listed:Array Bool}{a:Act}{w w':TA}{v:TC}
theorem anyS.ins{d:Option Vn}{I:Sem TC}(ho:ops[i]? = some o)(g:I.run P w=.ok v w')(k:S (listed.setIfInBounds i true) w')(h:anyS P ops Q S fuel (listed.setIfInBounds i true) (a.put d v) w')
 (b:UN .any ops listed=[i]:=by kernel_rfl) (c:o.guard=none:=by rfl) (f:UD a.eval o=I >>= λv=>pure (Ww v):=by kernel_rfl) (hd:o.dst=d:=by kernel_rfl):anyS P ops Q S (fuel+1) listed a w:=by
 subst hd;exact anyS.step ho b λK e=>by
  rw[yB3 (fJ c _)];unfold Vp;rw[f,Ue,g];exact e.out _ _ k h
theorem anyS.cal{d:Option Vn}{f:FuncId}{args:Array TC}{R:TC->TA->Prop}(ho:ops[i]? = some o)(b:TW P f args w (Ret R))(h:∀v w',R v w'->S (listed.setIfInBounds i true) w'/\anyS P ops Q S fuel (listed.setIfInBounds i true) (a.put d v) w')
 (c:UN .any ops listed=[i]:=by kernel_rfl) (g:o.guard=none:=by rfl) (l:(UD a.eval o).run P w=.ok (.enter f args) w:=by kernel_rfl) (hd:o.dst=d:=by kernel_rfl):anyS P ops Q S (fuel+1) listed a w:=by
 subst hd;exact anyS.step ho c λK j=>by
  rw[yB3 (fJ g _)];unfold Vp;rw[l,Oper.upon_enter];refine b.mono ?_;rintro e w' ⟨v,rfl,k⟩;exact j.out _ _ (h v w' k).1 (h v w' k).2
theorem anyS.sto{d:Option Vn}(ho:ops[i]? = some o)(k:Uw)(x y:Operand)(c:o.op=.store k x y)(b off:Nat)(u:TC)(hv:u.cells=#[u])(q:u.oneCell'=true)(m:w.there b off 1)(j:(P.info? k).map (·.size)=some 1)
 (g:S (listed.setIfInBounds i true) (w.setCells b off [u])) (h:anyS P ops Q S fuel (listed.setIfInBounds i true) (a.put d VU) (w.setCells b off [u])) (l:a.eval x=.pointer (some ⟨b,off,none⟩):=by kernel_rfl) (r:a.eval y=u:=by kernel_rfl)
 (f:UN .any ops listed=[i]:=by kernel_rfl) (p:o.guard=none:=by rfl) (hd:o.dst=d:=by kernel_rfl):anyS P ops Q S (fuel+1) listed a w:=by
 subst hd;exact anyS.step ho f λK n=>by
  rw[yB3 (fJ p _)];have f:=yAv (P:=P) w b off k #[u] m j (by simp[q]);have e:storeVar k ⟨b,off,none⟩ u=storeVar k ⟨b,off,none⟩ (.agg #[u]):=by
   unfold storeVar;rw[hv];rfl
  unfold Vp UD;simp only[c,l,r,Yw,Yk,Ue,VA,UE,e,f];exact n.out _ _ g h
theorem anyS.cel{d:Option Vn}{x:TC}(ho:ops[i]? = some o)(p:Nat)(e:∀l w,S (WW l i true) w->S l w)(T:Uw)(t:Vn)(b off:Nat)(f:o.op=.load T (.tmp t))(m:(P.underlying T).map (·.isRow)=some false)(j:∀w,Bef S p w->w.cell? ⟨b,off,none⟩=some x)(n:Bef S p w)(k:S (listed.setIfInBounds i true) w)
 (h:anyS P ops Q S fuel (listed.setIfInBounds i true) (a.put d x) w) (r:a.eval (.tmp t)=.pointer (some ⟨b,off,none⟩):=by kernel_rfl) (v:o.guard=none:=by rfl) (s:waits ops p i=true:=by kernel_rfl) (q:XP ops=true:=by kernel_rfl)
 (y:(listed.getD p false || p == i)=false:=by kernel_rfl) (hf:YO .any ops listed i=true:=by kernel_rfl) (u:(UN .any ops listed).contains i=true:=by kernel_rfl)
 (z:∀c a w,Q (.panic c) (a.put o.dst x) w->Q (.panic c) a w:=by exact λ_ _ _ h=>h) (hd:o.dst=d:=by kernel_rfl):anyS P ops Q S (fuel+1) listed a w:=by
 subst hd;exact anyS.take (p:=p) ho e (Ub ⟨fJ v _,λw g=>by
  unfold UD;rw[f];dsimp only;rw[r,Ue,RG.kV (j w g) m];rfl⟩) n k h s q y hf u z
theorem anyS.row{d:Option Vn}{cs:List TC}(ho:ops[i]? = some o)(p:Nat)(f:∀l w,S (WW l i true) w->S l w)(T:Uw)(t:Vn)(b off:Nat)(j:TypeDesc)(g:o.op=.load T (.tmp t))(n:P.underlying T=some j)(k:j.isRow=true)(r:(P.info? T).map (·.size)=some cs.length)(m:∀w,Bef S p w->w.rangeAt b off cs)(q:Bef S p w)(e:S (listed.setIfInBounds i true) w)
 (h:anyS P ops Q S fuel (listed.setIfInBounds i true) (a.put d (.agg cs.toArray)) w) (u:a.eval (.tmp t)=.pointer (some ⟨b,off,none⟩):=by kernel_rfl) (y:o.guard=none:=by rfl) (v:waits ops p i=true:=by kernel_rfl) (s:XP ops=true:=by kernel_rfl)
 (z:(listed.getD p false || p == i)=false:=by kernel_rfl) (hf:YO .any ops listed i=true:=by kernel_rfl) (x:(UN .any ops listed).contains i=true:=by kernel_rfl)
 (A:∀c a w,Q (.panic c) (a.put o.dst (.agg cs.toArray)) w->Q (.panic c) a w:=by exact λ_ _ _ h=>h) (hd:o.dst=d:=by kernel_rfl):anyS P ops Q S (fuel+1) listed a w:=by
 subst hd;exact anyS.take (p:=p) ho f (yieldsIf_load_mid (fJ y _) T (.tmp t) g b off u cs j m n k r) q e h v s z hf x A
theorem anyS.val{d:Option Vn}{x:TC}(ho:ops[i]? = some o)(p:Nat)(b:∀l w,S (WW l i true) w->S l w)(e:Bef S p w)(k:S (listed.setIfInBounds i true) w)(h:anyS P ops Q S fuel (listed.setIfInBounds i true) (a.put d x) w)(hv:∀w,(UD a.eval o).run P w=.ok (.value x) w:=by intro _;kernel_rfl)(n:o.guard=none:=by rfl)(g:waits ops p i=true:=by kernel_rfl)(f:XP ops=true:=by kernel_rfl)
 (q:(listed.getD p false || p == i)=false:=by kernel_rfl) (hf:YO .any ops listed i=true:=by kernel_rfl) (m:(UN .any ops listed).contains i=true:=by kernel_rfl)
 (j:∀c a w,Q (.panic c) (a.put o.dst x) w->Q (.panic c) a w:=by exact λ_ _ _ h=>h) (hd:o.dst=d:=by kernel_rfl):anyS P ops Q S (fuel+1) listed a w:=by
 subst hd;exact anyS.take (p:=p) ho b (Ub ⟨fJ n _,λw _=>hv w⟩) e k h g f q hf m j
theorem anyS.nxt{d:Option Vn}{x:TC}(ho:ops[i]? = some o)(k:S (listed.setIfInBounds i true) w)(h:anyS P ops Q S fuel (listed.setIfInBounds i true) (a.put d x) w)(hv:(UD a.eval o).run P w=.ok (.value x) w:=by kernel_rfl)(b:UN .any ops listed=[i]:=by kernel_rfl)(c:o.guard=none:=by rfl)(hd:o.dst=d:=by kernel_rfl):anyS P ops Q S (fuel+1) listed a w:=by
 subst hd;exact anyS.step ho b λK e=>by
  rw[yB3 (fJ c _)];unfold Vp;rw[hv];exact e.out _ _ k h
end
end
end
section
open Go.RowKit Go.Sort Go.Deep SPA
variable {P:Nat}[NeZero P]{N:Nat}[NeZero N]
theorem qD:(prog.underlying 26).map (·.isRow)=some true:=kR
theorem jN:(prog.info? 26).map (·.size)=some 4:=kR
def DjF(B:Nat)(W:TA)(t:Nat)(d c vA vB:TC):Prop:=∃b k l m,vA=r32 b/\vB=r32 k/\(b :: k :: (l++m)).Nodup/\W.ownsRow 0 23 1 d t (l.map r33)/\W.ownsRow 0 23 1 c t (m.map r33)/\∀g,g∈b :: k :: (l++m)->B<=g/\g<W.heap.size
theorem DjF.keep{B d t:Nat}{W W':TA}{b k vA vB:TC}(h:DjF B W t b k vA vB)(n:d<=B)(o:W.heap.size<=W'.heap.size)(hv:∀g,b.ownBlock=some g->W'.heap[g]? = W.heap[g]?)(i:∀g,k.ownBlock=some g->W'.heap[g]? = W.heap[g]?):DjF d W' t b k vA vB:=by
 obtain⟨p,r,l,m,f,u,s,j,q,c⟩:=h;exact⟨p,r,l,m,f,u,s,bE j hv,bE q i,λg e=>⟨TU n (c g e).1,TF (c g e).2 o⟩⟩
theorem DjF.of{B t b c:Nat}{W W':TA}{v u:TC}(h:Dj W B t t v u)(q:W.heap.size<=W'.heap.size)(hv:∀g,v.ownBlock=some g->W'.heap[g]? = W.heap[g]?)(f:∀g,u.ownBlock=some g->W'.heap[g]? = W.heap[g]?)(p:B<=W.heap.size)(s:W.heap.size<=b)(o:b<c)(r:c<W'.heap.size):DjF B W' t v u (r32 b) (r32 c):=by
 obtain⟨l,m,n,i,j,d⟩:=h;refine⟨b,c,l,m,rfl,rfl,?_,bE i hv,bE j f,λg k=>?_⟩
 ·rw[Wy,Wy];refine⟨λe=>?_,λe=>?_,n⟩
  ·rcases U0.1 e with e|e
   ·omega
   ·have:=(d _ e).2;omega
  ·have:=(d _ e).2;omega
 ·rcases U0.1 k with rfl|k
  ·exact⟨oM,oM⟩
  ·rcases U0.1 k with rfl|k
   ·exact⟨oM,oM⟩
   ·have:=d _ k;exact⟨this.1,oM⟩
structure PhR(w:TA)(r t:Nat)(Lb Rb:Nat->Bs)(L:Bs)(A B:Bs)(e:TC)(w':TA):Prop where
 on:SP.Only r 0 32 w w'
 ex:∃vL vR vA vB,e=.agg #[vL,vR,vA,vB]/\TlL (λ_=>True) w.heap.size t w' vL Lb/\TlL (λ_=>True) w.heap.size t w' vR Rb/\ElQ (w.heap.size<=·) 32 w' vA A/\ElQ (w.heap.size<=·) 32 w' vB B
 lg:Holds encB w' r 0 L
 dj:∀vL vR vA vB,e=.agg #[vL,vR,vA,vB]->DjF w.heap.size w' t vL vR vA vB
theorem uLL:(prog.underlying 24).map (·.isRow)=some false:=kR
theorem iLL:(prog.info? 24).map (·.size)=some 1:=kR
theorem Tp(k:Nat)(n c:Nat)(w:TA):(We 24 1 #[(0,.slice (some (aZ k)) n c)]).run prog w=.ok (.slice (some ⟨w.heap.size,0,none⟩) 1 1) (w.alloc (.cells #[.slice (some (aZ k)) n c] 23)):=kR
theorem MK{Q:Nat->Prop}{W:TA}{x:TC}{b:Bs}(h:ElQ Q 33 W x b)(w:TA):(We 24 1 #[(0,x)]).run prog w=.ok (.slice (some ⟨w.heap.size,0,none⟩) 1 1) (w.alloc (.cells #[x] 23)):=by
 obtain⟨k,c,rfl,-⟩:=h;exact Tp k 33 c w
theorem TlL.one{Q:Nat->Prop}{base i:Nat}{W:TA}{v:TC}{B:Nat->Bs}(h:TlL Q base i W v B):v.cells=#[v]/\v.oneCell'=true:=by
 obtain⟨xs,⟨-,⟨rfl,-⟩|⟨g,cap,cur,rfl,-⟩⟩,-⟩:=h.ex<;>exact⟨rfl,rfl⟩
theorem Ph.put'{w W W':TA}{r k l i n:Nat}{o m d c v g f:TC}{j Rb:Nat->Bs}{L:Bs}{a b:Nat->Nat}{G H:Nat->List (Nat × Bs)}{U:List (Nat × Bs)}(h:Ph w W r k l i n o m d c v g f j Rb L a b G H U)(e:W'=(W.setCells (k+3) 0 [d]).setCells (k+3) 1 [c]):Ph w W' r k l i n d c d c v g f j Rb L a b G H U:=e ▸ h.put
theorem anyS.fin{P:Vd}{c:Array UI}{Q:YJ->Act->TA->Prop}{S:Array Bool->TA->Prop}{k:Array Bool}{a:Act}{w:TA}(d:UN .any c k=[])(h:∀W,W=w->Q .normal a W)(b:Nat):anyS P c Q S b k a w:=anyS.done d (h w rfl) b
theorem PV(O:Ord N)(j:NT.IsP N)(r:Nat)(L:Bs)(A B:OnP P)(X Y:Bs)(d:X=wP A)(i:Y=wP B):∃(s:Bs) (c:Fin N),Hid (chF N L A B=(s,c)/\s.size=32)/\Hid (∀W:TA,Holds encB W r 0 L->L.size=32->TW prog 43 #[lgV r,.string ⟨#[108,101,102,116]⟩,pvl X,.string ⟨#[114,105,103,104,116]⟩,pvl Y] W (Ret λe w'=>SP.Only r 0 32 W w'/\Holds encB w' r 0 s/\e=nv c.val)):=by
 subst d i;have e:chF N L A B=(iK (mR [108,101,102,116] [114,105,103,104,116] L (wP A) (wP B)),J3 N (mR [108,101,102,116] [114,105,103,104,116] L (wP A) (wP B))):=by unfold chF;dsimp only
 have f:=bX A.1;have l:=bX B.1;refine⟨_,_,⟨e,SP.fR _ _⟩,λW m g=>?_⟩;have k:=GV O r L (wP A) (wP B) ⟨#[108,101,102,116]⟩ ⟨#[114,105,103,104,116]⟩ dC dC f l W m g;have n:mR (⟨#[108,101,102,116]⟩:ByteArray).data.toList (⟨#[114,105,103,104,116]⟩:ByteArray).data.toList L (wP A) (wP B)=mR [108,101,102,116] [114,105,103,104,116] L (wP A) (wP B):=rfl;rw[n]at k;have b:∀M,cha N M<N:=λM=>uC O _
 generalize mR [108,101,102,116] [114,105,103,104,116] L (wP A) (wP B)=M at k;rw[Fq j.1 M (b M)]at k;exact k
theorem own_base{W:TA}{base b n k:Nat}{e:Uw}{v:TC}{xs:List TC}(h:W.ownsRow base e k v n xs)(i:b<=base):W.ownsRow b e k v n xs:=by
 rcases h with⟨c,j|⟨g,cap,cur,rfl,d,f⟩⟩
 ·exact⟨c,Ub j⟩
 ·exact⟨c,T8 ⟨g,cap,cur,rfl,TU i d,f⟩⟩
theorem Ph.fin{w W:TA}{r k t n:Nat}{i f v J z vA vB:TC}{y Rb:Nat->Bs}{L A B:Bs}{a b:Nat->Nat}{G H:Nat->List (Nat × Bs)}{U:List (Nat × Bs)}(h:Ph w W r k t t n i f i f v J z y Rb L a b G H U)(K:ElQ (k+4<=·) 32 W vA A)(D:ElQ (k+4<=·) 32 W vB B)(hd:DjF (k+4) W t i f vA vB):
 Row W (k+2) [.slice none 0 0,.slice none 0 0,.slice none 0 0,.slice none 0 0]/\Row (W.setCells (k+2) 0 [i,f,vA,vB]) (k+2) [i,f,vA,vB]/\PhR w r t y Rb L A B (.agg #[i,f,vA,vB]) (W.setCells (k+2) 0 [i,f,vA,vB]):=by
 have F:=h.rk;have C:=h.wk;have j:∀g,g≠k+2->(W.setCells (k+2) 0 [i,f,vA,vB]).heap[g]? = W.heap[g]?:=λg p=>RG.aG (k+2) _ 0 _ g p
 have l:W.heap.size<=(W.setCells (k+2) 0 [i,f,vA,vB]).heap.size:=by rw[RG.setCells_size];exact TG _
 have E:Kq (QH r k i f) W (W.setCells (k+2) 0 [i,f,vA,vB]):=⟨l,λg q _=>j g (by have:=q.2.1;omega)⟩
 have o:Kq (k+4<=·) W (W.setCells (k+2) 0 [i,f,vA,vB]):=⟨l,λg q _=>j g oM⟩
 have x:∀ {s:TC}{B:Nat->Bs},TlL (QH r k i f) (k+4) t W s B->TlL (λ_=>True) w.heap.size t (W.setCells (k+2) 0 [i,f,vA,vB]) s B:=λu=>by
  have M:=(u.keep E λg m=>j g (by have:=(u.lt m).1;omega)).mono2 (Q':=λ_=>True) λ_ _ _=>trivial
  obtain⟨xs,p,I⟩:=M.ex;exact⟨xs,own_base p oM,I⟩
 exact⟨h.r2,h.r2.put rfl,mP h.on h.wk h.rk oM,⟨_,_,_,_,rfl,x h.tL,x h.tR,(K.keep o).mono2 λg _ m=>oM,(D.keep o).mono2 λg _ m=>oM⟩,lF h.lg (j r oM),λa b c d e=>by
  injection e with e
  simp only[YV.injEq,Yn.injEq,and_true]at e;obtain⟨rfl,rfl,rfl,rfl⟩:=e;exact hd.keep oM l (λg m=>j g (by have:=(h.tL.lt m).1;omega)) (λg m=>j g (by have:=(h.tR.lt m).1;omega))⟩
omit [NeZero N] in
theorem vE(O:Ord N){a:Nat}(c:a<N)(w:TA):TW prog 40 #[nv a] w (rZ w λe w'=>ElQ (w.heap.size<=·) 32 w' e (bx a)/\∃g,e=r32 g):=by
 refine(Bd O c w).mono ?_;rintro e w' ⟨v,rfl,k,b,rfl⟩;exact⟨_,rfl,b.bel,⟨k,32,rfl,TG _,gJ a,b.le,b.lt,cb_holds b.range b.there⟩,k,rfl⟩
theorem iB1:(prog.info? 23).map (·.size)=some 1:=kR
theorem hvI{P:Vd}{I:Sem TC}{c:Sem Next}{x:TC}(k:∀w,I.run P w=.ok x w)(b:c=I >>= λv=>pure (Ww v)):∀w,c.run P w=.ok (.value x) w:=λw=>by rw[b,Ue,k w,UE,VA]
theorem nfB{b:Bool}(h:b=true):¬b=false:=λe=>by rw[h]at e;cases e
theorem Oz(m:Nat):((m+m:Nat):Int).tdiv 2=(m:Int):=by rw[Int.tdiv_eq_ediv_of_nonneg oM];omega
theorem LN(C:Fld P)(O:Ord N)(f:∀r:EC.Pt P,EC.On r->EC.mul N r=none)(hP:NT.IsP N)(t:Nat)(ht:t<=6)(q:Md.Ps Bs (Fin N) (OnP P))(u:OnP P)(G0 H0:Nat->List (Nat × Bs))(U:List (Nat × Bs))(f3:Gd N (2^t) 1 G0 q.g)(ew:Gd N (2^t) 1 H0 q.h)(hU:Tl N U u)(g4:0<U.length)(dm:U.length<=16)
 (Lb Rb:Nat->Bs) (e7:∀j,Lb j=wP ((aO C f).pLi (chF N) ivF u t q j)) (f6:∀j,Rb j=wP ((aO C f).pTi (chF N) ivF u t q j)) (r:Nat) (v0 cq d4:TC) (w:TA) (hL:Holds encB w r 0 q.s) (d1:q.s.size=32) (hv:GRq (·≠r) w v0 (2^t) G0 H0 U) (ha:SLq (·≠r) w cq (2^t) (λi=>(q.a i).val)) (M:SLq (·≠r) w d4 (2^t) (λi=>(q.b i).val)) :
 TW prog 17 #[lgV r,v0,cq,d4] w (Ret (PhR w r t Lb Rb ((aO C f).pst (chF N) ivF u t q t).s (bx (((aO C f).pst (chF N) ivF u t q t).a 0).val) (bx (((aO C f).pst (chF N) ivF u t q t).b 0).val))):=by
 have hr:=Holds.lt hL (by rw[d1];decide);obtain⟨k,hk⟩:∃k,Hid (w.heap.size=k):=⟨_,rfl⟩
 obtain⟨e0,g8,fp,fy⟩:=hv.ar;subst g8;obtain⟨w1,kz⟩:∃w1,Hid (w.alloc (.cells #[pZ r] 64)=w1):=⟨_,rfl⟩
 obtain⟨w2,kt⟩:∃w2,Hid (w1.alloc (.cells e0 52)=w2):=⟨_,rfl⟩
 obtain⟨w3,kf⟩:∃w3,Hid (w2.alloc (.cells #[.slice none 0 0,.slice none 0 0,.slice none 0 0,.slice none 0 0] 26)=w3):=⟨_,rfl⟩
 obtain⟨w4,br⟩:∃w4,Hid (w3.alloc (.cells #[.slice none 0 0,.slice none 0 0,.slice none 0 0,.slice none 0 0] 26)=w4):=⟨_,rfl⟩
 have z1:w1.heap.size=k+1:=by rw[<-kz.out,TQ,hk.out]
 have z2:w2.heap.size=k+2:=by rw[<-kt.out,TQ,z1]
 have z3:w3.heap.size=k+3:=by rw[<-kf.out,TQ,z2]
 have gj:r<k:=by rw[<-hk.out];exact hr
 have K4:Hid (∃G H,Gd N (2^(t-0)) (2^0) G ((aO C f).pst (chF N) ivF u t q 0).g/\Gd N (2^(t-0)) (2^0) H ((aO C f).pst (chF N) ivF u t q 0).h/\Ph w w4 r k 0 0 (2^(t-0)) (.slice none 0 0) (.slice none 0 0) (.slice none 0 0) (.slice none 0 0) (.agg e0) cq d4 Lb Rb ((aO C f).pst (chF N) ivF u t q 0).s (λi=>(((aO C f).pst (chF N) ivF u t q 0).a i).val) (λi=>(((aO C f).pst (chF N) ivF u t q 0).b i).val) G H U):=by
  have b1:Below w.heap.size w w1:=by rw[<-kz.out];exact aD _ _
  have D:Below w1.heap.size w1 w2:=by rw[<-kt.out];exact aD _ _
  have F:Below w2.heap.size w2 w3:=by rw[<-kf.out];exact aD _ _
  have E:Below w3.heap.size w3 w4:=by rw[<-br.out];exact aD _ _
  have V:Row w1 k [pZ r]:=by rw[<-kz.out,<-hk.out];exact aE w _ _
  have T:Row w2 (k+1) e0.toList:=by rw[<-kt.out,<-z1];exact aE w1 e0.toList 52
  have Y:Row w3 (k+2) [.slice none 0 0,.slice none 0 0,.slice none 0 0,.slice none 0 0]:=by rw[<-kf.out,<-z2];exact aE w2 _ _
  have S:Row w4 (k+3) [.slice none 0 0,.slice none 0 0,.slice none 0 0,.slice none 0 0]:=by rw[<-br.out,<-z3];exact aE w3 _ _
  have bb:Below w.heap.size w w4:=((b1.trans (D.mono b1.size)).trans (F.mono (TU b1.size D.size))).trans (E.mono (TU b1.size (TU D.size F.size)));have K:∀g,g<w.heap.size->g≠r->QH r k (.slice none 0 0) (.slice none 0 0) g:=λg R L=>⟨L,Ub (by rw[<-hk.out];exact R),(λe=>by cases e),(λe=>by cases e)⟩
  have A:∀(B:Nat->Bs) (Q:Nat->Prop),TlL Q (k+4) 0 w4 (.slice none 0 0) B:=λB Q=>⟨[],⟨rfl,Ub ⟨rfl,rfl⟩⟩,λj hj=>absurd hj (VC _)⟩
  have J:∀ {Q:Nat->Prop},Kq Q w w4:=Kq.of_below bb;exact⟨G0,H0,f3,ew,SP.Only.of_below bb rfl hr,gj,hk.out,((V.below D).below F).below E,⟨e0,rfl,fp,fy,(T.below F).below E⟩,Y.below E,⟨S.1,[.slice none 0 0,.slice none 0 0],rfl,S⟩,A _ _,A _ _,(λg e=>by cases e),(ha.mono2 K).keep J,(M.mono2 K).keep J,(hv.mono2 K).keep J,Holds.below hL bb hr,d1,⟨[],[],yBg,⟨rfl,Ub ⟨rfl,rfl⟩⟩,⟨rfl,Ub ⟨rfl,rfl⟩⟩,λg R=>absurd R Ud⟩⟩
 obtain⟨vl,bf⟩:∃v,Hid (lgV r=v):=⟨_,rfl⟩
 obtain⟨vG,bs⟩:∃v,Hid (Um e0=v):=⟨_,rfl⟩
 have B1:Hid ((U6 64 vl).run prog w=.ok (pZ k) w1):=by rw[<-bf.out,<-kz.out,<-hk.out];exact RN r w
 have B2:Hid ((U6 52 vG).run prog w1=.ok (.pointer (some ⟨k+1,0,none⟩)) w2):=by
  obtain⟨a1,a2,a3,ea⟩:∃a b c,e0=#[a,b,c]:=by
   obtain⟨E,A,D,e,-⟩:=hv.ex;injection e with e
   exact⟨E,A,D,e⟩
  rw[<-bs.out,<-kt.out,<-z1,ea];exact JR a1 a2 a3 w1
 have HZ:Hid (w2.heap.size=k+2/\w3.heap.size=k+3/\w.heap.size=k):=⟨z2,z3,hk.out⟩
 have eu:Hid ((∀j,Lb j=wP ((aO C f).pLi (chF N) ivF u t q j))/\∀j,Rb j=wP ((aO C f).pTi (chF N) ivF u t q j)):=⟨e7,f6⟩
 clear e7 f6;have HF:Hid (Fld P/\Ord N/\NT.IsP N/\Tl N U u/\0<U.length/\U.length<=16/\t<=6):=⟨C,O,hP,hU,g4,dm,ht⟩
 obtain⟨d,ed,dz⟩:=TJ.1 uGr;have HD:Hid (prog.underlying 52=some d/\d.isRow=true):=⟨ed,dz⟩
 rw[bs.out]at K4;rw[bf.out,bs.out];clear ed dz z1 z2 z3 kz kt hk hL d1 hv ha M f3 ew hU g4 dm fp fy hr O hP bs;go_enter func17,ntmps17;go_wp2_with (first|(refine aM (u:=vl) (v:=pZ k) (w':=w1) rfl 64 (.tmp 0) rfl ?_ ?_ ?_;rfl;exact B1.out)|(refine aM (u:=vG) (v:=.pointer (some ⟨k+1,0,none⟩)) (w':=w2) rfl 52 (.tmp 1) rfl ?_ ?_ ?_;rfl;exact B2.out)|(refine eN (v:=.pointer (some ⟨k+2,0,none⟩)) (w':=w3) rfl 26 8 rfl rfl ?_ ?_;(rw[<-kf.out,<-HZ.1];kernel_rfl))|(refine eN (v:=.pointer (some ⟨k+3,0,none⟩)) (w':=w4) rfl 26 9 rfl rfl ?_ ?_;(rw[<-br.out,<-HZ.2.1];kernel_rfl))|fail)
 clear B1 B2 kf br;simp only[Ug,TD,TK,TL];go_loopg [2,3] t (λm s2 s3 W=>∃i:Nat,i+m=t/\Hid (∃F E v G H,Gd N (2^(t-i)) (2^i) G ((aO C f).pst (chF N) ivF u t q i).g/\Gd N (2^(t-i)) (2^i) H ((aO C f).pst (chF N) ivF u t q i).h/\Ph w W r k i i (2^(t-i)) F E F E v s2 s3 Lb Rb ((aO C f).pst (chF N) ivF u t q i).s (λj=>(((aO C f).pst (chF N) ivF u t q i).a j).val) (λj=>(((aO C f).pst (chF N) ivF u t q i).b j).val) G H U))
 case atStart=>exact⟨0,oM,_,_,_,K4.out⟩
 case round =>
  clear K4;obtain⟨i,gq,KM⟩:=hrel;by_cases hi:i<t
  ·obtain⟨F,E,v,G,H,hG,hH,h4⟩:=KM.out;clear KM;have HI:=Hid.mk' hi;obtain⟨m,hm⟩:∃m,m=2^(t-(i+1)):=⟨_,rfl⟩
   have b9:2^(t-i)=m+m:=by rw[hm,show t-i=t-(i+1)+1 by omega,Vk];omega
   have be:0<m:=by rw[hm];exact WR dC
   obtain⟨c,hc⟩:∃c,c=2^i:=⟨_,rfl⟩
   have km:0<c:=by rw[hc];exact WR dC
   have es:c*(m+m)<=64:=by
    rw[<-b9,hc,<-Nat.pow_add,show i+(t-i)=t by omega];exact TU (Ve dC HF.2.2.2.2.2.2) dC
   have k6:c*m<=64:=by have:=WJ c (show m<=m+m by omega);omega
   have e5:m<=64:=by have:=Xm m km;omega
   have eS:(aO C f).pst (chF N) ivF u t q (i+1)=(aO C f).mY (chF N) ivF u m ((aO C f).pst (chF N) ivF u t q i):=by rw[hm];rfl
   have eL:(aO C f).pLi (chF N) ivF u t q i=(aO C f).pL u m ((aO C f).pst (chF N) ivF u t q i):=by rw[hm];rfl
   have eT:(aO C f).pTi (chF N) ivF u t q i=(aO C f).pT u m ((aO C f).pst (chF N) ivF u t q i):=by rw[hm];rfl
   have HE:Hid (2^(t-(i+1))=m/\2^(i+1)=c+c):=⟨hm.symm,by rw[Vk,hc];omega⟩
   rw[b9,<-hc]at hG hH;rw[b9]at h4;clear hm b9 hc;generalize (aO C f).pst (chF N) ivF u t q i=L at hG hH h4 eS eL eT;have HS:Hid ((aO C f).pst (chF N) ivF u t q (i+1)=(aO C f).mY (chF N) ivF u m L/\(aO C f).pLi (chF N) ivF u t q i=(aO C f).pL u m L/\(aO C f).pTi (chF N) ivF u t q i=(aO C f).pT u m L):=⟨eS,eL,eT⟩
   clear eS eL eT;obtain⟨ga,oa,ca,rfl,ei,-⟩:=id h4.la;obtain⟨Z,ob,J,rfl,f7,-⟩:=id h4.lb;have sG:=Hid.mk' (U8 hG (U8 hH (U8 be (U8 km (U8 es (U8 e5 k6))))));obtain⟨l1,ep,fr⟩:=CQ (Q:=QH r k F E) C HF.2.1 f be km k6 hG.high hH.low HF.2.2.2.1 HF.2.2.2.2.1 HF.2.2.2.2.2.1 L.a (λj=>L.b (m+j));obtain⟨l2,f4,fg⟩:=CQ (Q:=QH r k F E) C HF.2.1 f be km k6 hG.low hH.high HF.2.2.2.1 HF.2.2.2.2.1 HF.2.2.2.2.2.1 (λj=>L.a (m+j)) L.b;obtain⟨X,hX⟩:∃X,X=wP ((aO C f).pL u m L):=⟨_,rfl⟩
   obtain⟨Y,hY⟩:∃Y,Y=wP ((aO C f).pT u m L):=⟨_,rfl⟩
   have sX:X.size=33:=by rw[hX];exact bX _
   have sY:Y.size=33:=by rw[hY];exact bX _
   have c0:∀(W:TA) (v:TC),Sm 0 W v l1->TW prog 15 #[v] W (rZ W λe w'=>e=pvl X):=by rw[hX];exact fr
   have c2:∀(W:TA) (v:TC),Sm 0 W v l2->TW prog 15 #[v] W (rZ W λe w'=>e=pvl Y):=by rw[hY];exact fg
   clear fr fg;obtain⟨PH,h5⟩:∃PH:TA->Prop,Hid (∀W,PH W↔Ph w W r k i i (m+m) F E F E v (.slice (some ⟨ga,oa,none⟩) (m+m) ca) (.slice (some ⟨Z,ob,none⟩) (m+m) J) Lb Rb L.s (λj=>(L.a j).val) (λj=>(L.b j).val) G H U):=⟨_,λ_=>Iff.rfl⟩
   have k8:Hid (∀W W':TA,Below W.heap.size W W'->PH W->PH W'):=λW W' M h=>(h5 W').2 (((h5 W).1 h).grow M)
   have K0:Hid (PH wr):=(h5 wr).2 h4;have g6:Hid (∀W,PH W->TW prog 42 #[v] W (Ret (CrR (QH r k F E) W m G H U))):=λW h=>GT m be oM G H U v W ((h5 W).1 h).gr
   have cS:Hid ((∀W (x:TC),PH W->GRq (QH r k F E) W x m (λi=>G (m+i)) H U->TW prog 14 #[x,.slice (some ⟨ga,oa,none⟩) m ca,.slice (some ⟨Z,ob+m*4,none⟩) m (J-m)] W (rZ W λe w'=>Sm W.heap.size w' e l1))/\(∀W (x:TC),PH W->GRq (QH r k F E) W x m G (λi=>H (m+i)) U->TW prog 14 #[x,.slice (some ⟨ga,oa+m*4,none⟩) m (ca-m),.slice (some ⟨Z,ob,none⟩) m J] W (rZ W λe w'=>Sm W.heap.size w' e l2))):=
    ⟨λW x h D=>ep W x _ _ D ((h5 W).1 h).la.low ((h5 W).1 h).lb.high,λW x h D=>f4 W x _ _ D ((h5 W).1 h).la.high ((h5 W).1 h).lb.low⟩
   have cP:Hid ((∀(W:TA) (v:TC),Sm 0 W v l1->TW prog 15 #[v] W (rZ W λe w'=>e=pvl X))/\(∀(W:TA) (v:TC),Sm 0 W v l2->TW prog 15 #[v] W (rZ W λe w'=>e=pvl Y))):=⟨c0,c2⟩
   have kg:=Ia ga oa (m+m) ca m oM;have k3:=H9 Z ob (m+m) J m oM f7;have k4:=H9 ga oa (m+m) ca m oM ei;have kd:=Ia Z ob (m+m) J m oM;rw[Nat.add_sub_cancel]at k3 k4;have h8:Hid (X.size=33/\Y.size=33/\X=wP ((aO C f).pL u m L)/\Y=wP ((aO C f).pT u m L)):=⟨sX,sY,hX,hY⟩
   obtain⟨sx,cx,e6,ez⟩:∃(s:Bs) (c:Fin N),Hid (chF N L.s ((aO C f).pL u m L) ((aO C f).pT u m L)=(s,c)/\s.size=32)/\Hid (∀W:TA,Holds encB W r 0 L.s->L.s.size=32->TW prog 43 #[lgV r,.string ⟨#[108,101,102,116]⟩,pvl X,.string ⟨#[114,105,103,104,116]⟩,pvl Y] W (Ret λe w'=>SP.Only r 0 32 W w'/\Holds encB w' r 0 s/\e=nv c.val)):=PV HF.2.1 HF.2.2.1 r L.s _ _ X Y hX hY;obtain⟨e1,eh,kn,c3,bz⟩:=h4.r1;have HV:Hid (v=.agg e1/\e1.size=3/\e1.all (·.oneCell')=true):=⟨eh,kn,c3⟩
   have R1:Hid (wr.rangeAt (k+1) 0 e1.toList/\(prog.info? 52).map (·.size)=some e1.toList.length):=⟨bz.2.1,by rw[TR,kn];exact iGr⟩
   obtain⟨n,hn⟩:∃n,Hid (m+m=n):=⟨_,rfl⟩
   have hq:(n:Int).tdiv 2=(m:Int):=by rw[<-hn.out];exact Oz m
   have ge:(1:Int)<(n:Int):=by rw[<-hn.out];omega
   rw[hn.out]at kg k3 k4 kd;rw[hn.out];clear h4 ep f4 c0 c2 sX sY hX hY eh kn c3 bz hG hH es k6 ei f7 km hi;go_wp2_with (first|(refine UL rfl 52 (.tmp 5) rfl (k+1) 0 ?_ e1.toList d ?_ ?_ ?_ ?_ ?_;rfl;exact R1.1;exact HD.1;exact HD.2;exact R1.2;rw[show Um e1.toList.toArray=v from HV.1.symm])|fail)
   clear hq ge;refine(g6 wr K0.out).mono ?_;rintro e W1 ⟨uu,rfl,et,f1,f2,rfl,bi,bu,g0,e8,fq,f5⟩;have K1:Hid (PH W1):=k8.out wr W1 et K0.out;obtain⟨b1,h7⟩:∃b,Hid (W1.heap.size=b):=⟨_,rfl⟩
   obtain⟨W2,b8⟩:∃W,Hid (W1.alloc (.cells #[.slice none 0 0,.slice none 0 0,.slice none 0 0] 52)=W):=⟨_,rfl⟩
   obtain⟨W3,bn⟩:∃W,Hid (W2.alloc (.cells #[.slice none 0 0,.slice none 0 0,.slice none 0 0] 52)=W):=⟨_,rfl⟩
   obtain⟨W4,df⟩:∃W,Hid (W3.setCells b1 0 f1.toList=W):=⟨_,rfl⟩
   obtain⟨W5,cp⟩:∃W,Hid (W4.setCells (b1+1) 0 f2.toList=W):=⟨_,rfl⟩
   have zz:W2.heap.size=b1+1:=by rw[<-b8.out,TQ,h7.out]
   have ky:f1.toList.length=3:=by rw[TR];exact bi
   have b7:f2.toList.length=3:=by rw[TR];exact bu
   have F3:Below W1.heap.size W1 W3/\Row W3 b1 [.slice none 0 0,.slice none 0 0,.slice none 0 0]/\Row W3 (b1+1) [.slice none 0 0,.slice none 0 0,.slice none 0 0]:=by
    have bA:Below W1.heap.size W1 W2:=by rw[<-b8.out];exact aD _ _
    have A:Below W2.heap.size W2 W3:=by rw[<-bn.out];exact aD _ _
    have K:Row W2 b1 [.slice none 0 0,.slice none 0 0,.slice none 0 0]:=by rw[<-b8.out,<-h7.out];exact aE W1 _ _
    have S:Row W3 (b1+1) [.slice none 0 0,.slice none 0 0,.slice none 0 0]:=by rw[<-bn.out,<-zz];exact aE W2 _ _
    exact⟨bA.trans (A.mono bA.size),K.below A,S⟩
   have F4:Below W1.heap.size W1 W4/\Row W4 b1 f1.toList/\Row W4 (b1+1) [.slice none 0 0,.slice none 0 0,.slice none 0 0]:=by
    rw[<-df.out];exact⟨RG.below_setCells (by rw[h7.out];exact TG _) _ _ _ F3.1,F3.2.1.put (by rw[ky];rfl),iG F3.2.2 oM⟩
   have F5:Below W1.heap.size W1 W5/\Row W5 b1 f1.toList/\Row W5 (b1+1) f2.toList:=by
    rw[<-cp.out];exact⟨RG.below_setCells (by rw[h7.out];omega) _ _ _ F4.1,iG F4.2.1 oM,F4.2.2.put (by rw[b7];rfl)⟩
   have K5:Hid (PH W5/\Row W5 b1 f1.toList/\Row W5 (b1+1) f2.toList/\GRq (QH r k F E) W5 (.agg f1.toList.toArray) m (λi=>G (m+i)) H U/\GRq (QH r k F E) W5 (.agg f2.toList.toArray) m G (λi=>H (m+i)) U):=⟨k8.out W1 W5 F5.1 K1.out,F5.2.1,F5.2.2,fq.keep (Kq.of_below F5.1),f5.keep (Kq.of_below F5.1)⟩
   have HT:Hid ((W2.heap.size=b1+1/\W3.there b1 0 f1.size/\W4.there (b1+1) 0 f2.size)/\f1.all (·.oneCell')=true/\f2.all (·.oneCell')=true/\(prog.info? 52).map (·.size)=some f1.size/\(prog.info? 52).map (·.size)=some f2.size/\(prog.info? 52).map (·.size)=some f1.toList.length/\(prog.info? 52).map (·.size)=some f2.toList.length):=⟨⟨zz,by rw[bi];exact F3.2.1.2.2,by rw[bu];exact F4.2.2.2.2⟩,g0,e8,by rw[bi];exact iGr,by rw[bu];exact iGr,by rw[ky];exact iGr,by rw[b7];exact iGr⟩
   obtain⟨y1,g5⟩:∃y,Hid (Um f1=y):=⟨_,rfl⟩
   obtain⟨y2,fl⟩:∃y,Hid (Um f2=y):=⟨_,rfl⟩
   rw[g5.out,fl.out];clear et bi bu g0 e8 fq f5 zz ky b7 F3 F4 F5 K1 K0 R1;go_wp2_with (first|(refine alR 11 h7 b8 ?_)|(refine eN (v:=.pointer (some ⟨b1+1,0,none⟩)) (w':=W3) rfl 52 12 rfl rfl ?_ ?_;(rw[<-bn.out,<-HT.1.1];kernel_rfl))|(refine Ui rfl 52 (.tmp 11) _ rfl b1 0 f1 ?_ ?_ ?_ ?_ ?_ ?_;rfl;exact g5.symm;exact HT.1.2.1;exact HT.2.2.2.1;exact HT.2.1;rw[df.out])|(refine Ui rfl 52 (.tmp 12) _ rfl (b1+1) 0 f2 ?_ ?_ ?_ ?_ ?_ ?_;rfl;exact fl.symm;exact HT.1.2.2;exact HT.2.2.2.2.1;exact HT.2.2.1;rw[cp.out])|fail)
   clear b8 bn df cp h7;simp only[Ug,TD,TK,TL];refine(RG.gwL [RG.pE (.agg f1.toList.toArray),RG.pE (.slice (some ⟨ga,oa,none⟩) n ca),RG.pE (iZ m),RG.pE (.slice (some ⟨ga,oa,none⟩) m ca),RG.pE (.slice (some ⟨Z,ob,none⟩) n J),RG.pE (iZ m),RG.pE (.slice (some ⟨Z,ob+m*4,none⟩) m (J-m)),RG.pM (λ_=>True) l1,RG.pE (pvl X),RG.pN W5.heap.size z33] (λW=>Below W5.heap.size W5 W) (λW W' M h=>h.trans (M.mono h.size))).tail2 10 kR kR kR ⟨
    RG.iS 52 11 b1 0 f1.toList uGr HT.2.2.2.2.2.1 rfl (λW S=>RG.range_below K5.2.1.2.1 S K5.2.1.1) (λ_=>rfl),
    RG.gO 2 (.slice (some ⟨ga,oa,none⟩) n ca),
    RG.gO 10 (iZ m),
    RG.gX 1 29 2 30 kg,
    RG.gO 3 (.slice (some ⟨Z,ob,none⟩) n J),
    RG.gO 10 (iZ m),
    RG.gX 4 32 5 33 k3,
    RG.tK 0 28 3 31 6 34 14 (λx y z=>#[x,y,z]) (λx y z W D K hz S=>by
     obtain rfl:x=.agg f1.toList.toArray:=D;obtain rfl:y=(.slice (some ⟨ga,oa,none⟩) m ca):=K;obtain rfl:z=(.slice (some ⟨Z,ob+m*4,none⟩) m (J-m)):=hz;refine(cS.1 W _ (k8 W5 W S K5.1) (K5.2.2.2.1.keep (Kq.of_below S))).mono ?_;rintro e W' ⟨uu,rfl,M,hs⟩;exact⟨_,rfl,M,hs.q.mono λ_ _=>trivial⟩),
    RG.wN 7 35 15 (λx=>#[x]) (λx W D S=>by
     have D:SmQ (λ_=>True) W x l1:=D;refine(cP.1 W x D.sm).mono ?_;rintro e W' ⟨uu,rfl,M,rfl⟩;exact⟨_,rfl,M,rfl⟩),
    RG.Ro z33 55 (λW W' hR S=>⟨_,rfl,S.size,hR⟩),yB5⟩ (TX _ _).drew ?_
   intro V db hR S;have ka:V 8=pvl X:=hR 8 dC;obtain⟨A,kx,h0,hw⟩:∃k,V 9=pZ k/\W5.heap.size<=k/\Row db k z33:=hR 9 dC;obtain⟨W7,bq⟩:∃W,Hid (db.setCells A 0 (aA X)=W):=⟨_,rfl⟩
   have hp:(aA X).length=33:=aK h8.1;have bp:Below W5.heap.size W5 W7:=by rw[<-bq.out];exact RG.below_setCells h0 _ _ _ S
   have dx:Row W7 A (aA X):=by rw[<-bq.out];exact hw.put (by rw[hp];rfl)
   have kb:Hid (db.there A 0 (aA X).toArray.size/\(prog.info? 55).map (·.size)=some (aA X).toArray.size):=by
    rw[UH,hp];exact⟨hw.2.2,iCP⟩
   dsimp only[RG.bW,UJ,Vw,Vx];simp only[Ug,TD,TK,TL];obtain⟨gr,c5⟩:∃x,Hid (pvl X=x):=⟨_,rfl⟩
   rw[ka,kx,c5.out];have fh:Hid (k+3<A):=TF ((h5 W5).1 K5.1).r3.1 h0;have c7:Hid (∀g,F.ownBlock=some g\/E.ownBlock=some g->g<A):=λg R=>by
    have h:=(h5 W5).1 K5.1;rcases R with R|R
    ·exact TF (h.tL.lt R).2 h0
    ·exact TF (h.tR.lt R).2 h0
   have K7:Hid (PH W7/\Row W7 (b1+1) f2.toList/\GRq (QH r k F E) W7 (.agg f2.toList.toArray) m G (λi=>H (m+i)) U/\Row W7 A (aA X)):=⟨k8.out W5 W7 bp K5.1,K5.2.2.1.below bp,K5.2.2.2.2.keep (Kq.of_below bp),dx⟩
   clear hR S ka kx h0 hw hp bp dx K5 kg k3;generalize V 0=s0;generalize V 1=s1;generalize V 2=s2;generalize V 3=s3;generalize V 4=s4;generalize V 5=s5;generalize V 6=s6;generalize V 7=s7;go_wp2_with (first|(refine stR 13 bq c5 kb.1 kb.2 (nM X) ?_)|fail)
   clear bq kb;simp only[Ug,TD,TK,TL];refine(RG.gwL [RG.pE (.agg f2.toList.toArray),RG.pE (.slice (some ⟨ga,oa,none⟩) n ca),RG.pE (iZ m),RG.pE (.slice (some ⟨ga,oa+m*4,none⟩) m (ca-m)),RG.pE (.slice (some ⟨Z,ob,none⟩) n J),RG.pE (iZ m),RG.pE (.slice (some ⟨Z,ob,none⟩) m J),RG.pM (λ_=>True) l2,RG.pE (pvl Y),RG.pN W7.heap.size z33] (λW=>Below W7.heap.size W7 W) (λW W' M h=>h.trans (M.mono h.size))).tail2 10 kR kR kR ⟨
    RG.iS 52 12 (b1+1) 0 f2.toList uGr HT.2.2.2.2.2.2 rfl (λW S=>RG.range_below K7.2.1.2.1 S K7.2.1.1) (λ_=>rfl),
    RG.gO 2 (.slice (some ⟨ga,oa,none⟩) n ca),
    RG.gO 10 (iZ m),
    RG.gX 1 38 2 39 k4,
    RG.gO 3 (.slice (some ⟨Z,ob,none⟩) n J),
    RG.gO 10 (iZ m),
    RG.gX 4 41 5 42 kd,
    RG.tK 0 37 3 40 6 43 14 (λx y z=>#[x,y,z]) (λx y z W D K hz S=>by
     obtain rfl:x=.agg f2.toList.toArray:=D;obtain rfl:y=(.slice (some ⟨ga,oa+m*4,none⟩) m (ca-m)):=K;obtain rfl:z=(.slice (some ⟨Z,ob,none⟩) m J):=hz;refine(cS.2 W _ (k8 W7 W S K7.1) (K7.2.2.1.keep (Kq.of_below S))).mono ?_;rintro e W' ⟨uu,rfl,M,hs⟩;exact⟨_,rfl,M,hs.q.mono λ_ _=>trivial⟩),
    RG.wN 7 44 15 (λx=>#[x]) (λx W D S=>by
     have D:SmQ (λ_=>True) W x l2:=D;refine(cP.2 W x D.sm).mono ?_;rintro e W' ⟨uu,rfl,M,rfl⟩;exact⟨_,rfl,M,rfl⟩),
    RG.Ro z33 55 (λW W' hR S=>⟨_,rfl,S.size,hR⟩),yB5⟩ (TX _ _).drew ?_
   intro V dh hR S;have ka:V 8=pvl Y:=hR 8 dC;obtain⟨D,kx,h0,hw⟩:∃k,V 9=pZ k/\W7.heap.size<=k/\Row dh k z33:=hR 9 dC;obtain⟨W9,ba⟩:∃W,Hid (dh.setCells D 0 (aA Y)=W):=⟨_,rfl⟩
   have hp:(aA Y).length=33:=aK h8.2.1;have d6:Below W7.heap.size W7 W9:=by rw[<-ba.out];exact RG.below_setCells h0 _ _ _ S
   have fi:Row W9 D (aA Y):=by rw[<-ba.out];exact hw.put (by rw[hp];rfl)
   have k9:Hid (dh.there D 0 (aA Y).toArray.size/\(prog.info? 55).map (·.size)=some (aA Y).toArray.size):=by
    rw[UH,hp];exact⟨hw.2.2,iCP⟩
   dsimp only[RG.bW,UJ,Vw,Vx];simp only[Ug,TD,TK,TL];obtain⟨gn,c8⟩:∃x,Hid (pvl Y=x):=⟨_,rfl⟩
   rw[ka,kx,c8.out];have K9:Hid (PH W9/\Row W9 A (aA X)/\Row W9 D (aA Y)/\W9.heap.size<=W9.heap.size):=⟨k8.out W7 W9 d6 K7.1,K7.2.2.2.below d6,fi,TG _⟩
   have fn:Hid (k+3<A/\k+3<D):=⟨fh.out,TF ((h5 W7).1 K7.1).r3.1 h0⟩
   have cf:Hid (∀g,F.ownBlock=some g\/E.ownBlock=some g->g<D):=λg R=>by
    have h:=(h5 W7).1 K7.1;rcases R with R|R
    ·exact TF (h.tL.lt R).2 h0
    ·exact TF (h.tR.lt R).2 h0
   clear hR S ka kx h0 hw hp d6 fi K7 k4 kd HT cS cP;generalize V 0=z0;generalize V 1=z1;generalize V 2=z2;generalize V 3=z3;generalize V 4=z4;generalize V 5=z5;generalize V 6=z6;generalize V 7=z7;go_wp2_with (first|(refine stR 14 ba c8 k9.1 k9.2 (nM Y) ?_)|fail)
   clear ba k9;simp only[Ug,TD,TK,TL];obtain⟨dP,k0,k2⟩:=TJ.1 uCP;have kk:(prog.info? 55).map (·.size)=some (aA X).length:=by rw[aK h8.1];exact iCP
   have kj:(prog.info? 55).map (·.size)=some (aA Y).length:=by rw[aK h8.2.1];exact iCP
   have ku:∀W W':TA,Below W.heap.size W W'->k+3<W.heap.size->A<W.heap.size->D<W.heap.size->(W.cell? ⟨k+3,0,none⟩=some F/\W.cell? ⟨k+3,1,none⟩=some E/\W.rangeAt A 0 (aA X)/\W.rangeAt D 0 (aA Y))->(W'.cell? ⟨k+3,0,none⟩=some F/\W'.cell? ⟨k+3,1,none⟩=some E/\W'.rangeAt A 0 (aA X)/\W'.rangeAt D 0 (aA Y)):=λW W' M h3 g7 bg h=>⟨by rw[M.cell (p:=⟨k+3,0,none⟩) h3];exact h.1,by rw[M.cell (p:=⟨k+3,1,none⟩) h3];exact h.2.1,RG.range_below h.2.2.1 M g7,RG.range_below h.2.2.2 M bg⟩
   have d7:∀W W':TA,W'.heap[k+3]? = W.heap[k+3]?->W'.heap[A]? = W.heap[A]?->W'.heap[D]? = W.heap[D]?->(W.cell? ⟨k+3,0,none⟩=some F/\W.cell? ⟨k+3,1,none⟩=some E/\W.rangeAt A 0 (aA X)/\W.rangeAt D 0 (aA Y))->(W'.cell? ⟨k+3,0,none⟩=some F/\W'.cell? ⟨k+3,1,none⟩=some E/\W'.rangeAt A 0 (aA X)/\W'.rangeAt D 0 (aA Y)):=λW W' e3 gg g9 h=>⟨by rw[Ua (a:=⟨k+3,0,none⟩) e3];exact h.1,by rw[Ua (a:=⟨k+3,1,none⟩) e3];exact h.2.1,λj u hj=>by rw[Ua (a:=⟨A,0+j,none⟩) gg];exact h.2.2.1 j u hj,λj u hj=>by rw[Ua (a:=⟨D,0+j,none⟩) g9];exact h.2.2.2 j u hj⟩
   have P9:=(h5 W9).1 K9.1;have gc:=P9.r3.1;obtain⟨-,gm,-,e9⟩:=P9.r3;have S9:W9.drew.cell? ⟨k+3,0,none⟩=some F/\W9.drew.cell? ⟨k+3,1,none⟩=some E/\W9.drew.rangeAt A 0 (aA X)/\W9.drew.rangeAt D 0 (aA Y):=⟨e9.2.1 0 _ rfl,e9.2.1 1 _ rfl,K9.2.1.2.1,K9.2.2.1.2.1⟩
   have z9:k+3<W9.drew.heap.size/\A<W9.drew.heap.size/\D<W9.drew.heap.size:=⟨P9.r3.1,K9.2.1.1,K9.2.2.1.1⟩
   have P9:=P9.drew;have dw:Lb i=X:=by rw[eu.1 i,HS.2.1];exact h8.2.2.1.symm
   have g3:Rb i=Y:=by rw[eu.2 i,HS.2.2];exact h8.2.2.2.symm
   have hh:∀(i:Nat),i≠13->i≠15->∀(l:Array Bool) (W:TA),(((l.setIfInBounds i true).getD 13 false=false->W.cell? ⟨k+3,0,none⟩=some F)/\((l.setIfInBounds i true).getD 15 false=false->W.cell? ⟨k+3,1,none⟩=some E)/\W.rangeAt A 0 (aA X)/\W.rangeAt D 0 (aA Y))->((l.getD 13 false=false->W.cell? ⟨k+3,0,none⟩=some F)/\(l.getD 15 false=false->W.cell? ⟨k+3,1,none⟩=some E)/\W.rangeAt A 0 (aA X)/\W.rangeAt D 0 (aA Y)):=λi h1 h2 l W h=>⟨λe=>h.1 (by rw[XB false h1];exact e),λe=>h.2.1 (by rw[XB false h2];exact e),h.2.2⟩
   have mS:∀(l:Array Bool) (W:TA),(W.cell? ⟨k+3,0,none⟩=some F/\W.cell? ⟨k+3,1,none⟩=some E/\W.rangeAt A 0 (aA X)/\W.rangeAt D 0 (aA Y))->((l.getD 13 false=false->W.cell? ⟨k+3,0,none⟩=some F)/\(l.getD 15 false=false->W.cell? ⟨k+3,1,none⟩=some E)/\W.rangeAt A 0 (aA X)/\W.rangeAt D 0 (aA Y)):=λl W h=>⟨λ_=>h.1,λ_=>h.2.1,h.2.2⟩
   refine anyS.begin (λl W=>(l.getD 13 false=false->W.cell? ⟨k+3,0,none⟩=some F)/\(l.getD 15 false=false->W.cell? ⟨k+3,1,none⟩=some E)/\W.rangeAt A 0 (aA X)/\W.rangeAt D 0 (aA Y)) kR ?_;have bS:∀(p:Nat),Bef (λl W=>(yBL l 13 false=false->WN W ⟨k+3,0,none⟩=some F)/\(yBL l 15 false=false->WN W ⟨k+3,1,none⟩=some E)/\XH W A 0 (aA X)/\XH W D 0 (aA Y)) p W9.drew:=λp=>⟨#[],by simp,mS _ _ S9⟩
   refine anyS.val (i:=0) (d:=some 46) (x:=.pointer (some ⟨k+3,0,none⟩)) rfl 13 (hh 0 dC dC) (bS 13) (mS _ _ S9) ?_;simp only[Ug,TD,TK,TL];refine anyS.cel (i:=1) (d:=some 47) (x:=F) rfl 13 (hh 1 dC dC) 24 46 (k+3) 0 rfl uLL (λW ⟨l,e,h⟩=>h.1 e) (bS 13) (mS _ _ S9) ?_;simp only[Ug,TD,TK,TL];refine anyS.row (i:=2) (d:=some 48) (cs:=aA X) rfl 13 (hh 2 dC dC) 55 13 A 0 dP rfl k0 k2 kk (λW ⟨l,e,h⟩=>h.2.2.1) (bS 13) (mS _ _ S9) ?_;simp only[Ug,TD,TK,TL];refine anyS.val (i:=6) (d:=some 52) (x:=.pointer (some ⟨k+3,1,none⟩)) rfl 13 (hh 6 dC dC) (bS 13) (mS _ _ S9) ?_;simp only[Ug,TD,TK,TL];refine anyS.cel (i:=7) (d:=some 53) (x:=E) rfl 15 (hh 7 dC dC) 24 52 (k+3) 1 rfl uLL (λW ⟨l,e,h⟩=>h.2.1 e) (bS 15) (mS _ _ S9) ?_;simp only[Ug,TD,TK,TL];refine anyS.row (i:=8) (d:=some 54) (cs:=aA Y) rfl 14 (hh 8 dC dC) 55 14 D 0 dP rfl k0 k2 kj (λW ⟨l,e,h⟩=>h.2.2.2) (bS 14) (mS _ _ S9) ?_;simp only[Ug,TD,TK,TL];clear bS;refine anyS.cal (i:=3) (d:=some 49) rfl (pC h8.1 W9.drew) (λxa Wa he=>?_);have Pa:=P9.grow he.1;have Sa:=ku _ _ he.1 z9.1 z9.2.1 z9.2.2 S9;have za:k+3<Wa.heap.size/\A<Wa.heap.size/\D<Wa.heap.size:=by have:=he.1.size;omega
   obtain⟨gx,rfl⟩:=he.2.2;have Ea:ElQ (QH r k F E) 33 Wa (r33 gx) X:=he.2.1.mono2 λg _ R=>P9.qn g R
   have dc:=mk2 he.1 he.2.1;refine⟨mS _ _ Sa,?_⟩;clear he;simp only[Ug,TD,TK,TL];have bb:=aD Wa (.cells #[r33 gx] 23);have ds:=MK Ea Wa;have Pb:=Pa.grow bb;have Sb:=ku _ _ bb za.1 za.2.1 za.2.2 Sa;have zb:k+3<(Wa.alloc (.cells #[r33 gx] 23)).heap.size/\A<(Wa.alloc (.cells #[r33 gx] 23)).heap.size/\D<(Wa.alloc (.cells #[r33 gx] 23)).heap.size:=by have:=bb.size;omega
   have dp:(Wa.alloc (.cells #[r33 gx] 23)).cell? ⟨Wa.heap.size,0,none⟩=some (r33 gx):=(aE Wa [r33 gx] 23).2.1 0 _ rfl;refine anyS.ins (i:=4) (d:=some 50) (v:=.slice (some ⟨Wa.heap.size,0,none⟩) 1 1) (w':=Wa.alloc (.cells #[r33 gx] 23)) (I:=We 24 1 #[(0,r33 gx)]) rfl ds (mS _ _ Sb) ?_;simp only[Ug,TD,TK,TL];obtain⟨K,Wc,fe,Pc,A1⟩:=P9.appL (ga:=Wa.heap.size) (gx:=gx) (dc.1.trans (bb.mono dc.1.size)) (by rw[dw];exact dc.2.keep (Kq.of_below bb)) dp oM;have Sc:=d7 _ _ (A1.keep (k+3) zb.1 λe=>by have:=(Pb.tL.lt e).1;omega) (A1.keep A zb.2.1 λe=>by have:=c7.out _ (Ub e);omega) (A1.keep D zb.2.2 λe=>by have:=cf.out _ (Ub e);omega) Sb;have zc:k+3<Wc.heap.size/\A<Wc.heap.size/\D<Wc.heap.size:=by have:=A1.size;omega
   refine anyS.ins (i:=5) (d:=some 51) (v:=K) (w':=Wc) (I:=Ur #[24,24] 24 #[F,.slice (some ⟨Wa.heap.size,0,none⟩) 1 1]) rfl fe (mS _ _ Sc) ?_;simp only[Ug,TD,TK,TL];clear fe dp ds Ea Sa Sb Pa Pb A1 za zb bb;refine anyS.val (i:=12) (d:=some 58) (x:=.pointer (some ⟨k+3,0,none⟩)) rfl 13 (hh 12 dC dC) ⟨#[],by simp,mS _ _ Sc⟩ (mS _ _ Sc) ?_;simp only[Ug,TD,TK,TL];refine anyS.cal (i:=9) (d:=some 55) rfl (pC h8.2.1 Wc) (λxd Wd h9=>?_);have Pd:=Pc.grow h9.1;have Sd:=ku _ _ h9.1 zc.1 zc.2.1 zc.2.2 Sc;have zd:k+3<Wd.heap.size/\A<Wd.heap.size/\D<Wd.heap.size:=by have:=h9.1.size;omega
   obtain⟨gy,rfl⟩:=h9.2.2;have Ed:ElQ (QH r k K E) 33 Wd (r33 gy) Y:=h9.2.1.mono2 λg _ R=>Pc.qn g R
   have cz:=mk2 h9.1 h9.2.1;refine⟨mS _ _ Sd,?_⟩;clear h9;simp only[Ug,TD,TK,TL];have bd:=aD Wd (.cells #[r33 gy] 23);have c6:=MK Ed Wd;have Pe:=Pd.grow bd;have Se:=ku _ _ bd zd.1 zd.2.1 zd.2.2 Sd;have ze:k+3<(Wd.alloc (.cells #[r33 gy] 23)).heap.size/\A<(Wd.alloc (.cells #[r33 gy] 23)).heap.size/\D<(Wd.alloc (.cells #[r33 gy] 23)).heap.size:=by have:=bd.size;omega
   have ee:(Wd.alloc (.cells #[r33 gy] 23)).cell? ⟨Wd.heap.size,0,none⟩=some (r33 gy):=(aE Wd [r33 gy] 23).2.1 0 _ rfl;refine anyS.ins (i:=10) (d:=some 56) (v:=.slice (some ⟨Wd.heap.size,0,none⟩) 1 1) (w':=Wd.alloc (.cells #[r33 gy] 23)) (I:=We 24 1 #[(0,r33 gy)]) rfl c6 (mS _ _ Se) ?_;simp only[Ug,TD,TK,TL];have fd:ElQ (Wc.heap.size<=·) 33 (Wd.alloc (.cells #[r33 gy] 23)) (r33 gy) (Rb i):=by rw[g3];exact cz.2.keep (Kq.of_below bd)
   have dl:i<=900:=oM;have ej:=Pc.appR (ga:=Wd.heap.size) (gx:=gy) (cz.1.trans (bd.mono cz.1.size)) fd ee dl;clear fd dl;obtain⟨T,Wf,fs,Pf,A2⟩:=ej;have Sf:=d7 _ _ (A2.keep (k+3) ze.1 λe=>by have:=(Pe.tR.lt e).1;omega) (A2.keep A ze.2.1 λe=>by have:=c7.out _ (T8 e);omega) (A2.keep D ze.2.2 λe=>by have:=cf.out _ (T8 e);omega) Se;have zf:A<Wf.heap.size/\D<Wf.heap.size:=by have:=A2.size;omega
   refine anyS.ins (i:=11) (d:=some 57) (v:=T) (w':=Wf) (I:=Ur #[24,24] 24 #[E,.slice (some ⟨Wd.heap.size,0,none⟩) 1 1]) rfl fs (mS _ _ Sf) ?_;simp only[Ug,TD,TK,TL];clear fs ee c6 Ed Sd Se Pd Pe A2 zd ze bd Pc zc Sc;have kl:=Pf.tL.one;have kw:=Pf.tR.one;obtain⟨-,gp,-,d9⟩:=Pf.r3;have dk:Wf.there (k+3) 0 1:=λj hj=>d9.2.2 j (TF hj (Nat.succ_le_succ (VH _)))
   have eo:Wf.there (k+3) 1 1:=λj hj=>by
    have kp:j=0:=oM;subst kp;exact d9.2.2 1 (yA2 (Yz _))
   have gh:A≠k+3:=by have:=fn.1;omega
   have gi:D≠k+3:=by have:=fn.2;omega
   have rg:∀(o:Nat) (x:TC) (W:TA),W.rangeAt A 0 (aA X)/\W.rangeAt D 0 (aA Y)->(W.setCells (k+3) o [x]).rangeAt A 0 (aA X)/\(W.setCells (k+3) o [x]).rangeAt D 0 (aA Y):=λo x W h=>⟨UW h.1 _ _ _ (Ub gh),UW h.2 _ _ _ (Ub gi)⟩
   have co:(Wf.setCells (k+3) 0 [K]).cell? ⟨k+3,1,none⟩=some E:=(iN (x:=K) (o:=0) d9 (Yz _)).2.1 1 _ rfl;refine anyS.sto (i:=13) (d:=none) rfl 24 (.tmp 58) (.tmp 51) rfl (k+3) 0 K kl.1 kl.2 dk iLL ⟨λe=>absurd e (nfB kR),λ_=>co,rg _ _ _ Sf.2.2⟩ ?_;simp only[Ug,TD,TK,TL];refine anyS.nxt (i:=14) (d:=some 59) (x:=.pointer (some ⟨k+3,1,none⟩)) rfl ⟨λe=>absurd e (nfB kR),λ_=>co,rg _ _ _ Sf.2.2⟩ ?_;simp only[Ug,TD,TK,TL];refine anyS.sto (i:=15) (d:=none) rfl 24 (.tmp 59) (.tmp 57) rfl (k+3) 1 T kw.1 kw.2 (VM eo _ _ _) iLL ⟨λe=>absurd e (nfB kR),λe=>absurd e (nfB kR),rg _ _ _ (rg _ _ _ Sf.2.2)⟩ ?_;simp only[Ug,TD,TK,TL];refine anyS.fin kR (λWg eg=>?_) _;have Pg:=Pf.put' eg;have ex:Wg.rangeAt A 0 (aA X)/\Wg.rangeAt D 0 (aA Y):=by rw[eg];exact rg 1 T _ (rg 0 K _ Sf.2.2)
   have zg:A<Wg.heap.size/\D<Wg.heap.size:=by rw[eg,RG.setCells_size,RG.setCells_size];exact zf
   clear Pf Sf kl kw dk eo rg co zf mS hh S9 P9 z9 ku d7 eg;have KG:=Hid.mk' (U8 Pg (U8 ex zg));clear Pg ex zg;obtain⟨dL,cd,ce⟩:=TJ.1 uLg;have d2:Hid ((prog.underlying 64=some dL/\dL.isRow=true)/\prog.underlying 55=some dP/\dP.isRow=true):=⟨⟨cd,ce⟩,k0,k2⟩
   have kc:Hid ((prog.info? 55).map (·.size)=some (aA X).length/\(prog.info? 55).map (·.size)=some (aA Y).length):=⟨kk,kj⟩
   clear cd ce k0 k2 kk kj dw g3 gc;obtain⟨pX,dj⟩:∃v,Hid (pvl X=v):=⟨_,rfl⟩
   obtain⟨pY,f8⟩:∃v,Hid (pvl Y=v):=⟨_,rfl⟩
   have ec:Hid (TW prog 43 #[vl,.string ⟨#[108,101,102,116]⟩,pX,.string ⟨#[114,105,103,104,116]⟩,pY] Wg (Ret λe w'=>SP.Only r 0 32 Wg w'/\Holds encB w' r 0 sx/\e=nv cx.val)):=by
    rw[<-bf.out,<-dj.out,<-f8.out];exact ez.out Wg KG.1.lg KG.1.ls
   go_wp2_with (first|(refine UL rfl 64 (.tmp 4) rfl k 0 ?_ [pZ r] dL ?_ ?_ ?_ ?_ ?_;rfl;exact KG.1.r0.2.1;exact d2.1.1;exact d2.1.2;exact iLg;rw[show Um [pZ r].toArray=vl from bf.out])|(refine ldR 13 KG.2.1.1 dj uCP kc.1 ?_)|(refine ldR 14 KG.2.1.2 f8 uCP kc.2 ?_)|fail)
   refine ec.mono ?_;rintro e Wh ⟨uu,rfl,fz,fj,rfl⟩;have ff:Hid (Ph w Wh r k (i+1) (i+1) (m+m) K T K T v (.slice (some ⟨ga,oa,none⟩) (m+m) ca) (.slice (some ⟨Z,ob,none⟩) (m+m) J) Lb Rb sx (λj=>(L.a j).val) (λj=>(L.b j).val) G H U):=KG.1.say fz fj e6.2;clear fz fj ec KG d2 kc ez;obtain⟨x,hu⟩:∃x,Hid (cx.val=x):=⟨_,rfl⟩
   obtain⟨xi,h6⟩:∃x,Hid ((ivF cx).val=x):=⟨_,rfl⟩
   have ft:Hid (∀W:TA,TW prog 44 #[nv x] W (rZ W λe w'=>e=nv xi)):=by
    rw[<-hu.out,<-h6.out];exact λW=>EE HF.2.1 cx.val cx.isLt W
   rw[hu.out];obtain⟨b5,bk⟩:∃b,Hid (Wh.heap.size=b):=⟨_,rfl⟩
   obtain⟨Wi,cy⟩:∃W,Hid (Wh.alloc (.cells #[uZ 0,uZ 0,uZ 0,uZ 0] 46)=W):=⟨_,rfl⟩
   obtain⟨Wj,bc⟩:∃W,Hid (Wi.setCells b5 0 (wn x)=W):=⟨_,rfl⟩
   have Fi:Hid (Row Wi b5 [uZ 0,uZ 0,uZ 0,uZ 0]/\Below Wh.heap.size Wh Wi):=by rw[<-cy.out,<-bk.out];exact⟨aE Wh _ _,aD _ _⟩
   have bj:Below Wh.heap.size Wh Wj:=by rw[<-bc.out];exact RG.below_setCells (by rw[bk.out];exact TG _) _ _ _ Fi.2
   have Kj:Hid (Ph w Wj r k (i+1) (i+1) (m+m) K T K T v (.slice (some ⟨ga,oa,none⟩) (m+m) ca) (.slice (some ⟨Z,ob,none⟩) (m+m) J) Lb Rb sx (λj=>(L.a j).val) (λj=>(L.b j).val) G H U/\Row Wj b5 (wn x)):=⟨ff.grow bj,by rw[<-bc.out];exact Fi.1.put rfl⟩
   obtain⟨vx,bh⟩:∃v,Hid (nv x=v):=⟨_,rfl⟩
   have ci:Hid (∀W:TA,TW prog 44 #[vx] W (rZ W λe w'=>e=nv xi)):=by rw[<-bh.out];exact ft.out
   rw[bh.out];clear bj ff ft;go_wp2_with (first|(refine alR 15 bk cy ?_)|(refine stR 15 bc bh Fi.1.2.2 nSc (bT x) ?_)|(refine ldR 15 Kj.2.2.1 bh rSc nSc ?_)|fail)
   refine(ci Wj).mono ?_;rintro e Wk ⟨uu,rfl,h0,rfl⟩;obtain⟨b6,bv⟩:∃b,Hid (Wk.heap.size=b):=⟨_,rfl⟩
   obtain⟨Wl,cv⟩:∃W,Hid (Wk.alloc (.cells #[uZ 0,uZ 0,uZ 0,uZ 0] 46)=W):=⟨_,rfl⟩
   obtain⟨Wm,bl⟩:∃W,Hid (Wl.setCells b6 0 (wn xi)=W):=⟨_,rfl⟩
   have Fl:Hid (Row Wl b6 [uZ 0,uZ 0,uZ 0,uZ 0]/\Below Wk.heap.size Wk Wl):=by rw[<-cv.out,<-bv.out];exact⟨aE Wk _ _,aD _ _⟩
   have bm:Below Wj.heap.size Wj Wm:=by
    have:Below Wk.heap.size Wk Wm:=by rw[<-bl.out];exact RG.below_setCells (by rw[bv.out];exact TG _) _ _ _ Fl.2
    exact h0.trans (this.mono h0.size)
   have Km:Hid (Ph w Wm r k (i+1) (i+1) (m+m) K T K T v (.slice (some ⟨ga,oa,none⟩) (m+m) ca) (.slice (some ⟨Z,ob,none⟩) (m+m) J) Lb Rb sx (λj=>(L.a j).val) (λj=>(L.b j).val) G H U/\Row Wm b5 (wn x)/\Row Wm b6 (wn xi)):=⟨Kj.1.grow bm,Kj.2.below bm,by rw[<-bl.out];exact Fl.1.put rfl⟩
   obtain⟨vi,ek⟩:∃v,Hid (nv xi=v):=⟨_,rfl⟩
   rw[ek.out];clear bm h0 Kj Fi ci cy bc bk;go_wp2_with (first|(refine alR 16 bv cv ?_)|(refine stR 16 bl ek Fl.1.2.2 nSc (bT xi) ?_)|fail)
   clear Fl cv bl bv;simp only[Ug,TD,TK,TL];have bt:x<N:=by rw[<-hu.out];exact cx.isLt
   have kh:xi<N:=by rw[<-h6.out];exact(ivF cx).isLt
   have dy:sIn N x=xi:=by rw[<-hu.out,<-h6.out];rfl
   have fb:GOk N (m+m) c G H U:=Jg (by have:=sG.2.2.1;omega) sG.2.2.2.1 sG.2.2.2.2.1 sG.1 sG.2.1 HF.2.2.2.1 HF.2.2.2.2.1 HF.2.2.2.2.2.1;have PW:Hid (∀W,Below Wm.heap.size Wm W->Ph w W r k (i+1) (i+1) (m+m) K T K T v (.slice (some ⟨ga,oa,none⟩) (m+m) ca) (.slice (some ⟨Z,ob,none⟩) (m+m) J) Lb Rb sx (λj=>(L.a j).val) (λj=>(L.b j).val) G H U):=λW M=>Km.1.grow M
   have cF:Hid ((∀W,Below Wm.heap.size Wm W->TW prog 45 #[.slice (some ⟨ga,oa,none⟩) n ca,nv x,nv xi] W (rZ W λe w'=>SLq (QH r k K T) w' e m (nE N x xi m (λj=>(L.a j).val))))/\(∀W,Below Wm.heap.size Wm W->TW prog 45 #[.slice (some ⟨Z,ob,none⟩) n J,nv xi,nv x] W (rZ W λe w'=>SLq (QH r k K T) w' e m (nE N xi x m (λj=>(L.b j).val))))/\(∀W,Below Wm.heap.size Wm W->TW prog 46 #[v,nv x] W (rZ W λe w'=>GRq (QH r k K T) w' e m (lG N xi x m G) (lG N x xi m H) U))):=by
    rw[<-hn.out];refine⟨λW M=>?_,λW M=>?_,λW M=>?_⟩
    ·refine(Jm HF.2.1 m (by have:=sG.2.2.2.2.2.1;omega) _ x xi bt kh (λj _=>(L.a j).isLt) _ W (PW W M).la).mono ?_;rintro e w' ⟨uu,rfl,h1,h2⟩;exact⟨_,rfl,h1,h2.mono λg R=>(PW W M).qn g R⟩
    ·refine(Jm HF.2.1 m (by have:=sG.2.2.2.2.2.1;omega) _ xi x kh bt (λj _=>(L.b j).isLt) _ W (PW W M).lb).mono ?_;rintro e w' ⟨uu,rfl,h1,h2⟩;exact⟨_,rfl,h1,h2.mono λg R=>(PW W M).qn g R⟩
    ·have:=My HF.2.1 m c sG.2.2.1 G H U fb x bt v W (PW W M).qn (PW W M).gr;rw[dy]at this;exact this
   obtain⟨ev,em,kv,en,cj⟩:=Km.1.r1;have k7:Hid (v=.agg ev/\Row Wm (k+1) ev.toList/\(prog.info? 52).map (·.size)=some ev.toList.length/\ev.size=3):=⟨em,cj,by rw[TR,kv];exact iGr,kv⟩
   clear em kv en cj bt kh dy fb;refine(RG.gwL [RG.pE (.slice (some ⟨ga,oa,none⟩) n ca),RG.pE (nv x),RG.pE (nv xi),RG.pS (QH r k K T) m (nE N x xi m (λj=>(L.a j).val)),RG.pE (.slice (some ⟨Z,ob,none⟩) n J),RG.pE (nv xi),RG.pE (nv x),RG.pS (QH r k K T) m (nE N xi x m (λj=>(L.b j).val)),RG.pE (.agg ev.toList.toArray),RG.pE (nv x),RG.pR (QH r k K T) m (lG N xi x m G) (lG N x xi m H) U] (λW=>Below Wm.heap.size Wm W) (λW W' M h=>h.trans (M.mono h.size))).tail2 11 kR kR kR ⟨
    RG.gO 2 (.slice (some ⟨ga,oa,none⟩) n ca),
    RG.gLo 15 (λW S=>RG.range_below Km.2.1.2.1 S Km.2.1.1) rSc nSc,
    RG.gLo 16 (λW S=>RG.range_below Km.2.2.2.1 S Km.2.2.1) rSc nSc,
    RG.tK 0 66 1 67 2 68 45 (λx y z=>#[x,y,z]) (λa1 a2 a3 W h1 h2 h3 S=>by
     obtain rfl:a1=(.slice (some ⟨ga,oa,none⟩) n ca):=h1;obtain rfl:a2=nv x:=h2;obtain rfl:a3=nv xi:=h3;refine(cF.1 W S).mono ?_;rintro e W' ⟨uu,rfl,M,hs⟩;exact⟨_,rfl,M,hs⟩),
    RG.gO 3 (.slice (some ⟨Z,ob,none⟩) n J),
    RG.gLo 16 (λW S=>RG.range_below Km.2.2.2.1 S Km.2.2.1) rSc nSc,
    RG.gLo 15 (λW S=>RG.range_below Km.2.1.2.1 S Km.2.1.1) rSc nSc,
    RG.tK 4 70 5 71 6 72 45 (λx y z=>#[x,y,z]) (λa1 a2 a3 W h1 h2 h3 S=>by
     obtain rfl:a1=(.slice (some ⟨Z,ob,none⟩) n J):=h1;obtain rfl:a2=nv xi:=h2;obtain rfl:a3=nv x:=h3;refine(cF.2.1 W S).mono ?_;rintro e W' ⟨uu,rfl,M,hs⟩;exact⟨_,rfl,M,hs⟩),
    RG.iS 52 5 (k+1) 0 ev.toList uGr k7.2.2.1 kR (λW S=>RG.range_below k7.2.1.2.1 S k7.2.1.1) (λ_=>rfl),
    RG.gLo 15 (λW S=>RG.range_below Km.2.1.2.1 S Km.2.1.1) rSc nSc,
    RG.nD 8 74 9 75 46 (λx y=>#[x,y]) (λa1 a2 W h1 h2 S=>by
     obtain rfl:a1=v:=(show a1=.agg ev.toList.toArray from h1).trans k7.1.symm;obtain rfl:a2=nv x:=h2;refine(cF.2.2 W S).mono ?_;rintro e W' ⟨uu,rfl,M,hs⟩;exact⟨_,rfl,M,hs⟩),yB5⟩ (TX _ _).drew ?_
   intro V Wn hR S;have ct:SLq (QH r k K T) Wn (V 3) m (nE N x xi m (λj=>(L.a j).val)):=hR 3 dC;have d0:SLq (QH r k K T) Wn (V 7) m (nE N xi x m (λj=>(L.b j).val)):=hR 7 dC;have k5:GRq (QH r k K T) Wn (V 10) m (lG N xi x m G) (lG N x xi m H) U:=hR 10 dC;obtain⟨ef,da,ko,ck⟩:=k5.ar;rw[da]at k5;dsimp only[RG.bW,UJ,Vw,Vx];simp only[Ug,TD,TK,TL];rw[da];generalize V 3=na at ct⊢;generalize V 7=nb at d0⊢;have Pn:=(PW Wn S).next ct d0 k5;obtain⟨Wo,fa⟩:∃W,Hid (Wn.setCells (k+1) 0 ef.toList=W):=⟨_,rfl⟩
   rw[fa.out]at Pn;have d8:Hid (Wn.there (k+1) 0 ef.size/\(prog.info? 52).map (·.size)=some ef.size/\ef.all (·.oneCell')=true):=by
    refine⟨?_,by rw[ko];exact iGr,ck⟩;rw[ko];have:=(k7.2.1.below S).2.2;rw[TR,k7.2.2.2]at this;exact this
   have c9:(aO C f).mY (chF N) ivF u m L=⟨sx,Md.fS cx (ivF cx) m L.a,Md.fS (ivF cx) cx m L.b,(aO C f).fP (ivF cx) cx m L.g,(aO C f).fP cx (ivF cx) m L.h⟩:=by
    unfold Md.mY;rw[e6.1]
   have f0:Hid (∃F E v G H,Gd N (2^(t-(i+1))) (2^(i+1)) G ((aO C f).pst (chF N) ivF u t q (i+1)).g/\Gd N (2^(t-(i+1))) (2^(i+1)) H ((aO C f).pst (chF N) ivF u t q (i+1)).h/\Ph w Wo r k (i+1) (i+1) (2^(t-(i+1))) F E F E v na nb Lb Rb ((aO C f).pst (chF N) ivF u t q (i+1)).s (λj=>(((aO C f).pst (chF N) ivF u t q (i+1)).a j).val) (λj=>(((aO C f).pst (chF N) ivF u t q (i+1)).b j).val) G H U):=by
    show ∃F E v G H,_;rw[HS.1,c9,HE.1,HE.2];have ea:nE N x xi m (λj=>(L.a j).val)=λj=>(Md.fS cx (ivF cx) m L.a j).val:=by
     rw[<-hu.out,<-h6.out];funext j;exact Ca cx (ivF cx) m L.a j
    have eb:nE N xi x m (λj=>(L.b j).val)=λj=>(Md.fS (ivF cx) cx m L.b j).val:=by
     rw[<-hu.out,<-h6.out];funext j;exact Ca (ivF cx) cx m L.b j
    rw[ea,eb]at Pn;have g1:=sG.1.fold C f (ivF cx) cx;have g2:=sG.2.1.fold C f cx (ivF cx);rw[hu.out,h6.out]at g1 g2;exact⟨_,_,_,_,_,g1,g2,Pn⟩
   obtain⟨vf,f9⟩:∃v,Hid (Um ef=v):=⟨_,rfl⟩
   rw[f9.out];clear hR S ct d0 k5 da ko ck Pn c9 cF PW Km;generalize V 0=q0;generalize V 1=q1;generalize V 2=q2;generalize V 4=q4;generalize V 5=q5;generalize V 6=q6;generalize V 8=q8;generalize V 9=q9;go_wp2_with (first|(refine Ui rfl 52 (.tmp 5) _ rfl (k+1) 0 ef ?_ ?_ ?_ ?_ ?_ ?_;rfl;exact f9.symm;exact d8.1;exact d8.2.1;exact d8.2.2;rw[fa.out])|fail)
   go_roundg (gk-1)
   case measure=>have:=HI.out;omega
   case rel=>exact⟨i+1,by have:=HI.out;omega,f0⟩
  ·have gd:i=t:=oM;subst gd;obtain⟨F,E,v,G,H,-,-,h4⟩:=KM.out;clear KM;rw[Yg,Wx]at h4;obtain⟨ga,oa,ca,rfl,-,qa,ey,Y⟩:=id h4.la;obtain⟨Z,ob,J,rfl,-,qb,er,V⟩:=id h4.lb;have Y:=Y 0 dC;have V:=V 0 dC;obtain⟨a0,di⟩:∃a,Hid ((((aO C f).pst (chF N) ivF u i q i).a 0).val=a):=⟨_,rfl⟩
   obtain⟨b0,d5⟩:∃a,Hid ((((aO C f).pst (chF N) ivF u i q i).b 0).val=a):=⟨_,rfl⟩
   have Y:wr.rangeAt ga (oa+4*0) (wn a0):=by rw[<-di.out];exact Y
   have V:wr.rangeAt Z (ob+4*0) (wn b0):=by rw[<-d5.out];exact V
   have dq:Hid (a0<N/\b0<N):=⟨by rw[<-di.out];exact Fin.isLt _,by rw[<-d5.out];exact Fin.isLt _⟩
   have KP:=Hid.mk' h4;have KR:Hid (wr.rangeAt ga (oa+4*0) (wn a0)/\wr.rangeAt Z (ob+4*0) (wn b0)/\ga<wr.heap.size/\Z<wr.heap.size):=⟨Y,V,ey,er⟩
   have hz:k+4<=wr.heap.size:=h4.r3.1;have cu:=Hid.mk' hz;obtain⟨dS,ke,kr⟩:=TJ.1 rSc;have na:ga≠k+3:=by have:=qa.2.1;omega
   have nb:Z≠k+3:=by have:=qb.2.1;omega
   have K:∀W,Below wr.heap.size wr W->W.rangeAt ga (oa+4*0) (wn a0)/\W.rangeAt Z (ob+4*0) (wn b0):=λW M=>⟨RG.range_below Y M ey,RG.range_below V M er⟩
   have de:∀(o:Nat) (x:TC) (W:TA),W.rangeAt ga (oa+4*0) (wn a0)/\W.rangeAt Z (ob+4*0) (wn b0)->(W.setCells (k+3) o [x]).rangeAt ga (oa+4*0) (wn a0)/\(W.setCells (k+3) o [x]).rangeAt Z (ob+4*0) (wn b0):=λo x W h=>⟨UW h.1 _ _ _ (Ub na),UW h.2 _ _ _ (Ub nb)⟩
   have bd:Below wr.heap.size wr wr.drew:=(TX _ _).drew;clear h4 hz hi;go_wp2_with fail
   refine anyS.begin (λ_ W=>W.rangeAt ga (oa+4*0) (wn a0)/\W.rangeAt Z (ob+4*0) (wn b0)) kR ?_;have bS:Bef (λ_ W=>XH W ga (oa+4*0) (wn a0)/\XH W Z (ob+4*0) (wn b0)) 11 wr.drew:=⟨#[],by simp,K _ bd⟩
   refine anyS.val (i:=0) (d:=some 77) (x:=.slice (some ⟨ga,oa,none⟩) 1 ca) rfl 11 (λ_ _ h=>h) bS (K _ bd) ?_;simp only[Ug,TD,TK,TL];refine anyS.val (i:=1) (d:=some 78) (x:=.pointer (some ⟨ga,oa+4*0,none⟩)) rfl 11 (λ_ _ h=>h) bS (K _ bd) ?_ (hv:=hvI (AK ga oa 1 ca 0 dC) kR);simp only[Ug,TD,TK,TL];refine anyS.row (i:=2) (d:=some 79) (cs:=wn a0) rfl 11 (λ_ _ h=>h) 46 78 ga (oa+4*0) dS rfl ke kr nSc (λW ⟨l,e,h⟩=>h.1) bS (K _ bd) ?_;simp only[Ug,TD,TK,TL];refine anyS.val (i:=4) (d:=some 81) (x:=(.slice (some ⟨Z,ob,none⟩) 1 J)) rfl 11 (λ_ _ h=>h) bS (K _ bd) ?_;simp only[Ug,TD,TK,TL];refine anyS.val (i:=5) (d:=some 82) (x:=.pointer (some ⟨Z,ob+4*0,none⟩)) rfl 11 (λ_ _ h=>h) bS (K _ bd) ?_ (hv:=hvI (AK Z ob 1 J 0 dC) kR);simp only[Ug,TD,TK,TL];refine anyS.row (i:=6) (d:=some 83) (cs:=wn b0) rfl 11 (λ_ _ h=>h) 46 82 Z (ob+4*0) dS rfl ke kr nSc (λW ⟨l,e,h⟩=>h.2) bS (K _ bd) ?_;simp only[Ug,TD,TK,TL];clear bS;refine anyS.cal (i:=3) (d:=some 80) rfl (vE HF.2.1 dq.1 wr.drew) (λxA W1 ki=>?_);obtain⟨D,rfl⟩:=ki.2.2;have bA:Below wr.heap.size wr W1:=bd.trans ki.1;refine⟨K _ bA,?_⟩;simp only[Ug,TD,TK,TL];refine anyS.val (i:=8) (d:=some 85) (x:=.pointer (some ⟨k+3,2,none⟩)) rfl 11 (λ_ _ h=>h) ⟨#[],by simp,K _ bA⟩ (K _ bA) ?_;simp only[Ug,TD,TK,TL];have P1:=KP.grow bA;have lA:wr.heap.size<=D/\D<W1.heap.size:=by
    obtain⟨k1,c1,e1,-,-,q1,l1,-⟩:=ki.2.1;obtain rfl:D=k1:=Uc.inj (congrArg VO e1);exact⟨q1,l1⟩
   have fw:ElQ (k+4<=·) 32 W1 (r32 D) (bx a0):=ki.2.1.mono2 λg _ R=>TU cu.out R
   have L:∀(W:TA) (o:Nat) (x:TC),Kq (k+4<=·) W (W.setCells (k+3) o [x]):=λW o x=>Kq.set λg R e=>oM
   have T:∀g,F.ownBlock=some g->g<wr.heap.size/\g≠k+3:=λg R=>⟨(KP.tL.lt R).2,by have:=(KP.tL.lt R).1;omega⟩
   have S:∀g,E.ownBlock=some g->g<wr.heap.size/\g≠k+3:=λg R=>⟨(KP.tR.lt R).2,by have:=(KP.tR.lt R).1;omega⟩
   have key:∀(W:TA),(∀g,g<wr.heap.size->g≠k+3->W.heap[g]? = wr.heap[g]?)->wr.heap.size<=W.heap.size->∀A,D<A->A<W.heap.size->DjF (k+4) W i F E (r32 D) (r32 A):=λW hk hs A h1 h2=>DjF.of KP.dj hs (λg R=>hk g (T g R).1 (T g R).2) (λg R=>hk g (S g R).1 (S g R).2) cu.out lA.1 h1 h2
   have fm:∀ {W:TA},R3 W (k+3) F E->∃z,Row (W.setCells (k+3) 2 [r32 D]) (k+3) [F,E,r32 D,z]/\W.there (k+3) 2 1:=λh=>by
    obtain⟨-,rs,hl,hr⟩:=h;match rs,hl,hr with
    | [x,z],_,hr =>
     refine⟨z,iN (x:=r32 D) (o:=2) hr (Ws rfl),λj hj=>?_⟩;have kp:j=0:=oM;subst kp;exact hr.2.2 2 (Ws rfl)
   obtain⟨PH,p1,pF⟩:∃PH:TA->Prop,(∀W W',Below W1.heap.size W1 W->W'=W.setCells (k+3) 2 [r32 D]->PH W'/\R3 W (k+3) F E)/\(∀W A,PH W->ElQ (k+4<=·) 32 (W.setCells (k+3) 3 [r32 A]) (r32 D) (bx a0)->ElQ (k+4<=·) 32 (W.setCells (k+3) 3 [r32 A]) (r32 A) (bx b0)->DjF (k+4) (W.setCells (k+3) 3 [r32 A]) i F E (r32 D) (r32 A)->Row (W.setCells (k+3) 3 [r32 A]) (k+2) [.slice none 0 0,.slice none 0 0,.slice none 0 0,.slice none 0 0]/\Row ((W.setCells (k+3) 3 [r32 A]).setCells (k+2) 0 [F,E,r32 D,r32 A]) (k+2) [F,E,r32 D,r32 A]/\PhR w r i Lb Rb ((aO C f).pst (chF N) ivF u i q i).s (bx a0) (bx b0) (.agg #[F,E,r32 D,r32 A]) ((W.setCells (k+3) 3 [r32 A]).setCells (k+2) 0 [F,E,r32 D,r32 A])):=⟨λW=>Ph w W r k i i 1 F E F E v (.slice (some ⟨ga,oa,none⟩) 1 ca) (.slice (some ⟨Z,ob,none⟩) 1 J) Lb Rb ((aO C f).pst (chF N) ivF u i q i).s (λj=>(((aO C f).pst (chF N) ivF u i q i).a j).val) (λj=>(((aO C f).pst (chF N) ivF u i q i).b j).val) G H U,λW W' M e=>by rw[e];exact⟨(P1.grow M).putA (o:=0) dC,(P1.grow M).r3⟩,λW A h e1 e2 e3=>(h.putA (o:=1) dC).fin e1 e2 e3⟩
   have lB:∀ {W W':TA}{A:Nat}{b:Bs},ElQ (W.heap.size<=·) 32 W' (r32 A) b->W.heap.size<=A/\A<W'.heap.size:=λh=>by
    obtain⟨k1,c1,e1,-,-,q1,l1,-⟩:=h;obtain rfl:=Uc.inj (congrArg VO e1);exact⟨q1,l1⟩
   have bg:k+4<=W1.heap.size:=TU cu.out bA.size;refine anyS.cal (i:=7) (d:=some 84) rfl (vE HF.2.1 dq.2 W1) ?_;rintro v W' ⟨bo,dd,A,rfl⟩;have bw:=bA.trans (bo.mono bA.size);obtain⟨ph,cn⟩:=p1 W' _ bo rfl;obtain⟨z,hz,e4⟩:=fm cn;have l2:=lB dd;have e1:=(fw.keep (Kq.of_below bo)).keep (L W' 2 (r32 D));have e2:=(dd.mono2 (Q':=(k+4<=·)) λg _ R=>TU bg R).keep (L W' 2 (r32 D));have e3:=key (W'.setCells (k+3) 2 [r32 D]) (λg h1 h2=>(RG.aG (k+3) _ _ _ g h2).trans (bw.block g h1)) (by rw[RG.setCells_size];exact bw.size) A (TF lA.2 l2.1) (by rw[RG.setCells_size];exact l2.2);have rr:=de 2 (r32 D) _ (K _ bw);refine⟨K _ bw,?_⟩;simp only[Ug,TD,TK,TL];refine anyS.sto (i:=9) (d:=none) rfl 23 (.tmp 85) (.tmp 80) rfl (k+3) 2 (r32 D) rfl rfl e4 iB1 rr ?_;simp only[Ug,TD,TK,TL];generalize W'.setCells (k+3) 2 [r32 D]=W at ph hz e1 e2 e3 rr⊢;have KF:=pF W A ph (e1.keep (L _ _ _)) (e2.keep (L _ _ _)) (e3.keep (TG _) (by rw[RG.setCells_size];exact TG _) (λg R=>RG.aG (k+3) _ _ _ g (T g R).2) (λg R=>RG.aG (k+3) _ _ _ g (S g R).2));have d3:Row (W.setCells (k+3) 3 [r32 A]) (k+3) [F,E,r32 D,r32 A]:=iN (x:=r32 A) (o:=3) hz (Ws rfl);have du:W.there (k+3) 3 1:=λj hj=>by
    have kp:j=0:=oM;subst kp;exact hz.2.2 3 (Ws rfl)
   refine anyS.nxt (i:=10) (d:=some 86) (x:=.pointer (some ⟨k+3,3,none⟩)) rfl rr ?_;simp only[Ug,TD,TK,TL];refine anyS.sto (i:=11) (d:=none) rfl 23 (.tmp 86) (.tmp 84) rfl (k+3) 3 (r32 A) rfl rfl du iB1 (de _ _ _ rr) ?_;simp only[Ug,TD,TK,TL];refine anyS.fin kR ?_ _;intro WZ fu;rw[<-fu]at KF d3;obtain⟨Wd,fx⟩:=hE (WZ.setCells (k+2) 0 [F,E,r32 D,r32 A]);rw[fx.out]at KF;have ON:Hid ((#[F,E,r32 D,r32 A]:Array TC).all (·.oneCell')=true):=by show _=_;simp[KP.tL.one.2,KP.tR.one.2,e1.one.2,e2.one.2]
   have KF:=mk2 KF d3;obtain⟨dI,cg,c4⟩:=TJ.1 qD;have fk:=mk2 cg c4;obtain⟨vO,dn⟩:=hE (Um #[F,E,r32 D,r32 A]);clear K de bd KP P1 fu rr ph bo dd bw d3 e4 l2 cn e1 e2 e3 hz du pF p1 key fm fw L T S ki bg lA cg c4 ke kr na nb qa qb;go_wp2_with (first|(refine UL rfl 26 (.tmp 9) rfl (k+3) 0 ?_ [F,E,r32 D,r32 A] dI ?_ ?_ ?_ ?_ ?_;rfl;exact KF.2.2.1;exact fk.1;exact fk.2;exact jN;rw[show Um [F,E,r32 D,r32 A].toArray=vO from dn.out])|(refine Ui rfl 26 (.tmp 8) _ rfl (k+2) 0 #[F,E,r32 D,r32 A] ?_ ?_ ?_ ?_ ?_ ?_;rfl;exact dn.symm;exact KF.1.1.2.2;exact jN;exact ON.out;rw[show(#[F,E,r32 D,r32 A]:Array TC).toList=[F,E,r32 D,r32 A] from rfl,fx.out])|fail)
   refine TM (aL 8 26 rfl KF.1.2.1 rfl qD jN) rfl ?_;refine⟨_,rfl,?_⟩;have:=KF.1.2.2;rw[<-di.out,<-d5.out]at this;exact this
end
section
open Go.RowKit Go.Sort Go.Deep SPA
variable {P:Nat}[NeZero P]{N:Nat}
def hvA(n:Nat):TC:=if n=1 then .tuple #[iZ 0,.bool true] else if n=2 then .tuple #[iZ 1,.bool true] else if n=4 then .tuple #[iZ 2,.bool true] else if n=8 then .tuple #[iZ 3,.bool true] else if n=16 then .tuple #[iZ 4,.bool true] else if n=32 then .tuple #[iZ 5,.bool true] else if n=64 then .tuple #[iZ 6,.bool true] else .tuple #[iZ 0,.bool false]
theorem Py(n:Nat)(d:n=1\/n=2\/n=4\/n=8\/n=16\/n=32\/n=64\/n=128)(w:TA):TW prog 10 #[iZ n] w (rZ w λe w'=>e=hvA n):=by
 obtain⟨b,k⟩:∃b,b=n:=⟨_,rfl⟩
 rcases d with rfl|rfl|rfl|rfl|rfl|rfl|rfl|rfl
 all_goals
  go_enter func10,ntmps10;go_wp2;go_loopg [5] 7 (λm s5 W=>W=w/\((m=7/\s5=iZ 0)\/(m=6/\s5=iZ 1/\1<b)\/(m=5/\s5=iZ 2/\2<b)\/(m=4/\s5=iZ 3/\4<b)\/(m=3/\s5=iZ 4/\8<b)\/(m=2/\s5=iZ 5/\16<b)\/(m=1/\s5=iZ 6/\32<b)\/(m=0/\s5=iZ 7/\64<b)))
  case atStart=>exact⟨rfl,Ub ⟨rfl,rfl⟩⟩
  case round =>
   obtain⟨rfl,h⟩:=hrel;rcases h with⟨rfl,rfl⟩|⟨rfl,rfl,c⟩|⟨rfl,rfl,c⟩|⟨rfl,rfl,c⟩|⟨rfl,rfl,c⟩|⟨rfl,rfl,c⟩|⟨rfl,rfl,c⟩|⟨rfl,rfl,c⟩
   all_goals
    first
     | (exfalso;omega)
     | skip
   all_goals
    go_wp2;first
     | (go_ret2;exact⟨_,rfl,TX _ _,rfl⟩)
     | (go_roundg 6;(case measure=>omega);(case rel=>exact⟨rfl,by simp[k]⟩))
     | (go_roundg 5;(case measure=>omega);(case rel=>exact⟨rfl,by simp[k]⟩))
     | (go_roundg 4;(case measure=>omega);(case rel=>exact⟨rfl,by simp[k]⟩))
     | (go_roundg 3;(case measure=>omega);(case rel=>exact⟨rfl,by simp[k]⟩))
     | (go_roundg 2;(case measure=>omega);(case rel=>exact⟨rfl,by simp[k]⟩))
     | (go_roundg 1;(case measure=>omega);(case rel=>exact⟨rfl,by simp[k]⟩))
     | (go_roundg 0;(case measure=>omega);(case rel=>exact⟨rfl,by simp[k]⟩))
end
section
open Go.RowKit Go.Sort Go.Deep SPA
variable {P:Nat}[NeZero P]{N:Nat}[NeZero N]
noncomputable def gPt (C:Fld P) (lb:ByteArray) (i:Nat):OnP P:=⟨.some (hpt P lb (m7 i).toList),DJ C lb _⟩
noncomputable def lPt (C:Fld P) (lb:ByteArray) (x:List UInt8):OnP P:=⟨.some (hpt P lb x),DJ C lb x⟩
noncomputable def uPt (C:Fld P):OnP P:=lPt C ⟨#[105,110,110,101,114]⟩ []
omit [NeZero N] in
theorem Ni(C:Fld P)(k:1<N)(lb:ByteArray)(i:Nat):Tl N [(1,hpN P lb i)] (gPt C lb i):=Tl.one C k (gPt C lb i)
omit [NeZero N] in
theorem Qt(C:Fld P)(k:1<N)(lb:ByteArray)(x:List UInt8):Tl N [(1,wr (.some (hpt P lb x):EC.Pt P))] (lPt C lb x):=Tl.one C k (lPt C lb x)
omit [NeZero N] in
theorem Ms(C:Fld P)(k:1<N)(n:Nat):Gd N n 1 (gGT P) (gPt C ⟨#[108,101,102,116]⟩):=⟨λi _=>Ni C k _ i,λ_ _=>rfl⟩
omit [NeZero N] in
theorem Ji(C:Fld P)(k:1<N)(n:Nat):Gd N n 1 (hGT P) (gPt C ⟨#[114,105,103,104,116]⟩):=⟨λi _=>Ni C k _ i,λ_ _=>rfl⟩
omit [NeZero N] in
theorem Ht(C:Fld P)(k:1<N):Tl N (uGT P) (uPt C):=Qt C k _ _
noncomputable def hidX (C:Fld P) (c:∀r:EC.Pt P,EC.On r->EC.mul N r=none) (a b:Nat->Fin N) (n:Nat):OnP P:=(aO C c).hd a b (gPt C ⟨#[108,101,102,116]⟩) (gPt C ⟨#[114,105,103,104,116]⟩) (uPt C) n
noncomputable abbrev qBeg (C:Fld P) (k:List UInt8) (X:Bs) (a b:Nat->Fin N):Md.Ps Bs (Fin N) (OnP P):=⟨vV k X,a,b,gPt C ⟨#[108,101,102,116]⟩,gPt C ⟨#[114,105,103,104,116]⟩⟩
omit [NeZero N] in
theorem J6(O:Ord N)(n cap:Nat)(l:n<=512)(q:Option V5)(L:Nat->Bs)(a:Nat->Nat)(w:TA)(o:Args w q n L)(i:∀j,j<n->rq N (L j)=some (a j)):TW prog 11 #[(.func (.func 12) #[] #[]),.slice q n cap] w (rZ w λe w'=>∃k,e=.tuple #[.slice (some (aZ k)) n n,.bool true]/\SLq (w.heap.size<=·) w' (.slice (some (aZ k)) n n) n a):=by
 refine(FK O n cap l q L w o).mono ?_;rintro e w' ⟨v,rfl,h⟩;rcases h with⟨⟨j,p,f⟩,-⟩|⟨-,k,s,b,r,rfl⟩
 ·rw[i j p]at f;cases f
 ·refine⟨_,rfl,b.bel,k,rfl,k,0,n,rfl,TG _,b.le,b.lt,λj d t u c=>?_⟩;have m:t<4:=(T9.1 c).1;have g:=r.row j t d m;rw[i j d]at g;have:=b.range (4*j+t) u (by rw[g];exact c);rw[show 0+(4*j+t)=0+4*j+t by omega]at this;exact this
theorem Pp(t:Nat)(k:t<=6):hvA (2^t)=.tuple #[iZ t,.bool true]:=by
 match t,k with
 | 0,_=>rfl
 | 1,_=>rfl
 | 2,_=>rfl
 | 3,_=>rfl
 | 4,_=>rfl
 | 5,_=>rfl
 | 6,_=>rfl
 | n+7,h=>omega
theorem OJ(t:Nat)(k:t<=6):2^t=1\/2^t=2\/2^t=4\/2^t=8\/2^t=16\/2^t=32\/2^t=64\/2^t=128:=by
 match t,k with
 | 0,_=>decide
 | 1,_=>decide
 | 2,_=>decide
 | 3,_=>decide
 | 4,_=>decide
 | 5,_=>decide
 | 6,_=>decide
 | n+7,h=>omega
theorem jS{w c:TA}{q:Option V5}{n:Nat}{L:Nat->Bs}(h:Args w q n L)(k:Below w.heap.size w c):Args c q n L:=λd=>by
 obtain⟨g,l,b,f⟩:=h d;refine⟨g,l,TF b k.size,λj e=>?_⟩;obtain⟨v,i,m⟩:=f j e;exact⟨v,by rw[k.cell (p:=⟨g,j,none⟩) b];exact i,m.below k⟩
structure PiR(w:TA)(t:Nat)(Xp:Bs)(Lb Rb:Nat->Bs)(A B:Bs)(e:TC)(w':TA):Prop where
 bl:Below w.heap.size w w'
 ex:∃vp vL vR vA vB,e=.tuple #[vp,.agg #[vL,vR,vA,vB],iZ 0]/\ElQ (λ_=>True) 33 w' vp Xp/\TlL (λ_=>True) w.heap.size t w' vL Lb/\TlL (λ_=>True) w.heap.size t w' vR Rb/\ElQ (λ_=>True) 32 w' vA A/\ElQ (λ_=>True) 32 w' vB B
 dj:∀vp vL vR vA vB,e=.tuple #[vp,.agg #[vL,vR,vA,vB],iZ 0]->∃gp B0,vp=r33 gp/\w.heap.size<=gp/\gp<B0/\DjF B0 w' t vL vR vA vB
theorem anyS.sta{P:Vd}{c:Array UI}{Q:YJ->Act->TA->Prop}{S:Array Bool->TA->Prop}{i e:Nat}{o:UI}{k:Array Bool}{a:Act}{w:TA}{d:Option Vn}(ho:c[i]? = some o)(j:Uw)(x y:Operand)(g:o.op=.store j x y)(b off:Nat)(f:Array TC)(t:f.all (·.oneCell')=true)(q:w.there b off f.size)(n:(P.info? j).map (·.size)=some f.size)
 (m:S (k.setIfInBounds i true) (w.setCells b off f.toList)) (h:anyS P c Q S e (k.setIfInBounds i true) (a.put d VU) (w.setCells b off f.toList)) (p:a.eval x=.pointer (some ⟨b,off,none⟩):=by kernel_rfl) (u:a.eval y=.agg f:=by kernel_rfl)
 (l:UN .any c k=[i]:=by kernel_rfl) (s:o.guard=none:=by rfl) (hd:o.dst=d:=by kernel_rfl):anyS P c Q S (e+1) k a w:=by
 subst hd;exact anyS.step ho l λK r=>by
  rw[yB3 (fJ s _)];have l:=yAv (P:=P) w b off j f q n t;unfold Vp UD;simp only[g,p,u,Yw,Yk,Ue,VA,UE,l];exact r.out _ _ m h
theorem fM{P:Vd}{e:Func}{tmps:Array TC}{W:TA}{k:Nat}{vs:List TC}{x y:TC}(s t u:Vn)(T:Uw)(n:e.results=#[.tmp s,.cell t T,.tmp u])(h:Row W k vs)(j:tmps[s]? = some x)(m:tmps[t]? = some (pZ k))(c:tmps[u]? = some y)
 (b:(P.underlying T).map (·.isRow)=some true) (i:(P.info? T).map (·.size)=some vs.length):(results e tmps).run P W=.ok (.tuple #[x,.agg vs.toArray,y]) W:=by
 obtain⟨d,b,hd⟩:=TJ.1 b;have o:=run_loadVar_mid (P:=P) W k 0 T vs d h.2.1 b hd i;have g:tmps.getD t VU=pZ k:=by rw[TS,m];rfl
 have l:tmps.getD s VU=x:=by rw[TS,j];rfl
 have f:tmps.getD u VU=y:=by rw[TS,c];rfl
 unfold results;rw[n];simp only[Array.mapM_eq_mapM_toList,List.mapM_cons,List.mapM_nil,g,l,f,asAddr];simp[Ue,o]
theorem ElQ.off{Q:Nat->Prop}{m k:Nat}{W:TA}{x:TC}{b:Bs}{vs:List TC}(h:ElQ Q m W x b)(q:0<m)(n:Row W k (.slice none 0 0 :: vs)):ElQ (·≠k) m W x b:=by
 obtain⟨g,c,o,j,l,p,i,e⟩:=h;refine⟨g,c,o,j,l,?_,i,e⟩;rintro rfl;have d:=(e 0 oM).1;have f:=n.2.1 0 _ rfl;rw[show(0+0:Nat)=0 from rfl]at d f;rw[f]at d;cases d
theorem OM{w W:TA}{k t i p:Nat}{X A B:Bs}{K Rb:Nat->Bs}{vp f d vA vB:TC}(T:w.heap.size=k)(M:k<i)(N:Below w.heap.size w W)(z:Row W k [.slice none 0 0,.slice none 0 0,.slice none 0 0,.slice none 0 0])(H:ElQ (k < ·) 33 W vp X)(s:TlL (λ_=>True) i t W f K)(a:TlL (λ_=>True) i t W d Rb)(I:ElQ (i<=·) 32 W vA A)(F:ElQ (i<=·) 32 W vB B)(n:vp=r33 p)(y:p<i)(hd:DjF i W t f d vA vB):
 Row (W.setCells k 0 [f,d,vA,vB]) k [f,d,vA,vB]/\PiR w t X K Rb A B (.tuple #[vp,.agg #[f,d,vA,vB],iZ 0]) (W.setCells k 0 [f,d,vA,vB])/\(#[f,d,vA,vB]:Array TC).all (·.oneCell')=true:=by
 have l:∀g,g≠k->(W.setCells k 0 [f,d,vA,vB]).heap[g]? = W.heap[g]?:=λg v=>RG.aG k _ 0 W g v
 have o:W.heap.size<=(W.setCells k 0 [f,d,vA,vB]).heap.size:=by rw[RG.setCells_size];exact TG _
 have G:Kq (·≠k) W (W.setCells k 0 [f,d,vA,vB]):=⟨o,λg q _=>l g q⟩
 have J:∀ {E:TC}{B:Nat->Bs},TlL (λ_=>True) i t W E B->TlL (λ_=>True) w.heap.size t (W.setCells k 0 [f,d,vA,vB]) E B:=λr=>by
  obtain⟨xs,v,L⟩:=r.ex;refine⟨xs,own_base (bE v λg n=>l g (by have:=(r.lt n).1;omega)) oM,λj C=>?_⟩;obtain⟨x,u,D⟩:=L j C;exact⟨x,u,((D.off oM z).keep G).mono2 λ_ _ _=>trivial⟩
 have el:∀ {m:Nat}{x:TC}{b:Bs}{Q:Nat->Prop},0<m->ElQ Q m W x b->ElQ (λ_=>True) m (W.setCells k 0 [f,d,vA,vB]) x b:=λP r=>((r.off P z).keep G).mono2 λ_ _ _=>trivial
 refine⟨z.put rfl,⟨RG.below_setCells (Nat.le_of_eq T) _ _ _ N,⟨_,_,_,_,_,rfl,el oM H,J s,J a,el oM I,el oM F⟩,λL R U O S e=>?_⟩,by simp[s.one.2,a.one.2,I.one.2,F.one.2]⟩;simp only[yAf.injEq,Um.injEq,YV.injEq,Yn.injEq,and_true]at e;obtain⟨rfl,rfl,rfl,rfl,rfl⟩:=e;obtain⟨g,c,C,-,-,u,-⟩:=H;rw[n]at C;obtain rfl:=Uc.inj (congrArg VO C);have D:k<p:=u;exact⟨p,i,n,by omega,y,hd.keep (TG _) o (λg n=>l g (by have:=(s.lt n).1;omega)) λg n=>l g (by have:=(a.lt n).1;omega)⟩
theorem qV{w W:TA}{r o m B:Nat}(h:SP.Only r o m w W)(b:B<=w.heap.size)(k:B<=r):Below B w W:=⟨h.os,h.tape,h.output,h.size,λg c=>h.block g oM oM⟩
theorem LM(C:Fld P)(O:Ord N)(f:∀r:EC.Pt P,EC.On r->EC.mul N r=none)(hP:NT.IsP N)(t:Nat)(ht:t<=6)(s:ByteArray)(kg:s.size<=1000000)(a b:Nat->Fin N)(LA LB:Nat->Bs)(q1 q2:Option V5)(c1 c2:Nat)(w:TA)(h1:Args w q1 (2^t) LA)(h2:Args w q2 (2^t) LB)(ha:∀j,j<2^t->rq N (LA j)=some (a j).val)(hb:∀j,j<2^t->rq N (LB j)=some (b j).val)
 (Lb Rb:Nat->Bs) (h6:∀j,Lb j=wP ((aO C f).pLi (chF N) ivF (uPt C) t (qBeg C s.data.toList (wP (hidX C f a b (2^t))) a b) j)) (h3:∀j,Rb j=wP ((aO C f).pTi (chF N) ivF (uPt C) t (qBeg C s.data.toList (wP (hidX C f a b (2^t))) a b) j)) :
 TW prog 4 #[.string s,.slice q1 (2^t) c1,.slice q2 (2^t) c2] w (Ret (PiR w t (wP (hidX C f a b (2^t))) Lb Rb (bx (((aO C f).pst (chF N) ivF (uPt C) t (qBeg C s.data.toList (wP (hidX C f a b (2^t))) a b) t).a 0).val) (bx (((aO C f).pst (chF N) ivF (uPt C) t (qBeg C s.data.toList (wP (hidX C f a b (2^t))) a b) t).b 0).val))):=by
 dsimp only[qBeg]at h6 h3⊢;have km:2^t<=64:=TU (Ve dC ht) dC;have kv:0<2^t:=WR dC;have hG:=Ms C hP.1 (2^t);have hH:=Ji C hP.1 (2^t);have hU:=Ht C hP.1;have hp:=λW=>Py (2^t) (OJ t ht) W
 rw[Pp t ht]at hp;have h4:=λW=>DL (P:=P) C (2^t) oM W
 have h8:(uGT P).length=1:=rfl;obtain⟨l,cH,cP⟩:=CQ (Q:=λ_=>True) C O f kv dC oM hG hH hU (by rw[h8];decide) (by rw[h8];decide) a b;have kj:hidX C f a b (2^t)=(aO C f).hd a b (gPt C ⟨#[108,101,102,116]⟩) (gPt C ⟨#[114,105,103,104,116]⟩) (uPt C) (2^t):=rfl;have sX:(wP (hidX C f a b (2^t))).size=33:=bX _;rw[<-kj]at cP;obtain⟨X,hX⟩:∃X,X=wP (hidX C f a b (2^t)):=⟨_,rfl⟩
 rw[<-hX]at h6 h3 sX;rw[<-hX];have kl:∀(W:TA) (v:TC),Sm 0 W v l->TW prog 15 #[v] W (rZ W λe w'=>e=pvl X):=by rw[hX];exact cP
 have kh:0<(uGT P).length:=by rw[h8];decide
 have ko:(uGT P).length<=16:=by rw[h8];decide
 have cL:=λ(W:TA)=>OQ s kg X sX W
 have sL:(vV s.data.toList X).size=32:=yR _ _;generalize vV s.data.toList X=L0 at cL sL h6 h3⊢;obtain⟨q,hq⟩:∃q:Md.Ps Bs (Fin N) (OnP P),q=⟨L0,a,b,gPt C ⟨#[108,101,102,116]⟩,gPt C ⟨#[114,105,103,104,116]⟩⟩:=⟨_,rfl⟩
 rw[<-hq]at h6 h3;rw[<-hq];have qs:q.s=L0:=by rw[hq]
 have qa:q.a=a:=by rw[hq]
 have qb:q.b=b:=by rw[hq]
 have qg:q.g=gPt C ⟨#[108,101,102,116]⟩:=by rw[hq]
 have qh:q.h=gPt C ⟨#[114,105,103,104,116]⟩:=by rw[hq]
 clear hq;rw[<-qg]at hG;rw[<-qh]at hH;have cV:∀(r:Nat) (v va vb:TC) (W:TA),Holds encB W r 0 L0->GRq (·≠r) W v (2^t) (gGT P) (hGT P) (uGT P)->SLq (·≠r) W va (2^t) (λi=>(a i).val)->SLq (·≠r) W vb (2^t) (λi=>(b i).val)->TW prog 17 #[lgV r,v,va,vb] W (Ret λe w'=>∃S,PhR W r t Lb Rb S (bx (((aO C f).pst (chF N) ivF (uPt C) t q t).a 0).val) (bx (((aO C f).pst (chF N) ivF (uPt C) t q t).b 0).val) e w'):=λr v va vb W hL hv b8 ba=>by
  refine(LN C O f hP t ht q (uPt C) (gGT P) (hGT P) (uGT P) hG hH hU kh ko Lb Rb h6 h3 r v va vb W (by rw[qs];exact hL) (by rw[qs];exact sL) hv (by rw[qa];exact b8) (by rw[qb];exact ba)).mono ?_;rintro e w' ⟨x,rfl,h⟩;exact⟨_,rfl,_,h⟩
 generalize bx (((aO C f).pst (chF N) ivF (uPt C) t q t).a 0).val=AA at cV⊢;generalize bx (((aO C f).pst (chF N) ivF (uPt C) t q t).b 0).val=BB at cV⊢;have cA:=λ(W:TA) (hB:Below w.heap.size w W)=>J6 O (2^t) c1 oM q1 LA (λj=>(a j).val) W (jS h1 hB) ha
 have cB:=λ(W:TA) (hB:Below w.heap.size w W)=>J6 O (2^t) c2 oM q2 LB (λj=>(b j).val) W (jS h2 hB) hb
 generalize gGT P=G at h4 cH cV;generalize hGT P=H at h4 cH cV;generalize uGT P=U at h4 cH cV;obtain⟨n,hn⟩:∃n,2^t=n:=⟨_,rfl⟩
 rw[hn]at hp h4 cH cV cA cB km kv;rw[hn];clear hG hH hU hX kj h8 kh ko h1 h2 ha hb h6 h3 cP O hP hn qs qa qb qg qh sL;have HX:=Hid.mk' (U8 hp (U8 h4 (U8 cH (U8 kl (U8 cV (U8 cA (U8 cB cL)))))));clear hp h4 cH kl cV cA cB cL;obtain⟨z,hr⟩:∃k,Hid (w.heap.size=k):=⟨_,rfl⟩
 obtain⟨w1,ku⟩:∃w1,Hid (w.alloc (.cells #[.slice none 0 0,.slice none 0 0,.slice none 0 0,.slice none 0 0] 26)=w1):=⟨_,rfl⟩
 have K1:Hid (Below w.heap.size w w1/\Row w1 z [.slice none 0 0,.slice none 0 0,.slice none 0 0,.slice none 0 0]):=by rw[<-ku.out,<-hr.out];exact⟨aD _ _,aE w _ _⟩
 go_enter func4,ntmps4;go_wp2_with (first|(refine alR 7 hr ku ?_)|fail)
 refine(HX.1 w1).mono ?_;rintro e w2 ⟨uu,rfl,k8,rfl⟩;have K2:Hid (Below w.heap.size w w2/\Row w2 z [.slice none 0 0,.slice none 0 0,.slice none 0 0,.slice none 0 0]):=⟨K1.1.trans (k8.mono K1.1.size),K1.2.below k8⟩
 clear k8 K1;go_wp2_with fail
 refine(HX.2.2.2.2.2.1 w2 K2.1).mono ?_;rintro e w3 ⟨uu,rfl,k1,ka,rfl,ki⟩;have K3:Hid (Below w.heap.size w w3/\Row w3 z [.slice none 0 0,.slice none 0 0,.slice none 0 0,.slice none 0 0]/\SLq (z < ·) w3 (.slice (some (aZ ka)) n n) n (λj=>(a j).val)):=⟨K2.1.trans (k1.mono K2.1.size),K2.2.below k1,ki.mono λg hg=>TF K2.2.1 hg⟩
 clear k1 ki K2;go_wp2_with fail
 refine(HX.2.2.2.2.2.2.1 w3 K3.1).mono ?_;rintro e w4 ⟨uu,rfl,hw,kb,rfl,ke⟩;have K4:Hid (Below w.heap.size w w4/\Row w4 z [.slice none 0 0,.slice none 0 0,.slice none 0 0,.slice none 0 0]/\SLq (z < ·) w4 (.slice (some (aZ ka)) n n) n (λj=>(a j).val)/\SLq (z < ·) w4 (.slice (some (aZ kb)) n n) n (λj=>(b j).val)):=⟨K3.1.trans (hw.mono K3.1.size),K3.2.1.below hw,K3.2.2.keep (Kq.of_below hw),ke.mono λg hg=>TF K3.2.1.1 hg⟩
 clear hw ke K3;go_wp2_with fail
 refine(HX.2.1 w4).mono ?_;rintro e w5 ⟨vg,rfl,hx,k6⟩;obtain⟨B,b5,E,hz⟩:=k6.ar;subst b5;obtain⟨m,I⟩:∃k,Hid (w5.heap.size=k):=⟨_,rfl⟩
 obtain⟨w6,k3⟩:∃W,Hid (w5.alloc (.cells #[.slice none 0 0,.slice none 0 0,.slice none 0 0] 52)=W):=⟨_,rfl⟩
 obtain⟨T,hl⟩:∃W,Hid (w6.setCells m 0 B.toList=W):=⟨_,rfl⟩
 have F6:Hid (Row w6 m [.slice none 0 0,.slice none 0 0,.slice none 0 0]/\Below w5.heap.size w5 w6):=by rw[<-k3.out,<-I.out];exact⟨aE w5 _ _,aD _ _⟩
 have b7:Below w5.heap.size w5 T:=by rw[<-hl.out];exact RG.below_setCells (by rw[I.out];exact TG _) _ _ _ F6.2
 have hc:Below w4.heap.size w4 T:=hx.trans (b7.mono hx.size);have K7:Hid (Below w.heap.size w T/\Row T z [.slice none 0 0,.slice none 0 0,.slice none 0 0,.slice none 0 0]/\SLq (z < ·) T (.slice (some (aZ ka)) n n) n (λj=>(a j).val)/\SLq (z < ·) T (.slice (some (aZ kb)) n n) n (λj=>(b j).val)/\GRq (z < ·) T (.agg B) n G H U/\Row T m B.toList/\z<m):=⟨K4.1.trans (hc.mono K4.1.size),K4.2.1.below hc,K4.2.2.1.keep (Kq.of_below hc),K4.2.2.2.keep (Kq.of_below hc),(k6.keep (Kq.of_below b7)).mono λg hg=>TF K4.2.1.1 hg,by rw[<-hl.out];exact F6.1.put (by rw[TR,E];rfl),by rw[<-I.out];exact TF K4.2.1.1 hx.size⟩
 have HE:Hid (B.size=3/\B.all (·.oneCell')=true/\w6.there m 0 B.size/\(prog.info? 52).map (·.size)=some B.size/\(prog.info? 52).map (·.size)=some B.toList.length):=⟨E,hz,by rw[E];exact F6.1.2.2,by rw[E];exact iGr,by rw[TR,E];exact iGr⟩
 obtain⟨yg,hu⟩:∃y,Hid (Um B=y):=⟨_,rfl⟩
 obtain⟨dG,F,J⟩:=TJ.1 uGr;have b9:Hid (prog.underlying 52=some dG/\dG.isRow=true):=⟨F,J⟩
 have kz:Hid (TW prog 14 #[yg,.slice (some (aZ ka)) n n,.slice (some (aZ kb)) n n] T (rZ T λe w'=>Sm T.heap.size w' e l)):=by
  rw[<-hu.out];exact HX.2.2.1 T _ _ _ (K7.2.2.2.2.1.mono λ_ _=>trivial) (K7.2.2.1.mono λ_ _=>trivial) (K7.2.2.2.1.mono λ_ _=>trivial)
 rw[hu.out];clear hx k6 E hz b7 hc K4 F J;go_wp2_with (first|(refine alR 15 I k3 ?_)|(refine Ui rfl 52 (.tmp 15) _ rfl m 0 B ?_ ?_ ?_ ?_ ?_ ?_;rfl;exact hu.symm;exact HE.2.2.1;exact HE.2.2.2.1;exact HE.2.1;rw[hl.out])|(refine ldR 15 K7.2.2.2.2.2.1.2.1 hu uGr HE.2.2.2.2 ?_)|fail)
 refine kz.mono ?_;rintro e w8 ⟨vs,rfl,kk,kw⟩;have b4:Sm 0 w8 vs l:=by
  obtain⟨g,c,D,A,-,o⟩:=kw;exact⟨g,c,D,A,VH _,o⟩
 have kd:=Hid.mk' (HX.2.2.2.1 w8 vs b4);have h9:=Hid.mk' kk;clear kk kw b4 kz F6 k3 hl;go_wp2_with fail
 refine kd.mono ?_;rintro e w9 ⟨uu,rfl,hm,rfl⟩;obtain⟨o,K⟩:∃k,Hid (w9.heap.size=k):=⟨_,rfl⟩
 obtain⟨wa,k9⟩:∃W,Hid (w9.alloc (.cells z33.toArray 55)=W):=⟨_,rfl⟩
 obtain⟨L,hs⟩:∃W,Hid (wa.setCells o 0 (aA X)=W):=⟨_,rfl⟩
 have Fa:Hid (Row wa o z33/\Below w9.heap.size w9 wa):=by rw[<-k9.out,<-K.out];exact⟨aE w9 _ _,aD _ _⟩
 have k2:(aA X).length=33:=aK sX;have kr:Below w9.heap.size w9 L:=by rw[<-hs.out];exact RG.below_setCells (by rw[K.out];exact TG _) _ _ _ Fa.2
 have Y:Below T.heap.size T L:=(h9.trans (hm.mono h9.size)).trans (kr.mono (TU h9.size hm.size));have Z:Hid (Below w.heap.size w L/\Row L z [.slice none 0 0,.slice none 0 0,.slice none 0 0,.slice none 0 0]/\SLq (z < ·) L (.slice (some (aZ ka)) n n) n (λj=>(a j).val)/\SLq (z < ·) L (.slice (some (aZ kb)) n n) n (λj=>(b j).val)/\GRq (z < ·) L (.agg B) n G H U/\Row L m B.toList/\Row L o (aA X)/\z<m/\z<o):=⟨K7.1.trans (Y.mono K7.1.size),K7.2.1.below Y,K7.2.2.1.keep (Kq.of_below Y),K7.2.2.2.1.keep (Kq.of_below Y),K7.2.2.2.2.1.keep (Kq.of_below Y),K7.2.2.2.2.2.1.below Y,by rw[<-hs.out];exact Fa.1.put (by rw[k2];rfl),K7.2.2.2.2.2.2,by rw[<-K.out];exact TF K7.2.1.1 (TU h9.size hm.size)⟩
 have kc:Hid (wa.there o 0 (aA X).toArray.size/\(prog.info? 55).map (·.size)=some (aA X).toArray.size):=by
  rw[UH,k2];exact⟨Fa.1.2.2,iCP⟩
 obtain⟨pX,kf⟩:∃v,Hid (pvl X=v):=⟨_,rfl⟩
 rw[kf.out];clear hm k2 kr Y K7 kd h9;go_wp2_with (first|(refine alR 16 K k9 ?_)|(refine stR 16 hs kf kc.1 kc.2 (nM X) ?_)|fail)
 simp only[Ug,TD,TK,TL];clear Fa kc k9 hs K I b9;obtain⟨dP,he,hh⟩:=TJ.1 uCP;obtain⟨dG,F,J⟩:=TJ.1 uGr;have h7:(prog.info? 55).map (·.size)=some (aA X).length:=by rw[aK sX];exact iCP
 have Sb:L.drew.rangeAt o 0 (aA X)/\L.drew.rangeAt m 0 B.toList:=⟨Z.2.2.2.2.2.2.1.2.1,Z.2.2.2.2.2.1.2.1⟩
 have hi:∀W W':TA,W'.heap[o]? = W.heap[o]?->W'.heap[m]? = W.heap[m]?->W.rangeAt o 0 (aA X)/\W.rangeAt m 0 B.toList->W'.rangeAt o 0 (aA X)/\W'.rangeAt m 0 B.toList:=λW W' e1 e2 h=>⟨λj u hj=>by rw[Ua (a:=⟨o,0+j,none⟩) e1];exact h.1 j u hj,λj u hj=>by rw[Ua (a:=⟨m,0+j,none⟩) e2];exact h.2 j u hj⟩
 refine anyS.begin (λ_ W=>W.rangeAt o 0 (aA X)/\W.rangeAt m 0 B.toList) kR ?_;have bS:∀(p:Nat),Bef (λ_ W=>XH W o 0 (aA X)/\XH W m 0 B.toList) p L.drew:=λp=>⟨#[],by simp,Sb⟩
 refine anyS.row (i:=0) (d:=some 58) (cs:=aA X) rfl 10 (λ_ _ h=>h) 55 16 o 0 dP rfl he hh h7 (λW ⟨l,e,h⟩=>h.1) (bS 10) Sb ?_;simp only[Ug,TD,TK,TL];refine anyS.val (i:=2) (d:=some 60) (x:=.string s) rfl 10 (λ_ _ h=>h) (bS 10) Sb ?_;simp only[Ug,TD,TK,TL];refine anyS.row (i:=3) (d:=some 61) (cs:=aA X) rfl 10 (λ_ _ h=>h) 55 16 o 0 dP rfl he hh h7 (λW ⟨l,e,h⟩=>h.1) (bS 10) Sb ?_;simp only[Ug,TD,TK,TL];refine anyS.row (i:=5) (d:=some 63) (cs:=B.toList) rfl 10 (λ_ _ h=>h) 52 15 m 0 dG rfl F J HE.2.2.2.2 (λW ⟨l,e,h⟩=>h.2) (bS 10) Sb ?_;simp only[Ug,TD,TK,TL];refine anyS.val (i:=6) (d:=some 64) (x:=.slice (some (aZ ka)) n n) rfl 10 (λ_ _ h=>h) (bS 10) Sb ?_;simp only[Ug,TD,TK,TL];refine anyS.val (i:=7) (d:=some 65) (x:=.slice (some (aZ kb)) n n) rfl 10 (λ_ _ h=>h) (bS 10) Sb ?_;simp only[Ug,TD,TK,TL];clear bS;refine anyS.cal (i:=1) (d:=some 59) rfl (pC sX L.drew) (λxa Wa hk=>?_);have D:Below L.heap.size L Wa:=((TX L.heap.size L).drew).trans hk.1;have R:Hid (Below w.heap.size w Wa/\Row Wa z [.slice none 0 0,.slice none 0 0,.slice none 0 0,.slice none 0 0]/\SLq (z < ·) Wa (.slice (some (aZ ka)) n n) n (λj=>(a j).val)/\SLq (z < ·) Wa (.slice (some (aZ kb)) n n) n (λj=>(b j).val)/\GRq (z < ·) Wa (.agg B) n G H U/\m<Wa.heap.size/\o<Wa.heap.size/\ElQ (z < ·) 33 Wa xa X):=⟨Z.1.trans (D.mono Z.1.size),Z.2.1.below D,Z.2.2.1.keep (Kq.of_below D),Z.2.2.2.1.keep (Kq.of_below D),Z.2.2.2.2.1.keep (Kq.of_below D),TF Z.2.2.2.2.2.1.1 D.size,TF Z.2.2.2.2.2.2.1.1 D.size,hk.2.1.mono2 λg _ hg=>TF Z.2.1.1 hg⟩
 have Sa:=hi _ _ (D.block o Z.2.2.2.2.2.2.1.1) (D.block m Z.2.2.2.2.2.1.1) Sb;have kt:=Z.2.2.2.2.2.2.2;obtain⟨gp,k0⟩:=hk.2.2;have HG:Hid (xa=r33 gp/\gp<Wa.heap.size):=⟨k0,by
  obtain⟨g,c,e1,-,-,-,A,-⟩:=hk.2.1;rw[k0]at e1;obtain rfl:=Uc.inj (congrArg VO e1);exact A⟩
 clear k0;refine⟨Sa,?_⟩;clear hk D Sb Z;simp only[Ug,TD,TK,TL];refine anyS.cal (i:=4) (d:=some 62) rfl (HX.2.2.2.2.2.2.2 Wa) ?_;rintro xl Wl ⟨A,r,rfl,b6,bb,b3⟩;have nr:∀g,g<Wa.heap.size->z<g->g≠r:=λg hg _ e=>oM
 have M:Hid (Below w.heap.size w Wl/\Row Wl z [.slice none 0 0,.slice none 0 0,.slice none 0 0,.slice none 0 0]/\SLq (·≠r) Wl (.slice (some (aZ ka)) n n) n (λj=>(a j).val)/\SLq (·≠r) Wl (.slice (some (aZ kb)) n n) n (λj=>(b j).val)/\GRq (·≠r) Wl (.agg B) n G H U/\m<Wl.heap.size/\o<Wl.heap.size/\m≠r/\o≠r/\z<r/\ElQ (λg=>z<g/\g≠r) 33 Wl xa X):=⟨R.1.trans (A.mono R.1.size),R.2.1.below A,(R.2.2.1.mono2 nr).keep (Kq.of_below A),(R.2.2.2.1.mono2 nr).keep (Kq.of_below A),(R.2.2.2.2.1.mono2 nr).keep (Kq.of_below A),TF R.2.2.2.2.2.1 A.size,TF R.2.2.2.2.2.2.1 A.size,nr _ R.2.2.2.2.2.1 kt.1,nr _ R.2.2.2.2.2.2.1 kt.2,TF R.2.1.1 b6,(R.2.2.2.2.2.2.2.mono2 λg h1 h2=>⟨h2,nr g h1 h2⟩).keep (Kq.of_below A)⟩
 have Sl:=hi _ _ (A.block o R.2.2.2.2.2.2.1) (A.block m R.2.2.2.2.2.1) Sa;refine⟨Sl,?_⟩;have b2:=mk2 HG.1 (TF HG.2 A.size);clear R A nr Sa HG;simp only[Ug,TD,TK,TL];refine anyS.cal (i:=8) (d:=some 66) rfl (HX.2.2.2.2.1 r (.agg B) _ _ Wl b3 M.2.2.2.2.1 M.2.2.1 M.2.2.2.1) ?_;rintro xv Wv ⟨SS,hy⟩;have V:=hy.on;obtain⟨vL,vR,vA,vB,rfl,tL,tR,eA,eB⟩:=hy.ex;have Sv:=hi _ _ (V.block o M.2.2.2.2.2.2.1 M.2.2.2.2.2.2.2.2.1) (V.block m M.2.2.2.2.2.1 M.2.2.2.2.2.2.2.1) Sl;have ky:Below w.heap.size w Wv:=M.1.trans (qV V M.1.size (by rw[hr.out];exact Nat.le_of_lt M.2.2.2.2.2.2.2.2.2.1));have k5:Row Wv z [.slice none 0 0,.slice none 0 0,.slice none 0 0,.slice none 0 0]:=aN M.2.1 V.size (V.block z M.2.1.1 (Vl M.2.2.2.2.2.2.2.2.2.1));have kn:ElQ (z < ·) 33 Wv xa X:=(M.2.2.2.2.2.2.2.2.2.2.keep (Kq.of_only V λg h=>h.2)).mono2 λg _ h=>h.1
 have h0:=OM hr.out M.2.1.1 ky k5 kn tL tR eA eB b2.1 b2.2 (hy.dj _ _ _ _ rfl);have kq:Wv.there z 0 4:=k5.2.2;refine⟨Sv,?_⟩;have Sw:=hi _ _ (RG.aG z [vL,vR,vA,vB] 0 Wv o oM) (RG.aG z [vL,vR,vA,vB] 0 Wv m oM) Sv;clear M hy V tL tR eA eB ky k5 kn Sl b3;simp only[Ug,TD,TK,TL];refine anyS.nxt (i:=9) (d:=some 6) (x:=xa) rfl Sv ?_;simp only[Ug,TD,TK,TL];refine anyS.sta (i:=10) (d:=none) rfl 26 (.tmp 7) (.tmp 66) rfl z 0 #[vL,vR,vA,vB] h0.2.2 kq jN Sw ?_;simp only[Ug,TD,TK,TL];refine anyS.nxt (i:=11) (d:=some 8) (x:=iZ 0) rfl Sw ?_;simp only[Ug,TD,TK,TL];refine anyS.fin kR ?_ _;intro WZ k4;have kp:Row WZ z [vL,vR,vA,vB]:=by rw[k4];exact h0.1
 have kx:Hid (PiR w t X Lb Rb AA BB (.tuple #[xa,.agg #[vL,vR,vA,vB],iZ 0]) WZ):=by rw[k4];exact h0.2.1
 clear h0 k4 Sw Sv hi kq he hh F J h7 HX;go_wp2_with fail
 refine TM (fM 6 7 8 26 rfl kp rfl rfl rfl qD jN) rfl ?_;exact⟨_,rfl,kx.out⟩
end
section
open Go.RowKit Go.Sort Go.Deep Go.Shelf
attribute [local go_sem] ZL
end
section
open Go.RowKit Go.Sort Go.Deep Go.Shelf
attribute [local go_sem] ZL
end
section
open Go.RowKit Go.Sort Go.Deep
variable {P:Nat}[NeZero P]{N:Nat}
def zz(n:Nat):List TC:=(UU n (Value.int .u8 0))
def o33:Bs:=TP 33 0
section
variable (w:TA) (k6 k8 n:Nat) (Y A T:Bs)
def Rb:Nat->TC->TA->Prop
 | 0,v,_=>v=pvl Y
 | 1,v,W=>Sm w.heap.size W v [(1,Y)]
 | 2,v,_=>v=pvl A
 | 3,v,_=>v=nv n
 | 4,v,W=>Sm w.heap.size W v [(n,A)]
 | 5,v,W=>Sm w.heap.size W v [(1,Y),(n,A)]
 | 6,v,_=>v=pvl T
 | 7,v,W=>El 33 W v T
 | 8,v,W=>El 33 W v T
 | 9,v,_=>v=iZ 0
 | _,_,_=>True
end
def encV(v:TC):TC:=v
def Texts(w:TA)(q:Option V5)(n:Nat)(S:Nat->ByteArray):Prop:=0<n->∃k b,q=some ⟨k,b,none⟩/\k<w.heap.size/\∀j,j<n->w.cell? ⟨k,b+j,none⟩=some (.string (S j))
end
section
open Go.RowKit Go.Sort Go.Deep SPA
variable {P:Nat}[NeZero P]{N:Nat}[NeZero N]
theorem RY(g j:Nat):(⟨g,0,none⟩:V5).add j=⟨g,j,none⟩:=by
 simp[XI];exact λh=>h.symm
def two{α:Type}(x y:α)(j:Nat):α:=if j=0 then x else y
def hvT(n:Int):Nat × Bool:=if n=1 then(0,true) else if n=2 then(1,true) else if n=4 then(2,true) else if n=8 then(3,true) else if n=16 then(4,true) else if n=32 then(5,true) else if n=64 then(6,true) else(0,false)
theorem Pq(n:Int):(hvT n).1<=6:=by
 unfold hvT;repeat' split
 all_goals decide
theorem Pr{n:Int}(h:(hvT n).2=true):n=((2^(hvT n).1:Nat):Int):=by
 unfold hvT at h⊢;repeat' split at h
 all_goals simp_all
theorem Jc(n:Int)(w:TA):TW prog 10 #[iZ n] w (rZ w λe w'=>e=.tuple #[iZ ((hvT n).1:Int),.bool (hvT n).2]):=by
 obtain⟨v,hv⟩:=hE (yAf #[iZ ((hvT n).1:Int),.bool (hvT n).2]);rw[hv.out];go_enter func10,ntmps10;go_wp2;go_loopg [5] 7 (λm s5 W=>W=w/\∃i:Nat,i+m=7/\s5=iZ i/\Hid (∀j,j<i->¬n=((2^j:Nat):Int)))
 case atStart=>exact⟨rfl,0,rfl,rfl,λj f=>absurd f (VC _)⟩
 case round =>
  obtain⟨rfl,i,r,rfl,k⟩:=hrel;have c:i=7\/i=0\/i=1\/i=2\/i=3\/i=4\/i=5\/i=6:=oM;rcases c with rfl|c
  ·have e:yAf #[iZ 0,.bool false]=v:=by
    have h:=λj f=>k.out j f
    have p:=h 0 dC;have q:=h 1 dC;have g:=h 2 dC;have l:=h 3 dC;have d:=h 4 dC;have b:=h 5 dC;have o:=h 6 dC;simp only[XM,Yh,YM]at p q g l d b o;rw[<-hv.out];simp[hvT,p,q,g,l,d,b,o]
   go_wp2
   go_ret2
   exact⟨_,rfl,TX _ _,e⟩
  ·have l:i<7:=oM;by_cases d:n=((2^i:Nat):Int)
   ·rcases c with rfl|rfl|rfl|rfl|rfl|rfl|rfl
    all_goals
     simp only[XM]at d;subst d;go_wp2
     go_ret2
     exact⟨_,rfl,TX _ _,hv.out⟩
   ·have b:Hid (∀j,j<i+1->¬n=((2^j:Nat):Int)):=λj f=>by
     by_cases g:j=i
     ·rw[g];exact d
     ·exact k.out j oM
    rcases c with rfl|rfl|rfl|rfl|rfl|rfl|rfl
    all_goals
     simp only[XM,Yh,YM]at d;go_wp2;go_roundg (gk-1)
     case measure=>omega
     case rel=>refine⟨rfl,_,?_,?_,b⟩<;>first|omega|rfl
def rdN(N:Nat)[NeZero N](b:Bs):Fin N:=Vy N ((rq N b).getD 0)
theorem EH{b:Bs}(h:(rq N b).isSome=true):(rdN N b).val=(rq N b).getD 0:=by
 obtain⟨m,k⟩:=Option.isSome_iff_exists.1 h;have:m<N:=by
  unfold rq at k;split at k
  ·rename_i h2;injection k with k;omega
  ·cases k
 unfold rdN;rw[k];exact Uf this
end
namespace RG
open Go Go.RowKit
variable {P:Vd}{ops:Array UI}{Q:YJ->Act->TA->Prop}{w0:TA}{k0:Nat}{X:List Nat}{its:List It}{bl:List Bl}{olds:List (Vn × SV)}{i:Nat}{o:UI}{it:It}
theorem pQ(f:it.kind=.stay)(op:BinOp)(T g:Uw)(t2:Vn)(v1 v2 v:TC)(ho:o.op=.binOp op T (.const v1) (.tmp t2) g)(k:it.out=.v v)
 (b:∀(μ:Nat->Nat) (a:Act),Known ops i its olds it.need μ a->a.eval (.tmp t2)=v2)
 (c:∀w,(eqGuard op T (.const v1) (.tmp t2) v1 v2).run P w=.ok () w) (d:∀w,(binOp op T v1 v2).run P w=.ok v w):Cert P Q w0 k0 X ops i its bl olds o it:=by
 refine cY f λμ a w e _=>?_
 unfold UD;rw[ho,k];dsimp only;rw[b μ a e];show(((eqGuard op T (.const v1) (.tmp t2) v1 v2) >>= λ_=>binOp op T v1 v2) >>= λv=>pure (Ww v)).run P w=_;rw[Ue,Ue,c];dsimp only[Result.andThen];rw[d];rfl
end RG
section
open Go.RowKit Go.Sort Go.Deep
variable {P:Nat}[NeZero P]
theorem PX(k:ByteArray)(h:k.size<=1000000)(w:TA):(binOp .add 9 (.string ⟨#[112,111,105,110,116,32]⟩) (.string k)).run prog w=.ok (.string (⟨#[112,111,105,110,116,32]⟩++k)) w:=by
 have b:(⟨#[112,111,105,110,116,32]⟩:ByteArray).size=6:=rfl;have c:6+k.size<=9223372036854775807:=oM;go_simp
theorem JG{i:Nat}{u:UInt8}(h:(i:Int)=ub u)(b:i<256)(w:TA):(convert 3 5 (iZ i)).run prog w=.ok (.int .u8 (ub u)) w:=by
 have c:Yo.wrap (ub u)=ub u:=by
  have k:=u.toNat_lt;unfold ub;simp[IntKind.wrap,IntKind.bits,IntKind.signed];omega
 rw[h];go_simp
def MZ(i:Nat)(c:Bool):List RG.It:=[.x 9 [] (iZ i),.x 10 [(9,0)] (.bool c)]
def Qj(k s:ByteArray)(i:Nat)(u:UInt8)(T:Bs)(n:Nat)(ok:Bool):List RG.It:=[.c 14 [] rv0,.x 15 [] (.string k),.x 16 [(15,1)] (.string ((⟨#[112,111,105,110,116,32]⟩:ByteArray)++k)),.x 17 [] (.string s),.x 18 [] (iZ i),.x 19 [(18,4)] (.int .u8 (ub u)),⟨some 20,[(19,5)],(.s 1 1 1),.make 1⟩,.x 21 [(20,6)] (.string ⟨#[u]⟩),⟨some 22,[(17,3),(21,7)],(.s 2 2 2),.make 2⟩,.c 23 [(16,2),(22,8)] (.string ⟨T⟩),.c 24 [(14,0),(23,9)] (.tuple #[nv n,.bool ok]),.x 13 [(24,10)] (.tuple #[nv n,.bool ok]),.x 25 [(13,11)] (nv n),.x 26 [(13,11)] (.bool ok),.m 6 [] 3,.u [(6,14),(25,12)] 3,.x 7 [(26,13)] (.bool ok)]
def Qi(ok:Bool):List RG.It:=[.x 27 [] (.bool ok),.x 28 [(27,0)] (.bool (!ok))]
def Si(n:Nat)(x y:Fin P)(ok:Bool):List RG.It:=[.x 30 [] (nv n),.c 31 [(30,0)] (.tuple #[rv x y 1,.bool ok]),.x 29 [(31,1)] (.tuple #[rv x y 1,.bool ok]),.x 32 [(29,2)] (rv x y 1),.x 33 [(29,2)] (.bool ok),.m 8 [] 4,.u [(8,5),(32,3)] 4,.x 7 [(33,4)] (.bool ok)]
def Sg(ok:Bool):List RG.It:=[.x 34 [] (.bool ok)]
def Sj(i:Nat):List RG.It:=[.x 11 [] (iZ i),.x 12 [(11,0)] (iZ ((i+1:Nat):Int)),.x 5 [(12,1)] (iZ ((i+1:Nat):Int))]
def Tv(x y:Fin P):List RG.It:=[.c 36 [] (rv x y 1),.u [(36,0)] 0]
theorem xI{k:ByteArray}{b:List UInt8}{i:Nat}(h:cands P k b i=[])(c:cand P k b i=none):cands P k b (i+1)=[]:=by rw[fG,h,c];rfl
theorem Pv{k:ByteArray}{b:List UInt8}{i:Nat}{q:Fin P × Fin P}(f:i<256)(h:cands P k b i=[])(c:cand P k b i=some q):hpt P k b=q:=by
 have e:cands P k b (i+1)=[q]:=by rw[fG,h,c];rfl
 obtain⟨r,d⟩:=zB (P:=P) k b (i:=i+1) (j:=256) oM;unfold hpt;rw[<-d,e];rfl
theorem Ml{k:ByteArray}{b:List UInt8}(h:cands P k b 256=[]):hpt P k b=(gX P,gY P):=by
 unfold hpt;rw[h];rfl
theorem Mt(l x:List UInt8)(y:List UInt8):(SP.bO l [x,y]).length=l.length+x.length+y.length+12:=by
 unfold SP.bO;simp[SP.iI];omega
theorem vQ(b s:ByteArray)(u:UInt8)(i:b.size<=4096)(l:s.size<=4096)(k:Nat)(w:TA)(h:w.rangeAt k 0 [.string s,.string ⟨#[u]⟩]/\k<w.heap.size):
 TW prog 97 #[.string ((⟨#[112,111,105,110,116,32]⟩:ByteArray)++b),.slice (some (aZ k)) 2 2] w (rZ w λe w'=>e=.string ⟨SP.jU ((⟨#[112,111,105,110,116,32]⟩:ByteArray)++b).data.toList [s.data.toList,[u]]⟩):=by
 have g:((⟨#[112,111,105,110,116,32]⟩:ByteArray)++b).size=6+b.size:=yBU;refine(SP.vK ((⟨#[112,111,105,110,116,32]⟩:ByteArray)++b) (some (aZ k)) 2 [s,⟨#[u]⟩] w oM (Nat.le_of_ble_eq_true rfl) (T8 ⟨k,0,rfl,λj d=>?_⟩) (λj d=>?_) ?_).mono ?_
 ·have c:j=0\/j=1:=by simp at d;omega
  rcases c with rfl|rfl
  ·exact h.1 0 _ rfl
  ·exact h.1 1 _ rfl
 ·have c:j=0\/j=1:=by simp at d;omega
  rcases c with rfl|rfl
  ·show s.size<=_;omega
  ·show 1<=1048576;decide
 ·show(SP.bO ((⟨#[112,111,105,110,116,32]⟩:ByteArray)++b).data.toList [s.data.toList,[u]]).length<=_;rw[Mt];have c:((⟨#[112,111,105,110,116,32]⟩:ByteArray)++b).data.toList.length=6+b.size:=by rw[TR];exact g
  have f:s.data.toList.length=s.size:=TR;rw[c,f];show 6+b.size+s.size+1+12<=_;omega
 ·rintro e w' ⟨rfl,c⟩;exact⟨_,rfl,c,rfl⟩
theorem EL(C:Fl3 P)(b s:ByteArray)(R:b.size<=4096)(t:s.size<=4096):Gives 51 #[.string b,.string s] (rv (hpt P b s.data.toList).1 (hpt P b s.data.toList).2 1):=by
 intro w;go_enter func51,ntmps51;refine RG.M.enter [(0,.v (.string b)),(1,.v (.string s))] 37 kR ?_;intro a0 M0;repeat refine TI ?_
 refine M0.T [.m 0] [(0,RG.z 12)] [] [RG.z 12] [0,1,4] ⟨RG.mk 0 74,yB5⟩ ?_;intro X a1 w1 M1;repeat refine TI ?_
 refine M1.U [.x (iZ 0)] [0,1,4,5] ⟨RG.st,yB5⟩ ?_;intro a2 w2 M2;repeat refine TI ?_
 refine V3 ?_;refine wp_loop_ghost (λm a wr=>∃i:Nat,i+m=256/\Hid (cands P b s.data.toList i=[])/\RG.M w w.heap.size [] 37 [RG.z 12] [X] [(0,.v (.string b)),(1,.v (.string s)),(4,.p 0 0),(5,.v (iZ i))] a wr) 256 ⟨0,rfl,rfl,M2⟩ ?_;intro m' a wr;rintro⟨i,h3,j,r⟩;by_cases z:i<256
 ·obtain⟨u,Q⟩:∃u:UInt8,(i:Int)=ub u:=⟨TV i,by
   show _=(((TV i).toNat:Nat):Int);rw[Yc,Uf oM]⟩
  have V:TV i=u:=by
   apply UInt8.toNat_inj.1;rw[Yc,Uf oM];have h:(i:Int)=((u.toNat:Nat):Int):=Q;omega
  obtain⟨T,hT⟩:∃T,Hid (SP.jU ((⟨#[112,111,105,110,116,32]⟩:ByteArray)++b).data.toList [s.data.toList,[u]]=T):=⟨_,rfl⟩
  have G:T.size=32:=by rw[<-hT.out];exact SP.eO _ _
  have c:cand P b s.data.toList i=if beV T.toList<P then(rt (Vy P (beV T.toList)*Vy P (beV T.toList)*Vy P (beV T.toList)+7)).map λy=>(Vy P (beV T.toList),y) else none:=by
   unfold cand;rw[V,hT.out]
  have vQ:∀(H s':ByteArray) (u':UInt8),H.size<=4096->s'.size<=4096->∀(k:Nat) (w:TA),w.rangeAt k 0 [.string s,.string ⟨#[u]⟩]/\k<w.heap.size->TW prog 97 #[.string ((⟨#[112,111,105,110,116,32]⟩:ByteArray)++b),.slice (some (aZ k)) 2 2] w (rZ w λe w'=>e=.string ⟨T⟩):=λ_ _ _ _ _ k w h=>by
   rw[<-hT.out];exact Go.Proofs.YtjnchldodncnbaaGreat.vQ b s u R t k w h
  by_cases K:beV T.toList<P
  ·obtain⟨x,I⟩:∃x:Fin P,Hid (beV T.toList=x.val):=⟨Vy P (beV T.toList),(Uf K).symm⟩
   have Z:Vy P (beV T.toList)=x:=Fin.ext (by show beV T.toList%P=_;rw[Uf K];exact I.out);rw[yB3 K,Z]at c;have f:=Gs C T G I.out;obtain⟨n,S⟩:∃n,n=x.val:=⟨_,rfl⟩
   cases U:rt (x*x*x+7) with
   | none =>
    rw[U]at c;have p:=Lv C x U;rw[show fv x=nv n by rw[S]]at p f;repeat refine TI ?_
    refine r.u (MZ i true) [(0,.v (.string b)),(1,.v (.string s)),(4,.p 0 0),(5,.v (iZ i)),(10,.v (.bool true))] ⟨RG.st,RG.aH rfl .lss 3 3 9 (iZ i) (iZ 256) (.bool true) rfl rfl RG.sx (λw=>kR) (eY (n:=256) z),yB5⟩ ?_;intro B A d;repeat refine TI ?_
    refine UC d.ev ?_;refine Vg ?_;refine TI ?_;refine V3 ?_;repeat refine TI ?_
    refine d.d (Qj b s i u T n true) [(6,[.int .u8 (ub u)]),(8,[.string s,.string ⟨#[u]⟩]),(14,RG.z 4)] [(3,15,wn n)] [RG.z 12,[.int .u8 (ub u)],[.string s,.string ⟨#[u]⟩],wn n] [(0,.v (.string b)),(1,.v (.string s)),(4,.p 0 0),(5,.v (iZ i)),(6,.p 3 0),(7,.v (.bool true))] ⟨RG.cl bN,RG.st,RG.pQ rfl .add 9 9 15 (.string ⟨#[112,111,105,110,116,32]⟩) (.string b) (.string ((⟨#[112,111,105,110,116,32]⟩:ByteArray)++b)) rfl rfl RG.sx (λw=>kR) (PX b oM),RG.st,RG.st,RG.jG rfl 3 5 18 (iZ i) (.int .u8 (ub u)) rfl rfl RG.sx (JG Q z),RG.nK 1 rfl _ rfl 23 5 19 (.int .u8 (ub u)) rfl rfl RG.sx (bs1 (ub u)),RG.nJ rfl 1 6 _ rfl _ rfl rfl kR kR 23 9 20 1 (.string ⟨#[u]⟩) rfl rfl RG.sx (λw k h=>str1 u w k h),RG.mk 2 9,RG.cr [2] (λμ w' _ O=>vQ b s u R t (μ 2) w' (O 2 (Zy _) _ rfl (Zr _ _))) λ_ _=>kR,RG.cl f,RG.st,RG.st,RG.st,RG.mk 3 68,RG.pt i33,RG.st,yB5⟩ ?_;intro b1 b2 b3 D F g;repeat refine TI ?_
    refine g.u (Qi true) [(0,.v (.string b)),(1,.v (.string s)),(4,.p 0 0),(5,.v (iZ i)),(6,.p 3 0),(28,.v (.bool (!true)))] ⟨RG.st,RG.st,yB5⟩ ?_;intro L N l;repeat refine TI ?_
    refine UG l.ev ?_;refine Vg ?_;repeat refine TI ?_
    refine l.t (Si n x (0:Fin P) false) [(5,RG.z 12)] [(4,6,ws x++(ws (0:Fin P)++ws (1:Fin P)))] [RG.z 12,[.int .u8 (ub u)],[.string s,.string ⟨#[u]⟩],wn n,ws x++(ws (0:Fin P)++ws (1:Fin P))] [(0,.v (.string b)),(1,.v (.string s)),(4,.p 0 0),(5,.v (iZ i)),(7,.v (.bool false)),(8,.p 4 0)] ⟨RG.ld u33 i33,RG.cl p,RG.st,RG.st,RG.st,RG.mk 4 74,RG.pt i56,RG.st,yB5⟩ ?_;intro b4 h0 h2 E;repeat refine TI ?_
    refine E.u (Sg false) [(0,.v (.string b)),(1,.v (.string s)),(4,.p 0 0),(5,.v (iZ i)),(8,.p 4 0),(34,.v (.bool false))] ⟨RG.st,yB5⟩ ?_;intro h1 Y q;repeat refine TI ?_
    refine UG q.ev ?_;refine Vg ?_;repeat refine TI ?_
    refine q.u (Sj i) [(0,.v (.string b)),(1,.v (.string s)),(4,.p 0 0),(5,.v (iZ ((i+1:Nat):Int)))] ⟨RG.st,RG.aH rfl .add 3 3 11 (iZ i) (iZ 1) (iZ ((i+1:Nat):Int)) rfl rfl RG.sx (λw=>kR) (rK i 1 oM oM),RG.st,yB5⟩ ?_;intro M J o;show ∃n',_;exact⟨m'-1,oM,i+1,oM,xI j.out c,RG.M.drop (cs:=[RG.z 12]) (cs2:=[_,_,_,_]) (ks:=[X]) (ks2:=[_,_,_,_]) o rfl rfl⟩
   | some y =>
    rw[U]at c;have p:=EI C x y U;rw[show fv x=nv n by rw[S]]at p f;have W:hpt P b s.data.toList=(x,y):=Pv z j.out c;rw[W];repeat refine TI ?_
    refine r.u (MZ i true) [(0,.v (.string b)),(1,.v (.string s)),(4,.p 0 0),(5,.v (iZ i)),(10,.v (.bool true))] ⟨RG.st,RG.aH rfl .lss 3 3 9 (iZ i) (iZ 256) (.bool true) rfl rfl RG.sx (λw=>kR) (eY (n:=256) z),yB5⟩ ?_;intro B A d;repeat refine TI ?_
    refine UC d.ev ?_;refine Vg ?_;refine TI ?_;refine V3 ?_;repeat refine TI ?_
    refine d.d (Qj b s i u T n true) [(6,[.int .u8 (ub u)]),(8,[.string s,.string ⟨#[u]⟩]),(14,RG.z 4)] [(3,15,wn n)] [RG.z 12,[.int .u8 (ub u)],[.string s,.string ⟨#[u]⟩],wn n] [(0,.v (.string b)),(1,.v (.string s)),(4,.p 0 0),(5,.v (iZ i)),(6,.p 3 0),(7,.v (.bool true))] ⟨RG.cl bN,RG.st,RG.pQ rfl .add 9 9 15 (.string ⟨#[112,111,105,110,116,32]⟩) (.string b) (.string ((⟨#[112,111,105,110,116,32]⟩:ByteArray)++b)) rfl rfl RG.sx (λw=>kR) (PX b oM),RG.st,RG.st,RG.jG rfl 3 5 18 (iZ i) (.int .u8 (ub u)) rfl rfl RG.sx (JG Q z),RG.nK 1 rfl _ rfl 23 5 19 (.int .u8 (ub u)) rfl rfl RG.sx (bs1 (ub u)),RG.nJ rfl 1 6 _ rfl _ rfl rfl kR kR 23 9 20 1 (.string ⟨#[u]⟩) rfl rfl RG.sx (λw k h=>str1 u w k h),RG.mk 2 9,RG.cr [2] (λμ w' _ O=>vQ b s u R t (μ 2) w' (O 2 (Zy _) _ rfl (Zr _ _))) λ_ _=>kR,RG.cl f,RG.st,RG.st,RG.st,RG.mk 3 68,RG.pt i33,RG.st,yB5⟩ ?_;intro b1 b2 b3 D F g;repeat refine TI ?_
    refine g.u (Qi true) [(0,.v (.string b)),(1,.v (.string s)),(4,.p 0 0),(5,.v (iZ i)),(6,.p 3 0),(28,.v (.bool (!true)))] ⟨RG.st,RG.st,yB5⟩ ?_;intro L N l;repeat refine TI ?_
    refine UG l.ev ?_;refine Vg ?_;repeat refine TI ?_
    refine l.t (Si n x y true) [(5,RG.z 12)] [(4,6,ws x++(ws y++ws (1:Fin P)))] [RG.z 12,[.int .u8 (ub u)],[.string s,.string ⟨#[u]⟩],wn n,ws x++(ws y++ws (1:Fin P))] [(0,.v (.string b)),(1,.v (.string s)),(4,.p 0 0),(5,.v (iZ i)),(7,.v (.bool true)),(8,.p 4 0)] ⟨RG.ld u33 i33,RG.cl p,RG.st,RG.st,RG.st,RG.mk 4 74,RG.pt i56,RG.st,yB5⟩ ?_;intro b4 h0 h2 E;repeat refine TI ?_
    refine E.u (Sg true) [(0,.v (.string b)),(1,.v (.string s)),(4,.p 0 0),(5,.v (iZ i)),(8,.p 4 0),(34,.v (.bool true))] ⟨RG.st,yB5⟩ ?_;intro h1 Y q;repeat refine TI ?_
    refine UC q.ev ?_;repeat refine TI ?_
    refine q.T [.x (rv x y 1),.u 0] [] [(0,1,ws x++(ws y++ws (1:Fin P)))] [ws x++(ws y++ws (1:Fin P)),[.int .u8 (ub u)],[.string s,.string ⟨#[u]⟩],wn n,ws x++(ws y++ws (1:Fin P))] [4] ⟨RG.ld u56 i56,RG.pt i56,yB5⟩ ?_;intro M J o;refine UZ ?_;refine TM (v:=rv x y 1) (RG.aC o.st 4 74 rfl 0 _ rfl (o.at (s:=(.p 0 0))) u56 i56) o.sl.defers ?_;exact⟨_,rfl,o.st.bel.below,rfl⟩
  ·rw[yB4 K]at c;have f:=Gu C T G K;obtain⟨n,S⟩:∃n,n=beV T.toList:=⟨_,rfl⟩
   rw[<-S]at f;repeat refine TI ?_
   refine r.u (MZ i true) [(0,.v (.string b)),(1,.v (.string s)),(4,.p 0 0),(5,.v (iZ i)),(10,.v (.bool true))] ⟨RG.st,RG.aH rfl .lss 3 3 9 (iZ i) (iZ 256) (.bool true) rfl rfl RG.sx (λw=>kR) (eY (n:=256) z),yB5⟩ ?_;intro B A d;repeat refine TI ?_
   refine UC d.ev ?_;refine Vg ?_;refine TI ?_;refine V3 ?_;repeat refine TI ?_
   refine d.d (Qj b s i u T n false) [(6,[.int .u8 (ub u)]),(8,[.string s,.string ⟨#[u]⟩]),(14,RG.z 4)] [(3,15,wn n)] [RG.z 12,[.int .u8 (ub u)],[.string s,.string ⟨#[u]⟩],wn n] [(0,.v (.string b)),(1,.v (.string s)),(4,.p 0 0),(5,.v (iZ i)),(6,.p 3 0),(7,.v (.bool false))] ⟨RG.cl bN,RG.st,RG.pQ rfl .add 9 9 15 (.string ⟨#[112,111,105,110,116,32]⟩) (.string b) (.string ((⟨#[112,111,105,110,116,32]⟩:ByteArray)++b)) rfl rfl RG.sx (λw=>kR) (PX b oM),RG.st,RG.st,RG.jG rfl 3 5 18 (iZ i) (.int .u8 (ub u)) rfl rfl RG.sx (JG Q z),RG.nK 1 rfl _ rfl 23 5 19 (.int .u8 (ub u)) rfl rfl RG.sx (bs1 (ub u)),RG.nJ rfl 1 6 _ rfl _ rfl rfl kR kR 23 9 20 1 (.string ⟨#[u]⟩) rfl rfl RG.sx (λw k h=>str1 u w k h),RG.mk 2 9,RG.cr [2] (λμ w' _ O=>vQ b s u R t (μ 2) w' (O 2 (Zy _) _ rfl (Zr _ _))) λ_ _=>kR,RG.cl f,RG.st,RG.st,RG.st,RG.mk 3 68,RG.pt i33,RG.st,yB5⟩ ?_;intro b1 b2 b3 D F g;repeat refine TI ?_
   refine g.u (Qi false) [(0,.v (.string b)),(1,.v (.string s)),(4,.p 0 0),(5,.v (iZ i)),(6,.p 3 0),(28,.v (.bool (!false)))] ⟨RG.st,RG.st,yB5⟩ ?_;intro L N l;repeat refine TI ?_
   refine UC l.ev ?_;refine wp_exit ?_;dsimp only[Exit.then,Xl];rw[yB3 rfl];repeat refine TI ?_
   refine l.u (Sj i) [(0,.v (.string b)),(1,.v (.string s)),(4,.p 0 0),(5,.v (iZ ((i+1:Nat):Int)))] ⟨RG.st,RG.aH rfl .add 3 3 11 (iZ i) (iZ 1) (iZ ((i+1:Nat):Int)) rfl rfl RG.sx (λw=>kR) (rK i 1 oM oM),RG.st,yB5⟩ ?_;intro M J o;show ∃n',_;exact⟨m'-1,oM,i+1,oM,xI j.out c,RG.M.drop (cs:=[RG.z 12]) (cs2:=[_,_,_]) (ks:=[X]) (ks2:=[_,_,_]) o rfl rfl⟩
 ·have f:i=256:=oM;have W:hpt P b s.data.toList=(gX P,gY P):=Ml (by have h:=j.out;rw[f]at h;exact h);rw[W];have c:Gives 99 #[] (rv (gX P) (gY P) 1):=SL C;repeat refine TI ?_
  refine r.u (MZ i false) [(0,.v (.string b)),(1,.v (.string s)),(4,.p 0 0),(5,.v (iZ i)),(10,.v (.bool false))] ⟨RG.st,RG.aH rfl .lss 3 3 9 (iZ i) (iZ 256) (.bool false) rfl rfl RG.sx (λw=>kR) (l6 (n:=256) z),yB5⟩ ?_;intro B A d;repeat refine TI ?_
  refine UG d.ev ?_;refine wp_exit ?_;dsimp only[Exit.then,Xl];rw[yB3 rfl];repeat refine TI ?_
  refine d.t (Tv (gX P) (gY P)) [] [(0,1,ws (gX P)++(ws (gY P)++ws (1:Fin P)))] [ws (gX P)++(ws (gY P)++ws (1:Fin P))] [(4,.p 0 0)] ⟨RG.cl c,RG.pt i56,yB5⟩ ?_;intro D F g;refine UZ ?_;refine TM (v:=rv (gX P) (gY P) 1) (RG.aC g.st 4 74 rfl 0 _ rfl (g.at (s:=(.p 0 0))) u56 i56) g.sl.defers ?_;exact⟨_,rfl,g.st.bel.below,rfl⟩
end
section
open Go.RowKit Go.Sort Go.Deep SPA
variable {P:Nat}
theorem Mw(n:Nat)(m:n<4294967296)(w:TA):TW prog 52 #[iZ n] w (rZ w λe w'=>e=.string ⟨m7 n⟩):=by
 have b:(n:Int)/16777216%256=SP.ub (SP.aX n 16777216):=SP.dT n 16777216;have b0:(n:Int)/16777216=SP.ub (SP.aX n 16777216):=oM;clear b;have b1:(n:Int)/65536%256=SP.ub (SP.aX n 65536):=SP.dT n 65536;have o:(n:Int)/256%256=SP.ub (SP.aX n 256):=SP.dT n 256;have p:(n:Int)%256=SP.ub (SP.aX n 1):=SP.qZ n;have c:=SP.l8 w (SP.aX n 16777216) (SP.aX n 65536) (SP.aX n 256) (SP.aX n 1);have d:=SP.conv_str prog 23 9 5 slice22 int5 str9 _ _ 0 4 4 _ c rfl;have l:Hid (m7 n=#[SP.aX n 16777216,SP.aX n 65536,SP.aX n 256,SP.aX n 1]):=rfl;rw[l.out];generalize SP.aX n 16777216=j at *;generalize SP.aX n 65536=i at *;generalize SP.aX n 256=g at *;generalize SP.aX n 1=f at *;have k:Below w.heap.size w (w.alloc (.cells #[.int .u8 (SP.ub j),.int .u8 (SP.ub i),.int .u8 (SP.ub g),.int .u8 (SP.ub f)] 5)):=(TX _ _).alloc (TG _) _;go_enter func52,ntmps52;go_wp2;go_ret;exact⟨_,rfl,k,rfl⟩
theorem Qo:prog.underlying 71=some (.slice 74):=kR
theorem Re:(prog.info? 74).map (λi=>(i.size,i.bytes,i.zero.map λz=>z.cells.size))=some (12,96,some 12):=kR
theorem uS(t:T3 P):(tw t).length=12:=rfl
theorem J5{base k g:Nat}{v:TC}{xs:List TC}(t:T3 P){W:TA}(b:W.ownsRow base 74 12 v k xs)(y:Row W g (tw t))(a:k<=1000000)(n:base<=W.heap.size):
 ∃c W',(Ur #[71,71] 71 #[v,.slice (some (aZ g)) 1 1]).run prog W=.ok c W'/\W'.ownsRow base 74 12 c (k+1) (xs++tw t)/\W.grownBy W' v.ownBlock:=by
 obtain⟨i,o,e⟩:=TJ.1 Re;simp only[Vz.injEq]at e;obtain⟨x,m,q⟩:=e;obtain⟨z,p,d⟩:=TJ.1 q;obtain⟨c,W',s,r,w,-⟩:=YS (P:=prog) W base 71 71 74 i z 12 96 Qo o p x m d dC v k xs b (aZ g) 1 1 (tw t) rfl
  (λj u l=>by
   have:=y.2.1 j u l;rw[TO]at this;rw[show(⟨g,0,none⟩:V5).add j=⟨g,j,none⟩ by unfold XI;split<;>simp_all];exact this) (λu f=>List.all_eq_true.1 (CC t) u f) (by unfold maxLen;omega) oM n
 exact⟨c,W',s,r,w⟩
def RwQ(s:Nat)(f:Nat->List TC)(Q:Nat->Prop)(W:TA)(v:TC)(n:Nat):Prop:=∃g o c,v=.slice (some ⟨g,o,none⟩) n c/\n<=c/\Q g/\g<W.heap.size/\∀j,j<n->W.rangeAt g (o+s*j) (f j)
section
variable {s:Nat}{f:Nat->List TC}{Q Q':Nat->Prop}{W W':TA}{v:TC}{n g o m c:Nat}
theorem RwQ.keep(h:RwQ s f Q W v n)(d:Kq Q W W'):RwQ s f Q W' v n:=by
 obtain⟨g,o,c,p,m,b,k,q⟩:=h;refine⟨g,o,c,p,m,b,TF k d.size,λj l i u e=>?_⟩;rw[Ua (a:=⟨g,o+s*j+i,none⟩) (d.block g b k)];exact q j l i u e
theorem RwQ.mono(h:RwQ s f Q W v n)(j:∀g,g<W.heap.size->Q g->Q' g):RwQ s f Q' W v n:=by
 obtain⟨g,o,c,e,b,d,k,i⟩:=h;exact⟨g,o,c,e,b,j g k d,k,i⟩
theorem RwQ.low(h:RwQ s f Q W (.slice (some ⟨g,o,none⟩) (m+m) c) (m+m)):RwQ s f Q W (.slice (some ⟨g,o,none⟩) m c) m:=by
 obtain⟨n,i,q,e,p,b,d,k⟩:=h;injection e with e1 e2 e3
 injection e1 with e1
 injection e1 with e4 e5
 subst e3 e4 e5;exact⟨g,o,c,rfl,oM,b,d,λj l=>k j oM⟩
theorem RwQ.high(h:RwQ s f Q W (.slice (some ⟨g,o,none⟩) (m+m) c) (m+m)):RwQ s (λj=>f (m+j)) Q W (.slice (some ⟨g,o+s*m,none⟩) m (c-m)) m:=by
 obtain⟨n,i,q,e,p,b,d,k⟩:=h;injection e with e1 e2 e3
 injection e1 with e1
 injection e1 with e4 e5
 subst e3 e4 e5;refine⟨g,o+s*m,c-m,rfl,oM,b,d,λj l=>?_⟩;have:=k (m+j) oM;rw[Nat.mul_add,<-Nat.add_assoc]at this;exact this
def t6(f:Nat->List TC):Nat->List TC
 | 0=>[]
 | n+1=>t6 f n++f n
theorem xG(k:∀j,(f j).length=s):∀n,(t6 f n).length=s*n
 | 0=>rfl
 | n+1=>by rw[t6,List.length_append,xG k n,k,Nat.mul_succ]
theorem Fu(k:∀j,(f j).length=s):∀(n j i:Nat) (u:TC),j<n->(f j)[i]? = some u->(t6 f n)[s*j+i]? = some u
 | 0,_,_,_,h,_=>absurd h (VC _)
 | n+1,j,i,u,h,hu=>by
  have d:i<s:=by rw[<-k j];exact(T9.1 hu).1
  rw[t6];by_cases c:j<n
  ·have b:=Fu k n j i u c hu;rw[UB (T9.1 b).1];exact b
  ·obtain rfl:j=n:=oM;rw[U1 (by rw[xG k];omega),xG k,Nat.add_sub_cancel_left];exact hu
theorem RwQ.of_own{T:Uw}{base:Nat}(e:∀j,(f j).length=s)(h:W.ownsRow base T s v n (t6 f n))(o:0<n):RwQ s f (base<=·) W v n:=by
 have k:=λg=>h.cells (g:=g)
 rcases h with⟨-,⟨-,p⟩|⟨g,cap,cur,rfl,m,d,l,-⟩⟩
 ·omega
 ·refine⟨g,0,cap,rfl,l,m,(Uh.1 d).1,λj c i u b=>?_⟩;have:=k g rfl (s*j+i) u (Fu e n j i u c b);rw[RY]at this;rw[TO];exact this
end
abbrev PtQ(Q:Nat->Prop)(W:TA)(v:TC)(n:Nat)(t:Nat->T3 P):Prop:=RwQ 12 (λj=>tw (t j)) Q W v n
abbrev JM(t:Nat->T3 P):Nat->List TC:=t6 λj=>tw (t j)
theorem PtQ.of_own{base n:Nat}{W:TA}{v:TC}{t:Nat->T3 P}(h:W.ownsRow base 74 12 v n (JM t n))(k:0<n):PtQ (base<=·) W v n t:=RwQ.of_own (λ_=>rfl) h k
end
section
open Go.RowKit Go.Sort Go.Deep SPA
variable {P:Nat}[NeZero P]{N:Nat}
theorem below_grown{w W W':TA}{base n:Nat}{e:Uw}{s:Nat}{v:TC}{xs:List TC}(b:Below w.heap.size w W)(ho:W.ownsRow w.heap.size e s v n xs)(d:W.grownBy W' v.ownBlock):Below w.heap.size w W':=by
 refine⟨d.os.trans b.os,d.tape.trans b.tape,d.output.trans b.output,TU b.size d.size,λg c=>?_⟩;rw[d.block g (TF c b.size) ?_]
 ·exact b.block g c
 ·rcases ho with⟨-,⟨rfl,-⟩|⟨k,cap,cur,rfl,f,-⟩⟩
  ·exact λh=>by cases h
  ·intro h;injection h with h
   have h:g=k:=h;omega
theorem own_below{w W:TA}{base n s:Nat}{e:Uw}{v:TC}{xs:List TC}(ho:w.ownsRow base e s v n xs)(g:Below w.heap.size w W):W.ownsRow base e s v n xs:=by
 rcases ho with⟨c,h|⟨k,cap,cur,i,f,b,d⟩⟩
 ·exact⟨c,Ub h⟩
 ·exact⟨c,T8 ⟨k,cap,cur,i,f,by rw[g.block k (Uh.1 b).1];exact b,d⟩⟩
theorem Dn{W:TA}{base n s:Nat}{e:Uw}{v:TC}{xs:List TC}(h:W.ownsRow base e s v n xs)(k:0<n):∃g c,v=.slice (some (aZ g)) n c:=by
 rcases h with⟨-,⟨-,b⟩|⟨g,cap,cur,rfl,-⟩⟩
 ·omega
 ·exact⟨g,cap,rfl⟩
def zP:List TC:=UU 12 (uZ 0)
theorem uP3:(prog.underlying 74).map (·.isRow)=some true:=kR
theorem iP3:(prog.info? 74).map (·.size)=some 12:=kR
omit [NeZero P] in
theorem qE(t:T3 P):(tw t).toArray.all (·.oneCell')=true:=kR
omit [NeZero P] in
theorem To(t:T3 P)(w:TA):(We 71 1 #[(0,tv t)]).run prog w=.ok (.slice (some ⟨w.heap.size,0,none⟩) 1 1) (w.alloc (.cells (tw t).toArray 74)):=kR
noncomputable def bsP (P:Nat) [NeZero P] (k:ByteArray) (i:Nat):T3 P:=((hpt P k (m7 i).toList).1,(hpt P k (m7 i).toList).2,1)
theorem FD(C:Fl3 P)(k:ByteArray)(hl:k.size<=4096)(n:Nat)(X:0<n)(R:n<=64)(w:TA):TW prog 21 #[.string k,iZ n] w (rZ w λe w'=>PtQ (w.heap.size<=·) w' e n (bsP P k)/\∃g c,e=.slice (some (aZ g)) n c):=by
 obtain⟨t,U⟩:=hE (bsP P k);have Z:Hid (∀i,i<n->Gives 51 #[.string k,.string ⟨m7 i⟩] (tv (t i))):=by
  intro i _;have:=EL C k ⟨m7 i⟩ hl (show 4<=4096 by decide);rw[<-U.out];exact this
 have F:=mk2 X R;rw[U.out];obtain⟨dP,s,z⟩:=TJ.1 uP3;have V:=mk2 s z;have K0:Hid (Below w.heap.size w w/\w.ownsRow w.heap.size 74 12 (.slice none 0 0) 0 (JM t 0)):=⟨TX _ _,rfl,Ub ⟨rfl,rfl⟩⟩
 go_enter func21,ntmps21;go_wp2;go_loopg [5,6] n (λm s5 s6 W=>∃i:Nat,i+m=n/\s6=iZ i/\Hid (Below w.heap.size w W/\W.ownsRow w.heap.size 74 12 s5 i (JM t i)))
 case atStart=>exact⟨0,oM,rfl,K0⟩
 case round =>
  obtain⟨i,h0,rfl,a⟩:=hrel;by_cases hi:i<n
  ·have L:(i:Int)<(n:Int):=oM;have A:=Hid.mk' hi;go_wp2_with fail
   refine(Mw i (by have:=F.out.2;have:=A.out;omega) wr).mono ?_;rintro e W1 ⟨uu,rfl,B,rfl⟩;have O:=mk2 (a.out.1.trans (B.mono a.out.1.size)) (own_below a.out.2 B);go_wp2_with fail
   refine(Z.out i A.out W1).mono ?_;rintro e l ⟨uu,rfl,u,rfl⟩;obtain⟨o,j⟩:=hE (l.heap.size);obtain⟨H,q⟩:=hE (l.alloc (.cells zP.toArray 74));obtain⟨d,p⟩:=hE (H.setCells o 0 (tw (t i)));obtain⟨G,D⟩:=hE (d.heap.size);obtain⟨E,f⟩:=hE (d.alloc (.cells (tw (t i)).toArray 74));have T:Hid (Row H o zP/\Below l.heap.size l H):=by rw[<-q.out,<-j.out];exact⟨aE l _ _,aD _ _⟩
   have N:Hid (Row d o (tw (t i))/\Below l.heap.size l d):=by rw[<-p.out];exact⟨T.out.1.put rfl,RG.below_setCells (by rw[j.out];exact TG _) _ _ _ T.out.2⟩
   have K:Below d.heap.size d E:=by rw[<-f.out];exact aD _ _
   have r5:Row E G (tw (t i)):=by rw[<-f.out,<-D.out];exact aE d _ _
   have r:=u.trans ((N.out.2.trans (K.mono N.out.2.size)).mono u.size);have I:=mk2 (O.out.1.trans (r.mono O.out.1.size)) (own_below O.out.2 r);obtain⟨v',Y,J,Q,S⟩:=J5 (t i) I.out.2 r5 (by have:=F.out.2;have:=A.out;omega) I.out.1.size;have HA:=Hid.mk' J;have K6:=mk2 (below_grown (base:=0) I.out.1 I.out.2 S) Q;obtain⟨M,b⟩:=hE (tv (t i));have HB:Hid ((We 71 1 #[(0,M)]).run prog d=.ok (.slice (some (aZ G)) 1 1) E):=by rw[<-b.out,<-D.out,<-f.out];exact To (t i) d
   rw[b.out];go_wp2_with (first|(refine eN (v:=pZ o) (w':=H) rfl 74 7 rfl rfl ?_ ?_;(rw[<-q.out,<-j.out];kernel_rfl))|(refine Ui rfl 74 (.tmp 7) _ rfl o 0 (tw (t i)).toArray ?_ ?_ ?_ ?_ ?_ ?_;rfl;exact b.out.symm;exact T.out.1.2.2;exact iP3;exact qE (t i);rw[show(tw (t i)).toArray.toList=tw (t i) from rfl,p.out])|(refine UL rfl 74 (.tmp 7) rfl o 0 ?_ (tw (t i)) dP ?_ ?_ ?_ ?_ ?_;rfl;exact N.out.1.2.1;exact V.out.1;exact V.out.2;exact iP3;rw[show Um (tw (t i)).toArray=M from b.out])|(refine oZ (v:=.slice (some (aZ G)) 1 1) (w':=E) rfl 71 1 _ rfl #[(0,M)] ?_ ?_ ?_;kernel_rfl;exact HB.out)|(refine jI (x:=u5) (y:=.slice (some (aZ G)) 1 1) (v:=v') (w':=Y) rfl _ _ 71 rfl ?_ ?_ ?_ ?_;rfl;rfl;exact HA.out)|fail)
   go_roundg (gk-1)
   case measure=>have:=A.out;omega
   case rel=>exact⟨i+1,by have:=A.out;omega,rfl,K6⟩
  ·have L:¬(i:Int)<(n:Int):=oM;have b:i=n:=oM;go_wp2;go_ret;have:=a.out.2;rw[b]at this;exact⟨_,rfl,a.out.1,PtQ.of_own this F.out.1,Dn this F.out.1⟩
end
section
open Go.RowKit Go.Sort Go.Deep SPA
namespace RG
variable {P:Vd}{ops:Array UI}{Q:YJ->Act->TA->Prop}{w:TA}{a0:Act}{G:Gw}{k:Nat}{o:UI}
theorem Rn(j:Nat)(t:Vn)(v:TC)(cs:List TC)(T:Uw)(c:∀x W,G.R j x W->x=v)(e:∀W W':TA,Row W' W.heap.size cs->G.B W->G.R k (.slice (some ⟨W.heap.size,0,none⟩) 1 1) W')(hd:(bR o j,aV ops j)=(true,some t):=by kernel_rfl)(d:∀W,(dW [t] o,(UD (evo (evl [(t,v)])) o).run P W)=(true,.ok (.value (.slice (some ⟨W.heap.size,0,none⟩) 1 1)) (W.alloc (.cells cs.toArray T))):=by intro _;kernel_rfl):bK P Q G.flow ops a0 k o:=
 dM λa W b=>⟨[(t,v)],_,_,⟨c _ W (b.n j t (congrArg Prod.fst hd) (congrArg Prod.snd hd)),yB5⟩,d W,aD W _,e W _ (aE W cs T) b.b⟩
def pB(cs:List TC):S1:=⟨λv w=>∃g,v=.slice (some (aZ g)) 1 1/\Row w g cs,λ_ _ _ b ⟨g,c,k⟩=>⟨g,c,k.below b⟩⟩
end RG
variable {P:Nat}[NeZero P]
theorem Fz(n:Nat)(w:TA):(U6 68 (nv n)).run prog w=.ok (.pointer (some ⟨w.heap.size,0,none⟩)) (w.alloc (.cells (wn n).toArray 68)):=kR
theorem P8(k o n c i:Nat)(b:i<n)(w:TA):(Instr.indexAt 71 (.slice (some ⟨k,o,none⟩) n c) (iZ i)).run prog w=.ok (.pointer (some ⟨k,o+12*i,none⟩)) w:=by
 go_simp
def mxT(x y:Nat)(k b:Nat->T3 P)(j:Nat):T3 P:=plF (tmF x (k j) 256) (tmF y (b j) 256)
theorem I1(C:Fl3 P)(x y:Nat)(hx:x<top)(hy:y<top)(n:Nat)(hn:0<n)(Z:n<=64)(f d:Nat->T3 P)(pa pb:Nat->EC.Pt P)(M:∀j,j<n->FracT (f j) (pa j))(I:∀j,j<n->FracT (d j) (pb j))(va vb:TC)(w:TA)(hA:PtQ (λ_=>True) w va n f)(q:PtQ (λ_=>True) w vb n d):
 TW prog 67 #[nv x,va,nv y,vb] w (rZ w λe w'=>PtQ (w.heap.size<=·) w' e n (mxT x y f d)):=by
 obtain⟨ga,G,O,rfl,h3,-,F,X⟩:=hA;obtain⟨A,H,cb,rfl,h4,-,K,R⟩:=q;obtain⟨k,S⟩:=hE (w.heap.size);obtain⟨o,r⟩:=hE (w.alloc (.cells (wn x).toArray 68));obtain⟨b,a⟩:=hE (o.alloc (.cells (wn y).toArray 68));have z1:o.heap.size=k+1:=by rw[<-r.out,TQ,S.out]
 have b1:Below w.heap.size w o:=by rw[<-r.out];exact aD _ _
 have b2:Below o.heap.size o b:=by rw[<-a.out];exact aD _ _
 have r1:Row o k (wn x):=by rw[<-r.out,<-S.out];exact aE w _ _
 have r2:Row b (k+1) (wn y):=by rw[<-a.out,<-z1];exact aE o _ _
 have p:=b1.trans (b2.mono b1.size);have l:Hid (Row b k (wn x)/\Row b (k+1) (wn y)/\ga<b.heap.size/\A<b.heap.size/\(∀j,j<n->b.rangeAt ga (G+12*j) (tw (f j)))/\(∀j,j<n->b.rangeAt A (H+12*j) (tw (d j)))/\Below w.heap.size w b):=⟨r1.below b2,r2,TF F p.size,TF K p.size,λj z=>RG.range_below (X j z) p F,λj z=>RG.range_below (R j z) p K,p⟩
 have cT:Hid (∀j,j<n->Gives 25 #[nv x,tv (f j)] (tv (tmF x (f j) 256))/\Gives 25 #[nv y,tv (d j)] (tv (tmF y (d j) 256))/\Gives 23 #[tv (tmF x (f j) 256),tv (tmF y (d j) 256)] (tv (mxT x y f d j))):=λj z=>⟨vP C x hx (f j) (M j z),vP C y hy (d j) (I j z),(FracT.plus C (A6 C (by unfold top at hx;omega) (M j z) 256 (TG _)) (A6 C (by unfold top at hy;omega) (I j z) 256 (TG _))).1⟩
 obtain⟨t,ht⟩:=hE (mxT x y f d);rw[ht.out]at cT;rw[ht.out];have B1:Hid ((U6 68 (nv x)).run prog w=.ok (pZ k) o):=by rw[<-r.out,<-S.out];exact Fz x w
 have B2:Hid ((U6 68 (nv y)).run prog o=.ok (.pointer (some ⟨k+1,0,none⟩)) b):=by rw[<-a.out,<-z1];exact Fz y o
 have K0:Hid (Below b.heap.size b b/\b.ownsRow b.heap.size 74 12 (.slice none 0 0) 0 (JM t 0)):=⟨TX _ _,rfl,Ub ⟨rfl,rfl⟩⟩
 have HN:=mk2 hn Z;obtain⟨vx,E⟩:=hE (nv x);obtain⟨vy,L⟩:=hE (nv y);rw[E.out]at B1;rw[L.out]at B2;rw[E.out,L.out];go_enter func67,ntmps67;go_wp2_with (first|(refine aM (u:=vx) (v:=pZ k) (w':=o) rfl 68 (.tmp 0) rfl ?_ ?_ ?_;rfl;exact B1.out)|(refine aM (u:=vy) (v:=.pointer (some ⟨k+1,0,none⟩)) (w':=b) rfl 68 (.tmp 2) rfl ?_ ?_ ?_;rfl;exact B2.out)|fail)
 go_loopg [9,10] n (λm s9 s10 W=>∃i:Nat,i+m=n/\s10=iZ i/\Hid (Below b.heap.size b W/\W.ownsRow b.heap.size 74 12 s9 i (JM t i)))
 case atStart=>exact⟨0,oM,rfl,K0⟩
 case round =>
  obtain⟨i,h2,rfl,c⟩:=hrel;by_cases hi:i<n
  ·have U:(i:Int)<(n:Int):=oM;have s:=Hid.mk' hi;go_wp2_with fail
   have h1:=c.1.drew;obtain⟨c1,c2,c3⟩:=cT.out i s.out;refine(RG.gwL [RG.pE u9,RG.pE (nv x),RG.pE (.slice (some ⟨ga,G,none⟩) n O),RG.pE (iZ i),RG.pE (.pointer (some ⟨ga,G+12*i,none⟩)),RG.pE (tv (f i)),RG.pE (tv (tmF x (f i) 256)),RG.pE (nv y),RG.pE (.slice (some ⟨A,H,none⟩) n cb),RG.pE (iZ i),RG.pE (.pointer (some ⟨A,H+12*i,none⟩)),RG.pE (tv (d i)),RG.pE (tv (tmF y (d i) 256)),RG.pE (tv (t i)),RG.pB (tw (t i))] (λW=>Below wr.heap.size wr W) (λW W' hb h=>h.trans (hb.mono h.size))).tail2 15 kR kR kR ⟨
    RG.gO 9 u9,
    RG.gLo 4 (λW q=>RG.range_below l.1.2.1 (c.1.trans (q.mono c.1.size)) l.1.1) u33 i33,
    RG.gO 1 (.slice (some ⟨ga,G,none⟩) n O),
    RG.gO 10 (iZ i),
    RG.gX 2 19 3 20 (P8 ga G n O i s.out),
    RG.gLr 4 21 (λW q=>RG.range_below (l.2.2.2.2.1 i s.out) (c.1.trans (q.mono c.1.size)) l.2.2.1) uP3 iP3,
    RG.gC2 1 18 5 22 c1,
    RG.gLo 6 (λW q=>RG.range_below l.2.1.2.1 (c.1.trans (q.mono c.1.size)) l.2.1.1) u33 i33,
    RG.gO 3 (.slice (some ⟨A,H,none⟩) n cb),
    RG.gO 10 (iZ i),
    RG.gX 8 25 9 26 (P8 A H n cb i s.out),
    RG.gLr 10 27 (λW q=>RG.range_below (l.2.2.2.2.2.1 i s.out) (c.1.trans (q.mono c.1.size)) l.2.2.2.1) uP3 iP3,
    RG.gC2 7 24 11 28 c2,
    RG.gC2 6 23 12 29 c3,
    RG.Rn 13 30 (tv (t i)) (tw (t i)) 74 (λx W h=>h) (λW W' h _=>⟨_,rfl,h⟩),yB5⟩ (TX _ _).drew ?_
   intro V W9 B D;have Q:=B 0 dC;obtain⟨g8,J,r8⟩:∃g,V 14=.slice (some (aZ g)) 1 1/\Row W9 g (tw (t i)):=B 14 dC;have N:=mk2 (c.1.trans (D.mono c.1.size)) (own_below c.2 D);obtain⟨v',W6,T,Y,h0⟩:=J5 (t i) N.2 r8 (by have:=HN.2;have:=s.out;omega) N.1.size;have HA:=Hid.mk' T;have K6:=mk2 (below_grown (base:=0) N.1 N.2 h0) Y;dsimp only[RG.bW,UJ,Vw,Vx];simp only[Ug,TD,TK,TL];rw[Q,J];go_wp2_with (first|(refine jI (x:=u9) (y:=.slice (some (aZ g8)) 1 1) (v:=v') (w':=W6) rfl _ _ 71 rfl ?_ ?_ ?_ ?_;rfl;rfl;exact HA.out)|fail)
   go_roundg (gk-1)
   case measure=>have:=s.out;omega
   case rel=>exact⟨i+1,by have:=s.out;omega,rfl,K6⟩
  ·have U:¬(i:Int)<(n:Int):=oM;have s:i=n:=oM;go_wp2;go_ret;have:=c.2;rw[s]at this;exact⟨_,rfl,l.2.2.2.2.2.2.trans (c.1.mono l.2.2.2.2.2.2.size),(PtQ.of_own this HN.1).mono λg _ B=>TU l.2.2.2.2.2.2.size B⟩
end
section
open Go.RowKit Go.Sort Go.Deep SPA
variable {P:Nat}[NeZero P]{N:Nat}
theorem qM{w:TA}{y g o:Nat}{L:Bs}{vs:List TC}(h:SP.RLog w y L)(k:y≠g):SP.RLog (w.setCells g o vs) y L:=by
 have b:=RG.aG g vs o w y k;refine⟨by rw[Ua (a:=⟨y,0,none⟩) b];exact h.1,?_⟩;rw[UY (a:=⟨y,0,none⟩) b];exact h.2
theorem IF(O:Ord N)(y:Nat)(L:Bs)(w:TA)(G:L.size=32)(B:SP.RLog w y L):TW prog 107 #[pZ y] w (Ret λe w'=>SP.Only y 0 1 w w'/\SP.RLog w' y (iK L)/\e=nv (cha N L)):=by
 obtain⟨a,i⟩:=hE (iK L);rw[i.out];obtain⟨A,z⟩:∃A,Hid (SP.t7 L [99,104,97,108,108,101,110,103,101] 64=A):=⟨_,rfl⟩
 have E:A.size=64:=by rw[<-z.out];exact SP.zG _ _ _
 have D:cha N L=qO N A:=by unfold cha;rw[z.out]
 rw[D];clear D;have s:=B.lt;obtain⟨f,d⟩:∃f,Hid (w.alloc (.cells #[uZ 0,uZ 0,uZ 0,uZ 0] 68)=f):=⟨_,rfl⟩
 have j:Hid (Row f w.heap.size [uZ 0,uZ 0,uZ 0,uZ 0]/\Below w.heap.size w f):=by rw[<-d.out];exact⟨aE w _ _,aD w _⟩
 go_enter func107,ntmps107;go_wp2_with fail
 rw[d.out];refine(Kf f).mono ?_;rintro e r ⟨v,rfl,k,rfl⟩;have p:Hid (Row r w.heap.size [uZ 0,uZ 0,uZ 0,uZ 0]/\Below w.heap.size w r/\SP.RLog r y L):=⟨j.1.below k,j.2.trans (k.mono j.2.size),(B.below j.2).below k⟩
 clear k j d;go_wp2_with fail
 refine(SP.C5 y L ⟨#[99,104,97,108,108,101,110,103,101]⟩ 64 r dC dC G p.2.2).mono ?_;rintro e n ⟨rfl,t,b⟩;rw[show SP.mD L (⟨#[99,104,97,108,108,101,110,103,101]⟩:ByteArray).data.toList=a from i.out]at b;rw[show SP.t7 L (⟨#[99,104,97,108,108,101,110,103,101]⟩:ByteArray).data.toList 64=A from z.out];have o:Hid (Row n w.heap.size [uZ 0,uZ 0,uZ 0,uZ 0]/\SP.Only y 0 1 w n/\SP.RLog n y a):=⟨p.1.only t oM,(SP.Only.of_below p.2.1 rfl s).trans t,b⟩
 clear t p b;go_wp2_with fail
 refine(OC O A oM n).mono ?_;rintro e F ⟨v,rfl,c,rfl⟩;have q:=mk3 (o.1.below c) (o.2.1.trans (SP.Only.of_below c rfl (TF s o.2.1.size))) (o.2.2.below c);obtain⟨m,C⟩:=hE (qO N A);rw[C.out];obtain⟨u,g⟩:=hE (F.setCells w.heap.size 0 (wn m));have x:Hid (Row u w.heap.size (wn m)/\SP.Only y 0 1 w u/\SP.RLog u y a):=by
  rw[<-g.out];exact⟨q.1.put rfl,cE q.2.1 s (TG _) _,qM q.2.2 (Vl s)⟩
 obtain⟨H,l⟩:=hE (nv m);rw[l.out];go_wp2_with (refine Ui rfl 68 _ _ rfl w.heap.size 0 (wn m).toArray ?_ ?_ ?_ ?_ ?_ ?_;rfl;exact l.symm;exact q.1.2.2;exact i33;exact bT m;rw[show(wn m).toArray.toList=wn m from rfl,g.out])
 refine TM (aL 2 68 rfl x.1 rfl u33 i33) rfl ?_;exact⟨_,rfl,x.2.1,x.2.2,by rw[C.out];rfl⟩
theorem MH(O:Ord N)(y:Nat)(L:Bs)(w:TA)(hl:L.size=32)(R:SP.RLog w y L):TW prog 65 #[pZ y] w (Ret λe w'=>SP.Only y 0 1 w w'/\SP.RLog w' y (iK L)/\e=nv (kG (cha N L))):=by
 have E:=R.lt;have B:cha N L<N:=uC O _;obtain⟨P,a⟩:=hE (iK L);have J:=Hid.mk' (λ(W:TA) (h:SP.RLog W y L)=>IF O y L W hl h);rw[a.out]at J;rw[a.out];obtain⟨c,Q⟩:=hE (cha N L);rw[Q.out]at J B;rw[Q.out];have X:=Hid.mk' (λ(W:TA)=>nY (nv c) c (O.four B) W);have Y:=Hid.mk' (λ(W:TA)=>lU 1 dC W);obtain⟨k,F⟩:=hE (w.heap.size);obtain⟨C,A⟩:=hE (w.alloc (.cells #[uZ 0,uZ 0,uZ 0,uZ 0] 68));have s:Hid (Row C k [uZ 0,uZ 0,uZ 0,uZ 0]/\Below w.heap.size w C/\SP.RLog C y L/\y<k):=by rw[<-A.out,<-F.out];exact⟨aE w _ _,aD w _,R.below (aD w _),E⟩
 obtain⟨dN,v,x⟩:=TJ.1 u33;have HD:=mk2 v x;go_enter func65,ntmps65;go_wp2_with (first|(refine alR 2 F A ?_)|fail)
 refine(J C s.2.2.1).mono ?_;rintro e i ⟨S,rfl,T,t,rfl⟩;obtain⟨H,p⟩:=hE (i.heap.size);obtain⟨G,z⟩:=hE (i.alloc (.cells #[uZ 0,uZ 0,uZ 0,uZ 0] 68));obtain⟨q,m⟩:=hE (G.setCells H 0 (wn c));have I:=t.lt;have M:Hid (Row G H [uZ 0,uZ 0,uZ 0,uZ 0]/\Below i.heap.size i G):=by rw[<-z.out,<-p.out];exact⟨aE i _ _,aD i _⟩
 have j:Below i.heap.size i q:=by rw[<-m.out];exact RG.below_setCells (by rw[p.out];exact TG _) _ _ _ M.2
 have Z:=(SP.Only.of_below s.2.1 rfl E).trans T;have r:Hid (Row q k [uZ 0,uZ 0,uZ 0,uZ 0]/\Row q H (wn c)/\SP.Only y 0 1 w q/\SP.RLog q y P):=⟨(s.1.only T (Nat.ne_of_gt s.2.2.2)).below j,by rw[<-m.out];exact M.1.put rfl,Z.trans (SP.Only.of_below j rfl I),t.below j⟩
 obtain⟨vc,b⟩:=hE (nv c);rw[b.out]at X;rw[b.out];go_wp2_with (first|(refine alR 3 p z ?_)|(refine stR 3 m b M.1.2.2 i33 (bT c) ?_)|(refine ldR 3 r.2.1.2.1 b u33 i33 ?_)|fail)
 refine(X q).mono ?_;rintro e V ⟨S,rfl,g,rfl⟩;have f:=mk4 (r.1.below g) (r.2.1.below g) (r.2.2.1.trans (SP.Only.of_below g rfl r.2.2.2.lt)) (r.2.2.2.below g);by_cases D:c=0
 ·have hd:=decide_eq_true D;rw[hd];have K:Hid (kG c=1):=by show _=_;unfold kG;rw[yB3 D]
  go_wp2_with fail
  refine(Y V).mono ?_;rintro e w6 ⟨S,rfl,o,rfl⟩;obtain⟨n,d⟩:=hE (w6.setCells k 0 (wn 1));have U:=f.1.below o;have l:Hid (Row n k (wn 1)/\SP.Only y 0 1 w n/\SP.RLog n y P):=by
   rw[<-d.out];exact⟨U.put rfl,cE (f.2.2.1.trans (SP.Only.of_below o rfl f.2.2.2.lt)) E (by rw[F.out];exact TG _) _,qM (f.2.2.2.below o) (by have:=s.2.2.2;omega)⟩
  have H6:=Hid.mk' U;rw[show Um #[uZ ((1:Nat):Int),uZ 0,uZ 0,uZ 0]=nv 1 from rfl];obtain⟨v1,u⟩:=hE (nv 1);rw[u.out];go_wp2_with (first|(refine stR 2 d u H6.2.2 i33 (bT 1) ?_)|fail)
  refine TM (aL 2 68 rfl l.1 rfl u33 i33) rfl ?_;exact⟨_,rfl,l.2.1,l.2.2,by rw[K.out];rfl⟩
 ·have hd:=decide_eq_false D;rw[hd];have K:Hid (kG c=c):=by show _=_;unfold kG;rw[yB4 D]
  obtain⟨n,d⟩:=hE (V.setCells k 0 (wn c));have l:Hid (Row n k (wn c)/\SP.Only y 0 1 w n/\SP.RLog n y P):=by
   rw[<-d.out];exact⟨f.1.put rfl,cE f.2.2.1 E (by rw[F.out];exact TG _) _,qM f.2.2.2 (by have:=s.2.2.2;omega)⟩
  go_wp2_with (first|(refine ldR 3 f.2.1.2.1 b u33 i33 ?_)|(refine stR 2 d b f.1.2.2 i33 (bT c) ?_)|fail)
  refine TM (aL 2 68 rfl l.1 rfl u33 i33) rfl ?_;exact⟨_,rfl,l.2.1,l.2.2,by rw[K.out];rfl⟩
noncomputable def inT (P:Nat) [NeZero P]:T3 P:=((hpt P ⟨#[105,110,110,101,114]⟩ []).1,(hpt P ⟨#[105,110,110,101,114]⟩ []).2,1)
theorem I7(C:Fl3 P):Gives 22 #[] (tv (inT P)):=by
 intro w;have c:Gives 51 #[.string ⟨#[105,110,110,101,114]⟩,.string ⟨#[]⟩] (tv (inT P)):=EL C ⟨#[105,110,110,101,114]⟩ ⟨#[]⟩ dC dC;generalize inT P=t at c;go_enter func22,ntmps22;refine RG.M.enter [] 2 kR ?_;intro a0 e;repeat refine TI ?_
 refine e.tx [.m 0 [] 0] [(0,RG.z 12)] [] [RG.z 12] [(0,.p 0 0)] kR kR ⟨RG.mk 0 74 λ_ _=>kR,yB5⟩ ?_;intro k i g d;repeat refine TI ?_
 refine d.tx [.c 1 [] (tv t),.u [(1,0)] 0] [] [(0,1,tw t)] [tw t] [(0,.p 0 0)] kR kR ⟨RG.cl c λ_ _=>kR,RG.pt i56 kR,yB5⟩ ?_;intro f j b;refine UZ ?_;refine TM (v:=tv t) (RG.aC b.st 0 74 rfl 0 _ rfl (b.at (s:=(.p 0 0)) kR) u56 i56) b.sl.defers ?_;exact⟨_,rfl,b.st.bel.below,rfl⟩
theorem Df(k point:ByteArray)(A:k.size<=16384)(v:point.size<=16384)(w:TA):TW prog 29 #[.string k,.string point] w (rZ w λe w'=>∃y,e=pZ y/\w.heap.size<=y/\SP.RLog w' y (vV k.data.toList point.data)):=by
 have t:=Hid.mk' (λ(y:Nat) (L:Bs) (s:L.size=32) (W:TA) (h:SP.RLog W y L)=>U8 (SP.lR y L ⟨#[108,97,98,101,108]⟩ k W dC A s h) (SP.lR y L ⟨#[112,111,105,110,116]⟩ point W dC v s h));have x:=Hid.mk' (λ(W:TA)=>SP.CZ ⟨#[112,114,111,100,117,99,116]⟩ W dC);obtain⟨a,b⟩:=hE (vV k.data.toList point.data);rw[b.out];unfold vV at b;obtain⟨m,d⟩:=hE (SP.newL [112,114,111,100,117,99,116]);have s1:m.size=32:=by rw[<-d.out];exact SP.sF _
 rw[d.out]at b;obtain⟨n,c⟩:=hE (SP.kU m [108,97,98,101,108] k.data.toList);have s2:n.size=32:=by rw[<-c.out];exact SP.fL _ _ _
 rw[c.out]at b;go_enter func29,ntmps29;go_wp2_with fail
 refine(x w).mono ?_;rintro e u ⟨y,rfl,B,q,j⟩;rw[show SP.newL (⟨#[112,114,111,100,117,99,116]⟩:ByteArray).data.toList=m from d.out]at j;have i:=mk3 B q j;go_wp2_with fail
 refine((t y m s1 u i.2.2).1).mono ?_;rintro e z ⟨rfl,p,l⟩;rw[show SP.kU m (⟨#[108,97,98,101,108]⟩:ByteArray).data.toList k.data.toList=n from c.out]at l;have f:=mk3 i.1 (i.2.1.trans (qV p i.2.1.size i.1)) l;go_wp2_with fail
 refine((t y n s2 z f.2.2).2).mono ?_;rintro e C ⟨rfl,r,g⟩;rw[show SP.kU n (⟨#[112,111,105,110,116]⟩:ByteArray).data.toList point.data.toList=a from b.out]at g;have o:=mk3 f.1 (f.2.1.trans (qV r f.2.1.size f.1)) g;go_wp2_with fail
 go_ret;exact⟨_,rfl,o.2.1,y,rfl,o.1,o.2.2⟩
theorem Jo(n:Int):Gives 19 #[iZ n] (.bool (hvT n).2):=by
 intro w;obtain⟨v,hv⟩:=hE (yBH (hvT n).2);rw[hv.out];go_enter func19,ntmps19;go_wp2;go_loopg [3] 7 (λm s3 W=>W=w/\∃i:Nat,i+m=7/\s3=iZ ((2^i:Nat):Int)/\Hid (∀j,j<i->¬n=((2^j:Nat):Int)))
 case atStart=>exact⟨rfl,0,rfl,rfl,λj f=>absurd f (VC _)⟩
 case round =>
  obtain⟨rfl,i,r,rfl,k⟩:=hrel;have c:i=7\/i=0\/i=1\/i=2\/i=3\/i=4\/i=5\/i=6:=oM;rcases c with rfl|c
  ·have e:Hid (yBH false=v):=by
    show _=_;have h:=λj f=>k.out j f
    have p:=h 0 dC;have q:=h 1 dC;have g:=h 2 dC;have l:=h 3 dC;have d:=h 4 dC;have b:=h 5 dC;have o:=h 6 dC;simp only[XM,Yh,YM]at p q g l d b o;rw[<-hv.out];simp[hvT,p,q,g,l,d,b,o]
   go_wp2;go_ret;exact⟨_,rfl,TX _ _,e.out⟩
  ·have l:i<7:=oM;by_cases d:n=((2^i:Nat):Int)
   ·rcases c with rfl|rfl|rfl|rfl|rfl|rfl|rfl
    all_goals
     simp only[XM]at d;subst d;go_wp2;go_ret;exact⟨_,rfl,TX _ _,hv.out⟩
   ·have b:Hid (∀j,j<i+1->¬n=((2^j:Nat):Int)):=λj f=>by
     by_cases g:j=i
     ·rw[g];exact d
     ·exact k.out j oM
    rcases c with rfl|rfl|rfl|rfl|rfl|rfl|rfl
    all_goals
     simp only[XM,Yh,YM]at d;go_wp2;go_roundg (gk-1)
     case measure=>omega
     case rel=>refine⟨rfl,_,?_,?_,b⟩<;>first|omega|rfl
end
section
open Go.RowKit Go.Sort Go.Deep SPA
variable {P:Nat}[NeZero P]{N:Nat}[NeZero N]
theorem yX(C:Fl3 P)(k:∀r:EC.Pt P,EC.On r->EC.mul N r=none)(c:N<=top)(n:Fin N){t:T3 P}{X:OnP P}(h:FracT t X.1):Gives 25 #[nv n.val,tv t] (tv (tmF n.val t 256))/\FracT (tmF n.val t 256) ((aO C.toFld k).ac n X).1:=by
 have b:=TF n.isLt c;refine⟨vP C n.val b t h,?_⟩;have:=A6 C (n:=n.val) (by unfold top at b;omega) h 256 (TG _);rw[Yg,Wx,Nat.div_one]at this;exact this
theorem B8(C:Fl3 P)(k:∀r:EC.Pt P,EC.On r->EC.mul N r=none){t b:T3 P}{X Y:OnP P}(h:FracT t X.1)(c:FracT b Y.1):Gives 23 #[tv t,tv b] (tv (plF t b))/\FracT (plF t b) ((aO C.toFld k).ad X Y).1:=FracT.plus C h c
theorem Oa(b o n c k:Nat)(d:k<=c)(w:TA):(VP 71 (.slice (some ⟨b,o,none⟩) n c) none (some (iZ k)) none).run prog w=.ok (.slice (some ⟨b,o,none⟩) k c) w:=by
 go_simp
theorem N9(b o n c k:Nat)(j:k<n)(d:n<=c)(w:TA):(VP 71 (.slice (some ⟨b,o,none⟩) n c) (some (iZ k)) none none).run prog w=.ok (.slice (some ⟨b,o+12*k,none⟩) (n-k) (c-k)) w:=by
 have i:¬(k:Int)<0:=oM;have f:(k:Int)<=(n:Int):=oM;have g:¬c=k:=oM;have e:=FN b o (12*k);go_simp
omit [NeZero P] in
theorem RL(t:T3 P)(w:TA):(U6 74 (tv t)).run prog w=.ok (.pointer (some ⟨w.heap.size,0,none⟩)) (w.alloc (.cells (tw t).toArray 74)):=kR
variable {w0 W W':TA}{y k kq ka kb a b m:Nat}{vI:List TC}{L L':Bs}{tp tu:T3 P}{v3 v4:TC}{tg th:Nat->T3 P}
namespace RG
variable {P:Vd}{ops:Array UI}{Q:YJ->Act->TA->Prop}{w:TA}{a0:Act}{G:Gw}{k:Nat}{o:UI}
theorem Rl(j:Nat)(t:Vn)(l:Nat)(d:Vn)(c:Nat)(b:Vn)(i:Nat)(s:Vn)(f:FuncId)(args:TC->TC->TC->TC->Array TC)(m:∀x y z u W,G.R j x W->G.R l y W->G.R c z W->G.R i u W->G.B W->TW P f (args x y z u) W (rZ W λe W'=>G.R k e W'))(hd:((bR o j,aV ops j),(bR o l,aV ops l),(bR o c,aV ops c),(bR o i,aV ops i))=((true,some t),(true,some d),(true,some b),(true,some s)):=by kernel_rfl)(n:∀x y z u W,(dW [t,d,b,s] o,(UD (evo (evl [(t,x),(d,y),(b,z),(s,u)])) o).run P W)=(true,.ok (.enter f (args x y z u)) W):=by intro _ _ _ _ _;kernel_rfl):bK P Q G.flow ops a0 k o:=
 kH λa W g=>⟨[(t,a.eval (.tmp t)),(d,a.eval (.tmp d)),(b,a.eval (.tmp b)),(s,a.eval (.tmp s))],f,_,⟨rfl,rfl,rfl,rfl,yB5⟩,n _ _ _ _ W,m _ _ _ _ W (g.n j t (congrArg (·.1.1) hd) (congrArg (·.1.2) hd)) (g.n l d (congrArg (·.2.1.1) hd) (congrArg (·.2.1.2) hd)) (g.n c b (congrArg (·.2.2.1.1) hd) (congrArg (·.2.2.1.2) hd)) (g.n i s (congrArg (·.2.2.2.1) hd) (congrArg (·.2.2.2.2) hd)) g.b⟩
def pT{P:Nat}(Q:Nat->Prop)(n:Nat)(t:Nat->T3 P):S1:=⟨λv w=>PtQ Q w v n t,λ_ _ _ k h=>h.keep (Kq.of_below k)⟩
end RG
end
end Go.Proofs.YtjnchldodncnbaaGreat
