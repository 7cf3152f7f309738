import Derived.Laws.IdiomCopy
import Derived.Lib.SlBuf
import Derived.Deep.AppendSrc
import Derived.Test.YtndpeoebngkhmaaGreatsv6
set_option linter.unusedVariables false
set_option linter.defProp false
set_option linter.constructorNameAsVariable false
set_option linter.unusedSimpArgs false
set_option maxRecDepth 1000000
set_option maxHeartbeats 4000000
namespace Go.Proofs.YtndpeoebngkhmaaGreat
open _root_ renaming Array->R,Bool->Hc,ByteArray->Fd,Fin->B,Int->Y,List->G,Nat->I,Option->GJ,UInt8->Fk,rfl->Z
open Go.Proofs.YtndpeoebngkhmaaGreat renaming Fld->IO,FracT->IN,Gives->FL,Row->FJ,i40->In,oM->S,uZ->U,yGP->GD,yGQ->Id,yGR->Fs
open Go.RowKit renaming Hid->E
open Go.Sort renaming Holds->FE
open _root_.Bool renaming false->D,true->H
open _root_.Option renaming none->F,some->J
open EC NT RG SP
open _root_.And renaming intro->gF
open _root_.Array renaming getElem?_eq_some_iff->ZO,getElem?_setIfInBounds->zk,length_toList->ZE,mk->zi,setIfInBounds_comm->yDz
open _root_.Bool renaming and_eq_true->ZD,and_true->yDX,false_or->yE8,not_eq_true'->yFD,not_true->yEP,or_eq_true->xj
open _root_.Go renaming Calls->ae,Exit->fI,FuncId->ph,Oper->Z4,Operand->oF,Program->ai,TypeId->ZR,Value->Zm,World->Zl,bodyPost_ret->Zx,execOp->Z0,run_loadVar_mid->um,wpList_load_mid->gS,wpList_plain->sj,wpList_store_mid->ZZ,wp_cond_false->Z2,wp_seq->Zq
open _root_.Go.Act renaming put->ah
open _root_.Go.Builtin renaming copy_->zn
open _root_.Go.Code renaming region->gH
open _root_.Go.Instr renaming box->aj,buildSlice->pg,indexAt->iB
open _root_.Go.IntKind renaming i64->ZN,u64->cW,wrap_u64->yx
open _root_.Go.Next renaming value->pi
open _root_.Go.Oper renaming semAt_some->yED,upon_enter->un,wp->ao
open _root_.Go.Region renaming binds->ml,noSelect->zh,ready->ZX,wanted->rl
open _root_.Go.RowKit.Below renaming refl->ZF
open _root_.Go.Sem renaming run_bind->ZK
open _root_.Go.Value renaming agg->ZM
open _root_.Go.World renaming cell?_of_block->ZP,rangeAt_setCells_apart->su,size_alloc->Zy,there_setCells->ym
open _root_.List renaming all_cons->yEM,all_nil->yE4,all_toArray->yCy,append_assoc->uk,append_nil->ug,cons->sw,drop->tr,getElem?_append_left->uo,getElem?_append_right->xS,getElem?_cons_succ->ZQ,getElem?_cons_zero->ZT,getElem?_eq_getElem->ZH,getElem?_eq_some_iff->Zz,getElem?_map->rm,getElem?_range->yD0,getElem?_toArray->ZU,getElem_map->uq,length_append->Zv,length_map->ZI,map_append->ty,mem_append->py,mem_cons->fT,mem_map->Z1,mem_singleton->ur,not_mem_nil->ZJ,range->fo,setIfInBounds_toArray->Zr,set_cons_succ->Zt,set_cons_zero->Zu,size_toArray->kI,take->r9
open _root_.Nat renaming add_assoc->tz,add_sub_cancel_left->xV,add_zero->qg,div_eq_of_lt->qv,le_of_eq->CK,le_of_lt->qx,le_refl->Zo,le_trans->Zw,lt_of_lt_of_le->Zn,min->xb,min_le_left->yEL,min_le_right->yEA,mod_eq_of_lt->ZC,mod_lt->gD,mul_add_div->yFZ,mul_comm->ax,one_mul->tF,one_pos->yGx,pow_le_pow_right->qp,pow_pos->rj,pow_succ->oB,reduceAdd->mi,sub_zero->wt,zero_add->Zs,zero_le->pj,zero_mod->yp,zero_mul->DB
open _root_.Ne renaming symm->xg
open _root_.Option renaming isSome_iff_exists->Z8,map_eq_some_iff->Zp,map_some->yDD,some->ZV
open _root_.Or renaming inl->Z5,inr->ZW
open _root_.Prod renaming mk->an
open _root_.UInt8 renaming toNat_inj->yEk
open Go.Proofs.Tryz
open Go.RowKit Go.Sort Go.Deep
variable {P:Nat}[NeZero P]{N:Nat}
variable {K:Act->Zl->Prop}{Q Q':Nat->Prop}{R1 X:Zm->Zl->Prop}{T:ZR}{W W' w:Zl}{c g j k n r s z:Nat}{c' us vs xs ys:List Zm}{e tmps:Array Zm}{f:ph}{l':LB}{o:Z4}{obj:Obj}{p u v:Zm}{q:Option Addr}{rs:List (Nat × List Zm)}{α:Type}
def uF2:wZ 250:=wQ
def uSl:wZ 109:=wQ
def Hk{c:Zl}{x:Zm}(b:kZ w c)(d:k<w.heap.size)(f:w.cell? ⟨k,0,F⟩=J x)(e:kZ c W):W.cell? ⟨k,0,F⟩=J x:=by
 rw[e.cell (p:=⟨k,0,F⟩) (Zn d b.size),b.cell (p:=⟨k,0,F⟩) d];exact f
def row_of{c:Zl}{o:I}{cs:G Zm}(b:kZ w c)(d:k<w.heap.size)(f:w.rangeAt k o cs)(e:kZ c W):W.rangeAt k o cs:=aF (aF f b d) e (Zn d b.size)
def T9(f:ph)(hf:∀args W,(callFunc f args).run prog W=.ok (.enter f args) W)(x y z:I)(A:FL f #[nv x,nv y] (nv z))(i r p u o t v c1 n s a c2:I)(h1:i<v)(C:i<a)(w:Zl)(lf:r<w.heap.size)(l1:p<w.heap.size)(l2:u<w.heap.size)(L:o<w.heap.size)(P:n<w.heap.size)(N:w.cell? ⟨r,0,F⟩=J (.func (.func f) #[] #[]))(Q:w.cell? ⟨p,0,F⟩=J (qZ o t v c1))(M:w.cell? ⟨u,0,F⟩=J (qZ n s a c2))(K:w.rangeAt o (t+4*i) (wn x))(r2:w.rangeAt n (s+4*i) (wn y)):
 eZ 217 #[iZ i,jZ r,jZ p,jZ u] w (nv z):=by
 obtain⟨k,q⟩:=hE (w.heap.size);obtain⟨V,c⟩:=hE (lZ w (RG.z 4) 93);have l:=aN q c;obtain⟨X,g⟩:=hE (nv x);obtain⟨vy,d⟩:=hE (nv y);obtain⟨vz,m⟩:=hE (nv z);rw[g.out,d.out,m.out]at A;go_enter func217,ntmps217;go_wp2_with (first|(refine alR 5 q c ?_)|fail)
 refine AW.begin 10 10 ?_;refine AW.ce 0 uF2 (λW b=>Hk l.1 lf N b) ?_;refine AW.ce 1 uSl (λW b=>Hk l.1 l1 Q b) ?_;refine AW.mv 2 ?_;refine AW.iv 3 (mM (k:=o) (o:=t) (n:=v) (c:=c1) (i:=i) h1) ?_;refine AW.ro 4 (λW b=>row_of l.1 L K b) g rSc nSc ?_;refine AW.ce 5 uSl (λW b=>Hk l.1 l2 M b) ?_;refine AW.mv 6 ?_;refine AW.iv 7 (mM (k:=n) (o:=s) (n:=a) (c:=c2) (i:=i) C) ?_;refine AW.ro 8 (λW b=>row_of l.1 P r2 b) d rSc nSc ?_;refine AW.gi 9 (λ_=>(mk1 A) _) ?_ (hx:=UZ hf Z Z Z Z);intro O T;refine AW.fi (us:=wn z) m (aK (n:=z)) In (λb=>?_);obtain⟨W5,j⟩:=hE (O.setCells k 0 (wn z));have R:=vN q c b j;rw[j.out];refine⟨R.1,?_⟩;go_wp2_with fail
 refine Zx (aG 5 (T:=93) Z R.2.2 Z u40 In) Z ?_;exact⟨_,Z,R.2.1,Z⟩
def Q5{e j k:Zl}{l m:I}{x y z:G Zm}{U V:ZR}(g:E (w.heap.size=l))(h1:E (w.alloc (.cells x.toArray T)=e))(f:E (e.heap.size=n))(o:E (e.alloc (.cells y.toArray U)=j))(i:E (j.heap.size=m))(p:E (j.alloc (.cells z.toArray V)=k)):E (kZ w k/\FJ k l x/\FJ k n y/\FJ k m z):=by
 have a:=(aN g h1).out;have b:=(aN f o).out;have c:=(aN i p).out;have d:=b.1.trans (c.1.mono b.1.size);exact⟨a.1.trans (d.mono a.1.size),a.2.below d,b.2.below c.1,c.2⟩
def RP(f:ph)(hf:∀args W,(callFunc f args).run prog W=.ok (.enter f args) W)(F:I->I->I)(n:I)(hn:n<=64)(a b:I->I)(hF:∀i,i<n->FL f #[nv (a i),nv (b i)] (nv (F (a i) (b i))))(va A:Zm)(w:Zl)(h1:SLq Q w va n a)(P:SLq Q w A n b):
 dZ 180 #[.func (.func f) #[] #[],va,A] w λe w'=>SLq (w.heap.size<=·) w' e n (λi=>F (a i) (b i)):=by
 obtain⟨M,L,c1,rfl,-,-,l1,T⟩:=h1;obtain⟨z,K,c2,rfl,-,-,l2,r2⟩:=P;let⟨vf,c⟩:=hE (Value.func (.func f) #[] #[])
 let⟨r,j⟩:=hE w.heap.size
 let⟨t,o⟩:=hE (w.alloc (.cells [vf].toArray 250))
 let⟨N,d⟩:=hE t.heap.size
 let⟨O,m⟩:=hE (t.alloc (.cells [qZ M L n c1].toArray 109))
 let⟨C,q⟩:=hE O.heap.size
 let⟨V,l⟩:=hE (O.alloc (.cells [qZ z K n c2].toArray 109))
 have B:=Q5 j o d m q l;have x:E ((aj 250 vf).run prog w=.ok (jZ r) t):=o.out▸j.out▸c.out▸Hid.mk' kR;have h0:=B.2.2.1.2.1 0 _ Z;have HL:=mk1 (kN n S 217 (cap:=#[jZ r,jZ N,jZ C]) (λ_ _=>kR) (λi=>F (a i) (b i)) V λi W p k=>by
  have bb:=B.1.trans (k.mono B.1.size);have s:=bb.size;exact T9 f hf (a i) (b i) _ (hF i p) i r N C M L n c1 z K n c2 p p W (B.2.1.below k).1 (B.2.2.1.below k).1 (B.2.2.2.below k).1 S S (by rw[(B.2.1.below k).2.1 0 _ Z,c.out]) ((B.2.2.1.below k).2.1 0 _ Z) ((B.2.2.2.below k).2.1 0 _ Z) (aF (T i p) bb l1) (aF (r2 i p) bb l2))
 rw[c.out];go_enter func180,ntmps180;go_wp2_with (first|(refine aI (u:=vf) (v:=jZ r) (w':=t) Z _ (.tmp 0) Z ?_ ?_ ?_;rfl;exact x)|(refine alR 4 d m ?_)|(refine alR 5 q l ?_)|fail)
 refine HL.mono ?_;rintro e w4 ⟨v,rfl,y,hS⟩;go_wp2;go_ret;exact⟨_,Z,(mk2 (B.1.trans (y.mono B.1.size)) (hS.mono λg X=>Zw B.1.size X)).out⟩
def SLq.set{B o:I}{x:Zm}{a:I->I}(h:SLq (B<=·) W x n a)(b:k<B):SLq (B<=·) (W.setCells k o vs) x n a:=h.keep (Kq.set λg c=>S)
section
variable {Q:Nat->Prop}{w:Zl}{n:Nat}{v u:Zm}{a b c:Nat->Nat}
def IY{x y:Zm}(hx:x.oneCell'=H)(m:y.oneCell'=H)(w:Zl):∃k b i d,E (w.heap.size=k)/\E (w.alloc (.cells [x,y].toArray 175)=b)/\E (b.heap.size=i)/\E (b.alloc (.cells [nZ,nZ].toArray 175)=d)/\E (kZ w d/\FJ d k [x,y]/\FJ d i [nZ,nZ]/\k<i):=by
 let⟨k,l⟩:=hE w.heap.size
 let⟨b,e⟩:=hE (w.alloc (.cells [x,y].toArray 175))
 let⟨i,c⟩:=hE b.heap.size
 let⟨d,j⟩:=hE (b.alloc (.cells [nZ,nZ].toArray 175))
 have f:=(aN l e).out;have g:=(aN c j).out;exact⟨k,b,i,d,l,e,c,j,f.1.trans (g.1.mono f.1.size),f.2.below g.1,g.2,c.out▸f.2.1⟩
def RR(O:Ord N)(hn:n<=64)(ha:∀i,i<n->a i<N)(hc:∀i,i<n->c i<N)(h:Ln Q w v n a b)(hu:SLq Q w u n c):
 dZ 107 #[v,u] w λe w'=>Ln (λg=>Q g\/w.heap.size<=g) w' e n (λi=>sPl N (a i) (c i)) b:=by
 obtain⟨x,y,rfl,hx,T⟩:=h.ex;obtain⟨h1,g1,o1,c1,rfl⟩:=cG hx;obtain⟨h2,f,l,c2,rfl⟩:=cG T;let⟨k,w1,C,w2,M,t,s,q,F⟩:=IY h1 h2 w
 go_enter func107,ntmps107;go_wp2_with (first|(refine alR 2 M t ?_)|(refine alR 4 s q ?_)|fail)
 refine AW.begin 7 7 ?_;refine AW.va 0 (jZ k) ?_;refine AW.ce 1 uSl (λW d=>(F.2.1.below d).2.1 0 _ Z) ?_;refine AW.mv 2 ?_;refine AW.va 4 (oZ k 1) ?_;refine AW.ce 5 uSl (λW d=>(F.2.1.below d).2.1 1 _ Z) ?_;refine AW.ca 3 (λd=>(mk1 (λ(W:Zl) (d:kZ w W)=>RP (Q:=λ_=>True) 114 (λ_ _=>kR) (sPl N) n hn a c (λi V=>oS O _ _ (ha i V) (hc i V)) _ _ W ((hx.keep (Kq.of_below d)).mono λ_ _=>trivial) ((hu.keep (Kq.of_below d)).mono λ_ _=>trivial))) _ (F.1.trans (d.mono F.1.size))) (λe w' h=>h.1) ?_;rintro e P ⟨h0,X⟩;obtain⟨h5,o,j,m,rfl⟩:=cG X;refine AW.va 6 (.agg #[qZ o j n m,qZ f l n c2]) ?_;refine AW.fi (us:=[qZ o j n m,qZ f l n c2]) (Hid.mk' Z) kR iLi (λd=>?_);have L:=F.2.2.1.below d;refine⟨L.2.2,?_⟩;let⟨z,p⟩:=hE (P.setCells C 0 [qZ o j n m,qZ f l n c2])
 have R:E (kZ w z/\FJ z C [qZ o j n m,qZ f l n c2]/\Ln (λg=>Q g\/w.heap.size<=g) z (.agg #[qZ o j n m,qZ f l n c2]) n (λi=>sPl N (a i) (c i)) b):=by
  have r:w.heap.size<=C:=M.out▸qx F.2.2.2;have K:=RG.below_setCells r [qZ o j n m,qZ f l n c2] 0 P (F.1.trans (d.mono F.1.size));rw[<-p.out];exact⟨K,L.put Z,_,_,Z,(X.set F.2.2.1.1).mono λg hg=>ZW (Zw F.1.size hg),(T.keep (Kq.of_below K)).mono λ_ h=>Z5 h⟩
 rw[p.out];go_wp2_with fail
 refine Zx (aG 4 Z R.2.1 Z uLi iLi) Z ?_;exact⟨_,Z,R.1,R.2.2⟩
def Wu(O:Ord N)(hn:n<=64)(P:∀i,i<n->a i<N)(d:∀i,i<n->b i<N)(hc:∀i,i<n->c i<N)(h:Ln Q w v n a b)(hu:SLq Q w u n c):
 dZ 108 #[v,u] w λe w'=>Ln (w.heap.size<=·) w' e n (λi=>sTi N (a i) (c i)) (λi=>sTi N (b i) (c i)):=by
 obtain⟨x,y,rfl,hx,hy⟩:=h.ex;obtain⟨h1,g1,o1,c1,rfl⟩:=cG hx;obtain⟨h2,g2,o2,c2,rfl⟩:=cG hy;let⟨k,w1,V,w2,hk,K,C,z,F⟩:=IY h1 h2 w
 have hP:=mk1 (λ(x:Zm) (a:I->I) (P:∀i,i<n->a i<N) (hx:SLq Q w x n a) (W:Zl) (d:kZ w W)=>RP (Q:=λ_=>True) 113 (λ_ _=>kR) (sTi N) n hn a c (λi hi=>kA O _ _ (P i hi) (hc i hi)) _ _ W ((hx.keep (Kq.of_below d)).mono λ_ _=>trivial) ((hu.keep (Kq.of_below d)).mono λ_ _=>trivial));go_enter func108,ntmps108;go_wp2_with (first|(refine alR 2 hk K ?_)|(refine alR 4 C z ?_)|fail)
 refine AW.begin 9 9 ?_;refine AW.va 0 (jZ k) ?_;refine AW.ce 1 uSl (λW d=>(F.2.1.below d).2.1 0 _ Z) ?_;refine AW.mv 2 ?_;refine AW.va 4 (oZ k 1) ?_;refine AW.ce 5 uSl (λW d=>(F.2.1.below d).2.1 1 _ Z) ?_;refine AW.mv 6 ?_;refine AW.ca 3 (λd=>hP _ a P hx _ (F.1.trans (d.mono F.1.size))) (λe w' h=>h.1) ?_;rintro e W3 ⟨s,hS⟩;obtain⟨h5,q,m,p,rfl⟩:=cG hS;refine AW.ca 7 (λM=>hP _ b d hy _ (F.1.trans (M.mono F.1.size))) (λe w' h=>h.1) ?_;rintro e W4 ⟨T,j⟩;obtain⟨h6,f,l,r,rfl⟩:=cG j;refine AW.va 8 (.agg #[qZ q m n p,qZ f l n r]) ?_;refine AW.fi (us:=[qZ q m n p,qZ f l n r]) (Hid.mk' Z) kR iLi (λd=>?_);have X:=F.2.2.1.below d;refine⟨X.2.2,?_⟩;let⟨L,o⟩:=hE (W4.setCells V 0 [qZ q m n p,qZ f l n r])
 have R:E (kZ w L/\FJ L V [qZ q m n p,qZ f l n r]/\Ln (w.heap.size<=·) L (.agg #[qZ q m n p,qZ f l n r]) n (λi=>sTi N (a i) (c i)) (λi=>sTi N (b i) (c i))):=by
  have A:w.heap.size<=V:=hk.out▸qx F.2.2.2;rw[<-o.out];exact⟨RG.below_setCells A _ _ _ (F.1.trans (d.mono F.1.size)),X.put Z,_,_,Z,((hS.keep (Kq.of_below T)).set F.2.2.1.1).mono λg t=>Zw F.1.size t,(j.set (Zn F.2.2.1.1 s.size)).mono λg t=>Zw F.1.size (Zw s.size t)⟩
 rw[o.out];go_wp2_with fail
 refine Zx (aG 4 Z R.2.1 Z uLi iLi) Z ?_;exact⟨_,Z,R.1,R.2.2⟩
end
def Ur(O:Ord N)(x y z:I)(hx:x<N)(hy:y<N)(X:z<N)(i o M q a A c1 p v C c2:I)(h1:i<A)(P:i<C)(w:Zl)(T:q<w.heap.size)(lh:p<w.heap.size)(L:FJ w o [qZ q a A c1,qZ p v C c2])(V:FJ w M (wn z))(Q:w.rangeAt q (a+4*i) (wn x))(r2:w.rangeAt p (v+4*i) (wn y)):
 eZ 182 #[iZ i,jZ o,jZ M] w (nv (sPl N x (sTi N y z))):=by
 obtain⟨k,u⟩:=hE (w.heap.size);obtain⟨w1,c⟩:=hE (lZ w (RG.z 4) 93);have l:=aN u c;have K:=kA O y z hy X;have t:=oS O x (sTi N y z) hx (gD _ O.pos);generalize sTi N y z=s at K t⊢;generalize sPl N x s=r at t⊢;obtain⟨vx,f⟩:=hE (nv x);obtain⟨vy,d⟩:=hE (nv y);obtain⟨vz,n⟩:=hE (nv z);obtain⟨vs,m⟩:=hE (nv s);obtain⟨vr,j⟩:=hE (nv r);rw[d.out,n.out,m.out]at K;rw[f.out,m.out,j.out]at t;go_enter func182,ntmps182;go_wp2_with (first|(refine alR 4 u c ?_)|fail)
 refine AW.begin 13 13 ?_;refine AW.va 0 (jZ o) ?_;refine AW.ce 1 uSl (λW b=>((L.below l.1).below b).2.1 0 _ Z) ?_;refine AW.mv 2 ?_;refine AW.iv 3 (mM (k:=q) (o:=a) (n:=A) (c:=c1) (i:=i) h1) ?_;refine AW.ro 4 (λW b=>row_of l.1 T Q b) f rSc nSc ?_;refine AW.va 5 (oZ o 1) ?_;refine AW.ce 6 uSl (λW b=>((L.below l.1).below b).2.1 1 _ Z) ?_;refine AW.mv 7 ?_;refine AW.iv 8 (mM (k:=p) (o:=v) (n:=C) (c:=c2) (i:=i) P) ?_;refine AW.ro 9 (λW b=>row_of l.1 lh r2 b) d rSc nSc ?_;refine AW.ro 10 (λW b=>((V.below l.1).below b).2.1) n rSc nSc ?_;refine AW.gi 11 (λ_=>K _) λW3 _=>?_
 refine AW.gi 12 (λ_=>t _) λW4 _=>?_
 refine AW.fi (us:=wn r) j (aK (n:=r)) In (λb=>?_);obtain⟨W5,g⟩:=hE (W4.setCells k 0 (wn r));have R:=vN u c b g;rw[g.out];refine⟨R.1,?_⟩;go_wp2_with fail
 refine Zx (aG 4 (T:=93) Z R.2.2 Z u40 In) Z ?_;exact⟨_,Z,R.2.1,Z⟩
def Wx(O:Ord N)(hn:n<=64){a b:I->I}(ha:∀i,i<n->a i<N)(P:∀i,i<n->b i<N)(V:z<N)(h:Ln Q w v n a b):
 dZ 111 #[v,nv z] w λe w'=>SLq (w.heap.size<=·) w' e n (λi=>sPl N (a i) (sTi N (b i) z)):=by
 obtain⟨x,y,rfl,hx,X⟩:=h.ex;obtain⟨K,C,c1,rfl,-,-,l1,M⟩:=hx;obtain⟨q,u,c2,rfl,-,-,l2,r2⟩:=X;let⟨k,r⟩:=hE w.heap.size
 let⟨p,j⟩:=hE (w.alloc (.cells [qZ K C n c1,qZ q u n c2].toArray 175))
 let⟨t,l⟩:=hE p.heap.size
 let⟨w2,d⟩:=hE (lZ p (wn z) 93)
 have f:=aN r j;have g:=aN l d;have F:=mk3 (f.1.trans (g.1.mono f.1.size)) (f.2.below g.1) g.2;have HL:=mk1 (kN n S 182 (cap:=#[jZ k,jZ t]) (λ_ _=>kR) (λi=>sPl N (a i) (sTi N (b i) z)) w2 λi W c o=>by
  have bb:=F.1.trans (o.mono F.1.size);have s:=bb.size;exact Ur O (a i) (b i) z (ha i c) (P i c) V i k t K C n c1 q u n c2 c c W S S (F.2.1.below o) (F.2.2.below o) (aF (M i c) bb l1) (aF (r2 i c) bb l2))
 have L:=F.2.1.2.1 0 _ Z;go_enter func111,ntmps111;go_wp2_with (first|(refine alR 2 r j ?_)|(refine alR 3 l d ?_)|fail)
 refine HL.mono ?_;rintro e w4 ⟨v,rfl,m,hS⟩;go_wp2;go_ret;exact⟨_,Z,(mk2 (F.1.trans (m.mono F.1.size)) (hS.mono λg T=>Zw F.1.size T)).out⟩
def Wv(O:Ord N)(hn:n<=64){a b c d:I->I}(A:∀i,i<n->a i<N/\b i<N/\c i<N/\d i<N)(h:Ln Q w v n a b)(h':Ln Q w u n c d):
 eZ 110 #[v,u] w (.tuple #[nv (sPl N (prS N a d n) (prS N b c n)),nv (prS N b d n)]):=by
 obtain⟨x,y,rfl,hx,hy⟩:=h.ex;obtain⟨-,g1,o1,c1,rfl⟩:=cG hx;obtain⟨-,g2,o2,c2,rfl⟩:=cG hy;obtain⟨x',y',rfl,V,z⟩:=h'.ex;obtain⟨-,g3,o3,c3,rfl⟩:=cG V;obtain⟨-,g4,o4,c4,rfl⟩:=cG z;obtain⟨k,hk⟩:=hE (w.heap.size);obtain⟨w1,o⟩:=hE (w.alloc (.cells [qZ g1 o1 n c1,qZ g2 o2 n c2].toArray 175));obtain⟨k3,s⟩:=hE (w1.heap.size);obtain⟨w2,m⟩:=hE (w1.alloc (.cells [qZ g3 o3 n c3,qZ g4 o4 n c4].toArray 175));obtain⟨C,t⟩:=hE (w2.heap.size);obtain⟨w3,X⟩:=hE (lZ w2 (RG.z 4) 93);obtain⟨k5,r⟩:=hE (w3.heap.size);obtain⟨w4,L⟩:=hE (lZ w3 (RG.z 4) 93);have f:=Q5 hk o s m t X;have g:=aN r L;have F:=mk5 (f.1.trans (g.1.mono f.1.size)) (f.2.1.below g.1) (f.2.2.1.below g.1) (f.2.2.2.below g.1) g.2;have h5:w.heap.size<=C/\C<k5:=⟨t.out▸Zw (aN hk o).1.size (aN s m).1.size,r.out▸f.2.2.2.1⟩
 have HC:E (∀ {p q:I->I}{x y:Zm},(∀i,i<n->p i<N/\q i<N)->SLq Q w x n p->SLq Q w y n q->∀W,kZ w4 W->eZ 112 #[x,y] W (nv (prS N p q n))):=λ{p q x y} hp h1 h2 W j=>by
  have b:=F.1.trans (j.mono F.1.size);exact De O (Q:=Q) n S p q (λi l=>(hp i l).1) (λi l=>(hp i l).2) x y W (h1.keep (Kq.of_below b)) (h2.keep (Kq.of_below b))
 have C1:=HC (λi l=>⟨(A i l).1,(A i l).2.2.2⟩) hx z;have C2:=HC (λi l=>⟨(A i l).2.1,(A i l).2.2.1⟩) hy V;have C3:=HC (λi l=>⟨(A i l).2.1,(A i l).2.2.2⟩) hy z;have HP:=oS O _ _ (CN O.pos (a:=a) (b:=d) n) (CN O.pos (a:=b) (b:=c) n);generalize prS N a d n=p1 at C1 HP⊢;generalize prS N b c n=p2 at C2 HP⊢;generalize prS N b d n=p3 at C3⊢;generalize sPl N p1 p2=M at HP⊢;obtain⟨v1,P⟩:=hE (nv p1);obtain⟨v2,h0⟩:=hE (nv p2);obtain⟨v3,h4⟩:=hE (nv p3);obtain⟨v4,T⟩:=hE (nv M);rw[P.out]at C1;rw[h0.out]at C2;rw[h4.out]at C3;rw[P.out,h0.out,T.out]at HP;go_enter func110,ntmps110;go_wp2_with (first|(refine alR 2 hk o ?_)|(refine alR 3 s m ?_)|(refine alR 4 t X ?_)|(refine alR 5 r L ?_)|fail)
 refine AW.begin 16 15 ?_;refine AW.va 0 (jZ k) ?_;refine AW.ce 1 uSl (λW j=>(F.2.1.below j).2.1 0 _ Z) ?_;refine AW.va 2 (oZ k3 1) ?_;refine AW.ce 3 uSl (λW j=>(F.2.2.1.below j).2.1 1 _ Z) ?_;refine AW.va 5 (oZ k 1) ?_;refine AW.ce 6 uSl (λW j=>(F.2.1.below j).2.1 1 _ Z) ?_;refine AW.va 7 (jZ k3) ?_;refine AW.ce 8 uSl (λW j=>(F.2.2.1.below j).2.1 0 _ Z) ?_;refine AW.va 11 (oZ k 1) ?_;refine AW.ce 12 uSl (λW j=>(F.2.1.below j).2.1 1 _ Z) ?_;refine AW.va 13 (oZ k3 1) ?_;refine AW.ce 14 uSl (λW j=>(F.2.2.1.below j).2.1 1 _ Z) ?_;refine AW.gi 4 (λj=>C1 _ j) λW1 _=>?_
 refine AW.gi 9 (λj=>C2 _ j) λW2 _=>?_
 refine AW.gi 10 (λ_=>HP _) λW3 _=>?_
 refine AW.gi 15 (λj=>C3 _ j) λW4 _=>?_
 refine AW.f2 (us:=wn M) (us':=wn p3) T h4 aK In aK In (λj=>?_);obtain⟨W5,h3⟩:=hE (W4.setCells C 0 (wn M));obtain⟨W6,K⟩:=hE (W5.setCells k5 0 (wn p3));have R:E (W4.there C 0 4/\W5.there k5 0 4/\FJ W6 C (wn M)/\FJ W6 k5 (wn p3)/\kZ w W6):=by
  have r4:=F.2.2.2.1.below j;have r5:FJ (W4.setCells C 0 (wn M)) k5 _:=bE (F.2.2.2.2.below j) S;rw[<-K.out,<-h3.out];exact⟨r4.2.2,r5.2.2,bE (r4.put Z) S,r5.put Z,RG.below_setCells S _ _ _ (RG.below_setCells S _ _ _ (F.1.trans (j.mono F.1.size)))⟩
 rw[h3.out,K.out];refine⟨R.1,R.2.1,?_⟩;go_wp2_with fail
 refine Zx (rV 4 5 (T:=93) (e:=93) Z R.2.2.1 R.2.2.2.1 Z Z u40 In u40 In) Z ?_;exact⟨_,Z,R.2.2.2.2,Z⟩
def TW(O:Ord N)(p x:I)(hp:p<N)(hx:x<N)(i:Y)(b n:I)(Q:n≠b)(w:Zl)(L:FJ w b (wn p))(R2:FJ w n (wn x)):
 cZ 181 #[iZ i,jZ b,jZ n] w (Ret λe w'=>Kz (·≠b) w w'/\(FJ w' b (wn (sTi N p x))/\FJ w' n (wn x))/\e=nv p):=by
 have V:=kA O p x hp hx;generalize sTi N p x=q at V⊢;obtain⟨vp,k⟩:=hE (nv p);obtain⟨vx,t⟩:=hE (nv x);obtain⟨vq,u⟩:=hE (nv q);rw[k.out,t.out,u.out]at V;obtain⟨a,j⟩:=hE (w.heap.size);obtain⟨W,y⟩:=hE (lZ w (RG.z 4) 93);obtain⟨K,f⟩:=hE (W.heap.size);obtain⟨w2,s⟩:=hE (lZ W (RG.z 4) 93);obtain⟨l,r⟩:=hE (w2.setCells K 0 (wn p));have v:=aN j y;have C:=aN f s;have M:=v.1.trans (C.1.mono v.1.size);have l1:=L.1;have l2:=R2.1;have l4:=v.2.1;have e4:=j.out;have e5:=f.out;have d:E (kZ w l/\FJ l b (wn p)/\FJ l n (wn x)/\FJ l a (RG.z 4)/\FJ l K (wn p)/\w2.there K 0 4):=by
  rw[<-r.out];exact⟨RG.below_setCells S _ _ _ M,bE (L.below M) S,bE (R2.below M) S,bE (v.2.below C.1) S,C.2.put Z,C.2.2.2⟩
 have h0:=mk1 (L.below M);go_enter func181,ntmps181;go_wp2_with (first|(refine alR 4 j y ?_)|(refine ldR 1 (L.below v.1).2.1 k u40 In ?_)|(refine alR 5 f s ?_)|(refine stR 5 r k d.2.2.2.2.2 In (aK (n:=p)) ?_)|(refine ldR 1 d.2.1.2.1 k u40 In ?_)|(refine ldR 2 d.2.2.1.2.1 t u40 In ?_)|fail)
 refine(V l).mono ?_;rintro e P ⟨uu,rfl,c,rfl⟩;obtain⟨T,z⟩:=hE (P.setCells b 0 (wn q));obtain⟨A,o⟩:=hE (T.setCells a 0 (wn p));have m:=mk5 (d.1.trans (c.mono d.1.size)) (d.2.1.below c) (d.2.2.1.below c) (d.2.2.2.1.below c) (d.2.2.2.2.1.below c);have g:E (P.there b 0 4/\FJ T K (wn p)/\T.there a 0 4/\Kz (·≠b) w A/\FJ A b (wn q)/\FJ A n (wn x)/\FJ A a (wn p)):=by
  have X:FJ (P.setCells b 0 (wn q)) a _:=bE m.2.2.2.1 S;rw[<-o.out,<-z.out];exact⟨m.2.1.2.2,bE m.2.2.2.2 S,X.2.2,((Kz.of m.1).set (ZW (by simp))).set (Z5 S),bE (m.2.1.put Z) S,bE (bE m.2.2.1 Q) S,X.put Z⟩
 go_wp2_with (first|(refine stR 1 z u g.1 In (aK (n:=q)) ?_)|(refine ldR 5 g.2.1.2.1 k u40 In ?_)|(refine stR 4 o k g.2.2.1 In (aK (n:=p)) ?_)|fail)
 refine Zx (aG 4 (T:=93) Z g.2.2.2.2.2.2 Z u40 In) Z ?_;exact⟨_,Z,g.2.2.2.1,⟨g.2.2.2.2.1,g.2.2.2.2.2.1⟩,Z⟩
def pwN(N x:I):I->I
 | 0=>1
 | i+1=>sTi N (pwN N x i) x
def zN{x:I}(O:Ord N):∀i,pwN N x i<N
 | 0=>by show 1<N;have:=O.n2;omega
 | _+1=>gD _ O.pos
def IB[NeZero N](h1:1<N)(x:B N):∀i,(pwF x i).val=pwN N x.val i
 | 0=>ZC h1
 | i+1=>by
  show(pwF x i*x).val=_;rw[fQ,IB h1 x i];rfl
def Kz.bw{Z:I->Prop}{c d:Zl}(h:kZ w c)(k:Kz Z c d)(e:∀g,g<w.heap.size->Z g):kZ w d:=⟨k.os.trans h.os,k.tape.trans h.tape,k.output.trans h.output,Zw h.size k.size,λg b=>(k.block g (Zn b h.size) (e g b)).trans (h.block g b)⟩
def IG(O:Ord N)(x:I)(hx:x<N)(n:I)(hn:n<=512)(w:Zl):
 dZ 109 #[nv x,iZ n] w λe w'=>SLq (w.heap.size<=·) w' e n (pwN N x)/\∃g c,e=sZ g n c:=by
 obtain⟨M,p⟩:=hE (nv x);obtain⟨v1,j⟩:=hE (nv 1);have HO:E (FL 105 #[U 1] v1):=by rw[<-j.out];exact Na
 obtain⟨t,k⟩:=hE (w.heap.size);obtain⟨z,r⟩:=hE (lZ w (wn x) 93);have a:E ((aj 93 M).run prog w=.ok (jZ t) z):=by rw[<-p.out,<-r.out,<-k.out];exact boxS x (w:=w)
 have C:=aN k r;rw[p.out];go_enter func109,ntmps109;go_wp2_with (first|(refine aI (u:=M) (v:=jZ t) (w':=z) Z _ (.tmp 0) Z ?_ ?_ ?_;rfl;exact a.out)|fail)
 refine(HO z).mono ?_;rintro e Q ⟨uu,rfl,s,rfl⟩;obtain⟨q,b⟩:=hE (Q.heap.size);obtain⟨V,m⟩:=hE (lZ Q (RG.z 4) 93);obtain⟨T,l⟩:=hE (V.setCells q 0 (wn 1));have y:=IU b m l Z;have r2:=C.2.below s;have f:=r2.1;rw[b.out]at f;have P:=C.1.trans (s.mono C.1.size);have d:=mk4 (P.trans (y.2.1.mono P.size)) (r2.below y.2.1) y.2.2 f;have s4:=d.2.2.1.1;go_wp2_with (first|(refine alR 5 b m ?_)|(refine stR 5 l j y.1 In (aK (n:=1)) ?_)|fail)
 refine(mk1 (BV n hn 181 #[jZ q,jZ t] (λ_ _=>kR) (pwN N x) (·≠q) (λi W=>FJ W q (wn (pwN N x i))/\FJ W t (wn x)) T (λg A=>S) (λW L=>⟨d.2.2.1.below L,d.2.1.below L⟩) (λi W K o vs hK h=>⟨bE h.1 S,bE h.2 S⟩) λi W hi _ h=>TW O _ x (zN O (x:=x) i) hx _ q t S W h.1 h.2)).mono ?_;rintro e w5 ⟨v,rfl,hz,-,hS,hO⟩;have e2:=k.out;have X:=mk3 (Kz.bw d.1 hz λg A=>oN d.2.2.2) (hS.mono λg A=>Zw d.1.size A) hO;go_wp2;go_ret;exact⟨_,Z,X.out⟩
def RL{x:I}(O:Ord N)(hx:x<N)(b:n<=512):
 dZ 109 #[nv x,iZ n] w λe w'=>SLq (w.heap.size<=·) w' e n (pwN N x):=
 (IG O x hx n b w).mono λ_ _ ⟨v,h,h1,k,_⟩=>⟨v,h,h1,k⟩
def uLs:wZ 122:=wQ
def uSm:wZ 124:=wQ
def Tb(O:Ord N)(l:LB)(hl:TOk N l)(b:l.length<=512)(z:I)(K:z<N)(i n s d m q c1 j o r c2:I)(v0 v2 x:Zm)(h1:i<q)(v:i<r)(w:Zl)(a:d<w.heap.size)(P:j<w.heap.size)(M:FJ w n [v0,qZ d m q c1,v2])(A:FJ w s [qZ j o r c2])(y:w.cell? ⟨d,m+1*i,F⟩=J x)(hx:Sm 0 w x l)(r2:w.rangeAt j (o+4*i) (wn z)):
 dZ 127 #[iZ i,jZ n,jZ s] w λe w'=>Sm w.heap.size w' e (l.map (tmT N z)):=by
 obtain⟨V,f⟩:=hE (nv z);have t:=mk1 (λ(W:Zl) (k:kZ w W)=>eO O K 0 x l b hl.szm hl.lt W (hx.grow k));rw[f.out]at t;obtain⟨C,u⟩:x.oneCell'=H/\∃g c,x=sZ g l.length c:=by
  obtain⟨g,c,rfl,-⟩:=hx;exact⟨Z,_,_,Z⟩
 go_enter func127,ntmps127;go_wp2_with fail
 refine AW.begin 10 10 ?_;refine AW.va 0 (oZ n 1) ?_;refine AW.ce 1 uLs (λW k=>(M.below k).2.1 1 _ Z) ?_;refine AW.mv 2 ?_;refine AW.iv 3 (atS d m (n:=q) c1 (i:=i) h1) ?_;refine AW.ce 4 uSm (λW k=>by rw[k.cell (p:=⟨d,m+1*i,F⟩) a];exact y) ?_;refine AW.ce 5 uSl (λW k=>(A.below k).2.1 0 _ Z) ?_;refine AW.mv 6 ?_;refine AW.iv 7 (mM (k:=j) (o:=o) (n:=r) (c:=c2) (i:=i) v) ?_;refine AW.ro 8 (λW k=>aF r2 k P) f rSc nSc ?_;refine AW.ca 9 (λk=>t _ k) (λe w' h=>h.1) ?_;rintro e L ⟨T,Q⟩;refine AW.nx 10 e ?_;refine AW.dn λk=>?_
 go_wp2;go_ret;exact⟨_,Z,(mk2 k (show Sm w.heap.size L e _ from Q)).out⟩
def Tq(O:Ord N)(z q y t:I)(hz:z<N)(hq:q<N)(hy:y<N)(ht:t<N)(i T X V k4 v L M c1 u K C c2:I)(h1:i<M)(h2:i<C)(w:Zl)(lg:v<w.heap.size)(lh:u<w.heap.size)(R1:FJ w T (wn z))(R2:FJ w X [qZ v L M c1])(R3:FJ w V (wn q))(R4:FJ w k4 [qZ u K C c2])(r1:w.rangeAt v (L+4*i) (wn y))(r2:w.rangeAt u (K+4*i) (wn t)):
 eZ 179 #[iZ i,jZ T,jZ X,jZ V,jZ k4] w (nv (sPl N (sTi N z y) (sTi N q t))):=by
 obtain⟨k,A⟩:=hE (w.heap.size);obtain⟨w1,d⟩:=hE (lZ w (RG.z 4) 93);have f:=aN A d;have x:=kA O z y hz hy;have Q:=kA O q t hq ht;have l1:sTi N z y<N:=gD _ O.pos;have l2:sTi N q t<N:=gD _ O.pos;generalize sTi N z y=a at x l1⊢;generalize sTi N q t=b at Q l2⊢;have P:=oS O a b l1 l2;generalize sPl N a b=r at P⊢;obtain⟨vz,s⟩:=hE (nv z);obtain⟨vq,p⟩:=hE (nv q);obtain⟨vy,l⟩:=hE (nv y);obtain⟨vt,g⟩:=hE (nv t);obtain⟨va,o⟩:=hE (nv a);obtain⟨vb,j⟩:=hE (nv b);obtain⟨vr,n⟩:=hE (nv r);rw[s.out,l.out,o.out]at x;rw[p.out,g.out,j.out]at Q;rw[o.out,j.out,n.out]at P;go_enter func179,ntmps179;go_wp2_with (first|(refine alR 6 A d ?_)|fail)
 refine AW.begin 13 13 ?_;refine AW.ro 0 (λW c=>((R1.below f.1).below c).2.1) s rSc nSc ?_;refine AW.ce 1 uSl (λW c=>((R2.below f.1).below c).2.1 0 _ Z) ?_;refine AW.mv 2 ?_;refine AW.iv 3 (mM (k:=v) (o:=L) (n:=M) (c:=c1) (i:=i) h1) ?_;refine AW.ro 4 (λW c=>row_of f.1 lg r1 c) l rSc nSc ?_;refine AW.ro 6 (λW c=>((R3.below f.1).below c).2.1) p rSc nSc ?_;refine AW.ce 7 uSl (λW c=>((R4.below f.1).below c).2.1 0 _ Z) ?_;refine AW.mv 8 ?_;refine AW.iv 9 (mM (k:=u) (o:=K) (n:=C) (c:=c2) (i:=i) h2) ?_;refine AW.ro 10 (λW c=>row_of f.1 lh r2 c) g rSc nSc ?_;refine AW.gi 5 (λ_=>x _) λW2 _=>?_
 refine AW.gi 11 (λ_=>Q _) λW3 _=>?_
 refine AW.gi 12 (λ_=>P _) λW4 _=>?_
 refine AW.fi (us:=wn r) n (aK (n:=r)) In (λc=>?_);obtain⟨W5,m⟩:=hE (W4.setCells k 0 (wn r));have R:=vN A d c m;rw[m.out];refine⟨R.1,?_⟩;go_wp2_with fail
 refine Zx (aG 6 (T:=93) Z R.2.2 Z u40 In) Z ?_;exact⟨_,Z,R.2.1,Z⟩
namespace RG
variable {P:ai}{ops:Array Z4}{Q:fI->Act->Zl->Prop}{w:Zl}{a0:Act}{L:Array Bool}{F:Flow}{m:Nat}
def Fr(a k:Act)(d:GJ Tmp):Prop:=∃v,k.tmps=(a.put d v).tmps
def Pb{a:Act}:∀ {r:Result Next},o.upon P a K Q r->o.upon P a (λk w'=>K k w'/\Fr a k o.dst) Q r
 | .ok (.value v) _,h=>⟨h,v,Z⟩
 | .ok .skip _,h=>⟨h,undef,Z⟩
 | .ok (.defer d) _,h=>⟨h,undef,by cases o.dst<;>rfl⟩
 | .ok (.enter f args) _,h=>Calls.mono h λe w' h1=>by
  cases e with
  | returned v=>exact⟨h1,v,Z⟩
  | panicked c=>exact h1
  | outgrown=>exact h1
 | .ok (.row row args) _,h=>Rows.mono h λv w' h1=>⟨h1,v,Z⟩
 | .halt (.panic v) _,h=>h
 | .halt (.exit _) _,h=>h.elim
def O6{i:I}{a:Act}(ho:ops[i]? = J o)(h:wpOp P ops Q i K a w):wpOp P ops Q i (λk w'=>K k w'/\Fr a k o.dst) a w:=by
 unfold wpOp at *;rw[ho]at h⊢;dsimp only at h⊢;split
 .rename_i hw
  rw[GD hw]at h;rcases h with h|h
  .exact Z5 (Pb h)
  exact ZW h
 rename_i hw
 rw[Id hw]at h;exact⟨h,undef,Z⟩
def Lt{i:I}{a:Act}{c:Zl}(ho:ops[i]? = J o)(e:o.guard=none)(d:(Z0 a.eval o).run P w=.ok (.value v) c)(h:wpOp P ops Q i K a w):wpOp P ops Q i (λk w'=>K k w'/\k=a.put o.dst v) a w:=by
 unfold wpOp at *;rw[ho]at h⊢;dsimp only at h⊢;have b:rl o (yielded ops a.tmps)=H:=by
  rw[rl,e]
 rw[GD b]at h⊢;rcases h with h|h
 .unfold ao at h⊢;rw[d]at h⊢;exact Z5 ⟨h,Z⟩
 exact ZW h
def rH(k:R Z4)(i:I):Hc:=match k[i]? with
 | some o=>match o.op with | .alloc _=>H|_=>D
 | none=>D
def Sep(k:R Z4)(L:R Hc)(a:Act):Prop:=∀i j di dj,on L i=H->on L j=H->i≠j->rH k i=H->rH k j=H->aP k i=J di->aP k j=J dj->a.tmps[di]?≠a.tmps[dj]?
def Als(P:ai)(F:Flow)(b:R Z4)(n:I):Prop:=∀i o,i<n->b[i]? = J o->rH b i=H->o.guard=none/\F.kill i=[]/\(∀(a:Act) w,∃c,(Z0 a.eval o).run P w=.ok (.value (jZ w.heap.size)) c)/\∀v w,F.R i v w->∃k,v=jZ k/\k<w.heap.size
def lO{a:Act}{d e:Tmp}(h:d≠e):(a.put (J d) v).tmps[e]? = a.tmps[e]?:=by
 unfold ah;dsimp only;rw[zk,Id h]
def stepS{a:Act}(R:RegF P Q F ops a0 m)(hA:Als P F ops m)(M:k<m)(K:∀i,on L i=H->i<m)(ho:ops[k]? = J o)(h3:on L k=D)(T:∀e∈o.after,ml .any e=H->on L e.on=H)(h:InvF F ops a0 L a w)(hS:Sep ops L a):
 wpOp P ops Q k (λW w'=>InvF F ops a0 (L.setIfInBounds k H) W w'/\Sep ops (L.setIfInBounds k H) W) a w:=by
 have h1:=LQ R M K ho h3 T h;have h2:k<L.size:=by rw[h.size];exact(ZO.1 ho).1
 have N:=fW ho;have d:∀i,on (L.setIfInBounds k H) i=H->i≠k->on L i=H:=λi g z=>by
  rw[fV h2]at g;rcases xj _ _ ▸ g with g|g
  .exact g
  exact absurd (by simpa using g:k=i).symm z
 have c:∀i di s,i≠k->aP ops i=J di->o.dst=J s->s≠di:=λi di s z g hk e=>by
  subst e;exact z ((R.of ho).2 s hk |>.2 i g)
 cases C:rH ops k with
 | false =>
  refine wpOp_mono (λW w' hh=>⟨hh.1,λi j di dj g X f n u b p=>?_⟩) (O6 ho h1);have r:i≠k:=by rintro rfl;rw[C]at n;cases n
  have t:j≠k:=by rintro rfl;rw[C]at u;cases u
  have l:=hS i j di dj (d i g r) (d j X t) f n u b p;let⟨v,hv⟩:=hh.2
  rw[hv];cases hd:o.dst with
  | none=>exact l
  | some s=>rw[lO (c i di s r b hd),lO (c j dj s t p hd)];exact l
 | true =>
  obtain⟨hg,-,O,-⟩:=hA k o M ho C;let⟨w1,hr⟩:=O a w
  let⟨V,h0,h4⟩:=h.all
  have y:∀i di,i≠k->on L i=H->rH ops i=H->aP ops i=J di->a.tmps[di]?≠J (jZ w.heap.size):=λi di r g n b e=>by
   have h5:i<ops.size:=by rw[<-h.size];exact IL g
   obtain⟨-,A,-,hb⟩:=hA i _ (K i g) (Array.getElem?_eq_getElem h5) n;let⟨q,hq,h6⟩:=hb (V i) w (h4 i g λx hx=>by rw[A]at hx;cases hx)
   rw[h0 i di g b,hq]at e;injection e with e
   injection e with e
   injection e with e
   injection e with e
   omega
  refine wpOp_mono (λW w' hh=>⟨hh.1,λi j di dj g X f n u b p=>?_⟩) (Lt ho hg hr h1);rw[hh.2];have A:∀s,o.dst=J s->(a.put o.dst (jZ w.heap.size)).tmps[s]? = J (jZ w.heap.size):=λs hd=>by
   rw[hd];unfold ah;dsimp only;rw[zk,GD Z,GD (by rw[h.sz];exact((R.of ho).2 s hd).1)]
  by_cases r:i=k
  .subst r;have hd:o.dst=J di:=by rw[<-N];exact b
   rw[A di hd,hd,lO (c j dj di (xg f) p hd)];exact(y j dj (xg f) (d j X (xg f)) u p).symm
  by_cases t:j=k
  .subst t;have hd:o.dst=J dj:=by rw[<-N];exact p
   rw[A dj hd,hd,lO (c i di dj f b hd)];exact y i di f (d i g f) n b
  have l:=hS i j di dj (d i g r) (d j X t) f n u b p;cases hd:o.dst with
  | none=>exact l
  | some s=>rw[lO (c i di s r b hd),lO (c j dj s t p hd)];exact l
structure Al1(P:ai)(G:Gw)(ops:R Z4)(i:I):Prop where
 o:∃o,ops[i]? = J o/\o.guard=none/\(∀(a:Act) w,∃w1,(Z0 a.eval o).run P w=.ok (.value (jZ w.heap.size)) w1)
 r:∀v w,G.R i v w->∃k,v=jZ k/\k<w.heap.size
def AlL(P:ai)(G:Gw)(k:R Z4):List I->Prop
 | []=>True
 | i :: r=>Al1 P G k i/\AlL P G k r
def AlL.of{G:Gw}{i:I}:∀ {l:List I},AlL P G ops l->l.contains i=H->Al1 P G ops i
 | [],_,h=>by cases h
 | x :: r,hl,h=>by
  rw[List.contains_cons,xj]at h;rcases h with h|h
  .rw[show i=x by simpa using h];exact hl.1
  exact hl.2.of h
def OJ{l:List I}{G:Gw}(h:AlL P G ops l)(hl:(fo n).all (λi=>!rH ops i || l.contains i)=H:=by kernel_rfl):Als P G.flow ops n:=λi o g ho k=>by
 have h1:=List.all_eq_true.1 hl i (List.mem_range.2 g);rw[k,yEP,yE8]at h1;let⟨⟨d,b,f,c⟩,e⟩:=h.of h1
 obtain rfl:o=d:=ZV.inj (ho.symm.trans b);exact⟨f,Z,c,e⟩
def al1{G:Gw}{i:I}(cs:List Zm)(T:ZR)(b:∀v w,G.R i v w->∃k,v=jZ k/\k<w.heap.size)(ho:(ops[i]?.map (·.guard))=J none:=by kernel_rfl)(hs:∀o,ops[i]? = J o->∀W,(bZ [] o,(Z0 (evo (evl [])) o).run P W)=(H,.ok (.value (jZ W.heap.size)) (W.alloc (.cells cs.toArray T))):=by(intro _ h _;cases h;kernel_rfl)):Al1 P G ops i:=by
 refine⟨?_,b⟩;cases h:ops[i]? with
 | none=>rw[h]at ho;cases ho
 | some o =>
  rw[h]at ho;refine⟨o,Z,ZV.inj ho,λa w=>?_⟩;have h1:=hs o h w;simp only[an.injEq]at h1;exact⟨_,by rw[nM (a:=a) (evl []) [] h1.1 (λt c=>by cases c)];exact h1.2⟩
def Gw.lateC{id:I}(G:Gw)(n:I)(l:List I)(p:∀j∈l,(LateP P G.flow ops n l j/\rH ops j=false)/\(∀c (a:Act) t v w,Q (.panic c) (a.put (J t) v) w->Q (.panic c) a w)/\zh ops=H)(hA:Als P G.flow ops n)(hn:n<ops.size)(h0:qE ops n l=H)(hm:P.follows .mixedOrders=H)(hc:Df ops a0.tmps.size=H)(h:kC P Q G.flow ops a0 0 (ops.toList.take n))(hB:G.B w.drew)
 (hp:∀(V:I->Zm) (w':Zl),(∀i,i<n->G.R i (V i) w')->G.B w'->(∀i j,i<n->j<n->i≠j->rH ops i=H->rH ops j=H->(aP ops i).isSome=H->(aP ops j).isSome=H->V i≠V j)->wpList P ops Q (ops.toList.drop n) (cD V (ops.toList.take n) 0 a0) w'):(gH id ops H).wp P Q a0 w:=by
 have R:RegF P Q G.flow ops a0 n:=Gw.reg hc h;refine AC G.flow l (Sep ops) (λj C=>⟨(p j C).1.1,(p j C).2.1,(p j C).2.2,λo L a w u ho hI hS=>?_⟩) hn h0 hm R (λ_=>hB) (λL h i j di dj b=>by rw[h]at b;cases b) (λk o L a w h1 T h3 h4 h5 h6 h7=>stepS R hA h1 T h3 h4 h5 h6 h7) λV w' h1 T h3=>hp V w' (λi b=>h1 i b Z) (T 0 Z) λi j b C z g f d m e=>?_
 .have N:=(p j C).1.2;have W:=(ZO.1 ho).1;have s:∀i,on (L.setIfInBounds j H) i=H->i≠j->on L i=H:=λi b y=>by
   rw[fV (by rw[hI.size];exact W)]at b;rcases xj _ _ ▸ b with b|b
   .exact b
   exact absurd (by simpa using b:j=i).symm y
  exact λi O di dj b X z g f d x=>by
   have M:i≠j:=by rintro rfl;rw[N]at g;cases g
   have K:O≠j:=by rintro rfl;rw[N]at f;cases f
   have r:=hS i O di dj (s i b M) (s O X K) z g f d x;have q:∀i di A,i≠j->aP ops i=J di->o.dst=J A->A≠di:=λi di A y b hk e=>by
    subst e;exact y ((R.of ho).2 A hk |>.2 i b)
   cases hd:o.dst with
   | none=>exact r
   | some A=>rw[lO (q i di A M d hd),lO (q O dj A K x hd)];exact r
 let⟨L,a,hS,q⟩:=h3
 let⟨di,d⟩:=Z8.1 d
 let⟨dj,m⟩:=Z8.1 m
 refine hS i j di dj (q i b).1 (q j C).1 z g f d m ?_;rw[(q i b).2 di d,(q j C).2 dj m,e]
def Gw.tail3{id:I}(G:Gw)(n:I)(f:Als P G.flow ops n)(k:(decide (n<ops.size) && mB ops n)=H)(c:P.follows .mixedOrders=H)(e:Df ops a0.tmps.size=H)(h:kC P Q G.flow ops a0 0 (ops.toList.take n))(d:G.B w.drew)
 (b:∀(V:I->Zm) (w':Zl),(∀i,i<n->G.R i (V i) w')->G.B w'->(∀i j,i<n->j<n->i≠j->rH ops i=H->rH ops j=H->(aP ops i).isSome=H->(aP ops j).isSome=H->V i≠V j)->wpList P ops Q (ops.toList.drop n) (cD V (ops.toList.take n) 0 a0) w'):(gH id ops H).wp P Q a0 w:=by
 rw[ZD,decide_eq_true_eq]at k;exact Gw.lateC G n [] (λ_ h=>by cases h) f k.1 (by simpa[mB,qE]using k.2) c e h d b
end RG
def SLq.from{B:I}{x:Zm}{a:I->I}(h:B<=W.heap.size)(k:SLq (W.heap.size<=·) W' x n a):SLq (B<=·) W' x n a:=k.mono λg b=>Zw h b
def pZ(B n:I)(a:I->I):S1:=⟨λv w=>SLq (B<=·) w v n a/\∃g c,v=sZ g n c,λ_ _ _ k h=>⟨h.1.keep (Kq.of_below k),h.2⟩⟩
def zE{a:I->I}{r:G Zm}(h:SLq Q W (sZ g n c) n a)(i:0<n)(R:FJ W k (u :: r))(f:u≠U ((a 0%18446744073709551616:I):Y)):g≠k:=by
 rintro rfl;obtain⟨j,l,c',e,-,-,-,d⟩:=h;injection e with e
 injection e with e
 injection e with e1 e2
 subst e1 e2;have b:=d 0 i 0 _ Z;rw[R.2.1 0 u Z]at b;exact f (ZV.inj b)
def rT{B:I}{a:I->I}(h:SLq (B<=·) W (sZ g n c) n a)(b:g≠k):SLq (B<=·) (W.setCells k 0 vs) (sZ g n c) n a:=by
 let⟨o,l,c',e,h1,d,i,f⟩:=h
 have e':=e;injection e with e
 injection e with e
 injection e with e1 e2
 subst e1;exact⟨g,l,c',e',h1,d,by rw[setCells_size];exact i,λj m=>su (f j m) k 0 vs (Z5 b)⟩
section
variable {P:ai}{ops:Array Z4}{rest:List Z4}{op:Z4}{a:Act}{w w':Zl}{Q:fI->Act->Zl->Prop}{T:ZR}{y:oF}{g o:Nat}{u:Zm}
def Tg(t:Tmp)(c:E (w.setCells g o [u]=w'))(th:w.there g o 1)(i:(P.info? T).map (·.size)=J 1)(hv:u.cells=#[u])(h1:u.oneCell'=H)(h:wpList P ops Q rest (a.put op.dst undef) w')(k:op.guard=F:=by rfl)(ho:op.op=.store T (.tmp t) y:=by rfl)(hx:a.eval (.tmp t)=oZ g o:=by rfl)(d:a.eval y=u:=by rfl):wpList P ops Q (op :: rest) a w:=
 sj k λK f=>by
  have b:=run_storeVar_mid (P:=P) w g o T #[u] th i (by simp[h1]);have e:storeVar T ⟨g,o,F⟩ u=storeVar T ⟨g,o,F⟩ (.agg #[u]):=by
   rw[storeVar,hv];rfl
  rw[show(#[u]:R Zm).toList=[u] from Z,c.out]at b;unfold ao Z0;simp only[ho,hx,d,Instr.storeAt,Instr.sureAddr,ZK,Sem.run_pure,Result.andThen_ok,e,b];exact f _ _ h
def inR{I:Sem Zm}(t:Tmp)(c:I.run P w=.ok v w')(h:wpList P ops Q rest (a.put op.dst v) w')(hd:op.dst=J t:=by rfl)(k:op.guard=F:=by rfl)(b:Z0 a.eval op=I >>= λv=>pure (pi v):=by kernel_rfl):wpList P ops Q (op :: rest) a w:=
 sj k λK d=>by
  rw[ao,b,ZK,c];exact d _ _ h
end
def Xu:(pg 109 1 #[(0,nv n)]).run prog w=.ok (sZ w.heap.size 1 1) (w.alloc (.cells (wn n).toArray 93)):=kR
def iSl:gZ 109 1:=gQ
def BR{B:I}{cs:G Zm}(v:Zm)(W:Zl)(h:(RG.pN B cs).p v W):∃k,v=jZ k/\k<W.heap.size:=by
 obtain⟨k,h1,-,b⟩:=h;exact⟨k,h1,b.1⟩
def VR(O:Ord N)(h2:2<N)(y z:Nat)(hy:y<N)(hz:z<N)(n:Nat)(hn:n<=512)(w:Zl)(hg:∀x g W,FJ W g (wn x)->dZ 131 #[sZ g 1 1,iZ n] W λe W'=>SLq (W.heap.size<=·) W' e n (λ_=>x)):
 dZ 106 #[nv y,nv z,iZ n] w λe w'=>∃l r,e=.tuple #[l,r]/\SLq (w.heap.size<=·) w' l n (λ_=>sMi N 0 z)/\SLq (w.heap.size<=·) w' r n (λi=>sPl N (sTi N z (pwN N y i)) (sTi N (sTi N z z) (pwN N 2 i))):=by
 obtain⟨vy,hw⟩:=hE (nv y);obtain⟨vz,M⟩:=hE (nv z);obtain⟨k3,hp⟩:=hE (w.heap.size);obtain⟨w1,he⟩:=hE (lZ w (wn y) 93);obtain⟨k4,ht⟩:=hE (w1.heap.size);obtain⟨p,ha⟩:=hE (lZ w1 (wn z) 93);have k0:E ((aj 93 vy).run prog w=.ok (jZ k3) w1):=by rw[<-hw.out,<-he.out,<-hp.out];exact boxS y (w:=w)
 have k7:E ((aj 93 vz).run prog w1=.ok (jZ k4) p):=by rw[<-M.out,<-ha.out,<-ht.out];exact boxS z (w:=w1)
 have F1:=aN hp he;have F2:=aN ht ha;rw[hw.out,M.out];have Q:=mk3 (F1.1.trans (F2.1.mono F1.1.size)) (F1.2.below F2.1) F2.2;go_enter func106,ntmps106;go_wp2_with (first|(refine aI (u:=vy) (v:=jZ k3) (w':=w1) Z _ (.tmp 0) Z ?_ ?_ ?_;rfl;exact k0.out)|(refine aI (u:=vz) (v:=jZ k4) (w':=p) Z _ (.tmp 1) Z ?_ ?_ ?_;rfl;exact k7.out)|fail)
 obtain⟨b,hb⟩:=hE (p.heap.size);have s:∀ {W},kZ p W->b<=W.heap.size:=λh=>hb.out ▸ h.size
 refine(gwL [pE (nv y),pE (iZ n),pZ b n (pwN N y),pE (nv 2),pE (iZ n),pZ b n (pwN N 2),pE (nv z),pE (nv z),pE (nv (sTi N z z)),RG.pN b [nZ],RG.pN b [nZ],RG.pN b (RG.z 4)] (λW=>kZ p W) (λW W' hb h=>h.trans (hb.mono h.size))).tail3 12 (OJ (l:=[9,10,11]) ⟨al1 [nZ] 109 BR,al1 [nZ] 109 BR,al1 (RG.z 4) 93 BR,Fs⟩) kR kR kR ⟨
  gLo 3 (λW c=>(Q.2.1.below c).2.1) u40 In,
  RG.gO 2 (iZ n),
  eT 0 11 1 12 109 (λx y=>#[x,y]) (λx u W X T c=>by
   obtain rfl:x=nv y:=X;obtain rfl:u=iZ n:=T;exact(IG O y hy n hn W).mono λe W' ⟨v,h1,h2,k,d⟩=>⟨v,h1,h2,k.from (s c),d⟩),
  Sg 105 #[U 2] (λW _=>BU 2 S W),
  RG.gO 2 (iZ n),
  eT 3 14 4 15 109 (λx y=>#[x,y]) (λx u W X T c=>by
   obtain rfl:x=nv 2:=X;obtain rfl:u=iZ n:=T;exact(IG O 2 h2 n hn W).mono λe W' ⟨v,h1,h2,k,d⟩=>⟨v,h1,h2,k.from (s c),d⟩),
  gLo 4 (λW c=>(Q.2.2.below c).2.1) u40 In,
  gLo 4 (λW c=>(Q.2.2.below c).2.1) u40 In,
  gC2 6 17 7 18 (λW=>kA O z z hz hz W),
  Au [nZ] 109 (λW W' h c=>⟨_,Z,s c,h⟩),
  Au [nZ] 109 (λW W' h c=>⟨_,Z,s c,h⟩),
  Au (RG.z 4) 93 (λW W' h c=>⟨_,Z,s c,h⟩),Fs⟩ ⟨Z,Z,Z,Zo _,λ_ _=>rfl⟩ ?_
 intro V w3 hR c hD;obtain⟨S1,g1,c1,T⟩:=hR 2 dC;obtain⟨S2,g2,c2,e5⟩:=hR 5 dC;rw[T]at S1;rw[e5]at S2;obtain⟨K,e9,l8,R8⟩:=hR 9 dC;obtain⟨L,h6,l9,R9⟩:=hR 10 dC;obtain⟨k,h7,kg,h8⟩:=hR 11 dC;have d1:=hD 9 10 dC dC dC kR kR kR kR;have d2:=hD 9 11 dC dC dC kR kR kR kR;have d3:=hD 10 11 dC dC dC kR kR kR kR;dsimp only[cD,mi,r9,tr];simp only[ah,Zr,Zt,Zu];rw[T,e5,hR 8 dC,e9,h6,h7];rw[e9,h6]at d1;rw[e9,h7]at d2;rw[h6,h7]at d3;have n1:K≠L:=λe=>d1 (by rw[e])
 have n2:K≠k:=λe=>d2 (by rw[e])
 have n3:L≠k:=λe=>d3 (by rw[e])
 obtain⟨q,hq⟩:=hE (sTi N z z);obtain⟨ki,P⟩:=hE (nv q);rw[hq.out,P.out];obtain⟨l1,t⟩:=hE (sZ g1 n c1);obtain⟨l2,a⟩:=hE (sZ g2 n c2);have x1:0<n->(g1≠K/\g1≠L/\g1≠k)/\g2≠K/\g2≠L/\g2≠k:=λA=>⟨⟨zE S1 A R8 (by simp),zE S1 A R9 (by simp),zE S1 A h8 (by simp[pwN])⟩,zE S2 A R8 (by simp),zE S2 A R9 (by simp),zE S2 A h8 (by simp[pwN])⟩
 obtain⟨w4,f⟩:=hE (w3.setCells K 0 [l1]);obtain⟨w5,j⟩:=hE (w4.setCells L 0 [l2]);obtain⟨w6,h9⟩:=hE (w5.setCells k 0 (wn q));have kh:=hb.out;have q8:FJ w4 K [l1]:=by rw[<-f.out];exact R8.put Z
 have q9:FJ w4 L [nZ]:=by rw[<-f.out];exact R9.other (xg n1)
 have kf:FJ w4 k (RG.z 4):=by rw[<-f.out];exact h8.other (xg n2)
 have u8:FJ w5 K [l1]:=by rw[<-j.out];exact q8.other n1
 have u9:FJ w5 L [l2]:=by rw[<-j.out];exact q9.put Z
 have u10:FJ w5 k (RG.z 4):=by rw[<-j.out];exact kf.other (xg n3)
 have HT:=mk3 R8.2.2 q9.2.2 u10.2.2;have HV:E ((l1.cells=#[l1]/\l1.oneCell'=H)/\l2.cells=#[l2]/\l2.oneCell'=H):=by rw[<-t.out,<-a.out];exact⟨⟨Z,Z⟩,Z,Z⟩
 have C:E (kZ p w6/\FJ w6 K [l1]/\FJ w6 L [l2]/\FJ w6 k (wn q)/\(0<n->SLq (b<=·) w6 l1 n (pwN N y)/\SLq (b<=·) w6 l2 n (pwN N 2))):=by
  have o:kZ p w4:=by rw[<-f.out];exact RG.below_setCells S _ _ _ c
  have B5:kZ p w5:=by rw[<-j.out];exact RG.below_setCells S _ _ _ o
  rw[<-h9.out];refine⟨RG.below_setCells S _ _ _ B5,u8.other n2,u9.other n3,u10.put Z,λA=>?_⟩;rw[<-j.out,<-f.out];obtain⟨⟨d,a2,a3⟩,a4,a5,a6⟩:=x1 A;rw[<-t.out,<-a.out];exact⟨rT (rT (rT S1 d) a2) a3,rT (rT (rT S2 a4) a5) a6⟩
 rw[t.out,a.out];refine Tg (w:=w3) 8 f HT.1 iSl HV.1.1 HV.1.2 ?_;refine Tg (w:=w4) 9 j HT.2.1 iSl HV.2.1 HV.2.2 ?_;refine stR (w:=w5) 10 h9 P HT.2.2 In (aK (n:=q)) ?_;go_wp2_with (first|(refine ldR 4 (Q.2.2.below C.1).2.1 M u40 In ?_)|fail)
 have HO:=mk1 (MY O hz w6);rw[M.out]at HO;refine HO.mono ?_;rintro e w7 ⟨uu,rfl,hu,rfl⟩;obtain⟨m,hm⟩:=hE (sMi N 0 z);rw[hm.out];obtain⟨vo,hk⟩:=hE (nv m);obtain⟨hc,h5⟩:=hE (w7.heap.size);obtain⟨w8,hj⟩:=hE (lZ w7 (wn m) 93);have ka:E ((pg 109 1 #[(0,vo)]).run prog w7=.ok (sZ hc 1 1) w8):=by rw[<-hk.out,<-hj.out,<-h5.out];exact Xu (n:=m) (w:=w7)
 have F8:=aN h5 hj;have b68:=mk1 (hu.trans (F8.1.mono hu.size));rw[hk.out];go_wp2_with (first|(refine inR 22 (I:=(pg 109 1 #[(0,vo)])) ka.out ?_)|fail)
 refine(mk1 (hg m hc w8 F8.2)).mono ?_;rintro e w9 ⟨lv,rfl,k2,k1⟩;have d:=b68.trans (k2.mono b68.size);have b9:=mk1 (Q.1.trans ((C.1.trans (d.mono C.1.size)).mono Q.1.size));have KZ:=mk6 ((Q.2.2.below C.1).below d) (C.2.1.below d) (C.2.2.2.1.below d) (C.2.2.1.below d) (λ(A:0<n)=>gF ((C.2.2.2.2 A).1.keep (Kq.of_below d)) ((C.2.2.2.2 A).2.keep (Kq.of_below d))) b9;have lq:q<N:=by rw[<-hq.out];exact gD _ O.pos
 have HL:=mk1 (kN n hn 179 (cap:=#[jZ k4,jZ K,jZ k,jZ L]) (λ_ _=>kR) (λi=>sPl N (sTi N z (pwN N y i)) (sTi N q (pwN N 2 i))) w9 λi W hi o=>by
  obtain⟨T1,T2⟩:=KZ.2.2.2.2.1 S;rw[<-t.out]at T1;rw[<-a.out]at T2;have Rb:=(KZ.2.1.below o)
  have Rd:=(KZ.2.2.2.1.below o)
  rw[<-t.out]at Rb;rw[<-a.out]at Rd;obtain⟨kd,ke,kc,X,-,-,t1,f1⟩:=T1.keep (Kq.of_below o);obtain⟨k6,kb,k5,T,-,-,t2,f2⟩:=T2.keep (Kq.of_below o);rw[X]at Rb;rw[T]at Rd;exact Tq O z q (pwN N y i) (pwN N 2 i) hz lq (zN O (x:=y) i) (zN O (x:=2) i) i k4 K k L kd ke n kc k6 kb n k5 hi hi W t1 t2 (KZ.1.below o) Rb (KZ.2.2.1.below o) Rd (f1 i hi) (f2 i hi))
 go_wp2_with fail
 refine HL.mono ?_;rintro e kj ⟨rv,rfl,X,hr⟩;have KE:=mk3 (b9.trans (X.mono b9.size)) ((mk1 (SLq.from (Zw Q.1.size (Zw C.1.size b68.size)) k1)).keep (Kq.of_below X)) (SLq.from b9.size hr);go_wp2
 go_ret2
 rw[<-hm.out,<-hq.out]at KE;exact⟨_,Z,KE.1,_,_,Z,KE.2.1,KE.2.2⟩
def FU{t sT x k:ZR}{b o e d f:I}{a:Addr}{cs:G Zm}{P:ai}(u:P.underlying t=J (.slice k))(hs:(P.info? k).map (·.size)=J s)(z:n=xb d c)(hl:cs.length=n*s)(g:∀j v,cs[j]? = J v->w.cell? (a.add j)=J v)(r:w.there b o cs.length)(h1:∀v∈cs,v.oneCell'=H):
 (zn #[t,sT] x #[qZ b o c e,.slice (J a) d f]).run P w=.ok (goInt n) (w.setCells b o cs):=by
 have l:=run_loadCells_list (P:=P) w a cs g;have m:=run_storeCells_cells (P:=P) b o cs 0 w (λj q=>by rw[qg];exact(r j q).1) (λj q=>by rw[qg];exact(r j q).2) h1;rw[hl]at l;cases p:P.info? k with
 | none=>simp[p]at hs
 | some i =>
  have y:i.size=s:=by simpa[p]using hs
  simp[zn,run_underlying u,Builtin.lenOf,Builtin.firstCells,sizeOf,typeInfo,p,y,<-z,l,m]
def cw(x i:I):Zm:=(wn x).getD (i%4) undef
def UQ{x i:I}:(cw x i).oneCell'=H:=by
 unfold cw;have:i%4=0\/i%4=1\/i%4=2\/i%4=3:=S;rcases this with h|h|h|h<;>rw[h]<;>rfl
structure Rs(g m n x:I)(w:Zl):Prop where
 lt:g<w.heap.size
 th:w.there g 0 (4*m)
 c:∀i,i<4*n->w.cell? ⟨g,i,F⟩=J (cw x i)
def Rs.copy{m sl sc dc x:I}(h:Rs g m n x w)(t:k=xb sl (m-n))(z:n<=m)(f:∀i,i<4*k->w.cell? ⟨r,i,F⟩=J (cw x i)):
 ∃w',(∀l,(zn #[109,109] l #[qZ g (n*4) (m-n) dc,sZ r sl sc]).run prog w=.ok (goInt k) w')/\Rs g m (n+k) x w'/\(∀B,B<=g->Below B w w'):=by
 have s:n+k<=m:=by have:xb sl (m-n)<=m-n:=yEA _ _;omega
 let⟨cs,d⟩:∃cs,cs=(fo (4*k)).map (cw x):=⟨_,Z⟩
 have p:cs.length=4*k:=by rw[d,ZI,G.length_range]
 have c:∀j,j<4*k->cs[j]? = J (cw x j):=λj b=>by rw[d,rm,yD0 b];rfl
 have o:w.there g (n*4) cs.length:=λj b=>by
  have:=h.th (n*4+j) S;rwa[Zs]at this
 refine⟨w.setCells g (n*4) cs,λl=>FU uS4 In t S (λj v b=>?_) o (λv hv=>?_),⟨by rw[setCells_size];exact h.lt,ym h.th _ _ _,λi y=>?_⟩,λB u=>RG.below_setCells u _ _ _ (ZF _ _)⟩
 .have e:j<4*k:=oN ((Zz.1 b).1);rw[c j e]at b;rw[Addr.add_mid,Zs,f j e];exact b
 .rw[d]at hv;obtain⟨i,-,rfl⟩:=Z1.1 hv;exact UQ
 by_cases e:i<4*n
 .rw[World.cell?_setCells_out g cs (n*4) w ⟨g,i,F⟩ (λ_ _=>Z5 (by show i<n*4;omega))];exact h.c i e
 have b:i-n*4<cs.length:=S;have q:=World.cell?_setCells_in g cs (n*4) w (λj b=>(o j b).1) (i-n*4) b;rw[show n*4+(i-n*4)=i by omega]at q;rw[q,<-ZH b,c _ S];unfold cw;rw[show(i-n*4)%4=i%4 by omega]
def Ul(m:I)(k:m<=1000)(w:Zl):cZ 144 #[U 1,U m] w λe w'=>e=.returned (.tuple #[U 0,U m])/\w'=w:=by
 have c:bits .and .u64 1 4294967295=1:=rfl;have a2:bits .and .u64 (m:Y) 4294967295=(m:Y):=by
  have h:=bits_and_u64_nat m 4294967295 S S;rw[show(4294967295:I)=2^32-1 from Z,I.and_two_pow_sub_one_eq_mod,ZC S]at h;exact h
 have a0:bits .and .u64 0 4294967295=0:=rfl;have d:(m:Y)/4294967296=0:=S;have b:cW.wrap (m:Y)=(m:Y):=by rw[yx];omega
 go_enter func144,ntmps144;go_wp2
 go_ret2
 exact⟨Z,Z⟩
def Uk{m:I}(k:m<=1000):cZ 194 #[U 1,U m] w λe w'=>e=.returned (.tuple #[U 0,U m])/\w'=w:=by
 go_enter func194,ntmps194;go_wp2_with fail
 apply(Ul m k w).mono;rintro e w' ⟨rfl,rfl⟩;go_wp2
 go_ret2
 exact⟨Z,Z⟩
def DU{t k:ZR}{c:Zm}{P:ai}{b:R Z4}{a:Act}{w':Zl}{Q:fI->Act->Zl->Prop}{E:Prop}(e:o.guard=F)(d s:oF)(ho:o.op=.call { callee:=.builtin .copy,args:=#[d,s],argTypes:=#[t,k] })(hd:a.eval d=v)(hs:a.eval s=u)(f:(zn #[t,k] o.type #[v,u]).run P w=.ok c w')(h:K (a.put o.dst c) w'):if rl o (yielded b a.tmps)=H then ao P o a w K Q else E:=by
 rw[GD (by simp[rl,e])];exact Lib.wp_copy_run w d s t k ho v u hd hs f h
theorem My(x r m:I)(hm:m<=512)(w:Zl)(hR:FJ w r (wn x)):
 ae prog 131 #[.slice (J ⟨r,0,none⟩) 1 1,.int .i64 m] w (Ret λe w'=>Below w.heap.size w w'/\SLq (w.heap.size<=·) w' e m (λ_=>x)):=by
 have w1:cW.wrap (m:Y)=(m:Y):=by rw[yx];omega
 obtain⟨C0,y,A⟩:=Ex uS4 iS4 m hm;obtain⟨g,s⟩:=hE (w.heap.size);obtain⟨W,q⟩:=hE (w.alloc (.cells C0.toArray 93));have F:=aN s q;have a:Rs g m 0 x W:=⟨F.2.1,by have:=F.2.2.2;rwa[y]at this,λi N=>absurd N (I.not_lt_zero _)⟩
 have l:=hR.below F.1;have C:∀i,i<4->W.cell? ⟨r,i,none⟩=J (cw x i):=λi N=>by
  have V:i=0\/i=1\/i=2\/i=3:=S;rcases V with rfl|rfl|rfl|rfl
  .exact l.2.1 0 _ Z
  .exact l.2.1 1 _ Z
  .exact l.2.1 2 _ Z
  .exact l.2.1 3 _ Z
 obtain⟨L,c,d,f⟩:=a.copy (k:=xb 1 m) (r:=r) (sl:=1) (sc:=1) (dc:=m) (by rw[wt]) (pj _) (λi N=>C i (by have:xb 1 m<=1:=yEL _ _;omega));rw[wt,DB]at c;rw[Zs]at d;have KI:E (Below w.heap.size w L/\Rs g m (xb 1 m) x L):=⟨F.1.trans (f _ (CK s)),d⟩
 have Q:xb 1 m<=m:=yEA _ _;have T:0<m->0<xb 1 m:=λh=>by show 0<min 1 m;omega
 have b:=c 3;have z:=A w;rw[q.out,s.out]at z;generalize xb 1 m=n1 at *;unfold goInt at b;clear a l hR C f d c F A y q;go_enter func131,ntmps131;go_wp2_with fail
 apply(Uk (m:=m) S (w:=w)).mono;rintro e w' ⟨rfl,rfl⟩;go_wp2_with (at_builtin;refine Lib.wpList_copy_run _ Z _ _ 109 109 Z _ _ Z Z b ?_)
 go_loopg [8] m (λgk s8 wr=>∃n:I,n<=m/\(0<m->0<n)/\m<=n+gk/\s8=.int .i64 n/\E (Below w'.heap.size w' wr/\Rs g m n x wr))
 case atStart=>exact⟨n1,Q,T,S,Z,KI⟩
 case round =>
  obtain⟨n,K,h6,h3,rfl,o⟩:=hrel;by_cases O:n<m
  .have u:=S;have h2:0<xb n (m-n):=by show 0<min n (m-n);omega
   have P:n+xb n (m-n)<=m:=by show n+min n (m-n)<=m;omega
   have h0:xb n (m-n)<=n:=yEL _ _;have p:Rs g m n x wr.drew:=⟨o.2.lt,o.2.th,o.2.c⟩
   obtain⟨L,c,d,f⟩:=p.copy (k:=xb n (m-n)) (r:=g) (sl:=n) (sc:=m) (dc:=m-n) Z K (λi N=>p.c i S);have b:=c 3;have h5:=FO g 0 m m n K;have M:=FN g 0 (n:=m) (c:=m) n O (Zo _);rw[Zs]at M;have X:E (Below w'.heap.size w' L/\Rs g m (n+xb n (m-n)) x L):=⟨o.1.drew.trans (f _ (CK s)),d⟩
   generalize xb n (m-n)=k at *;unfold goInt at b;clear c d f p o;go_wp2_with fail
   go_region_law (refine DU Z (.tmp 41) (.tmp 44) (t:=109) (k:=109) Z (v:=(.slice (J ⟨g,n*4,none⟩) (m-n) (m-n))) (u:=(.slice (J ⟨g,0,none⟩) n m)) (by simp[Act.eval,ah]) (by simp[Act.eval,ah]) b ?_)
   go_wp2;go_roundg (gk-1)
   case measure=>omega
   case rel=>exact⟨n+k,P,λ_=>S,S,congrArg (Value.int ZN) (show ZN.wrap ((n:Y)+(k:Y))=((n+k:I):Y) by rw[IntKind.wrap_i64];omega),X⟩
  .have u:=S;obtain rfl:n=m:=S;have M:E (Below w'.heap.size w' wr/\SLq (w'.heap.size<=·) wr (.slice (J ⟨g,0,none⟩) n n) n (λ_=>x)):=⟨o.1,g,0,n,Z,Zo _,CK s,o.2.lt,λj P t v p=>by
    have V:t<4:=(Zz.1 p).1;rw[Zs,o.2.c (4*j+t) S];rw[cw,show(4*j+t)%4=t by omega,G.getD_eq_getElem?_getD,p];rfl⟩
   go_wp2;go_ret;exact⟨_,Z,M⟩
def Il{y:I}(O:Ord N)(b:2<N)(d:y<N)(c:z<N)(n:I)(k:n<=512)(w:Zl):
 dZ 106 #[nv y,nv z,iZ n] w λe w'=>∃l r,e=.tuple #[l,r]/\SLq (w.heap.size<=·) w' l n (λ_=>sMi N 0 z)/\SLq (w.heap.size<=·) w' r n (λi=>sPl N (sTi N z (pwN N y i)) (sTi N (sTi N z z) (pwN N 2 i))):=
 VR O b y z d c n k w λx g W hR=>My x g n k W hR
def rQ(N y:I)(H:I->LB)(i:I):LB:=(H i).map (tmT N (pwN N (sIn N y) i))
def LH(O:Ord N)(n:I)(ka:0<n)(hn:n<=64)(G H:I->LB)(U:LB)(hH:∀i,i<n->TOk N (H i)/\(H i).length<=512)(hU:TOk N U)(kc:U.length<=512)(y z:I)(hy:y<N)(hz:z<N)(v:Zm)(w:Zl)(hQ:∀g,w.heap.size<=g->Q g)(h0:GRq Q w v n G H U):
 dZ 58 #[v,nv y,nv z] w λe w'=>GRq Q w' e n G (rQ N y H) (U.map (tmT N z)):=by
 obtain⟨vg,vh,vu,rfl,h3,h4,h5⟩:=h0.ex;obtain⟨T,K,X,eg⟩:∃g o c,vg=qZ g o n c:=by obtain⟨g,o,c,h,-⟩:=h3;exact⟨g,o,c,h⟩
 subst eg;obtain⟨gh,oh,ch,rfl,kk,kj,kg,kb⟩:=h4;obtain⟨M,t⟩:=hE (sIn N y);have k9:M<N:=t.out▸gD _ O.pos;have HI:=mk1 (λW=>xZ O y hy W);rw[t.out]at HI;obtain⟨vy,k3⟩:=hE (nv y);obtain⟨vz,A⟩:=hE (nv z);obtain⟨k,hk⟩:=hE (w.heap.size);obtain⟨w1,hq⟩:=hE (w.alloc (.cells [qZ T K n X,qZ gh oh n ch,vu].toArray 126));obtain⟨k4,k1⟩:=hE (w1.heap.size);obtain⟨w2,hp⟩:=hE (lZ w1 (wn y) 93);obtain⟨k5,hw⟩:=hE (w2.heap.size);obtain⟨w3,ht⟩:=hE (lZ w2 (wn z) 93);obtain⟨k6,h9⟩:=hE (w3.heap.size);obtain⟨s,hm⟩:=hE (w3.alloc (.cells [nZ,nZ,nZ].toArray 126));have f:=Q5 hk hq k1 hp hw ht;have g6:=aN h9 hm;have F:=mk5 (f.1.trans (g6.1.mono f.1.size)) (f.2.1.below g6.1) (f.2.2.1.below g6.1) (f.2.2.2.below g6.1) g6.2;have h8:w.heap.size<=k6:=h9.out▸f.1.size;obtain⟨v0,k0⟩:=hE (ZM #[qZ T K n X,qZ gh oh n ch,vu]);have B0:E ((aj 126 v0).run prog w=.ok (jZ k) w1):=k0.out▸hq.out▸hk.out▸Ow;have B1:E ((aj 93 vy).run prog w1=.ok (jZ k4) w2):=k3.out▸hp.out▸k1.out▸boxS y;have B2:E ((aj 93 vz).run prog w2=.ok (jZ k5) w3):=A.out▸ht.out▸hw.out▸boxS z;rw[k3.out,A.out,k0.out];have HT:=mk2 hH (λ(W:Zl) (d:kZ w W)=>eO O hz 0 vu U kc hU.szm hU.lt W (h5.sm.grow d));rw[A.out]at HT;have ha:=mk2 kb kg;have HK:=mk3 h3 hQ t;go_enter func58,ntmps58;go_wp2_with (first|(refine aI (u:=v0) (v:=jZ k) (w':=w1) Z _ (.tmp 0) Z ?_ ?_ ?_;rfl;exact B0)|(refine aI (u:=vy) (v:=jZ k4) (w':=w2) Z _ (.tmp 1) Z ?_ ?_ ?_;rfl;exact B1)|(refine aI (u:=vz) (v:=jZ k5) (w':=w3) Z _ (.tmp 2) Z ?_ ?_ ?_;rfl;exact B2)|(refine alR 6 h9 hm ?_)|fail)
 obtain⟨b,d⟩:=hE (s.heap.size);have he:∀ {W},kZ s W->b<=W.heap.size:=λh=>d.out ▸ h.size
 refine(gwL [pE (nv y),pE (nv M),pE (oZ k 1),pE (qZ gh oh n ch),pE (iZ n),pZ b n (pwN N M),RG.pN b [nZ]] (λW=>kZ s W) (λW W' d h=>h.trans (d.mono h.size))).tail2 7 kR kR kR ⟨
  gLo 4 (λW r=>(F.2.2.1.below r).2.1) u40 In,
  xH 0 9 125 (λx=>#[x]) (λx W j r=>by
   obtain rfl:x=nv y:=j;exact HI W),
  gP 3 (jZ k) (oZ k 1),
  uI 2 11 k 1 (qZ gh oh n ch) uGL (λx W h=>h) (λW r=>(F.2.1.below r).2.1 1 _ Z) (λ_=>rfl),
  NG 3 12 (qZ gh oh n ch) (iZ n) (λx W h=>h) (λ_=>rfl),
  eT 1 10 4 13 109 (λx y=>#[x,y]) (λx u W j C r=>by
   obtain rfl:x=nv M:=j;obtain rfl:u=iZ n:=C;exact(IG O M k9 n S W).mono λe W' ⟨v,h1,l,h3,h4⟩=>⟨v,h1,l,h3.from (he r),h4⟩),
  Au [nZ] 109 (λW W' h r=>⟨_,Z,he r,h⟩),Fs⟩ ⟨Z,Z,Z,Zo _,λ_ _=>rfl⟩ ?_
 intro V w5 hR r;obtain⟨S1,g1,c1,e5⟩:=hR 5 dC;rw[e5]at S1;obtain⟨k7,e6,l7,R7⟩:=hR 6 dC;dsimp only[cD,mi,r9,tr];simp only[ah,Zr,Zt,Zu];rw[e5,e6];obtain⟨l1,h7⟩:=hE (sZ g1 n c1);obtain⟨w6,hj⟩:=hE (w5.setCells k7 0 [l1]);have P:E (kZ s w6/\FJ w6 k7 [l1]/\SLq (b<=·) w6 l1 n (pwN N M)):=by
  rw[<-hj.out,<-h7.out];exact⟨RG.below_setCells (d.out▸l7) _ _ _ r,R7.put Z,rT S1 (zE S1 ka R7 (by simp))⟩
 have h6:=mk2 R7.2.2 (show l1.cells=#[l1]/\l1.oneCell'=true by rw[<-h7.out];exact⟨Z,Z⟩);rw[h7.out];refine Tg (w:=w5) 7 hj h6.1 iSl h6.2.1 h6.2.2 ?_;have kl:=(F.2.1.below P.1).2.1 1 _ Z;have k2:=F.1.trans (P.1.mono F.1.size);have HL:=mk1 (BW n S 127 #[jZ k,jZ k7] (λ_ _=>kR) (rQ N y H) w6 λi W hi C=>by
  have bb:=k2.trans (C.mono k2.size);obtain⟨x,ke,l⟩:=ha.1 i hi;have Rb:=P.2.1.below C;obtain⟨kd,kh,L,j,-,-,t1,f1⟩:=P.2.2.keep (Kq.of_below C);rw[j]at Rb;have hT:=Tb O (H i) (HT.1 i hi).1 (HT.1 i hi).2 (pwN N M i) (zN O i) i k k7 gh oh n ch kd kh n L _ vu x hi hi W (Zn ha.2 bb.size) t1 ((F.2.1.below P.1).below C) Rb (by rw[tF,bb.cell (p:=⟨gh,oh+i,none⟩) ha.2];exact ke) (l.sm.grow bb) (f1 i hi);rw[<-t.out]at hT;exact hT)
 go_wp2_with fail
 refine HL.mono ?_;rintro e w7 ⟨vn,rfl,kf,hr⟩;obtain⟨gn,on,cn,en⟩:∃g o c,vn=qZ g o n c:=by obtain⟨g,o,c,h,-⟩:=hr;exact⟨g,o,c,h⟩
 subst en;have L:=mk3 (P.1.trans (kf.mono P.1.size)) (hr.mono (Q':=(s.heap.size<=·)) λg hg=>Zw P.1.size hg) h8;go_wp2_with fail
 refine AW.begin 8 8 ?_;refine AW.va 0 (jZ k) ?_;refine AW.ce 1 uGL (λW d=>((F.2.1.below L.1).below d).2.1 0 _ Z) ?_;refine AW.mv 2 ?_;refine AW.va 3 (oZ k 2) ?_;refine AW.ce 4 DL (λW d=>((F.2.1.below L.1).below d).2.1 2 _ Z) ?_;refine AW.ro 5 (λW d=>((F.2.2.2.1.below L.1).below d).2.1) A u40 In ?_;have j:=mk1 (F.1.trans (L.1.mono F.1.size));refine AW.ca 6 (λd=>HT.2 _ (j.trans (d.mono j.size))) (λe w' h=>h.1) ?_;rintro e w8 ⟨ki,hc⟩;obtain⟨ge,me,ce,ee⟩:∃g m c,e=sZ g m c:=by obtain⟨g,c,h,-⟩:=hc;exact⟨g,_,c,h⟩
 subst ee;refine AW.nx 7 (.agg #[qZ T K n X,qZ gn on n cn,sZ ge me ce]) ?_;refine AW.fi (us:=[qZ T K n X,qZ gn on n cn,sZ ge me ce]) (Hid.mk' Z) kR iGr (λd=>?_);obtain⟨w9,l⟩:=hE (w8.setCells k6 0 [qZ T K n X,qZ gn on n cn,sZ ge me ce]);have KE:E (w8.there k6 0 3/\FJ w9 k6 [qZ T K n X,qZ gn on n cn,sZ ge me ce]/\kZ w w9/\GRq Q w9 (.agg #[qZ T K n X,qZ gn on n cn,sZ ge me ce]) n G (rQ N y H) (U.map (tmT N z))):=by
  have r6:=F.2.2.2.2.below (L.1.trans (d.mono L.1.size));have l6:=F.2.2.2.2.1;have kq:Kq (s.heap.size<=·) w8 w9:=by rw[<-l.out];exact Kq.set λg hg=>S
  have k8:Kq Q w w9:=by
   have hu:kZ w (w8.setCells k6 0 [qZ T K n X,qZ gn on n cn,sZ ge me ce]):=RG.below_setCells h8 _ _ _ (j.trans (d.mono j.size));rw[l.out]at hu;exact Kq.of_below hu
  rw[<-l.out];refine⟨r6.2.2,r6.put Z,RG.below_setCells h8 _ _ _ (j.trans (d.mono j.size)),?_⟩;rw[l.out];have q:∀g,s.heap.size<=g->Q g:=λg hg=>HK.2.1 g (Zw F.1.size hg)
  exact⟨_,_,_,Z,HK.1.keep k8,((L.2.1.keep (Kq.of_below d)).keep kq).mono q,((hc.q.mono λg hg=>Zw L.1.size hg).keep kq).mono q⟩
 rw[l.out];refine⟨KE.1,?_⟩;go_wp2_with fail
 refine Zx (aG 6 Z KE.2.1 Z uGr iGr) Z ?_;exact⟨_,Z,KE.2.2.1,KE.2.2.2⟩
section
variable {P:ai}{ops:Array Z4}{Q:fI->Act->Zl->Prop}{p r:Nat}{I:Iv}{fuel:Nat}{o:Z4}{listed:Array Bool}{a:Act}{w:Zl}{d:Option Tmp}
def AW.fc{args:Array Zm}{R:Zm->Zl->Prop}(g:I.p w->ae P f args w (Ret R))(h:∀e w',I.p w->R e w'->Q .normal (a.put d e) w')(ho:ops[p]? = J o:=by(simp only[ZU,ZQ,ZT])<;>rfl)(hd:o.dst=d:=by rfl)(c:o.guard=F:=by rfl)(hx:(Z0 a.eval o).run P w=.ok (.enter f args) w:=by kernel_rfl)(k:(ZX .any ops listed,ZX .any ops (listed.setIfInBounds p H),I.b,(listed.setIfInBounds p H).getD p false,(listed.setIfInBounds p H).getD r false)=([p],[],H,H,H):=by kernel_rfl):AW P ops Q p r I (fuel+1) listed a w:=λb=>by
 simp only[an.injEq]at k;exact anyS.cal ho (g b) (λe w' hR=>⟨Z5 k.2.2,anyS.done k.2.1 (h e w' b hR) _⟩) k.1 c hx hd
end
def rnF{o:I}(h:W.rangeAt k o (xs++ys)):W.rangeAt k o xs:=λj v b=>h j v (by rw[uo (Zz.1 b).1];exact b)
def rnB{o m:I}(h:W.rangeAt k o (xs++ys))(b:o+xs.length=m):W.rangeAt k m ys:=λj v c=>by
 have:=h (xs.length+j) v (by rw[xS S,xV];exact c);rw[<-tz,b]at this;exact this
def rnC{o m:I}(h1:W.rangeAt k o xs)(d:W.rangeAt k m ys)(c:o+xs.length=m):W.rangeAt k o (xs++ys):=λj v b=>by
 by_cases h:j<xs.length
 .exact h1 j v (by rwa[uo h]at b)
 rw[xS S]at b;have:=d (j-xs.length) v b;rwa[<-c,tz,I.add_sub_cancel' S]at this
def Row.mid{m:I}{zs l l':G Zm}(h:FJ W k l)(e:l=xs++(ys++zs))(e':l'=xs++(us++zs))(hl:us.length=ys.length)(f:xs.length=m):W.there k m us.length/\FJ (W.setCells k m us) k l':=by
 subst e e' f;let⟨h1,b,d⟩:=h
 have c:W.there k xs.length us.length:=λj g=>by
  have:=d (xs.length+j) (by simp only[Zv];omega);rwa[Zs]at this
 have z:=Zs xs.length;refine⟨c,by rw[setCells_size];exact h1,rnC (su (rnF b) k _ us (ZW (Z5 S))) (rnC (World.rangeAt_setCells_same W k _ us c) (su (rnB (rnB b z) Z) k _ us (ZW (ZW S))) (by rw[hl])) z,?_⟩;have:=ym d k xs.length us;simp only[Zv,hl]at this⊢;exact this
structure Rp where
 a:Bs
 s:Bs
 c:Bs
 d:Bs
 u:I
 m:I
 t:I
namespace Rp
def l(p:Rp):G Zm:=aA p.a++(aA p.s++(aA p.c++(aA p.d++(wn p.u++(wn p.m++wn p.t)))))
structure Ok(p:Rp):Prop where
 a:p.a.size=33
 s:p.s.size=33
 c:p.c.size=33
 d:p.d.size=33
variable {p:Rp}{W:Zl}{k:Nat}
def len(h:p.Ok):p.l.length=144:=by
 unfold l;simp only[Zv,aB h.a,aB h.s,aB h.c,aB h.d];rfl
def one(p:Rp):p.l.toArray.all (·.oneCell')=H:=by
 unfold l;have h:∀b:Bs,(aA b).all (·.oneCell')=H:=λb=>by have:=bW (a:=b);rwa[yCy]at this
 have k:∀n,(wn n).all (·.oneCell')=H:=λn=>by have:=aK (n:=n);rwa[yCy]at this
 rw[yCy];simp only[G.all_append,h,k,yDX]
def at7(h:p.Ok)(d:W.rangeAt k 0 p.l):W.rangeAt k 0 (aA p.a)/\W.rangeAt k 33 (aA p.s)/\W.rangeAt k 66 (aA p.c)/\W.rangeAt k 99 (aA p.d)/\W.rangeAt k 132 (wn p.u)/\W.rangeAt k 136 (wn p.m)/\W.rangeAt k 140 (wn p.t):=by
 have h1:=rnB (m:=33) d (by rw[aB h.a]);have b:=rnB (m:=66) h1 (by rw[aB h.s]);have f:=rnB (m:=99) b (by rw[aB h.c]);have c:=rnB (m:=132) f (by rw[aB h.d]);have e:=rnB (m:=136) c Z;exact⟨rnF d,rnF h1,rnF b,rnF f,rnF c,rnF e,rnB (m:=140) e Z⟩
def Yo(h:p.Ok)(c:FJ W k p.l){x:Bs}(hx:x.size=33):W.there k 0 (aA x).length/\FJ (W.setCells k 0 (aA x)) k { p with a:=x }.l/\{ p with a:=x }.Ok:=by
 let⟨h1,b⟩:=Row.mid (xs:=[]) (us:=aA x) (l':={ p with a:=x }.l) c Z Z (by rw[aB hx,aB h.a]) Z
 exact⟨h1,b,hx,h.s,h.c,h.d⟩
def sets(h:p.Ok)(c:FJ W k p.l){x:Bs}(hx:x.size=33):W.there k 33 (aA x).length/\FJ (W.setCells k 33 (aA x)) k { p with s:=x }.l/\{ p with s:=x }.Ok:=by
 let⟨h1,b⟩:=Row.mid (xs:=aA p.a) (us:=aA x) (l':={ p with s:=x }.l) c Z Z (by rw[aB hx,aB h.s]) (aB h.a)
 exact⟨h1,b,h.a,hx,h.c,h.d⟩
def Yn(h:p.Ok)(d:FJ W k p.l){x:Bs}(hx:x.size=33):W.there k 66 (aA x).length/\FJ (W.setCells k 66 (aA x)) k { p with c:=x }.l/\{ p with c:=x }.Ok:=by
 let⟨h1,b⟩:=Row.mid (m:=66) (xs:=aA p.a++aA p.s) (ys:=aA p.c) (zs:=aA p.d++(wn p.u++(wn p.m++wn p.t))) (us:=aA x) (l':={ p with c:=x }.l) d (by unfold l;simp only[uk]) (by unfold l;simp only[uk]) (by rw[aB hx,aB h.c]) (by rw[Zv,aB h.a,aB h.s])
 exact⟨h1,b,h.a,h.s,hx,h.d⟩
def Ym(h:p.Ok)(c:FJ W k p.l){x:Bs}(hx:x.size=33):W.there k 99 (aA x).length/\FJ (W.setCells k 99 (aA x)) k { p with d:=x }.l/\{ p with d:=x }.Ok:=by
 let⟨h1,b⟩:=Row.mid (m:=99) (xs:=aA p.a++(aA p.s++aA p.c)) (ys:=aA p.d) (zs:=wn p.u++(wn p.m++wn p.t)) (us:=aA x) (l':={ p with d:=x }.l) c (by unfold l;simp only[uk]) (by unfold l;simp only[uk]) (by rw[aB hx,aB h.d]) (by simp only[Zv,aB h.a,aB h.s,aB h.c])
 exact⟨h1,b,h.a,h.s,h.c,hx⟩
def Yj(h:p.Ok)(c:FJ W k p.l)(x:I):W.there k 132 (wn x).length/\FJ (W.setCells k 132 (wn x)) k { p with u:=x }.l/\{ p with u:=x }.Ok:=by
 let⟨h1,b⟩:=Row.mid (m:=132) (xs:=aA p.a++(aA p.s++(aA p.c++aA p.d))) (ys:=wn p.u) (zs:=wn p.m++wn p.t) (us:=wn x) (l':={ p with u:=x }.l) c (by unfold l;simp only[uk]) (by unfold l;simp only[uk]) Z (by simp only[Zv,aB h.a,aB h.s,aB h.c,aB h.d])
 exact⟨h1,b,h.a,h.s,h.c,h.d⟩
def Yl(h:p.Ok)(c:FJ W k p.l)(x:I):W.there k 136 (wn x).length/\FJ (W.setCells k 136 (wn x)) k { p with m:=x }.l/\{ p with m:=x }.Ok:=by
 let⟨h1,b⟩:=Row.mid (m:=136) (xs:=aA p.a++(aA p.s++(aA p.c++(aA p.d++wn p.u)))) (ys:=wn p.m) (zs:=wn p.t) (us:=wn x) (l':={ p with m:=x }.l) c (by unfold l;simp only[uk]) (by unfold l;simp only[uk]) Z (by simp only[Zv,aB h.a,aB h.s,aB h.c,aB h.d];rfl)
 exact⟨h1,b,h.a,h.s,h.c,h.d⟩
def Yk(h:p.Ok)(c:FJ W k p.l)(x:I):W.there k 140 (wn x).length/\FJ (W.setCells k 140 (wn x)) k { p with t:=x }.l/\{ p with t:=x }.Ok:=by
 let⟨h1,b⟩:=Row.mid (m:=140) (xs:=aA p.a++(aA p.s++(aA p.c++(aA p.d++(wn p.u++wn p.m))))) (ys:=wn p.t) (zs:=[]) (us:=wn x) (l':={ p with t:=x }.l) c (by unfold l;simp only[uk,ug]) (by unfold l;simp only[uk,ug]) Z (by simp only[Zv,aB h.a,aB h.s,aB h.c,aB h.d];rfl)
 exact⟨h1,b,h.a,h.s,h.c,h.d⟩
end Rp
def uRd:yZ 113:=yQ
def iRd:gZ 113 144:=gQ
def Ov{p:Rp}(h:p.Ok)(w:Zl):(aj 113 (.agg p.l.toArray)).run prog w=.ok (jZ w.heap.size) (w.alloc (.cells p.l.toArray 113)):=by
 rw[Rp.l,dV h.a,dV h.s,dV h.c,dV h.d];kernel_rfl
def Tr{d:I}{L:Bs}{k:Fd}{f:GJ Addr}{b:G Fk}(c:k.size<=1048576)(i:hZ w r 0 L)(hl:L.size=32)(hT:PartOk w (.slice f d g) b):
 cZ 119 #[jZ r,.string k,.slice f d g] w (Ret λe w'=>e=.tuple #[]/\SP.Only r 0 32 w w'/\hZ w' r 0 (iW L k.data.toList b)):=
 (Dt r L k f d g b w c (Tn i) hl hT).mono λ_ _ ⟨h1,j,l⟩=>⟨_,h1,Z,j,Tk l⟩
def bgL(V:Bs)(n:I)(A S:Bs):Bs:=kS [102,105,114,115,116] [115,101,99,111,110,100] (iW (iW (newL [114,97,110,103,101]) [99,111,109,109,105,116] V.toList) [98,105,116,115] [aV n 1]) A S
structure BgI(w W:Zl)(k r:I)(p:Rp)(V:Bs)(y z:I)(L:Bs):Prop where
 bl:kZ w W
 r3:FJ W k p.l
 r4:FJ W (k+1) (aA V)
 r6:FJ W (k+2) [jZ r]
 r7:FJ W (k+3) (wn y)
 r8:FJ W (k+4) (wn z)
 rk:w.heap.size=k/\k+5<=r
 lg:hZ W r 0 L
 ls:L.size=32
section
variable {w W W':Zl}{k r:Nat}{p:Rp}{V:Bs}{y z:Nat}{L L':Bs}
def BgI.lt(h:BgI w W k r p V y z L):r<W.heap.size:=Holds.lt h.lg (by rw[h.ls];decide)
def BgI.grow(h:BgI w W k r p V y z L)(b:kZ W W'):BgI w W' k r p V y z L:=
 ⟨h.bl.trans (b.mono h.bl.size),h.r3.below b,h.r4.below b,h.r6.below b,h.r7.below b,h.r8.below b,h.rk,Holds.below h.lg b h.lt,h.ls⟩
def BgI.say(h:BgI w W k r p V y z L)(b:SP.Only r 0 32 W W')(c:hZ W' r 0 L')(hl:L'.size=32):BgI w W' k r p V y z L':=by
 have e:=h.rk.2;have d:=h.rk.1;exact⟨h.bl.trans (pG b h.bl.size S),h.r3.only b S,h.r4.only b S,h.r6.only b S,h.r7.only b S,h.r8.only b S,h.rk,c,hl⟩
def BgI.put(h:BgI w W k r p V y z L)(b c:I)(j:I)(us:G Zm)(i:j<5)(d:FJ (W.setCells (k+j) 0 us) (k+2) [jZ r])(f:FJ (W.setCells (k+j) 0 us) (k+3) (wn b))(e:FJ (W.setCells (k+j) 0 us) (k+4) (wn c))(l:2<=j):BgI w (W.setCells (k+j) 0 us) k r p V b c L:=by
 have m:=h.rk.2;have g:=h.rk.1;exact⟨RG.below_setCells S _ _ _ h.bl,bE h.r3 S,bE h.r4 S,d,f,e,h.rk,gU h.lg S,h.ls⟩
def BgI.p6(h:BgI w W k r p V y z L)(e:Hid (W.setCells (k+2) 0 [jZ r]=W')):BgI w W' k r p V y z L:=by
 rw[<-e.out];exact h.put y z 2 _ S (h.r6.put Z) (bE h.r7 S) (bE h.r8 S) S
def BgI.p7(h:BgI w W k r p V y z L){b:I}(e:Hid (W.setCells (k+3) 0 (wn b)=W')):BgI w W' k r p V b z L:=by
 rw[<-e.out];exact h.put b z 3 _ S (bE h.r6 S) (h.r7.put Z) (bE h.r8 S) S
def BgI.p8(h:BgI w W k r p V y z L){b:I}(e:Hid (W.setCells (k+4) 0 (wn b)=W')):BgI w W' k r p V y b L:=by
 rw[<-e.out];exact h.put y b 4 _ S (bE h.r6 S) (bE h.r7 S) (h.r8.put Z) S
end
def D8{n c:ZR}{P:ai}{x:Func}{q e:I}{m:G Zm}(t w g:Tmp)(A:x.results=#[.cell t T,.cell w n,.cell g c])(h:FJ W k vs)(a:FJ W q us)(o:FJ W e m)(z:tmps[t]? = J (jZ k))(r:tmps[w]? = J (jZ q))(j:tmps[g]? = J (jZ e))(u:(P.underlying T).map (·.isRow)=J H)(L:(P.info? T).map (·.size)=J vs.length)(f:(P.underlying n).map (·.isRow)=J H)(p:(P.info? n).map (·.size)=J us.length)(b:(P.underlying c).map (·.isRow)=J H)(l:(P.info? c).map (·.size)=J m.length):(results x tmps).run P W=.ok (.tuple #[.agg vs.toArray,.agg us.toArray,.agg m.toArray]) W:=by
 let⟨d,u,hd⟩:=Zp.1 u
 let⟨C,f,v⟩:=Zp.1 f
 let⟨s,b,i⟩:=Zp.1 b
 have h1:=um (P:=P) W k 0 T vs d h.2.1 u hd L;have y:=um (P:=P) W q 0 n us C a.2.1 f v p;have K:=um (P:=P) W e 0 c m s o.2.1 b i l;unfold results;simp[A,z,r,j,h1,y,K,asAddr]
def SD(O:Ord N)(p:Rp)(hp:p.Ok)(V:Bs)(hV:V.size=33)(n:Nat)(hn:n<256)(w:Zl):
 dZ 55 #[.agg p.l.toArray,pvl V,iZ n] w λe w'=>∃r,e=.tuple #[lgV r,nv (chS N (bgL V n p.a p.s)),nv (chS N (aS (bgL V n p.a p.s)))]/\w.heap.size<=r/\hZ w' r 0 (aS (aS (bgL V n p.a p.s))):=by
 obtain⟨L0,M⟩:=hE (newL [114,97,110,103,101]);obtain⟨L1,P⟩:=hE (iW L0 [99,111,109,109,105,116] V.toList);obtain⟨L2,f⟩:=hE (iW L1 [98,105,116,115] [aV n 1]);have e3:bgL V n p.a p.s=kS [102,105,114,115,116] [115,101,99,111,110,100] L2 p.a p.s:=by unfold bgL;rw[M.out,P.out,f.out]
 have s0:L0.size=32:=by rw[<-M.out];exact wE
 have s1:L1.size=32:=by rw[<-P.out];exact dO
 have s2:L2.size=32:=by rw[<-f.out];exact dO
 obtain⟨L3,h2⟩:=hE (kS [102,105,114,115,116] [115,101,99,111,110,100] L2 p.a p.s);obtain⟨L4,x⟩:=hE (aS L3);obtain⟨L5,Q⟩:=hE (aS L4);have s4:L4.size=32:=by rw[<-x.out];exact bC
 have s5:L5.size=32:=by rw[<-Q.out];exact bC
 obtain⟨y,hy⟩:=hE (chS N L3);obtain⟨z,hz⟩:=hE (chS N L4);rw[e3,h2.out,x.out,Q.out,hy.out,hz.out];have HA:E (∀(r:Nat) (W:Zl),hZ W r 0 L2->cZ 120 #[lgV r,.string ⟨#[102,105,114,115,116]⟩,pvl p.a,.string ⟨#[115,101,99,111,110,100]⟩,pvl p.s] W (Ret λe w'=>SP.Only r 0 32 W w'/\hZ w' r 0 L4/\e=nv y)):=λr W h=>by
  rw[<-hy.out,<-x.out,<-h2.out];exact wM O r L2 p.a p.s ⟨#[102,105,114,115,116]⟩ ⟨#[115,101,99,111,110,100]⟩ dC dC hp.a hp.s W h s2
 have HC:E (∀(r:Nat) (W:Zl),hZ W r 0 L4->cZ 121 #[lgV r] W (Ret λe w'=>SP.Only r 0 32 W w'/\hZ w' r 0 L5/\e=nv z)):=λr W h=>by
  rw[<-hz.out,<-Q.out];exact AV O r L4 W h s4
 have HN:E (∀W:Zl,dZ 118 #[.string ⟨#[114,97,110,103,101]⟩] W λe w'=>∃r,e=lgV r/\W.heap.size<=r/\r<w'.heap.size/\hZ w' r 0 L0):=λW=>by
  rw[<-M.out];exact J7 ⟨#[114,97,110,103,101]⟩ W dC
 obtain⟨k,hk⟩:=hE (w.heap.size);obtain⟨w1,K⟩:=hE (lZ w p.l 113);obtain⟨w2,C⟩:=hE (lZ w1 (aA V) 40);obtain⟨w3,h0⟩:=hE (w2.alloc (.cells [.pointer none].toArray 118));obtain⟨w4,a⟩:=hE (lZ w3 (RG.z 4) 93);obtain⟨w5,T⟩:=hE (lZ w4 (RG.z 4) 93);have z1:E (w1.heap.size=k+1):=by rw[<-K.out,Zy,hk.out];rfl
 have z2:E (w2.heap.size=k+2):=by rw[<-C.out,Zy,z1.out];rfl
 have z3:E (w3.heap.size=k+3):=by rw[<-h0.out,Zy,z2.out];rfl
 have z4:E (w4.heap.size=k+4):=by rw[<-a.out,Zy,z3.out];rfl
 have z5:E (w5.heap.size=k+5):=by rw[<-T.out,Zy,z4.out];rfl
 have f1:=aN hk K;have f2:=aN z1 C;have f3:=aN z2 h0;have f4:=aN z3 a;have f5:=aN z4 T;have he:=f4.1.trans (f5.1.mono f4.1.size);have ha:=f3.1.trans (he.mono f3.1.size);have h8:=f2.1.trans (ha.mono f2.1.size);have F:=mk6 (f1.1.trans (h8.mono f1.1.size)) (f1.2.below h8) (f2.2.below ha) (f3.2.below he) (f4.2.below f5.1) f5.2;obtain⟨vp,h9⟩:=hE (ZM p.l.toArray);obtain⟨vV,h6⟩:=hE (pvl V);have B1:E ((aj 113 vp).run prog w=.ok (jZ k) w1):=by rw[<-h9.out,<-K.out,<-hk.out];exact Ov hp w
 have B2:E ((aj 40 vV).run prog w1=.ok (jZ (k+1)) w2):=by rw[<-h6.out,<-C.out,<-z1.out];exact uP hV w1
 rw[h9.out,h6.out];have HP:=mk2 hp hV;go_enter func55,ntmps55;go_wp2_with (first|(refine aI (u:=vp) (v:=jZ k) (w':=w1) Z _ (.tmp 0) Z ?_ ?_ ?_;rfl;exact B1.out)|(refine aI (u:=vV) (v:=jZ (k+1)) (w':=w2) Z _ (.tmp 1) Z ?_ ?_ ?_;rfl;exact B2.out)|(refine alR 6 z2 h0 ?_)|(refine alR 7 z3 a ?_)|(refine alR 8 z4 T ?_)|fail)
 refine(HN w5).mono ?_;rintro e w6 ⟨uu,rfl,b,r,rfl,h5,k3,d⟩;obtain⟨w7,hm⟩:=hE (w6.setCells (k+2) 0 [jZ r]);have k2:=mk1 (F.2.2.2.1.below b).2.2;have K7:E (BgI w w7 k r p V 0 0 L0):=by
  rw[z5.out]at h5;rw[<-hm.out];have c:=hk.out;exact⟨RG.below_setCells S _ _ _ (F.1.trans (b.mono F.1.size)),bE (F.2.1.below b) S,bE (F.2.2.1.below b) S,(F.2.2.2.1.below b).put Z,bE (F.2.2.2.2.1.below b) S,bE (F.2.2.2.2.2.below b) S,⟨hk.out,h5⟩,gU d S,s0⟩
 unfold lgV;go_wp2_with (first|(refine stR 6 hm (Hid.mk' Z) k2.out iLg kR ?_)|fail)
 refine AW.begin 4 4 ?_;refine AW.va 0 (jZ (k+2)) ?_;refine AW.va 1 (jZ (k+2)) ?_;refine AW.ce 2 uLp (λW i=>(K7.grow i).r6.2.1 0 _ Z) ?_;refine AW.va 3 (sZ (k+1) 33 33) ?_;refine AW.fc (λi=>Tr (r:=r) (L:=L0) (k:=⟨#[99,111,109,109,105,116]⟩) (f:=(some ⟨k+1,0,none⟩)) (d:=33) (g:=33) (b:=V.toList) dC (K7.grow i).lg s0 (zI HP.2 (K7.grow i).r4)) ?_;rintro e w8 i ⟨rfl,l,d⟩;rw[show(⟨#[99,111,109,109,105,116]⟩:Fd).data.toList=[99,111,109,109,105,116] from Z,P.out]at d;have K8:=mk1 ((K7.grow i).say l d s1);have c6:=K8.r6.2.1 0 _ Z;have ht:∀W:Zl,(convert 3 5 (iZ n)).run prog W=.ok (.int .u8 (SP.ub (aV n 1))) W:=λW=>by
  have c:=pQ n;rw[<-c];rfl
 have HL:=mk1 (rfl:aV n 1=aV n 1);generalize aV n 1=o at f ht;obtain⟨w9,A⟩:=hE (w8.alloc (.cells #[.int .u8 (SP.ub o)] 5));obtain⟨k9,hi⟩:=hE (w8.heap.size);have h7:E ((pg 22 1 #[(0,.int .u8 (SP.ub o))]).run prog w8=.ok (sZ k9 1 1) w9):=by rw[<-A.out,<-hi.out];show _=_;kernel_rfl
 have f9:E (kZ w8 w9/\FJ w9 k9 [.int .u8 (SP.ub o)]):=by rw[<-A.out,<-hi.out];exact⟨aD _,aE (w:=w8) (c:=[.int .u8 (SP.ub o)]) (T:=5)⟩
 have K9:=mk2 (K8.grow f9.1) (show PartOk w9 (sZ k9 1 1) [o] from⟨_,k9,0,1,#[o],Z,Z,Zo _,(by show 1<=1099511627776;decide),ZW ⟨Z,λj hj=>by
  obtain rfl:j=0:=by simp at hj;omega
  exact⟨f9.2.2.1 0 _ Z,(f9.2.2.2 0 yGx).2⟩⟩⟩)
 go_wp2_with (first|(refine inR 20 (I:=(pg 22 1 #[(0,.int .u8 (SP.ub o))])) h7.out ?_)|fail)
 refine(Tr (r:=r) (L:=L1) (k:=⟨#[98,105,116,115]⟩) (f:=(some (aZ k9))) (d:=1) (g:=1) (b:=[o]) (w:=w9) dC K9.1.lg s1 K9.2).mono ?_;rintro e k1 ⟨uu,rfl,rfl,l,d⟩;rw[show(⟨#[98,105,116,115]⟩:Fd).data.toList=[98,105,116,115] from Z,f.out]at d;have KA:=mk1 (K9.1.say l d s2);clear K9 l d K8 f9 h7 A c6;obtain⟨vl,c⟩:=hE (lgV r);obtain⟨vA,hvA⟩:=hE (pvl p.a);obtain⟨vS,hg⟩:=hE (pvl p.s);have iA:gZ 40 (aA p.a).length:=by rw[aB HP.1.a];exact iCP
 have iS:gZ 40 (aA p.s).length:=by rw[aB HP.1.s];exact iCP
 have H7:=Rp.at7 HP.1 KA.r3.2.1;have X:=mk1 (HA r k1 KA.lg);rw[c.out,hvA.out,hg.out]at X;go_wp2_with (first|(refine ldR 6 KA.r6.2.1 c uLg iLg ?_)|(refine ldR 23 H7.1 hvA uCP iA ?_)|(refine ldR 25 H7.2.1 hg uCP iS ?_)|fail)
 refine X.mono ?_;clear X H7;rintro e hu ⟨uu,rfl,l,d,rfl⟩;have KB:=mk1 (KA.say l d s4);obtain⟨hq,t⟩:=hE (hu.setCells (k+3) 0 (wn y));obtain⟨vy,g⟩:=hE (nv y);rw[g.out];go_wp2_with (first|(refine stR 7 t g KB.r7.2.2 In (aK (n:=y)) ?_)|fail)
 have KC:=mk1 (KB.p7 t);refine AW.beg 6 6 (J:=⟨λW=>∃z L,BgI w W k r p V y z L,λ_ _ i ⟨z,L,h⟩=>⟨z,L,h.grow i⟩,H⟩) ⟨_,_,KC.grow ⟨Z,Z,Z,Zo _,λ_ _=>rfl⟩⟩ ?_;refine AW.ro 0 (λW ⟨_,_,h⟩=>h.r6.2.1) c uLg iLg ?_;refine AW.ro 1 (λW ⟨_,_,h⟩=>h.r7.2.1) g u40 In ?_;refine AW.ro 2 (λW ⟨_,_,h⟩=>h.r6.2.1) c uLg iLg ?_;have KD:=mk1 (KC.grow (W':=hq.drew) ⟨Z,Z,Z,Zo _,λ_ _=>rfl⟩);have h4:=mk1 (HC r hq.drew KD.lg);rw[c.out]at h4;refine AW.cw 3 (λ_=>h4.out) (λe w' _ h=>⟨_,_,KD.say h.1 h.2.1 s5⟩) ?_;rintro e hw ⟨l,d,rfl⟩;have KE:=mk1 (KD.say l d s5);obtain⟨k0,q⟩:=hE (hw.setCells (k+2) 0 [jZ r]);obtain⟨hr,s⟩:=hE (k0.setCells (k+3) 0 (wn y));obtain⟨k4,m⟩:=hE (hr.setCells (k+4) 0 (wn z));have KF:=mk1 (KE.p6 q);have KG:=mk1 (KF.p7 s);have KH:=mk1 (KG.p8 m);obtain⟨vz,hc⟩:=hE (nv z);rw[hc.out];refine AW.ss 4 c kR iLg q (λ_=>⟨KE.r6.2.2,_,_,KF.out⟩) ?_;refine AW.ss 5 g (aK (n:=y)) In s (λ_=>⟨KF.r7.2.2,_,_,KG.out⟩) ?_;refine AW.fi (us:=wn z) hc (aK (n:=z)) In (λ_=>⟨KG.r8.2.2,?_⟩);rw[m.out];go_wp2_with fail
 refine Zx (D8 6 7 8 (T:=118) (n:=93) (c:=93) Z KH.r6 KH.r7 KH.r8 Z Z Z uLg iLg u40 In u40 In) Z ?_;exact⟨_,Z,KH.bl,r,Z,oN KH.rk,KH.lg⟩
structure MdI(w W:Zl)(k r:I)(p:Rp)(y:I)(L:Bs):Prop where
 on:SP.Only r 0 32 w W
 r2:FJ W k p.l
 r3:FJ W (k+1) [jZ r]
 r4:FJ W (k+2) (wn y)
 rk:w.heap.size=k/\r<k
 lg:hZ W r 0 L
 ls:L.size=32
section
variable {w W W':Zl}{k r:Nat}{p:Rp}{y:Nat}{L L':Bs}
def MdI.lt(h:MdI w W k r p y L):r<W.heap.size:=Holds.lt h.lg (by rw[h.ls];decide)
def MdI.grow(h:MdI w W k r p y L)(b:kZ W W'):MdI w W' k r p y L:=
 ⟨h.on.trans (SP.Only.of_below b Z h.lt),h.r2.below b,h.r3.below b,h.r4.below b,h.rk,Holds.below h.lg b h.lt,h.ls⟩
def MdI.say(h:MdI w W k r p y L)(b:SP.Only r 0 32 W W')(c:hZ W' r 0 L')(hl:L'.size=32):MdI w W' k r p y L':=by
 have:=h.rk;exact⟨h.on.trans b,h.r2.only b S,h.r3.only b S,h.r4.only b S,h.rk,c,hl⟩
def MdI.put(h:MdI w W k r p y L){b:I}(e:Hid (W.setCells (k+2) 0 (wn b)=W')):MdI w W' k r p b L:=by
 have:=h.rk;rw[<-e.out];exact⟨DY h.on h.rk.1 h.rk.2 S,bE h.r2 S,bE h.r3 S,h.r4.put Z,h.rk,gU h.lg S,h.ls⟩
def Ns(q:p.Ok)(o:hZ w r 0 L)(hl:L.size=32):∃k c f n,E (w.heap.size=k)/\E (f.heap.size=k+2)/\E (f.alloc (.cells (RG.z 4).toArray 93)=n)/\E ((aj 113 (.agg p.l.toArray)).run prog w=.ok (jZ k) c)/\E ((aj 118 (lgV r)).run prog c=.ok (jZ (k+1)) f)/\E (MdI w n k r p 0 L):=by
 have j:=Holds.lt o (by rw[hl];decide);have f1:=aN (T:=113) (Hid.mk' (rfl:w.heap.size=_)) (Hid.mk' (rfl:w.alloc (.cells p.l.toArray 113)=_));have g:(w.alloc (.cells p.l.toArray 113)).heap.size=w.heap.size+1:=Zy _ _;have m:=U2 r (w.alloc (.cells p.l.toArray 113));generalize l:w.alloc (.cells p.l.toArray 113)=c at f1 g m;have f2:=aN (T:=118) (z:=[jZ r]) (Hid.mk' g) (Hid.mk' Z);have i:(c.alloc (.cells [jZ r].toArray 118)).heap.size=w.heap.size+2:=by rw[Zy,g]
 rw[g]at m;have d:(aj 118 (lgV r)).run prog c=.ok (jZ (w.heap.size+1)) (c.alloc (.cells [jZ r].toArray 118)):=m;generalize c.alloc (.cells [jZ r].toArray 118)=f at f2 i d;have f3:=aN (T:=93) (z:=RG.z 4) (Hid.mk' i) (Hid.mk' Z);refine⟨_,c,f,_,Z,i,Z,?_,d,?_⟩
 .rw[<-l];exact Ov q w
 have e:=f2.1.trans (f3.1.mono f2.1.size);have b:=f1.1.trans (e.mono f1.1.size);exact⟨SP.Only.of_below b Z j,f1.2.below e,f2.2.below f3.1,f3.2,⟨Z,j⟩,Holds.below o b j,hl⟩
end
def mdL(L C D:Bs):Bs:=kS [116,104,105,114,100] [102,111,117,114,116,104] L C D
def RQ(O:Ord N)(p:Rp)(d:p.Ok)(r:I)(L:Bs)(w:Zl)(hL:hZ w r 0 L)(hl:L.size=32):
 cZ 56 #[.agg p.l.toArray,lgV r] w (Ret λe w'=>SP.Only r 0 32 w w'/\hZ w' r 0 (aS (mdL L p.c p.d))/\e=nv (chS N (mdL L p.c p.d))):=by
 let⟨A,g⟩:=hE (mdL L p.c p.d)
 let⟨a,c⟩:=hE (aS A)
 let⟨x,hx⟩:=hE (chS N A)
 have s2:a.size=32:=c.out▸bC;rw[g.out,c.out,hx.out];have V:E (∀(W:Zl),hZ W r 0 L->cZ 120 #[lgV r,.string ⟨#[116,104,105,114,100]⟩,pvl p.c,.string ⟨#[102,111,117,114,116,104]⟩,pvl p.d] W (Ret λe w'=>SP.Only r 0 32 W w'/\hZ w' r 0 a/\e=nv x)):=λW h=>by
  rw[<-hx.out,<-c.out,<-g.out];exact wM O r L p.c p.d ⟨#[116,104,105,114,100]⟩ ⟨#[102,111,117,114,116,104]⟩ dC dC d.c d.d W h hl
 let⟨k,M,w2,P,hk,Q,o,z,C,n⟩:=Ns d hL hl
 let⟨vp,l⟩:=hE (ZM p.l.toArray)
 let⟨vl,b⟩:=hE (lgV r)
 let⟨vC,i⟩:=hE (pvl p.c)
 let⟨vD,j⟩:=hE (pvl p.d)
 rw[l.out]at z;have t:=mk1 (V P n.lg);rw[b.out]at C;rw[b.out,i.out,j.out]at t;rw[l.out,b.out];have T:gZ 40 (aA p.c).length:=by rw[aB d.c];exact iCP
 have iD:gZ 40 (aA p.d).length:=by rw[aB d.d];exact iCP
 have s:=mk1 (Rp.at7 d n.r2.2.1);go_enter func56,ntmps56;go_wp2_with (first|(refine aI (u:=vp) (v:=jZ k) (w':=M) Z _ (.tmp 0) Z ?_ ?_ ?_;rfl;exact z)|(refine aI (u:=vl) (v:=jZ (k+1)) (w':=w2) Z _ (.tmp 1) Z ?_ ?_ ?_;rfl;exact C)|(refine alR 4 Q o ?_)|(refine ldR 3 n.r3.2.1 b uLg iLg ?_)|(refine ldR 6 s.2.2.1 i uCP T ?_)|(refine ldR 8 s.2.2.2.1 j uCP iD ?_)|fail)
 refine t.mono ?_;rintro e K ⟨uu,rfl,X,hH,rfl⟩;have y:=mk1 (n.say X hH s2);let⟨w5,m⟩:=hE (K.setCells (k+2) 0 (wn x))
 have q:=mk1 (y.put m);let⟨vx,f⟩:=hE (nv x)
 rw[f.out];go_wp2_with (first|(refine stR 4 m f y.r4.2.2 In aK ?_)|fail)
 refine Zx (aG 4 Z q.r4 Z u40 In) Z ?_;exact⟨_,Z,q.on,q.lg,Z⟩
def Xr{L:I->Bs}:kB L 3=(L 0).toList++((L 1).toList++(L 2).toList):=by simp[kB,G.range_succ]
def J6{B:I}{x:G Fk}(h:w.ownsRow B 5 1 v n (x.map encB))(d:0<n)(m:n<=1000000):∃q c,v=.slice q n c/\PartOk w v x:=by
 have hl:x.length=n:=by have:=h.1;rw[ZI,I.mul_one]at this;exact this
 rcases id h with⟨-,⟨rfl,d⟩|⟨g,cap,cur,rfl,h1,b,l,f,i,o⟩⟩
 .omega
 have hx:x.toArray.size=n:=by rw[kI];exact hl
 refine⟨_,_,Z,J (aZ g),g,0,cap,x.toArray,by rw[hx],Z,S,S,ZW ⟨Z,λj e=>?_⟩⟩;have k:=h.cells (g:=g) Z j (encB x[j]) (by rw[rm,ZH S];rfl);rw[Cm]at k;refine⟨by rw[k,getElem!_pos _ j e];simp;rfl,?_⟩;simp[World.frozen?,b]
def Y0{b:I}:(pg 23 3 #[(0,r32 g),(1,r32 b),(2,r32 k)]).run prog w=.ok (sZ w.heap.size 3 3) (w.alloc (.cells #[r32 g,r32 b,r32 k] 22)):=kR
def enB(u m t:I):G Fk:=(bx u).toList++((bx m).toList++(bx t).toList)
def enL(L:Bs)(u m t:I):Bs:=iW L [115,117,109,115] (enB u m t)
def ElQ.el{m:I}{x:Zm}{b:Bs}(h:ElQ Q m W x b):El m W x b:=by
 obtain⟨k,c,h1,e,g,-,f,d⟩:=h;exact⟨k,c,h1,e,g,f,d⟩
def Sq(O:Ord N)(p:Rp)(hp:p.Ok)(hu:p.u<N)(hm:p.m<N)(ht:p.t<N)(r:I)(L:Bs)(w:Zl)(hL:FE encB w r 0 L)(hl:L.size=32):
 ae prog 59 #[.agg p.l.toArray,lgV r] w (Ret λe w'=>SP.Only r 0 32 w w'/\FE encB w' r 0 (aS (enL L p.u p.m p.t))/\e=nv (chS N (enL L p.u p.m p.t))):=by
 obtain⟨z,d⟩:=hE (enL L p.u p.m p.t);obtain⟨L2,g⟩:=hE (aS z);obtain⟨x,hx⟩:=hE (chS N z);have s1:z.size=32:=by rw[<-d.out];exact dO
 have s2:L2.size=32:=by rw[<-g.out];exact bC
 have HC:E (∀(W:Zl),FE encB W r 0 z->ae prog 121 #[lgV r] W (Ret λe w'=>SP.Only r 0 32 W w'/\FE encB w' r 0 L2/\e=nv x)):=λW h=>by
  rw[<-hx.out,<-g.out];exact AV O r z W h s1
 rw[d.out,g.out,hx.out];unfold enL enB at d;have i:=λ(a:I) (ha:a<N) (W:Zl)=>jC O ha W
 have b1:=λW=>i p.u hu W
 have b2:=λW=>i p.m hm W
 have b3:=λW=>i p.t ht W
 have sz:∀a:I,(bx a).size=32:=dJ;have f:=mk3 (sz p.u) (sz p.m) (sz p.t);have HB:=mk3 b1 b2 b3;clear b1 b2 b3 i hu hm ht sz g hx;generalize bx p.u=o at *;generalize bx p.m=m at *;generalize bx p.t=n at *;obtain⟨vu,h2⟩:=hE (nv p.u);obtain⟨vm,C⟩:=hE (nv p.m);obtain⟨vt,P⟩:=hE (nv p.t);rw[h2.out,C.out,P.out]at HB;obtain⟨k,w1,w2,w3,hk,z2,h9,B1,B2,c⟩:=Ns hp hL hl;obtain⟨vp,K⟩:=hE (ZM p.l.toArray);obtain⟨vl,l⟩:=hE (lgV r);rw[K.out]at B1;rw[l.out]at B2;rw[K.out,l.out];clear hL;have HP:=mk1 hp;go_enter func59,ntmps59;go_wp2_with (first|(refine aI (u:=vp) (v:=jZ k) (w':=w1) Z _ (.tmp 0) Z ?_ ?_ ?_;rfl;exact B1.out)|(refine aI (u:=vl) (v:=jZ (k+1)) (w':=w2) Z _ (.tmp 1) Z ?_ ?_ ?_;rfl;exact B2.out)|(refine alR 4 z2 h9 ?_)|fail)
 have n3:E (k+1≠r):=by have:=c.rk;show _≠_;omega
 have n2:E (k≠r):=by have:=c.rk;show _≠_;omega
 refine AW.beg 14 14 (J:=(Iv.only c.lt)) (SP.Only.of_below (⟨Z,Z,Z,Zo _,λ_ _=>rfl⟩:kZ w3 w3.drew) Z c.lt) ?_;refine AW.va 0 (jZ (k+1)) ?_;refine AW.va 1 (jZ (k+1)) ?_;refine AW.ce 2 uLp (λW b=>(c.r3.only b n3.out).2.1 0 _ Z) ?_;refine AW.va 3 (oZ k 132) ?_;refine AW.ro 4 (λW b=>(Rp.at7 HP.out (c.r2.only b n2.out).2.1).2.2.2.2.1) h2 u40 In ?_;refine AW.va 6 (oZ k 136) ?_;refine AW.ro 7 (λW b=>(Rp.at7 HP.out (c.r2.only b n2.out).2.1).2.2.2.2.2.1) C u40 In ?_;refine AW.va 9 (oZ k 140) ?_;refine AW.ro 10 (λW b=>(Rp.at7 HP.out (c.r2.only b n2.out).2.1).2.2.2.2.2.2) P u40 In ?_;refine AW.ca 5 (λ_=>HB.1 _) (λe w' h=>h.1) ?_;rintro e w4 ⟨t,h7,g1,rfl⟩;refine AW.ca 8 (λ_=>HB.2.1 _) (λe w' h=>h.1) ?_;rintro e w5 ⟨V,h8,Q,rfl⟩;refine AW.ca 11 (λ_=>HB.2.2 _) (λe w' h=>h.1) ?_;rintro e A ⟨M,h3,g3,rfl⟩;have T:=aD (w:=A) (.cells #[r32 g1,r32 Q,r32 g3] 22);have ra:=aE (w:=A) (c:=[r32 g1,r32 Q,r32 g3]) (T:=22);have s:=V.trans (M.mono V.size);refine AW.ns 12 (Y0 (g:=g1) (b:=Q) (k:=g3) (w:=A)) T ?_;have q:=mk1 (Ob A.heap.size 3 3 (λj=>if j=0 then o else if j=1 then m else n) dC (λj hj=>by
  match j,hj with
  | 0,_=>show o.size<=10000;rw[f.1];decide
  | 1,_=>show m.size<=10000;rw[f.2.1];decide
  | 2,_=>show n.size<=10000;rw[f.2.2];decide) (A.alloc (.cells #[r32 g1,r32 Q,r32 g3] 22)) ra.1 λj hj=>by
  match j,hj with
  | 0,_=>exact⟨r32 g1,ra.2.1 0 _ Z,by show El o.size _ _ o;rw[f.1];exact((h7.keep (Kq.of_below s)).keep (Kq.of_below T)).el⟩
  | 1,_=>exact⟨r32 Q,ra.2.1 1 _ Z,by show El m.size _ _ m;rw[f.2.1];exact((h8.keep (Kq.of_below M)).keep (Kq.of_below T)).el⟩
  | 2,_=>exact⟨r32 g3,ra.2.1 2 _ Z,by show El n.size _ _ n;rw[f.2.2];exact(h3.keep (Kq.of_below T)).el⟩)
 have hc:(kB (λj=>if j=0 then o else if j=1 then m else n) 3)=o.toList++(m.toList++n.toList):=Xr;rw[hc]at q;have h5:(o.toList++(m.toList++n.toList)).length=96:=by simp only[Zv,ZE,f.1,f.2.1,f.2.2]
 generalize o.toList++(m.toList++n.toList)=xx at *;rw[h5]at q;have X:=mk1 (((ZF _ w3).drew.trans (t.trans (s.mono t.size))).trans (T.mono (Zw t.size s.size)));refine AW.ca 13 (λ_=>q.out) (λe w' h=>h.1) ?_;rintro e w8 ⟨h6,h4⟩;obtain⟨qa,qc,rfl,hb⟩:=J6 h4 dC dC;have K8:=mk1 (c.grow (X.trans (h6.mono X.size)));refine AW.cw 14 (λ_=>Tr (r:=r) (L:=L) (k:=⟨#[115,117,109,115]⟩) (f:=qa) (d:=96) (g:=qc) (b:=xx) (w:=w8) dC K8.lg hl hb) (λe w' hI h=>hI.trans h.2.1) ?_;rintro e w9 ⟨rfl,b,hH⟩;rw[show(⟨#[115,117,109,115]⟩:Fd).data.toList=[115,117,109,115] from Z,d.out]at hH;have K9:=mk1 (K8.say b hH s1);refine AW.dn λ_=>?_
 have HD:=mk1 (HC w9 K9.lg);rw[l.out]at HD;go_wp2_with (first|(refine ldR 3 K9.r3.2.1 l uLg iLg ?_)|fail)
 refine HD.mono ?_;rintro e wA ⟨uu,rfl,b,hH,rfl⟩;have KA:=mk1 (K9.say b hH s2);obtain⟨wB,h0⟩:=hE (wA.setCells (k+2) 0 (wn x));have KB:=mk1 (KA.put h0);obtain⟨vx,y⟩:=hE (nv x);rw[y.out];go_wp2_with (first|(refine stR 4 h0 y KA.r4.2.2 In (aK (n:=x)) ?_)|fail)
 refine Zx (aG 4 (T:=93) Z KB.r4 Z u40 In) Z ?_;exact⟨_,Z,KB.on,KB.lg,Z⟩
def uAr:yZ 27:=yQ
def iAr:gZ 27 11:=gQ
def XE{a b c d:Zm}:(aj 25 (.agg #[a,b,c,d])).run prog w=.ok (jZ w.heap.size) (w.alloc (.cells #[a,b,c,d] 25)):=kR
def z11:G Zm:=G.replicate 11 nZ
structure RgT(Q:I->Prop)(W:Zl)(p:Rp)(a b c d e f g:I):Prop where
 a:ElQ Q 33 W (r33 a) p.a
 b:ElQ Q 33 W (r33 b) p.s
 c:ElQ Q 33 W (r33 c) p.c
 d:ElQ Q 33 W (r33 d) p.d
 e:ElQ Q 32 W (r32 e) (bx p.u)
 f:ElQ Q 32 W (r32 f) (bx p.m)
 g:ElQ Q 32 W (r32 g) (bx p.t)
def RgT.keep{p:Rp}{a b d e f:I}(h:RgT Q W p a b c d e f g)(k:Kq Q W W'):RgT Q W' p a b c d e f g:=⟨h.a.keep k,h.b.keep k,h.c.keep k,h.d.keep k,h.e.keep k,h.f.keep k,h.g.keep k⟩
def RgT.mono2{p:Rp}{a b d e f:I}(h:RgT Q W p a b c d e f g)(k:∀g,g<W.heap.size->Q g->Q' g):RgT Q' W p a b c d e f g:=⟨h.a.mono2 k,h.b.mono2 k,h.c.mono2 k,h.d.mono2 k,h.e.mono2 k,h.f.mono2 k,h.g.mono2 k⟩
def Up7(B a b c d u m t E:I):Prop:=B<=a/\a<b/\b<c/\c<d/\d<u/\u<m/\m<t/\t<E
def ElQ.blk{B m:I}{x:Bs}(h:ElQ (B<=·) m W (sZ g n c) x):B<=g/\g<W.heap.size:=by
 obtain⟨k,c',h1,-,-,b,d,-⟩:=h;obtain rfl:=ZV.inj (congrArg Value.ownBlock h1);exact⟨b,d⟩
def Tc(O:Ord N)(p:Rp)(hp:p.Ok)(hu:p.u<N)(hm:p.m<N)(ht:p.t<N)(x s l n:Zm)(h1:x.oneCell'=H/\s.oneCell'=H/\l.oneCell'=H/\n.oneCell'=H)(w:Zl):
 dZ 115 #[.agg p.l.toArray,.agg #[x,s,l,n]] w λe w'=>∃a b c d u m t,e=.agg #[r33 a,r33 b,r33 c,r33 d,r32 u,r32 m,r32 t,x,s,l,n]/\RgT (w.heap.size<=·) w' p a b c d u m t/\Up7 w.heap.size a b c d u m t w'.heap.size:=by
 have M:=mk7 (λW=>jH hp.a (w:=W)) (λW=>jH hp.s (w:=W)) (λW=>jH hp.c (w:=W)) (λW=>jH hp.d (w:=W)) (λW=>jC O hu W) (λW=>jC O hm W) (λW=>jC O ht W);obtain⟨va,hi⟩:=hE (pvl p.a);obtain⟨vs,h7⟩:=hE (pvl p.s);obtain⟨vc,ha⟩:=hE (pvl p.c);obtain⟨vd,he⟩:=hE (pvl p.d);obtain⟨vu,hn⟩:=hE (nv p.u);obtain⟨vm,h8⟩:=hE (nv p.m);obtain⟨vt,hj⟩:=hE (nv p.t);rw[hi.out,h7.out,ha.out,he.out,hn.out,h8.out,hj.out]at M;have iP:∀ {b:Bs},b.size=33->gZ 40 (aA b).length:=λh=>by rw[aB h];exact iCP
 obtain⟨k,hk⟩:=hE (w.heap.size);obtain⟨w1,V⟩:=hE (lZ w p.l 113);obtain⟨k3,h3⟩:=hE (w1.heap.size);obtain⟨w2,Q⟩:=hE (w1.alloc (.cells [x,s,l,n].toArray 25));obtain⟨k4,h5⟩:=hE (w2.heap.size);obtain⟨o,hc⟩:=hE (lZ w2 z11 27);have F:=Q5 hk V h3 Q h5 hc;have hq:w.heap.size<=k4/\k4<o.heap.size:=⟨h5.out▸Zw (aN hk V).1.size (aN h3 Q).1.size,F.2.2.2.1⟩
 have i:=mk2 hq h1;obtain⟨vp,h9⟩:=hE (ZM p.l.toArray);obtain⟨vi,r⟩:=hE (ZM #[x,s,l,n]);have B1:E ((aj 113 vp).run prog w=.ok (jZ k) w1):=h9.out▸V.out▸hk.out▸Ov hp w;have B2:E ((aj 25 vi).run prog w1=.ok (jZ k3) w2):=r.out▸Q.out▸h3.out▸XE (w:=w1);have HP:=mk1 hp;rw[h9.out,r.out];go_enter func115,ntmps115;go_wp2_with (first|(refine aI (u:=vp) (v:=jZ k) (w':=w1) Z _ (.tmp 0) Z ?_ ?_ ?_;rfl;exact B1)|(refine aI (u:=vi) (v:=jZ k3) (w':=w2) Z _ (.tmp 1) Z ?_ ?_ ?_;rfl;exact B2)|(refine alR 4 h5 hc ?_)|fail)
 have H7:∀W,kZ o W->_:=λW f=>Rp.at7 HP (F.2.1.below f).2.1
 refine AW.begin 23 23 ?_;refine AW.va 0 (jZ k) ?_;refine AW.ro 1 (λW f=>(H7 W f).1) hi uCP (iP HP.a) ?_;refine AW.va 3 (oZ k 33) ?_;refine AW.ro 4 (λW f=>(H7 W f).2.1) h7 uCP (iP HP.s) ?_;refine AW.va 6 (oZ k 66) ?_;refine AW.ro 7 (λW f=>(H7 W f).2.2.1) ha uCP (iP HP.c) ?_;refine AW.va 9 (oZ k 99) ?_;refine AW.ro 10 (λW f=>(H7 W f).2.2.2.1) he uCP (iP HP.d) ?_;refine AW.va 12 (oZ k 132) ?_;refine AW.ro 13 (λW f=>(H7 W f).2.2.2.2.1) hn u40 In ?_;refine AW.va 15 (oZ k 136) ?_;refine AW.ro 16 (λW f=>(H7 W f).2.2.2.2.2.1) h8 u40 In ?_;refine AW.va 18 (oZ k 140) ?_;refine AW.ro 19 (λW f=>(H7 W f).2.2.2.2.2.2) hj u40 In ?_;refine AW.ro 21 (λW f=>(F.2.2.1.below f).2.1) r Ta Uv ?_;refine AW.ca 2 (λ_=>M.1 _) (λe w' h=>h.1) ?_;rintro e w4 ⟨hw,E1,y,rfl⟩;refine AW.ca 5 (λ_=>M.2.1 _) (λe w' h=>h.1) ?_;rintro e w5 ⟨h4,E2,L,rfl⟩;refine AW.ca 8 (λ_=>M.2.2.1 _) (λe w' h=>h.1) ?_;rintro e w6 ⟨h2,E3,P,rfl⟩;refine AW.ca 11 (λ_=>M.2.2.2.1 _) (λe w' h=>h.1) ?_;rintro e w7 ⟨h6,E4,K,rfl⟩;refine AW.ca 14 (λ_=>M.2.2.2.2.1 _) (λe w' h=>h.1) ?_;rintro e w8 ⟨X,E5,C,rfl⟩;refine AW.ca 17 (λ_=>M.2.2.2.2.2.1 _) (λe w' h=>h.1) ?_;rintro e w9 ⟨h0,E6,A,rfl⟩;refine AW.ca 20 (λ_=>M.2.2.2.2.2.2 _) (λe w' h=>h.1) ?_;rintro e wA ⟨hr,E7,z,rfl⟩;rw[<-r.out];refine AW.nx 22 (.agg #[r33 y,r33 L,r33 P,r33 K,r32 C,r32 A,r32 z,x,s,l,n]) ?_;have b9:=hr;have b8:=h0.trans (b9.mono h0.size);have b7:=X.trans (b8.mono X.size);have b6:=h6.trans (b7.mono h6.size);have b5:=h2.trans (b6.mono h2.size);have s3:=hw.size;have q:∀ {W:Zl}{m:I}{v:Zm}{b:Bs},o.heap.size<=W.heap.size->ElQ (W.heap.size<=·) m wA v b->ElQ (o.heap.size<=·) m wA v b:=λhW h=>h.mono2 λg _ hg=>Zw hW hg
 have t5:=Zw s3 h4.size;have t6:=Zw t5 h2.size;have t7:=Zw t6 h6.size;have t8:=Zw t7 X.size;have U0:Up7 o.heap.size y L P K C A z wA.heap.size:=by
  have u1:o.heap.size<=y:=E1.blk.1;have:=E1.blk.2;have:=E2.blk;have:=E3.blk;have:=E4.blk;have:=E5.blk;have:=E6.blk;have:=E7.blk
  unfold Up7;omega
 have U:=mk1 U0;have T:E (RgT (o.heap.size<=·) wA p y L P K C A z):=⟨(E1.keep (Kq.of_below (h4.trans (b5.mono h4.size)))).mono2 λg _ hg=>hg,q s3 (E2.keep (Kq.of_below b5)),q t5 (E3.keep (Kq.of_below b6)),q t6 (E4.keep (Kq.of_below b7)),q t7 (E5.keep (Kq.of_below b8)),q t8 (E6.keep (Kq.of_below b9)),q (Zw t8 h0.size) E7⟩
 refine AW.fi (us:=[r33 y,r33 L,r33 P,r33 K,r32 C,r32 A,r32 z,x,s,l,n]) (Hid.mk' Z) (by simp only[yCy,yEM,yE4,i.2.1,i.2.2.1,i.2.2.2.1,i.2.2.2.2,show ∀g,(r33 g).oneCell'=H from λ_=>rfl,show ∀g,(r32 g).oneCell'=H from λ_=>rfl,yDX]) iAr (λf=>?_);obtain⟨wB,j⟩:=hE (wA.setCells k4 0 [r33 y,r33 L,r33 P,r33 K,r32 C,r32 A,r32 z,x,s,l,n]);have r4:=F.2.2.2.below f;have KE:E (wA.there k4 0 11/\FJ wB k4 [r33 y,r33 L,r33 P,r33 K,r32 C,r32 A,r32 z,x,s,l,n]/\kZ w wB/\RgT (w.heap.size<=·) wB p y L P K C A z/\Up7 w.heap.size y L P K C A z wB.heap.size):=by
  have kq:Kq (o.heap.size<=·) wA wB:=by rw[<-j.out];exact Kq.set λg hg=>oN i.1
  refine⟨r4.2.2,j.out▸r4.put Z,j.out▸RG.below_setCells i.1.1 _ _ _ (F.1.trans (f.mono F.1.size)),(T.keep kq).mono2 λg _ hg=>Zw F.1.size hg,Zw F.1.size U.1,by rw[<-j.out,setCells_size];exact U.2⟩
 rw[j.out];refine⟨KE.1,?_⟩;go_wp2_with fail
 refine Zx (aG 4 (T:=27) Z KE.2.1 Z uAr iAr) Z ?_;exact⟨_,Z,KE.2.2.1,_,_,_,_,_,_,_,Z,KE.2.2.2⟩
abbrev pqM(v:Zm)(l:LB):Pq:=⟨λQ W=>SmQ Q W v l,λ_ _ _ k h=>h.keep k,λ_ _ _ m h=>h.mono2 m⟩
namespace Mp
variable {w W W':Zl}{rs rs':List (Nat × List Zm)}{S S':List Pq}{k r i:Nat}{c c':List Zm}{L L':Bs}
def wk(h:Mp w W rs S)(i:I)(d:rs[i]? = J (k,c):=by rfl):∃c,Mp w W (rs.set i (k,c)) S:=⟨c,by
 let⟨h1,b⟩:=Zz.1 d
 rw[<-b,G.set_getElem_self];exact h⟩
end Mp
abbrev Iv.mx(w:Zl)(rs:G (I × G Zm))(S:G Pq)(i k:I)(b:Hc):Iv:=⟨λW=>∃c,Mp w W (rs.set i (k,c)) S,λ_ _ d ⟨c,h⟩=>⟨c,h.grow d⟩,b⟩
namespace SPA
variable {N:Nat}[NeZero N]{M:Type}
namespace Md
variable (D:Md N M)
def cancel(a b c:M):D.ad a b=D.ad a c↔b=c:=by
 constructor
 .intro h;have h1:D.ad (D.ac (-1) a) (D.ad a b)=D.ad (D.ac (-1) a) (D.ad a c):=by rw[h]
  rw[<-D.assoc,<-D.assoc,D.comm _ a,D.yC,D.zadd,D.zadd]at h1;exact h1
 rintro rfl;rfl
def DX(Y W T:I->(B N))(z:(B N))(k:I->M)(n:I)(h:∀i,i<n->Y i*W i=1):
 D.dt (λi=>z*Y i+z*z*T i) (λi=>D.ac (W i) (k i)) n=D.dt (λi=>z+z*z*(T i*W i)) k n:=
 D.AH n λi b=>by
  have c:=h i b;rw[D.acAc,show(z*Y i+z*z*T i)*W i=z+z*z*(T i*W i) by
   grind]
def Bw(H G:M)(t d tau:(Fin N))(A B E:M):D.cm H G (t-d) tau=D.ad (D.ad A B) E↔D.cm H G t tau=D.ad (D.ad A (D.ac d H)) (D.ad B E):=by
 rw[<-D.cancel (D.ac d H)];have k:D.ad (D.ac d H) (D.cm H G (t-d) tau)=D.cm H G t tau:=by
  unfold cm;rw[<-D.assoc,<-D.adAc,show d+(t-d)=t by grind]
 have b:D.ad (D.ac d H) (D.ad (D.ad A B) E)=D.ad (D.ad A (D.ac d H)) (D.ad B E):=by ac_rfl
 rw[k,b]
def J1(A X G:M)(mu x t w:(B N))(L K U:M):
 D.ad (D.ad (D.ad (D.ad A (D.ac x X)) (D.ac (-1) (D.ac mu G))) (D.ad L K)) (D.ac t (D.ac w U))=D.ad (D.ad (D.ad (D.ad A (D.ac x X)) (D.ac (-mu) G)) (D.ad L K)) (D.ac (t*w) U):=by
 rw[D.acAc,D.acAc,show(-1:(B N))*mu = -mu by grind]
end Md
end SPA
section
open SPA
variable {N:Nat}[NeZero N]{M:Type}
structure Rv(N:I) where
 v:I
 n:I
 s:I->B N
 q:I->B N
 al:B N
 rho:B N
 t1:B N
 t2:B N
 k:B N
 y:B N
 z:B N
 x:B N
 w:B N
namespace Rv
variable (R:Rv N)
def l(i:I):B N:=btF N R.v i
def m(i:I):B N:=btF N R.v i-1
def a0(i:I):B N:=R.l i+-R.z
def sh(i:I):B N:=R.z*pwF R.y i+R.z*R.z*pwF (ofF N 2) i
def b0(i:I):B N:=R.m i*pwF R.y i+R.sh i
def b1(i:I):B N:=R.q i*pwF R.y i
def a(i:I):B N:=R.a0 i+R.s i*R.x
def b(i:I):B N:=R.b0 i+R.b1 i*R.x
def c1:B N:=Md.pr R.a0 R.b1 R.n+Md.pr R.s R.b0 R.n
def c2:B N:=Md.pr R.s R.b1 R.n
def t:B N:=Md.pr R.a R.b R.n
def tau:B N:=R.t1*R.x+R.t2*R.x*R.x+R.z*R.z*R.k
def mu:B N:=R.al+R.rho*R.x
def d:B N:=(R.z-R.z*R.z)*Md.pr (λ_=>1) (pwF R.y) R.n-R.z*R.z*R.z*ofF N (2^R.n-1)
variable (D:Md N M) (G H U:M) (g k:Nat->M)
def pA:M:=D.ad (D.ac R.al G) (D.ad (D.dt R.l g R.n) (D.dt R.m k R.n))
def pS:M:=D.ad (D.ac R.rho G) (D.ad (D.dt R.s g R.n) (D.dt R.q k R.n))
def pV:M:=D.cm H G (ofF N R.v) R.k
def p1:M:=D.cm H G R.c1 R.t1
def p2:M:=D.cm H G R.c2 R.t2
def hh(i:I):M:=D.ac (pwF (ivF R.y) i) (k i)
def rg:Md.Rg (B N):=rgF R.v R.s R.q R.y (ivF R.y) R.z R.x
def WY:R.rg.a0=R.a0:=funext λi=>by
 show R.l i-R.z=R.l i+-R.z;grind
def WX:R.rg.b0=R.b0:=funext λi=>by
 show pwF R.y i*(R.m i+R.z)+R.z*R.z*pwF (ofF N 2) i=R.m i*pwF R.y i+(R.z*pwF R.y i+R.z*R.z*pwF (ofF N 2) i);grind
def UN:R.rg.b1=R.b1:=funext λi=>by
 show pwF R.y i*R.q i=R.q i*pwF R.y i;grind
def e_a:R.rg.a=R.a:=funext λi=>by
 show R.rg.a0 i+_=_;rw[WY];rfl
def e_b:R.rg.b=R.b:=funext λi=>by
 show R.rg.b0 i+R.rg.b1 i*_=_;rw[WX,UN];rfl
def MN(b:I->B N):∀n,Md.pr (λ_=>1) b n=(SPA.own N).sm b n
 | 0=>rfl
 | n+1=>by
  show Md.pr (λ_=>1) b n+1*b n=(SPA.own N).sm b n+b n;rw[MN b n];grind
def e_d:R.rg.d R.n=R.d:=by
 unfold d;rw[MN];exact V0
def sums(b:IsP N)(c:R.y.val≠0)(hv:R.v<2^R.n):D.cm H G (R.t-R.d) R.tau=D.ad (D.ad (D.ac (R.z*R.z) (R.pV D G H)) (D.ac R.x (R.p1 D G H))) (D.ac (R.x*R.x) (R.p2 D G H)):=by
 rw[D.Bw];have h:=D.FG R.rg R.n (Mw (sJ b c)) H G R.k R.t1 R.t2;have ev:R.rg.v R.n=ofF N R.v:=VZ hv;have k:R.rg.t1 R.n=R.c1:=by
  show Md.pr R.rg.a0 R.rg.b1 R.n+Md.pr R.s R.rg.b0 R.n=_;rw[WY,UN,WX];rfl
 have d:R.rg.t2 R.n=R.c2:=by
  show Md.pr R.s R.rg.b1 R.n=_;rw[UN];rfl
 rw[ev,k,d,e_d,e_a,e_b]at h;have e:R.t1*R.x+R.t2*(R.x*R.x)+R.z*R.z*R.k=R.tau:=by
  show _=R.t1*R.x+R.t2*R.x*R.x+R.z*R.z*R.k;grind
 rw[show R.rg.x=R.x from Z,show R.rg.z=R.z from Z,e]at h;exact h
def point(b:IsP N)(c:R.y.val≠0):
 D.ad (D.ad (D.ad (D.ad (R.pA D G g k) (D.ac R.x (R.pS D G g k))) (D.ac (-1) (D.ac R.mu G))) (D.ad (D.dt (λ_=>-R.z) g R.n) (D.dt R.sh (R.hh D k) R.n))) (D.ac R.t (D.ac R.w U))=D.hd R.a R.b g (R.hh D k) (D.ac R.w U) R.n:=by
 rw[D.J1];have h:=D.En R.rg R.n (Mw (sJ b c)) G g k U R.al R.rho R.w;rw[e_a,e_b]at h;rw[show D.dt R.sh (R.hh D k) R.n=_ from(D.DX (pwF R.y) (pwF (ivF R.y)) (pwF (ofF N 2)) R.z k R.n λi _=>CM (sJ b c) i)];exact h
end Rv
end
section
open Go.Shelf
section
variable {P:ai}{ops:Array Z4}{rest:List Z4}{op:Z4}{a:Act}{w w':Zl}{v:Zm}{Q:fI->Act->Zl->Prop}
def wpList_build(b:op.guard=F)(e:ZR)(n:I)(k:R (I × oF))(_:op.op=.buildSlice e n k)(c:(Z0 a.eval op).run P w=.ok (.value v) w')(h:wpList P ops Q rest (a.put op.dst v) w'):wpList P ops Q (op :: rest) a w:=
 sj b λK d=>by
  rw[ao,c];exact d _ _ h
end
variable {P:Nat}[NeZero P]
def cV:Fd:=⟨#[118,97,108,117,101]⟩
noncomputable def cmt (P:I) [NeZero P] (n m:I):EC.Pt P:=tot (λj=>if j=0 then .some (hpt P cV []) else gG P) 2 (λj=>if j=0 then(n:Y) else(m:Y))
def Dw(P:I)[NeZero P](N:I)(w:Zl)(k bs:Bs)(e:Zm)(w':Zl):Prop:=match rq N k,rq N bs with
 | some n,J m=>Lj w (wr (cmt P n m)) e w'
 | _,_=>OV 3 e
def Pf{b:Zm}{bs k:Bs}(T:ZR)(h:Arg w v bs)(e:Arg w b k):yP (w.alloc (.cells #[v,b] T)) (J (aZ w.heap.size)) 2 (λj=>if j=0 then bs else k):=λ_ =>
 ⟨w.heap.size,Z,by rw[Zy];omega,λj f=>by
  have d:=(Made.alloc w [v,b] T).range;have c:j=0\/j=1:=S;rcases c with rfl|rfl
  .exact⟨v,d 0 _ Z,h.below (aD _)⟩
  exact⟨b,d 1 _ Z,e.below (aD _)⟩⟩
def Ng:PartOk w nZ []:=⟨F,0,0,0,#[],Z,Z,Zo _,dC,Z5 Z⟩
def BQ{q:B P × B P}:Pair q.1 q.2 (.some q:EC.Pt P):=⟨Z,Z⟩
def UT(C : IO P){m:I}(hn : n < top)(hm : m < top){ns : I -> I}{xs ys : I -> B P}(h0 : ns 0 = n)(h1 : ns 1 = m)(hx0 : xs 0 = (hpt P cV []).1)(hy0 : ys 0 = (hpt P cV []).2)(hx1 : xs 1 = gX P)(hy1 : ys 1 = gY P):
    wR (ptP (jY ns xs ys 2 257)).1 (ptP (jY ns xs ys 2 257)).2 = wr (cmt P n m) := by
  have hJ := DR C (N := 2) (ns := ns) (xs := xs) (ys := ys) (p := λj => if j = 0 then(.some (hpt P cV []) : EC.Pt P) else gG P)
    (fun j hj => by have : j = 0 ∨ j = 1 := S
                    rcases this with rfl | rfl
                    · rw [h0]; exact hn
                    rw [h1]; exact hm)
    (fun j hj => by have : j = 0 ∨ j = 1 := S
                    rcases this with rfl | rfl
                    · rw [hx0, hy0]; exact BQ
                    rw [hx1, hy1]; exact BQ (q:=(gX P, gY P)))
    (fun j hj => by have : j = 0 ∨ j = 1 := S
                    rcases this with rfl | rfl
                    · exact Aq C
                    exact B6 C)
  have e1 := yL C (hJ.pair C) hJ.2;have e2 : tot (λj => if j = 0 then(.some (hpt P cV []) : EC.Pt P) else gG P) 2 (λj => (ns j : Y)) = cmt P n m := eX 2 λj hj => by
    have : j = 0 \/ j = 1 := S;rcases this with rfl | rfl
    · rw [h0]; rfl
    rw [h1]; rfl
  rw [e2]at e1;exact e1
def Fj(C:IO P)(hG:Gap 4624529908474429119 4994812053365940164 1 N)(hN:N<=top)(v0 v1:Zm)(t bs:Bs)(w:Zl)(h0:Arg w v0 t)(h1:Arg w v1 bs):
 dZ 8 #[v0,v1] w λe w'=>Dw P N w t bs e w':=by
 have hA:=Pf 22 h0 h1;obtain⟨p0,n0,c0,rfl,-,-⟩:=h0;obtain⟨p1,n1,c1,rfl,-,-⟩:=h1;have hS:=SL hG 2 2 dC _ _ _ hA;go_enter func8,ntmps8;go_wp2_with fail
 refine hS.mono ?_;rintro e l ⟨v,rfl,h7,⟨k,ht,hc,rfl,a⟩|⟨⟨j,Q,b⟩,rfl⟩⟩
 .obtain⟨n,hn,h8⟩:=a 0 dC;obtain⟨m,hm,ha⟩:=a 1 dC;have HB:=mk1 ((aD (w:=w) _).trans (h7.mono (by rw[Zy];omega)));have HK:=mk3 hc h8 ha;have O:E (rq N t=J n/\rq N bs=J m):=⟨hn,hm⟩
  go_wp2_with fail
  refine(zQ (k:=cV) (a:=F) (m:=0) (c:=0) (w:=l)).mono ?_;rintro e w2 ⟨v,rfl,rfl,rfl⟩;have hF:=B7 C cV (a:=F) (m:=0) (c:=0) (b:=[]) (w:=l) dC (Ng (w:=l));obtain⟨q,hq⟩:=hE (hpt P cV []);rw[hq.out]at hF;obtain⟨x,y⟩:=q;obtain⟨gx,T⟩:=hE (gX P);obtain⟨r,h6⟩:=hE (gY P);have A:=Hv C;rw[T.out,h6.out]at A;obtain⟨v4,V⟩:=hE (pv x y);obtain⟨v5,X⟩:=hE (pv gx r);replace hF:cZ 42 #[.func (.func 91) #[] #[jZ l.heap.size,jZ (l.heap.size+1)]] ((l.alloc (.cells #[.string cV] 9)).alloc (.cells #[nZ] 22)) (rZ l λe w'=>e=v4):=by rw[<-V.out];exact hF
  rw[X.out]at A;go_wp2_with fail
  refine hF.mono ?_;rintro e w3 ⟨v,rfl,p,rfl⟩;have h3:=mk1 (HB.out.trans (p.mono HB.out.size));have d:=mk3 (Zn HK.out.1 p.size) (aF HK.out.2.1 p HK.out.1) (aF HK.out.2.2 p HK.out.1);go_wp2_with fail
  refine(A _).mono ?_;rintro e L ⟨v,rfl,u,rfl⟩;have h4:=mk1 (h3.out.trans (u.mono h3.out.size));have f:=mk3 (Zn d.out.1 u.size) (aF d.out.2.1 u d.out.1) (aF d.out.2.2 u d.out.1);obtain⟨o,h2⟩:=hE (L.alloc (.cells ((ws x++ws y)++(ws gx++ws r)).toArray 83));go_wp2_with (refine wpList_build (v:=sZ L.heap.size 2 2) (w':=o) Z 90 2 _ Z ?_ ?_;rw[<-h2.out,<-V.out,<-X.out];kernel_rfl;refine E.out ?_)
  have M:E (kZ w o/\k<o.heap.size/\L.heap.size<o.heap.size/\(∀i,i<2->o.rangeAt k (4*i) (wn (if i=0 then n else m)))/\∀i,i<2->o.rangeAt L.heap.size (8*i) (ws (if i=0 then x else gx)++ws (if i=0 then y else r))):=by
   have c:=Made.alloc L ((ws x++ws y)++(ws gx++ws r)) 83;have hw:=h2.out;rw[hw]at c;refine⟨h4.out.trans (c.bel.mono h4.out.size),Zn f.out.1 c.bel.size,c.lt,λi W=>?_,λi W=>?_⟩
   .have:i=0\/i=1:=S;rcases this with rfl|rfl
    .exact aF f.out.2.1 c.bel f.out.1
    exact aF f.out.2.2 c.bel f.out.1
   have:i=0\/i=1:=S;rcases this with rfl|rfl
   .intro j v Q;have K:=(Zz.1 Q).1;have:=c.range j v (by rw[uo (show j<(ws x++ws y).length from K)];exact Q);exact this
   intro j v Q;have:=c.range (8+j) v (by rw[xS (show(ws x++ws y).length<=8+j from I.le_add_right 8 j),show 8+j-(ws x++ws y).length=j from xV 8 j];exact Q);rw[Zs]at this;exact this
  show wpList _ _ _ _ _ _;have hS:eZ 41 #[sZ k 2 2,sZ L.heap.size 2 2] o (pv (ptP (jY (λi=>if i=0 then n else m) (λi=>if i=0 then x else gx) (λi=>if i=0 then y else r) 2 257)).1 (ptP (jY (λi=>if i=0 then n else m) (λi=>if i=0 then x else gx) (λi=>if i=0 then y else r) 2 257)).2):=by
   refine(LL C 2 dC (λi=>if i=0 then n else m) (λi=>if i=0 then x else gx) (λi=>if i=0 then y else r) (λi W=>?_) k L.heap.size o M.out.2.1 M.out.2.2.1 M.out.2.2.2.1 M.out.2.2.2.2).mono ?_
   .have:i=0\/i=1:=S;rcases this with rfl|rfl
    .exact zH hN O.out.1
    exact zH hN O.out.2
   rintro e w' ⟨v,rfl,c,s,rfl,rfl⟩;exact⟨_,Z,c,Z⟩
  have hW:=UT C (n:=n) (m:=m) (zH hN O.out.1) (zH hN O.out.2) (ns:=λi=>if i=0 then n else m) (xs:=λi=>if i=0 then x else gx) (ys:=λi=>if i=0 then y else r) Z Z (by rw[hq.out];rfl) (by rw[hq.out];rfl) (by rw[T.out];rfl) (by rw[h6.out];rfl);generalize ptP (jY (λi=>if i=0 then n else m) (λi=>if i=0 then x else gx) (λi=>if i=0 then y else r) 2 257)=z at hS hW;have W:∀w,dZ 45 #[pv z.1 z.2] w λe w'=>nR w (wR z.1 z.2) e w':=yK C
  rw[hW]at W;go_wp2_with fail
  refine hS.mono ?_;rintro e w6 ⟨v,rfl,hk,rfl⟩;have K:=mk1 (M.out.1.trans (hk.mono M.out.1.size));go_wp2_with fail
  refine(W _).mono ?_;rintro e w7 ⟨v,rfl,hr,g,c,rfl,hg,he,h5,h9⟩;have hp:=mk1 (K.out.trans (hr.mono K.out.size));have HO:E (Dw P N w t bs (.tuple #[sZ g 33 c,iZ 0]) w7):=by
   show Dw P N w t bs (.tuple #[sZ g 33 c,iZ 0]) w7;unfold Dw;rw[O.out.1,O.out.2];exact⟨g,c,Z,hg,Zw K.out.size he,h5,h9⟩
  go_wp2
  go_ret2
  exact⟨_,Z,hp.out,HO.out⟩
 have HB:=mk1 ((aD (w:=w) _).trans (h7.mono (by rw[Zy];omega)));have HO:E (Dw P N w t bs (.tuple #[nZ,iZ 3]) l):=by
  show Dw P N w t bs (.tuple #[nZ,iZ 3]) l;unfold Dw;have:j=0\/j=1:=S;rcases this with rfl|rfl
  .have b:rq N t=F:=b;rw[b];rfl
  have b:rq N bs=F:=b;rw[b];cases rq N t<;>rfl
 go_wp2
 go_ret2
 exact⟨_,Z,HB.out,HO.out⟩
end
def FW(O:Ord N)(k:n<N):rq N (bx n)=J n:=by
 rw[rq,Dn (Zn k O.le),GD ⟨dJ n,k⟩]
def Ez(W:Zl)(v:Zm)(T:Bs):Prop:=∃g c,v=sZ g 33 c/\33<=c/\g<W.heap.size/\hZ W g 0 T
def Ez.grow{T:Bs}(h:Ez W v T)(k:kZ W W'):Ez W' v T:=by
 let⟨g,c,h1,d,b,e⟩:=h
 exact⟨g,c,h1,d,Zn b k.size,Holds.below e k b⟩
def Et(W:Zl)(v:Zm)(T:Bs):Prop:=∃u,v=.tuple #[u,iZ 0]/\Ez W u T
section
variable (w:Zl) (k2 k3 k4 a b:Nat) (T:Bs)
def RC1:I->Zm->Zl->Prop
 | 0,v,_=>v=nv a
 | 1,v,W=>El 32 W v (bx a)
 | 2,v,_=>v=nv b
 | 3,v,W=>El 32 W v (bx b)
 | 4,v,W=>Et W v T
 | 5,v,W=>Et W v T
 | 6,v,W=>Ez W v T
 | 7,v,_=>v=iZ 0
 | 8,v,W=>Ez W v T
 | 9,v,_=>v=iZ 0
 | _,_,_=>True
def GC1:Gw:=⟨RC1 a b T,λW=>Kp w W [(k4,z33),(k3,wn b),(k2,wn a)],λi v W W' k h=>by
 match i,h with
 | 0,h=>exact h
 | 1,h=>exact El.below h k (Zo _)
 | 2,h=>exact h
 | 3,h=>exact El.below h k (Zo _)
 | 4,h=>let⟨u,h1,c⟩:=h;exact⟨u,h1,c.grow k⟩
 | 5,h=>let⟨u,h1,c⟩:=h;exact⟨u,h1,c.grow k⟩
 | 6,h=>exact Ez.grow h k
 | 7,h=>exact h
 | 8,h=>exact Ez.grow h k
 | 9,h=>exact h
 | _+10,_=>trivial,λW W' k h=>h.grow k⟩
end
def rD(C:IO P)(O:Ord N){a b:I}(ha:a<N)(hb:b<N):FL 104 #[nv a,nv b] (pvl (wr (cmt P a b))):=by
 intro w;obtain⟨T,hT⟩:=hE (wr (cmt P a b));have h2:T.size=33:=by rw[<-hT.out];exact aR _
 have z:=mk3 O ha hb;have HC:E (∀(v0 v1:Zm) (W:Zl),El 32 W v0 (bx a)->El 32 W v1 (bx b)->ae prog 8 #[v0,v1] W (rZ W λe w'=>Et w' e T)):=λv0 v1 W h0 h1=>by
  apply(Fj (N:=N) C O.gap O.le v0 v1 (bx a) (bx b) W h0.arg h1.arg).mono;rintro e W' ⟨u,rfl,k,hR⟩;unfold Dw at hR;rw[FW O ha,FW O hb]at hR;obtain⟨g,c,rfl,o,t,r,f⟩:=hR;rw[hT.out]at f;exact⟨_,Z,k,_,Z,g,c,Z,o,r,f⟩
 rw[hT.out];obtain⟨va,q⟩:=hE (nv a);obtain⟨vb,p⟩:=hE (nv b);have bA:=boxS a (w:=w);obtain⟨i,m⟩:=hE (w.alloc (.cells (wn a).toArray 93));have bB:=boxS b (w:=i);obtain⟨j,l⟩:=hE (i.alloc (.cells (wn b).toArray 93));obtain⟨n,f⟩:=hE (j.alloc (.cells z33.toArray 40));rw[q.out,m.out]at bA;rw[p.out,l.out]at bB;rw[q.out,p.out];have e1:i.heap.size=w.heap.size+1:=by rw[<-m.out,Zy]
 have e2:j.heap.size=w.heap.size+2:=by rw[<-l.out,Zy,e1]
 rw[e1]at bB;have y:E (Kp w n [(w.heap.size+2,z33),(w.heap.size+1,wn b),(w.heap.size,wn a)]):=by
  have o:FJ i w.heap.size (wn a):=by rw[<-m.out];exact aE
  have t:FJ j (w.heap.size+1) (wn b):=by rw[<-l.out,<-e1];exact aE
  have r:FJ n (w.heap.size+2) z33:=by rw[<-f.out,<-e2];exact aE
  have b1:kZ w i:=by rw[<-m.out];exact aD _
  have s:kZ i j:=by rw[<-l.out];exact aD _
  have k:kZ j n:=by rw[<-f.out];exact aD _
  refine⟨(b1.trans (s.mono S)).trans (k.mono S),λx hx=>?_⟩;simp only[fT,ZJ,or_false]at hx;rcases hx with rfl|rfl|rfl
  .exact r
  .exact t.below k
  exact(o.below s).below k
 go_enter func104,ntmps104;go_wp2_with (first|(refine aI (u:=va) (v:=jZ w.heap.size) (w':=i) Z 93 (.tmp 0) Z ?_ ?_ ?_;rfl;exact(Hid.mk' bA).out)|(refine aI (u:=vb) (v:=jZ (w.heap.size+1)) (w':=j) Z 93 (.tmp 1) Z ?_ ?_ ?_;rfl;exact(Hid.mk' bB).out)|(refine bH (v:=jZ (w.heap.size+2)) (w:=j) (w':=n) Z (.alloc 40) Z ?_ ?_;(rw[<-f.out,<-(Hid.mk' e2).out];kernel_rfl))|fail)
 refine(GC1 w w.heap.size (w.heap.size+1) (w.heap.size+2) a b T).draws kR kR ⟨
  jO 2 Z u40 λx W k=>⟨w.heap.size,0,wn a,k.o 2 kR,(k.b.at 2 Z).2.1,In,Z⟩,
  fM λx W k=>⟨[(8,nv a)],130,#[nv a],⟨k.n 0 8 kR kR,Fs⟩,kR,by
   apply(tI z.1 z.2.1 W).mono;rintro e W' ⟨u,rfl,r,o,rfl⟩;exact⟨_,Z,o.bel,El.of_made o (dJ a)⟩⟩,
  jO 3 Z u40 λx W k=>⟨w.heap.size+1,0,wn b,k.o 3 kR,(k.b.at 1 Z).2.1,In,Z⟩,
  fM λx W k=>⟨[(10,nv b)],130,#[nv b],⟨k.n 2 10 kR kR,Fs⟩,kR,by
   apply(tI z.1 z.2.2 W).mono;rintro e W' ⟨u,rfl,r,o,rfl⟩;exact⟨_,Z,o.bel,El.of_made o (dJ b)⟩⟩,
  fM λx W k=>⟨[(9,x.eval (.tmp 9)),(11,x.eval (.tmp 11))],8,#[x.eval (.tmp 9),x.eval (.tmp 11)],⟨Z,Z,Fs⟩,kR,HC _ _ W (k.n 1 9 kR kR) (k.n 3 11 kR kR)⟩,
  bK λx W k=>⟨[(12,x.eval (.tmp 12))],x.eval (.tmp 12),W,⟨Z,Fs⟩,kR,ZF _ _,k.n 4 12 kR kR⟩,
  bK λx W k=>by
   obtain⟨u,o,r⟩:=show Et W (x.eval (.tmp 7)) T from k.n 5 7 kR kR
   exact⟨[(7,.tuple #[u,iZ 0])],u,W,⟨o,Fs⟩,kR,ZF _ _,r⟩,
  bK λx W k=>by
   obtain⟨u,o,r⟩:=show Et W (x.eval (.tmp 7)) T from k.n 5 7 kR kR
   exact⟨[(7,.tuple #[u,iZ 0])],iZ 0,W,⟨o,Fs⟩,kR,ZF _ _,Z⟩,
  bK λx W k=>⟨[(13,x.eval (.tmp 13))],x.eval (.tmp 13),W,⟨Z,Fs⟩,kR,ZF _ _,k.n 6 13 kR kR⟩,
  bK λx W k=>⟨[(14,iZ 0)],iZ 0,W,⟨k.n 7 14 kR kR,Fs⟩,kR,ZF _ _,Z⟩,Fs⟩ y.drew ?_
 intro V L K X;obtain⟨g,cg,M,-,k3,k4⟩:=show Ez L (V 8) T from K 8 (I.lt_of_succ_le (I.le_of_ble_eq_true kR))
 have r:=X;have s:=mk3 (r.at 0 Z) r.bl (mW k4 k3);dsimp only[cD,mi];rw[M];have h3:=JB g cg;obtain⟨n,f⟩:=hE (L.setCells (w.heap.size+2) 0 (aA T));have k:=aB h2;have y:E (FJ n (w.heap.size+2) (aA T)/\kZ w n):=by rw[<-f.out];exact⟨s.1.put (by rw[k];rfl),RG.below_setCells S _ _ _ s.2.1⟩
 obtain⟨vt,o⟩:=hE (ZM (aA T).toArray);obtain⟨d,Q,A⟩:=Zp.1 uCP;have HD:=mk2 Q A;have t:E ((prog.info? 40).map (·.size)=J (aA T).length/\L.there (w.heap.size+2) 0 (aA T).toArray.size/\(prog.info? 40).map (·.size)=J (aA T).toArray.size):=by
  have e:(aA T).toArray.size=33:=by rw[kI];exact k
  refine⟨by rw[k];exact dB,by rw[e];exact s.1.2.2,by rw[e];exact dB⟩
 go_wp2_with (first|(refine gS Z 40 _ Z g 0 ?_ (aA T) d ?_ ?_ ?_ ?_ ?_;rfl;exact s.2.2.2.1;exact HD.1;exact HD.2;exact t.1;rw[o.out])|(refine ZZ Z 40 _ _ Z (w.heap.size+2) 0 (aA T).toArray ?_ ?_ ?_ ?_ ?_ ?_;rfl;exact o.symm;exact t.2.1;exact t.2.2;exact bW;rw[show(aA T).toArray.toList=aA T from Z,f.out])|fail)
 refine Zx (aG 4 Z y.1 Z uCP t.1) Z ?_;exact⟨_,Z,y.2,Z⟩
section
open Go.Shelf
attribute [local go_sem] yED
end
section
open Go.Shelf
attribute [local go_sem] yED
end
def o33:Bs:=R.replicate 33 0
def Qv:(.agg z33.toArray:Zm)=pvl o33:=by
 unfold pvl z33 o33 aA;rw[R.toList_replicate,G.map_replicate];rfl
def Sm.mono{B B':I}{l:LB}(h:Sm B W v l)(d:B'<=B):Sm B' W v l:=by
 let⟨g,c,h1,k,e,b⟩:=h
 exact⟨g,c,h1,k,Zw d e,b⟩
def E0(x:Fk)(r:G Fk):beV (x :: r)=x.toNat*256^r.length+beV r:=by
 have h:=gI [x] r;rw[show [x]++r=x :: r from Z]at h;rw[h];simp[beV]
section
def Jw:∀(l r:G Fk),l.length=r.length->beV l=beV r->l=r
 | [],[],_,_=>rfl
 | x :: l,y :: r,hl,h=>by
  have h1:l.length=r.length:=I.succ.inj hl;rw[E0,E0,h1]at h;have b1:=Oz l;rw[h1]at b1;have k:0<256^r.length:=rj dC;have b:(x.toNat*256^r.length+beV l)/256^r.length=x.toNat:=by
   rw[ax,yFZ k,qv b1,qg]
  have d:(y.toNat*256^r.length+beV r)/256^r.length=y.toNat:=by
   rw[ax,yFZ k,qv (Oz r),qg]
  have e3:x.toNat=y.toNat:=by rw[<-b,<-d,h]
  have c:=yEk.1 e3;subst c;rw[Jw l r h1 S]
def Xs{b:Bs}(hs:b.size=32)(k:n<top)(h:beV b.toList=n):bx n=b:=by
 have:=Jw (bx n).toList b.toList (by rw[ZE,ZE,dJ,hs]) (by rw[Dn k,h]);exact R.toList_inj.1 this
variable {P:Nat}[NeZero P]
def Tx(C:IO P){m y:B P}(h:rt m=J y):y.val%2=0:=by
 have k:=Ml C (D3 h);rw[h]at k;have e:=ZV.inj k;by_cases ho:y.val%2=1
 .rw[GD ho]at e;have e3:=congrArg B.val e;have b:(0-y:B P).val=(P-y.val)%P:=by rw[<-mT,val_zero,Zs]
  rw[b]at e3;have d:=C.p3;have c:=y.isLt;rw[ZC S]at e3;omega
 omega
def Su{b:Bs}(hs:b.size=33):b=#[b[0]!]++kG b:=by
 unfold kG;apply R.ext
 .rw[R.size_append,R.size_extract,hs];rfl
 intro i h1 c;by_cases k:i=0
 .subst k;rw[R.getElem_append_left (by simp),getElem!_pos b 0 S];rfl
 rw[R.getElem_append_right (by simp;omega),R.getElem_extract]
 congr 1
 simp;omega
def S9{x:Fk}(h:ub x=2):x=2:=by
 apply yEk.1;have:(x.toNat:Y)=2:=h;show x.toNat=2;omega
def LG{x:Fk}(h:ub x=3):x=3:=by
 apply yEk.1;have:(x.toNat:Y)=3:=h;show x.toNat=3;omega
def Vo(C:IO P){b:Bs}{p:B P × B P}(h:rd P b=J p):wr (pt p)=b:=by
 have n:=Is C h;unfold rd at h;split at h
 .rename_i hs
  split at h
  .rename_i hz
   obtain rfl:=ZV.inj h;unfold pt;rw[GD ⟨Z,Z⟩];exact((mO hs).1 hz).symm
  split at h
  .rename_i hm
   split at h
   .rename_i hx
    obtain⟨y,m,rfl⟩:=Zp.1 h;have f:=D3 m;have j:=Tx C m;have d:=C.cur.y_ne (BS f);have q:y.val≠0:=λe=>d (B.ext (by rw[val_zero];exact e))
    have g:(rdx P b).val=beV (kG b).toList:=ZC hx;have c:bx (rdx P b).val=kG b:=Xs (jA hs) (C.top _) g.symm;have r:=C.p3;have o:=y.isLt;have l:(0-y:B P).val=P-y.val:=by rw[<-mT,val_zero,Zs,ZC S]
    by_cases k:ub b[0]! = 3
    .rw[GD k];unfold pt;rw[Id (λe=>by
      have:=congrArg B.val e.2;rw[val_zero,l]at this;omega)]
     show #[mark (0-y:B P).val]++bx (rdx P b).val=b;rw[c,l];unfold mark;rw[GD S,<-LG k];exact(Su hs).symm
    rw[Id k];have i:=hm.resolve_right k;unfold pt;rw[Id (λe=>d e.2)];show #[mark y.val]++bx (rdx P b).val=b;rw[c];unfold mark;rw[Id S,<-S9 i];exact(Su hs).symm
   cases h
  cases h
 cases h
end
def zB(O:Ord N)(B:I)(s t:Zm)(l m:LB)(p:0<l.length)(hl:l.length<=500)(hm:m.length<=500)(z:∀x∈l,x.2.size=33)(c:∀x∈m,x.2.size=33)(u:∀x∈m,x.1<N)(w:Zl)(hB:B<=w.heap.size)(h1:Sm B w s l)(L:Sm B w t m):
 dZ 135 #[s,t] w λe w'=>Sm w.heap.size w' e (l++m.map (tmT N (sMi N 0 1))):=by
 have r:1<N:=by have:2<=N:=Zw O.n2 (I.mod_le _ _);omega
 have k:=Hid.mk' (MY O r);have g:sMi N 0 1<N:=gD _ O.pos;generalize sMi N 0 1=o at k g⊢;have Q:E (∀W,kZ w W->dZ 128 #[t,nv o] W λe w'=>Sm W.heap.size w' e (m.map (tmT N o))):=λW q=>by
  have b:∀x∈m.map (·.2),x.size=33:=λx hx=>by obtain⟨y,d,rfl⟩:=Z1.1 hx;exact c y d
  exact eO O g B t m S b u W (L.grow q)
 have HP:E (∀W v,kZ w W->Sm w.heap.size W v (m.map (tmT N o))->dZ 101 #[s,v] W λe w'=>Sm W.heap.size w' e (l++m.map (tmT N o))):=λW v q hv=>by
  refine vK B s v l (m.map (tmT N o)) p hl (by rw[ZI];exact hm) z (λx hx=>?_) W (h1.grow q) (hv.mono hB);obtain⟨y,d,rfl⟩:=Z1.1 hx;exact c y d
 obtain⟨gs,cs,es,-⟩:=id h1;obtain⟨gt,ct,et,-⟩:=id L;subst es;subst et;let⟨v1,b⟩:=hE (nv 1)
 let⟨vo,d⟩:=hE (nv o)
 rw[b.out,d.out]at k;rw[d.out]at Q;have M:=Hid.mk' (Na);rw[b.out]at M;go_enter func135,ntmps135;go_wp2_with fail
 apply(M w).mono;rintro e T ⟨vv,rfl,i,rfl⟩;go_wp2_with fail
 apply(k T).mono;rintro e w2 ⟨vv,rfl,A,rfl⟩;have j:=mk1 (i.trans (A.mono i.size));go_wp2_with fail
 apply(Q w2 j).mono;rintro e X ⟨V,rfl,K,a⟩;have f:=mk2 (j.trans (K.mono j.size)) (a.mono j.size);go_wp2_with fail
 apply(HP X V f.1 f.2).mono;rintro e w4 ⟨v4,rfl,C,n⟩;have P:=mk2 (f.1.trans (C.mono f.1.size)) (n.mono f.1.size);go_wp2;go_ret;exact⟨_,Z,P.1,P.2⟩
def rdT(P:I)[NeZero P](bs:Bs):T3 P:=
 if bs.size=33 then if qK bs then(0,1,0) else if ub bs[0]! = 2\/ub bs[0]! = 3 then if beV (kG bs).toList<P then
  (rdx P bs,if ub bs[0]! = 3 then 0-(rt (rdx P bs*rdx P bs*rdx P bs+7)).getD 0 else(rt (rdx P bs*rdx P bs*rdx P bs+7)).getD 0,1) else(0,0,0) else(0,0,0) else(0,0,0)
def CG(C:Fl3 P)(bs:Bs):FL 15 #[.string ⟨bs⟩] (.tuple #[tv (rdT P bs),.bool (rd P bs).isSome]):=by
 intro w;unfold rdT rd;by_cases hs:bs.size=33
 .rw[GD hs,GD hs];by_cases c:qK bs
  .rw[GD c,GD c];obtain rfl:=(mO hs).1 c;exact PG C w
  rw[Id c,Id c];have b:¬bs=uW:=λh=>c ((mO hs).2 h)
  by_cases k:ub bs[0]! = 2\/ub bs[0]! = 3
  .rw[GD k,GD k];by_cases hx:beV (kG bs).toList<P
   .rw[GD hx,GD hx];have d:=(ZC hx).symm;cases e:rt (rdx P bs*rdx P bs*rdx P bs+7) with
    | none=>exact Im C bs (rdx P bs) 0 D w hs b k d (Iw C _ e)
    | some y =>
     rw[yDD];exact Im C bs (rdx P bs) y H w hs b k d (CC C _ _ e)
   rw[Id hx,Id hx];exact Ty C _ bs w hs b k (BM C (jA hs) hx)
  rw[Id k,Id k];exact PH C bs hs b _ Z (λh=>k (Z5 h)) (λh=>k (ZW h)) w
 rw[Id hs,Id hs];exact TA C bs hs w
def Gp(P:I)[NeZero P](bs:Bs):EC.Pt P:=match rd P bs with|some p=>pt p|none=>F
def IF{bs:Bs}{p:B P × B P}(h:rd P bs=J p):Gp P bs=pt p:=by unfold Gp;rw[h]
def zK(C:Fl3 P){bs:Bs}(h:(rd P bs).isSome=H):IN (rdT P bs) (Gp P bs):=by
 let⟨p,k⟩:=Z8.1 h
 rw[IF k];have e:=k;unfold rdT;unfold rd at k;split at k
 .rename_i hs
  rw[GD hs];split at k
  .rename_i hz
   rw[GD hz];obtain rfl:=ZV.inj k;unfold pt;rw[GD ⟨Z,Z⟩];exact FracT.none
  rename_i hz
  rw[Id hz];split at k
  .rename_i hm
   rw[GD hm];split at k
   .rename_i hx
    rw[GD hx];let⟨y,f,d⟩:=Zp.1 k
    have b:=D3 f;have i:=Is C.toFld e;rw[f];show IN (rdx P bs,(if ub bs[0]! = 3 then 0-y else y),1) (pt p);have g:=d.symm;have hpt:pt p=J p:=by
     unfold pt;rw[Id];rintro⟨-,c⟩;rw[g]at c;dsimp only at c;split at c
     .exact C.toFld.cur.y_ne (Gz b) c
     exact C.toFld.cur.y_ne (BS b) c
    rw[hpt,g];split
    .exact⟨kX C.toFld,Gz b⟩
    exact⟨kX C.toFld,BS b⟩
   cases k
  cases k
 cases k
omit [NeZero P] in
theorem O5:(wr (F:EC.Pt P))=o33:=by
 show uW=o33;decide +kernel
def OL(q:GJ Addr)(c:I)(w:Zl):dZ 53 #[.func (.func 11) #[] #[],.slice q 0 c] w λe w'=>∃K,e=.tuple #[sZ K 0 0,tZ]:=by
 let⟨C0,g,d⟩:=Wq 0 dC
 have k:(Instr.makeSlice 102 (iZ 0) (iZ 0)).run prog w=.ok (sZ w.heap.size 0 0) (w.alloc (.cells C0.toArray 40)):=d w;let⟨f,b⟩:∃f,E (w.alloc (.cells C0.toArray 40)=f):=⟨_,Z⟩
 rw[b.out]at k;have j:E (kZ w f):=b.out▸aD _;clear d g b;go_enter func53,ntmps53;go_wp2;clear k;go_loopg [16] 0 (λm s16 W=>s16=iZ 0/\E (kZ w W))
 exact⟨Z,j⟩;obtain⟨rfl,i⟩:=hrel;go_wp2
 go_ret2
 exact⟨_,Z,i,_,Z⟩
section
open SPA
variable {P:Nat}[NeZero P]{N:Nat}[NeZero N]
def SJ(g j:I):(⟨g,0,F⟩:Addr).add j=⟨g,j,F⟩:=by
 simp[Addr.add];exact λh=>h.symm
def PtL(Q:I->Prop)(W:Zl)(K t:I)(B:I->Bs):Prop:=∀j,j<t->Q K/\K<W.heap.size/\W.rangeAt K (33*j) (aA (B j))
def PtL.keep{K t:I}{B:I->Bs}(h:PtL Q W K t B)(k:Kq Q W W'):PtL Q W' K t B:=λj c=>by
 let⟨h1,b,e⟩:=h j c
 refine⟨h1,Zn b k.size,λi u d=>?_⟩;rw[ZP (a:=⟨K,33*j+i,F⟩) (k.block K h1 b)];exact e i u d
def PtL.mono2{K t:I}{B:I->Bs}(h:PtL Q W K t B)(d:∀g,g<W.heap.size->Q g->Q' g):PtL Q' W K t B:=λj b=>by
 let⟨h1,k,c⟩:=h j b
 exact⟨d K k h1,k,c⟩
def TlL.below{base t:I}{B:I->Bs}(h:TlL Q base t W v B)(k:kZ W W'):TlL Q base t W' v B:=h.keep (Kq.of_below k) λg b=>k.block g (h.lt b).2
def two(x y:α)(j:I):α:=if j=0 then x else y
def uIr:yZ 104:=yQ
def iIr:gZ 104 10:=gQ
def inL(c k t a b:I):G Zm:=sZ c t t :: sZ k t t :: (wn a++wn b)
def inZ:G Zm:=[nZ,nZ,U 0,U 0,U 0,U 0,U 0,U 0,U 0,U 0]
def I2{t a b:I}:(inL c k t a b).toArray.all (·.oneCell')=H:=kR
end
section
open SPA
section
variable {P:ai}{ops:Array Z4}{Q:fI->Act->Zl->Prop}{S:Array Bool->Zl->Prop}
def Yu(a:Act){d e:Tmp}(h:d≠e)(v u:Zm):(a.put (J d) v).put (J e) u=(a.put (J e) u).put (J d) v:=by
 unfold ah;dsimp only;rw[yDz _ _ h]
def anyS.calal{i:I}{l:Z4}{di dj:Tmp}{args:Array Zm}{k:Array Hc}{a:Act}{F:Zm->I->Zl->Prop}(u:ops[i]? = J o)(n:ops[j]? = J l)
 (hc:ae P f args w (Ret R1)) (L:ae P f args (w.alloc obj) (Ret X)) (O:S (k.setIfInBounds j H) (w.alloc obj))
 (h1:∀v W',R1 v W'->S (k.setIfInBounds i H) W'/\S ((k.setIfInBounds i H).setIfInBounds j H) (W'.alloc obj)/\F v W'.heap.size (W'.alloc obj)) (h2:∀v W',X v W'->S ((k.setIfInBounds i H).setIfInBounds j H) W'/\F v w.heap.size W')
 (t:∀(b:Act) (W:Zl),(Z0 b.eval l).run P W=.ok (.value (jZ W.heap.size)) (W.alloc obj))
 (h:∀v b W',F v b W'->anyS P ops Q S c ((k.setIfInBounds i H).setIfInBounds j H) ((a.put (J di) v).put (J dj) (jZ b)) W')
 (hx:∀W,(Z0 a.eval o).run P W=.ok (.enter f args) W:=by intro _;kernel_rfl) (x:∀(b:I) (W:Zl),(Z0 (a.put (J dj) (jZ b)).eval o).run P W=.ok (.enter f args) W:=by intro _ _;kernel_rfl)
 (C:i≠j:=by decide) (y:di≠dj:=by decide) (hr:ZX .any ops k=[i,j]:=by kernel_rfl) (d:ZX .any ops (k.setIfInBounds i H)=[j]:=by kernel_rfl) (z:ZX .any ops (k.setIfInBounds j H)=[i]:=by kernel_rfl)
 (m:o.guard=none:=by rfl) (p:l.guard=none:=by rfl) (r:o.dst=J di:=by kernel_rfl) (s:l.dst=J dj:=by kernel_rfl):anyS P ops Q S (c+2) k a w:=by
 refine⟨λV=>(by rw[hr]at V;cases V),λq hq=>?_⟩;rw[hr]at hq;have T:q=i\/q=j:=by simpa using hq
 rcases T with rfl|rfl
 .refine wpOp_step u λK M=>?_
  rw[GD (bI m)];unfold ao;rw[hx,un];refine hc.mono ?_;rintro e W' ⟨v,rfl,hR⟩;let⟨s1,s2,N⟩:=h1 v W' hR
  refine M _ _ ⟨s1,?_⟩;rw[r];refine anyS.step n d λK' g=>?_
  rw[GD (bI p)];unfold ao;rw[t];show K' (ah _ l.dst _) _;rw[s];exact g _ _ s2 (h v _ _ N)
 refine wpOp_step n λK M=>?_
 rw[GD (bI p)];unfold ao;rw[t];show K (a.put l.dst _) _;rw[s];refine M _ _ ⟨O,?_⟩;refine anyS.step u z λK' g=>?_
 rw[GD (bI m)];unfold ao;rw[x,un];refine L.mono ?_;rintro e W' ⟨v,rfl,hR⟩;let⟨s2,N⟩:=h2 v W' hR
 have d:=h v _ _ N;rw[yDz _ _ C]at s2 d;rw[Yu a y]at d;rw[r];exact g _ _ s2 d
end
variable {P:Nat}[NeZero P]{N:Nat}[NeZero N]
def LA{t i m:I}{L T:I->OnP P}{s:Bs}{c:B N}(C:IO P)(k:∀r:EC.Pt P,On r->mul N r=F)(f:IsP N)(v:Md.Vs Bs (OnP P))(j:m=2^(t-(i+1)))(g:chF N ((aC C k).vst (chF N) ivF t L T v i).s (L i) (T i)=(s,c)):
 (aC C k).vst (chF N) ivF t L T v (i+1)=⟨s,(aC C k).ad ((aC C k).ad ((aC C k).vst (chF N) ivF t L T v i).p ((aC C k).ac (c*c) (L i))) ((aC C k).ac (ivF (c*c)) (T i)),(aC C k).fP (ivF c) c m ((aC C k).vst (chF N) ivF t L T v i).g,(aC C k).fP c (ivF c) m ((aC C k).vst (chF N) ivF t L T v i).h⟩:=by
 have b:=UX f ((aC C k).vst (chF N) ivF t L T v i).s (L i) (T i);rw[g]at b;have d:c.val≠0:=λe=>b (by
  have:c=0:=B.ext (e.trans (yp N).symm);show(c*c).val=0;rw[this];show(0%N*(0%N))%N=0;rw[yp,DB,yp])
 rw[Md.LP,Wy f d b,j];show(aC C k).Bu (chF N) ivF (2^(t-(i+1))) (L i) (T i) ((aC C k).vst (chF N) ivF t L T v i)=_;unfold Md.Bu;rw[g]
end
section
open SPA
variable {P:Nat}[NeZero P]{N:Nat}[NeZero N]
def QR(r k g:I):Prop:=g≠r/\(g<k\/k+3<=g)
structure Lk(w W:Zl)(r k kl kr t a b n:I)(v sv:Zm)(Lb Rb:I->Bs)(L:Bs)(G H:I->LB)(U l:LB):Prop where
 on:SP.Only r 0 32 w W
 rk:r<k
 wk:w.heap.size=k
 r0:FJ W k (inL kl kr t a b)
 r1:FJ W (k+1) [jZ r]
 r2:∃e:R Zm,v=.agg e/\e.size=3/\e.all (·.oneCell')=true/\FJ W (k+2) e.toList
 pl:PtL (QR r k) W kl t Lb
 pr:PtL (QR r k) W kr t Rb
 gr:GRq (QR r k) W v n G H U
 sm:SmQ (QR r k) W sv l
 lg:hZ W r 0 L
 ls:L.size=32
section
variable {w W W':Zl}{r k kl kr t a b n:Nat}{v sv:Zm}{Lb Rb:Nat->Bs}{L:Bs}{G H:Nat->List (Nat × Bs)}{U l:List (Nat × Bs)}
def Lk.any{d:Bs}(h:Lk w W r k kl kr t a b n v sv Lb Rb L G H U l)(m:SP.Only r 0 32 w W')(kq:Kq (QR r k) W W')(c:∀g,k<=g->g<k+3->W'.heap[g]? = W.heap[g]?)(o:hZ W' r 0 d)(f:d.size=32):Lk w W' r k kl kr t a b n v sv Lb Rb d G H U l:=by
 let⟨e,i,p,e3,j⟩:=h.r2
 exact⟨m,h.rk,h.wk,eR h.r0 kq.size (c k S S),eR h.r1 kq.size (c _ S S),⟨e,i,p,e3,eR j kq.size (c _ S S)⟩,h.pl.keep kq,h.pr.keep kq,h.gr.keep kq,h.sm.keep kq,o,f⟩
def Lk.big(h:Lk w W r k kl kr t a b n v sv Lb Rb L G H U l):k+3<=W.heap.size:=by
 obtain⟨e,-,-,-,c⟩:=h.r2;exact c.1
def Lk.grow(h:Lk w W r k kl kr t a b n v sv Lb Rb L G H U l)(c:kZ W W'):Lk w W' r k kl kr t a b n v sv Lb Rb L G H U l:=by
 have d:=Holds.lt h.lg (by rw[h.ls];decide);exact h.any (h.on.trans (SP.Only.of_below c Z d)) (Kq.of_below c) (λg h1 e=>c.block g (oN h.big)) (Holds.below h.lg c d) h.ls
def Lk.drew(h:Lk w W r k kl kr t a b n v sv Lb Rb L G H U l):Lk w W.drew r k kl kr t a b n v sv Lb Rb L G H U l:=h.grow ⟨Z,Z,Z,Zo _,λ_ _=>rfl⟩
def Lk.say{c:Bs}(h:Lk w W r k kl kr t a b n v sv Lb Rb L G H U l)(d:SP.Only r 0 32 W W')(f:hZ W' r 0 c)(hl:c.size=32):Lk w W' r k kl kr t a b n v sv Lb Rb c G H U l:=by
 have i:=h.rk;exact h.any (h.on.trans d) (Kq.of_only d λg e=>e.1) (λg h1 j=>d.block g (oN h.big) S) f hl
def Lk.qn(h:Lk w W r k kl kr t a b n v sv Lb Rb L G H U l):∀g,W.heap.size<=g->QR r k g:=λg c=>⟨by have:=h.rk;have:=h.big;omega,ZW (oN h.big)⟩
def Lk.hide{c:Zm}(h:Lk w W r k kl kr t a b n v sv Lb Rb L G H U l)(hs:SmQ (QR r k) W c l'):Lk w W r k kl kr t a b n v c Lb Rb L G H U l':=⟨h.on,h.rk,h.wk,h.r0,h.r1,h.r2,h.pl,h.pr,h.gr,hs,h.lg,h.ls⟩
def Lk.next{f:I}{i m:I->LB}(h:Lk w W r k kl kr t a b n v sv Lb Rb L G H U l)(s:GRq (QR r k) W (.agg e) f i m U)(j:e.size=3)(x:e.all (·.oneCell')=true):Lk w (W.setCells (k+2) 0 e.toList) r k kl kr t a b f (.agg e) sv Lb Rb L i m U l:=by
 have c:∀g,g≠k+2->(W.setCells (k+2) 0 e.toList).heap[g]? = W.heap[g]?:=λg o=>aM _ 0 W g o
 have d:W.heap.size<=(W.setCells (k+2) 0 e.toList).heap.size:=by rw[setCells_size];exact Zo _
 have kq:Kq (QR r k) W (W.setCells (k+2) 0 e.toList):=⟨d,λg q _=>c g (oN q.2)⟩
 have p:=h.rk;obtain⟨y,-,u,-,r2⟩:=h.r2;exact⟨DY h.on h.wk h.rk S,h.rk,h.wk,eR h.r0 d (c k S),eR h.r1 d (c _ S),⟨e,Z,j,x,r2.put (by rw[ZE,ZE,j,u])⟩,h.pl.keep kq,h.pr.keep kq,s.keep kq,h.sm.keep kq,NC h.lg (c r S),h.ls⟩
end
def XD{t a b:I}:(aj 104 (.agg (inL c k t a b).toArray)).run prog w=.ok (jZ w.heap.size) (w.alloc (.cells (inL c k t a b).toArray 104)):=kR
def uPL:wZ 102:=wQ
def Ii{p:Bs}(k:FJ W g (wn n++aA p))(b:Q g):SmQ Q W (sZ g 1 1) [(n,p)]:=by
 have e:aU [(n,p)]=wn n++aA p:=by unfold aU;simp
 refine⟨g,1,Z,Zo _,b,k.1,?_⟩;rw[e];exact k.2.1
def GL{k:ai}{ev:oF->Zm}{I:Sem Zm}(h:I.run k w=.ok v w)(b:Z0 ev o=I >>= λv=>pure (pi v):=by kernel_rfl):(Z0 ev o).run k w=.ok (.value v) w:=by
 rw[b,ZK,h];rfl
def Lk.rd{e d t a b:I}{f Rb:I->Bs}{L:Bs}{G H:I->LB}{U l:LB}(h:Lk w W r k e d t a b n v p f Rb L G H U l)(c:SP.Only r 0 32 W W'){i:I}(j:i<t):
 W'.rangeAt (k+1) 0 [jZ r]/\W'.cell? ⟨k,0,F⟩=J (sZ e t t)/\W'.cell? ⟨k,1,F⟩=J (sZ d t t)/\W'.rangeAt e (0+33*i) (aA (f i))/\W'.rangeAt d (0+33*i) (aA (Rb i)):=by
 have o:=h.rk;have kq:Kq (QR r k) W W':=Kq.of_only c λg m=>m.1
 rw[Zs];exact⟨(h.r1.only c S).2.1,(h.r0.only c S).2.1 0 _ Z,(h.r0.only c S).2.1 1 _ Z,((h.pl.keep kq) i j).2.2,((h.pr.keep kq) i j).2.2⟩
def Wp(h:1<N):(-1:B N).val=sMi N 0 1:=by
 have h1:(1:B N).val=1:=by
  show 1%N=1;exact ZC h
 have k:(-1:B N).val=(N-(1:B N).val)%N:=B.val_neg' _;rw[k,h1];unfold sMi;rw[Zs]
omit [NeZero N] in
theorem O4(C:IO P){X:EC.Pt P}(d:On X):wr X=o33↔X=F:=by
 rw[<-O5 (P:=P)];refine⟨λh=>?_,λh=>by rw[h]⟩;let⟨p,h1,k⟩:=Ir C d
 let⟨q,c,b⟩:=Ir C (kJ (P:=P))
 rw[h,c]at h1;injection h1 with h1
 rw[<-k,<-b,h1]
def WQ(C:IO P)(O:Ord N)(k:∀r:EC.Pt P,On r->mul N r=F)(M:IsP N){G H:I->LB}{U l:LB}{g h:I->OnP P}{u p:OnP P}(T:0<c)(y:c<=64)(hG:Gd N 1 c G g)(w:Gd N 1 c H h)(q:Tl N U u)(z:0<U.length)(L:U.length<=16)(hl:Tl N l p)(x:l.length<=200)(a b:B N):
 ∃l' f Y,Y.size=33/\(Y=o33↔p=(aC C k).ad ((aC C k).ad ((aC C k).ac a (g 0)) ((aC C k).ac b (h 0))) ((aC C k).ac (a*b) u))/\(∀(W:Zl) (v va m:Zm),GRq Q W v 1 G H U->SLq Q W va 1 (λ_=>a.val)->SLq Q W m 1 (λ_=>b.val)->dZ 134 #[v,va,m] W λe w'=>Sm W.heap.size w' e l') /\
  (∀(W:Zl) (s n:Zm),Sm 0 W s l'->Sm 0 W n l->dZ 135 #[s,n] W λe w'=>Sm W.heap.size w' e f) /\
  (∀(W:Zl) (v:Zm),Sm 0 W v f->eZ 103 #[v] W (pvl Y)):=by
 have A:=wH (by decide:0<1) T S hG w q z L;let⟨hT,f⟩:=ND C k hG w q (d:=U.length) Z (λ_=>a) (λ_=>b)
 rw[<-lQ]at hT f;have j:=hT.app C k (hl.tm C k (-1));rw[Wp M.1]at j;have t:=(aC C k).Te ((aC C k).hd (λ_=>a) (λ_=>b) g h u 1) p;rw[(aC C k).NF (λ_=>a) (λ_=>b) g h u]at t j;refine⟨_,_,_,aR _,(O4 C (Subtype.property _)).trans ((Subtype.ext_iff (a2:=(aC C k).zo)).symm.trans t),λW v va m h1 o K=>I5 O 1 c G H U A _ _ (λi _=>a.isLt) (λi _=>b.isLt) v va m W h1 o K,λW s n h1 o=>zB O 0 s n _ l (by rw[f];omega) (by rw[f];omega) S hT.ok.sz hl.ok.sz hl.ok.lt W (pj _) h1 o,λW v hv=>?_⟩;exact j.point C O k (by rw[Zv,f];omega) (by rw[Zv,ZI,f];omega) hv
def So{a b:Bs}(k:a.size=33)(d:b.size=33):(binOp .eql 40 (pvl a) (pvl b)).run prog w=.ok (.bool (decide (a=b))) w:=by
 have c:(binOp .eql 40 (pvl a) (pvl b)).run prog w=(Op.equal 40 (pvl a) (pvl b) >>= λb=>pure (Value.bool b)).run prog w:=rfl;rw[c,ZK,show(Op.equal 40 (pvl a) (pvl b)).run prog w=.ok (decide (a=b)) w from WW k d w];rfl
def Xw:(pg 109 1 #[(0,nv n)]).run prog w=.ok (sZ w.heap.size 1 1) (w.alloc (.cells (wn n).toArray 93)):=kR
def VO(k:FJ W g (wn n))(b:Q g):SLq Q W (sZ g 1 1) 1 (λ_=>n):=⟨g,0,1,Z,Zo _,b,k.1,λj c=>by
 have:j=0:=S;subst this;exact k.2.1⟩
def PN(C:IO P)(O:Ord N)(f:∀r:EC.Pt P,On r->mul N r=none)(hP:IsP N)(t:Nat)(ht:t<=6)(L K:Nat->OnP P)(v0:Md.Vs Bs (OnP P))(u:OnP P)(G0 H0:Nat->LB)(U l0:LB)(e4:Gd N (2^t) 1 G0 v0.g)(dp:Gd N (2^t) 1 H0 v0.h)(hU:Tl N U u)(dx:0<U.length)(da:U.length<=16)(b6:Tl N l0 v0.p)(cg:0<l0.length/\l0.length<=150)
 (q Rb:Nat->Bs) (ed:∀j,q j=wP (L j)) (dw:∀j,Rb j=wP (K j)) (r A M:Nat) (a b:Fin N) (n sv:Zm) (w:Zl) (hL:hZ w r 0 v0.s) (c7:v0.s.size=32) (V:PtL (·≠r) w A t q) (X:PtL (·≠r) w M t Rb) (hv:GRq (·≠r) w n (2^t) G0 H0 U) (hs:SmQ (·≠r) w sv l0) (Bd:Hc) (ds:Bd=true↔(aC C f).Fq u a b ((aC C f).vst (chF N) ivF t L K v0 t)) :
 cZ 61 #[.agg (inL A M t a.val b.val).toArray,lgV r,n,sv] w (Ret λe w'=>SP.Only r 0 32 w w'/\e=.bool Bd):=by
 have hr:=Holds.lt hL (by rw[c7];decide);obtain⟨k,hk⟩:=hE (w.heap.size);obtain⟨e0,d6,dd,ec⟩:=hv.ar;subst d6;obtain⟨w1,k6⟩:=hE (lZ w (inL A M t a.val b.val) 104);obtain⟨w2,kb⟩:=hE (w1.alloc (.cells #[jZ r] 118));obtain⟨w3,ko⟩:=yH (w2.alloc (.cells e0 126));have z1:w1.heap.size=k+1:=by rw[<-k6.out,Zy,hk.out]
 have z2:w2.heap.size=k+2:=by rw[<-kb.out,Zy,z1]
 have dy:r<k:=hk.out▸hr;have K3:E (Lk w w3 r k A M t a.val b.val (2^t) (.agg e0) sv q Rb v0.s G0 H0 U l0):=by
  have b1:kZ w w1:=k6.out▸aD _;have b2:kZ w1 w2:=kb.out▸aD _;have o:kZ w2 w3:=ko.out▸aD _;have r1:FJ w1 k (inL A M t a.val b.val):=k6.out▸hk.out▸aE (w:=w);have r2:FJ w2 (k+1) [jZ r]:=by rw[<-kb.out,<-z1];exact aE (w:=w1)
  have r3:FJ w3 (k+2) e0.toList:=by rw[<-ko.out,<-z2];exact aE (w:=w2) (c:=e0.toList) (T:=126)
  have bb:kZ w w3:=(b1.trans (b2.mono b1.size)).trans (o.mono (Zw b1.size b2.size));have n:∀g,g<w.heap.size->g≠r->QR r k g:=λg hg ei=>⟨ei,Z5 (hk.out▸hg)⟩
  have kq:∀ {Q:Nat->Prop},Kq Q w w3:=Kq.of_below bb;have T:SmQ (QR r k) w sv l0:=by
   obtain⟨g,c,h1,h2,h3,h4,h5⟩:=hs;exact⟨g,c,h1,h2,n g h4 h3,h4,h5⟩
  exact⟨SP.Only.of_below bb Z hr,dy,hk,(r1.below b2).below o,r2.below o,⟨e0,Z,dd,ec,r3⟩,(V.mono2 n).keep kq,(X.mono2 n).keep kq,(hv.mono2 n).keep kq,T.keep kq,Holds.below hL bb hr,c7⟩
 obtain⟨vI,hvI⟩:=hE (ZM (inL A M t a.val b.val).toArray);obtain⟨vl,bp⟩:=hE (lgV r);obtain⟨vG,bu⟩:=hE (ZM e0);have B1:E ((aj 104 vI).run prog w=.ok (jZ k) w1):=hvI.out▸k6.out▸hk.out▸XD (c:=A) (k:=M) (t:=t) (a:=a.val) (b:=b.val) (w:=w);have B2:E ((aj 118 vl).run prog w1=.ok (jZ (k+1)) w2):=by rw[<-bp.out,<-kb.out,<-z1];exact U2 r w1
 have B3:E ((aj 126 vG).run prog w2=.ok (jZ (k+2)) w3):=by
  obtain⟨n,a2,T,o⟩:∃a b c,e0=#[a,b,c]:=by
   obtain⟨x1,x2,V,e,-⟩:=hv.ex;injection e with e
   exact⟨x1,x2,V,e⟩
  rw[<-bu.out,<-ko.out,<-z2,o];exact Ow (b:=n) (k:=a2) (c:=T) (w:=w2)
 have K4:E (∃v G H l,Gd N (2^(t-0)) (2^0) G ((aC C f).vst (chF N) ivF t L K v0 0).g/\Gd N (2^(t-0)) (2^0) H ((aC C f).vst (chF N) ivF t L K v0 0).h/\Tl N l ((aC C f).vst (chF N) ivF t L K v0 0).p/\l.length=l0.length+2*0/\Lk w w3 r k A M t a.val b.val (2^(t-0)) v sv q Rb ((aC C f).vst (chF N) ivF t L K v0 0).s G H U l):=⟨_,G0,H0,l0,e4,dp,b6,Z,K3⟩
 have h6:E ((∀j,q j=wP (L j))/\∀j,Rb j=wP (K j)):=⟨ed,dw⟩
 have X:=mk7 C O hP hU dx da ht;have b8:=Hid.mk' cg;clear cg;have ct:=Hid.mk' ds;have c0:=K3.r0.2.1 0 _ Z;rw[hvI.out,bp.out,bu.out];go_enter func61,ntmps61;go_wp2_with (first|(refine aI (u:=vI) (v:=jZ k) (w':=w1) Z 104 (.tmp 0) Z ?_ ?_ ?_;rfl;exact B1)|(refine aI (u:=vl) (v:=jZ (k+1)) (w':=w2) Z 118 (.tmp 1) Z ?_ ?_ ?_;rfl;exact B2)|(refine aI (u:=vG) (v:=jZ (k+2)) (w':=w3) Z 126 (.tmp 2) Z ?_ ?_ ?_;rfl;exact B3)|fail)
 go_loopg [3,16] t (λm s3 s16 W=>∃i:Nat,i+m=t/\s16=iZ i/\E (∃v G H l,Gd N (2^(t-i)) (2^i) G ((aC C f).vst (chF N) ivF t L K v0 i).g/\Gd N (2^(t-i)) (2^i) H ((aC C f).vst (chF N) ivF t L K v0 i).h/\Tl N l ((aC C f).vst (chF N) ivF t L K v0 i).p/\l.length=l0.length+2*i/\Lk w W r k A M t a.val b.val (2^(t-i)) v s3 q Rb ((aC C f).vst (chF N) ivF t L K v0 i).s G H U l))
 exact⟨0,S,Z,K4⟩;obtain⟨i,ek,rfl,KM⟩:=hrel;by_cases hi:i<t
 .have e8:(i:Int)<(t:Int):=S;obtain⟨v,G,H,l,hG,hH,hl,kt,hR⟩:=KM;have HI:=Hid.mk' hi;obtain⟨m,hm⟩:∃m,m=2^(t-(i+1)):=⟨_,Z⟩
  have bc:2^(t-i)=m+m:=by rw[hm,show t-i=t-(i+1)+1 by omega,oB];omega
  have bi:0<m:=by rw[hm];exact rj dC
  obtain⟨c,hc⟩:∃c,c=2^i:=⟨_,Z⟩
  have k7:0<c:=by rw[hc];exact rj dC
  have cj:c*(m+m)<=64:=by
   rw[<-bc,hc,<-Nat.pow_add,show i+(t-i)=t by omega];exact Zw (qp dC X.2.2.2.2.2.2) dC
  have HE:E (2^(t-(i+1))=m/\2^(i+1)=c+c):=⟨hm.symm,by rw[oB,hc];omega⟩
  rw[bc,<-hc]at hG hH;rw[bc]at hR;have e1:=λ(s:Bs) (x:Fin N)=>LA C f X.2.2.1 (t:=t) (L:=L) (T:=K) v0 (i:=i) (m:=m) hm (s:=s) (c:=x)
  obtain⟨sx,n,kw,ke⟩:=Od X.2.1 X.2.2.1 r ((aC C f).vst (chF N) ivF t L K v0 i).s (A:=(L i)) (B:=(K i)) (X:=(q i)) (Y:=(Rb i)) (h6.1 i) (h6.2 i);have br:=e1 sx n kw.1;have HS:=Hid.mk' br;have dk:(q i).size=33:=by rw[h6.1 i];exact aR _
  have d7:(Rb i).size=33:=by rw[h6.2 i];exact aR _
  have k8:=Hid.mk' (gF dk d7);generalize dz:(aC C f).vst (chF N) ivF t L K v0 i=Vi at hG hH hl hR kw ke HS;have HG:=Hid.mk' (gF hG (gF hH (gF hl (gF kt (gF bi (gF k7 cj))))));clear hG hH hl kt bi k7 cj dz;have HR:=Hid.mk' hR;clear hR;go_wp2_with fail
  have R0:=HR.drew;have hq:=λ(W:Zl) (hO:SP.Only r 0 32 wr.drew W)=>R0.rd hO HI
  have O0:SP.Only r 0 32 wr.drew wr.drew:=SP.Only.of_below (ZF _ _) Z (Holds.lt R0.lg (by rw[R0.ls];decide));obtain⟨dL,bh,d1⟩:=Zp.1 uLg;obtain⟨dP,kf,kn⟩:=Zp.1 uCP;have bv:(prog.info? 40).map (·.size)=J (aA (q i)).length:=by rw[aB k8.1];exact iCP
  have bf:(prog.info? 40).map (·.size)=J (aA (Rb i)).length:=by rw[aB k8.2];exact iCP
  refine anyS.begin (λ_ W=>SP.Only r 0 32 wr.drew W) kR ?_;have bS:∀(p:Nat),Bef (λ_ W=>SP.Only r 0 32 wr.drew W) p wr.drew:=λp=>⟨#[],by simp,O0⟩
  refine anyS.row (i:=0) (d:=J 19) (cs:=[jZ r]) Z 13 (λ_ _ h=>h) 118 5 (k+1) 0 dL Z bh d1 iLg (λW ⟨l,e,h⟩=>(hq W h).1) (bS 13) O0 ?_;simp only[ah,Zr,Zt,Zu];refine anyS.val (i:=1) (d:=J 20) (x:=jZ k) Z 13 (λ_ _ h=>h) (bS 13) O0 ?_;simp only[ah,Zr,Zt,Zu];refine anyS.cel (i:=2) (d:=J 21) (x:=sZ A t t) Z 13 (λ_ _ h=>h) 102 20 k 0 Z uPL (λW ⟨l,e,h⟩=>(hq W h).2.1) (bS 13) O0 ?_;simp only[ah,Zr,Zt,Zu];refine anyS.val (i:=3) (d:=J 22) (x:=iZ i) Z 13 (λ_ _ h=>h) (bS 13) O0 ?_;simp only[ah,Zr,Zt,Zu];refine anyS.val (i:=4) (d:=J 23) (x:=oZ A (0+33*i)) Z 13 (λ_ _ h=>h) (bS 13) O0 ?_ (λW=>GL (I:=iB 102 (sZ A t t) (iZ i)) (atP (k:=A) (o:=0) (n:=t) (c:=t) (i:=i) HI W));simp only[ah,Zr,Zt,Zu];refine anyS.row (i:=5) (d:=J 24) (cs:=aA (q i)) Z 13 (λ_ _ h=>h) 40 23 A (0+33*i) dP Z kf kn bv (λW ⟨l,e,h⟩=>(hq W h).2.2.2.1) (bS 13) O0 ?_;simp only[ah,Zr,Zt,Zu];refine anyS.val (i:=6) (d:=J 25) (x:=oZ k 1) Z 13 (λ_ _ h=>h) (bS 13) O0 ?_;simp only[ah,Zr,Zt,Zu];refine anyS.cel (i:=7) (d:=J 26) (x:=sZ M t t) Z 13 (λ_ _ h=>h) 102 25 k 1 Z uPL (λW ⟨l,e,h⟩=>(hq W h).2.2.1) (bS 13) O0 ?_;refine anyS.val (i:=8) (d:=J 27) (x:=iZ i) Z 13 (λ_ _ h=>h) (bS 13) O0 ?_;refine anyS.val (i:=9) (d:=J 28) (x:=oZ M (0+33*i)) Z 13 (λ_ _ h=>h) (bS 13) O0 ?_ (λW=>GL (I:=iB 102 (sZ M t t) (iZ i)) (atP (k:=M) (o:=0) (n:=t) (c:=t) (i:=i) HI W));refine anyS.row (i:=10) (d:=J 29) (cs:=aA (Rb i)) Z 13 (λ_ _ h=>h) 40 28 M (0+33*i) dP Z kf kn bf (λW ⟨l,e,h⟩=>(hq W h).2.2.2.2) (bS 13) O0 ?_;have hn:r<wr.drew.heap.size:=Holds.lt R0.lg (by rw[R0.ls];decide);have bA:=aD (w:=wr.drew) (.cells #[uZ 0,uZ 0,uZ 0,uZ 0] 93);have oA:SP.Only r 0 32 wr.drew (wr.drew.alloc (.cells #[uZ 0,uZ 0,uZ 0,uZ 0] 93)):=SP.Only.of_below bA Z hn;refine anyS.calal (i:=11) (j:=12) (di:=30) (dj:=10) (obj:=.cells #[uZ 0,uZ 0,uZ 0,uZ 0] 93) (F:=λv b W'=>v=nv n.val/\SP.Only r 0 32 wr.drew W'/\hZ W' r 0 sx/\wr.drew.heap.size<=b/\FJ W' b [uZ 0,uZ 0,uZ 0,uZ 0]) Z Z (ke wr.drew R0.lg R0.ls) (ke _ (Holds.below R0.lg bA hn) R0.ls) oA ?_ ?_ (by intro _ _;kernel_rfl) ?_
  .rintro v W' ⟨hO,hH,rfl⟩;have bb:=aD (w:=W') (.cells #[uZ 0,uZ 0,uZ 0,uZ 0] 93);have o:=Zn hn hO.size;exact⟨hO,hO.trans (SP.Only.of_below bb Z o),Z,hO.trans (SP.Only.of_below bb Z o),Holds.below hH bb o,hO.size,aE (w:=W')⟩
  .rintro v W' ⟨hO,hH,rfl⟩;exact⟨oA.trans hO,Z,oA.trans hO,hH,Zo _,(aE (w:=wr.drew) (c:=[uZ 0,uZ 0,uZ 0,uZ 0]) (T:=93)).only hO (Nat.ne_of_gt hn)⟩
  rintro xv kc W4 ⟨rfl,c3,bq,ka,kp⟩;have b7:SP.Only r 0 32 wr.drew (W4.setCells kc 0 (wn n.val)):=bU c3 hn ka (q:=0);refine anyS.sta (i:=13) (d:=none) Z 93 (.tmp 10) (.tmp 30) Z kc 0 (wn n.val).toArray aK kp.2.2 nSc b7 ?_;simp only[ah,Zr,Zt,Zu];refine anyS.fin kR ?_ _;intro W5 cn;have k1:=cn;have R5:Lk w W5 r k A M t a.val b.val (m+m) v u3 q Rb sx G H U l:=by rw[k1];exact R0.say b7 (gU bq S) kw.2
  have r5:FJ W5 kc (wn n.val):=by rw[k1];exact kp.put Z
  obtain⟨x,hp⟩:=hE (n.val);obtain⟨T,he⟩:=hE ((n*n).val);obtain⟨xi,hw⟩:=hE ((ivF (n*n)).val);have eg:E (∀W:Zl,eZ 113 #[nv x,nv x] W (nv T)):=by
   rw[<-hp.out,<-he.out];exact λW=>kA X.2.1 n.val n.val n.isLt n.isLt W
  have e5:E (∀W:Zl,eZ 125 #[nv T] W (nv xi)):=by
   rw[<-he.out,<-hw.out];exact λW=>xZ X.2.1 (n*n).val (n*n).isLt W
  rw[hp.out]at r5;rw[hp.out];have K5:=Hid.mk' (gF R5 r5);clear R5 r5 k1 cn b7 c3 bq ka kp R0 hq O0 oA bA hn HR ke;obtain⟨vx,k3⟩:=hE (nv x);have d2:E (∀W:Zl,eZ 113 #[vx,vx] W (nv T)):=k3.out▸eg;obtain⟨dS,kg,ki⟩:=Zp.1 rSc;rw[k3.out];go_wp2_with (first|(refine ldR 10 K5.2.2.1 k3 rSc nSc ?_)|fail)
  apply(d2 W5).mono;rintro e W6 ⟨uu,rfl,c6,rfl⟩;obtain⟨kx,k2⟩:=hE (W6.heap.size);obtain⟨W7,cz⟩:=hE (W6.alloc (.cells #[uZ 0,uZ 0,uZ 0,uZ 0] 93));obtain⟨W8,b4⟩:=hE (W7.setCells kx 0 (wn T));have F7:E (FJ W7 kx [uZ 0,uZ 0,uZ 0,uZ 0]/\kZ W6 W7):=by rw[<-cz.out,<-k2.out];exact⟨aE (w:=W6),aD _⟩
  have c5:kZ W5 W8:=by
   have:kZ W6 W8:=by rw[<-b4.out];exact RG.below_setCells (k2.out▸Zo _) _ _ _ F7.2
   exact c6.trans (this.mono c6.size)
  have K8:E (Lk w W8 r k A M t a.val b.val (m+m) v u3 q Rb sx G H U l/\FJ W8 kc (wn x)/\FJ W8 kx (wn T)):=⟨K5.1.grow c5,K5.2.below c5,b4.out▸F7.1.put Z⟩
  obtain⟨vq,ba⟩:=hE (nv T);rw[ba.out];go_wp2_with (first|(refine alR 11 k2 cz ?_)|(refine stR 11 b4 ba F7.1.2.2 nSc (aK (n:=T)) ?_)|fail)
  have e7:∀(W:Zl),kZ W8 W->∀g,W.heap.size<=g->QR r k g:=λW o g hg=>K8.1.qn g (Zw o.size hg)
  have o8:∀(W:Zl),kZ W8 W->SP.Only r 0 32 W8 W:=λW o=>SP.Only.of_below o Z (Holds.lt K8.1.lg (by rw[K8.1.ls];decide))
  have k5:=Hid.mk' (λ(W:Zl) (o:kZ W8 W)=>K8.1.rd (o8 W o) HI);have k4:=Hid.mk' e7;have tk:=HG.2.2.1.ok;have cd:TOk N [(T,q i)]:=by rw[<-he.out,h6.1 i];exact(Tl.pt C f (n*n) (L i)).ok
  have e6:TOk N [(xi,Rb i)]:=by rw[<-hw.out,h6.2 i];exact(Tl.pt C f (ivF (n*n)) (K i)).ok
  have ej:l.length<=200:=by have:=HG.2.2.2.1;have:=X.2.2.2.2.2.2;have:=HI;have:=b8.2;omega
  have b6:0<l.length:=by have:=HG.2.2.2.1;have:=b8.1;omega
  have cu:=Hid.mk' (λW=>mI (q i) k8.1 T W);have c4:=Hid.mk' (λW=>mI (Rb i) k8.2 xi W);have bm:=Hid.mk' (λ(s1 s2:Zm) (W:Zl) (h1:Sm 0 W s1 l) (h2:Sm 0 W s2 [(T,q i)])=>vK 0 s1 s2 l [(T,q i)] b6 S (by simp) tk.sz cd.sz W h1 h2);have d4:=Hid.mk' (λ(s1 s2:Zm) (W:Zl) (h1:Sm 0 W s1 (l++[(T,q i)])) (h2:Sm 0 W s2 [(xi,Rb i)])=>vK 0 s1 s2 (l++[(T,q i)]) [(xi,Rb i)] (by simp) (by simp;omega) (by simp) (tk.app cd).sz e6.sz W h1 h2);rw[<-ba.out];refine(gwL [pE u3,pE (jZ k),pE (sZ A t t),pE (iZ i),pE (oZ A (0+33*i)),pE (pvl (q i)),pE (nv T),pM (QR r k) [(T,q i)],pM (QR r k) (l++[(T,q i)]),pE (oZ k 1),pE (sZ M t t),pE (iZ i),pE (oZ M (0+33*i)),pE (pvl (Rb i)),pE (nv T),pE (nv xi),pM (QR r k) [(xi,Rb i)],pM (QR r k) (l++[(T,q i)]++[(xi,Rb i)])] (λW=>kZ W8 W) (λW W' hb h=>h.trans (hb.mono h.size))).tail2 18 kR kR kR ⟨
   RG.gO 3 u3,
   RG.gO 4 (jZ k),
   uI (T:=102) 1 35 k 0 (sZ A t t) uPL (λx W h=>h) (λW o=>(k5 W o).2.1) (λ_=>rfl),
   RG.gO 9 (iZ i),
   RG.gX 2 36 3 37 (atP (k:=A) (o:=0) (n:=t) (c:=t) (i:=i) HI),
   gLr 4 38 (λW o=>(k5 W o).2.2.2.1) uCP bv,
   gLo 11 (λW o=>aF K8.2.2.2.1 o K8.2.2.1) rSc nSc,
   eT 5 39 6 40 100 (λx y=>#[x,y]) (λz y W hx hy o=>by
    obtain rfl:z=pvl (q i):=hx;obtain rfl:y=nv T:=hy;apply(cu W).mono;rintro e W' ⟨uu,rfl,hb,g,rfl,hg,V⟩;exact⟨_,Z,hb,Ii V (k4 W o g hg)⟩),
   eT 0 34 7 41 101 (λx y=>#[x,y]) (λz y W hx hy o=>by
    obtain rfl:z=u3:=hx;have hy:=hy;apply(bm z y W ((K8.1.grow o).sm.sm) hy.sm).mono;rintro e W' ⟨uu,rfl,hb,hs⟩;exact⟨_,Z,hb,hs.q.mono λg hg=>k4 W o g hg⟩),
   gP 4 (jZ k) (oZ k 1),
   uI (T:=102) 9 43 k 1 (sZ M t t) uPL (λx W h=>h) (λW o=>(k5 W o).2.2.1) (λ_=>rfl),
   RG.gO 9 (iZ i),
   RG.gX 10 44 11 45 (atP (k:=M) (o:=0) (n:=t) (c:=t) (i:=i) HI),
   gLr 12 46 (λW o=>(k5 W o).2.2.2.2) uCP bf,
   gLo 11 (λW o=>aF K8.2.2.2.1 o K8.2.2.1) rSc nSc,
   xH 14 48 125 (λx=>#[x]) (λz W hx o=>by
    obtain rfl:z=nv T:=hx;exact e5 W),
   eT 13 47 15 49 100 (λx y=>#[x,y]) (λz y W hx hy o=>by
    obtain rfl:z=pvl (Rb i):=hx;obtain rfl:y=nv xi:=hy;apply(c4 W).mono;rintro e W' ⟨uu,rfl,hb,g,rfl,hg,V⟩;exact⟨_,Z,hb,Ii V (k4 W o g hg)⟩),
   eT 8 42 16 50 101 (λx y=>#[x,y]) (λz y W hx hy o=>by
    have hx:=hx;have hy:=hy;apply(d4 z y W hx.sm hy.sm).mono;rintro e W' ⟨uu,rfl,hb,hs⟩;exact⟨_,Z,hb,hs.q.mono λg hg=>k4 W o g hg⟩),Fs⟩ (ZF _ _).drew ?_
  intro V W9 bj ku;have km:=bj 17 dC;have K9:=mk2 ((K8.1.grow ku).hide km) (K8.2.1.below ku);dsimp only[cD,mi,r9,tr];generalize V 17=s17 at K9⊢;clear km bj ku K8 k5 k4 cu c4 bm d4;generalize V 0=y0;generalize V 1=y1;generalize V 2=y2;generalize V 3=y3;generalize V 4=y4;generalize V 5=y5;generalize V 6=y6;generalize V 7=y7;generalize V 8=y8;generalize V 9=y9;generalize V 10=ya;generalize V 11=yb;generalize V 12=yc;generalize V 13=yd;generalize V 14=ye;generalize V 15=yf;generalize V 16=yg;clear V;obtain⟨ev,kd,h7,kh,h9⟩:=K9.1.r2;have c8:GOk N (m+m) c G H U:=wH (oN HG.2.2.2.2.1) HG.2.2.2.2.2.1 HG.2.2.2.2.2.2 HG.1 HG.2.1 X.2.2.2.1 X.2.2.2.2.1 X.2.2.2.2.2.1;obtain⟨xo,kk⟩:=yH ((ivF n).val);have d0:x<N:=hp.out▸n.isLt;have cf:sIn N x=xo:=by rw[<-hp.out,<-kk.out];rfl
  have k9:=Jb X.2.1 m c HG.2.2.2.2.1 G H U c8 x d0 v W9 K9.1.qn K9.1.gr;rw[cf]at k9;obtain⟨yv,hu⟩:=yH v;have h0:E (ZM ev.toList.toArray=yv/\FJ W9 (k+2) ev.toList/\gZ 126 ev.toList.length/\ev.size=3):=⟨kd.symm.trans hu,h9,by rw[ZE,h7];exact iGr,h7⟩
  rw[hu.out,k3.out]at k9;have dm:=Hid.mk' k9;obtain⟨dG,h8,ha⟩:=Zp.1 uGr;have be:E (prog.underlying 126=J dG/\dG.isRow=true):=⟨h8,ha⟩
  clear kd h7 kh h9 c8 d0 cf k9 h8 ha;go_wp2_with (first|(refine gS Z 126 (.tmp 6) Z (k+2) 0 ?_ ev.toList dG ?_ ?_ ?_ ?_ ?_;rfl;exact h0.2.1.2.1;exact be.1;exact be.2;exact h0.2.2.1;rw[h0.1])|(refine ldR 10 K9.2.2.1 k3 rSc nSc ?_)|fail)
  refine dm.mono ?_;rintro e Wa ⟨vf,rfl,co,bk⟩;obtain⟨ef,dl,k0,kj⟩:=bk.ar;subst dl;have La:=(K9.1.grow co).next bk k0 kj;obtain⟨Wb,bz⟩:=yH (Wa.setCells (k+2) 0 ef.toList);rw[bz.out]at La;have kv:E (Wa.there (k+2) 0 ef.size/\gZ 126 ef.size/\ef.all (·.oneCell')=true):=by
   refine⟨?_,by rw[k0];exact iGr,kj⟩;rw[k0];have:=(h0.2.1.below co).2.2;rw[ZE,h0.2.2.2]at this;exact this
  have bt:E (∃v G H l,Gd N (2^(t-(i+1))) (2^(i+1)) G ((aC C f).vst (chF N) ivF t L K v0 (i+1)).g/\Gd N (2^(t-(i+1))) (2^(i+1)) H ((aC C f).vst (chF N) ivF t L K v0 (i+1)).h/\Tl N l ((aC C f).vst (chF N) ivF t L K v0 (i+1)).p/\l.length=l0.length+2*(i+1)/\Lk w Wb r k A M t a.val b.val (2^(t-(i+1))) v s17 q Rb ((aC C f).vst (chF N) ivF t L K v0 (i+1)).s G H U l):=by
   show ∃v G H l,_;rw[HS.out,HE.1,HE.2];have g1:=HG.1.fold C f (ivF n) n;have g2:=HG.2.1.fold C f n (ivF n);rw[hp.out,kk.out]at g1 g2;have tl:=(HG.2.2.1.app C f (Tl.pt C f (n*n) (L i))).app C f (Tl.pt C f (ivF (n*n)) (K i));rw[he.out,hw.out]at tl;have eh:Tl N (l++[(T,q i)]++[(xi,Rb i)]) ((aC C f).ad ((aC C f).ad Vi.p ((aC C f).ac (n*n) (L i))) ((aC C f).ac (ivF (n*n)) (K i))):=by rw[h6.1 i,h6.2 i];exact tl
   exact⟨_,_,_,_,g1,g2,eh,by have:=HG.2.2.2.1;simp;omega,La⟩
  obtain⟨vo,bo⟩:=hE (ZM ef);rw[bo.out];go_wp2_with (first|(refine ZZ Z 126 (.tmp 6) _ Z (k+2) 0 ef ?_ ?_ ?_ ?_ ?_ ?_;rfl;exact bo.symm;exact kv.1;exact kv.2.1;exact kv.2.2;rw[bz.out])|fail)
  go_roundg (gk-1);have:=HI;omega
  exact⟨i+1,oN HI,Z,bt⟩
 have e8:¬(i:Int)<(t:Int):=S;have e2:i=t:=S;obtain⟨v,G,H,l,hG,hH,hl,kt,hR⟩:=KM;subst e2;rw[Nat.sub_self,Nat.pow_zero]at hG hH hR;have k7:0<2^i:=rj dC;have c9:2^i<=64:=Zw (qp dC X.2.2.2.2.2.2) dC;obtain⟨l1,l2,Y,d8,dh,cH,cM,cP⟩:=WQ (Q:=QR r k) C X.2.1 f X.2.2.1 k7 c9 hG hH X.2.2.2.1 X.2.2.2.2.1 X.2.2.2.2.2.1 hl (by have:=X.2.2.2.2.2.2;have:=b8.2;omega) a b;have d9:decide (Y=o33)=Bd:=by
  have h2:=dh.trans ct.symm;cases Bd with
  | true=>exact decide_eq_true (h2.2 Z)
  | false=>exact decide_eq_false λh=>Hc.false_ne_true (h2.1 h)
 obtain⟨ev,kd,h7,kh,h9⟩:=hR.r2;obtain⟨g1,ky⟩:=hE (wr.heap.size);obtain⟨o,T⟩:=hE (lZ wr (wn a.val) 93);obtain⟨g2,V⟩:=yH o.heap.size;obtain⟨W2,kz⟩:=yH (o.alloc (.cells (wn b.val).toArray 93));have b1:kZ wr o:=T.out▸aD _;have b2:kZ o W2:=kz.out▸aD _;have r1:FJ o g1 (wn a.val):=T.out▸ky.out▸aE (w:=wr);have r2:FJ W2 g2 (wn b.val):=kz.out▸V.out▸aE (w:=o);have L1:=hR.grow b1;have L2:=L1.grow b2;have q1:QR r k g1:=ky.out▸hR.qn _ (Zo _);have q2:QR r k g2:=V.out▸L1.qn _ (Zo _);have ci:=cH W2 v _ _ L2.gr (VO (r1.below b2) q1) (VO r2 q2);obtain⟨yv,hu⟩:=yH v;obtain⟨va,bn⟩:=yH (nv a.val);obtain⟨vb,d3⟩:=yH (nv b.val);rw[hu.out]at ci;have ra:∀ {W:Zl},FJ W k (inL A M i a.val b.val)->W.rangeAt k 2 (wn a.val)/\W.rangeAt k 6 (wn b.val):=λhW=>⟨λj z n=>by
  have:=hW.2.1 (2+j) z (by
   have hj:j<4:=(Zz.1 n).1;match j,hj with
   | 0,_=>exact n
   | 1,_=>exact n
   | 2,_=>exact n
   | 3,_=>exact n
   | j+4,h=>omega)
  rw[Zs]at this;exact this,λj z n=>by
  have:=hW.2.1 (6+j) z (by
   have hj:j<4:=(Zz.1 n).1;match j,hj with
   | 0,_=>exact n
   | 1,_=>exact n
   | 2,_=>exact n
   | 3,_=>exact n
   | j+4,h=>omega)
  rw[Zs]at this;exact this⟩
 have S1:E ((pg 109 1 #[(0,va)]).run prog wr=.ok (sZ g1 1 1) o):=bn.out▸ky.out▸T.out▸Xw (n:=a.val) (w:=wr);have S2:E ((pg 109 1 #[(0,vb)]).run prog o=.ok (sZ g2 1 1) W2):=d3.out▸V.out▸kz.out▸Xw (n:=b.val) (w:=o);have bd:=mk3 ((ra hR.r0).1) ((ra L1.r0).2) h9.2.1;have h0:E (ZM ev.toList.toArray=yv/\gZ 126 ev.toList.length):=⟨kd.symm.trans hu,by rw[ZE,h7];exact iGr⟩
 obtain⟨dG,h8,ha⟩:=Zp.1 uGr;obtain⟨dS,kg,ki⟩:=Zp.1 rSc;have HD:E ((prog.underlying 126=J dG/\dG.isRow=true)/\prog.underlying 93=J dS/\dS.isRow=true):=⟨⟨h8,ha⟩,kg,ki⟩
 have e9:=Hid.mk' ci;have b5:=Hid.mk' (gF cM cP);have du:=Hid.mk' L2;obtain⟨vz,de⟩:=hE (ZM z33.toArray);obtain⟨vy,cq⟩:=hE (pvl Y);rw[cq.out]at b5;have HZ:E (∀W,(binOp .eql 40 vy vz).run prog W=.ok (.bool Bd) W/\(Instr.build 40 #[]).run prog W=.ok vz W/\(eqGuard .eql 40 (.tmp 67) (.tmp 68) vy vz).run prog W=.ok () W):=by
  rw[<-de.out,<-cq.out,<-d9];exact λW=>⟨by rw[Qv];exact So d8 Z (w:=W),SB (w:=W),by unfold pvl;kernel_rfl⟩
 go_wp2_with (first|(refine gS Z 126 (.tmp 6) Z (k+2) 0 ?_ ev.toList dG ?_ ?_ ?_ ?_ ?_;rfl;exact bd.2.2;exact HD.1.1;exact HD.1.2;exact h0.2;rw[h0.1])|(refine ldR 57 bd.1 bn rSc nSc ?_)|(refine ldR 60 bd.2.1 d3 rSc nSc ?_)|(refine kO (v:=sZ g1 1 1) (w':=o) Z 109 1 _ Z #[(0,va)] ?_ ?_ ?_;kernel_rfl;exact S1)|(refine kO (v:=sZ g2 1 1) (w':=W2) Z 109 1 _ Z #[(0,vb)] ?_ ?_ ?_;kernel_rfl;exact S2)|fail)
 refine e9.mono ?_;rintro e W3 ⟨s1,rfl,db,d5⟩;have L3:=du.grow db;have b9:=Hid.mk' (gF L3 (show Sm 0 W3 s1 l1 from by
  obtain⟨g,c,x1,x2,-,x4⟩:=d5;exact⟨g,c,x1,x2,pj _,x4⟩))
 go_wp2_with fail
 apply(b5.1 W3 s1 u3 b9.2 b9.1.sm.sm).mono;rintro e W4 ⟨s2,rfl,ka,dq⟩;have L4:=b9.1.grow ka;have cp:=Hid.mk' (gF L4 (show Sm 0 W4 s2 l2 from by
  obtain⟨g,c,x1,x2,-,x4⟩:=dq;exact⟨g,c,x1,x2,pj _,x4⟩))
 go_wp2_with fail
 apply(b5.2 W4 s2 cp.2).mono;rintro e W5 ⟨uu,rfl,df,eb⟩;have cy:=eb.symm;subst cy;have L5:=Hid.mk' (cp.1.grow df).on;go_wp2_with (first|(refine fO (v:=vz) (w':=W5) Z 40 _ Z #[] ?_ ?_ ?_;kernel_rfl;exact(HZ W5).2.1)|(refine bH (v:=.bool Bd) (w':=W5) Z (.binOp .eql 40 (.tmp 67) (.tmp 68) 40) Z ?_ ?_;exact GL (I:=eqGuard .eql 40 (.tmp 67) (.tmp 68) vy vz >>= λ_=>binOp .eql 40 vy vz) (by rw[ZK,(HZ W5).2.2];exact(HZ W5).1))|fail)
 go_ret;exact⟨_,Z,L5,Z⟩
end
section
open SPA
noncomputable def gPG (C:IO P):OnP P:=⟨gG P,B6 C⟩
noncomputable def hPV (C:IO P):OnP P:=lPt C cV []
def Jl{m:I}:cmt P n m=EC.add (mul n (.some (hpt P cV []))) (mul m (gG P)):=by
 unfold cmt;generalize (.some (hpt P cV []):EC.Pt P)=H;show EC.add (EC.add F (eF ((n:I):Y) H)) (eF ((m:I):Y) (gG P))=_;rw[pJ];rfl
section
variable [NeZero N]
def Dd(C:IO P)(k:∀r:EC.Pt P,On r->mul N r=F)(a b:B N):wr (cmt P a.val b.val)=wP ((aC C k).cm (hPV C) (gPG C) a b):=by
 rw[Jl];rfl
structure RvL(C:IO P)(hord:∀r:EC.Pt P,On r->mul N r=F)(R:Rv N)(V A S C1 C2 L3 L6 L8:Bs):Prop where
 eV:V=wP (R.pV (aC C hord) (gPG C) (hPV C))
 eA:A=wP (R.pA (aC C hord) (gPG C) (gPt C ⟨#[108,101,102,116]⟩) (gPt C ⟨#[114,105,103,104,116]⟩))
 eS:S=wP (R.pS (aC C hord) (gPG C) (gPt C ⟨#[108,101,102,116]⟩) (gPt C ⟨#[114,105,103,104,116]⟩))
 e1:C1=wP (R.p1 (aC C hord) (gPG C) (hPV C))
 e2:C2=wP (R.p2 (aC C hord) (gPG C) (hPV C))
 l3:L3=bgL V R.n A S
 y:R.y=lB N L3
 z:R.z=lB N (aS L3)
 l6:L6=mdL (aS (aS L3)) C1 C2
 x:R.x=lB N L6
 l8:L8=enL (aS L6) R.tau.val R.mu.val R.t.val
 w:R.w=lB N L8
structure RvS(R:Rv N)(sd:G Fk):Prop where
 s:∀i,(R.s i).val=chL N [115,108] [sd,(fG i).toList]
 q:∀i,(R.q i).val=chL N [115,114] [sd,(fG i).toList]
 al:R.al.val=chL N [97,108,112,104,97] [sd]
 rho:R.rho.val=chL N [114,104,111] [sd]
 t1:R.t1.val=chL N [116,97,117,49] [sd]
 t2:R.t2.val=chL N [116,97,117,50] [sd]
end
def YZ:(pg 23 1 #[(0,.slice q n c)]).run prog w=.ok (sZ w.heap.size 1 1) (w.alloc (.cells #[.slice q n c] 22)):=kR
def Dg(O:Ord N)(d:Fd)(i:d.size<=1000)(g:G Fk)(q:GJ Addr)(n c:I)(w:Zl)(l:PartOk w (.slice q n c) g){x:I}(hx:x=chL N d.data.toList [g]):
 ∃k f,E ((pg 23 1 #[(0,.slice q n c)]).run prog w=.ok (sZ k 1 1) f)/\E (kZ w f)/\E (eZ 97 #[.string d,sZ k 1 1] f (nv x)):=by
 have b:=aD (w:=w) (.cells #[.slice q n c] 22);refine⟨_,_,YZ (q:=q) (n:=n) (c:=c) (w:=w),b,?_⟩;rw[hx];refine EU O d _ 1 1 [g] _ S Z dC (ZW ⟨_,_,Z,λj f=>?_⟩);obtain rfl:j=0:=by simp at f;omega
 exact⟨_,(aE (w:=w) (c:=[.slice q n c]) (T:=22)).2.1 0 _ Z,l.below b⟩
def rp0:Rp:=⟨o33,o33,o33,o33,0,0,0⟩
def Mn:rp0.Ok:=⟨Z,Z,Z,Z⟩
end
namespace RG
variable {P:ai}{ops:Array Z4}{Q:fI->Act->Zl->Prop}{w:Zl}{a0:Act}{L:Array Bool}{F:Flow}{m:Nat}
def lz(m n:I)(late:G I):R Hc:=((fo m).map λi=>decide (i<n) && !late.contains i).toArray
def late1{G:Gw}{late:List I}(p m:I)(t:Tmp)(c:∀v w,G.R m v w->∃u,G.R j u w/\∀o,ops[j]? = J o->∀W,(bZ [t] o,(Z0 (evo λ_=>v) o).run P W)=(H,.ok (.value u) W))
 (z:(decide (j<n) && decide (n<=p) && waits ops p j && Region.free .any ops (lz ops.size n late) j && !rH ops j && (match ops[j]? with|some o=>o.guard.isNone && o.after.all (λe=>!ml .any e || (decide (e.on<n) && !late.contains e.on)) && bV o m|none=>D))=H:=by kernel_rfl) (hd:aP ops m=J t:=by kernel_rfl):LateP P G.flow ops n late j/\rH ops j=D:=by
 simp only[ZD,decide_eq_true_eq,yFD]at z;let⟨⟨⟨⟨⟨h1,A⟩,d⟩,C⟩,M⟩,f⟩:=z
 cases ho:ops[j]? with
 | none=>rw[ho]at f;cases f
 | some o =>
  rw[ho]at f;simp only[ZD]at f;let⟨⟨L,N⟩,O⟩:=f
  refine⟨⟨h1,o,ho,(by simpa using L),λi K l r k q=>Region.free_spec ho C i K l r ?_ q,?_,λe g b=>?_,m,t,O,hd,Z,λv w hv=>?_⟩,M⟩
  .have s:=(ZO.1 l).1;rw[lz,R.getD_eq_getD_getElem?,ZU,rm,yD0 s,yDD,GJ.getD_some];rcases k with k|k
   .rw[List.contains_iff_mem.2 k,yEP,Hc.and_false]
   rw[decide_eq_false S,Hc.false_and]
  .unfold waits at d;cases s:ops[p]? with
   | none=>rw[s]at d;cases d
   | some op =>
    rw[s]at d;let⟨e,g,b⟩:=R.any_eq_true'.1 d
    simp only[ZD,beq_iff_eq]at b;exact⟨p,op,A,s,e,g,b.1,b.2⟩
  .have:=R.all_eq_true'.1 N e g;rw[b,yEP,yE8,ZD,decide_eq_true_eq,yFD]at this;exact⟨this.1,by simpa using this.2⟩
  let⟨u,s,x⟩:=c v w hv
  refine⟨u,s,ZF _ _,λa W g=>?_⟩;have h:=x o ho W;rw[an.injEq]at h;rw[nM (a:=a) (λ_=>v) [t] h.1 (λQ y=>by rw[ur.1 y];exact g)];exact h.2
def Gw.late{id:I}(G:Gw)(n:I)(l:List I)(b:∀j∈l,LateP P G.flow ops n l j/\rH ops j=false)(e:Als P G.flow ops n)(k:(decide (n<ops.size) && qE ops n l && zh ops)=H)(g:P.follows .mixedOrders=H)(p:Df ops a0.tmps.size=H)(h:kC P Q G.flow ops a0 0 (ops.toList.take n))(o:G.B w.drew)
 (f:∀(V:I->Zm) (w':Zl),(∀i,i<n->G.R i (V i) w')->G.B w'->(∀i j,i<n->j<n->i≠j->rH ops i=H->rH ops j=H->(aP ops i).isSome=H->(aP ops j).isSome=H->V i≠V j)->wpList P ops Q (ops.toList.drop n) (cD V (ops.toList.take n) 0 a0) w') (d:∀c (a:Act) t v w,Q (.panic c) (a.put (J t) v) w->Q (.panic c) a w:=by exact λ_ _ _ _ _ h=>h):(gH id ops H).wp P Q a0 w:=by
 rw[ZD,ZD,decide_eq_true_eq]at k;exact Gw.lateC G n l (λj m=>⟨b j m,d,k.2⟩) e k.1.1 k.1.2 g p h o f
end RG
section
open SPA
variable {P:Nat}[NeZero P]{N:Nat}[NeZero N]
omit [NeZero N] in
theorem SLq.fin{a:I->I}(b:I->Fin N)(h:SLq Q W v n a)(e:∀i,i<n->a i=(b i).val):SLq Q W v n (λi=>(b i).val):=h.congr e
omit [NeZero N] in
theorem Ln.fin{a b:I->I}(c d:I->Fin N)(h:Ln Q W v n a b)(e:∀i,i<n->a i=(c i).val)(e':∀i,i<n->b i=(d i).val):Ln Q W v n (λi=>(c i).val) (λi=>(d i).val):=by
 let⟨x,y,h1,k,f⟩:=h.ex
 exact⟨x,y,h1,k.congr e,f.congr e'⟩
def Ot(h1:1<N)(v i:I):v/2^i%2=(btF N v i).val:=by
 exact(ZC (Zn (gD _ dC) h1)).symm
def U3{v i:I}(h1:1<N):sMi N (v/2^i%2) 1=(btF N v i-1).val:=by
 rw[GG,<-Ot h1,show(1:B N).val=1 from ZC h1]
def WF{a:B N}{l m:I->B N}{Gb X:Bs}(C:IO P)(O:Ord N)(b:∀r:EC.Pt P,On r->mul N r=F)(o:IsP N)(p:0<n)(y:n<=64)(hG:wr (gG P)=Gb)(t:X=wP ((aC C b).ad ((aC C b).ac a (gPG C)) ((aC C b).ad ((aC C b).dt l (gPt C ⟨#[108,101,102,116]⟩) n) ((aC C b).dt m (gPt C ⟨#[114,105,103,104,116]⟩) n)))):
 ∃d lb,(∀W:Zl,dZ 100 #[pvl Gb,nv a.val] W λe w'=>Sm W.heap.size w' e d) /\
  (∀(Q:I->Prop) (W:Zl) (v va c:Zm),GRq Q W v n (gGT P) (hGT P) (uGT P)->SLq Q W va n (λi=>(l i).val)->SLq Q W c n (λi=>(m i).val)->dZ 102 #[v,va,c] W λe w'=>Sm W.heap.size w' e lb) /\
  (∀(W:Zl) (s z:Zm),Sm 0 W s d->Sm 0 W z lb->dZ 101 #[s,z] W λe w'=>Sm W.heap.size w' e (d++lb)) /\
  (∀(W:Zl) (v:Zm),Sm 0 W v (d++lb)->eZ 103 #[v] W (pvl X)):=by
 have j:=yF C o.1 n;have g:=pY C o.1 n;have f:=wH p (by decide:0<1) S j g (oC C o.1) yGx (by show 1<=16;decide);have w:Gb.size=33:=by rw[<-hG];exact aR _
 have t0:Tl N [(a.val,Gb)] ((aC C b).ac a (gPG C)):=by rw[<-hG];exact Tl.pt C b a (gPG C)
 have t1:=(j.cmb C b l).1.app C b (g.cmb C b m).1;have l1:(eJ N (λi=>(l i).val) (gGT P) n++eJ N (λi=>(m i).val) (hGT P) n).length=n+n:=by rw[Zv,(j.cmb C b l).2,(g.cmb C b m).2,tF]
 have t2:=t0.app C b t1;refine⟨_,_,λW=>?_,λ_ W v va c h1 d x=>An O n 1 (gGT P) (hGT P) (uGT P) f _ _ (λi _=>(l i).isLt) (λi _=>(m i).isLt) v va c W h1 d x,λW s z h1 d=>cY 0 s z _ _ (by simp) (by simp) S t0.ok.sz t1.ok.sz W (ZW h1) (ZW d),λW v hv=>?_⟩
 .apply(mI Gb w a.val W).mono;rintro e W' ⟨u,rfl,q,k,rfl,f,hR⟩;exact⟨_,Z,q,Sm.one hR f Z⟩
 rw[t];exact t2.point C O b (by simp) (by rw[Zv,l1];simp;omega) hv
def nC(h1:1<N)(x:B N)(i:I):pwN N x.val i=(pwF x i).val:=(IB h1 x i).symm
def To{R:Rv N}{i:I}(k:IsP N)(b:2<N):sPl N (sTi N R.z.val (pwN N R.y.val i)) (sTi N (sTi N R.z.val R.z.val) (pwN N 2 i))=(R.sh i).val:=by
 show _=(R.z*pwF R.y i+R.z*R.z*pwF (ofF N 2) i).val;rw[nF,fQ,fQ,fQ,<-nC k.1,<-nC k.1,show(ofF N 2).val=2 from ZC b]
def pLn(Q:I->Prop)(n:I)(a b:I->I):S1:=⟨λv w=>Ln Q w v n a b,λ_ _ _ k h=>h.keep (Kq.of_below k)⟩
omit [NeZero N] in
theorem Aw(O:Ord N)(a b:B N)(W:Zl):eZ 113 #[nv a.val,nv b.val] W (nv (a*b).val):=by
 rw[fQ];exact kA O a.val b.val a.isLt b.isLt W
omit [NeZero N] in
theorem UI(O:Ord N)(a b:B N)(W:Zl):eZ 114 #[nv a.val,nv b.val] W (nv (a+b).val):=by
 rw[nF];exact oS O a.val b.val a.isLt b.isLt W
def mQ(O:Ord N)(k:IsP N){y:B N}{L:Bs}(h:y=lB N L):chS N L=y.val:=by
 rw[h];exact Dh k.1 (qP O)
def We(b:I)(f g:Zm)(L:Bs):S1:=⟨λv w=>∃r,v=.tuple #[lgV r,f,g]/\b<=r/\r<w.heap.size/\hZ w r 0 L,λ_ _ _ k ⟨r,h1,d,c,e⟩=>⟨r,h1,d,Zn c k.size,Holds.below e k c⟩⟩
def Wc(b:I)(L:Bs):S1:=⟨λv w=>∃r,v=lgV r/\b<=r/\r<w.heap.size/\hZ w r 0 L,λ_ _ _ k ⟨r,h1,d,c,e⟩=>⟨r,h1,d,Zn c k.size,Holds.below e k c⟩⟩
def GH{L:Bs}{cs:G Zm}(h:hZ W r 0 L)(hl:0<L.size)(c:FJ W k (u :: cs))(d:∀b:Fk,encB b≠u):r≠k:=by
 rintro rfl;have h1:=(h 0 hl).1;rw[c.2.1 0 u Z]at h1;exact d _ (ZV.inj h1).symm
def DjR(B:I)(W:Zl)(t a b c d u m s:I)(k i e f:Zm):Prop:=∃gA gB l r,e=r32 gA/\f=r32 gB/\(gA :: gB :: (l++r)).Nodup/\W.ownsRow 0 22 1 k t (l.map r33)/\W.ownsRow 0 22 1 i t (r.map r33)/\(∀g,g∈gA :: gB :: (l++r)->B<=g/\g<a)/\Up7 B a b c d u m s W.heap.size
def DjR.keep{B t a b d u m:I}{k e f i:Zm}(h:DjR B W t a b c d u m s k e f i)(hs:W.heap.size<=W'.heap.size)(hv:∀g,k.ownBlock=J g->W'.heap[g]? = W.heap[g]?)(p:∀g,e.ownBlock=J g->W'.heap[g]? = W.heap[g]?):DjR B W' t a b c d u m s k e f i:=by
 let⟨gA,gB,l,r,h1,j,q,n,o,v,w⟩:=h
 exact⟨gA,gB,l,r,h1,j,q,jS n hv,jS o p,v,by unfold Up7 at *;omega⟩
def DjR.of{B t a b d u m:I}{e i n:Zm}(h:DjF B W t e p i n)(f:kZ W W')(w:Up7 W.heap.size a b c d u m s W'.heap.size)(y:B<=W.heap.size):DjR B W' t a b c d u m s e p i n:=by
 let⟨gA,gB,l,r,h1,v,x,j,o,q⟩:=h
 exact⟨gA,gB,l,r,h1,v,x,jS j λg k=>f.block g (nG j k).2.1,jS o λg k=>f.block g (nG o k).2.1,λg k=>⟨(q g k).1,by have:=(q g k).2;have:=w.1;omega⟩,by unfold Up7 at *;omega⟩
structure RgA(B0 t:I)(p:Rp)(Lb Rb:I->Bs)(Ab Bb:Bs)(e:Zm)(W:Zl):Prop where
 ex:∃a b c d u m s vL vR vA vB,e=.agg #[r33 a,r33 b,r33 c,r33 d,r32 u,r32 m,r32 s,vL,vR,vA,vB]/\RgT (λ_=>True) W p a b c d u m s/\TlL (λ_=>True) B0 t W vL Lb/\TlL (λ_=>True) B0 t W vR Rb/\ElQ (λ_=>True) 32 W vA Ab/\ElQ (λ_=>True) 32 W vB Bb
 dj:∀a b c d u m s vL vR vA vB,e=.agg #[r33 a,r33 b,r33 c,r33 d,r32 u,r32 m,r32 s,vL,vR,vA,vB]->DjR B0 W t a b c d u m s vL vR vA vB
omit [NeZero N] [NeZero P] in
theorem RgA.set{f t:I}{p:Rp}{r Rb:I->Bs}{o y:Bs}{e:Zm}(h:RgA f t p r Rb o y e W)(V:FJ W k (nZ :: vs))(hk:k<f):RgA f t p r Rb o y e (W.setCells k 0 us):=by
 let⟨a,b,c,d,u,m,s,C,O,K,M,z,hT,w,hR,Q,hB⟩:=h.ex
 have el:∀ {m:I}{x:Zm}{b:Bs},0<m->ElQ (λ_=>True) m W x b->ElQ (λ_=>True) m (W.setCells k 0 us) x b:=λX hx=>((hx.off X V).keep (Kq.set λg l=>l)).mono2 λ_ _ _=>trivial
 have n:∀ {i:Zm}{B:I->Bs},TlL (λ_=>True) f t W i B->TlL (λ_=>True) f t (W.setCells k 0 us) i B:=λhx=>by
  let⟨xs,v,T⟩:=hx.ex
  refine⟨xs,jS v λg l=>aM us 0 W g (oN ((hx.lt l).1)),λj hj=>?_⟩;let⟨x,A,L⟩:=T j hj
  exact⟨x,A,el dC L⟩
 have q:∀ {i:Zm}{B:I->Bs},TlL (λ_=>True) f t W i B->∀g,i.ownBlock=J g->(W.setCells k 0 us).heap[g]? = W.heap[g]?:=λhx g l=>aM us 0 W g (oN ((hx.lt l).1))
 refine⟨⟨a,b,c,d,u,m,s,C,O,K,M,z,⟨el dC hT.a,el dC hT.b,el dC hT.c,el dC hT.d,el dC hT.e,el dC hT.f,el dC hT.g⟩,n w,n hR,el dC Q,el dC hB⟩,λa' b' c' d' u' m' s' A T L h0 v=>?_⟩;have e3:=v;rw[z]at e3;simp only[ZM.injEq,zi.injEq,sw.injEq,and_true]at e3;obtain⟨-,-,-,-,-,-,-,rfl,rfl,-,-⟩:=e3;exact(h.dj _ _ _ _ _ _ _ _ _ _ _ v).keep (by rw[setCells_size];exact Zo _) (q w) (q hR)
def QH{R:Rv N}(C:IO P)(k:∀r:EC.Pt P,On r->mul N r=F)(c:IsP N):Gd N n 1 (rQ N R.y.val (hGT P)) (R.hh (aC C k) (gPt C ⟨#[114,105,103,104,116]⟩)):=by
 have g:=pY C c.1 n;refine⟨λi b=>?_,λi b=>by unfold rQ;rw[ZI];exact g.len i b⟩;have h:=(g.tl i b).tm C k (pwF (ivF R.y) i);rw[<-nC c.1]at h;exact h
def P7(C:IO P)(O:Ord N)(k:∀r:EC.Pt P,On r->mul N r=F)(hP:IsP N)(t:I)(ht:t<=6)(R:Rv N)(hn:R.n=2^t)(hv:R.v<18446744073709551616)(hN:18446744073709551616<=N)(sd:G Fk)(sq:GJ Addr)(sn sc:I)(V A S C1 C2 L3 L6 L8:Bs)(hL:RvL C k R V A S C1 C2 L3 L6 L8)(hS:RvS R sd)(q:Md.Ps Bs (B N) (OnP P))(ir:q.s=aS L8)(lc:q.a=R.a)(ma:q.b=R.b)(m7:q.g=gPt C ⟨#[108,101,102,116]⟩)(lj:q.h=R.hh (aC C k) (gPt C ⟨#[114,105,103,104,116]⟩))(u:OnP P)(hu:u=(aC C k).ac R.w (uPt C))(Lb Rb:I->Bs)(m8:∀j,Lb j=wP ((aC C k).pLi (chF N) ivF u t q j))(lm:∀j,Rb j=wP ((aC C k).pTi (chF N) ivF u t q j))(Ab Bb:Bs)(me:Ab=bx (((aC C k).pst (chF N) ivF u t q t).a 0).val)(m4:Bb=bx (((aC C k).pst (chF N) ivF u t q t).b 0).val)(pz:Rp)(h7:E (⟨A,S,C1,C2,R.tau.val,R.mu.val,R.t.val⟩=pz))(w:Zl)(hp:PartOk w (.slice sq sn sc) sd):
 ae prog 48 #[U (R.v:Y),nv R.k.val,iZ (R.n:Y),.slice sq sn sc] w (rZ w λe w'=>∃f,w.heap.size<=f/\RgA f t pz Lb Rb Ab Bb e w'):=by
 obtain⟨vr,hw⟩:=hE (nv R.k.val);obtain⟨va,hz⟩:=hE (nv R.al.val);obtain⟨vh,k6⟩:=hE (nv R.rho.val);obtain⟨v1,k7⟩:=hE (nv R.t1.val);obtain⟨v2,hy⟩:=hE (nv R.t2.val);obtain⟨k5,im⟩:=hE (w.heap.size);obtain⟨w1,fl⟩:=hE (w.alloc (.cells (wn R.k.val).toArray 93));obtain⟨k8,jl⟩:=hE (w1.heap.size);obtain⟨w2,ja⟩:=hE (w1.alloc (.cells z11.toArray 27));have K2:=mk1 (((Mp.start w).new im fl).new jl ja);have B1:E ((aj 93 vr).run prog w=.ok (jZ k5) w1):=by rw[<-hw.out,<-fl.out,<-im.out];exact boxS _ (w:=w)
 have n:R.n<=64:=by rw[hn];exact Zw (qp dC ht) dC
 have kl:E (∀W,kZ w W->PartOk W (.slice sq sn sc) sd):=λW hb=>hp.below hb
 obtain⟨g3,w3,gt,fy,ew⟩:=Dg O ⟨#[97,108,112,104,97]⟩ dC sd sq sn sc w2 (kl w2 K2.bl) hS.al;rw[hz.out]at ew;rw[hw.out];go_enter func48,ntmps48;refine PW.bg [] ?_;refine PW.ns B1.out ?_;refine PW.al jl ja ?_;refine PW.dn ?_;refine PW.bg [] ?_;refine PW.ns gt.out ?_;refine PW.gi ew.out λw4 j4=>?_
 have K4:=mk1 ((K2.grow fy.out).grow j4);obtain⟨g5,w5,ip,g6,f0⟩:=Dg O ⟨#[114,104,111]⟩ dC sd sq sn sc w4 (kl w4 K4.bl) hS.rho;rw[k6.out]at f0;clear ew j4 fy gt K2;refine PW.go [] ?_;refine PW.ns ip.out ?_;refine PW.gi f0.out λw6 gz=>?_
 have K6:=mk1 ((K4.grow g6.out).grow gz);clear f0 g6 gz ip K4;refine PM.al 93 (RG.z 4) K6 λk9 w7 m9=>?_
 refine PM.al 93 (RG.z 4) m9 λo4 w8 K8=>?_
 refine PM.st 2 (wn R.al.val) K8 hz λw9 K9=>?_
 refine PM.st 3 (wn R.rho.val) K9 k6 λg4 ds=>?_
 clear K6 K8 K9;refine PW.dn ?_;obtain⟨n7,o3,c8,d5,kp⟩:=Dg O ⟨#[116,97,117,49]⟩ dC sd sq sn sc g4 (kl g4 ds.bl) hS.t1;rw[k7.out]at kp;refine PW.bg [] ?_;refine PW.ns c8.out ?_;refine PW.gi kp.out λju cq=>?_
 have dq:=mk1 ((ds.grow d5.out).grow cq);obtain⟨nh,nf,ci,dh,ky⟩:=Dg O ⟨#[116,97,117,50]⟩ dC sd sq sn sc ju (kl ju dq.bl) hS.t2;rw[hy.out]at ky;clear kp d5 cq c8 ds;refine PW.go [] ?_;refine PW.ns ci.out ?_;refine PW.gi ky.out λoo d7=>?_
 have gh:=mk1 ((dq.grow dh.out).grow d7);clear ky dh d7 ci dq;refine PM.al 93 (RG.z 4) gh λmy o0 gw=>?_
 refine PM.al 93 (RG.z 4) gw λnj ou io=>?_
 refine PM.st 4 (wn R.t1.val) io k7 λni gy=>?_
 refine PM.st 5 (wn R.t2.val) gy hy λjv k4=>?_
 clear gh io gy;refine PW.dn ?_;have j0:=mk1 (Ww O R.v hv R.n n sd sq sn sc jv (kl jv k4.bl));refine PW.bg [] ?_;refine PW.ca j0.out ?_;rintro e o2 ⟨ct,xl,yl,rfl,je,j8⟩;clear j0;obtain⟨mh,lq,rfl,ey,dw⟩:=(je.fin R.l R.s (λi _=>Ot hP.1 R.v i) (λi _=>(hS.s i).symm)).ex;obtain⟨ln,lu,rfl,dl,er⟩:=(j8.fin R.m R.q (λi _=>U3 hP.1 (v:=R.v) (i:=i)) (λi _=>(hS.q i).symm)).ex;clear je j8;have gu:=mk1 ((((k4.gets ct (pqS mh R.n λi=>(R.l i).val) ey).has (pqS lq R.n λi=>(R.s i).val) (dw.mono λg hg=>k4.nk g hg)).has (pqS ln R.n λi=>(R.m i).val) (dl.mono λg hg=>k4.nk g hg)).has (pqS lu R.n λi=>(R.q i).val) (er.mono λg hg=>k4.nk g hg));obtain⟨kv,b9,kc,e1⟩:=(cG ey).2;obtain⟨b2,b5,ko,p⟩:=(cG dw).2;obtain⟨kd,kr,ba,e3⟩:=(cG dl).2;obtain⟨kt,kg,km,e4⟩:=(cG er).2;subst e1 p e3 e4;clear ey dw dl er ct k4;refine PW.go [.agg #[.slice (some ⟨kv,b9,F⟩) R.n kc,.slice (some ⟨b2,b5,F⟩) R.n ko],.agg #[.slice (some ⟨kd,kr,F⟩) R.n ba,.slice (some ⟨kt,kg,F⟩) R.n km]] ?_;refine PM.al 175 [.slice F 0 0,.slice F 0 0] gu λi5 n8 gr=>?_
 refine PM.al 175 [.slice F 0 0,.slice F 0 0] gr λfs mt jd=>?_
 refine PM.st 6 [.slice (some ⟨kv,b9,F⟩) R.n kc,.slice (some ⟨b2,b5,F⟩) R.n ko] jd aq λna iw=>?_
 refine PM.st 7 [.slice (some ⟨kd,kr,F⟩) R.n ba,.slice (some ⟨kt,kg,F⟩) R.n km] iw aq λl6 g9=>?_
 clear gu jd iw;refine PW.dn ?_;have HG:=mk1 (Av (P:=P) C R.n oM l6);refine PW.bg [] ?_;refine PW.ca HG.out ?_;rintro e lo ⟨cx,hG⟩;clear HG;obtain⟨q1,q2,q3,rfl,ix,ji,ie⟩:=hG.ex;obtain⟨ga,oa,ca,e1⟩:∃g o c,q1=.slice (some ⟨g,o,F⟩) R.n c:=by obtain⟨g,o,c,h,-⟩:=ix;exact⟨g,o,c,h⟩
 obtain⟨gb,ob,cb,p⟩:∃g o c,q2=.slice (some ⟨g,o,F⟩) R.n c:=by obtain⟨g,o,c,h,-⟩:=ji;exact⟨g,o,c,h⟩
 obtain⟨gc,mc,cc,e3⟩:∃g m c,q3=sZ g m c:=by obtain⟨g,c,h,-⟩:=ie;exact⟨g,_,c,h⟩
 subst e1 p e3;have gk:=mk1 (g9.gets cx (pqG _ R.n (gGT P) (hGT P) (uGT P)) hG);clear hG ix ji ie cx g9;have kk:=mk1 (Si (P:=P) C lo);refine hG (wr (gG P)) λGb c6=>?_
 have du:Gb.size=33:=by rw[<-c6.out];exact aR _
 refine hG (pvl Gb) λvG k1=>?_
 rw[c6.out,k1.out]at kk;refine PM.gi gk kk.out λny jj=>?_
 clear kk gk;have lG:(aA Gb).length=z33.length:=aB du;refine PM.al 126 [.slice F 0 0,.slice F 0 0,.slice F 0 0] jj λms nb iq=>?_
 refine PM.al 40 z33 iq λo5 mn g1=>?_
 refine PM.st 8 [.slice (some ⟨ga,oa,F⟩) R.n ca,.slice (some ⟨gb,ob,F⟩) R.n cb,sZ gc mc cc] g1 aq λo8 i7=>?_
 refine PM.st 9 (aA Gb) i7 k1 (λol g2=>?_) (hl:=lG) (hT:=(by rw[aB du];exact iCP)) (h1:=(bW));clear jj g1 i7;refine PW.dn ?_;refine PW.bg [] ?_;refine PM.al 113 rp0.l g2 λl nc ea=>?_
 clear g2;refine PW.dn ?_;have fa:0<R.n:=by rw[hn];exact rj dC
 have sA:A.size=33:=by rw[hL.eA];exact aR _
 have sS:S.size=33:=by rw[hL.eS];exact aR _
 have iG:(prog.info? 40).map (·.size)=some (aA Gb).length:=by rw[aB du];exact iCP
 obtain⟨la,lb,cT,cL,cP,cX⟩:=WF C O k hP (n:=R.n) fa n (a:=R.al) (l:=R.l) (m:=R.m) (Gb:=Gb) (X:=A) c6.out hL.eA;have HX:=mk4 cT cL cP cX;clear cT cL cP cX;rw[hz.out,k1.out]at HX;refine hG (pvl A) λvA hvA=>?_
 rw[hvA.out]at HX;refine AM.bg 12 12 ea ?_;refine AM.ro 0 9 k1 ?_ (hT:=iG);refine AM.ro 1 2 hz ?_;refine AM.ro 3 8 aq ?_;refine AW.va 4 (jZ i5) ?_;refine AM.ce 5 6 0 ?_;refine AW.va 6 (jZ fs) ?_;refine AM.ce 7 7 0 ?_;refine AW.ca 2 (λ_=>HX.1 _) (λe w' h=>h.1) ?_;rintro e nn ⟨c9,d6⟩;refine AW.ca 8 (λh=>HX.2.1 _ _ _ _ _ (h.get 4) (h.get 0) (h.get 2)) (λe w' h=>h.1) ?_;rintro p o1 ⟨b3,dk⟩;refine AW.ca 9 (λh=>HX.2.2.1 _ _ _ ((d6.q.keep (Kq.of_below b3)).sm) dk.q.sm) (λe w' h=>h.1) ?_;rintro e3 oq ⟨cy,cp⟩;refine AW.gi 10 (λh=>HX.2.2.2 _ _ cp.q.sm) λl9 cz=>?_
 have eh:=mk1 ((((ea.drew.grow c9).grow b3).grow cy).grow cz);clear c9 b3 cy cz d6 dk cp ea HX;refine AW.nx 11 (jZ l) ?_;refine hG (l9.setCells l 0 (aA A)) λox kn=>?_
 have bo:=mk1 (Rp.Yo Mn (eh.at_ 10) sA);refine hG ({ rp0 with a:=A }:Rp) λp1 dx=>?_
 rw[dx.out]at bo;have f8:=mk1 (eh.upd 10 kn bo.2.1);refine AW.fi (us:=aA A) hvA (bW (a:=A)) (by rw[aB sA];exact iCP) (λ_=>⟨bo.1,?_⟩);rw[kn.out];clear eh kn;obtain⟨la,lb,cT,cL,cP,cX⟩:=WF C O k hP (n:=R.n) fa n (a:=R.rho) (l:=R.s) (m:=R.q) (Gb:=Gb) (X:=S) c6.out hL.eS;have HX:=mk4 cT cL cP cX;clear cT cL cP cX;rw[k6.out,k1.out]at HX;refine hG (pvl S) λvS jp=>?_
 rw[jp.out]at HX;refine AM.bg 12 12 f8 ?_;refine AM.ro 0 9 k1 ?_ (hT:=iG);refine AM.ro 1 3 k6 ?_;refine AM.ro 3 8 aq ?_;refine AW.va 4 (oZ i5 1) ?_;refine AM.ce 5 6 1 ?_;refine AW.va 6 (oZ fs 1) ?_;refine AM.ce 7 7 1 ?_;refine AW.ca 2 (λ_=>HX.1 _) (λe w' h=>h.1) ?_;rintro e oc ⟨cf,df⟩;refine AW.ca 8 (λh=>HX.2.1 _ _ _ _ _ (h.get 4) (h.get 1) (h.get 3)) (λe w' h=>h.1) ?_;rintro p nz ⟨b7,cj⟩;refine AW.ca 9 (λh=>HX.2.2.1 _ _ _ ((df.q.keep (Kq.of_below b7)).sm) cj.q.sm) (λe w' h=>h.1) ?_;rintro e3 oj ⟨de,d9⟩;refine AW.gi 10 (λh=>HX.2.2.2 _ _ d9.q.sm) λlh d8=>?_
 have ek:=mk1 ((((f8.drew.grow cf).grow b7).grow de).grow d8);clear cf b7 de d8 df cj d9 f8 HX;refine AW.nx 11 (oZ l 33) ?_;refine hG (lh.setCells l 33 (aA S)) λkx kw=>?_
 have ka:=mk1 (Rp.sets bo.2.2 (ek.at_ 10) sS);refine hG ({ p1 with s:=S }:Rp) λp2 fd=>?_
 rw[fd.out]at ka;have bh:=mk1 (ek.upd 10 kw ka.2.1);refine AW.fi (us:=aA S) jp (bW (a:=S)) (by rw[aB sS];exact iCP) (λ_=>⟨ka.1,?_⟩);rw[kw.out];clear ek kw;refine hG (aS (aS L3)) λL5 ef=>?_
 have s5:L5.size=32:=by rw[<-ef.out];exact bC
 have sV:V.size=33:=by rw[hL.eV];exact aR _
 refine hG (ZM p2.l.toArray) λvp jh=>?_
 refine hG (pvl V) λvV gq=>?_
 refine hG (nv R.v) λvn js=>?_
 refine hG (nv R.y.val) λvy h8=>?_
 refine hG (nv R.z.val) λvz ha=>?_
 have dd:E (∀W,ae prog 55 #[vp,vV,iZ (R.n:Y)] W (rZ W λe w'=>∃r,e=.tuple #[lgV r,vy,vz]/\W.heap.size<=r/\FE encB w' r 0 L5)):=λW=>by
  have h:=SD O p2 ka.2.2 V sV R.n oM W;rw[show bgL V R.n p2.a p2.s=L3 by rw[<-fd.out,<-dx.out];exact hL.l3.symm,mQ O hP hL.y,mQ O hP hL.z,ef.out,jh.out,gq.out,h8.out,ha.out]at h;exact h
 have c7:E (∀W,ae prog 104 #[vn,vr] W (rZ W λe w'=>e=vV)):=λW=>by
  have h:=rD C O (a:=R.v) (b:=R.k.val) oM R.k.isLt W;have e:(ofF N R.v).val=R.v:=ZC oM;have p:=Dd C k (ofF N R.v) R.k;rw[e]at p;rw[p,show wP ((aC C k).cm (hPV C) (gPG C) (ofF N R.v) R.k)=V from hL.eV.symm,js.out,hw.out,gq.out]at h;exact h
 have i9:E (∀W,ae prog 105 #[U (R.v:Y)] W (rZ W λe w'=>e=vn)):=λW=>by
  rw[<-js.out];exact BU R.v hv W
 refine hG kx.heap.size λb hb=>?_
 have ku:∀ {W},kZ kx W->b<=W.heap.size:=λh=>hb.out ▸ h.size
 refine Zq ?_;refine(gwL [pE vp,pE (U (R.v:Y)),pE vn,pE vr,pE vV,pE (iZ (R.n:Y)),We b vy vz L5,We b vy vz L5,Wc b L5,pE vy,pE vz,RG.pN b [.pointer F],RG.pN b (RG.z 4),RG.pN b (RG.z 4)] (λW=>kZ kx W) (λW W' hb h=>h.trans (hb.mono h.size))).late 14 [9,10] (λj hj=>by
  rcases fT.1 hj with rfl|hj
  .exact late1 15 7 75 λv W ⟨r,e,_⟩=>⟨vy,Z,λo ho W'=>by
    cases ho
    rw[e];kernel_rfl⟩
  .obtain rfl:=ur.1 hj;exact late1 16 7 75 λv W ⟨r,e,_⟩=>⟨vz,Z,λo ho W'=>by
    cases ho
    rw[e];kernel_rfl⟩) (OJ (l:=[11,12,13]) ⟨al1 [.pointer F] 118 BR,al1 (RG.z 4) 93 BR,al1 (RG.z 4) 93 BR,Fs⟩) kR kR kR ⟨
  gLo (cs:=p2.l) 17 (λW f=>((bh.grow f).at_ 10).2.1) uRd (by rw[Rp.len ka.2.2];exact iRd) (hR:=λ_=>jh.out),
  RG.gO 0 (U (R.v:Y)),
  xH 1 77 105 (λx=>#[x]) (λx W e1 f=>by
   obtain rfl:x=U (R.v:Y):=e1;exact i9 W),
  gLo (cs:=wn R.k.val) 5 (λW f=>((bh.grow f).at_ 0).2.1) u40 In (hR:=λ_=>hw.out),
  eT 2 78 3 79 104 (λx y=>#[x,y]) (λx u W e1 p f=>by
   obtain rfl:x=vn:=e1;obtain rfl:u=vr:=p;exact c7 W),
  RG.gO 2 (iZ (R.n:Y)),
  I7 0 76 4 80 5 81 55 (λx y z=>#[x,y,z]) (λx u z W e1 p e3 f=>by
   obtain rfl:x=vp:=e1;obtain rfl:u=vV:=p;obtain rfl:z=iZ (R.n:Y):=e3;refine(dd W).mono ?_;rintro e W' ⟨uu,rfl,h1,r,h2,L,K⟩;exact⟨_,Z,h1,r,h2,Zw (ku f) L,Holds.lt K (by rw[s5];decide),K⟩),
  Ky 6 82 id (λx W h=>h),
  bK λa W hp=>by
   obtain⟨r,e,h1,h2,L⟩:=hp.n 7 75 kR kR;exact⟨[(75,.tuple #[lgV r,vy,vz])],lgV r,W,⟨e,Fs⟩,kR,ZF _ _,r,Z,h1,h2,L⟩,
  bK λa W hp=>by
   obtain⟨r,e,h1,h2,L⟩:=hp.n 7 75 kR kR;exact⟨[(75,.tuple #[lgV r,vy,vz])],vy,W,⟨e,Fs⟩,kR,ZF _ _,Z⟩,
  bK λa W hp=>by
   obtain⟨r,e,h1,h2,L⟩:=hp.n 7 75 kR kR;exact⟨[(75,.tuple #[lgV r,vy,vz])],vz,W,⟨e,Fs⟩,kR,ZF _ _,Z⟩,
  Au [.pointer F] 118 (λW W' h f=>⟨_,Z,ku f,h⟩),
  Au (RG.z 4) 93 (λW W' h f=>⟨_,Z,ku f,h⟩),
  Au (RG.z 4) 93 (λW W' h f=>⟨_,Z,ku f,h⟩),Fs⟩ ⟨Z,Z,Z,Zo _,λ_ _=>rfl⟩ ?_
 intro X n4 hR f hD;obtain⟨r,e8,lr,iy,Hr⟩:=hR 8 dC;have e9:X 9=vy:=hR 9 dC;have g0:X 10=vz:=hR 10 dC;obtain⟨bj,c4,ej,eo⟩:=hR 11 dC;obtain⟨c5,bz,ep,dp⟩:=hR 12 dC;obtain⟨bd,c0,eu,f9⟩:=hR 13 dC;have d1:=hD 11 12 dC dC dC kR kR kR kR;have d2:=hD 11 13 dC dC dC kR kR kR kR;have d3:=hD 12 13 dC dC dC kR kR kR kR;rw[c4,bz]at d1;rw[c4,c0]at d2;rw[bz,c0]at d3;have n1:bj≠c5:=λe=>d1 (by rw[e])
 have n2:bj≠bd:=λe=>d2 (by rw[e])
 have n3:c5≠bd:=λe=>d3 (by rw[e])
 have m1:r≠bj:=GH Hr (by rw[s5];decide) eo (λb e=>by cases e);have m2:r≠c5:=GH Hr (by rw[s5];decide) dp (λb e=>by cases e);have m3:r≠bd:=GH Hr (by rw[s5];decide) f9 (λb e=>by cases e);rw[<-hb.out]at lr ej ep eu;have jt:=mk1 (bh.adds f [(bj,[.pointer F]),(c5,RG.z 4),(bd,RG.z 4),(r,aA L5)] (by simp;omega) (λx hx=>by
  simp only[fT,ZJ,or_false]at hx;rcases hx with rfl|rfl|rfl|rfl
  .exact⟨ej,eo⟩
  .exact⟨ep,dp⟩
  .exact⟨eu,f9⟩
  exact⟨lr,mW Hr iy⟩))
 dsimp only[cD,mi,r9,tr];simp only[ah,Zr,Zt,Zu];rw[e8,e9,g0,c4,bz,c0];clear hR hD d1 d2 d3 n1 n2 n3 m1 m2 m3 ej ep eu lr iy Hr eo dp f9 f e8 e9 g0 c4 bz c0 bh dd c7 i9;refine PM.st 11 [jZ r] jt aq λnl fn=>?_
 refine PM.st 12 (wn R.y.val) fn h8 λnm i3=>?_
 refine PM.st 13 (wn R.z.val) i3 ha λm6 kz=>?_
 clear jt fn i3 ku hb;refine PW.dn ?_;have h2:2<N:=oM;have fg:=mk1 (Il O h2 (y:=R.y.val) (z:=R.z.val) R.y.isLt R.z.isLt R.n oM m6);rw[h8.out,ha.out]at fg;refine PW.bg [] ?_;refine PM.ro 12 kz h8 ?_;refine PM.ro 13 kz ha ?_;refine PW.go [] ?_;refine PW.ca fg.out ?_;rintro e j6 ⟨co,ls,rs,rfl,bn,bk⟩;clear fg;replace bn:=bn.fin (λ_=>-R.z) (λi _=>(Nh R.z).symm);replace bk:=bk.fin R.sh (λi _=>To hP h2 (R:=R) (i:=i));have M:=mk1 ((kz.gets co (pqS ls R.n λ_=>(-R.z).val) bn).has (pqS rs R.n λi=>(R.sh i).val) (bk.mono λg hg=>kz.nk g hg));clear bn bk co kz;refine PW.en [ls,rs,ls,rs] ?_;obtain⟨Q,T⟩:=M.out.q;refine Zq ?_;refine(gwL [pE (.agg #[.slice (some ⟨kv,b9,F⟩) R.n kc,.slice (some ⟨b2,b5,F⟩) R.n ko]),pE ls,pLn Q R.n (λi=>(R.a0 i).val) (λi=>(R.s i).val),pE (.agg #[.slice (some ⟨kd,kr,F⟩) R.n ba,.slice (some ⟨kt,kg,F⟩) R.n km]),pE vy,pE (iZ (R.n:Y)),RG.pS Q R.n (pwN N R.y.val),pLn Q R.n (λi=>sTi N (R.m i).val (pwN N R.y.val i)) (λi=>sTi N (R.q i).val (pwN N R.y.val i)),pE rs,pLn Q R.n (λi=>(R.b0 i).val) (λi=>(R.b1 i).val)] (λW=>kZ j6 W) (λW W' hb h=>h.trans (hb.mono h.size))).tail2 10 kR kR kR ⟨
  gLo (cs:=[.slice (some ⟨kv,b9,F⟩) R.n kc,.slice (some ⟨b2,b5,F⟩) R.n ko]) 13 (λW f=>((M.grow f).at_ 6).2.1) uLi iLi,
  RG.gO 21 ls,
  eT 0 93 1 94 107 (λx y=>#[x,y]) (λx u W e1 p f=>by
   obtain rfl:x=.agg #[.slice (some ⟨kv,b9,F⟩) R.n kc,.slice (some ⟨b2,b5,F⟩) R.n ko]:=e1;obtain rfl:u=ls:=p;have K:=M.grow f;refine(RR O n (λi _=>(R.l i).isLt) (λi _=>(-R.z).isLt) (⟨_,_,Z,K.xQ T 0,K.xQ T 1⟩:Ln Q W _ R.n _ _) (K.xQ T 5)).mono ?_;rintro e W' ⟨uu,rfl,h1,h2⟩;exact⟨_,Z,h1,(h2.mono λg hg=>hg.elim id (K.nkq T g)).fin R.a0 R.s (λi _=>(nF (R.l i) (-R.z)).symm) (λ_ _=>rfl)⟩),
  gLo (cs:=[.slice (some ⟨kd,kr,F⟩) R.n ba,.slice (some ⟨kt,kg,F⟩) R.n km]) 14 (λW f=>((M.grow f).at_ 7).2.1) uLi iLi,
  gLo (cs:=wn R.y.val) 19 (λW f=>((M.grow f).at_ 12).2.1) u40 In (hR:=λ_=>h8.out),
  RG.gO 2 (iZ (R.n:Y)),
  eT 4 97 5 98 109 (λx y=>#[x,y]) (λx u W e1 p f=>by
   obtain rfl:x=vy:=e1;obtain rfl:u=iZ (R.n:Y):=p;rw[<-h8.out];exact(RL O (x:=R.y.val) R.y.isLt (n:=R.n) oM (w:=W)).mono λe W' ⟨v,h1,h2,L⟩=>⟨v,h1,h2,L.mono λg hg=>(M.grow f).nkq T g hg⟩),
  eT 3 96 6 99 108 (λx y=>#[x,y]) (λx u W e1 p f=>by
   obtain rfl:x=.agg #[.slice (some ⟨kd,kr,F⟩) R.n ba,.slice (some ⟨kt,kg,F⟩) R.n km]:=e1;have K:=M.grow f;refine(Wu O n (λi _=>(R.m i).isLt) (λi _=>(R.q i).isLt) (λi _=>zN O i) (⟨_,_,Z,K.xQ T 2,K.xQ T 3⟩:Ln Q W _ R.n _ _) p).mono ?_;rintro e W' ⟨uu,rfl,h1,h2⟩;exact⟨_,Z,h1,h2.mono λg hg=>K.nkq T g hg⟩),
  RG.gO 22 rs,
  eT 7 100 8 101 107 (λx y=>#[x,y]) (λx u W e1 p f=>by
   obtain rfl:u=rs:=p;have K:=M.grow f;refine(RR O n (λi _=>gD _ O.pos) (λi _=>(R.sh i).isLt) e1 (K.xQ T 6)).mono ?_;rintro e W' ⟨uu,rfl,h1,h2⟩;refine⟨_,Z,h1,(h2.mono λg hg=>hg.elim id (K.nkq T g)).fin R.b0 R.b1 (λi _=>?_) (λi _=>?_)⟩
   .show _=(R.m i*pwF R.y i+R.sh i).val;rw[nF,fQ,<-nC hP.1];rfl
   show _=(R.q i*pwF R.y i).val;rw[fQ,<-nC hP.1]),Fs⟩ ⟨Z,Z,Z,Zo _,λ_ _=>rfl⟩ ?_
 intro X o9 hR f;obtain⟨m0,l7,p,h5,h6⟩:=(hR 2 dC).ex;obtain⟨l5,l4,e9,f7,ed⟩:=(hR 9 dC).ex;have iu:=mk1 (((((M.grow f).QE T (pqS m0 R.n λi=>(R.a0 i).val) h5).QE T (pqS l7 R.n λi=>(R.s i).val) h6).QE T (pqS l5 R.n λi=>(R.b0 i).val) f7).QE T (pqS l4 R.n λi=>(R.b1 i).val) ed);obtain⟨j9,gj,jn,e3⟩:=(cG h5).2;obtain⟨ig,j2,jg,e4⟩:=(cG h6).2;obtain⟨g7,jf,fj,e5⟩:=(cG f7).2;obtain⟨gg,jb,jr,e6⟩:=(cG ed).2;subst e3 e4 e5 e6;dsimp only[cD,mi,r9,tr];simp only[ah,Zr,Zt,Zu];rw[p,e9];clear hR f h5 h6 f7 ed p e9 M T;refine PM.st 6 [.slice (some ⟨j9,gj,F⟩) R.n jn,.slice (some ⟨ig,j2,F⟩) R.n jg] iu aq λow fz=>?_
 refine PM.st 7 [.slice (some ⟨g7,jf,F⟩) R.n fj,.slice (some ⟨gg,jb,F⟩) R.n jr] fz aq λkj h9=>?_
 clear iu fz;refine PW.dn ?_;refine hG (nv R.c1.val) λem hm=>?_
 refine hG (nv R.c2.val) λec hq=>?_
 have ge:E (ae prog 110 #[.agg #[.slice (some ⟨j9,gj,F⟩) R.n jn,.slice (some ⟨ig,j2,F⟩) R.n jg],.agg #[.slice (some ⟨g7,jf,F⟩) R.n fj,.slice (some ⟨gg,jb,F⟩) R.n jr]] kj (rZ kj λe w'=>e=.tuple #[em,ec])):=by
  have h:=Wv O n (λi _=>⟨(R.a0 i).isLt,(R.s i).isLt,(R.b0 i).isLt,(R.b1 i).isLt⟩) (⟨_,_,Z,h9.get 7,h9.get 8⟩:Ln _ kj _ R.n _ _) (⟨_,_,Z,h9.get 9,h9.get 10⟩:Ln _ kj _ R.n _ _);rw[lQ,lQ,lQ,<-nF,show Md.pr R.a0 R.b1 R.n+Md.pr R.s R.b0 R.n=R.c1 from Z,show Md.pr R.s R.b1 R.n=R.c2 from Z,hm.out,hq.out]at h;exact h
 refine PW.bg [] ?_;refine PM.ro 6 h9 aq ?_;refine PM.ro 7 h9 aq ?_;refine PM.gi h9 ge.out λo6 i8=>?_
 clear ge h9;refine PW.go [em,ec] ?_;refine PM.al 93 (RG.z 4) i8 λo7 oh i1=>?_
 refine PM.al 93 (RG.z 4) i1 λog ot jc=>?_
 refine PM.st 15 (wn R.c1.val) jc hm λom ic=>?_
 refine PM.st 16 (wn R.c2.val) ic hq λoi e7=>?_
 clear i8 jc ic;refine PW.dn ?_;have sC:C1.size=33:=by rw[hL.e1];exact aR _
 have sD:C2.size=33:=by rw[hL.e2];exact aR _
 refine hG (pvl C1) λvC j1=>?_
 refine hG (pvl C2) λvD i2=>?_
 have fq:E (∀W,ae prog 104 #[em,v1] W (rZ W λe w'=>e=vC)):=λW=>by
  have h:=rD C O R.c1.isLt R.t1.isLt W;rw[Dd C k R.c1 R.t1,show wP ((aC C k).cm (hPV C) (gPG C) R.c1 R.t1)=C1 from hL.e1.symm,hm.out,k7.out,j1.out]at h;exact h
 have ij:E (∀W,ae prog 104 #[ec,v2] W (rZ W λe w'=>e=vD)):=λW=>by
  have h:=rD C O R.c2.isLt R.t2.isLt W;rw[Dd C k R.c2 R.t2,show wP ((aC C k).cm (hPV C) (gPG C) R.c2 R.t2)=C2 from hL.e2.symm,hq.out,hy.out,i2.out]at h;exact h
 refine Zq ?_;refine AW.beg 9 9 (J:=(Iv.mx w _ _ 10 l D)) (e7.out.drew.wk 10) ?_;refine AW.ro 0 (λW ⟨_,h⟩=>(h.at_ 15).2.1) hm u40 In ?_;refine AW.ro 1 (λW ⟨_,h⟩=>(h.at_ 4).2.1) k7 u40 In ?_;refine AW.ro 3 (λW ⟨_,h⟩=>(h.at_ 16).2.1) hq u40 In ?_;refine AW.ro 4 (λW ⟨_,h⟩=>(h.at_ 5).2.1) hy u40 In ?_;refine AW.gi 2 (λ_=>fq _) λn9 cd=>?_
 refine AW.va 6 (oZ l 66) ?_;refine AW.gi 5 (λ_=>ij _) λm5 d0=>?_
 have eb:=mk1 ((e7.drew.grow cd).grow d0);clear cd d0 e7 fq ij;refine hG (m5.setCells l 66 (aA C1)) λlw db=>?_
 refine hG (lw.setCells l 99 (aA C2)) λdm d4=>?_
 have b6:=mk1 (Rp.Yn ka.2.2 (eb.at_ 10) sC);refine hG ({ p2 with c:=C1 }:Rp) λp3 es=>?_
 rw[es.out]at b6;have bp:=mk1 (eb.upd 10 db b6.2.1);have hk:=mk1 (Rp.Ym b6.2.2 (bp.at_ 10) sD);refine hG ({ p3 with d:=C2 }:Rp) λp4 et=>?_
 rw[et.out]at hk;have k2:=mk1 (bp.upd 10 d4 hk.2.1);refine AW.ss 7 j1 (bW (a:=C1)) (by rw[aB sC];exact iCP) db (λ_=>⟨b6.1,bp.out.wk 10⟩) ?_;refine AW.nx 8 (oZ l 99) ?_;refine AW.ss 9 i2 (bW (a:=C2)) (by rw[aB sD];exact iCP) d4 (λ_=>⟨hk.1,k2.out.wk 10⟩) ?_;refine AW.dn λ_=>?_
 clear eb bp b6;refine hG (aS L6) λL7 fb=>?_
 have s7:L7.size=32:=by rw[<-fb.out];exact bC
 refine hG (nv R.x.val) λvx K=>?_
 refine hG (ZM p4.l.toArray) λvq jm=>?_
 refine hG (lgV r) λvl k0=>?_
 have j7:E (ae prog 56 #[vq,vl] dm (Ret λe w'=>SP.Only r 0 32 dm w'/\FE encB w' r 0 L7/\e=vx)):=by
  have h:=RQ O p4 hk.2.2 r L5 dm (k2.log 14) s5;rw[<-ef.out,show mdL (aS (aS L3)) p4.c p4.d=L6 by rw[<-et.out,<-es.out];exact hL.l6.symm,mQ O hP hL.x,fb.out,jm.out,k0.out,K.out]at h;exact h
 refine PW.bg [] ?_;refine PW.ro (cs:=p4.l) (k2.at_ 10).2.1 jm uRd (by rw[Rp.len hk.2.2];exact iRd) ?_;refine PM.ro 11 k2 k0 ?_;refine PW.ca j7.out ?_;rintro e mw ⟨hO,hH,he⟩;obtain rfl:=he.symm;have fx:=mk1 (k2.say 14 hO hH);clear j7 hO hH k2;refine PM.al 93 (RG.z 4) fx λmm ov ft=>?_
 refine PM.st 17 (wn R.x.val) ft K λn6 f5=>?_
 clear fx ft;refine PW.dn ?_;have dz:E (∀(a b c:I->B N) (v:Zm) (Q:I->Prop) (W:Zl),(∀i,c i=a i+b i*R.x)->Ln Q W v R.n (λi=>(a i).val) (λi=>(b i).val)->ae prog 111 #[v,vx] W (rZ W λe w'=>SLq (W.heap.size<=·) w' e R.n (λi=>(c i).val))):=λa b c v Q W hc h=>by
  have h:=Wx O n (λi _=>(a i).isLt) (λi _=>(b i).isLt) R.x.isLt h;rw[K.out]at h;refine h.mono ?_;rintro e w' ⟨uu,rfl,h1,h2⟩;exact⟨_,Z,h1,h2.fin c λi _=>by rw[hc,nF,fQ]⟩
 refine Zq ?_;refine AW.beg 7 7 (J:=(Iv.mp w _ _ D)) f5.out.drew ?_;refine AM.ro 0 6 aq ?_;refine AM.ro 1 17 K ?_;refine AM.ro 3 7 aq ?_;refine AM.ro 4 17 K ?_;refine AW.ca 2 (λh=>dz R.a0 R.s R.a _ _ _ (λ_=>rfl) (⟨_,_,Z,h.get 7,h.get 8⟩:Ln _ _ _ R.n _ _)) (λe w' h=>h.1) ?_;rintro av mo ⟨da,i6⟩;refine AW.ca 5 (λh=>dz R.b0 R.b1 R.b _ _ _ (λ_=>rfl) (⟨_,_,Z,h.get 9,h.get 10⟩:Ln _ _ _ R.n _ _)) (λe w' h=>h.1) ?_;rintro bv c3 ⟨cu,ik⟩;have j5:=mk1 (f5.drew.gets da (pqS av R.n λi=>(R.a i).val) i6);have be:=mk1 (j5.gets cu (pqS bv R.n λi=>(R.b i).val) ik);clear dz da cu i6 ik f5 j5;refine AW.nx 6 av ?_;refine AW.nx 7 bv ?_;refine AW.dn λ_=>?_
 refine hG (nv R.t.val) λvt jo=>?_
 have ia:E (ae prog 112 #[av,bv] c3 (rZ c3 λe w'=>e=vt)):=by
  have h:=De O R.n oM (λi=>(R.a i).val) (λi=>(R.b i).val) (λi _=>(R.a i).isLt) (λi _=>(R.b i).isLt) av bv c3 (be.get 11) (be.get 12);rw[lQ,show Md.pr R.a R.b R.n=R.t from Z,jo.out]at h;exact h
 refine PW.bg [] ?_;refine PM.gi be ia.out λjz ei=>?_
 clear ia be;refine PW.go [oZ l 140] ?_;refine hG (jz.setCells l 140 (wn R.t.val)) λoe cg=>?_
 have kf:=mk1 (Rp.Yk hk.2.2 (ei.at_ 10) R.t.val);refine hG ({ p4 with t:=R.t.val }:Rp) λp5 iz=>?_
 rw[iz.out]at kf;have ex:=mk1 (ei.upd 10 cg kf.2.1);refine PW.st cg jo kf.1 In aK ?_;clear ei hk;refine PW.dn ?_;refine hG (nv (R.t1*R.x).val) λu1 ly=>?_
 refine hG (nv (R.t2*R.x).val) λu2 jw=>?_
 refine hG (nv (R.t2*R.x*R.x).val) λu3 jx=>?_
 refine hG (nv (R.t1*R.x+R.t2*R.x*R.x).val) λu4 lx=>?_
 refine hG (nv (R.z*R.z).val) λu5 ll=>?_
 refine hG (nv (R.z*R.z*R.k).val) λu6 jy=>?_
 refine hG (nv R.tau.val) λu7 ii=>?_
 have HT:=mk7 (λW=>Aw O R.t1 R.x W) (λW=>Aw O R.t2 R.x W) (λW=>Aw O (R.t2*R.x) R.x W) (λW=>UI O (R.t1*R.x) (R.t2*R.x*R.x) W) (λW=>Aw O R.z R.z W) (λW=>Aw O (R.z*R.z) R.k W) (λW=>UI O (R.t1*R.x+R.t2*R.x*R.x) (R.z*R.z*R.k) W);rw[show R.t1*R.x+R.t2*R.x*R.x+R.z*R.z*R.k=R.tau from Z,ly.out,jw.out,jx.out,lx.out,ll.out,jy.out,ii.out,k7.out,hy.out,K.out,ha.out,hw.out]at HT;refine AM.bg 16 16 ex ?_;refine AM.ro 0 4 k7 ?_;refine AM.ro 1 17 K ?_;refine AM.ro 3 5 hy ?_;refine AM.ro 4 17 K ?_;refine AM.ro 6 17 K ?_;refine AM.ro 9 13 ha ?_;refine AM.ro 10 13 ha ?_;refine AM.ro 12 0 hw ?_;refine AW.gi 2 (λ_=>HT.1 _) λx1 h5=>?_
 refine AW.gi 5 (λ_=>HT.2.1 _) λx2 h6=>?_
 refine AW.gi 7 (λ_=>HT.2.2.1 _) λx3 ih=>?_
 refine AW.gi 8 (λ_=>HT.2.2.2.1 _) λx4 fk=>?_
 refine AW.gi 11 (λ_=>HT.2.2.2.2.1 _) λx5 ib=>?_
 refine AW.gi 13 (λ_=>HT.2.2.2.2.2.1 _) λx6 jk=>?_
 refine AW.gi 14 (λ_=>HT.2.2.2.2.2.2 _) λmf i4=>?_
 have ff:=mk1 (((((((ex.drew.grow h5).grow h6).grow ih).grow fk).grow ib).grow jk).grow i4);clear h5 h6 ih fk ib jk i4 ex HT;refine AW.nx 15 (oZ l 132) ?_;refine hG (mf.setCells l 132 (wn R.tau.val)) λos b8=>?_
 have kh:=mk1 (Rp.Yj kf.2.2 (ff.at_ 10) R.tau.val);refine hG ({ p5 with u:=R.tau.val }:Rp) λp6 il=>?_
 rw[il.out]at kh;have dy:=mk1 (ff.upd 10 b8 kh.2.1);refine AW.fi (us:=wn R.tau.val) ii aK In (λ_=>⟨kh.1,?_⟩);rw[b8.out];clear ff kf b8;refine hG (nv (R.rho*R.x).val) λu8 md=>?_
 refine hG (nv R.mu.val) λu9 g8=>?_
 have HT:=mk2 (λW=>Aw O R.rho R.x W) (λW=>UI O R.al (R.rho*R.x) W);rw[show R.al+R.rho*R.x=R.mu from Z,md.out,g8.out,hz.out,k6.out,K.out]at HT;refine AM.bg 6 6 dy ?_;refine AM.ro 0 2 hz ?_;refine AM.ro 1 3 k6 ?_;refine AM.ro 2 17 K ?_;refine AW.gi 3 (λ_=>HT.1 _) λx1 h5=>?_
 refine AW.gi 4 (λ_=>HT.2 _) λlv h6=>?_
 have eg:=mk1 ((dy.drew.grow h5).grow h6);clear h5 h6 dy HT;refine AW.nx 5 (oZ l 136) ?_;refine hG (lv.setCells l 136 (wn R.mu.val)) λfe b4=>?_
 have kb:=mk1 (Rp.Yl kh.2.2 (eg.at_ 10) R.mu.val);have ez:E (({ p6 with m:=R.mu.val }:Rp)=pz):=by
  rw[<-h7.out,<-il.out,<-iz.out,<-et.out,<-es.out,<-fd.out,<-dx.out];rfl
 rw[ez.out]at kb;have ki:=mk1 (eg.upd 10 b4 kb.2.1);have bi:pz.Ok:=kb.2.2;refine AW.fi (us:=wn R.mu.val) g8 aK In (λ_=>⟨kb.1,?_⟩);rw[b4.out];clear eg kh kb b4;refine hG (ZM pz.l.toArray) λmb hr=>?_
 refine hG (aS L8) λL9 bm=>?_
 have s9:L9.size=32:=by rw[<-bm.out];exact bC
 refine hG (nv R.w.val) λvw bf=>?_
 have j3:E (ae prog 59 #[mb,vl] fe (Ret λe w'=>SP.Only r 0 32 fe w'/\FE encB w' r 0 L9/\e=vw)):=by
  have h:=Sq O pz bi (by rw[<-h7.out];exact R.tau.isLt) (by rw[<-h7.out];exact R.mu.isLt) (by rw[<-h7.out];exact R.t.isLt) r L7 fe (ki.log 14) s7;rw[<-fb.out,show enL (aS L6) pz.u pz.m pz.t=L8 by rw[<-h7.out];exact hL.l8.symm,mQ O hP hL.w,bm.out,hr.out,k0.out,bf.out]at h;exact h
 refine PW.bg [] ?_;refine PW.ro (cs:=pz.l) (ki.at_ 10).2.1 hr uRd (by rw[Rp.len bi];exact iRd) ?_;refine PM.ro 11 ki k0 ?_;refine PW.ca j3.out ?_;rintro e ng ⟨hO,hH,he⟩;obtain rfl:=he.symm;have fu:=mk1 (ki.say 14 hO hH);clear j3 hO hH he ki;refine PM.al 93 (RG.z 4) fu λmr nu jq=>?_
 refine PM.st 18 (wn R.w.val) jq bf λlg mg=>?_
 clear fu jq;refine PW.dn ?_;have Kd:=mk1 mg.out.drew;have f4:=mk1 (LH O R.n fa n (gGT P) (hGT P) (uGT P) (λi hi=>⟨((pY C hP.1 R.n).tl i hi).ok,by show 1<=512;decide⟩) (oC C hP.1).ok (by show 1<=512;decide) R.y.val R.w.val R.y.isLt R.w.isLt _ lg.drew Kd.nk (Kd.get 4));rw[h8.out,bf.out]at f4;refine Zq ?_;refine AW.beg 10 10 (J:=(Iv.mx w _ _ 14 r H)) (Kd.out.wk 14) ?_;refine AW.ro 0 (cs:=pz.l) (λW ⟨_,h⟩=>(h.at_ 10).2.1) hr uRd (by rw[Rp.len bi];exact iRd) ?_;refine AW.ro 1 (λW ⟨_,h⟩=>(h.at_ 11).2.1) k0 uLg iLg ?_;refine AW.ro 2 (cs:=[.slice (some ⟨ga,oa,F⟩) R.n ca,.slice (some ⟨gb,ob,F⟩) R.n cb,sZ gc mc cc]) (λW ⟨_,h⟩=>(h.at_ 8).2.1) (Hid.mk' Z) uGr iGr ?_;refine AW.ro 3 (λW ⟨_,h⟩=>(h.at_ 12).2.1) h8 u40 In ?_;refine AW.ro 4 (λW ⟨_,h⟩=>(h.at_ 18).2.1) bf u40 In ?_;refine AW.mv 6 ?_;refine AW.mv 7 ?_;refine AW.ca 5 (λ_=>f4.out) (λe w' h=>h.1) ?_;rintro tv bq ⟨cn,ke⟩;have h0:=mk1 (Kd.grow cn);refine hG (((aC C k).pst (chF N) ivF u t q t).s) λLx le=>?_
 have fm:E (ae prog 116 #[vl,tv,av,bv] bq (Ret (PhR bq r t Lb Rb Lx Ab Bb))):=by
  obtain⟨Q,T⟩:=h0.out.q;have L:∀g,Q g->g≠r:=h0.ne T 14;rw[T.out]at ke;have h:=P9 C O k hP (t:=t) ht q (u:=u) (gGT P) (rQ N R.y.val (hGT P)) ((uGT P).map (tmT N R.w.val)) (by rw[m7];exact yF C hP.1 _) (by rw[lj];exact QH C k hP (R:=R)) (by rw[hu];exact(oC C hP.1).tm C k R.w) (by show 0<1;decide) (by show 1<=16;decide) (m:=Lb) (Rb:=Rb) m8 lm (r:=r) tv av bv bq (by rw[ir,bm.out];exact h0.log 14) (by rw[ir,bm.out];exact s9) (by rw[<-hn];exact ke.mono L) (by rw[<-hn,lc];exact SLq.mono (h0.xQ T 11) L) (by rw[<-hn,ma];exact SLq.mono (h0.xQ T 12) L);rw[le.out,<-me,<-m4,k0.out]at h;exact h
 clear f4 cn ke Kd;refine AW.cw 8 (λ_=>fm.out) (λe w' _ h=>⟨_,h0.sayB 14 h.on h.lg Z Z⟩) ?_;rintro e mj k3;obtain⟨vL,vR,vA,vB,rfl,tL,tR,eA,eB⟩:=k3.ex;have i0:=mk1 (h0.sayB 14 k3.on k3.lg);have l8:=(h0.at_ 1).1;have DJ:=mk1 (k3.dj _ _ _ _ Z);have fh:=k3.on.size;clear fm k3;have e0:=mk1 (Tc O pz bi (by rw[<-h7.out];exact R.tau.isLt) (by rw[<-h7.out];exact R.mu.isLt) (by rw[<-h7.out];exact R.t.isLt) vL vR vA vB ⟨tL.one.2,tR.one.2,eA.one.2,eB.one.2⟩ mj);rw[hr.out]at e0;refine AW.ca 9 (λ_=>e0.out) (λe w' h=>h.1) ?_;rintro e fp ⟨L,ra,rb,rc,br,re,rf,bt,rfl,hT,hU⟩;have f6:=mk1 (i0.grow L);have bu:vA.oneCell'=H/\vB.oneCell'=H/\vL.oneCell'=H/\vR.oneCell'=H:=⟨eA.one.2,eB.one.2,tL.one.2,tR.one.2⟩
 have DK:=mk1 (DjR.of DJ.out L hU fh);have RA:E (RgA bq.heap.size t pz Lb Rb Ab Bb (.agg #[r33 ra,r33 rb,r33 rc,r33 br,r32 re,r32 rf,r32 bt,vL,vR,vA,vB]) fp):=⟨⟨_,_,_,_,_,_,_,_,_,_,_,Z,hT.mono2 λ_ _ _=>trivial,tL.below L,tR.below L,(eA.keep (Kq.of_below L)).mono2 λ_ _ _=>trivial,(eB.keep (Kq.of_below L)).mono2 λ_ _ _=>trivial⟩,λa' b' c' d' u' m' s' n5 mq n0 mz e=>by
  simp only[ZM.injEq,zi.injEq,sw.injEq,and_true,r33,r32,Value.slice.injEq,ZV.injEq,Addr.mk.injEq]at e;obtain⟨rfl,rfl,rfl,rfl,rfl,rfl,rfl,rfl,rfl,rfl,rfl⟩:=e;exact DK.out⟩
 clear hT tL tR eA eB L e0 i0;refine hG (fp.setCells k8 0 [r33 ra,r33 rb,r33 rc,r33 br,r32 re,r32 rf,r32 bt,vL,vR,vA,vB]) λnp bc=>?_
 have gs:=mk1 (f6.put 1 bc);have RB:=mk1 (RA.set (us:=[r33 ra,r33 rb,r33 rc,r33 br,r32 re,r32 rf,r32 bt,vL,vR,vA,vB]) (f6.at_ 1) l8);rw[bc.out]at RB;refine AW.fi (us:=[r33 ra,r33 rb,r33 rc,r33 br,r32 re,r32 rf,r32 bt,vL,vR,vA,vB]) (Hid.mk' Z) (by simp only[yCy,yEM,yE4,bu.1,bu.2.1,bu.2.2.1,bu.2.2.2,show ∀g,(r33 g).oneCell'=H from λ_=>rfl,show ∀g,(r32 g).oneCell'=H from λ_=>rfl,yDX]) iAr (λ_=>⟨f6.th 1,?_⟩);rw[bc.out];have KE:=mk2 gs.bl (gF h0.bl.size RB.out);have K8:=gs.at_ 1;refine wp_ret ?_;refine Zx (aG 8 (T:=27) Z K8 Z uAr iAr) Z ?_;exact⟨_,Z,KE.1,_,KE.2.1,KE.2.2⟩
def Wd(n t:I):Prop:=n=2^t/\3<=t/\t<=6
def Wd.hv{t:I}(h:Wd n t)(W:Zl):eZ 51 #[iZ n] W (.tuple #[iZ t,tZ]):=by
 obtain⟨rfl,-,k⟩:=h;rw[<-Uw k];exact Uz (2^t) (TV k) W
def Wd.eight{t:I}(h:Wd n t):8<=n:=by
 obtain⟨rfl,h1,-⟩:=h;exact qp (n:=2) dC h1
def RX{t:I}(h:Wd n t)(w:Zl):eZ 12 #[iZ n] w tZ:=by
 have H:=mk1 (h.hv w);have c:(8:Y)<=(n:Y):=oN h.eight;clear h;go_enter func12,ntmps12;go_wp2_with fail
 refine H.mono ?_;rintro e b ⟨d,rfl,k,rfl⟩;go_wp2;go_ret;exact⟨_,Z,(mk1 k).out,Z⟩
def I9{t:I}(h:Wd n t)(w:Zl):eZ 47 #[iZ n] w (U ((2^n-1:I):Y)):=by
 obtain⟨rfl,h1,b⟩:=h;have k:t=3\/t=4\/t=5\/t=6:=S;rcases k with rfl|rfl|rfl|rfl
 all_goals
  go_enter func47,ntmps47;go_wp2;go_ret;exact⟨_,Z,ZF _ _,Z⟩
omit [NeZero N] in
theorem UL(O:Ord N)(a b:B N)(W:Zl):eZ 132 #[nv a.val,nv b.val] W (nv (a-b).val):=by
 rw[GG];exact FS O a.val b.val a.isLt b.isLt W
def rgD(n:I)(y z:B N):B N:=(z-z*z)*Md.pr (λ_=>1) (pwF y) n-z*z*z*ofF N (2^n-1)
def Ek{a:Bs}(b:a.size=33):dZ 100 #[pvl a,nv n] w λe w'=>Sm w.heap.size w' e [(n,a)]:=
 (mI a b n w).mono λ_ _ ⟨_,h1,d,_,c,k,hR⟩=>⟨_,h1,d,by rw[c];exact Sm.one hR k Z⟩
def Pm(C:IO P)(O:Ord N)(k:∀r:EC.Pt P,On r->mul N r=F)(hP:IsP N)(hN:18446744073709551616<=N){t:I}(hw:Wd n t)(p:Rp)(ok:p.Ok)(V:Bs)(Vp P1 P2:OnP P)(hV:V=wP Vp)(h1:p.c=wP P1)(h2:p.d=wP P2)(tau tt x y z:B N)(hu:p.u=tau.val)(ht:p.t=tt.val)(w:Zl)(X Y:Bs)(hX:X=wP ((aC C k).cm (hPV C) (gPG C) (tt-rgD n y z) tau))(hY:Y=wP ((aC C k).ad ((aC C k).ad ((aC C k).ac (z*z) Vp) ((aC C k).ac x P1)) ((aC C k).ac (x*x) P2))):
 eZ 60 #[.agg p.l.toArray,pvl V,iZ n,nv x.val,nv y.val,nv z.val] w (.bool (decide (X=Y))):=by
 have kf:n<=64:=by rw[hw.1];exact Zw (qp dC hw.2.2) dC
 have sV:V.size=33:=by rw[hV];exact aR _
 obtain⟨vp,hq⟩:=hE (ZM p.l.toArray);obtain⟨vV,l⟩:=hE (pvl V);obtain⟨vx,j⟩:=hE (nv x.val);obtain⟨vy,A⟩:=hE (nv y.val);obtain⟨vz,d⟩:=hE (nv z.val);obtain⟨vq,f⟩:=hE (nv (z*z).val);obtain⟨k6,hp⟩:=hE (w.heap.size);obtain⟨w1,hj⟩:=hE (lZ w p.l 113);obtain⟨k7,ha⟩:=hE (w1.heap.size);obtain⟨w2,hc⟩:=hE (lZ w1 (aA V) 40);obtain⟨k9,k5⟩:=hE (w2.heap.size);obtain⟨w3,k1⟩:=hE (lZ w2 (wn x.val) 93);obtain⟨kw,L⟩:=hE (w3.heap.size);obtain⟨w4,h9⟩:=hE (lZ w3 (wn y.val) 93);obtain⟨kx,h0⟩:=hE (w4.heap.size);obtain⟨w5,hr⟩:=hE (lZ w4 (wn z.val) 93);have K5:=mk1 (((((Mp.start w).new hp hj).new ha hc).new k5 k1).new L h9 |>.new h0 hr);have B1:E ((aj 113 vp).run prog w=.ok (jZ k6) w1):=hq.out▸hj.out▸hp.out▸Ov ok w;have B2:E ((aj 40 vV).run prog w1=.ok (jZ k7) w2):=l.out▸hc.out▸ha.out▸uP sV w1;have B3:E ((aj 93 vx).run prog w2=.ok (jZ k9) w3):=j.out▸k1.out▸k5.out▸boxS _ (w:=w2);have B4:E ((aj 93 vy).run prog w3=.ok (jZ kw) w4):=A.out▸h9.out▸L.out▸boxS _ (w:=w3);have B5:E ((aj 93 vz).run prog w4=.ok (jZ kx) w5):=d.out▸hr.out▸h0.out▸boxS _ (w:=w4);rw[hq.out,l.out,j.out,A.out,d.out];go_enter func60,ntmps60;refine PW.bg [] ?_;refine PW.ns B1 ?_;refine PW.ns B2 ?_;refine PW.ns B3 ?_;refine PW.ns B4 ?_;refine PW.ns B5 ?_;refine PW.en [fZ] ?_;have HQ:=mk1 (Aw O z z w5);rw[d.out,f.out]at HQ;refine PW.bg [] ?_;refine PW.ro (K5.at_ 4).2.1 d u40 In ?_;refine PW.ro (K5.at_ 4).2.1 d u40 In ?_;refine PW.gi HQ λw6 h7=>?_
 have K6:=mk1 (K5.grow h7);obtain⟨ky,h4⟩:=hE (w6.heap.size);obtain⟨w7,kc⟩:=hE (lZ w6 (RG.z 4) 93);obtain⟨w8,hy⟩:=hE (w7.setCells ky 0 (wn (z*z).val));have K7:=mk1 (K6.new h4 kc);have K8:=mk1 (K7.put 5 hy);refine PW.al h4 kc ?_;refine PW.st hy f (K7.th 5) In aK ?_;refine PW.dn ?_;obtain⟨v1,hn⟩:=hE (nv 1);have HO:=mk1 (BU 1 dC w8);rw[hn.out]at HO;refine PW.bg [] ?_;refine PW.gi HO λw9 kr=>?_
 have K9:=mk1 (K8.grow kr);obtain⟨kb,hk⟩:=hE (w9.heap.size);obtain⟨wA,k3⟩:=hE (lZ w9 (wn 1) 93);have kt:E ((pg 109 1 #[(0,v1)]).run prog w9=.ok (sZ kb 1 1) wA):=hn.out▸k3.out▸hk.out▸Xu (n:=1) (w:=w9);have FA:=aN hk k3;refine PW.ns kt ?_;refine PW.go [] ?_;refine PW.ca (My 1 kb n S wA FA.2) ?_;rintro ov wB ⟨kl,h5⟩;replace h5:=h5.fin (λ_=>(1:B N)) (λi _=>(ZC hP.1).symm);have q:=mk1 ((K9.grow FA.1).gets kl (pqS ov n λi=>((λ_=>(1:B N)) i).val) h5);refine PW.en [ov] ?_;obtain⟨a1,kg⟩:=hE (nv (z-z*z).val);obtain⟨a2,kd⟩:=hE (nv (Md.pr (λ_=>1) (pwF y) n).val);obtain⟨a3,kn⟩:=hE (nv ((z-z*z)*Md.pr (λ_=>1) (pwF y) n).val);obtain⟨a4,kh⟩:=hE (nv (z*z*z).val);obtain⟨a5,he⟩:=hE (nv (ofF N (2^n-1)).val);obtain⟨a6,b2⟩:=hE (nv (z*z*z*ofF N (2^n-1)).val);obtain⟨a7,m⟩:=hE (nv (rgD n y z).val);have HT:=mk5 (λW=>UL O z (z*z) W) (λW=>Aw O (z-z*z) (Md.pr (λ_=>1) (pwF y) n) W) (λW=>Aw O (z*z) z W) (λW=>Aw O (z*z*z) (ofF N (2^n-1)) W) (λW=>UL O ((z-z*z)*Md.pr (λ_=>1) (pwF y) n) (z*z*z*ofF N (2^n-1)) W);rw[show(z-z*z)*Md.pr (λ_=>1) (pwF y) n-z*z*z*ofF N (2^n-1)=rgD n y z from rfl,kg.out,kd.out,kn.out,kh.out,he.out,b2.out,m.out,d.out,f.out]at HT;have l2:2^n-1<2^64:=by
  have:=qp (n:=2) dC kf;have:=rj (n:=n) (show 0<2 by decide);omega
 obtain⟨gi,hm⟩:=hE (2^n-1);have ki:E (∀W,eZ 105 #[U gi] W a5):=λW=>by
  rw[<-he.out,<-hm.out,show(ofF N (2^n-1)).val=2^n-1 from ZC S];exact BU _ l2 W
 have km:E (∀W,eZ 47 #[iZ n] W (U gi)):=λW=>by
  rw[<-hm.out];exact I9 hw W
 obtain⟨Q,hQ⟩:=q.q;apply Zq;refine(gwL [pE vz,pE vq,pE a1,pE ov,pE vy,pE (iZ n),RG.pS Q n (λi=>(pwF y i).val),pE a2,pE a3,pE vq,pE vz,pE a4,pE (iZ n),pE (U gi),pE a5,pE a6,pE a7,RG.pN wB.heap.size (RG.z 4)] (λW=>kZ wB W) (λW W' hb h=>h.trans (hb.mono h.size))).tail2 18 kR kR kR ⟨
  gLo (cs:=wn z.val) 11 (λW c=>((q.grow c).at_ 4).2.1) u40 In (hR:=λ_=>d),
  gLo (cs:=wn (z*z).val) 13 (λW c=>((q.grow c).at_ 5).2.1) u40 In (hR:=λ_=>f),
  gC2 0 24 1 25 HT.1,
  RG.gO 14 ov,
  gLo (cs:=wn y.val) 10 (λW c=>((q.grow c).at_ 3).2.1) u40 In (hR:=λ_=>A),
  RG.gO 2 (iZ n),
  eT 4 28 5 29 109 (λx y=>#[x,y]) (λa u W o K c=>by
   obtain rfl:a=vy:=o;obtain rfl:u=iZ n:=K;rw[<-A.out];exact(RL O (x:=y.val) y.isLt (n:=n) S (w:=W)).mono λe W' ⟨v,h1,h2,M⟩=>⟨v,h1,h2,(M.mono λg T=>(q.grow c).nkq hQ g T).fin (pwF y) λi _=>nC hP.1 y i⟩),
  eT 3 27 6 30 112 (λx y=>#[x,y]) (λa u W o K c=>by
   obtain rfl:a=ov:=o;have h:=De O n S (λi=>((λ_=>(1:B N)) i).val) (λi=>(pwF y i).val) (λi _=>(1:B N).isLt) (λi _=>(pwF y i).isLt) a u W ((q.grow c).xQ hQ 0) K;rw[lQ,kd.out]at h;exact h),
  gC2 2 26 7 31 HT.2.1,
  gLo (cs:=wn (z*z).val) 13 (λW c=>((q.grow c).at_ 5).2.1) u40 In (hR:=λ_=>f),
  gLo (cs:=wn z.val) 11 (λW c=>((q.grow c).at_ 4).2.1) u40 In (hR:=λ_=>d),
  gC2 9 33 10 34 HT.2.2.1,
  RG.gO 2 (iZ n),
  xH 12 36 47 (λx=>#[x]) (λa W o c=>by
   obtain rfl:a=iZ n:=o;exact km W),
  xH 13 37 105 (λx=>#[x]) (λa W o c=>by
   obtain rfl:a=U gi:=o;exact ki W),
  gC2 11 35 14 38 HT.2.2.2.1,
  gC2 8 32 15 39 HT.2.2.2.2,
  Au (RG.z 4) 93 (λW W' h c=>⟨_,rfl,c.size,h⟩),Fs⟩ ⟨rfl,rfl,rfl,Zo _,λ_ _=>rfl⟩ ?_
 intro Z wC hR c;have kp:=hR 16 dC;obtain⟨kv,b3,ku,kk⟩:=hR 17 dC;dsimp only[cD,mi,r9,tr];simp only[ah,Zr,Zt,Zu];rw[kp,b3];have KC:=mk1 (q.add c kk ku);obtain⟨wD,k4⟩:=hE (wC.setCells kv 0 (wn (rgD n y z).val));have KD:=mk1 (KC.put 6 k4);refine PW.st k4 m (KC.th 6) In aK ?_;refine PW.dn ?_;have tV:Tl N [((z*z).val,V)] ((aC C k).ac (z*z) Vp):=by rw[hV];exact Tl.pt C k (z*z) Vp
 have t1:Tl N [(x.val,p.c)] ((aC C k).ac x P1):=by rw[h1];exact Tl.pt C k x P1
 have t2:Tl N [((x*x).val,p.d)] ((aC C k).ac (x*x) P2):=by rw[h2];exact Tl.pt C k (x*x) P2
 have t3:=tV.app C k t1;have t4:=t3.app C k t2;obtain⟨vc,k0⟩:=hE (pvl p.c);obtain⟨vd,k2⟩:=hE (pvl p.d);obtain⟨b4,hz⟩:=hE (nv (x*x).val);obtain⟨vY,hi⟩:=hE (pvl Y);have K:=mk7 (λW=>Ek (a:=V) sV (n:=(z*z).val) (w:=W)) (λW=>Ek (a:=p.c) ok.c (n:=x.val) (w:=W)) (λW=>Ek (a:=p.d) ok.d (n:=(x*x).val) (w:=W)) (λW=>Aw O x x W)
  (λ(W:Zl) (s u:Zm) (a:Sm 0 W s [((z*z).val,V)]) (b:Sm 0 W u [(x.val,p.c)])=>cY 0 s u _ _ (by simp) (by simp) (by simp) tV.ok.sz t1.ok.sz W (ZW a) (ZW b))
  (λ(W:Zl) (s u:Zm) (a:Sm 0 W s ([((z*z).val,V)]++[(x.val,p.c)])) (b:Sm 0 W u [((x*x).val,p.d)])=>cY 0 s u _ _ (by simp) (by simp) (by simp) t3.ok.sz t2.ok.sz W (ZW a) (ZW b))
  (λ(W:Zl) (s:Zm) (a:Sm 0 W s ([((z*z).val,V)]++[(x.val,p.c)]++[((x*x).val,p.d)]))=>(by rw[hY];exact t4.point C O k (by simp) (by simp) a:eZ 103 #[s] W (pvl Y)))
 rw[l.out,k0.out,k2.out,j.out,f.out,hz.out,hi.out]at K;have ip:∀ {b:Bs},b.size=33->gZ 40 (aA b).length:=λh=>by rw[aB h];exact iCP
 refine Zq<|AW.beg 15 15 (J:=(Iv.mp w _ _ D)) KD.drew ?_
 refine AW.ro 0 (λW h=>(h.at_ 1).2.1) l uCP (ip sV) ?_;refine AW.ro 1 (λW h=>(h.at_ 5).2.1) f u40 In ?_;refine AW.va 3 (oZ k6 66) ?_;refine AW.ro 4 (λW h=>(Rp.at7 ok (h.at_ 0).2.1).2.2.1) k0 uCP (ip ok.c) ?_;refine AW.ro 5 (λW h=>(h.at_ 2).2.1) j u40 In ?_;refine AW.va 8 (oZ k6 99) ?_;refine AW.ro 9 (λW h=>(Rp.at7 ok (h.at_ 0).2.1).2.2.2.1) k2 uCP (ip ok.d) ?_;refine AW.ro 10 (λW h=>(h.at_ 2).2.1) j u40 In ?_;refine AW.ro 11 (λW h=>(h.at_ 2).2.1) j u40 In ?_;refine AW.ca 2 (λ_=>K.1 _) (λe w' h=>h.1) ?_;rintro s1 x1 ⟨h8,q1⟩;refine AW.ca 6 (λ_=>K.2.1 _) (λe w' h=>h.1) ?_;rintro s2 x2 ⟨o,q2⟩;refine AW.ca 7 (λ_=>K.2.2.2.2.1 _ _ _ (q1.q.keep (Kq.of_below o)).sm q2.q.sm) (λe w' h=>h.1) ?_;rintro s3 x3 ⟨h6,q3⟩;refine AW.gi 12 (λ_=>K.2.2.2.1 _) λx4 ke=>?_
 refine AW.ca 13 (λ_=>K.2.2.1 _) (λe w' h=>h.1) ?_;rintro s5 x5 ⟨k8,q5⟩;refine AW.ca 14 (λ_=>K.2.2.2.2.2.1 _ _ _ ((q3.q.keep (Kq.of_below ke)).keep (Kq.of_below k8)).sm q5.q.sm) (λe w' h=>h.1) ?_;rintro s6 x6 ⟨h7,q6⟩;have KE:=mk1 (((((KD.drew.grow h8).grow o).grow h6).grow ke).grow k8 |>.gets h7 (pqM s6 _) q6.q);refine AW.nx 15 s6 ?_;refine AW.dn λ_=>?_
 obtain⟨b6,T⟩:=hE (nv tt.val);obtain⟨b5,M⟩:=hE (nv tau.val);obtain⟨vm,ko⟩:=hE (nv (tt-rgD n y z).val);obtain⟨vX,ka⟩:=hE (pvl X);have HM:=mk2 (λW=>UL O tt (rgD n y z) W) (λW=>rD (P:=P) C O (tt-rgD n y z).isLt tau.isLt W);rw[Dd C k (tt-rgD n y z) tau,show wP ((aC C k).cm (hPV C) (gPG C) (tt-rgD n y z) tau)=X from hX.symm,T.out,M.out,ko.out,ka.out,m.out]at HM;have sX:X.size=33:=by rw[hX];exact aR _
 have sY:Y.size=33:=by rw[hY];exact aR _
 have kz:E (∀W:Zl,(eqGuard .eql 40 (.tmp 62) (.tmp 64) vX vY >>= λ_=>binOp .eql 40 vX vY).run prog W=.ok (.bool (decide (X=Y))) W):=λW=>by
  rw[<-ka.out,<-hi.out,ZK,show(eqGuard .eql 40 (.tmp 62) (.tmp 64) (pvl X) (pvl Y)).run prog W=.ok () W by kernel_rfl];exact So sX sY (w:=W)
 refine Zq<|AW.beg 10 10 (J:=(Iv.mp w _ _ D)) KE.drew ?_
 refine AW.va 0 (oZ k6 140) ?_;refine AW.ro 1 (cs:=wn tt.val) (λW h=>by rw[<-ht];exact(Rp.at7 ok (h.at_ 0).2.1).2.2.2.2.2.2) T u40 In ?_;refine AW.ro 2 (λW h=>(h.at_ 6).2.1) m u40 In ?_;refine AW.va 4 (oZ k6 132) ?_;refine AW.ro 5 (cs:=wn tau.val) (λW h=>by rw[<-hu];exact(Rp.at7 ok (h.at_ 0).2.1).2.2.2.2.1) M u40 In ?_;refine AW.mv 7 ?_;refine AW.gi 3 (λ_=>HM.1 _) λx1 h8=>?_
 refine AW.gi 6 (λ_=>HM.2 _) λx2 o=>?_
 refine AW.gi 8 (λh=>K.2.2.2.2.2.2 _ _ (SmQ.sm (h.get 1))) λx3 h6=>?_
 have KF:=mk1 (((KE.drew.grow h8).grow o).grow h6);refine AW.ns 9 (kz x3) (ZF _ _) ?_;refine AW.nx 10 (.bool (decide (X=Y))) ?_;refine AW.dn λ_=>?_
 obtain⟨bb,kj⟩:=hE (decide (X=Y));rw[kj.out];go_wp2;go_ret;exact⟨_,rfl,KF.bl,rfl⟩
def rgS(y z:B N)(i:I):B N:=z*pwF y i+z*z*pwF (ofF N 2) i
def PP{y z:B N}{i:I}(k:IsP N)(b:2<N):sPl N (sTi N z.val (pwN N y.val i)) (sTi N (sTi N z.val z.val) (pwN N 2 i))=(rgS y z i).val:=by
 show _=(z*pwF y i+z*z*pwF (ofF N 2) i).val;rw[nF,fQ,fQ,fQ,<-nC k.1,<-nC k.1,show(ofF N 2).val=2 from ZC b]
def WG(C:IO P)(O:Ord N)(k:∀r:EC.Pt P,On r->mul N r=F)(hP:IsP N)(hN:18446744073709551616<=N)(k0:0<n)(ka:n<=64)(p:Rp)(ok:p.Ok)(PA PS:OnP P)(hA:p.a=wP PA)(hS:p.s=wP PS)(mu tt x y z:B N)(hm:p.m=mu.val)(ht:p.t=tt.val)(G H:I->LB)(U:LB)(g h:I->OnP P)(u:OnP P)(hG:Gd N n 1 G g)(hH:Gd N n 1 H h)(hU:Tl N U u)(hz:U.length=1):
 ∃l,Tl N l ((aC C k).ad ((aC C k).ad ((aC C k).ad ((aC C k).ad PA ((aC C k).ac x PS)) ((aC C k).ac (-1) ((aC C k).ac mu (gPG C)))) ((aC C k).ad ((aC C k).dt (λ_=>-z) g n) ((aC C k).dt (rgS y z) h n))) ((aC C k).ac tt u))/\(0<l.length/\l.length<=150) /\
  ∀(Q:I->Prop) (vg:Zm) (w:Zl),GRq Q w vg n G H U->dZ 62 #[.agg p.l.toArray,vg,iZ n,nv x.val,nv y.val,nv z.val] w λe w'=>Sm w.heap.size w' e l:=by
 obtain⟨Gb,h6⟩:=hE (wr (gG P));have sG:Gb.size=33:=h6.out▸aR _;have tA:Tl N [(1,p.a)] PA:=by rw[hA];exact Tl.one C hP.1 PA
 have tS:Tl N [(x.val,p.s)] ((aC C k).ac x PS):=by rw[hS];exact Tl.pt C k x PS
 have tG:Tl N [(mu.val,Gb)] ((aC C k).ac mu (gPG C)):=h6.out▸Tl.pt C k mu (gPG C);have t1:=tA.app C k tS;have tM:=tG.tm C k (-1);rw[Wp hP.1]at tM;have t2:=t1.app C k tM;have tL:=(hG.cmb C k (λ_=>-z)).1.app C k (hH.cmb C k (rgS y z)).1;have lL:(eJ N (λ_=>(-z).val) G n++eJ N (λi=>(rgS y z i).val) H n).length=n+n:=by rw[Zv,(hG.cmb C k (λ_=>-z)).2,(hH.cmb C k (rgS y z)).2,tF]
 have tU:=hU.tm C k tt;have lU:(U.map (tmT N tt.val)).length=1:=by rw[ZI,hz]
 have t3:=t2.app C k tL;have t4:=t3.app C k tU;have k8:=wH k0 (by decide:0<1) S hG hH hU S S;refine⟨_,t4,⟨by simp,by simp only[Zv,ZI,lL,lU,List.length_cons,List.length_nil]at *;omega⟩,λQ vg w h0=>?_⟩;obtain⟨lb,h7⟩:=hE (eJ N (λ_=>(-z).val) G n++eJ N (λi=>(rgS y z i).val) H n);obtain⟨lu,V⟩:=hE (U.map (tmT N tt.val));obtain⟨l2,q⟩:=hE ([(1,p.a)]++[(x.val,p.s)]++[(mu.val,Gb)].map (tmT N (sMi N 0 1)));rw[q.out,h7.out,V.out];have n2:l2.length=3:=by rw[<-q.out];rfl
 rw[h7.out]at tL lL;rw[V.out]at tU lU;rw[q.out]at t2;have hw:=t2.app C k tL;have h2:2<N:=S;obtain⟨vp,hj⟩:=hE (ZM p.l.toArray);obtain⟨vx,m⟩:=hE (nv x.val);obtain⟨vy,K⟩:=hE (nv y.val);obtain⟨vz,t⟩:=hE (nv z.val);obtain⟨vm,he⟩:=hE (nv mu.val);obtain⟨vt,hq⟩:=hE (nv tt.val);obtain⟨vG,hy⟩:=hE (pvl Gb);obtain⟨va,hp⟩:=hE (pvl p.a);obtain⟨vs,hc⟩:=hE (pvl p.s);have o:=mk8 (λW=>CS p.a ok.a W) (λW=>Ek (a:=p.s) ok.s (n:=x.val) (w:=W)) (λW=>Ek (a:=Gb) sG (n:=mu.val) (w:=W)) (λW=>Si (P:=P) C W)
  (λ(W:Zl) (s u:Zm) (a:Sm 0 W s [(1,p.a)]) (b:Sm 0 W u [(x.val,p.s)])=>cY 0 s u _ _ (by simp) (by simp) (by simp) tA.ok.sz tS.ok.sz W (ZW a) (ZW b))
  (λ(W:Zl) (s u:Zm) (a:Sm 0 W s ([(1,p.a)]++[(x.val,p.s)])) (b:Sm 0 W u [(mu.val,Gb)])=>zB O 0 s u _ _ (by simp) (by simp) (by simp) t1.ok.sz tG.ok.sz tG.ok.lt W (pj _) a b)
  (λ(W:Zl) (s u:Zm) (a:Sm 0 W s l2) (b:Sm 0 W u lb)=>cY 0 s u l2 lb (by rw[Zv];omega) S S t2.ok.sz tL.ok.sz W (ZW a) (ZW b))
  (λ(W:Zl) (s u:Zm) (a:Sm 0 W s (l2++lb)) (b:Sm 0 W u lu)=>cY 0 s u (l2++lb) lu (by simp only[Zv];omega) (by rw[Zv];omega) S hw.ok.sz tU.ok.sz W (ZW a) (ZW b))
 rw[q.out,h6.out,hy.out,hp.out,hc.out,m.out,he.out]at o;have k4:E (∀(Q:I->Prop) (W:Zl) (v a b:Zm),GRq Q W v n G H U->SLq Q W a n (λ_=>(-z).val)->SLq Q W b n (λi=>(rgS y z i).val)->dZ 102 #[v,a,b] W λe w'=>Sm W.heap.size w' e lb):=λQ W v a b g1 g2 g3=>by
  rw[<-h7.out];exact An O n 1 G H U k8 _ _ (λi _=>(-z).isLt) (λi _=>(rgS y z i).isLt) v a b W g1 g2 g3
 have k5:E (∀(W:Zl) (v:Zm),Sm 0 W v U->dZ 128 #[v,vt] W λe w'=>Sm W.heap.size w' e lu):=λW v a=>by
  rw[<-V.out,<-hq.out];exact eO O tt.isLt 0 v U S hU.ok.szm hU.ok.lt W a
 have hu:=mk1 (λW=>Il O h2 (y:=y.val) (z:=z.val) y.isLt z.isLt n S W);rw[K.out,t.out]at hu;obtain⟨q1,q2,q3,rfl,-,-,-⟩:=h0.ex;obtain⟨k6,hi⟩:=hE (w.heap.size);obtain⟨w1,hb⟩:=hE (lZ w p.l 113);obtain⟨k7,h9⟩:=hE (w1.heap.size);obtain⟨w2,ha⟩:=hE (w1.alloc (.cells [q1,q2,q3].toArray 126));obtain⟨k9,hr⟩:=hE (w2.heap.size);obtain⟨w3,hn⟩:=hE (lZ w2 (wn x.val) 93);obtain⟨k2,L⟩:=hE (w3.heap.size);obtain⟨w4,h8⟩:=hE (lZ w3 (wn y.val) 93);obtain⟨k3,M⟩:=hE (w4.heap.size);obtain⟨w5,hk⟩:=hE (lZ w4 (wn z.val) 93);have K0:=(Mp.start w).has (pqG (.agg #[q1,q2,q3]) n G H U) (h0.mono2 λg _ _ e=>by cases e);have K5:=mk1 ((((K0.new hi hb).new h9 ha).new hr hn).new L h8 |>.new M hk);obtain⟨vg,j⟩:=hE (ZM #[q1,q2,q3]);have B1:E ((aj 113 vp).run prog w=.ok (jZ k6) w1):=hj.out▸hb.out▸hi.out▸Ov ok w;have B2:E ((aj 126 vg).run prog w1=.ok (jZ k7) w2):=j.out▸ha.out▸h9.out▸Ow (w:=w1);have B3:E ((aj 93 vx).run prog w2=.ok (jZ k9) w3):=m.out▸hn.out▸hr.out▸boxS _ (w:=w2);have B4:E ((aj 93 vy).run prog w3=.ok (jZ k2) w4):=K.out▸h8.out▸L.out▸boxS _ (w:=w3);have B5:E ((aj 93 vz).run prog w4=.ok (jZ k3) w5):=t.out▸hk.out▸M.out▸boxS _ (w:=w4);rw[hj.out,j.out,m.out,K.out,t.out];rw[j.out]at K5;have ip:∀ {b:Bs},b.size=33->gZ 40 (aA b).length:=λh=>by rw[aB h];exact iCP
 go_enter func62,ntmps62;refine PW.bg [] ?_;refine PW.ns B1 ?_;refine PW.ns B2 ?_;refine PW.ns B3 ?_;refine PW.ns B4 ?_;refine PW.ns B5 ?_;refine PW.en [nZ] ?_;refine Zq<|AW.beg 13 13 (J:=(Iv.mp w _ _ D)) K5.drew ?_
 refine AW.va 0 (jZ k6) ?_;refine AW.ro 1 (λW h=>(Rp.at7 ok (h.at_ 0).2.1).1) hp uCP (ip ok.a) ?_;refine AW.va 3 (oZ k6 33) ?_;refine AW.ro 4 (λW h=>(Rp.at7 ok (h.at_ 0).2.1).2.1) hc uCP (ip ok.s) ?_;refine AW.ro 5 (λW h=>(h.at_ 2).2.1) m u40 In ?_;refine AW.va 9 (oZ k6 136) ?_;refine AW.ro 10 (cs:=wn mu.val) (λW h=>by rw[<-hm];exact(Rp.at7 ok (h.at_ 0).2.1).2.2.2.2.2.1) he u40 In ?_;refine AW.ca 2 (λ_=>o.1 _) (λe w' h=>h.1) ?_;rintro s1 x1 ⟨h5,e1⟩;refine AW.ca 6 (λ_=>o.2.1 _) (λe w' h=>h.1) ?_;rintro s2 x2 ⟨f,e2⟩;refine AW.ca 7 (λ_=>o.2.2.2.2.1 _ _ _ (e1.q.keep (Kq.of_below f)).sm e2.q.sm) (λe w' h=>h.1) ?_;rintro s3 x3 ⟨T,e3⟩;refine AW.gi 8 (λ_=>o.2.2.2.1 _) λx4 d=>?_
 refine AW.ca 11 (λ_=>o.2.2.1 _) (λe w' h=>h.1) ?_;rintro s5 x5 ⟨A,e5⟩;refine AW.ca 12 (λ_=>o.2.2.2.2.2.1 _ _ _ ((e3.q.keep (Kq.of_below d)).keep (Kq.of_below A)).sm e5.q.sm) (λe w' h=>h.1) ?_;rintro s6 x6 ⟨k1,e6⟩;have KE:=mk1 (((((K5.drew.grow h5).grow f).grow T).grow d).grow A |>.gets k1 (pqM s6 l2) e6.q);refine AW.nx 13 s6 ?_;refine AW.dn λ_=>?_
 refine Zq<|AW.beg 16 16 (J:=(Iv.mp w _ _ D)) KE.drew ?_
 refine AW.mv 0 ?_;refine AW.ro 1 (λW h=>(h.at_ 1).2.1) j uGr iGr ?_;refine AW.ro 2 (λW h=>(h.at_ 3).2.1) K u40 In ?_;refine AW.ro 3 (λW h=>(h.at_ 4).2.1) t u40 In ?_;refine AW.mv 4 ?_;refine AW.va 10 (oZ k7 2) ?_;refine AW.ce 11 DL (λW h=>(h.at_ 1).2.1 2 _ Z) ?_;refine AW.va 12 (oZ k6 140) ?_;refine AW.ro 13 (cs:=wn tt.val) (λW h=>by rw[<-ht];exact(Rp.at7 ok (h.at_ 0).2.1).2.2.2.2.2.2) hq u40 In ?_;refine AW.ca 5 (λ_=>hu _) (λe w' h=>h.1) ?_;rintro e y1 ⟨h5,ls,rs,rfl,X,h4⟩;replace X:=X.fin (λ_=>-z) (λi _=>(Nh z).symm);replace h4:=h4.fin (rgS y z) (λi _=>PP hP h2 (y:=y) (z:=z) (i:=i));have KF:=mk1 ((KE.drew.gets h5 (pqS ls n λ_=>(-z).val) X).has (pqS rs n λi=>(rgS y z i).val) (h4.mono λg hg=>KE.drew.nk g hg));refine AW.va 6 ls ?_;refine AW.va 7 rs ?_;refine AW.ca 8 (λ_=>k4 _ _ _ _ _ (KF.get 0) (KF.get 2) (KF.get 3)) (λe w' h=>h.1) ?_;rintro s2 y2 ⟨f,e2⟩;refine AW.ca 9 (λ_=>o.2.2.2.2.2.2.1 _ _ _ (SmQ.sm ((KF.grow f).get 1)) e2.q.sm) (λe w' h=>h.1) ?_;rintro s3 y3 ⟨T,e3⟩;have KG:=mk1 ((KF.grow f).grow T);refine AW.ca 14 (λ_=>k5 _ _ (by
  have hh:=KG.get 0;rw[<-j.out]at hh;obtain⟨a,b,c,e,-,-,h3⟩:=hh.ex;cases e
  exact h3.sm)) (λe w' h=>h.1) ?_
 rintro s4 y4 ⟨d,e4⟩;refine AW.ca 15 (λ_=>o.2.2.2.2.2.2.2 _ _ _ (e3.q.keep (Kq.of_below d)).sm e4.q.sm) (λe w' h=>h.1) ?_;rintro s5 y5 ⟨A,e5⟩;have KH:=mk1 ((KG.grow d).grow A);have E5:E (Sm w.heap.size y5 s5 (l2++(lb++lu))):=by
  rw[<-uk];exact e5.q.mono λg hg=>Zw (KG.grow d).bl.size hg
 refine AW.nx 16 s5 ?_;refine AW.dn λ_=>?_
 go_wp2;go_ret;exact⟨_,Z,KH.bl,E5⟩
end
namespace RG
variable {P:ai}{ops:Array Z4}{Q:fI->Act->Zl->Prop}{w:Zl}{a0:Act}{G:Gw}{S:Zl->Zl->Prop}{B1:Zl->Prop}{m k:Nat}{o:Z4}
def Gw.lk(G:Gw)(m:I)(S:Zl->Zl->Prop)(k:Zl->Prop):Flow:=⟨G.R,λb=>if b=0 then G.B else k,λi w w'=>(i=m/\S w w')\/kZ w w',λ_=>[],λb=>if b=0 then [] else [m]⟩
def GI(h:bG P Q G.flow ops a0 k o):bG P Q (G.lk m S B1) ops a0 k o:=λa w K h1 c e d=>h a w K h1 c (λb _=>e 0 Z) λv w' hE hR=>d v w' (ZW hE) hR
def YG(h:∀(a:Act) (w:Zl),PreG G ops a0 m o a w->B1 w->∃(k:List (Tmp × Zm)) (f:ph) (args:R Zm),AllE a k/\(bZ (k.map (·.1)) o,(Z0 (evo (evl k)) o).run P w)=(H,.ok (.enter f args) w)/\ae P f args w (Ret λe w'=>S w w'/\G.R m e w'))(l:okK ops m [m]=H:=by kernel_rfl):bG P Q (G.lk m S B1) ops a0 m o:=by
 intro a w K h1 c b g;let⟨k,f,args,q,hs,r⟩:=h a w ⟨λj d p hd=>h1 j d p Z hd,c,b 0 Z⟩ (b 1 l)
 simp only[an.injEq]at hs;unfold ao;rw[nM (evl k) (k.map (·.1)) hs.1 q.ev,hs.2,un];refine r.mono ?_;rintro e w' ⟨v,rfl,i,n⟩;exact g _ _ (Z5 ⟨Z,i⟩) n
def Gw.tailL{id:I}(G:Gw)(m:I)(S:Zl->Zl->Prop)(d:Zl->Prop)(n:I)(s:∀j v w w',j≠m->S w w'->G.R j v w->G.R j v w')(p:∀w w',S w w'->G.B w->G.B w')(l:∀w w',kZ w w'->d w->d w')(q:(decide (n<ops.size) && mB ops n)=H)(y:P.follows .mixedOrders=H)(z:Df ops a0.tmps.size=H)(h:kC P Q (G.lk m S d) ops a0 0 (ops.toList.take n))(k:G.B w.drew)(o:d w.drew)
 (x:∀(V:I->Zm) (w':Zl),(∀i,i<n->G.R i (V i) w')->G.B w'->wpList P ops Q (ops.toList.drop n) (cD V (ops.toList.take n) 0 a0) w'):(gH id ops H).wp P Q a0 w:=by
 rw[ZD,decide_eq_true_eq]at q;refine AB (G.lk m S d) q.1 q.2 y ⟨z,Ca h,λi j _ _ g _ _ v w w' hE hR=>?_,λi b _ c w w' hE k=>?_⟩ (λb=>?_) λV w' h1 u=>x V w' (λi f=>h1 i f Z) (u 0 Z)
 .rcases hE with⟨f,r⟩|hE
  .exact s j v w w' (λe=>g (f.trans e.symm)) r hR
  exact G.sR j v w w' hE hR
 .unfold Gw.lk at c k⊢;dsimp only at c k⊢;by_cases t:b=0
  .rw[GD t]at k⊢;rcases hE with⟨-,r⟩|hE
   .exact p w w' r k
   exact G.sB w w' hE k
  rw[Id t]at k c⊢;rcases hE with⟨f,-⟩|hE
  .rw[f]at c;simp at c
  exact l w w' hE k
 unfold Gw.lk;dsimp only;split
 .exact k
 exact o
end RG
section
open SPA
def pX(b:I)(cs:G Zm):S1:=⟨λv w=>∃k,v=jZ k/\b<=k/\FJ w k cs/\∀i x,w.cell? ⟨k,i,F⟩=J x->x∈cs,λ_ w w' c ⟨k,h1,e,d,f⟩=>⟨k,h1,e,d.below c,λi x hx=>f i x (by rw[<-ZP (a:=⟨k,i,F⟩) (c.block k d.1)];exact hx)⟩⟩
def Qf{b:I}{cs:G Zm}(d:SP.Only r 0 32 W W')(j:r<b)(h:(pX b cs).p v W):(pX b cs).p v W':=by
 let⟨k,h1,f,c,g⟩:=h
 have e:=d.block k c.1 S;exact⟨k,h1,f,eR c d.size e,λi x hx=>g i x (by rw[<-ZP (a:=⟨k,i,F⟩) e];exact hx)⟩
def WL{P:ai}{c:R Z4}{Q:fI->Act->Zl->Prop}{a0:Act}{G:Gw}(b:I)(cs:List Zm)(T:ZR)(e:∀W,G.B W->b<=W.heap.size)(hR:∀v W,(pX b cs).p v W->G.R k v W)(hs:∀W,(bZ [] o,(Z0 (evo (evl [])) o).run P W)=(H,.ok (.value (jZ W.heap.size)) (W.alloc (.cells cs.toArray T))):=by intro _;kernel_rfl):bG P Q G.flow c a0 k o:=
 bK λa W d=>⟨[],_,_,trivial,hs W,aD _,hR _ _ ⟨_,Z,e W d.b,aE,λi x hx=>by
  rw[World.cell?_alloc_at _ _ _ _ Z,ZU]at hx;exact List.mem_of_getElem? hx⟩⟩
section
variable {Q:Nat->Prop}{W:Zl}{v:Zm}{k n:Nat}{T G H:Nat->List (Nat × Bs)}{l U:List (Nat × Bs)}
def SmQ.offX(h:SmQ Q W v l)(hl:0<l.length)(hx:∀i x,W.cell? ⟨k,i,F⟩=J x->x=nZ):SmQ (λg=>Q g/\g≠k) W v l:=by
 let⟨g,c,h1,e,j,f,d⟩:=h
 refine⟨g,c,h1,e,⟨j,?_⟩,f,d⟩;rintro rfl;match l,hl with
 | (a,b) :: t,_=>cases hx _ _ (d 0 _ Z)
def GLq.offX(h:GLq Q W v n T)(r:0<n)(hT:∀j,j<n->0<(T j).length)(hx:∀i x,W.cell? ⟨k,i,F⟩=J x->x=nZ):GLq (λg=>Q g/\g≠k) W v n T:=by
 let⟨g,o,c,h1,l,q,m,d⟩:=h
 refine⟨g,o,c,h1,l,⟨q,?_⟩,m,λj f=>?_⟩
 .rintro rfl;obtain⟨x,b,p,c',e,-⟩:=d 0 r;have:=hx _ _ b;rw[e]at this;cases this
 let⟨x,b,p⟩:=d j f
 exact⟨x,b,p.offX (hT j f) hx⟩
def GRq.offX(h:GRq Q W v n G H U)(b:0<n)(hG:∀j,j<n->0<(G j).length)(e:∀j,j<n->0<(H j).length)(p:0<U.length)(hx:∀i x,W.cell? ⟨k,i,F⟩=J x->x=nZ):GRq (λg=>Q g/\g≠k) W v n G H U:=by
 let⟨d,m,f,h1,c,o,l⟩:=h.ex
 exact⟨d,m,f,h1,c.offX b hG hx,o.offX b e hx,l.offX p hx⟩
end
def Mp.sayAdd{d:G (I × G Zm)}{S:G Pq}{c:G Zm}{L j:Bs}(h:Mp w W rs S)(i:I)(l:SP.Only r 0 32 W W')(u:hZ W' r 0 j)(v:FJ W' k c)(t:W.heap.size<=k)(f:rs[i]? = J (r,aA L):=by rfl)(e:rs.set i (r,aA j)++[(k,c)]=d:=by(simp only[Zt,Zu,List.cons_append,List.nil_append])<;>rfl):Mp w W' d S/\∀g,Nk rs g->g≠k->Nk d g:=by
 subst e;have m:∀g,Nk (rs.set i (r,aA j)++[(k,c)]) g↔Nk rs g/\g≠k:=λg=>by
  unfold Nk;rw[ty,Mp.keys f,py];simp
 refine⟨?_,λg h1 o=>(m g).2 ⟨h1,o⟩⟩;have h1:=h.say i l u f Z;have q:=h.lt (Mp.key f);refine⟨h1.bl,λx hx=>?_,?_,λs hs=>?_⟩
 .rcases py.1 hx with hx|hx
  .exact h1.rw x hx
  rw[ur.1 hx];exact⟨Zw h.bl.size t,v⟩
 .rw[ty,G.nodup_append];refine⟨h1.nd,by simp,λa p b n e=>?_⟩;rw[Mp.keys f]at p;have o:=(h.lt p).2;simp at n;omega
 refine s.kp _ W _ ⟨l.size,λg n hl=>l.block g hl λe=>((m g).1 n).1 (by rw[e];exact Mp.key f)⟩ (s.mo _ _ _ (λg n p=>(m g).2 ⟨p,oM⟩) (h.ob s hs))
variable {P:Nat}[NeZero P]{N:Nat}[NeZero N]
def NK{y:B N}(C:IO P)(k:∀r:EC.Pt P,On r->mul N r=F)(c:IsP N):Gd N n 1 (rQ N y.val (hGT P)) (λi=>(aC C k).ac (pwF (ivF y) i) (gPt C ⟨#[114,105,103,104,116]⟩ i)):=by
 have g:=pY C c.1 n;refine⟨λi b=>?_,λi b=>by unfold rQ;rw[ZI];exact g.len i b⟩;have h:=(g.tl i b).tm C k (pwF (ivF y) i);rw[<-nC c.1]at h;exact h
end
section
open SPA
section
variable {P:ai}{ops:Array Z4}{Q:fI->Act->Zl->Prop}{p r:Nat}{J:Iv}{i fuel:Nat}{o:Z4}{listed:Array Bool}{a a':Act}{w w':Zl}{d:Option Tmp}{x v:Zm}{t:Tmp}{T:ZR}{b off:Nat}{cs:List Zm}
def AG.ro(i:I)(u:∀W,J.p W->W.rangeAt b off cs)(hv:Hid (.agg cs.toArray=x))(m:(P.underlying T).map (·.isRow)=some H)(n:(P.info? T).map (·.size)=some cs.length)(h:AW P ops Q p r J fuel (listed.setIfInBounds i H) a' w)(ho:ops[i]? = some o:=by(simp only[ZU,ZQ,ZT])<;>rfl)(hd:o.dst=d:=by rfl)(g:rl o (yielded ops a.tmps)=H:=by kernel_rfl)(k:o.op=.load T (.tmp t):=by rfl)(hx:a.eval (.tmp t)=oZ b off:=by rfl)
 (s:a.put d x=a':=by(simp only[ah,Zr,Zt,Zu])<;>rfl) (j:aw1 ops p r (qw ops J.b p r i) i listed=H:=by kernel_rfl) (f:∀c a w,Q (.panic c) (a.put o.dst x) w->Q (.panic c) a w:=by exact λ_ _ _ h=>h):AW P ops Q p r J (fuel+1) listed a w:=by
 obtain rfl:=hv;let⟨q,h1,e⟩:=Zp.1 m
 exact AW.take i (qw ops J.b p r i) ho hd (yieldsIf_load_mid g T (.tmp t) k b off hx cs q (λw l=>u w (Sa.bel l)) h1 e n) s j f h
def AG.mv(i:I)(h:AW P ops Q p r J fuel (listed.setIfInBounds i H) a' w)(ho:ops[i]? = some o:=by(simp only[ZU,ZQ,ZT])<;>rfl)(hd:o.dst=d:=by rfl)(g:rl o (yielded ops a.tmps)=H:=by kernel_rfl)(k:o.op=.move (.tmp t):=by rfl)(hx:a.eval (.tmp t)=x:=by(conv=>lhs;whnf)<;>rfl)
 (e:a.put d x=a':=by(simp only[ah,Zr,Zt,Zu])<;>rfl) (b:aw1 ops p r (fw ops i) i listed=H:=by kernel_rfl) (f:∀c a w,Q (.panic c) (a.put o.dst x) w->Q (.panic c) a w:=by exact λ_ _ _ h=>h):AW P ops Q p r J (fuel+1) listed a w:=
 AW.take i (fw ops i) ho hd (Z5 ⟨g,λw _=>by unfold Z0;rw[k];dsimp only;rw[hx];rfl⟩) e b f h
def AG.cw(i:I){args:Array Zm}{R:Zm->Zl->Prop}{F:Zm->Act}(l:J.p w->ae P f args w (Ret R))(hR:∀e w',J.p w->R e w'->J.p w')(h:∀e w',R e w'->AW P ops Q p r J fuel (listed.setIfInBounds i H) (F e) w')(ho:ops[i]? = some o:=by(simp only[ZU,ZQ,ZT])<;>rfl)(hd:o.dst=d:=by rfl)(c:rl o (yielded ops a.tmps)=H:=by kernel_rfl)(hx:(Z0 a.eval o).run P w=.ok (.enter f args) w:=by kernel_rfl)(j:ZX .any ops listed=[i]:=by kernel_rfl)(hf:∀e,a.put d e=F e:=by intro _;(simp only[ah,Zr,Zt,Zu])<;>rfl):AW P ops Q p r J (fuel+1) listed a w:=λb=>by
 subst hd;exact anyS.step ho j λK g=>by
  rw[GD c];rw[ao,hx,un];apply(l b).mono;rintro e w' ⟨v,rfl,k⟩;exact g _ _ (ZW (hR v w' b k)) (hf v ▸ h v w' k (hR v w' b k))
end
variable {P:Nat}[NeZero P]{N:Nat}[NeZero N]
def Y2{a b c d e f g h i j k:Zm}:(aj 27 (.agg #[a,b,c,d,e,f,g,h,i,j,k])).run prog w=.ok (jZ w.heap.size) (w.alloc (.cells #[a,b,c,d,e,f,g,h,i,j,k] 27)):=kR
abbrev pqP(k n:I)(B:I->Bs):Pq:=⟨λQ W=>PtL Q W k n B,λ_ _ _ k h=>h.keep k,λ_ _ _ m h=>h.mono2 m⟩
def four(a b c d:Bs)(j:I):Bs:=if j=0 then a else if j=1 then b else if j=2 then c else d
def LJ(a b c:α)(j:I):α:=if j=0 then a else if j=1 then b else c
def LY{i:I}{a:I->I}(h:SLq Q W (sZ k n c) n a)(b:i<n):W.rangeAt k (0+4*i) (wn (a i)):=by
 obtain⟨g,o,c',e,-,-,-,h⟩:=h;cases e
 exact h i b
def IE{i:I}{B:I->Bs}(h:PtL Q W k n B)(b:i<n):W.rangeAt k (0+33*i) (aA (B i)):=by
 rw[Zs];exact(h i b).2.2
abbrev Z3:G Zm:=[nZ,nZ,nZ]
def SZ{x:Zm}(h:x∈Z3):x=nZ:=by
 simp only[fT,ZJ,or_false,or_self]at h;exact h
def pLw(v:Zm)(r:I)(L:Bs):S1:=⟨λx w=>x=v/\r<w.heap.size/\hZ w r 0 L,λ_ _ _ k h=>⟨h.1,Zn h.2.1 k.size,Holds.below h.2.2 k h.2.1⟩⟩
def row_ne{c:G Zm}(h:(rs.map (·.1)).Nodup)(i j:I)(o:i≠j)(p:rs[i]? = J (k,c))(s:rs[j]? = J (r,c')):k≠r:=λe=>by
 have f:=G.pairwise_iff_getElem.1 h;let⟨q,n⟩:=Zz.1 p
 let⟨m,t⟩:=Zz.1 s
 have g:(rs.map (·.1))[i]'(by simpa using q)=k:=by rw[uq,n]
 have d:(rs.map (·.1))[j]'(by simpa using m)=r:=by rw[uq,t]
 rcases I.lt_or_ge i j with b|l
 .exact f i j _ _ b (g.trans (e.trans d.symm))
 exact f j i _ _ S (d.trans (e.symm.trans g.symm))
def uIl:yZ 104:=yQ
def iIl(c k t a b:I):(prog.info? 104).map (·.size)=J (inL c k t a b).length:=kR
end
section
open SPA
section
variable {P:ai}{ops:Array Z4}{rest:List Z4}{o:Z4}{a:Act}{w:Zl}{Q:fI->Act->Zl->Prop}
def PW.gd(h:wpList P ops Q ({ o with guard:=F } :: rest) a w)(k:rl o (yielded ops a.tmps)=H:=by kernel_rfl):wpList P ops Q (o :: rest) a w:=by
 unfold wpList at h⊢;rw[GD k];rw[GD (show rl { o with guard:=F }(yielded ops a.tmps)=H from Z)]at h;exact h
end
variable {P:Nat}[NeZero P]{N:Nat}[NeZero N]
def Vy(C:IO P){t:I}(hw:Wd n t)(V:Bs)(q:B P × B P)(L:rd P V=J q)(v:Zm)(l1 l2 l3 o i u p m s k b:Zm)(w:Zl)(hA:Arg33 w v V)(hV:∀W,kZ w W->eZ 13 #[pvl V,iZ n,.agg #[l1,l2,l3,o,i,u,p,m,s,k,b]] W tZ):
 eZ 6 #[v,iZ n,.agg #[l1,l2,l3,o,i,u,p,m,s,k,b]] w tZ:=by
 have O:=Iu L;let⟨y,d⟩:=hE (pvl V)
 let⟨T,c⟩:=hE (ZM #[l1,l2,l3,o,i,u,p,m,s,k,b])
 let⟨k5,l⟩:=hE w.heap.size
 let⟨K,r⟩:=hE (w.alloc (.cells [l1,l2,l3,o,i,u,p,m,s,k,b].toArray 27))
 have M:=mk1 ((Mp.start w).new l r);have B1:E ((aj 27 T).run prog w=.ok (jZ k5) K):=c.out▸r.out▸l.out▸Y2;have HR:E (∀W,kZ w W->eZ 11 #[v] W (.tuple #[y,tZ])):=λW hb=>by
  rw[<-d.out];exact Js C v V q W (hA.below hb) L
 have HV:E (∀W,kZ w W->eZ 13 #[y,iZ n,T] W tZ):=by
  rw[<-d.out,<-c.out];exact hV
 have iV:gZ 40 (aA V).length:=by rw[aB O];exact iCP
 rw[c.out];go_enter func6,ntmps6;refine PW.bg [] ?_;refine PW.ns B1 ?_;refine PW.en [fZ] ?_;refine PW.bg [] ?_;refine PW.gi (HR K M.bl) λX A=>?_
 have K2:=mk1 (M.grow A);refine PW.go [y,tZ] ?_;refine hG X.heap.size λk7 j=>?_
 refine hG (lZ X z33 40) λw3 g=>?_
 refine hG (w3.setCells k7 0 (aA V)) λw4 f=>?_
 have Q:=aB O;have N:=mk1 (K2.new j g);have K4:=mk1 (N.put 1 f Z Q);refine PW.al j g ?_;refine PW.st f d (N.th 1 Z Q) iV bW ?_;refine PW.en [tZ] ?_;refine PW.bg [] ?_;refine PW.gd ?_;refine PW.go [] ?_;refine PW.gd ?_;refine PW.gi (RX hw w4) λw5 a=>?_
 have x:=mk1 (K4.grow a);refine PW.go [tZ] ?_;refine PW.gd ?_;refine PW.ro (x.at_ 1).2.1 d uCP iV ?_;refine PW.gd ?_;refine PW.go [] ?_;refine PW.gd ?_;refine PW.ro (cs:=[l1,l2,l3,o,i,u,p,m,s,k,b]) (x.at_ 0).2.1 c uAr iAr ?_;refine PW.gd ?_;refine PW.gi (HV w5 x.bl) λw6 z=>?_
 have K6:=mk1 (x.grow z);refine PW.en [tZ,tZ] ?_;go_wp2;go_ret;exact⟨_,Z,K6.bl,Z⟩
def V9(C:IO P)(O:Ord N)(k:∀r:EC.Pt P,On r->mul N r=F)(hP:IsP N){t:I}(R:Rv N)(m:Wd R.n t)(hv:R.v<2^R.n)(hN:18446744073709551616<=N)(T:G Fk)(sq:GJ Addr)(sc:I)(V A S C1 C2 L3 L6 L8:Bs)(hL:RvL C k R V A S C1 C2 L3 L6 L8)(hS:RvS R T)(q:Md.Ps Bs (B N) (OnP P))(hj:q.s=aS L8)(h0:q.a=R.a)(hc:q.b=R.b)(h6:q.g=gPt C ⟨#[108,101,102,116]⟩)(hg:q.h=R.hh (aC C k) (gPt C ⟨#[114,105,103,104,116]⟩))(u:OnP P)(hu:u=(aC C k).ac R.w (uPt C))(X Rb:I->Bs)(h8:∀j,X j=wP ((aC C k).pLi (chF N) ivF u t q j))(hq:∀j,Rb j=wP ((aC C k).pTi (chF N) ivF u t q j))(Ab Bb:Bs)(hm:Ab=bx (((aC C k).pst (chF N) ivF u t q t).a 0).val)(hn:Bb=bx (((aC C k).pst (chF N) ivF u t q t).b 0).val)(pz:Rp)(h7:E (⟨A,S,C1,C2,R.tau.val,R.mu.val,R.t.val⟩=pz))(v1:Zm)(w:Zl)(hk:Arg w v1 (bx R.k.val))(hp:PartOk w (.slice sq 32 sc) T):
 dZ 9 #[U (R.v:Y),v1,iZ (R.n:Y),.slice sq 32 sc] w λe w'=>∃e' B0,e=.tuple #[e',iZ 0]/\w.heap.size<=B0/\RgA B0 t pz X Rb Ab Bb e' w':=by
 have h4:R.n<=64:=by rw[m.1];exact Zw (qp dC m.2.2) dC
 have p:=λ(W:Zl) (o:kZ w W)=>P7 C O k hP t m.2.2 R m.1 (Zn hv (Zw (qp dC h4) dC)) hN T sq 32 sc V A S C1 C2 L3 L6 L8 hL hS q hj h0 hc h6 hg u hu X Rb h8 hq Ab Bb hm hn pz h7 W (hp.below o)
 have a:=λ(W:Zl) (o:kZ w W)=>Ih O (hk.below o)
 rw[FW O R.k.isLt]at a;generalize ht:R.v=vn at *;generalize h2:(2^R.n-1:I)=gn at *;have HG:=λ(W:Zl)=>I9 m W
 rw[h2]at HG;have HW:=λ(W:Zl)=>RX m W
 let⟨vk,b⟩:=hE (nv R.k.val)
 rw[b.out]at p;have hi:E (∀W,kZ w W->eZ 46 #[v1] W (.tuple #[vk,tZ])):=λW o=>by
  rw[<-b.out];exact a W o
 have HH:=mk3 p HG HW;refine hG w.heap.size λk8 z=>?_
 refine hG (lZ w z11 27) λw1 s=>?_
 go_enter func9,ntmps9;refine PW.bg [] ?_;refine PW.al z s ?_;refine PW.en [iZ 0] ?_;refine Zq<|PW.bg [] ?_
 refine PW.gi (HH.2.2 w1) λw2 h3=>?_
 have K2:=mk1 ((mk1 ((Mp.start w).new z s)).grow h3);refine PW.go [fZ] ?_;refine PW.gd ?_;refine PW.go [] ?_;refine PW.gd ?_;refine PW.go [iZ 32] ?_;refine PW.gd ?_;refine PW.en [fZ,fZ] ?_;refine Z2 rfl<|wp_skip<|PW.bg [] ?_
 refine PW.gi (hi w2 K2.bl) λw3 h5=>?_
 refine PW.go [vk,tZ] ?_;refine hG w3.heap.size λha d=>?_
 refine hG (lZ w3 (RG.z 4) 93) λw4 n=>?_
 refine hG (w4.setCells ha 0 (wn R.k.val)) λw5 x=>?_
 have K4:=mk1 ((mk1 (K2.grow h5)).new d n);refine PW.al d n ?_;refine PW.st x b (K4.th 1) In aK ?_;refine PW.en [tZ] ?_;refine Zq<|PW.rg [fZ] ?_
 refine Z2 rfl<|wp_skip<|Zq<|PW.bg [] ?_
 refine PW.gi (HH.2.1 w5) λw6 h9=>?_
 have y:=mk1 ((mk1 (K4.put 1 x)).grow h9);refine PW.go [.bool (decide ((gn:Y)<(vn:Y)))] ?_;rw[decide_eq_false oM];refine PW.dn ?_;refine Z2 rfl<|wp_skip<|PW.bg [] ?_
 refine PW.ro (y.at_ 1).2.1 b u40 In ?_;refine PW.go [] ?_;refine PW.ca (HH.1 w6 y.bl) ?_;rintro e w7 ⟨hr,B0,he,v⟩;have l8:=(y.at_ 0).1;have K7:=mk1 (y.grow hr);obtain⟨ra,rb,rc,f,re,rf,i,Q,M,K,L,rfl,-,tL,tR,eA,eB⟩:=v.ex;have c:K.oneCell'=H/\L.oneCell'=H/\Q.oneCell'=H/\M.oneCell'=H:=⟨eA.one.2,eB.one.2,tL.one.2,tR.one.2⟩
 refine hG (w7.setCells k8 0 [r33 ra,r33 rb,r33 rc,r33 f,r32 re,r32 rf,r32 i,Q,M,K,L]) λw8 l=>?_
 have K8:=mk1 (K7.put 0 l);have RB:=mk1 ((mk1 v).set (us:=[r33 ra,r33 rb,r33 rc,r33 f,r32 re,r32 rf,r32 i,Q,M,K,L]) (K7.at_ 0) oM);rw[l.out]at RB;refine PW.st (cs:=[r33 ra,r33 rb,r33 rc,r33 f,r32 re,r32 rf,r32 i,Q,M,K,L]) l (Hid.mk' Z) (K7.th 0) iAr (by simp only[yCy,yEM,yE4,c.1,c.2.1,c.2.2.1,c.2.2.2,show ∀g,(r33 g).oneCell'=H from λ_=>rfl,show ∀g,(r32 g).oneCell'=H from λ_=>rfl,yDX]) ?_;refine PW.en [iZ 0] ?_;have KE:=mk2 K8.bl (gF (Zw y.bl.size he) RB);have Kr:=(K8.at_ 0).2.1;refine wp_ret<|Zx (FZ 8 9 Z Kr Z Z uAr iAr) Z ?_
 exact⟨_,Z,KE.1,_,_,Z,KE.2.1,KE.2.2⟩
end
end Go.Proofs.YtndpeoebngkhmaaGreat
