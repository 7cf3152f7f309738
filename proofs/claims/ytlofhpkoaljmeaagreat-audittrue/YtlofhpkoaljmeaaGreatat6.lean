import Derived.Lib.SlBuf
import Derived.Test.YtlofhpkoaljmeaaGreatat5
set_option linter.unusedVariables false
set_option linter.defProp false
set_option linter.constructorNameAsVariable false
set_option linter.unusedSimpArgs false
set_option maxRecDepth 1000000
set_option maxHeartbeats 4000000
namespace Go.Proofs.YtlofhpkoaljmeaaGreat
open EC NT RG SP
open _root_.And renaming intro->YV
open _root_.Array renaming getD->yEw,getD_eq_getD_getElem?->XQ,getElem?_eq_getElem->X8,getElem?_eq_some_iff->X5,getElem?_setIfInBounds->Zx,length_toList->XU,replicate_succ->yBV,replicate_zero->yBU,setIfInBounds_comm->yCL
open _root_.Bool renaming and_true->yC9,or_eq_true->Z2
open _root_.Go renaming Addr->Y0,Calls->YN,FuncId->ZQ,Oper->Yp,Operand->yAe,Program->YJ,Tmp->Zw,TypeId->Yd,Value->XB,World->XA,bodyPost_ret->XN,execOp->Yh,run_loadVar_mid->yAx,undef->Zs,wpList_load_mid->YI,wpList_plain->ZL,wpList_store_mid->Yk
open _root_.Go.Act renaming put->Ym
open _root_.Go.Builtin renaming append_->YG,copy_->yAD
open _root_.Go.Fence renaming wide->yCJ
open _root_.Go.Instr renaming box->Ys,buildSlice->Yw,indexAt->Yv,sliceAt->Zy
open _root_.Go.IntKind renaming i64->Ya,u64->Yt,wrap_i64->YD,wrap_u64->ZO
open _root_.Go.KeepsOthers renaming alloc->yEc,setCell->yCk
open _root_.Go.Next renaming value->ZS
open _root_.Go.Oper renaming semAt_some->yBQ,upon_enter->ZM,wp->Y3
open _root_.Go.Region renaming ready->Yu,wanted->Zc
open _root_.Go.Result renaming andThen_ok->Yz
open _root_.Go.RowKit.Below renaming refl->XR
open _root_.Go.Sem renaming run_bind->X1,run_pure->Zr
open _root_.Go.Value renaming agg->X9,func->yCI,int->YW,ownBlock->Zh,slice->yAA
open _root_.Go.World renaming cell?->YZ,cell?_of_block->X4,frozen?->Zk,rangeAt->yBa,rangeAt_setCells_apart->Yn,size_alloc->XP,there_setCells->Zg
open _root_.List renaming getElem?_cons_zero->Yi,getElem?_cons_succ->Yg,getElem?_toArray->Yj,all_toArray->yAJ,append_assoc->YP,append_nil->yAk,append_toArray->yB5,cons_append->ZX,drop->yAd,getElem?_append_left->XY,getElem?_append_right->XW,getElem?_eq_getElem->XO,getElem?_eq_some_iff->XM,getElem?_map->YB,length_append->XK,length_cons->Yx,length_map->XZ,length_nil->Zz,length_range->ZZ,mem_cons->Y6,mem_map->YC,nil_append->Z1,nodup_cons->yAU,not_mem_nil->Yf,push_toArray->yCn,range->YA,range_succ->yAT,replicate->YM,setIfInBounds_toArray->XF,set_cons_succ->XJ,set_cons_zero->XL,size_toArray->YF,take->yAb
open _root_.Nat renaming add_assoc->ZB,add_sub_cancel_left->ZE,add_zero->yAl,le_of_eq->yBr,le_of_lt->yAg,le_refl->XD,le_trans->XH,lt_of_lt_of_le->XC,lt_of_sub_eq_succ->yA7,min->yAw,min_le_left->yCM,min_le_right->yCF,mod_eq_of_lt->X6,mod_lt->Y8,mul_add->yA1,mul_le_mul_left->yAY,mul_one->Z5,ne_of_gt->ZN,not_lt_zero->ZP,pow_add->yAP,pow_le_pow_right->Y5,pow_pos->yAz,pow_succ->Zf,pow_zero->yBd,reduceAdd->YT,reduceSub->yDe,sub_self->yBi,sub_zero->yBz,zero_add->XI,zero_le->Zl,zero_lt_succ->yCE,zero_mod->yA6,zero_mul->yDu
open _root_.Ne renaming symm->yBh
open _root_.Option renaming isSome_iff_exists->YQ,map_eq_some_iff->XE,some->XX
open _root_.Or renaming inl->Ye,inr->X7
open _root_.Prod renaming mk->Ze
open Go.Proofs.Tryz
open Go.RowKit Go.Sort Go.Deep
variable {P:Nat}[NeZero P]{N:Nat}
section
open SPA
variable {P:Nat}[NeZero P]{N:Nat}[NeZero N]
def Nb:yZ 64:=yQ
def KU:gZ 64 4:=gQ
def DjF(B:Nat)(W:XA)(t:Nat)(f e d c:XB):Prop:=∃k b l m,d=r32 k/\c=r32 b/\(k :: b :: (l++m)).Nodup/\W.ownsRow 0 23 1 f t (l.map r33)/\W.ownsRow 0 23 1 e t (m.map r33)/\∀g,g∈k :: b :: (l++m)->B<=g/\g<W.heap.size
def DjF.keep{B f t:Nat}{W W':XA}{b k c d:XB}(h:DjF B W t b k c d)(o:f<=B)(j:W.heap.size<=W'.heap.size)(hv:∀g,b.ownBlock=some g->W'.heap[g]? = W.heap[g]?)(q:∀g,k.ownBlock=some g->W'.heap[g]? = W.heap[g]?):DjF f W' t b k c d:=by
 obtain⟨s,p,l,m,n,u,r,v,w,e⟩:=h;exact⟨s,p,l,m,n,u,r,bE v hv,bE w q,λg i=>⟨XH o (e g i).1,XC (e g i).2 j⟩⟩
def DjF.of{B t c b:Nat}{W W':XA}{v u:XB}(h:Dj W B t t v u)(o:W.heap.size<=W'.heap.size)(hv:∀g,v.ownBlock=some g->W'.heap[g]? = W.heap[g]?)(i:∀g,u.ownBlock=some g->W'.heap[g]? = W.heap[g]?)(p:B<=W.heap.size)(q:W.heap.size<=c)(r:c<b)(s:b<W'.heap.size):DjF B W' t v u (r32 c) (r32 b):=by
 obtain⟨l,m,n,f,j,d⟩:=h;refine⟨c,b,l,m,rfl,rfl,?_,bE f hv,bE j i,λg k=>?_⟩
 .rw[yAU,yAU];refine⟨λe=>?_,λe=>?_,n⟩
  .rcases Y6.1 e with e|e
   .omega
   .have:=(d _ e).2;omega
  .have:=(d _ e).2;omega
 .rcases Y6.1 k with rfl|k
  .exact⟨oM,oM⟩
  .rcases Y6.1 k with rfl|k
   .exact⟨oM,oM⟩
   .have:=d _ k;exact⟨this.1,oM⟩
structure PhR(w:XA)(r t:Nat)(Lb Rb:Nat->Bs)(L:Bs)(A B:Bs)(e:XB)(w':XA):Prop where
 on:SP.Only r 0 32 w w'
 ex:∃vL vR vA vB,e=.agg #[vL,vR,vA,vB]/\TlL (λ_=>True) w.heap.size t w' vL Lb/\TlL (λ_=>True) w.heap.size t w' vR Rb/\ElQ (w.heap.size<=·) 32 w' vA A/\ElQ (w.heap.size<=·) 32 w' vB B
 lg:hZ w' r 0 L
 dj:∀vL vR vA vB,e=.agg #[vL,vR,vA,vB]->DjF w.heap.size w' t vL vR vA vB
def uLL:wZ 27:=wQ
def iLL:gZ 27 1:=gQ
def Xe{k n c:Nat}{w:XA}:(Yw 27 1 #[(0,sZ k n c)]).run prog w=.ok (sZ w.heap.size 1 1) (w.alloc (.cells #[sZ k n c] 23)):=kR
def Vo{Q:Nat->Prop}{W:XA}{x:XB}{b:Bs}(h:ElQ Q 33 W x b)(w:XA):(Yw 27 1 #[(0,x)]).run prog w=.ok (sZ w.heap.size 1 1) (w.alloc (.cells #[x] 23)):=by
 obtain⟨k,c,rfl,-⟩:=h;exact Xe
def TlL.one{Q:Nat->Prop}{k i:Nat}{W:XA}{v:XB}{B:Nat->Bs}(h:TlL Q k i W v B):v.cells=#[v]/\v.oneCell'=true:=by
 obtain⟨xs,⟨-,⟨rfl,-⟩|⟨g,cap,cur,rfl,-⟩⟩,-⟩:=h.ex<;>exact⟨rfl,rfl⟩
def Ph.put'{w W W':XA}{r k j g n:Nat}{l m d c v va f:XB}{i Rb:Nat->Bs}{L:Bs}{a b:Nat->Nat}{G H:Nat->LB}{U:LB}(h:Ph w W r k j g n l m d c v va f i Rb L a b G H U)(e:W'=(W.setCells (k+3) 0 [d]).setCells (k+3) 1 [c]):Ph w W' r k j g n d c d c v va f i Rb L a b G H U:=e ▸ h.put
def anyS.fin{P:YJ}{c:Array Yp}{Q:Exit->Act->XA->Prop}{S:Array Bool->XA->Prop}{k:Array Bool}{a:Act}{w:XA}(d:Yu .any c k=[])(h:∀W,W=w->Q .normal a W)(b:Nat):anyS P c Q S b k a w:=anyS.done d (h w rfl) b
def LX{A B:OnP P}{X Y:Bs}(O:Ord N)(l:IsP N)(r:Nat)(L:Bs)(f:X=wP A)(d:Y=wP B):∃(s:Bs) (c:Fin N),Hid (chF N L A B=(s,c)/\s.size=32)/\Hid (∀W:XA,hZ W r 0 L->L.size=32->cZ 135 #[lgV r,.string ⟨#[108,101,102,116]⟩,pvl X,.string ⟨#[114,105,103,104,116]⟩,pvl Y] W (Ret λe w'=>SP.Only r 0 32 W w'/\hZ w' r 0 s/\e=nv c.val)):=by
 subst f d;have e:chF N L A B=(aW (kE [108,101,102,116] [114,105,103,104,116] L (wP A) (wP B)),kV N (kE [108,101,102,116] [114,105,103,104,116] L (wP A) (wP B))):=by unfold chF;dsimp only
 have n:=aL A.1;have g:=aL B.1;refine⟨_,_,⟨e,aY⟩,λW i m=>?_⟩;have k:=uC O r L (wP A) (wP B) ⟨#[108,101,102,116]⟩ ⟨#[114,105,103,104,116]⟩ dC dC n g W i m;have j:kE (⟨#[108,101,102,116]⟩:ByteArray).data.toList (⟨#[114,105,103,104,116]⟩:ByteArray).data.toList L (wP A) (wP B)=kE [108,101,102,116] [114,105,103,104,116] L (wP A) (wP B):=rfl;rw[j]at k;have b:∀M,cha N M<N:=λM=>oS O
 generalize kE [108,101,102,116] [114,105,103,104,116] L (wP A) (wP B)=M at k;rw[GU l.1 (b M)]at k;exact k
def own_base{W:XA}{c b n k:Nat}{e:Yd}{v:XB}{xs:List XB}(h:W.ownsRow c e k v n xs)(j:b<=c):W.ownsRow b e k v n xs:=by
 rcases h with⟨d,i|⟨g,cap,cur,rfl,l,f⟩⟩
 .exact⟨d,Ye i⟩
 .exact⟨d,X7 ⟨g,cap,cur,rfl,XH j l,f⟩⟩
def Ph.fin{w W:XA}{r k t n:Nat}{i f v va C l m:XB}{y Rb:Nat->Bs}{L A B:Bs}{a b:Nat->Nat}{G H:Nat->LB}{U:LB}(h:Ph w W r k t t n i f i f v va C y Rb L a b G H U)(E:ElQ (k+4<=·) 32 W l A)(D:ElQ (k+4<=·) 32 W m B)(hd:DjF (k+4) W t i f l m):
 Row W (k+2) [nZ,nZ,nZ,nZ]/\Row (W.setCells (k+2) 0 [i,f,l,m]) (k+2) [i,f,l,m]/\PhR w r t y Rb L A B (.agg #[i,f,l,m]) (W.setCells (k+2) 0 [i,f,l,m]):=by
 have I:=h.rk;have K:=h.wk;have j:∀g,g≠k+2->(W.setCells (k+2) 0 [i,f,l,m]).heap[g]? = W.heap[g]?:=λg u=>aE _ 0 _ g u
 have p:W.heap.size<=(W.setCells (k+2) 0 [i,f,l,m]).heap.size:=by rw[setCells_size];exact XD _
 have kq:Kq (QH r k i f) W (W.setCells (k+2) 0 [i,f,l,m]):=⟨p,λg q _=>j g (oN q.2.1)⟩
 have s:Kq (k+4<=·) W (W.setCells (k+2) 0 [i,f,l,m]):=⟨p,λg q _=>j g oM⟩
 have x:∀ {z:XB}{B:Nat->Bs},TlL (QH r k i f) (k+4) t W z B->TlL (λ_=>True) w.heap.size t (W.setCells (k+2) 0 [i,f,l,m]) z B:=λhx=>by
  have F:=(hx.keep kq λg o=>j g (oN ((hx.lt o).1))).mono2 (Q':=λ_=>True) λ_ _ _=>trivial
  obtain⟨xs,u,J⟩:=F.ex;exact⟨xs,own_base u oM,J⟩
 exact⟨h.r2,h.r2.put rfl,jN h.on h.wk h.rk oM,⟨_,_,_,_,rfl,x h.tL,x h.tR,(E.keep s).mono2 λg _ o=>oM,(D.keep s).mono2 λg _ o=>oM⟩,jU h.lg (j r oM),λa b c d e=>by
  injection e with e
  simp only[Array.mk.injEq,List.cons.injEq,and_true]at e;obtain⟨rfl,rfl,rfl,rfl⟩:=e;exact hd.keep oM p (λg o=>j g (oN ((h.tL.lt o).1))) (λg o=>j g (oN ((h.tR.lt o).1)))⟩
omit [NeZero N] in
theorem eE(O:Ord N){a:Nat}(c:a<N)(w:XA):cZ 10 #[nv a] w (rZ w λe w'=>ElQ (w.heap.size<=·) 32 w' e (bx a)/\∃g,e=r32 g):=by
 apply(nP O c w).mono;rintro e w' ⟨v,rfl,k,b,rfl⟩;exact⟨_,rfl,b.bel,⟨k,32,rfl,XD _,cQ a,b.le,b.lt,cb_holds b.range b.there⟩,k,rfl⟩
def iB1:gZ 23 1:=gQ
def hvI{P:YJ}{I:Sem XB}{c:Sem Next}{x:XB}(b:∀w,I.run P w=.ok x w)(k:c=I >>= λv=>pure (ZS v)):∀w,c.run P w=.ok (.value x) w:=λw=>by rw[k,X1,b w,Yz,Zr]
def nfB{b:Bool}(h:b=true):¬b=false:=λe=>by rw[h]at e;cases e
def Ww{m:Nat}:((m+m:Nat):Int).tdiv 2=(m:Int):=by rw[Int.tdiv_eq_ediv_of_nonneg oM];omega
def NY(C:Fld P)(O:Ord N)(f:∀r:EC.Pt P,On r->mul N r=none)(hP:IsP N)(t:Nat)(ht:t<=6)(q:Md.Ps Bs (Fin N) (OnP P))(u:OnP P)(G0 H0:Nat->LB)(U:LB)(dp:Gd N (2^t) 1 G0 q.g)(ew:Gd N (2^t) 1 H0 q.h)(hU:Tl N U u)(f8:0<U.length)(g3:U.length<=16)
 (Lb Rb:Nat->Bs) (g8:∀j,Lb j=wP ((aC C f).pLi (chF N) ivF u t q j)) (gm:∀j,Rb j=wP ((aC C f).pTi (chF N) ivF u t q j)) (r:Nat) (v0 cy cg:XB) (w:XA) (hL:hZ w r 0 q.s) (d8:q.s.size=32) (hv:GRq (·≠r) w v0 (2^t) G0 H0 U) (ha:SLq (·≠r) w cy (2^t) (λi=>(q.a i).val)) (K:SLq (·≠r) w cg (2^t) (λi=>(q.b i).val)) :
 cZ 90 #[lgV r,v0,cy,cg] w (Ret (PhR w r t Lb Rb ((aC C f).pst (chF N) ivF u t q t).s (bx (((aC C f).pst (chF N) ivF u t q t).a 0).val) (bx (((aC C f).pst (chF N) ivF u t q t).b 0).val))):=by
 have hr:=Holds.lt hL (by rw[d8];decide);obtain⟨k,hk⟩:=yH w.heap.size;obtain⟨e0,gn,fy,dm⟩:=hv.ar;subst gn;obtain⟨w1,kr⟩:=hE (w.alloc (.cells #[jZ r] 159));obtain⟨w2,kk⟩:=hE (w1.alloc (.cells e0 150));obtain⟨w3,k6⟩:=hE (w2.alloc (.cells #[nZ,nZ,nZ,nZ] 64));obtain⟨w4,ks⟩:=yH (w3.alloc (.cells #[nZ,nZ,nZ,nZ] 64));have z1:w1.heap.size=k+1:=by rw[<-kr.out,XP,hk.out]
 have z2:w2.heap.size=k+2:=by rw[<-kk.out,XP,z1]
 have z3:w3.heap.size=k+3:=by rw[<-k6.out,XP,z2]
 have i3:r<k:=by rw[<-hk.out];exact hr
 have K4:Hid (∃G H,Gd N (2^(t-0)) (2^0) G ((aC C f).pst (chF N) ivF u t q 0).g/\Gd N (2^(t-0)) (2^0) H ((aC C f).pst (chF N) ivF u t q 0).h/\Ph w w4 r k 0 0 (2^(t-0)) nZ nZ nZ nZ (.agg e0) cy cg Lb Rb ((aC C f).pst (chF N) ivF u t q 0).s (λi=>(((aC C f).pst (chF N) ivF u t q 0).a i).val) (λi=>(((aC C f).pst (chF N) ivF u t q 0).b i).val) G H U):=by
  have b1:kZ w w1:=by rw[<-kr.out];exact aD _
  have F:kZ w1 w2:=by rw[<-kk.out];exact aD _
  have D:kZ w2 w3:=by rw[<-k6.out];exact aD _
  have E:kZ w3 w4:=by rw[<-ks.out];exact aD _
  have V:Row w1 k [jZ r]:=by rw[<-kr.out,<-hk.out];exact row_new w _ _
  have T:Row w2 (k+1) e0.toList:=by rw[<-kk.out,<-z1];exact row_new w1 e0.toList 150
  have S:Row w3 (k+2) [nZ,nZ,nZ,nZ]:=by rw[<-k6.out,<-z2];exact row_new w2 _ _
  have R:Row w4 (k+3) [nZ,nZ,nZ,nZ]:=by rw[<-ks.out,<-z3];exact row_new w3 _ _
  have bb:kZ w w4:=((b1.trans (F.mono b1.size)).trans (D.mono (XH b1.size F.size))).trans (E.mono (XH b1.size (XH F.size D.size)));have L:∀g,g<w.heap.size->g≠r->QH r k nZ nZ g:=λg M J=>⟨J,Ye (by rw[<-hk.out];exact M),(λe=>by cases e),(λe=>by cases e)⟩
  have A:∀(B:Nat->Bs) (Q:Nat->Prop),TlL Q (k+4) 0 w4 nZ B:=λB Q=>⟨[],⟨rfl,Ye ⟨rfl,rfl⟩⟩,λj hj=>absurd hj (ZP _)⟩
  have kq:∀ {Q:Nat->Prop},Kq Q w w4:=Kq.of_below bb;exact⟨G0,H0,dp,ew,SP.Only.of_below bb rfl hr,i3,hk.out,((V.below F).below D).below E,⟨e0,rfl,fy,dm,(T.below D).below E⟩,S.below E,⟨R.1,[nZ,nZ],rfl,R⟩,A _ _,A _ _,(λg e=>by cases e),(ha.mono2 L).keep kq,(K.mono2 L).keep kq,(hv.mono2 L).keep kq,Holds.below hL bb hr,d8,⟨[],[],List.nodup_nil,⟨rfl,Ye ⟨rfl,rfl⟩⟩,⟨rfl,Ye ⟨rfl,rfl⟩⟩,λg M=>absurd M Yf⟩⟩
 obtain⟨vl,be⟩:=hE (lgV r);obtain⟨vG,b7⟩:=hE (X9 e0);have B1:Hid ((Ys 159 vl).run prog w=.ok (jZ k) w1):=by rw[<-be.out,<-kr.out,<-hk.out];exact O1 (r:=r) (w:=w)
 have B2:Hid ((Ys 150 vG).run prog w1=.ok (jZ (k+1)) w2):=by
  obtain⟨a1,a2,a3,ea⟩:∃a b c,e0=#[a,b,c]:=by
   obtain⟨A,D,E,e,-⟩:=hv.ex;injection e with e
   exact⟨A,D,E,e⟩
  rw[<-b7.out,<-kk.out,<-z1,ea];exact Dh (c:=a1) (k:=a2) (b:=a3) (w:=w1)
 have HZ:=mk3 z2 z3 hk.out;have eh:=mk2 g8 gm;have HF:Hid (Fld P/\Ord N/\IsP N/\Tl N U u/\0<U.length/\U.length<=16/\t<=6):=⟨C,O,hP,hU,f8,g3,ht⟩
 obtain⟨d,fj,dq⟩:=XE.1 uGr;have HD:=mk2 fj dq;rw[b7.out]at K4;rw[be.out,b7.out];clear fj dq z1 z2 z3 kr kk hk hL d8 hv ha K dp ew hU f8 g3 fy dm hr O hP b7;go_enter func90,ntmps90;go_wp2_with (first|(refine aG (u:=vl) (v:=jZ k) (w':=w1) rfl 159 (.tmp 0) rfl ?_ ?_ ?_;rfl;exact B1.out)|(refine aG (u:=vG) (v:=jZ (k+1)) (w':=w2) rfl 150 (.tmp 1) rfl ?_ ?_ ?_;rfl;exact B2.out)|(refine fJ (v:=jZ (k+2)) (w':=w3) rfl 64 8 rfl rfl ?_ ?_;(rw[<-k6.out,<-HZ.1];kernel_rfl))|(refine fJ (v:=jZ (k+3)) (w':=w4) rfl 64 9 rfl rfl ?_ ?_;(rw[<-ks.out,<-HZ.2.1];kernel_rfl))|fail)
 clear B1 B2 k6 ks;simp only[Ym,XF,XJ,XL];go_loopg [2,3] t (λm s2 s3 W=>∃i:Nat,i+m=t/\Hid (∃F E v G H,Gd N (2^(t-i)) (2^i) G ((aC C f).pst (chF N) ivF u t q i).g/\Gd N (2^(t-i)) (2^i) H ((aC C f).pst (chF N) ivF u t q i).h/\Ph w W r k i i (2^(t-i)) F E F E v s2 s3 Lb Rb ((aC C f).pst (chF N) ivF u t q i).s (λj=>(((aC C f).pst (chF N) ivF u t q i).a j).val) (λj=>(((aC C f).pst (chF N) ivF u t q i).b j).val) G H U))
 case atStart=>exact⟨0,oM,_,_,_,K4.out⟩
 case round =>
  obtain⟨i,i4,KM⟩:=hrel;by_cases hi:i<t
  .obtain⟨F,E,v,G,H,hG,hH,h0⟩:=KM.out;clear KM;have HI:=Hid.mk' hi;obtain⟨m,hm⟩:∃m,m=2^(t-(i+1)):=⟨_,rfl⟩
   have kt:2^(t-i)=m+m:=by rw[hm,show t-i=t-(i+1)+1 by omega,Zf];omega
   have kz:0<m:=by rw[hm];exact yAz dC
   obtain⟨c,hc⟩:∃c,c=2^i:=⟨_,rfl⟩
   have kg:0<c:=by rw[hc];exact yAz dC
   have dw:c*(m+m)<=64:=by
    rw[<-kt,hc,<-yAP,show i+(t-i)=t by omega];exact XH (Y5 dC HF.2.2.2.2.2.2) dC
   have hw:c*m<=64:=oN (yAY c (show m<=m+m by omega));have et:m<=64:=oN (Nat.mul_le_mul_right m kg);have eS:(aC C f).pst (chF N) ivF u t q (i+1)=(aC C f).rJ (chF N) ivF u m ((aC C f).pst (chF N) ivF u t q i):=by rw[hm];rfl
   have eL:(aC C f).pLi (chF N) ivF u t q i=(aC C f).pL u m ((aC C f).pst (chF N) ivF u t q i):=by rw[hm];rfl
   have eT:(aC C f).pTi (chF N) ivF u t q i=(aC C f).pT u m ((aC C f).pst (chF N) ivF u t q i):=by rw[hm];rfl
   have HE:Hid (2^(t-(i+1))=m/\2^(i+1)=c+c):=⟨hm.symm,by rw[Zf,hc];omega⟩
   rw[kt,<-hc]at hG hH;rw[kt]at h0;clear hm kt hc;generalize (aC C f).pst (chF N) ivF u t q i=L at hG hH h0 eS eL eT;have HS:Hid ((aC C f).pst (chF N) ivF u t q (i+1)=(aC C f).rJ (chF N) ivF u m L/\(aC C f).pLi (chF N) ivF u t q i=(aC C f).pL u m L/\(aC C f).pTi (chF N) ivF u t q i=(aC C f).pT u m L):=⟨eS,eL,eT⟩
   clear eS eL eT;obtain⟨ga,oa,ca,rfl,dx,-⟩:=id h0.la;obtain⟨Z,ob,J,rfl,fp,-⟩:=id h0.lb;have sG:=Hid.mk' (YV hG (YV hH (YV kz (YV kg (YV dw (YV et hw))))));obtain⟨l1,fd,eu⟩:=JC (Q:=QH r k F E) C HF.2.1 f kz kg hw hG.high hH.low HF.2.2.2.1 HF.2.2.2.2.1 HF.2.2.2.2.2.1 L.a (λj=>L.b (m+j));obtain⟨l2,ei,ed⟩:=JC (Q:=QH r k F E) C HF.2.1 f kz kg hw hG.low hH.high HF.2.2.2.1 HF.2.2.2.2.1 HF.2.2.2.2.2.1 (λj=>L.a (m+j)) L.b;obtain⟨X,hX⟩:∃X,X=wP ((aC C f).pL u m L):=⟨_,rfl⟩
   obtain⟨Y,hY⟩:∃Y,Y=wP ((aC C f).pT u m L):=⟨_,rfl⟩
   have sX:X.size=33:=by rw[hX];exact aL _
   have sY:Y.size=33:=by rw[hY];exact aL _
   have bf:∀(W:XA) (v:XB),Sm 0 W v l1->cZ 33 #[v] W (rZ W λe w'=>e=pvl X):=by rw[hX];exact eu
   have bs:∀(W:XA) (v:XB),Sm 0 W v l2->cZ 33 #[v] W (rZ W λe w'=>e=pvl Y):=by rw[hY];exact ed
   clear eu ed;obtain⟨PH,h4⟩:∃PH:XA->Prop,Hid (∀W,PH W↔Ph w W r k i i (m+m) F E F E v (qZ ga oa (m+m) ca) (qZ Z ob (m+m) J) Lb Rb L.s (λj=>(L.a j).val) (λj=>(L.b j).val) G H U):=⟨_,λ_=>Iff.rfl⟩
   have k4:Hid (∀W W':XA,kZ W W'->PH W->PH W'):=λW W' K h=>(h4 W').2 (((h4 W).1 h).grow K)
   have K0:Hid (PH wr):=(h4 wr).2 h0;have i0:Hid (∀W,PH W->cZ 142 #[v] W (Ret (CrR (QH r k F E) W m G H U))):=λW h=>IB m kz oM G H U v W ((h4 W).1 h).gr
   have cS:Hid ((∀W (x:XB),PH W->GRq (QH r k F E) W x m (λi=>G (m+i)) H U->cZ 143 #[x,qZ ga oa m ca,qZ Z (ob+m*4) m (J-m)] W (rZ W λe w'=>Sm W.heap.size w' e l1))/\(∀W (x:XB),PH W->GRq (QH r k F E) W x m G (λi=>H (m+i)) U->cZ 143 #[x,qZ ga (oa+m*4) m (ca-m),qZ Z ob m J] W (rZ W λe w'=>Sm W.heap.size w' e l2))):=
    ⟨λW x h hx=>fd W x _ _ hx ((h4 W).1 h).la.low ((h4 W).1 h).lb.high,λW x h hx=>ei W x _ _ hx ((h4 W).1 h).la.high ((h4 W).1 h).lb.low⟩
   have cP:Hid ((∀(W:XA) (v:XB),Sm 0 W v l1->cZ 33 #[v] W (rZ W λe w'=>e=pvl X))/\(∀(W:XA) (v:XB),Sm 0 W v l2->cZ 33 #[v] W (rZ W λe w'=>e=pvl Y))):=⟨bf,bs⟩
   have bk:=DY ga oa (m+m) ca m oM;have kb:=DX Z ob (n:=(m+m)) (c:=J) m oM fp;have ka:=DX ga oa (n:=(m+m)) (c:=ca) m oM dx;have c5:=DY Z ob (m+m) J m oM;rw[Nat.add_sub_cancel]at kb ka;have h7:=mk4 sX sY hX hY;obtain⟨sx,cx,ds,fu⟩:∃(s:Bs) (c:Fin N),Hid (chF N L.s ((aC C f).pL u m L) ((aC C f).pT u m L)=(s,c)/\s.size=32)/\Hid (∀W:XA,hZ W r 0 L.s->L.s.size=32->cZ 135 #[lgV r,.string ⟨#[108,101,102,116]⟩,pvl X,.string ⟨#[114,105,103,104,116]⟩,pvl Y] W (Ret λe w'=>SP.Only r 0 32 W w'/\hZ w' r 0 s/\e=nv c.val)):=LX HF.2.1 HF.2.2.1 r L.s (X:=X) (Y:=Y) hX hY;obtain⟨e1,es,k9,c8,bu⟩:=h0.r1;have HV:=mk3 es k9 c8;have R1:Hid (wr.rangeAt (k+1) 0 e1.toList/\gZ 150 e1.toList.length):=⟨bu.2.1,by rw[XU,k9];exact iGr⟩
   obtain⟨n,hn⟩:=hE (m+m);have hq:(n:Int).tdiv 2=(m:Int):=by rw[<-hn.out];exact Ww (m:=m)
   have i8:(1:Int)<(n:Int):=by rw[<-hn.out];omega
   rw[hn.out]at bk kb ka c5;rw[hn.out];clear h0 fd ei bf bs sX sY hX hY es k9 c8 bu hG hH dw hw dx fp kg hi;go_wp2_with (first|(refine YI rfl 150 (.tmp 5) rfl (k+1) 0 ?_ e1.toList d ?_ ?_ ?_ ?_ ?_;rfl;exact R1.1;exact HD.1;exact HD.2;exact R1.2;rw[show X9 e1.toList.toArray=v from HV.1.symm])|fail)
   refine(i0 wr K0.out).mono ?_;rintro e W1 ⟨uu,rfl,g9,f1,f2,rfl,df,dh,g4,gp,gs,gt⟩;have K1:=mk1 (k4 wr W1 g9 K0.out);obtain⟨b1,h9⟩:=yH W1.heap.size;obtain⟨W2,kx⟩:=yH (W1.alloc (.cells #[nZ,nZ,nZ] 150));obtain⟨W3,d3⟩:=yH (W2.alloc (.cells #[nZ,nZ,nZ] 150));obtain⟨W4,f7⟩:=yH (W3.setCells b1 0 f1.toList);obtain⟨W5,g0⟩:=yH (W4.setCells (b1+1) 0 f2.toList);have zz:W2.heap.size=b1+1:=by rw[<-kx.out,XP,h9.out]
   have bo:f1.toList.length=3:=by rw[XU];exact df
   have c9:f2.toList.length=3:=by rw[XU];exact dh
   have F3:kZ W1 W3/\Row W3 b1 [nZ,nZ,nZ]/\Row W3 (b1+1) [nZ,nZ,nZ]:=by
    have bA:kZ W1 W2:=by rw[<-kx.out];exact aD _
    have A:kZ W2 W3:=by rw[<-d3.out];exact aD _
    have D:Row W2 b1 [nZ,nZ,nZ]:=by rw[<-kx.out,<-h9.out];exact row_new W1 _ _
    have R:Row W3 (b1+1) [nZ,nZ,nZ]:=by rw[<-d3.out,<-zz];exact row_new W2 _ _
    exact⟨bA.trans (A.mono bA.size),D.below A,R⟩
   have F4:kZ W1 W4/\Row W4 b1 f1.toList/\Row W4 (b1+1) [nZ,nZ,nZ]:=by
    rw[<-f7.out];exact⟨RG.below_setCells (by rw[h9.out];exact XD _) _ _ _ F3.1,F3.2.1.put (by rw[bo];rfl),aR F3.2.2 oM⟩
   have F5:kZ W1 W5/\Row W5 b1 f1.toList/\Row W5 (b1+1) f2.toList:=by
    rw[<-g0.out];exact⟨RG.below_setCells (by rw[h9.out];omega) _ _ _ F4.1,aR F4.2.1 oM,F4.2.2.put (by rw[c9];rfl)⟩
   have K5:=mk5 (k4 W1 W5 F5.1 K1.out) F5.2.1 F5.2.2 (gs.keep (Kq.of_below F5.1)) (gt.keep (Kq.of_below F5.1));have HT:Hid ((W2.heap.size=b1+1/\W3.there b1 0 f1.size/\W4.there (b1+1) 0 f2.size)/\f1.all (·.oneCell')=true/\f2.all (·.oneCell')=true/\gZ 150 f1.size/\gZ 150 f2.size/\gZ 150 f1.toList.length/\gZ 150 f2.toList.length):=⟨⟨zz,by rw[df];exact F3.2.1.2.2,by rw[dh];exact F4.2.2.2.2⟩,g4,gp,by rw[df];exact iGr,by rw[dh];exact iGr,by rw[bo];exact iGr,by rw[c9];exact iGr⟩
   obtain⟨y1,e4⟩:=hE (X9 f1);obtain⟨y2,fs⟩:=hE (X9 f2);rw[e4.out,fs.out];go_wp2_with (first|(refine alR 11 h9 kx ?_)|(refine fJ (v:=jZ (b1+1)) (w':=W3) rfl 150 12 rfl rfl ?_ ?_;(rw[<-d3.out,<-HT.1.1];kernel_rfl))|(refine Yk rfl 150 (.tmp 11) _ rfl b1 0 f1 ?_ ?_ ?_ ?_ ?_ ?_;rfl;exact e4.symm;exact HT.1.2.1;exact HT.2.2.2.1;exact HT.2.1;rw[f7.out])|(refine Yk rfl 150 (.tmp 12) _ rfl (b1+1) 0 f2 ?_ ?_ ?_ ?_ ?_ ?_;rfl;exact fs.symm;exact HT.1.2.2;exact HT.2.2.2.2.1;exact HT.2.2.1;rw[g0.out])|fail)
   refine(gwL [pE (.agg f1.toList.toArray),pE (qZ ga oa n ca),pE (iZ m),pE (qZ ga oa m ca),pE (qZ Z ob n J),pE (iZ m),pE (qZ Z (ob+m*4) m (J-m)),pM (λ_=>True) l1,pE (pvl X),RG.pN W5.heap.size z33] (λW=>kZ W5 W) (λW W' K h=>h.trans (K.mono h.size))).tail2 10 kR kR kR ⟨
    nY (T:=150) 11 b1 0 (cs:=f1.toList) uGr HT.2.2.2.2.2.1 rfl (λW S=>RG.range_below K5.2.1.2.1 S K5.2.1.1) (λ_=>rfl),
    gO 2 (qZ ga oa n ca),
    gO 10 (iZ m),
    RG.gX 1 29 2 30 bk,
    gO 3 (qZ Z ob n J),
    gO 10 (iZ m),
    RG.gX 4 32 5 33 kb,
    nD 0 28 3 31 6 34 143 (λx y z=>#[x,y,z]) (λx y z W hx D hz S=>by
     obtain rfl:x=.agg f1.toList.toArray:=hx;obtain rfl:y=(qZ ga oa m ca):=D;obtain rfl:z=(qZ Z (ob+m*4) m (J-m)):=hz;refine(cS.1 W _ (k4 W5 W S K5.1) (K5.2.2.2.1.keep (Kq.of_below S))).mono ?_;rintro e W' ⟨uu,rfl,K,hs⟩;exact⟨_,rfl,K,hs.q.mono λ_ _=>trivial⟩),
    oC 7 35 33 (λx=>#[x]) (λx W hx S=>by
     have hx:=hx;refine(cP.1 W x hx.sm).mono ?_;rintro e W' ⟨uu,rfl,K,rfl⟩;exact⟨_,rfl,K,rfl⟩),
    tQ z33 51 (λW W' hR S=>⟨_,rfl,S.size,hR⟩),yEZ⟩ (XR _ _).drew ?_
   intro V cu hR S;have cd:=hR 8 dC;obtain⟨A,d0,h5,kh⟩:∃k,V 9=jZ k/\W5.heap.size<=k/\Row cu k z33:=hR 9 dC;obtain⟨W7,dd⟩:=hE (cu.setCells A 0 (aA X));have kc:=aB h7.1;have cp:kZ W5 W7:=by rw[<-dd.out];exact RG.below_setCells h5 _ _ _ S
   have gc:Row W7 A (aA X):=by rw[<-dd.out];exact kh.put (by rw[kc];rfl)
   have bi:Hid (cu.there A 0 (aA X).toArray.size/\gZ 51 (aA X).toArray.size):=by
    rw[YF,kc];exact⟨kh.2.2,iCP⟩
   dsimp only[bW,YT,yAb,yAd];simp only[Ym,XF,XJ,XL];obtain⟨i6,bh⟩:=hE (pvl X);rw[cd,d0,bh.out];have e7:=mk1 (XC ((h4 W5).1 K5.1).r3.1 h5);have c4:Hid (∀g,F.ownBlock=some g\/E.ownBlock=some g->g<A):=λg M=>by
    have h:=(h4 W5).1 K5.1;rcases M with M|M
    .exact XC (h.tL.lt M).2 h5
    .exact XC (h.tR.lt M).2 h5
   have K7:=mk4 (k4 W5 W7 cp K5.1) (K5.2.2.1.below cp) (K5.2.2.2.2.keep (Kq.of_below cp)) gc;go_wp2_with (first|(refine stR 13 dd bh bi.1 bi.2 (bN (a:=X)) ?_)|fail)
   refine(gwL [pE (.agg f2.toList.toArray),pE (qZ ga oa n ca),pE (iZ m),pE (qZ ga (oa+m*4) m (ca-m)),pE (qZ Z ob n J),pE (iZ m),pE (qZ Z ob m J),pM (λ_=>True) l2,pE (pvl Y),RG.pN W7.heap.size z33] (λW=>kZ W7 W) (λW W' K h=>h.trans (K.mono h.size))).tail2 10 kR kR kR ⟨
    nY (T:=150) 12 (b1+1) 0 (cs:=f2.toList) uGr HT.2.2.2.2.2.2 rfl (λW S=>RG.range_below K7.2.1.2.1 S K7.2.1.1) (λ_=>rfl),
    gO 2 (qZ ga oa n ca),
    gO 10 (iZ m),
    RG.gX 1 38 2 39 ka,
    gO 3 (qZ Z ob n J),
    gO 10 (iZ m),
    RG.gX 4 41 5 42 c5,
    nD 0 37 3 40 6 43 143 (λx y z=>#[x,y,z]) (λx y z W hx D hz S=>by
     obtain rfl:x=.agg f2.toList.toArray:=hx;obtain rfl:y=(qZ ga (oa+m*4) m (ca-m)):=D;obtain rfl:z=(qZ Z ob m J):=hz;refine(cS.2 W _ (k4 W7 W S K7.1) (K7.2.2.1.keep (Kq.of_below S))).mono ?_;rintro e W' ⟨uu,rfl,K,hs⟩;exact⟨_,rfl,K,hs.q.mono λ_ _=>trivial⟩),
    oC 7 44 33 (λx=>#[x]) (λx W hx S=>by
     have hx:=hx;refine(cP.2 W x hx.sm).mono ?_;rintro e W' ⟨uu,rfl,K,rfl⟩;exact⟨_,rfl,K,rfl⟩),
    tQ z33 51 (λW W' hR S=>⟨_,rfl,S.size,hR⟩),yEZ⟩ (XR _ _).drew ?_
   intro V dk hR S;have cd:=hR 8 dC;obtain⟨D,d0,h5,kh⟩:∃k,V 9=jZ k/\W7.heap.size<=k/\Row dk k z33:=hR 9 dC;obtain⟨W9,d5⟩:=yH (dk.setCells D 0 (aA Y));have kc:=aB h7.2.1;have ff:kZ W7 W9:=by rw[<-d5.out];exact RG.below_setCells h5 _ _ _ S
   have g5:Row W9 D (aA Y):=by rw[<-d5.out];exact kh.put (by rw[kc];rfl)
   have bq:Hid (dk.there D 0 (aA Y).toArray.size/\gZ 51 (aA Y).toArray.size):=by
    rw[YF,kc];exact⟨kh.2.2,iCP⟩
   dsimp only[bW,YT,yAb,yAd];simp only[Ym,XF,XJ,XL];obtain⟨i5,c6⟩:=hE (pvl Y);rw[cd,d0,c6.out];have K9:Hid (PH W9/\Row W9 A (aA X)/\Row W9 D (aA Y)/\W9.heap.size<=W9.heap.size):=⟨k4.out W7 W9 ff K7.1,K7.2.2.2.below ff,g5,XD _⟩
   have fz:=mk2 e7.out (XC ((h4 W7).1 K7.1).r3.1 h5);have bt:Hid (∀g,F.ownBlock=some g\/E.ownBlock=some g->g<D):=λg M=>by
    have h:=(h4 W7).1 K7.1;rcases M with M|M
    .exact XC (h.tL.lt M).2 h5
    .exact XC (h.tR.lt M).2 h5
   go_wp2_with (first|(refine stR 14 d5 c6 bq.1 bq.2 (bN (a:=Y)) ?_)|fail)
   obtain⟨dP,k3,k2⟩:=XE.1 uCP;have kf:gZ 51 (aA X).length:=by rw[aB h7.1];exact iCP
   have kn:gZ 51 (aA Y).length:=by rw[aB h7.2.1];exact iCP
   have k8:∀W W':XA,kZ W W'->k+3<W.heap.size->A<W.heap.size->D<W.heap.size->(W.cell? ⟨k+3,0,none⟩=some F/\W.cell? ⟨k+3,1,none⟩=some E/\W.rangeAt A 0 (aA X)/\W.rangeAt D 0 (aA Y))->(W'.cell? ⟨k+3,0,none⟩=some F/\W'.cell? ⟨k+3,1,none⟩=some E/\W'.rangeAt A 0 (aA X)/\W'.rangeAt D 0 (aA Y)):=λW W' K h3 ge ky h=>⟨by rw[K.cell (p:=⟨k+3,0,none⟩) h3];exact h.1,by rw[K.cell (p:=⟨k+3,1,none⟩) h3];exact h.2.1,RG.range_below h.2.2.1 K ge,RG.range_below h.2.2.2 K ky⟩
   have cv:∀W W':XA,W'.heap[k+3]? = W.heap[k+3]?->W'.heap[A]? = W.heap[A]?->W'.heap[D]? = W.heap[D]?->(W.cell? ⟨k+3,0,none⟩=some F/\W.cell? ⟨k+3,1,none⟩=some E/\W.rangeAt A 0 (aA X)/\W.rangeAt D 0 (aA Y))->(W'.cell? ⟨k+3,0,none⟩=some F/\W'.cell? ⟨k+3,1,none⟩=some E/\W'.rangeAt A 0 (aA X)/\W'.rangeAt D 0 (aA Y)):=λW W' e3 gv gh h=>⟨by rw[X4 (a:=⟨k+3,0,none⟩) e3];exact h.1,by rw[X4 (a:=⟨k+3,1,none⟩) e3];exact h.2.1,λj u hj=>by rw[X4 (a:=⟨A,0+j,none⟩) gv];exact h.2.2.1 j u hj,λj u hj=>by rw[X4 (a:=⟨D,0+j,none⟩) gh];exact h.2.2.2 j u hj⟩
   have P9:=(h4 W9).1 K9.1;have gg:=P9.r3.1;obtain⟨-,i7,-,fa⟩:=P9.r3;have S9:W9.drew.cell? ⟨k+3,0,none⟩=some F/\W9.drew.cell? ⟨k+3,1,none⟩=some E/\W9.drew.rangeAt A 0 (aA X)/\W9.drew.rangeAt D 0 (aA Y):=⟨fa.2.1 0 _ rfl,fa.2.1 1 _ rfl,K9.2.1.2.1,K9.2.2.1.2.1⟩
   have z9:k+3<W9.drew.heap.size/\A<W9.drew.heap.size/\D<W9.drew.heap.size:=⟨P9.r3.1,K9.2.1.1,K9.2.2.1.1⟩
   have P9:=P9.drew;have dy:Lb i=X:=by rw[eh.1 i,HS.2.1];exact h7.2.2.1.symm
   have fh:Rb i=Y:=by rw[eh.2 i,HS.2.2];exact h7.2.2.2.symm
   have h8:∀(i:Nat),i≠13->i≠15->∀(l:Array Bool) (W:XA),(((l.setIfInBounds i true).getD 13 false=false->W.cell? ⟨k+3,0,none⟩=some F)/\((l.setIfInBounds i true).getD 15 false=false->W.cell? ⟨k+3,1,none⟩=some E)/\W.rangeAt A 0 (aA X)/\W.rangeAt D 0 (aA Y))->((l.getD 13 false=false->W.cell? ⟨k+3,0,none⟩=some F)/\(l.getD 15 false=false->W.cell? ⟨k+3,1,none⟩=some E)/\W.rangeAt A 0 (aA X)/\W.rangeAt D 0 (aA Y)):=λi h1 h2 l W h=>⟨λe=>h.1 (by rw[getD_set_ne false h1];exact e),λe=>h.2.1 (by rw[getD_set_ne false h2];exact e),h.2.2⟩
   have mS:∀(l:Array Bool) (W:XA),(W.cell? ⟨k+3,0,none⟩=some F/\W.cell? ⟨k+3,1,none⟩=some E/\W.rangeAt A 0 (aA X)/\W.rangeAt D 0 (aA Y))->((l.getD 13 false=false->W.cell? ⟨k+3,0,none⟩=some F)/\(l.getD 15 false=false->W.cell? ⟨k+3,1,none⟩=some E)/\W.rangeAt A 0 (aA X)/\W.rangeAt D 0 (aA Y)):=λl W h=>⟨λ_=>h.1,λ_=>h.2.1,h.2.2⟩
   refine anyS.begin (λl W=>(l.getD 13 false=false->W.cell? ⟨k+3,0,none⟩=some F)/\(l.getD 15 false=false->W.cell? ⟨k+3,1,none⟩=some E)/\W.rangeAt A 0 (aA X)/\W.rangeAt D 0 (aA Y)) kR ?_;have bS:∀(p:Nat),Bef (λl W=>(yEw l 13 false=false->YZ W ⟨k+3,0,none⟩=some F)/\(yEw l 15 false=false->YZ W ⟨k+3,1,none⟩=some E)/\yBa W A 0 (aA X)/\yBa W D 0 (aA Y)) p W9.drew:=λp=>⟨#[],by simp,mS _ _ S9⟩
   refine anyS.val (i:=0) (d:=some 46) (x:=jZ (k+3)) rfl 13 (h8 0 dC dC) (bS 13) (mS _ _ S9) ?_;refine anyS.cel (i:=1) (d:=some 47) (x:=F) rfl 13 (h8 1 dC dC) 27 46 (k+3) 0 rfl uLL (λW ⟨l,e,h⟩=>h.1 e) (bS 13) (mS _ _ S9) ?_;refine anyS.row (i:=2) (d:=some 48) (cs:=aA X) rfl 13 (h8 2 dC dC) 51 13 A 0 dP rfl k3 k2 kf (λW ⟨l,e,h⟩=>h.2.2.1) (bS 13) (mS _ _ S9) ?_;refine anyS.val (i:=6) (d:=some 52) (x:=oZ (k+3) 1) rfl 13 (h8 6 dC dC) (bS 13) (mS _ _ S9) ?_;refine anyS.cel (i:=7) (d:=some 53) (x:=E) rfl 15 (h8 7 dC dC) 27 52 (k+3) 1 rfl uLL (λW ⟨l,e,h⟩=>h.2.1 e) (bS 15) (mS _ _ S9) ?_;refine anyS.row (i:=8) (d:=some 54) (cs:=aA Y) rfl 14 (h8 8 dC dC) 51 14 D 0 dP rfl k3 k2 kn (λW ⟨l,e,h⟩=>h.2.2.2) (bS 14) (mS _ _ S9) ?_;refine anyS.cal (i:=3) (d:=some 49) rfl (eG h7.1 (w:=W9.drew)) (λxa Wa he=>?_);have Pa:=P9.grow he.1;have Sa:=k8 _ _ he.1 z9.1 z9.2.1 z9.2.2 S9;have za:k+3<Wa.heap.size/\A<Wa.heap.size/\D<Wa.heap.size:=oN he.1.size;obtain⟨gx,rfl⟩:=he.2.2;have Ea:=he.2.1.mono2 λg _ M=>P9.qn g M
   have d1:=mk2 he.1 he.2.1;refine⟨mS _ _ Sa,?_⟩;have bb:=aD (w:=Wa) (.cells #[r33 gx] 23);have i1:=Vo Ea Wa;have Pb:=Pa.grow bb;have Sb:=k8 _ _ bb za.1 za.2.1 za.2.2 Sa;have zb:k+3<(Wa.alloc (.cells #[r33 gx] 23)).heap.size/\A<(Wa.alloc (.cells #[r33 gx] 23)).heap.size/\D<(Wa.alloc (.cells #[r33 gx] 23)).heap.size:=oN bb.size;have gq:=(row_new Wa [r33 gx] 23).2.1 0 _ rfl;refine anyS.ins (i:=4) (d:=some 50) (v:=sZ Wa.heap.size 1 1) (w':=Wa.alloc (.cells #[r33 gx] 23)) (I:=Yw 27 1 #[(0,r33 gx)]) rfl i1 (mS _ _ Sb) ?_;obtain⟨R,Wc,g6,Pc,A1⟩:=P9.appL (ga:=Wa.heap.size) (gx:=gx) (d1.1.trans (bb.mono d1.1.size)) (by rw[dy];exact d1.2.keep (Kq.of_below bb)) gq oM;have Sc:=cv _ _ (A1.keep (k+3) zb.1 λe=>oN ((Pb.tL.lt e).1)) (A1.keep A zb.2.1 λe=>oN (c4.out _ (Ye e))) (A1.keep D zb.2.2 λe=>oN (bt.out _ (Ye e))) Sb;have zc:k+3<Wc.heap.size/\A<Wc.heap.size/\D<Wc.heap.size:=oN A1.size;refine anyS.ins (i:=5) (d:=some 51) (v:=R) (w':=Wc) (I:=YG #[27,27] 27 #[F,sZ Wa.heap.size 1 1]) rfl g6 (mS _ _ Sc) ?_;refine anyS.val (i:=12) (d:=some 58) (x:=jZ (k+3)) rfl 13 (h8 12 dC dC) ⟨#[],by simp,mS _ _ Sc⟩ (mS _ _ Sc) ?_;refine anyS.cal (i:=9) (d:=some 55) rfl (eG h7.2.1 (w:=Wc)) (λxd Wd hp=>?_);have Pd:=Pc.grow hp.1;have Sd:=k8 _ _ hp.1 zc.1 zc.2.1 zc.2.2 Sc;have zd:k+3<Wd.heap.size/\A<Wd.heap.size/\D<Wd.heap.size:=oN hp.1.size;obtain⟨gy,rfl⟩:=hp.2.2;have Ed:=hp.2.1.mono2 λg _ M=>Pc.qn g M
   have cz:=mk2 hp.1 hp.2.1;refine⟨mS _ _ Sd,?_⟩;have bd:=aD (w:=Wd) (.cells #[r33 gy] 23);have ft:=Vo Ed Wd;have Pe:=Pd.grow bd;have Se:=k8 _ _ bd zd.1 zd.2.1 zd.2.2 Sd;have ze:k+3<(Wd.alloc (.cells #[r33 gy] 23)).heap.size/\A<(Wd.alloc (.cells #[r33 gy] 23)).heap.size/\D<(Wd.alloc (.cells #[r33 gy] 23)).heap.size:=oN bd.size;have gj:(Wd.alloc (.cells #[r33 gy] 23)).cell? ⟨Wd.heap.size,0,none⟩=some (r33 gy):=(row_new Wd [r33 gy] 23).2.1 0 _ rfl;refine anyS.ins (i:=10) (d:=some 56) (v:=sZ Wd.heap.size 1 1) (w':=Wd.alloc (.cells #[r33 gy] 23)) (I:=Yw 27 1 #[(0,r33 gy)]) rfl ft (mS _ _ Se) ?_;have i2:ElQ (Wc.heap.size<=·) 33 (Wd.alloc (.cells #[r33 gy] 23)) (r33 gy) (Rb i):=by rw[fh];exact cz.2.keep (Kq.of_below bd)
   have g7:i<=900:=oM;have ec:=Pc.appR (ga:=Wd.heap.size) (gx:=gy) (cz.1.trans (bd.mono cz.1.size)) i2 gj g7;obtain⟨T,Wf,gu,Pf,A2⟩:=ec;have Sf:=cv _ _ (A2.keep (k+3) ze.1 λe=>oN ((Pe.tR.lt e).1)) (A2.keep A ze.2.1 λe=>oN (c4.out _ (X7 e))) (A2.keep D ze.2.2 λe=>oN (bt.out _ (X7 e))) Se;have zf:A<Wf.heap.size/\D<Wf.heap.size:=oN A2.size;refine anyS.ins (i:=11) (d:=some 57) (v:=T) (w':=Wf) (I:=YG #[27,27] 27 #[E,sZ Wd.heap.size 1 1]) rfl gu (mS _ _ Sf) ?_;have kl:=Pf.tL.one;have kp:=Pf.tR.one;obtain⟨-,i9,-,ci⟩:=Pf.r3;have fm:Wf.there (k+3) 0 1:=λj hj=>ci.2.2 j (XC hj (Nat.succ_le_succ (Zl _)))
   have ep:Wf.there (k+3) 1 1:=λj hj=>by
    have ko:j=0:=oM;subst ko;exact ci.2.2 1 (Nat.succ_lt_succ (yCE _))
   have gw:A≠k+3:=oN fz.1;have gz:D≠k+3:=oN fz.2;have rg:∀(o:Nat) (x:XB) (W:XA),W.rangeAt A 0 (aA X)/\W.rangeAt D 0 (aA Y)->(W.setCells (k+3) o [x]).rangeAt A 0 (aA X)/\(W.setCells (k+3) o [x]).rangeAt D 0 (aA Y):=λo x W h=>⟨Yn h.1 _ _ _ (Ye gw),Yn h.2 _ _ _ (Ye gz)⟩
   have db:=(lD (x:=R) (o:=0) ci (yCE _)).2.1 1 _ rfl;refine anyS.sto (i:=13) (d:=none) rfl 27 (.tmp 58) (.tmp 51) rfl (k+3) 0 R kl.1 kl.2 fm iLL ⟨λe=>absurd e (nfB kR),λ_=>db,rg _ _ _ Sf.2.2⟩ ?_;refine anyS.nxt (i:=14) (d:=some 59) (x:=oZ (k+3) 1) rfl ⟨λe=>absurd e (nfB kR),λ_=>db,rg _ _ _ Sf.2.2⟩ ?_;refine anyS.sto (i:=15) (d:=none) rfl 27 (.tmp 59) (.tmp 57) rfl (k+3) 1 T kp.1 kp.2 (Zg ep _ _ _) iLL ⟨λe=>absurd e (nfB kR),λe=>absurd e (nfB kR),rg _ _ _ (rg _ _ _ Sf.2.2)⟩ ?_;simp only[Ym,XF,XJ,XL];refine anyS.fin kR (λWg eg=>?_) _;have Pg:=Pf.put' eg;have ek:Wg.rangeAt A 0 (aA X)/\Wg.rangeAt D 0 (aA Y):=by rw[eg];exact rg 1 T _ (rg 0 R _ Sf.2.2)
   have zg:A<Wg.heap.size/\D<Wg.heap.size:=by rw[eg,setCells_size,setCells_size];exact zf
   clear Pf Sf kl kp fm ep rg db zf mS h8 S9 P9 z9 k8 cv eg;have KG:=Hid.mk' (YV Pg (YV ek zg));clear Pg ek zg;obtain⟨dL,c0,c7⟩:=XE.1 uLg;have cf:Hid ((prog.underlying 159=some dL/\dL.isRow=true)/\prog.underlying 51=some dP/\dP.isRow=true):=⟨⟨c0,c7⟩,k3,k2⟩
   have ke:Hid (gZ 51 (aA X).length/\gZ 51 (aA Y).length):=⟨kf,kn⟩
   clear c0 c7 k3 k2 kf kn dy fh gg;obtain⟨pX,fg⟩:=yH (pvl X);obtain⟨pY,e5⟩:=yH (pvl Y);have f6:Hid (cZ 135 #[vl,.string ⟨#[108,101,102,116]⟩,pX,.string ⟨#[114,105,103,104,116]⟩,pY] Wg (Ret λe w'=>SP.Only r 0 32 Wg w'/\hZ w' r 0 sx/\e=nv cx.val)):=by
    rw[<-be.out,<-fg.out,<-e5.out];exact fu.out Wg KG.1.lg KG.1.ls
   go_wp2_with (first|(refine YI rfl 159 (.tmp 4) rfl k 0 ?_ [jZ r] dL ?_ ?_ ?_ ?_ ?_;rfl;exact KG.1.r0.2.1;exact cf.1.1;exact cf.1.2;exact iLg;rw[show X9 [jZ r].toArray=vl from be.out])|(refine ldR 13 KG.2.1.1 fg uCP ke.1 ?_)|(refine ldR 14 KG.2.1.2 e5 uCP ke.2 ?_)|fail)
   refine f6.mono ?_;rintro e Wh ⟨uu,rfl,e8,em,rfl⟩;have fq:Hid (Ph w Wh r k (i+1) (i+1) (m+m) R T R T v (qZ ga oa (m+m) ca) (qZ Z ob (m+m) J) Lb Rb sx (λj=>(L.a j).val) (λj=>(L.b j).val) G H U):=KG.1.say e8 em ds.2;clear e8 em f6 KG cf ke fu;obtain⟨x,hu⟩:=yH cx.val;obtain⟨xi,h6⟩:=yH ((ivF cx).val);have fe:Hid (∀W:XA,cZ 144 #[nv x] W (rZ W λe w'=>e=nv xi)):=by
    rw[<-hu.out,<-h6.out];exact λW=>wE HF.2.1 cx.val cx.isLt W
   rw[hu.out];obtain⟨b5,kv⟩:=yH Wh.heap.size;obtain⟨Wi,ct⟩:=yH (Wh.alloc (.cells #[uZ 0,uZ 0,uZ 0,uZ 0] 44));obtain⟨Wj,b8⟩:=yH (Wi.setCells b5 0 (wn x));have Fi:Hid (Row Wi b5 [uZ 0,uZ 0,uZ 0,uZ 0]/\kZ Wh Wi):=by rw[<-ct.out,<-kv.out];exact⟨row_new Wh _ _,aD _⟩
   have bj:kZ Wh Wj:=by rw[<-b8.out];exact RG.below_setCells (by rw[kv.out];exact XD _) _ _ _ Fi.2
   have Kj:Hid (Ph w Wj r k (i+1) (i+1) (m+m) R T R T v (qZ ga oa (m+m) ca) (qZ Z ob (m+m) J) Lb Rb sx (λj=>(L.a j).val) (λj=>(L.b j).val) G H U/\Row Wj b5 (wn x)):=⟨fq.grow bj,by rw[<-b8.out];exact Fi.1.put rfl⟩
   obtain⟨vx,ku⟩:=yH (nv x);have bn:Hid (∀W:XA,cZ 144 #[vx] W (rZ W λe w'=>e=nv xi)):=by rw[<-ku.out];exact fe.out
   rw[ku.out];clear bj fq fe;go_wp2_with (first|(refine alR 15 kv ct ?_)|(refine stR 15 b8 ku Fi.1.2.2 nSc (aI (n:=x)) ?_)|(refine ldR 15 Kj.2.2.1 ku rSc nSc ?_)|fail)
   refine(bn Wj).mono ?_;rintro e Wk ⟨uu,rfl,h5,rfl⟩;obtain⟨b6,ba⟩:=yH Wk.heap.size;obtain⟨Wl,de⟩:=yH (Wk.alloc (.cells #[uZ 0,uZ 0,uZ 0,uZ 0] 44));obtain⟨Wm,kw⟩:=yH (Wl.setCells b6 0 (wn xi));have Fl:Hid (Row Wl b6 [uZ 0,uZ 0,uZ 0,uZ 0]/\kZ Wk Wl):=by rw[<-de.out,<-ba.out];exact⟨row_new Wk _ _,aD _⟩
   have bm:kZ Wj Wm:=by
    have:kZ Wk Wm:=by rw[<-kw.out];exact RG.below_setCells (by rw[ba.out];exact XD _) _ _ _ Fl.2
    exact h5.trans (this.mono h5.size)
   have Km:Hid (Ph w Wm r k (i+1) (i+1) (m+m) R T R T v (qZ ga oa (m+m) ca) (qZ Z ob (m+m) J) Lb Rb sx (λj=>(L.a j).val) (λj=>(L.b j).val) G H U/\Row Wm b5 (wn x)/\Row Wm b6 (wn xi)):=⟨Kj.1.grow bm,Kj.2.below bm,by rw[<-kw.out];exact Fl.1.put rfl⟩
   obtain⟨vi,fl⟩:=yH (nv xi);rw[fl.out];clear bm h5 Kj Fi bn ct b8 kv;go_wp2_with (first|(refine alR 16 ba de ?_)|(refine stR 16 kw fl Fl.1.2.2 nSc (aI (n:=xi)) ?_)|fail)
   clear Fl de kw ba;simp only[Ym,XF,XJ,XL];have bc:x<N:=by rw[<-hu.out];exact cx.isLt
   have ki:xi<N:=by rw[<-h6.out];exact(ivF cx).isLt
   have fk:sIn N x=xi:=by rw[<-hu.out,<-h6.out];rfl
   have fn:GOk N (m+m) c G H U:=tW (oN sG.2.2.1) sG.2.2.2.1 sG.2.2.2.2.1 sG.1 sG.2.1 HF.2.2.2.1 HF.2.2.2.2.1 HF.2.2.2.2.2.1;have PW:Hid (∀W,kZ Wm W->Ph w W r k (i+1) (i+1) (m+m) R T R T v (qZ ga oa (m+m) ca) (qZ Z ob (m+m) J) Lb Rb sx (λj=>(L.a j).val) (λj=>(L.b j).val) G H U):=λW K=>Km.1.grow K
   have cF:Hid ((∀W,kZ Wm W->cZ 145 #[qZ ga oa n ca,nv x,nv xi] W (rZ W λe w'=>SLq (QH r k R T) w' e m (qC N x xi m (λj=>(L.a j).val))))/\(∀W,kZ Wm W->cZ 145 #[qZ Z ob n J,nv xi,nv x] W (rZ W λe w'=>SLq (QH r k R T) w' e m (qC N xi x m (λj=>(L.b j).val))))/\(∀W,kZ Wm W->cZ 146 #[v,nv x] W (rZ W λe w'=>GRq (QH r k R T) w' e m (mW N xi x m G) (mW N x xi m H) U))):=by
    rw[<-hn.out];refine⟨λW K=>?_,λW K=>?_,λW K=>?_⟩
    .refine(Lz HF.2.1 m (oN sG.2.2.2.2.2.1) _ x xi bc ki (λj _=>(L.a j).isLt) _ W (PW W K).la).mono ?_;rintro e w' ⟨uu,rfl,h1,h2⟩;exact⟨_,rfl,h1,h2.mono λg M=>(PW W K).qn g M⟩
    .refine(Lz HF.2.1 m (oN sG.2.2.2.2.2.1) _ xi x ki bc (λj _=>(L.b j).isLt) _ W (PW W K).lb).mono ?_;rintro e w' ⟨uu,rfl,h1,h2⟩;exact⟨_,rfl,h1,h2.mono λg M=>(PW W K).qn g M⟩
    .have:=GH HF.2.1 m c sG.2.2.1 G H U fn x bc v W (PW W K).qn (PW W K).gr;rw[fk]at this;exact this
   obtain⟨ev,dl,k7,dz,br⟩:=Km.1.r1;have k5:Hid (v=.agg ev/\Row Wm (k+1) ev.toList/\gZ 150 ev.toList.length/\ev.size=3):=⟨dl,br,by rw[XU,k7];exact iGr,k7⟩
   clear dl k7 dz br bc ki fk fn;refine(gwL [pE (qZ ga oa n ca),pE (nv x),pE (nv xi),RG.pS (QH r k R T) m (qC N x xi m (λj=>(L.a j).val)),pE (qZ Z ob n J),pE (nv xi),pE (nv x),RG.pS (QH r k R T) m (qC N xi x m (λj=>(L.b j).val)),pE (.agg ev.toList.toArray),pE (nv x),pR (QH r k R T) m (mW N xi x m G) (mW N x xi m H) U] (λW=>kZ Wm W) (λW W' K h=>h.trans (K.mono h.size))).tail2 11 kR kR kR ⟨
    gO 2 (qZ ga oa n ca),
    gLo 15 (λW S=>RG.range_below Km.2.1.2.1 S Km.2.1.1) rSc nSc,
    gLo 16 (λW S=>RG.range_below Km.2.2.2.1 S Km.2.2.1) rSc nSc,
    nD 0 66 1 67 2 68 145 (λx y z=>#[x,y,z]) (λa1 a2 a3 W h1 h2 h3 S=>by
     obtain rfl:a1=(qZ ga oa n ca):=h1;obtain rfl:a2=nv x:=h2;obtain rfl:a3=nv xi:=h3;refine(cF.1 W S).mono ?_;rintro e W' ⟨uu,rfl,K,hs⟩;exact⟨_,rfl,K,hs⟩),
    gO 3 (qZ Z ob n J),
    gLo 16 (λW S=>RG.range_below Km.2.2.2.1 S Km.2.2.1) rSc nSc,
    gLo 15 (λW S=>RG.range_below Km.2.1.2.1 S Km.2.1.1) rSc nSc,
    nD 4 70 5 71 6 72 145 (λx y z=>#[x,y,z]) (λa1 a2 a3 W h1 h2 h3 S=>by
     obtain rfl:a1=(qZ Z ob n J):=h1;obtain rfl:a2=nv xi:=h2;obtain rfl:a3=nv x:=h3;refine(cF.2.1 W S).mono ?_;rintro e W' ⟨uu,rfl,K,hs⟩;exact⟨_,rfl,K,hs⟩),
    nY (T:=150) 5 (k+1) 0 (cs:=ev.toList) uGr k5.2.2.1 kR (λW S=>RG.range_below k5.2.1.2.1 S k5.2.1.1) (λ_=>rfl),
    gLo 15 (λW S=>RG.range_below Km.2.1.2.1 S Km.2.1.1) rSc nSc,
    dY 8 74 9 75 146 (λx y=>#[x,y]) (λa1 a2 W h1 h2 S=>by
     obtain rfl:a1=v:=(show a1=.agg ev.toList.toArray from h1).trans k5.1.symm;obtain rfl:a2=nv x:=h2;refine(cF.2.2 W S).mono ?_;rintro e W' ⟨uu,rfl,K,hs⟩;exact⟨_,rfl,K,hs⟩),yEZ⟩ (XR _ _).drew ?_
   intro V Wn hR S;have cn:SLq (QH r k R T) Wn (V 3) m (qC N x xi m (λj=>(L.a j).val)):=hR 3 dC;have d7:SLq (QH r k R T) Wn (V 7) m (qC N xi x m (λj=>(L.b j).val)):=hR 7 dC;have k0:GRq (QH r k R T) Wn (V 10) m (mW N xi x m G) (mW N x xi m H) U:=hR 10 dC;obtain⟨ef,co,kd,c3⟩:=k0.ar;rw[co]at k0;dsimp only[bW,YT,yAb,yAd];simp only[Ym,XF,XJ,XL];rw[co];generalize V 3=na at cn⊢;generalize V 7=nb at d7⊢;have Pn:=(PW Wn S).next cn d7 k0;obtain⟨Wo,e9⟩:=yH (Wn.setCells (k+1) 0 ef.toList);rw[e9.out]at Pn;have d4:Hid (Wn.there (k+1) 0 ef.size/\gZ 150 ef.size/\ef.all (·.oneCell')=true):=by
    refine⟨?_,by rw[kd];exact iGr,c3⟩;rw[kd];have:=(k5.2.1.below S).2.2;rw[XU,k5.2.2.2]at this;exact this
   have bp:(aC C f).rJ (chF N) ivF u m L=⟨sx,Md.fS cx (ivF cx) m L.a,Md.fS (ivF cx) cx m L.b,(aC C f).fP (ivF cx) cx m L.g,(aC C f).fP cx (ivF cx) m L.h⟩:=by
    unfold Md.rJ;rw[ds.1]
   have f4:Hid (∃F E v G H,Gd N (2^(t-(i+1))) (2^(i+1)) G ((aC C f).pst (chF N) ivF u t q (i+1)).g/\Gd N (2^(t-(i+1))) (2^(i+1)) H ((aC C f).pst (chF N) ivF u t q (i+1)).h/\Ph w Wo r k (i+1) (i+1) (2^(t-(i+1))) F E F E v na nb Lb Rb ((aC C f).pst (chF N) ivF u t q (i+1)).s (λj=>(((aC C f).pst (chF N) ivF u t q (i+1)).a j).val) (λj=>(((aC C f).pst (chF N) ivF u t q (i+1)).b j).val) G H U):=by
    show ∃F E v G H,_;rw[HS.1,bp,HE.1,HE.2];have ea:qC N x xi m (λj=>(L.a j).val)=λj=>(Md.fS cx (ivF cx) m L.a j).val:=by
     rw[<-hu.out,<-h6.out];funext j;exact C4 cx (ivF cx) m L.a j
    have eb:qC N xi x m (λj=>(L.b j).val)=λj=>(Md.fS (ivF cx) cx m L.b j).val:=by
     rw[<-hu.out,<-h6.out];funext j;exact C4 (ivF cx) cx m L.b j
    rw[ea,eb]at Pn;have g1:=sG.1.fold C f (ivF cx) cx;have g2:=sG.2.1.fold C f cx (ivF cx);rw[hu.out,h6.out]at g1 g2;exact⟨_,_,_,_,_,g1,g2,Pn⟩
   obtain⟨vf,f9⟩:=yH (X9 ef);rw[f9.out];clear hR S cn d7 k0 co kd c3 Pn bp cF PW Km;generalize V 0=q0;generalize V 1=q1;generalize V 2=q2;generalize V 4=q4;generalize V 5=q5;generalize V 6=q6;generalize V 8=q8;generalize V 9=q9;go_wp2_with (first|(refine Yk rfl 150 (.tmp 5) _ rfl (k+1) 0 ef ?_ ?_ ?_ ?_ ?_ ?_;rfl;exact f9.symm;exact d4.1;exact d4.2.1;exact d4.2.2;rw[e9.out])|fail)
   go_roundg (gk-1)
   case measure=>have:=HI.out;omega
   case rel=>exact⟨i+1,oN HI.out,f4⟩
  .have gr:i=t:=oM;subst gr;obtain⟨F,E,v,G,H,-,-,h0⟩:=KM.out;clear KM;rw[yBi,yBd]at h0;obtain⟨ga,oa,ca,rfl,-,qa,ez,V⟩:=id h0.la;obtain⟨Z,ob,J,rfl,-,qb,fb,X⟩:=id h0.lb;have V:=V 0 dC;have X:=X 0 dC;obtain⟨a0,d2⟩:=yH ((((aC C f).pst (chF N) ivF u i q i).a 0).val);obtain⟨b0,da⟩:=yH ((((aC C f).pst (chF N) ivF u i q i).b 0).val);have V:wr.rangeAt ga (oa+4*0) (wn a0):=by rw[<-d2.out];exact V
   have X:wr.rangeAt Z (ob+4*0) (wn b0):=by rw[<-da.out];exact X
   have ey:Hid (a0<N/\b0<N):=⟨by rw[<-d2.out];exact Fin.isLt _,by rw[<-da.out];exact Fin.isLt _⟩
   have KP:=Hid.mk' h0;have KR:Hid (wr.rangeAt ga (oa+4*0) (wn a0)/\wr.rangeAt Z (ob+4*0) (wn b0)/\ga<wr.heap.size/\Z<wr.heap.size):=⟨V,X,ez,fb⟩
   have hz:k+4<=wr.heap.size:=h0.r3.1;have d9:=Hid.mk' hz;obtain⟨dS,kj,Y⟩:=XE.1 rSc;have na:ga≠k+3:=oN qa.2.1;have nb:Z≠k+3:=oN qb.2.1;have L:∀W,kZ wr W->W.rangeAt ga (oa+4*0) (wn a0)/\W.rangeAt Z (ob+4*0) (wn b0):=λW K=>⟨RG.range_below V K ez,RG.range_below X K fb⟩
   have cq:∀(o:Nat) (x:XB) (W:XA),W.rangeAt ga (oa+4*0) (wn a0)/\W.rangeAt Z (ob+4*0) (wn b0)->(W.setCells (k+3) o [x]).rangeAt ga (oa+4*0) (wn a0)/\(W.setCells (k+3) o [x]).rangeAt Z (ob+4*0) (wn b0):=λo x W h=>⟨Yn h.1 _ _ _ (Ye na),Yn h.2 _ _ _ (Ye nb)⟩
   have bd:kZ wr wr.drew:=(XR _ _).drew;clear h0 hz hi;go_wp2_with fail
   refine anyS.begin (λ_ W=>W.rangeAt ga (oa+4*0) (wn a0)/\W.rangeAt Z (ob+4*0) (wn b0)) kR ?_;have bS:Bef (λ_ W=>yBa W ga (oa+4*0) (wn a0)/\yBa W Z (ob+4*0) (wn b0)) 11 wr.drew:=⟨#[],by simp,L _ bd⟩
   refine anyS.val (i:=0) (d:=some 77) (x:=qZ ga oa 1 ca) rfl 11 (λ_ _ h=>h) bS (L _ bd) ?_;simp only[Ym,XF,XJ,XL];refine anyS.val (i:=1) (d:=some 78) (x:=oZ ga (oa+4*0)) rfl 11 (λ_ _ h=>h) bS (L _ bd) ?_ (hv:=hvI (lY (k:=ga) (o:=oa) (n:=1) (c:=ca) (i:=0) dC) kR);simp only[Ym,XF,XJ,XL];refine anyS.row (i:=2) (d:=some 79) (cs:=wn a0) rfl 11 (λ_ _ h=>h) 44 78 ga (oa+4*0) dS rfl kj Y nSc (λW ⟨l,e,h⟩=>h.1) bS (L _ bd) ?_;simp only[Ym,XF,XJ,XL];refine anyS.val (i:=4) (d:=some 81) (x:=(qZ Z ob 1 J)) rfl 11 (λ_ _ h=>h) bS (L _ bd) ?_;simp only[Ym,XF,XJ,XL];refine anyS.val (i:=5) (d:=some 82) (x:=oZ Z (ob+4*0)) rfl 11 (λ_ _ h=>h) bS (L _ bd) ?_ (hv:=hvI (lY (k:=Z) (o:=ob) (n:=1) (c:=J) (i:=0) dC) kR);simp only[Ym,XF,XJ,XL];refine anyS.row (i:=6) (d:=some 83) (cs:=wn b0) rfl 11 (λ_ _ h=>h) 44 82 Z (ob+4*0) dS rfl kj Y nSc (λW ⟨l,e,h⟩=>h.2) bS (L _ bd) ?_;simp only[Ym,XF,XJ,XL];clear bS;refine anyS.cal (i:=3) (d:=some 80) rfl (eE HF.2.1 ey.1 wr.drew) (λxA W1 km=>?_);obtain⟨D,rfl⟩:=km.2.2;have bA:kZ wr W1:=bd.trans km.1;refine⟨L _ bA,?_⟩;simp only[Ym,XF,XJ,XL];refine anyS.val (i:=8) (d:=some 85) (x:=oZ (k+3) 2) rfl 11 (λ_ _ h=>h) ⟨#[],by simp,L _ bA⟩ (L _ bA) ?_;simp only[Ym,XF,XJ,XL];have P1:=KP.grow bA;have lA:wr.heap.size<=D/\D<W1.heap.size:=by
    obtain⟨k1,c1,e1,-,-,q1,l1,-⟩:=km.2.1;obtain rfl:D=k1:=XX.inj (congrArg Zh e1);exact⟨q1,l1⟩
   have er:ElQ (k+4<=·) 32 W1 (r32 D) (bx a0):=km.2.1.mono2 λg _ M=>XH d9.out M
   have R:∀(W:XA) (o:Nat) (x:XB),Kq (k+4<=·) W (W.setCells (k+3) o [x]):=λW o x=>Kq.set λg M e=>oM
   have S:∀g,F.ownBlock=some g->g<wr.heap.size/\g≠k+3:=λg M=>⟨(KP.tL.lt M).2,oN ((KP.tL.lt M).1)⟩
   have T:∀g,E.ownBlock=some g->g<wr.heap.size/\g≠k+3:=λg M=>⟨(KP.tR.lt M).2,oN ((KP.tR.lt M).1)⟩
   have key:∀(W:XA),(∀g,g<wr.heap.size->g≠k+3->W.heap[g]? = wr.heap[g]?)->wr.heap.size<=W.heap.size->∀A,D<A->A<W.heap.size->DjF (k+4) W i F E (r32 D) (r32 A):=λW hk hs A h1 h2=>DjF.of KP.dj hs (λg M=>hk g (S g M).1 (S g M).2) (λg M=>hk g (T g M).1 (T g M).2) d9.out lA.1 h1 h2
   have e6:∀ {W:XA},R3 W (k+3) F E->∃z,Row (W.setCells (k+3) 2 [r32 D]) (k+3) [F,E,r32 D,z]/\W.there (k+3) 2 1:=λh=>by
    obtain⟨-,rs,hl,hr⟩:=h;match rs,hl,hr with
    | [x,z],_,hr =>
     refine⟨z,lD (x:=r32 D) (o:=2) hr (yA7 rfl),λj hj=>?_⟩;have ko:j=0:=oM;subst ko;exact hr.2.2 2 (yA7 rfl)
   obtain⟨PH,p1,pF⟩:∃PH:XA->Prop,(∀W W',kZ W1 W->W'=W.setCells (k+3) 2 [r32 D]->PH W'/\R3 W (k+3) F E)/\(∀W A,PH W->ElQ (k+4<=·) 32 (W.setCells (k+3) 3 [r32 A]) (r32 D) (bx a0)->ElQ (k+4<=·) 32 (W.setCells (k+3) 3 [r32 A]) (r32 A) (bx b0)->DjF (k+4) (W.setCells (k+3) 3 [r32 A]) i F E (r32 D) (r32 A)->Row (W.setCells (k+3) 3 [r32 A]) (k+2) [nZ,nZ,nZ,nZ]/\Row ((W.setCells (k+3) 3 [r32 A]).setCells (k+2) 0 [F,E,r32 D,r32 A]) (k+2) [F,E,r32 D,r32 A]/\PhR w r i Lb Rb ((aC C f).pst (chF N) ivF u i q i).s (bx a0) (bx b0) (.agg #[F,E,r32 D,r32 A]) ((W.setCells (k+3) 3 [r32 A]).setCells (k+2) 0 [F,E,r32 D,r32 A])):=⟨λW=>Ph w W r k i i 1 F E F E v (qZ ga oa 1 ca) (qZ Z ob 1 J) Lb Rb ((aC C f).pst (chF N) ivF u i q i).s (λj=>(((aC C f).pst (chF N) ivF u i q i).a j).val) (λj=>(((aC C f).pst (chF N) ivF u i q i).b j).val) G H U,λW W' K e=>by rw[e];exact⟨(P1.grow K).putA (o:=0) dC,(P1.grow K).r3⟩,λW A h e1 e2 e3=>(h.putA (o:=1) dC).fin e1 e2 e3⟩
   have lB:∀ {W W':XA}{A:Nat}{b:Bs},ElQ (W.heap.size<=·) 32 W' (r32 A) b->W.heap.size<=A/\A<W'.heap.size:=λh=>by
    obtain⟨k1,c1,e1,-,-,q1,l1,-⟩:=h;obtain rfl:=XX.inj (congrArg Zh e1);exact⟨q1,l1⟩
   have ky:k+4<=W1.heap.size:=XH d9.out bA.size;refine anyS.cal (i:=7) (d:=some 84) rfl (eE HF.2.1 ey.2 W1) ?_;rintro v W' ⟨b9,cj,A,rfl⟩;have bw:=bA.trans (b9.mono bA.size);obtain⟨ph,bz⟩:=p1 W' _ b9 rfl;obtain⟨z,hz,f5⟩:=e6 bz;have l2:=lB cj;have e1:=(er.keep (Kq.of_below b9)).keep (R W' 2 (r32 D));have e2:=(cj.mono2 (Q':=(k+4<=·)) λg _ M=>XH ky M).keep (R W' 2 (r32 D));have e3:=key (W'.setCells (k+3) 2 [r32 D]) (λg h1 h2=>(aE (k:=(k+3)) _ _ _ g h2).trans (bw.block g h1)) (by rw[setCells_size];exact bw.size) A (XC lA.2 l2.1) (by rw[setCells_size];exact l2.2);have rr:=cq 2 (r32 D) _ (L _ bw);refine⟨L _ bw,?_⟩;simp only[Ym,XF,XJ,XL];refine anyS.sto (i:=9) (d:=none) rfl 23 (.tmp 85) (.tmp 80) rfl (k+3) 2 (r32 D) rfl rfl f5 iB1 rr ?_;simp only[Ym,XF,XJ,XL];generalize W'.setCells (k+3) 2 [r32 D]=W at ph hz e1 e2 e3 rr⊢;have KF:=pF W A ph (e1.keep (R _ _ _)) (e2.keep (R _ _ _)) (e3.keep (XD _) (by rw[setCells_size];exact XD _) (λg M=>aE (k:=(k+3)) _ _ _ g (S g M).2) (λg M=>aE (k:=(k+3)) _ _ _ g (T g M).2));have d6:Row (W.setCells (k+3) 3 [r32 A]) (k+3) [F,E,r32 D,r32 A]:=lD (x:=r32 A) (o:=3) hz (yA7 rfl);have ej:W.there (k+3) 3 1:=λj hj=>by
    have ko:j=0:=oM;subst ko;exact hz.2.2 3 (yA7 rfl)
   refine anyS.nxt (i:=10) (d:=some 86) (x:=oZ (k+3) 3) rfl rr ?_;simp only[Ym,XF,XJ,XL];refine anyS.sto (i:=11) (d:=none) rfl 23 (.tmp 86) (.tmp 84) rfl (k+3) 3 (r32 A) rfl rfl ej iB1 (cq _ _ _ rr) ?_;simp only[Ym,XF,XJ,XL];refine anyS.fin kR ?_ _;intro WZ fx;rw[<-fx]at KF d6;obtain⟨Wd,eo⟩:=hE (WZ.setCells (k+2) 0 [F,E,r32 D,r32 A]);rw[eo.out]at KF;have ON:Hid ((#[F,E,r32 D,r32 A]:Array XB).all (·.oneCell')=true):=by show _=_;simp[KP.tL.one.2,KP.tR.one.2,e1.one.2,e2.one.2]
   have KF:=mk2 KF d6;obtain⟨dI,bv,bl⟩:=XE.1 Nb;have du:=mk2 bv bl;obtain⟨vO,f0⟩:=hE (X9 #[F,E,r32 D,r32 A]);clear L cq bd KP P1 fx rr ph b9 cj bw d6 f5 l2 bz e1 e2 e3 hz ej pF p1 key e6 er R S T km ky lA bv bl kj Y na nb qa qb;go_wp2_with (first|(refine YI rfl 64 (.tmp 9) rfl (k+3) 0 ?_ [F,E,r32 D,r32 A] dI ?_ ?_ ?_ ?_ ?_;rfl;exact KF.2.2.1;exact du.1;exact du.2;exact KU;rw[show X9 [F,E,r32 D,r32 A].toArray=vO from f0.out])|(refine Yk rfl 64 (.tmp 8) _ rfl (k+2) 0 #[F,E,r32 D,r32 A] ?_ ?_ ?_ ?_ ?_ ?_;rfl;exact f0.symm;exact KF.1.1.2.2;exact KU;exact ON.out;rw[show(#[F,E,r32 D,r32 A]:Array XB).toList=[F,E,r32 D,r32 A] from rfl,eo.out])|fail)
   refine XN (aF 8 (T:=64) rfl KF.1.2.1 rfl Nb KU) rfl ?_;refine⟨_,rfl,?_⟩;have:=KF.1.2.2;rw[<-d2.out,<-da.out]at this;exact this
end
section
open SPA
def hvA(n:Nat):XB:=if n=1 then .tuple #[iZ 0,tZ] else if n=2 then .tuple #[iZ 1,tZ] else if n=4 then .tuple #[iZ 2,tZ] else if n=8 then .tuple #[iZ 3,tZ] else if n=16 then .tuple #[iZ 4,tZ] else if n=32 then .tuple #[iZ 5,tZ] else if n=64 then .tuple #[iZ 6,tZ] else .tuple #[iZ 0,fZ]
def Ss(n:Nat)(d:n=1\/n=2\/n=4\/n=8\/n=16\/n=32\/n=64\/n=128)(w:XA):cZ 73 #[iZ n] w (rZ w λe w'=>e=hvA n):=by
 obtain⟨b,k⟩:∃b,b=n:=⟨_,rfl⟩
 rcases d with rfl|rfl|rfl|rfl|rfl|rfl|rfl|rfl
 all_goals
  go_enter func73,ntmps73;go_wp2;go_loopg [5] 7 (λm s5 W=>W=w/\((m=7/\s5=iZ 0)\/(m=6/\s5=iZ 1/\1<b)\/(m=5/\s5=iZ 2/\2<b)\/(m=4/\s5=iZ 3/\4<b)\/(m=3/\s5=iZ 4/\8<b)\/(m=2/\s5=iZ 5/\16<b)\/(m=1/\s5=iZ 6/\32<b)\/(m=0/\s5=iZ 7/\64<b)))
  case atStart=>exact⟨rfl,Ye ⟨rfl,rfl⟩⟩
  case round =>
   obtain⟨rfl,h⟩:=hrel;rcases h with⟨rfl,rfl⟩|⟨rfl,rfl,c⟩|⟨rfl,rfl,c⟩|⟨rfl,rfl,c⟩|⟨rfl,rfl,c⟩|⟨rfl,rfl,c⟩|⟨rfl,rfl,c⟩|⟨rfl,rfl,c⟩
   all_goals
    first
     | (exfalso;omega)
     | skip
   all_goals
    go_wp2;first
     | (go_ret2;exact⟨_,rfl,XR _ _,rfl⟩)
     | (go_roundg 6;(case measure=>omega);(case rel=>exact⟨rfl,by simp[k]⟩))
     | (go_roundg 5;(case measure=>omega);(case rel=>exact⟨rfl,by simp[k]⟩))
     | (go_roundg 4;(case measure=>omega);(case rel=>exact⟨rfl,by simp[k]⟩))
     | (go_roundg 3;(case measure=>omega);(case rel=>exact⟨rfl,by simp[k]⟩))
     | (go_roundg 2;(case measure=>omega);(case rel=>exact⟨rfl,by simp[k]⟩))
     | (go_roundg 1;(case measure=>omega);(case rel=>exact⟨rfl,by simp[k]⟩))
     | (go_roundg 0;(case measure=>omega);(case rel=>exact⟨rfl,by simp[k]⟩))
end
section
open SPA
variable {P:Nat}[NeZero P]{N:Nat}[NeZero N]
noncomputable def gPt (C:Fld P) (lb:ByteArray) (i:Nat):OnP P:=⟨.some (hpt P lb (fV i).toList),BE C⟩
noncomputable def lPt (C:Fld P) (lb:ByteArray) (x:List UInt8):OnP P:=⟨.some (hpt P lb x),BE C⟩
noncomputable def uPt (C:Fld P):OnP P:=lPt C ⟨#[105,110,110,101,114]⟩ []
omit [NeZero N] in
theorem Pu(C:Fld P)(k:1<N)(lb:ByteArray)(i:Nat):Tl N [(1,hpN P lb i)] (gPt C lb i):=Tl.one C k (gPt C lb i)
omit [NeZero N] in
theorem TN(C:Fld P)(k:1<N)(lb:ByteArray)(x:List UInt8):Tl N [(1,wr (.some (hpt P lb x):EC.Pt P))] (lPt C lb x):=Tl.one C k (lPt C lb x)
omit [NeZero N] in
theorem wL(C:Fld P)(k:1<N)(n:Nat):Gd N n 1 (gGT P) (gPt C ⟨#[108,101,102,116]⟩):=⟨λi _=>Pu C k _ i,λ_ _=>rfl⟩
omit [NeZero N] in
theorem oD(C:Fld P)(k:1<N)(n:Nat):Gd N n 1 (hGT P) (gPt C ⟨#[114,105,103,104,116]⟩):=⟨λi _=>Pu C k _ i,λ_ _=>rfl⟩
omit [NeZero N] in
theorem nI(C:Fld P)(k:1<N):Tl N (uGT P) (uPt C):=TN C k _ _
omit [NeZero N] in
theorem Mv(O:Ord N)(n cap:Nat)(p:n<=512)(q:Option Y0)(L:Nat->Bs)(a:Nat->Nat)(w:XA)(m:Args w q n L)(f:∀j,j<n->rq N (L j)=some (a j)):cZ 161 #[(.func (.func 11) #[] #[]),.slice q n cap] w (rZ w λe w'=>∃k,e=.tuple #[sZ k n n,tZ]/\SLq (w.heap.size<=·) w' (sZ k n n) n a):=by
 apply(O9 O n cap p q L w m).mono;rintro e w' ⟨v,rfl,h⟩;rcases h with⟨⟨j,o,d⟩,-⟩|⟨-,k,r,b,hR,rfl⟩
 .rw[f j o]at d;cases d
 .refine⟨_,rfl,b.bel,k,rfl,k,0,n,rfl,XD _,b.le,b.lt,λj i t u c=>?_⟩;have l:=(XM.1 c).1;have g:=hR.row j t i l;rw[f j i]at g;have:=b.range (4*j+t) u (by rw[g];exact c);rw[show 0+(4*j+t)=0+4*j+t by omega]at this;exact this
def So{t:Nat}(k:t<=6):hvA (2^t)=.tuple #[iZ t,tZ]:=by
 match t,k with
 | 0,_=>rfl
 | 1,_=>rfl
 | 2,_=>rfl
 | 3,_=>rfl
 | 4,_=>rfl
 | 5,_=>rfl
 | 6,_=>rfl
 | n+7,h=>omega
def Ro{t:Nat}(k:t<=6):2^t=1\/2^t=2\/2^t=4\/2^t=8\/2^t=16\/2^t=32\/2^t=64\/2^t=128:=by
 match t,k with
 | 0,_=>decide
 | 1,_=>decide
 | 2,_=>decide
 | 3,_=>decide
 | 4,_=>decide
 | 5,_=>decide
 | 6,_=>decide
 | n+7,h=>omega
def Cp{T:Yd}{P:YJ}{e:Func}{tmps:Array XB}{W:XA}{k:Nat}{vs:List XB}{x y:XB}(s t u:Zw)(i:e.results=#[.tmp s,.cell t T,.tmp u])(h:Row W k vs)(f:tmps[s]? = some x)(g:tmps[t]? = some (jZ k))(c:tmps[u]? = some y)(b:(P.underlying T).map (·.isRow)=some true)(j:(P.info? T).map (·.size)=some vs.length):(results e tmps).run P W=.ok (.tuple #[x,.agg vs.toArray,y]) W:=by
 obtain⟨d,b,hd⟩:=XE.1 b;have m:=yAx (P:=P) W k 0 T vs d h.2.1 b hd j;have n:tmps.getD t Zs=jZ k:=by rw[XQ,g];rfl
 have o:tmps.getD s Zs=x:=by rw[XQ,f];rfl
 have l:tmps.getD u Zs=y:=by rw[XQ,c];rfl
 unfold results;rw[i];simp only[Array.mapM_eq_mapM_toList,List.mapM_cons,List.mapM_nil,n,o,l,asAddr];simp[X1,m]
def ElQ.off{Q:Nat->Prop}{m k:Nat}{W:XA}{x:XB}{b:Bs}{vs:List XB}(h:ElQ Q m W x b)(q:0<m)(i:Row W k (nZ :: vs)):ElQ (·≠k) m W x b:=by
 obtain⟨g,c,j,l,o,p,n,e⟩:=h;refine⟨g,c,j,l,o,?_,n,e⟩;rintro rfl;have d:=(e 0 oM).1;have f:=i.2.1 0 _ rfl;rw[show(0+0:Nat)=0 from rfl]at d f;rw[f]at d;cases d
def yB{w W:XA}{r o m B:Nat}(h:SP.Only r o m w W)(b:B<=w.heap.size)(c:B<=r):Below B w W:=⟨h.os,h.tape,h.output,h.size,λg k=>h.block g oM oM⟩
end
abbrev Iv.only{r:Nat}{k:XA}(c:r<k.heap.size):Iv:=⟨λW=>SP.Only r 0 32 k W,λ_ _ b h=>h.trans (SP.Only.of_below b rfl (XC c h.size)),false⟩
def uBy:wZ 23:=wQ
def Xb{q:Option Y0}{n c k:Nat}{w:XA}:(Yw 27 2 #[(0,.slice q n c),(1,sZ k 4 4)]).run prog w=.ok (sZ w.heap.size 2 2) (w.alloc (.cells #[.slice q n c,sZ k 4 4] 23)):=kR
def Rx{T:Yd}{w:XA}{u v:XB}{x y:List UInt8}(k:PartOk w u x)(e:PartOk w v y):PartsOk (w.alloc (.cells #[u,v] T)) (some (aZ w.heap.size)) [x,y]:=by
 have b:=aD (w:=w) (.cells #[u,v] T);refine X7 ⟨_,_,rfl,λj d=>?_⟩;have c:=(row_new w [u,v] T).2.1 j;match j,d with
 | 0,_=>exact⟨u,c u rfl,k.below b⟩
 | 1,_=>exact⟨v,c v rfl,e.below b⟩
def SS(O:Ord N)(b:ByteArray)(a:b.size<=1000)(o:List UInt8)(q:Option Y0)(n c i l s:Nat)(F:i<4294967296)(w:XA)(A:l<w.heap.size)(B:s<w.heap.size)(c1:w.cell? ⟨l,0,none⟩=some (.string b))(c2:w.cell? ⟨s,0,none⟩=some (.slice q n c))(J:PartOk w (.slice q n c) o):
 cZ 181 #[iZ i,jZ l,jZ s] w (rZ w λe w'=>e=nv (chL N b.data.toList [o,(fV i).toList])):=by
 obtain⟨k,v⟩:=hE (w.heap.size);obtain⟨D,d⟩:=hE (lZ w (RG.z 4) 44);have g:=aK v d;have y:=λ(W:XA) (C:Option Y0) (h:PartsOk W C [o,(fV i).toList])=>Dc O b C 2 2 [o,(fV i).toList] W oM rfl dC h
 generalize chL N b.data.toList [o,(fV i).toList]=x at y⊢;have z:=mk1 y;obtain⟨L,j⟩:=hE (nv x);rw[j.out]at z;go_enter func181,ntmps181;go_wp2_with (first|(refine alR 4 v d ?_)|fail)
 refine AW.begin 6 6 ?_;refine AW.ce 0 u9s (λW f=>by rw[f.cell (p:=⟨l,0,none⟩) (XC A g.1.size),g.1.cell (p:=⟨l,0,none⟩) A];exact c1) ?_;refine AW.ce 1 uBy (λW f=>by rw[f.cell (p:=⟨s,0,none⟩) (XC B g.1.size),g.1.cell (p:=⟨s,0,none⟩) B];exact c2) ?_;refine AW.mv 2 ?_;refine AW.ca 3 (λ_=>yD i F _) (λe w' h=>h.1) ?_;rintro e G ⟨u,r,rfl,E,t⟩;refine AW.ns 4 (Xb (q:=q) (n:=n) (c:=c) (k:=r) (w:=G)) (aD _) ?_;refine AW.gi 5 (λf=>z _ _ (Rx (J.below (g.1.trans (((XR _ D).drew.trans u).mono g.1.size))) (Eg t))) ?_;intro H I;refine AW.fi (us:=wn x) j (aI (n:=x)) i40 (λf=>?_);obtain⟨K,m⟩:=hE (H.setCells k 0 (wn x));have R:=tB v d f m;rw[m.out];refine⟨R.1,?_⟩;go_wp2_with fail
 refine XN (aF 4 (T:=44) rfl R.2.2 rfl u40 i40) rfl ?_;exact⟨_,rfl,R.2.1,rfl⟩
def Vd(O:Ord N)(k:ByteArray)(d:k.size<=1000)(o:List UInt8)(q:Option Y0)(n c m:Nat)(B:m<=64)(w:XA)(z:PartOk w (.slice q n c) o):
 cZ 127 #[.string k,iZ m,.slice q n c] w (rZ w λe w'=>SLq (w.heap.size<=·) w' e m (λi=>chL N k.data.toList [o,(fV i).toList])):=by
 obtain⟨y,j⟩:=hE ((w.alloc (.cells #[.string k] 9)).alloc (.cells #[.slice q n c] 23));have b1:=aD (w:=w) (.cells #[.string k] 9);have t:=aD (w:=(w.alloc (.cells #[.string k] 9))) (.cells #[.slice q n c] 23);have r:=(row_new w [.string k] 9).below t;have l:=row_new (w.alloc (.cells #[.string k] 9)) [.slice q n c] 23;have b:=b1.trans (t.mono b1.size);rw[XP]at l;simp only[j.out]at r l b;have HL:=mk1 (jJ m oM 181 (cap:=#[jZ w.heap.size,jZ (w.heap.size+1)]) (λ_ _=>kR) (λi=>chL N k.data.toList [o,(fV i).toList]) y (λi W a f=>SS O k d o q n c i _ _ oM W (XC r.1 f.size) (XC l.1 f.size) ((r.below f).2.1 0 _ rfl) ((l.below f).2.1 0 _ rfl) ((z.below b).below f)));have s:=mk1 b;go_enter func127,ntmps127;go_wp2_with fail
 rw[j.out];refine HL.mono ?_;rintro e A ⟨v,rfl,p,hG⟩;have x:=mk2 (s.trans (p.mono s.size)) (hG.mono λg u=>XH s.size u);go_wp2;go_ret;exact⟨_,rfl,x⟩
def uLi:yZ 145:=yQ
def iLi:gZ 145 2:=gQ
structure Ln(Q:Nat->Prop)(W:XA)(v:XB)(n:Nat)(a b:Nat->Nat):Prop where
 ex:∃x y,v=.agg #[x,y]/\SLq Q W x n a/\SLq Q W y n b
section
variable {Q Q':Nat->Prop}{W W':XA}{v:XB}{n:Nat}{a b:Nat->Nat}
def Ln.keep(h:Ln Q W v n a b)(k:Kq Q W W'):Ln Q W' v n a b:=by
 obtain⟨x,y,d,e,c⟩:=h.ex;exact⟨x,y,d,e.keep k,c.keep k⟩
def Ln.mono(h:Ln Q W v n a b)(k:∀g,Q g->Q' g):Ln Q' W v n a b:=by
 obtain⟨x,y,d,e,c⟩:=h.ex;exact⟨x,y,d,e.mono k,c.mono k⟩
end
def bZ{Q:Nat->Prop}{W:XA}{x:XB}{n:Nat}{a:Nat->Nat}(h:SLq Q W x n a):x.oneCell'=true/\∃g o c,x=qZ g o n c:=by
 obtain⟨g,o,c,rfl,-⟩:=h;exact⟨rfl,_,_,_,rfl⟩
def UC(O:Ord N)(v:Nat)(hv:v<2^64)(m:Nat)(hm:m<=64)(B:List UInt8)(q:Option Y0)(n c:Nat)(w:XA)(hp:PartOk w (.slice q n c) B):
 cZ 75 #[uZ v,iZ m,.slice q n c] w (rZ w λe w'=>∃x y,e=.tuple #[x,y]/\Ln (w.heap.size<=·) w' x m (λi=>v/2^i%2) (λi=>chL N [115,108] [B,(fV i).toList])/\Ln (w.heap.size<=·) w' y m (λi=>sMi N (v/2^i%2) 1) (λi=>chL N [115,114] [B,(fV i).toList])):=by
 obtain⟨vf,d⟩:=hE (yCI (.func 124) #[] #[jZ w.heap.size]);obtain⟨k,F⟩:=hE (w.heap.size);obtain⟨wa,R⟩:=hE (w.alloc (.cells [uZ v].toArray 24));obtain⟨G,C⟩:=hE (wa.heap.size);obtain⟨wb,L⟩:=hE (wa.alloc (.cells [nZ,nZ].toArray 145));obtain⟨E,u⟩:=hE (wb.heap.size);obtain⟨wc,T⟩:=hE (wb.alloc (.cells [nZ,nZ].toArray 145));obtain⟨s,o⟩:=hE (wc.heap.size);obtain⟨wd,z⟩:=hE (wc.alloc (.cells [.nilFunc].toArray 224));obtain⟨t,I⟩:=hE (wd.setCells s 0 [vf]);have Y:=aK F R;have Fb:=aK C L;have P:=aK u T;have Fe:=Gi o z I rfl;rw[F.out]at d;have bc:=Fb.1.trans (P.1.mono Fb.1.size);have be:=bc.trans (Fe.2.1.mono bc.size);have b:=mk6 (Y.1.trans (be.mono Y.1.size)) (Y.2.below be) (Fb.2.below (P.1.trans (Fe.2.1.mono P.1.size))) (P.2.below Fe.2.1) Fe.2.2 (show k<G/\G<E/\E<s from⟨C.out▸Y.2.1,u.out▸Fb.2.1,o.out▸P.2.1⟩);have h0:=mk1 (aK o z).2.2.2;have h6:=b.2.2.2.2.1.2.1 0 _ rfl;have H1:Hid (∀W,kZ t W->cZ 126 #[iZ m,vf] W (rZ W λe w'=>SLq (W.heap.size<=·) w' e m (λi=>v/2^i%2))):=λW f=>by
  rw[<-d.out];exact jJ m oM 124 (λ_ _=>kR) _ W λi V p j=>Ky v i k hv oM V (XC b.2.1.1 (XH f.size j.size)) (((b.2.1.below f).below j).2.1 0 _ rfl)
 have H2:Hid (∀W,kZ t W->cZ 126 #[iZ m,.func (.func 125) #[] #[jZ s]] W (rZ W λe w'=>SLq (W.heap.size<=·) w' e m (λi=>sMi N (v/2^i%2) 1))):=λW f =>
  jJ m oM 125 (λ_ _=>kR) _ W λi V p j=>R2 O v i k s hv oM V (XC b.2.1.1 (XH f.size j.size)) (XC b.2.2.2.2.1.1 (XH f.size j.size)) (((b.2.1.below f).below j).2.1 0 _ rfl) (by rw[((b.2.2.2.2.1.below f).below j).2.1 0 _ rfl,d.out])
 have HC:Hid (∀(l:ByteArray) W,l.size<=1000->kZ t W->cZ 127 #[.string l,iZ m,.slice q n c] W (rZ W λe w'=>SLq (W.heap.size<=·) w' e m (λi=>chL N l.data.toList [B,(fV i).toList]))):=λl W hl f=>Vd O l hl B q n c m hm W ((hp.below b.1).below f)
 go_enter func75,ntmps75;go_wp2_with (first|(refine alR 3 F R ?_)|(refine alR 6 C L ?_)|(refine alR 7 u T ?_)|(refine alR 8 o z ?_)|(refine wW rfl 224 rfl vf ?_ ?_ ?_ ?_ h0 kR ?_;rfl;exact d;(rw[<-d.out];rfl);(rw[<-d.out];rfl);rw[I.out])|fail)
 apply(H1 t (XR _ _)).mono;rintro e w1 ⟨x1,rfl,p,V⟩;go_wp2_with fail
 apply(HC _ w1 dC p).mono;rintro e w2 ⟨x2,rfl,j,H⟩;have b2:=p.trans (j.mono p.size);obtain⟨-,g1,o1,c1,e1⟩:=bZ V;obtain⟨-,Z,X,c2,e2⟩:=bZ H;subst e1 e2;go_wp2_with fail
 apply(H2 w2 b2).mono;rintro e w3 ⟨x3,rfl,r,M⟩;have b3:=b2.trans (r.mono b2.size);go_wp2_with fail
 apply(HC _ w3 dC b3).mono;rintro e w4 ⟨x4,rfl,D,K⟩;have b4:=b3.trans (D.mono b3.size);obtain⟨-,g3,o3,c3,e3⟩:=bZ M;obtain⟨-,g4,o4,c4,e4⟩:=bZ K;subst e3 e4;obtain⟨w5,Q⟩:=hE (w4.setCells G 0 [qZ g1 o1 m c1,qZ Z X m c2]);obtain⟨A,S⟩:=hE (w5.setCells E 0 [qZ g3 o3 m c3,qZ g4 o4 m c4]);obtain⟨h5,h4,h3⟩:=b.2.2.2.2.2;have h2:=b.2.2.2.2.1.1;have s1:=p.size;have s2:=j.size;have s3:=r.size;have R4:=mk2 (b.2.2.1.below b4) (b.2.2.2.1.below b4);have J:Hid (kZ w A/\Row A G [qZ g1 o1 m c1,qZ Z X m c2]/\Row A E [qZ g3 o3 m c3,qZ g4 o4 m c4]/\w5.there E 0 2/\Kq (s < ·) w4 A):=by
  rw[<-S.out,<-Q.out];have U:Row (w4.setCells G 0 [qZ g1 o1 m c1,qZ Z X m c2]) E _:=aR R4.2 oM;refine⟨RG.below_setCells (by rw[F.out];omega) _ _ _ (RG.below_setCells (by rw[F.out];omega) _ _ _ (b.1.trans (b4.mono b.1.size))),aR (R4.1.put rfl) oM,U.put rfl,U.2.2,?_⟩;exact⟨by rw[setCells_size,setCells_size];exact XD _,λg hg _=>by rw[aE _ _ _ g oM,aE _ _ _ g oM]⟩
 have hq:∀ {W:XA}{x:XB}{a:Nat->Nat},t.heap.size<=W.heap.size->SLq (W.heap.size<=·) w4 x m a->SLq (w.heap.size<=·) A x m a:=λhW h=>((h.mono (Q':=(s < ·)) λg hg=>oM).keep J.2.2.2.2).mono λg hg=>by rw[F.out];omega
 have U:=r.trans (D.mono r.size);have h1:=j.trans (U.mono j.size);have KR:Hid (Ln (w.heap.size<=·) A (.agg #[qZ g1 o1 m c1,qZ Z X m c2]) m (λi=>v/2^i%2) (λi=>chL N [115,108] [B,(fV i).toList])/\Ln (w.heap.size<=·) A (.agg #[qZ g3 o3 m c3,qZ g4 o4 m c4]) m (λi=>sMi N (v/2^i%2) 1) (λi=>chL N [115,114] [B,(fV i).toList])):=
  ⟨⟨_,_,rfl,hq (XD _) (V.keep (Kq.of_below h1)),hq s1 (H.keep (Kq.of_below U))⟩,⟨_,_,rfl,hq oM (M.keep (Kq.of_below D)),hq oM K⟩⟩
 go_wp2_with (first|(refine stR 6 Q (Hid.mk' rfl) R4.1.2.2 iLi kR ?_)|(refine stR 7 S (Hid.mk' rfl) J.2.2.2.1 iLi kR ?_)|fail)
 refine XN (qP 6 7 rfl J.2.1 J.2.2.1 rfl rfl uLi iLi uLi iLi) rfl ?_;exact⟨_,rfl,J.1,_,_,rfl,KR⟩
def uF2:wZ 236:=wQ
def uSl:wZ 143:=wQ
def EW{w c W:XA}{k:Nat}{x:XB}(b:kZ w c)(d:k<w.heap.size)(e:w.cell? ⟨k,0,none⟩=some x)(f:kZ c W):W.cell? ⟨k,0,none⟩=some x:=by
 rw[f.cell (p:=⟨k,0,none⟩) (XC d b.size),b.cell (p:=⟨k,0,none⟩) d];exact e
def row_of{w c W:XA}{k o:Nat}{cs:List XB}(b:kZ w c)(d:k<w.heap.size)(e:w.rangeAt k o cs)(f:kZ c W):W.rangeAt k o cs:=RG.range_below (RG.range_below e b d) f (XC d b.size)
def Ry(f:ZQ)(hf:∀args W,(callFunc f args).run prog W=.ok (.enter f args) W)(x y z:Nat)(A:Gives f #[nv x,nv y] (nv z))(i a s u o q v c1 n r p c2:Nat)(H:i<v)(L:i<p)(w:XA)(lf:a<w.heap.size)(M:s<w.heap.size)(E:u<w.heap.size)(B:o<w.heap.size)(D:n<w.heap.size)(G:w.cell? ⟨a,0,none⟩=some (.func (.func f) #[] #[]))(C:w.cell? ⟨s,0,none⟩=some (qZ o q v c1))(J:w.cell? ⟨u,0,none⟩=some (qZ n r p c2))(O:w.rangeAt o (q+4*i) (wn x))(F:w.rangeAt n (r+4*i) (wn y)):
 cZ 189 #[iZ i,jZ a,jZ s,jZ u] w (rZ w λe w'=>e=nv z):=by
 obtain⟨k,t⟩:=hE (w.heap.size);obtain⟨P,c⟩:=hE (lZ w (RG.z 4) 44);have m:=aK t c;obtain⟨U,d⟩:=hE (nv x);obtain⟨Q,l⟩:=hE (nv y);obtain⟨T,j⟩:=hE (nv z);rw[d.out,l.out,j.out]at A;have I:=mk1 A;go_enter func189,ntmps189;go_wp2_with (first|(refine alR 5 t c ?_)|fail)
 refine AW.begin 10 10 ?_;refine AW.ce 0 uF2 (λW b=>EW m.1 lf G b) ?_;refine AW.ce 1 uSl (λW b=>EW m.1 M C b) ?_;refine AW.mv 2 ?_;refine AW.iv 3 (lY (k:=o) (o:=q) (n:=v) (c:=c1) (i:=i) H) ?_;refine AW.ro 4 (λW b=>row_of m.1 B O b) d rSc nSc ?_;refine AW.ce 5 uSl (λW b=>EW m.1 E J b) ?_;refine AW.mv 6 ?_;refine AW.iv 7 (lY (k:=n) (o:=r) (n:=p) (c:=c2) (i:=i) L) ?_;refine AW.ro 8 (λW b=>row_of m.1 D F b) l rSc nSc ?_;refine AW.gi 9 (λ_=>I _) ?_ (hx:=SZ hf rfl rfl rfl rfl);intro K N;refine AW.fi (us:=wn z) j (aI (n:=z)) i40 (λb=>?_);obtain⟨S,g⟩:=hE (K.setCells k 0 (wn z));have R:=tB t c b g;rw[g.out];refine⟨R.1,?_⟩;go_wp2_with fail
 refine XN (aF 5 (T:=44) rfl R.2.2 rfl u40 i40) rfl ?_;exact⟨_,rfl,R.2.1,rfl⟩
def O2{w e j k:XA}{l m n:Nat}{x y z:List XB}{T U V:Yd}(f:Hid (w.heap.size=l))(o:Hid (w.alloc (.cells x.toArray T)=e))(i:Hid (e.heap.size=m))(p:Hid (e.alloc (.cells y.toArray U)=j))(g:Hid (j.heap.size=n))(q:Hid (j.alloc (.cells z.toArray V)=k)):Hid (kZ w k/\Row k l x/\Row k m y/\Row k n z):=by
 have a:=(aK f o).out;have b:=(aK i p).out;have c:=(aK g q).out;have d:=b.1.trans (c.1.mono b.1.size);exact⟨a.1.trans (d.mono a.1.size),a.2.below d,b.2.below c.1,c.2⟩
def PK{Q:Nat->Prop}(f:ZQ)(hf:∀args W,(callFunc f args).run prog W=.ok (.enter f args) W)(F:Nat->Nat->Nat)(n:Nat)(Y:n<=64)(a b:Nat->Nat)(J:∀i,i<n->Gives f #[nv (a i),nv (b i)] (nv (F (a i) (b i))))(va z:XB)(w:XA)(P:SLq Q w va n a)(R:SLq Q w z n b):
 cZ 139 #[.func (.func f) #[] #[],va,z] w (rZ w λe w'=>SLq (w.heap.size<=·) w' e n (λi=>F (a i) (b i))):=by
 obtain⟨I,A,c1,rfl,-,-,S,U⟩:=P;obtain⟨G,C,c2,rfl,-,-,L,M⟩:=R;obtain⟨vf,c⟩:=hE (yCI (.func f) #[] #[]);obtain⟨t,d⟩:=hE (w.heap.size);obtain⟨r,l⟩:=hE (w.alloc (.cells [vf].toArray 236));obtain⟨D,p⟩:=hE (r.heap.size);obtain⟨E,o⟩:=hE (r.alloc (.cells [qZ I A n c1].toArray 143));obtain⟨H,j⟩:=hE (E.heap.size);obtain⟨N,q⟩:=hE (E.alloc (.cells [qZ G C n c2].toArray 143));have B:=O2 d l p o j q;have x:Hid ((Ys 236 vf).run prog w=.ok (jZ t) r):=l.out▸d.out▸c.out▸Hid.mk' kR;have V:=B.2.2.1.2.1 0 _ rfl;have HL:=mk1 (jJ n oM 189 (cap:=#[jZ t,jZ D,jZ H]) (λ_ _=>kR) (λi=>F (a i) (b i)) N λi W m k=>by
  have bb:=B.1.trans (k.mono B.1.size);have s:=bb.size;exact Ry f hf (a i) (b i) _ (J i m) i t D H I A n c1 G C n c2 m m W (B.2.1.below k).1 (B.2.2.1.below k).1 (B.2.2.2.below k).1 oM oM (by rw[(B.2.1.below k).2.1 0 _ rfl,c.out]) ((B.2.2.1.below k).2.1 0 _ rfl) ((B.2.2.2.below k).2.1 0 _ rfl) (RG.range_below (U i m) bb S) (RG.range_below (M i m) bb L))
 rw[c.out];go_enter func139,ntmps139;go_wp2_with (first|(refine aG (u:=vf) (v:=jZ t) (w':=r) rfl _ (.tmp 0) rfl ?_ ?_ ?_;rfl;exact x)|(refine alR 4 p o ?_)|(refine alR 5 j q ?_)|fail)
 refine HL.mono ?_;rintro e X ⟨v,rfl,y,K⟩;have T:=mk2 (B.1.trans (y.mono B.1.size)) (K.mono λg O=>XH B.1.size O);go_wp2;go_ret;exact⟨_,rfl,T⟩
def SLq.set{W:XA}{B k o n:Nat}{vs:List XB}{x:XB}{a:Nat->Nat}(h:SLq (B<=·) W x n a)(b:k<B):SLq (B<=·) (W.setCells k o vs) x n a:=h.keep (Kq.set λg c=>oM)
section
variable {Q:Nat->Prop}{w:XA}{n:Nat}{v u:XB}{a b c:Nat->Nat}
def Gq{x y:XB}(hx:x.oneCell'=true)(m:y.oneCell'=true)(w:XA):∃k b i d,Hid (w.heap.size=k)/\Hid (w.alloc (.cells [x,y].toArray 145)=b)/\Hid (b.heap.size=i)/\Hid (b.alloc (.cells [nZ,nZ].toArray 145)=d)/\Hid (kZ w d/\Row d k [x,y]/\Row d i [nZ,nZ]/\k<i):=by
 obtain⟨k,l⟩:=hE (w.heap.size);obtain⟨b,j⟩:=hE (w.alloc (.cells [x,y].toArray 145));obtain⟨i,c⟩:=hE (b.heap.size);obtain⟨d,e⟩:=hE (b.alloc (.cells [nZ,nZ].toArray 145));have f:=(aK l j).out;have g:=(aK c e).out;exact⟨k,b,i,d,l,j,c,e,f.1.trans (g.1.mono f.1.size),f.2.below g.1,g.2,c.out▸f.2.1⟩
def PO(O:Ord N)(Y:n<=64)(X:∀i,i<n->a i<N)(V:∀i,i<n->c i<N)(h:Ln Q w v n a b)(K:SLq Q w u n c):
 cZ 81 #[v,u] w (rZ w λe w'=>Ln (λg=>Q g\/w.heap.size<=g) w' e n (λi=>sPl N (a i) (c i)) b):=by
 obtain⟨x,y,rfl,hx,J⟩:=h.ex;obtain⟨P,g1,o1,c1,rfl⟩:=bZ hx;obtain⟨U,o,l,c2,rfl⟩:=bZ J;obtain⟨k,Z,t,w2,H,q,s,r,F⟩:=Gq P U w;have T:=mk1 (λ(W:XA) (d:kZ w W)=>PK (Q:=λ_=>True) 25 (λ_ _=>kR) (sPl N) n Y a c (λi G=>mJ O _ _ (X i G) (V i G)) _ _ W ((hx.keep (Kq.of_below d)).mono λ_ _=>trivial) ((K.keep (Kq.of_below d)).mono λ_ _=>trivial));go_enter func81,ntmps81;go_wp2_with (first|(refine alR 2 H q ?_)|(refine alR 4 s r ?_)|fail)
 refine AW.begin 7 7 ?_;refine AW.va 0 (jZ k) ?_;refine AW.ce 1 uSl (λW d=>(F.2.1.below d).2.1 0 _ rfl) ?_;refine AW.mv 2 ?_;refine AW.va 4 (oZ k 1) ?_;refine AW.ce 5 uSl (λW d=>(F.2.1.below d).2.1 1 _ rfl) ?_;refine AW.ca 3 (λd=>T _ (F.1.trans (d.mono F.1.size))) (λe w' h=>h.1) ?_;rintro e E ⟨S,C⟩;obtain⟨h5,m,j,f,rfl⟩:=bZ C;refine AW.va 6 (.agg #[qZ m j n f,qZ o l n c2]) ?_;refine AW.fi (us:=[qZ m j n f,qZ o l n c2]) (Hid.mk' rfl) kR iLi (λd=>?_);have D:=F.2.2.1.below d;refine⟨D.2.2,?_⟩;obtain⟨z,p⟩:=hE (E.setCells t 0 [qZ m j n f,qZ o l n c2]);have R:Hid (kZ w z/\Row z t [qZ m j n f,qZ o l n c2]/\Ln (λg=>Q g\/w.heap.size<=g) z (.agg #[qZ m j n f,qZ o l n c2]) n (λi=>sPl N (a i) (c i)) b):=by
  have L:=F.1.trans (d.mono F.1.size);have B:w.heap.size<=t:=H.out▸yAg F.2.2.2;have I:=RG.below_setCells B [qZ m j n f,qZ o l n c2] 0 E L;rw[<-p.out];exact⟨I,D.put rfl,_,_,rfl,(C.set F.2.2.1.1).mono λg M=>X7 (XH F.1.size M),(J.keep (Kq.of_below I)).mono λ_ h=>Ye h⟩
 rw[p.out];go_wp2_with fail
 refine XN (aF 4 rfl R.2.1 rfl uLi iLi) rfl ?_;exact⟨_,rfl,R.1,R.2.2⟩
def UA(O:Ord N)(hn:n<=64)(E:∀i,i<n->a i<N)(d:∀i,i<n->b i<N)(Z:∀i,i<n->c i<N)(h:Ln Q w v n a b)(T:SLq Q w u n c):
 cZ 82 #[v,u] w (rZ w λe w'=>Ln (w.heap.size<=·) w' e n (λi=>sTi N (a i) (c i)) (λi=>sTi N (b i) (c i))):=by
 obtain⟨x,y,rfl,hx,S⟩:=h.ex;obtain⟨V,g1,o1,c1,rfl⟩:=bZ hx;obtain⟨Y,g2,o2,c2,rfl⟩:=bZ S;obtain⟨k,w1,B,w2,M,t,A,z,F⟩:=Gq V Y w;have P:=mk1 (λ(x:XB) (a:Nat->Nat) (E:∀i,i<n->a i<N) (hx:SLq Q w x n a) (W:XA) (d:kZ w W)=>PK (Q:=λ_=>True) 26 (λ_ _=>kR) (sTi N) n hn a c (λi L=>gJ O _ _ (E i L) (Z i L)) _ _ W ((hx.keep (Kq.of_below d)).mono λ_ _=>trivial) ((T.keep (Kq.of_below d)).mono λ_ _=>trivial));go_enter func82,ntmps82;go_wp2_with (first|(refine alR 2 M t ?_)|(refine alR 4 A z ?_)|fail)
 refine AW.begin 9 9 ?_;refine AW.va 0 (jZ k) ?_;refine AW.ce 1 uSl (λW d=>(F.2.1.below d).2.1 0 _ rfl) ?_;refine AW.mv 2 ?_;refine AW.va 4 (oZ k 1) ?_;refine AW.ce 5 uSl (λW d=>(F.2.1.below d).2.1 1 _ rfl) ?_;refine AW.mv 6 ?_;refine AW.ca 3 (λd=>P _ a E hx _ (F.1.trans (d.mono F.1.size))) (λe w' h=>h.1) ?_;rintro e W3 ⟨r,J⟩;obtain⟨h5,l,j,f,rfl⟩:=bZ J;refine AW.ca 7 (λH=>P _ b d S _ (F.1.trans (H.mono F.1.size))) (λe w' h=>h.1) ?_;rintro e X ⟨G,m⟩;obtain⟨h6,q,s,o,rfl⟩:=bZ m;refine AW.va 8 (.agg #[qZ l j n f,qZ q s n o]) ?_;refine AW.fi (us:=[qZ l j n f,qZ q s n o]) (Hid.mk' rfl) kR iLi (λd=>?_);have K:=F.2.2.1.below d;refine⟨K.2.2,?_⟩;obtain⟨D,p⟩:=hE (X.setCells B 0 [qZ l j n f,qZ q s n o]);have R:Hid (kZ w D/\Row D B [qZ l j n f,qZ q s n o]/\Ln (w.heap.size<=·) D (.agg #[qZ l j n f,qZ q s n o]) n (λi=>sTi N (a i) (c i)) (λi=>sTi N (b i) (c i))):=by
  have U:=F.1.trans (d.mono F.1.size);have I:w.heap.size<=B:=M.out▸yAg F.2.2.2;rw[<-p.out];exact⟨RG.below_setCells I _ _ _ U,K.put rfl,_,_,rfl,((J.keep (Kq.of_below G)).set F.2.2.1.1).mono λg C=>XH F.1.size C,(m.set (XC F.2.2.1.1 r.size)).mono λg C=>XH F.1.size (XH r.size C)⟩
 rw[p.out];go_wp2_with fail
 refine XN (aF 4 rfl R.2.1 rfl uLi iLi) rfl ?_;exact⟨_,rfl,R.1,R.2.2⟩
end
def Sg(O:Ord N)(x y z:Nat)(hx:x<N)(P:y<N)(I:z<N)(i p F t v C c1 q a u c2:Nat)(L:i<C)(Q:i<u)(w:XA)(G:t<w.heap.size)(J:q<w.heap.size)(E:Row w p [qZ t v C c1,qZ q a u c2])(H:Row w F (wn z))(S:w.rangeAt t (v+4*i) (wn x))(K:w.rangeAt q (a+4*i) (wn y)):
 cZ 141 #[iZ i,jZ p,jZ F] w (rZ w λe w'=>e=nv (sPl N x (sTi N y z))):=by
 obtain⟨k,B⟩:=hE (w.heap.size);obtain⟨T,c⟩:=hE (lZ w (RG.z 4) 44);have n:=aK B c;have D:=gJ O y z P I;have A:sTi N y z<N:=Y8 _ O.pos;have o:=mJ O x (sTi N y z) hx A;generalize sTi N y z=s at D o⊢;generalize sPl N x s=r at o⊢;obtain⟨vx,f⟩:=hE (nv x);obtain⟨U,m⟩:=hE (nv y);obtain⟨Y,j⟩:=hE (nv z);obtain⟨vs,l⟩:=hE (nv s);obtain⟨Z,d⟩:=hE (nv r);rw[m.out,j.out,l.out]at D;rw[f.out,l.out,d.out]at o;go_enter func141,ntmps141;go_wp2_with (first|(refine alR 4 B c ?_)|fail)
 refine AW.begin 13 13 ?_;refine AW.va 0 (jZ p) ?_;refine AW.ce 1 uSl (λW b=>((E.below n.1).below b).2.1 0 _ rfl) ?_;refine AW.mv 2 ?_;refine AW.iv 3 (lY (k:=t) (o:=v) (n:=C) (c:=c1) (i:=i) L) ?_;refine AW.ro 4 (λW b=>row_of n.1 G S b) f rSc nSc ?_;refine AW.va 5 (oZ p 1) ?_;refine AW.ce 6 uSl (λW b=>((E.below n.1).below b).2.1 1 _ rfl) ?_;refine AW.mv 7 ?_;refine AW.iv 8 (lY (k:=q) (o:=a) (n:=u) (c:=c2) (i:=i) Q) ?_;refine AW.ro 9 (λW b=>row_of n.1 J K b) m rSc nSc ?_;refine AW.ro 10 (λW b=>((H.below n.1).below b).2.1) j rSc nSc ?_;refine AW.gi 11 (λ_=>D _) λV _=>?_
 refine AW.gi 12 (λ_=>o _) λM _=>?_
 refine AW.fi (us:=wn r) d (aI (n:=r)) i40 (λb=>?_);obtain⟨X,g⟩:=hE (M.setCells k 0 (wn r));have R:=tB B c b g;rw[g.out];refine⟨R.1,?_⟩;go_wp2_with fail
 refine XN (aF 4 (T:=44) rfl R.2.2 rfl u40 i40) rfl ?_;exact⟨_,rfl,R.2.1,rfl⟩
def UF(O:Ord N){Q:Nat->Prop}{n:Nat}(V:n<=64){a b:Nat->Nat}(P:∀i,i<n->a i<N)(I:∀i,i<n->b i<N){z:Nat}(E:z<N){v:XB}{w:XA}(h:Ln Q w v n a b):
 cZ 86 #[v,nv z] w (rZ w λe w'=>SLq (w.heap.size<=·) w' e n (λi=>sPl N (a i) (sTi N (b i) z))):=by
 obtain⟨x,y,rfl,hx,L⟩:=h.ex;obtain⟨C,q,c1,rfl,-,-,M,S⟩:=hx;obtain⟨u,r,c2,rfl,-,-,G,H⟩:=L;obtain⟨k,t⟩:=hE (w.heap.size);obtain⟨p,j⟩:=hE (w.alloc (.cells [qZ C q n c1,qZ u r n c2].toArray 145));obtain⟨B,d⟩:=hE (p.heap.size);obtain⟨K,l⟩:=hE (lZ p (wn z) 44);have f:=aK t j;have g:=aK d l;have F:=mk3 (f.1.trans (g.1.mono f.1.size)) (f.2.below g.1) g.2;have HL:=mk1 (jJ n oM 141 (cap:=#[jZ k,jZ B]) (λ_ _=>kR) (λi=>sPl N (a i) (sTi N (b i) z)) K λi W c m=>by
  have bb:=F.1.trans (m.mono F.1.size);have s:=bb.size;exact Sg O (a i) (b i) z (P i c) (I i c) E i k B C q n c1 u r n c2 c c W oM oM (F.2.1.below m) (F.2.2.below m) (RG.range_below (S i c) bb M) (RG.range_below (H i c) bb G))
 have T:=F.2.1.2.1 0 _ rfl;go_enter func86,ntmps86;go_wp2_with (first|(refine alR 2 t j ?_)|(refine alR 3 d l ?_)|fail)
 refine HL.mono ?_;rintro e U ⟨v,rfl,o,D⟩;have R:=mk2 (F.1.trans (o.mono F.1.size)) (D.mono λg J=>XH F.1.size J);go_wp2;go_ret;exact⟨_,rfl,R⟩
def UB(O:Ord N){Q:Nat->Prop}{n:Nat}(hn:n<=64){a b c d:Nat->Nat}(B:∀i,i<n->a i<N/\b i<N/\c i<N/\d i<N){v u:XB}{w:XA}(h:Ln Q w v n a b)(h':Ln Q w u n c d):
 cZ 84 #[v,u] w (rZ w λe w'=>e=.tuple #[nv (sPl N (prS N a d n) (prS N b c n)),nv (prS N b d n)]):=by
 obtain⟨x,y,rfl,hx,Y⟩:=h.ex;obtain⟨-,g1,o1,c1,rfl⟩:=bZ hx;obtain⟨-,g2,o2,c2,rfl⟩:=bZ Y;obtain⟨x',y',rfl,L,t⟩:=h'.ex;obtain⟨-,g3,o3,c3,rfl⟩:=bZ L;obtain⟨-,g4,o4,c4,rfl⟩:=bZ t;obtain⟨k,hk⟩:=hE (w.heap.size);obtain⟨w1,z⟩:=hE (w.alloc (.cells [qZ g1 o1 n c1,qZ g2 o2 n c2].toArray 145));obtain⟨k3,m⟩:=hE (w1.heap.size);obtain⟨w2,r⟩:=hE (w1.alloc (.cells [qZ g3 o3 n c3,qZ g4 o4 n c4].toArray 145));obtain⟨A,s⟩:=hE (w2.heap.size);obtain⟨w3,E⟩:=hE (lZ w2 (RG.z 4) 44);obtain⟨H,o⟩:=hE (w3.heap.size);obtain⟨w4,C⟩:=hE (lZ w3 (RG.z 4) 44);have f:=O2 hk z m r s E;have g:=aK o C;have F:=mk5 (f.1.trans (g.1.mono f.1.size)) (f.2.1.below g.1) (f.2.2.1.below g.1) (f.2.2.2.below g.1) g.2;have h0:w.heap.size<=A/\A<H:=⟨s.out▸XH (aK hk z).1.size (aK m r).1.size,o.out▸f.2.2.2.1⟩
 have U:Hid (∀ {p q:Nat->Nat}{x y:XB},(∀i,i<n->p i<N/\q i<N)->SLq Q w x n p->SLq Q w y n q->∀W,kZ w4 W->cZ 87 #[x,y] W (rZ W λe w'=>e=nv (prS N p q n))):=λ{p q x y} hp h1 h2 W j=>by
  have b:=F.1.trans (j.mono F.1.size);exact BN O (Q:=Q) n oM p q (λi l=>(hp i l).1) (λi l=>(hp i l).2) x y W (h1.keep (Kq.of_below b)) (h2.keep (Kq.of_below b))
 have C1:=U (λi l=>⟨(B i l).1,(B i l).2.2.2⟩) hx t;have X:=U (λi l=>⟨(B i l).2.1,(B i l).2.2.1⟩) Y L;have V:=U (λi l=>⟨(B i l).2.1,(B i l).2.2.2⟩) Y t;have I:=mJ O _ _ (Bq O.pos (a:=a) (b:=d) n) (Bq O.pos (a:=b) (b:=c) n);generalize prS N a d n=p1 at C1 I⊢;generalize prS N b c n=p2 at X I⊢;generalize prS N b d n=T at V⊢;generalize sPl N p1 p2=P at I⊢;obtain⟨v1,K⟩:=hE (nv p1);obtain⟨v2,G⟩:=hE (nv p2);obtain⟨v3,J⟩:=hE (nv T);obtain⟨v4,D⟩:=hE (nv P);rw[K.out]at C1;rw[G.out]at X;rw[J.out]at V;rw[K.out,G.out,D.out]at I;go_enter func84,ntmps84;go_wp2_with (first|(refine alR 2 hk z ?_)|(refine alR 3 m r ?_)|(refine alR 4 s E ?_)|(refine alR 5 o C ?_)|fail)
 refine AW.begin 16 15 ?_;refine AW.va 0 (jZ k) ?_;refine AW.ce 1 uSl (λW j=>(F.2.1.below j).2.1 0 _ rfl) ?_;refine AW.va 2 (oZ k3 1) ?_;refine AW.ce 3 uSl (λW j=>(F.2.2.1.below j).2.1 1 _ rfl) ?_;refine AW.va 5 (oZ k 1) ?_;refine AW.ce 6 uSl (λW j=>(F.2.1.below j).2.1 1 _ rfl) ?_;refine AW.va 7 (jZ k3) ?_;refine AW.ce 8 uSl (λW j=>(F.2.2.1.below j).2.1 0 _ rfl) ?_;refine AW.va 11 (oZ k 1) ?_;refine AW.ce 12 uSl (λW j=>(F.2.1.below j).2.1 1 _ rfl) ?_;refine AW.va 13 (oZ k3 1) ?_;refine AW.ce 14 uSl (λW j=>(F.2.2.1.below j).2.1 1 _ rfl) ?_;refine AW.gi 4 (λj=>C1 _ j) λW1 _=>?_
 refine AW.gi 9 (λj=>X _ j) λW2 _=>?_
 refine AW.gi 10 (λ_=>I _) λW3 _=>?_
 refine AW.gi 15 (λj=>V _ j) λW4 _=>?_
 refine AW.f2 (us:=wn P) (us':=wn T) D J aI i40 aI i40 (λj=>?_);obtain⟨W5,S⟩:=hE (W4.setCells A 0 (wn P));obtain⟨Z,M⟩:=hE (W5.setCells H 0 (wn T));have R:Hid (W4.there A 0 4/\W5.there H 0 4/\Row Z A (wn P)/\Row Z H (wn T)/\kZ w Z):=by
  have r4:=F.2.2.2.1.below j;have r5:Row (W4.setCells A 0 (wn P)) H _:=aR (F.2.2.2.2.below j) oM;rw[<-M.out,<-S.out];exact⟨r4.2.2,r5.2.2,aR (r4.put rfl) oM,r5.put rfl,RG.below_setCells oM _ _ _ (RG.below_setCells oM _ _ _ (F.1.trans (j.mono F.1.size)))⟩
 rw[S.out,M.out];refine⟨R.1,R.2.1,?_⟩;go_wp2_with fail
 refine XN (qP 4 5 (T:=44) (e:=44) rfl R.2.2.1 R.2.2.2.1 rfl rfl u40 i40 u40 i40) rfl ?_;exact⟨_,rfl,R.2.2.2.2,rfl⟩
def Rq(O:Ord N)(p x:Nat)(Q:p<N)(hx:x<N)(i:Int)(b m:Nat)(H:m≠b)(w:XA)(E:Row w b (wn p))(L:Row w m (wn x)):
 cZ 140 #[iZ i,jZ b,jZ m] w (Ret λe w'=>Kz (·≠b) w w'/\(Row w' b (wn (sTi N p x))/\Row w' m (wn x))/\e=nv p):=by
 have I:=gJ O p x Q hx;generalize sTi N p x=q at I⊢;obtain⟨W,k⟩:=hE (nv p);obtain⟨Z,r⟩:=hE (nv x);obtain⟨T,t⟩:=hE (nv q);rw[k.out,r.out,t.out]at I;obtain⟨u,j⟩:=hE (w.heap.size);obtain⟨J,o⟩:=hE (lZ w (RG.z 4) 44);obtain⟨B,f⟩:=hE (J.heap.size);obtain⟨M,s⟩:=hE (lZ J (RG.z 4) 44);obtain⟨l,y⟩:=hE (M.setCells B 0 (wn p));have z:=aK j o;have C:=aK f s;have D:=z.1.trans (C.1.mono z.1.size);have X:=E.1;have U:=L.1;have R:=z.2.1;have S:=j.out;have Y:=f.out;have d:Hid (kZ w l/\Row l b (wn p)/\Row l m (wn x)/\Row l u (RG.z 4)/\Row l B (wn p)/\M.there B 0 4):=by
  rw[<-y.out];exact⟨RG.below_setCells oM _ _ _ D,aR (E.below D) oM,aR (L.below D) oM,aR (z.2.below C.1) oM,C.2.put rfl,C.2.2.2⟩
 have P:=mk1 (E.below D);go_enter func140,ntmps140;go_wp2_with (first|(refine alR 4 j o ?_)|(refine ldR 1 (E.below z.1).2.1 k u40 i40 ?_)|(refine alR 5 f s ?_)|(refine stR 5 y k d.2.2.2.2.2 i40 (aI (n:=p)) ?_)|(refine ldR 1 d.2.1.2.1 k u40 i40 ?_)|(refine ldR 2 d.2.2.1.2.1 r u40 i40 ?_)|fail)
 refine(I l).mono ?_;rintro e G ⟨V,rfl,c,rfl⟩;obtain⟨F,v⟩:=hE (G.setCells b 0 (wn q));obtain⟨A,a⟩:=hE (F.setCells u 0 (wn p));have n:=mk5 (d.1.trans (c.mono d.1.size)) (d.2.1.below c) (d.2.2.1.below c) (d.2.2.2.1.below c) (d.2.2.2.2.1.below c);have g:Hid (G.there b 0 4/\Row F B (wn p)/\F.there u 0 4/\Kz (·≠b) w A/\Row A b (wn q)/\Row A m (wn x)/\Row A u (wn p)):=by
  have K:Row (G.setCells b 0 (wn q)) u _:=aR n.2.2.2.1 oM;rw[<-a.out,<-v.out];exact⟨n.2.1.2.2,aR n.2.2.2.2 oM,K.2.2,((Kz.of n.1).set (X7 (by simp))).set (Ye oM),aR (n.2.1.put rfl) oM,aR (aR n.2.2.1 H) oM,K.put rfl⟩
 go_wp2_with (first|(refine stR 1 v t g.1 i40 (aI (n:=q)) ?_)|(refine ldR 5 g.2.1.2.1 k u40 i40 ?_)|(refine stR 4 a k g.2.2.1 i40 (aI (n:=p)) ?_)|fail)
 refine XN (aF 4 (T:=44) rfl g.2.2.2.2.2.2 rfl u40 i40) rfl ?_;exact⟨_,rfl,g.2.2.2.1,⟨g.2.2.2.2.1,g.2.2.2.2.2.1⟩,rfl⟩
def pwN(N x:Nat):Nat->Nat
 | 0=>1
 | i+1=>sTi N (pwN N x i) x
def xW{x:Nat}(O:Ord N):∀i,pwN N x i<N
 | 0=>by show 1<N;have:=O.n2;omega
 | _+1=>Y8 _ O.pos
def FT[NeZero N](k:1<N)(x:Fin N):∀i,(pwF x i).val=pwN N x.val i
 | 0=>X6 k
 | i+1=>by
  show(pwF x i*x).val=_;rw[eR,FT k x i];rfl
def Kz.bw{Z:Nat->Prop}{w c d:XA}(h:kZ w c)(k:Kz Z c d)(e:∀g,g<w.heap.size->Z g):kZ w d:=⟨k.os.trans h.os,k.tape.trans h.tape,k.output.trans h.output,XH h.size k.size,λg b=>(k.block g (XC b h.size) (e g b)).trans (h.block g b)⟩
def FW(O:Ord N)(x:Nat)(hx:x<N)(n:Nat)(Q:n<=512)(w:XA):
 cZ 83 #[nv x,iZ n] w (rZ w λe w'=>SLq (w.heap.size<=·) w' e n (pwN N x)/\∃g c,e=sZ g n c):=by
 obtain⟨G,l⟩:=hE (nv x);obtain⟨v1,q⟩:=hE (nv 1);have J:Hid (Gives 15 #[uZ 1] v1):=by rw[<-q.out];exact Kf
 obtain⟨t,b⟩:=hE (w.heap.size);obtain⟨z,f⟩:=hE (lZ w (wn x) 44);have a:Hid ((Ys 44 G).run prog w=.ok (jZ t) z):=by rw[<-l.out,<-f.out,<-b.out];exact boxS x (w:=w)
 have B:=aK b f;rw[l.out];go_enter func83,ntmps83;go_wp2_with (first|(refine aG (u:=G) (v:=jZ t) (w':=z) rfl _ (.tmp 0) rfl ?_ ?_ ?_;rfl;exact a.out)|fail)
 refine(J z).mono ?_;rintro e F ⟨U,rfl,p,rfl⟩;obtain⟨m,k⟩:=hE (F.heap.size);obtain⟨M,s⟩:=hE (lZ F (RG.z 4) 44);obtain⟨P,j⟩:=hE (M.setCells m 0 (wn 1));have y:=Gi k s j rfl;have C:=B.2.below p;have r:=C.1;rw[k.out]at r;have E:=B.1.trans (p.mono B.1.size);have d:=mk4 (E.trans (y.2.1.mono E.size)) (C.below y.2.1) y.2.2 r;have s4:=d.2.2.1.1;have HL:=mk1 (AK n Q 140 #[jZ m,jZ t] (λ_ _=>kR) (pwN N x) (·≠m) (λi W=>Row W m (wn (pwN N x i))/\Row W t (wn x)) P (λg A=>oM) (λW D=>⟨d.2.2.1.below D,d.2.1.below D⟩) (λi W K o vs X h=>⟨aR h.1 oM,aR h.2 oM⟩) λi W S _ h=>Rq O _ x (xW O (x:=x) i) hx _ m t oM W h.1 h.2);go_wp2_with (first|(refine alR 5 k s ?_)|(refine stR 5 j q y.1 i40 (aI (n:=1)) ?_)|fail)
 refine HL.mono ?_;rintro e T ⟨v,rfl,I,-,H,R⟩;have V:=b.out;have L:=mk3 (Kz.bw d.1 I λg A=>oN d.2.2.2) (H.mono λg A=>XH d.1.size A) R;go_wp2;go_ret;exact⟨_,rfl,L.out⟩
def PC{x n:Nat}{w:XA}(O:Ord N)(hx:x<N)(k:n<=512):
 cZ 83 #[nv x,iZ n] w (rZ w λe w'=>SLq (w.heap.size<=·) w' e n (pwN N x)):=
 (FW O x hx n k w).mono λ_ _ ⟨v,h,b,c,_⟩=>⟨v,h,b,c⟩
def uLs:wZ 148:=wQ
def uSm:wZ 82:=wQ
def QF(O:Ord N)(l:LB)(s:TOk N l)(d:l.length<=512)(z:Nat)(A:z<N)(i q t f j r c1 m o n c2:Nat)(v0 v2 x:XB)(H:i<r)(I:i<n)(w:XA)(v:f<w.heap.size)(C:m<w.heap.size)(E:Row w q [v0,qZ f j r c1,v2])(y:Row w t [qZ m o n c2])(L:w.cell? ⟨f,j+1*i,none⟩=some x)(hx:Sm 0 w x l)(D:w.rangeAt m (o+4*i) (wn z)):
 cZ 148 #[iZ i,jZ q,jZ t] w (rZ w λe w'=>Sm w.heap.size w' e (l.map (tmT N z))):=by
 obtain⟨M,b⟩:=hE (nv z);have u:=mk1 (λ(W:XA) (k:kZ w W)=>eD O A 0 x l d s.szm s.lt W (hx.grow k));rw[b.out]at u;obtain⟨F,J⟩:x.oneCell'=true/\∃g c,x=sZ g l.length c:=by
  obtain⟨g,c,rfl,-⟩:=hx;exact⟨rfl,_,_,rfl⟩
 go_enter func148,ntmps148;go_wp2_with fail
 refine AW.begin 10 10 ?_;refine AW.va 0 (oZ q 1) ?_;refine AW.ce 1 uLs (λW k=>(E.below k).2.1 1 _ rfl) ?_;refine AW.mv 2 ?_;refine AW.iv 3 (atS f j (n:=r) c1 (i:=i) H) ?_;refine AW.ce 4 uSm (λW k=>by rw[k.cell (p:=⟨f,j+1*i,none⟩) v];exact L) ?_;refine AW.ce 5 uSl (λW k=>(y.below k).2.1 0 _ rfl) ?_;refine AW.mv 6 ?_;refine AW.iv 7 (lY (k:=m) (o:=o) (n:=n) (c:=c2) (i:=i) I) ?_;refine AW.ro 8 (λW k=>RG.range_below D k C) b rSc nSc ?_;refine AW.ca 9 (λk=>u _ k) (λe w' h=>h.1) ?_;rintro e B ⟨G,a⟩;refine AW.nx 10 e ?_;refine AW.dn λk=>?_
 have K:=mk2 k (show Sm w.heap.size B e _ from a);go_wp2;go_ret;exact⟨_,rfl,K⟩
def QU(O:Ord N)(z q y t:Nat)(U:z<N)(P:q<N)(hy:y<N)(T:t<N)(i I K L J v A F c1 u C x c2:Nat)(Z:i<F)(h2:i<x)(w:XA)(Q:v<w.heap.size)(V:u<w.heap.size)(Y:Row w I (wn z))(S:Row w K [qZ v A F c1])(R3:Row w L (wn q))(R4:Row w J [qZ u C x c2])(r1:w.rangeAt v (A+4*i) (wn y))(X:w.rangeAt u (C+4*i) (wn t)):
 cZ 138 #[iZ i,jZ I,jZ K,jZ L,jZ J] w (rZ w λe w'=>e=nv (sPl N (sTi N z y) (sTi N q t))):=by
 obtain⟨k,E⟩:=hE (w.heap.size);obtain⟨w1,d⟩:=hE (lZ w (RG.z 4) 44);have f:=aK E d;have D:=gJ O z y U hy;have G:=gJ O q t P T;have M:sTi N z y<N:=Y8 _ O.pos;have H:sTi N q t<N:=Y8 _ O.pos;generalize sTi N z y=a at D M⊢;generalize sTi N q t=b at G H⊢;have B:=mJ O a b M H;generalize sPl N a b=r at B⊢;obtain⟨vz,n⟩:=hE (nv z);obtain⟨vq,l⟩:=hE (nv q);obtain⟨vy,o⟩:=hE (nv y);obtain⟨vt,p⟩:=hE (nv t);obtain⟨va,j⟩:=hE (nv a);obtain⟨vb,s⟩:=hE (nv b);obtain⟨vr,g⟩:=hE (nv r);rw[n.out,o.out,j.out]at D;rw[l.out,p.out,s.out]at G;rw[j.out,s.out,g.out]at B;go_enter func138,ntmps138;go_wp2_with (first|(refine alR 6 E d ?_)|fail)
 refine AW.begin 13 13 ?_;refine AW.ro 0 (λW c=>((Y.below f.1).below c).2.1) n rSc nSc ?_;refine AW.ce 1 uSl (λW c=>((S.below f.1).below c).2.1 0 _ rfl) ?_;refine AW.mv 2 ?_;refine AW.iv 3 (lY (k:=v) (o:=A) (n:=F) (c:=c1) (i:=i) Z) ?_;refine AW.ro 4 (λW c=>row_of f.1 Q r1 c) o rSc nSc ?_;refine AW.ro 6 (λW c=>((R3.below f.1).below c).2.1) l rSc nSc ?_;refine AW.ce 7 uSl (λW c=>((R4.below f.1).below c).2.1 0 _ rfl) ?_;refine AW.mv 8 ?_;refine AW.iv 9 (lY (k:=u) (o:=C) (n:=x) (c:=c2) (i:=i) h2) ?_;refine AW.ro 10 (λW c=>row_of f.1 V X c) p rSc nSc ?_;refine AW.gi 5 (λ_=>D _) λW2 _=>?_
 refine AW.gi 11 (λ_=>G _) λW3 _=>?_
 refine AW.gi 12 (λ_=>B _) λW4 _=>?_
 refine AW.fi (us:=wn r) g (aI (n:=r)) i40 (λc=>?_);obtain⟨W5,m⟩:=hE (W4.setCells k 0 (wn r));have R:=tB E d c m;rw[m.out];refine⟨R.1,?_⟩;go_wp2_with fail
 refine XN (aF 6 (T:=44) rfl R.2.2 rfl u40 i40) rfl ?_;exact⟨_,rfl,R.2.1,rfl⟩
namespace RG
variable {P:YJ}{ops:Array Yp}{Q:Exit->Act->XA->Prop}{w:XA}{a0:Act}{L:Array Bool}{F:Flow}{m:Nat}
def Fr(a k:Act)(d:Option Zw):Prop:=∃v,k.tmps=(a.put d v).tmps
def MY{o:Yp}{a:Act}{K:Act->XA->Prop}:∀ {r:Result Next},o.upon P a K Q r->o.upon P a (λb w'=>K b w'/\Fr a b o.dst) Q r
 | .ok (.value v) _,h=>⟨h,v,rfl⟩
 | .ok .skip _,h=>⟨h,Zs,rfl⟩
 | .ok (.defer d) _,h=>⟨h,Zs,by cases o.dst<;>rfl⟩
 | .ok (.enter f args) _,h=>Calls.mono h λe w' k=>by
  cases e with
  | returned v=>exact⟨k,v,rfl⟩
  | panicked c=>exact k
  | outgrown=>exact k
 | .ok (.row row args) _,h=>Rows.mono h λv w' k=>⟨k,v,rfl⟩
 | .halt (.panic v) _,h=>h
 | .halt (.exit _) _,h=>h.elim
def MR{i:Nat}{o:Yp}{a:Act}{K:Act->XA->Prop}(ho:ops[i]? = some o)(h:wpOp P ops Q i K a w):wpOp P ops Q i (λk w'=>K k w'/\Fr a k o.dst) a w:=by
 unfold wpOp at *;rw[ho]at h⊢;dsimp only at h⊢;split
 .rename_i hw
  rw[yEX hw]at h;rcases h with h|h
  .exact Ye (MY h)
  .exact X7 h
 .rename_i hw
  rw[yEY hw]at h;exact⟨h,Zs,rfl⟩
def I9{i:Nat}{o:Yp}{a:Act}{K:Act->XA->Prop}{v:XB}{b:XA}(ho:ops[i]? = some o)(c:o.guard=none)(e:(Yh a.eval o).run P w=.ok (.value v) b)(h:wpOp P ops Q i K a w):wpOp P ops Q i (λk w'=>K k w'/\k=a.put o.dst v) a w:=by
 unfold wpOp at *;rw[ho]at h⊢;dsimp only at h⊢;have d:Zc o (yielded ops a.tmps)=true:=by
  unfold Zc;rw[c]
 rw[yEX d]at h⊢;rcases h with h|h
 .unfold Y3 at h⊢;rw[e]at h⊢;exact Ye ⟨h,rfl⟩
 .exact X7 h
def rU(k:Array Yp)(i:Nat):Bool:=match k[i]? with
 | some o=>match o.op with | .alloc _=>true|_=>false
 | none=>false
def Sep(k:Array Yp)(L:Array Bool)(a:Act):Prop:=∀i j di dj,on L i=true->on L j=true->i≠j->rU k i=true->rU k j=true->aU k i=some di->aU k j=some dj->a.tmps[di]?≠a.tmps[dj]?
def Als(P:YJ)(F:Flow)(b:Array Yp)(n:Nat):Prop:=∀i o,i<n->b[i]? = some o->rU b i=true->o.guard=none/\F.kill i=[]/\(∀(a:Act) w,∃c,(Yh a.eval o).run P w=.ok (.value (jZ w.heap.size)) c)/\∀v w,F.R i v w->∃k,v=jZ k/\k<w.heap.size
def kK{a:Act}{d e:Zw}{v:XB}(h:d≠e):(a.put (some d) v).tmps[e]? = a.tmps[e]?:=by
 unfold Ym;dsimp only;rw[Zx,yEY h]
def stepS{k:Nat}{o:Yp}{a:Act}(R:RegF P Q F ops a0 m)(W:Als P F ops m)(H:k<m)(E:∀i,on L i=true->i<m)(ho:ops[k]? = some o)(T:on L k=false)(C:∀e∈o.after,Region.binds .any e=true->on L e.on=true)(h:InvF F ops a0 L a w)(U:Sep ops L a):
 wpOp P ops Q k (λI w'=>InvF F ops a0 (L.setIfInBounds k true) I w'/\Sep ops (L.setIfInBounds k true) I) a w:=by
 have X:=FI R H E ho T C h;have O:=(X5.1 ho).1;have N:k<L.size:=by rw[h.size];exact O
 have G:=fE ho;have c:∀i,on (L.setIfInBounds k true) i=true->i≠k->on L i=true:=λi g B=>by
  rw[dX N]at g;rcases Z2 _ _ ▸ g with g|g
  .exact g
  .exact absurd (by simpa using g:k=i).symm B
 have d:∀i di r,i≠k->aU ops i=some di->o.dst=some r->r≠di:=λi di r B g hk e=>by
  subst e;exact B ((R.of ho).2 r hk |>.2 i g)
 cases z:rU ops k with
 | false =>
  refine wpOp_mono (λI w' hh=>⟨hh.1,λi j di dj g J f p u b n=>?_⟩) (MR ho X);have s:i≠k:=by rintro rfl;rw[z]at p;cases p
  have t:j≠k:=by rintro rfl;rw[z]at u;cases u
  have l:=U i j di dj (c i g s) (c j J t) f p u b n;obtain⟨v,hv⟩:=hh.2;rw[hv];cases hd:o.dst with
  | none=>exact l
  | some r=>rw[kK (d i di r s b hd),kK (d j dj r t n hd)];exact l
 | true =>
  obtain⟨hg,-,D,-⟩:=W k o H ho z;obtain⟨w1,Z⟩:=D a w;obtain⟨V,K,S⟩:=h.all;have y:∀i di,i≠k->on L i=true->rU ops i=true->aU ops i=some di->a.tmps[di]?≠some (jZ w.heap.size):=λi di s g p b e=>by
   have M:i<ops.size:=by rw[<-h.size];exact AD g
   obtain⟨-,A,-,hb⟩:=W i _ (E i g) (X8 M) p;obtain⟨q,Y,h0⟩:=hb (V i) w (S i g λx hx=>by rw[A]at hx;cases hx);rw[K i di g b,Y]at e;injection e with e
   injection e with e
   injection e with e
   injection e with e
   omega
  refine wpOp_mono (λI w' hh=>⟨hh.1,λi j di dj g J f p u b n=>?_⟩) (I9 ho hg Z X);rw[hh.2];have A:∀r,o.dst=some r->(a.put o.dst (jZ w.heap.size)).tmps[r]? = some (jZ w.heap.size):=λr hd=>by
   rw[hd];unfold Ym;dsimp only;rw[Zx,yEX rfl,yEX (by rw[h.sz];exact((R.of ho).2 r hd).1)]
  by_cases s:i=k
  .subst s;have hd:o.dst=some di:=by rw[<-G];exact b
   rw[A di hd,hd,kK (d j dj di (yBh f) n hd)];exact(y j dj (yBh f) (c j J (yBh f)) u n).symm
  .by_cases t:j=k
   .subst t;have hd:o.dst=some dj:=by rw[<-G];exact n
    rw[A dj hd,hd,kK (d i di dj f b hd)];exact y i di f (c i g f) p b
   .have l:=U i j di dj (c i g s) (c j J t) f p u b n;cases hd:o.dst with
    | none=>exact l
    | some r=>rw[kK (d i di r s b hd),kK (d j dj r t n hd)];exact l
structure Al1(P:YJ)(G:Gw)(ops:Array Yp)(i:Nat):Prop where
 o:∃o,ops[i]? = some o/\o.guard=none/\(∀(a:Act) w,∃w1,(Yh a.eval o).run P w=.ok (.value (jZ w.heap.size)) w1)
 r:∀v w,G.R i v w->∃k,v=jZ k/\k<w.heap.size
def AlL(P:YJ)(G:Gw)(k:Array Yp):List Nat->Prop
 | []=>True
 | i :: r=>Al1 P G k i/\AlL P G k r
def AlL.of{G:Gw}{i:Nat}:∀ {l:List Nat},AlL P G ops l->l.contains i=true->Al1 P G ops i
 | [],_,h=>by cases h
 | x :: r,hl,h=>by
  rw[List.contains_cons,Z2]at h;rcases h with h|h
  .rw[show i=x by simpa using h];exact hl.1
  .exact hl.2.of h
def Fj{l:List Nat}{G:Gw}{n:Nat}(h:AlL P G ops l)(e:(YA n).all (λi=>!rU ops i || l.contains i)=true:=by kernel_rfl):Als P G.flow ops n:=λi o g ho c=>by
 have k:=List.all_eq_true.1 e i (List.mem_range.2 g);rw[c,Bool.not_true,Bool.false_or]at k;obtain⟨⟨j,m,d,f⟩,b⟩:=h.of k;obtain rfl:o=j:=XX.inj (ho.symm.trans m);exact⟨d,rfl,f,b⟩
def al1{G:Gw}{i:Nat}(cs:List XB)(T:Yd)(e:∀v w,G.R i v w->∃k,v=jZ k/\k<w.heap.size)(ho:(ops[i]?.map (·.guard))=some none:=by kernel_rfl)(c:∀o,ops[i]? = some o->∀W,(cJ [] o,(Yh (evo (evl [])) o).run P W)=(true,.ok (.value (jZ W.heap.size)) (W.alloc (.cells cs.toArray T))):=by(intro _ h _;cases h;kernel_rfl)):Al1 P G ops i:=by
 refine⟨?_,e⟩;cases h:ops[i]? with
 | none=>rw[h]at ho;cases ho
 | some o =>
  rw[h]at ho;refine⟨o,rfl,XX.inj ho,λa w=>?_⟩;have b:=c o h w;simp only[Ze.injEq]at b;exact⟨_,by rw[jE (a:=a) (evl []) [] b.1 (λt d=>by cases d)];exact b.2⟩
def Gw.tail3{id:Nat}(G:Gw)(n:Nat)(B:Als P G.flow ops n)(s:(decide (n<ops.size) && mX ops n)=true)(A:P.follows .mixedOrders=true)(t:BO ops a0.tmps.size=true)(h:iY P Q G.flow ops a0 0 (ops.toList.take n))(y:G.B w.drew)
 (E:∀(V:Nat->XB) (w':XA),(∀i,i<n->G.R i (V i) w')->G.B w'->(∀i j,i<n->j<n->i≠j->rU ops i=true->rU ops j=true->(aU ops i).isSome=true->(aU ops j).isSome=true->V i≠V j)->wpList P ops Q (ops.toList.drop n) (bW V (ops.toList.take n) 0 a0) w'):(Code.region id ops true).wp P Q a0 w:=by
 rw[Bool.and_eq_true,decide_eq_true_eq]at s;refine yU G.flow (Sep ops) s.1 s.2 A (Gw.reg t h) (λ_=>y) (λL h i j di dj d=>by rw[h]at d;cases d) (λk o L a w p q r z D v C=>stepS (Gw.reg t h) B p q r z D v C) λV w' p q r=>E V w' (λi d=>p i d rfl) (q 0 rfl) λi j d u l m g b c e=>?_
 obtain⟨L,a,x,f⟩:=r;obtain⟨di,b⟩:=YQ.1 b;obtain⟨dj,c⟩:=YQ.1 c;refine x i j di dj (f i d).1 (f j u).1 l m g b c ?_;rw[(f i d).2 di b,(f j u).2 dj c,e]
end RG
def SLq.from{B:Nat}{W W':XA}{x:XB}{n:Nat}{a:Nat->Nat}(h:B<=W.heap.size)(b:SLq (W.heap.size<=·) W' x n a):SLq (B<=·) W' x n a:=b.mono λg k=>XH h k
def pZ(B n:Nat)(a:Nat->Nat):S1:=⟨λv w=>SLq (B<=·) w v n a/\∃g c,v=sZ g n c,λ_ _ _ k h=>⟨h.1.keep (Kq.of_below k),h.2⟩⟩
def xK{Q:Nat->Prop}{W:XA}{g k n c:Nat}{a:Nat->Nat}{u:XB}{r:List XB}(h:SLq Q W (sZ g n c) n a)(j:0<n)(R:Row W k (u :: r))(f:u≠uZ ((a 0%18446744073709551616:Nat):Int)):g≠k:=by
 rintro rfl;obtain⟨m,l,o,e,-,-,-,i⟩:=h;injection e with e
 injection e with e
 injection e with e1 e2
 subst e1 e2;have b:=i 0 j 0 _ rfl;have d:=R.2.1 0 u rfl;rw[d]at b;exact f (XX.inj b)
def qK{B g k n c:Nat}{W:XA}{a:Nat->Nat}{vs:List XB}(h:SLq (B<=·) W (sZ g n c) n a)(b:g≠k):SLq (B<=·) (W.setCells k 0 vs) (sZ g n c) n a:=by
 obtain⟨q,d,m,e,i,l,o,f⟩:=h;have e':=e;injection e with e
 injection e with e
 injection e with e1 e2
 subst e1;exact⟨g,d,m,e',i,l,by rw[setCells_size];exact o,λj p=>Yn (f j p) k 0 vs (Ye b)⟩
section
variable {P:YJ}{ops:Array Yp}{rest:List Yp}{op:Yp}{a:Act}{w w':XA}{Q:Exit->Act->XA->Prop}{T:Yd}{y:yAe}{g o:Nat}{u:XB}
def Np(t:Zw)(f:Hid (w.setCells g o [u]=w'))(th:w.there g o 1)(i:(P.info? T).map (·.size)=some 1)(hv:u.cells=#[u])(d:u.oneCell'=true)(h:wpList P ops Q rest (a.put op.dst Zs) w')(k:op.guard=none:=by rfl)(ho:op.op=.store T (.tmp t) y:=by rfl)(hx:a.eval (.tmp t)=oZ g o:=by rfl)(j:a.eval y=u:=by rfl):wpList P ops Q (op :: rest) a w:=
 ZL k λK c=>by
  have b:=run_storeVar_mid (P:=P) w g o T #[u] th i (by simp[d]);have e:storeVar T ⟨g,o,none⟩ u=storeVar T ⟨g,o,none⟩ (.agg #[u]):=by
   unfold storeVar;rw[hv];rfl
  rw[show(#[u]:Array XB).toList=[u] from rfl,f.out]at b;unfold Y3 Yh;simp only[ho,hx,j,Instr.storeAt,Instr.sureAddr,X1,Zr,Yz,e,b];exact c _ _ h
def inR{I:Sem XB}{v:XB}(t:Zw)(d:I.run P w=.ok v w')(h:wpList P ops Q rest (a.put op.dst v) w')(hd:op.dst=some t:=by rfl)(k:op.guard=none:=by rfl)(b:Yh a.eval op=I >>= λv=>pure (ZS v):=by kernel_rfl):wpList P ops Q (op :: rest) a w:=
 ZL k λK c=>by
  unfold Y3;rw[b,X1,d];exact c _ _ h
end
def Vj{n:Nat}{w:XA}:(Yw 143 1 #[(0,nv n)]).run prog w=.ok (sZ w.heap.size 1 1) (w.alloc (.cells (wn n).toArray 44)):=kR
def iSl:gZ 143 1:=gQ
def xZ{B:Nat}{cs:List XB}(v:XB)(W:XA)(h:(RG.pN B cs).p v W):∃k,v=jZ k/\k<W.heap.size:=by
 obtain⟨k,b,-,c⟩:=h;exact⟨k,b,c.1⟩
def TV(O:Ord N)(Z:2<N)(y z:Nat)(hy:y<N)(hz:z<N)(n:Nat)(hn:n<=512)(w:XA)(hj:∀x g W,Row W g (wn x)->cZ 137 #[sZ g 1 1,iZ n] W (rZ W λe W'=>SLq (W.heap.size<=·) W' e n (λ_=>x))):
 cZ 80 #[nv y,nv z,iZ n] w (rZ w λe w'=>∃l r,e=.tuple #[l,r]/\SLq (w.heap.size<=·) w' l n (λ_=>sMi N 0 z)/\SLq (w.heap.size<=·) w' r n (λi=>sPl N (sTi N z (pwN N y i)) (sTi N (sTi N z z) (pwN N 2 i)))):=by
 obtain⟨vy,Y⟩:=hE (nv y);obtain⟨vz,E⟩:=hE (nv z);obtain⟨k3,h6⟩:=hE (w.heap.size);obtain⟨U,hg⟩:=hE (lZ w (wn y) 44);obtain⟨k4,ha⟩:=hE (U.heap.size);obtain⟨o,h8⟩:=hE (lZ U (wn z) 44);have ht:Hid ((Ys 44 vy).run prog w=.ok (jZ k3) U):=by rw[<-Y.out,<-hg.out,<-h6.out];exact boxS y (w:=w)
 have hr:Hid ((Ys 44 vz).run prog U=.ok (jZ k4) o):=by rw[<-E.out,<-h8.out,<-ha.out];exact boxS z (w:=U)
 have F1:=aK h6 hg;have F2:=aK ha h8;have R3:=F1.2.below F2.1;have b2:=F1.1.trans (F2.1.mono F1.1.size);rw[Y.out,E.out];have K:=mk3 b2 R3 F2.2;go_enter func80,ntmps80;go_wp2_with (first|(refine aG (u:=vy) (v:=jZ k3) (w':=U) rfl _ (.tmp 0) rfl ?_ ?_ ?_;rfl;exact ht.out)|(refine aG (u:=vz) (v:=jZ k4) (w':=o) rfl _ (.tmp 1) rfl ?_ ?_ ?_;rfl;exact hr.out)|fail)
 obtain⟨b,hb⟩:=hE (o.heap.size);have a:∀ {W},kZ o W->b<=W.heap.size:=λh=>hb.out ▸ h.size
 refine(gwL [pE (nv y),pE (iZ n),pZ b n (pwN N y),pE (nv 2),pE (iZ n),pZ b n (pwN N 2),pE (nv z),pE (nv z),pE (nv (sTi N z z)),RG.pN b [nZ],RG.pN b [nZ],RG.pN b (RG.z 4)] (λW=>kZ o W) (λW W' hb h=>h.trans (hb.mono h.size))).tail3 12 (Fj (l:=[9,10,11]) ⟨al1 [nZ] 143 xZ,al1 [nZ] 143 xZ,al1 (RG.z 4) 44 xZ,yEZ⟩) kR kR kR ⟨
  gLo 3 (λW c=>(K.2.1.below c).2.1) u40 i40,
  gO 2 (iZ n),
  dY 0 11 1 12 83 (λx y=>#[x,y]) (λx u W G F c=>by
   obtain rfl:x=nv y:=G;obtain rfl:u=iZ n:=F;exact(FW O y hy n hn W).mono λe W' ⟨v,k,Z,d,f⟩=>⟨v,k,Z,d.from (a c),f⟩),
  P6 15 #[uZ 2] (λW _=>rQ 2 oM W),
  gO 2 (iZ n),
  dY 3 14 4 15 83 (λx y=>#[x,y]) (λx u W G F c=>by
   obtain rfl:x=nv 2:=G;obtain rfl:u=iZ n:=F;exact(FW O 2 Z n hn W).mono λe W' ⟨v,k,Z,d,f⟩=>⟨v,k,Z,d.from (a c),f⟩),
  gLo 4 (λW c=>(K.2.2.below c).2.1) u40 i40,
  gLo 4 (λW c=>(K.2.2.below c).2.1) u40 i40,
  gC2 6 17 7 18 (λW=>gJ O z z hz hz W),
  tQ [nZ] 143 (λW W' h c=>⟨_,rfl,a c,h⟩),
  tQ [nZ] 143 (λW W' h c=>⟨_,rfl,a c,h⟩),
  tQ (RG.z 4) 44 (λW W' h c=>⟨_,rfl,a c,h⟩),yEZ⟩ ⟨rfl,rfl,rfl,XD _,λ_ _=>rfl⟩ ?_
 intro V w3 hR c hD;obtain⟨S1,g1,c1,F⟩:=hR 2 dC;obtain⟨S2,g2,c2,e5⟩:=hR 5 dC;rw[F]at S1;rw[e5]at S2;have e8:=hR 8 dC;obtain⟨B,e9,l8,R8⟩:=hR 9 dC;obtain⟨C,R,l9,R9⟩:=hR 10 dC;obtain⟨k,L,k7,P⟩:=hR 11 dC;have d1:=hD 9 10 dC dC dC kR kR kR kR;have d2:=hD 9 11 dC dC dC kR kR kR kR;have d3:=hD 10 11 dC dC dC kR kR kR kR;dsimp only[bW,YT,yAb,yAd];simp only[Ym,XF,XJ,XL];rw[F,e5,e8,e9,R,L];rw[e9,R]at d1;rw[e9,L]at d2;rw[R,L]at d3;have n1:B≠C:=λe=>d1 (by rw[e])
 have n2:B≠k:=λe=>d2 (by rw[e])
 have n3:C≠k:=λe=>d3 (by rw[e])
 obtain⟨q,hq⟩:=hE (sTi N z z);obtain⟨kb,H⟩:=hE (nv q);rw[hq.out,H.out];obtain⟨I,t⟩:=hE (sZ g1 n c1);obtain⟨Q,A⟩:=hE (sZ g2 n c2);have x1:0<n->(g1≠B/\g1≠C/\g1≠k)/\g2≠B/\g2≠C/\g2≠k:=λs=>⟨⟨xK S1 s R8 (by simp),xK S1 s R9 (by simp),xK S1 s P (by simp[pwN])⟩,xK S2 s R8 (by simp),xK S2 s R9 (by simp),xK S2 s P (by simp[pwN])⟩
 obtain⟨T,f⟩:=hE (w3.setCells B 0 [I]);obtain⟨S,j⟩:=hE (T.setCells C 0 [Q]);obtain⟨M,he⟩:=hE (S.setCells k 0 (wn q));have k6:=hb.out;have q8:Row T B [I]:=by rw[<-f.out];exact R8.put rfl
 have q9:Row T C [nZ]:=by rw[<-f.out];exact R9.other (yBh n1)
 have hu:Row T k (RG.z 4):=by rw[<-f.out];exact P.other (yBh n2)
 have u8:Row S B [I]:=by rw[<-j.out];exact q8.other n1
 have u9:Row S C [Q]:=by rw[<-j.out];exact q9.put rfl
 have u10:Row S k (RG.z 4):=by rw[<-j.out];exact hu.other (yBh n3)
 have HT:=mk3 R8.2.2 q9.2.2 u10.2.2;have HV:Hid ((I.cells=#[I]/\I.oneCell'=true)/\Q.cells=#[Q]/\Q.oneCell'=true):=by rw[<-t.out,<-A.out];exact⟨⟨rfl,rfl⟩,rfl,rfl⟩
 have D:Hid (kZ o M/\Row M B [I]/\Row M C [Q]/\Row M k (wn q)/\(0<n->SLq (b<=·) M I n (pwN N y)/\SLq (b<=·) M Q n (pwN N 2))):=by
  have d:kZ o T:=by rw[<-f.out];exact RG.below_setCells oM _ _ _ c
  have J:kZ o S:=by rw[<-j.out];exact RG.below_setCells oM _ _ _ d
  rw[<-he.out];refine⟨RG.below_setCells oM _ _ _ J,u8.other n2,u9.other n3,u10.put rfl,λs=>?_⟩;rw[<-j.out,<-f.out];obtain⟨⟨a1,a2,p⟩,a4,X,a6⟩:=x1 s;rw[<-t.out,<-A.out];exact⟨qK (qK (qK S1 a1) a2) p,qK (qK (qK S2 a4) X) a6⟩
 rw[t.out,A.out];refine Np (w:=w3) 8 f HT.1 iSl HV.1.1 HV.1.2 ?_;refine Np (w:=T) 9 j HT.2.1 iSl HV.2.1 HV.2.2 ?_;refine stR (w:=S) 10 he H HT.2.2 i40 (aI (n:=q)) ?_;go_wp2_with (first|(refine ldR 4 (K.2.2.below D.1).2.1 E u40 i40 ?_)|fail)
 have HO:=mk1 (Em O hz M);rw[E.out]at HO;refine HO.mono ?_;rintro e w7 ⟨uu,rfl,hc,rfl⟩;obtain⟨m,hm⟩:=hE (sMi N 0 z);rw[hm.out];obtain⟨vo,X⟩:=hE (nv m);obtain⟨h9,J⟩:=hE (w7.heap.size);obtain⟨w8,h5⟩:=hE (lZ w7 (wn m) 44);have k5:Hid ((Yw 143 1 #[(0,vo)]).run prog w7=.ok (sZ h9 1 1) w8):=by rw[<-X.out,<-h5.out,<-J.out];exact Vj (n:=m) (w:=w7)
 have F8:=aK J h5;have b68:=mk1 (hc.trans (F8.1.mono hc.size));rw[X.out];have HR:=mk1 (hj m h9 w8 F8.2);go_wp2_with (first|(refine inR 22 (I:=(Yw 143 1 #[(0,vo)])) k5.out ?_)|fail)
 refine HR.mono ?_;rintro e w9 ⟨lv,rfl,hl,hs⟩;have d:=b68.trans (hl.mono b68.size);have b9:=mk1 (K.1.trans ((D.1.trans (d.mono D.1.size)).mono K.1.size));have KZ:=mk6 ((K.2.2.below D.1).below d) (D.2.1.below d) (D.2.2.2.1.below d) (D.2.2.1.below d) (λ(s:0<n)=>YV ((D.2.2.2.2 s).1.keep (Kq.of_below d)) ((D.2.2.2.2 s).2.keep (Kq.of_below d))) b9;have lq:q<N:=by rw[<-hq.out];exact Y8 _ O.pos
 have HL:=mk1 (jJ n hn 138 (cap:=#[jZ k4,jZ B,jZ k,jZ C]) (λ_ _=>kR) (λi=>sPl N (sTi N z (pwN N y i)) (sTi N q (pwN N 2 i))) w9 λi W hi p=>by
  obtain⟨T1,T2⟩:=KZ.2.2.2.2.1 oM;rw[<-t.out]at T1;rw[<-A.out]at T2;have Ra:=(KZ.1.below p)
  have Rb:=(KZ.2.1.below p)
  have Rc:=(KZ.2.2.1.below p)
  have Rd:=(KZ.2.2.2.1.below p)
  rw[<-t.out]at Rb;rw[<-A.out]at Rd;obtain⟨k1,hp,k2,G,-,-,t1,f1⟩:=T1.keep (Kq.of_below p);obtain⟨k0,hw,hk,F,-,-,t2,f2⟩:=T2.keep (Kq.of_below p);rw[G]at Rb;rw[F]at Rd;exact QU O z q (pwN N y i) (pwN N 2 i) hz lq (xW O (x:=y) i) (xW O (x:=2) i) i k4 B k C k1 hp n k2 k0 hw n hk hi hi W t1 t2 Ra Rb Rc Rd (f1 i hi) (f2 i hi))
 have hS:=mk1 (SLq.from (XH K.1.size (XH D.1.size b68.size)) hs);go_wp2_with fail
 refine HL.mono ?_;rintro e ka ⟨rv,rfl,G,h7⟩;have KE:=mk3 (b9.trans (G.mono b9.size)) (hS.keep (Kq.of_below G)) (SLq.from b9.size h7);go_wp2
 go_ret2
 rw[<-hm.out,<-hq.out]at KE;exact⟨_,rfl,KE.1,_,_,rfl,KE.2.1,KE.2.2⟩
def D4{w:XA}{u sT A k:Yd}{b o c f d g s n:Nat}{a:Y0}{cs:List XB}{P:YJ}(z:P.underlying u=some (.slice k))(r:(P.info? k).map (·.size)=some s)(C:n=yAw d c)(x:cs.length=n*s)(e:∀j v,cs[j]? = some v->w.cell? (a.add j)=some v)(t:w.there b o cs.length)(B:∀v∈cs,v.oneCell'=true):
 (yAD #[u,sT] A #[qZ b o c f,.slice (some a) d g]).run P w=.ok (goInt n) (w.setCells b o cs):=by
 have l:=run_loadCells_list (P:=P) w a cs e;have p:=run_storeCells_cells (P:=P) b o cs 0 w (λj q=>by rw[yAl];exact(t j q).1) (λj q=>by rw[yAl];exact(t j q).2) B;rw[x]at l;cases m:P.info? k with
 | none=>simp[m]at r
 | some i =>
  have y:i.size=s:=by simpa[m]using r
  simp[yAD,run_underlying z,Builtin.lenOf,Builtin.firstCells,sizeOf,typeInfo,m,y,<-C,l,p]
def cw(x i:Nat):XB:=(wn x).getD (i%4) Zs
def SO{x i:Nat}:(cw x i).oneCell'=true:=by
 unfold cw;have:i%4=0\/i%4=1\/i%4=2\/i%4=3:=oM;rcases this with h|h|h|h<;>rw[h]<;>rfl
structure Rs(g m n x:Nat)(w:XA):Prop where
 lt:g<w.heap.size
 th:w.there g 0 (4*m)
 c:∀i,i<4*n->w.cell? ⟨g,i,none⟩=some (cw x i)
def Rs.copy{g m n k r sl sc dc x:Nat}{w:XA}(h:Rs g m n x w)(t:k=yAw sl (m-n))(z:n<=m)(f:∀i,i<4*k->w.cell? ⟨r,i,none⟩=some (cw x i)):
 ∃w',(∀l,(yAD #[143,143] l #[qZ g (n*4) (m-n) dc,sZ r sl sc]).run prog w=.ok (goInt k) w')/\Rs g m (n+k) x w'/\(∀B,B<=g->Below B w w'):=by
 have u:n+k<=m:=by have:yAw sl (m-n)<=m-n:=yCF _ _;omega
 obtain⟨cs,d⟩:∃cs,cs=(YA (4*k)).map (cw x):=⟨_,rfl⟩
 have q:cs.length=4*k:=by rw[d,XZ,ZZ]
 have c:∀j,j<4*k->cs[j]? = some (cw x j):=λj b=>by rw[d,YB,List.getElem?_range b];rfl
 have o:w.there g (n*4) cs.length:=λj b=>by
  have:=h.th (n*4+j) oM;rwa[XI]at this
 refine⟨w.setCells g (n*4) cs,λl=>D4 uS4 i40 t oM (λj v b=>?_) o (λv hv=>?_),⟨by rw[setCells_size];exact h.lt,Zg h.th _ _ _,λi y=>?_⟩,λB s=>RG.below_setCells s _ _ _ (XR _ _)⟩
 .have e:j<4*k:=oN ((XM.1 b).1);rw[c j e]at b;rw[Addr.add_mid,XI,f j e];exact b
 .rw[d]at hv;obtain⟨i,-,rfl⟩:=YC.1 hv;exact SO
 .by_cases e:i<4*n
  .rw[World.cell?_setCells_out g cs (n*4) w ⟨g,i,none⟩ (λ_ _=>Ye (by show i<n*4;omega))];exact h.c i e
  .have b:i-n*4<cs.length:=oM;have p:=World.cell?_setCells_in g cs (n*4) w (λj b=>(o j b).1) (i-n*4) b;rw[show n*4+(i-n*4)=i by omega]at p;rw[p,<-XO b,c _ oM];unfold cw;rw[show(i-n*4)%4=i%4 by omega]
def RU(m:Nat)(d:m<=1000)(w:XA):cZ 208 #[uZ 1,uZ m] w λe w'=>e=.returned (.tuple #[uZ 0,uZ m])/\w'=w:=by
 have c:bits .and .u64 1 4294967295=1:=rfl;have a2:bits .and .u64 (m:Int) 4294967295=(m:Int):=by
  have h:=bits_and_u64_nat m 4294967295 oM oM;rw[show(4294967295:Nat)=2^32-1 from rfl,Nat.and_two_pow_sub_one_eq_mod,X6 oM]at h;exact h
 have a0:bits .and .u64 0 4294967295=0:=rfl;have b:(m:Int)/4294967296=0:=oM;have k:Yt.wrap (m:Int)=(m:Int):=by rw[ZO];omega
 go_enter func208,ntmps208;go_wp2
 go_ret2
 exact⟨rfl,rfl⟩
def RS(m:Nat)(k:m<=1000)(w:XA):cZ 188 #[uZ 1,uZ m] w λe w'=>e=.returned (.tuple #[uZ 0,uZ m])/\w'=w:=by
 have h:=RU m k w;go_enter func188,ntmps188;go_wp2_with fail
 refine h.mono ?_;rintro e w' ⟨rfl,rfl⟩;go_wp2
 go_ret2
 exact⟨rfl,rfl⟩
def Cj{t b:Yd}{v u c:XB}{P:YJ}{k:Array Yp}{o:Yp}{a:Act}{w' w:XA}{K:Act->XA->Prop}{Q:Exit->Act->XA->Prop}{E:Prop}(g:o.guard=none)(d s:yAe)(ho:o.op=.call { callee:=.builtin .copy,args:=#[d,s],argTypes:=#[t,b] })(hd:a.eval d=v)(e:a.eval s=u)(f:(yAD #[t,b] o.type #[v,u]).run P w=.ok c w')(h:K (a.put o.dst c) w'):if Zc o (yielded k a.tmps)=true then Y3 P o a w K Q else E:=by
 have c:Zc o (yielded k a.tmps)=true:=by simp[Zc,g]
 rw[yEX c];exact Lib.wp_copy_run w d s t b ho v u hd e f h
def JR(x r m:Nat)(P:m<=512)(w:XA)(hR:Row w r (wn x)):
 YN prog 137 #[.slice (some ⟨r,0,none⟩) 1 1,.int .i64 m] w (Ret λe w'=>Below w.heap.size w w'/\SLq (w.heap.size<=·) w' e m (λ_=>x)):=by
 have R:=RS m oM w;have X:Yt.wrap (m:Int)=(m:Int):=by rw[ZO];omega
 obtain⟨C0,A,y⟩:=CM uS4 iS4 m P;obtain⟨g,B⟩:=hE (w.heap.size);obtain⟨M,p⟩:=hE (w.alloc (.cells C0.toArray 44));have F:=aK B p;have z:Rs g m 0 x M:=⟨F.2.1,by have:=F.2.2.2;rwa[A]at this,λi G=>absurd G (ZP _)⟩
 have f:=hR.below F.1;have u:∀i,i<4->M.cell? ⟨r,i,none⟩=some (cw x i):=λi G=>by
  have L:i=0\/i=1\/i=2\/i=3:=oM;rcases L with rfl|rfl|rfl|rfl
  .exact f.2.1 0 _ rfl
  .exact f.2.1 1 _ rfl
  .exact f.2.1 2 _ rfl
  .exact f.2.1 3 _ rfl
 obtain⟨C,c,d,l⟩:=z.copy (k:=yAw 1 m) (r:=r) (sl:=1) (sc:=1) (dc:=m) (by rw[yBz]) (Zl _) (λi G=>u i (by have:yAw 1 m<=1:=yCM _ _;omega));rw[yBz,yDu]at c;rw[XI]at d;have Q:Hid (Below w.heap.size w C/\Rs g m (yAw 1 m) x C):=⟨F.1.trans (l _ (yBr B)),d⟩
 have J:yAw 1 m<=m:=yCF _ _;have K:0<m->0<yAw 1 m:=λh=>by show 0<min 1 m;omega
 have b:=c 3;have E:=y w;rw[p.out,B.out]at E;generalize yAw 1 m=V at *;unfold goInt at b;clear z f hR u l d c F y A p;go_enter func137,ntmps137;go_wp2_with fail
 refine R.mono ?_;rintro e w' ⟨rfl,rfl⟩;go_wp2_with (at_builtin;refine Lib.wpList_copy_run _ rfl _ _ 143 143 rfl _ _ rfl rfl b ?_)
 go_loopg [8] m (λgk s8 wr=>∃n:Nat,n<=m/\(0<m->0<n)/\m<=n+gk/\s8=.int .i64 n/\Hid (Below w'.heap.size w' wr/\Rs g m n x wr))
 case atStart=>exact⟨V,J,K,oM,rfl,Q⟩
 case round =>
  obtain⟨n,s,T,U,rfl,o⟩:=hrel;by_cases I:n<m
  .have D:=oM;have W:0<yAw n (m-n):=by show 0<min n (m-n);omega
   have H:n+yAw n (m-n)<=m:=by show n+min n (m-n)<=m;omega
   have O:yAw n (m-n)<=n:=yCM _ _;have q:Rs g m n x wr.drew:=⟨o.2.lt,o.2.th,o.2.c⟩
   obtain⟨C,c,d,l⟩:=q.copy (k:=yAw n (m-n)) (r:=g) (sl:=n) (sc:=m) (dc:=m-n) rfl s (λi G=>q.c i oM);have b:=c 3;have N:=DY g 0 m m n s;have a:=DX g 0 n I (XD _);rw[XI]at a;have S:Hid (Below w'.heap.size w' C/\Rs g m (n+yAw n (m-n)) x C):=⟨o.1.drew.trans (l _ (yBr B)),d⟩
   generalize yAw n (m-n)=k at *;unfold goInt at b;clear c d l q o;go_wp2_with fail
   go_region_law (refine Cj rfl (.tmp 41) (.tmp 44) rfl (by simp[Act.eval,Ym]) (by simp[Act.eval,Ym]) b ?_)
   go_wp2;go_roundg (gk-1)
   case measure=>omega
   case rel=>exact⟨n+k,H,λ_=>oM,oM,congrArg (YW Ya) (show Ya.wrap ((n:Int)+(k:Int))=((n+k:Nat):Int) by rw[YD];omega),S⟩
  .have D:=oM;obtain rfl:n=m:=oM;have a:Hid (Below w'.heap.size w' wr/\SLq (w'.heap.size<=·) wr (.slice (some ⟨g,0,none⟩) n n) n (λ_=>x)):=⟨o.1,g,0,n,rfl,XD _,yBr B,o.2.lt,λj H t v q=>by
    have L:t<4:=(XM.1 q).1;rw[XI,o.2.c (4*j+t) oM];unfold cw;rw[show(4*j+t)%4=t by omega,List.getD_eq_getElem?_getD,q];rfl⟩
   go_wp2;go_ret;exact⟨_,rfl,a⟩
def FN{y z:Nat}(O:Ord N)(c:2<N)(d:y<N)(b:z<N)(n:Nat)(k:n<=512)(w:XA):
 cZ 80 #[nv y,nv z,iZ n] w (rZ w λe w'=>∃l r,e=.tuple #[l,r]/\SLq (w.heap.size<=·) w' l n (λ_=>sMi N 0 z)/\SLq (w.heap.size<=·) w' r n (λi=>sPl N (sTi N z (pwN N y i)) (sTi N (sTi N z z) (pwN N 2 i)))):=
 TV O c y z d b n k w λx g W hR=>JR x g n k W hR
def qH(N y:Nat)(H:Nat->LB)(i:Nat):LB:=(H i).map (tmT N (pwN N (sIn N y) i))
def Jh(O:Ord N){Q:Nat->Prop}(n:Nat)(k2:0<n)(hn:n<=64)(G H:Nat->LB)(U:LB)(hH:∀i,i<n->TOk N (H i)/\(H i).length<=512)(hU:TOk N U)(k0:U.length<=512)(y z:Nat)(hy:y<N)(hz:z<N)(v:XB)(w:XA)(hQ:∀g,w.heap.size<=g->Q g)(h0:GRq Q w v n G H U):
 cZ 91 #[v,nv y,nv z] w (rZ w λe w'=>GRq Q w' e n G (qH N y H) (U.map (tmT N z))):=by
 obtain⟨vg,vh,vu,rfl,h3,h4,h5⟩:=h0.ex;obtain⟨C,K,J,eg⟩:∃g o c,vg=qZ g o n c:=by obtain⟨g,o,c,h,-⟩:=h3;exact⟨g,o,c,h⟩
 subst eg;obtain⟨R,T,ch,rfl,kd,ke,hw,k9⟩:=h4;obtain⟨D,t⟩:=hE (sIn N y);have k1:D<N:=t.out▸Y8 _ O.pos;have HI:=mk1 (λW=>wE O y hy W);rw[t.out]at HI;obtain⟨vy,h8⟩:=hE (nv y);obtain⟨vz,A⟩:=hE (nv z);obtain⟨k,hk⟩:=hE (w.heap.size);obtain⟨w1,hs⟩:=hE (w.alloc (.cells [qZ C K n J,qZ R T n ch,vu].toArray 150));obtain⟨k4,hp⟩:=hE (w1.heap.size);obtain⟨w2,hm⟩:=hE (lZ w1 (wn y) 44);obtain⟨k5,he⟩:=hE (w2.heap.size);obtain⟨w3,h9⟩:=hE (lZ w2 (wn z) 44);obtain⟨k6,X⟩:=hE (w3.heap.size);obtain⟨r,h6⟩:=hE (w3.alloc (.cells [nZ,nZ,nZ].toArray 150));have f:=O2 hk hs hp hm he h9;have g6:=aK X h6;have F:=mk5 (f.1.trans (g6.1.mono f.1.size)) (f.2.1.below g6.1) (f.2.2.1.below g6.1) (f.2.2.2.below g6.1) g6.2;have M:w.heap.size<=k6:=X.out▸f.1.size;obtain⟨v0,h7⟩:=hE (X9 #[qZ C K n J,qZ R T n ch,vu]);have B0:Hid ((Ys 150 v0).run prog w=.ok (jZ k) w1):=h7.out▸hs.out▸hk.out▸Dh;have B1:Hid ((Ys 44 vy).run prog w1=.ok (jZ k4) w2):=h8.out▸hm.out▸hp.out▸boxS y;have B2:Hid ((Ys 44 vz).run prog w2=.ok (jZ k5) w3):=A.out▸h9.out▸he.out▸boxS z;rw[h8.out,A.out,h7.out];have HT:=mk2 hH (λ(W:XA) (d:kZ w W)=>eD O hz 0 vu U k0 hU.szm hU.lt W (h5.sm.grow d));rw[A.out]at HT;have S:=mk2 k9 hw;have HK:=mk3 h3 hQ t;go_enter func91,ntmps91;go_wp2_with (first|(refine aG (u:=v0) (v:=jZ k) (w':=w1) rfl _ (.tmp 0) rfl ?_ ?_ ?_;rfl;exact B0)|(refine aG (u:=vy) (v:=jZ k4) (w':=w2) rfl _ (.tmp 1) rfl ?_ ?_ ?_;rfl;exact B1)|(refine aG (u:=vz) (v:=jZ k5) (w':=w3) rfl _ (.tmp 2) rfl ?_ ?_ ?_;rfl;exact B2)|(refine alR 6 X h6 ?_)|fail)
 obtain⟨b,d⟩:=hE (r.heap.size);have hr:∀ {W},kZ r W->b<=W.heap.size:=λh=>d.out ▸ h.size
 refine(gwL [pE (nv y),pE (nv D),pE (oZ k 1),pE (qZ R T n ch),pE (iZ n),pZ b n (pwN N D),RG.pN b [nZ]] (λW=>kZ r W) (λW W' d h=>h.trans (d.mono h.size))).tail2 7 kR kR kR ⟨
  gLo 4 (λW s=>(F.2.2.1.below s).2.1) u40 i40,
  oC 0 9 144 (λx=>#[x]) (λx W j s=>by
   obtain rfl:x=nv y:=j;exact HI W),
  gP 3 (jZ k) (oZ k 1),
  fW 2 11 k 1 (qZ R T n ch) uGL (λx W h=>h) (λW s=>(F.2.1.below s).2.1 1 _ rfl) (λ_=>rfl),
  Lh 3 12 (qZ R T n ch) (iZ n) (λx W h=>h) (λ_=>rfl),
  dY 1 10 4 13 83 (λx y=>#[x,y]) (λx u W j B s=>by
   obtain rfl:x=nv D:=j;obtain rfl:u=iZ n:=B;exact(FW O D k1 n oM W).mono λe W' ⟨v,l,E,h3,h4⟩=>⟨v,l,E,h3.from (hr s),h4⟩),
  tQ [nZ] 143 (λW W' h s=>⟨_,rfl,hr s,h⟩),yEZ⟩ ⟨rfl,rfl,rfl,XD _,λ_ _=>rfl⟩ ?_
 intro V w5 hR s;obtain⟨S1,g1,c1,e5⟩:=hR 5 dC;rw[e5]at S1;obtain⟨k7,e6,l7,R7⟩:=hR 6 dC;dsimp only[bW,YT,yAb,yAd];simp only[Ym,XF,XJ,XL];rw[e5,e6];have n7:=xK S1 k2 R7 (by simp);obtain⟨l1,L⟩:=hE (sZ g1 n c1);obtain⟨w6,hq⟩:=hE (w5.setCells k7 0 [l1]);have E:Hid (kZ r w6/\Row w6 k7 [l1]/\SLq (b<=·) w6 l1 n (pwN N D)):=by
  rw[<-hq.out,<-L.out];exact⟨RG.below_setCells (d.out▸l7) _ _ _ s,R7.put rfl,qK S1 n7⟩
 have P:=mk2 R7.2.2 (show l1.cells=#[l1]/\l1.oneCell'=true by rw[<-L.out];exact⟨rfl,rfl⟩);rw[L.out];refine Np (w:=w5) 7 hq P.1 iSl P.2.1 P.2.2 ?_;have kb:=(F.2.1.below E.1).2.1 1 _ rfl;have hc:=F.1.trans (E.1.mono F.1.size);have HL:=mk1 (AL n oM 148 #[jZ k,jZ k7] (λ_ _=>kR) (qH N y H) w6 λi W hi B=>by
  have bb:=hc.trans (B.mono hc.size);obtain⟨x,Y,ka⟩:=S.1 i hi;have T1:=E.2.2.keep (Kq.of_below B);have Rb:=E.2.1.below B;obtain⟨I,l,Z,j,-,-,t1,f1⟩:=T1;rw[j]at Rb;have hT:=QF O (H i) (HT.1 i hi).1 (HT.1 i hi).2 (pwN N D i) (xW O i) i k k7 R T n ch I l n Z _ vu x hi hi W (XC S.2 bb.size) t1 ((F.2.1.below E.1).below B) Rb (by rw[Nat.one_mul,bb.cell (p:=⟨R,T+i,none⟩) S.2];exact Y) (ka.sm.grow bb) (f1 i hi);rw[<-t.out]at hT;exact hT)
 go_wp2_with fail
 refine HL.mono ?_;rintro e w7 ⟨vn,rfl,k8,hj⟩;have k3:=E.1.trans (k8.mono E.1.size);obtain⟨gn,on,cn,en⟩:∃g o c,vn=qZ g o n c:=by obtain⟨g,o,c,h,-⟩:=hj;exact⟨g,o,c,h⟩
 subst en;have I:=mk3 k3 (hj.mono (Q':=(r.heap.size<=·)) λg Y=>XH E.1.size Y) M;go_wp2_with fail
 refine AW.begin 8 8 ?_;refine AW.va 0 (jZ k) ?_;refine AW.ce 1 uGL (λW d=>((F.2.1.below I.1).below d).2.1 0 _ rfl) ?_;refine AW.mv 2 ?_;refine AW.va 3 (oZ k 2) ?_;refine AW.ce 4 Bc (λW d=>((F.2.1.below I.1).below d).2.1 2 _ rfl) ?_;refine AW.ro 5 (λW d=>((F.2.2.2.1.below I.1).below d).2.1) A u40 i40 ?_;have j:=mk1 (F.1.trans (I.1.mono F.1.size));refine AW.ca 6 (λd=>HT.2 _ (j.trans (d.mono j.size))) (λe w' h=>h.1) ?_;rintro e w8 ⟨kc,ha⟩;obtain⟨Z,me,ce,ee⟩:∃g m c,e=sZ g m c:=by obtain⟨g,c,h,-⟩:=ha;exact⟨g,_,c,h⟩
 subst ee;refine AW.nx 7 (.agg #[qZ C K n J,qZ gn on n cn,sZ Z me ce]) ?_;refine AW.fi (us:=[qZ C K n J,qZ gn on n cn,sZ Z me ce]) (Hid.mk' rfl) kR iGr (λd=>?_);obtain⟨w9,l⟩:=hE (w8.setCells k6 0 [qZ C K n J,qZ gn on n cn,sZ Z me ce]);have KE:Hid (w8.there k6 0 3/\Row w9 k6 [qZ C K n J,qZ gn on n cn,sZ Z me ce]/\kZ w w9/\GRq Q w9 (.agg #[qZ C K n J,qZ gn on n cn,sZ Z me ce]) n G (qH N y H) (U.map (tmT N z))):=by
  have ht:=I.1.trans (d.mono I.1.size);have r6:=F.2.2.2.2.below ht;have l6:=F.2.2.2.2.1;have kq:Kq (r.heap.size<=·) w8 w9:=by rw[<-l.out];exact Kq.set λg Y=>oM
  have hu:Kq Q w w9:=by
   have hl:kZ w (w8.setCells k6 0 [qZ C K n J,qZ gn on n cn,sZ Z me ce]):=RG.below_setCells M _ _ _ (j.trans (d.mono j.size));rw[l.out]at hl;exact Kq.of_below hl
  rw[<-l.out];refine⟨r6.2.2,r6.put rfl,RG.below_setCells M _ _ _ (j.trans (d.mono j.size)),?_⟩;rw[l.out];have q:∀g,r.heap.size<=g->Q g:=λg Y=>HK.2.1 g (XH F.1.size Y)
  exact⟨_,_,_,rfl,HK.1.keep hu,((I.2.1.keep (Kq.of_below d)).keep kq).mono q,((ha.q.mono λg Y=>XH I.1.size Y).keep kq).mono q⟩
 rw[l.out];refine⟨KE.1,?_⟩;go_wp2_with fail
 refine XN (aF 6 rfl KE.2.1 rfl uGr iGr) rfl ?_;exact⟨_,rfl,KE.2.2.1,KE.2.2.2⟩
section
variable {P:YJ}{ops:Array Yp}{Q:Exit->Act->XA->Prop}{p r:Nat}{I:Iv}{fuel:Nat}{o:Yp}{listed:Array Bool}{a:Act}{w:XA}{d:Option Zw}
def AW.fc{f:ZQ}{args:Array XB}{R:XB->XA->Prop}(c:I.p w->YN P f args w (Ret R))(h:∀e w',I.p w->R e w'->Q .normal (a.put d e) w')(ho:ops[p]? = some o:=by(simp only[List.getElem?_toArray,List.getElem?_cons_succ,List.getElem?_cons_zero])<;>rfl)(hd:o.dst=d:=by rfl)(g:o.guard=none:=by rfl)(hx:(Yh a.eval o).run P w=.ok (.enter f args) w:=by kernel_rfl)(k:(Yu .any ops listed,Yu .any ops (listed.setIfInBounds p true),I.b,(listed.setIfInBounds p true).getD p false,(listed.setIfInBounds p true).getD r false)=([p],[],true,true,true):=by kernel_rfl):AW P ops Q p r I (fuel+1) listed a w:=λb=>by
 simp only[Ze.injEq]at k;exact anyS.cal ho (c b) (λe w' hR=>⟨Ye k.2.2,anyS.done k.2.1 (h e w' b hR) _⟩) k.1 g hx hd
end
def rnF{W:XA}{k o:Nat}{xs ys:List XB}(h:W.rangeAt k o (xs++ys)):W.rangeAt k o xs:=λj v b=>h j v (by rw[XY (XM.1 b).1];exact b)
def rnB{W:XA}{k o m:Nat}{xs ys:List XB}(h:W.rangeAt k o (xs++ys))(c:o+xs.length=m):W.rangeAt k m ys:=λj v b=>by
 have:=h (xs.length+j) v (by rw[XW oM,ZE];exact b);rw[<-ZB,c]at this;exact this
def rnC{W:XA}{k o m:Nat}{xs ys:List XB}(c:W.rangeAt k o xs)(e:W.rangeAt k m ys)(d:o+xs.length=m):W.rangeAt k o (xs++ys):=λj v b=>by
 by_cases h:j<xs.length
 .exact c j v (by rwa[XY h]at b)
 .rw[XW oM]at b;have:=e (j-xs.length) v b;rwa[<-d,ZB,Nat.add_sub_cancel' oM]at this
def Row.mid{W:XA}{k m:Nat}{xs ys zs us l l':List XB}(h:Row W k l)(e:l=xs++(ys++zs))(e':l'=xs++(us++zs))(b:us.length=ys.length)(g:xs.length=m):W.there k m us.length/\Row (W.setCells k m us) k l':=by
 subst e e' g;obtain⟨i,d,f⟩:=h;have c:W.there k xs.length us.length:=λj n=>by
  have:=f (xs.length+j) (by simp only[XK];omega);rwa[XI]at this
 have z:=XI xs.length;refine⟨c,by rw[setCells_size];exact i,rnC (Yn (rnF d) k _ us (X7 (Ye oM))) (rnC (World.rangeAt_setCells_same W k _ us c) (Yn (rnB (rnB d z) rfl) k _ us (X7 (X7 oM))) (by rw[b])) z,?_⟩;have:=Zg f k xs.length us;simp only[XK,b]at this⊢;exact this
structure Rp where
 a:Bs
 s:Bs
 c:Bs
 d:Bs
 u:Nat
 m:Nat
 t:Nat
namespace Rp
def l(p:Rp):List XB:=aA p.a++(aA p.s++(aA p.c++(aA p.d++(wn p.u++(wn p.m++wn p.t)))))
structure Ok(p:Rp):Prop where
 a:p.a.size=33
 s:p.s.size=33
 c:p.c.size=33
 d:p.d.size=33
variable {p:Rp}{W:XA}{k:Nat}
def len(h:p.Ok):p.l.length=144:=by
 unfold l;simp only[XK,aB h.a,aB h.s,aB h.c,aB h.d];rfl
def one(p:Rp):p.l.toArray.all (·.oneCell')=true:=by
 unfold l;have h:∀b:Bs,(aA b).all (·.oneCell')=true:=λb=>by have:=bN (a:=b);rwa[yAJ]at this
 have k:∀n,(wn n).all (·.oneCell')=true:=λn=>by have:=aI (n:=n);rwa[yAJ]at this
 rw[yAJ];simp only[List.all_append,h,k,yC9]
def at7(h:p.Ok)(f:W.rangeAt k 0 p.l):W.rangeAt k 0 (aA p.a)/\W.rangeAt k 33 (aA p.s)/\W.rangeAt k 66 (aA p.c)/\W.rangeAt k 99 (aA p.d)/\W.rangeAt k 132 (wn p.u)/\W.rangeAt k 136 (wn p.m)/\W.rangeAt k 140 (wn p.t):=by
 have e:=rnB (m:=33) f (by rw[aB h.a]);have g:=rnB (m:=66) e (by rw[aB h.s]);have d:=rnB (m:=99) g (by rw[aB h.c]);have c:=rnB (m:=132) d (by rw[aB h.d]);have b:=rnB (m:=136) c rfl;have i:=rnB (m:=140) b rfl;exact⟨rnF f,rnF e,rnF g,rnF d,rnF c,rnF b,i⟩
def Ws(h:p.Ok)(c:Row W k p.l){x:Bs}(hx:x.size=33):W.there k 0 (aA x).length/\Row (W.setCells k 0 (aA x)) k { p with a:=x }.l/\{ p with a:=x }.Ok:=by
 obtain⟨b,d⟩:=Row.mid (xs:=[]) (us:=aA x) (l':={ p with a:=x }.l) c rfl rfl (by rw[aB hx,aB h.a]) rfl;exact⟨b,d,hx,h.s,h.c,h.d⟩
def sets(h:p.Ok)(c:Row W k p.l){x:Bs}(hx:x.size=33):W.there k 33 (aA x).length/\Row (W.setCells k 33 (aA x)) k { p with s:=x }.l/\{ p with s:=x }.Ok:=by
 obtain⟨b,d⟩:=Row.mid (xs:=aA p.a) (us:=aA x) (l':={ p with s:=x }.l) c rfl rfl (by rw[aB hx,aB h.s]) (aB h.a);exact⟨b,d,h.a,hx,h.c,h.d⟩
def Wr(h:p.Ok)(d:Row W k p.l){x:Bs}(hx:x.size=33):W.there k 66 (aA x).length/\Row (W.setCells k 66 (aA x)) k { p with c:=x }.l/\{ p with c:=x }.Ok:=by
 obtain⟨b,e⟩:=Row.mid (m:=66) (xs:=aA p.a++aA p.s) (ys:=aA p.c) (zs:=aA p.d++(wn p.u++(wn p.m++wn p.t))) (us:=aA x) (l':={ p with c:=x }.l) d (by unfold l;simp only[YP]) (by unfold l;simp only[YP]) (by rw[aB hx,aB h.c]) (by rw[XK,aB h.a,aB h.s]);exact⟨b,e,h.a,h.s,hx,h.d⟩
def Wq(h:p.Ok)(c:Row W k p.l){x:Bs}(hx:x.size=33):W.there k 99 (aA x).length/\Row (W.setCells k 99 (aA x)) k { p with d:=x }.l/\{ p with d:=x }.Ok:=by
 obtain⟨b,e⟩:=Row.mid (m:=99) (xs:=aA p.a++(aA p.s++aA p.c)) (ys:=aA p.d) (zs:=wn p.u++(wn p.m++wn p.t)) (us:=aA x) (l':={ p with d:=x }.l) c (by unfold l;simp only[YP]) (by unfold l;simp only[YP]) (by rw[aB hx,aB h.d]) (by simp only[XK,aB h.a,aB h.s,aB h.c]);exact⟨b,e,h.a,h.s,h.c,hx⟩
def V9(h:p.Ok)(c:Row W k p.l)(x:Nat):W.there k 132 (wn x).length/\Row (W.setCells k 132 (wn x)) k { p with u:=x }.l/\{ p with u:=x }.Ok:=by
 obtain⟨b,d⟩:=Row.mid (m:=132) (xs:=aA p.a++(aA p.s++(aA p.c++aA p.d))) (ys:=wn p.u) (zs:=wn p.m++wn p.t) (us:=wn x) (l':={ p with u:=x }.l) c (by unfold l;simp only[YP]) (by unfold l;simp only[YP]) rfl (by simp only[XK,aB h.a,aB h.s,aB h.c,aB h.d]);exact⟨b,d,h.a,h.s,h.c,h.d⟩
def Wp(h:p.Ok)(c:Row W k p.l)(x:Nat):W.there k 136 (wn x).length/\Row (W.setCells k 136 (wn x)) k { p with m:=x }.l/\{ p with m:=x }.Ok:=by
 obtain⟨b,d⟩:=Row.mid (m:=136) (xs:=aA p.a++(aA p.s++(aA p.c++(aA p.d++wn p.u)))) (ys:=wn p.m) (zs:=wn p.t) (us:=wn x) (l':={ p with m:=x }.l) c (by unfold l;simp only[YP]) (by unfold l;simp only[YP]) rfl (by simp only[XK,aB h.a,aB h.s,aB h.c,aB h.d];rfl);exact⟨b,d,h.a,h.s,h.c,h.d⟩
def We(h:p.Ok)(c:Row W k p.l)(x:Nat):W.there k 140 (wn x).length/\Row (W.setCells k 140 (wn x)) k { p with t:=x }.l/\{ p with t:=x }.Ok:=by
 obtain⟨b,d⟩:=Row.mid (m:=140) (xs:=aA p.a++(aA p.s++(aA p.c++(aA p.d++(wn p.u++wn p.m))))) (ys:=wn p.t) (zs:=[]) (us:=wn x) (l':={ p with t:=x }.l) c (by unfold l;simp only[YP,yAk]) (by unfold l;simp only[YP,yAk]) rfl (by simp only[XK,aB h.a,aB h.s,aB h.c,aB h.d];rfl);exact⟨b,d,h.a,h.s,h.c,h.d⟩
end Rp
def uRd:yZ 153:=yQ
def iRd:gZ 153 144:=gQ
def Mh{p:Rp}(h:p.Ok)(w:XA):(Ys 153 (.agg p.l.toArray)).run prog w=.ok (jZ w.heap.size) (w.alloc (.cells p.l.toArray 153)):=by
 unfold Rp.l;rw[dD h.a,dD h.s,dD h.c,dD h.d];kernel_rfl
def QY{r d g:Nat}{L:Bs}{k:ByteArray}{f:Option Y0}{b:List UInt8}{w:XA}(c:k.size<=1048576)(j:hZ w r 0 L)(m:L.size=32)(o:PartOk w (.slice f d g) b):
 cZ 134 #[jZ r,.string k,.slice f d g] w (Ret λe w'=>e=.tuple #[]/\SP.Only r 0 32 w w'/\hZ w' r 0 (vQ L k.data.toList b)):=
 (B8 r L k f d g b w c (QQ j) m o).mono λ_ _ ⟨l,n,i⟩=>⟨_,l,rfl,n,QP i⟩
def bgL(V:Bs)(n:Nat)(A S:Bs):Bs:=kE [102,105,114,115,116] [115,101,99,111,110,100] (vQ (vQ (newL [114,97,110,103,101]) [99,111,109,109,105,116] V.toList) [98,105,116,115] [bF n 1]) A S
structure BgI(w W:XA)(k r:Nat)(p:Rp)(V:Bs)(y z:Nat)(L:Bs):Prop where
 bl:kZ w W
 r3:Row W k p.l
 r4:Row W (k+1) (aA V)
 r6:Row W (k+2) [jZ r]
 r7:Row W (k+3) (wn y)
 r8:Row W (k+4) (wn z)
 rk:w.heap.size=k/\k+5<=r
 lg:hZ W r 0 L
 ls:L.size=32
section
variable {w W W':XA}{k r:Nat}{p:Rp}{V:Bs}{y z:Nat}{L L':Bs}
def BgI.lt(h:BgI w W k r p V y z L):r<W.heap.size:=Holds.lt h.lg (by rw[h.ls];decide)
def BgI.grow(h:BgI w W k r p V y z L)(b:kZ W W'):BgI w W' k r p V y z L:=
 ⟨h.bl.trans (b.mono h.bl.size),h.r3.below b,h.r4.below b,h.r6.below b,h.r7.below b,h.r8.below b,h.rk,Holds.below h.lg b h.lt,h.ls⟩
def BgI.say(h:BgI w W k r p V y z L)(b:SP.Only r 0 32 W W')(c:hZ W' r 0 L')(d:L'.size=32):BgI w W' k r p V y z L':=by
 have f:=h.rk.2;have e:=h.rk.1;exact⟨h.bl.trans (yB b h.bl.size oM),h.r3.only b oM,h.r4.only b oM,h.r6.only b oM,h.r7.only b oM,h.r8.only b oM,h.rk,c,d⟩
def BgI.put(h:BgI w W k r p V y z L)(b c:Nat)(j:Nat)(us:List XB)(i:j<5)(e:Row (W.setCells (k+j) 0 us) (k+2) [jZ r])(d:Row (W.setCells (k+j) 0 us) (k+3) (wn b))(f:Row (W.setCells (k+j) 0 us) (k+4) (wn c))(m:2<=j):BgI w (W.setCells (k+j) 0 us) k r p V b c L:=by
 have l:=h.rk.2;have g:=h.rk.1;exact⟨RG.below_setCells oM _ _ _ h.bl,aR h.r3 oM,aR h.r4 oM,e,d,f,h.rk,eN h.lg oM,h.ls⟩
def BgI.p6(h:BgI w W k r p V y z L)(e:Hid (W.setCells (k+2) 0 [jZ r]=W')):BgI w W' k r p V y z L:=by
 rw[<-e.out];exact h.put y z 2 _ oM (h.r6.put rfl) (aR h.r7 oM) (aR h.r8 oM) oM
def BgI.p7(h:BgI w W k r p V y z L){b:Nat}(e:Hid (W.setCells (k+3) 0 (wn b)=W')):BgI w W' k r p V b z L:=by
 rw[<-e.out];exact h.put b z 3 _ oM (aR h.r6 oM) (h.r7.put rfl) (aR h.r8 oM) oM
def BgI.p8(h:BgI w W k r p V y z L){b:Nat}(e:Hid (W.setCells (k+4) 0 (wn b)=W')):BgI w W' k r p V y b L:=by
 rw[<-e.out];exact h.put y b 4 _ oM (aR h.r6 oM) (aR h.r7 oM) (h.r8.put rfl) oM
end
def Cq{T n c:Yd}{P:YJ}{w:Func}{tmps:Array XB}{W:XA}{k s e:Nat}{vs us m:List XB}(t x j:Zw)(z:w.results=#[.cell t T,.cell x n,.cell j c])(h:Row W k vs)(E:Row W s us)(q:Row W e m)(y:tmps[t]? = some (jZ k))(o:tmps[x]? = some (jZ s))(l:tmps[j]? = some (jZ e))(p:(P.underlying T).map (·.isRow)=some true)(a:(P.info? T).map (·.size)=some vs.length)(f:(P.underlying n).map (·.isRow)=some true)(u:(P.info? n).map (·.size)=some us.length)(b:(P.underlying c).map (·.isRow)=some true)(g:(P.info? c).map (·.size)=some m.length):(results w tmps).run P W=.ok (.tuple #[.agg vs.toArray,.agg us.toArray,.agg m.toArray]) W:=by
 obtain⟨d,p,hd⟩:=XE.1 p;obtain⟨D,f,r⟩:=XE.1 f;obtain⟨v,b,i⟩:=XE.1 b;have A:=yAx (P:=P) W k 0 T vs d h.2.1 p hd a;have B:=yAx (P:=P) W s 0 n us D E.2.1 f r u;have C:=yAx (P:=P) W e 0 c m v q.2.1 b i g;unfold results;simp[z,y,o,l,A,B,C,asAddr]
def Qk(O:Ord N)(p:Rp)(hp:p.Ok)(V:Bs)(hV:V.size=33)(n:Nat)(hn:n<256)(w:XA):
 cZ 79 #[.agg p.l.toArray,pvl V,iZ n] w (rZ w λe w'=>∃r,e=.tuple #[lgV r,nv (chS N (bgL V n p.a p.s)),nv (chS N (aW (bgL V n p.a p.s)))]/\w.heap.size<=r/\hZ w' r 0 (aW (aW (bgL V n p.a p.s)))):=by
 obtain⟨Y,A⟩:=hE (newL [114,97,110,103,101]);obtain⟨L1,E⟩:=hE (vQ Y [99,111,109,109,105,116] V.toList);obtain⟨L2,f⟩:=hE (vQ L1 [98,105,116,115] [bF n 1]);have e3:bgL V n p.a p.s=kE [102,105,114,115,116] [115,101,99,111,110,100] L2 p.a p.s:=by unfold bgL;rw[A.out,E.out,f.out]
 have s0:Y.size=32:=by rw[<-A.out];exact AH
 have s1:L1.size=32:=by rw[<-E.out];exact lC
 have s2:L2.size=32:=by rw[<-f.out];exact lC
 obtain⟨L3,Z⟩:=hE (kE [102,105,114,115,116] [115,101,99,111,110,100] L2 p.a p.s);obtain⟨P,J⟩:=hE (aW L3);obtain⟨L5,D⟩:=hE (aW P);have s4:P.size=32:=by rw[<-J.out];exact aY
 have s5:L5.size=32:=by rw[<-D.out];exact aY
 obtain⟨y,hy⟩:=hE (chS N L3);obtain⟨z,hz⟩:=hE (chS N P);rw[e3,Z.out,J.out,D.out,hy.out,hz.out];have HA:Hid (∀(r:Nat) (W:XA),hZ W r 0 L2->cZ 135 #[lgV r,.string ⟨#[102,105,114,115,116]⟩,pvl p.a,.string ⟨#[115,101,99,111,110,100]⟩,pvl p.s] W (Ret λe w'=>SP.Only r 0 32 W w'/\hZ w' r 0 P/\e=nv y)):=λr W h=>by
  rw[<-hy.out,<-J.out,<-Z.out];exact uC O r L2 p.a p.s ⟨#[102,105,114,115,116]⟩ ⟨#[115,101,99,111,110,100]⟩ dC dC hp.a hp.s W h s2
 have HC:Hid (∀(r:Nat) (W:XA),hZ W r 0 P->cZ 136 #[lgV r] W (Ret λe w'=>SP.Only r 0 32 W w'/\hZ w' r 0 L5/\e=nv z)):=λr W h=>by
  rw[<-hz.out,<-D.out];exact zG O r P W h s4
 have HN:Hid (∀W:XA,cZ 133 #[.string ⟨#[114,97,110,103,101]⟩] W (rZ W λe w'=>∃r,e=lgV r/\W.heap.size<=r/\r<w'.heap.size/\hZ w' r 0 Y)):=λW=>by
  rw[<-A.out];exact Ip ⟨#[114,97,110,103,101]⟩ W dC
 obtain⟨k,hk⟩:=hE (w.heap.size);obtain⟨M,H⟩:=hE (lZ w p.l 153);obtain⟨w2,C⟩:=hE (lZ M (aA V) 51);obtain⟨w3,a⟩:=hE (w2.alloc (.cells [.pointer none].toArray 159));obtain⟨w4,x⟩:=hE (lZ w3 (RG.z 4) 44);obtain⟨w5,G⟩:=hE (lZ w4 (RG.z 4) 44);have z1:Hid (M.heap.size=k+1):=by rw[<-H.out,XP,hk.out];rfl
 have z2:Hid (w2.heap.size=k+2):=by rw[<-C.out,XP,z1.out];rfl
 have z3:Hid (w3.heap.size=k+3):=by rw[<-a.out,XP,z2.out];rfl
 have z4:Hid (w4.heap.size=k+4):=by rw[<-x.out,XP,z3.out];rfl
 have z5:Hid (w5.heap.size=k+5):=by rw[<-G.out,XP,z4.out];rfl
 have f1:=aK hk H;have f2:=aK z1 C;have f3:=aK z2 a;have f4:=aK z3 x;have f5:=aK z4 G;have h5:=f4.1.trans (f5.1.mono f4.1.size);have T:=f3.1.trans (h5.mono f3.1.size);have R:=f2.1.trans (T.mono f2.1.size);have F:=mk6 (f1.1.trans (R.mono f1.1.size)) (f1.2.below R) (f2.2.below T) (f3.2.below h5) (f4.2.below f5.1) f5.2;obtain⟨vp,h0⟩:=hE (X9 p.l.toArray);obtain⟨vV,S⟩:=hE (pvl V);have B1:Hid ((Ys 153 vp).run prog w=.ok (jZ k) M):=by rw[<-h0.out,<-H.out,<-hk.out];exact Mh hp w
 have B2:Hid ((Ys 51 vV).run prog M=.ok (jZ (k+1)) w2):=by rw[<-S.out,<-C.out,<-z1.out];exact sL hV M
 rw[h0.out,S.out];have HP:=mk2 hp hV;go_enter func79,ntmps79;go_wp2_with (first|(refine aG (u:=vp) (v:=jZ k) (w':=M) rfl _ (.tmp 0) rfl ?_ ?_ ?_;rfl;exact B1.out)|(refine aG (u:=vV) (v:=jZ (k+1)) (w':=w2) rfl _ (.tmp 1) rfl ?_ ?_ ?_;rfl;exact B2.out)|(refine alR 6 z2 a ?_)|(refine alR 7 z3 x ?_)|(refine alR 8 z4 G ?_)|fail)
 refine(HN w5).mono ?_;rintro e w6 ⟨uu,rfl,b,r,rfl,X,hq,d⟩;obtain⟨w7,h6⟩:=hE (w6.setCells (k+2) 0 [jZ r]);have hi:=mk1 (F.2.2.2.1.below b).2.2;have K7:Hid (BgI w w7 k r p V 0 0 Y):=by
  rw[z5.out]at X;rw[<-h6.out];have c:=hk.out;exact⟨RG.below_setCells oM _ _ _ (F.1.trans (b.mono F.1.size)),aR (F.2.1.below b) oM,aR (F.2.2.1.below b) oM,(F.2.2.2.1.below b).put rfl,aR (F.2.2.2.2.1.below b) oM,aR (F.2.2.2.2.2.below b) oM,⟨hk.out,X⟩,eN d oM,s0⟩
 unfold lgV;go_wp2_with (first|(refine stR 6 h6 (Hid.mk' rfl) hi.out iLg kR ?_)|fail)
 refine AW.begin 4 4 ?_;refine AW.va 0 (jZ (k+2)) ?_;refine AW.va 1 (jZ (k+2)) ?_;refine AW.ce 2 uLp (λW i=>(K7.grow i).r6.2.1 0 _ rfl) ?_;refine AW.va 3 (sZ (k+1) 33 33) ?_;refine AW.fc (λi=>QY (r:=r) (L:=Y) (k:=⟨#[99,111,109,109,105,116]⟩) (f:=(some ⟨k+1,0,none⟩)) (d:=33) (g:=33) (b:=V.toList) dC (K7.grow i).lg s0 (xP HP.2 (K7.grow i).r4)) ?_;rintro e w8 i ⟨rfl,t,d⟩;rw[show(⟨#[99,111,109,109,105,116]⟩:ByteArray).data.toList=[99,111,109,109,105,116] from rfl,E.out]at d;have K8:=mk1 ((K7.grow i).say t d s1);have c6:=K8.r6.2.1 0 _ rfl;have hl:∀W:XA,(convert 3 5 (iZ n)).run prog W=.ok (.int .u8 (SP.ub (bF n 1))) W:=λW=>by
  have c:=rT n;rw[<-c];rfl
 have HL:=mk1 (rfl:bF n 1=bF n 1);generalize bF n 1=m at f hl;obtain⟨w9,I⟩:=hE (w8.alloc (.cells #[.int .u8 (SP.ub m)] 5));obtain⟨U,Q⟩:=hE (w8.heap.size);have h8:Hid ((Yw 23 1 #[(0,.int .u8 (SP.ub m))]).run prog w8=.ok (sZ U 1 1) w9):=by rw[<-I.out,<-Q.out];show _=_;kernel_rfl
 have f9:Hid (kZ w8 w9/\Row w9 U [.int .u8 (SP.ub m)]):=by rw[<-I.out,<-Q.out];exact⟨aD _,row_new w8 [.int .u8 (SP.ub m)] 5⟩
 have K9:=mk2 (K8.grow f9.1) (show PartOk w9 (sZ U 1 1) [m] from⟨_,U,0,1,#[m],rfl,rfl,XD _,(by show 1<=1099511627776;decide),X7 ⟨rfl,λj hj=>by
  obtain rfl:j=0:=by simp at hj;omega
  exact⟨f9.2.2.1 0 _ rfl,(f9.2.2.2 0 Nat.one_pos).2⟩⟩⟩)
 go_wp2_with (first|(refine inR 20 (I:=(Yw 23 1 #[(0,.int .u8 (SP.ub m))])) h8.out ?_)|fail)
 refine(QY (r:=r) (L:=L1) (k:=⟨#[98,105,116,115]⟩) (f:=(some (aZ U))) (d:=1) (g:=1) (b:=[m]) (w:=w9) dC K9.1.lg s1 K9.2).mono ?_;rintro e ha ⟨uu,rfl,rfl,t,d⟩;rw[show(⟨#[98,105,116,115]⟩:ByteArray).data.toList=[98,105,116,115] from rfl,f.out]at d;have KA:=mk1 (K9.1.say t d s2);clear K9 t d K8 f9 h8 I c6;obtain⟨vl,c⟩:=hE (lgV r);obtain⟨vA,hvA⟩:=hE (pvl p.a);obtain⟨vS,h2⟩:=hE (pvl p.s);have iA:gZ 51 (aA p.a).length:=by rw[aB HP.1.a];exact iCP
 have iS:gZ 51 (aA p.s).length:=by rw[aB HP.1.s];exact iCP
 have H7:=Rp.at7 HP.1 KA.r3.2.1;have B:=mk1 (HA r ha KA.lg);rw[c.out,hvA.out,h2.out]at B;go_wp2_with (first|(refine ldR 6 KA.r6.2.1 c uLg iLg ?_)|(refine ldR 23 H7.1 hvA uCP iA ?_)|(refine ldR 25 H7.2.1 h2 uCP iS ?_)|fail)
 refine B.mono ?_;clear B H7;rintro e hc ⟨uu,rfl,t,d,rfl⟩;have KB:=mk1 (KA.say t d s4);obtain⟨h1,s⟩:=hE (hc.setCells (k+3) 0 (wn y));obtain⟨vy,g⟩:=hE (nv y);rw[g.out];go_wp2_with (first|(refine stR 7 s g KB.r7.2.2 i40 (aI (n:=y)) ?_)|fail)
 have KC:=mk1 (KB.p7 s);refine AW.beg 6 6 (J:=⟨λW=>∃z L,BgI w W k r p V y z L,λ_ _ i ⟨z,L,h⟩=>⟨z,L,h.grow i⟩,true⟩) ⟨_,_,KC.grow ⟨rfl,rfl,rfl,XD _,λ_ _=>rfl⟩⟩ ?_;refine AW.ro 0 (λW ⟨_,_,h⟩=>h.r6.2.1) c uLg iLg ?_;refine AW.ro 1 (λW ⟨_,_,h⟩=>h.r7.2.1) g u40 i40 ?_;refine AW.ro 2 (λW ⟨_,_,h⟩=>h.r6.2.1) c uLg iLg ?_;have KD:=mk1 (KC.grow (W':=h1.drew) ⟨rfl,rfl,rfl,XD _,λ_ _=>rfl⟩);have h7:=mk1 (HC r h1.drew KD.lg);rw[c.out]at h7;refine AW.cw 3 (λ_=>h7.out) (λe w' _ h=>⟨_,_,KD.say h.1 h.2.1 s5⟩) ?_;rintro e hg ⟨t,d,rfl⟩;have KE:=mk1 (KD.say t d s5);obtain⟨h9,q⟩:=hE (hg.setCells (k+2) 0 [jZ r]);obtain⟨he,l⟩:=hE (h9.setCells (k+3) 0 (wn y));obtain⟨hm,o⟩:=hE (he.setCells (k+4) 0 (wn z));have KF:=mk1 (KE.p6 q);have KG:=mk1 (KF.p7 l);have K:=mk1 (KG.p8 o);obtain⟨vz,h4⟩:=hE (nv z);rw[h4.out];refine AW.ss 4 c kR iLg q (λ_=>⟨KE.r6.2.2,_,_,KF.out⟩) ?_;refine AW.ss 5 g (aI (n:=y)) i40 l (λ_=>⟨KF.r7.2.2,_,_,KG.out⟩) ?_;refine AW.fi (us:=wn z) h4 (aI (n:=z)) i40 (λ_=>⟨KG.r8.2.2,?_⟩);rw[o.out];go_wp2_with fail
 refine XN (Cq 6 7 8 (T:=159) (n:=44) (c:=44) rfl K.r6 K.r7 K.r8 rfl rfl rfl uLg iLg u40 i40 u40 i40) rfl ?_;exact⟨_,rfl,K.bl,r,rfl,oN K.rk,K.lg⟩
structure MdI(w W:XA)(k r:Nat)(p:Rp)(y:Nat)(L:Bs):Prop where
 on:SP.Only r 0 32 w W
 r2:Row W k p.l
 r3:Row W (k+1) [jZ r]
 r4:Row W (k+2) (wn y)
 rk:w.heap.size=k/\r<k
 lg:hZ W r 0 L
 ls:L.size=32
section
variable {w W W':XA}{k r:Nat}{p:Rp}{y:Nat}{L L':Bs}
def MdI.lt(h:MdI w W k r p y L):r<W.heap.size:=Holds.lt h.lg (by rw[h.ls];decide)
def MdI.grow(h:MdI w W k r p y L)(b:kZ W W'):MdI w W' k r p y L:=
 ⟨h.on.trans (SP.Only.of_below b rfl h.lt),h.r2.below b,h.r3.below b,h.r4.below b,h.rk,Holds.below h.lg b h.lt,h.ls⟩
def MdI.say(h:MdI w W k r p y L)(b:SP.Only r 0 32 W W')(c:hZ W' r 0 L')(d:L'.size=32):MdI w W' k r p y L':=by
 have:=h.rk;exact⟨h.on.trans b,h.r2.only b oM,h.r3.only b oM,h.r4.only b oM,h.rk,c,d⟩
def MdI.put(h:MdI w W k r p y L){b:Nat}(e:Hid (W.setCells (k+2) 0 (wn b)=W')):MdI w W' k r p b L:=by
 have:=h.rk;rw[<-e.out];exact⟨jN h.on h.rk.1 h.rk.2 oM,aR h.r2 oM,aR h.r3 oM,h.r4.put rfl,h.rk,eN h.lg oM,h.ls⟩
def Kw(s:p.Ok)(o:hZ w r 0 L)(n:L.size=32):∃k c d q,Hid (w.heap.size=k)/\Hid (d.heap.size=k+2)/\Hid (d.alloc (.cells (RG.z 4).toArray 44)=q)/\Hid ((Ys 153 (.agg p.l.toArray)).run prog w=.ok (jZ k) c)/\Hid ((Ys 159 (lgV r)).run prog c=.ok (jZ (k+1)) d)/\Hid (MdI w q k r p 0 L):=by
 have l:=Holds.lt o (by rw[n];decide);have f1:=aK (T:=153) (Hid.mk' (rfl:w.heap.size=_)) (Hid.mk' (rfl:w.alloc (.cells p.l.toArray 153)=_));have g:(w.alloc (.cells p.l.toArray 153)).heap.size=w.heap.size+1:=XP _ _;have m:=O1 (r:=r) (w:=(w.alloc (.cells p.l.toArray 153)));generalize j:w.alloc (.cells p.l.toArray 153)=c at f1 g m;have f2:=aK (T:=159) (z:=[jZ r]) (Hid.mk' g) (Hid.mk' rfl);have i:(c.alloc (.cells [jZ r].toArray 159)).heap.size=w.heap.size+2:=by rw[XP,g]
 rw[g]at m;have e:(Ys 159 (lgV r)).run prog c=.ok (jZ (w.heap.size+1)) (c.alloc (.cells [jZ r].toArray 159)):=m;generalize c.alloc (.cells [jZ r].toArray 159)=d at f2 i e;have f3:=aK (T:=44) (z:=RG.z 4) (Hid.mk' i) (Hid.mk' rfl);refine⟨_,c,d,_,rfl,i,rfl,?_,e,?_⟩
 .rw[<-j];exact Mh s w
 have f:=f2.1.trans (f3.1.mono f2.1.size);have b:=f1.1.trans (f.mono f1.1.size);exact⟨SP.Only.of_below b rfl l,f1.2.below f,f2.2.below f3.1,f3.2,⟨rfl,l⟩,Holds.below o b l,n⟩
end
def mdL(L C D:Bs):Bs:=kE [116,104,105,114,100] [102,111,117,114,116,104] L C D
def PN(O:Ord N)(p:Rp)(d:p.Ok)(r:Nat)(L:Bs)(w:XA)(G:hZ w r 0 L)(t:L.size=32):
 cZ 85 #[.agg p.l.toArray,lgV r] w (Ret λe w'=>SP.Only r 0 32 w w'/\hZ w' r 0 (aW (mdL L p.c p.d))/\e=nv (chS N (mdL L p.c p.d))):=by
 obtain⟨s,l⟩:=hE (mdL L p.c p.d);obtain⟨z,c⟩:=hE (aW s);obtain⟨x,hx⟩:=hE (chS N s);have s2:z.size=32:=c.out▸aY;rw[l.out,c.out,hx.out];have M:Hid (∀(W:XA),hZ W r 0 L->cZ 135 #[lgV r,.string ⟨#[116,104,105,114,100]⟩,pvl p.c,.string ⟨#[102,111,117,114,116,104]⟩,pvl p.d] W (Ret λe w'=>SP.Only r 0 32 W w'/\hZ w' r 0 z/\e=nv x)):=λW h=>by
  rw[<-hx.out,<-c.out,<-l.out];exact uC O r L p.c p.d ⟨#[116,104,105,114,100]⟩ ⟨#[102,111,117,114,116,104]⟩ dC dC d.c d.d W h t
 obtain⟨k,D,K,I,U,E,q,a,B,n⟩:=Kw d G t;obtain⟨P,j⟩:=hE (X9 p.l.toArray);obtain⟨vl,b⟩:=hE (lgV r);obtain⟨Y,i⟩:=hE (pvl p.c);obtain⟨S,f⟩:=hE (pvl p.d);rw[j.out]at a;have C:=mk1 (M I n.lg);rw[b.out]at B;rw[b.out,i.out,f.out]at C;rw[j.out,b.out];have H:gZ 51 (aA p.c).length:=by rw[aB d.c];exact iCP
 have R:gZ 51 (aA p.d).length:=by rw[aB d.d];exact iCP
 have y:=mk1 (Rp.at7 d n.r2.2.1);go_enter func85,ntmps85;go_wp2_with (first|(refine aG (u:=P) (v:=jZ k) (w':=D) rfl _ (.tmp 0) rfl ?_ ?_ ?_;rfl;exact a)|(refine aG (u:=vl) (v:=jZ (k+1)) (w':=K) rfl _ (.tmp 1) rfl ?_ ?_ ?_;rfl;exact B)|(refine alR 4 E q ?_)|(refine ldR 3 n.r3.2.1 b uLg iLg ?_)|(refine ldR 6 y.2.2.1 i uCP H ?_)|(refine ldR 8 y.2.2.2.1 f uCP R ?_)|fail)
 refine C.mono ?_;rintro e J ⟨V,rfl,Q,F,rfl⟩;have A:=mk1 (n.say Q F s2);obtain⟨T,m⟩:=hE (J.setCells (k+2) 0 (wn x));have o:=mk1 (A.put m);obtain⟨X,g⟩:=hE (nv x);rw[g.out];go_wp2_with (first|(refine stR 4 m g A.r4.2.2 i40 aI ?_)|fail)
 refine XN (aF 4 rfl o.r4 rfl u40 i40) rfl ?_;exact⟨_,rfl,o.on,o.lg,rfl⟩
def Vg{L:Nat->Bs}:gW L 3=(L 0).toList++((L 1).toList++(L 2).toList):=by simp[gW,yAT]
def Il{B n:Nat}{w:XA}{v:XB}{x:List UInt8}(h:w.ownsRow B 5 1 v n (x.map encB))(e:0<n)(s:n<=1000000):∃q c,v=.slice q n c/\PartOk w v x:=by
 have d:x.length=n:=by have:=h.1;rw[XZ,Z5]at this;exact this
 rcases id h with⟨-,⟨rfl,e⟩|⟨g,cap,cur,rfl,o,f,r,m,p,l⟩⟩
 .omega
 .have hx:x.toArray.size=n:=by rw[YF];exact d
  refine⟨_,_,rfl,some (aZ g),g,0,cap,x.toArray,by rw[hx],rfl,oM,oM,X7 ⟨rfl,λj i=>?_⟩⟩;have k:=oM;have b:=h.cells (g:=g) rfl j (encB x[j]) (by rw[YB,XO k];rfl);rw[gI]at b;refine⟨by rw[b,getElem!_pos _ j i];simp;rfl,?_⟩;simp[Zk,f]
def Xi{g b k:Nat}{w:XA}:(Yw 27 3 #[(0,r32 g),(1,r32 b),(2,r32 k)]).run prog w=.ok (sZ w.heap.size 3 3) (w.alloc (.cells #[r32 g,r32 b,r32 k] 23)):=kR
def enB(u m t:Nat):List UInt8:=(bx u).toList++((bx m).toList++(bx t).toList)
def enL(L:Bs)(u m t:Nat):Bs:=vQ L [115,117,109,115] (enB u m t)
def ElQ.el{Q:Nat->Prop}{m:Nat}{W:XA}{x:XB}{b:Bs}(h:ElQ Q m W x b):El m W x b:=by
 obtain⟨k,c,g,i,e,-,d,f⟩:=h;exact⟨k,c,g,i,e,d,f⟩
def P8(O:Ord N)(p:Rp)(hp:p.Ok)(hu:p.u<N)(hm:p.m<N)(ht:p.t<N)(r:Nat)(L:Bs)(w:XA)(hL:Holds encB w r 0 L)(hl:L.size=32):
 YN prog 88 #[.agg p.l.toArray,lgV r] w (Ret λe w'=>SP.Only r 0 32 w w'/\Holds encB w' r 0 (aW (enL L p.u p.m p.t))/\e=nv (chS N (enL L p.u p.m p.t))):=by
 obtain⟨H,g⟩:=hE (enL L p.u p.m p.t);obtain⟨L2,f⟩:=hE (aW H);obtain⟨x,hx⟩:=hE (chS N H);have s1:H.size=32:=by rw[<-g.out];exact lC
 have s2:L2.size=32:=by rw[<-f.out];exact aY
 have HC:Hid (∀(W:XA),Holds encB W r 0 H->YN prog 136 #[lgV r] W (Ret λe w'=>SP.Only r 0 32 W w'/\Holds encB w' r 0 L2/\e=nv x)):=λW h=>by
  rw[<-hx.out,<-f.out];exact zG O r H W h s1
 rw[g.out,f.out,hx.out];unfold enL enB at g;have c:=λ(a:Nat) (ha:a<N) (W:XA)=>eE O ha W
 have b1:=λW=>c p.u hu W
 have b2:=λW=>c p.m hm W
 have b3:=λW=>c p.t ht W
 have sz:∀a:Nat,(bx a).size=32:=cQ;have d:=mk3 (sz p.u) (sz p.m) (sz p.t);have S:=mk3 b1 b2 b3;clear b1 b2 b3 c hu hm ht sz f hx;generalize bx p.u=n at *;generalize bx p.m=o at *;generalize bx p.t=m at *;obtain⟨vu,C⟩:=hE (nv p.u);obtain⟨vm,J⟩:=hE (nv p.m);obtain⟨vt,F⟩:=hE (nv p.t);rw[C.out,J.out,F.out]at S;obtain⟨k,w1,w2,T,hk,z2,Y,B1,B2,i⟩:=Kw hp hL hl;obtain⟨vp,B⟩:=hE (X9 p.l.toArray);obtain⟨vl,l⟩:=hE (lgV r);rw[B.out]at B1;rw[l.out]at B2;rw[B.out,l.out];clear hL;have HP:=mk1 hp;go_enter func88,ntmps88;go_wp2_with (first|(refine aG (u:=vp) (v:=jZ k) (w':=w1) rfl _ (.tmp 0) rfl ?_ ?_ ?_;rfl;exact B1.out)|(refine aG (u:=vl) (v:=jZ (k+1)) (w':=w2) rfl _ (.tmp 1) rfl ?_ ?_ ?_;rfl;exact B2.out)|(refine alR 4 z2 Y ?_)|fail)
 have n3:Hid (k+1≠r):=by have:=i.rk;show _≠_;omega
 have U:Hid (k≠r):=by have:=i.rk;show _≠_;omega
 refine AW.beg 14 14 (J:=(Iv.only i.lt)) (SP.Only.of_below (⟨rfl,rfl,rfl,XD _,λ_ _=>rfl⟩:kZ T T.drew) rfl i.lt) ?_;refine AW.va 0 (jZ (k+1)) ?_;refine AW.va 1 (jZ (k+1)) ?_;refine AW.ce 2 uLp (λW b=>(i.r3.only b n3.out).2.1 0 _ rfl) ?_;refine AW.va 3 (oZ k 132) ?_;refine AW.ro 4 (λW b=>(Rp.at7 HP.out (i.r2.only b U.out).2.1).2.2.2.2.1) C u40 i40 ?_;refine AW.va 6 (oZ k 136) ?_;refine AW.ro 7 (λW b=>(Rp.at7 HP.out (i.r2.only b U.out).2.1).2.2.2.2.2.1) J u40 i40 ?_;refine AW.va 9 (oZ k 140) ?_;refine AW.ro 10 (λW b=>(Rp.at7 HP.out (i.r2.only b U.out).2.1).2.2.2.2.2.2) F u40 i40 ?_;refine AW.ca 5 (λ_=>S.1 _) (λe w' h=>h.1) ?_;rintro e w4 ⟨t,h3,A,rfl⟩;refine AW.ca 8 (λ_=>S.2.1 _) (λe w' h=>h.1) ?_;rintro e w5 ⟨P,h2,y,rfl⟩;refine AW.ca 11 (λ_=>S.2.2 _) (λe w' h=>h.1) ?_;rintro e I ⟨D,X,z,rfl⟩;have G:=aD (w:=I) (.cells #[r32 A,r32 y,r32 z] 23);have Q:=row_new I [r32 A,r32 y,r32 z] 23;have s:=P.trans (D.mono P.size);have E1:=(h3.keep (Kq.of_below s)).keep (Kq.of_below G);have E2:=(h2.keep (Kq.of_below D)).keep (Kq.of_below G);have E3:=X.keep (Kq.of_below G);refine AW.ns 12 (Xi (g:=A) (b:=y) (k:=z) (w:=I)) G ?_;have q:=mk1 (C9 I.heap.size 3 3 (λj=>if j=0 then n else if j=1 then o else m) dC (λj hj=>by
  match j,hj with
  | 0,_=>show n.size<=10000;rw[d.1];decide
  | 1,_=>show o.size<=10000;rw[d.2.1];decide
  | 2,_=>show m.size<=10000;rw[d.2.2];decide) (I.alloc (.cells #[r32 A,r32 y,r32 z] 23)) Q.1 λj hj=>by
  match j,hj with
  | 0,_=>exact⟨r32 A,Q.2.1 0 _ rfl,by show El n.size _ _ n;rw[d.1];exact E1.el⟩
  | 1,_=>exact⟨r32 y,Q.2.1 1 _ rfl,by show El o.size _ _ o;rw[d.2.1];exact E2.el⟩
  | 2,_=>exact⟨r32 z,Q.2.1 2 _ rfl,by show El m.size _ _ m;rw[d.2.2];exact E3.el⟩)
 have h4:(gW (λj=>if j=0 then n else if j=1 then o else m) 3)=n.toList++(o.toList++m.toList):=Vg;rw[h4]at q;have h1:(n.toList++(o.toList++m.toList)).length=96:=by simp only[XK,XU,d.1,d.2.1,d.2.2]
 generalize n.toList++(o.toList++m.toList)=xx at *;rw[h1]at q;have K:=mk1 (((XR _ T).drew.trans (t.trans (s.mono t.size))).trans (G.mono (XH t.size s.size)));refine AW.ca 13 (λ_=>q.out) (λe w' h=>h.1) ?_;rintro e w8 ⟨V,Z⟩;obtain⟨qa,qc,rfl,h0⟩:=Il Z dC dC;have K8:=mk1 (i.grow (K.trans (V.mono K.size)));refine AW.cw 14 (λ_=>QY (r:=r) (L:=L) (k:=⟨#[115,117,109,115]⟩) (f:=qa) (d:=96) (g:=qc) (b:=xx) (w:=w8) dC K8.lg hl h0) (λe w' hI h=>hI.trans h.2.1) ?_;rintro e w9 ⟨rfl,b,R⟩;rw[show(⟨#[115,117,109,115]⟩:ByteArray).data.toList=[115,117,109,115] from rfl,g.out]at R;have K9:=mk1 (K8.say b R s1);refine AW.dn λ_=>?_
 have HD:=mk1 (HC w9 K9.lg);rw[l.out]at HD;go_wp2_with (first|(refine ldR 3 K9.r3.2.1 l uLg iLg ?_)|fail)
 refine HD.mono ?_;rintro e wA ⟨uu,rfl,b,R,rfl⟩;have KA:=mk1 (K9.say b R s2);obtain⟨wB,E⟩:=hE (wA.setCells (k+2) 0 (wn x));have KB:=mk1 (KA.put E);obtain⟨vx,M⟩:=hE (nv x);rw[M.out];go_wp2_with (first|(refine stR 4 E M KA.r4.2.2 i40 (aI (n:=x)) ?_)|fail)
 refine XN (aF 4 (T:=44) rfl KB.r4 rfl u40 i40) rfl ?_;exact⟨_,rfl,KB.on,KB.lg,rfl⟩
def uAr:yZ 66:=yQ
def iAr:gZ 66 11:=gQ
def Vx{a b c d:XB}{w:XA}:(Ys 64 (.agg #[a,b,c,d])).run prog w=.ok (jZ w.heap.size) (w.alloc (.cells #[a,b,c,d] 64)):=kR
def z11:List XB:=YM 11 nZ
structure RgT(Q:Nat->Prop)(W:XA)(p:Rp)(a b c d e f g:Nat):Prop where
 a:ElQ Q 33 W (r33 a) p.a
 b:ElQ Q 33 W (r33 b) p.s
 c:ElQ Q 33 W (r33 c) p.c
 d:ElQ Q 33 W (r33 d) p.d
 e:ElQ Q 32 W (r32 e) (bx p.u)
 f:ElQ Q 32 W (r32 f) (bx p.m)
 g:ElQ Q 32 W (r32 g) (bx p.t)
def RgT.keep{Q:Nat->Prop}{W W':XA}{p:Rp}{a b c d e f g:Nat}(h:RgT Q W p a b c d e f g)(k:Kq Q W W'):RgT Q W' p a b c d e f g:=⟨h.a.keep k,h.b.keep k,h.c.keep k,h.d.keep k,h.e.keep k,h.f.keep k,h.g.keep k⟩
def RgT.mono2{Q Q':Nat->Prop}{W:XA}{p:Rp}{a b c d e f g:Nat}(h:RgT Q W p a b c d e f g)(k:∀g,g<W.heap.size->Q g->Q' g):RgT Q' W p a b c d e f g:=⟨h.a.mono2 k,h.b.mono2 k,h.c.mono2 k,h.d.mono2 k,h.e.mono2 k,h.f.mono2 k,h.g.mono2 k⟩
def QI(O:Ord N)(p:Rp)(R:p.Ok)(hu:p.u<N)(hm:p.m<N)(ht:p.t<N)(o l r s:XB)(h1:o.oneCell'=true/\l.oneCell'=true/\r.oneCell'=true/\s.oneCell'=true)(w:XA):
 cZ 89 #[.agg p.l.toArray,.agg #[o,l,r,s]] w (rZ w λe w'=>∃a b c d u m t,e=.agg #[r33 a,r33 b,r33 c,r33 d,r32 u,r32 m,r32 t,o,l,r,s]/\RgT (w.heap.size<=·) w' p a b c d u m t):=by
 have x:=mk7 (λW=>eG R.a (w:=W)) (λW=>eG R.s (w:=W)) (λW=>eG R.c (w:=W)) (λW=>eG R.d (w:=W)) (λW=>eE O hu W) (λW=>eE O hm W) (λW=>eE O ht W);obtain⟨va,h8⟩:=hE (pvl p.a);obtain⟨vs,h0⟩:=hE (pvl p.s);obtain⟨vc,h9⟩:=hE (pvl p.c);obtain⟨vd,h6⟩:=hE (pvl p.d);obtain⟨vu,h4⟩:=hE (nv p.u);obtain⟨vm,h7⟩:=hE (nv p.m);obtain⟨vt,h5⟩:=hE (nv p.t);rw[h8.out,h0.out,h9.out,h6.out,h4.out,h7.out,h5.out]at x;have iP:∀ {b:Bs},b.size=33->gZ 51 (aA b).length:=λh=>by rw[aB h];exact iCP
 obtain⟨k,hk⟩:=hE (w.heap.size);obtain⟨X,H⟩:=hE (lZ w p.l 153);obtain⟨k3,B⟩:=hE (X.heap.size);obtain⟨w2,D⟩:=hE (X.alloc (.cells [o,l,r,s].toArray 64));obtain⟨Z,E⟩:=hE (w2.heap.size);obtain⟨I,h2⟩:=hE (lZ w2 z11 66);have F:=O2 hk H B D E h2;have hc:w.heap.size<=Z/\Z<I.heap.size:=⟨E.out▸XH (aK hk H).1.size (aK B D).1.size,F.2.2.2.1⟩
 have i:=mk2 hc h1;obtain⟨vp,h3⟩:=hE (X9 p.l.toArray);obtain⟨vi,j⟩:=hE (X9 #[o,l,r,s]);have B1:Hid ((Ys 153 vp).run prog w=.ok (jZ k) X):=h3.out▸H.out▸hk.out▸Mh R w;have B2:Hid ((Ys 64 vi).run prog X=.ok (jZ k3) w2):=j.out▸D.out▸B.out▸Vx (w:=X);have HP:=mk1 R;rw[h3.out,j.out];go_enter func89,ntmps89;go_wp2_with (first|(refine aG (u:=vp) (v:=jZ k) (w':=X) rfl _ (.tmp 0) rfl ?_ ?_ ?_;rfl;exact B1)|(refine aG (u:=vi) (v:=jZ k3) (w':=w2) rfl _ (.tmp 1) rfl ?_ ?_ ?_;rfl;exact B2)|(refine alR 4 E h2 ?_)|fail)
 have z:∀W,kZ I W->_:=λW f=>Rp.at7 HP (F.2.1.below f).2.1
 refine AW.begin 23 23 ?_;refine AW.va 0 (jZ k) ?_;refine AW.ro 1 (λW f=>(z W f).1) h8 uCP (iP HP.a) ?_;refine AW.va 3 (oZ k 33) ?_;refine AW.ro 4 (λW f=>(z W f).2.1) h0 uCP (iP HP.s) ?_;refine AW.va 6 (oZ k 66) ?_;refine AW.ro 7 (λW f=>(z W f).2.2.1) h9 uCP (iP HP.c) ?_;refine AW.va 9 (oZ k 99) ?_;refine AW.ro 10 (λW f=>(z W f).2.2.2.1) h6 uCP (iP HP.d) ?_;refine AW.va 12 (oZ k 132) ?_;refine AW.ro 13 (λW f=>(z W f).2.2.2.2.1) h4 u40 i40 ?_;refine AW.va 15 (oZ k 136) ?_;refine AW.ro 16 (λW f=>(z W f).2.2.2.2.2.1) h7 u40 i40 ?_;refine AW.va 18 (oZ k 140) ?_;refine AW.ro 19 (λW f=>(z W f).2.2.2.2.2.2) h5 u40 i40 ?_;refine AW.ro 21 (λW f=>(F.2.2.1.below f).2.1) j Nb KU ?_;refine AW.ca 2 (λ_=>x.1 _) (λe w' h=>h.1) ?_;rintro e w4 ⟨he,E1,Q,rfl⟩;refine AW.ca 5 (λ_=>x.2.1 _) (λe w' h=>h.1) ?_;rintro e w5 ⟨J,E2,M,rfl⟩;refine AW.ca 8 (λ_=>x.2.2.1 _) (λe w' h=>h.1) ?_;rintro e w6 ⟨C,E3,P,rfl⟩;refine AW.ca 11 (λ_=>x.2.2.2.1 _) (λe w' h=>h.1) ?_;rintro e w7 ⟨G,E4,U,rfl⟩;refine AW.ca 14 (λ_=>x.2.2.2.2.1 _) (λe w' h=>h.1) ?_;rintro e w8 ⟨A,E5,K,rfl⟩;refine AW.ca 17 (λ_=>x.2.2.2.2.2.1 _) (λe w' h=>h.1) ?_;rintro e w9 ⟨y,E6,Y,rfl⟩;refine AW.ca 20 (λ_=>x.2.2.2.2.2.2 _) (λe w' h=>h.1) ?_;rintro e V ⟨ha,E7,S,rfl⟩;rw[<-j.out];refine AW.nx 22 (.agg #[r33 Q,r33 M,r33 P,r33 U,r32 K,r32 Y,r32 S,o,l,r,s]) ?_;have b9:=ha;have b8:=y.trans (b9.mono y.size);have b7:=A.trans (b8.mono A.size);have b6:=G.trans (b7.mono G.size);have b5:=C.trans (b6.mono C.size);have b4:=J.trans (b5.mono J.size);have s3:=he.size;have q:∀ {W:XA}{m:Nat}{v:XB}{b:Bs},I.heap.size<=W.heap.size->ElQ (W.heap.size<=·) m V v b->ElQ (I.heap.size<=·) m V v b:=λhW h=>h.mono2 λg _ L=>XH hW L
 have t5:=XH s3 J.size;have t6:=XH t5 C.size;have t7:=XH t6 G.size;have t8:=XH t7 A.size;have t9:=XH t8 y.size;have T:Hid (RgT (I.heap.size<=·) V p Q M P U K Y S):=⟨(E1.keep (Kq.of_below b4)).mono2 λg _ L=>L,q s3 (E2.keep (Kq.of_below b5)),q t5 (E3.keep (Kq.of_below b6)),q t6 (E4.keep (Kq.of_below b7)),q t7 (E5.keep (Kq.of_below b8)),q t8 (E6.keep (Kq.of_below b9)),q t9 E7⟩
 refine AW.fi (us:=[r33 Q,r33 M,r33 P,r33 U,r32 K,r32 Y,r32 S,o,l,r,s]) (Hid.mk' rfl) (by simp only[yAJ,List.all_cons,List.all_nil,i.2.1,i.2.2.1,i.2.2.2.1,i.2.2.2.2,show ∀g,(r33 g).oneCell'=true from λ_=>rfl,show ∀g,(r32 g).oneCell'=true from λ_=>rfl,yC9]) iAr (λf=>?_);obtain⟨wB,n⟩:=hE (V.setCells Z 0 [r33 Q,r33 M,r33 P,r33 U,r32 K,r32 Y,r32 S,o,l,r,s]);have r4:=F.2.2.2.below f;have KE:Hid (V.there Z 0 11/\Row wB Z [r33 Q,r33 M,r33 P,r33 U,r32 K,r32 Y,r32 S,o,l,r,s]/\kZ w wB/\RgT (w.heap.size<=·) wB p Q M P U K Y S):=by
  have kq:Kq (I.heap.size<=·) V wB:=by rw[<-n.out];exact Kq.set λg L=>oN i.1
  refine⟨r4.2.2,n.out▸r4.put rfl,n.out▸RG.below_setCells i.1.1 _ _ _ (F.1.trans (f.mono F.1.size)),(T.keep kq).mono2 λg _ L=>XH F.1.size L⟩
 rw[n.out];refine⟨KE.1,?_⟩;go_wp2_with fail
 refine XN (aF 4 (T:=66) rfl KE.2.1 rfl uAr iAr) rfl ?_;exact⟨_,rfl,KE.2.2.1,_,_,_,_,_,_,_,rfl,KE.2.2.2⟩
abbrev pqS(v:XB)(n:Nat)(a:Nat->Nat):Pq:=⟨λQ W=>SLq Q W v n a,λ_ _ _ k h=>h.keep k,λ_ _ _ m h=>h.mono2 m⟩
abbrev pqG(v:XB)(n:Nat)(G H:Nat->LB)(U:LB):Pq:=⟨λQ W=>GRq Q W v n G H U,λ_ _ _ k h=>h.keep k,λ_ _ _ m h=>h.mono2 m⟩
abbrev pqM(v:XB)(l:LB):Pq:=⟨λQ W=>SmQ Q W v l,λ_ _ _ k h=>h.keep k,λ_ _ _ m h=>h.mono2 m⟩
namespace Mp
variable {w W W':XA}{rs rs':List (Nat × List XB)}{S S':List Pq}{k r i:Nat}{c c':List XB}{L L':Bs}
def say(h:Mp w W rs S)(i:Nat)(k:SP.Only r 0 32 W W')(f:hZ W' r 0 L')(c:rs[i]? = some (r,aA L):=by rfl)(e:rs.set i (r,aA L')=rs':=by(simp only[XJ,XL])<;>rfl):Mp w W' rs' S:=by
 subst e;have b:=h.lt (key c);refine h.turn c (h.bl.trans (yB k h.bl.size b.1)) k.size (λg d j=>k.block g j d) (qN f (XC b.2 k.size))
def log(h:Mp w W rs S)(i:Nat)(k:rs[i]? = some (r,aA L):=by rfl):hZ W r 0 L:=row_holds (h.at_ i k)
def wk(h:Mp w W rs S)(i:Nat)(b:rs[i]? = some (k,c):=by rfl):∃c,Mp w W (rs.set i (k,c)) S:=⟨c,by
 obtain⟨e,d⟩:=XM.1 b;rw[<-d,List.set_getElem_self];exact h⟩
end Mp
abbrev Iv.mx(w:XA)(rs:List (Nat × List XB))(S:List Pq)(i k:Nat)(b:Bool):Iv:=⟨λW=>∃c,Mp w W (rs.set i (k,c)) S,λ_ _ d ⟨c,h⟩=>⟨c,h.grow d⟩,b⟩
abbrev Iv.mp(w:XA)(rs:List (Nat × List XB))(S:List Pq)(b:Bool):Iv:=⟨λW=>Mp w W rs S,λ_ _ k h=>h.grow k,b⟩
namespace SPA
variable {N:Nat}[NeZero N]{M:Type}
namespace Md
variable (D:Md N M)
def cancel(a b c:M):D.ad a b=D.ad a c↔b=c:=by
 constructor
 .intro h;have k:D.ad (D.ac (-1) a) (D.ad a b)=D.ad (D.ac (-1) a) (D.ad a c):=by rw[h]
  rw[<-D.assoc,<-D.assoc,D.comm _ a,D.Bu,D.zadd,D.zadd]at k;exact k
 .rintro rfl;rfl
def JE(Y W T:Nat->(Fin N))(z:(Fin N))(k:Nat->M)(n:Nat)(h:∀i,i<n->Y i*W i=1):
 D.dt (λi=>z*Y i+z*z*T i) (λi=>D.ac (W i) (k i)) n=D.dt (λi=>z+z*z*(T i*W i)) k n:=
 D.yV n λi b=>by
  have c:=h i b;rw[D.acAc,show(z*Y i+z*z*T i)*W i=z+z*z*(T i*W i) by
   grind]
def Hy(H G:M)(t d tau:(Fin N))(A B E:M):D.cm H G (t-d) tau=D.ad (D.ad A B) E↔D.cm H G t tau=D.ad (D.ad A (D.ac d H)) (D.ad B E):=by
 rw[<-D.cancel (D.ac d H)];have k:D.ad (D.ac d H) (D.cm H G (t-d) tau)=D.cm H G t tau:=by
  unfold cm;rw[<-D.assoc,<-D.adAc,show d+(t-d)=t by grind]
 have b:D.ad (D.ac d H) (D.ad (D.ad A B) E)=D.ad (D.ad A (D.ac d H)) (D.ad B E):=by ac_rfl
 rw[k,b]
def Ic(A X G:M)(mu x t w:(Fin N))(L K U:M):
 D.ad (D.ad (D.ad (D.ad A (D.ac x X)) (D.ac (-1) (D.ac mu G))) (D.ad L K)) (D.ac t (D.ac w U))=D.ad (D.ad (D.ad (D.ad A (D.ac x X)) (D.ac (-mu) G)) (D.ad L K)) (D.ac (t*w) U):=by
 rw[D.acAc,D.acAc,show(-1:(Fin N))*mu = -mu by grind]
end Md
end SPA
section
open SPA
variable {N:Nat}[NeZero N]{M:Type}
structure Rv(N:Nat) where
 v:Nat
 n:Nat
 s:Nat->Fin N
 q:Nat->Fin N
 al:Fin N
 rho:Fin N
 t1:Fin N
 t2:Fin N
 k:Fin N
 y:Fin N
 z:Fin N
 x:Fin N
 w:Fin N
namespace Rv
variable (R:Rv N)
def l(i:Nat):Fin N:=btF N R.v i
def m(i:Nat):Fin N:=btF N R.v i-1
def a0(i:Nat):Fin N:=R.l i+-R.z
def sh(i:Nat):Fin N:=R.z*pwF R.y i+R.z*R.z*pwF (ofF N 2) i
def b0(i:Nat):Fin N:=R.m i*pwF R.y i+R.sh i
def b1(i:Nat):Fin N:=R.q i*pwF R.y i
def a(i:Nat):Fin N:=R.a0 i+R.s i*R.x
def b(i:Nat):Fin N:=R.b0 i+R.b1 i*R.x
def c1:Fin N:=Md.pr R.a0 R.b1 R.n+Md.pr R.s R.b0 R.n
def c2:Fin N:=Md.pr R.s R.b1 R.n
def t:Fin N:=Md.pr R.a R.b R.n
def tau:Fin N:=R.t1*R.x+R.t2*R.x*R.x+R.z*R.z*R.k
def mu:Fin N:=R.al+R.rho*R.x
def d:Fin N:=(R.z-R.z*R.z)*Md.pr (λ_=>1) (pwF R.y) R.n-R.z*R.z*R.z*ofF N (2^R.n-1)
variable (D:Md N M) (G H U:M) (g k:Nat->M)
def pA:M:=D.ad (D.ac R.al G) (D.ad (D.dt R.l g R.n) (D.dt R.m k R.n))
def pS:M:=D.ad (D.ac R.rho G) (D.ad (D.dt R.s g R.n) (D.dt R.q k R.n))
def pV:M:=D.cm H G (ofF N R.v) R.k
def p1:M:=D.cm H G R.c1 R.t1
def p2:M:=D.cm H G R.c2 R.t2
def hh(i:Nat):M:=D.ac (pwF (ivF R.y) i) (k i)
def rg:Md.Rg (Fin N):=rgF R.v R.s R.q R.y (ivF R.y) R.z R.x
def U6:R.rg.a0=R.a0:=funext λi=>by
 show R.l i-R.z=R.l i+-R.z;grind
def U5:R.rg.b0=R.b0:=funext λi=>by
 show pwF R.y i*(R.m i+R.z)+R.z*R.z*pwF (ofF N 2) i=R.m i*pwF R.y i+(R.z*pwF R.y i+R.z*R.z*pwF (ofF N 2) i);grind
def SJ:R.rg.b1=R.b1:=funext λi=>by
 show pwF R.y i*R.q i=R.q i*pwF R.y i;grind
def e_a:R.rg.a=R.a:=funext λi=>by
 show R.rg.a0 i+_=_;rw[U6];rfl
def e_b:R.rg.b=R.b:=funext λi=>by
 show R.rg.b0 i+R.rg.b1 i*_=_;rw[U5,SJ];rfl
def J1(b:Nat->Fin N):∀n,Md.pr (λ_=>1) b n=(SPA.own N).sm b n
 | 0=>rfl
 | n+1=>by
  show Md.pr (λ_=>1) b n+1*b n=(SPA.own N).sm b n+b n;rw[J1 b n];grind
def e_d:R.rg.d R.n=R.d:=by
 unfold d;rw[J1];exact T8
def sums(d:IsP N)(e:R.y.val≠0)(hv:R.v<2^R.n):D.cm H G (R.t-R.d) R.tau=D.ad (D.ad (D.ac (R.z*R.z) (R.pV D G H)) (D.ac R.x (R.p1 D G H))) (D.ac (R.x*R.x) (R.p2 D G H)):=by
 rw[D.Hy];have h:=D.DT R.rg R.n (JQ (tP d e)) H G R.k R.t1 R.t2;have ev:R.rg.v R.n=ofF N R.v:=TZ hv;have k:R.rg.t1 R.n=R.c1:=by
  show Md.pr R.rg.a0 R.rg.b1 R.n+Md.pr R.s R.rg.b0 R.n=_;rw[U6,SJ,U5];rfl
 have c:R.rg.t2 R.n=R.c2:=by
  show Md.pr R.s R.rg.b1 R.n=_;rw[SJ];rfl
 rw[ev,k,c,e_d,e_a,e_b]at h;have b:R.t1*R.x+R.t2*(R.x*R.x)+R.z*R.z*R.k=R.tau:=by
  show _=R.t1*R.x+R.t2*R.x*R.x+R.z*R.z*R.k;grind
 rw[show R.rg.x=R.x from rfl,show R.rg.z=R.z from rfl,b]at h;exact h
def point(b:IsP N)(c:R.y.val≠0):
 D.ad (D.ad (D.ad (D.ad (R.pA D G g k) (D.ac R.x (R.pS D G g k))) (D.ac (-1) (D.ac R.mu G))) (D.ad (D.dt (λ_=>-R.z) g R.n) (D.dt R.sh (R.hh D k) R.n))) (D.ac R.t (D.ac R.w U))=D.hd R.a R.b g (R.hh D k) (D.ac R.w U) R.n:=by
 rw[D.Ic];have h:=D.Cx R.rg R.n (JQ (tP b c)) G g k U R.al R.rho R.w;have d:=D.JE (pwF R.y) (pwF (ivF R.y)) (pwF (ofF N 2)) R.z k R.n λi _=>Ec (tP b c) i
 rw[e_a,e_b]at h;rw[show D.dt R.sh (R.hh D k) R.n=_ from d];exact h
end Rv
end
section
open Go.Shelf
section
variable {P:YJ}{ops:Array Yp}{rest:List Yp}{op:Yp}{a:Act}{w w':XA}{v:XB}{Q:Exit->Act->XA->Prop}
def wpList_build(b:op.guard=none)(d:Yd)(n:Nat)(k:Array (Nat × yAe))(_:op.op=.buildSlice d n k)(e:(Yh a.eval op).run P w=.ok (.value v) w')(h:wpList P ops Q rest (a.put op.dst v) w'):wpList P ops Q (op :: rest) a w:=
 ZL b λK c=>by
  unfold Y3;rw[e];exact c _ _ h
end
variable {P:Nat}[NeZero P]
def iN:ByteArray:=⟨#[118,97,108,117,101]⟩
noncomputable def cmt (P:Nat) [NeZero P] (n m:Nat):EC.Pt P:=tot (λj=>if j=0 then .some (hpt P iN []) else gG P) 2 (λj=>if j=0 then(n:Int) else(m:Int))
def Dw(P:Nat)[NeZero P](N:Nat)(w:XA)(k b:Bs)(e:XB)(w':XA):Prop:=match rq N k,rq N b with
 | some n,some m=>I1 w (wr (cmt P n m)) e w'
 | _,_=>MH 3 e
def Nc{w:XA}{v b:XB}{d k:Bs}(T:Yd)(h:Arg w v d)(f:Arg w b k):wT (w.alloc (.cells #[v,b] T)) (some (aZ w.heap.size)) 2 (λj=>if j=0 then d else k):=λ_ =>
 ⟨w.heap.size,rfl,by rw[XP];omega,λj g=>by
  have e:=(Made.alloc w [v,b] T).range;have c:j=0\/j=1:=oM;rcases c with rfl|rfl
  .exact⟨v,e 0 _ rfl,h.below (aD _)⟩
  .exact⟨b,e 1 _ rfl,f.below (aD _)⟩⟩
def Kn{w:XA}:PartOk w nZ []:=⟨none,0,0,0,#[],rfl,rfl,XD _,dC,Ye rfl⟩
def AB{q:Fin P × Fin P}:Pair q.1 q.2 (.some q:EC.Pt P):=⟨rfl,rfl⟩
def SR(C : Fld P){n m : Nat}(hn : n < top)(hm : m < top){ns : Nat -> Nat}{xs ys : Nat -> Fin P}(h0 : ns 0 = n)(h1 : ns 1 = m)(hx0 : xs 0 = (hpt P iN []).1)(hy0 : ys 0 = (hpt P iN []).2)(hx1 : xs 1 = gX P)(hy1 : ys 1 = gY P):
    uE (ptP (iW ns xs ys 2 257)).1 (ptP (iW ns xs ys 2 257)).2 = wr (cmt P n m) := by
  have hJ := Ch C (N := 2) (ns := ns) (xs := xs) (ys := ys) (p := λj => if j = 0 then(.some (hpt P iN []) : EC.Pt P) else gG P)
    (fun j hj => by have : j = 0 ∨ j = 1 := oM
                    rcases this with rfl | rfl
                    · rw [h0]; exact hn
                    · rw [h1]; exact hm)
    (fun j hj => by have : j = 0 ∨ j = 1 := oM
                    rcases this with rfl | rfl
                    · rw [hx0, hy0]; exact AB
                    · rw [hx1, hy1]; exact AB (q:=(gX P, gY P)))
    (fun j hj => by have : j = 0 ∨ j = 1 := oM
                    rcases this with rfl | rfl
                    · exact BE C
                    · exact CZ C)
  have e1 := wO C (hJ.pair C) hJ.2;have e2 : tot (λj => if j = 0 then(.some (hpt P iN []) : EC.Pt P) else gG P) 2 (λj => (ns j : Int)) = cmt P n m := eJ 2 λj hj => by
    have : j = 0 \/ j = 1 := oM;rcases this with rfl | rfl
    · rw [h0]; rfl
    · rw [h1]; rfl
  rw [e2]at e1;exact e1
def MK{N:Nat}(C:Fld P)(hG:Gap 4624529908474429119 4994812053365940164 1 N)(W:N<=top)(v0 v1:XB)(p a:Bs)(w:XA)(h0:Arg w v0 p)(h1:Arg w v1 a):
 cZ 34 #[v0,v1] w (rZ w λe w'=>Dw P N w p a e w'):=by
 have hA:=Nc 23 h0 h1;obtain⟨p0,n0,c0,rfl,-,-⟩:=h0;obtain⟨p1,n1,c1,rfl,-,-⟩:=h1;have V:=Qp hG 2 2 dC _ _ _ hA;go_enter func34,ntmps34;go_wp2_with fail
 refine V.mono ?_;rintro e o ⟨v,rfl,Q,⟨k,hc,h4,rfl,A⟩|⟨⟨j,I,b⟩,rfl⟩⟩
 .obtain⟨n,hn,ha⟩:=A 0 dC;obtain⟨m,hm,h9⟩:=A 1 dC;have X:=mk1 ((aD (w:=w) _).trans (Q.mono (by rw[XP];omega)));have U:=mk3 h4 ha h9;have G:Hid (rq N p=some n/\rq N a=some m):=⟨hn,hm⟩
  go_wp2_with fail
  refine(xY (k:=iN) (a:=none) (m:=0) (c:=0) (w:=o)).mono ?_;rintro e w2 ⟨v,rfl,rfl,rfl⟩;have Y:=AN C iN (a:=none) (m:=0) (c:=0) (b:=[]) (w:=o) dC (Kn (w:=o));obtain⟨q,hq⟩:=hE (hpt P iN []);rw[hq.out]at Y;obtain⟨x,y⟩:=q;obtain⟨gx,S⟩:=hE (gX P);obtain⟨t,J⟩:=hE (gY P);have E:=Fc C;rw[S.out,J.out]at E;obtain⟨v4,H⟩:=hE (pv x y);obtain⟨v5,M⟩:=hE (pv gx t);replace Y:cZ 67 #[.func (.func 117) #[] #[jZ o.heap.size,jZ (o.heap.size+1)]] ((o.alloc (.cells #[.string iN] 9)).alloc (.cells #[nZ] 23)) (rZ o λe w'=>e=v4):=by rw[<-H.out];exact Y
  rw[M.out]at E;go_wp2_with fail
  refine Y.mono ?_;rintro e w3 ⟨v,rfl,r,rfl⟩;have L:=mk1 (X.out.trans (r.mono X.out.size));have d:=mk3 (XC U.out.1 r.size) (RG.range_below U.out.2.1 r U.out.1) (RG.range_below U.out.2.2 r U.out.1);go_wp2_with fail
  refine(E _).mono ?_;rintro e D ⟨v,rfl,u,rfl⟩;have O:=mk1 (L.out.trans (u.mono L.out.size));have f:=mk3 (XC d.out.1 u.size) (RG.range_below d.out.2.1 u d.out.1) (RG.range_below d.out.2.2 u d.out.1);obtain⟨l,R⟩:=hE (D.alloc (.cells ((ws x++ws y)++(ws gx++ws t)).toArray 131));go_wp2_with (refine wpList_build (v:=sZ D.heap.size 2 2) (w':=l) rfl 138 2 _ rfl ?_ ?_;rw[<-R.out,<-H.out,<-M.out];kernel_rfl;refine Hid.out ?_)
  have F:Hid (kZ w l/\k<l.heap.size/\D.heap.size<l.heap.size/\(∀i,i<2->l.rangeAt k (4*i) (wn (if i=0 then n else m)))/\∀i,i<2->l.rangeAt D.heap.size (8*i) (ws (if i=0 then x else gx)++ws (if i=0 then y else t))):=by
   have c:=Made.alloc D ((ws x++ws y)++(ws gx++ws t)) 131;have T:=R.out;rw[T]at c;refine⟨O.out.trans (c.bel.mono O.out.size),XC f.out.1 c.bel.size,c.lt,λi K=>?_,λi K=>?_⟩
   .have:i=0\/i=1:=oM;rcases this with rfl|rfl
    .exact RG.range_below f.out.2.1 c.bel f.out.1
    .exact RG.range_below f.out.2.2 c.bel f.out.1
   .have:i=0\/i=1:=oM;rcases this with rfl|rfl
    .intro j v I;have B:=(XM.1 I).1;have:=c.range j v (by rw[XY (show j<(ws x++ws y).length from B)];exact I);exact this
    .intro j v I;have:=c.range (8+j) v (by rw[XW (show(ws x++ws y).length<=8+j from Nat.le_add_right 8 j),show 8+j-(ws x++ws y).length=j from ZE 8 j];exact I);rw[XI]at this;exact this
  show wpList _ _ _ _ _ _;have V:cZ 66 #[sZ k 2 2,sZ D.heap.size 2 2] l (rZ l λe w'=>e=pv (ptP (iW (λi=>if i=0 then n else m) (λi=>if i=0 then x else gx) (λi=>if i=0 then y else t) 2 257)).1 (ptP (iW (λi=>if i=0 then n else m) (λi=>if i=0 then x else gx) (λi=>if i=0 then y else t) 2 257)).2):=by
   refine(Jo C 2 dC (λi=>if i=0 then n else m) (λi=>if i=0 then x else gx) (λi=>if i=0 then y else t) (λi K=>?_) k D.heap.size l F.out.2.1 F.out.2.2.1 F.out.2.2.2.1 F.out.2.2.2.2).mono ?_
   .have:i=0\/i=1:=oM;rcases this with rfl|rfl
    .exact xO W G.out.1
    .exact xO W G.out.2
   .rintro e w' ⟨v,rfl,c,s,rfl,rfl⟩;exact⟨_,rfl,c,rfl⟩
  have hW:=SR C (n:=n) (m:=m) (xO W G.out.1) (xO W G.out.2) (ns:=λi=>if i=0 then n else m) (xs:=λi=>if i=0 then x else gx) (ys:=λi=>if i=0 then y else t) rfl rfl (by rw[hq.out];rfl) (by rw[hq.out];rfl) (by rw[S.out];rfl) (by rw[J.out];rfl);generalize ptP (iW (λi=>if i=0 then n else m) (λi=>if i=0 then x else gx) (λi=>if i=0 then y else t) 2 257)=z at V hW;have T:∀w,cZ 70 #[pv z.1 z.2] w (rZ w λe w'=>nC w (uE z.1 z.2) e w'):=wN C;rw[hW]at T;go_wp2_with fail
  refine V.mono ?_;rintro e w6 ⟨v,rfl,h6,rfl⟩;have B:=mk1 (F.out.1.trans (h6.mono F.out.1.size));go_wp2_with fail
  refine(T _).mono ?_;rintro e w7 ⟨v,rfl,h7,g,c,rfl,h8,h5,K,h2⟩;have h3:=mk1 (B.out.trans (h7.mono B.out.size));have Z:Hid (Dw P N w p a (.tuple #[sZ g 33 c,iZ 0]) w7):=by
   show Dw P N w p a (.tuple #[sZ g 33 c,iZ 0]) w7;unfold Dw;rw[G.out.1,G.out.2];exact⟨g,c,rfl,h8,XH B.out.size h5,K,h2⟩
  go_wp2
  go_ret2
  exact⟨_,rfl,h3.out,Z.out⟩
 .have X:=mk1 ((aD (w:=w) _).trans (Q.mono (by rw[XP];omega)));have Z:Hid (Dw P N w p a (.tuple #[nZ,iZ 3]) o):=by
   show Dw P N w p a (.tuple #[nZ,iZ 3]) o;unfold Dw;have:j=0\/j=1:=oM;rcases this with rfl|rfl
   .have b:rq N p=none:=b;rw[b];rfl
   .have b:rq N a=none:=b;rw[b];cases rq N p<;>rfl
  go_wp2
  go_ret2
  exact⟨_,rfl,X.out,Z.out⟩
end
def kQ(O:Ord N){n:Nat}(k:n<N):rq N (bx n)=some n:=by
 have hv:=EZ (XC k O.le);unfold rq;rw[hv,yEX ⟨cQ n,k⟩]
def Ez(W:XA)(v:XB)(T:Bs):Prop:=∃g c,v=sZ g 33 c/\33<=c/\g<W.heap.size/\hZ W g 0 T
def Ez.grow{W W':XA}{v:XB}{T:Bs}(h:Ez W v T)(b:kZ W W'):Ez W' v T:=by
 obtain⟨g,c,e,f,k,d⟩:=h;exact⟨g,c,e,f,XC k b.size,Holds.below d b k⟩
def Et(W:XA)(v:XB)(T:Bs):Prop:=∃u,v=.tuple #[u,iZ 0]/\Ez W u T
section
variable (w:XA) (k2 k3 k4 a b:Nat) (T:Bs)
def RC1:Nat->XB->XA->Prop
 | 0,v,_=>v=nv a
 | 1,v,W=>El 32 W v (bx a)
 | 2,v,_=>v=nv b
 | 3,v,W=>El 32 W v (bx b)
 | 4,v,W=>Et W v T
 | 5,v,W=>Et W v T
 | 6,v,W=>Ez W v T
 | 7,v,_=>v=iZ 0
 | 8,v,W=>Ez W v T
 | 9,v,_=>v=iZ 0
 | _,_,_=>True
def GC1:Gw:=⟨RC1 a b T,λW=>Kp w W [(k4,z33),(k3,wn b),(k2,wn a)],λi v W W' k h=>by
 match i,h with
 | 0,h=>exact h
 | 1,h=>exact El.below h k (XD _)
 | 2,h=>exact h
 | 3,h=>exact El.below h k (XD _)
 | 4,h=>obtain⟨u,c,d⟩:=h;exact⟨u,c,d.grow k⟩
 | 5,h=>obtain⟨u,c,d⟩:=h;exact⟨u,c,d.grow k⟩
 | 6,h=>exact Ez.grow h k
 | 7,h=>exact h
 | 8,h=>exact Ez.grow h k
 | 9,h=>exact h
 | _+10,_=>trivial,λW W' k h=>h.grow k⟩
end
def lW(C:Fld P)(O:Ord N){a b:Nat}(R:a<N)(L:b<N):Gives 14 #[nv a,nv b] (pvl (wr (cmt P a b))):=by
 intro w;obtain⟨T,D⟩:=hE (wr (cmt P a b));have I:T.size=33:=by rw[<-D.out];exact aL _
 have s:=mk3 O R L;have X:Hid (∀(v0 v1:XB) (W:XA),El 32 W v0 (bx a)->El 32 W v1 (bx b)->YN prog 34 #[v0,v1] W (rZ W λe w'=>Et w' e T)):=λv0 v1 W h0 Z=>by
  apply(MK (N:=N) C O.gap O.le v0 v1 (bx a) (bx b) W h0.arg Z.arg).mono;rintro e W' ⟨u,rfl,k,hR⟩;unfold Dw at hR;rw[kQ O R,kQ O L]at hR;obtain⟨g,c,rfl,o,z,q,f⟩:=hR;rw[D.out]at f;exact⟨_,rfl,k,_,rfl,g,c,rfl,o,q,f⟩
 rw[D.out];obtain⟨va,r⟩:=hE (nv a);obtain⟨vb,p⟩:=hE (nv b);have S:=boxS a (w:=w);obtain⟨i,m⟩:=hE (w.alloc (.cells (wn a).toArray 44));have J:=boxS b (w:=i);obtain⟨j,l⟩:=hE (i.alloc (.cells (wn b).toArray 44));obtain⟨n,f⟩:=hE (j.alloc (.cells z33.toArray 51));rw[r.out,m.out]at S;rw[p.out,l.out]at J;rw[r.out,p.out];have H:i.heap.size=w.heap.size+1:=by rw[<-m.out,XP]
 have M:j.heap.size=w.heap.size+2:=by rw[<-l.out,XP,H]
 rw[H]at J;have y:Hid (Kp w n [(w.heap.size+2,z33),(w.heap.size+1,wn b),(w.heap.size,wn a)]):=by
  have o:Row i w.heap.size (wn a):=by rw[<-m.out];exact row_new w _ _
  have z:Row j (w.heap.size+1) (wn b):=by rw[<-l.out,<-H];exact row_new i _ _
  have q:Row n (w.heap.size+2) z33:=by rw[<-f.out,<-M];exact row_new j _ _
  have b1:kZ w i:=by rw[<-m.out];exact aD _
  have t:kZ i j:=by rw[<-l.out];exact aD _
  have k:kZ j n:=by rw[<-f.out];exact aD _
  refine⟨(b1.trans (t.mono oM)).trans (k.mono oM),λx hx=>?_⟩;simp only[Y6,Yf,or_false]at hx;rcases hx with rfl|rfl|rfl
  .exact q
  .exact z.below k
  .exact(o.below t).below k
 have BA:=Hid.mk' S;have BB:=Hid.mk' J;have E2:=Hid.mk' M;go_enter func14,ntmps14;go_wp2_with (first|(refine aG (u:=va) (v:=jZ w.heap.size) (w':=i) rfl 44 (.tmp 0) rfl ?_ ?_ ?_;rfl;exact BA)|(refine aG (u:=vb) (v:=jZ (w.heap.size+1)) (w':=j) rfl 44 (.tmp 1) rfl ?_ ?_ ?_;rfl;exact BB)|(refine bH (v:=jZ (w.heap.size+2)) (w:=j) (w':=n) rfl (.alloc 51) rfl ?_ ?_;(rw[<-f.out,<-E2.out];kernel_rfl))|fail)
 refine(GC1 w w.heap.size (w.heap.size+1) (w.heap.size+2) a b T).draws kR kR ⟨
  jD 2 rfl u40 λx W k=>⟨w.heap.size,0,wn a,k.o 2 kR,(k.b.at 2 rfl).2.1,i40,rfl⟩,
  fX λx W k=>⟨[(8,nv a)],10,#[nv a],⟨k.n 0 8 kR kR,yEZ⟩,kR,by
   apply(nP s.1 s.2.1 W).mono;rintro e W' ⟨u,rfl,q,o,rfl⟩;exact⟨_,rfl,o.bel,El.of_made o (cQ a)⟩⟩,
  jD 3 rfl u40 λx W k=>⟨w.heap.size+1,0,wn b,k.o 3 kR,(k.b.at 1 rfl).2.1,i40,rfl⟩,
  fX λx W k=>⟨[(10,nv b)],10,#[nv b],⟨k.n 2 10 kR kR,yEZ⟩,kR,by
   apply(nP s.1 s.2.2 W).mono;rintro e W' ⟨u,rfl,q,o,rfl⟩;exact⟨_,rfl,o.bel,El.of_made o (cQ b)⟩⟩,
  fX λx W k=>⟨[(9,x.eval (.tmp 9)),(11,x.eval (.tmp 11))],34,#[x.eval (.tmp 9),x.eval (.tmp 11)],⟨rfl,rfl,yEZ⟩,kR,X _ _ W (k.n 1 9 kR kR) (k.n 3 11 kR kR)⟩,
  bJ λx W k=>⟨[(12,x.eval (.tmp 12))],x.eval (.tmp 12),W,⟨rfl,yEZ⟩,kR,XR _ _,k.n 4 12 kR kR⟩,
  bJ λx W k=>by
   obtain⟨u,o,q⟩:=show Et W (x.eval (.tmp 7)) T from k.n 5 7 kR kR
   exact⟨[(7,.tuple #[u,iZ 0])],u,W,⟨o,yEZ⟩,kR,XR _ _,q⟩,
  bJ λx W k=>by
   obtain⟨u,o,q⟩:=show Et W (x.eval (.tmp 7)) T from k.n 5 7 kR kR
   exact⟨[(7,.tuple #[u,iZ 0])],iZ 0,W,⟨o,yEZ⟩,kR,XR _ _,rfl⟩,
  bJ λx W k=>⟨[(13,x.eval (.tmp 13))],x.eval (.tmp 13),W,⟨rfl,yEZ⟩,kR,XR _ _,k.n 6 13 kR kR⟩,
  bJ λx W k=>⟨[(14,iZ 0)],iZ 0,W,⟨k.n 7 14 kR kR,yEZ⟩,kR,XR _ _,rfl⟩,yEZ⟩ y.drew ?_
 intro V K E F;obtain⟨g,cg,A,-,k3,Y⟩:=show Ez K (V 8) T from E 8 (Nat.lt_of_succ_le (Nat.le_of_ble_eq_true kR))
 have o:=F;have z:=mk3 (o.at 0 rfl) o.bl (qN Y k3);dsimp only[bW,YT];rw[A];have U:=Hb g cg;obtain⟨n,f⟩:=hE (K.setCells (w.heap.size+2) 0 (aA T));have k:=aB I;have y:Hid (Row n (w.heap.size+2) (aA T)/\kZ w n):=by rw[<-f.out];exact⟨z.1.put (by rw[k];rfl),RG.below_setCells oM _ _ _ z.2.1⟩
 obtain⟨vt,q⟩:=hE (X9 (aA T).toArray);obtain⟨d,B,G⟩:=XE.1 uCP;have Q:=mk2 B G;have t:Hid ((prog.info? 51).map (·.size)=some (aA T).length/\K.there (w.heap.size+2) 0 (aA T).toArray.size/\(prog.info? 51).map (·.size)=some (aA T).toArray.size):=by
  have e:(aA T).toArray.size=33:=by rw[YF];exact k
  refine⟨by rw[k];exact cV,by rw[e];exact z.1.2.2,by rw[e];exact cV⟩
 go_wp2_with (first|(refine YI rfl 51 _ rfl g 0 ?_ (aA T) d ?_ ?_ ?_ ?_ ?_;rfl;exact z.2.2.2.1;exact Q.1;exact Q.2;exact t.1;rw[q.out])|(refine Yk rfl 51 _ _ rfl (w.heap.size+2) 0 (aA T).toArray ?_ ?_ ?_ ?_ ?_ ?_;rfl;exact q.symm;exact t.2.1;exact t.2.2;exact bN;rw[show(aA T).toArray.toList=aA T from rfl,f.out])|fail)
 refine XN (aF 4 rfl y.1 rfl uCP t.1) rfl ?_;exact⟨_,rfl,y.2,rfl⟩
section
open Go.Shelf
attribute [local go_sem] yBQ
def chv(b k c i:Nat):XB:=qZ b (k+c*i) c c
def Lj{row:Option Nat}{w w':XA}(h:kZ w w'):w.grownBy w' row:=⟨h.os,h.tape,h.output,h.size,λk b _=>h.block k b⟩
def sl3{b k n cap x y:Nat}{w:XA}(g:x<y)(i:y<=cap):(Zy 23 (qZ b k n cap) (some (iZ x)) (some (iZ y)) (some (iZ y))).run prog w=.ok (qZ b (k+x) (y-x) (y-x)) w:=by
 have e:¬y=x:=oM;have d:(x:Int)<=y:=oM;have c:(y:Int)<=cap:=oM;have f:x<=y:=oM;go_simp
def OP(k b c m n cap g d:Nat)(w:XA)(hc:0<c)(H:n=c*m)(I:n<=cap)(C:n<=1073741824)(F:w.cell? ⟨g,0,none⟩=some (qZ k b n cap))(a:w.cell? ⟨d,0,none⟩=some (iZ c))(T:g<w.heap.size)(D:d<w.heap.size)(S:Nat):
 SeqStopsK yCJ S prog 158 #[jZ g,jZ d] (λi:Nat=>#[chv k b c i]) (Below w.heap.size) (λxs=>xs=YA m) (λ_=>True) m w:=by
 intro l J V W M U P N Q;have E:Hid (n=c*m):=H;clear H;refine callsIn_of_wp func158 rfl trivial ?_ rfl;simp only[ntmps158,YF,Yx,Zz,YT,yDe,yBV,yBU,yCn,yB5,Z1,ZX]
 gi_wp2
 gi_loopw [4] (λp wr=>∃i:Nat,i<=m/\p=iZ ((c*i:Nat):Int)/\J (YA i) wr/\kZ w wr/\W.heap.size<=wr.heap.size) (λp wr=>n-(intOf p).toNat)
 case atStart =>
  exact⟨0,Zl _,by rw[Nat.mul_zero];rfl,Q,M,XD _⟩
 case round =>
  obtain⟨i,X,rfl,s,v,B⟩:=hrel;have c1:wr.cell? ⟨g,0,none⟩=some (qZ k b n cap):=(X4 (v.block g T)).trans F;have c2:wr.cell? ⟨d,0,none⟩=some (iZ c):=(X4 (v.block d D)).trans a;by_cases L:i=m
  .subst L;have f:¬((c*i:Nat):Int)<(n:Int):=by rw[E.out];omega
   gi_wp2
   go_end0
   exact⟨⟨_,rfl⟩,.inl s⟩
  .obtain⟨x,hx⟩:=yH (c*i);have O:x+c<=n:=by
    have:=yAY c (show i+1<=m by omega);rw[yA1,hx.out,<-E.out]at this;omega
   have z:(x:Int)<(n:Int):=oM;rw[hx.out]
   gi_wp2_with fail
   refine wpIn_wide.2 ?_;have j:(Zy 23 (qZ k b n cap) (some (iZ x)) none none).run prog wr.drew=.ok (qZ k (b+x) (n-x) (cap-x)) wr.drew:=by
    have F:¬(x:Int)<0:=oM;have a:(x:Int)<=n:=oM;have o:(n:Int)<=cap:=oM;have f:¬cap=x:=oM;go_simp
   have o:wr.drew.cell? ⟨g,0,none⟩=some (qZ k b n cap):=c1;have f:wr.drew.cell? ⟨d,0,none⟩=some (iZ c):=c2;have M:min (c:Int) (n-x:Nat)=c:=oM
   go_region
   rename_i K ha
   refine ha _ _ ?_;clear ha j o f z;obtain⟨Y,tmps,u,G,A,hR⟩:=N (YA i) i wr.drew (U _ wr _ none s (Lj ((XR _ wr).drew) (row:=none)) (λ_ e=>by cases e)) (by rw[ZZ];omega);have o:wr.drew.cell? ⟨g,0,none⟩=some (qZ k b n cap):=c1;have f:wr.drew.cell? ⟨d,0,none⟩=some (iZ c):=c2;have j:∀w:XA,(Zy 23 (qZ k b n cap) (some (iZ x)) (some (iZ ((x+c:Nat):Int))) (some (iZ ((x+c:Nat):Int)))).run prog w=.ok (qZ k (b+x) c c) w:=λw=>by
    have:=sl3 (b:=k) (k:=b) (n:=n) (cap:=cap) (x:=x) (y:=(x+c)) oM oM (w:=w);rwa[show x+c-x=c by omega]at this
   unfold chv at A;rw[hx.out]at A
   gi_wp2_with fail
   clear A;refine⟨λh=>(by cases h),hR.mono ?_⟩;clear hR j o f c1;have r:kZ w wr.drew:=v.drew;rintro e R (⟨rfl,y,q⟩|⟨rfl,t⟩)
   .have Z:R.cell? ⟨d,0,none⟩=some (iZ c):=(X4 ((r.trans q).block d D)).trans a
    gi_wp2_with fail
    refine⟨⟨i+1,oM,?_,?_,r.trans q,XH B q.size⟩,?_⟩
    .rw[yA1,hx.out,Z5];rfl
    .rw[yAT];exact y
    .simp[intOf];omega
   .gi_wp2_with fail
    refine XN (results_none rfl _ _ _) rfl ?_;exact⟨⟨_,rfl⟩,.inr ⟨_,trivial,t⟩⟩
end
section
open Go.Shelf
attribute [local go_sem] yBQ
def CB{k n:Nat}{T:Yd}{v:XB}{xs:List XB}:Own (λ(_:Unit) W=>W.ownsRow k T 1 v n xs):=λs A B row c f e=>by
 refine c.kept f ?_;rcases c.2 with⟨rfl,_⟩|⟨g,cap,cur,rfl,_,b,_⟩
 .exact .inl rfl
 .refine .inr λe'=>?_
  obtain⟨o,ho,d⟩:=e g (by simpa[Zh]using e'.symm);rw[b]at ho;cases ho;cases d
def kS{W:XA}{b:Nat}{T U:Yd}{v:XB}{n k:Nat}{xs:List XB}(h:W.ownsRow b T 1 v n xs){o:Obj}(d:W.heap[k]? = some o)(e:∀cs,o≠.cells cs T (0,0)):v.ownBlock=none\/v.ownBlock≠some k:=by
 rcases h.2 with⟨rfl,_⟩|⟨g,cap,cur,rfl,_,c,_⟩
 .exact .inl rfl
 .refine .inr λe'=>?_
  have:g=k:=by simpa[Zh]using e'
  subst this;rw[c]at d;cases d;exact e cur rfl
def KI{W W':XA}{b:Nat}{T:Yd}{v:XB}{n:Nat}{xs:List XB}(h:W.ownsRow b T 1 v n xs)(f:W.grownBy W' v.ownBlock):KeepsOthers W W':=by
 refine⟨f.size,λk o c ho=>?_⟩;rw[f.block k (X5.1 c).1 ?_]
 .exact c
 .rcases h.2 with⟨rfl,_⟩|⟨g,cap,cur,rfl,_,d,_⟩
  .simp[Zh]
  .intro e;have:k=g:=by simpa[Zh]using e
   subst this;rw[d]at c;cases c;cases ho
def Box(T U:Yd)(k Bs:Nat)(xs:List XB)(W:XA):Prop:=∃v,W.heap[Bs]? = some (.cells #[v] U (0,0))/\W.ownsRow k T 1 v xs.length xs/\(v=nZ↔xs=[])
def OZ{T U:Yd}{k Bs:Nat}{xs:List XB}:Own (λ(_:Unit) W=>Box T U k Bs xs W):=λs A B row f d c=>by
 obtain⟨v,b,i,j⟩:=f;refine⟨v,?_,CB () A B row i d c,j⟩;rw[d.block Bs (X5.1 b).1 ?_]
 .exact b
 .intro e;obtain⟨o,ho,g⟩:=c Bs e.symm;rw[b]at ho;cases ho;cases g
def OY{W:XA}{B:Nat}{v:XB}{t:Yd}(b:XB)(h:W.heap[B]? = some (.cells #[v] t (0,0))):(W.setCell (aZ B) b).heap[B]? = some (.cells #[b] t (0,0)):=by
 obtain⟨k,c⟩:=X5.1 h;show(W.heap.modify B _)[B]? = _;rw[X8 (by rw[Array.size_modify];exact k),Array.getElem_modify_self,c];rfl
def IR(W:XA)(b:Nat)(v:XB):W.grownBy (W.setCell (aZ b) v) (some b):=
 ⟨rfl,rfl,rfl,(yCk W _ v).size,λk _ c=>Below.heap_setCell _ _ _ k (λe=>c (by rw[e]))⟩
def iBy:(prog.info? 23).map (λi=>(i.zero,i.size,i.bytes))=some (some nZ,1,24):=kR
def uBB:prog.underlying 27=some (.slice 23):=kR
def Dl(g:Nat->Y0)(c:Nat)(gf:Nat)(eg:∀args w,(callFunc gf args).run prog w=.ok (.enter gf args) w)(lb:Array XB)(N:Nat)(hN:N<=1048576)(w:XA)
 (L:∀n,SeqStopsK yCJ n prog gf lb (λi:Nat=>#[.slice (some (g i)) c c]) (Below w.heap.size) (λxs=>xs=YA N) (λ_=>True) N w) :
 cZ 157 #[nZ,.func (.func gf) #[] lb] w (rZ w λe w'=>w'.ownsRow w.heap.size 23 1 e N ((YA N).map (λi=>yAA (some (g i)) c c))/\(e=nZ↔N=0)):=by
 obtain⟨i0,hi,S,h6,Z⟩:=info_parts iBy;refine(callsIn_wide (n:=5)).1 ?_;refine callsIn_of_wp_marks func157 rfl trivial ?_ rfl;simp only[ntmps157,YF,Yx,Zz,YT,yDe,yBV,yBU,yCn,yB5,Z1,ZX]
 gi_wp2
 obtain⟨I,q⟩:∃I,I=w.alloc (.cells #[nZ] 27):=⟨_,rfl⟩
 have hb:I.heap.size=w.heap.size+1:=by rw[q,XP]
 have T:I.heap[w.heap.size]? = some (.cells #[nZ] 27 (0,0)):=by rw[q];exact World.alloc_heap_new w _
 have O:kZ w I:=by rw[q];exact(XR _ w).alloc (XD _) _
 rw[<-q];clear q;refine wpIn_rangeFunc_ownH (α:=Nat) rfl dC (gf:=gf) (lb:=lb) rfl trivial eg (L 4) belowK_t (belowK_b oM) O (λ_=>rfl)
  (λb W=>Box 23 27 w.heap.size w.heap.size (b.map (λi=>yAA (some (g i)) c c)) W/\kZ w W)
  (λc b W=>False)
  (OwnFrom.and (Own.from (show Own (λ(b:List Nat) W=>Box 23 27 w.heap.size w.heap.size (b.map (λi=>yAA (some (g i)) c c)) W) from λs A B row d f H=>OZ (T:=23) (U:=27) (k:=w.heap.size) (Bs:=w.heap.size) (xs:=(s.map (λi=>yAA (some (g i)) c c))) () A B row d f H) _) (ownFrom_below (XD _) oM))
  (λc=>λs A B row d f H=>d.elim)
  ⟨⟨_,T,⟨rfl,.inl ⟨rfl,rfl⟩⟩,by simp⟩,O⟩
  (λx a' W=>a' = { tmps:=#[nZ,.func (.func gf) #[] lb,jZ w.heap.size,Zs,nZ,.slice (some (g x)) c c,.func (.func gf) #[] lb,.slice (some (g x)) c c,Zs,Zs,Zs,Zs,Zs],defers:=[] })
  (λx a'=>λs A B row d f H=>d) ?assign ?body ?done ?stop
 case assign =>
  intro l b x W K d G
  gi_wp2
  exact G _ _ (KeepsFrom.refl _ _) (XR _ _) d rfl
 case body =>
  rintro l b x a' W hl ⟨r,H⟩ ⟨⟨v,hv,j,A⟩,K⟩ rfl h9;have hc:W.cell? ⟨w.heap.size,0,none⟩=some v:=by simp[YZ,hv]
  have h5:W.frozen? ⟨w.heap.size,0,none⟩=false:=by simp[Zk,hv]
  have C:w.heap.size<W.heap.size:=(X5.1 hv).1;have o:(b.map (λi=>yAA (some (g i)) c c)).length=b.length:=XZ _;have d:(W.alloc (.cells #[.slice (some (g x)) c c] 23)).ownsRow w.heap.size 23 1 v (b.map (λi=>yAA (some (g i)) c c)).length (b.map (λi=>yAA (some (g i)) c c)):=j.alloc _;have E:(W.alloc (.cells #[.slice (some (g x)) c c] 23)).heap[w.heap.size]? = some (.cells #[v] 27 (0,0)):=(Below.heap_alloc _ _ _ C).trans hv;have h4:=kS (U:=0) d E (λcs e=>by cases e)
  gi_wp2_with (gi_at_builtin;refine Hid.out ?_)
  show wpListIn _ _ _ _ _ _ _ _
  (refine wpListIn_append_own _ rfl _ _ 27 rfl w.heap.size 23 i0 nZ 1 24 uBB hi S h6 Z rfl dC v _ _ rfl d (aZ W.heap.size) 1 1 [.slice (some (g x)) c c] rfl rfl (cell_one_new _ _ _) (λu hu=>by rw[List.mem_singleton.1 hu];rfl) (by rw[o];exact XH (show b.length+1<=1048577 by omega) dC) (by rw[o];omega) (by simp;omega) ?_;intro v' a m t R)
  have Y:(some w.heap.size:Option Nat)≠v.ownBlock:=by
   rcases h4 with e|e
   .rw[e];simp
   .exact λe'=>e e'.symm
  have y:a.heap[w.heap.size]? = some (.cells #[v] 27 (0,0)):=(t.block _ (by rw[XP];omega) Y).trans E;have ha:a.cell? ⟨w.heap.size,0,none⟩=some v:=by simp[YZ,y]
  have h8:a.frozen? ⟨w.heap.size,0,none⟩=false:=by simp[Zk,y]
  have X:KeepsOthers W a:=(yEc W _).trans (KI d t);have J:Below w.heap.size W a:=((XR _ W).alloc (yAg C) _).grown t (by rw[XP];omega) (λk e=>(d.lt k e).1);obtain⟨z,f,p,rfl,Q,h7,H⟩:∃z f p,v'=sZ z ((b.map (λi=>yAA (some (g i)) c c)).length+1) f/\w.heap.size<=z/\a.heap[z]? = some (.cells p 23 (0,0))/\True:=by
   rcases m.2 with⟨_,M⟩|⟨z,f,p,F,P,V,_⟩
   .exact absurd M oM
   .exact⟨z,f,p,F,P,V,yEZ⟩
  clear t hc h5 hv E j d
  gi_wp2
  have M:=IR a w.heap.size (sZ z (b.length+1) f);have V:=OY (sZ z (b.length+1) f) y;rw[o]at m;have F:=m.kept M (kS (U:=0) m y (λcs e=>by cases e));have P:Below w.heap.size W (a.setCell (aZ w.heap.size) (sZ z (b.length+1) f)):=J.grown M (XH K.size J.size) (λk e=>by cases e;exact XD _);refine⟨(X.trans (yCk a _ _)).from _,P,⟨_,V,?_,?_⟩,K.trans P⟩
  .rw[List.map_append,XK,o];exact F
  .simp
 case done =>
  rintro D ys W f rfl ⟨⟨v,hv,j,A⟩,K⟩ G;have hc:W.cell? ⟨w.heap.size,0,none⟩=some v:=by simp[YZ,hv]
  gi_wp2
  refine⟨by simp,.inl ⟨_,_,rfl,run_takeDeferred G,?_⟩⟩;have d:=grownBy_putObj' W D (.deferred none);rw[XZ,ZZ]at j;refine⟨_,results_tmp rfl _ _ _,v,rfl,K.grown d K.size (λk e=>by cases e;omega),j.kept d (kS (U:=0) j G (λcs e=>by cases e)),?_⟩;rw[A];simp
 case stop =>
  rintro D c b W f d j G;exact j.elim
def IF{g:Nat->Y0}{c gf N:Nat}{lb:Array XB}{w:XA}(l:∀args w,(callFunc gf args).run prog w=.ok (.enter gf args) w)(f:N<=1048576)(k:∀n,SeqStopsK yCJ n prog gf lb (λi:Nat=>#[.slice (some (g i)) c c]) (Below w.heap.size) (λxs=>xs=YA N) (λ_=>True) N w):
 cZ 104 #[.func (.func gf) #[] lb] w (rZ w λe w'=>w'.ownsRow w.heap.size 23 1 e N ((YA N).map (λi=>yAA (some (g i)) c c))/\(e=nZ↔N=0)):=by
 go_enter func104,ntmps104;go_wp2_with fail
 apply(Dl g c gf l lb N f w k).mono;rintro e m ⟨v,rfl,d,b,j⟩;go_wp2_with fail
 go_ret;exact⟨_,rfl,d,b,j⟩
def LU{c m n cap:Nat}(f g:Nat)(w:XA)(p:0<c)(q:n=c*m)(r:m<=1024)(d:n<=cap)(b:n<=1073741824)(k:Nat)(j:k+1<w.heap.size)(l:w.cell? ⟨k,0,none⟩=some (qZ f g n cap))(o:w.cell? ⟨k+1,0,none⟩=some (iZ c)):
 cZ 104 #[.func (.func 158) #[] #[jZ k,jZ (k+1)]] w (rZ w λe w'=>w'.ownsRow w.heap.size 23 1 e m ((YA m).map (chv f g c))/\(e=nZ↔m=0)):=
 IF (enters_of func158 kR rfl) oM (OP f g c m n cap k (k+1) w p q d b l o oM j)
def LV{c:Nat}(b k n cap:Nat)(d:0<c)(w:XA):cZ 105 #[qZ b k n cap,iZ c] w (Ret λe w'=>e=.func (.func 158) #[] #[jZ w.heap.size,jZ (w.heap.size+1)]/\w'=(w.alloc (.cells #[qZ b k n cap] 23)).alloc (.cells #[iZ c] 3)):=by
 have f:¬(c:Int)<1:=oM;go_enter func105,ntmps105;go_wp2;go_ret;exact⟨_,rfl,rfl,rfl⟩
end
def zz(n:Nat):List XB:=(YM n (YW .u8 0))
def o33:Bs:=Array.replicate 33 0
def Ol:(.agg z33.toArray:XB)=pvl o33:=by
 unfold pvl z33 o33 aA;rw[Array.toList_replicate,List.map_replicate];rfl
def Sm.mono{B k:Nat}{W:XA}{v:XB}{l:LB}(h:Sm B W v l)(f:k<=B):Sm k W v l:=by
 obtain⟨g,c,d,i,e,b⟩:=h;exact⟨g,c,d,i,XH f e,b⟩
section
variable (w:XA) (k6 k8 n:Nat) (Y A T:Bs)
def Rb:Nat->XB->XA->Prop
 | 0,v,_=>v=pvl Y
 | 1,v,W=>Sm w.heap.size W v [(1,Y)]
 | 2,v,_=>v=pvl A
 | 3,v,_=>v=nv n
 | 4,v,W=>Sm w.heap.size W v [(n,A)]
 | 5,v,W=>Sm w.heap.size W v [(1,Y),(n,A)]
 | 6,v,_=>v=pvl T
 | 7,v,W=>El 33 W v T
 | 8,v,W=>El 33 W v T
 | 9,v,_=>v=iZ 0
 | _,_,_=>True
def Gb:Gw:=⟨Rb w n Y A T,λW=>Kp w W [(k8,wn n),(k6,aA Y)],λi v W W' k h=>by
 match i,h with
 | 0,h=>exact h
 | 1,h=>exact Sm.grow h k
 | 2,h=>exact h
 | 3,h=>exact h
 | 4,h=>exact Sm.grow h k
 | 5,h=>exact Sm.grow h k
 | 6,h=>exact h
 | 7,h=>exact El.below h k (XD _)
 | 8,h=>exact El.below h k (XD _)
 | 9,h=>exact h
 | _+10,_=>trivial,λW W' k h=>h.grow k⟩
end
def xI(O:Ord N)(B:Nat)(s t:XB)(l m:LB)(A:0<l.length)(L:l.length<=500)(T:m.length<=500)(D:∀x∈l,x.2.size=33)(g:∀x∈m,x.2.size=33)(p:∀x∈m,x.1<N)(w:XA)(P:B<=w.heap.size)(F:Sm B w s l)(H:Sm B w t m):
 cZ 197 #[s,t] w (rZ w λe w'=>Sm w.heap.size w' e (l++m.map (tmT N (sMi N 0 1)))):=by
 have q:1<N:=by have:2<=N:=XH O.n2 (Nat.mod_le _ _);omega
 have k:=Hid.mk' (Em O q);have i:sMi N 0 1<N:=Y8 _ O.pos;generalize sMi N 0 1=o at k i⊢;have I:Hid (∀W,kZ w W->cZ 149 #[t,nv o] W (rZ W λe w'=>Sm W.heap.size w' e (m.map (tmT N o)))):=λW u=>by
  have c:∀x∈m.map (·.2),x.size=33:=λx hx=>by obtain⟨y,b,rfl⟩:=YC.1 hx;exact g y b
  exact eD O i B t m oM c p W (H.grow u)
 have R:Hid (∀W v,kZ w W->Sm w.heap.size W v (m.map (tmT N o))->cZ 31 #[s,v] W (rZ W λe w'=>Sm W.heap.size w' e (l++m.map (tmT N o)))):=λW v u hv=>by
  refine sW B s v l (m.map (tmT N o)) A L (by rw[XZ];exact T) D (λx hx=>?_) W (F.grow u) (hv.mono P);obtain⟨y,b,rfl⟩:=YC.1 hx;exact g y b
 obtain⟨gs,cs,U,-⟩:=id F;obtain⟨Y,ct,M,-⟩:=id H;subst U;subst M;obtain⟨v1,f⟩:=hE (nv 1);obtain⟨X,d⟩:=hE (nv o);rw[f.out,d.out]at k;rw[d.out]at I;have E:=Hid.mk' (Kf);rw[f.out]at E;go_enter func197,ntmps197;go_wp2_with fail
 apply(E w).mono;rintro e J ⟨K,rfl,b,rfl⟩;go_wp2_with fail
 apply(k J).mono;rintro e V ⟨K,rfl,r,rfl⟩;have j:=mk1 (b.trans (r.mono b.size));go_wp2_with fail
 apply(I V j).mono;rintro e S ⟨Q,rfl,a,n⟩;have c:=mk2 (j.trans (a.mono j.size)) (n.mono j.size);go_wp2_with fail
 apply(R S Q c.1 c.2).mono;rintro e w4 ⟨Z,rfl,C,z⟩;have G:=mk2 (c.1.trans (C.mono c.1.size)) (z.mono c.1.size);go_wp2;go_ret;exact⟨_,rfl,G.1,G.2⟩
def encV(v:XB):XB:=v
structure ListAt(w:XA)(g cap:Nat)(vs:List XB)(cur:Array XB):Prop where
 lt:g<w.heap.size
 size:cur.size=cap
 fits:vs.length<=cap
 holds:Holds encV w g 0 cur
 front:∀j,j<vs.length->cur[j]! = vs[j]!
omit [NeZero P] in
theorem MQ:(wr (none:EC.Pt P))=o33:=by
 show I5=o33;decide +kernel
def Mw(q:Option Y0)(c:Nat)(w:XA):cZ 56 #[.func (.func 57) #[] #[],.slice q 0 c] w (rZ w λe w'=>∃K,e=.tuple #[sZ K 0 0,tZ]):=by
 obtain⟨C0,g,d⟩:=Ux 0 dC;have k:(Instr.makeSlice 83 (iZ 0) (iZ 0)).run prog w=.ok (sZ w.heap.size 0 0) (w.alloc (.cells C0.toArray 51)):=d w;obtain⟨f,b⟩:=yH (w.alloc (.cells C0.toArray 51));rw[b.out]at k;have j:Hid (kZ w f):=b.out▸aD _;clear d g b;go_enter func56,ntmps56;go_wp2;clear k;go_loopg [16] 0 (λm s16 W=>s16=iZ 0/\Hid (kZ w W))
 case atStart=>exact⟨rfl,j⟩
 case round =>
  obtain⟨rfl,i⟩:=hrel;go_wp2
  go_ret2
  exact⟨_,rfl,i,_,rfl⟩
section
open SPA
variable {P:Nat}[NeZero P]{N:Nat}[NeZero N]
def VM(g j:Nat):(⟨g,0,none⟩:Y0).add j=⟨g,j,none⟩:=by
 simp[Addr.add];exact λh=>h.symm
def jI{W:XA}{k n g c:Nat}{e:Yd}{xs:List XB}(h:W.ownsRow k e 1 (sZ g n c) n xs){j:Nat}{u:XB}(b:xs[j]? = some u):W.cell? ⟨g,j,none⟩=some u:=by
 have:=h.cells (g:=g) rfl j u b;rw[VM]at this;exact this
def mP{W:XA}{k n:Nat}{e:Yd}{v:XB}{xs:List XB}(h:W.ownsRow k e 1 v n xs)(b:0<n):∃g c,v=sZ g n c:=by
 rcases h with⟨-,⟨-,d⟩|⟨g,cap,cur,rfl,-⟩⟩
 .omega
 .exact⟨g,cap,rfl⟩
def PtL(Q:Nat->Prop)(W:XA)(K t:Nat)(B:Nat->Bs):Prop:=∀j,j<t->Q K/\K<W.heap.size/\W.rangeAt K (33*j) (aA (B j))
def PtL.keep{Q:Nat->Prop}{W W':XA}{K t:Nat}{B:Nat->Bs}(h:PtL Q W K t B)(k:Kq Q W W'):PtL Q W' K t B:=λj e=>by
 obtain⟨b,c,d⟩:=h j e;refine⟨b,XC c k.size,λi u f=>?_⟩;rw[X4 (a:=⟨K,33*j+i,none⟩) (k.block K b c)];exact d i u f
def PtL.mono2{Q Q':Nat->Prop}{W:XA}{K t:Nat}{B:Nat->Bs}(h:PtL Q W K t B)(e:∀g,g<W.heap.size->Q g->Q' g):PtL Q' W K t B:=λj d=>by
 obtain⟨c,k,b⟩:=h j d;exact⟨e K k c,k,b⟩
def TlL.below{Q:Nat->Prop}{k t:Nat}{W W':XA}{v:XB}{B:Nat->Bs}(h:TlL Q k t W v B)(b:kZ W W'):TlL Q k t W' v B:=h.keep (Kq.of_below b) λg c=>b.block g (h.lt c).2
def TlV(t:Nat)(W:XA)(v:XB)(B:Nat->Bs):Prop:=∃q c,v=.slice q t c/\(0<t->∃g,q=some (aZ g)/\g<W.heap.size/\∀j,j<t->∃x,W.cell? ⟨g,j,none⟩=some x/\Arg33 W x (B j))
def TlV.below{t:Nat}{W W':XA}{v:XB}{B:Nat->Bs}(h:TlV t W v B)(k:kZ W W'):TlV t W' v B:=by
 obtain⟨q,c,rfl,h⟩:=h;refine⟨q,c,rfl,λe=>?_⟩;obtain⟨g,rfl,b,f⟩:=h e;refine⟨g,rfl,XC b k.size,λj l=>?_⟩;obtain⟨x,i,d⟩:=f j l;exact⟨x,by rw[k.cell (p:=⟨g,j,none⟩) b];exact i,d.below k⟩
def Mt(C:Fld P){t:Nat}{W:XA}{v:XB}{B:Nat->Bs}(i:t<=512)(h:TlV t W v B)(l:∀j,j<t->∃p,rd P (B j)=some p):cZ 56 #[.func (.func 57) #[] #[],v] W (rZ W λe w'=>∃K,e=.tuple #[sZ K t t,tZ]/\PtL (W.heap.size<=·) w' K t B):=by
 rcases Nat.eq_zero_or_pos t with d|d
 .obtain⟨q,c,rfl,-⟩:=h;subst d;apply(Mw q c W).mono;rintro e w' ⟨v,rfl,b,K,rfl⟩;exact⟨_,rfl,b,K,rfl,λj k=>absurd k (ZP _)⟩
 .obtain⟨q,c,rfl,n⟩:=h;obtain⟨g,rfl,s,u⟩:=n d;apply(Fo C t c i s u).mono
  .rintro e w' ⟨v,rfl,b,h⟩;rcases h with⟨-,K,rfl,m,o,r⟩|⟨⟨j,k,f⟩,-⟩
   .exact⟨_,rfl,b,K,rfl,λj k=>⟨m,o,r j k⟩⟩
   .obtain⟨p,w⟩:=l j k;rw[w]at f;cases f
def ElQ.argS{Q:Nat->Prop}{W:XA}{x:XB}{b:Bs}(h:ElQ Q 32 W x b):Arg W x b:=by
 obtain⟨k,c,rfl,g,e,-,d,f⟩:=h;exact⟨_,32,c,rfl,e,λ_=>⟨k,0,rfl,g,d,f⟩⟩
def two{α:Type}(x y:α)(j:Nat):α:=if j=0 then x else y
def Xd{k b n c d e:Nat}{w:XA}:(Yw 27 2 #[(0,sZ k n c),(1,sZ b d e)]).run prog w=.ok (sZ w.heap.size 2 2) (w.alloc (.cells #[sZ k n c,sZ b d e] 23)):=kR
def Xc{Q Q':Nat->Prop}{w W:XA}{x y:XB}{b e:Bs}(h:ElQ Q 32 W x b)(f:ElQ Q' 32 W y e):(Yw 27 2 #[(0,x),(1,y)]).run prog w=.ok (sZ w.heap.size 2 2) (w.alloc (.cells #[x,y] 23)):=by
 obtain⟨k,c,rfl,-⟩:=h;obtain⟨d,g,rfl,-⟩:=f;exact Xd
def Mr{Q Q':Nat->Prop}{W:XA}{x y:XB}{b c:Bs}(h:ElQ Q 32 W x b)(e:ElQ Q' 32 W y c):Args (W.alloc (.cells #[x,y] 23)) (some (aZ W.heap.size)) 2 (two b c):=λ_=>by
 have bb:=aD (w:=W) (.cells #[x,y] 23);have k:=row_new W [x,y] 23;refine⟨_,rfl,k.1,λj d=>?_⟩;match j,d with
 | 0,_=>exact⟨x,k.2.1 0 _ rfl,h.argS.below bb⟩
 | 1,_=>exact⟨y,k.2.1 1 _ rfl,e.argS.below bb⟩
 | j+2,h=>omega
def Vu{a b c d:XB}{w:XA}:(Ys 64 (.agg #[a,b,c,d])).run prog w=.ok (jZ w.heap.size) (w.alloc (.cells #[a,b,c,d] 64)):=kR
def uIr:yZ 252:=yQ
def iIr:gZ 252 10:=gQ
def inL(c k t a b:Nat):List XB:=sZ c t t :: sZ k t t :: (wn a++wn b)
def inZ:List XB:=[nZ,nZ,uZ 0,uZ 0,uZ 0,uZ 0,uZ 0,uZ 0,uZ 0,uZ 0]
def Gx{c k t a b:Nat}:(inL c k t a b).toArray.all (·.oneCell')=true:=kR
omit [NeZero N] in
theorem NQ(C:Fld P)(O:Ord N){t:Nat}(ht:t<=6){Lb Rb:Nat->Bs}{A B:Bs}{a b:Nat}{vL vR D E:XB}(w:XA)(hL:TlV t w vL Lb)(hR:TlV t w vR Rb)(hA:ElQ (λ_=>True) 32 w D A)(hB:ElQ (λ_=>True) 32 w E B)(hl:∀j,j<t->∃p,rd P (Lb j)=some p)(hr:∀j,j<t->∃p,rd P (Rb j)=some p)(ha:rq N A=some a)(hb:rq N B=some b):
 cZ 160 #[.agg #[vL,vR,D,E],iZ t] w (rZ w λe w'=>∃q r,e=.tuple #[.agg (inL q r t a b).toArray,tZ]/\PtL (w.heap.size<=·) w' q t Lb/\PtL (w.heap.size<=·) w' r t Rb):=by
 obtain⟨k,hk⟩:=yH w.heap.size;obtain⟨K,Z⟩:=yH (w.alloc (.cells #[vL,vR,D,E] 64));obtain⟨L,h5⟩:=yH (K.alloc (.cells inZ.toArray 252));obtain⟨vI,hvI⟩:=yH (X9 #[vL,vR,D,E]);have B1:Hid ((Ys 64 vI).run prog w=.ok (jZ k) K):=hvI.out▸Z.out▸hk.out▸Vu;obtain⟨q1,x1,rfl,-⟩:=id hL;obtain⟨q2,x2,rfl,-⟩:=id hR;have z1:K.heap.size=k+1:=by rw[<-Z.out,XP,hk.out]
 have k0:=Hid.mk' z1;have b1:kZ w K:=Z.out▸aD _;have b2:kZ K L:=h5.out▸aD _;have r1:Row K k [.slice q1 t x1,.slice q2 t x2,D,E]:=Z.out▸hk.out▸row_new w _ _;have r2:Row L (k+1) inZ:=by rw[<-h5.out,<-z1];exact row_new K _ _
 have hn:=b1.trans (b2.mono b1.size);have hc:=Hid.mk' (λ(W:XA) (S:kZ w W)=>Mt C (v:=.slice q1 t x1) oM (hL.below S) hl);have h9:=Hid.mk' (λ(W:XA) (S:kZ w W)=>Mt C (v:=.slice q2 t x2) oM (hR.below S) hr);have G:=Hid.mk' (YV (λ(W:XA) (S:kZ w W)=>hA.keep (Kq.of_below S)) (λ(W:XA) (S:kZ w W)=>hB.keep (Kq.of_below S)));have h8:=Hid.mk' (λ(W:XA) (S:kZ w W)=>Mv O 2 2 dC (some (aZ W.heap.size)) (two A B) (two a b) (W.alloc (.cells #[D,E] 23)) (Mr (G.1 W S) (G.2 W S)) (λj hj=>by
  match j,hj with
  | 0,_=>exact ha
  | 1,_=>exact hb
  | j+2,h=>omega))
 have K2:Hid (Row L (k+1) inZ/\kZ w L/\Row L k [.slice q1 t x1,.slice q2 t x2,D,E]):=⟨r2,hn,r1.below b2⟩
 have c0:L.cell? ⟨k,0,none⟩=some (.slice q1 t x1):=(r1.below b2).2.1 0 _ rfl;have c1:L.cell? ⟨k,1,none⟩=some (.slice q2 t x2):=(r1.below b2).2.1 1 _ rfl;rw[hvI.out];clear b1 b2 r1 r2 hn z1 hL hR hA hB hvI hl hr ha hb;go_enter func160,ntmps160;go_wp2_with (first|(refine aG (u:=vI) (v:=jZ k) (w':=K) rfl 64 (.tmp 0) rfl ?_ ?_ ?_;rfl;exact B1)|(refine fJ (v:=jZ (k+1)) (w':=L) rfl 252 4 rfl rfl ?_ ?_;(rw[<-h5.out,<-k0.out];kernel_rfl))|fail)
 apply(hc L K2.2.1).mono;rintro e w3 ⟨uu,rfl,X,q,rfl,hu⟩;have b3:=K2.2.1.trans (X.mono K2.2.1.size);have Y:Hid (Row w3 (k+1) inZ/\kZ w w3/\Row w3 k [.slice q1 t x1,.slice q2 t x2,D,E]/\PtL (k+1 < ·) w3 q t Lb):=⟨K2.1.below X,b3,K2.2.2.below X,hu.mono2 λg _ T=>XC K2.1.1 T⟩
 have hz:w3.cell? ⟨k,1,none⟩=some (.slice q2 t x2):=Y.2.2.1.2.1 1 _ rfl;clear X hu b3 K2 c0 c1 hc;go_wp2_with fail
 apply(h9 w3 Y.2.1).mono;rintro e s ⟨uu,rfl,R,r,rfl,hp⟩;have b4:=Y.2.1.trans (R.mono Y.2.1.size);have Q:Hid (Row s (k+1) inZ/\kZ w s/\Row s k [.slice q1 t x1,.slice q2 t x2,D,E]/\PtL (k+1 < ·) s q t Lb/\PtL (k+1 < ·) s r t Rb):=⟨Y.1.below R,b4,Y.2.2.1.below R,Y.2.2.2.keep (Kq.of_below R),hp.mono2 λg _ T=>XC Y.1.1 T⟩
 have hw:s.cell? ⟨k,2,none⟩=some D:=Q.2.2.1.2.1 2 _ rfl;have hy:s.cell? ⟨k,3,none⟩=some E:=Q.2.2.1.2.1 3 _ rfl;obtain⟨w5,V⟩:=yH (s.alloc (.cells #[D,E] 23));obtain⟨k5,he⟩:=yH s.heap.size;have HS:Hid ((Yw 27 2 #[(0,D),(1,E)]).run prog s=.ok (sZ k5 2 2) w5):=V.out▸he.out▸Xc (G.1 s Q.2.1) (G.2 s Q.2.1);have h6:=h8 s Q.2.1;rw[V.out,he.out]at h6;have hs:=Hid.mk' h6;have F:kZ s w5:=V.out▸aD _;have b5:=Q.2.1.trans (F.mono Q.2.1.size);have K5:Hid (Row w5 (k+1) inZ/\kZ w w5/\PtL (k+1 < ·) w5 q t Lb/\PtL (k+1 < ·) w5 r t Rb):=⟨Q.1.below F,b5,Q.2.2.2.1.keep (Kq.of_below F),Q.2.2.2.2.keep (Kq.of_below F)⟩
 clear R hp b4 Y hz h9 h6 F b5 h8 G;go_wp2_with (first|(refine jK (v:=sZ k5 2 2) (w':=w5) rfl 27 2 _ rfl #[(0,D),(1,E)] ?_ ?_ ?_;kernel_rfl;exact HS)|fail)
 refine hs.mono ?_;rintro e f ⟨uu,rfl,I,m,rfl,hm⟩;have K6:Hid (Row f (k+1) inZ/\kZ w f/\PtL (k+1 < ·) f q t Lb/\PtL (k+1 < ·) f r t Rb/\SLq (k+1 < ·) f (sZ m 2 2) 2 (two a b)):=⟨K5.1.below I,K5.2.1.trans (I.mono K5.2.1.size),K5.2.2.1.keep (Kq.of_below I),K5.2.2.2.keep (Kq.of_below I),hm.mono λg T=>XC K5.1.1 T⟩
 have hE:f.rangeAt m 0 (wn a)/\f.rangeAt m 4 (wn b)/\k+1≠m:=by
  obtain⟨g,o,c,e,-,z,-,y⟩:=K6.2.2.2.2;injection e with e1
  injection e1 with e1
  injection e1 with e2 e3
  subst e2 e3;exact⟨y 0 dC,y 1 dC,Nat.ne_of_lt z⟩
 have J:=Hid.mk' hE;clear I hm K5 Q hs HS hw hy V hE;go_wp2_with fail
 obtain⟨dS,H,M⟩:=XE.1 rSc;have z:f.drew.rangeAt m 0 (wn a)/\f.drew.rangeAt m 4 (wn b):=⟨J.1,J.2.1⟩
 refine anyS.begin (λ_ W=>W.rangeAt m 0 (wn a)/\W.rangeAt m 4 (wn b)) kR ?_;have U:∀(p:Nat),Bef (λ_ W=>yBa W m 0 (wn a)/\yBa W m 4 (wn b)) p f.drew:=λp=>⟨#[],by simp,z⟩
 refine anyS.val (i:=0) (d:=some 57) (x:=sZ q t t) rfl 9 (λ_ _ h=>h) (U 9) z ?_;simp only[Ym,XF,XJ,XL];refine anyS.val (i:=1) (d:=some 58) (x:=sZ r t t) rfl 9 (λ_ _ h=>h) (U 9) z ?_;simp only[Ym,XF,XJ,XL];refine anyS.val (i:=2) (d:=some 59) (x:=sZ m 2 2) rfl 9 (λ_ _ h=>h) (U 9) z ?_;simp only[Ym,XF,XJ,XL];refine anyS.val (i:=3) (d:=some 60) (x:=jZ m) rfl 9 (λ_ _ h=>h) (U 9) z ?_;simp only[Ym,XF,XJ,XL];refine anyS.row (i:=4) (d:=some 61) (cs:=wn a) rfl 9 (λ_ _ h=>h) 44 60 m 0 dS rfl H M nSc (λW ⟨l,e,h⟩=>h.1) (U 9) z ?_;simp only[Ym,XF,XJ,XL];refine anyS.val (i:=5) (d:=some 62) (x:=sZ m 2 2) rfl 9 (λ_ _ h=>h) (U 9) z ?_;simp only[Ym,XF,XJ,XL];refine anyS.val (i:=6) (d:=some 63) (x:=oZ m 4) rfl 9 (λ_ _ h=>h) (U 9) z ?_;simp only[Ym,XF,XJ,XL];refine anyS.row (i:=7) (d:=some 64) (cs:=wn b) rfl 9 (λ_ _ h=>h) 44 63 m 4 dS rfl H M nSc (λW ⟨l,e,h⟩=>h.2) (U 9) z ?_;simp only[Ym,XF,XJ,XL];clear U;refine anyS.nxt (i:=8) (d:=some 65) (x:=.agg (inL q r t a b).toArray) rfl z ?_;simp only[Ym,XF,XJ,XL];have hi:f.drew.there (k+1) 0 10:=K6.1.2.2;have y:∀g,g≠k+1->(f.drew.setCells (k+1) 0 (inL q r t a b)).heap[g]? = f.drew.heap[g]?:=λg h=>aE _ 0 f.drew g h
 have S7:(f.drew.setCells (k+1) 0 (inL q r t a b)).rangeAt m 0 (wn a)/\(f.drew.setCells (k+1) 0 (inL q r t a b)).rangeAt m 4 (wn b):=⟨λj u hj=>by rw[X4 (a:=⟨m,0+j,none⟩) (y m (yBh J.2.2))];exact z.1 j u hj,λj u hj=>by rw[X4 (a:=⟨m,4+j,none⟩) (y m (yBh J.2.2))];exact z.2 j u hj⟩
 have r6:Row f.drew (k+1) inZ:=K6.1;have r7:Row (f.drew.setCells (k+1) 0 (inL q r t a b)) (k+1) (inL q r t a b):=r6.put rfl;have b7:kZ w (f.drew.setCells (k+1) 0 (inL q r t a b)):=RG.below_setCells (hk.out▸Nat.le_succ _) _ _ _ K6.2.1.drew;have h1:Kq (k+1 < ·) f (f.drew.setCells (k+1) 0 (inL q r t a b)):=⟨by rw[setCells_size];exact XD _,λg T _=>y g (ZN T)⟩
 have h3:=(K6.2.2.1.keep h1).mono2 (Q':=(w.heap.size<=·)) λg _ T=>by rw[hk.out];omega
 have h7:=(K6.2.2.2.1.keep h1).mono2 (Q':=(w.heap.size<=·)) λg _ T=>by rw[hk.out];omega
 refine anyS.sta (i:=9) (d:=none) rfl 252 (.tmp 4) (.tmp 65) rfl (k+1) 0 (inL q r t a b).toArray Gx hi iIr S7 ?_;simp only[Ym,XF,XJ,XL];refine anyS.nxt (i:=10) (d:=some 5) (x:=tZ) rfl S7 ?_;simp only[Ym,XF,XJ,XL];refine anyS.fin kR ?_ _;intro WZ hq;have h0:WZ=f.drew.setCells (k+1) 0 (inL q r t a b):=hq;rw[<-h0]at r7 b7 h3 h7;have KZ:=Hid.mk' (YV r7 (YV b7 (YV h3 h7)));clear r6 r7 b7 h1 h3 h7 S7 z y hi hq h0 K6 J H M;go_wp2_with fail
 refine XN (results_ct 4 5 252 rfl KZ.1 rfl rfl uIr iIr) rfl ?_;exact⟨_,rfl,KZ.2.1,q,r,rfl,KZ.2.2.1,KZ.2.2.2⟩
end
section
open SPA
section
variable {P:YJ}{ops:Array Yp}{Q:Exit->Act->XA->Prop}{S:Array Bool->XA->Prop}
def Wy(a:Act){d e:Zw}(h:d≠e)(v u:XB):(a.put (some d) v).put (some e) u=(a.put (some e) u).put (some d) v:=by
 unfold Ym;dsimp only;rw[yCL _ _ h]
def anyS.calal{i j c:Nat}{u l:Yp}{di dj:Zw}{f:ZQ}{args:Array XB}{obj:Obj}{k:Array Bool}{a:Act}{w:XA}{M J:XB->XA->Prop}{F:XB->Nat->XA->Prop}(m:ops[i]? = some u)(p:ops[j]? = some l)
 (U:YN P f args w (Ret M)) (x:YN P f args (w.alloc obj) (Ret J)) (z:S (k.setIfInBounds j true) (w.alloc obj))
 (R:∀v W',M v W'->S (k.setIfInBounds i true) W'/\S ((k.setIfInBounds i true).setIfInBounds j true) (W'.alloc obj)/\F v W'.heap.size (W'.alloc obj)) (T:∀v W',J v W'->S ((k.setIfInBounds i true).setIfInBounds j true) W'/\F v w.heap.size W')
 (s:∀(b:Act) (W:XA),(Yh b.eval l).run P W=.ok (.value (jZ W.heap.size)) (W.alloc obj))
 (h:∀v b W',F v b W'->anyS P ops Q S c ((k.setIfInBounds i true).setIfInBounds j true) ((a.put (some di) v).put (some dj) (jZ b)) W')
 (hx:∀W,(Yh a.eval u).run P W=.ok (.enter f args) W:=by intro _;kernel_rfl) (G:∀(b:Nat) (W:XA),(Yh (a.put (some dj) (jZ b)).eval u).run P W=.ok (.enter f args) W:=by intro _ _;kernel_rfl)
 (D:i≠j:=by decide) (E:di≠dj:=by decide) (L:Yu .any ops k=[i,j]:=by kernel_rfl) (d:Yu .any ops (k.setIfInBounds i true)=[j]:=by kernel_rfl) (C:Yu .any ops (k.setIfInBounds j true)=[i]:=by kernel_rfl)
 (r:u.guard=none:=by rfl) (n:l.guard=none:=by rfl) (o:u.dst=some di:=by kernel_rfl) (t:l.dst=some dj:=by kernel_rfl):anyS P ops Q S (c+2) k a w:=by
 refine⟨λN=>(by rw[L]at N;cases N),λq I=>?_⟩;rw[L]at I;have B:q=i\/q=j:=by simpa using I
 rcases B with rfl|rfl
 .refine wpOp_step m λK H=>?_
  rw[yEX (bI r)];unfold Y3;rw[hx,ZM];refine U.mono ?_;rintro e W' ⟨v,rfl,hR⟩;obtain⟨s1,s2,y⟩:=R v W' hR;refine H _ _ ⟨s1,?_⟩;rw[o];refine anyS.step p d λO g=>?_
  rw[yEX (bI n)];unfold Y3;rw[s];show O (Ym _ l.dst _) _;rw[t];exact g _ _ s2 (h v _ _ y)
 .refine wpOp_step p λK H=>?_
  rw[yEX (bI n)];unfold Y3;rw[s];show K (a.put l.dst _) _;rw[t];refine H _ _ ⟨z,?_⟩;refine anyS.step m C λO g=>?_
  rw[yEX (bI r)];unfold Y3;rw[G,ZM];refine x.mono ?_;rintro e W' ⟨v,rfl,hR⟩;obtain⟨s2,y⟩:=T v W' hR;have d:=h v _ _ y;rw[yCL _ _ D]at s2 d;rw[Wy a E]at d;rw[o];exact g _ _ s2 d
end
variable {P:Nat}[NeZero P]{N:Nat}[NeZero N]
def Jd{t i m:Nat}{L T:Nat->OnP P}{s:Bs}{c:Fin N}(C:Fld P)(k:∀r:EC.Pt P,On r->mul N r=none)(g:IsP N)(v:Md.Vs Bs (OnP P))(j:m=2^(t-(i+1)))(f:chF N ((aC C k).vst (chF N) ivF t L T v i).s (L i) (T i)=(s,c)):
 (aC C k).vst (chF N) ivF t L T v (i+1)=⟨s,(aC C k).ad ((aC C k).ad ((aC C k).vst (chF N) ivF t L T v i).p ((aC C k).ac (c*c) (L i))) ((aC C k).ac (ivF (c*c)) (T i)),(aC C k).fP (ivF c) c m ((aC C k).vst (chF N) ivF t L T v i).g,(aC C k).fP c (ivF c) m ((aC C k).vst (chF N) ivF t L T v i).h⟩:=by
 have b:=SX g ((aC C k).vst (chF N) ivF t L T v i).s (L i) (T i);rw[f]at b;have d:c.val≠0:=λe=>b (by
  have:c=0:=Fin.ext (e.trans (yA6 N).symm);show(c*c).val=0;rw[this];show(0%N*(0%N))%N=0;rw[yA6,yDu,yA6])
 rw[Md.Jr,UH g d b,j];show(aC C k).Fw (chF N) ivF (2^(t-(i+1))) (L i) (T i) ((aC C k).vst (chF N) ivF t L T v i)=_;unfold Md.Fw;rw[f]
end
section
open SPA
variable {P:Nat}[NeZero P]{N:Nat}[NeZero N]
def QR(r k g:Nat):Prop:=g≠r/\(g<k\/k+3<=g)
structure Lk(w W:XA)(r k kl kr t a b n:Nat)(v sv:XB)(Lb Rb:Nat->Bs)(L:Bs)(G H:Nat->LB)(U l:LB):Prop where
 on:SP.Only r 0 32 w W
 rk:r<k
 wk:w.heap.size=k
 r0:Row W k (inL kl kr t a b)
 r1:Row W (k+1) [jZ r]
 r2:∃e:Array XB,v=.agg e/\e.size=3/\e.all (·.oneCell')=true/\Row W (k+2) e.toList
 pl:PtL (QR r k) W kl t Lb
 pr:PtL (QR r k) W kr t Rb
 gr:GRq (QR r k) W v n G H U
 sm:SmQ (QR r k) W sv l
 lg:hZ W r 0 L
 ls:L.size=32
section
variable {w W W':XA}{r k kl kr t a b n:Nat}{v sv:XB}{Lb Rb:Nat->Bs}{L:Bs}{G H:Nat->List (Nat × Bs)}{U l:List (Nat × Bs)}
def Lk.any{d:Bs}(h:Lk w W r k kl kr t a b n v sv Lb Rb L G H U l)(p:SP.Only r 0 32 w W')(kq:Kq (QR r k) W W')(c:∀g,k<=g->g<k+3->W'.heap[g]? = W.heap[g]?)(j:hZ W' r 0 d)(f:d.size=32):Lk w W' r k kl kr t a b n v sv Lb Rb d G H U l:=by
 obtain⟨e,i,m,e3,o⟩:=h.r2;exact⟨p,h.rk,h.wk,aQ h.r0 kq.size (c k oM oM),aQ h.r1 kq.size (c _ oM oM),⟨e,i,m,e3,aQ o kq.size (c _ oM oM)⟩,h.pl.keep kq,h.pr.keep kq,h.gr.keep kq,h.sm.keep kq,j,f⟩
def Lk.big(h:Lk w W r k kl kr t a b n v sv Lb Rb L G H U l):k+3<=W.heap.size:=by
 obtain⟨e,-,-,-,c⟩:=h.r2;exact c.1
def Lk.grow(h:Lk w W r k kl kr t a b n v sv Lb Rb L G H U l)(c:kZ W W'):Lk w W' r k kl kr t a b n v sv Lb Rb L G H U l:=by
 have d:=Holds.lt h.lg (by rw[h.ls];decide);exact h.any (h.on.trans (SP.Only.of_below c rfl d)) (Kq.of_below c) (λg e f=>c.block g (oN h.big)) (Holds.below h.lg c d) h.ls
def Lk.drew(h:Lk w W r k kl kr t a b n v sv Lb Rb L G H U l):Lk w W.drew r k kl kr t a b n v sv Lb Rb L G H U l:=h.grow ⟨rfl,rfl,rfl,XD _,λ_ _=>rfl⟩
def Lk.say{c:Bs}(h:Lk w W r k kl kr t a b n v sv Lb Rb L G H U l)(d:SP.Only r 0 32 W W')(f:hZ W' r 0 c)(i:c.size=32):Lk w W' r k kl kr t a b n v sv Lb Rb c G H U l:=by
 have j:=h.rk;exact h.any (h.on.trans d) (Kq.of_only d λg e=>e.1) (λg m o=>d.block g (oN h.big) oM) f i
def Lk.qn(h:Lk w W r k kl kr t a b n v sv Lb Rb L G H U l):∀g,W.heap.size<=g->QR r k g:=λg c=>⟨by have:=h.rk;have:=h.big;omega,X7 (oN h.big)⟩
def Lk.hide{c:XB}{l':LB}(h:Lk w W r k kl kr t a b n v sv Lb Rb L G H U l)(d:SmQ (QR r k) W c l'):Lk w W r k kl kr t a b n v c Lb Rb L G H U l':=⟨h.on,h.rk,h.wk,h.r0,h.r1,h.r2,h.pl,h.pr,h.gr,d,h.lg,h.ls⟩
def Lk.next{f:Nat}{e:Array XB}{j i:Nat->LB}(h:Lk w W r k kl kr t a b n v sv Lb Rb L G H U l)(s:GRq (QR r k) W (.agg e) f j i U)(m:e.size=3)(o:e.all (·.oneCell')=true):Lk w (W.setCells (k+2) 0 e.toList) r k kl kr t a b f (.agg e) sv Lb Rb L j i U l:=by
 have c:∀g,g≠k+2->(W.setCells (k+2) 0 e.toList).heap[g]? = W.heap[g]?:=λg x=>aE _ 0 W g x
 have d:W.heap.size<=(W.setCells (k+2) 0 e.toList).heap.size:=by rw[setCells_size];exact XD _
 have kq:Kq (QR r k) W (W.setCells (k+2) 0 e.toList):=⟨d,λg q _=>c g (oN q.2)⟩
 have u:=h.rk;obtain⟨z,-,y,-,p⟩:=h.r2;exact⟨jN h.on h.wk h.rk oM,h.rk,h.wk,aQ h.r0 d (c k oM),aQ h.r1 d (c _ oM),⟨e,rfl,m,o,p.put (by rw[XU,XU,m,y])⟩,h.pl.keep kq,h.pr.keep kq,s.keep kq,h.sm.keep kq,jU h.lg (c r oM),h.ls⟩
end
def Vw{c k t a b:Nat}{w:XA}:(Ys 252 (.agg (inL c k t a b).toArray)).run prog w=.ok (jZ w.heap.size) (w.alloc (.cells (inL c k t a b).toArray 252)):=kR
def uPL:wZ 83:=wQ
def FK{Q:Nat->Prop}{W:XA}{g n:Nat}{p:Bs}(k:Row W g (wn n++aA p))(b:Q g):SmQ Q W (sZ g 1 1) [(n,p)]:=by
 have e:aP [(n,p)]=wn n++aA p:=by unfold aP;simp
 refine⟨g,1,rfl,XD _,b,k.1,?_⟩;rw[e];exact k.2.1
def ED{k:YJ}{o:Yp}{ev:yAe->XB}{I:Sem XB}{v:XB}{w:XA}(h:I.run k w=.ok v w)(b:Yh ev o=I >>= λv=>pure (ZS v):=by kernel_rfl):(Yh ev o).run k w=.ok (.value v) w:=by
 rw[b,X1,h];rfl
def Lk.rd{w W W':XA}{r k d e t a b n:Nat}{v m:XB}{j Rb:Nat->Bs}{L:Bs}{G H:Nat->LB}{U l:LB}(h:Lk w W r k d e t a b n v m j Rb L G H U l)(c:SP.Only r 0 32 W W'){i:Nat}(f:i<t):
 W'.rangeAt (k+1) 0 [jZ r]/\W'.cell? ⟨k,0,none⟩=some (sZ d t t)/\W'.cell? ⟨k,1,none⟩=some (sZ e t t)/\W'.rangeAt d (0+33*i) (aA (j i))/\W'.rangeAt e (0+33*i) (aA (Rb i)):=by
 have p:=h.rk;have kq:Kq (QR r k) W W':=Kq.of_only c λg o=>o.1
 rw[XI];exact⟨(h.r1.only c oM).2.1,(h.r0.only c oM).2.1 0 _ rfl,(h.r0.only c oM).2.1 1 _ rfl,((h.pl.keep kq) i f).2.2,((h.pr.keep kq) i f).2.2⟩
def Uw(h:1<N):(-1:Fin N).val=sMi N 0 1:=by
 have k:(1:Fin N).val=1:=by
  show 1%N=1;exact X6 h
 have b:(-1:Fin N).val=(N-(1:Fin N).val)%N:=Fin.val_neg' _;rw[b,k];unfold sMi;rw[XI]
omit [NeZero N] in
theorem MP(C:Fld P){X:EC.Pt P}(d:On X):wr X=o33↔X=none:=by
 rw[<-MQ (P:=P)];refine⟨λh=>?_,λh=>by rw[h]⟩;obtain⟨p,k,e⟩:=xR C d;obtain⟨q,c,b⟩:=xR C (jB (P:=P));rw[h,c]at k;injection k with k
 rw[<-e,<-b,k]
def U0(C:Fld P)(O:Ord N)(k:∀r:EC.Pt P,On r->mul N r=none)(E:IsP N){Q:Nat->Prop}{c:Nat}{G H:Nat->LB}{U l:LB}{g h:Nat->OnP P}{u p:OnP P}(I:0<c)(A:c<=64)(hG:Gd N 1 c G g)(x:Gd N 1 c H h)(z:Tl N U u)(D:0<U.length)(F:U.length<=16)(o:Tl N l p)(K:l.length<=200)(a b:Fin N):
 ∃l' f Y,Y.size=33/\(Y=o33↔p=(aC C k).ad ((aC C k).ad ((aC C k).ac a (g 0)) ((aC C k).ac b (h 0))) ((aC C k).ac (a*b) u))/\(∀(W:XA) (v va m:XB),GRq Q W v 1 G H U->SLq Q W va 1 (λ_=>a.val)->SLq Q W m 1 (λ_=>b.val)->cZ 143 #[v,va,m] W (rZ W λe w'=>Sm W.heap.size w' e l')) /\
  (∀(W:XA) (s n:XB),Sm 0 W s l'->Sm 0 W n l->cZ 197 #[s,n] W (rZ W λe w'=>Sm W.heap.size w' e f)) /\
  (∀(W:XA) (v:XB),Sm 0 W v f->cZ 33 #[v] W (rZ W λe w'=>e=pvl Y)):=by
 have B:=tW (by decide:0<1) I oM hG x z D F;obtain⟨w,f⟩:=KX C k hG x z (d:=U.length) rfl (λ_=>a) (λ_=>b);rw[<-kM]at w f;have j:=w.app C k (o.tm C k (-1));rw[Uw E.1]at j;have y:=(aC C k).QK ((aC C k).hd (λ_=>a) (λ_=>b) g h u 1) p;rw[(aC C k).Ld (λ_=>a) (λ_=>b) g h u]at y j;refine⟨_,_,_,aL _,(MP C (Subtype.property _)).trans ((Subtype.ext_iff (a2:=(aC C k).zo)).symm.trans y),λW v va m q t J=>GB O 1 c G H U B _ _ (λi _=>a.isLt) (λi _=>b.isLt) v va m W q t J,λW s n q t=>xI O 0 s n _ l (by rw[f];omega) (by rw[f];omega) oM w.ok.sz o.ok.sz o.ok.lt W (Zl _) q t,λW v hv=>?_⟩;exact j.point C O k (by rw[XK,f];omega) (by rw[XK,XZ,f];omega) hv
def LG{w:XA}{a b:Bs}(k:a.size=33)(c:b.size=33):(binOp .eql 51 (pvl a) (pvl b)).run prog w=.ok (.bool (decide (a=b))) w:=by
 have d:(binOp .eql 51 (pvl a) (pvl b)).run prog w=(Op.equal 51 (pvl a) (pvl b) >>= λb=>pure (Value.bool b)).run prog w:=rfl;rw[d,X1,show(Op.equal 51 (pvl a) (pvl b)).run prog w=.ok (decide (a=b)) w from U4 k c w];rfl
def Vn{n:Nat}{w:XA}:(Yw 143 1 #[(0,nv n)]).run prog w=.ok (sZ w.heap.size 1 1) (w.alloc (.cells (wn n).toArray 44)):=kR
def TS{Q:Nat->Prop}{W:XA}{g n:Nat}(k:Row W g (wn n))(b:Q g):SLq Q W (sZ g 1 1) 1 (λ_=>n):=⟨g,0,1,rfl,XD _,b,k.1,λj c=>by
 have:j=0:=oM;subst this;exact k.2.1⟩
def NM(C:Fld P)(O:Ord N)(f:∀r:EC.Pt P,On r->mul N r=none)(hP:IsP N)(t:Nat)(ht:t<=6)(E D:Nat->OnP P)(v0:Md.Vs Bs (OnP P))(u:OnP P)(G0 H0:Nat->LB)(U l0:LB)(cv:Gd N (2^t) 1 G0 v0.g)(df:Gd N (2^t) 1 H0 v0.h)(hU:Tl N U u)(dm:0<U.length)(e1:U.length<=16)(km:Tl N l0 v0.p)(bj:0<l0.length/\l0.length<=150)
 (q Rb:Nat->Bs) (cy:∀j,q j=wP (E j)) (d5:∀j,Rb j=wP (D j)) (r B A:Nat) (a b:Fin N) (n sv:XB) (w:XA) (hL:hZ w r 0 v0.s) (c4:v0.s.size=32) (K:PtL (·≠r) w B t q) (J:PtL (·≠r) w A t Rb) (hv:GRq (·≠r) w n (2^t) G0 H0 U) (S:SmQ (·≠r) w sv l0) (Bd:Bool) (dd:Bd=true↔(aC C f).MV u a b ((aC C f).vst (chF N) ivF t E D v0 t)) :
 cZ 163 #[.agg (inL B A t a.val b.val).toArray,lgV r,n,sv] w (Ret λe w'=>SP.Only r 0 32 w w'/\e=.bool Bd):=by
 have hr:=Holds.lt hL (by rw[c4];decide);obtain⟨k,hk⟩:=hE (w.heap.size);obtain⟨e0,d6,dz,cu⟩:=hv.ar;subst d6;obtain⟨w1,k6⟩:=hE (lZ w (inL B A t a.val b.val) 252);obtain⟨w2,k3⟩:=hE (w1.alloc (.cells #[jZ r] 159));obtain⟨w3,kg⟩:=yH (w2.alloc (.cells e0 150));have z1:w1.heap.size=k+1:=by rw[<-k6.out,XP,hk.out]
 have z2:w2.heap.size=k+2:=by rw[<-k3.out,XP,z1]
 have dx:r<k:=hk.out▸hr;have K3:Hid (Lk w w3 r k B A t a.val b.val (2^t) (.agg e0) sv q Rb v0.s G0 H0 U l0):=by
  have b1:kZ w w1:=k6.out▸aD _;have b2:kZ w1 w2:=k3.out▸aD _;have o:kZ w2 w3:=kg.out▸aD _;have r1:Row w1 k (inL B A t a.val b.val):=k6.out▸hk.out▸row_new w _ _;have r2:Row w2 (k+1) [jZ r]:=by rw[<-k3.out,<-z1];exact row_new w1 _ _
  have R:Row w3 (k+2) e0.toList:=by rw[<-kg.out,<-z2];exact row_new w2 e0.toList 150
  have bb:kZ w w3:=(b1.trans (b2.mono b1.size)).trans (o.mono (XH b1.size b2.size));have n:∀g,g<w.heap.size->g≠r->QR r k g:=λg hg G=>⟨G,Ye (hk.out▸hg)⟩
  have kq:∀ {Q:Nat->Prop},Kq Q w w3:=Kq.of_below bb;have H:SmQ (QR r k) w sv l0:=by
   obtain⟨g,c,h1,h2,M,L,T⟩:=S;exact⟨g,c,h1,h2,n g L M,L,T⟩
  exact⟨SP.Only.of_below bb rfl hr,dx,hk,(r1.below b2).below o,r2.below o,⟨e0,rfl,dz,cu,R⟩,(K.mono2 n).keep kq,(J.mono2 n).keep kq,(hv.mono2 n).keep kq,H.keep kq,Holds.below hL bb hr,c4⟩
 obtain⟨vI,hvI⟩:=hE (X9 (inL B A t a.val b.val).toArray);obtain⟨vl,cn⟩:=hE (lgV r);obtain⟨vG,bu⟩:=hE (X9 e0);have B1:Hid ((Ys 252 vI).run prog w=.ok (jZ k) w1):=hvI.out▸k6.out▸hk.out▸Vw (c:=B) (k:=A) (t:=t) (a:=a.val) (b:=b.val) (w:=w);have B2:Hid ((Ys 159 vl).run prog w1=.ok (jZ (k+1)) w2):=by rw[<-cn.out,<-k3.out,<-z1];exact O1 (r:=r) (w:=w1)
 have B3:Hid ((Ys 150 vG).run prog w2=.ok (jZ (k+2)) w3):=by
  obtain⟨H,a2,o,n⟩:∃a b c,e0=#[a,b,c]:=by
   obtain⟨x1,x2,G,e,-⟩:=hv.ex;injection e with e
   exact⟨x1,x2,G,e⟩
  rw[<-bu.out,<-kg.out,<-z2,n];exact Dh (c:=H) (k:=a2) (b:=o) (w:=w2)
 have K4:Hid (∃v G H l,Gd N (2^(t-0)) (2^0) G ((aC C f).vst (chF N) ivF t E D v0 0).g/\Gd N (2^(t-0)) (2^0) H ((aC C f).vst (chF N) ivF t E D v0 0).h/\Tl N l ((aC C f).vst (chF N) ivF t E D v0 0).p/\l.length=l0.length+2*0/\Lk w w3 r k B A t a.val b.val (2^(t-0)) v sv q Rb ((aC C f).vst (chF N) ivF t E D v0 0).s G H U l):=⟨_,G0,H0,l0,cv,df,km,rfl,K3⟩
 have M:Hid ((∀j,q j=wP (E j))/\∀j,Rb j=wP (D j)):=⟨cy,d5⟩
 have K:=mk7 C O hP hU dm e1 ht;have kv:=Hid.mk' bj;clear bj;have bz:=Hid.mk' dd;have c0:=K3.r0.2.1 0 _ rfl;rw[hvI.out,cn.out,bu.out];go_enter func163,ntmps163;go_wp2_with (first|(refine aG (u:=vI) (v:=jZ k) (w':=w1) rfl 252 (.tmp 0) rfl ?_ ?_ ?_;rfl;exact B1)|(refine aG (u:=vl) (v:=jZ (k+1)) (w':=w2) rfl 159 (.tmp 1) rfl ?_ ?_ ?_;rfl;exact B2)|(refine aG (u:=vG) (v:=jZ (k+2)) (w':=w3) rfl 150 (.tmp 2) rfl ?_ ?_ ?_;rfl;exact B3)|fail)
 go_loopg [3,16] t (λm s3 s16 W=>∃i:Nat,i+m=t/\s16=iZ i/\Hid (∃v G H l,Gd N (2^(t-i)) (2^i) G ((aC C f).vst (chF N) ivF t E D v0 i).g/\Gd N (2^(t-i)) (2^i) H ((aC C f).vst (chF N) ivF t E D v0 i).h/\Tl N l ((aC C f).vst (chF N) ivF t E D v0 i).p/\l.length=l0.length+2*i/\Lk w W r k B A t a.val b.val (2^(t-i)) v s3 q Rb ((aC C f).vst (chF N) ivF t E D v0 i).s G H U l))
 case atStart=>exact⟨0,oM,rfl,K4⟩
 case round =>
  obtain⟨i,e4,rfl,KM⟩:=hrel;by_cases hi:i<t
  .have d8:(i:Int)<(t:Int):=oM;obtain⟨v,G,H,l,hG,hH,hl,kk,hR⟩:=KM;have HI:=Hid.mk' hi;obtain⟨m,hm⟩:∃m,m=2^(t-(i+1)):=⟨_,rfl⟩
   have kj:2^(t-i)=m+m:=by rw[hm,show t-i=t-(i+1)+1 by omega,Zf];omega
   have br:0<m:=by rw[hm];exact yAz dC
   obtain⟨c,hc⟩:∃c,c=2^i:=⟨_,rfl⟩
   have k1:0<c:=by rw[hc];exact yAz dC
   have b9:c*(m+m)<=64:=by
    rw[<-kj,hc,<-yAP,show i+(t-i)=t by omega];exact XH (Y5 dC K.2.2.2.2.2.2) dC
   have HE:Hid (2^(t-(i+1))=m/\2^(i+1)=c+c):=⟨hm.symm,by rw[Zf,hc];omega⟩
   rw[kj,<-hc]at hG hH;rw[kj]at hR;have dw:=λ(s:Bs) (x:Fin N)=>Jd C f K.2.2.1 (t:=t) (L:=E) (T:=D) v0 (i:=i) (m:=m) hm (s:=s) (c:=x)
   obtain⟨sx,n,ki,k5⟩:=LX K.2.1 K.2.2.1 r ((aC C f).vst (chF N) ivF t E D v0 i).s (A:=(E i)) (B:=(D i)) (X:=(q i)) (Y:=(Rb i)) (M.1 i) (M.2 i);have b5:=dw sx n ki.1;have HS:=Hid.mk' b5;have dl:(q i).size=33:=by rw[M.1 i];exact aL _
   have du:(Rb i).size=33:=by rw[M.2 i];exact aL _
   have k0:=Hid.mk' (YV dl du);generalize dk:(aC C f).vst (chF N) ivF t E D v0 i=Vi at hG hH hl hR ki k5 HS;have HG:=Hid.mk' (YV hG (YV hH (YV hl (YV kk (YV br (YV k1 b9))))));clear hG hH hl kk br k1 b9 dk;have HR:=Hid.mk' hR;clear hR;go_wp2_with fail
   have R0:=HR.drew;have h0:=λ(W:XA) (hO:SP.Only r 0 32 wr.drew W)=>R0.rd hO HI
   have O0:SP.Only r 0 32 wr.drew wr.drew:=SP.Only.of_below (XR _ _) rfl (Holds.lt R0.lg (by rw[R0.ls];decide));obtain⟨dL,bv,c6⟩:=XE.1 uLg;obtain⟨dP,kf,kb⟩:=XE.1 uCP;have cj:(prog.info? 51).map (·.size)=some (aA (q i)).length:=by rw[aB k0.1];exact iCP
   have bk:(prog.info? 51).map (·.size)=some (aA (Rb i)).length:=by rw[aB k0.2];exact iCP
   refine anyS.begin (λ_ W=>SP.Only r 0 32 wr.drew W) kR ?_;have bS:∀(p:Nat),Bef (λ_ W=>SP.Only r 0 32 wr.drew W) p wr.drew:=λp=>⟨#[],by simp,O0⟩
   refine anyS.row (i:=0) (d:=some 19) (cs:=[jZ r]) rfl 13 (λ_ _ h=>h) 159 5 (k+1) 0 dL rfl bv c6 iLg (λW ⟨l,e,h⟩=>(h0 W h).1) (bS 13) O0 ?_;simp only[Ym,XF,XJ,XL];refine anyS.val (i:=1) (d:=some 20) (x:=jZ k) rfl 13 (λ_ _ h=>h) (bS 13) O0 ?_;simp only[Ym,XF,XJ,XL];refine anyS.cel (i:=2) (d:=some 21) (x:=sZ B t t) rfl 13 (λ_ _ h=>h) 83 20 k 0 rfl uPL (λW ⟨l,e,h⟩=>(h0 W h).2.1) (bS 13) O0 ?_;simp only[Ym,XF,XJ,XL];refine anyS.val (i:=3) (d:=some 22) (x:=iZ i) rfl 13 (λ_ _ h=>h) (bS 13) O0 ?_;simp only[Ym,XF,XJ,XL];refine anyS.val (i:=4) (d:=some 23) (x:=oZ B (0+33*i)) rfl 13 (λ_ _ h=>h) (bS 13) O0 ?_ (λW=>ED (I:=Yv 83 (sZ B t t) (iZ i)) (atP (k:=B) (o:=0) (n:=t) (c:=t) (i:=i) HI W));simp only[Ym,XF,XJ,XL];refine anyS.row (i:=5) (d:=some 24) (cs:=aA (q i)) rfl 13 (λ_ _ h=>h) 51 23 B (0+33*i) dP rfl kf kb cj (λW ⟨l,e,h⟩=>(h0 W h).2.2.2.1) (bS 13) O0 ?_;simp only[Ym,XF,XJ,XL];refine anyS.val (i:=6) (d:=some 25) (x:=oZ k 1) rfl 13 (λ_ _ h=>h) (bS 13) O0 ?_;simp only[Ym,XF,XJ,XL];refine anyS.cel (i:=7) (d:=some 26) (x:=sZ A t t) rfl 13 (λ_ _ h=>h) 83 25 k 1 rfl uPL (λW ⟨l,e,h⟩=>(h0 W h).2.2.1) (bS 13) O0 ?_;refine anyS.val (i:=8) (d:=some 27) (x:=iZ i) rfl 13 (λ_ _ h=>h) (bS 13) O0 ?_;refine anyS.val (i:=9) (d:=some 28) (x:=oZ A (0+33*i)) rfl 13 (λ_ _ h=>h) (bS 13) O0 ?_ (λW=>ED (I:=Yv 83 (sZ A t t) (iZ i)) (atP (k:=A) (o:=0) (n:=t) (c:=t) (i:=i) HI W));refine anyS.row (i:=10) (d:=some 29) (cs:=aA (Rb i)) rfl 13 (λ_ _ h=>h) 51 28 A (0+33*i) dP rfl kf kb bk (λW ⟨l,e,h⟩=>(h0 W h).2.2.2.2) (bS 13) O0 ?_;have h6:r<wr.drew.heap.size:=Holds.lt R0.lg (by rw[R0.ls];decide);have bA:=aD (w:=wr.drew) (.cells #[uZ 0,uZ 0,uZ 0,uZ 0] 44);have oA:SP.Only r 0 32 wr.drew (wr.drew.alloc (.cells #[uZ 0,uZ 0,uZ 0,uZ 0] 44)):=SP.Only.of_below bA rfl h6;refine anyS.calal (i:=11) (j:=12) (di:=30) (dj:=10) (obj:=.cells #[uZ 0,uZ 0,uZ 0,uZ 0] 44) (F:=λv b W'=>v=nv n.val/\SP.Only r 0 32 wr.drew W'/\hZ W' r 0 sx/\wr.drew.heap.size<=b/\Row W' b [uZ 0,uZ 0,uZ 0,uZ 0]) rfl rfl (k5 wr.drew R0.lg R0.ls) (k5 _ (Holds.below R0.lg bA h6) R0.ls) oA ?_ ?_ (by intro _ _;kernel_rfl) ?_
   .rintro v W' ⟨hO,hH,rfl⟩;have bb:=aD (w:=W') (.cells #[uZ 0,uZ 0,uZ 0,uZ 0] 44);have o:=XC h6 hO.size;exact⟨hO,hO.trans (SP.Only.of_below bb rfl o),rfl,hO.trans (SP.Only.of_below bb rfl o),Holds.below hH bb o,hO.size,row_new W' _ _⟩
   .rintro v W' ⟨hO,hH,rfl⟩;exact⟨oA.trans hO,rfl,oA.trans hO,hH,XD _,(row_new wr.drew [uZ 0,uZ 0,uZ 0,uZ 0] 44).only hO (ZN h6)⟩
   .rintro xv k4 W4 ⟨rfl,bp,bm,k7,kn⟩;have kh:SP.Only r 0 32 wr.drew (W4.setCells k4 0 (wn n.val)):=dT bp h6 k7 (q:=0);refine anyS.sta (i:=13) (d:=none) rfl 44 (.tmp 10) (.tmp 30) rfl k4 0 (wn n.val).toArray aI kn.2.2 nSc kh ?_;simp only[Ym,XF,XJ,XL];refine anyS.fin kR ?_ _;intro W5 co;have hp:=co;have R5:Lk w W5 r k B A t a.val b.val (m+m) v u3 q Rb sx G H U l:=by rw[hp];exact R0.say kh (eN bm oM) ki.2
    have r5:Row W5 k4 (wn n.val):=by rw[hp];exact kn.put rfl
    obtain⟨x,h7⟩:=hE (n.val);obtain⟨J,X⟩:=hE ((n*n).val);obtain⟨xi,ha⟩:=hE ((ivF (n*n)).val);have d4:Hid (∀W:XA,cZ 26 #[nv x,nv x] W (rZ W λe w'=>e=nv J)):=by
     rw[<-h7.out,<-X.out];exact λW=>gJ K.2.1 n.val n.val n.isLt n.isLt W
    have ds:Hid (∀W:XA,cZ 144 #[nv J] W (rZ W λe w'=>e=nv xi)):=by
     rw[<-X.out,<-ha.out];exact λW=>wE K.2.1 (n*n).val (n*n).isLt W
    rw[h7.out]at r5;rw[h7.out];have K5:=Hid.mk' (YV R5 r5);clear R5 r5 hp co kh bp bm k7 kn R0 h0 O0 oA bA h6 HR k5;obtain⟨vx,h8⟩:=hE (nv x);have ba:Hid (∀W:XA,cZ 26 #[vx,vx] W (rZ W λe w'=>e=nv J)):=h8.out▸d4;obtain⟨dS,kc,k9⟩:=XE.1 rSc;rw[h8.out];go_wp2_with (first|(refine ldR 10 K5.2.2.1 h8 rSc nSc ?_)|fail)
    apply(ba W5).mono;rintro e W6 ⟨uu,rfl,cd,rfl⟩;obtain⟨ky,h9⟩:=hE (W6.heap.size);obtain⟨W7,cg⟩:=hE (W6.alloc (.cells #[uZ 0,uZ 0,uZ 0,uZ 0] 44));obtain⟨Y,ko⟩:=hE (W7.setCells ky 0 (wn J));have F7:Hid (Row W7 ky [uZ 0,uZ 0,uZ 0,uZ 0]/\kZ W6 W7):=by rw[<-cg.out,<-h9.out];exact⟨row_new W6 _ _,aD _⟩
    have c3:kZ W5 Y:=by
     have:kZ W6 Y:=by rw[<-ko.out];exact RG.below_setCells (h9.out▸XD _) _ _ _ F7.2
     exact cd.trans (this.mono cd.size)
    have K8:Hid (Lk w Y r k B A t a.val b.val (m+m) v u3 q Rb sx G H U l/\Row Y k4 (wn x)/\Row Y ky (wn J)):=⟨K5.1.grow c3,K5.2.below c3,ko.out▸F7.1.put rfl⟩
    obtain⟨vq,kx⟩:=hE (nv J);rw[kx.out];go_wp2_with (first|(refine alR 11 h9 cg ?_)|(refine stR 11 ko kx F7.1.2.2 nSc (aI (n:=J)) ?_)|fail)
    have d1:∀(W:XA),kZ Y W->∀g,W.heap.size<=g->QR r k g:=λW o g hg=>K8.1.qn g (XH o.size hg)
    have o8:∀(W:XA),kZ Y W->SP.Only r 0 32 Y W:=λW o=>SP.Only.of_below o rfl (Holds.lt K8.1.lg (by rw[K8.1.ls];decide))
    have hu:=Hid.mk' (λ(W:XA) (o:kZ Y W)=>K8.1.rd (o8 W o) HI);have hn:=Hid.mk' d1;have tk:=HG.2.2.1.ok;have b7:TOk N [(J,q i)]:=by rw[<-X.out,M.1 i];exact(Tl.pt C f (n*n) (E i)).ok
    have dp:TOk N [(xi,Rb i)]:=by rw[<-ha.out,M.2 i];exact(Tl.pt C f (ivF (n*n)) (D i)).ok
    have e2:l.length<=200:=by have:=HG.2.2.2.1;have:=K.2.2.2.2.2.2;have:=HI;have:=kv.2;omega
    have km:0<l.length:=by have:=HG.2.2.2.1;have:=kv.1;omega
    have bl:=Hid.mk' (λW=>lH (q i) k0.1 J W);have b8:=Hid.mk' (λW=>lH (Rb i) k0.2 xi W);have bt:=Hid.mk' (λ(s1 s2:XB) (W:XA) (h1:Sm 0 W s1 l) (h2:Sm 0 W s2 [(J,q i)])=>sW 0 s1 s2 l [(J,q i)] km oM (by simp) tk.sz b7.sz W h1 h2);have bf:=Hid.mk' (λ(s1 s2:XB) (W:XA) (h1:Sm 0 W s1 (l++[(J,q i)])) (h2:Sm 0 W s2 [(xi,Rb i)])=>sW 0 s1 s2 (l++[(J,q i)]) [(xi,Rb i)] (by simp) (by simp;omega) (by simp) (tk.app b7).sz dp.sz W h1 h2);rw[<-kx.out];refine(gwL [pE u3,pE (jZ k),pE (sZ B t t),pE (iZ i),pE (oZ B (0+33*i)),pE (pvl (q i)),pE (nv J),pM (QR r k) [(J,q i)],pM (QR r k) (l++[(J,q i)]),pE (oZ k 1),pE (sZ A t t),pE (iZ i),pE (oZ A (0+33*i)),pE (pvl (Rb i)),pE (nv J),pE (nv xi),pM (QR r k) [(xi,Rb i)],pM (QR r k) (l++[(J,q i)]++[(xi,Rb i)])] (λW=>kZ Y W) (λW W' hb h=>h.trans (hb.mono h.size))).tail2 18 kR kR kR ⟨
     gO 3 u3,
     gO 4 (jZ k),
     fW (T:=83) 1 35 k 0 (sZ B t t) uPL (λx W h=>h) (λW o=>(hu W o).2.1) (λ_=>rfl),
     gO 9 (iZ i),
     RG.gX 2 36 3 37 (atP (k:=B) (o:=0) (n:=t) (c:=t) (i:=i) HI),
     gLr 4 38 (λW o=>(hu W o).2.2.2.1) uCP cj,
     gLo 11 (λW o=>RG.range_below K8.2.2.2.1 o K8.2.2.1) rSc nSc,
     dY 5 39 6 40 32 (λx y=>#[x,y]) (λz y W hx L o=>by
      obtain rfl:z=pvl (q i):=hx;obtain rfl:y=nv J:=L;apply(bl W).mono;rintro e W' ⟨uu,rfl,hb,g,rfl,hg,R⟩;exact⟨_,rfl,hb,FK R (hn W o g hg)⟩),
     dY 0 34 7 41 31 (λx y=>#[x,y]) (λz y W hx L o=>by
      obtain rfl:z=u3:=hx;have L:=L;apply(bt z y W ((K8.1.grow o).sm.sm) L.sm).mono;rintro e W' ⟨uu,rfl,hb,S⟩;exact⟨_,rfl,hb,S.q.mono λg hg=>hn W o g hg⟩),
     gP 4 (jZ k) (oZ k 1),
     fW (T:=83) 9 43 k 1 (sZ A t t) uPL (λx W h=>h) (λW o=>(hu W o).2.2.1) (λ_=>rfl),
     gO 9 (iZ i),
     RG.gX 10 44 11 45 (atP (k:=A) (o:=0) (n:=t) (c:=t) (i:=i) HI),
     gLr 12 46 (λW o=>(hu W o).2.2.2.2) uCP bk,
     gLo 11 (λW o=>RG.range_below K8.2.2.2.1 o K8.2.2.1) rSc nSc,
     oC 14 48 144 (λx=>#[x]) (λz W hx o=>by
      obtain rfl:z=nv J:=hx;exact ds W),
     dY 13 47 15 49 32 (λx y=>#[x,y]) (λz y W hx L o=>by
      obtain rfl:z=pvl (Rb i):=hx;obtain rfl:y=nv xi:=L;apply(b8 W).mono;rintro e W' ⟨uu,rfl,hb,g,rfl,hg,R⟩;exact⟨_,rfl,hb,FK R (hn W o g hg)⟩),
     dY 8 42 16 50 31 (λx y=>#[x,y]) (λz y W hx L o=>by
      have hx:=hx;have L:=L;apply(bf z y W hx.sm L.sm).mono;rintro e W' ⟨uu,rfl,hb,S⟩;exact⟨_,rfl,hb,S.q.mono λg hg=>hn W o g hg⟩),yEZ⟩ (XR _ _).drew ?_
    intro V W9 b4 kw;have kd:=b4 17 dC;have K9:=mk2 ((K8.1.grow kw).hide kd) (K8.2.1.below kw);dsimp only[bW,YT,yAb,yAd];generalize V 17=s17 at K9⊢;clear kd b4 kw K8 hu hn bl b8 bt bf;generalize V 0=y0;generalize V 1=y1;generalize V 2=y2;generalize V 3=y3;generalize V 4=y4;generalize V 5=y5;generalize V 6=y6;generalize V 7=y7;generalize V 8=y8;generalize V 9=y9;generalize V 10=ya;generalize V 11=yb;generalize V 12=yc;generalize V 13=yd;generalize V 14=ye;generalize V 15=yf;generalize V 16=yg;clear V;obtain⟨ev,hw,L,k8,T⟩:=K9.1.r2;have cf:GOk N (m+m) c G H U:=tW (oN HG.2.2.2.2.1) HG.2.2.2.2.2.1 HG.2.2.2.2.2.2 HG.1 HG.2.1 K.2.2.2.1 K.2.2.2.2.1 K.2.2.2.2.2.1;obtain⟨xo,ka⟩:=yH ((ivF n).val);have ci:x<N:=h7.out▸n.isLt;have c8:sIn N x=xo:=by rw[<-h7.out,<-ka.out];rfl
    have k2:=GH K.2.1 m c HG.2.2.2.2.1 G H U cf x ci v W9 K9.1.qn K9.1.gr;rw[c8]at k2;obtain⟨yv,hq⟩:=yH v;have R:Hid (X9 ev.toList.toArray=yv/\Row W9 (k+2) ev.toList/\gZ 150 ev.toList.length/\ev.size=3):=⟨hw.symm.trans hq,T,by rw[XU,L];exact iGr,L⟩
    rw[hq.out,h8.out]at k2;have d2:=Hid.mk' k2;obtain⟨dG,Z,S⟩:=XE.1 uGr;have be:Hid (prog.underlying 150=some dG/\dG.isRow=true):=⟨Z,S⟩
    clear hw L k8 T cf ci c8 k2 Z S;go_wp2_with (first|(refine YI rfl 150 (.tmp 6) rfl (k+2) 0 ?_ ev.toList dG ?_ ?_ ?_ ?_ ?_;rfl;exact R.2.1.2.1;exact be.1;exact be.2;exact R.2.2.1;rw[R.1])|(refine ldR 10 K9.2.2.1 h8 rSc nSc ?_)|fail)
    refine d2.mono ?_;rintro e Wa ⟨vf,rfl,b6,bq⟩;obtain⟨ef,cz,he,ke⟩:=bq.ar;subst cz;have La:=(K9.1.grow b6).next bq he ke;obtain⟨Wb,c5⟩:=yH (Wa.setCells (k+2) 0 ef.toList);rw[c5.out]at La;have kp:Hid (Wa.there (k+2) 0 ef.size/\gZ 150 ef.size/\ef.all (·.oneCell')=true):=by
     refine⟨?_,by rw[he];exact iGr,ke⟩;rw[he];have:=(R.2.1.below b6).2.2;rw[XU,R.2.2.2]at this;exact this
    have bs:Hid (∃v G H l,Gd N (2^(t-(i+1))) (2^(i+1)) G ((aC C f).vst (chF N) ivF t E D v0 (i+1)).g/\Gd N (2^(t-(i+1))) (2^(i+1)) H ((aC C f).vst (chF N) ivF t E D v0 (i+1)).h/\Tl N l ((aC C f).vst (chF N) ivF t E D v0 (i+1)).p/\l.length=l0.length+2*(i+1)/\Lk w Wb r k B A t a.val b.val (2^(t-(i+1))) v s17 q Rb ((aC C f).vst (chF N) ivF t E D v0 (i+1)).s G H U l):=by
     show ∃v G H l,_;rw[HS.out,HE.1,HE.2];have g1:=HG.1.fold C f (ivF n) n;have g2:=HG.2.1.fold C f n (ivF n);rw[h7.out,ka.out]at g1 g2;have tl:=(HG.2.2.1.app C f (Tl.pt C f (n*n) (E i))).app C f (Tl.pt C f (ivF (n*n)) (D i));rw[X.out,ha.out]at tl;have ct:Tl N (l++[(J,q i)]++[(xi,Rb i)]) ((aC C f).ad ((aC C f).ad Vi.p ((aC C f).ac (n*n) (E i))) ((aC C f).ac (ivF (n*n)) (D i))):=by rw[M.1 i,M.2 i];exact tl
     exact⟨_,_,_,_,g1,g2,ct,by have:=HG.2.2.2.1;simp;omega,La⟩
    obtain⟨vo,bc⟩:=hE (X9 ef);rw[bc.out];go_wp2_with (first|(refine Yk rfl 150 (.tmp 6) _ rfl (k+2) 0 ef ?_ ?_ ?_ ?_ ?_ ?_;rfl;exact bc.symm;exact kp.1;exact kp.2.1;exact kp.2.2;rw[c5.out])|fail)
    go_roundg (gk-1)
    case measure=>have:=HI;omega
    case rel=>exact⟨i+1,oN HI,rfl,bs⟩
  .have d8:¬(i:Int)<(t:Int):=oM;have db:i=t:=oM;obtain⟨v,G,H,l,hG,hH,hl,kk,hR⟩:=KM;subst db;rw[yBi,yBd]at hG hH hR;have k1:0<2^i:=yAz dC;have bo:2^i<=64:=XH (Y5 dC K.2.2.2.2.2.2) dC;obtain⟨l1,l2,Y,d3,dq,cH,cM,cP⟩:=U0 (Q:=QR r k) C K.2.1 f K.2.2.1 k1 bo hG hH K.2.2.2.1 K.2.2.2.2.1 K.2.2.2.2.2.1 hl (by have:=K.2.2.2.2.2.2;have:=kv.2;omega) a b;have cp:decide (Y=o33)=Bd:=by
    have h2:=dq.trans bz.symm;cases Bd with
    | true=>exact decide_eq_true (h2.2 rfl)
    | false=>exact decide_eq_false λh=>Bool.false_ne_true (h2.1 h)
   obtain⟨ev,hw,L,k8,T⟩:=hR.r2;obtain⟨g1,ks⟩:=hE (wr.heap.size);obtain⟨n,X⟩:=hE (lZ wr (wn a.val) 44);obtain⟨g2,ku⟩:=yH n.heap.size;obtain⟨W2,kt⟩:=yH (n.alloc (.cells (wn b.val).toArray 44));have b1:kZ wr n:=X.out▸aD _;have b2:kZ n W2:=kt.out▸aD _;have r1:Row n g1 (wn a.val):=X.out▸ks.out▸row_new wr _ _;have r2:Row W2 g2 (wn b.val):=kt.out▸ku.out▸row_new n _ _;have L1:=hR.grow b1;have L2:=L1.grow b2;have q1:QR r k g1:=ks.out▸hR.qn _ (XD _);have q2:QR r k g2:=ku.out▸L1.qn _ (XD _);have bh:=cH W2 v _ _ L2.gr (TS (r1.below b2) q1) (TS r2 q2);obtain⟨yv,hq⟩:=yH v;obtain⟨va,bn⟩:=yH (nv a.val);obtain⟨vb,c7⟩:=yH (nv b.val);rw[hq.out]at bh;have ra:∀ {W:XA},Row W k (inL B A i a.val b.val)->W.rangeAt k 2 (wn a.val)/\W.rangeAt k 6 (wn b.val):=λhW=>⟨λj z o=>by
    have:=hW.2.1 (2+j) z (by
     have J:j<4:=(XM.1 o).1;match j,J with
     | 0,_=>exact o
     | 1,_=>exact o
     | 2,_=>exact o
     | 3,_=>exact o
     | j+4,h=>omega)
    rw[XI]at this;exact this,λj z o=>by
    have:=hW.2.1 (6+j) z (by
     have J:j<4:=(XM.1 o).1;match j,J with
     | 0,_=>exact o
     | 1,_=>exact o
     | 2,_=>exact o
     | 3,_=>exact o
     | j+4,h=>omega)
    rw[XI]at this;exact this⟩
   have S1:Hid ((Yw 143 1 #[(0,va)]).run prog wr=.ok (sZ g1 1 1) n):=bn.out▸ks.out▸X.out▸Vn (n:=a.val) (w:=wr);have S2:Hid ((Yw 143 1 #[(0,vb)]).run prog n=.ok (sZ g2 1 1) W2):=c7.out▸ku.out▸kt.out▸Vn (n:=b.val) (w:=n);have kz:=mk3 ((ra hR.r0).1) ((ra L1.r0).2) T.2.1;have R:Hid (X9 ev.toList.toArray=yv/\gZ 150 ev.toList.length):=⟨hw.symm.trans hq,by rw[XU,L];exact iGr⟩
   obtain⟨dG,Z,S⟩:=XE.1 uGr;obtain⟨dS,kc,k9⟩:=XE.1 rSc;have HD:Hid ((prog.underlying 150=some dG/\dG.isRow=true)/\prog.underlying 44=some dS/\dS.isRow=true):=⟨⟨Z,S⟩,kc,k9⟩
   have d9:=Hid.mk' bh;have V:=Hid.mk' (YV cM cP);have cq:=Hid.mk' L2;obtain⟨vz,d7⟩:=hE (X9 z33.toArray);obtain⟨vy,bd⟩:=hE (pvl Y);rw[bd.out]at V;have HZ:Hid (∀W,(binOp .eql 51 vy vz).run prog W=.ok (.bool Bd) W/\(Instr.build 51 #[]).run prog W=.ok vz W/\(eqGuard .eql 51 (.tmp 67) (.tmp 68) vy vz).run prog W=.ok () W):=by
    rw[<-d7.out,<-bd.out,<-cp];exact λW=>⟨by rw[Ol];exact LG d3 rfl (w:=W),Qi (w:=W),by unfold pvl;kernel_rfl⟩
   go_wp2_with (first|(refine YI rfl 150 (.tmp 6) rfl (k+2) 0 ?_ ev.toList dG ?_ ?_ ?_ ?_ ?_;rfl;exact kz.2.2;exact HD.1.1;exact HD.1.2;exact R.2;rw[R.1])|(refine ldR 57 kz.1 bn rSc nSc ?_)|(refine ldR 60 kz.2.1 c7 rSc nSc ?_)|(refine jK (v:=sZ g1 1 1) (w':=n) rfl 143 1 _ rfl #[(0,va)] ?_ ?_ ?_;kernel_rfl;exact S1)|(refine jK (v:=sZ g2 1 1) (w':=W2) rfl 143 1 _ rfl #[(0,vb)] ?_ ?_ ?_;kernel_rfl;exact S2)|fail)
   refine d9.mono ?_;rintro e W3 ⟨s1,rfl,dy,dh⟩;have L3:=cq.grow dy;have J:=Hid.mk' (YV L3 (show Sm 0 W3 s1 l1 from by
    obtain⟨g,c,x1,x2,-,x4⟩:=dh;exact⟨g,c,x1,x2,Zl _,x4⟩))
   go_wp2_with fail
   apply(V.1 W3 s1 u3 J.2 J.1.sm.sm).mono;rintro e W4 ⟨s2,rfl,k7,d0⟩;have L4:=J.1.grow k7;have bi:=Hid.mk' (YV L4 (show Sm 0 W4 s2 l2 from by
    obtain⟨g,c,x1,x2,-,x4⟩:=d0;exact⟨g,c,x1,x2,Zl _,x4⟩))
   go_wp2_with fail
   apply(V.2 W4 s2 bi.2).mono;rintro e W5 ⟨uu,rfl,da,de⟩;have c9:=de.symm;subst c9;have L5:=Hid.mk' (bi.1.grow da).on;go_wp2_with (first|(refine mB (v:=vz) (w':=W5) rfl 51 _ rfl #[] ?_ ?_ ?_;kernel_rfl;exact(HZ W5).2.1)|(refine bH (v:=.bool Bd) (w':=W5) rfl (.binOp .eql 51 (.tmp 67) (.tmp 68) 51) rfl ?_ ?_;exact ED (I:=eqGuard .eql 51 (.tmp 67) (.tmp 68) vy vz >>= λ_=>binOp .eql 51 vy vz) (by rw[X1,(HZ W5).2.2];exact(HZ W5).1))|fail)
   go_ret;exact⟨_,rfl,L5,rfl⟩
end
end Go.Proofs.YtlofhpkoaljmeaaGreat
