import Derived.OpenShut
import Derived.ShutString
import Derived.Test.YtdoammpgchejcaaGreatrp7
set_option linter.unusedVariables false
set_option linter.defProp false
set_option linter.constructorNameAsVariable false
set_option linter.unusedSimpArgs false
set_option maxRecDepth 1000000
set_option maxHeartbeats 4000000
namespace Go.Proofs.YtdoammpgchejcaaGreat
open _root_ renaming Array->yt,Bool->zk,ByteArray->R,Fin->B,Int->Y,List->H,Nat->I,Option->zb,UInt8->yv,rfl->Z
open Go.Proofs.YtdoammpgchejcaaGreat renaming Fld->At,Gives->yy,Row->yz,i40->zy,oM->S,uZ->U,yFU->zd,yFV->zi,yFW->yw
open Go.RowKit renaming Hid->E
open Go.Sort renaming Holds->yx
open _root_.Bool renaming false->D,true->J
open _root_.Option renaming none->G,some->F
open EC NT RG SP
open _root_.And renaming intro->qh
open _root_.Array renaming getD_eq_getD_getElem?->YG,length_toList->YM,mk->uo,toList_append->yk
open _root_.Bool renaming and_true->yFf
open _root_.ByteArray renaming data_append->xu,empty->yDW,size_append->yDg
open _root_.Decidable renaming byContradiction->yCZ
open _root_.Go renaming Calls->Zl,Oper->Y9,Program->Zw,TypeId->YW,Value->Yq,World->Yp,bodyPost_ret->YB,execOp->Za,run_loadVar_mid->oX,trodAll_cons_mk->yCv,undef->ae,wp_block->ZR,wp_cond_false->YY,wp_cond_true->Y5,wp_exit->fT,wp_ret->Zr,wp_seq->Yt,wp_skip->ZK
open _root_.Go.Act renaming put->Zo
open _root_.Go.Builtin renaming append_->Zn
open _root_.Go.IntKind renaming i64->YQ,u64->Zk,wrap_i64->Zy
open _root_.Go.Next renaming value->fI
open _root_.Go.Oper renaming wp->ZY
open _root_.Go.Region renaming ready->Y6,wanted->gE
open _root_.Go.RowKit.Below renaming refl->YH
open _root_.Go.Sem renaming run_bind->YU
open _root_.Go.Value renaming agg->Y8
open _root_.Int renaming ofNat_lt->yCo
open _root_.List renaming append_nil->po,foldl_nil->yE4,foldl_cons->yDE,all_cons->yFb,all_nil->yFi,all_toArray->yEK,append_assoc->pk,cons->qn,cons_append->ZI,drop->qg,drop_succ_cons->uw,drop_zero->ux,getElem?_append_left->Zc,getElem?_append_right->Zx,getElem?_cons_succ->YP,getElem?_cons_zero->YS,getElem?_eq_getElem->YC,getElem?_eq_some_iff->YF,getElem?_map->ZE,getElem?_range->uy,getElem?_toArray->YV,length_append->Yx,length_cons->Y2,length_map->YO,length_nil->Z2,length_range->xk,map_cons->pg,map_nil->xo,mem_append->ZN,mem_append_left->tE,mem_append_right->xz,mem_cons->Zb,mem_map->YT,mem_of_getElem?->Y7,mem_singleton->ZX,nil_append->ZQ,nodup_append->yCF,nodup_cons->rx,not_mem_nil->YI,range->ZD,replicate->ZB,setIfInBounds_toArray->Yw,set_cons_succ->Yy,set_cons_zero->Yz,take->gD,take_succ_cons->ts,take_zero->qt
open _root_.Nat renaming div_eq_of_lt->pj,div_one->wD,le_of_ble_eq_true->Zh,le_refl->Ys,le_trans->YA,lt_irrefl->yFh,lt_of_lt_of_le->Yr,lt_trans->yFq,mod_eq_of_lt->YL,mod_lt->ZL,mul_add->pi,mul_le_mul->lp,mul_one->ay,not_lt_zero->p9,pow_le_pow_right->ZU,pow_pos->oE,pow_zero->gF,reduceAdd->Zs,reduceEqDiff->yr,sub_self->oF,zero_add->Yv,zero_le->aw
open _root_.Option renaming map_eq_some_iff->Yu,some->YR
open _root_.Or renaming inl->Y3,inr->YZ
open _root_.Prod renaming mk->ZV
open Go.Proofs.Tryz
open Go.RowKit Go.Sort Go.Deep
variable {P:Nat}[NeZero P]{N:Nat}
variable {Q:Nat->Prop}{T:YW}{W W' w:Yp}{a:Nat->Nat}{b d g i k m n t:Nat}{c:Int}{c' r us vs ys:List Yq}{e u v x:Yq}{f f':Nat->List Yq}{l:List Nat}{o:Func}{rs:List (Nat × List Yq)}{s:Option Tmp}{sp:Yq->Pq}{tmps:Array Yq}{y:Operand}
section
open SPA
variable {P:Nat}[NeZero P]{N:Nat}[NeZero N]
omit [NeZero N] in
theorem SLq.fin(b:I->Fin N)(h:SLq Q W v n a)(e:∀i,i<n->a i=(b i).val):SLq Q W v n (λi=>(b i).val):=h.congr e
omit [NeZero N] in
theorem Ln.fin{b:I->I}(c d:I->Fin N)(h:Ln Q W v n a b)(e:∀i,i<n->a i=(c i).val)(e':∀i,i<n->b i=(d i).val):Ln Q W v n (λi=>(c i).val) (λi=>(d i).val):=by
 let⟨x,y,h1,f,k⟩:=h.ex
 exact⟨x,y,h1,f.congr e,k.congr e'⟩
def Hv(h1:1<N)(v i:I):v/2^i%2=(btF N v i).val:=by
 exact(YL (Yr (ZL _ dC) h1)).symm
def UT{v:I}(h1:1<N):sMi N (v/2^i%2) 1=(btF N v i-1).val:=by
 rw[Nc,<-Hv h1,show(1:B N).val=1 from YL h1]
def Wn{a:B N}{l m:I->B N}{Gb X:Bs}(C:At P)(O:Ord N)(b:∀r:EC.Pt P,On r->mul N r=G)(j:IsP N)(f:0<n)(y:n<=64)(hG:wr (gG P)=Gb)(q:X=wP ((aI C b).ad ((aI C b).ac a (gPG C)) ((aI C b).ad ((aI C b).dt l (gPt C ⟨#[108,101,102,116]⟩) n) ((aI C b).dt m (gPt C ⟨#[114,105,103,104,116]⟩) n)))):
 ∃d lb,(∀W:Yp,dZ 64 #[pvl Gb,nv a.val] W λe w'=>Sm W.heap.size w' e d) /\
  (∀(Q:I->Prop) (W:Yp) (v va c:Yq),GRq Q W v n (gGT P) (hGT P) (uGT P)->SLq Q W va n (λi=>(l i).val)->SLq Q W c n (λi=>(m i).val)->dZ 66 #[v,va,c] W λe w'=>Sm W.heap.size w' e lb) /\
  (∀(W:Yp) (s z:Yq),Sm 0 W s d->Sm 0 W z lb->dZ 65 #[s,z] W λe w'=>Sm W.heap.size w' e (d++lb)) /\
  (∀(W:Yp) (v:Yq),Sm 0 W v (d++lb)->eZ 67 #[v] W (pvl X)):=by
 have d:=I1 C j.1 n;have o:=Aa C j.1 n;have g:=GT f (by decide:0<1) S d o (yF C j.1) I.one_pos (by show 1<=16;decide);have w:Gb.size=33:=by rw[<-hG];exact aY _
 have t0:Tl N [(a.val,Gb)] ((aI C b).ac a (gPG C)):=by rw[<-hG];exact Tl.pt C b a (gPG C)
 have t1:=(d.cmb C b l).1.app C b (o.cmb C b m).1;have l1:(eO N (λi=>(l i).val) (gGT P) n++eO N (λi=>(m i).val) (hGT P) n).length=n+n:=by rw[Yx,(d.cmb C b l).2,(o.cmb C b m).2,I.one_mul]
 have t2:=t0.app C b t1;refine⟨_,_,λW=>?_,λ_ W v va c h1 p x=>Es O n 1 (gGT P) (hGT P) (uGT P) g _ _ (λi _=>(l i).isLt) (λi _=>(m i).isLt) v va c W h1 p x,λW s z h1 p=>kE 0 s z _ _ (by simp) (by simp) S t0.ok.sz t1.ok.sz W (YZ h1) (YZ p),λW v hv=>?_⟩
 .apply(BG Gb w a.val W).mono;rintro e W' ⟨u,rfl,t,k,rfl,g,hR⟩;exact⟨_,Z,t,Sm.one hR g Z⟩
 rw[q];exact t2.point C O b (by simp) (by rw[Yx,l1];simp;omega) hv
def yU(h1:1<N)(x:B N)(i:I):pwN N x.val i=(pwF x i).val:=(Iz h1 x i).symm
def S4{R:Rv N}(k:IsP N)(b:2<N):sPl N (sTi N R.z.val (pwN N R.y.val i)) (sTi N (sTi N R.z.val R.z.val) (pwN N 2 i))=(R.sh i).val:=by
 show _=(R.z*pwF R.y i+R.z*R.z*pwF (ofF N 2) i).val;rw[mM,jN,jN,jN,<-yU k.1,<-yU k.1,show(ofF N 2).val=2 from YL b]
def pLn(Q:I->Prop)(n:I)(a b:I->I):S1:=⟨λv w=>Ln Q w v n a b,λ_ _ _ k h=>h.keep (Kq.of_below k)⟩
omit [NeZero N] in
theorem J9(O:Ord N)(a b:B N)(W:Yp):eZ 79 #[nv a.val,nv b.val] W (nv (a*b).val):=by
 rw[jN];exact kF O a.val b.val a.isLt b.isLt W
omit [NeZero N] in
theorem Ux(O:Ord N)(a b:B N)(W:Yp):eZ 80 #[nv a.val,nv b.val] W (nv (a+b).val):=by
 rw[mM];exact nP O a.val b.val a.isLt b.isLt W
def rF(O:Ord N)(k:IsP N){y:B N}{L:Bs}(h:y=rW N L):chS N L=y.val:=by
 rw[h];exact Da k.1 (pO O)
def VV(b:I)(g e:Yq)(L:Bs):S1:=⟨λv w=>∃r,v=.tuple #[lgV r,g,e]/\b<=r/\r<w.heap.size/\hZ w r 0 L,λ_ _ _ c ⟨r,h1,f,k,d⟩=>⟨r,h1,f,Yr k c.size,Holds.below d c k⟩⟩
def VT(b:I)(L:Bs):S1:=⟨λv w=>∃r,v=lgV r/\b<=r/\r<w.heap.size/\hZ w r 0 L,λ_ _ _ c ⟨r,h1,e,k,d⟩=>⟨r,h1,e,Yr k c.size,Holds.below d c k⟩⟩
def GK{r:I}{L:Bs}{cs:H Yq}(h:hZ W r 0 L)(hl:0<L.size)(c:yz W k (u :: cs))(d:∀b:yv,encB b≠u):r≠k:=by
 rintro rfl;have h1:=(h 0 hl).1;rw[c.2.1 0 u Z]at h1;exact d _ (YR.inj h1).symm
def DjR(B:I)(W:Yp)(t a b c d u m s:I)(k i e f:Yq):Prop:=∃gA gB l r,e=r32 gA/\f=r32 gB/\(gA :: gB :: (l++r)).Nodup/\W.ownsRow 0 23 1 k t (l.map r33)/\W.ownsRow 0 23 1 i t (r.map r33)/\(∀g,g∈gA :: gB :: (l++r)->B<=g/\g<a)/\Up7 B a b c d u m s W.heap.size
def DjR.keep{B a c u s:I}{k f i:Yq}(h:DjR B W t a b c d u m s k e f i)(hs:W.heap.size<=W'.heap.size)(hv:∀g,k.ownBlock=F g->W'.heap[g]? = W.heap[g]?)(n:∀g,e.ownBlock=F g->W'.heap[g]? = W.heap[g]?):DjR B W' t a b c d u m s k e f i:=by
 let⟨gA,gB,l,r,h1,v,p,o,j,q,w⟩:=h
 exact⟨gA,gB,l,r,h1,v,p,cG o hv,cG j n,q,by unfold Up7 at *;omega⟩
def DjR.of{B a c u s:I}{o i j:Yq}(h:DjF B W t e o i j)(p:kZ W W')(v:Up7 W.heap.size a b c d u m s W'.heap.size)(y:B<=W.heap.size):DjR B W' t a b c d u m s e o i j:=by
 let⟨gA,gB,l,r,h1,x,w,n,f,q⟩:=h
 exact⟨gA,gB,l,r,h1,x,w,cG n λg k=>p.block g (cY n k).2.1,cG f λg k=>p.block g (cY f k).2.1,λg k=>⟨(q g k).1,by have:=(q g k).2;have:=v.1;omega⟩,by unfold Up7 at *;omega⟩
structure RgA(B0 t:I)(p:Rp)(Lb Rb:I->Bs)(Ab Bb:Bs)(e:Yq)(W:Yp):Prop where
 ex:∃a b c d u m s vL vR vA vB,e=.agg #[r33 a,r33 b,r33 c,r33 d,r32 u,r32 m,r32 s,vL,vR,vA,vB]/\RgT (λ_=>True) W p a b c d u m s/\TlL (λ_=>True) B0 t W vL Lb/\TlL (λ_=>True) B0 t W vR Rb/\ElQ (λ_=>True) 32 W vA Ab/\ElQ (λ_=>True) 32 W vB Bb
 dj:∀a b c d u m s vL vR vA vB,e=.agg #[r33 a,r33 b,r33 c,r33 d,r32 u,r32 m,r32 s,vL,vR,vA,vB]->DjR B0 W t a b c d u m s vL vR vA vB
omit [NeZero N] [NeZero P] in
theorem RgA.set{f:I}{p:Rp}{Lb Rb:I->Bs}{v r:Bs}(h:RgA f t p Lb Rb v r e W)(O:yz W k (nZ :: vs))(hk:k<f):RgA f t p Lb Rb v r e (W.setCells k 0 us):=by
 let⟨a,b,c,d,u,m,s,z,Q,C,L,o,hT,w,hR,A,T⟩:=h.ex
 have el:∀ {m:I}{x:Yq}{b:Bs},0<m->ElQ (λ_=>True) m W x b->ElQ (λ_=>True) m (W.setCells k 0 us) x b:=λK hx=>((hx.off K O).keep (Kq.set λg l=>l)).mono2 λ_ _ _=>trivial
 have y:∀ {i:Yq}{B:I->Bs},TlL (λ_=>True) f t W i B->TlL (λ_=>True) f t (W.setCells k 0 us) i B:=λhx=>by
  let⟨xs,h2,X⟩:=hx.ex
  refine⟨xs,cG h2 λg l=>aL k us 0 W g (oN ((hx.lt l).1)),λj V=>?_⟩;let⟨x,M,n⟩:=X j V
  exact⟨x,M,el dC n⟩
 have q:∀ {i:Yq}{B:I->Bs},TlL (λ_=>True) f t W i B->∀g,i.ownBlock=F g->(W.setCells k 0 us).heap[g]? = W.heap[g]?:=λhx g l=>aL k us 0 W g (oN ((hx.lt l).1))
 refine⟨⟨a,b,c,d,u,m,s,z,Q,C,L,o,⟨el dC hT.a,el dC hT.b,el dC hT.c,el dC hT.d,el dC hT.e,el dC hT.f,el dC hT.g⟩,y w,y hR,el dC A,el dC T⟩,λa' b' c' d' u' m' s' h0 X V M n=>?_⟩;have e3:=n;rw[o]at e3;simp only[Y8.injEq,uo.injEq,qn.injEq,and_true]at e3;obtain⟨-,-,-,-,-,-,-,rfl,rfl,-,-⟩:=e3;exact(h.dj _ _ _ _ _ _ _ _ _ _ _ n).keep (by rw[setCells_size];exact Ys _) (q w) (q hR)
def Qt{R:Rv N}(C:At P)(k:∀r:EC.Pt P,On r->mul N r=G)(c:IsP N):Gd N n 1 (JF N R.y.val (hGT P)) (R.hh (aI C k) (gPt C ⟨#[114,105,103,104,116]⟩)):=by
 have g:=Aa C c.1 n;refine⟨λi b=>?_,λi b=>by unfold JF;rw[YO];exact g.len i b⟩;have h:=(g.tl i b).tm C k (pwF (ivF R.y) i);rw[<-yU c.1]at h;exact h
def PK(C:At P)(O:Ord N)(k:∀r:EC.Pt P,On r->mul N r=G)(hP:IsP N)(t:I)(ht:t<=6)(R:Rv N)(hn:R.n=2^t)(hv:R.v<18446744073709551616)(hN:18446744073709551616<=N)(sd:H yv)(sq:zb Addr)(sn sc:I)(V A S C1 C2 L3 L6 L8:Bs)(hL:RvL C k R V A S C1 C2 L3 L6 L8)(hS:RvS R sd)(q:Md.Ps Bs (B N) (OnP P))(ig:q.s=aN L8)(l6:q.a=R.a)(mb:q.b=R.b)(m0:q.g=gPt C ⟨#[108,101,102,116]⟩)(mg:q.h=R.hh (aI C k) (gPt C ⟨#[114,105,103,104,116]⟩))(u:OnP P)(hu:u=(aI C k).ac R.w (uPt C))(Lb Rb:I->Bs)(ly:∀j,Lb j=wP ((aI C k).pLi (chF N) ivF u t q j))(mf:∀j,Rb j=wP ((aI C k).pTi (chF N) ivF u t q j))(Ab Bb:Bs)(lx:Ab=bx (((aI C k).pst (chF N) ivF u t q t).a 0).val)(jw:Bb=bx (((aI C k).pst (chF N) ivF u t q t).b 0).val)(pz:Rp)(h8:E (⟨A,S,C1,C2,R.tau.val,R.mu.val,R.t.val⟩=pz))(w:Yp)(hp:PartOk w (.slice sq sn sc) sd):
 Zl prog 18 #[U (R.v:Y),nv R.k.val,iZ (R.n:Y),.slice sq sn sc] w (rZ w λe w'=>∃f,w.heap.size<=f/\RgA f t pz Lb Rb Ab Bb e w'):=by
 obtain⟨vr,k2⟩:=hE (nv R.k.val);obtain⟨va,k6⟩:=hE (nv R.al.val);obtain⟨vh,k4⟩:=hE (nv R.rho.val);obtain⟨v1,k7⟩:=hE (nv R.t1.val);obtain⟨v2,hy⟩:=hE (nv R.t2.val);obtain⟨k5,jh⟩:=hE (w.heap.size);obtain⟨w1,gh⟩:=hE (w.alloc (.cells (wn R.k.val).toArray 49));obtain⟨k8,fn⟩:=hE (w1.heap.size);obtain⟨w2,g1⟩:=hE (w1.alloc (.cells z11.toArray 28));have K2:=mk1 (((Mp.start w).new jh gh).new fn g1);have B1:E ((Instr.box 49 vr).run prog w=.ok (jZ k5) w1):=by rw[<-k2.out,<-gh.out,<-jh.out];exact boxS _ w
 have n:R.n<=64:=by rw[hn];exact YA (ZU dC ht) dC
 have kv:E (∀W,kZ w W->PartOk W (.slice sq sn sc) sd):=λW hb=>hp.below hb
 obtain⟨g3,w3,i7,g6,f8⟩:=C9 O ⟨#[97,108,112,104,97]⟩ dC sd sq sn sc w2 (kv w2 K2.bl) hS.al;rw[k6.out]at f8;rw[k2.out];go_enter func18,ntmps18;refine PW.bg [] ?_;refine PW.ns B1.out ?_;refine PW.al fn g1 ?_;refine PW.dn ?_;refine PW.bg [] ?_;refine PW.ns i7.out ?_;refine PW.gi f8.out λw4 i5=>?_
 have K4:=mk1 ((K2.grow g6.out).grow i5);obtain⟨g5,w5,iq,ff,du⟩:=C9 O ⟨#[114,104,111]⟩ dC sd sq sn sc w4 (kv w4 K4.bl) hS.rho;rw[k4.out]at du;clear f8 i5 g6 i7 K2;refine PW.go [] ?_;refine PW.ns iq.out ?_;refine PW.gi du.out λw6 gt=>?_
 have K6:=mk1 ((K4.grow ff.out).grow gt);clear du ff gt iq K4;refine PM.al 49 (RG.z 4) K6 λk9 w7 lc=>?_
 refine PM.al 49 (RG.z 4) lc λn4 w8 K8=>?_
 refine PM.st 2 (wn R.al.val) K8 k6 λw9 K9=>?_
 refine PM.st 3 (wn R.rho.val) K9 k4 λgy ey=>?_
 clear K6 K8 K9;refine PW.dn ?_;obtain⟨na,nf,cd,d7,kz⟩:=C9 O ⟨#[116,97,117,49]⟩ dC sd sq sn sc gy (kv gy ey.bl) hS.t1;rw[k7.out]at kz;refine PW.bg [] ?_;refine PW.ns cd.out ?_;refine PW.gi kz.out λg8 cj=>?_
 have fb:=mk1 ((ey.grow d7.out).grow cj);obtain⟨n5,mn,cf,db,ba⟩:=C9 O ⟨#[116,97,117,50]⟩ dC sd sq sn sc g8 (kv g8 fb.bl) hS.t2;rw[hy.out]at ba;clear kz d7 cj cd ey;refine PW.go [] ?_;refine PW.ns cf.out ?_;refine PW.gi ba.out λng de=>?_
 have j6:=mk1 ((fb.grow db.out).grow de);clear ba db de cf fb;refine PM.al 49 (RG.z 4) j6 λmm mj iu=>?_
 refine PM.al 49 (RG.z 4) iu λnm om fs=>?_
 refine PM.st 4 (wn R.t1.val) fs k7 λmr jn=>?_
 refine PM.st 5 (wn R.t2.val) jn hy λjg k1=>?_
 clear j6 fs jn;refine PW.dn ?_;have fp:=mk1 (We O R.v hv R.n n sd sq sn sc jg (kv jg k1.bl));refine PW.bg [] ?_;refine PW.ca fp.out ?_;rintro e og ⟨ct,xl,yl,rfl,g9,jk⟩;clear fp;obtain⟨m5,me,rfl,er,f6⟩:=(g9.fin R.l R.s (λi _=>Hv hP.1 R.v i) (λi _=>(hS.s i).symm)).ex;obtain⟨lo,l9,rfl,f0,ei⟩:=(jk.fin R.m R.q (λi _=>UT hP.1 (v:=R.v) (i:=i)) (λi _=>(hS.q i).symm)).ex;clear g9 jk;have ik:=mk1 ((((k1.gets ct (pqS m5 R.n λi=>(R.l i).val) er).has (pqS me R.n λi=>(R.s i).val) (f6.mono λg hg=>k1.nk g hg)).has (pqS lo R.n λi=>(R.m i).val) (f0.mono λg hg=>k1.nk g hg)).has (pqS l9 R.n λi=>(R.q i).val) (ei.mono λg hg=>k1.nk g hg));obtain⟨km,kd,kt,e1⟩:=(cF er).2;obtain⟨ki,b3,ko,L⟩:=(cF f6).2;obtain⟨b4,kg,b5,e3⟩:=(cF f0).2;obtain⟨b2,b8,kb,e4⟩:=(cF ei).2;subst e1 L e3 e4;clear er f6 f0 ei ct k1;refine PW.go [.agg #[.slice (F ⟨km,kd,G⟩) R.n kt,.slice (F ⟨ki,b3,G⟩) R.n ko],.agg #[.slice (F ⟨b4,kg,G⟩) R.n b5,.slice (F ⟨b2,b8,G⟩) R.n kb]] ?_;refine PM.al 126 [.slice G 0 0,.slice G 0 0] ik λi2 o5 fl=>?_
 refine PM.al 126 [.slice G 0 0,.slice G 0 0] fl λfh n7 i1=>?_
 refine PM.st 6 [.slice (F ⟨km,kd,G⟩) R.n kt,.slice (F ⟨ki,b3,G⟩) R.n ko] i1 aq λni j4=>?_
 refine PM.st 7 [.slice (F ⟨b4,kg,G⟩) R.n b5,.slice (F ⟨b2,b8,G⟩) R.n kb] j4 aq λm7 j1=>?_
 clear ik i1 j4;refine PW.dn ?_;have HG:=mk1 (GR (P:=P) C R.n oM m7);refine PW.bg [] ?_;refine PW.ca HG.out ?_;rintro e l5 ⟨c9,hG⟩;clear HG;obtain⟨q1,q2,q3,rfl,ib,ji,i9⟩:=hG.ex;obtain⟨ga,oa,ca,e1⟩:∃g o c,q1=.slice (F ⟨g,o,G⟩) R.n c:=by obtain⟨g,o,c,h,-⟩:=ib;exact⟨g,o,c,h⟩
 obtain⟨gb,ob,cb,L⟩:∃g o c,q2=.slice (F ⟨g,o,G⟩) R.n c:=by obtain⟨g,o,c,h,-⟩:=ji;exact⟨g,o,c,h⟩
 obtain⟨gc,mc,cc,e3⟩:∃g m c,q3=sZ g m c:=by obtain⟨g,c,h,-⟩:=i9;exact⟨g,_,c,h⟩
 subst e1 L e3;have jo:=mk1 (j1.gets c9 (pqG _ R.n (gGT P) (hGT P) (uGT P)) hG);clear hG ib ji i9 c9 j1;have b9:=mk1 (Ww (P:=P) C l5);refine hG (wr (gG P)) λGb bh=>?_
 have f4:Gb.size=33:=by rw[<-bh.out];exact aY _
 refine hG (pvl Gb) λvG k3=>?_
 rw[bh.out,k3.out]at b9;refine PM.gi jo b9.out λoj i4=>?_
 clear b9 jo;have lG:(aA Gb).length=z33.length:=aB f4;refine PM.al 133 [.slice G 0 0,.slice G 0 0,.slice G 0 0] i4 λo3 n6 jj=>?_
 refine PM.al 103 z33 jj λmo ms gz=>?_
 refine PM.st 8 [.slice (F ⟨ga,oa,G⟩) R.n ca,.slice (F ⟨gb,ob,G⟩) R.n cb,sZ gc mc cc] gz aq λn8 im=>?_
 refine PM.st 9 (aA Gb) im k3 (λn0 ic=>?_) (hl:=lG) (hT:=(by rw[aB f4];exact iCP)) (h1:=(eH));clear i4 gz im;refine PW.dn ?_;refine PW.bg [] ?_;refine PM.al 137 rp0.l ic λl nh dq=>?_
 clear ic;refine PW.dn ?_;have dm:0<R.n:=by rw[hn];exact oE dC
 have sA:A.size=33:=by rw[hL.eA];exact aY _
 have sS:S.size=33:=by rw[hL.eS];exact aY _
 have iG:(prog.info? 103).map (·.size)=F (aA Gb).length:=by rw[aB f4];exact iCP
 obtain⟨la,lb,cT,cL,cP,cX⟩:=Wn C O k hP (n:=R.n) dm n (a:=R.al) (l:=R.l) (m:=R.m) (Gb:=Gb) (X:=A) bh.out hL.eA;have HX:=mk4 cT cL cP cX;clear cT cL cP cX;rw[k6.out,k3.out]at HX;refine hG (pvl A) λvA hvA=>?_
 rw[hvA.out]at HX;refine AM.bg 12 12 dq ?_;refine AM.ro 0 9 k3 ?_ (hT:=iG);refine AM.ro 1 2 k6 ?_;refine AM.ro 3 8 aq ?_;refine AW.va 4 (jZ i2) ?_;refine AM.ce 5 6 0 ?_;refine AW.va 6 (jZ fh) ?_;refine AM.ce 7 7 0 ?_;refine AW.ca 2 (λ_=>HX.1 _) (λe w' h=>h.1) ?_;rintro e oc ⟨cn,d8⟩;refine AW.ca 8 (λh=>HX.2.1 _ _ _ _ _ (h.get 4) (h.get 0) (h.get 2)) (λe w' h=>h.1) ?_;rintro L o8 ⟨kp,ci⟩;refine AW.ca 9 (λh=>HX.2.2.1 _ _ _ ((d8.q.keep (Kq.of_below kp)).sm) ci.q.sm) (λe w' h=>h.1) ?_;rintro e3 nc ⟨cq,df⟩;refine AW.gi 10 (λh=>HX.2.2.2 _ _ df.q.sm) λlm dh=>?_
 have e7:=mk1 ((((dq.drew.grow cn).grow kp).grow cq).grow dh);clear cn kp cq dh d8 ci df dq HX;refine AW.nx 11 (jZ l) ?_;refine hG (lm.setCells l 0 (aA A)) λo1 kh=>?_
 have c5:=mk1 (Rp.Xy Tj (e7.at_ 10) sA);refine hG ({ rp0 with a:=A }:Rp) λp1 ds=>?_
 rw[ds.out]at c5;have et:=mk1 (e7.upd 10 kh c5.2.1);refine AW.fi (us:=aA A) hvA (eH (a:=A)) (by rw[aB sA];exact iCP) (λ_=>⟨c5.1,?_⟩);rw[kh.out];clear e7 kh;obtain⟨la,lb,cT,cL,cP,cX⟩:=Wn C O k hP (n:=R.n) dm n (a:=R.rho) (l:=R.s) (m:=R.q) (Gb:=Gb) (X:=S) bh.out hL.eS;have HX:=mk4 cT cL cP cX;clear cT cL cP cX;rw[k4.out,k3.out]at HX;refine hG (pvl S) λvS fz=>?_
 rw[fz.out]at HX;refine AM.bg 12 12 et ?_;refine AM.ro 0 9 k3 ?_ (hT:=iG);refine AM.ro 1 3 k4 ?_;refine AM.ro 3 8 aq ?_;refine AW.va 4 (oZ i2 1) ?_;refine AM.ce 5 6 1 ?_;refine AW.va 6 (oZ fh 1) ?_;refine AM.ce 7 7 1 ?_;refine AW.ca 2 (λ_=>HX.1 _) (λe w' h=>h.1) ?_;rintro e o7 ⟨cz,cx⟩;refine AW.ca 8 (λh=>HX.2.1 _ _ _ _ _ (h.get 4) (h.get 1) (h.get 3)) (λe w' h=>h.1) ?_;rintro L ot ⟨b7,d4⟩;refine AW.ca 9 (λh=>HX.2.2.1 _ _ _ ((cx.q.keep (Kq.of_below b7)).sm) d4.q.sm) (λe w' h=>h.1) ?_;rintro e3 ny ⟨cp,cy⟩;refine AW.gi 10 (λh=>HX.2.2.2 _ _ cy.q.sm) λjz co=>?_
 have ec:=mk1 ((((et.drew.grow cz).grow b7).grow cp).grow co);clear cz b7 cp co cx d4 cy et HX;refine AW.nx 11 (oZ l 33) ?_;refine hG (jz.setCells l 33 (aA S)) λb6 kf=>?_
 have k0:=mk1 (Rp.sets c5.2.2 (ec.at_ 10) sS);refine hG ({ p1 with s:=S }:Rp) λp2 ew=>?_
 rw[ew.out]at k0;have c6:=mk1 (ec.upd 10 kf k0.2.1);refine AW.fi (us:=aA S) fz (eH (a:=S)) (by rw[aB sS];exact iCP) (λ_=>⟨k0.1,?_⟩);rw[kf.out];clear ec kf;refine hG (aN (aN L3)) λL5 ej=>?_
 have s5:L5.size=32:=by rw[<-ej.out];exact aW
 have sV:V.size=33:=by rw[hL.eV];exact aY _
 refine hG (Y8 p2.l.toArray) λvp jm=>?_
 refine hG (pvl V) λvV jd=>?_
 refine hG (nv R.v) λvn jb=>?_
 refine hG (nv R.y.val) λvy h7=>?_
 refine hG (nv R.z.val) λvz ha=>?_
 have cu:E (∀W,Zl prog 68 #[vp,vV,iZ (R.n:Y)] W (rZ W λe w'=>∃r,e=.tuple #[lgV r,vy,vz]/\W.heap.size<=r/\yx encB w' r 0 L5)):=λW=>by
  have h:=WU O p2 k0.2.2 V sV R.n oM W;rw[show bgL V R.n p2.a p2.s=L3 by rw[<-ew.out,<-ds.out];exact hL.l3.symm,rF O hP hL.y,rF O hP hL.z,ej.out,jm.out,jd.out,h7.out,ha.out]at h;exact h
 have di:E (∀W,Zl prog 69 #[vn,vr] W (rZ W λe w'=>e=vV)):=λW=>by
  have h:=vP C O (a:=R.v) (b:=R.k.val) oM R.k.isLt W;have e:(ofF N R.v).val=R.v:=YL oM;have L:=Aw C k (ofF N R.v) R.k;rw[e]at L;rw[L,show wP ((aI C k).cm (hPV C) (gPG C) (ofF N R.v) R.k)=V from hL.eV.symm,jb.out,k2.out,jd.out]at h;exact h
 have js:E (∀W,Zl prog 70 #[U (R.v:Y)] W (rZ W λe w'=>e=vn)):=λW=>by
  rw[<-jb.out];exact II R.v hv W
 refine hG b6.heap.size λb hb=>?_
 have kc:∀ {W},kZ b6 W->b<=W.heap.size:=λh=>hb.out ▸ h.size
 refine Yt ?_;refine(gwL [pE vp,pE (U (R.v:Y)),pE vn,pE vr,pE vV,pE (iZ (R.n:Y)),VV b vy vz L5,VV b vy vz L5,VT b L5,pE vy,pE vz,RG.pN b [.pointer G],RG.pN b (RG.z 4),RG.pN b (RG.z 4)] (λW=>kZ b6 W) (λW W' hb h=>h.trans (hb.mono h.size))).late 14 [9,10] (λj hj=>by
  rcases Zb.1 hj with rfl|hj
  .exact late1 15 7 75 λv W ⟨r,e,_⟩=>⟨vy,Z,λo ho W'=>by
    cases ho
    rw[e];kernel_rfl⟩
  .obtain rfl:=ZX.1 hj;exact late1 16 7 75 λv W ⟨r,e,_⟩=>⟨vz,Z,λo ho W'=>by
    cases ho
    rw[e];kernel_rfl⟩) (H5 (l:=[11,12,13]) ⟨al1 [.pointer G] 145 wH,al1 (RG.z 4) 49 wH,al1 (RG.z 4) 49 wH,yw⟩) kR kR kR ⟨
  gLo (cs:=p2.l) 17 (λW f=>((c6.grow f).at_ 10).2.1) uRd (by rw[Rp.len k0.2.2];exact iRd) (hR:=λ_=>jm.out),
  RG.gO 0 (U (R.v:Y)),
  IZ 1 77 70 (λx=>#[x]) (λx W e1 f=>by
   obtain rfl:x=U (R.v:Y):=e1;exact js W),
  gLo (cs:=wn R.k.val) 5 (λW f=>((c6.grow f).at_ 0).2.1) u40 zy (hR:=λ_=>k2.out),
  jJ 2 78 3 79 69 (λx y=>#[x,y]) (λx u W e1 L f=>by
   obtain rfl:x=vn:=e1;obtain rfl:u=vr:=L;exact di W),
  RG.gO 2 (iZ (R.n:Y)),
  Nx 0 76 4 80 5 81 68 (λx y z=>#[x,y,z]) (λx u z W e1 L e3 f=>by
   obtain rfl:x=vp:=e1;obtain rfl:u=vV:=L;obtain rfl:z=iZ (R.n:Y):=e3;refine(cu W).mono ?_;rintro e W' ⟨uu,rfl,h1,r,h2,p,K⟩;exact⟨_,Z,h1,r,h2,YA (kc f) p,Holds.lt K (by rw[s5];decide),K⟩),
  GQ 6 82 id (λx W h=>h),
  bE λa W hp=>by
   obtain⟨r,e,h1,h2,p⟩:=hp.n 7 75 kR kR;exact⟨[(75,.tuple #[lgV r,vy,vz])],lgV r,W,⟨e,yw⟩,kR,YH _ _,r,Z,h1,h2,p⟩,
  bE λa W hp=>by
   obtain⟨r,e,h1,h2,p⟩:=hp.n 7 75 kR kR;exact⟨[(75,.tuple #[lgV r,vy,vz])],vy,W,⟨e,yw⟩,kR,YH _ _,Z⟩,
  bE λa W hp=>by
   obtain⟨r,e,h1,h2,p⟩:=hp.n 7 75 kR kR;exact⟨[(75,.tuple #[lgV r,vy,vz])],vz,W,⟨e,yw⟩,kR,YH _ _,Z⟩,
  ED [.pointer G] 145 (λW W' h f=>⟨_,Z,kc f,h⟩),
  ED (RG.z 4) 49 (λW W' h f=>⟨_,Z,kc f,h⟩),
  ED (RG.z 4) 49 (λW W' h f=>⟨_,Z,kc f,h⟩),yw⟩ ⟨Z,Z,Z,Ys _,λ_ _=>rfl⟩ ?_
 intro X ou hR f hD;obtain⟨r,e8,lr,ii,Hr⟩:=hR 8 dC;have e9:X 9=vy:=hR 9 dC;have iz:X 10=vz:=hR 10 dC;obtain⟨bo,bm,eu,em⟩:=hR 11 dC;obtain⟨be,bf,f9,ed⟩:=hR 12 dC;obtain⟨bz,bd,eb,ea⟩:=hR 13 dC;have d1:=hD 11 12 dC dC dC kR kR kR kR;have d2:=hD 11 13 dC dC dC kR kR kR kR;have d3:=hD 12 13 dC dC dC kR kR kR kR;rw[bm,bf]at d1;rw[bm,bd]at d2;rw[bf,bd]at d3;have n1:bo≠be:=λe=>d1 (by rw[e])
 have n2:bo≠bz:=λe=>d2 (by rw[e])
 have n3:be≠bz:=λe=>d3 (by rw[e])
 have m1:r≠bo:=GK Hr (by rw[s5];decide) em (λb e=>by cases e);have m2:r≠be:=GK Hr (by rw[s5];decide) ed (λb e=>by cases e);have m3:r≠bz:=GK Hr (by rw[s5];decide) ea (λb e=>by cases e);rw[<-hb.out]at lr eu f9 eb;have gu:=mk1 (c6.adds f [(bo,[.pointer G]),(be,RG.z 4),(bz,RG.z 4),(r,aA L5)] (by simp;omega) (λx hx=>by
  simp only[Zb,YI,or_false]at hx;rcases hx with rfl|rfl|rfl|rfl
  .exact⟨eu,em⟩
  .exact⟨f9,ed⟩
  .exact⟨eb,ea⟩
  exact⟨lr,nQ Hr ii⟩))
 dsimp only[dF,Zs,gD,qg];simp only[Zo,Yw,Yy,Yz];rw[e8,e9,iz,bm,bf,bd];clear hR hD d1 d2 d3 n1 n2 n3 m1 m2 m3 eu f9 eb lr ii Hr em ed ea f e8 e9 iz bm bf bd c6 cu di js;refine PM.st 11 [jZ r] gu aq λmz fk=>?_
 refine PM.st 12 (wn R.y.val) fk h7 λn9 ju=>?_
 refine PM.st 13 (wn R.z.val) ju ha λll kn=>?_
 clear gu fk ju kc hb;refine PW.dn ?_;have h2:2<N:=oM;have ek:=mk1 (Pi O h2 (y:=R.y.val) (z:=R.z.val) R.y.isLt R.z.isLt R.n oM ll);rw[h7.out,ha.out]at ek;refine PW.bg [] ?_;refine PM.ro 12 kn h7 ?_;refine PM.ro 13 kn ha ?_;refine PW.go [] ?_;refine PW.ca ek.out ?_;rintro e i6 ⟨cg,ls,rs,rfl,br,bi⟩;clear ek;replace br:=br.fin (λ_=>-R.z) (λi _=>(TY R.z).symm);replace bi:=bi.fin R.sh (λi _=>S4 hP h2 (R:=R) (i:=i));have M:=mk1 ((kn.gets cg (pqS ls R.n λ_=>(-R.z).val) br).has (pqS rs R.n λi=>(R.sh i).val) (bi.mono λg hg=>kn.nk g hg));clear br bi cg kn;refine PW.en [ls,rs,ls,rs] ?_;obtain⟨Q,T⟩:=M.out.q;refine Yt ?_;refine(gwL [pE (.agg #[.slice (F ⟨km,kd,G⟩) R.n kt,.slice (F ⟨ki,b3,G⟩) R.n ko]),pE ls,pLn Q R.n (λi=>(R.a0 i).val) (λi=>(R.s i).val),pE (.agg #[.slice (F ⟨b4,kg,G⟩) R.n b5,.slice (F ⟨b2,b8,G⟩) R.n kb]),pE vy,pE (iZ (R.n:Y)),RG.pS Q R.n (pwN N R.y.val),pLn Q R.n (λi=>sTi N (R.m i).val (pwN N R.y.val i)) (λi=>sTi N (R.q i).val (pwN N R.y.val i)),pE rs,pLn Q R.n (λi=>(R.b0 i).val) (λi=>(R.b1 i).val)] (λW=>kZ i6 W) (λW W' hb h=>h.trans (hb.mono h.size))).tail2 10 kR kR kR ⟨
  gLo (cs:=[.slice (F ⟨km,kd,G⟩) R.n kt,.slice (F ⟨ki,b3,G⟩) R.n ko]) 13 (λW f=>((M.grow f).at_ 6).2.1) uLi iLi,
  RG.gO 21 ls,
  jJ 0 93 1 94 72 (λx y=>#[x,y]) (λx u W e1 L f=>by
   obtain rfl:x=.agg #[.slice (F ⟨km,kd,G⟩) R.n kt,.slice (F ⟨ki,b3,G⟩) R.n ko]:=e1;obtain rfl:u=ls:=L;have K:=M.grow f;refine(RH O n (λi _=>(R.l i).isLt) (λi _=>(-R.z).isLt) (⟨_,_,Z,K.wX T 0,K.wX T 1⟩:Ln Q W _ R.n _ _) (K.wX T 5)).mono ?_;rintro e W' ⟨uu,rfl,h1,h2⟩;exact⟨_,Z,h1,(h2.mono λg hg=>hg.elim id (K.nkq T g)).fin R.a0 R.s (λi _=>(mM (R.l i) (-R.z)).symm) (λ_ _=>rfl)⟩),
  gLo (cs:=[.slice (F ⟨b4,kg,G⟩) R.n b5,.slice (F ⟨b2,b8,G⟩) R.n kb]) 14 (λW f=>((M.grow f).at_ 7).2.1) uLi iLi,
  gLo (cs:=wn R.y.val) 19 (λW f=>((M.grow f).at_ 12).2.1) u40 zy (hR:=λ_=>h7.out),
  RG.gO 2 (iZ (R.n:Y)),
  jJ 4 97 5 98 74 (λx y=>#[x,y]) (λx u W e1 L f=>by
   obtain rfl:x=vy:=e1;obtain rfl:u=iZ (R.n:Y):=L;rw[<-h7.out];exact(VR O (x:=R.y.val) R.y.isLt (n:=R.n) oM (w:=W)).mono λe W' ⟨v,h1,h2,p⟩=>⟨v,h1,h2,p.mono λg hg=>(M.grow f).nkq T g hg⟩),
  jJ 3 96 6 99 73 (λx y=>#[x,y]) (λx u W e1 L f=>by
   obtain rfl:x=.agg #[.slice (F ⟨b4,kg,G⟩) R.n b5,.slice (F ⟨b2,b8,G⟩) R.n kb]:=e1;have K:=M.grow f;refine(Wb O n (λi _=>(R.m i).isLt) (λi _=>(R.q i).isLt) (λi _=>yV O i) (⟨_,_,Z,K.wX T 2,K.wX T 3⟩:Ln Q W _ R.n _ _) L).mono ?_;rintro e W' ⟨uu,rfl,h1,h2⟩;exact⟨_,Z,h1,h2.mono λg hg=>K.nkq T g hg⟩),
  RG.gO 22 rs,
  jJ 7 100 8 101 72 (λx y=>#[x,y]) (λx u W e1 L f=>by
   obtain rfl:u=rs:=L;have K:=M.grow f;refine(RH O n (λi _=>ZL _ O.pos) (λi _=>(R.sh i).isLt) e1 (K.wX T 6)).mono ?_;rintro e W' ⟨uu,rfl,h1,h2⟩;refine⟨_,Z,h1,(h2.mono λg hg=>hg.elim id (K.nkq T g)).fin R.b0 R.b1 (λi _=>?_) (λi _=>?_)⟩
   .show _=(R.m i*pwF R.y i+R.sh i).val;rw[mM,jN,<-yU hP.1];rfl
   show _=(R.q i*pwF R.y i).val;rw[jN,<-yU hP.1]),yw⟩ ⟨Z,Z,Z,Ys _,λ_ _=>rfl⟩ ?_
 intro X os hR f;obtain⟨m9,lj,L,h6,h0⟩:=(hR 2 dC).ex;obtain⟨lq,lu,e9,dj,eh⟩:=(hR 9 dC).ex;have ie:=mk1 (((((M.grow f).Qo T (pqS m9 R.n λi=>(R.a0 i).val) h6).Qo T (pqS lj R.n λi=>(R.s i).val) h0).Qo T (pqS lq R.n λi=>(R.b0 i).val) dj).Qo T (pqS lu R.n λi=>(R.b1 i).val) eh);obtain⟨jl,jp,jr,e3⟩:=(cF h6).2;obtain⟨j5,j9,gr,e4⟩:=(cF h0).2;obtain⟨ia,ih,iw,e5⟩:=(cF dj).2;obtain⟨il,j3,fj,e6⟩:=(cF eh).2;subst e3 e4 e5 e6;dsimp only[dF,Zs,gD,qg];simp only[Zo,Yw,Yy,Yz];rw[L,e9];clear hR f h6 h0 dj eh L e9 M T;refine PM.st 6 [.slice (F ⟨jl,jp,G⟩) R.n jr,.slice (F ⟨j5,j9,G⟩) R.n gr] ie aq λo9 ij=>?_
 refine PM.st 7 [.slice (F ⟨ia,ih,G⟩) R.n iw,.slice (F ⟨il,j3,G⟩) R.n fj] ij aq λky h9=>?_
 clear ie ij;refine PW.dn ?_;refine hG (nv R.c1.val) λdw hr=>?_
 refine hG (nv R.c2.val) λex hm=>?_
 have i3:E (Zl prog 75 #[.agg #[.slice (F ⟨jl,jp,G⟩) R.n jr,.slice (F ⟨j5,j9,G⟩) R.n gr],.agg #[.slice (F ⟨ia,ih,G⟩) R.n iw,.slice (F ⟨il,j3,G⟩) R.n fj]] ky (rZ ky λe w'=>e=.tuple #[dw,ex])):=by
  have h:=Wc O n (λi _=>⟨(R.a0 i).isLt,(R.s i).isLt,(R.b0 i).isLt,(R.b1 i).isLt⟩) (⟨_,_,Z,h9.get 7,h9.get 8⟩:Ln _ ky _ R.n _ _) (⟨_,_,Z,h9.get 9,h9.get 10⟩:Ln _ ky _ R.n _ _);rw[pX,pX,pX,<-mM,show Md.pr R.a0 R.b1 R.n+Md.pr R.s R.b0 R.n=R.c1 from Z,show Md.pr R.s R.b1 R.n=R.c2 from Z,hr.out,hm.out]at h;exact h
 refine PW.bg [] ?_;refine PM.ro 6 h9 aq ?_;refine PM.ro 7 h9 aq ?_;refine PM.gi h9 i3.out λnj j2=>?_
 clear i3 h9;refine PW.go [dw,ex] ?_;refine PM.al 49 (RG.z 4) j2 λoi o6 je=>?_
 refine PM.al 49 (RG.z 4) je λmq oo ja=>?_
 refine PM.st 15 (wn R.c1.val) ja hr λo4 iy=>?_
 refine PM.st 16 (wn R.c2.val) iy hm λnp dl=>?_
 clear j2 ja iy;refine PW.dn ?_;have sC:C1.size=33:=by rw[hL.e1];exact aY _
 have sD:C2.size=33:=by rw[hL.e2];exact aY _
 refine hG (pvl C1) λvC jf=>?_
 refine hG (pvl C2) λvD gg=>?_
 have i8:E (∀W,Zl prog 69 #[dw,v1] W (rZ W λe w'=>e=vC)):=λW=>by
  have h:=vP C O R.c1.isLt R.t1.isLt W;rw[Aw C k R.c1 R.t1,show wP ((aI C k).cm (hPV C) (gPG C) R.c1 R.t1)=C1 from hL.e1.symm,hr.out,k7.out,jf.out]at h;exact h
 have jq:E (∀W,Zl prog 69 #[ex,v2] W (rZ W λe w'=>e=vD)):=λW=>by
  have h:=vP C O R.c2.isLt R.t2.isLt W;rw[Aw C k R.c2 R.t2,show wP ((aI C k).cm (hPV C) (gPG C) R.c2 R.t2)=C2 from hL.e2.symm,hm.out,hy.out,gg.out]at h;exact h
 refine Yt ?_;refine AW.beg 9 9 (J:=(Iv.mx w _ _ 10 l D)) (dl.out.drew.wk 10) ?_;refine AW.ro 0 (λW ⟨_,h⟩=>(h.at_ 15).2.1) hr u40 zy ?_;refine AW.ro 1 (λW ⟨_,h⟩=>(h.at_ 4).2.1) k7 u40 zy ?_;refine AW.ro 3 (λW ⟨_,h⟩=>(h.at_ 16).2.1) hm u40 zy ?_;refine AW.ro 4 (λW ⟨_,h⟩=>(h.at_ 5).2.1) hy u40 zy ?_;refine AW.gi 2 (λ_=>i8 _) λoh c8=>?_
 refine AW.va 6 (oZ l 66) ?_;refine AW.gi 5 (λ_=>jq _) λjx d5=>?_
 have ef:=mk1 ((dl.drew.grow c8).grow d5);clear c8 d5 dl i8 jq;refine hG (jx.setCells l 66 (aA C1)) λjy d0=>?_
 refine hG (jy.setCells l 99 (aA C2)) λep dd=>?_
 have kx:=mk1 (Rp.Xx k0.2.2 (ef.at_ 10) sC);refine hG ({ p2 with c:=C1 }:Rp) λp3 dy=>?_
 rw[dy.out]at kx;have bq:=mk1 (ef.upd 10 d0 kx.2.1);have hk:=mk1 (Rp.Xw kx.2.2 (bq.at_ 10) sD);refine hG ({ p3 with d:=C2 }:Rp) λp4 eg=>?_
 rw[eg.out]at hk;have hz:=mk1 (bq.upd 10 dd hk.2.1);refine AW.ss 7 jf (eH (a:=C1)) (by rw[aB sC];exact iCP) d0 (λ_=>⟨kx.1,bq.out.wk 10⟩) ?_;refine AW.nx 8 (oZ l 99) ?_;refine AW.ss 9 gg (eH (a:=C2)) (by rw[aB sD];exact iCP) dd (λ_=>⟨hk.1,hz.out.wk 10⟩) ?_;refine AW.dn λ_=>?_
 clear ef bq kx;refine hG (aN L6) λL7 dk=>?_
 have s7:L7.size=32:=by rw[<-dk.out];exact aW
 refine hG (nv R.x.val) λvx p=>?_
 refine hG (Y8 p4.l.toArray) λvq fy=>?_
 refine hG (lgV r) λvl ka=>?_
 have gq:E (Zl prog 76 #[vq,vl] ep (Ret λe w'=>SP.Only r 0 32 ep w'/\yx encB w' r 0 L7/\e=vx)):=by
  have h:=V9 O p4 hk.2.2 r L5 ep (hz.log 14) s5;rw[<-ej.out,show mdL (aN (aN L3)) p4.c p4.d=L6 by rw[<-eg.out,<-dy.out];exact hL.l6.symm,rF O hP hL.x,dk.out,fy.out,ka.out,p.out]at h;exact h
 refine PW.bg [] ?_;refine PW.ro (cs:=p4.l) (hz.at_ 10).2.1 fy uRd (by rw[Rp.len hk.2.2];exact iRd) ?_;refine PM.ro 11 hz ka ?_;refine PW.ca gq.out ?_;rintro e ow ⟨hO,hH,he⟩;obtain rfl:=he.symm;have i0:=mk1 (hz.say 14 hO hH);clear gq hO hH hz;refine PM.al 49 (RG.z 4) i0 λo2 nb j8=>?_
 refine PM.st 17 (wn R.x.val) j8 p λnn dz=>?_
 clear i0 j8;refine PW.dn ?_;have e0:E (∀(a b c:I->B N) (v:Yq) (Q:I->Prop) (W:Yp),(∀i,c i=a i+b i*R.x)->Ln Q W v R.n (λi=>(a i).val) (λi=>(b i).val)->Zl prog 77 #[v,vx] W (rZ W λe w'=>SLq (W.heap.size<=·) w' e R.n (λi=>(c i).val))):=λa b c v Q W hc h=>by
  have h:=Wg O n (λi _=>(a i).isLt) (λi _=>(b i).isLt) R.x.isLt h;rw[p.out]at h;refine h.mono ?_;rintro e w' ⟨uu,rfl,h1,h2⟩;exact⟨_,Z,h1,h2.fin c λi _=>by rw[hc,mM,jN]⟩
 refine Yt ?_;refine AW.beg 7 7 (J:=(Iv.mp w _ _ D)) dz.out.drew ?_;refine AM.ro 0 6 aq ?_;refine AM.ro 1 17 p ?_;refine AM.ro 3 7 aq ?_;refine AM.ro 4 17 p ?_;refine AW.ca 2 (λh=>e0 R.a0 R.s R.a _ _ _ (λ_=>rfl) (⟨_,_,Z,h.get 7,h.get 8⟩:Ln _ _ _ R.n _ _)) (λe w' h=>h.1) ?_;rintro av mw ⟨c7,j0⟩;refine AW.ca 5 (λh=>e0 R.b0 R.b1 R.b _ _ _ (λ_=>rfl) (⟨_,_,Z,h.get 9,h.get 10⟩:Ln _ _ _ R.n _ _)) (λe w' h=>h.1) ?_;rintro bv c0 ⟨d6,g0⟩;have ip:=mk1 (dz.drew.gets c7 (pqS av R.n λi=>(R.a i).val) j0);have bu:=mk1 (ip.gets d6 (pqS bv R.n λi=>(R.b i).val) g0);clear e0 c7 d6 j0 g0 dz ip;refine AW.nx 6 av ?_;refine AW.nx 7 bv ?_;refine AW.dn λ_=>?_
 refine hG (nv R.t.val) λvt gk=>?_
 have g2:E (Zl prog 78 #[av,bv] c0 (rZ c0 λe w'=>e=vt)):=by
  have h:=Hb O R.n oM (λi=>(R.a i).val) (λi=>(R.b i).val) (λi _=>(R.a i).isLt) (λi _=>(R.b i).isLt) av bv c0 (bu.get 11) (bu.get 12);rw[pX,show Md.pr R.a R.b R.n=R.t from Z,gk.out]at h;exact h
 refine PW.bg [] ?_;refine PM.gi bu g2.out λle f7=>?_
 clear g2 bu;refine PW.go [oZ l 140] ?_;refine hG (le.setCells l 140 (wn R.t.val)) λol d9=>?_
 have kr:=mk1 (Rp.Xu hk.2.2 (f7.at_ 10) R.t.val);refine hG ({ p4 with t:=R.t.val }:Rp) λp5 fx=>?_
 rw[fx.out]at kr;have fe:=mk1 (f7.upd 10 d9 kr.2.1);refine PW.st d9 gk kr.1 zy aM ?_;clear f7 hk;refine PW.dn ?_;refine hG (nv (R.t1*R.x).val) λu1 l4=>?_
 refine hG (nv (R.t2*R.x).val) λu2 lv=>?_
 refine hG (nv (R.t2*R.x*R.x).val) λu3 m6=>?_
 refine hG (nv (R.t1*R.x+R.t2*R.x*R.x).val) λu4 ln=>?_
 refine hG (nv (R.z*R.z).val) λu5 m8=>?_
 refine hG (nv (R.z*R.z*R.k).val) λu6 m4=>?_
 refine hG (nv R.tau.val) λu7 ge=>?_
 have HT:=mk7 (λW=>J9 O R.t1 R.x W) (λW=>J9 O R.t2 R.x W) (λW=>J9 O (R.t2*R.x) R.x W) (λW=>Ux O (R.t1*R.x) (R.t2*R.x*R.x) W) (λW=>J9 O R.z R.z W) (λW=>J9 O (R.z*R.z) R.k W) (λW=>Ux O (R.t1*R.x+R.t2*R.x*R.x) (R.z*R.z*R.k) W);rw[show R.t1*R.x+R.t2*R.x*R.x+R.z*R.z*R.k=R.tau from Z,l4.out,lv.out,m6.out,ln.out,m8.out,m4.out,ge.out,k7.out,hy.out,p.out,ha.out,k2.out]at HT;refine AM.bg 16 16 fe ?_;refine AM.ro 0 4 k7 ?_;refine AM.ro 1 17 p ?_;refine AM.ro 3 5 hy ?_;refine AM.ro 4 17 p ?_;refine AM.ro 6 17 p ?_;refine AM.ro 9 13 ha ?_;refine AM.ro 10 13 ha ?_;refine AM.ro 12 0 k2 ?_;refine AW.gi 2 (λ_=>HT.1 _) λx1 h6=>?_
 refine AW.gi 5 (λ_=>HT.2.1 _) λx2 h0=>?_
 refine AW.gi 7 (λ_=>HT.2.2.1 _) λx3 jt=>?_
 refine AW.gi 8 (λ_=>HT.2.2.2.1 _) λx4 ft=>?_
 refine AW.gi 11 (λ_=>HT.2.2.2.2.1 _) λx5 fu=>?_
 refine AW.gi 13 (λ_=>HT.2.2.2.2.2.1 _) λx6 jc=>?_
 refine AW.gi 14 (λ_=>HT.2.2.2.2.2.2 _) λjv io=>?_
 have f5:=mk1 (((((((fe.drew.grow h6).grow h0).grow jt).grow ft).grow fu).grow jc).grow io);clear h6 h0 jt ft fu jc io fe HT;refine AW.nx 15 (oZ l 132) ?_;refine hG (jv.setCells l 132 (wn R.tau.val)) λnl ke=>?_
 have ku:=mk1 (Rp.Xt kr.2.2 (f5.at_ 10) R.tau.val);refine hG ({ p5 with u:=R.tau.val }:Rp) λp6 g7=>?_
 rw[g7.out]at ku;have es:=mk1 (f5.upd 10 ke ku.2.1);refine AW.fi (us:=wn R.tau.val) ge aM zy (λ_=>⟨ku.1,?_⟩);rw[ke.out];clear f5 kr ke;refine hG (nv (R.rho*R.x).val) λu8 lw=>?_
 refine hG (nv R.mu.val) λu9 fm=>?_
 have HT:=mk2 (λW=>J9 O R.rho R.x W) (λW=>Ux O R.al (R.rho*R.x) W);rw[show R.al+R.rho*R.x=R.mu from Z,lw.out,fm.out,k6.out,k4.out,p.out]at HT;refine AM.bg 6 6 es ?_;refine AM.ro 0 2 k6 ?_;refine AM.ro 1 3 k4 ?_;refine AM.ro 2 17 p ?_;refine AW.gi 3 (λ_=>HT.1 _) λx1 h6=>?_
 refine AW.gi 4 (λ_=>HT.2 _) λma h0=>?_
 have eo:=mk1 ((es.drew.grow h6).grow h0);clear h6 h0 es HT;refine AW.nx 5 (oZ l 136) ?_;refine hG (ma.setCells l 136 (wn R.mu.val)) λdp kw=>?_
 have bc:=mk1 (Rp.Xv ku.2.2 (eo.at_ 10) R.mu.val);have ez:E (({ p6 with m:=R.mu.val }:Rp)=pz):=by
  rw[<-h8.out,<-g7.out,<-fx.out,<-eg.out,<-dy.out,<-ew.out,<-ds.out];rfl
 rw[ez.out]at bc;have kk:=mk1 (eo.upd 10 kw bc.2.1);have bp:pz.Ok:=bc.2.2;refine AW.fi (us:=wn R.mu.val) fm aM zy (λ_=>⟨bc.1,?_⟩);rw[kw.out];clear eo ku bc kw;refine hG (Y8 pz.l.toArray) λmh hq=>?_
 refine hG (aN L8) λL9 c3=>?_
 have s9:L9.size=32:=by rw[<-c3.out];exact aW
 refine hG (nv R.w.val) λvw bk=>?_
 have j7:E (Zl prog 81 #[mh,vl] dp (Ret λe w'=>SP.Only r 0 32 dp w'/\yx encB w' r 0 L9/\e=vw)):=by
  have h:=WF O pz bp (by rw[<-h8.out];exact R.tau.isLt) (by rw[<-h8.out];exact R.mu.isLt) (by rw[<-h8.out];exact R.t.isLt) r L7 dp (kk.log 14) s7;rw[<-dk.out,show enL (aN L6) pz.u pz.m pz.t=L8 by rw[<-h8.out];exact hL.l8.symm,rF O hP hL.w,c3.out,hq.out,ka.out,bk.out]at h;exact h
 refine PW.bg [] ?_;refine PW.ro (cs:=pz.l) (kk.at_ 10).2.1 hq uRd (by rw[Rp.len bp];exact iRd) ?_;refine PM.ro 11 kk ka ?_;refine PW.ca j7.out ?_;rintro e oq ⟨hO,hH,he⟩;obtain rfl:=he.symm;have fg:=mk1 (kk.say 14 hO hH);clear j7 hO hH he kk;refine PM.al 49 (RG.z 4) fg λmt nu gj=>?_
 refine PM.st 18 (wn R.w.val) gj bk λmd lg=>?_
 clear fg gj;refine PW.dn ?_;have Kd:=mk1 lg.out.drew;have fd:=mk1 (SJ O R.n dm n (gGT P) (hGT P) (uGT P) (λi hi=>⟨((Aa C hP.1 R.n).tl i hi).ok,by show 1<=512;decide⟩) (yF C hP.1).ok (by show 1<=512;decide) R.y.val R.w.val R.y.isLt R.w.isLt _ md.drew Kd.nk (Kd.get 4));rw[h7.out,bk.out]at fd;refine Yt ?_;refine AW.beg 10 10 (J:=(Iv.mx w _ _ 14 r true)) (Kd.out.wk 14) ?_;refine AW.ro 0 (cs:=pz.l) (λW ⟨_,h⟩=>(h.at_ 10).2.1) hq uRd (by rw[Rp.len bp];exact iRd) ?_;refine AW.ro 1 (λW ⟨_,h⟩=>(h.at_ 11).2.1) ka uLg iLg ?_;refine AW.ro 2 (cs:=[.slice (F ⟨ga,oa,G⟩) R.n ca,.slice (F ⟨gb,ob,G⟩) R.n cb,sZ gc mc cc]) (λW ⟨_,h⟩=>(h.at_ 8).2.1) (Hid.mk' Z) uGr iGr ?_;refine AW.ro 3 (λW ⟨_,h⟩=>(h.at_ 12).2.1) h7 u40 zy ?_;refine AW.ro 4 (λW ⟨_,h⟩=>(h.at_ 18).2.1) bk u40 zy ?_;refine AW.mv 6 ?_;refine AW.mv 7 ?_;refine AW.ca 5 (λ_=>fd.out) (λe w' h=>h.1) ?_;rintro tv bt ⟨da,kl⟩;have h5:=mk1 (Kd.grow da);refine hG (((aI C k).pst (chF N) ivF u t q t).s) λLx l7=>?_
 have g4:E (Zl prog 83 #[vl,tv,av,bv] bt (Ret (PhR bt r t Lb Rb Lx Ab Bb))):=by
  obtain⟨Q,T⟩:=h5.out.q;have K:∀g,Q g->g≠r:=h5.ne T 14;rw[T.out]at kl;have h:=PN C O k hP (t:=t) ht q (u:=u) (gGT P) (JF N R.y.val (hGT P)) ((uGT P).map (tmT N R.w.val)) (by rw[m0];exact I1 C hP.1 _) (by rw[mg];exact Qt C k hP (R:=R)) (by rw[hu];exact(yF C hP.1).tm C k R.w) (by show 0<1;decide) (by show 1<=16;decide) (Lb:=Lb) (Rb:=Rb) ly mf (r:=r) tv av bv bt (by rw[ig,c3.out];exact h5.log 14) (by rw[ig,c3.out];exact s9) (by rw[<-hn];exact kl.mono K) (by rw[<-hn,l6];exact SLq.mono (h5.wX T 11) K) (by rw[<-hn,mb];exact SLq.mono (h5.wX T 12) K);rw[l7.out,<-lx,<-jw,ka.out]at h;exact h
 clear fd da kl Kd;refine AW.cw 8 (λ_=>g4.out) (λe w' _ h=>⟨_,h5.sayB 14 h.on h.lg Z Z⟩) ?_;rintro e lh hw;obtain⟨vL,vR,vA,vB,rfl,tL,tR,eA,eB⟩:=hw.ex;have ix:=mk1 (h5.sayB 14 hw.on hw.lg);have l8:=(h5.at_ 1).1;have DJ:=mk1 (hw.dj _ _ _ _ Z);have ir:=hw.on.size;clear g4 hw;have dx:=mk1 (SL O pz bp (by rw[<-h8.out];exact R.tau.isLt) (by rw[<-h8.out];exact R.mu.isLt) (by rw[<-h8.out];exact R.t.isLt) vL vR vA vB ⟨tL.one.2,tR.one.2,eA.one.2,eB.one.2⟩ lh);rw[hq.out]at dx;refine AW.ca 9 (λ_=>dx.out) (λe w' h=>h.1) ?_;rintro e fq ⟨K,ra,rb,rc,c4,re,rf,bn,rfl,hT,hU⟩;have fa:=mk1 (ix.grow K);have bj:vA.oneCell'=true/\vB.oneCell'=true/\vL.oneCell'=true/\vR.oneCell'=true:=⟨eA.one.2,eB.one.2,tL.one.2,tR.one.2⟩
 have DK:=mk1 (DjR.of DJ.out K hU ir);have RA:E (RgA bt.heap.size t pz Lb Rb Ab Bb (.agg #[r33 ra,r33 rb,r33 rc,r33 c4,r32 re,r32 rf,r32 bn,vL,vR,vA,vB]) fq):=⟨⟨_,_,_,_,_,_,_,_,_,_,_,Z,hT.mono2 λ_ _ _=>trivial,tL.below K,tR.below K,(eA.keep (Kq.of_below K)).mono2 λ_ _ _=>trivial,(eB.keep (Kq.of_below K)).mono2 λ_ _ _=>trivial⟩,λa' b' c' d' u' m' s' o0 ov nz my e=>by
  simp only[Y8.injEq,uo.injEq,qn.injEq,and_true,r33,r32,Value.slice.injEq,YR.injEq,Addr.mk.injEq]at e;obtain⟨rfl,rfl,rfl,rfl,rfl,rfl,rfl,rfl,rfl,rfl,rfl⟩:=e;exact DK.out⟩
 clear hT tL tR eA eB K dx ix;refine hG (fq.setCells k8 0 [r33 ra,r33 rb,r33 rc,r33 c4,r32 re,r32 rf,r32 bn,vL,vR,vA,vB]) λoe kj=>?_
 have gw:=mk1 (fa.put 1 kj);have RB:=mk1 (RA.set (us:=[r33 ra,r33 rb,r33 rc,r33 c4,r32 re,r32 rf,r32 bn,vL,vR,vA,vB]) (fa.at_ 1) l8);rw[kj.out]at RB;refine AW.fi (us:=[r33 ra,r33 rb,r33 rc,r33 c4,r32 re,r32 rf,r32 bn,vL,vR,vA,vB]) (Hid.mk' Z) (by simp only[yEK,yFb,yFi,bj.1,bj.2.1,bj.2.2.1,bj.2.2.2,show ∀g,(r33 g).oneCell'=true from λ_=>rfl,show ∀g,(r32 g).oneCell'=true from λ_=>rfl,yFf]) iAr (λ_=>⟨fa.th 1,?_⟩);rw[kj.out];have KE:=mk2 gw.bl (qh h5.bl.size RB.out);have K8:=gw.at_ 1;refine Zr ?_;refine YB (aC 8 (T:=28) Z K8 Z uAr iAr) Z ?_;exact⟨_,Z,KE.1,_,KE.2.1,KE.2.2⟩
def Wd(n t:I):Prop:=n=2^t/\3<=t/\t<=6
def Wd.hv(h:Wd n t)(W:Yp):eZ 57 #[iZ n] W (.tuple #[iZ t,tZ]):=by
 obtain⟨rfl,-,k⟩:=h;rw[<-Nr k];exact Nv (2^t) (MI k) W
def Wd.eight(h:Wd n t):8<=n:=by
 obtain⟨rfl,h1,-⟩:=h;exact ZU (n:=2) dC h1
def Wh(h:Wd n t)(w:Yp):eZ 15 #[iZ n] w tZ:=by
 have H:=mk1 (h.hv w);have c:(8:Y)<=(n:Y):=oN h.eight;clear h;go_enter func15,ntmps15;go_wp2_with fail
 refine H.mono ?_;rintro e d ⟨b,rfl,k,rfl⟩;go_wp2;go_ret;exact⟨_,Z,(mk1 k).out,Z⟩
def I0(h:Wd n t)(w:Yp):eZ 17 #[iZ n] w (U ((2^n-1:I):Y)):=by
 obtain⟨rfl,h1,b⟩:=h;have k:t=3\/t=4\/t=5\/t=6:=S;rcases k with rfl|rfl|rfl|rfl
 all_goals
  go_enter func17,ntmps17;go_wp2;go_ret;exact⟨_,Z,YH _ _,Z⟩
end
section
open SPA
section
variable {P:Zw}{ops:Array Y9}{rest:List Y9}{o:Y9}{a:Act}{w:Yp}{Q:Exit->Act->Yp->Prop}
def PW.gd(h:wpList P ops Q ({ o with guard:=G } :: rest) a w)(k:gE o (yielded ops a.tmps)=J:=by kernel_rfl):wpList P ops Q (o :: rest) a w:=by
 unfold wpList at h⊢;rw[zd k];rw[zd (show gE { o with guard:=G } (yielded ops a.tmps)=J from Z)]at h;exact h
end
variable {P:Nat}[NeZero P]{N:Nat}[NeZero N]
def VQ(C:At P)(O:Ord N)(k:∀r:EC.Pt P,On r->mul N r=G)(hP:IsP N)(R:Rv N)(m:Wd R.n t)(hv:R.v<2^R.n)(hN:18446744073709551616<=N)(sd:H yv)(X:zb Addr)(sc:I)(V A S C1 C2 L3 L6 L8:Bs)(hL:RvL C k R V A S C1 C2 L3 L6 L8)(hS:RvS R sd)(q:Md.Ps Bs (B N) (OnP P))(h9:q.s=aN L8)(T:q.a=R.a)(h8:q.b=R.b)(hn:q.g=gPt C ⟨#[108,101,102,116]⟩)(hj:q.h=R.hh (aI C k) (gPt C ⟨#[114,105,103,104,116]⟩))(u:OnP P)(hu:u=(aI C k).ac R.w (uPt C))(Lb Rb:I->Bs)(hi:∀j,Lb j=wP ((aI C k).pLi (chF N) ivF u t q j))(hg:∀j,Rb j=wP ((aI C k).pTi (chF N) ivF u t q j))(Ab Bb:Bs)(he:Ab=bx (((aI C k).pst (chF N) ivF u t q t).a 0).val)(h7:Bb=bx (((aI C k).pst (chF N) ivF u t q t).b 0).val)(pz:Rp)(h0:E (⟨A,S,C1,C2,R.tau.val,R.mu.val,R.t.val⟩=pz))(v1:Yq)(w:Yp)(hk:Arg w v1 (bx R.k.val))(hp:PartOk w (.slice X 32 sc) sd):
 dZ 5 #[U (R.v:Y),v1,iZ (R.n:Y),.slice X 32 sc] w λe w'=>∃e' B0,e=.tuple #[e',iZ 0]/\w.heap.size<=B0/\RgA B0 t pz Lb Rb Ab Bb e' w':=by
 have hm:R.n<=64:=by rw[m.1];exact YA (ZU dC m.2.2) dC
 have p:=λ(W:Yp) (o:kZ w W)=>PK C O k hP t m.2.2 R m.1 (Yr hv (YA (ZU dC hm) dC)) hN sd X 32 sc V A S C1 C2 L3 L6 L8 hL hS q h9 T h8 hn hj u hu Lb Rb hi hg Ab Bb he h7 pz h0 W (hp.below o)
 have a:=λ(W:Yp) (o:kZ w W)=>Io O (hk.below o)
 rw[FW O R.k.isLt]at a;generalize hr:R.v=vn at *;generalize h4:(2^R.n-1:I)=gn at *;have HG:=λ(W:Yp)=>I0 m W
 rw[h4]at HG;have HW:=λ(W:Yp)=>Wh m W
 let⟨vk,c⟩:=hE (nv R.k.val)
 rw[c.out]at p;have h5:E (∀W,kZ w W->eZ 16 #[v1] W (.tuple #[vk,tZ])):=λW o=>by
  rw[<-c.out];exact a W o
 have HH:=mk3 p HG HW;refine hG w.heap.size λk8 z=>?_
 refine hG (lZ w z11 28) λw1 x=>?_
 go_enter func5,ntmps5;refine PW.bg [] ?_;refine PW.al z x ?_;refine PW.en [iZ 0] ?_;refine Yt<|PW.bg [] ?_
 refine PW.gi (HH.2.2 w1) λw2 ha=>?_
 have K2:=mk1 ((mk1 ((Mp.start w).new z x)).grow ha);refine PW.go [fZ] ?_;refine PW.gd ?_;refine PW.go [] ?_;refine PW.gd ?_;refine PW.go [iZ 32] ?_;refine PW.gd ?_;refine PW.en [fZ,fZ] ?_;refine YY rfl<|ZK<|PW.bg [] ?_
 refine PW.gi (h5 w2 K2.bl) λw3 h6=>?_
 refine PW.go [vk,tZ] ?_;refine hG w3.heap.size λhq d=>?_
 refine hG (lZ w3 (RG.z 4) 49) λw4 s=>?_
 refine hG (w4.setCells hq 0 (wn R.k.val)) λw5 n=>?_
 have K4:=mk1 ((mk1 (K2.grow h6)).new d s);refine PW.al d s ?_;refine PW.st n c (K4.th 1) zy aM ?_;refine PW.en [tZ] ?_;refine Yt<|PW.rg [fZ] ?_
 refine YY rfl<|ZK<|Yt<|PW.bg [] ?_
 refine PW.gi (HH.2.1 w5) λw6 hc=>?_
 have y:=mk1 ((mk1 (K4.put 1 n)).grow hc);refine PW.go [.bool (decide ((gn:Y)<(vn:Y)))] ?_;rw[decide_eq_false oM];refine PW.dn ?_;refine YY rfl<|ZK<|PW.bg [] ?_
 refine PW.ro (y.at_ 1).2.1 c u40 zy ?_;refine PW.go [] ?_;refine PW.ca (HH.1 w6 y.bl) ?_;rintro e w7 ⟨h3,B0,h2,v⟩;have l8:=(y.at_ 0).1;have K7:=mk1 (y.grow h3);obtain⟨ra,rb,rc,l,re,rf,i,M,K,Q,L,rfl,-,tL,tR,eA,eB⟩:=v.ex;have b:Q.oneCell'=J/\L.oneCell'=J/\M.oneCell'=J/\K.oneCell'=J:=⟨eA.one.2,eB.one.2,tL.one.2,tR.one.2⟩
 refine hG (w7.setCells k8 0 [r33 ra,r33 rb,r33 rc,r33 l,r32 re,r32 rf,r32 i,M,K,Q,L]) λw8 f=>?_
 have K8:=mk1 (K7.put 0 f);have RB:=mk1 ((mk1 v).set (us:=[r33 ra,r33 rb,r33 rc,r33 l,r32 re,r32 rf,r32 i,M,K,Q,L]) (K7.at_ 0) oM);rw[f.out]at RB;refine PW.st (cs:=[r33 ra,r33 rb,r33 rc,r33 l,r32 re,r32 rf,r32 i,M,K,Q,L]) f (Hid.mk' Z) (K7.th 0) iAr (by simp only[yEK,yFb,yFi,b.1,b.2.1,b.2.2.1,b.2.2.2,show ∀g,(r33 g).oneCell'=J from λ_=>rfl,show ∀g,(r32 g).oneCell'=J from λ_=>rfl,yFf]) ?_;refine PW.en [iZ 0] ?_;have KE:=mk2 K8.bl (qh (YA y.bl.size h2) RB);have Kr:=(K8.at_ 0).2.1;refine Zr<|YB (dS 8 9 Z Kr Z Z uAr iAr) Z ?_
 exact⟨_,Z,KE.1,_,_,Z,KE.2.1,KE.2.2⟩
end
section
open SPA
variable {P:Nat}[NeZero P]{N:Nat}[NeZero N]
def Vu(C:At P)(O:Ord N)(b:∀r:EC.Pt P,On r->mul N r=G)(v n:I)(k:B N)(d:H yv):∃(R:Rv N) (V A S o j e f m:Bs),R.v=v/\R.n=n/\R.k=k/\RvL C b R V A S o j e f m/\RvS R d:=by
 have lt:∀l ps,chL N l ps<N:=λl ps=>pO O
 let⟨s,hs⟩:∃s:I->B N,∀i,(s i).val=chL N [115,108] [d,(dL i).toList]:=⟨λi=>⟨_,lt _ _⟩,λ_=>rfl⟩
 let⟨q,hq⟩:∃s:I->B N,∀i,(s i).val=chL N [115,114] [d,(dL i).toList]:=⟨λi=>⟨_,lt _ _⟩,λ_=>rfl⟩
 let⟨al,u⟩:∃x:B N,x.val=chL N [97,108,112,104,97] [d]:=⟨⟨_,lt _ _⟩,Z⟩
 let⟨c,g⟩:∃x:B N,x.val=chL N [114,104,111] [d]:=⟨⟨_,lt _ _⟩,Z⟩
 let⟨t1,t⟩:∃x:B N,x.val=chL N [116,97,117,49] [d]:=⟨⟨_,lt _ _⟩,Z⟩
 let⟨t2,p⟩:∃x:B N,x.val=chL N [116,97,117,50] [d]:=⟨⟨_,lt _ _⟩,Z⟩
 let⟨V,hV⟩:∃V,V=wP ((⟨v,n,s,q,al,c,t1,t2,k,0,0,0,0⟩:Rv N).pV (aI C b) (gPG C) (hPV C)):=⟨_,Z⟩
 let⟨A,K⟩:∃A,A=wP ((⟨v,n,s,q,al,c,t1,t2,k,0,0,0,0⟩:Rv N).pA (aI C b) (gPG C) (gPt C ⟨#[108,101,102,116]⟩) (gPt C ⟨#[114,105,103,104,116]⟩)):=⟨_,Z⟩
 let⟨S,Q⟩:∃A,A=wP ((⟨v,n,s,q,al,c,t1,t2,k,0,0,0,0⟩:Rv N).pS (aI C b) (gPG C) (gPt C ⟨#[108,101,102,116]⟩) (gPt C ⟨#[114,105,103,104,116]⟩)):=⟨_,Z⟩
 let⟨e,X⟩:∃L,L=bgL V n A S:=⟨_,Z⟩
 let⟨y,W⟩:∃y,y=rW N e:=⟨_,Z⟩
 let⟨z,hz⟩:∃z,z=rW N (aN e):=⟨_,Z⟩
 let⟨o,h1⟩:∃A,A=wP ((⟨v,n,s,q,al,c,t1,t2,k,y,z,0,0⟩:Rv N).p1 (aI C b) (gPG C) (hPV C)):=⟨_,Z⟩
 let⟨j,h2⟩:∃A,A=wP ((⟨v,n,s,q,al,c,t1,t2,k,y,z,0,0⟩:Rv N).p2 (aI C b) (gPG C) (hPV C)):=⟨_,Z⟩
 let⟨f,h6⟩:∃L,L=mdL (aN (aN e)) o j:=⟨_,Z⟩
 let⟨x,hx⟩:∃x,x=rW N f:=⟨_,Z⟩
 let⟨m,T⟩:∃L,L=enL (aN f) (⟨v,n,s,q,al,c,t1,t2,k,y,z,x,0⟩:Rv N).tau.val (⟨v,n,s,q,al,c,t1,t2,k,y,z,x,0⟩:Rv N).mu.val (⟨v,n,s,q,al,c,t1,t2,k,y,z,x,0⟩:Rv N).t.val:=⟨_,Z⟩
 let⟨w,M⟩:∃w,w=rW N m:=⟨_,Z⟩
 exact⟨⟨v,n,s,q,al,c,t1,t2,k,y,z,x,w⟩,V,A,S,o,j,e,f,m,Z,Z,Z,⟨hV,K,Q,h1,h2,X,W,hz,h6,hx,T,M⟩,⟨hs,hq,u,g,t,p⟩⟩
def VO{S R M:Type}(s:S)(a b:I->R)(g h:I->M):∃q:Md.Ps S R M,q.s=s/\q.a=a/\q.b=b/\q.g=g/\q.h=h:=⟨⟨s,a,b,g,h⟩,Z,Z,Z,Z,Z⟩
end
section
open SPA
def TlL.vl{base:I}{B:I->Bs}(h:TlL Q base t W v B)(i:0<t):∃g c ys,v=sZ g t c/\VL W (F (aZ g)) t ys/\∀j,j<t->∃x,ys[j]? = F x/\ElQ Q 33 W x (B j):=by
 let⟨xs,h1,d⟩:=h.ex
 obtain⟨g,c,rfl⟩:=Gx h1 i;have hl:xs.length=t:=oN h1.1;refine⟨g,c,xs,Z,⟨hl,λe=>(by cases e),YZ ⟨g,0,Z,(h.lt (g:=g) Z).2,λj u k=>?_⟩,λu k=>?_⟩,d⟩
 .rw[Yv];exact J2 h1 k
 obtain⟨j,l,rfl⟩:=H.mem_iff_getElem.1 k;let⟨x,b,f⟩:=d j S
 rw[YC l]at b;obtain rfl:=YR.inj b;exact f.one.2
def ElQ.pt{b:Bs}(h:ElQ Q m W x b):Pt W x b:=by
 obtain⟨k,c,rfl,-,d,-,e,f⟩:=h;exact⟨_,c,by rw[d],YZ ⟨k,0,Z,e,f⟩⟩
def rgB(t:I)(p:Rp)(Lb Rb:I->Bs)(k b:Bs):H Bs:=[p.a,p.s,p.c,p.d,bx p.u,bx p.m,bx p.t]++(ZD t).map Lb++(ZD t).map Rb++[k,b]
def PtB.app{A B:H Bs}(h:PtB W us A)(d:PtB W vs B):PtB W (us++vs) (A++B):=by
 refine⟨by rw[Yx,Yx,h.1,d.1],λj u b k c=>?_⟩;by_cases e:j<us.length
 .rw[Zc e]at k;rw[Zc (by rw[h.1];exact e)]at c;exact h.2 j u b k c
 rw[Zx S]at k;rw[Zx (by rw[h.1];omega),h.1]at c;exact d.2 _ u b k c
def PtB.one{b:Bs}(h:Pt W u b):PtB W [u] [b]:=⟨Z,λj d c h1 k=>by
 match j with
 | 0 =>
  cases h1
  cases k
  exact h
 | j+1=>cases h1⟩
def PtB.list{B:I->Bs}(hl:ys.length=t)(h:∀j,j<t->∃x,ys[j]? = F x/\ElQ Q 33 W x (B j)):PtB W ys ((ZD t).map B):=⟨by simp[hl],λj u b h1 c=>by
 have d:j<t:=by rw[<-hl];exact(YF.1 h1).1
 let⟨x,k,e⟩:=h j d
 rw[h1]at k;obtain rfl:=YR.inj k;rw[ZE,uy d]at c;obtain rfl:=YR.inj c;exact e.pt⟩
end
def Oq{j:I}(p:Rg)(l1 l2:List Yq)(h1:l1.length=k)(e:l2.length=k)(f:j<k+k+9):(p.all l1 l2)[j]? = (zG p l1 l2)[if j<k+k+2 then 7+j else j-(k+k+2)]?:=by
 have d:p.all l1 l2=(l1++l2++[p.x.v,p.y.v])++[p.a.v,p.b.v,p.c.v,p.d.v,p.e.v,p.f.v,p.g.v]:=rfl;have c:zG p l1 l2=[p.a.v,p.b.v,p.c.v,p.d.v,p.e.v,p.f.v,p.g.v]++(l1++l2++[p.x.v,p.y.v]):=by unfold zG;simp only[pk]
 have hl:(l1++l2++[p.x.v,p.y.v]).length=k+k+2:=by rw[Yx,Yx,h1,e];rfl
 rw[d,c];have b:[p.a.v,p.b.v,p.c.v,p.d.v,p.e.v,p.f.v,p.g.v].length=7:=rfl;generalize l1++l2++[p.x.v,p.y.v]=M at hl;generalize [p.a.v,p.b.v,p.c.v,p.d.v,p.e.v,p.f.v,p.g.v]=H at b;split
 .rw[Zc S,Zx S,b,I.add_sub_cancel_left]
 rw[Zx S,Zc S,hl]
structure RdB(B t:I)(BB:H SP.Bs)(e:Yq)(W:Yp):Prop where
 ex:∃(p:Rg) (l1 l2:H Yq),e=.agg p.cs.toArray/\VL W p.l.q p.l.n l1/\VL W p.r.q p.r.n l2/\p.l.n=t/\p.r.n=t/\(∃gl gr,p.l.q=F (aZ gl)/\p.r.q=F (aZ gr)/\(0<t->B<=gl/\B<=gr))/\∀j,j<t+t+9->∃u b,(zG p l1 l2)[j]? = F u/\BB[j]? = F b/\ElQ (B<=·) b.size W u b
section
open SPA
structure RgP(W:Yp)(t:I)(BB:H Bs)(q:Rg)(ys zs:H Yq):Prop where
 vl:VL W q.l.q q.l.n ys
 vr:VL W q.r.q q.r.n zs
 nl:q.l.n=t
 nr:q.r.n=t
 ps:∀j,j<t+t+9->∃u b,(zG q ys zs)[j]? = F u/\BB[j]? = F b/\Pt W u b
section
variable {W W' w:Yp}{t:Nat}{BB:List Bs}{q q':Rg}{ys zs ys' zs':List Yq}
def RgP.below(h:RgP W t BB q ys zs)(k:kZ W W'):RgP W' t BB q ys zs:=
 ⟨h.vl.below k,h.vr.below k,h.nl,h.nr,λj e=>by
  let⟨u,b,h1,d,c⟩:=h.ps j e
  exact⟨u,b,h1,d,c.below k⟩⟩
def RgP.at_(h:RgP W t BB q ys zs)(j:I)(k:j<t+t+9):∃u b,(q.all ys zs)[j]? = F u/\BB[if j<t+t+2 then 7+j else j-(t+t+2)]? = F b/\Pt W u b:=by
 rw[Oq q ys zs (by rw[h.vl.len,h.nl]) (by rw[h.vr.len,h.nr]) k];exact h.ps _ (by split<;>omega)
def RgP.same(h:RgP W t BB q ys zs)(k:RgP W t BB q' ys' zs')(n:t<=6):cZ 7 #[.agg q.cs.toArray,.agg q'.cs.toArray] W (λe W'=>e=.returned tZ/\kZ W W'):=by
 refine DN q q' W h.vl h.vr k.vl k.vr (by rw[h.nl];omega) (by rw[h.nr];omega) (by rw[h.nl,k.nl]) (by rw[h.nr,k.nr]) λj d=>?_
 rw[h.nl,h.nr]at d;let⟨u,b,h1,g,f⟩:=h.at_ j d
 let⟨v,c,i,l,m⟩:=k.at_ j d
 obtain rfl:=YR.inj (g.symm.trans l);exact⟨u,v,b,h1,i,f,m⟩
def VM{B:I}{b:Bs}(h:Pt W u b)(d:u=sZ g k k)(l:0<k)(j:B<=g):OwQ W W.heap.size B u b/\b.size=k:=by
 let⟨q,c,e,h⟩:=h
 rw[d]at e;injection e with e1 e2 e3
 rcases h with h|⟨n,m,h1,f,i⟩
 .omega
 rw[h1]at e1;injection e1 with e1
 injection e1 with e1 e4
 subst e1 e4;exact⟨YZ ⟨g,by rw[d,e2],j,f,f,i⟩,e2.symm⟩
def VG{m:H I}{gA gB a c u s:I}(h:(gA :: gB :: (l++m)).Nodup)(hl:∀g,g∈gA :: gB :: (l++m)->g<a)(i:a<b/\b<c/\c<d/\d<u/\u<n/\n<s):(l++m++[gA,gB]++[a,b,c,d,u,n,s]).Nodup:=by
 have h1:(rBl l m gA gB a).Nodup:=Tr (by
  rw[rx];exact⟨λe=>yFh _ (hl a e),h⟩)
 refine yCF.2 ⟨(yCF.1 h1).1,?_,λx hx y f=>?_⟩
 .simp only[rx,Zb,YI,or_false,not_or,not_false_eq_true,H.nodup_nil,and_true];omega
 have k:=hl x (by
  simp only[ZN,Zb,YI,or_false]at hx⊢;grind)
 simp only[Zb,YI,or_false]at f;omega
def PtB.ps(h:PtB W us BB)(j:I)(c:j<us.length):∃u b,us[j]? = F u/\BB[j]? = F b/\Pt W u b:=by
 have h1:=YC c;have k:=YC (show j<BB.length by rw[h.1];exact c);exact⟨_,_,h1,k,h.2 j _ _ h1 k⟩
def RgA.p{K:I}{p:Rp}{Lb Rb:I->Bs}{A z:Bs}{e:Yq}(h:RgA K t p Lb Rb A z e W)(hB:w.heap.size<=K):∃q ys zs T,e=.agg q.cs.toArray/\RgP W t (rgB t p Lb Rb A z) q ys zs/\Rws w W (t+t+9) T (q.all ys zs):=by
 obtain⟨a,b,c,d,u,m,s,vL,vR,vA,vB,rfl,hT,hL,hR,hA,V⟩:=h.ex;obtain⟨gA,gB,l,r,rfl,rfl,nd,o1,o2,lt,up⟩:=h.dj _ _ _ _ _ _ _ _ _ _ _ Z;let⟨_,q1,c1⟩:=hL.ex
 obtain rfl:=Eg o1 q1;let⟨_,q2,c2⟩:=hR.ex
 obtain rfl:=Eg o2 q2;have one:∀l:H I,∀u∈l.map r33,u.oneCell'=J:=λl u hu=>by
  obtain⟨g,-,rfl⟩:=YT.1 hu;rfl
 obtain⟨sl,rfl,n1,v1⟩:=Lz o1 (one l);obtain⟨sr,rfl,n2,v2⟩:=Lz o2 (one r);have hn:=VG nd (λg i=>(lt g i).2) ⟨up.2.1,up.2.2.1,up.2.2.2.1,up.2.2.2.2.1,up.2.2.2.2.2.1,up.2.2.2.2.2.2.1⟩;have C:∀g,g∈l++r++[gA,gB]++[a,b,c,d,u,m,s]->w.heap.size<=g:=λg i=>by
  have h1:K<=g:=by
   rw[ZN]at i;rcases i with i|i
   .exact(lt g (by simp only[ZN,Zb,YI,or_false]at i⊢;grind)).1
   unfold Up7 at up;simp only[Zb,YI,or_false]at i;omega
  omega
 let⟨q,n⟩:∃q:Rg,q=⟨⟨F (aZ a),33,33⟩,⟨F (aZ b),33,33⟩,⟨F (aZ c),33,33⟩,⟨F (aZ d),33,33⟩,⟨F (aZ u),32,32⟩,⟨F (aZ m),32,32⟩,⟨F (aZ s),32,32⟩,sl,sr,⟨F (aZ gA),32,32⟩,⟨F (aZ gB),32,32⟩⟩:=⟨_,Z⟩
 have f:q.all (l.map r33) (r.map r33)=l.map r33++r.map r33++[r32 gA,r32 gB]++[r33 a,r33 b,r33 c,r33 d,r32 u,r32 m,r32 s]:=by rw[n];rfl
 have hP:PtB W (zG q (l.map r33) (r.map r33)) (rgB t p Lb Rb A z):=by
  rw[n];exact(((PtB.one hT.a.pt).app ((PtB.one hT.b.pt).app ((PtB.one hT.c.pt).app ((PtB.one hT.d.pt).app ((PtB.one hT.e.pt).app ((PtB.one hT.f.pt).app (PtB.one hT.g.pt))))))).app (PtB.list (v1.len.trans n1) c1)).app (PtB.list (v2.len.trans n2) c2) |>.app ((PtB.one hA.pt).app (PtB.one V.pt))
 have v:(zG q (l.map r33) (r.map r33)).length=t+t+9:=by
  rw[<-hP.1];simp only[rgB,Yx,Y2,Z2,YO,xk];omega
 have R:RgP W t (rgB t p Lb Rb A z) q (l.map r33) (r.map r33):=by
  refine⟨?_,?_,?_,?_,λj L=>hP.ps j (by rw[v];exact L)⟩
  .rw[n];exact v1
  .rw[n];exact v2
  .rw[n];exact n1
  rw[n];exact n2
 let⟨Gq,hG⟩:∃Gq,l++r++[gA,gB]++[a,b,c,d,u,m,s]=Gq:=⟨_,Z⟩
 have own:∀x∈q.all (l.map r33) (r.map r33),∃g k,x=sZ g k k/\0<k/\k<=100:=λx hx=>by
  rw[f]at hx;simp only[ZN,YT,Zb,YI,or_false]at hx;rcases hx with((⟨g,-,rfl⟩|⟨g,-,rfl⟩)|rfl|rfl)|rfl|rfl|rfl|rfl|rfl|rfl|rfl
  all_goals exact⟨_,_,Z,dC,dC⟩
 have Q:Gq.map F=(q.all (l.map r33) (r.map r33)).map Value.ownBlock:=by
  rw[f,<-hG];simp only[H.map_append,H.map_map,pg,xo];rfl
 have o:∀(j:I) x g,(q.all (l.map r33) (r.map r33))[j]? = F x->x.ownBlock=F g->Gq[j]? = F g:=λj x g hx i=>by
  have h1:(Gq.map F)[j]? = F (F g):=by rw[Q,ZE,hx,<-i];rfl
  rw[ZE]at h1;let⟨M,O,N⟩:=Yu.1 h1
  rw[O,N]
 rw[hG]at hn C;refine⟨q,_,_,λj=>((rgB t p Lb Rb A z)[if j<t+t+2 then 7+j else j-(t+t+2)]?).getD #[],by rw[n];rfl,R,?_,λj L=>?_,λj j' x x' hx P M g e1 e2=>?_⟩
 .have l1:=v1.len;have l2:=v2.len;rw[f];simp only[Yx,Y2,Z2];omega
 .let⟨x,y,h1,O,N⟩:=R.at_ j L
  let⟨g,k,e,k0,k1⟩:=own x (Y7 h1)
  have X:=VM N e k0 (C g (Y7 (o j x g h1 (by rw[e];rfl))));refine⟨x,h1,?_⟩;simp only[O,zb.getD_some];exact⟨X.1,by rw[X.2];exact k1⟩
 let⟨X,N⟩:=YF.1 (o j x g hx e1)
 let⟨y3,O⟩:=YF.1 (o j' x' g P e2)
 exact M ((H.getElem_inj hn).1 (N.trans O.symm))
def RdB.p{B:I}{e:Yq}(h:RdB B t BB e W):∃q ys zs,e=.agg q.cs.toArray/\RgP W t BB q ys zs:=by
 obtain⟨p,l1,l2,k,v1,v2,i,m,-,l⟩:=h.ex;exact⟨p,l1,l2,k,v1,v2,i,m,λj g=>by
  let⟨u,b,f,c,d⟩:=l j g
  exact⟨u,b,f,c,UA d⟩⟩
def zRg:Rg:=⟨zSv,zSv,zSv,zSv,zSv,zSv,zSv,zSv,zSv,zSv,zSv⟩
def GF:RgP W 0 (ZB 9 #[]) zRg [] []/\Rws w W 9 (λ_=>#[]) (zRg.all [] []):=by
 have e:Pt W sN #[]:=⟨G,0,Z,Y3 Z⟩
 have hv:VL W zSv.q zSv.n []:=⟨Z,λ_=>rfl,Y3 Z,λu c=>by cases c⟩
 have f:zG zRg [] []=ZB 9 sN:=rfl;have d:zRg.all [] []=ZB 9 sN:=rfl;have k:∀ {α:Type}(x:α) j,j<0+0+9->(ZB 9 x)[j]? = F x:=λx j b=>by rw[H.getElem?_replicate,zd b]
 refine⟨⟨hv,hv,Z,Z,λj b=>⟨sN,#[],by rw[f];exact k _ j b,k _ j b,e⟩⟩,Z,λj b=>⟨sN,by rw[d];exact k _ j b,TO,aw _⟩,λj l u m c _ _ g i=>?_⟩;have:u=sN:=by
  rw[d]at c;exact H.eq_of_mem_replicate (Y7 c)
 subst this;cases i
def AnP(w:Yp)(t:I)(k:H Bs)(c:Y)(e:Yq)(W:Yp):Prop:=kZ w W/\∃q ys zs T,e=.tuple #[.agg q.cs.toArray,iZ c]/\RgP W t k q ys zs/\Rws w W (t+t+9) T (q.all ys zs)
def AnR(w:Yp)(t:I)(k:H Bs)(c:Y)(e:Yq)(W:Yp):Prop:=kZ w W/\∃q ys zs,e=.tuple #[.agg q.cs.toArray,iZ c]/\RgP W t k q ys zs
def QU(h:kZ w W/\e=.tuple #[.agg z11.toArray,iZ c]):AnP w 0 (ZB 9 #[]) c e W:=
 ⟨h.1,zRg,[],[],_,h.2,(GF (w:=w) (W:=W)).1,(GF (w:=w) (W:=W)).2⟩
def QT(h:kZ w W/\e=.tuple #[.agg z11.toArray,iZ c]):AnR w 0 (ZB 9 #[]) c e W:=
 ⟨h.1,zRg,[],[],h.2,(GF (w:=w) (W:=W)).1⟩
end
end
section
structure Nl where
 v:Yq
 n:I
 f:I->I
def Nl.up(x:Nl)(v:Yq):Nl:=⟨v,x.n+1,x.f⟩
def pok(x:Nl)(W W':Yp)(h:W.ownsRow b 54 4 x.v x.n (mW (λj=>wn (x.f j)) x.n))(k:∀g,x.v.ownBlock=F g->W'.heap[g]? = W.heap[g]?):W'.ownsRow b 54 4 x.v x.n (mW (λj=>wn (x.f j)) x.n):=cG h k
def pol(x:Nl)(W:Yp)(g:I)(h:W.ownsRow b 54 4 x.v x.n (mW (λj=>wn (x.f j)) x.n))(k:x.v.ownBlock=F g):b<=g/\g<W.heap.size:=⟨(cY h k).1,(cY h k).2.1⟩
abbrev lbk(ls:H Nl)(g:I):Prop:=gB Nl.v ls g
def pqO(b:I):Nl->Pq:=gO Nl.v _ (pok (b:=b)) (pol (b:=b))
abbrev pqN(ls:H Nl)(s:Pq):Pq:=gN Nl.v ls s
def sL(b:I)(ls:H Nl)(S:H Pq):H Pq:=ls.map (pqO b)++S.map (pqN ls)
abbrev ApL(ls:H Nl):Prop:=gA Nl.v ls
section
variable {w W:Yp}{rs rs':List (Nat × List Yq)}{S:List Pq}{ls:List Nl}{i k:Nat}{x:Nl}
def Mo.nil(h:Mp w W rs S)(d:∀x∈ls,x.v=nZ/\x.n=0):Mp w W rs (sL b ls S)/\ApL ls:=by
 have ho:∀x∈ls,∀g,x.v.ownBlock≠F g:=λx hx g e=>by rw[(d x hx).1]at e;cases e
 refine⟨⟨h.bl,h.rw,h.nd,λs hs=>?_⟩,λi j x y m o _ g k=>absurd k (ho x (Y7 m) g)⟩;rcases ZN.1 hs with hs|hs
 .obtain⟨x,hx,rfl⟩:=YT.1 hs;obtain⟨v,n,f⟩:=x;obtain⟨rfl,rfl⟩:v=_/\n=_:=d _ hx;exact⟨⟨Z,Y3 ⟨Z,Z⟩⟩,λg e=>absurd e (ho _ hx g)⟩
 obtain⟨l,c,rfl⟩:=YT.1 hs;exact l.mo _ _ _ (λg _ k=>⟨k,λ⟨x,hx,e⟩=>ho x hx g e⟩) (h.ob l c)
def Mo.app(K:Mp w W rs (sL w.heap.size ls S))(A:ApL ls)(d:ls[i]? = F x)(l:yz W k (wn (x.f x.n)))(f:x.n<=1000):∃b W',(Zn #[61,61] 61 #[x.v,sZ k 1 1]).run prog W=.ok b W'/\Mp w W' rs (sL w.heap.size (ls.set i (x.up b)) S)/\ApL (ls.set i (x.up b))/\∀s∈S,s.p (λg=>Nk rs g/\¬lbk ls g) W':=by
 have c:=Y7 d;have hx:(pqO w.heap.size x).p (Nk rs) W:=K.ob _ (tE _ (YT.2 ⟨x,c,Z⟩));obtain⟨b,W',o,r2,B⟩:=U2 hx.1 l f K.bl.size;obtain⟨h1,n⟩:=RX (y:=x.up b) pok pol K A d r2 B;refine⟨b,W',o,h1,n,λs hs=>?_⟩;have m:s.p (λg=>Nk rs g/\¬lbk ls g) W:=K.ob _ (xz _ (YT.2 ⟨s,hs,Z⟩));exact s.kp _ _ _ ⟨B.size,λg j hl=>B.keep g hl λe=>j.2 ⟨x,c,e⟩⟩ m
def Mo.fin(K:Mp w W rs (sL b ls S))(d:∀x∈ls,0<x.n):Mp w W rs (ls.map (λx=>pqR x.v x.n x.f)++S):=⟨K.bl,K.rw,K.nd,λs hs=>by
 rcases ZN.1 hs with hs|hs
 .obtain⟨y,k,rfl⟩:=YT.1 hs;have h:(pqO b y).p (Nk rs) W:=K.ob _ (tE _ (YT.2 ⟨y,k,Z⟩));obtain⟨g,o,c,e,h1,m,l,i⟩:=RwQ.of_own (s:=4) (f:=λj=>wn (y.f j)) (λ_=>rfl) h.1 (d y k);exact⟨g,o,c,e,h1,h.2 g (by rw[e];rfl),l,i⟩
 have h:(pqN ls s).p (Nk rs) W:=K.ob _ (xz _ (YT.2 ⟨s,hs,Z⟩));exact s.mo _ _ _ (λ_ _ k=>k.1) h⟩
end
section
variable {P:Zw}{ops:Array Y9}{rest:List Y9}{op:Y9}{a a':Act}{w W:Yp}{Q:Exit->Act->Yp->Prop}{d:Option Tmp}{x v:Yq}{t:Tmp}{rs:List (Nat × List Yq)}{S:List Pq}{k:Nat}{cs:List Yq}
def PM.bs(T:YW)(c:H Yq)(n:I)(K:Hid (Mp w W rs S)){G:I->Act}(h:∀k W',yz W' k c->Hid (Mp w W' rs S)->wpList P ops Q rest (G k) W')(hd:op.dst=d:=by rfl)(g:op.guard=none:=by rfl)(f:(Za a.eval op).run P W=.ok (.value (sZ W.heap.size n n)) (W.alloc (.cells c.toArray T)):=by kernel_rfl)(b:∀k,a.put d (sZ k n n)=G k:=by intro _;(simp only[Zo,Yw,Yy,Yz])<;>rfl):wpList P ops Q (op :: rest) a W:=by
 subst hd;exact wpList_plain g λi e=>by
  rw[ZY,f];refine e _ _ ?_;rw[b];exact h _ _ aF (K.grow (aD _))
end
section
variable {P:Zw}{ops:Array Y9}{Q:Exit->Act->Yp->Prop}{p r i fuel:Nat}{o:Y9}{listed:Array Bool}{a a':Act}{w0 w W:Yp}{d:Option Tmp}{x v:Yq}{t:Tmp}{T:YW}{b:Nat}{cs:List Yq}{rs rs':List (Nat × List Yq)}{S:List Pq}{c:Code}{J:Iv}
def AM.bs(i:I)(T:YW)(c:H Yq)(n:I){G:I->Act}(h:∀k W',kZ w W'->yz W' k c->AW P ops Q p r J fuel (listed.setIfInBounds i true) (G k) W')(ho:ops[i]? = F o:=by(simp only[YV,YP,YS])<;>rfl)(hd:o.dst=d:=by rfl)(f:o.guard=none:=by rfl)(e:(Za a.eval o).run P w=.ok (.value (sZ w.heap.size n n)) (w.alloc (.cells c.toArray T)):=by kernel_rfl)(m:∀k,a.put d (sZ k n n)=G k:=by intro _;(simp only[Zo,Yw,Yy,Yz])<;>rfl)(j:Y6 .any ops listed=[i]:=by kernel_rfl):AW P ops Q p r J (fuel+1) listed a w:=λl=>by
 subst hd;exact anyS.step ho j λK g=>by
  rw[zd (bT f)];rw[ZY,e];have b:=J.gr w _ (aD (.cells c.toArray T)) l;exact g _ _ (YZ b) (m _ ▸ h _ _ (aD _) aF b)
abbrev Iv.ml(b:Yp)(rs:H (I × H Yq))(ls:H Nl)(S:H Pq):Iv:=⟨λW=>Mp b W rs []/\∀s∈S,s.p (λg=>Nk rs g/\¬lbk ls g) W,λ_ _ k h=>⟨h.1.grow k,λs hs=>s.kp _ _ _ (Kq.of_below k) (h.2 s hs)⟩,false⟩
def Iv.ml_of{ls:H Nl}(K:Mp w0 W rs (sL k ls S)):(Iv.ml w0 rs ls S).p W:=⟨⟨K.bl,K.rw,K.nd,λ_ h=>(YI h).elim⟩,λs hs=>K.ob _ (xz _ (YT.2 ⟨s,hs,Z⟩))⟩
def Ml.get{ls:H Nl}{s:Pq}(h:(Iv.ml w0 rs ls S).p W)(j:I)(k:S[j]? = F s:=by rfl):s.p (λg=>Nk rs g/\¬lbk ls g) W:=h.2 s (Y7 k)
def AM.bl{id:I}{ls:H Nl}(q:I)(K:Hid (Mp w0 w rs (sL k ls S)))(h:Hid (Mp w0 w.drew rs (sL k ls S))->AW P ops Q q q (Iv.ml w0 rs ls S) ops.size (yt.replicate ops.size false) a w.drew)(b:P.follows .mixedOrders=true:=by kernel_rfl):(Code.region id ops true).wp P Q a w:=AW.beg q q (Iv.ml_of K.drew) (h K.drew) b
def AM.gl{ls:H Nl}{f:FuncId}{args:yt Yq}(i:I)(K:Hid (Mp w0 w rs (sL k ls S)))(c:Zl P f args w (rZ w λe w'=>e=x))(h:∀w',Hid (Mp w0 w' rs (sL k ls S))->AW P ops Q p r J fuel (listed.setIfInBounds i true) a' w')(ho:ops[i]? = F o:=by(simp only[YV,YP,YS])<;>rfl)(hd:o.dst=d:=by rfl)(j:o.guard=G:=by rfl)(hx:(Za a.eval o).run P w=.ok (.enter f args) w:=by kernel_rfl)
 (b:a.put d x=a':=by(simp only[Zo,Yw,Yy,Yz])<;>rfl) (g:Y6 .any ops listed=[i]:=by kernel_rfl):AW P ops Q p r J (fuel+1) listed a w:=
 AW.gi i (λ_=>c) (λw' l=>h w' (K.grow l)) ho hd j hx b g
def AM.ad{x:Nl}{ls:H Nl}{c:Y9}{L:Yq->H Nl}{G:Yq->Act}(m i:I)(K:Hid (Mp w0 w rs (sL w0.heap.size ls S)))(A:Hid (ApL ls))(hR:yz w k (wn (x.f x.n)))(h:∀b W',Hid (Mp w0 W' rs (sL w0.heap.size (L b) S))->Hid (ApL (L b))->Q .normal (G b) W')(O:ls[i]? = F x:=by rfl)(t:x.n<=1000:=by dsimp only;omega)(ho:ops[m]? = F o:=by(simp only[YV,YP,YS])<;>rfl)(hd:o.dst=d:=by rfl)(u:o.guard=none:=by rfl)(y:Za a.eval o=Zn #[61,61] 61 #[x.v,sZ k 1 1] >>= λv=>pure (fI v):=by kernel_rfl)
 (j:ops[m+1]? = F c:=by(simp only[YV,YP,YS])<;>rfl) (g:c.dst=s:=by rfl) (f:c.guard=none:=by rfl) (hv:∀b W',(Za (a.put d b).eval c).run prog W'=.ok (.value b) W':=by intro _ _;kernel_rfl) (hl:∀b,ls.set i (x.up b)=L b:=by intro _;(simp only[Yy,Yz,Nl.up])<;>rfl) (M:∀b,(a.put d b).put s b=G b:=by intro _;(simp only[Zo,Yw,Yy,Yz])<;>rfl)
 (l:(Y6 .any ops listed,Y6 .any ops (listed.setIfInBounds m true),Y6 .any ops ((listed.setIfInBounds m true).setIfInBounds (m+1) true))=([m],[m+1],[]):=by kernel_rfl):AW prog ops Q p r (Iv.ml w0 rs ls S) (fuel+2) listed a w:=λ_=>by
 simp only[ZV.injEq]at l;let⟨P,r2,C⟩:=l
 let⟨b,W',e,n,N,z⟩:=Mo.app K A O hR t
 have q:(Iv.ml w0 rs ls S).p W':=⟨(Iv.ml_of n).1,z⟩
 subst hd g;exact anyS.ins ho e (YZ q) (anyS.nxt j (YZ q) (anyS.done C (M b ▸ h b W' (hl b ▸ n) (hl b ▸ N)) _) (hv b W') r2 f Z) P u y Z
end
section
variable {ops:Array Y9}{rest:List Y9}{op:Y9}{a:Act}{w W:Yp}{Q:Exit->Act->Yp->Prop}{d:Option Tmp}{rs:List (Nat × List Yq)}{S:List Pq}{k:Nat}{x:Nl}{ls:List Nl}{L:Yq->List Nl}{G:Yq->Act}
def PM.ap(i:I)(K:Hid (Mp w W rs (sL w.heap.size ls S)))(A:Hid (ApL ls))(hR:yz W k (wn (x.f x.n)))(h:∀b W',Hid (Mp w W' rs (sL w.heap.size (L b) S))->Hid (ApL (L b))->wpList prog ops Q rest (G b) W')(m:ls[i]? = F x:=by rfl)(c:x.n<=1000:=by dsimp only;omega)(hd:op.dst=d:=by rfl)(f:op.guard=none:=by rfl)(g:Za a.eval op=Zn #[61,61] 61 #[x.v,sZ k 1 1] >>= λv=>pure (fI v):=by kernel_rfl)(hl:∀b,ls.set i (x.up b)=L b:=by intro _;(simp only[Yy,Yz,Nl.up])<;>rfl)(j:∀b,a.put d b=G b:=by intro _;(simp only[Zo,Yw,Yy,Yz])<;>rfl):wpList prog ops Q (op :: rest) a W:=by
 obtain⟨b,W',e,n,l,-⟩:=Mo.app K A m hR c;exact PW.ns e (j b ▸ h b W' (hl b ▸ n) (hl b ▸ l)) hd f g
end
end
section
open SPA
section
variable {s n i g:Nat}{f:Nat->List Yq}{W:Yp}
def Hm(hs:∀j,(f j).length=s)(k:i<n)(h:yz W g (mW f n)):W.rangeAt g (s*i) (f i):=λj u b=>by
 have:=h.2.1 (s*i+j) u (xM hs n i j u k b);rwa[Yv]at this
def N1(hs:∀j,(f j).length=s)(k:i<n)(h:yz W g (mW f n)):W.there g (s*i) s:=λj b=>by
 have hl:s*(i+1)<=s*n:=lp (Ys s) k;have:=h.2.2 (s*i+j) (by rw[gR hs];rw[pi,ay]at hl;omega);rwa[Yv]at this
def QF(hs:∀j,(f j).length=s)(u:i<n)(h:yz W g (mW f n))(c:us.length=s)(h1:f' i=us)(t:∀j,j≠i->f' j=f j):yz (W.setCells g (s*i) us) g (mW f' n):=by
 have k:∀j,(f' j).length=s:=λj=>by
  by_cases e:j=i
  .rw[e,h1,c]
  rw[t j e,hs]
 refine⟨by rw[setCells_size];exact h.1,λm v q=>?_,?_⟩
 .have b:=(YF.1 q).1;rw[gR k]at b;have s0:0<s:=I.pos_of_ne_zero λe=>by rw[e,I.zero_mul]at b;omega
  have r:m/s<n:=I.div_lt_of_lt_mul b;have d:=ZL m s0;have l:=I.div_add_mod m s;have p:=xM k n (m/s) (m%s) _ r (YC (by rw[k];exact d));rw[l,q]at p;have o:=YR.inj p;by_cases e:m/s=i
  .have:=World.rangeAt_setCells_same W g (s*i) us (by rw[c];exact(N1 hs u h)) (m%s) v (by rw[o,YC (by rw[c];exact d)];simp only[e,h1]);rw[Yv];rwa[show s*i+m%s=m by rw[<-e];exact l]at this
  have:=World.rangeAt_setCells_apart (Hm hs r h) g (s*i) us (by
   rw[c,hs];rcases I.lt_or_ge (m/s) i with h|h
   .have:=lp (Ys s) (show m/s+1<=i from h);rw[pi,ay]at this;omega
   have:=lp (Ys s) (show i+1<=m/s by omega);rw[pi,ay]at this;omega) (m%s) v (by rw[o,YC (by rw[hs];exact d)];simp only[t _ e])
  rw[Yv];rwa[l]at this
 rw[gR k,<-gR hs n];exact World.there_setCells h.2.2 _ _ _
def PV(hs:∀j,(f j).length=s)(h:W.ownsRow b T s v n (mW f n))(d:0<n):∃g c,v=sZ g n c/\n<=c/\b<=g/\yz W g (mW f n):=by
 obtain⟨g,c,rfl⟩:=zB h d;have hl:=cY h Z;have i:n<=c:=by
  obtain⟨-,⟨e,-⟩|⟨l,c',cur,e,-,-,k,-⟩⟩:=id h
  .cases e
  cases e;exact k
 refine⟨g,c,Z,i,hl.1,hl.2.1,λj u k=>?_,λj k=>?_⟩
 .have:=h.cells Z j u k;rw[Ow]at this;rw[Yv];exact this
 rw[gR hs]at k;rw[Yv];have:=h.cellAt j (by rw[I.mul_comm];exact k);exact⟨by rw[this,YC (by rw[gR hs];exact k)];rfl,h.frozenAt j⟩
end
def Mw(h:n<2^64):yy 22 #[U n] (nv n):=λw=>(kG h).mono (by
 rintro e w' ⟨v,rfl,k,rfl⟩;refine⟨_,Z,k,?_⟩;unfold nv wn;rw[YL h,pj h,pj (yFq h dC),pj (yFq h dC)];rfl)
variable {N:Nat}[NeZero N]
omit [NeZero N] in
theorem Rr(O:Ord N)(a b:B N):yy 23 #[rv1,nv a.val,nv b.val] (nv (a-b).val):=by rw[Nc];exact TA O a.isLt b.isLt
def VJ(O:Ord N)(a:B N):yy 98 #[rv1,nv a.val] (nv (ivF a).val):=MF O a.isLt
def FX(O:Ord N)(h1:1<N)(x:B N)(n:I)(g:0<n)(y:n<=64)(w:Yp):dZ 34 #[nv x.val,iZ n] w λe w'=>NtQ (w.heap.size<=·) w' e n λj=>(pwF x j).val:=by
 have r:E (∀i,yy 33 #[rv1,nv (pwF x i).val,nv x.val] (nv (pwF x (i+1)).val)):=λi=>lR O (a:=(pwF x i)) (b:=x)
 have m:yy 22 #[U 1] (nv (pwF x 0).val):=by rw[show(pwF x 0).val=1 from YL h1];exact Mw (n:=1) dC
 obtain⟨f,hf⟩:∃f:I->I,∀j,(pwF x j).val=f j:=⟨_,λ_=>rfl⟩
 obtain⟨X,z⟩:=hE x.val;simp only[hf,z.out]at r m⊢;have o:=mk2 g y;have p:=mk1 m;have W:=mk1 (Mp.start w);clear m;go_enter func34,ntmps34;refine PW.bg [] ?_;refine PM.al 54 (wn X) W λq w1 K1=>?_
 refine PW.en [nZ] ?_;refine PW.bg [] ?_;refine PM.gi K1 (Dm w1) λw2 K2=>?_
 refine PM.al 58 (RG.z 8) K2 λt w3 K3=>?_
 refine PM.st 1 rl1 K3 hQr λv T=>?_
 refine PW.dn ?_;refine PW.bg [] ?_;refine PM.gi T (p v) λw5 Q=>?_
 refine PM.al 54 (RG.z 4) Q λu w6 a=>?_
 refine PM.st 2 (wn (f 0)) a nq λw7 K7=>?_
 refine PW.dn ?_;refine PW.rg [nZ] ?_;refine Yt<|PW.rg [iZ 0] ?_
 apply ZR;have d:=Mo.nil (ls:=[⟨nZ,0,f⟩]) (b:=w.heap.size) K7 (by simp);have d:=mk1 d;go_loopg [7,8] n (λgk s7 s8 wr=>∃i:I,i+gk=n/\s8=iZ i/\E (Mp w wr [(q,wn X),(t,rl1),(u,wn (f i))] (sL w.heap.size [⟨s7,i,f⟩] []))/\E (ApL [⟨s7,i,f⟩]))
 case atStart=>exact⟨0,S,Z,d.1,d.2⟩
 case round =>
  obtain⟨i,M,rfl,K,A⟩:=hrel;refine Yt<|PW.rg [.bool (decide ((i:Y)<(n:Y)))] ?_
  by_cases hi:i<n
  .have k:(i:Y)<(n:Y):=S;have l:YQ.wrap ((i:Y)+1)=((i+1:I):Y):=by rw[Zy];have:=o.2;omega
   have h0:=o.2;rw[decide_eq_true k];refine Y5 rfl<|ZK<|Yt<|ZR<|PW.bg [] ?_
   refine PM.ro 2 K nq ?_;refine PM.bs 54 (wn (f i)) 1 K λkb wb hR Kb=>?_
   refine PM.ap 0 Kb A hR λC w9 c V=>?_
   refine PW.en [C] ?_;refine PW.bb (P:=prog) [] ?_;refine PM.ro 1 c hQr ?_;refine PM.ro 2 c nq ?_;refine PM.ro 0 c nq ?_;refine PM.gi c (r i w9) λwa L=>?_
   refine PM.st 2 (wn (f (i+1))) L nq λwc Kc=>?_
   refine PW.dn ?_;refine PW.bb (P:=prog) [iZ (YQ.wrap ((i:Y)+1))] ?_;rw[l];go_wp2;go_roundg (gk-1)
   case measure=>omega
   case rel=>exact⟨i+1,S,Z,Kc,V⟩
  .have k:¬(i:Y)<(n:Y):=S;obtain rfl:i=n:=S;rw[decide_eq_false k];refine YY rfl<|fT ?_
   have l:(pqO w.heap.size ⟨u7,i,f⟩).p (Nk [(q,wn X),(t,rl1),(u,wn (f i))]) wr:=K.ob _ (tE _ (ZX.2 Z));have c:=mk2 K.bl (RwQ.of_own (s:=4) (f:=λj=>wn (f j)) (λ_=>rfl) l.1 o.1);refine PW.rg [u7] ?_;go_wp2;go_ret;exact⟨_,Z,c.1,c.2⟩
end
section
open SPA
section
variable {P:Zw}{ops:Array Y9}{Q:Exit->Act->Yp->Prop}{p r:Nat}{J:Iv}{f:FuncId}{args:Array Yq}{w0 w W:Yp}{rs:List (Nat × List Yq)}{S:List Pq}
def AW.wi{k:yt zk}{a:Act}(h:J.p w->AW P ops Q p r J b k a w):AW P ops Q p r J b k a w:=λc=>h c c
def PM.fr(K:Mp w0 w rs S)(h:Zl P f args w (rZ w λe w'=>(sp e).p (w.heap.size<=·) w')):Zl P f args w (rZ w λe w'=>(sp e).p (Nk rs) w'):=h.mono (by
 rintro e w' ⟨v,rfl,b,hs⟩;exact⟨_,Z,b,(sp _).mo _ _ _ (λg _ k=>K.nk g k) hs⟩)
end
section
variable {w:Yp}{y:Nat}{L:Bs}
def Tk{k:R}(b:k.size<=16384):dZ 99 #[.string k] w λe w'=>∃y,e=jZ y/\w.heap.size<=y/\RLog w' y (newL k.data.toList):=
 (F9 k w b).mono (by
  rintro e w' ⟨y,rfl,h1,d,c⟩;exact⟨_,Z,d,_,Z,h1,c⟩)
def DU{e:YW}{P:Zw}{c:I}(s t i:Tmp)(p:o.results=#[.tmp s,.cell t T,.cell i e])(h:yz W k vs)(q:yz W c us)(hs:tmps[s]? = F x)(r:tmps[t]? = F (jZ k))(m:tmps[i]? = F (jZ c))(g:(P.underlying T).map (·.isRow)=F J)(y:(P.info? T).map (·.size)=F vs.length)(b:(P.underlying e).map (·.isRow)=F J)(j:(P.info? e).map (·.size)=F us.length):(results o tmps).run P W=.ok (.tuple #[x,.agg vs.toArray,.agg us.toArray]) W:=by
 let⟨d,g,hd⟩:=Yu.1 g
 let⟨u,b,f⟩:=Yu.1 b
 have h1:=oX (P:=P) W k 0 T vs d h.2.1 g hd y;have n:=oX (P:=P) W c 0 e us u q.2.1 b f j;have w:tmps.getD t ae=jZ k:=by rw[YG,r];rfl
 have l:tmps.getD i ae=jZ c:=by rw[YG,m];rfl
 have v:tmps.getD s ae=x:=by rw[YG,hs];rfl
 rw[results,p];simp only[yt.mapM_eq_mapM_toList,H.mapM_cons,H.mapM_nil,w,l,v,asAddr];simp[YU,h1,n]
end
variable {P:Nat}[NeZero P]{N:Nat}[NeZero N]
omit [NeZero P] [NeZero N] in
theorem Ts(O:Ord N)(V A S:Bs)(hV:V.size=33)(hA:A.size=33)(hS:S.size=33)(n:I)(hn:n<=64)(w:Yp):dZ 31 #[.string ⟨V⟩,iZ n,.string ⟨A⟩,.string ⟨S⟩] w λe w'=>∃y,e=.tuple #[jZ y,nv (chS N (bgL V n A S)),nv (chS N (aN (bgL V n A S)))]/\w.heap.size<=y/\RLog w' y (aN (aN (bgL V n A S))):=by
 have su:(n:Y)=ub (aR n 1):=by
  unfold ub aR;rw[wD,yv.toNat_ofNat',YL (by omega)]
 have p:=mk1 (λw=>Sb su (by omega) w);have i:=mk1 (λw k h=>str1 (aR n 1) w k h);obtain⟨ui,q⟩:=hE (ub (aR n 1));obtain⟨Lb,b⟩:∃X:R,X=⟨#[aR n 1]⟩:=⟨_,Z⟩
 obtain⟨z,t⟩:=hE (newL [114,97,110,103,101]);obtain⟨r,h1⟩:=hE (iF z [99,111,109,109,105,116] V.toList);obtain⟨s,x⟩:=hE (iF r [98,105,116,115] [aR n 1]);obtain⟨m,v⟩:=hE (iF s [102,105,114,115,116] A.toList);obtain⟨d,u⟩:=hE (iF m [115,101,99,111,110,100] S.toList);obtain⟨l,c⟩:=hE (aN d);obtain⟨L6,Q⟩:=hE (aN l);have e4:bgL V n A S=d:=by rw[<-u.out,<-v.out,<-x.out,<-h1.out,<-t.out];rfl
 have s0:z.size=32:=t.out▸uY;have s1:r.size=32:=h1.out▸bV;have s2:s.size=32:=x.out▸bV;have s3:m.size=32:=v.out▸bV;have s4:d.size=32:=u.out▸bV;have s5:l.size=32:=c.out▸aW;rw[e4,c.out,Q.out];have HN:=mk1 (λw=>Tk (k:=⟨#[114,97,110,103,101]⟩) dC (w:=w));have H1:=mk1 (λw y (h:RLog w y z)=>rJ (b:=⟨#[99,111,109,109,105,116]⟩) (k:=⟨V⟩) dC (show V.size<=16384 by omega) s0 h);have H2:=mk1 (λw y (h:RLog w y r)=>rJ (b:=⟨#[98,105,116,115]⟩) (k:=Lb) dC (by rw[b];exact(by decide:1<=16384)) s1 h);have H3:=mk1 (λw y (h:RLog w y s)=>rJ (b:=⟨#[102,105,114,115,116]⟩) (k:=⟨A⟩) dC (show A.size<=16384 by omega) s2 h);have H4:=mk1 (λw y (h:RLog w y m)=>rJ (b:=⟨#[115,101,99,111,110,100]⟩) (k:=⟨S⟩) dC (show S.size<=16384 by omega) s3 h);have M:=mk1 (λw y (h:RLog w y d)=>xJ O y d w s4 h);have K:=mk1 (λw y (h:RLog w y l)=>xJ O y l w s5 h);have T:iF r (⟨#[98,105,116,115]⟩:R).data.toList Lb.data.toList=s:=by rw[b];exact x
 rw[show(⟨#[114,97,110,103,101]⟩:R).data.toList=[114,97,110,103,101] from Z,t.out]at HN;rw[show iF z (⟨#[99,111,109,109,105,116]⟩:R).data.toList (⟨V⟩:R).data.toList=r from h1.out]at H1;rw[T]at H2;rw[show iF s (⟨#[102,105,114,115,116]⟩:R).data.toList (⟨A⟩:R).data.toList=m from v.out]at H3;rw[show iF m (⟨#[115,101,99,111,110,100]⟩:R).data.toList (⟨S⟩:R).data.toList=d from u.out]at H4;rw[c.out]at M;rw[Q.out]at K;rw[q.out]at p i;rw[<-b]at i;obtain⟨j,f⟩:=hE (chS N d);obtain⟨o,g⟩:=hE (chS N l);rw[show jG (cha N d)=j from f.out]at M;rw[show jG (cha N l)=o from g.out]at K;rw[f.out,g.out];clear t h1 x v u c Q e4 T su q b f g s0 s1 s2 s3 s4 s5;go_enter func31,ntmps31;refine PW.bg [.pointer G] ?_;refine PM.al 54 (wn 0) (mk1 (Mp.start w)) λk9 w1 K1=>?_
 refine PM.al 54 (RG.z 4) K1 λka w2 K2=>?_
 refine PW.dn ?_;refine PW.bg [] ?_;refine PW.ca (HN w2) ?_;rintro e w3 ⟨L,y,rfl,hy,hL⟩;refine PW.en [jZ y] ?_;refine PW.bg [] ?_;refine PM.ry 2 (mk1 (K2.add L (sW hL) hy)) (H1 w3 y) λw4 K4=>?_
 refine PW.dn ?_;refine PW.bg [] ?_;refine PW.ns (p w4) ?_;refine PM.bs 5 [.int .u8 ui] 1 K4 λkb w5 hR K5=>?_
 refine PW.ns (i w5 kb hR.2.1) ?_;refine PM.ry 2 K5 (H2 w5 y) λw6 K6=>?_
 refine PW.dn ?_;refine PW.bg [] ?_;refine PM.ry 2 K6 (H3 w6 y) λw7 K7=>?_
 refine PW.dn ?_;refine PW.bg [] ?_;refine PM.ry 2 K7 (H4 w7 y) λw8 K8=>?_
 refine PW.dn ?_;refine PW.bg [] ?_;refine PM.ry 2 K8 (M w8 y) λw9 K9=>?_
 refine PM.al 54 (RG.z 4) K9 λkc wa Ka=>?_
 refine PM.st 3 (wn j) Ka nq λwb Kb=>?_
 refine PW.dn ?_;refine PW.bg [] ?_;refine PM.ry 2 Kb (K wb y) λwc Kc=>?_
 refine PM.al 54 (RG.z 4) Kc λkd wd Kd=>?_
 refine PM.st 4 (wn o) Kd nq λwe Ke=>?_
 refine PW.dn ?_;refine Yt<|AW.beg 5 5 (J:=⟨λW=>∃n,Mp w W [(k9,wn n),(ka,RG.z 4),(y,[.string ⟨L6⟩]),(kc,wn j),(kd,wn o)] [],λ_ _ hb ⟨n,h⟩=>⟨n,h.grow hb⟩,true⟩) ⟨0,Ke.drew⟩ ?_
 refine AW.mv 0 ?_;refine AW.ro 1 (λW ⟨_,h⟩=>(h.at_ 3 Z).2.1) nq u33 i33 ?_;refine AW.ro 2 (λW ⟨_,h⟩=>(h.at_ 4 Z).2.1) nq u33 i33 ?_;refine AW.nx 3 (jZ y) ?_;refine AW.wi λ⟨n,h⟩=>?_
 have c:=mk1 (h.put 0 (c':=wn j) hQr);refine AW.ss 4 (us:=wn j) nq aM i33 hQr (λ_=>⟨h.th 0,j,c⟩) ?_;refine AW.fi (us:=wn o) nq aM i33 (λ_=>⟨c.th 1,?_⟩);have C:=mk1 (c.put 1 (c':=wn o) hQr);refine Zr<|YB (DU 8 9 10 (T:=54) (e:=54) Z (C.at_ 0 Z) (C.at_ 1 Z) Z Z Z u33 i33 u33 i33) Z ?_
 exact⟨_,Z,C.bl,y,Z,YA K2.bl.size hy,sO (C.at_ 2)⟩
end
section
open SPA
variable {P:Nat}[NeZero P]{N:Nat}[NeZero N]
def QG{s:I}(hs:∀j,(f j).length=s)(k:i<n)(h:yz W g (mW f n)):W.rangeAt g (0+s*i) (f i):=by
 rw[Yv];exact Hm hs k h
def rgL:R:=⟨#[114,105,103,104,116]⟩
noncomputable def trR (P:I) [NeZero P] (y:B N) (j:I):T3 P:=tmF (pwF (ivF y) j).val (bsP P rgL j) 256
def AO(C:Fl3 P)(k:R)(j:I):FracT (bsP P k j) (gPt C.toFld k j).1:=⟨tU C.toFld,(gPt C.toFld k j).2⟩
def Td(C:Fl3 P)(O:Ord N)(m:∀r:EC.Pt P,On r->mul N r=G)(hN:N<=top)(h1:1<N)(y:B N)(n:I)(d:0<n)(M:n<=64)(w:Yp):dZ 42 #[nv y.val,iZ n] w λe w'=>PtQ (w.heap.size<=·) w' e n (trR P y):=by
 have HB:=mk1 (λw=>Jl C rgL (by decide) n d M w);have HI:=mk1 (VJ O y);have HP:=mk1 (λw=>FX O h1 (ivF y) n d M w);have Q:E (∀j,yy 43 #[nv (pwF (ivF y) j).val,tv (bsP P rgL j)] (tv (trR P y j))):=λj=>(rB C m hN (pwF (ivF y) j) (AO C rgL j)).1
 obtain⟨t,s⟩:=hE (bsP P rgL);obtain⟨u,a⟩:=hE (trR P y);obtain⟨f,hf⟩:∃f:I->I,∀j,(pwF (ivF y) j).val=f j:=⟨_,λ_=>rfl⟩
 obtain⟨Y,hY⟩:=hE y.val;obtain⟨Z,hZ⟩:=hE (ivF y).val;obtain⟨h0,hl⟩:=hE rgL;simp only[hf,hY.out,hZ.out]at HI HP Q⊢;rw[s.out,a.out]at Q;rw[s.out]at HB;rw[a.out];have HN:=mk2 d M;have tq:∀ {x:T3 P},E (Y8 (tw x).toArray=tv x):=rfl;have k:∀(g:I->T3 P) (j:I),(tw (g j)).length=12:=λ_ _=>rfl
 clear a hf hY hZ s hl;go_enter func42,ntmps42;refine PW.bg [] ?_;refine PM.al 54 (wn Y) (mk1 (Mp.start w)) λk2 w1 K1=>?_
 refine PW.en [nZ] ?_;refine PW.bg [] ?_;refine PW.ca (HB w1) ?_;rintro e w2 ⟨p,hO⟩;obtain⟨g,c,rfl,hc,X,hR⟩:=PV (k t) hO HN.1;have K2:=mk1 (K1.add p hR X);clear hO hR p;refine PW.en [sZ g n c] ?_;refine AM.bg 5 5 K2 ?_;refine AM.ro 1 0 nq ?_;refine AW.mv 3 ?_;refine AW.gi 0 (λ_=>Dm _) λw3 _=>?_
 refine AW.gi 2 (λ_=>HI _) λw4 _=>?_
 refine AW.ca 4 (λK=>PM.fr (sp:=λe=>pqR e n f) K (HP _)) (λe w' h=>h.1) ?_;rintro e w5 ⟨_,v⟩;obtain⟨L,A,cw,rfl,h2,-⟩:=id v;refine AW.nx 5 (qZ L A n cw) ?_;refine AW.dn λK=>?_
 have K3:=mk1 (K.has (pqR _ n f) v);clear K v;refine Yt<|PW.rg [iZ 0] ?_
 apply ZR;go_loopg [7] n (λgk s7 wr=>∃i:I,i+gk=n/\s7=iZ i/\∃h:I->T3 P,E (∀j,h j=if j<i then u j else t j)/\E (Mp w wr [(k2,wn Y),(g,mW (λj=>tw (h j)) n)] [pqR (qZ L A n cw) n f]))
 case atStart=>exact⟨0,S,rfl,t,λj=>(zi (p9 j)).symm,K3⟩
 case round =>
  obtain⟨i,h3,rfl,h,hh,K⟩:=hrel;refine Yt<|PW.rg [.bool (decide ((i:Int)<(n:Int)))] ?_
  by_cases b:i<n
  .have l:(i:Int)<(n:Int):=S;have z:YQ.wrap ((i:Int)+1)=((i+1:I):Int):=by rw[Zy];have:=HN.2;omega
   have T:h i=t i:=by rw[hh.out i,zi (yFh i)]
   have c1:=Q i;rw[<-T]at c1;rw[decide_eq_true l];refine Y5 rfl<|ZK<|Yt<|ZR<|AM.bb 12 12 K ?_
   refine AW.mv 0 ?_;refine AW.mv 1 ?_;refine AW.mv 2 ?_;refine AW.mv 3 ?_;refine AW.iv 4 (atN (k:=L) (o:=A) (n:=n) (c:=cw) (i:=i) b) ?_;refine AW.ro 5 (λW h=>NtQ.get (Mp.get h 0) b) nq u33 i33 ?_;refine AW.mv 6 ?_;refine AW.mv 7 ?_;refine AW.iv 8 (Og (k:=g) (o:=0) (n:=n) (c:=c) (i:=i) b) ?_;refine AW.ro 9 (λW hW=>QG (k h) b (Mp.at_ hW 1 rfl)) tq uP3 iP3 ?_;refine AW.gi 10 (λ_=>c1 _) λw8 _=>?_
   refine AW.iv 11 (Og (k:=g) (o:=0) (n:=n) (c:=c) (i:=i) b) ?_;refine AW.fi (us:=tw (u i)) tq (Ii _) iP3 (λK=>?_);have hR:=K.at_ 1 rfl;rw[Yv];refine⟨N1 (k _) b hR,?_⟩;have K8:=mk1 (K.upd (o:=12*i) 1 hQr (QF (k _) b hR rfl (f':=λj=>tw (if j=i then u i else h j)) (by rw[zd rfl]) λj q=>by rw[zi q]));clear hR K;refine PW.bb (P:=prog) [iZ (YQ.wrap ((i:Int)+1))] ?_;rw[z];go_wp2;go_roundg (gk-1)
   case measure=>omega
   case rel=>exact⟨i+1,S,rfl,_,λj=>by
    by_cases e:j=i
    .rw[zd e,zd (by omega),e]
    .rw[zi e,hh.out j];by_cases V:j<i
     .rw[zd V,zd (by omega)]
     .rw[zi V,zi (by omega)],K8⟩
  .have l:¬(i:Int)<(n:Int):=S;obtain rfl:i=n:=S;rw[decide_eq_false l];refine YY rfl<|fT ?_
   have hR:=K.at_ 1 rfl;have z:E (kZ w wr/\PtQ (w.heap.size<=·) wr (sZ g i c) i u):=⟨K.bl,g,0,c,rfl,hc,YA K1.bl.size X,hR.1,λj q=>by
    rw[Yv];have:=Hm (k h) q hR;rwa[hh.out j,zd q]at this⟩
   refine PW.rg (P:=prog) [sZ g i c] ?_;go_wp2;go_ret;exact⟨_,rfl,z.1,z.2⟩
end
def Xc:H It:=[.m 0 [] 0]
def Xb(x y:B P):H It:=[.c 1 [] (rv x y 1),.u [(1,0)] 0]
def XB(C:Fl3 P){x y:B P}(b:hpt P dQ []=(x,y)):yy 100 #[] (rv x y 1):=by
 intro w;have hh:yy 91 #[.string dQ,.string ⟨#[]⟩] (rv x y 1):=by
  have h:=Cw C dQ ⟨#[]⟩ (by decide) (by decide);rw[b]at h;exact h
 clear b;go_enter func100,ntmps100;refine RG.M.enter [] 2 (by kernel_rfl) ?_;intro a0 c;refine Yt <| c.tx Xc [(0,RG.z 12)] [] [RG.z 12] [(0,.p 0 0)] (by kernel_rfl) (by kernel_rfl) ⟨mk 0 68 λ_ _=>by kernel_rfl,yw⟩ λk j i e=>?_
 refine Yt <| e.tx (Xb x y) [] [(0,1,ws x++(ws y++ws (1:B P)))] [ws x++(ws y++ws (1:B P))] [(0,.p 0 0)] (by kernel_rfl) (by kernel_rfl) ⟨cl hh λ_ _=>by kernel_rfl,RG.pt i56 (by kernel_rfl),yw⟩ λf g d=>?_
 exact Zr (d.rr 0 Z u56 i56)
def Xe:H It:=[.m 2 [] 0,.m 3 [] 1,.m 4 [] 2]
def Xd(n m:I)(x y gx b:B P)(t1 t2 k:T3 P):H It:=[.x 5 [] (nv n),.c 6 [] (rv x y 1),.c 7 [(5,0),(6,1)] (tv t1),.x 8 [] (nv m),.c 9 [] (rv gx b 1),.c 10 [(8,3),(9,4)] (tv t2),.c 11 [(7,2),(10,5)] (tv k),.u [(11,6)] 2]
def UI(n m:I):cmt P n m=EC.add (mul n (.some (hpt P dQ []):EC.Pt P)) (mul m (gG P)):=by
 unfold cmt;generalize hpt P dQ []=q;show EC.add (EC.add G (dW (n:Y) (.some q:EC.Pt P))) (dW (m:Y) (gG P))=_;rw[jH];rfl
def BD(C:Fl3 P)(n m:I)(l:n<top)(o:m<top):∃t:T3 P,FracT t (cmt P n m)/\yy 32 #[nv n,nv m] (tv t):=by
 rw[UI];have k:=zX C.toFld (k:=dQ) (b:=[]);let⟨q,g⟩:∃q,hpt P dQ []=q:=⟨_,Z⟩
 rw[g]at k⊢;let⟨x,y⟩:=q
 have z:=XB C g;clear g;have hG:yy 97 #[] (rv (gX P) (gY P) 1):=Tw C;have f:FracT ((x,y,1):T3 P) (.some (x,y)):=⟨tU C.toFld,k⟩
 have f1:=CU C.toFld;have c:=lQ C n l (x,y,1) f;have b:=lQ C m o (gT P) f1;have p:FracT (tmF n (x,y,1) 256) (mul n (.some (x,y))):=by
  have h:=yE C (n:=n) (by unfold top at l;omega) f 256 (Ys _);rwa[oF,gF,wD]at h
 have j:FracT (tmF m (gT P) 256) (mul m (gG P)):=by
  have h:=yE C (n:=m) (by unfold top at o;omega) f1 256 (Ys _);rwa[oF,gF,wD]at h
 let⟨d,i⟩:=FracT.plus C p j
 refine⟨_,i,?_⟩;generalize plF (tmF n (x,y,1) 256) (tmF m (gT P) 256)=e at d⊢;generalize tmF n (x,y,1) 256=t1 at c d;generalize tmF m (gT P) 256=t2 at b d;replace b:yy 43 #[nv m,rv (gX P) (gY P) 1] (tv t2):=b;replace c:yy 43 #[nv n,rv x y 1] (tv t1):=c;generalize gX P=gx at hG b;generalize gY P=u at hG b;clear p j i f f1 k;intro w;go_enter func32,ntmps32;refine RG.M.enter [(0,.v (nv n)),(1,.v (nv m))] 12 (by kernel_rfl) ?_;intro a0 r;refine Yt <| r.tx Xe [(0,wn n),(1,wn m),(2,RG.z 12)] [] [wn n,wn m,RG.z 12] [(2,.p 0 0),(3,.p 1 0),(4,.p 2 0)] (by kernel_rfl) (by kernel_rfl) ⟨mk 0 54 λ_ _=>by kernel_rfl,mk 1 54 λ_ _=>by kernel_rfl,mk 2 68 λ_ _=>by kernel_rfl,yw⟩ λN a L K O v=>?_
 refine Yt <| v.dr (by kernel_rfl) (Xd n m x y gx u t1 t2 e) [] [(2,7,tw e)] [wn n,wn m,tw e] [(4,.p 2 0)] (by kernel_rfl) (by kernel_rfl) ⟨ld u33 i33 (by kernel_rfl),cl z λ_ _=>by kernel_rfl,cl c λ_ _=>by kernel_rfl,ld u33 i33 (by kernel_rfl),cl hG λ_ _=>by kernel_rfl,cl b λ_ _=>by kernel_rfl,cl d λ_ _=>by kernel_rfl,RG.pt i56 (by kernel_rfl),yw⟩ λM A s=>?_
 exact Zr (s.rr 2 Z u56 i56)
section
open SPA
def Cp{v:I}(hv:v<2^64)(k:i<64)(w:Yp):(binOp .shr 22 (U v) (iZ i)).run prog w=.ok (U ((v/2^i:I):Y)) w:=by
 have h1:¬(i:Y)<0:=S;go_simp
def QV{x:I}(hx:x<2^64):(binOp .and 22 (U x) (U 1)).run prog w=.ok (U ((x%2:I):Y)) w:=by
 go_simp;rw[and_one hx];rfl
def wdB(n:Y):zk:=n == 8 || n == 16 || n == 32 || n == 64
theorem Is(n:Y):yy 19 #[iZ n] (.bool (wdB n)):=by
 intro w;go_enter func19,ntmps19;go_wp2;all_goals
  go_ret;refine⟨_,Z,YH _ _,?_⟩
  simp_all[wdB]
variable {P:Nat}[NeZero P]{N:Nat}[NeZero N]
omit [NeZero P] [NeZero N] in
theorem NB{k:R}(hl:k.size<=1000){ps:H R}(h:ps.length<=8)(hs:∀p∈ps,p.size<=1000):(bL k.data.toList (ps.map λs=>s.data.toList)).length<=1048576:=by
 refine YA (tP (by rw[YM];exact hl) λp b=>?_) ?_
 .obtain⟨q,c,rfl⟩:=YT.1 b;rw[YM];exact hs q c
 rw[YO];have:=lp (show ps.length+1<=9 by omega) (Ys (1000+4));omega
omit [NeZero P] [NeZero N] in
theorem Cv(O:Ord N)(b c:R)(hl:b.size<=1000)(hs:c.size=32)(hR:yz w k [.string c]):eZ 24 #[.string b,sZ k 1 1] w (nv (chL N b.data.toList [c.data.toList])):=by
 have sz:∀p∈[c],p.size<=1000:=λp f=>by
  obtain rfl:=ZX.1 f;omega
 refine BE O b (F (aZ k)) 1 [c] w (by omega) (show 1<=1048576 by decide) (YZ ⟨k,0,Z,λj d=>?_⟩) (λj d=>?_) (NB hl (show 1<=8 by decide) sz)
 .obtain rfl:j=0:=by have:j<1:=d;omega
  exact hR.2.1 0 _ Z
 obtain rfl:j=0:=by have:j<1:=d;omega
 show c.size<=_;omega
omit [NeZero P] [NeZero N] in
theorem Ms(O:Ord N)(b d:R)(hl:b.size<=1000)(hs:d.size=32)(i:I)(hR:yz w k [.string d,.string ⟨dL i⟩]):eZ 24 #[.string b,sZ k 2 2] w (nv (chL N b.data.toList [d.data.toList,(dL i).toList])):=by
 have sz:∀p∈[d,(⟨dL i⟩:R)],p.size<=1000:=λp f=>by
  rcases Zb.1 f with rfl|f
  .omega
  obtain rfl:=ZX.1 f;exact show 4<=1000 by decide
 refine BE O b (F (aZ k)) 2 [d,⟨dL i⟩] w (by omega) (show 2<=1048576 by decide) (YZ ⟨k,0,Z,λj c=>?_⟩) (λj c=>?_) (NB hl (show 2<=8 by decide) sz)
 .have c:j<2:=c;match j,c with
  | 0,_=>exact hR.2.1 0 _ Z
  | 1,_=>exact hR.2.1 1 _ Z
 have c:j<2:=c;match j,c with
 | 0,_=>exact YA (sz d H.mem_cons_self) dC
 | 1,_=>exact show 4<=1048576 by decide
def Rl{a:B N}{l m:I->B N}{X:Bs}(C:Fl3 P)(O:Ord N)(k:∀r:EC.Pt P,On r->mul N r=G)(c:n<=64)(g:X=wP ((aI C.toFld k).ad ((aI C.toFld k).ac a (gPG C.toFld)) ((aI C.toFld k).ad ((aI C.toFld k).dt l (gPt C.toFld ⟨#[108,101,102,116]⟩) n) ((aI C.toFld k).dt m (gPt C.toFld rgL) n)))):
 ∃t0 t1 t2 d f:T3 P,yy 28 #[nv a.val] (tv t0)/\(∀W va b,NtQ (λ_=>True) W va n (λj=>(l j).val)->PtQ (λ_=>True) W b n (bsP P ⟨#[108,101,102,116]⟩)->eZ 29 #[va,b] W (tv t1))/\(∀W va b,NtQ (λ_=>True) W va n (λj=>(m j).val)->PtQ (λ_=>True) W b n (bsP P rgL)->eZ 29 #[va,b] W (tv t2))/\yy 27 #[tv t1,tv t2] (tv d)/\yy 27 #[tv t0,tv d] (tv f)/\yy 30 #[tv f] (.string ⟨X⟩):=by
 have f3:=Af C k (Bv C k O.le (a:=l) (b:=(bsP P ⟨#[108,101,102,116]⟩)) (X:=(gPt C.toFld ⟨#[108,101,102,116]⟩)) n λj _=>AO C _ j) (Bv C k O.le (a:=m) (b:=(bsP P rgL)) (X:=(gPt C.toFld rgL)) n λj _=>AO C _ j);have f:=Af C k (rB C k O.le a (X:=gPG C.toFld) (CU C.toFld)).2 f3.2;refine⟨_,_,_,_,_,PH C a.val (Yr a.isLt O.le),λW va b h1 d=>Cs C k O.le n c l _ (gPt C.toFld ⟨#[108,101,102,116]⟩) (λj _=>AO C _ j) va b W h1 d,λW va b h1 d=>Cs C k O.le n c m _ (gPt C.toFld rgL) (λj _=>AO C _ j) va b W h1 d,f3.1,f.1,?_⟩;rw[g];exact mI C f.2
end
section
section
variable {P:Zw}{ops:Array Y9}{rest:List Y9}{op:Y9}{a a':Act}{w:Yp}{Q:Exit->Act->Yp->Prop}{d:Option Tmp}
def PW.gs(h:wpList P ops Q rest a' w)(b:gE op (yielded ops a.tmps)=false:=by kernel_rfl)(hd:op.dst=d:=by rfl)(k:a.put d ae=a':=by(simp only[Zo,Yw,Yy,Yz])<;>rfl):wpList P ops Q (op :: rest) a w:=by
 subst k hd;rw[wpList,b];exact h
end
def Fp(k:Wd n t):wdB (n:Y)=J:=by
 let⟨h1,c,b⟩:=k
 match t,c,b with
 | 3,_,_|4,_,_|5,_,_|6,_,_=>rw[h1];rfl
end
section
open SPA
def Uq(z:Y)(h:∀i,i<=6->z≠((2^i:I):Y))(w:Yp):eZ 57 #[iZ z] w (.tuple #[iZ 0,fZ]):=by
 have f:(z == 1)=D:=beq_eq_false_iff_ne.2 (h 0 dC);have c:(z == 2)=D:=beq_eq_false_iff_ne.2 (h 1 dC);have b:(z == 4)=D:=beq_eq_false_iff_ne.2 (h 2 dC);have e3:(z == 8)=D:=beq_eq_false_iff_ne.2 (h 3 dC);have d:(z == 16)=D:=beq_eq_false_iff_ne.2 (h 4 dC);have j:(z == 32)=D:=beq_eq_false_iff_ne.2 (h 5 dC);have k:(z == 64)=D:=beq_eq_false_iff_ne.2 (h 6 dC);clear h;go_enter func57,ntmps57;go_wp2;go_loopg [5] 7 (λm s5 W=>W=w/\m<=7/\s5=iZ ((7-m:I):Y))
 exact⟨Z,dC,Z⟩;obtain⟨rfl,g,rfl⟩:=hrel;rcases(show gk=7\/gk=6\/gk=5\/gk=4\/gk=3\/gk=2\/gk=1\/gk=0 by omega)with rfl|rfl|rfl|rfl|rfl|rfl|rfl|rfl
 all_goals
  go_wp2;first
   | (go_ret2;exact⟨_,Z,YH _ _,Z⟩)
   | (go_roundg 6;(case measure=>omega);(case rel=>exact⟨Z,dC,Z⟩))
   | (go_roundg 5;(case measure=>omega);(case rel=>exact⟨Z,dC,Z⟩))
   | (go_roundg 4;(case measure=>omega);(case rel=>exact⟨Z,dC,Z⟩))
   | (go_roundg 3;(case measure=>omega);(case rel=>exact⟨Z,dC,Z⟩))
   | (go_roundg 2;(case measure=>omega);(case rel=>exact⟨Z,dC,Z⟩))
   | (go_roundg 1;(case measure=>omega);(case rel=>exact⟨Z,dC,Z⟩))
   | (go_roundg 0;(case measure=>omega);(case rel=>exact⟨Z,dC,Z⟩))
def RN(z a:Y)(b:zk)(h:∀W,eZ 57 #[iZ z] W (.tuple #[iZ a,.bool b]))(d:(b && decide (8<=z))=wdB z)(w:Yp):eZ 15 #[iZ z] w (.bool (wdB z)):=by
 go_enter func15,ntmps15;refine PW.rg [fZ] ?_;refine PW.bg [] ?_;refine PM.gi (mk1 (Mp.start w)) ((mk1 h).out w) λf k=>?_
 refine PW.en [iZ a,.bool b,iZ a,.bool b] ?_;rw[<-d];cases b
 .go_wp2;go_ret;exact⟨_,Z,k.bl,Z⟩
 by_cases c:8<=z
 .rw[decide_eq_true c];go_wp2;go_ret;exact⟨_,Z,k.bl,Z⟩
 rw[decide_eq_false c];go_wp2;go_ret;exact⟨_,Z,k.bl,Z⟩
def Qh{z:Y}:eZ 15 #[iZ z] w (.bool (wdB z)):=by
 by_cases h:∃i,i<=6/\z=((2^i:I):Y)
 .obtain⟨i,b,rfl⟩:=h;refine RN _ (i:Y) J (λW=>?_) ?_ w
  .rw[<-Nr b];exact Nv (2^i) (MI b) W
  rcases(show i=0\/i=1\/i=2\/i=3\/i=4\/i=5\/i=6 by omega)with rfl|rfl|rfl|rfl|rfl|rfl|rfl
  all_goals rfl
 have k:∀i,i<=6->z≠((2^i:I):Y):=λi b e=>h ⟨i,b,e⟩
 refine RN _ 0 D (Uq z k) ?_ w;rw[wdB,zk.false_and];symm;simp only[zk.or_eq_false_iff,beq_eq_false_iff_ne];exact⟨⟨⟨k 3 dC,k 4 dC⟩,k 5 dC⟩,k 6 dC⟩
def Vb{z:Y}(h:wdB z=J):∃n t,z=((n:I):Y)/\Wd n t:=by
 unfold wdB at h;simp only[zk.or_eq_true,beq_iff_eq]at h;rcases h with((rfl|rfl)|rfl)|rfl
 .exact⟨8,3,Z,Z,dC,dC⟩
 .exact⟨16,4,Z,Z,dC,dC⟩
 .exact⟨32,5,Z,Z,dC,dC⟩
 exact⟨64,6,Z,Z,dC,dC⟩
def NoP(N:I)(v:I)(bl:Bs)(z:Y)(n:I)(c:Y):Prop:=(c=2/\wdB z=D)\/(c=2/\wdB z=J/\((n:Y) != 32)=J)\/∃m t,z=((m:I):Y)/\Wd m t/\n=32/\((c=3/\(rq N bl).isSome=D)\/(c=7/\(rq N bl).isSome=J/\2^m<=v))
def VP(O:Ord N)(v:I)(hv:v<2^64)(bl:Bs)(z:Y)(v1:Yq)(T:zb Addr)(n sc:I)(w:Yp)(hk:Arg w v1 bl)(hf:NoP N v bl z n c):eZ 5 #[U v,v1,iZ z,.slice T n sc] w (.tuple #[.agg z11.toArray,iZ c]):=by
 have f:=mk1 (λW=>Qh (z:=z) (w:=W));have j:=mk1 (λ(W:Yp) (i:kZ w W)=>Io O (v:=v1) (bs:=bl) (w:=W) (hk.below i));go_enter func5,ntmps5;refine PW.bg [] ?_;refine PM.al 28 z11 (mk1 (Mp.start w)) λk8 y a=>?_
 refine PW.en [iZ 0] ?_;refine Yt<|PW.bg [] ?_
 rcases hf with⟨rfl,C⟩|⟨rfl,C,V⟩|⟨m,t,rfl,r,rfl,hf⟩
 .rw[C]at f;refine PM.gi a (f y) λo b=>?_
  refine PW.go [tZ] ?_;refine PW.gs ?_;refine PW.gs ?_;refine PW.gs ?_;refine PW.en [tZ] ?_;refine Y5 rfl<|PW.bg [.agg z11.toArray] ?_
  refine PM.st 0 z11 b aq λK k=>?_
  refine PW.en [iZ 2] ?_;apply Zr;have d:=(k.at_ 0).2.1;refine YB (dS 8 9 (T:=28) Z d Z Z uAr iAr) Z ?_;exact⟨_,Z,k.bl,Z⟩
 .rw[C]at f;refine PM.gi a (f y) λo b=>?_
  refine PW.go [fZ] ?_;refine PW.gd ?_;refine PW.go [] ?_;refine PW.gd ?_;refine PW.go [iZ n] ?_;refine PW.gd ?_;refine PW.go [.bool ((n:Y) != 32)] ?_;rw[V];refine PW.en [tZ] ?_;refine Y5 rfl<|PW.bg [.agg z11.toArray] ?_
  refine PM.st 0 z11 b aq λK k=>?_
  refine PW.en [iZ 2] ?_;apply Zr;have d:=(k.at_ 0).2.1;refine YB (dS 8 9 (T:=28) Z d Z Z uAr iAr) Z ?_;exact⟨_,Z,k.bl,Z⟩
 rw[Fp r]at f;obtain⟨p,A⟩:=hE ((rq N bl).getD 0);rw[A.out]at j;refine PM.gi a (f y) λo b=>?_
 refine PW.go [fZ] ?_;refine PW.gd ?_;refine PW.go [] ?_;refine PW.gd ?_;refine PW.go [iZ 32] ?_;refine PW.gd ?_;refine PW.en [fZ,fZ] ?_;refine YY rfl<|ZK<|PW.bg [] ?_
 rcases hf with⟨rfl,i⟩|⟨rfl,i,x⟩
 .rw[i]at j;refine PM.gi b (j o b.bl) λK k=>?_
  refine PW.go [nv p,fZ] ?_;refine PM.al 49 (RG.z 4) k λX Q u=>?_
  refine PM.st 1 (wn p) u nq λL s=>?_
  refine PW.en [fZ] ?_;refine Yt<|PW.rg [tZ] ?_
  refine Y5 rfl<|PW.bg [.agg z11.toArray] ?_
  refine PM.st 0 z11 s aq λw6 l=>?_
  refine PW.en [iZ 3] ?_;apply Zr;have d:=(l.at_ 0).2.1;refine YB (dS 8 9 (T:=28) Z d Z Z uAr iAr) Z ?_;exact⟨_,Z,l.bl,Z⟩
 rw[i]at j;have M:=mk1 (λ(W:Yp)=>I0 r W);have g:decide (((2^m-1:I):Y)<(v:Y))=J:=by
  have:=oE (n:=m) (show 0<2 by decide);rw[decide_eq_true];omega
 obtain⟨gn,q⟩:=hE (2^m-1:I);rw[q.out]at M g;clear x r;refine PM.gi b (j o b.bl) λK k=>?_
 refine PW.go [nv p,tZ] ?_;refine PM.al 49 (RG.z 4) k λX Q u=>?_
 refine PM.st 1 (wn p) u nq λL s=>?_
 refine PW.en [tZ] ?_;refine Yt<|PW.rg [fZ] ?_
 refine YY rfl<|ZK<|Yt<|PW.bg [] ?_
 refine PM.gi s (M L) λw6 l=>?_
 refine PW.go [.bool (decide ((gn:Y)<(v:Y)))] ?_;rw[g];refine PW.dn ?_;refine Y5 rfl<|PW.bg [.agg z11.toArray] ?_
 refine PM.st 0 z11 l aq λw7 P=>?_
 refine PW.en [iZ 7] ?_;apply Zr;have d:=(P.at_ 0).2.1;refine YB (dS 8 9 (T:=28) Z d Z Z uAr iAr) Z ?_;exact⟨_,Z,P.bl,Z⟩
end
section
open SPA
def Tf(O:Ord N)(v:I)(hv:v<2^64)(bl i:R)(z:Y)(w:Yp)(hf:NoP N v bl.data z i.size c):eZ 6 #[U v,.string bl,iZ z,.string i] w (.tuple #[.agg z11.toArray,iZ c]):=by
 have g:=Is z;have l:=Iy O bl;let⟨n,p⟩:=hE i.size
 rw[p.out]at hf;go_enter func6,ntmps6;refine PW.bg [] ?_;refine PM.al 28 z11 (mk1 (Mp.start w)) λk8 w1 X=>?_
 refine PW.en [iZ 0] ?_;refine PW.bg [] ?_;refine PM.al 28 z11 X λka x u=>?_
 refine PW.dn ?_;refine PW.bg [] ?_;rcases hf with⟨rfl,L⟩|⟨rfl,L,p⟩|⟨m,t,rfl,y,rfl,hf⟩
 .rw[L]at g;refine PM.gi u (g x) λr b=>?_
  refine PW.en [fZ] ?_;refine Yt<|PW.bg [tZ] ?_
  refine PW.gs ?_;refine PW.gs ?_;refine PW.gs ?_;refine PW.en [tZ] ?_;refine Y5 rfl<|PW.bg [] ?_
  refine PM.ro 1 b aq ?_;refine PM.st 0 z11 b aq λs k=>?_
  refine PW.en [iZ 2] ?_;apply Zr;have d:=(k.at_ 0).2.1;refine YB (dS 8 9 Z d Z Z uAr iAr) Z ?_;exact⟨_,Z,k.bl,Z⟩
 .rw[L]at g;refine PM.gi u (g x) λr b=>?_
  refine PW.en [tZ] ?_;refine Yt<|PW.bg [fZ] ?_
  refine PW.gd ?_;refine PW.go [] ?_;refine PW.gd ?_;refine PW.go [iZ (i.size:Y)] ?_;rw[‹E (i.size=n)›.out];refine PW.gd ?_;refine PW.go [.bool ((n:Y) != 32)] ?_;rw[p];refine PW.en [tZ] ?_;refine Y5 rfl<|PW.bg [] ?_
  refine PM.ro 1 b aq ?_;refine PM.st 0 z11 b aq λs k=>?_
  refine PW.en [iZ 2] ?_;apply Zr;have d:=(k.at_ 0).2.1;refine YB (dS 8 9 Z d Z Z uAr iAr) Z ?_;exact⟨_,Z,k.bl,Z⟩
 rw[Fp y]at g;let⟨q,K⟩:=hE (nuV bl.data)
 rw[K.out]at l;refine PM.gi u (g x) λr b=>?_
 refine PW.en [tZ] ?_;refine Yt<|PW.bg [fZ] ?_
 refine PW.gd ?_;refine PW.go [] ?_;refine PW.gd ?_;refine PW.go [iZ (i.size:Y)] ?_;rw[p.out];refine PW.gd ?_;refine PW.go [fZ] ?_;refine PW.en [fZ] ?_;refine YY rfl<|ZK<|PW.bg [] ?_
 rcases hf with⟨rfl,A⟩|⟨rfl,A,f⟩
 .rw[A]at l;refine PM.gi b (l r) λs k=>?_
  refine PW.go [nv q,fZ] ?_;refine PM.al 54 (RG.z 4) k λkc T a=>?_
  refine PM.st 2 (wn q) a nq λV j=>?_
  refine PW.en [fZ] ?_;refine Yt<|PW.rg [tZ] ?_
  refine Y5 rfl<|PW.bg [] ?_
  refine PM.ro 1 j aq ?_;refine PM.st 0 z11 j aq λW o=>?_
  refine PW.en [iZ 3] ?_;apply Zr;have d:=(o.at_ 0).2.1;refine YB (dS 8 9 Z d Z Z uAr iAr) Z ?_;exact⟨_,Z,o.bl,Z⟩
 rw[A]at l;have Q:m<64:=by
  let⟨h1,M,C⟩:=y
  refine I.lt_of_le_of_ne (by rw[h1];exact ZU dC C) λe=>?_
  rw[e]at f;omega
 have M:=Cp hv Q;have P:(((v/2^m:I):Y) != 0)=J:=by
  have:=I.div_pos f (oE dC);rw[bne_iff_ne];omega
 let⟨vq,C⟩:=hE (v/2^m)
 rw[C.out]at P M;clear f y;refine PM.gi b (l r) λs k=>?_
 refine PW.go [nv q,tZ] ?_;refine PM.al 54 (RG.z 4) k λkc T a=>?_
 refine PM.st 2 (wn q) a nq λV j=>?_
 refine PW.en [tZ] ?_;refine Yt<|PW.rg [fZ] ?_
 refine YY rfl<|ZK<|Yt<|PW.bg [.bool (decide ((m:Y)<64))] ?_
 rw[decide_eq_true (by omega)];refine PW.gd ?_;refine PW.go [] ?_;refine PW.gd ?_;refine PW.go [] ?_;refine PW.gd ?_;refine PW.ns (M _) ?_;refine PW.gd ?_;refine PW.go [.bool ((vq:Y) != 0)] ?_;rw[P];refine PW.en [tZ] ?_;refine Y5 rfl<|PW.bg [] ?_
 refine PM.ro 1 j aq ?_;refine PM.st 0 z11 j aq λW o=>?_
 refine PW.en [iZ 7] ?_;apply Zr;have d:=(o.at_ 0).2.1;refine YB (dS 8 9 Z d Z Z uAr iAr) Z ?_;exact⟨_,Z,o.bl,Z⟩
end
section
open SPA
def pEb(b m:I)(X:Bs):S1:=⟨λv W=>ElQ (b<=·) m W v X,λ_ _ _ k h=>h.keep (Kq.of_below k)⟩
def nbt:H Yq->zk
 | .int .u8 _ :: _=>D
 | []=>D
 | _=>J
def lK{S:H Pq}{X:Bs}(K:Mp w W rs S)(h:ElQ Q m W v X)(p:0<m)(l:rs.all (λx=>nbt x.2)=J):ElQ (Nk rs) m W v X:=by
 let⟨g,c,h1,o,n,q,j,i⟩:=h
 refine⟨g,c,h1,o,n,λe=>?_,j,i⟩;obtain⟨⟨k,cs⟩,hx,rfl⟩:=YT.1 e;have d:=H.all_eq_true.1 l _ hx;have r:=(K.rw _ hx).2;have b:=(i 0 (by omega)).1;match cs,d,r with
 | v0 :: vs,d,r =>
  have f:=r.2.1 0 v0 Z;rw[show(0+0:I)=0 from Z]at b f;rw[f]at b;obtain rfl:=YR.inj b;cases d
def pO4(b:I)(A S C D:Bs):S1:=⟨λv W=>∃k c j c1 g c2 d i,v=.agg #[sZ k 33 c,sZ j 33 c1,sZ g 33 c2,sZ d 33 i,sN,sN,sN,sN,sN,sN,sN]/\ElQ (b<=·) 33 W (sZ k 33 c) A/\ElQ (b<=·) 33 W (sZ j 33 c1) S/\ElQ (b<=·) 33 W (sZ g 33 c2) C/\ElQ (b<=·) 33 W (sZ d 33 i) D,λ_ _ _ f ⟨k,c,j,c1,g,c2,d,i,e,l,h1,n,m⟩=>⟨k,c,j,c1,g,c2,d,i,e,l.keep (Kq.of_below f),h1.keep (Kq.of_below f),n.keep (Kq.of_below f),m.keep (Kq.of_below f)⟩⟩
namespace RG
variable {P:Zw}{ops:Array Y9}{Q:Exit->Act->Yp->Prop}{a0:Act}{k b:Nat}{o:Y9}{hs:List Hq}{B:Yp->Prop}{hB:∀w w',Below w.heap.size w w'->B w->B w'}
def gcv{X:Bs}{l:∀w w',kZ w w'->B w->B w'}(d:X.size=m)(n:∀W,B W->b<=W.heap.size)(i:hs[k]? = F (.p (pEb b m X)):=by rfl)(h:∀U,(cI ((el ops a0 hs U k o).map (·.1)) o,Za (evo (evl (el ops a0 hs U k o))) o)=(J,convert 9 23 (.string ⟨X⟩) >>= λv=>pure (fI v)):=by intro _;kernel_rfl):bM prog Q (gQ hs b B l).flow ops a0 k o:=bE λa W f=>by
 have e:=h (dU ops a);simp only[ZV.injEq]at e;let⟨c,W',h1,q,p,j,g⟩:=xI ⟨X⟩ W
 refine⟨_,_,W',Ao f,by rw[e.1,e.2,YU,h1];rfl,p,?_⟩;show(nth (hs.map (Hq.s b)) k).p _ W';rw[qD b hs k _ i];exact⟨W.heap.size,c,by rw[<-d];rfl,by rw[<-d];exact q,d,n W f.b,g,j⟩
end RG
section
variable {P:Zw}{ops:Array Y9}{rest:List Y9}{op:Y9}{a a':Act}{w W:Yp}{Q:Exit->Act->Yp->Prop}{t:Tmp}{rs rs':List (Nat × List Yq)}{S:List Pq}{k:Nat}{cs:List Yq}{v:Yq}
def PM.s1{c:I}(i o:I)(K:Hid (Mp w W rs S))(h:∀W',Hid (Mp w W' rs' S)->wpList P ops Q rest a' W')(f:rs[i]? = F (k,cs):=by rfl)(hl:o+1<=cs.length:=by exact Zh rfl)(hd:op.dst=G:=by rfl)(b:op.guard=G:=by rfl)(ho:op.op=.store T (.tmp t) y:=by rfl)(hx:a.eval (.tmp t)=oZ k o:=by rfl)(j:a.eval y=sZ g n c:=by rfl)(hT:(P.info? T).map (·.size)=F 1:=by kernel_rfl)(e:rs.set i (k,rep cs o [sZ g n c])=rs':=by(simp only[Yy,Yz,rep,ts,qt,uw,ux,ZI,ZQ,Y2,Z2,Zs])<;>rfl)(l:a.put G ae=a':=by(simp only[Zo])<;>rfl):wpList P ops Q (op :: rest) a W:=by
 let⟨W',d⟩:=hE (W.setCells k o [sZ g n c])
 have r:=K.at_ i f;refine O7 t d (r.th2 hl) hT Z Z ?_ b ho hx j;rw[hd,l];exact h W' (K.upd i d (r.upd hl) f e)
end
def Mp.mute{b:H (I × H Yq)}{S:H Pq}{c:H Yq}(h:Mp w W rs S)(i:I)(d:OnB k W W')(f:rs[i]? = F (k,c):=by rfl)(e:rs.set i (k,[])=b:=by(simp only[Yy,Yz])<;>rfl):Mp w W' b S:=by
 subst e;exact h.turn f (h.bl.trans (d.new h.bl.size (h.lt (Mp.key f)).1)) d.size (λg l hl=>d.block g hl l) ⟨Yr (h.at_ i f).1 d.size,λj v h=>(by cases h),λj m=>absurd m (p9 _)⟩
def Mp.two{S:H Pq}{x y:I × H Yq}(h:Mp w W rs S)(hx:x∈rs)(b:y∈rs)(d:x.1≠y.1):Mp w W [x,y] S:=⟨h.bl,λz c=>by
 simp only[Zb,YI,or_false]at c;rcases c with rfl|rfl
 .exact h.rw _ hx
 .exact h.rw _ b,by simp[d],λs hs=>s.mo _ _ _ (λg _ k e=>by
 simp only[pg,xo,Zb,YI,or_false]at e;rcases e with rfl|rfl
 .exact k (YT.2 ⟨_,hx,Z⟩)
 exact k (YT.2 ⟨_,b,Z⟩)) (h.ob s hs)⟩
def pTl(v:Yq)(c t:I)(B:I->Bs):Pq:=⟨λQ W=>TlL Q c t W v B/\∀g,v.ownBlock=F g->Q g,λ_ _ _ k h=>⟨h.1.keep k λg b=>k.block g (h.2 g b) (h.1.lt b).2,h.2⟩,λ_ _ _ m h=>⟨h.1.mono2 m,λg b=>m g (h.1.lt b).2 (h.2 g b)⟩⟩
def Re{S:H Pq}{B:I->Bs}(K:Mp w W rs S)(h:TlL (λ_=>True) k t W v B)(d:rs.all (λx=>nbt x.2)=J)(f:∀x∈rs,x.1<k):(pTl v k t B).p (Nk rs) W:=by
 refine⟨?_,λg b e=>?_⟩
 .let⟨xs,h1,m⟩:=h.ex
  refine⟨xs,h1,λj i=>?_⟩;let⟨x,l,c⟩:=m j i
  exact⟨x,l,lK K c (by decide) d⟩
 obtain⟨x,hx,rfl⟩:=YT.1 e;have:=f x hx;have:=(h.lt b).1;omega
def EqB(W:Yp)(us:H Yq)(k:H Bs):Prop:=us.length=k.length/\∀(j:I) u b,us[j]? = F u->k[j]? = F b->ElQ (0<=·) b.size W u b
def ElQ.z{b:Bs}(h:ElQ Q m W u b):ElQ (0<=·) b.size W u b:=by
 let⟨k,c,h1,f,d,i,e,g⟩:=h
 exact⟨k,c,by rw[d];exact h1,by rw[d];exact f,Z,aw _,e,g⟩
def EqB.app{A B:H Bs}(h:EqB W us A)(d:EqB W vs B):EqB W (us++vs) (A++B):=by
 refine⟨by rw[Yx,Yx,h.1,d.1],λj u b k c=>?_⟩;by_cases e:j<us.length
 .rw[Zc e]at k;rw[Zc (by rw[<-h.1];exact e)]at c;exact h.2 j u b k c
 rw[Zx S]at k;rw[Zx (by rw[<-h.1];omega),<-h.1]at c;exact d.2 _ u b k c
def EqB.one{b:Bs}(h:ElQ Q m W u b):EqB W [u] [b]:=⟨Z,λj d c h1 k=>by
 match j with
 | 0 =>
  cases h1
  cases k
  exact h.z
 | j+1=>cases h1⟩
def EqB.list{B:I->Bs}(hl:ys.length=t)(h:∀j,j<t->∃x,ys[j]? = F x/\ElQ Q 33 W x (B j)):EqB W ys ((ZD t).map B):=⟨by simp[hl],λj u b h1 c=>by
 have d:j<t:=by rw[<-hl];exact(YF.1 h1).1
 let⟨x,k,e⟩:=h j d
 rw[h1]at k;obtain rfl:=YR.inj k;rw[ZE,uy d]at c;obtain rfl:=YR.inj c;exact e.z⟩
def Tp{L:I}(P:0<t){p:Rp}{Lb Rb:I->Bs}{n m:Bs}{l y c1 w c2 s x u v f o r:I}{a N K M:Yq}(e0:ElQ Q 33 W (sZ g 33 l) p.a)(e1:ElQ Q 33 W (sZ y 33 c1) p.s)(X:ElQ Q 33 W (sZ w 33 c2) p.c)(e3:ElQ Q 33 W (sZ s 33 x) p.d)(e4:ElQ Q 32 W (sZ u 32 i) (bx p.u))(e5:ElQ Q 32 W (sZ v 32 f) (bx p.m))(V:ElQ Q 32 W (sZ o 32 r) (bx p.t))
 (hL:TlL (λ_=>True) L t W a Lb) (hR:TlL (λ_=>True) L t W N Rb) (C:ElQ (λ_=>True) 32 W K n) (O:ElQ (λ_=>True) 32 W M m) :
 RdB 0 t (rgB t p Lb Rb n m) (.agg #[sZ g 33 l,sZ y 33 c1,sZ w 33 c2,sZ s 33 x,sZ u 32 i,sZ v 32 f,sZ o 32 r,a,N,K,M]) W:=by
 obtain⟨bl,cl,k,rfl,v1,d1⟩:=hL.vl P;obtain⟨z,cr,b,rfl,v2,d2⟩:=hR.vl P;obtain⟨A,cA,rfl,-⟩:=id C;obtain⟨T,cB,rfl,-⟩:=id O;have H:=(((EqB.one e0).app ((EqB.one e1).app ((EqB.one X).app ((EqB.one e3).app ((EqB.one e4).app ((EqB.one e5).app (EqB.one V))))))).app (EqB.list v1.len d1)).app (EqB.list v2.len d2) |>.app ((EqB.one C).app (EqB.one O))
 refine⟨⟨⟨⟨F (aZ g),33,l⟩,⟨F (aZ y),33,c1⟩,⟨F (aZ w),33,c2⟩,⟨F (aZ s),33,x⟩,⟨F (aZ u),32,i⟩,⟨F (aZ v),32,f⟩,⟨F (aZ o),32,r⟩,⟨F (aZ bl),t,cl⟩,⟨F (aZ z),t,cr⟩,⟨F (aZ A),32,cA⟩,⟨F (aZ T),32,cB⟩⟩,k,b,Z,v1,v2,Z,Z,⟨bl,z,Z,Z,λ_=>⟨aw _,aw _⟩⟩,λj hj=>?_⟩⟩;have hl:∀q:Rg,(zG q k b).length=t+t+9:=λq=>by
  unfold zG;simp only[Yx,Y2,Z2,v1.len,v2.len];omega
 have d:j<(zG ⟨⟨F (aZ g),33,l⟩,⟨F (aZ y),33,c1⟩,⟨F (aZ w),33,c2⟩,⟨F (aZ s),33,x⟩,⟨F (aZ u),32,i⟩,⟨F (aZ v),32,f⟩,⟨F (aZ o),32,r⟩,⟨F (aZ bl),t,cl⟩,⟨F (aZ z),t,cr⟩,⟨F (aZ A),32,cA⟩,⟨F (aZ T),32,cB⟩⟩ k b).length:=by rw[hl];exact hj
 have c:j<(rgB t p Lb Rb n m).length:=by
  have:=H.1;have e:(rgB t p Lb Rb n m).length=t+t+9:=by
   unfold rgB;simp only[Yx,Y2,Z2,YO,xk];omega
  omega
 exact⟨_,_,YC d,YC c,H.2 j _ _ (YC d) (YC c)⟩
end
section
open SPA
def ElQ.cv9{b:Bs}(h:ElQ Q m W x b):(convert 23 9 x).run prog W=.ok (.string ⟨b⟩) W:=by
 obtain⟨k,c,rfl,g,d,-,f,e⟩:=h;exact conv_str prog 23 9 5 slice22 int5 str9 W k 0 m c b e d
variable {P:Nat}[NeZero P]{N:Nat}[NeZero N]
def Rn{a b:B N}{X:Bs}(C:Fl3 P)(O:Ord N)(k:∀r:EC.Pt P,On r->mul N r=G)(d:X=wP ((aI C.toFld k).cm (hPV C.toFld) (gPG C.toFld) a b)):∃t:T3 P,yy 32 #[nv a.val,nv b.val] (tv t)/\yy 30 #[tv t] (.string ⟨X⟩)/\X.size=33:=by
 let⟨t,h1,e⟩:=BD C a.val b.val (Yr a.isLt O.le) (Yr b.isLt O.le)
 have c:=mI C h1;rw[Aw C.toFld k a b,<-d]at c;exact⟨t,e,c,by rw[d];exact aY _⟩
def Mf(b k:R)(c:b.size<=16384)(d:k.size<=16384){L L':Bs}(hl:L.size=32)(h:iF L b.data.toList k.data.toList=L'):∀y w,RLog w y L->cZ 37 #[jZ y,.string b,.string k] w (Ret λe w'=>SP.Only y 0 1 w w'/\RLog w' y L'/\e=.tuple #[]):=λy w f=>h ▸ rJ c d hl f
def Ro(O:Ord N)(k:IsP N){x:B N}{L L':Bs}(hx:x=rW N L)(hl:L.size=32)(h:aN L=L'):∀y w,RLog w y L->cZ 38 #[jZ y] w (Ret λe w'=>SP.Only y 0 1 w w'/\RLog w' y L'/\e=nv x.val):=λy w b=>by
 have:=xJ O y L w hl b;rw[show jG (cha N L)=x.val from rF O k hx,h]at this;exact this
def Rk{x:B N}{a s b:I->B N}{va k:Yq}(O:Ord N)(h1:1<N)(g:0<n)(c:n<=64)(l:∀j,b j=a j+s j*x)(f:NtQ (λ_=>True) W va n λj=>(a j).val)(i:NtQ (λ_=>True) W k n λj=>(s j).val):dZ 39 #[nv 1,va,nv x.val,k] W λe w'=>(pqR e n λj=>(b j).val).p (W.heap.size<=·) w':=by
 have h:=CM O 1 x n g c a s va k W f i;rw[show(1:B N).val=1 from YL h1]at h;refine h.mono ?_;rintro e w' ⟨v,rfl,d,h⟩;refine⟨_,Z,d,?_⟩;have m:∀j,b j=1*a j+x*s j:=λj=>by rw[l j];grind
 exact RwQ.congr h λj _=>by
  show wn (1*a j+x*s j).val=wn (b j).val;rw[m j]
def Te(O:Ord N)(R:Rv N):∃b f k d c:I,yy 33 #[rv1,nv R.t1.val,nv R.x.val] (nv b)/\yy 33 #[rv1,nv R.x.val,nv R.x.val] (nv f)/\yy 33 #[rv1,nv R.t2.val,nv f] (nv k)/\yy 35 #[rv1,nv b,nv k] (nv d)/\yy 33 #[rv1,nv (R.z*R.z).val,nv R.k.val] (nv c)/\yy 35 #[rv1,nv d,nv c] (nv R.tau.val):=by
 have e:R.tau=R.t1*R.x+R.t2*(R.x*R.x)+R.z*R.z*R.k:=by
  show R.t1*R.x+R.t2*R.x*R.x+R.z*R.z*R.k=_;grind
 rw[e];exact⟨_,_,_,_,_,lR O,lR O,lR O,v9 O,lR O,v9 O⟩
omit [NeZero N] in
theorem Vz(O:Ord N)(R:Rv N):∃k:I,yy 33 #[rv1,nv R.rho.val,nv R.x.val] (nv k)/\yy 35 #[rv1,nv R.al.val,nv k] (nv R.mu.val):=⟨_,lR O,v9 O⟩
def VA(C:Fl3 P)(O:Ord N)(k:∀r:EC.Pt P,On r->mul N r=G)(t:I)(T:t<=6)(R:Rv N)(M:R.n=2^t)(q:Md.Ps Bs (B N) (OnP P)){L:Bs}(b:q.s=L)(hl:L.size=32)(f:q.a=R.a)(o:q.b=R.b)(n:q.g=gPt C.toFld ⟨#[108,101,102,116]⟩)(l:q.h=R.hh (aI C.toFld k) (gPt C.toFld ⟨#[114,105,103,104,116]⟩))(u:OnP P)(Q:u=(aI C.toFld k).ac R.w (uPt C.toFld))(Lb Rb:I->Bs)(i:∀j,Lb j=wP ((aI C.toFld k).pLi (chF N) ivF u t q j))(g:∀j,Rb j=wP ((aI C.toFld k).pTi (chF N) ivF u t q j))(A z:Bs)(v:A=bx (((aI C.toFld k).pst (chF N) ivF u t q t).a 0).val)(m:z=bx (((aI C.toFld k).pst (chF N) ivF u t q t).b 0).val):
 ∃ti tw:T3 P,yy 44 #[] (tv ti)/\yy 43 #[nv R.w.val,tv ti] (tv tw)/\∀y w v1 v2 d c,RLog w y L->NtQ (·≠y) w v1 R.n (λj=>(R.a j).val)->NtQ (·≠y) w v2 R.n (λj=>(R.b j).val)->PtQ (·≠y) w d R.n (bsP P ⟨#[108,101,102,116]⟩)->PtQ (·≠y) w c R.n (trR P R.y)->cZ 41 #[jZ y,v1,v2,d,c,tv tw] w (Ret λe w'=>OnB y w w'/\∃p K x a,e=.agg #[p,K,x,a]/\TlL (λ_=>True) w.heap.size t w' p Lb/\TlL (λ_=>True) w.heap.size t w' K Rb/\ElQ (λ_=>True) 32 w' x A/\ElQ (λ_=>True) 32 w' a z):=by
 have fi:FracT (inT P) (uPt C.toFld).1:=⟨tU C.toFld,(uPt C.toFld).2⟩
 have fw:=rB C k O.le R.w fi;refine⟨_,_,Np C,fw.1,λy w v1 v2 d c K h1 p a x=>?_⟩;rw[M]at h1 p a x;rw[<-f]at h1;rw[<-o]at p;rw[<-Q]at fw;have h:=Qq C O k T q fw.2 (λj _=>by rw[n];exact AO C _ j) (λj _=>by rw[l];exact(rB C k O.le (pwF (ivF R.y) j) (AO C rgL j)).2) (by rw[b];exact hl) (by rw[b];exact K) h1 p a x (λs=>match s with|false=>Lb|true=>Rb) (λj=>⟨i j,g j⟩);rw[<-v,<-m]at h;exact h
def VF(O:Ord N)(R:Rv N):yy 40 #[nv R.tau.val] (.string ⟨bx R.tau.val⟩)/\yy 40 #[nv R.mu.val] (.string ⟨bx R.mu.val⟩)/\yy 40 #[nv R.t.val] (.string ⟨bx R.t.val⟩):=⟨nT O R.tau.isLt,nT O R.mu.isLt,nT O R.t.isLt⟩
omit [NeZero P] [NeZero N] in
theorem X5(a b c:Bs)(k:a.size=32)(f:b.size=32)(d:c.size=32):((⟨a⟩++⟨b⟩:R)++⟨c⟩).size<=16384/\((⟨a⟩++⟨b⟩:R)++⟨c⟩).data.toList=a.toList++(b.toList++c.toList):=by
 constructor
 .have e:((⟨a⟩++⟨b⟩:R)++⟨c⟩).size=a.size+b.size+c.size:=by
   rw[yDg,yDg];rfl
  omega
 rw[xu,xu,yk,yk,pk]
omit [NeZero P] in
theorem Vw(R:Rv N){L L':Bs}(hl:L.size=32)(h:enL L R.tau.val R.mu.val R.t.val=L'):∀y w,RLog w y L->cZ 37 #[jZ y,.string ⟨#[115,117,109,115]⟩,.string ((⟨bx R.tau.val⟩++⟨bx R.mu.val⟩:ByteArray)++⟨bx R.t.val⟩)] w (Ret λe w'=>SP.Only y 0 1 w w'/\RLog w' y L'/\e=.tuple #[]):=by
 have h1:=bP R.tau.val;have d:=bP R.mu.val;have k:=bP R.t.val;unfold enL enB at h;generalize bx R.tau.val=a at *;generalize bx R.mu.val=b at *;generalize bx R.t.val=c at *;let⟨f1,f2⟩:=X5 a b c h1 d k
 exact Mf ⟨#[115,117,109,115]⟩ _ dC f1 hl (by rw[f2];exact h)
end
section
open SPA
section
variable {P:Zw}{ops:Array Y9}{rest:List Y9}{op:Y9}{a a':Act}{w:Yp}{Q:Exit->Act->Yp->Prop}{d:Option Tmp}
variable {c y:Code}
def Lr(h:c.wp P (λe g w'=>e=.normal/\w'=w/\∃p1 p2 f d b p6 p7 p8,g=⟨(((((((a.tmps.setIfInBounds 67 p1).setIfInBounds 68 p2).setIfInBounds 69 f).setIfInBounds 70 d).setIfInBounds 71 b).setIfInBounds 72 p6).setIfInBounds 73 p7).setIfInBounds 74 p8,a.defers⟩) a w)(k:∀p1 p2 f d b p6 p7 p8,y.wp P Q ⟨(((((((a.tmps.setIfInBounds 67 p1).setIfInBounds 68 p2).setIfInBounds 69 f).setIfInBounds 70 d).setIfInBounds 71 b).setIfInBounds 72 p6).setIfInBounds 73 p7).setIfInBounds 74 p8,a.defers⟩ w):c.wp P (Exit.then (y.wp P Q) Q) a w:=
 wp_mono h λe g w' ⟨j,l,p1,p2,f,d,b,p6,p7,p8,i⟩=>by
  subst j l i;exact k _ _ _ _ _ _ _ _
end
def LH{B:I}{c:H Yq}(h:k<B)(d:b<B):∀x∈[(k,c),(b,c')],x.1<B:=λx hx=>by
 simp only[Zb,YI,or_false]at hx;rcases hx with rfl|rfl
 .exact h
 exact d
def Ct{a:I}{y:Yq}{s:H Yq}(h:yz W a (x :: r))(c:yz W b (y :: s))(k:x≠y):a≠b:=λe=>by
 subst e;have h1:=h.2.1 0 x Z;rw[c.2.1 0 y Z]at h1;exact k (YR.inj h1).symm
def VU(b:I)(f c:Yq)(L:Bs):S1:=⟨λv w=>∃y,v=.tuple #[jZ y,f,c]/\b<=y/\RLog w y L,λ_ _ _ e ⟨y,h1,d,k⟩=>⟨y,h1,d,k.below e⟩⟩
def XF(b:I)(L:Bs):S1:=⟨λv w=>∃y,v=jZ y/\b<=y/\RLog w y L,λ_ _ _ d ⟨y,h1,c,k⟩=>⟨y,h1,c,k.below d⟩⟩
variable {P:Nat}[NeZero P]{N:Nat}[NeZero N]
def Tg(C:Fl3 P)(O:Ord N)(l:∀r:EC.Pt P,On r->mul N r=none)(hP:IsP N)(R:Rv N)(hw:Wd R.n t)(hv:R.v<2^R.n)(hN:18446744073709551616<=N)(sd bl:ByteArray)(h7:sd.size=32)(ci:rq N bl.data=F R.k.val)(V A S C1 C2 L3 L6 L8:Bs)(hL:RvL C.toFld l R V A S C1 C2 L3 L6 L8)(hS:RvS R sd.data.toList)(q:Md.Ps Bs (B N) (OnP P))(dj:q.s=aN L8)(d3:q.a=R.a)(dy:q.b=R.b)(du:q.g=gPt C.toFld ⟨#[108,101,102,116]⟩)(e9:q.h=R.hh (aI C.toFld l) (gPt C.toFld ⟨#[114,105,103,104,116]⟩))(u:OnP P)(hu:u=(aI C.toFld l).ac R.w (uPt C.toFld))(Lb Rb:I->Bs)(dq:∀j,Lb j=wP ((aI C.toFld l).pLi (chF N) ivF u t q j))(e8:∀j,Rb j=wP ((aI C.toFld l).pTi (chF N) ivF u t q j))(Ab Bb:Bs)(dm:Ab=bx (((aI C.toFld l).pst (chF N) ivF u t q t).a 0).val)(cq:Bb=bx (((aI C.toFld l).pst (chF N) ivF u t q t).b 0).val)(pz:Rp)(er:E (⟨A,S,C1,C2,R.tau.val,R.mu.val,R.t.val⟩=pz))(w:Yp):
 dZ 6 #[uZ (R.v:Y),.string bl,iZ (R.n:Y),.string sd] w λe w'=>∃e',e=.tuple #[e',iZ 0]/\RdB 0 t (rgB t pz Lb Rb Ab Bb) e' w':=by
 have z:R.n<=64:=by rw[hw.1];exact YA (ZU dC hw.2.2) dC
 have h8:0<R.n:=by rw[hw.1];exact oE dC
 have hk:R.v<2^64:=Yr hv (YA (ZU dC z) dC);have h6:1<N:=hP.1;have hr:(1:B N).val=1:=YL h6;have cf:=Is (R.n:Y);have e4:wdB (R.n:Y)=true:=Fp hw;rw[e4]at cf;have bi:=Iy O bl;rw[<-Vx ci,ci]at bi;have HS:E (∀i,i<64->yy 22 #[uZ ((R.v/2^i%2:I):Y)] (nv (R.l i).val)):=λi hi=>by
  rw[show(R.l i).val=R.v/2^i%2 from(Hv h6 R.v i).symm];exact Mw (oN (ZL (R.v/2^i) (show 0<2 by decide)))
 have HM:E (∀i,yy 23 #[rv1,nv (R.l i).val,nv 1] (nv (R.m i).val)):=λi=>by
  have:=Rr O (R.l i) 1;rwa[hr]at this
 have be:E (∀i k w,yz w k [.string sd,.string ⟨dL i⟩]->eZ 24 #[.string ⟨#[115,108]⟩,sZ k 2 2] w (nv (R.s i).val)):=λi k w h=>by
  rw[hS.s i];exact Ms O ⟨#[115,108]⟩ sd dC h7 i h
 have bz:E (∀i k w,yz w k [.string sd,.string ⟨dL i⟩]->eZ 24 #[.string ⟨#[115,114]⟩,sZ k 2 2] w (nv (R.q i).val)):=λi k w h=>by
  rw[hS.q i];exact Ms O ⟨#[115,114]⟩ sd dC h7 i h
 have di:E (∀k w,yz w k [.string sd]->eZ 24 #[.string ⟨#[97,108,112,104,97]⟩,sZ k 1 1] w (nv R.al.val)):=λk w h=>by
  rw[hS.al];exact Cv O ⟨#[97,108,112,104,97]⟩ sd dC h7 h
 have e7:E (∀k w,yz w k [.string sd]->eZ 24 #[.string ⟨#[114,104,111]⟩,sZ k 1 1] w (nv R.rho.val)):=λk w h=>by
  rw[hS.rho];exact Cv O ⟨#[114,104,111]⟩ sd dC h7 h
 have dz:E (∀k w,yz w k [.string sd]->eZ 24 #[.string ⟨#[116,97,117,49]⟩,sZ k 1 1] w (nv R.t1.val)):=λk w h=>by
  rw[hS.t1];exact Cv O ⟨#[116,97,117,49]⟩ sd dC h7 h
 have e0:E (∀k w,yz w k [.string sd]->eZ 24 #[.string ⟨#[116,97,117,50]⟩,sZ k 1 1] w (nv R.t2.val)):=λk w h=>by
  rw[hS.t2];exact Cv O ⟨#[116,97,117,50]⟩ sd dC h7 h
 have sV:V.size=33:=by rw[hL.eV];exact aY _
 have sA:A.size=33:=by rw[hL.eA];exact aY _
 have sS:S.size=33:=by rw[hL.eS];exact aY _
 obtain⟨tc,dp,d5⟩:=BD C R.v R.k.val (Yr hk (show 18446744073709551616<=top by decide)) (Yr R.k.isLt O.le);have bp:=mI C dp;have eV:wr (cmt P R.v R.k.val)=V:=by
  have e2:=Aw C.toFld l (ofF N R.v) R.k;rw[show(ofF N R.v).val=R.v from YL (Yr hk hN)]at e2;rw[e2];exact hL.eV.symm
 rw[eV]at bp;have hq:E (∀w,dZ 31 #[.string ⟨V⟩,iZ (R.n:Y),.string ⟨A⟩,.string ⟨S⟩] w λe w'=>∃y,e=.tuple #[jZ y,nv R.y.val,nv R.z.val]/\w.heap.size<=y/\RLog w' y (aN (aN L3))):=λw=>by
  have h:=Ts O V A S sV sA sS R.n z w;rw[<-hL.l3,rF O hP hL.y,rF O hP hL.z]at h;exact h
 have ht:=mk3 (Mw (n:=R.v) hk) d5 bp;have b5:=lR O (a:=R.z) (b:=R.z);have ku:E (∀w,dZ 34 #[nv R.y.val,iZ (R.n:Y)] w λe w'=>(pqR e R.n λj=>(pwF R.y j).val).p (w.heap.size<=·) w'):=λw=>FX O h6 R.y R.n h8 z w
 have dl:(ofF N 2).val=2:=YL (Yr (by decide) hN);have k9:E (∀w,dZ 34 #[nv 2,iZ (R.n:Y)] w λe w'=>(pqR e R.n λj=>(pwF (ofF N 2) j).val).p (w.heap.size<=·) w'):=λw=>by
  have:=FX O h6 (ofF N 2) R.n h8 z w;rwa[dl]at this
 have cg:∀i,yy 23 #[rv1,nv (R.l i).val,nv R.z.val] (nv (R.a0 i).val)/\yy 35 #[rv1,nv (R.m i).val,nv R.z.val] (nv (R.m i+R.z).val)/\yy 33 #[rv1,nv (pwF R.y i).val,nv (R.m i+R.z).val] (nv (pwF R.y i*(R.m i+R.z)).val)/\yy 33 #[rv1,nv (R.z*R.z).val,nv (pwF (ofF N 2) i).val] (nv (R.z*R.z*pwF (ofF N 2) i).val)/\yy 35 #[rv1,nv (pwF R.y i*(R.m i+R.z)).val,nv (R.z*R.z*pwF (ofF N 2) i).val] (nv (R.b0 i).val)/\yy 33 #[rv1,nv (pwF R.y i).val,nv (R.q i).val] (nv (R.b1 i).val):=λi=>by
  rw[<-congrFun R.X3 i,<-congrFun R.X2 i,<-congrFun R.X1 i];exact⟨Rr O _ _,v9 O,lR O,lR O,v9 O,lR O⟩
 have k7:E (∀W va vb,NtQ (λ_=>True) W va R.n (λj=>(R.a0 j).val)->NtQ (λ_=>True) W vb R.n (λj=>(R.b1 j).val)->eZ 36 #[va,vb] W (nv (Md.pr R.a0 R.b1 R.n).val)):=λW va vb h1 h2=>EK O R.n z R.a0 R.b1 va vb W h1 h2
 have k6:E (∀W va vb,NtQ (λ_=>True) W va R.n (λj=>(R.s j).val)->NtQ (λ_=>True) W vb R.n (λj=>(R.b0 j).val)->eZ 36 #[va,vb] W (nv (Md.pr R.s R.b0 R.n).val)):=λW va vb h1 h2=>EK O R.n z R.s R.b0 va vb W h1 h2
 have b9:E (∀W va vb,NtQ (λ_=>True) W va R.n (λj=>(R.s j).val)->NtQ (λ_=>True) W vb R.n (λj=>(R.b1 j).val)->eZ 36 #[va,vb] W (nv R.c2.val)):=λW va vb h1 h2=>EK O R.n z R.s R.b1 va vb W h1 h2
 have hm:yy 35 #[rv1,nv (Md.pr R.a0 R.b1 R.n).val,nv (Md.pr R.s R.b0 R.n).val] (nv R.c1.val):=v9 O;obtain⟨fg,fn⟩:=hE (Md.pr R.a0 R.b1 R.n).val;obtain⟨eu,ej⟩:=hE (Md.pr R.s R.b0 R.n).val;rw[fn.out]at k7 hm;rw[ej.out]at k6 hm;have hm:=mk1 hm;obtain⟨a0,a1,a2,a3,a4,HA⟩:=Rl C O l (n:=R.n) z (a:=R.al) (l:=R.l) (m:=R.m) (X:=A) hL.eA;obtain⟨b0,b1,b2,b3,b4,HB⟩:=Rl C O l (n:=R.n) z (a:=R.rho) (l:=R.s) (m:=R.q) (X:=S) hL.eS;have HA:=mk1 HA;have HB:=mk1 HB;have k2:E (∀w,dZ 26 #[.string ⟨#[108,101,102,116]⟩,iZ (R.n:Y)] w λe w'=>(pqT e R.n (bsP P ⟨#[108,101,102,116]⟩)).p (w.heap.size<=·) w'):=λw=>(Jm C dC (n:=R.n) h8 z (w:=w)).mono (by
  rintro e w' ⟨v,rfl,T,h,-⟩;exact⟨_,Z,T,h⟩)
 have k3:E (∀w,dZ 26 #[.string ⟨#[114,105,103,104,116]⟩,iZ (R.n:Y)] w λe w'=>(pqT e R.n (bsP P rgL)).p (w.heap.size<=·) w'):=λw=>(Jm C (k:=rgL) dC (n:=R.n) h8 z (w:=w)).mono (by
  rintro e w' ⟨v,rfl,T,h,-⟩;exact⟨_,Z,T,h⟩)
 obtain⟨tL,db⟩:=hE (bsP P ⟨#[108,101,102,116]⟩);obtain⟨tR,ew⟩:=hE (bsP P rgL);simp only[db.out,ew.out]at HA HB k2 k3;obtain⟨fl,f8⟩:∃f:I->I,∀j,(R.l j).val=f j:=⟨_,λ_=>rfl⟩
 obtain⟨fm,ed⟩:∃f:I->I,∀j,(R.m j).val=f j:=⟨_,λ_=>rfl⟩
 obtain⟨fs,cu⟩:∃f:I->I,∀j,(R.s j).val=f j:=⟨_,λ_=>rfl⟩
 obtain⟨fq,ep⟩:∃f:I->I,∀j,(R.q j).val=f j:=⟨_,λ_=>rfl⟩
 obtain⟨fa,dw⟩:∃f:I->I,∀j,(R.a0 j).val=f j:=⟨_,λ_=>rfl⟩
 obtain⟨fb,d9⟩:∃f:I->I,∀j,(R.b0 j).val=f j:=⟨_,λ_=>rfl⟩
 obtain⟨fc,kz⟩:∃f:I->I,∀j,(R.b1 j).val=f j:=⟨_,λ_=>rfl⟩
 obtain⟨fy,ey⟩:∃f:I->I,∀j,(pwF R.y j).val=f j:=⟨_,λ_=>rfl⟩
 obtain⟨f2,es⟩:∃f:I->I,∀j,(pwF (ofF N 2) j).val=f j:=⟨_,λ_=>rfl⟩
 obtain⟨fz,ei⟩:∃f:I->I,∀j,(R.m j+R.z).val=f j:=⟨_,λ_=>rfl⟩
 obtain⟨fx,ff⟩:∃f:I->I,∀j,(pwF R.y j*(R.m j+R.z)).val=f j:=⟨_,λ_=>rfl⟩
 obtain⟨fw,fk⟩:∃f:I->I,∀j,(R.z*R.z*pwF (ofF N 2) j).val=f j:=⟨_,λ_=>rfl⟩
 obtain⟨zz,cj⟩:=hE (R.z*R.z).val;rw[cj.out]at b5;have HZ:=mk1 b5;obtain⟨fA,fd⟩:∃f:I->I,∀j,(R.a j).val=f j:=⟨_,λ_=>rfl⟩
 obtain⟨fB,ex⟩:∃f:I->I,∀j,(R.b j).val=f j:=⟨_,λ_=>rfl⟩
 simp only[f8,ed,cu,ep,dw,d9,kz,ey,es,ei,ff,fk,cj.out]at HS HM be bz HA HB ku k9 cg k7 k6 b9;have ec:=mk1 cg;obtain⟨n,hn⟩:=hE R.n;obtain⟨v,fe⟩:=hE R.v;have HN:=mk3 z h8 hk;have dx:=mk1 hv;have kw:=mk2 cf bi;obtain⟨ek,d6,df,bk⟩:=Rn C O l (a:=R.c1) (b:=R.t1) (X:=C1) hL.e1;obtain⟨eg,cy,d7,c4⟩:=Rn C O l (a:=R.c2) (b:=R.t2) (X:=C2) hL.e2;have k1:=mk4 d6 df cy d7;have ky:=mk4 sA sS bk c4;have s3:(aN (aN L3)).size=32:=aW;have T3:=Mf (L:=aN (aN L3)) ⟨#[116,104,105,114,100]⟩ ⟨C1⟩ dC (show C1.size<=16384 by rw[bk];decide) s3 Z;obtain⟨LB,bn⟩:=hE (iF (aN (aN L3)) (⟨#[116,104,105,114,100]⟩:ByteArray).data.toList (⟨C1⟩:ByteArray).data.toList);rw[bn.out]at T3;have s4:LB.size=32:=bn.out▸bV;have T4:=Mf (L:=LB) (L':=L6) ⟨#[102,111,117,114,116,104]⟩ ⟨C2⟩ dC (show C2.size<=16384 by rw[c4];decide) s4 (by rw[<-bn.out,hL.l6];unfold mdL jR;rfl);have s6:L6.size=32:=by rw[hL.l6];unfold mdL jR;exact bV
 obtain⟨LC,c8⟩:=hE (aN L6);have T5:=Ro O hP hL.x s6 c8;have k4:=mk3 T3 T4 T5;have s8:L8.size=32:=by rw[hL.l8];unfold enL;exact bV
 have T6:=Vw R (show LC.size=32 from c8.out▸aW) (L':=L8) (c8.out▸hL.l8.symm);obtain⟨L9,cd⟩:=hE (aN L8);have T7:=Ro O hP hL.w s8 cd;obtain⟨ti,tw,hI,hT,hH⟩:=VA C O l t hw.2.2 R hw.1 q (L:=L9) (dj.trans cd) (cd.out▸aW) d3 dy du e9 u hu Lb Rb dq e8 Ab Bb dm cq;have bj:=mk1 (Yr (show 0<3 by decide) hw.2.1);have HH:=mk1 hH;have dk:=mk2 hI hT;clear hI hT hH dj d3 dy du e9 hu dq e8 dm cq;have ea:=mk2 T6 T7;have dh:E (∀w,dZ 42 #[nv R.y.val,iZ (R.n:Y)] w λe w'=>(pqT e R.n (trR P R.y)).p (w.heap.size<=·) w'):=λw=>Td C O l O.le h6 R.y R.n h8 z w
 clear T6 T7 s8;have bc:E (∀W va vb,NtQ (λ_=>True) W va R.n (λj=>(R.a0 j).val)->NtQ (λ_=>True) W vb R.n (λj=>(R.s j).val)->dZ 39 #[nv 1,va,nv R.x.val,vb] W λe w'=>(pqR e R.n λj=>(R.a j).val).p (W.heap.size<=·) w'):=λW va vb h1 h2=>Rk O h6 (x:=R.x) (n:=R.n) h8 z (a:=R.a0) (s:=R.s) (b:=R.a) (λ_=>rfl) (W:=W) (va:=va) (k:=vb) h1 h2
 have bq:E (∀W va vb,NtQ (λ_=>True) W va R.n (λj=>(R.b0 j).val)->NtQ (λ_=>True) W vb R.n (λj=>(R.b1 j).val)->dZ 39 #[nv 1,va,nv R.x.val,vb] W λe w'=>(pqR e R.n λj=>(R.b j).val).p (W.heap.size<=·) w'):=λW va vb h1 h2=>Rk O h6 (x:=R.x) (n:=R.n) h8 z (a:=R.b0) (s:=R.b1) (b:=R.b) (λ_=>rfl) (W:=W) (va:=va) (k:=vb) h1 h2
 have bm:E (∀W va vb,NtQ (λ_=>True) W va R.n (λj=>(R.a j).val)->NtQ (λ_=>True) W vb R.n (λj=>(R.b j).val)->eZ 36 #[va,vb] W (nv R.t.val)):=λW va vb h1 h2=>EK O R.n z R.a R.b va vb W h1 h2
 obtain⟨fp,eo,eh,f4,f7,h0⟩:=Te O R;obtain⟨fh,k0⟩:=Vz O R;have h0:=mk1 h0;have k0:=mk1 k0;have h9:=mk1 (VF O R);simp only[dw,d9,kz,cu,fd,ex,cj.out,db.out]at bc bq bm h0 HH;clear T3 T4 T5 s3 s4 s6 d6 df cy d7 bk c4;clear cf bi e4 z h8 hk hv hN hr ci sV sA sS d5 bp eV dp dl cg b5;simp only[hn.out,fe.out]at HS HN dx kw k2 k3 HA HB hq ht ku k9 k7 k6 b9 bc bq bm dh HH⊢;have K0:=mk1 (Mp.start w);go_enter func6,ntmps6;refine PW.bg [] ?_;refine PM.al 28 z11 K0 λk8 w1 d=>?_
 refine PW.en [iZ 0] ?_;refine PW.bg [] ?_;refine PM.al 28 z11 d λka w2 m=>?_
 refine PW.dn ?_;refine PW.bg [] ?_;refine PM.gi m (kw.1 w2) λw3 s=>?_
 refine PW.en [tZ] ?_;refine Yt<|PW.bg [fZ] ?_
 refine PW.gd ?_;refine PW.go [] ?_;refine PW.gd ?_;refine PW.go [iZ (sd.size:Y)] ?_;rw[h7];refine PW.gd ?_;refine PW.go [fZ] ?_;refine PW.en [fZ] ?_;refine YY rfl<|ZK<|PW.bg [] ?_
 refine PM.gi s (kw.2 w3) λw4 K4=>?_
 refine PW.go [nv R.k.val,tZ] ?_;refine PM.al 54 (RG.z 4) K4 λkc w5 M=>?_
 refine PM.st 2 (wn R.k.val) M nq λw6 K6=>?_
 refine PW.en [tZ] ?_;refine Yt<|PW.rg [fZ] ?_
 refine YY rfl<|ZK<|Yt ?_
 refine Lr ?_ λp1 p2 p3 p4 p5 p6 p7 p8=>?_
 .by_cases h:n<64
  .have h':(n:Y)<64:=yCo.2 h;have hz:=pj dx;have K:=Cp (v:=v) (i:=n) HN.2.2 h w6;rw[hz]at K;refine PW.bg [.bool (decide ((n:Y)<64))] ?_;rw[decide_eq_true h'];refine PW.gd ?_;refine PW.go [] ?_;refine PW.gd ?_;refine PW.go [] ?_;refine PW.gd ?_;refine PW.ns K ?_;refine PW.gd ?_;refine PW.go [fZ] ?_;refine PW.en [fZ] ?_;refine YY rfl<|ZK ?_
   exact⟨Z,Z,iZ n,tZ,tZ,uZ v,iZ n,uZ ((0:I):Y),fZ,fZ,by(simp only[Yw,Yy,Yz])<;>rfl⟩
  .have h':¬(n:Y)<64:=λe=>h (yCo.1 e)
   refine PW.bg [.bool (decide ((n:Y)<64))] ?_;rw[decide_eq_false h'];refine PW.gs ?_;refine PW.gs ?_;refine PW.gs ?_;refine PW.gs ?_;refine PW.en [fZ] ?_;refine YY rfl<|ZK ?_
   exact⟨Z,Z,iZ n,fZ,fZ,ae,ae,ae,ae,fZ,by(simp only[Yw,Yy,Yz])<;>rfl⟩
 simp only[Yw,Yy,Yz];refine PW.bg [] ?_;refine PM.gi K6 (Dm w6) λw7 K7=>?_
 refine PM.al 58 (RG.z 8) K7 λkd w8 K8=>?_
 refine PM.st 3 rl1 K8 hQr λw9 K9=>?_
 refine PW.dn ?_;refine PW.bg [] ?_;refine PM.gi K9 (Mw (n:=1) dC w9) λx1 KA=>?_
 refine PM.al 54 (RG.z 4) KA λke x2 KB=>?_
 refine PM.st 4 (wn 1) KB nq λx3 KC=>?_
 refine PW.dn ?_;refine PW.rg [nZ,nZ,nZ,nZ] ?_;refine Yt<|PW.rg [iZ 0] ?_
 apply ZR;have KL:=mk1 (Mo.nil (ls:=[⟨nZ,0,fl⟩,⟨nZ,0,fm⟩,⟨nZ,0,fs⟩,⟨nZ,0,fq⟩]) (b:=w.heap.size) KC (by simp));clear K0 d m s K4 M K6 K7 K8 K9 KA KB KC;go_loopg [15,16,17,18,19] n (λgk s15 s16 s17 s18 s19 wr=>∃i:I,i+gk=n/\s19=iZ i/\E (Mp w wr [(k8,z11),(ka,z11),(kc,wn R.k.val),(kd,rl1),(ke,wn 1)] (sL w.heap.size [⟨s15,i,fl⟩,⟨s16,i,fm⟩,⟨s17,i,fs⟩,⟨s18,i,fq⟩] []))/\E (ApL [⟨s15,i,fl⟩,⟨s16,i,fm⟩,⟨s17,i,fs⟩,⟨s18,i,fq⟩]))
 case atStart=>exact⟨0,Yv _,Z,KL.1,KL.2⟩
 case round =>
  obtain⟨i,gg,rfl,K,A⟩:=hrel;refine Yt<|PW.rg [.bool (decide ((i:Y)<(n:Y)))] ?_
  by_cases hi:i<n
  .have bo:(i:Y)<(n:Y):=yCo.2 hi;have bt:YQ.wrap ((i:Y)+1)=((i+1:I):Y):=by rw[Zy];have:=HN.1;omega
   have z:=HN.1;have de:i<64:=Yr hi z;rw[decide_eq_true bo];refine Y5 rfl<|ZK<|Yt<|ZR<|PW.bg [] ?_
   refine PW.ns (Cp (v:=v) (i:=i) HN.2.2 de wr) ?_;refine PW.ns (QV (x:=(v/2^i)) (IX (v:=v) (i:=i) HN.2.2) (w:=wr)) ?_;refine PM.gi K (HS i de wr) λy1 d=>?_
   refine PM.al 54 (RG.z 4) d λkb y2 m=>?_
   refine PM.st 5 (wn (fl i)) m nq λy3 s=>?_
   refine PW.dn ?_;refine PW.bg [] ?_;refine PM.ro 5 s nq ?_;refine PM.bs 54 (wn (fl i)) 1 s λt1 y4 hR K4=>?_
   refine PM.ap 0 K4 A hR λf6 y5 M A5=>?_
   refine PW.en [f6] ?_;clear K d m s K4 A hR;refine PW.bg [] ?_;refine PM.ro 3 M hQr ?_;refine PM.ro 5 M nq ?_;refine PM.ro 4 M nq ?_;refine PM.gi M (HM i y5) λy6 K6=>?_
   refine PM.bs 54 (wn (fm i)) 1 K6 λt2 y7 hR K7=>?_
   refine PM.ap 1 K7 A5 hR λef y8 K8 A8=>?_
   refine PW.en [ef] ?_;clear M K6 K7 A5 hR;refine PW.bg [] ?_;refine PM.gi K8 (CW i (by omega) y8) λy9 K9=>?_
   refine PM.bs 9 [.string sd,.string ⟨dL i⟩] 2 K9 λt3 z1 hR KA=>?_
   refine PM.gi KA (be i t3 z1 hR) λz2 KB=>?_
   refine PM.bs 54 (wn (fs i)) 1 KB λt4 z3 d4 KC=>?_
   refine PM.ap 2 KC A8 d4 λem z4 KD AD=>?_
   refine PW.en [em] ?_;clear K8 K9 KA KB KC A8 hR d4;refine PW.bb (P:=prog) [] ?_;refine PM.gi KD (CW i (by omega) z4) λz5 KE=>?_
   refine PM.bs 9 [.string sd,.string ⟨dL i⟩] 2 KE λt5 z6 hR KF=>?_
   refine PM.gi KF (bz i t5 z6 hR) λz7 KG=>?_
   refine PM.bs 54 (wn (fq i)) 1 KG λt6 z8 cp KH=>?_
   refine PM.ap 3 KH AD cp λf5 z9 KI AI=>?_
   refine PW.en [f5] ?_;have KJ:=mk1 (KI.drop 5);clear KD KE KF KG KH KI AD hR cp;refine PW.bb (P:=prog) [iZ (YQ.wrap ((i:Y)+1))] ?_;rw[bt];go_wp2;go_roundg (gk-1)
   case measure=>omega
   case rel=>exact⟨i+1,by omega,Z,KJ,AI⟩
  .have bo:¬(i:Y)<(n:Y):=λe=>hi (yCo.1 e)
   obtain rfl:i=n:=by omega
   rw[decide_eq_false bo];refine YY rfl<|fT ?_
   have d:E (Mp w wr [(k8,z11),(ka,z11),(kc,wn R.k.val),(kd,rl1),(ke,wn 1)] [pqR u15 i fl,pqR u16 i fm,pqR u17 i fs,pqR u18 i fq]):=Mo.fin K (λx hx=>by simp at hx;rcases hx with rfl|rfl|rfl|rfl<;>exact HN.2.1);clear K A KL;obtain⟨g0,o0,c0,rfl,-⟩:=id (d.get 0);obtain⟨g1,o1,c1,rfl,-⟩:=id (d.get 1);obtain⟨g2,o2,c2,rfl,-⟩:=id (d.get 2);obtain⟨g3,o3,c3,rfl,-⟩:=id (d.get 3);refine PW.bg (P:=prog) [] ?_;refine PM.bs 9 [.string sd] 1 d λq1 z1 hR m=>?_
   refine PM.gi m (di q1 z1 hR) λz2 s=>?_
   refine PM.al 54 (RG.z 4) s λkf z3 K4=>?_
   refine PM.st 5 (wn R.al.val) K4 nq λz4 M=>?_
   refine PW.dn ?_;clear d m s K4 hR;refine PW.bg [] ?_;refine PM.bs 9 [.string sd] 1 M λq1 z1 hR m=>?_
   refine PM.gi m (e7 q1 z1 hR) λz2 s=>?_
   refine PM.al 54 (RG.z 4) s λkg z3 K4=>?_
   refine PM.st 6 (wn R.rho.val) K4 nq λz5 K6=>?_
   refine PW.dn ?_;clear M m s K4 hR;refine PW.bg [] ?_;refine PM.bs 9 [.string sd] 1 K6 λq1 z1 hR m=>?_
   refine PM.gi m (dz q1 z1 hR) λz2 s=>?_
   refine PM.al 54 (RG.z 4) s λkh z3 K4=>?_
   refine PM.st 7 (wn R.t1.val) K4 nq λz6 K7=>?_
   refine PW.dn ?_;clear K6 m s K4 hR;refine PW.bg [] ?_;refine PM.bs 9 [.string sd] 1 K7 λq1 z1 hR m=>?_
   refine PM.gi m (e0 q1 z1 hR) λz2 s=>?_
   refine PM.al 54 (RG.z 4) s λki z3 K4=>?_
   refine PM.st 8 (wn R.t2.val) K4 nq λz7 K8=>?_
   refine PW.dn ?_;clear K7 m s K4 hR;refine PW.bg [] ?_;refine PM.ca K8 (PM.fr (sp:=λe=>pqT e i tL) K8 (k2 z7)) λe1 z8 T hL K9=>?_
   have K9:=mk1 (K9.has (pqT e1 i tL) hL);refine PW.en [e1] ?_;clear K8 T hL;refine PW.bg [] ?_;refine PM.ca K9 (PM.fr (sp:=λe=>pqT e i tR) K9 (k3 z8)) λe2 z9 T hL KA=>?_
   have KA:=mk1 (KA.has (pqT e2 i tR) hL);refine PW.en [e2] ?_;clear K9 T hL;refine PW.bg [] ?_;refine PM.ro 5 KA nq ?_;refine PM.gi KA (HA.1 z9) λy1 d=>?_
   refine PW.go [] ?_;refine PM.gi d (HA.2.1 y1 _ _ (RwQ.tt (d.get 0)) (RwQ.tt (d.get 4))) λy2 m=>?_
   refine PW.go [] ?_;refine PM.gi m (HA.2.2.1 y2 _ _ (RwQ.tt (m.get 1)) (RwQ.tt (m.get 5))) λy3 s=>?_
   refine PM.gi s (HA.2.2.2.1 y3) λy4 K4=>?_
   refine PM.gi K4 (HA.2.2.2.2.1 y4) λy5 M=>?_
   refine PM.gi M (HA.2.2.2.2.2 y5) λy6 K6=>?_
   refine PW.en [.string ⟨A⟩] ?_;clear KA d m s K4 M;refine PW.bg [] ?_;refine PM.ro 6 K6 nq ?_;refine PM.gi K6 (HB.1 y6) λy1 d=>?_
   refine PW.go [] ?_;refine PM.gi d (HB.2.1 y1 _ _ (RwQ.tt (d.get 2)) (RwQ.tt (d.get 4))) λy2 m=>?_
   refine PW.go [] ?_;refine PM.gi m (HB.2.2.1 y2 _ _ (RwQ.tt (m.get 3)) (RwQ.tt (m.get 5))) λy3 s=>?_
   refine PM.gi s (HB.2.2.2.1 y3) λy4 K4=>?_
   refine PM.gi K4 (HB.2.2.2.2.1 y4) λy5 M=>?_
   refine PM.gi M (HB.2.2.2.2.2 y5) λz1 K7=>?_
   refine PW.en [.string ⟨S⟩] ?_;clear K6 d m s K4 M;obtain⟨L5,et⟩:=hE (aN (aN L3));rw[et.out]at hq k4;obtain⟨vY,c9⟩:=hE (nv R.y.val);obtain⟨vZ,b7⟩:=hE (nv R.z.val);rw[c9.out,b7.out]at hq;apply Yt;refine(RG.gQ [.v (uZ v),.v (nv v),.v (nv R.k.val),.v (tv tc),.v (.string ⟨V⟩),.v (iZ i),.v (.string ⟨A⟩),.v (.string ⟨S⟩),.p (VU z1.heap.size vY vZ L5),.p (VU z1.heap.size vY vZ L5),.p (XF z1.heap.size L5),.v vY,.v vZ,.n (RG.z 4),.n (RG.z 4)] z1.heap.size (λW=>kZ z1 W) (λ_ _ T h=>h.trans (T.mono h.size))).late 15 [11,12] (λj hj=>by
    rcases Zb.1 hj with rfl|hj
    .exact late1 16 9 153 λv W ⟨y,e,_⟩=>⟨vY,Z,λo ho W'=>by
      cases ho
      rw[e];kernel_rfl⟩
    .obtain rfl:=ZX.1 hj;exact late1 17 9 153 λv W ⟨y,e,_⟩=>⟨vZ,Z,λo ho W'=>by
      cases ho
      rw[e];kernel_rfl⟩) (H5 (l:=[13,14]) ⟨al1 (RG.z 4) 54 wH,al1 (RG.z 4) 54 wH,yw⟩) kR kR kR ⟨gv,gc (λW _=>ht.1 W),gm K7 2,gc (λW _=>ht.2.1 W),gc (λW _=>ht.2.2 W),gv,gv,gv,
    RG.gC (args:=λ_=>#[.string ⟨V⟩,iZ i,.string ⟨A⟩,.string ⟨S⟩]) (λU W _ hB=>(hq W).mono (by
     rintro e W' ⟨_,rfl,T,y,rfl,hy,hl⟩;exact⟨_,Z,T,y,Z,YA hB.size hy,hl⟩)),
    GQ 8 162 id (λx W h=>h),
    bE λa W hp=>by
     obtain⟨y,e,h1,h2⟩:=hp.n 9 153 kR kR;exact⟨[(153,.tuple #[jZ y,vY,vZ])],jZ y,W,⟨e,yw⟩,kR,YH _ _,y,Z,h1,h2⟩,
    bE λa W hp=>by
     obtain⟨y,e,h1,h2⟩:=hp.n 9 153 kR kR;exact⟨[(153,.tuple #[jZ y,vY,vZ])],vY,W,⟨e,yw⟩,kR,YH _ _,Z⟩,
    bE λa W hp=>by
     obtain⟨y,e,h1,h2⟩:=hp.n 9 153 kR kR;exact⟨[(153,.tuple #[jZ y,vY,vZ])],vZ,W,⟨e,yw⟩,kR,YH _ _,Z⟩,
    gn 54 (λW hB=>hB.size),gn 54 (λW hB=>hB.size),yw⟩ (YH _ _).drew ?_
   intro X z2 hR hB hD;obtain⟨y,ds,ly,cz⟩:=hR 10 dC;have da:X 11=vY:=hR 11 dC;have co:X 12=vZ:=hR 12 dC;obtain⟨kj,b6,eb,bv⟩:=hR 13 dC;obtain⟨kk,h5,ez,bh⟩:=hR 14 dC;have d1:=hD 13 14 dC dC dC kR kR kR kR;rw[b6,h5]at d1;have n1:kj≠kk:=λe=>d1 (by rw[e])
   have rY:=sW cz;have m1:y≠kj:=Ct rY bv (by intro h;cases h);have m2:y≠kk:=Ct rY bh (by intro h;cases h);have K8:=mk1 (K7.adds hB [(y,[.string ⟨L5⟩]),(kj,RG.z 4),(kk,RG.z 4)] (by simp[m1,m2,n1]) (λx hx=>by
    simp only[Zb,YI,or_false]at hx;rcases hx with rfl|rfl|rfl
    .exact⟨ly,rY⟩
    .exact⟨eb,bv⟩
    .exact⟨ez,bh⟩))
   dsimp only[dF,Zs,gD,qg];simp only[Zo,Yw,Yy,Yz];rw[ds,da,co,b6,h5];clear hR hD d1 ds da co b6 h5 K7 rY bv bh cz;refine PW.go [jZ y] ?_;refine PM.st 10 (wn R.y.val) K8 c9 λz3 K9=>?_
   refine PM.st 11 (wn R.z.val) K9 b7 λz4 KA=>?_
   refine PW.dn ?_;obtain rfl:=c9;obtain rfl:=b7;clear K8 K9;refine PW.bg [] ?_;refine PM.ro 3 KA hQr ?_;refine PM.ro 11 KA nq ?_;refine PM.ro 11 KA nq ?_;refine PM.gi KA (HZ z4) λz5 d=>?_
   refine PM.al 54 (RG.z 4) d λkl z6 m=>?_
   refine PM.st 12 (wn zz) m nq λz7 s=>?_
   refine PW.dn ?_;clear KA d m;refine PW.bg [] ?_;refine PM.ro 10 s nq ?_;refine PW.go [] ?_;refine PM.ca s (PM.fr (sp:=λe=>pqR e i fy) s (ku z7)) λe5 z8 T hL K4=>?_
   obtain⟨g6,o6,c6,rfl,-⟩:=id hL;have K4:=mk1 (K4.has (pqR _ i fy) hL);refine PW.en [qZ g6 o6 i c6] ?_;clear s hL T;refine PW.bg [] ?_;refine PM.gi K4 (Mw (n:=2) dC z8) λz9 M=>?_
   refine PW.go [] ?_;refine PM.ca M (PM.fr (sp:=λe=>pqR e i f2) M (k9 z9)) λe6 y1 T hL K6=>?_
   obtain⟨g7,o7,c7,rfl,-⟩:=id hL;have K6:=mk1 (K6.has (pqR _ i f2) hL);refine PW.en [qZ g7 o7 i c7] ?_;clear K4 M hL T;refine PW.rg [nZ,nZ,nZ] ?_;refine Yt<|PW.rg [iZ 0] ?_
   apply ZR;have KL:=mk1 (Mo.nil (ls:=[⟨nZ,0,fa⟩,⟨nZ,0,fb⟩,⟨nZ,0,fc⟩]) (b:=w.heap.size) K6 (by simp));obtain⟨S6,k5⟩:=hE [pqR (qZ g0 o0 i c0) i fl,pqR (qZ g1 o1 i c1) i fm,pqR (qZ g2 o2 i c2) i fs,pqR (qZ g3 o3 i c3) i fq,pqT e1 i tL,pqT e2 i tR,pqR (qZ g6 o6 i c6) i fy,pqR (qZ g7 o7 i c7) i f2];obtain⟨kv,kx⟩:=hE [(k8,z11),(ka,z11),(kc,wn R.k.val),(kd,rl1),(ke,wn 1),(kf,wn R.al.val),(kg,wn R.rho.val),(kh,wn R.t1.val),(ki,wn R.t2.val),(y,[.string ⟨L5⟩]),(kj,wn R.y.val),(kk,wn R.z.val),(kl,wn zz)];rw[k5.out,kx.out]at KL;have q3:E (kv[3]? = F (kd,rl1)/\kv[11]? = F (kk,wn R.z.val)/\kv[12]? = F (kl,wn zz)):=by rw[<-kx.out];exact⟨Z,Z,Z⟩
   have q6:E (S6[0]? = F (pqR (qZ g0 o0 i c0) i fl)/\S6[1]? = F (pqR (qZ g1 o1 i c1) i fm)/\S6[3]? = F (pqR (qZ g3 o3 i c3) i fq)/\S6[6]? = F (pqR (qZ g6 o6 i c6) i fy)/\S6[7]? = F (pqR (qZ g7 o7 i c7) i f2)):=by rw[<-k5.out];exact⟨Z,Z,Z,Z,Z⟩
   clear K6 HS HM be bz di e7 dz e0 HA HB hq ht ku k9 HZ k2 k3 kw;go_loopg [35,36,37,38] i (λgk s35 s36 s37 s38 wr=>∃j:I,j+gk=i/\s38=iZ j/\E (Mp w wr kv (sL w.heap.size [⟨s35,j,fa⟩,⟨s36,j,fb⟩,⟨s37,j,fc⟩] S6))/\E (ApL [⟨s35,j,fa⟩,⟨s36,j,fb⟩,⟨s37,j,fc⟩]))
   case atStart=>exact⟨0,Yv _,Z,KL.1,KL.2⟩
   case round =>
    obtain⟨j,ge,rfl,K,A⟩:=hrel;refine Yt<|PW.rg [.bool (decide ((j:Y)<(i:Y)))] ?_
    by_cases hj:j<i
    .have cn:(j:Y)<(i:Y):=yCo.2 hj;have bt:YQ.wrap ((j:Y)+1)=((j+1:I):Y):=by rw[Zy];have:=HN.1;omega
     have z:=HN.1;obtain⟨v1,v2,v3,v4,v5,v6⟩:=ec j;rw[decide_eq_true cn];refine Y5 rfl<|ZK<|Yt<|ZR<|Yt<|AM.bl 10 K λK=>?_
     refine AW.mv 0 ?_;refine AW.ro 1 (λW h=>(h.1.at_ 3 q3.1).2.1) hQr uFq iFq ?_;refine AW.mv 2 ?_;refine AW.mv 3 ?_;refine AW.iv 4 (atN (k:=g0) (o:=o0) (n:=i) (c:=c0) (i:=j) hj) ?_;refine AW.ro 5 (λW h=>NtQ.get (Ml.get h 0 q6.1) hj) nq u33 i33 ?_;refine AW.ro 6 (λW h=>(h.1.at_ 11 q3.2.1).2.1) nq u33 i33 ?_;refine AM.gl 7 K (v1 _) λy2 d=>?_
     refine AM.bs 8 54 (wn (fa j)) 1 λkb y3 T hR=>?_
     refine AM.ad 9 0 (d.grow T) A hR λgr y4 m A2=>?_
     clear K d A T hR;refine Yt<|AM.bl 25 m λK=>?_
     refine AW.mv 0 ?_;refine AW.ro 1 (λW h=>(h.1.at_ 3 q3.1).2.1) hQr uFq iFq ?_;refine AW.ro 2 (λW h=>(h.1.at_ 3 q3.1).2.1) hQr uFq iFq ?_;refine AW.mv 3 ?_;refine AW.mv 4 ?_;refine AW.iv 5 (atN (k:=g6) (o:=o6) (n:=i) (c:=c6) (i:=j) hj) ?_;refine AW.ro 6 (λW h=>NtQ.get (Ml.get h 6 q6.2.2.2.1) hj) nq u33 i33 ?_;refine AW.ro 7 (λW h=>(h.1.at_ 3 q3.1).2.1) hQr uFq iFq ?_;refine AW.mv 8 ?_;refine AW.mv 9 ?_;refine AW.iv 10 (atN (k:=g1) (o:=o1) (n:=i) (c:=c1) (i:=j) hj) ?_;refine AW.ro 11 (λW h=>NtQ.get (Ml.get h 1 q6.2.1) hj) nq u33 i33 ?_;refine AW.ro 12 (λW h=>(h.1.at_ 11 q3.2.1).2.1) nq u33 i33 ?_;refine AW.ro 15 (λW h=>(h.1.at_ 3 q3.1).2.1) hQr uFq iFq ?_;refine AW.ro 16 (λW h=>(h.1.at_ 12 q3.2.2).2.1) nq u33 i33 ?_;refine AW.mv 17 ?_;refine AW.mv 18 ?_;refine AW.iv 19 (atN (k:=g7) (o:=o7) (n:=i) (c:=c7) (i:=j) hj) ?_;refine AW.ro 20 (λW h=>NtQ.get (Ml.get h 7 q6.2.2.2.2) hj) nq u33 i33 ?_;refine AM.gl 13 K (v2 _) λy5 d=>?_
     refine AM.gl 14 d (v3 _) λy6 s=>?_
     refine AM.gl 21 s (v4 _) λy7 K4=>?_
     refine AM.gl 22 K4 (v5 _) λy8 M=>?_
     refine AM.bs 23 54 (wn (fb j)) 1 λkb y9 T hR=>?_
     refine AM.ad 24 1 (M.grow T) A2 hR λgh z1 K6 A6=>?_
     clear K d m s K4 M A2 T hR;refine AM.bl 13 K6 λK=>?_
     refine AW.mv 0 ?_;refine AW.ro 1 (λW h=>(h.1.at_ 3 q3.1).2.1) hQr uFq iFq ?_;refine AW.mv 2 ?_;refine AW.mv 3 ?_;refine AW.iv 4 (atN (k:=g6) (o:=o6) (n:=i) (c:=c6) (i:=j) hj) ?_;refine AW.ro 5 (λW h=>NtQ.get (Ml.get h 6 q6.2.2.2.1) hj) nq u33 i33 ?_;refine AW.mv 6 ?_;refine AW.mv 7 ?_;refine AW.iv 8 (atN (k:=g3) (o:=o3) (n:=i) (c:=c3) (i:=j) hj) ?_;refine AW.ro 9 (λW h=>NtQ.get (Ml.get h 3 q6.2.2.1) hj) nq u33 i33 ?_;refine AM.gl 10 K (v6 _) λz2 d=>?_
     refine AM.bs 11 54 (wn (fc j)) 1 λkb z3 T hR=>?_
     refine AM.ad 12 2 (d.grow T) A6 hR λgy z4 K7 A7=>?_
     clear K d K6 A6 T hR;refine PW.bb (P:=prog) [iZ (YQ.wrap ((j:Y)+1))] ?_;rw[bt];go_wp2;go_roundg (gk-1)
     case measure=>omega
     case rel=>exact⟨j+1,by omega,Z,K7,A7⟩
    .have cn:¬(j:Y)<(i:Y):=λe=>hj (yCo.1 e)
     obtain rfl:j=i:=by omega
     rw[decide_eq_false cn];refine YY rfl<|fT ?_
     have d:=mk1 (Mo.fin K (λx hx=>by simp at hx;rcases hx with rfl|rfl|rfl<;>exact HN.2.1));clear K A KL q3 q6;rw[<-k5.out,<-kx.out]at d;clear k5 kx;simp only[pg,xo,ZI,ZQ]at d;obtain⟨d0,r0,m0,rfl,-⟩:=id (d.get 0);obtain⟨d1,r1,m1,rfl,-⟩:=id (d.get 1);obtain⟨d2,r2,m2,rfl,-⟩:=id (d.get 2);apply Yt;refine Mq.st [.v rv1,.v (qZ d0 r0 j m0),.v (qZ d2 r2 j m2),.v (nv fg),.v (qZ g2 o2 j c2),.v (qZ d1 r1 j m1),.v (nv eu),.v (nv R.c1.val),.n (RG.z 4)] 9 8 d ⟨gm d 3,gv,gv,gc (λW hB=>k7 W _ _ (RwQ.tt ((d.grow hB).get 0)) (RwQ.tt ((d.grow hB).get 2))),gv,gv,gc (λW hB=>k6 W _ _ (RwQ.tt ((d.grow hB).get 5)) (RwQ.tt ((d.grow hB).get 1))),gc (λW _=>hm W),gn 54 (λW hB=>hB.size),yw⟩ (λU km z5 _ hB m=>?_);clear hB d;dsimp only[wV,vq,YP,YS,Zs,gD,YV,yr,reduceIte];simp only[Zo,Yw,Yy,Yz];refine PM.st 13 (wn R.c1.val) m nq λz6 s=>?_
     refine PW.dn ?_;clear m;refine PW.bg [] ?_;refine PM.gi s (b9 z6 _ _ (RwQ.tt (s.get 5)) (RwQ.tt (s.get 2))) λz7 K4=>?_
     refine PM.al 54 (RG.z 4) K4 λkn z8 M=>?_
     refine PM.st 14 (wn R.c2.val) M nq λz9 K6=>?_
     refine PW.dn ?_;clear s K4 M;apply Yt;refine Mq.st [.v (.string ⟨A⟩),.p (pEb z9.heap.size 33 A),.v (.string ⟨S⟩),.p (pEb z9.heap.size 33 S),.v (nv R.c1.val),.v (nv R.t1.val),.v (tv ek),.v (.string ⟨C1⟩),.p (pEb z9.heap.size 33 C1),.v (nv R.c2.val),.v (nv R.t2.val),.v (tv eg),.v (.string ⟨C2⟩),.p (pEb z9.heap.size 33 C2),.p (pO4 z9.heap.size A S C1 C2),.n z11] 16 15 K6 ⟨gv,gcv (X:=A) (m:=33) ky.1 (λW hB=>hB.size),gv,gcv (X:=S) (m:=33) ky.2.1 (λW hB=>hB.size),gm K6 13,gm K6 7,gc (λW _=>k1.1 W),gc (λW _=>k1.2.1 W),gcv (X:=C1) (m:=33) ky.2.2.1 (λW hB=>hB.size),gm K6 14,gm K6 8,gc (λW _=>k1.2.2.1 W),gc (λW _=>k1.2.2.2 W),gcv (X:=C2) (m:=33) ky.2.2.2 (λW hB=>hB.size),
      bE λa W hp=>by
       have E0:ElQ (z9.heap.size<=·) 33 W (a.eval (.tmp 241)) A:=hp.n 1 241 kR kR;have E1:ElQ (z9.heap.size<=·) 33 W (a.eval (.tmp 243)) S:=hp.n 3 243 kR kR;have E2:ElQ (z9.heap.size<=·) 33 W (a.eval (.tmp 248)) C1:=hp.n 8 248 kR kR;have E3:ElQ (z9.heap.size<=·) 33 W (a.eval (.tmp 253)) C2:=hp.n 13 253 kR kR;obtain⟨i0,y0,f0,-⟩:=id E0;obtain⟨i1,y1,f1,-⟩:=id E1;obtain⟨i2,y2,f2,-⟩:=id E2;obtain⟨i3,y3,f3,-⟩:=id E3;rw[f0]at E0;rw[f1]at E1;rw[f2]at E2;rw[f3]at E3;exact⟨[(241,sZ i0 33 y0),(243,sZ i1 33 y1),(248,sZ i2 33 y2),(253,sZ i3 33 y3)],.agg #[sZ i0 33 y0,sZ i1 33 y1,sZ i2 33 y2,sZ i3 33 y3,sN,sN,sN,sN,sN,sN,sN],W,⟨f0,f1,f2,f3,yw⟩,kR,YH _ _,i0,y0,i1,y1,i2,y2,i3,y3,Z,E0,E1,E2,E3⟩,
      gn 28 (λW hB=>hB.size),yw⟩ (λU ko q1 hR hB K7=>?_)
     obtain⟨i0,y0,i1,y1,i2,y2,i3,y3,h5,E0,E1,E2,E3⟩:=hR 14 dC;have h5:U 14=.agg #[sZ i0 33 y0,sZ i1 33 y1,sZ i2 33 y2,sZ i3 33 y3,sN,sN,sN,sN,sN,sN,sN]:=h5;have K8:=mk1 ((((K7.has (pqB (sZ i0 33 y0) 33 A) (lK K7 E0 dC Z)).has (pqB (sZ i1 33 y1) 33 S) (lK K7 E1 dC Z)).has (pqB (sZ i2 33 y2) 33 C1) (lK K7 E2 dC Z)).has (pqB (sZ i3 33 y3) 33 C2) (lK K7 E3 dC Z));clear hB hR E0 E1 E2 E3 K6 K7;dsimp only[wV,vq,YP,YS,Zs,gD,YV,yr,reduceIte];simp only[Zo,Yw,Yy,Yz];rw[h5];clear h5;refine PM.st 15 [sZ i0 33 y0,sZ i1 33 y1,sZ i2 33 y2,sZ i3 33 y3,sN,sN,sN,sN,sN,sN,sN] K8 aq λq2 K9=>?_
     refine PW.dn ?_;clear K8;refine PW.bg [oZ ko 2] ?_;refine PM.ce 15 2 K9 ?_;refine PW.ns (ElQ.cv9 (K9.get 13)) ?_;refine PM.ry 9 K9 (k4.1 y q2) λf9 KA=>?_
     refine PW.dn ?_;clear K9;refine PW.bg [oZ ko 3] ?_;refine PM.ce 15 3 KA ?_;refine PW.ns (ElQ.cv9 (KA.get 14)) ?_;refine PM.ry 9 KA (k4.2.1 y f9) λq4 KB=>?_
     refine PW.dn ?_;clear KA;refine PW.bg [] ?_;refine PM.ry 9 KB (k4.2.2 y q4) λq5 KC=>?_
     refine PM.al 54 (RG.z 4) KC λkp ft KD=>?_
     refine PM.st 16 (wn R.x.val) KD nq λq7 KE=>?_
     refine PW.dn ?_;clear KB KC KD;refine PW.bg [] ?_;refine PM.ro 4 KE nq ?_;refine PW.go [] ?_;refine PM.ro 16 KE nq ?_;refine PW.go [] ?_;refine PM.ca KE (PM.fr (sp:=λe=>pqR e j fA) KE (bc q7 _ _ (RwQ.tt (KE.get 0)) (RwQ.tt (KE.get 5)))) λeA q8 T hL KF=>?_
     have KF:=mk1 (KF.has (pqR eA j fA) hL);refine PW.en [eA] ?_;clear KE hL T;refine PW.bg [] ?_;refine PM.ro 4 KF nq ?_;refine PW.go [] ?_;refine PM.ro 16 KF nq ?_;refine PW.go [] ?_;refine PM.ca KF (PM.fr (sp:=λe=>pqR e j fB) KF (bq q8 _ _ (RwQ.tt (KF.get 1)) (RwQ.tt (KF.get 2)))) λeB q9 T hL KG=>?_
     have KG:=mk1 (KG.has (pqR eB j fB) hL);refine PW.en [eB] ?_;clear KF hL T;refine PW.bg [] ?_;refine PM.gi KG (bm q9 _ _ (RwQ.tt (KG.get 15)) (RwQ.tt (KG.get 16))) λs1 KH=>?_
     refine PM.al 54 (RG.z 4) KH λkq s2 KI=>?_
     refine PM.st 17 (wn R.t.val) KI nq λs3 KJ=>?_
     refine PW.dn ?_;clear KG KH KI;apply Yt;refine Mq.st [.v rv1,.v rv1,.v rv1,.v (nv R.t1.val),.v (nv R.x.val),.v (nv fp),.v rv1,.v (nv R.t2.val),.v rv1,.v (nv R.x.val),.v (nv R.x.val),.v (nv eo),.v (nv eh),.v (nv f4),.v rv1,.v (nv zz),.v (nv R.k.val),.v (nv f7),.v (nv R.tau.val),.n (RG.z 4)] 20 19 KJ ⟨gm KJ 3,gm KJ 3,gm KJ 3,gm KJ 7,gm KJ 16,gc (λW _=>h0.1 W),gm KJ 3,gm KJ 8,gm KJ 3,gm KJ 16,gm KJ 16,gc (λW _=>h0.2.1 W),gc (λW _=>h0.2.2.1 W),gc (λW _=>h0.2.2.2.1 W),gm KJ 3,gm KJ 12,gm KJ 2,gc (λW _=>h0.2.2.2.2.1 W),gc (λW _=>h0.2.2.2.2.2 W),gn 54 (λW hB=>hB.size),yw⟩ (λU kr s4 _ hB KK=>?_);clear hB KJ;dsimp only[wV,vq,YP,YS,Zs,gD,YV,yr,reduceIte];simp only[Zo,Yw,Yy,Yz];refine PM.st 18 (wn R.tau.val) KK nq λs5 KL=>?_
     refine PW.dn ?_;clear KK;apply Yt;refine Mq.st [.v rv1,.v (nv R.al.val),.v rv1,.v (nv R.rho.val),.v (nv R.x.val),.v (nv fh),.v (nv R.mu.val),.n (RG.z 4)] 8 7 KL ⟨gm KL 3,gm KL 5,gm KL 3,gm KL 6,gm KL 16,gc (λW _=>k0.1 W),gc (λW _=>k0.2 W),gn 54 (λW hB=>hB.size),yw⟩ (λU ks s6 _ hB KM=>?_);clear hB KL;dsimp only[wV,vq,YP,YS,Zs,gD,YV,yr,reduceIte];simp only[Zo,Yw,Yy,Yz];refine PM.st 19 (wn R.mu.val) KM nq λs7 KN=>?_
     refine PW.dn ?_;clear KM;refine PW.bg [] ?_;refine PM.ro 18 KN nq ?_;refine PM.gi KN (h9.1 s7) λv1 G1=>?_
     obtain⟨u1,v2,h3,T,h4⟩:=As (Q:=λ_=>True) (bx R.tau.val) (bP _) v1 (λ_ _=>trivial);obtain⟨i4,y4,rfl,-⟩:=id h4;refine PW.ns h3 ?_;have G2:=mk1 ((G1.grow T).has (pqB (sZ i4 32 y4) 32 (bx R.tau.val)) (lK (G1.grow T) h4 dC Z));refine PW.go [oZ ko 4] ?_;refine PM.s1 15 4 G2 λs8 KO=>?_
     refine PW.dn ?_;clear KN G1 G2 h3 T h4;refine PW.bg [] ?_;refine PM.ro 19 KO nq ?_;refine PM.gi KO (h9.2.1 s8) λv1 G1=>?_
     obtain⟨u1,v2,h3,T,h4⟩:=As (Q:=λ_=>True) (bx R.mu.val) (bP _) v1 (λ_ _=>trivial);obtain⟨i5,y5,rfl,-⟩:=id h4;refine PW.ns h3 ?_;have G2:=mk1 ((G1.grow T).has (pqB (sZ i5 32 y5) 32 (bx R.mu.val)) (lK (G1.grow T) h4 dC Z));refine PW.go [oZ ko 5] ?_;refine PM.s1 15 5 G2 λs9 KP=>?_
     refine PW.dn ?_;clear KO G1 G2 h3 T h4;refine PW.bg [] ?_;refine PM.ro 17 KP nq ?_;refine PM.gi KP (h9.2.2 s9) λv1 G1=>?_
     obtain⟨u1,v2,h3,T,h4⟩:=As (Q:=λ_=>True) (bx R.t.val) (bP _) v1 (λ_ _=>trivial);obtain⟨i6,y6,rfl,-⟩:=id h4;refine PW.ns h3 ?_;have G2:=mk1 ((G1.grow T).has (pqB (sZ i6 32 y6) 32 (bx R.t.val)) (lK (G1.grow T) h4 dC Z));refine PW.go [oZ ko 6] ?_;refine PM.s1 15 6 G2 λo1 KQ=>?_
     refine PW.dn ?_;clear KP G1 G2 h3 T h4;refine Yt<|AW.beg 9 9 (J:=(Iv.mx w _ _ 9 y D)) (KQ.drew.wk 9) ?_
     have KR:=mk1 KQ.drew;refine AW.mv 0 ?_;refine AW.ro 1 (λW ⟨c,h⟩=>(h.at_ 18).2.1) nq u33 i33 ?_;refine AW.ro 3 (λW ⟨c,h⟩=>(h.at_ 19).2.1) nq u33 i33 ?_;refine AW.ro 6 (λW ⟨c,h⟩=>(h.at_ 17).2.1) nq u33 i33 ?_;refine AW.gi 2 (λ_=>h9.1 _) (λgt hc=>?_);refine AW.gi 4 (λ_=>h9.2.1 _) (λgj ha=>?_);refine AW.va 5 (.string (⟨bx R.tau.val⟩++⟨bx R.mu.val⟩)) ?_;refine AW.gi 7 (λ_=>h9.2.2 _) (λo4 dd=>?_);refine AW.va 8 (.string ((⟨bx R.tau.val⟩++⟨bx R.mu.val⟩:ByteArray)++⟨bx R.t.val⟩)) ?_;have KS:=mk1 (((KR.grow hc).grow ha).grow dd);refine AW.cw 9 (λ_=>ea.1 y o4 (sO (KS.at_ 9))) (λe w' _ h=>⟨_,KS.rsay 9 h.1 h.2.1⟩) (λe o5 h=>?_);have KT:=mk1 (KS.rsay 9 h.1 h.2.1);refine AW.dn λ_=>?_
     clear KQ KR KS h hc ha dd;refine PW.bg [] ?_;refine PM.ry 9 KT (ea.2 y o5) λgq KU=>?_
     refine PM.al 54 (RG.z 4) KU λkt gw KV=>?_
     refine PM.st 20 (wn R.w.val) KV nq λo8 KW=>?_
     refine PW.dn ?_;clear KT KU KV;refine Yt<|AW.beg 12 12 (J:=(Iv.mx w _ _ 9 y true)) (KW.drew.wk 9) ?_
     have KX:=mk1 KW.drew;clear KW;refine AW.mv 0 ?_;refine AW.mv 1 ?_;refine AW.mv 2 ?_;refine AW.mv 3 ?_;refine AW.ro 4 (λW ⟨c,h⟩=>(h.at_ 10).2.1) nq u33 i33 ?_;refine AW.mv 5 ?_;refine AW.ro 7 (λW ⟨c,h⟩=>(h.at_ 20).2.1) nq u33 i33 ?_;refine AW.ca 6 (λ_=>PM.fr (sp:=λe=>pqT e j (trR P R.y)) KX (dh _)) (λe w' h=>h.1) (λev o9 h=>?_);have KY:=mk1 ((KX.grow h.1).has (pqT ev j (trR P R.y)) h.2);refine AW.gi 8 (λ_=>dk.1 _) (λv1 hc=>?_);refine AW.gi 9 (λ_=>dk.2 _) (λv2 ha=>?_);have KZ:=mk1 ((KY.grow hc).grow ha);have cx:=mk1 (((KX.grow h.1).grow hc).grow ha);obtain⟨Qn,he⟩:=KZ.q;have nr:∀g,Qn g->g≠y:=KZ.ne he 9;have d8:=mk1 (HH y v2 eA eB e1 ev (sO (KZ.at_ 9)) (RwQ.mono (KZ.wX he 15) λg _ hg=>nr g hg) (RwQ.mono (KZ.wX he 16) λg _ hg=>nr g hg) (RwQ.mono (KZ.wX he 7) λg _ hg=>nr g hg) (RwQ.mono (KZ.wX he 20) λg _ hg=>nr g hg));clear KX KY h hc ha he nr;refine AW.cw 10 (λ_=>d8) (λe w' _ h=>⟨[],cx.mute 9 h.1 Z Z⟩) (λe fj h=>?_);obtain⟨hO,vL,vR,vA,vB,rfl,tL,tR,bu,b8⟩:=h;have KA:=mk1 (KZ.mute 9 hO);refine AW.va 11 (oZ ko 7) ?_;have l8:=(KZ.at_ 0).1;have l9:=(KZ.at_ 15).1;have ct:=Ct (KA.at_ 0) (KA.at_ 15) (by intro h;cases h);have m:=mk1 (KA.two (Y7 (i:=0) Z) (Y7 (i:=15) Z) ct);clear KA KZ cx d8 hO ct;obtain⟨bd,cl,fu,rfl,-,-⟩:=id (tL.vl bj);obtain⟨br,cr,gu,rfl,-,-⟩:=id (tR.vl bj);obtain⟨ba,c5,rfl,-⟩:=id bu;obtain⟨bb,cb,rfl,-⟩:=id b8;have s:=mk1 ((((m.has (pTl _ v2.heap.size t Lb) (Re m tL Z (LH l8 l9))).has (pTl _ v2.heap.size t Rb) (Re m tR Z (LH l8 l9))).has (pqB _ 32 Ab) (lK m bu dC Z)).has (pqB _ 32 Bb) (lK m b8 dC Z));clear m tL tR bu b8 l8 l9;obtain⟨W3,bf⟩:=hE (fj.setCells ko 7 [sZ bd t cl,sZ br t cr,sZ ba 32 c5,sZ bb 32 cb]);have K4:=mk1 (s.upd 1 bf ((s.at_ 1).upd (Zh Z)));refine AW.fi (us:=[sZ bd t cl,sZ br t cr,sZ ba 32 c5,sZ bb 32 cb]) aq (by kernel_rfl) (by kernel_rfl) (λ_=>⟨(s.at_ 1).th2 (Zh Z),?_⟩);rw[bf.out];clear s bf;simp only[rep,ts,qt,uw,ux,ZI,ZQ,Y2,Z2,Zs,Yy,Yz,H.drop_nil]at K4;refine PW.bg [] ?_;refine PM.ro 1 K4 aq ?_;refine PM.st 0 [sZ i0 33 y0,sZ i1 33 y1,sZ i2 33 y2,sZ i3 33 y3,sZ i4 32 y4,sZ i5 32 y5,sZ i6 32 y6,sZ bd t cl,sZ br t cr,sZ ba 32 c5,sZ bb 32 cb] K4 aq λgz M=>?_
     refine PW.en [iZ 0] ?_;obtain rfl:=er;apply Zr;have Kr:=M.at_ 0;refine YB (F6 8 9 (T:=28) Z Kr Z Z uAr iAr) Z ?_;have g1:=M.get 11;have g2:=M.get 12;have g3:=M.get 13;have g4:=M.get 14;have g5:=M.get 17;have g6:=M.get 18;have g7:=M.get 19;have g8:=M.get 21;have g9:=M.get 22;have ga:=M.get 23;have gb:=M.get 24;have G:=Tp (Lb:=Lb) (Rb:=Rb) (p:=⟨A,S,C1,C2,R.tau.val,R.mu.val,R.t.val⟩) bj g1 g2 g3 g4 g5 g6 g7 (g8.1.mono2 λ_ _ _=>trivial) (g9.1.mono2 λ_ _ _=>trivial) (ElQ.mono2 ga λ_ _ _=>trivial) (ElQ.mono2 gb λ_ _ _=>trivial);exact⟨_,Z,M.bl,_,Z,G⟩
end
section
open SPA
structure BoV(v:I)(bl sd:R)(z:Y)(t:I)(BB:H Bs)(c:Y):Prop where
 pr:∀(W:Yp) (v1:Yq) (sq:zb Addr) (sc:I),Arg W v1 bl.data->PartOk W (.slice sq sd.size sc) sd.data.toList->cZ 5 #[U v,v1,iZ z,.slice sq sd.size sc] W (Ret (AnP W t BB c))
 rf:∀W:Yp,cZ 6 #[U v,.string bl,iZ z,.string sd] W (Ret (AnR W t BB c))
 tl:t<=6
section
variable {P:Nat}[NeZero P]{N:Nat}[NeZero N]
def US(C:Fl3 P)(O:Ord N)(b:∀r:EC.Pt P,On r->mul N r=G)(hP:IsP N)(hN:18446744073709551616<=N)(v:I)(hv:v<2^64)(bl f:ByteArray)(z:Y):∃t BB c,BoV v bl f z t BB c:=by
 by_cases hf:∃c,NoP N v bl.data z f.size c
 .let⟨c,hf⟩:=hf
  exact⟨0,_,c,λW v1 sq sc h1 h2=>tB (VP O v hv bl.data z v1 sq f.size sc W h1 hf) λe w' h=>QU h,λW=>tB (Tf O v hv bl f z W hf) λe w' h=>QT h,aw _⟩
 have hz:wdB z=J:=by
  cases h:wdB z
  .exact absurd ⟨2,Y3 ⟨Z,h⟩⟩ hf
  rfl
 have hs:f.size=32:=by
  refine yCZ λh=>hf ⟨2,YZ (Y3 ⟨Z,hz,?_⟩)⟩
  rw[bne_iff_ne];omega
 obtain⟨n,t,rfl,p⟩:=Vb hz;have g:(rq N bl.data).isSome=J:=by
  cases h:(rq N bl.data).isSome
  .exact absurd ⟨3,YZ (YZ ⟨n,t,Z,p,hs,Y3 ⟨Z,h⟩⟩)⟩ hf
  rfl
 have s:v<2^n:=yCZ λh=>hf ⟨7,YZ (YZ ⟨n,t,Z,p,hs,YZ ⟨Z,g,by omega⟩⟩)⟩
 clear hf hz;let⟨k,hk⟩:=zb.isSome_iff_exists.1 g
 have d:bl.data.size=32/\beV bl.data.toList<N/\beV bl.data.toList=k:=by
  have h:=hk;unfold rq at h;split at h
  .next h1=>exact⟨h1.1,h1.2,YR.inj h⟩
  cases h
 have y:k<N:=by rw[<-d.2.2];exact d.2.1
 have h5:bl.data=bx k:=(WN d.1 (Yr y O.le) d.2.2).symm;clear d g;obtain⟨R,V,A,S,C1,C2,L3,L6,L8,rfl,rfl,h0,hL,hS⟩:=Vu C.toFld O b v n ⟨k,y⟩ f.data.toList;obtain rfl:R.k.val=k:=by rw[h0]
 let⟨q,a,i,x,X,Q⟩:=VO (aN L8) R.a R.b (gPt C.toFld ⟨#[108,101,102,116]⟩) (R.hh (aI C.toFld b) (gPt C.toFld ⟨#[114,105,103,104,116]⟩))
 let⟨u,hu⟩:∃u,u=(aI C.toFld b).ac R.w (uPt C.toFld):=⟨_,Z⟩
 let⟨Lb,M⟩:∃Lb:I->Bs,∀j,Lb j=wP ((aI C.toFld b).pLi (chF N) ivF u t q j):=⟨λj=>wP ((aI C.toFld b).pLi (chF N) ivF u t q j),λ_=>rfl⟩
 let⟨Rb,L⟩:∃Rb:I->Bs,∀j,Rb j=wP ((aI C.toFld b).pTi (chF N) ivF u t q j):=⟨λj=>wP ((aI C.toFld b).pTi (chF N) ivF u t q j),λ_=>rfl⟩
 let⟨o,K⟩:∃o,o=bx (((aI C.toFld b).pst (chF N) ivF u t q t).a 0).val:=⟨_,Z⟩
 let⟨m,w⟩:∃m,m=bx (((aI C.toFld b).pst (chF N) ivF u t q t).b 0).val:=⟨_,Z⟩
 let⟨pz,l⟩:=hE (⟨A,S,C1,C2,R.tau.val,R.mu.val,R.t.val⟩:Rp)
 refine⟨t,rgB t pz Lb Rb o m,0,λW v1 sq sc h1 h2=>?_,λW=>?_,p.2.2⟩
 .rw[h5]at h1;rw[hs]at h2⊢;refine tB (VQ C.toFld O b hP R p s hN f.data.toList sq sc V A S C1 C2 L3 L6 L8 hL hS q a i x X Q u hu Lb Rb M L o m K w pz l v1 W h1 h2) λe w' h=>?_
  obtain⟨g,e',B0,rfl,hB,hR⟩:=h;obtain⟨q',ys,zs,T,rfl,h3,h4⟩:=hR.p hB;exact⟨g,q',ys,zs,T,Z,h3,h4⟩
 refine tB (Tg C O b hP R p s hN f bl hs hk V A S C1 C2 L3 L6 L8 hL hS q a i x X Q u hu Lb Rb M L o m K w pz l W) λe w' h=>?_
 obtain⟨g,e',rfl,hR⟩:=h;obtain⟨q',ys,zs,rfl,h3⟩:=hR.p;exact⟨g,q',ys,zs,Z,h3⟩
end
def UR{v:I}(hv:v<2^64)(bl k:R)(z:Y):∃t b c,BoV v bl k z t b c:=by
 let⟨P,d,C⟩:=fl3
 have e:NeZero Go.Proofs.YtdoammpgchejcaaGreat.p1:=⟨dK⟩
 exact US C ⟨XR,VB,dK,dK⟩ (order2 C.toFld) (by rw[MK];exact NT.pN) dK v hv bl k z
end
section
open SPA
def MH(v:I)(hv:v<2^64)(bl d:R)(z:Y)(w:Yp):eZ 3 #[U v,.string bl,iZ z,.string d] w tZ:=by
 have K0:=mk1 (Mp.start w);by_cases h1:(4096:Y)<(bl.size:Y)
 .go_enter func3,ntmps3;go_wp2;go_ret;exact⟨_,Z,YH _ _,Z⟩
 by_cases h2:(4096:Y)<(d.size:Y)
 .go_enter func3,ntmps3;go_wp2;go_ret;exact⟨_,Z,YH _ _,Z⟩
 have d1:=decide_eq_false h1;have d2:=decide_eq_false h2;let⟨t,BB,c,n⟩:=UR hv bl d z
 have n:=mk1 n;let⟨c1,O,K,h0,l,C,j⟩:=xI bl w
 let⟨c2,M,p,L,f,u,h3⟩:=xI d O
 have HP:E (∀W,kZ M W->cZ 5 #[U v,sZ w.heap.size bl.size c1,iZ z,sZ O.heap.size d.size c2] W (Ret (AnP W t BB c))):=λW k=>by
  refine n.pr W _ _ _ (Arg.below ⟨_,_,_,Z,Z,λh=>⟨_,0,Z,by omega,Yr j f.size,?_⟩⟩ k) (PartOk.below ⟨_,O.heap.size,0,c2,d.data,Z,Z,L,?_,YZ ⟨Z,u⟩⟩ k)
  .exact SP.Holds.below C f j
  show d.size<=_;omega
 have b2:=l.trans (f.mono l.size);have y:=mk3 K p (K0.grow b2);let⟨g1,r⟩:=hE w.heap.size
 let⟨g2,s⟩:=hE O.heap.size
 rw[r.out,s.out]at HP;rw[r.out,s.out]at y;clear K p l f C u h0 L j h3 b2 h1 h2 K0;go_enter func3,ntmps3;refine PW.rg [fZ] ?_;refine Yt<|PW.bg [iZ (bl.size:Y),.bool (decide ((4096:Y)<(bl.size:Y)))] ?_
 rw[d1];refine PW.gd ?_;refine PW.go [] ?_;refine PW.gd ?_;refine PW.go [iZ (d.size:Y)] ?_;refine PW.gd ?_;refine PW.go [.bool (decide ((4096:Y)<(d.size:Y)))] ?_;rw[d2];refine PW.en [fZ] ?_;refine YY rfl<|ZK<|PW.bg [] ?_
 refine PW.ns y.1 ?_;refine PW.go [] ?_;refine PW.ns y.2.1 ?_;have Q:=mk1 y.2.2;clear y;refine PM.ca Q (HP M (YH _ _)) λe w3 k hR K3=>?_
 obtain⟨q,ys,zs,T,rfl,hq,hr⟩:=hR;have m:=mk5 hq hr Q.bl k.size K3.bl;have L3:=mk1 (Mp.start w3);clear hq hr k Q K3 HP;refine PW.go [.agg q.cs.toArray,iZ c] ?_;refine PM.al 28 z11 L3 λk9 w4 K4=>?_
 refine PM.st 0 q.cs K4 aq λw5 K5=>?_
 refine PW.en [iZ c] ?_;refine PW.bg [] ?_;refine PM.ca K5 (n.rf w5) λe w6 k hR X=>?_
 obtain⟨V,h5,h4,rfl,a⟩:=hR;have i:=mk3 a (X.at_ 0) X.bl;have L6:=mk1 (Mp.start w6);clear a k L3 K4 K5 X;refine PW.go [.agg V.cs.toArray,iZ c] ?_;refine PM.al 28 z11 L6 λka w7 K7=>?_
 refine PM.st 0 V.cs K7 aq λw8 A=>?_
 refine PW.en [iZ c] ?_;have x:=i.2.2.trans (A.bl.mono i.2.2.size);have HS:=mk1 (((m.1.below x).same (i.1.below A.bl) n.tl).mono (by
  rintro e W ⟨rfl,k⟩;exact⟨_,Z,k,Z⟩):eZ 7 #[.agg q.cs.toArray,.agg V.cs.toArray] w8 tZ)
 clear x;refine PW.bg [] ?_;refine PW.ro (i.2.1.below A.bl).2.1 aq uAr iAr ?_;refine PM.ro 0 A aq ?_;refine PM.gi A HS λP K9=>?_
 refine PW.en [tZ] ?_;clear HS;have b:=i.2.2.trans (K9.bl.mono i.2.2.size);have N:=m.1.below b;have ht:=n.tl;have HA:=mk1 ((Ou q.a q.b q.c q.d q.e q.f q.g q.l q.r q.x q.y P N.vl N.vr (by rw[N.nl];omega) (by rw[N.nr];omega)).mono (by
  rintro e W ⟨v,rfl,h⟩;exact⟨v,Z,h⟩):cZ 9 #[.agg q.cs.toArray] P (Ret λe W=>GLs P W e (q.all ys zs)))
 have o:=mk4 (m.2.1.below b) m.2.2.1 (qh ht (YA m.2.2.2.1 b.size)) (m.2.2.2.2.trans (b.mono m.2.2.2.2.size));refine PW.bg [] ?_;refine PW.ro (i.2.1.below K9.bl).2.1 aq uAr iAr ?_;refine PW.ca HA λe wa hG=>?_
 obtain⟨g,c',rfl,-⟩:=hG.lt;rw[o.1.len]at hG⊢;have HC:=mk1 ((QS o.1 (by omega) o.2.2.1.2 hG).mono (by
  rintro e W ⟨rfl,k⟩;exact⟨_,Z,k,Z⟩):cZ 8 #[sZ g (t+t+9) c'] wa (Ret λe W=>Below M.heap.size wa W/\e=tZ))
 have B9:=o.2.2.2.trans (hG.bl.mono o.2.2.2.size);refine PW.ca HC ?_;rintro e wb ⟨k,rfl⟩;refine PW.en [tZ] ?_;refine PW.bg [] ?_;refine PW.gd ?_;refine PW.go [tZ] ?_;refine PW.gd ?_;refine PW.go [] ?_;refine PW.gd ?_;refine PW.go [] ?_;refine PW.gd ?_;refine PW.go [.bool (c == c)] ?_;rw[beq_self_eq_true];refine PW.en [tZ,tZ] ?_;go_wp2;go_ret;exact⟨_,Z,B9.trans (k.mono o.2.1.size),Z⟩
def Gn{x z:Y}{bl k:R}(b:0<=x)(hx:x<2^64):
 cZ 3 #[U x,.string bl,iZ z,.string k] w λe w'=>e=.returned tZ/\kZ w w':=by
 obtain⟨n,rfl⟩:=Y.eq_ofNat_of_zero_le b;apply(MH n (by omega) bl k z w).mono;rintro e w' ⟨v,rfl,h,rfl⟩;exact⟨Z,h⟩
end
/-
  THE ROW OF 'SpanProves' round its walk; the frame by the guide's program (howto/shells), the world behind the call told by 'Below'.
-/
namespace spanProves
open Go.ChangeShapes Go.WideShapes Go.ChangeAt
open Go.ChangeMaps (open_string shut_string)
def own:ownKnob prog.godebug=G:=by kernel_rfl
theorem lifted(o:Os)(c:o.Started)(H:Type)(enc:YW × Yq->H):
 ReturnsInHanded {} Tryz.checked o 3 .any (Rows.spanProvesSpec.pre6 enc prog Tryz.f3 Rows.spanProvesRow.domain D) (Rows.spanProvesSpec.post enc prog Tryz.f3 D J D D):=by
 refine returnsInHanded_of_change (C:=Tryz.checked) own c (by kernel_rfl) func3
  (ChangeSpec.witness6 (enc:=enc) (C:=Tryz.checked) D ⟨#[],#[U 0,.string yDW,iZ 0,.string yDW],[]⟩ 8 (by kernel_rfl) (by kernel_rfl) (by kernel_rfl) (by kernel_rfl)) ?_
 intro W base args A gs f b r l _;have k:∀(j:I) t v,Tryz.f3.params[j]? = F t->args[j]? = F v->Value.okWide prog W .any base t v:=b;have g:=r;obtain⟨p,q,d,hV,rfl,x,h4⟩:=r;have m:DataW.TrodAll enc prog W 0 (λ_=>J) J Tryz.f3.params.toList args.toList A p:=d;rw[params3]at m k;obtain⟨v0,Q,d0,u,p0,q0,i,rfl,rfl,w,V⟩:=trodAll_cons m;obtain⟨v1,y,d1,h5,p1,q1,rfl,rfl,rfl,h1,r1⟩:=trodAll_cons V;obtain⟨v2,P,d2,M,p2,q2,rfl,rfl,rfl,h2,r2⟩:=trodAll_cons r1;obtain⟨s,T,d3,N,p3,q3,rfl,rfl,rfl,X,r3⟩:=trodAll_cons r2;obtain⟨rfl,rfl,rfl⟩:=trodAll_nil r3;obtain rfl:args=#[v0,v1,v2,s]:=by cases args;simp_all
 obtain⟨rfl,rfl⟩:=trodVars_none hV;obtain⟨a0,rfl,rfl,rfl,n⟩:=open_int underlying22 (k 0 22 v0 Z Z) w;obtain⟨a,rfl,rfl,rfl,O⟩:=open_string underlying9 (k 1 9 v1 Z Z) h1;obtain⟨K,rfl,rfl,rfl,z⟩:=open_int underlying3 (k 2 3 v2 Z Z) h2;obtain⟨a3,rfl,rfl,rfl,w3⟩:=open_string underlying9 (k 3 9 s Z Z) X;clear d b;have hx:0<=a0/\a0<2^64:=by
  have h:=n;have e:Zk.min=0:=by decide
  have e':Zk.max=18446744073709551615:=by decide
  simp[Lit.wf,e,e']at h;omega
 refine(Gn hx.1 hx.2).mono λe W' ⟨L,bel⟩=>?_
 subst L;exact⟨_,Z,_,_,_,[],_,[],g,yCv (shut_bool underlying4 _) trodAll_mk0,yCv (shut_int underlying22 n) (yCv (shut_string underlying9 O) (yCv (shut_int underlying3 z) (yCv (shut_string underlying9 w3) trodAll_mk0))),Z,bel.frame _,λh=>by cases h⟩
def over:Rows.spanProvesRow.holds Tryz.pinned (OpenSpec.ofChange Rows.spanProvesSpec):=
 OpenClaim.holds_of_wide 3 Tryz.f3 Z Z Z Z Z Z Z ⟨Z,Z,Z,Z,Z⟩ Z Z Z Z Z (by kernel_rfl) func3 (by kernel_rfl)
  (of_decide_eq_true (by kernel_rfl)) (by unfold Func.isWrapper;first|(rw[zd (by decide +kernel)];kernel_rfl)|(rw[zi (by decide +kernel)];exact⟨Z,Z⟩))
  (λb k H enc _=>lifted b k H enc)
def proved:Rows.SpanProvesSaid:=
 over
end spanProves
section
theorem spanProves_holds:Rows.SpanProvesSaid:=spanProves.proved
#print axioms spanProves_holds
end
end Go.Proofs.YtdoammpgchejcaaGreat
