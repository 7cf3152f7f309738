import Derived.Deep.DeepCutAuto
import Derived.Deep.Upon
import Derived.Maps.AppendAt
import Derived.Test.YtlofhpkoaljmeaaGreatat6
set_option linter.unusedVariables false
set_option linter.defProp false
set_option linter.constructorNameAsVariable false
set_option linter.unusedSimpArgs false
set_option maxRecDepth 1000000
set_option maxHeartbeats 4000000
namespace Go.Proofs.YtlofhpkoaljmeaaGreat
open EC NT RG SP
open _root_.And renaming intro->Y0
open _root_.Array renaming any_eq_true'->yAF,getD_eq_getD_getElem?->XU,getElem?_eq_getElem->Ye,getElem?_eq_some_iff->X9,getElem?_push_size->yAr,length_toList->X0,size->ZA,size_append->Ys,toList_inj->yDN
open _root_.Bool renaming and_eq_true->XZ,and_true->yDd,false_eq_true->yDE,false_or->yCZ,not_eq_true'->yDM,not_true->yEo,or_eq_true->yAc
open _root_.Go renaming Addr->Y4,Calls->ZI,FuncId->ZZ,Oper->Yw,Program->YO,Tmp->ZC,TypeId->Yj,Value->XG,World->XF,bodyPost_ret->XR,execOp->Ym,undef->ZB,wpList_load_mid->YG,wpList_plain->ZT,wpList_store_mid->Yi,wp_block->Zk,wp_cond_false->Yh,wp_cond_true->YH,wp_exit->yBt,wp_ret->Zj,wp_seq->XL,wp_skip->Y2
open _root_.Go.Act renaming put->Yo
open _root_.Go.Builtin renaming append_->YK
open _root_.Go.ByteArray renaming toList_eq->yCY
open _root_.Go.Code renaming region->Zg
open _root_.Go.Instr renaming box->Yu,buildSlice->YF,indexAt->YV,sliceAt->ZH
open _root_.Go.IntKind renaming i64->Yt,u32->yCX,u64->Yy,wrap_i64->Zo,wrap_u64->ZX
open _root_.Go.Lib renaming wpList_append_run->yAs
open _root_.Go.Next renaming value->ZW
open _root_.Go.Oper renaming upon_enter->ZU,wp->Y8
open _root_.Go.Region renaming binds->Y3,noSelect->yAC,ready->Yq,wanted->Zd
open _root_.Go.RowKit.Below renaming refl->XX
open _root_.Go.Sem renaming run_bind->X6
open _root_.Go.Value renaming agg->Yg,int->Y1,ownBlock->Zm
open _root_.Go.World renaming cell?->YY,cell?_of_block->Yb,cell?_setCell_other->Yc,cell?_setCell_same->Zf,frozen?->Zt,size_alloc->XS,size_setCell->yAY
open _root_.List renaming all_cons->yCT,all_eq_true->Yv,all_nil->yDb,all_toArray->yAR,append_assoc->YU,cons->yEf,drop->Z5,eq_replicate_iff->yDg,getElem?_append_left->X1,getElem?_append_right->X4,getElem?_cons_succ->Yl,getElem?_cons_zero->Yn,getElem?_eq_getElem->XV,getElem?_eq_none->ZR,getElem?_eq_some_iff->XT,getElem?_map->YC,getElem?_range->yBw,getElem?_toArray->Yp,getElem_map->yAj,length_append->XP,length_cons->YA,length_map->X7,length_nil->ZD,map_append->Y5,map_cons->yAg,map_nil->yCx,mem_append->Zh,mem_cons->Zc,mem_map->YD,mem_of_getElem?->YZ,mem_range->Y9,mem_singleton->Ze,nil_append->Z1,nodup_append->yBO,not_mem_nil->Yf,range->YB,replicate->YR,setIfInBounds_toArray->XJ,set_cons_succ->XM,set_cons_zero->XO,sum_append->yD0,sum_cons->yEl,take->Z4,take_add_one->yCu
open _root_.Nat renaming add_assoc->ZL,le_of_ble_eq_true->YM,le_refl->XH,le_trans->XN,lt_of_lt_of_le->XI,lt_or_ge->Zx,mod_eq_of_lt->Ya,mod_lt->Zi,mul_one->yAe,one_mul->Z6,pow_le_pow_right->Zb,pow_pos->yAJ,pow_succ->Zr,reduceAdd->YQ,sub_self->yBm,zero_add->XQ,zero_le->Zq
open _root_.Option renaming getD_some->yDz,isSome_iff_exists->YP,map_eq_some_iff->XK,map_some->yAy,some->X5
open _root_.Or renaming inl->Yk,inr->Yd
open _root_.Prod renaming mk->Zl
open Go.Proofs.Tryz
open Go.RowKit Go.Sort Go.Deep
section
open SPA
variable {P:Nat}[NeZero P]{N:Nat}[NeZero N]
def QR(r k g:Nat):Prop:=g≠r/\(g<k\/k+3<=g)
structure Lk(w W:XF)(r k kl kr t a b n:Nat)(v sv:XG)(Lb Rb:Nat->Bs)(L:Bs)(G H:Nat->LB)(U l:LB):Prop where
 on:SP.Only r 0 32 w W
 rk:r<k
 wk:w.heap.size=k
 r0:Row W k (inL kl kr t a b)
 r1:Row W (k+1) [jZ r]
 r2:∃e:Array XG,v=.agg e/\e.size=3/\e.all (·.oneCell')=true/\Row W (k+2) e.toList
 pl:PtL (QR r k) W kl t Lb
 pr:PtL (QR r k) W kr t Rb
 gr:GRq (QR r k) W v n G H U
 sm:SmQ (QR r k) W sv l
 lg:hZ W r 0 L
 ls:L.size=32
section
variable {w W W':XF}{r k kl kr t a b n:Nat}{v sv:XG}{Lb Rb:Nat->Bs}{L:Bs}{G H:Nat->List (Nat × Bs)}{U l:List (Nat × Bs)}
def Lk.any{c:Bs}(h:Lk w W r k kl kr t a b n v sv Lb Rb L G H U l)(o:SP.Only r 0 32 w W')(kq:Kq (QR r k) W W')(d:∀g,k<=g->g<k+3->W'.heap[g]? = W.heap[g]?)(i:hZ W' r 0 c)(f:c.size=32):Lk w W' r k kl kr t a b n v sv Lb Rb c G H U l:=by
 obtain⟨e,m,j,e3,p⟩:=h.r2;exact⟨o,h.rk,h.wk,aS h.r0 kq.size (d k oM oM),aS h.r1 kq.size (d _ oM oM),⟨e,m,j,e3,aS p kq.size (d _ oM oM)⟩,h.pl.keep kq,h.pr.keep kq,h.gr.keep kq,h.sm.keep kq,i,f⟩
def Lk.big(h:Lk w W r k kl kr t a b n v sv Lb Rb L G H U l):k+3<=W.heap.size:=by
 obtain⟨e,-,-,-,c⟩:=h.r2;exact c.1
def Lk.grow(h:Lk w W r k kl kr t a b n v sv Lb Rb L G H U l)(c:kZ W W'):Lk w W' r k kl kr t a b n v sv Lb Rb L G H U l:=by
 have d:=Holds.lt h.lg (by rw[h.ls];decide);exact h.any (h.on.trans (SP.Only.of_below c rfl d)) (Kq.of_below c) (λg e f=>c.block g (oN h.big)) (Holds.below h.lg c d) h.ls
def Lk.drew(h:Lk w W r k kl kr t a b n v sv Lb Rb L G H U l):Lk w W.drew r k kl kr t a b n v sv Lb Rb L G H U l:=h.grow ⟨rfl,rfl,rfl,XH _,λ_ _=>rfl⟩
def Lk.say{c:Bs}(h:Lk w W r k kl kr t a b n v sv Lb Rb L G H U l)(d:SP.Only r 0 32 W W')(e:hZ W' r 0 c)(j:c.size=32):Lk w W' r k kl kr t a b n v sv Lb Rb c G H U l:=by
 have i:=h.rk;exact h.any (h.on.trans d) (Kq.of_only d λg f=>f.1) (λg o m=>d.block g (oN h.big) oM) e j
def Lk.qn(h:Lk w W r k kl kr t a b n v sv Lb Rb L G H U l):∀g,W.heap.size<=g->QR r k g:=λg c=>⟨by have:=h.rk;have:=h.big;omega,Yd (oN h.big)⟩
def Lk.hide{c:XG}{l':LB}(h:Lk w W r k kl kr t a b n v sv Lb Rb L G H U l)(d:SmQ (QR r k) W c l'):Lk w W r k kl kr t a b n v c Lb Rb L G H U l':=⟨h.on,h.rk,h.wk,h.r0,h.r1,h.r2,h.pl,h.pr,h.gr,d,h.lg,h.ls⟩
def Lk.next{f:Nat}{e:Array XG}{m j:Nat->LB}(h:Lk w W r k kl kr t a b n v sv Lb Rb L G H U l)(o:GRq (QR r k) W (.agg e) f m j U)(i:e.size=3)(p:e.all (·.oneCell')=true):Lk w (W.setCells (k+2) 0 e.toList) r k kl kr t a b f (.agg e) sv Lb Rb L m j U l:=by
 have c:∀g,g≠k+2->(W.setCells (k+2) 0 e.toList).heap[g]? = W.heap[g]?:=λg u=>aE _ 0 W g u
 have d:W.heap.size<=(W.setCells (k+2) 0 e.toList).heap.size:=by rw[setCells_size];exact XH _
 have kq:Kq (QR r k) W (W.setCells (k+2) 0 e.toList):=⟨d,λg q _=>c g (oN q.2)⟩
 have y:=h.rk;obtain⟨z,-,x,-,s⟩:=h.r2;exact⟨jQ h.on h.wk h.rk oM,h.rk,h.wk,aS h.r0 d (c k oM),aS h.r1 d (c _ oM),⟨e,rfl,i,p,s.put (by rw[X0,X0,i,x])⟩,h.pl.keep kq,h.pr.keep kq,o.keep kq,h.sm.keep kq,jX h.lg (c r oM),h.ls⟩
end
def VD{c k t a b:Nat}{w:XF}:(Yu 252 (.agg (inL c k t a b).toArray)).run prog w=.ok (jZ w.heap.size) (w.alloc (.cells (inL c k t a b).toArray 252)):=kR
def uPL:wZ 83:=wQ
def Gc{Q:Nat->Prop}{W:XF}{g n:Nat}{p:Bs}(k:Row W g (wn n++aA p))(b:Q g):SmQ Q W (sZ g 1 1) [(n,p)]:=by
 have e:aR [(n,p)]=wn n++aA p:=by unfold aR;simp
 refine⟨g,1,rfl,XH _,b,k.1,?_⟩;rw[e];exact k.2.1
def ES{k:YO}{o:Yw}{ev:Operand->XG}{I:Sem XG}{v:XG}{w:XF}(h:I.run k w=.ok v w)(b:Ym ev o=I >>= λv=>pure (ZW v):=by kernel_rfl):(Ym ev o).run k w=.ok (.value v) w:=by
 rw[b,X6,h];rfl
def Lk.rd{w W W':XF}{r k d e t a b n:Nat}{v o:XG}{j Rb:Nat->Bs}{L:Bs}{G H:Nat->LB}{U l:LB}(h:Lk w W r k d e t a b n v o j Rb L G H U l)(c:SP.Only r 0 32 W W'){i:Nat}(f:i<t):
 W'.rangeAt (k+1) 0 [jZ r]/\W'.cell? ⟨k,0,none⟩=some (sZ d t t)/\W'.cell? ⟨k,1,none⟩=some (sZ e t t)/\W'.rangeAt d (0+33*i) (aA (j i))/\W'.rangeAt e (0+33*i) (aA (Rb i)):=by
 have p:=h.rk;have kq:Kq (QR r k) W W':=Kq.of_only c λg m=>m.1
 rw[XQ];exact⟨(h.r1.only c oM).2.1,(h.r0.only c oM).2.1 0 _ rfl,(h.r0.only c oM).2.1 1 _ rfl,((h.pl.keep kq) i f).2.2,((h.pr.keep kq) i f).2.2⟩
def UG(h:1<N):(-1:Fin N).val=sMi N 0 1:=by
 have b:(1:Fin N).val=1:=by
  show 1%N=1;exact Ya h
 have k:(-1:Fin N).val=(N-(1:Fin N).val)%N:=Fin.val_neg' _;rw[k,b];unfold sMi;rw[XQ]
omit [NeZero N] in
theorem Nh(C:Fld P){X:EC.Pt P}(c:On X):wr X=o33↔X=none:=by
 rw[<-Ni (P:=P)];refine⟨λh=>?_,λh=>by rw[h]⟩;obtain⟨p,k,e⟩:=yF C c;obtain⟨q,d,b⟩:=yF C (jD (P:=P));rw[h,d]at k;injection k with k
 rw[<-e,<-b,k]
def U9(C:Fld P)(O:Ord N)(k:∀r:EC.Pt P,On r->mul N r=none)(D:IsP N){Q:Nat->Prop}{c:Nat}{G H:Nat->LB}{U l:LB}{g h:Nat->OnP P}{u p:OnP P}(J:0<c)(I:c<=64)(hG:Gd N 1 c G g)(y:Gd N 1 c H h)(z:Tl N U u)(K:0<U.length)(F:U.length<=16)(w:Tl N l p)(A:l.length<=200)(a b:Fin N):
 ∃l' f Y,Y.size=33/\(Y=o33↔p=(aD C k).ad ((aD C k).ad ((aD C k).ac a (g 0)) ((aD C k).ac b (h 0))) ((aD C k).ac (a*b) u))/\(∀(W:XF) (v va n:XG),GRq Q W v 1 G H U->SLq Q W va 1 (λ_=>a.val)->SLq Q W n 1 (λ_=>b.val)->cZ 143 #[v,va,n] W (rZ W λe w'=>Sm W.heap.size w' e l')) /\
  (∀(W:XF) (s m:XG),Sm 0 W s l'->Sm 0 W m l->cZ 197 #[s,m] W (rZ W λe w'=>Sm W.heap.size w' e f)) /\
  (∀(W:XF) (v:XG),Sm 0 W v f->cZ 33 #[v] W (rZ W λe w'=>e=pvl Y)):=by
 have B:=uH (by decide:0<1) J oM hG y z K F;obtain⟨o,f⟩:=Lr C k hG y z (d:=U.length) rfl (λ_=>a) (λ_=>b);rw[<-kP]at o f;have j:=o.app C k (w.tm C k (-1));rw[UG D.1]at j;have x:=(aD C k).QV ((aD C k).hd (λ_=>a) (λ_=>b) g h u 1) p;rw[(aD C k).Lu (λ_=>a) (λ_=>b) g h u]at x j;refine⟨_,_,_,aL _,(Nh C (Subtype.property _)).trans ((Subtype.ext_iff (a2:=(aD C k).zo)).symm.trans x),λW v va n q t E=>GR O 1 c G H U B _ _ (λi _=>a.isLt) (λi _=>b.isLt) v va n W q t E,λW s m q t=>xX O 0 s m _ l (by rw[f];omega) (by rw[f];omega) oM o.ok.sz w.ok.sz w.ok.lt W (Zq _) q t,λW v hv=>?_⟩;exact j.point C O k (by rw[XP,f];omega) (by rw[XP,X7,f];omega) hv
def LU{w:XF}{a b:Bs}(c:a.size=33)(k:b.size=33):(binOp .eql 51 (pvl a) (pvl b)).run prog w=.ok (.bool (decide (a=b))) w:=by
 have d:(binOp .eql 51 (pvl a) (pvl b)).run prog w=(Op.equal 51 (pvl a) (pvl b) >>= λb=>pure (Value.bool b)).run prog w:=rfl;rw[d,X6,show(Op.equal 51 (pvl a) (pvl b)).run prog w=.ok (decide (a=b)) w from Ve c k w];rfl
def Vy{n:Nat}{w:XF}:(YF 143 1 #[(0,nv n)]).run prog w=.ok (sZ w.heap.size 1 1) (w.alloc (.cells (wn n).toArray 44)):=kR
def Uc{Q:Nat->Prop}{W:XF}{g n:Nat}(k:Row W g (wn n))(b:Q g):SLq Q W (sZ g 1 1) 1 (λ_=>n):=⟨g,0,1,rfl,XH _,b,k.1,λj c=>by
 have:j=0:=oM;subst this;exact k.2.1⟩
def N4(C:Fld P)(O:Ord N)(f:∀r:EC.Pt P,On r->mul N r=none)(hP:IsP N)(t:Nat)(ht:t<=6)(E A:Nat->OnP P)(v0:Md.Vs Bs (OnP P))(u:OnP P)(G0 H0:Nat->LB)(U l0:LB)(d6:Gd N (2^t) 1 G0 v0.g)(d0:Gd N (2^t) 1 H0 v0.h)(hU:Tl N U u)(cy:0<U.length)(dz:U.length<=16)(b4:Tl N l0 v0.p)(bt:0<l0.length/\l0.length<=150)
 (q Rb:Nat->Bs) (ct:∀j,q j=wP (E j)) (ds:∀j,Rb j=wP (A j)) (r D B:Nat) (a b:Fin N) (n sv:XG) (w:XF) (hL:hZ w r 0 v0.s) (cp:v0.s.size=32) (J:PtL (·≠r) w D t q) (o:PtL (·≠r) w B t Rb) (hv:GRq (·≠r) w n (2^t) G0 H0 U) (T:SmQ (·≠r) w sv l0) (Bd:Bool) (dk:Bd=true↔(aD C f).Nn u a b ((aD C f).vst (chF N) ivF t E A v0 t)) :
 cZ 163 #[.agg (inL D B t a.val b.val).toArray,lgV r,n,sv] w (Ret λe w'=>SP.Only r 0 32 w w'/\e=.bool Bd):=by
 have hr:=Holds.lt hL (by rw[cp];decide);obtain⟨k,hk⟩:=hE (w.heap.size);obtain⟨e0,dd,de,dy⟩:=hv.ar;subst dd;obtain⟨w1,k1⟩:=hE (lZ w (inL D B t a.val b.val) 252);obtain⟨w2,k7⟩:=hE (w1.alloc (.cells #[jZ r] 159));obtain⟨w3,kg⟩:=yH (w2.alloc (.cells e0 150));have z1:w1.heap.size=k+1:=by rw[<-k1.out,XS,hk.out]
 have z2:w2.heap.size=k+2:=by rw[<-k7.out,XS,z1]
 have cu:r<k:=hk.out▸hr;have K3:Hid (Lk w w3 r k D B t a.val b.val (2^t) (.agg e0) sv q Rb v0.s G0 H0 U l0):=by
  have b1:kZ w w1:=k1.out▸aC _;have b2:kZ w1 w2:=k7.out▸aC _;have G:kZ w2 w3:=kg.out▸aC _;have r1:Row w1 k (inL D B t a.val b.val):=k1.out▸hk.out▸row_new w _ _;have r2:Row w2 (k+1) [jZ r]:=by rw[<-k7.out,<-z1];exact row_new w1 _ _
  have R:Row w3 (k+2) e0.toList:=by rw[<-kg.out,<-z2];exact row_new w2 e0.toList 150
  have bb:kZ w w3:=(b1.trans (b2.mono b1.size)).trans (G.mono (XN b1.size b2.size));have n:∀g,g<w.heap.size->g≠r->QR r k g:=λg hg K=>⟨K,Yk (hk.out▸hg)⟩
  have kq:∀ {Q:Nat->Prop},Kq Q w w3:=Kq.of_below bb;have H:SmQ (QR r k) w sv l0:=by
   obtain⟨g,c,h1,h2,M,L,S⟩:=T;exact⟨g,c,h1,h2,n g L M,L,S⟩
  exact⟨SP.Only.of_below bb rfl hr,cu,hk,(r1.below b2).below G,r2.below G,⟨e0,rfl,de,dy,R⟩,(J.mono2 n).keep kq,(o.mono2 n).keep kq,(hv.mono2 n).keep kq,H.keep kq,Holds.below hL bb hr,cp⟩
 obtain⟨vI,hvI⟩:=hE (Yg (inL D B t a.val b.val).toArray);obtain⟨vl,cd⟩:=hE (lgV r);obtain⟨vG,ci⟩:=hE (Yg e0);have B1:Hid ((Yu 252 vI).run prog w=.ok (jZ k) w1):=hvI.out▸k1.out▸hk.out▸VD;have B2:Hid ((Yu 159 vl).run prog w1=.ok (jZ (k+1)) w2):=by rw[<-cd.out,<-k7.out,<-z1];exact Po
 have B3:Hid ((Yu 150 vG).run prog w2=.ok (jZ (k+2)) w3):=by
  obtain⟨o,a2,H,G⟩:∃a b c,e0=#[a,b,c]:=by
   obtain⟨x1,x2,n,e,-⟩:=hv.ex;injection e with e
   exact⟨x1,x2,n,e⟩
  rw[<-ci.out,<-kg.out,<-z2,G];exact DF
 have K4:Hid (∃v G H l,Gd N (2^(t-0)) (2^0) G ((aD C f).vst (chF N) ivF t E A v0 0).g/\Gd N (2^(t-0)) (2^0) H ((aD C f).vst (chF N) ivF t E A v0 0).h/\Tl N l ((aD C f).vst (chF N) ivF t E A v0 0).p/\l.length=l0.length+2*0/\Lk w w3 r k D B t a.val b.val (2^(t-0)) v sv q Rb ((aD C f).vst (chF N) ivF t E A v0 0).s G H U l):=⟨_,G0,H0,l0,d6,d0,b4,rfl,K3⟩
 have L:Hid ((∀j,q j=wP (E j))/\∀j,Rb j=wP (A j)):=⟨ct,ds⟩
 have K:=mk7 C O hP hU cy dz ht;have kv:=Hid.mk' bt;clear bt;have cf:=Hid.mk' dk;have c0:=K3.r0.2.1 0 _ rfl;rw[hvI.out,cd.out,ci.out];go_enter func163,ntmps163;go_wp2_with (first|(refine aG (u:=vI) (v:=jZ k) (w':=w1) rfl 252 (.tmp 0) rfl ?_ ?_ ?_;rfl;exact B1)|(refine aG (u:=vl) (v:=jZ (k+1)) (w':=w2) rfl 159 (.tmp 1) rfl ?_ ?_ ?_;rfl;exact B2)|(refine aG (u:=vG) (v:=jZ (k+2)) (w':=w3) rfl 150 (.tmp 2) rfl ?_ ?_ ?_;rfl;exact B3)|fail)
 go_loopg [3,16] t (λm s3 s16 W=>∃i:Nat,i+m=t/\s16=iZ i/\Hid (∃v G H l,Gd N (2^(t-i)) (2^i) G ((aD C f).vst (chF N) ivF t E A v0 i).g/\Gd N (2^(t-i)) (2^i) H ((aD C f).vst (chF N) ivF t E A v0 i).h/\Tl N l ((aD C f).vst (chF N) ivF t E A v0 i).p/\l.length=l0.length+2*i/\Lk w W r k D B t a.val b.val (2^(t-i)) v s3 q Rb ((aD C f).vst (chF N) ivF t E A v0 i).s G H U l))
 case atStart=>exact⟨0,oM,rfl,K4⟩
 case round =>
  obtain⟨i,e5,rfl,KM⟩:=hrel;by_cases hi:i<t
  .have cq:(i:Int)<(t:Int):=oM;obtain⟨v,G,H,l,hG,hH,hl,ku,hR⟩:=KM;have HI:=Hid.mk' hi;obtain⟨m,hm⟩:∃m,m=2^(t-(i+1)):=⟨_,rfl⟩
   have kx:2^(t-i)=m+m:=by rw[hm,show t-i=t-(i+1)+1 by omega,Zr];omega
   have c4:0<m:=by rw[hm];exact yAJ dC
   obtain⟨c,hc⟩:∃c,c=2^i:=⟨_,rfl⟩
   have k4:0<c:=by rw[hc];exact yAJ dC
   have c9:c*(m+m)<=64:=by
    rw[<-kx,hc,<-Nat.pow_add,show i+(t-i)=t by omega];exact XN (Zb dC K.2.2.2.2.2.2) dC
   have HE:Hid (2^(t-(i+1))=m/\2^(i+1)=c+c):=⟨hm.symm,by rw[Zr,hc];omega⟩
   rw[kx,<-hc]at hG hH;rw[kx]at hR;have dl:=λ(s:Bs) (x:Fin N)=>Jq C f K.2.2.1 v0 hm
   obtain⟨sx,n,km,k2⟩:=Ml K.2.1 K.2.2.1 r ((aD C f).vst (chF N) ivF t E A v0 i).s (L.1 i) (L.2 i);have bf:=dl sx n km.1;have HS:=Hid.mk' bf;have dw:(q i).size=33:=by rw[L.1 i];exact aL _
   have db:(Rb i).size=33:=by rw[L.2 i];exact aL _
   have hw:=Hid.mk' (Y0 dw db);generalize dq:(aD C f).vst (chF N) ivF t E A v0 i=Vi at hG hH hl hR km k2 HS;have HG:=Hid.mk' (Y0 hG (Y0 hH (Y0 hl (Y0 ku (Y0 c4 (Y0 k4 c9))))));clear hG hH hl ku c4 k4 c9 dq;have HR:=Hid.mk' hR;clear hR;go_wp2_with fail
   have R0:=HR.drew;have h0:=λ(W:XF) (hO:SP.Only r 0 32 wr.drew W)=>R0.rd hO HI
   have O0:SP.Only r 0 32 wr.drew wr.drew:=SP.Only.of_below (XX _ _) rfl (Holds.lt R0.lg (by rw[R0.ls];decide));obtain⟨dL,c7,bq⟩:=XK.1 uLg;obtain⟨dP,k9,kd⟩:=XK.1 uCP;have co:(prog.info? 51).map (·.size)=some (aA (q i)).length:=by rw[aB hw.1];exact iCP
   have bh:(prog.info? 51).map (·.size)=some (aA (Rb i)).length:=by rw[aB hw.2];exact iCP
   refine anyS.begin (λ_ W=>SP.Only r 0 32 wr.drew W) kR ?_;have bS:∀(p:Nat),Bef (λ_ W=>SP.Only r 0 32 wr.drew W) p wr.drew:=λp=>⟨#[],by simp,O0⟩
   refine anyS.row (i:=0) (d:=some 19) (cs:=[jZ r]) rfl 13 (λ_ _ h=>h) 159 5 (k+1) 0 dL rfl c7 bq iLg (λW ⟨l,e,h⟩=>(h0 W h).1) (bS 13) O0 ?_;simp only[Yo,XJ,XM,XO];refine anyS.val (i:=1) (d:=some 20) (x:=jZ k) rfl 13 (λ_ _ h=>h) (bS 13) O0 ?_;simp only[Yo,XJ,XM,XO];refine anyS.cel (i:=2) (d:=some 21) (x:=sZ D t t) rfl 13 (λ_ _ h=>h) 83 20 k 0 rfl uPL (λW ⟨l,e,h⟩=>(h0 W h).2.1) (bS 13) O0 ?_;simp only[Yo,XJ,XM,XO];refine anyS.val (i:=3) (d:=some 22) (x:=iZ i) rfl 13 (λ_ _ h=>h) (bS 13) O0 ?_;simp only[Yo,XJ,XM,XO];refine anyS.val (i:=4) (d:=some 23) (x:=oZ D (0+33*i)) rfl 13 (λ_ _ h=>h) (bS 13) O0 ?_ (λW=>ES (I:=YV 83 (sZ D t t) (iZ i)) (atP HI W));simp only[Yo,XJ,XM,XO];refine anyS.row (i:=5) (d:=some 24) (cs:=aA (q i)) rfl 13 (λ_ _ h=>h) 51 23 D (0+33*i) dP rfl k9 kd co (λW ⟨l,e,h⟩=>(h0 W h).2.2.2.1) (bS 13) O0 ?_;simp only[Yo,XJ,XM,XO];refine anyS.val (i:=6) (d:=some 25) (x:=oZ k 1) rfl 13 (λ_ _ h=>h) (bS 13) O0 ?_;simp only[Yo,XJ,XM,XO];refine anyS.cel (i:=7) (d:=some 26) (x:=sZ B t t) rfl 13 (λ_ _ h=>h) 83 25 k 1 rfl uPL (λW ⟨l,e,h⟩=>(h0 W h).2.2.1) (bS 13) O0 ?_;refine anyS.val (i:=8) (d:=some 27) (x:=iZ i) rfl 13 (λ_ _ h=>h) (bS 13) O0 ?_;refine anyS.val (i:=9) (d:=some 28) (x:=oZ B (0+33*i)) rfl 13 (λ_ _ h=>h) (bS 13) O0 ?_ (λW=>ES (I:=YV 83 (sZ B t t) (iZ i)) (atP HI W));refine anyS.row (i:=10) (d:=some 29) (cs:=aA (Rb i)) rfl 13 (λ_ _ h=>h) 51 28 B (0+33*i) dP rfl k9 kd bh (λW ⟨l,e,h⟩=>(h0 W h).2.2.2.2) (bS 13) O0 ?_;have h6:r<wr.drew.heap.size:=Holds.lt R0.lg (by rw[R0.ls];decide);have bA:=aC (w:=wr.drew) (.cells #[uZ 0,uZ 0,uZ 0,uZ 0] 44);have oA:SP.Only r 0 32 wr.drew (wr.drew.alloc (.cells #[uZ 0,uZ 0,uZ 0,uZ 0] 44)):=SP.Only.of_below bA rfl h6;refine anyS.calal (i:=11) (j:=12) (di:=30) (dj:=10) (obj:=.cells #[uZ 0,uZ 0,uZ 0,uZ 0] 44) (F:=λv b W'=>v=nv n.val/\SP.Only r 0 32 wr.drew W'/\hZ W' r 0 sx/\wr.drew.heap.size<=b/\Row W' b [uZ 0,uZ 0,uZ 0,uZ 0]) rfl rfl (k2 wr.drew R0.lg R0.ls) (k2 _ (Holds.below R0.lg bA h6) R0.ls) oA ?_ ?_ (by intro _ _;kernel_rfl) ?_
   .rintro v W' ⟨hO,hH,rfl⟩;have bb:=aC (w:=W') (.cells #[uZ 0,uZ 0,uZ 0,uZ 0] 44);have o:=XI h6 hO.size;exact⟨hO,hO.trans (SP.Only.of_below bb rfl o),rfl,hO.trans (SP.Only.of_below bb rfl o),Holds.below hH bb o,hO.size,row_new W' _ _⟩
   .rintro v W' ⟨hO,hH,rfl⟩;exact⟨oA.trans hO,rfl,oA.trans hO,hH,XH _,(row_new wr.drew [uZ 0,uZ 0,uZ 0,uZ 0] 44).only hO (Nat.ne_of_gt h6)⟩
   .rintro xv k3 W4 ⟨rfl,bz,bj,k0,kk⟩;have kh:SP.Only r 0 32 wr.drew (W4.setCells k3 0 (wn n.val)):=dY bz h6 k0;refine anyS.sta (i:=13) (d:=none) rfl 44 (.tmp 10) (.tmp 30) rfl k3 0 (wn n.val).toArray aI kk.2.2 nSc kh ?_;simp only[Yo,XJ,XM,XO];refine anyS.fin kR ?_ _;intro W5 bk;have h8:=bk;have R5:Lk w W5 r k D B t a.val b.val (m+m) v u3 q Rb sx G H U l:=by rw[h8];exact R0.say kh (eR bj oM) km.2
    have r5:Row W5 k3 (wn n.val):=by rw[h8];exact kk.put rfl
    obtain⟨x,h7⟩:=hE (n.val);obtain⟨J,S⟩:=hE ((n*n).val);obtain⟨xi,he⟩:=hE ((ivF (n*n)).val);have d9:Hid (∀W:XF,cZ 26 #[nv x,nv x] W (rZ W λe w'=>e=nv J)):=by
     rw[<-h7.out,<-S.out];exact λW=>gW K.2.1 n.val n.val n.isLt n.isLt W
    have dm:Hid (∀W:XF,cZ 144 #[nv J] W (rZ W λe w'=>e=nv xi)):=by
     rw[<-S.out,<-he.out];exact λW=>wS K.2.1 (n*n).val (n*n).isLt W
    rw[h7.out]at r5;rw[h7.out];have K5:=Hid.mk' (Y0 R5 r5);clear R5 r5 h8 bk kh bz bj k0 kk R0 h0 O0 oA bA h6 HR k2;obtain⟨vx,ha⟩:=hE (nv x);have b5:Hid (∀W:XF,cZ 26 #[vx,vx] W (rZ W λe w'=>e=nv J)):=ha.out▸d9;obtain⟨dS,kf,ka⟩:=XK.1 rSc;rw[ha.out];go_wp2_with (first|(refine ldR 10 K5.2.2.1 ha rSc nSc ?_)|fail)
    apply(b5 W5).mono;rintro e W6 ⟨uu,rfl,bn,rfl⟩;obtain⟨kt,hu⟩:=hE (W6.heap.size);obtain⟨W7,c3⟩:=hE (W6.alloc (.cells #[uZ 0,uZ 0,uZ 0,uZ 0] 44));obtain⟨Y,kw⟩:=hE (W7.setCells kt 0 (wn J));have F7:Hid (Row W7 kt [uZ 0,uZ 0,uZ 0,uZ 0]/\kZ W6 W7):=by rw[<-c3.out,<-hu.out];exact⟨row_new W6 _ _,aC _⟩
    have cg:kZ W5 Y:=by
     have:kZ W6 Y:=by rw[<-kw.out];exact RG.below_setCells (hu.out▸XH _) _ _ _ F7.2
     exact bn.trans (this.mono bn.size)
    have K8:Hid (Lk w Y r k D B t a.val b.val (m+m) v u3 q Rb sx G H U l/\Row Y k3 (wn x)/\Row Y kt (wn J)):=⟨K5.1.grow cg,K5.2.below cg,kw.out▸F7.1.put rfl⟩
    obtain⟨vq,ko⟩:=hE (nv J);rw[ko.out];go_wp2_with (first|(refine alR 11 hu c3 ?_)|(refine stR 11 kw ko F7.1.2.2 nSc aI ?_)|fail)
    have d1:∀(W:XF),kZ Y W->∀g,W.heap.size<=g->QR r k g:=λW o g hg=>K8.1.qn g (XN o.size hg)
    have o8:∀(W:XF),kZ Y W->SP.Only r 0 32 Y W:=λW o=>SP.Only.of_below o rfl (Holds.lt K8.1.lg (by rw[K8.1.ls];decide))
    have h9:=Hid.mk' (λ(W:XF) (o:kZ Y W)=>K8.1.rd (o8 W o) HI);have hq:=Hid.mk' d1;have tk:=HG.2.2.1.ok;have c6:TOk N [(J,q i)]:=by rw[<-S.out,L.1 i];exact(Tl.pt C f (n*n) (E i)).ok
    have cv:TOk N [(xi,Rb i)]:=by rw[<-he.out,L.2 i];exact(Tl.pt C f (ivF (n*n)) (A i)).ok
    have e4:l.length<=200:=by have:=HG.2.2.2.1;have:=K.2.2.2.2.2.2;have:=HI;have:=kv.2;omega
    have b4:0<l.length:=by have:=HG.2.2.2.1;have:=kv.1;omega
    have bm:=Hid.mk' (λW=>lO (q i) hw.1 J W);have bc:=Hid.mk' (λW=>lO (Rb i) hw.2 xi W);have c5:=Hid.mk' (λ(s1 s2:XG) (W:XF) (h1:Sm 0 W s1 l) (h2:Sm 0 W s2 [(J,q i)])=>tN 0 s1 s2 l [(J,q i)] b4 oM (by simp) tk.sz c6.sz W h1 h2);have br:=Hid.mk' (λ(s1 s2:XG) (W:XF) (h1:Sm 0 W s1 (l++[(J,q i)])) (h2:Sm 0 W s2 [(xi,Rb i)])=>tN 0 s1 s2 (l++[(J,q i)]) [(xi,Rb i)] (by simp) (by simp;omega) (by simp) (tk.app c6).sz cv.sz W h1 h2);rw[<-ko.out];refine(gwL [pE u3,pE (jZ k),pE (sZ D t t),pE (iZ i),pE (oZ D (0+33*i)),pE (pvl (q i)),pE (nv J),pM (QR r k) [(J,q i)],pM (QR r k) (l++[(J,q i)]),pE (oZ k 1),pE (sZ B t t),pE (iZ i),pE (oZ B (0+33*i)),pE (pvl (Rb i)),pE (nv J),pE (nv xi),pM (QR r k) [(xi,Rb i)],pM (QR r k) (l++[(J,q i)]++[(xi,Rb i)])] (λW=>kZ Y W) (λW W' hb h=>h.trans (hb.mono h.size))).tail2 18 kR kR kR ⟨
     gO 3 u3,
     gO 4 (jZ k),
     fC 1 35 k 0 (sZ D t t) uPL (λx W h=>h) (λW o=>(h9 W o).2.1) (λ_=>rfl),
     gO 9 (iZ i),
     RG.gX 2 36 3 37 (atP HI),
     gLr 4 38 (λW o=>(h9 W o).2.2.2.1) uCP co,
     gLo 11 (λW o=>RG.range_below K8.2.2.2.1 o K8.2.2.1) rSc nSc,
     eF 5 39 6 40 32 (λx y=>#[x,y]) (λz y W hx R o=>by
      obtain rfl:z=pvl (q i):=hx;obtain rfl:y=nv J:=R;apply(bm W).mono;rintro e W' ⟨uu,rfl,hb,g,rfl,hg,M⟩;exact⟨_,rfl,hb,Gc M (hq W o g hg)⟩),
     eF 0 34 7 41 31 (λx y=>#[x,y]) (λz y W hx R o=>by
      obtain rfl:z=u3:=hx;have R:=R;apply(c5 z y W ((K8.1.grow o).sm.sm) R.sm).mono;rintro e W' ⟨uu,rfl,hb,T⟩;exact⟨_,rfl,hb,T.q.mono λg hg=>hq W o g hg⟩),
     gP 4 (jZ k) (oZ k 1),
     fC 9 43 k 1 (sZ B t t) uPL (λx W h=>h) (λW o=>(h9 W o).2.2.1) (λ_=>rfl),
     gO 9 (iZ i),
     RG.gX 10 44 11 45 (atP HI),
     gLr 12 46 (λW o=>(h9 W o).2.2.2.2) uCP bh,
     gLo 11 (λW o=>RG.range_below K8.2.2.2.1 o K8.2.2.1) rSc nSc,
     oL 14 48 144 (λx=>#[x]) (λz W hx o=>by
      obtain rfl:z=nv J:=hx;exact dm W),
     eF 13 47 15 49 32 (λx y=>#[x,y]) (λz y W hx R o=>by
      obtain rfl:z=pvl (Rb i):=hx;obtain rfl:y=nv xi:=R;apply(bc W).mono;rintro e W' ⟨uu,rfl,hb,g,rfl,hg,M⟩;exact⟨_,rfl,hb,Gc M (hq W o g hg)⟩),
     eF 8 42 16 50 31 (λx y=>#[x,y]) (λz y W hx R o=>by
      have hx:=hx;have R:=R;apply(br z y W hx.sm R.sm).mono;rintro e W' ⟨uu,rfl,hb,T⟩;exact⟨_,rfl,hb,T.q.mono λg hg=>hq W o g hg⟩),yE5⟩ (XX _ _).drew ?_
    intro V W9 bi kp;have kc:=bi 17 dC;have K9:=mk2 ((K8.1.grow kp).hide kc) (K8.2.1.below kp);dsimp only[bY,YQ,Z4,Z5];generalize V 17=s17 at K9⊢;clear kc bi kp K8 h9 hq bm bc c5 br;generalize V 0=y0;generalize V 1=y1;generalize V 2=y2;generalize V 3=y3;generalize V 4=y4;generalize V 5=y5;generalize V 6=y6;generalize V 7=y7;generalize V 8=y8;generalize V 9=y9;generalize V 10=ya;generalize V 11=yb;generalize V 12=yc;generalize V 13=yd;generalize V 14=ye;generalize V 15=yf;generalize V 16=yg;clear V;obtain⟨ev,k5,R,k8,Z⟩:=K9.1.r2;have bl:GOk N (m+m) c G H U:=uH (oN HG.2.2.2.2.1) HG.2.2.2.2.2.1 HG.2.2.2.2.2.2 HG.1 HG.2.1 K.2.2.2.1 K.2.2.2.2.1 K.2.2.2.2.2.1;obtain⟨xo,ke⟩:=yH ((ivF n).val);have b8:x<N:=h7.out▸n.isLt;have bs:sIn N x=xo:=by rw[<-h7.out,<-ke.out];rfl
    have k6:=GW K.2.1 m c HG.2.2.2.2.1 G H U bl x b8 v W9 K9.1.qn K9.1.gr;rw[bs]at k6;obtain⟨yv,hp⟩:=yH v;have M:Hid (Yg ev.toList.toArray=yv/\Row W9 (k+2) ev.toList/\gZ 150 ev.toList.length/\ev.size=3):=⟨k5.symm.trans hp,Z,by rw[X0,R];exact iGr,R⟩
    rw[hp.out,ha.out]at k6;have d3:=Hid.mk' k6;obtain⟨dG,T,X⟩:=XK.1 uGr;have bu:Hid (prog.underlying 150=some dG/\dG.isRow=true):=⟨T,X⟩
    clear k5 R k8 Z bl b8 bs k6 T X;go_wp2_with (first|(refine YG rfl 150 (.tmp 6) rfl (k+2) 0 ?_ ev.toList dG ?_ ?_ ?_ ?_ ?_;rfl;exact M.2.1.2.1;exact bu.1;exact bu.2;exact M.2.2.1;rw[M.1])|(refine ldR 10 K9.2.2.1 ha rSc nSc ?_)|fail)
    refine d3.mono ?_;rintro e Wa ⟨vf,rfl,bv,c8⟩;obtain⟨ef,d8,hn,kb⟩:=c8.ar;subst d8;have La:=(K9.1.grow bv).next c8 hn kb;obtain⟨Wb,b9⟩:=yH (Wa.setCells (k+2) 0 ef.toList);rw[b9.out]at La;have ky:Hid (Wa.there (k+2) 0 ef.size/\gZ 150 ef.size/\ef.all (·.oneCell')=true):=by
     refine⟨?_,by rw[hn];exact iGr,kb⟩;rw[hn];have:=(M.2.1.below bv).2.2;rw[X0,M.2.2.2]at this;exact this
    have cn:Hid (∃v G H l,Gd N (2^(t-(i+1))) (2^(i+1)) G ((aD C f).vst (chF N) ivF t E A v0 (i+1)).g/\Gd N (2^(t-(i+1))) (2^(i+1)) H ((aD C f).vst (chF N) ivF t E A v0 (i+1)).h/\Tl N l ((aD C f).vst (chF N) ivF t E A v0 (i+1)).p/\l.length=l0.length+2*(i+1)/\Lk w Wb r k D B t a.val b.val (2^(t-(i+1))) v s17 q Rb ((aD C f).vst (chF N) ivF t E A v0 (i+1)).s G H U l):=by
     show ∃v G H l,_;rw[HS.out,HE.1,HE.2];have g1:=HG.1.fold C f (ivF n) n;have g2:=HG.2.1.fold C f n (ivF n);rw[h7.out,ke.out]at g1 g2;have tl:=(HG.2.2.1.app C f (Tl.pt C f (n*n) (E i))).app C f (Tl.pt C f (ivF (n*n)) (A i));rw[S.out,he.out]at tl;have dh:Tl N (l++[(J,q i)]++[(xi,Rb i)]) ((aD C f).ad ((aD C f).ad Vi.p ((aD C f).ac (n*n) (E i))) ((aD C f).ac (ivF (n*n)) (A i))):=by rw[L.1 i,L.2 i];exact tl
     exact⟨_,_,_,_,g1,g2,dh,by have:=HG.2.2.2.1;simp;omega,La⟩
    obtain⟨vo,cj⟩:=hE (Yg ef);rw[cj.out];go_wp2_with (first|(refine Yi rfl 150 (.tmp 6) _ rfl (k+2) 0 ef ?_ ?_ ?_ ?_ ?_ ?_;rfl;exact cj.symm;exact ky.1;exact ky.2.1;exact ky.2.2;rw[b9.out])|fail)
    go_roundg (gk-1)
    case measure=>have:=HI;omega
    case rel=>exact⟨i+1,oN HI,rfl,cn⟩
  .have cq:¬(i:Int)<(t:Int):=oM;have d4:i=t:=oM;obtain⟨v,G,H,l,hG,hH,hl,ku,hR⟩:=KM;subst d4;rw[yBm,Nat.pow_zero]at hG hH hR;have k4:0<2^i:=yAJ dC;have bo:2^i<=64:=XN (Zb dC K.2.2.2.2.2.2) dC;obtain⟨l1,l2,Y,e2,dp,cH,cM,cP⟩:=U9 (Q:=QR r k) C K.2.1 f K.2.2.1 k4 bo hG hH K.2.2.2.1 K.2.2.2.2.1 K.2.2.2.2.2.1 hl (by have:=K.2.2.2.2.2.2;have:=kv.2;omega) a b;have e1:decide (Y=o33)=Bd:=by
    have h2:=dp.trans cf.symm;cases Bd with
    | true=>exact decide_eq_true (h2.2 rfl)
    | false=>exact decide_eq_false λh=>Bool.false_ne_true (h2.1 h)
   obtain⟨ev,k5,R,k8,Z⟩:=hR.r2;obtain⟨g1,kj⟩:=hE (wr.heap.size);obtain⟨n,kn⟩:=hE (lZ wr (wn a.val) 44);obtain⟨g2,V⟩:=yH n.heap.size;obtain⟨W2,J⟩:=yH (n.alloc (.cells (wn b.val).toArray 44));have b1:kZ wr n:=kn.out▸aC _;have b2:kZ n W2:=J.out▸aC _;have r1:Row n g1 (wn a.val):=kn.out▸kj.out▸row_new wr _ _;have r2:Row W2 g2 (wn b.val):=J.out▸V.out▸row_new n _ _;have L1:=hR.grow b1;have L2:=L1.grow b2;have q1:QR r k g1:=kj.out▸hR.qn _ (XH _);have q2:QR r k g2:=V.out▸L1.qn _ (XH _);have bp:=cH W2 v _ _ L2.gr (Uc (r1.below b2) q1) (Uc r2 q2);obtain⟨yv,hp⟩:=yH v;obtain⟨va,bd⟩:=yH (nv a.val);obtain⟨vb,b7⟩:=yH (nv b.val);rw[hp.out]at bp;have ra:∀ {W:XF},Row W k (inL D B i a.val b.val)->W.rangeAt k 2 (wn a.val)/\W.rangeAt k 6 (wn b.val):=λhW=>⟨λj z o=>by
    have:=hW.2.1 (2+j) z (by
     have S:j<4:=(XT.1 o).1;match j,S with
     | 0,_=>exact o
     | 1,_=>exact o
     | 2,_=>exact o
     | 3,_=>exact o
     | j+4,h=>omega)
    rw[XQ]at this;exact this,λj z o=>by
    have:=hW.2.1 (6+j) z (by
     have S:j<4:=(XT.1 o).1;match j,S with
     | 0,_=>exact o
     | 1,_=>exact o
     | 2,_=>exact o
     | 3,_=>exact o
     | j+4,h=>omega)
    rw[XQ]at this;exact this⟩
   have S1:Hid ((YF 143 1 #[(0,va)]).run prog wr=.ok (sZ g1 1 1) n):=bd.out▸kj.out▸kn.out▸Vy;have S2:Hid ((YF 143 1 #[(0,vb)]).run prog n=.ok (sZ g2 1 1) W2):=b7.out▸V.out▸J.out▸Vy;have S:=mk3 ((ra hR.r0).1) ((ra L1.r0).2) Z.2.1;have M:Hid (Yg ev.toList.toArray=yv/\gZ 150 ev.toList.length):=⟨k5.symm.trans hp,by rw[X0,R];exact iGr⟩
   obtain⟨dG,T,X⟩:=XK.1 uGr;obtain⟨dS,kf,ka⟩:=XK.1 rSc;have HD:Hid ((prog.underlying 150=some dG/\dG.isRow=true)/\prog.underlying 44=some dS/\dS.isRow=true):=⟨⟨T,X⟩,kf,ka⟩
   have da:=Hid.mk' bp;have kz:=Hid.mk' (Y0 cM cP);have d2:=Hid.mk' L2;obtain⟨vz,du⟩:=hE (Yg z33.toArray);obtain⟨vy,ba⟩:=hE (pvl Y);rw[ba.out]at kz;have HZ:Hid (∀W,(binOp .eql 51 vy vz).run prog W=.ok (.bool Bd) W/\(Instr.build 51 #[]).run prog W=.ok vz W/\(eqGuard .eql 51 (.tmp 67) (.tmp 68) vy vz).run prog W=.ok () W):=by
    rw[<-du.out,<-ba.out,<-e1];exact λW=>⟨by rw[OC];exact LU e2 rfl,Qt,by unfold pvl;kernel_rfl⟩
   go_wp2_with (first|(refine YG rfl 150 (.tmp 6) rfl (k+2) 0 ?_ ev.toList dG ?_ ?_ ?_ ?_ ?_;rfl;exact S.2.2;exact HD.1.1;exact HD.1.2;exact M.2;rw[M.1])|(refine ldR 57 S.1 bd rSc nSc ?_)|(refine ldR 60 S.2.1 b7 rSc nSc ?_)|(refine jM (v:=sZ g1 1 1) (w':=n) rfl 143 1 _ rfl #[(0,va)] ?_ ?_ ?_;kernel_rfl;exact S1)|(refine jM (v:=sZ g2 1 1) (w':=W2) rfl 143 1 _ rfl #[(0,vb)] ?_ ?_ ?_;kernel_rfl;exact S2)|fail)
   refine da.mono ?_;rintro e W3 ⟨s1,rfl,df,d7⟩;have L3:=d2.grow df;have ki:=Hid.mk' (Y0 L3 (show Sm 0 W3 s1 l1 from by
    obtain⟨g,c,x1,x2,-,x4⟩:=d7;exact⟨g,c,x1,x2,Zq _,x4⟩))
   go_wp2_with fail
   apply(kz.1 W3 s1 u3 ki.2 ki.1.sm.sm).mono;rintro e W4 ⟨s2,rfl,k0,d5⟩;have L4:=ki.1.grow k0;have b6:=Hid.mk' (Y0 L4 (show Sm 0 W4 s2 l2 from by
    obtain⟨g,c,x1,x2,-,x4⟩:=d5;exact⟨g,c,x1,x2,Zq _,x4⟩))
   go_wp2_with fail
   apply(kz.2 W4 s2 b6.2).mono;rintro e W5 ⟨uu,rfl,cz,dx⟩;have be:=dx.symm;subst be;have L5:=Hid.mk' (b6.1.grow cz).on;go_wp2_with (first|(refine mH (v:=vz) (w':=W5) rfl 51 _ rfl #[] ?_ ?_ ?_;kernel_rfl;exact(HZ W5).2.1)|(refine bF (v:=.bool Bd) (w':=W5) rfl (.binOp .eql 51 (.tmp 67) (.tmp 68) 51) rfl ?_ ?_;exact ES (I:=eqGuard .eql 51 (.tmp 67) (.tmp 68) vy vz >>= λ_=>binOp .eql 51 vy vz) (by rw[X6,(HZ W5).2.2];exact(HZ W5).1))|fail)
   go_ret;exact⟨_,rfl,L5,rfl⟩
end
section
open SPA
variable {P:Nat}[NeZero P]{N:Nat}
noncomputable def gPG (C:Fld P):OnP P:=⟨gG P,Dm C⟩
noncomputable def hPV (C:Fld P):OnP P:=lPt C jN []
def OZ(n m:Nat):cmt P n m=EC.add (mul n (.some (hpt P jN []))) (mul m (gG P)):=by
 unfold cmt;generalize (.some (hpt P jN []):EC.Pt P)=H;show EC.add (EC.add none (eG ((n:Nat):Int) H)) (eG ((m:Nat):Int) (gG P))=_;rw[jV];rfl
section
variable [NeZero N]
def zN(C:Fld P)(k:∀r:EC.Pt P,On r->mul N r=none)(a b:Fin N):wr (cmt P a.val b.val)=wP ((aD C k).cm (hPV C) (gPG C) a b):=by
 rw[OZ];rfl
structure RvL(C:Fld P)(hord:∀r:EC.Pt P,On r->mul N r=none)(R:Rv N)(V A S C1 C2 L3 L6 L8:Bs):Prop where
 eV:V=wP (R.pV (aD C hord) (gPG C) (hPV C))
 eA:A=wP (R.pA (aD C hord) (gPG C) (gPt C ⟨#[108,101,102,116]⟩) (gPt C ⟨#[114,105,103,104,116]⟩))
 eS:S=wP (R.pS (aD C hord) (gPG C) (gPt C ⟨#[108,101,102,116]⟩) (gPt C ⟨#[114,105,103,104,116]⟩))
 e1:C1=wP (R.p1 (aD C hord) (gPG C) (hPV C))
 e2:C2=wP (R.p2 (aD C hord) (gPG C) (hPV C))
 l3:L3=bgL V R.n A S
 y:R.y=lD N L3
 z:R.z=lD N (aX L3)
 l6:L6=mdL (aX (aX L3)) C1 C2
 x:R.x=lD N L6
 l8:L8=enL (aX L6) R.tau.val R.mu.val R.t.val
 w:R.w=lD N L8
structure RvS(R:Rv N)(sd:List UInt8):Prop where
 s:∀i,(R.s i).val=chL N [115,108] [sd,(gB i).toList]
 q:∀i,(R.q i).val=chL N [115,114] [sd,(gB i).toList]
 al:R.al.val=chL N [97,108,112,104,97] [sd]
 rho:R.rho.val=chL N [114,104,111] [sd]
 t1:R.t1.val=chL N [116,97,117,49] [sd]
 t2:R.t2.val=chL N [116,97,117,50] [sd]
end
def Xo{q:Option Y4}{n c:Nat}{w:XF}:(YF 27 1 #[(0,.slice q n c)]).run prog w=.ok (sZ w.heap.size 1 1) (w.alloc (.cells #[.slice q n c] 23)):=kR
def Ce{d:ByteArray}{g:List UInt8}{q:Option Y4}{w:XF}(O:Ord N)(i:d.size<=1000)(l:PartOk w (.slice q n c) g){n c x:Nat}(hx:x=chL N d.data.toList [g]):
 ∃k f,Hid ((YF 27 1 #[(0,.slice q n c)]).run prog w=.ok (sZ k 1 1) f)/\Hid (kZ w f)/\Hid (cZ 74 #[.string d,sZ k 1 1] f (rZ f λe w'=>e=nv x)):=by
 have b:=aC (w:=w) (.cells #[.slice q n c] 23);refine⟨_,_,Xo,b,?_⟩;rw[hx];refine Dw O d _ 1 1 [g] _ oM rfl dC (Yd ⟨_,_,rfl,λj f=>?_⟩);obtain rfl:j=0:=by simp at f;omega
 exact⟨_,(row_new w [.slice q n c] 23).2.1 0 _ rfl,l.below b⟩
def rp0:Rp:=⟨o33,o33,o33,o33,0,0,0⟩
def J2:rp0.Ok:=⟨rfl,rfl,rfl,rfl⟩
end
namespace RG
variable {P:YO}{ops:Array Yw}{Q:Exit->Act->XF->Prop}{w:XF}{a0:Act}{L:Array Bool}{F:Flow}{m:Nat}
def VN:∀(k:Nat) (L:Array Bool) (a:Act) (w:XF),wpAny P .any ops Q k L a w->anyS P ops Q (λ_ _=>True) k L a w
 | 0,_,_,_,h=>h
 | k+1,_,_,_,h=>⟨h.1,λi c=>wpOp_mono (λd w' b=>⟨trivial,VN k _ d w' b⟩) (h.2 i c)⟩
def zV(k:Array Yw)(n:Nat)(late:List Nat):Bool:=(YB n).all (λj=>late.contains j || nX k 5 n j) && (YB k.size).all (λi=>decide (i<=n) || depOn k i (i-1))
def zU{n i:Nat}{late:List Nat}(h:zV ops n late=true)(c:n<i)(b:i<ops.size):depOn ops i (i-1)=true:=by
 unfold zV at h;rw[XZ]at h;have k:=Yv.1 h.2 i (Y9.2 b);rw[yAc,decide_eq_true_eq]at k;rcases k with k|k
 .omega
 .exact k
def lz(m n:Nat)(late:List Nat):Array Bool:=((YB m).map λi=>decide (i<n) && !late.contains i).toArray
structure LateP(P:YO)(F:Flow)(ops:Array Yw)(n:Nat)(late:List Nat)(j:Nat):Prop where
 lt:j<n
 o:∃o,ops[j]? = some o/\o.guard=none/\sH ops j=false/\(∀i oi,ops[i]? = some oi->i≠j->(i∈late\/n<=i)->(∀e∈oi.after,Y3 .any e=true->e.on≠j)->o.apart ops oi=true)/\(∃p op,n<=p/\ops[p]? = some op/\∃e∈op.after,Y3 .any e=true/\e.on=j)/\(∀e∈o.after,Y3 .any e=true->e.on<n/\e.on ∉ late)/\∃j' t,cQ o j'=true/\aV ops j'=some t/\F.kill j'=[]/\∀v w,F.R j' v w->∃u,F.R j u w/\F.E j w w/\∀(a:Act) (W:XF),a.eval (.tmp t)=v->(Ym a.eval o).run P W=.ok (.value u) W
def IJ{late:List Nat}{n id:Nat}(F:Flow)(kc:∀j∈late,LateP P F ops n late j)(hQ:∀c (a:Act) t v w,Q (.panic c) (a.put (some t) v) w->Q (.panic c) a w)(hs:yAC ops=true)(hn:n<ops.size)(hc:zV ops n late=true)(hm:P.follows .mixedOrders=true)(R:RegF P Q F ops a0 n)(hA:Als P F ops n)(hB:∀b,F.B b w.drew)(hp:∀(V:Nat->XG) (w':XF),(∀i,i<n->F.kill i=[]->F.R i (V i) w')->(∀b,F.killB b=[]->F.B b w')->(∀i j,i<n->j<n->i≠j->sH ops i=true->sH ops j=true->(aV ops i).isSome=true->(aV ops j).isSome=true->V i≠V j)->wpList P ops Q (ops.toList.drop n) (bY V (ops.toList.take n) 0 a0) w'):(Zg id ops true).wp P Q a0 w:=by
 have kb:∀(i:Nat) (o:Yw),ops[i]? = some o->∀e∈o.after,Y3 .any e=true->e.on<i:=λi o ho=>(R.of ho).1
 have key:∀(q:Nat) (L:Array Bool) (a:Act) (w:XF),unl L=q->(∀j,n<=j->on L j=false)->InvF F ops a0 L a w->Sep ops L a->wpAny P .any ops Q q L a w:=by
  intro q;induction q with
  | zero =>
   intro L a w hu k y hS;have:=lE hu (by rw[y.size];omega);rw[k n (XH _)]at this;cases this
  | succ q ih =>
   intro L a w hu k y hS;by_cases g:∀j,j<n->j ∉ late->on L j=true
   .by_cases h9:∃j,j∈late/\on L j=false
    .obtain⟨j,s,I⟩:=h9;obtain⟨kd,o,ho,hg,hq,k8,⟨p,op,kf,k7,k2⟩,h0,j',t,A,k0,ka,h8⟩:=kc j s;have G:∀x∈F.kill j',on L x=false:=λx hx=>by rw[ka]at hx;cases hx
     obtain⟨V,B,U⟩:=y.all;have f:∀e∈o.after,Y3 .any e=true->on L e.on=true:=λe Z hb=>g _ (h0 e Z hb).1 (h0 e Z hb).2
     obtain⟨e,Z,Y⟩:=yAF.1 A;simp only[XZ,beq_iff_eq]at Y;have r:on L j'=true:=by rw[<-Y.2];exact f e Z Y.1
     obtain⟨u,k1,k9,ke⟩:=h8 (V j') w (U j' r G);have k4:=B8 (B j' t r k0);have T:=(X9.1 ho).1;have h7:L.getD j true=false:=by
      unfold on at I;rw[XU,Ye (by rw[y.size];exact T)]at I⊢;exact I
     have hy:∀i,on L i=true->i<n:=λi m=>by
      rcases Zx i n with h|h
      .exact h
      .rw[k i h]at m;cases m
     have J:=y.nx R kd hy ho I f k9 k1;have M:∀i,on (L.setIfInBounds j true) i=true->i≠j->on L i=true:=λi m C=>by
      rw[eE (by rw[y.size];exact T)]at m;rcases yAc _ _ ▸ m with m|m
      .exact m
      .exact absurd (by simpa using m:j=i).symm C
     have k3:Sep ops (L.setIfInBounds j true) (a.put o.dst u):=λi i2 di dj m k6 X D E z O=>by
      have hw:i≠j:=by rintro rfl;rw[hq]at D;cases D
      have h5:i2≠j:=by rintro rfl;rw[hq]at E;cases E
      have K:=hS i i2 di dj (M i m hw) (M i2 k6 h5) X D E z O;have H:∀i di N,i≠j->aV ops i=some di->o.dst=some N->N≠di:=λi di N C m hk e=>by
       subst e;exact C ((R.of ho).2 N hk |>.2 i m)
      cases hd:o.dst with
      | none=>exact K
      | some N=>rw[kN (H i di N hw z hd),kN (H i2 dj N h5 O hd)];exact K
     have h6:=ih (L.setIfInBounds j true) (a.put o.dst u) w (oN (mK h7)) (λi m=>by
      rw[eE (by rw[y.size];exact T),k i m];simp only[yCZ,beq_eq_false_iff_ne];omega) J k3
     refine anyS.any _ _ _ _ (anyS.first (S:=λ_ _=>True) (p:=p) ho k7 k2 oM (λ_ _ _=>trivial) (Region.noSelect_spec hs) (λc a w h=>by
      cases hd:o.dst with
      | none=>rw[hd]at h;exact h
      | some t=>rw[hd]at h;exact hQ c a t u w h) q L a w ?_ (λi oi K C ht k5=>k8 i oi K C (by
      rcases Zx i n with h|h
      .by_cases hz:i∈late
       .exact Yk hz
       .have N:=g i h hz;have H:=(X9.1 K).1;unfold on at N;rw[XU,Ye (by rw[y.size];exact H)]at N ht;exact Bool.noConfusion (N.symm.trans ht)
      .exact Yd h) k5) (mem_ready.2 ⟨h7,o,ho,?_⟩) (Yk ⟨bK hg,λW _=>ke a W k4⟩) ⟨#[],by simp,yE5⟩ trivial (VN q _ _ _ h6))
     .have:=k p kf;unfold on at this;exact this
     .intro e Z hb;exact f e Z hb
    have r:∀j,j<n->on L j=true:=λj s=>by
     by_cases I:j∈late
     .cases h:on L j with
      | true=>rfl
      | false=>exact absurd ⟨j,I,h⟩ h9
     .exact g j s I
    have C:∀j,on L j=true↔j<n:=λj=>⟨λs=>(by
     rcases Zx j n with h|h
     .exact h
     .rw[k j h]at s;cases s),r j⟩
    obtain⟨V,B,U⟩:=y.all;have T:=y.act R oM C B;have G:∀l:List Nat,l=[]->∀x∈l,on L x=false:=λl Y x hx=>by rw[Y]at hx;cases hx
    have M:=hp V w (λj s hk=>U j (r j s) (G _ hk)) (λb hb=>y.base b (G _ hb)) (λi j m s X D E z A e=>by
     obtain⟨di,z⟩:=YP.1 z;obtain⟨dj,A⟩:=YP.1 A;refine hS i j di dj (r i m) (r j s) X D E z A ?_;rw[B i di (r i m) z,B j dj (r j s) A,e])
    rw[<-T]at M;exact Aw (λi O N=>zU hc O N) kb _ L a w n (XH _) oM y.size C hu M
   .refine⟨λB=>?_,λi m=>?_⟩
    .exact absurd (λj s _=>y.full R B j oM) g
    .obtain⟨O,o,ho,f⟩:=mem_ready.1 m;have H:=(X9.1 ho).1;have K:on L i=false:=by
      unfold on;rw[XU]at O⊢;cases hh:L[i]? with
      | none=>rfl
      | some b=>rw[hh]at O;exact O
     have z:i<n:=by
      rcases Zx i n with h|h
      .exact h
      .exfalso;rcases Zx n i with N|N
       .have:=iE ho f (zU hc N H);rw[k (i-1) oM]at this;cases this
       .obtain rfl:i=n:=oM;refine g λj s I=>?_
        unfold zV at hc;rw[XZ]at hc;have r:=Yv.1 hc.1 j (Y9.2 s);rw[yAc]at r;replace r:=r.resolve_left (by simpa using I);unfold nX at r;rw[yAc]at r;rcases r with r|r
        .exact iE ho f r
        .obtain⟨x,hx,A⟩:=List.any_eq_true.1 r;rw[XZ]at A;exact yE y 4 x j (oN (Y9.1 hx)) (iE ho f A.1) A.2
     refine wpOp_mono (λr w' J=>ih _ r w' (oN (mK O)) (λj s=>?_) J.1 J.2) (stepS R hA z (λj s=>?_) ho K f y hS)
     .rw[eE (by rw[y.size];exact H),k j s];simp only[yCZ,beq_eq_false_iff_ne];omega
     .rcases Zx j n with h|h
      .exact h
      .rw[k j h]at s;cases s
 have k:∀i,on (Array.replicate ops.size false) i=false:=λi=>by
  unfold on;rw[XU,Array.getElem?_replicate];by_cases h:i<ops.size
  .rw[yE3 h];rfl
  .rw[yE4 h];rfl
 refine wp_region_any hm (key _ _ a0 _ ?_ (λj _=>k j) ⟨Array.size_replicate,(λi o _ h=>by rw[k]at h;cases h),rfl,rfl,λ_ _=>rfl,⟨λ_=>ZB,λi d h=>(by rw[k]at h;cases h),λi h=>(by rw[k]at h;cases h)⟩,λb _=>hB b⟩ (λi j di dj m=>by rw[k]at m;cases m));unfold unl;rw[Array.toList_replicate,List.countP_replicate];simp
def late1{G:Gw}{n:Nat}{late:List Nat}{j:Nat}(p m:Nat)(t:ZC)(c:∀v w,G.R m v w->∃u,G.R j u w/\∀o,ops[j]? = some o->∀W,(cN [t] o,(Ym (evo λ_=>v) o).run P W)=(true,.ok (.value u) W))
 (z:(decide (j<n) && decide (n<=p) && waits ops p j && Region.free .any ops (lz ops.size n late) j && !sH ops j && (match ops[j]? with|some o=>o.guard.isNone && o.after.all (λe=>!Y3 .any e || (decide (e.on<n) && !late.contains e.on)) && cQ o m|none=>false))=true:=by kernel_rfl) (hd:aV ops m=some t:=by kernel_rfl):LateP P G.flow ops n late j:=by
 simp only[XZ,decide_eq_true_eq,yDM]at z;obtain⟨⟨⟨⟨⟨F,I⟩,d⟩,J⟩,D⟩,f⟩:=z;cases ho:ops[j]? with
 | none=>rw[ho]at f;cases f
 | some o =>
  rw[ho]at f;simp only[XZ]at f;obtain⟨⟨E,C⟩,H⟩:=f;have A:o.guard=none:=by simpa using E
  refine⟨F,o,ho,A,D,λi B l r k s=>Region.free_spec ho J i B l r ?_ s,?_,λe b g=>?_,m,t,H,hd,rfl,λv w hv=>?_⟩
  .have q:=(X9.1 l).1;unfold lz;rw[XU,Yp,YC,yBw q,yAy,yDz];rcases k with k|k
   .rw[List.contains_iff_mem.2 k,yEo,Bool.and_false]
   .rw[decide_eq_false oM,Bool.false_and]
  .unfold waits at d;cases q:ops[p]? with
   | none=>rw[q]at d;cases d
   | some op =>
    rw[q]at d;obtain⟨e,b,g⟩:=yAF.1 d;simp only[XZ,beq_iff_eq]at g;exact⟨p,op,I,q,e,b,g.1,g.2⟩
  .have:=Array.all_eq_true'.1 C e b;rw[g,yEo,yCZ,XZ,decide_eq_true_eq,yDM]at this;exact⟨this.1,by simpa using this.2⟩
  .obtain⟨u,y,q⟩:=c v w hv;refine⟨u,y,XX _ _,λa W b=>?_⟩;have h:=q o ho W;rw[Zl.injEq]at h;rw[jG (a:=a) (λ_=>v) [t] h.1 (λK x=>by rw[Ze.1 x];exact b)];exact h.2
def Gw.late{id:Nat}(G:Gw)(n:Nat)(l:List Nat)(b:∀j∈l,LateP P G.flow ops n l j)(o:Als P G.flow ops n)(k:(decide (n<ops.size) && zV ops n l && yAC ops)=true)(f:P.follows .mixedOrders=true)(r:Cd ops a0.tmps.size=true)(h:jB P Q G.flow ops a0 0 (ops.toList.take n))(e:G.B w.drew)
 (d:∀(V:Nat->XG) (w':XF),(∀i,i<n->G.R i (V i) w')->G.B w'->(∀i j,i<n->j<n->i≠j->sH ops i=true->sH ops j=true->(aV ops i).isSome=true->(aV ops j).isSome=true->V i≠V j)->wpList P ops Q (ops.toList.drop n) (bY V (ops.toList.take n) 0 a0) w') (s:∀c (a:Act) t v w,Q (.panic c) (a.put (some t) v) w->Q (.panic c) a w:=by exact λ_ _ _ _ _ h=>h):(Zg id ops true).wp P Q a0 w:=by
 rw[XZ,XZ,decide_eq_true_eq]at k;exact IJ G.flow b s k.2 k.1.1 k.1.2 f (Gw.reg r h) o (λ_=>e) λV w' m q g=>d V w' (λi p=>m i p rfl) (q 0 rfl) g
end RG
section
section
variable {P:YO}{ops:Array Yw}{rest:List Yw}{op:Yw}{a a':Act}{w w':XF}{Q:Exit->Act->XF->Prop}{d:Option ZC}{x v:XG}{t:ZC}{T:Yj}{b off:Nat}{cs:List XG}
def PW.begin{id:Nat}{l:List Yw}(h:wpList P l.toArray Q l a w):(Zg id l.toArray false).wp P Q a w:=wp_region_list h
def PW.dn(h:Q .normal a w):wpList P ops Q [] a w:=h
def PW.va(x:XG)(h:wpList P ops Q rest a' w)(hd:op.dst=d:=by rfl)(k:op.guard=none:=by rfl)(hv:(Ym a.eval op).run P w=.ok (.value x) w:=by kernel_rfl)(b:a.put d x=a':=by(simp only[Yo,XJ,XM,XO])<;>rfl):wpList P ops Q (op :: rest) a w:=by
 subst b hd;exact ZT k λK c=>by
  unfold Y8;rw[hv];exact c _ _ h
def PW.ns{I:Sem XG}(hx:I.run P w=.ok x w')(h:wpList P ops Q rest a' w')(hd:op.dst=d:=by rfl)(k:op.guard=none:=by rfl)(c:Ym a.eval op=I >>= λv=>pure (ZW v):=by kernel_rfl)(b:a.put d x=a':=by(simp only[Yo,XJ,XM,XO])<;>rfl):wpList P ops Q (op :: rest) a w:=by
 subst b hd;exact ZT k λK e=>by
  unfold Y8;rw[c,X6,hx];exact e _ _ h
def PW.ca{f:ZZ}{args:Array XG}{R:XG->XF->Prop}{F:XG->Act}(c:ZI P f args w (Ret R))(h:∀e w',R e w'->wpList P ops Q rest (F e) w')(hd:op.dst=d:=by rfl)(k:op.guard=none:=by rfl)(hx:(Ym a.eval op).run P w=.ok (.enter f args) w:=by kernel_rfl)(hf:∀e,a.put d e=F e:=by intro _;(simp only[Yo,XJ,XM,XO])<;>rfl):wpList P ops Q (op :: rest) a w:=by
 subst hd;exact ZT k λK b=>by
  unfold Y8;rw[hx,ZU];refine c.mono ?_;rintro e w' ⟨v,rfl,hR⟩;exact b _ _ (hf v ▸ h v w' hR)
def PW.gi{f:ZZ}{args:Array XG}(g:ZI P f args w (rZ w λe w'=>e=x))(h:∀w',kZ w w'->wpList P ops Q rest a' w')(hd:op.dst=d:=by rfl)(k:op.guard=none:=by rfl)(hx:(Ym a.eval op).run P w=.ok (.enter f args) w:=by kernel_rfl)(b:a.put d x=a':=by(simp only[Yo,XJ,XM,XO])<;>rfl):wpList P ops Q (op :: rest) a w:=
 PW.ca (F:=λe=>a.put d e) g (λe w' hR=>by
  obtain⟨c,rfl⟩:=hR;subst b;exact h w' c) hd k hx λ_=>rfl
def PW.al{g:Nat}{b:Obj}(e:Hid (w.heap.size=g))(c:Hid (w.alloc b=w'))(h:wpList P ops Q rest a' w')(hd:op.dst=d:=by rfl)(k:op.guard=none:=by rfl)(i:(Ym a.eval op).run P w=.ok (.value (jZ w.heap.size)) (w.alloc b):=by kernel_rfl)(f:a.put d (jZ g)=a':=by(simp only[Yo,XJ,XM,XO])<;>rfl):wpList P ops Q (op :: rest) a w:=by
 subst f hd;exact ZT k λK j=>by
  unfold Y8;rw[i,e.out,c.out];exact j _ _ h
def PW.st(c:Hid (w.setCells b off cs=w'))(hv:Hid (.agg cs.toArray=v))(th:w.there b off cs.length)(d:(P.info? T).map (·.size)=some cs.length)(g:cs.toArray.all (·.oneCell')=true)(h:wpList P ops Q rest a' w')(hd:op.dst=none:=by rfl)(k:op.guard=none:=by rfl){y:Operand}(ho:op.op=.store T (.tmp t) y:=by rfl)(hx:a.eval (.tmp t)=oZ b off:=by rfl)(f:a.eval y=v:=by rfl)(e:a.put none ZB=a':=by(simp only[Yo])<;>rfl):wpList P ops Q (op :: rest) a w:=
 Yi k T (.tmp t) y ho b off cs.toArray hx (f.trans hv.symm) th d g (by rw[show cs.toArray.toList=cs from rfl,c.out,hd,e];exact h)
def PW.ro(l:w.rangeAt b off cs)(hv:Hid (.agg cs.toArray=v))(g:(P.underlying T).map (·.isRow)=some true)(e:(P.info? T).map (·.size)=some cs.length)(h:wpList P ops Q rest a' w)(hd:op.dst=d:=by rfl)(k:op.guard=none:=by rfl)(ho:op.op=.load T (.tmp t):=by rfl)(hx:a.eval (.tmp t)=oZ b off:=by rfl)(f:a.put d v=a':=by(simp only[Yo,XJ,XM,XO])<;>rfl):wpList P ops Q (op :: rest) a w:=by
 obtain⟨c,i,j⟩:=XK.1 g;exact YG k T (.tmp t) ho b off hx cs c l i j e (by rw[hv.out,hd,f];exact h)
def PW.ce(f:w.cell? ⟨b,off,none⟩=some x)(e:(P.underlying T).map (·.isRow)=some false)(h:wpList P ops Q rest a' w)(hd:op.dst=d:=by rfl)(k:op.guard=none:=by rfl)(ho:op.op=.load T (.tmp t):=by rfl)(hx:a.eval (.tmp t)=oZ b off:=by rfl)(c:a.put d x=a':=by(simp only[Yo,XJ,XM,XO])<;>rfl):wpList P ops Q (op :: rest) a w:=
 PW.va x h hd k (by
  unfold Ym;rw[ho];dsimp only;rw[hx,X6,eN f e];rfl) c
def PW.au(op:Yw)(a:Act):Option XG:=match op.guard,op.op with
 | none,.move (.tmp t)=>some (a.eval (.tmp t))
 | _,_=>none
def PW.fr:List Yw->Act->List XG->Act × List Yw
 | [],a,_=>(a,[])
 | op :: l,a,vs=>match PW.au op a,vs with
  | some v,_=>PW.fr l (a.put op.dst v) vs
  | none,[]=>(a,op :: l)
  | none,v :: vs=>PW.fr l (a.put op.dst v) vs
def PW.ck(P:YO)(w:XF)(b:Bool):List Yw->Act->List XG->List (Option (Nat × Bool) × Result Next)
 | [],_,_=>[]
 | op :: l,a,vs=>match PW.au op a,vs with
  | some v,_=>(if b then(op.guard,(Ym a.eval op).run P w) else(none,.ok (.value v) w)) :: PW.ck P w b l (a.put op.dst v) vs
  | none,[]=>[]
  | none,v :: vs=>(if b then(op.guard,(Ym a.eval op).run P w) else(none,.ok (.value v) w)) :: PW.ck P w b l (a.put op.dst v) vs
def PW.go1:∀(l:List Yw) (a:Act) (vs:List XG),PW.ck P w true l a vs=PW.ck P w false l a vs->wpList P ops Q (PW.fr l a vs).2 (PW.fr l a vs).1 w->wpList P ops Q l a w
 | [],_,_,_,h=>h
 | op :: l,a,vs,k,h=>by
  unfold PW.ck at k;unfold PW.fr at h;revert k h;cases PW.au op a with
  | some v =>
   intro k h;simp only[yEf.injEq,if_true,yDE,if_false,Zl.injEq]at k;exact PW.va v (PW.go1 l _ vs k.2 h) rfl k.1.1 k.1.2 rfl
  | none =>
   cases vs with
   | nil=>exact λ_ h=>h
   | cons v vs =>
    intro k h;simp only[yEf.injEq,if_true,yDE,if_false,Zl.injEq]at k;exact PW.va v (PW.go1 l _ vs k.2 h) rfl k.1.1 k.1.2 rfl
def PW.f3{l:List Yw}{vs:List XG}(h:PW.fr l a vs=(a',rest):=by(simp only[PW.fr,PW.au,Act.eval,Yo,XJ,XM,XO,XU,Yp,Yl,Yn,yDz])<;>rfl):PW.fr l a vs=(a',rest):=h
variable {l:List Yw}{id:Nat}{c:Code}(vs:List XG)
def PW.go(h:wpList P ops Q rest a' w)(k:PW.ck P w true l a vs=PW.ck P w false l a vs:=by kernel_rfl)(b:PW.fr l a vs=(a',rest):=by exact PW.f3):wpList P ops Q l a w:=PW.go1 l a vs k (by rw[b];exact h)
def PW.en(h:Q .normal a' w)(k:PW.ck P w true l a vs=PW.ck P w false l a vs:=by kernel_rfl)(b:PW.fr l a vs=(a',[]):=by exact PW.f3):wpList P ops Q l a w:=PW.go vs (PW.dn h) k b
def PW.bb(h:wpList P l.toArray Q rest a' w)(k:PW.ck P w true l a vs=PW.ck P w false l a vs:=by kernel_rfl)(b:PW.fr l a vs=(a',rest):=by exact PW.f3):(Zg id l.toArray false).wp P Q a w:=PW.begin (PW.go vs h k b)
def PW.bg(h:wpList P l.toArray (Exit.then (c.wp P Q) Q) rest a' w)(k:PW.ck P w true l a vs=PW.ck P w false l a vs:=by kernel_rfl)(b:PW.fr l a vs=(a',rest):=by exact PW.f3):((Zg id l.toArray false).seq c).wp P Q a w:=XL (PW.bb vs h k b)
def PW.rg(h:c.wp P Q a' w)(k:PW.ck P w true l a vs=PW.ck P w false l a vs:=by kernel_rfl)(b:PW.fr l a vs=(a',[]):=by exact PW.f3):((Zg id l.toArray false).seq c).wp P Q a w:=PW.bg vs (PW.dn h) k b
end
end
section
open SPA
variable {P:Nat}[NeZero P]{N:Nat}[NeZero N]
omit [NeZero N] in
theorem SLq.fin{Q:Nat->Prop}{W:XF}{v:XG}{n:Nat}{a:Nat->Nat}(b:Nat->Fin N)(h:SLq Q W v n a)(e:∀i,i<n->a i=(b i).val):SLq Q W v n (λi=>(b i).val):=h.congr e
omit [NeZero N] in
theorem Ln.fin{Q:Nat->Prop}{W:XF}{v:XG}{n:Nat}{a b:Nat->Nat}(c d:Nat->Fin N)(h:Ln Q W v n a b)(e:∀i,i<n->a i=(c i).val)(e':∀i,i<n->b i=(d i).val):Ln Q W v n (λi=>(c i).val) (λi=>(d i).val):=by
 obtain⟨x,y,k,g,f⟩:=h.ex;exact⟨x,y,k,g.congr e,f.congr e'⟩
def Mv(k:1<N)(v i:Nat):v/2^i%2=(btF N v i).val:=by
 exact(Ya (XI (Zi _ dC) k)).symm
def Tj{v i:Nat}(k:1<N):sMi N (v/2^i%2) 1=(btF N v i-1).val:=by
 rw[KX,<-Mv k,show(1:Fin N).val=1 from Ya k]
def UZ{n:Nat}{a:Fin N}{l m:Nat->Fin N}{Gb X:Bs}(C:Fld P)(O:Ord N)(b:∀r:EC.Pt P,On r->mul N r=none)(g:IsP N)(q:0<n)(D:n<=64)(hG:wr (gG P)=Gb)(t:X=wP ((aD C b).ad ((aD C b).ac a (gPG C)) ((aD C b).ad ((aD C b).dt l (gPt C ⟨#[108,101,102,116]⟩) n) ((aD C b).dt m (gPt C ⟨#[114,105,103,104,116]⟩) n)))):
 ∃d lb,(∀W:XF,cZ 32 #[pvl Gb,nv a.val] W (rZ W λe w'=>Sm W.heap.size w' e d)) /\
  (∀(Q:Nat->Prop) (W:XF) (v va c:XG),GRq Q W v n (gGT P) (hGT P) (uGT P)->SLq Q W va n (λi=>(l i).val)->SLq Q W c n (λi=>(m i).val)->cZ 78 #[v,va,c] W (rZ W λe w'=>Sm W.heap.size w' e lb)) /\
  (∀(W:XF) (s z:XG),Sm 0 W s d->Sm 0 W z lb->cZ 31 #[s,z] W (rZ W λe w'=>Sm W.heap.size w' e (d++lb))) /\
  (∀(W:XF) (v:XG),Sm 0 W v (d++lb)->cZ 33 #[v] W (rZ W λe w'=>e=pvl X)):=by
 have o:=xC C g.1 n;have d:=oO C g.1 n;have f:=uH q (by decide:0<1) oM o d (nP C g.1) Nat.one_pos (by show 1<=16;decide);have y:Gb.size=33:=by rw[<-hG];exact aL _
 have t0:Tl N [(a.val,Gb)] ((aD C b).ac a (gPG C)):=by rw[<-hG];exact Tl.pt C b a (gPG C)
 have t1:=(o.cmb C b l).1.app C b (d.cmb C b m).1;have w:(dH N (λi=>(l i).val) (gGT P) n++dH N (λi=>(m i).val) (hGT P) n).length=n+n:=by rw[XP,(o.cmb C b l).2,(d.cmb C b m).2,Z6]
 have t2:=t0.app C b t1;refine⟨_,_,λW=>?_,λ_ W v va c j p x=>yX O n 1 (gGT P) (hGT P) (uGT P) f _ _ (λi _=>(l i).isLt) (λi _=>(m i).isLt) v va c W j p x,λW s z j p=>cA 0 s z _ _ (by simp) (by simp) oM t0.ok.sz t1.ok.sz W (Yd j) (Yd p),λW v hv=>?_⟩
 .apply(lO Gb y a.val W).mono;rintro e W' ⟨u,rfl,B,k,rfl,f,hR⟩;exact⟨_,rfl,B,Sm.one hR f rfl⟩
 .rw[t];exact t2.point C O b (by simp) (by rw[XP,w];simp;omega) hv
def mT(k:1<N)(x:Fin N)(i:Nat):pwN N x.val i=(pwF x i).val:=(Gi k x i).symm
def Rf{R:Rv N}{i:Nat}(k:IsP N)(b:2<N):sPl N (sTi N R.z.val (pwN N R.y.val i)) (sTi N (sTi N R.z.val R.z.val) (pwN N 2 i))=(R.sh i).val:=by
 show _=(R.z*pwF R.y i+R.z*R.z*pwF (ofF N 2) i).val;rw[jS,eW,eW,eW,<-mT k.1,<-mT k.1,show(ofF N 2).val=2 from Ya b]
def pLn(Q:Nat->Prop)(n:Nat)(a b:Nat->Nat):S1:=⟨λv w=>Ln Q w v n a b,λ_ _ _ k h=>h.keep (Kq.of_below k)⟩
omit [NeZero N] in
theorem zC(O:Ord N)(a b:Fin N)(W:XF):cZ 26 #[nv a.val,nv b.val] W (rZ W λe w'=>e=nv (a*b).val):=by
 rw[eW];exact gW O a.val b.val a.isLt b.isLt W
omit [NeZero N] in
theorem SN(O:Ord N)(a b:Fin N)(W:XF):cZ 25 #[nv a.val,nv b.val] W (rZ W λe w'=>e=nv (a+b).val):=by
 rw[jS];exact mP O a.val b.val a.isLt b.isLt W
def nN(O:Ord N)(k:IsP N){y:Fin N}{L:Bs}(h:y=lD N L):chS N L=y.val:=by
 rw[h];exact Hd k.1 (pJ O)
def Uy(b:Nat)(d e:XG)(L:Bs):S1:=⟨λv w=>∃r,v=.tuple #[lgV r,d,e]/\b<=r/\r<w.heap.size/\hZ w r 0 L,λ_ _ _ k ⟨r,f,g,c,i⟩=>⟨r,f,g,XI c k.size,Holds.below i k c⟩⟩
def Uw(b:Nat)(L:Bs):S1:=⟨λv w=>∃r,v=lgV r/\b<=r/\r<w.heap.size/\hZ w r 0 L,λ_ _ _ k ⟨r,d,e,c,f⟩=>⟨r,d,e,XI c k.size,Holds.below f k c⟩⟩
def EO{W:XF}{r k:Nat}{L:Bs}{u:XG}{cs:List XG}(h:hZ W r 0 L)(f:0<L.size)(d:Row W k (u :: cs))(e:∀b:UInt8,encB b≠u):r≠k:=by
 rintro rfl;have c:=(h 0 f).1;have g:=d.2.1 0 u rfl;rw[g]at c;exact e _ (X5.inj c).symm
def hG{α:Sort _}{p:Prop}(x:α)(h:∀y,Hid (x=y)->p):p:=h x rfl
structure RgA(B0 t:Nat)(p:Rp)(Lb Rb:Nat->Bs)(Ab Bb:Bs)(e:XG)(W:XF):Prop where
 ex:∃a b c d u m s vL vR vA vB,e=.agg #[r33 a,r33 b,r33 c,r33 d,r32 u,r32 m,r32 s,vL,vR,vA,vB]/\RgT (λ_=>True) W p a b c d u m s/\TlL (λ_=>True) B0 t W vL Lb/\TlL (λ_=>True) B0 t W vR Rb/\ElQ (λ_=>True) 32 W vA Ab/\ElQ (λ_=>True) 32 W vB Bb
omit [NeZero N] [NeZero P] in
theorem RgA.set{i t k:Nat}{p:Rp}{r Rb:Nat->Bs}{o q:Bs}{e:XG}{W:XF}{us vs:List XG}(h:RgA i t p r Rb o q e W)(A:Row W k (nZ :: vs))(O:k<i):RgA i t p r Rb o q e (W.setCells k 0 us):=by
 obtain⟨a,b,c,d,u,m,s,C,F,H,z,J,f,G,hR,I,w⟩:=h.ex;have kq:Kq (·≠k) W (W.setCells k 0 us):=Kq.set λg l=>l
 have el:∀ {m:Nat}{x:XG}{b:Bs},0<m->ElQ (λ_=>True) m W x b->ElQ (λ_=>True) m (W.setCells k 0 us) x b:=λy hx=>((hx.off y A).keep kq).mono2 λ_ _ _=>trivial
 have v:∀ {n:XG}{B:Nat->Bs},TlL (λ_=>True) i t W n B->TlL (λ_=>True) i t (W.setCells k 0 us) n B:=λhx=>by
  obtain⟨xs,K,E⟩:=hx.ex;refine⟨xs,bG K λg l=>aE us 0 W g (oN ((hx.lt l).1)),λj M=>?_⟩;obtain⟨x,L,D⟩:=E j M;exact⟨x,L,el dC D⟩
 exact⟨a,b,c,d,u,m,s,C,F,H,z,J,⟨el dC f.a,el dC f.b,el dC f.c,el dC f.d,el dC f.e,el dC f.f,el dC f.g⟩,v G,v hR,el dC I,el dC w⟩
def OQ{R:Rv N}{n:Nat}(C:Fld P)(k:∀r:EC.Pt P,On r->mul N r=none)(c:IsP N):Gd N n 1 (qP N R.y.val (hGT P)) (R.hh (aD C k) (gPt C ⟨#[114,105,103,104,116]⟩)):=by
 have g:=oO C c.1 n;refine⟨λi b=>?_,λi b=>by unfold qP;rw[X7];exact g.len i b⟩;have h:=(g.tl i b).tm C k (pwF (ivF R.y) i);rw[<-mT c.1]at h;exact h
def Oe(C:Fld P)(O:Ord N)(k:∀r:EC.Pt P,On r->mul N r=none)(T:IsP N)(t:Nat)(ht:t<=6)(R:Rv N)(hn:R.n=2^t)(hv:R.v<2^64)(hN:18446744073709551616<=N)(sd:List UInt8)(sq:Option Y4)(sn sc:Nat)(V A S C1 C2 L3 L6 L8:Bs)(U:RvL C k R V A S C1 C2 L3 L6 L8)(hS:RvS R sd)(q:Md.Ps Bs (Fin N) (OnP P))(ix:q.s=aX L8)(o0:q.a=R.a)(nj:q.b=R.b)(oh:q.g=gPt C ⟨#[108,101,102,116]⟩)(ms:q.h=R.hh (aD C k) (gPt C ⟨#[114,105,103,104,116]⟩))(u:OnP P)(hu:u=(aD C k).ac R.w (uPt C))(Lb Rb:Nat->Bs)(mj:∀j,Lb j=wP ((aD C k).pLi (chF N) ivF u t q j))(o7:∀j,Rb j=wP ((aD C k).pTi (chF N) ivF u t q j))(Ab Bb:Bs)(mo:Ab=bx (((aD C k).pst (chF N) ivF u t q t).a 0).val)(nl:Bb=bx (((aD C k).pst (chF N) ivF u t q t).b 0).val)(pz:Rp)(Y:Hid (⟨A,S,C1,C2,R.tau.val,R.mu.val,R.t.val⟩=pz))(w:XF)(hp:PartOk w (.slice sq sn sc) sd):
 cZ 42 #[uZ (R.v:Int),nv R.k.val,iZ (R.n:Int),.slice sq sn sc] w (rZ w λe w'=>∃f,w.heap.size<=f/\RgA f t pz Lb Rb Ab Bb e w'):=by
 obtain⟨vr,ha⟩:=hE (nv R.k.val);obtain⟨va,h9⟩:=hE (nv R.al.val);obtain⟨vh,hy⟩:=hE (nv R.rho.val);obtain⟨v1,hl⟩:=hE (nv R.t1.val);obtain⟨v2,hk⟩:=hE (nv R.t2.val);obtain⟨k5,jb⟩:=hE (w.heap.size);obtain⟨w1,jj⟩:=hE (lZ w (wn R.k.val) 44);obtain⟨k8,lw⟩:=hE (w1.heap.size);obtain⟨w2,m6⟩:=hE (lZ w1 z11 66);have K2:=mk1 (((Mp.start w).new jb jj).new lw m6);have B1:Hid ((Yu 44 vr).run prog w=.ok (jZ k5) w1):=ha.out▸jj.out▸jb.out▸boxS;have n:R.n<=64:=by rw[hn];exact XN (Zb dC ht) dC
 have k6:Hid (∀W,kZ w W->PartOk W (.slice sq sn sc) sd):=λW hb=>hp.below hb
 obtain⟨g3,w3,jv,lg,i3⟩:=Ce O dC (k6 w2 K2.bl) hS.al;rw[h9.out]at i3;rw[ha.out];go_enter func42,ntmps42;refine PW.bg [] ?_;refine PW.ns B1 ?_;refine PW.al lw m6 ?_;refine PW.dn ?_;refine PW.bg [] ?_;refine PW.ns jv ?_;refine PW.gi i3 λw4 j7=>?_
 have K4:=mk1 ((K2.grow lg).grow j7);obtain⟨g5,w5,l9,j1,g6⟩:=Ce O dC (k6 w4 K4.bl) hS.rho;rw[hy.out]at g6;clear i3 j7 lg jv K2;refine PW.go [] ?_;refine PW.ns l9 ?_;refine PW.gi g6 λw6 jl=>?_
 have K6:=mk1 ((K4.grow j1).grow jl);clear g6 j1 jl l9 K4;refine hG (w6.heap.size) λk9 iu=>?_
 refine hG (lZ w6 (RG.z 4) 44) λw7 iw=>?_
 refine hG w7.heap.size λn0 d5=>?_
 refine hG (lZ w7 (RG.z 4) 44) λw8 j2=>?_
 refine hG (w8.setCells k9 0 (wn R.al.val)) λw9 ln=>?_
 refine hG (w9.setCells n0 0 (wn R.rho.val)) λl2 dh=>?_
 have K8:=mk1 ((K6.new iu iw).new d5 j2);have K9:=mk1 (K8.put 2 ln);have fy:=mk1 (K9.put 3 dh);refine PW.al iu iw ?_;refine PW.al d5 j2 ?_;refine PW.st ln h9 (K8.th 2) i40 aI ?_;refine PW.st dh hy (K9.th 3) i40 aI ?_;clear K6 K8 K9;refine PW.dn ?_;obtain⟨p9,oz,cj,fa,ko⟩:=Ce O dC (k6 l2 fy.bl) hS.t1;rw[hl.out]at ko;refine PW.bg [] ?_;refine PW.ns cj ?_;refine PW.gi ko λjf co=>?_
 have fn:=mk1 ((fy.grow fa).grow co);obtain⟨pg,pd,dq,df,kx⟩:=Ce O dC (k6 jf fn.bl) hS.t2;rw[hk.out]at kx;clear ko fa co cj fy;refine PW.go [] ?_;refine PW.ns dq ?_;refine PW.gi kx λjm ej=>?_
 have jz:=mk1 ((fn.grow df).grow ej);clear kx df ej dq fn;refine hG (jm.heap.size) λoq f1=>?_
 refine hG (lZ jm (RG.z 4) 44) λl0 cu=>?_
 refine hG l0.heap.size λmb f9=>?_
 refine hG (lZ l0 (RG.z 4) 44) λoj f0=>?_
 refine hG (oj.setCells oq 0 (wn R.t1.val)) λoi e7=>?_
 refine hG (oi.setCells mb 0 (wn R.t2.val)) λly d0=>?_
 have fl:=mk1 ((jz.new f1 cu).new f9 f0);have gj:=mk1 (fl.put 4 e7);have hs:=mk1 (gj.put 5 d0);refine PW.al f1 cu ?_;refine PW.al f9 f0 ?_;refine PW.st e7 hl (fl.th 4) i40 aI ?_;refine PW.st d0 hk (gj.th 5) i40 aI ?_;clear jz fl gj;refine PW.dn ?_;have lo:=mk1 (UM O R.v hv R.n n sd sq sn sc ly (k6 ly hs.bl));refine PW.bg [] ?_;refine PW.ca lo ?_;rintro e lq ⟨dk,xl,yl,rfl,ma,ju⟩;clear lo;obtain⟨nq,mr,rfl,i2,g1⟩:=(ma.fin R.l R.s (λi _=>Mv T.1 R.v i) (λi _=>(hS.s i).symm)).ex;obtain⟨mn,mh,rfl,g2,ih⟩:=(ju.fin R.m R.q (λi _=>Tj T.1) (λi _=>(hS.q i).symm)).ex;clear ma ju;have js:=mk1 ((((hs.gets dk (pqS nq R.n λi=>(R.l i).val) i2).has (pqS mr R.n λi=>(R.s i).val) (g1.mono λg Z=>hs.nk g Z)).has (pqS mn R.n λi=>(R.m i).val) (g2.mono λg Z=>hs.nk g Z)).has (pqS mh R.n λi=>(R.q i).val) (ih.mono λg Z=>hs.nk g Z));obtain⟨k0,kd,b5,L⟩:=(cB i2).2;obtain⟨kp,kj,k7,p⟩:=(cB g1).2;obtain⟨ke,kv,b4,e3⟩:=(cB g2).2;obtain⟨k3,kw,b2,e4⟩:=(cB ih).2;subst L p e3 e4;clear i2 g1 g2 ih dk hs;refine PW.go [.agg #[qZ k0 kd R.n b5,qZ kp kj R.n k7],.agg #[qZ ke kv R.n b4,qZ k3 kw R.n b2]] ?_;refine hG (lq.heap.size) λc4 ea=>?_
 refine hG (lq.alloc (.cells [nZ,nZ].toArray 145)) λj3 dd=>?_
 refine hG j3.heap.size λbc d9=>?_
 refine hG (j3.alloc (.cells [nZ,nZ].toArray 145)) λn5 fg=>?_
 refine hG (n5.setCells c4 0 [qZ k0 kd R.n b5,qZ kp kj R.n k7]) λmq dl=>?_
 refine hG (mq.setCells bc 0 [qZ ke kv R.n b4,qZ k3 kw R.n b2]) λmd dm=>?_
 have g4:=mk1 ((js.new ea dd).new d9 fg);have gz:=mk1 (g4.put 6 dl);have jo:=mk1 (gz.put 7 dm);refine PW.al ea dd ?_;refine PW.al d9 fg ?_;refine PW.st dl (Hid.mk' rfl) (g4.th 6) iLi kR ?_;refine PW.st dm (Hid.mk' rfl) (gz.th 7) iLi kR ?_;clear js g4 gz;refine PW.dn ?_;have HG:=mk1 (zB (P:=P) C R.n oM md);refine PW.bg [] ?_;refine PW.ca HG ?_;rintro e ng ⟨e0,hG⟩;clear HG;obtain⟨q1,q2,q3,rfl,l4,jp,l5⟩:=hG.ex;obtain⟨ga,oa,ca,L⟩:∃g o c,q1=qZ g o R.n c:=by obtain⟨g,o,c,h,-⟩:=l4;exact⟨g,o,c,h⟩
 obtain⟨gb,ob,cb,p⟩:∃g o c,q2=qZ g o R.n c:=by obtain⟨g,o,c,h,-⟩:=jp;exact⟨g,o,c,h⟩
 obtain⟨gc,mc,cc,e3⟩:∃g m c,q3=sZ g m c:=by obtain⟨g,c,h,-⟩:=l5;exact⟨g,_,c,h⟩
 subst L p e3;have m7:=mk1 (jo.gets e0 (pqG _ R.n (gGT P) (hGT P) (uGT P)) hG);clear hG l4 jp l5 e0 jo;have k1:=mk1 (Qk (P:=P) C ng);refine hG (wr (gG P)) λGb bp=>?_
 have i0:Gb.size=33:=bp.out▸aL _;refine hG (pvl Gb) λvG hr=>?_
 rw[bp.out,hr.out]at k1;refine PW.gi k1 λjw es=>?_
 have ja:=mk1 (m7.grow es);clear k1 m7 es;refine hG (jw.heap.size) λo8 ci=>?_
 refine hG (jw.alloc (.cells [nZ,nZ,nZ].toArray 150)) λl7 er=>?_
 refine hG l7.heap.size λnu cq=>?_
 refine hG (lZ l7 z33 51) λmy cy=>?_
 refine hG (my.setCells o8 0 [qZ ga oa R.n ca,qZ gb ob R.n cb,sZ gc mc cc]) λol dx=>?_
 refine hG (ol.setCells nu 0 (aA Gb)) λjh f4=>?_
 have fq:=mk1 ((ja.new ci er).new cq cy);have il:=mk1 (fq.put 8 dx);have lG:(aA Gb).length=z33.length:=aB i0;have m5:=mk1 (il.put 9 f4 rfl lG);refine PW.al ci er ?_;refine PW.al cq cy ?_;refine PW.st dx (Hid.mk' rfl) (fq.th 8) iGr kR ?_;refine PW.st f4 hr (il.th 9 rfl lG) (by rw[aB i0];exact iCP) bQ ?_;clear ja fq il;refine PW.dn ?_;refine hG (jh.heap.size) λl d4=>?_
 refine hG (lZ jh rp0.l 153) λpj ef=>?_
 have fs:=mk1 (m5.new d4 ef);clear m5;refine PW.bg [] ?_;refine PW.al d4 ef ?_;refine PW.dn ?_;have i4:0<R.n:=by rw[hn];exact yAJ dC
 have sA:A.size=33:=by rw[U.eA];exact aL _
 have sS:S.size=33:=by rw[U.eS];exact aL _
 have iG:gZ 51 (aA Gb).length:=by rw[aB i0];exact iCP
 obtain⟨la,lb,cT,cL,cP,cX⟩:=UZ C O k T i4 n bp U.eA;have HX:=mk4 cT cL cP cX;clear cT cL cP cX;rw[h9.out,hr.out]at HX;refine hG (pvl A) λvA hvA=>?_
 rw[hvA.out]at HX;refine XL<|AW.beg 12 12 fs.drew ?_
 refine AW.ro 0 (λW h=>(h.at_ 9).2.1) hr uCP iG ?_;refine AW.ro 1 (λW h=>(h.at_ 2).2.1) h9 u40 i40 ?_;refine AW.ro 3 (cs:=[qZ ga oa R.n ca,qZ gb ob R.n cb,sZ gc mc cc]) (λW h=>(h.at_ 8).2.1) (Hid.mk' rfl) uGr iGr ?_;refine AW.va 4 (jZ c4) ?_;refine AW.ce 5 uSl (λW h=>(h.at_ 6).2.1 0 _ rfl) ?_;refine AW.va 6 (jZ bc) ?_;refine AW.ce 7 uSl (λW h=>(h.at_ 7).2.1 0 _ rfl) ?_;refine AW.ca 2 (λ_=>HX.1 _) (λe w' h=>h.1) ?_;rintro e ou ⟨cg,cz⟩;refine AW.ca 8 (λh=>HX.2.1 _ _ _ _ _ (h.get 4) (h.get 0) (h.get 2)) (λe w' h=>h.1) ?_;rintro p pi ⟨kr,d8⟩;refine AW.ca 9 (λh=>HX.2.2.1 _ _ _ ((cz.q.keep (Kq.of_below kr)).sm) d8.q.sm) (λe w' h=>h.1) ?_;rintro e3 pc ⟨da,cx⟩;refine AW.gi 10 (λh=>HX.2.2.2 _ _ cx.q.sm) λoo f7=>?_
 have gk:=mk1 ((((fs.drew.grow cg).grow kr).grow da).grow f7);clear cg kr da f7 cz d8 cx fs HX;refine AW.nx 11 (jZ l) ?_;refine hG (oo.setCells l 0 (aA A)) λpb km=>?_
 have b8:=mk1 (Rp.WB J2 (gk.at_ 10) sA);refine hG ({ rp0 with a:=A }:Rp) λp1 ge=>?_
 rw[ge.out]at b8;have gn:=mk1 (gk.upd 10 km b8.2.1);refine AW.fi (us:=aA A) hvA bQ (by rw[aB sA];exact iCP) (λ_=>⟨b8.1,?_⟩);rw[km.out];clear gk km;obtain⟨la,lb,cT,cL,cP,cX⟩:=UZ C O k T i4 n bp U.eS;have HX:=mk4 cT cL cP cX;clear cT cL cP cX;rw[hy.out,hr.out]at HX;refine hG (pvl S) λvS lx=>?_
 rw[lx.out]at HX;refine XL<|AW.beg 12 12 gn.drew ?_
 refine AW.ro 0 (λW h=>(h.at_ 9).2.1) hr uCP iG ?_;refine AW.ro 1 (λW h=>(h.at_ 3).2.1) hy u40 i40 ?_;refine AW.ro 3 (cs:=[qZ ga oa R.n ca,qZ gb ob R.n cb,sZ gc mc cc]) (λW h=>(h.at_ 8).2.1) (Hid.mk' rfl) uGr iGr ?_;refine AW.va 4 (oZ c4 1) ?_;refine AW.ce 5 uSl (λW h=>(h.at_ 6).2.1 1 _ rfl) ?_;refine AW.va 6 (oZ bc 1) ?_;refine AW.ce 7 uSl (λW h=>(h.at_ 7).2.1 1 _ rfl) ?_;refine AW.ca 2 (λ_=>HX.1 _) (λe w' h=>h.1) ?_;rintro e ot ⟨du,ew⟩;refine AW.ca 8 (λh=>HX.2.1 _ _ _ _ _ (h.get 4) (h.get 1) (h.get 3)) (λe w' h=>h.1) ?_;rintro p pa ⟨ku,eo⟩;refine AW.ca 9 (λh=>HX.2.2.1 _ _ _ ((ew.q.keep (Kq.of_below ku)).sm) eo.q.sm) (λe w' h=>h.1) ?_;rintro e3 pe ⟨db,d7⟩;refine AW.gi 10 (λh=>HX.2.2.2 _ _ d7.q.sm) λny ei=>?_
 have ij:=mk1 ((((gn.drew.grow du).grow ku).grow db).grow ei);clear du ku db ei ew eo d7 gn HX;refine AW.nx 11 (oZ l 33) ?_;refine hG (ny.setCells l 33 (aA S)) λkl kk=>?_
 have hq:=mk1 (Rp.sets b8.2.2 (ij.at_ 10) sS);refine hG ({ p1 with s:=S }:Rp) λp2 fh=>?_
 rw[fh.out]at hq;have bk:=mk1 (ij.upd 10 kk hq.2.1);refine AW.fi (us:=aA S) lx bQ (by rw[aB sS];exact iCP) (λ_=>⟨hq.1,?_⟩);rw[kk.out];clear ij kk;refine hG (aX (aX L3)) λL5 gv=>?_
 have s5:L5.size=32:=gv.out▸bD;have sV:V.size=33:=by rw[U.eV];exact aL _
 refine hG (Yg p2.l.toArray) λvp jd=>?_
 refine hG (pvl V) λvV lc=>?_
 refine hG (nv R.v) λvn m4=>?_
 refine hG (nv R.y.val) λvy M=>?_
 refine hG (nv R.z.val) λvz h0=>?_
 have fe:Hid (∀W,cZ 79 #[vp,vV,iZ (R.n:Int)] W (rZ W λe w'=>∃r,e=.tuple #[lgV r,vy,vz]/\W.heap.size<=r/\hZ w' r 0 L5)):=λW=>by
  have h:=Qv O p2 hq.2.2 V sV R.n oM W;rw[show bgL V R.n p2.a p2.s=L3 fh.out▸ge.out▸U.l3.symm,nN O T U.y,nN O T U.z,gv.out,jd.out,lc.out,M.out,h0.out]at h;exact h
 have et:Hid (∀W,cZ 14 #[vn,vr] W (rZ W λe w'=>e=vV)):=λW=>by
  have h:=mE C O (a:=R.v) (b:=R.k.val) oM R.k.isLt W;have e:(ofF N R.v).val=R.v:=Ya oM;have p:=zN C k (ofF N R.v) R.k;rw[e]at p;rw[p,show wP ((aD C k).cm (hPV C) (gPG C) (ofF N R.v) R.k)=V from U.eV.symm,m4.out,ha.out,lc.out]at h;exact h
 have j6:Hid (∀W,cZ 15 #[uZ (R.v:Int)] W (rZ W λe w'=>e=vn)):=λW=>by
  rw[<-m4.out];exact rX R.v hv W
 refine hG kl.heap.size λb hb=>?_
 have kc:∀ {W},kZ kl W->b<=W.heap.size:=λh=>hb.out ▸ h.size
 apply XL;refine(gwL [pE vp,pE (uZ (R.v:Int)),pE vn,pE vr,pE vV,pE (iZ (R.n:Int)),Uy b vy vz L5,Uy b vy vz L5,Uw b L5,pE vy,pE vz,RG.pN b [.pointer none],RG.pN b (RG.z 4),RG.pN b (RG.z 4)] (λW=>kZ kl W) (λW W' hb h=>h.trans (hb.mono h.size))).late 14 [9,10] (λj hj=>by
  rcases Zc.1 hj with rfl|hj
  .exact late1 15 7 75 λv W ⟨r,e,_⟩=>⟨vy,rfl,λo ho W'=>by
    cases ho
    rw[e];kernel_rfl⟩
  .obtain rfl:=Ze.1 hj;exact late1 16 7 75 λv W ⟨r,e,_⟩=>⟨vz,rfl,λo ho W'=>by
    cases ho
    rw[e];kernel_rfl⟩) (FG ⟨al1 [.pointer none] 159 yM,al1 (RG.z 4) 44 yM,al1 (RG.z 4) 44 yM,yE5⟩) kR kR kR ⟨
  gLo (cs:=p2.l) 17 (λW f=>((bk.grow f).at_ 10).2.1) uRd (by rw[Rp.len hq.2.2];exact iRd) (hR:=λ_=>jd),
  gO 0 (uZ (R.v:Int)),
  oL 1 77 15 (λx=>#[x]) (λx W L f=>by
   obtain rfl:x=uZ (R.v:Int):=L;exact j6 W),
  gLo (cs:=wn R.k.val) 5 (λW f=>((bk.grow f).at_ 0).2.1) u40 i40 (hR:=λ_=>ha),
  eF 2 78 3 79 14 (λx y=>#[x,y]) (λx u W L p f=>by
   obtain rfl:x=vn:=L;obtain rfl:u=vr:=p;exact et W),
  gO 2 (iZ (R.n:Int)),
  nJ 0 76 4 80 5 81 79 (λx y z=>#[x,y,z]) (λx u z W L p e3 f=>by
   obtain rfl:x=vp:=L;obtain rfl:u=vV:=p;obtain rfl:z=iZ (R.n:Int):=e3;apply(fe W).mono;rintro e W' ⟨H,rfl,E,r,J,B,D⟩;exact⟨_,rfl,E,r,J,XN (kc f) B,Holds.lt D (by rw[s5];decide),D⟩),
  Dk 6 82 id (λx W h=>h),
  bL λa W hp=>by
   obtain⟨r,e,E,J,B⟩:=hp.n 7 75 kR kR;exact⟨[(75,.tuple #[lgV r,vy,vz])],lgV r,W,⟨e,yE5⟩,kR,XX _ _,r,rfl,E,J,B⟩,
  bL λa W hp=>by
   obtain⟨r,e,E,J,B⟩:=hp.n 7 75 kR kR;exact⟨[(75,.tuple #[lgV r,vy,vz])],vy,W,⟨e,yE5⟩,kR,XX _ _,rfl⟩,
  bL λa W hp=>by
   obtain⟨r,e,E,J,B⟩:=hp.n 7 75 kR kR;exact⟨[(75,.tuple #[lgV r,vy,vz])],vz,W,⟨e,yE5⟩,kR,XX _ _,rfl⟩,
  uG [.pointer none] 159 (λW W' h f=>⟨_,rfl,kc f,h⟩),
  uG (RG.z 4) 44 (λW W' h f=>⟨_,rfl,kc f,h⟩),
  uG (RG.z 4) 44 (λW W' h f=>⟨_,rfl,kc f,h⟩),yE5⟩ ⟨rfl,rfl,rfl,XH _,λ_ _=>rfl⟩ ?_
 intro X om hR f hD;obtain⟨r,e8,lr,iy,Hr⟩:=hR 8 dC;have e9:X 9=vy:=hR 9 dC;have jx:X 10=vz:=hR 10 dC;obtain⟨kf,c5,fu,gs⟩:=hR 11 dC;obtain⟨hz,b9,fx,i9⟩:=hR 12 dC;obtain⟨ki,c8,ig,ie⟩:=hR 13 dC;have d1:=hD 11 12 dC dC dC kR kR kR kR;have d2:=hD 11 13 dC dC dC kR kR kR kR;have d3:=hD 12 13 dC dC dC kR kR kR kR;rw[c5,b9]at d1;rw[c5,c8]at d2;rw[b9,c8]at d3;have n1:kf≠hz:=λe=>d1 (by rw[e])
 have n2:kf≠ki:=λe=>d2 (by rw[e])
 have n3:hz≠ki:=λe=>d3 (by rw[e])
 have m1:r≠kf:=EO Hr (by rw[s5];decide) gs (λb e=>by cases e);have m2:r≠hz:=EO Hr (by rw[s5];decide) i9 (λb e=>by cases e);have m3:r≠ki:=EO Hr (by rw[s5];decide) ie (λb e=>by cases e);rw[<-hb.out]at lr fu fx ig;have gq:=mk1 (bk.adds f [(kf,[.pointer none]),(hz,RG.z 4),(ki,RG.z 4),(r,aA L5)] (by simp;omega) (λx hx=>by
  simp only[Zc,Yf,or_false]at hx;rcases hx with rfl|rfl|rfl|rfl
  .exact⟨fu,gs⟩
  .exact⟨fx,i9⟩
  .exact⟨ig,ie⟩
  .exact⟨lr,qV Hr iy⟩))
 dsimp only[bY,YQ,Z4,Z5];simp only[Yo,XJ,XM,XO];rw[e8,e9,jx,c5,b9,c8];clear hR hD d1 d2 d3 n1 n2 n3 m1 m2 m3 fu fx ig lr iy Hr gs i9 ie f e8 e9 jx c5 b9 c8 bk fe et j6;refine hG (om.setCells kf 0 [jZ r]) λo3 fb=>?_
 refine hG (o3.setCells hz 0 (wn R.y.val)) λo9 dw=>?_
 refine hG (o9.setCells ki 0 (wn R.z.val)) λml ed=>?_
 have ib:=mk1 (gq.put 11 fb);have gr:=mk1 (ib.put 12 dw);have kh:=mk1 (gr.put 13 ed);refine PW.st fb (Hid.mk' rfl) (gq.th 11) iLg kR ?_;refine PW.st dw M (ib.th 12) i40 aI ?_;refine PW.st ed h0 (gr.th 13) i40 aI ?_;clear gq ib gr kc hb;refine PW.dn ?_;have J:2<N:=oM;have gm:=mk1 (Gf O J R.y.isLt R.z.isLt R.n oM ml);rw[M.out,h0.out]at gm;refine PW.bg [] ?_;refine PW.ro (kh.at_ 12).2.1 M u40 i40 ?_;refine PW.ro (kh.at_ 13).2.1 h0 u40 i40 ?_;refine PW.go [] ?_;refine PW.ca gm ?_;rintro e j0 ⟨ff,ls,rs,rfl,c9,bd⟩;clear gm;replace c9:=c9.fin (λ_=>-R.z) (λi _=>(EL R.z).symm);replace bd:=bd.fin R.sh (λi _=>Rf T J);have D:=mk1 ((kh.gets ff (pqS ls R.n λ_=>(-R.z).val) c9).has (pqS rs R.n λi=>(R.sh i).val) (bd.mono λg Z=>kh.nk g Z));clear c9 bd ff kh;refine PW.en [ls,rs,ls,rs] ?_;obtain⟨Q,F⟩:=D.q;apply XL;refine(gwL [pE (.agg #[qZ k0 kd R.n b5,qZ kp kj R.n k7]),pE ls,pLn Q R.n (λi=>(R.a0 i).val) (λi=>(R.s i).val),pE (.agg #[qZ ke kv R.n b4,qZ k3 kw R.n b2]),pE vy,pE (iZ (R.n:Int)),RG.pS Q R.n (pwN N R.y.val),pLn Q R.n (λi=>sTi N (R.m i).val (pwN N R.y.val i)) (λi=>sTi N (R.q i).val (pwN N R.y.val i)),pE rs,pLn Q R.n (λi=>(R.b0 i).val) (λi=>(R.b1 i).val)] (λW=>kZ j0 W) (λW W' hb h=>h.trans (hb.mono h.size))).tail2 10 kR kR kR ⟨
  gLo (cs:=[qZ k0 kd R.n b5,qZ kp kj R.n k7]) 13 (λW f=>((D.grow f).at_ 6).2.1) uLi iLi,
  gO 21 ls,
  eF 0 93 1 94 81 (λx y=>#[x,y]) (λx u W L p f=>by
   obtain rfl:x=.agg #[qZ k0 kd R.n b5,qZ kp kj R.n k7]:=L;obtain rfl:u=ls:=p;have K:=D.grow f;apply(P6 O n (λi _=>(R.l i).isLt) (λi _=>(-R.z).isLt) (⟨_,_,rfl,K.wL F 0,K.wL F 1⟩:Ln Q W _ R.n _ _) (K.wL F 5)).mono;rintro e W' ⟨H,rfl,E,J⟩;exact⟨_,rfl,E,(J.mono λg Z=>Z.elim id (K.nkq F g)).fin R.a0 R.s (λi _=>(jS (R.l i) (-R.z)).symm) (λ_ _=>rfl)⟩),
  gLo (cs:=[qZ ke kv R.n b4,qZ k3 kw R.n b2]) 14 (λW f=>((D.grow f).at_ 7).2.1) uLi iLi,
  gLo (cs:=wn R.y.val) 19 (λW f=>((D.grow f).at_ 12).2.1) u40 i40 (hR:=λ_=>M),
  gO 2 (iZ (R.n:Int)),
  eF 4 97 5 98 83 (λx y=>#[x,y]) (λx u W L p f=>by
   obtain rfl:x=vy:=L;obtain rfl:u=iZ (R.n:Int):=p;rw[<-M.out];exact(PX O R.y.isLt oM).mono λe W' ⟨v,E,J,B⟩=>⟨v,E,J,B.mono λg Z=>(D.grow f).nkq F g Z⟩),
  eF 3 96 6 99 82 (λx y=>#[x,y]) (λx u W L p f=>by
   obtain rfl:x=.agg #[qZ ke kv R.n b4,qZ k3 kw R.n b2]:=L;have K:=D.grow f;apply(UK O n (λi _=>(R.m i).isLt) (λi _=>(R.q i).isLt) (λi _=>yJ O i) (⟨_,_,rfl,K.wL F 2,K.wL F 3⟩:Ln Q W _ R.n _ _) p).mono;rintro e W' ⟨H,rfl,E,J⟩;exact⟨_,rfl,E,J.mono λg Z=>K.nkq F g Z⟩),
  gO 22 rs,
  eF 7 100 8 101 81 (λx y=>#[x,y]) (λx u W L p f=>by
   obtain rfl:u=rs:=p;have K:=D.grow f;apply(P6 O n (λi _=>Zi _ O.pos) (λi _=>(R.sh i).isLt) L (K.wL F 6)).mono;rintro e W' ⟨H,rfl,E,J⟩;refine⟨_,rfl,E,(J.mono λg Z=>Z.elim id (K.nkq F g)).fin R.b0 R.b1 (λi _=>?_) (λi _=>?_)⟩
   .show _=(R.m i*pwF R.y i+R.sh i).val;rw[jS,eW,<-mT T.1];rfl
   .show _=(R.q i*pwF R.y i).val;rw[eW,<-mT T.1]),yE5⟩ ⟨rfl,rfl,rfl,XH _,λ_ _=>rfl⟩ ?_
 intro X nh hR f;obtain⟨nz,n7,p,G,I⟩:=(hR 2 dC).ex;obtain⟨o6,nm,e9,gg,im⟩:=(hR 9 dC).ex;have ft:=mk1 (((((D.grow f).OM F (pqS nz R.n λi=>(R.a0 i).val) G).OM F (pqS n7 R.n λi=>(R.s i).val) I).OM F (pqS o6 R.n λi=>(R.b0 i).val) gg).OM F (pqS nm R.n λi=>(R.b1 i).val) im);obtain⟨c0,bs,bn,e3⟩:=(cB G).2;obtain⟨bo,bq,be,e4⟩:=(cB I).2;obtain⟨cd,b6,c6,e5⟩:=(cB gg).2;obtain⟨bt,br,bz,e6⟩:=(cB im).2;subst e3 e4 e5 e6;dsimp only[bY,YQ,Z4,Z5];simp only[Yo,XJ,XM,XO];rw[p,e9];clear hR f G I gg im p e9 D F;refine hG (nh.setCells c4 0 [qZ c0 bs R.n bn,qZ bo bq R.n be]) λn4 em=>?_
 refine hG (n4.setCells bc 0 [qZ cd b6 R.n c6,qZ bt br R.n bz]) λkt cv=>?_
 have gw:=mk1 (ft.put 6 em);have K:=mk1 (gw.put 7 cv);refine PW.st em (Hid.mk' rfl) (ft.th 6) iLi kR ?_;refine PW.st cv (Hid.mk' rfl) (gw.th 7) iLi kR ?_;clear ft gw;refine PW.dn ?_;refine hG (nv R.c1.val) λgy h8=>?_
 refine hG (nv R.c2.val) λik h7=>?_
 have jc:Hid (cZ 84 #[.agg #[qZ c0 bs R.n bn,qZ bo bq R.n be],.agg #[qZ cd b6 R.n c6,qZ bt br R.n bz]] kt (rZ kt λe w'=>e=.tuple #[gy,ik])):=by
  have h:=UL O n (λi _=>⟨(R.a0 i).isLt,(R.s i).isLt,(R.b0 i).isLt,(R.b1 i).isLt⟩) (⟨_,_,rfl,K.get 7,K.get 8⟩:Ln _ kt _ R.n _ _) (⟨_,_,rfl,K.get 9,K.get 10⟩:Ln _ kt _ R.n _ _);rw[kP,kP,kP,<-jS,show Md.pr R.a0 R.b1 R.n+Md.pr R.s R.b0 R.n=R.c1 from rfl,show Md.pr R.s R.b1 R.n=R.c2 from rfl,h8.out,h7.out]at h;exact h
 refine PW.bg [] ?_;refine PW.ro (cs:=[qZ c0 bs R.n bn,qZ bo bq R.n be]) (K.at_ 6).2.1 (Hid.mk' rfl) uLi iLi ?_;refine PW.ro (cs:=[qZ cd b6 R.n c6,qZ bt br R.n bz]) (K.at_ 7).2.1 (Hid.mk' rfl) uLi iLi ?_;refine PW.gi jc λj9 ds=>?_
 have lh:=mk1 (K.grow ds);clear jc ds K;refine PW.go [gy,ik] ?_;refine hG (j9.heap.size) λn8 dz=>?_
 refine hG (lZ j9 (RG.z 4) 44) λl1 fd=>?_
 refine hG l1.heap.size λmm dy=>?_
 refine hG (lZ l1 (RG.z 4) 44) λmz f5=>?_
 refine hG (mz.setCells n8 0 (wn R.c1.val)) λmt ct=>?_
 refine hG (mt.setCells mm 0 (wn R.c2.val)) λpf cp=>?_
 have fj:=mk1 ((lh.new dz fd).new dy f5);have gt:=mk1 (fj.put 15 ct);have fp:=mk1 (gt.put 16 cp);refine PW.al dz fd ?_;refine PW.al dy f5 ?_;refine PW.st ct h8 (fj.th 15) i40 aI ?_;refine PW.st cp h7 (gt.th 16) i40 aI ?_;clear lh fj gt;refine PW.dn ?_;have sC:C1.size=33:=by rw[U.e1];exact aL _
 have sD:C2.size=33:=by rw[U.e2];exact aL _
 refine hG (pvl C1) λvC lv=>?_
 refine hG (pvl C2) λvD lm=>?_
 have ir:Hid (∀W,cZ 14 #[gy,v1] W (rZ W λe w'=>e=vC)):=λW=>by
  have h:=mE C O R.c1.isLt R.t1.isLt W;rw[zN C k R.c1 R.t1,show wP ((aD C k).cm (hPV C) (gPG C) R.c1 R.t1)=C1 from U.e1.symm,h8.out,hl.out,lv.out]at h;exact h
 have jg:Hid (∀W,cZ 14 #[ik,v2] W (rZ W λe w'=>e=vD)):=λW=>by
  have h:=mE C O R.c2.isLt R.t2.isLt W;rw[zN C k R.c2 R.t2,show wP ((aD C k).cm (hPV C) (gPG C) R.c2 R.t2)=C2 from U.e2.symm,h7.out,hk.out,lm.out]at h;exact h
 refine XL<|AW.beg 9 9 (fp.drew.wk 10) ?_
 refine AW.ro 0 (λW ⟨_,h⟩=>(h.at_ 15).2.1) h8 u40 i40 ?_;refine AW.ro 1 (λW ⟨_,h⟩=>(h.at_ 4).2.1) hl u40 i40 ?_;refine AW.ro 3 (λW ⟨_,h⟩=>(h.at_ 16).2.1) h7 u40 i40 ?_;refine AW.ro 4 (λW ⟨_,h⟩=>(h.at_ 5).2.1) hk u40 i40 ?_;refine AW.gi 2 (λ_=>ir _) λph dp=>?_
 refine AW.va 6 (oZ l 66) ?_;refine AW.gi 5 (λ_=>jg _) λnb eu=>?_
 have gh:=mk1 ((fp.drew.grow dp).grow eu);clear dp eu fp ir jg;refine hG (nb.setCells l 66 (aA C1)) λo5 eh=>?_
 refine hG (o5.setCells l 99 (aA C2)) λg9 ec=>?_
 have kz:=mk1 (Rp.WA hq.2.2 (gh.at_ 10) sC);refine hG ({ p2 with c:=C1 }:Rp) λp3 fk=>?_
 rw[fk.out]at kz;have bu:=mk1 (gh.upd 10 eh kz.2.1);have h5:=mk1 (Rp.Wz kz.2.2 (bu.at_ 10) sD);refine hG ({ p3 with d:=C2 }:Rp) λp4 g7=>?_
 rw[g7.out]at h5;have hw:=mk1 (bu.upd 10 ec h5.2.1);refine AW.ss 7 lv bQ (by rw[aB sC];exact iCP) eh (λ_=>⟨kz.1,bu.wk 10⟩) ?_;refine AW.nx 8 (oZ l 99) ?_;refine AW.ss 9 lm bQ (by rw[aB sD];exact iCP) ec (λ_=>⟨h5.1,hw.wk 10⟩) ?_;refine AW.dn λ_=>?_
 clear gh bu kz;refine hG (aX L6) λL7 fm=>?_
 have s7:L7.size=32:=fm.out▸bD;refine hG (nv R.x.val) λvx B=>?_
 refine hG (Yg p4.l.toArray) λvq jq=>?_
 refine hG (lgV r) λvl hm=>?_
 have j5:Hid (cZ 85 #[vq,vl] g9 (Ret λe w'=>SP.Only r 0 32 g9 w'/\hZ w' r 0 L7/\e=vx)):=by
  have h:=P5 O p4 h5.2.2 r L5 g9 (hw.log 14) s5;rw[<-gv.out,show mdL (aX (aX L3)) p4.c p4.d=L6 g7.out▸fk.out▸U.l6.symm,nN O T U.x,fm.out,jq.out,hm.out,B.out]at h;exact h
 refine PW.bg [] ?_;refine PW.ro (cs:=p4.l) (hw.at_ 10).2.1 jq uRd (by rw[Rp.len h5.2.2];exact iRd) ?_;refine PW.ro (hw.at_ 11).2.1 hm uLg iLg ?_;refine PW.ca j5 ?_;rintro e m0 ⟨hO,hH,he⟩;obtain rfl:=he.symm;have jt:=mk1 (hw.say 14 hO hH);clear j5 hO hH hw;refine hG (m0.heap.size) λo1 cn=>?_
 refine hG (lZ m0 (RG.z 4) 44) λnc ek=>?_
 refine hG (nc.setCells o1 0 (wn R.x.val)) λov f6=>?_
 have gu:=mk1 (jt.new cn ek);have ii:=mk1 (gu.put 17 f6);refine PW.al cn ek ?_;refine PW.st f6 B (gu.th 17) i40 aI ?_;clear jt gu;refine PW.dn ?_;have i6:Hid (∀(a b c:Nat->Fin N) (v:XG) (Q:Nat->Prop) (W:XF),(∀i,c i=a i+b i*R.x)->Ln Q W v R.n (λi=>(a i).val) (λi=>(b i).val)->cZ 86 #[v,vx] W (rZ W λe w'=>SLq (W.heap.size<=·) w' e R.n (λi=>(c i).val))):=λa b c v Q W hc h=>by
  have h:=UP O n (λi _=>(a i).isLt) (λi _=>(b i).isLt) R.x.isLt h;rw[B.out]at h;refine h.mono ?_;rintro e w' ⟨H,rfl,E,J⟩;exact⟨_,rfl,E,J.fin c λi _=>by rw[hc,jS,eW]⟩
 refine XL<|AW.beg 7 7 ii.drew ?_
 refine AW.ro 0 (cs:=[qZ c0 bs R.n bn,qZ bo bq R.n be]) (λW h=>(h.at_ 6).2.1) (Hid.mk' rfl) uLi iLi ?_;refine AW.ro 1 (λW h=>(h.at_ 17).2.1) B u40 i40 ?_;refine AW.ro 3 (cs:=[qZ cd b6 R.n c6,qZ bt br R.n bz]) (λW h=>(h.at_ 7).2.1) (Hid.mk' rfl) uLi iLi ?_;refine AW.ro 4 (λW h=>(h.at_ 17).2.1) B u40 i40 ?_;refine AW.ca 2 (λh=>i6 R.a0 R.s R.a _ _ _ (λ_=>rfl) (⟨_,_,rfl,h.get 7,h.get 8⟩:Ln _ _ _ R.n _ _)) (λe w' h=>h.1) ?_;rintro av ox ⟨eg,ll⟩;refine AW.ca 5 (λh=>i6 R.b0 R.b1 R.b _ _ _ (λ_=>rfl) (⟨_,_,rfl,h.get 9,h.get 10⟩:Ln _ _ _ R.n _ _)) (λe w' h=>h.1) ?_;rintro bv bf ⟨ey,m8⟩;have ip:=mk1 (ii.drew.gets eg (pqS av R.n λi=>(R.a i).val) ll);have bi:=mk1 (ip.gets ey (pqS bv R.n λi=>(R.b i).val) m8);clear i6 eg ey ll m8 ii ip;refine AW.nx 6 av ?_;refine AW.nx 7 bv ?_;refine AW.dn λ_=>?_
 refine hG (nv R.t.val) λvt jn=>?_
 have ji:Hid (cZ 87 #[av,bv] bf (rZ bf λe w'=>e=vt)):=by
  have h:=Cc O R.n oM (λi=>(R.a i).val) (λi=>(R.b i).val) (λi _=>(R.a i).isLt) (λi _=>(R.b i).isLt) av bv bf (bi.get 11) (bi.get 12);rw[kP,show Md.pr R.a R.b R.n=R.t from rfl,jn.out]at h;exact h
 refine PW.bg [] ?_;refine PW.gi ji λmf d6=>?_
 have ic:=mk1 (bi.grow d6);clear ji d6 bi;refine PW.go [oZ l 140] ?_;refine hG (mf.setCells l 140 (wn R.t.val)) λow eb=>?_
 have kb:=mk1 (Rp.Wx h5.2.2 (ic.at_ 10) R.t.val);refine hG ({ p4 with t:=R.t.val }:Rp) λp5 je=>?_
 rw[je.out]at kb;have g8:=mk1 (ic.upd 10 eb kb.2.1);refine PW.st eb jn kb.1 i40 aI ?_;clear ic h5;refine PW.dn ?_;refine hG (nv (R.t1*R.x).val) λu1 o4=>?_
 refine hG (nv (R.t2*R.x).val) λu2 nn=>?_
 refine hG (nv (R.t2*R.x*R.x).val) λu3 n9=>?_
 refine hG (nv (R.t1*R.x+R.t2*R.x*R.x).val) λu4 nf=>?_
 refine hG (nv (R.z*R.z).val) λu5 mw=>?_
 refine hG (nv (R.z*R.z*R.k).val) λu6 oc=>?_
 refine hG (nv R.tau.val) λu7 j4=>?_
 have HT:=mk7 (λW=>zC O R.t1 R.x W) (λW=>zC O R.t2 R.x W) (λW=>zC O (R.t2*R.x) R.x W) (λW=>SN O (R.t1*R.x) (R.t2*R.x*R.x) W) (λW=>zC O R.z R.z W) (λW=>zC O (R.z*R.z) R.k W) (λW=>SN O (R.t1*R.x+R.t2*R.x*R.x) (R.z*R.z*R.k) W);rw[show R.t1*R.x+R.t2*R.x*R.x+R.z*R.z*R.k=R.tau from rfl,o4.out,nn.out,n9.out,nf.out,mw.out,oc.out,j4.out,hl.out,hk.out,B.out,h0.out,ha.out]at HT;refine XL<|AW.beg 16 16 g8.drew ?_
 refine AW.ro 0 (λW h=>(h.at_ 4).2.1) hl u40 i40 ?_;refine AW.ro 1 (λW h=>(h.at_ 17).2.1) B u40 i40 ?_;refine AW.ro 3 (λW h=>(h.at_ 5).2.1) hk u40 i40 ?_;refine AW.ro 4 (λW h=>(h.at_ 17).2.1) B u40 i40 ?_;refine AW.ro 6 (λW h=>(h.at_ 17).2.1) B u40 i40 ?_;refine AW.ro 9 (λW h=>(h.at_ 13).2.1) h0 u40 i40 ?_;refine AW.ro 10 (λW h=>(h.at_ 13).2.1) h0 u40 i40 ?_;refine AW.ro 12 (λW h=>(h.at_ 0).2.1) ha u40 i40 ?_;refine AW.gi 2 (λ_=>HT.1 _) λx1 G=>?_
 refine AW.gi 5 (λ_=>HT.2.1 _) λx2 I=>?_
 refine AW.gi 7 (λ_=>HT.2.2.1 _) λx3 le=>?_
 refine AW.gi 8 (λ_=>HT.2.2.2.1 _) λx4 iq=>?_
 refine AW.gi 11 (λ_=>HT.2.2.2.2.1 _) λx5 li=>?_
 refine AW.gi 13 (λ_=>HT.2.2.2.2.2.1 _) λx6 l3=>?_
 refine AW.gi 14 (λ_=>HT.2.2.2.2.2.2 _) λn6 jy=>?_
 have i1:=mk1 (((((((g8.drew.grow G).grow I).grow le).grow iq).grow li).grow l3).grow jy);clear G I le iq li l3 jy g8 HT;refine AW.nx 15 (oZ l 132) ?_;refine hG (n6.setCells l 132 (wn R.tau.val)) λoy ka=>?_
 have kn:=mk1 (Rp.Ww kb.2.2 (i1.at_ 10) R.tau.val);refine hG ({ p5 with u:=R.tau.val }:Rp) λp6 lj=>?_
 rw[lj.out]at kn;have i5:=mk1 (i1.upd 10 ka kn.2.1);refine AW.fi (us:=wn R.tau.val) j4 aI i40 (λ_=>⟨kn.1,?_⟩);rw[ka.out];clear i1 kb ka;refine hG (nv (R.rho*R.x).val) λu8 o2=>?_
 refine hG (nv R.mu.val) λu9 iz=>?_
 have HT:=mk2 (λW=>zC O R.rho R.x W) (λW=>SN O R.al (R.rho*R.x) W);rw[show R.al+R.rho*R.x=R.mu from rfl,o2.out,iz.out,h9.out,hy.out,B.out]at HT;refine XL<|AW.beg 6 6 i5.drew ?_
 refine AW.ro 0 (λW h=>(h.at_ 2).2.1) h9 u40 i40 ?_;refine AW.ro 1 (λW h=>(h.at_ 3).2.1) hy u40 i40 ?_;refine AW.ro 2 (λW h=>(h.at_ 17).2.1) B u40 i40 ?_;refine AW.gi 3 (λ_=>HT.1 _) λx1 G=>?_
 refine AW.gi 4 (λ_=>HT.2 _) λmg I=>?_
 have g0:=mk1 ((i5.drew.grow G).grow I);clear G I i5 HT;refine AW.nx 5 (oZ l 136) ?_;refine hG (mg.setCells l 136 (wn R.mu.val)) λgp k2=>?_
 have b3:=mk1 (Rp.Wy kn.2.2 (g0.at_ 10) R.mu.val);have ez:Hid (({ p6 with m:=R.mu.val }:Rp)=pz):=by
  rw[<-Y.out,<-lj.out,<-je.out,<-g7.out,<-fk.out,<-fh.out,<-ge.out];rfl
 rw[ez.out]at b3;have ky:=mk1 (g0.upd 10 k2 b3.2.1);have ba:pz.Ok:=b3.2.2;refine AW.fi (us:=wn R.mu.val) iz aI i40 (λ_=>⟨b3.1,?_⟩);rw[k2.out];clear g0 kn b3 k2;refine hG (Yg pz.l.toArray) λoe h6=>?_
 refine hG (aX L8) λL9 bj=>?_
 have s9:L9.size=32:=bj.out▸bD;refine hG (nv R.w.val) λvw b7=>?_
 have io:Hid (cZ 88 #[oe,vl] gp (Ret λe w'=>SP.Only r 0 32 gp w'/\hZ w' r 0 L9/\e=vw)):=by
  have h:=Ql O pz ba (Y.out▸R.tau.isLt) (Y.out▸R.mu.isLt) (Y.out▸R.t.isLt) r L7 gp (ky.log 14) s7;rw[<-fm.out,show enL (aX L6) pz.u pz.m pz.t=L8 Y.out▸U.l8.symm,nN O T U.w,bj.out,h6.out,hm.out,b7.out]at h;exact h
 refine PW.bg [] ?_;refine PW.ro (cs:=pz.l) (ky.at_ 10).2.1 h6 uRd (by rw[Rp.len ba];exact iRd) ?_;refine PW.ro (ky.at_ 11).2.1 hm uLg iLg ?_;refine PW.ca io ?_;rintro e j8 ⟨hO,hH,he⟩;obtain rfl:=he.symm;have lu:=mk1 (ky.say 14 hO hH);clear io hO hH he ky;refine hG (j8.heap.size) λni de=>?_
 refine hG (lZ j8 (RG.z 4) 44) λnp f8=>?_
 refine hG (np.setCells ni 0 (wn R.w.val)) λog ep=>?_
 have i7:=mk1 (lu.new de f8);have na:=mk1 (i7.put 18 ep);refine PW.al de f8 ?_;refine PW.st ep b7 (i7.th 18) i40 aI ?_;clear lu i7;refine PW.dn ?_;have Kd:=mk1 na.drew;have i8:=mk1 (Jv O R.n i4 n (gGT P) (hGT P) (uGT P) (λi hi=>⟨((oO C T.1 R.n).tl i hi).ok,by show 1<=512;decide⟩) (nP C T.1).ok (by show 1<=512;decide) R.y.val R.w.val R.y.isLt R.w.isLt _ og.drew Kd.nk (Kd.get 4));rw[M.out,b7.out]at i8;refine XL<|AW.beg 10 10 (Kd.wk 14) ?_
 refine AW.ro 0 (cs:=pz.l) (λW ⟨_,h⟩=>(h.at_ 10).2.1) h6 uRd (by rw[Rp.len ba];exact iRd) ?_;refine AW.ro 1 (λW ⟨_,h⟩=>(h.at_ 11).2.1) hm uLg iLg ?_;refine AW.ro 2 (cs:=[qZ ga oa R.n ca,qZ gb ob R.n cb,sZ gc mc cc]) (λW ⟨_,h⟩=>(h.at_ 8).2.1) (Hid.mk' rfl) uGr iGr ?_;refine AW.ro 3 (λW ⟨_,h⟩=>(h.at_ 12).2.1) M u40 i40 ?_;refine AW.ro 4 (λW ⟨_,h⟩=>(h.at_ 18).2.1) b7 u40 i40 ?_;refine AW.mv 6 ?_;refine AW.mv 7 ?_;refine AW.ca 5 (λ_=>i8) (λe w' h=>h.1) ?_;rintro tv c7 ⟨cf,kg⟩;have H:=mk1 (Kd.grow cf);refine hG (((aD C k).pst (chF N) ivF u t q t).s) λLx me=>?_
 have m9:Hid (cZ 90 #[vl,tv,av,bv] c7 (Ret (PhR c7 r t Lb Rb Lx Ab Bb))):=by
  obtain⟨Q,F⟩:=H.q;have E:∀g,Q g->g≠r:=H.ne F 14;rw[F.out]at kg;have h:=Og C O k T t ht q u (gGT P) (qP N R.y.val (hGT P)) ((uGT P).map (tmT N R.w.val)) (by rw[oh];exact xC C T.1 _) (by rw[ms];exact OQ C k T) (by rw[hu];exact(nP C T.1).tm C k R.w) (by show 0<1;decide) (by show 1<=16;decide) Lb Rb mj o7 r tv av bv c7 (by rw[ix,bj.out];exact H.log 14) (by rw[ix,bj.out];exact s9) (by rw[<-hn];exact kg.mono E) (by rw[<-hn,o0];exact SLq.mono (H.wL F 11) E) (by rw[<-hn,nj];exact SLq.mono (H.wL F 12) E);rw[me.out,<-mo,<-nl,hm.out]at h;exact h
 clear i8 cf kg Kd;refine AW.cw 8 (λ_=>m9) (λe w' _ h=>⟨_,H.say 14 h.on h.lg rfl rfl⟩) ?_;rintro e os bl;obtain⟨vL,vR,vA,vB,rfl,tL,tR,eA,eB⟩:=bl.ex;have jr:=mk1 (H.say 14 bl.on bl.lg);have l8:=(H.at_ 1).1;clear m9 bl;have ia:=mk1 (QU O pz ba (Y.out▸R.tau.isLt) (Y.out▸R.mu.isLt) (Y.out▸R.t.isLt) vL vR vA vB ⟨tL.one.2,tR.one.2,eA.one.2,eB.one.2⟩ os);rw[h6.out]at ia;refine AW.ca 9 (λ_=>ia) (λe w' h=>h.1) ?_;rintro e jk ⟨E,ra,rb,rc,bh,re,rf,bm,rfl,hT⟩;have fz:=mk1 (jr.grow E);have c3:vA.oneCell'=true/\vB.oneCell'=true/\vL.oneCell'=true/\vR.oneCell'=true:=⟨eA.one.2,eB.one.2,tL.one.2,tR.one.2⟩
 have RA:Hid (RgA c7.heap.size t pz Lb Rb Ab Bb (.agg #[r33 ra,r33 rb,r33 rc,r33 bh,r32 re,r32 rf,r32 bm,vL,vR,vA,vB]) jk):=⟨_,_,_,_,_,_,_,_,_,_,_,rfl,hT.mono2 λ_ _ _=>trivial,tL.below E,tR.below E,(eA.keep (Kq.of_below E)).mono2 λ_ _ _=>trivial,(eB.keep (Kq.of_below E)).mono2 λ_ _ _=>trivial⟩
 clear hT tL tR eA eB E ia jr;refine hG (jk.setCells k8 0 [r33 ra,r33 rb,r33 rc,r33 bh,r32 re,r32 rf,r32 bm,vL,vR,vA,vB]) λpk k4=>?_
 have l6:=mk1 (fz.put 1 k4);have RB:=mk1 (RA.set (us:=[r33 ra,r33 rb,r33 rc,r33 bh,r32 re,r32 rf,r32 bm,vL,vR,vA,vB]) (fz.at_ 1) l8);rw[k4.out]at RB;refine AW.fi (us:=[r33 ra,r33 rb,r33 rc,r33 bh,r32 re,r32 rf,r32 bm,vL,vR,vA,vB]) (Hid.mk' rfl) (by simp only[yAR,yCT,yDb,c3.1,c3.2.1,c3.2.2.1,c3.2.2.2,show ∀g,(r33 g).oneCell'=true from λ_=>rfl,show ∀g,(r32 g).oneCell'=true from λ_=>rfl,yDd]) iAr (λ_=>⟨fz.th 1,?_⟩);rw[k4.out];have KE:=mk2 l6.bl (Y0 H.bl.size RB);have K8:=l6.at_ 1;refine Zj<|XR (aF 8 rfl K8 rfl uAr iAr) rfl ?_
 exact⟨_,rfl,KE.1,_,KE.2.1,KE.2.2⟩
def Wd(n t:Nat):Prop:=n=2^t/\3<=t/\t<=6
def Wd.hv{n t:Nat}(h:Wd n t)(W:XF):cZ 73 #[iZ n] W (rZ W λe w'=>e=.tuple #[iZ t,tZ]):=by
 obtain⟨rfl,-,k⟩:=h;rw[<-SB k];exact SE (2^t) (RL k) W
def Wd.eight{n t:Nat}(h:Wd n t):8<=n:=by
 obtain⟨rfl,k,-⟩:=h;exact Zb (n:=2) dC k
def Qb{n t:Nat}(h:Wd n t)(w:XF):cZ 40 #[iZ n] w (rZ w λe w'=>e=tZ):=by
 have H:=mk1 (h.hv w);have d:(8:Int)<=(n:Int):=oN h.eight;clear h;go_enter func40,ntmps40;go_wp2_with fail
 refine H.mono ?_;rintro e f ⟨c,rfl,k,rfl⟩;have b:=mk1 k;go_wp2;go_ret;exact⟨_,rfl,b,rfl⟩
def GU{n t:Nat}(h:Wd n t)(w:XF):cZ 41 #[iZ n] w (rZ w λe w'=>e=uZ ((2^n-1:Nat):Int)):=by
 obtain⟨rfl,b,c⟩:=h;have k:t=3\/t=4\/t=5\/t=6:=oM;rcases k with rfl|rfl|rfl|rfl
 all_goals
  go_enter func41,ntmps41;go_wp2;go_ret;exact⟨_,rfl,XX _ _,rfl⟩
end
section
open SPA
variable {P:Nat}[NeZero P]{N:Nat}
def opC(k a b:Nat):List XG:=[iZ k,uZ a,uZ b]
def Qc{n:Nat}(b:1<=n)(k:n<=3):Gives 35 #[iZ n] tZ:=λw=>by
 have e3:(n:Int)<=3:=by omega
 go_enter func35,ntmps35;go_wp2;go_ret;exact⟨_,rfl,XX _ _,rfl⟩
def uOp:yZ 26:=yQ
def iOp:gZ 26 3:=gQ
def Ao:wZ 24:=wQ
def Ho(k a b:Nat)(w:XF):(Yu 26 (.agg (opC k a b).toArray)).run prog w=.ok (jZ w.heap.size) (w.alloc (.cells (opC k a b).toArray 26)):=kR
def VR(k a b:Nat):Gives 36 #[.agg (opC k a b).toArray] (uZ a):=λw=>by
 refine hG w.heap.size λf c=>?_
 refine hG (lZ w (opC k a b) 26) λg d=>?_
 have e:=mk1 ((Mp.start w).new c d);have B:=Ho k a b w;rw[c.out,d.out]at B;go_enter func36,ntmps36;refine PW.bg [] ?_;refine PW.ns B ?_;refine PW.en [uZ 0] ?_;refine PW.bg [oZ f 1] ?_;refine PW.ce ((e.at_ 0).2.1 1 _ rfl) Ao ?_;refine PW.en [uZ a] ?_;go_wp2;go_ret;exact⟨_,rfl,e.bl,rfl⟩
def VQ(k a b:Nat):Gives 38 #[.agg (opC k a b).toArray] (uZ b):=λw=>by
 refine hG w.heap.size λf c=>?_
 refine hG (lZ w (opC k a b) 26) λg d=>?_
 have e:=mk1 ((Mp.start w).new c d);have B:=Ho k a b w;rw[c.out,d.out]at B;go_enter func38,ntmps38;refine PW.bg [] ?_;refine PW.ns B ?_;refine PW.en [uZ 0] ?_;refine PW.bg [oZ f 2] ?_;refine PW.ce ((e.at_ 0).2.1 2 _ rfl) Ao ?_;refine PW.en [uZ b] ?_;go_wp2;go_ret;exact⟨_,rfl,e.bl,rfl⟩
def sdW(N:Nat):Nat->Nat
 | 0=>sMi N 0 1
 | _=>1
def sdL:Nat->ByteArray
 | 0=>⟨#[105,110]⟩
 | _=>⟨#[111,117,116]⟩
def sdP:Nat->ByteArray
 | 0=>⟨#[112,114,111,111,102,32,105,110]⟩
 | _=>⟨#[112,114,111,111,102,32,111,117,116]⟩
def sdA:Nat->ZZ
 | 0=>36
 | _=>38
def sdC(N i:Nat):List XG:=[.string (sdL i),.string (sdP i),.func (.func (sdA i)) #[] #[]]++wn (sdW N i)
def sdH(m:Nat):List XG:=[.string (sdL 0),.string (sdP 0),.func (.func (sdA 0)) #[] #[]]++wn m
def Vx(m:Nat)(w:XF):(YF 57 2 #[(0,.agg (sdH m).toArray),(1,.agg (sdC N 1).toArray)]).run prog w=.ok (sZ w.heap.size 2 2) (w.alloc (.cells ((sdH m)++sdC N 1).toArray 61)):=kR
def wR(O:Ord N)(w:XF):cZ 17 #[] w (rZ w λe w'=>∃g,e=sZ g 2 2/\w.heap.size<=g/\Row w' g (sdC N 0++sdC N 1)):=by
 have i:1<N:=oN O.n2;have H:=mk3 (rX 1 (by omega)) (EG O i) True.intro;obtain⟨m,o⟩:=hE (sMi N 0 1);have q:sdC N 0=sdH m:=by rw[<-o.out];rfl
 rw[q];rw[o.out]at H;go_enter func17,ntmps17;refine PW.rg [nZ] ?_;refine PW.bg [] ?_;refine PW.gi (H.1 w) λp k=>?_
 refine PW.gi (H.2.1 p) λr b=>?_
 refine PW.go [.agg (sdH m).toArray] ?_;refine PW.gi (H.1 r) λd j=>?_
 refine PW.go [.agg (sdC N 1).toArray] ?_;have l:=mk1 ((k.trans (b.mono k.size)).trans (j.mono (XN k.size b.size)));refine hG d.heap.size λg f=>?_
 refine hG (d.alloc (.cells ((sdH m)++sdC N 1).toArray 61)) λs c=>?_
 have B:=Vx (N:=N) m d;rw[f.out,c.out]at B;have n:=mk1 ((Mp.start d).new f c);refine PW.ns B ?_;refine PW.en [sZ g 2 2] ?_;go_wp2;go_ret;exact⟨_,rfl,l.trans (n.bl.mono l.size),g,rfl,f.out▸l.size,n.at_ 0⟩
end
section
variable {P:Nat}[NeZero P]{N:Nat}
def kSc(N:Nat)(T:Bs):Nat:=lQ (mQ N (lF T.toList 64))
def Lg{T:Bs}(O:Ord N):kSc N T<N:=Kt O (pJ O)
def Ei(O:Ord N)(l:Nat)(T:Bs)(w:XF)(y:T.size=32)(q:hZ w l 0 T):
 cZ 72 #[sZ l 32 32] w (rZ w λe w'=>e=nv (kSc N T)):=by
 obtain⟨c,b⟩:=yH (w.alloc (.cells #[uZ 0,uZ 0,uZ 0,uZ 0] 44));have j:Hid (Row c w.heap.size [uZ 0,uZ 0,uZ 0,uZ 0]/\kZ w c/\hZ c l 0 T):=by rw[<-b.out];exact⟨row_new w _ _,aC _,Holds.below q (aC _) (Holds.lt q oM)⟩
 clear q;have f:=pJ O (k:=(lF T.toList 64));have d:=Gv O f;have n:=Cy O l T c y j.2.2;have B:Hid (kSc N T=lQ (mQ N (lF T.toList 64))):=rfl;generalize mQ N (lF T.toList 64)=m at d n B f;rw[B.out];generalize lQ m=x at d⊢;obtain⟨C,t⟩:=yH (nv m);rw[t.out]at d n;go_enter func72,ntmps72;go_wp2_with fail
 rw[b.out];clear b;refine n.mono ?_;rintro e z ⟨v,rfl,u,rfl⟩;have p:Hid (Row z w.heap.size [uZ 0,uZ 0,uZ 0,uZ 0]/\kZ w z):=⟨j.1.below u,j.2.1.trans (u.mono j.2.1.size)⟩
 clear u j n;go_wp2_with fail
 apply(d z).mono;rintro e s ⟨v,rfl,k,rfl⟩;have r:Hid (Row s w.heap.size [uZ 0,uZ 0,uZ 0,uZ 0]/\kZ w s):=⟨p.1.below k,p.2.trans (k.mono p.2.size)⟩
 clear k p d;obtain⟨o,g⟩:=yH (s.setCells w.heap.size 0 (wn x));have a:Hid (Row o w.heap.size (wn x)/\kZ w o):=by rw[<-g.out];exact⟨r.1.put rfl,RG.below_setCells (XH _) _ _ _ r.2⟩
 obtain⟨A,i⟩:=yH (nv x);rw[i.out];go_wp2_with (refine Yi rfl 44 _ _ rfl w.heap.size 0 (wn x).toArray ?_ ?_ ?_ ?_ ?_ ?_;rfl;exact i.symm;exact r.1.2.2;exact i40;exact aI;rw[show(wn x).toArray.toList=wn x from rfl,g.out])
 refine XR (aF 2 rfl a.1 rfl u40 i40) rfl ?_;exact⟨_,rfl,a.2,rfl⟩
def AP{w:XF}{q:Option Y4}{n c:Nat}{b:Bs}(h:PartOk w (.slice q n c) b.toList):(convert 23 9 (.slice q n c)).run prog w=.ok (.string ⟨b⟩) w:=by
 obtain⟨a,f,o,cap,d,e,i,p,-,k⟩:=h;cases e
 obtain rfl:=Array.ext' i;rcases k with k|⟨rfl,g⟩
 .have l:d=#[]:=Array.eq_empty_of_size_eq_zero k;subst l;cases q with
  | none=>exact run_convert_bytes_nil (P:=prog) (w:=w) 23 5 slice22 int5 0 c 9 str9
  | some a=>exact run_convert_bytes_back (P:=prog) w 23 9 5 a c [] slice22 int5 str9 (λj m=>by cases m)
 .exact SP.conv_str prog 23 9 5 slice22 int5 str9 w f o d.size c d g rfl
def Xv(a b:Bs):((⟨a⟩:ByteArray).toList == (⟨b⟩:ByteArray).toList)=decide (a=b):=by
 by_cases h:a=b
 .subst h;simp
 .rw[decide_eq_false h];have:¬((⟨a⟩:ByteArray).toList=(⟨b⟩:ByteArray).toList):=λe=>by
   rw[yCY,yCY]at e;exact h (yDN.1 e)
  simpa using this
def OU{q f:Option Y4}{n c g i:Nat}{b d:Bs}{w:XF}(hv:PartOk w (.slice q n c) b.toList)(k:PartOk w (.slice f g i) d.toList):cZ 12 #[.slice q n c,.slice f g i] w λe w'=>e=.returned (.bool (decide (b=d)))/\w'=w:=by
 have l:=AP hv;have m:=AP k;have j:=Xv b d;clear hv k;go_enter func12,ntmps12;go_wp2;go_ret;exact⟨by first|rfl|simp[j],rfl⟩
def ER{b:Bs}:(De b).size=32:=by unfold De;exact bV
def EK{a b:Bs}:(oH a b).size=32:=by unfold oH;exact bV
def ksB(N:Nat)(S:Nat->Nat)(k:Bs)(n:Nat)(l:List UInt8):Bs:=if k.size=32/\n<=16 then bx (kSc N (zL S k n l)) else #[]
def Jg(O:Ord N)(H:Option Y4)(F sc:Nat)(k:Bs)(d:ByteArray)(t:d.size<=65536)(q:Option Y4)(n c:Nat)(S:Nat->Nat)(w:XF)(W:n<=1048576)(L:PartOk w (.slice H F sc) k.toList)(z:F=k.size)(Q:DW w q n S):
 cZ 39 #[.slice H F sc,.string d,.slice q n c] w (rZ w λe w'=>∃v,e=.tuple #[v,iZ (kdE k n:Int)]/\An w' v (ksB N S k n d.data.toList).toList):=by
 have hd:=DX H F sc k d t q n c S w W L z Q;clear L Q z;by_cases b:k.size=32/\n<=16
 .have hE:kdE k n=0:=by unfold kdE;rw[yE3 b.1,yE3 b.2]
  have u:ksB N S k n d.data.toList=bx (kSc N (zL S k n d.data.toList)):=by unfold ksB;rw[yE3 b]
  rw[hE,u];have m:=A6 S k n d.data.toList;generalize zL S k n d.data.toList=T at hd m⊢;have G:=Hid.mk2 b;have o:=Hid.mk2 (λr w (h:hZ w r 0 T)=>Ei O r T w m h);have l:=Hid.mk2 (nV O (Lg O));have i:=cU (kSc N T);generalize kSc N T=x at o l i⊢;generalize bx x=B at l i⊢;obtain⟨P,J⟩:=yH (nv x);rw[J.out]at o l;clear hE u b;go_enter func39,ntmps39;go_wp2_with fail
  refine hd.mono ?_;rintro e p ⟨v2,rfl,g,f⟩;obtain⟨r,rfl,V,R⟩:∃r,v2=.tuple #[sZ r 32 32,iZ 0]/\w.heap.size<=r/\hZ p r 0 T:=by
   rcases f with⟨f,-⟩|⟨-,f⟩
   .exact absurd G f
   .exact f
  have s:Hid (kZ w p/\hZ p r 0 T):=⟨g,R⟩
  clear g f V R hd;go_wp2_with fail
  apply(o r p s.2).mono;rintro e U ⟨Y,rfl,A,rfl⟩;have I:Hid (kZ w U):=s.1.trans (A.mono s.1.size);have C:=l U;clear A s;go_wp2_with fail
  refine C.mono ?_;rintro e M ⟨X,rfl,a,D,rfl⟩;have K:Hid (kZ w M/\PartOk M (sZ a 32 32) B.toList):=by
   refine⟨I.trans (D.bel.mono I.size),⟨_,a,0,32,B,by rw[i],rfl,by rw[i];exact XH _,by rw[i];decide,Yd ⟨rfl,λj E=>?_⟩⟩⟩;have y:=D.range j (encB B[j]!) (by unfold cb;rw[YC,getElem!_pos B j E,<-Array.getElem_toList E,XV (by rw[X0];exact E)];rfl);exact⟨y,(D.there j (by rw[mC];exact E)).2⟩
  clear D C I;go_wp2
  go_ret2
  exact⟨.tuple #[sZ a 32 32,iZ 0],rfl,K.1,sZ a 32 32,rfl,⟨some (aZ a),32,32,rfl⟩,K.2⟩
 .have u:ksB N S k n d.data.toList=#[]:=by unfold ksB;rw[yE4 b]
  rw[u];have l:¬(kdE k n:Int)=0:=by
   unfold kdE;by_cases y:k.size=32
   .rw[yE3 y,yE4 (λh=>b ⟨y,h⟩)];decide
   .rw[yE4 y];decide
  have i:((kdE k n:Int) == 0)=false:=by simpa using l
  have G:=Hid.mk2 b;clear u b;generalize kdE k n=ee at hd l i⊢;go_enter func39,ntmps39;go_wp2_with fail
  refine hd.mono ?_;rintro e p ⟨v2,rfl,g,f⟩;obtain rfl:v2=.tuple #[nZ,iZ ee]:=by
   rcases f with⟨-,f⟩|⟨f,-⟩
   .exact f
   .exact absurd f G
  have s:Hid (kZ w p):=g;clear g f hd;go_wp2
  go_ret2
  exact⟨_,rfl,s,_,rfl,⟨_,_,_,rfl⟩,Ix⟩
end
section
open SPA
variable {P:Nat}[NeZero P]{N:Nat}
def TT:wZ 9:=wQ
def Ki{W:XF}{v:XG}{b:Bs}(h:PartOk W v b.toList)(j:b.size=32):Arg W v b:=by
 obtain⟨a,e,f,cap,d,rfl,g,l,-,c⟩:=h;obtain rfl:d=b:=yDN.1 g;refine⟨a,_,cap,rfl,rfl,λi=>?_⟩;rcases c with c|⟨rfl,k⟩
 .omega
 .exact⟨e,f,rfl,oM,Holds.lt k oM,k⟩
def Qr(i:Nat)(w:XF):(Yu 61 (.agg (sdC N i).toArray)).run prog w=.ok (jZ w.heap.size) (w.alloc (.cells (sdC N i).toArray 61)):=kR
def Vu(n:Nat)(w:XF):(YF 93 1 #[(0,.int .u32 n)]).run prog w=.ok (sZ w.heap.size 1 1) (w.alloc (.cells [Y1 .u32 n].toArray 38)):=kR
def blN(N:Nat)(k:Bs)(i n:Nat):Nat:=kSc N (zL (λ_=>n) k 1 (sdL i).data.toList)
def psB(k:Bs)(i n:Nat):Bs:=zL (λ_=>n) k 1 (sdP i).data.toList
def Rl:∀i,(sdL i).size<=65536
 | 0=>YM rfl
 | _+1=>YM rfl
def Rj:∀i,(sdP i).size<=65536
 | 0=>YM rfl
 | _+1=>YM rfl
def KJ{W:XF}{k n:Nat}(c:n<4294967296)(b:Row W k [.int .u32 n]):DW W (some (aZ k)) 1 (λ_=>n):=⟨λ_ _=>c,λ_=>⟨k,0,rfl,b.1,λj d=>by
 obtain rfl:j=0:=oM;exact b.2.1 0 _ rfl⟩⟩
def Ur(i n:Nat)(C:n<4294967296)(l:Bs)(g:l.size=32)(m:Option Y4)(sc:Nat)(w:XF)(z:PartOk w (.slice m 32 sc) l.toList):cZ 21 #[.agg (sdC N i).toArray,.slice m 32 sc,.int .u32 n] w (rZ w λe w'=>∃r,e=sZ r 32 32/\w.heap.size<=r/\hZ w' r 0 (psB l i n)):=by
 refine hG w.heap.size λa c=>?_
 refine hG (lZ w (sdC N i) 61) λp f=>?_
 have q:=mk1 ((Mp.start w).new c f);have B:=Qr (N:=N) i w;rw[c.out,f.out]at B;refine hG p.heap.size λt k=>?_
 refine hG (p.alloc (.cells [Y1 .u32 n].toArray 38)) λD b=>?_
 have d:=mk1 (q.new k b);have u:=Vu n p;rw[k.out,b.out]at u;have x:=mk1 (DX m 32 sc l (sdP i) (Rj i) (some (aZ t)) 1 1 (λ_=>n) D oM (z.below d.bl) g.symm (KJ C (d.at_ 1)));obtain⟨cs,j⟩:=hE (sdC N i);have y:cs[1]? = some (.string (sdP i)):=by rw[<-j.out];rfl
 rw[j.out]at B q⊢;go_enter func21,ntmps21;refine PW.bg [] ?_;refine PW.ns B ?_;refine PW.en [nZ] ?_;refine PW.bg [oZ a 1] ?_;refine PW.ce ((q.at_ 0).2.1 1 _ y) TT ?_;refine PW.go [] ?_;refine PW.ns u ?_;refine PW.ca x ?_;rintro e E ⟨s,⟨h,-⟩|⟨-,r,rfl,v,A⟩⟩
 .exact absurd ⟨g,oM⟩ h
 have o:=mk3 (d.bl.trans (s.mono d.bl.size)) (XN d.bl.size v) A;refine PW.en [sZ r 32 32,iZ 0,sZ r 32 32,iZ 0] ?_;go_wp2;go_ret;exact⟨_,rfl,o.1,r,rfl,o.2.1,o.2.2⟩
def Ck(O:Ord N)(k:Bs)(i n:Nat):blN N k i n<N:=Lg O
def Qs(O:Ord N)(i n:Nat)(hn:n<4294967296)(b:Bs)(d:b.size=32)(z:Option Y4)(sc:Nat)(w:XF)(hs:PartOk w (.slice z 32 sc) b.toList):cZ 18 #[.agg (sdC N i).toArray,.slice z 32 sc,.int .u32 n] w (rZ w λe w'=>e=nv (blN N b i n)):=by
 refine hG w.heap.size λk3 p=>?_
 refine hG (lZ w (sdC N i) 61) λM s=>?_
 have S:=mk1 ((Mp.start w).new p s);have B:=Qr (N:=N) i w;rw[p.out,s.out]at B;refine hG M.heap.size λR o=>?_
 refine hG (lZ M (RG.z 4) 44) λG g=>?_
 have F:=mk1 (S.new o g);refine hG G.heap.size λE c=>?_
 refine hG (G.alloc (.cells [Y1 .u32 n].toArray 38)) λw3 j=>?_
 have u:=mk1 (F.new c j);have L:=Vu n G;rw[c.out,j.out]at L;have y:=Jg O z 32 sc b (sdL i) (Rl i) (some (aZ E)) 1 1 (λ_=>n) w3 oM (hs.below u.bl) d.symm (KJ hn (u.at_ 2));have e1:kdE b 1=0:=by unfold kdE;rw[yE3 d];rfl
 have e2:ksB N (λ_=>n) b 1 (sdL i).data.toList=bx (blN N b i n):=by unfold ksB;rw[yE3 ⟨d,oM⟩];rfl
 rw[e1,e2]at y;have I:=Ck O b i n;generalize blN N b i n=m at I y⊢;have U:=λv W (h:Arg W v (bx m))=>wO O h
 rw[kW O I]at U;obtain⟨V,k⟩:=hE (nv m);have A:Hid (∀v W,Arg W v (bx m)->cZ 11 #[v] W (rZ W λe w'=>e=.tuple #[V,tZ])):=k.out▸U;obtain⟨cs,q⟩:=hE (sdC N i);have h1:cs[0]? = some (.string (sdL i)):=by rw[<-q.out];rfl
 rw[q.out]at B S F u⊢;have x:=mk1 y;go_enter func18,ntmps18;refine PW.bg [] ?_;refine PW.ns B ?_;refine PW.al o g ?_;refine PW.dn ?_;refine PW.bg [jZ k3] ?_;refine PW.ce ((F.at_ 0).2.1 0 _ h1) TT ?_;refine PW.go [] ?_;refine PW.ns L ?_;refine PW.ca x ?_;rintro e Z ⟨a,v,rfl,⟨H,J,T,rfl⟩,Y⟩;have X:=mk1 (u.grow a);have A4:=Ki Y (cU _);refine PW.en [.slice H J T,iZ 0,.slice H J T,iZ 0] ?_;refine PW.bg [] ?_;refine PW.gi (A _ Z A4) λQ C=>?_
 have K5:=mk1 (X.grow C);refine PW.go [V,tZ] ?_;refine hG Q.heap.size λk9 t=>?_
 refine hG (lZ Q (RG.z 4) 44) λw6 r=>?_
 refine hG (w6.setCells k9 0 (wn m)) λw7 f=>?_
 have P:=mk1 (K5.new t r);have D:=mk1 (P.put 3 f);refine PW.al t r ?_;refine PW.st f k (P.th 3) i40 aI ?_;refine PW.en [tZ] ?_;refine PW.bg [] ?_;refine hG (w7.setCells R 0 (wn m)) λw8 l=>?_
 have K:=mk1 (D.put 1 l);refine PW.ro (D.at_ 3).2.1 k u40 i40 ?_;refine PW.st l k (D.th 1) i40 aI ?_;refine PW.dn ?_;refine Zj<|XR (aF 6 rfl (show Row w8 R (wn m) from K.at_ 1) rfl u40 i40) rfl ?_
 exact⟨_,rfl,K.bl,rfl⟩
end
section
open SPA
variable {P:Nat}[NeZero P]{N:Nat}[NeZero N]
omit [NeZero N] in
theorem SR(O:Ord N)(a b:Fin N)(W:XF):cZ 71 #[nv a.val,nv b.val] W (rZ W λe w'=>e=nv (a-b).val):=by
 rw[KX];exact Ek O a.val b.val a.isLt b.isLt W
def rgD(n:Nat)(y z:Fin N):Fin N:=(z-z*z)*Md.pr (λ_=>1) (pwF y) n-z*z*z*ofF N (2^n-1)
def AM{a:Bs}{n:Nat}{w:XF}(b:a.size=33):cZ 32 #[pvl a,nv n] w (rZ w λe w'=>Sm w.heap.size w' e [(n,a)]):=
 (lO a b n w).mono λ_ _ ⟨_,d,k,_,f,c,hR⟩=>⟨_,d,k,by rw[f];exact Sm.one hR c rfl⟩
def NC(C:Fld P)(O:Ord N)(k:∀r:EC.Pt P,On r->mul N r=none)(hP:IsP N)(hN:18446744073709551616<=N){n t:Nat}(hw:Wd n t)(p:Rp)(ok:p.Ok)(V:Bs)(Vp P1 P2:OnP P)(hV:V=wP Vp)(h1:p.c=wP P1)(h2:p.d=wP P2)(tau tt x y z:Fin N)(hu:p.u=tau.val)(ht:p.t=tt.val)(w:XF)(X Y:Bs)(hX:X=wP ((aD C k).cm (hPV C) (gPG C) (tt-rgD n y z) tau))(hY:Y=wP ((aD C k).ad ((aD C k).ad ((aD C k).ac (z*z) Vp) ((aD C k).ac x P1)) ((aD C k).ac (x*x) P2))):
 cZ 162 #[.agg p.l.toArray,pvl V,iZ n,nv x.val,nv y.val,nv z.val] w (rZ w λe w'=>e=.bool (decide (X=Y))):=by
 have he:n<=64:=by rw[hw.1];exact XN (Zb dC hw.2.2) dC
 have sV:V.size=33:=by rw[hV];exact aL _
 obtain⟨vp,h5⟩:=hE (Yg p.l.toArray);obtain⟨vV,A⟩:=hE (pvl V);obtain⟨vx,j⟩:=hE (nv x.val);obtain⟨vy,o⟩:=hE (nv y.val);obtain⟨vz,d⟩:=hE (nv z.val);obtain⟨vq,f⟩:=hE (nv (z*z).val);obtain⟨k6,hn⟩:=hE (w.heap.size);obtain⟨w1,hc⟩:=hE (lZ w p.l 153);obtain⟨k7,hr⟩:=hE (w1.heap.size);obtain⟨w2,hs⟩:=hE (lZ w1 (aA V) 51);obtain⟨k9,h8⟩:=hE (w2.heap.size);obtain⟨w3,h0⟩:=hE (lZ w2 (wn x.val) 44);obtain⟨ka,F⟩:=hE (w3.heap.size);obtain⟨R,h4⟩:=hE (lZ w3 (wn y.val) 44);obtain⟨ko,B⟩:=hE (R.heap.size);obtain⟨w5,h6⟩:=hE (lZ R (wn z.val) 44);have K5:=mk1 (((((Mp.start w).new hn hc).new hr hs).new h8 h0).new F h4 |>.new B h6);have B1:Hid ((Yu 153 vp).run prog w=.ok (jZ k6) w1):=h5.out▸hc.out▸hn.out▸My ok w;have B2:Hid ((Yu 51 vV).run prog w1=.ok (jZ k7) w2):=A.out▸hs.out▸hr.out▸tB sV w1;have B3:Hid ((Yu 44 vx).run prog w2=.ok (jZ k9) w3):=j.out▸h0.out▸h8.out▸boxS;have B4:Hid ((Yu 44 vy).run prog w3=.ok (jZ ka) R):=o.out▸h4.out▸F.out▸boxS;have B5:Hid ((Yu 44 vz).run prog R=.ok (jZ ko) w5):=d.out▸h6.out▸B.out▸boxS;rw[h5.out,A.out,j.out,o.out,d.out];go_enter func162,ntmps162;refine PW.bg [] ?_;refine PW.ns B1 ?_;refine PW.ns B2 ?_;refine PW.ns B3 ?_;refine PW.ns B4 ?_;refine PW.ns B5 ?_;refine PW.en [fZ] ?_;have HQ:=mk1 (zC O z z w5);rw[d.out,f.out]at HQ;refine PW.bg [] ?_;refine PW.ro (K5.at_ 4).2.1 d u40 i40 ?_;refine PW.ro (K5.at_ 4).2.1 d u40 i40 ?_;refine PW.gi HQ λw6 K=>?_
 have K6:=mk1 (K5.grow K);obtain⟨kf,G⟩:=hE (w6.heap.size);obtain⟨w7,h9⟩:=hE (lZ w6 (RG.z 4) 44);obtain⟨w8,hm⟩:=hE (w7.setCells kf 0 (wn (z*z).val));have K7:=mk1 (K6.new G h9);have K8:=mk1 (K7.put 5 hm);refine PW.al G h9 ?_;refine PW.st hm f (K7.th 5) i40 aI ?_;refine PW.dn ?_;obtain⟨v1,hi⟩:=hE (nv 1);have HO:=mk1 (rX 1 dC w8);rw[hi.out]at HO;refine PW.bg [] ?_;refine PW.gi HO λw9 kn=>?_
 have K9:=mk1 (K8.grow kn);obtain⟨kb,U⟩:=hE (w9.heap.size);obtain⟨wA,hy⟩:=hE (lZ w9 (wn 1) 44);have kd:Hid ((YF 143 1 #[(0,v1)]).run prog w9=.ok (sZ kb 1 1) wA):=hi.out▸hy.out▸U.out▸Vt;have FA:=aM U hy;refine PW.ns kd ?_;refine PW.go [] ?_;refine PW.ca (J7 1 kb n oM wA FA.2) ?_;rintro T wB ⟨kk,I⟩;replace I:=I.fin (λ_=>(1:Fin N)) (λi _=>(Ya hP.1).symm);have l:=mk1 ((K9.grow FA.1).gets kk (pqS T n λi=>((λ_=>(1:Fin N)) i).val) I);refine PW.en [T] ?_;obtain⟨a1,ke⟩:=hE (nv (z-z*z).val);obtain⟨a2,hj⟩:=hE (nv (Md.pr (λ_=>1) (pwF y) n).val);obtain⟨a3,kl⟩:=hE (nv ((z-z*z)*Md.pr (λ_=>1) (pwF y) n).val);obtain⟨a4,k4⟩:=hE (nv (z*z*z).val);obtain⟨a5,ha⟩:=hE (nv (ofF N (2^n-1)).val);obtain⟨a6,kh⟩:=hE (nv (z*z*z*ofF N (2^n-1)).val);obtain⟨a7,q⟩:=hE (nv (rgD n y z).val);have M:=mk5 (λW=>SR O z (z*z) W) (λW=>zC O (z-z*z) (Md.pr (λ_=>1) (pwF y) n) W) (λW=>zC O (z*z) z W) (λW=>zC O (z*z*z) (ofF N (2^n-1)) W) (λW=>SR O ((z-z*z)*Md.pr (λ_=>1) (pwF y) n) (z*z*z*ofF N (2^n-1)) W);rw[show(z-z*z)*Md.pr (λ_=>1) (pwF y) n-z*z*z*ofF N (2^n-1)=rgD n y z from rfl,ke.out,hj.out,kl.out,k4.out,ha.out,kh.out,q.out,d.out,f.out]at M;have l2:2^n-1<2^64:=by
  have:=Zb (n:=2) dC he;have:=yAJ (n:=n) (show 0<2 by decide);omega
 obtain⟨gi,hq⟩:=hE (2^n-1);have kj:Hid (∀W,cZ 15 #[uZ gi] W (rZ W λe w'=>e=a5)):=λW=>by
  rw[<-ha.out,<-hq.out,show(ofF N (2^n-1)).val=2^n-1 from Ya oM];exact rX _ l2 W
 have kc:Hid (∀W,cZ 41 #[iZ n] W (rZ W λe w'=>e=uZ gi)):=λW=>by
  rw[<-hq.out];exact GU hw W
 obtain⟨Q,hQ⟩:=l.q;apply XL;refine(gwL [pE vz,pE vq,pE a1,pE T,pE vy,pE (iZ n),RG.pS Q n (λi=>(pwF y i).val),pE a2,pE a3,pE vq,pE vz,pE a4,pE (iZ n),pE (uZ gi),pE a5,pE a6,pE a7,RG.pN wB.heap.size (RG.z 4)] (λW=>kZ wB W) (λW W' hb h=>h.trans (hb.mono h.size))).tail2 18 kR kR kR ⟨
  gLo (cs:=wn z.val) 11 (λW c=>((l.grow c).at_ 4).2.1) u40 i40 (hR:=λ_=>d),
  gLo (cs:=wn (z*z).val) 13 (λW c=>((l.grow c).at_ 5).2.1) u40 i40 (hR:=λ_=>f),
  gC2 0 24 1 25 M.1,
  gO 14 T,
  gLo (cs:=wn y.val) 10 (λW c=>((l.grow c).at_ 3).2.1) u40 i40 (hR:=λ_=>o),
  gO 2 (iZ n),
  eF 4 28 5 29 83 (λx y=>#[x,y]) (λa u W m D c=>by
   obtain rfl:a=vy:=m;obtain rfl:u=iZ n:=D;rw[<-o.out];exact(PX O y.isLt oM).mono λe W' ⟨v,h1,h2,H⟩=>⟨v,h1,h2,(H.mono λg E=>(l.grow c).nkq hQ g E).fin (pwF y) λi _=>mT hP.1 y i⟩),
  eF 3 27 6 30 87 (λx y=>#[x,y]) (λa u W m D c=>by
   obtain rfl:a=T:=m;have h:=Cc O n oM (λi=>((λ_=>(1:Fin N)) i).val) (λi=>(pwF y i).val) (λi _=>(1:Fin N).isLt) (λi _=>(pwF y i).isLt) a u W ((l.grow c).wL hQ 0) D;rw[kP,hj.out]at h;exact h),
  gC2 2 26 7 31 M.2.1,
  gLo (cs:=wn (z*z).val) 13 (λW c=>((l.grow c).at_ 5).2.1) u40 i40 (hR:=λ_=>f),
  gLo (cs:=wn z.val) 11 (λW c=>((l.grow c).at_ 4).2.1) u40 i40 (hR:=λ_=>d),
  gC2 9 33 10 34 M.2.2.1,
  gO 2 (iZ n),
  oL 12 36 41 (λx=>#[x]) (λa W m c=>by
   obtain rfl:a=iZ n:=m;exact kc W),
  oL 13 37 15 (λx=>#[x]) (λa W m c=>by
   obtain rfl:a=uZ gi:=m;exact kj W),
  gC2 11 35 14 38 M.2.2.2.1,
  gC2 8 32 15 39 M.2.2.2.2,
  uG (RG.z 4) 44 (λW W' h c=>⟨_,rfl,c.size,h⟩),yE5⟩ ⟨rfl,rfl,rfl,XH _,λ_ _=>rfl⟩ ?_
 intro Z wC hR c;have k5:=hR 16 dC;obtain⟨k8,km,ki,kg⟩:=hR 17 dC;dsimp only[bY,YQ,Z4,Z5];simp only[Yo,XJ,XM,XO];rw[k5,km];have KC:=mk1 (l.add c kg ki);obtain⟨wD,S⟩:=hE (wC.setCells k8 0 (wn (rgD n y z).val));have KD:=mk1 (KC.put 6 S);refine PW.st S q (KC.th 6) i40 aI ?_;refine PW.dn ?_;have tV:Tl N [((z*z).val,V)] ((aD C k).ac (z*z) Vp):=by rw[hV];exact Tl.pt C k (z*z) Vp
 have t1:Tl N [(x.val,p.c)] ((aD C k).ac x P1):=by rw[h1];exact Tl.pt C k x P1
 have t2:Tl N [((x*x).val,p.d)] ((aD C k).ac (x*x) P2):=by rw[h2];exact Tl.pt C k (x*x) P2
 have t3:=tV.app C k t1;have t4:=t3.app C k t2;obtain⟨vc,k0⟩:=hE (pvl p.c);obtain⟨vd,k1⟩:=hE (pvl p.d);obtain⟨ku,h7⟩:=hE (nv (x*x).val);obtain⟨vY,hp⟩:=hE (pvl Y);have D:=mk7 (λW=>AM sV) (λW=>AM ok.c) (λW=>AM ok.d) (λW=>zC O x x W)
  (λ(W:XF) (s u:XG) (a:Sm 0 W s [((z*z).val,V)]) (b:Sm 0 W u [(x.val,p.c)])=>cA 0 s u _ _ (by simp) (by simp) (by simp) tV.ok.sz t1.ok.sz W (Yd a) (Yd b))
  (λ(W:XF) (s u:XG) (a:Sm 0 W s ([((z*z).val,V)]++[(x.val,p.c)])) (b:Sm 0 W u [((x*x).val,p.d)])=>cA 0 s u _ _ (by simp) (by simp) (by simp) t3.ok.sz t2.ok.sz W (Yd a) (Yd b))
  (λ(W:XF) (s:XG) (a:Sm 0 W s ([((z*z).val,V)]++[(x.val,p.c)]++[((x*x).val,p.d)]))=>(by rw[hY];exact t4.point C O k (by simp) (by simp) a:cZ 33 #[s] W (rZ W λe w'=>e=pvl Y)))
 rw[A.out,k0.out,k1.out,j.out,f.out,h7.out,hp.out]at D;have ip:∀ {b:Bs},b.size=33->gZ 51 (aA b).length:=λh=>by rw[aB h];exact iCP
 refine XL<|AW.beg 15 15 KD.drew ?_
 refine AW.ro 0 (λW h=>(h.at_ 1).2.1) A uCP (ip sV) ?_;refine AW.ro 1 (λW h=>(h.at_ 5).2.1) f u40 i40 ?_;refine AW.va 3 (oZ k6 66) ?_;refine AW.ro 4 (λW h=>(Rp.at7 ok (h.at_ 0).2.1).2.2.1) k0 uCP (ip ok.c) ?_;refine AW.ro 5 (λW h=>(h.at_ 2).2.1) j u40 i40 ?_;refine AW.va 8 (oZ k6 99) ?_;refine AW.ro 9 (λW h=>(Rp.at7 ok (h.at_ 0).2.1).2.2.2.1) k1 uCP (ip ok.d) ?_;refine AW.ro 10 (λW h=>(h.at_ 2).2.1) j u40 i40 ?_;refine AW.ro 11 (λW h=>(h.at_ 2).2.1) j u40 i40 ?_;refine AW.ca 2 (λ_=>D.1 _) (λe w' h=>h.1) ?_;rintro s1 x1 ⟨J,q1⟩;refine AW.ca 6 (λ_=>D.2.1 _) (λe w' h=>h.1) ?_;rintro s2 x2 ⟨m,q2⟩;refine AW.ca 7 (λ_=>D.2.2.2.2.1 _ _ _ (q1.q.keep (Kq.of_below m)).sm q2.q.sm) (λe w' h=>h.1) ?_;rintro s3 x3 ⟨L,q3⟩;refine AW.gi 12 (λ_=>D.2.2.2.1 _) λx4 hz=>?_
 refine AW.ca 13 (λ_=>D.2.2.1 _) (λe w' h=>h.1) ?_;rintro s5 x5 ⟨hk,q5⟩;refine AW.ca 14 (λ_=>D.2.2.2.2.2.1 _ _ _ ((q3.q.keep (Kq.of_below hz)).keep (Kq.of_below hk)).sm q5.q.sm) (λe w' h=>h.1) ?_;rintro s6 x6 ⟨K,q6⟩;have KE:=mk1 (((((KD.drew.grow J).grow m).grow L).grow hz).grow hk |>.gets K (pqM s6 _) q6.q);refine AW.nx 15 s6 ?_;refine AW.dn λ_=>?_
 obtain⟨kr,E⟩:=hE (nv tt.val);obtain⟨kt,H⟩:=hE (nv tau.val);obtain⟨vm,k2⟩:=hE (nv (tt-rgD n y z).val);obtain⟨vX,hl⟩:=hE (pvl X);have HM:=mk2 (λW=>SR O tt (rgD n y z) W) (λW=>mE (P:=P) C O (tt-rgD n y z).isLt tau.isLt W);rw[zN C k (tt-rgD n y z) tau,show wP ((aD C k).cm (hPV C) (gPG C) (tt-rgD n y z) tau)=X from hX.symm,E.out,H.out,k2.out,hl.out,q.out]at HM;have sX:X.size=33:=by rw[hX];exact aL _
 have sY:Y.size=33:=by rw[hY];exact aL _
 have kp:Hid (∀W:XF,(eqGuard .eql 51 (.tmp 62) (.tmp 64) vX vY >>= λ_=>binOp .eql 51 vX vY).run prog W=.ok (.bool (decide (X=Y))) W):=λW=>by
  rw[<-hl.out,<-hp.out,X6,show(eqGuard .eql 51 (.tmp 62) (.tmp 64) (pvl X) (pvl Y)).run prog W=.ok () W by kernel_rfl];exact LU sX sY
 refine XL<|AW.beg 10 10 KE.drew ?_
 refine AW.va 0 (oZ k6 140) ?_;refine AW.ro 1 (cs:=wn tt.val) (λW h=>by rw[<-ht];exact(Rp.at7 ok (h.at_ 0).2.1).2.2.2.2.2.2) E u40 i40 ?_;refine AW.ro 2 (λW h=>(h.at_ 6).2.1) q u40 i40 ?_;refine AW.va 4 (oZ k6 132) ?_;refine AW.ro 5 (cs:=wn tau.val) (λW h=>by rw[<-hu];exact(Rp.at7 ok (h.at_ 0).2.1).2.2.2.2.1) H u40 i40 ?_;refine AW.mv 7 ?_;refine AW.gi 3 (λ_=>HM.1 _) λx1 J=>?_
 refine AW.gi 6 (λ_=>HM.2 _) λx2 m=>?_
 refine AW.gi 8 (λh=>D.2.2.2.2.2.2 _ _ (SmQ.sm (h.get 1))) λx3 L=>?_
 have KF:=mk1 (((KE.drew.grow J).grow m).grow L);refine AW.ns 9 (kp x3) (XX _ _) ?_;refine AW.nx 10 (.bool (decide (X=Y))) ?_;refine AW.dn λ_=>?_
 obtain⟨bb,k3⟩:=hE (decide (X=Y));rw[k3.out];go_wp2;go_ret;exact⟨_,rfl,KF.bl,rfl⟩
def rgS(y z:Fin N)(i:Nat):Fin N:=z*pwF y i+z*z*pwF (ofF N 2) i
def N5{y z:Fin N}{i:Nat}(k:IsP N)(b:2<N):sPl N (sTi N z.val (pwN N y.val i)) (sTi N (sTi N z.val z.val) (pwN N 2 i))=(rgS y z i).val:=by
 show _=(z*pwF y i+z*z*pwF (ofF N 2) i).val;rw[jS,eW,eW,eW,<-mT k.1,<-mT k.1,show(ofF N 2).val=2 from Ya b]
def U0(C:Fld P)(O:Ord N)(k:∀r:EC.Pt P,On r->mul N r=none)(hP:IsP N)(hN:18446744073709551616<=N){n:Nat}(hk:0<n)(hu:n<=64)(p:Rp)(ok:p.Ok)(PA PS:OnP P)(hA:p.a=wP PA)(hS:p.s=wP PS)(mu tt x y z:Fin N)(hm:p.m=mu.val)(ht:p.t=tt.val)(G H:Nat->LB)(U:LB)(g h:Nat->OnP P)(u:OnP P)(hG:Gd N n 1 G g)(hH:Gd N n 1 H h)(hU:Tl N U u)(hq:U.length=1):
 ∃l,Tl N l ((aD C k).ad ((aD C k).ad ((aD C k).ad ((aD C k).ad PA ((aD C k).ac x PS)) ((aD C k).ac (-1) ((aD C k).ac mu (gPG C)))) ((aD C k).ad ((aD C k).dt (λ_=>-z) g n) ((aD C k).dt (rgS y z) h n))) ((aD C k).ac tt u))/\(0<l.length/\l.length<=150) /\
  ∀(Q:Nat->Prop) (vg:XG) (w:XF),GRq Q w vg n G H U->cZ 164 #[.agg p.l.toArray,vg,iZ n,nv x.val,nv y.val,nv z.val] w (rZ w λe w'=>Sm w.heap.size w' e l):=by
 obtain⟨Gb,F⟩:=hE (wr (gG P));have sG:Gb.size=33:=F.out▸aL _;have tA:Tl N [(1,p.a)] PA:=by rw[hA];exact Tl.one C hP.1 PA
 have tS:Tl N [(x.val,p.s)] ((aD C k).ac x PS):=by rw[hS];exact Tl.pt C k x PS
 have tG:Tl N [(mu.val,Gb)] ((aD C k).ac mu (gPG C)):=F.out▸Tl.pt C k mu (gPG C);have t1:=tA.app C k tS;have tM:=tG.tm C k (-1);rw[UG hP.1]at tM;have t2:=t1.app C k tM;have tL:=(hG.cmb C k (λ_=>-z)).1.app C k (hH.cmb C k (rgS y z)).1;have lL:(dH N (λ_=>(-z).val) G n++dH N (λi=>(rgS y z i).val) H n).length=n+n:=by rw[XP,(hG.cmb C k (λ_=>-z)).2,(hH.cmb C k (rgS y z)).2,Z6]
 have tU:=hU.tm C k tt;have lU:(U.map (tmT N tt.val)).length=1:=by rw[X7,hq]
 have t3:=t2.app C k tL;have t4:=t3.app C k tU;have he:=uH hk (by decide:0<1) oM hG hH hU oM oM;refine⟨_,t4,⟨by simp,by simp only[XP,X7,lL,lU,YA,ZD]at *;omega⟩,λQ vg w h0=>?_⟩;obtain⟨lb,M⟩:=hE (dH N (λ_=>(-z).val) G n++dH N (λi=>(rgS y z i).val) H n);obtain⟨lu,R⟩:=hE (U.map (tmT N tt.val));obtain⟨K,m⟩:=hE ([(1,p.a)]++[(x.val,p.s)]++[(mu.val,Gb)].map (tmT N (sMi N 0 1)));rw[m.out,M.out,R.out];have n2:K.length=3:=by rw[<-m.out];rfl
 rw[M.out]at tL lL;rw[R.out]at tU lU;rw[m.out]at t2;have hn:=t2.app C k tL;have h2:2<N:=oM;obtain⟨vp,Z⟩:=hE (Yg p.l.toArray);obtain⟨vx,B⟩:=hE (nv x.val);obtain⟨vy,q⟩:=hE (nv y.val);obtain⟨vz,t⟩:=hE (nv z.val);obtain⟨vm,V⟩:=hE (nv mu.val);obtain⟨vt,h8⟩:=hE (nv tt.val);obtain⟨vG,hl⟩:=hE (pvl Gb);obtain⟨va,h7⟩:=hE (pvl p.a);obtain⟨vs,h4⟩:=hE (pvl p.s);have o:=mk8 (λW=>BQ p.a ok.a W) (λW=>AM ok.s) (λW=>AM sG) (λW=>Qk (P:=P) C W)
  (λ(W:XF) (s u:XG) (a:Sm 0 W s [(1,p.a)]) (b:Sm 0 W u [(x.val,p.s)])=>cA 0 s u _ _ (by simp) (by simp) (by simp) tA.ok.sz tS.ok.sz W (Yd a) (Yd b))
  (λ(W:XF) (s u:XG) (a:Sm 0 W s ([(1,p.a)]++[(x.val,p.s)])) (b:Sm 0 W u [(mu.val,Gb)])=>xX O 0 s u _ _ (by simp) (by simp) (by simp) t1.ok.sz tG.ok.sz tG.ok.lt W (Zq _) a b)
  (λ(W:XF) (s u:XG) (a:Sm 0 W s K) (b:Sm 0 W u lb)=>cA 0 s u K lb (by rw[XP];omega) oM oM t2.ok.sz tL.ok.sz W (Yd a) (Yd b))
  (λ(W:XF) (s u:XG) (a:Sm 0 W s (K++lb)) (b:Sm 0 W u lu)=>cA 0 s u (K++lb) lu (by simp only[XP];omega) (by rw[XP];omega) oM hn.ok.sz tU.ok.sz W (Yd a) (Yd b))
 rw[m.out,F.out,hl.out,h7.out,h4.out,B.out,V.out]at o;have hp:Hid (∀(Q:Nat->Prop) (W:XF) (v a b:XG),GRq Q W v n G H U->SLq Q W a n (λ_=>(-z).val)->SLq Q W b n (λi=>(rgS y z i).val)->cZ 78 #[v,a,b] W (rZ W λe w'=>Sm W.heap.size w' e lb)):=λQ W v a b g1 g2 g3=>by
  rw[<-M.out];exact yX O n 1 G H U he _ _ (λi _=>(-z).isLt) (λi _=>(rgS y z i).isLt) v a b W g1 g2 g3
 have hs:Hid (∀(W:XF) (v:XG),Sm 0 W v U->cZ 149 #[v,vt] W (rZ W λe w'=>Sm W.heap.size w' e lu)):=λW v a=>by
  rw[<-R.out,<-h8.out];exact eH O tt.isLt 0 v U oM hU.ok.szm hU.ok.lt W a
 have hc:=mk1 (λW=>Gf O h2 y.isLt z.isLt n oM W);rw[q.out,t.out]at hc;obtain⟨q1,q2,q3,rfl,-,-,-⟩:=h0.ex;obtain⟨k6,h9⟩:=hE (w.heap.size);obtain⟨w1,h6⟩:=hE (lZ w p.l 153);obtain⟨k7,ha⟩:=hE (w1.heap.size);obtain⟨w2,hb⟩:=hE (w1.alloc (.cells [q1,q2,q3].toArray 150));obtain⟨k9,h5⟩:=hE (w2.heap.size);obtain⟨w3,X⟩:=hE (lZ w2 (wn x.val) 44);obtain⟨hi,E⟩:=hE (w3.heap.size);obtain⟨T,Y⟩:=hE (lZ w3 (wn y.val) 44);obtain⟨hr,D⟩:=hE (T.heap.size);obtain⟨w5,h1⟩:=hE (lZ T (wn z.val) 44);have K0:=(Mp.start w).has (pqG (.agg #[q1,q2,q3]) n G H U) (h0.mono2 λg _ _ e=>by cases e);have K5:=mk1 ((((K0.new h9 h6).new ha hb).new h5 X).new E Y |>.new D h1);obtain⟨vg,j⟩:=hE (Yg #[q1,q2,q3]);have B1:Hid ((Yu 153 vp).run prog w=.ok (jZ k6) w1):=Z.out▸h6.out▸h9.out▸My ok w;have B2:Hid ((Yu 150 vg).run prog w1=.ok (jZ k7) w2):=j.out▸hb.out▸ha.out▸DF;have B3:Hid ((Yu 44 vx).run prog w2=.ok (jZ k9) w3):=B.out▸X.out▸h5.out▸boxS;have B4:Hid ((Yu 44 vy).run prog w3=.ok (jZ hi) T):=q.out▸Y.out▸E.out▸boxS;have B5:Hid ((Yu 44 vz).run prog T=.ok (jZ hr) w5):=t.out▸h1.out▸D.out▸boxS;rw[Z.out,j.out,B.out,q.out,t.out];rw[j.out]at K5;have ip:∀ {b:Bs},b.size=33->gZ 51 (aA b).length:=λh=>by rw[aB h];exact iCP
 go_enter func164,ntmps164;refine PW.bg [] ?_;refine PW.ns B1 ?_;refine PW.ns B2 ?_;refine PW.ns B3 ?_;refine PW.ns B4 ?_;refine PW.ns B5 ?_;refine PW.en [nZ] ?_;refine XL<|AW.beg 13 13 K5.drew ?_
 refine AW.va 0 (jZ k6) ?_;refine AW.ro 1 (λW h=>(Rp.at7 ok (h.at_ 0).2.1).1) h7 uCP (ip ok.a) ?_;refine AW.va 3 (oZ k6 33) ?_;refine AW.ro 4 (λW h=>(Rp.at7 ok (h.at_ 0).2.1).2.1) h4 uCP (ip ok.s) ?_;refine AW.ro 5 (λW h=>(h.at_ 2).2.1) B u40 i40 ?_;refine AW.va 9 (oZ k6 136) ?_;refine AW.ro 10 (cs:=wn mu.val) (λW h=>by rw[<-hm];exact(Rp.at7 ok (h.at_ 0).2.1).2.2.2.2.2.1) V u40 i40 ?_;refine AW.ca 2 (λ_=>o.1 _) (λe w' h=>h.1) ?_;rintro s1 x1 ⟨I,e1⟩;refine AW.ca 6 (λ_=>o.2.1 _) (λe w' h=>h.1) ?_;rintro s2 x2 ⟨f,e2⟩;refine AW.ca 7 (λ_=>o.2.2.2.2.1 _ _ _ (e1.q.keep (Kq.of_below f)).sm e2.q.sm) (λe w' h=>h.1) ?_;rintro s3 x3 ⟨L,e3⟩;refine AW.gi 8 (λ_=>o.2.2.2.1 _) λx4 d=>?_
 refine AW.ca 11 (λ_=>o.2.2.1 _) (λe w' h=>h.1) ?_;rintro s5 x5 ⟨A,e5⟩;refine AW.ca 12 (λ_=>o.2.2.2.2.2.1 _ _ _ ((e3.q.keep (Kq.of_below d)).keep (Kq.of_below A)).sm e5.q.sm) (λe w' h=>h.1) ?_;rintro s6 x6 ⟨hj,e6⟩;have KE:=mk1 (((((K5.drew.grow I).grow f).grow L).grow d).grow A |>.gets hj (pqM s6 K) e6.q);refine AW.nx 13 s6 ?_;refine AW.dn λ_=>?_
 refine XL<|AW.beg 16 16 KE.drew ?_
 refine AW.mv 0 ?_;refine AW.ro 1 (λW h=>(h.at_ 1).2.1) j uGr iGr ?_;refine AW.ro 2 (λW h=>(h.at_ 3).2.1) q u40 i40 ?_;refine AW.ro 3 (λW h=>(h.at_ 4).2.1) t u40 i40 ?_;refine AW.mv 4 ?_;refine AW.va 10 (oZ k7 2) ?_;refine AW.ce 11 Bt (λW h=>(h.at_ 1).2.1 2 _ rfl) ?_;refine AW.va 12 (oZ k6 140) ?_;refine AW.ro 13 (cs:=wn tt.val) (λW h=>by rw[<-ht];exact(Rp.at7 ok (h.at_ 0).2.1).2.2.2.2.2.2) h8 u40 i40 ?_;refine AW.ca 5 (λ_=>hc _) (λe w' h=>h.1) ?_;rintro e y1 ⟨I,ls,rs,rfl,S,J⟩;replace S:=S.fin (λ_=>-z) (λi _=>(EL z).symm);replace J:=J.fin (rgS y z) (λi _=>N5 hP h2);have KF:=mk1 ((KE.drew.gets I (pqS ls n λ_=>(-z).val) S).has (pqS rs n λi=>(rgS y z i).val) (J.mono λg hg=>KE.drew.nk g hg));refine AW.va 6 ls ?_;refine AW.va 7 rs ?_;refine AW.ca 8 (λ_=>hp _ _ _ _ _ (KF.get 0) (KF.get 2) (KF.get 3)) (λe w' h=>h.1) ?_;rintro s2 y2 ⟨f,e2⟩;refine AW.ca 9 (λ_=>o.2.2.2.2.2.2.1 _ _ _ (SmQ.sm ((KF.grow f).get 1)) e2.q.sm) (λe w' h=>h.1) ?_;rintro s3 y3 ⟨L,e3⟩;have KG:=mk1 ((KF.grow f).grow L);refine AW.ca 14 (λ_=>hs _ _ (by
  have hh:=KG.get 0;rw[<-j.out]at hh;obtain⟨a,b,c,e,-,-,h3⟩:=hh.ex;cases e
  exact h3.sm)) (λe w' h=>h.1) ?_
 rintro s4 y4 ⟨d,e4⟩;refine AW.ca 15 (λ_=>o.2.2.2.2.2.2.2 _ _ _ (e3.q.keep (Kq.of_below d)).sm e4.q.sm) (λe w' h=>h.1) ?_;rintro s5 y5 ⟨A,e5⟩;have KH:=mk1 ((KG.grow d).grow A);have E5:Hid (Sm w.heap.size y5 s5 (K++(lb++lu))):=by
  rw[<-YU];exact e5.q.mono λg hg=>XN (KG.grow d).bl.size hg
 refine AW.nx 16 s5 ?_;refine AW.dn λ_=>?_
 go_wp2;go_ret;exact⟨_,rfl,KH.bl,E5⟩
end
namespace RG
variable {P:YO}{ops:Array Yw}{Q:Exit->Act->XF->Prop}{w:XF}{a0:Act}{G:Gw}{S:XF->XF->Prop}{B1:XF->Prop}{m k:Nat}{o:Yw}
def Gw.lk(G:Gw)(m:Nat)(S:XF->XF->Prop)(k:XF->Prop):Flow:=⟨G.R,λb=>if b=0 then G.B else k,λi w w'=>(i=m/\S w w')\/kZ w w',λ_=>[],λb=>if b=0 then [] else [m]⟩
def EP(h:bE P Q G.flow ops a0 k o):bE P Q (G.lk m S B1) ops a0 k o:=λa w K d e c f=>h a w K d e (λb _=>c 0 rfl) λv w' hE hR=>f v w' (Yd hE) hR
def WW(h:∀(a:Act) (w:XF),PreG G ops a0 m o a w->B1 w->∃(k:List (ZC × XG)) (f:ZZ) (args:Array XG),AllE a k/\(cN (k.map (·.1)) o,(Ym (evo (evl k)) o).run P w)=(true,.ok (.enter f args) w)/\ZI P f args w (Ret λe w'=>S w w'/\G.R m e w'))(i:okK ops m [m]=true:=by kernel_rfl):bE P Q (G.lk m S B1) ops a0 m o:=by
 intro a w K p r c l;obtain⟨k,f,args,g,b,s⟩:=h a w ⟨λj d t hd=>p j d t rfl hd,r,c 0 rfl⟩ (c 1 i);simp only[Zl.injEq]at b;unfold Y8;rw[jG (evl k) (k.map (·.1)) b.1 g.ev,b.2,ZU];refine s.mono ?_;rintro e w' ⟨v,rfl,n,q⟩;exact l _ _ (Yk ⟨rfl,n⟩) q
def Gw.tailL{id:Nat}(G:Gw)(m:Nat)(S:XF->XF->Prop)(f:XF->Prop)(n:Nat)(g:∀j v w w',j≠m->S w w'->G.R j v w->G.R j v w')(s:∀w w',S w w'->G.B w->G.B w')(l:∀w w',kZ w w'->f w->f w')(r:(decide (n<ops.size) && nD ops n)=true)(x:P.follows .mixedOrders=true)(a:Cd ops a0.tmps.size=true)(h:jB P Q (G.lk m S f) ops a0 0 (ops.toList.take n))(k:G.B w.drew)(o:f w.drew)
 (u:∀(V:Nat->XG) (w':XF),(∀i,i<n->G.R i (V i) w')->G.B w'->wpList P ops Q (ops.toList.drop n) (bY V (ops.toList.take n) 0 a0) w'):(Zg id ops true).wp P Q a0 w:=by
 rw[XZ,decide_eq_true_eq]at r;refine rB (G.lk m S f) r.1 r.2 x ⟨a,uN h,λi j _ _ p _ _ v w w' hE hR=>?_,λi b _ c w w' hE k=>?_⟩ (λb=>?_) λV w' y z=>u V w' (λi d=>y i d rfl) (z 0 rfl)
 .rcases hE with⟨d,q⟩|hE
  .exact g j v w w' (λe=>p (d.trans e.symm)) q hR
  .exact G.sR j v w w' hE hR
 .unfold Gw.lk at c k⊢;dsimp only at c k⊢;by_cases t:b=0
  .rw[yE3 t]at k⊢;rcases hE with⟨-,q⟩|hE
   .exact s w w' q k
   .exact G.sB w w' hE k
  .rw[yE4 t]at k c⊢;rcases hE with⟨d,-⟩|hE
   .rw[d]at c;simp at c
   .exact l w w' hE k
 .unfold Gw.lk;dsimp only;split
  .exact k
  .exact o
end RG
section
open SPA
def pX(b:Nat)(cs:List XG):S1:=⟨λv w=>∃k,v=jZ k/\b<=k/\Row w k cs/\∀i x,w.cell? ⟨k,i,none⟩=some x->x∈cs,λ_ w w' c ⟨k,f,g,d,e⟩=>⟨k,f,g,d.below c,λi x hx=>e i x (by rw[<-Yb (a:=⟨k,i,none⟩) (c.block k d.1)];exact hx)⟩⟩
def Ot{b r:Nat}{cs:List XG}{v:XG}{W W':XF}(c:SP.Only r 0 32 W W')(l:r<b)(h:(pX b cs).p v W):(pX b cs).p v W':=by
 obtain⟨k,g,j,d,f⟩:=h;have e:=c.block k d.1 oM;exact⟨k,g,j,aS d c.size e,λi x hx=>f i x (by rw[<-Yb (a:=⟨k,i,none⟩) e];exact hx)⟩
def U3{P:YO}{c:Array Yw}{Q:Exit->Act->XF->Prop}{a0:Act}{G:Gw}{k:Nat}{o:Yw}(b:Nat)(cs:List XG)(T:Yj)(e:∀W,G.B W->b<=W.heap.size)(hR:∀v W,(pX b cs).p v W->G.R k v W)(f:∀W,(cN [] o,(Ym (evo (evl [])) o).run P W)=(true,.ok (.value (jZ W.heap.size)) (W.alloc (.cells cs.toArray T))):=by intro _;kernel_rfl):bE P Q G.flow c a0 k o:=
 bL λa W d=>⟨[],_,_,trivial,f W,aC _,hR _ _ ⟨_,rfl,e W d.b,row_new W cs T,λi x hx=>by
  rw[World.cell?_alloc_at _ _ _ _ rfl,Yp]at hx;exact YZ hx⟩⟩
section
variable {Q:Nat->Prop}{W:XF}{v:XG}{k n:Nat}{T G H:Nat->List (Nat × Bs)}{l U:List (Nat × Bs)}
def SmQ.offX(h:SmQ Q W v l)(n:0<l.length)(hx:∀i x,W.cell? ⟨k,i,none⟩=some x->x=nZ):SmQ (λg=>Q g/\g≠k) W v l:=by
 obtain⟨g,c,m,f,j,e,d⟩:=h;refine⟨g,c,m,f,⟨j,?_⟩,e,d⟩;rintro rfl;match l,n with
 | (a,b) :: t,_=>cases hx _ _ (d 0 _ rfl)
def GLq.offX(h:GLq Q W v n T)(r:0<n)(l:∀j,j<n->0<(T j).length)(hx:∀i x,W.cell? ⟨k,i,none⟩=some x->x=nZ):GLq (λg=>Q g/\g≠k) W v n T:=by
 obtain⟨g,o,c,q,s,m,t,d⟩:=h;refine⟨g,o,c,q,s,⟨m,?_⟩,t,λj f=>?_⟩
 .rintro rfl;obtain⟨x,b,p,u,e,-⟩:=d 0 r;have:=hx _ _ b;rw[e]at this;cases this
 .obtain⟨x,b,p⟩:=d j f;exact⟨x,b,p.offX (l j f) hx⟩
def GRq.offX(h:GRq Q W v n G H U)(b:0<n)(hG:∀j,j<n->0<(G j).length)(m:∀j,j<n->0<(H j).length)(q:0<U.length)(hx:∀i x,W.cell? ⟨k,i,none⟩=some x->x=nZ):GRq (λg=>Q g/\g≠k) W v n G H U:=by
 obtain⟨e,f,p,l,d,o,c⟩:=h.ex;exact⟨e,f,p,l,d.offX b hG hx,o.offX b m hx,c.offX q hx⟩
end
def Mp.sayAdd{w W W':XF}{rs d:List (Nat × List XG)}{S:List Pq}{k r:Nat}{c:List XG}{L m:Bs}(h:Mp w W rs S)(i:Nat)(o:SP.Only r 0 32 W W')(v:hZ W' r 0 m)(u:Row W' k c)(t:W.heap.size<=k)(j:rs[i]? = some (r,aA L):=by rfl)(e:rs.set i (r,aA m)++[(k,c)]=d:=by(simp only[XM,XO,List.cons_append,Z1])<;>rfl):Mp w W' d S/\∀g,Nk rs g->g≠k->Nk d g:=by
 subst e;have l:∀g,Nk (rs.set i (r,aA m)++[(k,c)]) g↔Nk rs g/\g≠k:=λg=>by
  unfold Nk;rw[Y5,Mp.keys j,Zh];simp
 refine⟨?_,λg f q=>(l g).2 ⟨f,q⟩⟩;have f:=h.say i o v j rfl;have z:=h.lt (Mp.key j);refine⟨f.bl,λx hx=>?_,?_,λs y=>?_⟩
 .rcases Zh.1 hx with hx|hx
  .exact f.rw x hx
  .rw[Ze.1 hx];exact⟨XN h.bl.size t,u⟩
 .rw[Y5,yBO];refine⟨f.nd,by simp,λa p b n e=>?_⟩;rw[Mp.keys j]at p;have q:=(h.lt p).2;simp at n;omega
 .refine s.kp _ W _ ⟨o.size,λg n B=>o.block g B λe=>((l g).1 n).1 (by rw[e];exact Mp.key j)⟩ (s.mo _ _ _ (λg n p=>(l g).2 ⟨p,oM⟩) (h.ob s y))
variable {P:Nat}[NeZero P]{N:Nat}[NeZero N]
def LI{y:Fin N}{n:Nat}(C:Fld P)(k:∀r:EC.Pt P,On r->mul N r=none)(c:IsP N):Gd N n 1 (qP N y.val (hGT P)) (λi=>(aD C k).ac (pwF (ivF y) i) (gPt C ⟨#[114,105,103,104,116]⟩ i)):=by
 have g:=oO C c.1 n;refine⟨λi b=>?_,λi b=>by unfold qP;rw[X7];exact g.len i b⟩;have h:=(g.tl i b).tm C k (pwF (ivF y) i);rw[<-mT c.1]at h;exact h
end
section
open SPA
section
variable {P:YO}{ops:Array Yw}{Q:Exit->Act->XF->Prop}{p r:Nat}{J:Iv}{i fuel:Nat}{o:Yw}{listed:Array Bool}{a a':Act}{w w':XF}{d:Option ZC}{x v:XG}{t:ZC}{T:Yj}{b off:Nat}{cs:List XG}
def AG.ro(i:Nat)(s:∀W,J.p W->W.rangeAt b off cs)(hv:Hid (.agg cs.toArray=x))(v:(P.underlying T).map (·.isRow)=some true)(m:(P.info? T).map (·.size)=some cs.length)(h:AW P ops Q p r J fuel (listed.setIfInBounds i true) a' w)(ho:ops[i]? = some o:=by(simp only[Yp,Yl,Yn])<;>rfl)(hd:o.dst=d:=by rfl)(f:Zd o (yielded ops a.tmps)=true:=by kernel_rfl)(k:o.op=.load T (.tmp t):=by rfl)(hx:a.eval (.tmp t)=oZ b off:=by rfl)
 (n:a.put d x=a':=by(simp only[Yo,XJ,XM,XO])<;>rfl) (g:aw1 ops p r (qw ops J.b p r i) i listed=true:=by kernel_rfl) (u:∀c a w,Q (.panic c) (a.put o.dst x) w->Q (.panic c) a w:=by exact λ_ _ _ h=>h):AW P ops Q p r J (fuel+1) listed a w:=by
 obtain rfl:=hv;obtain⟨e,l,q⟩:=XK.1 v;exact AW.take i (qw ops J.b p r i) ho hd (yieldsIf_load_mid f T (.tmp t) k b off hx cs e (λw j=>s w (Sa.bel j)) l q m) n g u h
def AG.mv(i:Nat)(h:AW P ops Q p r J fuel (listed.setIfInBounds i true) a' w)(ho:ops[i]? = some o:=by(simp only[Yp,Yl,Yn])<;>rfl)(hd:o.dst=d:=by rfl)(b:Zd o (yielded ops a.tmps)=true:=by kernel_rfl)(k:o.op=.move (.tmp t):=by rfl)(hx:a.eval (.tmp t)=x:=by(conv=>lhs;whnf)<;>rfl)
 (f:a.put d x=a':=by(simp only[Yo,XJ,XM,XO])<;>rfl) (g:aw1 ops p r (fw ops i) i listed=true:=by kernel_rfl) (e:∀c a w,Q (.panic c) (a.put o.dst x) w->Q (.panic c) a w:=by exact λ_ _ _ h=>h):AW P ops Q p r J (fuel+1) listed a w:=
 AW.take i (fw ops i) ho hd (Yk ⟨b,λw _=>by unfold Ym;rw[k];dsimp only;rw[hx];rfl⟩) f g e h
def AG.cw(i:Nat){f:ZZ}{args:Array XG}{R:XG->XF->Prop}{F:XG->Act}(l:J.p w->ZI P f args w (Ret R))(hR:∀e w',J.p w->R e w'->J.p w')(h:∀e w',R e w'->AW P ops Q p r J fuel (listed.setIfInBounds i true) (F e) w')(ho:ops[i]? = some o:=by(simp only[Yp,Yl,Yn])<;>rfl)(hd:o.dst=d:=by rfl)(c:Zd o (yielded ops a.tmps)=true:=by kernel_rfl)(hx:(Ym a.eval o).run P w=.ok (.enter f args) w:=by kernel_rfl)(j:Yq .any ops listed=[i]:=by kernel_rfl)(hf:∀e,a.put d e=F e:=by intro _;(simp only[Yo,XJ,XM,XO])<;>rfl):AW P ops Q p r J (fuel+1) listed a w:=λb=>by
 subst hd;exact anyS.step ho j λK g=>by
  rw[yE3 c];unfold Y8;rw[hx,ZU];apply(l b).mono;rintro e w' ⟨v,rfl,k⟩;exact g _ _ (Yd (hR v w' b k)) (hf v ▸ h v w' k (hR v w' b k))
end
variable {P:Nat}[NeZero P]{N:Nat}[NeZero N]
def VG{a b c d e f g h i j k:XG}{w:XF}:(Yu 66 (.agg #[a,b,c,d,e,f,g,h,i,j,k])).run prog w=.ok (jZ w.heap.size) (w.alloc (.cells #[a,b,c,d,e,f,g,h,i,j,k] 66)):=kR
def q33(g:Nat × Nat):XG:=sZ g.1 33 g.2
def q32(g:Nat × Nat):XG:=sZ g.1 32 g.2
structure RgU(Q:Nat->Prop)(W:XF)(p:Rp)(a b c d e f g:Nat × Nat):Prop where
 a:ElQ Q 33 W (q33 a) p.a
 b:ElQ Q 33 W (q33 b) p.s
 c:ElQ Q 33 W (q33 c) p.c
 d:ElQ Q 33 W (q33 d) p.d
 e:ElQ Q 32 W (q32 e) (bx p.u)
 f:ElQ Q 32 W (q32 f) (bx p.m)
 g:ElQ Q 32 W (q32 g) (bx p.t)
def RgU.keep{Q:Nat->Prop}{W W':XF}{p:Rp}{a b c d e f g:Nat × Nat}(h:RgU Q W p a b c d e f g)(k:Kq Q W W'):RgU Q W' p a b c d e f g:=⟨h.a.keep k,h.b.keep k,h.c.keep k,h.d.keep k,h.e.keep k,h.f.keep k,h.g.keep k⟩
structure RgV(t:Nat)(p:Rp)(Lb Rb:Nat->Bs)(Ab Bb:Bs)(e:XG)(W:XF):Prop where
 ex:∃a b c d u m s vL vR vA vB,e=.agg #[q33 a,q33 b,q33 c,q33 d,q32 u,q32 m,q32 s,vL,vR,vA,vB]/\RgU (λ_=>True) W p a b c d u m s/\TlV t W vL Lb/\TlV t W vR Rb/\ElQ (λ_=>True) 32 W vA Ab/\ElQ (λ_=>True) 32 W vB Bb
def RgV.below{t:Nat}{p:Rp}{j Rb:Nat->Bs}{g i:Bs}{e:XG}{W W':XF}(h:RgV t p j Rb g i e W)(f:kZ W W'):RgV t p j Rb g i e W':=by
 obtain⟨a,b,c,d,u,m,s,q,r,w,o,y,l,v,hR,x,n⟩:=h.ex;have k:Kq (λ_=>True) W W':=Kq.of_below f;exact⟨a,b,c,d,u,m,s,q,r,w,o,y,l.keep k,v.below f,hR.below f,x.keep k,n.keep k⟩
def VB{a b c:Nat × Nat}{w:XF}:(YF 27 3 #[(0,q32 a),(1,q32 b),(2,q32 c)]).run prog w=.ok (sZ w.heap.size 3 3) (w.alloc (.cells #[q32 a,q32 b,q32 c] 23)):=kR
def Xq{a b c d:Nat × Nat}{w:XF}:(YF 27 4 #[(0,q33 a),(1,q33 b),(2,q33 c),(3,q33 d)]).run prog w=.ok (sZ w.heap.size 4 4) (w.alloc (.cells #[q33 a,q33 b,q33 c,q33 d] 23)):=kR
abbrev pqP(k n:Nat)(B:Nat->Bs):Pq:=⟨λQ W=>PtL Q W k n B,λ_ _ _ k h=>h.keep k,λ_ _ _ m h=>h.mono2 m⟩
def four(a b c d:Bs)(j:Nat):Bs:=if j=0 then a else if j=1 then b else if j=2 then c else d
def Bw{α:Type}(a b c:α)(j:Nat):α:=if j=0 then a else if j=1 then b else c
def FC{Q:Nat->Prop}{W':XF}{k:Nat}{a b c:Nat × Nat}{x y z:Bs}(h:ElQ Q 32 W' (q32 a) x)(f:ElQ Q 32 W' (q32 b) y)(e:ElQ Q 32 W' (q32 c) z)(d:Row W' k [q32 a,q32 b,q32 c]):Args W' (some (aZ k)) 3 (Bw x y z):=λ_=>by
 refine⟨_,rfl,d.1,λj g=>?_⟩;match j,g with
 | 0,_=>exact⟨_,d.2.1 0 _ rfl,h.argS⟩
 | 1,_=>exact⟨_,d.2.1 1 _ rfl,f.argS⟩
 | 2,_=>exact⟨_,d.2.1 2 _ rfl,e.argS⟩
 | j+3,h=>omega
def JO{Q:Nat->Prop}{W:XF}{i k n c:Nat}{a:Nat->Nat}(h:SLq Q W (sZ k n c) n a)(b:i<n):W.rangeAt k (0+4*i) (wn (a i)):=by
 obtain⟨g,o,d,e,-,-,-,h⟩:=h;cases e
 exact h i b
def Gl{Q:Nat->Prop}{W:XF}{i k n:Nat}{B:Nat->Bs}(h:PtL Q W k n B)(b:i<n):W.rangeAt k (0+33*i) (aA (B i)):=by
 rw[XQ];exact(h i b).2.2
abbrev Z3:List XG:=[nZ,nZ,nZ]
def QL{x:XG}(h:x∈Z3):x=nZ:=by
 simp only[Zc,Yf,or_false,or_self]at h;exact h
def pLw(v:XG)(r:Nat)(L:Bs):S1:=⟨λx w=>x=v/\r<w.heap.size/\hZ w r 0 L,λ_ _ _ k h=>⟨h.1,XI h.2.1 k.size,Holds.below h.2.2 k h.2.1⟩⟩
def row_ne{rs:List (Nat × List XG)}{k r:Nat}{c q:List XG}(h:(rs.map (·.1)).Nodup)(i j:Nat)(p:i≠j)(s:rs[i]? = some (k,c))(u:rs[j]? = some (r,q)):k≠r:=λe=>by
 have d:=List.pairwise_iff_getElem.1 h;obtain⟨n,t⟩:=XT.1 s;obtain⟨m,o⟩:=XT.1 u;have g:(rs.map (·.1))[i]'(by simpa using n)=k:=by rw[yAj,t]
 have f:(rs.map (·.1))[j]'(by simpa using m)=r:=by rw[yAj,o]
 rcases Zx i j with b|l
 .exact d i j _ _ b (g.trans (e.trans f.symm))
 .exact d j i _ _ oM (f.trans (e.symm.trans g.symm))
def NB{p:Rp}{V X:Bs}{d b f:OnP P}{tau tt x y z:Fin N}{w:XF}(C:Fld P)(O:Ord N)(k:∀r:EC.Pt P,On r->mul N r=none)(i:IsP N)(l:18446744073709551616<=N){n t:Nat}(j:Wd n t)(ok:p.Ok)(o:V=wP d)(c:p.c=wP b)(q:p.d=wP f)(u:p.u=tau.val)(m:p.t=tt.val)(g:X=wP ((aD C k).cm (hPV C) (gPG C) (tt-rgD n y z) tau))(s:X=wP ((aD C k).ad ((aD C k).ad ((aD C k).ac (z*z) d) ((aD C k).ac x b)) ((aD C k).ac (x*x) f))):
 cZ 162 #[.agg p.l.toArray,pvl V,iZ n,nv x.val,nv y.val,nv z.val] w (rZ w λe w'=>e=tZ):=by
 apply(NC C O k i l j p ok V d b f o c q tau tt x y z u m w X X g s).mono;rintro e w' ⟨v,rfl,c,rfl⟩;refine⟨_,rfl,c,?_⟩;simp only[decide_true]
def uIl:yZ 252:=yQ
def iIl{c k t a b:Nat}:gZ 252 (inL c k t a b).length:=kR
def QN(C:Fld P)(O:Ord N)(d:∀r:EC.Pt P,On r->mul N r=none)(Z:IsP N)(hN:18446744073709551616<=N){n t:Nat}(hw:Wd n t)(p:Rp)(ok:p.Ok)(V:Bs)(Vp PA PS P1 P2:OnP P)(hV:V=wP Vp)(hA:p.a=wP PA)(hS:p.s=wP PS)(T:p.c=wP P1)(h2:p.d=wP P2)(tau mu tt x y z wf:Fin N)(hu:p.u=tau.val)(hm:p.m=mu.val)(ht:p.t=tt.val)(L3 L6 L8:Bs)(l3:L3=bgL V n p.a p.s)(ey:y=lD N L3)(ez:z=lD N (aX L3))(l6:L6=mdL (aX (aX L3)) p.c p.d)(ex:x=lD N L6)(l8:L8=enL (aX L6) p.u p.m p.t)(ew:wf=lD N L8)
 (Lb Rb:Nat->Bs) (Lp Tp:Nat->OnP P) (b9:∀j,Lb j=wP (Lp j)) (cy:∀j,Rb j=wP (Tp j)) (a b:Fin N) (u:OnP P) (eu:u=(aD C d).ac wf (uPt C)) (v0:Md.Vs Bs (OnP P)) (bo:v0.s=aX L8) (e8:v0.g=gPt C ⟨#[108,101,102,116]⟩) (dk:v0.h=λi=>(aD C d).ac (pwF (ivF y) i) (gPt C ⟨#[114,105,103,104,116]⟩ i)) (dp:v0.p=(aD C d).ad ((aD C d).ad ((aD C d).ad ((aD C d).ad PA ((aD C d).ac x PS)) ((aD C d).ac (-1) ((aD C d).ac mu (gPG C)))) ((aD C d).ad ((aD C d).dt (λ_=>-z) v0.g n) ((aD C d).dt (rgS y z) v0.h n))) ((aD C d).ac tt u)) (X:Bs) (hX:X=wP ((aD C d).cm (hPV C) (gPG C) (tt-rgD n y z) tau)) (hY:X=wP ((aD C d).ad ((aD C d).ad ((aD C d).ac (z*z) Vp) ((aD C d).ac x P1)) ((aD C d).ac (x*x) P2))) (eh:(aD C d).Nn u a b ((aD C d).vst (chF N) ivF t Lp Tp v0 t)) (e:XG) (w:XF) (c6:RgV t p Lb Rb (bx a.val) (bx b.val) e w) :
 cZ 107 #[pvl V,iZ n,e] w (rZ w λe w'=>e=tZ):=by
 obtain⟨g1,g2,g3,g4,g5,g6,g7,vL,vR,vA,vB,rfl,hT,hL,hR,eA,eB⟩:=c6.ex;have d3:=hw.2.2;have sV:V.size=33:=by rw[hV];exact aL _
 have he:=λ(W:XF) (E:kZ w W)=>(Kq.of_below E:Kq (λ_=>True) w W)
 have HT:=mk1 (λ(W:XF) (E:kZ w W)=>hT.keep (he W E));have h0:∀X:OnP P,∃q,rd P (wP X)=some q:=λX=>by obtain⟨q,hq,-⟩:=yF C X.2;exact⟨q,hq⟩
 have d5:=mk1 (λ(W:XF) (E:kZ w W)=>N8 C O d3 W (hL.below E) (hR.below E) (eA.keep (he W E)) (eB.keep (he W E)) (λj _=>by rw[b9];exact h0 _) (λj _=>by rw[cy];exact h0 _) (kW O a.isLt) (kW O b.isLt));obtain⟨vV,h6⟩:=hE (pvl V);obtain⟨k3,cj⟩:=hE (w.heap.size);obtain⟨w1,bu⟩:=hE (lZ w (aA V) 51);obtain⟨k5,bm⟩:=hE (w1.heap.size);obtain⟨w2,d7⟩:=hE (w1.alloc (.cells [q33 g1,q33 g2,q33 g3,q33 g4,q32 g5,q32 g6,q32 g7,vL,vR,vA,vB].toArray 66));have K2:=mk1 (((Mp.start w).new cj bu).new bm d7);obtain⟨ve,c5⟩:=hE (Yg #[q33 g1,q33 g2,q33 g3,q33 g4,q32 g5,q32 g6,q32 g7,vL,vR,vA,vB]);have B1:Hid ((Yu 51 vV).run prog w=.ok (jZ k3) w1):=h6.out▸bu.out▸cj.out▸tB sV w;have B2:Hid ((Yu 66 ve).run prog w1=.ok (jZ k5) w2):=c5.out▸d7.out▸bm.out▸VG;have bv:=mk1 (hw.hv w2);rw[h6.out,c5.out];clear c6 hT hL hR eA eB he;go_enter func107,ntmps107;refine PW.bg [] ?_;refine PW.ns B1 ?_;refine PW.ns B2 ?_;refine PW.en [fZ] ?_;refine PW.bg [] ?_;refine PW.gi bv λw3 cn=>?_
 have K3:=mk1 (K2.grow cn);clear K2 cn bv B1 B2;refine PW.en [iZ t,tZ,iZ t,tZ] ?_;refine PW.bg [oZ k5 7] ?_;refine PW.ro (cs:=[vL,vR,vA,vB]) (rnB (xs:=[q33 g1,q33 g2,q33 g3,q33 g4,q32 g5,q32 g6,q32 g7]) (K3.at_ 1).2.1 rfl) (Hid.mk' rfl) Nt Ll ?_;refine PW.go [] ?_;refine PW.ca (d5 w3 K3.bl) ?_;rintro e w4 ⟨bj,kl,kr,rfl,cx,b4⟩;have A:=mk1 ((K3.gets bj (pqP kl t Lb) cx).has (pqP kr t Rb) (b4.mono2 λg _ hg=>K3.nk g hg));clear d5 bj cx b4 K3;obtain⟨vI,hvI⟩:=hE (Yg (inL kl kr t a.val b.val).toArray);rw[hvI.out];refine PW.go [vI,tZ] ?_;obtain⟨k9,b7⟩:=hE (w4.heap.size);obtain⟨w5,cv⟩:=hE (lZ w4 inZ 252);obtain⟨w6,dd⟩:=hE (w5.setCells k9 0 (inL kl kr t a.val b.val));have B:=mk1 (A.new b7 cv);have K6:=mk1 (B.put 2 dd);refine PW.al b7 cv ?_;refine PW.st dd hvI (B.th 2) iIl GN ?_;refine PW.go [tZ] ?_;clear A B;refine PW.dn ?_;have L:=HT w6 K6.bl;obtain⟨kb,b5⟩:=hE (w6.heap.size);obtain⟨w7,b8⟩:=hE (w6.alloc (.cells [q33 g1,q33 g2,q33 g3,q33 g4].toArray 23));have hy:Hid ((YF 27 4 #[(0,q33 g1),(1,q33 g2),(2,q33 g3),(3,q33 g4)]).run prog w6=.ok (sZ kb 4 4) w7):=b8.out▸b5.out▸Xq;have F7:=aM b5 b8;have c7:Hid (cZ 56 #[.func (.func 57) #[] #[],sZ kb 4 4] w7 (rZ w7 λe w'=>∃K,e=.tuple #[sZ K 4 4,tZ]/\PtL (w7.heap.size<=·) w' K 4 (four p.a p.s p.c p.d))):=by
  have kq:Kq (λ_=>True) w6 w7:=Kq.of_below F7.1;apply(FH C 4 4 dC F7.2.1 λj S=>?_).mono
  .match j,S with
   | 0,_=>exact⟨_,F7.2.2.1 0 _ rfl,(L.a.keep kq).arg⟩
   | 1,_=>exact⟨_,F7.2.2.1 1 _ rfl,(L.b.keep kq).arg⟩
   | 2,_=>exact⟨_,F7.2.2.1 2 _ rfl,(L.c.keep kq).arg⟩
   | 3,_=>exact⟨_,F7.2.2.1 3 _ rfl,(L.d.keep kq).arg⟩
  .rintro e w' ⟨v,rfl,E,h⟩;rcases h with⟨-,K,rfl,l,s,k3⟩|⟨⟨j,S,f⟩,-⟩
   .exact⟨_,rfl,E,K,rfl,λj S=>⟨l,s,k3 j S⟩⟩
   .exfalso;have:∃q,rd P (four p.a p.s p.c p.d j)=some q:=by
     match j,S with
     | 0,_=>rw[show four p.a p.s p.c p.d 0=p.a from rfl,hA];exact h0 _
     | 1,_=>rw[show four p.a p.s p.c p.d 1=p.s from rfl,hS];exact h0 _
     | 2,_=>rw[show four p.a p.s p.c p.d 2=p.c from rfl,T];exact h0 _
     | 3,_=>rw[show four p.a p.s p.c p.d 3=p.d from rfl,h2];exact h0 _
    obtain⟨q,hq⟩:=this;rw[hq]at f;cases f
 refine PW.bg [jZ k5] ?_;refine PW.ce ((K6.at_ 1).2.1 0 _ rfl) uBy ?_;refine PW.go [oZ k5 1] ?_;refine PW.ce ((K6.at_ 1).2.1 1 _ rfl) uBy ?_;refine PW.go [oZ k5 2] ?_;refine PW.ce ((K6.at_ 1).2.1 2 _ rfl) uBy ?_;refine PW.go [oZ k5 3] ?_;refine PW.ce ((K6.at_ 1).2.1 3 _ rfl) uBy ?_;refine PW.ns hy ?_;refine PW.ca c7 ?_;rintro e w8 ⟨cp,A,rfl,c3⟩;have K8:=mk1 ((K6.grow F7.1).gets cp (pqP A 4 (four p.a p.s p.c p.d)) c3);clear c7 hy F7 L K6 cp c3;refine PW.en [sZ A 4 4,tZ,sZ A 4 4,tZ] ?_;have L:=HT w8 K8.bl;obtain⟨kc,ba⟩:=hE (w8.heap.size);obtain⟨w9,cz⟩:=hE (w8.alloc (.cells [q32 g5,q32 g6,q32 g7].toArray 23));have hy:Hid ((YF 27 3 #[(0,q32 g5),(1,q32 g6),(2,q32 g7)]).run prog w8=.ok (sZ kc 3 3) w9):=cz.out▸ba.out▸VB;have F9:=aM ba cz;have kv:Kq (λ_=>True) w8 w9:=Kq.of_below F9.1;have ds:=mk1 (MK O 3 3 dC (some (aZ kc)) (Bw (bx p.u) (bx p.m) (bx p.t)) (Bw p.u p.m p.t) w9 (FC (L.e.keep kv) (L.f.keep kv) (L.g.keep kv) F9.2) λj S=>by
  match j,S with
  | 0,_=>exact kW O (by rw[hu];exact tau.isLt)
  | 1,_=>exact kW O (by rw[hm];exact mu.isLt)
  | 2,_=>exact kW O (by rw[ht];exact tt.isLt)
  | j+3,h=>omega)
 refine PW.bg [oZ k5 4] ?_;refine PW.ce ((K8.at_ 1).2.1 4 _ rfl) uBy ?_;refine PW.go [oZ k5 5] ?_;refine PW.ce ((K8.at_ 1).2.1 5 _ rfl) uBy ?_;refine PW.go [oZ k5 6] ?_;refine PW.ce ((K8.at_ 1).2.1 6 _ rfl) uBy ?_;refine PW.ns hy ?_;refine PW.ca ds ?_;rintro e ha ⟨br,B,rfl,dm⟩;have R:=mk1 ((K8.grow F9.1).gets br (pqS (sZ B 3 3) 3 (Bw p.u p.m p.t)) dm);refine PW.en [sZ B 3 3,tZ,sZ B 3 3,tZ] ?_;apply XL;go_wp2_with fail
 rename_i Q' K hKK
 refine hG (pvl p.a) λva bf=>?_
 refine hG (pvl p.s) λvs b6=>?_
 refine hG (pvl p.c) λvc d9=>?_
 refine hG (pvl p.d) λvd ct=>?_
 refine hG (nv p.u) λvu bq=>?_
 refine hG (nv p.m) λvm c8=>?_
 refine hG (nv p.t) λvt c0=>?_
 refine hG (Yg p.l.toArray) λvp D=>?_
 refine hG ha.heap.size λb0 E=>?_
 have ku:∀ {W},kZ ha W->b0<=W.heap.size:=λh=>E.out ▸ h.size
 refine(gwL [pE (sZ A 4 4),pE (oZ A (0+33*0)),pE va,pE (sZ A 4 4),pE (oZ A (0+33*1)),pE vs,pE (sZ A 4 4),pE (oZ A (0+33*2)),pE vc,pE (sZ A 4 4),pE (oZ A (0+33*3)),pE vd,pE (sZ B 3 3),pE (oZ B (0+4*0)),pE vu,pE (sZ B 3 3),pE (oZ B (0+4*1)),pE vm,pE (sZ B 3 3),pE (oZ B (0+4*2)),pE vt,pE vp,RG.pN b0 rp0.l] (λW=>kZ ha W) (λW W' E h=>h.trans (E.mono h.size))).tail2 23 kR kR kR ⟨
  gO 11 (sZ A 4 4),
  EV 0 67 (sZ A 4 4) (atP dC) (λx W h=>h) (λ_=>rfl),
  gLr (cs:=aA p.a) 1 68 (λW s=>Gl ((R.grow s).get 2) dC) uCP (by rw[aB ok.a];exact iCP) (hR:=λ_=>bf),
  gO 11 (sZ A 4 4),
  EV 3 70 (sZ A 4 4) (atP dC) (λx W h=>h) (λ_=>rfl),
  gLr (cs:=aA p.s) 4 71 (λW s=>Gl ((R.grow s).get 2) dC) uCP (by rw[aB ok.s];exact iCP) (hR:=λ_=>b6),
  gO 11 (sZ A 4 4),
  EV 6 73 (sZ A 4 4) (atP dC) (λx W h=>h) (λ_=>rfl),
  gLr (cs:=aA p.c) 7 74 (λW s=>Gl ((R.grow s).get 2) dC) uCP (by rw[aB ok.c];exact iCP) (hR:=λ_=>d9),
  gO 11 (sZ A 4 4),
  EV 9 76 (sZ A 4 4) (atP dC) (λx W h=>h) (λ_=>rfl),
  gLr (cs:=aA p.d) 10 77 (λW s=>Gl ((R.grow s).get 2) dC) uCP (by rw[aB ok.d];exact iCP) (hR:=λ_=>ct),
  gO 13 (sZ B 3 3),
  EV 12 79 (sZ B 3 3) (mF dC) (λx W h=>h) (λ_=>rfl),
  gLr (cs:=wn p.u) 13 80 (λW s=>JO ((R.grow s).get 3) dC) u40 i40 (hR:=λ_=>bq),
  gO 13 (sZ B 3 3),
  EV 15 82 (sZ B 3 3) (mF dC) (λx W h=>h) (λ_=>rfl),
  gLr (cs:=wn p.m) 16 83 (λW s=>JO ((R.grow s).get 3) dC) u40 i40 (hR:=λ_=>c8),
  gO 13 (sZ B 3 3),
  EV 18 85 (sZ B 3 3) (mF dC) (λx W h=>h) (λ_=>rfl),
  gLr (cs:=wn p.t) 19 86 (λW s=>JO ((R.grow s).get 3) dC) u40 i40 (hR:=λ_=>c0),
  Lz [(69,va),(72,vs),(75,vc),(78,vd),(81,vu),(84,vm),(87,vt)] vp (λa W f=>⟨f.n 2 69 kR kR,f.n 5 72 kR kR,f.n 8 75 kR kR,f.n 11 78 kR kR,f.n 14 81 kR kR,f.n 17 84 kR kR,f.n 20 87 kR kR,yE5⟩) (λ_=>rfl) (λW=>by rw[<-bf.out,<-b6.out,<-d9.out,<-ct.out,<-bq.out,<-c8.out,<-c0.out,<-D.out];unfold pvl Rp.l;rw[dF ok.a,dF ok.s,dF ok.c,dF ok.d];kernel_rfl),
  uG rp0.l 153 (λW W' h s=>⟨_,rfl,ku s,h⟩),yE5⟩ ⟨rfl,rfl,rfl,XH _,λ_ _=>rfl⟩ ?_
 intro Y7 dq hR s;have dz:=hR 21 dC;obtain⟨d2,eb,ei,et⟩:=hR 22 dC;have d0:=mk1 (R.add s et (E.out▸ei));dsimp only[bY,YQ,Z4,Z5];simp only[Yo,XJ,XM,XO];rw[dz,eb];refine hG (dq.setCells d2 0 p.l) λh8 ki=>?_
 have lR:=(Rp.len ok).trans (Rp.len J2).symm;have kp:=mk1 (d0.put 3 ki rfl lR);have h5:gZ 153 p.l.length:=by rw[Rp.len ok];exact iRd
 refine PW.st ki D (d0.th 3 rfl lR) h5 (Rp.one p) ?_;refine PW.dn ?_;refine hKK _ _ ?_;refine hG (aX (aX L3)) λL5 kw=>?_
 have s5:L5.size=32:=kw.out▸bD;refine hG (nv y.val) λvy M=>?_
 refine hG (nv z.val) λvz h7=>?_
 have kd:n<=64:=by rw[hw.1];exact XN (Zb dC hw.2.2) dC
 have d8:Hid (cZ 79 #[vp,vV,iZ n] h8 (rZ h8 λe w'=>∃r,e=.tuple #[lgV r,vy,vz]/\h8.heap.size<=r/\hZ w' r 0 L5)):=by
  have h:=Qv O p ok V sV n oM h8;rw[<-l3,nN O Z ey,nN O Z ez,kw.out,D.out,h6.out,M.out,h7.out]at h;exact h
 have iV:gZ 51 (aA V).length:=by rw[aB sV];exact iCP
 refine PW.bg [] ?_;refine PW.ro (kp.at_ 3).2.1 D uRd h5 ?_;refine PW.ro (kp.at_ 0).2.1 h6 uCP iV ?_;refine PW.go [] ?_;refine PW.ca d8 ?_;rintro e co ⟨bp,r,rfl,lr,Hr⟩;have ec:=mk1 (kp.add bp (qV Hr (Holds.lt Hr (by rw[s5];decide))) lr);refine PW.go [lgV r,vy,vz] ?_;refine hG co.heap.size λcq hz=>?_
 refine hG (co.alloc (.cells [.pointer none].toArray 159)) λbz k6=>?_
 refine hG bz.heap.size λcu k7=>?_
 refine hG (lZ bz (RG.z 4) 44) λcd k0=>?_
 refine hG cd.heap.size λe0 kj=>?_
 refine hG (lZ cd (RG.z 4) 44) λf4 kh=>?_
 refine hG (f4.setCells cq 0 [jZ r]) λf1 ke=>?_
 refine hG (f1.setCells cu 0 (wn y.val)) λes k4=>?_
 refine hG (es.setCells e0 0 (wn z.val)) λkz ka=>?_
 have bc:=mk1 (((ec.new hz k6).new k7 k0).new kj kh);have c4:=mk1 (bc.put 5 ke);have d4:=mk1 (c4.put 6 k4);have hk:=mk1 (d4.put 7 ka);refine PW.al hz k6 ?_;refine PW.al k7 k0 ?_;refine PW.al kj kh ?_;refine PW.st ke (Hid.mk' rfl) (bc.th 5) iLg kR ?_;refine PW.st k4 M (c4.th 6) i40 aI ?_;refine PW.st ka h7 (d4.th 7) i40 aI ?_;refine PW.dn ?_;refine hG (aX L6) λL7 ko=>?_
 have s7:L7.size=32:=ko.out▸bD;refine hG (nv x.val) λvx h4=>?_
 have d6:Hid (cZ 85 #[vp,lgV r] kz (Ret λe w'=>SP.Only r 0 32 kz w'/\hZ w' r 0 L7/\e=vx)):=by
  have h:=P5 O p ok r L5 kz (hk.log 4) s5;rw[show mdL L5 p.c p.d=L6 kw.out▸l6.symm,nN O Z ex,ko.out,D.out,h4.out]at h;exact h
 refine PW.bg [] ?_;refine PW.ro (hk.at_ 3).2.1 D uRd h5 ?_;refine PW.ro (cs:=[jZ r]) (hk.at_ 5).2.1 (Hid.mk' rfl) uLg iLg ?_;refine PW.ca d6 ?_;rintro e bh ⟨bi,b2,bk⟩;obtain rfl:=bk.symm;have er:=mk1 (hk.say 4 bi b2);refine hG bh.heap.size λdh kg=>?_
 refine hG (lZ bh (RG.z 4) 44) λdu km=>?_
 refine hG (du.setCells dh 0 (wn x.val)) λI k8=>?_
 have bt:=mk1 (er.new kg km);have F:=mk1 (bt.put 8 k8);refine PW.al kg km ?_;refine PW.st k8 h4 (bt.th 8) i40 aI ?_;refine PW.dn ?_;refine hG (aX L8) λL9 hr=>?_
 have s9:L9.size=32:=hr.out▸bD;refine hG (nv wf.val) λvw be=>?_
 have ky:0<n:=by rw[hw.1];exact yAJ dC
 obtain⟨Q2,hQ⟩:=F.q;have nr:=F.ne hQ 4;have hs:=(F.at_ 4).1;have l:Hid (∀ {k:Nat}{c:List XG}{W:XF},Row I k c->k≠r->SP.Only r 0 32 I W->Row W k c):=λT h2 h3=>aS T h3.size (h3.block _ T.1 h2)
 have nk:Hid ((cu≠r/\d2≠r)/\cq≠r):=by
  have h:=F.nd;simp only[yAg,yCx,List.nodup_cons,Zc,Yf,or_false,not_or]at h;exact⟨⟨λe=>h.2.2.2.2.1.2.1 e.symm,h.2.2.2.1.1⟩,λe=>h.2.2.2.2.1.1 e.symm⟩
 have ea:=oO C Z.1 n;have df:Hid (∀W,hZ W r 0 L7->cZ 88 #[vp,lgV r] W (Ret λe w'=>SP.Only r 0 32 W w'/\hZ w' r 0 L9/\e=vw)):=λW hH=>by
  have h:=Ql O p ok (by rw[hu];exact tau.isLt) (by rw[hm];exact mu.isLt) (by rw[ht];exact tt.isLt) r L7 W hH s7;rw[show enL L7 p.u p.m p.t=L8 ko.out▸l8.symm,nN O Z ew,hr.out,D.out,be.out]at h;exact h
 have ej:Hid (∀W v,(∀g,W.heap.size<=g->Q2 g)->GRq Q2 W v n (gGT P) (hGT P) (uGT P)->cZ 91 #[v,vy,vw] W (rZ W λe w'=>GRq Q2 w' e n (gGT P) (qP N y.val (hGT P)) ((uGT P).map (tmT N wf.val)))):=λW v T h2=>by
  rw[<-M.out,<-be.out];exact Jv O n ky kd (gGT P) (hGT P) (uGT P) (λi G=>⟨(ea.tl i G).ok,by show 1<=512;decide⟩) (nP C Z.1).ok (by show 1<=512;decide) y.val wf.val y.isLt wf.isLt v W T h2
 refine hG I.heap.size λb0 E=>?_
 have ku:∀ {W},SP.Only r 0 32 I W->b0<=W.heap.size:=λh=>E.out ▸ h.size
 have Gk:Hid (∀ {W W':XF}{v:XG}{G H U},SP.Only r 0 32 W W'->GRq Q2 W v n G H U->GRq Q2 W' v n G H U):=λhO h=>h.keep ⟨hO.size,λg hg hl=>hO.block g hl (nr g hg)⟩
 have rb:r<b0:=E.out▸hs;have kk:Hid (∀ {W:XF},SP.Only r 0 32 I W->∀g,W.heap.size<=g->Q2 g):=λh g hg=>F.nkq hQ g (XN h.size hg)
 apply XL;refine(gwL [pE (iZ n),pR Q2 n (gGT P) (hGT P) (uGT P),pE vy,pE vp,pE (lgV r),pLw vw r L9,pR Q2 n (gGT P) (qP N y.val (hGT P)) ((uGT P).map (tmT N wf.val)),pX b0 Z3] (λW=>SP.Only r 0 32 I W) (λ_ _ E h=>h.trans (SP.Only.of_below E rfl (XI hs h.size)))).tailL 5 (λW W'=>SP.Only r 0 32 W W') (λW=>r<W.heap.size/\hZ W r 0 L7) 8 (λj v W W' S hO h=>by
  match j,S with
  | 0,_=>exact h
  | 1,_=>exact Gk hO h
  | 2,_=>exact h
  | 3,_=>exact h
  | 4,_=>exact h
  | 5,S=>exact(S rfl).elim
  | 6,_=>exact Gk hO h
  | 7,_=>exact Ot hO rb h
  | j+8,_=>exact h) (λW W' hO h=>SP.Only.trans h hO) (λW W' E h=>⟨XI h.1 E.size,Holds.below h.2 E h.1⟩) kR kR kR ⟨
  EP (gO 1 (iZ n)),
  EP (oL 0 100 76 (λx=>#[x]) (λx W e1 s=>by
   obtain rfl:x=iZ n:=e1;apply(zB (P:=P) C n oM W).mono;rintro e W' ⟨J,rfl,T,h2⟩;exact⟨_,rfl,T,h2.mono (kk s)⟩)),
  EP (gLo (cs:=wn y.val) 17 (λW s=>(l (F.at_ 6) nk.1.1 s).2.1) u40 i40 (hR:=λ_=>M)),
  EP (gLo (cs:=p.l) 15 (λW s=>(l (F.at_ 3) nk.1.2 s).2.1) uRd h5 (hR:=λ_=>D)),
  EP (gLo (cs:=[jZ r]) 16 (λW s=>(l (F.at_ 5) nk.2 s).2.1) uLg iLg),
  WW (λa W f s=>⟨[(103,vp),(104,lgV r)],88,#[vp,lgV r],⟨f.n 3 103 kR kR,f.n 4 104 kR kR,yE5⟩,kR,by
   apply(df W s.2).mono;rintro e W' ⟨J,rfl,T,h2,h3⟩;exact⟨_,rfl,T,h3,XI s.1 T.size,h2⟩⟩),
  EP (nJ 1 101 2 102 5 105 91 (λx y z=>#[x,y,z]) (λx u z W e1 e2 e3 s=>by
   obtain rfl:u=vy:=e2;obtain rfl:z=vw:=e3.1;exact ej W x (kk s) e1)),
  EP (U3 b0 Z3 150 (λW s=>ku s) (λv W h=>h)),yE5⟩ (SP.Only.of_below (⟨rfl,rfl,rfl,XH _,λ_ _=>rfl⟩:kZ I I.drew) rfl hs) ⟨hs,F.log 4⟩ ?_
 intro Y de hR s;have f6:=hR 6 dC;have e4:=(hR 5 dC).2.2;obtain⟨e5,e7,ep,ek,dl⟩:=hR 7 dC;obtain⟨dx,em⟩:=F.sayAdd 4 s e4 ek (E.out▸ep);have gl:∀j,j<n->0<(gGT P j).length:=λj S=>by rw[(xC C Z.1 n).len j S];decide
 have hl:∀j,j<n->0<(qP N y.val (hGT P) j).length:=λj S=>by rw[(LI C d Z).len j S];decide
 have kt:=(f6.offX ky gl hl (by rw[X7];show 0<1;decide) (λi x hx=>QL (dl i x hx))).mono λg hg=>em g (hQ.out▸hg.1) hg.2
 obtain⟨q1,q2,q3,e6,ed,dy,ef⟩:=kt.ex;obtain⟨ga,oa,ca,e1⟩:∃g o c,q1=qZ g o n c:=by obtain⟨g,o,c,h,-⟩:=ed;exact⟨g,o,c,h⟩
 obtain⟨gb,ob,cb,e2⟩:∃g o c,q2=qZ g o n c:=by obtain⟨g,o,c,h,-⟩:=dy;exact⟨g,o,c,h⟩
 obtain⟨gc,mc,cc,e3⟩:∃g m c,q3=sZ g m c:=by obtain⟨g,c,h,-⟩:=ef;exact⟨g,_,c,h⟩
 subst e1 e2 e3;rw[e6]at kt;have da:=mk1 (dx.has (pqG _ n (gGT P) (qP N y.val (hGT P)) ((uGT P).map (tmT N wf.val))) kt);dsimp only[bY,YQ,Z4,Z5];simp only[Yo,XJ,XM,XO];rw[e6,e7];refine hG (de.setCells e5 0 [qZ ga oa n ca,qZ gb ob n cb,sZ gc mc cc]) λh9 kf=>?_
 have f:=mk1 (da.put 9 kf);refine PW.st kf (Hid.mk' rfl) (da.th 9) iGr kR ?_;refine PW.dn ?_;have eo:Hid (∀W,cZ 162 #[vp,vV,iZ n,vx,vy,vz] W (rZ W λe w'=>e=tZ)):=λW=>by
  rw[<-D.out,<-h6.out,<-h4.out,<-M.out,<-h7.out];exact NB C O d Z hN hw ok hV T h2 hu ht hX hY
 have G1:Gd N n 1 (gGT P) v0.g:=by rw[e8];exact xC C Z.1 n
 have G2:Gd N n 1 (qP N y.val (hGT P)) v0.h:=by rw[dk];exact LI C d Z
 have G3:Tl N ((uGT P).map (tmT N wf.val)) u:=by rw[eu];exact(nP C Z.1).tm C d wf
 have G4:((uGT P).map (tmT N wf.val)).length=1:=by rw[X7];rfl
 obtain⟨lh,bl,f5,bs⟩:=U0 C O d Z hN ky kd p ok PA PS hA hS mu tt x y z hm ht (gGT P) (qP N y.val (hGT P)) ((uGT P).map (tmT N wf.val)) v0.g v0.h u G1 G2 G3 G4;rw[<-dp]at bl;rw[D.out,h4.out,M.out,h7.out]at bs;refine hG (Yg #[qZ ga oa n ca,qZ gb ob n cb,sZ gc mc cc]) λvg kn=>?_
 rw[kn.out]at f;have b3:=(f.at_ 4).1;apply XL;have l:Hid (∀ {k:Nat}{c:List XG}{W:XF},Row h9 k c->k≠r->SP.Only r 0 32 h9 W->Row W k c):=λT h2 h3=>aS T h3.size (h3.block _ T.1 h2)
 have d1:=(row_ne f.nd 3 4 dC rfl rfl)
 have n3:=(row_ne f.nd 0 4 dC rfl rfl)
 have n9:=(row_ne f.nd 2 4 dC rfl rfl)
 have f0:=(row_ne f.nd 5 4 dC rfl rfl)
 have bd:=(row_ne f.nd 6 4 dC rfl rfl)
 have db:=(row_ne f.nd 7 4 dC rfl rfl)
 have bn:=(row_ne f.nd 8 4 dC rfl rfl)
 have c9:=(row_ne f.nd 9 4 dC rfl rfl)
 refine AW.beg 20 20 (SP.Only.of_below (⟨rfl,rfl,rfl,XH _,λ_ _=>rfl⟩:kZ h9 h9.drew) rfl b3) ?_;refine AW.ro 0 (cs:=p.l) (λW h=>(l (f.at_ 3) d1 h).2.1) D uRd h5 ?_;refine AW.ro 1 (λW h=>(l (f.at_ 0) n3 h).2.1) h6 uCP iV ?_;refine AW.mv 2 ?_;refine AW.ro 3 (λW h=>(l (f.at_ 8) bn h).2.1) h4 u40 i40 ?_;refine AW.ro 4 (λW h=>(l (f.at_ 6) bd h).2.1) M u40 i40 ?_;refine AW.ro 5 (λW h=>(l (f.at_ 7) db h).2.1) h7 u40 i40 ?_;refine AW.gi 6 (λ_=>eo _) λe9 cg=>?_
 have hc:=mk1 (f.drew.grow cg);refine AW.mv 7 ?_;refine AG.ro 8 (cs:=inL kl kr t a.val b.val) (λW h=>(l (f.at_ 2) n9 h).2.1) hvI uIl iIl ?_;refine AG.ro 9 (cs:=[jZ r]) (λW h=>(l (f.at_ 5) f0 h).2.1) (Hid.mk' rfl) uLg iLg ?_;refine AG.ro 10 (cs:=[qZ ga oa n ca,qZ gb ob n cb,sZ gc mc cc]) (λW h=>(l (f.at_ 9) c9 h).2.1) kn uGr iGr ?_;refine AG.ro 11 (cs:=p.l) (λW h=>(l (f.at_ 3) d1 h).2.1) D uRd h5 ?_;refine AG.ro 12 (cs:=[qZ ga oa n ca,qZ gb ob n cb,sZ gc mc cc]) (λW h=>(l (f.at_ 9) c9 h).2.1) kn uGr iGr ?_;refine AG.mv 13 ?_;refine AG.ro 14 (λW h=>(l (f.at_ 8) bn h).2.1) h4 u40 i40 ?_;refine AG.ro 15 (λW h=>(l (f.at_ 6) bd h).2.1) M u40 i40 ?_;refine AG.ro 16 (λW h=>(l (f.at_ 7) db h).2.1) h7 u40 i40 ?_;refine AG.cw 17 (λ_=>bs _ vg e9 (hc.get 4)) (λe w' hJ h=>SP.Only.trans hJ (SP.Only.of_below h.1 rfl (hc.at_ 4).1)) ?_;rintro sv kx ⟨ci,eg⟩;have J:=mk1 (hc.grow ci);have dw:Hid (cZ 163 #[vI,lgV r,vg,sv] kx (Ret λe w'=>SP.Only r 0 32 kx w'/\e=tZ)):=by
  obtain⟨Q,hQ⟩:=J.q;have nr:=J.ne hQ 4;have f7:=(hc.at_ 4).1;rw[<-hvI.out];exact N4 C O d Z t d3 Lp Tp v0 u (gGT P) (qP N y.val (hGT P)) ((uGT P).map (tmT N wf.val)) lh (by rw[<-hw.1];exact G1) (by rw[<-hw.1];exact G2) G3 (by rw[G4];decide) (by rw[G4];decide) bl f5 Lb Rb b9 cy r kl kr a b vg sv kx (by rw[bo,hr.out];exact J.log 4) (by rw[bo,hr.out];exact s9) (PtL.mono2 (J.wL hQ 0) λg _ hg=>nr g hg) (PtL.mono2 (J.wL hQ 1) λg _ hg=>nr g hg) (by rw[<-hw.1];exact GRq.mono (J.wL hQ 4) nr) (eg.q.mono λg hg=>oM) true (by simp only[true_iff];exact eh)
 refine AG.cw 18 (λ_=>dw) (λe w' hJ h=>SP.Only.trans hJ h.1) ?_;rintro e f8 ⟨cf,rfl⟩;refine AW.nx 19 tZ ?_;refine AW.nx 20 tZ ?_;refine AW.dn λ_=>?_
 have hF:=J.bl.trans (yO cf J.bl.size (J.rw (r,aA L9) (YZ (i:=4) rfl)).1);go_wp2;go_ret;exact⟨_,rfl,hF,rfl⟩
end
section
variable {P:Nat}[NeZero P]{N:Nat}
def Cor(W:XF)(k:List (Y4 × Nat))(us:List XG):Prop:=k.length=us.length/\∀(j:Nat) x u,k[j]? = some x->us[j]? = some u->(∃b o,x.1=⟨b,o,none⟩)/\W.cell? x.1=some u
def Cor.app{W:XF}{p1 p2:List (Y4 × Nat)}{u1 u2:List XG}(k:Cor W p1 u1)(d:Cor W p2 u2):Cor W (p1++p2) (u1++u2):=by
 refine⟨by rw[XP,XP,k.1,d.1],λj x u hx b=>?_⟩;by_cases c:j<p1.length
 .rw[X1 c]at hx;rw[X1 (by rw[<-k.1];exact c)]at b;exact k.2 j x u hx b
 .rw[X4 oM]at hx;rw[X4 (by rw[<-k.1];omega),<-k.1]at b;exact d.2 _ x u hx b
def Cor.lp{W:XF}{s:Sv}{b o:Nat}{ys:List XG}(h:VL W s.q s.n ys)(d:s.n=0\/s.q=some ⟨b,o,none⟩):Cor W (lp b o s.n) ys:=by
 refine⟨by rw[jW,h.len],λj x u hx f=>?_⟩;unfold Go.Proofs.YtlofhpkoaljmeaaGreat.lp at hx;rw[YC]at hx;obtain⟨k,g,rfl⟩:=XK.1 hx;have p:j<s.n:=by
  have:=(XT.1 g).1;simpa using this
 have e:j=k:=by
  have:=(XT.1 g).2;simpa using this
 subst e;refine⟨⟨_,_,rfl⟩,?_⟩;rcases h.cells with l|⟨m,n,c,-,i⟩
 .rw[l]at f;cases f
 .rcases d with d|d
  .omega
  .rw[d]at c;have c:=X5.inj c;injection c with e1 e2 _
   subst e1 e2;exact i j u f
def qY(p:Rg)(b k:List XG):List XG:=[p.a.v,p.b.v,p.c.v,p.d.v,p.e.v,p.f.v,p.g.v]++b++k++[p.x.v,p.y.v]
def gA(k b d n c or m:Nat):List (Y4 × Nat):=uQ k++lp b d n++lp c or m++endP k
def OW{W:XF}{l g m i or:Nat}{p:Rg}{e d:List XG}(f:W.rangeAt l 0 p.cs)(o:VL W p.l.q p.l.n e)(hR:VL W p.r.q p.r.n d)(q:p.l.n=0\/p.l.q=some ⟨g,m,none⟩)(n:p.r.n=0\/p.r.q=some ⟨i,or,none⟩):
 Cor W (gA l g m p.l.n i or p.r.n) (qY p e d):=by
 refine Cor.app (Cor.app (Cor.app ?_ (Cor.lp o q)) (Cor.lp hR n)) ?_
 .refine⟨rfl,λj x u hx b=>?_⟩;have c:=f j u;rw[XQ]at c;match j,hx,b with
  | 0,hx,b|1,hx,b|2,hx,b|3,hx,b|4,hx,b|5,hx,b|6,hx,b =>
   obtain rfl:=X5.inj hx;exact⟨⟨_,_,rfl⟩,c b⟩
  | k+7,hx,b=>cases hx
 .refine⟨rfl,λj x u hx b=>?_⟩;match j,hx,b with
  | 0,hx,b =>
   obtain rfl:=X5.inj hx;exact⟨⟨_,_,rfl⟩,by have c:=f 9 u b;rw[XQ]at c;exact c⟩
  | 1,hx,b =>
   obtain rfl:=X5.inj hx;exact⟨⟨_,_,rfl⟩,by have c:=f 10 u b;rw[XQ]at c;exact c⟩
  | k+2,hx,b=>cases hx
def fH(n m:Nat):List Nat:=[33,33,33,33,32,32,32]++YR n 33++YR m 33++[32,32]
def uD(d k e n c or m:Nat):(gA d k e n c or m).map (·.2)=fH n m:=by
 have h:∀b o n,(lp b o n).map (·.2)=YR n 33:=λb o n=>by
  unfold lp;rw[List.map_map];exact List.ext_getElem (by simp) (λi f g=>by simp)
 unfold gA fH;rw[Y5,Y5,Y5,h,h];rfl
def Gu{n m:Nat}:∀k∈fH n m,k<=33:=by
 intro k b;unfold fH at b;simp only[Zh,Zc,Yf,or_false,List.mem_replicate]at b;omega
def lP(n m:Nat):(fH n m).length=n+m+9:=by
 unfold fH;simp only[XP,List.length_replicate,YA,ZD];omega
def PtB(W:XF)(us:List XG)(BB:List SP.Bs):Prop:=BB.length=us.length/\∀(j:Nat) u b,us[j]? = some u->BB[j]? = some b->Pt W u b
def fE(n:Nat)(BB:List SP.Bs)(i:Nat):SP.Bs:=(BB.take i).foldl (·++·) #[n.toUInt8]
def mD{BB:List SP.Bs}{i:Nat}{b:SP.Bs}(n:Nat)(h:BB[i]? = some b):fE n BB (i+1)=fE n BB i++b:=by
 unfold fE;rw[yCu,h];simp
def kV(n m:Nat)(BB:List SP.Bs):Prop:=n=m/\n<=6/\BB.map ZA=fH n m
def VW(w:XF)(n m:Nat)(BB:List SP.Bs)(e:Ending)(W:XF):Prop:=Below w.heap.size w W/\((kV n m BB/\∃v,e=.returned (.tuple #[v,.int .i64 0])/\Pt W v (fE n BB (n+m+9))/\∃g c,v=.slice (some ⟨g,0,none⟩) (ZA (fE n BB (n+m+9))) c/\ZA (fE n BB (n+m+9))<=c)\/(¬kV n m BB/\e=.returned (.tuple #[.slice none 0 0,.int .i64 2])))
def PuI.cap{w f W:XF}{d k:Nat}{v:XG}{b:SP.Bs}(h:PuI w f W d k v b):∃g c,v=sZ g (ZA b) c/\ZA b<=c:=by
 rcases id h.ow with⟨i,⟨rfl,-⟩|⟨g,cap,cur,rfl,j,l,e,-⟩⟩
 .exact absurd rfl h.nn
 .exact⟨g,cap,rfl,e⟩
def PuI.pt{w m W:XF}{n i:Nat}{v:XG}{b:SP.Bs}(h:PuI w m W n i v b):Pt W v b:=by
 have k:=h.lt;rcases id h.ow with⟨x,⟨rfl,-⟩|⟨g,cap,cur,rfl,s,o,r,u,p,t⟩⟩
 .exact absurd rfl h.nn
 .obtain⟨q,d,e,-,l⟩:=k;injection e with e _ _
  injection e with e
  injection e with e _ _
  subst e;refine⟨_,_,rfl,Yd ⟨g,0,rfl,l,λj f=>?_⟩⟩;have c:=h.ow.cells (g:=g) rfl j (SP.encB b[j]!) (by
   unfold bC;rw[YC,XV (by simpa using f),yAy,getElem!_pos b j f];simp)
  rw[gU,XQ]at c;refine⟨by rw[XQ];exact c,?_⟩;simp[Zt,o]
def TV:yZ 101:=yQ
def iPt:gZ 101 2:=gQ
def Qf{n i:Nat}(g c:Nat)(b:i<n)(w:XF):(YV 96 (sZ g n c) (iZ i)).run prog w=.ok (oZ g (i*2)) w:=by
 have k:=gU g 0 (i*2);rw[XQ]at k;go_simp
def Rq(p:Rg){P L I or:Nat}{C A:List XG}{BB:List SP.Bs}(w:XF)(hL:VL w p.l.q p.l.n C)(hR:VL w p.r.q p.r.n A)(hl:p.l.n=0\/p.l.q=some ⟨P,L,none⟩)(hr:p.r.n=0\/p.r.q=some ⟨I,or,none⟩)(hB:PtB w (qY p C A) BB)(n1:p.l.n<=1000)(n2:p.r.n<=1000):
 ZI prog 22 #[.agg p.cs.toArray] w (VW w p.l.n p.r.n BB):=by
 obtain⟨cs,r⟩:=hE (p.cs:List XG);obtain⟨l,t⟩:=hE (w.alloc (.cells cs.toArray 66));have V:l.heap.size=w.heap.size+1:=by rw[<-t.out,XS]
 have b1:Below w.heap.size w l:=by rw[<-t.out];exact bJ _ _
 have r1:l.rangeAt w.heap.size 0 cs:=by rw[<-t.out];exact oR (w:=w) (cs:=cs)
 have R:l.cell? ⟨w.heap.size,7,none⟩=some p.l.v:=by have:=r1 7 p.l.v (by rw[<-r.out];rfl);rw[XQ]at this;exact this
 have Q:l.cell? ⟨w.heap.size,8,none⟩=some p.r.v:=by have:=r1 8 p.r.v (by rw[<-r.out];rfl);rw[XQ]at this;exact this
 obtain⟨T,z⟩:=hE (l.alloc (.cells #[.int .u8 (p.l.n:Int)] 5));have b2:Below l.heap.size l T:=by rw[<-z.out];exact bJ _ _
 have Z:T.heap.size=l.heap.size+1:=by rw[<-z.out,XS]
 have hP:Hid (ZI prog 44 #[.pointer (some ⟨w.heap.size,0,none⟩)] T λe w'=>∃v,e=.returned v/\PLs T w' v (gA w.heap.size P L p.l.n I or p.r.n)):=
  AO w.heap.size p.l p.r P L I or T oM (by rw[b2.cell (p:=⟨w.heap.size,7,none⟩) (by show w.heap.size<_;omega)];exact R) (by rw[b2.cell (p:=⟨w.heap.size,8,none⟩) (by show w.heap.size<_;omega)];exact Q) hl hr n1 n2
 have D:=Hid.mkP b1;have h1:=Hid.mkP b2;have h2:=Hid.mkP r1;have HE:=mk2 V Z;have HL:=Hid.mkP hL;have HR:=Hid.mkP hR;have Hl:=Hid.mkP hl;have Hr:=Hid.mkP hr;have HB:=Hid.mkP hB;have o:Hid ((qY p C A).length=p.l.n+p.r.n+9):=by
  show _=_;unfold qY;simp only[XP,hL.len,hR.len,YA,ZD];omega
 clear b1 b2 r1 V Z hL hR hl hr hB;rw[r.out];obtain⟨f,O⟩:=yH p.l.n;obtain⟨nr,N⟩:=yH p.r.n;rw[show p.l.v=.slice p.l.q p.l.n p.l.c from rfl]at R;rw[show p.r.v=.slice p.r.q p.r.n p.r.c from rfl]at Q;rw[O.out,N.out]at hP o⊢;rw[O.out]at R n1 z;rw[N.out]at Q n2;generalize p.l.q=ql at R;generalize p.l.c=cl at R;generalize p.r.q=qr at Q;generalize p.r.c=cr at Q;go_enter func22,ntmps22;by_cases hg:f=nr
 .subst hg;by_cases h6:f<=6
  .have hb:¬(6:Int)<(f:Int):=oM;have hq:IntKind.u8.wrap (f:Int)=(f:Int):=by
    show((f:Int)%256)=_;omega
   go_wp2_with (first|(refine dQ (v:=.pointer (some ⟨w.heap.size,0,none⟩)) (w':=l) rfl (.box 66 (.tmp 0)) rfl ?_ ?_;(rw[<-t.out,<-r.out];kernel_rfl))|(refine dQ (v:=.slice (some ⟨l.heap.size,0,none⟩) 1 1) (w':=T) rfl (.buildSlice 23 1 #[(0,.tmp 23)]) rfl ?_ ?_;(rw[<-z.out];kernel_rfl))|fail)
   refine hP.out.mono ?_;rintro e U ⟨v3,rfl,J⟩;obtain⟨G,X,rfl,h5,ha⟩:=J.lt;have hM:(gA w.heap.size P L f I or f).length=f+f+9:=by
    rw[<-lP f f,<-uD w.heap.size P L f I or f,X7]
   have I0:Hid (PuI w U U w.heap.size G (.slice (some ⟨l.heap.size,0,none⟩) 1 1) (fE f BB 0)):=by
    obtain⟨z1,z2⟩:=HE.out;have m:=J.bl.size;refine⟨D.out.trans ((h1.out.mono D.out.size).trans (J.bl.mono oM)),⟨rfl,Yd ⟨l.heap.size,1,#[.int .u8 f],rfl,oM,?_,XH _,dC,rfl,?_⟩⟩,by simp[Zm],by simp[Zm];omega,by simp[Zm];omega,rfl,rfl,XH _,oM,oM⟩
    .rw[J.bl.block l.heap.size oM,<-z.out];exact yAr
    .show [Y1 .u8 f]=[SP.encB f.toUInt8];unfold SP.encB SP.ub;have:(f.toUInt8).toNat=f:=by
      rw[UInt8.toNat_ofNat'];omega
     simp[this]
   have HC:Hid (∀W v b,PuI w U W w.heap.size G v b->∀i,i<f+f+9->∃bb y k q n c B,(fH f f)[i]? = some k/\k<=33/\W.rangeAt G (i*2) [.pointer (some ⟨bb,y,none⟩),.int .i64 k]/\W.cell? ⟨bb,y,none⟩=some (.slice q n c)/\BB[i]? = some B/\Pt W (.slice q n c) B):=λW v b hI i hi=>by
    obtain⟨z1,z2⟩:=HE.out;have m:W.rangeAt w.heap.size 0 p.cs:=λj u H=>by
     have e:=hI.e1;have s:U.heap[w.heap.size]? = l.heap[w.heap.size]?:=by rw[J.bl.block _ oM,h1.out.block _ oM]
     have:W.cell? ⟨w.heap.size,0+j,none⟩=l.cell? ⟨w.heap.size,0+j,none⟩:=by unfold YY;rw[e,s]
     rw[this];exact h2.out j u (by rw[<-r.out];exact H)
    have E:=OW m (HL.out.below hI.bl) (HR.out.below hI.bl) Hl.out Hr.out;rw[O.out,N.out]at E;obtain⟨x,hx⟩:∃x,(gA w.heap.size P L f I or f)[i]? = some x:=⟨_,XV oM⟩
    obtain⟨u,S⟩:∃u,(qY p C A)[i]? = some u:=⟨_,XV (by rw[o.out];omega)⟩
    obtain⟨B,a⟩:∃B,BB[i]? = some B:=⟨_,XV (by rw[HB.out.1,o.out];omega)⟩
    obtain⟨⟨bb,y,s⟩,F⟩:=E.2 i x u hx S;have hpt:=(HB.out.2 i u B S a).below hI.bl;have Y:(fH f f)[i]? = some x.2:=by rw[<-uD w.heap.size P L f I or f,YC,hx];rfl
    have K:=J.at i x hx;rw[s]at F;obtain⟨q,c,rfl,-⟩:=id hpt;refine⟨bb,y,x.2,q,_,c,B,Y,Gu (n:=f) (m:=f) _ (YZ Y),λj u H=>?_,F,a,hpt⟩;have e:=hI.e2;have:W.cell? ⟨G,i*2+j,none⟩=U.cell? ⟨G,i*2+j,none⟩:=by unfold YY;rw[e]
    rw[this,Nat.mul_comm];exact K j u (by unfold pC;rw[s];exact H)
   obtain⟨M,s⟩:=yH (f+f+9);rw[s.out]at HC hM;rw[hM];have hn:M<=21:=oN s.out;have h4:Hid (BB.length=M):=by show _=_;rw[HB.out.1,o.out,s.out]
   have h9:Hid ((fH f f).length=M):=by show _=_;rw[lP,s.out]
   obtain⟨dP,h7,hc⟩:=XK.1 TV;clear J hM hP HB HL HR Hl Hr o R Q h5 ha h2;go_wp2;go_loopg [5,27] M (λgk s5 s27 wr=>∃i:Nat,i+gk=M/\s27=.int .i64 i/\Hid (PuI w U wr w.heap.size G s5 (fE f BB i)/\(fE f BB i).size<=1+33*i/\∀j,j<i->(BB[j]?).map ZA=(fH f f)[j]?))
   case atStart=>exact⟨0,oM,rfl,I0.out,by show 1<=_;omega,λj H=>absurd H (Nat.not_lt_zero _)⟩
   case round =>
    obtain⟨i,hi,rfl,K⟩:=hrel;obtain⟨g,cap,rfl,-,-⟩:=K.out.1.lt;by_cases Y:i<M
    .have h0:=oM;have hp:=Qf G (n:=M) X (i:=i) Y;obtain⟨bb,y,k,q,n,c,B,k1,k2,k3,k4,k5,k6⟩:=HC.out _ _ _ K.out.1 i Y;have K3:=Hid.mkP k3;have E:=mk3 k1 k5 k6;obtain⟨F,a⟩:=hE (wr.alloc (.cells #[.pointer (some ⟨bb,y,none⟩),.int .i64 k] 101));have S:Below wr.heap.size wr F:=by rw[<-a.out];exact bJ _ _
     have a0:F.cell? ⟨wr.heap.size,0,none⟩=some (.pointer (some ⟨bb,y,none⟩)):=by rw[<-a.out];exact fO (w:=wr) (j:=0) rfl
     have a1:F.cell? ⟨wr.heap.size,1,none⟩=some (.int .i64 k):=by rw[<-a.out];exact fO (w:=wr) (j:=1) rfl
     have a2:F.cell? ⟨bb,y,none⟩=some (.slice q n c):=by rw[S.cell (p:=⟨bb,y,none⟩) (World.block_lt_of_cell? _ _ k4)];exact k4
     have KA:Hid (∀d,Below wr.heap.size wr (F.drewN d)):=λd=>⟨S.os,S.tape,S.output,S.size,S.block⟩
     go_wp2_with (first|(refine YG rfl 101 _ rfl G (i*2) ?_ [.pointer (some ⟨bb,y,none⟩),.int .i64 k] dP ?_ ?_ ?_ ?_ ?_;rfl;exact K3.out;exact h7;exact hc;exact iPt;skip)|fail)
     rw[a.out];go_quiet (fail);have KB:=Hid.mkP (KA.out nq);have q0:(F.drewN nq).cell? ⟨wr.heap.size,0,none⟩=some (.pointer (some ⟨bb,y,none⟩)):=a0;have q2:(F.drewN nq).cell? ⟨bb,y,none⟩=some (.slice q n c):=a2;clear KA a0 a1 a2;generalize F.drewN nq=wb at KB q0 q2⊢;by_cases h8:n=k
     .subst h8;obtain⟨V,hv⟩:=(E.out.2.2.below KB.out).vl;subst V;have h3:=K.out.2.1;obtain⟨v',W',x1,x2⟩:=(K.out.1.below KB.out).app (c:=c) hv oM;rw[<-mD f (BB:=BB) (i:=i) (b:=B) E.out.2.1]at x2;have X2:=Hid.mkP x2;have X3:Hid ((fE f BB (i+1)).size<=1+33*(i+1)/\∀j,j<i+1->(BB[j]?).map ZA=(fH f f)[j]?):=by
       refine⟨?_,λj H=>?_⟩
       .rw[mD f (BB:=BB) (i:=i) (b:=B) E.out.2.1,Ys];omega
       .by_cases m:j=i
        .subst m;rw[E.out.2.1,E.out.1];rfl
        .exact K.out.2.2 j oM
      have m:=Hid.mkP x1;obtain⟨g',hm,rfl,-,-⟩:=x2.lt;generalize ZA (fE f BB (i+1))=N2 at m X2;generalize ZA (fE f BB i)=N1 at m⊢;clear K x1 x2 hv h3;generalize ZA B=nB at m q2⊢;go_wp2_with (first|(at_builtin;refine yAs wb rfl _ _ _ _ rfl _ _ rfl rfl _ _ m.out ?_)|fail)
      go_roundg (gk-1)
      case measure=>omega
      case rel=>exact⟨i+1,oM,rfl,X2.out,X3.out⟩
     .have he:=oM;have m:¬kV f f BB:=λh=>by
       have e0:(BB.map ZA)[i]? = (fH f f)[i]?:=by rw[h.2.2]
       rw[YC,E.out.2.1,E.out.1]at e0;have V:=X5.inj e0;obtain⟨q',c',Z,-⟩:=E.out.2.2;injection Z with _ Z _
       omega
      have HW:=Hid.mkP (K.out.1.bl.trans (KB.out.mono K.out.1.bl.size));go_wp2
      go_ret2
      exact⟨HW.out,Yd ⟨m,rfl⟩⟩
    .have h0:=oM;obtain rfl:i=M:=oM;have a:Hid (VW w f f BB (.returned (.tuple #[.slice (some ⟨g,0,none⟩) (fE f BB i).size cap,.int .i64 0])) wr):=by
      refine⟨K.out.1.bl,Yk ⟨⟨rfl,h6,List.ext_getElem? λj=>?_⟩,_,rfl,?_,?_⟩⟩
      .by_cases H:j<i
       .rw[YC];exact K.out.2.2 j H
       .rw[ZR (by rw[X7,h4.out];omega),ZR (by rw[h9.out];omega)]
      .rw[s.out];exact K.out.1.pt
      .rw[s.out];exact K.out.1.cap
     go_wp2
     go_ret2
     exact a.out
  .have hb:=oM;have m:¬kV f f BB:=λh=>h6 h.2.1
   go_wp2_with (first|(refine dQ (v:=.pointer (some ⟨w.heap.size,0,none⟩)) (w':=l) rfl (.box 66 (.tmp 0)) rfl ?_ ?_;(rw[<-t.out,<-r.out];kernel_rfl))|fail)
   go_ret2
   exact⟨D.out,Yd ⟨m,rfl⟩⟩
 .have s:=oM;have m:¬kV f nr BB:=λh=>hg h.1
  go_wp2_with (first|(refine dQ (v:=.pointer (some ⟨w.heap.size,0,none⟩)) (w':=l) rfl (.box 66 (.tmp 0)) rfl ?_ ?_;(rw[<-t.out,<-r.out];kernel_rfl))|fail)
  go_ret2
  exact⟨D.out,Yd ⟨m,rfl⟩⟩
end
section
namespace RG
variable {P:YO}{ops:Array Yw}{Q:Exit->Act->XF->Prop}{a0:Act}{F:Flow}
def mA{k:Nat}{o:Yw}(h:∀(a:Act) (w:XF),PreF F ops a0 k o a w->∃(b:List (ZC × XG)) (v:XG) (w':XF),AllE a b/\(cN (b.map (·.1)) o,(Ym (evo (evl b)) o).run P w)=(true,.ok (.value v) w')/\F.E k w w'/\F.R k v w'):bE P Q F ops a0 k o:=
 nE λa w d=>by
  obtain⟨b,v,w',e,c,hE⟩:=h a w d;simp only[Zl.injEq]at c;refine⟨v,w',?_,hE⟩;rw[jG (evl b) (b.map (·.1)) c.1 e.ev];exact c.2
def Fh{T:Yj}{k:Nat}{o:Yw}(t:ZC)(ho:o.op=.load T (.tmp t))(d:(P.underlying T).map (·.isRow)=some false)(h:∀(a:Act) (w:XF),PreF F ops a0 k o a w->∃g off v,a.eval (.tmp t)=oZ g off/\w.cell? ⟨g,off,none⟩=some v/\F.E k w w/\F.R k v w):bE P Q F ops a0 k o:=
 nE λa w b=>by
  obtain⟨g,off,v,c,e,f⟩:=h a w b;refine⟨v,w,?_,f⟩;unfold Ym;rw[ho];dsimp only;rw[c,X6,eN e d];rfl
end RG
end
section
def Sj(a:Y4)(n c:Nat)(w:XF):(binOp .eql 23 (.slice (some a) n c) nZ).run prog w=.ok fZ w:=kR
def MM{g o b k:Nat}(h:some (⟨g,o,none⟩:Y4)=some ⟨b,k,none⟩):g=b/\o=k:=by
 cases h
 exact⟨rfl,rfl⟩
def Iz{W:XF}{B n s:Nat}{T:Yj}{v:XG}{xs:List XG}(h:W.ownsRow B T s v n xs):∃q c,v=.slice q n c:=by
 rcases h.2 with⟨e,e'⟩|⟨g,cap,cur,e,-⟩
 .exact⟨none,0,by rw[e,e']⟩
 .exact⟨_,_,e⟩
structure FrC(N:Nat)(X:SP.Bs)(v:XG)(W:XF):Prop where
 own:W.ownsRow N 5 1 v X.size (bC X)
 nn:v.ownBlock≠none
def FrC.below{N:Nat}{X:SP.Bs}{v:XG}{W W':XF}(h:FrC N X v W)(b:kZ W W'):FrC N X v W':=⟨bG h.own (λg k=>b.block g (bU h.own k).2.1),h.nn⟩
def Mh(g o c:Nat)(X:SP.Bs)(J:X.size<=1000000)(w:XF)(x:g<w.heap.size)(G:Holds SP.encB w g o X):
 cZ 159 #[qZ g o X.size c] w λe w'=>∃v,e=.returned v/\kZ w w'/\FrC w.heap.size X v w':=by
 obtain⟨i,F,r⟩:=XK.1 Lj;simp only[Zl.injEq]at r;obtain⟨E,H,D⟩:=r;obtain⟨z,B,n⟩:=XK.1 D;obtain⟨f,d⟩:=hE (w.alloc (.cells #[] 5));have s:f.heap.size=w.heap.size+1:=by rw[<-d.out,XS]
 have b1:kZ w f:=d.out▸bJ _ _;have ho:f.ownsRow w.heap.size 5 1 (sZ w.heap.size 0 0) 0 []:=by
  rw[<-d.out];exact⟨rfl,.inr ⟨w.heap.size,0,#[],rfl,XH _,yAr,XH _,Zq _,rfl,rfl⟩⟩
 have hpt:Pt f (qZ g o X.size c) X:=⟨_,_,rfl,Yd ⟨g,o,rfl,oM,SP.Holds.below G b1 x⟩⟩
 obtain⟨-,hv⟩:=hpt.vl;have p:∀(j:Nat) u,(bC X)[j]? = some u->f.cell? ((⟨g,o,none⟩:Y4).add j)=some u:=λj u q=>by
  rcases hv.cells with t|⟨b,y,m,-,p⟩
  .rw[t]at q;cases q
  .obtain⟨s,l⟩:=MM m;subst s l;rw[gU];exact p j u q
 obtain⟨I,W',a,m,l,y⟩:=run_append_own (P:=prog) f w.heap.size 23 23 5 i z 1 1 Av F B E H n dC _ 0 [] ho ⟨g,o,none⟩ X.size c (bC X) (by rw[uR];omega) p Ah (by unfold maxLen;omega) oM oM;rw[XQ,Z1]at m;have K:Hid (kZ w W'/\FrC w.heap.size X I W'):=by
  refine⟨⟨by rw[l.os,b1.os],by rw[l.tape,b1.tape],by rw[l.output,b1.output],XN b1.size l.size,λk A=>?_⟩,m,?_⟩
  .rw[l.block k oM (by simp[Zm];omega),b1.block k A]
  .rcases m.2 with⟨C,-⟩|⟨L,t,cur,rfl,-⟩
   .have:=(y.1 C).1;exact absurd this (by simp)
   .simp[Zm]
 have t:=Hid.mkP a;have A:=Sj ⟨g,o,none⟩ X.size c;go_enter func159,ntmps159;go_wp2_with (first|(refine dQ (v:=sZ w.heap.size 0 0) (w':=f) rfl (.buildSlice 23 0 #[]) rfl ?_ ?_;(rw[<-d.out];kernel_rfl))|(at_builtin;refine yAs f rfl _ _ _ _ rfl _ _ rfl rfl _ _ t ?_)|fail)
 go_ret;exact⟨_,rfl,K.1,K.2⟩
def heap_set (w : World) (a : Addr) (v : Value) (k : Nat) : (w.setCell a v).heap[k]? = if a.block = k then (w.heap[k]?).map (fun
      | .cells c elem frozen => .cells (if a.spot.isSome then c else c.setIfInBounds a.off v) elem frozen
      | o => o) else w.heap[k]? := by
  show(w.heap.modify a.block _)[k]? = _;rw [Array.getElem?_modify];rfl
def I8{a:Y4}{v:XG}{N:Nat}{ws w:XF}(h:Below N ws w):Below N (ws.setCell a v) (w.setCell a v):=
 ⟨h.os,h.tape,h.output,by rw[yAY,yAY];exact h.size,λk b=>by rw[heap_set,heap_set,h.block k b]⟩
def StR(ws:XF)(bb k:Nat)(X:SP.Bs)(w:XF):Prop:=∃v,Below ws.heap.size (ws.setCell ⟨bb,k,none⟩ v) w/\FrC ws.heap.size X v w
def FR(ws:XF)(ga bb d k gi off m c nx:Nat)(X:SP.Bs):Flow where
 R i v w:=match i with
  | 0=>v=jZ ga
  | 1=>v=oZ bb d
  | 2=>v=qZ gi off m c
  | 3=>v=oZ ga 1
  | 4=>v=iZ k
  | 5=>v=qZ gi off k c
  | 6=>FrC ws.heap.size X v w
  | 7=>v=qZ gi off m c
  | 8=>v=oZ ga 1
  | 9=>v=iZ k
  | 10=>v=qZ gi nx (m-k) (c-k)
  | 11=>v=oZ bb d
  | 12=>StR ws bb d X w
  | _=>v=qZ gi nx (m-k) (c-k)
 B b w:=match b with
  | 0=>kZ ws w
  | _=>w.cell? ⟨ga,0,none⟩=some (oZ bb d)/\w.cell? ⟨ga,1,none⟩=some (iZ k)/\ga<ws.heap.size/\ws.heap.size<=w.heap.size
 E i w w':=match i with
  | 12=>∃v,w'=w.setCell ⟨bb,d,none⟩ v
  | _=>kZ w w'
 kill _:=[]
 killB b:=match b with
  | 0=>[12]
  | _=>[]
variable {ws:XF}{ga bb oo k gi off m c nx:Nat}{X:SP.Bs}
def StR.below{w w':XF}(h:StR ws bb oo X w)(k:kZ w w'):StR ws bb oo X w':=by
 obtain⟨v,b,c⟩:=h;refine⟨v,b.trans (k.mono ?_),c.below k⟩;have:=b.size;rw[yAY]at this;exact this
def FR.stab(l:bb<ws.heap.size)(i j:Nat)(f:i≠j)(v:XG)(w w':XF)(hE:(FR ws ga bb oo k gi off m c nx X).E i w w')(hR:(FR ws ga bb oo k gi off m c nx X).R j v w):(FR ws ga bb oo k gi off m c nx X).R j v w':=by
 have key:j≠6->j≠12->(FR ws ga bb oo k gi off m c nx X).R j v w':=λe b=>by
  match j,e,b,hR with
  | 0,_,_,h|1,_,_,h|2,_,_,h|3,_,_,h|4,_,_,h|5,_,_,h|7,_,_,h|8,_,_,h|9,_,_,h|10,_,_,h|11,_,_,h|_+13,_,_,h=>exact h
  | 6,h,_,_=>exact absurd rfl h
  | 12,_,h,_=>exact absurd rfl h
 by_cases e:j=6
 .subst e;by_cases b:i=12
  .subst b;obtain⟨u,rfl⟩:=hE;have hR:=hR;refine(⟨bG hR.own (λg d=>?_),hR.nn⟩:FrC ws.heap.size X v _);have:=(bU hR.own d).1;rw[heap_set,yE4 (by show bb≠g;omega)]
  .have d:kZ w w':=by
    unfold FR at hE;dsimp only at hE;split at hE
    .exact absurd rfl b
    .exact hE
   exact(FrC.below (show FrC ws.heap.size X v w from hR) d:FrC ws.heap.size X v w')
 .by_cases b:j=12
  .subst b;have d:kZ w w':=by
    unfold FR at hE;dsimp only at hE;split at hE
    .exact absurd rfl f
    .exact hE
   exact(StR.below (show StR ws bb oo X w from hR) d:StR ws bb oo X w')
  .exact key e b
def FR.stabB(g:bb≠ga)(i b:Nat)(n:((FR ws ga bb oo k gi off m c nx X).killB b).contains i=false)(w w':XF)(hE:(FR ws ga bb oo k gi off m c nx X).E i w w')(l:(FR ws ga bb oo k gi off m c nx X).B b w):(FR ws ga bb oo k gi off m c nx X).B b w':=by
 by_cases f:i=12
 .subst f;obtain⟨u,rfl⟩:=hE;match b,n,l with
  | 0,n,_=>exact absurd (show([12]:List Nat).contains 12=false from n) dC
  | _+1,_,⟨h1,h2,h3,h4⟩ =>
   refine⟨?_,?_,h3,by rw[yAY];exact h4⟩
   .rw[Yc _ _ _ _ (by intro e;injection e with e _ _;exact g e)];exact h1
   .rw[Yc _ _ _ _ (by intro e;injection e with e _ _;exact g e)];exact h2
 .have d:kZ w w':=by
   unfold FR at hE;dsimp only at hE;split at hE
   .exact absurd rfl f
   .exact hE
  match b,l with
  | 0,l =>
   have j:=l;exact(j.trans (d.mono j.size):kZ ws w')
  | _+1,⟨h1,h2,h3,h4⟩ =>
   refine⟨?_,?_,h3,XN h4 d.size⟩
   .rw[d.cell (p:=⟨ga,0,none⟩) (by show ga<_;omega)];exact h1
   .rw[d.cell (p:=⟨ga,1,none⟩) (by show ga<_;omega)];exact h2
end
section
structure PsOk(w w4:XF)(gr gq gp:Nat)(ps:List (Y4 × Nat)):Prop where
 ad:∀(j:Nat) x,ps[j]? = some x->∃b o,x.1=⟨b,o,none⟩/\b<w4.heap.size/\w.heap.size<=b/\b≠gq/\b≠gr/\x.1≠⟨gp,7,none⟩/\x.1≠⟨gp,8,none⟩
 ne:∀(j j':Nat) x x',j≠j'->ps[j]? = some x->ps[j']? = some x'->x.1≠x'.1
 q:gq<w4.heap.size
 r:gr<w4.heap.size
 p:gp<w4.heap.size
structure RdI(w w4 W:XF)(gr gq gp:Nat)(lv rv:XG)(ps:List (Y4 × Nat))(vs:List XG)(CH:Nat->SP.Bs):Prop where
 bl:kZ w W
 st:∀(j:Nat) x u,ps[j]? = some x->vs[j]? = some u->W.cell? x.1=some u
 th:∀(j:Nat) x,ps[j]? = some x->(∃u,W.cell? x.1=some u)/\W.frozen? x.1=false
 c7:W.cell? ⟨gp,7,none⟩=some lv
 c8:W.cell? ⟨gp,8,none⟩=some rv
 eq:W.heap[gq]? = w4.heap[gq]?
 er:W.heap[gr]? = w4.heap[gr]?
 sz:w4.heap.size<=W.heap.size
 ow:∀(j:Nat) u,vs[j]? = some u->FrC w4.heap.size (CH j) u W
 ne:∀(j j':Nat) u u' g,j<j'->vs[j]? = some u->vs[j']? = some u'->u.ownBlock=some g->u'.ownBlock≠some g
variable {w w4 W:XF}{gr gq gp:Nat}{lv rv:XG}{ps:List (Y4 × Nat)}{vs:List XG}{CH:Nat->SP.Bs}
def RdI.below{W':XF}(h:RdI w w4 W gr gq gp lv rv ps vs CH)(c:PsOk w w4 gr gq gp ps)(k:kZ W W'):RdI w w4 W' gr gq gp lv rv ps vs CH:=by
 have g:=h.sz;have i:=c.p;have n:=c.q;have l:=c.r;have d:∀(j:Nat) x,ps[j]? = some x->W'.cell? x.1=W.cell? x.1/\W'.frozen? x.1=W.frozen? x.1:=λj x hx=>by
  obtain⟨b,o,e,m,-⟩:=c.ad j x hx;have f:=k.block b oM;rw[e];unfold YY Zt;rw[f];exact⟨rfl,rfl⟩
 refine⟨h.bl.trans (k.mono h.bl.size),λj x u hx f=>by rw[(d j x hx).1];exact h.st j x u hx f,λj x hx=>by rw[(d j x hx).1,(d j x hx).2];exact h.th j x hx,?_,?_,by rw[k.block gq oM];exact h.eq,by rw[k.block gr oM];exact h.er,XN g k.size,λj u f=>(h.ow j u f).below k,h.ne⟩
 .rw[k.cell (p:=⟨gp,7,none⟩) (by show gp<_;omega)];exact h.c7
 .rw[k.cell (p:=⟨gp,8,none⟩) (by show gp<_;omega)];exact h.c8
def RdI.step{W':XF}{bb s k:Nat}(h:RdI w w4 W gr gq gp lv rv ps vs CH)(y:PsOk w w4 gr gq gp ps)(hx:ps[vs.length]? = some (⟨bb,s,none⟩,k))(N:StR W bb s (CH vs.length) W'):∃v,RdI w w4 W' gr gq gp lv rv ps (vs++[v]) CH:=by
 obtain⟨v,o,D⟩:=N;have S:=h.sz;have O:=y.p;have T:=y.q;have Q:=y.r;obtain⟨P,R,e',p1,p2,L,K,J,p6⟩:=y.ad _ _ hx;injection e' with e1 e2 _
 subst e1 e2;obtain⟨⟨old,t⟩,M⟩:=h.th _ _ hx;have f:∀g,g<W.heap.size->g≠bb->W'.heap[g]? = W.heap[g]?:=λg r c=>by
  rw[o.block g r,heap_set,yE4 (by show bb≠g;omega)]
 have b:∀a:Y4,a.block<W.heap.size->a≠⟨bb,s,none⟩->W'.cell? a=W.cell? a:=λa E c=>by
  rw[o.cell (p:=a) E,Yc _ _ _ _ (λe=>c e.symm)]
 have C:∀a:Y4,a.block<W.heap.size->W'.frozen? a=W.frozen? a:=λa E=>by
  have d:W'.frozen? a=(W.setCell ⟨bb,s,none⟩ v).frozen? a:=by
   unfold Zt;rw[o.block a.block E]
  rw[d];exact World.frozen?_setCells bb [v] s W a
 have z:W.heap.size<=W'.heap.size:=by
  have:=o.size;rw[yAY]at this;exact this
 refine⟨v,⟨⟨by rw[o.os];exact h.bl.os,by rw[o.tape];exact h.bl.tape,by rw[o.output];exact h.bl.output,XN h.bl.size z,λg r=>?_⟩,λj x u q d=>?_,λj x q=>?_,?_,?_,?_,?_,oM,λj u d=>?_,λj F u G g n d i r=>?_⟩⟩
 .have:=h.bl.size;rw[f g oM oM,h.bl.block g r]
 .obtain⟨B,H,A,I,-⟩:=y.ad j x q;by_cases l:j<vs.length
  .rw[X1 l]at d;have c:=y.ne j vs.length x _ oM q hx;rw[b x.1 (by rw[A];show B<_;omega) c];exact h.st j x u q d
  .have m:j=vs.length:=by
    have:=(XT.1 d).1;rw[XP]at this;simp only[YA,ZD]at this;omega
   subst m;rw[hx]at q;obtain rfl:=X5.inj q;rw[X4 (XH _),yBm]at d;obtain rfl:v=u:=by simpa using d
   rw[o.cell (p:=⟨bb,s,none⟩) (by show bb<_;omega)];exact Zf _ _ _ t
 .obtain⟨B,H,A,I,-⟩:=y.ad j x q;have n:x.1.block<W.heap.size:=by rw[A];show B<_;omega
  refine⟨?_,by rw[C x.1 n];exact(h.th j x q).2⟩;by_cases c:x.1=⟨bb,s,none⟩
  .rw[c];exact⟨v,by rw[o.cell (p:=⟨bb,s,none⟩) (by show bb<_;omega)];exact Zf _ _ _ t⟩
  .rw[b x.1 n c];exact(h.th j x q).1
 .rw[b ⟨gp,7,none⟩ (by show gp<_;omega) (λe=>J e.symm)];exact h.c7
 .rw[b ⟨gp,8,none⟩ (by show gp<_;omega) (λe=>p6 e.symm)];exact h.c8
 .rw[f gq oM (λe=>L e.symm)];exact h.eq
 .rw[f gr oM (λe=>K e.symm)];exact h.er
 .by_cases l:j<vs.length
  .rw[X1 l]at d;have B:=h.ow j u d;refine⟨bG B.own (λg r=>?_),B.nn⟩;have:=bU B.own r;exact f g this.2.1 oM
  .have m:j=vs.length:=by
    have:=(XT.1 d).1;rw[XP]at this;simp only[YA,ZD]at this;omega
   subst m;rw[X4 (XH _),yBm]at d;obtain rfl:v=u:=by simpa using d
   refine⟨?_,D.nn⟩;rcases D.own with⟨H,A|⟨g,cap,cur,A,U,I⟩⟩
   .exact⟨H,Yk A⟩
   .exact⟨H,Yd ⟨g,cap,cur,A,oM,I⟩⟩
 .have A:=(XT.1 i).1;rw[XP]at A;simp only[YA,ZD]at A;rw[X1 oM]at d;by_cases l:F<vs.length
  .rw[X1 l]at i;exact h.ne j F u G g n d i r
  .have m:F=vs.length:=oM;subst m;rw[X4 (XH _),yBm]at i;obtain rfl:v=G:=by simpa using i
   intro e;have B:=(bU D.own e).1;have H:=(bU (h.ow j u d).own r).2.1;omega
end
section
variable {P:Nat}[NeZero P]{N:Nat}
def OK:(prog.info? 23).map (λi=>(i.zero,i.size,i.bytes))=some (some nZ,1,24):=kR
structure R4(w1 W:XF)(gp gL gR k:Nat):Prop where
 bl:kZ w1 W
 d1:gp≠gL
 d2:gp≠gR
 d3:gL≠gR
 p1:w1.heap.size<=gp/\gp<W.heap.size
 p2:w1.heap.size<=gL/\gL<W.heap.size
 p3:w1.heap.size<=gR/\gR<W.heap.size
 hp:W.heap[gp]? = some (.cells #[nZ,nZ,nZ,nZ,nZ,nZ,nZ,sZ gL k k,sZ gR k k,nZ,nZ] 66 (0,0))
 hL:W.heap[gL]? = some (.cells (madeCells #[nZ] k) 23 (0,0))
 hR:W.heap[gR]? = some (.cells (madeCells #[nZ] k) 23 (0,0))
def three{k:XF}{a b c:Array XG}{A B C:Yj}:kZ k (((k.alloc (.cells a A)).alloc (.cells b B)).alloc (.cells c C)).drew/\(((k.alloc (.cells a A)).alloc (.cells b B)).alloc (.cells c C)).drew.heap.size=k.heap.size+3/\(((k.alloc (.cells a A)).alloc (.cells b B)).alloc (.cells c C)).drew.heap[k.heap.size]? = some (.cells a A (0,0))/\(((k.alloc (.cells a A)).alloc (.cells b B)).alloc (.cells c C)).drew.heap[k.heap.size+1]? = some (.cells b B (0,0))/\(((k.alloc (.cells a A)).alloc (.cells b B)).alloc (.cells c C)).drew.heap[k.heap.size+1+1]? = some (.cells c C (0,0)):=by
 have m:=bJ k (.cells a A);have f:(k.alloc (.cells a A)).heap.size=k.heap.size+1:=XS _ _;have j:=bJ (k.alloc (.cells a A)) (.cells b B);have i:((k.alloc (.cells a A)).alloc (.cells b B)).heap.size=k.heap.size+2:=by rw[XS,f]
 have e:=bJ ((k.alloc (.cells a A)).alloc (.cells b B)) (.cells c C);have z3:(((k.alloc (.cells a A)).alloc (.cells b B)).alloc (.cells c C)).heap.size=k.heap.size+3:=by rw[XS,i]
 have l:(k.alloc (.cells a A)).heap[k.heap.size]? = some (.cells a A (0,0)):=yAr;have g:((k.alloc (.cells a A)).alloc (.cells b B)).heap[(k.alloc (.cells a A)).heap.size]? = some (.cells b B (0,0)):=yAr;have e3:(((k.alloc (.cells a A)).alloc (.cells b B)).alloc (.cells c C)).heap[((k.alloc (.cells a A)).alloc (.cells b B)).heap.size]? = some (.cells c C (0,0)):=yAr;rw[f]at g;rw[i]at e3;have d:=(m.trans (j.mono oM)).trans (e.mono oM);refine⟨⟨d.os,d.tape,d.output,d.size,d.block⟩,z3,?_,?_,e3⟩
 .show(((k.alloc (.cells a A)).alloc (.cells b B)).alloc (.cells c C)).heap[k.heap.size]? = _;rw[e.block _ oM,j.block _ oM];exact l
 .show(((k.alloc (.cells a A)).alloc (.cells b B)).alloc (.cells c C)).heap[k.heap.size+1]? = _;rw[e.block _ oM];exact g
def zR:List XG:=YR 11 nZ
def dV{f p r n q or m j:Nat}{x:Y4 × Nat}(h:(gA f p r n q or m)[j]? = some x):(j<7/\x.1=⟨f,j,none⟩)\/(7<=j/\j<7+n/\x.1=⟨p,r+(j-7),none⟩)\/(7+n<=j/\j<7+n+m/\x.1=⟨q,or+(j-7-n),none⟩)\/(7+n+m<=j/\j<9+n+m/\x.1=⟨f,9+(j-7-n-m),none⟩):=by
 have e:∀ {b o k i:Nat}{y:Y4 × Nat},(lp b o k)[i]? = some y->i<k/\y.1=⟨b,o+i,none⟩:=λ{b o k i y} h=>by
  unfold lp at h;rw[YC]at h;obtain⟨z,s,rfl⟩:=XK.1 h;have c:=(XT.1 s)
  obtain⟨l,g⟩:=c;have d:i<k:=by simpa using l
  have t:i=z:=by simpa using g
  subst t;exact⟨d,rfl⟩
 unfold gA at h;by_cases c:j<7
 .left;refine⟨c,?_⟩;rw[YU,YU,X1 (by show j<7;exact c)]at h;match j,c,h with
  | 0,_,h|1,_,h|2,_,h|3,_,h|4,_,h|5,_,h|6,_,h =>
   obtain rfl:=X5.inj h;rfl
 .right;rw[YU,YU,X4 (by show 7<=j;omega)]at h;have s:(uQ f).length=7:=rfl;rw[s]at h;by_cases l:j-7<n
  .left;rw[X1 (by rw[jW];exact l)]at h;obtain⟨-,d⟩:=e h;exact⟨oM,oM,d⟩
  .right;rw[X4 (by rw[jW];omega),jW]at h;by_cases g:j-7-n<m
   .left;rw[X1 (by rw[jW];exact g)]at h;obtain⟨-,d⟩:=e h;exact⟨oM,oM,d⟩
   .right;rw[X4 (by rw[jW];omega),jW]at h;obtain⟨i,d⟩:=vH (j-7-n-m);rw[d]at h⊢;match i,d,h with
    | 0,d,h|1,d,h =>
     obtain rfl:=X5.inj h;exact⟨oM,oM,rfl⟩
    | i+2,_,h=>cases h
def Da{k j:Nat}{z:XG}(h:j<k):(madeCells #[z] k)[j]? = some z:=by
 unfold madeCells;rw[Array.getElem?_map,Array.getElem?_range,yE3 h];simp[Nat.mod_one]
def Ke{w C F v:XF}{l o m k y n c:Nat}{CH:Nat->SP.Bs}(h:R4 C F l o m k)(G:kZ w C)(S:w.heap.size<C.heap.size)(p:PLs F v (sZ y n c) (gA l o 0 k m 0 k)):
 PsOk w v w.heap.size y l (gA l o 0 k m 0 k)/\RdI w v v w.heap.size y l (sZ o k k) (sZ m k k) (gA l o 0 k m 0 k) [] CH:=by
 obtain⟨O,R,e,H,E⟩:=p.lt;injection e with e _ _
 injection e with e
 injection e with e _ _
 subst e;have z3:=p.bl.size;obtain⟨p1,a⟩:=h.p1;obtain⟨p2,D⟩:=h.p2;obtain⟨N,A⟩:=h.p3;have T:=h.d1;have M:=h.d2;have Q:=h.d3;have t:=p.bl.block l a;have I:=p.bl.block o D;have K:=p.bl.block m A;refine⟨⟨λj x hx=>?_,λj L x U J hx z e=>?_,E,oN h.bl.size,oM⟩,⟨?_,λj x u _ r=>by simp at r,λj x hx=>?_,?_,?_,rfl,rfl,XH _,λj u r=>by simp at r,λj L u P g _ r=>by simp at r⟩⟩
 .rcases dV hx with⟨f,b⟩|⟨f,d,b⟩|⟨f,d,b⟩|⟨f,d,b⟩
  .exact⟨l,j,b,oM,oM,oM,oM,by rw[b];intro e;injection e with _ e _;omega,by rw[b];intro e;injection e with _ e _;omega⟩
  .exact⟨o,_,b,oM,oM,oM,oM,by rw[b];intro e;injection e with e _ _;omega,by rw[b];intro e;injection e with e _ _;omega⟩
  .exact⟨m,_,b,oM,oM,oM,oM,by rw[b];intro e;injection e with e _ _;omega,by rw[b];intro e;injection e with e _ _;omega⟩
  .exact⟨l,_,b,oM,oM,oM,oM,by rw[b];intro e;injection e with _ e _;omega,by rw[b];intro e;injection e with _ e _;omega⟩
 .rcases dV hx with⟨f,b⟩|⟨f,d,b⟩|⟨f,d,b⟩|⟨f,d,b⟩<;>rcases dV z with⟨B,s⟩|⟨B,q,s⟩|⟨B,q,s⟩|⟨B,q,s⟩<;>(rw[b,s]at e;injection e with e1 e2 _;omega)
 .exact(G.trans (h.bl.mono G.size)).trans (p.bl.mono (oN h.bl.size))
 .rcases dV hx with⟨f,b⟩|⟨f,d,b⟩|⟨f,d,b⟩|⟨f,d,b⟩
  .rw[b];unfold YY Zt;rw[t,h.hp];refine⟨?_,by simp⟩;match j,f with
   | 0,_|1,_|2,_|3,_|4,_|5,_|6,_=>exact⟨_,rfl⟩
  .rw[b];unfold YY Zt;rw[I,h.hL];exact⟨⟨_,Da (k:=k) (j:=(0+(j-7))) oM⟩,by simp⟩
  .rw[b];unfold YY Zt;rw[K,h.hR];exact⟨⟨_,Da (k:=k) (j:=(0+(j-7-k))) oM⟩,by simp⟩
  .rw[b];unfold YY Zt;rw[t,h.hp];refine⟨?_,by simp⟩;obtain⟨i,q⟩:=vH (j-7-k-k);rw[q];match i,q with
   | 0,_|1,_=>exact⟨_,rfl⟩
   | i+2,q=>omega
 .unfold YY;rw[t,h.hp];rfl
 .unfold YY;rw[t,h.hp];rfl
def offs(n j:Nat):Nat:=1+((fH n n).take j).sum
def lS{n j k:Nat}(h:(fH n n)[j]? = some k):offs n (j+1)=offs n j+k:=by
 unfold offs;rw[yCu,h,yD0];simp[ZL]
def uY:∀(l:List Nat) (j:Nat),(l.take j).sum<=l.sum
 | [],j=>by simp
 | a :: r,0=>by simp
 | a :: r,j+1=>by
  have:=uY r j;simp only[List.take_succ_cons,yEl];omega
def Oz(n j:Nat):offs n j<=1+(fH n n).sum:=by
 have:=uY (fH n n) j;unfold offs;omega
def CZ(n:Nat):(fH n n).sum=292+66*n:=by
 unfold fH;simp only[yD0,List.sum_replicate_nat,yEl,List.sum_nil];omega
def rW{n:Nat}:offs n (n+n+9)=293+66*n:=by
 unfold offs;rw[List.take_of_length_le (by rw[lP];omega),CZ];omega
def chk(s:SP.Bs)(n j:Nat):SP.Bs:=s.extract (offs n j) (offs n (j+1))
def oS(s:SP.Bs):Prop:=0<s.size/\s[0]!.toNat<=6/\s.size=293+66*s[0]!.toNat
def RdR(w:XF)(s:SP.Bs)(k:Nat)(e:Ending)(W:XF):Prop:=
 (¬oS s/\kZ w W/\e=.returned (.tuple #[.agg zR.toArray,iZ 2])) \/
 (oS s/\kZ w W/\∃(i d:XF) (g b c f:Nat) (vs cs:List XG),vs.length=k+k+9/\PsOk w i w.heap.size g b (gA b c 0 k f 0 k)/\RdI w i d w.heap.size g b (sZ c k k) (sZ f k k) (gA b c 0 k f 0 k) vs (chk s k)/\cs.length=11/\d.rangeAt b 0 cs/\W=d.setCells w.heap.size 0 cs/\e=.returned (.tuple #[.agg cs.toArray,iZ 0]))
def NN(d b n c k:Nat)(i:k<=n)(g:n<=c):∃nx,(0<c-k->nx=b+k)/\∀w:XF,(ZH 23 (qZ d b n c) (some (iZ k)) none none).run prog w=.ok (qZ d nx (n-k) (c-k)) w:=by
 by_cases e:c=k
 .obtain rfl:n=k:=oM;subst e;refine⟨b,λh=>oM,λw=>?_⟩;rw[yBm];go_simp
 .have f:=oM;refine⟨b+k,λ_=>rfl,λw=>?_⟩;go_simp
def NP(d b n c k:Nat)(e:k<=c)(w:XF):(ZH 23 (qZ d b n c) none (some (iZ k)) none).run prog w=.ok (qZ d b k c) w:=by
 go_simp
def fG{T:Yj}{P:YO}{c:Func}{tmps:Array XG}{W:XF}{k:Nat}{vs:List XG}{v:XG}(t u:ZC)(e:c.results=#[.cell t T,.tmp u])(h:W.rangeAt k 0 vs)(j:tmps[t]? = some (jZ k))(hv:tmps[u]? = some v)(b:(P.underlying T).map (·.isRow)=some true)(i:(P.info? T).map (·.size)=some vs.length):(results c tmps).run P W=.ok (.tuple #[.agg vs.toArray,v]) W:=by
 obtain⟨d,b,hd⟩:=XK.1 b;have g:=run_loadVar_mid (P:=P) W k 0 T vs d h b hd i;have l:tmps.getD t ZB=jZ k:=by rw[XU,j];rfl
 have f:tmps.getD u ZB=v:=by rw[XU,hv];rfl
 unfold results;rw[e];simp only[Array.mapM_eq_mapM_toList,List.mapM_cons,List.mapM_nil,l,f,asAddr];simp[X6,g]
def Gj{w W:XF}{cs:List XG}(f:W.heap[w.heap.size]? = some (.cells zR.toArray 66 (0,0)))(l:cs.length=11)(c:kZ w W):W.there w.heap.size 0 cs.toArray.size/\(W.setCells w.heap.size 0 cs).rangeAt w.heap.size 0 cs/\kZ w (W.setCells w.heap.size 0 cs):=by
 have e:W.there w.heap.size 0 cs.length:=λj i=>by
  unfold YY Zt;rw[f];refine⟨?_,by simp⟩;have:(0+j)<zR.toArray.size:=by show 0+j<11;omega
  simp only[Ye this];rfl
 refine⟨by simpa using e,World.rangeAt_setCells_same _ _ _ _ e,⟨(World.os_setCells _ _ _ _).trans c.os,?_,(World.output_setCells _ _ _ _).trans c.output,?_,λk g=>?_⟩⟩
 .have d:=below_setCells (B:=0) (b:=w.heap.size) (Zq _) cs 0 W (XX 0 W);rw[d.tape];exact c.tape
 .have d:=below_setCells (B:=0) (b:=w.heap.size) (Zq _) cs 0 W (XX 0 W);exact XN c.size d.size
 .rw[World.heap_setCells_other W _ 0 cs (oN c.size) oM];exact c.block k g
end
section
open SPA
section
variable {P:YO}{ops:Array Yw}{rest:List Yw}{o:Yw}{a:Act}{w:XF}{Q:Exit->Act->XF->Prop}
def PW.gd(h:wpList P ops Q ({ o with guard:=none } :: rest) a w)(k:Zd o (yielded ops a.tmps)=true:=by kernel_rfl):wpList P ops Q (o :: rest) a w:=by
 unfold wpList at h⊢;rw[yE3 k];rw[yE3 (show Zd { o with guard:=none }(yielded ops a.tmps)=true from rfl)]at h;exact h
end
variable {P:Nat}[NeZero P]{N:Nat}[NeZero N]
def TL(C:Fld P){n t:Nat}(S:Wd n t)(V:Bs)(q:Fin P × Fin P)(J:rd P V=some q)(v:XG)(j l y p f s i r u b k:XG)(w:XF)(T:Arg33 w v V)(U:∀W,kZ w W->cZ 107 #[pvl V,iZ n,.agg #[j,l,y,p,f,s,i,r,u,b,k]] W (rZ W λe w'=>e=tZ)):
 cZ 61 #[v,iZ n,.agg #[j,l,y,p,f,s,i,r,u,b,k]] w (rZ w λe w'=>e=tZ):=by
 have F:=Gh J;obtain⟨A,c⟩:=hE (pvl V);obtain⟨H,d⟩:=hE (Yg #[j,l,y,p,f,s,i,r,u,b,k]);obtain⟨R,g⟩:=hE (w.heap.size);obtain⟨I,z⟩:=hE (w.alloc (.cells [j,l,y,p,f,s,i,r,u,b,k].toArray 66));have L:=mk1 ((Mp.start w).new g z);have B1:Hid ((Yu 66 H).run prog w=.ok (jZ R) I):=d.out▸z.out▸g.out▸VG;have HR:Hid (∀W,kZ w W->cZ 57 #[v] W (rZ W λe w'=>e=.tuple #[A,tZ])):=λW hb=>by
  rw[<-c.out];exact Hk C v V q W (T.below hb) J
 have HV:Hid (∀W,kZ w W->cZ 107 #[A,iZ n,H] W (rZ W λe w'=>e=tZ)):=by
  rw[<-c.out,<-d.out];exact U
 have G:gZ 51 (aA V).length:=by rw[aB F];exact iCP
 rw[d.out];go_enter func61,ntmps61;refine PW.bg [] ?_;refine PW.ns B1 ?_;refine PW.en [fZ] ?_;refine PW.bg [] ?_;refine PW.gi (HR I L.bl) λM B=>?_
 have K2:=mk1 (L.grow B);refine PW.go [A,tZ] ?_;refine hG M.heap.size λZ x=>?_
 refine hG (lZ M z33 51) λw3 m=>?_
 refine hG (w3.setCells Z 0 (aA V)) λQ o=>?_
 have N:=aB F;have K:=mk1 (K2.new x m);have O:=mk1 (K.put 1 o rfl N);refine PW.al x m ?_;refine PW.st o c (K.th 1 rfl N) G bQ ?_;refine PW.en [tZ] ?_;refine PW.bg [] ?_;refine PW.gd ?_;refine PW.go [] ?_;refine PW.gd ?_;refine PW.gi (Qb S Q) λY E=>?_
 have a:=mk1 (O.grow E);refine PW.go [tZ] ?_;refine PW.gd ?_;refine PW.ro (a.at_ 1).2.1 c uCP G ?_;refine PW.gd ?_;refine PW.go [] ?_;refine PW.gd ?_;refine PW.ro (cs:=[j,l,y,p,f,s,i,r,u,b,k]) (a.at_ 0).2.1 d uAr iAr ?_;refine PW.gd ?_;refine PW.gi (HV Y a.bl) λw6 D=>?_
 have X:=mk1 (a.grow D);refine PW.en [tZ,tZ] ?_;go_wp2;go_ret;exact⟨_,rfl,X.bl,rfl⟩
def Ut(C:Fld P)(O:Ord N)(k:∀r:EC.Pt P,On r->mul N r=none)(hP:IsP N){t:Nat}(R:Rv N)(m:Wd R.n t)(hv:R.v<2^R.n)(hN:18446744073709551616<=N)(sd:List UInt8)(J:Option Y4)(sc:Nat)(V A S C1 C2 L3 L6 L8:Bs)(hL:RvL C k R V A S C1 C2 L3 L6 L8)(hS:RvS R sd)(q:Md.Ps Bs (Fin N) (OnP P))(h1:q.s=aX L8)(I:q.a=R.a)(h2:q.b=R.b)(hc:q.g=gPt C ⟨#[108,101,102,116]⟩)(T:q.h=R.hh (aD C k) (gPt C ⟨#[114,105,103,104,116]⟩))(u:OnP P)(hu:u=(aD C k).ac R.w (uPt C))(Lb Rb:Nat->Bs)(h0:∀j,Lb j=wP ((aD C k).pLi (chF N) ivF u t q j))(Y:∀j,Rb j=wP ((aD C k).pTi (chF N) ivF u t q j))(Ab Q:Bs)(h7:Ab=bx (((aD C k).pst (chF N) ivF u t q t).a 0).val)(h3:Q=bx (((aD C k).pst (chF N) ivF u t q t).b 0).val)(K:Rp)(he:Hid (⟨A,S,C1,C2,R.tau.val,R.mu.val,R.t.val⟩=K))(v1:XG)(w:XF)(hk:Arg w v1 (bx R.k.val))(hp:PartOk w (.slice J 32 sc) sd):
 cZ 20 #[uZ (R.v:Int),v1,iZ (R.n:Int),.slice J 32 sc] w (rZ w λe w'=>∃e' B0,e=.tuple #[e',iZ 0]/\w.heap.size<=B0/\RgA B0 t K Lb Rb Ab Q e' w'):=by
 have H:R.n<=64:=by rw[m.1];exact XN (Zb dC m.2.2) dC
 have hi:R.v<2^64:=XI hv (XN (Zb dC H) dC);have p:=λ(W:XF) (a:kZ w W)=>Oe C O k hP t m.2.2 R m.1 hi hN sd J 32 sc V A S C1 C2 L3 L6 L8 hL hS q h1 I h2 hc T u hu Lb Rb h0 Y Ab Q h7 h3 K he W (hp.below a)
 have v:=λ(W:XF) (a:kZ w W)=>wO O (hk.below a)
 rw[kW O R.k.isLt]at v;have ha:¬((2^R.n-1:Nat):Int)<(R.v:Int):=oM;have h8:decide (((2^R.n-1:Nat):Int)<(R.v:Int))=false:=decide_eq_false ha;generalize hj:R.v=vn at *;generalize h6:(2^R.n-1:Nat)=gn at *;have HG:=λ(W:XF)=>GU m W
 rw[h6]at HG;have HW:=λ(W:XF)=>Qb m W
 obtain⟨vk,c⟩:=hE (nv R.k.val);rw[c.out]at p;have hg:Hid (∀W,kZ w W->cZ 11 #[v1] W (rZ W λe w'=>e=.tuple #[vk,tZ])):=λW a=>by
  rw[<-c.out];exact v W a
 have HH:=mk3 p HG HW;refine hG w.heap.size λk8 y=>?_
 refine hG (lZ w z11 66) λw1 x=>?_
 have K1:=mk1 ((Mp.start w).new y x);go_enter func20,ntmps20;refine PW.bg [] ?_;refine PW.al y x ?_;refine PW.en [iZ 0] ?_;refine XL<|PW.bg [] ?_
 refine PW.gi (HH.2.2 w1) λw2 X=>?_
 have K2:=mk1 (K1.grow X);refine PW.go [fZ] ?_;refine PW.gd ?_;refine PW.go [] ?_;refine PW.gd ?_;refine PW.go [iZ 32] ?_;refine PW.gd ?_;refine PW.en [fZ,fZ] ?_;refine Yh rfl<|Y2<|PW.bg [] ?_
 refine PW.gi (hg w2 K2.bl) λw3 h9=>?_
 have K3:=mk1 (K2.grow h9);refine PW.go [vk,tZ] ?_;refine hG w3.heap.size λh4 d=>?_
 refine hG (lZ w3 (RG.z 4) 44) λw4 o=>?_
 refine hG (w4.setCells h4 0 (wn R.k.val)) λw5 s=>?_
 have K4:=mk1 (K3.new d o);have K5:=mk1 (K4.put 1 s);refine PW.al d o ?_;refine PW.st s c (K4.th 1) i40 aI ?_;refine PW.en [tZ] ?_;refine XL<|PW.rg [fZ] ?_
 refine Yh rfl<|Y2<|XL<|PW.bg [] ?_
 refine PW.gi (HH.2.1 w5) λw6 h5=>?_
 have z:=mk1 (K5.grow h5);refine PW.go [.bool (decide ((gn:Int)<(vn:Int)))] ?_;rw[h8];refine PW.dn ?_;refine Yh rfl<|Y2<|PW.bg [] ?_
 refine PW.ro (z.at_ 1).2.1 c u40 i40 ?_;refine PW.go [] ?_;refine PW.ca (HH.1 w6 z.bl) ?_;rintro e w7 ⟨L,B0,M,n⟩;have l8:=(z.at_ 0).1;have K7:=mk1 (z.grow L);have RA:=mk1 n;obtain⟨ra,U,G,f,re,Z,i,D,E,B,F,rfl,-,tL,tR,eA,eB⟩:=n.ex;have b:B.oneCell'=true/\F.oneCell'=true/\D.oneCell'=true/\E.oneCell'=true:=⟨eA.one.2,eB.one.2,tL.one.2,tR.one.2⟩
 refine hG (w7.setCells k8 0 [r33 ra,r33 U,r33 G,r33 f,r32 re,r32 Z,r32 i,D,E,B,F]) λw8 l=>?_
 have K8:=mk1 (K7.put 0 l);have RB:=mk1 (RA.set (us:=[r33 ra,r33 U,r33 G,r33 f,r32 re,r32 Z,r32 i,D,E,B,F]) (K7.at_ 0) oM);rw[l.out]at RB;refine PW.st (cs:=[r33 ra,r33 U,r33 G,r33 f,r32 re,r32 Z,r32 i,D,E,B,F]) l (Hid.mk' rfl) (K7.th 0) iAr (by simp only[yAR,yCT,yDb,b.1,b.2.1,b.2.2.1,b.2.2.2,show ∀g,(r33 g).oneCell'=true from λ_=>rfl,show ∀g,(r32 g).oneCell'=true from λ_=>rfl,yDd]) ?_;refine PW.en [iZ 0] ?_;have KE:=mk2 K8.bl (Y0 (XN z.bl.size M) RB);have Kr:=(K8.at_ 0).2.1;refine Zj<|XR (fG 8 9 rfl Kr rfl rfl uAr iAr) rfl ?_
 exact⟨_,rfl,KE.1,_,_,rfl,KE.2.1,KE.2.2⟩
end
section
open SPA
variable {N:Nat}
def Mp.pop{w W:XF}{rs:List (Nat × List XG)}{x:Nat × List XG}(h:Mp w W (rs++[x]) []):Mp w W rs []:=⟨h.bl,λy k=>h.rw y (List.mem_append_left _ k),(by have:=h.nd;rw[Y5]at this;exact(yBO.1 this).1),λ_ h=>(Yf h).elim⟩
section
variable {P:YO}{o:Yw}{ev:Operand->XG}{w:XF}{x:XG}
def Fq{b:Array Yj}{s t:ZC}{f:ZZ}(hf:∀args W,(callFunc f args).run P W=.ok (.enter f args) W)(ho:o.op=.call ⟨.value (.tmp s),#[.tmp t],b⟩)(k:ev (.tmp s)=.func (.func f) #[] #[])(hx:ev (.tmp t)=x):(Ym ev o).run P w=.ok (.enter f #[x]) w:=by
 unfold Ym;rw[ho];have e:(#[Operand.tmp t].map ev)=#[x]:=by simp[hx]
 simp only[resolve,k,Deferred.ofValue,X6,Sem.run_pure,Result.andThen_ok,invoke,e];rw[show(#[]:Array XG)++#[x]=#[x] from rfl]<;>exact hf _ _
end
def GO{g i:Nat}{w:XF}(b:i<2):(YV 57 (sZ g 2 2) (iZ i)).run prog w=.ok (oZ g (7*i)) w:=by
 have c:¬(i:Int)<0:=oM;have d:(i:Int)<2:=oM;have k:=gU g 0 (7*i);rw[XQ]at k;go_simp
def Gg{W:XF}{g i:Nat}(b:i<2)(h:Row W g (sdC N 0++sdC N 1)):W.rangeAt g (7*i) (sdC N i):=λj u k=>by
 rcases(show i=0\/i=1 by omega)with rfl|rfl
 .have:=h.2.1 j u (by rw[X1 (XT.1 k).1];exact k);rw[Nat.mul_zero];exact this
 .have:=h.2.1 (7+j) u (by rw[X4 (by show 7<=7+j;omega),show 7+j-(sdC N 0).length=j from Nat.add_sub_cancel_left 7 j];exact k);rw[XQ]at this;rw[yAe];exact this
def uSd:yZ 61:=yQ
def iSd:gZ 61 7:=gQ
def TW:wZ 59:=wQ
def z7:List XG:=[.string ⟨#[]⟩,.string ⟨#[]⟩,.nilFunc]++RG.z 4
def Qp:∀i args W,(callFunc (sdA i) args).run prog W=.ok (.enter (sdA i) args) W
 | 0,_,_=>kR
 | _+1,_,_=>kR
def amN:Nat->Nat->Nat->Nat
 | 0,a,_=>a
 | _,_,b=>b
def VP(k a b:Nat):∀i,Gives (sdA i) #[.agg (opC k a b).toArray] (uZ (amN i a b:Int))
 | 0=>VR k a b
 | _+1=>VQ k a b
def BC{i:Nat}:(sdC N i).toArray.all (·.oneCell')=true:=kR
def u3r:wZ 3:=wQ
def Ng(O:Ord N)(k a b n:Nat)(z:1<=k)(y:k<=3)(ha:a<4294967296)(hb:b<4294967296)(hn:n<=1048575):Gives 16 #[iZ n,.agg (opC k a b).toArray] (iZ 0):=λw=>by
 refine hG w.heap.size λv d=>?_
 refine hG (lZ w (opC k a b) 26) λS q=>?_
 have H:=mk1 ((Mp.start w).new d q);have B:=Ho k a b w;rw[d.out,q.out]at B;have U:decide ((n:Int)<0)=false:=decide_eq_false oM;have Q:decide (1048575<(n:Int))=false:=decide_eq_false oM;have M:=mk1 (Qc z y);have L:=mk1 (λW=>wR O W);have F:=mk1 (VP k a b);have A:Hid (∀i,decide (4294967295<(amN i a b:Int))=false):=λi=>decide_eq_false (by
  match i with
  | 0=>show ¬_<(a:Int);omega
  | _+1=>show ¬_<(b:Int);omega)
 obtain⟨vo,j⟩:=hE (Yg (opC k a b).toArray);rw[j.out]at B F⊢;go_enter func16,ntmps16;refine PW.bg [] ?_;refine PW.ns B ?_;refine PW.en [iZ 0] ?_;refine XL<|PW.bg [jZ v] ?_
 refine PW.ce ((H.at_ 0).2.1 0 _ rfl) u3r ?_;refine PW.gi (M S) λZ r=>?_
 refine PW.en [fZ] ?_;refine Yh rfl<|Y2<|XL<|PW.bg [.bool (decide ((n:Int)<0))] ?_
 rw[U];refine PW.gd ?_;refine PW.go [] ?_;refine PW.gd ?_;refine PW.go [.bool (decide (1048575<(n:Int)))] ?_;rw[Q];refine PW.en [fZ] ?_;refine Yh rfl<|Y2<|XL<|PW.bg [] ?_
 refine PW.ca (L Z) ?_;rintro e w3 ⟨D,g,rfl,I,o⟩;refine PW.en [iZ 2,iZ 0] ?_;have Y:=mk1 ((H.grow r).add D o I);apply Zk;go_loopg [19] 2 (λgk s19 wr=>∃i:Nat,i+gk=2/\s19=iZ i/\Hid (Mp w wr [(v,opC k a b),(g,sdC N 0++sdC N 1)] []))
 case atStart=>exact⟨0,oM,rfl,Y⟩
 case round =>
  obtain⟨i,T,rfl,K⟩:=hrel;by_cases G:i<2
  .have c:(i:Int)<2:=oM;have s:Yt.wrap ((i:Int)+1)=((i+1:Nat):Int):=by rw[Zo];omega
   refine hG wr.heap.size λC l=>?_
   refine hG (lZ wr z7 61) λJ f=>?_
   refine hG (J.setCells C 0 (sdC N i)) λX m=>?_
   have E:=mk1 (K.new l f);have t:=mk1 (E.put 2 m);have R:=Gg G (K.at_ 1);obtain⟨vs,p⟩:=hE (Yg (sdC N i).toArray);refine PW.bg [.bool (decide ((i:Int)<2))] ?_;rw[decide_eq_true c];refine PW.dn ?_;refine XL<|YH rfl<|Y2<|XL<|Zk<|PW.bg [] ?_
   refine PW.ns (GO G) ?_;refine PW.ro R p uSd iSd ?_;refine PW.al l f ?_;refine PW.st m p (E.th 2) iSd BC ?_;refine PW.dn ?_;refine PW.bg [oZ C 2] ?_;refine PW.ce ((t.at_ 2).2.1 2 _ rfl) TW ?_;refine PW.ro (t.at_ 0).2.1 j uOp iOp ?_;refine PW.ca (F i X) ?_ rfl rfl (Fq (Qp i) rfl rfl rfl);rintro e w6 ⟨u,rfl⟩;have V:=mk1 (Mp.pop (rs:=[(v,opC k a b),(g,sdC N 0++sdC N 1)]) (x:=(C,sdC N i)) (t.grow u));refine PW.go [.bool (decide (4294967295<(amN i a b:Int)))] ?_;rw[A.out i];refine PW.dn ?_;refine Yh rfl<|Y2<|PW.bb [iZ (Yt.wrap ((i:Int)+1))] ?_
   rw[s];go_wp2;go_roundg (gk-1)
   case measure=>omega
   case rel=>exact⟨i+1,oM,rfl,V⟩
  .have c:¬(i:Int)<2:=oM;refine PW.bg [.bool (decide ((i:Int)<2))] ?_;rw[decide_eq_false c];refine PW.dn ?_;refine XL<|Yh rfl<|yBt<|PW.rg (P:=prog) [iZ 0] ?_
   go_wp2;go_ret;exact⟨_,rfl,K.bl,rfl⟩
end
section
open SPA
variable {P:Nat}[NeZero P]{N:Nat}
def OpL(W:XF)(q:Option Y4)(n:Nat)(K A B:Nat->Nat):Prop:=0<n->∃g,q=some (aZ g)/\g<W.heap.size/\∀i,i<n->W.rangeAt g (3*i) (opC (K i) (A i) (B i))
def OpL.below{W W':XF}{q:Option Y4}{n:Nat}{K A B:Nat->Nat}(h:OpL W q n K A B)(k:kZ W W'):OpL W' q n K A B:=λf=>by
 obtain⟨g,d,b,e⟩:=h f;exact⟨g,d,XI b k.size,λi c=>range_below (e i c) k b⟩
def aW(f:Nat->Nat):Nat->Nat
 | 0=>0
 | n+1=>aW f n+f n
def rJ{f:Nat->Nat}(h:∀i,f i<4294967296):∀n,aW f n<=n*4294967296
 | 0=>XH _
 | n+1=>by
  have:=rJ h n;have:=h n;unfold aW;omega
def Qg{g n c i:Nat}{w:XF}(b:i<n):(YV 22 (sZ g n c) (iZ i)).run prog w=.ok (oZ g (3*i)) w:=by
 have k:=gU g 0 (3*i);rw[XQ]at k;go_simp
def z3:List XG:=[iZ 0,uZ 0,uZ 0]
def BP{k a b:Nat}:(opC k a b).toArray.all (·.oneCell')=true:=kR
def VJ(O:Ord N)(n c:Nat)(q:Option Y4)(K A B:Nat->Nat)(hn:n<=64)(z:∀i,1<=K i/\K i<=3)(u:∀i,A i<4294967296)(o:∀i,B i<4294967296)(L:aW A n<=aW B n)(w:XF)(I:OpL w q n K A B):
 ZI prog 6 #[.slice q n c] w (Ret λe w'=>Below w.heap.size w w'/\e=.tuple #[.int .u64 ((aW B n-aW A n:Nat):Int),.int .i64 0]):=by
 have E:=mk1 (λi (j:Nat) (U:j<=1048575)=>Ng O (K i) (A i) (B i) j (z i).1 (z i).2 (u i) (o i) U);have J:=rJ u;have C:=rJ o;have HL:=mk1 I;have m:=mk3 u o L;go_enter func6,ntmps6;refine PW.rg [.int .u64 0,.int .i64 0] ?_;refine PW.rg [.int .u64 0,.int .u64 0] ?_;refine XL<|PW.rg [.int .i64 n,.int .i64 0] ?_
 apply Zk;have V:=mk1 (Mp.start w);go_loopg [4,5,11] n (λgk s4 s5 s11 wr=>∃i:Nat,i+gk=n/\s4=.int .u64 (aW A i:Int)/\s5=.int .u64 (aW B i:Int)/\s11=.int .i64 i/\Hid (Mp w wr [] []))
 case atStart=>exact⟨0,oM,rfl,rfl,rfl,V⟩
 case round =>
  obtain⟨i,M,rfl,rfl,rfl,t⟩:=hrel;by_cases D:i<n
  .have b:(i:Int)<(n:Int):=oM;have r:Yt.wrap ((i:Int)+1)=((i+1:Nat):Int):=by rw[Zo];omega
   have Z:=J i;have l2:=C i;have l3:=m.1 i;have l4:=m.2.1 i;have X:Yy.wrap ((aW A i:Int)+(A i:Int))=((aW A (i+1):Nat):Int):=by rw[ZX,show aW A (i+1)=aW A i+A i from rfl];omega
   have H:Yy.wrap ((aW B i:Int)+(B i:Int))=((aW B (i+1):Nat):Int):=by rw[ZX,show aW B (i+1)=aW B i+B i from rfl];omega
   obtain⟨g,rfl,Y,p⟩:=(HL.below t.bl) oM;refine hG wr.heap.size λT l=>?_
   refine hG (wr.alloc (.cells z3.toArray 26)) λF d=>?_
   refine hG (F.setCells T 0 (opC (K i) (A i) (B i))) λR f=>?_
   have y:=mk1 (t.new l d);have a:=mk1 (y.put 0 f);have G:=p i D;obtain⟨S,k⟩:=hE (Yg (opC (K i) (A i) (B i)).toArray);have x:Hid (∀W,ZI prog 16 #[.int .i64 i,S] W (Ret λe w'=>Below W.heap.size W w'/\e=.int .i64 0)):=k.out▸E i i oM;refine PW.bg [.bool (decide ((i:Int)<(n:Int)))] ?_;rw[decide_eq_true b];refine PW.dn ?_;refine XL<|YH rfl<|Y2<|XL<|Zk<|PW.bg [] ?_
   refine PW.ns (Qg D) ?_;refine PW.ro G k uOp iOp ?_;refine PW.al l d ?_;refine PW.go [.int .i64 i] ?_;refine PW.st f k (y.th 0) iOp BP ?_;refine PW.dn ?_;refine XL<|PW.bg [] ?_
   refine PW.ro (a.at_ 0).2.1 k uOp iOp ?_;refine PW.gi (x R) λw6 s=>?_
   refine PW.en [.int .i64 0] ?_;have v:=mk1 (a.grow s);have c1:=(v.at_ 0).2.1 1 (.int .u64 (A i:Int)) rfl;have c2:=(v.at_ 0).2.1 2 (.int .u64 (B i:Int)) rfl;have Q:=mk1 (Mp.pop (rs:=[]) v);refine PW.rg [.bool false] ?_;refine Yh rfl<|Y2 ?_
   go_quiet (fail);refine PW.bb (P:=prog) [.int .i64 (Yt.wrap ((i:Int)+1))] ?_;rw[r];go_wp2;go_roundg (gk-1)
   case measure=>omega
   case rel=>exact⟨i+1,oM,by rw[<-X],by rw[<-H],rfl,Q.grow ⟨rfl,rfl,rfl,XH _,λ_ _=>rfl⟩⟩
  .have b:¬(i:Int)<(n:Int):=oM;obtain rfl:i=n:=oM;have hd:decide ((aW B i:Int)<(aW A i:Int))=false:=decide_eq_false (oN m.2.2);have k:Yy.wrap ((aW B i:Int)-(aW A i:Int))=((aW B i-aW A i:Nat):Int):=by
    have:=C i;have:=m.2.2;rw[ZX];omega
   refine PW.bg [.bool (decide ((i:Int)<(i:Int)))] ?_;rw[decide_eq_false b];refine PW.dn ?_;refine XL<|Yh rfl<|yBt<|XL (P:=prog)<|PW.bg [.bool (decide ((aW B i:Int)<(aW A i:Int)))] ?_
   rw[hd];refine PW.dn ?_;refine Yh rfl<|Y2<|PW.bg [.int .u64 (Yy.wrap ((aW B i:Int)-(aW A i:Int)))] ?_
   rw[k];refine PW.en [.int .u64 ((aW B i-aW A i:Nat):Int),.int .i64 0] ?_;refine Zj<|XR (dT 2 3 rfl rfl rfl) rfl ?_
   exact⟨_,rfl,t.bl,rfl⟩
def opA(N:Nat)(f:Nat->Nat->Nat):Nat->Nat
 | 0=>0
 | i+1=>sPl N (sPl N (opA N f i) (f i 0)) (f i 1)
def opI(N:Nat)(f:Nat->Nat->Nat)(i:Nat):Nat->Nat
 | 0=>opA N f i
 | s+1=>sPl N (opI N f i s) (f i s)
def blW(N:Nat)(k:Bs)(i s:Nat):Nat:=sTi N (blN N k s i) (sdW N s)
def JX{a b:Nat}(O:Ord N):sPl N a b<N:=Zi _ O.pos
def Ro{a b:Nat}(O:Ord N):sTi N a b<N:=Zi _ O.pos
def Kv{f:Nat->Nat->Nat}(O:Ord N):∀i,opA N f i<N
 | 0=>O.pos
 | _+1=>JX O
def RX{f:Nat->Nat->Nat}{i:Nat}(O:Ord N):∀s,opI N f i s<N
 | 0=>Kv O i
 | _+1=>JX O
def Ri(O:Ord N):∀s,sdW N s<N
 | 0=>Zi _ O.pos
 | _+1=>by have:=O.n2;show 1<N;omega
def VZ:wn 0=RG.z 4:=kR
def IB(O:Ord N)(n:Nat)(hn:n<=64)(k:Bs)(S:k.size=32)(I:Option Y4)(sc:Nat)(w:XF)(G:PartOk w (.slice I 32 sc) k.toList):
 cZ 9 #[.slice I 32 sc,iZ n] w (rZ w λe w'=>e=nv (opA N (blW N k) n)):=by
 refine hG w.heap.size λl B=>?_
 refine hG (lZ w (RG.z 4) 44) λY z=>?_
 have K1:=mk1 ((Mp.start w).new B z);refine hG Y.heap.size λo p=>?_
 refine hG (lZ Y (RG.z 4) 44) λw2 D=>?_
 have K2:Hid (Mp w w2 [(l,RG.z 4),(o,wn (opA N (blW N k) 0))] []):=by
  rw[show wn (opA N (blW N k) 0)=RG.z 4 from VZ];exact K1.new p D
 have HB:=mk1 (λi (hi:i<64) s (W:XF) (b:kZ w W)=>Qs O s i oM k S I sc W (G.below b));have HS:=mk1 (λW=>wR O W);go_enter func9,ntmps9;refine PW.bg [] ?_;refine PW.al B z ?_;refine PW.dn ?_;refine PW.bg [] ?_;refine PW.al p D ?_;refine PW.dn ?_;refine XL<|PW.rg [iZ 0] ?_
 apply Zk;go_loopg [10] n (λgk s10 wr=>∃i:Nat,i+gk=n/\s10=iZ i/\Hid (Mp w wr [(l,RG.z 4),(o,wn (opA N (blW N k) i))] []))
 case atStart=>exact⟨0,oM,rfl,K2⟩
 case round =>
  obtain⟨i,h2,rfl,K⟩:=hrel;by_cases hi:i<n
  .have j:(i:Int)<(n:Int):=oM;have L:Yt.wrap ((i:Int)+1)=((i+1:Nat):Int):=by rw[Zo];omega
   have R:yCX.wrap (i:Int)=(i:Int):=by rw[IntKind.wrap_u32];omega
   refine PW.bg [.bool (decide ((i:Int)<(n:Int)))] ?_;rw[decide_eq_true j];refine PW.dn ?_;refine XL<|YH rfl<|Y2<|XL<|Zk<|PW.rg [iZ i] ?_
   refine PW.bg [] ?_;refine PW.ca (HS wr) ?_;rintro e w3 ⟨Q,g,rfl,hg,u⟩;refine PW.en [iZ 2,iZ 0] ?_;obtain⟨M,h0⟩:∃x,x=gk:=⟨_,rfl⟩
   have K3:=mk1 (K.add Q u hg);apply Zk;go_loopg [15] 2 (λgk s15 wr=>∃s:Nat,s+gk=2/\s15=iZ s/\Hid (Mp w wr [(l,RG.z 4),(o,wn (opI N (blW N k) i s)),(g,sdC N 0++sdC N 1)] []))
   case atStart=>exact⟨0,oM,rfl,K3⟩
   case round =>
    obtain⟨s,h1,rfl,K⟩:=hrel;by_cases G:s<2
    .have E:(s:Int)<2:=oM;have J:Yt.wrap ((s:Int)+1)=((s+1:Nat):Int):=by rw[Zo];omega
     refine hG wr.heap.size λT A=>?_
     refine hG (lZ wr z7 61) λH c=>?_
     refine hG (H.setCells T 0 (sdC N s)) λw5 t=>?_
     have a:=mk1 (K.new A c);have m:=mk1 (a.put 3 t);have R0:=Gg G (K.at_ 2);have V:=gW O (blN N k s i) (sdW N s) (Ck O k s i) (Ri O s);have X:=mP O (opI N (blW N k) i s) (blW N k i s) (RX O s) (Ro O);have r:=λW b=>HB i oM s W b
     obtain⟨vs,f⟩:=hE (Yg (sdC N s).toArray);obtain⟨va,d⟩:=hE (nv (opI N (blW N k) i s));obtain⟨vb,q⟩:=hE (nv (blN N k s i));obtain⟨vw,y⟩:=hE (nv (sdW N s));obtain⟨vt,C⟩:=hE (nv (blW N k i s));obtain⟨vr,F⟩:=hE (nv (opI N (blW N k) i (s+1)));rw[show sTi N (blN N k s i) (sdW N s)=blW N k i s from rfl,q.out,y.out,C.out]at V;rw[show sPl N (opI N (blW N k) i s) (blW N k i s)=opI N (blW N k) i (s+1) from rfl,d.out,C.out,F.out]at X;rw[f.out,q.out]at r;refine PW.bg [.bool (decide ((s:Int)<2))] ?_;rw[decide_eq_true E];refine PW.dn ?_;refine XL<|YH rfl<|Y2<|XL<|Zk<|PW.bg [] ?_
     refine PW.ns (GO G) ?_;refine PW.ro R0 f uSd iSd ?_;refine PW.al A c ?_;refine PW.st t f (a.th 3) iSd BC ?_;refine PW.dn ?_;refine AW.begin 10 10 ?_;refine AW.ro 0 (λW b=>((m.at_ 1).below b).2.1) d u40 i40 ?_;refine AW.ro 1 (λW b=>((m.at_ 3).below b).2.1) f uSd iSd ?_;refine AW.mv 2 ?_;refine AW.mv 3 ?_;refine AW.va 4 (.int .u32 (yCX.wrap (i:Int))) ?_;rw[R];refine AW.va 6 (oZ T 3) ?_;refine AW.ro 7 (λW b=>rnB (xs:=[.string (sdL s),.string (sdP s),.func (.func (sdA s)) #[] #[]]) ((m.at_ 3).below b).2.1 rfl) y u40 i40 ?_;refine AW.gi 5 (λb=>r _ (m.bl.trans (b.mono m.bl.size))) λW1 _=>?_
     refine AW.gi 8 (λ_=>V _) λW2 _=>?_
     refine AW.gi 9 (λ_=>X _) λW3 _=>?_
     refine AW.fi (us:=wn (opI N (blW N k) i (s+1))) F aI i40 (λb=>?_);have Z:=m.grow b;obtain⟨W4,v⟩:=hE (W3.setCells o 0 (wn (opI N (blW N k) i (s+1))));have U:=mk1 (Mp.pop (rs:=[(l,RG.z 4),(o,wn (opI N (blW N k) i (s+1))),(g,sdC N 0++sdC N 1)]) (x:=(T,sdC N s)) (Z.put 1 v));rw[v.out];refine⟨Z.th 1,?_⟩;refine PW.bb (P:=prog) [iZ (Yt.wrap ((s:Int)+1))] ?_;rw[J];go_wp2;go_roundg (gk-1)
     case measure=>omega
     case rel=>exact⟨s+1,oM,rfl,U⟩
    .have E:¬(s:Int)<2:=oM;obtain rfl:s=2:=oM;have U:Hid (Mp w wr [(l,RG.z 4),(o,wn (opA N (blW N k) (i+1)))] []):=Mp.pop (x:=(g,sdC N 0++sdC N 1)) K;refine PW.rg [fZ] ?_;refine XL<|Yh rfl<|yBt<|PW.bb (P:=prog) [iZ (Yt.wrap ((i:Int)+1))] ?_
     rw[L];go_wp2;go_roundg (M-1)
     case measure=>omega
     case rel=>exact⟨i+1,oM,rfl,U⟩
  .have j:¬(i:Int)<(n:Int):=oM;obtain rfl:i=n:=oM;refine hG (wr.setCells l 0 (wn (opA N (blW N k) i))) λH c=>?_
   have a:=mk1 (K.put 0 c);obtain⟨va,d⟩:=hE (nv (opA N (blW N k) i));refine PW.bg [.bool (decide ((i:Int)<(i:Int)))] ?_;rw[decide_eq_false j];refine PW.dn ?_;refine XL<|Yh rfl<|yBt<|PW.bg (P:=prog) [] ?_
   refine PW.ro (K.at_ 1).2.1 d u40 i40 ?_;refine PW.st c d (K.th 0) i40 aI ?_;refine PW.dn ?_;refine Zj<|XR (aF 4 rfl (show Row H l (wn (opA N (blW N k) i)) from a.at_ 0) rfl u40 i40) rfl ?_
   exact⟨_,rfl,a.bl,rfl⟩
end
section
open SPA
variable {P:Nat}[NeZero P]{N:Nat}[NeZero N]
def TM{R:Rv N}{V A S s B D E o I J:Bs}{u:OnP P}{v Rb:Nat->Bs}{F:Rp}{e:XG}{w:XF}(C:Fld P)(O:Ord N)(k:∀r:EC.Pt P,On r->mul N r=none)(d:IsP N)(T:18446744073709551616<=N){t:Nat}(G:Wd R.n t)(hv:R.v<2^R.n)(b:RvL C k R V A S s B D E o)(q:Md.Ps Bs (Fin N) (OnP P))(x:q.s=aX o)(m:q.a=R.a)(z:q.b=R.b)(c:q.g=gPt C ⟨#[108,101,102,116]⟩)(g:q.h=R.hh (aD C k) (gPt C ⟨#[114,105,103,104,116]⟩))(K:u=(aD C k).ac R.w (uPt C))(p:∀j,v j=wP ((aD C k).pLi (chF N) ivF u t q j))(n:∀j,Rb j=wP ((aD C k).pTi (chF N) ivF u t q j))(y:I=bx (((aD C k).pst (chF N) ivF u t q t).a 0).val)(i:J=bx (((aD C k).pst (chF N) ivF u t q t).b 0).val)(l:Hid (⟨A,S,s,B,R.tau.val,R.mu.val,R.t.val⟩=F))(f:RgV t F v Rb I J e w):
 cZ 107 #[pvl V,iZ (R.n:Int),e] w (rZ w λe w'=>e=tZ):=by
 obtain rfl:=l;have H:R.y.val≠0:=by rw[b.y];exact Hv d.1
 have ok:(⟨A,S,s,B,R.tau.val,R.mu.val,R.t.val⟩:Rp).Ok:=⟨by rw[b.eA];exact aL _,by rw[b.eS];exact aL _,by rw[b.e1];exact aL _,by rw[b.e2];exact aL _⟩
 have Q:=R.sums (aD C k) (gPG C) (hPV C) d H hv;have L:=R.point (aD C k) (gPG C) (uPt C) (gPt C ⟨#[108,101,102,116]⟩) (gPt C ⟨#[114,105,103,104,116]⟩) d H;have hf:=SQ C k d u t q;rw[y,i]at f;generalize ((aD C k).pst (chF N) ivF u t q t).a 0=U at *;generalize ((aD C k).pst (chF N) ivF u t q t).b 0=M at *;refine QN C O k d T G _ ok V _ _ _ _ _ b.eV b.eA b.eS b.e1 b.e2 R.tau R.mu R.t R.x R.y R.z R.w rfl rfl rfl D E o b.l3 b.y b.z b.l6 b.x b.l8 b.w v Rb _ _ p n U M u K ⟨q.s,(aD C k).hdP u (2^t) q,q.g,q.h⟩ x c g ?_ _ rfl ?_ hf e w f
 .show(aD C k).hd q.a q.b q.g q.h u (2^t)=(aD C k).ad ((aD C k).ad ((aD C k).ad ((aD C k).ad _ _) _) ((aD C k).ad ((aD C k).dt (λ_=>-R.z) q.g R.n) ((aD C k).dt (rgS R.y R.z) q.h R.n))) _;rw[<-G.1,m,z,c,g,K];exact L.symm
 .exact congrArg wP Q
def Ug(C:Fld P)(O:Ord N)(b:∀r:EC.Pt P,On r->mul N r=none)(v n:Nat)(k:Fin N)(d:List UInt8):∃(R:Rv N) (V A S m o e f j:Bs),R.v=v/\R.n=n/\R.k=k/\RvL C b R V A S m o e f j/\RvS R d:=by
 have lt:∀l B,chL N l B<N:=λl B=>pJ O
 obtain⟨s,K⟩:∃s:Nat->Fin N,∀i,(s i).val=chL N [115,108] [d,(gB i).toList]:=⟨λi=>⟨_,lt _ _⟩,λ_=>rfl⟩
 obtain⟨q,J⟩:∃s:Nat->Fin N,∀i,(s i).val=chL N [115,114] [d,(gB i).toList]:=⟨λi=>⟨_,lt _ _⟩,λ_=>rfl⟩
 obtain⟨al,t⟩:∃x:Fin N,x.val=chL N [97,108,112,104,97] [d]:=⟨⟨_,lt _ _⟩,rfl⟩
 obtain⟨c,g⟩:∃x:Fin N,x.val=chL N [114,104,111] [d]:=⟨⟨_,lt _ _⟩,rfl⟩
 obtain⟨t1,u⟩:∃x:Fin N,x.val=chL N [116,97,117,49] [d]:=⟨⟨_,lt _ _⟩,rfl⟩
 obtain⟨t2,p⟩:∃x:Fin N,x.val=chL N [116,97,117,50] [d]:=⟨⟨_,lt _ _⟩,rfl⟩
 obtain⟨V,T⟩:∃V,V=wP ((⟨v,n,s,q,al,c,t1,t2,k,0,0,0,0⟩:Rv N).pV (aD C b) (gPG C) (hPV C)):=⟨_,rfl⟩
 obtain⟨A,M⟩:∃A,A=wP ((⟨v,n,s,q,al,c,t1,t2,k,0,0,0,0⟩:Rv N).pA (aD C b) (gPG C) (gPt C ⟨#[108,101,102,116]⟩) (gPt C ⟨#[114,105,103,104,116]⟩)):=⟨_,rfl⟩
 obtain⟨S,Q⟩:∃A,A=wP ((⟨v,n,s,q,al,c,t1,t2,k,0,0,0,0⟩:Rv N).pS (aD C b) (gPG C) (gPt C ⟨#[108,101,102,116]⟩) (gPt C ⟨#[114,105,103,104,116]⟩)):=⟨_,rfl⟩
 obtain⟨e,G⟩:∃L,L=bgL V n A S:=⟨_,rfl⟩
 obtain⟨y,F⟩:∃y,y=lD N e:=⟨_,rfl⟩
 obtain⟨z,E⟩:∃z,z=lD N (aX e):=⟨_,rfl⟩
 obtain⟨m,H⟩:∃A,A=wP ((⟨v,n,s,q,al,c,t1,t2,k,y,z,0,0⟩:Rv N).p1 (aD C b) (gPG C) (hPV C)):=⟨_,rfl⟩
 obtain⟨o,W⟩:∃A,A=wP ((⟨v,n,s,q,al,c,t1,t2,k,y,z,0,0⟩:Rv N).p2 (aD C b) (gPG C) (hPV C)):=⟨_,rfl⟩
 obtain⟨f,U⟩:∃L,L=mdL (aX (aX e)) m o:=⟨_,rfl⟩
 obtain⟨x,hx⟩:∃x,x=lD N f:=⟨_,rfl⟩
 obtain⟨j,D⟩:∃L,L=enL (aX f) (⟨v,n,s,q,al,c,t1,t2,k,y,z,x,0⟩:Rv N).tau.val (⟨v,n,s,q,al,c,t1,t2,k,y,z,x,0⟩:Rv N).mu.val (⟨v,n,s,q,al,c,t1,t2,k,y,z,x,0⟩:Rv N).t.val:=⟨_,rfl⟩
 obtain⟨w,I⟩:∃w,w=lD N j:=⟨_,rfl⟩
 exact⟨⟨v,n,s,q,al,c,t1,t2,k,y,z,x,w⟩,V,A,S,m,o,e,f,j,rfl,rfl,rfl,⟨T,M,Q,H,W,G,F,E,U,hx,D,I⟩,⟨K,J,t,g,u,p⟩⟩
def RgA.below{q t:Nat}{p:Rp}{o Rb:Nat->Bs}{j n:Bs}{e:XG}{W W':XF}(h:RgA q t p o Rb j n e W)(i:kZ W W'):RgA q t p o Rb j n e W':=by
 obtain⟨a,b,c,d,u,m,s,x,y,z,w,B,r,l,hR,A,v⟩:=h.ex;have k:Kq (λ_=>True) W W':=Kq.of_below i;exact⟨a,b,c,d,u,m,s,x,y,z,w,B,r.keep k,l.keep k λg f=>i.block g (l.lt f).2,hR.keep k λg f=>i.block g (hR.lt f).2,A.keep k,v.keep k⟩
def Us{S R M:Type}(s:S)(a b:Nat->R)(g h:Nat->M):∃q:Md.Ps S R M,q.s=s/\q.a=a/\q.b=b/\q.g=g/\q.h=h:=⟨⟨s,a,b,g,h⟩,rfl,rfl,rfl,rfl,rfl⟩
def NG(C:Fld P)(O:Ord N)(f:∀r:EC.Pt P,On r->mul N r=none)(hP:IsP N)(hN:18446744073709551616<=N){n t:Nat}(T:Wd n t)(v:Nat)(hv:v<2^n)(k:Fin N)(Q:List UInt8):∃(V:Bs) (B:Rp) (l Rb:Nat->Bs) (g i:Bs),V=wP ((aD C f).cm (hPV C) (gPG C) (ofF N v) k) /\
 (∀(K:Option Y4) (sc:Nat) (v1:XG) (w:XF),Arg w v1 (bx k.val)->PartOk w (.slice K 32 sc) Q->cZ 20 #[uZ v,v1,iZ n,.slice K 32 sc] w (rZ w λe w'=>∃e' o,e=.tuple #[e',iZ 0]/\w.heap.size<=o/\RgA o t B l Rb g i e' w')) /\
 (∀(e v0:XG) (w:XF),Arg33 w v0 V->RgV t B l Rb g i e w->(cZ 61 #[v0,iZ n,e] w (rZ w λe w'=>e=tZ)))/\B.Ok/\(∀j,(l j).size=33)/\(∀j,(Rb j).size=33)/\g.size=32/\i.size=32:=by
 obtain⟨R,V,A,S,U,Y,Z,L6,M,rfl,rfl,rfl,o,hS⟩:=Ug C O f v n k Q;obtain⟨q,I,G,J,F,H⟩:=Us (aX M) R.a R.b (gPt C ⟨#[108,101,102,116]⟩) (R.hh (aD C f) (gPt C ⟨#[114,105,103,104,116]⟩));obtain⟨u,hu⟩:∃u,u=(aD C f).ac R.w (uPt C):=⟨_,rfl⟩
 obtain⟨l,D⟩:∃l:Nat->Bs,∀j,l j=wP ((aD C f).pLi (chF N) ivF u t q j):=⟨λj=>wP ((aD C f).pLi (chF N) ivF u t q j),λ_=>rfl⟩
 obtain⟨Rb,z⟩:∃Rb:Nat->Bs,∀j,Rb j=wP ((aD C f).pTi (chF N) ivF u t q j):=⟨λj=>wP ((aD C f).pTi (chF N) ivF u t q j),λ_=>rfl⟩
 obtain⟨g,E⟩:∃g,g=bx (((aD C f).pst (chF N) ivF u t q t).a 0).val:=⟨_,rfl⟩
 obtain⟨i,p⟩:∃i,i=bx (((aD C f).pst (chF N) ivF u t q t).b 0).val:=⟨_,rfl⟩
 obtain⟨B,y⟩:=hE (⟨A,S,U,Y,R.tau.val,R.mu.val,R.t.val⟩:Rp);refine⟨V,B,l,Rb,g,i,o.eV,λK sc v1 w X L=>?_,λe v0 w X L=>?_,?_,λj=>by rw[D];exact aL _,λj=>by rw[z];exact aL _,by rw[E];exact cU _,by rw[p];exact cU _⟩
 .exact Ut C O f hP R T hv hN Q K sc V A S U Y Z L6 M o hS q I G J F H u hu l Rb D z g i E p B y v1 w X L
 .have hr:∃q,rd P V=some q:=by
   rw[o.eV];obtain⟨q,hq,-⟩:=yF C (R.pV (aD C f) (gPG C) (hPV C)).2;exact⟨q,hq⟩
  obtain⟨x,hx⟩:=hr;obtain⟨a,b,c,d,u',m,s,vL,vR,vA,vB,e1,-⟩:=L.ex;subst e1;exact TL C T V x hx v0 _ _ _ _ _ _ _ _ _ _ _ w X λW hb=>TM C O f hP hN T hv o q I G J F H hu D z E p y (L.below hb)
 .rw[<-y.out];exact⟨by rw[o.eA];exact aL _,by rw[o.eS];exact aL _,by rw[o.e1];exact aL _,by rw[o.e2];exact aL _⟩
end
section
open SPA
variable {P:Nat}[NeZero P]{N:Nat}
def TlL.vl{Q:Nat->Prop}{k t:Nat}{W:XF}{v:XG}{B:Nat->Bs}(h:TlL Q k t W v B)(m:0<t):∃g c ys,v=sZ g t c/\VL W (some (aZ g)) t ys/\∀j,j<t->∃x,ys[j]? = some x/\ElQ Q 33 W x (B j):=by
 obtain⟨xs,b,i⟩:=h.ex;obtain⟨g,c,rfl⟩:=mW b m;have o:xs.length=t:=oN b.1;have l:=(h.lt (g:=g) rfl).2;refine⟨g,c,xs,rfl,⟨o,λe=>(by cases e),Yd ⟨g,0,rfl,l,λj u d=>?_⟩,λu d=>?_⟩,i⟩
 .rw[XQ];exact jK b d
 .obtain⟨j,p,rfl⟩:=List.mem_iff_getElem.1 d;obtain⟨x,f,n⟩:=i j oM;rw[XV p]at f;obtain rfl:=X5.inj f;exact n.one.2
def ElQ.pt{Q:Nat->Prop}{m:Nat}{W:XF}{x:XG}{b:Bs}(h:ElQ Q m W x b):Pt W x b:=by
 obtain⟨k,c,rfl,-,d,-,f,e⟩:=h;exact⟨_,c,by rw[d],Yd ⟨k,0,rfl,f,e⟩⟩
def rgB(t:Nat)(p:Rp)(c Rb:Nat->Bs)(b k:Bs):List Bs:=[p.a,p.s,p.c,p.d,bx p.u,bx p.m,bx p.t]++(YB t).map c++(YB t).map Rb++[b,k]
def PtB.app{W:XF}{us vs:List XG}{A B:List Bs}(h:PtB W us A)(d:PtB W vs B):PtB W (us++vs) (A++B):=by
 refine⟨by rw[XP,XP,h.1,d.1],λj u b c k=>?_⟩;by_cases e:j<us.length
 .rw[X1 e]at c;rw[X1 (by rw[h.1];exact e)]at k;exact h.2 j u b c k
 .rw[X4 oM]at c;rw[X4 (by rw[h.1];omega),h.1]at k;exact d.2 _ u b c k
def PtB.one{W:XF}{u:XG}{b:Bs}(h:Pt W u b):PtB W [u] [b]:=⟨rfl,λj d e k c=>by
 match j with
 | 0 =>
  cases k
  cases c
  exact h
 | j+1=>cases k⟩
def PtB.list{W:XF}{Q:Nat->Prop}{t:Nat}{ys:List XG}{B:Nat->Bs}(f:ys.length=t)(h:∀j,j<t->∃x,ys[j]? = some x/\ElQ Q 33 W x (B j)):PtB W ys ((YB t).map B):=⟨by simp[f],λj u b c e=>by
 have k:j<t:=by rw[<-f];exact(XT.1 c).1
 obtain⟨x,d,g⟩:=h j k;rw[c]at d;obtain rfl:=X5.inj d;rw[YC,yBw k]at e;obtain rfl:=X5.inj e;exact g.pt⟩
def RgA.rg{G t:Nat}{p:Rp}{w Rb:Nat->Bs}{n r:Bs}{e:XG}{W:XF}(h:RgA G t p w Rb n r e W)(v:0<t):∃(q:Rg) (f k:List XG) (i j:Nat),e=.agg q.cs.toArray/\q.l.n=t/\q.r.n=t/\q.a.n=33/\VL W q.l.q q.l.n f/\VL W q.r.q q.r.n k/\q.l.q=some (aZ i)/\q.r.q=some (aZ j)/\PtB W (qY q f k) (rgB t p w Rb n r):=by
 obtain⟨a,b,c,d,u,m,s,I,J,K,H,rfl,g,B,hR,o,l⟩:=h.ex;obtain⟨i,cl,f,rfl,v1,C⟩:=B.vl v;obtain⟨j,cr,k,rfl,v2,y⟩:=hR.vl v;have pA:=o.pt;have F:=l.pt;obtain⟨z,D,rfl,-⟩:=o;obtain⟨E,x,rfl,-⟩:=l;refine⟨⟨⟨some (aZ a),33,_⟩,⟨some (aZ b),33,_⟩,⟨some (aZ c),33,_⟩,⟨some (aZ d),33,_⟩,⟨some (aZ u),32,_⟩,⟨some (aZ m),32,_⟩,⟨some (aZ s),32,_⟩,⟨some (aZ i),t,cl⟩,⟨some (aZ j),t,cr⟩,⟨some (aZ z),32,D⟩,⟨some (aZ E),32,x⟩⟩,f,k,i,j,rfl,rfl,rfl,rfl,v1,v2,rfl,rfl,?_⟩;exact(((PtB.one g.a.pt).app ((PtB.one g.b.pt).app ((PtB.one g.c.pt).app ((PtB.one g.d.pt).app ((PtB.one g.e.pt).app ((PtB.one g.f.pt).app (PtB.one g.g.pt))))))).app (PtB.list v1.len C)).app (PtB.list v2.len y) |>.app ((PtB.one pA).app (PtB.one F))
def RgA.cl{l t:Nat}{p:Rp}{i Rb:Nat->Bs}{d g:Bs}{e:XG}{W:XF}(h:RgA l t p i Rb d g e W)(j:0<t):∃cs:List XG,Hid (.agg cs.toArray=e)/\cs.length=11/\cs.toArray.all (·.oneCell')=true/\∃q c,cs[0]? = some (.slice q 33 c):=by
 obtain⟨q,b,k,m,n,rfl,-,-,f,-⟩:=h.rg j;exact⟨q.cs,rfl,rfl,by simp only[yAR,Rg.cs,rgC,Sv.v,yCT,yDb];rfl,q.a.q,q.a.c,by rw[<-f];rfl⟩
def TlL.sz{Q:Nat->Prop}{d t:Nat}{W:XF}{v:XG}{B:Nat->Bs}(h:TlL Q d t W v B):((YB t).map B).map ZA=YR t 33:=by
 obtain⟨xs,-,f⟩:=h.ex;refine yDg.2 ⟨by simp,λx hx=>?_⟩;simp only[YD,Y9]at hx;obtain⟨b,⟨j,g,rfl⟩,rfl⟩:=hx;obtain⟨y,-,k,c,-,-,e,-⟩:=f j g;exact e
def ElQ.sz{Q:Nat->Prop}{m:Nat}{W:XF}{x:XG}{b:Bs}(h:ElQ Q m W x b):ZA b=m:=by
 obtain⟨k,c,-,-,d,-⟩:=h;exact d
def RgA.good{q t:Nat}{p:Rp}{i Rb:Nat->Bs}{f g:Bs}{e:XG}{W:XF}(h:RgA q t p i Rb f g e W)(o:t<=6):kV t t (rgB t p i Rb f g):=by
 obtain⟨a,b,c,d,u,m,s,v,w,x,r,-,k,l,hR,n,j⟩:=h.ex;refine⟨rfl,o,?_⟩;unfold rgB;rw[Y5,Y5,Y5,l.sz,hR.sz];simp only[yAg,yCx,k.a.sz,k.b.sz,k.c.sz,k.d.sz,k.e.sz,k.f.sz,k.g.sz,n.sz,j.sz];rfl
def OP{t:Nat}{p:Rp}{k Rb:Nat->Bs}{c d:Bs}(l:t<=6)(ok:p.Ok)(g:∀j,(k j).size=33)(hR:∀j,(Rb j).size=33)(i:c.size=32)(f:d.size=32):kV t t (rgB t p k Rb c d):=by
 have e:∀(B:Nat->Bs),(∀j,(B j).size=33)->((YB t).map B).map ZA=YR t 33:=λB h=>yDg.2 ⟨by simp,λx hx=>by
  simp only[YD,Y9]at hx;obtain⟨b,⟨j,m,rfl⟩,rfl⟩:=hx;exact h j⟩
 refine⟨rfl,l,?_⟩;unfold rgB;rw[Y5,Y5,Y5,e k g,e Rb hR];simp only[yAg,yCx,ok.a,ok.s,ok.c,ok.d,cU,i,f];rfl
def RgA.put{z t:Nat}{p:Rp}{d Rb:Nat->Bs}{k b:Bs}{e:XG}{W:XF}(h:RgA z t p d Rb k b e W)(x:0<t)(w:t<=6):cZ 22 #[e] W (rZ W λe W'=>∃v,e=.tuple #[v,iZ 0]/\Pt W' v (fE t (rgB t p d Rb k b) (t+t+9))/\∃g c,v=sZ g (ZA (fE t (rgB t p d Rb k b) (t+t+9))) c/\ZA (fE t (rgB t p d Rb k b) (t+t+9))<=c):=by
 have n:=h.good w;obtain⟨q,s,m,A,B,rfl,j,i,-,v1,v2,r,u,o⟩:=h.rg x;apply(Rq q W v1 v2 (Yd r) (Yd u) o oM oM).mono;rintro e W' ⟨y,⟨-,v,rfl,f⟩|⟨l,-⟩⟩
 .rw[j,i]at f;exact⟨_,rfl,y,v,rfl,f⟩
 .rw[j,i]at l;exact absurd n l
end
section
variable {n:Nat}{BB:List Bs}
def xB(h:kV n n BB){j:Nat}{b:Bs}(k:BB[j]? = some b):(fH n n)[j]? = some (ZA b):=by
 rw[<-h.2.2,YC,k];rfl
def lW(h:kV n n BB):BB.length=n+n+9:=by
 have:=congrArg List.length h.2.2;unfold fH at this;simp at this;omega
def sW(h:kV n n BB):∀i,i<=n+n+9->ZA (fE n BB i)=offs n i
 | 0,_=>rfl
 | i+1,hi=>by
  have b:i<BB.length:=by rw[lW h];omega
  have k:=XV b;rw[mD n k,Ys,sW h i oM,lS (xB h k)]
def Ad(i:Nat):∀m,i+m<=BB.length->∃r,fE n BB (i+m)=fE n BB i++r
 | 0,_=>⟨#[],by simp⟩
 | m+1,hm=>by
  obtain⟨r,b⟩:=Ad i m oM;have k:=XV (show i+m<BB.length by omega);refine⟨r++BB[i+m],?_⟩;rw[<-ZL,mD n k,b,Array.append_assoc]
def O4(h:kV n n BB){j:Nat}{b:Bs}(k:BB[j]? = some b):chk (fE n BB (n+n+9)) n j=b:=by
 have d:=(XT.1 k).1;rw[lW h]at d;obtain⟨r,c⟩:=Ad (n:=n) (BB:=BB) (j+1) (n+n+9-(j+1)) (by rw[lW h];omega);rw[show j+1+(n+n+9-(j+1))=n+n+9 by omega,mD n k]at c;have s1:=sW h j oM;have s2:=lS (xB h k);unfold chk;rw[c,s2,<-s1];apply Array.ext
 .simp
 .intro i e f;simp[Array.getElem_append]
def Mr(h:kV n n BB):(fE n BB (n+n+9))[0]!.toNat=n/\oS (fE n BB (n+n+9)):=by
 have d:=h.2.1;obtain⟨r,c⟩:=Ad (n:=n) (BB:=BB) 0 (n+n+9) (by rw[lW h];omega);rw[XQ]at c;have b:=sW h (n+n+9) (XH _);rw[rW]at b;have k:(fE n BB (n+n+9))[0]!.toNat=n:=by
  rw[c];have:(fE n BB 0++r)[0]! = n.toUInt8:=by
   rw[show fE n BB 0=#[n.toUInt8] from rfl,getElem!_pos _ 0 (by simp;omega),Array.getElem_append_left (by simp)];rfl
  rw[this];exact Ya oM
 exact⟨k,oM,oM,by rw[k];exact b⟩
end
section
open SPA
variable {P:Nat}[NeZero P]{N:Nat}[NeZero N]
structure PrT(T:Bs)(e:XG)(w:XF):Prop where
 cs:∃cs:List XG,Hid (.agg cs.toArray=e)/\cs.length=11/\cs.toArray.all (·.oneCell')=true
 put:∀(W1 W:XF) (k:Nat) (us vs:List XG),kZ w W1->Row W1 k (nZ :: vs)->Below (W1.setCells k 0 us).heap.size (W1.setCells k 0 us) W->cZ 22 #[e] W (rZ W λx W'=>∃g c,x=.tuple #[sZ g 623 c,iZ 0]/\623<=c/\g<W'.heap.size/\hZ W' g 0 T)
theorem pt_holds{W:XF}{g n c:Nat}{b:Bs}(h:Pt W (sZ g n c) b)(l:0<b.size):g<W.heap.size/\hZ W g 0 b:=by
 obtain⟨q,m,e,j|⟨i,o,k,f,d⟩⟩:=h
 .omega
 injection e with e1 e2 e3
 rw[k]at e1;injection e1 with e1
 injection e1 with e1 e4 e5
 subst e1 e4;exact⟨f,d⟩
omit [NeZero P] [NeZero N] in
theorem RgA.set0{l t k:Nat}{p:Rp}{C Rb:Nat->Bs}{z A:Bs}{e:XG}{W:XF}{us vs:List XG}(h:RgA l t p C Rb z A e W)(E:0<t)(v:Row W k (nZ :: vs)):RgA l t p C Rb z A e (W.setCells k 0 us):=by
 obtain⟨a,b,c,d,u,m,s,I,K,M,H,Q,f,L,hR,O,F⟩:=h.ex;have kq:Kq (·≠k) W (W.setCells k 0 us):=Kq.set λg i=>i
 have el:∀ {m:Nat}{x:XG}{b:Bs},0<m->ElQ (λ_=>True) m W x b->ElQ (λ_=>True) m (W.setCells k 0 us) x b:=λG hx=>((hx.off G v).keep kq).mono2 λ_ _ _=>trivial
 have D:∀ {w:XG}{B:Nat->Bs},TlL (λ_=>True) l t W w B->TlL (λ_=>True) l t (W.setCells k 0 us) w B:=λhx=>by
  obtain⟨xs,q,y⟩:=hx.ex;obtain⟨g,c,rfl⟩:=mW q E;obtain⟨T,r,n⟩:=y 0 E;have R:=jK q r;have o:g≠k:=λe=>by
   subst e;have:=v.2.1 0 _ rfl;rw[XQ,R]at this;obtain⟨J,S,rfl,-⟩:=n;cases this
  refine⟨xs,bG q λJ i=>aE us 0 W J (by injection i with i;rw[<-i];exact o),λj S=>?_⟩;obtain⟨x,r,n⟩:=y j S;exact⟨x,r,el dC n⟩
 exact⟨a,b,c,d,u,m,s,I,K,M,H,Q,⟨el dC f.a,el dC f.b,el dC f.c,el dC f.d,el dC f.e,el dC f.f,el dC f.g⟩,D L,D hR,el dC O,el dC F⟩
end
section
open SPA
def UV:(prog.info? 5).map (λi=>(i.size,i.bytes,i.zero.map λz=>z.cells.size))=some (1,1,some 1):=kR
def TR:prog.underlying 23=some (.slice 5):=kR
def Tt{k g o c:Nat}{W:XF}{v:XG}{X Y:Bs}(m:W.ownsRow k 5 1 v X.size (bC X))(D:hZ W g o Y)(E:X.size+Y.size<=1000000)(C:k<=W.heap.size):
 ∃b W',(YK #[23,23] 23 #[v,qZ g o Y.size c]).run prog W=.ok b W'/\W'.ownsRow k 5 1 b (X++Y).size (bC (X++Y))/\W.grownBy W' v.ownBlock/\(b.ownBlock=v.ownBlock\/b.ownBlock=some W.heap.size):=by
 obtain⟨i,y,f⟩:=XK.1 UV;simp only[Zl.injEq]at f;obtain⟨s,A,r⟩:=f;obtain⟨z,p,d⟩:=XK.1 r;have B:∀(j:Nat) u,(bC Y)[j]? = some u->W.cell? ((⟨g,o,none⟩:Y4).add j)=some u:=λj u e=>by
  unfold bC at e;rw[YC]at e;obtain⟨x,hx,rfl⟩:=XK.1 e;rw[Array.getElem?_toList]at hx;have:=(X9.1 hx)
  rw[gU,(D j this.1).1,getElem!_pos Y j this.1,this.2];rfl
 obtain⟨b,W',l,t,n,-,q⟩:=run_append_own_at (P:=prog) (w:=W) k 23 23 5 i z 1 1 TR y p s A d (by decide) v X.size (bC X) m ⟨g,o,none⟩ Y.size c (bC Y) (by rw[uR,yAe]) B Ah (by unfold maxLen;omega) (by omega) C;exact⟨b,W',l,by rw[MC,Ys];exact t,n,q⟩
structure Wt(w W:XF)(v u:XG)(A B:Bs):Prop where
 bl:kZ w W
 oA:W.ownsRow w.heap.size 5 1 v A.size (bC A)
 oB:W.ownsRow w.heap.size 5 1 u B.size (bC B)
 ne:∀g,v.ownBlock=some g->u.ownBlock≠some g
section
variable {w W W':XF}{v u:XG}{A B:Bs}
def Wt.swap(h:Wt w W v u A B):Wt w W u v B A:=⟨h.bl,h.oB,h.oA,λg b k=>h.ne g k b⟩
def Wt.grow(h:Wt w W v u A B)(b:kZ W W'):Wt w W' v u A B:=⟨h.bl.trans (b.mono h.bl.size),bG h.oA λg k=>b.block g (bU h.oA k).2.1,bG h.oB λg k=>b.block g (bU h.oB k).2.1,h.ne⟩
def Wt.app{g o c:Nat}{Y:Bs}(h:Wt w W v u A B)(r:hZ W g o Y)(q:A.size+Y.size<=1000000):
 ∃i W',(YK #[23,23] 23 #[v,qZ g o Y.size c]).run prog W=.ok i W'/\Wt w W' i u (A++Y) B/\W.heap.size<=W'.heap.size/\∀k,k<W.heap.size->v.ownBlock≠some k->W'.heap[k]? = W.heap[k]?:=by
 obtain⟨i,W',n,p,f,m⟩:=Tt h.oA r q h.bl.size;refine⟨i,W',n,⟨h.bl.grown f h.bl.size λk b=>(bU h.oA b).1,p,bG h.oB λk b=>f.block k (bU h.oB b).2.1 (λe=>h.ne k e.symm b),λk d l=>?_⟩,f.size,λk b j=>f.block k b (λe=>j e.symm)⟩;rcases m with e|e
 .rw[e]at d;exact h.ne k d l
 .rw[e]at d;have:=(bU h.oB l).2.1;injection d with d
  omega
end
section
variable {P:YO}{ops:Array Yw}{Q:Exit->Act->XF->Prop}{p r:Nat}{J:Iv}{o:Yw}{a a':Act}{w w':XF}{fuel:Nat}{listed:Array Bool}{d:Option ZC}{x:XG}
def AW.nw(i:Nat){I:Sem XG}(hx:I.run P w=.ok x w')(b:J.p w->J.p w')(h:AW P ops Q p r J fuel (listed.setIfInBounds i true) a' w')(ho:ops[i]? = some o:=by(simp only[Yp,Yl,Yn])<;>rfl)(hd:o.dst=d:=by rfl)(c:o.guard=none:=by rfl)(f:Ym a.eval o=I >>= λv=>pure (ZW v):=by kernel_rfl)
 (e:a.put d x=a':=by(simp only[Yo,XJ,XM,XO])<;>rfl) (g:Yq .any ops listed=[i]:=by kernel_rfl):AW P ops Q p r J (fuel+1) listed a w:=λk=>by
 subst e;exact anyS.ins ho hx (Yd (b k)) (h (b k)) g c f hd
end
section
variable {P:YO}{ops:Array Yw}{Q:Exit->Act->XF->Prop}{a0:Act}{k:Nat}{o:Yw}{G:RG.Gw}
open RG
def gw_cv{f:ZZ}(j:Nat)(t:ZC)(c:Nat)(b:ZC){i:Array Yj}(hf:∀args W,(callFunc f args).run P W=.ok (.enter f args) W)(n:∀x W,G.R j x W->x=.func (.func f) #[] #[])(m:∀y W,G.R c y W->G.B W->ZI P f #[y] W (rZ W λe W'=>G.R k e W'))(hd:((cQ o j,aV ops j),(cQ o c,aV ops c))=((true,some t),(true,some b)):=by kernel_rfl)(l:cN [t,b] o=true:=by kernel_rfl)(ho:o.op=.call ⟨.value (.tmp t),#[.tmp b],i⟩:=by rfl)(g:t≠b:=by decide):bE P Q G.flow ops a0 k o:=
 gC λa W d=>⟨[(t,.func (.func f) #[] #[]),(b,a.eval (.tmp b))],f,#[a.eval (.tmp b)],⟨n _ W (d.n j t (congrArg (·.1.1) hd) (congrArg (·.1.2) hd)),rfl,yE5⟩,by
  rw[show([(t,Value.func (.func f) #[] #[]),(b,a.eval (.tmp b))].map (·.1))=[t,b] from rfl,l]
  congr 1
  refine Fq hf ho ?_ ?_
  .simp[evo,evl]
  .simp[evo,evl,g,Ne.symm g],m _ W (d.n c b (congrArg (·.2.1) hd) (congrArg (·.2.2) hd)) d.b⟩
end
end
end Go.Proofs.YtlofhpkoaljmeaaGreat
