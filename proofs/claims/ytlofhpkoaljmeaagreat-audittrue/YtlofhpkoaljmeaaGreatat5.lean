import Derived.Lib.ConvBytes
import Derived.Laws.MathBits
import Derived.Deep.LoopGhost
import Derived.Laws.AppendOwn
import Derived.Deep.AppendSrc
import Derived.Lib.AppendZeros
import Derived.Deep.MidRow
import Derived.BigQuiet
import Derived.BigRegion
import Derived.Deep.RegionLaw
import Derived.Laws.OwnMore
import Derived.ArgAppend
import Derived.Test.YtlofhpkoaljmeaaGreatat4
set_option linter.unusedVariables false
set_option linter.defProp false
set_option linter.constructorNameAsVariable false
set_option linter.unusedSimpArgs false
set_option maxRecDepth 1000000
set_option maxHeartbeats 4000000
namespace Go.Proofs.YtlofhpkoaljmeaaGreat
open EC NT RG SP
open _root_.And renaming intro->Y0
open _root_.Array renaming getD_eq_getD_getElem?->XU,getElem?_eq_getElem->Ye,getElem?_eq_none->ZY,getElem?_eq_some_iff->X9,length_toList->X0,replicate->XW,size_append->Ys,size_replicate->X8,toArray_toList->yBn
open _root_.Bool renaming and_eq_true->XZ,or_eq_true->yAc
open _root_.Fin renaming ext->yA4,val_add->yDv,val_mul->yAw
open _root_.Go renaming Addr->Y4,Calls->ZI,FuncId->ZZ,Oper->Yw,Program->YO,Tmp->ZC,TypeId->Yj,Value->XG,World->XF,bodyPost_ret->XR,execOp->Ym,run_append_own->yBu,run_append_room_src->yCr,run_loadVar_mid->yAH,run_storeVar_mid->yCk,run_underlying->yA8,size_madeCells->yDs,undef->ZB,wpList_load_mid->YG,wpList_plain->ZT,wpList_store_mid->Yi,wpOp_mono->yCj,wp_block->Zk,wp_cond_false->Yh,wp_cond_true->YH,wp_ret->Zj,wp_seq->XL,wp_skip->Y2
open _root_.Go.Act renaming put->Yo
open _root_.Go.Addr renaming add->yBZ
open _root_.Go.Builtin renaming append_->YK,firstCells->yC6,nextslicecap->yBe
open _root_.Go.Code renaming region->Zg
open _root_.Go.Ending renaming returned->yBP
open _root_.Go.Instr renaming box->Yu,index->yBE,indexAt->YV,makeSlice->yAq,sliceAt->ZH,storeAt->yBk,sureAddr->yAP
open _root_.Go.IntKind renaming i64->Yt,wrap_i64->Zo
open _root_.Go.Lib renaming bytesCells->yAT,bytesWorld->yBH,bytesWorld_size->yCl
open _root_.Go.Next renaming value->ZW
open _root_.Go.Oper renaming wp->Y8
open _root_.Go.Region renaming binds->Y3,ready->Yq,wanted->Zd
open _root_.Go.Result renaming andThen_ok->YE
open _root_.Go.RowKit.Below renaming refl->XX
open _root_.Go.Sem renaming run_bind->X6,run_pure->Zu
open _root_.Go.Src renaming ofSlice->yDu
open _root_.Go.Value renaming agg->Yg,func->yCO,int->Y1,ownBlock->Zm
open _root_.Go.World renaming cell?->YY,cell?_drew->yBM,cell?_of_block->Yb,freeze->yBQ,frozen?->Zt,frozen?_of_block->Y6,rangeAt_setCells_apart->Yr,rangeAt_setCells_same->YW,setCells->yBv,size_alloc->XS,size_drew->yDW,there_setCells->Za
open _root_.Int renaming natCast_mul->yAx,tdiv_eq_ediv_of_nonneg->yAS,toNat_natCast->yBW
open _root_.List renaming all_eq_true->Yv,any_eq_true->yDU,append_nil->yAt,drop->Z5,drop_length->yDS,eq_nil_of_length_eq_zero->yCB,getElem?_append_right->X4,getElem?_eq_getElem->XV,getElem?_eq_none->ZR,getElem?_eq_some_iff->XT,getElem?_map->YC,length_append->XP,length_map->X7,length_set->yD2,map_append->Y5,mem_append->Zh,mem_cons_of_mem->Yx,mem_cons_self->YL,mem_map->YD,mem_range->Y9,mem_singleton->Ze,nodup_append->yBO,not_mem_nil->Yf,range->YB,setIfInBounds_toArray->XJ,set_cons_succ->XM,set_cons_zero->XO,size_toArray->YJ,take->Z4
open _root_.Nat renaming add_mul->yAB,div_eq_of_lt->yAA,le_of_ble_eq_true->YM,le_of_eq->yBh,le_refl->XH,le_trans->XN,log2->yEk,lt_of_lt_of_le->XI,lt_of_succ_le->Z7,lt_or_ge->Zx,mod_eq_of_lt->Ya,mod_lt->Zi,mul_comm->YN,mul_le_mul->ZP,mul_le_mul_left->yAf,mul_le_mul_right->yAv,mul_pos->yDq,mul_succ->yA1,not_lt_zero->yAh,one_mul->Z6,pos_of_neZero->yAM,pow_succ->Zr,reduceAdd->YQ,succ_le_of_lt->yDO,zero_add->XQ,zero_le->Zq,zero_lt_succ->yCL,zero_mod->yBf
open _root_.Option renaming isSome_iff_exists->YP,map_eq_some_iff->XK,map_some->yAy,some->X5
open _root_.Or renaming inl->Yk,inr->Yd
open _root_.Prod renaming fst->yCg,mk->Zl,snd->yCf
open _root_.Subtype renaming ext->yBd
open Go.Proofs.Tryz
open Go.RowKit Go.Sort Go.Deep
namespace SPA
structure Md(N:Nat)[NeZero N](M:Type) where
 ad:M->M->M
 zo:M
 ac:(Fin N)->M->M
 comm:∀a b,ad a b=ad b a
 assoc:∀a b c,ad (ad a b) c=ad a (ad b c)
 zadd:∀a,ad zo a=a
 acAd:∀r a b,ac r (ad a b)=ad (ac r a) (ac r b)
 adAc:∀r s a,ac (r+s) a=ad (ac r a) (ac s a)
 acAc:∀r s a,ac r (ac s a)=ac (r*s) a
 acOne:∀a,ac 1 a=a
 zac:∀a,ac 0 a=zo
variable {N:Nat}[NeZero N]{M:Type}
namespace Md
variable (D:Md N M)
def VT(a:M):D.ad a D.zo=a:=by rw[D.comm,D.zadd]
def swap(a b c d:M):D.ad (D.ad a b) (D.ad c d)=D.ad (D.ad a c) (D.ad b d):=by
 rw[D.assoc,<-D.assoc b,D.comm b c,D.assoc c,<-D.assoc]
def acz(r:(Fin N)):D.ac r D.zo=D.zo:=by
 have h:=D.zac D.zo;rw[<-h,D.acAc,show r*0=(0:(Fin N)) by grind]
def sm(f:Nat->M):Nat->M
 | 0=>D.zo
 | n+1=>D.ad (sm f n) (f n)
def nS{f g:Nat->M}:∀n,(∀i,i<n->f i=g i)->D.sm f n=D.sm g n
 | 0,_=>rfl
 | n+1,h=>by
  show D.ad _ _=D.ad _ _;rw[nS n λi k=>h i oM,h n oM]
def Cz(f g:Nat->M):∀n,D.sm (λi=>D.ad (f i) (g i)) n=D.ad (D.sm f n) (D.sm g n)
 | 0=>(D.zadd _).symm
 | n+1=>by
  show D.ad _ _=D.ad (D.ad _ _) (D.ad _ _);rw[Cz f g n,D.swap]
def Ge(r:(Fin N))(f:Nat->M):∀n,D.sm (λi=>D.ac r (f i)) n=D.ac r (D.sm f n)
 | 0=>(D.acz r).symm
 | n+1=>by
  show D.ad _ _=D.ac r (D.ad _ _);rw[Ge r f n,D.acAd]
def JM(f:Nat->M)(n:Nat):∀m,D.sm f (n+m)=D.ad (D.sm f n) (D.sm (λi=>f (n+i)) m)
 | 0=>(D.VT _).symm
 | m+1=>by
  show D.ad (D.sm f (n+m)) _=D.ad _ (D.ad _ _);rw[JM f n m,D.assoc];rfl
instance:Std.Associative D.ad:=⟨D.assoc⟩
instance:Std.Commutative D.ad:=⟨D.comm⟩
def dt(a:Nat->(Fin N))(g:Nat->M)(n:Nat):M:=D.sm (λi=>D.ac (a i) (g i)) n
def E8(a:Nat->(Fin N))(g:Nat->M)(n m:Nat):D.dt a g (n+m)=D.ad (D.dt a g n) (D.dt (λi=>a (n+i)) (λi=>g (n+i)) m):=D.JM _ n m
def E9(x y:(Fin N))(b:x*y=1)(a c:Nat->(Fin N))(g k:Nat->M)(n:Nat):
 D.dt (λi=>x*a i+y*c i) (λi=>D.ad (D.ac y (g i)) (D.ac x (k i))) n
  = D.ad (D.ad (D.ac (x*x) (D.dt a k n)) (D.ad (D.dt a g n) (D.dt c k n))) (D.ac (y*y) (D.dt c g n)):=by
 unfold dt;rw[<-D.Ge,<-D.Ge,<-D.Cz,<-D.Cz,<-D.Cz];refine D.nS n λi _=>?_
 rw[D.acAd,D.acAc,D.acAc,D.acAc,D.acAc,show(x*a i+y*c i)*y=a i+y*y*c i by grind,show(x*a i+y*c i)*x=x*x*a i+c i by grind,D.adAc,D.adAc]
 ac_rfl
def G7(a c:Nat->(Fin N))(g:Nat->M)(n:Nat):D.dt (λi=>a i+c i) g n=D.ad (D.dt a g n) (D.dt c g n):=by
 unfold dt;rw[<-D.Cz];exact D.nS n λi _=>D.adAc _ _ _
def Qm(r:(Fin N))(a:Nat->(Fin N))(g:Nat->M)(n:Nat):D.dt (λi=>r*a i) g n=D.ac r (D.dt a g n):=by
 unfold dt;rw[<-D.Ge];exact D.nS n λi _=>(D.acAc _ _ _).symm
end Md
def own(N:Nat)[NeZero N]:Md N (Fin N) where
 ad:=(·+·)
 zo:=0
 ac:=(·*·)
 comm:=by grind
 assoc:=by grind
 zadd:=by grind
 acAd:=by grind
 adAc:=by grind
 acAc:=by grind
 acOne:=by grind
 zac:=by grind
namespace Md
variable (D:Md N M)
def pr(a b:Nat->(Fin N))(n:Nat):(Fin N):=(own N).dt a b n
def hd(a b:Nat->(Fin N))(g h:Nat->M)(u:M)(n:Nat):M:=D.ad (D.ad (D.dt a g n) (D.dt b h n)) (D.ac (pr a b n) u)
def lf(a b:Nat->(Fin N))(g h:Nat->M)(u:M)(n:Nat):M:=D.hd a (λi=>b (n+i)) (λi=>g (n+i)) h u n
def rt(a b:Nat->(Fin N))(g h:Nat->M)(u:M)(n:Nat):M:=D.hd (λi=>a (n+i)) b g (λi=>h (n+i)) u n
def fS(x y:(Fin N))(n:Nat)(a:Nat->(Fin N))(i:Nat):(Fin N):=x*a i+y*a (n+i)
def fP(x y:(Fin N))(n:Nat)(g:Nat->M)(i:Nat):M:=D.ad (D.ac x (g i)) (D.ac y (g (n+i)))
def halved(x y:(Fin N))(k:x*y=1)(a b:Nat->(Fin N))(g h:Nat->M)(u:M)(n:Nat):
 D.hd (fS x y n a) (fS y x n b) (D.fP y x n g) (D.fP x y n h) u n
  = D.ad (D.ad (D.ac (x*x) (D.lf a b g h u n)) (D.hd a b g h u (n+n))) (D.ac (y*y) (D.rt a b g h u n)):=by
 have d:=D.E9 x y k a (λi=>a (n+i)) g (λi=>g (n+i)) n;have c:=D.E9 y x (by rw[<-k];grind) b (λi=>b (n+i)) h (λi=>h (n+i)) n;have e3:=(own N).E9 x y k a (λi=>a (n+i)) b (λi=>b (n+i)) n;unfold lf rt hd pr;rw[show D.dt (fS x y n a) (D.fP y x n g) n=_ from d,show D.dt (fS y x n b) (D.fP x y n h) n=_ from c,show(own N).dt (fS x y n a) (fS y x n b) n=_ from e3,D.E8,D.E8,(own N).E8];simp only[D.acAd,D.acAc];rw[show(own N).ad ((own N).ad ((own N).ac (x*x) ((own N).dt a (λi=>b (n+i)) n)) ((own N).ad ((own N).dt a b n) ((own N).dt (λi=>a (n+i)) (λi=>b (n+i)) n))) ((own N).ac (y*y) ((own N).dt (λi=>a (n+i)) b n))
  = (x*x*(own N).dt a (λi=>b (n+i)) n+(own N).ad ((own N).dt a b n) ((own N).dt (λi=>a (n+i)) (λi=>b (n+i)) n))+y*y*(own N).dt (λi=>a (n+i)) b n from rfl,D.adAc,D.adAc]
 ac_rfl
def pv{S:Type}(ch:S->M->M->S × (Fin N))(iv:(Fin N)->(Fin N))(u:M):Nat->S->(Nat->(Fin N))->(Nat->(Fin N))->(Nat->M)->(Nat->M)->List (M × M) × (Fin N) × (Fin N)
 | 0,_,a,b,_,_=>([],a 0,b 0)
 | t+1,s,a,b,g,h =>
  let L:=D.lf a b g h u (2^t)
  let T:=D.rt a b g h u (2^t)
  let c:=ch s L T
  let r:=pv ch iv u t c.1 (fS c.2 (iv c.2) (2^t) a) (fS (iv c.2) c.2 (2^t) b) (D.fP (iv c.2) c.2 (2^t) g) (D.fP c.2 (iv c.2) (2^t) h)
  ((L,T) :: r.1,r.2)
def vf{S:Type}(ch:S->M->M->S × (Fin N))(iv:(Fin N)->(Fin N))(u:M)(a b:(Fin N)):List (M × M)->S->M->(Nat->M)->(Nat->M)->Prop
 | [],_,p,g,h=>p=D.ad (D.ad (D.ac a (g 0)) (D.ac b (h 0))) (D.ac (a*b) u)
 | (L,T) :: l,s,p,g,h =>
  let c:=ch s L T
  let x:=c.2
  let y:=iv x
  vf ch iv u a b l c.1 (D.ad (D.ad (D.ac (x*x) L) p) (D.ac (y*y) T)) (D.fP y x (2^l.length) g) (D.fP x y (2^l.length) h)
def Lu(a b:Nat->(Fin N))(g h:Nat->M)(u:M):D.hd a b g h u 1=D.ad (D.ad (D.ac (a 0) (g 0)) (D.ac (b 0) (h 0))) (D.ac (a 0*b 0) u):=by
 show D.ad (D.ad (D.ad D.zo _) (D.ad D.zo _)) (D.ac ((0:(Fin N))+a 0*b 0) u)=_;rw[D.zadd,D.zadd,show(0:(Fin N))+a 0*b 0=a 0*b 0 by grind]
structure Rg(R:Type) where
 l:Nat->R
 m:Nat->R
 s:Nat->R
 q:Nat->R
 Y:Nat->R
 W:Nat->R
 T:Nat->R
 z:R
 x:R
def Rg.Ok(r:Rg (Fin N))(n:Nat):Prop:=∀i,i<n->r.l i*r.m i=0/\r.m i=r.l i-1/\r.Y i*r.W i=1
def Rg.a0(r:Rg (Fin N))(i:Nat):(Fin N):=r.l i-r.z
def Rg.b0(r:Rg (Fin N))(i:Nat):(Fin N):=r.Y i*(r.m i+r.z)+r.z*r.z*r.T i
def Rg.b1(r:Rg (Fin N))(i:Nat):(Fin N):=r.Y i*r.q i
def Rg.a(r:Rg (Fin N))(i:Nat):(Fin N):=r.a0 i+r.s i*r.x
def Rg.b(r:Rg (Fin N))(i:Nat):(Fin N):=r.b0 i+r.b1 i*r.x
def Rg.sY(r:Rg (Fin N))(n:Nat):(Fin N):=(own N).sm r.Y n
def Rg.sT(r:Rg (Fin N))(n:Nat):(Fin N):=(own N).sm r.T n
def Rg.v(r:Rg (Fin N))(n:Nat):(Fin N):=pr r.l r.T n
def Rg.d(r:Rg (Fin N))(n:Nat):(Fin N):=(r.z-r.z*r.z)*r.sY n-r.z*r.z*r.z*r.sT n
def Rg.t1(r:Rg (Fin N))(n:Nat):(Fin N):=pr r.a0 r.b1 n+pr r.s r.b0 n
def Rg.t2(r:Rg (Fin N))(n:Nat):(Fin N):=pr r.s r.b1 n
def wT(a b:Nat->(Fin N))(n:Nat):pr a b (n+1)=pr a b n+a n*b n:=rfl
def Rg.t0(r:Rg (Fin N)):∀n,r.Ok n->pr r.a0 r.b0 n=r.z*r.z*r.v n+r.d n
 | 0,_=>by
  show(0:(Fin N))=r.z*r.z*0+((r.z-r.z*r.z)*0-r.z*r.z*r.z*0);grind
 | n+1,h=>by
  have k:=t0 r n λi f=>h i oM
  obtain⟨d,e,_⟩:=h n oM;have b:r.v (n+1)=r.v n+r.l n*r.T n:=rfl;have c:r.d (n+1)=(r.z-r.z*r.z)*(r.sY n+r.Y n)-r.z*r.z*r.z*(r.sT n+r.T n):=rfl;have e3:r.d n=(r.z-r.z*r.z)*r.sY n-r.z*r.z*r.z*r.sT n:=rfl;rw[wT,k,b,c,e3];unfold Rg.a0 Rg.b0;rw[e]at d⊢;generalize r.v n=A,r.sY n=B,r.sT n=C,r.l n=l,r.Y n=y,r.T n=t,r.z=z at *;grind
def Rg.tt(r:Rg (Fin N)):∀n,pr r.a r.b n=pr r.a0 r.b0 n+r.t1 n*r.x+r.t2 n*r.x*r.x
 | 0=>by
  show(0:(Fin N))=0+(0+0)*r.x+0*r.x*r.x;grind
 | n+1=>by
  have k:=tt r n;have b:r.t1 (n+1)=(pr r.a0 r.b1 n+r.a0 n*r.b1 n)+(pr r.s r.b0 n+r.s n*r.b0 n):=rfl;have c:r.t2 (n+1)=pr r.s r.b1 n+r.s n*r.b1 n:=rfl;have e3:r.t1 n=pr r.a0 r.b1 n+pr r.s r.b0 n:=rfl;have d:r.t2 n=pr r.s r.b1 n:=rfl;rw[wT,k,b,c,e3,d,wT];show _+(r.a0 n+r.s n*r.x)*(r.b0 n+r.b1 n*r.x)=_;generalize pr r.a0 r.b0 n=A,pr r.a0 r.b1 n=B,pr r.s r.b0 n=C,pr r.s r.b1 n=E,r.a0 n=a0,r.b0 n=b0,r.s n=s,r.b1 n=b1,r.x=x;grind
def cm(H G:M)(c r:(Fin N)):M:=D.ad (D.ac c H) (D.ac r G)
def Eb(r:Rg (Fin N))(n:Nat)(h:r.Ok n)(H G:M)(k t1 t2:(Fin N)):
 D.cm H G (pr r.a r.b n) (t1*r.x+t2*(r.x*r.x)+r.z*r.z*k)
  = D.ad (D.ad (D.ac (r.z*r.z) (D.cm H G (r.v n) k)) (D.ac (r.d n) H)) (D.ad (D.ac r.x (D.cm H G (r.t1 n) t1)) (D.ac (r.x*r.x) (D.cm H G (r.t2 n) t2))):=by
 rw[r.tt,r.t0 n h];unfold cm;simp only[D.acAd,D.acAc];rw[show r.z*r.z*r.v n+r.d n+r.t1 n*r.x+r.t2 n*r.x*r.x=r.z*r.z*r.v n+r.d n+r.x*r.t1 n+r.x*r.x*r.t2 n by grind,
  show t1*r.x+t2*(r.x*r.x)+r.z*r.z*k=r.x*t1+r.x*r.x*t2+r.z*r.z*k by grind]
 simp only[D.adAc]
 ac_rfl
def zH{a c:Nat->(Fin N)}{g k:Nat->M}(n:Nat)(h:∀i,i<n->D.ac (a i) (g i)=D.ac (c i) (k i)):D.dt a g n=D.dt c k n:=D.nS n h
def Xx(r:Rg (Fin N))(g:Nat->M)(n:Nat):D.dt r.a g n=D.ad (D.ad (D.dt r.l g n) (D.ac r.x (D.dt r.s g n))) (D.dt (λ_=>-r.z) g n):=by
 rw[<-D.Qm,<-D.G7,<-D.G7];refine D.zH n λi _=>?_
 show D.ac (r.l i-r.z+r.s i*r.x) _=_;rw[show r.l i-r.z+r.s i*r.x=r.l i+r.x*r.s i+-r.z by grind]
def Xw(r:Rg (Fin N))(k:Nat->M)(n:Nat)(h:r.Ok n):D.dt r.b (λi=>D.ac (r.W i) (k i)) n
 = D.ad (D.ad (D.dt r.m k n) (D.ac r.x (D.dt r.q k n))) (D.dt (λi=>r.z+r.z*r.z*(r.T i*r.W i)) k n):=by
 rw[<-D.Qm,<-D.G7,<-D.G7];refine D.zH n λi b=>?_
 obtain⟨_,_,c⟩:=h i b;rw[D.acAc];show D.ac ((r.Y i*(r.m i+r.z)+r.z*r.z*r.T i+r.Y i*r.q i*r.x)*r.W i) _=_;rw[show(r.Y i*(r.m i+r.z)+r.z*r.z*r.T i+r.Y i*r.q i*r.x)*r.W i=r.m i+r.x*r.q i+(r.z+r.z*r.z*(r.T i*r.W i)) by
  generalize r.Y i=y,r.W i=w,r.m i=m,r.q i=q,r.T i=t,r.z=z,r.x=x at *;grind]
def CU(r:Rg (Fin N))(n:Nat)(h:r.Ok n)(G:M)(g k:Nat->M)(U:M)(al b w:(Fin N)):
 D.ad (D.ad (D.ad (D.ad (D.ad (D.ac al G) (D.ad (D.dt r.l g n) (D.dt r.m k n))) (D.ac r.x (D.ad (D.ac b G) (D.ad (D.dt r.s g n) (D.dt r.q k n))))) (D.ac (-(al+b*r.x)) G))
  (D.ad (D.dt (λ_=>-r.z) g n) (D.dt (λi=>r.z+r.z*r.z*(r.T i*r.W i)) k n))) (D.ac (pr r.a r.b n*w) U)
  = D.hd r.a r.b g (λi=>D.ac (r.W i) (k i)) (D.ac w U) n:=by
 unfold hd;rw[D.Xx,D.Xw r k n h,D.acAc];simp only[D.acAd,D.acAc];have e:D.ad (D.ac al G) (D.ad (D.ac (r.x*b) G) (D.ac (-(al+b*r.x)) G))=D.zo:=by
  rw[<-D.adAc,<-D.adAc,show al+(r.x*b+-(al+b*r.x))=(0:(Fin N)) by grind,D.zac]
 generalize D.ac al G=A at *;generalize D.ac (r.x*b) G=B at *;generalize D.ac (-(al+b*r.x)) G=E at *;refine Eq.trans ?_ (D.zadd _);rw[<-e]
 ac_rfl
end Md
end SPA
section
open SPA
variable {P:Nat}[NeZero P]{N:Nat}[NeZero N]
abbrev OnP(P:Nat)[NeZero P]:={p:EC.Pt P // On p}
def aD(C:Fld P)(k:∀r:EC.Pt P,On r->mul N r=none):Md N (OnP P) where
 ad a b:=⟨EC.add a.1 b.1,C.cur.on a.2 b.2⟩
 zo:=⟨none,jD⟩
 ac r a:=⟨mul r.val a.1,cG C.cur a.2 _⟩
 comm a b:=yBd (C.cur.comm a.2 b.2)
 assoc a b c:=yBd (C.cur.assoc a.2 b.2 c.2)
 zadd _:=rfl
 acAd r a b:=yBd (yS C a.2 b.2 _)
 adAc r s a:=yBd (by
  show mul (r+s).val a.1=_;rw[yDv,mul_mod C k a.2,mul_add C.cur a.2])
 acAc r s a:=yBd (by
  show _=mul (r*s).val a.1;rw[yAw,mul_mod C k a.2,YN,mX C.cur a.2])
 acOne a:=yBd (by
  show mul (1:Fin N).val a.1=_;rw[show(1:Fin N).val=1%N from rfl,mul_mod C k a.2];rfl)
 zac a:=yBd (by
  show mul (0:Fin N).val a.1=_;rw[show(0:Fin N).val=0%N from rfl,mul_mod C k a.2];rfl)
omit [NeZero N] in
theorem jS(a b:Fin N):(a+b).val=sPl N a.val b.val:=yDv a b
omit [NeZero N] in
theorem eW(a b:Fin N):(a*b).val=sTi N a.val b.val:=yAw a b
omit [NeZero N] in
theorem KX(a b:Fin N):(a-b).val=sMi N a.val b.val:=by
 rw[Fin.sub_def];show(N-b.val+a.val)%N=(a.val+N-b.val)%N;have:=b.isLt;rw[show N-b.val+a.val=a.val+N-b.val by omega]
omit [NeZero N] in
theorem EL(a:Fin N):(-a).val=sMi N 0 a.val:=by
 rw[Fin.neg_def];show(N-a.val)%N=(0+N-a.val)%N;rw[XQ]
def ivF(a:Fin N):Fin N:=⟨sIn N a.val,Zi _ (yAM N)⟩
def uF{a:Fin N}(h:IsP N)(k:a.val≠0):a*ivF a=1:=by
 apply yA4;have b:=h.1;have hd:¬N ∣ a.val:=λhd=>by
  have:=Nat.le_of_dvd oM hd;have:=a.isLt;omega
 rw[yAw,show(ivF a).val=a.val^(N-2)%N from rfl,Nat.mul_mod_mod,<-Nat.pow_succ',show(N-2).succ=N-1 by omega,h.fermat1 a.val hd];show 1=1%N;rw[Ya oM]
structure Tl(N:Nat)(l:LB)(X:OnP P):Prop where
 pts:PtsL P l
 lt:∀x∈l,x.1<N
 sum:fW P l=X.1
omit [NeZero N] in
theorem Cu(C:Fld P):∀ {l m:LB},PtsL P l->PtsL P m->fW P (l++m)=EC.add (fW P l) (fW P m)
 | [],_,_,_=>rfl
 | x :: r,m,h,hm=>by
  have k:PtsL P r:=λz b=>h z (Yx _ b)
  show EC.add (mul x.1 (gV P x.2)) (fW P (r++m))=EC.add (EC.add _ _) _;rw[Cu C k hm];exact(C.cur.assoc (cG C.cur (h.on C YL) _) (pB C k) (pB C hm)).symm
omit [NeZero N] in
theorem FY(C:Fld P)(k:∀r:EC.Pt P,On r->mul N r=none)(n:Nat):∀ {l:LB},PtsL P l->fW P (l.map (tmT N n))=mul n (fW P l)
 | [],_=>(oI n).symm
 | x :: r,h=>by
  have b:PtsL P r:=λz c=>h z (Yx _ c)
  have hx:=h.on C (x:=x) YL;show EC.add (mul (sTi N n x.1) (gV P x.2)) (fW P (r.map (tmT N n)))=mul n (EC.add (mul x.1 (gV P x.2)) (fW P r));rw[FY C k n b,yS C (cG C.cur hx _) (pB C b)];unfold sTi;rw[mul_mod C k hx,YN,mX C.cur hx]
section
variable (C:Fld P) (hord:∀r:EC.Pt P,EC.On r->EC.mul N r=none)
def Tl.nil:Tl N [] (aD C hord).zo:=⟨λ_ h=>(Yf h).elim,λ_ h=>(Yf h).elim,rfl⟩
def Tl.app{l m:LB}{X Y:OnP P}(h:Tl N l X)(k:Tl N m Y):Tl N (l++m) ((aD C hord).ad X Y):=
 ⟨λx hx=>(Zh.1 hx).elim (h.pts x) (k.pts x),λx hx=>(Zh.1 hx).elim (h.lt x) (k.lt x),by
  rw[Cu C h.pts k.pts,h.sum,k.sum];rfl⟩
def Tl.tm{l:LB}{X:OnP P}(h:Tl N l X)(n:Fin N):Tl N (l.map (tmT N n.val)) ((aD C hord).ac n X):=
 ⟨λx hx=>by
  obtain⟨y,k,rfl⟩:=YD.1 hx;exact h.pts y k,λx hx=>by
  obtain⟨y,k,rfl⟩:=YD.1 hx;exact Zi _ (yAM N),by
  rw[FY C hord n.val h.pts,h.sum];rfl⟩
omit [NeZero N] in
theorem Tl.one(C:Fld P)(k:1<N)(X:OnP P):Tl N [(1,wr X.1)] X:=
 ⟨λx hx=>⟨X.1,X.2,by rw[Ze.1 hx]⟩,λx hx=>by rw[Ze.1 hx];exact k,by
  show EC.add (mul 1 (gV P (wr X.1))) none=_;rw[mJ C X.2,bM];rfl⟩
def dH(N:Nat)(a:Nat->Nat)(T:Nat->LB):Nat->LB
 | 0=>[]
 | n+1=>dH N a T n++(T n).map (tmT N (a n))
def G9{a:Nat->Fin N}{T:Nat->LB}{g:Nat->OnP P}:∀n,(∀i,i<n->Tl N (T i) (g i))->Tl N (dH N (λi=>(a i).val) T n) ((aD C hord).dt a g n)
 | 0,_=>Tl.nil C hord
 | n+1,h=>(G9 n λi k=>h i oM).app C hord ((h n oM).tm C hord (a n))
def fD{a:Nat->Nat}(N:Nat){T:Nat->LB}{c:Nat}:∀n,(∀i,i<n->(T i).length=c)->(dH N a T n).length=c*n
 | 0,_=>rfl
 | n+1,h=>by
  show(dH N a T n++_).length=_;rw[XP,X7,fD N (a:=a) n (λi k=>h i oM),h n oM,yA1]
def lY(N x y n:Nat)(T:Nat->LB)(i:Nat):LB:=(T i).map (tmT N x)++(T (n+i)).map (tmT N y)
def OS{x y:Fin N}{n i:Nat}{T:Nat->LB}{g:Nat->OnP P}(h:∀i,i<n+n->Tl N (T i) (g i))(k:i<n):Tl N (lY N x.val y.val n T i) ((aD C hord).fP x y n g i):=
 ((h i oM).tm C hord x).app C hord ((h (n+i) oM).tm C hord y)
def LO{T:Nat->LB}{N x y n i c:Nat}(h:∀i,i<n+n->(T i).length=c)(k:i<n):(lY N x y n T i).length=c+c:=by
 unfold lY;rw[XP,X7,X7,h i oM,h (n+i) oM]
end
end
section
open SPA
variable {N:Nat}[NeZero N]
def pwF(x:Fin N):Nat->Fin N
 | 0=>1
 | i+1=>pwF x i*x
def Ev{x y:Fin N}(h:x*y=1):∀i,pwF x i*pwF y i=1
 | 0=>by
  show(1:Fin N)*1=1
  grobner
 | i+1=>by
  have k:=Ev h i;show pwF x i*x*(pwF y i*y)=1;generalize pwF x i=a at *;generalize pwF y i=b at *
  grobner
def ofF(N:Nat)[NeZero N](n:Nat):Fin N:=⟨n%N,Zi _ (yAM N)⟩
def sE(a b:Nat):ofF N (a+b)=ofF N a+ofF N b:=yA4 (by
 rw[yDv];show(a+b)%N=(a%N+b%N)%N;rw[Nat.add_mod])
def GA(a b:Nat):ofF N (a*b)=ofF N a*ofF N b:=yA4 (by
 rw[yAw];show(a*b)%N=(a%N*(b%N))%N;rw[Nat.mul_mod])
def oG:ofF N 0=0:=yA4 rfl
def Gz:ofF N 1=1:=yA4 rfl
def Eu:∀i,pwF (ofF N 2) i=ofF N (2^i)
 | 0=>Gz.symm
 | i+1=>by
  show pwF (ofF N 2) i*ofF N 2=_;rw[Eu i,<-GA,Zr]
def btF(N:Nat)[NeZero N](v i:Nat):Fin N:=ofF N (v/2^i%2)
def Mw(v:Nat):∀n,Md.pr (btF N v) (pwF (ofF N 2)) n=ofF N (v%2^n)
 | 0=>by
  rw[Nat.pow_zero,Nat.mod_one];exact oG.symm
 | n+1=>by
  rw[Md.wT,Mw v n,Eu];show _+ofF N _*_=_;rw[<-GA,<-sE,Zr,Nat.mod_mul,YN (2^n)]
def two_sum:∀n,(SPA.own N).sm (pwF (ofF N 2)) n=ofF N (2^n-1)
 | 0=>oG.symm
 | n+1=>by
  show(SPA.own N).sm _ n+_=_;rw[two_sum n,Eu,<-sE];have:=Nat.pow_pos (n:=n) (show 0<2 by decide);rw[show 2^n-1+2^n=2^(n+1)-1 by rw[Zr];omega]
def Vr(v i:Nat):btF N v i=0\/btF N v i=1:=by
 unfold btF;rcases Nat.mod_two_eq_zero_or_one (v/2^i)with h|h<;>rw[h]
 .exact Yk oG
 .exact Yd Gz
def rgF(v:Nat)(s q:Nat->Fin N)(y k z x:Fin N):Md.Rg (Fin N):=⟨btF N v,λi=>btF N v i-1,s,q,pwF y,pwF k,pwF (ofF N 2),z,x⟩
def J6{v n:Nat}{s q:Nat->Fin N}{z x y k:Fin N}(h:y*k=1):(rgF v s q y k z x).Ok n:=λi _=>⟨by
 show btF N v i*(btF N v i-1)=0;rcases Vr (N:=N) v i with e|e<;>rw[e]<;>grobner,rfl,Ev h i⟩
def Uj{v n:Nat}{s q:Nat->Fin N}{y k z x:Fin N}(hv:v<2^n):(rgF v s q y k z x).v n=ofF N v:=by
 show Md.pr (btF N v) (pwF (ofF N 2)) n=_;rw[Mw,Ya hv]
def Uk{v n:Nat}{s q:Nat->Fin N}{y k z x:Fin N}:(rgF v s q y k z x).d n=(z-z*z)*(SPA.own N).sm (pwF y) n-z*z*z*ofF N (2^n-1):=by
 show _-z*z*z*(SPA.own N).sm (pwF (ofF N 2)) n=_;rw[two_sum];rfl
end
namespace SPA
variable {N:Nat}[NeZero N]{M:Type}
namespace Md
variable (D:Md N M)
def BO(p:M):D.ad p (D.ac (-1) p)=D.zo:=by
 have h:=D.adAc 1 (-1) p;rw[show(1:(Fin N))+-1=0 by grind,D.zac,D.acOne]at h;exact h.symm
def QV(e p:M):D.ad e (D.ac (-1) p)=D.zo↔p=e:=by
 constructor
 .intro h;have k:D.ad (D.ad e (D.ac (-1) p)) p=D.ad D.zo p:=by rw[h]
  rw[D.assoc,D.comm _ p,D.BO,D.VT,D.zadd]at k;exact k.symm
 .rintro rfl;exact D.BO p
def Li{a b c:(Fin N)}(k:a*b=1)(d:a*c=1):b=c:=by
 have:b=(a*b)*c+b*(1-a*c):=by grind
 rw[k,d]at this;grind
structure Vs(S M:Type) where
 s:S
 p:M
 g:Nat->M
 h:Nat->M
structure Ps(S R M:Type) where
 s:S
 a:Nat->R
 b:Nat->R
 g:Nat->M
 h:Nat->M
section
variable {S:Type}(ch:S->M->M->S × (Fin N)) (iv:(Fin N)->(Fin N)) (u:M)
def FQ(n:Nat)(L T:M)(v:Vs S M):Vs S M:=
 let c:=ch v.s L T
 ⟨c.1,D.ad (D.ad (D.ac (c.2*c.2) L) v.p) (D.ac (iv c.2*iv c.2) T),D.fP (iv c.2) c.2 n v.g,D.fP c.2 (iv c.2) n v.h⟩
def vst(t:Nat)(L T:Nat->M)(v:Vs S M):Nat->Vs S M
 | 0=>v
 | i+1=>D.FQ ch iv (2^(t-(i+1))) (L i) (T i) (vst t L T v i)
def pL(n:Nat)(q:Ps S (Fin N) M):M:=D.lf q.a q.b q.g q.h u n
def pT(n:Nat)(q:Ps S (Fin N) M):M:=D.rt q.a q.b q.g q.h u n
def rQ(n:Nat)(q:Ps S (Fin N) M):Ps S (Fin N) M:=
 let c:=ch q.s (D.pL u n q) (D.pT u n q)
 ⟨c.1,fS c.2 (iv c.2) n q.a,fS (iv c.2) c.2 n q.b,D.fP (iv c.2) c.2 n q.g,D.fP c.2 (iv c.2) n q.h⟩
def pst(t:Nat)(q:Ps S (Fin N) M):Nat->Ps S (Fin N) M
 | 0=>q
 | i+1=>D.rQ ch iv u (2^(t-(i+1))) (pst t q i)
def pLi(t:Nat)(q:Ps S (Fin N) M)(i:Nat):M:=D.pL u (2^(t-(i+1))) (D.pst ch iv u t q i)
def pTi(t:Nat)(q:Ps S (Fin N) M)(i:Nat):M:=D.pT u (2^(t-(i+1))) (D.pst ch iv u t q i)
def hdP(n:Nat)(q:Ps S (Fin N) M):M:=D.hd q.a q.b q.g q.h u n
def beside(k:∀s L T,(ch s L T).2*iv (ch s L T).2=1)(t:Nat)(q:Ps S (Fin N) M):∀i,i<=t ->
 D.vst ch iv t (D.pLi ch iv u t q) (D.pTi ch iv u t q) ⟨q.s,D.hdP u (2^t) q,q.g,q.h⟩ i
  = ⟨(D.pst ch iv u t q i).s,D.hdP u (2^(t-i)) (D.pst ch iv u t q i),(D.pst ch iv u t q i).g,(D.pst ch iv u t q i).h⟩
 | 0,_=>rfl
 | i+1,hi=>by
  have b:=beside k t q i oM;show D.FQ ch iv _ _ _ (D.vst ch iv t _ _ _ i)=_;rw[b];have e:2^(t-i)=2^(t-(i+1))+2^(t-(i+1)):=by
   rw[show t-i=t-(i+1)+1 by omega,Zr];omega
  show(⟨_,_,_,_⟩:Vs S M)=⟨(D.rQ ch iv u _ (D.pst ch iv u t q i)).s,D.hdP u _ (D.rQ ch iv u _ (D.pst ch iv u t q i)),(D.rQ ch iv u _ (D.pst ch iv u t q i)).g,(D.rQ ch iv u _ (D.pst ch iv u t q i)).h⟩;unfold pLi pTi;generalize D.pst ch iv u t q i=r;rw[e];have h:=D.halved _ _ (k r.s (D.pL u (2^(t-(i+1))) r) (D.pT u (2^(t-(i+1))) r)) r.a r.b r.g r.h u (2^(t-(i+1)))
  congr 1
  exact h.symm
def Nn(a b:(Fin N))(v:Vs S M):Prop:=v.p=D.ad (D.ad (D.ac a (v.g 0)) (D.ac b (v.h 0))) (D.ac (a*b) u)
def found(k:∀s L T,(ch s L T).2*iv (ch s L T).2=1)(t:Nat)(q:Ps S (Fin N) M):
 D.Nn u ((D.pst ch iv u t q t).a 0) ((D.pst ch iv u t q t).b 0) (D.vst ch iv t (D.pLi ch iv u t q) (D.pTi ch iv u t q) ⟨q.s,D.hdP u (2^t) q,q.g,q.h⟩ t):=by
 rw[D.beside ch iv u k t q t (XH _),Nat.sub_self];exact D.Lu _ _ _ _ u
end
end Md
end SPA
section
open SPA
variable {N:Nat}[NeZero N]
def UR{x:Fin N}(h:IsP N)(hx:x.val≠0)(k:(x*x).val≠0):ivF (x*x)=ivF x*ivF x:=by
 refine Md.Li (uF h k) ?_;have e:=uF h hx
 grobner
end
section
open SPA
variable {P:Nat}[NeZero P]{N:Nat}[NeZero N]
def Oy(a:Fin N):Fin N:=if a=0 then 1 else a
def Ox{a:Fin N}(h:1<N):(Oy a).val≠0:=by
 unfold Oy;split
 .show 1%N≠0;rw[Ya h];decide
 .rename_i h0
  exact λe=>h0 (yA4 (e.trans (yBf N).symm))
def kH(b k:List UInt8)(L X Y:Bs):Bs:=wJ (wJ L b X.toList) k Y.toList
def lD(N:Nat)[NeZero N](L:Bs):Fin N:=Oy (ofF N (cha N L))
def aX(L:Bs):Bs:=uS L [99,104,97,108,108,101,110,103,101]
def chF(N:Nat)[NeZero N](L:Bs)(X Y:OnP P):Bs × Fin N:=
 let k:=kH [108,101,102,116] [114,105,103,104,116] L (wr X.1) (wr Y.1)
 (aX k,lD N k)
def Hv{L:Bs}(h:1<N):(lD N L).val≠0:=by
 unfold lD;exact Ox h
def O6(L:Bs)(X Y:OnP P):∃k,(chF N L X Y).2=lD N k:=by
 unfold chF;dsimp only;exact⟨_,rfl⟩
def Mm(h:IsP N)(L:Bs)(X Y:OnP P):(chF N L X Y).2*ivF (chF N L X Y).2=1:=by
 obtain⟨k,e⟩:=O6 (N:=N) L X Y;rw[e];have:=Hv h.1;generalize lD N k=a at *;exact uF h this
def Te(h:IsP N)(L:Bs)(X Y:OnP P):((chF N L X Y).2*(chF N L X Y).2).val≠0:=λe=>by
 have c:=Mm h L X Y;have d:(chF N L X Y).2*(chF N L X Y).2=0:=yA4 (e.trans (yBf N).symm);generalize (chF N L X Y).2=x at *;generalize ivF x=y at *;have b:(1:Fin N)=0:=by grobner
 have k:1%N=0%N:=congrArg Fin.val b;have:=h.1;rw[Ya oM,yBf]at k;exact absurd k dC
def SQ(C:Fld P)(k:∀r:EC.Pt P,On r->mul N r=none)(h:IsP N)(u:OnP P)(t:Nat)(q:Md.Ps Bs (Fin N) (OnP P)):
 (aD C k).Nn u (((aD C k).pst (chF N) ivF u t q t).a 0) (((aD C k).pst (chF N) ivF u t q t).b 0)
  ((aD C k).vst (chF N) ivF t ((aD C k).pLi (chF N) ivF u t q) ((aD C k).pTi (chF N) ivF u t q) ⟨q.s,(aD C k).hdP u (2^t) q,q.g,q.h⟩ t):=
 (aD C k).found (chF N) ivF u (Mm h) t q
end
namespace SPA
variable {N:Nat}[NeZero N]{M:Type}
namespace Md
variable (D:Md N M)
def JG(a b p:M):D.ad (D.ad p a) b=D.ad (D.ad a p) b:=by ac_rfl
end Md
end SPA
section
open SPA
variable {P:Nat}[NeZero P]{N:Nat}[NeZero N]
def Tl.pt(C:Fld P)(k:∀r:EC.Pt P,On r->mul N r=none)(n:Fin N)(X:OnP P):Tl N [(n.val,wr X.1)] ((aD C k).ac n X):=
 ⟨λx hx=>⟨X.1,X.2,by rw[Ze.1 hx]⟩,λx hx=>by rw[Ze.1 hx];exact n.isLt,by
  show EC.add (mul n.val (gV P (wr X.1))) none=_;rw[mJ C X.2,bM];rfl⟩
structure Gd(N n c:Nat)(T:Nat->LB)(g:Nat->OnP P):Prop where
 tl:∀i,i<n->Tl N (T i) (g i)
 len:∀i,i<n->(T i).length=c
section
variable (C:Fld P) (hord:∀r:EC.Pt P,EC.On r->EC.mul N r=none)
def Gd.fold{n c:Nat}{T:Nat->LB}{g:Nat->OnP P}(h:Gd N (n+n) c T g)(x y:Fin N):Gd N n (c+c) (lY N x.val y.val n T) ((aD C hord).fP x y n g):=
 ⟨λi k=>OS C hord h.tl k,λi k=>LO h.len k⟩
def Gd.cmb{n c:Nat}{T:Nat->LB}{g:Nat->OnP P}(h:Gd N n c T g)(a:Nat->Fin N):Tl N (dH N (λi=>(a i).val) T n) ((aD C hord).dt a g n)/\(dH N (λi=>(a i).val) T n).length=c*n:=
 ⟨G9 C hord n h.tl,fD N n h.len⟩
omit [NeZero N] in
theorem Gd.low{n m c:Nat}{T:Nat->LB}{g:Nat->OnP P}(h:Gd N (n+m) c T g):Gd N n c T g:=⟨λi k=>h.tl i oM,λi k=>h.len i oM⟩
omit [NeZero N] in
theorem Gd.high{n m c:Nat}{T:Nat->LB}{g:Nat->OnP P}(h:Gd N (n+m) c T g):Gd N m c (λi=>T (n+i)) (λi=>g (n+i)):=⟨λi k=>h.tl (n+i) oM,λi k=>h.len (n+i) oM⟩
def Ls(N:Nat)(a b:Nat->Nat)(p:Nat)(G H:Nat->LB)(U:LB)(n:Nat):LB:=dH N a G n++dH N b H n++U.map (tmT N p)
def Lr{n c d:Nat}{G H:Nat->LB}{U:LB}{g h:Nat->OnP P}{u:OnP P}(hG:Gd N n c G g)(k:Gd N n c H h)(e:Tl N U u)(hd:U.length=d)(a b:Nat->Fin N):
 Tl N (Ls N (λi=>(a i).val) (λi=>(b i).val) (Md.pr a b n).val G H U n) ((aD C hord).hd a b g h u n)/\(Ls N (λi=>(a i).val) (λi=>(b i).val) (Md.pr a b n).val G H U n).length=c*n+c*n+d:=by
 refine⟨((hG.cmb C hord a).1.app C hord (k.cmb C hord b).1).app C hord (e.tm C hord _),?_⟩;unfold Ls;rw[XP,XP,X7,fD N n hG.len,fD N n k.len,hd]
end
end
section
variable {P:Nat}[NeZero P]{N:Nat}
def BL(W:XF)(q:Option Y4)(n:Nat)(X:Nat->List UInt8):Prop:=0<n->∃g,q=some (aZ g)/\g<W.heap.size/\∀i,i<n->∃a l c,W.cell? ⟨g,i,none⟩=some (.slice a l c)/\PartOk W (.slice a l c) (X i)
structure Ar(w W:XF)(K e n i:Nat)(R:Nat->List XG):Prop where
 bl:kZ w W
 lt:K<W.heap.size
 th:W.there K 0 (e*n)
 rw:∀j,j<i->W.rangeAt K (e*j) (R j)
def Ar.grow{w W W':XF}{K e n i:Nat}{R:Nat->List XG}(h:Ar w W K e n i R)(k:kZ W W'):Ar w W' K e n i R:=
 ⟨h.bl.trans (k.mono h.bl.size),XI h.lt k.size,dJ h.th k h.lt,λj b=>RG.range_below (h.rw j b) k h.lt⟩
def Ar.put{w W:XF}{K e n i:Nat}{R:Nat->List XG}(h:Ar w W K e n i R)(g:w.heap.size<=K)(c:i<n)(b:∀j,j<=i->(R j).length=e):Ar w (W.setCells K (e*i) (R i)) K e n (i+1) R:=by
 refine⟨RG.below_setCells g _ _ _ h.bl,by rw[setCells_size];exact h.lt,Za h.th _ _ _,λj l=>?_⟩;by_cases k:j=i
 .subst k;refine YW W K _ _ λt d=>?_
  rw[b j (XH _)]at d;have f:e*j+e<=e*n:=by
   have:=yAf e (yDO c);rwa[yA1]at this
  have:=h.th (e*j+t) oM;rwa[XQ]at this
 .have f:e*j+e<=e*i:=by
   have:=yAf e (show j+1<=i by omega);rwa[yA1]at this
  exact Yr (h.rw j oM) K _ _ (Yd (Yk (by rw[b j oM];omega)))
def C7{T E:Yj}{e:Nat}(p:prog.underlying T=some (.slice E))(j:(prog.info? E).map (λi=>(i.size,decide (i.bytes<=4000),i.zero.isSome))=some (e,true,true))(n:Nat)(l:n<=512):∃C0:List XG,C0.length=e*n/\∀w:XF,(yAq T (iZ n) (iZ n)).run prog w=.ok (sZ w.heap.size n n) (w.alloc (.cells C0.toArray E)):=by
 obtain⟨i,b,k⟩:=XK.1 j;simp only[Zl.injEq,decide_eq_true_eq]at k;obtain⟨g,m,f⟩:=k;obtain⟨z,c⟩:=YP.1 f;refine⟨(madeCells z.cells (n*e)).toList,by rw[X0,yDs,YN],λw=>?_⟩;have o:(i.bytes:Int)*(n:Int)<=281474976710656:=by
  have:i.bytes*n<=4000*512:=ZP m l;have d:((i.bytes*n:Nat):Int)<=281474976710656:=oM;rwa[yAx]at d
 have:=run_make (P:=prog) w T E i z p b c .i64 .i64 (n:Int) (n:Int) oM oM o oM;rw[yBW,g]at this;rw[yBn];exact this
def Ar.new{w k:XF}{K e n:Nat}{C0:List XG}{E:Yj}(R:Nat->List XG)(c:C0.length=e*n)(b:w.alloc (.cells C0.toArray E)=k)(f:w.heap.size=K):Ar w k K e n 0 R:=by
 subst f;have hR:Row k w.heap.size C0:=by rw[<-b];exact row_new w _ _
 exact⟨by rw[<-b];exact aC _,hR.1,by rw[<-c];exact hR.2.2,λj d=>absurd d (yAh _)⟩
def Ej(O:Ord N)(r:Nat)(L:Bs)(k:ByteArray)(w:XF)(l:k.size<=1048576)(x:hZ w r 0 L)(J:L.size=32):
 cZ 206 #[.agg #[jZ r],.string k] w (Ret λe w'=>SP.Only r 0 32 w w'/\hZ w' r 0 (uS L k.data.toList)/\e=nv (mQ N (DK L k.data.toList 64))):=by
 obtain⟨A,y⟩:=hE (DK L k.data.toList 64);obtain⟨t,c⟩:=yH (uS L k.data.toList);rw[c.out];have H:t.size=32:=c.out▸bD;have z:A.size=64:=y.out▸Jd;rw[y.out];have s:=Holds.lt x oM;obtain⟨g,f⟩:=yH ((w.alloc (.cells #[jZ r] 157)).alloc (.cells #[uZ 0,uZ 0,uZ 0,uZ 0] 44));have D:Hid (Row g (w.heap.size+1) [uZ 0,uZ 0,uZ 0,uZ 0]/\kZ w g/\hZ g r 0 L):=by
  rw[<-f.out];have b:kZ w ((w.alloc (.cells #[jZ r] 157)).alloc (.cells #[uZ 0,uZ 0,uZ 0,uZ 0] 44)):=(aC _).alloc (by rw[XS];omega) _;have hR:=row_new (w.alloc (.cells #[jZ r] 157)) [uZ 0,uZ 0,uZ 0,uZ 0] 44;rw[XS]at hR;exact⟨hR,b,Holds.below x b s⟩
 clear x;go_enter func206,ntmps206;go_wp2_with fail
 rw[f.out];clear f;apply(PK r L k 64 g l dC D.2.2 J).mono;rintro e K ⟨I,rfl,M,G,d,o⟩;rw[y.out]at o;rw[c.out]at d;have C:=Holds.lt d oM;have i:=mk4 (D.1.only G oM) ((SP.Only.of_below D.2.1 rfl s).trans G) o d;go_wp2_with fail
 apply(AK O I A z K (Holds.lt i.2.2.1 oM) i.2.2.1).mono;rintro e F ⟨v,rfl,b,rfl⟩;have q:=mk3 (i.1.below b) (i.2.1.trans (SP.Only.of_below b rfl (XI s i.2.1.size))) (Holds.below i.2.2.2 b C);obtain⟨m,E⟩:=hE (mQ N A);rw[E.out];obtain⟨B,p⟩:=hE (F.setCells (w.heap.size+1) 0 (wn m));have u:Hid (Row B (w.heap.size+1) (wn m)/\SP.Only r 0 32 w B/\hZ B r 0 t):=by
  rw[<-p.out];refine⟨q.1.put rfl,dY q.2.1 s oM,λj n=>?_⟩;have e:=aE (k:=(w.heap.size+1)) (wn m) 0 F r oM;rw[Yb (a:=⟨r,0+j,none⟩) e,Y6 (a:=⟨r,0+j,none⟩) e];exact q.2.2 j n
 obtain⟨P,n⟩:=hE (nv m);rw[n.out];go_wp2_with (refine Yi rfl 44 _ _ rfl (w.heap.size+1) 0 (wn m).toArray ?_ ?_ ?_ ?_ ?_ ?_;rfl;exact n.symm;exact q.1.2.2;exact i40;exact aI;rw[show(wn m).toArray.toList=wn m from rfl,p.out])
 refine XR (aF 4 rfl u.1 rfl u40 i40) rfl ?_;exact⟨_,rfl,u.2.1,u.2.2,by rw[E.out];rfl⟩
def aS{W W':XF}{k:Nat}{vs:List XG}(h:Row W k vs)(c:W.heap.size<=W'.heap.size)(e:W'.heap[k]? = W.heap[k]?):Row W' k vs:=
 ⟨XI h.1 c,λj v b=>by rw[Yb (a:=⟨k,0+j,none⟩) e];exact h.2.1 j v b,λj b=>by rw[Yb (a:=⟨k,0+j,none⟩) e,Y6 (a:=⟨k,0+j,none⟩) e];exact h.2.2 j b⟩
structure Wk(w W:XF)(k7 r:Nat)(L:Bs):Prop where
 bl:kZ w W
 r7:Row W k7 [jZ r]
 lg:hZ W r 0 L
 lr:w.heap.size<=r
 n7:k7≠r
def uS4:prog.underlying 143=some (.slice 44):=kR
def iS4:(prog.info? 44).map (λi=>(i.size,decide (i.bytes<=4000),i.zero.isSome))=some (4,true,true):=kR
end
section
variable {Q Q':Nat->Prop}{W W':XF}{v:XG}{l:List (Nat × Bs)}{n:Nat}
structure Kq(Q:Nat->Prop)(W W':XF):Prop where
 size:W.heap.size<=W'.heap.size
 block:∀g,Q g->g<W.heap.size->W'.heap[g]? = W.heap[g]?
def Kq.of_below(k:kZ W W'):Kq Q W W':=⟨k.size,λg _ h=>k.block g h⟩
def Kq.of_only{r o m:Nat}(k:SP.Only r o m W W')(b:∀g,Q g->g≠r):Kq Q W W':=⟨k.size,λg c d=>k.block g d (b g c)⟩
def Kq.range{g o:Nat}{vs:List XG}(h:Kq Q W W')(k:Q g)(b:g<W.heap.size)(d:W.rangeAt g o vs):W'.rangeAt g o vs:=λj v c=>by
 rw[Yb (a:=⟨g,o+j,none⟩) (h.block g k b)];exact d j v c
def Kq.cell{g o:Nat}{x:XG}(h:Kq Q W W')(k:Q g)(b:g<W.heap.size)(c:W.cell? ⟨g,o,none⟩=some x):W'.cell? ⟨g,o,none⟩=some x:=by
 rw[Yb (a:=⟨g,o,none⟩) (h.block g k b)];exact c
def SmQ(Q:Nat->Prop)(W:XF)(v:XG)(l:LB):Prop:=∃g c,v=sZ g l.length c/\l.length<=c/\Q g/\g<W.heap.size/\W.rangeAt g 0 (aR l)
def SmQ.sm(h:SmQ Q W v l):Sm 0 W v l:=by
 obtain⟨g,c,b,d,-,k⟩:=h;exact⟨g,c,b,d,Zq _,k⟩
def Sm.q{B:Nat}(h:Sm B W v l):SmQ (B<=·) W v l:=h
def SmQ.mono(h:SmQ Q W v l)(b:∀g,Q g->Q' g):SmQ Q' W v l:=by
 obtain⟨g,c,e,f,d,k⟩:=h;exact⟨g,c,e,f,b g d,k⟩
def SmQ.keep(h:SmQ Q W v l)(b:Kq Q W W'):SmQ Q W' v l:=by
 obtain⟨g,c,e,f,d,k,i⟩:=h;exact⟨g,c,e,f,d,XI k b.size,b.range d k i⟩
def SLq(Q:Nat->Prop)(W:XF)(v:XG)(n:Nat)(a:Nat->Nat):Prop:=∃g o c,v=qZ g o n c/\n<=c/\Q g/\g<W.heap.size/\∀j,j<n->W.rangeAt g (o+4*j) (wn (a j))
def SLq.mono{a:Nat->Nat}(h:SLq Q W v n a)(b:∀g,Q g->Q' g):SLq Q' W v n a:=by
 obtain⟨g,o,c,e,f,d,k⟩:=h;exact⟨g,o,c,e,f,b g d,k⟩
def SLq.keep{a:Nat->Nat}(h:SLq Q W v n a)(b:Kq Q W W'):SLq Q W' v n a:=by
 obtain⟨g,o,c,f,i,d,k,l⟩:=h;exact⟨g,o,c,f,i,d,XI k b.size,λj e=>b.range d k (l j e)⟩
def SLq.congr{a b:Nat->Nat}(h:SLq Q W v n a)(e:∀j,j<n->a j=b j):SLq Q W v n b:=by
 obtain⟨g,o,c,f,l,i,d,m⟩:=h;exact⟨g,o,c,f,l,i,d,λj k=>by rw[<-e j k];exact m j k⟩
def GLq(Q:Nat->Prop)(W:XF)(v:XG)(n:Nat)(T:Nat->LB):Prop:=∃g o c,v=qZ g o n c/\n<=c/\Q g/\g<W.heap.size/\∀j,j<n->∃x,W.cell? ⟨g,o+j,none⟩=some x/\SmQ Q W x (T j)
def GLq.mono{T:Nat->LB}(h:GLq Q W v n T)(k:∀g,Q g->Q' g):GLq Q' W v n T:=by
 obtain⟨g,o,c,e,m,f,b,p⟩:=h;refine⟨g,o,c,e,m,k g f,b,λj d=>?_⟩;obtain⟨x,i,l⟩:=p j d;exact⟨x,i,l.mono k⟩
def GLq.keep{T:Nat->LB}(h:GLq Q W v n T)(k:Kq Q W W'):GLq Q W' v n T:=by
 obtain⟨g,o,c,f,m,d,b,p⟩:=h;refine⟨g,o,c,f,m,d,XI b k.size,λj e=>?_⟩;obtain⟨x,i,l⟩:=p j e;exact⟨x,k.cell d b i,l.keep k⟩
structure GRq(Q:Nat->Prop)(W:XF)(v:XG)(n:Nat)(G H:Nat->LB)(U:LB):Prop where
 ex:∃vg vh vu,v=.agg #[vg,vh,vu]/\GLq Q W vg n G/\GLq Q W vh n H/\SmQ Q W vu U
def GRq.mono{G H:Nat->LB}{U:LB}(h:GRq Q W v n G H U)(k:∀g,Q g->Q' g):GRq Q' W v n G H U:=by
 obtain⟨c,d,i,f,j,e,b⟩:=h.ex;exact⟨c,d,i,f,j.mono k,e.mono k,b.mono k⟩
def GRq.keep{G H:Nat->LB}{U:LB}(h:GRq Q W v n G H U)(k:Kq Q W W'):GRq Q W' v n G H U:=by
 obtain⟨b,c,f,e,g,d,i⟩:=h.ex;exact⟨b,c,f,e,g.keep k,d.keep k,i.keep k⟩
structure TOk(N:Nat)(l:LB):Prop where
 sz:∀x∈l,x.2.size=33
 lt:∀x∈l,x.1<N
def TOk.szm{N:Nat}(h:TOk N l):∀x∈l.map (·.2),x.size=33:=λx hx=>by
 obtain⟨y,k,rfl⟩:=YD.1 hx;exact h.sz y k
def TOk.app{N:Nat}{m:LB}(h:TOk N l)(k:TOk N m):TOk N (l++m):=⟨λx hx=>(Zh.1 hx).elim (h.sz x) (k.sz x),λx hx=>(Zh.1 hx).elim (h.lt x) (k.lt x)⟩
def TOk.tm{N:Nat}(c:0<N)(h:TOk N l)(k:Nat):TOk N (l.map (tmT N k)):=⟨λx hx=>by
 obtain⟨y,b,rfl⟩:=YD.1 hx;exact h.sz y b,λx hx=>by
 obtain⟨y,b,rfl⟩:=YD.1 hx;exact Zi _ c⟩
def TOk.nil{N:Nat}:TOk N []:=⟨λ_ h=>(Yf h).elim,λ_ h=>(Yf h).elim⟩
def Tl.ok{P:Nat}[NeZero P]{N:Nat}{X:OnP P}(h:Tl N l X):TOk N l:=⟨λx hx=>by
 obtain⟨X,-,e⟩:=h.pts x hx;rw[e];exact aL _,h.lt⟩
def qE{N:Nat}(k:0<N){a:Nat->Nat}{T:Nat->LB}:∀n,(∀i,i<n->TOk N (T i))->TOk N (dH N a T n)
 | 0,_=>TOk.nil
 | n+1,h=>(qE k n λi b=>h i oM).app ((h n oM).tm k _)
end
namespace RG
variable {P:YO}{ops:Array Yw}{Q:Exit->Act->XF->Prop}{w:XF}{a0:Act}{F:Flow}
def iE{L:Array Bool}{i j:Nat}{o:Yw}(ho:ops[i]? = some o)(k:∀e∈o.after,Y3 .any e=true->on L e.on=true)(c:depOn ops i j=true):on L j=true:=by
 unfold depOn at c;rw[ho]at c;obtain⟨e,d,b⟩:=Array.any_eq_true'.1 c;simp only[XZ,beq_iff_eq]at b;have:=k e d b.1;rw[b.2]at this;exact this
end RG
namespace RG
structure S1 where
 p:XG->XF->Prop
 st:∀v w w',kZ w w'->p v w->p v w'
def pE(v:XG):S1:=⟨λx _=>x=v,λ_ _ _ _ h=>h⟩
def pA:S1:=⟨λ_ _=>True,λ_ _ _ _ h=>h⟩
def pM(Q:Nat->Prop)(l:LB):S1:=⟨λv w=>SmQ Q w v l,λ_ _ _ k h=>h.keep (Kq.of_below k)⟩
def pS(Q:Nat->Prop)(n:Nat)(a:Nat->Nat):S1:=⟨λv w=>SLq Q w v n a,λ_ _ _ k h=>h.keep (Kq.of_below k)⟩
def pG(Q:Nat->Prop)(n:Nat)(T:Nat->LB):S1:=⟨λv w=>GLq Q w v n T,λ_ _ _ k h=>h.keep (Kq.of_below k)⟩
def pR(Q:Nat->Prop)(n:Nat)(G H:Nat->LB)(U:LB):S1:=⟨λv w=>GRq Q w v n G H U,λ_ _ _ k h=>h.keep (Kq.of_below k)⟩
def pI(T:Yj)(p:S1):S1:=⟨λv w=>∃x,v=.iface T x/\p.p x w,λ_ w w' k ⟨x,b,c⟩=>⟨x,b,p.st x w w' k c⟩⟩
def pN(B:Nat)(cs:List XG):S1:=⟨λv w=>∃k,v=jZ k/\B<=k/\Row w k cs,λ_ _ _ b ⟨k,d,e,c⟩=>⟨k,d,e,c.below b⟩⟩
def nth:List S1->Nat->S1
 | [],_=>pA
 | x :: _,0=>x
 | _ :: r,k+1=>nth r k
def gwL(L:List S1)(B:XF->Prop)(k:∀w w',kZ w w'->B w->B w'):Gw:=⟨λi=>(nth L i).p,B,λi=>(nth L i).st,k⟩
variable {P:YO}{ops:Array Yw}{Q:Exit->Act->XF->Prop}{w:XF}{a0:Act}{G:Gw}{k:Nat}{o:Yw}
def Lz(b:List (ZC × XG))(v:XG)(d:∀a W,PreG G ops a0 k o a W->AllE a b)(hR:∀W,G.R k v W)(c:∀W,(cN (b.map (·.1)) o,(Ym (evo (evl b)) o).run P W)=(true,.ok (.value v) W):=by intro _;kernel_rfl):bE P Q G.flow ops a0 k o:=
 bL λa W e=>⟨b,v,W,d a W e,c W,XX _ _,hR W⟩
def U1{t:ZC}{v b:XG}(c:a0.eval (.tmp t)=v)(hR:∀W,G.R k b W)(hf:qL ops k t=true:=by kernel_rfl)(d:∀W,(cN [t] o,(Ym (evo (evl [(t,v)])) o).run P W)=(true,.ok (.value b) W):=by intro _;kernel_rfl):bE P Q G.flow ops a0 k o:=
 Lz [(t,v)] b (λa W e=>⟨(e.o t hf).trans c,yE5⟩) hR d
def sL(j:Nat)(t:ZC)(v b:XG)(d:∀x W,G.R j x W->x=v)(hR:∀W,G.R k b W)(hd:(cQ o j,aV ops j)=(true,some t):=by kernel_rfl)(c:∀W,(cN [t] o,(Ym (evo (evl [(t,v)])) o).run P W)=(true,.ok (.value b) W):=by intro _;kernel_rfl):bE P Q G.flow ops a0 k o:=
 Lz [(t,v)] b (λa W e=>⟨d _ W (e.n j t (congrArg yCg hd) (congrArg yCf hd)),yE5⟩) hR c
def Dk(j:Nat)(t:ZC)(f:XG->XG)(hR:∀x W,G.R j x W->G.R k (f x) W)(hd:(cQ o j,aV ops j)=(true,some t):=by kernel_rfl)(b:∀v W,(cN [t] o,(Ym (evo (evl [(t,v)])) o).run P W)=(true,.ok (.value (f v)) W):=by intro _ _;kernel_rfl):bE P Q G.flow ops a0 k o:=
 bL λa W c=>⟨[(t,a.eval (.tmp t))],_,W,⟨rfl,yE5⟩,b _ W,XX _ _,hR _ W (c.n j t (congrArg yCg hd) (congrArg yCf hd))⟩
def BZ{f:XG}{I:Sem XG}(j:Nat)(t:ZC)(c:Nat)(b:ZC)(v u:XG)(i:∀W,I.run P W=.ok f W)(l:∀x W,G.R j x W->x=v)(d:∀x W,G.R c x W->x=u)(hR:∀W,G.R k f W)(hd:((cQ o j,aV ops j),(cQ o c,aV ops c))=((true,some t),(true,some b)):=by kernel_rfl)(e:(cN [t,b] o,Ym (evo (evl [(t,v),(b,u)])) o)=(true,I >>= λv=>pure (ZW v)):=by kernel_rfl):bE P Q G.flow ops a0 k o:=
 bL λa W g=>⟨[(t,v),(b,u)],f,W,⟨l _ W (g.n j t (congrArg (·.1.1) hd) (congrArg (·.1.2) hd)),d _ W (g.n c b (congrArg (·.2.1) hd) (congrArg (·.2.2) hd)),yE5⟩,by
  rw[Zl.injEq]at e⊢;refine⟨e.1,?_⟩;rw[e.2,X6,i W];rfl,XX _ _,hR W⟩
def EV{c:XG}{I:Sem XG}(j:Nat)(t:ZC)(v:XG)(e:∀W,I.run P W=.ok c W)(d:∀x W,G.R j x W->x=v)(hR:∀W,G.R k c W)(hd:(cQ o j,aV ops j)=(true,some t):=by kernel_rfl)(b:(cN [t] o,Ym (evo (evl [(t,v)])) o)=(true,I >>= λv=>pure (ZW v)):=by kernel_rfl):bE P Q G.flow ops a0 k o:=
 bL λa W f=>⟨[(t,v)],c,W,⟨d _ W (f.n j t (congrArg yCg hd) (congrArg yCf hd)),yE5⟩,by
  rw[Zl.injEq]at b⊢;refine⟨b.1,?_⟩;rw[b.2,X6,e W];rfl,XX _ _,hR W⟩
def fC{T:Yj}(j:Nat)(t:ZC)(g off:Nat)(x:XG)(f:(P.underlying T).map (·.isRow)=some false)(d:∀x W,G.R j x W->x=oZ g off)(e:∀W,G.B W->W.cell? ⟨g,off,none⟩=some x)(hR:∀W,G.R k x W)(hd:(cQ o j,aV ops j)=(true,some t):=by kernel_rfl)(ho:o.op=.load T (.tmp t):=by rfl):bE P Q G.flow ops a0 k o:=
 nE λa W b=>by
  have c:=tX b;refine⟨x,W,?_,XX _ _,hR W⟩;unfold Ym;rw[ho];dsimp only;rw[d _ W (c.n j t (congrArg yCg hd) (congrArg yCf hd)),X6,eN (e W c.b) f];rfl
def U2{T:Yj}{j g off:Nat}{cs:List XG}(t:ZC)(f:(P.underlying T).map (·.isRow)=some true)(c:(P.info? T).map (·.size)=some cs.length)(d:∀x W,G.R j x W->x=oZ g off)(e:∀W,G.B W->W.rangeAt g off cs)(hR:∀W,G.R k (.agg cs.toArray) W)(hd:(cQ o j,aV ops j)=(true,some t):=by kernel_rfl)(ho:o.op=.load T (.tmp t):=by rfl):bE P Q G.flow ops a0 k o:=
 jF t ho f λa W b=>⟨g,off,cs,d _ W (b.n j t (congrArg yCg hd) (congrArg yCf hd)),e W b.b,c,hR W⟩
def iU{T:Yj}{cs:List XG}(t:ZC)(g off:Nat)(f:(P.underlying T).map (·.isRow)=some true)(d:(P.info? T).map (·.size)=some cs.length)(c:a0.eval (.tmp t)=oZ g off)(e:∀W,G.B W->W.rangeAt g off cs)(hR:∀W,G.R k (.agg cs.toArray) W)(hf:qL ops k t=true:=by kernel_rfl)(ho:o.op=.load T (.tmp t):=by rfl):bE P Q G.flow ops a0 k o:=
 jF t ho f λa W b=>⟨g,off,cs,(b.o t hf).trans c,e W b.b,d,hR W⟩
def SJ{T:Yj}(t:ZC)(g off:Nat)(x:XG)(f:(P.underlying T).map (·.isRow)=some false)(d:a0.eval (.tmp t)=oZ g off)(e:∀W,G.B W->W.cell? ⟨g,off,none⟩=some x)(hR:∀W,G.R k x W)(hf:qL ops k t=true:=by kernel_rfl)(ho:o.op=.load T (.tmp t):=by rfl):bE P Q G.flow ops a0 k o:=
 nE λa W b=>by
  have c:=tX b;refine⟨x,W,?_,XX _ _,hR W⟩;unfold Ym;rw[ho];dsimp only;rw[c.o t hf,d,X6,eN (e W c.b) f];rfl
def uG(cs:List XG)(T:Yj)(hR:∀W W':XF,Row W' W.heap.size cs->G.B W->G.R k (jZ W.heap.size) W')(b:∀W,(cN [] o,(Ym (evo (evl [])) o).run P W)=(true,.ok (.value (jZ W.heap.size)) (W.alloc (.cells cs.toArray T))):=by intro _;kernel_rfl):bE P Q G.flow ops a0 k o:=
 bL λa W c=>⟨[],_,_,trivial,b W,aC _,hR W _ (row_new W cs T) c.b⟩
def Qj(f:ZZ)(args:Array XG)(d:∀W,G.B W->ZI P f args W (rZ W λe W'=>G.R k e W'))(b:∀W,(cN [] o,(Ym (evo (evl [])) o).run P W)=(true,.ok (.enter f args) W):=by intro _;kernel_rfl):bE P Q G.flow ops a0 k o:=
 gC λa W c=>⟨[],f,args,trivial,b W,d W c.b⟩
def oL(j:Nat)(t:ZC)(f:ZZ)(args:XG->Array XG)(d:∀x W,G.R j x W->G.B W->ZI P f (args x) W (rZ W λe W'=>G.R k e W'))(hd:(cQ o j,aV ops j)=(true,some t):=by kernel_rfl)(c:∀x W,(cN [t] o,(Ym (evo (evl [(t,x)])) o).run P W)=(true,.ok (.enter f (args x)) W):=by intro _ _;kernel_rfl):bE P Q G.flow ops a0 k o:=
 gC λa W b=>⟨[(t,a.eval (.tmp t))],f,_,⟨rfl,yE5⟩,c _ W,d _ W (b.n j t (congrArg yCg hd) (congrArg yCf hd)) b.b⟩
def eF(j:Nat)(t:ZC)(c:Nat)(b:ZC)(f:ZZ)(args:XG->XG->Array XG)(i:∀x y W,G.R j x W->G.R c y W->G.B W->ZI P f (args x y) W (rZ W λe W'=>G.R k e W'))(hd:((cQ o j,aV ops j),(cQ o c,aV ops c))=((true,some t),(true,some b)):=by kernel_rfl)(g:∀x y W,(cN [t,b] o,(Ym (evo (evl [(t,x),(b,y)])) o).run P W)=(true,.ok (.enter f (args x y)) W):=by intro _ _ _;kernel_rfl):bE P Q G.flow ops a0 k o:=
 gC λa W d=>⟨[(t,a.eval (.tmp t)),(b,a.eval (.tmp b))],f,_,⟨rfl,rfl,yE5⟩,g _ _ W,i _ _ W (d.n j t (congrArg (·.1.1) hd) (congrArg (·.1.2) hd)) (d.n c b (congrArg (·.2.1) hd) (congrArg (·.2.2) hd)) d.b⟩
def nJ(j:Nat)(t:ZC)(i:Nat)(d:ZC)(c:Nat)(b:ZC)(f:ZZ)(args:XG->XG->XG->Array XG)(m:∀x y z W,G.R j x W->G.R i y W->G.R c z W->G.B W->ZI P f (args x y z) W (rZ W λe W'=>G.R k e W'))(hd:((cQ o j,aV ops j),(cQ o i,aV ops i),(cQ o c,aV ops c))=((true,some t),(true,some d),(true,some b)):=by kernel_rfl)(l:∀x y z W,(cN [t,d,b] o,(Ym (evo (evl [(t,x),(d,y),(b,z)])) o).run P W)=(true,.ok (.enter f (args x y z)) W):=by intro _ _ _ _;kernel_rfl):bE P Q G.flow ops a0 k o:=
 gC λa W g=>⟨[(t,a.eval (.tmp t)),(d,a.eval (.tmp d)),(b,a.eval (.tmp b))],f,_,⟨rfl,rfl,rfl,yE5⟩,l _ _ _ W,m _ _ _ W (g.n j t (congrArg (·.1.1) hd) (congrArg (·.1.2) hd)) (g.n i d (congrArg (·.2.1.1) hd) (congrArg (·.2.1.2) hd)) (g.n c b (congrArg (·.2.2.1) hd) (congrArg (·.2.2.2) hd)) g.b⟩
def qK(T:Yj)(j:Nat)(t:ZC)(c:Nat)(b:ZC)(p:S1)(f:ZZ)(i:∀x W,G.R j x W->(pI T p).p x W)(l:∀x y W,p.p x W->G.R c y W->G.B W->ZI P f #[x,y] W (rZ W λe W'=>G.R k e W'))(hd:((cQ o j,aV ops j),(cQ o c,aV ops c))=((true,some t),(true,some b)):=by kernel_rfl)(g:∀x y W,(cN [t,b] o,(Ym (evo (evl [(t,.iface T x),(b,y)])) o).run P W)=(true,.ok (.enter f #[x,y]) W):=by intro _ _ _;kernel_rfl):bE P Q G.flow ops a0 k o:=
 gC λa W d=>by
  obtain⟨x,e,hx⟩:=i _ W (d.n j t (congrArg (·.1.1) hd) (congrArg (·.1.2) hd));exact⟨[(t,.iface T x),(b,a.eval (.tmp b))],f,_,⟨e,rfl,yE5⟩,g _ _ W,l _ _ W hx (d.n c b (congrArg (·.2.1) hd) (congrArg (·.2.2) hd)) d.b⟩
end RG
namespace RG
variable {P:YO}{ops:Array Yw}{Q:Exit->Act->XF->Prop}{w:XF}{a0:Act}{G:Gw}{k:Nat}{o:Yw}{T:Yj}{g off:Nat}{cs:List XG}{v u v' z:XG}{I:Sem XG}{f:ZZ}{t:ZC}
def gO(t:ZC)(v:XG)(b:a0.eval (.tmp t)=v:=by kernel_rfl)(hR:∀W,G.R k v W:=by exact λ_=>rfl)(hf:qL ops k t=true:=by kernel_rfl)(c:∀W,(cN [t] o,(Ym (evo (evl [(t,v)])) o).run P W)=(true,.ok (.value v) W):=by intro _;kernel_rfl):bE P Q G.flow ops a0 k o:=U1 b hR hf c
def gP(t:ZC)(v b:XG)(c:a0.eval (.tmp t)=v:=by kernel_rfl)(hR:∀W,G.R k b W:=by exact λ_=>rfl)(hf:qL ops k t=true:=by kernel_rfl)(d:∀W,(cN [t] o,(Ym (evo (evl [(t,v)])) o).run P W)=(true,.ok (.value b) W):=by intro _;kernel_rfl):bE P Q G.flow ops a0 k o:=U1 c hR hf d
def gLo(t:ZC)(e:∀W,G.B W->W.rangeAt g off cs)(d:(P.underlying T).map (·.isRow)=some true)(c:(P.info? T).map (·.size)=some cs.length)(b:a0.eval (.tmp t)=oZ g off:=by kernel_rfl)(hR:∀W,G.R k (.agg cs.toArray) W:=by exact λ_=>rfl)(hf:qL ops k t=true:=by kernel_rfl)(ho:o.op=.load T (.tmp t):=by rfl):bE P Q G.flow ops a0 k o:=iU t g off d c b e hR hf ho
def gLr(j:Nat)(t:ZC)(e:∀W,G.B W->W.rangeAt g off cs)(d:(P.underlying T).map (·.isRow)=some true)(c:(P.info? T).map (·.size)=some cs.length)(b:∀x W,G.R j x W->x=oZ g off:=by exact λ_ _ h=>h)(hR:∀W,G.R k (.agg cs.toArray) W:=by exact λ_=>rfl)(hd:(cQ o j,aV ops j)=(true,some t):=by kernel_rfl)(ho:o.op=.load T (.tmp t):=by rfl):bE P Q G.flow ops a0 k o:=U2 t d c b e hR hd ho
def gX(j:Nat)(t:ZC)(b:Nat)(c:ZC)(f:∀W,I.run P W=.ok v' W)(g:∀x W,G.R j x W->x=v:=by exact λ_ _ h=>h)(d:∀x W,G.R b x W->x=u:=by exact λ_ _ h=>h)(hR:∀W,G.R k v' W:=by exact λ_=>rfl)(hd:((cQ o j,aV ops j),(cQ o b,aV ops b))=((true,some t),(true,some c)):=by kernel_rfl)(e:(cN [t,c] o,Ym (evo (evl [(t,v),(c,u)])) o)=(true,I >>= λv=>pure (ZW v)):=by kernel_rfl):bE P Q G.flow ops a0 k o:=BZ j t b c v u f g d hR hd e
def gC2(j:Nat)(t:ZC)(c:Nat)(b:ZC)(m:∀W,ZI P f #[v,u] W (rZ W λe W'=>e=v'))(p:∀x W,G.R j x W->x=v:=by exact λ_ _ h=>h)(d:∀x W,G.R c x W->x=u:=by exact λ_ _ h=>h)(hR:∀W,G.R k v' W:=by exact λ_=>rfl)(hd:((cQ o j,aV ops j),(cQ o c,aV ops c))=((true,some t),(true,some b)):=by kernel_rfl)(i:∀x y W,(cN [t,b] o,(Ym (evo (evl [(t,x),(b,y)])) o).run P W)=(true,.ok (.enter f #[x,y]) W):=by intro _ _ _;kernel_rfl):bE P Q G.flow ops a0 k o:=
 eF j t c b f (λx y=>#[x,y]) (λx y W g l _=>by
  rw[p x W g,d y W l];apply(m W).mono;rintro e W' ⟨a,rfl,n,rfl⟩;exact⟨_,rfl,n,hR W'⟩) hd i
end RG
section
variable {P:Nat}[NeZero P]{N:Nat}
def OY(s:ByteArray)(w:XF):
 ∃cap w',(convert 9 23 (.string s)).run prog w=.ok (sZ w.heap.size s.size cap) w'/\s.size<=cap/\kZ w w'/\hZ w' w.heap.size 0 s.data/\w.heap.size<w'.heap.size:=by
 have h:=Lib.run_convert_string_bytes (P:=prog) w 9 23 5 s str9 slice22 int5;have b:s.size<=grownCap w s.size 0 5:=by
  unfold grownCap Question.cut;exact Nat.le_add_right _ _
 have l:s.data.size=s.size:=rfl;refine⟨_,_,h,b,?_,?_,by rw[yCl];omega⟩
 .refine⟨?_,?_,?_,?_,λk c=>Lib.bytesWorld_at_old w 5 s k c⟩
  .unfold yBH yBQ;rw[yE4 dC];rfl
  .unfold yBH yBQ;rw[yE4 dC];rfl
  .unfold yBH yBQ;rw[yE4 dC];rfl
  .rw[yCl];omega
 .intro j g;have f:=Lib.bytesWorld_at_new w 5 s;have d:(yAT w 5 s).size=grownCap w s.size 0 5:=by
   unfold yAT;rw[Ys,Array.size_map,X8];omega
  have i:(yAT w 5 s)=(s.data++XW (grownCap w s.size 0 5-s.size) 0).map encB:=by
   unfold yAT;rw[Array.map_append,Array.map_replicate];rfl
  have e:j<(s.data++XW (grownCap w s.size 0 5-s.size) 0).size:=by rw[Ys,X8];omega
  have c:(s.data++XW (grownCap w s.size 0 5-s.size) 0)[j]=s.data[j]!:=by
   rw[Array.getElem_append_left g,getElem!_pos s.data j g]
  constructor
  .unfold YY;rw[f];simp only[XQ];rw[yE4 dC,i,Array.getElem?_map,Ye e,yAy,c]
  .unfold Zt;rw[f];simp only[XQ,d];simp;omega
end
section
def hf(n:Nat):Nat:=2^yEk (n-1)
def Lt{n:Nat}(h:2<=n):1<=hf n/\hf n<n/\n<=2*hf n:=by
 unfold hf;have k:n-1≠0:=oM;have d:=Nat.log2_self_le k;have b:=Nat.lt_log2_self (n:=n-1);rw[Zr]at b;have c:=Nat.two_pow_pos (yEk (n-1));omega
def De(b:Bs):Bs:=iY [108,101,97,102] [b.toList]
def oH(x y:Bs):Bs:=iY [110,111,100,101] [x.toList,y.toList]
section
variable {P:YO}{ops:Array Yw}{rest:List Yw}{op:Yw}{a:Act}{w:XF}{Q:Exit->Act->XF->Prop}
def qO{c:XG}(v:XG)(k:op.guard=none)(t:ZC)(T:Yj)(ho:op.op=.index T (.const c) (.tmp t))(d:(yBE T c (a.eval (.tmp t))).run P w=.ok v w)(h:wpList P ops Q rest (a.put op.dst v) w):wpList P ops Q (op :: rest) a w:=
 ZT k λK b=>by
  unfold Y8;have:(Ym a.eval op).run P w=.ok (.value v) w:=by
   unfold Ym;rw[ho];show((yBE T c (a.eval (.tmp t))) >>= λv=>pure (ZW v)).run P w=_;rw[X6,d];rfl
  rw[this];exact b _ _ h
end
def BU{s:ByteArray}{y n:Nat}{w:XF}(b:y<s.size)(c:((s[y]'b).toNat)=n):(yBE 9 (.string s) (.int .u8 y)).run prog w=.ok (.int .u8 n) w:=by
 rw[run_index_string (t:=9) (s:=s) (k:=.u8) (i:=(y:Int)) (h:=str9)];subst c;simp[b]
def OJ(x:Nat)(hx:x<1048576)(w:XF):cZ 194 #[uZ x] w λe w'=>e=.returned (iZ (bitLen x:Int))/\w'=w:=by
 have g1:¬(4294967296:Int)<=(x:Int):=oM;by_cases h16:65536<=x
 .have g2:(65536:Int)<=(x:Int):=oM;obtain⟨y,hy⟩:=yH (x/65536);have hy':=hy.out;have hy0:(x:Int)/65536=(y:Int):=oM;have hy1:y<256:=oM;have g3:¬(256:Int)<=(y:Int):=oM;have g4:(y:Int)%256=(y:Int):=oM;have hb:=bitLen_shift x 16 (by show x/65536≠0;omega);have hb':bitLen x=16+bitLen y:=by rw[hb];show 16+bitLen (x/65536)=_;rw[hy']
  have h8:=bitLen_le8 y hy1;have HH:Hid (bitLen x=16+bitLen y/\bitLen y<=8):=⟨hb',h8⟩
  clear hb hb' h8 hy';go_enter func194,ntmps194;go_wp2_with (refine qO (.int .u8 (bitLen y:Int)) rfl 21 9 rfl ?_ ?_;(refine BU (y:=y) (n:=(bitLen y)) ?_ ?_ (w:=w);exact hy1;exact len8tab_get y hy1))
  go_ret;refine⟨congrArg yBP (congrArg (Y1 Yt) ?_),rfl⟩;have h1:=HH.1;have h2:=HH.2;rw[h1];simp only[wrap64];omega
 .have g2:¬(65536:Int)<=(x:Int):=oM;by_cases h8:256<=x
  .have g3:(256:Int)<=(x:Int):=oM;obtain⟨y,hy⟩:=yH (x/256);have hy':=hy.out;have hy0:(x:Int)/256=(y:Int):=oM;have hy1:y<256:=oM;have g4:(y:Int)%256=(y:Int):=oM;have hb:=bitLen_shift x 8 (by show x/256≠0;omega);have hb':bitLen x=8+bitLen y:=by rw[hb];show 8+bitLen (x/256)=_;rw[hy']
   have h8:=bitLen_le8 y hy1;have HH:Hid (bitLen x=8+bitLen y/\bitLen y<=8):=⟨hb',h8⟩
   clear hb hb' h8 hy';go_enter func194,ntmps194;go_wp2_with (refine qO (.int .u8 (bitLen y:Int)) rfl 21 9 rfl ?_ ?_;(refine BU (y:=y) (n:=(bitLen y)) ?_ ?_ (w:=w);exact hy1;exact len8tab_get y hy1))
   go_ret;refine⟨congrArg yBP (congrArg (Y1 Yt) ?_),rfl⟩;have h1:=HH.1;have h2:=HH.2;rw[h1];simp only[wrap64];omega
  .have hx1:x<256:=oM;have g3:¬(256:Int)<=(x:Int):=oM;have g4:(x:Int)%256=(x:Int):=oM;have HH:Hid (bitLen x<=8):=bitLen_le8 x hx1;go_enter func194,ntmps194;go_wp2_with (refine qO (.int .u8 (bitLen x:Int)) rfl 21 9 rfl ?_ ?_;(refine BU (y:=x) (n:=(bitLen x)) ?_ ?_ (w:=w);exact hx1;exact len8tab_get x hx1))
   go_ret;refine⟨congrArg yBP (congrArg (Y1 Yt) ?_),rfl⟩;have h2:=HH.out;simp only[wrap64];omega
def UN(x:Nat)(hx:x<1048576)(w:XF):cZ 153 #[uZ x] w λe w'=>e=.returned (iZ (bitLen x:Int))/\w'=w:=by
 go_enter func153,ntmps153;go_wp2_with fail
 apply(OJ x hx w).mono;rintro e w' ⟨rfl,rfl⟩;go_wp2_with fail
 go_ret;exact⟨rfl,rfl⟩
def SG(n:Nat)(h2:2<=n)(hn:n<=1048576)(w:XF):cZ 97 #[iZ n] w λe w'=>e=.returned (iZ (hf n:Int))/\w'=w:=by
 obtain⟨x,hx⟩:=yH (n-1);have hx':=hx.out;have e1:(n:Int)-1=(x:Int):=oM;have hl:=UN x oM w;obtain⟨k,hk⟩:=yH (yEk x);have hbl:bitLen x=k+1:=by unfold bitLen;rw[yE4 oM,hk.out]
 have hk20:k<20:=by rw[<-hk.out];exact(Nat.log2_lt oM).2 oM
 rw[hbl]at hl;have HF:Hid (hf n=2^k):=by show _=_;unfold hf;rw[hx',hk.out]
 clear hx' hbl;go_enter func97,ntmps97;go_wp2_with fail
 refine hl.mono ?_;rintro e w' ⟨rfl,rfl⟩;go_wp2;go_ret;refine⟨congrArg yBP (congrArg (Y1 Yt) ?_),rfl⟩;have h1:2^k<=2^19:=Nat.pow_le_pow_right dC oM;have h2:((2^k:Nat):Int)=(2:Int)^k:=by simp
 rw[HF.out,<-h2];generalize 2^k=m at h1⊢;show wrap64 _=_;unfold wrap64;omega
end
section
variable {P:Nat}[NeZero P]{N:Nat}
def Kh{w:XF}{r:Nat}{l:List UInt8}{k:List (List UInt8)}(h:hZ w r 0 (iY l k)):PartOk w (sZ r 32 32) (iY l k).toList:=
 ⟨_,r,0,32,iY l k,by rw[bV],rfl,by rw[bV];exact XH _,by rw[bV];decide,Yd ⟨rfl,h⟩⟩
def An(w:XF)(v:XG)(b:List UInt8):Prop:=(∃q n c,v=.slice q n c)/\PartOk w v b
def Lists(w:XF)(q:Option Y4)(n:Nat)(S:Nat->Bs):Prop:=0<n->∃k b,q=some ⟨k,b,none⟩/\k<w.heap.size/\∀j,j<n->∃v,w.cell? ⟨k,b+j,none⟩=some v/\An w v (S j).toList
def Lists.below{w f:XF}{q:Option Y4}{n:Nat}{S:Nat->Bs}(h:Lists w q n S)(k:kZ w f):Lists f q n S:=λo=>by
 obtain⟨e,b,l,d,m⟩:=h o;refine⟨e,b,l,XI d k.size,λj i=>?_⟩;obtain⟨v,g,c⟩:=m j i;exact⟨v,by rw[k.cell (p:=⟨e,b+j,none⟩) d];exact g,c.1,c.2.below k⟩
def Lists.less{w:XF}{q:Option Y4}{n m:Nat}{S:Nat->Bs}(h:Lists w q n S)(g:m<=n):Lists w q m S:=λi=>by
 obtain⟨e,k,b,d,c⟩:=h oM;exact⟨e,k,b,d,λj f=>c j oM⟩
def Hid.mk2{p:Prop}(h:p):Hid p:=h
def Ix{w:XF}:PartOk w nZ (#[]:Bs).toList:=⟨none,0,0,0,#[],rfl,rfl,XH _,dC,Yk rfl⟩
def gB(n:Nat):Bs:=#[bH n 16777216,bH n 65536,bH n 256,bH n 1]
def Mk(k:Bs)(n:Nat):Bs:=iY [99,104,105,108,100] [k.toList,(gB n).toList]
def UQ(k:Bs)(l:List UInt8):Bs:=iY [107,101,121] [k.toList,l]
def zK(S:Nat->Nat)(k:Bs):Nat->Bs
 | 0=>k
 | j+1=>Mk (zK S k j) (S j)
def zL(S:Nat->Nat)(k:Bs)(n:Nat)(l:List UInt8):Bs:=UQ (zK S k n) l
def IC(n:Nat)(m:n<4294967296)(w:XF):cZ 150 #[.int .u32 n] w (rZ w λe w'=>∃r,e=sZ r 4 4/\hZ w' r 0 (gB n)):=by
 have b:(n:Int)/16777216%256=SP.ub (bH n 16777216):=fB;have b0:(n:Int)/16777216=SP.ub (bH n 16777216):=oM;clear b;have b1:(n:Int)/65536%256=SP.ub (bH n 65536):=fB;have l:(n:Int)/256%256=SP.ub (bH n 256):=fB;have o:(n:Int)%256=SP.ub (bH n 1):=sF n;have j:=rA w (bH n 16777216) (bH n 65536) (bH n 256) (bH n 1);have i:Hid (gB n=#[bH n 16777216,bH n 65536,bH n 256,bH n 1]):=rfl;generalize bH n 16777216=c at *;generalize bH n 65536=f at *;generalize bH n 256=g at *;generalize bH n 1=d at *;have k:kZ w (w.alloc (.cells #[.int .u8 (SP.ub c),.int .u8 (SP.ub f),.int .u8 (SP.ub g),.int .u8 (SP.ub d)] 5)):=(XX _ _).alloc (XH _) _;go_enter func150,ntmps150;go_wp2;go_ret;refine⟨_,rfl,k,_,rfl,?_⟩;rw[i.out];exact j
def DW(w:XF)(q:Option Y4)(n:Nat)(S:Nat->Nat):Prop:=(∀j,j<n->S j<4294967296)/\(0<n->∃k b,q=some ⟨k,b,none⟩/\k<w.heap.size/\∀j,j<n->w.cell? ⟨k,b+j,none⟩=some (.int .u32 (S j:Int)))
def EA{w:XF}{r n:Nat}(h:hZ w r 0 (gB n)):PartOk w (sZ r 4 4) (gB n).toList:=
 ⟨_,r,0,4,gB n,rfl,rfl,XH _,YM rfl,Yd ⟨rfl,h⟩⟩
def T8{q l:Option Y4}{n c g i:Nat}{x y:List UInt8}{w:XF}(k:ByteArray)(d:k.size<=1048576)(hv:PartOk w (.slice q n c) x)(f:PartOk w (.slice l g i) y):
 cZ 46 #[.string k,sZ w.heap.size 2 2] (w.alloc (.cells #[.slice q n c,.slice l g i] 23)) λe w'=>∃r,e=.returned (sZ r 32 32)/\w.heap.size<=r/\kZ w w'/\hZ w' r 0 (iY k.data.toList [x,y]):=by
 have b:=Made.alloc w [.slice q n c,.slice l g i] 23;refine(kU k (some (aZ w.heap.size)) 2 [x,y] _ d (YM rfl) (Yd ⟨_,_,rfl,λj t=>?_⟩)).mono ?_
 .have m:j=0\/j=1:=by simp at t;omega
  rcases m with rfl|rfl
  .exact⟨_,b.range 0 _ rfl,hv.below b.bel⟩
  .exact⟨_,b.range 1 _ rfl,f.below b.bel⟩
 .rintro e u ⟨r,rfl,o,s,p⟩;have m:=b.bel.size;exact⟨r,rfl,XN m o,b.bel.trans (s.mono m),p⟩
def IM(D:Option Y4)(F sc:Nat)(k:Bs)(b:ByteArray)(u:b.size<=65536)(q:Option Y4)(n c:Nat)(S:Nat->Nat)(w:XF)(X:n<=1048576)(J:PartOk w (.slice D F sc) k.toList)(L:DW w q n S):
 cZ 93 #[.slice D F sc,.string b,.slice q n c] w (rZ w λe w'=>∃r,e=sZ r 32 32/\w.heap.size<=r/\hZ w' r 0 (zL S k n b.data.toList)):=by
 have I:Hid (DW w q n S):=L;have U:Hid (An w (.slice D F sc) (zK S k 0).toList):=⟨⟨_,_,_,rfl⟩,J⟩
 clear L J;go_enter func93,ntmps93;go_wp2;go_loopg [7,13] n (λg s7 s13 W=>∃(i:Nat) (v:XG),i+g=n/\v=s7/\s13=iZ i/\Hid (kZ w W/\An W v (zK S k i).toList))
 case atStart=>exact⟨0,_,oM,rfl,rfl,XX _ _,U⟩
 case round =>
  obtain⟨i,v,V,rfl,rfl,j⟩:=hrel;obtain⟨P,K,M,rfl⟩:=j.2.1;by_cases N:i<n
  .have G:(i:Int)<(n:Int):=oM;obtain⟨C,z,rfl,y,O⟩:=I.2 oM;have hv:wr.cell? ⟨C,z+i,none⟩=some (.int .u32 (S i:Int)):=by rw[j.1.cell (p:=⟨C,z+i,none⟩) y];exact O i N
   have R:∀w:XF,(YV 93 (qZ C z n c) (iZ i)).run prog w=.ok (oZ C (z+i)) w:=λw=>by
    have d:¬(i:Int)<0:=oM;have f:(i:Int)<(n:Int):=oM;go_simp
   have o:=IC (S i) (I.1 i N) wr;have H:Hid (Mk (zK S k i) (S i)=zK S k (i+1)):=rfl;clear O y;generalize S i=x at hv o H;go_wp2_with fail
   refine o.mono ?_;rintro e Q ⟨v2,rfl,m,T,rfl,s⟩;have t:=T8 ⟨#[99,104,105,108,100]⟩ dC (j.2.2.below m) (EA s);have E:Hid (kZ w Q):=j.1.trans (m.mono j.1.size);clear m s o;go_wp2_with fail
   refine t.mono ?_;rintro e A ⟨B,rfl,l,f,d⟩;have a:Hid (kZ w A/\An A (sZ B 32 32) (zK S k (i+1)).toList):=by
    refine⟨E.trans (f.mono E.size),⟨_,_,_,rfl⟩,?_⟩;rw[<-H.out];exact Kh d
   clear l f d t E j;go_wp2;go_roundg (gk-1)
   case measure=>omega
   case rel=>exact⟨i+1,_,oM,rfl,rfl,a⟩
  .have G:¬(i:Int)<(n:Int):=oM;obtain rfl:i=n:=oM;obtain⟨o,E,O,m,s,y,z⟩:=OY b wr;have H:PartOk E (sZ wr.heap.size b.size o) b.data.toList:=⟨_,wr.heap.size,0,o,b.data,rfl,rfl,m,XN u dC,Yd ⟨rfl,y⟩⟩
   have t:=T8 ⟨#[107,101,121]⟩ dC (j.2.2.below s) H;have C:Hid (kZ w E):=j.1.trans (s.mono j.1.size);clear s y z m H j;go_wp2_with fail
   refine t.mono ?_;rintro e A ⟨B,rfl,l,f,d⟩;have a:Hid (kZ w A/\w.heap.size<=B/\hZ A B 0 (zL S k i b.data.toList)):=⟨C.trans (f.mono C.size),XN C.size l,d⟩
   clear l f d t C;go_wp2;go_ret;exact⟨_,rfl,a.1,_,rfl,a.2.1,a.2.2⟩
def A6(S:Nat->Nat)(k:Bs)(n:Nat)(l:List UInt8):(zL S k n l).size=32:=by unfold zL UQ;exact bV
def Lh(q:Option Y4)(n c:Nat)(w:XF):cZ 92 #[.slice q n c] w λe w'=>e=.returned (.bool (decide (n=32)))/\w'=w:=by
 by_cases h:n=32
 .subst h;go_enter func92,ntmps92;go_wp2;go_ret;exact⟨rfl,rfl⟩
 .have k:¬(n:Int)=32:=oM;have b:((n:Int) == 32)=false:=by simpa using k
  rw[decide_eq_false h];go_enter func92,ntmps92;go_wp2;go_ret;exact⟨rfl,rfl⟩
def kdE(k:Bs)(n:Nat):Nat:=if k.size=32 then(if n<=16 then 0 else 1) else 2
def DX(o:Option Y4)(j sc:Nat)(k:Bs)(d:ByteArray)(l:d.size<=65536)(q:Option Y4)(n c:Nat)(S:Nat->Nat)(w:XF)(a:n<=1048576)(u:PartOk w (.slice o j sc) k.toList)(f:j=k.size)(x:DW w q n S):
 cZ 43 #[.slice o j sc,.string d,.slice q n c] w (rZ w λe w'=>((¬(k.size=32/\n<=16)/\e=.tuple #[nZ,iZ (kdE k n:Int)])\/((k.size=32/\n<=16)/\∃r,e=.tuple #[sZ r 32 32,iZ 0]/\w.heap.size<=r/\hZ w' r 0 (zL S k n d.data.toList)))):=by
 have i:=Lh o j sc w;have hd:=IM o j sc k d l q n c S w a u x;clear u x;have A:=Hid.mk2 f;by_cases s:j=32
 .have b:k.size=32:=oM;clear f;rw[decide_eq_true s]at i;subst s;have p:=Hid.mk2 b;clear b;by_cases t:n<=16
  .have g:¬(16:Int)<(n:Int):=oM;go_enter func43,ntmps43;go_wp2_with fail
   refine i.mono ?_;rintro e w' ⟨rfl,rfl⟩;go_wp2_with fail
   refine hd.mono ?_;rintro e z ⟨v2,rfl,m,r,rfl,v,y⟩;have K:Hid (kZ w' z/\w'.heap.size<=r/\hZ z r 0 (zL S k n d.data.toList)):=⟨m,v,y⟩
   clear m v y hd i;go_wp2
   go_ret2
   exact⟨_,rfl,K.1,Yd ⟨⟨p,t⟩,_,rfl,K.2.1,K.2.2⟩⟩
  .have g:(16:Int)<(n:Int):=oM;have hE:kdE k n=1:=by unfold kdE;rw[yE3 p.out,yE4 t]
   clear hd;go_enter func43,ntmps43;go_wp2_with fail
   refine i.mono ?_;rintro e w' ⟨rfl,rfl⟩;go_wp2
   go_ret2
   exact⟨_,rfl,XX _ _,Yk ⟨λh=>t h.2,by rw[hE];rfl⟩⟩
 .rw[decide_eq_false s]at i;have b:¬k.size=32:=oM;have hE:kdE k n=2:=by unfold kdE;rw[yE4 b]
  have p:=Hid.mk2 b;clear hd f b;go_enter func43,ntmps43;go_wp2_with fail
  refine i.mono ?_;rintro e w' ⟨rfl,rfl⟩;go_wp2
  go_ret2
  exact⟨_,rfl,XX _ _,Yk ⟨λh=>p h.1,by rw[hE];rfl⟩⟩
def OA:Gives 15 #[uZ 1] (nv 1):=by
 intro w;go_enter func15,ntmps15;refine RG.M.enter [(0,.v (uZ 1))] 6 kR ?_;intro a0 d;repeat apply XL
 refine d.T [.m 0] [(0,RG.z 4)] [] [RG.z 4] [0,2] ⟨mk 0 44,yE5⟩ ?_;intro k e g c;repeat apply XL
 refine c.T [.x (uZ 1),.x (nv 1),.x (nv 1),.u 0] [] [(0,3,wn 1)] [wn 1] [2] ⟨st,st,st,RG.pt i40,yE5⟩ ?_;intro a2 f b;refine Zj<|XR (v:=nv 1) (aH b.st rfl rfl (b.at (s:=(.p 0 0))) u40 i40) b.sl.defers ?_
 exact⟨_,rfl,b.st.bel.below,rfl⟩
def lQ(a:Nat):Nat:=if a=0 then 1 else a
def Kt(O:Ord N){a:Nat}(k:a<N):lQ a<N:=by
 unfold lQ;by_cases h:a=0
 .rw[yE3 h];have:=O.n2;omega
 .rw[yE4 h];exact k
def Gv(O:Ord N){a:Nat}(j:a<N):Gives 123 #[nv a] (nv (lQ a)):=by
 intro w;have e:=XI j O.le;have g:∀w:XF,(binOp .eql 44 (nv a) (nv 0)).run prog w=.ok (.bool (decide (a=0))) w:=λw=>eqS e (show 0<top by unfold top;omega)
 obtain⟨d,hd⟩:=hE (decide (a=0));rw[hd.out]at g;go_enter func123,ntmps123;refine RG.M.enter [(0,.v (nv a))] 8 kR ?_;intro a0 n;repeat apply XL
 refine n.T [.m 0,.m 1] [(0,wn a),(1,RG.z 4)] [] [wn a,RG.z 4] [1,2] ⟨mk 0 44,mk 1 44,yE5⟩ ?_;intro p q o r i;repeat apply XL
 refine i.U [.x (nv a),.x (nv 0),.x (.bool d)] [1,2,5] ⟨ld u40 i40,st,aO rfl .eql 44 rfl rfl sx sx (λw=>kR) g,yE5⟩ ?_;intro a2 t b;cases d with
 | true =>
  refine YH b.ev ?_;have f:=of_decide_eq_true hd;have c:lQ a=1:=by unfold lQ;rw[yE3 f]
  rw[c];repeat apply XL
  refine b.T [.c (nv 1),.u 1] [] [(1,1,wn 1)] [wn a,wn 1] [2] ⟨cl OA,RG.pt i40,yE5⟩ ?_;intro l m k;refine Zj<|XR (v:=nv 1) (aH k.st rfl rfl (k.at (s:=(.p 1 0))) u40 i40) k.sl.defers ?_
  exact⟨_,rfl,k.st.bel.below,rfl⟩
 | false =>
  refine Yh b.ev ?_;have f:=of_decide_eq_false hd;have c:lQ a=a:=by unfold lQ;rw[yE4 f]
  rw[c];apply Y2;repeat apply XL
  refine b.T [.x (nv a),.u 1] [] [(1,1,wn a)] [wn a,wn a] [2] ⟨ld u40 i40,RG.pt i40,yE5⟩ ?_;intro l m k;refine Zj<|XR (v:=nv a) (aH k.st rfl rfl (k.at (s:=(.p 1 0))) u40 i40) k.sl.defers ?_
  exact⟨_,rfl,k.st.bel.below,rfl⟩
end
section
section
variable {P:YO}{ops:Array Yw}{rest:List Yw}{op:Yw}{a:Act}{w w':XF}{v:XG}{Q:Exit->Act->XF->Prop}
def qN{k:Yj}{x y:Operand}{b o:Nat}(c:op.guard=none)(ho:op.op=.store k x y)(v:XG)(hx:a.eval x=oZ b o)(g:a.eval y=v)(hv:v.cells=#[v])(i:v.oneCell'=true)(l:w.there b o 1)(j:(P.info? k).map (·.size)=some 1)(h:wpList P ops Q rest (a.put op.dst ZB) (w.setCells b o [v])):wpList P ops Q (op :: rest) a w:=
 ZT c λ_ d=>by
  have f:=yCk (P:=P) w b o k #[v] l j (by simp[i]);have e:storeVar k ⟨b,o,none⟩ v=storeVar k ⟨b,o,none⟩ (.agg #[v]):=by
   unfold storeVar;rw[hv];rfl
  unfold Y8 Ym;simp only[ho,hx,g,yBk,yAP,X6,Zu,YE,e,f];exact d _ _ h
def tJ{d:Array Yj}{f:ZZ}{cap:Array XG}{x:XG}(k:op.guard=none)(s t:ZC)(ho:op.op=.call ⟨.value (.tmp s),#[.tmp t],d⟩)(g:a.eval (.tmp s)=.func (.func f) #[] cap)(hx:a.eval (.tmp t)=x)(hf:∀args W,(callFunc f args).run P W=.ok (.enter f args) W){R:XG->XF->Prop}(i:ZI P f (#[x]++cap) w (Ret R))(h:∀v w',R v w'->wpList P ops Q rest (a.put op.dst v) w'):wpList P ops Q (op :: rest) a w:=
 ZT k λK b=>by
  have c:(Ym a.eval op).run P w=.ok (.enter f (#[x]++cap)) w:=by
   unfold Ym;rw[ho];have e:(#[Operand.tmp t].map a.eval)=#[x]:=by simp[hx]
   simp only[resolve,g,Deferred.ofValue,X6,Zu,YE,invoke,e];exact hf _ w
  unfold Y8;rw[c,Oper.upon_enter];refine i.mono ?_;rintro e w' ⟨v,rfl,hR⟩;exact b _ _ (h v w' hR)
end
end
section
variable {P:Nat}[NeZero P]{N:Nat}
def yR(n:Nat)(m:n<4294967296)(w:XF):cZ 182 #[iZ n] w (rZ w λe w'=>∃r,e=sZ r 4 4/\r<w'.heap.size/\hZ w' r 0 (gB n)):=by
 have b:(n:Int)/16777216%256=SP.ub (bH n 16777216):=fB;have b0:(n:Int)/16777216=SP.ub (bH n 16777216):=oM;clear b;have b1:(n:Int)/65536%256=SP.ub (bH n 65536):=fB;have l:(n:Int)/256%256=SP.ub (bH n 256):=fB;have o:(n:Int)%256=SP.ub (bH n 1):=sF n;have j:=rA w (bH n 16777216) (bH n 65536) (bH n 256) (bH n 1);have i:Hid (gB n=#[bH n 16777216,bH n 65536,bH n 256,bH n 1]):=rfl;generalize bH n 16777216=c at *;generalize bH n 65536=f at *;generalize bH n 256=g at *;generalize bH n 1=d at *;have k:kZ w (w.alloc (.cells #[.int .u8 (SP.ub c),.int .u8 (SP.ub f),.int .u8 (SP.ub g),.int .u8 (SP.ub d)] 5)):=(XX _ _).alloc (XH _) _;go_enter func182,ntmps182;go_wp2;go_ret;refine⟨_,rfl,k,_,rfl,by rw[XS];omega,?_⟩;rw[i.out];exact j
def BQ(a:Bs)(i:a.size=33)(w:XF):cZ 129 #[pvl a] w (rZ w λe w'=>Sm w.heap.size w' e [(1,a)]):=by
 have l:=Hid.mk' (tB i w);obtain⟨g,f⟩:=hE (lZ w (aA a) 51);rw[f.out]at l;have K:Hid (Row g w.heap.size (aA a)/\kZ w g):=by rw[<-f.out];exact⟨row_new w _ _,aC _⟩
 obtain⟨va,d⟩:=hE (pvl a);have j:Hid ((Yu 51 va).run prog w=.ok (jZ w.heap.size) g):=d.out▸l;rw[d.out];go_enter func129,ntmps129;go_wp2_with (first|(refine aG (u:=va) (v:=jZ w.heap.size) (w':=g) rfl 51 (.tmp 0) rfl ?_ ?_ ?_;rfl;exact j)|fail)
 refine(gwL [pE (pvl a),pE (nv 1),pM (w.heap.size<=·) [(1,a)],pM (w.heap.size<=·) [(1,a)]] (λW=>Row W w.heap.size (aA a)/\kZ w W) (λW W' c h=>⟨h.1.below c,h.2.trans (c.mono h.2.size)⟩)).draws kR kR ⟨
  iU 1 w.heap.size 0 (cs:=(aA a)) uCP (by rw[aB i];exact dA) rfl (λW b=>b.1.2.1) (λ_=>rfl),
  Qj 15 #[uZ 1] λW b=>(Ky W).mono (by
   rintro e W' ⟨u,rfl,c,rfl⟩;exact⟨_,rfl,c,rfl⟩),
  eF 0 3 1 4 32 (λx y=>#[x,y]) λx y W hx n b=>by
   obtain rfl:x=pvl a:=hx;obtain rfl:y=nv 1:=n;apply(lO a i 1 W).mono;rintro e W' ⟨u,rfl,c,k,rfl,m,hR⟩;exact⟨_,rfl,c,Sm.one hR (XN b.2.size m) rfl⟩,
  Dk 2 5 id λx W h=>h,yE5⟩ ⟨K.1,K.2.drew⟩ ?_
 intro V o hR b;have m:=mk1 (hR 3 (Z7 (YM kR)));have n:=mk1 (b.2);dsimp only[bY,YQ];go_wp2;go_ret;exact⟨_,rfl,n,m⟩
def u9s:wZ 9:=wQ
def pH(n:Nat)(b:Bs):S1:=⟨λv W=>∃r,v=sZ r n n/\r<W.heap.size/\hZ W r 0 b,λ_ _ _ k ⟨r,d,c,e⟩=>⟨r,d,XI c k.size,Holds.below e k c⟩⟩
noncomputable def hpN (P:Nat) [NeZero P] (lb:ByteArray) (i:Nat):Bs:=wr (.some (hpt P lb (gB i).toList):EC.Pt P)
def Lm{lb:ByteArray}{i:Nat}:(hpN P lb i).size=33:=aL _
def RP(C:Fld P)(lb:ByteArray)(f:lb.size<=1000000)(i:Nat)(A:i<4294967296)(k:Nat)(w:XF)(z:k<w.heap.size)(F:w.cell? ⟨k,0,none⟩=some (.string lb)):
 cZ 183 #[iZ i,jZ k] w (rZ w λe w'=>Sm w.heap.size w' e [(1,hpN P lb i)]):=by
 obtain⟨T,d⟩:=hE (hpN P lb i);have m:T.size=33:=d.out▸Lm;rw[d.out];have s:=λ(W:XF) (o:Option Y4) (t n:Nat) (v:PartOk W (.slice o t n) (gB i).toList)=>Hn C lb f o t n (gB i).toList W v
 have D:wr (.some (hpt P lb (gB i).toList):EC.Pt P)=T:=d;rw[D]at s;have B:=Hid.mk' s;have E:=mk1 (F);have l:=Hid.mk' (λW=>yR i A W);go_enter func183,ntmps183;go_wp2_with fail
 refine(gwL [pE (.string lb),pE (iZ i),pH 4 (gB i),pE (pvl T),pM (w.heap.size<=·) [(1,T)],pM (w.heap.size<=·) [(1,T)]] (λW=>W.cell? ⟨k,0,none⟩=some (.string lb)/\kZ w W) (λW W' b h=>⟨by rw[b.cell (p:=⟨k,0,none⟩) (XI z h.2.size)];exact h.1,h.2.trans (b.mono h.2.size)⟩)).draws kR kR ⟨
  SJ 1 k 0 (.string lb) u9s rfl (λW c=>c.1) (λ_=>rfl),
  gO 0 (iZ i),
  oL 1 5 182 (λx=>#[x]) (λx W hx c=>by
   obtain rfl:x=iZ i:=hx;apply(l W).mono;rintro e W' ⟨u,rfl,b,r,rfl,q,j⟩;exact⟨_,rfl,b,r,rfl,q,j⟩),
  eF 0 4 2 6 130 (λx y=>#[x,y]) (λx y W hx a c=>by
   obtain rfl:x=.string lb:=hx;obtain⟨r,rfl,q,j⟩:=a;apply(B W _ _ _ (EA j)).mono;rintro e W' ⟨u,rfl,b,rfl⟩;exact⟨_,rfl,b,rfl⟩),
  oL 3 7 129 (λx=>#[x]) (λx W hx c=>by
   obtain rfl:x=pvl T:=hx;apply(BQ T m W).mono;rintro e W' ⟨u,rfl,b,q⟩;exact⟨_,rfl,b,q.q.mono λg j=>XN c.2.size j⟩),
  Dk 4 8 id (λx W h=>h),yE5⟩ ⟨E,(XX _ w).drew⟩ ?_
 intro V a hR c;have j:=mk1 (hR 5 (Z7 (YM kR)));have q:=mk1 (c.2);dsimp only[bY,YQ];simp only[Yo,XJ,XM,XO];go_wp2;go_ret;exact⟨_,rfl,q,j⟩
def uSu:prog.underlying 148=some (.slice 82):=kR
def iSu:(prog.info? 82).map (λi=>(i.size,decide (i.bytes<=4000),i.zero.isSome))=some (1,true,true):=kR
def UY:gZ 82 1:=gQ
structure LsI(w W:XF)(K n i:Nat)(T:Nat->LB):Prop where
 bl:kZ w W
 lt:K<W.heap.size
 th:W.there K 0 n
 ge:w.heap.size<=K
 el:∀j,j<i->∃x,W.cell? ⟨K,j,none⟩=some x/\SmQ (λg=>w.heap.size<=g/\g≠K) W x (T j)
def LsI.grow{w W W':XF}{K n i:Nat}{T:Nat->LB}(h:LsI w W K n i T)(k:kZ W W'):LsI w W' K n i T:=
 ⟨h.bl.trans (k.mono h.bl.size),XI h.lt k.size,dJ h.th k h.lt,h.ge,λj b=>by
  obtain⟨x,c,d⟩:=h.el j b;exact⟨x,by rw[k.cell (p:=⟨K,j,none⟩) h.lt];exact c,d.keep (Kq.of_below k)⟩⟩
def Kq.set{Q:Nat->Prop}{W:XF}{K o:Nat}{vs:List XG}(b:∀g,Q g->g≠K):Kq Q W (W.setCells K o vs):=⟨by rw[setCells_size];exact XH _,λg k _=>aE vs o W g (b g k)⟩
def LsI.put{w W:XF}{K n i:Nat}{T:Nat->LB}{x:XG}(h:LsI w W K n i T)(m:i<n)(hx:SmQ (λg=>w.heap.size<=g/\g≠K) W x (T i)):LsI w (W.setCells K i [x]) K n (i+1) T:=by
 have b:Kq (λg=>w.heap.size<=g/\g≠K) W (W.setCells K i [x]):=Kq.set λg d=>d.2
 refine⟨RG.below_setCells h.ge _ _ _ h.bl,by rw[setCells_size];exact h.lt,Za h.th _ _ _,h.ge,λj p=>?_⟩;by_cases e:j=i
 .subst e;refine⟨x,?_,hx.keep b⟩;have:=YW W K j [x] (λt c=>by
   have k:t=0:=by simp at c;omega
   subst k;have:=h.th j m;rwa[XQ]at this) 0 x rfl
  exact this
 .obtain⟨y,l,o⟩:=h.el j oM;refine⟨y,?_,o.keep b⟩;have f:W.rangeAt K j [y]:=λt u c=>by
   have k:t=0:=by have:=(XT.1 c).1;simp at this;omega
   subst k;obtain rfl:y=u:=by simpa using c
   exact l
  exact Yr f K i [x] (Yd (by simp;omega)) 0 y rfl
def LsI.gl{w W:XF}{K n:Nat}{T:Nat->LB}(h:LsI w W K n n T):GLq (w.heap.size<=·) W (sZ K n n) n T:=
 ⟨K,0,n,rfl,XH _,h.ge,h.lt,λj b=>by
  obtain⟨x,c,d⟩:=h.el j b;exact⟨x,by rw[XQ];exact c,d.mono λg k=>k.1⟩⟩
def SmQ.one{Q:Nat->Prop}{W:XF}{v:XG}{l:LB}(h:SmQ Q W v l):v.cells=#[v]/\v.oneCell'=true:=by
 obtain⟨g,c,rfl,-⟩:=h;exact⟨rfl,rfl⟩
def AZ(n:Nat)(I:n<=512)(f:ZZ)(cap:Array XG)(hf:∀args W,(callFunc f args).run prog W=.ok (.enter f args) W)(T:Nat->LB)(w:XF)
 (B:∀i W,i<n->kZ w W->cZ f (#[iZ i]++cap) W (rZ W λe W'=>Sm W.heap.size W' e (T i))) :
 cZ 147 #[iZ n,.func (.func f) #[] cap] w (rZ w λe w'=>GLq (w.heap.size<=·) w' e n T):=by
 obtain⟨C0,d,o⟩:=C7 uSu iSu n I;have k:=o w;obtain⟨K,r⟩:=yH w.heap.size;obtain⟨u,b⟩:=yH (w.alloc (.cells C0.toArray 82));have s:Ar w u K 1 n 0 (λ_=>[]):=Ar.new _ d b r;rw[b.out,r.out]at k;have N:Hid (LsI w u K n 0 T):=⟨s.bl,s.lt,by have:=s.th;rwa[Z6]at this,r.out▸XH _,λj M=>absurd M (yAh _)⟩
 have J:=Hid.mk' B;have C:=Hid.mk' hf;obtain⟨fv,p⟩:=hE (yCO (.func f) #[] cap);rw[p.out];clear s d o B hf b r;go_enter func147,ntmps147;go_wp2;clear k;go_loopg [11] n (λm s11 W=>∃i:Nat,i+m=n/\s11=iZ i/\Hid (LsI w W K n i T))
 case atStart=>exact⟨0,oM,rfl,N⟩
 case round =>
  obtain⟨i,G,rfl,c⟩:=hrel;by_cases v:i<n
  .have y:(i:Int)<(n:Int):=oM;have x:=atS K 0 n v;rw[show 0+1*i=i by omega]at x;have F:=Hid.mk' v;go_wp2_with (first|(refine tJ rfl 16 17 rfl ?_ ?_ C (J i wr F c.bl) ?_;exact p.symm;rfl;intro e W' hR;refine Hid ?_)|fail)
   obtain⟨L,H⟩:=hR;have a:=c.grow L;have q:SmQ (λg=>w.heap.size<=g/\g≠K) W' e (T i):=H.q.mono λg D=>⟨XN (XN c.bl.size (XH _)) D,oN c.lt⟩
   have z:=mk1 (a.put v q);have E:Hid (W'.there K i 1):=λt O=>by
    have l:t=0:=oM;subst l;have:=a.th i v;rwa[XQ]at this
   have A:=Hid.mk' q.one;obtain⟨P,l⟩:=hE (W'.setCells K i [e]);rw[l.out]at z;show wpList _ _ _ _ _ _;go_wp2_with (first|(refine qN rfl rfl e ?_ ?_ A.1 A.2 E UY ?_;rfl;rfl;rw[l.out])|fail)
   go_roundg (gk-1)
   case measure=>omega
   case rel=>exact⟨i+1,oM,rfl,z⟩
  .have y:¬(i:Int)<(n:Int):=oM;obtain rfl:i=n:=oM;have l:=mk2 c.bl c.gl;go_wp2;go_ret;exact⟨_,rfl,l.1,l.2⟩
def vE(C:Fld P)(lb:ByteArray)(d:lb.size<=1000000)(n:Nat)(q:n<=512)(w:XF):
 cZ 128 #[.string lb,iZ n] w (rZ w λe w'=>GLq (w.heap.size<=·) w' e n (λi=>[(1,hpN P lb i)])):=by
 obtain⟨f,b⟩:=hE (w.alloc (.cells #[.string lb] 9));obtain⟨k,m⟩:=hE (w.heap.size);have r:kZ w f:=b.out▸aC _;have hR:Row f k [.string lb]:=b.out▸m.out▸row_new w _ _;have HL:=Hid.mk' (AZ n q 183 #[jZ k] (λ_ _=>kR) (λi=>[(1,hpN P lb i)]) f (λi W t l=>RP C lb d i oM k W (XI hR.1 l.size) (by rw[l.cell (p:=⟨k,0,none⟩) hR.1];exact hR.2.1 0 _ rfl)));have j:=Hid.mk' r;go_enter func128,ntmps128;go_wp2_with fail
 rw[b.out,m.out];refine HL.mono ?_;rintro e u ⟨v,rfl,c,hG⟩;have s:=mk2 (j.trans (c.mono j.size)) (hG.mono λg o=>XN j.size o);go_wp2;go_ret;exact⟨_,rfl,s⟩
noncomputable def hpU (P:Nat) [NeZero P]:Bs:=wr (.some (hpt P ⟨#[105,110,110,101,114]⟩ []):EC.Pt P)
def iGr:gZ 150 3:=gQ
def uGr:yZ 150:=yQ
noncomputable def gGT (P:Nat) [NeZero P] (i:Nat):LB:=[(1,hpN P ⟨#[108,101,102,116]⟩ i)]
noncomputable def hGT (P:Nat) [NeZero P] (i:Nat):LB:=[(1,hpN P ⟨#[114,105,103,104,116]⟩ i)]
noncomputable def uGT (P:Nat) [NeZero P]:LB:=[(1,hpU P)]
def zB(C:Fld P)(n:Nat)(T:n<=512)(w:XF):
 cZ 76 #[iZ n] w (rZ w λe w'=>GRq (w.heap.size<=·) w' e n (gGT P) (hGT P) (uGT P)):=by
 have D:=λW=>vE C ⟨#[108,101,102,116]⟩ dC n T W
 have x:=λW=>vE C ⟨#[114,105,103,104,116]⟩ dC n T W
 have N:=λW:XF=>Hn C ⟨#[105,110,110,101,114]⟩ dC none 0 0 [] W ⟨none,0,0,0,#[],rfl,rfl,XH _,Zq _,Yk rfl⟩
 have e0:wr (.some (hpt P ⟨#[105,110,110,101,114]⟩ []):EC.Pt P)=hpU P:=rfl;rw[e0]at N;have V:=λW=>BQ (hpU P) (aL _) W
 obtain⟨U,a⟩:=yH (hpU P);have Y:uGT P=[(1,U)]:=by unfold uGT;rw[a.out]
 rw[Y];rw[a.out]at N V;have t:=Hid.mk' (Y0 D (Y0 x (Y0 N V)));have X:(λi=>[(1,hpN P ⟨#[108,101,102,116]⟩ i)])=gGT P:=rfl;have e3:(λi=>[(1,hpN P ⟨#[114,105,103,104,116]⟩ i)])=hGT P:=rfl;rw[X,e3]at t;generalize gGT P=G at t⊢;generalize hGT P=H at t⊢;clear D x N V e0 Y X e3 C T;obtain⟨A,K⟩:=yH (w.alloc (.cells #[nZ,nZ,nZ] 150));obtain⟨k,M⟩:=yH w.heap.size;have O:Hid (kZ w A/\Row A k [nZ,nZ,nZ]):=by rw[<-K.out,<-M.out];exact⟨aC _,row_new w _ _⟩
 go_enter func76,ntmps76;go_wp2_with fail
 rw[K.out,M.out];apply(t.1 A).mono;rintro e Q ⟨v1,rfl,y,hG⟩;have F:Hid (kZ w Q/\Row Q k [nZ,nZ,nZ]/\GLq (k < ·) Q v1 n G):=⟨O.1.trans (y.mono O.1.size),O.2.below y,hG.mono λg j=>XI O.2.1 j⟩
 go_wp2_with fail
 apply(t.2.1 Q).mono;rintro e L ⟨v2,rfl,u,hG⟩;have B:Hid (kZ w L/\Row L k [nZ,nZ,nZ]/\GLq (k < ·) L v1 n G/\GLq (k < ·) L v2 n H):=⟨F.1.trans (u.mono F.1.size),F.2.1.below u,F.2.2.keep (Kq.of_below u),hG.mono λg j=>XI F.2.1.1 j⟩
 go_wp2_with fail
 apply(t.2.2.1 L).mono;rintro e z ⟨v,rfl,d,rfl⟩;have s:Hid (kZ w z/\Row z k [nZ,nZ,nZ]/\GLq (k < ·) z v1 n G/\GLq (k < ·) z v2 n H):=⟨B.1.trans (d.mono B.1.size),B.2.1.below d,B.2.2.1.keep (Kq.of_below d),B.2.2.2.keep (Kq.of_below d)⟩
 obtain⟨vu,E⟩:=hE (pvl U);have HO:Hid (∀W:XF,cZ 129 #[vu] W (rZ W λe w'=>Sm W.heap.size w' e [(1,U)])):=E.out▸t.2.2.2;rw[E.out];go_wp2_with fail
 apply(HO z).mono;rintro e f ⟨v3,rfl,b,Z⟩;have c:Hid (kZ w f/\Row f k [nZ,nZ,nZ]/\GLq (k < ·) f v1 n G/\GLq (k < ·) f v2 n H/\SmQ (k < ·) f v3 [(1,U)]):=⟨s.1.trans (b.mono s.1.size),s.2.1.below b,s.2.2.1.keep (Kq.of_below b),s.2.2.2.keep (Kq.of_below b),Z.q.mono λg j=>XI s.2.1.1 j⟩
 clear b Z s HO;obtain⟨p,q,c1,rfl,-⟩:=c.2.2.1;obtain⟨l,r,c2,rfl,-⟩:=c.2.2.2.1;obtain⟨m,o,rfl,-⟩:=c.2.2.2.2;obtain⟨J,I⟩:∃J,Hid (f.setCells k 0 [qZ p q n c1,qZ l r n c2,sZ m [(1,U)].length o]=J):=⟨_,Hid.mk' rfl⟩
 have S:Hid (kZ w J/\Row J k [qZ p q n c1,qZ l r n c2,sZ m [(1,U)].length o]/\GRq (w.heap.size<=·) J (.agg #[qZ p q n c1,qZ l r n c2,sZ m [(1,U)].length o]) n G H [(1,U)]):=by
  rw[<-I.out];have R:∀g,k<g->w.heap.size<=g:=λg j=>by rw[M.out];omega
  have kq:Kq (k < ·) f (f.setCells k 0 [qZ p q n c1,qZ l r n c2,sZ m [(1,U)].length o]):=Kq.set λg j=>Nat.ne_of_gt j
  exact⟨RG.below_setCells (M.out▸XH _) _ _ _ c.1,c.2.1.put rfl,_,_,_,rfl,(c.2.2.1.keep kq).mono R,(c.2.2.2.1.keep kq).mono R,(c.2.2.2.2.keep kq).mono R⟩
 have R:=mk1 (c.2.1.2.2);go_wp2_with (refine bF (v:=.agg #[qZ p q n c1,qZ l r n c2,sZ m [(1,U)].length o]) (w':=f) rfl (.build 150 _) rfl ?_ ?_;kernel_rfl;refine Hid ?_)
 show wpList _ _ _ _ _ _;refine Yi rfl 150 _ _ rfl k 0 #[qZ p q n c1,qZ l r n c2,sZ m [(1,U)].length o] ?_ ?_ R iGr ?_ ?_
 .kernel_rfl
 .kernel_rfl
 .kernel_rfl
 rw[show(#[qZ p q n c1,qZ l r n c2,sZ m [(1,U)].length o]:Array XG).toList=[qZ p q n c1,qZ l r n c2,sZ m [(1,U)].length o] from rfl,I.out];go_wp2;refine XR (aF 2 rfl S.2.1 rfl uGr iGr) rfl ?_;exact⟨_,rfl,S.1,S.2.2⟩
def u22:wZ 23:=wQ
def VM{k o n c i:Nat}{w:XF}(b:i<n):(YV 27 (qZ k o n c) (iZ i)).run prog w=.ok (oZ k (o+i)) w:=by
 go_simp
def mF{k o n c i:Nat}(b:i<n)(w:XF):(YV 143 (qZ k o n c) (iZ i)).run prog w=.ok (oZ k (o+4*i)) w:=by
 go_simp
def WP{N:Nat}(d:N<=512):∃C0:List XG,C0.length=4*N/\∀w:XF,(yAq 143 (iZ N) (iZ N)).run prog w=.ok (sZ w.heap.size N N) (w.alloc (.cells C0.toArray 44)):=by
 have j:prog.underlying 143=some (.slice 44):=kR;have e:(prog.info? 44).map (λi=>(i.size,decide (i.bytes<=4000),i.zero.isSome))=some (4,true,true):=kR;obtain⟨i,b,k⟩:=XK.1 e;simp only[Zl.injEq,decide_eq_true_eq]at k;obtain⟨g,m,f⟩:=k;obtain⟨z,l⟩:=YP.1 f;refine⟨(madeCells z.cells (N*4)).toList,by rw[X0,yDs,YN],λw=>?_⟩;have c:(i.bytes:Int)*(N:Int)<=281474976710656:=by
  have:i.bytes*N<=4000*512:=ZP m d;have n:((i.bytes*N:Nat):Int)<=281474976710656:=oM;rwa[yAx]at n
 have:=run_make (P:=prog) w 143 44 i z j b l .i64 .i64 (N:Int) (N:Int) oM oM c oM;rw[yBW,g]at this;rw[yBn];exact this
def XC(N:Nat)(w:XF)(n:Nat)(L:Nat->Bs)(e:XG)(w':XF):Prop:=
 ((∃j,j<n/\rq N (L j)=none)/\kZ w w'/\e=.tuple #[nZ,fZ]) \/
 ((∀j,j<n->(rq N (L j)).isSome=true)/\∃k C,Made w k C w'/\Rows 4 n (λj=>wn ((rq N (L j)).getD 0)) n C/\e=.tuple #[sZ k n n,tZ])
def PD(O:Ord N)(n cap:Nat)(hn:n<=512)(q:Option Y4)(L:Nat->Bs)(w:XF)(hA:Args w q n L):cZ 161 #[(.func (.func 11) #[] #[]),.slice q n cap] w (Ret λe w'=>XC N w n L e w'):=by
 obtain⟨C,h3,M⟩:=WP hn;go_enter func161,ntmps161;refine RG.M.enter [(0,.v (.func (.func 11) #[] #[])),(1,.v (.slice q n cap))] 35 kR ?_;intro a0 M0;repeat apply XL
 refine M0.U [.x nZ,.x fZ] [0,1] ⟨st,st,yE5⟩ ?_;intro a1 w1 M1;repeat apply XL
 refine M1.t [.x 11 [] (.slice q n cap),.x 12 [(11,0)] (iZ n),⟨some 13,[(12,1)],.s 0 n n,.make 0⟩,.s 6 [(13,2)] (.s 0 n n)] [(2,C)] [] [C] [(0,.v (.func (.func 11) #[] #[])),(1,.v (.slice q n cap)),(6,.s 0 n n)] ⟨st,st,nG 0 rfl rfl rfl rfl sx sx M,st,yE5⟩ ?_;intro j2 a2 w2 M2;repeat apply XL
 refine M2.U [.x (.slice q n cap),.x (iZ n),.x (iZ 0)] [0,6,14,15,16] ⟨st,st,st,yE5⟩ ?_;intro a3 w3 M3;repeat apply XL
 refine Zk<|wp_loop_ghost (λm a wr=>∃(i:Nat) (C:List XG) (S:Nat),i+m=n/\(∀j,j<i->(rq N (L j)).isSome=true)/\Rows 4 n (λj=>wn ((rq N (L j)).getD 0)) i C/\RG.M w w.heap.size [] 35 [C] [S] [(0,.v (.func (.func 11) #[] #[])),(6,.s 0 n n),(14,.v (.slice q n cap)),(15,.v (iZ n)),(16,.v (iZ i))] a wr) n ⟨0,C,_,oM,λj hj=>oM,⟨h3,λj r hj=>oM⟩,M3⟩ ?_
 clear M;intro m' a wr;rintro⟨i,C,S,h7,o,hR,D⟩;by_cases u:i<n
 .obtain⟨y,h4,G,hc⟩:=hA oM;subst h4;obtain⟨v,hv,J⟩:=hc i u;have p:w.cell? ⟨y,0+i,none⟩=some v:=by rw[XQ];exact hv
  have z:=λw' (R:BelX w.heap.size [] w w')=>wO O (J.below R.below)
  obtain⟨m,hm⟩:∃m,m=(rq N (L i)).getD 0:=⟨_,rfl⟩
  cases x:(rq N (L i)).isSome with
  | true =>
   have B:∀w',BelX w.heap.size [] w w'->cZ 11 #[v] w' (Ret λe A=>kZ w' A/\e=.tuple #[nv m,tZ]):=λw' R=>by
    have h:=z w' R;rw[x,<-hm]at h;exact h
   have I:=hR.len;have l:0+4*i+(wn m).length<=C.length:=by rw[I];show 0+4*i+4<=4*n;omega
   obtain⟨F,g⟩:=vH (rep C (0+4*i) (wn m));have T:=g ▸ RG.rep_at l;have U:F.length=C.length:=g ▸ cY l;have h0:Rows 4 n (λj=>wn ((rq N (L j)).getD 0)) (i+1) F:=by
    have:=hR.next u rfl;rw[<-g,hm];exact this
   repeat apply XL
   refine D.U [.x tZ] [0,6,14,15,16,17] ⟨aO rfl .lss 3 rfl rfl sx sx (λw=>kR) (iD u),yE5⟩ ?_;intro P H d;repeat apply XL
   refine YH d.ev ?_;refine Y2<|XL<|Zk ?_
   repeat apply XL
   refine d.U [.x (iZ i),.x (oZ y (0+i)),.x v,.x (iZ i),.x v] [0,6,7,8,14,15,16] ⟨st,aY rfl 27 rfl (.v (sZ y n cap)) sx sx (λμ w=>VM u),bO rfl G Yf rfl rfl sx p u22,st,st,yE5⟩ ?_;intro K Q k;repeat apply XL
   refine k.T [.x (.func (.func 11) #[] #[]),.x v,.c (.tuple #[nv m,tZ]),.x (.tuple #[nv m,tZ]),.x (nv m),.x tZ,.m 1,.u 1,.x tZ] [(6,RG.z 4)] [(1,7,wn m)] [C,wn m] [0,6,7,9,10,14,15,16] ⟨st,st,clB (λ_ _=>kR) B,st,st,st,mk 1 44,RG.pt i40,st,yE5⟩ ?_;intro h6 h5 V E;repeat apply XL
   refine E.U [.x tZ,.x fZ] [0,6,7,9,14,15,16,28] ⟨st,st,yE5⟩ ?_;intro X Z t;repeat apply XL
   refine Yh t.ev ?_;apply Y2;repeat apply XL
   refine t.tx [.s 29 [] (.s 0 n n),.x 30 [] (iZ i),.x 31 [] (nv m),.s 32 [(29,0),(30,1)] (.p 0 (0+4*i)),.u [(32,3),(31,2)] 0] [] [(0,4,F)] [F,wn m] [(0,.v (.func (.func 11) #[] #[])),(6,.s 0 n n),(14,.v (sZ y n cap)),(15,.v (iZ n)),(16,.v (iZ i))] kR (congrArg (λn=>[n]) U) ⟨st,st,ld u40 i40,aY rfl 143 rfl (.s 0 n n) sx sx (λμ w=>mF u w),fN rfl _ rfl rfl rfl sx sx l T i40 rfl,yE5⟩ ?_;intro Y W f;repeat apply XL
   refine f.U [.x (iZ ((i+1:Nat):Int)),.x (iZ ((i+1:Nat):Int))] [0,6,14,15,16] ⟨aN rfl .add 3 rfl rfl sx (λw=>kR) (wM oM oM),st,yE5⟩ ?_;intro h8 h9 h1;show ∃n',_;exact⟨m'-1,oM,i+1,F,S,oM,λj hj=>(by
    by_cases h2:j=i
    .rw[h2];exact x
    .exact o j oM),h0,RG.M.drop (cs:=[F]) (cs2:=[_]) (ks:=[S]) (ks2:=[_]) h1 rfl rfl⟩
  | false =>
   have B:∀w',BelX w.heap.size [] w w'->cZ 11 #[v] w' (Ret λe A=>kZ w' A/\e=.tuple #[nv m,fZ]):=λw' R=>by
    have h:=z w' R;rw[x,<-hm]at h;exact h
   repeat apply XL
   refine D.U [.x tZ] [0,14,16,17] ⟨aO rfl .lss 3 rfl rfl sx sx (λw=>kR) (iD u),yE5⟩ ?_;intro P H d;repeat apply XL
   refine YH d.ev ?_;refine Y2<|XL<|Zk ?_
   repeat apply XL
   refine d.U [.x (iZ i),.x (oZ y (0+i)),.x v,.x (iZ i),.x v] [0,8] ⟨st,aY rfl 27 rfl (.v (sZ y n cap)) sx sx (λμ w=>VM u),bO rfl G Yf rfl rfl sx p u22,st,st,yE5⟩ ?_;intro K Q k;repeat apply XL
   refine k.T [.x (.func (.func 11) #[] #[]),.x v,.c (.tuple #[nv m,fZ]),.x (.tuple #[nv m,fZ]),.x (nv m),.x fZ,.m 1,.u 1,.x fZ] [(6,RG.z 4)] [(1,7,wn m)] [C,wn m] [10] ⟨st,st,clB (λ_ _=>kR) B,st,st,st,mk 1 44,RG.pt i40,st,yE5⟩ ?_;intro h6 h5 V E;repeat apply XL
   refine E.U [.x fZ,.x tZ] [28] ⟨st,st,yE5⟩ ?_;intro X Z t;repeat apply XL
   refine YH t.ev ?_;repeat apply XL
   refine t.U [.x nZ,.x fZ] [4,5] ⟨st,st,yE5⟩ ?_;intro Y W f;refine Zj<|XR (v:=.tuple #[nZ,fZ]) (dT 4 5 rfl f.av f.av) f.sl.defers ?_
   exact⟨_,rfl,Yk ⟨⟨i,u,by simpa using x⟩,f.st.bel.below,rfl⟩⟩
 .have f:i=n:=oM;rw[f]at o hR;repeat apply XL
  refine D.U [.x fZ] [6,17] ⟨aO rfl .lss 3 rfl rfl sx sx (λw=>kR) (oJ u),yE5⟩ ?_;intro P H d;repeat apply XL
  refine Yh d.ev ?_;apply wp_exit;dsimp only[Exit.then,Exit.inBlock];rw[yE3 rfl];repeat apply XL
  refine d.U [.s (.s 0 n n),.s (.s 0 n n),.x tZ] [4,5] ⟨st,st,st,yE5⟩ ?_;intro K Q k;refine Zj<|XR (v:=_) (dT 4 5 rfl (k.at (s:=.s 0 n n)) k.av) k.sl.defers ?_
  exact⟨_,rfl,Yd ⟨o,_,C,k.st.made (b:=0) rfl,hR,rfl⟩⟩
def prS(N:Nat)(a b:Nat->Nat):Nat->Nat
 | 0=>0
 | i+1=>sPl N (prS N a b i) (sTi N (b i) (a i))
def BH{a b:Nat->Nat}(k:0<N):∀i,prS N a b i<N
 | 0=>k
 | _+1=>Zi _ k
structure CbS(w W:XF)(N k4 k5 i:Nat)(a b:Nat->Nat):Prop where
 bl:kZ w W
 r4:Row W k4 [uZ 0,uZ 0,uZ 0,uZ 0]
 r5:Row W k5 (wn (prS N a b i))
def CbS.grow{w W W':XF}{d c i:Nat}{a b:Nat->Nat}(h:CbS w W N d c i a b)(k:kZ W W'):CbS w W' N d c i a b:=
 ⟨h.bl.trans (k.mono h.bl.size),h.r4.below k,h.r5.below k⟩
def CbS.drew{w W:XF}{c k i:Nat}{a b:Nat->Nat}(h:CbS w W N c k i a b):CbS w W.drew N c k i a b:=⟨h.bl.drew,h.r4,h.r5⟩
def wn0:wn 0=[uZ 0,uZ 0,uZ 0,uZ 0]:=kR
def aP{W:XF}{k K o:Nat}{vs us:List XG}(h:Row W k vs)(b:k≠K):Row (W.setCells K o us) k vs:=aS h (by rw[setCells_size];exact XH _) (aE us o W k b)
def CbS.put{w W:XF}{d k i:Nat}{a b:Nat->Nat}(h:CbS w W N d k i a b)(e:w.heap.size<=k)(c:d≠k):CbS w (W.setCells k 0 (wn (prS N a b (i+1)))) N d k (i+1) a b:=
 ⟨RG.below_setCells e _ _ _ h.bl,aP h.r4 c,h.r5.put rfl⟩
def Cc(O:Ord N){Q:Nat->Prop}(n:Nat)(hn:n<=512)(a b:Nat->Nat)(ha:∀i,i<n->a i<N)(C:∀i,i<n->b i<N)(va vb:XG)(w:XF)(h1:SLq Q w va n a)(h2:SLq Q w vb n b):
 cZ 87 #[va,vb] w (rZ w λe w'=>e=nv (prS N a b n)):=by
 obtain⟨g1,o1,c1,rfl,-,-,h5,U⟩:=h1;obtain⟨r,z,c2,rfl,-,-,h0,T⟩:=h2;obtain⟨c,A⟩:=yH w.heap.size;obtain⟨w1,I⟩:=yH ((w.alloc (.cells #[uZ 0,uZ 0,uZ 0,uZ 0] 44)).alloc (.cells #[uZ 0,uZ 0,uZ 0,uZ 0] 44));have K1:Hid (CbS w w1 N c (c+1) 0 a b):=by
  rw[<-I.out,<-A.out];have hR:=row_new (w.alloc (.cells #[uZ 0,uZ 0,uZ 0,uZ 0] 44)) [uZ 0,uZ 0,uZ 0,uZ 0] 44;rw[XS]at hR;exact⟨(aC _).alloc (by rw[XS];omega) _,(row_new w _ _).alloc _,by show Row _ _ (wn 0);rw[wn0];exact hR⟩
 have f:Hid (Ord N/\(∀i,i<n->a i<N)/\(∀i,i<n->b i<N)/\(∀j,j<n->w.rangeAt g1 (o1+4*j) (wn (a j)))/\(∀j,j<n->w.rangeAt r (z+4*j) (wn (b j)))/\g1<w.heap.size/\r<w.heap.size/\w.heap.size<=c):=⟨O,ha,C,U,T,h5,h0,A.out▸XH _⟩
 obtain⟨d,X,S⟩:=XK.1 u40;have HD:Hid (prog.underlying 44=some d/\d.isRow=true):=⟨X,S⟩
 clear O ha C U T h5 h0 X S;go_enter func87,ntmps87;go_wp2;rw[I.out,A.out];clear I A;go_loopg [10] n (λm s10 W=>∃i:Nat,i+m=n/\s10=iZ i/\Hid (CbS w W N c (c+1) i a b))
 case atStart=>exact⟨0,oM,rfl,K1⟩
 case round =>
  clear K1;obtain⟨i,hc,rfl,D⟩:=hrel;by_cases P:i<n
  .have h7:(i:Int)<(n:Int):=oM;have h9:(i:Int)<=600:=oM;have HL:=Hid.mk' P;have h8:=mF (k:=g1) (o:=o1) (c:=c1) P;have B0:Hid (wr.rangeAt g1 (o1+4*i) (wn (a i))):=RG.range_below (f.2.2.2.1 i P) D.bl f.2.2.2.2.2.1;obtain⟨M,B⟩:=yH wr.heap.size;obtain⟨R,J⟩:=yH (wr.alloc (.cells #[uZ 0,uZ 0,uZ 0,uZ 0] 44));obtain⟨W2,F⟩:=yH (R.setCells M 0 (wn (a i)));have F1:Hid (Row R M [uZ 0,uZ 0,uZ 0,uZ 0]/\kZ wr R):=by rw[<-J.out,<-B.out];exact⟨row_new wr _ _,aC _⟩
   have F2:Hid (Row W2 M (wn (a i))/\CbS w W2 N c (c+1) i a b):=by
    rw[<-F.out];exact⟨F1.1.put rfl,D.grow (RG.below_setCells (B.out▸XH _) _ _ _ F1.2)⟩
   obtain⟨va,h3⟩:=yH (Yg (wn (a i)).toArray);have HO:Hid ((wn (a i)).toArray.all (·.oneCell')=true):=aI;clear D;go_wp2_with (first|(refine YG rfl 44 _ rfl g1 (o1+4*i) ?_ (wn (a i)) d ?_ ?_ ?_ ?_ ?_;rfl;exact B0;exact HD.1;exact HD.2;exact i40;rw[h3.out])|(refine bF (v:=jZ M) (w':=R) rfl (.alloc 44) rfl ?_ ?_;(rw[<-J.out,<-B.out];kernel_rfl))|(refine Yi rfl 44 _ _ rfl M 0 (wn (a i)).toArray ?_ ?_ ?_ ?_ ?_ ?_;rfl;exact h3.symm;exact F1.1.2.2;exact i40;exact HO;rw[show(wn (a i)).toArray.toList=wn (a i) from rfl,F.out])|fail)
   clear J F B F1 HO;obtain⟨s,K⟩:=yH (prS N a b i);have HN:Hid (s<N/\a i<N/\b i<N):=⟨K.out▸BH f.1.pos i,f.2.1 i P,f.2.2.1 i P⟩
   obtain⟨p,H⟩:=yH (sTi N (b i) (a i));obtain⟨q,l⟩:=yH (sPl N s p);have HP:Hid (p<N):=by show p<N;rw[<-H.out];exact Zi _ f.1.pos
   have HQ:Hid (prS N a b (i+1)=q):=by show _=_;rw[<-l.out,<-H.out,<-K.out];rfl
   have hT:=λW=>gW f.1 (b i) (a i) HN.2.2 HN.2.1 W
   have L:=λW=>mP f.1 s p HN.1 HP W
   rw[H.out]at hT;rw[l.out]at L;have Y:∀W,kZ w W->W.rangeAt r (z+4*i) (wn (b i)):=λW t=>RG.range_below (f.2.2.2.2.1 i P) t f.2.2.2.2.2.2.1
   have h4:∀W,CbS w W N c (c+1) i a b->W.rangeAt (c+1) 0 (wn s):=λW h=>K.out▸h.r5.2.1
   refine(gwL [pE (nv s),pE (.iface 44 (nv s)),pE (qZ r z n c2),pE (iZ i),pE (oZ r (z+4*i)),pE (nv (b i)),pE (.iface 44 (nv (b i))),pE (nv (a i)),pE (nv p),pE (nv q)] (λW=>CbS w W N c (c+1) i a b/\Row W M (wn (a i))) (λW W' C h=>⟨h.1.grow C,h.2.below C⟩)).last 10 kR kR kR ⟨
    iU 5 (c+1) 0 u40 i40 rfl (λW t=>h4 W t.1) (λ_=>rfl),
    sL 0 15 (nv s) (.iface 44 (nv s)) (λx W h=>h) (λ_=>rfl),
    gO 1 (qZ r z n c2),
    gO 6 (iZ i),
    BZ 2 17 3 18 (qZ r z n c2) (iZ i) (mF HL) (λx W h=>h) (λx W h=>h) (λ_=>rfl),
    gLr 4 19 (λW t=>Y W t.1.bl) u40 i40,
    sL 5 20 (nv (b i)) (.iface 44 (nv (b i))) (λx W h=>h) (λ_=>rfl),
    iU 7 M 0 u40 i40 rfl (λW t=>t.2.2.1) (λ_=>rfl),
    qK 44 6 21 7 22 (pE (nv (b i))) 26 (λx W h=>⟨_,h,rfl⟩) (λx y W hx g t=>by
     obtain rfl:x=nv (b i):=hx;obtain rfl:y=nv (a i):=g;apply(hT W).mono;rintro e W' ⟨u,rfl,C,rfl⟩;exact⟨_,rfl,C,rfl⟩),
    qK 44 1 16 8 23 (pE (nv s)) 25 (λx W h=>⟨_,h,rfl⟩) (λx y W hx g t=>by
     obtain rfl:x=nv s:=hx;obtain rfl:y=nv p:=g;apply(L W).mono;rintro e W' ⟨u,rfl,C,rfl⟩;exact⟨_,rfl,C,rfl⟩),yE5⟩ ⟨F2.2.drew,F2.1⟩ ?_
   intro V W3 Z G;have h6:V 9=nv q:=Z 9 dC;obtain⟨E,g⟩:=yH (W3.setCells (c+1) 0 (wn q));have K4:Hid (CbS w E N c (c+1) (i+1) a b):=by
    have h:=G.1.put (oN f.2.2.2.2.2.2.2) oM;rw[HQ.out,g.out]at h;exact h
   have HT:Hid (W3.there (c+1) 0 4):=G.1.r5.2.2;dsimp only[bY,YQ,Z4,Z5];simp only[Yo,XJ,XM,XO];obtain⟨vq,o⟩:=yH (nv q);rw[h6,o.out];clear Z G h6 F2 hT L Y h4;generalize V 0=s0;generalize V 1=s1;generalize V 2=s2;generalize V 3=s3;generalize V 4=s4;generalize V 5=s5;generalize V 6=s6;generalize V 7=s7;generalize V 8=s8;go_wp2_with (first|(refine Yi rfl 44 _ _ rfl (c+1) 0 (wn q).toArray ?_ ?_ ?_ ?_ ?_ ?_;rfl;exact o.symm;exact HT;exact i40;exact aI;rw[show(wn q).toArray.toList=wn q from rfl,g.out])|fail)
   go_roundg (gk-1)
   case measure=>omega
   case rel=>exact⟨i+1,oM,rfl,K4⟩
  .have h7:¬(i:Int)<(n:Int):=oM;obtain rfl:i=n:=oM;obtain⟨q,l⟩:=yH (prS N a b i);obtain⟨E,g⟩:=yH (wr.setCells c 0 (wn q));have R5:Hid (wr.rangeAt (c+1) 0 (wn q)/\wr.there c 0 4):=⟨l.out▸D.r5.2.1,D.r4.2.2⟩
   have K4:Hid (kZ w E/\Row E c (wn q)):=by
    rw[<-g.out];exact⟨RG.below_setCells f.2.2.2.2.2.2.2 _ _ _ D.bl,D.r4.put rfl⟩
   obtain⟨vq,o⟩:=yH (nv q);clear D;go_wp2_with (first|(refine YG rfl 44 _ rfl (c+1) 0 ?_ (wn q) d ?_ ?_ ?_ ?_ ?_;rfl;exact R5.1;exact HD.1;exact HD.2;exact i40;rw[show Yg (wn q).toArray=vq from o.out])|(refine Yi rfl 44 _ _ rfl c 0 (wn q).toArray ?_ ?_ ?_ ?_ ?_ ?_;rfl;exact o.symm;exact R5.2;exact i40;exact aI;rw[show(wn q).toArray.toList=wn q from rfl,g.out])|fail)
   refine XR (aF 4 rfl K4.2 rfl u40 i40) rfl ?_;exact⟨_,rfl,K4.1,by rw[l.out];rfl⟩
def Bt:wZ 82:=wQ
structure CbM(w W:XF)(v:XG)(l:LB):Prop where
 bl:kZ w W
 sm:SmZ w.heap.size W v l
def CbM.grow{w W W':XF}{v:XG}{l:LB}(h:CbM w W v l)(k:kZ W W'):CbM w W' v l:=⟨h.bl.trans (k.mono h.bl.size),h.sm.grow k⟩
def CbM.drew{w W:XF}{v:XG}{l:LB}(h:CbM w W v l):CbM w W.drew v l:=⟨h.bl.drew,h.sm.grow ⟨rfl,rfl,rfl,XH _,λ_ _=>rfl⟩⟩
def JL{B:Nat}{W:XF}{v:XG}{l:LB}(h:SmZ B W v l):SmZ 0 W v l:=by
 rcases h with h|⟨g,c,b,d,-,k⟩
 .exact Yk h
 .exact Yd ⟨g,c,b,d,Zq _,k⟩
def Mg(O:Ord N){Q:Nat->Prop}(n c:Nat)(h3:0<n)(h5:0<c)(hn:n<=512)(M:c*n<=400)(a:Nat->Nat)(T:Nat->LB)(ha:∀i,i<n->a i<N)(hT:∀i,i<n->TOk N (T i))(hl:∀i,i<n->(T i).length=c)(va vb:XG)(w:XF)(h1:SLq Q w va n a)(I:GLq Q w vb n T):
 cZ 132 #[va,vb] w (rZ w λe w'=>Sm w.heap.size w' e (dH N a T n)):=by
 obtain⟨K,Z,c1,rfl,-,-,h4,X⟩:=h1;obtain⟨b,f,c2,rfl,-,-,h0,S⟩:=I;have K1:Hid (CbM w w nZ (dH N a T 0)):=⟨XX _ _,Yk ⟨rfl,rfl⟩⟩
 have k:Hid (Ord N/\(∀i,i<n->a i<N)/\(∀i,i<n->TOk N (T i))/\(∀i,i<n->(T i).length=c)/\(∀j,j<n->w.rangeAt K (Z+4*j) (wn (a j)))/\(∀j,j<n->∃x,w.cell? ⟨b,f+j,none⟩=some x/\SmQ Q w x (T j))/\K<w.heap.size/\b<w.heap.size/\0<c/\c*n<=400/\0<n):=⟨O,ha,hT,hl,X,S,h4,h0,h5,M,h3⟩
 obtain⟨d,Y,P⟩:=XK.1 u40;have HD:Hid (prog.underlying 44=some d/\d.isRow=true):=⟨Y,P⟩
 go_enter func132,ntmps132;go_wp2;go_loopg [5,10] n (λm s5 s10 W=>∃i:Nat,i+m=n/\s10=iZ i/\Hid (CbM w W s5 (dH N a T i)))
 case atStart=>exact⟨0,oM,rfl,K1⟩
 case round =>
  obtain⟨i,hc,rfl,H⟩:=hrel;by_cases r:i<n
  .have U:(i:Int)<(n:Int):=oM;have HL:=Hid.mk' r;have h9:=mF (k:=K) (o:=Z) (c:=c1) r;have B0:=mk1 (RG.range_below (k.2.2.2.2.1 i r) H.bl k.2.2.2.2.2.2.1);obtain⟨t,s⟩:=hE (wr.heap.size);obtain⟨J,G⟩:=hE (wr.alloc (.cells #[uZ 0,uZ 0,uZ 0,uZ 0] 44));obtain⟨W2,D⟩:=hE (J.setCells t 0 (wn (a i)));have R:Hid (Row J t [uZ 0,uZ 0,uZ 0,uZ 0]/\kZ wr J):=by rw[<-G.out,<-s.out];exact⟨row_new wr _ _,aC _⟩
   have F2:Hid (Row W2 t (wn (a i))/\CbM w W2 u5 (dH N a T i)):=by
    rw[<-D.out];exact⟨R.1.put rfl,H.grow (RG.below_setCells (s.out▸XH _) _ _ _ R.2)⟩
   obtain⟨va,F⟩:=hE (Yg (wn (a i)).toArray);have HO:Hid ((wn (a i)).toArray.all (·.oneCell')=true):=aI;go_wp2_with (first|(refine YG rfl 44 _ rfl K (Z+4*i) ?_ (wn (a i)) d ?_ ?_ ?_ ?_ ?_;rfl;exact B0;exact HD.1;exact HD.2;exact i40;rw[F.out])|(refine bF (v:=jZ t) (w':=J) rfl (.alloc 44) rfl ?_ ?_;(rw[<-G.out,<-s.out];kernel_rfl))|(refine Yi rfl 44 _ _ rfl t 0 (wn (a i)).toArray ?_ ?_ ?_ ?_ ?_ ?_;rfl;exact F.symm;exact R.1.2.2;exact i40;exact HO;rw[show(wn (a i)).toArray.toList=wn (a i) from rfl,D.out])|fail)
   obtain⟨x,h6,h7⟩:=k.2.2.2.2.2.1 i r;have HX:=mk2 h6 h7;obtain⟨l,o⟩:=hE (dH N a T i);have B:dH N a T (i+1)=l++(T i).map (tmT N (a i)):=by rw[<-o.out];rfl
   have h8:l.length=c*i:=by rw[<-o.out];exact fD N i λj hj=>k.2.2.2.1 j oM
   have he:c*i+c<=c*n:=by have:=yAf c (yDO r);rwa[yA1]at this
   have E:Hid (l.length<=500/\(T i).length<=500/\0<(T i).length/\TOk N l):=⟨oN k.2.2.2.2.2.2.2.2.2.1,by rw[k.2.2.2.1 i r];have:=k.2.2.2.2.2.2.2.2.2.1;omega,by rw[k.2.2.2.1 i r];exact k.2.2.2.2.2.2.2.2.1,by rw[<-o.out];exact qE k.1.pos i λj hj=>k.2.2.1 j oM⟩
   have HE:Hid (dH N a T (i+1)=l++(T i).map (tmT N (a i))):=B;rw[o.out]at F2;refine(gwL [pE u5,pE (.iface 82 u5),pE (qZ b f n c2),pE (iZ i),pE (oZ b (f+1*i)),pE x,pE (.iface 82 x),pE (nv (a i)),pM (w.heap.size<=·) ((T i).map (tmT N (a i))),pM (w.heap.size<=·) (l++(T i).map (tmT N (a i))),pM (w.heap.size<=·) (l++(T i).map (tmT N (a i)))] (λW=>CbM w W u5 l/\Row W t (wn (a i))) (λW W' A h=>⟨h.1.grow A,h.2.below A⟩)).draws kR kR ⟨
    gO 5 u5,
    sL 0 15 u5 (.iface 82 u5) (λx W h=>h) (λ_=>rfl),
    gO 1 (qZ b f n c2),
    gO 6 (iZ i),
    BZ 2 17 3 18 (qZ b f n c2) (iZ i) (atS b f c2 HL) (λx W h=>h) (λx W h=>h) (λ_=>rfl),
    fC 4 19 b (f+1*i) x Bt (λx W h=>h) (λW q=>by rw[Z6,q.1.bl.cell (p:=⟨b,f+i,none⟩) k.2.2.2.2.2.2.2.1];exact HX.1) (λ_=>rfl),
    sL 5 20 x (.iface 82 x) (λx W h=>h) (λ_=>rfl),
    iU 7 t 0 u40 i40 rfl (λW q=>q.2.2.1) (λ_=>rfl),
    qK 82 6 21 7 22 (pE x) 149 (λx W h=>⟨_,h,rfl⟩) (λz y W hx C q=>by
     obtain rfl:z=x:=hx;obtain rfl:y=nv (a i):=C;apply(eH k.1 (k.2.1 i HL) 0 z (T i) (oN E.2.1) (k.2.2.1 i HL).szm (k.2.2.1 i HL).lt W (HX.2.sm.grow q.1.bl)).mono;rintro e W' ⟨u,rfl,A,V⟩;exact⟨_,rfl,A,V.q.mono λg L=>XN q.1.bl.size L⟩),
    qK 82 1 16 8 23 (pE u5) 31 (λx W h=>⟨_,h,rfl⟩) (λz y W hx C q=>by
     obtain rfl:z=u5:=hx;have C:=C;refine(cA 0 z y l ((T i).map (tmT N (a i))) (by rw[XP,X7];have:=E.2.2.1;omega) E.1 (by rw[X7];exact E.2.1) E.2.2.2.sz ((k.2.2.1 i HL).tm k.1.pos (a i)).sz W (JL q.1.sm) (Yd C.sm)).mono ?_;rintro e W' ⟨u,rfl,A,V⟩;exact⟨_,rfl,A,V.q.mono λg L=>XN q.1.bl.size L⟩),
    Dk 9 24 id (λx W h=>h),yE5⟩ ⟨F2.2.drew,F2.1⟩ ?_
   intro V W3 L C;have q:Hid (CbM w W3 (V 10) (dH N a T (i+1))):=⟨C.1.bl,Yd (HE.out▸L 10 (Z7 (YM kR)))⟩
   dsimp only[bY,YQ];go_wp2;go_roundg (gk-1)
   case measure=>omega
   case rel=>exact⟨i+1,oM,rfl,q⟩
  .have U:¬(i:Int)<(n:Int):=oM;obtain rfl:i=n:=oM;have q:Hid (kZ w wr/\Sm w.heap.size wr u5 (dH N a T i)):=⟨H.bl,by
    rcases H.sm with⟨-,h⟩|h
    .exfalso;have:=fD N i k.2.2.2.1;rw[h]at this;have I:=yDq k.2.2.2.2.2.2.2.2.1 k.2.2.2.2.2.2.2.2.2.2;rw[<-this]at I;exact absurd I (Nat.lt_irrefl _)
    .exact h⟩
   go_wp2;go_ret;exact⟨_,rfl,q.1,q.2⟩
def rSc:yZ 44:=u40
def nSc:gZ 44 4:=i40
def oP(N x y n:Nat)(a:Nat->Nat)(i:Nat):Nat:=sPl N (sTi N (a i) x) (sTi N (a (n+i)) y)
structure FdS(w W:XF)(K k4 k5 n i x y:Nat)(f:Nat->Nat):Prop where
 ar:Ar w W K 4 n i (λj=>wn (f j))
 r4:Row W k4 (wn x)
 r5:Row W k5 (wn y)
def FdS.grow{w W W':XF}{K c b n i x y:Nat}{f:Nat->Nat}(h:FdS w W K c b n i x y f)(k:kZ W W'):FdS w W' K c b n i x y f:=⟨h.ar.grow k,h.r4.below k,h.r5.below k⟩
def FdS.drew{w W:XF}{K b k n i x y:Nat}{f:Nat->Nat}(h:FdS w W K b k n i x y f):FdS w W.drew K b k n i x y f:=h.grow ⟨rfl,rfl,rfl,XH _,λ_ _=>rfl⟩
def FdS.put{w W:XF}{K b k n i x y:Nat}{f:Nat->Nat}(h:FdS w W K b k n i x y f)(e:w.heap.size<=K)(d:i<n)(c:b≠K)(g:k≠K):FdS w (W.setCells K (4*i) (wn (f i))) K b k n (i+1) x y f:=
 ⟨h.ar.put e d (λ_ _=>rfl),aP h.r4 c,aP h.r5 g⟩
def QA{a b:Nat}{w:XF}(h:a+b<4611686018427387904):(binOp .add 3 (iZ a) (iZ b)).run prog w=.ok (iZ ((a+b:Nat):Int)) w:=by
 have c:(a:Int)+(b:Int)<4611686018427387904:=oM;have d:-4611686018427387904<(a:Int)+(b:Int):=oM;have k:Yt.wrap ((a:Int)+(b:Int))=((a+b:Nat):Int):=by rw[Zo];omega
 go_simp
def VH(w:XF)(x y:Nat):∃k,Hid ((w.alloc (.cells (wn x).toArray 44)).alloc (.cells (wn y).toArray 44)=k)/\kZ w k/\Row k w.heap.size (wn x)/\Row k (w.heap.size+1) (wn y)/\k.heap.size=w.heap.size+2:=by
 have hR:=row_new (w.alloc (.cells (wn x).toArray 44)) (wn y) 44;rw[XS]at hR;exact⟨_,Hid.mk' rfl,(aC _).alloc (by rw[XS];omega) _,(row_new w _ _).alloc _,hR,by rw[XS,XS]⟩
def LP(O:Ord N){Q:Nat->Prop}(n:Nat)(hn:n<=500)(a:Nat->Nat)(x y:Nat)(hx:x<N)(r:y<N)(ha:∀i,i<n+n->a i<N)(va:XG)(w:XF)(h1:SLq Q w va (n+n) a):
 cZ 145 #[va,nv x,nv y] w (rZ w λe w'=>SLq (w.heap.size<=·) w' e n (oP N x y n a)):=by
 obtain⟨b,c,c1,rfl,-,-,he,h3⟩:=h1;obtain⟨m,hm⟩:=yH (n+n);have hq:(m:Int).tdiv 2=(n:Int):=by rw[<-hm.out,yAS oM];omega
 obtain⟨U,hc,G,L,S,R⟩:=VH w x y;obtain⟨C0,Z,hg⟩:=C7 uS4 iS4 n oM;have s:=hg U;obtain⟨K,hK⟩:=yH U.heap.size;obtain⟨w3,E⟩:=yH (U.alloc (.cells C0.toArray 44));have Y:Ar U w3 K 4 n 0 (λj=>wn (oP N x y n a j)):=Ar.new _ Z E hK;rw[E.out,hK.out]at s;obtain⟨d,l⟩:=yH w.heap.size;rw[l.out]at L S R;have HK:Hid (K=d+2/\w.heap.size<=d):=⟨by rw[<-hK.out,R],l.out▸XH _⟩
 have K1:Hid (FdS w w3 K d (d+1) n 0 x y (oP N x y n a)):=⟨⟨G.trans (Y.bl.mono G.size),Y.lt,Y.th,λj hj=>absurd hj (yAh _)⟩,L.below Y.bl,S.below Y.bl⟩
 have g:Hid (Ord N/\x<N/\y<N/\(∀i,i<n+n->a i<N)/\(∀j,j<n+n->w.rangeAt b (c+4*j) (wn (a j)))/\b<w.heap.size):=⟨O,hx,r,ha,h3,he⟩
 obtain⟨vx,h8⟩:=yH (nv x);obtain⟨vy,h5⟩:=yH (nv y);obtain⟨B,J⟩:=yH (w.alloc (.cells (wn x).toArray 44));have B1:Hid ((Yu 44 vx).run prog w=.ok (jZ d) B):=h8.out▸J.out▸l.out▸boxS;have B2:Hid ((Yu 44 vy).run prog B=.ok (jZ (d+1)) U):=by
  have h:=boxS (n:=y) (w:=B);rw[show B.heap.size=d+1 by rw[<-J.out,XS,l.out]]at h;have e:B.alloc (.cells (wn y).toArray 44)=U:=J.out▸hc;rw[e]at h;rw[<-h5.out];exact h
 rw[h8.out,h5.out,hm.out];clear O hx r ha h3 he G L S R Y Z hg hK E l hc;go_enter func145,ntmps145;go_wp2_with (first|(refine aG (u:=vx) (v:=jZ d) (w':=B) rfl 44 (.tmp 1) rfl ?_ ?_ ?_;rfl;exact B1)|(refine aG (u:=vy) (v:=jZ (d+1)) (w':=U) rfl 44 (.tmp 2) rfl ?_ ?_ ?_;rfl;exact B2)|fail)
 clear s B1 B2 hq;go_loopg [15] n (λm s15 W=>∃i:Nat,i+m=n/\s15=iZ i/\Hid (FdS w W K d (d+1) n i x y (oP N x y n a)))
 case atStart=>exact⟨0,oM,rfl,K1⟩
 case round =>
  clear K1;obtain⟨i,hs,rfl,X⟩:=hrel;by_cases hi:i<n
  .have hl:(i:Int)<(n:Int):=oM;have hr:(i:Int)<=600:=oM;have HL:=Hid.mk' hi;have KP:=X;clear X;go_wp2_with fail
   obtain⟨p1,P⟩:=yH (sTi N (a i) x);obtain⟨p2,C⟩:=yH (sTi N (a (n+i)) y);obtain⟨q,h7⟩:=yH (sPl N p1 p2);have HP:Hid (p1<N/\p2<N):=⟨P.out▸Zi _ g.1.pos,C.out▸Zi _ g.1.pos⟩
   have HQ:Hid (oP N x y n a i=q):=by show _=_;rw[<-h7.out,<-P.out,<-C.out];rfl
   have H:=λW=>gW g.1 (a i) x (g.2.2.2.1 i oM) g.2.1 W
   have D:=λW=>gW g.1 (a (n+i)) y (g.2.2.2.1 (n+i) oM) g.2.2.1 W
   have M:=λW=>mP g.1 p1 p2 HP.1 HP.2 W
   rw[P.out]at H;rw[C.out]at D;rw[h7.out]at M;have h0:∀W,kZ w W->W.rangeAt b (c+4*i) (wn (a i)):=λW f=>RG.range_below (g.2.2.2.2.1 i oM) f g.2.2.2.2.2
   have h6:∀W,kZ w W->W.rangeAt b (c+4*(n+i)) (wn (a (n+i))):=λW f=>RG.range_below (g.2.2.2.2.1 (n+i) oM) f g.2.2.2.2.2
   have hk:i<m:=by rw[<-hm.out];omega
   have h2:n+i<m:=by rw[<-hm.out];omega
   refine(gwL [pE (sZ K n n),pE (iZ i),pE (qZ b c m c1),pE (iZ i),pE (oZ b (c+4*i)),pE (nv (a i)),pE (.iface 44 (nv (a i))),pE (nv x),pE (nv p1),pE (.iface 44 (nv p1)),pE (qZ b c m c1),pE (sZ K n n),pE (iZ n),pE (iZ i),pE (iZ ((n+i:Nat):Int)),pE (oZ b (c+4*(n+i))),pE (nv (a (n+i))),pE (.iface 44 (nv (a (n+i)))),pE (nv y),pE (nv p2),pE (nv q),pE (oZ K (0+4*i))] (λW=>FdS w W K d (d+1) n i x y (oP N x y n a)) (λW W' T h=>h.grow T)).last 22 kR kR kR ⟨
    gO 7 (sZ K n n),
    gO 8 (iZ i),
    gO 0 (qZ b c m c1),
    gO 8 (iZ i),
    BZ 2 20 3 21 (qZ b c m c1) (iZ i) (mF hk) (λx W h=>h) (λx W h=>h) (λ_=>rfl),
    gLr 4 22 (λW f=>h0 W f.ar.bl) rSc nSc,
    sL 5 23 (nv (a i)) (.iface 44 (nv (a i))) (λx W h=>h) (λ_=>rfl),
    iU 4 d 0 rSc nSc rfl (λW f=>f.r4.2.1) (λ_=>rfl),
    qK 44 6 24 7 25 (pE (nv (a i))) 26 (λx W h=>⟨_,h,rfl⟩) (λz u W hx r f=>by
     obtain rfl:z=nv (a i):=hx;obtain rfl:u=nv x:=r;apply(H W).mono;rintro e W' ⟨u,rfl,T,rfl⟩;exact⟨_,rfl,T,rfl⟩),
    sL 8 26 (nv p1) (.iface 44 (nv p1)) (λx W h=>h) (λ_=>rfl),
    gO 0 (qZ b c m c1),
    gO 7 (sZ K n n),
    sL 11 29 (sZ K n n) (iZ n) (λx W h=>h) (λ_=>rfl),
    gO 8 (iZ i),
    LA .add 3 3 30 31 rfl (λa W o=>⟨_,_,iZ ((n+i:Nat):Int),o.n 12 30 kR kR,o.n 13 31 kR kR,kR,QA oM,rfl⟩),
    BZ 10 28 14 32 (qZ b c m c1) (iZ ((n+i:Nat):Int)) (mF h2) (λx W h=>h) (λx W h=>h) (λ_=>rfl),
    gLr 15 33 (λW f=>h6 W f.ar.bl) rSc nSc,
    sL 16 34 (nv (a (n+i))) (.iface 44 (nv (a (n+i)))) (λx W h=>h) (λ_=>rfl),
    iU 5 (d+1) 0 rSc nSc rfl (λW f=>f.r5.2.1) (λ_=>rfl),
    qK 44 17 35 18 36 (pE (nv (a (n+i)))) 26 (λx W h=>⟨_,h,rfl⟩) (λz u W hx r f=>by
     obtain rfl:z=nv (a (n+i)):=hx;obtain rfl:u=nv y:=r;apply(D W).mono;rintro e W' ⟨u,rfl,T,rfl⟩;exact⟨_,rfl,T,rfl⟩),
    qK 44 9 27 19 37 (pE (nv p1)) 25 (λx W h=>⟨_,h,rfl⟩) (λz u W hx r f=>by
     obtain rfl:z=nv p1:=hx;obtain rfl:u=nv p2:=r;apply(M W).mono;rintro e W' ⟨u,rfl,T,rfl⟩;exact⟨_,rfl,T,rfl⟩),
    BZ 0 18 1 19 (sZ K n n) (iZ i) (mF HL) (λx W h=>h) (λx W h=>h) (λ_=>rfl),yE5⟩ KP.drew ?_
   intro V W3 I F;have o:V 20=nv q:=I 20 dC;have A:V 21=oZ K (0+4*i):=I 21 dC;obtain⟨W4,h4⟩:=yH (W3.setCells K (4*i) (wn q));have K4:Hid (FdS w W4 K d (d+1) n (i+1) x y (oP N x y n a)):=by
    have h:=F.put (oN HK) hi (oN HK) (oN HK);rw[HQ.out,h4.out]at h;exact h
   have HT:Hid (W3.there K (4*i) 4):=λt ht=>by
    have:=F.ar.th (4*i+t) oM;rwa[XQ]at this
   dsimp only[bY,YQ,Z4,Z5];simp only[Yo,XJ,XM,XO];obtain⟨vq,h9⟩:=yH (nv q);rw[o,A,h9.out,XQ];clear I F o A KP H D M h6 h0;generalize V 0=s0;generalize V 1=s1;generalize V 2=s2;generalize V 3=s3;generalize V 4=s4;generalize V 5=s5;generalize V 6=s6;generalize V 7=s7;generalize V 8=s8;generalize V 9=s9;generalize V 10=s10;generalize V 11=s11;generalize V 12=s12;generalize V 13=s13;generalize V 14=s14;generalize V 15=s15;generalize V 16=s16;generalize V 17=s17;generalize V 18=s18;generalize V 19=s19;go_wp2_with (first|(refine Yi rfl 44 _ _ rfl K (4*i) (wn q).toArray ?_ ?_ ?_ ?_ ?_ ?_;rfl;exact h9.symm;exact HT;exact i40;exact aI;rw[show(wn q).toArray.toList=wn q from rfl,h4.out])|fail)
   go_roundg (gk-1)
   case measure=>omega
   case rel=>exact⟨i+1,oM,rfl,K4⟩
  .have hl:¬(i:Int)<(n:Int):=oM;obtain rfl:i=n:=oM;have K4:Hid (kZ w wr/\SLq (w.heap.size<=·) wr (sZ K i i) i (oP N x y i a)):=⟨X.ar.bl,K,0,i,rfl,XH _,oN HK,X.ar.lt,λj hj=>by rw[XQ];exact X.ar.rw j hj⟩
   clear X;go_wp2;go_ret;exact⟨_,rfl,K4.1,K4.2⟩
end
section
def aM{w k:XF}{g:Nat}{z:List XG}{T:Yj}(b:Hid (w.heap.size=g))(c:Hid (w.alloc (.cells z.toArray T)=k)):Hid (kZ w k/\Row k g z):=by
 rw[<-c.out,<-b.out];exact⟨aC _,row_new w _ _⟩
def GB{w b k:XF}{g:Nat}{z vs:List XG}{T:Yj}(c:Hid (w.heap.size=g))(e:Hid (w.alloc (.cells z.toArray T)=b))(f:Hid (b.setCells g 0 vs=k))(d:vs.length=z.length):Hid (b.there g 0 vs.toArray.size/\kZ w k/\Row k g vs):=by
 have h:=(aM c e).out;rw[<-f.out];exact⟨by rw[YJ,d];exact h.2.2.2,RG.below_setCells (c.out▸XH _) _ _ _ h.1,h.2.put d⟩
structure Kz(Z:Nat->Prop)(w w':XF):Prop where
 os:w'.os=w.os
 tape:w'.tape=w.tape
 output:w'.output=w.output
 size:w.heap.size<=w'.heap.size
 block:∀g,g<w.heap.size->Z g->w'.heap[g]? = w.heap[g]?
section
variable {Z:Nat->Prop}{w w' W:XF}{k o:Nat}{vs:List XG}
def Kz.of(h:kZ w w'):Kz Z w w':=⟨h.os,h.tape,h.output,h.size,λg k _=>h.block g k⟩
def Kz.trans(h:Kz Z w w')(k:Kz Z w' W):Kz Z w W:=⟨k.os.trans h.os,k.tape.trans h.tape,k.output.trans h.output,XN h.size k.size,λg b c=>(k.block g (XI b h.size) c).trans (h.block g b c)⟩
def Kz.bel(h:Kz Z w w')(b:∀g,Z g):kZ w w':=⟨h.os,h.tape,h.output,h.size,λg k=>h.block g k (b g)⟩
def Kz.kq{Q:Nat->Prop}(h:Kz Z w w')(c:∀g,Q g->Z g):Kq Q w w':=⟨h.size,λg k b=>h.block g b (c g k)⟩
def Kz.set(h:Kz Z w W)(b:w.heap.size<=k\/¬Z k):Kz Z w (W.setCells k o vs):=by
 obtain⟨f,i,e⟩:=nU k vs o W;refine⟨f.trans h.os,i.trans h.tape,e.trans h.output,by rw[setCells_size];exact h.size,λg d c=>?_⟩;rw[aE (k:=k) vs o W g (by rintro rfl;rcases b with b|b;omega;exact b c)];exact h.block g d c
def Kz.range(h:Kz Z w w')(c:Z k)(b:k<w.heap.size)(d:w.rangeAt k o vs):w'.rangeAt k o vs:=(h.kq λ_ h=>h).range c b d
end
structure LsS(Z:Nat->Prop)(w W:XF)(K n i:Nat)(a:Nat->Nat):Prop where
 kz:Kz Z w W
 lt:K<W.heap.size
 th:W.there K 0 (4*n)
 rw:∀j,j<i->W.rangeAt K (4*j) (wn (a j))
def D8{w w':XF}{k o n:Nat}(h:w.there k o n)(e:w'.heap[k]? = w.heap[k]?):w'.there k o n:=λj b=>by
 have:=h j b;rw[Yb (a:=⟨k,o+j,none⟩) e,Y6 (a:=⟨k,o+j,none⟩) e];exact this
def LsS.grow{Z:Nat->Prop}{w W W':XF}{K n i:Nat}{a:Nat->Nat}(h:LsS Z w W K n i a)(b:Z K)(k:Kz Z W W'):LsS Z w W' K n i a:=
 ⟨h.kz.trans k,XI h.lt k.size,D8 h.th (k.block K h.lt b),λj c=>k.range b h.lt (h.rw j c)⟩
def LsS.put{Z:Nat->Prop}{w W:XF}{K n i:Nat}{a:Nat->Nat}(h:LsS Z w W K n i a)(b:w.heap.size<=K)(c:i<n):LsS Z w (W.setCells K (4*i) (wn (a i))) K n (i+1) a:=by
 refine⟨h.kz.set (Yk b),by rw[setCells_size];exact h.lt,Za h.th _ _ _,λj d=>?_⟩;by_cases e:j=i
 .subst e;exact YW W K _ _ λt k=>by
   have k:t<4:=k;have:=h.th (4*j+t) oM;rwa[XQ]at this
 .exact Yr (h.rw j oM) K _ _ (Yd (by
   show 4*j+4<=4*i\/4*i+4<=4*j;omega))
def AY(n:Nat)(S:n<=512)(f:ZZ)(cap:Array XG)(hf:∀args W,(callFunc f args).run prog W=.ok (.enter f args) W)(a:Nat->Nat)(Z:Nat->Prop)(I:Nat->XF->Prop)(w:XF)(G:∀g,w.heap.size<=g->Z g)(v:∀W,kZ w W->I 0 W)(s:∀i W K o vs,w.heap.size<=K->I i W->I i (yBv W K o vs))
 (J:∀i W,i<n->Kz Z w W->I i W->cZ f (#[iZ i]++cap) W (Ret λe W'=>Kz Z W W'/\I (i+1) W'/\e=nv (a i))) :
 cZ 126 #[iZ n,.func (.func f) #[] cap] w (Ret λe w'=>Kz Z w w'/\I n w'/\SLq (w.heap.size<=·) w' e n a/\∃g c,e=sZ g n c):=by
 obtain⟨C0,p,u⟩:=C7 uS4 iS4 n S;have k:=u w;obtain⟨K,l⟩:=hE (w.heap.size);obtain⟨A,d⟩:=hE (lZ w C0 44);have r:Ar w A K 4 n 0 (λ_=>[]):=Ar.new _ p d l;rw[d.out,l.out]at k;have U:Hid (LsS Z w A K n 0 a/\I 0 A):=⟨⟨Kz.of r.bl,r.lt,r.th,λj E=>absurd E (yAh _)⟩,v A r.bl⟩
 have T:=mk1 J;have N:=mk1 hf;have z:Hid (Z K/\w.heap.size<=K/\∀i W o vs,I i W->I i (yBv W K o vs)):=⟨G K (yBh l),yBh l,λi W o vs=>s i W K o vs (yBh l)⟩
 obtain⟨fv,x⟩:=hE (yCO (.func f) #[] cap);rw[x.out];clear r p u J hf d l v s G;go_enter func126,ntmps126;go_wp2;clear k;go_loopg [11] n (λm s11 W=>∃i:Nat,i+m=n/\s11=iZ i/\Hid (LsS Z w W K n i a/\I i W))
 case atStart=>exact⟨0,oM,rfl,U⟩
 case round =>
  obtain⟨i,R,rfl,b⟩:=hrel;by_cases D:i<n
  .have F:(i:Int)<(n:Int):=oM;have B:=mF (k:=K) (o:=0) (c:=n) D;rw[XQ]at B;have Q:=mk1 D;go_wp2_with (first|(refine tJ rfl 16 17 rfl ?_ ?_ N (T i wr Q b.1.kz b.2) ?_;exact x.symm;rfl;intro e W' hR;refine Hid ?_)|fail)
   obtain⟨L,H,rfl⟩:=hR;have C:=b.1.grow z.1 L;obtain⟨M,q⟩:=hE (W'.setCells K (4*i) (wn (a i)));have O:Hid (LsS Z w M K n (i+1) a/\I (i+1) M):=by rw[<-q.out];exact⟨C.put z.2.1 D,z.2.2 _ _ _ _ H⟩
   have P:Hid (W'.there K (4*i) 4):=λt V=>by
    have:=C.th (4*i+t) oM;rwa[XQ]at this
   obtain⟨X,y⟩:=hE (nv (a i));rw[y.out];clear L H C b;show wpList _ _ _ _ _ _;go_wp2_with (first|(refine Yi rfl 44 _ _ rfl K (4*i) (wn (a i)).toArray ?_ ?_ ?_ ?_ ?_ ?_;rfl;exact y.symm;exact P;exact i40;exact aI;rw[show(wn (a i)).toArray.toList=wn (a i) from rfl,q.out])|fail)
   go_roundg (gk-1)
   case measure=>omega
   case rel=>exact⟨i+1,oM,rfl,O⟩
  .have F:¬(i:Int)<(n:Int):=oM;obtain rfl:i=n:=oM;have q:Hid (Kz Z w wr/\I i wr/\SLq (w.heap.size<=·) wr (sZ K i i) i a):=⟨b.1.kz,b.2,K,0,i,rfl,XH _,z.2.1,b.1.lt,λj E=>by rw[XQ];exact b.1.rw j E⟩
   go_wp2;go_ret;exact⟨_,rfl,q.1,q.2.1,q.2.2,_,_,rfl⟩
def IF{n:Nat}{f:ZZ}{cap:Array XG}{a:Nat->Nat}{Z:Nat->Prop}{I:Nat->XF->Prop}{w:XF}(l:n<=512)(hf:∀args W,(callFunc f args).run prog W=.ok (.enter f args) W)(d:∀g,w.heap.size<=g->Z g)(b:∀W,kZ w W->I 0 W)(k:∀i W K o vs,w.heap.size<=K->I i W->I i (yBv W K o vs))(p:∀i W,i<n->Kz Z w W->I i W->cZ f (#[iZ i]++cap) W (Ret λe W'=>Kz Z W W'/\I (i+1) W'/\e=nv (a i))):
 cZ 126 #[iZ n,.func (.func f) #[] cap] w (Ret λe w'=>Kz Z w w'/\I n w'/\SLq (w.heap.size<=·) w' e n a):=
 (AY n l f cap hf a Z I w d b k p).mono λ_ _ ⟨v,h,j,m,c,_⟩=>⟨v,h,j,m,c⟩
def jL{cap:Array XG}(n:Nat)(d:n<=512)(f:ZZ)(hf:∀args W,(callFunc f args).run prog W=.ok (.enter f args) W)(a:Nat->Nat)(w:XF)(g:∀i W,i<n->kZ w W->cZ f (#[iZ i]++cap) W (rZ W λe W'=>e=nv (a i))):
 cZ 126 #[iZ n,.func (.func f) #[] cap] w (rZ w λe w'=>SLq (w.heap.size<=·) w' e n a):=by
 apply(IF d hf (λ_ _=>trivial) (λ_ _=>trivial) (λ_ _ _ _ _ _ _=>trivial) λi W c j _=>?_).mono
 .apply(g i W c (j.bel λ_=>trivial)).mono;rintro e w' ⟨v,rfl,k,b⟩;exact⟨v,rfl,Kz.of k,trivial,b⟩
 .rintro e w' ⟨v,rfl,k,-,b⟩;exact⟨v,rfl,k.bel λ_=>trivial,b⟩
end
section
variable {P:Nat}[NeZero P]{N:Nat}
abbrev w1c(x:Nat):List XG:=[uZ x,uZ 0,uZ 0,uZ 0]
def QM{x:Nat}(hx:x<2^64):wn x=w1c x:=by
 unfold wn;rw[Ya hx,yAA hx,yAA (by omega:x<2^128),yAA (by omega:x<2^192)];rfl
def rX(x:Nat)(hx:x<2^64):Gives 15 #[uZ x] (nv x):=by
 unfold nv;rw[QM hx];intro w;go_enter func15,ntmps15;refine RG.M.enter [(0,.v (uZ x))] 6 kR ?_;intro a0 d;repeat apply XL
 refine d.T [.m 0] [(0,RG.z 4)] [] [RG.z 4] [0,2] ⟨mk 0 44,yE5⟩ ?_;intro k e g c;repeat apply XL
 refine c.T [.x (uZ x),.x (.agg (w1c x).toArray),.x (.agg (w1c x).toArray),.u 0] [] [(0,3,w1c x)] [w1c x] [2] ⟨st,st,st,RG.pt i40,yE5⟩ ?_;intro a2 f b;refine Zj<|XR (v:=.agg (w1c x).toArray) (aH b.st rfl rfl (b.at (s:=(.p 0 0))) u40 i40) b.sl.defers ?_
 exact⟨_,rfl,b.st.bel.below,rfl⟩
def OO{v i:Nat}(hv:v<2^64):v/2^i<2^64:=Nat.lt_of_le_of_lt (Nat.div_le_self _ _) hv
def tO{w b W W':XF}{k x:Nat}(d:Hid (w.heap.size=k))(g:Hid (w.alloc (.cells (RG.z 4).toArray 44)=b))(c:kZ b W)(f:Hid (W.setCells k 0 (wn x)=W')):Hid (W.there k 0 4/\kZ w W'/\Row W' k (wn x)):=by
 have h:=(aM d g).out;have e:=h.2.below c;rw[<-f.out];exact⟨e.2.2,RG.below_setCells (yBh d) _ _ _ (h.1.trans (c.mono h.1.size)),e.put rfl⟩
def Le(v i k:Nat)(hv:v<2^64)(a:i<64)(w:XF)(l:k<w.heap.size)(o:w.cell? ⟨k,0,none⟩=some (uZ v)):cZ 124 #[iZ i,jZ k] w (rZ w λe w'=>e=nv (v/2^i%2)):=by
 obtain⟨q,j⟩:=hE (w.heap.size);obtain⟨m,b⟩:=hE (lZ w (RG.z 4) 44);have t:=aM j b;have s:m.cell? ⟨k,0,none⟩=some (uZ v):=by rw[t.1.cell (p:=⟨k,0,none⟩) l];exact o
 have g:bits .and .u64 ((v:Int)/2^i) 1=((v/2^i%2:Nat):Int):=by
  rw[<-and_one (OO hv),Int.natCast_ediv,Int.natCast_pow];rfl
 have n:=mk1 (rX (v/2^i%2) oM);generalize v/2^i%2=x at g n⊢;have r:=mk1 g;clear o l g;go_enter func124,ntmps124;go_wp2_with (first|(refine alR 3 j b ?_)|fail)
 rw[r.out];apply(n m).mono;rintro e u ⟨y,rfl,f,rfl⟩;obtain⟨B,c⟩:=hE (u.setCells q 0 (wn x));have R:=tO j b f c;obtain⟨z,d⟩:=hE (nv x);rw[d.out];go_wp2_with (first|(refine stR 3 c d R.1 i40 aI ?_)|fail)
 refine XR (aF 3 rfl R.2.2 rfl u40 i40) rfl ?_;exact⟨_,rfl,R.2.1,rfl⟩
def Sw(O:Ord N)(v i k c:Nat)(hv:v<2^64)(D:i<64)(w:XF)(y:k<w.heap.size)(m:c<w.heap.size)(F:w.cell? ⟨k,0,none⟩=some (uZ v))(n:w.cell? ⟨c,0,none⟩=some (.func (.func 124) #[] #[jZ k])):cZ 125 #[iZ i,jZ c] w (rZ w λe w'=>e=nv (sMi N (v/2^i%2) 1)):=by
 obtain⟨q,s⟩:=hE (w.heap.size);obtain⟨z,b⟩:=hE (lZ w (RG.z 4) 44);have t:=aM s b;have r:z.cell? ⟨c,0,none⟩=some (.func (.func 124) #[] #[jZ k]):=by rw[t.1.cell (p:=⟨c,0,none⟩) m];exact n
 have a:=mk1 (Le v i k hv D z (XI y t.1.size) (by rw[t.1.cell (p:=⟨k,0,none⟩) y];exact F));have u:=mk1 (Ek O (v/2^i%2) 1 (oN O.n2) (oN O.n2));have E:=mk1 (rX 1 dC);generalize v/2^i%2=x at a u⊢;obtain⟨vf,f⟩:=hE (yCO (.func 124) #[] #[jZ k]);rw[f.out]at r;go_enter func125,ntmps125;go_wp2_with (first|(refine alR 3 s b ?_)|(refine tJ rfl 4 5 rfl ?_ ?_ (λ_ _=>kR) a ?_;exact f.symm;rfl;intro e W' hR;refine Hid ?_)|fail)
 obtain⟨d,rfl⟩:=hR;show wpList _ _ _ _ _ _;go_wp2_with fail
 apply(E W').mono;rintro e G ⟨B,rfl,l,rfl⟩;go_wp2_with fail
 apply(u G).mono;rintro e C ⟨B,rfl,o,rfl⟩;obtain⟨I,g⟩:=hE (C.setCells q 0 (wn (sMi N x 1)));have R:=tO s b (d.trans ((l.trans (o.mono l.size)).mono d.size)) g;obtain⟨H,j⟩:=hE (nv (sMi N x 1));rw[j.out];go_wp2_with (first|(refine stR 3 g j R.1 i40 aI ?_)|fail)
 refine XR (aF 3 rfl R.2.2 rfl u40 i40) rfl ?_;exact⟨_,rfl,R.2.1,rfl⟩
end
namespace RG
variable {P:YO}{ops:Array Yw}{Q:Exit->Act->XF->Prop}{w:XF}{a0:Act}{F:Flow}
def nX(k:Array Yw):Nat->Nat->Nat->Bool
 | 0,i,j=>depOn k i j
 | f+1,i,j=>depOn k i j || (YB i).any (λx=>depOn k i x && nX k f x j)
def nD(k:Array Yw)(n:Nat):Bool:=(YB n).all (λj=>nX k 5 n j) && (YB k.size).all (λi=>decide (i<=n) || depOn k i (i-1))
def zW{n i:Nat}(h:nD ops n=true)(c:n<i)(b:i<ops.size):depOn ops i (i-1)=true:=by
 unfold nD at h;rw[XZ]at h;have k:=Yv.1 h.2 i (Y9.2 b);rw[yAc,decide_eq_true_eq]at k;rcases k with k|k
 .omega
 .exact k
def yE{L:Array Bool}{a:Act}(c:InvF F ops a0 L a w):∀(f i j:Nat),i<ops.size->on L i=true->nX ops f i j=true->on L j=true
 | 0,i,j,his,hi,h=>by
  have k:=Ye his;unfold nX depOn at h;rw[k]at h;exact Cb (ho:=k) c h hi
 | f+1,i,j,his,hi,h=>by
  have k:=Ye his;unfold nX at h;rw[yAc]at h;have hd:∀x,depOn ops i x=true->on L x=true:=λx hx=>by
   unfold depOn at hx;rw[k]at hx;exact Cb (ho:=k) c hx hi
  rcases h with h|h
  .exact hd j h
  .obtain⟨x,hx,b⟩:=yDU.1 h;rw[XZ]at b;exact yE c f x j (oN (Y9.1 hx)) (hd x b.1) b.2
def Aw{n:Nat}(D:∀i,n<i->i<ops.size->depOn ops i (i-1)=true)(z:∀(i:Nat) (o:Yw),ops[i]? = some o->∀e∈o.after,Y3 .any e=true->e.on<i):∀(c:Nat) (L:Array Bool) (a:Act) (w:XF) (m:Nat),n<=m->m<=ops.size->L.size=ops.size->(∀j,on L j=true↔j<m)->unl L=c->wpList P ops Q (ops.toList.drop m) a w->wpAny P .any ops Q c L a w:=by
 intro c;induction c with
 | zero =>
  intro L a w m y v t k A h;have q:m=ops.size:=by
   rcases Zx m ops.size with d|d
   .have:=lE A (i:=m) oM;rw[k]at this;omega
   .omega
  rw[q,<-X0,yDS]at h;refine⟨?_,h⟩;apply List.eq_nil_iff_forall_not_mem.2;intro i r;obtain⟨d,o,ho,-⟩:=mem_ready.1 r;have f:=(k i).2 (by rw[q];exact(X9.1 ho).1);unfold on at f;rw[XU]at d f;cases hh:L[i]? with
  | none=>rw[hh]at d;cases d
  | some b=>rw[hh]at d f;rw[show b=false from d]at f;cases f
 | succ c ih =>
  intro L a w m y v t k A h;have s:∀i,i∈Yq .any ops L->i=m:=λi r=>by
   obtain⟨d,o,ho,p⟩:=mem_ready.1 r;have g:on L i=false:=by
    unfold on;rw[XU]at d⊢;cases hh:L[i]? with
    | none=>rfl
    | some b=>rw[hh]at d;exact d
   have l:=(X9.1 ho).1;rcases Nat.lt_trichotomy i m with f|f|f
   .rw[(k i).2 f]at g;cases g
   .exact f
   .have:=(k (i-1)).1 (iE ho p (D i oM l));omega
  refine⟨λB=>?_,λi r=>?_⟩
  .rcases Zx m ops.size with d|d
   .exfalso;have ho:ops[m]? = some ops[m]:=Ye _;have g:on L m=false:=by
     cases u:on L m with
     | false=>rfl
     | true=>have:=(k m).1 u;omega
    have:m∈Yq .any ops L:=mem_ready.2 ⟨?_,_,ho,λe x u=>(k e.on).2 (z m _ ho e x u)⟩
    .rw[B]at this;cases this
    .unfold on at g;rw[XU,Ye (by rw[t];exact d)]at g⊢;exact g
   .have q:m=ops.size:=oM;rw[q,<-X0,yDS]at h;exact h
  .obtain rfl:=s i r;obtain⟨d,o,ho,p⟩:=mem_ready.1 r;have l:=(X9.1 ho).1;have g:ops.toList.drop i=o :: ops.toList.drop (i+1):=by
    rw[List.drop_eq_getElem_cons (by rw[X0];exact l)];have:ops.toList[i]? = some o:=by rw[Array.getElem?_toList];exact ho
    rw[XV (by rw[X0];exact l)]at this;rw[X5.inj this]
   rw[g]at h;have u:wpOp P ops Q i (λx w'=>wpList P ops Q (ops.toList.drop (i+1)) x w') a w:=by
    unfold wpOp;rw[ho];exact h
   refine yCj (λx w' C=>ih _ x w' (i+1) oM oM (by rw[Array.size_setIfInBounds];exact t) (λj=>?_) (oN (mK d)) C) u;rw[eE (by rw[t];omega)];constructor
   .intro q;rw[yAc]at q;rcases q with q|q
    .have:=(k j).1 q;omega
    .have:i=j:=by simpa using q
     omega
   .intro q;by_cases f:j<i
    .rw[(k j).2 f,Bool.true_or]
    .rw[show j=i by omega];simp
def zG{n id:Nat}(F:Flow)(Z:Array Bool->Act->Prop)(T:n<ops.size)(t:nD ops n=true)(K:P.follows .mixedOrders=true)(R:RegF P Q F ops a0 n)(I:∀b,F.B b w.drew)(M:∀L,(∀i,on L i=false)->Z L a0)(B:∀(k:Nat) (o:Yw) (L:Array Bool) (a:Act) (w:XF),k<n->(∀i,on L i=true->i<n)->ops[k]? = some o->on L k=false->(∀e∈o.after,Y3 .any e=true->on L e.on=true)->InvF F ops a0 L a w->Z L a->wpOp P ops Q k (λy w'=>InvF F ops a0 (L.setIfInBounds k true) y w'/\Z (L.setIfInBounds k true) y) a w)(G:∀(V:Nat->XG) (w':XF),(∀i,i<n->F.kill i=[]->F.R i (V i) w')->(∀b,F.killB b=[]->F.B b w')->(∃L a,Z L a/\∀i,i<n->on L i=true/\∀d,aV ops i=some d->a.tmps[d]? = some (V i))->wpList P ops Q (ops.toList.drop n) (bY V (ops.toList.take n) 0 a0) w'):(Zg id ops true).wp P Q a0 w:=by
 have E:∀(i:Nat) (o:Yw),ops[i]? = some o->∀e∈o.after,Y3 .any e=true->e.on<i:=λi o ho=>(R.of ho).1
 have key:∀(g:Nat) (L:Array Bool) (a:Act) (w:XF),unl L=g->(∀j,n<=j->on L j=false)->InvF F ops a0 L a w->Z L a->wpAny P .any ops Q g L a w:=by
  intro g;induction g with
  | zero =>
   intro L a w H c q D;have:=lE H (by rw[q.size];omega);rw[c n (XH _)]at this;cases this
  | succ g ih =>
   intro L a w H c q D;by_cases f:∀j,j<n->on L j=true
   .have m:∀j,on L j=true↔j<n:=λj=>⟨λp=>(by
     rcases Zx j n with h|h
     .exact h
     .rw[c j h]at p;cases p),f j⟩
    obtain⟨V,u,C⟩:=q.all;have N:=q.act R oM m u;have v:∀l:List Nat,l=[]->∀x∈l,on L x=false:=λl O x hx=>by rw[O]at hx;cases hx
    have r:=G V w (λj p J=>C j (f j p) (v _ J)) (λb S=>q.base b (v _ S)) ⟨L,a,D,λi z=>⟨f i z,λd hd=>u i d (f i z) hd⟩⟩;rw[<-N]at r;exact Aw (λi s A=>zW t s A) E _ L a w n (XH _) oM q.size m H r
   .refine⟨λJ=>?_,λi z=>?_⟩
    .exact absurd (λj p=>q.full R J j oM) f
    .obtain⟨s,o,ho,m⟩:=mem_ready.1 z;have u:=(X9.1 ho).1;have v:on L i=false:=by
      unfold on;rw[XU]at s⊢;cases hh:L[i]? with
      | none=>rfl
      | some b=>rw[hh]at s;exact s
     have C:i<n:=by
      rcases Zx i n with h|h
      .exact h
      .exfalso;rcases Zx n i with A|A
       .have:=iE ho m (zW t A u);rw[c (i-1) oM]at this;cases this
       .obtain rfl:i=n:=oM;refine f λj p=>?_
        unfold nD at t;rw[XZ]at t;have r:=Yv.1 t.1 j (Y9.2 p);unfold nX at r;rw[yAc]at r;rcases r with r|r
        .exact iE ho m r
        .obtain⟨x,hx,G⟩:=yDU.1 r;rw[XZ]at G;exact yE q 4 x j (oN (Y9.1 hx)) (iE ho m G.1) G.2
     refine yCj (λy w' r=>ih _ y w' (oN (mK s)) (λj p=>?_) r.1 r.2) (B i o L a w C (λj p=>?_) ho v m q D)
     .rw[eE (by rw[q.size];exact u),c j p];simp only[Bool.false_or,beq_eq_false_iff_ne];omega
     .rcases Zx j n with h|h
      .exact h
      .rw[c j h]at p;cases p
 have c:∀i,on (XW ops.size false) i=false:=λi=>by
  unfold on;rw[XU,Array.getElem?_replicate];by_cases h:i<ops.size
  .rw[yE3 h];rfl
  .rw[yE4 h];rfl
 refine wp_region_any K (key _ _ a0 _ ?_ (λj _=>c j) ⟨X8,(λi o _ h=>by rw[c]at h;cases h),rfl,rfl,λ_ _=>rfl,⟨λ_=>ZB,λi d h=>(by rw[c]at h;cases h),λi h=>(by rw[c]at h;cases h)⟩,λb _=>I b⟩ (M _ c));unfold unl;rw[Array.toList_replicate,List.countP_replicate];simp
def rB{n id:Nat}(F:Flow)(p:n<ops.size)(q:nD ops n=true)(g:P.follows .mixedOrders=true)(R:RegF P Q F ops a0 n)(f:∀b,F.B b w.drew)(e:∀(V:Nat->XG) (w':XF),(∀i,i<n->F.kill i=[]->F.R i (V i) w')->(∀b,F.killB b=[]->F.B b w')->wpList P ops Q (ops.toList.drop n) (bY V (ops.toList.take n) 0 a0) w'):(Zg id ops true).wp P Q a0 w:=
 zG F (λ_ _=>True) p q g R f (λ_ _=>trivial) (λk o L a w c d l r j m _=>yCj (λ_ _ h=>⟨h,yE5⟩) (F6 R c d l r j m)) λV w' c d _=>e V w' c d
def Gw.tail2{id:Nat}(G:Gw)(n:Nat)(k:(decide (n<ops.size) && nD ops n)=true)(f:P.follows .mixedOrders=true)(j:Cd ops a0.tmps.size=true)(h:jB P Q G.flow ops a0 0 (ops.toList.take n))(d:G.B w.drew)
 (c:∀(V:Nat->XG) (w':XF),(∀i,i<n->G.R i (V i) w')->G.B w'->wpList P ops Q (ops.toList.drop n) (bY V (ops.toList.take n) 0 a0) w'):(Zg id ops true).wp P Q a0 w:=by
 rw[XZ,decide_eq_true_eq]at k;exact rB G.flow k.1 k.2 f (Gw.reg j h) (λ_=>d) λV w' e g=>c V w' (λi b=>e i b rfl) (g 0 rfl)
end RG
section
variable {P:Nat}[NeZero P]{N:Nat}
structure FdM(w W:XF)(K k4 k5 n i x y:Nat)(f:Nat->LB):Prop where
 ls:LsI w W K n i f
 r4:Row W k4 (wn x)
 r5:Row W k5 (wn y)
def FdM.grow{w W W':XF}{K c b n i x y:Nat}{f:Nat->LB}(h:FdM w W K c b n i x y f)(k:kZ W W'):FdM w W' K c b n i x y f:=⟨h.ls.grow k,h.r4.below k,h.r5.below k⟩
def FdM.drew{w W:XF}{K b k n i x y:Nat}{f:Nat->LB}(h:FdM w W K b k n i x y f):FdM w W.drew K b k n i x y f:=h.grow ⟨rfl,rfl,rfl,XH _,λ_ _=>rfl⟩
def FdM.put{w W:XF}{K b k n i x y:Nat}{f:Nat->LB}{v:XG}(h:FdM w W K b k n i x y f)(d:i<n)(c:b≠K)(e:k≠K)(hv:SmQ (λg=>w.heap.size<=g/\g≠K) W v (f i)):FdM w (W.setCells K i [v]) K b k n (i+1) x y f:=
 ⟨h.ls.put d hv,aP h.r4 c,aP h.r5 e⟩
def LQ(O:Ord N){Q:Nat->Prop}(n:Nat)(hn:n<=500)(c:Nat)(hc:c<=200)(he:0<c)(a:Nat->LB)(x y:Nat)(hx:x<N)(r:y<N)(ha:∀i,i<n+n->TOk N (a i)/\(a i).length=c)(va:XG)(w:XF)(h1:GLq Q w va (n+n) a):
 cZ 190 #[va,nv x,nv y] w (rZ w λe w'=>GLq (w.heap.size<=·) w' e n (lY N x y n a)):=by
 obtain⟨d,b,c1,rfl,-,-,h9,h0⟩:=h1;obtain⟨m,hm⟩:=hE (n+n);have hq:(m:Int).tdiv 2=(n:Int):=by rw[<-hm.out,yAS oM];omega
 obtain⟨P,h8,G,I,L,q⟩:=VH w x y;obtain⟨C0,T,hk⟩:=C7 uSu iSu n oM;have Z:=hk P;obtain⟨K,hK⟩:=hE (P.heap.size);obtain⟨w3,F⟩:=hE (lZ P C0 82);have S:Ar P w3 K 1 n 0 (λ_=>[]):=Ar.new _ T F hK;rw[F.out,hK.out]at Z;obtain⟨f,o⟩:=hE (w.heap.size);rw[o.out]at I L q;have HK:Hid (K=f+2/\w.heap.size<=f):=⟨by rw[<-hK.out,q],o.out▸XH _⟩
 have K1:Hid (FdM w w3 K f (f+1) n 0 x y (lY N x y n a)):=⟨⟨G.trans (S.bl.mono G.size),S.lt,by have:=S.th;rwa[Z6]at this,oN HK,λj hj=>absurd hj (yAh _)⟩,I.below S.bl,L.below S.bl⟩
 have l:=mk8 O hx r ha h0 h9 hc he;obtain⟨vx,h7⟩:=hE (nv x);obtain⟨vy,h2⟩:=hE (nv y);obtain⟨R,H⟩:=hE (lZ w (wn x) 44);have B1:Hid ((Yu 44 vx).run prog w=.ok (jZ f) R):=h7.out▸H.out▸o.out▸boxS;have B2:Hid ((Yu 44 vy).run prog R=.ok (jZ (f+1)) P):=by
  have h:=boxS (n:=y) (w:=R);rw[show R.heap.size=f+1 by rw[<-H.out,XS,o.out]]at h;have e:R.alloc (.cells (wn y).toArray 44)=P:=H.out▸h8;rw[e]at h;rw[<-h2.out];exact h
 rw[h7.out,h2.out,hm.out];clear O hx r ha h0 h9 hc he G I L q S T hk hK F o h8;go_enter func190,ntmps190;go_wp2_with (first|(refine aG (u:=vx) (v:=jZ f) (w':=R) rfl 44 (.tmp 1) rfl ?_ ?_ ?_;rfl;exact B1)|(refine aG (u:=vy) (v:=jZ (f+1)) (w':=P) rfl 44 (.tmp 2) rfl ?_ ?_ ?_;rfl;exact B2)|fail)
 go_loopg [15] n (λm s15 W=>∃i:Nat,i+m=n/\s15=iZ i/\Hid (FdM w W K f (f+1) n i x y (lY N x y n a)))
 case atStart=>exact⟨0,oM,rfl,K1⟩
 case round =>
  obtain⟨i,k6,rfl,KM⟩:=hrel;by_cases hi:i<n
  .have hz:(i:Int)<(n:Int):=oM;have HL:=Hid.mk' hi;have KP:=KM;go_wp2_with fail
   obtain⟨D,k2,hr⟩:=l.2.2.2.2.1 i oM;obtain⟨C,k0,q⟩:=l.2.2.2.2.1 (n+i) oM;have HX:=mk4 k2 hr k0 q;have s:=mk2 (l.2.2.2.1 i oM) (l.2.2.2.1 (n+i) oM);have HZ:=mk1 (l.2.2.2.2.2.2);obtain⟨B,E⟩:=hE ((a i).map (tmT N x));obtain⟨J,A⟩:=hE ((a (n+i)).map (tmT N y));have HQ:Hid (lY N x y n a i=B++J):=by show _=_;rw[<-E.out,<-A.out];rfl
   have HY:Hid (B.length=c/\J.length=c/\TOk N B/\TOk N J):=⟨by rw[<-E.out,X7];exact s.1.2,by rw[<-A.out,X7];exact s.2.2,E.out▸s.1.1.tm l.1.pos x,A.out▸s.2.1.tm l.1.pos y⟩
   have h4:=λ(W:XF) (k:kZ w W)=>eH l.1 l.2.1 0 D (a i) (by rw[s.1.2];have:=HZ;omega) s.1.1.szm s.1.1.lt W (HX.2.1.sm.grow k)
   have X:=λ(W:XF) (k:kZ w W)=>eH l.1 l.2.2.1 0 C (a (n+i)) (by rw[s.2.2];have:=HZ;omega) s.2.1.szm s.2.1.lt W (HX.2.2.2.sm.grow k)
   have k3:=λ(W:XF) (u v:XG) (hu:Sm 0 W u B) (hv:Sm 0 W v J)=>cA 0 u v B J (by rw[XP];have:=HY.1;have:=HZ;omega) (by have:=HY.1;have:=HZ;omega) (by have:=HY.2.1;have:=HZ;omega) HY.2.2.1.sz HY.2.2.2.sz W (Yd hu) (Yd hv)
   rw[E.out]at h4;rw[A.out]at X;have hl:∀W,kZ w W->W.cell? ⟨d,b+1*i,none⟩=some D:=λW k=>by rw[Z6,k.cell (p:=⟨d,b+i,none⟩) l.2.2.2.2.2.1];exact HX.1
   have k1:∀W,kZ w W->W.cell? ⟨d,b+1*(n+i),none⟩=some C:=λW k=>by rw[Z6,k.cell (p:=⟨d,b+(n+i),none⟩) l.2.2.2.2.2.1];exact HX.2.2.1
   have hw:i<m:=by rw[<-hm.out];omega
   have Y:n+i<m:=by rw[<-hm.out];omega
   refine(gwL [pE (sZ K n n),pE (iZ i),pE (qZ d b m c1),pE (iZ i),pE (oZ d (b+1*i)),pE D,pE (.iface 82 D),pE (nv x),pM (λg=>w.heap.size<=g/\g≠K) B,pI 82 (pM (λg=>w.heap.size<=g/\g≠K) B),pE (qZ d b m c1),pE (sZ K n n),pE (iZ n),pE (iZ i),pE (iZ ((n+i:Nat):Int)),pE (oZ d (b+1*(n+i))),pE C,pE (.iface 82 C),pE (nv y),pM (λg=>w.heap.size<=g/\g≠K) J,pM (λg=>w.heap.size<=g/\g≠K) (B++J),pE (oZ K (0+1*i))] (λW=>FdM w W K f (f+1) n i x y (lY N x y n a)) (λW W' M h=>h.grow M)).last 22 kR kR kR ⟨
    gO 7 (sZ K n n),
    gO 8 (iZ i),
    gO 0 (qZ d b m c1),
    gO 8 (iZ i),
    BZ 2 20 3 21 (qZ d b m c1) (iZ i) (atS d b c1 hw) (λx W h=>h) (λx W h=>h) (λ_=>rfl),
    fC 4 22 d (b+1*i) D Bt (λx W h=>h) (λW k=>hl W k.ls.bl) (λ_=>rfl),
    sL 5 23 D (.iface 82 D) (λx W h=>h) (λ_=>rfl),
    iU 4 f 0 rSc nSc rfl (λW k=>k.r4.2.1) (λ_=>rfl),
    qK 82 6 24 7 25 (pE D) 149 (λx W h=>⟨_,h,rfl⟩) (λz u W hx r k=>by
     obtain rfl:z=D:=hx;obtain rfl:u=nv x:=r;apply(h4 W k.ls.bl).mono;rintro e W' ⟨u,rfl,M,V⟩;exact⟨_,rfl,M,V.q.mono λg U=>⟨XN k.ls.bl.size U,oN k.ls.lt⟩⟩),
    Dk 8 26 (λv=>.iface 82 v) (λx W h=>⟨x,rfl,h⟩),
    gO 0 (qZ d b m c1),
    gO 7 (sZ K n n),
    sL 11 29 (sZ K n n) (iZ n) (λx W h=>h) (λ_=>rfl),
    gO 8 (iZ i),
    LA .add 3 3 30 31 rfl (λa W hp=>⟨_,_,iZ ((n+i:Nat):Int),hp.n 12 30 kR kR,hp.n 13 31 kR kR,kR,QA oM,rfl⟩),
    BZ 10 28 14 32 (qZ d b m c1) (iZ ((n+i:Nat):Int)) (atS d b c1 Y) (λx W h=>h) (λx W h=>h) (λ_=>rfl),
    fC 15 33 d (b+1*(n+i)) C Bt (λx W h=>h) (λW k=>k1 W k.ls.bl) (λ_=>rfl),
    sL 16 34 C (.iface 82 C) (λx W h=>h) (λ_=>rfl),
    iU 5 (f+1) 0 rSc nSc rfl (λW k=>k.r5.2.1) (λ_=>rfl),
    qK 82 17 35 18 36 (pE C) 149 (λx W h=>⟨_,h,rfl⟩) (λz u W hx r k=>by
     obtain rfl:z=C:=hx;obtain rfl:u=nv y:=r;apply(X W k.ls.bl).mono;rintro e W' ⟨u,rfl,M,V⟩;exact⟨_,rfl,M,V.q.mono λg U=>⟨XN k.ls.bl.size U,oN k.ls.lt⟩⟩),
    qK 82 9 27 19 37 (pM (λg=>w.heap.size<=g/\g≠K) B) 31 (λx W h=>h) (λz u W hx r k=>by
     have hx:=hx;have r:=r;apply(k3 W z u hx.sm r.sm).mono;rintro e W' ⟨u,rfl,M,V⟩;exact⟨_,rfl,M,V.q.mono λg U=>⟨XN k.ls.bl.size U,oN k.ls.lt⟩⟩),
    BZ 0 18 1 19 (sZ K n n) (iZ i) (atS K 0 n HL) (λx W h=>h) (λx W h=>h) (λ_=>rfl),yE5⟩ KP.drew ?_
   intro V W3 h6 U;have hS:=h6 20 dC;have h5:=h6 21 dC;dsimp only[bY,YQ,Z4,Z5];simp only[Yo,XJ,XM,XO];generalize V 20=vq at hS⊢;obtain⟨W4,h3⟩:=hE (W3.setCells K i [vq]);have K4:Hid (FdM w W4 K f (f+1) n (i+1) x y (lY N x y n a)):=by
    have h:=U.put (v:=vq) hi (oN HK) (oN HK) (HQ.out▸hS);rw[h3.out]at h;exact h
   have HT:Hid (W3.there K i 1):=λt ht=>by
    have k5:t=0:=oM;subst k5;have:=U.ls.th i hi;rwa[XQ]at this
   have HE:=Hid.mk' hS.one;rw[h5,XQ,Z6];go_wp2_with (first|(refine qN rfl rfl vq ?_ ?_ HE.1 HE.2 HT UY ?_;rfl;rfl;rw[h3.out])|fail)
   go_roundg (gk-1)
   case measure=>omega
   case rel=>exact⟨i+1,oM,rfl,K4⟩
  .have hz:¬(i:Int)<(n:Int):=oM;obtain rfl:i=n:=oM;have K4:=mk2 KM.ls.bl KM.ls.gl;go_wp2;go_ret;exact⟨_,rfl,K4.1,K4.2⟩
structure GOk(N n c:Nat)(G H:Nat->LB)(U:LB):Prop where
 n0:0<n
 c0:0<c
 cn:c*n<=64
 g:∀i,i<n->TOk N (G i)/\(G i).length=c
 h:∀i,i<n->TOk N (H i)/\(H i).length=c
 u:TOk N U
 u0:0<U.length
 u9:U.length<=16
def GOk.nle{n c:Nat}{G H:Nat->LB}{U:LB}(h:GOk N n c G H U):n<=64:=by
 have k:=h.cn;have:=yAv n h.c0;omega
def GOk.cle{n c:Nat}{G H:Nat->LB}{U:LB}(h:GOk N n c G H U):c<=64:=by
 have k:=h.cn;have:=yAf c h.n0;omega
def DF{b c k:XG}{w:XF}:(Yu 150 (.agg #[b,c,k])).run prog w=.ok (jZ w.heap.size) (w.alloc (.cells #[b,c,k] 150)):=kR
def uGL:wZ 148:=wQ
def yX(O:Ord N){Q:Nat->Prop}(n c:Nat)(G H:Nat->LB)(U:LB)(hG:GOk N n c G H U)(a b:Nat->Nat)(X:∀i,i<n->a i<N)(j:∀i,i<n->b i<N)(v va p:XG)(w:XF)(h0:GRq Q w v n G H U)(T:SLq Q w va n a)(Y:SLq Q w p n b):
 cZ 78 #[v,va,p] w (rZ w λe w'=>Sm w.heap.size w' e (dH N a G n++dH N b H n)):=by
 obtain⟨l,m,D,rfl,R,Z,-⟩:=h0.ex;have t:=λ(W:XF) (d:kZ w W)=>Mg O n c hG.n0 hG.c0 (oN hG.nle) (oN hG.cn) a G X (λi f=>(hG.g i f).1) (λi f=>(hG.g i f).2) va l W (T.keep (Kq.of_below d)) (R.keep (Kq.of_below d))
 have B:=λ(W:XF) (d:kZ w W)=>Mg O n c hG.n0 hG.c0 (oN hG.nle) (oN hG.cn) b H j (λi f=>(hG.h i f).1) (λi f=>(hG.h i f).2) p m W (Y.keep (Kq.of_below d)) (Z.keep (Kq.of_below d))
 have P:(dH N a G n).length=c*n:=fD N n λi f=>(hG.g i f).2
 have S:(dH N b H n).length=c*n:=fD N n λi f=>(hG.h i f).2
 have t1:TOk N (dH N a G n):=qE O.pos n λi f=>(hG.g i f).1
 have t2:TOk N (dH N b H n):=qE O.pos n λi f=>(hG.h i f).1
 have h5:=yDq hG.c0 hG.n0;have L:=hG.cn;generalize dH N a G n=A at t P t1⊢;generalize dH N b H n=lb at B S t2⊢;have I:=λ(W:XF) (u z:XG) (hu:Sm 0 W u A) (M:Sm 0 W z lb)=>cA 0 u z A lb (by rw[XP];omega) oM oM t1.sz t2.sz W (Yd hu) (Yd M)
 have F:=Hid.mk' (Y0 t (Y0 B I));obtain⟨E,C⟩:=hE (w.alloc (.cells #[l,m,D] 150));obtain⟨k,J⟩:=hE (w.heap.size);have K:Hid (Row E k [l,m,D]/\kZ w E):=by rw[<-C.out,<-J.out];exact⟨row_new w _ _,aC _⟩
 obtain⟨v0,r⟩:=hE (Yg #[l,m,D]);have B1:Hid ((Yu 150 v0).run prog w=.ok (jZ k) E):=r.out▸C.out▸J.out▸DF;rw[r.out];go_enter func78,ntmps78;go_wp2_with (first|(refine aG (u:=v0) (v:=jZ k) (w':=E) rfl 150 (.tmp 0) rfl ?_ ?_ ?_;rfl;exact B1)|fail)
 refine(gwL [pE va,pE (jZ k),pE l,pM (w.heap.size<=·) A,pE p,pE (oZ k 1),pE m,pM (w.heap.size<=·) lb,pM (w.heap.size<=·) (A++lb),pM (w.heap.size<=·) (A++lb)] (λW=>Row W k [l,m,D]/\kZ w W) (λW W' j h=>⟨h.1.below j,h.2.trans (j.mono h.2.size)⟩)).draws kR kR ⟨
  gO 1 va,
  gO 3 (jZ k),
  fC 1 8 k 0 l uGL (λx W h=>h) (λW d=>d.1.2.1 0 _ rfl) (λ_=>rfl),
  eF 0 7 2 9 132 (λx y=>#[x,y]) (λx y W hx o d=>by
   obtain rfl:x=va:=hx;obtain rfl:y=l:=o;apply(F.1 W d.2).mono;rintro e W' ⟨u,rfl,j,s⟩;exact⟨_,rfl,j,s.q.mono λg q=>XN d.2.size q⟩),
  gO 2 p,
  gP 3 (jZ k) (oZ k 1),
  fC 5 12 k 1 m uGL (λx W h=>h) (λW d=>d.1.2.1 1 _ rfl) (λ_=>rfl),
  eF 4 11 6 13 132 (λx y=>#[x,y]) (λx y W hx o d=>by
   obtain rfl:x=p:=hx;obtain rfl:y=m:=o;apply(F.2.1 W d.2).mono;rintro e W' ⟨u,rfl,j,s⟩;exact⟨_,rfl,j,s.q.mono λg q=>XN d.2.size q⟩),
  eF 3 10 7 14 31 (λx y=>#[x,y]) (λx y W hx o d=>by
   have hx:=hx;have o:=o;apply(F.2.2 W x y hx.sm o.sm).mono;rintro e W' ⟨u,rfl,j,s⟩;exact⟨_,rfl,j,s.q.mono λg q=>XN d.2.size q⟩),
  Dk 8 15 id (λx W h=>h),yE5⟩ ⟨K.1,K.2.drew⟩ ?_
 intro V s hR d;have o:=mk1 (hR 9 (Z7 (YM kR)));have q:=mk1 (d.2);dsimp only[bY,YQ];simp only[Yo,XJ,XM,XO];go_wp2;go_ret;exact⟨_,rfl,q,o⟩
def GR(O:Ord N){Q:Nat->Prop}(n c:Nat)(G H:Nat->LB)(U:LB)(hG:GOk N n c G H U)(a b:Nat->Nat)(T:∀i,i<n->a i<N)(f:∀i,i<n->b i<N)(v va m:XG)(w:XF)(Z:GRq Q w v n G H U)(S:SLq Q w va n a)(X:SLq Q w m n b):
 cZ 143 #[v,va,m] w (rZ w λe w'=>Sm w.heap.size w' e (Ls N a b (prS N a b n) G H U n)):=by
 have t:=λ(W:XF) (d:kZ w W)=>yX O n c G H U hG a b T f v va m W (Z.keep (Kq.of_below d)) (S.keep (Kq.of_below d)) (X.keep (Kq.of_below d))
 have F:=λ(W:XF) (d:kZ w W)=>Cc O n (oN hG.nle) a b T f va m W (S.keep (Kq.of_below d)) (X.keep (Kq.of_below d))
 obtain⟨q,s,j,rfl,-,-,h5⟩:=Z.ex;have l1:(dH N a G n).length=c*n:=fD N n λi r=>(hG.g i r).2
 have l2:(dH N b H n).length=c*n:=fD N n λi r=>(hG.h i r).2
 have t1:TOk N (dH N a G n):=qE O.pos n λi r=>(hG.g i r).1
 have t2:TOk N (dH N b H n):=qE O.pos n λi r=>(hG.h i r).1
 have h4:=yDq hG.c0 hG.n0;have h3:=hG.cn;unfold Ls;have pl:=BH O.pos (a:=a) (b:=b) n;have M:=hG.u.tm O.pos (prS N a b n);have l3:(U.map (tmT N (prS N a b n))).length<=16:=by rw[X7];exact hG.u9
 generalize prS N a b n=p at F pl M l3⊢;have C:=λ(W:XF) (d:kZ w W)=>eH O pl 0 j U (oN hG.u9) hG.u.szm hG.u.lt W (h5.sm.grow d)
 generalize U.map (tmT N p)=B at C M l3⊢;have Y:=t1.app t2;have l4:(dH N a G n++dH N b H n).length=c*n+c*n:=by rw[XP,l1,l2]
 generalize dH N a G n++dH N b H n=l at t Y l4⊢;have P:=λ(W:XF) (u z:XG) (hu:Sm 0 W u l) (L:Sm 0 W z B)=>cA 0 u z l B (by rw[XP];omega) oM oM Y.sz M.sz W (Yd hu) (Yd L)
 have J:=Hid.mk' (Y0 t (Y0 F (Y0 C P)));obtain⟨K,I⟩:=hE (w.alloc (.cells #[q,s,j] 150));obtain⟨k,R⟩:=hE (w.heap.size);have K1:Hid (Row K k [q,s,j]/\kZ w K):=by rw[<-I.out,<-R.out];exact⟨row_new w _ _,aC _⟩
 obtain⟨v0,D⟩:=hE (Yg #[q,s,j]);have B1:Hid ((Yu 150 v0).run prog w=.ok (jZ k) K):=D.out▸I.out▸R.out▸DF;rw[D.out];go_enter func143,ntmps143;go_wp2_with (first|(refine aG (u:=v0) (v:=jZ k) (w':=K) rfl 150 (.tmp 0) rfl ?_ ?_ ?_;rfl;exact B1)|fail)
 refine(gwL [pE (.agg #[q,s,j]),pE va,pE m,pM (w.heap.size<=·) l,pE (oZ k 2),pE j,pE va,pE m,pE (nv p),pM (w.heap.size<=·) B,pM (w.heap.size<=·) (l++B),pM (w.heap.size<=·) (l++B)] (λW=>Row W k [q,s,j]/\kZ w W) (λW W' f h=>⟨h.1.below f,h.2.trans (f.mono h.2.size)⟩)).draws kR kR ⟨
  iU 3 k 0 uGr iGr rfl (λW d=>d.1.2.1) (λ_=>rfl),
  gO 1 va,
  gO 2 m,
  nJ 0 7 1 8 2 9 78 (λx y z=>#[x,y,z]) (λx y z W hx o L d=>by
   obtain rfl:x=.agg #[q,s,j]:=hx;obtain rfl:y=va:=o;obtain rfl:z=m:=L;apply(J.1 W d.2).mono;rintro e W' ⟨u,rfl,f,E⟩;exact⟨_,rfl,f,E.q.mono λg A=>XN d.2.size A⟩),
  gP 3 (jZ k) (oZ k 2),
  fC 4 11 k 2 j Bt (λx W h=>h) (λW d=>d.1.2.1 2 _ rfl) (λ_=>rfl),
  gO 1 va,
  gO 2 m,
  eF 6 13 7 14 87 (λx y=>#[x,y]) (λx y W hx o d=>by
   obtain rfl:x=va:=hx;obtain rfl:y=m:=o;apply(J.2.1 W d.2).mono;rintro e W' ⟨u,rfl,f,rfl⟩;exact⟨_,rfl,f,rfl⟩),
  eF 5 12 8 15 149 (λx y=>#[x,y]) (λx y W hx o d=>by
   obtain rfl:x=j:=hx;obtain rfl:y=nv p:=o;apply(J.2.2.1 W d.2).mono;rintro e W' ⟨u,rfl,f,E⟩;exact⟨_,rfl,f,E.q.mono λg A=>XN d.2.size A⟩),
  eF 3 10 9 16 31 (λx y=>#[x,y]) (λx y W hx o d=>by
   have hx:=hx;have o:=o;apply(J.2.2.2 W x y hx.sm o.sm).mono;rintro e W' ⟨u,rfl,f,E⟩;exact⟨_,rfl,f,E.q.mono λg A=>XN d.2.size A⟩),
  Dk 10 17 id (λx W h=>h),yE5⟩ ⟨K1.1,K1.2.drew⟩ ?_
 intro V E hR d;have o:=mk1 (hR 11 (Z7 (YM kR)));have A:=mk1 (d.2);dsimp only[bY,YQ];simp only[Yo,XJ,XM,XO];go_wp2;go_ret;exact⟨_,rfl,A,o⟩
end
namespace RG
variable {P:YO}{ops:Array Yw}{Q:Exit->Act->XF->Prop}{w:XF}{a0:Act}{G:Gw}{S:XF->XF->Prop}{m k:Nat}{o:Yw}
def Gw.st(G:Gw)(m:Nat)(S:XF->XF->Prop):Flow:=⟨G.R,λ_=>G.B,λi w w'=>(i=m/\S w w')\/kZ w w',λ_=>[],λ_=>[]⟩
def kB(h:bE P Q G.flow ops a0 k o):bE P Q (G.st m S) ops a0 k o:=λa w K c d b e=>h a w K c d b λv w' hE hR=>e v w' (Yd hE) hR
def Wp(h:∀(a:Act) (w:XF),PreG G ops a0 m o a w->∃w',(Ym a.eval o).run P w=.ok .skip w'/\S w w'/\G.R m ZB w'):bE P Q (G.st m S) ops a0 m o:=by
 intro a w K c g e f;obtain⟨w',i,b,hR⟩:=h a w ⟨λj d k hd=>c j d k rfl hd,g,e 0 rfl⟩;unfold Y8;rw[i];exact f _ _ (Yk ⟨rfl,b⟩) hR
def Gw.tailS{id:Nat}(G:Gw)(m:Nat)(S:XF->XF->Prop)(n:Nat)(c:∀j v w w',j≠m->S w w'->G.R j v w->G.R j v w')(o:∀w w',S w w'->G.B w->G.B w')(l:(decide (n<ops.size) && nD ops n)=true)(q:P.follows .mixedOrders=true)(t:Cd ops a0.tmps.size=true)(h:jB P Q (G.st m S) ops a0 0 (ops.toList.take n))(k:G.B w.drew)
 (p:∀(V:Nat->XG) (w':XF),(∀i,i<n->G.R i (V i) w')->G.B w'->wpList P ops Q (ops.toList.drop n) (bY V (ops.toList.take n) 0 a0) w'):(Zg id ops true).wp P Q a0 w:=by
 rw[XZ,decide_eq_true_eq]at l;refine rB (G.st m S) l.1 l.2 q ⟨t,uN h,λi j _ _ d _ _ v w w' hE hR=>?_,λi b _ _ w w' hE k=>?_⟩ (λ_=>k) λV w' r s=>p V w' (λi f=>r i f rfl) (s 0 rfl)
 .rcases hE with⟨f,g⟩|hE
  .exact c j v w w' (λe=>d (f.trans e.symm)) g hR
  .exact G.sR j v w w' hE hR
 .rcases hE with⟨-,g⟩|hE
  .exact o w w' g k
  .exact G.sB w w' hE k
end RG
section
variable {P:Nat}[NeZero P]{N:Nat}
def qX{T c:Yj}{P:YO}{m:Func}{tmps:Array XG}{W:XF}{k e:Nat}{vs us:List XG}(t f:ZC)(n:m.results=#[.cell t T,.cell f c])(h:Row W k vs)(w:Row W e us)(s:tmps[t]? = some (jZ k))(g:tmps[f]? = some (jZ e))(j:(P.underlying T).map (·.isRow)=some true)(r:(P.info? T).map (·.size)=some vs.length)(b:(P.underlying c).map (·.isRow)=some true)(i:(P.info? c).map (·.size)=some us.length):(results m tmps).run P W=.ok (.tuple #[.agg vs.toArray,.agg us.toArray]) W:=by
 obtain⟨d,j,hd⟩:=XK.1 j;obtain⟨o,b,l⟩:=XK.1 b;have q:=yAH (P:=P) W k 0 T vs d h.2.1 j hd r;have p:=yAH (P:=P) W e 0 c us o w.2.1 b l i;have u:tmps.getD t ZB=jZ k:=by rw[XU,s];rfl
 have v:tmps.getD f ZB=jZ e:=by rw[XU,g];rfl
 unfold results;rw[n];simp only[Array.mapM_eq_mapM_toList,List.mapM_cons,List.mapM_nil,u,v,asAddr];simp[X6,q,p]
section
variable {P:YO}{ops:Array Yw}{rest:List Yw}{op:Yw}{a:Act}{w w':XF}{v:XG}{Q:Exit->Act->XF->Prop}
def fR(k:op.guard=none)(T:Yj)(t:ZC)(_:op.op=.alloc T)(_:op.dst=some t)(c:(Ym a.eval op).run P w=.ok (.value v) w')(h:wpList P ops Q rest (a.put op.dst v) w'):wpList P ops Q (op :: rest) a w:=
 ZT k λK b=>by
  unfold Y8;rw[c];exact b _ _ h
end
def Qz(g o j:Nat):(⟨g,o,none⟩:Y4).add j=⟨g,o+j,none⟩:=by
 unfold yBZ;by_cases k:j=0
 .subst k;rw[yE3 rfl];rfl
 .rw[yE4 k]
def JQ(b o n c k:Nat)(e:k<=c)(w:XF):(ZH 148 (qZ b o n c) none (some (iZ k)) none).run prog w=.ok (qZ b o k c) w:=by
 have d:¬(k:Int)<0:=oM;have f:(k:Int)<=(c:Int):=oM;go_simp
def JP{n c:Nat}(b o k:Nat)(f:k<n)(j:n<=c)(w:XF):(ZH 148 (qZ b o n c) (some (iZ k)) none none).run prog w=.ok (qZ b (o+k) (n-k) (c-k)) w:=by
 have d:¬(k:Int)<0:=oM;have i:(k:Int)<=(n:Int):=oM;have g:¬c=k:=oM;have e:=Qz b o (1*k);rw[Z6]at e;go_simp
def Eh(b o n c k:Nat)(e:k<=c)(w:XF):(ZH 143 (qZ b o n c) none (some (iZ k)) none).run prog w=.ok (qZ b o k c) w:=by
 have d:¬(k:Int)<0:=oM;have f:(k:Int)<=(c:Int):=oM;go_simp
def Eg{n c:Nat}(b o k:Nat)(f:k<n)(j:n<=c)(w:XF):(ZH 143 (qZ b o n c) (some (iZ k)) none none).run prog w=.ok (qZ b (o+k*4) (n-k) (c-k)) w:=by
 have d:¬(k:Int)<0:=oM;have i:(k:Int)<=(n:Int):=oM;have g:¬c=k:=oM;have e:=Qz b o (k*4);rw[YN]at e;rw[YN k 4];go_simp
def GLq.high{Q:Nat->Prop}{W:XF}{g o n c:Nat}{T:Nat->LB}(h:GLq Q W (qZ g o (n+n) c) (n+n) T):GLq Q W (qZ g (o+n) n (c-n)) n (λi=>T (n+i)):=by
 obtain⟨m,q,p,e,r,f,b,l⟩:=h;injection e with e1 e2 e3
 injection e1 with e1
 injection e1 with e1 e4
 subst e1 e3 e4;refine⟨g,o+n,c-n,rfl,oM,f,b,λj s=>?_⟩;obtain⟨x,k,d⟩:=l (n+j) oM;exact⟨x,by rw[Nat.add_assoc];exact k,d⟩
def GLq.low{Q:Nat->Prop}{W:XF}{g o n c:Nat}{T:Nat->LB}(h:GLq Q W (qZ g o (n+n) c) (n+n) T):GLq Q W (qZ g o n c) n T:=by
 obtain⟨f,p,l,e,m,d,b,k⟩:=h;injection e with e1 e2 e3
 injection e1 with e1
 injection e1 with e1 e4
 subst e1 e3 e4;exact⟨g,o,c,rfl,oM,d,b,λj i=>k j oM⟩
def SLq.high{Q:Nat->Prop}{W:XF}{g o n c:Nat}{T:Nat->Nat}(h:SLq Q W (qZ g o (n+n) c) (n+n) T):SLq Q W (qZ g (o+n*4) n (c-n)) n (λi=>T (n+i)):=by
 obtain⟨f,m,l,e,p,b,k,d⟩:=h;injection e with e1 e2 e3
 injection e1 with e1
 injection e1 with e1 e4
 subst e1 e3 e4;refine⟨g,o+n*4,c-n,rfl,oM,b,k,λj q=>?_⟩;have:=d (n+j) oM;rw[show o+4*(n+j)=o+n*4+4*j by omega]at this;exact this
def SLq.low{Q:Nat->Prop}{W:XF}{g o n c:Nat}{T:Nat->Nat}(h:SLq Q W (qZ g o (n+n) c) (n+n) T):SLq Q W (qZ g o n c) n T:=by
 obtain⟨f,p,l,e,m,d,b,k⟩:=h;injection e with e1 e2 e3
 injection e1 with e1
 injection e1 with e1 e4
 subst e1 e3 e4;exact⟨g,o,c,rfl,oM,d,b,λj i=>k j oM⟩
def CrR(Q:Nat->Prop)(w:XF)(n:Nat)(G H:Nat->LB)(U:LB)(e:XG)(w':XF):Prop:=kZ w w'/\∃b k,e=.tuple #[.agg b,.agg k]/\b.size=3/\k.size=3/\b.all (·.oneCell')=true/\k.all (·.oneCell')=true/\GRq Q w' (.agg b) n (λi=>G (n+i)) H U/\GRq Q w' (.agg k) n G (λi=>H (n+i)) U
def IP{Q:Nat->Prop}(n:Nat)(he:0<n)(hn:n<=500)(G H:Nat->LB)(U:LB)(v:XG)(w:XF)(h0:GRq Q w v (n+n) G H U):
 cZ 142 #[v] w (Ret (CrR Q w n G H U)):=by
 obtain⟨vg,vh,b,rfl,h3,h4,h5⟩:=h0.ex;obtain⟨d,c,c1,rfl,S,-⟩:=id h3;obtain⟨g,f,c2,rfl,Z,-⟩:=id h4;obtain⟨g3,c3,rfl,-⟩:=id h5;have N:Hid (GLq Q w (qZ d (c+n) n (c1-n)) n (λi=>G (n+i))/\GLq Q w (qZ g f n c2) n H/\GLq Q w (qZ d c n c1) n G/\GLq Q w (qZ g (f+n) n (c2-n)) n (λi=>H (n+i))/\SmQ Q w (sZ g3 U.length c3) U):=⟨h3.high,h4.low,h3.low,h4.high,h5⟩
 have t:=JP d c n oM S;have D:=JQ g f (n+n) c2 n oM;have C:=JQ d c (n+n) c1 n oM;have B:=JP g f n oM Z;rw[Nat.add_sub_cancel]at t B;obtain⟨m,hm⟩:=yH (n+n);have hq:(m:Int).tdiv 2=(n:Int):=by rw[<-hm.out,yAS oM];omega
 rw[hm.out]at t D C B;rw[hm.out];obtain⟨b,r⟩:=yH (sZ g3 U.length c3);have h9:b.oneCell'=true:=by rw[<-r.out];rfl
 rw[r.out]at N;rw[r.out];obtain⟨k,R⟩:=yH w.heap.size;obtain⟨A,y⟩:=yH (w.alloc (.cells #[qZ d c m c1,qZ g f m c2,b] 150));obtain⟨P,K⟩:=yH (A.alloc (.cells #[nZ,nZ,nZ] 150));obtain⟨J,h8⟩:=yH (P.alloc (.cells #[nZ,nZ,nZ] 150));have h7:P.heap.size=k+2:=by rw[<-K.out,XS,<-y.out,XS,R.out]
 have E:A.heap.size=k+1:=by rw[<-y.out,XS,R.out]
 have I:Hid (kZ w J/\Row J k [qZ d c m c1,qZ g f m c2,b]/\Row J (k+1) [nZ,nZ,nZ]/\Row J (k+2) [nZ,nZ,nZ]):=by
  have b1:kZ w A:=y.out▸aC _;have p:Row A k [qZ d c m c1,qZ g f m c2,b]:=y.out▸R.out▸row_new w _ _;have o:=row_new A [nZ,nZ,nZ] 150;have l:=row_new (A.alloc (.cells #[nZ,nZ,nZ] 150)) [nZ,nZ,nZ] 150;rw[XS,E]at l;rw[E]at o;rw[<-h8.out,<-K.out];exact⟨(b1.alloc b1.size _).alloc (by rw[XS];have:=b1.size;omega) _,(p.alloc _).alloc _,o.alloc _,l⟩
 obtain⟨v0,h6⟩:=yH (Yg #[qZ d c m c1,qZ g f m c2,b]);have B1:Hid ((Yu 150 v0).run prog w=.ok (jZ k) A):=h6.out▸y.out▸R.out▸DF;rw[h6.out];have HK:Hid (w.heap.size=k):=R;have HV:Hid (b.oneCell'=true):=h9;have HZ:Hid (A.heap.size=k+1/\P.heap.size=k+2):=⟨E,h7⟩
 have cK:J.cell? ⟨k,0,none⟩=some (qZ d c m c1):=I.2.1.2.1 0 _ rfl;clear h0 h3 h4 h5 S Z h9 R E h7;go_enter func142,ntmps142;go_wp2_with (first|(refine aG (u:=v0) (v:=jZ k) (w':=A) rfl 150 (.tmp 0) rfl ?_ ?_ ?_;rfl;exact B1)|(refine fR (v:=jZ (k+1)) (w':=P) rfl 150 2 rfl rfl ?_ ?_;(rw[<-K.out,<-HZ.1];kernel_rfl))|(refine fR (v:=jZ (k+2)) (w':=J) rfl 150 3 rfl rfl ?_ ?_;(rw[<-h8.out,<-HZ.2];kernel_rfl))|fail)
 clear cK hq;obtain⟨Y,ha⟩:=yH (qZ d c m c1);obtain⟨sh,hc⟩:=yH (qZ g f m c2);rw[ha.out]at t C I;rw[hc.out]at D B I;obtain⟨o,O⟩:=yH (#[qZ d (c+n) n (c1-n),qZ g f n c2,b]:Array XG);obtain⟨z,M⟩:=yH (#[qZ d c n c1,qZ g (f+n) n (c2-n),b]:Array XG);have q:Hid (o.size=3/\z.size=3/\o.all (·.oneCell')=true/\z.all (·.oneCell')=true):=by
  rw[<-O.out,<-M.out,<-r.out];exact⟨rfl,rfl,kR,kR⟩
 have HI:Hid (gZ 150 o.size/\gZ 150 z.size/\gZ 150 o.toList.length/\gZ 150 z.toList.length):=by
  rw[X0,X0,q.1,q.2.1];exact⟨iGr,iGr,iGr,iGr⟩
 refine(gwL [pE (jZ k),pE Y,pE (iZ n),pE (qZ d (c+n) n (c1-n)),pE (oZ k 1),pE sh,pE (iZ n),pE (qZ g f n c2),pE (oZ k 2),pE b,pE (.agg #[qZ d (c+n) n (c1-n),qZ g f n c2,b]),
  pE (jZ k),pE Y,pE (iZ n),pE (qZ d c n c1),pE (oZ k 1),pE sh,pE (iZ n),pE (qZ g (f+n) n (c2-n)),pE (oZ k 2),pE b,pE (.agg #[qZ d c n c1,qZ g (f+n) n (c2-n),b]),⟨λ_ W=>Row W (k+1) o.toList,λ_ _ _ F h=>h.below F⟩] (λW=>kZ w W/\Row W k [Y,sh,b]/\(k+1<W.heap.size/\W.there (k+1) 0 3)/\Row W (k+2) [nZ,nZ,nZ]) (λW W' F h=>⟨h.1.trans (F.mono h.1.size),h.2.1.below F,⟨XI h.2.2.1.1 F.size,dJ h.2.2.1.2 F h.2.2.1.1⟩,h.2.2.2.below F⟩)).tailS 22 (λW W'=>W'=W.setCells (k+1) 0 o.toList) 23 (λj v W W' T L hR=>by
  subst L;match j,hR,T with
  | 0,hR,_=>exact hR
  | 1,hR,_=>exact hR
  | 2,hR,_=>exact hR
  | 3,hR,_=>exact hR
  | 4,hR,_=>exact hR
  | 5,hR,_=>exact hR
  | 6,hR,_=>exact hR
  | 7,hR,_=>exact hR
  | 8,hR,_=>exact hR
  | 9,hR,_=>exact hR
  | 10,hR,_=>exact hR
  | 11,hR,_=>exact hR
  | 12,hR,_=>exact hR
  | 13,hR,_=>exact hR
  | 14,hR,_=>exact hR
  | 15,hR,_=>exact hR
  | 16,hR,_=>exact hR
  | 17,hR,_=>exact hR
  | 18,hR,_=>exact hR
  | 19,hR,_=>exact hR
  | 20,hR,_=>exact hR
  | 21,hR,_=>exact hR
  | 22,_,T=>exact absurd rfl T
  | _+23,_,_=>trivial) (λW W' L h=>by subst L;exact⟨RG.below_setCells (by rw[HK.out];omega) _ _ _ h.1,aP h.2.1 oM,⟨by rw[setCells_size];exact h.2.2.1.1,Za h.2.2.1.2 _ _ _⟩,aP h.2.2.2 oM⟩) kR kR kR ⟨
  kB (gO 1 (jZ k)),
  kB (fC 0 9 k 0 Y uGL (λx W h=>h) (λW l=>l.2.1.2.1 0 _ rfl) (λ_=>rfl)),
  kB (gO 4 (iZ n)),
  kB (RG.gX 1 10 2 11 t),
  kB (gP 1 (jZ k) (oZ k 1)),
  kB (fC 4 13 k 1 sh uGL (λx W h=>h) (λW l=>l.2.1.2.1 1 _ rfl) (λ_=>rfl)),
  kB (gO 4 (iZ n)),
  kB (RG.gX 5 14 6 15 D),
  kB (gP 1 (jZ k) (oZ k 2)),
  kB (fC 8 17 k 2 b Bt (λx W h=>h) (λW l=>l.2.1.2.1 2 _ rfl) (λ_=>rfl)),
  kB (Lz [(12,qZ d (c+n) n (c1-n)),(16,qZ g f n c2),(18,b)] (.agg #[qZ d (c+n) n (c1-n),qZ g f n c2,b]) (λa W p=>⟨p.n 3 12 kR kR,p.n 7 16 kR kR,p.n 9 18 kR kR,yE5⟩) (λ_=>rfl) (λW=>by
   rw[<-r.out];kernel_rfl)),
  kB (gO 1 (jZ k)),
  kB (fC 11 20 k 0 Y uGL (λx W h=>h) (λW l=>l.2.1.2.1 0 _ rfl) (λ_=>rfl)),
  kB (gO 4 (iZ n)),
  kB (RG.gX 12 21 13 22 C),
  kB (gP 1 (jZ k) (oZ k 1)),
  kB (fC 15 24 k 1 sh uGL (λx W h=>h) (λW l=>l.2.1.2.1 1 _ rfl) (λ_=>rfl)),
  kB (gO 4 (iZ n)),
  kB (RG.gX 16 25 17 26 B),
  kB (gP 1 (jZ k) (oZ k 2)),
  kB (fC 19 28 k 2 b Bt (λx W h=>h) (λW l=>l.2.1.2.1 2 _ rfl) (λ_=>rfl)),
  kB (Lz [(23,qZ d c n c1),(27,qZ g (f+n) n (c2-n)),(29,b)] (.agg #[qZ d c n c1,qZ g (f+n) n (c2-n),b]) (λa W p=>⟨p.n 14 23 kR kR,p.n 18 27 kR kR,p.n 20 29 kR kR,yE5⟩) (λ_=>rfl) (λW=>by
   rw[<-r.out];kernel_rfl)),
  Wp λa W p=>⟨_,by
   have h1:a.eval (.tmp 19)=.agg o:=by
    have:=p.n 10 19 kR kR;rw[<-O.out];exact this
   have V:a.eval (.tmp 2)=jZ (k+1):=(p.o 2 kR).trans rfl;have X:W.there (k+1) 0 o.size:=by rw[q.1];exact p.b.2.2.1.2
   unfold Ym;simp only[h1,V,yBk,yAP,X6,Zu,YE,yCk W (k+1) 0 150 o X HI.1 q.2.2.1],rfl,⟨by rw[setCells_size];exact p.b.2.2.1.1,YW W (k+1) 0 o.toList (by rw[X0,q.1];exact p.b.2.2.1.2),Za (by rw[X0,q.1];exact p.b.2.2.1.2) _ _ _⟩⟩,yE5⟩ ⟨I.1.drew,I.2.1,⟨I.2.2.1.1,I.2.2.1.2.2⟩,I.2.2.2⟩ ?_
 intro V w3 hR l;have p:V 21=.agg #[qZ d c n c1,qZ g (f+n) n (c2-n),b]:=hR 21 dC;have F:Row w3 (k+1) o.toList:=hR 22 dC;rw[M.out]at p;obtain⟨L,T⟩:=yH (w3.setCells (k+2) 0 z.toList);have K5:Hid (Row L (k+1) o.toList/\Row L (k+2) z.toList/\kZ w L):=by
  rw[<-T.out];exact⟨aP F oM,l.2.2.2.put (by rw[X0,q.2.1];rfl),RG.below_setCells (by rw[HK.out];omega) _ _ _ l.1⟩
 have HT:Hid (w3.there (k+2) 0 z.size):=by
  rw[q.2.1];exact l.2.2.2.2.2
 have HP:Hid (CrR Q w n G H U (.tuple #[.agg o.toList.toArray,.agg z.toList.toArray]) L):=by
  have kq:∀ {Q:Nat->Prop},Kq Q w L:=Kq.of_below K5.2.2;refine⟨K5.2.2,o,z,rfl,q.1,q.2.1,q.2.2.1,q.2.2.2,?_,?_⟩
  .rw[<-O.out];exact⟨_,_,_,rfl,N.1.keep kq,N.2.1.keep kq,N.2.2.2.2.keep kq⟩
  .rw[<-M.out];exact⟨_,_,_,rfl,N.2.2.1.keep kq,N.2.2.2.1.keep kq,N.2.2.2.2.keep kq⟩
 dsimp only[bY,YQ,Z4,Z5];simp only[Yo,XJ,XM,XO];obtain⟨x2,X⟩:=yH (Yg z);rw[p,X.out];clear hR l p F t D C B;generalize V 0=s0;generalize V 1=s1;generalize V 2=s2;generalize V 3=s3;generalize V 4=s4;generalize V 5=s5;generalize V 6=s6;generalize V 7=s7;generalize V 8=s8;generalize V 9=s9;generalize V 10=s10;generalize V 11=s11;generalize V 12=s12;generalize V 13=s13;generalize V 14=s14;generalize V 15=s15;generalize V 16=s16;generalize V 17=s17;generalize V 18=s18;generalize V 19=s19;generalize V 20=s20;go_wp2_with (first|(refine Yi rfl 150 (.tmp 3) _ rfl (k+2) 0 z ?_ ?_ ?_ ?_ ?_ ?_;rfl;exact X.symm;exact HT;exact HI.2.1;exact q.2.2.2;rw[T.out])|fail)
 refine XR (qX 2 3 rfl K5.1 K5.2.1 rfl rfl uGr HI.2.2.1 uGr HI.2.2.2) rfl ?_;exact⟨_,rfl,HP⟩
def GRq.ar{Q:Nat->Prop}{W:XF}{v:XG}{n:Nat}{G H:Nat->LB}{U:LB}(h:GRq Q W v n G H U):∃e:Array XG,v=.agg e/\e.size=3/\e.all (·.oneCell')=true:=by
 obtain⟨f,j,b,rfl,⟨g,i,c1,rfl,-⟩,⟨k,l,c2,rfl,-⟩,⟨c,d,rfl,-⟩⟩:=h.ex;exact⟨_,rfl,rfl,kR⟩
structure FgI(w W:XF)(k x xi:Nat)(vg vh vu:XG):Prop where
 bl:kZ w W
 r2:Row W k [vg,vh,vu]
 r3:Row W (k+1) (wn x)
 r4:Row W (k+2) [nZ,nZ,nZ]
def FgI.grow{w W W':XF}{k x c:Nat}{d e f:XG}(h:FgI w W k x c d e f)(b:kZ W W'):FgI w W' k x c d e f:=⟨h.bl.trans (b.mono h.bl.size),h.r2.below b,h.r3.below b,h.r4.below b⟩
def FgI.drew{w W:XF}{k x b:Nat}{c d e:XG}(h:FgI w W k x b c d e):FgI w W.drew k x b c d e:=h.grow ⟨rfl,rfl,rfl,XH _,λ_ _=>rfl⟩
def GW(O:Ord N){Q:Nat->Prop}(n c:Nat)(hy:0<n)(G H:Nat->LB)(U:LB)(hG:GOk N (n+n) c G H U)(x:Nat)(hx:x<N)(v:XG)(w:XF)(hQ:∀g,w.heap.size<=g->Q g)(h0:GRq Q w v (n+n) G H U):
 cZ 146 #[v,nv x] w (rZ w λe w'=>GRq Q w' e n (lY N (sIn N x) x n G) (lY N x (sIn N x) n H) U):=by
 obtain⟨q,r,i,rfl,h3,h4,h5⟩:=h0.ex;have P:sIn N x<N:=Zi _ O.pos;have T:=λW=>wS O x hx W
 have K:=λ(W:XF) (f:kZ w W)=>LQ O n (oN hG.nle) c (oN hG.cle) hG.c0 G (sIn N x) x P hx hG.g q W (h3.keep (Kq.of_below f))
 have F:=λ(W:XF) (f:kZ w W)=>LQ O n (oN hG.nle) c (oN hG.cle) hG.c0 H x (sIn N x) hx P hG.h r W (h4.keep (Kq.of_below f))
 generalize lY N (sIn N x) x n G=Z at K⊢;generalize lY N x (sIn N x) n H=H' at F⊢;generalize sIn N x=j at T K F;have HX:=mk3 T K F;have HU:=mk2 h5 hQ;obtain⟨k,hk⟩:=hE (w.heap.size);obtain⟨o,s⟩:=hE (w.alloc (.cells #[q,r,i] 150));obtain⟨C,B⟩:=hE (lZ o (wn x) 44);obtain⟨w3,I⟩:=hE (C.alloc (.cells #[nZ,nZ,nZ] 150));have J:o.heap.size=k+1:=by rw[<-s.out,XS,hk.out]
 have hi:C.heap.size=k+2:=by rw[<-B.out,XS,J]
 have K3:Hid (FgI w w3 k x j q r i):=by
  have b1:kZ w o:=s.out▸aC _;have m:kZ o C:=B.out▸aC _;have l:kZ C w3:=I.out▸aC _;have p:Row o k [q,r,i]:=s.out▸hk.out▸row_new w _ _;have A:Row C (k+1) (wn x):=by rw[<-B.out,<-J];exact row_new o _ _
  have t:Row w3 (k+2) [nZ,nZ,nZ]:=by rw[<-I.out,<-hi];exact row_new C _ _
  exact⟨(b1.trans (m.mono b1.size)).trans (l.mono (XN b1.size m.size)),(p.below m).below l,A.below l,t⟩
 obtain⟨v0,h6⟩:=hE (Yg #[q,r,i]);obtain⟨vx,A⟩:=hE (nv x);have B1:Hid ((Yu 150 v0).run prog w=.ok (jZ k) o):=h6.out▸s.out▸hk.out▸DF;have B2:Hid ((Yu 44 vx).run prog o=.ok (jZ (k+1)) C):=by rw[<-A.out,<-B.out,<-J];exact boxS
 have HZ:=mk1 (hi);obtain⟨d,hr,hn⟩:=XK.1 u40;have HD:=mk2 hr hn;rw[h6.out,A.out];go_enter func146,ntmps146;go_wp2_with (first|(refine aG (u:=v0) (v:=jZ k) (w':=o) rfl 150 (.tmp 0) rfl ?_ ?_ ?_;rfl;exact B1)|(refine aG (u:=vx) (v:=jZ (k+1)) (w':=C) rfl 44 (.tmp 1) rfl ?_ ?_ ?_;rfl;exact B2)|(refine fR (v:=jZ (k+2)) (w':=w3) rfl 150 4 rfl rfl ?_ ?_;(rw[<-I.out,<-HZ.out];kernel_rfl))|(refine ldR 3 K3.r3.2.1 A u40 nSc ?_)|fail)
 rw[<-A.out];apply(HX.1 w3).mono;rintro e S ⟨u,rfl,hu,rfl⟩;obtain⟨M,E⟩:=hE (S.heap.size);obtain⟨w5,Y⟩:=hE (S.alloc (.cells #[uZ 0,uZ 0,uZ 0,uZ 0] 44));obtain⟨w6,hl⟩:=hE (w5.setCells M 0 (wn j));have F5:Hid (Row w5 M [uZ 0,uZ 0,uZ 0,uZ 0]/\kZ S w5):=by rw[<-Y.out,<-E.out];exact⟨row_new S _ _,aC _⟩
 have K6:Hid (FgI w w6 k x j q r i/\Row w6 M (wn j)):=by
  rw[<-hl.out];exact⟨(K3.grow hu).grow (RG.below_setCells (E.out▸XH _) _ _ _ F5.2),F5.1.put rfl⟩
 obtain⟨vi,h7⟩:=hE (nv j);rw[h7.out];go_wp2_with (first|(refine alR 5 E Y ?_)|(refine stR 5 hl h7 F5.1.2.2 nSc aI ?_)|fail)
 refine(gwL [pE (jZ k),pE q,pE (nv j),pE (nv x),pG (λg=>w.heap.size<=g/\g≠k+2) n Z,pE (oZ k 1),pE r,pE (nv x),pE (nv j),pG (λg=>w.heap.size<=g/\g≠k+2) n H',pE (oZ k 2),pE i,⟨λv W=>∃x y,v=.agg #[x,y,i]/\GLq (λg=>w.heap.size<=g/\g≠k+2) W x n Z/\GLq (λg=>w.heap.size<=g/\g≠k+2) W y n H',λ_ _ _ l ⟨x,y,h1,X,h3⟩=>⟨x,y,h1,X.keep (Kq.of_below l),h3.keep (Kq.of_below l)⟩⟩] (λW=>FgI w W k x j q r i/\Row W M (wn j)) (λW W' l h=>⟨h.1.grow l,h.2.below l⟩)).last 13 kR kR kR ⟨
  gO 2 (jZ k),
  fC 0 8 k 0 q uGL (λx W h=>h) (λW f=>f.1.r2.2.1 0 _ rfl) (λ_=>rfl),
  iU 5 M 0 rSc nSc rfl (λW f=>f.2.2.1) (λ_=>rfl),
  iU 3 (k+1) 0 rSc nSc rfl (λW f=>f.1.r3.2.1) (λ_=>rfl),
  nJ 1 9 2 10 3 11 190 (λx y z=>#[x,y,z]) (λa b c W m l p f=>by
   obtain rfl:a=q:=m;obtain rfl:b=nv j:=l;obtain rfl:c=nv x:=p;apply(HX.2.1 W f.1.bl).mono;rintro e W' ⟨u,rfl,l,t⟩;exact⟨_,rfl,l,t.mono λg D=>⟨XN f.1.bl.size D,oN f.1.r4.1⟩⟩),
  gP 2 (jZ k) (oZ k 1),
  fC 5 13 k 1 r uGL (λx W h=>h) (λW f=>f.1.r2.2.1 1 _ rfl) (λ_=>rfl),
  iU 3 (k+1) 0 rSc nSc rfl (λW f=>f.1.r3.2.1) (λ_=>rfl),
  iU 5 M 0 rSc nSc rfl (λW f=>f.2.2.1) (λ_=>rfl),
  nJ 6 14 7 15 8 16 190 (λx y z=>#[x,y,z]) (λa b c W m l p f=>by
   obtain rfl:a=r:=m;obtain rfl:b=nv x:=l;obtain rfl:c=nv j:=p;apply(HX.2.2 W f.1.bl).mono;rintro e W' ⟨u,rfl,l,t⟩;exact⟨_,rfl,l,t.mono λg D=>⟨XN f.1.bl.size D,oN f.1.r4.1⟩⟩),
  gP 2 (jZ k) (oZ k 2),
  fC 10 18 k 2 i Bt (λx W h=>h) (λW f=>f.1.r2.2.1 2 _ rfl) (λ_=>rfl),
  bL (λa W t=>by
   have h1:=t.n 4 12 kR kR;have X:=t.n 9 17 kR kR;have h3:=t.n 11 19 kR kR;obtain⟨g1,R,c1,L,-⟩:=id h1;obtain⟨g2,V,c2,e2,-⟩:=id X;obtain⟨g3,c3,e3,-⟩:=HU.1;rw[L]at h1;rw[e2]at X;refine⟨[(12,qZ g1 R n c1),(17,qZ g2 V n c2),(19,i)],.agg #[qZ g1 R n c1,qZ g2 V n c2,i],W,⟨L,e2,h3,yE5⟩,?_,XX _ _,⟨_,_,rfl,h1,X⟩⟩;rw[e3];kernel_rfl),yE5⟩ ⟨K6.1.drew,K6.2⟩ ?_
 intro V L hR f;obtain⟨p,m,hV,hj,R⟩:∃x y,V 12=.agg #[x,y,i]/\GLq (λg=>w.heap.size<=g/\g≠k+2) L x n Z/\GLq (λg=>w.heap.size<=g/\g≠k+2) L y n H':=hR 12 dC;have hq:=HU.1.keep (Kq.of_below f.1.bl);have t:∀g,w.heap.size<=g/\g≠k+2->Q g:=λg D=>HU.2 g D.1
 have gr:GRq Q L (.agg #[p,m,i]) n Z H' U:=⟨_,_,_,rfl,hj.mono t,R.mono t,hq⟩
 obtain⟨e,he,hw,ht⟩:=gr.ar;obtain rfl:#[p,m,i]=e:=by injection he
 obtain⟨w8,h8⟩:=hE (L.setCells (k+2) 0 [p,m,i]);have K8:Hid (kZ w w8/\Row w8 (k+2) [p,m,i]/\GRq Q w8 (.agg #[p,m,i]) n Z H' U):=by
  rw[<-h8.out];have kq:Kq (λg=>w.heap.size<=g/\g≠k+2) L (L.setCells (k+2) 0 [p,m,i]):=Kq.set λg D=>D.2
  have h9:kZ w (L.setCells (k+2) 0 [p,m,i]):=RG.below_setCells (by rw[hk.out];omega) _ _ _ f.1.bl;exact⟨h9,f.1.r4.put rfl,_,_,_,rfl,(hj.keep kq).mono t,(R.keep kq).mono t,HU.1.keep (Kq.of_below h9)⟩
 have HT:=mk2 f.1.r4.2.2 ht;dsimp only[bY,YQ,Z4,Z5];simp only[Yo,XJ,XM,XO];obtain⟨ve,hm⟩:=hE (Yg #[p,m,i]);rw[hV,hm.out];go_wp2_with (first|(refine Yi rfl 150 (.tmp 4) _ rfl (k+2) 0 #[p,m,i] ?_ ?_ ?_ ?_ ?_ ?_;rfl;exact hm.symm;exact HT.1;exact iGr;exact HT.2;rw[show(#[p,m,i]:Array XG).toList=[p,m,i] from rfl,h8.out])|fail)
 refine XR (aF 4 rfl K8.2.1 rfl uGr iGr) rfl ?_;exact⟨_,rfl,K8.1,K8.2.2⟩
def lgV(r:Nat):XG:=.agg #[jZ r]
def uLg:yZ 159:=yQ
def iLg:gZ 159 1:=gQ
def uLp:wZ 155:=wQ
def Po{r:Nat}{w:XF}:(Yu 159 (lgV r)).run prog w=.ok (jZ w.heap.size) (w.alloc (.cells #[jZ r] 159)):=kR
def eR{W:XF}{r K o:Nat}{vs:List XG}{L:Bs}(h:hZ W r 0 L)(k:r≠K):hZ (W.setCells K o vs) r 0 L:=λj b=>by
 have e:=aE (k:=K) vs o W r k;rw[Yb (a:=⟨r,0+j,none⟩) e,Y6 (a:=⟨r,0+j,none⟩) e];exact h j b
def ID(k:ByteArray)(w:XF)(b:k.size<=1048576):cZ 133 #[.string k] w (rZ w λe w'=>∃r,e=lgV r/\w.heap.size<=r/\r<w'.heap.size/\hZ w' r 0 (newL k.data.toList)):=by
 obtain⟨L,q⟩:=hE (newL k.data.toList);rw[q.out];obtain⟨o,i⟩:=hE (w.alloc (.cells #[.pointer none] 159));have m:Hid (Row o w.heap.size [.pointer none]/\kZ w o):=by rw[<-i.out];exact⟨row_new w _ _,aC _⟩
 go_enter func133,ntmps133;go_wp2_with fail
 rw[i.out];apply(Il k o b).mono;rintro e s ⟨u,rfl,c,r,rfl,n,p,d⟩;rw[q.out]at d;have t:=XI m.1.1 n;have g:=mk4 (m.1.below c) (m.2.trans (c.mono m.2.size)) d p;obtain⟨l,f⟩:=hE (s.setCells w.heap.size 0 [jZ r]);have j:Hid (Row l w.heap.size [jZ r]/\kZ w l/\hZ l r 0 L/\r<l.heap.size):=by
  rw[<-f.out];exact⟨g.1.put rfl,RG.below_setCells (XH _) _ _ _ g.2.1,eR g.2.2.1 oM,by rw[setCells_size];exact g.2.2.2⟩
 go_wp2_with (refine bF (v:=.agg #[jZ r]) (w':=s) rfl (.build 159 _) rfl ?_ ?_;kernel_rfl;refine Hid ?_)
 show wpList _ _ _ _ _ _;refine Yi rfl 159 _ _ rfl w.heap.size 0 #[jZ r] ?_ ?_ ?_ ?_ ?_ ?_
 .kernel_rfl
 .kernel_rfl
 .exact g.1.2.2
 .exact iLg
 .kernel_rfl
 rw[show(#[jZ r]).toList=[jZ r] from rfl,f.out];go_wp2;refine XR (aF 2 rfl j.1 rfl uLg iLg) rfl ?_;exact⟨_,rfl,j.2.1,r,rfl,oM,j.2.2.2,j.2.2.1⟩
def Ap(O:Ord N)(r:Nat)(L:Bs)(w:XF)(u:hZ w r 0 L)(G:L.size=32):
 cZ 187 #[.agg #[jZ r]] w (Ret λe w'=>SP.Only r 0 32 w w'/\hZ w' r 0 (aX L)/\e=nv (cha N L)):=by
 have t:=Holds.lt u oM;obtain⟨b,c⟩:=yH ((w.alloc (.cells #[jZ r] 157)).alloc (.cells #[uZ 0,uZ 0,uZ 0,uZ 0] 44));have p:Hid (Row b (w.heap.size+1) [uZ 0,uZ 0,uZ 0,uZ 0]/\kZ w b/\hZ b r 0 L/\b.rangeAt w.heap.size 0 [jZ r]):=by
  rw[<-c.out];have k:kZ w ((w.alloc (.cells #[jZ r] 157)).alloc (.cells #[uZ 0,uZ 0,uZ 0,uZ 0] 44)):=(aC _).alloc (by rw[XS];omega) _;have hR:=row_new (w.alloc (.cells #[jZ r] 157)) [uZ 0,uZ 0,uZ 0,uZ 0] 44;rw[XS]at hR;exact⟨hR,k,Holds.below u k t,((row_new w [jZ r] 157).alloc _).2.1⟩
 clear u;obtain⟨d,f,l⟩:=XK.1 u124;have a:Hid (prog.underlying 157=some d/\d.isRow=true):=⟨f,l⟩
 clear f l;have A:=Ej O r L ⟨#[99,104,97,108,108,101,110,103,101]⟩ b dC p.2.2.1 G;have g:mQ N (DK L (⟨#[99,104,97,108,108,101,110,103,101]⟩:ByteArray).data.toList 64)=cha N L:=rfl;have j:uS L (⟨#[99,104,97,108,108,101,110,103,101]⟩:ByteArray).data.toList=aX L:=rfl;rw[g,j]at A;have q:(aX L).size=32:=bD;have z:=Hid.mk' A;obtain⟨m,y⟩:=hE (cha N L);obtain⟨F,k⟩:=hE (aX L);rw[y.out,k.out]at z;rw[k.out]at q;rw[y.out,k.out];go_enter func187,ntmps187;go_wp2_with (refine YG rfl 157 _ rfl w.heap.size 0 ?_ [jZ r] d ?_ ?_ ?_ ?_ ?_;kernel_rfl;(rw[c.out];exact p.2.2.2);exact a.1;exact a.2;exact i124;rw[c.out])
 refine z.mono ?_;rintro e D ⟨v,rfl,C,B,rfl⟩;have E:=Holds.lt B oM;have o:=mk3 (p.1.only C oM) ((SP.Only.of_below p.2.1 rfl t).trans C) B;obtain⟨x,n⟩:=hE (D.setCells (w.heap.size+1) 0 (wn m));have s:Hid (Row x (w.heap.size+1) (wn m)/\SP.Only r 0 32 w x/\hZ x r 0 F):=by rw[<-n.out];exact⟨o.1.put rfl,dY o.2.1 t oM,eR o.2.2 oM⟩
 obtain⟨H,i⟩:=hE (nv m);rw[i.out];go_wp2_with (refine Yi rfl 44 _ _ rfl (w.heap.size+1) 0 (wn m).toArray ?_ ?_ ?_ ?_ ?_ ?_;rfl;exact i.symm;exact o.1.2.2;exact i40;exact aI;rw[show(wn m).toArray.toList=wn m from rfl,n.out])
 refine XR (aF 2 rfl s.1 rfl u40 i40) rfl ?_;exact⟨_,rfl,s.2.1,s.2.2,rfl⟩
def chS(N:Nat)(L:Bs):Nat:=lQ (cha N L)
def Hd{L:Bs}[NeZero N](d:1<N)(b:cha N L<N):chS N L=(lD N L).val:=by
 unfold chS lD Oy lQ;generalize cha N L=c at b;have hv:(ofF N c).val=c:=Ya b;by_cases k:c=0
 .subst k;rw[yE3 rfl,yE3 oG];exact(Ya d).symm
 .rw[yE4 k,yE4 (λe=>k (by rw[<-hv,e];exact yBf N)),hv]
def zS(O:Ord N)(r:Nat)(L:Bs)(w:XF)(a:hZ w r 0 L)(P:L.size=32):
 cZ 136 #[lgV r] w (Ret λe w'=>SP.Only r 0 32 w w'/\hZ w' r 0 (aX L)/\e=nv (chS N L)):=by
 have y:=Holds.lt a oM;obtain⟨c,f⟩:=yH ((w.alloc (.cells #[jZ r] 159)).alloc (.cells #[uZ 0,uZ 0,uZ 0,uZ 0] 44));have s:Hid (Row c (w.heap.size+1) [uZ 0,uZ 0,uZ 0,uZ 0]/\kZ w c/\hZ c r 0 L/\c.rangeAt w.heap.size 0 [jZ r]):=by
  rw[<-f.out];have k:kZ w ((w.alloc (.cells #[jZ r] 159)).alloc (.cells #[uZ 0,uZ 0,uZ 0,uZ 0] 44)):=(aC _).alloc (by rw[XS];omega) _;have hR:=row_new (w.alloc (.cells #[jZ r] 159)) [uZ 0,uZ 0,uZ 0,uZ 0] 44;rw[XS]at hR;exact⟨hR,k,Holds.below a k y,((row_new w [jZ r] 159).alloc _).2.1⟩
 clear a;obtain⟨d,g,n⟩:=XK.1 u124;have E:Hid (prog.underlying 157=some d/\d.isRow=true):=⟨g,n⟩
 clear g n;have M:=Ap O r L c s.2.2.1 P;have z:cha N L<N:=pJ O;have j:=λW=>Gv O z W
 have B:lQ (cha N L)=chS N L:=rfl;rw[B]at j;have u:(aX L).size=32:=bD;obtain⟨m,C⟩:=hE (cha N L);obtain⟨q,F⟩:=hE (chS N L);obtain⟨K,k⟩:=hE (aX L);have D:=Hid.mk' M;have G:=Hid.mk' j;rw[C.out,k.out]at D;rw[C.out,F.out]at G;rw[k.out]at u;rw[F.out,k.out];unfold lgV;go_enter func136,ntmps136;go_wp2_with (refine YG rfl 157 _ rfl w.heap.size 0 ?_ [jZ r] d ?_ ?_ ?_ ?_ ?_;kernel_rfl;(rw[f.out];exact s.2.2.2);exact E.1;exact E.2;exact i124;rw[f.out])
 refine D.mono ?_;rintro e J ⟨v,rfl,I,H,rfl⟩;have i:=Holds.lt H oM;have t:=mk3 (s.1.only I oM) ((SP.Only.of_below s.2.1 rfl y).trans I) H;go_wp2_with fail
 apply(G J).mono;rintro e Q ⟨R,rfl,b,rfl⟩;have p:=mk3 (t.1.below b) (t.2.1.trans (SP.Only.of_below b rfl i)) (Holds.below t.2.2 b i);obtain⟨A,o⟩:=hE (Q.setCells (w.heap.size+1) 0 (wn q));have x:Hid (Row A (w.heap.size+1) (wn q)/\SP.Only r 0 32 w A/\hZ A r 0 K):=by rw[<-o.out];exact⟨p.1.put rfl,dY p.2.1 y oM,eR p.2.2 oM⟩
 obtain⟨S,l⟩:=hE (nv q);rw[l.out];go_wp2_with (refine Yi rfl 44 _ _ rfl (w.heap.size+1) 0 (wn q).toArray ?_ ?_ ?_ ?_ ?_ ?_;rfl;exact l.symm;exact p.1.2.2;exact i40;exact aI;rw[show(wn q).toArray.toList=wn q from rfl,o.out])
 refine XR (aF 2 rfl x.1 rfl u40 i40) rfl ?_;exact⟨_,rfl,x.2.1,x.2.2,rfl⟩
structure CaI(w W:XF)(k r:Nat)(X Y L:Bs):Prop where
 on:SP.Only r 0 32 w W
 r0:Row W k [jZ r]
 r1:Row W (k+1) (aA X)
 r2:Row W (k+2) (aA Y)
 r3:Row W (k+3) [uZ 0,uZ 0,uZ 0,uZ 0]
 lg:hZ W r 0 L
def CaI.grow{w W W':XF}{k r:Nat}{X Y L:Bs}(h:CaI w W k r X Y L)(d:L.size=32)(b:kZ W W'):CaI w W' k r X Y L:=
 have c:=Holds.lt h.lg oM
 ⟨h.on.trans (SP.Only.of_below b rfl c),h.r0.below b,h.r1.below b,h.r2.below b,h.r3.below b,Holds.below h.lg b c⟩
def CaI.say{w W W':XF}{k r:Nat}{X Y L c:Bs}(h:CaI w W k r X Y L)(e:r<k)(b:SP.Only r 0 32 W W')(d:hZ W' r 0 c):CaI w W' k r X Y c:=
 ⟨h.on.trans b,h.r0.only b oM,h.r1.only b oM,h.r2.only b oM,h.r3.only b oM,d⟩
def uM(O:Ord N)(r:Nat)(L X Y:Bs)(l o:ByteArray)(h1:l.size<=1048576)(h2:o.size<=1048576)(hX:X.size=33)(hY:Y.size=33)(w:XF)(hL:hZ w r 0 L)(hl:L.size=32):
 cZ 135 #[lgV r,.string l,pvl X,.string o,pvl Y] w (Ret λe w'=>SP.Only r 0 32 w w'/\hZ w' r 0 (aX (kH l.data.toList o.data.toList L X Y))/\e=nv (chS N (kH l.data.toList o.data.toList L X Y))):=by
 have hr:=Holds.lt hL oM;obtain⟨G,D⟩:=yH (wJ L l.data.toList X.toList);have s1:G.size=32:=D.out▸lI;obtain⟨z,H⟩:=yH (wJ G o.data.toList Y.toList);have s2:z.size=32:=H.out▸lI;have e2:kH l.data.toList o.data.toList L X Y=z:=by unfold kH;rw[D.out,H.out]
 rw[e2];obtain⟨k,I⟩:=yH w.heap.size;obtain⟨b,n⟩:=yH (w.alloc (.cells #[jZ r] 159));obtain⟨c,p⟩:=yH (b.alloc (.cells (aA X).toArray 51));obtain⟨f,i⟩:=yH (c.alloc (.cells (aA Y).toArray 51));obtain⟨B,C⟩:=yH (f.alloc (.cells #[uZ 0,uZ 0,uZ 0,uZ 0] 44));have z1:b.heap.size=k+1:=by rw[<-n.out,XS,I.out]
 have z2:c.heap.size=k+2:=by rw[<-p.out,XS,z1]
 have z3:f.heap.size=k+3:=by rw[<-i.out,XS,z2]
 have F:r<k:=I.out▸hr;have HK:Hid (w.heap.size<=k):=by show _<=_;rw[I.out];exact XH _
 have K4:Hid (CaI w B k r X Y L):=by
  have b1:kZ w b:=n.out▸aC _;have s:kZ b c:=p.out▸aC _;have j:kZ c f:=i.out▸aC _;have g:kZ f B:=C.out▸aC _;have y:Row b k [jZ r]:=n.out▸I.out▸row_new w _ _;have A:Row c (k+1) (aA X):=by rw[<-p.out,<-z1];exact row_new b _ _
  have a:Row f (k+2) (aA Y):=by rw[<-i.out,<-z2];exact row_new c _ _
  have t:Row B (k+3) [uZ 0,uZ 0,uZ 0,uZ 0]:=by rw[<-C.out,<-z3];exact row_new f _ _
  have bb:kZ w B:=((b1.trans (s.mono b1.size)).trans (j.mono (XN b1.size s.size))).trans (g.mono (XN b1.size (XN s.size j.size)));exact⟨SP.Only.of_below bb rfl hr,((y.below s).below j).below g,(A.below j).below g,a.below g,t,Holds.below hL bb hr⟩
 obtain⟨vl,J⟩:=yH (lgV r);obtain⟨vX,T⟩:=yH (pvl X);obtain⟨vY,U⟩:=yH (pvl Y);have B1:Hid ((Yu 159 vl).run prog w=.ok (jZ k) b):=J.out▸n.out▸I.out▸Po;have B2:Hid ((Yu 51 vX).run prog b=.ok (jZ (k+1)) c):=by rw[<-T.out,<-p.out,<-z1];exact tB hX b
 have B3:Hid ((Yu 51 vY).run prog c=.ok (jZ (k+2)) f):=by rw[<-U.out,<-i.out,<-z2];exact tB hY c
 have HZ:Hid (f.heap.size=k+3):=z3;rw[J.out,T.out,U.out];have S:Hid (Ord N/\l.size<=1048576/\o.size<=1048576/\X.size=33/\Y.size=33):=⟨O,h1,h2,hX,hY⟩
 clear hL z1 z2 z3 n p i I e2 O h1 h2 hX hY;go_enter func135,ntmps135;go_wp2_with (first|(refine aG (u:=vl) (v:=jZ k) (w':=b) rfl 159 (.tmp 0) rfl ?_ ?_ ?_;rfl;exact B1)|(refine aG (u:=vX) (v:=jZ (k+1)) (w':=c) rfl 51 (.tmp 2) rfl ?_ ?_ ?_;rfl;exact B2)|(refine aG (u:=vY) (v:=jZ (k+2)) (w':=f) rfl 51 (.tmp 4) rfl ?_ ?_ ?_;rfl;exact B3)|(refine fR (v:=jZ (k+3)) (w':=B) rfl 44 10 rfl rfl ?_ ?_;(rw[<-C.out,<-HZ.out];kernel_rfl))|fail)
 refine(gwL [pE (jZ k),pE (jZ k),pE (jZ r),pE (.string l),pE (sZ (k+1) 33 33)] (λW=>CaI w W k r X Y L) (λW W' hb h=>h.grow hl hb)).tail2 5 kR kR kR ⟨
  gO 5 (jZ k),
  sL 0 11 (jZ k) (jZ k) (λx W h=>h) (λ_=>rfl),
  fC 1 12 k 0 (jZ r) uLp (λx W h=>h) (λW a=>a.r0.2.1 0 _ rfl) (λ_=>rfl),
  gO 1 (.string l),
  gP 7 (jZ (k+1)) (sZ (k+1) 33 33),yE5⟩ (K4.grow hl ⟨rfl,rfl,rfl,XH _,λ_ _=>rfl⟩) ?_
 intro V w5 hR a;have g:V 2=jZ r:=hR 2 dC;have s:V 3=.string l:=hR 3 dC;have j:V 4=sZ (k+1) 33 33:=hR 4 dC;dsimp only[bY,YQ,Z4,Z5];simp only[Yo,XJ,XM,XO];rw[g,s,j];have y:=Hid.mk' a;clear hR a g s j K4;generalize V 0=s0;generalize V 1=h3;go_wp2_with fail
 apply(Cm r L l (some ⟨k+1,0,none⟩) 33 33 X.toList w5 S.2.1 (Q9 y.lg) hl (yD S.2.2.2.1 y.r1)).mono;rintro e w6 ⟨rfl,A,t⟩;rw[D.out]at t;have K6:Hid (CaI w w6 k r X Y G):=y.say F A (Q6 t);clear A t y;go_wp2_with fail
 refine(gwL [pE (jZ k),pE (jZ k),pE (jZ r),pE (.string o),pE (sZ (k+2) 33 33)] (λW=>CaI w W k r X Y G) (λW W' hb h=>h.grow s1 hb)).tail2 5 kR kR kR ⟨
  gO 5 (jZ k),
  sL 0 17 (jZ k) (jZ k) (λx W h=>h) (λ_=>rfl),
  fC 1 18 k 0 (jZ r) uLp (λx W h=>h) (λW a=>a.r0.2.1 0 _ rfl) (λ_=>rfl),
  gO 3 (.string o),
  gP 9 (jZ (k+2)) (sZ (k+2) 33 33),yE5⟩ (K6.grow s1 ⟨rfl,rfl,rfl,XH _,λ_ _=>rfl⟩) ?_
 intro V w7 hR a;have g:V 2=jZ r:=hR 2 dC;have s:V 3=.string o:=hR 3 dC;have j:V 4=sZ (k+2) 33 33:=hR 4 dC;dsimp only[bY,YQ,Z4,Z5];simp only[Yo,XJ,XM,XO];rw[g,s,j];have y:=Hid.mk' a;clear hR a g s j K6;generalize V 0=h4;generalize V 1=s3;go_wp2_with fail
 apply(Cm r G o (some ⟨k+2,0,none⟩) 33 33 Y.toList w7 S.2.2.1 (Q9 y.lg) s1 (yD S.2.2.2.2 y.r2)).mono;rintro e w8 ⟨rfl,A,t⟩;rw[H.out]at t;have Z:Hid (CaI w w8 k r X Y z):=y.say F A (Q6 t);clear A t y;have HS:=Hid.mk' (zS S.1 r z w8 Z.lg s2);have h0:(aX z).size=32:=bD;obtain⟨q,hq⟩:=yH (chS N z);obtain⟨L3,E⟩:=yH (aX z);rw[hq.out,E.out]at HS;rw[E.out]at h0;obtain⟨d,R,P⟩:=XK.1 uLg;have HD:Hid (prog.underlying 159=some d/\d.isRow=true):=⟨R,P⟩
 clear R P;go_wp2_with (first|(refine YG rfl 159 (.tmp 5) rfl k 0 ?_ [jZ r] d ?_ ?_ ?_ ?_ ?_;rfl;exact Z.r0.2.1;exact HD.1;exact HD.2;exact iLg;skip)|fail)
 refine HS.mono ?_;rintro e w9 ⟨v,rfl,A,t,rfl⟩;have K9:Hid (CaI w w9 k r X Y L3):=Z.say F A t;clear A t Z HS;obtain⟨Q,K⟩:=yH (w9.setCells (k+3) 0 (wn q));have KA:Hid (Row Q (k+3) (wn q)/\SP.Only r 0 32 w Q/\hZ Q r 0 L3):=by
  have M:=HZ;rw[<-K.out];exact⟨K9.r3.put rfl,dY K9.on hr (oN HK),eR K9.lg oM⟩
 obtain⟨vm,M⟩:=yH (nv q);rw[M.out];go_wp2_with (refine Yi rfl 44 _ _ rfl (k+3) 0 (wn q).toArray ?_ ?_ ?_ ?_ ?_ ?_;rfl;exact M.symm;exact K9.r3.2.2;exact nSc;exact aI;rw[show(wn q).toArray.toList=wn q from rfl,K.out])
 refine XR (aF 10 rfl KA.1 rfl rSc nSc) rfl ?_;exact⟨_,rfl,KA.2.1,E.out▸KA.2.2,by rw[hq.out];rfl⟩
def FT:prog.underlying 27=some (.slice 23):=kR
def SA:(prog.info? 23).map (λi=>(i.size,i.bytes,i.zero.map λz=>z.cells.size))=some (1,24,some 1):=kR
def gU(g o j:Nat):(⟨g,o,none⟩:Y4).add j=⟨g,o+j,none⟩:=by
 unfold yBZ;by_cases k:j=0
 .subst k;rw[yE3 rfl];rfl
 .rw[yE4 k]
structure VL(w:XF)(q:Option Y4)(m:Nat)(ys:List XG):Prop where
 len:ys.length=m
 nil:q=none->m=0
 cells:ys=[]\/∃b o,q=some ⟨b,o,none⟩/\b<w.heap.size/\∀(j:Nat) u,ys[j]? = some u->w.cell? ⟨b,o+j,none⟩=some u
 one:∀u∈ys,u.oneCell'=true
def VL.below{w w':XF}{q:Option Y4}{m:Nat}{ys:List XG}(h:VL w q m ys)(k:Below w.heap.size w w'):VL w' q m ys:=
 ⟨h.len,h.nil,by
  rcases h.cells with d|⟨b,o,f,c,g⟩
  .exact Yk d
  .exact Yd ⟨b,o,f,XI c k.size,λj u e=>by rw[k.cell (p:=⟨b,o+j,none⟩) c];exact g j u e⟩,h.one⟩
end
section
def Hid.mkP{p:Prop}(h:p):Hid p:=h
section
variable {P:YO}{ops:Array Yw}{rest:List Yw}{op:Yw}{a:Act}{w w':XF}{v:XG}{Q:Exit->Act->XF->Prop}
def dQ(k:op.guard=none)(X:Op)(_:op.op=X)(b:(Ym a.eval op).run P w=.ok (.value v) w')(h:wpList P ops Q rest (a.put op.dst v) w'):wpList P ops Q (op :: rest) a w:=
 ZT k λK c=>by
  unfold Y8;rw[b];exact c _ _ h
end
def bJ(w:XF)(o:Obj):Below w.heap.size w (w.alloc o):=(XX _ _).alloc (XH _) _
def fO{w:XF}{cs:Array XG}{T:Yj}{j:Nat}{v:XG}(h:cs[j]? = some v):(w.alloc (.cells cs T)).cell? ⟨w.heap.size,j,none⟩=some v:=by
 unfold World.alloc YY;simp[h]
end
section
variable {P:Nat}[NeZero P]{N:Nat}
structure Sv where
 q:Option Y4
 n:Nat
 c:Nat
def Sv.v(s:Sv):XG:=.slice s.q s.n s.c
def rgC(a b c d e f g l r x y:Sv):List XG:=[a.v,b.v,c.v,d.v,e.v,f.v,g.v,l.v,r.v,x.v,y.v]
def uRg:yZ 66:=yQ
def iRg:gZ 66 11:=gQ
def UX{g n c i:Nat}{w:XF}(k:i<n):(YV 27 (sZ g n c) (iZ i)).run prog w=.ok (oZ g i) w:=by
 go_simp
def Pt(W:XF)(u:XG)(b:SP.Bs):Prop:=∃q c,u=.slice q (Array.size b) c/\(b.size=0\/∃g o,q=some ⟨g,o,none⟩/\g<W.heap.size/\Holds SP.encB W g o b)
def Pt.below{W W':XF}{u:XG}{b:SP.Bs}(h:Pt W u b)(d:Below W.heap.size W W'):Pt W' u b:=by
 obtain⟨q,c,e,i|⟨g,o,f,k,j⟩⟩:=h
 .exact⟨q,c,e,Yk i⟩
 .exact⟨q,c,e,Yd ⟨g,o,f,XI k d.size,SP.Holds.below j d k⟩⟩
def oR{w:XF}{cs:List XG}{T:Yj}:(w.alloc (.cells cs.toArray T)).rangeAt w.heap.size 0 cs:=λj u k=>by rw[XQ];exact fO (by simpa using k)
def range_below{w w':XF}{b o:Nat}{cs:List XG}(h:w.rangeAt b o cs)(c:Below w.heap.size w w')(k:b<w.heap.size):w'.rangeAt b o cs:=λj u d=>by rw[c.cell (p:=⟨b,o+j,none⟩) k];exact h j u d
structure Rg where
 a:Sv
 b:Sv
 c:Sv
 d:Sv
 e:Sv
 f:Sv
 g:Sv
 l:Sv
 r:Sv
 x:Sv
 y:Sv
def Rg.cs(p:Rg):List XG:=rgC p.a p.b p.c p.d p.e p.f p.g p.l p.r p.x p.y
def vP{n c:Nat}(h:c<n):yBe n c<=2*n+768:=by
 unfold yBe;split
 .omega
 .split
  .omega
  .simp only[Builtin.growBy];repeat' split
   all_goals omega
def yN{t n m size c:Nat}{T e:Yj}{i:TypeInfo}{z:XG}{W W':XF}{v y:XG}{xs d:List XG}{a:Y4}(C:prog.underlying T=some (.slice e))(F:prog.info? e=some i)(L:i.zero=some z)(D:i.size=size)(H:i.bytes<=1000)
 (k:W.ownsRow t e size v n xs) (s:Src prog size T (.slice (some a) m c) m d W) (b:n+m<=1000000000)
 (p:(YK #[T,T] T #[v,.slice (some a) m c]).run prog W=.ok y W'):y.ownBlock=v.ownBlock\/y.ownBlock=some W.heap.size:=by
 subst D;have b:∀(q:Option Y4) (cap:Nat) (olds:List XG),v=.slice q n cap->cap<n+m->(yC6 i.size n (.slice q n cap)).run prog W.drew=.ok olds.toArray W.drew->y.ownBlock=v.ownBlock\/y.ownBlock=some W.heap.size:=λq cap olds hv J w=>by
  have E:=vP J;have A:yBe (n+m) cap*i.bytes<=(2*(n+m)+768)*1000:=ZP E H;have r:=run_append_grow_src (P:=prog) W T T T e i z C F L q n cap olds w (.slice (some a) m c) m d s J oM (XN A (by clear E A;omega));rw[hv,r]at p;injection p with hr1 o
  right;rw[<-hr1];rfl
 rcases id k with⟨-,⟨rfl,rfl⟩|⟨g,cap,cur,rfl,Q,I,N,O,K,R⟩⟩
 .by_cases G:m=0
  .subst G;have M:=p;obtain⟨B,o⟩:∃B,(YK #[T,T] T #[nZ,.slice (some a) 0 c]).run prog W=.ok nZ B:=by
    rcases s.kind with⟨e',f⟩|f<;>exact⟨_,by simp[YK,yA8 C,yA8 f,sizeOf,typeInfo,F,s.len,s.cells];rfl⟩
   rw[o]at p;injection p with hr1 o
   left;rw[<-hr1]
  .exact b none 0 [] rfl oM (run_firstCells_none W.drew i.size 0 0 0)
 .by_cases f:n+m<=cap
  .have r:=yCr (P:=prog) W T T T e i C F g 0 n cap (.slice (some a) m c) m d s f
    (λj B=>by
     have G:n*i.size+j<cur.size:=by
      rw[K];have E:j<m*i.size:=by rw[<-s.newsLen];exact B
      have A:(n+m)*i.size<=cap*i.size:=yAv _ f;rw[yAB]at A;omega
     simp[YY,I,XQ,Ye G])
    (λj B=>by simp[Zt,I])
   rw[r]at p;injection p with hr1 o
   left;rw[<-hr1];rfl
  .refine b (some (aZ g)) cap xs rfl oM ?_;exact run_firstCells_some W.drew i.size n (aZ g) n cap xs k.1 (λj u B=>by rw[yBM];exact k.cells (g:=g) rfl j u B)
def Ik{t c:Yj}{vs b d:XG}{P:YO}{k:Array Yw}{o:Yw}{a:Act}{w' w:XF}{K:Act->XF->Prop}{Q:Exit->Act->XF->Prop}{E:Prop}(e:o.guard=none)(s x:Operand)(ho:o.op=.call { callee:=.builtin .append,args:=#[s,x],argTypes:=#[t,c] })(i:a.eval s=vs)(hx:a.eval x=b)(f:(YK #[t,c] o.type #[vs,b]).run P w=.ok d w')(h:K (a.put o.dst d) w'):if Zd o (yielded k a.tmps)=true then Y8 P o a w K Q else E:=by
 have g:Zd o (yielded k a.tmps)=true:=by simp[Zd,e]
 rw[yE3 g];exact Lib.wp_append_run w s x t c ho vs b i hx d w' f h
def Js:prog.underlying 96=some (.slice 101):=kR
def Sz:(prog.info? 101).map (λi=>(i.size,i.bytes,i.zero.map λz=>z.cells.size))=some (2,16,some 2):=kR
def pC(x:Y4 × Nat):List XG:=[.pointer (some x.1),iZ (x.2:Int)]
def psC(k:List (Y4 × Nat)):List XG:=k.flatMap pC
def pQ:∀k:List (Y4 × Nat),(psC k).length=k.length*2
 | []=>rfl
 | x :: r=>by
  have:=pQ r;unfold psC at *;rw[List.flatMap_cons,XP,this,List.length_cons];show 2+_=_;omega
def Od(a b:List (Y4 × Nat)):psC (a++b)=psC a++psC b:=List.flatMap_append
def Gm:∀(k:List (Y4 × Nat)),∀u∈psC k,u.oneCell'=true:=by
 intro k u b;obtain⟨x,-,hx⟩:=List.mem_flatMap.1 b;unfold pC at hx;simp only[List.mem_cons,Yf,or_false]at hx;rcases hx with rfl|rfl<;>rfl
def Kf:∀(k:List (Y4 × Nat)) (j:Nat) (x:Y4 × Nat),k[j]? = some x->(psC k)[2*j]? = some (.pointer (some x.1))/\(psC k)[2*j+1]? = some (iZ (x.2:Int))
 | [],j,x,h=>by simp at h
 | y :: r,0,x,h=>by
  obtain rfl:y=x:=by simpa using h
  exact⟨rfl,rfl⟩
 | y :: r,j+1,x,h=>by
  have:=Kf r j x (by simpa using h);have e:psC (y :: r)=pC y++psC r:=rfl;rw[e,X4 (by show 2<=_;omega),X4 (by show 2<=_;omega)];show(psC r)[2*(j+1)-2]? = _/\(psC r)[2*(j+1)+1-2]? = _;rw[show 2*(j+1)-2=2*j by omega,show 2*(j+1)+1-2=2*j+1 by omega];exact this
structure PLs(w W:XF)(v:XG)(ps:List (Y4 × Nat)):Prop where
 bl:Below w.heap.size w W
 ow:W.ownsRow w.heap.size 101 2 v ps.length (psC ps)
 nn:v.ownBlock≠none
def PLs.lt{w W:XF}{v:XG}{b:List (Y4 × Nat)}(h:PLs w W v b):∃g cap,v=sZ g b.length cap/\w.heap.size<=g/\g<W.heap.size:=by
 rcases id h.ow with⟨-,⟨rfl,e⟩|⟨g,cap,cur,rfl,d,k,-⟩⟩
 .exact absurd rfl h.nn
 .refine⟨g,cap,rfl,d,?_⟩;by_cases c:g<W.heap.size
  .exact c
  .rw[ZY oM]at k;cases k
def PLs.below{w W W':XF}{v:XG}{e:List (Y4 × Nat)}(h:PLs w W v e)(d:Below W.heap.size W W'):PLs w W' v e:=by
 refine⟨h.bl.trans (d.mono h.bl.size),?_,h.nn⟩;rcases h.ow with⟨c,b|⟨g,cap,cur,b,j,k,f⟩⟩
 .exact⟨c,Yk b⟩
 .refine⟨c,Yd ⟨g,cap,cur,b,j,?_,f⟩⟩;rw[d.block g (by
   by_cases i:g<W.heap.size
   .exact i
   .rw[ZY oM]at k;cases k)]
  exact k
def PLs.app{w W:XF}{v:XG}{f ys:List (Y4 × Nat)}{b m c:Nat}(h:PLs w W v f)(hx:W.rangeAt b 0 (psC ys))(l:ys.length=m)(K:f.length+m<=1000000)(D:0<m):
 ∃e W',(YK #[96,96] 96 #[v,sZ b m c]).run prog W=.ok e W'/\PLs w W' e (f++ys)/\W.grownBy W' v.ownBlock/\(e.ownBlock=v.ownBlock\/e.ownBlock=some W.heap.size):=by
 obtain⟨i,x,q⟩:=XK.1 Sz;simp only[Zl.injEq]at q;obtain⟨s,F,E⟩:=q;obtain⟨z,r,n⟩:=XK.1 E;obtain⟨g,cap,rfl,B,I⟩:=h.lt;have a:∀(j:Nat) u,(psC ys)[j]? = some u->W.cell? ((⟨b,0,none⟩:Y4).add j)=some u:=λj u H=>by rw[gU];exact hx j u H
 obtain⟨e,W',o,t,d,A⟩:=yBu (P:=prog) W w.heap.size 96 96 101 i z 2 16 Js x r s F n dC _ f.length (psC f) h.ow (aZ b) m c (psC ys) (by rw[pQ,l]) a (Gm ys) (by unfold maxLen;omega) oM h.bl.size;have G:=yN (c:=c) Js x r s oM h.ow (yDu (P:=prog) (size:=2) W Js (aZ b) m c (psC ys) (by rw[pQ,l]) a (Gm ys)) oM o;refine⟨e,W',o,⟨⟨by rw[d.os,h.bl.os],by rw[d.tape,h.bl.tape],by rw[d.output,h.bl.output],XN h.bl.size d.size,λk p=>?_⟩,?_,?_⟩,d,G⟩
 .rw[d.block k (XI p h.bl.size) (by simp[Zm];omega)];exact h.bl.block k p
 .rw[XP,l,Od];exact t
 .rcases t.2 with⟨C,-⟩|⟨J,y,cur,rfl,-⟩
  .have:=(A.1 C).1;exact absurd this (by simp)
  .simp[Zm]
def PLs.at{w W:XF}{g n c:Nat}{b:List (Y4 × Nat)}(h:PLs w W (sZ g n c) b)(j:Nat)(x:Y4 × Nat)(e:b[j]? = some x):W.rangeAt g (2*j) (pC x):=λk u f=>by
 have d:=Kf b j x e;have:=h.ow.cells (g:=g) rfl (2*j+k) u (by
  match k,f with
  | 0,h=>rw[<-h];exact d.1
  | 1,h=>rw[<-h];exact d.2)
 rw[gU,XQ]at this;exact this
def Oo{w:XF}{k:List (Y4 × Nat)}(b:k.length<=1000000):PLs w (w.alloc (.cells (psC k).toArray 101)) (sZ w.heap.size k.length k.length) k:=
 ⟨bJ w _,⟨pQ k,.inr ⟨w.heap.size,k.length,(psC k).toArray,rfl,XH _,Array.getElem?_push_size,XH _,by unfold maxLen;omega,by rw[YJ,pQ],by rw[<-pQ k];simp⟩⟩,by simp[Zm]⟩
def lp(b o n:Nat):List (Y4 × Nat):=(YB n).map λj=>((⟨b,o+j,none⟩:Y4),33)
def uQ(k:Nat):List (Y4 × Nat):=[(⟨k,0,none⟩,33),(⟨k,1,none⟩,33),(⟨k,2,none⟩,33),(⟨k,3,none⟩,33),(⟨k,4,none⟩,32),(⟨k,5,none⟩,32),(⟨k,6,none⟩,32)]
def endP(k:Nat):List (Y4 × Nat):=[(⟨k,9,none⟩,32),(⟨k,10,none⟩,32)]
def OH(b o n:Nat):lp b o (n+1)=lp b o n++[(⟨b,o+n,none⟩,33)]:=by
 unfold lp;rw[List.range_succ,Y5];rfl
def jW(b o n:Nat):(lp b o n).length=n:=by unfold lp;simp
def uL(k b d c f or e:Nat):Nat->List (Y4 × Nat)
 | 0=>uQ k
 | 1=>uQ k++lp b d c
 | _=>uQ k++lp b d c++lp f or e
structure PI(w w1 w2 W:XF)(v:XG)(ps:List (Y4 × Nat)):Prop where
 pl:PLs w W v ps
 ne:v.ownBlock≠some w1.heap.size
 eq:W.heap[w1.heap.size]? = w2.heap[w1.heap.size]?
 sz:w2.heap.size<=W.heap.size
def PI.app{w k f W:XF}{v:XG}{d:List (Y4 × Nat)}{x:Y4 × Nat}(h:PI w k f W v d)(q:k.heap.size<f.heap.size)(t:d.length<=10000):
 ∃b W',(YK #[96,96] 96 #[v,sZ W.heap.size 1 1]).run prog (W.alloc (.cells (pC x).toArray 101))=.ok b W'/\PI w k f W' b (d++[x]):=by
 have i:=bJ W (.cells (pC x).toArray 101);have o:(W.alloc (.cells (pC x).toArray 101)).rangeAt W.heap.size 0 (psC [x]):=by
  have e:psC [x]=pC x:=yAt _;rw[e];exact oR
 obtain⟨b,W',l,p,g,j⟩:=(h.pl.below i).app (m:=1) (c:=1) o rfl oM dC;have s:=h.sz;have n:(W.alloc (.cells (pC x).toArray 101)).heap.size=W.heap.size+1:=XS _ _;refine⟨b,W',l,p,?_,?_,?_⟩
 .rcases j with e|e
  .rw[e];exact h.ne
  .rw[e,n];intro h;have:=X5.inj h;omega
 .rw[g.block k.heap.size oM (λr=>h.ne r.symm),i.block k.heap.size oM];exact h.eq
 .have:=g.size;omega
def WY{n i:Nat}(b o c:Nat)(k:i<n)(w:XF):(YV 27 (qZ b o n c) (iZ i)).run prog w=.ok (oZ b (o+i)) w:=by
 have d:¬(i:Int)<0:=oM;have f:(i:Int)<(n:Int):=oM;have e:=gU b o i;go_simp
def AO(d:Nat)(l r:Sv)(y t z or:Nat)(w:XF)(I:d<w.heap.size)(h7:w.cell? ⟨d,7,none⟩=some l.v)(Y:w.cell? ⟨d,8,none⟩=some r.v)
 (G:l.n=0\/l.q=some ⟨y,t,none⟩) (J:r.n=0\/r.q=some ⟨z,or,none⟩) (F:l.n<=1000) (C:r.n<=1000) :
 ZI prog 44 #[.pointer (some ⟨d,0,none⟩)] w λe w'=>∃v,e=.returned v/\PLs w w' v (uQ d++lp y t l.n++lp z or r.n++endP d):=by
 obtain⟨Q,s,cl⟩:=l;obtain⟨O,u,cr⟩:=r;dsimp only[Sv.v]at *;obtain⟨f,E⟩:=yH ((w.alloc (.cells #[.pointer (some ⟨d,0,none⟩),.int .i64 33,.pointer (some ⟨d,1,none⟩),.int .i64 33,.pointer (some ⟨d,2,none⟩),.int .i64 33,.pointer (some ⟨d,3,none⟩),.int .i64 33,.pointer (some ⟨d,4,none⟩),.int .i64 32,.pointer (some ⟨d,5,none⟩),.int .i64 32,.pointer (some ⟨d,6,none⟩),.int .i64 32] 101)).drew);obtain⟨a,A⟩:=yH ((f.alloc (.cells #[.slice Q s cl,.slice O u cr] 27)).drew);have D:∀W:XF,Below W.heap.size W W.drew:=λW=>⟨rfl,rfl,rfl,XH _,λ_ _=>rfl⟩
 have p1:PLs w f (.slice (some ⟨w.heap.size,0,none⟩) 7 7) (uQ d):=by
  rw[<-E.out];exact(Oo (w:=w) (k:=(uQ d)) (by show 7<=_;omega)).below (D _)
 have b2:Below f.heap.size f a:=by
  rw[<-A.out];exact(bJ f _).trans ((D _).mono (by rw[XS];omega))
 have p2:=p1.below b2;have c7:f.cell? ⟨d,7,none⟩=some (.slice Q s cl):=by rw[p1.bl.cell (p:=⟨d,7,none⟩) I];exact h7
 have c8:f.cell? ⟨d,8,none⟩=some (.slice O u cr):=by rw[p1.bl.cell (p:=⟨d,8,none⟩) I];exact Y
 have d0:a.cell? ⟨f.heap.size,0,none⟩=some (.slice Q s cl):=by rw[<-A.out,yBM];exact fO (w:=f) (j:=0) rfl
 have d1:a.cell? ⟨f.heap.size,1,none⟩=some (.slice O u cr):=by rw[<-A.out,yBM];exact fO (w:=f) (j:=1) rfl
 have s2:f.heap.size<a.heap.size:=by rw[<-A.out,yDW,XS];omega
 have V:Hid (PI w f a a (.slice (some ⟨w.heap.size,0,none⟩) 7 7) (uL d y t s z or u 0)):=⟨p2,by
  have:f.heap.size=w.heap.size+1:=by rw[<-E.out,yDW,XS]
  simp[Zm];omega,rfl,XH _⟩
 have HN:Hid (∀(i:Nat) (W:XF),i<2->W.heap[f.heap.size]? = a.heap[f.heap.size]?->∃q n c b o,W.cell? ⟨f.heap.size,i,none⟩=some (.slice q n c)/\(n=0\/q=some ⟨b,o,none⟩)/\n<=1000/\uL d y t s z or u (i+1)=uL d y t s z or u i++lp b o n/\(uL d y t s z or u i).length<=1007):=λi W P hW=>by
  have B:∀k,W.cell? ⟨f.heap.size,k,none⟩=a.cell? ⟨f.heap.size,k,none⟩:=λk=>by
   unfold YY;rw[hW]
  match i,P with
  | 0,_=>exact⟨Q,s,cl,y,t,by rw[B];exact d0,G,F,rfl,by show 7<=_;omega⟩
  | 1,_=>exact⟨O,u,cr,z,or,by rw[B];exact d1,J,C,rfl,by show(uQ d++lp y t s).length<=_;rw[XP,jW];show 7+s<=_;omega⟩
 have S:=Hid.mkP s2;clear p1 p2 b2 h7 Y d0 d1 s2 D G J;go_enter func44,ntmps44;go_wp2;go_region
 rw[E.out];go_wp2;go_region
 rw[A.out];go_wp2;go_loopg [4,50] 2 (λgk s4 s50 wr=>∃i:Nat,i+gk=2/\s50=.int .i64 i/\Hid (PI w f a wr s4 (uL d y t s z or u i)))
 case atStart=>exact⟨0,rfl,rfl,V⟩
 case round =>
  obtain⟨i,P,rfl,K⟩:=hrel;by_cases h2:i<2
  .obtain⟨q,n,c,b,o,e1,L,e3,e4,e5⟩:=HN.out i wr h2 K.eq;have U:(i:Int)<2:=oM;have h0:∀W:XF,(YV 177 (.slice (some ⟨f.heap.size,0,none⟩) 2 2) (.int .i64 i)).run prog W=.ok (.pointer (some ⟨f.heap.size,i,none⟩)) W:=λW=>by
    have C:¬(i:Int)<0:=oM;have B:=gU f.heap.size 0 i;rw[XQ]at B;go_simp
   have E2:=Hid.mkP L;have E4:=Hid.mkP e4;have E5:=Hid.mkP e5;clear L e4 e5;obtain⟨g,cap,rfl,-,-⟩:=K.pl.lt;have T:Hid (i+gk=2):=P;clear P;go_wp2;go_loopg [4,56] n (λm s4 s56 wi=>∃j:Nat,j+m=n/\s56=.int .i64 j/\Hid (PI w f a wi s4 (uL d y t s z or u i++lp b o j)))
   case atStart=>exact⟨0,oM,rfl,by
    have e:lp b o 0=[]:=rfl;rw[e,yAt];exact K⟩
   case round =>
    clear K;obtain⟨j,hj,rfl,K⟩:=hrel;obtain⟨g,cap,rfl,-,-⟩:=K.pl.lt;have G:(uL d y t s z or u i++lp b o j).length<=10000:=by
     have:=E5.out;rw[XP,jW];omega
    by_cases X:j<n
    .have B:(j:Int)<(n:Int):=oM;obtain rfl:q=some ⟨b,o,none⟩:=by
      rcases E2.out with h|h
      .omega
      .exact h
     have h4:=WY b o (n:=n) c (i:=j) X;obtain⟨R,N⟩:=yH (wr.alloc (.cells (pC (⟨b,o+j,none⟩,33)).toArray 101));obtain⟨Z,W',F,C⟩:=K.app (x:=(⟨b,o+j,none⟩,33)) S.out G;rw[N.out]at F;obtain⟨g',M,rfl,-,-⟩:=C.pl.lt;generalize (uL d y t s z or u i++lp b o j++[((⟨b,o+j,none⟩:Y4),33)]).length=N2 at F C;rw[List.append_assoc,<-OH]at C;have H:=Hid.mkP C;have R1:=Hid.mkP F;generalize (uL d y t s z or u i++lp b o j).length=N1 at R1⊢;clear K F C G;go_wp2_with (first|(refine dQ (v:=.slice (some ⟨wr.heap.size,0,none⟩) 1 1) (w':=R) rfl (.buildSlice 96 1 #[(0,.tmp 63)]) rfl ?_ ?_;(rw[<-N.out];kernel_rfl))|(at_builtin;refine Lib.wpList_append_run R rfl _ _ _ _ rfl _ _ rfl rfl _ _ R1.out ?_)|fail)
     go_roundg (gk-1)
     case measure=>omega
     case rel=>exact⟨j+1,oM,rfl,H⟩
    .have B:¬(j:Int)<(n:Int):=oM;obtain rfl:j=n:=oM;rw[<-E4.out]at K⊢;go_wp2;go_roundg (1-i)
     case measure =>
      have:=T.out;omega
     case rel=>exact⟨i+1,oM,rfl,K⟩
  .have U:¬(i:Int)<2:=oM;obtain rfl:i=2:=oM;obtain⟨g,cap,rfl,-,-⟩:=K.pl.lt;have N:(uL d y t s z or u 2).length<=2007:=by
    show(uQ d++lp y t s++lp z or u).length<=_;rw[XP,XP,jW,jW];show 7+_+_<=_;omega
   have R:=(bJ wr (.cells (psC (endP d)).toArray 101)).trans (⟨rfl,rfl,rfl,XH _,λ_ _=>rfl⟩:Below wr.heap.size (wr.alloc (.cells (psC (endP d)).toArray 101)) (wr.alloc (.cells (psC (endP d)).toArray 101)).drew);have J:(wr.alloc (.cells (psC (endP d)).toArray 101)).drew.rangeAt wr.heap.size 0 (psC (endP d)):=by
    rw[World.rangeAt_drew];exact oR (w:=wr)
   obtain⟨Z,W',F,C,-,-⟩:=(K.pl.below R).app (m:=2) (c:=2) J rfl oM dC;have B:Hid ((YK #[96,96] 96 #[.slice (some ⟨g,0,none⟩) (uL d y t s z or u 2).length cap,.slice (some ⟨wr.heap.size,0,none⟩) 2 2]).run prog (wr.alloc (.cells #[.pointer (some ⟨d,9,none⟩),.int .i64 32,.pointer (some ⟨d,10,none⟩),.int .i64 32] 101)).drew=.ok Z W'):=F;have H:=Hid.mkP C;obtain⟨g',M,rfl,-,-⟩:=C.lt;have L:uL d y t s z or u 2++endP d=uQ d++lp y t s++lp z or u++endP d:=rfl;rw[L]at H B;generalize (uQ d++lp y t s++lp z or u++endP d).length=N2 at H B;generalize (uL d y t s z or u 2).length=N1 at B⊢;clear K N F C R J L;go_wp2;go_region_law (refine Ik rfl (.tmp 68) (.tmp 77) (t:=96) (c:=96) rfl (vs:=(.slice (some ⟨g,0,none⟩) N1 cap)) (b:=(.slice (some ⟨wr.heap.size,0,none⟩) 2 2)) (by simp[Act.eval,Yo]) (by simp[Act.eval,Yo]) B.out ?_)
   go_wp2;go_ret;exact⟨_,rfl,H.out⟩
def Lj:(prog.info? 5).map (λi=>(i.size,i.bytes,i.zero.map λz=>z.cells.size))=some (1,1,some 1):=kR
def bC(b:SP.Bs):List XG:=b.toList.map SP.encB
def uR{b:SP.Bs}:(bC b).length=b.size:=by unfold bC;simp
def Ah{b:SP.Bs}:∀u∈bC b,u.oneCell'=true:=by
 intro u k;obtain⟨x,-,rfl⟩:=YD.1 k;rfl
def MC(a b:SP.Bs):bC (a++b)=bC a++bC b:=by unfold bC;simp
def Pt.vl{W:XF}{q:Option Y4}{n c:Nat}{b:SP.Bs}(h:Pt W (.slice q n c) b):n=b.size/\VL W q n (bC b):=by
 obtain⟨r,p,l,k⟩:=h;injection l with e1 e2 e3
 subst e1 e2;refine⟨rfl,⟨uR,?_,?_,Ah⟩⟩
 .intro d;rcases k with k|⟨g,o,e,-⟩
  .exact k
  .rw[d]at e;cases e
 .rcases k with k|⟨g,o,e,m,i⟩
  .left;have:(bC b).length=0:=by rw[uR];exact k
   exact List.length_eq_zero_iff.1 this
  .right;refine⟨g,o,e,m,λj u f=>?_⟩;unfold bC at f;rw[YC]at f;obtain⟨x,hx,rfl⟩:=XK.1 f;have d:j<b.size:=by
    have:=(XT.1 hx).1;simpa using this
   rw[(i j d).1];rw[getElem!_pos b j d];have:=(XT.1 hx).2;rw[Array.getElem_toList]at this;rw[this]
structure PuI(w w4 W:XF)(gp gq:Nat)(v:XG)(b:SP.Bs):Prop where
 bl:Below w.heap.size w W
 ow:W.ownsRow w.heap.size 5 1 v b.size (bC b)
 nn:v.ownBlock≠none
 n1:v.ownBlock≠some gp
 n2:v.ownBlock≠some gq
 e1:W.heap[gp]? = w4.heap[gp]?
 e2:W.heap[gq]? = w4.heap[gq]?
 sz:w4.heap.size<=W.heap.size
 l1:gp<w4.heap.size
 l2:gq<w4.heap.size
def PuI.lt{w i W:XF}{e c:Nat}{v:XG}{b:SP.Bs}(h:PuI w i W e c v b):∃g cap,v=sZ g b.size cap/\w.heap.size<=g/\g<W.heap.size:=by
 rcases id h.ow with⟨-,⟨rfl,j⟩|⟨g,cap,cur,rfl,f,k,-⟩⟩
 .exact absurd rfl h.nn
 .refine⟨g,cap,rfl,f,?_⟩;by_cases d:g<W.heap.size
  .exact d
  .rw[ZY oM]at k;cases k
def PuI.below{w i W W':XF}{f c:Nat}{v:XG}{b:SP.Bs}(h:PuI w i W f c v b)(k:Below W.heap.size W W'):PuI w i W' f c v b:=by
 have m:=h.sz;refine⟨h.bl.trans (k.mono h.bl.size),?_,h.nn,h.n1,h.n2,by rw[k.block f (oN h.l1)];exact h.e1,by rw[k.block c (oN h.l2)];exact h.e2,XN m k.size,h.l1,h.l2⟩;rcases h.ow with⟨j,e|⟨g,cap,cur,e,n,d,o⟩⟩
 .exact⟨j,Yk e⟩
 .refine⟨j,Yd ⟨g,cap,cur,e,n,?_,o⟩⟩;rw[k.block g (by
   by_cases l:g<W.heap.size
   .exact l
   .rw[ZY oM]at d;cases d)]
  exact d
def Av:prog.underlying 23=some (.slice 5):=kR
def PuI.app{w s W:XF}{n m:Nat}{v:XG}{b x:SP.Bs}{q:Option Y4}{c:Nat}(h:PuI w s W n m v b)(hx:VL W q x.size (bC x))(O:b.size+x.size<=1000000):
 ∃l W',(YK #[23,23] 23 #[v,.slice q x.size c]).run prog W=.ok l W'/\PuI w s W' n m l (b++x):=by
 obtain⟨i,t,B⟩:=XK.1 Lj;simp only[Zl.injEq]at B;obtain⟨D,K,H⟩:=B;obtain⟨z,C,y⟩:=XK.1 H;obtain⟨g,cap,rfl,G,L⟩:=h.lt;have J:=h.sz;cases q with
 | none =>
  have A:=hx.nil rfl;obtain rfl:x=#[]:=Array.eq_empty_of_size_eq_zero A;rcases id h.ow with⟨-,⟨d,-⟩|⟨I,r,cur,d,N,F,E,M⟩⟩
  .cases d
  .injection d with d _ h0'
   injection d with d
   injection d with d
   subst d h0';have p:=yCr (P:=prog) W 23 23 23 5 i Av t g 0 b.size cap (.slice none 0 c) 0 [] (Src.ofNil (e':=5) _ Av c) E (λj f=>by cases f) (λj f=>by cases f);refine⟨_,_,p,?_⟩;rw[Array.append_empty];exact h
 | some a =>
  have p:∀(j:Nat) u,(bC x)[j]? = some u->W.cell? (a.add j)=some u:=λj u f=>by
   rcases hx.cells with d|⟨b,o,r,-,p⟩
   .rw[d]at f;cases f
   .obtain rfl:=X5.inj r;rw[gU];exact p j u f
  obtain⟨l,W',A,I,d,M⟩:=yBu (P:=prog) W w.heap.size 23 23 5 i z 1 1 Av t C D K y dC _ b.size (bC b) h.ow a x.size c (bC x) (by rw[uR];omega) p Ah (by unfold maxLen;omega) oM h.bl.size;have F:=yN (c:=c) Av t C D oM h.ow (yDu (P:=prog) (size:=1) W Av a x.size c (bC x) (by rw[uR];omega) p Ah) oM A;have E:∀k,k<s.heap.size->l.ownBlock≠some k\/(sZ g b.size cap).ownBlock=some k:=λk r=>by
   rcases F with e|e
   .by_cases hh:(sZ g b.size cap).ownBlock=some k
    .exact Yd hh
    .left;rw[e];exact hh
   .left;rw[e];intro hh;have:=X5.inj hh;omega
  refine⟨l,W',A,⟨⟨by rw[d.os,h.bl.os],by rw[d.tape,h.bl.tape],by rw[d.output,h.bl.output],XN h.bl.size d.size,λk r=>?_⟩,?_,?_,?_,?_,?_,?_,?_,h.l1,h.l2⟩⟩
  .rw[d.block k (XI r h.bl.size) (by simp[Zm];omega)];exact h.bl.block k r
  .rw[Ys,MC];exact I
  .rcases F with e|e<;>rw[e]
   .simp[Zm]
   .simp
  .rcases E n h.l1 with e|e
   .exact e
   .exact absurd e h.n1
  .rcases E m h.l2 with e|e
   .exact e
   .exact absurd e h.n2
  .rw[d.block n (oN h.l1) (λe=>h.n1 e.symm)];exact h.e1
  .rw[d.block m (oN h.l2) (λe=>h.n2 e.symm)];exact h.e2
  .exact XN J d.size
def EE{t n m size c:Nat}{T e:Yj}{i:TypeInfo}{z:XG}{W W':XF}{v y:XG}{xs d:List XG}{a:Y4}(C:prog.underlying T=some (.slice e))(F:prog.info? e=some i)(L:i.zero=some z)(D:i.size=size)(H:i.bytes<=1000)
 (k:W.ownsRow t e size v n xs) (s:Src prog size T (.slice (some a) m c) m d W) (b:n+m<=1000000000)
 (p:(YK #[T,T] T #[v,.slice (some a) m c]).run prog W=.ok y W'):y.ownBlock=v.ownBlock\/(y.ownBlock=some W.heap.size/\Below W.heap.size W W'):=by
 subst D;have b:∀(q:Option Y4) (cap:Nat) (olds:List XG),v=.slice q n cap->cap<n+m->(yC6 i.size n (.slice q n cap)).run prog W.drew=.ok olds.toArray W.drew->y.ownBlock=v.ownBlock\/(y.ownBlock=some W.heap.size/\Below W.heap.size W W'):=λq cap olds hv J w=>by
  have E:=vP J;have A:yBe (n+m) cap*i.bytes<=(2*(n+m)+768)*1000:=ZP E H;have r:=run_append_grow_src (P:=prog) W T T T e i z C F L q n cap olds w (.slice (some a) m c) m d s J oM (XN A (by clear E A;omega));rw[hv,r]at p;injection p with hr1 o
  right;refine⟨by rw[<-hr1];rfl,?_⟩;rw[<-o];exact(⟨rfl,rfl,rfl,XH _,λ_ _=>rfl⟩:Below W.heap.size W W.drew).trans (bJ W.drew _)
 rcases id k with⟨-,⟨rfl,rfl⟩|⟨g,cap,cur,rfl,Q,I,N,O,K,R⟩⟩
 .by_cases G:m=0
  .subst G;have M:=p;obtain⟨B,o⟩:∃B,(YK #[T,T] T #[.slice none 0 0,.slice (some a) 0 c]).run prog W=.ok (.slice none 0 0) B:=by
    rcases s.kind with⟨e',f⟩|f<;>exact⟨_,by simp[YK,yA8 C,yA8 f,sizeOf,typeInfo,F,s.len,s.cells];rfl⟩
   rw[o]at p;injection p with hr1 o
   left;rw[<-hr1]
  .exact b none 0 [] rfl oM (run_firstCells_none W.drew i.size 0 0 0)
 .by_cases f:n+m<=cap
  .have r:=yCr (P:=prog) W T T T e i C F g 0 n cap (.slice (some a) m c) m d s f
    (λj B=>by
     have G:n*i.size+j<cur.size:=by
      rw[K];have E:j<m*i.size:=by rw[<-s.newsLen];exact B
      have A:(n+m)*i.size<=cap*i.size:=yAv _ f;rw[yAB]at A;omega
     simp[YY,I,XQ,Ye G])
    (λj B=>by simp[Zt,I])
   rw[r]at p;injection p with hr1 o
   left;rw[<-hr1];rfl
  .refine b (some ⟨g,0,none⟩) cap xs rfl oM ?_;exact run_firstCells_some W.drew i.size n ⟨g,0,none⟩ n cap xs k.1 (λj u B=>by rw[yBM];exact k.cells (g:=g) rfl j u B)
structure Ap1(W W':XF)(v v':XG):Prop where
 os:W'.os=W.os
 tape:W'.tape=W.tape
 output:W'.output=W.output
 size:W.heap.size<=W'.heap.size
 keep:∀g,g<W.heap.size->v.ownBlock≠some g->W'.heap[g]? = W.heap[g]?
 mv:v'.ownBlock=v.ownBlock\/((∃g,v'.ownBlock=some g/\W.heap.size<=g)/\∀g,g<W.heap.size->W'.heap[g]? = W.heap[g]?)
def bG{W W':XF}{b n k:Nat}{e:Yj}{v:XG}{xs:List XG}(h:W.ownsRow b e k v n xs)(d:∀g,v.ownBlock=some g->W'.heap[g]? = W.heap[g]?):W'.ownsRow b e k v n xs:=by
 rcases h with⟨c,i|⟨g,cap,cur,rfl,j,f,l⟩⟩
 .exact⟨c,Yk i⟩
 .exact⟨c,Yd ⟨g,cap,cur,rfl,j,by rw[d g rfl];exact f,l⟩⟩
def bU{W:XF}{b n k g:Nat}{e:Yj}{v:XG}{xs:List XG}(h:W.ownsRow b e k v n xs)(c:v.ownBlock=some g):b<=g/\g<W.heap.size/\∃cur,W.heap[g]? = some (.cells cur e (0,0)):=by
 rcases h with⟨l,⟨rfl,-⟩|⟨f,cap,cur,rfl,i,d,j⟩⟩
 .cases c
 .obtain rfl:f=g:=X5.inj c;refine⟨i,?_,cur,d⟩;by_cases c:f<W.heap.size
  .exact c
  .rw[ZY oM]at d;cases d
def TyQ(W:XF)(L g:Nat):Prop:=g<W.heap.size/\(g<L\/∃cur,W.heap[g]? = some (.cells cur 5 (0,0)))
def ED{W:XF}{B g c:Nat}{b:SP.Bs}(h:W.ownsRow B 5 1 (sZ g b.size c) b.size (bC b)):Holds SP.encB W g 0 b:=λk d=>by
 obtain⟨-,-,cur,f⟩:=bU h (g:=g) rfl;refine⟨?_,by simp[Zt,f]⟩;have e:=h.cells (g:=g) rfl k (SP.encB b[k]!) (by
  unfold bC;rw[YC,XV (by simpa using d),yAy,getElem!_pos b k d];simp)
 rw[gU]at e;exact e
def RV(W:XF)(L:Nat)(v:XG)(b:SP.Bs):Prop:=(b.size=0/\v=nZ)\/∃g c,v=sZ g b.size c/\TyQ W L g/\Holds SP.encB W g 0 b
def Cl{k n ga:Nat}{W:XF}{v x:XG}{xs:List XG}(b:W.ownsRow k 23 1 v n xs)(hx:x.oneCell'=true)(d:W.cell? ⟨ga,0,none⟩=some x)(I:n<=1000)(G:k<=W.heap.size):
 ∃m W',(YK #[27,27] 27 #[v,sZ ga 1 1]).run prog W=.ok m W'/\W'.ownsRow k 23 1 m (n+1) (xs++[x])/\Ap1 W W' v m:=by
 obtain⟨i,y,s⟩:=XK.1 SA;simp only[Zl.injEq]at s;obtain⟨w,F,C⟩:=s;obtain⟨z,t,p⟩:=XK.1 C;have A:∀(j:Nat) u,[x][j]? = some u->W.cell? ((⟨ga,0,none⟩:Y4).add j)=some u:=λj u B=>by
  rw[gU,XQ];have e:j=0:=by have:=(XT.1 B).1;simp at this;omega
  subst e;obtain rfl:x=u:=by simpa using B
  exact d
 have f:∀u∈[x],u.oneCell'=true:=λu H=>by
  obtain rfl:u=x:=by simpa using H
  exact hx
 obtain⟨m,W',r,D,e,-⟩:=yBu (P:=prog) W k 27 27 23 i z 1 24 FT y t w F p dC v n xs b (aZ ga) 1 1 [x] rfl A f (by unfold maxLen;omega) oM G;have E:=EE (c:=1) FT y t w oM b (yDu (P:=prog) (size:=1) W FT (aZ ga) 1 1 [x] rfl A f) oM r;refine⟨m,W',r,D,e.os,e.tape,e.output,e.size,λg o hv=>e.block g o (λh=>hv h.symm),?_⟩;rcases E with h|⟨h,q⟩
 .exact Yk h
 .exact Yd ⟨⟨_,h,XH _⟩,λg o=>q.block g o⟩
section
variable {Q Q':Nat->Prop}{W:XF}{v:XG}{n:Nat}
def SmQ.mono2{l:LB}(h:SmQ Q W v l)(b:∀g,g<W.heap.size->Q g->Q' g):SmQ Q' W v l:=by
 obtain⟨g,c,e,f,d,k,i⟩:=h;exact⟨g,c,e,f,b g k d,k,i⟩
def SLq.mono2{a:Nat->Nat}(h:SLq Q W v n a)(b:∀g,g<W.heap.size->Q g->Q' g):SLq Q' W v n a:=by
 obtain⟨g,o,c,e,f,d,k,i⟩:=h;exact⟨g,o,c,e,f,b g k d,k,i⟩
def GLq.mono2{T:Nat->LB}(h:GLq Q W v n T)(b:∀g,g<W.heap.size->Q g->Q' g):GLq Q' W v n T:=by
 obtain⟨g,o,c,e,m,f,k,p⟩:=h;refine⟨g,o,c,e,m,b g k f,k,λj d=>?_⟩;obtain⟨x,i,l⟩:=p j d;exact⟨x,i,l.mono2 b⟩
def GRq.mono2{G H:Nat->LB}{U:LB}(h:GRq Q W v n G H U)(k:∀g,g<W.heap.size->Q g->Q' g):GRq Q' W v n G H U:=by
 obtain⟨c,d,i,f,j,e,b⟩:=h.ex;exact⟨c,d,i,f,j.mono2 k,e.mono2 k,b.mono2 k⟩
end
def ElQ(Q:Nat->Prop)(m:Nat)(W:XF)(x:XG)(b:Bs):Prop:=∃k c,x=sZ k m c/\m<=c/\b.size=m/\Q k/\k<W.heap.size/\hZ W k 0 b
section
variable {Q Q':Nat->Prop}{W W':XF}{x:XG}{m:Nat}{b:Bs}
def ElQ.keep(h:ElQ Q m W x b)(d:Kq Q W W'):ElQ Q m W' x b:=by
 obtain⟨k,c,o,p,l,f,g,n⟩:=h;refine⟨k,c,o,p,l,f,XI g d.size,λj i=>?_⟩;have e:=d.block k f g;rw[Yb (a:=⟨k,0+j,none⟩) e,Y6 (a:=⟨k,0+j,none⟩) e];exact n j i
def ElQ.mono2(h:ElQ Q m W x b)(f:∀g,g<W.heap.size->Q g->Q' g):ElQ Q' m W x b:=by
 obtain⟨k,c,l,n,i,e,d,j⟩:=h;exact⟨k,c,l,n,i,f k d e,d,j⟩
def ElQ.one(h:ElQ Q m W x b):x.cells=#[x]/\x.oneCell'=true:=by
 obtain⟨k,c,rfl,-⟩:=h;exact⟨rfl,rfl⟩
def ElQ.arg(h:ElQ Q 33 W x b):Arg33 W x b:=by
 obtain⟨k,c,rfl,f,d,-,g,e⟩:=h;exact⟨_,33,c,rfl,d,λ_=>⟨k,0,rfl,f,g,e⟩⟩
end
def r33(g:Nat):XG:=sZ g 33 33
def r32(g:Nat):XG:=sZ g 32 32
def eJ{w:XF}{a:Bs}(f:a.size=33):cZ 19 #[pvl a] w (rZ w λe w'=>ElQ (w.heap.size<=·) 33 w' e a/\∃g,e=r33 g):=by
 have i:=Hid.mk' (tB f w);obtain⟨c,b⟩:=hE (lZ w (aA a) 51);rw[b.out]at i;have K:Hid (Row c w.heap.size (aA a)/\kZ w c):=by rw[<-b.out];exact⟨row_new w _ _,aC _⟩
 obtain⟨va,k⟩:=hE (pvl a);have d:Hid ((Yu 51 va).run prog w=.ok (jZ w.heap.size) c):=k.out▸i;rw[k.out];have j:=Ud w.heap.size;go_enter func19,ntmps19;go_wp2_with (first|(refine aG (u:=va) (v:=jZ w.heap.size) (w':=c) rfl 51 (.tmp 0) rfl ?_ ?_ ?_;rfl;exact d))
 go_ret;exact⟨_,rfl,K.2,⟨w.heap.size,33,rfl,oM,f,XH _,K.1.1,row_holds K.1⟩,_,rfl⟩
structure TlL(Q:Nat->Prop)(base i:Nat)(W:XF)(v:XG)(B:Nat->Bs):Prop where
 ex:∃xs,W.ownsRow base 23 1 v i xs/\∀j,j<i->∃x,xs[j]? = some x/\ElQ Q 33 W x (B j)
def QH(r k:Nat)(c b:XG)(g:Nat):Prop:=g≠r/\(g<k\/k+4<=g)/\c.ownBlock≠some g/\b.ownBlock≠some g
def Dj(W:XF)(B i j:Nat)(v u:XG):Prop:=∃l m:List Nat,(l++m).Nodup/\W.ownsRow 0 23 1 v i (l.map r33)/\W.ownsRow 0 23 1 u j (m.map r33)/\∀g,g∈l++m->B<=g/\g<W.heap.size
def Sk{l m:List Nat}{g:Nat}(h:(l++m).Nodup)(k:g ∉ l++m):(l++[g]++m).Nodup:=by
 simp only[yBO,Zh,not_or,Ze,List.nodup_cons,Yf,not_false_eq_true,List.nodup_nil,and_true,true_and]at *;grind
def OE{l m:List Nat}(h:(l++m).Nodup):(m++l).Nodup:=by
 simp only[yBO]at *;grind
def Kn{W:XF}{b e n:Nat}{T:Yj}{v:XG}{xs ys:List XG}(k:W.ownsRow b T 1 v n xs)(c:W.ownsRow e T 1 v n ys):xs=ys:=by
 have l:=k.1;have i:=c.1;rcases id k with⟨-,⟨-,f⟩|⟨g,cap,cur,rfl,-⟩⟩
 .subst f;rw[yCB (by omega:xs.length=0),yCB (by omega:ys.length=0)]
 .refine List.ext_getElem? λj=>?_
  by_cases m:j<n
  .have d:=k.cells (g:=g) rfl j xs[j] (XV oM);have a2:=c.cells (g:=g) rfl j ys[j] (XV oM);rw[d]at a2;rw[XV (by omega:j<xs.length),XV (by omega:j<ys.length)];exact a2
  .rw[ZR oM,ZR oM]
section
variable {W W' W1:XF}{B i j:Nat}{v u:XG}
def Dj.keep(h:Dj W B i j v u)(c:W.heap.size<=W'.heap.size)(hv:∀g,v.ownBlock=some g->W'.heap[g]? = W.heap[g]?)(e:∀g,u.ownBlock=some g->W'.heap[g]? = W.heap[g]?):Dj W' B i j v u:=by
 obtain⟨l,m,f,n,d,k⟩:=h;exact⟨l,m,f,bG n hv,bG d e,λg b=>⟨(k g b).1,XI (k g b).2 c⟩⟩
def Dj.swap(h:Dj W B i j v u):Dj W B j i u v:=by
 obtain⟨l,m,d,e,c,b⟩:=h;exact⟨m,l,OE d,c,e,λg k=>b g (by rw[Zh]at k⊢;exact k.symm)⟩
def Dj.app{g:Nat}{s:XG}{xs:List XG}{b:Nat}(h:Dj W B i j v u)(f:B<=g/\W.heap.size<=g/\g<W'.heap.size)(t:W.heap.size<=W'.heap.size)(hx:W1.ownsRow b 23 1 v i xs)(hv:∀g,v.ownBlock=some g->W1.heap[g]? = W.heap[g]?)(w:∀g,u.ownBlock=some g->W'.heap[g]? = W.heap[g]?)(p:W'.ownsRow b 23 1 s (i+1) (xs++[r33 g])):Dj W' B (i+1) j s u:=by
 obtain⟨l,m,c,q,k,r⟩:=h;rw[Kn hx (bG q hv)]at p;refine⟨l++[g],m,Sk c λe=>oN ((r g e).2),?_,bG k w,λo d=>?_⟩
 .rw[Y5];rcases p with⟨n,c|⟨g,cap,cur,rfl,q,k⟩⟩
  .exact⟨n,Yk c⟩
  .exact⟨n,Yd ⟨g,cap,cur,rfl,Zq _,k⟩⟩
 .by_cases e:o=g
  .rw[e];exact⟨f.1,f.2.2⟩
  .have n:=r o (by simp only[Zh,Ze]at d⊢;grind);exact⟨n.1,XI n.2 t⟩
end
def R3(W:XF)(K:Nat)(x y:XG):Prop:=K<W.heap.size/\∃rs,rs.length=2/\Row W K (x :: y :: rs)
def R3.same{W W':XF}{K:Nat}{x y:XG}(h:R3 W K x y)(k:W.heap.size<=W'.heap.size)(e:W'.heap[K]? = W.heap[K]?):R3 W' K x y:=by
 obtain⟨c,rs,d,b⟩:=h;exact⟨XI c k,rs,d,aS b k e⟩
structure Ph(w W:XF)(r k iL iR n:Nat)(cL cR vL vR v va vb:XG)(Lb Rb:Nat->Bs)(L:Bs)(a b:Nat->Nat)(G H:Nat->LB)(U:LB):Prop where
 on:SP.Only r 0 32 w W
 rk:r<k
 wk:w.heap.size=k
 r0:Row W k [jZ r]
 r1:∃e:Array XG,v=.agg e/\e.size=3/\e.all (·.oneCell')=true/\Row W (k+1) e.toList
 r2:Row W (k+2) [nZ,nZ,nZ,nZ]
 r3:R3 W (k+3) cL cR
 tL:TlL (QH r k vL vR) (k+4) iL W vL Lb
 tR:TlL (QH r k vL vR) (k+4) iR W vR Rb
 ne:∀g,vL.ownBlock=some g->vR.ownBlock≠some g
 la:SLq (QH r k vL vR) W va n a
 lb:SLq (QH r k vL vR) W vb n b
 gr:GRq (QH r k vL vR) W v n G H U
 lg:hZ W r 0 L
 ls:L.size=32
 dj:Dj W (k+4) iL iR vL vR
section
variable {w W W' W1:XF}{r k iL iR n:Nat}{cL cR vL vR v va vb:XG}{Lb Rb:Nat->Bs}{L:Bs}{a b:Nat->Nat}{G H:Nat->List (Nat × Bs)}{U:List (Nat × Bs)}
def TlL.lt{Q:Nat->Prop}{k i:Nat}{B:Nat->Bs}(h:TlL Q k i W v B){g:Nat}(b:v.ownBlock=some g):k<=g/\g<W.heap.size:=by
 obtain⟨xs,c,-⟩:=h.ex;have:=bU c b;exact⟨this.1,this.2.1⟩
def TlL.keep{Q:Nat->Prop}{k i:Nat}{B:Nat->Bs}(h:TlL Q k i W v B)(d:Kq Q W W')(ho:∀g,v.ownBlock=some g->W'.heap[g]? = W.heap[g]?):TlL Q k i W' v B:=by
 obtain⟨xs,f,l⟩:=h.ex;refine⟨xs,bG f ho,λj c=>?_⟩;obtain⟨x,e,b⟩:=l j c;exact⟨x,e,b.keep d⟩
def TlL.mono2{Q Q':Nat->Prop}{k i:Nat}{B:Nat->Bs}(h:TlL Q k i W v B)(d:∀g,g<W.heap.size->Q g->Q' g):TlL Q' k i W v B:=by
 obtain⟨xs,f,l⟩:=h.ex;refine⟨xs,f,λj c=>?_⟩;obtain⟨x,e,b⟩:=l j c;exact⟨x,e,b.mono2 d⟩
def Ph.qn(h:Ph w W r k iL iR n cL cR vL vR v va vb Lb Rb L a b G H U):∀g,W.heap.size<=g->QH r k vL vR g:=λg c =>
 ⟨by have:=h.rk;have:=h.r0.1;omega,Yd (oN h.r3.1),λe=>oN (h.tL.lt e),λe=>oN (h.tR.lt e)⟩
def Ph.any(h:Ph w W r k iL iR n cL cR vL vR v va vb Lb Rb L a b G H U)(p:SP.Only r 0 32 w W')(kq:Kq (QH r k vL vR) W W')(c:∀g,k<=g->g<k+4->W'.heap[g]? = W.heap[g]?)(j:∀g,vL.ownBlock=some g->W'.heap[g]? = W.heap[g]?)(i:∀g,vR.ownBlock=some g->W'.heap[g]? = W.heap[g]?){d:Bs}(l:hZ W' r 0 d)(f:d.size=32):Ph w W' r k iL iR n cL cR vL vR v va vb Lb Rb d a b G H U:=by
 obtain⟨e,o,m,e3,q⟩:=h.r1;exact⟨p,h.rk,h.wk,aS h.r0 kq.size (c k oM oM),⟨e,o,m,e3,aS q kq.size (c _ oM oM)⟩,aS h.r2 kq.size (c _ oM oM),h.r3.same kq.size (c _ oM oM),h.tL.keep kq j,h.tR.keep kq i,h.ne,h.la.keep kq,h.lb.keep kq,h.gr.keep kq,l,f,h.dj.keep kq.size j i⟩
def Ph.grow(h:Ph w W r k iL iR n cL cR vL vR v va vb Lb Rb L a b G H U)(c:kZ W W'):Ph w W' r k iL iR n cL cR vL vR v va vb Lb Rb L a b G H U:=by
 have e:=Holds.lt h.lg (by rw[h.ls];decide);exact h.any (h.on.trans (SP.Only.of_below c rfl e)) (Kq.of_below c) (λg f i=>c.block g (oN h.r3.1)) (λg d=>c.block g (h.tL.lt d).2) (λg d=>c.block g (h.tR.lt d).2) (Holds.below h.lg c e) h.ls
def Ph.drew(h:Ph w W r k iL iR n cL cR vL vR v va vb Lb Rb L a b G H U):Ph w W.drew r k iL iR n cL cR vL vR v va vb Lb Rb L a b G H U:=h.grow ⟨rfl,rfl,rfl,XH _,λ_ _=>rfl⟩
def Ph.say{e:Bs}(h:Ph w W r k iL iR n cL cR vL vR v va vb Lb Rb L a b G H U)(d:SP.Only r 0 32 W W')(f:hZ W' r 0 e)(j:e.size=32):Ph w W' r k iL iR n cL cR vL vR v va vb Lb Rb e a b G H U:=by
 have i:=h.rk;exact h.any (h.on.trans d) (Kq.of_only d λg c=>c.1) (λg m l=>d.block g (oN h.r3.1) oM) (λg c=>d.block g (h.tL.lt c).2 (oN ((h.tL.lt c).1))) (λg c=>d.block g (h.tR.lt c).2 (oN ((h.tR.lt c).1))) f j
def Hx{l p:XG}{k:Nat}(b:SP.Only r 0 32 w W)(c:Ap1 W W' l p)(q:w.heap.size=k)(m:r<k)(hv:∀g,l.ownBlock=some g->k+4<=g):SP.Only r 0 32 w W':=by
 have n:=b.size;have f:∀j,j<k->W'.heap[j]? = W.heap[j]?:=λj i=>c.keep j oM λe=>oN (hv j e)
 exact⟨c.os.trans b.os,c.tape.trans b.tape,c.output.trans b.output,XN b.size c.size,λj i d=>(f j oM).trans (b.block j i d),λo ho=>by rw[Yb (a:=⟨r,o,none⟩) (f r m)];exact b.cell o ho,λo=>by rw[Y6 (a:=⟨r,o,none⟩) (f r m)];exact b.froz o⟩
def jX{W W':XF}{r:Nat}{L:Bs}(h:hZ W r 0 L)(e:W'.heap[r]? = W.heap[r]?):hZ W' r 0 L:=λj k=>by
 rw[Yb (a:=⟨r,0+j,none⟩) e,Y6 (a:=⟨r,0+j,none⟩) e];exact h j k
def TlL.app{Q Q':Nat->Prop}{k i:Nat}{B:Nat->Bs}{f x:XG}{xs:List XG}(c:∀j,j<i->∃x,xs[j]? = some x/\ElQ Q 33 W x (B j))(b:xs.length=i)(ho:W'.ownsRow k 23 1 f (i+1) (xs++[x]))(hx:ElQ Q 33 W x (B i))(d:∀g,g<W.heap.size->Q g->Q' g)(kq:Kq Q' W W'):TlL Q' k (i+1) W' f B:=by
 refine⟨_,ho,λj n=>?_⟩;by_cases e:j=i
 .subst e;exact⟨x,by rw[X4 oM,b];simp,(hx.mono2 d).keep kq⟩
 .obtain⟨y,l,m⟩:=c j oM;exact⟨y,by rw[List.getElem?_append_left oM];exact l,(m.mono2 d).keep kq⟩
def Ph.appL{ga gx:Nat}(l:Ph w W1 r k iL iR n cL cR vL vR v va vb Lb Rb L a b G H U)(f:kZ W1 W)(o:ElQ (W1.heap.size<=·) 33 W (r33 gx) (Lb iL))(J:W.cell? ⟨ga,0,none⟩=some (r33 gx))(R:iL<=900):
 ∃j W',(YK #[27,27] 27 #[vL,sZ ga 1 1]).run prog W=.ok j W'/\Ph w W' r k (iL+1) iR n cL cR j vR v va vb Lb Rb L a b G H U/\Ap1 W W' vL j:=by
 have h:=l.grow f;have hx:=o.mono2 λg _ c=>l.qn g c
 obtain⟨xs,s,I⟩:=h.tL.ex;obtain⟨j,W',u,t,A⟩:=Cl s hx.one.2 J oM (oN h.r3.1);have p:∀g,g<W.heap.size->QH r k vL vR g->QH r k j vR g:=λg c q=>⟨q.1,q.2.1,λe=>by
  rcases A.mv with m|⟨⟨z,m,M⟩,-⟩
  .rw[m]at e;exact q.2.2.1 e
  .rw[m]at e;have:=X5.inj e;omega,q.2.2.2⟩
 have kq:Kq (QH r k j vR) W W':=⟨A.size,λg q c=>by
  rcases A.mv with m|⟨-,m⟩
  .exact A.keep g c (by rw[<-m];exact q.2.2.1)
  .exact m g c⟩
 have d:∀g,vL.ownBlock=some g->k+4<=g:=λg c=>(h.tL.lt c).1
 have x:=h.on.size;have C:=h.wk;have K:=h.rk;have i:∀g,k<=g->g<k+4->W'.heap[g]? = W.heap[g]?:=λg Q O=>A.keep g (oN h.r3.1) λe=>oN (d g e)
 obtain⟨e,E,B,e3,N⟩:=h.r1;refine⟨j,W',u,⟨Hx h.on A h.wk h.rk d,h.rk,h.wk,aS h.r0 A.size (i k oM oM),⟨e,E,B,e3,aS N A.size (i _ oM oM)⟩,aS h.r2 A.size (i _ oM oM),h.r3.same A.size (i _ oM oM),TlL.app I (oN s.1) t hx p kq,(h.tR.mono2 p).keep kq λg c=>A.keep g (h.tR.lt c).2 λe=>h.ne g e c,λg c e=>?_,(h.la.mono2 p).keep kq,(h.lb.mono2 p).keep kq,(h.gr.mono2 p).keep kq,jX h.lg (A.keep r oM λe=>oN (d r e)),h.ls,(by
  obtain⟨D,P,e,-,-,y,F,-⟩:=o;have e:=congrArg Zm e;obtain rfl:gx=D:=X5.inj e;exact(l.dj.app ⟨oN l.r3.1,y,XI F A.size⟩ (XN f.size A.size) s (λg c=>f.block g (l.tL.lt c).2) (λg c=>(A.keep g (h.tR.lt c).2 λe=>h.ne g e c).trans (f.block g (l.tR.lt c).2)) t))⟩,A⟩
 rcases A.mv with m|⟨⟨z,m,M⟩,-⟩
 .rw[m]at c;exact h.ne g c e
 .rw[m]at c;have:=X5.inj c;have:=(h.tR.lt e).2;omega
def Ph.appR{ga gx:Nat}(l:Ph w W1 r k iL iR n cL cR vL vR v va vb Lb Rb L a b G H U)(f:kZ W1 W)(o:ElQ (W1.heap.size<=·) 33 W (r33 gx) (Rb iR))(J:W.cell? ⟨ga,0,none⟩=some (r33 gx))(R:iR<=900):
 ∃j W',(YK #[27,27] 27 #[vR,sZ ga 1 1]).run prog W=.ok j W'/\Ph w W' r k iL (iR+1) n cL cR vL j v va vb Lb Rb L a b G H U/\Ap1 W W' vR j:=by
 have h:=l.grow f;have hx:=o.mono2 λg _ c=>l.qn g c
 obtain⟨xs,s,I⟩:=h.tR.ex;obtain⟨j,W',u,t,A⟩:=Cl s hx.one.2 J oM (oN h.r3.1);have p:∀g,g<W.heap.size->QH r k vL vR g->QH r k vL j g:=λg c q=>⟨q.1,q.2.1,q.2.2.1,λe=>by
  rcases A.mv with m|⟨⟨z,m,M⟩,-⟩
  .rw[m]at e;exact q.2.2.2 e
  .rw[m]at e;have:=X5.inj e;omega⟩
 have kq:Kq (QH r k vL j) W W':=⟨A.size,λg q c=>by
  rcases A.mv with m|⟨-,m⟩
  .exact A.keep g c (by rw[<-m];exact q.2.2.2)
  .exact m g c⟩
 have d:∀g,vR.ownBlock=some g->k+4<=g:=λg c=>(h.tR.lt c).1
 have x:=h.on.size;have C:=h.wk;have K:=h.rk;have i:∀g,k<=g->g<k+4->W'.heap[g]? = W.heap[g]?:=λg Q O=>A.keep g (oN h.r3.1) λe=>oN (d g e)
 obtain⟨e,E,B,e3,N⟩:=h.r1;refine⟨j,W',u,⟨Hx h.on A h.wk h.rk d,h.rk,h.wk,aS h.r0 A.size (i k oM oM),⟨e,E,B,e3,aS N A.size (i _ oM oM)⟩,aS h.r2 A.size (i _ oM oM),h.r3.same A.size (i _ oM oM),(h.tL.mono2 p).keep kq λg c=>A.keep g (h.tL.lt c).2 λe=>h.ne g c e,TlL.app I (oN s.1) t hx p kq,λg c e=>?_,(h.la.mono2 p).keep kq,(h.lb.mono2 p).keep kq,(h.gr.mono2 p).keep kq,jX h.lg (A.keep r oM λe=>oN (d r e)),h.ls,(by
  obtain⟨D,P,e,-,-,y,F,-⟩:=o;have e:=congrArg Zm e;obtain rfl:gx=D:=X5.inj e;exact(l.dj.swap.app ⟨oN l.r3.1,y,XI F A.size⟩ (XN f.size A.size) s (λg c=>f.block g (l.tR.lt c).2) (λg c=>(A.keep g (h.tL.lt c).2 λe=>h.ne g c e).trans (f.block g (l.tL.lt c).2)) t).swap)⟩,A⟩
 rcases A.mv with m|⟨⟨z,m,M⟩,-⟩
 .rw[m]at e;exact h.ne g c e
 .rw[m]at e;have:=X5.inj e;have:=(h.tL.lt c).2;omega
def lJ{W:XF}{K o:Nat}{vs:List XG}{x:XG}(h:Row W K vs)(ho:o<vs.length):Row (W.setCells K o [x]) K (vs.set o x):=by
 have c:W.there K o 1:=λt c=>by
  have k:t=0:=oM;subst k;have:=h.2.2 o ho;rwa[XQ]at this
 refine⟨by rw[setCells_size];exact h.1,λj u b=>?_,by rw[yD2];exact Za h.2.2 _ _ _⟩;rw[List.getElem?_set]at b;by_cases e:o=j
 .subst e;rw[yE3 rfl,yE3 ho]at b;obtain rfl:x=u:=by simpa using b
  have:=YW W K o [x] c 0 x rfl;rw[XQ];exact this
 .rw[yE4 e]at b;have f:W.rangeAt K j [u]:=λt y d=>by
   have k:t=0:=by have:=(XT.1 d).1;simp at this;omega
   subst k;obtain rfl:u=y:=by simpa using d
   have:=h.2.1 j u b;rw[XQ]at this;exact this
  have:=Yr f K o [x] (Yd (by simp;omega)) 0 u rfl;rw[XQ];exact this
def jQ{k K o:Nat}{vs:List XG}(h:SP.Only r 0 32 w W)(b:w.heap.size=k)(d:r<k)(c:k<=K):SP.Only r 0 32 w (W.setCells K o vs):=dY h oM oM
def Ph.put(h:Ph w W r k iL iR n cL cR vL vR v va vb Lb Rb L a b G H U):Ph w ((W.setCells (k+3) 0 [vL]).setCells (k+3) 1 [vR]) r k iL iR n vL vR vL vR v va vb Lb Rb L a b G H U:=by
 have l:=h.rk;have c:∀g,g≠k+3->((W.setCells (k+3) 0 [vL]).setCells (k+3) 1 [vR]).heap[g]? = W.heap[g]?:=λg f=>(aE [vR] 1 _ g f).trans (aE [vL] 0 W g f)
 have d:W.heap.size<=((W.setCells (k+3) 0 [vL]).setCells (k+3) 1 [vR]).heap.size:=by rw[setCells_size,setCells_size];exact XH _
 have kq:Kq (QH r k vL vR) W ((W.setCells (k+3) 0 [vL]).setCells (k+3) 1 [vR]):=⟨d,λg q _=>c g (oN q.2.1)⟩
 obtain⟨e,j,i,e3,s⟩:=h.r1;exact⟨jQ (jQ h.on h.wk h.rk oM) h.wk h.rk oM,h.rk,h.wk,aS h.r0 d (c _ oM),⟨e,j,i,e3,aS s d (c _ oM)⟩,aS h.r2 d (c _ oM),(by
  obtain⟨o,rs,p,m⟩:=h.r3;exact⟨XI o d,rs,p,lJ (lJ m (yCL _)) (Nat.succ_lt_succ (yCL _))⟩),h.tL.keep kq λg f=>c g (oN ((h.tL.lt f).1)),h.tR.keep kq λg f=>c g (oN ((h.tR.lt f).1)),h.ne,h.la.keep kq,h.lb.keep kq,h.gr.keep kq,jX h.lg (c r oM),h.ls,h.dj.keep d (λg f=>c g (oN ((h.tL.lt f).1))) (λg f=>c g (oN ((h.tR.lt f).1)))⟩
def Ph.putA{o:Nat}{x:XG}(h:Ph w W r k iL iR n cL cR vL vR v va vb Lb Rb L a b G H U)(ho:o<2):Ph w (W.setCells (k+3) (o+2) [x]) r k iL iR n cL cR vL vR v va vb Lb Rb L a b G H U:=by
 have s:=h.rk;have c:∀g,g≠k+3->(W.setCells (k+3) (o+2) [x]).heap[g]? = W.heap[g]?:=λg f=>aE [x] _ _ g f
 have d:W.heap.size<=(W.setCells (k+3) (o+2) [x]).heap.size:=by rw[setCells_size];exact XH _
 have kq:Kq (QH r k vL vR) W (W.setCells (k+3) (o+2) [x]):=⟨d,λg q _=>c g (oN q.2.1)⟩
 obtain⟨e,m,i,e3,t⟩:=h.r1;exact⟨jQ h.on h.wk h.rk oM,h.rk,h.wk,aS h.r0 d (c _ oM),⟨e,m,i,e3,aS t d (c _ oM)⟩,aS h.r2 d (c _ oM),(by
  obtain⟨l,rs,p,j⟩:=h.r3;exact⟨XI l d,rs.set o x,by rw[yD2,p],lJ (o:=o+2) j (by simp;omega)⟩),h.tL.keep kq λg f=>c g (oN ((h.tL.lt f).1)),h.tR.keep kq λg f=>c g (oN ((h.tR.lt f).1)),h.ne,h.la.keep kq,h.lb.keep kq,h.gr.keep kq,jX h.lg (c r oM),h.ls,h.dj.keep d (λg f=>c g (oN ((h.tL.lt f).1))) (λg f=>c g (oN ((h.tR.lt f).1)))⟩
def Ph.next{m:Nat}{j i:XG}{e':Array XG}{p o:Nat->Nat}{t s:Nat->LB}(h:Ph w W r k iL iR n cL cR vL vR v va vb Lb Rb L a b G H U)(x:SLq (QH r k vL vR) W j m p)(y:SLq (QH r k vL vR) W i m o)(d:GRq (QH r k vL vR) W (.agg e') m t s U):Ph w (W.setCells (k+1) 0 e'.toList) r k iL iR m cL cR vL vR (.agg e') j i Lb Rb L p o t s U:=by
 have A:=h.rk;have c:∀g,g≠k+1->(W.setCells (k+1) 0 e'.toList).heap[g]? = W.heap[g]?:=λg d=>aE _ 0 W g d
 have f:W.heap.size<=(W.setCells (k+1) 0 e'.toList).heap.size:=by rw[setCells_size];exact XH _
 have kq:Kq (QH r k vL vR) W (W.setCells (k+1) 0 e'.toList):=⟨f,λg q _=>c g (oN q.2.1)⟩
 obtain⟨e,C,u,e3,B⟩:=h.r1;obtain⟨l,z,f2,f3⟩:=d.ar;obtain rfl:e'=l:=by injection z
 exact⟨jQ h.on h.wk h.rk oM,h.rk,h.wk,aS h.r0 f (c _ oM),⟨e',rfl,f2,f3,B.put (by rw[X0,X0,f2,u])⟩,aS h.r2 f (c _ oM),h.r3.same f (c _ oM),h.tL.keep kq λg d=>c g (oN ((h.tL.lt d).1)),h.tR.keep kq λg d=>c g (oN ((h.tR.lt d).1)),h.ne,x.keep kq,y.keep kq,d.keep kq,jX h.lg (c r oM),h.ls,h.dj.keep f (λg d=>c g (oN ((h.tL.lt d).1))) (λg d=>c g (oN ((h.tR.lt d).1)))⟩
end
end
section
open SPA
variable {P:Nat}[NeZero P]{N:Nat}[NeZero N]
abbrev wP{P:Nat}[NeZero P](X:OnP P):Bs:=wr X.1
def kP(a b:Nat->Fin N):∀n,prS N (λi=>(a i).val) (λi=>(b i).val) n=(Md.pr a b n).val
 | 0=>(yBf N).symm
 | n+1=>by
  show sPl N (prS N _ _ n) (sTi N (b n).val (a n).val)=(Md.pr a b n+a n*b n).val;rw[kP a b n,jS,eW];unfold sTi;rw[YN]
omit [NeZero N] in
theorem Do(x y:Fin N)(n:Nat)(a:Nat->Fin N)(i:Nat):oP N x.val y.val n (λi=>(a i).val) i=(Md.fS x y n a i).val:=by
 show sPl N (sTi N (a i).val x.val) (sTi N (a (n+i)).val y.val)=(x*a i+y*a (n+i)).val;rw[jS,eW,eW];unfold sTi;rw[YN (a i).val,YN (a (n+i)).val]
omit [NeZero N] in
theorem uH{n c:Nat}{G H:Nat->LB}{U:LB}{g h:Nat->OnP P}{u:OnP P}(j:0<n)(f:0<c)(b:c*n<=64)(hG:Gd N n c G g)(d:Gd N n c H h)(m:Tl N U u)(e:0<U.length)(l:U.length<=16):GOk N n c G H U:=
 ⟨j,f,b,λi k=>⟨(hG.tl i k).ok,hG.len i k⟩,λi k=>⟨(d.tl i k).ok,d.len i k⟩,m.ok,e,l⟩
omit [NeZero N] in
theorem Tl.point(C:Fld P)(O:Ord N)(k:∀r:EC.Pt P,On r->mul N r=none){l:LB}{X:OnP P}(b:Tl N l X)(c:0<l.length)(d:l.length<=512){w:XF}{v:XG}(h:Sm 0 w v l):
 cZ 33 #[v] w (rZ w λe w'=>e=pvl (wr X.1)):=by
 have:=h.point C O k c d b.lt b.pts;rw[b.sum]at this;exact this
def iCP:gZ 51 33:=gQ
def JR(C:Fld P)(O:Ord N)(k:∀r:EC.Pt P,On r->mul N r=none){Q:Nat->Prop}{m c:Nat}{G H:Nat->LB}{U:LB}{g h:Nat->OnP P}{u:OnP P}(t:0<m)(A:0<c)(j:c*m<=64)(hG:Gd N m c G g)(p:Gd N m c H h)(q:Tl N U u)(B:0<U.length)(y:U.length<=16)(a b:Nat->Fin N):
 ∃l,(∀(W:XF) (v va f:XG),GRq Q W v m G H U->SLq Q W va m (λi=>(a i).val)->SLq Q W f m (λi=>(b i).val)->cZ 143 #[v,va,f] W (rZ W λe w'=>Sm W.heap.size w' e l)) /\
  (∀(W:XF) (v:XG),Sm 0 W v l->cZ 33 #[v] W (rZ W λe w'=>e=pvl (wr ((aD C k).hd a b g h u m).1))):=by
 have s:=uH t A j hG p q B y;obtain⟨o,n⟩:=Lr C k hG p q (d:=U.length) rfl a b;rw[<-kP]at o n;refine⟨_,λW v va f x z w=>GR O m c G H U s _ _ (λi _=>(a i).isLt) (λi _=>(b i).isLt) v va f W x z w,λW v hv=>o.point C O k (by rw[n];omega) (by rw[n];omega) hv⟩
end
end Go.Proofs.YtlofhpkoaljmeaaGreat
