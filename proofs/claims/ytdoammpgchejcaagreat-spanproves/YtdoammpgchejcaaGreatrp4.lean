import Derived.RangeFuncNested
import Derived.RangeFuncBound
import Derived.Shelf.RegionOpen
import Derived.OwnWalkIn
import Derived.LoopNIn
import Derived.LoopIn
import Derived.Test.YtdoammpgchejcaaGreatrp3
set_option linter.unusedVariables false
set_option linter.defProp false
set_option linter.constructorNameAsVariable false
set_option linter.unusedSimpArgs false
set_option maxRecDepth 1000000
set_option maxHeartbeats 4000000
namespace Go.Proofs.YtdoammpgchejcaaGreat
open _root_.Go.Act renaming put->Zo
open _root_ renaming Array->yt,Bool->zk,ByteArray->R,Fin->B,Int->Y,List->H,Nat->I,Option->zb,UInt8->yv,rfl->Z
open Go.Proofs.YtdoammpgchejcaaGreat renaming Fld->At,Four->zh,Gives->yy,Row->yz,i40->zy,oM->S,uZ->U,yFU->zd,yFV->zi,yFW->yw
open Go.RowKit renaming Hid->E
open Go.Sort renaming Holds->yx
open _root_.Bool renaming false->D,true->J
open _root_.Option renaming none->G,some->F
open EC NT RG SP
open _root_.Array renaming all_eq_true'->oT,any_eq_true'->rz,append_assoc->yEj,ext->yDP,ext_getElem?->yEi,getD_eq_getD_getElem?->YG,getElem?_append_left->yCu,getElem?_append_right->yDx,getElem?_eq_getElem->Y0,getElem?_eq_some_iff->YX,getElem?_replicate->yCD,getElem?_setIfInBounds->r9,getElem?_toList->Zz,getElem_append_left->yCx,getElem_extract->yD4,getElem_replicate->Z3,getElem_toList->wt,length_toList->YM,map->yFJ,map_append->yEy,map_id->yDY,map_replicate->yCW,replicate->YD,size->yj,size_append->Zi,size_extract->tj,size_replicate->YN,size_setIfInBounds->Zg,toList_append->yk,toList_replicate->yDX
open _root_.BitVec renaming eq_of_getLsbD_eq->yDK,ofInt->tn
open _root_.Bool renaming and_eq_true->YJ,false_or->yD3,or_eq_false_iff->yC0,or_eq_true->tr,true_or->tF
open _root_.ByteArray renaming data_append->xu,empty->yDW,mk->yCV
open _root_.Fin renaming ext->pw,ofNat->aj,val_mul->qy
open _root_.Go renaming Addr->ai,Calls->Zl,Oper->Y9,Program->Zw,TypeId->YW,Value->Yq,World->Yp,bodyPost_ret->YB,execOp->Za,run_make_row'->uq,undef->ae,wpList_store_mid->ZJ,wpOp_mono->uj,wp_block->ZR,wp_cond_false->YY,wp_cond_true->Y5,wp_ret->Zr,wp_seq->Yt,wp_skip->ZK
open _root_.Go.Addr renaming add->oB
open _root_.Go.Builtin renaming append_->Zn,copy_->uk,nextslicecap->yB8,zeroCells->Z7
open _root_.Go.Calls renaming mono->yEh
open _root_.Go.Code renaming region->ZP
open _root_.Go.Instr renaming indexAt->ZW,makeSlice->pq,sureAddr->xn
open _root_.Go.IntKind renaming i64->YQ,u64->Zk,u8->xb,wrap_i64->Zy
open _root_.Go.IntWalk renaming i64_in->ZG
open _root_.Go.Lib renaming bytesCells->xg,bytesWorld->ym,bytesWorld_size->yDf,wpList_append_run->Z9
open _root_.Go.Oper renaming about->yFF,semAt_eq->yFe,upon_enter->rl,wp->ZY
open _root_.Go.OwnFrom renaming and->yE7
open _root_.Go.Question renaming cut->yEl
open _root_.Go.Region renaming binds->ZH,ready->Y6,wanted->gE
open _root_.Go.Result renaming andThen_ok->Zp
open _root_.Go.RowKit.Below renaming refl->YH
open _root_.Go.Sem renaming run_bind->YU,run_pure->gM
open _root_.Go.Src renaming ofSlice->yEL
open _root_.Go.Value renaming agg->Y8,int->ZO,string->yFc
open _root_.Go.World renaming block_lt_of_cell?->ul,cell?->pn,cell?_alloc_new->Zj,cell?_of_block->Y1,cell?_setCell_same->yDJ,cell?_setCells_out->yDI,freeze->yn,frozen?->ut,frozen?_alloc_new->qj,frozen?_of_block->ZZ,frozen?_setCell->ve,frozen?_setCells->yDS,size_alloc->YE,size_setCell->yEe
open _root_.Int renaming natCast_nonneg->yEu,tmod_eq_emod_of_nonneg->yBI
open _root_.List renaming setIfInBounds_toArray->Yw,getElem?_cons_zero->YS,getElem?_cons_succ->YP,getElem?_toArray->YV,foldl_nil->yE4,foldl_cons->yDE,map_nil->xo,map_cons->pg,set_cons_zero->Yz,set_cons_succ->Yy,all_eq_true->Zf,any_eq_true->yEJ,append_assoc->pk,append_nil->po,cons_append->ZI,countP_replicate->yD7,drop_length->yEH,drop_succ_cons->uw,drop_zero->ux,eq_nil_iff_forall_not_mem->yDp,flatMap_append->yo,flatMap_nil->yEG,getElem?_eq_getElem->YC,getElem?_eq_some_iff->YF,getElem?_of_mem->rm,getElem?_take->qk,getElem_map->qm,getElem_set->yEF,length_append->Yx,length_cons->Y2,length_drop->yCL,length_map->YO,length_nil->Z2,length_replicate->xh,length_set->yER,length_take->sj,mem_cons->Zb,mem_cons_of_mem->Zd,mem_cons_self->Zm,mem_map->YT,mem_range->Z6,nil_append->ZQ,not_mem_nil->YI,range->ZD,replicate->ZB,size_toArray->Zq,take_add->yE9,take_of_length_le->yB1,take_succ_cons->ts,take_zero->qt
open _root_.Nat renaming add_assoc->oz,add_mod->rh,add_mul->ph,add_sub_cancel_left->tT,add_zero->ao,le_add_right->xt,le_of_lt->ax,le_refl->Ys,le_trans->YA,lt_of_lt_of_le->Yr,lt_or_ge->iB,min_eq_left->yE0,min_le_left->yDM,min_le_right->yDD,mod_eq_of_lt->YL,mod_lt->ZL,mul_comm->Ze,mul_le_mul_left->xv,mul_mod->mi,mul_one->ay,mul_succ->ty,mul_zero->qo,ne_of_gt->cW,not_lt_zero->p9,pos_of_neZero->xe,pow_le_pow_right->ZU,pow_two->yFy,sub_sub->xy,sub_zero->qp,succ_mul->yFp,testBit_lt_two_pow->yD5,zero_add->Yv,zero_le->aw
open _root_.Option renaming map_eq_some_iff->Yu,map_some->ur,some->YR
open _root_.Or renaming inl->Y3,inr->YZ
open _root_.Prod renaming mk->ZV
open _root_.UInt8 renaming ofNat->YK,toNat_ofNat'->yCp
open Go.Proofs.Tryz
open Go.RowKit Go.Sort Go.Deep
variable {P:Nat}[NeZero P]{N:Nat}
variable {A α:Type}{L:Array Bool}{M b c cap d f g h i j k m n r:Nat}{T l:List UInt8}{V:Nat->Yq}{W w w':Yp}{a:Act}{e:UInt8}{p:Nat->A->Prop}{q:Option ai}{t:YW}{vs:List Yq}
namespace SP
attribute [local go_sem] dA dV dJ rC Ch
def uC{off:I}{d:Bs}(h:yx encB w b off d)(i:I)(k:i<d.size){x:yv}(hx:d[i]! = x):
 w.cell? ⟨b,off+i,G⟩=F (.int .u8 (ub x))/\w.frozen? ⟨b,off+i,G⟩=D:=by
 rw[<-hx];exact h i k
def word_any(g d o len cap:I)(bs:Bs)(w:Yp)(j:yx encB w g d bs)(p:8<=len)(ho:o+8<=bs.size)(hl:len<=4611686018427387904):
 cZ 247 #[qZ g (d+o) len cap] w λe w'=>e=.returned (U (u (wordOf bs o)))/\w'=w:=by
 go_enter func247,ntmps247;go_wp2
 go_loop [3,5] (λs3 s5=>∃(k:I) (c:BitVec 64),k<=8/\s5=iZ k/\s3=U (u c)/\E (lF bs o k=c)) (λ_ s5=>8-(intOf s5).toNat)
 exact⟨0,0,dC,Z,Z,Z⟩;obtain⟨k,c,n,rfl,rfl,f⟩:=hrel;by_cases m:k<8
 .let⟨x,hx⟩:∃x,bs[o+k]! = x:=⟨_,Z⟩
  let⟨b,l⟩:=uC j (o+k) S hx
  rw[<-oz]at b;have i:E (lF bs o (k+1)=c ||| wide x <<< (8*k)):=by
   show lF bs o k ||| wide bs[o+k]! <<< (8*k)=_
   rw[f.out,hx]
  clear hx l;have hs:=Bw (wide x) (8*k);have q:(k:Y)<(len:Y):=S;go_wp2
  go_round
  case rel=>exact⟨k+1,_,S,by go_num,Z,i⟩
  case measure=>simp[intOf];omega
 have b:k=8:=S;subst b;go_wp2;go_ret;rw[wordOf,f.out];exact⟨Z,Z⟩
theorem Qf(b off f c len cap:I)(bs:Bs)(d:St)(w:Yp)(hd:d.size=25)(z:yx enc w b off d)(r:yx encB w f c bs)(hl:bs.size=len)(q:len<=200)(s:len<=cap)
 (i:f≠b\/c+len<=off\/off+25<=c) :
 Zl prog 240 #[.pointer (F ⟨b,off,G⟩),.slice (F ⟨f,c,G⟩) len cap] w λe w'=>e=.returned (.tuple #[])/\Only b off 25 w w'/\yx enc w' b off (fY bs d (len/8)):=by
 go_enter func240,ntmps240;go_wp2;go_loopg [8] (len/8) (λg s8 wr=>∃(k:I) (i:St),k+g=len/8/\s8=.int .i64 k/\yx enc wr b off i/\Only b off 25 w wr/\E (i=fY bs d k))
 case atStart=>exact⟨0,d,S,Z,z,Only.refl _ _ _ _,Z⟩
 case round =>
  obtain⟨k,i,C,rfl,n,m,p⟩:=hrel;have hs:i.size=25:=by rw[p.out,dT,hd]
  by_cases y:k<len/8
  .have j:yx encB wr f c bs:=by
    by_cases l:f=b
    .subst l;exact Holds.same r m S
    .exact Holds.other r m l S
   obtain⟨x,hx⟩:∃x,i[k]! = x:=⟨_,Z⟩
   obtain⟨A,M⟩:=aT n (i:=k) S hx;have u:E (i[k]! = x):=hx;clear hx;have L:(k:Y)<25:=S;have N:(0:Y)<=(k:Y)*8:=S;have r2:(k:Y)*8<=(len:Y):=S;have K:((k:Y)*8).toNat=8*k:=S;have s1:YQ.wrap ((k:Y)*8)=(k:Y)*8:=ZG _ S;have lt:(k:Y)<(len:Y)/8:=S;go_wp2_with fail
   have v:(cap=8*k)=False:=eq_false S;have t:E (yx encB wr.drew f c bs):=Holds.drew j;have l:E (8*k+8<=bs.size):=by show _<=_;omega
   clear j;go_region_with (go_at_call 247;apply(word_any f c (8*k) (len-8*k) (cap-8*k) bs _ t S l S).mono;rintro e a ⟨rfl,rfl⟩)
   all_goals
    go_wp2;go_roundg (gk-1)
    case measure=>omega
    case rel =>
     refine⟨k+1,bJ i k (wordOf bs (8*k)),S,by go_num,?_,?_,?_⟩
     .exact Holds.drew (Holds.xor n S u _)
     .exact(m.setCell (o:=off+k) S S _).drew
     .rw[p.out];rfl
  .have j:k=len/8:=S;have lt:(len:Y)/8<=(k:Y):=S;go_wp2
   go_end0
   refine⟨Z,m,?_⟩;rw[<-j,<-p.out];exact n
def slice22:prog.underlying 23=F (.slice 5):=kR
def info5:(prog.info? 5).map (λi=>(i.zero,i.size,i.bytes))=F (F (.int .u8 0),1,1):=kR
attribute [local go_sem] RI
def vJ(b off n:I)(d:St)(w:Yp)(hd:d.size=25)(p:yx enc w b off d)(y:n<=200):
 Zl prog 190 #[.pointer (F ⟨b,off,G⟩),.int .i64 n] w λe w'=>e=.returned (.slice (F ⟨w.heap.size,0,G⟩) n n)/\Below w.heap.size w w'/\yx encB w' w.heap.size 0 (front d n):=by
 have t:=Holds.lt p S;have s:=uq (P:=prog) 23 5 (.int .u8 0) 1 slice22 info5 Z .i64 .i64 n S S;go_enter func190,ntmps190;go_wp2;generalize c:(w.alloc _)=q;go_loopg [11] n (λg s11 wr=>∃(k:I) (bs:Bs),k+g=n/\s11=.int .i64 k/\yx encB wr w.heap.size 0 bs/\Only w.heap.size 0 n q wr/\E (bs=eM d n k))
 case atStart =>
  refine⟨0,_,S,Z,?_,Only.refl _ _ _ _,Z⟩;rw[<-c];exact Holds.made (enc:=encB) w 5 n 0
 case round =>
  obtain⟨k,bs,a,rfl,j,f,l⟩:=hrel;have hs:bs.size=n:=by rw[l.out,jV]
  have r:yx enc wr b off d:=Holds.other (by rw[<-c];exact Holds.below p ((YH _ _).alloc (Ys _) _) t) f S S;by_cases v:k<n
  .obtain⟨x,hx⟩:∃x,d[k/8]! = x:=⟨_,Z⟩
   obtain⟨z,A⟩:=aT r (i:=(k/8)) S hx;obtain⟨c1,f1⟩:=j k S;rw[Yv]at c1 f1;have u:E (byteOf d k=low (x >>> (8*(k%8)))):=by show low _=_;rw[hx]
   have m:=Ip x (8*(k%8));go_wp2;go_roundg (gk-1)
   case measure=>omega
   case rel =>
    refine⟨k+1,bs.setIfInBounds k (low (x >>> (8*(k%8)))),S,by go_num,?_,?_,?_⟩
    .have:=Holds.set j (i:=k) S (low (x >>> (8*(k%8))));rw[Yv]at this;exact this
    .exact f.setCell (o:=k) S S _
    .show _=(eM d n k).setIfInBounds k (byteOf d k);rw[u.out,l.out]
  .have m:k=n:=S;go_wp2;go_ret;refine⟨Z,?_,?_⟩
   .rw[<-c]at f;exact f.fresh
   .unfold front;rw[l.out,m]at j;exact j
end SP
namespace SP
def encI(n:I):Yq:=iZ n
def Av(a:St)(x:I)(c:St):I->St
 | 0=>c
 | y+1=>bJ (Av a x c y) x a[x+5*y]!
def oP(a:St):I->St
 | 0=>YD 5 0
 | x+1=>Av a x (oP a x) 5
def zQ(a:St)(k:yt I)(x:I)(v:BitVec 64)(m:St):I->St
 | 0=>m
 | y+1=>(zQ a k x v m y).setIfInBounds (y%5+5*((2*x+3*y)%5)) (rol (a[x+5*y]! ^^^ v) k[x+5*y]!)
def oD(a:St)(k:yt I)(c:St):I->St
 | 0=>YD 25 0
 | x+1=>zQ a k x (bQ c x) (oD a k c x) 5
def zF(m:St)(x:I)(o:St):I->St
 | 0=>o
 | y+1=>(zF m x o y).setIfInBounds (x+5*y) (m[x+5*y]! ^^^ (~~~m[(x+1)%5+5*y]! &&& m[(x+2)%5+5*y]!))
def qY(m:St):I->St
 | 0=>YD 25 0
 | x+1=>zF m x (qY m x) 5
def eT(a:St)(k:yt I)(c:BitVec 64):St:=bJ (qY (oD a k (oP a 5) 5) 5) 0 c
def Au(a:St)(x:I)(c:St)(y:I):(Av a x c y).size=c.size:=by
 induction y with
 | zero=>rfl
 | succ y ih=>simp[Av,cE,ih]
def Ha(a:St)(x:I):(oP a x).size=5:=by
 induction x with
 | zero=>simp[oP]
 | succ x ih=>simp[oP,Au,ih]
def zO(a:St)(k:yt I)(x:I)(v:BitVec 64)(m:St)(y:I):(zQ a k x v m y).size=m.size:=by
 induction y with
 | zero=>rfl
 | succ y ih=>simp[zQ,ih]
def GI(a:St)(k:yt I)(c:St)(x:I):(oD a k c x).size=25:=by
 induction x with
 | zero=>simp[oD]
 | succ x ih=>simp[oD,zO,ih]
def zE(m:St)(x:I)(o:St)(y:I):(zF m x o y).size=o.size:=by
 induction y with
 | zero=>rfl
 | succ y ih=>simp[zF,ih]
def zD(m:St)(x:I):(qY m x).size=25:=by
 induction x with
 | zero=>simp[qY]
 | succ x ih=>simp[qY,zE,ih]
def Bc{a:St}{k:yt I}{c:BitVec 64}:(eT a k c).size=25:=by simp[eT,cE,zD]
structure Of where
 x:I
 y:I
 o:yt I
def lH:I->Of
 | 0=>{ x:=1,y:=0,o:=YD 25 0 }
 | t+1=>{ x:=(lH t).y,y:=(2*(lH t).x+3*(lH t).y)%5,o:=(lH t).o.setIfInBounds ((lH t).x%5+5*((lH t).y%5)) (zK t) }
def cU:yt I:=(lH 24).o
def P9(t:I):(lH t).x<5/\(lH t).y<5/\(lH t).o.size=25:=by
 induction t with
 | zero=>exact⟨show 1<5 by decide,show 0<5 by decide,show(YD 25 0).size=25 by simp⟩
 | succ t ih =>
  let⟨h1,b,k⟩:=ih
  refine⟨b,?_,?_⟩
  .show(2*(lH t).x+3*(lH t).y)%5<5;omega
  show((lH t).o.setIfInBounds _ _).size=25;rw[Zg,k]
def DX:I->I
 | 0=>1
 | i+1=>mZ (DX i)
def QM(t:I):BitVec 64:=BitVec.ofNat 64 (DX t%2)
def EO(r:I):I->BitVec 64
 | 0=>0
 | j+1=>EO r j ||| QM (j+7*r) <<< (2^j-1)
def G8(r:I):BitVec 64:=EO r 7
def DY(d:St):I->St
 | 0=>d
 | k+1=>eT (DY d k) cU (G8 k)
def UF:∀k:B 24,G8 k.val=rcC (Bd k.val):=dK
def zJ:cU=#[0,1,62,28,27,36,44,6,55,20,3,10,43,25,39,41,45,15,21,8,18,2,61,56,14]:=dK
def Mj(x:BitVec 64):rol x 0=x:=by
 rw[rol,BitVec.shiftLeft_zero,qp,BitVec.ushiftRight_eq_zero (Ys 64),BitVec.or_zero]
def zx(x:BitVec 64):0 ^^^ x=x:=BitVec.zero_xor
def QB(a0 r s y u w t z v x n m q f l d c g k i e o j b p:BitVec 64):oP #[a0,r,s,y,u,w,t,z,v,x,n,m,q,f,l,d,c,g,k,i,e,o,j,b,p] 5=#[0 ^^^ a0 ^^^ w ^^^ n ^^^ d ^^^ e,0 ^^^ r ^^^ t ^^^ m ^^^ c ^^^ o,0 ^^^ s ^^^ z ^^^ q ^^^ g ^^^ j,0 ^^^ y ^^^ v ^^^ f ^^^ k ^^^ b,0 ^^^ u ^^^ x ^^^ l ^^^ i ^^^ p]:=kR
def LJ(a0 r s y u w t z v x n m q f l d c g k i e o j b p:BitVec 64):mB #[a0,r,s,y,u,w,t,z,v,x,n,m,q,f,l,d,c,g,k,i,e,o,j,b,p] 5=#[a0 ^^^ w ^^^ n ^^^ d ^^^ e,r ^^^ t ^^^ m ^^^ c ^^^ o,s ^^^ z ^^^ q ^^^ g ^^^ j,y ^^^ v ^^^ f ^^^ k ^^^ b,u ^^^ x ^^^ l ^^^ i ^^^ p]:=kR
def UG(a0 r s y u w t z v x n m q f l d c g k i e o j b p:BitVec 64):oP #[a0,r,s,y,u,w,t,z,v,x,n,m,q,f,l,d,c,g,k,i,e,o,j,b,p] 5=mB #[a0,r,s,y,u,w,t,z,v,x,n,m,q,f,l,d,c,g,k,i,e,o,j,b,p] 5:=by
 rw[QB,LJ];simp only[zx]
def Qd(S:St)(a0 r s y u w t z v x n m q f l d c g k i e o j b p:BitVec 64):oD #[a0,r,s,y,u,w,t,z,v,x,n,m,q,f,l,d,c,g,k,i,e,o,j,b,p] #[0,1,62,28,27,36,44,6,55,20,3,10,43,25,39,41,45,15,21,8,18,2,61,56,14] S 5=#[rol (a0 ^^^ bQ S 0) 0,rol (t ^^^ bQ S 1) 44,rol (q ^^^ bQ S 2) 43,rol (k ^^^ bQ S 3) 21,rol (p ^^^ bQ S 4) 14,rol (y ^^^ bQ S 3) 28,rol (x ^^^ bQ S 4) 20,rol (n ^^^ bQ S 0) 3,rol (c ^^^ bQ S 1) 45,rol (j ^^^ bQ S 2) 61,rol (r ^^^ bQ S 1) 1,rol (z ^^^ bQ S 2) 6,rol (f ^^^ bQ S 3) 25,rol (i ^^^ bQ S 4) 8,rol (e ^^^ bQ S 0) 18,rol (u ^^^ bQ S 4) 27,rol (w ^^^ bQ S 0) 36,rol (m ^^^ bQ S 1) 10,rol (g ^^^ bQ S 2) 15,rol (b ^^^ bQ S 3) 56,rol (s ^^^ bQ S 2) 62,rol (v ^^^ bQ S 3) 55,rol (l ^^^ bQ S 4) 39,rol (d ^^^ bQ S 0) 41,rol (o ^^^ bQ S 1) 2]:=kR
def Po(S:St)(a0 r s y u w t z v x n m q f l d c g k i e o j b p:BitVec 64):tA (kQ S #[a0,r,s,y,u,w,t,z,v,x,n,m,q,f,l,d,c,g,k,i,e,o,j,b,p] 5)=#[a0 ^^^ bQ S 0,rol (t ^^^ bQ S 1) 44,rol (q ^^^ bQ S 2) 43,rol (k ^^^ bQ S 3) 21,rol (p ^^^ bQ S 4) 14,rol (y ^^^ bQ S 3) 28,rol (x ^^^ bQ S 4) 20,rol (n ^^^ bQ S 0) 3,rol (c ^^^ bQ S 1) 45,rol (j ^^^ bQ S 2) 61,rol (r ^^^ bQ S 1) 1,rol (z ^^^ bQ S 2) 6,rol (f ^^^ bQ S 3) 25,rol (i ^^^ bQ S 4) 8,rol (e ^^^ bQ S 0) 18,rol (u ^^^ bQ S 4) 27,rol (w ^^^ bQ S 0) 36,rol (m ^^^ bQ S 1) 10,rol (g ^^^ bQ S 2) 15,rol (b ^^^ bQ S 3) 56,rol (s ^^^ bQ S 2) 62,rol (v ^^^ bQ S 3) 55,rol (l ^^^ bQ S 4) 39,rol (d ^^^ bQ S 0) 41,rol (o ^^^ bQ S 1) 2]:=kR
def Ua(S:St)(a0 r s y u w t z v x n m q f l d c g k i e o j b p:BitVec 64):oD #[a0,r,s,y,u,w,t,z,v,x,n,m,q,f,l,d,c,g,k,i,e,o,j,b,p] cU S 5=tA (kQ S #[a0,r,s,y,u,w,t,z,v,x,n,m,q,f,l,d,c,g,k,i,e,o,j,b,p] 5):=by
 rw[zJ,Qd,Po,Mj]
def TP{a0 r s y u w t z v x n m q f l d c g k i e o j b p:BitVec 64}:qY #[a0,r,s,y,u,w,t,z,v,x,n,m,q,f,l,d,c,g,k,i,e,o,j,b,p] 5=chi #[a0,r,s,y,u,w,t,z,v,x,n,m,q,f,l,d,c,g,k,i,e,o,j,b,p]:=kR
def Ue{l:H α}(h:l.length=25):∃a0 s t z v x u a w y o n r f m d c g k i e p j b q,l=[a0,s,t,z,v,x,u,a,w,y,o,n,r,f,m,d,c,g,k,i,e,p,j,b,q]:=by
 match l,h with
 | [a0,s,t,z,v,x,u,a,w,y,o,n,r,f,m,d,c,g,k,i,e,p,j,b,q],_=>exact⟨_,_,_,_,_,_,_,_,_,_,_,_,_,_,_,_,_,_,_,_,_,_,_,_,_,Z⟩
def Si{d:yt α}(h:d.size=25):∃a0 t u a w y v A x z p o s g n e c i k j f q m b r,d=#[a0,t,u,a,w,y,v,A,x,z,p,o,s,g,n,e,c,i,k,j,f,q,m,b,r]:=by
 let⟨l⟩:=d
 obtain⟨a0,t,u,a,w,y,v,A,x,z,p,o,s,g,n,e,c,i,k,j,f,q,m,b,r,rfl⟩:=Ue h;exact⟨_,_,_,_,_,_,_,_,_,_,_,_,_,_,_,_,_,_,_,_,_,_,_,_,_,Z⟩
def PY{m:St}(h:m.size=25):qY m 5=chi m:=by
 obtain⟨a0,s,t,z,v,x,u,a,w,y,o,n,r,f,l,d,c,g,k,i,e,p,j,b,q,rfl⟩:=Si h;exact TP
def round_eq{d:St}(h:d.size=25)(c:BitVec 64):eT d cU c=oJ d c:=by
 have k:oD d cU (oP d 5) 5=tA (v7 d):=by
  obtain⟨a0,u,v,A,x,z,w,C,y,a,q,p,t,j,o,g,f,l,b,m,i,r,n,e,s,rfl⟩:=Si h;rw[UG,Ua];rfl
 unfold eT oJ;rw[k,PY (mE (by rw[kD,h]))]
def Mm{d:St}(h:d.size=25)(b:k<=24):DY d k=nY d k:=by
 induction k with
 | zero=>rfl
 | succ k ih =>
  show eT (DY d k) cU (G8 k)=oJ (nY d k) (rcC (Bd k));rw[ih S,UF ⟨k,S⟩,round_eq (nX h k)]
def GE:∀i,i<25->cU[i]! < 64:=by
 intro i k;have H:∀j:B 25,cU[j.val]! < 64:=dK;exact H ⟨i,k⟩
def mN:cU.size=25:=by rw[zJ];rfl
end SP
namespace SP
open Go.Sort
def dY:St:=YD 25 0
def lT(bs:Bs):Bs:=front (perm (fY bs dY 25)) 200
def rR(bs:Bs):I->St
 | 0=>dY
 | i+1=>(rR bs i).setIfInBounds (i/8) ((rR bs i)[i/8]! ||| wide bs[i]! <<< (8*(i%8)))
def lU{bs:Bs}:(rR bs i).size=25:=by
 induction i with
 | zero=>simp[rR,dY]
 | succ i ih=>simp[rR,ih]
def jX(h:j<25):dY[j]! = 0:=by
 have k:j<(YD 25 (0:BitVec 64)).size:=by rw[YN];exact h
 rw[dY,getElem!_pos (YD 25 (0:BitVec 64)) j k,Z3]
def P4(bs:Bs)(f:n<=200)(d:j<25):
 (rR bs n)[j]! = if j<n/8 then wordOf bs (8*j) else if j=n/8 then lF bs (8*j) (n%8) else 0:=by
 induction n with
 | zero =>
  rw[rR,jX d];by_cases h:j=0
  .subst h;rfl
  simp[h]
 | succ n b =>
  have b:=b S;rw[rR];by_cases k:j=n/8
  .rw[<-k,getElem!_set_same _ _ _ (by rw[lU];omega),b,zi S,zd k];have c:bs[n]! = bs[8*j+n%8]!:=by
    have:n=8*j+n%8:=S;rw[<-this]
   rw[c];show lF bs (8*j) (n%8+1)=_;by_cases e:n%8=7
   .rw[zd S,e];rfl
   rw[zi S,zd S,show(n+1)%8=n%8+1 by omega]
  rw[getElem!_set_other _ _ _ _ k,b];by_cases h1:j<n/8
  .rw[zd h1,zd S]
  rw[zi h1,zi k,zi S];by_cases c:j=(n+1)/8
  .rw[zd c,show(n+1)%8=0 by omega];rfl
  rw[zi c]
def tK{d:St}(bs:Bs)(hd:d.size=25)(e:n<=25)(c:j<25):(fY bs d n)[j]! = if j<n then d[j]! ^^^ wordOf bs (8*j) else d[j]!:=by
 induction n with
 | zero=>rfl
 | succ n b =>
  have b:=b S;rw[fY];unfold bJ;by_cases k:j=n
  .rw[<-k,getElem!_set_same _ _ _ (by rw[dT,hd];exact c),zd S];rw[<-k]at b;rw[b,zi S]
  rw[getElem!_set_other _ _ _ _ k,b];by_cases h1:j<n
  .rw[zd h1,zd S]
  rw[zi h1,zi S]
def FN{a b:St}(c:a.size=25)(d:b.size=25)(h:∀j,j<25->a[j]! = b[j]!):a=b:=by
 apply yDP S;intro i h1 k;have:=h i S;rwa[getElem!_pos a i h1,getElem!_pos b i k]at this
def TR(bs:Bs):rR bs 200=fY bs dY 25:=by
 have b:dY.size=25:=by simp[dY]
 refine FN lU (by rw[dT,b]) (λj k=>?_);rw[P4 bs (Ys _) k,tK bs b (Ys _) k,zd S,zd k,jX k,zx]
def JL{bs:Bs}:front (DY (rR bs 200) 24) 200=lT bs:=by
 rw[Mm lU (Ys _),TR];rfl
end SP
namespace SP
variable {w w1:Yp}{b o n:Nat}
def heap_setCells(b:I){k:I}(c:k≠b):∀(vs:H Yq) (p:I) (w:Yp),(w.setCells b p vs).heap[k]? = w.heap[k]?
 | [],_,_=>rfl
 | v :: r,p,w=>by rw[World.setCells,heap_setCells b c r (p+1) _,Below.heap_setCell _ _ _ _ c]
def Only.setCells(h:Only b o n w w1)(vs:H Yq)(p:I)(e:o<=p)(f:p+vs.length<=o+n):Only b o n w (w1.setCells b p vs):=by
 have c:=below_setCells (B:=0) (b:=b) (aw _) vs p w1 (YH 0 w1);exact h.trans ⟨c.os,c.tape,c.output,c.size,λk _ d=>heap_setCells b d vs p w1,
  λq g=>yDI b vs p w1 ⟨b,q,G⟩ (λ_ _=>by simp only;omega),λq=>yDS b vs p w1 _⟩
def Holds.setCells{bs r:Bs}(h:yx encB w b o bs)(vs:H Yq)(p:I)(e:r.size=bs.size)(f:p+vs.length<=bs.size)
 (h1:∀j (c:j<vs.length),vs[j]=encB r[p+j]!) (k:∀j,j<bs.size->j<p\/p+vs.length<=j->r[j]! = bs[j]!):yx encB (w.setCells b (o+p) vs) b o r:=by
 intro j c;rw[e]at c;rw[yDS];refine⟨?_,(h j c).2⟩;by_cases d:j<p\/p+vs.length<=j
 .rw[yDI b vs (o+p) w ⟨b,o+j,G⟩ (λ_ _=>by simp only;omega),k j c d];exact(h j c).1
 have k:j-p<vs.length:=S;have:=World.cell?_setCells_in b vs (o+p) w (λi g=>by
  have:=(h (p+i) S).1;rw[<-oz]at this;rw[this];rfl) (j-p) k
 rw[show o+p+(j-p)=o+j by omega]at this;rw[this,h1 (j-p) k,show p+(j-p)=j by omega]
def app_front(a r:Bs)(j:I)(k:j<a.size):(a++r)[j]! = a[j]:=by
 have h:j<(a++r).size:=by rw[Zi];omega
 rw[getElem!_pos (a++r) j h,yCx k]
def app_back(a r:Bs)(j:I)(h1:a.size<=j)(k:j<a.size+r.size):(a++r)[j]! = r[j-a.size]!:=by
 have h:j<(a++r).size:=by rw[Zi];omega
 rw[getElem!_pos (a++r) j h,yt.getElem_append_right h1,getElem!_pos r (j-a.size) S]
def rep_at(n j:I)(h:j<n):(YD n (0:yv))[j]! = 0:=by
 have k:j<(YD n (0:yv)).size:=by rw[YN];exact h
 rw[getElem!_pos (YD n (0:yv)) j k,Z3]
def conv_str(P:Zw)(src k e:YW)(hs:P.underlying src=F (.slice e))(l:P.underlying e=F (.int .u8))(hd:P.underlying k=F .string)
 (w:Yp) (b o n cap:I) (bs:Bs) (m:yx encB w b o bs) (i:bs.size=n):(convert src k (qZ b o n cap)).run P w=.ok (.string ⟨bs⟩) w:=by
 have h:=run_convert_bytes_back (P:=P) w src k e ⟨b,o,G⟩ cap bs.toList hs l hd (λj p=>by
  have c:j<bs.size:=by simpa using p
  have f:=(m j c).1;rw[getElem!_pos bs j c]at f;have g:(⟨b,o,G⟩:ai).add j=⟨b,o+j,G⟩:=by
   unfold oB;by_cases d:j=0
   .subst d;rfl
   rw[zi d]
  rw[g,f];simp[encB,ub])
 simpa[i]using h
end SP
namespace SP
def int5:prog.underlying 5=F (.int .u8):=kR
def str9:prog.underlying 9=F .string:=kR
end SP
namespace SP
open Go.Sort
/-! ### Words and bytes -/
def Lt(x : yv)(i : I): (wide x).getLsbD i=x.toNat.testBit i:=by
  rw[wide, BitVec.getLsbD_ofNat];by_cases h : i<64
  · simp[h]
  · have : x.toNat.testBit i=D:=yD5 (Yr x.toNat_lt (ZU dC (by omega : 8 <= i)))
    simp[h, this]
def Bi{x:yv}(h:8<=i):x.toNat.testBit i=D:=
 yD5 (Yr x.toNat_lt (ZU dC h))
def rE{bs:Bs}{o:I}(f:n<=8)(b:k<64):(lF bs o n).getLsbD k=(decide (k<8*n) && (bs[o+k/8]!).toNat.testBit (k%8)):=by
 induction n with
 | zero=>simp[lF]
 | succ n ih =>
  rw[lF,BitVec.getLsbD_or,ih S,BitVec.getLsbD_shiftLeft,Lt];by_cases h1:k<8*n
  .simp[h1,b,show k<8*(n+1) by omega]
  by_cases c:k<8*(n+1)
  .have e:k/8=n:=S;have d:k-8*n=k%8:=S;simp[h1,c,b,e,d]
  have:=Bi (x:=bs[o+n]!) (i:=(k-8*n)) S;simp[h1,c,b,this]
def low_bit(v:BitVec 64)(i:I)(h:i<8):(low v).toNat.testBit i=v.getLsbD i:=by
 rw[low,yCp,I.testBit_mod_two_pow,BitVec.getLsbD];simp[h]
def GW(d:St)(e:k<=n)(b:j<n):(eM d n k)[j]! = if j<k then byteOf d j else 0:=by
 induction k with
 | zero =>
  have c:j<(YD n (0:yv)).size:=by rw[YN];exact b
  rw[eM,getElem!_pos (YD n (0:yv)) j c,Z3,zi S]
 | succ k ih =>
  rw[eM];by_cases h:j=k
  .subst h;rw[getElem!_set_same _ _ _ (by rw[jV];exact b),zd S]
  rw[getElem!_set_other _ _ _ _ h,ih S];by_cases h1:j<k
  .rw[zd h1,zd S]
  rw[zi h1,zi S]
def kK{d:St}(k:j<n):(front d n)[j]! = byteOf d j:=by
 rw[front,GW d (Ys _) k,zd k]
def xZ(d:St)(n j:I)(f:8*j+8<=n):wordOf (front d n) (8*j)=d[j]!:=by
 apply yDK;intro k b;rw[wordOf,rE (Ys _) b,kK (d:=d) (n:=n) S];unfold byteOf;have e:(8*j+k/8)/8=j:=S;have c:(8*j+k/8)%8=k/8:=S;rw[low_bit _ _ (ZL _ dC),BitVec.getLsbD_ushiftRight,e,c,show 8*(k/8)+k%8=k by omega];simp[b]
def J5{d:St}(hd:d.size=25):fY (front d 200) dY 25=d:=by
 have b:dY.size=25:=by simp[dY]
 refine FN (by rw[dT,b]) hd (λj k=>?_);rw[tK _ b (Ys _) k,zd k,jX k,zx,xZ d 200 j S]
def Ef{d:St}(hd:d.size=25):lT (front d 200)=front (perm d) 200:=by
 rw[lT,J5 hd]
/-! ### The sponge, byte by byte -/
structure Sp where
  d : St
  p : Bs
  h : I
structure Ok(S:Sp):Prop where
 d25:S.d.size=25
 p136:S.p.size=136
 hlt:S.h<136
def kV(S:Sp):Sp:={ d:=perm (fY S.p S.d 17),p:=S.p,h:=0 }
def Be(S:Sp)(x:yv):Sp:=
 if S.h+1=136 then kV { d:=S.d,p:=S.p.setIfInBounds S.h x,h:=S.h } else { d:=S.d,p:=S.p.setIfInBounds S.h x,h:=S.h+1 }
def eD(S:Sp)(l:H yv):Sp:=l.foldl Be S
def splice(p:Bs):I->H yv->Bs
 | _,[]=>p
 | i,x :: r=>splice (p.setIfInBounds i x) (i+1) r
def fV(S:Sp)(a b:H yv):eD S (a++b)=eD (eD S a) b:=H.foldl_append
def cO{p:Bs}:(splice p i l).size=p.size:=by
 induction l generalizing p i with
 | nil=>rfl
 | cons x r ih=>rw[splice,ih,Zg]
def iD(p:Bs)(i:I)(l:H yv)(j:I)(hl:i+l.length<=p.size)(k:j<p.size):(splice p i l)[j]! = if i<=j/\j<i+l.length then l[j-i]! else p[j]!:=by
 induction l generalizing p i with
 | nil=>simp[splice];omega
 | cons x r ih =>
  simp only[Y2]at hl;rw[splice,ih _ _ (by rw[Zg];omega) (by rw[Zg];exact k)];by_cases h:j=i
  .subst h;rw[zi S,getElem!_set_same _ _ _ k,zd (by simp),I.sub_self];rfl
  rw[getElem!_set_other _ _ _ _ h];by_cases h1:i+1<=j/\j<i+1+r.length
  .rw[zd h1,zd (by simp;omega),show j-i=(j-(i+1))+1 by omega];rfl
  rw[zi h1,zi (by simp;omega)]
def mC(d:St)(p:Bs)(h:I):kV ⟨d,p,h⟩=⟨perm (fY p d 17),p,0⟩:=by unfold kV;rfl
def Pf(S:Sp):(kV S).d=perm (fY S.p S.d 17):=by
 let⟨d,p,h⟩:=S
 rw[mC]
def Pd(S:Sp):(kV S).p=S.p:=by
 let⟨d,p,h⟩:=S
 rw[mC]
def Pe(S:Sp):(kV S).h=0:=by
 let⟨d,p,h⟩:=S
 rw[mC]
def Pb{S:Sp}(h1:S.d.size=25)(k:S.p.size=136):Ok (kV S):=by
 refine⟨?_,by rw[Pd,k],?_⟩
 .rw[Pf];exact uU (by rw[dT,h1])
 rw[Pe];decide
def IA{x:yv}{S:Sp}(h:Ok S):Ok (Be S x):=by
 have:=h.hlt;unfold Be;by_cases e:S.h+1=136
 .rw[zd e];exact Pb h.d25 (by show(S.p.setIfInBounds _ _).size=136;rw[Zg];exact h.p136)
 rw[zi e];exact⟨h.d25,by show(S.p.setIfInBounds _ _).size=136;rw[Zg];exact h.p136,by show S.h+1<136;omega⟩
def fU{S:Sp}(h:Ok S)(l:H yv):Ok (eD S l):=by
 induction l generalizing S with
 | nil=>exact h
 | cons x r ih=>exact ih (IA h)
def TE{S:Sp}(h:Ok S)(x:yv):(Be S x).h=(S.h+1)%136:=by
 have:=h.hlt;unfold Be;by_cases e:S.h+1=136
 .rw[zd e,e];rfl
 rw[zi e,YL oM]
def Il{S:Sp}(h:Ok S)(l:H yv):(eD S l).h=(S.h+l.length)%136:=by
 induction l generalizing S with
 | nil=>exact(YL h.hlt).symm
 | cons x r ih =>
  show(eD (Be S x) r).h=_;rw[ih (IA h),TE h x,Y2];omega
def nH(S:Sp)(hl:l≠[])(k:S.h+l.length<=136):
 eD S l=if S.h+l.length=136 then kV { d:=S.d,p:=splice S.p S.h l,h:=S.h } else { d:=S.d,p:=splice S.p S.h l,h:=S.h+l.length }:=by
 induction l generalizing S with
 | nil=>exact absurd Z hl
 | cons x r ih =>
  show eD (Be S x) r=_;simp only[Y2]at k⊢;cases r with
  | nil =>
   unfold Be eD splice;simp only[H.foldl_nil,Z2];by_cases e:S.h+1=136
   .rw[zd e,zd oM];rfl
   rw[zi e,zi oM];rfl
  | cons y r' =>
   have e:¬S.h+1=136:=by simp only[Y2]at k;omega
   have c:Be S x = { d:=S.d,p:=S.p.setIfInBounds S.h x,h:=S.h+1 }:=by unfold Be;rw[zi e]
   rw[c,ih _ (by simp) (by simp only[Y2]at k⊢;omega)];simp only[splice,Y2];by_cases b:S.h+(r'.length+1+1)=136
   .rw[zd oM,zd b];rfl
   rw[zi oM,zi b,show S.h+1+(r'.length+1)=S.h+(r'.length+1+1) by omega]
/-! ### The end -/
def ended(p : Bs)(h : I)(e : yv): Bs:=
  let q:=(splice p h (ZB (136-h) 0)).setIfInBounds h e
  q.setIfInBounds 135 (q[135]! ^^^ 128)
def vM(S:Sp)(e:yv):Sp:=kV { d:=S.d,p:=ended S.p S.h e,h:=S.h }
def iV(h:I)(e:yv):H yv:=
 (e :: ZB (135-h) 0).set (135-h) ((e :: ZB (135-h) 0)[135-h]! ^^^ 128)
def eE(e:yv)(hh:h<136):(iV h e).length=136-h:=by
 rw[iV,yER,Y2,xh];omega
def Dg{a b:Bs}(c:a.size=n)(d:b.size=n)(h:∀j,j<n->a[j]! = b[j]!):a=b:=by
 apply yDP S;intro i h1 k;have:=h i S;rwa[getElem!_pos a i h1,getElem!_pos b i k]at this
def TN(e:yv)(k:j<136-h)(hh:h<136):(iV h e)[j]! = (if j=0 then e else 0) ^^^ (if j=135-h then 128 else 0):=by
 have b:∀j,j<136-h->(e :: ZB (135-h) (0:yv))[j]! = if j=0 then e else 0:=by
  intro j k;cases j with
  | zero=>rfl
  | succ j =>
   have hl:j+1<(e :: ZB (135-h) (0:yv)).length:=by rw[Y2,xh];omega
   rw[getElem!_pos (e :: ZB (135-h) (0:yv)) (j+1) hl];simp
 have hl:j<(e :: ZB (135-h) (0:yv)).length:=by rw[Y2,xh];omega
 rw[getElem!_pos (iV h e) j (by rw[eE e hh];exact k)];unfold iV;rw[yEF];by_cases h1:135-h=j
 .rw[zd h1,b (135-h) S,h1,zd (rfl:j=j)]
 rw[zi h1,zi (show ¬j=135-h by omega)];have:=b j k;rw[getElem!_pos (e :: ZB (135-h) (0:yv)) j hl]at this;rw[this];simp
def G4(p:Bs)(h:I)(e:yv):(ended p h e).size=p.size:=by
 unfold ended;simp only[Zg,cO]
def DW(h:j<n):(ZB n (0:yv))[j]! = 0:=by
 rw[getElem!_pos _ j (by simpa using h)];simp
def NK{p:Bs}(c:p.size=136)(hh:h<136):ended p h e=splice p h (iV h e):=by
 have hs:(splice p h (ZB (136-h) 0)).size=136:=by rw[cO,c]
 refine Dg (n:=136) (by rw[G4,c]) (by rw[cO,c]) (λj d=>?_);have f:∀j,j<136->((splice p h (ZB (136-h) 0)).setIfInBounds h e)[j]! = if j<h then p[j]! else if j=h then e else 0:=by
  intro j d;by_cases h1:j=h
  .rw[h1,getElem!_set_same _ _ _ S,zi S,zd Z]
  rw[getElem!_set_other _ _ _ _ h1,iD _ _ _ _ (by rw[xh,c];omega) S,xh];by_cases b:j<h
  .rw[zi S,zd b]
  rw[zd S,zi b,zi h1,DW S]
 have hR:(splice p h (iV h e))[j]! = if j<h then p[j]! else(if j=h then e else 0) ^^^ (if j=135 then 128 else 0):=by
  rw[iD _ _ _ _ (by rw[eE e hh,c];omega) S,eE e hh];by_cases b:j<h
  .rw[zi (show ¬(h<=j/\j<h+(136-h)) by omega),zd b]
  rw[zd (show h<=j/\j<h+(136-h) by omega),zi b,TN e S hh];have g:(j-h=0)=(j=h):=by apply propext;omega
  have k:(j-h=135-h)=(j=135):=by apply propext;omega
  simp only[g,k]
 have g:(ended p h e)[j]! = if j<h then p[j]! else(if j=h then e else 0) ^^^ (if j=135 then 128 else 0):=by
  unfold ended;by_cases k:j=135
  .rw[k,getElem!_set_same _ _ _ (by rw[Zg,hs];decide),f 135 dC,zi (show ¬135<h by omega),zi (show ¬135<h by omega),zd (rfl:135=135)]
  rw[getElem!_set_other _ _ _ _ k,f j d];by_cases b:j<h
  .rw[zd b,zd b]
  rw[zi b,zi b,zi k];simp
 rw[g,hR]
def BS{S:Sp}(h:Ok S)(e:yv):vM S e=eD S (iV S.h e):=by
 have:=h.hlt;have hl:=eE e h.hlt;rw[nH S (by intro c;rw[c]at hl;simp at hl;omega) oM,zd oM];rw[vM,NK h.p136 h.hlt]
end SP
namespace SP
def Only.widen{o:I}(h:Only b o n w w')(h1:k<=o)(d:o+n<=k+c):Only b k c w w':=
 ⟨h.os,h.tape,h.output,h.size,h.block,λq e=>h.cell q S,h.froz⟩
structure HSp(w:Yp)(b:I)(S:Sp):Prop where
 d:yx enc w b 0 S.d
 p:yx encB w b 25 S.p
 h:w.cell? ⟨b,161,G⟩=F (iZ (S.h:Y))
 f:w.frozen? ⟨b,161,G⟩=D
def HSp.drew{S:Sp}(h:HSp w b S):HSp w.drew b S:=⟨h.d,h.p,h.h,h.f⟩
def HSp.lt{S:Sp}(h:HSp w b S):b<w.heap.size:=ul _ _ h.h
def HSp.below{B:I}{S:Sp}(h:HSp w b S)(k:Below B w w')(c:b<B):HSp w' b S:=
 ⟨Holds.below h.d k c,Holds.below h.p k c,by rw[k.cell (p:=⟨b,161,G⟩) c];exact h.h,by rw[k.frozen (p:=⟨b,161,G⟩) c];exact h.f⟩
theorem yI(b:I)(S:Sp)(w:Yp)(f:S.d.size=25)(g:S.p.size=136)(q:HSp w b S):
 Zl prog 225 #[.pointer (F ⟨b,0,G⟩)] w λe w'=>e=.returned (.tuple #[])/\Only b 0 162 w w'/\HSp w' b (kV S):=by
 let⟨d,p,h⟩:=S
 dsimp only at f g;have C:yx enc w b 0 d:=q.d;have a:yx encB w b 25 p:=q.p;have A:=q.h;have hf:=q.f;dsimp only at A;rw[mC];clear q;have u:(perm (fY p d 17)).size=25:=uU (by rw[dT,f]);generalize n:perm (fY p d 17)=K at u⊢;have v:E (perm (fY p d 17)=K):=n;clear n;go_enter func225,ntmps225;go_wp2;go_still_tail 7,mixed;go_wp2_with fail
 apply(Qf b 0 b 25 136 136 p d _ f (Holds.drew C) (Holds.drew a) g dC (Ys _) oM).mono;rintro e s ⟨rfl,l,o⟩;have k:Only b 0 25 w s:=((Only.refl b 0 25 w).drew).trans l;have r:yx enc s b 0 (fY p d 17):=o;have x:=Holds.same a k oM;have c1:s.cell? ⟨b,161,G⟩=F (.int .i64 h):=by rw[k.cell 161 oM];exact A
 have f1:s.frozen? ⟨b,161,G⟩=D:=by rw[k.froz];exact hf
 clear l o;go_wp2_with fail
 apply(wE b 0 _ _ (by rw[dT,f]) r).mono;rintro e m ⟨rfl,c,j⟩;rw[v.out]at j;have z:=Holds.same x c oM;have c2:m.cell? ⟨b,161,G⟩=F (.int .i64 h):=by rw[c.cell 161 oM];exact c1
 have f2:m.frozen? ⟨b,161,G⟩=D:=by rw[c.froz];exact f1
 go_wp2
 go_end0
 have i:Only b 161 1 m (m.setCell ⟨b,161,G⟩ (.int .i64 0)):=(Only.refl b 161 1 m).setCell oM oM _;have y:=Holds.same j i (Y3 oM);have t:=Holds.same z i (Y3 oM);exact⟨Z,((k.trans c).widen (Ys _) oM).trans (i.widen oM oM),⟨y,t,yDJ _ _ _ c2,by rw[ve];exact f2⟩⟩
def ints5:gZ 5 1:=gQ
def gJ{o:I}{p:Bs}(h:yx encB w b o p)(i:I)(l:H yv)(d:i+l.length<=p.size):yx encB (w.setCells b (o+i) (l.map encB)) b o (splice p i l):=by
 refine Holds.setCells h _ i cO (by rw[YO];exact d) (λj c=>?_) (λj c k=>?_)
 .rw[YO]at c;rw[iD p i l (i+j) d S,zd S,tT,getElem!_pos l j c,qm]
 rw[YO]at k;rw[iD p i l j d c,zi S]
def piece(bs:Bs)(k n:I):H yv:=(bs.toList.drop k).take n
def tH(bs:Bs)(k n:I)(h:k+n<=bs.size):(piece bs k n).length=n:=by
 rw[piece,sj,yCL,YM];omega
def piece_at(bs:Bs)(k:I)(h:k+n<=bs.size)(b:j<n)(hl:j<(piece bs k n).length):(piece bs k n)[j]=bs[k+j]!:=by
 have e:(piece bs k n)[j]? = F bs[k+j]!:=by
  rw[piece,H.getElem?_take_of_lt b,H.getElem?_drop,Zz,Y0 S,getElem!_pos bs (k+j) S]
 exact(YF.1 e).2
def FG(bs:Bs)(k n:I):bs.toList.take (k+n)=bs.toList.take k++piece bs k n:=yE9
def G7{o len:I}{p bs:Bs}(i:yx encB w b 25 p)(t:p.size=136)(r:yx encB w d o bs)(hh:h<136)(u:k+len<=bs.size)(f:I.min len (136-h)=n):
 (uk #[23,23] 3 #[qZ b (25+h) (136-h) (136-h),qZ d (o+k) len cap]).run prog w=.ok (goInt n) (w.setCells b (25+h) ((piece bs k n).map encB)):=by
 have s:n<=len:=by rw[<-f];exact yDM _ _
 have m:n<=136-h:=by rw[<-f];exact yDD _ _
 have c:((piece bs k n).map encB).length=n:=by rw[YO,tH bs k n S]
 have:=run_copy_cells (P:=prog) w 23 23 3 5 b (25+h) (136-h) (136-h) ⟨d,o+k,G⟩ len cap ((piece bs k n).map encB) slice22 ints5 (by rw[c,f])
  (λj v e=>by
   let⟨h1,l⟩:=YF.1 e
   rw[c]at h1;rw[qm,piece_at bs k S h1]at l;have q:(⟨d,o+k,G⟩:ai).add j=⟨d,o+(k+j),G⟩:=by
    unfold oB;by_cases g:j=0
    .subst g;rw[zd Z];rfl
    rw[zi g,oz]
   rw[q,(r (k+j) S).1,l])
  (λj e=>by
   rw[c]at e;have:=(i (h+j) S).1;rw[<-oz]at this;rw[this];rfl)
  (λj e=>by
   rw[c]at e;have:=(i (h+j) S).2;rw[<-oz]at this;exact this)
  (λv hv=>by
   obtain⟨x,_,rfl⟩:=YT.1 hv;rfl)
 rw[c]at this;exact this
def tO{d:St}{p:Bs}{v:Yq}(i:yx enc w b 0 d)(j:d.size=25)(l:yx encB w b 25 p)(e:p.size=136)(g:w.cell? ⟨b,161,G⟩=F v)(hf:w.frozen? ⟨b,161,G⟩=D):
 HSp (w.setCell ⟨b,161,G⟩ (iZ ((m:I):Y))) b ⟨d,p,m⟩:=by
 have f:Only b 161 1 w (w.setCell ⟨b,161,G⟩ (iZ ((m:I):Y))):=(Only.refl b 161 1 w).setCell S S _;have c:=Holds.same i f (Y3 S);have k:=Holds.same l f (Y3 S);exact⟨c,k,yDJ _ _ _ g,by rw[ve];exact hf⟩
theorem take_any(b:I)(S:Sp)(a:zb ai)(v z len cap:I)(bs:Bs)(w:Yp)(h6:Ok S)(hS:HSp w b S)(hl:bs.size=len)(h7:len<=cap)(h8:len<=1099511627776)
 (c:len=0\/(a=F ⟨v,z,G⟩/\v≠b/\yx encB w v z bs)) :
 Zl prog 224 #[.pointer (F ⟨b,0,G⟩),.slice a len cap] w λe w'=>e=.returned (.tuple #[])/\Only b 0 162 w w'/\HSp w' b (eD S bs.toList):=by
 go_enter func224,ntmps224;go_wp2;go_loopg [1] len (λg s1 wr=>∃(k:I) (a':zb ai) (i:Sp),k+g=len/\s1=.slice a' (len-k) (cap-k)/\(k<len->a'=F ⟨v,z+k,G⟩)/\HSp wr b i/\Only b 0 162 w wr/\E (i=eD S (bs.toList.take k)))
 case atStart =>
  refine⟨0,a,S,oM,Z,λd=>?_,hS,Only.refl _ _ _ _,Z⟩;rcases c with h|⟨h,_,_⟩
  .omega
  .exact h
 case round =>
  obtain⟨k,a',i,hk,rfl,h3,l,hO,HE⟩:=hrel;by_cases h5:k<len
  .have e1:=h3 h5;subst e1;obtain⟨_,h4,hB⟩:a=F ⟨v,z,G⟩/\v≠b/\yx encB w v z bs:=by
    rcases c with h|h
    .omega
    .exact h
   have O:=Holds.other hB hO h4 oM;have f:Ok i:=by rw[HE.out];exact fU h6 _
   obtain⟨q,hh⟩:=vH i.h;have p:=f.hlt;have C:=f.p136;rw[hh]at p;have hc:=l.h;rw[hh]at hc;have hP:=l.p;obtain⟨n,P⟩:=vH (I.min (len-k) (136-q));have l0:(0:Y)<((len-k:I):Y):=oM;have X:(q:Y)<=136:=oM;have Hh:E (i.h=q):=hh;clear hh;have T:=eq_false oM;have he:1<=n:=by rw[<-P];exact(I.le_min).2 ⟨oM,oM⟩
   have h9:n<=len-k:=by rw[<-P];exact yDM _ _
   have ha:n<=136-q:=by rw[<-P];exact yDD _ _
   have h2:=G7 (w:=wr.drew) (cap:=cap-k) (k:=k) hP C O p oM P;have t:=tH bs k n oM;have r:=gJ (Holds.drew hP) q (piece bs k n) oM;have x:Only b 0 162 w (wr.drew.setCells b (25+q) ((piece bs k n).map encB)):=hO.drew.setCells _ _ oM (by rw[YO];omega);have A:Only b 25 136 wr (wr.drew.setCells b (25+q) ((piece bs k n).map encB)):=((Only.refl b 25 136 wr).drew).setCells _ _ oM (by rw[YO];omega);have s:=Holds.same l.d A (Y3 (by rw[f.d25];omega));have c1:(wr.drew.setCells b (25+q) ((piece bs k n).map encB)).cell? ⟨b,161,G⟩=F (.int .i64 q):=by rw[A.cell 161 oM];exact hc
   have f1:(wr.drew.setCells b (25+q) ((piece bs k n).map encB)).frozen? ⟨b,161,G⟩=D:=by rw[A.froz];exact l.f
   have Q:E (eD S (bs.toList.take (k+n))=eD i (piece bs k n)):=by
    show _=_;rw[FG,fV,<-HE.out]
   have d:E (eD i (piece bs k n)=if q+n=136 then kV ⟨i.d,splice i.p q (piece bs k n),q⟩ else⟨i.d,splice i.p q (piece bs k n),q+n⟩):=by
    show _=_;have:=nH i (l:=(piece bs k n)) (by intro e;rw[e]at t;simp at t;omega) (by rw[t,Hh.out];omega);rw[t,Hh.out]at this;exact this
   have j:(splice i.p q (piece bs k n)).size=136:=by rw[cO,C]
   have m:=f.d25;generalize V:wr.drew.setCells b (25+q) ((piece bs k n).map encB)=W1 at h2 r x s c1 f1;generalize splice i.p q (piece bs k n)=sp at r j d;generalize i.d=L at s m d;clear A V hP O f t l C P;have z1:(n:Y)<=((len-k:I):Y):=oM;by_cases y:cap-k=n
   .have N:(cap-k=n)=True:=eq_true y;have M:E (cap-k=n):=y;clear y;by_cases c:q+n=136
    .have W:((q:Y)+(n:Y) == 136)=J:=beq_iff_eq.2 oM;rw[zd c]at d;go_wp2_with fail
     go_still_tail 9,mixed;go_wp2_with fail
     refine(yI b ⟨L,sp,q+n⟩ _ m j (tO s m r j c1 f1 (m:=(q+n)))).mono ?_;rintro e w2 ⟨rfl,K,u⟩;go_wp2;go_roundg (gk-n)
     case measure=>omega
     case rel =>
      refine⟨k+n,F ⟨v,z+k,G⟩,kV ⟨L,sp,q⟩,oM,by rw[xy,xy],λhx=>oN M.out,?_,?_,?_⟩
      .rw[mC]at u⊢;exact u
      .exact(x.setCell (o:=161) oM oM _).trans K
      .rw[Q.out,d.out];rfl
    .have W:=beq_eq_false_iff_ne.2 oM;rw[zi c]at d;go_wp2_with fail
     go_still_tail 9,mixed;go_wp2;go_roundg (gk-n)
     case measure=>omega
     case rel =>
      refine⟨k+n,F ⟨v,z+k,G⟩,⟨L,sp,q+n⟩,oM,by rw[xy,xy],λhx=>oN M.out,?_,?_,?_⟩
      .exact tO s m r j c1 f1 (m:=(q+n))
      .exact x.setCell (o:=161) oM oM _
      .rw[Q.out,d.out];rfl
   .have N:=eq_false y;by_cases c:q+n=136
    .have W:=beq_iff_eq.2 oM;rw[zd c]at d;go_wp2_with fail
     go_still_tail 9,mixed;go_wp2_with fail
     refine(yI b ⟨L,sp,q+n⟩ _ m j (tO s m r j c1 f1 (m:=(q+n)))).mono ?_;rintro e w2 ⟨rfl,K,u⟩;go_wp2;go_roundg (gk-n)
     case measure=>omega
     case rel =>
      refine⟨k+n,F ⟨v,z+k+n,G⟩,kV ⟨L,sp,q⟩,oM,by rw[xy,xy],λ_=>by rw[oz],?_,?_,?_⟩
      .rw[mC]at u⊢;exact u
      .exact(x.setCell (o:=161) oM oM _).trans K
      .rw[Q.out,d.out];rfl
    .have W:=beq_eq_false_iff_ne.2 oM;rw[zi c]at d;go_wp2_with fail
     go_still_tail 9,mixed;go_wp2;go_roundg (gk-n)
     case measure=>omega
     case rel =>
      refine⟨k+n,F ⟨v,z+k+n,G⟩,⟨L,sp,q+n⟩,oM,by rw[xy,xy],λ_=>by rw[oz],?_,?_,?_⟩
      .exact tO s m r j c1 f1 (m:=(q+n))
      .exact x.setCell (o:=161) oM oM _
      .rw[Q.out,d.out];rfl
  .have c:k=len:=oM;go_wp2
   go_end0
   refine⟨Z,hO,?_⟩;have e1:bs.toList.take k=bs.toList:=yB1 (by rw[YM];omega);rw[HE.out,e1]at l;exact l
def tJ(x:yv):tn 8 (x.toNat:Y)=x.toBitVec:=by
 apply BitVec.eq_of_toNat_eq;rw[BitVec.ofInt_natCast,BitVec.toNat_ofNat];exact YL x.toNat_lt
def B6(x y:yv):bits .xor .u8 (ub x) (ub y)=ub (x ^^^ y):=by
 show xb.wrap ((tn 8 (x.toNat:Y) ^^^ tn 8 (y.toNat:Y)).toNat:Y)=_;rw[tJ,tJ,<-yv.toBitVec_xor];have h:((x ^^^ y).toNat:Y)<256:=oN ((x ^^^ y).toNat_lt);have e:∀n:Y,xb.wrap n=n%256:=λn=>by simp[IntKind.wrap,IntKind.bits,IntKind.signed]
 rw[e];exact Y.emod_eq_of_lt (yEu _) h
def QZ(x:yv):bits .xor .u8 (ub x) 128=ub (x ^^^ 128):=B6 x 128
def Va:∀w:Yp,(zeroValue 5).run prog w=.ok (.int .u8 0) w:=λ_=>kR
def EP{q:I}{p:Bs}(k:yx encB w b 25 p)(e:p.size=136)(f:q<136)(c:YW):
 (Builtin.clear_ #[23] c #[qZ b (25+q) (136-q) (136-q)]).run prog w=.ok (.tuple #[]) (w.setCells b (25+q) ((ZB (136-q) (0:yv)).map encB)):=by
 have h:=Lib.run_clear_slice (P:=prog) w 23 5 c (.int .u8 0) slice22 Va Z Z b (25+q) (136-q) (136-q) S
  (λj d=>by
   have:=(k (q+j) S).1;rw[<-oz]at this;rw[this];rfl)
  (λj d=>by
   have:=(k (q+j) S).2;rw[<-oz]at this;exact this)
 rw[H.map_replicate];exact h
theorem I8(b:I)(S:Sp)(e:yv)(w:Yp)(l:Ok S)(y:HSp w b S):
 Zl prog 189 #[.pointer (F ⟨b,0,G⟩),.int .u8 (ub e)] w λr w'=>r=.returned (.tuple #[])/\Only b 0 162 w w'/\HSp w' b (vM S e):=by
 let⟨d,p,q⟩:=S
 have X:d.size=25:=l.d25;have m:p.size=136:=l.p136;have hq:q<136:=l.hlt;have hD:yx enc w b 0 d:=y.d;have V:yx encB w b 25 p:=y.p;have hc:w.cell? ⟨b,161,G⟩=F (.int .i64 q):=y.h;have hf:=y.f;have v:=EP (Holds.drew V) m hq 0;have t:Only b 25 136 w (w.drew.setCells b (25+q) ((ZB (136-q) (0:yv)).map encB)):=((Only.refl b 25 136 w).drew).setCells _ _ oM (by rw[YO,xh];omega);have g:=gJ (Holds.drew V) q (ZB (136-q) (0:yv)) (by rw[xh];omega);have A:(splice p q (ZB (136-q) 0)).size=136:=by rw[cO,m]
 have a:E (vM ⟨d,p,q⟩ e=kV ⟨d,((splice p q (ZB (136-q) 0)).setIfInBounds q e).setIfInBounds 135 (((splice p q (ZB (136-q) 0)).setIfInBounds q e)[135]! ^^^ 128),q⟩):=by
  show _=_;unfold vM ended;rfl
 generalize w.drew.setCells b (25+q) ((ZB (136-q) (0:yv)).map encB)=C at v t g;generalize splice p q (ZB (136-q) 0)=sp at g A a;have K:(136=q)=False:=eq_false oM;have N:(q:Y)<=136:=oM;have L:(q:Y)<136:=oM;have c1:C.cell? ⟨b,161,G⟩=F (.int .i64 q):=by rw[t.cell 161 oM];exact hc
 let⟨c2,f2⟩:=g q oM
 let⟨k,c⟩:∃s,sp.setIfInBounds q e=s:=⟨_,Z⟩
 rw[c]at a;have h2:k.size=136:=by rw[<-c,Zg,A]
 let⟨x,hx⟩:∃x,k[135]! = x:=⟨_,Z⟩
 rw[hx]at a;have h3:=QZ x;have u:=Holds.set g (i:=q) oM e;rw[c]at u;have z:Only b 25 136 w (C.setCell ⟨b,25+q,G⟩ (.int .u8 (ub e))):=t.setCell (o:=25+q) oM oM _;have f:yx encB (C.setCell ⟨b,25+q,G⟩ (.int .u8 (ub e))) b 25 k:=u;have HX:E (k[135]! = x):=hx;rw[a.out];clear y l V c hx u a;have O:(k.setIfInBounds 135 (x ^^^ 128)).size=136:=by rw[Zg,h2]
 go_enter func189,ntmps189;go_wp2;go_still_tail 8,mixed;go_wp2_with fail
 go_region
 go_wp2_with fail
 generalize C.setCell ⟨b,25+q,G⟩ (.int .u8 (ub e))=T at f z⊢;let⟨c3,f3⟩:=uC f 135 oM HX
 clear c1 c2 f2 v g;go_region
 go_wp2_with fail
 have M:=Holds.set f (i:=135) oM (x ^^^ 128);have j:Only b 25 136 w (T.setCell ⟨b,160,G⟩ (.int .u8 (ub (x ^^^ 128)))):=z.setCell (o:=160) oM oM _;have n:yx encB (T.setCell ⟨b,160,G⟩ (.int .u8 (ub (x ^^^ 128)))) b 25 (k.setIfInBounds 135 (x ^^^ 128)):=M;generalize T.setCell ⟨b,160,G⟩ (.int .u8 (ub (x ^^^ 128)))=W3 at n j⊢;have h0:yx enc W3 b 0 d:=Holds.same hD j (Y3 oM);have P:HSp W3 b ⟨d,k.setIfInBounds 135 (x ^^^ 128),q⟩:=⟨h0,n,by rw[j.cell 161 oM];exact hc,by rw[j.froz];exact hf⟩
 apply(yI b ⟨d,k.setIfInBounds 135 (x ^^^ 128),q⟩ _ X O P.drew.drew).mono;rintro r w4 ⟨rfl,W,Q⟩;go_wp2
 go_end0
 exact⟨Z,(j.drew.drew.widen oM oM).trans W,Q⟩
end SP
namespace SP
open Go.Sort
def dM(d:St):I->St
 | 0=>d
 | m+1=>perm (dM d m)
def cV{d:St}(hd:d.size=25)(m:I):(dM d m).size=25:=by
 induction m with
 | zero=>exact hd
 | succ m ih=>exact uU ih
def dE(d:St)(j:I):yv:=byteOf (dM d (j/136)) (j%136)
def fX(d:St)(n:I):Bs:=yt.ofFn (λi:B n=>dE d i.val)
def fW{d:St}:(fX d n).size=n:=by simp[fX]
def rG(d:St)(k:j<n):(fX d n)[j]! = dE d j:=by
 rw[getElem!_pos (fX d n) j (by rw[fW];exact k)];simp[fX]
def S0:Sp:=⟨dY,YD 136 0,0⟩
def uD:Ok S0:=⟨by simp[S0,dY],by simp[S0],dC⟩
def kN(l:H yv)(e:yv):St:=(vM (eD S0 l) e).d
def pC:(kN l e).size=25:=by
 unfold kN;have h:=fU uD l;rw[BS h];exact(fU h _).d25
def BQ(l:H yv):Bs:=front (kN l 6) 32
def kU(l:H yv)(n:I):Bs:=fX (kN l 31) n
def EB(l:H yv):BQ l=fX (kN l 6) 32:=by
 unfold BQ;refine Dg aS fW (λj k=>?_);rw[kK k,rG _ k];rw[dE,I.div_eq_of_lt S,YL S];rfl
/-! ### The reference: all bytes with what stands behind them, piece by piece -/
def total(l : H yv)(e : yv): H yv:=l ++ iV (l.length%136) e
def sG(l:H yv)(e:yv):(total l e).length=136*(l.length/136+1):=by
 rw[total,Yx,eE _ (ZL _ dC)];omega
def Dj(l:H yv)(e:yv):kN l e=(eD S0 (total l e)).d:=by
 unfold kN total;have h:=fU uD l;rw[fV,BS h,Il uD l];have:S0.h=0:=rfl;rw[this,Yv]
def uH(st:Bs)(T:H yv)(o:I):I->Bs
 | 0=>st
 | k+1=>(uH st T o k).setIfInBounds k ((uH st T o k)[k]! ^^^ T[o+k]!)
def Bj(st:Bs)(T:H yv)(o k:I):(uH st T o k).size=st.size:=by
 induction k with
 | zero=>rfl
 | succ k ih=>rw[uH,Zg,ih]
def OQ{st:Bs}{o:I}(c:k<=st.size)(b:j<st.size):(uH st T o k)[j]! = if j<k then st[j]! ^^^ T[o+j]! else st[j]!:=by
 induction k with
 | zero=>rfl
 | succ k ih =>
  rw[uH];by_cases h:j=k
  .subst h;rw[getElem!_set_same _ _ _ (by rw[Bj];exact b),ih S,zi S,zd S]
  rw[getElem!_set_other _ _ _ _ h,ih S];by_cases h1:j<k
  .rw[zd h1,zd S]
  rw[zi h1,zi S]
def lO(T:H yv):I->Bs
 | 0=>YD 200 0
 | i+1=>lT (uH (lO T i) T (136*i) 136)
def Fl:front dY 200=YD 200 0:=by
 refine Dg aS (by rw[YN]) (λj k=>?_);have b:j<(YD 200 (0:yv)).size:=by rw[YN];exact k
 rw[kK k,getElem!_pos (YD 200 (0:yv)) j b,Z3];rw[byteOf,jX S];unfold low;simp
def OP(x y:yv)(i:I):(x ^^^ y).toNat.testBit i=(x.toNat.testBit i ^^ y.toNat.testBit i):=by
 rw[yv.toNat_xor,I.testBit_xor]
def Qe{d:St}(hd:d.size=25)(p:Bs)(T:H yv)(o:I)(i:∀j,j<136->p[j]! = T[o+j]!):
 fY (uH (front d 200) T o 136) dY 25=fY p d 17:=by
 have g:dY.size=25:=by simp[dY]
 refine FN (by rw[dT,g]) (by rw[dT,hd]) (λj e=>?_);rw[tK _ g (Ys _) e,zd e,jX e,zx,tK _ hd (n:=17) dC e];apply yDK;intro k f;have l:∀m,m<200->(uH (front d 200) T o 136)[m]! = if m<136 then(front d 200)[m]! ^^^ T[o+m]! else(front d 200)[m]!:=λm n =>
  OQ (by rw[aS];decide) (by rw[aS];exact n)
 have c:=congrArg (λv=>v.getLsbD k) (xZ d 200 j S);simp only[wordOf]at c⊢;rw[rE (Ys _) f]at c⊢;rw[l _ S];by_cases b:j<17
 .rw[zd S,zd b,BitVec.getLsbD_xor,<-c,rE (Ys _) f,OP,i _ S];simp[f]
 rw[zi S,zi b,<-c]
def FH(T:H yv)(i:I):T.take (136*(i+1))=T.take (136*i)++(T.drop (136*i)).take 136:=by
 rw[show 136*(i+1)=136*i+136 by omega,yE9]
def Mn(h:136*i<=T.length):lO T i=front (eD S0 (T.take (136*i))).d 200:=by
 induction i with
 | zero =>
  rw[qo,qt];exact Fl.symm
 | succ i ih =>
  rw[lO,ih oM,FH T i,fV];have k:=fU uD (T.take (136*i));have hh:(eD S0 (T.take (136*i))).h=0:=by
   rw[Il uD,sj,yE0 oM];have:S0.h=0:=rfl;omega
  generalize eD S0 (T.take (136*i))=S at k hh;let⟨d,p,q⟩:=S
  have b:p.size=136:=k.p136;have f:=hh;subst f;have hl:((T.drop (136*i)).take 136).length=136:=by rw[sj,yCL];omega
  rw[nH _ (by intro e;rw[e]at hl;simp at hl) (by rw[hl];exact Ys _),hl,zd Z,mC];rw[lT,Qe k.d25 (splice p 0 ((T.drop (136*i)).take 136)) T (136*i)];intro j c;rw[iD _ _ _ _ (by rw[hl,b];decide) oM,zd oM,qp,getElem!_pos _ j (by rw[hl];exact c),getElem!_pos T (136*i+j) oM];rw[H.getElem_take,H.getElem_drop]
def DZ:lO (total l e) (l.length/136+1)=front (kN l e) 200:=by
 have h:=sG l e;rw[Mn S,Dj,yB1 S]
end SP
namespace SP
def oV{l:I}{cur bs:Bs}(q:yx encB w g 0 cur)(hs:cur.size=cap)(a:yx encB w r 0 bs)(z:bs.size=n)(o:k=n)(e:l+n<=cap)(s:YW):
 (Zn #[23,23] s #[sZ g l cap,sZ r k c]).run prog w=.ok (sZ g (l+n) cap) (w.setCells g l (bs.toList.map encB)):=by
 subst o;let⟨i,A,_,d,_⟩:=info_parts info5
 have b:(bs.toList.map encB).length=k:=by rw[YO,YM,z]
 have f:Src prog i.size 23 (sZ r k c) k (bs.toList.map encB) w:=by
  rw[d];refine yEL w slice22 (aZ r) k c _ (by rw[b,ay]) (λj v m=>?_) (λv hv=>?_)
  .let⟨h1,u⟩:=YF.1 m
   rw[b]at h1;have t:=(a j S).1;rw[getElem!_pos bs j S]at t;rw[qm,wt]at u;have y:(⟨r,0,G⟩:ai).add j=⟨r,0+j,G⟩:=by
    unfold oB;by_cases p:j=0
    .subst p;rw[zd Z]
    rw[zi p]
   rw[y,t,u]
  obtain⟨x,_,rfl⟩:=YT.1 hv;rfl
 have h:=run_append_room_src (P:=prog) w 23 23 s 5 i slice22 A g 0 l cap (sZ r k c) k _ f e
  (λj m=>by
   rw[b]at m;rw[d,ay,oz,(q (l+j) S).1];rfl)
  (λj m=>by
   rw[b]at m;rw[d,ay,oz];exact(q (l+j) S).2)
 rw[d,ay,Yv]at h;exact h
def Only.with_new{o p:I}{c d:Yp}(h:Only b o n w c)(k:Only g p m c d)(r:w.heap.size<=g)(s:b<w.heap.size):Only b o n w d:=by
 have hs:=h.size;have e:=k.block b S S;exact⟨k.os.trans h.os,k.tape.trans h.tape,k.output.trans h.output,YA h.size k.size,
  λj i f=>(k.block j S S).trans (h.block j i f),
  λq l=>(Y1 (w:=c) (a:=⟨b,q,G⟩) e).trans (h.cell q l),λq=>(ZZ (w:=c) (a:=⟨b,q,G⟩) e).trans (h.froz q)⟩
def Gq(d:St)(h:¬m=0):perm (dM d (m-1))=dM d m:=by
 obtain⟨k,rfl⟩:∃k,m=k+1:=⟨m-1,S⟩
 rw[I.add_sub_cancel,dM]
def DC{d:St}{cur:Bs}(k:136*m+136<=cur.size)(h:∀j,j<136*m->cur[j]! = dE d j):∀j,j<136*(m+1)->(splice cur (136*m) (front (dM d m) 136).toList)[j]! = dE d j:=by
 intro j b;have hl:(front (dM d m) 136).toList.length=136:=by rw[YM,aS]
 rw[iD _ _ _ _ (by rw[hl];exact k) S,hl];by_cases h1:j<136*m
 .rw[zi S,h j h1]
 rw[zd S,getElem!_pos _ (j-136*m) (by rw[hl];omega),wt,<-getElem!_pos (front (dM d m) 136) (j-136*m) (by rw[aS];omega),kK S];rw[dE,show j/136=m by omega,show j%136=j-136*m by omega]
def NA(b:I)(d:St)(n:I)(w:Yp)(f:d.size=25)(hD:yx enc w b 0 d)(hn:n<=16384):
 cZ 228 #[jZ b,iZ n] w λe w'=>e=.returned (sZ w.heap.size n n)/\Only b 0 25 w w'/\yx encB w' w.heap.size 0 (fX d n):=by
 have T:=Holds.lt hD S;obtain⟨i,hi,M,h0,h2⟩:=info_parts info5;obtain⟨t,W⟩:=vH (n+136);have h4:∀w:Yp,(pq 23 (iZ 0) (iZ ((n:Y)+136))).run prog w=.ok (sZ w.heap.size 0 t) (w.alloc (.cells (madeCells #[.int .u8 0] t) 5)):=by
  intro w;have h:=run_make (P:=prog) w 23 5 i (.int .u8 0) slice22 hi M .i64 .i64 0 ((n:Y)+136) S S (by rw[h2];omega) S;rw[h0,ay,show((n:Y)+136).toNat=t by omega]at h;exact h
 go_enter func228,ntmps228;go_wp2;go_loopg [5] t (λg s5 wr=>∃(m l:I) (cur:Bs),E (l=136*m)/\l+g=t/\1<=g/\s5=sZ w.heap.size l t/\yx encB wr w.heap.size 0 cur/\cur.size=t/\yx enc wr b 0 (dM d (m-1))/\Only b 0 25 w wr/\w.heap.size<wr.heap.size/\E (∀j,j<136*m->cur[j]! = dE d j))
 case atStart=>exact⟨0,0,_,Z,S,oN ((mk1 W).out),Z,Holds.made (enc:=encB) w 5 t 0,by rw[YN],Holds.below hD ((YH w.heap.size w).alloc (Ys _) (.cells (madeCells #[.int .u8 0] t) 5)) T,(Only.refl _ _ _ _).alloc T _,(by simp),λj X=>S⟩
 case round =>
  obtain⟨m,l,cur,y,hg,h5,rfl,Q,u,A,V,hs,HE⟩:=hrel;by_cases h6:l<n
  .have h3:(l:Y)<(n:Y):=S;have HN:E (∀j,j<136*(m+1)->(splice cur l (front (dM d m) 136).toList)[j]! = dE d j):=by
    rw[y.out];exact DC (d:=d) (m:=m) (cur:=cur) (by rw[<-y.out];omega) HE
   by_cases N:m=0
   .have M:¬(0:Y)<(l:Y):=oN y.out;have r:yx enc wr b 0 (dM d m):=by rw[N]at A⊢;exact A
    go_wp2_with fail
    refine(vJ b 0 136 _ _ (cV (d:=d) f m) r dC).mono ?_;rintro e C ⟨rfl,o,hF⟩;have p:=Holds.below Q o (Holds.lt Q S);have x:=Holds.below r o (Holds.lt r (by rw[cV (d:=d) f];decide));have L:=oV (l:=l) (k:=136) (n:=136) (c:=136) p u hF aS Z S 23;have s:=gJ p l (front (dM d m) 136).toList (by rw[YM,aS];omega);rw[Yv]at s;have z:=V.trans (Only.of_below o Z (Holds.lt r (by rw[cV (d:=d) f];decide)));have q:Only w.heap.size 0 t C (C.setCells w.heap.size l ((front (dM d m) 136).toList.map encB)):=(Only.refl _ _ _ _).setCells _ _ S (by rw[YO,YM,aS];omega);have O:=z.with_new q (Ys _) T;have v:=Holds.other x q S (by rw[cV (d:=d) f];decide);have K:=Yr (Holds.lt p S) q.size;generalize C.setCells w.heap.size l ((front (dM d m) 136).toList.map encB)=W3 at L s O v K;have a:E _:=L;go_wp2_with (at_builtin;refine Z9 _ Z _ _ 23 23 Z _ _ Z Z _ _ a.out ?_)
    go_roundg (gk-136)
    case measure=>omega
    case rel =>
     exact⟨m+1,l+136,_,by have:=y.out;show _=_;omega,S,S,Z,s,by rw[cO,u],v,O,K,HN⟩
   .have O:(0:Y)<(l:Y):=oN y.out;go_wp2_with fail
    refine(wE b 0 _ _ (cV (d:=d) f (m-1)) A).mono ?_;rintro e w1 ⟨rfl,L,r⟩;rw[Gq d (m:=m) N]at r;have K:=Holds.other Q L S S;go_wp2_with fail
    refine(vJ b 0 136 _ _ (cV (d:=d) f m) r dC).mono ?_;rintro e C ⟨rfl,o,hF⟩;have p:=Holds.below K o (Holds.lt K S);have x:=Holds.below r o (Holds.lt r (by rw[cV (d:=d) f];decide));have s:=gJ p l (front (dM d m) 136).toList (by rw[YM,aS];omega);rw[Yv]at s;have z:=(V.trans L).trans (Only.of_below o Z (Holds.lt r (by rw[cV (d:=d) f];decide)));have q:Only w.heap.size 0 t C (C.setCells w.heap.size l ((front (dM d m) 136).toList.map encB)):=(Only.refl _ _ _ _).setCells _ _ S (by rw[YO,YM,aS];omega);have v:=Holds.other x q S (by rw[cV (d:=d) f];decide);have a:E _:=oV (l:=l) (k:=136) (n:=136) (c:=136) p u hF aS Z S 23;go_wp2_with (at_builtin;refine Z9 _ Z _ _ 23 23 Z _ _ Z Z _ _ a.out ?_)
    go_roundg (gk-136)
    case measure=>omega
    case rel =>
     exact⟨m+1,l+136,_,by have:=y.out;show _=_;omega,S,S,Z,s,by rw[cO,u],v,z.with_new q (Ys _) T,Yr (Holds.lt p S) q.size,HN⟩
  .have o:(n:Y)<=(l:Y):=S;go_wp2;go_ret;refine⟨Z,V,λj X=>?_⟩;rw[fW]at X;have:=Q j S;rw[HE.out j (oN y.out)]at this;rw[rG d (n:=n) (j:=j) X];exact this
def eN:yt Yq:=YD 25 (U 0)++YD 136 (.int .u8 0)++#[iZ 0]
def Lq:∀w:Yp,(zeroValue 266).run prog w=.ok (.agg eN) w:=λ_=>kR
def LR(k:j<25):eN[j]? = F (U 0):=by
 have h1:j<(YD 25 (U 0)).size:=by rw[YN];exact k
 rw[eN,yEj,yCu h1,Y0 h1,Z3]
def LP(k:j<136):eN[25+j]? = F (.int .u8 0):=by
 have h1:j<(YD 136 (ZO .u8 0)).size:=by rw[YN];exact k
 rw[eN,yEj,yDx (by rw[YN];omega),YN,tT,yCu h1,Y0 h1,Z3]
def LQ:eN[161]? = F (iZ 0):=by
 rw[eN,yDx (by rw[Zi,YN,YN];decide),Zi,YN,YN];rfl
def IV(w:Yp)(t:YW):HSp (w.alloc (.cells eN t)) w.heap.size S0:=by
 refine⟨λj b=>?_,λj b=>?_,?_,?_⟩
 .have k:j<25:=by simpa[S0,dY]using b
  rw[Zj,qj,Yv,LR k];refine⟨?_,Z⟩;have e:S0.d[j]! = 0:=jX k;rw[e];rfl
 .have k:j<136:=by simpa[S0]using b
  rw[Zj,qj,LP k];refine⟨?_,Z⟩;have e:S0.p[j]! = 0:=rep_at 136 j k;rw[e];rfl
 .rw[Zj,LQ];rfl
 rw[qj]
def A0(a:zb ai)(c d len cap n:I)(bs:Bs)(w:Yp)(u:n<=16384)(hl:bs.size=len)(l:len<=cap)(m:len<=1099511627776)(g:len=0\/(a=F ⟨c,d,G⟩/\yx encB w c d bs)):
 Zl prog 196 #[.slice a len cap,.int .i64 n] w λe w'=>∃r,e=.returned (.tuple #[.slice (F ⟨r,0,G⟩) n n,.int .i64 0])/\w.heap.size<=r/\Below w.heap.size w w'/\yx encB w' r 0 (kU bs.toList n):=by
 have j:=IV w 266;have b:Below w.heap.size w (w.alloc (.cells eN 266)):=(YH _ _).alloc (Ys _) _;have q:w.heap.size<(w.alloc (.cells eN 266)).heap.size:=by simp
 have k:len=0\/(a=F ⟨c,d,G⟩/\c≠w.heap.size/\yx encB (w.alloc (.cells eN 266)) c d bs):=by
  by_cases o:len=0
  .exact Y3 o
  rcases g with h|⟨h1,i⟩
  .exact Y3 h
  have f:=Holds.lt i S;exact YZ ⟨h1,S,Holds.below i b f⟩
 have z:=Lq;go_enter func196,ntmps196;go_wp2_with fail
 generalize w.alloc (.cells eN 266)=t at j b q k⊢;apply(take_any w.heap.size S0 a c d len cap bs t uD j hl l m k).mono;rintro e x ⟨rfl,f,o⟩;go_wp2_with fail
 apply(I8 w.heap.size (eD S0 bs.toList) 31 x (fU uD _) o).mono;rintro e v ⟨rfl,i,p⟩;go_wp2_with fail
 apply(NA w.heap.size _ n _ pC p.d u).mono;rintro e A ⟨rfl,s,y⟩;go_wp2
 go_ret2
 have s1:=f.size;have s2:=i.size;exact⟨v.heap.size,Z,S,(b.trans ((f.trans i).below S (Ys _))).trans (s.below S (Ys _)),y⟩
end SP
namespace SP
def Own(B:I)(w:Yp)(v:Yq)(T:H yv):Prop:=
 ∃g cap cur,v=sZ g T.length cap/\B<=g/\g<w.heap.size/\yj cur=cap/\T.length<=cap/\yx encB w g 0 cur/\∀j,j<T.length->cur[j]! = T[j]!
def Holds.front[Inhabited α]{f:α->Yq}{o:I}{d e:yt α}(h:yx f w b o d)(hs:e.size<=d.size)(k:∀j,j<e.size->e[j]! = d[j]!):yx f w b o e:=by
 intro j c;rw[k j c];exact h j S
def oH(T:H yv)(j:I):T.toArray[j]! = T[j]!:=by
 by_cases h:j<T.length
 .rw[getElem!_pos T.toArray j (by simpa using h),getElem!_pos T j h];simp
 rw[getElem!_neg T.toArray j (by simpa using h),getElem!_neg T j h]
def zV{a b:H yv}(h:j<a.length):(a++b)[j]! = a[j]!:=by
 rw[getElem!_pos (a++b) j (by rw[Yx];omega),getElem!_pos a j h,H.getElem_append_left h]
def rA{a b:H yv}(h:a.length<=j)(k:j<a.length+b.length):(a++b)[j]! = b[j-a.length]!:=by
 rw[getElem!_pos (a++b) j (by rw[Yx];omega),getElem!_pos b (j-a.length) S,H.getElem_append_right h]
variable {B:Nat}{w w1:Yp}{v:Yq}{T:List UInt8}
def Own.holds(h:Own B w (sZ g n cap) T):B<=g/\n=T.length/\T.length<=cap/\yx encB w g 0 T.toArray:=by
 let⟨e,k,cur,hv,c,_,hs,hl,d,hT⟩:=h
 injection hv with e1 e2 e3
 injection e1 with e1
 injection e1 with e1 _ _
 subst e1 e3;exact⟨c,e2,hl,Holds.front d (by simp;omega) (λj b=>by rw[oH];exact(hT j (by simpa using b)).symm)⟩
def Own.below(h:Own B w v T)(k:Below w.heap.size w w1):Own B w1 v T:=by
 let⟨g,cap,cur,hv,c,b,hs,hl,d,hT⟩:=h
 exact⟨g,cap,cur,hv,c,Yr b k.size,hs,hl,Holds.below d k b,hT⟩
def mT(s:R)(i:B<=w.heap.size):
 ∃b w',(convert 9 23 (.string s)).run prog w=.ok b w'/\Own B w' b s.data.toList/\Below w.heap.size w w'/\b=.slice (F ⟨w.heap.size,0,G⟩) s.size (grownCap w s.size 0 5):=by
 have e:s.size<=grownCap w s.size 0 5:=by
  unfold grownCap yEl;exact xt _ _
 have hl:s.data.size=s.size:=rfl;refine⟨_,_,Lib.run_convert_string_bytes (P:=prog) w 9 23 5 s str9 slice22 int5,⟨w.heap.size,grownCap w s.size 0 5,s.data++YD (grownCap w s.size 0 5-s.size) 0,?_,i,by rw[yDf];omega,?_,?_,?_,?_⟩,?_,Z⟩
 .rw[YM];rfl
 .rw[Zi,YN];omega
 .rw[YM];omega
 .intro j b;rw[Zi,YN]at b;have f:=Lib.bytesWorld_at_new w 5 s;have d:(xg w 5 s).size=grownCap w s.size 0 5:=by
   rw[xg,Zi,yt.size_map,YN];omega
  have g:(xg w 5 s)=(s.data++YD (grownCap w s.size 0 5-s.size) 0).map encB:=by
   rw[xg,yEy,yCW];rfl
  have c:j<(s.data++YD (grownCap w s.size 0 5-s.size) 0).size:=by rw[Zi,YN];exact b
  constructor
  .unfold pn;rw[f];simp only[Yv];rw[zi dC,g,yt.getElem?_map,Y0 c,ur,getElem!_pos _ j c]
  unfold ut;rw[f];simp only[Yv,d];simp;omega
 .intro j b;rw[YM]at b;rw[app_front _ _ j b,getElem!_pos s.data.toList j (by rw[YM];exact b),wt]
 refine⟨?_,?_,?_,?_,λk b=>Lib.bytesWorld_at_old w 5 s k b⟩
 .unfold ym yn;rw[zi dC];rfl
 .unfold ym yn;rw[zi dC];rfl
 .unfold ym yn;rw[zi dC];rfl
 rw[yDf];omega
def Holds.below'[Inhabited α]{f:α->Yq}{c:Yp}{o:I}{d:yt α}(h:yx f w b o d)(k:Below w.heap.size w c):yx f c b o d:=by
 intro j e;exact Holds.below h k (Holds.lt h S) j e
def GP:(BQ l).size=32:=by rw[BQ,aS]
end SP
namespace SP
def aR(n d:I):yv:=YK (n/d)
def dG:(n:Y)/(d:Y)%256=ub (aR n d):=by
 have k:((n:Y)/(d:Y))=((n/d:I):Y):=by rw[Y.natCast_ediv]
 rw[k];unfold ub aR;rw[yCp];omega
def oI(n:I):(n:Y)%256=ub (aR n 1):=by
 have:=dG (n:=n) (d:=1);rw[show((1:I):Y)=1 from Z,Y.ediv_one]at this;exact this
def iM(l:H yv):H yv:=[aR l.length 16777216,aR l.length 65536,aR l.length 256,aR l.length 1]++l
def jB(l:H yv):(iM l).length=l.length+4:=by
 rw[iM,Yx];simp only[Y2,Z2];omega
def mS{x y z:yv}(w:Yp)(t:yv):yx encB (w.alloc (.cells #[.int .u8 (ub x),.int .u8 (ub y),.int .u8 (ub z),.int .u8 (ub t)] 5)) w.heap.size 0 #[x,y,z,t]:=by
 have h:=Holds.new (enc:=encB) w 5 #[x,y,z,t];have e:yFJ encB #[x,y,z,t]=#[.int .u8 (ub x),.int .u8 (ub y),.int .u8 (ub z),.int .u8 (ub t)]:=by simp[encB]
 rw[e]at h;exact h
def qV(b:I)(S:Sp)(a:zb ai)(c f len cap:I)(bs:Bs)(w:Yp)(j:Ok S)(A:HSp w b S)(hl:bs.size=len)(o:len<=cap)(p:len<=1099511627776)
 (g:len=0\/(a=F ⟨c,f,G⟩/\c≠b/\yx encB w c f bs)) :
 Zl prog 188 #[.pointer (F ⟨b,0,G⟩),.slice a len cap] w λe w'=>e=.returned (.tuple #[])/\Only b 0 162 w w'/\HSp w' b (eD S (iM bs.toList)):=by
 have C:=A.lt;have b0:(len:Y)/16777216%256=ub (aR len 16777216):=dG;have b1:(len:Y)/65536%256=ub (aR len 65536):=dG;have N:(len:Y)/256%256=ub (aR len 256):=dG;have M:(len:Y)%256=ub (aR len 1):=oI len;have L:E (iM bs.toList=(#[aR len 16777216,aR len 65536,aR len 256,aR len 1]:Bs).toList++bs.toList):=by
  rw[iM,YM,hl];rfl
 have z:=mS w (x:=(aR len 16777216)) (y:=(aR len 65536)) (z:=(aR len 256)) (aR len 1);generalize aR len 16777216=s at *;generalize aR len 65536=m at *;generalize aR len 256=q at *;generalize aR len 1=i at *;have d:Below w.heap.size w (w.alloc (.cells #[.int .u8 (ub s),.int .u8 (ub m),.int .u8 (ub q),.int .u8 (ub i)] 5)):=(YH _ _).alloc (Ys _) _;have r:=A.below d C;have l:Only b 0 162 w (w.alloc (.cells #[.int .u8 (ub s),.int .u8 (ub m),.int .u8 (ub q),.int .u8 (ub i)] 5)):=Only.of_below d Z C;have k:len=0\/(a=F ⟨c,f,G⟩/\c≠b/\yx encB (w.alloc (.cells #[.int .u8 (ub s),.int .u8 (ub m),.int .u8 (ub q),.int .u8 (ub i)] 5)) c f bs):=by
  by_cases v:len=0
  .exact Y3 v
  rcases g with h|⟨h1,u,t⟩
  .exact Y3 h
  exact YZ ⟨h1,u,Holds.below t d (Holds.lt t oM)⟩
 go_enter func188,ntmps188;go_wp2_with fail
 generalize w.alloc (.cells #[.int .u8 (ub s),.int .u8 (ub m),.int .u8 (ub q),.int .u8 (ub i)] 5)=K at z d r l k⊢;apply(take_any b S (F ⟨w.heap.size,0,G⟩) w.heap.size 0 4 4 #[s,m,q,i] K j r Z (Ys _) dC (YZ ⟨Z,oM,z⟩)).mono;rintro e y ⟨rfl,n,x⟩;have g:len=0\/(a=F ⟨c,f,G⟩/\c≠b/\yx encB y c f bs):=by
  by_cases v:len=0
  .exact Y3 v
  rcases k with h|⟨h1,u,t⟩
  .exact Y3 h
  exact YZ ⟨h1,u,Holds.other t n u oM⟩
 go_wp2_with fail
 apply(take_any b _ a c f len cap bs y (fU j _) x hl o p g).mono;rintro e v ⟨rfl,u,t⟩;go_wp2
 go_end0
 refine⟨Z,(l.trans n).trans u,?_⟩;rw[L.out,fV];exact t
def Ce(s:R)(w:Yp)(hs:s.size<=1048576):
 Zl prog 170 #[.string s] w λe w'=>∃o,e=.returned (.string o)/\o.data.toList=iM s.data.toList/\Below w.heap.size w w':=by
 have b0:=dG (n:=s.size) (d:=16777216);have b1:=dG (n:=s.size) (d:=65536);have l:(s.size:Y)/256%256=ub (aR s.size 256):=dG;have i:(s.size:Y)%256=ub (aR s.size 1):=oI s.size;have g:E (iM s.data.toList=(#[aR s.size 16777216,aR s.size 65536,aR s.size 256,aR s.size 1]:Bs).toList++s.data.toList):=by
  rw[iM,YM];rfl
 have d:=mS w (x:=(aR s.size 16777216)) (y:=(aR s.size 65536)) (z:=(aR s.size 256)) (aR s.size 1);generalize aR s.size 16777216=b at *;generalize aR s.size 65536=k at *;generalize aR s.size 256=f at *;generalize aR s.size 1=c at *;have m:=conv_str prog 23 9 5 slice22 int5 str9 _ w.heap.size 0 4 4 #[b,k,f,c] d Z;have j:(s.size:Y)/16777216=ub b:=S;have c1:(s.size:Y)/65536=ub k:=S;go_enter func170,ntmps170;go_wp2;go_ret;refine⟨_,Z,?_,(YH _ _).alloc (Ys _) _⟩;rw[g.out,xu,yk]
def bL(k:H yv)(ps:H (H yv)):H yv:=iM k++ps.flatMap iM
def jE(k:H yv)(ps:H (H yv)):Bs:=BQ (bL k ps)
def dD{k:H yv}{ps:H (H yv)}:(jE k ps).size=32:=GP
def tQ(k:H yv)(ps:H (H yv))(x:H yv):bL k (ps++[x])=bL k ps++iM x:=by
 unfold bL;rw[yo,<-pk];simp
def PartOk(w:Yp)(v:Yq)(x:H yv):Prop:=
 ∃a k b cap bs,v=.slice a (yj bs) cap/\bs.toList=x/\bs.size<=cap/\bs.size<=1099511627776/\(bs.size=0\/(a=F ⟨k,b,G⟩/\yx encB w k b bs))
def PartOk.below{c:Yp}{v:Yq}{x:H yv}(h:PartOk w v x)(k:Below w.heap.size w c):PartOk c v x:=by
 let⟨a,i,j,cap,bs,h1,g,d,e,b⟩:=h
 refine⟨a,i,j,cap,bs,h1,g,d,e,?_⟩;rcases b with b|⟨b,f⟩
 .exact Y3 b
 exact YZ ⟨b,Holds.below' f k⟩
def PartsOk(w:Yp)(c:zb ai)(ps:H (H yv)):Prop:=
 ps.length=0\/∃b k,c=F ⟨b,k,G⟩/\∀j,j<ps.length->∃v,w.cell? ⟨b,k+j,G⟩=F v/\PartOk w v ps[j]!
def PartsOk.below{e:Yp}{d:zb ai}{ps:H (H yv)}(h:PartsOk w d ps)(k:Below w.heap.size w e):PartsOk e d ps:=by
 rcases h with h|⟨f,c,h1,i⟩
 .exact Y3 h
 refine YZ ⟨f,c,h1,λj l=>?_⟩;let⟨v,b,g⟩:=i j l
 exact⟨v,by rw[k.cell (p:=⟨f,c+j,G⟩) (ul _ _ b)];exact b,g.below k⟩
def CV{b:H yv}{ps:H (H yv)}:(bL b (ps.take k)).length<=(bL b ps).length:=by
 have e:bL b ps=bL b (ps.take k)++(ps.drop k).flatMap iM:=by
  unfold bL;rw[pk,<-yo,H.take_append_drop]
 rw[e,Yx];omega
def nG[Inhabited α](l:H α)(k:I)(h:k<l.length):l.take (k+1)=l.take k++[l[k]!]:=by
 rw[H.take_succ_eq_append_getElem h,getElem!_pos l k h]
def xQ(b:R)(pa:zb ai)(y:I)(ps:H (H yv))(w:Yp)(hg:b.size<=1048576)(hm:ps.length<=1048576)(hP:PartsOk w pa ps):
 Zl prog 113 #[.string b,.slice pa ps.length y] w λe w'=>∃r,e=.returned (.slice (F ⟨r,0,G⟩) 32 32)/\w.heap.size<=r/\Below w.heap.size w w'/\yx encB w' r 0 (jE b.data.toList ps):=by
 have q:=IV w 266;have O:Below w.heap.size w (w.alloc (.cells eN 266)):=(YH _ _).alloc (Ys _) _;have K:(w.alloc (.cells eN 266)).heap.size=w.heap.size+1:=by simp
 have zv:=Lq;generalize V:w.alloc (.cells eN 266)=W1 at q O K;obtain⟨v2,W2,o,c,s,h7⟩:=mT (w:=W1) (B:=0) b (aw _);rw[h7]at o c;obtain⟨X,L,x,h4⟩:=c.holds;rw[<-L]at x;clear X L;have f:yx encB W2 W1.heap.size 0 b.data:=by simpa using h4
 have he:=s.size;obtain⟨n,hn⟩:=vH ps.length;rw[hn];have T:=mk1 (hn);rw[K]at o f;generalize hj:grownCap W1 b.size 0 5=c2 at *;have hc:(convert 9 23 (.string b)).run prog (w.alloc (.cells eN 266))=.ok (.slice (F ⟨w.heap.size+1,0,G⟩) b.size c2) W2:=by rw[V];exact o
 go_enter func113,ntmps113;go_wp2_with fail
 apply(qV w.heap.size S0 (F ⟨w.heap.size+1,0,G⟩) (w.heap.size+1) 0 b.size c2 b.data W2 uD (q.below s q.lt) Z S S (YZ ⟨Z,S,f⟩)).mono;rintro e w3 ⟨rfl,h9,A⟩;have hp:=A.lt;go_wp2;go_loopg [13] n (λg s13 wr=>∃(k:I) (t:Sp),k+g=n/\s13=.int .i64 k/\HSp wr w.heap.size t/\Below w.heap.size w wr/\Ok t/\E (t=eD S0 (bL b.data.toList (ps.take k))))
 case atStart =>
  refine⟨0,_,S,Z,A,(O.trans (s.mono S)).trans (h9.below S (Ys _)),fU uD _,?_⟩;rw[qt];rw[bL,yEG,po];rfl
 case round =>
  obtain⟨k,t,hk,rfl,M,l,u,HE⟩:=hrel;by_cases hr:k<n
  .obtain⟨z,C,rfl,P⟩:∃z C,pa=F ⟨z,C,G⟩/\∀j,j<ps.length->∃v,w.cell? ⟨z,C+j,G⟩=F v/\PartOk w v ps[j]!:=by
    rcases hP with h|h
    .have:=T;omega
    .exact h
   obtain⟨v,m,h6⟩:=P k (oN T);have hi:wr.cell? ⟨z,C+k,G⟩=F v:=by rw[l.cell (p:=⟨z,C+k,G⟩) (ul _ _ m)];exact m
   obtain⟨a,Q,so,cap,bs,rfl,N,ha,h5,d⟩:=h6;have i:bs.size=0\/(a=F ⟨Q,so,G⟩/\Q≠w.heap.size/\yx encB wr Q so bs):=by
    by_cases h0:bs.size=0
    .exact Y3 h0
    .rcases d with h|⟨h1,W⟩
     .exact Y3 h
     .have:=Holds.lt W S;exact YZ ⟨h1,S,Holds.below W l this⟩
   have HB:E (bs.toList=ps[k]!):=N;have l1:(k:Y)<(n:Y):=S;generalize h8:bs.size=bz at *;clear m d P N;go_wp2_with fail
   apply(qV w.heap.size t a Q so bz cap bs wr u M h8 ha h5 i).mono;rintro e w4 ⟨rfl,W,h3⟩;go_wp2;go_roundg (gk-1)
   case measure=>omega
   case rel =>
    refine⟨k+1,_,S,by go_num,h3,l.trans (W.below l.size (Ys _)),fU u _,?_⟩;rw[nG ps k (oN T.out),tQ,fV,<-HE.out,HB.out];rfl
  .have Q:k=n:=S;have i:E (t=eD S0 (bL b.data.toList ps)):=by
    have d:ps.take k=ps:=yB1 (oN T);rw[d]at HE;exact HE
   go_wp2_with fail
   apply(I8 w.heap.size t 6 wr u M).mono;rintro e P ⟨rfl,d,N⟩;have C:yx enc P w.heap.size 0 (kN (bL b.data.toList ps) 6):=by
    have:=N.d;rw[i.out]at this;exact this
   go_wp2_with fail
   apply(vJ w.heap.size 0 32 _ _ pC C dC).mono;rintro e w6 ⟨rfl,m,z⟩;have hq:=d.size;have W:=l.size;go_wp2;go_ret;exact⟨P.heap.size,Z,S,(l.trans (d.below l.size (Ys _))).trans (m.mono S),z⟩
end SP
namespace SP
variable {B:Nat}{w w1:Yp}{v:Yq}{T:List UInt8}
set_option maxRecDepth 4000
def AX{xs:Bs}(h:Own B w v T)(O:yx encB w r 0 xs)(V:B<=w.heap.size)(W:T.length+xs.size<=1099511627776)(k:I)(hk:k=xs.size):
 ∃d w',(Zn #[23,23] 23 #[v,sZ r k c]).run prog w=.ok d w'/\Own B w' d (T++xs.toList)/\Below B w w':=by
 subst hk;obtain⟨g,cap,cur,rfl,Q,K,hs,hl,N,z⟩:=h;let⟨i,hi,hz,A,M⟩:=info_parts info5
 have d:xs.toList.length=xs.size:=YM;have f:(T++xs.toList).length=T.length+xs.size:=by rw[Yx,d]
 by_cases q:T.length+xs.size<=cap
 .have m:=oV (l:=T.length) (k:=xs.size) (n:=xs.size) (c:=c) N hs O Z Z q 23;have o:=gJ N T.length xs.toList (by rw[d];omega);rw[Yv]at o;refine⟨_,_,m,⟨g,cap,splice cur T.length xs.toList,by rw[f],Q,Yr K (below_setCells (B:=0) (b:=g) (aw _) _ _ _ (YH 0 w)).size,by rw[cO,hs],S,o,λj p=>?_⟩,?_⟩
  .rw[f]at p;rw[iD _ _ _ _ (by rw[d];omega) S,d];by_cases h1:j<T.length
   .rw[zi S,zV h1,z j h1]
   rw[zd S,rA S (by rw[d];omega)]
  exact below_setCells Q _ _ _ (YH _ _)
 have a:(Builtin.firstCells i.size T.length (sZ g T.length cap)).run prog w.drew=.ok (T.map encB).toArray w.drew:=by
  rw[A];refine run_firstCells_some w.drew 1 T.length (aZ g) T.length cap (T.map encB) (by rw[YO,ay]) (λj u p=>?_);let⟨h1,s⟩:=YF.1 p
  rw[YO]at h1;have C:=(N j S).1;rw[z j h1,getElem!_pos T j h1]at C;rw[qm]at s;have L:(⟨g,0,none⟩:ai).add j=⟨g,0+j,none⟩:=by
   unfold oB;by_cases o:j=0
   .subst o;rw[zd Z]
   rw[zi o]
  rw[L,World.cell?_drew,C,s]
 have y:(xs.toList.map encB).length=xs.size:=by rw[YO,d]
 have t:Src prog i.size 23 (sZ r xs.size c) xs.size (xs.toList.map encB) w:=by
  rw[A];refine yEL w slice22 (aZ r) xs.size c _ (by rw[y,ay]) (λj u p=>?_) (λu X=>?_)
  .let⟨h1,s⟩:=YF.1 p
   rw[y]at h1;have C:=(O j S).1;rw[getElem!_pos xs j S]at C;rw[qm,wt]at s;have L:(⟨r,0,none⟩:ai).add j=⟨r,0+j,none⟩:=by
    unfold oB;by_cases o:j=0
    .subst o;rw[zd Z]
    rw[zi o]
   rw[L,C,s]
  obtain⟨x,_,rfl⟩:=YT.1 X;rfl
 have C:yB8 (T.length+xs.size) cap<=2*(T.length+xs.size)+768:=by
  unfold yB8;split
  .omega
  split
  .omega
  simp only[Builtin.growBy];repeat' split
  all_goals omega
 have m:=run_append_grow_src (P:=prog) w 23 23 23 5 i (.int .u8 0) slice22 hi hz (F (aZ g)) T.length cap (T.map encB) a _ xs.size (xs.toList.map encB) t S S (by rw[M];omega);generalize hG:grownCap w (T.length+xs.size) cap 5=G at m;have L:T.length+xs.size<=G:=by
  rw[<-hG];unfold grownCap yEl;exact xt _ _
 have o:(T.map encB++xs.toList.map encB).toArray++Z7 (ZO .u8 0).cells (G-(T.length+xs.size))=((T++xs.toList).toArray++YD (G-(T.length+xs.size)) (0:yv)).map encB:=by
  rw[yEy,yCW,<-H.map_append]
  congr 1
  .simp
  unfold Z7;have e:(ZO .u8 0).cells=#[ZO .u8 0]:=rfl;rw[e];apply yDP
  .simp
  intro k h1 s;simp[I.mod_one];rfl
 rw[o]at m;refine⟨_,_,m,⟨w.heap.size,G,(T++xs.toList).toArray++YD (G-(T.length+xs.size)) 0,by rw[f],V,by simp,?_,S,?_,λj p=>?_⟩,?_⟩
 .rw[Zi,YN,Zq,f];omega
 .exact Holds.new (enc:=encB) w.drew 5 _
 .rw[app_front _ _ j (by simpa using p)];rw[getElem!_pos (T++xs.toList) j p];simp
 exact((YH B w).drew).alloc (by exact V) _
end SP
namespace SP
def NU{L T:Bs}(e:yx encB w b 0 L)(hl:L.size=32)(hT:yx encB w r 0 T)(l:T.size=32):
 (uk #[23,23] 3 #[sZ b 32 32,sZ r 32 32]).run prog w=.ok (goInt 32) (w.setCells b 0 (T.toList.map encB)):=by
 have k:(T.toList.map encB).length=32:=by rw[YO,YM,l]
 have:=run_copy_cells (P:=prog) w 23 23 3 5 b 0 32 32 (aZ r) 32 32 (T.toList.map encB) slice22 ints5 (by rw[k];rfl)
  (λj u c=>by
   let⟨h1,g⟩:=YF.1 c
   rw[k]at h1;have f:=(hT j S).1;rw[getElem!_pos T j S]at f;rw[qm,wt]at g;have i:(⟨r,0,G⟩:ai).add j=⟨r,0+j,G⟩:=by
    unfold oB;by_cases d:j=0
    .subst d;rw[zd Z]
    rw[zi d]
   rw[i,f,g])
  (λj c=>by rw[(e j S).1];rfl) (λj c=>(e j S).2)
  (λu d=>by obtain⟨x,_,rfl⟩:=YT.1 d;rfl)
 rw[k]at this;exact this
def CQ{L T:Bs}(c:yx encB w b 0 L)(hl:L.size=32)(e:T.size=32):yx encB (w.setCells b 0 (T.toList.map encB)) b 0 T:=by
 have k:(T.toList.map encB).length=32:=by rw[YO,YM,e]
 refine Holds.setCells c (T.toList.map encB) 0 S S (λj d=>?_) (λj h1 f=>S);rw[k]at d;rw[qm,wt,Yv,getElem!_pos T j S]
def Hx{c:Yp}{L T:Bs}(g:yx encB w b 0 L)(hl:L.size=32)(e:T.size=32)(d:b<w.heap.size)(k:Below w.drew.heap.size w.drew c):
 Only b 0 32 w (c.setCells b 0 (T.toList.map encB))/\yx encB (c.setCells b 0 (T.toList.map encB)) b 0 T:=by
 have f:(T.toList.map encB).length=32:=by rw[YO,YM,e]
 refine⟨?_,CQ (Holds.below (Holds.drew g) k d) hl e⟩;exact Only.setCells (((Only.refl b 0 32 w).drew).trans (Only.of_below k Z d)) _ 0 (Ys _) S
theorem rV(b:I)(L:Bs)(k:R)(j:zb ai)(c n:I)(ps:H (H yv))(w:Yp)(d:k.size<=1048576)(m:ps.length=n)(r:n<=1048576)(t:PartsOk w j ps)(l:yx encB w b 0 L)(hl:L.size=32):
 Zl prog 208 #[.pointer (F ⟨b,0,G⟩),.string k,.slice j n c] w λe w'=>e=.returned (.tuple #[])/\Only b 0 32 w w'/\yx encB w' b 0 (jE k.data.toList ps):=by
 subst m;have q:=Holds.lt l S;have p:=xQ k j c ps w.drew d r (t.below ((YH _ _).drew));generalize hT:jE k.data.toList ps=T at p⊢;have g:T.size=32:=by rw[<-hT,dD]
 go_enter func208,ntmps208;go_wp2;go_region_with (go_at_call 113;refine yEh (mk1 p).out ?_;rintro e v ⟨r2,rfl,s,i,o⟩;have u:=NU (Holds.below (Holds.drew l) i q) hl o g;have f:=Hx l hl g q i)
 all_goals (try go_wp2)
 all_goals go_end0
 all_goals exact⟨Z,f⟩
def An(v:Yq):Yq:=v
def uL:(kU l n).size=n:=by rw[kU,fW]
def newL(k:H yv):Bs:=jE [108,111,103] [k]
def iF(L:Bs)(k b:H yv):Bs:=jE [115,97,121] [L.toList,k,b]
def wY(L:Bs)(k:H yv)(n:I):Bs:=kU (jE [97,115,107] [L.toList,k]).toList n
def mX(L:Bs)(k:H yv):Bs:=jE [97,115,107,101,100] [L.toList,k]
def uY:(newL l).size=32:=dD
def bV{L:Bs}{t:H yv}:(iF L l t).size=32:=dD
def aW{L:Bs}:(mX L l).size=32:=dD
def Ca{L:Bs}:(wY L l n).size=n:=uL
def qJ(s:R)(w:Yp)(hs:s.size<=1099511627776):
 ∃c w',(convert 9 23 (.string s)).run prog w=.ok (.slice (F ⟨w.heap.size,0,G⟩) s.size c) w'/\s.size<=c/\yx encB w' w.heap.size 0 s.data/\PartOk w' (.slice (F ⟨w.heap.size,0,G⟩) s.size c) s.data.toList/\Below w.heap.size w w'/\w.heap.size<w'.heap.size:=by
 let⟨v2,j,e,k,m,l⟩:=mT (w:=w) (B:=0) s (aw _)
 rw[l]at e k;have o:w.heap.size<j.heap.size:=by
  let⟨g,cap,cur,h1,_,b,_⟩:=k
  injection h1 with h1
  injection h1 with h1
  injection h1 with h1
  omega
 let⟨p,i,b,n⟩:=k.holds
 rw[<-i]at b;have d:yx encB j w.heap.size 0 s.data:=by simpa using n
 have f:=b;exact⟨_,j,e,f,d,⟨_,w.heap.size,0,_,s.data,Z,Z,f,hs,YZ ⟨Z,d⟩⟩,m,o⟩
def pY(W:Yp)(vs:yt Yq)(ps:H (H yv))(t:YW)(hl:vs.size=ps.length)(h:∀j,j<ps.length->PartOk W vs[j]! ps[j]!):
 PartsOk (W.alloc (.cells vs t)) (F (aZ W.heap.size)) ps:=by
 refine YZ ⟨W.heap.size,0,Z,λj k=>⟨vs[j]!,?_,(h j k).below ((YH _ _).alloc (Ys _) _)⟩⟩;have b:vs.map An=vs:=by
  have:An=id:=rfl;rw[this,yDY]
 have:=(Holds.new (enc:=An) W t vs j S).1;rw[b]at this;exact this
def zA{L:Bs}(k:yx encB w b 0 L)(hl:L.size=32):PartOk w (sZ b 32 32) L.toList:=
 ⟨_,b,0,32,L,by rw[hl],Z,S,S,YZ ⟨Z,k⟩⟩
def OO:∀w:Yp,(zeroValue 286).run prog w=.ok (.agg (YD 32 (.int .u8 0))) w:=λ_=>kR
def Ib(k:R)(w:Yp)(t:k.size<=1048576):
 Zl prog 231 #[.string k] w λe w'=>e=.returned (.pointer (F ⟨w.heap.size,0,G⟩))/\Below w.heap.size w w'/\yx encB w' w.heap.size 0 (newL k.data.toList):=by
 have y:=OO;have p:yx encB (w.alloc (.cells (YD 32 (.int .u8 0)) 286)) w.heap.size 0 (YD 32 0):=by
  have:=Holds.new (enc:=encB) w 286 (YD 32 0);rw[yCW]at this;exact this
 have s:(w.alloc (.cells (YD 32 (.int .u8 0)) 286)).heap.size=w.heap.size+1:=by simp
 let⟨c,f,n,z,u,r,g,m⟩:=qJ k (w.alloc (.cells (YD 32 (.int .u8 0)) 286)) S
 have l:=pY f #[.slice (F ⟨(w.alloc (.cells (YD 32 (.int .u8 0)) 286)).heap.size,0,G⟩) k.size c] [k.data.toList] 23 Z (λj v=>by
  have b:j=0:=by simpa using v
  subst b;exact r)
 have d:Below f.heap.size f (f.alloc (.cells #[.slice (F ⟨(w.alloc (.cells (YD 32 (.int .u8 0)) 286)).heap.size,0,G⟩) k.size c] 23)):=(YH _ _).alloc (Ys _) _;have b:=Holds.below' (Holds.below' p g) d;rw[s]at n l d b m;have i:=(((YH _ _).alloc (Ys _) _).trans (g.mono S)).trans (d.mono S);go_enter func231,ntmps231;go_wp2_with fail
 apply(rV w.heap.size (YD 32 0) ⟨#[108,111,103]⟩ (F ⟨f.heap.size,0,G⟩) 1 1 [k.data.toList] _ dC Z dC l b (by simp)).mono;rintro e x ⟨rfl,o,q⟩;go_wp2;go_ret;exact⟨Z,i.trans (o.below i.size (Ys _)),q⟩
def Dl(b:I)(L:Bs)(k:R)(q:zb ai)(p i:I)(d:H yv)(w:Yp)(r:k.size<=1048576)(t:yx encB w b 0 L)(hl:L.size=32)(hT:PartOk w (.slice q p i) d):
 cZ 145 #[jZ b,.string k,.slice q p i] w λe w'=>e=.returned (.tuple #[])/\Only b 0 32 w w'/\yx encB w' b 0 (iF L k.data.toList d):=by
 have v:=Holds.lt t S;let⟨c,s,x,A,y,o,f,u⟩:=qJ k w S
 have g:=Holds.below t f v;have l:=pY s #[sZ b 32 32,sZ w.heap.size k.size c,.slice q p i] [L.toList,k.data.toList,d] 23 Z (λj z=>by
  match j,z with
  | 0,_=>exact zA g hl
  | 1,_=>exact o
  | 2,_=>exact(hT.below f))
 go_enter func145,ntmps145;go_wp2_with fail
 apply(rV b L ⟨#[115,97,121]⟩ (F (aZ s.heap.size)) 3 3 [L.toList,k.data.toList,d] _ dC Z dC l (Holds.below' g ((YH _ _).alloc (Ys _) _)) hl).mono;rintro e a ⟨rfl,m,n⟩;go_wp2
 go_end0
 exact⟨Z,((Only.of_below f Z v).alloc S _).trans m,n⟩
def QY(b:I)(L:Bs)(k:R)(n:I)(w:Yp)(ha:k.size<=1048576)(hn:n<=1024)(hL:yx encB w b 0 L)(hl:L.size=32):
 Zl prog 242 #[.pointer (F ⟨b,0,G⟩),.string k,.int .i64 n] w λe w'=>∃r,e=.returned (.tuple #[.slice (F ⟨r,0,G⟩) n n,.int .i64 0])/\w.heap.size<=r/\Only b 0 32 w w'/\yx encB w' b 0 (mX L k.data.toList)/\yx encB w' r 0 (wY L k.data.toList n):=by
 have hb:=Holds.lt hL S;let⟨c,i,hk,hc,W,C,p,hg⟩:=qJ k w S
 have d:=Holds.below hL p hb;have x:=pY i #[.slice (F ⟨b,0,G⟩) 32 32,.slice (F ⟨w.heap.size,0,G⟩) k.size c] [L.toList,k.data.toList] 23 Z (λj A=>by
  have g:j<2:=A;match j,g with
  | 0,_=>exact zA d hl
  | 1,_=>exact C)
 have z:Below i.heap.size i (i.alloc (.cells #[.slice (F ⟨b,0,G⟩) 32 32,.slice (F ⟨w.heap.size,0,G⟩) k.size c] 23)):=(YH _ _).alloc (Ys _) _;have a:=Holds.below' d z;have t:Only b 0 32 w (i.alloc (.cells #[.slice (F ⟨b,0,G⟩) 32 32,.slice (F ⟨w.heap.size,0,G⟩) k.size c] 23)):=(Only.of_below p Z hb).alloc S _;have d0:decide ((n:Y)<0)=D:=decide_eq_false S;have d1:¬(1024:Y)<(n:Y):=S;clear W C z;go_enter func242,ntmps242;go_wp2_with fail
 refine(xQ ⟨#[97,115,107]⟩ (F ⟨i.heap.size,0,G⟩) 2 [L.toList,k.data.toList] _ dC (by show 2<=1048576;omega) x).mono ?_;rintro e w3 ⟨r3,rfl,hm,u,h4⟩;have h6:=Holds.below' a u;have M:=t.trans (Only.of_below u Z (Yr hb t.size));clear x a d;go_wp2_with fail
 apply(A0 (F ⟨r3,0,G⟩) r3 0 32 32 n _ _ S dD S S (YZ ⟨Z,h4⟩)).mono;rintro e m ⟨N,rfl,hu,s,h0⟩;have P:=Holds.below' h6 s;have hp:=M.size;have y:=M.trans (Only.of_below s Z S);have h9:yx encB m N 0 (wY L k.data.toList n):=h0;have hr:=y.size;let⟨T,l,hi,ht,hq,h7,f,he⟩:=qJ k m S
 have q:=Holds.below' P f;have h5:=Holds.below' h9 f;have v:=pY l #[.slice (F ⟨b,0,G⟩) 32 32,.slice (F ⟨m.heap.size,0,G⟩) k.size T] [L.toList,k.data.toList] 23 Z (λj A=>by
  have g:j<2:=A;match j,g with
  | 0,_=>exact zA q hl
  | 1,_=>exact h7)
 have K:Below l.heap.size l (l.alloc (.cells #[.slice (F ⟨b,0,G⟩) 32 32,.slice (F ⟨m.heap.size,0,G⟩) k.size T] 23)):=(YH _ _).alloc (Ys _) _;have Q:=Holds.below' q K;have O:=Holds.below' h5 K;have V:Only b 0 32 w (l.alloc (.cells #[.slice (F ⟨b,0,G⟩) 32 32,.slice (F ⟨m.heap.size,0,G⟩) k.size T] 23)):=y.trans ((Only.of_below f Z S).alloc S _);go_wp2_with fail
 apply(rV b L ⟨#[97,115,107,101,100]⟩ (F ⟨l.heap.size,0,G⟩) 2 2 [L.toList,k.data.toList] _ dC Z dC v Q hl).mono;rintro e w7 ⟨rfl,g,X⟩;have h8:yx encB w7 N 0 (wY L k.data.toList n):=by
  intro j A;have h1:=O j A;have h2:=ul _ _ h1.1;have h3:=g.other (c:=N) (o:=0+j) S h2;rw[h3.1,h3.2];exact h1
 go_wp2
 go_ret2
 exact⟨N,Z,S,V.trans g,X,h8⟩
end SP
section
structure FiL(s:I)(w W:Yp)(K n i:I)(C:I->H Yq):Prop where
 bl:kZ w W
 kl:w.heap.size<=K
 lt:K<W.heap.size
 th:W.there K 0 (s*n)
 at_:∀j,j<i->W.rangeAt K (s*j) (C j)
section
variable {s:Nat}{w W W':Yp}{K n i:Nat}{C:Nat->List Yq}{C0:List Yq}{T:YW}
def FiL.new(k:Hid (w.heap.size=K))(b:Hid (w.alloc (.cells C0.toArray T)=W))(hl:C0.length=s*n):FiL s w W K n 0 C:=by
 have h:=(aK k b).out;exact⟨h.1,k.out▸Ys _,h.2.1,hl ▸ h.2.2.2,λj c=>absurd c (p9 _)⟩
def FiL.grow(h:FiL s w W K n i C)(b:kZ W W'):FiL s w W' K n i C:=by
 have e:=b.block K h.lt;refine⟨h.bl.trans (b.mono h.bl.size),h.kl,Yr h.lt b.size,λj k=>?_,λj k r u c=>?_⟩
 .have:=h.th j k;unfold pn ut at this⊢;rw[e];exact this
 exact(Y1 e).trans (h.at_ j k r u c)
def FiL.put(h:FiL s w W K n i C)(c:i<n)(hl:(C i).length=s)(hs:∀j,j<i->(C j).length=s)(e:Hid (W.setCells K (s*i) (C i)=W')):W.there K (s*i) (C i).length/\FiL s w W' K n (i+1) C:=by
 have th:W.there K (s*i) (C i).length:=λj d=>by
  have b:s*(i+1)<=s*n:=xv s c;have:=h.th (s*i+j) (by rw[ty]at b;omega);rw[Yv]at this;exact this
 rw[<-e.out];refine⟨th,RG.below_setCells h.kl _ _ _ h.bl,h.kl,by rw[setCells_size];exact h.lt,World.there_setCells h.th _ _ _,λj d=>?_⟩;by_cases k:j<i
 .have b:s*(j+1)<=s*i:=xv s k;exact World.rangeAt_setCells_apart (h.at_ j k) _ _ _ (YZ (Y3 (by rw[hs j k];rw[ty]at b;exact b)))
 obtain rfl:j=i:=S;exact World.rangeAt_setCells_same _ _ _ _ th
end
end
section
def WV(b:i<n):(ZW 24 (sZ g n c) (iZ i)).run prog w=.ok (oZ g i) w:=by
 have h1:¬(i:Y)<0:=S;have k:(i:Y)<(n:Y):=S;go_simp
def Ye(b:i<n):(ZW 100 (sZ g n n) (iZ i)).run prog w=.ok (oZ g (8*i)) w:=by
 have h1:¬(i:Y)<0:=S;have k:(i:Y)<(n:Y):=S;go_simp
def Yd(b:i<n):(ZW 89 (sZ g n n) (iZ i)).run prog w=.ok (oZ g (4*i)) w:=by
 have h1:¬(i:Y)<0:=S;have k:(i:Y)<(n:Y):=S;go_simp
def uBb:wZ 23:=wQ
def uGp:yZ 93:=yQ
def iGp:gZ 93 8:=gQ
def uNb:yZ 47:=yQ
def iNb:gZ 47 4:=gQ
variable {P:Nat}[NeZero P]
def ArgsPts(w:Yp)(q:zb ai)(n:I)(L:I->Bs):Prop:=0<n->∃k,q=F (aZ k)/\k<w.heap.size/\∀j,j<n->∃v,w.cell? ⟨k,j,G⟩=F v/\Arg33 w v (L j)
def Yh(P:I)[NeZero P](w:Yp)(n:I)(L:I->Bs)(e:Yq)(w':Yp):Prop:=
 (∃k,w.heap.size<=k/\k<w'.heap.size/\e=.tuple #[sZ k n n,iZ 0]/\∀j,j<n->∃p,rd P (L j)=F p/\w'.rangeAt k (8*j) (ws p.1++ws p.2)) \/
 ((∃j,j<n/\rd P (L j)=G)/\e=.tuple #[nZ,iZ 4])
def Xa(CF:At P)(n cap:I)(hn:n<=512)(q:zb ai)(L:I->Bs)(w:Yp)(hA:ArgsPts w q n L):Zl prog 206 #[.slice q n cap] w (rZ w λe w'=>Yh P w n L e w'):=by
 obtain⟨C0,A,u⟩:=V8 (N:=n) hn;refine hG w.heap.size λK T=>?_
 refine hG (w.alloc (.cells C0.toArray 93)) λw1 o=>?_
 have mk:=u w;rw[T.out,o.out]at mk;obtain⟨M,hC⟩:=hE (λj=>match rd P (L j) with|some p=>ws p.1++ws p.2|none=>[]);have m:E (∀j p,rd P (L j)=some p->M j=ws p.1++ws p.2):=λj p h=>by rw[<-hC.out];show(match rd P (L j) with|some p=>ws p.1++ws p.2|none=>[])=_;rw[h]
 have F0:=mk1 (FiL.new (C:=M) T o A);have HA:=mk1 hA;clear u hC hA A T o;go_enter func206,ntmps206;refine PW.rg [.slice G 0 0,iZ 0] ?_;refine PW.bg [iZ n] ?_;refine PW.ns mk ?_;refine PW.en [sZ K n n] ?_;refine Yt<|PW.rg [iZ n,iZ 0] ?_
 apply ZR;go_loopg [14] n (λgk s14 wr=>∃i:I,i+gk=n/\s14=iZ i/\E (FiL 8 w wr K n i M/\∀j,j<i->∃p,rd P (L j)=some p))
 case atStart=>exact⟨0,S,Z,F0,λj l=>absurd l (p9 _)⟩
 case round =>
  clear F0;obtain⟨i,h0,rfl,F⟩:=hrel;refine PW.rg [.bool (decide ((i:Y)<(n:Y)))] ?_;by_cases a:i<n
  .have f:(i:Y)<(n:Y):=S;rw[decide_eq_true f];have X:YQ.wrap ((i:Y)+1)=((i+1:I):Y):=by rw[Zy];omega
   obtain⟨g,rfl,hg,hc⟩:=HA S;obtain⟨v,hv,t⟩:=hc i a;have z:=(F.1.bl.cell (p:=⟨g,i,G⟩) hg).trans hv;obtain⟨q1,n1,c1,rfl,-⟩:=id t;refine Yt<|Y5 rfl<|ZK<|Yt<|ZR<|PW.bg [] ?_
   refine PW.ns (WV (g:=g) (n:=n) (c:=cap) (i:=i) a (w:=wr)) ?_;refine PW.ce z uBb ?_;refine PW.en [iZ i,.slice q1 n1 c1] ?_;clear z hc;refine PW.bg [] ?_;refine PW.gi (D5 CF (bs:=(L i)) (w:=wr) (t.below F.1.bl)) λs hb=>?_
   have r:=mk2 (F.1.grow hb) F.2;cases Q:rd P (L i) with
   | none =>
    obtain⟨vz,k⟩:=hE (Y8 (ws (0:B P)++ws (0:B P)).toArray);refine hG s.heap.size λV d=>?_
    refine hG (s.alloc (.cells (wn 0++wn 0).toArray 93)) λw3 b=>?_
    refine hG (w3.setCells V 0 (ws (0:B P)++ws (0:B P))) λO c=>?_
    have y:=mk1 ((Mp.start s).new d b);have N:=mk1 (y.put 0 c);refine PW.go [.agg (ws (0:B P)++ws (0:B P)).toArray,.bool D] ?_;rw[k.out];refine PW.al d b ?_;refine PW.st c k (y.th 0) iGp kR ?_;refine PW.en [.bool D] ?_;refine Yt<|PW.rg [.bool J] ?_
    refine Y5 rfl<|PW.rg [.slice G 0 0,iZ 4] ?_
    refine Zr<|YB (mF 2 3 Z Z Z) Z ?_
    exact⟨_,Z,r.1.bl.trans (N.bl.mono r.1.bl.size),YZ ⟨⟨i,a,Q⟩,Z⟩⟩
   | some p =>
    have W:=m i p Q;obtain⟨vz,k⟩:=hE (Y8 (ws p.1++ws p.2).toArray);refine hG s.heap.size λV d=>?_
    refine hG (s.alloc (.cells (wn 0++wn 0).toArray 93)) λw3 b=>?_
    refine hG (w3.setCells V 0 (ws p.1++ws p.2)) λO c=>?_
    refine hG (O.setCells K (8*i) (ws p.1++ws p.2)) λw5 x=>?_
    have y:=mk1 ((Mp.start s).new d b);have N:=mk1 (y.put 0 c);have F4:=r.1.grow N.bl;obtain⟨th,F5⟩:=F4.put a (by rw[W];rfl) (λj l=>by obtain⟨p,h⟩:=r.2 j l;rw[m.out j p h];rfl) (W':=w5) (by rw[W];exact x);rw[W]at th;have FF:E (FiL 8 w w5 K n (i+1) M/\∀j,j<i+1->∃p,rd P (L j)=some p):=⟨F5,λj l=>by
     by_cases h:j<i
     .exact r.2 j h
     .obtain rfl:j=i:=S;exact⟨p,Q⟩⟩
    clear F5 F4 F r;refine PW.go [.agg (ws p.1++ws p.2).toArray,.bool J] ?_;rw[k.out];refine PW.al d b ?_;refine PW.st c k (y.th 0) iGp kR ?_;refine PW.en [.bool J] ?_;refine Yt<|PW.rg [.bool D] ?_
    refine YY rfl<|ZK<|PW.bb [] ?_
    refine PW.ro (N.at_ 0).2.1 k uGp iGp ?_;refine PW.ns (Ye (g:=K) (n:=n) (i:=i) a (w:=O)) ?_;refine PW.st x k th iGp kR ?_;refine PW.dn ?_;refine PW.bb [iZ (YQ.wrap ((i:Y)+1))] ?_;rw[X];go_wp2;go_roundg (gk-1)
    case measure=>omega
    case rel=>exact⟨i+1,S,Z,FF⟩
  .have f:¬(i:Y)<(n:Y):=S;obtain rfl:i=n:=S;rw[decide_eq_false f];refine Yt<|YY rfl<|wp_exit<|PW.rg (P:=prog) [sZ K i i,iZ 0] ?_
   refine Zr<|YB (mF 2 3 Z Z Z) Z ?_
   refine⟨_,Z,F.1.bl,Y3 ⟨K,F.1.kl,F.1.lt,Z,λj l=>?_⟩⟩;obtain⟨p,k⟩:=F.2 j l;refine⟨p,k,?_⟩;have:=F.1.at_ j l;rw[m.out j p k]at this;exact this
def xT(w:Yp)(q:zb ai)(n:I)(L:I->Bs):Prop:=0<n->∃k,q=F (aZ k)/\k<w.heap.size/\∀j,j<n->∃v,w.cell? ⟨k,j,G⟩=F v/\Arg w v (L j)
def Yg(N:I)(w:Yp)(n:I)(L:I->Bs)(e:Yq)(w':Yp):Prop:=
 (∃k,w.heap.size<=k/\k<w'.heap.size/\e=.tuple #[sZ k n n,iZ 0]/\∀j,j<n->∃p,rq N (L j)=F p/\w'.rangeAt k (4*j) (wn p)) \/
 ((∃j,j<n/\rq N (L j)=G)/\e=.tuple #[nZ,iZ 3])
def Sq(h0:Gap 4624529908474429119 4994812053365940164 1 N)(n cap:I)(hn:n<=512)(q:zb ai)(L:I->Bs)(w:Yp)(hA:xT w q n L):Zl prog 47 #[.slice q n cap] w (rZ w λe w'=>Yg N w n L e w'):=by
 obtain⟨C0,A,u⟩:=XJ (N:=n) hn;refine hG w.heap.size λK V=>?_
 refine hG (w.alloc (.cells C0.toArray 47)) λw1 o=>?_
 have mk:=u w;rw[V.out,o.out]at mk;obtain⟨M,hC⟩:=hE (λj=>match rq N (L j) with|some p=>wn p|none=>[]);have m:E (∀j p,rq N (L j)=some p->M j=wn p):=λj p h=>by rw[<-hC.out];show(match rq N (L j) with|some p=>wn p|none=>[])=_;rw[h]
 have F0:=mk1 (FiL.new (C:=M) V o A);have HA:=mk1 hA;clear u hC hA A V o;go_enter func47,ntmps47;refine PW.rg [.slice G 0 0,iZ 0] ?_;refine PW.bg [iZ n] ?_;refine PW.ns mk ?_;refine PW.en [sZ K n n] ?_;refine Yt<|PW.rg [iZ n,iZ 0] ?_
 apply ZR;go_loopg [14] n (λgk s14 wr=>∃i:I,i+gk=n/\s14=iZ i/\E (FiL 4 w wr K n i M/\∀j,j<i->∃p,rq N (L j)=some p))
 case atStart=>exact⟨0,S,Z,F0,λj l=>absurd l (p9 _)⟩
 case round =>
  clear F0;obtain⟨i,h3,rfl,F⟩:=hrel;refine PW.rg [.bool (decide ((i:Y)<(n:Y)))] ?_;by_cases a:i<n
  .have f:(i:Y)<(n:Y):=S;rw[decide_eq_true f];have h2:YQ.wrap ((i:Y)+1)=((i+1:I):Y):=by rw[Zy];omega
   obtain⟨g,rfl,hg,hc⟩:=HA S;obtain⟨v,hv,t⟩:=hc i a;have z:=(F.1.bl.cell (p:=⟨g,i,G⟩) hg).trans hv;have HR:=λ(W:Yp) (hb:kZ wr W)=>Ir h0 (bs:=(L i)) (w:=W) ((t.below F.1.bl).below hb)
   obtain⟨q1,n1,c1,rfl,-⟩:=id t;refine Yt<|Y5 rfl<|ZK<|Yt<|ZR<|PW.bg [] ?_
   refine PW.ns (WV (g:=g) (n:=n) (c:=cap) (i:=i) a (w:=wr)) ?_;refine PW.ce z uBb ?_;refine PW.en [iZ i,.slice q1 n1 c1] ?_;clear z hc;refine PW.bg [] ?_;refine PW.gi ((mk1 iQ).out wr) λwa ha=>?_
   refine PW.go [] ?_;refine PW.gi (HR wa ha) λs hb=>?_
   have r:=mk2 ((F.1.grow ha).grow hb) F.2;cases T:rq N (L i) with
   | none =>
    obtain⟨vz,k⟩:=hE (Y8 (wn 0).toArray);refine hG s.heap.size λX d=>?_
    refine hG (s.alloc (.cells (wn 0).toArray 47)) λw3 b=>?_
    refine hG (w3.setCells X 0 (wn 0)) λQ c=>?_
    have y:=mk1 ((Mp.start s).new d b);have O:=mk1 (y.put 0 c);refine PW.go [.agg (wn 0).toArray,.bool D] ?_;rw[k.out];refine PW.al d b ?_;refine PW.st c k (y.th 0) iNb kR ?_;refine PW.en [.bool D] ?_;refine Yt<|PW.rg [.bool J] ?_
    refine Y5 rfl<|PW.rg [.slice G 0 0,iZ 3] ?_
    refine Zr<|YB (mF 2 3 Z Z Z) Z ?_
    exact⟨_,Z,r.1.bl.trans (O.bl.mono r.1.bl.size),YZ ⟨⟨i,a,T⟩,Z⟩⟩
   | some p =>
    have eC:=m i p T;obtain⟨vz,k⟩:=hE (Y8 (wn p).toArray);refine hG s.heap.size λX d=>?_
    refine hG (s.alloc (.cells (wn 0).toArray 47)) λw3 b=>?_
    refine hG (w3.setCells X 0 (wn p)) λQ c=>?_
    refine hG (Q.setCells K (4*i) (wn p)) λw5 x=>?_
    have y:=mk1 ((Mp.start s).new d b);have O:=mk1 (y.put 0 c);have F4:=r.1.grow O.bl;obtain⟨th,F5⟩:=F4.put a (by rw[eC];rfl) (λj l=>by obtain⟨p,h⟩:=r.2 j l;rw[m.out j p h];rfl) (W':=w5) (by rw[eC];exact x);rw[eC]at th;have FF:E (FiL 4 w w5 K n (i+1) M/\∀j,j<i+1->∃p,rq N (L j)=some p):=⟨F5,λj l=>by
     by_cases h:j<i
     .exact r.2 j h
     .obtain rfl:j=i:=S;exact⟨p,T⟩⟩
    clear F5 F4 F r;refine PW.go [.agg (wn p).toArray,.bool J] ?_;rw[k.out];refine PW.al d b ?_;refine PW.st c k (y.th 0) iNb kR ?_;refine PW.en [.bool J] ?_;refine Yt<|PW.rg [.bool D] ?_
    refine YY rfl<|ZK<|PW.bb [] ?_
    refine PW.ro (O.at_ 0).2.1 k uNb iNb ?_;refine PW.ns (Yd (g:=K) (n:=n) (i:=i) a (w:=Q)) ?_;refine PW.st x k th iNb kR ?_;refine PW.dn ?_;refine PW.bb [iZ (YQ.wrap ((i:Y)+1))] ?_;rw[h2];go_wp2;go_roundg (gk-1)
    case measure=>omega
    case rel=>exact⟨i+1,S,Z,FF⟩
  .have f:¬(i:Y)<(n:Y):=S;obtain rfl:i=n:=S;rw[decide_eq_false f];refine Yt<|YY rfl<|wp_exit<|PW.rg (P:=prog) [sZ K i i,iZ 0] ?_
   refine Zr<|YB (mF 2 3 Z Z Z) Z ?_
   refine⟨_,Z,F.1.bl,Y3 ⟨K,F.1.kl,F.1.lt,Z,λj l=>?_⟩⟩;obtain⟨p,k⟩:=F.2 j l;refine⟨p,k,?_⟩;have:=F.1.at_ j l;rw[m.out j p k]at this;exact this
end
def OI(c:Y)(e:Yq):Prop:=e=.tuple #[nZ,iZ c]
def Ll(w:Yp)(T:Bs)(e:Yq)(w':Yp):Prop:=∃g cap,e=.tuple #[sZ g 33 cap,iZ 0]/\33<=cap/\w.heap.size<=g/\g<w'.heap.size/\hZ w' g 0 T
def ptP(s:T3 P):B P × B P:=(s.1*(inv s.2.2*inv s.2.2),s.2.1*(inv s.2.2*inv s.2.2)*inv s.2.2)
def cell_below{c:Yp}{v:Yq}(h:w.cell? ⟨k,j,G⟩=F v)(e:kZ w c)(d:k<w.heap.size):c.cell? ⟨k,j,G⟩=F v:=by
 have h1:w.rangeAt k j [v]:=λi u b=>by
  cases i with
  | zero =>
   obtain rfl:v=u:=YR.inj b;exact h
  | succ i=>exact absurd b (by simp)
 exact RG.range_below h1 e d 0 v Z
def ArgsPts.below{c:Yp}{L:I->Bs}(h:ArgsPts w q n L)(b:kZ w c):ArgsPts c q n L:=λf=>by
 let⟨i,l,k,e⟩:=h f
 refine⟨i,l,Yr k b.size,λj g=>?_⟩;let⟨v,hv,d⟩:=e j g
 exact⟨v,cell_below hv b k,d.below b⟩
def SumR(P:I)[NeZero P](N:I)(w:Yp)(n a:I)(L M:I->Bs)(e:Yq)(w':Yp):Prop:=
 (n≠a/\OI 2 e)\/(n=a/\512<n/\OI 1 e)\/(n=a/\n<=512/\(((∃j,j<n/\rq N (L j)=G)/\OI 3 e) \/
  ∃ns:I->I,(∀j,j<n->rq N (L j)=F (ns j))/\(((∃j,j<n/\rd P (M j)=G)/\OI 4 e) \/
   ∃xs ys:I->B P,(∀j,j<n->rd P (M j)=F (xs j,ys j))/\Ll w (vQ (ptP (jO ns xs ys n 257)).1 (ptP (jO ns xs ys n 257)).2) e w')))
def Ax[Inhabited A](h:∀j,j<n->∃a,p j a):∃f:I->A,∀j,j<n->p j (f j):=
 ⟨λj=>if k:j<n then(h j k).choose else default,λj k=>by
  show p j (if k:j<n then(h j k).choose else default);rw[dif_pos k];exact(h j k).choose_spec⟩
def yM(k:N<=top){bs:Bs}(h:rq N bs=F m):m<top:=by
 unfold rq at h;split at h
 .rename_i h1
  obtain rfl:beV bs.toList=m:=YR.inj h;exact Yr h1.2 k
 exact absurd h (by simp)
def Uw(C:At P)(hG:Gap 4624529908474429119 4994812053365940164 1 N)(hN:N<=top)(q q':zb ai)(n cap a o:I)(L M:I->Bs)(w:Yp)(hL:xT w q n L)(hM:ArgsPts w q' a M):
 dZ 143 #[.slice q n cap,.slice q' a o] w λe w'=>SumR P N w n a L M e w':=by
 by_cases V:n=a
 .subst V;by_cases Q:512<n
  .go_enter func143,ntmps143;go_wp2
   go_ret2
   exact⟨_,Z,YH _ _,YZ (Y3 ⟨Z,Q,Z⟩)⟩
  have x:n<=512:=S;go_enter func143,ntmps143;go_wp2_with fail
  apply(Sq hG n cap x q L w (mk1 hL).out).mono;rintro e w1 ⟨v,rfl,K,⟨k,h3,r,rfl,b⟩|⟨p,rfl⟩⟩
  .let⟨ns,O⟩:=Ax b
   have t:=mk1 (K);have HS:E (k<w1.heap.size/\∀j,j<n->w1.rangeAt k (4*j) (wn (ns j))):=⟨r,λj f=>(O j f).2⟩
   have HN:E (∀j,j<n->rq N (L j)=F (ns j)):=λj f=>(O j f).1
   go_wp2_with fail
   apply(Xa C n o x q' M w1 ((mk1 hM).below t)).mono;rintro e l ⟨v,rfl,d,⟨X,h3,r,rfl,b⟩|⟨p,rfl⟩⟩
   .let⟨ps,A⟩:=Ax b
    have c:=mk1 (t.trans (d.mono t.size));have W:E (k<l.heap.size/\∀j,j<n->l.rangeAt k (4*j) (wn (ns j))):=⟨Yr HS.1 d.size,λj f=>RG.range_below (HS.2 j f) d HS.1⟩
    have HP:E (X<l.heap.size/\∀j,j<n->l.rangeAt X (8*j) (ws (ps j).1++ws (ps j).2)):=⟨r,λj f=>(A j f).2⟩
    have h7:E (∀j,j<n->rd P (M j)=F ((ps j).1,(ps j).2)):=λj f=>(A j f).1
    have T:∀w,dZ 52 #[pv (ptP (jO ns (λj=>(ps j).1) (λj=>(ps j).2) n 257)).1 (ptP (jO ns (λj=>(ps j).1) (λj=>(ps j).2) n 257)).2] w λe w'=>mY w (vQ (ptP (jO ns (λj=>(ps j).1) (λj=>(ps j).2) n 257)).1 (ptP (jO ns (λj=>(ps j).1) (λj=>(ps j).2) n 257)).2) e w':=xN C
    have hS:eZ 48 #[sZ k n n,sZ X n n] l (pv (ptP (jO ns (λj=>(ps j).1) (λj=>(ps j).2) n 257)).1 (ptP (jO ns (λj=>(ps j).1) (λj=>(ps j).2) n 257)).2):=by
     apply(LK C n x ns (λj=>(ps j).1) (λj=>(ps j).2) (λi u=>yM hN (HN i u)) k X l W.1 HP.1 W.2 HP.2).mono;rintro e w' ⟨v,rfl,m,s,rfl,rfl⟩;exact⟨_,Z,m,Z⟩
    generalize hz:ptP (jO ns (λj=>(ps j).1) (λj=>(ps j).2) n 257)=z at hS T;have HZ:E (ptP (jO ns (λj=>(ps j).1) (λj=>(ps j).2) n 257)=z):=hz;go_wp2_with fail
    refine hS.mono ?_;rintro e w3 ⟨v,rfl,h5,rfl⟩;have u:=mk1 (c.trans (h5.mono c.size));go_wp2_with fail
    apply(T _).mono;rintro e w4 ⟨v,rfl,h4,g,m,rfl,h2,h0,y,h6⟩;have HO:E (Ll w (vQ z.1 z.2) (.tuple #[sZ g 33 m,iZ 0]) w4):=⟨g,m,Z,h2,YA u.size h0,y,h6⟩
    go_wp2
    go_ret2
    refine⟨_,Z,(mk1 (u.trans (h4.mono u.size))).out,YZ (YZ ⟨Z,x,YZ ⟨ns,HN,YZ ⟨_,_,h7,?_⟩⟩⟩)⟩;rw[HZ.out];exact HO
   have c:=mk1 (t.trans (d.mono t.size));have HO:=mk1 (p);go_wp2
   go_ret2
   exact⟨_,Z,c,YZ (YZ ⟨Z,x,YZ ⟨ns,HN,Y3 ⟨HO,Z⟩⟩⟩)⟩
  have t:=mk1 (K);go_wp2
  go_ret2
  exact⟨_,Z,t,YZ (YZ ⟨Z,x,Y3 ⟨(mk1 p).out,Z⟩⟩)⟩
 go_enter func143,ntmps143;go_wp2
 go_ret2
 exact⟨_,Z,YH _ _,Y3 ⟨V,Z⟩⟩
def Jz:Bs:=YD 33 0
def SR(r d:I):d*d%(r+d)=r*r%(r+d):=by
 have h:d*d+(r+d)*r=r*r+(r+d)*d:=by
  rw[ph,ph,Ze d r];omega
 have h1:=congrArg (· % (r+d)) h;simp only[I.add_mul_mod_self_left]at h1;exact h1
def Ri{m y:B P}(h:rt m=F y):y*y=m:=by
 have k:=Me h;unfold rt at h;rw[zd k]at h;obtain rfl:=YR.inj h;have d:=xe P;have b:m.val^(P/4+1)%P<P:=ZL _ d;generalize m.val^(P/4+1)%P=r at k b;apply pw;rw[qy];show(even P r%P)*(even P r%P)%P=m.val;rw[YL (I5 d b),<-k];unfold even;split
 .have c:=SR r (P-r);rw[show r+(P-r)=P by omega]at c;exact c
 rfl
def Fo{bs:Bs}(hs:bs.size=33):vU bs↔bs=Jz:=by
 constructor
 .intro h;apply yDP
  .rw[hs];rfl
  intro i h1 c;have:=h i (Z6.2 S);rw[getElem!_pos bs i h1]at this;have k:bs[i].toNat=0:=by
   have b:ub bs[i]=(bs[i].toNat:Y):=rfl;rw[b]at this;omega
  have b:(Jz)[i]=0:=by
   exact Z3 _
  rw[b];exact yv.toNat_inj.1 k
 rintro rfl i k;have k:=Z6.1 k;rw[Jz,getElem!_pos _ i (by rw[YN];exact k),Z3];rfl
def MQ{x y:B P}(h:y*y=x*x*x+7):On (.some (x,y):EC.Pt P):=by
 show y^2=x^3+7
 grobner
def TT{x y:B P}(h:y*y=x*x*x+7):On (.some (x,0-y):EC.Pt P):=by
 show(0-y)^2=x^3+7
 grobner
def wr:EC.Pt P->Bs
 | none=>Jz
 | some (x,y)=>#[mark y.val]++bx x.val
def xO(C:At P){x y:B P}{p:EC.Pt P}(h:Pair x y p)(ho:On p):vQ x y=wr p:=by
 unfold vQ;match p,h,ho with
 | none,h,_=>rw[zd (show x=0/\y=0 from h)];rfl
 | some (a,b),h,ho =>
  obtain⟨rfl,rfl⟩:=h;rw[zi (λe=>C.cur.y_ne ho e.2)];rfl
def pt(p:B P × B P):EC.Pt P:=if p.1=0/\p.2=0 then G else F p
def PT(C:At P){x y:B P}{q:EC.Pt P}(h:Pair x y q)(ho:On q):q=pt (x,y):=by
 unfold pt;match q,h,ho with
 | none,h,_=>rw[zd (show x=0/\y=0 from h)]
 | some (a,b),h,ho =>
  obtain⟨rfl,rfl⟩:=h;rw[zi (λe=>C.cur.y_ne ho e.2)]
def VD(C:At P){bs:Bs}{p:B P × B P}(h:rd P bs=F p):Pair p.1 p.2 (pt p)/\On (pt p):=by
 have key:∃q:EC.Pt P,Pair p.1 p.2 q/\On q:=by
  unfold rd at h;split at h
  .split at h
   .obtain rfl:=YR.inj h;exact⟨G,⟨Z,Z⟩,jU⟩
   split at h
   .split at h
    .obtain⟨y,b,rfl⟩:=Yu.1 h;have k:=Ri b;refine⟨F (rdx P bs,if ub bs[0]! = 3 then 0-y else y),⟨Z,Z⟩,?_⟩;split
     .exact TT k
     exact MQ k
    cases h
   cases h
  cases h
 let⟨q,h1,k⟩:=key
 have:=PT C h1 k;rw[show pt p=q from this.symm];exact⟨h1,k⟩
omit [NeZero P] in
theorem aY(p:EC.Pt P):(wr p).size=33:=by
 match p with
 | none=>rfl
 | some (x,y) =>
  show(#[mark y.val]++bx x.val).size=33;rw[Zi,bP];rfl
def Mi{a:I}(h:IsP P)(k:P%4=3):(a*a%P)^(P/4+1)%P*((a*a%P)^(P/4+1)%P)%P=a*a%P:=by
 rw[<-mi,<-I.pow_add,<-I.pow_mod,<-yFy,<-I.pow_mul,show 2*(P/4+1+(P/4+1))=P+1 by omega,I.pow_succ,mi,h.fermat a,<-mi,yFy]
def Pn{a R:I}(h:IsP P)(e:a<P)(hR:R<P)(d:R*R%P=a*a%P):R=a\/R+a=P:=by
 have key:∀x y:I,x<P->y<P->y<=x->x*x%P=y*y%P->x=y\/x+y=P:=by
  intro x y hx i f c;have hd:P ∣ x*x-y*y:=by
   refine I.dvd_of_mod_eq_zero ?_;exact I.sub_mod_eq_zero_of_mod_eq c
  have hf:x*x-y*y=(x-y)*(x+y):=by
   rw[Ze (x-y),I.mul_self_sub_mul_self_eq]
  rw[hf]at hd;rcases h.euclid hd with h1|h1
  .left;have:=I.eq_zero_of_dvd_of_lt h1 S;omega
  let⟨k,g⟩:=h1
  have:k=0\/k=1\/2<=k:=S;rcases this with rfl|rfl|b
  .left;omega
  .right;omega
  have:=xv P b;omega
 rcases I.le_total a R with h1|h1
 .exact key R a hR e h1 d
 rcases key a R e hR h1 d.symm with b|b
 .left;exact b.symm
 right;omega
section
def Cj{x:I}(hx:x<2^64):
 w8 (YK (x/72057594037927936)) (YK (x/281474976710656)) (YK (x/1099511627776)) (YK (x/4294967296)) (YK (x/16777216)) (YK (x/65536)) (YK (x/256)) (YK x)=x:=by
 unfold w8;simp only[yCp];omega
def Lj{a:I}:(be32 a b c d).toList=[YK (d/72057594037927936),YK (d/281474976710656),YK (d/1099511627776),YK (d/4294967296),YK (d/16777216),YK (d/65536),YK (d/256),YK d,YK (c/72057594037927936),YK (c/281474976710656),YK (c/1099511627776),YK (c/4294967296),YK (c/16777216),YK (c/65536),YK (c/256),YK c,YK (b/72057594037927936),YK (b/281474976710656),YK (b/1099511627776),YK (b/4294967296),YK (b/16777216),YK (b/65536),YK (b/256),YK b,YK (a/72057594037927936),YK (a/281474976710656),YK (a/1099511627776),YK (a/4294967296),YK (a/16777216),YK (a/65536),YK (a/256),YK a]:=by
 simp only[be32,be8,yk,ZI,ZQ]
def val_congr{a p q s:I}(h1:a=p)(f:b=q)(k:c=r)(e:d=s):val a b c d=val p q r s:=by subst h1 f k e;rfl
def Oc{a:I}(k:a<2^64)(f:b<2^64)(e:c<2^64)(hd:d<2^64):beV (be32 a b c d).toList=val a b c d:=
 (congrArg beV Lj).trans ((Od _ _ _ _ _ _ _ _ _ _ _ _ _ _ _ _ _ _ _ _ _ _ _ _ _ _ _ _ _ _ _ _).trans (val_congr (Cj k) (Cj f) (Cj e) (Cj hd)))
def Df(k:n<top):beV (bx n).toList=n:=by
 rw[bx,Oc S S S S];unfold val;unfold top at k;omega
variable {P:Nat}[NeZero P]
def Rj(C:At P){y m:B P}(h:y*y=m):rt m=F (if y.val%2=1 then 0-y else y):=by
 have c:y.val*y.val%P=m.val:=by rw[<-h,qy]
 have h1:=Mi (a:=y.val) C.cur.pr C.p3;rw[c]at h1;rw[rt,zd h1];have b:m.val^(P/4+1)%P<P:=ZL _ (xe P);generalize m.val^(P/4+1)%P=r at h1 b;have k:=y.isLt;have f:=C.p3;have hor:=Pn C.cur.pr k b (h1.trans c.symm)
 congr 1
 apply pw;show even P r%P=_;unfold even;have d:(0-y:B P).val=(P-y.val)%P:=by rw[<-xC,val_zero,Yv]
 by_cases ho:y.val%2=1
 .rw[zd ho,d];rcases hor with e|e
  .rw[e,zd ho]
  rw[zi S,show P-y.val=r by omega]
 rw[zi ho];rcases hor with e|e
 .rw[e,zi ho,YL k]
 by_cases g:y.val=0
 .omega
 rw[zd S,show P-r=y.val by omega,YL k]
def OY(n:I):ub (mark n)=if n%2=1 then 3 else 2:=by
 unfold mark;split<;>rfl
def O1{m:yv}{b:Bs}(h:b.size=32):wU (#[m]++b)=b:=by
 rw[wU,yt.extract_append];have h1:(#[m]:Bs).extract 1 33=#[]:=by rfl
 rw[h1];simp[h]
def Uc{m:yv}{b:Bs}:(#[m]++b)[0]! = m:=by
 rw[getElem!_pos _ 0 (by rw[Zi];simp;omega),yCx (by simp)];rfl
def VE(C:At P){b:Bs}(hs:b.size=33){x y:B P}(c:ub b[0]! = if y.val%2=1 then 3 else 2)(hv:beV (wU b).toList=x.val)(h:On (F (x,y):EC.Pt P)):rd P b=F (x,y):=by
 have k:¬vU b:=λk=>by
  have:=k 0 (Z6.2 dC);rw[c]at this;split at this<;>omega
 have hx:rdx P b=x:=by
  rw[rdx,hv];exact pw (YL x.isLt)
 have d:y*y=x*x*x+7:=by
  have:y^2=x^3+7:=h
  grobner
 rw[rd,zd hs,zi k,c,hv,zd x.isLt,hx,Rj C d];by_cases ho:y.val%2=1
 .rw[zd ho,zd (YZ Z),zd ho,ur,zd Z];have e:0-(0-y)=y:=by grobner
  rw[e]
 rw[zi ho,zd (Y3 Z),zi ho,ur,zi dC]
def Rm(C:At P){X:EC.Pt P}(h:On X):∃p,rd P (wr X)=F p/\pt p=X:=by
 match X,h with
 | none,_ =>
  refine⟨(0,0),?_,by unfold pt;rw[zd ⟨Z,Z⟩]⟩;have h1:(wr (G:EC.Pt P)).size=33:=aY _;rw[rd,zd h1,zd ((Fo h1).2 Z)]
 | some (x,y),h =>
  have hs:=aY (P:=P) (F (x,y));have k:(wr (F (x,y):EC.Pt P))[0]! = mark y.val:=Uc;have b:wU (wr (F (x,y):EC.Pt P))=bx x.val:=O1 (bP _);refine⟨(x,y),VE C hs (by rw[k,OY]) (by rw[b,Df (C.top x)]) h,by unfold pt;rw[zi (λe=>C.cur.y_ne h e.2)]⟩
end
def gxl:H Yq:=[U 6481385041966929816,U 188021827762530521,U 6170039885052185351,U 8772561819708210092]
def gyl:H Yq:=[U 11261198710074299576,U 18237243440184513561,U 6747795201694173352,U 5204712524664259685]
def gX(P:I)[NeZero P]:B P:=aj P 55066263022277343669578718895168534326250603453777594175500187360389116729240
def gY(P:I)[NeZero P]:B P:=aj P 32670510020758816978083085130507043184471273380659243275938904335757337482424
def gG(P:I)[NeZero P]:EC.Pt P:=F (gX P,gY P)
def Fld.eq(C:At P):P=115792089237316195423570985008687907853269984665640564039457584007908834671663:=by
 have h:=C.gap.hP;have e:val 4294968273 0 0 0=4294968273:=dC;rw[e]at h;unfold Go.Proofs.YtdoammpgchejcaaGreat.top at h;omega
def GV(C:At P):(gX P).val=55066263022277343669578718895168534326250603453777594175500187360389116729240:=by
 have h:=C.eq;exact YL S
def GU(C:At P):(gY P).val=32670510020758816978083085130507043184471273380659243275938904335757337482424:=by
 have h:=C.eq;exact YL S
def Us(C:At P):gxl=ws (gX P):=by
 show _=wn (gX P).val;rw[GV C];kernel_rfl
def Ur(C:At P):gyl=ws (gY P):=by
 show _=wn (gY P).val;rw[GU C];kernel_rfl
def Ae(C:At P):On (gG P):=by
 refine MQ (pw ?_);have k:(7:B P).val=7:=YL C.p7;rw[qy,B.val_add,qy,qy,GV C,GU C,k];rw[C.eq]
def UU:yy 51 #[] (.agg (gxl++gyl).toArray):=by
 intro w;go_enter func51,ntmps51;refine RG.M.enter [] 4 kR λa0 k=>?_
 refine Yt <| k.T [.m 0] [(0,RG.z 8)] [] [0] ⟨mk 0 93,yw⟩ λe i g c=>?_
 refine Yt <| c.T [.x (.agg gxl.toArray),.x (.agg gyl.toArray),.x (.agg (gxl++gyl).toArray),.u 0] [] [(0,3,gxl++gyl)] [0] ⟨st,st,st,RG.pt i109,yw⟩ λd f b=>?_
 exact Zr (b.rr 0 Z jM i109)
def Hy(C:At P):yy 51 #[] (pv (gX P) (gY P)):=by
 rw[pv,<-Us C,<-Ur C];exact UU
def Wx(C:At P):vQ (gX P) (gY P)=wr (gG P):=xO C ⟨Z,Z⟩ (Ae C)
def U8(C:At P)(w:Yp):dZ 137 #[] w λe w'=>mY w (wr (gG P)) e w':=by
 have d:E (At P):=C;clear C;go_enter func137,ntmps137;go_wp2_with fail
 apply(Hy d _).mono;rintro e m ⟨v,rfl,k,rfl⟩;go_wp2_with fail
 apply(xN d _).mono;rintro e i ⟨v,rfl,b,g,cap,rfl,h1,j,f,c⟩;rw[Wx d.out]at c;have l:E (kZ w i/\mY w (wr (gG P)) (sZ g 33 cap) i):=⟨k.trans (b.mono k.size),g,cap,Z,h1,YA k.size j,f,c⟩
 clear k b h1 j f c;go_wp2;go_ret;exact⟨_,Z,l⟩
section
open Go.Shelf
attribute [local go_sem] Oper.semAt_some
section
variable {F:Fence}{n:Nat}{P:Zw}{ops:Array Y9}{rest:List Y9}{op:Y9}{a:Act}{w:Yp}{Q:Exit->Act->Yp->Prop}
def kP{k:YW}{x:Operand}{o:I}{cs:H Yq}(g:op.guard=G)(ho:op.op=.load k x)(hx:a.eval x=oZ b o)(d:TypeDesc)(l:w.rangeAt b o cs)(i:P.underlying k=some d)(hd:d.isRow=J)(m:(P.info? k).map (·.size)=some cs.length)(h:wpListIn F n P ops Q rest (a.put op.dst (.agg cs.toArray)) w):wpListIn F n P ops Q (op :: rest) a w:=
 wpListIn_plain g λK j=>by
  refine⟨λf hf=>(by unfold yFF at hf;rw[ho]at hf;cases hf),?_⟩;rw[yFe _ _ _ (λc=>by rw[ho];intro e;cases e)];unfold Za;simp only[ho,hx,Instr.loadAt,xn,YU,gM,Zp,run_loadVar_mid w b o k cs d l i hd m];exact j _ _ h
def bH{x y:Operand}{k:yt Yq}(g:op.guard=G)(d:YW)(ho:op.op=.store d x y)(o:I)(hx:a.eval x=oZ b o)(l:a.eval y=.agg k)(j:w.there b o k.size)(m:(P.info? d).map (·.size)=some k.size)(h1:k.all (·.oneCell')=J)(h:wpListIn F n P ops Q rest (a.put op.dst ae) (w.setCells b o k.toList)):wpListIn F n P ops Q (op :: rest) a w:=
 wpListIn_plain g λK i=>by
  refine⟨λf hf=>(by unfold yFF at hf;rw[ho]at hf;cases hf),?_⟩;rw[yFe _ _ _ (λc=>by rw[ho];intro e;cases e)];unfold Za;simp only[ho,hx,l,Instr.storeAt,xn,YU,gM,Zp,run_storeVar_mid w b o d k j m h1];exact i _ _ h
end
def sP:Own (λ(_:Unit) W=>yz W k vs):=λs A B row hs b d=>by
 refine⟨Yr hs.1 b.size,λj v c=>?_,λj c=>?_⟩
 .exact cell_kept (hs.2.1 j v c) b d
 have h1:=hs.2.1 j vs[j] (YC c);exact⟨by rw[cell_kept h1 b d];rfl,(frozen_kept h1 b d).trans (hs.2.2 j c).2⟩
def oK{k:I}:∀(vs:H Yq) (o:I) (W:Yp),KeepsOthers W (W.setCells k o vs)
 | [],_,W=>KeepsOthers.refl W
 | v :: vs,o,W=>(KeepsOthers.setCell W ⟨k,o,G⟩ v).trans (oK vs (o+1) _)
def Row.alloc(h:yz W k vs)(o:Obj):yz (W.alloc o) k vs:=
 sP () W (W.alloc o) G h (World.grownBy_alloc W o G) (λ_ e=>by cases e)
def Row.putObj{D:I}(h:yz W k vs){o:Obj}(c:W.heap[D]? = F o)(ho:o.isCells=false)(b:Obj):yz (W.putObj D b) k vs:=
 sP () W (W.putObj D b) (F D) h (grownBy_putObj' W D b) (λr e=>by cases e;exact⟨_,c,ho⟩)
variable {P:Nat}[NeZero P]
def Qz(C:At P)(lb:yt Yq)(L:H (Fin P × Fin P))(N:I)(w:Yp)
 (y:∀n,SeqStopsK Fence.wide n prog 112 lb (λx:Fin P × Fin P=>#[pv x.1 x.2]) (Below w.heap.size) (λxs=>xs=L) (λb=>b <+: L) N w) :
 eZ 49 #[.func (.func 112) #[] lb] w (pv (L.headD (gX P,gY P)).1 (L.headD (gX P,gY P)).2):=by
 refine(callsIn_wide (n:=5)).1 ?_;refine callsIn_of_wp_marks func49 Z trivial ?_ Z;simp only[ntmps49,Zq,Y2,Z2,I.reduceAdd,I.reduceSub,yt.replicate_succ,yt.replicate_zero,H.push_toArray,H.append_toArray,ZQ,ZI]
 gi_wp2
 have u:=Made.alloc w [U 0,U 0,U 0,U 0,U 0,U 0,U 0,U 0] 93;have z:yz (w.alloc (.cells #[U 0,U 0,U 0,U 0,U 0,U 0,U 0,U 0] 93)) w.heap.size [U 0,U 0,U 0,U 0,U 0,U 0,U 0,U 0]:=⟨u.lt,u.range,u.there⟩
 have q:kZ w (w.alloc (.cells #[U 0,U 0,U 0,U 0,U 0,U 0,U 0,U 0] 93)):=u.bel;clear u;let⟨a,o⟩:∃a,a=w.alloc (.cells #[U 0,U 0,U 0,U 0,U 0,U 0,U 0,U 0] 93):=⟨_,Z⟩
 have O:a.heap.size=w.heap.size+1:=by rw[o,YE]
 rw[<-o]at z q⊢;clear o;refine wpIn_rangeFunc_ownH (α:=Fin P × Fin P) Z dC (gf:=112) (lb:=lb) Z trivial (enters_of func112 kR Z) (y 4) belowK_t (belowK_b S) q (λ_=>rfl)
  (λb W=>(b=[]/\yz W w.heap.size [U 0,U 0,U 0,U 0,U 0,U 0,U 0,U 0])/\kZ w W)
  (λc b W=>(c=.ret/\∃x:Fin P × Fin P,b=[x]/\yz W w.heap.size (ws x.1++ws x.2))/\kZ w W)
  (yE7 (Own.from (λs A B row hs k j=>⟨hs.1,sP () A B row hs.2 k j⟩) _) (ownFrom_below (Ys _) S))
  (λc=>yE7 (Own.from (λs A B row hs k j=>⟨hs.1,hs.2.imp λx hx=>⟨hx.1,sP () A B row hx.2 k j⟩⟩) _) (ownFrom_below (Ys _) S))
  ⟨⟨Z,z⟩,q⟩
  (λx M W=>∃m,w.heap.size<m/\yz W m (ws x.1++ws x.2)/\M = { tmps:=#[.func (.func 112) #[] lb,ae,jZ w.heap.size,jZ m,.func (.func 112) #[] lb,pv x.1 x.2,ae,ae],defers:=[] })
  (λx M=>Own.from (λs A B row hs k j=>hs.imp λm hx=>⟨hx.1,sP () A B row hx.2.1 k j,hx.2.2⟩) _) ?assign ?body ?done ?stop
 case assign =>
  intro l b x W K t i;have k:=Made.alloc W [U 0,U 0,U 0,U 0,U 0,U 0,U 0,U 0] 93;have g:=k.there
  gi_wp2_with (refine bH Z 93 Z 0 Z Z g i109 kR ?_)
  have f:=t.1.2.1;have p:Below w.heap.size W ((W.alloc (.cells #[U 0,U 0,U 0,U 0,U 0,U 0,U 0,U 0] 93)).setCells W.heap.size 0 (ws x.1++ws x.2)):=
   RG.below_setCells (ax f) _ _ _ ((YH _ W).alloc (ax f) _)
  exact i _ _ (((KeepsOthers.alloc W _).trans (oK _ _ _)).from _) p ⟨⟨t.1.1,(t.1.2.alloc _).other (I.ne_of_lt f)⟩,t.2.trans p⟩
   ⟨W.heap.size,f,Row.put (vs:=[U 0,U 0,U 0,U 0,U 0,U 0,U 0,U 0]) ⟨k.lt,k.range,k.there⟩ Z,Z⟩
 case body =>
  rintro l b x M W hl ⟨r,j⟩ ⟨⟨rfl,k⟩,t⟩ ⟨m,K,A,rfl⟩ Q;let⟨d,p,f⟩:=Yu.1 jM
  have g:=k.2.2
  gi_wp2_with (first|refine kP Z Z Z d A.2.1 p f i109 ?_|refine bH Z 93 Z 0 Z Z g i109 kR ?_)
  exact⟨(oK _ _ _).from _,⟨Z,x,Z,k.put Z⟩,RG.below_setCells (Ys _) _ _ _ t⟩
 case done =>
  rintro D ys W A rfl ⟨⟨rfl,k⟩,t⟩ i;have g:=k.2.2
  gi_wp2_with fail
  refine⟨trivial,(callsIn_wide.2 (Hy C _)).mono ?_⟩;rintro e K ⟨v,rfl,p,rfl⟩;have f:yz K w.heap.size [U 0,U 0,U 0,U 0,U 0,U 0,U 0,U 0]:=k.below p
  gi_wp2_with (refine bH Z 93 Z 0 Z Z f.2.2 i109 kR ?_)
  have m:(K.setCells w.heap.size 0 (ws (gX P)++ws (gY P))).heap[D]? = F (.deferred (F [])):=by
   rw[aL _ _ _ _ _ S,p.block D (YX.1 i).1];exact i
  have j:yz (K.setCells w.heap.size 0 (ws (gX P)++ws (gY P))) w.heap.size (ws (gX P)++ws (gY P)):=f.put Z;refine⟨by simp,.inl ⟨_,_,Z,run_takeDeferred m,?_⟩⟩;exact⟨_,aC 2 Z (j.putObj m Z _) Z jM i109,_,Z,(RG.below_setCells (Ys _) _ _ _ (t.trans (p.mono t.size))).trans (belowK_b (w:=a) S _ D _ _ A m Z Z),Z⟩
 case stop =>
  rintro D c b W A f ⟨⟨rfl,x,rfl,k⟩,t⟩ i
  gi_wp2
  let⟨L',g⟩:=f
  rw[g.symm];refine⟨by simp,.inl ⟨_,_,Z,run_takeDeferred i,?_⟩⟩;exact⟨_,aC 2 Z (k.putObj i Z _) Z jM i109,_,Z,t.trans (belowK_b (w:=a) S _ D _ _ A i Z Z),Z⟩
end
def kX{e:I}(h:Kept w k [⟨k,0,c,d,b,0⟩,⟨e,0,0,0,0,0⟩] W):W.cell? ⟨k,0,G⟩=F (U c)/\W.cell? ⟨k,1,G⟩=F (U d)/\W.cell? ⟨k,2,G⟩=F (U b)/\W.cell? ⟨k,3,G⟩=F (U 0)/\Kept w k [⟨k,0,c,d,b,0⟩,⟨e,0,0,0,0,0⟩] W:=⟨h.head.c0,h.head.c1,h.head.c2,h.head.c3,h⟩
def lP{e:I}(h:W.cell? ⟨k,0,G⟩=F (U c)/\W.cell? ⟨k,1,G⟩=F (U d)/\W.cell? ⟨k,2,G⟩=F (U b)/\W.cell? ⟨k,3,G⟩=F (U 0)/\Kept w k [⟨k,0,c,d,b,0⟩,⟨e,0,0,0,0,0⟩] W):Kept w k [⟨k,0,c,d,b,0⟩,⟨e,0,0,0,0,0⟩] W:=h.2.2.2.2
def Ge{e:I}{o:Obj}(h:W.cell? ⟨k,0,G⟩=F (U c)/\W.cell? ⟨k,1,G⟩=F (U d)/\W.cell? ⟨k,2,G⟩=F (U b)/\W.cell? ⟨k,3,G⟩=F (U 0)/\Kept w k [⟨k,0,c,d,b,0⟩,⟨e,0,0,0,0,0⟩] W):(W.alloc o).cell? ⟨k,0,G⟩=F (U c)/\(W.alloc o).cell? ⟨k,1,G⟩=F (U d)/\(W.alloc o).cell? ⟨k,2,G⟩=F (U b)/\(W.alloc o).cell? ⟨k,3,G⟩=F (U 0)/\Kept w k [⟨k,0,c,d,b,0⟩,⟨e,0,0,0,0,0⟩] (W.alloc o):=kX ((lP h).alloc o)
def D3{e:I}{o:Obj}(h:W.drew.cell? ⟨k,0,G⟩=F (U c)/\W.drew.cell? ⟨k,1,G⟩=F (U d)/\W.drew.cell? ⟨k,2,G⟩=F (U b)/\W.drew.cell? ⟨k,3,G⟩=F (U 0)/\Kept w k [⟨k,0,c,d,b,0⟩,⟨e,0,0,0,0,0⟩] W.drew):(W.alloc o).drew.cell? ⟨k,0,G⟩=F (U c)/\(W.alloc o).drew.cell? ⟨k,1,G⟩=F (U d)/\(W.alloc o).drew.cell? ⟨k,2,G⟩=F (U b)/\(W.alloc o).drew.cell? ⟨k,3,G⟩=F (U 0)/\Kept w k [⟨k,0,c,d,b,0⟩,⟨e,0,0,0,0,0⟩] (W.alloc o).drew:=kX (((lP h).undrew).alloc o).drew
def zY{p l o:I}{bs:Bs}(h:hZ w g o bs)(b:p+l<=bs.size):hZ w g (o+p) (bs.extract p (p+l)):=by
 refine Holds.part h (by rw[tj];omega) (λj k=>?_);rw[tj]at k;rw[getElem!_pos (bs.extract p (p+l)) j (by rw[tj];omega),getElem!_pos bs (p+j) S,yD4]
def EA{o:I}{bs:Bs}(h:hZ w g o bs)(hf:f<=bs.size):hZ w g o (bs.extract 0 f):=by
 have:=zY (p:=0) (l:=f) h S;rwa[Yv,ao]at this
def RedR(w:Yp)(e f i l g N:I)(s6:Yq)(j:Yp):Prop:=
 ∃k a b c d:I,s6=jZ k/\Kept w e [⟨k,0,a,b,c,d⟩,⟨e,0,i,l,g,0⟩,⟨f,0,0,0,0,0⟩] j/\k≠e/\k≠f/\e<=k /\
  E (zh (.agg #[U a,U b,U c,U d]) N)
def RedR.made{k:Yp}{l a:I}(e:Kept w f [⟨f,0,i,l,g,0⟩,⟨j,0,0,0,0,0⟩] k)(m:Hid (zh (.agg #[uZ a,uZ b,uZ c,uZ d]) N)):
 RedR w f j i l g N (jZ k.heap.size) (k.alloc (.cells #[uZ a,uZ b,uZ c,uZ d] 118)):=
 ⟨k.heap.size,a,b,c,d,Z,(e.alloc _).cons (At4.made k 118 a b c d Z).blk,cW e.head.lt,cW e.tail.head.lt,e.le,m⟩
def RedR.put{m:Yp}{e a x y z u:I}(o:Kept w e [⟨e,0,f,j,i,0⟩,⟨g,0,0,0,0,0⟩] m)(T:At4 m k x y z u)(n:e<=k)(l:∀x∈([⟨e,0,f,j,i,0⟩,⟨g,0,0,0,0,0⟩]:H Blk),x.k<k)(p:Hid (zh (.agg #[uZ a,uZ b,uZ c,uZ d]) N)):
 RedR w e g f j i N (jZ k) ((((m.setCell (aZ k) (uZ a)).setCell ⟨k,1,G⟩ (uZ b)).setCell ⟨k,2,G⟩ (uZ c)).setCell ⟨k,3,G⟩ (uZ d)):=
 ⟨k,a,b,c,d,Z,(o.set4' n (λx hx=>cW (l x hx)) _ _ _ _).cons (T.self4 a b c d).blk,cW (l ⟨e,0,f,j,i,0⟩ (by simp)),cW (l ⟨g,0,0,0,0,0⟩ (by simp)),n,p⟩
def Mr(bs:Bs)(p:I)(c:p+32<=bs.size):(beV (bs.extract p (p+32)).toList+top*(beV (bs.extract 0 p).toList%P))%P=beV (bs.extract 0 (p+32)).toList%P:=by
 have e:(bs.extract 0 (p+32)).toList=(bs.extract 0 p).toList++(bs.extract p (p+32)).toList:=by
  rw[<-yk,yt.extract_append_extract,yE0 S,I.max_eq_right S]
 have k:(bs.extract p (p+32)).toList.length=32:=by rw[YM,tj];omega
 have b:256^32=top:=by unfold top;decide
 rw[e,fK,k,b,I.add_comm,rh,mi,I.mod_mod,<-mi,<-rh,Ze]
theorem Fg(g0 g1 g2 P g o n cap : I)(bs : Bs)(hG : Gap g0 g1 g2 P)(w : Yp)(hs : bs.size = n)(hc : n <= cap)(hg : g < w.heap.size)(hB : yx encB w g o bs):
    Zl prog 229 #[.agg #[.int .u64 (g0 : Y), .int .u64 (g1 : Y), .int .u64 (g2 : Y), .int .u64 0], .slice (F ⟨g, o, G⟩) n cap] w (Ret λe w' => Below w.heap.size w w' /\ zh e (beV bs.toList % P)) := by
  obtain⟨f, hf⟩ : ∃f, f = n % 32 := ⟨_, rfl⟩;have hf32 : f < 32 := S;have hfn : f <= n := S;have e1 : (n : Y) % 32 = (f : Y) := S;have e2 : (f : Y) <= (cap : Y) := S;have e3 : (f : Y) <= (n : Y) := S;have e4 : f <= cap := S;have hsz0 : (bs.extract 0 f).size = f := by rw [tj]; omega
  have Hf : E (f = n % 32) := hf;have HS : E ((bs.extract 0 f).size = f) := hsz0;have hbs : f <= bs.size := S;have HSZ : E (bs.size = n) := hs;have HG : E (Gap g0 g1 g2 P) := hG;clear hf hsz0 hG;go_enter func229, ntmps229
  go_upto_region 2 with fail
  rw [e1];clear e1;have PR := (At4.made w 120 g0 g1 g2 0 Z).alloc (.cells #[.int .u64 0, .int .u64 0, .int .u64 0, .int .u64 0] 47);have RE := At4.made (w.alloc (.cells #[.int .u64 (g0 : Y), .int .u64 (g1 : Y), .int .u64 (g2 : Y), .int .u64 0] 120)) 47 0 0 0 0 (YE _ _);have KP := ((Kept.mk1 (below2 w (.cells #[.int .u64 (g0 : Y), .int .u64 (g1 : Y), .int .u64 (g2 : Y), .int .u64 0] 120) (.cells #[.int .u64 0, .int .u64 0, .int .u64 0, .int .u64 0] 47)) (below2 w (.cells #[.int .u64 (g0 : Y), .int .u64 (g1 : Y), .int .u64 (g2 : Y), .int .u64 0] 120) (.cells #[.int .u64 0, .int .u64 0, .int .u64 0, .int .u64 0] 47)).size).cons RE.blk).cons PR.blk;clear PR RE;generalize World.alloc _ _ = W0 at KP⊢;generalize h1 : w.heap.size + 1 = k1 at KP⊢;have Q1 : E (w.heap.size <= k1) := by unfold E; omega
  generalize h0 : w.heap.size = k0 at KP Q1 hg⊢;have n01 : k0 ≠ k1 := S;have H0 : E (w.heap.size = k0) := h0;have HBS : E (yx encB w g o bs) := hB;clear h0 h1 hB hs
  go_cut [6] (λs6 wx => RedR w k0 k1 g0 g1 g2 (beV (bs.extract 0 f).toList % P) s6 wx)
  case first =>
    go_region_held3 (λw' => w'.cell? ⟨k0, 0, G⟩ = F (.int .u64 (g0 : Y)) /\ w'.cell? ⟨k0, 1, G⟩ = F (.int .u64 (g1 : Y)) /\ w'.cell? ⟨k0, 2, G⟩ = F (.int .u64 (g2 : Y)) /\ w'.cell? ⟨k0, 3, G⟩ = F (.int .u64 0) /\ Kept w k0 [⟨k0, 0, g0, g1, g2, 0⟩, ⟨k1, 0, 0, 0, 0, 0⟩] w') (first | (with_reducible exact kX KP) | (with_reducible exact kX KP.drew) | (with_reducible exact D3 (by assumption)) | (with_reducible exact Ge (by assumption)) | (with_reducible exact kX (KP.alloc _)) | (with_reducible exact kX (KP.set4' M7 (λx hx => cW (N7 x hx)) _ _ _ _)) | (with_reducible exact kX (KP.alloc _).drew) | (with_reducible exact kX (KP.set4' M7 (λx hx => cW (N7 x hx)) _ _ _ _).drew)) (first | (go_at_call 125; refine(lI (F ⟨g, o, G⟩) g o f cap (bs.extract 0 f) _ (ax hf32) e4 HS.out (YZ ⟨Z, EA (f:=f) (Holds.below HBS.out (lP (by assumption)).bl hg) hbs⟩)).mono ?_; rintro e w1 ⟨v, rfl, hb1, hF1⟩; obtain⟨a1, b1, c1, d1, rfl, ha1, hb1', hc1, hd1, es1⟩ := id hF1; clear es1; have HF1 : E (zh _ _) := hF1; clear hF1; (try(with_reducible have T1 := T.call hb1; clear T; have T := T1; clear T1)); (try(first | (with_reducible have T := (At4.made _ 118 0 0 0 0 Z).call hb1) | (with_reducible have T := (At4.made _ 118 0 0 0 0 Z).drew.call hb1)); have N7 := KP.lts; have M7 := KP.le); have KP1 := Kept.call (lP (by assumption)) hb1; clear KP; have KP := KP1; clear KP1 hb1) | (go_at_call 127; refine(kL HF1.out).mono ?_; rintro e w1 ⟨v, rfl, hb1, rfl⟩; (try(with_reducible have T1 := T.call hb1; clear T; have T := T1; clear T1)); (try(first | (with_reducible have T := (At4.made _ 118 0 0 0 0 Z).call hb1) | (with_reducible have T := (At4.made _ 118 0 0 0 0 Z).drew.call hb1)); have N7 := KP.lts; have M7 := KP.le); have KP1 := Kept.call (lP (by assumption)) hb1; clear KP; have KP := KP1; clear KP1 hb1) | (go_at_call 235; refine(Ak g0 g1 g2 _ _ _ _ P HG.h0 HG.h1 HG.h2 HG.hor HG.hP HG.hP2 HF1.out (Four.mk (a := 0) (b := 0) (c := 0) (d := 0) dC dC dC dC Z) _).mono ?_; rintro e w1 ⟨v, rfl, hb1, hF3⟩; obtain⟨a', b', c', d', rfl, ha', hb', hc', hd', es3⟩ := id hF3; clear es3; have HF3 : E (zh _ _) := hF3; clear hF3; (try(with_reducible have T1 := T.call hb1; clear T; have T := T1; clear T1)); (try(first | (with_reducible have T := (At4.made _ 118 0 0 0 0 Z).call hb1) | (with_reducible have T := (At4.made _ 118 0 0 0 0 Z).drew.call hb1)); have N7 := KP.lts; have M7 := KP.le); have KP1 := Kept.call (lP (by assumption)) hb1; clear KP; have KP := KP1; clear KP1 hb1; (try(obtain⟨tc0, tc1, tc2, tc3, tf⟩ := id T; have zt := T.lt))))
    all_goals (try go_wp2)
    all_goals (rw [show val 0 0 0 0 = 0 from Z, qo, ao]at HF3)
    all_goals (go_meet; first | (with_reducible exact RedR.made KP HF3) | (with_reducible exact(RedR.made KP HF3).drew) | (with_reducible exact RedR.put KP T M7 N7 HF3) | (with_reducible exact(RedR.put KP T M7 N7 HF3).drew))
  case rest =>
    clear KP;obtain⟨k6, a, b, c, d, rfl, KP, n60, n61, M6, HF⟩ := hcut;have f0 : (0 : Y) <= (f : Y) := yEu _
    go_upto_region 3 with fail
    go_cut [1] (λs1 wx => ∃q : I, s1 = .slice (F ⟨g, q, G⟩) (n - f) (cap - f) /\ E (0 < n - f -> q = o + f) /\ Kept w k0 [⟨k6, 0, a, b, c, d⟩, ⟨k0, 0, g0, g1, g2, 0⟩, ⟨k1, 0, 0, 0, 0, 0⟩] wx)
    case first =>
      by_cases ec : cap = f
      · have en : n = f := S
        have HEN : E (n = f /\ cap = f) := ⟨en, ec⟩;go_wp2
        go_meet
        refine⟨o, ?_, λh => ?_, KP⟩
        · rw [HEN.1, HEN.2]; try simp
        · have := HEN.1; omega
      · go_wp2
        go_meet
        exact⟨o + f, rfl, λ_ => rfl, KP⟩
    case rest =>
    clear KP;obtain⟨q0, rfl, HQ0, KP⟩ := hcut;go_wp2_with fail
    go_loopg [1] (n - f) (λgk s1 wr => ∃(l q lc a b c d : I), gk = l /\ l <= n /\ s1 = .slice (F ⟨g, q, G⟩) l lc /\ E (l % 32 = 0 /\ (0 < l -> q = o + (n - l)) /\ lc = cap - (n - l)) /\ Kept w k0 [⟨k6, 0, a, b, c, d⟩, ⟨k0, 0, g0, g1, g2, 0⟩, ⟨k1, 0, 0, 0, 0, 0⟩] wr /\
      E (zh (.agg #[.int .u64 (a : Y), .int .u64 (b : Y), .int .u64 (c : Y), .int .u64 (d : Y)]) (beV (bs.extract 0 (n - l)).toList % P)))
    case atStart =>
      refine⟨n - f, q0, cap - f, a, b, c, d, rfl, S, rfl, ⟨by have := Hf.out; omega, λh => by have := HQ0.out h; omega, S⟩, KP, ?_⟩;rw [show n - (n - f) = f by omega];exact HF
    case round =>
      clear KP HF;obtain⟨l, q, lc, a, b, c, d, hgk, hln, rfl, HQ3, KP, HF⟩ := hrel;clear e2 e3 e4 f0 hbs HS hf32 hfn HQ0;have hlcl : l <= lc := by have := HQ3.out; omega
      by_cases h0 : l = 0
      · subst h0
        obtain⟨xc0, xc1, xc2, xc3, xf⟩ := KP.head.at4;have z7 := KP.head.lt;go_wp2_with fail
        refine(kJ HF.out).mono ?_;rintro e w3 ⟨v, rfl, hb3, rfl⟩;have KP3 := KP.call hb3;clear hb3 xc0 xc1 xc2 xc3 xf z7 KP;obtain⟨rc0, rc1, rc2, rc3, rf⟩ := KP3.tail.tail.head.at4;have z3 := KP3.tail.tail.head.lt;go_wp2;have RF := KP3.tail.tail.head.at4.self4 a b c d;unfold set4 at RF;refine YB (by simp [results, Tryz.results229, go_sem, RF.c0, RF.c1, RF.c2, RF.c3]; rfl) Z ?_;refine⟨_, rfl, ?_, ?_⟩
        · rw [H0.out]
          exact aE KP3.bl Q1.out
        · have := HF.out
          rw [qp, <-HSZ.out, yt.extract_size]at this;exact this
      · have h32 : 32 <= l := by have := HQ3.out; omega
        have HQ : E (o + (n - l) = q) := (HQ3.2.1 S).symm;have h32c : 32 <= lc := S;have i1 : (32 : Y) <= (lc : Y) := S;have i2 : (32 : Y) <= (l : Y) := S;have i3 : (0 : Y) < (l : Y) := S;have HSL : E (n - l + 32 <= bs.size) := by unfold E; have := HSZ.out; omega
        have HS3 : E ((bs.extract (n - l) (n - l + 32)).size = 32) := by unfold E; rw [tj]; have := HSL.out; omega
        obtain⟨tc0, tc1, tc2, tc3, tf⟩ := KP.head.at4;have zt := KP.head.lt;obtain⟨pc0, pc1, pc2, pc3, pf⟩ := KP.tail.head.at4;have hl6 : ∀x ∈ ([⟨k0, 0, g0, g1, g2, 0⟩, ⟨k1, 0, 0, 0, 0, 0⟩] : H Blk), k6 ≠ x.k := by simp only [Zb, YI, or_false]; rintro x (rfl | rfl); exact n60; exact n61
        have HFF : E (_ = _) := Mr (P := P) bs (n - l) HSL.out;go_wp2_with fail
        go_region_with (first | (go_at_call 125; refine(lI (F ⟨g, q, G⟩) g q 32 lc (bs.extract (n - l) (n - l + 32)) _ (Ys 32) h32c HS3.out (YZ ⟨Z, HQ.out ▸ zY (p:=(n - l)) (l:=32) (by first | (with_reducible exact Holds.below HBS.out KP.bl hg) | (with_reducible exact Holds.below HBS.out KP.drew.bl hg)) HSL.out⟩)).mono ?_; rintro e w1 ⟨v, rfl, hb1, hF1⟩; obtain⟨a1, b1, c1, d1, rfl, ha1, hb1', hc1, hd1, es1⟩ := id hF1; clear es1; have HF1 : E (zh _ _) := hF1; clear hF1; (first | (with_reducible have KP1 := KP.call hb1) | (with_reducible have KP1 := KP.drew.call hb1)); clear KP; have KP := KP1; clear KP1 hb1; obtain⟨tc0, tc1, tc2, tc3, tf⟩ := KP.head.at4; have zt := KP.head.lt; obtain⟨pc0, pc1, pc2, pc3, pf⟩ := KP.tail.head.at4) | (go_at_call 127; refine(kL HF1.out).mono ?_; rintro e w1 ⟨v, rfl, hb1, rfl⟩; (first | (with_reducible have KP1 := KP.call hb1) | (with_reducible have KP1 := KP.drew.call hb1)); clear KP; have KP := KP1; clear KP1 hb1; obtain⟨tc0, tc1, tc2, tc3, tf⟩ := KP.head.at4; have zt := KP.head.lt; obtain⟨pc0, pc1, pc2, pc3, pf⟩ := KP.tail.head.at4) | (go_at_call 235; refine(Ak g0 g1 g2 _ _ _ _ P HG.h0 HG.h1 HG.h2 HG.hor HG.hP HG.hP2 HF1.out HF.out _).mono ?_; rintro e w1 ⟨v, rfl, hb1, hF3⟩; obtain⟨a', b', c', d', rfl, ha', hb', hc', hd', es3⟩ := id hF3; clear es3; have HF3 : E (zh _ _) := hF3; clear hF3; (first | (with_reducible have KP1 := KP.call hb1) | (with_reducible have KP1 := KP.drew.call hb1)); clear KP; have KP := KP1; clear KP1 hb1; obtain⟨tc0, tc1, tc2, tc3, tf⟩ := KP.head.at4; have zt := KP.head.lt; obtain⟨pc0, pc1, pc2, pc3, pf⟩ := KP.tail.head.at4))
        all_goals (rw [HFF.out]at HF3)
        all_goals (by_cases i4 : lc = 32)
        all_goals (try go_wp2)
        all_goals
          (go_roundg (l - 32)
           case measure => omega
           case rel =>
            first
              | refine⟨l - 32, q + 32, lc - 32, a', b', c', d', rfl, S, rfl, ⟨by have := HQ3.out; omega, λ_ => by have := HQ.out; omega, by have := HQ3.out; omega⟩, ?_, ?_⟩
              | refine⟨l - 32, q, lc - 32, a', b', c', d', rfl, S, by first | rfl | (rw [i4]), ⟨by have := HQ3.out; omega, λh => S, by have := HQ3.out; omega⟩, ?_, ?_⟩
              | fail
            · first | (with_reducible exact KP.put M6 hl6 a' b' c' d') | (with_reducible exact(KP.put M6 hl6 a' b' c' d').drew) | fail
            · rw [show n - (l - 32) = n - l + 32 by omega]; exact HF3)
def sPl(N a b:I):I:=(a+b)%N
def Pl(O:Ord N){a:I}(c:a<N)(k:b<N):yy 155 #[gv1,nv a,nv b] (nv (sPl N a b)):=λw =>
 (Ff O.gap (O.four c) (O.four k) c k).mono (by rintro e w' ⟨v,rfl,k,d⟩;exact⟨_,Z,k,d.nv⟩)
def nP(O:Ord N)(a b:I)(k:a<N)(f:b<N):yy 80 #[(nv a),(nv b)] (nv (sPl N a b)):=by
 intro w;go_enter func80,ntmps80;refine RG.M.enter [(0,.v (nv a)),(1,.v (nv b))] 12 kR λa0 c=>?_
 refine Yt <| c.T [.m 0,.m 1,.m 2] [(0,wn a),(1,wn b),(2,RG.z 4)] [] [2,3,4] ⟨mk 0 49,mk 1 49,mk 2 49,yw⟩ λj g l o n e=>?_
 refine Yt <| e.D [.c gv1,.s (.p 0 0),.x (nv a),.s (.p 1 0),.x (nv b),.c (nv (sPl N a b)),.x (nv (sPl N a b)),.u 2] [] [(2,7,wn (sPl N a b))] [4] ⟨cl iQ,st,ld u38 i38,st,ld u38 i38,cl (Pl O k f),st,RG.pt zy,yw⟩ λi m d=>?_
 exact Zr (d.rr 2 Z u40 zy)
def mG(N:I)(bs:Bs):I:=beV bs.toList%N
def U7(v:Yq)(n:I):H It:=[.c 3 [] gv1,.x 4 [] v,.c 5 [(3,0),(4,1)] (nv n),.x 6 [(5,2)] (nv n),.u [(6,3)] 0]
def Bz(O:Ord N)(g:I)(bs:Bs)(hs:bs.size=64)(w:Yp)(c:g<w.heap.size)(j:hZ w g 0 bs):eZ 197 #[sZ g 64 64] w (nv (mG N bs)):=by
 have l:∀w',BelX w.heap.size [] w w'->cZ 229 #[gv1,sZ g 64 64] w' (Ret λe k=>kZ w' k/\e=nv (mG N bs)):=λw' b =>
  (Fg _ _ _ N g 0 64 64 bs O.gap w' hs (Ys _) (Yr c b.below.size) (Holds.below j b.below c)).mono (by rintro e k ⟨v,rfl,b,d⟩;exact⟨_,Z,b,d.nv⟩)
 go_enter func197,ntmps197;refine RG.M.enter [(0,.v (sZ g 64 64))] 7 kR λa0 d=>?_
 refine Yt <| d.T [.m 0] [(0,RG.z 4)] [] [0,2] ⟨mk 0 49,yw⟩ λq n p i=>?_
 refine Yt <| i.t (U7 (sZ g 64 64) (mG N bs)) [] [(0,4,wn (mG N bs))] [wn (mG N bs)] [(2,.p 0 0)] ⟨cl iQ,st,clB (λ_ _=>kR) l,st,RG.pt zy,yw⟩ λo m f=>?_
 exact Zr (f.rr 0 Z u40 zy)
def pO{bs:Bs}(O:Ord N):mG N bs<N:=ZL _ O.pos
def chL(N:I)(k:H yv)(ps:H (H yv)):I:=mG N (kU (jE k ps).toList 64)
def LO(O:Ord N)(r2:I)(T:Bs)(w:Yp)(o:T.size=32)(hT:hZ w r2 0 T):
 eZ 128 #[sZ r2 32 32] w (nv (mG N (kU T.toList 64))):=by
 let⟨S,p⟩:∃S,E (kU T.toList 64=S):=⟨_,Z⟩
 have r:S.size=64:=p.out▸uL;rw[p.out];let⟨d,b⟩:∃d,E (w.alloc (.cells #[U 0,U 0,U 0,U 0] 49)=d):=⟨_,Z⟩
 have f:E (yz d w.heap.size [U 0,U 0,U 0,U 0]/\kZ w d/\hZ d r2 0 T):=by rw[<-b.out];exact⟨aF,aD _,Holds.below hT (aD _) (Holds.lt hT oM)⟩
 clear hT;go_enter func128,ntmps128;go_wp2_with fail
 rw[b.out];clear b;apply(A0 (F (aZ r2)) r2 0 32 32 64 T d dC o (Ys _) dC (YZ ⟨Z,f.2.2⟩)).mono;rintro e l ⟨y,rfl,h1,t,s⟩;rw[p.out]at s;have c:E (yz l w.heap.size [U 0,U 0,U 0,U 0]/\kZ w l/\hZ l y 0 S):=⟨f.1.below t,f.2.1.trans (t.mono f.2.1.size),s⟩
 clear h1 t s f;go_wp2_with fail
 apply(Bz O y S r l (Holds.lt c.2.2 oM) c.2.2).mono;rintro e n ⟨v,rfl,k,rfl⟩;have q:E (yz n w.heap.size [U 0,U 0,U 0,U 0]/\kZ w n):=⟨c.1.below k,c.2.1.trans (k.mono c.2.1.size)⟩
 clear k c;let⟨m,u⟩:∃m,E (mG N S=m):=⟨_,Z⟩
 rw[u.out];let⟨j,i⟩:∃j,E (n.setCells w.heap.size 0 (wn m)=j):=⟨_,Z⟩
 have x:E (yz j w.heap.size (wn m)/\kZ w j):=by rw[<-i.out];exact⟨q.1.put Z,RG.below_setCells (Ys _) _ _ _ q.2⟩
 let⟨z,g⟩:∃z,E (nv m=z):=⟨_,Z⟩
 rw[g.out];go_wp2_with (refine ZJ Z 49 _ _ Z w.heap.size 0 (wn m).toArray ?_ ?_ ?_ ?_ ?_ ?_;rfl;exact g.symm;exact q.1.2.2;exact zy;exact aM;rw[show(wn m).toArray.toList=wn m from Z,i.out])
 refine YB (aC 2 Z x.1 Z u40 zy) Z ?_;exact⟨_,Z,x.2,by rw[u.out];rfl⟩
def ER(O:Ord N)(k:R)(t:zb ai)(n cap:I)(ps:H (H yv))(w:Yp)(i:k.size<=1048576)(a:ps.length=n)(l:n<=1048576)(K:PartsOk w t ps):
 eZ 60 #[.string k,.slice t n cap] w (nv (chL N k.data.toList ps)):=by
 let⟨T,hT⟩:∃T,E (jE k.data.toList ps=T):=⟨_,Z⟩
 have x:T.size=32:=hT.out▸dD;have C:chL N k.data.toList ps=mG N (kU T.toList 64):=by unfold chL;rw[hT.out]
 rw[C];clear C;let⟨c,g⟩:∃c,E (w.alloc (.cells #[U 0,U 0,U 0,U 0] 49)=c):=⟨_,Z⟩
 have b:E (yz c w.heap.size [U 0,U 0,U 0,U 0]/\kZ w c):=by rw[<-g.out];exact⟨aF,aD _⟩
 have d:E (cZ 113 #[.string k,.slice t n cap] c λe w'=>∃r,e=.returned (sZ r 32 32)/\c.heap.size<=r/\kZ c w'/\hZ w' r 0 T):=by
  subst a;rw[<-hT.out];exact xQ k t cap ps c i l (K.below b.2)
 clear K a l;go_enter func60,ntmps60;go_wp2_with fail
 rw[g.out];clear g;refine d.mono ?_;rintro e q ⟨r2,rfl,h1,z,M⟩;have j:E (yz q w.heap.size [U 0,U 0,U 0,U 0]/\kZ w q/\hZ q r2 0 T):=⟨b.1.below z,b.2.trans (z.mono b.2.size),M⟩
 clear h1 z M d b;go_wp2_with fail
 apply(LO O r2 T q x j.2.2).mono;rintro e u ⟨v,rfl,f,rfl⟩;have y:E (yz u w.heap.size [U 0,U 0,U 0,U 0]/\kZ w u):=⟨j.1.below f,j.2.1.trans (f.mono j.2.1.size)⟩
 clear f j;let⟨m,A⟩:∃m,E (mG N (kU T.toList 64)=m):=⟨_,Z⟩
 rw[A.out];let⟨s,p⟩:∃s,E (u.setCells w.heap.size 0 (wn m)=s):=⟨_,Z⟩
 have L:E (yz s w.heap.size (wn m)/\kZ w s):=by rw[<-p.out];exact⟨y.1.put Z,RG.below_setCells (Ys _) _ _ _ y.2⟩
 let⟨P,o⟩:∃P,E (nv m=P):=⟨_,Z⟩
 rw[o.out];go_wp2_with (refine ZJ Z 49 _ _ Z w.heap.size 0 (wn m).toArray ?_ ?_ ?_ ?_ ?_ ?_;rfl;exact o.symm;exact y.1.2.2;exact zy;exact aM;rw[show(wn m).toArray.toList=wn m from Z,p.out])
 refine YB (aC 4 Z L.1 Z u40 zy) Z ?_;exact⟨_,Z,L.2,by rw[A.out];rfl⟩
section
section
variable {P:Zw}{ops:Array Y9}{rest:List Y9}{op:Y9}{a:Act}{w w':Yp}{v:Yq}{Q:Exit->Act->Yp->Prop}
def bY(k:op.guard=G)(X:Op)(_:op.op=X)(c:(Za a.eval op).run P w=.ok (.value v) w')(h:wpList P ops Q rest (a.put op.dst v) w'):wpList P ops Q (op :: rest) a w:=
 wpList_plain k λK b=>by
  rw[ZY,c];exact b _ _ h
end
variable {N:Nat}
def Row.only{W':Yp}{o:I}(h:yz W k vs)(e:SP.Only b o n W W')(d:k≠b):yz W' k vs:=by
 refine⟨Yr h.1 e.size,λj v f=>?_,λj f=>?_⟩
 .rw[(e.other (c:=k) (o:=0+j) d h.1).1];exact h.2.1 j v f
 have h1:=h.2.2 j f;have g:=e.other (c:=k) (o:=0+j) d h.1;exact⟨by rw[g.1];exact h1.1,by rw[g.2];exact h1.2⟩
def bX{q y o:I}(h:SP.Only y o n w W)(e:y<w.heap.size)(f:w.heap.size<=k):SP.Only y o n w (W.setCells k q vs):=
 have b:=RG.below_setCells f _ _ _ (YH _ _)
 ⟨b.os.trans h.os,b.tape.trans h.tape,b.output.trans h.output,YA h.size b.size,λj d c=>(b.block j d).trans (h.block j d c),λp g=>(Y1 (a:=⟨y,p,G⟩) (b.block y e)).trans (h.cell p g),λp=>(ZZ (a:=⟨y,p,G⟩) (b.block y e)).trans (h.froz p)⟩
def Hid.mk'{p:Prop}(h:p):Hid p:=h
def u124:yZ 143:=yQ
def i124:gZ 143 1:=gQ
def JJ(k:R)(w:Yp)(l:k.size<=1048576):dZ 207 #[.string k] w λe w'=>∃r,e=.agg #[jZ r]/\w.heap.size<=r/\r<w'.heap.size/\hZ w' r 0 (newL k.data.toList):=by
 obtain⟨L,t⟩:=hE (newL k.data.toList);have u:L.size=32:=by rw[<-t.out];exact uY
 rw[t.out];obtain⟨f,g⟩:=yH (w.alloc (.cells #[.pointer G] 143));have n:E (yz f w.heap.size [.pointer G]/\kZ w f):=by rw[<-g.out];exact⟨aF,aD _⟩
 go_enter func207,ntmps207;go_wp2_with fail
 rw[g.out];clear g;refine(Ib k f l).mono ?_;rintro e c ⟨rfl,d,b⟩;rw[t.out]at b;have o:f.heap.size<c.heap.size:=Holds.lt b S;obtain⟨r,s⟩:=yH f.heap.size;rw[s.out]at b o⊢;have y:w.heap.size<r:=by rw[<-s.out];exact n.1.1
 have p:E (yz c w.heap.size [.pointer G]/\kZ w c/\hZ c r 0 L):=⟨n.1.below d,n.2.trans (d.mono n.2.size),b⟩
 clear d b n s;obtain⟨i,m⟩:=yH (c.setCells w.heap.size 0 [jZ r]);have q:E (yz i w.heap.size [jZ r]/\kZ w i/\hZ i r 0 L/\r<i.heap.size):=by
  rw[<-m.out];refine⟨p.1.put Z,RG.below_setCells (Ys _) _ _ _ p.2.1,λj x=>?_,by rw[setCells_size];exact o⟩;have e:=aL w.heap.size [jZ r] 0 c r S;rw[Y1 (a:=⟨r,0+j,G⟩) e,ZZ (a:=⟨r,0+j,G⟩) e];exact p.2.2 j x
 go_wp2_with (refine bY (v:=.agg #[jZ r]) (w':=c) Z (.build 143 _) Z ?_ ?_;kernel_rfl;refine E.out ?_)
 show wpList _ _ _ _ _ _;refine ZJ Z 143 _ _ Z w.heap.size 0 #[jZ r] ?_ ?_ ?_ ?_ ?_ ?_
 .kernel_rfl
 .kernel_rfl
 .exact p.1.2.2
 .exact i124
 .kernel_rfl
 rw[show(#[jZ r]).toList=[jZ r] from Z,m.out];go_wp2;refine YB (aC 2 Z q.1 Z u124 i124) Z ?_;exact⟨_,Z,q.2.1,r,Z,S,q.2.2.2,q.2.2.1⟩
def cha(N:I)(L:Bs):I:=mG N (wY L [99,104,97,108,108,101,110,103,101] 64)
end
namespace RG
variable {P:Zw}{ops:Array Y9}{Q:Exit->Act->Yp->Prop}{w:Yp}{a0:Act}{L:Array Bool}
structure Flow where
 R:I->Yq->Yp->Prop
 B:I->Yp->Prop
 E:I->Yp->Yp->Prop
 kill:I->H I
 killB:I->H I
def aP(k:yt Y9)(i:I):zb Tmp:=(k[i]?).bind (·.dst)
def depOn(b:yt Y9)(x k:I):zk:=match b[x]? with|some o=>bZ o k|none=>J
def okK(b:yt Y9)(k:I)(l:H I):zk:=l.all (λx=>x == k || depOn b x k)
def nC(b:yt Y9)(k:I)(t:Tmp):zk:=(ZD b.size).all (λi=>aP b i != F t || i == k || depOn b i k)
structure InvF(F:Flow)(ops:yt Y9)(a0:Act)(L:yt zk)(a:Act)(w:Yp):Prop where
 size:L.size=ops.size
 cl:∀(i:I) (o:Y9),ops[i]? = some o->on L i=J->∀e∈o.after,ZH .any e=J->on L e.on=J
 def':a.defers=a0.defers
 sz:a.tmps.size=a0.tmps.size
 rest:∀t:Tmp,(∀i,on L i=J->aP ops i≠some t)->a.tmps[t]? = a0.tmps[t]?
 all:∃V:I->Yq,(∀i d,on L i=J->aP ops i=some d->a.tmps[d]? = some (V i))/\(∀i,on L i=J->(∀x∈F.kill i,on L x=D)->F.R i (V i) w)
 base:∀b,(∀x∈F.killB b,on L x=D)->F.B b w
def bM(P:Zw)(Q:Exit->Act->Yp->Prop)(F:Flow)(c:yt Y9)(a0:Act)(k:I)(o:Y9):Prop:=
 ∀(a:Act) (w:Yp) (K:Act->Yp->Prop),
  (∀j d,bZ o j=J->okK c k (F.kill j)=J->aP c j=some d->F.R j (a.eval (.tmp d)) w) ->
  (∀t,nC c k t=J->a.eval (.tmp t)=a0.eval (.tmp t)) ->
  (∀b,okK c k (F.killB b)=J->F.B b w) ->
  (∀v w',F.E k w w'->F.R k v w'->K (a.put o.dst v) w')->o.wp P a w K Q
def Cf(P:Zw)(Q:Exit->Act->Yp->Prop)(F:Flow)(b:yt Y9)(a0:Act)(k:I)(o:Y9):Prop:=
 match o.guard with
 | none=>bM P Q F b a0 k o
 | some (j,want)=>bZ o j=J/\(aP b j).isSome=J/\okK b k (F.kill j)=J /\
  (((∀v w,F.R j v w->v=.bool want)/\bM P Q F b a0 k o)\/((∀v w,F.R j v w->v=.bool (!want))/\∀w,F.E k w w/\F.R k ae w))
def C7(k:yt Y9)(n:I):zk:=
 (ZD k.size).all (λi=>match k[i]? with
  | some o=>o.after.all (λe=>!ZH .any e || e.on<i) && (match o.dst with|none=>J|some d=>decide (d<n) && (ZD k.size).all (λj=>j == i || aP k j != F d))
  | none=>D)
structure RegF(P:Zw)(Q:Exit->Act->Yp->Prop)(F:Flow)(ops:yt Y9)(a0:Act)(m:I):Prop where
 chk:C7 ops a0.tmps.size=J
 cert:∀k o,k<m->ops[k]? = some o->Cf P Q F ops a0 k o
 stab:∀i j,i<m->j<m->i≠j->(F.kill j).contains i=D->depOn ops j i=D->∀v w w',F.E i w w'->F.R j v w->F.R j v w'
 stabB:∀i b,i<m->(F.killB b).contains i=D->∀w w',F.E i w w'->F.B b w->F.B b w'
variable {F:Flow}{m:Nat}
def RegF.of{o:Y9}(h:RegF P Q F ops a0 m)(ho:ops[k]? = some o):(∀e∈o.after,ZH .any e=J->e.on<k)/\∀d,o.dst=some d->d<a0.tmps.size/\∀j,aP ops j=some d->j=k:=by
 have h1:=Zf.1 h.chk k (Z6.2 ((YX.1 ho).1));rw[ho]at h1;simp only[YJ]at h1;let⟨i,b⟩:=h1
 refine⟨λe g l=>?_,λd hd=>?_⟩
 .have:=oT.1 i e g;simpa[l]using this
 rw[hd]at b;simp only[YJ,decide_eq_true_eq]at b;refine⟨b.1,λj c=>?_⟩;have f:j<ops.size:=by
  unfold aP at c;cases hx:ops[j]? with
  | none=>rw[hx]at c;cases c
  | some x=>exact(YX.1 hx).1
 have:=Zf.1 b.2 j (Z6.2 f);simpa[c]using this
def fG{o:Y9}(ho:ops[i]? = some o):aP ops i=o.dst:=by unfold aP;rw[ho];rfl
def G6{x:I}{o:Y9}(h:InvF F ops a0 L a w){ho:ops[x]? = some o}(hd:bZ o k=J)(hx:on L x=J):on L k=J:=by
 let⟨e,c,b⟩:=rz.1 hd
 simp only[YJ,beq_iff_eq]at b;rw[<-b.2];exact h.cl x o ho hx e c b.1
def IG{x:I}(h:on L x=J):x<L.size:=by
 rcases iB x L.size with h1|h1
 .exact h1
 unfold on at h;rw[YG,yt.getElem?_eq_none h1]at h;cases h
def InvF.nt(c:on L k=false)(h:InvF F ops a0 L a w)(x:I)(hx:(x == k || depOn ops x k)=J):on L x=false:=by
 cases b:on L x with
 | false=>rfl
 | true =>
  rcases tr _ _ ▸ hx with h1|h1
  .rw[show x=k by simpa using h1,c]at b;cases b
  unfold depOn at h1;have e:x<ops.size:=by rw[<-h.size];exact IG b
  have d:=Y0 e;rw[d]at h1;have:=G6 (ho:=d) h h1 b;rw[c]at this;cases this
def InvF.nx{o:Y9}{v:Yq}(R:RegF P Q F ops a0 m)(r:k<m)(W:∀i,on L i=J->i<m)(ho:ops[k]? = some o)(C:on L k=false)(q:∀e∈o.after,ZH .any e=J->on L e.on=J)(h:InvF F ops a0 L a w)(hE:F.E k w w')(hR:F.R k v w'):InvF F ops a0 (L.setIfInBounds k J) (a.put o.dst v) w':=by
 let⟨M,n⟩:=R.of ho
 have K:k<L.size:=by rw[h.size];exact(YX.1 ho).1
 have s:=fG ho;have A:=λx hx=>h.nt C x hx
 let⟨V,N,O⟩:=h.all
 have f:∀x,on (L.setIfInBounds k J) x=(on L x || k == x):=λx=>fF K
 refine⟨by rw[Zg];exact h.size,λi oi p j e X u=>?_,?_,?_,λt ht=>?_,⟨λx=>if x=k then v else V x,λi d j hd=>?_,λi j y=>?_⟩,λb u=>?_⟩
 .rw[f]at j⊢;by_cases c:k=i
  .subst c;rw[ho]at p;obtain rfl:=YR.inj p;rw[q e X u,tF]
  rw[h.cl i oi p (by simpa[c]using j) e X u,tF]
 .rw[<-h.def'];cases o.dst<;>rfl
 .rw[tD];exact h.sz
 .have h1:o.dst≠some t:=λhd=>ht k (by rw[f];simp) (by rw[s];exact hd)
  rw[pW a v h1];exact h.rest t λi j=>ht i (by rw[f,j,tF])
 .rw[f]at j;by_cases c:i=k
  .subst c;rw[s]at hd;rw[hd];show(a.tmps.setIfInBounds d v)[d]? = some (if i=i then v else V i);rw[zd (rfl:i=i)];rw[r9,zd Z,zd (by rw[h.sz];exact(n d hd).1)]
  have z:o.dst≠some d:=λl=>c ((n d l).2 i hd)
  rw[pW a v z];show _=some (if i=k then v else V i);rw[zi c];have g:¬k=i:=λe=>c e.symm
  exact N i d (by simpa[g]using j) hd
 .rw[f]at j;by_cases c:i=k
  .subst c;show F.R i (if i=i then v else V i) w';rw[zd Z];exact hR
  show F.R i (if i=k then v else V i) w';rw[zi c];have g:¬k=i:=λe=>c e.symm
  have l:on L i=J:=by simpa[g]using j
  have h1:∀x∈F.kill i,on L x=false:=λx hx=>by
   have:=y x hx;rw[f,yC0]at this;exact this.1
  have T:(F.kill i).contains k=false:=by
   cases z:(F.kill i).contains k with
   | false=>rfl
   | true =>
    have:=y k (by simpa using z);rw[f]at this;simp at this
  have h3:depOn ops i k=false:=by
   cases z:depOn ops i k with
   | false=>rfl
   | true=>rw[A i (by rw[z,zk.or_true])]at l;cases l
  exact R.stab k i r (W i l) (Ne.symm c) T h3 _ _ _ hE (O i l h1)
 have h1:∀x∈F.killB b,on L x=false:=λx hx=>by
  have:=u x hx;rw[f,yC0]at this;exact this.1
 have T:(F.killB b).contains k=false:=by
  cases z:(F.killB b).contains k with
  | false=>rfl
  | true =>
   have:=u k (by simpa using z);rw[f]at this;simp at this
 exact R.stabB k b r T _ _ hE (h.base b h1)
def LN{o:Y9}(R:RegF P Q F ops a0 m)(K:k<m)(h7:∀i,on L i=J->i<m)(ho:ops[k]? = some o)(z:on L k=D)(r:∀e∈o.after,ZH .any e=J->on L e.on=J)(h:InvF F ops a0 L a w):
 wpOp P ops Q k (InvF F ops a0 (L.setIfInBounds k J)) a w:=by
 let⟨W,h8⟩:=R.of ho
 have h9:k<L.size:=by rw[h.size];exact(YX.1 ho).1
 have ha:=fG ho;have n:=λx hx=>h.nt z x hx
 let⟨V,h0,h3⟩:=h.all
 have u:∀j d,bZ o j=J->okK ops k (F.kill j)=J->aP ops j=some d->a.tmps[d]? = some (V j)/\F.R j (V j) w:=λj d O q hd=>by
  let⟨e,f,y⟩:=rz.1 O
  simp only[YJ,beq_iff_eq]at y;have c:on L j=J:=by rw[<-y.2];exact r e f y.1
  exact⟨h0 j d c hd,h3 j c λx hx=>n x (Zf.1 q x hx)⟩
 have p:∀j d,bZ o j=J->okK ops k (F.kill j)=J->aP ops j=some d->F.R j (a.eval (.tmp d)) w:=λj d O q hd=>by
  rw[CX (u j d O q hd).1];exact(u j d O q hd).2
 have g:∀t,nC ops k t=J->a.eval (.tmp t)=a0.eval (.tmp t):=λt hf=>by
  have h1:=h.rest t λi f hd=>by
   have c:i<ops.size:=by rw[<-h.size];exact IG f
   have l:=Zf.1 hf i (Z6.2 c);rw[hd]at l;rw[n i (by simpa using l)]at f;cases f
  show a.tmps.getD t ae=a0.tmps.getD t ae;rw[YG,YG,h1]
 have l:∀b,okK ops k (F.killB b)=J->F.B b w:=λb y=>h.base b λx hx=>n x (Zf.1 y x hx)
 have f:=λv w' hE hR=>h.nx (v:=v) (w':=w') R K h7 ho z r hE hR
 have A:=R.cert k o K ho;unfold Cf at A;rw[wpOp,ho];dsimp only;cases N:o.guard with
 | none =>
  rw[N]at A;rw[Du N,zd Z];left;exact A a w _ p g l f
 | some jw =>
  let⟨j,c⟩:=jw
  rw[N]at A;let⟨h6,h5,T,s⟩:=A
  let⟨d,hd⟩:=zb.isSome_iff_exists.1 h5
  let⟨hs,M⟩:=u j d h6 T hd
  have hy:∀b,V j=.bool b->gE o (yielded ops a.tmps)=(b == c):=λb y=>by
   have X:yielded ops a.tmps j=some b:=by
    unfold aP at hd;unfold yielded;cases C:ops[j]? with
    | none=>rw[C]at hd;cases hd
    | some oj =>
     rw[C]at hd;show(match oj.dst.bind (a.tmps[·]?) with|some (.bool b)=>some b|_=>G)=_;rw[show oj.dst=some d from hd];show(match a.tmps[d]? with|some (.bool b)=>some b|_=>G)=_;rw[hs,y]
   rw[gE,N];show(yielded ops a.tmps j == some c)=_;rw[X];cases b<;>cases c<;>rfl
  rcases s with⟨X,hc⟩|⟨X,C⟩
  .rw[hy _ (X _ _ M),show(c == c)=J by cases c<;>rfl,zd Z];left;exact hc a w _ p g l f
  rw[hy _ (X _ _ M),show((!c) == c)=D by cases c<;>rfl];exact f ae w (C w).1 (C w).2
def dF(V:I->Yq):H Y9->I->Act->Act
 | [],_,a=>a
 | o :: r,i,a=>dF V r (i+1) (a.put o.dst (V i))
def nV(V:I->Yq):∀(l:H Y9) (i:I) (a:Act),(dF V l i a).defers=a.defers
 | [],_,_=>rfl
 | o :: r,i,a=>by
  rw[dF,nV V r];cases o.dst<;>rfl
def mL(V:I->Yq):∀(l:H Y9) (i:I) (a:Act) (t:Tmp),(∀o∈l,o.dst≠some t)->(dF V l i a).tmps[t]? = a.tmps[t]?
 | [],_,_,_,_=>rfl
 | o :: r,i,a,t,h=>by
  rw[dF,mL V r _ _ t (λx hx=>h x (Zd _ hx)),pW a _ (h o Zm)]
def uS(V:I->Yq):∀(l:H Y9) (i:I) (a:Act) (j:I) (o:Y9) (d:Tmp),l[j]? = some o->o.dst=some d->(∀k b,l[k]? = some b->b.dst=some d->k=j)->d<a.tmps.size->(dF V l i a).tmps[d]? = some (V (i+j))
 | [],_,_,_,_,_,h,_,_,_=>by simp at h
 | x :: r,i,a,0,o,d,h,hd,hu,hs=>by
  obtain rfl:x=o:=by simpa using h
  rw[dF,mL V r _ _ d (λy f c=>by
   let⟨k,e⟩:=rm f
   have:=hu (k+1) y (by simpa using e) c;omega),hd]
  show(a.tmps.setIfInBounds d _)[d]? = _;rw[r9,zd Z,zd hs];rfl
 | x :: r,i,a,j+1,o,d,h,hd,hu,hs=>by
  rw[dF,uS V r (i+1) _ j o d (by simpa using h) hd (λk b e c=>by
   have:=hu (k+1) b (by simpa using e) c;omega) (by rw[tD];exact hs)]
  congr 2
  omega
def InvF.done(R:RegF P Q F ops a0 m)(h:InvF F ops a0 L a w)(k:∀i,i<ops.size->on L i=J)
 (l:∀(V:I->Yq),(∀i,i<ops.size->F.kill i=[]->F.R i (V i) w)->(∀b,F.killB b=[]->F.B b w)->Q .normal (dF V ops.toList 0 a0) w):Q .normal a w:=by
 let⟨V,f,j⟩:=h.all
 have e:a=dF V ops.toList 0 a0:=by
  refine Act.ext' ?_ (by rw[nV];exact h.def');apply yEi;intro t;by_cases g:∃(i:I) (o:Y9),ops[i]? = some o/\o.dst=some t
  .let⟨i,o,ho,hd⟩:=g
   rw[f i t (k i (YX.1 ho).1) (by rw[fG ho];exact hd)];rw[uS V ops.toList 0 a0 i o t (by rw[Zz];exact ho) hd (λn p c d=>((R.of ho).2 t hd).2 n (by rw[Zz]at c;rw[fG c];exact d)) ((R.of ho).2 t hd).1,Yv]
  rw[h.rest t (λi c hd=>?_),mL V ops.toList 0 a0 t (λo d hd=>?_)]
  .let⟨i,c⟩:=rm d
   rw[Zz]at c;exact g ⟨i,o,c,hd⟩
  unfold aP at hd;cases hx:ops[i]? with
  | none=>rw[hx]at hd;cases hd
  | some x=>rw[hx]at hd;exact g ⟨i,x,hx,hd⟩
 rw[e];exact l V (λi c d=>j i (k i c) (by rw[d];simp)) (λb g=>h.base b (by rw[g];simp))
def InvF.full(R:RegF P Q F ops a0 m)(h:InvF F ops a0 L a w)(f:Y6 .any ops L=[]):∀i,i<ops.size->on L i=J:=by
 intro i;induction i using I.strongRecOn with
 | ind i ih =>
  intro c;have ho:ops[i]? = some ops[i]:=Y0 _;cases k:on L i with
  | true=>rfl
  | false =>
   have:i∈Y6 .any ops L:=mem_ready.2 ⟨?_,_,ho,λe d g=>?_⟩
   .rw[f]at this;cases this
   .unfold on at k;rw[YG,Y0 (by rw[h.size];exact c)]at k⊢;exact k
   have b:=(R.of ho).1 e d g;exact ih e.on b (I.lt_trans b c)
def Am{id:I}(F:Flow)(n:P.follows .mixedOrders=J)(R:RegF P Q F ops a0 ops.size)(r:∀b,F.B b w.drew)
 (l:∀(V:I->Yq) (w':Yp),(∀i,i<ops.size->F.kill i=[]->F.R i (V i) w')->(∀b,F.killB b=[]->F.B b w')->Q .normal (dF V ops.toList 0 a0) w'):(ZP id ops J).wp P Q a0 w:=by
 have key:∀(k:I) (L:yt zk) (a:Act) (w:Yp),unl L=k->InvF F ops a0 L a w->wpAny P .any ops Q k L a w:=by
  intro k;induction k with
  | zero =>
   intro L a w m e;have c:∀i,i<ops.size->on L i=J:=λi f=>rX m (by rw[e.size];exact f)
   refine⟨?_,e.done R c (λV=>l V w)⟩;apply yDp.2;intro i f;obtain⟨h1,o,ho,-⟩:=mem_ready.1 f;have g:=c i (YX.1 ho).1;unfold on at g;rw[YG]at h1 g;cases hh:L[i]? with
   | none=>rw[hh]at h1;cases h1
   | some b=>rw[hh]at h1 g;rw[show b=D from h1]at g;cases g
  | succ k ih =>
   intro L a w m e;refine⟨λq=>e.done R (e.full R q) (λV=>l V w),λi f=>?_⟩;let⟨h1,o,ho,g⟩:=mem_ready.1 f
   have c:on L i=D:=by
    unfold on;rw[YG]at h1⊢;cases hh:L[i]? with
    | none=>rfl
    | some b=>rw[hh]at h1;exact h1
   exact uj (λp w' j=>ih _ p w' (oN (sE h1)) j) (LN R (YX.1 ho).1 (λi f=>by rw[<-e.size];exact IG f) ho c g e)
 have c:∀i,on (YD ops.size D) i=D:=λi=>by
  rw[on,YG,yCD];by_cases h:i<ops.size
  .rw[zd h];rfl
  rw[zi h];rfl
 refine wp_region_any n (key _ _ a0 _ ?_ ⟨YN,(λi o _ h=>by rw[c]at h;cases h),Z,Z,λ_ _=>rfl,⟨λ_=>ae,λi d h=>(by rw[c]at h;cases h),λi h=>(by rw[c]at h;cases h)⟩,λb _=>r b⟩);rw[unl,yDX,yD7];simp
structure PreF(F:Flow)(ops:yt Y9)(a0:Act)(k:I)(o:Y9)(a:Act)(w:Yp):Prop where
 n:∀j d,bZ o j=J->okK ops k (F.kill j)=J->aP ops j=some d->F.R j (a.eval (.tmp d)) w
 o:∀t,nC ops k t=J->a.eval (.tmp t)=a0.eval (.tmp t)
 b:∀b,okK ops k (F.killB b)=J->F.B b w
def jQ(P:Zw)(Q:Exit->Act->Yp->Prop)(F:Flow)(b:yt Y9)(a0:Act):I->H Y9->Prop
 | _,[]=>True
 | k,o :: r=>Cf P Q F b a0 k o/\jQ P Q F b a0 (k+1) r
def AC:∀(l:H Y9) (i:I),jQ P Q F ops a0 i l->∀k o,l[k]? = some o->Cf P Q F ops a0 (i+k) o
 | [],_,_,k,o,h=>by simp at h
 | x :: r,i,hc,0,o,h=>by
  obtain rfl:x=o:=by simpa using h
  exact hc.1
 | x :: r,i,hc,k+1,o,h=>by
  have:=AC r (i+1) hc.2 k o (by simpa using h);rwa[show i+1+k=i+(k+1) by omega]at this
def NY(h:jQ P Q F ops a0 0 ops.toList):∀k o,k<ops.size->ops[k]? = some o->Cf P Q F ops a0 k o:=λk o _ ho=>by
 have:=AC ops.toList 0 h k o (by rw[Zz];exact ho);rwa[Yv]at this
def evo(ev:Tmp->Yq):Operand->Yq
 | .tmp t=>ev t
 | .const v=>v
 | .global g=>jZ g
 | .func f=>.func (.func f) #[] #[]
def cI(T:H Tmp)(o:Y9):zk:=
 (match o.op with | .select _ _=>D|_=>J) && o.op.operands.all (λx=>match x with | .tmp t=>T.contains t|_=>J)
def qG{o:Y9}(ev:Tmp->Yq)(T:H Tmp)(h:cI T o=J)(k:∀t∈T,a.eval (.tmp t)=ev t):Za a.eval o=Za (evo ev) o:=by
 simp only[cI,YJ]at h;refine execOp_congr o (λcs b k=>?_) (λx hx=>?_)
 .rw[k]at h;exact absurd h.1 (by simp)
 have h1:=oT.1 h.2 x hx;cases x with
 | tmp t=>exact k t (by simpa using h1)
 | const v=>rfl
 | global g=>rfl
 | func f=>rfl
def Db{o:Y9}(h:∀(a:Act) (w:Yp),PreF F ops a0 k o a w->∃v w',(Za a.eval o).run P w=.ok (.value v) w'/\F.E k w w'/\F.R k v w'):bM P Q F ops a0 k o:=by
 intro a w K h1 d b e;let⟨v,w',c,hE,hR⟩:=h a w ⟨h1,d,b⟩
 rw[ZY,c];exact e v w' hE hR
def oS{o:Y9}(t:Tmp)(h:∀(a:Act) (w:Yp),PreF F ops a0 k o a w->∃v w',(cI [t] o=J)/\(Za (evo λ_=>a.eval (.tmp t)) o).run P w=.ok (.value v) w'/\F.E k w w'/\F.R k v w'):bM P Q F ops a0 k o:=by
 refine Db λa w b=>?_
 let⟨v,w',hs,c,hE⟩:=h a w b
 refine⟨v,w',?_,hE⟩;rw[qG (λ_=>a.eval (.tmp t)) [t] hs (λx hx=>by rw[show x=t by simpa using hx])];exact c
def Je{o:Y9}(t:Tmp)(h:∀(a:Act) (w:Yp),PreF F ops a0 k o a w->∃f args,(cI [t] o=J)/\(Za (evo λ_=>a.eval (.tmp t)) o).run P w=.ok (.enter f args) w/\Zl P f args w (Ret λe w'=>F.E k w w'/\F.R k e w')):bM P Q F ops a0 k o:=by
 intro a w K h1 i d b;let⟨f,args,hs,c,g⟩:=h a w ⟨h1,i,d⟩
 rw[ZY,qG (λ_=>a.eval (.tmp t)) [t] hs (λx hx=>by rw[show x=t by simpa using hx]),c,rl];refine g.mono ?_;rintro e w' ⟨v,rfl,hE,hR⟩;exact b _ _ hE hR
def Dc{T:YW}{o:Y9}(t:Tmp)(ho:o.op=.load T (.tmp t))(b:(P.underlying T).map (·.isRow)=some J)(h:∀(a:Act) (w:Yp),PreF F ops a0 k o a w->∃g off cs,a.eval (.tmp t)=oZ g off/\w.rangeAt g off cs/\(P.info? T).map (·.size)=some cs.length/\F.E k w w/\F.R k (.agg cs.toArray) w):bM P Q F ops a0 k o:=by
 intro a w K h1 j i c;let⟨g,off,cs,e,f,l,hE,hR⟩:=h a w ⟨h1,j,i⟩
 let⟨d,b,hd⟩:=Yu.1 b
 exact wp_load_mid T (.tmp t) ho g off e cs d f b hd l (c _ _ hE hR)
def NX{o:Y9}(s u:Tmp)(t:YW)(ho:o.op=.call { callee:=.builtin .append,args:=#[.tmp s,.tmp u],argTypes:=#[t,t] })
 (h:∀(a:Act) (w:Yp),PreF F ops a0 k o a w->∃v w',(Zn #[t,t] o.type #[a.eval (.tmp s),a.eval (.tmp u)]).run P w=.ok v w'/\F.E k w w'/\F.R k v w'):bM P Q F ops a0 k o:=by
 intro a w K h1 e d b;let⟨v,w',c,hE,hR⟩:=h a w ⟨h1,e,d⟩
 unfold ZY Za;simp only[ho,resolve,invoke,builtin,YU,gM,Zp,H.map_toArray,H.map_cons,H.map_nil,c];exact b _ _ hE hR
def La(h:jQ P Q F ops a0 0 (ops.toList.take m)):∀k o,k<m->ops[k]? = some o->Cf P Q F ops a0 k o:=λk o b ho=>by
 have:=AC (ops.toList.take m) 0 h k o (by rw[qk,zd b,Zz];exact ho);rwa[Yv]at this
def InvF.act(R:RegF P Q F ops a0 m)(h:InvF F ops a0 L a w)(l:m<=ops.size)(c:∀i,on L i=J↔i<m)(f:∀i d,on L i=J->aP ops i=some d->a.tmps[d]? = some (V i)):a=dF V (ops.toList.take m) 0 a0:=by
 refine Act.ext' ?_ (by rw[nV];exact h.def');apply yEi;intro t;by_cases g:∃(i:I) (o:Y9),i<m/\ops[i]? = some o/\o.dst=some t
 .let⟨i,o,b,ho,hd⟩:=g
  rw[f i t ((c i).2 b) (by rw[fG ho];exact hd)];rw[uS V (ops.toList.take m) 0 a0 i o t (by rw[qk,zd b,Zz];exact ho) hd (λj n k e=>((R.of ho).2 t hd).2 j (by
   rw[qk]at k;split at k
   .rw[Zz]at k;rw[fG k];exact e
   cases k)) ((R.of ho).2 t hd).1,Yv]
 rw[h.rest t (λi k hd=>?_),mL V (ops.toList.take m) 0 a0 t (λo e hd=>?_)]
 .let⟨i,k⟩:=rm e
  rw[qk]at k;split at k
  .rename_i b
   rw[Zz]at k;exact g ⟨i,o,b,k,hd⟩
  cases k
 unfold aP at hd;cases hx:ops[i]? with
 | none=>rw[hx]at hd;cases hd
 | some x=>rw[hx]at hd;exact g ⟨i,x,(c i).1 k,hx,hd⟩
end RG
namespace RG
variable {P:Zw}{ops:Array Y9}{Q:Exit->Act->Yp->Prop}{w:Yp}{a0:Act}
def AllE(a:Act):H (Tmp × Yq)->Prop
 | []=>True
 | x :: r=>a.eval (.tmp x.1)=x.2/\AllE a r
def evl(ps:H (Tmp × Yq))(t:Tmp):Yq:=match ps.find? (λx=>x.1 == t) with|some x=>x.2|none=>ae
def AllE.mem:∀ {ps:H (Tmp × Yq)},AllE a ps->∀x∈ps,a.eval (.tmp x.1)=x.2
 | [],_,x,hx=>by cases hx
 | y :: r,h,x,hx=>by
  rcases Zb.1 hx with rfl|hx
  .exact h.1
  exact AllE.mem h.2 x hx
def AllE.ev{ps:H (Tmp × Yq)}(h:AllE a ps):∀t∈ps.map (·.1),a.eval (.tmp t)=evl ps t:=λt b=>by
 obtain⟨x,hx,rfl⟩:=YT.1 b;unfold evl;cases hf:ps.find? (λy=>y.1 == x.1) with
 | none =>
  have:=H.find?_eq_none.1 hf x hx;simp at this
 | some y =>
  have k:y.1=x.1:=by simpa using H.find?_some hf
  have:=h.mem y (H.mem_of_find?_eq_some hf);rw[k]at this;exact this
structure Gw where
 R:I->Yq->Yp->Prop
 B:Yp->Prop
 sR:∀i v w w',kZ w w'->R i v w->R i v w'
 sB:∀w w',kZ w w'->B w->B w'
def Gw.flow(G:Gw):Flow:=⟨G.R,λ_=>G.B,λ_ w w'=>kZ w w',λ_=>[],λ_=>[]⟩
structure PreG(G:Gw)(ops:yt Y9)(a0:Act)(k:I)(o:Y9)(a:Act)(w:Yp):Prop where
 n:∀j d,bZ o j=J->aP ops j=F d->G.R j (a.eval (.tmp d)) w
 o:∀t,nC ops k t=J->a.eval (.tmp t)=a0.eval (.tmp t)
 b:G.B w
variable {G:Gw}
def yW{o:Y9}(h:PreF G.flow ops a0 k o a w):PreG G ops a0 k o a w:=⟨λj d b hd=>h.n j d b Z hd,h.o,h.b 0 Z⟩
def bE{o:Y9}(h:∀(a:Act) (w:Yp),PreG G ops a0 k o a w->∃(ps:H (Tmp × Yq)) (v:Yq) (w':Yp),AllE a ps/\(cI (ps.map (·.1)) o,(Za (evo (evl ps)) o).run P w)=(J,.ok (.value v) w')/\kZ w w'/\G.R k v w'):bM P Q G.flow ops a0 k o:=
 Db λa w c=>by
  let⟨ps,v,w',b,hs,hE⟩:=h a w (yW c)
  simp only[ZV.injEq]at hs;refine⟨v,w',?_,hE⟩;rw[qG (evl ps) (ps.map (·.1)) hs.1 b.ev];exact hs.2
def fC{o:Y9}(h:∀(a:Act) (w:Yp),PreG G ops a0 k o a w->∃(ps:H (Tmp × Yq)) (f:FuncId) (args:yt Yq),AllE a ps/\(cI (ps.map (·.1)) o,(Za (evo (evl ps)) o).run P w)=(J,.ok (.enter f args) w)/\Zl P f args w (rZ w λe w'=>G.R k e w')):bM P Q G.flow ops a0 k o:=by
 intro a w K h1 i d b;let⟨ps,f,args,c,hs,g⟩:=h a w (yW ⟨h1,i,d⟩)
 simp only[ZV.injEq]at hs;rw[ZY,qG (evl ps) (ps.map (·.1)) hs.1 c.ev,hs.2,rl];refine g.mono ?_;rintro e w' ⟨v,rfl,hE,hR⟩;exact b _ _ hE hR
def jA{T:YW}{o:Y9}(t:Tmp)(ho:o.op=.load T (.tmp t))(e:(P.underlying T).map (·.isRow)=F J)(h:∀(a:Act) (w:Yp),PreG G ops a0 k o a w->∃g off cs,a.eval (.tmp t)=oZ g off/\w.rangeAt g off cs/\(P.info? T).map (·.size)=F cs.length/\G.R k (.agg cs.toArray) w):bM P Q G.flow ops a0 k o:=
 Dc t ho e λa w b=>by
  let⟨g,off,cs,h1,f,c,d⟩:=h a w (yW b)
  exact⟨g,off,cs,h1,f,c,YH _ _,d⟩
def Gw.reg(k:C7 ops a0.tmps.size=J)(h:jQ P Q G.flow ops a0 0 (ops.toList.take m)):RegF P Q G.flow ops a0 m:=
 ⟨k,La h,λi j _ _ _ _ _ v w w' hE hR=>G.sR j v w w' hE hR,λi b _ _ w w' hE c=>G.sB w w' hE c⟩
def Gw.draws{id:I}(G:Gw)(f:P.follows .mixedOrders=J)(b:C7 ops a0.tmps.size=J)(h:jQ P Q G.flow ops a0 0 (ops.toList.take ops.size))(e:G.B w.drew)
 (k:∀(V:I->Yq) (w':Yp),(∀i,i<ops.size->G.R i (V i) w')->G.B w'->Q .normal (dF V ops.toList 0 a0) w'):(ZP id ops J).wp P Q a0 w:=
 Am G.flow f (Gw.reg b h) (λ_=>e) λV w' h1 c=>k V w' (λi d=>h1 i d Z) (c 0 Z)
end RG
namespace RG
variable {P:Zw}{ops:Array Y9}{Q:Exit->Act->Yp->Prop}{w:Yp}{a0:Act}{F:Flow}
def qH{o:Y9}(ho:ops[i]? = some o)(k:∀e∈o.after,ZH .any e=J->on L e.on=J)(b:depOn ops i j=J):on L j=J:=by
 unfold depOn at b;rw[ho]at b;let⟨e,d,c⟩:=rz.1 b
 simp only[YJ,beq_iff_eq]at c;have:=k e d c.1;rw[c.2]at this;exact this
def rO(k:yt Y9):I->I->I->zk
 | 0,i,j=>depOn k i j
 | f+1,i,j=>depOn k i j || (ZD i).any (λx=>depOn k i x && rO k f x j)
def lL(k:yt Y9)(n:I):zk:=(ZD n).all (λj=>rO k 5 n j) && (ZD k.size).all (λi=>decide (i<=n) || depOn k i (i-1))
def UK(h:lL ops n=J)(b:n<i)(k:i<ops.size):depOn ops i (i-1)=J:=by
 unfold lL at h;rw[YJ]at h;have h1:=Zf.1 h.2 i (Z6.2 k);rw[tr,decide_eq_true_eq]at h1;rcases h1 with h1|h1
 .omega
 exact h1
def D6{L:yt zk}{a:Act}(c:InvF F ops a0 L a w):∀(f i j:I),i<ops.size->on L i=J->rO ops f i j=J->on L j=J
 | 0,i,j,his,hi,h=>by
  have k:=Y0 his;unfold rO depOn at h;rw[k]at h;exact G6 (ho:=k) c h hi
 | f+1,i,j,his,hi,h=>by
  have k:=Y0 his;unfold rO at h;rw[tr]at h;have hd:∀x,depOn ops i x=J->on L x=J:=λx hx=>by
   unfold depOn at hx;rw[k]at hx;exact G6 (ho:=k) c hx hi
  rcases h with h|h
  .exact hd j h
  let⟨x,hx,b⟩:=yEJ.1 h
  rw[YJ]at b;exact D6 c f x j (oN (Z6.1 hx)) (hd x b.1) b.2
def JH(C:∀i,n<i->i<ops.size->depOn ops i (i-1)=J)(y:∀(i:I) (o:Y9),ops[i]? = some o->∀e∈o.after,ZH .any e=J->e.on<i):∀(c:I) (L:yt zk) (a:Act) (w:Yp) (m:I),n<=m->m<=ops.size->L.size=ops.size->(∀j,on L j=J↔j<m)->unl L=c->wpList P ops Q (ops.toList.drop m) a w->wpAny P .any ops Q c L a w:=by
 intro c;induction c with
 | zero =>
  intro L a w m v x s k z h;have p:m=ops.size:=by
   rcases iB m ops.size with h1|h1
   .have:=rX z (i:=m) S;rw[k]at this;omega
   omega
  rw[p,<-YM,yEH]at h;refine⟨?_,h⟩;apply yDp.2;intro i q;obtain⟨h1,o,ho,-⟩:=mem_ready.1 q;have d:=(k i).2 (by rw[p];exact(YX.1 ho).1);unfold on at d;rw[YG]at h1 d;cases hh:L[i]? with
  | none=>rw[hh]at h1;cases h1
  | some b=>rw[hh]at h1 d;rw[show b=D from h1]at d;cases d
 | succ c ih =>
  intro L a w m v x s k z h;have r:∀i,i∈Y6 .any ops L->i=m:=λi q=>by
   obtain⟨h1,o,ho,l⟩:=mem_ready.1 q;have f:on L i=D:=by
    unfold on;rw[YG]at h1⊢;cases hh:L[i]? with
    | none=>rfl
    | some b=>rw[hh]at h1;exact h1
   have g:=(YX.1 ho).1;rcases I.lt_trichotomy i m with d|d|d
   .rw[(k i).2 d]at f;cases f
   .exact d
   have:=(k (i-1)).1 (qH ho l (C i S g));omega
  refine⟨λA=>?_,λi q=>?_⟩
  .rcases iB m ops.size with h1|h1
   .exfalso;have ho:ops[m]? = some ops[m]:=Y0 _;have f:on L m=D:=by
     cases t:on L m with
     | false=>rfl
     | true=>have:=(k m).1 t;omega
    have:m∈Y6 .any ops L:=mem_ready.2 ⟨?_,_,ho,λe u t=>(k e.on).2 (y m _ ho e u t)⟩
    .rw[A]at this;cases this
    unfold on at f;rw[YG,Y0 (by rw[s];exact h1)]at f⊢;exact f
   have p:m=ops.size:=S;rw[p,<-YM,yEH]at h;exact h
  obtain rfl:=r i q;obtain⟨h1,o,ho,l⟩:=mem_ready.1 q;have g:=(YX.1 ho).1;have f:ops.toList.drop i=o :: ops.toList.drop (i+1):=by
   rw[H.drop_eq_getElem_cons (by rw[YM];exact g)];have:ops.toList[i]? = some o:=by rw[Zz];exact ho
   rw[YC (by rw[YM];exact g)]at this;rw[YR.inj this]
  rw[f]at h;have t:wpOp P ops Q i (λu w'=>wpList P ops Q (ops.toList.drop (i+1)) u w') a w:=by
   rw[wpOp,ho];exact h
  refine uj (λu w' K=>ih _ u w' (i+1) S S (by rw[Zg];exact s) (λj=>?_) (oN (sE h1)) K) t;rw[fF (by rw[s];omega)];constructor
  .intro p;rw[tr]at p;rcases p with p|p
   .have:=(k j).1 p;omega
   have:i=j:=by simpa using p
   omega
  intro p;by_cases d:j<i
  .rw[(k j).2 d,tF]
  rw[show j=i by omega];simp
def WX:∀(k:I) (L:yt zk) (a:Act) (w:Yp),wpAny P .any ops Q k L a w->anyS P ops Q (λ_ _=>True) k L a w
 | 0,_,_,_,h=>h
 | k+1,_,_,_,h=>⟨h.1,λi b=>uj (λd w' c=>⟨trivial,WX k _ d w' c⟩) (h.2 i b)⟩
def oQ(k:yt Y9)(n:I)(late:H I):zk:=(ZD n).all (λj=>late.contains j || rO k 5 n j) && (ZD k.size).all (λi=>decide (i<=n) || depOn k i (i-1))
def AB{late:H I}(h:oQ ops n late=J)(b:n<i)(k:i<ops.size):depOn ops i (i-1)=J:=by
 unfold oQ at h;rw[YJ]at h;have h1:=Zf.1 h.2 i (Z6.2 k);rw[tr,decide_eq_true_eq]at h1;rcases h1 with h1|h1
 .omega
 exact h1
structure LateP(P:Zw)(F:Flow)(ops:yt Y9)(n:I)(late:H I)(j:I):Prop where
 lt:j<n
 o:∃o,ops[j]? = some o/\o.guard=G/\(∀i oi,ops[i]? = some oi->i≠j->(i∈late\/n<=i)->(∀e∈oi.after,ZH .any e=J->e.on≠j)->o.apart ops oi=J)/\(∃p op,n<=p/\ops[p]? = some op/\∃e∈op.after,ZH .any e=J/\e.on=j)/\(∀e∈o.after,ZH .any e=J->e.on<n/\e.on ∉ late)/\∃j' t,bZ o j'=J/\aP ops j'=some t/\F.kill j'=[]/\∀v w,F.R j' v w->∃u,F.R j u w/\F.E j w w/\∀(a:Act) (W:Yp),a.eval (.tmp t)=v->(Za a.eval o).run P W=.ok (.value u) W
def Al{id:I}(F:Flow)(late:H I)(Z:yt zk->Act->Prop)(k7:∀j∈late,LateP P F ops n late j/\(∀c (a:Act) t v w,Q (.panic c) (a.put (some t) v) w->Q (.panic c) a w)/\Region.noSelect ops=J/\∀(o:Y9) (L:yt zk) (a:Act) (w:Yp) (u:Yq),ops[j]? = some o->InvF F ops a0 L a w->Z L a->Z (L.setIfInBounds j J) (a.put o.dst u))(hn:n<ops.size)(hc:oQ ops n late=J)(hm:P.follows .mixedOrders=J)(R:RegF P Q F ops a0 n)(hB:∀b,F.B b w.drew)(hZ:∀L,(∀i,on L i=D)->Z L a0)(kf:∀(k:I) (o:Y9) (L:yt zk) (a:Act) (w:Yp),k<n->(∀i,on L i=J->i<n)->ops[k]? = some o->on L k=D->(∀e∈o.after,ZH .any e=J->on L e.on=J)->InvF F ops a0 L a w->Z L a->wpOp P ops Q k (λa' w'=>InvF F ops a0 (L.setIfInBounds k J) a' w'/\Z (L.setIfInBounds k J) a') a w)(hp:∀(V:I->Yq) (w':Yp),(∀i,i<n->F.kill i=[]->F.R i (V i) w')->(∀b,F.killB b=[]->F.B b w')->(∃L a,Z L a/\∀i,i<n->on L i=J/\∀d,aP ops i=some d->a.tmps[d]? = some (V i))->wpList P ops Q (ops.toList.drop n) (dF V (ops.toList.take n) 0 a0) w'):(ZP id ops J).wp P Q a0 w:=by
 have kc:∀(i:I) (o:Y9),ops[i]? = some o->∀e∈o.after,ZH .any e=J->e.on<i:=λi o ho=>(R.of ho).1
 have key:∀(q:I) (L:yt zk) (a:Act) (w:Yp),unl L=q->(∀j,n<=j->on L j=D)->InvF F ops a0 L a w->Z L a->wpAny P .any ops Q q L a w:=by
  intro q;induction q with
  | zero =>
   intro L a w hu f s hS;have:=rX hu (by rw[s.size];omega);rw[f n (Ys _)]at this;cases this
  | succ q ih =>
   intro L a w hu f s hS;by_cases m:∀j,j<n->j ∉ late->on L j=J
   .by_cases h8:∃j,j∈late/\on L j=D
    .obtain⟨j,r,z⟩:=h8;obtain⟨⟨k3,o,ho,hg,k8,⟨p,op,k6,hz,k4⟩,hw,j',t,k5,k2,ka,h7⟩,hQ,hs,k0⟩:=k7 j r;have A:∀x∈F.kill j',on L x=D:=λx hx=>by rw[ka]at hx;cases hx
     obtain⟨V,O,h5⟩:=s.all;have g:∀e∈o.after,ZH .any e=J->on L e.on=J:=λe he hb=>m _ (hw e he hb).1 (hw e he hb).2
     obtain⟨e,he,T⟩:=rz.1 k5;simp only[YJ,beq_iff_eq]at T;have y:on L j'=J:=by rw[<-T.2];exact g e he T.1
     obtain⟨u,ke,k9,k1⟩:=h7 (V j') w (h5 j' y A);have ht:=(YX.1 ho).1;have h9:L.getD j J=D:=by
      unfold on at z;rw[YG,Y0 (by rw[s.size];exact ht)]at z⊢;exact z
     have hq:∀i,on L i=J->i<n:=λi C=>by
      rcases iB i n with h|h
      .exact h
      rw[f i h]at C;cases C
     have N:=s.nx R k3 hq ho z g k9 ke;have hy:=ih (L.setIfInBounds j J) (a.put o.dst u) w (oN (sE h9)) (λi C=>by
      rw[fF (by rw[s.size];exact ht),f i C];simp only[yD3,beq_eq_false_iff_ne];omega) N (k0 o L a w u ho s hS)
     refine anyS.any _ _ _ _ (anyS.first (S:=λ_ _=>True) (p:=p) ho hz k4 oM (λ_ _ _=>trivial) (Region.noSelect_spec hs) (λc a w h=>by
      cases hd:o.dst with
      | none=>rw[hd]at h;exact h
      | some t=>rw[hd]at h;exact hQ c a t u w h) q L a w ?_ (λi oi M kb h6 kd=>k8 i oi M kb (by
      rcases iB i n with h|h
      .by_cases ha:i∈late
       .exact Y3 ha
       have X:=m i h ha;have K:=(YX.1 M).1;unfold on at X;rw[YG,Y0 (by rw[s.size];exact K)]at X h6;exact zk.noConfusion (X.symm.trans h6)
      exact YZ h) kd) (mem_ready.2 ⟨h9,o,ho,?_⟩) (Y3 ⟨bT hg,λW _=>k1 a W (CX (O j' t y k2))⟩) ⟨#[],by simp,yw⟩ trivial (WX q _ _ _ hy))
     .have:=f p k6;unfold on at this;exact this
     intro e he hb;exact g e he hb
    have y:∀j,j<n->on L j=J:=λj r=>by
     by_cases T:j∈late
     .cases h:on L j with
      | true=>rfl
      | false=>exact absurd ⟨j,T,h⟩ h8
     exact m j r T
    have z:∀j,on L j=J↔j<n:=λj=>⟨λr=>(by
     rcases iB j n with h|h
     .exact h
     rw[f j h]at r;cases r),y j⟩
    obtain⟨V,O,h5⟩:=s.all;have A:∀l:H I,l=[]->∀x∈l,on L x=D:=λl hl x hx=>by rw[hl]at hx;cases hx
    have h0:=hp V w (λj r hk=>h5 j (y j r) (A _ hk)) (λb hb=>s.base b (A _ hb)) ⟨L,a,hS,λi C=>⟨y i C,λd hd=>O i d (y i C) hd⟩⟩;rw[<-(s.act R oM z O)]at h0;exact JH (λi h1 X=>AB hc h1 X) kc _ L a w n (Ys _) oM s.size z hu h0
   refine⟨λO=>?_,λi C=>?_⟩
   .exact absurd (λj r _=>s.full R O j oM) m
   obtain⟨h1,o,ho,g⟩:=mem_ready.1 C;have K:=(YX.1 ho).1;have M:on L i=D:=by
    unfold on;rw[YG]at h1⊢;cases hh:L[i]? with
    | none=>rfl
    | some b=>rw[hh]at h1;exact h1
   have A:i<n:=by
    rcases iB i n with h|h
    .exact h
    exfalso;rcases iB n i with X|X
    .have:=qH ho g (AB hc X K);rw[f (i-1) oM]at this;cases this
    obtain rfl:i=n:=oM;refine m λj r T=>?_
    unfold oQ at hc;rw[YJ]at hc;have y:=Zf.1 hc.1 j (Z6.2 r);rw[tr]at y;replace y:=y.resolve_left (by simpa using T);unfold rO at y;rw[tr]at y;rcases y with y|y
    .exact qH ho g y
    obtain⟨x,hx,z⟩:=yEJ.1 y;rw[YJ]at z;exact D6 s 4 x j (oN (Z6.1 hx)) (qH ho g z.1) z.2
   refine uj (λa' w' N=>ih _ a' w' (oN (sE h1)) (λj r=>?_) N.1 N.2) (kf i o L a w A (λj r=>?_) ho M g s hS)
   .rw[fF (by rw[s.size];exact K),f j r];simp only[yD3,beq_eq_false_iff_ne];omega
   rcases iB j n with h|h
   .exact h
   rw[f j h]at r;cases r
 have f:∀i,on (YD ops.size D) i=D:=λi=>by
  rw[on,YG,yCD];by_cases h:i<ops.size
  .rw[zd h];rfl
  rw[zi h];rfl
 refine wp_region_any hm (key _ _ a0 _ ?_ (λj _=>f j) ⟨YN,(λi o _ h=>by rw[f]at h;cases h),rfl,rfl,λ_ _=>rfl,⟨λ_=>ae,λi d h=>(by rw[f]at h;cases h),λi h=>(by rw[f]at h;cases h)⟩,λb _=>hB b⟩ (hZ _ f));rw[unl,yDX,yD7];simp
def GY{id:I}(F:Flow)(Z:yt zk->Act->Prop)(j:n<ops.size)(q:lL ops n=J)(l:P.follows .mixedOrders=J)(R:RegF P Q F ops a0 n)(p:∀b,F.B b w.drew)(m:∀L,(∀i,on L i=D)->Z L a0)(c:∀(k:I) (o:Y9) (L:yt zk) (a:Act) (w:Yp),k<n->(∀i,on L i=J->i<n)->ops[k]? = some o->on L k=D->(∀e∈o.after,ZH .any e=J->on L e.on=J)->InvF F ops a0 L a w->Z L a->wpOp P ops Q k (λf w'=>InvF F ops a0 (L.setIfInBounds k J) f w'/\Z (L.setIfInBounds k J) f) a w)(g:∀(V:I->Yq) (w':Yp),(∀i,i<n->F.kill i=[]->F.R i (V i) w')->(∀b,F.killB b=[]->F.B b w')->(∃L a,Z L a/\∀i,i<n->on L i=J/\∀d,aP ops i=some d->a.tmps[d]? = some (V i))->wpList P ops Q (ops.toList.drop n) (dF V (ops.toList.take n) 0 a0) w'):(ZP id ops J).wp P Q a0 w:=
 Al F [] Z (λ_ h=>by cases h) j (by simpa[lL,oQ]using q) l R p m c g
def GZ{id:I}(F:Flow)(f:n<ops.size)(p:lL ops n=J)(g:P.follows .mixedOrders=J)(R:RegF P Q F ops a0 n)(l:∀b,F.B b w.drew)(d:∀(V:I->Yq) (w':Yp),(∀i,i<n->F.kill i=[]->F.R i (V i) w')->(∀b,F.killB b=[]->F.B b w')->wpList P ops Q (ops.toList.drop n) (dF V (ops.toList.take n) 0 a0) w'):(ZP id ops J).wp P Q a0 w:=
 GY F (λ_ _=>True) f p g R l (λ_ _=>trivial) (λk o L a w h1 c m j e q _=>uj (λ_ _ h=>⟨h,yw⟩) (LN R h1 c m j e q)) λV w' h1 c _=>d V w' h1 c
def Gw.tail2{id:I}(G:Gw)(n:I)(k:(decide (n<ops.size) && lL ops n)=J)(g:P.follows .mixedOrders=J)(c:C7 ops a0.tmps.size=J)(h:jQ P Q G.flow ops a0 0 (ops.toList.take n))(f:G.B w.drew)
 (b:∀(V:I->Yq) (w':Yp),(∀i,i<n->G.R i (V i) w')->G.B w'->wpList P ops Q (ops.toList.drop n) (dF V (ops.toList.take n) 0 a0) w'):(ZP id ops J).wp P Q a0 w:=by
 rw[YJ,decide_eq_true_eq]at k;exact GZ G.flow k.1 k.2 g (Gw.reg c h) (λ_=>f) λV w' h1 d=>b V w' (λi e=>h1 i e Z) (d 0 Z)
end RG
namespace SP
attribute [local go_sem] dA dV dJ rC
def fN{a b:Y}(k:0<=a/\a<=1000)(c:0<=b/\b<=1000)(h:a%5+5*(b%5)=(n:Y)):
 cZ 244 #[iZ a,iZ b] w λe w'=>e=.returned (iZ n)/\w'=w:=by
 let⟨g,d⟩:=k
 let⟨b1,f⟩:=c
 rw[<-h];clear h;go_enter func244,ntmps244;go_wp2;go_ret;exact⟨Z,Z⟩
theorem Ew(x:BitVec 64)(b:k<64):
 Zl prog 245 #[.int .u64 (u x),.int .i64 k] w λe w'=>e=.returned (.int .u64 (u (rol x k)))/\∃n,w'=w.drewN n:=by
 have h1:(0:Y)<=64-(k:Y):=S;have g:(64:Y)-(k:Y)<=64:=S;have c:(k:Y)<=64:=S;have f:YQ.wrap (64-(k:Y))=64-(k:Y):=ZG _ S;have d:((64:Y)-(k:Y)).toNat=64-k:=S;have s1:=Bw x k;have s2:=Ip x (64-k);go_enter func245,ntmps245;go_wp2;go_quiet (fail);go_wp2;go_ret;refine⟨ret_int ?_,_,Z⟩;rfl
def QL(t:I)(w:Yp)(n:t<=1000):
 cZ 246 #[iZ t] w λe w'=>e=.returned (U (u (QM t)))/\w'=w:=by
 go_enter func246,ntmps246;go_wp2
 go_loop [3,4] (λs3 s4=>∃(i q:I),i<=t/\s4=iZ i/\s3=iZ q/\q<256/\E (DX i=q)) (λ_ s4=>t-(intOf s4).toNat)
 exact⟨0,1,S,Z,Z,dC,Z⟩;obtain⟨i,q,o,rfl,rfl,d,g⟩:=hrel;by_cases m:i<t
 .have j:=Mt d;rw[Y.mul_comm]at j;have b:=yS d;have f:E (DX (i+1)=mZ q):=by show mZ (DX i)=_;rw[g.out]
  by_cases k:255<2*q
  .have c:E (mZ q=2*q ^^^ 369):=zd k;rw[c.out]at b;generalize 2*q ^^^ 369=l at *;go_wp2
   go_round
   case rel=>exact⟨i+1,l,S,by go_num,Z,b,by rw[f.out,c.out];rfl⟩
   case measure=>simp[intOf];omega
  have c:E (mZ q=2*q):=zi k;go_wp2
  go_round
  case rel=>exact⟨i+1,2*q,S,by go_num,by go_num,S,by rw[f.out,c.out];rfl⟩
  case measure=>simp[intOf];omega
 have b:=Mv d;have k:i=t:=S;subst k;go_wp2;go_ret;rw[QM,g.out];exact⟨Z,Z⟩
end SP
namespace SP
attribute [local go_sem] dA dV dJ rC
def Gp(k:j<7):min (Zk.wrap (Zk.wrap ((2:Y)^j)-1)).toNat 64=2^j-1:=by
 have H:∀j:B 7,min (Zk.wrap (Zk.wrap ((2:Y)^j.val)-1)).toNat 64=2^j.val-1:=dK;exact H ⟨j,k⟩
def C6(r:I)(w:Yp)(g:r<24):
 cZ 238 #[iZ r] w λe w'=>e=.returned (U (u (G8 r)))/\w'=w:=by
 go_enter func238,ntmps238;go_wp2
 go_loop [3,4] (λs3 s4=>∃(j:I) (c:BitVec 64),j<=7/\s4=iZ j/\s3=U (u c)/\E (EO r j=c)) (λ_ s4=>7-(intOf s4).toNat)
 exact⟨0,0,S,Z,Z,Z⟩;obtain⟨j,c,i,rfl,rfl,f⟩:=hrel;by_cases d:j<7
 .have b:(j:Y)<=6:=S;go_wp2_with fail
  rw[show(j:Y)+7*(r:Y)=((j+7*r:I):Y) from by omega];apply(QL (j+7*r) _ S).mono;rintro e w' ⟨rfl,rfl⟩;go_wp2
  go_round
  case rel =>
   refine⟨j+1,EO r (j+1),S,by go_num,?_,Z⟩;rw[Gp d,Bw,dJ];show _=U (u (EO r j ||| QM (j+7*r) <<< (2^j-1)));rw[f.out]
  case measure=>simp[intOf];omega
 have b:¬(j:Y)<=6:=S;have k:j=7:=S;subst k;go_wp2;go_ret;rw[G8,f.out];exact⟨Z,Z⟩
def Ph:prog.underlying 305=F (.slice 3):=kR
def info3:(prog.info? 3).map (λi=>(i.zero,i.size,i.bytes))=F (F (iZ 0),1,8):=kR
def UY{off:I}{d:yt I}(h:yx encI w b off d)(k:i<d.size){x:I}(hx:d[i]! = x):
 w.cell? ⟨b,off+i,G⟩=F (iZ x)/\w.frozen? ⟨b,off+i,G⟩=D:=by
 rw[<-hx];exact h i k
def offs_int'{t:I}(h:t<24):(wrap64 ((wrap64 (((t:Y)+1)*((t:Y)+2))).tdiv 2)).tmod 64=(zK t:Y):=by
 have H:∀j:B 24,(wrap64 ((wrap64 (((j.val:Y)+1)*((j.val:Y)+2))).tdiv 2)).tmod 64=(zK j.val:Y):=dK;exact H ⟨t,h⟩
def Ej(w:Yp):
 Zl prog 236 #[] w λe w'=>e=.returned (.slice (F ⟨w.heap.size,0,G⟩) 25 25)/\Below w.heap.size w w'/\yx encI w' w.heap.size 0 cU:=by
 have s:∀w:Yp,(pq 305 (.int .i64 25) (.int .i64 25)).run prog w=.ok (.slice (F ⟨w.heap.size,0,G⟩) 25 25) (w.alloc (.cells (madeCells #[.int .i64 0] 25) 3)):=
  uq (P:=prog) 305 3 (.int .i64 0) 8 Ph info3 Z .i64 .i64 25 S S
 go_enter func236,ntmps236;go_wp2;generalize b:(w.alloc _)=q;go_loopg [2,3,4] 24 (λg sx r st wr=>∃t T,t+g=24/\st=.int .i64 (t:I)/\sx=.int .i64 (T.x:I)/\r=.int .i64 (T.y:I)/\yx encI wr w.heap.size 0 T.o/\Only w.heap.size 0 25 q wr/\E (T=lH t))
 case atStart =>
  refine⟨0,lH 0,Z,Z,Z,Z,?_,Only.refl _ _ _ _,Z⟩;rw[<-b];exact Holds.made (enc:=encI) w 3 25 0
 case round =>
  obtain⟨t,⟨x,y,o⟩,z,rfl,rfl,rfl,j,m,l⟩:=hrel;have k:=P9 t;rw[<-l.out]at k;obtain⟨hx,u,hs⟩:=k;dsimp only at hx u hs j;by_cases n:t<24
  .obtain⟨i,v⟩:=vH (x%5+5*(y%5));obtain⟨c,f⟩:=j i S;rw[Yv]at c f;have d:=mk1 (v);go_wp2_with fail
   apply(fN (a:=(x:Y)) (b:=(y:Y)) (n:=i) S S (oN d)).mono;rintro e w' ⟨rfl,rfl⟩;have p:=offs_int' (t:=t) n;go_wp2;go_roundg (gk-1)
   case measure=>omega
   case rel =>
    refine⟨t+1,⟨y,(2*x+3*y)%5,o.setIfInBounds i (zK t)⟩,S,by go_num,Z,by go_num,?_,?_,?_⟩
    .have:=Holds.set j (i:=i) S (zK t);rw[Yv]at this;exact this
    .exact m.setCell (o:=i) S S _
    .show _=(Of.mk (lH t).y ((2*(lH t).x+3*(lH t).y)%5) ((lH t).o.setIfInBounds ((lH t).x%5+5*((lH t).y%5)) (zK t)));rw[<-l.out];dsimp only;rw[d.out]
  .have d:t=24:=S;subst d;go_wp2;go_ret;refine⟨Z,?_,?_⟩
   .rw[<-b]at m;exact m.fresh
   .rw[cU,<-l.out];exact j
end SP
namespace SP
attribute [local go_sem] dA dV dJ rU rC
def Co:prog.underlying 304=F (.slice 22):=kR
def GO:(prog.info? 22).map (λi=>(i.zero,i.size,i.bytes))=F (F (U 0),1,8):=kR
theorem JK(ab tb:I)(a:St)(m:yt I)(c:BitVec 64)(w:Yp)(ha:a.size=25)(ht:m.size=25)(hA:yx enc w ab 0 a)(hT:yx encI w tb 0 m)(kj:∀i,i<25->m[i]! < 64):
 Zl prog 237 #[.slice (F ⟨ab,0,G⟩) 25 25,.slice (F ⟨tb,0,G⟩) 25 25,.int .u64 (u c)] w λe w'=>∃r,e=.returned (.slice (F ⟨r,0,G⟩) 25 25)/\w.heap.size<=r/\Below w.heap.size w w'/\yx enc w' r 0 (eT a m c):=by
 have hr:=Holds.lt hA S;have k6:=Holds.lt hT S;have hn:∀w:Yp,(pq 304 (.int .i64 5) (.int .i64 5)).run prog w=.ok (.slice (F ⟨w.heap.size,0,G⟩) 5 5) (w.alloc (.cells (madeCells #[.int .u64 0] 5) 22)):=
  uq (P:=prog) 304 22 (.int .u64 0) 8 Co GO Z .i64 .i64 5 S S
 have t:∀w:Yp,(pq 304 (.int .i64 25) (.int .i64 25)).run prog w=.ok (.slice (F ⟨w.heap.size,0,G⟩) 25 25) (w.alloc (.cells (madeCells #[.int .u64 0] 25) 22)):=
  uq (P:=prog) 304 22 (.int .u64 0) 8 Co GO Z .i64 .i64 25 S S
 have T:E _:=t;clear t;go_enter func237,ntmps237;go_wp2;clear hn;have h4:yx enc (w.alloc (.cells (madeCells #[.int .u64 0] 5) 22)) w.heap.size 0 (oP a 0):=Holds.made (enc:=enc) w 22 5 0;have C:Below w.heap.size w (w.alloc (.cells (madeCells #[.int .u64 0] 5) 22)):=(YH _ _).alloc (Ys _) _;generalize hg:(w.alloc _)=W1 at h4 C⊢;have k2:w.heap.size<W1.heap.size:=by rw[<-hg];simp
 have hu:=Holds.below hA C hr;have ki:=Holds.below hT C k6;clear hg;go_loopg [8] 5 (λg s8 wr=>∃(x:I) (ck:St),x+g=5/\s8=.int .i64 x/\yx enc wr w.heap.size 0 ck/\Only w.heap.size 0 5 W1 wr/\E (ck=oP a x))
 case atStart=>exact⟨0,_,Z,Z,h4,Only.refl _ _ _ _,Z⟩
 case round =>
  obtain⟨x,ck,hx,rfl,hC,n,HE⟩:=hrel;have kb:ck.size=5:=by rw[HE.out,Ha]
  by_cases O:x<5
  .have l5:(x:Y)<5:=S;go_wp2;go_loopg [9] 5 (λg s9 V=>∃(y:I) (d:St),y+g=5/\s9=.int .i64 y/\yx enc V w.heap.size 0 d/\Only w.heap.size 0 5 W1 V/\E (d=Av a x ck y))
   case atStart=>exact⟨0,ck,Z,Z,hC,n,Z⟩
   case round =>
    obtain⟨y,d,hy,rfl,f,k,b⟩:=hrel;have l:d.size=5:=by rw[b.out,Au,kb]
    by_cases Q:y<5
    .have h7:=Holds.other hu k S S;obtain⟨z,L⟩:∃z,a[x+5*y]! = z:=⟨_,Z⟩
     obtain⟨v,hv⟩:∃z,d[x]! = z:=⟨_,Z⟩
     obtain⟨q,N⟩:=aT h7 (i:=(x+5*y)) S L;obtain⟨c1,f1⟩:=aT f (i:=x) S hv;rw[Yv]at q c1 f1;have HZ:E (a[x+5*y]! = z):=L;have HV:E (d[x]! = v):=hv;obtain⟨i,W⟩:=vH (x+5*y);rw[W]at q;have Hi:E (x+5*y=i):=W;have ke:i<25:=S;have hm:(i:Y)<25:=S;have y5:(y:Y)<5:=S;clear L hv W N;go_wp2_with fail
     refine wp_region_still_tail 14 mixed kR ?_;simp only[ts,qt,uw,ux];repeat still_step
     still_call (fN (a:=(x:Y)) (b:=(y:Y)) (n:=i) S S (oN Hi.out))
     repeat still_step
     refine wpStill_nil ?_;go_wp2;go_roundg (gk-1)
     case measure=>omega
     case rel =>
      refine⟨y+1,bJ d x z,S,by go_num,?_,?_,?_⟩
      .have:=Holds.xor f (i:=x) S HV.out z;rw[Yv]at this;exact Holds.drew this
      .exact(k.setCell (o:=x) S S _).drew
      .show _=bJ (Av a x ck y) x a[x+5*y]!;rw[HZ.out,b.out]
    .have K:y=5:=S;subst K;go_wp2;go_roundg (4-x)
     case measure=>omega
     case rel =>
      refine⟨x+1,d,S,by go_num,f,k,?_⟩;show _=Av a x (oP a x) 5;rw[b.out,HE.out]
  .have s:x=5:=S;subst s;have k0:Below w.heap.size w wr:=C.trans (n.below S (Ys _));have kf:w.heap.size<wr.heap.size:=Yr k2 n.size;clear O hx h4 C k2 hu ki n;have X:=T.out;go_wp2;clear X;have h0:yx enc (wr.alloc (.cells (madeCells #[.int .u64 0] 25) 22)) wr.heap.size 0 (oD a m ck 0):=Holds.made (enc:=enc) wr 22 25 0;have l:Below wr.heap.size wr (wr.alloc (.cells (madeCells #[.int .u64 0] 25) 22)):=(YH _ _).alloc (Ys _) _;generalize hw:(wr.alloc _)=W3 at h0 l⊢;have k4:wr.heap.size<W3.heap.size:=by rw[<-hw];simp
   have k1:=Holds.below hC l kf;have M:=k0.trans (l.mono S);have hk:=Holds.below hA M hr;have k7:=Holds.below hT M k6;clear hw l k0 hC;generalize kx:wr.heap.size=MB at *;go_loopg [11] 5 (λg s11 wr=>∃(x:I) (mk:St),x+g=5/\s11=.int .i64 x/\yx enc wr MB 0 mk/\Only MB 0 25 W3 wr/\E (mk=oD a m ck x))
   case atStart=>exact⟨0,_,Z,Z,h0,Only.refl _ _ _ _,Z⟩
   case round =>
    obtain⟨x,mk,hx,rfl,hM,n,hc⟩:=hrel;have kk:mk.size=25:=by rw[hc.out,GI]
    by_cases O:x<5
    .have hq:=Holds.other k1 n S S;obtain⟨y0,h9⟩:∃z,ck[(x+4)%5]! = z:=⟨_,Z⟩
     obtain⟨y1,A⟩:∃z,ck[(x+1)%5]! = z:=⟨_,Z⟩
     obtain⟨q,N⟩:=aT hq (i:=((x+4)%5)) S h9;obtain⟨c1,f1⟩:=aT hq (i:=((x+1)%5)) S A;rw[Yv]at q c1;have HD:E (bQ ck x=y0 ^^^ rol y1 1):=by rw[<-h9,<-A];rfl
     clear h9 A N f1;have l5:(x:Y)<5:=S;have q1:0<=((x:Y)+4)%5:=S;have q2:((x:Y)+4)%5<5:=S;have q3:(((x:Y)+4)%5).toNat=(x+4)%5:=S;have q4:0<=((x:Y)+1)%5:=S;have q5:((x:Y)+1)%5<5:=S;have q6:(((x:Y)+1)%5).toNat=(x+1)%5:=S;go_wp2_with fail
     go_quiet ((go_at_call 245;exact Calls.quiet_of (Ew _ (k:=1) dC)));clear q c1 q1 q2 q3 q4 q5 q6;go_wp2;have ka:=Holds.drewN hM nq;have kd:=n.drewN nq;generalize y0 ^^^ rol y1 1=dv at *;go_loopg [13] 5 (λg s13 V=>∃(y:I) (my:St),y+g=5/\s13=.int .i64 y/\yx enc V MB 0 my/\Only MB 0 25 W3 V/\E (my=zQ a m x dv mk y))
     case atStart=>exact⟨0,mk,Z,Z,ka,kd,Z⟩
     case round =>
      obtain⟨y,my,hy,rfl,d,k,b⟩:=hrel;have km:my.size=25:=by rw[b.out,zO,kk]
      by_cases Q:y<5
      .have h7:=Holds.other hk k S S;have k9:=Holds.other k7 k S S;obtain⟨z,L⟩:∃z,a[x+5*y]! = z:=⟨_,Z⟩
       obtain⟨tv,f⟩:∃z,m[x+5*y]! = z:=⟨_,Z⟩
       obtain⟨q,N⟩:=aT h7 (i:=(x+5*y)) S L;obtain⟨c1,f1⟩:=UY k9 (i:=(x+5*y)) S f;have kg:tv<64:=by rw[<-f];exact kj _ S
       obtain⟨i,W⟩:=vH (x+5*y);obtain⟨j,hj⟩:=vH (y%5+5*((2*x+3*y)%5));obtain⟨c2,f2⟩:=d j S;rw[Yv]at q c1 c2 f2;rw[W]at q c1;have Hi:E (x+5*y=i):=W;have Hj:E (y%5+5*((2*x+3*y)%5)=j):=hj;have HZ:E (a[x+5*y]! = z):=L;have HT:E (m[x+5*y]! = tv):=f;have ke:i<25:=S;have ku:j<25:=S;have hm:(i:Y)<25:=S;have ko:(j:Y)<25:=S;have y5:(y:Y)<5:=S;have s1:YQ.wrap (2*(x:Y))=2*(x:Y):=ZG _ S;have s2:YQ.wrap (3*(y:Y))=3*(y:Y):=ZG _ S;have s3:YQ.wrap (2*(x:Y)+3*(y:Y))=2*(x:Y)+3*(y:Y):=ZG _ S;clear L f W hj N f1;go_wp2_with fail
       have P1:∀w,E (Zl prog 244 #[.int .i64 y,.int .i64 (2*(x:Y)+3*(y:Y))] w λe w'=>e=.returned (.int .i64 j)/\w'=w):=λw=>fN (n:=j) (w:=w) S S (oN Hj.out)
       have P2:∀w,E (Zl prog 244 #[.int .i64 x,.int .i64 y] w λe w'=>e=.returned (.int .i64 i)/\w'=w):=λw=>fN (n:=i) (w:=w) S S (oN Hi.out)
       go_region_with (first|(go_at_call_of 244 (ZO YQ (x:Y));refine yEh (P2 _).out ?_;rintro e w2 ⟨rfl,rfl⟩)|(go_at_call 244;refine yEh (P1 _).out ?_;rintro e w2 ⟨rfl,rfl⟩)|(go_at_call 245;refine(Ew (z ^^^ dv) (k:=tv) kg).mono ?_;rintro e w2 ⟨rfl,n2,rfl⟩))
       all_goals
        go_wp2;go_roundg (gk-1)
        case measure=>omega
        case rel =>
         refine⟨y+1,my.setIfInBounds j (rol (z ^^^ dv) tv),S,by go_num,?_,?_,?_⟩
         .have:=Holds.set (Holds.drewN d (1+n2)) (i:=j) S (rol (z ^^^ dv) tv);rw[Yv]at this;exact this
         .exact(k.drewN (1+n2)).setCell (o:=j) S S _
         .show _=(zQ a m x dv mk y).setIfInBounds (y%5+5*((2*x+3*y)%5)) (rol (a[x+5*y]! ^^^ dv) m[x+5*y]!);rw[HZ.out,HT.out,Hj.out,b.out]
      .have K:y=5:=S;subst K;go_wp2;go_roundg (4-x)
       case measure=>omega
       case rel =>
        refine⟨x+1,my,S,by go_num,d,k,?_⟩;show _=zQ a m x (bQ ck x) (oD a m ck x) 5;rw[b.out,hc.out,HD.out]
    .have s:x=5:=S;subst s;have hp:Below w.heap.size w wr:=M.trans (n.below S S);have kc:MB<wr.heap.size:=Yr k4 n.size;clear O hx M k4 hk k7 k1 h0 n;have X:=T.out;go_wp2;clear X;have k3:yx enc (wr.alloc (.cells (madeCells #[.int .u64 0] 25) 22)) wr.heap.size 0 (qY mk 0):=Holds.made (enc:=enc) wr 22 25 0;have f:Below wr.heap.size wr (wr.alloc (.cells (madeCells #[.int .u64 0] 25) 22)):=(YH _ _).alloc (Ys _) _;generalize k5:(wr.alloc _)=W5 at k3 f⊢;have kv:wr.heap.size<W5.heap.size:=by rw[<-k5];simp
     have kl:=Holds.below hM f kc;have k8:=hp.trans (f.mono S);clear k5 f hp hM;generalize kr:wr.heap.size=OB at *;go_loopg [15] 5 (λg s15 wr=>∃(x:I) (ok:St),x+g=5/\s15=.int .i64 x/\yx enc wr OB 0 ok/\Only OB 0 25 W5 wr/\E (ok=qY mk x))
     case atStart=>exact⟨0,_,Z,Z,k3,Only.refl _ _ _ _,Z⟩
     case round =>
      obtain⟨x,ok,hx,rfl,hU,n,h5⟩:=hrel;have kh:ok.size=25:=by rw[h5.out,zD]
      by_cases O:x<5
      .have l5:(x:Y)<5:=S;go_wp2;go_loopg [16] 5 (λg s16 V=>∃(y:I) (oy:St),y+g=5/\s16=.int .i64 y/\yx enc V OB 0 oy/\Only OB 0 25 W5 V/\E (oy=zF mk x ok y))
       case atStart=>exact⟨0,ok,Z,Z,hU,n,Z⟩
       case round =>
        obtain⟨y,oy,hy,rfl,h3,k,b⟩:=hrel;have kn:oy.size=25:=by rw[b.out,zE,kh]
        by_cases Q:y<5
        .have d:=Holds.other kl k S S;obtain⟨A,hb⟩:=vH (x+5*y);obtain⟨i1,h6⟩:=vH ((x+1)%5+5*y);obtain⟨i2,h8⟩:=vH ((x+2)%5+5*y);obtain⟨z0,W⟩:∃z,mk[A]! = z:=⟨_,Z⟩
         obtain⟨z1,h2⟩:∃z,mk[i1]! = z:=⟨_,Z⟩
         obtain⟨z2,he⟩:∃z,mk[i2]! = z:=⟨_,Z⟩
         obtain⟨q,N⟩:=aT d (i:=A) S W;obtain⟨c1,f1⟩:=aT d (i:=i1) S h2;obtain⟨c2,f2⟩:=aT d (i:=i2) S he;obtain⟨c3,f3⟩:=h3 A S;rw[Yv]at q c1 c2 c3 f3;have H0:E (x+5*y=A):=hb;have H1:E ((x+1)%5+5*y=i1):=h6;have H2:E ((x+2)%5+5*y=i2):=h8;have HV:E (mk[x+5*y]! ^^^ (~~~mk[(x+1)%5+5*y]! &&& mk[(x+2)%5+5*y]!)=z0 ^^^ (~~~z1 &&& z2)):=by
          show _=_;rw[hb,h6,h8,W,h2,he]
         have b0:A<25:=S;have kp:(A:Y)<25:=S;have kt:(i1:Y)<25:=S;have kw:(i2:Y)<25:=S;have y5:(y:Y)<5:=S;have s1:YQ.wrap ((x:Y)+1)=(x:Y)+1:=ZG _ S;have s2:YQ.wrap ((x:Y)+2)=(x:Y)+2:=ZG _ S;clear W h2 he hb h6 h8 N f1 f2;go_wp2_with fail
         refine wp_region_still_tail 28 mixed kR ?_;simp only[ts,qt,uw,ux];repeat still_step
         still_call (fN (a:=(x:Y)) (b:=(y:Y)) (n:=A) S S (oN H0.out))
         repeat still_step
         still_call (fN (a:=(x:Y)) (b:=(y:Y)) (n:=A) S S (oN H0.out))
         repeat still_step
         still_call (fN (a:=((x:Y)+1)) (b:=(y:Y)) (n:=i1) S S (oN H1.out))
         repeat still_step
         still_call (fN (a:=((x:Y)+2)) (b:=(y:Y)) (n:=i2) S S (oN H2.out))
         repeat still_step
         refine wpStill_nil ?_;go_wp2;go_roundg (gk-1)
         case measure=>omega
         case rel =>
          refine⟨y+1,oy.setIfInBounds A (z0 ^^^ (~~~z1 &&& z2)),S,by go_num,?_,?_,?_⟩
          .have:=Holds.set h3 (i:=A) S (z0 ^^^ (~~~z1 &&& z2));rw[Yv]at this;exact Holds.drew this
          .exact(k.setCell (o:=A) S S _).drew
          .show _=(zF mk x ok y).setIfInBounds (x+5*y) (mk[x+5*y]! ^^^ (~~~mk[(x+1)%5+5*y]! &&& mk[(x+2)%5+5*y]!));rw[HV.out,H0.out,b.out]
        .have K:y=5:=S;subst K;go_wp2;go_roundg (4-x)
         case measure=>omega
         case rel =>
          refine⟨x+1,oy,S,by go_num,h3,k,?_⟩;show _=zF mk x (qY mk x) 5;rw[b.out,h5.out]
      .have s:x=5:=S;subst s;obtain⟨z,L⟩:∃z,ok[0]! = z:=⟨_,Z⟩
       obtain⟨q,N⟩:=aT hU (i:=0) S L;rw[Yv]at q N;have HZ:E (ok[0]! = z):=L;clear L;go_wp2;go_ret;refine⟨OB,Z,S,?_,?_⟩
       .exact(k8.trans (n.below S S)).setCell (p:=⟨OB,0,G⟩) (by show _<=OB;omega) _
       .have e:eT a m c=bJ ok 0 c:=by unfold eT;rw[h5.out,hc.out,HE.out]
        rw[e];exact Holds.xor (i:=0) hU S HZ.out c
end SP
namespace SP
attribute [local go_sem] dA dV dJ rU rC Ch RI
theorem nR(s:R)(w:Yp)(hs:s.size=200):
 Zl prog 218 #[.string s] w λe w'=>e=.returned (.string ⟨lT s.data⟩)/\Below w.heap.size w w':=by
 have q:∀w:Yp,(pq 304 (.int .i64 25) (.int .i64 25)).run prog w=.ok (.slice (F ⟨w.heap.size,0,G⟩) 25 25) (w.alloc (.cells (madeCells #[.int .u64 0] 25) 22)):=
  uq (P:=prog) 304 22 (.int .u64 0) 8 Co GO Z .i64 .i64 25 S S
 have d:∀w:Yp,(pq 23 (.int .i64 200) (.int .i64 200)).run prog w=.ok (.slice (F ⟨w.heap.size,0,G⟩) 200 200) (w.alloc (.cells (madeCells #[.int .u8 0] 200) 5)):=
  uq (P:=prog) 23 5 (.int .u8 0) 1 slice22 info5 Z .i64 .i64 200 S S
 have v:E _:=d;clear d;go_enter func218,ntmps218;go_wp2;clear q;have z:yx enc (w.alloc (.cells (madeCells #[.int .u64 0] 25) 22)) w.heap.size 0 (rR s.data 0):=Holds.made (enc:=enc) w 22 25 0;have a:Below w.heap.size w (w.alloc (.cells (madeCells #[.int .u64 0] 25) 22)):=(YH _ _).alloc (Ys _) _;generalize C:(w.alloc _)=W1 at z a⊢;have V:w.heap.size<W1.heap.size:=by rw[<-C];simp
 clear C;go_loopg [4] 200 (λg s4 wr=>∃(i:I) (b:St),i+g=200/\s4=.int .i64 i/\yx enc wr w.heap.size 0 b/\Only w.heap.size 0 25 W1 wr/\E (b=rR s.data i))
 case atStart=>exact⟨0,_,Z,Z,z,Only.refl _ _ _ _,Z⟩
 case round =>
  obtain⟨i,b,hi,rfl,f,n,m⟩:=hrel;have A:b.size=25:=by rw[m.out,lU]
  by_cases l:i<200
  .obtain⟨x,hx⟩:∃x,b[i/8]! = x:=⟨_,Z⟩
   obtain⟨c0,f0⟩:=aT f (i:=(i/8)) S hx;rw[Yv]at c0 f0;have HX:E (b[i/8]! = x):=hx;clear hx;have O:(i:Y)<200:=S;have p0:0<=(i:Y)/8:=S;have p1:(i:Y)/8<25:=S;have p2:((i:Y)/8).toNat=i/8:=S;have s1:YQ.wrap ((i:Y)/8)=(i:Y)/8:=ZG _ S;have s2:YQ.wrap (8*((i:Y)%8))=8*((i:Y)%8):=ZG _ S;have s3:0<=8*((i:Y)%8):=S;have s4:8*((i:Y)%8)<=64:=S;have s5:(8*((i:Y)%8)).toNat=8*(i%8):=S;have p:(i:Y)<(s.size:Y):=S;have c:i<s.size:=S;have tm:(i:Y).tmod 8=(i:Y)%8:=yBI S;obtain⟨y,j⟩:∃y,wide s.data[i]! = y:=⟨_,Z⟩
   have t:Zk.wrap (s[i].toNat:Y)=u y:=by
    have e:s.data[i]! = s[i]:=getElem!_pos s.data i c;rw[<-j,e];exact Ch s[i]
   have K:E (wide s.data[i]! = y):=j;clear j;have sh:=Bw y (8*(i%8));go_wp2_with fail
   go_still_tail 18,mixed;go_wp2;go_roundg (gk-1)
   case measure=>omega
   case rel =>
    refine⟨i+1,b.setIfInBounds (i/8) (x ||| y <<< (8*(i%8))),S,by go_num,?_,?_,?_⟩
    .have:=Holds.set f (i:=i/8) S (x ||| y <<< (8*(i%8)));rw[Yv]at this;exact Holds.drew this
    .exact(n.setCell (o:=i/8) S S _).drew
    .show _=(rR s.data i).setIfInBounds (i/8) ((rR s.data i)[i/8]! ||| wide s.data[i]! <<< (8*(i%8)));rw[K.out,<-m.out,HX.out]
  .have c:i=200:=S;subst c;have Q:Below w.heap.size w wr:=a.trans (n.below S (Ys _));have h5:w.heap.size<wr.heap.size:=Yr V n.size;clear l hi z a V n;go_wp2_with fail
   refine(Ej _).mono ?_;rintro e w3 ⟨rfl,t,hT⟩;have W:=Holds.below f t h5;have L:=Q.trans (t.mono S);have hg:wr.heap.size<w3.heap.size:=Holds.lt hT (by rw[mN];omega);generalize h9:wr.heap.size=TB at *;clear Q t f;go_wp2;go_loopg [3,6] 24 (λg s3 s6 wr=>∃(k M:I) (b:St),k+g=24/\s6=.int .i64 k/\s3=.slice (F ⟨M,0,G⟩) 25 25/\yx enc wr M 0 b/\w.heap.size<=M/\yx encI wr TB 0 cU/\Below w.heap.size w wr/\E (b=DY (rR s.data 200) k))
   case atStart=>exact⟨0,w.heap.size,b,Z,Z,Z,W,Ys _,hT,L,m⟩
   case round =>
    clear hT L W m A b;obtain⟨k,M,b,hk,rfl,rfl,f,ha,hT,K,m⟩:=hrel;have A:b.size=25:=by
     rw[m.out];cases k with
     | zero=>exact lU
     | succ k=>exact Bc
    by_cases l:k<24
    .have N:(k:Y)<24:=S;go_wp2_with fail
     refine(C6 k _ l).mono ?_;rintro e w4 ⟨rfl,rfl⟩;go_wp2_with fail
     refine(JK M TB b cU (G8 k) _ A mN f hT GE).mono ?_;rintro e X ⟨r,rfl,hr,j,hR⟩;have p:=Holds.lt hT (by rw[mN];omega);have T:=K.size;go_wp2;go_roundg (gk-1)
     case measure=>omega
     case rel =>
      refine⟨k+1,r,eT b cU (G8 k),S,by go_num,Z,hR,S,Holds.below hT j p,K.trans (j.mono S),?_⟩;rw[m.out];rfl
    .have T:k=24:=S;subst T;have h0:=v.out;go_wp2;clear h0;have h4:=Holds.lt f S;have X:yx encB (wr.alloc (.cells (madeCells #[.int .u8 0] 200) 5)) wr.heap.size 0 (eM b 200 0):=Holds.made (enc:=encB) wr 5 200 0;have j:Below wr.heap.size wr (wr.alloc (.cells (madeCells #[.int .u8 0] 200) 5)):=(YH _ _).alloc (Ys _) _;generalize N:(wr.alloc _)=W6 at X j⊢;have h8:wr.heap.size<W6.heap.size:=by rw[<-N];simp
     have h6:=Holds.below f j h4;have h2:=K.trans (j.mono K.size);clear N j K f hT;generalize he:wr.heap.size=FB at *;go_loopg [8] 200 (λg s8 wr=>∃(i:I) (bs:Bs),i+g=200/\s8=.int .i64 i/\yx encB wr FB 0 bs/\Only FB 0 200 W6 wr/\E (bs=eM b 200 i))
     case atStart=>exact⟨0,_,Z,Z,X,Only.refl _ _ _ _,Z⟩
     case round =>
      obtain⟨i,bs,hi,rfl,hB,n,p⟩:=hrel;have h3:bs.size=200:=by rw[p.out,jV]
      by_cases l:i<200
      .have h7:=Holds.other h6 n S S;obtain⟨x,hx⟩:∃x,b[i/8]! = x:=⟨_,Z⟩
       obtain⟨c0,f0⟩:=aT h7 (i:=(i/8)) S hx;obtain⟨c1,f1⟩:=hB i S;rw[Yv]at c0 c1 f1;have HX:E (byteOf b i=low (x >>> (8*(i%8)))):=by show low _=_;rw[hx]
       clear hx f0;have p1:(i:Y)/8<25:=S;have O:(i:Y)<200:=S;have hc:=Ip x (8*(i%8));go_wp2;go_roundg (gk-1)
       case measure=>omega
       case rel =>
        refine⟨i+1,bs.setIfInBounds i (low (x >>> (8*(i%8)))),S,by go_num,?_,?_,?_⟩
        .have:=Holds.set hB (i:=i) S (low (x >>> (8*(i%8))));rw[Yv]at this;exact this
        .exact n.setCell (o:=i) S S _
        .show _=(eM b 200 i).setIfInBounds i (byteOf b i);rw[HX.out,p.out]
      .have c:i=200:=S;subst c;have kc:=conv_str prog 23 9 5 slice22 int5 str9 wr FB 0 200 200 bs hB h3;go_wp2;go_ret;have O:bs=lT s.data:=by rw[p.out,m.out];exact JL (bs:=s.data)
       rw[O];exact⟨Z,h2.trans (n.below S S)⟩
end SP
namespace SP
attribute [local go_sem] B6
def holds_one(w:Yp)(x:yv):yx encB (w.alloc (.cells #[.int .u8 (ub x)] 5)) w.heap.size 0 #[x]:=by
 have h:=Holds.new (enc:=encB) w 5 #[x];have e:yFJ encB #[x]=#[.int .u8 (ub x)]:=by simp[encB]
 rw[e]at h;exact h
def uV(l:H yv)(e:yv)(k:I):H yv:=l++e :: ZB k 0
def wG(l:H yv)(e:yv)(k:I):(uV l e k).length=l.length+1+k:=by
 rw[uV,Yx,Y2,xh];omega
def JY(l:H yv)(e:yv)(k:I):uV l e k++[0]=uV l e (k+1):=by
 unfold uV;rw[pk,ZI,H.replicate_succ']
def Gu(l:H yv)(e:yv):(uV l e (135-l.length%136)).set (l.length+(135-l.length%136)) ((uV l e (135-l.length%136))[l.length+(135-l.length%136)]! ^^^ 128)=total l e:=by
 unfold uV total iV;rw[H.set_append_right _ _ S,tT,rA S (by rw[Y2,xh];omega),tT]
def Eu{x:yv}(k:j<l.length):(l.set i x)[j]! = if i=j then x else l[j]!:=by
 rw[getElem!_pos (l.set i x) j (by rw[yER];exact k),yEF,getElem!_pos l j k]
def LI{cur:Bs}{L:I}(b:k=135-l.length%136)(f:L=l.length+1+k)(g:L<=cur.size)(hT:∀j,j<L->cur[j]! = (uV l e k)[j]!):
 ∀j,j<L->(cur.setIfInBounds (L-1) (cur[L-1]! ^^^ 128))[j]! = (total l e)[j]!:=by
 intro j d;have c:=wG l e k;rw[<-Gu,<-b,Eu S,show l.length+k=L-1 by omega];by_cases h:j=L-1
 .rw[zd h.symm,h,getElem!_set_same _ _ _ S,hT _ S]
 rw[zi S,getElem!_set_other _ _ _ _ h,hT _ d]
def Cn{o:R}{d:St}(n:I)(ho:o.size=136*m)(b:n<=136*m)(h:∀j,j<136*m->o.data[j]! = dE d j):o.extract 0 n=⟨fX d n⟩:=by
 apply R.ext;have hs:o.data.size=136*m:=ho;rw[R.data_extract];refine Dg (by rw[tj,hs];omega) fW (λj c=>?_);have h1:j<(o.data.extract 0 n).size:=by rw[tj,hs];omega
 have k:=h j S;rw[getElem!_pos o.data j S]at k;rw[rG _ c,<-k,getElem!_pos (o.data.extract 0 n) j h1,yD4];simp only[Yv]
def MO{o:R}{d:St}{p:Bs}(e:p.size=136)(k:∀j,j<136->p[j]! = byteOf (dM d m) j)(ho:o.size=136*m)(h:∀j,j<136*m->o.data[j]! = dE d j):
 (o++⟨p⟩).size=136*(m+1)/\∀j,j<136*(m+1)->(o++(⟨p⟩:R)).data[j]! = dE d j:=by
 have hd:(o++(⟨p⟩:R)).data=o.data++p:=xu;have hs:o.data.size=136*m:=ho;refine⟨?_,λj f=>?_⟩
 .show(o++(⟨p⟩:R)).data.size=_;rw[hd,Zi,e,hs];omega
 rw[hd];by_cases h1:j<136*m
 .have c:j<o.data.size:=S;have b:=h j h1;rw[getElem!_pos o.data j c]at b;rw[app_front _ _ j c,b]
 rw[app_back _ _ j S S,hs,k _ S];rw[dE,show j/136=m by omega,show j%136=j-136*m by omega]
def Ja{p:Bs}(w:Yp)(h:p.size=200):
 ∃sc w',(convert 9 23 (.string ⟨p⟩)).run prog w=.ok (.slice (F ⟨w.heap.size,0,G⟩) 200 sc) w'/\200<=sc/\yx encB w' w.heap.size 0 p/\Below w.heap.size w w':=by
 let⟨v,w',k,own,d,hv⟩:=mT (w:=w) (B:=0) ⟨p⟩ (aw _)
 have b:(yCV p).size=200:=h;rw[hv]at k own;rw[b]at k own;let⟨_,_,c,e⟩:=own.holds
 exact⟨_,_,k,S,by simpa using e,d⟩
def EE(d:St):yj (front d 136)<=yj (front d 200)/\∀j,j<(front d 136).size->(front d 136)[j]! = (front d 200)[j]!:=by
 refine⟨by rw[aS,aS];omega,λj k=>?_⟩;rw[aS]at k;rw[kK k,kK S]
theorem qX(s:ByteArray)(e:yv)(n:Nat)(w:Yp)(hs:s.size<=1048576)(hn:n<=16384):
 Zl prog 169 #[.string s,.int .u8 (ub e),.int .i64 n] w λr w'=>r=.returned (.string ⟨fX (kN s.data.toList e) n⟩)/\Below w.heap.size w w':=by
 obtain⟨v0,w0,kb,A,hu,kd⟩:=mT (w:=w) (B:=w.heap.size) s (Ys _);rw[kd]at kb A;have k1:w.heap.size<=w0.heap.size:=hu.size;have hX:=holds_one w0 e;have a:Below w0.heap.size w0 (w0.alloc (.cells #[.int .u8 (ub e)] 5)):=(YH _ _).alloc (Ys _) _;have hl:s.data.toList.length=s.size:=YM;obtain⟨v1,w1,h4,h9,kk⟩:=AX (c:=1) (A.below a) hX (by rw[YE];omega) (by rw[hl];simp;omega) 1 Z;have h8:Below w.heap.size w w1:=(hu.trans (a.mono k1)).trans kk;have O:Own w.heap.size w1 v1 (uV s.data.toList e 0):=h9;clear kd A hX h9 kk a;have q:∀w:Yp,(pq 23 (.int .i64 200) (.int .i64 200)).run prog w=.ok (.slice (some ⟨w.heap.size,0,G⟩) 200 200) (w.alloc (.cells (madeCells #[.int .u8 0] 200) 5)):=
  uq (P:=prog) 23 5 (.int .u8 0) 1 slice22 info5 Z .i64 .i64 200 S S
 have hp:E _:=q;clear q;go_enter func169,ntmps169;go_wp2_with (at_builtin;refine Z9 _ Z _ _ 23 23 Z _ _ Z Z _ _ h4 ?_)
 clear h4 kb hu;obtain⟨h,hh⟩:=vH (s.data.toList.length%136);have bc:h<136:=by rw[<-hh];exact ZL _ dC
 have Hh:E (s.data.toList.length%136=h):=hh;clear hh;go_loopg [7] (135-h) (λg s7 wr=>∃k,k+g=135-h/\Own w.heap.size wr s7 (uV s.data.toList e k)/\Below w.heap.size w wr)
 case atStart=>exact⟨0,S,O,h8⟩
 case round =>
  clear O h8;obtain⟨k,hk,own,t⟩:=hrel;have km:=own;obtain⟨g,cap,cur,rfl,hg,b7,bi,br,hH,hT⟩:=km;have hL:=wG s.data.toList e k;generalize k8:(uV s.data.toList e k).length=L at *;have ki:L=s.size+1+k:=by rw[hL,hl]
  have bt:E (L=s.size+1+k):=ki;have bp:L<=1048900:=S;have bo:1<=L:=S;have tm:(L:Y).tmod 136=(L:Y)%136:=yBI S;by_cases kh:k<135-h
  .have kf:((L:Y)%136 != 0)=J:=by rw[bne_iff_ne];have:=Hh.out;rw[hl]at this;omega
   have hX:=holds_one wr 0;have a:Below wr.heap.size wr (wr.alloc (.cells #[.int .u8 (ub 0)] 5)):=(YH _ _).alloc (Ys _) _;obtain⟨v2,u,h4,f,l⟩:=AX (c:=1) (own.below a) hX (by rw[YE];have:=t.size;omega) (by rw[k8];simp;omega) 1 Z;have b:Own w.heap.size u v2 (uV s.data.toList e (k+1)):=by rw[<-JY];exact f
   go_wp2_with (at_builtin;refine Z9 _ Z _ _ 23 23 Z _ _ Z Z _ _ h4 ?_)
   go_roundg (gk-1)
   case measure=>omega
   case rel=>exact⟨k+1,S,b,(t.trans (a.mono t.size)).trans l⟩
  .have kf:((L:Y)%136 != 0)=D:=by
    rw[bne_eq_false_iff_eq];have:=Hh.out;rw[hl]at this;omega
   have kn:k=135-s.data.toList.length%136:=oN Hh.out;obtain⟨x,hx⟩:∃x,cur[L-1]! = x:=⟨_,Z⟩
   obtain⟨c0,f0⟩:=uC hH (L-1) S hx;rw[Yv]at c0 f0;have ke:=QZ x;have K:=LI (l:=s.data.toList) (e:=e) (cur:=cur) (L:=L) (k:=k) kn hL S hT;rw[hx]at K;have hq:=Holds.set hH (i:=L-1) S (x ^^^ 128);rw[Yv]at hq;have u:(total s.data.toList e).length=L:=by rw[sG];omega
   have v:yx encB (wr.setCell ⟨g,L-1,G⟩ (.int .u8 (ub (x ^^^ 128)))) g 0 (total s.data.toList e).toArray:=
    Holds.front hq (by rw[Zg,Zq,u];omega) (λj hj=>by rw[oH];exact(K j (by simpa[u]using hj)).symm)
   have C:Below w.heap.size w (wr.setCell ⟨g,L-1,G⟩ (.int .u8 (ub (x ^^^ 128)))):=t.setCell (p:=⟨g,L-1,G⟩) hg _;have h2:g<(wr.setCell ⟨g,L-1,G⟩ (.int .u8 (ub (x ^^^ 128)))).heap.size:=by rw[yEe];exact b7
   obtain⟨M,hM⟩:=vH (s.data.toList.length/136+1);have k2:L=136*M:=oN Hh.out;have hm:=mk1 (k2);have HM:=mk1 (hM);have kr:=hp.out;clear hM k2 K hq hH hT hx hL ki k8 own kn;go_wp2;clear kr c0 f0 kf tm ke;have hw:(wr.setCell ⟨g,L-1,G⟩ (.int .u8 (ub (x ^^^ 128)))).heap.size=wr.heap.size:=by rw[yEe]
   generalize wr.setCell ⟨g,L-1,G⟩ (.int .u8 (ub (x ^^^ 128)))=W2 at v C h2 hw⊢;have ht:yx encB (W2.alloc (.cells (madeCells #[.int .u8 0] 200) 5)) W2.heap.size 0 (lO (total s.data.toList e) 0):=Holds.made (enc:=encB) W2 5 200 0;have T:Below W2.heap.size W2 (W2.alloc (.cells (madeCells #[.int .u8 0] 200) 5)):=(YH _ _).alloc (Ys _) _;have kg:W2.heap.size<(W2.alloc (.cells (madeCells #[.int .u8 0] 200) 5)).heap.size:=by simp
   have h7:=Holds.below v T h2;have b:=C.trans (T.mono C.size);have ky:=C.size;rw[hw]at ht kg h2 ky;generalize b2:wr.heap.size=SG at *;generalize (W2.alloc _)=W3 at ht b kg h7⊢;clear v C T b2 hw;go_loopg [8,9] M (λg2 s8 s9 wr=>∃(i l sc:Nat),i+g2=M/\s9=.int .i64 ((136*i:Nat):Y)/\s8=.slice (some ⟨l,0,G⟩) 200 sc/\200<=sc/\w.heap.size<=l/\l≠g/\yx encB wr l 0 (lO (total s.data.toList e) i)/\yx encB wr g 0 (total s.data.toList e).toArray/\Below w.heap.size w wr)
   case atStart=>exact⟨0,SG,200,S,Z,Z,Ys _,S,S,ht,h7,b⟩
   case round =>
    obtain⟨i,l,sc,hi,rfl,rfl,k7,b3,b5,hS,v,t⟩:=hrel;have kw:(lO (total s.data.toList e) i).size=200:=by
     cases i with
     | zero=>rw[lO,YN]
     | succ i=>rw[lO,lT,aS]
    have bu:=Holds.lt v (by rw[Zq,u];omega);by_cases kh:i<M
    .have k5:((136*i:Nat):Y)<(L:Y):=oN hm.out;have bm:136*i+136<=L:=oN hm.out;generalize hI:136*i=I at *;have HI:E (136*i=I):=hI;go_wp2;generalize hR:lO (total s.data.toList e) i=R at *;have HR:E (R=lO (total s.data.toList e) i):=hR.symm;go_loopg [10] 136 (λg3 s10 wq=>∃(k:Nat) (st:Bs),k+g3=136/\s10=.int .i64 k/\yx encB wq l 0 st/\Only l 0 200 wr wq/\E (st=uH R (total s.data.toList e) I k))
     case atStart=>exact⟨0,_,Z,Z,hS,Only.refl _ _ _ _,Z⟩
     case round =>
      obtain⟨k,st,hk,rfl,X,hO,HE⟩:=hrel;have ha:st.size=200:=by rw[HE.out,Bj];exact kw
      have h6:=Holds.other v hO (Ne.symm b5) (by rw[Zq,u];omega);by_cases ba:k<136
      .obtain⟨y,f⟩:∃y,(total s.data.toList e)[I+k]! = y:=⟨_,Z⟩
       obtain⟨c0,f0⟩:=uC (x:=y) h6 (I+k) (by rw[Zq,u];omega) (by rw[oH];exact f);obtain⟨z,N⟩:∃z,st[k]! = z:=⟨_,Z⟩
       obtain⟨c1,f1⟩:=uC X k S N;rw[Yv]at c0 c1 f1;have HY:=mk1 (f);have HZ:E (st[k]! = z):=N;have W:(k:Y)<136:=S;have V:(k:Y)<200:=S;have bh:(0:Y)<=(I:Y)+(k:Y):=S;have bq:(I:Y)+(k:Y)<(L:Y):=S;have bn:((I:Y)+(k:Y)).toNat=I+k:=S;have bk:YQ.wrap ((I:Y)+(k:Y))=(I:Y)+(k:Y):=ZG _ S;clear f N f0 h6;go_wp2_with fail
       go_still_tail 14,mixed;go_wp2;go_roundg (gk-1)
       case measure=>omega
       case rel =>
        refine⟨k+1,st.setIfInBounds k (z ^^^ y),S,by go_num,?_,?_,?_⟩
        .have:=Holds.set X (i:=k) S (z ^^^ y);rw[Yv]at this;exact Holds.drew this
        .exact(hO.setCell (o:=k) S S _).drew
        .show _=(uH R (total s.data.toList e) I k).setIfInBounds k ((uH R (total s.data.toList e) I k)[k]! ^^^ (total s.data.toList e)[I+k]!);rw[<-HE.out,HZ.out,HY.out]
      .have k0:k=136:=S;subst k0;have be:=Holds.lt X S;have kc:=conv_str prog 23 9 5 slice22 int5 str9 _ l 0 200 sc st X ha;have W:=t.trans (hO.below t.size b3);obtain⟨V,f⟩:=vH (lT st);have h0:V.size=200:=by rw[<-f,lT,aS]
       have kt:E (V=lO (total s.data.toList e) (i+1)):=by
        show V=lT (uH (lO (total s.data.toList e) i) (total s.data.toList e) (136*i) 136);rw[<-HR.out,HI.out,<-HE.out,f]
       have he:=mk1 (f.symm);go_wp2_with fail
       refine(nR ⟨st⟩ _ ha).mono ?_;rintro r w5 ⟨rfl,b⟩;have e5:=congrArg yCV he.symm;rw[e5];obtain⟨hc,w6,k4,N,h5,h3⟩:=Ja w5 (p:=V) h0;have kj:=Holds.lt h6 (by rw[Zq,u];omega);have kx:=Yr kj b.size;have b6:=Holds.below (Holds.below h6 b kj) h3 kx;have hr:=(W.trans (b.mono W.size)).trans (h3.mono (by have:=b.size;have:=W.size;omega));rw[kt.out]at h5;have b4:w.heap.size<=w5.heap.size:=by have:=b.size;have:=W.size;omega
       go_wp2;go_roundg (M-(i+1))
       case measure=>omega
       case rel=>exact⟨i+1,w5.heap.size,hc,S,by rw[<-HI.out];go_num,Z,N,b4,S,h5,b6,hr⟩
    .have b9:i=M:=S;have ku:(L:Y)<=((136*i:Nat):Y):=oN hm.out;obtain⟨d,hd⟩:=vH (kN s.data.toList e);obtain⟨F,hF⟩:=vH (front (dM d 0) 200);have kp:yx encB wr l 0 F:=by
      have:=DZ (l:=s.data.toList) (e:=e);rw[HM.out,<-b9,hd]at this;rw[this]at hS;rw[<-hF,dM];exact hS
     have kz:d.size=25:=by rw[<-hd];exact pC (l:=s.data.toList) (e:=e)
     have b8:=mk1 (hd.symm);have k3:=mk1 (hF.symm);generalize hI:136*i=I at *;have kv:decide (I<L)=D:=decide_eq_false S;go_wp2;go_loopg [8,11] (n+136) (λg4 s8 s11 wq=>∃(m l sc:Nat) (o:ByteArray) (W:Bs),136*m+g4=n+136/\1<=g4/\s11=.string o/\o.size=136*m/\s8=.slice (some ⟨l,0,G⟩) 200 sc/\200<=sc/\yx encB wq l 0 W/\W.size=200/\Below w.heap.size w wq/\E (W=front (dM d m) 200)/\E (∀j,j<136*m->o.data[j]! = dE d j))
     case atStart=>exact⟨0,l,sc,yDW,F,S,S,Z,Z,Z,k7,kp,by rw[k3.out,aS],t,k3,λj hj=>S⟩
     case round =>
      obtain⟨m,l,sc,o,W,h2,bd,rfl,ho,rfl,k7,hF,ka,t,HF,HO⟩:=hrel;have Ho:=mk1 (ho);by_cases kh:o.size<n
      .have k5:(o.size:Y)<(n:Y):=S;obtain⟨Q,hQ⟩:=vH (front (dM d m) 136);have ko:Q.size=136:=by rw[<-hQ,aS]
       have k6:∀j,j<136->Q[j]! = byteOf (dM d m) j:=λj hj=>by rw[<-hQ,kK hj]
       have X:yx encB wr l 0 Q:=by
        have h1:=EE (dM d m);rw[<-HF.out,hQ]at h1;exact Holds.front hF h1.1 h1.2
       have kl:=MO (o:=o) (d:=d) (m:=m) (p:=Q) ko k6 ho HO;have k9:=mk1 (kl);obtain⟨V,f⟩:=vH (lT W);have h0:V.size=200:=by rw[<-f,lT,aS]
       have HN:E (V=front (dM d (m+1)) 200):=by
        show V=front (perm (dM d m)) 200;rw[<-f,HF.out,Ef (cV (d:=d) kz m)]
       have he:=mk1 (f.symm);have bf:=conv_str prog 23 9 5 slice22 int5 str9 wr l 0 136 sc Q X ko;have bj:=conv_str prog 23 9 5 slice22 int5 str9 wr l 0 200 sc W hF ka;clear hQ k6 X kl f HO ho;go_wp2_with fail
       refine(nR ⟨W⟩ _ ka).mono ?_;rintro r w5 ⟨rfl,b⟩;have e5:=congrArg yCV he.symm;rw[e5];clear e5;obtain⟨hc,w6,k4,N,h5,h3⟩:=Ja w5 (p:=V) h0;have hr:Below w.heap.size w w6:=(t.trans (b.mono t.size)).trans (h3.mono (by have:=b.size;have:=t.size;omega));go_wp2;go_roundg (gk-136)
       case measure=>have:=Ho.out;omega
       case rel=>exact⟨m+1,w5.heap.size,hc,o++(yCV Q),V,oN Ho.out,oN Ho.out,Z,k9.1,Z,N,h5,h0,hr,HN,k9.2⟩
      .have ku:(n:Y)<=(o.size:Y):=S;have f:=Cn (o:=o) (d:=d) n (m:=m) ho S HO;have N:E (o.extract 0 n=⟨fX d n⟩):=f;clear f ho HO;go_wp2;go_ret;rw[<-b8.out,<-N.out];exact⟨Z,t⟩
end SP
namespace SP
def D2(s:R)(w:Yp)(hs:s.size<=1048576):
 Zl prog 171 #[.string s] w λr w'=>r=.returned (.string ⟨BQ s.data.toList⟩)/\Below w.heap.size w w':=by
 go_enter func171,ntmps171;go_wp2_with fail
 apply(qX s 6 32 _ hs dC).mono;rintro r b ⟨rfl,k⟩;rw[<-EB];go_wp2;go_ret;exact⟨Z,k⟩
def qW(s:R)(n:I)(w:Yp)(hs:s.size<=1048576)(k:n<=16384):
 Zl prog 89 #[.string s,.int .i64 n] w λr w'=>r=.returned (.string ⟨kU s.data.toList n⟩)/\Below w.heap.size w w':=by
 go_enter func89,ntmps89;go_wp2_with fail
 apply(qX s 31 n _ hs k).mono;rintro r c ⟨rfl,b⟩;go_wp2;go_ret;exact⟨Z,b⟩
def rN(b:R)(K:zb ai)(u:I)(ps:H R)(w:Yp)(m:b.size<=1048576)(W:ps.length<=1048576)
 (d:ps.length=0\/∃f i,K=F ⟨f,i,G⟩/\∀j,j<ps.length->w.cell? ⟨f,i+j,G⟩=F (.string ps[j]!)) (N:∀j,j<ps.length->(ps[j]!).size<=1048576)
 (c:(bL b.data.toList (ps.map λs=>s.data.toList)).length<=1048576) :
 Zl prog 90 #[.string b,.slice K ps.length u] w λe w'=>e=.returned (.string ⟨jE b.data.toList (ps.map λs=>s.data.toList)⟩)/\Below w.heap.size w w':=by
 obtain⟨n,P⟩:=vH ps.length;rw[P];have l:E (ps.length=n):=P;go_enter func90,ntmps90;go_wp2_with fail
 apply(Ce b _ m).mono;rintro e w1 ⟨T,rfl,M,C⟩;go_wp2;go_loopg [5,6] n (λg s5 s6 wr=>∃(k:I) (o:R),k+g=n/\s6=.int .i64 k/\s5=.string o/\Below w.heap.size w wr/\E (o.data.toList=bL b.data.toList ((ps.map λs=>s.data.toList).take k)))
 case atStart =>
  refine⟨0,T,S,Z,Z,C,?_⟩;rw[qt];rw[bL,yEG,po];exact M
 case round =>
  obtain⟨k,o,hk,rfl,rfl,v,a⟩:=hrel;by_cases X:k<n
  .obtain⟨f,i,rfl,t⟩:∃f i,K=F ⟨f,i,G⟩/\∀j,j<ps.length->w.cell? ⟨f,i+j,G⟩=F (.string ps[j]!):=by
    rcases d with h|h
    .have:=l;omega
    .exact h
   have c:=t k (oN l);have d:=N k (oN l);obtain⟨s,hs⟩:∃s,ps[k]! = s:=⟨_,Z⟩
   rw[hs]at c d;have V:=mk1 (hs.symm);have O:wr.cell? ⟨f,i+k,G⟩=F (.string s):=by rw[v.cell (p:=⟨f,i+k,G⟩) (ul _ _ c)];exact c
   have l1:(k:Y)<(n:Y):=S;clear hs c t;go_wp2_with fail
   apply(Ce s _ d).mono;rintro e w2 ⟨z,rfl,x,L⟩;have A:=mk1 (x);have q:o.size<=1048576:=by
    have h1:o.data.toList.length=o.size:=YM;rw[a.out]at h1;have:=CV (b:=b.data.toList) (ps:=(ps.map λs=>s.data.toList)) (k:=k);omega
   have Q:z.size<=1048580:=by
    have h1:z.data.toList.length=z.size:=YM;have r:s.data.toList.length=s.size:=YM;rw[x,jB]at h1;omega
   go_wp2;go_roundg (gk-1)
   case measure=>omega
   case rel =>
    refine⟨k+1,o++z,S,by go_num,Z,v.trans (L.mono v.size),?_⟩;have y:k<(ps.map λs=>s.data.toList).length:=by rw[YO];have:=l;omega
    have r:k<ps.length:=oN l;rw[nG _ k y,tQ,xu,yk,a.out,A.out,getElem!_pos (ps.map λs=>s.data.toList) k y,qm,V.out,getElem!_pos ps k r];rfl
  .have l1:(n:Y)<=(k:Y):=S;have c:E (o.data.toList=bL b.data.toList (ps.map λs=>s.data.toList)):=by
    have d:(ps.map λs=>s.data.toList).take k=ps.map λs=>s.data.toList:=yB1 (by rw[YO];have:=l;omega)
    rw[d]at a;exact a
   have q:o.size<=1048576:=by
    have h1:o.data.toList.length=o.size:=YM;rw[c.out]at h1;omega
   go_wp2_with fail
   apply(D2 o _ q).mono;rintro e f ⟨rfl,d⟩;rw[c.out];go_wp2;go_ret;exact⟨Z,v.trans (d.mono v.size)⟩
def RLog(w:Yp)(y:I)(L:Bs):Prop:=w.cell? ⟨y,0,G⟩=F (.string ⟨L⟩)/\w.frozen? ⟨y,0,G⟩=D
def LM{vs:yt Yq}{ps:H R}(hl:vs.size=ps.length)(h:∀j,j<ps.length->vs[j]! = .string ps[j]!):
 ∀j,j<ps.length->(W.alloc (.cells vs t)).cell? ⟨W.heap.size,0+j,G⟩=F (.string ps[j]!):=by
 intro j k;have b:vs.map An=vs:=by
  have:An=id:=rfl;rw[this,yDY]
 have:=(Holds.new (enc:=An) W t vs j S).1;rw[b,h j k]at this;exact this
def tP{k:H yv}{ps:H (H yv)}(hl:k.length<=M)(b:∀p∈ps,p.length<=M):(bL k ps).length<=(ps.length+1)*(M+4):=by
 rw[bL,Yx,jB];have:(ps.flatMap iM).length<=ps.length*(M+4):=by
  induction ps with
  | nil=>simp
  | cons p ps ih =>
   rw[H.flatMap_cons,Yx,jB,Y2,yFp];have h1:=b p (Zm ..);have d:=ih (λq c=>b q (Zd _ c));omega
 rw[yFp];omega
def rM{vs:yt Yq}(k:R)(ps:H R)(n:I)(W:Yp)(f:ps.length=n)(hv:vs.size=ps.length)(h:∀j,j<ps.length->vs[j]! = .string ps[j]!)(b:k.size<=16384)(g:n<=8)(hs:∀p∈ps,p.size<=16384):
 cZ 90 #[.string k,sZ W.heap.size n n] (W.alloc (.cells vs 9)) λe w'=>e=.returned (.string ⟨jE k.data.toList (ps.map λs=>s.data.toList)⟩)/\Below (W.alloc (.cells vs 9)).heap.size (W.alloc (.cells vs 9)) w':=by
 subst f;refine rN k (F (aZ W.heap.size)) ps.length ps (W.alloc (.cells vs 9)) S S (YZ ⟨W.heap.size,0,Z,LM hv h⟩) (λj c=>?_) ?_
 .rw[getElem!_pos ps j c];have:=hs _ (H.getElem_mem c);omega
 have:=tP (by rw[YM];exact b) (λp d=>by
  obtain⟨s,h1,rfl⟩:=YT.1 d;rw[YM];exact hs s h1)
 rw[YO]at this;omega
def Mk{N:Bs}:RLog (w.alloc (.cells #[.string ⟨N⟩] t)) w.heap.size N:=by
 have:=Holds.new (enc:=An) w t #[.string ⟨N⟩] 0 (by simp);have k:(#[yFc ⟨N⟩]).map An=#[yFc ⟨N⟩]:=by
  have:An=id:=rfl;rw[this,yDY]
 rw[k]at this;exact⟨this.1,this.2⟩
def F9(k:R)(w:Yp)(c:k.size<=16384):
 Zl prog 99 #[.string k] w λe w'=>∃y,e=.returned (.pointer (F ⟨y,0,G⟩))/\w.heap.size<=y/\Below w.heap.size w w'/\RLog w' y (newL k.data.toList):=by
 have hT:=rM ⟨#[108,111,103]⟩ (vs:=#[.string k]) [k] 1 w Z Z (λj l=>by
  have b:j=0:=by simpa using l
  subst b;rfl) dC dC (λp d=>by
  have:p=k:=by simpa using d
  rw[this];exact c)
 go_enter func99,ntmps99;go_wp2_with fail
 refine hT.mono ?_;rintro e i ⟨rfl,f⟩;have g:jE (⟨#[108,111,103]⟩:R).data.toList ([k].map λs=>s.data.toList)=newL k.data.toList:=rfl;rw[g];let⟨N,d⟩:∃N,newL k.data.toList=N:=⟨_,Z⟩
 rw[d];have b:=((YH _ _).alloc (Ys _) _).trans (f.mono (by simp));have m:=b.size;go_wp2;go_ret;rw[<-(mk1 d.symm).out];exact⟨i.heap.size,Z,S,b.alloc S _,Mk⟩
def RLog.lt{y:I}{L:Bs}(h:RLog w y L):y<w.heap.size:=ul _ _ h.1
def RLog.below{c:Yp}{y:I}{L:Bs}(h:RLog w y L)(k:Below w.heap.size w c):RLog c y L:=by
 have d:=(Only.of_below (b:=w.heap.size) (off:=0) (n:=0) (B:=w.heap.size) k Z)
 have e:=k.block y h.lt;unfold RLog pn ut at *;simp only at *;rw[e];exact h
def RLog.set{y:I}{L:Bs}(h:RLog w y L)(M:Bs):RLog (w.setCell (aZ y) (.string ⟨M⟩)) y M:=by
 have h1:yx An w y 0 #[.string ⟨L⟩]:=by
  intro j b;have k:j=0:=by simpa using b
  subst k;exact⟨h.1,h.2⟩
 have:=Holds.set h1 (i:=0) (by simp) (.string ⟨M⟩);have k:=this 0 (by simp);simp only[ao]at k;exact⟨by simpa[An]using k.1,k.2⟩
def F7(y:I)(L:Bs)(k b:R)(w:Yp)(g:k.size<=16384)(s:b.size<=16384)(hl:L.size=32)(o:RLog w y L):
 Zl prog 37 #[.pointer (F ⟨y,0,G⟩),.string k,.string b] w λe w'=>e=.returned (.tuple #[])/\Only y 0 1 w w'/\RLog w' y (iF L k.data.toList b.data.toList):=by
 have u:=o.lt;have hT:=rM ⟨#[115,97,121]⟩ (vs:=#[.string ⟨L⟩,.string k,.string b]) [⟨L⟩,k,b] 3 w Z Z (λj t=>by
  match j,t with
  | 0,_=>rfl
  | 1,_=>rfl
  | 2,_=>rfl) dC dC (λp c=>by
  simp only[Zb,YI,or_false]at c;rcases c with rfl|rfl|rfl
  .show L.size<=16384;omega
  .exact g
  exact s)
 let⟨N,d⟩:∃N,iF L k.data.toList b.data.toList=N:=⟨_,Z⟩
 have f:Zl prog 90 #[.string ⟨#[115,97,121]⟩,.slice (F ⟨w.heap.size,0,G⟩) 3 3] (w.alloc (.cells #[.string ⟨L⟩,.string k,.string b] 9)) λe w'=>e=.returned (.string ⟨N⟩)/\Below (w.alloc (.cells #[.string ⟨L⟩,.string k,.string b] 9)).heap.size (w.alloc (.cells #[.string ⟨L⟩,.string k,.string b] 9)) w':=by
  rw[<-d];exact hT
 rw[d];have r:E (Zl prog 90 #[.string ⟨#[115,97,121]⟩,.slice (F ⟨w.heap.size,0,G⟩) 3 3] (w.alloc (.cells #[.string ⟨L⟩,.string k,.string b] 9)) λe w'=>e=.returned (.string ⟨N⟩)/\Below (w.alloc (.cells #[.string ⟨L⟩,.string k,.string b] 9)).heap.size (w.alloc (.cells #[.string ⟨L⟩,.string k,.string b] 9)) w'):=f;have i:Below w.heap.size w (w.alloc (.cells #[.string ⟨L⟩,.string k,.string b] 9)):=(YH _ _).alloc (Ys _) _;let⟨q,v⟩:=o
 clear hT f d;go_enter func37,ntmps37;go_wp2_with fail
 apply(r).mono;rintro e n ⟨rfl,m⟩;have c:Below w.heap.size w n:=i.trans (m.mono i.size);have l:Only y 0 1 w n:=Only.of_below c Z u;let⟨c2,f2⟩:=RLog.below ⟨q,v⟩ c
 go_wp2
 go_end0
 exact⟨Z,l.setCell S S _,RLog.set ⟨c2,f2⟩ N⟩
def Iq{L:Bs}{k:R}(b:R)(c:b.size<=16384)(hl:L.size=32)(hs:k.size<=16384)(w:Yp):
 cZ 90 #[.string b,sZ w.heap.size 2 2] (w.alloc (.cells #[.string ⟨L⟩,.string k] 9)) λe w'=>e=.returned (.string ⟨jE b.data.toList [L.toList,k.data.toList]⟩)/\Below (w.alloc (.cells #[.string ⟨L⟩,.string k] 9)).heap.size (w.alloc (.cells #[.string ⟨L⟩,.string k] 9)) w':=
 rM b [⟨L⟩,k] 2 w Z Z (λj f=>by
  match j,f with
  | 0,_=>rfl
  | 1,_=>rfl) c dC (λp d=>by
  simp only[Zb,YI,or_false]at d;rcases d with rfl|rfl
  .show L.size<=16384;omega
  exact hs)
def Gc(y:I)(L:Bs)(k:R)(n:I)(w:Yp)(d:k.size<=16384)(hn:n<=1024)(hl:L.size=32)(K:RLog w y L):
 Zl prog 176 #[.pointer (F ⟨y,0,G⟩),.string k,.int .i64 n] w λe w'=>e=.returned (.string ⟨wY L k.data.toList n⟩)/\Only y 0 1 w w'/\RLog w' y (mX L k.data.toList):=by
 have W:=K.lt;have hT:=Iq ⟨#[97,115,107]⟩ dC hl d w;let⟨T,c⟩:∃T,jE [97,115,107] [L.toList,k.data.toList]=T:=⟨_,Z⟩
 have P:T.size=32:=by rw[<-c,dD]
 let⟨N,l⟩:∃N,mX L k.data.toList=N:=⟨_,Z⟩
 let⟨A,m⟩:∃A,wY L k.data.toList n=A:=⟨_,Z⟩
 have V:E (kU T.toList n=A):=by
  show _=_;rw[<-m,<-c];rfl
 have HN:E (jE [97,115,107,101,100] [L.toList,k.data.toList]=N):=l;have C:E (Zl prog 90 #[.string ⟨#[97,115,107]⟩,.slice (F ⟨w.heap.size,0,G⟩) 2 2] (w.alloc (.cells #[.string ⟨L⟩,.string k] 9)) λe w'=>e=.returned (.string ⟨T⟩)/\Below (w.alloc (.cells #[.string ⟨L⟩,.string k] 9)).heap.size (w.alloc (.cells #[.string ⟨L⟩,.string k] 9)) w'):=by
  show Zl _ _ _ _ _;rw[<-c];exact hT
 rw[l,m];have j:Below w.heap.size w (w.alloc (.cells #[.string ⟨L⟩,.string k] 9)):=(YH _ _).alloc (Ys _) _;let⟨Q,f0⟩:=K
 clear hT l m c;go_enter func176,ntmps176;go_wp2_with fail
 apply(C).mono;rintro e O ⟨rfl,p⟩;have f:Below w.heap.size w O:=j.trans (p.mono j.size);clear C j p;go_wp2_with fail
 refine(qW ⟨T⟩ n _ (by show T.size<=1048576;omega) S).mono ?_;rintro e b ⟨rfl,u⟩;rw[V.out];have i:Below w.heap.size w b:=f.trans (u.mono f.size);have q:=RLog.below ⟨Q,f0⟩ i;have z:Only y 0 1 w b:=Only.of_below i Z W;have r:=q.lt;let⟨X,f3⟩:=q
 have a:=Iq ⟨#[97,115,107,101,100]⟩ dC hl d b;have v:E (Zl prog 90 #[.string ⟨#[97,115,107,101,100]⟩,.slice (F ⟨b.heap.size,0,G⟩) 2 2] (b.alloc (.cells #[.string ⟨L⟩,.string k] 9)) λe w'=>e=.returned (.string ⟨N⟩)/\Below (b.alloc (.cells #[.string ⟨L⟩,.string k] 9)).heap.size (b.alloc (.cells #[.string ⟨L⟩,.string k] 9)) w'):=by
  show Zl _ _ _ _ _;rw[<-HN.out];exact a
 have o:Below b.heap.size b (b.alloc (.cells #[.string ⟨L⟩,.string k] 9)):=(YH _ _).alloc (Ys _) _;go_wp2_with fail
 apply(v).mono;rintro e w5 ⟨rfl,t⟩;have g:=o.trans (t.mono o.size);have s:=RLog.below ⟨X,f3⟩ g;have x:=z.trans (Only.of_below g Z r);let⟨M,f5⟩:=s
 go_wp2;go_ret;exact⟨Z,x.setCell S S _,RLog.set ⟨M,f5⟩ N⟩
end SP
end Go.Proofs.YtdoammpgchejcaaGreat
