import Derived.Deep.RegionHeld3
import Derived.Lib.LazyBuf
import Derived.Lib.ConvBytes
import Derived.Deep.DeepCutAuto
import Derived.Test.YtlofhpkoaljmeaaGreatat1
set_option linter.unusedVariables false
set_option linter.defProp false
set_option linter.constructorNameAsVariable false
set_option linter.unusedSimpArgs false
set_option maxRecDepth 1000000
set_option maxHeartbeats 4000000
namespace Go.Proofs.YtlofhpkoaljmeaaGreat
open EC RG
open _root_.Array renaming getElem_replicate->Zi,getElem_toList->yAi,replicate->XT,setIfInBounds->yAH,size_append->Yl,size_replicate->X0
open _root_.Bool renaming and_eq_true->XV,false_eq_true->yDB,noConfusion->yBb
open _root_.Fin renaming ext_iff->yEI
open _root_.Go renaming Calls->YN,FuncId->ZQ,Oper->Yp,Operand->yAe,Program->YJ,Tmp->Zw,TypeId->Yd,Value->XB,World->XA,bodyPost_ret->XN,execOp->Yh,getD_set_ne->yBF,rounds_succ->yAy,run_storeVar_mid->yDw,sizeOf->yCP,undef->Zs,wpList_plain->ZL,wp_block->YX,wp_cond_false->Yb,wp_cond_true->Yy,wp_exit->yAC,wp_loop_ghost->yCW,wp_ret->Za,wp_seq->XG,wp_skip->YU
open _root_.Go.Act renaming put->Ym
open _root_.Go.Addr renaming add->yBT
open _root_.Go.Builtin renaming copy_->yAD
open _root_.Go.Code renaming region->Zd
open _root_.Go.Exit renaming inBlock->yBP
open _root_.Go.Instr renaming box->Ys,index->yBu,indexAt->Yv,storeAt->yBE,sureAddr->yA3
open _root_.Go.IntKind renaming i64->Ya,u64->Yt,wrap_i64->YD,wrap_u64->ZO
open _root_.Go.IntWalk renaming i64_in->Zn,i8_in->yCB
open _root_.Go.Next renaming value->ZS
open _root_.Go.Op renaming equalIn->yEO
open _root_.Go.Oper renaming upon_enter->ZM,wp->Y3
open _root_.Go.Operand renaming tmp->yCQ
open _root_.Go.Region renaming binds->Zb,free->yBO,noSelect->yAO,ready->Yu,wanted->Zc
open _root_.Go.Result renaming andThen_ok->Yz
open _root_.Go.RowKit.Below renaming heap_setCell->yB6,refl->XR
open _root_.Go.Sem renaming run_bind->X1,run_pure->Zr
open _root_.Go.Value renaming agg->X9,int->YW
open _root_.Go.World renaming alloc->yAp,cell?_alloc_new->Yr,cell?_of_block->X4,cell?_setCell_other->Yc,frozen?_alloc_new->Zu,frozen?_setCell->Zq,size_alloc->XP
open _root_.Int renaming add_mul->yEE,add_zero->yCx,mul_assoc->yCV,mul_comm->yCi,natCast_ediv->yBM,natCast_emod->yD0,natCast_mul->yAm,natCast_pow->yCO,natCast_zero->ZF,pow_succ->yEt,tdiv_eq_ediv_of_nonneg->yAK,zero_mul->yCh
open _root_.List renaming nil_append->Z1,cons_append->ZX,cons->yEb,ext_getElem?->yA8,foldl_cons->yDZ,getElem?_cons_succ->Yg,getElem?_cons_zero->Yi,getElem?_eq_none->ZK,getElem?_eq_some_iff->XM,getElem?_toArray->Yj,getElem_map->yAc,length_map->XZ,not_mem_nil->Yf,range->YA,replicate->YM,setIfInBounds_toArray->XF,set_cons_succ->XJ,set_cons_zero->XL
open _root_.Nat renaming add_assoc->ZB,add_mod_right->yDN,add_zero->yAl,div_div_eq_div_mul->yAu,div_eq_of_lt->yAr,div_le_self->yD9,div_one->yEC,le_of_lt->yAg,le_refl->XD,le_succ->yB0,lt_of_le_of_lt->yDD,lt_of_lt_of_le->XC,lt_succ_self->yBW,mod_eq_of_lt->X6,mod_lt->Y8,mod_one->yEA,mul_assoc->yAo,mul_comm->YK,mul_le_mul_right->yAn,mul_mod->yAW,mul_zero->yCv,ne_of_gt->ZN,ne_of_lt->ZW,or_comm->yEz,pow_add->yAP,pow_le_pow_right->Y5,pow_pos->yAz,pow_succ->Zf,pow_zero->yBd,sub_self->yBi,sub_zero->yBz,two_pow_add_eq_or_of_lt->yBk,zero_add->XI
open _root_.Ne renaming symm->yBh
open _root_.Option renaming map_eq_some_iff->XE
open _root_.Or renaming inl->Ye,inr->X7
open _root_.Prod renaming mk->Ze
open _root_.UInt8 renaming ofNat->XS
open Go.Proofs.Tryz
open Go.RowKit Go.Sort Go.Deep
variable {P:Nat}[NeZero P]{N:Nat}
def Gu(w:XA)(t0 t1 t2 q:Yd)(a b c d e f g h i j k l m n o p:Nat):
 Kept w w.heap.size [⟨w.heap.size,0,a,b,c,d⟩,⟨w.heap.size+1,0,e,f,g,h⟩,⟨w.heap.size+1+1,0,i,j,k,l⟩,⟨w.heap.size+1+1+1,0,m,n,o,p⟩]
  ((((w.alloc (.cells #[uZ a,uZ b,uZ c,uZ d] t0)).alloc (.cells #[uZ e,uZ f,uZ g,uZ h] t1)).alloc (.cells #[uZ i,uZ j,uZ k,uZ l] t2)).alloc (.cells #[uZ m,uZ n,uZ o,uZ p] q)):=by
 refine((((Kept.mk1 (E9 w _ _ _ _) (E9 w _ _ _ _).size).cons ?_).cons ?_).cons ?_).cons ?_
 .exact(At4.made _ q m n o p (by simp)).blk
 .exact((At4.made _ t2 i j k l (by simp)).alloc _).blk
 .exact(((At4.made _ t1 e f g h (by simp)).alloc _).alloc _).blk
 .exact((((At4.made _ t0 a b c d rfl).alloc _).alloc _).alloc _).blk
def N5{k c b P m n s l:Nat}(hG:Gap k c b P)(d:s+top*0=m+n)(f:l+top*0=s+val k c b 0)(e:l<top):(m+n)%P=s:=by
 have:=hG.hP;rw[<-d,yCv,yAl,X6 oM]
def N6{e g f P m n s l k j:Nat}(hG:Gap e g f P)(t:m<P)(w:n<P)(o:s+top*k=m+n)(p:l+top*j=s+val e g f 0)(u:k<=1)(x:j<=1)(i:¬(k=0/\j=0))(q:s<top)(_:l<top):(m+n)%P=l:=by
 have v:=hG.hP;have r:=hG.hP2;have b:k=0\/k=1:=oM;have c:j=0\/j=1:=oM;have:m+n=l+P:=by
  rcases b with h|h<;>rcases c with d|d<;>rw[h]at o<;>rw[d]at p<;>first|omega|(exfalso;exact i ⟨h,d⟩)
 rw[this,yDN,X6 oM]
def or2{a b:Nat}(d:a<=1)(e:b<=1):∃o:Nat,bits .or .u64 (a:Int) (b:Int)=(o:Int)/\(o=0↔(a=0/\b=0)):=by
 have k:a=0\/a=1:=oM;have c:b=0\/b=1:=oM;rcases k with rfl|rfl<;>rcases c with rfl|rfl
 .exact⟨0,dK,dC⟩
 .exact⟨1,dK,dC⟩
 .exact⟨1,dK,dC⟩
 .exact⟨1,dK,dC⟩
def Ks{P m n s:Nat}(c:m<P)(k:n<P)(b:s+n=m+top*0):(m+P-n)%P=s:=by
 rw[show m+P-n=s+P by omega,yDN,X6 oM]
def Kt{b e c P m n s l j:Nat}(hG:Gap b e c P)(_:m<P)(q:n<P)(o:s+n=m+top*1)(f:l+val b e c 0=s+top*j)(r:j<=1)(i:l<top)(g:s<top):(m+P-n)%P=l:=by
 have p:=hG.hP;have k:j=0\/j=1:=oM;have:m+P-n=l:=by
  rcases k with d|d<;>rw[d]at f<;>omega
 rw[this,X6 oM]
def sum_any(O M L P:Nat)(x y:XB)(m n:Nat)(hG:Gap O M L P)(hx:Four x m)(V:Four y n)(hm:m<P)(hn:n<P)(w:XA):
 cZ 98 #[.agg #[uZ O,uZ M,uZ L,uZ 0],x,y] w (rZ w λe w'=>Four e ((m+n)%P)):=by
 obtain⟨a,b,c,d,rfl,ha,hb,hc,hd,em⟩:=id hx;obtain⟨p,q,r,s,rfl,hp,hq,hr,hs,en⟩:=id V;clear em en ha hb hc hd hp hq hr hs;go_enter func98,ntmps98;go_wp2_with fail
 have u:=Gu w 78 76 76 76 O M L 0 a b c d p q r s 0 0 0 0;simp only[ZF]at u;generalize yAp _ _=W0 at u⊢;generalize h3:w.heap.size+1+1+1=k3 at u⊢;generalize h2:w.heap.size+1+1=k2 at u⊢;generalize h1:w.heap.size+1=k1 at u⊢;have W:Hid (w.heap.size<=k3):=by unfold Hid;omega
 generalize X:w.heap.size=k0 at u W⊢;have Z:Hid (w.heap.size=k0):=X;have T:k0≠k3:=oM;clear X h1 h2 h3;apply(rL _ _ _ _ hx V _).mono;rintro e w1 ⟨v,rfl,U,v2,t,k,rfl,⟨I,b1,c1,G,rfl,z,l,A,B,Q⟩,hk,N⟩;have HE:Hid (val I b1 c1 G+top*k=m+n):=by unfold Hid;rw[<-Q];exact N
 clear Q N;replace u:=u.call U;have f:=(u.alloc (.cells #[uZ I,uZ b1,uZ c1,uZ G] 76)).cons (At4.made w1 76 I b1 c1 G rfl).blk;have m0:=ZW u.head.lt;have m3:=ZW u.tail.tail.tail.head.lt;obtain⟨h5,k5,hi,h7,pf⟩:=f.tail.head.at4;have z0:=f.tail.head.lt;go_wp2_with fail
 apply(rL _ _ _ _ (Four.mk z l A B rfl) (Four.mk hG.h0 hG.h1 hG.h2 dC rfl) _).mono;rintro e w2 ⟨v,rfl,S,v3,t2,j,rfl,⟨a2,J,c2,K,rfl,D,g,F,C,Q⟩,Y,N⟩;have H:Hid (val a2 J c2 K+top*j=val I b1 c1 G+val O M L 0):=by unfold Hid;rw[<-Q];exact N
 replace f:=f.call S;have HG:=mk1 (hG);have HM:=mk2 hm hn;clear hG hm hn hx V m0 T;generalize w1.heap.size=k4 at f m3⊢;obtain⟨h4,hu,h9,ht,sf⟩:=f.head.at4;obtain⟨h6,h8,hg,hw,rf⟩:=f.tail.tail.tail.tail.head.at4;have z4:=f.head.lt;have z3:=f.tail.tail.tail.tail.head.lt;obtain⟨o,ho,E⟩:=or2 hk Y;by_cases R:k=0/\j=0
 .obtain⟨rfl,rfl⟩:=R;obtain rfl:o=0:=E.2 ⟨rfl,rfl⟩;clear E;replace ho:bits .or .u64 0 0=0:=ho;go_wp2;have i:=(f.tail.tail.tail.tail.head.at4.self4 I b1 c1 G).alloc (.cells #[uZ a2,uZ J,uZ c2,uZ K] 76);unfold set4 at i;refine XN (v:=?v0) ?hr0 rfl ?hR0
  case hr0=>simp[results,Tryz.results98,go_sem,i.c0,i.c1,i.c2,i.c3];rfl
  refine⟨_,rfl,?_,Four.mk z l A B (N5 HG HE H (nF D g F C))⟩;rw[Z.out];exact(aM f.bl W).alloc (by simpa[set4]using f.le) _
 .have hl:¬o=0:=λh=>R (E.1 h)
  go_wp2;have i:=(f.tail.tail.tail.tail.head.at4.self4 a2 J c2 K).alloc (.cells #[uZ a2,uZ J,uZ c2,uZ K] 76);unfold set4 at i;refine XN (v:=?v1) ?hr1 rfl ?hR1
  case hr1=>simp[results,Tryz.results98,go_sem,i.c0,i.c1,i.c2,i.c3];rfl
  refine⟨_,rfl,?_,Four.mk D g F C (N6 HG HM.1 HM.2 HE H hk Y R (nF z l A B) (nF D g F C))⟩;rw[Z.out];exact(aM f.bl W).alloc (by simpa[set4]using f.le) _
def oG(M L K P:Nat)(x y:XB)(m n:Nat)(hG:Gap M L K P)(hx:Four x m)(hy:Four y n)(hm:m<P)(hn:n<P)(w:XA):
 cZ 178 #[.agg #[uZ M,uZ L,uZ K,uZ 0],x,y] w (rZ w λe w'=>Four e ((m+P-n)%P)):=by
 obtain⟨a,b,c,d,rfl,ha,hb,hc,hd,em⟩:=id hx;obtain⟨p,q,r,s,rfl,hp,hq,hr,hs,en⟩:=id hy;clear em en ha hb hc hd hp hq hr hs;go_enter func178,ntmps178;go_wp2_with fail
 have g:=Gu w 78 76 76 76 M L K 0 a b c d p q r s 0 0 0 0;simp only[ZF]at g;generalize yAp _ _=W0 at g⊢;generalize h3:w.heap.size+1+1+1=k3 at g⊢;generalize h2:w.heap.size+1+1=k2 at g⊢;generalize h1:w.heap.size+1=k1 at g⊢;have Y:Hid (w.heap.size<=k3):=by unfold Hid;omega
 generalize h0:w.heap.size=k0 at g Y⊢;have Z:=mk1 (h0);apply(tO _ _ _ _ hx hy _).mono;rintro e w1 ⟨v,rfl,V,v2,t,k,rfl,⟨C,b1,c1,B,rfl,u,l,z,A,U⟩,hk,S⟩;have HE:Hid (val C b1 c1 B+n=m+top*k):=by unfold Hid;rw[<-U];exact S
 replace g:=g.call V;have f:=(g.alloc (.cells #[uZ C,uZ b1,uZ c1,uZ B] 76)).cons (At4.made w1 76 C b1 c1 B rfl).blk;have m0:=ZW g.head.lt;have m3:=ZW g.tail.tail.tail.head.lt;have N:=mk1 (hG);have O:=mk2 hm hn;have Q4:=mk1 (g.le);have W:k=0\/k=1:=oM;obtain⟨D,E,G,I,rf⟩:=g.tail.tail.tail.head.at4;have z3:=g.tail.tail.tail.head.lt;rcases W with rfl|rfl
 .clear f;go_wp2;have i:=(g.tail.tail.tail.head.at4.self4 C b1 c1 B).alloc (.cells #[uZ C,uZ b1,uZ c1,uZ B] 76);unfold set4 at i;refine XN (v:=?v0) ?hr0 rfl ?hR0
  case hr0=>simp[results,Tryz.results178,go_sem,i.c0,i.c1,i.c2,i.c3];rfl
  refine⟨_,rfl,?_,Four.mk u l z A (Ks O.1 O.2 HE)⟩;rw[Z.out];exact(aM g.bl Y).alloc (by simpa[set4]using g.le) _
 .clear g D E G I rf z3;obtain⟨h5,hi,h8,h6,pf⟩:=f.tail.head.at4;have z0:=f.tail.head.lt;go_wp2_with fail
  apply(tO _ _ _ _ (Four.mk u l z A rfl) (Four.mk N.h0 N.h1 N.h2 dC rfl) _).mono;rintro e w2 ⟨v,rfl,T,v3,t2,j,rfl,⟨a2,Q,c2,R,rfl,H,o,J,F,U⟩,hj,S⟩;have X:Hid (val a2 Q c2 R+val M L K 0=val C b1 c1 B+top*j):=by unfold Hid;rw[<-U];exact S
  replace f:=f.call T;obtain⟨h4,hg,h7,h9,sf⟩:=f.head.at4;obtain⟨D,E,G,I,rf⟩:=f.tail.tail.tail.tail.head.at4;have z4:=f.head.lt;have z3:=f.tail.tail.tail.tail.head.lt;go_wp2;have i:=(f.tail.tail.tail.tail.head.at4.other4 m3.symm (uZ a2) (uZ Q) (uZ c2) (uZ R)).self4 a2 Q c2 R;unfold set4 at i;refine XN (v:=?v1) ?hr1 rfl ?hR1
  case hr1=>simp[results,Tryz.results178,go_sem,i.c0,i.c1,i.c2,i.c3];rfl
  refine⟨_,rfl,?_,Four.mk H o J F (Kt N O.1 O.2 HE X hj (nF H o J F) (nF u l z A))⟩;rw[Z.out];exact aM (aM f.bl Q4) Y
def JM{a b c d n m k s0 t0 u0 i e f g:Nat}(l:m=val a b c d)
 (o:k+18446744073709551616*i=a*n+val 0 0 0 0)
 (j:s0+18446744073709551616*e=b*n+i)
 (p:t0+18446744073709551616*f=c*n+e)
 (e3:u0+18446744073709551616*g=d*n+f) :
 val k s0 t0 u0+top*g=m*n:=by
 have j:val a b c d*n=val (a*n) (b*n) (c*n) (d*n):=by
  rw[YK,Gj,YK n a,YK n b,YK n c,YK n d]
 rw[l,j];unfold val at *;unfold top;omega
def nT(g0 g1 g2 P:Nat)(x y:XB)(m n:Nat)(hG:Gap g0 g1 g2 P)(hx:Four x m)(U:Four y n)(w:XA):
 YN prog 100 #[.agg #[.int .u64 g0,.int .u64 g1,.int .u64 g2,.int .u64 0],x,y] w (Ret λe w'=>Below w.heap.size w w'/\Four e (m*n%P)):=by
 obtain⟨a,b,c,d,rfl,ha,hb,hc,hd,em⟩:=hx;obtain⟨p,q,r,s,rfl,hp,hq,hr,hs,en⟩:=id U;have HM:Hid (m=val a b c d):=em;clear em en;go_enter func100,ntmps100;go_wp2_with fail
 have F:=Gu w 78 76 76 76 g0 g1 g2 0 a b c d p q r s 0 0 0 0;simp only[ZF]at F;have PR:=F.head.at4;have X:=F.tail.head.at4;have Y:=F.tail.tail.head.at4;have f:=F.tail.tail.tail.head.at4;have BL:Hid (Below w.heap.size w _):=F.bl;clear F;generalize yAp _ _=w1 at X Y PR f BL⊢;generalize h3:w.heap.size+1+1+1=k3 at f⊢;generalize h2:w.heap.size+1+1=k4 at Y⊢;generalize h1:w.heap.size+1=k1 at X⊢;have Q3:Hid (w.heap.size<=k3):=by unfold Hid;omega
 generalize h0:w.heap.size=D at PR BL Q3⊢;have kb:D≠k3:=oM;have kc:k1≠k3:=oM;have H0:Hid (w.heap.size=D):=h0;clear h0 h1 h2 h3;refine(kF a _ _ _ _ ha U (Four.mk (a:=0) (b:=0) (c:=0) (d:=0) dC dC dC dC rfl) _).mono ?_;rintro e w2 ⟨v,rfl,i,l0,v2,t0,rfl,k6,⟨a0,b0,c0,d0,rfl,k5,hw,hu,k8,z⟩,u⟩;have ht:Hid (l0+18446744073709551616*val a0 b0 c0 d0=a*n+val 0 0 0 0):=by unfold Hid;rw[<-z];exact u
 clear u z;replace BL:Hid (Below D w w2):=zQ BL PR i;replace X:=X.call i;replace Y:=Y.call i;replace f:=f.call i;replace PR:=PR.call i;obtain⟨V,H,Q,R,xf⟩:=id X;have z1:=X.lt;obtain⟨L,K,I,S,yf⟩:=id Y;have z4:=Y.lt;obtain⟨j,l,o,t,rf⟩:=id f;have z3:=f.lt;obtain⟨A,E,C,B,pf⟩:=id PR;have z0:=PR.lt;go_wp2_with fail
 refine(kF b _ _ _ _ hb U (Four.mk k5 hw hu k8 rfl) _).mono ?_;rintro e w3 ⟨v,rfl,g,l1,v3,t1,rfl,hk,⟨a1,b1,c1,d1,rfl,h4,hj,h5,h7,z⟩,u⟩;have hl:Hid (l1+18446744073709551616*val a1 b1 c1 d1=b*n+val a0 b0 c0 d0):=by unfold Hid;rw[<-z];exact u
 have G:=ZW PR.lt;have j1:=ZW X.lt;have j3:=ZW f.lt;have j4:=ZW Y.lt;have J0:=mk1 (yAg PR.lt);have T:=(At4.made w2 76 a0 b0 c0 d0 rfl).call g;replace BL:Hid (Below D w w3):=zQ (W:=w2.alloc (.cells #[.int .u64 a0,.int .u64 b0,.int .u64 c0,.int .u64 d0] 76)) (BL.alloc (yAg PR.lt) _) (PR.alloc _) g;replace X:=(X.alloc _).call g;replace Y:=(Y.alloc _).call g;replace f:=(f.alloc _).call g;replace PR:=(PR.alloc _).call g;obtain⟨V,H,Q,R,xf⟩:=id X;have z1:=X.lt;obtain⟨L,K,I,S,yf⟩:=id Y;have z4:=Y.lt;obtain⟨j,l,o,t,rf⟩:=id f;have z3:=f.lt;obtain⟨A,E,C,B,pf⟩:=id PR;have z0:=PR.lt;obtain⟨M,N,Z,J,tf⟩:=id T;have z5:=T.lt;go_wp2_with fail
 refine(kF c _ _ _ _ hc U (Four.mk h4 hj h5 h7 rfl) _).mono ?_;rintro e w4 ⟨v,rfl,k,l2,v4,t4,rfl,hz,⟨a2,b2,c2,d2,rfl,hm,i,k7,hi,z⟩,u⟩;have h9:Hid (l2+18446744073709551616*val a2 b2 c2 d2=c*n+val a1 b1 c1 d1):=by unfold Hid;rw[<-z];exact u
 replace BL:Hid (Below D w w4):=zQ (aM BL.out J0.out) (PR.other4 G.symm _ _ _ _) k;replace X:=(X.other4 j1.symm _ _ _ _).call k;replace Y:=(Y.other4 j4.symm _ _ _ _).call k;replace f:=(f.other4 j3.symm _ _ _ _).call k;replace PR:=(PR.other4 G.symm _ _ _ _).call k;replace T:=(T.self4 a1 b1 c1 d1).call k;obtain⟨V,H,Q,R,xf⟩:=id X;have z1:=X.lt;obtain⟨L,K,I,S,yf⟩:=id Y;have z4:=Y.lt;obtain⟨j,l,o,t,rf⟩:=id f;have z3:=f.lt;obtain⟨A,E,C,B,pf⟩:=id PR;have z0:=PR.lt;obtain⟨M,N,Z,J,tf⟩:=id T;have z5:=T.lt;go_wp2_with fail
 refine(kF d _ _ _ _ hd U (Four.mk hm i k7 hi rfl) _).mono ?_;rintro e w5 ⟨v,rfl,k,l3,v4,t4,rfl,hn,⟨a3,b3,c3,d3,rfl,h6,g,k2,hg,z⟩,u⟩;have h8:Hid (l3+18446744073709551616*val a3 b3 c3 d3=d*n+val a2 b2 c2 d2):=by unfold Hid;rw[<-z];exact u
 replace BL:Hid (Below D w w5):=zQ (aM BL.out J0.out) (PR.other4 G.symm _ _ _ _) k;replace X:=(X.other4 j1.symm _ _ _ _).call k;replace Y:=(Y.other4 j4.symm _ _ _ _).call k;replace f:=(f.other4 j3.symm _ _ _ _).call k;replace PR:=(PR.other4 G.symm _ _ _ _).call k;replace T:=(T.self4 a2 b2 c2 d2).call k;obtain⟨j,l,o,t,rf⟩:=id f;have z3:=f.lt;obtain⟨A,E,C,B,pf⟩:=id PR;have z0:=PR.lt;obtain⟨M,N,Z,J,tf⟩:=id T;have z5:=T.lt;go_wp2_with fail
 refine(yT g0 g1 g2 _ _ _ _ P hG.h0 hG.h1 hG.h2 hG.hor hG.hP hG.hP2 (Four.mk k6 hk hz hn rfl) (Four.mk h6 g k2 hg rfl) _).mono ?_;rintro e w6 ⟨v,rfl,k,hv⟩;rw[JM HM.out ht.out hl.out h9.out h8.out]at hv;replace BL:Hid (Below D w w6):=zQ (aM BL.out J0.out) (PR.other4 G.symm _ _ _ _) k;replace f:=(f.other4 j3.symm _ _ _ _).call k;replace PR:=(PR.other4 G.symm _ _ _ _).call k;obtain⟨a7,b7,c7,d7,rfl,kd,kf,ke,ka,k9⟩:=id hv;have HV:=mk1 (hv);obtain⟨j,l,o,t,rf⟩:=id f;have z3:=f.lt;go_wp2;have O:=f.self4 a7 b7 c7 d7;unfold set4 at O;refine XN (v:=?v) ?hr rfl ?hR
 case hr=>simp[results,Tryz.results100,go_sem,O.c0,O.c1,O.c2,O.c3];rfl
 refine⟨_,rfl,?_,HV.out⟩;rw[H0.out];exact aM BL.out Q3.out
def A8{w W:XA}{k f e a b c d p q r s g i j:Nat}(h:Kept w k [⟨k,0,g,i,j,0⟩,⟨f,0,a,b,c,d⟩,⟨e,0,p,q,r,s⟩] W):W.cell? ⟨k,0,none⟩=some (uZ g)/\W.cell? ⟨k,1,none⟩=some (uZ i)/\W.cell? ⟨k,2,none⟩=some (uZ j)/\W.cell? ⟨k,3,none⟩=some (uZ 0)/\W.cell? ⟨f,0,none⟩=some (uZ a)/\W.cell? ⟨f,1,none⟩=some (uZ b)/\W.cell? ⟨f,2,none⟩=some (uZ c)/\W.cell? ⟨f,3,none⟩=some (uZ d)/\W.cell? ⟨e,0,none⟩=some (uZ p)/\W.cell? ⟨e,1,none⟩=some (uZ q)/\W.cell? ⟨e,2,none⟩=some (uZ r)/\W.cell? ⟨e,3,none⟩=some (uZ s)/\Kept w k [⟨k,0,g,i,j,0⟩,⟨f,0,a,b,c,d⟩,⟨e,0,p,q,r,s⟩] W:=
 ⟨h.head.c0,h.head.c1,h.head.c2,h.head.c3,h.tail.head.c0,h.tail.head.c1,h.tail.head.c2,h.tail.head.c3,h.tail.tail.head.c0,h.tail.tail.head.c1,h.tail.tail.head.c2,h.tail.tail.head.c3,h⟩
def sU(l t o:Nat)(x y:XB)(m n R:Nat)(hx:Four x m)(P:Four y n)(w:XA):((∀w,YN prog 98 #[.agg #[.int .u64 l,.int .u64 t,.int .u64 o,.int .u64 0],x,y] w (Ret λe w'=>Below w.heap.size w w'/\Four e R))->YN prog 50 #[.agg #[.int .u64 l,.int .u64 t,.int .u64 o,.int .u64 0],x,y] w (Ret λe w'=>Below w.heap.size w w'/\Four e R))/\((∀w,YN prog 178 #[.agg #[.int .u64 l,.int .u64 t,.int .u64 o,.int .u64 0],x,y] w (Ret λe w'=>Below w.heap.size w w'/\Four e R))->YN prog 121 #[.agg #[.int .u64 l,.int .u64 t,.int .u64 o,.int .u64 0],x,y] w (Ret λe w'=>Below w.heap.size w w'/\Four e R))/\((∀w,YN prog 100 #[.agg #[.int .u64 l,.int .u64 t,.int .u64 o,.int .u64 0],x,y] w (Ret λe w'=>Below w.heap.size w w'/\Four e R))->YN prog 51 #[.agg #[.int .u64 l,.int .u64 t,.int .u64 o,.int .u64 0],x,y] w (Ret λe w'=>Below w.heap.size w w'/\Four e R)):=by
 obtain⟨a,b,c,d,rfl,ha,hb,hc,hd,em⟩:=id hx;obtain⟨p,q,r,s,rfl,hp,W,Z,X,en⟩:=id P;have HX:=mk1 (hx);have HY:=mk1 (P);refine⟨λG=>?_,λG=>?_,λG=>?_⟩;all_goals replace G:Hid _:=G
 all_goals clear em en hx P ha hb hc hd hp W Z X
 case' refine_1=>go_enter func50,ntmps50
 case' refine_2=>go_enter func121,ntmps121
 case' refine_3=>go_enter func51,ntmps51
 all_goals
  go_wp2_with fail
  have g:=Gu w 78 42 42 42 l t o 0 a b c d p q r s 0 0 0 0;simp only[ZF]at g;generalize h3:w.heap.size+1+1+1=S at g⊢;generalize h2:w.heap.size+1+1=F at g⊢;generalize h1:w.heap.size+1=E at g⊢;have M:Hid (w.heap.size<=S):=by unfold Hid;omega
  generalize h0:w.heap.size=C at g M⊢;have H0:Hid (w.heap.size=C):=h0;have J:∀x∈([⟨C,0,l,t,o,0⟩,⟨E,0,a,b,c,d⟩,⟨F,0,p,q,r,s⟩]:List Blk),S≠x.k:=by simp only[List.mem_cons,Yf,or_false];rintro x (rfl|rfl|rfl)<;>simp only<;>omega
  have i:=(((Kept.mk1 g.bl g.le).cons g.tail.tail.head).cons g.tail.head).cons g.head;have T3:=g.tail.tail.tail.head.at4;obtain⟨u,z,B,A,L⟩:=id T3;have K:=T3.lt;go_region_held3 (λw'=>w'.cell? ⟨C,0,none⟩=some (.int .u64 l)/\w'.cell? ⟨C,1,none⟩=some (.int .u64 t)/\w'.cell? ⟨C,2,none⟩=some (.int .u64 o)/\w'.cell? ⟨C,3,none⟩=some (.int .u64 0)/\w'.cell? ⟨E,0,none⟩=some (.int .u64 a)/\w'.cell? ⟨E,1,none⟩=some (.int .u64 b)/\w'.cell? ⟨E,2,none⟩=some (.int .u64 c)/\w'.cell? ⟨E,3,none⟩=some (.int .u64 d)/\w'.cell? ⟨F,0,none⟩=some (.int .u64 p)/\w'.cell? ⟨F,1,none⟩=some (.int .u64 q)/\w'.cell? ⟨F,2,none⟩=some (.int .u64 r)/\w'.cell? ⟨F,3,none⟩=some (.int .u64 s)/\Kept w C [⟨C,0,l,t,o,0⟩,⟨E,0,a,b,c,d⟩,⟨F,0,p,q,r,s⟩] w') (first|(with_reducible exact A8 i)|(with_reducible exact A8 i.drew)|(with_reducible exact A8 (i.set4' M J _ _ _ _))|(with_reducible exact A8 (i.set4' M J _ _ _ _).drew)|fail) (first|(go_at_call_of 55 (X9 #[YW .u64 a,YW .u64 b,YW .u64 c,YW .u64 d]);apply(jV HX).mono;rintro e N ⟨v,rfl,k,rfl⟩;(first|(with_reducible (have f:=i.drew.call k))|(with_reducible (have f:=i.call k))|fail);(first|(with_reducible (have j:=T3.drew.call k))|(with_reducible (have j:=T3.call k))|fail);clear i T3 k;have i:=f;have T3:=j;clear f j;obtain⟨u,z,B,A,L⟩:=id T3;have K:=T3.lt)|(go_at_call_of 55 (X9 #[YW .u64 p,YW .u64 q,YW .u64 r,YW .u64 s]);apply(jV HY).mono;rintro e N ⟨v,rfl,k,rfl⟩;(first|(with_reducible (have f:=i.drew.call k))|(with_reducible (have f:=i.call k))|fail);(first|(with_reducible (have j:=T3.drew.call k))|(with_reducible (have j:=T3.call k))|fail);clear i T3 k;have i:=f;have T3:=j;clear f j;obtain⟨u,z,B,A,L⟩:=id T3;have K:=T3.lt)|((first|go_at_call 98|go_at_call 178|go_at_call 100);apply(G _).mono;rintro e N ⟨v,rfl,k,D⟩;obtain⟨Q,V,T,U,rfl,h5,h6,Y,h4,O⟩:=id D;clear O;have I:Hid (Four _ _):=D;clear D;(first|(with_reducible (have f:=i.drew.call k))|(with_reducible (have f:=i.call k))|fail);(first|(with_reducible (have j:=T3.drew.call k))|(with_reducible (have j:=T3.call k))|fail);clear i T3 k;have i:=f;have T3:=j;clear f j;obtain⟨u,z,B,A,L⟩:=id T3;have K:=T3.lt)|(go_at_call 99;apply(jR I).mono;rintro e N ⟨v,rfl,k,rfl⟩;(first|(with_reducible (have f:=i.drew.call k))|(with_reducible (have f:=i.call k))|fail);(first|(with_reducible (have j:=T3.drew.call k))|(with_reducible (have j:=T3.call k))|fail);clear i T3 k;have i:=f;have T3:=j;clear f j;obtain⟨u,z,B,A,L⟩:=id T3;have K:=T3.lt))
  all_goals (try go_wp2)
  all_goals (have H:=T3.self4 Q V T U)
  all_goals unfold set4 at H
  all_goals (refine XN (v:=(.agg #[.int .u64 Q,.int .u64 V,.int .u64 T,.int .u64 U])) ?_ rfl ?_)
  all_goals first|(refine⟨_,rfl,?_,I⟩;rw[H0.out];exact aM i.bl M)|(simp[results,Tryz.results50,Tryz.results121,Tryz.results51,go_sem,H.c0,H.c1,H.c2,H.c3];done)|fail
def Ds{k c b P m n:Nat}{x y:XB}{w:XA}(hG:Gap k c b P)(hx:Four x m)(d:Four y n)(g:m<P)(f:n<P):
 cZ 50 #[.agg #[uZ k,uZ c,uZ b,uZ 0],x,y] w (rZ w λe w'=>Four e ((m+n)%P)):=
 (sU k c b x y m n _ hx d w).1 (λw=>sum_any k c b P _ _ m n hG hx d g f w)
def uJ{k c b P m n:Nat}{x y:XB}{w:XA}(hG:Gap k c b P)(hx:Four x m)(d:Four y n)(g:m<P)(f:n<P):
 cZ 121 #[.agg #[uZ k,uZ c,uZ b,uZ 0],x,y] w (rZ w λe w'=>Four e ((m+P-n)%P)):=
 (sU k c b x y m n _ hx d w).2.1 (λw=>oG k c b P _ _ m n hG hx d g f w)
def pW{k c b P m n:Nat}{x y:XB}{w:XA}(hG:Gap k c b P)(hx:Four x m)(d:Four y n):
 cZ 51 #[.agg #[uZ k,uZ c,uZ b,uZ 0],x,y] w (rZ w λe w'=>Four e (m*n%P)):=
 (sU k c b x y m n _ hx d w).2.2 (λw=>nT k c b P _ _ m n hG hx d w)
section
open Go
section
variable {P:YJ}{ops:Array Yp}{Q:Exit->Act->XA->Prop}{S:XA->Prop}{p:Nat}
def waits(k:Array Yp)(p i:Nat):Bool:=match k[p]? with
 | some o=>o.after.any (λe=>Zb .any e && e.on == i)
 | none=>false
end
end
section
section
variable {P:YJ}{ops:Array Yp}{Q:Exit->Act->XA->Prop}{S:Array Bool->XA->Prop}
def bI{t:Array XB}{o:Yp}(k:o.guard=none):Zc o (yielded ops t)=true:=by
 unfold Zc;rw[k]
def anyS(P:YJ)(k:Array Yp)(Q:Exit->Act->XA->Prop)(S:Array Bool->XA->Prop):Nat->Array Bool->Act->XA->Prop
 | 0,listed,a,w=>Yu .any k listed=[]/\Q .normal a w
 | fuel+1,listed,a,w=>(Yu .any k listed=[]->Q .normal a w) /\
  ∀i∈Yu .any k listed,wpOp P k Q i (λb w'=>S (listed.setIfInBounds i true) w'/\anyS P k Q S fuel (listed.setIfInBounds i true) b w') a w
def anyS.any:∀(k:Nat) (b:Array Bool) (a:Act) (w:XA),anyS P ops Q S k b a w->wpAny P .any ops Q k b a w
 | 0,_,_,_,h=>h
 | k+1,_,_,_,h=>⟨h.1,λi e=>wpOp_mono (λc w' d=>anyS.any k _ c w' d.2) (h.2 i e)⟩
def Bef(S:Array Bool->XA->Prop)(p:Nat)(w:XA):Prop:=∃l:Array Bool,l.getD p false=false/\S l w
def anyS.first{p i:Nat}{y op:Yp}{v:XB}(L:ops[i]? = some y)(hp:ops[p]? = some op)(U:∃e∈op.after,Zb .any e=true/\e.on=i)(O:p≠i)(V:∀l w,S (yAH l i true) w->S l w)
 (s:∀(j:Nat) (o:Yp) cs b,ops[j]? = some o->o.op≠.select cs b) (hQ:∀c a w,Q (.panic c) (a.put y.dst v) w->Q (.panic c) a w) :
 ∀(f:Nat) (d:Array Bool) (a:Act) (w:XA),d.getD p false=false ->
  (∀j x,ops[j]? = some x->j≠i->d.getD j true=false->(∀e∈x.after,Zb .any e=true->e.on≠i)->y.apart ops x=true) ->
  i∈Yu .any ops d->YieldsIf P ops (Bef S p) y v a->Bef S p w->S (d.setIfInBounds i true) w ->
  anyS P ops Q S f (d.setIfInBounds i true) (a.put y.dst v) w->anyS P ops Q S (f+1) d a w:=by
 intro f;induction f with
 | zero =>
  intro d a w _ _ A E J u H;refine⟨λh=>absurd A (by rw[h];exact Yf),λj G=>?_⟩;by_cases g:j=i
  .subst g;exact E.wpOp L J ⟨u,H⟩
  .exact absurd (ready_mono G g) (by rw[H.1];exact Yf)
 | succ f ih =>
  intro d a w X n A E J u H;refine⟨λh=>absurd A (by rw[h];exact Yf),λj G=>?_⟩;by_cases g:j=i
  .subst g;exact E.wpOp L J ⟨u,H⟩
  .obtain⟨q,x,m,C⟩:=mem_ready.1 G;have r:∀e∈x.after,Zb .any e=true->e.on≠i:=λe I N R=>by
    have t:=C e I N;have B:=(mem_ready.1 A).1;rw[R]at t;rcases Nat.lt_or_ge i d.size with z|z
    .simp[z]at B t;rw[B]at t;cases t
    .simp[Array.getElem?_eq_none z]at t
   have B:j≠p:=by
    intro h;subst h;rw[hp]at m;obtain⟨e,I,N,t⟩:=U;injection m with m
    subst m;exact r e I N t
   have h2:=wpOp_putIf m (n j x m g q r) (λcs b=>s i y cs b L) (λcs b=>s j x cs b m) hQ E (H.2 j (ready_mono G g));have M:(d.setIfInBounds j true).getD p false=false:=by rw[yBF false B];exact X
   refine wpOp_mono (λZ w' F=>?_) h2;have Y:(d.setIfInBounds i true).setIfInBounds j true=(d.setIfInBounds j true).setIfInBounds i true:=(Array.setIfInBounds_comm _ _ (yBh g))
   have t:=F.2.1;rw[Y]at t;have T:Bef S p w':=⟨_,by rw[yBF false B,yBF false (yBh O)];exact X,F.2.1⟩
   refine⟨V _ _ t,ih (d.setIfInBounds j true) Z w' M (λk ok hk K D W=>?_) (ready_mono A (yBh g)) F.1 T t ?_⟩
   .refine n k ok hk K ?_ W;by_cases z:j=k
    .subst z;exact q
    .rw[yBF true z]at D;exact D
   .rw[<-Y];exact F.2.2
def anyS.take{p i:Nat}{f:Yp}{v:XB}{b:Nat}{k:Array Bool}{a:Act}{w:XA}(o:ops[i]? = some f)(n:∀l w,S (yAH l i true) w->S l w)(x:YieldsIf P ops (Bef S p) f v a)(s:Bef S p w)(j:S (k.setIfInBounds i true) w)
 (h:anyS P ops Q S b (k.setIfInBounds i true) (a.put f.dst v) w) (d:waits ops p i=true:=by kernel_rfl) (r:yAO ops=true:=by kernel_rfl)
 (g:(k.getD p false || p == i)=false:=by kernel_rfl) (hf:yBO .any ops k i=true:=by kernel_rfl) (t:(Yu .any ops k).contains i=true:=by kernel_rfl)
 (u:∀c a w,Q (.panic c) (a.put f.dst v) w->Q (.panic c) a w:=by exact λ_ _ _ h=>h):anyS P ops Q S (b+1) k a w:=by
 rw[Bool.or_eq_false_iff]at g;unfold waits at d;cases ho:ops[p]? with
 | none=>rw[ho]at d;cases d
 | some op =>
  rw[ho]at d;obtain⟨e,q,m⟩:=Array.any_eq_true'.1 d;simp only[XV,beq_iff_eq]at m;exact anyS.first o ho ⟨e,q,m.1,m.2⟩ (by simpa using g.2) n (Region.noSelect_spec r) u b k a w g.1 (Region.free_spec o hf) (by simpa using t) x s j h
def anyS.step{i:Nat}{o:Yp}{b:Nat}{k:Array Bool}{a:Act}{w:XA}(ho:ops[i]? = some o)(f:Yu .any ops k=[i])
 (h:∀c:Act->XA->Prop,Shut (∀a w,S (k.setIfInBounds i true) w->anyS P ops Q S b (k.setIfInBounds i true) a w->c a w) ->
  if Zc o (yielded ops a.tmps)=true then Y3 P o a w c Q else c (a.put o.dst Zs) w):anyS P ops Q S (b+1) k a w:=by
 refine⟨λe=>(by rw[f]at e;cases e),λj d=>?_⟩;rw[f,List.mem_singleton]at d;subst d;exact wpOp_step ho (λc g=>h c (λa w l m=>g a w ⟨l,m⟩))
def anyS.done{k:Array Bool}{a:Act}{w:XA}(c:Yu .any ops k=[])(h:Q .normal a w):∀b,anyS P ops Q S b k a w
 | 0=>⟨c,h⟩
 | _+1=>⟨λ_=>h,by rw[c];intro i d;cases d⟩
def anyS.begin{id:Nat}{a:Act}{w:XA}(S:Array Bool->XA->Prop)(k:P.follows .mixedOrders=true)(h:anyS P ops Q S ops.size (XT ops.size false) a w.drew):(Zd id ops true).wp P Q a w:=
 wp_region_any k (anyS.any _ _ _ _ h)
section
variable {i p fuel:Nat}{o:Yp}{listed:Array Bool}{a:Act}{w w':XA}{v:XB}
def anyS.ins{d:Option Zw}{I:Sem XB}(ho:ops[i]? = some o)(hx:I.run P w=.ok v w')(e:S (listed.setIfInBounds i true) w')(h:anyS P ops Q S fuel (listed.setIfInBounds i true) (a.put d v) w')
 (f:Yu .any ops listed=[i]:=by kernel_rfl) (c:o.guard=none:=by rfl) (k:Yh a.eval o=I >>= λv=>pure (ZS v):=by kernel_rfl) (hd:o.dst=d:=by kernel_rfl):anyS P ops Q S (fuel+1) listed a w:=by
 subst hd;exact anyS.step ho f λK b=>by
  rw[yEX (bI c)];unfold Y3;rw[k,X1,hx];exact b _ _ e h
def anyS.cal{d:Option Zw}{f:ZQ}{args:Array XB}{R:XB->XA->Prop}(ho:ops[i]? = some o)(k:YN P f args w (Ret R))(h:∀v w',R v w'->S (listed.setIfInBounds i true) w'/\anyS P ops Q S fuel (listed.setIfInBounds i true) (a.put d v) w')
 (g:Yu .any ops listed=[i]:=by kernel_rfl) (c:o.guard=none:=by rfl) (hx:(Yh a.eval o).run P w=.ok (.enter f args) w:=by kernel_rfl) (hd:o.dst=d:=by kernel_rfl):anyS P ops Q S (fuel+1) listed a w:=by
 subst hd;exact anyS.step ho g λK b=>by
  rw[yEX (bI c)];unfold Y3;rw[hx,ZM];refine k.mono ?_;rintro e w' ⟨v,rfl,hR⟩;exact b _ _ (h v w' hR).1 (h v w' hR).2
def anyS.sto{d:Option Zw}(ho:ops[i]? = some o)(k:Yd)(x y:yAe)(c:o.op=.store k x y)(b off:Nat)(u:XB)(hv:u.cells=#[u])(m:u.oneCell'=true)(j:w.there b off 1)(l:(P.info? k).map (·.size)=some 1)
 (g:S (listed.setIfInBounds i true) (w.setCells b off [u])) (h:anyS P ops Q S fuel (listed.setIfInBounds i true) (a.put d Zs) (w.setCells b off [u])) (hx:a.eval x=oZ b off:=by kernel_rfl) (p:a.eval y=u:=by kernel_rfl)
 (f:Yu .any ops listed=[i]:=by kernel_rfl) (n:o.guard=none:=by rfl) (hd:o.dst=d:=by kernel_rfl):anyS P ops Q S (fuel+1) listed a w:=by
 subst hd;exact anyS.step ho f λK q=>by
  rw[yEX (bI n)];have f:=yDw (P:=P) w b off k #[u] j l (by simp[m]);have e:storeVar k ⟨b,off,none⟩ u=storeVar k ⟨b,off,none⟩ (.agg #[u]):=by
   unfold storeVar;rw[hv];rfl
  unfold Y3 Yh;simp only[c,hx,p,yBE,yA3,X1,Zr,Yz,e,f];exact q _ _ g h
def anyS.cel{d:Option Zw}{x:XB}(ho:ops[i]? = some o)(p:Nat)(g:∀l w,S (yAH l i true) w->S l w)(T:Yd)(t:Zw)(b off:Nat)(k:o.op=.load T (.tmp t))(r:(P.underlying T).map (·.isRow)=some false)(v:∀w,Bef S p w->w.cell? ⟨b,off,none⟩=some x)(m:Bef S p w)(e:S (listed.setIfInBounds i true) w)
 (h:anyS P ops Q S fuel (listed.setIfInBounds i true) (a.put d x) w) (hx:a.eval (.tmp t)=oZ b off:=by kernel_rfl) (s:o.guard=none:=by rfl) (y:waits ops p i=true:=by kernel_rfl) (j:yAO ops=true:=by kernel_rfl)
 (n:(listed.getD p false || p == i)=false:=by kernel_rfl) (hf:yBO .any ops listed i=true:=by kernel_rfl) (q:(Yu .any ops listed).contains i=true:=by kernel_rfl)
 (u:∀c a w,Q (.panic c) (a.put o.dst x) w->Q (.panic c) a w:=by exact λ_ _ _ h=>h) (hd:o.dst=d:=by kernel_rfl):anyS P ops Q S (fuel+1) listed a w:=by
 subst hd;exact anyS.take (p:=p) ho g (Ye ⟨bI s,λw f=>by
  unfold Yh;rw[k];dsimp only;rw[hx,X1,eK (v w f) r];rfl⟩) m e h y j n hf q u
def anyS.row{d:Option Zw}{cs:List XB}(ho:ops[i]? = some o)(p:Nat)(j:∀l w,S (yAH l i true) w->S l w)(T:Yd)(t:Zw)(b off:Nat)(g:TypeDesc)(k:o.op=.load T (.tmp t))(u:P.underlying T=some g)(f:g.isRow=true)(s:(P.info? T).map (·.size)=some cs.length)(y:∀w,Bef S p w->w.rangeAt b off cs)(n:Bef S p w)(e:S (listed.setIfInBounds i true) w)
 (h:anyS P ops Q S fuel (listed.setIfInBounds i true) (a.put d (.agg cs.toArray)) w) (hx:a.eval (.tmp t)=oZ b off:=by kernel_rfl) (v:o.guard=none:=by rfl) (z:waits ops p i=true:=by kernel_rfl) (m:yAO ops=true:=by kernel_rfl)
 (q:(listed.getD p false || p == i)=false:=by kernel_rfl) (hf:yBO .any ops listed i=true:=by kernel_rfl) (r:(Yu .any ops listed).contains i=true:=by kernel_rfl)
 (x:∀c a w,Q (.panic c) (a.put o.dst (.agg cs.toArray)) w->Q (.panic c) a w:=by exact λ_ _ _ h=>h) (hd:o.dst=d:=by kernel_rfl):anyS P ops Q S (fuel+1) listed a w:=by
 subst hd;exact anyS.take (p:=p) ho j (yieldsIf_load_mid (bI v) T (.tmp t) k b off hx cs g y u f s) n e h z m q hf r x
def anyS.val{d:Option Zw}{x:XB}(ho:ops[i]? = some o)(p:Nat)(b:∀l w,S (yAH l i true) w->S l w)(f:Bef S p w)(k:S (listed.setIfInBounds i true) w)(h:anyS P ops Q S fuel (listed.setIfInBounds i true) (a.put d x) w)(hv:∀w,(Yh a.eval o).run P w=.ok (.value x) w:=by intro _;kernel_rfl)(m:o.guard=none:=by rfl)(q:waits ops p i=true:=by kernel_rfl)(e:yAO ops=true:=by kernel_rfl)
 (g:(listed.getD p false || p == i)=false:=by kernel_rfl) (hf:yBO .any ops listed i=true:=by kernel_rfl) (j:(Yu .any ops listed).contains i=true:=by kernel_rfl)
 (n:∀c a w,Q (.panic c) (a.put o.dst x) w->Q (.panic c) a w:=by exact λ_ _ _ h=>h) (hd:o.dst=d:=by kernel_rfl):anyS P ops Q S (fuel+1) listed a w:=by
 subst hd;exact anyS.take (p:=p) ho b (Ye ⟨bI m,λw _=>hv w⟩) f k h q e g hf j n
def anyS.nxt{d:Option Zw}{x:XB}(ho:ops[i]? = some o)(c:S (listed.setIfInBounds i true) w)(h:anyS P ops Q S fuel (listed.setIfInBounds i true) (a.put d x) w)(hv:(Yh a.eval o).run P w=.ok (.value x) w:=by kernel_rfl)(e:Yu .any ops listed=[i]:=by kernel_rfl)(b:o.guard=none:=by rfl)(hd:o.dst=d:=by kernel_rfl):anyS P ops Q S (fuel+1) listed a w:=by
 subst hd;exact anyS.step ho e λK k=>by
  rw[yEX (bI b)];unfold Y3;rw[hv];exact k _ _ c h
end
end
def anyS.sta{P:YJ}{c:Array Yp}{Q:Exit->Act->XA->Prop}{S:Array Bool->XA->Prop}{i e:Nat}{o:Yp}{k:Array Bool}{a:Act}{w:XA}{d:Option Zw}(ho:c[i]? = some o)(j:Yd)(x y:yAe)(f:o.op=.store j x y)(b off:Nat)(us:Array XB)(p:us.all (·.oneCell')=true)(m:w.there b off us.size)(n:(P.info? j).map (·.size)=some us.size)
 (l:S (k.setIfInBounds i true) (w.setCells b off us.toList)) (h:anyS P c Q S e (k.setIfInBounds i true) (a.put d Zs) (w.setCells b off us.toList)) (hx:a.eval x=oZ b off:=by kernel_rfl) (r:a.eval y=.agg us:=by kernel_rfl)
 (g:Yu .any c k=[i]:=by kernel_rfl) (q:o.guard=none:=by rfl) (hd:o.dst=d:=by kernel_rfl):anyS P c Q S (e+1) k a w:=by
 subst hd;exact anyS.step ho g λK s=>by
  rw[yEX (bI q)];have g:=yDw (P:=P) w b off j us m n p;unfold Y3 Yh;simp only[f,hx,r,yBE,yA3,X1,Zr,Yz,g];exact s _ _ l h
structure Iv where
 p:XA->Prop
 gr:∀W W',kZ W W'->p W->p W'
 b:Bool
abbrev Iv.bel(k:XA):Iv:=⟨λW=>kZ k W,λ_ _ b h=>h.trans (b.mono h.size),true⟩
section
variable {P:YJ}{ops:Array Yp}{Q:Exit->Act->XA->Prop}{p r:Nat}{J:Iv}{W:XA}
def Sa(p r:Nat)(J:Iv)(l:Array Bool)(W:XA):Prop:=(J.b=true/\l.getD p false=true/\l.getD r false=true)\/J.p W
def Sa.back{i:Nat}(h:p≠i)(b:r≠i)(l:Array Bool)(W:XA)(k:Sa p r J (l.setIfInBounds i true) W):Sa p r J l W:=by
 rcases k with k|k
 .rw[yBF false (yBh h),yBF false (yBh b)]at k;exact Ye k
 .exact X7 k
def qw(k:Array Yp)(b:Bool)(p r i:Nat):Nat:=bif b then bif waits k p i then p else r else((YA k.size).find? λj=>waits k j i).getD 0
def Sa.bel{i:Nat}(h:Bef (Sa p r J) (qw ops J.b p r i) W):J.p W:=by
 obtain⟨l,k,⟨d,b⟩|b⟩:=h
 .exfalso;unfold qw at k;rw[d]at k;cases c:waits ops p i with
  | true=>rw[c]at k;exact yBb (k.symm.trans b.1)
  | false=>rw[c]at k;exact yBb (k.symm.trans b.2)
 .exact b
def Sa.bef{q:Nat}(h:J.p W):Bef (Sa p r J) q W:=⟨#[],by simp,X7 h⟩
def AW(P:YJ)(c:Array Yp)(Q:Exit->Act->XA->Prop)(p r:Nat)(J:Iv)(b:Nat)(k:Array Bool)(a:Act)(w:XA):Prop:=J.p w->anyS P c Q (Sa p r J) b k a w
def AW.beg{J:Iv}{id:Nat}{a:Act}{w:XA}(p r:Nat)(k:J.p w.drew)(h:AW P ops Q p r J ops.size (XT ops.size false) a w.drew)(b:P.follows .mixedOrders=true:=by kernel_rfl):(Zd id ops true).wp P Q a w:=anyS.begin (Sa p r J) b (h k)
def AW.begin{id:Nat}{a:Act}{w:XA}(p r:Nat)(h:AW P ops Q p r (Iv.bel w) ops.size (XT ops.size false) a w.drew)(k:P.follows .mixedOrders=true:=by kernel_rfl):(Zd id ops true).wp P Q a w:=AW.beg p r (XR _ w).drew h k
def aw1(b:Array Yp)(p r q i:Nat)(k:Array Bool):Bool:=waits b q i && yAO b && !(k.getD q false || q == i) && yBO .any b k i && (Yu .any b k).contains i && !(p == i) && !(r == i)
def fw(k:Array Yp)(i:Nat):Nat:=((YA k.size).find? λj=>waits k j i).getD 0
variable {i fuel:Nat}{o:Yp}{listed:Array Bool}{a a':Act}{w w':XA}{d:Option Zw}{x v:XB}{t:Zw}{T:Yd}{b off:Nat}{cs:List XB}
def AW.take(i q:Nat)(ho:ops[i]? = some o)(hd:o.dst=d)(m:YieldsIf P ops (Bef (Sa p r J) q) o x a)(t:a.put d x=a')(b:aw1 ops p r q i listed=true)(j:∀c a w,Q (.panic c) (a.put o.dst x) w->Q (.panic c) a w)(h:AW P ops Q p r J fuel (listed.setIfInBounds i true) a' w):AW P ops Q p r J (fuel+1) listed a w:=λk=>by
 subst t hd;simp only[aw1,XV,Bool.not_eq_true']at b;obtain⟨⟨⟨⟨⟨⟨g,l⟩,u⟩,f⟩,s⟩,e⟩,n⟩:=b;exact anyS.take (p:=q) ho (Sa.back (by simpa using e) (by simpa using n)) m (Sa.bef k) (X7 k) (h k) g l u f s j
def AW.va(i:Nat)(x:XB)(h:AW P ops Q p r J fuel (listed.setIfInBounds i true) a' w)(ho:ops[i]? = some o:=by(simp only[Yj,Yg,Yi])<;>rfl)(hd:o.dst=d:=by rfl)(b:o.guard=none:=by rfl)(hv:∀w,(Yh a.eval o).run P w=.ok (.value x) w:=by intro _;kernel_rfl)
 (k:a.put d x=a':=by(simp only[Ym,XF,XJ,XL])<;>rfl) (e:aw1 ops p r (fw ops i) i listed=true:=by kernel_rfl) (f:∀c a w,Q (.panic c) (a.put o.dst x) w->Q (.panic c) a w:=by exact λ_ _ _ h=>h):AW P ops Q p r J (fuel+1) listed a w:=
 AW.take i (fw ops i) ho hd (Ye ⟨bI b,λw _=>hv w⟩) k e f h
def AW.iv(i:Nat){I:Sem XB}(j:∀w,I.run P w=.ok x w)(h:AW P ops Q p r J fuel (listed.setIfInBounds i true) a' w)(ho:ops[i]? = some o:=by(simp only[Yj,Yg,Yi])<;>rfl)(hd:o.dst=d:=by rfl)(e:o.guard=none:=by rfl)(k:Yh a.eval o=I >>= λv=>pure (ZS v):=by kernel_rfl)
 (b:a.put d x=a':=by(simp only[Ym,XF,XJ,XL])<;>rfl) (f:aw1 ops p r (fw ops i) i listed=true:=by kernel_rfl) (g:∀c a w,Q (.panic c) (a.put o.dst x) w->Q (.panic c) a w:=by exact λ_ _ _ h=>h):AW P ops Q p r J (fuel+1) listed a w:=
 AW.take i (fw ops i) ho hd (Ye ⟨bI e,λw _=>by rw[k,X1,j w];rfl⟩) b f g h
def SZ{d:Array Yd}{s t k:Zw}{f:ZQ}{y:XB}(hf:∀args W,(callFunc f args).run P W=.ok (.enter f args) W)(ho:o.op=.call ⟨.value (.tmp s),#[.tmp t,.tmp k],d⟩)(b:a.eval (.tmp s)=.func (.func f) #[] #[])(hx:a.eval (.tmp t)=x)(c:a.eval (.tmp k)=y):(Yh a.eval o).run P w=.ok (.enter f #[x,y]) w:=by
 unfold Yh;rw[ho];have e:(#[yCQ t,yCQ k].map a.eval)=#[x,y]:=by simp[hx,c]
 simp only[resolve,b,Deferred.ofValue,X1,Zr,Yz,invoke,e];exact hf _ w
def AW.mv(i:Nat)(h:AW P ops Q p r J fuel (listed.setIfInBounds i true) a' w)(ho:ops[i]? = some o:=by(simp only[Yj,Yg,Yi])<;>rfl)(hd:o.dst=d:=by rfl)(e:o.guard=none:=by rfl)(k:o.op=.move (.tmp t):=by rfl)(hx:a.eval (.tmp t)=x:=by(conv=>lhs;whnf)<;>rfl)
 (b:a.put d x=a':=by(simp only[Ym,XF,XJ,XL])<;>rfl) (f:aw1 ops p r (fw ops i) i listed=true:=by kernel_rfl) (g:∀c a w,Q (.panic c) (a.put o.dst x) w->Q (.panic c) a w:=by exact λ_ _ _ h=>h):AW P ops Q p r J (fuel+1) listed a w:=
 AW.take i (fw ops i) ho hd (Ye ⟨bI e,λw _=>by unfold Yh;rw[k];dsimp only;rw[hx];rfl⟩) b f g h
def AW.ce(i:Nat)(n:(P.underlying T).map (·.isRow)=some false)(f:∀W,J.p W->W.cell? ⟨b,off,none⟩=some x)(h:AW P ops Q p r J fuel (listed.setIfInBounds i true) a' w)(ho:ops[i]? = some o:=by(simp only[Yj,Yg,Yi])<;>rfl)(hd:o.dst=d:=by rfl)(j:o.guard=none:=by rfl)(k:o.op=.load T (.tmp t):=by rfl)(hx:a.eval (.tmp t)=oZ b off:=by rfl)
 (g:a.put d x=a':=by(simp only[Ym,XF,XJ,XL])<;>rfl) (l:aw1 ops p r (qw ops J.b p r i) i listed=true:=by kernel_rfl) (m:∀c a w,Q (.panic c) (a.put o.dst x) w->Q (.panic c) a w:=by exact λ_ _ _ h=>h):AW P ops Q p r J (fuel+1) listed a w:=
 AW.take i (qw ops J.b p r i) ho hd (Ye ⟨bI j,λw e=>by
  unfold Yh;rw[k];dsimp only;rw[hx,X1,eK (f w (Sa.bel e)) n];rfl⟩) g l m h
def AW.ro(i:Nat)(u:∀W,J.p W->W.rangeAt b off cs)(hv:Hid (.agg cs.toArray=x))(g:(P.underlying T).map (·.isRow)=some true)(f:(P.info? T).map (·.size)=some cs.length)(h:AW P ops Q p r J fuel (listed.setIfInBounds i true) a' w)(ho:ops[i]? = some o:=by(simp only[Yj,Yg,Yi])<;>rfl)(hd:o.dst=d:=by rfl)(j:o.guard=none:=by rfl)(k:o.op=.load T (.tmp t):=by rfl)(hx:a.eval (.tmp t)=oZ b off:=by rfl)
 (v:a.put d x=a':=by(simp only[Ym,XF,XJ,XL])<;>rfl) (l:aw1 ops p r (qw ops J.b p r i) i listed=true:=by kernel_rfl) (n:∀c a w,Q (.panic c) (a.put o.dst x) w->Q (.panic c) a w:=by exact λ_ _ _ h=>h):AW P ops Q p r J (fuel+1) listed a w:=by
 obtain rfl:=hv;obtain⟨s,m,q⟩:=XE.1 g;exact AW.take i (qw ops J.b p r i) ho hd (yieldsIf_load_mid (bI j) T (.tmp t) k b off hx cs s (λw e=>u w (Sa.bel e)) m q f) v l n h
def AW.ca(i:Nat){f:ZQ}{args:Array XB}{R:XB->XA->Prop}{F:XB->Act}(j:J.p w->YN P f args w (Ret R))(hR:∀e w',R e w'->kZ w w')(h:∀e w',R e w'->AW P ops Q p r J fuel (listed.setIfInBounds i true) (F e) w')(ho:ops[i]? = some o:=by(simp only[Yj,Yg,Yi])<;>rfl)(hd:o.dst=d:=by rfl)(g:o.guard=none:=by rfl)(hx:(Yh a.eval o).run P w=.ok (.enter f args) w:=by kernel_rfl)(b:Yu .any ops listed=[i]:=by kernel_rfl)(hf:∀e,a.put d e=F e:=by intro _;(simp only[Ym,XF,XJ,XL])<;>rfl):AW P ops Q p r J (fuel+1) listed a w:=λc =>
 anyS.cal ho (j c) (λe w' b=>by
  have k:=J.gr w w' (hR e w' b) c;exact⟨X7 k,hf e ▸ h e w' b k⟩) b g hx hd
def AW.cw(i:Nat){f:ZQ}{args:Array XB}{R:XB->XA->Prop}{F:XB->Act}(c:J.p w->YN P f args w (Ret R))(hR:∀e w',J.p w->R e w'->J.p w')(h:∀e w',R e w'->AW P ops Q p r J fuel (listed.setIfInBounds i true) (F e) w')(ho:ops[i]? = some o:=by(simp only[Yj,Yg,Yi])<;>rfl)(hd:o.dst=d:=by rfl)(g:o.guard=none:=by rfl)(hx:(Yh a.eval o).run P w=.ok (.enter f args) w:=by kernel_rfl)(k:Yu .any ops listed=[i]:=by kernel_rfl)(hf:∀e,a.put d e=F e:=by intro _;(simp only[Ym,XF,XJ,XL])<;>rfl):AW P ops Q p r J (fuel+1) listed a w:=λb =>
 anyS.cal ho (c b) (λe w' k=>⟨X7 (hR e w' b k),hf e ▸ h e w' k (hR e w' b k)⟩) k g hx hd
def AW.gi(i:Nat){f:ZQ}{args:Array XB}(k:J.p w->YN P f args w (rZ w λe w'=>e=x))(h:∀w',kZ w w'->AW P ops Q p r J fuel (listed.setIfInBounds i true) a' w')(ho:ops[i]? = some o:=by(simp only[Yj,Yg,Yi])<;>rfl)(hd:o.dst=d:=by rfl)(c:o.guard=none:=by rfl)(hx:(Yh a.eval o).run P w=.ok (.enter f args) w:=by kernel_rfl)
 (b:a.put d x=a':=by(simp only[Ym,XF,XJ,XL])<;>rfl) (j:Yu .any ops listed=[i]:=by kernel_rfl):AW P ops Q p r J (fuel+1) listed a w:=AW.ca (F:=λe=>a.put d e) i k (λe w' h=>h.1) (λe w' hR=>by
 obtain⟨g,rfl⟩:=hR;subst b;exact h w' g) ho hd c hx j λ_=>rfl
def AW.ns(i:Nat){I:Sem XB}(hx:I.run P w=.ok x w')(b:kZ w w')(h:AW P ops Q p r J fuel (listed.setIfInBounds i true) a' w')(ho:ops[i]? = some o:=by(simp only[Yj,Yg,Yi])<;>rfl)(hd:o.dst=d:=by rfl)(f:o.guard=none:=by rfl)(c:Yh a.eval o=I >>= λv=>pure (ZS v):=by kernel_rfl)
 (e:a.put d x=a':=by(simp only[Ym,XF,XJ,XL])<;>rfl) (j:Yu .any ops listed=[i]:=by kernel_rfl):AW P ops Q p r J (fuel+1) listed a w:=λg=>by
 subst e;have k:=J.gr w w' b g;exact anyS.ins ho hx (X7 k) (h k) j f c hd
def AW.nx(i:Nat)(x:XB)(h:AW P ops Q p r J fuel (listed.setIfInBounds i true) a' w)(ho:ops[i]? = some o:=by(simp only[Yj,Yg,Yi])<;>rfl)(hd:o.dst=d:=by rfl)(c:o.guard=none:=by rfl)(hv:(Yh a.eval o).run P w=.ok (.value x) w:=by kernel_rfl)
 (b:a.put d x=a':=by(simp only[Ym,XF,XJ,XL])<;>rfl) (e:Yu .any ops listed=[i]:=by kernel_rfl):AW P ops Q p r J (fuel+1) listed a w:=λk=>by
 subst b;exact anyS.nxt ho (X7 k) (h k) hv e c hd
def AW.dn(h:J.p w->Q .normal a w)(k:Yu .any ops listed=[]:=by kernel_rfl):AW P ops Q p r J fuel listed a w:=λb=>anyS.done k (h b) _
def AW.fi{us:List XB}{k off:Nat}(hv:Hid (.agg us.toArray=v))(e:us.toArray.all (·.oneCell')=true)(d:(P.info? T).map (·.size)=some us.length)(h:J.p w->w.there k off us.length/\Q .normal a' (w.setCells k off us))(ho:ops[p]? = some o:=by(simp only[Yj,Yg,Yi])<;>rfl)(hd:o.dst=none:=by rfl)(g:o.guard=none:=by rfl){y:yAe}(c:o.op=.store T (.tmp t) y:=by rfl)(hx:a.eval (.tmp t)=oZ k off:=by rfl)(l:a.eval y=v:=by rfl)
 (m:a.put none Zs=a':=by(simp only[Ym])<;>rfl) (b:(Yu .any ops listed,Yu .any ops (listed.setIfInBounds p true),J.b,(listed.setIfInBounds p true).getD p false,(listed.setIfInBounds p true).getD r false)=([p],[],true,true,true):=by kernel_rfl):AW P ops Q p r J (fuel+1) listed a w:=λf=>by
 simp only[Ze.injEq]at b;obtain⟨i,j⟩:=h f;subst m;exact anyS.sta ho T (.tmp t) y c k off us.toArray e i d (Ye b.2.2) (anyS.done b.2.1 j _) hx (l.trans hv.symm) b.1 g hd
def AW.ss(i:Nat){us:List XB}{k off:Nat}(hv:Hid (.agg us.toArray=v))(g:us.toArray.all (·.oneCell')=true)(f:(P.info? T).map (·.size)=some us.length)(d:Hid (w.setCells k off us=w'))(h:J.p w->w.there k off us.length/\J.p w')(s:AW P ops Q p r J fuel (listed.setIfInBounds i true) a' w')(ho:ops[i]? = some o:=by(simp only[Yj,Yg,Yi])<;>rfl)(hd:o.dst=none:=by rfl)(l:o.guard=none:=by rfl){y:yAe}(b:o.op=.store T (.tmp t) y:=by rfl)(hx:a.eval (.tmp t)=oZ k off:=by rfl)(n:a.eval y=v:=by rfl)
 (q:a.put none Zs=a':=by(simp only[Ym])<;>rfl) (e:Yu .any ops listed=[i]:=by kernel_rfl):AW P ops Q p r J (fuel+1) listed a w:=λj=>by
 obtain⟨m,c⟩:=h j;obtain rfl:=d;subst q;exact anyS.sta ho T (.tmp t) y b k off us.toArray g m f (X7 c) (s c) hx (n.trans hv.symm) e l hd
def AW.f2{us us':List XB}{k d:Nat}{B:XB}{x:Yd}(hv:Hid (.agg us.toArray=v))(l:Hid (.agg us'.toArray=B))(F:us.toArray.all (·.oneCell')=true)(E:(P.info? T).map (·.size)=some us.length)(i:us'.toArray.all (·.oneCell')=true)(u:(P.info? x).map (·.size)=some us'.length)(h:J.p w->w.there k 0 us.length/\(w.setCells k 0 us).there d 0 us'.length/\Q .normal a' ((w.setCells k 0 us).setCells d 0 us'))(ho:ops[p]? = some o:=by(simp only[Yj,Yg,Yi])<;>rfl)(hd:o.dst=none:=by rfl)(I:o.guard=none:=by rfl){y:yAe}(g:o.op=.store T (.tmp t) y:=by rfl)(hx:a.eval (.tmp t)=jZ k:=by rfl)(N:a.eval y=v:=by rfl)
 (R:a.put none Zs=a':=by(simp only[Ym])<;>rfl){c:Yp}{m:yAe}{z:Zw}(e:ops[p+1]? = some c:=by(simp only[Yj,Yg,Yi])<;>rfl) (n:c.dst=none:=by rfl) (f:c.guard=none:=by rfl) (b:c.op=.store x (.tmp z) m:=by rfl) (q:a'.eval (.tmp z)=jZ d:=by rfl) (j:a'.eval m=B:=by rfl) (s:a'.put none Zs=a':=by rfl)
 (A:(Yu .any ops listed,Yu .any ops (listed.setIfInBounds p true),Yu .any ops ((listed.setIfInBounds p true).setIfInBounds (p+1) true),J.b,(listed.setIfInBounds p true).getD p false,(listed.setIfInBounds p true).getD r false,((listed.setIfInBounds p true).setIfInBounds (p+1) true).getD p false,((listed.setIfInBounds p true).setIfInBounds (p+1) true).getD r false)=([p],[p+1],[],true,true,true,true,true):=by kernel_rfl):AW P ops Q p r J (fuel+2) listed a w:=λH=>by
 simp only[Ze.injEq]at A;obtain⟨V,G,L,c,C,O,U,D⟩:=A;obtain⟨K,M,S⟩:=h H;subst R;exact anyS.sta ho T (.tmp t) y g k 0 us.toArray F K E (Ye ⟨c,C,O⟩) (anyS.sta e x (.tmp z) m b d 0 us'.toArray i M u (Ye ⟨c,U,D⟩) (anyS.done L (by rw[s];exact S) _) q (j.trans l.symm) G f n) hx (N.trans hv.symm) V I hd
end
section
variable {P:YJ}{ops:Array Yp}{rest:List Yp}{op:Yp}{a a':Act}{w w':XA}{Q:Exit->Act->XA->Prop}{d:Option Zw}{x v:XB}{t:Zw}{T:Yd}{b off:Nat}{cs:List XB}
def PW.begin{id:Nat}{l:List Yp}(h:wpList P l.toArray Q l a w):(Zd id l.toArray false).wp P Q a w:=wp_region_list h
def PW.dn(h:Q .normal a w):wpList P ops Q [] a w:=h
def PW.va(x:XB)(h:wpList P ops Q rest a' w)(hd:op.dst=d:=by rfl)(c:op.guard=none:=by rfl)(hv:(Yh a.eval op).run P w=.ok (.value x) w:=by kernel_rfl)(b:a.put d x=a':=by(simp only[Ym,XF,XJ,XL])<;>rfl):wpList P ops Q (op :: rest) a w:=by
 subst b hd;exact ZL c λK k=>by
  unfold Y3;rw[hv];exact k _ _ h
def PW.ns{I:Sem XB}(hx:I.run P w=.ok x w')(h:wpList P ops Q rest a' w')(hd:op.dst=d:=by rfl)(e:op.guard=none:=by rfl)(k:Yh a.eval op=I >>= λv=>pure (ZS v):=by kernel_rfl)(c:a.put d x=a':=by(simp only[Ym,XF,XJ,XL])<;>rfl):wpList P ops Q (op :: rest) a w:=by
 subst c hd;exact ZL e λK b=>by
  unfold Y3;rw[k,X1,hx];exact b _ _ h
def PW.ca{f:ZQ}{args:Array XB}{R:XB->XA->Prop}{F:XB->Act}(b:YN P f args w (Ret R))(h:∀e w',R e w'->wpList P ops Q rest (F e) w')(hd:op.dst=d:=by rfl)(k:op.guard=none:=by rfl)(hx:(Yh a.eval op).run P w=.ok (.enter f args) w:=by kernel_rfl)(hf:∀e,a.put d e=F e:=by intro _;(simp only[Ym,XF,XJ,XL])<;>rfl):wpList P ops Q (op :: rest) a w:=by
 subst hd;exact ZL k λK c=>by
  unfold Y3;rw[hx,ZM];refine b.mono ?_;rintro e w' ⟨v,rfl,hR⟩;exact c _ _ (hf v ▸ h v w' hR)
def PW.gi{f:ZQ}{args:Array XB}(k:YN P f args w (rZ w λe w'=>e=x))(h:∀w',kZ w w'->wpList P ops Q rest a' w')(hd:op.dst=d:=by rfl)(c:op.guard=none:=by rfl)(hx:(Yh a.eval op).run P w=.ok (.enter f args) w:=by kernel_rfl)(b:a.put d x=a':=by(simp only[Ym,XF,XJ,XL])<;>rfl):wpList P ops Q (op :: rest) a w:=
 PW.ca (F:=λe=>a.put d e) k (λe w' hR=>by
  obtain⟨g,rfl⟩:=hR;subst b;exact h w' g) hd c hx λ_=>rfl
def PW.al{g:Nat}{b:Obj}(f:Hid (w.heap.size=g))(i:Hid (w.alloc b=w'))(h:wpList P ops Q rest a' w')(hd:op.dst=d:=by rfl)(k:op.guard=none:=by rfl)(j:(Yh a.eval op).run P w=.ok (.value (jZ w.heap.size)) (w.alloc b):=by kernel_rfl)(e:a.put d (jZ g)=a':=by(simp only[Ym,XF,XJ,XL])<;>rfl):wpList P ops Q (op :: rest) a w:=by
 subst e hd;exact ZL k λK c=>by
  unfold Y3;rw[j,f.out,i.out];exact c _ _ h
def PW.st(e:Hid (w.setCells b off cs=w'))(hv:Hid (.agg cs.toArray=v))(th:w.there b off cs.length)(f:(P.info? T).map (·.size)=some cs.length)(d:cs.toArray.all (·.oneCell')=true)(h:wpList P ops Q rest a' w')(hd:op.dst=none:=by rfl)(k:op.guard=none:=by rfl){y:yAe}(ho:op.op=.store T (.tmp t) y:=by rfl)(hx:a.eval (.tmp t)=oZ b off:=by rfl)(g:a.eval y=v:=by rfl)(c:a.put none Zs=a':=by(simp only[Ym])<;>rfl):wpList P ops Q (op :: rest) a w:=
 wpList_store_mid k T (.tmp t) y ho b off cs.toArray hx (g.trans hv.symm) th f d (by rw[show cs.toArray.toList=cs from rfl,e.out,hd,c];exact h)
def PW.ro(i:w.rangeAt b off cs)(hv:Hid (.agg cs.toArray=v))(l:(P.underlying T).map (·.isRow)=some true)(j:(P.info? T).map (·.size)=some cs.length)(h:wpList P ops Q rest a' w)(hd:op.dst=d:=by rfl)(k:op.guard=none:=by rfl)(ho:op.op=.load T (.tmp t):=by rfl)(hx:a.eval (.tmp t)=oZ b off:=by rfl)(e:a.put d v=a':=by(simp only[Ym,XF,XJ,XL])<;>rfl):wpList P ops Q (op :: rest) a w:=by
 obtain⟨c,f,g⟩:=XE.1 l;exact wpList_load_mid k T (.tmp t) ho b off hx cs c i f g j (by rw[hv.out,hd,e];exact h)
def PW.ce(c:w.cell? ⟨b,off,none⟩=some x)(f:(P.underlying T).map (·.isRow)=some false)(h:wpList P ops Q rest a' w)(hd:op.dst=d:=by rfl)(k:op.guard=none:=by rfl)(ho:op.op=.load T (.tmp t):=by rfl)(hx:a.eval (.tmp t)=oZ b off:=by rfl)(e:a.put d x=a':=by(simp only[Ym,XF,XJ,XL])<;>rfl):wpList P ops Q (op :: rest) a w:=
 PW.va x h hd k (by
  unfold Yh;rw[ho];dsimp only;rw[hx,X1,eK c f];rfl) e
def PW.au(op:Yp)(a:Act):Option XB:=match op.guard,op.op with
 | none,.move (.tmp t)=>some (a.eval (.tmp t))
 | _,_=>none
def PW.fr:List Yp->Act->List XB->Act × List Yp
 | [],a,_=>(a,[])
 | op :: l,a,vs=>match PW.au op a,vs with
  | some v,_=>PW.fr l (a.put op.dst v) vs
  | none,[]=>(a,op :: l)
  | none,v :: vs=>PW.fr l (a.put op.dst v) vs
def PW.ck(P:YJ)(w:XA)(b:Bool):List Yp->Act->List XB->List (Option (Nat × Bool) × Result Next)
 | [],_,_=>[]
 | op :: l,a,vs=>match PW.au op a,vs with
  | some v,_=>(if b then(op.guard,(Yh a.eval op).run P w) else(none,.ok (.value v) w)) :: PW.ck P w b l (a.put op.dst v) vs
  | none,[]=>[]
  | none,v :: vs=>(if b then(op.guard,(Yh a.eval op).run P w) else(none,.ok (.value v) w)) :: PW.ck P w b l (a.put op.dst v) vs
def PW.go1:∀(l:List Yp) (a:Act) (vs:List XB),PW.ck P w true l a vs=PW.ck P w false l a vs->wpList P ops Q (PW.fr l a vs).2 (PW.fr l a vs).1 w->wpList P ops Q l a w
 | [],_,_,_,h=>h
 | op :: l,a,vs,k,h=>by
  unfold PW.ck at k;unfold PW.fr at h;revert k h;cases PW.au op a with
  | some v =>
   intro k h;simp only[yEb.injEq,if_true,yDB,if_false,Ze.injEq]at k;exact PW.va v (PW.go1 l _ vs k.2 h) rfl k.1.1 k.1.2 rfl
  | none =>
   cases vs with
   | nil=>exact λ_ h=>h
   | cons v vs =>
    intro k h;simp only[yEb.injEq,if_true,yDB,if_false,Ze.injEq]at k;exact PW.va v (PW.go1 l _ vs k.2 h) rfl k.1.1 k.1.2 rfl
def PW.f3{l:List Yp}{vs:List XB}(h:PW.fr l a vs=(a',rest):=by(simp only[PW.fr,PW.au,Act.eval,Ym,XF,XJ,XL,Array.getD_eq_getD_getElem?,Yj,Yg,Yi,Option.getD_some])<;>rfl):PW.fr l a vs=(a',rest):=h
variable {l:List Yp}{id:Nat}{c:Code}(vs:List XB)
def PW.go(h:wpList P ops Q rest a' w)(k:PW.ck P w true l a vs=PW.ck P w false l a vs:=by kernel_rfl)(b:PW.fr l a vs=(a',rest):=by exact PW.f3):wpList P ops Q l a w:=PW.go1 l a vs k (by rw[b];exact h)
def PW.en(h:Q .normal a' w)(k:PW.ck P w true l a vs=PW.ck P w false l a vs:=by kernel_rfl)(b:PW.fr l a vs=(a',[]):=by exact PW.f3):wpList P ops Q l a w:=PW.go vs (PW.dn h) k b
def PW.bb(h:wpList P l.toArray Q rest a' w)(k:PW.ck P w true l a vs=PW.ck P w false l a vs:=by kernel_rfl)(b:PW.fr l a vs=(a',rest):=by exact PW.f3):(Zd id l.toArray false).wp P Q a w:=PW.begin (PW.go vs h k b)
def PW.bg(h:wpList P l.toArray (Exit.then (c.wp P Q) Q) rest a' w)(k:PW.ck P w true l a vs=PW.ck P w false l a vs:=by kernel_rfl)(b:PW.fr l a vs=(a',rest):=by exact PW.f3):((Zd id l.toArray false).seq c).wp P Q a w:=XG (PW.bb vs h k b)
def PW.rg(h:c.wp P Q a' w)(k:PW.ck P w true l a vs=PW.ck P w false l a vs:=by kernel_rfl)(b:PW.fr l a vs=(a',[]):=by exact PW.f3):((Zd id l.toArray false).seq c).wp P Q a w:=PW.bg vs (PW.dn h) k b
end
end
def Mi(m i s:Nat):m/2^i%2^(s+1)=2*(m/2^(i+1)%2^s)+m/2^i%2:=by
 have e:m/2^(i+1)=m/2^i/2:=by rw[Zf,yAu]
 rw[e,Zf,YK (2^s),Nat.mod_mul];omega
def low_bit(y z r:Nat)(f:r<64)(b:z=y%18446744073709551616):z/2^r%2=y/2^r%2:=by
 have e:(18446744073709551616:Nat)=2^r*(2*2^(63-r)):=by
  rw[<-yAo,<-Zf,<-yAP,show r+1+(63-r)=64 by omega]
 have c:0<2^r:=yAz dC;have d:y/2^r=2*(2^(63-r)*(y/18446744073709551616))+z/2^r:=by
  have k:y=2^r*(2*(2^(63-r)*(y/18446744073709551616)))+z:=by
   have:=Nat.div_add_mod y 18446744073709551616;rw[b];rw[e]at this⊢;rw[yAo,yAo]at this;exact this.symm
  conv=>lhs;rw[k]
  rw[Nat.mul_add_div c]
 omega
def wd(a b c d q:Nat):Nat:=if q=0 then a else if q=1 then b else if q=2 then c else d
def Pm{q a b c d:Nat}(e:a<2^64)(f:b<2^64)(k:c<2^64)(hd:d<2^64):wd a b c d q<2^64:=by
 unfold wd;split;exact e;split;exact f;split;exact k;exact hd
def Tv{q a b c d:Nat}(e:q<4)(f:a<2^64)(g:b<2^64)(k:c<2^64)(hd:d<2^64):
 wd a b c d q=val a b c d/2^(64*q)%2^64:=by
 have h:q=0\/q=1\/q=2\/q=3:=oM;rcases h with rfl|rfl|rfl|rfl
 .show a=val a b c d/1%_;unfold val;omega
 .show b=val a b c d/2^64%_;unfold val;omega
 .show c=val a b c d/2^128%_;unfold val;omega
 .show d=val a b c d/2^192%_;unfold val;omega
def Jb{i a b c d:Nat}(g:i<256)(e:a<2^64)(f:b<2^64)(k:c<2^64)(hd:d<2^64):
 wd a b c d (i/64)/2^(i%64)%2=val a b c d/2^i%2:=by
 rw[low_bit _ _ (i%64) oM (Tv oM e f k hd),yAu,<-yAP,show 64*(i/64)+i%64=i by omega]
def D8(a b c d:Nat):
 val (a/4+b*4611686018427387904%2^64) (b/4+c*4611686018427387904%2^64) (c/4+d*4611686018427387904%2^64) (d/4)=val a b c d/4:=by
 unfold val;omega
def At4.wd{w:XA}{k a b c d:Nat}(h:At4 w k a b c d)(q:Nat)(f:q<4):w.cell? ⟨k,q,none⟩=some (uZ (wd a b c d q:Int)):=by
 have e:q=0\/q=1\/q=2\/q=3:=oM;rcases e with rfl|rfl|rfl|rfl
 .exact h.c0
 .exact h.c1
 .exact h.c2
 .exact h.c3
def DC{n:Nat}(h:n<9223372036854775808):Ya.wrap (n:Int)=(n:Int):=by rw[YD];omega
def or_bit{b t:Nat}(c:b<4294967296)(d:t<2):bits .or .i64 ((2*b:Nat):Int) (t:Int)=((2*b+t:Nat):Int):=by
 rw[(bits_nat .i64 40 dC (λn e k=>by rw[YD];omega) (2*b) t oM oM).2];have:=yBk (i:=1) (b:=t) oM b;rw[show 2^1*b=2*b from rfl]at this;rw[<-this]
def and_one{v:Nat}(hv:v<2^64):bits .and .u64 (v:Int) 1=((v%2:Nat):Int):=by
 have:=bits_and_u64_nat v 1 hv oM;rw[show v &&& 1=v%2 from Nat.and_one_is_mod v]at this;exact this
def zS{m f c g:Nat}(k:m<top)(h:g=c\/f+g=256):m/2^(f+g)%2^(c-g)=0:=by
 rcases h with rfl|h
 .rw[yBi,yBd,yEA]
 .rw[h,yAr (by exact k),Nat.zero_mod]
def AX{m f g c:Nat}(b:0<g)(k:g<=c):m/2^(f+(g-1))%2^(c-(g-1))=2*(m/2^(f+g)%2^(c-g))+m/2^(f+(g-1))%2:=by
 rw[show c-(g-1)=c-g+1 by omega,Mi,show f+(g-1)+1=f+g by omega]
def Dx(x:XB)(m f c:Nat)(hx:Four x m)(hf:f<=256)(Z:c<=32)(w:XA):
 cZ 198 #[x,iZ f,iZ c] w (rZ w λe w'=>e=iZ ((m/2^f%2^c:Nat):Int)):=by
 obtain⟨n,p,l,o,rfl,K,H,L,J,V⟩:=id hx;have S:=mk1 (hx);have HL:=mk5 K H L J V;have Q:=mk1 (S.lt);obtain⟨R,hR⟩:=vH (m/2^f%2^c);have P:=mk1 (hR);rw[hR];by_cases U:(f:Int)+(c:Int)<=256
 .have O:¬(256:Int)<(f:Int)+(c:Int):=oM;go_enter func198,ntmps198;go_wp2;have X:=At4.made w 42 n p l o rfl;have BL:=mk1 (aD (w:=w) (.cells #[uZ n,uZ p,uZ l,uZ o] 42));generalize yAp _ _=N at X BL⊢;go_loopg [7,8] c (λgk s7 s8 wr=>gk<=c/\f+gk<=256/\s7=iZ ((m/2^(f+gk)%2^(c-gk):Nat):Int)/\s8=iZ ((f:Int)+(gk:Int)-1)/\N=wr)
  case atStart=>exact⟨oM,oM,by rw[zS Q.out (Ye rfl)];rfl,by congr 1<;>omega,rfl⟩
  case round =>
   obtain⟨r,M,rfl,rfl,rfl⟩:=hrel;by_cases F:gk=0
   .subst F;have C:¬(f:Int)<=(f:Int)+((0:Nat):Int)-1:=oM;rw[yAl,yBz,P.out];go_wp2;go_ret;exact⟨_,rfl,BL,rfl⟩
   .obtain⟨i,a⟩:=vH (f+(gk-1));have D:(f:Int)+(gk:Int)-1=(i:Int):=oM;have C:(f:Int)<=(i:Int):=oM;have q:i<256:=oM;have I:=X.wd (i/64) oM;have b:wd n p l o (i/64)<2^64:=Pm HL.1 HL.2.1 HL.2.2.1 HL.2.2.2.1;have k:wd n p l o (i/64)/2^(i%64)%2=m/2^i%2:=by rw[HL.2.2.2.2];exact Jb q HL.1 HL.2.1 HL.2.2.1 HL.2.2.2.1
    have W:(i:Int).tdiv 64=((i/64:Nat):Int):=by rw[yAK oM];omega
    have i3:(i:Int).tmod 64=((i%64:Nat):Int):=by rw[Int.tmod_eq_emod_of_nonneg oM];omega
    have Y:(i/64:Nat)<4:=oM;generalize wd n p l o (i/64)=v at I b k;have u:v/2^(i%64)<2^64:=yDD (yD9 _ _) b;have j:bits .and .u64 ((v:Int)/2^(i%64)) 1=((m/2^i%2:Nat):Int):=by
     have:=and_one u;rw[k]at this;rw[<-this,yBM,yCO];rfl
    obtain⟨t,z⟩:=vH (m/2^i%2);have y:t<2:=oM;have s:=AX (m:=m) (f:=f) (g:=gk) (c:=c) oM r;rw[a,z]at s;have d:m/2^(f+gk)%2^(c-gk)<4294967296:=XC (Y8 _ (yAz dC)) (show 2^(c-gk)<=2^32 from Y5 dC oM);rw[z]at j;generalize m/2^(f+gk)%2^(c-gk)=B at s d⊢;have hor:=or_bit d y;have E:Ya.wrap ((B:Int)*2)=((2*B:Nat):Int):=by rw[show(B:Int)*2=((2*B:Nat):Int) by omega];exact DC oM
    have T:Ya.wrap (t:Int)=(t:Int):=DC oM;have G:=mk1 (s);have A:=mk1 (a);have zx:=X.lt;rw[D];go_wp2;go_roundg (gk-1)
    case measure=>omega
    case rel =>
     refine⟨oM,oM,?_,?_,rfl⟩
     .rw[A.out,G.out,<-hor,yAm];rfl
     .congr 1;have:=A;omega
 .have O:(256:Int)<(f:Int)+(c:Int):=oM;go_enter func198,ntmps198;go_wp2;have X:=At4.made w 42 n p l o rfl;have BL:=mk1 (aD (w:=w) (.cells #[uZ n,uZ p,uZ l,uZ o] 42));generalize yAp _ _=N at X BL⊢;go_loopg [7,8] (256-f) (λgk s7 s8 wr=>gk<=c/\f+gk<=256/\s7=iZ ((m/2^(f+gk)%2^(c-gk):Nat):Int)/\s8=iZ ((f:Int)+(gk:Int)-1)/\N=wr)
  case atStart=>exact⟨oM,oM,by rw[zS Q.out (X7 oM)];rfl,by congr 1<;>omega,rfl⟩
  case round =>
   obtain⟨r,M,rfl,rfl,rfl⟩:=hrel;by_cases F:gk=0
   .subst F;have C:¬(f:Int)<=(f:Int)+((0:Nat):Int)-1:=oM;rw[yAl,yBz,P.out];go_wp2;go_ret;exact⟨_,rfl,BL,rfl⟩
   .obtain⟨i,a⟩:=vH (f+(gk-1));have D:(f:Int)+(gk:Int)-1=(i:Int):=oM;have C:(f:Int)<=(i:Int):=oM;have q:i<256:=oM;have I:=X.wd (i/64) oM;have b:wd n p l o (i/64)<2^64:=Pm HL.1 HL.2.1 HL.2.2.1 HL.2.2.2.1;have k:wd n p l o (i/64)/2^(i%64)%2=m/2^i%2:=by rw[HL.2.2.2.2];exact Jb q HL.1 HL.2.1 HL.2.2.1 HL.2.2.2.1
    generalize wd n p l o (i/64)=v at I b k;have u:v/2^(i%64)<2^64:=yDD (yD9 _ _) b;have j:bits .and .u64 ((v:Int)/2^(i%64)) 1=((m/2^i%2:Nat):Int):=by
     have:=and_one u;rw[k]at this;rw[<-this,yBM,yCO];rfl
    obtain⟨t,z⟩:=vH (m/2^i%2);have y:t<2:=oM;have s:=AX (m:=m) (f:=f) (g:=gk) (c:=c) oM r;rw[a,z]at s;have d:m/2^(f+gk)%2^(c-gk)<4294967296:=XC (Y8 _ (yAz dC)) (show 2^(c-gk)<=2^32 from Y5 dC oM);rw[z]at j;generalize m/2^(f+gk)%2^(c-gk)=B at s d⊢;have hor:=or_bit d y;have E:Ya.wrap ((B:Int)*2)=((2*B:Nat):Int):=by rw[show(B:Int)*2=((2*B:Nat):Int) by omega];exact DC oM
    have G:=mk1 (s);have A:=mk1 (a);have zx:=X.lt;rw[D];go_wp2;go_roundg (gk-1)
    case measure=>omega
    case rel =>
     refine⟨oM,oM,?_,?_,rfl⟩
     .rw[A.out,G.out,<-hor,yAm];rfl
     .congr 1;have:=A;omega
section
def tbN(f:Nat->Nat):Nat->List XB
 | 0=>[]
 | n+1=>tbN f n++wn (f n)
def fQ(f:Nat->Nat):∀n,(tbN f n).length=4*n
 | 0=>rfl
 | n+1=>by
  show(tbN f n++wn _).length=_;rw[List.length_append,fQ f n];rfl
def xF(f:Nat->Nat){a b:Nat}(k:b<4):∀n,a<n->(tbN f n)[4*a+b]? = (wn (f a))[b]?
 | n+1,ha=>by
  show(tbN f n++wn _)[4*a+b]? = _;by_cases h:a<n
  .rw[List.getElem?_append_left (by rw[fQ];omega)];exact xF f k n h
  .obtain rfl:a=n:=oM;rw[List.getElem?_append_right (by rw[fQ];omega),fQ,Nat.add_sub_cancel_left]
def DO{f g:Nat->Nat}:∀n,(∀j,j<n->f j=g j)->tbN f n=tbN g n
 | 0,_=>rfl
 | n+1,h=>by
  show tbN f n++wn (f n)=tbN g n++wn (g n);rw[DO n λj k=>h j oM,h n oM]
def up(f:Nat->Nat)(i v j:Nat):Nat:=if j=i then v else f j
section
variable {W:XA}{k a i v:Nat}{f:Nat->Nat}
def Nl(h:W.rangeAt k 0 (tbN f 16))(c:a<16):W.rangeAt k (4*a) (wn (f a)):=λj u b=>by
 have:=h (4*a+j) u (by rw[xF f (XM.1 b).1 16 c];exact b);rw[XI]at this;exact this
def Pv(h:Row W k (tbN f 16))(b:i<16):W.there k (4*i) 4:=λj c=>by
 have:=h.2.2 (4*i+j) (by rw[fQ];omega);rw[XI]at this;exact this
def QJ(h:Row W k (tbN f 16))(g:i<16):Row (W.setCells k (4*i) (wn v)) k (tbN (up f i v) 16):=by
 refine⟨by rw[setCells_size];exact h.1,λj u c=>?_,by have:=World.there_setCells h.2.2 k (4*i) (wn v);rw[fQ]at this⊢;exact this⟩;have d:=(XM.1 c).1;rw[fQ]at d;have e:4*(j/4)+j%4=j:=oM;rw[<-e,xF _ oM 16 oM]at c;rw[XI,<-e];by_cases b:j/4=i
 .rw[show up f i v (j/4)=v from yEX b]at c;rw[b];exact World.rangeAt_setCells_same W k (4*i) (wn v) (Pv h g) _ u c
 .rw[show up f i v (j/4)=f (j/4) from yEY b]at c;exact World.rangeAt_setCells_apart (Nl h.2.1 oM) k (4*i) (wn v) (X7 (show 4*(j/4)+4<=4*i\/4*i+4<=4*(j/4) by omega)) _ u c
end
def gC(a b c:Nat):List XB:=[uZ a,uZ b,uZ c,uZ 0]
def Vt(a b c:Nat)(w:XA):(Ys 78 (.agg (gC a b c).toArray)).run prog w=.ok (jZ w.heap.size) (w.alloc (.cells (gC a b c).toArray 78)):=kR
def Qg(n:Nat)(w:XA):(Ys 42 (nv n)).run prog w=.ok (jZ w.heap.size) (w.alloc (.cells (wn n).toArray 42)):=kR
def Ox{k i:Nat}(d:i<16)(w:XA):(Yv 287 (jZ k) (iZ i)).run prog w=.ok (oZ k (4*i)) w:=by
 have b:¬(i:Int)<0:=oM;have c:(i:Int)<16:=oM;go_simp
def uPr:yZ 78:=yQ
def iPr:gZ 78 4:=gQ
def uNu:yZ 42:=yQ
def iNu:gZ 42 4:=gQ
def uWo:yZ 76:=yQ
def iWo:gZ 76 4:=gQ
def iTb{f:Nat->Nat}:(prog.info? 287).map (·.size)=some (tbN f 16).length:=by rw[fQ];kernel_rfl
def Rn(m q P:Nat):(m^q%P)*(m^q%P)%P=m^(q*2)%P:=by rw[<-yAW,<-yAP,Nat.mul_two]
def pwT(m P i j:Nat):Nat:=if j<i then m^j%P else 0
def Ax(u t p P:Nat)(x y:XB)(m n:Nat)(hQ:Gap u t p P)(hx:Four x m)(hy:Four y n)(w:XA):
 YN prog 200 #[.agg #[uZ u,uZ t,uZ p,uZ 0],x,y] w (rZ w λe w'=>Four e (m^n%P)):=by
 have hP:=hQ.hP2;have hl:=hQ.hP;have ht:3<top:=dC;have hn:=hy.lt;have X:=mk1 (λi=>XC (Y8 (m^i) (show 0<P by omega)) (show P<=top by omega));have H1:Hid (1=m^0%P):=(X6 (show 1<P by omega)).symm;obtain⟨gp,r⟩:=hE (X9 (gC u t p).toArray);have Q:Hid (∀(i j:Nat) W,i<top->j<top->YN prog 100 #[gp,nv i,nv j] W (rZ W λe w'=>e=nv (i*j%P))):=λi j W S hj=>by
  rw[<-r.out];exact(nT u t p P _ _ i j hQ (iI S) (iI hj) W).mono λe w' ⟨v,k,A,b⟩=>⟨v,k,A,b.nv⟩
 have h8:Hid (∀W,YN prog 55 #[nv m] W (rZ W λe w'=>e=nv m)):=λW=>jV (m:=m) (iI hx.lt) (w:=W)
 have hg:Hid (∀(i:Nat) W,i<top->YN prog 99 #[nv i] W (rZ W λe w'=>e=nv i)):=λi W S=>jR (m:=i) (iI S) (w:=W)
 have h6:Hid (∀(f:Nat) W,f<=256->YN prog 198 #[nv n,iZ f,iZ 4] W (rZ W λe w'=>e=iZ ((n/2^f%2^4:Nat):Int))):=λf W hf=>Dx _ n f 4 (iI hy.lt) hf dC W
 have HX:Hid (m<top):=hx.lt;obtain rfl:=hx.nv;obtain rfl:=hy.nv;clear hx hy hQ hP hl ht;refine hG w.heap.size λk3 M=>?_
 refine hG (w.alloc (.cells (gC u t p).toArray 78)) λw1 h4=>?_
 refine hG w1.heap.size λk4 U=>?_
 refine hG (w1.alloc (.cells (wn m).toArray 42)) λw2 T=>?_
 refine hG w2.heap.size λk5 N=>?_
 refine hG (w2.alloc (.cells (wn n).toArray 42)) λw3 g=>?_
 refine hG w3.heap.size λE h5=>?_
 refine hG (w3.alloc (.cells (wn 0).toArray 42)) λw4 H=>?_
 refine hG w4.heap.size λo I=>?_
 refine hG (w4.alloc (.cells (tbN (λ_=>0) 16).toArray 287)) λw5 V=>?_
 refine hG (w5.setCells o 0 (tbN (up (λ_=>0) 0 1) 16)) λw6 Z=>?_
 have B1:=Vt u t p w;have B2:=Qg m w1;have B3:=Qg n w2;rw[M.out,h4.out,r.out]at B1;rw[U.out,T.out]at B2;rw[N.out,g.out]at B3;have K5:=mk1 ((((((Mp.start w).new M h4).new U T).new N g).new h5 H).new I V);have e6:tbN (up (λ_=>0) 0 1) 16=tbN (pwT m P 1) 16:=DO 16 λj _=>by
  unfold up pwT;by_cases h:j=0
  .subst h;rw[yEX rfl,yEX dC];exact H1.out
  .rw[yEY h,yEY oM]
 have K6:Hid (Mp w w6 [(k3,gC u t p),(k4,wn m),(k5,wn n),(E,wn 0),(o,tbN (pwT m P 1) 16)] []):=by
  have:=K5.out.put 4 Z;rw[e6]at this;exact this
 obtain⟨vt,R⟩:=hE (X9 (tbN (up (λ_=>0) 0 1) 16).toArray);obtain⟨vm,D⟩:=hE (nv m);obtain⟨vn,O⟩:=hE (nv n);rw[D.out]at B2 h8;rw[O.out]at B3 h6;rw[show X9 #[uZ u,uZ t,uZ p,uZ 0]=gp from r.out,D.out,O.out];go_enter func200,ntmps200;refine PW.bg [] ?_;refine PW.ns B1 ?_;refine PW.ns B2 ?_;refine PW.ns B3 ?_;refine PW.al h5 H ?_;refine PW.dn ?_;refine PW.bg [.agg (wn 1).toArray,.agg (tbN (up (λ_=>0) 0 1) 16).toArray] ?_;rw[R.out];refine PW.al I V ?_;refine PW.st Z R (K5.out.th 4) iTb kR ?_;refine PW.dn ?_;clear K5 h4 T g H V Z B1 B2 B3 M U N h5 I R e6;refine XG<|PW.rg [iZ 1] ?_
 refine YX ?_;go_loopg [8] 15 (λgk s8 wr=>∃i:Nat,i+gk=16/\1<=i/\s8=iZ i/\Hid (Mp w wr [(k3,gC u t p),(k4,wn m),(k5,wn n),(E,wn 0),(o,tbN (pwT m P i) 16)] []))
 case atStart=>exact⟨1,rfl,dC,rfl,K6⟩
 case round =>
  clear K6;obtain⟨i,hq,hr,rfl,K⟩:=hrel;refine XG<|PW.rg [.bool (decide ((i:Int)<16))] ?_
  by_cases S:i<16
  .have ha:(i:Int)<16:=oM;rw[decide_eq_true ha];have G:Ya.wrap ((i:Int)-1)=((i-1:Nat):Int):=by rw[YD];omega
   have C:Ya.wrap ((i:Int)+1)=((i+1:Nat):Int):=by rw[YD];omega
   have ep:pwT m P (i-1+1) (i-1)=m^(i-1)%P:=yEX oM;rw[show i-1+1=i by omega]at ep;have eq:m^(i-1)%P*m%P=m^i%P:=by
    rw[Nat.mod_mul_mod,<-Zf];show m^(i-1+1)%P=_;rw[show i-1+1=i by omega]
   have B:=Q.out (m^(i-1)%P) m;rw[eq,D.out]at B;obtain⟨va,z⟩:=hE (nv (m^(i-1)%P));obtain⟨vr,k⟩:=hE (nv (m^i%P));rw[z.out,k.out]at B;have HT:Hid (∀W,kZ wr W->W.rangeAt o (4*(i-1)) (wn (m^(i-1)%P))):=λW b=>by
    have:=Nl ((K.out.at_ 4).below b).2.1 (show i-1<16 by omega);rw[ep]at this;exact this
   refine Yy rfl<|YU<|XG<|YX<|AW.begin 10 10 ?_
   refine AW.mv 0 ?_;refine AW.ro 1 (λW b=>((K.out.at_ 0).below b).2.1) r uPr iPr ?_;refine AW.mv 2 ?_;refine AW.va 3 (iZ (Ya.wrap ((i:Int)-1))) ?_;rw[G];refine AW.iv 4 (Ox (k:=o) (i:=(i-1)) oM) ?_;refine AW.ro 5 HT.out z uWo iWo ?_;refine AW.ro 6 (λW b=>((K.out.at_ 1).below b).2.1) D uNu iNu ?_;refine AW.gi 7 (λ_=>h8.out _) λW1 _=>?_
   refine AW.gi 8 (λ_=>B _ (X.out _) HX.out) λW2 _=>?_
   refine AW.ns 9 (Ox (k:=o) (i:=i) S W2) (XR _ _) ?_;refine AW.fi (us:=wn (m^i%P)) k aI iWo (λb=>?_);have l:=K.out.grow b;have J:tbN (up (pwT m P i) i (m^i%P)) 16=tbN (pwT m P (i+1)) 16:=DO 16 λj _=>by
    unfold up pwT;by_cases h:j=i
    .rw[yEX h,yEX oM,h]
    .rw[yEY h];by_cases A:j<i
     .rw[yEX A,yEX oM]
     .rw[yEY A,yEY oM]
   obtain⟨W3,A⟩:=hE (W2.setCells o (4*i) (wn (m^i%P)));have R3:=QJ (v:=m^i%P) (l.at_ 4) S;rw[J]at R3;have F:=mk1 (l.upd 4 A R3);rw[A.out];refine⟨Pv (l.at_ 4) S,?_⟩;clear K l R3 b HT;refine PW.bb [iZ (Ya.wrap ((i:Int)+1))] ?_;rw[C];go_wp2;go_roundg (gk-1)
   case measure=>omega
   case rel=>exact⟨i+1,oM,oM,rfl,F⟩
  .have ha:¬(i:Int)<16:=oM;obtain rfl:i=16:=oM;have e0:pwT m P 16 0=m^0%P:=rfl;obtain⟨v0,h7⟩:=hE (nv (m^0%P));refine hG wr.heap.size λJ G=>?_
   refine hG (wr.alloc (.cells (wn 0).toArray 76)) λw7 Y=>?_
   refine hG (w7.setCells J 0 (wn (m^0%P))) λw8 L=>?_
   have T0:=Nl (a:=0) (K.out.at_ 4).2.1 dC;rw[e0]at T0;have K7:=mk1 (K.out.new G Y);have K8:Hid (Mp w w8 [(k3,gC u t p),(k4,wn m),(k5,wn n),(E,wn 0),(o,tbN (pwT m P 16) 16),(J,wn (m^(n/2^(4*64))%P))] []):=by
    rw[yAr (show n<2^(4*64) from hn)];exact K7.out.put 5 L
   refine Yb rfl<|yAC<|PW.bg (P:=prog) [] ?_
   refine PW.ns (Ox (k:=o) (i:=0) dC wr) ?_;refine PW.ro T0 h7 uWo iWo ?_;refine PW.al G Y ?_;refine PW.st L h7 (K7.out.th 5) iWo aI ?_;refine PW.dn ?_;clear K K7 T0 Y L G;refine XG<|PW.rg [iZ 252] ?_
   refine YX ?_;go_loopg [10] 64 (λgk s10 wr=>gk<=64/\s10=iZ (4*(gk:Int)-4)/\Hid (Mp w wr [(k3,gC u t p),(k4,wn m),(k5,wn n),(E,wn 0),(o,tbN (pwT m P 16) 16),(J,wn (m^(n/2^(4*gk))%P))] []))
   case atStart=>exact⟨XD _,rfl,K8⟩
   case round =>
    clear K8;obtain⟨hu,rfl,K⟩:=hrel;refine XG<|PW.rg [.bool (decide ((0:Int)<=4*(gk:Int)-4))] ?_
    by_cases h0:0<gk
    .obtain⟨c,rfl⟩:∃c,gk=c+1:=⟨gk-1,oM⟩
     rw[decide_eq_true (show(0:Int)<=4*((c+1:Nat):Int)-4 by omega)];have es:4*((c+1:Nat):Int)-4=((4*c:Nat):Int):=oM;rw[es];have hm:Ya.wrap (((4*c:Nat):Int)-4)=4*(c:Int)-4:=by rw[YD];omega
     have ed:n/2^(4*c)=n/2^(4*(c+1))*2^4+n/2^(4*c)%2^4:=by
      rw[show n/2^(4*(c+1))=n/2^(4*c)/2^4 by rw[yAu,<-yAP];rfl];omega
     have hd:n/2^(4*c)%2^4<16:=Y8 _ dC;have he:=h6.out (4*c);generalize n/2^(4*c)%2^4=d at ed hd he;generalize n/2^(4*(c+1))=q at ed K;have KQ:Hid (Mp w wr [(k3,gC u t p),(k4,wn m),(k5,wn n),(E,wn 0),(o,tbN (pwT m P 16) 16),(J,wn (m^(q*2^0)%P))] []):=by rw[yBd,Nat.mul_one];exact K
     refine Yy rfl<|YU<|XG<|YX<|XG<|PW.rg [iZ 0] ?_
     refine YX ?_;clear K;go_loopg [33] 4 (λgk s33 wr=>∃s:Nat,s+gk=4/\s33=iZ s/\Hid (Mp w wr [(k3,gC u t p),(k4,wn m),(k5,wn n),(E,wn 0),(o,tbN (pwT m P 16) 16),(J,wn (m^(q*2^s)%P))] []))
     case atStart=>exact⟨0,rfl,rfl,KQ⟩
     case round =>
      clear KQ;obtain⟨s,hp,rfl,K⟩:=hrel;refine PW.rg [.bool (decide ((s:Int)<4))] ?_;by_cases hs:s<4
      .have hc:(s:Int)<4:=oM;rw[decide_eq_true hc];have hk:Ya.wrap ((s:Int)+1)=((s+1:Nat):Int):=by rw[YD];omega
       have B:=Q.out (m^(q*2^s)%P) (m^(q*2^s)%P) wr (X.out _) (X.out _);rw[Rn,yAo,<-Zf]at B;obtain⟨vq,z⟩:=hE (nv (m^(q*2^s)%P));obtain⟨vr,k⟩:=hE (nv (m^(q*2^s.succ)%P));rw[z.out,k.out]at B;refine XG<|Yy rfl<|YU<|XG<|YX<|PW.bb [] ?_
       refine PW.ro (K.out.at_ 0).2.1 r uPr iPr ?_;refine PW.ro (K.out.at_ 5).2.1 z uWo iWo ?_;refine PW.ro (K.out.at_ 5).2.1 z uWo iWo ?_;refine PW.gi B λw2 C=>?_
       have l:=mk1 (K.out.grow C);refine hG (w2.setCells J 0 (wn (m^(q*2^s.succ)%P))) λw3 g=>?_
       have F:=mk1 (l.out.put 5 g);refine PW.st g k (l.out.th 5) iWo aI ?_;refine PW.dn ?_;clear K l C;refine PW.bb [iZ (Ya.wrap ((s:Int)+1))] ?_;rw[hk];go_wp2;go_roundg (gk-1)
       case measure=>omega
       case rel=>exact⟨s+1,oM,rfl,F⟩
      .have hc:¬(s:Int)<4:=oM;obtain rfl:s=4:=oM;have ep:pwT m P 16 d=m^d%P:=yEX hd;have em:m^(q*2^4)%P*(m^d%P)%P=m^(n/2^(4*c))%P:=by rw[<-yAW,<-yAP,<-ed]
       have B:=Q.out (m^(q*2^4)%P) (m^d%P);obtain⟨vq,z⟩:=hE (nv (m^(q*2^4)%P));obtain⟨vd,h9⟩:=hE (nv (m^d%P));obtain⟨vr,k⟩:=hE (nv (m^(n/2^(4*c))%P));rw[em,z.out,h9.out,k.out]at B;have HT:Hid (∀W,kZ wr W->W.rangeAt o (4*d) (wn (m^d%P))):=λW b=>by
        have:=Nl ((K.out.at_ 4).below b).2.1 hd;rw[ep]at this;exact this
       refine XG<|Yb rfl<|yAC<|AW.begin (P:=prog) 8 8 ?_
       refine AW.ro 0 (λW b=>((K.out.at_ 0).below b).2.1) r uPr iPr ?_;refine AW.ro 1 (λW b=>((K.out.at_ 5).below b).2.1) z uWo iWo ?_;refine AW.ro 2 (λW b=>((K.out.at_ 2).below b).2.1) O uNu iNu ?_;refine AW.mv 3 ?_;refine AW.gi 4 (λ_=>he _ oM) λW1 _=>?_
       refine AW.iv 5 (Ox (k:=o) (i:=d) hd) ?_;refine AW.ro 6 HT.out h9 uWo iWo ?_;refine AW.gi 7 (λ_=>B _ (X.out _) (X.out _)) λW2 _=>?_
       refine AW.fi (us:=wn (m^(n/2^(4*c))%P)) k aI iWo (λb=>?_);have l:=K.out.grow b;obtain⟨W3,A⟩:=hE (W2.setCells J 0 (wn (m^(n/2^(4*c))%P)));have F:=mk1 (l.put 5 A);rw[A.out];refine⟨l.th 5,?_⟩;clear K l b HT;refine PW.bb [iZ (Ya.wrap (((4*c:Nat):Int)-4))] ?_;rw[hm];go_wp2;go_roundg c
       case measure=>omega
       case rel=>exact⟨oM,rfl,F⟩
    .obtain rfl:gk=0:=oM;obtain⟨vr,k⟩:=hE (nv (m^(n/2^(4*0))%P));have en:m^(n/2^(4*0))%P=m^n%P:=by rw[yCv,yBd,yEC]
     have b:=hg.out _ wr (X.out (n/2^(4*0)));rw[k.out]at b;refine Yb rfl<|yAC<|PW.bg (P:=prog) [] ?_
     refine PW.ro (K.out.at_ 5).2.1 k uWo iWo ?_;refine PW.gi b λw2 C=>?_
     have l:=mk1 (K.out.grow C);refine hG (w2.setCells E 0 (wn (m^(n/2^(4*0))%P))) λw3 g=>?_
     have F:=mk1 (l.out.put 3 g);refine PW.st g k (l.out.th 3) iNu aI ?_;refine PW.dn ?_;refine Za<|XN (aF 6 (T:=42) rfl (show Row w3 E (wn (m^(n/2^(4*0))%P)) from F.out.at_ 3) rfl uNu iNu) rfl ?_
     exact⟨_,rfl,F.out.bl,en ▸ iI (X.out _)⟩
end
def p0:Nat:=115792089237316195423570985008687907853269984665640564039457584007908834671663
def p1:Nat:=115792089237316195423570985008687907852837564279074904382605163141518161494337
def gv0:XB:=.agg #[uZ 4294968273,uZ 0,uZ 0,uZ 0]
def gv1:XB:=.agg #[uZ 4624529908474429119,uZ 4994812053365940164,uZ 1,uZ 0]
def WX:Gap 4294968273 0 0 p0:=⟨dC,dC,dC,Ye ⟨rfl,rfl⟩,dK,dK,dK⟩
def WW:Gap 4624529908474429119 4994812053365940164 1 p1:=⟨dC,dC,dC,X7 ⟨4994812053365940165,dK,dC⟩,dK,dK,dK⟩
def vW{w:XA}:
 cZ 118 #[] w λe w'=>e=.returned (.agg #[uZ 4294968273,uZ 0,uZ 0,uZ 0])/\w'=w.alloc (.cells #[uZ 4294968273,uZ 0,uZ 0,uZ 0] 78):=by
 go_enter func118,ntmps118;go_wp2;refine XN (v:=?v) ?hr rfl ?hR
 case hr=>simp[results,Tryz.results118,go_sem];rfl
 exact⟨rfl,rfl⟩
def Dn{w:XA}:
 cZ 28 #[] w λe w'=>e=.returned (.agg #[uZ 4624529908474429119,uZ 4994812053365940164,uZ 1,uZ 0])/\w'=w.alloc (.cells #[uZ 4624529908474429119,uZ 4994812053365940164,uZ 1,uZ 0] 78):=by
 go_enter func28,ntmps28;go_wp2;refine XN (v:=?v) ?hr rfl ?hR
 case hr=>simp[results,Tryz.results28,go_sem];rfl
 exact⟨rfl,rfl⟩
section
abbrev Bs:=Array UInt8
def ub(x:UInt8):Int:=(x.toNat:Int)
def encB(x:UInt8):XB:=.int .u8 (ub x)
abbrev LB:=List (Nat × Bs)
abbrev hZ(w:XA)(b o:Nat)(d:Bs):Prop:=Go.Sort.Holds encB w b o d
structure Only(b off n:Nat)(w w':XA):Prop where
 os:w'.os=w.os
 tape:w'.tape=w.tape
 output:w'.output=w.output
 size:w.heap.size<=w'.heap.size
 block:∀k,k<w.heap.size->k≠b->w'.heap[k]? = w.heap[k]?
 cell:∀o,(o<off\/off+n<=o)->w'.cell? ⟨b,o,none⟩=w.cell? ⟨b,o,none⟩
 froz:∀o,w'.frozen? ⟨b,o,none⟩=w.frozen? ⟨b,o,none⟩
variable {b off n:Nat}{w w1 w2:XA}
def Only.refl(b off n:Nat)(w:XA):Only b off n w w:=⟨rfl,rfl,rfl,XD _,λ_ _ _=>rfl,λ_ _=>rfl,λ_=>rfl⟩
def Only.trans(h:Only b off n w w1)(k:Only b off n w1 w2):Only b off n w w2:=
 ⟨k.os.trans h.os,k.tape.trans h.tape,k.output.trans h.output,Nat.le_trans h.size k.size,
  λi d c=>(k.block i (XC d h.size) c).trans (h.block i d c),
  λo ho=>(k.cell o ho).trans (h.cell o ho),λo=>(k.froz o).trans (h.froz o)⟩
def Only.setCell(h:Only b off n w w1){o:Nat}(f:off<=o)(g:o<off+n)(v:XB):Only b off n w (w1.setCell ⟨b,o,none⟩ v):=by
 refine h.trans ⟨rfl,rfl,rfl,by simp,λk _ c=>yB6 _ _ _ _ c,λd ho=>?_,λd=>by simp⟩;exact Yc _ _ _ _ (by intro e;simp only[Addr.mk.injEq,and_true,true_and]at e;omega)
def Only.below(h:Only b off n w w1){B:Nat}(e:B<=w.heap.size)(d:B<=b):Below B w w1:=
 ⟨h.os,h.tape,h.output,h.size,λk c=>h.block k oM oM⟩
section
variable {α:Type}[Inhabited α]{enc:α->XB}{d:Array α}
def Holds.lt(h:Holds enc w b off d)(hd:0<d.size):b<w.heap.size:=World.block_lt_of_cell? _ _ (h 0 hd).1
def Holds.same{o:Nat}(h:Holds enc w b o d)(k:Only b off n w w1)(hd:o+d.size<=off\/off+n<=o):Holds enc w1 b o d:=by
 intro j c;rw[k.cell _ oM,k.froz];exact h j c
def Holds.below{B:Nat}(h:Holds enc w b off d)(k:Below B w w1)(c:b<B):Holds enc w1 b off d:=by
 intro j e;rw[k.cell (p:=⟨b,off+j,none⟩) c,k.frozen (p:=⟨b,off+j,none⟩) c];exact h j e
def Holds.drewN(h:Holds enc w b off d)(q:Nat):Holds enc (w.drewN q) b off d:=h
def Holds.set(h:Holds enc w b off d){i:Nat}(c:i<d.size)(x:α):Holds enc (w.setCell ⟨b,off+i,none⟩ (enc x)) b off (d.setIfInBounds i x):=by
 intro j k;rw[Array.size_setIfInBounds]at k;rw[Zq];by_cases e:j=i
 .subst e;rw[getElem!_set_same d j x c];exact⟨World.cell?_setCell_same _ _ _ (h j k).1,(h j k).2⟩
 .rw[getElem!_set_other d i j x e,Yc _ _ _ _ (by intro e';simp only[Addr.mk.injEq,and_true,true_and]at e';omega)];exact h j k
def Holds.new(w:XA)(t:Yd)(d:Array α):Holds enc (w.alloc (.cells (d.map enc) t)) w.heap.size 0 d:=by
 intro j k;rw[Yr,Zu];refine⟨?_,rfl⟩;simp only[XI,Array.getElem?_map,Array.getElem?_eq_getElem k,Option.map_some,getElem!_pos d j k]
def Holds.made(w:XA)(t:Yd)(n:Nat)(x:α):Holds enc (w.alloc (.cells (madeCells #[enc x] n) t)) w.heap.size 0 (XT n x):=by
 intro j k;rw[X0]at k;rw[Yr,Zu];refine⟨?_,rfl⟩;rw[getElem!_pos _ j (by simpa using k),Zi];simp[madeCells,k,yEA]
end
section
def fill(i:Nat):UInt8:=XS (i%251) ^^^ 165
def lentTo(s:ByteArray):Nat->Bs
 | 0=>s.data++XT 160 0
 | k+1=>(lentTo s k).setIfInBounds (s.size+k) (fill (s.size+k))
def lent(s:ByteArray):Bs:=lentTo s 160
variable {w w1:XA}{b o n:Nat}
def heap_setCells(b:Nat){k:Nat}(c:k≠b):∀(vs:List XB) (p:Nat) (w:XA),(w.setCells b p vs).heap[k]? = w.heap[k]?
 | [],_,_=>rfl
 | v :: r,p,w=>by rw[World.setCells,heap_setCells b c r (p+1) _,yB6 _ _ _ _ c]
def Holds.setCells{c r:Bs}(h:hZ w b o c)(vs:List XB)(p:Nat)(g:r.size=c.size)(l:p+vs.length<=c.size)
 (f:∀j (d:j<vs.length),vs[j]=encB r[p+j]!) (k:∀j,j<c.size->j<p\/p+vs.length<=j->r[j]! = c[j]!):hZ (w.setCells b (o+p) vs) b o r:=by
 intro j d;rw[g]at d;rw[World.frozen?_setCells];refine⟨?_,(h j d).2⟩;by_cases e:j<p\/p+vs.length<=j
 .rw[World.cell?_setCells_out b vs (o+p) w ⟨b,o+j,none⟩ (λ_ _=>by simp only;omega),k j d e];exact(h j d).1
 .have k:j-p<vs.length:=oM;have:=World.cell?_setCells_in b vs (o+p) w (λi m=>by
   have:=(h (p+i) oM).1;rw[<-ZB]at this;rw[this];rfl) (j-p) k
  rw[show o+p+(j-p)=o+j by omega]at this;rw[this,f (j-p) k,show p+(j-p)=j by omega]
def app_front(a r:Bs)(j:Nat)(k:j<a.size):(a++r)[j]! = a[j]:=by
 have h:j<(a++r).size:=by rw[Yl];omega
 rw[getElem!_pos (a++r) j h,Array.getElem_append_left k]
def app_back(a r:Bs)(j:Nat)(b:a.size<=j)(c:j<a.size+r.size):(a++r)[j]! = r[j-a.size]!:=by
 have h:j<(a++r).size:=by rw[Yl];omega
 have k:j-a.size<r.size:=oM;rw[getElem!_pos (a++r) j h,Array.getElem_append_right b,getElem!_pos r (j-a.size) k]
def rep_at(n j:Nat)(h:j<n):(XT n (0:UInt8))[j]! = 0:=by
 have k:j<(XT n (0:UInt8)).size:=by rw[X0];exact h
 rw[getElem!_pos (XT n (0:UInt8)) j k,Zi]
def size_of5(P:YJ)(e:Yd)(h:(P.info? e).map (·.size)=some 1):∀w,(yCP e).run P w=.ok 1 w:=by
 intro w;cases k:P.info? e with
 | none=>simp[k]at h
 | some i =>
  simp[k]at h;simp[yCP,typeInfo,k,h]
def conv_str(P:YJ)(src k e:Yd)(l:P.underlying src=some (.slice e))(i:P.underlying e=some (.int .u8))(hd:P.underlying k=some .string)
 (w:XA) (b o n cap:Nat) (c:Bs) (p:hZ w b o c) (q:c.size=n):(convert src k (qZ b o n cap)).run P w=.ok (.string ⟨c⟩) w:=by
 have h:=run_convert_bytes_back (P:=P) w src k e ⟨b,o,none⟩ cap c.toList l i hd (λj r=>by
  have d:j<c.size:=by simpa using r
  have g:=(p j d).1;rw[getElem!_pos c j d]at g;have m:(⟨b,o,none⟩:Addr).add j=⟨b,o+j,none⟩:=by
   unfold yBT;by_cases f:j=0
   .subst f;rfl
   .rw[yEY f]
  rw[m,g];simp[encB,ub])
 simpa[q]using h
end
section
def slice22:prog.underlying 23=some (.slice 5):=kR
def info5:(prog.info? 5).map (λi=>(i.zero,i.size,i.bytes))=some (some (.int .u8 0),1,1):=kR
def int5:prog.underlying 5=some (.int .u8):=kR
def str9:prog.underlying 9=some .string:=kR
def size5:∀w,(yCP 5).run prog w=.ok 1 w:=size_of5 prog 5 kR
end
end
def be8(x:Nat):Bs:=#[XS (x/72057594037927936),XS (x/281474976710656),XS (x/1099511627776),XS (x/4294967296),XS (x/16777216),XS (x/65536),XS (x/256),XS x]
def be32(a b c d:Nat):Bs:=be8 d++be8 c++be8 b++be8 a
def nH(x:Nat):ub (XS x)=((x%256:Nat):Int):=by
 unfold ub;rw[UInt8.toNat_ofNat']
def Pk(x:Nat):IntKind.u8.wrap (x:Int)=ub (XS x):=by
 rw[nH,IntKind.wrap_u8];omega
def byte_at{x k:Nat}:(YW .u8 ((x:Int)/(k:Int)%256))=encB (XS (x/k)):=by
 unfold encB;rw[nH,yD0,yBM];rfl
def Me{x:Nat}(hx:x<2^64):(YW .u8 ((x:Int)/72057594037927936))=encB (XS (x/72057594037927936)):=by
 unfold encB;rw[nH];exact congrArg (YW .u8) oM
def Wu{k:Bs}{v0 v1 v2 e b f c d:UInt8}(g:k.size=8):
 (((((((k.setIfInBounds 0 v0).setIfInBounds 1 v1).setIfInBounds 2 v2).setIfInBounds 3 e).setIfInBounds 4 b).setIfInBounds 5 f).setIfInBounds 6 c).setIfInBounds 7 d=#[v0,v1,v2,e,b,f,c,d]:=by
 obtain⟨l⟩:=k;match l,g with
 | [_,_,_,_,_,_,_,_],_=>simp
def kL(g o n cap x:Nat)(b:Bs)(w:XA)(D:8<=n)(C:n<=cap)(c:cap<=1048576)(hx:x<2^64)(d:b.size=8)(k:hZ w g o b):
 cZ 52 #[qZ g o n cap,uZ x] w λe w'=>e=.returned (.tuple #[])/\Only g o 8 w w'/\hZ w' g o (be8 x):=by
 obtain⟨r,l⟩:=k 0 oM;obtain⟨c1,f1⟩:=k 1 oM;obtain⟨c2,f2⟩:=k 2 oM;obtain⟨a,f3⟩:=k 3 oM;obtain⟨E,t⟩:=k 4 oM;obtain⟨u,A⟩:=k 5 oM;obtain⟨y,B⟩:=k 6 oM;obtain⟨z,v⟩:=k 7 oM;rw[yAl]at r l;have s:=mk1 (k);go_enter func52,ntmps52;go_wp2;have v0:(YW .u8 ((x:Int)/72057594037927936))=encB (XS (x/72057594037927936)):=Me (x:=x) hx;have v1:(YW .u8 ((x:Int)/281474976710656%256))=encB (XS (x/281474976710656)):=byte_at (x:=x) (k:=281474976710656);have v2:(YW .u8 ((x:Int)/1099511627776%256))=encB (XS (x/1099511627776)):=byte_at (x:=x) (k:=1099511627776);have j:(YW .u8 ((x:Int)/4294967296%256))=encB (XS (x/4294967296)):=byte_at (x:=x) (k:=4294967296);have m:(YW .u8 ((x:Int)/16777216%256))=encB (XS (x/16777216)):=byte_at (x:=x) (k:=16777216);have q:(YW .u8 ((x:Int)/65536%256))=encB (XS (x/65536)):=byte_at (x:=x) (k:=65536);have f:(YW .u8 ((x:Int)/256%256))=encB (XS (x/256)):=byte_at (x:=x) (k:=256);have p:(YW .u8 ((x:Int)%256))=encB (XS x):=by unfold encB;rw[nH,yD0];rfl
 rw[v0,v1,v2,j,m,q,f,p]
 go_end0
 refine⟨rfl,?_,?_⟩
 .exact((((((((Only.refl g o 8 w).setCell (o:=o) oM oM _).setCell (o:=o+1) oM oM _).setCell (o:=o+2) oM oM _).setCell (o:=o+3) oM oM _).setCell (o:=o+4) oM oM _).setCell (o:=o+5) oM oM _).setCell (o:=o+6) oM oM _).setCell (o:=o+7) oM oM _
 .have:=Wu (k:=b) d (v0:=(XS (x/72057594037927936))) (v1:=(XS (x/281474976710656))) (v2:=(XS (x/1099511627776))) (e:=(XS (x/4294967296))) (b:=(XS (x/16777216))) (f:=(XS (x/65536))) (c:=(XS (x/256))) (d:=(XS x));unfold be8;rw[<-this];exact Holds.set (Holds.set (Holds.set (Holds.set (Holds.set (Holds.set (Holds.set (Holds.set s (i:=0) oM _) (i:=1) (by simp;omega) _) (i:=2) (by simp;omega) _) (i:=3) (by simp;omega) _) (i:=4) (by simp;omega) _) (i:=5) (by simp;omega) _) (i:=6) (by simp;omega) _) (i:=7) (by simp;omega) _
def cB(x:Nat):(be8 x).size=8:=rfl
def AY{a b c d:Nat}:(be32 a b c d).size=32:=by simp only[be32,Yl,cB]
def Holds.part{w:XA}{g o p:Nat}{d e:Bs}(h:hZ w g o d)(c:p+e.size<=d.size)(k:∀j,j<e.size->e[j]! = d[p+j]!):hZ w g (o+p) e:=by
 intro j b;rw[k j b,ZB];exact h (p+j) oM
def Holds.join{w:XA}{g:Nat}{a b c d:Nat}(m:hZ w g 0 (be8 d))(i:hZ w g 8 (be8 c))(n:hZ w g 16 (be8 b))(f:hZ w g 24 (be8 a)):hZ w g 0 (be32 a b c d):=by
 intro j l;rw[AY]at l;have e:be32 a b c d=be8 d++be8 c++be8 b++be8 a:=rfl;have s1:(be8 d++be8 c).size=16:=by simp only[Yl,cB]
 have s2:(be8 d++be8 c++be8 b).size=24:=by simp only[Yl,cB]
 by_cases k:j<8
 .have:=m j (by rw[cB];exact k);rw[e,app_front _ _ j oM,<-getElem!_pos (be8 d++be8 c++be8 b) j oM,app_front _ _ j oM,<-getElem!_pos (be8 d++be8 c) j oM,app_front _ _ j (by rw[cB];exact k),<-getElem!_pos (be8 d) j (by rw[cB];exact k)];exact this
 .by_cases o:j<16
  .have:=i (j-8) (by rw[cB];omega);rw[show 8+(j-8)=0+j by omega]at this;rw[e,app_front _ _ j oM,<-getElem!_pos (be8 d++be8 c++be8 b) j oM,app_front _ _ j oM,<-getElem!_pos (be8 d++be8 c) j oM,app_back _ _ j (by rw[cB];omega) (by rw[cB,cB];omega),cB];exact this
  .by_cases p:j<24
   .have:=n (j-16) (by rw[cB];omega);rw[show 16+(j-16)=0+j by omega]at this;rw[e,app_front _ _ j oM,<-getElem!_pos (be8 d++be8 c++be8 b) j oM,app_back _ _ j oM (by rw[s1,cB];omega),s1];exact this
   .have:=f (j-24) (by rw[cB];omega);rw[show 24+(j-24)=0+j by omega]at this;rw[e,app_back _ _ j oM (by rw[s2,cB];omega),s2];exact this
def WU(a b c d:Nat)(w:XA):(yBu 42 (.agg #[uZ a,uZ b,uZ c,uZ d]) (iZ 0)).run prog w=.ok (uZ a) w:=kR
def WT(a b c d:Nat)(w:XA):(yBu 42 (.agg #[uZ a,uZ b,uZ c,uZ d]) (iZ 1)).run prog w=.ok (uZ b) w:=kR
def WS(a b c d:Nat)(w:XA):(yBu 42 (.agg #[uZ a,uZ b,uZ c,uZ d]) (iZ 2)).run prog w=.ok (uZ c) w:=kR
def WR(a b c d:Nat)(w:XA):(yBu 42 (.agg #[uZ a,uZ b,uZ c,uZ d]) (iZ 3)).run prog w=.ok (uZ d) w:=kR
def pB{w:XA}{g:Nat}(p:Nat)(h:hZ w g 0 (XT 32 0))(b:p+8<=32):hZ w g p (XT 8 (0:UInt8)):=by
 have:=Holds.part (p:=p) (e:=XT 8 0) h (by simpa using b) (λj k=>by
  rw[X0]at k;rw[rep_at 8 j k,rep_at 32 (p+j) oM])
 rwa[XI]at this
def A6(x:XB)(m:Nat)(w:XA)(hx:Four x m):
 cZ 27 #[x] w (rZ w λe w'=>∃g a b c d:Nat,e=sZ g 32 32/\w.heap.size<=g/\x=.agg #[uZ a,uZ b,uZ c,uZ d]/\hZ w' g 0 (be32 a b c d)):=by
 obtain⟨a,b,c,d,rfl,M,I,L,hd,N⟩:=hx;clear N;have H:∀w:XA,(Instr.makeSlice 23 (iZ 32) (iZ 32)).run prog w=.ok (sZ w.heap.size 32 32) (w.alloc (.cells (madeCells #[.int .u8 0] 32) 5)):=
  run_make_row' (P:=prog) 23 5 (.int .u8 0) 1 slice22 info5 rfl .i64 .i64 32 oM oM
 go_enter func27,ntmps27;go_wp2;refine wp_loop_rounds 5 ?_;have f:hZ ((w.alloc (.cells #[uZ a,uZ b,uZ c,uZ d] 42)).alloc (.cells (madeCells #[.int .u8 0] 32) 5)) (w.heap.size+1) 0 (XT 32 0):=by
  have:=Holds.made (enc:=encB) (w.alloc (.cells #[uZ a,uZ b,uZ c,uZ d] 42)) 5 32 0;rw[XP]at this;exact this
 have n:=below2 w (.cells #[uZ a,uZ b,uZ c,uZ d] 42) (.cells (madeCells #[.int .u8 0] 32) 5);generalize ((w.alloc (.cells #[uZ a,uZ b,uZ c,uZ d] 42)).alloc (.cells (madeCells #[.int .u8 0] 32) 5))=W at f n⊢;have q:Hid (kZ w W):=n;generalize J:w.heap.size+1=g at f⊢;have p:=mk1 (J);have D:=pB 24 f oM;have j:=pB 16 f oM;have i:=pB 8 f oM;have k:=pB 0 f oM;have E:=WU a b c d;have z:=WT a b c d;have A:=WS a b c d;have C:=WR a b c d;rw[yAy];go_wp2_with (simp only[E])
 apply(kL g 24 8 8 a _ _ oM oM oM M (by rw[X0]) D).mono;rintro e O ⟨rfl,t,b1⟩;replace j:=Holds.same j t (by simp);replace i:=Holds.same i t (by simp);replace k:=Holds.same k t (by simp);have s:=mk1 (q.trans (t.below q.size (oN p)));go_wp2_with fail
 rw[yAy];go_wp2_with (simp only[z])
 apply(kL g 16 16 16 b _ _ oM oM oM I (by rw[X0]) j).mono;rintro e S ⟨rfl,u,o⟩;replace i:=Holds.same i u (by simp);replace k:=Holds.same k u (by simp);replace b1:=Holds.same b1 u (by simp);have l:=mk1 (s.trans (u.below s.size (oN p)));go_wp2_with fail
 rw[yAy];go_wp2_with (simp only[A])
 apply(kL g 8 24 24 c _ _ oM oM oM L (by rw[X0]) i).mono;rintro e Q ⟨rfl,v,B⟩;replace k:=Holds.same k v (by simp);replace b1:=Holds.same b1 v (by simp);replace o:=Holds.same o v (by simp);have r:=mk1 (l.trans (v.below l.size (oN p)));go_wp2_with fail
 rw[yAy];go_wp2_with (simp only[C])
 apply(kL g 0 32 32 d _ _ oM oM oM hd (by rw[X0]) k).mono;rintro e R ⟨rfl,y,K⟩;replace b1:=Holds.same b1 y (by simp);replace o:=Holds.same o y (by simp);replace B:=Holds.same B y (by simp);have F:=mk1 (r.trans (y.below r.size (oN p)));have G:=mk1 (Holds.join K B o b1);go_wp2_with fail
 rw[yAy];go_wp2
 go_ret;exact⟨_,rfl,F,g,a,b,c,d,rfl,oN p,rfl,G⟩
def jQ{a t:Nat}(b:Nat)(c:t<=56)(k:a<2^t)(i:b<256):bits .or .u64 (a:Int) ((b*2^t:Nat):Int)=((a+b*2^t:Nat):Int)/\a+b*2^t<2^(t+8):=by
 have g:2^t<=2^56:=Y5 dC c;have j:b*2^t<=255*2^t:=yAn _ oM;have d:2^(t+8)=256*2^t:=by rw[yAP,YK]
 have f:(2:Nat)^56=72057594037927936:=dC;have e:=yBk k b;refine⟨?_,oM⟩;rw[bits_or_u64_nat _ _ oM oM,yEz,YK b,<-e,Nat.add_comm]
def qL(b:UInt8)(t:Nat)(k:t<=56):Yt.wrap (Yt.wrap (ub b)*((2^t:Nat):Int))=((b.toNat*2^t:Nat):Int):=by
 have e:=b.toNat_lt;have d:2^t<=2^56:=Y5 dC k;have f:b.toNat*2^t<=255*2^t:=yAn _ oM;have c:(2:Nat)^56=72057594037927936:=dC;unfold ub;rw[wrapN oM,mulN,wrapN oM]
def w8(b0 b1 d k e b f c:UInt8):Nat:=
 c.toNat+f.toNat*256+b.toNat*65536+e.toNat*16777216+k.toNat*4294967296+d.toNat*1099511627776+b1.toNat*281474976710656+b0.toNat*72057594037927936
def Fv{b0 b1 d k e b f c:UInt8}:w8 b0 b1 d k e b f c<2^64:=by
 have:=b0.toNat_lt;have:=b1.toNat_lt;have:=d.toNat_lt;have:=k.toNat_lt
 have:=e.toNat_lt;have:=b.toNat_lt;have:=f.toNat_lt;have:=c.toNat_lt
 unfold w8;omega
def MS(b0 b1 d c e b f k:UInt8):
 bits .or .u64 (bits .or .u64 (bits .or .u64 (bits .or .u64 (bits .or .u64 (bits .or .u64 (bits .or .u64 (Yt.wrap (ub k)) (Yt.wrap (Yt.wrap (ub f)*256)))
  (Yt.wrap (Yt.wrap (ub b)*65536))) (Yt.wrap (Yt.wrap (ub e)*16777216))) (Yt.wrap (Yt.wrap (ub c)*4294967296)))
  (Yt.wrap (Yt.wrap (ub d)*1099511627776))) (Yt.wrap (Yt.wrap (ub b1)*281474976710656))) (Yt.wrap (Yt.wrap (ub b0)*72057594037927936))=((w8 b0 b1 d c e b f k:Nat):Int):=by
 have C:=k.toNat_lt;have i:Yt.wrap (ub k)=(k.toNat:Int):=wrapN oM;have g:=qL f 8 dC;have v:=qL b 16 dC;have e3:=qL e 24 dC;have m:=qL c 32 dC;have z:=qL d 40 dC;have s:=qL b1 48 dC;have A:=qL b0 56 dC;obtain⟨j,y⟩:=jQ (a:=k.toNat) f.toNat (t:=8) dC oM (oN f.toNat_lt);obtain⟨o,p⟩:=jQ b.toNat dC y (oN b.toNat_lt);obtain⟨r,q⟩:=jQ e.toNat dC p (oN e.toNat_lt);obtain⟨a,l⟩:=jQ c.toNat dC q (oN c.toNat_lt);obtain⟨n,u⟩:=jQ d.toNat dC l (oN d.toNat_lt);obtain⟨w,t⟩:=jQ b1.toNat dC u (oN b1.toNat_lt);obtain⟨x,B⟩:=jQ b0.toNat dC t (oN b0.toNat_lt);rw[show(256:Int)=((2^8:Nat):Int) from rfl,show(65536:Int)=((2^16:Nat):Int) from rfl,show(16777216:Int)=((2^24:Nat):Int) from rfl,
  show(4294967296:Int)=((2^32:Nat):Int) from rfl,show(1099511627776:Int)=((2^40:Nat):Int) from rfl,show(281474976710656:Int)=((2^48:Nat):Int) from rfl,show(72057594037927936:Int)=((2^56:Nat):Int) from rfl,
  i,g,v,e3,m,z,s,A,j,o,r,a,n,w,x]
 rfl
def word_any(g o n cap:Nat)(k:Bs)(w:XA)(C:8<=n)(B:n<=cap)(c:cap<=1048576)(s:8<=k.size)(b:Holds encB w g o k):
 YN prog 101 #[.slice (some ⟨g,o,none⟩) n cap] w λe w'=>e=.returned (.int .u64 ((w8 k[0]! k[1]! k[2]! k[3]! k[4]! k[5]! k[6]! k[7]!:Nat):Int))/\∃n,w'=w.drewN n:=by
 obtain⟨q,j⟩:=b 0 oM;obtain⟨c1,f1⟩:=b 1 oM;obtain⟨c2,f2⟩:=b 2 oM;obtain⟨z,f3⟩:=b 3 oM;obtain⟨D,t⟩:=b 4 oM;obtain⟨u,a⟩:=b 5 oM;obtain⟨x,A⟩:=b 6 oM;obtain⟨y,v⟩:=b 7 oM;rw[yAl]at q j;unfold encB at *;generalize k[0]! = b0 at *;generalize k[1]! = b1 at *;generalize k[2]! = l at *;generalize k[3]! = i at *;generalize k[4]! = m at *;generalize k[5]! = f at *;generalize k[6]! = r at *;generalize k[7]! = p at *;have d:=mk1 (MS b0 b1 l i m f r p);go_enter func101,ntmps101;go_wp2;go_quiet (fail);go_wp2;go_ret;exact⟨ret_int d,_,rfl⟩
def beV(l:List UInt8):Nat:=l.foldl (λn b=>256*n+b.toNat) 0
def EJ(l:List UInt8):∀n,l.foldl (λn b=>256*n+b.toNat) n=n*256^l.length+beV l:=by
 induction l with
 | nil=>intro n;simp[beV]
 | cons x r ih =>
  intro n;have k:=ih (256*n+x.toNat);have c:=ih (256*0+x.toNat);simp only[yDZ,List.length_cons,beV]at *;rw[k,c,Zf,Nat.add_mul,yCv,XI,YK 256 n,yAo,YK 256];omega
def rB(l r:List UInt8):beV (l++r)=beV l*256^r.length+beV r:=by
 rw[beV,List.foldl_append,EJ];rfl
def IV(n:Nat)(l:List UInt8):beV (YM n 0++l)=beV l:=by
 rw[rB];have:beV (YM n 0)=0:=by
  induction n with
  | zero=>rfl
  | succ k ih=>rw[List.replicate_succ',rB,ih];rfl
 rw[this,Nat.zero_mul,XI]
def Mk(t a s u w x y z v r g k p o c n x16 x17 b q i x21 f x23 j e x26 x27 l d x30 m:UInt8):
 beV [t,a,s,u,w,x,y,z,v,r,g,k,p,o,c,n,x16,x17,b,q,i,x21,f,x23,j,e,x26,x27,l,d,x30,m]
  = val (w8 j e x26 x27 l d x30 m) (w8 x16 x17 b q i x21 f x23) (w8 v r g k p o c n) (w8 t a s u w x y z):=by
 simp only[beV,yDZ,List.foldl_nil,w8,val];omega
def IW{k:Bs}(h:k.size=32):beV k.toList=val (w8 k[24]! k[25]! k[26]! k[27]! k[28]! k[29]! k[30]! k[31]!) (w8 k[16]! k[17]! k[18]! k[19]! k[20]! k[21]! k[22]! k[23]!)
 (w8 k[8]! k[9]! k[10]! k[11]! k[12]! k[13]! k[14]! k[15]!) (w8 k[0]! k[1]! k[2]! k[3]! k[4]! k[5]! k[6]! k[7]!):=by
 obtain⟨l⟩:=k;match l,h with
 | [x0,x1,x2,x3,x4,x5,x6,x7,x8,x9,x10,x11,x12,x13,x14,x15,x16,x17,x18,x19,x20,x21,x22,x23,x24,x25,x26,x27,x28,x29,x30,x31],_=>exact Mk x0 x1 x2 x3 x4 x5 x6 x7 x8 x9 x10 x11 x12 x13 x14 x15 x16 x17 x18 x19 x20 x21 x22 x23 x24 x25 x26 x27 x28 x29 x30 x31
def zero32:∀w:XA,(zeroValue 190).run prog w=.ok (.agg (XT 32 (.int .u8 0))) w:=λ_=>kR
def ints5:gZ 5 1:=gQ
def padded(n:Nat)(k:Bs):Bs:=XT (32-n) 0++k
def uR{n:Nat}{k:Bs}(c:k.size=n)(b:n<=32):(padded n k).size=32:=by
 unfold padded;rw[Yl,X0];omega
def Eh{n:Nat}{k:Bs}:beV (padded n k).toList=beV k.toList:=by
 unfold padded;rw[Array.toList_append,Array.toList_replicate,IV]
def OJ{w:XA}{b g o n cap:Nat}{c:Bs}(i:hZ w b 0 (XT 32 0))(t:n<=32)(s:hZ w g o c)(l:c.size=n):
 (yAD #[23,23] 3 #[qZ b (32-n) n n,qZ g o n cap]).run prog w=.ok (goInt n) (w.setCells b (32-n) (c.toList.map encB))
  /\ hZ (w.setCells b (32-n) (c.toList.map encB)) b 0 (padded n c):=by
 have k:(c.toList.map encB).length=n:=by rw[XZ,Array.length_toList,l]
 refine⟨?_,?_⟩
 .have:=run_copy_cells (P:=prog) w 23 23 3 5 b (32-n) n n ⟨g,o,none⟩ n cap (c.toList.map encB) slice22 ints5 (by rw[k];exact(Nat.min_self n).symm)
   (λj u d=>by
    obtain⟨e,f⟩:=XM.1 d;rw[k]at e;have p:=(s j oM).1;rw[getElem!_pos c j oM]at p;rw[yAc,yAi]at f;have q:(⟨g,o,none⟩:Addr).add j=⟨g,o+j,none⟩:=by
     unfold yBT;by_cases m:j=0
     .subst m;rw[yEX rfl];rfl
     .rw[yEY m]
    rw[q,p,f])
   (λj d=>by
    have:=(i (32-n+j) (by rw[X0];omega)).1;rw[XI]at this;rw[this];rfl)
   (λj d=>by
    have:=(i (32-n+j) (by rw[X0];omega)).2;rwa[XI]at this)
   (λu m=>by obtain⟨x,_,rfl⟩:=List.mem_map.1 m;rfl)
  rw[k]at this;exact this
 .have:=Holds.setCells (r:=padded n c) i (c.toList.map encB) (32-n) (by rw[uR l t,X0]) (by rw[k,X0];omega) (λj d=>?_) (λj e f=>?_)
  .rw[XI]at this;exact this
  .rw[k]at d;rw[yAc,yAi];unfold padded;rw[app_back _ _ _ (by rw[X0];omega) (by rw[X0];omega),X0,show 32-n+j-(32-n)=j by omega,getElem!_pos c j oM]
  .rw[X0]at e;rw[k]at f;unfold padded;rw[app_front _ _ j (by rw[X0];omega),Zi,rep_at 32 j e]
def FY{w:XA}{g:Nat}{T:Bs}(p:Nat)(h:hZ w g 0 T)(b:p+8<=T.size):hZ w g p #[T[p]!,T[p+1]!,T[p+2]!,T[p+3]!,T[p+4]!,T[p+5]!,T[p+6]!,T[p+7]!]:=by
 have:=Holds.part (p:=p) (e:=#[T[p]!,T[p+1]!,T[p+2]!,T[p+3]!,T[p+4]!,T[p+5]!,T[p+6]!,T[p+7]!]) h (by simpa using b) (λj k=>by
  have:j<8:=by simpa using k
  match j,this with
  | 0,_=>rfl
  | 1,_=>rfl
  | 2,_=>rfl
  | 3,_=>rfl
  | 4,_=>rfl
  | 5,_=>rfl
  | 6,_=>rfl
  | 7,_=>rfl)
 rwa[XI]at this
def oL{g o n cap:Nat}{b0 b1 d c f b j i:UInt8}{w:XA}(p:8<=n)(m:n<=cap)(k:cap<=1048576)(l:hZ w g o #[b0,b1,d,c,f,b,j,i]):
 cZ 101 #[qZ g o n cap] w λe w'=>e=.returned (uZ ((w8 b0 b1 d c f b j i:Nat):Int))/\∃n,w'=w.drewN n:=
 word_any g o n cap #[b0,b1,d,c,f,b,j,i] w p m k (XD 8) l
def Holds.far{w:XA}{g o j i:Nat}{k:Bs}(h:hZ w g o k)(b:j≠g)(v:XB):hZ (w.setCell ⟨j,i,none⟩ v) g o k:=by
 intro l c;rw[Yc _ _ _ _ (bU (Ye b)),Zq];exact h l c
def kT(E:Option Addr)(g o n cap:Nat)(m:Bs)(w:XA)(hn:n<=32)(hc:n<=cap)(hs:m.size=n)(Y:n=0\/(E=some ⟨g,o,none⟩/\hZ w g o m)):
 cZ 53 #[.slice E n cap] w (rZ w λe w'=>Four e (beV m.toList)):=by
 have L:=uR (n:=n) (k:=m) hs hn;have A:=mk1 ((Eh (n:=n) (k:=m)).symm.trans (IW L));have zv:=zero32;have h6:(n:Int)<=32:=oM;have d0:(0:Int)<=32-(n:Int):=oM;have d1:(32:Int)-(n:Int)<=32:=oM;have d2:((32:Int)-(n:Int)).toNat=32-n:=oM;go_enter func53,ntmps53
 go_upto_region 2 with fail
 have R:=(At4.made w 42 0 0 0 0 rfl).alloc (.cells (XT 32 (.int .u8 0)) 190);have Z:hZ ((w.alloc (.cells #[uZ 0,uZ 0,uZ 0,uZ 0] 42)).alloc (.cells (XT 32 (.int .u8 0)) 190)) (w.heap.size+1) 0 (XT 32 0):=by
  have:=Holds.new (enc:=encB) (w.alloc (.cells #[uZ 0,uZ 0,uZ 0,uZ 0] 42)) 190 (XT 32 0);rw[Array.map_replicate,XP]at this;exact this
 have BL:=below2 w (.cells #[uZ 0,uZ 0,uZ 0,uZ 0] 42) (.cells (XT 32 (.int .u8 0)) 190);simp only[ZF]at R;have G:n=0\/(E=some ⟨g,o,none⟩/\hZ ((w.alloc (.cells #[uZ 0,uZ 0,uZ 0,uZ 0] 42)).alloc (.cells (XT 32 (.int .u8 0)) 190)) g o m):=by
  rcases Y with h|⟨h1,b⟩
  .exact Ye h
  .by_cases z:n=0
   .exact Ye z
   .exact X7 ⟨h1,Holds.below b BL (Holds.lt b oM)⟩
 clear Y;generalize yAp _ _=S at R Z BL G⊢
 go_cut [] (λwx=>hZ wx (w.heap.size+1) 0 (padded n m)/\At4 wx w.heap.size 0 0 0 0/\kZ w wx)
 case first =>
  by_cases z:n=0
  .subst z;have c:∀w d b dc,(yAD #[23,23] 3 #[.slice d b dc,.slice E 0 cap]).run prog w=.ok (goInt 0) w:=λw d b dc=>run_copy_none w 23 23 3 5 d E b dc 0 cap slice22 ints5 (by simp)
   have f:padded 0 m=XT 32 0:=by
    have:m=#[]:=Array.eq_empty_of_size_eq_zero hs;rw[this];rfl
   go_wp2
   go_meet
   exact⟨by rw[f];exact Z,R,BL⟩
  .obtain⟨rfl,Y⟩:E=some ⟨g,o,none⟩/\hZ S g o m:=G.resolve_left z;obtain⟨c,f⟩:=OJ (cap:=cap) Z hn Y hs;have l:32-(32-n)=n:=oM;have j:At4 (S.setCells (w.heap.size+1) (32-n) (m.toList.map encB)) w.heap.size 0 0 0 0:=by
    have b:=heap_setCells (w.heap.size+1) (k:=w.heap.size) oM (m.toList.map encB) (32-n) S;exact⟨by rw[<-R.c0];exact X4 b,by rw[<-R.c1];exact X4 b,by rw[<-R.c2];exact X4 b,by rw[<-R.c3];exact X4 b,λo=>by rw[<-R.f o];exact World.frozen?_of_block b⟩
   have x:kZ w (S.setCells (w.heap.size+1) (32-n) (m.toList.map encB)):=below_setCells (yB0 _) _ _ _ BL;have b:=mk3 f j x;go_wp2
   go_meet
   exact b
 case rest =>
  obtain⟨B,j,x⟩:=hcut;generalize padded n m=T at B L A⊢;have W:=FY 24 B oM;have p2:=FY 16 B oM;have p1:=FY 8 B oM;have p0:=FY 0 B oM;have zk:=j.lt;have r:=Holds.lt B oM;generalize F:w8 T[24]! T[25]! T[26]! T[27]! T[28]! T[29]! T[30]! T[31]! = y at A;generalize I:w8 T[16]! T[17]! T[18]! T[19]! T[20]! T[21]! T[22]! T[23]! = a at A;generalize O:w8 T[8]! T[9]! T[10]! T[11]! T[12]! T[13]! T[14]! T[15]! = K at A;generalize H:w8 T[0]! T[1]! T[2]! T[3]! T[4]! T[5]! T[6]! T[7]! = q at A;have l3:=F ▸ Fv;have l2:=I ▸ Fv;have l1:=O ▸ Fv;have l0:=H ▸ Fv;go_wp2;have N:=At4.made wc 42 0 0 0 0 rfl;simp only[ZF]at N;replace W:=Holds.below W (aD (w:=wc) (.cells #[uZ 0,uZ 0,uZ 0,uZ 0] 42)) r;replace p2:=Holds.below p2 (aD (w:=wc) (.cells #[uZ 0,uZ 0,uZ 0,uZ 0] 42)) r;replace p1:=Holds.below p1 (aD (w:=wc) (.cells #[uZ 0,uZ 0,uZ 0,uZ 0] 42)) r;replace p0:=Holds.below p0 (aD (w:=wc) (.cells #[uZ 0,uZ 0,uZ 0,uZ 0] 42)) r;have BL:=mk1 (x.alloc (yAg zk) (.cells #[uZ 0,uZ 0,uZ 0,uZ 0] 42));replace j:=j.alloc (.cells #[uZ 0,uZ 0,uZ 0,uZ 0] 42);have D:w.heap.size≠wc.heap.size:=oM;have s:w.heap.size+1≠wc.heap.size:=oM;have Q:Hid (w.heap.size<=wc.heap.size):=by unfold Hid;omega
  generalize wc.heap.size=P at N D s Q⊢;generalize h1:w.heap.size+1=U at W p2 p1 p0 s⊢;generalize z:w.heap.size=X at j D BL Q⊢;have H0:=mk1 (z);refine wp_loop_rounds 5 ?_;obtain⟨c,l,f,b,u⟩:=id N;have t:=N.lt;rw[yAy];go_wp2_with fail
  apply(oL (g:=U) (o:=24) (n:=8) (cap:=8) dC dC dC W).mono;rintro e w1 ⟨rfl,C,rfl⟩;rw[F];replace N:=N.drewN C;obtain⟨c,l,f,b,u⟩:=id N;have t:=N.lt;go_wp2_with fail
  replace N:=N.set0 y;replace j:=(j.drewN C).other (o:=0) D.symm (uZ y);replace BL:Hid (Below X w _):=(nA BL (q:=C)).setCell (p:=⟨P,0,none⟩) Q (uZ y);replace p2:=Holds.far (Holds.drewN p2 C) (i:=0) s.symm (uZ y);replace p1:=Holds.far (Holds.drewN p1 C) (i:=0) s.symm (uZ y);replace p0:=Holds.far (Holds.drewN p0 C) (i:=0) s.symm (uZ y);obtain⟨c,l,f,b,u⟩:=id N;have t:=N.lt;rw[yAy];go_wp2_with fail
  apply(oL (g:=U) (o:=16) (n:=16) (cap:=16) dC dC dC p2).mono;rintro e w1 ⟨rfl,M,rfl⟩;rw[I];replace N:=N.drewN M;obtain⟨c,l,f,b,u⟩:=id N;have t:=N.lt;go_wp2_with fail
  replace N:=N.set1 a;replace j:=(j.drewN M).other (o:=1) D.symm (uZ a);replace BL:Hid (Below X w _):=(nA BL (q:=M)).setCell (p:=⟨P,1,none⟩) Q (uZ a);replace p1:=Holds.far (Holds.drewN p1 M) (i:=1) s.symm (uZ a);replace p0:=Holds.far (Holds.drewN p0 M) (i:=1) s.symm (uZ a);obtain⟨c,l,f,b,u⟩:=id N;have t:=N.lt;rw[yAy];go_wp2_with fail
  apply(oL (g:=U) (o:=8) (n:=24) (cap:=24) dC dC dC p1).mono;rintro e w1 ⟨rfl,V,rfl⟩;rw[O];replace N:=N.drewN V;obtain⟨c,l,f,b,u⟩:=id N;have t:=N.lt;go_wp2_with fail
  replace N:=N.set2 K;replace j:=(j.drewN V).other (o:=2) D.symm (uZ K);replace BL:Hid (Below X w _):=(nA BL (q:=V)).setCell (p:=⟨P,2,none⟩) Q (uZ K);replace p0:=Holds.far (Holds.drewN p0 V) (i:=2) s.symm (uZ K);obtain⟨c,l,f,b,u⟩:=id N;have t:=N.lt;rw[yAy];go_wp2_with fail
  apply(oL (g:=U) (o:=0) (n:=32) (cap:=32) dC dC dC p0).mono;rintro e w1 ⟨rfl,q3,rfl⟩;rw[H];replace N:=N.drewN q3;obtain⟨c,l,f,b,u⟩:=id N;have t:=N.lt;go_wp2_with fail
  replace N:=N.set3 q;replace j:=(j.drewN q3).other (o:=3) D.symm (uZ q);replace BL:Hid (Below X w _):=(nA BL (q:=q3)).setCell (p:=⟨P,3,none⟩) Q (uZ q);obtain⟨c,l,f,b,u⟩:=id N;have t:=N.lt;obtain⟨h3,h4,h5,h7,rf⟩:=id j;have zr:=j.lt;rw[yAy];go_wp2
  have J:=j.self4 y a K q;unfold set4 at J;refine XN (v:=?v) ?hr rfl ?hR
  case hr=>simp[results,Tryz.results53,go_sem,J.c0,J.c1,J.c2,J.c3];rfl
  refine⟨_,rfl,?_,Four.mk l3 l2 l1 l0 A⟩;rw[H0.out];exact aM BL (XD _)
def sO(j m l P:Nat)(hG:Gap j m l P)(w:XA):
 cZ 199 #[.agg #[uZ j,uZ m,uZ l,uZ 0]] w (rZ w λe w'=>Four e P):=by
 have r:=hG.hg;go_enter func199,ntmps199;go_wp2_with fail
 have R:=At4.made (w.alloc (.cells #[uZ j,uZ m,uZ l,uZ 0] 78)) 42 0 0 0 0 (XP _ _);have BL:=below2 w (.cells #[uZ j,uZ m,uZ l,uZ 0] 78) (.cells #[uZ 0,uZ 0,uZ 0,uZ 0] 42);simp only[ZF]at R;apply(tO _ _ 0 _ (Four.mk (a:=0) (b:=0) (c:=0) (d:=0) dC dC dC dC rfl) (Four.mk hG.h0 hG.h1 hG.h2 dC rfl) _).mono;rintro e B ⟨v,rfl,f,v2,t,k,rfl,n,F,o⟩;replace o:t+val j m l 0=0+top*k:=o;have q:t=P:=by
  have g:=n.lt;have i:=hG.hP;have:k=0\/k=1:=oM;rcases this with h|h<;>rw[h]at o<;>omega
 subst q;replace R:=R.call f;have p:=mk1 (BL.trans (f.mono BL.size));obtain⟨a,b,c,d,rfl,H,D,G,hd,C⟩:=id n;have z:=R.lt;go_wp2_with fail
 apply(jR n).mono;rintro e y ⟨E,rfl,g,rfl⟩;replace p:Hid (kZ w y):=(p.alloc oM _).trans (g.mono (by simp;omega));replace R:=(R.alloc _).call g;obtain⟨A,x,s,u,I⟩:=id R;have z:=R.lt;go_wp2;have i:=R.self4 a b c d;unfold set4 at i;refine XN (v:=?v) ?hr rfl ?hR
 case hr=>simp[results,Tryz.results199,go_sem,i.c0,i.c1,i.c2,i.c3];rfl
 exact⟨_,rfl,aM p (yB0 _),n⟩
def PT(w:XA)(t0 t1 t2:Yd)(a b c d e f g h i j k l:Nat):
 Kept w w.heap.size [⟨w.heap.size,0,a,b,c,d⟩,⟨w.heap.size+1,0,e,f,g,h⟩,⟨w.heap.size+1+1,0,i,j,k,l⟩]
  (((w.alloc (.cells #[uZ a,uZ b,uZ c,uZ d] t0)).alloc (.cells #[uZ e,uZ f,uZ g,uZ h] t1)).alloc (.cells #[uZ i,uZ j,uZ k,uZ l] t2)):=by
 refine(((Kept.mk1 (below3 (w:=w) _ _ _) (below3 _ _ _).size).cons ?_).cons ?_).cons ?_
 .exact(At4.made _ t2 i j k l (by simp)).blk
 .exact((At4.made _ t1 e f g h (by simp)).alloc _).blk
 .exact(((At4.made _ t0 a b c d rfl).alloc _).alloc _).blk
def vK(i g f P:Nat)(x:XB)(m:Nat)(hG:Gap i g f P)(j:2<=P%18446744073709551616)(hx:Four x m)(w:XA):
 cZ 174 #[.agg #[uZ i,uZ g,uZ f,uZ 0],x] w (rZ w λe w'=>Four e (m^(P-2)%P)):=by
 obtain⟨a,b,c,d,rfl,T,E,hc,hd,em⟩:=id hx;have HX:Hid (Four _ m):=hx;have A:Hid (Gap i g f P):=hG;clear em hx T E hc hd hG;go_enter func174,ntmps174;go_wp2_with fail
 have k:=PT w 78 42 42 i g f 0 a b c d 0 0 0 0;simp only[ZF]at k;generalize yAp _ _=W0 at k⊢;generalize h2:w.heap.size+1+1=S at k⊢;generalize h1:w.heap.size+1=k1 at k⊢;have B:Hid (w.heap.size<=S):=by unfold Hid;omega
 generalize H:w.heap.size=k0 at k B⊢;have N:=mk1 (H);apply(sO i g f P A _).mono;rintro e w1 ⟨v,rfl,s,p⟩;obtain⟨y,F,pc,pd,rfl,J,r,t,u,z⟩:=id p;replace k:=k.call s;have Y:2<=y:=by rw[z]at j;unfold val at j;omega
 obtain⟨o,l⟩:∃o,y=o+2:=⟨y-2,oM⟩
 have HE:Hid (Four (.agg #[uZ o,uZ F,uZ pc,uZ pd]) (P-2)):=by
  refine Four.mk oM r t u ?_;rw[z,l];unfold val;omega
 have hw:=wrapN (a:=o) oM;obtain⟨h3,C,U,V,xf⟩:=k.tail.head.at4;have zx:=k.tail.head.lt;obtain⟨I,h5,X,O,pf⟩:=k.head.at4;have G:=k.head.lt;have n1:=ZW zx;have n0:=ZW G;go_wp2_with fail
 apply(Ax i g f P _ _ _ _ A HX HE _).mono;rintro e w2 ⟨v,rfl,q,p⟩;replace k:=(k.alloc _).call q;obtain⟨qa,qb,qc,qd,rfl,D,Z,M,L,eQ⟩:=id p;have R:=mk1 (p);obtain⟨K,Q,W,h4,rf⟩:=k.tail.tail.head.at4;have zr:=k.tail.tail.head.lt;go_wp2;have n:=k.tail.tail.head.at4.self4 qa qb qc qd;unfold set4 at n;refine XN (v:=?v) ?hr rfl ?hR
 case hr=>simp[results,Tryz.results174,go_sem,n.c0,n.c1,n.c2,n.c3];rfl
 refine⟨_,rfl,?_,R⟩;rw[N.out];exact aM k.bl B
def TD:prog.underlying 24=some (.int .u64):=kR
def V1:∀w,(sizeOf 24).run prog w=.ok 1 w:=λ_=>kR
def VT:prog.underlying 42=some (.array 4 24):=kR
def GL(D:Nat)(a b c d p q r s:Nat)(w:XA):
 (yEO (D+1+1) 42 (.agg #[uZ a,uZ b,uZ c,uZ d]) (.agg #[uZ p,uZ q,uZ r,uZ s])).run prog w=.ok (decide (a=p/\b=q/\c=r/\d=s)) w:=by
 have k:=λ(x y:Nat)=>run_equalIn_int (P:=prog) w D 24 .u64 .u64 (x:Int) (y:Int) TD
 rw[yEO];simp only[X1,run_underlying VT,Yz,V1];simp only[Std.Legacy.Range.forIn_eq_forIn_range',Std.Legacy.Range.size,List.range',List.forIn_cons,List.forIn_nil];by_cases e:a=p
 .by_cases f:b=q
  .by_cases g:c=r
   .by_cases i:d=s
    .simp[e,f,g,i,part,k]
    .simp[e,f,g,i,part,k];omega
   .simp[e,f,g,part,k];omega
  .simp[e,f,part,k];omega
 .simp[e,part,k];omega
def Us(a b c d p q r s:Nat)(w:XA):
 (binOp .neq 42 (.agg #[uZ a,uZ b,uZ c,uZ d]) (.agg #[uZ p,uZ q,uZ r,uZ s])).run prog w=.ok (.bool (!decide (a=p/\b=q/\c=r/\d=s))) w:=by
 rw[run_neq_struct,GL 9998];rfl
def QZ(a b c d:Nat)(w:XA):(binOp .neq 42 (.agg #[uZ a,uZ b,uZ c,uZ d]) (.agg #[uZ a,uZ b,uZ c,uZ d])).run prog w=.ok fZ w:=by
 rw[Us,decide_eq_true ⟨rfl,rfl,rfl,rfl⟩];rfl
def Oc{a b c d p q r s:Nat}(h:¬(a=p/\b=q/\c=r/\d=s))(w:XA):(binOp .neq 42 (.agg #[uZ a,uZ b,uZ c,uZ d]) (.agg #[uZ p,uZ q,uZ r,uZ s])).run prog w=.ok tZ w:=by
 rw[Us,decide_eq_false h];rfl
def RD{a:Nat}(b:Nat)(d:a<2^64):bits .or .u64 ((a/4:Nat):Int) ((b*4611686018427387904%18446744073709551616:Nat):Int)=((a/4+b*4611686018427387904%18446744073709551616:Nat):Int)/\a/4+b*4611686018427387904%18446744073709551616<2^64:=by
 have k:b*4611686018427387904%18446744073709551616=2^62*(b%4):=oM;have c:=yBk (i:=62) (b:=a/4) oM (b%4);rw[bits_or_u64_nat _ _ oM oM,k,yEz,<-c];omega
def Cw(x:XB)(m:Nat)(hx:Four x m)(w:XA):
 cZ 201 #[x] w (rZ w λe w'=>Four e (m/4)):=by
 obtain⟨a,b,c,d,rfl,t,q,s,hd,p⟩:=id hx;obtain⟨i,l⟩:=RD b t;obtain⟨f,o⟩:=RD c q;obtain⟨g,j⟩:=RD d s;have k:=D8 a b c d;rw[<-p]at k;have s0:(a:Int)/4=((a/4:Nat):Int):=oM;have s1:(b:Int)/4=((b/4:Nat):Int):=oM;have s2:(c:Int)/4=((c/4:Nat):Int):=oM;have s3:(d:Int)/4=((d/4:Nat):Int):=oM;have t1:Yt.wrap ((b:Int)*4611686018427387904)=((b*4611686018427387904%18446744073709551616:Nat):Int):=by rw[ZO];omega
 have t2:Yt.wrap ((c:Int)*4611686018427387904)=((c*4611686018427387904%18446744073709551616:Nat):Int):=by rw[ZO];omega
 have r:Yt.wrap ((d:Int)*4611686018427387904)=((d*4611686018427387904%18446744073709551616:Nat):Int):=by rw[ZO];omega
 have n:d/4<2^64:=oM;generalize a/4+b*4611686018427387904%18446744073709551616=F at i l k;generalize b/4+c*4611686018427387904%18446744073709551616=D at f o k;generalize c/4+d*4611686018427387904%18446744073709551616=E at g j k;generalize b*4611686018427387904%18446744073709551616=v1 at i t1;generalize c*4611686018427387904%18446744073709551616=v2 at f t2;generalize d*4611686018427387904%18446744073709551616=z at g r;generalize a/4=B at i s0;generalize b/4=y at f s1;generalize c/4=A at g s2;generalize d/4=C at s3 n k;have u:Hid _:=k;clear k p hx;go_enter func201,ntmps201;go_wp2;refine XN (v:=?v) ?hr rfl ?hR
 case hr=>simp[results,Tryz.results201,go_sem];rfl
 exact⟨_,rfl,below2 _ _ _,Four.mk l o j n u.symm⟩
def Hk{x:XB}{m:Nat}{w:XA}(hx:Four x m):
 cZ 120 #[x] w (rZ w λe w'=>e=.bool (decide (m%2=1))):=by
 obtain⟨a,b,c,d,rfl,g,j,l,hd,i⟩:=id hx;have ho:=and_one g;have k:m%2=a%2:=by rw[i];unfold val;omega
 rw[k];have f:a%2=0\/a%2=1:=oM;rcases f with h|h
 .rw[h]at ho⊢;go_enter func120,ntmps120;go_wp2;go_ret;exact⟨_,rfl,aD _,rfl⟩
 .rw[h]at ho⊢;go_enter func120,ntmps120;go_wp2;go_ret;exact⟨_,rfl,aD _,rfl⟩
def rH{w W:XA}{k e o f a b c d m i g rd j l n:Nat}(h:Kept w k [⟨k,0,j,l,n,0⟩,⟨f,0,m,i,g,rd⟩,⟨e,0,a,b,c,d⟩,⟨o,0,0,0,0,0⟩] W):W.cell? ⟨k,0,none⟩=some (uZ j)/\W.cell? ⟨k,1,none⟩=some (uZ l)/\W.cell? ⟨k,2,none⟩=some (uZ n)/\W.cell? ⟨k,3,none⟩=some (uZ 0)/\W.cell? ⟨f,0,none⟩=some (uZ m)/\W.cell? ⟨f,1,none⟩=some (uZ i)/\W.cell? ⟨f,2,none⟩=some (uZ g)/\W.cell? ⟨f,3,none⟩=some (uZ rd)/\W.cell? ⟨e,0,none⟩=some (uZ a)/\W.cell? ⟨e,1,none⟩=some (uZ b)/\W.cell? ⟨e,2,none⟩=some (uZ c)/\W.cell? ⟨e,3,none⟩=some (uZ d)/\Kept w k [⟨k,0,j,l,n,0⟩,⟨f,0,m,i,g,rd⟩,⟨e,0,a,b,c,d⟩,⟨o,0,0,0,0,0⟩] W:=
 ⟨h.head.c0,h.head.c1,h.head.c2,h.head.c3,h.tail.head.c0,h.tail.head.c1,h.tail.head.c2,h.tail.head.c3,h.tail.tail.head.c0,h.tail.tail.head.c1,h.tail.tail.head.c2,h.tail.tail.head.c3,h⟩
def four_ne{a b c d m n:Nat}{v:XB}(h:Four v n)(e:Four (.agg #[uZ a,uZ b,uZ c,uZ d]) m)(k:¬n=m):
 ∃p q r s:Nat,v=.agg #[uZ p,uZ q,uZ r,uZ s]/\¬(p=a/\q=b/\r=c/\s=d):=by
 obtain⟨p,q,r,s,rfl,f⟩:=id h;refine⟨p,q,r,s,rfl,?_⟩;rintro⟨rfl,rfl,rfl,rfl⟩;exact k (h.num e)
def even(P r:Nat):Nat:=if r%2=1 then P-r else r
def RootR(P m R:Nat)(e:XB):Prop:=∃(k c d b:Nat) (ok:Bool),e=.tuple #[.agg #[uZ k,uZ c,uZ d,uZ b],.bool ok] /\
 (ok=true->R*R%P=m/\Four (.agg #[uZ k,uZ c,uZ d,uZ b]) (even P R))/\(ok=false->¬R*R%P=m)/\(ok=false->k=0/\c=0/\d=0/\b=0)
def RootR.yes{P m R k c d b:Nat}(h:R*R%P=m)(e:Four (.agg #[uZ k,uZ c,uZ d,uZ b]) (even P R)):RootR P m R (.tuple #[.agg #[uZ k,uZ c,uZ d,uZ b],tZ]):=
 ⟨k,c,d,b,true,rfl,λ_=>⟨h,e⟩,λh=>yBb h,λh=>yBb h⟩
def RootR.no{P m R:Nat}(h:¬R*R%P=m):RootR P m R (.tuple #[.agg #[uZ 0,uZ 0,uZ 0,uZ 0],fZ]):=
 ⟨0,0,0,0,false,rfl,λh=>yBb h,λ_=>h,λ_=>⟨rfl,rfl,rfl,rfl⟩⟩
def Dp(o n l P:Nat)(x:XB)(m:Nat)(hG:Gap o n l P)(S:P/4%18446744073709551616<18446744073709551615)(hx:Four x m)(w:XA):
 YN prog 177 #[.agg #[.int .u64 o,.int .u64 n,.int .u64 l,.int .u64 0],x] w (Ret λe w'=>Below w.heap.size w w'/\RootR P m (m^(P/4+1)%P) e):=by
 obtain⟨a,b,c,d,rfl,ha,hb,hc,hd,em⟩:=id hx;have HX:Hid (Four _ m):=hx;have HG:Hid (Gap o n l P):=hG;obtain⟨R,hR⟩:=vH (m^(P/4+1)%P);have hg:R<P:=by
  rw[<-hR];refine Y8 _ ?_;have:=hG.hP2;omega
 rw[hR];have hm:Hid (m^(P/4+1)%P=R):=hR;have T:Hid (R<P):=hg;clear em hx ha hb hc hd hG hR hg;go_enter func177,ntmps177;go_wp2_with fail
 have k:=PT w 78 42 42 o n l 0 a b c d 0 0 0 0;simp only[ZF]at k;generalize yAp _ _=W0 at k⊢;generalize h2:w.heap.size+1+1=N at k⊢;generalize h1:w.heap.size+1=s at k⊢;have Q2:Hid (w.heap.size<=N):=by unfold Hid;omega
 generalize h0:w.heap.size=i at k Q2⊢;have H0:Hid (w.heap.size=i):=h0;clear h0 h1 h2;refine(sO o n l P HG.out _).mono ?_;rintro e w1 ⟨v,rfl,f,G⟩;obtain⟨pa,pb,pc,pd,rfl,-⟩:=id G;replace k:=k.call f;clear f;go_wp2_with fail
 refine(Cw _ _ G _).mono ?_;rintro e w2 ⟨v,rfl,h6,h8⟩;obtain⟨qa,qb,qc,qd,rfl,hl,h9,h5,h3,eq⟩:=id h8;replace k:=k.call h6;clear h6 G h8;have hp:qa<18446744073709551615:=by rw[eq]at S;unfold val at S;omega
 obtain⟨qe,F⟩:=vH (qa+1);have HE:Hid (Four (.agg #[.int .u64 qe,.int .u64 qb,.int .u64 qc,.int .u64 qd]) (P/4+1)):=by
  refine Four.mk oM h9 h5 h3 ?_;rw[eq,<-F];unfold val;omega
 have hi:(qa:Int)+1=(qe:Int):=oM;have hw:=wrapN (a:=qe) oM;clear hp eq S hl h9 h5 h3 F;obtain⟨ht,hk,hq,hs,xf⟩:=k.tail.head.at4;have zx:=k.tail.head.lt;obtain⟨J,X,Q,L,pf⟩:=k.head.at4;have zp:=k.head.lt;have n1:s≠w2.heap.size:=ZW zx;have n0:i≠w2.heap.size:=ZW zp;go_wp2_with fail
 refine(Ax o n l P _ _ _ _ HG.out HX.out HE.out _).mono ?_;rintro e W ⟨v,rfl,he,G⟩;replace k:=(k.alloc _).call he;clear he ht hk hq hs xf zx J X Q L pf zp n0 n1 HE hi hw;obtain⟨z,C,u,rd,rfl,-⟩:=id G;rw[hm.out]at G;have M:Hid (Four _ R):=G;clear G
 go_upto_region 4 with fail
 have Y:Kept w i [⟨i,0,o,n,l,0⟩,⟨W.heap.size,0,z,C,u,rd⟩,⟨s,0,a,b,c,d⟩,⟨N,0,0,0,0,0⟩] _:=((((Kept.mk1 (k.alloc (.cells #[.int .u64 z,.int .u64 C,.int .u64 u,.int .u64 rd] 42)).bl (k.alloc _).le).cons (k.alloc _).tail.tail.head).cons (k.alloc _).tail.head).cons (At4.made W 42 z C u rd rfl).blk).cons (x:=⟨i,0,o,n,l,0⟩) (k.alloc _).head |> λh=>by exact h
 have hu:W.heap.size≠i:=ZN k.head.lt;have h4:W.heap.size≠N:=ZN k.tail.tail.head.lt;have hn:W.heap.size≠s:=ZN k.tail.head.lt;have Q7:Hid (i<=W.heap.size):=k.le;clear k;have k:=Y;clear Y;generalize yAp _ _=W4 at k⊢;generalize W.heap.size=t at k hu hn h4 Q7⊢;by_cases r:R*R%P=m
 .have hj:=QZ a b c d;go_region_held3 (λw'=>w'.cell? ⟨i,0,none⟩=some (.int .u64 o)/\w'.cell? ⟨i,1,none⟩=some (.int .u64 n)/\w'.cell? ⟨i,2,none⟩=some (.int .u64 l)/\w'.cell? ⟨i,3,none⟩=some (.int .u64 0)/\w'.cell? ⟨t,0,none⟩=some (.int .u64 z)/\w'.cell? ⟨t,1,none⟩=some (.int .u64 C)/\w'.cell? ⟨t,2,none⟩=some (.int .u64 u)/\w'.cell? ⟨t,3,none⟩=some (.int .u64 rd)/\w'.cell? ⟨s,0,none⟩=some (.int .u64 a)/\w'.cell? ⟨s,1,none⟩=some (.int .u64 b)/\w'.cell? ⟨s,2,none⟩=some (.int .u64 c)/\w'.cell? ⟨s,3,none⟩=some (.int .u64 d)/\Kept w i [⟨i,0,o,n,l,0⟩,⟨t,0,z,C,u,rd⟩,⟨s,0,a,b,c,d⟩,⟨N,0,0,0,0,0⟩] w') (first|(with_reducible exact rH k)|(with_reducible exact rH k.drew)|fail) (first|(go_at_call 51;refine(pW (k:=o) (c:=n) (b:=l) (P:=P) HG.out M.out M.out).mono ?_;rintro e w5 ⟨v,rfl,f,q⟩;rw[r]at q;obtain rfl:=q.inj HX.out;clear q;(first|(with_reducible (have p:=k.drew.call f))|(with_reducible (have p:=k.call f))|fail);clear k f;have k:=p;clear p))
  have D:Hid (R*R%P=m):=r;clear r
  rename_i hHeld
  clear hHeld;obtain⟨A,B,E,y,tf⟩:=k.tail.head.at4;have zt:=k.tail.head.lt;go_wp2_with fail
  clear A B E y tf zt;refine(Hk M.out).mono ?_;rintro e w6 ⟨v,rfl,h7,rfl⟩;replace k:=k.call h7;clear h7;obtain⟨A,B,E,y,tf⟩:=k.tail.head.at4;have zt:=k.tail.head.lt;obtain⟨V,U,K,H,uf⟩:=k.tail.tail.tail.head.at4;have zu:=k.tail.tail.tail.head.lt;by_cases g:R%2=1
  .have hd:decide (R%2=1)=true:=decide_eq_true g;rw[hd];have HO:Hid (R%2=1):=g;clear hd g;obtain⟨J,X,Q,L,pf⟩:=k.head.at4;have zp:=k.head.lt;go_wp2_with fail
   refine(uJ (k:=o) (c:=n) (b:=l) (P:=P) (m:=0) HG.out (Four.mk (a:=0) (b:=0) (c:=0) (d:=0) dC dC dC dC rfl) M.out (oN T.out) T.out).mono ?_;rintro e w8 ⟨v,rfl,Z,O⟩;obtain⟨sa,sb,sc,sd,rfl,-⟩:=id O;have I:Hid (Four (.agg #[.int .u64 sa,.int .u64 sb,.int .u64 sc,.int .u64 sd]) (even P R)):=by
    have h1:(0+P-R)%P=even P R:=by
     unfold even;rw[yEX HO.out,XI];exact X6 (by have:=T.out;have:=HO.out;omega)
    unfold Hid;rw[<-h1];exact O
   replace k:=k.call Z;clear Z O A B E y tf zt V U K H uf zu J X Q L pf zp;obtain⟨A,B,E,y,tf⟩:=k.tail.head.at4;have zt:=k.tail.head.lt;obtain⟨V,U,K,H,uf⟩:=k.tail.tail.tail.head.at4;have zu:=k.tail.tail.tail.head.lt;go_wp2;have j:=(k.tail.tail.tail.head.at4.other4 h4 (.int .u64 sa) (.int .u64 sb) (.int .u64 sc) (.int .u64 sd)).self4 sa sb sc sd;unfold set4 at j;refine XN (v:=?v) ?hr rfl ?hR
   case hr=>simp[results,Tryz.results177,go_sem,j.c0,j.c1,j.c2,j.c3];rfl
   refine⟨_,rfl,?_,RootR.yes D.out I.out⟩;rw[H0.out];exact aM (aM k.bl Q7.out) Q2.out
  .have hd:decide (R%2=1)=false:=decide_eq_false g;rw[hd];have I:Hid (Four (.agg #[.int .u64 z,.int .u64 C,.int .u64 u,.int .u64 rd]) (even P R)):=by
    have h1:even P R=R:=by unfold even;rw[yEY g]
    unfold Hid;rw[h1];exact M.out
   clear hd g;go_wp2;have j:=k.tail.tail.tail.head.at4.self4 z C u rd;unfold set4 at j;refine XN (v:=?v2) ?hr2 rfl ?hR2
   case hr2=>simp[results,Tryz.results177,go_sem,j.c0,j.c1,j.c2,j.c3];rfl
   refine⟨_,rfl,?_,RootR.yes D.out I.out⟩;rw[H0.out];exact aM k.bl Q2.out
 .go_region_held3 (λw'=>w'.cell? ⟨i,0,none⟩=some (.int .u64 o)/\w'.cell? ⟨i,1,none⟩=some (.int .u64 n)/\w'.cell? ⟨i,2,none⟩=some (.int .u64 l)/\w'.cell? ⟨i,3,none⟩=some (.int .u64 0)/\w'.cell? ⟨t,0,none⟩=some (.int .u64 z)/\w'.cell? ⟨t,1,none⟩=some (.int .u64 C)/\w'.cell? ⟨t,2,none⟩=some (.int .u64 u)/\w'.cell? ⟨t,3,none⟩=some (.int .u64 rd)/\w'.cell? ⟨s,0,none⟩=some (.int .u64 a)/\w'.cell? ⟨s,1,none⟩=some (.int .u64 b)/\w'.cell? ⟨s,2,none⟩=some (.int .u64 c)/\w'.cell? ⟨s,3,none⟩=some (.int .u64 d)/\Kept w i [⟨i,0,o,n,l,0⟩,⟨t,0,z,C,u,rd⟩,⟨s,0,a,b,c,d⟩,⟨N,0,0,0,0,0⟩] w') (first|(with_reducible exact rH k)|(with_reducible exact rH k.drew)|fail) (first|(go_at_call 51;refine(pW (k:=o) (c:=n) (b:=l) (P:=P) HG.out M.out M.out).mono ?_;rintro e w5 ⟨v,rfl,f,q⟩;obtain⟨I,A,B,E,rfl,g⟩:=four_ne q HX.out r;have y:=Oc g;clear q;(first|(with_reducible (have p:=k.drew.call f))|(with_reducible (have p:=k.call f))|fail);clear k f;have k:=p;clear p))
  have D:Hid (¬R*R%P=m):=r;clear r
  rename_i hHeld
  clear hHeld;obtain⟨V,U,K,H,uf⟩:=k.tail.tail.tail.head.at4;have zu:=k.tail.tail.tail.head.lt;go_wp2;have j:At4 (set4 w5 N (.int .u64 0) (.int .u64 0) (.int .u64 0) (.int .u64 0)) N 0 0 0 0:=k.tail.tail.tail.head.at4.self4 0 0 0 0;unfold set4 at j;refine XN (v:=?v3) ?hr3 rfl ?hR3
  case hr3=>simp[results,Tryz.results177,go_sem,j.c0,j.c1,j.c2,j.c3];rfl
  refine⟨_,rfl,?_,RootR.no D.out⟩;rw[H0.out];exact aM k.bl Q2.out
abbrev ws(x:Fin P):List XB:=wn x.val
abbrev fv(x:Fin P):XB:=nv x.val
def pv(x y:Fin P):XB:=.agg (ws x++ws y).toArray
def rv(x y z:Fin P):XB:=.agg (ws x++(ws y++ws z)).toArray
def Gives(f:ZQ)(args:Array XB)(v:XB):Prop:=∀w,cZ f args w (rZ w λe w'=>e=v)
structure Fld(P:Nat)[NeZero P]:Prop where
 gap:Gap 4294968273 0 0 P
 cur:Cur P
 p2:2<=P%18446744073709551616
 p4:P/4%18446744073709551616<18446744073709551615
 p3:P%4=3
 p7:7<P
def Fld.top(h:Fld P)(x:Fin P):x.val<top:=by have:=h.gap.hP;have:=x.isLt;omega
def Fld.four(h:Fld P)(x:Fin P):Four (fv x) x.val:=iI (h.top x)
def mA:(X9 #[uZ 0,uZ 0,uZ 0,uZ 0])=fv (0:Fin P):=by
 have h:Four (X9 #[uZ 0,uZ 0,uZ 0,uZ 0]) (0:Fin P).val:=by
  rw[val_zero];exact Four.mk (a:=0) (b:=0) (c:=0) (d:=0) dC dC dC dC rfl
 exact h.nv
def RI(h:Fld P):(X9 #[uZ 1,uZ 0,uZ 0,uZ 0])=fv (1:Fin P):=by
 have h:Four (X9 #[uZ 1,uZ 0,uZ 0,uZ 0]) (1:Fin P).val:=by
  rw[val_one h.cur.pr];exact Four.mk (a:=1) (b:=0) (c:=0) (d:=0) dC dC dC dC rfl
 exact h.nv
def bM:Gives 118 #[] gv0:=λw=>(vW).mono (by rintro e w' ⟨rfl,rfl⟩;exact⟨_,rfl,aD _,rfl⟩)
def TR{x y:Fin P}(h:Fld P):Gives 98 #[gv0,fv x,fv y] (fv (x+y)):=λw =>
 (sum_any 4294968273 0 0 P _ _ x.val y.val h.gap (h.four x) (h.four y) x.isLt y.isLt w).mono (by
  rintro e w' ⟨v,rfl,b,k⟩;exact⟨_,rfl,b,k.nv⟩)
omit [NeZero P] in
theorem Bi(x y:Fin P):(x.val+P-y.val)%P=(x-y).val:=by
 rw[Fin.sub_def];show _=(P-y.val+x.val)%P
 congr 1
 have:=y.isLt;omega
def BK{x y:Fin P}(h:Fld P):Gives 178 #[gv0,fv x,fv y] (fv (x-y)):=λw =>
 (oG 4294968273 0 0 P _ _ x.val y.val h.gap (h.four x) (h.four y) x.isLt y.isLt w).mono (by
  rintro e w' ⟨v,rfl,b,k⟩;rw[Bi]at k;exact⟨_,rfl,b,k.nv⟩)
def Ib{x y:Fin P}(h:Fld P):Gives 100 #[gv0,fv x,fv y] (fv (x*y)):=λw =>
 (nT 4294968273 0 0 P _ _ x.val y.val h.gap (h.four x) (h.four y) w).mono (by
  rintro e w' ⟨v,rfl,b,k⟩;exact⟨_,rfl,b,k.nv⟩)
def SC{x:Fin P}(h:Fld P):Gives 55 #[fv x] (fv x):=λw=>(jV (h.four x)).mono (by rintro e w' ⟨v,rfl,k,rfl⟩;exact⟨_,rfl,k,rfl⟩)
def Ki{x:Fin P}(h:Fld P):Gives 99 #[fv x] (fv x):=λw=>(jR (h.four x)).mono (by rintro e w' ⟨v,rfl,k,rfl⟩;exact⟨_,rfl,k,rfl⟩)
def sN{x y:Fin P}(h:Fld P):Gives 51 #[gv0,fv x,fv y] (fv (x*y)):=λw =>
 (pW h.gap (h.four x) (h.four y)).mono (by
  rintro e w' ⟨v,rfl,b,k⟩;exact⟨_,rfl,b,k.nv⟩)
def Hj{x y:Fin P}(h:Fld P):Gives 50 #[gv0,fv x,fv y] (fv (x+y)):=λw =>
 (Ds h.gap (h.four x) (h.four y) x.isLt y.isLt).mono (by
  rintro e w' ⟨v,rfl,b,k⟩;exact⟨_,rfl,b,k.nv⟩)
def ME{x y:Fin P}(h:Fld P):Gives 121 #[gv0,fv x,fv y] (fv (x-y)):=λw =>
 (uJ h.gap (h.four x) (h.four y) x.isLt y.isLt).mono (by
  rintro e w' ⟨v,rfl,b,k⟩;rw[Bi]at k;exact⟨_,rfl,b,k.nv⟩)
def Cm(h:Fld P):(X9 #[uZ 7,uZ 0,uZ 0,uZ 0])=fv (7:Fin P):=by
 have h:Four (X9 #[uZ 7,uZ 0,uZ 0,uZ 0]) (7:Fin P).val:=by
  have k:(7:Fin P).val=7%P:=rfl;rw[k,X6 h.p7];exact Four.mk (a:=7) (b:=0) (c:=0) (d:=0) dC dC dC dC rfl
 exact h.nv
def A7:([uZ 0,uZ 0,uZ 0,uZ 0]:List XB)=ws (0:Fin P):=by
 have h:=mA (P:=P);unfold nv at h;injection h with h
 exact congrArg Array.toList h
def iE:(X9 #[uZ 0,uZ 0,uZ 0,uZ 0,uZ 0,uZ 0,uZ 0,uZ 0])=pv (0:Fin P) 0:=by
 unfold pv;rw[<-A7];rfl
def MM:(X9 #[uZ 0,uZ 0,uZ 0,uZ 0,uZ 0,uZ 0,uZ 0,uZ 0,uZ 0,uZ 0,uZ 0,uZ 0])=rv (0:Fin P) 0 0:=by
 unfold rv;rw[<-A7];rfl
def I4{x:Fin P}(h:Fld P):Gives 174 #[gv0,fv x] (fv (inv x)):=λw =>
 (vK 4294968273 0 0 P _ x.val h.gap h.p2 (h.four x) w).mono (by
  rintro e w' ⟨v,rfl,b,k⟩;exact⟨_,rfl,b,k.nv⟩)
omit [NeZero P] in
theorem Gives.e{f:ZQ}{args:Array XB}{x c:Fin P}(h:Gives f args (fv x))(e:c=x):Gives f args (fv c):=e ▸ h
omit [NeZero P] in
theorem Gives.e3{f:ZQ}{args:Array XB}{x y z a b c:Fin P}(h:Gives f args (rv x y z))(e:a=x)(e':b=y)(k:c=z):Gives f args (rv a b c):=e ▸ e' ▸ k ▸ h
def eqW(a b c d p q r s:Int)(w:XA):(binOp .eql 209 (.agg #[uZ a,uZ b,uZ c,uZ d]) (.agg #[uZ p,uZ q,uZ r,uZ s])).run prog w=.ok (.bool (decide (a=p/\b=q/\c=r/\d=s))) w:=by
 go_simp;by_cases f:a=p<;>by_cases e:b=q<;>by_cases g:c=r<;>by_cases k:d=s<;>simp[f,e,g,k]
def A9{m n:Nat}(b:m<top)(k:n<top):(m%2^64=n%2^64/\m/2^64%2^64=n/2^64%2^64/\m/2^128%2^64=n/2^128%2^64/\m/2^192%2^64=n/2^192%2^64)↔m=n:=by
 constructor
 .rintro⟨e,d,f,c⟩;unfold top at b k;omega
 .rintro rfl;exact⟨rfl,rfl,rfl,rfl⟩
def eqC(h:Fld P)(x y:Fin P)(w:XA):(binOp .eql 209 (fv x) (fv y)).run prog w=.ok (.bool (decide (x=y))) w:=by
 have k:=eqW ((x.val%2^64:Nat):Int) ((x.val/2^64%2^64:Nat):Int) ((x.val/2^128%2^64:Nat):Int) ((x.val/2^192%2^64:Nat):Int) ((y.val%2^64:Nat):Int) ((y.val/2^64%2^64:Nat):Int) ((y.val/2^128%2^64:Nat):Int) ((y.val/2^192%2^64:Nat):Int) w;refine k.trans ?_;have b:=A9 (h.top x) (h.top y);simp only[Int.ofNat_inj,b,<-yEI]
def GM(h:Fld P){x y:Fin P}(e:x=y)(w:XA):(binOp .eql 209 (fv x) (fv y)).run prog w=.ok tZ w:=by rw[eqC h,decide_eq_true e]
def LH(h:Fld P){x y:Fin P}(e:¬x=y)(w:XA):(binOp .eql 209 (fv x) (fv y)).run prog w=.ok fZ w:=by rw[eqC h,decide_eq_false e]
def U3{a b c d p q r s g o m n l i j f:Nat}{w:XA}:(binOp .eql 131 (.agg #[uZ a,uZ b,uZ c,uZ d,uZ g,uZ o,uZ m,uZ n]) (.agg #[uZ p,uZ q,uZ r,uZ s,uZ l,uZ i,uZ j,uZ f])).run prog w=.ok (.bool (decide (a=p/\b=q/\c=r/\d=s) && decide (g=l/\o=i/\m=j/\n=f))) w:=by
 go_simp;rw[GL 9997,Yz];by_cases k:a=p/\b=q/\c=r/\d=s
 .rw[decide_eq_true k];simp only[Bool.true_eq_false,if_false];rw[GL 9997,Yz];by_cases e:g=l/\o=i/\m=j/\n=f
  .rw[decide_eq_true e];simp[k.1,k.2.1,k.2.2.1,k.2.2.2,e.1,e.2.1,e.2.2.1,e.2.2.2]
  .rw[decide_eq_false e];simp only[if_true,Yz];have t:(decide (g=l) && (decide (o=i) && (decide (m=j) && decide (n=f))))=false:=by simpa using e
   rw[t,Bool.and_false]
 .rw[decide_eq_false k];simp only[if_true,Yz];have t:(decide (a=p) && (decide (b=q) && (decide (c=r) && decide (d=s))))=false:=by simpa using k
  rw[t,Bool.false_and]
def eqPt(h:Fld P)(x y z t:Fin P)(w:XA):(binOp .eql 131 (pv x y) (pv z t)).run prog w=.ok (.bool (decide (x=z/\y=t))) w:=by
 refine(U3).trans ?_;simp only[A9 (h.top x) (h.top z),A9 (h.top y) (h.top t),<-yEI,Bool.decide_and]
def LD(h:Fld P){x y z t:Fin P}(e:x=z/\y=t)(w:XA):(binOp .eql 131 (pv x y) (pv z t)).run prog w=.ok tZ w:=by rw[eqPt h,decide_eq_true e]
def EK(h:Fld P){x y z t:Fin P}(e:¬(x=z/\y=t))(w:XA):(binOp .eql 131 (pv x y) (pv z t)).run prog w=.ok fZ w:=by rw[eqPt h,decide_eq_false e]
def aO:yZ 209:=yQ
def aJ:gZ 209 4:=gQ
def u85:yZ 42:=yQ
def i85:gZ 42 4:=gQ
def iO:yZ 211:=yQ
def i117:gZ 211 12:=gQ
def iQ:yZ 131:=yQ
def i109:gZ 131 8:=gQ
def u79:yZ 78:=yQ
def i79:gZ 78 4:=gQ
def aS(C:Fld P)(x y:Fin P):Gives 168 #[(fv x),(fv y)] (fv (x*y)):=by
 intro w;obtain⟨c1,d⟩:∃c,c=x*y:=⟨_,rfl⟩
 have k:((fv c1):XB)=(fv (x*y)):=by
  subst_vars;rfl
 rw[<-k];go_enter func168,ntmps168;refine RG.M.enter [(0,.v (fv x)),(1,.v (fv y))] 9 kR ?_;intro a0 f;repeat apply XG
 refine f.T [.m 0,.m 1,.m 2] [(0,ws x),(1,ws y),(2,RG.z 4)] [] [ws x,ws y,RG.z 4] [2,3,4] ⟨mk 0 209,mk 1 209,mk 2 209,yEZ⟩ ?_;intro i n m l g e;repeat apply XG
 refine e.D [.c gv0,.x (fv x),.x (fv y),.c (fv c1),.u 2] [] [(2,4,ws c1)] [ws x,ws y,ws c1] [4] ⟨cl bM,ld aO aJ,ld aO aJ,cl ((Ib C).e d),RG.pt aJ,yEZ⟩ ?_;intro a2 j b;refine Za<|XN (v:=(fv c1)) (aH b.st rfl rfl (b.at (s:=(.p 2 0))) aO aJ) b.sl.defers ?_
 exact⟨_,rfl,b.st.bel.below,rfl⟩
def Ho(C:Fld P)(x y:Fin P):Gives 170 #[(fv x),(fv y)] (fv (x+y)):=by
 intro w;obtain⟨c1,d⟩:∃c,c=x+y:=⟨_,rfl⟩
 have k:((fv c1):XB)=(fv (x+y)):=by
  subst_vars;rfl
 rw[<-k];go_enter func170,ntmps170;refine RG.M.enter [(0,.v (fv x)),(1,.v (fv y))] 9 kR ?_;intro a0 f;repeat apply XG
 refine f.T [.m 0,.m 1,.m 2] [(0,ws x),(1,ws y),(2,RG.z 4)] [] [ws x,ws y,RG.z 4] [2,3,4] ⟨mk 0 209,mk 1 209,mk 2 209,yEZ⟩ ?_;intro i n m l g e;repeat apply XG
 refine e.D [.c gv0,.x (fv x),.x (fv y),.c (fv c1),.u 2] [] [(2,4,ws c1)] [ws x,ws y,ws c1] [4] ⟨cl bM,ld aO aJ,ld aO aJ,cl ((TR C).e d),RG.pt aJ,yEZ⟩ ?_;intro a2 j b;refine Za<|XN (v:=(fv c1)) (aH b.st rfl rfl (b.at (s:=(.p 2 0))) aO aJ) b.sl.defers ?_
 exact⟨_,rfl,b.st.bel.below,rfl⟩
def fB(C:Fld P)(x y:Fin P):Gives 171 #[(fv x),(fv y)] (fv (x-y)):=by
 intro w;obtain⟨c1,d⟩:∃c,c=x-y:=⟨_,rfl⟩
 have k:((fv c1):XB)=(fv (x-y)):=by
  subst_vars;rfl
 rw[<-k];go_enter func171,ntmps171;refine RG.M.enter [(0,.v (fv x)),(1,.v (fv y))] 9 kR ?_;intro a0 f;repeat apply XG
 refine f.T [.m 0,.m 1,.m 2] [(0,ws x),(1,ws y),(2,RG.z 4)] [] [ws x,ws y,RG.z 4] [2,3,4] ⟨mk 0 209,mk 1 209,mk 2 209,yEZ⟩ ?_;intro i n m l g e;repeat apply XG
 refine e.D [.c gv0,.x (fv x),.x (fv y),.c (fv c1),.u 2] [] [(2,4,ws c1)] [ws x,ws y,ws c1] [4] ⟨cl bM,ld aO aJ,ld aO aJ,cl ((BK C).e d),RG.pt aJ,yEZ⟩ ?_;intro a2 j b;refine Za<|XN (v:=(fv c1)) (aH b.st rfl rfl (b.at (s:=(.p 2 0))) aO aJ) b.sl.defers ?_
 exact⟨_,rfl,b.st.bel.below,rfl⟩
def wS(C:Fld P)(x:Fin P):Gives 176 #[(fv x)] (fv x):=by
 intro w;go_enter func176,ntmps176;refine RG.M.enter [(0,.v (fv x))] 5 kR ?_;intro a0 c;repeat apply XG
 refine c.T [.m 0,.m 1] [(0,ws x),(1,RG.z 4)] [] [ws x,RG.z 4] [1,2] ⟨mk 0 42,mk 1 209,yEZ⟩ ?_;intro g i e d b;repeat apply XG
 refine b.T [.x (fv x),.c (fv x),.u 1] [] [(1,2,ws x)] [ws x,ws x] [2] ⟨ld u85 i85,cl (SC C (x:=x)),RG.pt aJ,yEZ⟩ ?_;intro a2 f k;refine Za<|XN (v:=(fv x)) (aH k.st (t:=2) (T:=209) rfl (b:=1) rfl (k.at (s:=(.p 1 0))) aO aJ) k.sl.defers ?_
 exact⟨_,rfl,k.st.bel.below,rfl⟩
def Fq(C:Fld P)(x:Fin P):Gives 175 #[(fv x)] (fv x):=by
 intro w;go_enter func175,ntmps175;refine RG.M.enter [(0,.v (fv x))] 5 kR ?_;intro a0 c;repeat apply XG
 refine c.T [.m 0,.m 1] [(0,ws x),(1,RG.z 4)] [] [ws x,RG.z 4] [1,2] ⟨mk 0 209,mk 1 42,yEZ⟩ ?_;intro g i e d b;repeat apply XG
 refine b.T [.x (fv x),.c (fv x),.u 1] [] [(1,2,ws x)] [ws x,ws x] [2] ⟨ld aO aJ,cl (Ki C (x:=x)),RG.pt i85,yEZ⟩ ?_;intro a2 f k;refine Za<|XN (v:=(fv x)) (aH k.st (t:=2) (T:=42) rfl (b:=1) rfl (k.at (s:=(.p 1 0))) u85 i85) k.sl.defers ?_
 exact⟨_,rfl,k.st.bel.below,rfl⟩
def fY(C:Fld P)(x:Fin P):Gives 169 #[(fv x)] (fv (dbl x)):=by
 intro w;obtain⟨c1,d⟩:∃c,c=x+x:=⟨_,rfl⟩
 have k:((fv c1):XB)=(fv (dbl x)):=by
  subst_vars;rfl
 rw[<-k];go_enter func169,ntmps169;refine RG.M.enter [(0,.v (fv x))] 6 kR ?_;intro a0 f;repeat apply XG
 refine f.T [.m 0,.m 1] [(0,ws x),(1,RG.z 4)] [] [ws x,RG.z 4] [1,2] ⟨mk 0 209,mk 1 209,yEZ⟩ ?_;intro m i j g e;repeat apply XG
 refine e.T [.x (fv x),.x (fv x),.c (fv c1),.u 1] [] [(1,3,ws c1)] [ws x,ws c1] [2] ⟨ld aO aJ,ld aO aJ,cl ((Ho C x x).e d),RG.pt aJ,yEZ⟩ ?_;intro a2 l b;refine Za<|XN (v:=(fv c1)) (aH b.st rfl rfl (b.at (s:=(.p 1 0))) aO aJ) b.sl.defers ?_
 exact⟨_,rfl,b.st.bel.below,rfl⟩
def Fz(C:Fld P)(x y z:Fin P):Gives 113 #[(rv x y z)] (rv (twX x y) (twY x y) (twZ y z)):=by
 intro w;obtain⟨c1,I⟩:∃c,c=x*x:=⟨_,rfl⟩
 obtain⟨c2,V⟩:∃c,c=y*y:=⟨_,rfl⟩
 obtain⟨T,R⟩:∃c,c=x*c2:=⟨_,rfl⟩
 obtain⟨U,J⟩:∃c,c=dbl T:=⟨_,rfl⟩
 obtain⟨e,S⟩:∃c,c=dbl U:=⟨_,rfl⟩
 obtain⟨N,Q⟩:∃c,c=dbl c1:=⟨_,rfl⟩
 obtain⟨d,L⟩:∃c,c=N+c1:=⟨_,rfl⟩
 obtain⟨M,H⟩:∃c,c=d*d:=⟨_,rfl⟩
 obtain⟨K,O⟩:∃c,c=dbl e:=⟨_,rfl⟩
 obtain⟨k,E⟩:∃c,c=M-K:=⟨_,rfl⟩
 obtain⟨o,u⟩:∃c,c=e-k:=⟨_,rfl⟩
 obtain⟨i,a⟩:∃c,c=d*o:=⟨_,rfl⟩
 obtain⟨n,A⟩:∃c,c=c2*c2:=⟨_,rfl⟩
 obtain⟨l,t⟩:∃c,c=dbl n:=⟨_,rfl⟩
 obtain⟨j,q⟩:∃c,c=dbl l:=⟨_,rfl⟩
 obtain⟨g,p⟩:∃c,c=dbl j:=⟨_,rfl⟩
 obtain⟨b,B⟩:∃c,c=i-g:=⟨_,rfl⟩
 obtain⟨m,F⟩:∃c,c=y*z:=⟨_,rfl⟩
 obtain⟨f,r⟩:∃c,c=dbl m:=⟨_,rfl⟩
 have D:((rv k b f):XB)=(rv (twX x y) (twY x y) (twZ y z)):=by
  subst_vars;rfl
 rw[<-D];go_enter func113,ntmps113;refine RG.M.enter [(0,.v (rv x y z))] 56 kR ?_;intro a0 M0;repeat apply XG
 refine M0.T [.m 0,.m 1] [(0,ws x++(ws y++(ws z))),(1,RG.z 12)] [] [ws x++(ws y++(ws z)),RG.z 12] [1,2] ⟨mk 0 211,mk 1 211,yEZ⟩ ?_;intro j1 i1 a1 w1 X;repeat apply XG
 refine X.D [.s (.p 0 0),.x (fv x),.s (.p 0 0),.x (fv x),.c (fv c1),.s (.p 0 4),.x (fv y),.s (.p 0 4),.x (fv y),.c (fv c2),.m 2,.m 3,.u 2,.u 3] [(10,RG.z 4),(11,RG.z 4)] [(2,12,ws c1),(3,13,ws c2)] [ws x++(ws y++(ws z)),RG.z 12,ws c1,ws c2] [1,2,3,4] ⟨st,ld aO aJ,st,ld aO aJ,cl ((aS C x x).e I),st,ld aO aJ,st,ld aO aJ,cl ((aS C y y).e V),mk 2 209,mk 3 209,RG.pt aJ,RG.pt aJ,yEZ⟩ ?_;intro j2 i2 a2 w2 Z;repeat apply XG
 refine Z.T [.s (.p 0 0),.x (fv x),.x (fv c2),.c (fv T),.c (fv U),.c (fv e),.m 4,.u 4] [(6,RG.z 4)] [(4,7,ws e)] [ws x++(ws y++(ws z)),RG.z 12,ws c1,ws c2,ws e] [1,2,3,4,5] ⟨st,ld aO aJ,ld aO aJ,cl ((aS C x c2).e R),cl ((fY C T).e J),cl ((fY C U).e S),mk 4 209,RG.pt aJ,yEZ⟩ ?_;intro j3 a3 w3 M3;repeat apply XG
 refine M3.D [.x (fv c1),.c (fv N),.x (fv c1),.c (fv d),.m 5,.u 5] [(4,RG.z 4)] [(5,5,ws d)] [ws x++(ws y++(ws z)),RG.z 12,ws c1,ws c2,ws e,ws d] [1,2,4,5,6] ⟨ld aO aJ,cl ((fY C c1).e Q),ld aO aJ,cl ((Ho C N c1).e L),mk 5 209,RG.pt aJ,yEZ⟩ ?_;intro j4 a4 w4 W;repeat apply XG
 refine W.D [.x (fv d),.x (fv d),.c (fv M),.x (fv e),.c (fv K),.c (fv k),.m 6,.u 6] [(6,RG.z 4)] [(6,7,ws k)] [ws x++(ws y++(ws z)),RG.z 12,ws c1,ws c2,ws e,ws d,ws k] [1,2,4,5,6,7] ⟨ld aO aJ,ld aO aJ,cl ((aS C d d).e H),ld aO aJ,cl ((fY C e).e O),cl ((fB C M K).e E),mk 6 209,RG.pt aJ,yEZ⟩ ?_;intro j5 a5 w5 M5;repeat apply XG
 refine M5.D [.x (fv d),.x (fv e),.x (fv k),.c (fv o),.c (fv i),.x (fv c2),.x (fv c2),.c (fv n),.c (fv l),.c (fv j),.c (fv g),.c (fv b),.m 7,.u 7] [(12,RG.z 4)] [(7,13,ws b)] [ws x++(ws y++(ws z)),RG.z 12,ws c1,ws c2,ws e,ws d,ws k,ws b] [1,2,7,8] ⟨ld aO aJ,ld aO aJ,ld aO aJ,cl ((fB C e k).e u),cl ((aS C d o).e a),ld aO aJ,ld aO aJ,cl ((aS C c2 c2).e A),cl ((fY C n).e t),cl ((fY C l).e q),cl ((fY C j).e p),cl ((fB C i g).e B),mk 7 209,RG.pt aJ,yEZ⟩ ?_;intro j6 a6 w6 Y;repeat apply XG
 refine Y.D [.x (fv k),.x (fv b),.s (.p 0 4),.x (fv y),.s (.p 0 8),.x (fv z),.c (fv m),.c (fv f),.x (rv k b f),.u 1] [] [(1,9,ws k++(ws b++(ws f)))] [ws x++(ws y++(ws z)),ws k++(ws b++(ws f)),ws c1,ws c2,ws e,ws d,ws k,ws b] [2] ⟨ld aO aJ,ld aO aJ,st,ld aO aJ,st,ld aO aJ,cl ((aS C y z).e F),cl ((fY C m).e r),st,RG.pt i117,yEZ⟩ ?_;intro a7 w7 G;refine Za<|XN (v:=(rv k b f)) (aH G.st rfl rfl (G.at (s:=(.p 1 0))) iO i117) G.sl.defers ?_
 exact⟨_,rfl,G.st.bel.below,rfl⟩
def Ek(C:Fld P)(x y z:Fin P):Gives 173 #[(rv x y z)] (rv x (0-y) z):=by
 intro w;obtain⟨c1,d⟩:∃c,c=(0:Fin P)-y:=⟨_,rfl⟩
 have k:((rv x c1 z):XB)=(rv x (0-y) z):=by
  subst_vars;rfl
 rw[<-k];go_enter func173,ntmps173;refine RG.M.enter [(0,.v (rv x y z))] 12 kR ?_;intro a0 f;repeat apply XG
 refine f.T [.m 0,.m 1] [(0,ws x++(ws y++(ws z))),(1,RG.z 12)] [] [ws x++(ws y++(ws z)),RG.z 12] [1,2] ⟨mk 0 211,mk 1 211,yEZ⟩ ?_;intro i m l g e;repeat apply XG
 refine e.D [.s (.p 0 0),.x (fv x),.x (fv (0:Fin P)),.s (.p 0 4),.x (fv y),.c (fv c1),.s (.p 0 8),.x (fv z),.x (rv x c1 z),.u 1] [] [(1,9,ws x++(ws c1++(ws z)))] [ws x++(ws y++(ws z)),ws x++(ws c1++(ws z))] [2] ⟨st,ld aO aJ,se (mA (P:=P)),st,ld aO aJ,cl ((fB C (0:Fin P) y).e d),st,ld aO aJ,st,RG.pt i117,yEZ⟩ ?_;intro a2 j b;refine Za<|XN (v:=(rv x c1 z)) (aH b.st rfl rfl (b.at (s:=(.p 1 0))) iO i117) b.sl.defers ?_
 exact⟨_,rfl,b.st.bel.below,rfl⟩
def N4(C:Fld P)(x y z:Fin P):Gives 116 #[(rv x y z)] (pv (x*(inv z*inv z)) (y*(inv z*inv z)*inv z)):=by
 intro w;obtain⟨c1,f⟩:∃c,c=inv z:=⟨_,rfl⟩
 obtain⟨c2,m⟩:∃c,c=c1*c1:=⟨_,rfl⟩
 obtain⟨b,i⟩:∃c,c=x*c2:=⟨_,rfl⟩
 obtain⟨l,g⟩:∃c,c=y*c2:=⟨_,rfl⟩
 obtain⟨k,j⟩:∃c,c=l*c1:=⟨_,rfl⟩
 have d:((pv b k):XB)=(pv (x*(inv z*inv z)) (y*(inv z*inv z)*inv z)):=by
  subst_vars;rfl
 rw[<-d];go_enter func116,ntmps116;refine RG.M.enter [(0,.v (rv x y z))] 27 kR ?_;intro a0 p;repeat apply XG
 refine p.T [.m 0,.m 1] [(0,ws x++(ws y++(ws z))),(1,RG.z 8)] [] [ws x++(ws y++(ws z)),RG.z 8] [1,2] ⟨mk 0 211,mk 1 131,yEZ⟩ ?_;intro a H E r n;repeat apply XG
 refine n.D [.c gv0,.s (.p 0 8),.x (fv z),.c (fv z),.c (fv c1),.c (fv c1),.m 2,.u 2] [(6,RG.z 4)] [(2,7,ws c1)] [ws x++(ws y++(ws z)),RG.z 8,ws c1] [1,2,3] ⟨cl bM,st,ld aO aJ,cl (Fq C z),cl ((I4 C).e f),cl (wS C c1),mk 2 209,RG.pt aJ,yEZ⟩ ?_;intro G a2 B o;repeat apply XG
 refine o.T [.x (fv c1),.x (fv c1),.c (fv c2),.m 3,.u 3] [(3,RG.z 4)] [(3,4,ws c2)] [ws x++(ws y++(ws z)),RG.z 8,ws c1,ws c2] [1,2,3,4] ⟨ld aO aJ,ld aO aJ,cl ((aS C c1 c1).e m),mk 3 209,RG.pt aJ,yEZ⟩ ?_;intro D t u q;repeat apply XG
 refine q.D [.s (.p 0 0),.x (fv x),.x (fv c2),.c (fv b),.c (fv b),.s (.p 0 4),.x (fv y),.x (fv c2),.c (fv l),.x (fv c1),.c (fv k),.c (fv k),.x (pv b k),.u 1] [] [(1,13,ws b++(ws k))] [ws x++(ws y++(ws z)),ws b++(ws k),ws c1,ws c2] [2] ⟨st,ld aO aJ,ld aO aJ,cl ((aS C x c2).e i),cl (Fq C b),st,ld aO aJ,ld aO aJ,cl ((aS C y c2).e g),ld aO aJ,cl ((aS C l c1).e j),cl (Fq C k),st,RG.pt i109,yEZ⟩ ?_;intro F A e;refine Za<|XN (v:=(pv b k)) (aH e.st rfl rfl (e.at (s:=(.p 1 0))) iQ i109) e.sl.defers ?_
 exact⟨_,rfl,e.st.bel.below,rfl⟩
def uS(C:Fld P)(x y z:Fin P)(c:z=0):Gives 172 #[(rv x y z)] tZ:=by
 intro w;go_enter func172,ntmps172;refine RG.M.enter [(0,.v (rv x y z))] 7 kR ?_;intro a0 d;repeat apply XG
 refine d.T [.m 0,.x fZ] [(0,ws x++(ws y++(ws z)))] [] [ws x++(ws y++(ws z))] [1,2] ⟨mk 0 211,st,yEZ⟩ ?_;intro i f e b;repeat apply XG
 refine b.U [.s (.p 0 8),.x (fv z),.x (fv (0:Fin P)),.x tZ,.x tZ] [2] ⟨st,ld aO aJ,se (mA (P:=P)),aX rfl .eql 209 rfl rfl sx sx (λw=>kR) (GM C c),st,yEZ⟩ ?_;intro a2 g k;refine Za<|XN (v:=tZ) (jH rfl (k.at (s:=(.v tZ)))) k.sl.defers ?_
 exact⟨_,rfl,k.st.bel.below,rfl⟩
def uU(C:Fld P)(x y z:Fin P)(c:¬z=0):Gives 172 #[(rv x y z)] fZ:=by
 intro w;go_enter func172,ntmps172;refine RG.M.enter [(0,.v (rv x y z))] 7 kR ?_;intro a0 d;repeat apply XG
 refine d.T [.m 0,.x fZ] [(0,ws x++(ws y++(ws z)))] [] [ws x++(ws y++(ws z))] [1,2] ⟨mk 0 211,st,yEZ⟩ ?_;intro i f e b;repeat apply XG
 refine b.U [.s (.p 0 8),.x (fv z),.x (fv (0:Fin P)),.x fZ,.x fZ] [2] ⟨st,ld aO aJ,se (mA (P:=P)),aX rfl .eql 209 rfl rfl sx sx (λw=>kR) (LH C c),st,yEZ⟩ ?_;intro a2 g k;refine Za<|XN (v:=fZ) (jH rfl (k.at (s:=(.v fZ)))) k.sl.defers ?_
 exact⟨_,rfl,k.st.bel.below,rfl⟩
def H6(C:Fld P)(x y:Fin P)(d:x=0/\y=0):Gives 167 #[(pv x y)] (rv (0:Fin P) 0 0):=by
 intro w;have k:((rv (0:Fin P) (0:Fin P) (0:Fin P)):XB)=(rv (0:Fin P) 0 0):=by
  subst_vars;rfl
 rw[<-k];go_enter func167,ntmps167;refine RG.M.enter [(0,.v (pv x y))] 16 kR ?_;intro a0 f;repeat apply XG
 refine f.T [.m 0,.m 1] [(0,ws x++(ws y)),(1,RG.z 12)] [] [ws x++(ws y),RG.z 12] [1,2] ⟨mk 0 131,mk 1 211,yEZ⟩ ?_;intro l o n g e;repeat apply XG
 refine e.U [.x (pv x y),.x (pv (0:Fin P) (0:Fin P)),.x tZ] [2,5] ⟨ld iQ i109,se (iE (P:=P)),aX rfl .eql 131 rfl rfl sx sx (λw=>kR) (LD C d),yEZ⟩ ?_;intro a2 m c;repeat apply XG
 refine Yy c.ev ?_;repeat apply XG
 refine c.T [.x (rv (0:Fin P) (0:Fin P) (0:Fin P)),.u 1] [] [(1,1,ws (0:Fin P)++(ws (0:Fin P)++(ws (0:Fin P))))] [ws x++(ws y),ws (0:Fin P)++(ws (0:Fin P)++(ws (0:Fin P)))] [2] ⟨se (MM (P:=P)),RG.pt i117,yEZ⟩ ?_;intro i j b;refine Za<|XN (v:=(rv (0:Fin P) (0:Fin P) (0:Fin P))) (aH b.st rfl rfl (b.at (s:=(.p 1 0))) iO i117) b.sl.defers ?_
 exact⟨_,rfl,b.st.bel.below,rfl⟩
def H8(C:Fld P)(x y:Fin P)(d:¬(x=0/\y=0)):Gives 167 #[(pv x y)] (rv x y 1):=by
 intro w;have k:((rv x y (1:Fin P)):XB)=(rv x y 1):=by
  subst_vars;rfl
 rw[<-k];go_enter func167,ntmps167;refine RG.M.enter [(0,.v (pv x y))] 16 kR ?_;intro a0 f;repeat apply XG
 refine f.T [.m 0,.m 1] [(0,ws x++(ws y)),(1,RG.z 12)] [] [ws x++(ws y),RG.z 12] [1,2] ⟨mk 0 131,mk 1 211,yEZ⟩ ?_;intro l o n g e;repeat apply XG
 refine e.U [.x (pv x y),.x (pv (0:Fin P) (0:Fin P)),.x fZ] [1,2,5] ⟨ld iQ i109,se (iE (P:=P)),aX rfl .eql 131 rfl rfl sx sx (λw=>kR) (EK C d),yEZ⟩ ?_;intro a2 m c;repeat apply XG
 refine Yb c.ev ?_;apply YU;repeat apply XG
 refine c.D [.s (.p 0 0),.x (fv x),.c (fv x),.s (.p 0 4),.x (fv y),.c (fv y),.x (fv (1:Fin P)),.c (fv (1:Fin P)),.x (rv x y (1:Fin P)),.u 1] [] [(1,9,ws x++(ws y++(ws (1:Fin P))))] [ws x++(ws y),ws x++(ws y++(ws (1:Fin P)))] [2] ⟨st,ld u85 i85,cl (wS C x),st,ld u85 i85,cl (wS C y),se (RI C),cl (wS C (1:Fin P)),st,RG.pt i117,yEZ⟩ ?_;intro i j b;refine Za<|XN (v:=(rv x y (1:Fin P))) (aH b.st rfl rfl (b.at (s:=(.p 1 0))) iO i117) b.sl.defers ?_
 exact⟨_,rfl,b.st.bel.below,rfl⟩
def Ig(C:Fld P)(f e k i j b:Fin P)(R:XB)(ha:k=0->R=rv i j b)(hb:¬k=0->b=0->R=rv f e k)(hc:¬k=0->¬b=0->cN f b=cN i k/\eM e b=eM j k->R=rv (twX f e) (twY f e) (twZ e k))(hd:¬k=0->¬b=0->¬(cN f b=cN i k/\eM e b=eM j k)->R=rv (plX (cN f b) (eM e b) (cN i k) (eM j k)) (plY (cN f b) (eM e b) (cN i k) (eM j k)) (plZ k b (cN f b) (cN i k))):Gives 114 #[(rv f e k),(rv i j b)] R:=by
 intro w;obtain⟨c1,h4⟩:∃c,c=k*k:=⟨_,rfl⟩
 obtain⟨c2,hk⟩:∃c,c=b*b:=⟨_,rfl⟩
 obtain⟨p,hi⟩:∃c,c=f*c2:=⟨_,rfl⟩
 obtain⟨t,h6⟩:∃c,c=i*c1:=⟨_,rfl⟩
 obtain⟨c5,h8⟩:∃c,c=e*c2:=⟨_,rfl⟩
 obtain⟨r,h5⟩:∃c,c=c5*b:=⟨_,rfl⟩
 obtain⟨c7,h7⟩:∃c,c=j*c1:=⟨_,rfl⟩
 obtain⟨u,he⟩:∃c,c=c7*k:=⟨_,rfl⟩
 go_enter func114,ntmps114;refine RG.M.enter [(0,.v (rv f e k)),(1,.v (rv i j b))] 108 kR ?_;intro a0 M0;repeat refine XG ?_
 refine M0.T [.m 0,.m 1,.m 2] [(0,ws f++(ws e++(ws k))),(1,ws i++(ws j++(ws b))),(2,RG.z 12)] [] [ws f++(ws e++(ws k)),ws i++(ws j++(ws b)),RG.z 12] [2,3,4] ⟨mk 0 211,mk 1 211,mk 2 211,yEZ⟩ ?_;intro j1 i1 m1 a1 w1 M1;repeat refine XG ?_
 by_cases y:k=0
 .obtain rfl:=ha y;refine M1.U [.x (rv f e k),.c (.bool true)] [3,4,19] ⟨ld iO i117,cl (uS C f e k y),yEZ⟩ ?_;intro a2 w2 Q;repeat refine XG ?_
  refine Yy Q.ev ?_;repeat refine XG ?_
  refine Q.T [.x (rv i j b),.u 2] [] [(2,1,ws i++(ws j++(ws b)))] [ws f++(ws e++(ws k)),ws i++(ws j++(ws b)),ws i++(ws j++(ws b))] [4] ⟨ld iO i117,RG.pt i117,yEZ⟩ ?_;intro a3 w3 B;refine Za<|XN (v:=(rv i j b)) (aH B.st (t:=4) (T:=211) rfl (b:=2) rfl (B.at (s:=(.p 2 0))) iO i117) B.sl.defers ?_
  exact⟨_,rfl,B.st.bel.below,rfl⟩
 refine M1.U [.x (rv f e k),.c (.bool false)] [2,3,4,19] ⟨ld iO i117,cl (uU C f e k y),yEZ⟩ ?_;intro a2 w2 Q;repeat refine XG ?_
 refine Yb Q.ev ?_;refine YU ?_;repeat refine XG ?_
 by_cases a:b=0
 .obtain rfl:=hb y a;refine Q.U [.x (rv i j b),.c (.bool true)] [2,4,22] ⟨ld iO i117,cl (uS C i j b a),yEZ⟩ ?_;intro a3 w3 B;repeat refine XG ?_
  refine Yy B.ev ?_;repeat refine XG ?_
  refine B.T [.x (rv f e k),.u 2] [] [(2,1,ws f++(ws e++(ws k)))] [ws f++(ws e++(ws k)),ws i++(ws j++(ws b)),ws f++(ws e++(ws k))] [4] ⟨ld iO i117,RG.pt i117,yEZ⟩ ?_;intro a4 w4 N;refine Za<|XN (v:=(rv f e k)) (aH N.st (t:=4) (T:=211) rfl (b:=2) rfl (N.at (s:=(.p 2 0))) iO i117) N.sl.defers ?_
  exact⟨_,rfl,N.st.bel.below,rfl⟩
 refine Q.U [.x (rv i j b),.c (.bool false)] [2,3,4,22] ⟨ld iO i117,cl (uU C i j b a),yEZ⟩ ?_;intro a3 w3 B;repeat refine XG ?_
 refine Yb B.ev ?_;refine YU ?_;repeat refine XG ?_
 refine B.D [.s (.p 0 8),.x (fv k),.s (.p 0 8),.x (fv k),.c (fv c1),.s (.p 1 8),.x (fv b),.s (.p 1 8),.x (fv b),.c (fv c2),.m 3,.m 4,.u 3,.u 4] [(10,RG.z 4),(11,RG.z 4)] [(3,12,ws c1),(4,13,ws c2)] [ws f++(ws e++(ws k)),ws i++(ws j++(ws b)),RG.z 12,ws c1,ws c2] [2,3,4,5,6] ⟨st,ld aO aJ,st,ld aO aJ,cl ((aS C k k).e h4),st,ld aO aJ,st,ld aO aJ,cl ((aS C b b).e hk),mk 3 209,mk 4 209,RG.pt aJ,RG.pt aJ,yEZ⟩ ?_;intro j4 i4 a4 w4 N;repeat refine XG ?_
 refine N.D [.s (.p 0 0),.x (fv f),.x (fv c2),.c (fv p),.s (.p 1 0),.x (fv i),.x (fv c1),.c (fv t),.m 5,.m 6,.u 5,.u 6] [(8,RG.z 4),(9,RG.z 4)] [(5,10,ws p),(6,11,ws t)] [ws f++(ws e++(ws k)),ws i++(ws j++(ws b)),RG.z 12,ws c1,ws c2,ws p,ws t] [2,3,4,5,6,7,8] ⟨st,ld aO aJ,ld aO aJ,cl ((aS C f c2).e hi),st,ld aO aJ,ld aO aJ,cl ((aS C i c1).e h6),mk 5 209,mk 6 209,RG.pt aJ,RG.pt aJ,yEZ⟩ ?_;intro j5 i5 a5 w5 M5;repeat refine XG ?_
 refine M5.D [.s (.p 0 4),.x (fv e),.x (fv c2),.c (fv c5),.s (.p 1 8),.x (fv b),.c (fv r),.s (.p 1 4),.x (fv j),.x (fv c1),.c (fv c7),.s (.p 0 8),.x (fv k),.c (fv u),.m 7,.m 8,.u 7,.u 8] [(14,RG.z 4),(15,RG.z 4)] [(7,16,ws r),(8,17,ws u)] [ws f++(ws e++(ws k)),ws i++(ws j++(ws b)),RG.z 12,ws c1,ws c2,ws p,ws t,ws r,ws u] [2,3,4,7,8,9,10] ⟨st,ld aO aJ,ld aO aJ,cl ((aS C e c2).e h8),st,ld aO aJ,cl ((aS C c5 b).e h5),st,ld aO aJ,ld aO aJ,cl ((aS C j c1).e h7),st,ld aO aJ,cl ((aS C c7 k).e he),mk 7 209,mk 8 209,RG.pt aJ,RG.pt aJ,yEZ⟩ ?_;intro j6 i6 a6 w6 M6;repeat refine XG ?_
 by_cases E:cN f b=cN i k/\eM e b=eM j k
 .have hR:=hc y a E;obtain⟨hx,D⟩:=E;obtain⟨m,H⟩:∃c,c=twX f e:=⟨_,rfl⟩
  obtain⟨d,A⟩:∃c,c=twY f e:=⟨_,rfl⟩
  obtain⟨g,z⟩:∃c,c=twZ e k:=⟨_,rfl⟩
  obtain rfl:R=rv m d g:=hR.trans (by subst_vars;rfl);refine M6.U [.x (fv p),.x (fv t),.x (.bool true),.x (.bool true),.x (fv r),.x (fv u),.x (.bool true),.x (.bool true)] [2,4,63] ⟨ld aO aJ,ld aO aJ,aX rfl .eql (T:=209) 209 (t1:=56) (t2:=57) (v1:=(fv p)) (v2:=(fv t)) (v:=(.bool true)) rfl rfl sx sx (λw=>kR) (GM C (by subst_vars;exact hx)),st,ld aO aJ,ld aO aJ,aX rfl .eql (T:=209) 209 (t1:=60) (t2:=61) (v1:=(fv r)) (v2:=(fv u)) (v:=(.bool true)) rfl rfl sx sx (λw=>kR) (GM C (by subst_vars;exact D)),st,yEZ⟩ ?_;intro a7 w7 M7;repeat refine XG ?_
  refine Yy M7.ev ?_;repeat refine XG ?_
  refine M7.T [.x (rv f e k),.c (rv m d g),.u 2] [] [(2,2,ws m++(ws d++(ws g)))] [ws f++(ws e++(ws k)),ws i++(ws j++(ws b)),ws m++(ws d++(ws g)),ws c1,ws c2,ws p,ws t,ws r,ws u] [4] ⟨ld iO i117,cl ((Fz C f e k).e3 H A z),RG.pt i117,yEZ⟩ ?_;intro a8 w8 O;refine Za<|XN (v:=(rv m d g)) (aH O.st (t:=4) (T:=211) rfl (b:=2) rfl (O.at (s:=(.p 2 0))) iO i117) O.sl.defers ?_
  exact⟨_,rfl,O.st.bel.below,rfl⟩
 have hR:=hd y a E;obtain⟨m,H⟩:∃c,c=t-p:=⟨_,rfl⟩
 obtain⟨d,A⟩:∃c,c=u-r:=⟨_,rfl⟩
 obtain⟨g,z⟩:∃c,c=m*m:=⟨_,rfl⟩
 obtain⟨o,W⟩:∃c,c=g*m:=⟨_,rfl⟩
 obtain⟨n,T⟩:∃c,c=g*p:=⟨_,rfl⟩
 obtain⟨G,h2⟩:∃c,c=d*d:=⟨_,rfl⟩
 obtain⟨F,h0⟩:∃c,c=G-o:=⟨_,rfl⟩
 obtain⟨L,U⟩:∃c,c=dbl n:=⟨_,rfl⟩
 obtain⟨l,X⟩:∃c,c=F-L:=⟨_,rfl⟩
 obtain⟨M,Y⟩:∃c,c=n-l:=⟨_,rfl⟩
 obtain⟨K,h1⟩:∃c,c=d*M:=⟨_,rfl⟩
 obtain⟨I,S⟩:∃c,c=o*r:=⟨_,rfl⟩
 obtain⟨q,Z⟩:∃c,c=K-I:=⟨_,rfl⟩
 obtain⟨J,h3⟩:∃c,c=k*b:=⟨_,rfl⟩
 obtain⟨x,V⟩:∃c,c=J*m:=⟨_,rfl⟩
 obtain rfl:R=rv l q x:=hR.trans (by subst_vars;rfl);by_cases hx:cN f b=cN i k
 case' pos =>
  have D:¬eM e b=eM j k:=λh=>E ⟨hx,h⟩
  refine M6.U [.x (fv p),.x (fv t),.x (.bool true),.x (.bool true),.x (fv r),.x (fv u),.x (.bool false),.x (.bool false)] [2,3,4,7,8,9,10,63] ⟨ld aO aJ,ld aO aJ,aX rfl .eql (T:=209) 209 (t1:=56) (t2:=57) (v1:=(fv p)) (v2:=(fv t)) (v:=(.bool true)) rfl rfl sx sx (λw=>kR) (GM C (by subst_vars;exact hx)),st,ld aO aJ,ld aO aJ,aX rfl .eql (T:=209) 209 (t1:=60) (t2:=61) (v1:=(fv r)) (v2:=(fv u)) (v:=(.bool false)) rfl rfl sx sx (λw=>kR) (LH C (by subst_vars;exact D)),st,yEZ⟩ ?_
 case' neg =>
  refine M6.u [.x 56 [] (fv p),.x 57 [] (fv t),.x 58 [(56,0),(57,1)] (.bool false),.x 59 [(58,2)] (.bool false),⟨some 60,[],.v Zs,.pass⟩,⟨some 61,[],.v Zs,.pass⟩,⟨some 62,[],.v Zs,.pass⟩,.x 63 [(59,3),(62,6)] (.bool false)] [(2,.p 0 0),(3,.p 1 0),(4,.p 2 0),(7,.p 5 0),(8,.p 6 0),(9,.p 7 0),(10,.p 8 0),(63,.v (.bool false))] ⟨ld aO aJ,ld aO aJ,aX rfl .eql (T:=209) 209 (t1:=56) (t2:=57) (v1:=(fv p)) (v2:=(fv t)) (v:=(.bool false)) rfl rfl sx sx (λw=>kR) (LH C (by subst_vars;exact hx)),st,dA rfl rfl,dA rfl rfl,dA rfl rfl,st,yEZ⟩ ?_
 all_goals
  intro a7 w7 M7;repeat refine XG ?_
  refine Yb M7.ev ?_;refine YU ?_;repeat refine XG ?_
  refine M7.D [.x (fv t),.x (fv p),.c (fv m),.x (fv u),.x (fv r),.c (fv d),.m 9,.m 10,.u 9,.u 10] [(6,RG.z 4),(7,RG.z 4)] [(9,8,ws m),(10,9,ws d)] [ws f++(ws e++(ws k)),ws i++(ws j++(ws b)),RG.z 12,ws c1,ws c2,ws p,ws t,ws r,ws u,ws m,ws d] [2,3,4,7,9,11,12] ⟨ld aO aJ,ld aO aJ,cl ((fB C t p).e H),ld aO aJ,ld aO aJ,cl ((fB C u r).e A),mk 9 209,mk 10 209,RG.pt aJ,RG.pt aJ,yEZ⟩ ?_;intro j8 i8 a8 w8 O;repeat refine XG ?_
  refine O.T [.x (fv m),.x (fv m),.c (fv g),.m 11,.u 11] [(3,RG.z 4)] [(11,4,ws g)] [ws f++(ws e++(ws k)),ws i++(ws j++(ws b)),RG.z 12,ws c1,ws c2,ws p,ws t,ws r,ws u,ws m,ws d,ws g] [2,3,4,7,9,11,12,13] ⟨ld aO aJ,ld aO aJ,cl ((aS C m m).e z),mk 11 209,RG.pt aJ,yEZ⟩ ?_;intro j9 a9 w9 M9;repeat refine XG ?_
  refine M9.D [.x (fv g),.x (fv m),.c (fv o),.x (fv g),.x (fv p),.c (fv n),.m 12,.m 13,.u 12,.u 13] [(6,RG.z 4),(7,RG.z 4)] [(12,8,ws o),(13,9,ws n)] [ws f++(ws e++(ws k)),ws i++(ws j++(ws b)),RG.z 12,ws c1,ws c2,ws p,ws t,ws r,ws u,ws m,ws d,ws g,ws o,ws n] [2,3,4,9,11,12,14,15] ⟨ld aO aJ,ld aO aJ,cl ((aS C g m).e W),ld aO aJ,ld aO aJ,cl ((aS C g p).e T),mk 12 209,mk 13 209,RG.pt aJ,RG.pt aJ,yEZ⟩ ?_;intro hn hq hl hp h9;repeat refine XG ?_
  refine h9.D [.x (fv d),.x (fv d),.c (fv G),.x (fv o),.c (fv F),.x (fv n),.c (fv L),.c (fv l),.m 14,.u 14] [(8,RG.z 4)] [(14,9,ws l)] [ws f++(ws e++(ws k)),ws i++(ws j++(ws b)),RG.z 12,ws c1,ws c2,ws p,ws t,ws r,ws u,ws m,ws d,ws g,ws o,ws n,ws l] [2,3,4,9,11,12,14,15,16] ⟨ld aO aJ,ld aO aJ,cl ((aS C d d).e h2),ld aO aJ,cl ((fB C G o).e h0),ld aO aJ,cl ((fY C n).e U),cl ((fB C F L).e X),mk 14 209,RG.pt aJ,yEZ⟩ ?_;intro hu hw hr hg;repeat refine XG ?_
  refine hg.D [.x (fv d),.x (fv n),.x (fv l),.c (fv M),.c (fv K),.x (fv o),.x (fv r),.c (fv I),.c (fv q),.m 15,.u 15] [(9,RG.z 4)] [(15,10,ws q)] [ws f++(ws e++(ws k)),ws i++(ws j++(ws b)),RG.z 12,ws c1,ws c2,ws p,ws t,ws r,ws u,ws m,ws d,ws g,ws o,ws n,ws l,ws q] [2,3,4,11,16,17] ⟨ld aO aJ,ld aO aJ,ld aO aJ,cl ((fB C n l).e Y),cl ((aS C d M).e h1),ld aO aJ,ld aO aJ,cl ((aS C o r).e S),cl ((fB C K I).e Z),mk 15 209,RG.pt aJ,yEZ⟩ ?_;intro hs hm ht hj;repeat refine XG ?_
  refine hj.D [.x (fv l),.x (fv q),.s (.p 0 8),.x (fv k),.s (.p 1 8),.x (fv b),.c (fv J),.x (fv m),.c (fv x),.x (rv l q x),.u 2] [] [(2,10,ws l++(ws q++(ws x)))] [ws f++(ws e++(ws k)),ws i++(ws j++(ws b)),ws l++(ws q++(ws x)),ws c1,ws c2,ws p,ws t,ws r,ws u,ws m,ws d,ws g,ws o,ws n,ws l,ws q] [4] ⟨ld aO aJ,ld aO aJ,st,ld aO aJ,st,ld aO aJ,cl ((aS C k b).e h3),ld aO aJ,cl ((aS C J m).e V),st,RG.pt i117,yEZ⟩ ?_;intro k0 hz D;refine Za<|XN (v:=(rv l q x)) (aH D.st (t:=4) (T:=211) rfl (b:=2) rfl (D.at (s:=(.p 2 0))) iO i117) D.sl.defers ?_
  exact⟨_,rfl,D.st.bel.below,rfl⟩
abbrev T3(P:Nat):=Fin P × Fin P × Fin P
abbrev tv(t:T3 P):XB:=rv t.1 t.2.1 t.2.2
abbrev tw(t:T3 P):List XB:=ws t.1++(ws t.2.1++ws t.2.2)
def JacT(t:T3 P)(p:EC.Pt P):Prop:=Jac t.1 t.2.1 t.2.2 p/\On p
def twJ(t:T3 P):T3 P:=(twX t.1 t.2.1,twY t.1 t.2.1,twZ t.2.1 t.2.2)
def plJ(a b:T3 P):T3 P:=
 if a.2.2=0 then b else if b.2.2=0 then a else
 if cN a.1 b.2.2=cN b.1 a.2.2/\eM a.2.1 b.2.2=eM b.2.1 a.2.2 then twJ a else
 (plX (cN a.1 b.2.2) (eM a.2.1 b.2.2) (cN b.1 a.2.2) (eM b.2.1 a.2.2),plY (cN a.1 b.2.2) (eM a.2.1 b.2.2) (cN b.1 a.2.2) (eM b.2.1 a.2.2),plZ a.2.2 b.2.2 (cN a.1 b.2.2) (cN b.1 a.2.2))
def opJ(t:T3 P):T3 P:=(t.1,0-t.2.1,t.2.2)
def raJ(x y:Fin P):T3 P:=if x=0/\y=0 then(0,0,0) else(x,y,1)
def Pr(C:Fld P)(t:T3 P):Gives 113 #[tv t] (tv (twJ t)):=Fz C t.1 t.2.1 t.2.2
def PD(C:Fld P)(a b:T3 P):Gives 114 #[tv a,tv b] (tv (plJ a b)):=by
 obtain⟨e,i,d⟩:=a;obtain⟨j,g,f⟩:=b;exact Ig C e i d j g f _ (λh=>by unfold plJ;rw[yEX h]) (λk c=>by unfold plJ;rw[yEY k,yEX c]) (λk c h=>by unfold plJ;rw[yEY k,yEY c,yEX h];rfl) (λk c h=>by unfold plJ;rw[yEY k,yEY c,yEY h])
def Up(C:Fld P)(t:T3 P):Gives 173 #[tv t] (tv (opJ t)):=Ek C t.1 t.2.1 t.2.2
def Ud{x y:Fin P}(C:Fld P):Gives 167 #[pv x y] (tv (raJ x y)):=by
 unfold raJ;by_cases k:x=0/\y=0
 .rw[yEX k];exact H6 C x y k
 .rw[yEY k];exact H8 C x y k
def Uf(C:Fld P)(t:T3 P):Gives 116 #[tv t] (pv (t.1*(inv t.2.2*inv t.2.2)) (t.2.1*(inv t.2.2*inv t.2.2)*inv t.2.2)):=N4 C t.1 t.2.1 t.2.2
def JacT.twice(C:Fld P){t:T3 P}{p:EC.Pt P}(h:JacT t p):JacT (twJ t) (EC.add p p):=⟨h.1.twice C.cur h.2,C.cur.on h.2 h.2⟩
def JacT.plus(C:Fld P){a b:T3 P}{p q:EC.Pt P}(h:JacT a p)(k:JacT b q):JacT (plJ a b) (EC.add p q):=by
 refine⟨?_,C.cur.on h.2 k.2⟩;obtain⟨n,l,g⟩:=a;obtain⟨j,m,i⟩:=b;unfold plJ;by_cases d:g=0
 .rw[yEX d];obtain rfl:=h.1.zero C.cur d;exact k.1
 .rw[yEY d];by_cases c:i=0
  .rw[yEX c];obtain rfl:=k.1.zero C.cur c;rw[bK];exact h.1
  .rw[yEY c];rcases h.1.plus C.cur h.2 k.1 k.2 d c with⟨e,f,e3⟩|⟨e,f⟩
   .rw[yEX ⟨e,f⟩,e3];exact h.1.twice C.cur h.2
   .rw[yEY e];exact f
def JacT.neg{t:T3 P}{p:EC.Pt P}(h:JacT t p):JacT (opJ t) (neg p):=⟨h.1.neg,cD h.2⟩
def Py(C:Fld P){x y:Fin P}{p:EC.Pt P}(h:Pair x y p)(b:On p):JacT (raJ x y) p:=by
 refine⟨?_,b⟩;unfold raJ;by_cases k:x=0/\y=0
 .obtain rfl:=h.nothing C.cur b k;rw[yEX k];rfl
 .rw[yEY k];exact h.jac C.cur k
def JacT.pair(C:Fld P){t:T3 P}{p:EC.Pt P}(h:JacT t p):Pair (t.1*(inv t.2.2*inv t.2.2)) (t.2.1*(inv t.2.2*inv t.2.2)*inv t.2.2) p:=h.1.pair C.cur
def JacT.none:JacT ((0,0,0):T3 P) .none:=⟨rfl,jB⟩
namespace DG
def nE(d:Nat->Int):Nat->Int
 | 0=>0
 | k+1=>nE d k+d k*2^k
def upd(d:Nat->Int)(i:Nat)(v:Int):Nat->Int:=λj=>if j=i then v else d j
def yX{d e:Nat->Int}:∀k,(∀j,j<k->d j=e j)->nE d k=nE e k
 | 0,_=>rfl
 | k+1,h=>by
  show nE d k+d k*2^k=nE e k+e k*2^k;rw[yX k λj b=>h j oM,h k oM]
def yW{i:Nat}{d:Nat->Int}(h:∀j,i<=j->d j=0):∀k,nE d (i+k)=nE d i
 | 0=>rfl
 | k+1=>by
  show nE d (i+k)+d (i+k)*2^(i+k)=_;rw[h (i+k) oM,yCh,yCx,yW h k]
def upd_same(d:Nat->Int)(i:Nat)(v:Int):upd d i v i=v:=yEX rfl
def jG{d:Nat->Int}{i j:Nat}{v:Int}(h:j≠i):upd d i v j=d j:=yEY h
def LK{i:Nat}{v:Int}{d:Nat->Int}(h:∀j,i<=j->d j=0)(k:Nat):nE (upd d i v) (i+1+k)=nE d i+v*2^i:=by
 rw[yW (i:=(i+1)) (λj b=>by rw[jG oM];exact h j oM) k];show nE (upd d i v) i+upd d i v i*2^i=_;rw[upd_same,yX i λj b=>jG oM]
structure DI(n:Nat)(d:Nat->Int)(i c:Nat):Prop where
 hc:c<=1
 hz:∀j,i<=j->d j=0
 hw:∀j,257<=j->d j=0
 ho:∀j,d j=0\/(d j%2=1/\-15<=d j/\d j<=15)
 hs:(n:Int)=nE d i+((n/2^i+c:Nat):Int)*2^i
 he:257<=i->n/2^i+c=0
def DI.start(n:Nat):DI n (λ_=>0) 0 0:=by
 refine⟨dC,λ_ _=>rfl,λ_ _=>rfl,λ_=>Ye rfl,?_,λh=>oM⟩;rw[yBd,yEC];show(n:Int)=0+((n+0:Nat):Int)*1;omega
def high{n i:Nat}(b:n<2^256)(k:256<=i):n/2^i=0:=
 yAr (XC b (Y5 dC k))
def DI.skip{n i c:Nat}{d:Nat->Int}(h:DI n d i c)(f:n<2^256)(o:i<257)(g:n/2^i%2=c):DI n d (i+1) c:=by
 have k:n/2^(i+1)=n/2^i/2:=by rw[Zf,yAu]
 refine⟨h.hc,λj m=>h.hz j oM,h.hw,h.ho,?_,λb=>?_⟩
 .rw[h.hs];show _=nE d i+d i*2^i+_;rw[h.hz i (XD _),yCh,yCx,k,show n/2^i+c=(n/2^i/2+c)*2 by have:=h.hc;omega];rw[show(2:Int)^(i+1)=2^i*2 by rw[yEt]];generalize (2:Int)^i=t;rw[yAm,yCV,yCi (2:Nat) t];rfl
 .have l:i=256:=oM;have e:n/2^i=0:=high f oM;rw[k,e];rw[e]at g;omega
def DI.take{n i c:Nat}{d:Nat->Int}(h:DI n d i c)(o:n<2^256)(s:i<257)(p:n/2^i%2≠c):
 DI n (upd d i (((n/2^i%32+c:Nat):Int)-32*(((n/2^i%32+c)/16:Nat):Int))) (i+5) ((n/2^i%32+c)/16):=by
 have k:n/2^(i+5)=n/2^i/32:=by rw[yAP,yAu]
 have r:=h.hc;have b:(n/2^i%32+c)%2=1:=oM;have f:n/2^i%32+c<32:=oM;refine⟨oM,λj e=>?_,λj e=>?_,λj=>?_,?_,λg=>?_⟩
 .rw[jG oM];exact h.hz j oM
 .rw[jG oM];exact h.hw j e
 .by_cases e:j=i
  .subst e;rw[upd_same];right;omega
  .rw[jG e];exact h.ho j
 .rw[show i+5=i+1+4 by omega,LK h.hz 4,show i+1+4=i+5 by omega,h.hs,Int.add_assoc]
  congr 1
  rw[k,Int.pow_add,show(2:Int)^5=32 by decide,<-yCi (32:Int),<-yCV,<-yEE]
  congr 1
  omega
 .have q:n/2^i<16:=by
   rw[Nat.div_lt_iff_lt_mul (yAz dC)];refine XC o ?_
   calc 2^256=16*2^252:=dK
    _<=16*2^i:=Nat.mul_le_mul (XD _) (Y5 dC oM)
  rw[k];generalize n/2^i=m at q p b f⊢;rw[X6 (show m<32 by omega)]at b⊢;have l:m+c<16:=oM;rw[yAr l,yAr (show m<32 by omega)]
def DI.all{n i c:Nat}{d:Nat->Int}(h:DI n d i c)(b:257<=i):(n:Int)=nE d 257:=by
 have k:=h.hs;rw[h.he b,ZF,yCh,yCx]at k;rw[k,show i=257+(i-257) by omega,yW h.hw]
def hor(d:Nat->Int):Nat->Int
 | 0=>0
 | k+1=>2*hor d k+d (256-k)
def GA(d:Nat->Int):∀k,k<=257->hor d k*2^(257-k)+nE d (257-k)=nE d 257
 | 0,_=>by show 0*_+_=_;rw[yCh,Int.zero_add]
 | k+1,hk=>by
  rw[<-GA d k oM];show(2*hor d k+d (256-k))*2^(257-(k+1))+nE d (257-(k+1))=_;rw[show 257-(k+1)=256-k by omega,show 257-k=(256-k)+1 by omega];show _=hor d k*2^(256-k+1)+(nE d (256-k)+d (256-k)*2^(256-k));rw[yEt];generalize (2:Int)^(256-k)=t;generalize hor d k=a;rw[yEE,yCi t 2,<-yCV,yCi a 2];omega
def Oy{n i c:Nat}{d:Nat->Int}(h:DI n d i c)(b:257<=i):hor d 257=(n:Int):=by
 have k:=GA d 257 (XD _);rw[yBi]at k;rw[h.all b,<-k];show hor d 257=hor d 257*1+0;omega
end DG
def Mm{i:Nat}(k o:Nat)(d:i<257)(w:XA):(Yv 214 (oZ k o) (iZ i)).run prog w=.ok (oZ k (o+i)) w:=by
 have b:¬(i:Int)<0:=oM;have c:(i:Int)<257:=oM;go_simp
def Tc{k i:Nat}{w:XA}(b:i<257):(Yv 214 (jZ k) (iZ i)).run prog w=.ok (oZ k i) w:=by
 rw[Mm k 0 b,XI]
def G8{k o i:Nat}{w:XA}(d:i<8):(Yv 212 (oZ k o) (iZ i)).run prog w=.ok (oZ k (o+12*i)) w:=by
 have b:¬(i:Int)<0:=oM;have c:(i:Int)<8:=oM;go_simp
def Mn{k o i:Nat}{w:XA}(d:i<8):(Yv 212 (oZ k o) (.int .i8 i)).run prog w=.ok (oZ k (o+12*i)) w:=by
 have b:¬(i:Int)<0:=oM;have c:(i:Int)<8:=oM;go_simp
def G9{k n c i:Nat}{w:XA}(b:i<n):(Yv 208 (sZ k n c) (iZ i)).run prog w=.ok (oZ k (353*i)) w:=by
 go_simp
def Xq{k o n c i:Nat}{w:XA}(b:i<n):(Yv 127 (qZ k o n c) (iZ i)).run prog w=.ok (oZ k (o+4*i)) w:=by
 go_simp
def VD{k o n c i:Nat}{w:XA}(b:i<n):(Yv 138 (qZ k o n c) (iZ i)).run prog w=.ok (oZ k (o+8*i)) w:=by
 go_simp
def P4{d:Int}(hd:-15<=d/\d<=15)(w:XA):(Op.unary .neg (.int .i8 d)).run prog w=.ok (.int .i8 (-d)) w:=by
 have h:=yCB (-d) oM;go_simp
def P3{k:Nat}(b:k<8)(w:XA):(binOp .quo 213 (.int .i8 (2*(k:Int)+1)) (.int .i8 2)).run prog w=.ok (.int .i8 k) w:=by
 have c:(2*(k:Int)+1).tdiv 2=(k:Int):=by rw[yAK oM];omega
 have h:=yCB (k:Int) oM;go_simp
def V7{g:Nat}(k:g<32)(w:XA):(binOp .shr 3 (iZ g) (uZ 4)).run prog w=.ok (iZ ((g/16:Nat):Int)) w:=by
 go_simp
def V8{g:Nat}(k:g<32)(w:XA):(binOp .shl 3 (iZ g) (uZ 5)).run prog w=.ok (iZ (32*(g:Int))) w:=by
 have h:=Zn (32*(g:Int)) oM;have b:(g:Int)*32=32*(g:Int):=oM;go_simp
def DV{a b:Int}(k:-1000<=a/\a<=1000)(c:-1000<=b/\b<=1000)(w:XA):(binOp .sub 3 (iZ a) (iZ b)).run prog w=.ok (iZ (a-b)) w:=by
 have h:=Zn (a-b) oM;go_simp
def B7{a b:Nat}(k:a<=1000000)(c:b<=1000000)(w:XA):(binOp .add 3 (iZ a) (iZ b)).run prog w=.ok (iZ ((a+b:Nat):Int)) w:=by
 have h:=Zn ((a:Int)+(b:Int)) oM;go_simp
def cv8{v:Int}(hv:-15<=v/\v<=15)(w:XA):(convert 3 213 (iZ v)).run prog w=.ok (.int .i8 v) w:=by
 have h:=yCB v oM;go_simp
def U9{b c:Nat}(e:b=c)(w:XA):(binOp .eql 3 (iZ b) (iZ c)).run prog w=.ok tZ w:=by
 subst e;go_simp
def Va{b c:Nat}(e:¬b=c)(w:XA):(binOp .eql 3 (iZ b) (iZ c)).run prog w=.ok fZ w:=by
 have h:¬(b:Int)=(c:Int):=oM;go_simp
def qS{i n:Nat}(e:i<n)(w:XA):(binOp .lss 3 (iZ i) (iZ n)).run prog w=.ok tZ w:=by
 go_simp
def yK{i n:Nat}(e:¬i<n)(w:XA):(binOp .lss 3 (iZ i) (iZ n)).run prog w=.ok fZ w:=by
 go_simp
def ML{n f c:Nat}(b:n<top)(hf:f<=256)(k:c<=32):Gives 198 #[nv n,iZ f,iZ c] (iZ ((n/2^f%2^c:Nat):Int)):=λw =>
 (Dx _ n f c (iI b) hf k w).mono (by rintro e w' ⟨v,rfl,d,rfl⟩;exact⟨_,rfl,d,rfl⟩)
def dg(d:Nat->Int):List XB:=(YA 257).map (λj=>YW .i8 (d j))
def dv(d:Nat->Int):XB:=.agg (dg d).toArray
def bP(d:Nat->Int):(dg d).length=257:=by unfold dg;rw[XZ,List.length_range]
def LO{d:Nat->Int}{j:Nat}(k:j<257):(dg d)[j]? = some (.int .i8 (d j)):=by
 unfold dg;rw[List.getElem?_map,List.getElem?_range k];rfl
def SL{d:Nat->Int}{i:Nat}{v:Int}:dg (DG.upd d i v)=(dg d).set i (.int .i8 v):=by
 apply yA8;intro j;rw[List.getElem?_set];by_cases b:j<257
 .rw[LO b,LO b];by_cases k:i=j
  .subst k;rw[yEX rfl,yEX (by rw[bP];exact b),DG.upd_same]
  .rw[yEY k,DG.jG (λh=>k h.symm)]
 .rw[ZK (by rw[bP];omega)];by_cases k:i=j
  .rw[yEX k,yEY (by rw[bP];omega)]
  .rw[yEY k,ZK (by rw[bP];omega)]
def LN{d:Nat->Int}:(dg d).all (·.oneCell')=true:=by
 unfold dg;rw[List.all_map];exact List.all_eq_true.2 λ_ _=>rfl
def SK{d:Nat->Int}:((dg d).drop 0).take (dg d).length=dg d:=by rw[List.drop_zero,List.take_length]
def dgo(n:Nat):Nat->(Nat->Int)->Nat->Nat->(Nat->Int)
 | 0,d,_,_=>d
 | f+1,d,i,c=>if i<257 then(if n/2^i%2=c then dgo n f d (i+1) c else
  dgo n f (DG.upd d i (((n/2^i%32+c:Nat):Int)-32*(((n/2^i%32+c)/16:Nat):Int))) (i+5) ((n/2^i%32+c)/16)) else d
def GP{i:Nat}(n:Nat)(f:Nat)(d:Nat->Int)(c:Nat)(h:¬i<257):dgo n f d i c=d:=by
 cases f with
 | zero=>rfl
 | succ f=>rw[dgo,yEY h]
def EO{n:Nat}(k:n<2^256):∀(f:Nat) (d:Nat->Int) (i c:Nat),DG.DI n d i c->257<=i+f->∃g j,257<=g/\DG.DI n (dgo n f d i c) g j
 | 0,d,i,c,h,hf=>⟨i,c,oM,h⟩
 | f+1,d,i,c,h,hf=>by
  by_cases e:i<257
  .rw[dgo,yEX e];by_cases b:n/2^i%2=c
   .rw[yEX b];exact EO k f d (i+1) c (h.skip k e b) oM
   .rw[yEY b];exact EO k f _ (i+5) _ (h.take k e b) oM
  .rw[GP n _ d c e];exact⟨i,c,oM,h⟩
def fF(n:Nat):Nat->Int:=dgo n 257 (λ_=>0) 0 0
def BJ{n:Nat}(k:n<2^256):∃i c,257<=i/\DG.DI n (fF n) i c:=EO k 257 _ 0 0 (DG.DI.start n) oM
def u138:yZ 214:=yQ
def i138:gZ 214 257:=gQ
def WV:gZ 213 1:=gQ
def TL:wZ 213:=wQ
def Qm(w:XA):(Instr.alloc 214 true (.tuple #[])).run prog w=.ok (jZ w.heap.size) (w.alloc (.cells (dg (λ_=>0)).toArray 214)):=kR
def LM{n:Nat}(hn:n<top):Gives 166 #[nv n] (dv (fF n)):=by
 intro w;go_enter func166,ntmps166;refine QC (v0:=nv n) (n:=33) kR kR kR ?_;intro a0 Z f0;have h1:=RG.St.begin w;have t:RG.M w w.heap.size [] 33 [] [] [(0,.v (nv n))] a0 _:=⟨h1,Z,⟨f0,yEZ⟩⟩
 repeat apply XG
 refine t.T [.m 0,.m 1] [(0,wn n),(1,dg (λ_=>0))] [] [wn n,dg (λ_=>0)] [1,2] ⟨mk 0 42,qW 1 rfl rfl rfl (T:=214) rfl Qm,yEZ⟩ ?_;intro U W a1 w1 j;repeat apply XG
 refine j.T [.m 2] [(0,dg (λ_=>0))] [] [wn n,dg (λ_=>0),dg (λ_=>0)] [1,2,3] ⟨qW 2 rfl rfl rfl (T:=214) rfl Qm,yEZ⟩ ?_;intro V a2 w2 k;repeat apply XG
 refine k.U [.x (iZ 0)] [1,2,3,4] ⟨st,yEZ⟩ ?_;intro p w3 f;repeat apply XG
 refine f.U [.x (iZ 0)] [1,2,3,4,5] ⟨st,yEZ⟩ ?_;intro x w4 l;have Q:x.tmps[1]? = some (jZ U):=l.at (s:=(.p 0 0));have y:x.tmps[2]? = some (jZ W):=l.at (s:=(.p 1 0));have S:x.tmps[3]? = some (jZ V):=l.at (s:=(.p 2 0));have D:x.tmps[4]? = some (iZ 0):=l.at (s:=(.v (iZ 0)));have G:x.tmps[5]? = some (iZ 0):=l.at (s:=(.v (iZ 0)));repeat apply XG
 refine YX<|yCW (λm a wr=>∃(d:Nat->Int) (i c:Nat),c<=1/\i<=261/\257<=i+m/\dgo n m d i c=fF n/\Sl a 33/\a.tmps[1]? = some (jZ U)/\a.tmps[2]? = some (jZ W)/\a.tmps[3]? = some (jZ V)/\a.tmps[4]? = some (iZ c)/\a.tmps[5]? = some (iZ i)/\RG.St w w.heap.size [] [wn n,dg (λ_=>0),dg d] [U,W,V] wr) 257 ⟨λ_=>0,0,0,oM,oM,oM,rfl,l.sl,Q,y,S,D,G,l.st⟩ ?_
 intro m a wr;rintro⟨d,i,c,hc,h3,hm,hd,sl,f1,f2,f3,X,f5,u⟩;obtain⟨b,F⟩:=vH (n/2^i%2);obtain⟨e,B⟩:=vH (n/2^i%32);obtain⟨g,A⟩:=vH (e+c);obtain⟨v,O⟩:=vH ((g:Int)-32*((g/16:Nat):Int):Int);generalize U=J at f1 f2 f3 u;generalize W=E at f1 f2 f3 u;generalize V=P at f1 f2 f3 u;by_cases q:i<257
 .have K:Gives 198 #[nv n,iZ i,iZ 1] (iZ b):=by rw[<-F];exact ML (c:=1) hn oM oM
  have h0:Gives 198 #[nv n,iZ i,iZ 5] (iZ e):=by rw[<-B];exact ML (c:=5) hn oM oM
  have Y:∃o,m=o+1:=by
   cases m with
   | zero=>exact absurd hm oM
   | succ o=>exact⟨o,rfl⟩
  obtain⟨o,rfl⟩:=Y;rw[dgo,yEX q,F,B,A,O]at hd;by_cases T:b=c
  .rw[yEX T]at hd;have t:RG.M w w.heap.size [] 33 [wn n,dg (λ_=>0),dg d] [J,E,P] [(1,.p 0 0),(2,.p 1 0),(3,.p 2 0),(4,.v (iZ c)),(5,.v (iZ i))] a _:=⟨u,sl,⟨f1,f2,f3,X,f5,yEZ⟩⟩
   repeat apply XG
   refine t.U [.x (iZ i),.x tZ] [1,2,3,4,5,8] ⟨st,aN rfl .lss (T:=3) 3 (t1:=7) (v1:=(iZ i)) (v2:=(iZ 257)) (v:=tZ) rfl rfl sx (λw=>kR) (qS (n:=257) q),yEZ⟩ ?_;intro a1 w1 j;repeat apply XG
   refine Yy j.ev ?_;refine YU<|XG<|YX ?_
   repeat apply XG
   refine j.U [.x (nv n),.x (iZ i),.c (iZ b),.x (iZ c),.x tZ] [1,2,3,4,5,15] ⟨ld u85 i85,st,cl K,st,aX rfl .eql (T:=3) 3 (t1:=13) (t2:=14) (v1:=(iZ b)) (v2:=(iZ c)) (v:=tZ) rfl rfl sx sx (λw=>kR) (U9 T),yEZ⟩ ?_;intro a2 w2 k;repeat apply XG
   refine Yy k.ev ?_;apply yAC;dsimp only[Exit.then,yBP];rw[yEX rfl];repeat apply XG
   refine k.U [.x (iZ i),.x (iZ ((i+1:Nat):Int)),.x (iZ ((i+1:Nat):Int))] [1,2,3,4,5] ⟨st,aN rfl .add (T:=3) 3 (t1:=9) (v1:=(iZ i)) (v2:=(iZ 1)) (v:=(iZ ((i+1:Nat):Int))) rfl rfl sx (λw=>kR) (B7 (a:=i) (b:=1) oM oM),st,yEZ⟩ ?_;intro p w3 f;have r:p.tmps[1]? = some (jZ J):=f.at (s:=(.p 0 0));have C:p.tmps[2]? = some (jZ E):=f.at (s:=(.p 1 0));have z:p.tmps[3]? = some (jZ P):=f.at (s:=(.p 2 0));have H:p.tmps[4]? = some (iZ c):=f.at (s:=(.v (iZ c)));have I:p.tmps[5]? = some (iZ ((i+1:Nat):Int)):=f.at (s:=(.v (iZ ((i+1:Nat):Int))));show ∃n',_;exact⟨o,yBW o,d,i+1,c,hc,oM,oM,hd,f.sl,r,C,z,H,I,f.st⟩
  .rw[yEY T]at hd;have he:e<32:=oM;have h2:g%2=1:=oM;have hg:g<32:=oM;have hv:-15<=v/\v<=15:=oM;have M:∀w,(binOp .add 3 (iZ e) (iZ c)).run prog w=.ok (iZ g) w:=λw=>by rw[B7 (a:=e) (b:=c) oM oM,A]
   have L:∀w,(binOp .sub 3 (iZ g) (iZ (32*((g/16:Nat):Int)))).run prog w=.ok (iZ v) w:=λw=>by rw[DV oM oM,O]
   have t:RG.M w w.heap.size [] 33 [wn n,dg (λ_=>0),dg d] [J,E,P] [(1,.p 0 0),(2,.p 1 0),(3,.p 2 0),(4,.v (iZ c)),(5,.v (iZ i))] a _:=⟨u,sl,⟨f1,f2,f3,X,f5,yEZ⟩⟩
   repeat apply XG
   refine t.U [.x (iZ i),.x tZ] [1,2,3,4,5,8] ⟨st,aN rfl .lss (T:=3) 3 (t1:=7) (v1:=(iZ i)) (v2:=(iZ 257)) (v:=tZ) rfl rfl sx (λw=>kR) (qS (n:=257) q),yEZ⟩ ?_;intro a1 w1 j;repeat apply XG
   refine Yy j.ev ?_;refine YU<|XG<|YX ?_
   repeat apply XG
   refine j.U [.x (nv n),.x (iZ i),.c (iZ b),.x (iZ c),.x fZ] [1,2,3,4,5,15] ⟨ld u85 i85,st,cl K,st,aX rfl .eql (T:=3) 3 (t1:=13) (t2:=14) (v1:=(iZ b)) (v2:=(iZ c)) (v:=fZ) rfl rfl sx sx (λw=>kR) (Va T),yEZ⟩ ?_;intro a2 w2 k;repeat apply XG
   refine Yb k.ev ?_;apply YU;repeat apply XG
   refine k.U [.x (nv n),.x (iZ i),.c (iZ e),.x (iZ c),.x (iZ g),.x (iZ g)] [1,2,3,4,5,6] ⟨ld u85 i85,st,cl h0,st,aX rfl .add (T:=3) 3 (t1:=18) (t2:=19) (v1:=(iZ e)) (v2:=(iZ c)) (v:=(iZ g)) rfl rfl sx sx (λw=>kR) M,st,yEZ⟩ ?_;intro p w3 f;repeat apply XG
   refine f.U [.x (iZ g),.x (iZ ((g/16:Nat):Int)),.x (iZ ((g/16:Nat):Int))] [1,2,3,4,5,6] ⟨st,aN rfl .shr (T:=3) 189 (t1:=21) (v1:=(iZ g)) (v2:=(uZ 4)) (v:=(iZ ((g/16:Nat):Int))) rfl rfl sx (λw=>kR) (V7 (g:=g) hg),st,yEZ⟩ ?_;intro x w4 l;repeat apply XG
   refine l.T [.x (iZ i),.x (iZ g),.x (iZ ((g/16:Nat):Int)),.x (iZ (32*((g/16:Nat):Int))),.x (iZ v),.x (.int .i8 v),.s (.p 2 i),.u 2] [] [(2,7,dg (DG.upd d i v))] [wn n,dg (λ_=>0),dg (DG.upd d i v)] [1,2,3,4,5] ⟨st,st,st,aN rfl .shl (T:=3) 189 (t1:=25) (v1:=(iZ ((g/16:Nat):Int))) (v2:=(uZ 5)) (v:=(iZ (32*((g/16:Nat):Int)))) rfl rfl sx (λw=>kR) (V8 (g:=(g/16)) oM),aX rfl .sub (T:=3) 3 (t1:=24) (t2:=26) (v1:=(iZ g)) (v2:=(iZ (32*((g/16:Nat):Int)))) (v:=(iZ v)) rfl rfl sx sx (λw=>kR) L,IJ rfl (S:=3) (T:=213) (t:=27) (v:=(iZ v)) (b:=(.int .i8 v)) rfl rfl sx (cv8 (v:=v) hv),cA rfl 214 (t:=3) (u:=23) rfl (.p 2 0) (iv:=(iZ i)) sx sx (λμ w=>Tc (i:=i) q (w:=w)),II (b:=2) (off:=i) rfl rfl (T:=213) (x:=(.tmp 29)) (y:=(.tmp 28)) (v:=(.int .i8 v)) rfl rfl sx sx (by show i<(dg _).length;rw[bP];exact q) (SL (d:=d) (i:=i) (v:=v)) WV rfl rfl,yEZ⟩ ?_;intro a5 w5 M5;repeat apply XG
   refine M5.U [.x (iZ i),.x (iZ ((i+4:Nat):Int)),.x (iZ ((i+4:Nat):Int))] [1,2,3,4,5] ⟨st,aN rfl .add (T:=3) 3 (t1:=30) (v1:=(iZ i)) (v2:=(iZ 4)) (v:=(iZ ((i+4:Nat):Int))) rfl rfl sx (λw=>kR) (B7 (a:=i) (b:=4) oM oM),st,yEZ⟩ ?_;intro a6 w6 M6;repeat apply XG
   refine M6.U [.x (iZ ((i+4:Nat):Int)),.x (iZ ((i+4+1:Nat):Int)),.x (iZ ((i+4+1:Nat):Int))] [1,2,3,4,5] ⟨st,aN rfl .add (T:=3) 3 (t1:=9) (v1:=(iZ ((i+4:Nat):Int))) (v2:=(iZ 1)) (v:=(iZ ((i+4+1:Nat):Int))) rfl rfl sx (λw=>kR) (B7 (a:=(i+4)) (b:=1) oM oM),st,yEZ⟩ ?_;intro z w7 r;have N:z.tmps[1]? = some (jZ J):=r.at (s:=(.p 0 0));have H:z.tmps[2]? = some (jZ E):=r.at (s:=(.p 1 0));have R:z.tmps[3]? = some (jZ P):=r.at (s:=(.p 2 0));have I:z.tmps[4]? = some (iZ ((g/16:Nat):Int)):=r.at (s:=(.v (iZ ((g/16:Nat):Int))));have C:z.tmps[5]? = some (iZ ((i+4+1:Nat):Int)):=r.at (s:=(.v (iZ ((i+4+1:Nat):Int))));show ∃n',_;exact⟨o,yBW o,DG.upd d i v,i+5,g/16,oM,oM,oM,hd,r.sl,N,H,R,I,C,r.st⟩
 .have o:d=fF n:=by rw[<-hd,GP n m d (i:=i) c q]
  have t:RG.M w w.heap.size [] 33 [wn n,dg (λ_=>0),dg d] [J,E,P] [(1,.p 0 0),(2,.p 1 0),(3,.p 2 0),(4,.v (iZ c)),(5,.v (iZ i))] a _:=⟨u,sl,⟨f1,f2,f3,X,f5,yEZ⟩⟩
  repeat apply XG
  refine t.U [.x (iZ i),.x fZ] [2,3,8] ⟨st,aN rfl .lss (T:=3) 3 (t1:=7) (v1:=(iZ i)) (v2:=(iZ 257)) (v:=fZ) rfl rfl sx (λw=>kR) (yK (n:=257) q),yEZ⟩ ?_;intro a1 w1 j;repeat apply XG
  refine Yb j.ev ?_;apply yAC;dsimp only[Exit.then,yBP];rw[yEX rfl];repeat apply XG
  refine j.T [.x (dv d),.u 1] [] [(1,1,dg d)] [wn n,dg d,dg d] [2] ⟨pU rfl (b:=2) (off:=0) _ rfl rfl kR (T:=214) (t:=3) rfl (cs:=(dg d)) rfl sx SK u138 (by rw[bP];exact i138),L0 (b:=1) rfl rfl 214 (x:=(.tmp 2)) (y:=(.tmp 32)) rfl rfl (by show(dg _).length=(dg _).length;rw[bP,bP]) sx sx (by show _=some (dg _).length;rw[bP];exact i138) LN,yEZ⟩ ?_;intro a2 w2 k;refine Za<|XN (v:=dv d) (aH k.st (t:=2) (T:=214) rfl (b:=1) rfl (k.at (s:=(.p 1 0))) u138 (by rw[bP];exact i138)) k.sl.defers ?_
  exact⟨_,rfl,k.st.bel.below,by rw[o]⟩
omit [NeZero P] in
theorem cI(t:T3 P):(tw t).length=12:=rfl
omit [NeZero P] in
theorem Jg(t:T3 P):(tw t).all (·.oneCell')=true:=rfl
def od(x y:Fin P):Nat->T3 P
 | 0=>raJ x y
 | q+1=>plJ (od x y q) (twJ (raJ x y))
def RN(C:Fld P){x y:Fin P}{p:EC.Pt P}(h:Pair x y p)(k:On p):∀q,JacT (od x y q) (dZ ((2*q+1:Nat):Int) p)
 | 0=>by
  show JacT (raJ x y) (dZ 1 p);rw[Cb];exact Py C h k
 | q+1=>by
  have c:=RN C h k q;have d:=(Py C h k).twice C;have b:=c.plus C d;have e:dZ ((2*(q+1)+1:Nat):Int) p=EC.add (dZ ((2*q+1:Nat):Int) p) (EC.add p p):=by
   have:EC.add p p=dZ 2 p:=by
    rw[show(2:Int)=1+1 by rfl,wU C.cur k,Cb]
   rw[this,<-wU C.cur k]
   congr 1
  rw[e];exact b
structure Fi(x y:Fin P)(D:Nat->Int)(C0:List XB)(off m:Nat)(C:List XB):Prop where
 len:C.length=C0.length
 out:∀j,j<off\/off+353<=j->C[j]? = C0[j]?
 dig:∀j,j<257->C[off+96+j]? = some (.int .i8 (D j))
 odd:∀q j,q<m->j<12->C[off+12*q+j]? = (tw (od x y q))[j]?
def Fi.first{x y:Fin P}{D:Nat->Int}{C0:List XB}{off:Nat}(h:off+353<=C0.length):Fi x y D C0 off 0 (rep C0 (off+96) (dg D)):=by
 have k:off+96+(dg D).length<=C0.length:=by rw[bP];omega
 refine⟨gK k,λj b=>?_,λj b=>?_,λq j c _=>oM⟩
 .rw[RG.rep_at k,yEY (by rw[bP];omega)]
 .rw[RG.rep_at k,yEX (by rw[bP];omega),show off+96+j-(off+96)=j by omega,LO b]
def Fi.next{x y:Fin P}{D:Nat->Int}{C0 C:List XB}{off m:Nat}(h:off+353<=C0.length)(c:Fi x y D C0 off m C)(g:m<8):Fi x y D C0 off (m+1) (rep C (off+12*m) (tw (od x y m))):=by
 have b:=c.len;have d:off+12*m+(tw (od x y m)).length<=C.length:=by rw[cI];omega
 refine⟨by rw[gK d];exact b,λj k=>?_,λj k=>?_,λq j f k=>?_⟩
 .rw[RG.rep_at d,yEY (by rw[cI];omega)];exact c.out j k
 .rw[RG.rep_at d,yEY (by rw[cI];omega)];exact c.dig j k
 .rw[RG.rep_at d];by_cases e:q=m
  .subst e;rw[yEX (by rw[cI];omega),show off+12*q+j-(off+12*q)=j by omega]
  .rw[yEY (by rw[cI];omega)];exact c.odd q j oM k
def Fi.sub{x y:Fin P}{D:Nat->Int}{C0 C:List XB}{off m q:Nat}(h:off+353<=C0.length)(k:Fi x y D C0 off m C)(c:q<m)(d:m<=8):(C.drop (off+12*q)).take (tw (od x y q)).length=tw (od x y q):=
 QL (λj b=>k.odd q j c (by rw[cI]at b;exact b)) (by rw[cI];have:=k.len;omega)
def fc(x y:Fin P)(D:Nat->Int)(C0:List XB)(off:Nat):Nat->List XB
 | 0=>rep C0 (off+96) (dg D)
 | m+1=>rep (fc x y D C0 off m) (off+12*m) (tw (od x y m))
def GI{x y:Fin P}{D:Nat->Int}{C0:List XB}{off:Nat}(h:off+353<=C0.length):∀m,m<=8->Fi x y D C0 off m (fc x y D C0 off m)
 | 0,_=>Fi.first h
 | m+1,hm=>(GI h m oM).next h oM
def Fi.uniq{x y:Fin P}{D:Nat->Int}{C0 C c:List XB}{off:Nat}(h:Fi x y D C0 off 8 C)(k:Fi x y D C0 off 8 c):C=c:=by
 apply yA8;intro j;by_cases b:j<off\/off+353<=j
 .rw[h.out j b,k.out j b]
 .by_cases d:j<off+96
  .have e:j=off+12*((j-off)/12)+(j-off)%12:=oM;rw[e,h.odd _ _ oM oM,k.odd _ _ oM oM]
  .have e:j=off+96+(j-off-96):=oM;rw[e,h.dig _ oM,k.dig _ oM]
def SH(F:Fld P){n:Nat}(hn:n<top)(x y:Fin P)(C0:List XB)(k off:Nat)(g:off+353<=C0.length)(w:XA)(hk:k<w.heap.size)(ht:w.there k 0 C0.length)(hr:w.rangeAt k 0 C0):
 YN prog 112 #[oZ k off,nv n,pv x y] w (Ret λr w'=>(∃C,Fi x y (fF n) C0 off 8 C/\PutTo k C0.length C w w')/\r=.tuple #[]):=by
 obtain⟨D,p⟩:=vH (fF n);have hD:Gives 166 #[nv n] (dv D):=p ▸ LM hn;obtain⟨s0,e⟩:=vH (raJ x y);have h4:Gives 167 #[pv x y] (tv s0):=e ▸ Ud F (x:=x) (y:=y);obtain⟨s2,d⟩:=vH (twJ s0);have h6:Gives 113 #[tv s0] (tv s2):=d ▸ Pr F s0;obtain⟨f,t⟩:=vH (rep C0 (off+96) (dg D));have M:off+96+(dg D).length<=C0.length:=by rw[bP];omega
 have T:=t ▸ RG.rep_at M;have Y:f.length=C0.length:=t ▸ gK M;have F1:Fi x y D C0 off 0 f:=t ▸ Fi.first g;obtain⟨l,b⟩:=vH (rep f (off+0+12*0) (tw s0));have o:off+0+12*0+(tw s0).length<=f.length:=by rw[cI];omega
 have E:=b ▸ RG.rep_at o;have A:l.length=f.length:=b ▸ gK o;have F2:Fi x y D C0 off 1 l:=by
  have:=F1.next g dC;rw[<-b,<-e];exact this
 have u:(l.drop (off+0+12*0)).take (tw s0).length=tw s0:=by
  have:=F2.sub g (q:=0) dC dC;rw[<-e];exact this
 obtain⟨i,hj⟩:∃i:Nat,i=0:=⟨_,rfl⟩
 obtain⟨s3,-⟩:∃s:T3 P,s=s0:=⟨_,rfl⟩
 obtain⟨G,-⟩:∃s:T3 P,s=s0:=⟨_,rfl⟩
 go_enter func112,ntmps112;refine VS (v0:=oZ k off) (v1:=nv n) (v2:=pv x y) (n:=43) kR kR kR kR kR ?_;intro a0 h8 f0 f1 f2;have hb:=RG.St.lent hk hr ht;have M0:RG.M w w.heap.size [k] 43 [C0] [k] [(0,.p 0 off),(1,.v (nv n)),(2,.v (pv x y))] a0 _:=⟨hb,h8,⟨f0,f1,f2,yEZ⟩⟩
 repeat refine XG ?_
 refine M0.T [.m 1,.m 2] [(0,wn n),(1,ws x++(ws y))] [] [C0,wn n,ws x++(ws y)] [0,4,5] ⟨mk 1 42,mk 2 131,yEZ⟩ ?_;intro R N B w1 j;have J:B.tmps[0]? = some (oZ k off):=j.at (s:=(.p 0 off));have Z:B.tmps[4]? = some (jZ R):=j.at (s:=(.p 1 0));have X:B.tmps[5]? = some (jZ N):=j.at (s:=(.p 2 0));have j:RG.M w w.heap.size [k] 43 [C0,wn n,ws x++(ws y)] [k,R,N] [(0,.p 0 off),(4,.p 1 0),(5,.p 2 0)] B _:=⟨j.st,j.sl,⟨J,Z,X,yEZ⟩⟩
 repeat refine XG ?_
 refine j.tx [.s 8 [] (.p 0 off),.x 9 [] (nv n),.c 10 [(9,1)] (dv D),.s 11 [(8,0)] (.p 0 off),.s 12 [(11,3)] (.p 0 (off+96)),.u [(12,4),(10,2)] 0] [] [(0,5,f)] [f,wn n,ws x++(ws y)] [(0,.p 0 off),(5,.p 2 0)] kR (congrArg (λn=>[n]) Y) ⟨st,ld u85 i85,cl hD,st,st,mZ (b:=0) (off:=(off+96)) rfl _ rfl (T:=214) (x:=(.tmp 12)) (y:=(.tmp 10)) (vs:=(dg D)) rfl rfl sx sx (by show off+96+(dg D).length<=C0.length;rw[bP];omega) T (by show _=some (dg _).length;rw[bP];exact i138) LN,yEZ⟩ ?_;intro a2 w2 K;have h0:a2.tmps[0]? = some (oZ k off):=K.at (s:=(.p 0 off));have h2:a2.tmps[5]? = some (jZ N):=K.at (s:=(.p 2 0));have K:RG.M w w.heap.size [k] 43 [f,wn n,ws x++(ws y)] [k,R,N] [(0,.p 0 off),(5,.p 2 0)] a2 _:=⟨K.st,K.sl,⟨h0,h2,yEZ⟩⟩
 repeat refine XG ?_
 refine K.dr kR [.s 13 [] (.p 0 off),.x 14 [] (pv x y),.c 15 [(14,1)] (tv s0),.s 16 [(13,0)] (.p 0 off),.s 17 [(16,3)] (.p 0 (off+0)),.s 18 [(17,4)] (.p 0 ((off+0)+12*0)),.u [(18,5),(15,2)] 0] [] [(0,6,l)] [l,wn n,ws x++(ws y)] [(0,.p 0 off)] kR (congrArg (λn=>[n]) A) ⟨st,ld iQ i109,cl h4,st,st,eO rfl 212 (t:=17) (iZ 0) rfl (.p 0 (off+0)) sx (λμ w=>G8 (i:=0) dC (w:=w)),mZ (b:=0) (off:=((off+0)+12*0)) rfl _ rfl (T:=211) (x:=(.tmp 18)) (y:=(.tmp 15)) (vs:=(tw s0)) rfl rfl sx sx (by show off+0+12*0+(tw s0).length<=f.length;rw[cI];omega) E i117 (Jg _),yEZ⟩ ?_;intro Q w3 v;have z:Q.tmps[0]? = some (oZ k off):=v.at (s:=(.p 0 off));have v:RG.M w w.heap.size [k] 43 [l,wn n,ws x++(ws y)] [k,R,N] [(0,.p 0 off)] Q _:=⟨v.st,v.sl,⟨z,yEZ⟩⟩
 repeat refine XG ?_
 refine v.T [.s (.p 0 off),.s (.p 0 off),.s (.p 0 (off+0)),.s (.p 0 ((off+0)+12*0)),.x (tv s0),.c (tv s2),.m 3,.u 3] [(6,RG.z 12)] [(3,7,tw s2)] [l,wn n,ws x++(ws y),tw s2] [0,6] ⟨st,st,st,eO rfl 212 (t:=21) (iZ 0) rfl (.p 0 (off+0)) sx (λμ w=>G8 (i:=0) dC (w:=w)),pU rfl (b:=0) (off:=((off+0)+12*0)) _ rfl rfl kR (T:=211) (t:=22) rfl (cs:=(tw s0)) rfl sx u iO i117,cl h6,mk 3 211,RG.pt i117,yEZ⟩ ?_;intro j4 a4 w4 M4;repeat refine XG ?_
 refine M4.U [.x (iZ 1)] [0,6,7] ⟨st,yEZ⟩ ?_;intro a5 w5 M5;have V:a5.tmps[0]? = some (oZ k off):=M5.at (s:=(.p 0 off));have W:a5.tmps[6]? = some (jZ j4):=M5.at (s:=(.p 3 0));have h3:a5.tmps[7]? = some (iZ 1):=M5.at (s:=(.v (iZ 1)));subst p;subst e;subst d;clear T E u Y A M o;repeat refine XG ?_
 refine YX<|yCW (λm a wr=>∃(i:Nat) (C:List XB),1<=i/\i<=8/\i+m=8/\Fi x y (fF n) C0 off i C/\Sl a 43/\a.tmps[0]? = some (oZ k off)/\a.tmps[6]? = some (jZ j4)/\a.tmps[7]? = some (iZ i)/\RG.St w w.heap.size [k] [C,wn n,ws x++ws y,tw (twJ (raJ x y))] [k,R,N,j4] wr) 7 ⟨1,l,oM,oM,oM,F2,M5.sl,V,W,h3,M5.st⟩ ?_
 intro m a wr;rintro⟨i,f,hg,hl,hm,S,sl,g0,g6,g7,O⟩;generalize R=k1 at g6 O;generalize N=k2 at g6 O;generalize j4=k3 at g6 O;obtain⟨D,p⟩:=vH (fF n);rw[p]at S;obtain⟨s0,e⟩:=vH (raJ x y);obtain⟨s2,d⟩:=vH (twJ (raJ x y));rw[d]at O;obtain⟨G,I⟩:=vH (od x y (i-1));obtain⟨s3,H⟩:=vH (plJ G s2);have h5:Gives 114 #[tv G,tv s2] (tv s3):=H ▸ PD F G s2;have hc:=S.len;by_cases hi:i<8
 .have h9:od x y i=s3:=by
   obtain⟨q,rfl⟩:∃q,i=q+1:=⟨i-1,oM⟩
   rw[<-H,<-I,<-d];rfl
  have L:(f.drop (off+0+12*(i-1))).take (tw G).length=tw G:=by
   have:=S.sub g (q:=i-1) oM oM;rw[I]at this;exact this
  obtain⟨l,b⟩:=vH (rep f (off+0+12*i) (tw s3));have o:off+0+12*i+(tw s3).length<=f.length:=by rw[cI];omega
  have E:=b ▸ RG.rep_at o;have A:l.length=f.length:=b ▸ gK o;have h7:Fi x y D C0 off (i+1) l:=by
   have:=S.next g hi;rw[h9]at this;rw[<-b];exact this
  have ha:∀w,(binOp .sub 3 (iZ i) (iZ 1)).run prog w=.ok (iZ ((i-1:Nat):Int)) w:=λw=>by
   rw[DV oM oM,show(i:Int)-1=((i-1:Nat):Int) by omega]
  clear e b;have M0:RG.M w w.heap.size [k] 43 [f,wn n,ws x++(ws y),tw s2] [k,k1,k2,k3] [(0,.p 0 off),(6,.p 3 0),(7,.v (iZ i))] a _:=⟨O,sl,⟨g0,g6,g7,yEZ⟩⟩
  repeat refine XG ?_
  refine M0.U [.x (iZ i),.x (.bool true)] [0,6,7,26] ⟨st,aN rfl .lss (T:=3) 3 (t1:=25) (v1:=(iZ i)) (v2:=(iZ 8)) (v:=(.bool true)) rfl rfl sx (λw=>kR) (qS (n:=8) hi),yEZ⟩ ?_;intro B w1 j;repeat refine XG ?_
  refine Yy j.ev ?_;refine YU<|XG<|YX ?_
  repeat refine XG ?_
  refine j.dr kR [.s 29 [] (.p 0 off),.x 30 [] (iZ i),.s 31 [] (.p 0 off),.x 32 [] (iZ i),.x 33 [(32,3)] (iZ ((i-1:Nat):Int)),.s 34 [(31,2)] (.p 0 off),.s 35 [(34,5)] (.p 0 (off+0)),.s 36 [(35,6),(33,4)] (.p 0 ((off+0)+12*(i-1))),.x 37 [(36,7)] (tv G),.x 38 [] (tv s2),.c 39 [(37,8),(38,9)] (tv s3),.s 40 [(29,0)] (.p 0 off),.s 41 [(40,11)] (.p 0 (off+0)),.s 42 [(41,12),(30,1)] (.p 0 ((off+0)+12*i)),.u [(42,13),(39,10)] 0] [] [(0,14,l)] [l,wn n,ws x++(ws y),tw s2] [(0,.p 0 off),(6,.p 3 0),(7,.v (iZ i))] kR (congrArg (λn=>[n]) A) ⟨st,st,st,st,aN rfl .sub (T:=3) 3 (t1:=32) (v1:=(iZ i)) (v2:=(iZ 1)) (v:=(iZ ((i-1:Nat):Int))) rfl rfl sx (λw=>kR) ha,st,st,cA rfl 212 (t:=35) (u:=33) rfl (.p 0 (off+0)) (iv:=(iZ ((i-1:Nat):Int))) sx sx (λμ w=>G8 (i:=(i-1)) oM (w:=w)),pU rfl (b:=0) (off:=((off+0)+12*(i-1))) _ rfl rfl kR (T:=211) (t:=36) rfl (cs:=(tw G)) rfl sx L iO i117,ld iO i117,cl h5,st,st,cA rfl 212 (t:=41) (u:=30) rfl (.p 0 (off+0)) (iv:=(iZ i)) sx sx (λμ w=>G8 (i:=i) oM (w:=w)),mZ (b:=0) (off:=((off+0)+12*i)) rfl _ rfl (T:=211) (x:=(.tmp 42)) (y:=(.tmp 39)) (vs:=(tw s3)) rfl rfl sx sx (by show off+0+12*i+(tw s3).length<=f.length;rw[cI];omega) E i117 (Jg _),yEZ⟩ ?_;intro a2 w2 K;repeat refine XG ?_
  refine K.U [.x (iZ i),.x (iZ ((i+1:Nat):Int)),.x (iZ ((i+1:Nat):Int))] [0,6,7] ⟨st,aN rfl .add (T:=3) 3 (t1:=27) (v1:=(iZ i)) (v2:=(iZ 1)) (v:=(iZ ((i+1:Nat):Int))) rfl rfl sx (λw=>kR) (B7 (a:=i) (b:=1) oM oM),st,yEZ⟩ ?_;intro Q w3 v;have z:Q.tmps[0]? = some (oZ k off):=v.at (s:=(.p 0 off));have U:Q.tmps[6]? = some (jZ k3):=v.at (s:=(.p 3 0));have h1:Q.tmps[7]? = some (iZ ((i+1:Nat):Int)):=v.at (s:=(.v (iZ ((i+1:Nat):Int))));show ∃n',_;exact⟨m-1,oM,i+1,l,oM,oM,oM,p.symm ▸ h7,v.sl,z,U,h1,by rw[d];exact v.st⟩
 .have L:i=8:=oM;obtain⟨l,-⟩:∃c:List XB,c=f:=⟨_,rfl⟩
  have M0:RG.M w w.heap.size [k] 43 [f,wn n,ws x++(ws y),tw s2] [k,k1,k2,k3] [(0,.p 0 off),(6,.p 3 0),(7,.v (iZ i))] a _:=⟨O,sl,⟨g0,g6,g7,yEZ⟩⟩
  repeat refine XG ?_
  refine M0.U [.x (iZ i),.x (.bool false)] [0,6,7,26] ⟨st,aN rfl .lss (T:=3) 3 (t1:=25) (v1:=(iZ i)) (v2:=(iZ 8)) (v:=(.bool false)) rfl rfl sx (λw=>kR) (yK (n:=8) hi),yEZ⟩ ?_;intro B w1 j;repeat refine XG ?_
  refine Yb j.ev ?_;refine yAC ?_;dsimp only[Exit.then,yBP];rw[yEX rfl];have J:B.tmps[0]? = some (oZ k off):=j.at (s:=(.p 0 off));have he:B.tmps[6]? = some (jZ k3):=j.at (s:=(.p 3 0));have U:B.tmps[7]? = some (iZ i):=j.at (s:=(.v (iZ i)));exact⟨j.sl.defers,.tuple #[],RG.results_none rfl,_,rfl,⟨f,p.symm ▸ L ▸ S,j.st.putTo S.len⟩,rfl⟩
end Go.Proofs.YtlofhpkoaljmeaaGreat
