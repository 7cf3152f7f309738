import Derived.Deep.RegionHeld3
import Derived.Deep.LoopGhost
import Derived.Laws.BitsLemmas
import Derived.OrdersHeld
import Derived.Deep.RegionHeld
import Derived.Deep.CutRange
import Derived.Deep.DeepCutAuto
import Derived.Laws.Tables
import Derived.LoopN
import Derived.Deep.RegionWith
import Derived.Deep.Draws
import Derived.Deep.OwnRows
import Derived.Lib.LazyBuf
import Derived.Lib.ConvBytes
import Derived.Test.YtlofhpkoaljmeaaGreatat1
set_option linter.unusedVariables false
set_option linter.constructorNameAsVariable false
set_option linter.unusedSimpArgs false
set_option maxRecDepth 1000000
set_option maxHeartbeats 4000000
namespace Go.Proofs.YtlofhpkoaljmeaaGreat
open EC RG
open _root_.Array renaming getElem?_replicate->yAQ,getElem_replicate->Zo,getElem_toList->yAd,replicate->XL,size_append->Yg,size_replicate->XU
open _root_.Bool renaming noConfusion->yA7
open _root_.Fin renaming ext_iff->yEE
open _root_.Go renaming Calls->XH,FuncId->ZY,Oper->Yo,Program->YG,TypeId->Yd,Value->Xu,World->Xs,bodyPost_ret->XE,getD_set_ne->yAt,rounds_succ->ZJ,sizeOf->yCN,undef->Zp,wp_block->Y6,wp_cond_false->X7,wp_cond_true->Yx,wp_loop_ghost->yBN,wp_ret->Y5,wp_seq->Xy,wp_skip->YR
open _root_.Go.Act renaming put->XK
open _root_.Go.Addr renaming add->yB3
open _root_.Go.Builtin renaming copy_->yAy
open _root_.Go.Exit renaming inBlock->yA4
open _root_.Go.Instr renaming index->yBs,indexAt->Yi
open _root_.Go.IntKind renaming i64->Yh,u64->Yn,wrap_i64->Zc,wrap_u64->ZK
open _root_.Go.IntWalk renaming i64_in->Zl,i8_in->yCz
open _root_.Go.Op renaming equalIn->yEL
open _root_.Go.Region renaming binds->YT,free->yBn,noSelect->yAo,ready->Yf
open _root_.Go.Result renaming andThen_ok->Yu
open _root_.Go.RowKit.Below renaming heap_setCell->yB2
open _root_.Go.Value renaming agg->X6,int->YQ
open _root_.Go.World renaming alloc->Z0,cell?->YO,cell?_alloc_new->Yp,cell?_of_block->XW,cell?_setCell_other->XZ,cell?_setCell_same->Y1,frozen?_alloc_new->Zn,frozen?_setCell->YN,setCell->yAK,size_alloc->XF
open _root_.Int renaming add_mul->yEA,add_zero->yCw,mul_assoc->yCS,mul_comm->yCi,natCast_ediv->yBK,natCast_emod->yDS,natCast_mul->Z2,natCast_pow->yCM,natCast_zero->Zy,pow_succ->yEo,tdiv_eq_ediv_of_nonneg->yAF,zero_mul->yCh
open _root_.List renaming ext_getElem?->yBA,foldl_cons->yDR,getElem?_eq_none->ZG,getElem_map->Z9,length_map->XV,not_mem_nil->X5,replicate->YE,setIfInBounds_toArray->Xt,set_cons_succ->Xv,set_cons_zero->Xw
open _root_.Nat renaming add_assoc->Zu,add_mod_right->yDB,add_zero->yAi,div_add_mod->yCL,div_div_eq_div_mul->yAq,div_eq_of_lt->yAm,div_le_self->yD1,div_one->yEy,le_of_lt->yAl,le_refl->Xx,le_succ->yBW,lt_of_le_of_lt->yDr,lt_of_lt_of_le->Xz,lt_succ_self->yCD,mod_eq_of_lt->XX,mod_lt->Y9,mod_one->yEw,mul_assoc->yAB,mul_comm->YF,mul_le_mul_right->yAj,mul_mod->Z8,mul_zero->yCu,ne_of_gt->Zg,ne_of_lt->ZX,or_comm->yEu,pow_add->yAX,pow_le_pow_right->Y4,pow_pos->yAM,pow_succ->Zf,pow_zero->yBo,sub_self->yA8,sub_zero->yBx,two_pow_add_eq_or_of_lt->yBf,zero_add->XD
open _root_.Or renaming inl->X9,inr->X0
open _root_.UInt8 renaming ofNat->XN
open Go.Proofs.Tryz
open Go.RowKit Go.Sort Go.Deep
section
variable {P:Nat}[NeZero P]{N:Nat}
theorem CX(w:Xs)(t0 t1 t2 q:Yd)(a b c d e f g h i j k l m n o p:Nat):
 Kept w w.heap.size [⟨w.heap.size,0,a,b,c,d⟩,⟨w.heap.size+1,0,e,f,g,h⟩,⟨w.heap.size+1+1,0,i,j,k,l⟩,⟨w.heap.size+1+1+1,0,m,n,o,p⟩]
  ((((w.alloc (.cells #[uZ a,uZ b,uZ c,uZ d] t0)).alloc (.cells #[uZ e,uZ f,uZ g,uZ h] t1)).alloc (.cells #[uZ i,uZ j,uZ k,uZ l] t2)).alloc (.cells #[uZ m,uZ n,uZ o,uZ p] q)):=by
 refine((((Kept.mk1 (E9 w _ _ _ _) (E9 w _ _ _ _).size).cons ?_).cons ?_).cons ?_).cons ?_
 ·exact(At4.made _ q m n o p (by simp)).blk
 ·exact((At4.made _ t2 i j k l (by simp)).alloc _).blk
 ·exact(((At4.made _ t1 e f g h (by simp)).alloc _).alloc _).blk
 ·exact((((At4.made _ t0 a b c d rfl).alloc _).alloc _).alloc _).blk
theorem N5{k b c P m n s l:Nat}(hG:Gap k b c P)(d:s+top*0=m+n)(e:l+top*0=s+val k b c 0)(f:l<top):(m+n)%P=s:=by
 have:=hG.hP;rw[<-d,yCu,yAi,XX oM]
theorem N6{g e f P m n s l k j:Nat}(hG:Gap g e f P)(t:m<P)(r:n<P)(o:s+top*k=m+n)(p:l+top*j=s+val g e f 0)(x:k<=1)(q:j<=1)(i:¬(k=0/\j=0))(w:s<top)(_:l<top):(m+n)%P=l:=by
 have u:=hG.hP;have v:=hG.hP2;have c:k=0\/k=1:=oM;have d:j=0\/j=1:=oM;have:m+n=l+P:=by
  rcases c with h|h<;>rcases d with b|b<;>rw[h]at o<;>rw[b]at p<;>first|omega|(exfalso;exact i ⟨h,b⟩)
 rw[this,yDB,XX oM]
theorem or2(a b:Nat)(e:a<=1)(d:b<=1):∃o:Nat,bits .or .u64 (a:Int) (b:Int)=(o:Int)/\(o=0↔(a=0/\b=0)):=by
 have k:a=0\/a=1:=oM;have c:b=0\/b=1:=oM;rcases k with rfl|rfl<;>rcases c with rfl|rfl
 ·exact⟨0,dK,dC⟩
 ·exact⟨1,dK,dC⟩
 ·exact⟨1,dK,dC⟩
 ·exact⟨1,dK,dC⟩
theorem Kt{P m n s:Nat}(c:m<P)(b:n<P)(k:s+n=m+top*0):(m+P-n)%P=s:=by
 rw[show m+P-n=s+P by omega,yDB,XX oM]
theorem Ku{e b d P m n s l j:Nat}(hG:Gap e b d P)(_:m<P)(o:n<P)(r:s+n=m+top*1)(f:l+val e b d 0=s+top*j)(i:j<=1)(g:l<top)(q:s<top):(m+P-n)%P=l:=by
 have p:=hG.hP;have k:j=0\/j=1:=oM;have:m+P-n=l:=by
  rcases k with c|c<;>rw[c]at f<;>omega
 rw[this,XX oM]
theorem sum_any(L J K P:Nat)(x y:Xu)(m n:Nat)(hG:Gap L J K P)(hx:Four x m)(W:Four y n)(Z:m<P)(hn:n<P)(w:Xs):
 XH prog 98 #[.agg #[uZ L,uZ J,uZ K,uZ 0],x,y] w (rZ w λe w'=>Four e ((m+n)%P)):=by
 obtain⟨a,b,c,d,rfl,ha,hb,hc,hd,em⟩:=id hx;obtain⟨p,q,r,s,rfl,hp,hq,hr,hs,en⟩:=id W;clear em en ha hb hc hd hp hq hr hs;go_enter func98,ntmps98;go_wp2_with fail
 have u:=CX w 78 76 76 76 L J K 0 a b c d p q r s 0 0 0 0;simp only[Zy]at u;generalize Z0 _ _=W0 at u⊢;generalize h3:w.heap.size+1+1+1=k3 at u⊢;generalize h2:w.heap.size+1+1=k2 at u⊢;generalize h1:w.heap.size+1=k1 at u⊢;have S:Hid (w.heap.size<=k3):=by unfold Hid;omega
 generalize h0:w.heap.size=k0 at u S⊢;have H0:Hid (w.heap.size=k0):=h0;have U:k0≠k3:=oM;clear h0 h1 h2 h3;refine(rL _ _ _ _ hx W _).mono ?_;rintro e w1 ⟨v,rfl,V,v2,t,k,rfl,⟨H,b1,c1,G,rfl,D,l,F,z,Q⟩,hk,N⟩;have X:Hid (val H b1 c1 G+top*k=m+n):=by unfold Hid;rw[<-Q];exact N
 clear Q N;replace u:=u.call V;have f:=(u.alloc (.cells #[uZ H,uZ b1,uZ c1,uZ G] 76)).cons (At4.made w1 76 H b1 c1 G rfl).blk;have m0:=ZX u.head.lt;have m3:=ZX u.tail.tail.tail.head.lt;obtain⟨h6,hi,hw,hl,pf⟩:=f.tail.head.at4;have z0:=f.tail.head.lt;go_wp2_with fail
 refine(rL _ _ _ _ (Four.mk D l F z rfl) (Four.mk hG.h0 hG.h1 hG.h2 dC rfl) _).mono ?_;rintro e w2 ⟨v,rfl,R,v3,t2,j,rfl,⟨a2,O,c2,M,rfl,E,i,B,A,Q⟩,hj,N⟩;have I:Hid (val a2 O c2 M+top*j=val H b1 c1 G+val L J K 0):=by unfold Hid;rw[<-Q];exact N
 replace f:=f.call R;have HG:=mk1 (hG);have Y:=mk2 Z hn;clear hG Z hn hx W m0 U;generalize w1.heap.size=k4 at f m3⊢;obtain⟨ht,k5,h4,h7,sf⟩:=f.head.at4;obtain⟨h9,hg,h8,h5,rf⟩:=f.tail.tail.tail.tail.head.at4;have z4:=f.head.lt;have z3:=f.tail.tail.tail.tail.head.lt;obtain⟨o,ho,C⟩:=or2 k j hk hj;by_cases T:k=0/\j=0
 ·obtain⟨rfl,rfl⟩:=T;obtain rfl:o=0:=C.2 ⟨rfl,rfl⟩;clear C;replace ho:bits .or .u64 0 0=0:=ho;go_wp2;have g:=(f.tail.tail.tail.tail.head.at4.self4 H b1 c1 G).alloc (.cells #[uZ a2,uZ O,uZ c2,uZ M] 76);unfold set4 at g;refine XE (v:=?v0) ?hr0 rfl ?hR0
  case hr0=>simp[results,Tryz.results98,go_sem,g.c0,g.c1,g.c2,g.c3];rfl
  refine⟨_,rfl,?_,Four.mk D l F z (N5 HG.out X.out I.out (nI E i B A))⟩;rw[H0.out];exact(aK f.bl S.out _ _ _ _).alloc (by simpa[set4]using f.le) _
 ·have hu:¬o=0:=λh=>T (C.1 h)
  go_wp2;have g:=(f.tail.tail.tail.tail.head.at4.self4 a2 O c2 M).alloc (.cells #[uZ a2,uZ O,uZ c2,uZ M] 76);unfold set4 at g;refine XE (v:=?v1) ?hr1 rfl ?hR1
  case hr1=>simp[results,Tryz.results98,go_sem,g.c0,g.c1,g.c2,g.c3];rfl
  refine⟨_,rfl,?_,Four.mk E i B A (N6 HG.out Y.1 Y.2 X.out I.out hk hj T (nI D l F z) (nI E i B A))⟩;rw[H0.out];exact(aK f.bl S.out _ _ _ _).alloc (by simpa[set4]using f.le) _
theorem oJ(N K M P:Nat)(x y:Xu)(m n:Nat)(hG:Gap N K M P)(hx:Four x m)(hy:Four y n)(hm:m<P)(hn:n<P)(w:Xs):
 XH prog 178 #[.agg #[uZ N,uZ K,uZ M,uZ 0],x,y] w (rZ w λe w'=>Four e ((m+P-n)%P)):=by
 obtain⟨a,b,c,d,rfl,ha,hb,hc,hd,em⟩:=id hx;obtain⟨p,q,r,s,rfl,hp,hq,hr,hs,en⟩:=id hy;clear em en ha hb hc hd hp hq hr hs;go_enter func178,ntmps178;go_wp2_with fail
 have g:=CX w 78 76 76 76 N K M 0 a b c d p q r s 0 0 0 0;simp only[Zy]at g;generalize Z0 _ _=W0 at g⊢;generalize h3:w.heap.size+1+1+1=k3 at g⊢;generalize h2:w.heap.size+1+1=k2 at g⊢;generalize h1:w.heap.size+1=k1 at g⊢;have R:Hid (w.heap.size<=k3):=by unfold Hid;omega
 generalize h0:w.heap.size=k0 at g R⊢;have H0:=mk1 (h0);refine(tW _ _ _ _ hx hy _).mono ?_;rintro e w1 ⟨v,rfl,V,v2,t,k,rfl,⟨C,b1,c1,B,rfl,z,l,A,u,W⟩,hk,T⟩;have Z:Hid (val C b1 c1 B+n=m+top*k):=by unfold Hid;rw[<-W];exact T
 replace g:=g.call V;have f:=(g.alloc (.cells #[uZ C,uZ b1,uZ c1,uZ B] 76)).cons (At4.made w1 76 C b1 c1 B rfl).blk;have m0:=ZX g.head.lt;have m3:=ZX g.tail.tail.tail.head.lt;have O:=mk1 (hG);have L:=mk2 hm hn;have Q4:=mk1 (g.le);have X:k=0\/k=1:=oM;obtain⟨H,I,F,D,rf⟩:=g.tail.tail.tail.head.at4;have z3:=g.tail.tail.tail.head.lt;rcases X with rfl|rfl
 ·clear f;go_wp2;have i:=(g.tail.tail.tail.head.at4.self4 C b1 c1 B).alloc (.cells #[uZ C,uZ b1,uZ c1,uZ B] 76);unfold set4 at i;refine XE (v:=?v0) ?hr0 rfl ?hR0
  case hr0=>simp[results,Tryz.results178,go_sem,i.c0,i.c1,i.c2,i.c3];rfl
  refine⟨_,rfl,?_,Four.mk z l A u (Kt L.1 L.2 Z.out)⟩;rw[H0.out];exact(aK g.bl R.out _ _ _ _).alloc (by simpa[set4]using g.le) _
 ·clear g H I F D rf z3;obtain⟨h5,h7,hg,h8,pf⟩:=f.tail.head.at4;have z0:=f.tail.head.lt;go_wp2_with fail
  refine(tW _ _ _ _ (Four.mk z l A u rfl) (Four.mk O.h0 O.h1 O.h2 dC rfl) _).mono ?_;rintro e w2 ⟨v,rfl,Q,v3,t2,j,rfl,⟨a2,U,c2,S,rfl,J,o,G,E,W⟩,hj,T⟩;have Y:Hid (val a2 U c2 S+val N K M 0=val C b1 c1 B+top*j):=by unfold Hid;rw[<-W];exact T
  replace f:=f.call Q;obtain⟨h9,hi,h4,h6,sf⟩:=f.head.at4;obtain⟨H,I,F,D,rf⟩:=f.tail.tail.tail.tail.head.at4;have z4:=f.head.lt;have z3:=f.tail.tail.tail.tail.head.lt;go_wp2;have i:=(f.tail.tail.tail.tail.head.at4.other4 m3.symm (uZ a2) (uZ U) (uZ c2) (uZ S)).self4 a2 U c2 S;unfold set4 at i;refine XE (v:=?v1) ?hr1 rfl ?hR1
  case hr1=>simp[results,Tryz.results178,go_sem,i.c0,i.c1,i.c2,i.c3];rfl
  refine⟨_,rfl,?_,Four.mk J o G E (Ku O.out L.1 L.2 Z.out Y.out hj (nI J o G E) (nI z l A u))⟩;rw[H0.out];exact aK (aK f.bl Q4.out _ _ _ _) R.out _ _ _ _
theorem JP{a b c d n m i s0 t0 u0 g e k f:Nat}(l:m=val a b c d)
 (o:i+18446744073709551616*g=a*n+val 0 0 0 0)
 (j:s0+18446744073709551616*e=b*n+g)
 (p:t0+18446744073709551616*k=c*n+e)
 (e3:u0+18446744073709551616*f=d*n+k) :
 val i s0 t0 u0+top*f=m*n:=by
 have j:val a b c d*n=val (a*n) (b*n) (c*n) (d*n):=by
  rw[YF,Gn,YF n a,YF n b,YF n c,YF n d]
 rw[l,j];unfold val at *;unfold top;omega
theorem dM(g0 g1 g2 P:Nat)(x y:Xu)(m n:Nat)(hG:Gap g0 g1 g2 P)(hx:Four x m)(U:Four y n)(w:Xs):
 XH prog 100 #[.agg #[uZ g0,uZ g1,uZ g2,uZ 0],x,y] w (rZ w λe w'=>Four e (m*n%P)):=by
 obtain⟨a,b,c,d,rfl,ha,hb,hc,hd,em⟩:=hx;obtain⟨p,q,r,s,rfl,hp,hq,hr,hs,en⟩:=id U;have HM:Hid (m=val a b c d):=em;clear em en;go_enter func100,ntmps100;go_wp2_with fail
 have E:=CX w 78 76 76 76 g0 g1 g2 0 a b c d p q r s 0 0 0 0;simp only[Zy]at E;have PR:=E.head.at4;have X:=E.tail.head.at4;have Y:=E.tail.tail.head.at4;have f:=E.tail.tail.tail.head.at4;have BL:Hid (Below w.heap.size w _):=E.bl;clear E;generalize Z0 _ _=w1 at X Y PR f BL⊢;generalize h3:w.heap.size+1+1+1=k3 at f⊢;generalize h2:w.heap.size+1+1=k4 at Y⊢;generalize h1:w.heap.size+1=k1 at X⊢;have Q3:Hid (w.heap.size<=k3):=by unfold Hid;omega
 generalize h0:w.heap.size=D at PR BL Q3⊢;have ke:D≠k3:=oM;have kb:k1≠k3:=oM;have H0:Hid (w.heap.size=D):=h0;clear h0 h1 h2 h3;refine(kF a _ _ _ _ ha U (Four.mk (a:=0) (b:=0) (c:=0) (d:=0) dC dC dC dC rfl) _).mono ?_;rintro e w2 ⟨v,rfl,i,l0,v2,t0,rfl,h4,⟨a0,b0,c0,d0,rfl,hn,k6,k7,hz,z⟩,u⟩;have hj:Hid (l0+18446744073709551616*val a0 b0 c0 d0=a*n+val 0 0 0 0):=by unfold Hid;rw[<-z];exact u
 clear u z;replace BL:Hid (Below D w w2):=zO BL PR i;replace X:=X.call i;replace Y:=Y.call i;replace f:=f.call i;replace PR:=PR.call i;obtain⟨L,J,O,M,xf⟩:=id X;have z1:=X.lt;obtain⟨Q,K,V,S,yf⟩:=id Y;have z4:=Y.lt;obtain⟨o,t,l,j,rf⟩:=id f;have z3:=f.lt;obtain⟨A,B,F,C,pf⟩:=id PR;have z0:=PR.lt;go_wp2_with fail
 refine(kF b _ _ _ _ hb U (Four.mk hn k6 k7 hz rfl) _).mono ?_;rintro e w3 ⟨v,rfl,g,l1,v3,t1,rfl,h9,⟨a1,b1,c1,d1,rfl,hk,hw,k2,h6,z⟩,u⟩;have ht:Hid (l1+18446744073709551616*val a1 b1 c1 d1=b*n+val a0 b0 c0 d0):=by unfold Hid;rw[<-z];exact u
 have G:=ZX PR.lt;have j1:=ZX X.lt;have j3:=ZX f.lt;have j4:=ZX Y.lt;have J0:=mk1 (yAl PR.lt);have T:=(At4.made w2 76 a0 b0 c0 d0 rfl).call g;replace BL:Hid (Below D w w3):=zO (W:=w2.alloc (.cells #[uZ a0,uZ b0,uZ c0,uZ d0] 76)) (BL.alloc (yAl PR.lt) _) (PR.alloc _) g;replace X:=(X.alloc _).call g;replace Y:=(Y.alloc _).call g;replace f:=(f.alloc _).call g;replace PR:=(PR.alloc _).call g;obtain⟨L,J,O,M,xf⟩:=id X;have z1:=X.lt;obtain⟨Q,K,V,S,yf⟩:=id Y;have z4:=Y.lt;obtain⟨o,t,l,j,rf⟩:=id f;have z3:=f.lt;obtain⟨A,B,F,C,pf⟩:=id PR;have z0:=PR.lt;obtain⟨H,R,Z,N,tf⟩:=id T;have z5:=T.lt;go_wp2_with fail
 refine(kF c _ _ _ _ hc U (Four.mk hk hw k2 h6 rfl) _).mono ?_;rintro e w4 ⟨v,rfl,k,l2,v4,t4,rfl,hm,⟨a2,b2,c2,d2,rfl,hl,i,hg,h7,z⟩,u⟩;have hi:Hid (l2+18446744073709551616*val a2 b2 c2 d2=c*n+val a1 b1 c1 d1):=by unfold Hid;rw[<-z];exact u
 replace BL:Hid (Below D w w4):=zO (aK BL.out J0.out _ _ _ _) (PR.other4 G.symm _ _ _ _) k;replace X:=(X.other4 j1.symm _ _ _ _).call k;replace Y:=(Y.other4 j4.symm _ _ _ _).call k;replace f:=(f.other4 j3.symm _ _ _ _).call k;replace PR:=(PR.other4 G.symm _ _ _ _).call k;replace T:=(T.self4 a1 b1 c1 d1).call k;obtain⟨L,J,O,M,xf⟩:=id X;have z1:=X.lt;obtain⟨Q,K,V,S,yf⟩:=id Y;have z4:=Y.lt;obtain⟨o,t,l,j,rf⟩:=id f;have z3:=f.lt;obtain⟨A,B,F,C,pf⟩:=id PR;have z0:=PR.lt;obtain⟨H,R,Z,N,tf⟩:=id T;have z5:=T.lt;go_wp2_with fail
 refine(kF d _ _ _ _ hd U (Four.mk hl i hg h7 rfl) _).mono ?_;rintro e w5 ⟨v,rfl,k,l3,v4,t4,rfl,k5,⟨a3,b3,c3,d3,rfl,h5,g,h8,hu,z⟩,u⟩;have k8:Hid (l3+18446744073709551616*val a3 b3 c3 d3=d*n+val a2 b2 c2 d2):=by unfold Hid;rw[<-z];exact u
 replace BL:Hid (Below D w w5):=zO (aK BL.out J0.out _ _ _ _) (PR.other4 G.symm _ _ _ _) k;replace X:=(X.other4 j1.symm _ _ _ _).call k;replace Y:=(Y.other4 j4.symm _ _ _ _).call k;replace f:=(f.other4 j3.symm _ _ _ _).call k;replace PR:=(PR.other4 G.symm _ _ _ _).call k;replace T:=(T.self4 a2 b2 c2 d2).call k;obtain⟨o,t,l,j,rf⟩:=id f;have z3:=f.lt;obtain⟨A,B,F,C,pf⟩:=id PR;have z0:=PR.lt;obtain⟨H,R,Z,N,tf⟩:=id T;have z5:=T.lt;go_wp2_with fail
 refine(yS g0 g1 g2 _ _ _ _ P hG.h0 hG.h1 hG.h2 hG.hor hG.hP hG.hP2 (Four.mk h4 h9 hm k5 rfl) (Four.mk h5 g h8 hu rfl) _).mono ?_;rintro e w6 ⟨v,rfl,k,hv⟩;rw[JP HM.out hj.out ht.out hi.out k8.out]at hv;replace BL:Hid (Below D w w6):=zO (aK BL.out J0.out _ _ _ _) (PR.other4 G.symm _ _ _ _) k;replace f:=(f.other4 j3.symm _ _ _ _).call k;replace PR:=(PR.other4 G.symm _ _ _ _).call k;obtain⟨a7,b7,c7,d7,rfl,ka,kd,kc,kf,k9⟩:=id hv;have HV:=mk1 (hv);obtain⟨o,t,l,j,rf⟩:=id f;have z3:=f.lt;go_wp2;have I:=f.self4 a7 b7 c7 d7;unfold set4 at I;refine XE (v:=?v) ?hr rfl ?hR
 case hr=>simp[results,Tryz.results100,go_sem,I.c0,I.c1,I.c2,I.c3];rfl
 refine⟨_,rfl,?_,HV.out⟩;rw[H0.out];exact aK BL.out Q3.out _ _ _ _
theorem A6{w W:Xs}{k e f a b c d p q r s g i j:Nat}(h:Kept w k [⟨k,0,g,i,j,0⟩,⟨e,0,a,b,c,d⟩,⟨f,0,p,q,r,s⟩] W):W.cell? ⟨k,0,none⟩=some (uZ g)/\W.cell? ⟨k,1,none⟩=some (uZ i)/\W.cell? ⟨k,2,none⟩=some (uZ j)/\W.cell? ⟨k,3,none⟩=some (uZ 0)/\W.cell? ⟨e,0,none⟩=some (uZ a)/\W.cell? ⟨e,1,none⟩=some (uZ b)/\W.cell? ⟨e,2,none⟩=some (uZ c)/\W.cell? ⟨e,3,none⟩=some (uZ d)/\W.cell? ⟨f,0,none⟩=some (uZ p)/\W.cell? ⟨f,1,none⟩=some (uZ q)/\W.cell? ⟨f,2,none⟩=some (uZ r)/\W.cell? ⟨f,3,none⟩=some (uZ s)/\Kept w k [⟨k,0,g,i,j,0⟩,⟨e,0,a,b,c,d⟩,⟨f,0,p,q,r,s⟩] W:=
 ⟨h.head.c0,h.head.c1,h.head.c2,h.head.c3,h.tail.head.c0,h.tail.head.c1,h.tail.head.c2,h.tail.head.c3,h.tail.tail.head.c0,h.tail.tail.head.c1,h.tail.tail.head.c2,h.tail.tail.head.c3,h⟩
theorem sW(t l o:Nat)(x y:Xu)(m n R:Nat)(hx:Four x m)(N:Four y n)(w:Xs):((∀w,XH prog 98 #[.agg #[.int .u64 t,.int .u64 l,.int .u64 o,.int .u64 0],x,y] w (Ret λe w'=>Below w.heap.size w w'/\Four e R))->XH prog 50 #[.agg #[.int .u64 t,.int .u64 l,.int .u64 o,.int .u64 0],x,y] w (Ret λe w'=>Below w.heap.size w w'/\Four e R))/\((∀w,XH prog 178 #[.agg #[.int .u64 t,.int .u64 l,.int .u64 o,.int .u64 0],x,y] w (Ret λe w'=>Below w.heap.size w w'/\Four e R))->XH prog 121 #[.agg #[.int .u64 t,.int .u64 l,.int .u64 o,.int .u64 0],x,y] w (Ret λe w'=>Below w.heap.size w w'/\Four e R))/\((∀w,XH prog 100 #[.agg #[.int .u64 t,.int .u64 l,.int .u64 o,.int .u64 0],x,y] w (Ret λe w'=>Below w.heap.size w w'/\Four e R))->XH prog 51 #[.agg #[.int .u64 t,.int .u64 l,.int .u64 o,.int .u64 0],x,y] w (Ret λe w'=>Below w.heap.size w w'/\Four e R)):=by
 obtain⟨a,b,c,d,rfl,ha,Y,W,hd,em⟩:=id hx;obtain⟨p,q,r,s,rfl,hp,hq,hr,hs,en⟩:=id N;have HX:=mk1 (hx);have Z:=mk1 (N);refine⟨λJ=>?_,λJ=>?_,λJ=>?_⟩;all_goals replace J:Hid _:=J
 all_goals clear em en hx N ha Y W hd hp hq hr hs
 case' refine_1=>go_enter func50,ntmps50
 case' refine_2=>go_enter func121,ntmps121
 case' refine_3=>go_enter func51,ntmps51
 all_goals
  go_wp2_with fail
  have g:=CX w 78 42 42 42 t l o 0 a b c d p q r s 0 0 0 0;simp only[Zy]at g;generalize h3:w.heap.size+1+1+1=Q at g⊢;generalize h2:w.heap.size+1+1=F at g⊢;generalize h1:w.heap.size+1=E at g⊢;have L:Hid (w.heap.size<=Q):=by unfold Hid;omega
  generalize h0:w.heap.size=C at g L⊢;have H0:Hid (w.heap.size=C):=h0;have H:∀x∈([⟨C,0,t,l,o,0⟩,⟨E,0,a,b,c,d⟩,⟨F,0,p,q,r,s⟩]:List Blk),Q≠x.k:=by simp only[List.mem_cons,X5,or_false];rintro x (rfl|rfl|rfl)<;>simp only<;>omega
  have i:=(((Kept.mk1 g.bl g.le).cons g.tail.tail.head).cons g.tail.head).cons g.head;have T3:=g.tail.tail.tail.head.at4;obtain⟨z,A,B,u,K⟩:=id T3;have M:=T3.lt;go_region_held3 (λw'=>w'.cell? ⟨C,0,none⟩=some (.int .u64 t)/\w'.cell? ⟨C,1,none⟩=some (.int .u64 l)/\w'.cell? ⟨C,2,none⟩=some (.int .u64 o)/\w'.cell? ⟨C,3,none⟩=some (.int .u64 0)/\w'.cell? ⟨E,0,none⟩=some (.int .u64 a)/\w'.cell? ⟨E,1,none⟩=some (.int .u64 b)/\w'.cell? ⟨E,2,none⟩=some (.int .u64 c)/\w'.cell? ⟨E,3,none⟩=some (.int .u64 d)/\w'.cell? ⟨F,0,none⟩=some (.int .u64 p)/\w'.cell? ⟨F,1,none⟩=some (.int .u64 q)/\w'.cell? ⟨F,2,none⟩=some (.int .u64 r)/\w'.cell? ⟨F,3,none⟩=some (.int .u64 s)/\Kept w C [⟨C,0,t,l,o,0⟩,⟨E,0,a,b,c,d⟩,⟨F,0,p,q,r,s⟩] w') (first|(with_reducible exact A6 i)|(with_reducible exact A6 i.drew)|(with_reducible exact A6 (i.set4' L.out H _ _ _ _))|(with_reducible exact A6 (i.set4' L.out H _ _ _ _).drew)|fail) (first|(go_at_call_of 55 (X6 #[YQ .u64 a,YQ .u64 b,YQ .u64 c,YQ .u64 d]);refine(jV _ _ HX.out _).mono ?_;rintro e P ⟨v,rfl,k,rfl⟩;(first|(with_reducible (have f:=i.drew.call k))|(with_reducible (have f:=i.call k))|fail);(first|(with_reducible (have j:=T3.drew.call k))|(with_reducible (have j:=T3.call k))|fail);clear i T3 k;have i:=f;have T3:=j;clear f j;obtain⟨z,A,B,u,K⟩:=id T3;have M:=T3.lt)|(go_at_call_of 55 (X6 #[YQ .u64 p,YQ .u64 q,YQ .u64 r,YQ .u64 s]);refine(jV _ _ Z.out _).mono ?_;rintro e P ⟨v,rfl,k,rfl⟩;(first|(with_reducible (have f:=i.drew.call k))|(with_reducible (have f:=i.call k))|fail);(first|(with_reducible (have j:=T3.drew.call k))|(with_reducible (have j:=T3.call k))|fail);clear i T3 k;have i:=f;have T3:=j;clear f j;obtain⟨z,A,B,u,K⟩:=id T3;have M:=T3.lt)|((first|go_at_call 98|go_at_call 178|go_at_call 100);refine(J _).mono ?_;rintro e P ⟨v,rfl,k,D⟩;obtain⟨U,T,S,V,rfl,h6,h4,h5,X,O⟩:=id D;clear O;have I:Hid (Four _ _):=D;clear D;(first|(with_reducible (have f:=i.drew.call k))|(with_reducible (have f:=i.call k))|fail);(first|(with_reducible (have j:=T3.drew.call k))|(with_reducible (have j:=T3.call k))|fail);clear i T3 k;have i:=f;have T3:=j;clear f j;obtain⟨z,A,B,u,K⟩:=id T3;have M:=T3.lt)|(go_at_call 99;refine(jR _ _ I.out _).mono ?_;rintro e P ⟨v,rfl,k,rfl⟩;(first|(with_reducible (have f:=i.drew.call k))|(with_reducible (have f:=i.call k))|fail);(first|(with_reducible (have j:=T3.drew.call k))|(with_reducible (have j:=T3.call k))|fail);clear i T3 k;have i:=f;have T3:=j;clear f j;obtain⟨z,A,B,u,K⟩:=id T3;have M:=T3.lt))
  all_goals (try go_wp2)
  all_goals (have G:=T3.self4 U T S V)
  all_goals unfold set4 at G
  all_goals (refine XE (v:=(.agg #[.int .u64 U,.int .u64 T,.int .u64 S,.int .u64 V])) ?_ rfl ?_)
  all_goals first|(refine⟨_,rfl,?_,I.out⟩;rw[H0.out];exact aK i.bl L.out _ _ _ _)|(simp[results,Tryz.results50,Tryz.results121,Tryz.results51,go_sem,G.c0,G.c1,G.c2,G.c3];done)|fail
theorem Du(k b c P:Nat)(x y:Xu)(m n:Nat)(hG:Gap k b c P)(hx:Four x m)(d:Four y n)(g:m<P)(f:n<P)(w:Xs):
 XH prog 50 #[.agg #[uZ k,uZ b,uZ c,uZ 0],x,y] w (rZ w λe w'=>Four e ((m+n)%P)):=
 (sW k b c x y m n _ hx d w).1 (λw=>sum_any k b c P _ _ m n hG hx d g f w)
theorem uM(k b c P:Nat)(x y:Xu)(m n:Nat)(hG:Gap k b c P)(hx:Four x m)(d:Four y n)(g:m<P)(f:n<P)(w:Xs):
 XH prog 121 #[.agg #[uZ k,uZ b,uZ c,uZ 0],x,y] w (rZ w λe w'=>Four e ((m+P-n)%P)):=
 (sW k b c x y m n _ hx d w).2.1 (λw=>oJ k b c P _ _ m n hG hx d g f w)
theorem qA(k b c P:Nat)(x y:Xu)(m n:Nat)(hG:Gap k b c P)(hx:Four x m)(d:Four y n)(w:Xs):
 XH prog 51 #[.agg #[uZ k,uZ b,uZ c,uZ 0],x,y] w (rZ w λe w'=>Four e (m*n%P)):=
 (sW k b c x y m n _ hx d w).2.2 (λw=>dM k b c P _ _ m n hG hx d w)
theorem Mj(m i s:Nat):m/2^i%2^(s+1)=2*(m/2^(i+1)%2^s)+m/2^i%2:=by
 have e:m/2^(i+1)=m/2^i/2:=by rw[Zf,yAq]
 rw[e,Zf,YF (2^s),Nat.mod_mul];omega
theorem low_bit(y z r:Nat)(d:r<64)(c:z=y%18446744073709551616):z/2^r%2=y/2^r%2:=by
 have e:(18446744073709551616:Nat)=2^r*(2*2^(63-r)):=by
  rw[<-yAB,<-Zf,<-yAX,show r+1+(63-r)=64 by omega]
 have b:0<2^r:=yAM dC;have f:y/2^r=2*(2^(63-r)*(y/18446744073709551616))+z/2^r:=by
  have k:y=2^r*(2*(2^(63-r)*(y/18446744073709551616)))+z:=by
   have:=yCL y 18446744073709551616;rw[c];rw[e]at this⊢;rw[yAB,yAB]at this;exact this.symm
  conv=>lhs;rw[k]
  rw[Nat.mul_add_div b]
 omega
def wd(a b c d q:Nat):Nat:=if q=0 then a else if q=1 then b else if q=2 then c else d
theorem Po{a b c d:Nat}(q:Nat)(f:a<18446744073709551616)(e:b<18446744073709551616)(k:c<18446744073709551616)(hd:d<18446744073709551616):wd a b c d q<18446744073709551616:=by
 unfold wd;split;exact f;split;exact e;split;exact k;exact hd
theorem Tt{a b c d:Nat}(q:Nat)(k:q<4)(g:a<18446744073709551616)(f:b<18446744073709551616)(e:c<18446744073709551616)(hd:d<18446744073709551616):
 wd a b c d q=val a b c d/2^(64*q)%18446744073709551616:=by
 have h:q=0\/q=1\/q=2\/q=3:=oM;rcases h with rfl|rfl|rfl|rfl
 ·show a=val a b c d/1%_;unfold val;omega
 ·show b=val a b c d/18446744073709551616%_;unfold val;omega
 ·show c=val a b c d/340282366920938463463374607431768211456%_;unfold val;omega
 ·show d=val a b c d/6277101735386680763835789423207666416102355444464034512896%_;unfold val;omega
theorem Jc{a b c d:Nat}(i:Nat)(g:i<256)(f:a<18446744073709551616)(e:b<18446744073709551616)(k:c<18446744073709551616)(hd:d<18446744073709551616):
 wd a b c d (i/64)/2^(i%64)%2=val a b c d/2^i%2:=by
 rw[low_bit _ _ (i%64) oM (Tt (i/64) oM f e k hd),yAq,<-yAX,show 64*(i/64)+i%64=i by omega]
theorem kN(a P k:Nat):a^k%P*(a^k%P)%P=a^(2*k)%P:=by
 rw[<-Z8,<-yAX,Nat.two_mul]
theorem Cx(a P k l:Nat):a^k%P*(a^l%P)%P=a^(k+l)%P:=by
 rw[<-Z8,<-yAX]
theorem Bq(a P k:Nat):a^k%P*a%P=a^(k+1)%P:=by
 rw[Zf,Z8,Nat.mod_mod,<-Z8]
theorem OH(e i:Nat):e/2^i=16*(e/2^(i+4))+e/2^i%2^4:=by
 rw[yAX,<-yAq];have:=yCL (e/2^i) (2^4);omega
theorem D8(a b c d:Nat):
 val (a/4+b*4611686018427387904%18446744073709551616) (b/4+c*4611686018427387904%18446744073709551616) (c/4+d*4611686018427387904%18446744073709551616) (d/4)=val a b c d/4:=by
 unfold val;omega
theorem At4.wd{w:Xs}{k a b c d:Nat}(h:At4 w k a b c d)(q:Nat)(f:q<4):w.cell? ⟨k,q,none⟩=some (uZ (wd a b c d q:Int)):=by
 have e:q=0\/q=1\/q=2\/q=3:=oM;rcases e with rfl|rfl|rfl|rfl
 ·exact h.c0
 ·exact h.c1
 ·exact h.c2
 ·exact h.c3
theorem A5(n:Nat)(h:n<9223372036854775808):Yh.wrap (n:Int)=(n:Int):=by rw[Zc];omega
theorem or_bit(b t:Nat)(d:b<4294967296)(c:t<2):bits .or .i64 ((2*b:Nat):Int) (t:Int)=((2*b+t:Nat):Int):=by
 rw[(bits_nat .i64 40 dC (λn e k=>by rw[Zc];omega) (2*b) t oM oM).2];have:=yBf (i:=1) (b:=t) oM b;rw[show 2^1*b=2*b from rfl]at this;rw[<-this]
theorem and_one(v:Nat)(hv:v<18446744073709551616):bits .and .u64 (v:Int) 1=((v%2:Nat):Int):=by
 have:=bits_and_u64_nat v 1 hv oM;rw[show v &&& 1=v%2 from Nat.and_one_is_mod v]at this;exact this
theorem zP{m f c g:Nat}(k:m<top)(h:g=c\/f+g=256):m/2^(f+g)%2^(c-g)=0:=by
 rcases h with rfl|h
 ·rw[yA8,yBo,yEw]
 ·rw[h,yAm (by exact k),Nat.zero_mod]
theorem AS{m f g c:Nat}(k:0<g)(b:g<=c):m/2^(f+(g-1))%2^(c-(g-1))=2*(m/2^(f+g)%2^(c-g))+m/2^(f+(g-1))%2:=by
 rw[show c-(g-1)=c-g+1 by omega,Mj,show f+(g-1)+1=f+g by omega]
theorem DC(x:Xu)(m f c:Nat)(hx:Four x m)(hf:f<=256)(W:c<=32)(w:Xs):
 XH prog 198 #[x,iZ f,iZ c] w (rZ w λe w'=>e=iZ ((m/2^f%2^c:Nat):Int)):=by
 obtain⟨l,o,p,n,rfl,E,D,G,I,V⟩:=id hx;have T:=mk1 (hx);have HL:=mk5 E D G I V;have P:=mk1 (T.lt);obtain⟨R,hR⟩:∃R,m/2^f%2^c=R:=⟨_,rfl⟩
 have Q:=mk1 (hR);rw[hR];by_cases U:(f:Int)+(c:Int)<=256
 ·have O:¬(256:Int)<(f:Int)+(c:Int):=oM;go_enter func198,ntmps198;go_wp2;have X:=At4.made w 42 l o p n rfl;have BL:=mk1 (aC w (.cells #[uZ l,uZ o,uZ p,uZ n] 42));generalize Z0 _ _=L at X BL⊢;go_loopg [7,8] c (λgk s7 s8 wr=>gk<=c/\f+gk<=256/\s7=iZ ((m/2^(f+gk)%2^(c-gk):Nat):Int)/\s8=iZ ((f:Int)+(gk:Int)-1)/\L=wr)
  case atStart=>exact⟨oM,oM,by rw[zP P.out (X9 rfl)];rfl,by congr 1<;>omega,rfl⟩
  case round =>
   obtain⟨q,K,rfl,rfl,rfl⟩:=hrel;by_cases H:gk=0
   ·subst H;have N:¬(f:Int)<=(f:Int)+((0:Nat):Int)-1:=oM;rw[yAi,yBx,Q.out];go_wp2;go_ret;exact⟨_,rfl,BL.out,rfl⟩
   ·obtain⟨i,z⟩:∃i,f+(gk-1)=i:=⟨_,rfl⟩
    have F:(f:Int)+(gk:Int)-1=(i:Int):=oM;have N:(f:Int)<=(i:Int):=oM;have r:i<256:=oM;have M:=X.wd (i/64) oM;have j:wd l o p n (i/64)<18446744073709551616:=Po _ HL.1 HL.2.1 HL.2.2.1 HL.2.2.2.1;have k:wd l o p n (i/64)/2^(i%64)%2=m/2^i%2:=by rw[HL.2.2.2.2];exact Jc i r HL.1 HL.2.1 HL.2.2.1 HL.2.2.2.1
    have Z:(i:Int).tdiv 64=((i/64:Nat):Int):=by rw[yAF oM];omega
    have i3:(i:Int).tmod 64=((i%64:Nat):Int):=by rw[Int.tmod_eq_emod_of_nonneg oM];omega
    have Y:(i/64:Nat)<4:=oM;generalize wd l o p n (i/64)=v at M j k;have s:v/2^(i%64)<18446744073709551616:=yDr (yD1 _ _) j;have d:bits .and .u64 ((v:Int)/2^(i%64)) 1=((m/2^i%2:Nat):Int):=by
     have:=and_one (v/2^(i%64)) s;rw[k]at this;rw[<-this,yBK,yCM];rfl
    obtain⟨t,a⟩:∃t,m/2^i%2=t:=⟨_,rfl⟩
    have u:t<2:=oM;have y:=AS (m:=m) (f:=f) (g:=gk) (c:=c) oM q;rw[z,a]at y;have b:m/2^(f+gk)%2^(c-gk)<4294967296:=Xz (Y9 _ (yAM dC)) (show 2^(c-gk)<=2^32 from Y4 dC oM);rw[a]at d;generalize m/2^(f+gk)%2^(c-gk)=B at y b⊢;have hor:=or_bit B t b u;have C:Yh.wrap ((B:Int)*2)=((2*B:Nat):Int):=by rw[show(B:Int)*2=((2*B:Nat):Int) by omega];exact A5 _ oM
    have S:Yh.wrap (t:Int)=(t:Int):=A5 _ oM;have J:=mk1 (y);have A:=mk1 (z);have zx:=X.lt;rw[F];go_wp2;go_roundg (gk-1)
    case measure=>omega
    case rel =>
     refine⟨oM,oM,?_,?_,rfl⟩
     ·rw[A.out,J.out,<-hor,Z2];rfl
     ·congr 1;have:=A.out;omega
 ·have O:(256:Int)<(f:Int)+(c:Int):=oM;go_enter func198,ntmps198;go_wp2;have X:=At4.made w 42 l o p n rfl;have BL:=mk1 (aC w (.cells #[uZ l,uZ o,uZ p,uZ n] 42));generalize Z0 _ _=L at X BL⊢;go_loopg [7,8] (256-f) (λgk s7 s8 wr=>gk<=c/\f+gk<=256/\s7=iZ ((m/2^(f+gk)%2^(c-gk):Nat):Int)/\s8=iZ ((f:Int)+(gk:Int)-1)/\L=wr)
  case atStart=>exact⟨oM,oM,by rw[zP P.out (X0 oM)];rfl,by congr 1<;>omega,rfl⟩
  case round =>
   obtain⟨q,K,rfl,rfl,rfl⟩:=hrel;by_cases H:gk=0
   ·subst H;have N:¬(f:Int)<=(f:Int)+((0:Nat):Int)-1:=oM;rw[yAi,yBx,Q.out];go_wp2;go_ret;exact⟨_,rfl,BL.out,rfl⟩
   ·obtain⟨i,z⟩:∃i,f+(gk-1)=i:=⟨_,rfl⟩
    have F:(f:Int)+(gk:Int)-1=(i:Int):=oM;have N:(f:Int)<=(i:Int):=oM;have r:i<256:=oM;have M:=X.wd (i/64) oM;have j:wd l o p n (i/64)<18446744073709551616:=Po _ HL.1 HL.2.1 HL.2.2.1 HL.2.2.2.1;have k:wd l o p n (i/64)/2^(i%64)%2=m/2^i%2:=by rw[HL.2.2.2.2];exact Jc i r HL.1 HL.2.1 HL.2.2.1 HL.2.2.2.1
    generalize wd l o p n (i/64)=v at M j k;have s:v/2^(i%64)<18446744073709551616:=yDr (yD1 _ _) j;have d:bits .and .u64 ((v:Int)/2^(i%64)) 1=((m/2^i%2:Nat):Int):=by
     have:=and_one (v/2^(i%64)) s;rw[k]at this;rw[<-this,yBK,yCM];rfl
    obtain⟨t,a⟩:∃t,m/2^i%2=t:=⟨_,rfl⟩
    have u:t<2:=oM;have y:=AS (m:=m) (f:=f) (g:=gk) (c:=c) oM q;rw[z,a]at y;have b:m/2^(f+gk)%2^(c-gk)<4294967296:=Xz (Y9 _ (yAM dC)) (show 2^(c-gk)<=2^32 from Y4 dC oM);rw[a]at d;generalize m/2^(f+gk)%2^(c-gk)=B at y b⊢;have hor:=or_bit B t b u;have C:Yh.wrap ((B:Int)*2)=((2*B:Nat):Int):=by rw[show(B:Int)*2=((2*B:Nat):Int) by omega];exact A5 _ oM
    have J:=mk1 (y);have A:=mk1 (z);have zx:=X.lt;rw[F];go_wp2;go_roundg (gk-1)
    case measure=>omega
    case rel =>
     refine⟨oM,oM,?_,?_,rfl⟩
     ·rw[A.out,J.out,<-hor,Z2];rfl
     ·congr 1;have:=A.out;omega
end
section
open Go
section
variable {P:YG}{ops:Array Yo}{Q:Exit->Act->Xs->Prop}{S:Xs->Prop}{p:Nat}
def anyTill(P:YG)(k:Array Yo)(Q:Exit->Act->Xs->Prop)(S:Xs->Prop)(p:Nat):Nat->Array Bool->Act->Xs->Prop
 | 0,listed,a,w=>Yf .any k listed=[]/\Q .normal a w
 | fuel+1,listed,a,w=>(Yf .any k listed=[]->Q .normal a w) /\
  ∀i∈Yf .any k listed,wpOp P k Q i (λb w'=>((listed.setIfInBounds i true).getD p false=false->S w')/\anyTill P k Q S p fuel (listed.setIfInBounds i true) b w') a w
theorem anyTill.any:∀(b:Nat) (k:Array Bool) (a:Act) (w:Xs),anyTill P ops Q S p b k a w->wpAny P .any ops Q b k a w
 | 0,_,_,_,h=>h
 | b+1,_,_,_,h=>⟨h.1,λi c=>wpOp_mono (λd w' e=>anyTill.any b _ d w' e.2) (h.2 i c)⟩
theorem anyTill.first{i:Nat}{t op:Yo}{v:Xu}(J:ops[i]? = some t)(Y:ops[p]? = some op)(L:∃e∈op.after,YT .any e=true/\e.on=i)(N:p≠i)
 (n:∀(j:Nat) (o:Yo) cs b,ops[j]? = some o->o.op≠.select cs b) (U:∀c a w,Q (.panic c) (a.put t.dst v) w->Q (.panic c) a w) :
 ∀(g:Nat) (d:Array Bool) (a:Act) (w:Xs),d.getD p false=false ->
  (∀j s,ops[j]? = some s->j≠i->d.getD j true=false->(∀e∈s.after,YT .any e=true->e.on≠i)->t.apart ops s=true) ->
  i∈Yf .any ops d->YieldsIf P ops S t v a->S w ->
  anyTill P ops Q S p g (d.setIfInBounds i true) (a.put t.dst v) w->anyTill P ops Q S p (g+1) d a w:=by
 intro g;induction g with
 | zero =>
  intro d a w _ _ y E B H;refine⟨λh=>absurd y (by rw[h];exact X5),λj D=>?_⟩;by_cases f:j=i
  ·subst f;exact E.wpOp J B ⟨λ_=>B,H⟩
  ·exact absurd (ready_mono D f) (by rw[H.1];exact X5)
 | succ g ih =>
  intro d a w T m y E B H;refine⟨λh=>absurd y (by rw[h];exact X5),λj D=>?_⟩;by_cases f:j=i
  ·subst f;exact E.wpOp J B ⟨λ_=>B,H⟩
  ·obtain⟨r,s,l,u⟩:=mem_ready.1 D;have q:∀e∈s.after,YT .any e=true->e.on≠i:=λe O G F=>by
    have x:=u e O G;have A:=(mem_ready.1 y).1;rw[F]at x;rcases Nat.lt_or_ge i d.size with z|z
    ·simp[z]at A x;rw[A]at x;cases x
    ·simp[Array.getElem?_eq_none z]at x
   have A:j≠p:=by
    intro h;subst h;rw[Y]at l;obtain⟨e,O,G,x⟩:=L;injection l with l
    subst l;exact q e O G x
   have X:=wpOp_putIf l (m j s l f r q) (λcs b=>n i t cs b J) (λcs b=>n j s cs b l) U E (H.2 j (ready_mono D f));have I:(d.setIfInBounds j true).getD p false=false:=by rw[yAt false A];exact T
   refine wpOp_mono (λW w' K=>?_) X;have z:=K.2.1 (by rw[yAt false A,yAt false (Ne.symm N)];exact T);refine⟨λ_=>z,ih (d.setIfInBounds j true) W w' I (λk ok V M C R=>?_) (ready_mono y (Ne.symm f)) K.1 z ?_⟩
   ·refine m k ok V M ?_ R;by_cases x:j=k
    ·subst x;exact r
    ·rw[yAt true x]at C;exact C
   ·rw[Array.setIfInBounds_comm _ _ f];exact K.2.2
def waits(k:Array Yo)(p i:Nat):Bool:=match k[p]? with
 | some o=>o.after.any (λe=>YT .any e && e.on == i)
 | none=>false
theorem anyTill.take{i:Nat}{f:Yo}{v:Xu}{b:Nat}{k:Array Bool}{a:Act}{w:Xs}(l:ops[i]? = some f)(d:waits ops p i=true)(q:yAo ops=true)
 (g:(k.getD p false || p == i)=false) (hf:yBn .any ops k i=true) (n:(Yf .any ops k).contains i=true)
 (m:∀c a w,Q (.panic c) (a.put f.dst v) w->Q (.panic c) a w) (o:YieldsIf P ops S f v a) (r:S w)
 (h:anyTill P ops Q S p b (k.setIfInBounds i true) (a.put f.dst v) w):anyTill P ops Q S p (b+1) k a w:=by
 rw[Bool.or_eq_false_iff]at g;unfold waits at d;cases ho:ops[p]? with
 | none=>rw[ho]at d;cases d
 | some op =>
  rw[ho]at d;obtain⟨e,s,j⟩:=Array.any_eq_true'.1 d;simp only[Bool.and_eq_true,beq_iff_eq]at j;exact anyTill.first l ho ⟨e,s,j.1,j.2⟩ (by simpa using g.2) (Region.noSelect_spec q) m b k a w g.1 (Region.free_spec l hf) (by simpa using n) o r h
theorem anyTill.tk{i:Nat}{d:Yo}{v:Xu}{b:Nat}{k:Array Bool}{a:Act}{w:Xs}(g:ops[i]? = some d)(l:YieldsIf P ops S d v a)(n:S w)
 (h:anyTill P ops Q S p b (k.setIfInBounds i true) (a.put d.dst v) w) (o:waits ops p i=true:=by kernel_rfl) (m:yAo ops=true:=by kernel_rfl)
 (f:(k.getD p false || p == i)=false:=by kernel_rfl) (hf:yBn .any ops k i=true:=by kernel_rfl) (j:(Yf .any ops k).contains i=true:=by kernel_rfl)
 (e:∀c a w,Q (.panic c) (a.put d.dst v) w->Q (.panic c) a w:=by exact λ_ _ _ h=>h):anyTill P ops Q S p (b+1) k a w:=anyTill.take g o m f hf j e l n h
theorem anyTill.step{i:Nat}{o:Yo}{b:Nat}{k:Array Bool}{a:Act}{w:Xs}(ho:ops[i]? = some o)(e:Yf .any ops k=[i])
 (h:∀c:Act->Xs->Prop,Shut (∀a w,((k.setIfInBounds i true).getD p false=false->S w)->anyTill P ops Q S p b (k.setIfInBounds i true) a w->c a w) ->
  if Region.wanted o (yielded ops a.tmps)=true then Oper.wp P o a w c Q else c (a.put o.dst Zp) w):anyTill P ops Q S p (b+1) k a w:=by
 refine⟨λf=>(by rw[e]at f;cases f),λj d=>?_⟩;rw[e,List.mem_singleton]at d;subst d;exact wpOp_step ho (λc l=>h c (λa w g m=>l a w ⟨g,m⟩))
theorem anyTill.done{k:Array Bool}{a:Act}{w:Xs}(c:Yf .any ops k=[])(h:Q .normal a w):∀b,anyTill P ops Q S p b k a w
 | 0=>⟨c,h⟩
 | _+1=>⟨λ_=>h,by rw[c];intro i d;cases d⟩
theorem anyTill.begin{id:Nat}{a:Act}{w:Xs}(S:Xs->Prop)(p:Nat)(b:P.follows .mixedOrders=true)(k:S w.drew)
 (h:S w.drew->anyTill P ops Q S p ops.size (XL ops.size false) a w.drew):(Code.region id ops true).wp P Q a w:=
 wp_region_any b ((h k).any)
end
end
section
variable {P:Nat}[NeZero P]{N:Nat}
def pw0:Array Xu:=#[uZ 1]++XL 63 (uZ 0)
def pwz:Array Xu:=XL 64 (uZ 0)
theorem Tq:∀w:Xs,(zeroValue 287).run prog w=.ok (.agg pwz) w:=λ_=>kR
theorem sizeT:(prog.info? 287).map (·.size)=some pw0.size:=kR
theorem Wx:pw0.all (·.oneCell')=true:=kR
def Tab(W:Xs)(k m P i:Nat):Prop:=∀j,j<16->∃a b c d:Nat,(Blk.mk k (j*4) a b c d).at W/\(j<i->Four (.agg #[uZ a,uZ b,uZ c,uZ d]) (m^j%P))
theorem Tab.call{W e:Xs}{k m P i:Nat}(h:Tab W k m P i)(n:kZ W e):Tab e k m P i:=λj f=>by
 obtain⟨a,b,c,d,g,l⟩:=h j f;exact⟨a,b,c,d,g.call n,l⟩
theorem Tab.drew{W:Xs}{k m P i:Nat}(h:Tab W k m P i):Tab W.drew k m P i:=λj f=>by
 obtain⟨a,b,c,d,e,g⟩:=h j f;exact⟨a,b,c,d,⟨e.c0,e.c1,e.c2,e.c3,e.f⟩,g⟩
theorem Tab.other{W:Xs}{k m P i g o:Nat}(h:Tab W k m P i)(n:g≠k)(v:Xu):Tab (W.setCell ⟨g,o,none⟩ v) k m P i:=λj e=>by
 obtain⟨a,b,c,d,f,l⟩:=h j e;exact⟨a,b,c,d,f.other n v,l⟩
theorem Blk.at.off{W : Xs}{x : Blk}{i : Nat}(h : x.at W)(hi : i < x.o \/ x.o + 3 < i)(v : Xu): x.at (W.setCell ⟨x.k, i, none⟩ v) :=
  ⟨by rw [XZ _ _ _ _ (bI (X0 oM))]; exact h.c0, by rw [XZ _ _ _ _ (bI (X0 oM))]; exact h.c1,
   by rw [XZ _ _ _ _ (bI (X0 oM))]; exact h.c2, by rw [XZ _ _ _ _ (bI (X0 oM))]; exact h.c3, λo => by rw [YN]; exact h.f o⟩
theorem Blk.at.put{W:Xs}{k o a b c d:Nat}(h:(Blk.mk k o a b c d).at W)(x y z t:Nat):
 (Blk.mk k o x y z t).at ((((W.setCell ⟨k,o,none⟩ (uZ x)).setCell ⟨k,o+1,none⟩ (uZ y)).setCell ⟨k,o+2,none⟩ (uZ z)).setCell ⟨k,o+3,none⟩ (uZ t)):=by
 have s0:=Y1 W ⟨k,o,none⟩ (uZ x) h.c0;have e:∀(W:Xs) (i j:Nat) (v:Xu),i≠j->(W.setCell ⟨k,i,none⟩ v).cell? ⟨k,j,none⟩=W.cell? ⟨k,j,none⟩:=λW i j v f=>XZ _ _ _ _ (bI (X0 f))
 refine⟨?_,?_,?_,?_,λi=>?_⟩
 ·show YO _ ⟨k,o,none⟩=_;rw[e _ _ _ _ oM,e _ _ _ _ oM,e _ _ _ _ oM];exact s0
 ·show YO _ ⟨k,o+1,none⟩=_;rw[e _ _ _ _ oM,e _ _ _ _ oM];exact Y1 _ _ _ (by rw[e _ _ _ _ oM];exact h.c1)
 ·show YO _ ⟨k,o+2,none⟩=_;rw[e _ _ _ _ oM];exact Y1 _ _ _ (by rw[e _ _ _ _ oM,e _ _ _ _ oM];exact h.c2)
 ·show YO _ ⟨k,o+3,none⟩=_;exact Y1 _ _ _ (by rw[e _ _ _ _ oM,e _ _ _ _ oM,e _ _ _ _ oM];exact h.c3)
 ·rw[YN,YN,YN,YN];exact h.f i
theorem Tab.put{W:Xs}{k m P i x y z t:Nat}(h:Tab W k m P i)(o:i<16)(l:Four (.agg #[uZ x,uZ y,uZ z,uZ t]) (m^i%P)):
 Tab ((((W.setCell ⟨k,i*4,none⟩ (uZ x)).setCell ⟨k,i*4+1,none⟩ (uZ y)).setCell ⟨k,i*4+2,none⟩ (uZ z)).setCell ⟨k,i*4+3,none⟩ (uZ t)) k m P (i+1):=λj g=>by
 obtain⟨a,b,c,d,f,n⟩:=h j g;by_cases e:j=i
 ·subst e;exact⟨x,y,z,t,f.put x y z t,λ_=>l⟩
 ·refine⟨a,b,c,d,?_,λp=>n oM⟩;exact(((f.off (by simp only;omega) _).off (by simp only;omega) _).off (by simp only;omega) _).off (by simp only;omega) _
theorem newest(w:Xs)(o:Obj):(w.alloc o).heap[w.heap.size]? = some o:=by
 show(w.heap.push o)[w.heap.size]? = some o;simp
theorem nV(j:Nat):pw0[j]? = if j=0 then some (uZ 1) else if j<64 then some (uZ 0) else none:=by
 match j with
 | 0=>rfl
 | j+1 =>
  rw[yET oM];unfold pw0;rw[Array.getElem?_append_right (by simp)];by_cases h:j+1<64
  ·rw[yES h];simp[yAQ];omega
  ·rw[yET h];simp[yAQ];omega
theorem Tab.new(w:Xs)(m P:Nat)(d:1<P):Tab ((w.alloc (.cells pwz 287)).setRow w.heap.size pw0) w.heap.size m P 1:=λj e=>by
 have b:(w.alloc (.cells pwz 287)).heap[w.heap.size]? = some (.cells pwz 287 (0,0)):=newest w _;have k:=λi=>cell_setRow_same (w.alloc (.cells pwz 287)) w.heap.size i pwz pw0 287 (0,0) b
 have hf:∀o,((w.alloc (.cells pwz 287)).setRow w.heap.size pw0).frozen? ⟨w.heap.size,o,none⟩=false:=λo=>by
  have c:=setRow_heap _ _ _ pw0 _ _ b;unfold World.frozen?;dsimp only;rw[c];simp
 by_cases c:j=0
 ·subst c;refine⟨1,0,0,0,⟨?_,?_,?_,?_,hf⟩,λ_=>?_⟩
  ·rw[k,nV];rfl
  ·rw[k,nV];rfl
  ·rw[k,nV];rfl
  ·rw[k,nV];rfl
  ·rw[yBo,XX d];exact Four.mk dC dC dC dC rfl
 ·refine⟨0,0,0,0,⟨?_,?_,?_,?_,hf⟩,λh=>oM⟩
  ·rw[k,nV,yET (by simp only;omega),yES (by simp only;omega)];rfl
  ·rw[k,nV,yET (by simp only;omega),yES (by simp only;omega)];rfl
  ·rw[k,nV,yET (by simp only;omega),yES (by simp only;omega)];rfl
  ·rw[k,nV,yET (by simp only;omega),yES (by simp only;omega)];rfl
theorem below_setRow{B:Nat}{w W:Xs}(h:Below B w W){g:Nat}(c:B<=g)(cs:Array Xu):Below B w (W.setRow g cs):=
 ⟨h.os,h.tape,h.output,by rw[setRow_size];exact h.size,λk b=>by rw[setRow_other W g k cs oM];exact h.block k b⟩
theorem IV(W:Xs):kZ W ((W.alloc (.cells pwz 287)).setRow W.heap.size pw0):=below_setRow (aC W _) (Xx _) _
theorem wK{w W:Xs}{k e v u f j a b c d p q r s t g i n o l m:Nat}(h:Kept w k [⟨k,0,o,l,m,0⟩,⟨f,j*4,t,g,i,n⟩,⟨e,0,a,b,c,d⟩,⟨v,0,p,q,r,s⟩,⟨u,0,0,0,0,0⟩] W):W.cell? ⟨k,0,none⟩=some (uZ o)/\W.cell? ⟨k,1,none⟩=some (uZ l)/\W.cell? ⟨k,2,none⟩=some (uZ m)/\W.cell? ⟨k,3,none⟩=some (uZ 0)/\W.cell? ⟨f,j*4,none⟩=some (uZ t)/\W.cell? ⟨f,j*4+1,none⟩=some (uZ g)/\W.cell? ⟨f,j*4+2,none⟩=some (uZ i)/\W.cell? ⟨f,j*4+3,none⟩=some (uZ n)/\W.cell? ⟨e,0,none⟩=some (uZ a)/\W.cell? ⟨e,1,none⟩=some (uZ b)/\W.cell? ⟨e,2,none⟩=some (uZ c)/\W.cell? ⟨e,3,none⟩=some (uZ d)/\Kept w k [⟨k,0,o,l,m,0⟩,⟨f,j*4,t,g,i,n⟩,⟨e,0,a,b,c,d⟩,⟨v,0,p,q,r,s⟩,⟨u,0,0,0,0,0⟩] W:=
 ⟨h.head.c0,h.head.c1,h.head.c2,h.head.c3,h.tail.head.c0,h.tail.head.c1,h.tail.head.c2,h.tail.head.c3,h.tail.tail.head.c0,h.tail.tail.head.c1,h.tail.tail.head.c2,h.tail.tail.head.c3,h⟩
theorem rJ{w W:Xs}{k u e v x f m P a b c d p q r s n o i nd l g j:Nat}(h:Kept w k (⟨f,0,n,o,i,nd⟩ :: [⟨k,0,l,g,j,0⟩,⟨u,0,a,b,c,d⟩,⟨e,0,p,q,r,s⟩,⟨v,0,0,0,0,0⟩]) W)(t:Tab W x m P 16):W.cell? ⟨k,0,none⟩=some (uZ l)/\W.cell? ⟨k,1,none⟩=some (uZ g)/\W.cell? ⟨k,2,none⟩=some (uZ j)/\W.cell? ⟨k,3,none⟩=some (uZ 0)/\W.cell? ⟨f,0,none⟩=some (uZ n)/\W.cell? ⟨f,1,none⟩=some (uZ o)/\W.cell? ⟨f,2,none⟩=some (uZ i)/\W.cell? ⟨f,3,none⟩=some (uZ nd)/\W.cell? ⟨e,0,none⟩=some (uZ p)/\W.cell? ⟨e,1,none⟩=some (uZ q)/\W.cell? ⟨e,2,none⟩=some (uZ r)/\W.cell? ⟨e,3,none⟩=some (uZ s)/\Kept w k (⟨f,0,n,o,i,nd⟩ :: [⟨k,0,l,g,j,0⟩,⟨u,0,a,b,c,d⟩,⟨e,0,p,q,r,s⟩,⟨v,0,0,0,0,0⟩]) W/\Tab W x m P 16:=
 ⟨h.tail.head.c0,h.tail.head.c1,h.tail.head.c2,h.tail.head.c3,h.head.c0,h.head.c1,h.head.c2,h.head.c3,h.tail.tail.tail.head.c0,h.tail.tail.tail.head.c1,h.tail.tail.tail.head.c2,h.tail.tail.tail.head.c3,h,t⟩
theorem wJ{w W:Xs}{e f l g k j i a b c d p q r s y m n u x o t:Nat}(h:Kept w e [⟨e,0,x,o,t,0⟩,⟨k,j*4,y,m,n,u⟩,⟨f,0,a,b,c,d⟩,⟨l,0,p,q,r,s⟩,⟨g,0,0,0,0,0⟩] W)(D:e<=k)(C:k≠e)(E:k≠f)(F:k≠l)(B:k≠g)(z:i<j*4\/j*4+3<i)(v:Xu):Kept w e [⟨e,0,x,o,t,0⟩,⟨k,j*4,y,m,n,u⟩,⟨f,0,a,b,c,d⟩,⟨l,0,p,q,r,s⟩,⟨g,0,0,0,0,0⟩] (W.setCell ⟨k,i,none⟩ v):=by
 refine((((((Kept.mk1 (h.bl.setCell (p:=⟨k,i,none⟩) D v) (by simpa using h.le)).cons ?_).cons ?_).cons ?_).cons ?_).cons ?_)
 ·exact h.tail.tail.tail.tail.head.other B v
 ·exact h.tail.tail.tail.head.other F v
 ·exact h.tail.tail.head.other E v
 ·exact h.tail.head.off z v
 ·exact h.head.other C v
theorem xY{w W:Xs}{e o v u k j i a b c d p q r s G A B E F C D:Nat}(h:Kept w e [⟨e,0,F,C,D,0⟩,⟨k,j*4,G,A,B,E⟩,⟨o,0,a,b,c,d⟩,⟨v,0,p,q,r,s⟩,⟨u,0,0,0,0,0⟩] W)(l:e<=k)(g:k≠e)(m:k≠o)(n:k≠v)(f:k≠u)
 (J:i*4<j*4\/j*4+3<i*4) (K:i*4+1<j*4\/j*4+3<i*4+1) (H:i*4+2<j*4\/j*4+3<i*4+2) (I:i*4+3<j*4\/j*4+3<i*4+3) (x y z t:Xu) :
 Kept w e [⟨e,0,F,C,D,0⟩,⟨k,j*4,G,A,B,E⟩,⟨o,0,a,b,c,d⟩,⟨v,0,p,q,r,s⟩,⟨u,0,0,0,0,0⟩] ((((W.setCell ⟨k,i*4,none⟩ x).setCell ⟨k,i*4+1,none⟩ y).setCell ⟨k,i*4+2,none⟩ z).setCell ⟨k,i*4+3,none⟩ t):=
 wJ (wJ (wJ (wJ h l g m n f J x) l g m n f K y) l g m n f H z) l g m n f I t
theorem Av(g0 g1 g2 P : Nat)(x y : Xu)(m n : Nat)(hG : Gap g0 g1 g2 P)(hx : Four x m)(hy : Four y n)(w : Xs):
    XH prog 200 #[.agg #[.int .u64 (g0 : Int), .int .u64 (g1 : Int), .int .u64 (g2 : Int), .int .u64 0], x, y] w (Ret λe w' => Below w.heap.size w w' /\ Four e (m ^ n % P)) := by
  obtain⟨a, b, c, d, rfl, ha, hb, hc, hd, em⟩ := id hx;obtain⟨p, q, r, s, rfl, hp, hq, hr, hs, en⟩ := id hy;have HX : Hid (Four _ m) := hx;have HY : Hid (Four _ n) := hy;have HG : Hid (Gap g0 g1 g2 P) := hG;clear em en hx hy ha hb hc hd hp hq hr hs hG;go_enter func200, ntmps200
  go_upto_region 1 with fail
  have KP := CX w 78 42 42 42 g0 g1 g2 0 a b c d p q r s 0 0 0 0;simp only [Zy]at KP;generalize Z0 _ _ = W0 at KP⊢;have zv := Tq;have hpz : ¬pwz.size < 4 := dC;have hgr : (W0.alloc (.cells pwz 287)).heap[W0.heap.size]? = some (.cells pwz 287 (0, 0)) := newest W0 _;go_wp2_with (first | refine wpList_store_row rfl 287 _ _ rfl W0.heap.size pw0 rfl rfl 287 pwz hgr sizeT rfl Wx ?_)
  have TB := Tab.new W0 m P (by have := HG.hP2; have : 3 < top := dC
                                omega)
  have hlt := KP.lts;have Q4 : Hid (w.heap.size <= W0.heap.size) := KP.le;replace KP := KP.call (IV W0);clear zv hgr hpz;generalize World.setRow _ _ _ = W1 at KP TB⊢;generalize W0.heap.size = k4 at TB hlt Q4⊢;generalize h3 : w.heap.size + 1 + 1 + 1 = k3 at KP hlt⊢;generalize h2 : w.heap.size + 1 + 1 = k2 at KP hlt⊢;generalize h1 : w.heap.size + 1 = k1 at KP hlt⊢;have Q3 : Hid (w.heap.size <= k3) := by unfold Hid; omega
  generalize h0 : w.heap.size = k0 at KP hlt Q3 Q4⊢;have H0 : Hid (w.heap.size = k0) := h0;have n40 : k4 ≠ k0 := Zg (hlt _ List.mem_cons_self);have n41 : k4 ≠ k1 := Zg (hlt ⟨k1, 0, a, b, c, d⟩ (by simp));have n42 : k4 ≠ k2 := Zg (hlt ⟨k2, 0, p, q, r, s⟩ (by simp));have n43 : k4 ≠ k3 := Zg (hlt ⟨k3, 0, 0, 0, 0, 0⟩ (by simp));clear h0 h1 h2 h3 hlt;generalize pwz.setIfInBounds 0 (YQ Yn 1) = zz;go_loopg [8] 15 (λgk s8 wr => ∃i : Nat, i + gk = 16 /\ 1 <= i /\ s8 = .int .i64 (i : Int) /\ Kept w k0 [⟨k0, 0, g0, g1, g2, 0⟩, ⟨k1, 0, a, b, c, d⟩, ⟨k2, 0, p, q, r, s⟩, ⟨k3, 0, 0, 0, 0, 0⟩] wr /\ Tab wr k4 m P i)
  case atStart => exact⟨1, rfl, Xx _, rfl, KP, TB⟩
  case round =>
    clear KP TB;obtain⟨i, hi, hi1, rfl, KP0, TB⟩ := hrel;by_cases hlt : i < 16
    · obtain⟨j, hji⟩ : ∃j, i = j + 1 := ⟨i - 1, oM⟩
      obtain⟨pa, pb, pc, pd, BJ, hFJ⟩ := TB j oM;have HFJ : Hid (Four _ (m ^ j % P)) := hFJ oM;have KP : Kept w k0 [⟨k0, 0, g0, g1, g2, 0⟩, ⟨k4, j * 4, pa, pb, pc, pd⟩, ⟨k1, 0, a, b, c, d⟩, ⟨k2, 0, p, q, r, s⟩, ⟨k3, 0, 0, 0, 0, 0⟩] wr := by
        refine((((((Kept.mk1 KP0.bl KP0.le).cons ?_).cons ?_).cons ?_).cons ?_).cons ?_)
        · exact KP0.tail.tail.tail.head
        · exact KP0.tail.tail.head
        · exact KP0.tail.head
        · exact BJ
        · exact KP0.head
      clear KP0 BJ hFJ;have hlt' : (i : Int) < 16 := oM;have e1 : (i : Int) - 1 = (j : Int) := oM;have hj16 : j < 16 := oM;have hj16i : (j : Int) < 16 := oM;have hw1 : Yh.wrap (j : Int) = (j : Int) := A5 _ oM;have HJ : Hid (i = j + 1) := hji;have o0 : Hid (i * 4 < j * 4 \/ j * 4 + 3 < i * 4) := by unfold Hid; omega
      have o1 : Hid (i * 4 + 1 < j * 4 \/ j * 4 + 3 < i * 4 + 1) := by unfold Hid; omega
      have o2 : Hid (i * 4 + 2 < j * 4 \/ j * 4 + 3 < i * 4 + 2) := by unfold Hid; omega
      have o3 : Hid (i * 4 + 3 < j * 4 \/ j * 4 + 3 < i * 4 + 3) := by unfold Hid; omega
      clear hji
      go_upto_region 5 with fail
      go_region_held3 (λw' => w'.cell? ⟨k0, 0, none⟩ = some (.int .u64 (g0 : Int)) /\ w'.cell? ⟨k0, 1, none⟩ = some (.int .u64 (g1 : Int)) /\ w'.cell? ⟨k0, 2, none⟩ = some (.int .u64 (g2 : Int)) /\ w'.cell? ⟨k0, 3, none⟩ = some (.int .u64 0) /\ w'.cell? ⟨k4, j * 4, none⟩ = some (.int .u64 (pa : Int)) /\ w'.cell? ⟨k4, j * 4 + 1, none⟩ = some (.int .u64 (pb : Int)) /\ w'.cell? ⟨k4, j * 4 + 2, none⟩ = some (.int .u64 (pc : Int)) /\ w'.cell? ⟨k4, j * 4 + 3, none⟩ = some (.int .u64 (pd : Int)) /\ w'.cell? ⟨k1, 0, none⟩ = some (.int .u64 (a : Int)) /\ w'.cell? ⟨k1, 1, none⟩ = some (.int .u64 (b : Int)) /\ w'.cell? ⟨k1, 2, none⟩ = some (.int .u64 (c : Int)) /\ w'.cell? ⟨k1, 3, none⟩ = some (.int .u64 (d : Int)) /\ Kept w k0 [⟨k0, 0, g0, g1, g2, 0⟩, ⟨k4, j * 4, pa, pb, pc, pd⟩, ⟨k1, 0, a, b, c, d⟩, ⟨k2, 0, p, q, r, s⟩, ⟨k3, 0, 0, 0, 0, 0⟩] w') (first | (with_reducible exact wK KP) | (with_reducible exact wK KP.drew) | (with_reducible exact wK (xY KP Q4.out n40 n41 n42 n43 o0.out o1.out o2.out o3.out _ _ _ _)) | (with_reducible exact wK (xY KP Q4.out n40 n41 n42 n43 o0.out o1.out o2.out o3.out _ _ _ _).drew) | fail) (first | (go_at_call 55; refine(jV _ _ HX.out _).mono ?_; rintro e w1 ⟨v, rfl, hb1, rfl⟩; (first | (with_reducible (have KP1 := KP.drew.call hb1)) | (with_reducible (have KP1 := KP.call hb1)) | fail); (first | (with_reducible (have T1 := TB.drew.call hb1)) | (with_reducible (have T1 := TB.call hb1)) | fail); clear KP TB hb1; have KP := KP1; have TB := T1; clear KP1 T1) | (go_at_call 100; refine(dM g0 g1 g2 P _ _ _ _ HG.out HFJ.out HX.out _).mono ?_; rintro e w1 ⟨v, rfl, hb1, hF3⟩; obtain⟨a', b', c', d', rfl, ha', hb', hc', hd', es3⟩ := id hF3; clear es3; have HF3 : Hid (Four _ _) := hF3; clear hF3; (first | (with_reducible (have KP1 := KP.drew.call hb1)) | (with_reducible (have KP1 := KP.call hb1)) | fail); (first | (with_reducible (have T1 := TB.drew.call hb1)) | (with_reducible (have T1 := TB.call hb1)) | fail); clear KP TB hb1; have KP := KP1; have TB := T1; clear KP1 T1; obtain⟨ya, yb, yc, yd, BI, hFI⟩ := TB i hlt; clear hFI; obtain⟨tc0, tc1, tc2, tc3, tf⟩ := id BI; have zt := BI.lt; clear BI))
      go_wp2;go_roundg (gk - 1)
      case measure => omega
      case rel =>
        have K3 := xY KP Q4.out n40 n41 n42 n43 o0.out o1.out o2.out o3.out (.int .u64 (a' : Int)) (.int .u64 (b' : Int)) (.int .u64 (c' : Int)) (.int .u64 (d' : Int));refine⟨i + 1, oM, oM, rfl, ?_, ?_⟩
        · exact((((Kept.mk1 K3.bl K3.le).cons K3.tail.tail.tail.tail.head).cons K3.tail.tail.tail.head).cons K3.tail.tail.head).cons K3.head
        · refine TB.put hlt ?_
          have h1 := HF3.out;rw [Bq, <-HJ.out]at h1;exact h1
    · have hi16 : i = 16 := oM
      subst hi16;obtain⟨pa, pb, pc, pd, BJ, hFJ⟩ := TB 0 dC;have HFJ := mk1 (hFJ dC);replace BJ : (Blk.mk k4 0 pa pb pc pd).at wr := BJ;obtain⟨tc0, tc1, tc2, tc3, tf⟩ := id BJ;replace tc0 : wr.cell? ⟨k4, 0, none⟩ = some (.int .u64 (pa : Int)) := tc0;replace tc1 : wr.cell? ⟨k4, 1, none⟩ = some (.int .u64 (pb : Int)) := tc1;replace tc2 : wr.cell? ⟨k4, 2, none⟩ = some (.int .u64 (pc : Int)) := tc2;replace tc3 : wr.cell? ⟨k4, 3, none⟩ = some (.int .u64 (pd : Int)) := tc3;have zt := BJ.lt;go_wp2;have KN := (KP0.alloc (.cells #[.int .u64 (pa : Int), .int .u64 (pb : Int), .int .u64 (pc : Int), .int .u64 (pd : Int)] 76)).cons (At4.made wr 76 pa pb pc pd rfl).blk;have TN := TB.call (aC wr (.cells #[.int .u64 (pa : Int), .int .u64 (pb : Int), .int .u64 (pc : Int), .int .u64 (pd : Int)] 76));have hlt5 := KP0.lts;have n54 := Zg BJ.lt;have Q5 := mk1 (KP0.le);generalize Z0 _ _ = Wv5 at KN TN⊢;generalize wr.heap.size = k5 at KN hlt5 n54 Q5⊢;have hl5 : ∀x ∈ ([⟨k0, 0, g0, g1, g2, 0⟩, ⟨k1, 0, a, b, c, d⟩, ⟨k2, 0, p, q, r, s⟩, ⟨k3, 0, 0, 0, 0, 0⟩] : List Blk), k5 ≠ x.k := λx hx => Zg (hlt5 x hx)
      go_loopg [10] 64 (λgk s10 wr => gk <= 64 /\ s10 = .int .i64 (4 * (gk : Int) - 4) /\ (∃na nb nc nd : Nat, Kept w k0 (⟨k5, 0, na, nb, nc, nd⟩ :: [⟨k0, 0, g0, g1, g2, 0⟩, ⟨k1, 0, a, b, c, d⟩, ⟨k2, 0, p, q, r, s⟩, ⟨k3, 0, 0, 0, 0, 0⟩]) wr /\ Hid (Four (.agg #[.int .u64 (na : Int), .int .u64 (nb : Int), .int .u64 (nc : Int), .int .u64 (nd : Int)]) (m ^ (n / 2 ^ (4 * gk)) % P))) /\ Tab wr k4 m P 16)
      case atStart =>
        refine⟨Xx _, rfl, ⟨pa, pb, pc, pd, KN, ?_⟩, TN⟩;have h1 := HFJ.out;rw [show n / 2 ^ (4 * 64) = 0 from yAm HY.lt];exact h1
      case round =>
        obtain⟨hg64, rfl, ⟨na, nb, nc, nd, KP, HF⟩, TB⟩ := hrel;by_cases hz : gk = 0
        · subst hz
          have HF0 := HF.out;rw [yCu, yBo, yEy]at HF0;obtain⟨tc0, tc1, tc2, tc3, tf⟩ := KP.head.at4;have zt := KP.head.lt;go_wp2_with fail
          refine(jR _ _ HF0 _).mono ?_;rintro e w1 ⟨v, rfl, hb1, rfl⟩;have HFE := mk1 (HF0);have KP1 := KP.call hb1;obtain⟨rc0, rc1, rc2, rc3, rf⟩ := KP1.tail.tail.tail.tail.head.at4;have zr := KP1.tail.tail.tail.tail.head.lt;go_wp2;have RF := KP1.tail.tail.tail.tail.head.at4.self4 na nb nc nd;unfold set4 at RF;refine XE (v := ?v) ?hr rfl ?hR
          case hr => simp [results, Tryz.results200, go_sem, RF.c0, RF.c1, RF.c2, RF.c3]; rfl
          refine⟨_, rfl, ?_, HFE.out⟩;rw [H0.out];exact aK KP1.bl Q3.out _ _ _ _
        · obtain⟨I, hI⟩ : ∃I, 4 * (gk - 1) = I := ⟨_, rfl⟩
          have e1 : 4 * (gk : Int) - 4 = (I : Int) := oM;rw [e1];have HI := mk1 (hI);obtain⟨E, hE⟩ : ∃E, n / 2 ^ (4 * gk) = E := ⟨_, rfl⟩;have HE := mk1 (hE);rw [hE]at HF;go_wp2;refine wp_loop_rounds 5 ?_;obtain⟨tc0, tc1, tc2, tc3, tf⟩ := KP.head.at4;have zt := KP.head.lt;obtain⟨pc0, pc1, pc2, pc3, pf⟩ := KP.tail.head.at4;have zp := KP.tail.head.lt;rw [ZJ];go_wp2_with fail
          refine(dM g0 g1 g2 P _ _ _ _ HG.out HF.out HF.out _).mono ?_;rintro e w1 ⟨v, rfl, hb1, hF3⟩;rw [kN]at hF3;obtain⟨n1a, n1b, n1c, n1d, rfl, ha', hb', hc', hd', es3⟩ := id hF3;have HF := mk1 (hF3);replace KP := KP.call hb1;replace TB := TB.call hb1;obtain⟨tc0, tc1, tc2, tc3, tf⟩ := KP.head.at4;have zt := KP.head.lt;go_wp2_with fail
          have KP2 := KP.put Q5.out hl5 n1a n1b n1c n1d;have TB2 := (((TB.other (o := 0) n54 (.int .u64 (n1a : Int))).other (o := 1) n54 (.int .u64 (n1b : Int))).other (o := 2) n54 (.int .u64 (n1c : Int))).other (o := 3) n54 (.int .u64 (n1d : Int));have KP := KP2;have TB := TB2;obtain⟨tc0, tc1, tc2, tc3, tf⟩ := KP.head.at4;have zt := KP.head.lt;obtain⟨pc0, pc1, pc2, pc3, pf⟩ := KP.tail.head.at4;have zp := KP.tail.head.lt;rw [ZJ];go_wp2_with fail
          clear tc0 tc1 tc2 tc3 tf zt pc0 pc1 pc2 pc3 pf zp;refine(dM g0 g1 g2 P _ _ _ _ HG.out HF.out HF.out _).mono ?_;rintro e w2 ⟨v, rfl, hb1, hF3⟩;rw [kN]at hF3;obtain⟨n2a, n2b, n2c, n2d, rfl, ha', hb', hc', hd', es3⟩ := id hF3;clear HF;have HF : Hid (Four _ _) := hF3;clear hF3 es3 ha' hb' hc' hd';replace KP := KP.call hb1;replace TB := TB.call hb1;clear hb1;obtain⟨tc0, tc1, tc2, tc3, tf⟩ := KP.head.at4;have zt := KP.head.lt;go_wp2_with fail
          clear tc0 tc1 tc2 tc3 tf zt;have KP2 := KP.put Q5.out hl5 n2a n2b n2c n2d;have TB2 := (((TB.other (o := 0) n54 (.int .u64 (n2a : Int))).other (o := 1) n54 (.int .u64 (n2b : Int))).other (o := 2) n54 (.int .u64 (n2c : Int))).other (o := 3) n54 (.int .u64 (n2d : Int));clear KP TB;generalize yAK _ _ _ = WX2 at KP2 TB2⊢;have KP := KP2;have TB := TB2;clear KP2 TB2;obtain⟨tc0, tc1, tc2, tc3, tf⟩ := KP.head.at4;have zt := KP.head.lt;obtain⟨pc0, pc1, pc2, pc3, pf⟩ := KP.tail.head.at4;have zp := KP.tail.head.lt;rw [ZJ];go_wp2_with fail
          clear tc0 tc1 tc2 tc3 tf zt pc0 pc1 pc2 pc3 pf zp;refine(dM g0 g1 g2 P _ _ _ _ HG.out HF.out HF.out _).mono ?_;rintro e w3 ⟨v, rfl, hb1, hF3⟩;rw [kN]at hF3;obtain⟨n3a, n3b, n3c, n3d, rfl, ha', hb', hc', hd', es3⟩ := id hF3;clear HF;have HF : Hid (Four _ _) := hF3;clear hF3 es3 ha' hb' hc' hd';replace KP := KP.call hb1;replace TB := TB.call hb1;clear hb1;obtain⟨tc0, tc1, tc2, tc3, tf⟩ := KP.head.at4;have zt := KP.head.lt;go_wp2_with fail
          clear tc0 tc1 tc2 tc3 tf zt;have KP2 := KP.put Q5.out hl5 n3a n3b n3c n3d;have TB2 := (((TB.other (o := 0) n54 (.int .u64 (n3a : Int))).other (o := 1) n54 (.int .u64 (n3b : Int))).other (o := 2) n54 (.int .u64 (n3c : Int))).other (o := 3) n54 (.int .u64 (n3d : Int));clear KP TB;generalize yAK _ _ _ = WX3 at KP2 TB2⊢;have KP := KP2;have TB := TB2;clear KP2 TB2;obtain⟨tc0, tc1, tc2, tc3, tf⟩ := KP.head.at4;have zt := KP.head.lt;obtain⟨pc0, pc1, pc2, pc3, pf⟩ := KP.tail.head.at4;have zp := KP.tail.head.lt;rw [ZJ];go_wp2_with fail
          clear tc0 tc1 tc2 tc3 tf zt pc0 pc1 pc2 pc3 pf zp;refine(dM g0 g1 g2 P _ _ _ _ HG.out HF.out HF.out _).mono ?_;rintro e w4 ⟨v, rfl, hb1, hF3⟩;rw [kN]at hF3;obtain⟨n4a, n4b, n4c, n4d, rfl, ha', hb', hc', hd', es3⟩ := id hF3;clear HF;have HF : Hid (Four _ _) := hF3;clear hF3 es3 ha' hb' hc' hd';replace KP := KP.call hb1;replace TB := TB.call hb1;clear hb1;obtain⟨tc0, tc1, tc2, tc3, tf⟩ := KP.head.at4;have zt := KP.head.lt;go_wp2_with fail
          clear tc0 tc1 tc2 tc3 tf zt;have KP2 := KP.put Q5.out hl5 n4a n4b n4c n4d;have TB2 := (((TB.other (o := 0) n54 (.int .u64 (n4a : Int))).other (o := 1) n54 (.int .u64 (n4b : Int))).other (o := 2) n54 (.int .u64 (n4c : Int))).other (o := 3) n54 (.int .u64 (n4d : Int));clear KP TB;generalize yAK _ _ _ = WX4 at KP2 TB2⊢;have KP := KP2;have TB := TB2;clear KP2 TB2;rw [ZJ];go_wp2_with fail
          refine anyTill.begin (λw' => w'.cell? ⟨k0, 0, none⟩ = some (.int .u64 (g0 : Int)) /\ w'.cell? ⟨k0, 1, none⟩ = some (.int .u64 (g1 : Int)) /\ w'.cell? ⟨k0, 2, none⟩ = some (.int .u64 (g2 : Int)) /\ w'.cell? ⟨k0, 3, none⟩ = some (.int .u64 0) /\ w'.cell? ⟨k5, 0, none⟩ = some (.int .u64 (n4a : Int)) /\ w'.cell? ⟨k5, 1, none⟩ = some (.int .u64 (n4b : Int)) /\ w'.cell? ⟨k5, 2, none⟩ = some (.int .u64 (n4c : Int)) /\ w'.cell? ⟨k5, 3, none⟩ = some (.int .u64 (n4d : Int)) /\ w'.cell? ⟨k2, 0, none⟩ = some (.int .u64 (p : Int)) /\ w'.cell? ⟨k2, 1, none⟩ = some (.int .u64 (q : Int)) /\ w'.cell? ⟨k2, 2, none⟩ = some (.int .u64 (r : Int)) /\ w'.cell? ⟨k2, 3, none⟩ = some (.int .u64 (s : Int)) /\ Kept w k0 (⟨k5, 0, n4a, n4b, n4c, n4d⟩ :: [⟨k0, 0, g0, g1, g2, 0⟩, ⟨k1, 0, a, b, c, d⟩, ⟨k2, 0, p, q, r, s⟩, ⟨k3, 0, 0, 0, 0, 0⟩]) w' /\ Tab w' k4 m P 16) 8 mixed (rJ KP.drew TB.drew) (λhS => ?_);refine anyTill.tk (i := 0) (v := ?_) rfl (X9 ⟨by rfl, ?_⟩) hS ?_
          rotate_left
          · intro w hSw
            (try dsimp only at hSw)
            go_simp;try(with_reducible rfl)
          simp only [XK, Xt];refine anyTill.tk (i := 1) (v := ?_) rfl (X9 ⟨by rfl, ?_⟩) hS ?_
          rotate_left
          · intro w hSw
            (try dsimp only at hSw)
            go_simp;try(with_reducible rfl)
          simp only [XK];refine anyTill.tk (i := 2) (v := ?_) rfl (X9 ⟨by rfl, ?_⟩) hS ?_
          rotate_left
          · intro w hSw
            (try dsimp only at hSw)
            go_simp;try(with_reducible rfl)
          simp only [XK];refine anyTill.tk (i := 3) (v := ?_) rfl (X9 ⟨by rfl, ?_⟩) hS ?_
          rotate_left
          · intro w hSw
            (try dsimp only at hSw)
            go_simp;try(with_reducible rfl)
          simp only [XK];try simp only [Xw, Xv]
          obtain⟨tt, htt⟩ : ∃tt, n / 2 ^ I % 2 ^ 4 = tt := ⟨_, rfl⟩;have HT : Hid (n / 2 ^ I % 2 ^ 4 = tt) := htt;have hB := λw => DC _ n I 4 HY.out oM dC w
          rw [htt]at hB
          have htl : tt < 16 := by have : (2 : Nat) ^ 4 = 16 := rfl
                                   rw [<-htt]; omega
          have htl' : (tt : Int) < 16 := oM;have HB : Hid _ := hB;clear hB htt;refine anyTill.step (i := 4) rfl kR (λK hK => ?_);go_simp;refine(HB _).mono ?_;rintro e w6 ⟨v, rfl, hb1, rfl⟩;clear hS HB;have KP6 := KP.drew.call hb1;have TB6 := TB.drew.call hb1;clear hb1 KP TB;refine hK.out _ _ (λ_ => rJ KP6 TB6) ?_;clear hK K;try simp only [XK, Xt, Xw, Xv]
          obtain⟨ta, tb, tc, td, BT, hFT⟩ := TB6 tt htl;have HFT : Hid (Four _ (m ^ tt % P)) := hFT htl;clear hFT;obtain⟨tc0, tc1, tc2, tc3, tf⟩ := id BT;have zt := BT.lt;refine anyTill.step (i := 5) rfl kR (λK hK => ?_);go_simp;refine hK.out _ _ (λ_ => rJ KP6 TB6) ?_;clear hK K;try simp only [XK, Xt, Xw, Xv]
          refine anyTill.step (i := 6) rfl kR (λK hK => ?_);go_simp;refine hK.out _ _ (λ_ => rJ KP6 TB6) ?_;clear hK K;try simp only [XK, Xt, Xw, Xv]
          clear tc0 tc1 tc2 tc3 tf zt BT;refine anyTill.step (i := 7) rfl kR (λK hK => ?_);go_simp;refine(dM g0 g1 g2 P _ _ _ _ HG.out HF.out HFT.out _).mono ?_;rintro e w7 ⟨v, rfl, hb1, hF3⟩;rw [Cx]at hF3;obtain⟨ua, ub, uc, ud, rfl, ha', hb', hc', hd', es3⟩ := id hF3;have HFU : Hid (Four _ _) := hF3;clear hF3 es3 ha' hb' hc' hd' HF HFT;have KP7 := KP6.call hb1;have TB7 := TB6.call hb1;clear hb1 KP6 TB6;refine hK.out _ _ (λ_ => rJ KP7 TB7) ?_;clear hK K;try simp only [XK, Xt, Xw, Xv]
          obtain⟨tc0, tc1, tc2, tc3, tf⟩ := KP7.head.at4;have zt := KP7.head.lt;refine anyTill.step (i := 8) rfl kR (λK hK => ?_);go_simp;refine hK.out _ _ (λh => yA7 h) ?_;clear hK K;try simp only [XK, Xt, Xw, Xv]
          refine anyTill.done kR ?_ _;clear tc0 tc1 tc2 tc3 tf zt;go_wp2;go_roundg (gk - 1)
          case measure => omega
          case rel =>
            refine⟨oM, ?_, ⟨ua, ub, uc, ud, KP7.put Q5.out hl5 ua ub uc ud, ?_⟩, (((TB7.other (o := 0) n54 _).other (o := 1) n54 _).other (o := 2) n54 _).other (o := 3) n54 _⟩
            · have := HI.out
              congr 1
              omega
            · have h1 := HFU.out
              unfold Hid;rw [HI.out, OH n I, show I + 4 = 4 * gk by have := HI.out; omega, HE.out, HT.out];rw [show 2 * (2 * (2 * (2 * E))) + tt = 16 * E + tt by omega]at h1;exact h1
def p0:Nat:=115792089237316195423570985008687907853269984665640564039457584007908834671663
def p1:Nat:=115792089237316195423570985008687907852837564279074904382605163141518161494337
def gv0:Xu:=.agg #[uZ 4294968273,uZ 0,uZ 0,uZ 0]
def gv1:Xu:=.agg #[uZ 4624529908474429119,uZ 4994812053365940164,uZ 1,uZ 0]
theorem WT:Gap 4294968273 0 0 p0:=⟨dC,dC,dC,X9 ⟨rfl,rfl⟩,dK,dK,dK⟩
theorem WS:Gap 4624529908474429119 4994812053365940164 1 p1:=⟨dC,dC,dC,X0 ⟨4994812053365940165,dK,dC⟩,dK,dK,dK⟩
theorem v9(w:Xs):
 XH prog 118 #[] w λe w'=>e=.returned (.agg #[uZ 4294968273,uZ 0,uZ 0,uZ 0])/\w'=w.alloc (.cells #[uZ 4294968273,uZ 0,uZ 0,uZ 0] 78):=by
 go_enter func118,ntmps118;go_wp2;refine XE (v:=?v) ?hr rfl ?hR
 case hr=>simp[results,Tryz.results118,go_sem];rfl
 exact⟨rfl,rfl⟩
theorem Dq(w:Xs):
 XH prog 28 #[] w λe w'=>e=.returned (.agg #[uZ 4624529908474429119,uZ 4994812053365940164,uZ 1,uZ 0])/\w'=w.alloc (.cells #[uZ 4624529908474429119,uZ 4994812053365940164,uZ 1,uZ 0] 78):=by
 go_enter func28,ntmps28;go_wp2;refine XE (v:=?v) ?hr rfl ?hR
 case hr=>simp[results,Tryz.results28,go_sem];rfl
 exact⟨rfl,rfl⟩
end
section
abbrev Bs:=Array UInt8
def ub(x:UInt8):Int:=(x.toNat:Int)
def encB(x:UInt8):Xu:=.int .u8 (ub x)
structure Only(b off n:Nat)(w w':Xs):Prop where
 os:w'.os=w.os
 tape:w'.tape=w.tape
 output:w'.output=w.output
 size:w.heap.size<=w'.heap.size
 block:∀k,k<w.heap.size->k≠b->w'.heap[k]? = w.heap[k]?
 cell:∀o,(o<off\/off+n<=o)->w'.cell? ⟨b,o,none⟩=w.cell? ⟨b,o,none⟩
 froz:∀o,w'.frozen? ⟨b,o,none⟩=w.frozen? ⟨b,o,none⟩
variable {b off n:Nat}{w w1 w2:Xs}
theorem Only.refl(b off n:Nat)(w:Xs):Only b off n w w:=⟨rfl,rfl,rfl,Xx _,λ_ _ _=>rfl,λ_ _=>rfl,λ_=>rfl⟩
theorem Only.trans(h:Only b off n w w1)(k:Only b off n w1 w2):Only b off n w w2:=
 ⟨k.os.trans h.os,k.tape.trans h.tape,k.output.trans h.output,Nat.le_trans h.size k.size,
  λi d c=>(k.block i (Xz d h.size) c).trans (h.block i d c),
  λo ho=>(k.cell o ho).trans (h.cell o ho),λo=>(k.froz o).trans (h.froz o)⟩
theorem Only.setCell(h:Only b off n w w1){o:Nat}(f:off<=o)(g:o<off+n)(v:Xu):Only b off n w (w1.setCell ⟨b,o,none⟩ v):=by
 refine h.trans ⟨rfl,rfl,rfl,by simp,λk _ c=>yB2 _ _ _ _ c,λd ho=>?_,λd=>by simp⟩;exact XZ _ _ _ _ (by intro e;simp only[Addr.mk.injEq,and_true,true_and]at e;omega)
theorem Only.below(h:Only b off n w w1){B:Nat}(d:B<=w.heap.size)(e:B<=b):Below B w w1:=
 ⟨h.os,h.tape,h.output,h.size,λk c=>h.block k oM oM⟩
section
variable {α:Type}[Inhabited α]{enc:α->Xu}{d:Array α}
theorem Holds.lt(h:Holds enc w b off d)(hd:0<d.size):b<w.heap.size:=World.block_lt_of_cell? _ _ (h 0 hd).1
theorem Holds.same{o:Nat}(h:Holds enc w b o d)(k:Only b off n w w1)(hd:o+d.size<=off\/off+n<=o):Holds enc w1 b o d:=by
 intro j c;rw[k.cell _ oM,k.froz];exact h j c
theorem Holds.below{B:Nat}(h:Holds enc w b off d)(k:Below B w w1)(c:b<B):Holds enc w1 b off d:=by
 intro j e;rw[k.cell (p:=⟨b,off+j,none⟩) c,k.frozen (p:=⟨b,off+j,none⟩) c];exact h j e
theorem Holds.drewN(h:Holds enc w b off d)(q:Nat):Holds enc (w.drewN q) b off d:=h
theorem Holds.set(h:Holds enc w b off d){i:Nat}(c:i<d.size)(x:α):Holds enc (w.setCell ⟨b,off+i,none⟩ (enc x)) b off (d.setIfInBounds i x):=by
 intro j k;rw[Array.size_setIfInBounds]at k;rw[YN];by_cases e:j=i
 ·subst e;rw[getElem!_set_same d j x c];exact⟨Y1 _ _ _ (h j k).1,(h j k).2⟩
 ·rw[getElem!_set_other d i j x e,XZ _ _ _ _ (by intro e';simp only[Addr.mk.injEq,and_true,true_and]at e';omega)];exact h j k
theorem Holds.new(w:Xs)(t:Yd)(d:Array α):Holds enc (w.alloc (.cells (d.map enc) t)) w.heap.size 0 d:=by
 intro j k;rw[Yp,Zn];refine⟨?_,rfl⟩;simp only[XD,Array.getElem?_map,Array.getElem?_eq_getElem k,Option.map_some,getElem!_pos d j k]
theorem Holds.made(w:Xs)(t:Yd)(n:Nat)(x:α):Holds enc (w.alloc (.cells (madeCells #[enc x] n) t)) w.heap.size 0 (XL n x):=by
 intro j k;rw[XU]at k;rw[Yp,Zn];refine⟨?_,rfl⟩;rw[getElem!_pos _ j (by simpa using k),Zo];simp[madeCells,k,yEw]
end
section
def fill(i:Nat):UInt8:=XN (i%251) ^^^ 165
def lentTo(s:ByteArray):Nat->Bs
 | 0=>s.data++XL 160 0
 | k+1=>(lentTo s k).setIfInBounds (s.size+k) (fill (s.size+k))
def lent(s:ByteArray):Bs:=lentTo s 160
variable {w w1:Xs}{b o n:Nat}
theorem heap_setCells(b:Nat){k:Nat}(c:k≠b):∀(vs:List Xu) (p:Nat) (w:Xs),(w.setCells b p vs).heap[k]? = w.heap[k]?
 | [],_,_=>rfl
 | v :: r,p,w=>by rw[World.setCells,heap_setCells b c r (p+1) _,yB2 _ _ _ _ c]
theorem Holds.setCells{d r:Bs}(h:Holds encB w b o d)(vs:List Xu)(p:Nat)(g:r.size=d.size)(m:p+vs.length<=d.size)
 (f:∀j (k:j<vs.length),vs[j]=encB r[p+j]!) (c:∀j,j<d.size->j<p\/p+vs.length<=j->r[j]! = d[j]!):Holds encB (w.setCells b (o+p) vs) b o r:=by
 intro j k;rw[g]at k;rw[World.frozen?_setCells];refine⟨?_,(h j k).2⟩;by_cases e:j<p\/p+vs.length<=j
 ·rw[World.cell?_setCells_out b vs (o+p) w ⟨b,o+j,none⟩ (λ_ _=>by simp only;omega),c j k e];exact(h j k).1
 ·have c:j-p<vs.length:=oM;have:=World.cell?_setCells_in b vs (o+p) w (λi l=>by
   have:=(h (p+i) oM).1;rw[<-Zu]at this;rw[this];rfl) (j-p) c
  rw[show o+p+(j-p)=o+j by omega]at this;rw[this,f (j-p) c,show p+(j-p)=j by omega]
theorem app_front(a r:Bs)(j:Nat)(k:j<a.size):(a++r)[j]! = a[j]:=by
 have h:j<(a++r).size:=by rw[Yg];omega
 rw[getElem!_pos (a++r) j h,Array.getElem_append_left k]
theorem app_back(a r:Bs)(j:Nat)(k:a.size<=j)(c:j<a.size+r.size):(a++r)[j]! = r[j-a.size]!:=by
 have h:j<(a++r).size:=by rw[Yg];omega
 have b:j-a.size<r.size:=oM;rw[getElem!_pos (a++r) j h,Array.getElem_append_right k,getElem!_pos r (j-a.size) b]
theorem rep_at(n j:Nat)(h:j<n):(XL n (0:UInt8))[j]! = 0:=by
 have k:j<(XL n (0:UInt8)).size:=by rw[XU];exact h
 rw[getElem!_pos (XL n (0:UInt8)) j k,Zo]
theorem size_of5(P:YG)(e:Yd)(h:(P.info? e).map (·.size)=some 1):∀w,(yCN e).run P w=.ok 1 w:=by
 intro w;cases k:P.info? e with
 | none=>simp[k]at h
 | some i =>
  simp[k]at h;simp[yCN,typeInfo,k,h]
theorem conv_str(P:YG)(src k e:Yd)(q:P.underlying src=some (.slice e))(r:P.underlying e=some (.int .u8))(hd:P.underlying k=some .string)
 (w:Xs) (b o n cap:Nat) (c:Bs) (i:Holds encB w b o c) (p:c.size=n):(convert src k (.slice (some ⟨b,o,none⟩) n cap)).run P w=.ok (.string ⟨c⟩) w:=by
 have h:=run_convert_bytes_back (P:=P) w src k e ⟨b,o,none⟩ cap c.toList q r hd (λj m=>by
  have d:j<c.size:=by simpa using m
  have f:=(i j d).1;rw[getElem!_pos c j d]at f;have l:(⟨b,o,none⟩:Addr).add j=⟨b,o+j,none⟩:=by
   unfold yB3;by_cases g:j=0
   ·subst g;rfl
   ·rw[yET g]
  rw[l,f];simp[encB,ub])
 simpa[p]using h
end
section
theorem slice22:prog.underlying 23=some (.slice 5):=kR
theorem info5:(prog.info? 5).map (λi=>(i.zero,i.size,i.bytes))=some (some (.int .u8 0),1,1):=kR
theorem int5:prog.underlying 5=some (.int .u8):=kR
theorem str9:prog.underlying 9=some .string:=kR
theorem size5:∀w,(yCN 5).run prog w=.ok 1 w:=size_of5 prog 5 kR
end
end
section
variable {P:Nat}[NeZero P]{N:Nat}
def be8(x:Nat):Bs:=#[XN (x/72057594037927936),XN (x/281474976710656),XN (x/1099511627776),XN (x/4294967296),XN (x/16777216),XN (x/65536),XN (x/256),XN x]
def be32(a b c d:Nat):Bs:=be8 d++be8 c++be8 b++be8 a
theorem nK(x:Nat):ub (XN x)=((x%256:Nat):Int):=by
 unfold ub;rw[UInt8.toNat_ofNat']
theorem Pm(x:Nat):IntKind.u8.wrap (x:Int)=ub (XN x):=by
 rw[nK,IntKind.wrap_u8];omega
theorem byte_at(x k:Nat):(YQ .u8 ((x:Int)/(k:Int)%256))=encB (XN (x/k)):=by
 unfold encB;rw[nK,yDS,yBK];rfl
theorem Mf(x:Nat)(hx:x<18446744073709551616):(YQ .u8 ((x:Int)/72057594037927936))=encB (XN (x/72057594037927936)):=by
 unfold encB;rw[nK];exact congrArg (YQ .u8) oM
theorem We(k:Bs)(g:k.size=8)(v0 v1 v2 e f d b c:UInt8):
 (((((((k.setIfInBounds 0 v0).setIfInBounds 1 v1).setIfInBounds 2 v2).setIfInBounds 3 e).setIfInBounds 4 f).setIfInBounds 5 d).setIfInBounds 6 b).setIfInBounds 7 c=#[v0,v1,v2,e,f,d,b,c]:=by
 obtain⟨l⟩:=k;match l,g with
 | [_,_,_,_,_,_,_,_],_=>simp
theorem kL(g o n cap x:Nat)(b:Bs)(w:Xs)(A:8<=n)(v:n<=cap)(c:cap<=1048576)(hx:x<18446744073709551616)(m:b.size=8)(k:Holds encB w g o b):
 XH prog 52 #[.slice (some ⟨g,o,none⟩) n cap,uZ x] w λe w'=>e=.returned (.tuple #[])/\Only g o 8 w w'/\Holds encB w' g o (be8 x):=by
 obtain⟨s,r⟩:=k 0 oM;obtain⟨c1,z⟩:=k 1 oM;obtain⟨c2,f2⟩:=k 2 oM;obtain⟨G,a⟩:=k 3 oM;obtain⟨y,D⟩:=k 4 oM;obtain⟨t,u⟩:=k 5 oM;obtain⟨B,C⟩:=k 6 oM;obtain⟨F,E⟩:=k 7 oM;rw[yAi]at s r;have f:=mk1 (k);go_enter func52,ntmps52;go_wp2;have v0:(YQ .u8 ((x:Int)/72057594037927936))=encB (XN (x/72057594037927936)):=Mf x hx;have v1:(YQ .u8 ((x:Int)/281474976710656%256))=encB (XN (x/281474976710656)):=byte_at x 281474976710656;have v2:(YQ .u8 ((x:Int)/1099511627776%256))=encB (XN (x/1099511627776)):=byte_at x 1099511627776;have q:(YQ .u8 ((x:Int)/4294967296%256))=encB (XN (x/4294967296)):=byte_at x 4294967296;have j:(YQ .u8 ((x:Int)/16777216%256))=encB (XN (x/16777216)):=byte_at x 16777216;have p:(YQ .u8 ((x:Int)/65536%256))=encB (XN (x/65536)):=byte_at x 65536;have d:(YQ .u8 ((x:Int)/256%256))=encB (XN (x/256)):=byte_at x 256;have l:(YQ .u8 ((x:Int)%256))=encB (XN x):=by unfold encB;rw[nK,yDS];rfl
 rw[v0,v1,v2,q,j,p,d,l]
 go_end0
 refine⟨rfl,?_,?_⟩
 ·exact((((((((Only.refl g o 8 w).setCell (o:=o) oM oM _).setCell (o:=o+1) oM oM _).setCell (o:=o+2) oM oM _).setCell (o:=o+3) oM oM _).setCell (o:=o+4) oM oM _).setCell (o:=o+5) oM oM _).setCell (o:=o+6) oM oM _).setCell (o:=o+7) oM oM _
 ·have:=We b m (XN (x/72057594037927936)) (XN (x/281474976710656)) (XN (x/1099511627776)) (XN (x/4294967296)) (XN (x/16777216)) (XN (x/65536)) (XN (x/256)) (XN x);unfold be8;rw[<-this];exact Holds.set (Holds.set (Holds.set (Holds.set (Holds.set (Holds.set (Holds.set (Holds.set f.out (i:=0) oM _) (i:=1) (by simp;omega) _) (i:=2) (by simp;omega) _) (i:=3) (by simp;omega) _) (i:=4) (by simp;omega) _) (i:=5) (by simp;omega) _) (i:=6) (by simp;omega) _) (i:=7) (by simp;omega) _
theorem cC(x:Nat):(be8 x).size=8:=rfl
theorem AU(a b c d:Nat):(be32 a b c d).size=32:=by simp only[be32,Yg,cC]
theorem Holds.part{w:Xs}{g o p:Nat}{d e:Bs}(h:Holds encB w g o d)(c:p+e.size<=d.size)(b:∀j,j<e.size->e[j]! = d[p+j]!):Holds encB w g (o+p) e:=by
 intro j k;rw[b j k,Zu];exact h (p+j) oM
theorem Holds.join{w:Xs}{g:Nat}{a b c d:Nat}(n:Holds encB w g 0 (be8 d))(f:Holds encB w g 8 (be8 c))(l:Holds encB w g 16 (be8 b))(m:Holds encB w g 24 (be8 a)):Holds encB w g 0 (be32 a b c d):=by
 intro j i;rw[AU]at i;have e:be32 a b c d=be8 d++be8 c++be8 b++be8 a:=rfl;have s1:(be8 d++be8 c).size=16:=by simp only[Yg,cC]
 have s2:(be8 d++be8 c++be8 b).size=24:=by simp only[Yg,cC]
 by_cases k:j<8
 ·have:=n j (by rw[cC];exact k);rw[e,app_front _ _ j oM,<-getElem!_pos (be8 d++be8 c++be8 b) j oM,app_front _ _ j oM,<-getElem!_pos (be8 d++be8 c) j oM,app_front _ _ j (by rw[cC];exact k),<-getElem!_pos (be8 d) j (by rw[cC];exact k)];exact this
 ·by_cases o:j<16
  ·have:=f (j-8) (by rw[cC];omega);rw[show 8+(j-8)=0+j by omega]at this;rw[e,app_front _ _ j oM,<-getElem!_pos (be8 d++be8 c++be8 b) j oM,app_front _ _ j oM,<-getElem!_pos (be8 d++be8 c) j oM,app_back _ _ j (by rw[cC];omega) (by rw[cC,cC];omega),cC];exact this
  ·by_cases p:j<24
   ·have:=l (j-16) (by rw[cC];omega);rw[show 16+(j-16)=0+j by omega]at this;rw[e,app_front _ _ j oM,<-getElem!_pos (be8 d++be8 c++be8 b) j oM,app_back _ _ j oM (by rw[s1,cC];omega),s1];exact this
   ·have:=m (j-24) (by rw[cC];omega);rw[show 24+(j-24)=0+j by omega]at this;rw[e,app_back _ _ j oM (by rw[s2,cC];omega),s2];exact this
theorem WQ(a b c d:Nat)(w:Xs):(yBs 42 (.agg #[uZ a,uZ b,uZ c,uZ d]) (iZ 0)).run prog w=.ok (uZ a) w:=kR
theorem WP(a b c d:Nat)(w:Xs):(yBs 42 (.agg #[uZ a,uZ b,uZ c,uZ d]) (iZ 1)).run prog w=.ok (uZ b) w:=kR
theorem WO(a b c d:Nat)(w:Xs):(yBs 42 (.agg #[uZ a,uZ b,uZ c,uZ d]) (iZ 2)).run prog w=.ok (uZ c) w:=kR
theorem WN(a b c d:Nat)(w:Xs):(yBs 42 (.agg #[uZ a,uZ b,uZ c,uZ d]) (iZ 3)).run prog w=.ok (uZ d) w:=kR
theorem pD{w:Xs}{g:Nat}(p:Nat)(h:Holds encB w g 0 (XL 32 0))(b:p+8<=32):Holds encB w g p (XL 8 (0:UInt8)):=by
 have:=Holds.part (p:=p) (e:=XL 8 0) h (by simpa using b) (λj k=>by
  rw[XU]at k;rw[rep_at 8 j k,rep_at 32 (p+j) oM])
 rwa[XD]at this
theorem A0(x:Xu)(m:Nat)(w:Xs)(hx:Four x m):
 XH prog 27 #[x] w (rZ w λe w'=>∃g a b c d:Nat,e=sZ g 32 32/\w.heap.size<=g/\x=.agg #[uZ a,uZ b,uZ c,uZ d]/\Holds encB w' g 0 (be32 a b c d)):=by
 obtain⟨a,b,c,d,rfl,K,I,H,hd,N⟩:=hx;clear N;have L:∀w:Xs,(Instr.makeSlice 23 (iZ 32) (iZ 32)).run prog w=.ok (sZ w.heap.size 32 32) (w.alloc (.cells (madeCells #[.int .u8 0] 32) 5)):=
  run_make_row' (P:=prog) 23 5 (.int .u8 0) 1 slice22 info5 rfl .i64 .i64 32 oM oM
 go_enter func27,ntmps27;go_wp2;refine wp_loop_rounds 5 ?_;have f:Holds encB ((w.alloc (.cells #[uZ a,uZ b,uZ c,uZ d] 42)).alloc (.cells (madeCells #[.int .u8 0] 32) 5)) (w.heap.size+1) 0 (XL 32 0):=by
  have:=Holds.made (enc:=encB) (w.alloc (.cells #[uZ a,uZ b,uZ c,uZ d] 42)) 5 32 0;rw[XF]at this;exact this
 have s:=below2 w (.cells #[uZ a,uZ b,uZ c,uZ d] 42) (.cells (madeCells #[.int .u8 0] 32) 5);generalize ((w.alloc (.cells #[uZ a,uZ b,uZ c,uZ d] 42)).alloc (.cells (madeCells #[.int .u8 0] 32) 5))=W at f s⊢;have q:Hid (kZ w W):=s;generalize G:w.heap.size+1=g at f⊢;have l:=mk1 (G);have F:=pD 24 f oM;have j:=pD 16 f oM;have i:=pD 8 f oM;have k:=pD 0 f oM;have z:=WQ a b c d;have E:=WP a b c d;have C:=WO a b c d;have A:=WN a b c d;rw[ZJ];go_wp2_with (simp only[z])
 refine(kL g 24 8 8 a _ _ oM oM oM K (by rw[XU]) F).mono ?_;rintro e S ⟨rfl,v,b1⟩;replace j:=Holds.same j v (by simp);replace i:=Holds.same i v (by simp);replace k:=Holds.same k v (by simp);have p:=mk1 (q.trans (v.below q.size (by have:=l.out;omega)));go_wp2_with fail
 rw[ZJ];go_wp2_with (simp only[E])
 refine(kL g 16 16 16 b _ _ oM oM oM I (by rw[XU]) j).mono ?_;rintro e O ⟨rfl,t,r⟩;replace i:=Holds.same i t (by simp);replace k:=Holds.same k t (by simp);replace b1:=Holds.same b1 t (by simp);have n:=mk1 (p.trans (t.below p.size (by have:=l.out;omega)));go_wp2_with fail
 rw[ZJ];go_wp2_with (simp only[C])
 refine(kL g 8 24 24 c _ _ oM oM oM H (by rw[XU]) i).mono ?_;rintro e R ⟨rfl,u,D⟩;replace k:=Holds.same k u (by simp);replace b1:=Holds.same b1 u (by simp);replace r:=Holds.same r u (by simp);have o:=mk1 (n.trans (u.below n.size (by have:=l.out;omega)));go_wp2_with fail
 rw[ZJ];go_wp2_with (simp only[A])
 refine(kL g 0 32 32 d _ _ oM oM oM hd (by rw[XU]) k).mono ?_;rintro e Q ⟨rfl,y,J⟩;replace b1:=Holds.same b1 y (by simp);replace r:=Holds.same r y (by simp);replace D:=Holds.same D y (by simp);have B:=mk1 (o.trans (y.below o.size (by have:=l.out;omega)));have M:=mk1 (Holds.join J D r b1);go_wp2_with fail
 rw[ZJ];go_wp2
 go_ret;exact⟨_,rfl,B.out,g,a,b,c,d,rfl,by have:=l.out;omega,rfl,M.out⟩
theorem jQ(a b t:Nat)(k:t<=56)(c:a<2^t)(i:b<256):bits .or .u64 (a:Int) ((b*2^t:Nat):Int)=((a+b*2^t:Nat):Int)/\a+b*2^t<2^(t+8):=by
 have f:2^t<=2^56:=Y4 dC k;have g:b*2^t<=255*2^t:=yAj _ oM;have j:2^(t+8)=256*2^t:=by rw[yAX,YF]
 have d:(2:Nat)^56=72057594037927936:=dC;have e:=yBf c b;refine⟨?_,oM⟩;rw[bits_or_u64_nat _ _ oM oM,yEu,YF b,<-e,Nat.add_comm]
theorem qN(b:UInt8)(t:Nat)(k:t<=56):Yn.wrap (Yn.wrap (ub b)*((2^t:Nat):Int))=((b.toNat*2^t:Nat):Int):=by
 have f:=b.toNat_lt;have d:2^t<=2^56:=Y4 dC k;have e:b.toNat*2^t<=255*2^t:=yAj _ oM;have c:(2:Nat)^56=72057594037927936:=dC;unfold ub;rw[wrapN _ oM,mulN,wrapN _ oM]
def w8(b0 b1 e d f c k b:UInt8):Nat:=
 b.toNat+k.toNat*256+c.toNat*65536+f.toNat*16777216+d.toNat*4294967296+e.toNat*1099511627776+b1.toNat*281474976710656+b0.toNat*72057594037927936
theorem Fx(b0 b1 e d f c k b:UInt8):w8 b0 b1 e d f c k b<18446744073709551616:=by
 have:=b0.toNat_lt;have:=b1.toNat_lt;have:=e.toNat_lt;have:=d.toNat_lt
 have:=f.toNat_lt;have:=c.toNat_lt;have:=k.toNat_lt;have:=b.toNat_lt
 unfold w8;omega
theorem MU(b0 b1 f c d b e k:UInt8):
 bits .or .u64 (bits .or .u64 (bits .or .u64 (bits .or .u64 (bits .or .u64 (bits .or .u64 (bits .or .u64 (Yn.wrap (ub k)) (Yn.wrap (Yn.wrap (ub e)*256)))
  (Yn.wrap (Yn.wrap (ub b)*65536))) (Yn.wrap (Yn.wrap (ub d)*16777216))) (Yn.wrap (Yn.wrap (ub c)*4294967296)))
  (Yn.wrap (Yn.wrap (ub f)*1099511627776))) (Yn.wrap (Yn.wrap (ub b1)*281474976710656))) (Yn.wrap (Yn.wrap (ub b0)*72057594037927936))=((w8 b0 b1 f c d b e k:Nat):Int):=by
 have B:=k.toNat_lt;have q:Yn.wrap (ub k)=(k.toNat:Int):=wrapN _ oM;have l:=qN e 8 dC;have s:=qN b 16 dC;have e3:=qN d 24 dC;have y:=qN c 32 dC;have i:=qN f 40 dC;have v:=qN b1 48 dC;have o:=qN b0 56 dC;obtain⟨a,m⟩:=jQ k.toNat e.toNat 8 dC oM (by have:=e.toNat_lt;omega);obtain⟨r,j⟩:=jQ _ b.toNat 16 dC m (by have:=b.toNat_lt;omega);obtain⟨t,p⟩:=jQ _ d.toNat 24 dC j (by have:=d.toNat_lt;omega);obtain⟨A,w⟩:=jQ _ c.toNat 32 dC p (by have:=c.toNat_lt;omega);obtain⟨z,x⟩:=jQ _ f.toNat 40 dC w (by have:=f.toNat_lt;omega);obtain⟨g,n⟩:=jQ _ b1.toNat 48 dC x (by have:=b1.toNat_lt;omega);obtain⟨u,C⟩:=jQ _ b0.toNat 56 dC n (by have:=b0.toNat_lt;omega);rw[show(256:Int)=((2^8:Nat):Int) from rfl,show(65536:Int)=((2^16:Nat):Int) from rfl,show(16777216:Int)=((2^24:Nat):Int) from rfl,
  show(4294967296:Int)=((2^32:Nat):Int) from rfl,show(1099511627776:Int)=((2^40:Nat):Int) from rfl,show(281474976710656:Int)=((2^48:Nat):Int) from rfl,show(72057594037927936:Int)=((2^56:Nat):Int) from rfl,
  q,l,s,e3,y,i,v,o,a,r,t,A,z,g,u]
 rfl
theorem word_any(g o n cap:Nat)(k:Bs)(w:Xs)(z:8<=n)(u:n<=cap)(c:cap<=1048576)(C:8<=k.size)(b:Holds encB w g o k):
 XH prog 101 #[.slice (some ⟨g,o,none⟩) n cap] w λe w'=>e=.returned (.int .u64 ((w8 k[0]! k[1]! k[2]! k[3]! k[4]! k[5]! k[6]! k[7]!:Nat):Int))/\∃n,w'=w.drewN n:=by
 obtain⟨r,q⟩:=b 0 oM;obtain⟨c1,x⟩:=b 1 oM;obtain⟨c2,f2⟩:=b 2 oM;obtain⟨F,y⟩:=b 3 oM;obtain⟨v,B⟩:=b 4 oM;obtain⟨s,t⟩:=b 5 oM;obtain⟨a,A⟩:=b 6 oM;obtain⟨E,D⟩:=b 7 oM;rw[yAi]at r q;unfold encB at *;generalize k[0]! = b0 at *;generalize k[1]! = b1 at *;generalize k[2]! = p at *;generalize k[3]! = f at *;generalize k[4]! = j at *;generalize k[5]! = d at *;generalize k[6]! = l at *;generalize k[7]! = m at *;have i:=mk1 (MU b0 b1 p f j d l m);go_enter func101,ntmps101;go_wp2;go_quiet (fail);go_wp2;go_ret;exact⟨ret_int i.out,_,rfl⟩
def beV(l:List UInt8):Nat:=l.foldl (λn b=>256*n+b.toNat) 0
theorem EJ(l:List UInt8):∀n,l.foldl (λn b=>256*n+b.toNat) n=n*256^l.length+beV l:=by
 induction l with
 | nil=>intro n;simp[beV]
 | cons x r ih =>
  intro n;have k:=ih (256*n+x.toNat);have c:=ih (256*0+x.toNat);simp only[yDR,List.length_cons,beV]at *;rw[k,c,Zf,Nat.add_mul,yCu,XD,YF 256 n,yAB,YF 256];omega
theorem rA(l r:List UInt8):beV (l++r)=beV l*256^r.length+beV r:=by
 rw[beV,List.foldl_append,EJ];rfl
theorem IX(n:Nat)(l:List UInt8):beV (YE n 0++l)=beV l:=by
 rw[rA];have:beV (YE n 0)=0:=by
  induction n with
  | zero=>rfl
  | succ k ih=>rw[List.replicate_succ',rA,ih];rfl
 rw[this,Nat.zero_mul,XD]
theorem Ml(s x z t y v u w a r f q o m c g x16 x17 e b j x21 n x23 p d x26 x27 k i x30 l:UInt8):
 beV [s,x,z,t,y,v,u,w,a,r,f,q,o,m,c,g,x16,x17,e,b,j,x21,n,x23,p,d,x26,x27,k,i,x30,l]
  = val (w8 p d x26 x27 k i x30 l) (w8 x16 x17 e b j x21 n x23) (w8 a r f q o m c g) (w8 s x z t y v u w):=by
 simp only[beV,yDR,List.foldl_nil,w8,val];omega
theorem IY(k:Bs)(h:k.size=32):beV k.toList=val (w8 k[24]! k[25]! k[26]! k[27]! k[28]! k[29]! k[30]! k[31]!) (w8 k[16]! k[17]! k[18]! k[19]! k[20]! k[21]! k[22]! k[23]!)
 (w8 k[8]! k[9]! k[10]! k[11]! k[12]! k[13]! k[14]! k[15]!) (w8 k[0]! k[1]! k[2]! k[3]! k[4]! k[5]! k[6]! k[7]!):=by
 obtain⟨l⟩:=k;match l,h with
 | [x0,x1,x2,x3,x4,x5,x6,x7,x8,x9,x10,x11,x12,x13,x14,x15,x16,x17,x18,x19,x20,x21,x22,x23,x24,x25,x26,x27,x28,x29,x30,x31],_=>exact Ml x0 x1 x2 x3 x4 x5 x6 x7 x8 x9 x10 x11 x12 x13 x14 x15 x16 x17 x18 x19 x20 x21 x22 x23 x24 x25 x26 x27 x28 x29 x30 x31
theorem zero32:∀w:Xs,(zeroValue 190).run prog w=.ok (.agg (XL 32 (.int .u8 0))) w:=λ_=>kR
theorem ints5:(prog.info? 5).map (·.size)=some 1:=kR
def padded(n:Nat)(k:Bs):Bs:=XL (32-n) 0++k
theorem uU(n:Nat)(k:Bs)(b:k.size=n)(c:n<=32):(padded n k).size=32:=by
 unfold padded;rw[Yg,XU];omega
theorem Eh(n:Nat)(k:Bs):beV (padded n k).toList=beV k.toList:=by
 unfold padded;rw[Array.toList_append,Array.toList_replicate,IX]
theorem OJ{w:Xs}{b g o n cap:Nat}{c:Bs}(i:Holds encB w b 0 (XL 32 0))(t:n<=32)(q:Holds encB w g o c)(m:c.size=n):
 (yAy #[23,23] 3 #[.slice (some ⟨b,32-n,none⟩) n n,.slice (some ⟨g,o,none⟩) n cap]).run prog w=.ok (goInt n) (w.setCells b (32-n) (c.toList.map encB))
  /\ Holds encB (w.setCells b (32-n) (c.toList.map encB)) b 0 (padded n c):=by
 have k:(c.toList.map encB).length=n:=by rw[XV,Array.length_toList,m]
 refine⟨?_,?_⟩
 ·have:=run_copy_cells (P:=prog) w 23 23 3 5 b (32-n) n n ⟨g,o,none⟩ n cap (c.toList.map encB) slice22 ints5 (by rw[k];exact(Nat.min_self n).symm)
   (λj u d=>by
    obtain⟨e,f⟩:=List.getElem?_eq_some_iff.1 d;rw[k]at e;have l:=(q j oM).1;rw[getElem!_pos c j oM]at l;rw[Z9,yAd]at f;have s:(⟨g,o,none⟩:Addr).add j=⟨g,o+j,none⟩:=by
     unfold yB3;by_cases p:j=0
     ·subst p;rw[yES rfl];rfl
     ·rw[yET p]
    rw[s,l,f])
   (λj d=>by
    have:=(i (32-n+j) (by rw[XU];omega)).1;rw[XD]at this;rw[this];rfl)
   (λj d=>by
    have:=(i (32-n+j) (by rw[XU];omega)).2;rwa[XD]at this)
   (λu l=>by obtain⟨x,_,rfl⟩:=List.mem_map.1 l;rfl)
  rw[k]at this;exact this
 ·have:=Holds.setCells (r:=padded n c) i (c.toList.map encB) (32-n) (by rw[uU n c m t,XU]) (by rw[k,XU];omega) (λj d=>?_) (λj e f=>?_)
  ·rw[XD]at this;exact this
  ·rw[k]at d;rw[Z9,yAd];unfold padded;rw[app_back _ _ _ (by rw[XU];omega) (by rw[XU];omega),XU,show 32-n+j-(32-n)=j by omega,getElem!_pos c j oM]
  ·rw[XU]at e;rw[k]at f;unfold padded;rw[app_front _ _ j (by rw[XU];omega),Zo,rep_at 32 j e]
theorem F6{w:Xs}{g:Nat}{T:Bs}(p:Nat)(h:Holds encB w g 0 T)(b:p+8<=T.size):Holds encB w g p #[T[p]!,T[p+1]!,T[p+2]!,T[p+3]!,T[p+4]!,T[p+5]!,T[p+6]!,T[p+7]!]:=by
 have:=Holds.part (p:=p) (e:=#[T[p]!,T[p+1]!,T[p+2]!,T[p+3]!,T[p+4]!,T[p+5]!,T[p+6]!,T[p+7]!]) h (by simpa using b) (λj k=>by
  have:j<8:=by simpa using k
  match j,this with
  | 0,_=>rfl
  | 1,_=>rfl
  | 2,_=>rfl
  | 3,_=>rfl
  | 4,_=>rfl
  | 5,_=>rfl
  | 6,_=>rfl
  | 7,_=>rfl)
 rwa[XD]at this
theorem oO(g o n cap:Nat)(b0 b1 j c d b f i:UInt8)(w:Xs)(p:8<=n)(l:n<=cap)(k:cap<=1048576)(m:Holds encB w g o #[b0,b1,j,c,d,b,f,i]):
 XH prog 101 #[.slice (some ⟨g,o,none⟩) n cap] w λe w'=>e=.returned (uZ ((w8 b0 b1 j c d b f i:Nat):Int))/\∃n,w'=w.drewN n:=
 word_any g o n cap #[b0,b1,j,c,d,b,f,i] w p l k (Xx 8) m
theorem Holds.far{w:Xs}{g o j i:Nat}{k:Bs}(h:Holds encB w g o k)(b:j≠g)(v:Xu):Holds encB (w.setCell ⟨j,i,none⟩ v) g o k:=by
 intro l c;rw[XZ _ _ _ _ (bI (X9 b)),YN];exact h l c
theorem kV(B:Option Addr)(g o n cap:Nat)(m:Bs)(w:Xs)(hn:n<=32)(hc:n<=cap)(hs:m.size=n)(W:n=0\/(B=some ⟨g,o,none⟩/\Holds encB w g o m)):
 XH prog 53 #[.slice B n cap] w (rZ w λe w'=>Four e (beV m.toList)):=by
 have F:=uU n m hs hn;have C:=mk1 ((Eh n m).symm.trans (IY _ F));have zv:=zero32;have h7:(n:Int)<=32:=oM;have d0:(0:Int)<=32-(n:Int):=oM;have d1:(32:Int)-(n:Int)<=32:=oM;have d2:((32:Int)-(n:Int)).toNat=32-n:=oM;go_enter func53,ntmps53
 go_upto_region 2 with fail
 have R:=(At4.made w 42 0 0 0 0 rfl).alloc (.cells (XL 32 (.int .u8 0)) 190);have Z:Holds encB ((w.alloc (.cells #[uZ 0,uZ 0,uZ 0,uZ 0] 42)).alloc (.cells (XL 32 (.int .u8 0)) 190)) (w.heap.size+1) 0 (XL 32 0):=by
  have:=Holds.new (enc:=encB) (w.alloc (.cells #[uZ 0,uZ 0,uZ 0,uZ 0] 42)) 190 (XL 32 0);rw[Array.map_replicate,XF]at this;exact this
 have BL:=below2 w (.cells #[uZ 0,uZ 0,uZ 0,uZ 0] 42) (.cells (XL 32 (.int .u8 0)) 190);simp only[Zy]at R;have I:n=0\/(B=some ⟨g,o,none⟩/\Holds encB ((w.alloc (.cells #[uZ 0,uZ 0,uZ 0,uZ 0] 42)).alloc (.cells (XL 32 (.int .u8 0)) 190)) g o m):=by
  rcases W with h|⟨h1,b⟩
  ·exact X9 h
  ·by_cases A:n=0
   ·exact X9 A
   ·exact X0 ⟨h1,Holds.below b BL (Holds.lt b oM)⟩
 clear W;generalize Z0 _ _=Y at R Z BL I⊢
 go_cut [] (λwx=>Holds encB wx (w.heap.size+1) 0 (padded n m)/\At4 wx w.heap.size 0 0 0 0/\kZ w wx)
 case first =>
  by_cases A:n=0
  ·subst A;have f:∀w d b dc,(yAy #[23,23] 3 #[.slice d b dc,.slice B 0 cap]).run prog w=.ok (goInt 0) w:=λw d b dc=>run_copy_none w 23 23 3 5 d B b dc 0 cap slice22 ints5 (by simp)
   have c:padded 0 m=XL 32 0:=by
    have:m=#[]:=Array.eq_empty_of_size_eq_zero hs;rw[this];rfl
   go_wp2
   go_meet
   exact⟨by rw[c];exact Z,R,BL⟩
  ·obtain⟨rfl,W⟩:B=some ⟨g,o,none⟩/\Holds encB Y g o m:=I.resolve_left A;obtain⟨f,j⟩:=OJ (cap:=cap) Z hn W hs;have l:32-(32-n)=n:=oM;have b:At4 (Y.setCells (w.heap.size+1) (32-n) (m.toList.map encB)) w.heap.size 0 0 0 0:=by
    have c:=heap_setCells (w.heap.size+1) (k:=w.heap.size) oM (m.toList.map encB) (32-n) Y;exact⟨by rw[<-R.c0];exact XW c,by rw[<-R.c1];exact XW c,by rw[<-R.c2];exact XW c,by rw[<-R.c3];exact XW c,λo=>by rw[<-R.f o];exact World.frozen?_of_block c⟩
   have y:kZ w (Y.setCells (w.heap.size+1) (32-n) (m.toList.map encB)):=below_setCells (yBW _) _ _ _ BL;have c:=mk3 j b y;go_wp2
   go_meet
   exact c.out
 case rest =>
  obtain⟨D,b,y⟩:=hcut;generalize padded n m=T at D F C⊢;have S:=F6 24 D oM;have p2:=F6 16 D oM;have p1:=F6 8 D oM;have p0:=F6 0 D oM;have zk:=b.lt;have r:=Holds.lt D oM;generalize L:w8 T[24]! T[25]! T[26]! T[27]! T[28]! T[29]! T[30]! T[31]! = x at C;generalize M:w8 T[16]! T[17]! T[18]! T[19]! T[20]! T[21]! T[22]! T[23]! = a at C;generalize J:w8 T[8]! T[9]! T[10]! T[11]! T[12]! T[13]! T[14]! T[15]! = O at C;generalize G:w8 T[0]! T[1]! T[2]! T[3]! T[4]! T[5]! T[6]! T[7]! = q at C;have l3:=L ▸ Fx _ _ _ _ _ _ _ _;have l2:=M ▸ Fx _ _ _ _ _ _ _ _;have l1:=J ▸ Fx _ _ _ _ _ _ _ _;have l0:=G ▸ Fx _ _ _ _ _ _ _ _;go_wp2;have N:=At4.made wc 42 0 0 0 0 rfl;simp only[Zy]at N;replace S:=Holds.below S (aC wc (.cells #[uZ 0,uZ 0,uZ 0,uZ 0] 42)) r;replace p2:=Holds.below p2 (aC wc (.cells #[uZ 0,uZ 0,uZ 0,uZ 0] 42)) r;replace p1:=Holds.below p1 (aC wc (.cells #[uZ 0,uZ 0,uZ 0,uZ 0] 42)) r;replace p0:=Holds.below p0 (aC wc (.cells #[uZ 0,uZ 0,uZ 0,uZ 0] 42)) r;have BL:=mk1 (y.alloc (yAl zk) (.cells #[uZ 0,uZ 0,uZ 0,uZ 0] 42));replace b:=b.alloc (.cells #[uZ 0,uZ 0,uZ 0,uZ 0] 42);have z:w.heap.size≠wc.heap.size:=oM;have u:w.heap.size+1≠wc.heap.size:=oM;have Q:Hid (w.heap.size<=wc.heap.size):=by unfold Hid;omega
  generalize wc.heap.size=U at N z u Q⊢;generalize h1:w.heap.size+1=P at S p2 p1 p0 u⊢;generalize A:w.heap.size=V at b z BL Q⊢;have H0:=mk1 (A);refine wp_loop_rounds 5 ?_;obtain⟨f,c,l,j,s⟩:=id N;have t:=N.lt;rw[ZJ];go_wp2_with fail
  refine(oO P 24 8 8 _ _ _ _ _ _ _ _ _ dC dC dC S).mono ?_;rintro e w1 ⟨rfl,E,rfl⟩;rw[L];replace N:=N.drewN E;obtain⟨f,c,l,j,s⟩:=id N;have t:=N.lt;go_wp2_with fail
  replace N:=N.set0 x;replace b:=(b.drewN E).other (o:=0) z.symm (uZ x);replace BL:Hid (Below V w _):=(nE BL.out E).setCell (p:=⟨U,0,none⟩) Q.out (uZ x);replace p2:=Holds.far (Holds.drewN p2 E) (i:=0) u.symm (uZ x);replace p1:=Holds.far (Holds.drewN p1 E) (i:=0) u.symm (uZ x);replace p0:=Holds.far (Holds.drewN p0 E) (i:=0) u.symm (uZ x);obtain⟨f,c,l,j,s⟩:=id N;have t:=N.lt;rw[ZJ];go_wp2_with fail
  refine(oO P 16 16 16 _ _ _ _ _ _ _ _ _ dC dC dC p2).mono ?_;rintro e w1 ⟨rfl,K,rfl⟩;rw[M];replace N:=N.drewN K;obtain⟨f,c,l,j,s⟩:=id N;have t:=N.lt;go_wp2_with fail
  replace N:=N.set1 a;replace b:=(b.drewN K).other (o:=1) z.symm (uZ a);replace BL:Hid (Below V w _):=(nE BL.out K).setCell (p:=⟨U,1,none⟩) Q.out (uZ a);replace p1:=Holds.far (Holds.drewN p1 K) (i:=1) u.symm (uZ a);replace p0:=Holds.far (Holds.drewN p0 K) (i:=1) u.symm (uZ a);obtain⟨f,c,l,j,s⟩:=id N;have t:=N.lt;rw[ZJ];go_wp2_with fail
  refine(oO P 8 24 24 _ _ _ _ _ _ _ _ _ dC dC dC p1).mono ?_;rintro e w1 ⟨rfl,X,rfl⟩;rw[J];replace N:=N.drewN X;obtain⟨f,c,l,j,s⟩:=id N;have t:=N.lt;go_wp2_with fail
  replace N:=N.set2 O;replace b:=(b.drewN X).other (o:=2) z.symm (uZ O);replace BL:Hid (Below V w _):=(nE BL.out X).setCell (p:=⟨U,2,none⟩) Q.out (uZ O);replace p0:=Holds.far (Holds.drewN p0 X) (i:=2) u.symm (uZ O);obtain⟨f,c,l,j,s⟩:=id N;have t:=N.lt;rw[ZJ];go_wp2_with fail
  refine(oO P 0 32 32 _ _ _ _ _ _ _ _ _ dC dC dC p0).mono ?_;rintro e w1 ⟨rfl,q3,rfl⟩;rw[G];replace N:=N.drewN q3;obtain⟨f,c,l,j,s⟩:=id N;have t:=N.lt;go_wp2_with fail
  replace N:=N.set3 q;replace b:=(b.drewN q3).other (o:=3) z.symm (uZ q);replace BL:Hid (Below V w _):=(nE BL.out q3).setCell (p:=⟨U,3,none⟩) Q.out (uZ q);obtain⟨f,c,l,j,s⟩:=id N;have t:=N.lt;obtain⟨h5,h6,h4,h3,rf⟩:=id b;have zr:=b.lt;rw[ZJ];go_wp2
  have H:=b.self4 x a O q;unfold set4 at H;refine XE (v:=?v) ?hr rfl ?hR
  case hr=>simp[results,Tryz.results53,go_sem,H.c0,H.c1,H.c2,H.c3];rfl
  refine⟨_,rfl,?_,Four.mk l3 l2 l1 l0 C.out⟩;rw[H0.out];exact aK BL.out (Xx _) _ _ _ _
theorem sP(l g j P:Nat)(hG:Gap l g j P)(w:Xs):
 XH prog 199 #[.agg #[uZ l,uZ g,uZ j,uZ 0]] w (rZ w λe w'=>Four e P):=by
 have r:=hG.hg;go_enter func199,ntmps199;go_wp2_with fail
 have R:=At4.made (w.alloc (.cells #[uZ l,uZ g,uZ j,uZ 0] 78)) 42 0 0 0 0 (XF _ _);have BL:=below2 w (.cells #[uZ l,uZ g,uZ j,uZ 0] 78) (.cells #[uZ 0,uZ 0,uZ 0,uZ 0] 42);simp only[Zy]at R;refine(tW _ _ 0 _ (Four.mk (a:=0) (b:=0) (c:=0) (d:=0) dC dC dC dC rfl) (Four.mk hG.h0 hG.h1 hG.h2 dC rfl) _).mono ?_;rintro e H ⟨v,rfl,m,v2,t,k,rfl,n,I,q⟩;replace q:t+val l g j 0=0+top*k:=q;have p:t=P:=by
  have f:=n.lt;have i:=hG.hP;have:k=0\/k=1:=oM;rcases this with h|h<;>rw[h]at q<;>omega
 subst p;replace R:=R.call m;have o:=mk1 (BL.trans (m.mono BL.size));obtain⟨a,b,c,d,rfl,D,C,B,hd,E⟩:=id n;have z:=R.lt;go_wp2_with fail
 refine(jR _ _ n _).mono ?_;rintro e u ⟨F,rfl,i,rfl⟩;replace o:Hid (kZ w u):=(o.alloc oM _).trans (i.mono (by simp;omega));replace R:=(R.alloc _).call i;obtain⟨x,y,s,A,G⟩:=id R;have z:=R.lt;go_wp2;have f:=R.self4 a b c d;unfold set4 at f;refine XE (v:=?v) ?hr rfl ?hR
 case hr=>simp[results,Tryz.results199,go_sem,f.c0,f.c1,f.c2,f.c3];rfl
 exact⟨_,rfl,aK o.out (yBW _) _ _ _ _,n⟩
theorem PT(w:Xs)(t0 t1 t2:Yd)(a b c d e f g h i j k l:Nat):
 Kept w w.heap.size [⟨w.heap.size,0,a,b,c,d⟩,⟨w.heap.size+1,0,e,f,g,h⟩,⟨w.heap.size+1+1,0,i,j,k,l⟩]
  (((w.alloc (.cells #[uZ a,uZ b,uZ c,uZ d] t0)).alloc (.cells #[uZ e,uZ f,uZ g,uZ h] t1)).alloc (.cells #[uZ i,uZ j,uZ k,uZ l] t2)):=by
 refine(((Kept.mk1 (below3 w _ _ _) (below3 w _ _ _).size).cons ?_).cons ?_).cons ?_
 ·exact(At4.made _ t2 i j k l (by simp)).blk
 ·exact((At4.made _ t1 e f g h (by simp)).alloc _).blk
 ·exact(((At4.made _ t0 a b c d rfl).alloc _).alloc _).blk
theorem vM(i f g P:Nat)(x:Xu)(m:Nat)(hG:Gap i f g P)(l:2<=P%18446744073709551616)(hx:Four x m)(w:Xs):
 XH prog 174 #[.agg #[uZ i,uZ f,uZ g,uZ 0],x] w (rZ w λe w'=>Four e (m^(P-2)%P)):=by
 obtain⟨a,b,c,d,rfl,ha,hb,Z,hd,Y⟩:=id hx;have G:Hid (Four _ m):=hx;have A:Hid (Gap i f g P):=hG;clear Y hx ha hb Z hd hG;go_enter func174,ntmps174;go_wp2_with fail
 have k:=PT w 78 42 42 i f g 0 a b c d 0 0 0 0;simp only[Zy]at k;generalize Z0 _ _=W0 at k⊢;generalize h2:w.heap.size+1+1=V at k⊢;generalize h1:w.heap.size+1=k1 at k⊢;have z:Hid (w.heap.size<=V):=by unfold Hid;omega
 generalize U:w.heap.size=k0 at k z⊢;have H0:=mk1 (U);refine(sP i f g P A.out _).mono ?_;rintro e w1 ⟨v,rfl,t,o⟩;obtain⟨s,pb,pc,Q,rfl,h6,y,r,u,B⟩:=id o;replace k:=k.call t;have I:2<=s:=by rw[B]at l;unfold val at l;omega
 obtain⟨p,n⟩:∃p,s=p+2:=⟨s-2,oM⟩
 have E:Hid (Four (.agg #[uZ p,uZ pb,uZ pc,uZ Q]) (P-2)):=by
  refine Four.mk oM y r u ?_;rw[B,n];unfold val;omega
 have hw:=wrapN p oM;obtain⟨S,N,h3,X,xf⟩:=k.tail.head.at4;have zx:=k.tail.head.lt;obtain⟨H,W,h8,h5,pf⟩:=k.head.at4;have zp:=k.head.lt;have n1:=ZX zx;have n0:=ZX zp;go_wp2_with fail
 refine(Av i f g P _ _ _ _ A.out G.out E.out _).mono ?_;rintro e w2 ⟨v,rfl,q,o⟩;replace k:=(k.alloc _).call q;obtain⟨T,C,J,L,rfl,h4,h9,R,h7,eQ⟩:=id o;have D:=mk1 (o);obtain⟨M,O,K,F,rf⟩:=k.tail.tail.head.at4;have zr:=k.tail.tail.head.lt;go_wp2;have j:=k.tail.tail.head.at4.self4 T C J L;unfold set4 at j;refine XE (v:=?v) ?hr rfl ?hR
 case hr=>simp[results,Tryz.results174,go_sem,j.c0,j.c1,j.c2,j.c3];rfl
 refine⟨_,rfl,?_,D.out⟩;rw[H0.out];exact aK k.bl z.out _ _ _ _
theorem TC:prog.underlying 24=some (.int .u64):=kR
theorem VW:∀w,(sizeOf 24).run prog w=.ok 1 w:=λ_=>kR
theorem VO:prog.underlying 42=some (.array 4 24):=kR
theorem GN(D:Nat)(a b c d p q r s:Nat)(w:Xs):
 (yEL (D+1+1) 42 (.agg #[uZ a,uZ b,uZ c,uZ d]) (.agg #[uZ p,uZ q,uZ r,uZ s])).run prog w=.ok (decide (a=p/\b=q/\c=r/\d=s)) w:=by
 have k:=λ(x y:Nat)=>run_equalIn_int (P:=prog) w D 24 .u64 .u64 (x:Int) (y:Int) TC
 rw[yEL];simp only[Sem.run_bind,run_underlying VO,Yu,VW];simp only[Std.Legacy.Range.forIn_eq_forIn_range',Std.Legacy.Range.size,List.range',List.forIn_cons,List.forIn_nil];by_cases e:a=p
 ·by_cases f:b=q
  ·by_cases g:c=r
   ·by_cases i:d=s
    ·simp[e,f,g,i,part,k]
    ·simp[e,f,g,i,part,k];omega
   ·simp[e,f,g,part,k];omega
  ·simp[e,f,part,k];omega
 ·simp[e,part,k];omega
theorem Up(a b c d p q r s:Nat)(w:Xs):
 (binOp .neq 42 (.agg #[uZ a,uZ b,uZ c,uZ d]) (.agg #[uZ p,uZ q,uZ r,uZ s])).run prog w=.ok (.bool (!decide (a=p/\b=q/\c=r/\d=s))) w:=by
 rw[run_neq_struct,GN 9998];rfl
theorem QW(a b c d:Nat)(w:Xs):(binOp .neq 42 (.agg #[uZ a,uZ b,uZ c,uZ d]) (.agg #[uZ a,uZ b,uZ c,uZ d])).run prog w=.ok (.bool false) w:=by
 rw[Up,decide_eq_true ⟨rfl,rfl,rfl,rfl⟩];rfl
theorem Oc{a b c d p q r s:Nat}(h:¬(a=p/\b=q/\c=r/\d=s))(w:Xs):(binOp .neq 42 (.agg #[uZ a,uZ b,uZ c,uZ d]) (.agg #[uZ p,uZ q,uZ r,uZ s])).run prog w=.ok (.bool true) w:=by
 rw[Up,decide_eq_false h];rfl
theorem Rx(a b:Nat)(d:a<18446744073709551616):bits .or .u64 ((a/4:Nat):Int) ((b*4611686018427387904%18446744073709551616:Nat):Int)=((a/4+b*4611686018427387904%18446744073709551616:Nat):Int)/\a/4+b*4611686018427387904%18446744073709551616<18446744073709551616:=by
 have k:b*4611686018427387904%18446744073709551616=2^62*(b%4):=oM;have c:=yBf (i:=62) (b:=a/4) oM (b%4);rw[bits_or_u64_nat _ _ oM oM,k,yEu,<-c];omega
theorem Cw(x:Xu)(m:Nat)(hx:Four x m)(w:Xs):
 XH prog 201 #[x] w (rZ w λe w'=>Four e (m/4)):=by
 obtain⟨a,b,c,d,rfl,s,r,q,hd,p⟩:=id hx;obtain⟨g,o⟩:=Rx a b s;obtain⟨i,l⟩:=Rx b c r;obtain⟨f,j⟩:=Rx c d q;have k:=D8 a b c d;rw[<-p]at k;have s0:(a:Int)/4=((a/4:Nat):Int):=oM;have s1:(b:Int)/4=((b/4:Nat):Int):=oM;have s2:(c:Int)/4=((c/4:Nat):Int):=oM;have s3:(d:Int)/4=((d/4:Nat):Int):=oM;have t1:Yn.wrap ((b:Int)*4611686018427387904)=((b*4611686018427387904%18446744073709551616:Nat):Int):=by rw[ZK];omega
 have t2:Yn.wrap ((c:Int)*4611686018427387904)=((c*4611686018427387904%18446744073709551616:Nat):Int):=by rw[ZK];omega
 have u:Yn.wrap ((d:Int)*4611686018427387904)=((d*4611686018427387904%18446744073709551616:Nat):Int):=by rw[ZK];omega
 have n:d/4<18446744073709551616:=oM;generalize a/4+b*4611686018427387904%18446744073709551616=D at g o k;generalize b/4+c*4611686018427387904%18446744073709551616=z at i l k;generalize c/4+d*4611686018427387904%18446744073709551616=y at f j k;generalize b*4611686018427387904%18446744073709551616=v1 at g t1;generalize c*4611686018427387904%18446744073709551616=v2 at i t2;generalize d*4611686018427387904%18446744073709551616=E at f u;generalize a/4=C at g s0;generalize b/4=A at i s1;generalize c/4=B at f s2;generalize d/4=F at s3 n k;have t:Hid _:=k;clear k p hx;go_enter func201,ntmps201;go_wp2;refine XE (v:=?v) ?hr rfl ?hR
 case hr=>simp[results,Tryz.results201,go_sem];rfl
 exact⟨_,rfl,below2 _ _ _,Four.mk o l j n t.symm⟩
theorem Ho(x:Xu)(m:Nat)(hx:Four x m)(w:Xs):
 XH prog 120 #[x] w (rZ w λe w'=>e=.bool (decide (m%2=1))):=by
 obtain⟨a,b,c,d,rfl,f,l,j,hd,i⟩:=id hx;have ho:=and_one a f;have k:m%2=a%2:=by rw[i];unfold val;omega
 rw[k];have g:a%2=0\/a%2=1:=oM;rcases g with h|h
 ·rw[h]at ho⊢;go_enter func120,ntmps120;go_wp2;go_ret;exact⟨_,rfl,aC _ _,rfl⟩
 ·rw[h]at ho⊢;go_enter func120,ntmps120;go_wp2;go_ret;exact⟨_,rfl,aC _ _,rfl⟩
theorem rG{w W:Xs}{k e o f a b c d j m g rd i l n:Nat}(h:Kept w k [⟨k,0,i,l,n,0⟩,⟨f,0,j,m,g,rd⟩,⟨e,0,a,b,c,d⟩,⟨o,0,0,0,0,0⟩] W):W.cell? ⟨k,0,none⟩=some (uZ i)/\W.cell? ⟨k,1,none⟩=some (uZ l)/\W.cell? ⟨k,2,none⟩=some (uZ n)/\W.cell? ⟨k,3,none⟩=some (uZ 0)/\W.cell? ⟨f,0,none⟩=some (uZ j)/\W.cell? ⟨f,1,none⟩=some (uZ m)/\W.cell? ⟨f,2,none⟩=some (uZ g)/\W.cell? ⟨f,3,none⟩=some (uZ rd)/\W.cell? ⟨e,0,none⟩=some (uZ a)/\W.cell? ⟨e,1,none⟩=some (uZ b)/\W.cell? ⟨e,2,none⟩=some (uZ c)/\W.cell? ⟨e,3,none⟩=some (uZ d)/\Kept w k [⟨k,0,i,l,n,0⟩,⟨f,0,j,m,g,rd⟩,⟨e,0,a,b,c,d⟩,⟨o,0,0,0,0,0⟩] W:=
 ⟨h.head.c0,h.head.c1,h.head.c2,h.head.c3,h.tail.head.c0,h.tail.head.c1,h.tail.head.c2,h.tail.head.c3,h.tail.tail.head.c0,h.tail.tail.head.c1,h.tail.tail.head.c2,h.tail.tail.head.c3,h⟩
theorem four_ne{a b c d m n:Nat}{v:Xu}(h:Four v n)(e:Four (.agg #[uZ a,uZ b,uZ c,uZ d]) m)(k:¬n=m):
 ∃p q r s:Nat,v=.agg #[uZ p,uZ q,uZ r,uZ s]/\¬(p=a/\q=b/\r=c/\s=d):=by
 obtain⟨p,q,r,s,rfl,f⟩:=id h;refine⟨p,q,r,s,rfl,?_⟩;rintro⟨rfl,rfl,rfl,rfl⟩;exact k (h.num e)
def even(P r:Nat):Nat:=if r%2=1 then P-r else r
def RootR(P m R:Nat)(e:Xu):Prop:=∃(b c d k:Nat) (ok:Bool),e=.tuple #[.agg #[uZ b,uZ c,uZ d,uZ k],.bool ok] /\
 (ok=true->R*R%P=m/\Four (.agg #[uZ b,uZ c,uZ d,uZ k]) (even P R))/\(ok=false->¬R*R%P=m)/\(ok=false->b=0/\c=0/\d=0/\k=0)
theorem RootR.yes{P m R b c d k:Nat}(h:R*R%P=m)(e:Four (.agg #[uZ b,uZ c,uZ d,uZ k]) (even P R)):RootR P m R (.tuple #[.agg #[uZ b,uZ c,uZ d,uZ k],.bool true]):=
 ⟨b,c,d,k,true,rfl,λ_=>⟨h,e⟩,λh=>yA7 h,λh=>yA7 h⟩
theorem RootR.no{P m R:Nat}(h:¬R*R%P=m):RootR P m R (.tuple #[.agg #[uZ 0,uZ 0,uZ 0,uZ 0],.bool false]):=
 ⟨0,0,0,0,false,rfl,λh=>yA7 h,λ_=>h,λ_=>⟨rfl,rfl,rfl,rfl⟩⟩
theorem Dt(p n o P:Nat)(x:Xu)(m:Nat)(hG:Gap p n o P)(S:P/4%18446744073709551616<18446744073709551615)(hx:Four x m)(w:Xs):
 XH prog 177 #[.agg #[.int .u64 p,.int .u64 n,.int .u64 o,.int .u64 0],x] w (Ret λe w'=>Below w.heap.size w w'/\RootR P m (m^(P/4+1)%P) e):=by
 obtain⟨a,b,c,d,rfl,ha,hb,hc,hd,em⟩:=id hx;have HX:Hid (Four _ m):=hx;have HG:Hid (Gap p n o P):=hG;obtain⟨R,hR⟩:∃R,m^(P/4+1)%P=R:=⟨_,rfl⟩
 have h5:R<P:=by
  rw[<-hR];refine Y9 _ ?_;have:=hG.hP2;omega
 rw[hR];have hj:Hid (m^(P/4+1)%P=R):=hR;have W:Hid (R<P):=h5;clear em hx ha hb hc hd hG hR h5;go_enter func177,ntmps177;go_wp2_with fail
 have k:=PT w 78 42 42 p n o 0 a b c d 0 0 0 0;simp only[Zy]at k;generalize Z0 _ _=W0 at k⊢;generalize h2:w.heap.size+1+1=N at k⊢;generalize h1:w.heap.size+1=q at k⊢;have Q2:Hid (w.heap.size<=N):=by unfold Hid;omega
 generalize h0:w.heap.size=i at k Q2⊢;have H0:Hid (w.heap.size=i):=h0;clear h0 h1 h2;refine(sP p n o P HG.out _).mono ?_;rintro e w1 ⟨v,rfl,f,F⟩;obtain⟨pa,pb,pc,pd,rfl,-⟩:=id F;replace k:=k.call f;clear f;go_wp2_with fail
 refine(Cw _ _ F _).mono ?_;rintro e w2 ⟨v,rfl,Y,h3⟩;obtain⟨qa,qb,qc,qd,rfl,ht,he,h4,h8,eq⟩:=id h3;replace k:=k.call Y;clear Y F h3;have hk:qa<18446744073709551615:=by rw[eq]at S;unfold val at S;omega
 obtain⟨qe,G⟩:∃qe,qa+1=qe:=⟨_,rfl⟩
 have HE:Hid (Four (.agg #[.int .u64 qe,.int .u64 qb,.int .u64 qc,.int .u64 qd]) (P/4+1)):=by
  refine Four.mk oM he h4 h8 ?_;rw[eq,<-G];unfold val;omega
 have hi:(qa:Int)+1=(qe:Int):=oM;have hw:=wrapN qe oM;clear hk eq S ht he h4 h8 G;obtain⟨hn,hm,hs,hp,xf⟩:=k.tail.head.at4;have zx:=k.tail.head.lt;obtain⟨J,O,X,Q,pf⟩:=k.head.at4;have zp:=k.head.lt;have n1:q≠w2.heap.size:=ZX zx;have n0:i≠w2.heap.size:=ZX zp;go_wp2_with fail
 refine(Av p n o P _ _ _ _ HG.out HX.out HE.out _).mono ?_;rintro e L ⟨v,rfl,h7,F⟩;replace k:=(k.alloc _).call h7;clear h7 hn hm hs hp xf zx J O X Q pf zp n0 n1 HE hi hw;obtain⟨D,A,z,rd,rfl,-⟩:=id F;rw[hj.out]at F;have H:Hid (Four _ R):=F;clear F
 go_upto_region 4 with fail
 have hg:Kept w i [⟨i,0,p,n,o,0⟩,⟨L.heap.size,0,D,A,z,rd⟩,⟨q,0,a,b,c,d⟩,⟨N,0,0,0,0,0⟩] _:=((((Kept.mk1 (k.alloc (.cells #[.int .u64 D,.int .u64 A,.int .u64 z,.int .u64 rd] 42)).bl (k.alloc _).le).cons (k.alloc _).tail.tail.head).cons (k.alloc _).tail.head).cons (At4.made L 42 D A z rd rfl).blk).cons (x:=⟨i,0,p,n,o,0⟩) (k.alloc _).head |> λh=>by exact h
 have hu:L.heap.size≠i:=Zg k.head.lt;have h6:L.heap.size≠N:=Zg k.tail.tail.head.lt;have hq:L.heap.size≠q:=Zg k.tail.head.lt;have Q7:Hid (i<=L.heap.size):=k.le;clear k;have k:=hg;clear hg;generalize Z0 _ _=W4 at k⊢;generalize L.heap.size=t at k hu hq h6 Q7⊢;by_cases r:R*R%P=m
 ·have hl:=QW a b c d;go_region_held3 (λw'=>w'.cell? ⟨i,0,none⟩=some (.int .u64 p)/\w'.cell? ⟨i,1,none⟩=some (.int .u64 n)/\w'.cell? ⟨i,2,none⟩=some (.int .u64 o)/\w'.cell? ⟨i,3,none⟩=some (.int .u64 0)/\w'.cell? ⟨t,0,none⟩=some (.int .u64 D)/\w'.cell? ⟨t,1,none⟩=some (.int .u64 A)/\w'.cell? ⟨t,2,none⟩=some (.int .u64 z)/\w'.cell? ⟨t,3,none⟩=some (.int .u64 rd)/\w'.cell? ⟨q,0,none⟩=some (.int .u64 a)/\w'.cell? ⟨q,1,none⟩=some (.int .u64 b)/\w'.cell? ⟨q,2,none⟩=some (.int .u64 c)/\w'.cell? ⟨q,3,none⟩=some (.int .u64 d)/\Kept w i [⟨i,0,p,n,o,0⟩,⟨t,0,D,A,z,rd⟩,⟨q,0,a,b,c,d⟩,⟨N,0,0,0,0,0⟩] w') (first|(with_reducible exact rG k)|(with_reducible exact rG k.drew)|fail) (first|(go_at_call 51;refine(qA p n o P _ _ _ _ HG.out H.out H.out _).mono ?_;rintro e w5 ⟨v,rfl,f,s⟩;rw[r]at s;obtain rfl:=s.inj HX.out;clear s;(first|(with_reducible (have l:=k.drew.call f))|(with_reducible (have l:=k.call f))|fail);clear k f;have k:=l;clear l))
  have u:Hid (R*R%P=m):=r;clear r
  rename_i hHeld
  clear hHeld;obtain⟨y,C,E,B,tf⟩:=k.tail.head.at4;have zt:=k.tail.head.lt;go_wp2_with fail
  clear y C E B tf zt;refine(Ho _ _ H.out _).mono ?_;rintro e w6 ⟨v,rfl,Z,rfl⟩;replace k:=k.call Z;clear Z;obtain⟨y,C,E,B,tf⟩:=k.tail.head.at4;have zt:=k.tail.head.lt;obtain⟨T,K,M,V,uf⟩:=k.tail.tail.tail.head.at4;have zu:=k.tail.tail.tail.head.lt;by_cases g:R%2=1
  ·have hd:decide (R%2=1)=true:=decide_eq_true g;rw[hd];have HO:Hid (R%2=1):=g;clear hd g;obtain⟨J,O,X,Q,pf⟩:=k.head.at4;have zp:=k.head.lt;go_wp2_with fail
   refine(uM p n o P _ _ 0 _ HG.out (Four.mk (a:=0) (b:=0) (c:=0) (d:=0) dC dC dC dC rfl) H.out (by have:=W.out;omega) W.out _).mono ?_;rintro e w8 ⟨v,rfl,h9,I⟩;obtain⟨sa,sb,sc,sd,rfl,-⟩:=id I;have U:Hid (Four (.agg #[.int .u64 sa,.int .u64 sb,.int .u64 sc,.int .u64 sd]) (even P R)):=by
    have h1:(0+P-R)%P=even P R:=by
     unfold even;rw[yES HO.out,XD];exact XX (by have:=W.out;have:=HO.out;omega)
    unfold Hid;rw[<-h1];exact I
   replace k:=k.call h9;clear h9 I y C E B tf zt T K M V uf zu J O X Q pf zp;obtain⟨y,C,E,B,tf⟩:=k.tail.head.at4;have zt:=k.tail.head.lt;obtain⟨T,K,M,V,uf⟩:=k.tail.tail.tail.head.at4;have zu:=k.tail.tail.tail.head.lt;go_wp2;have j:=(k.tail.tail.tail.head.at4.other4 h6 (.int .u64 sa) (.int .u64 sb) (.int .u64 sc) (.int .u64 sd)).self4 sa sb sc sd;unfold set4 at j;refine XE (v:=?v) ?hr rfl ?hR
   case hr=>simp[results,Tryz.results177,go_sem,j.c0,j.c1,j.c2,j.c3];rfl
   refine⟨_,rfl,?_,RootR.yes u.out U.out⟩;rw[H0.out];exact aK (aK k.bl Q7.out _ _ _ _) Q2.out _ _ _ _
  ·have hd:decide (R%2=1)=false:=decide_eq_false g;rw[hd];have U:Hid (Four (.agg #[.int .u64 D,.int .u64 A,.int .u64 z,.int .u64 rd]) (even P R)):=by
    have h1:even P R=R:=by unfold even;rw[yET g]
    unfold Hid;rw[h1];exact H.out
   clear hd g;go_wp2;have j:=k.tail.tail.tail.head.at4.self4 D A z rd;unfold set4 at j;refine XE (v:=?v2) ?hr2 rfl ?hR2
   case hr2=>simp[results,Tryz.results177,go_sem,j.c0,j.c1,j.c2,j.c3];rfl
   refine⟨_,rfl,?_,RootR.yes u.out U.out⟩;rw[H0.out];exact aK k.bl Q2.out _ _ _ _
 ·go_region_held3 (λw'=>w'.cell? ⟨i,0,none⟩=some (.int .u64 p)/\w'.cell? ⟨i,1,none⟩=some (.int .u64 n)/\w'.cell? ⟨i,2,none⟩=some (.int .u64 o)/\w'.cell? ⟨i,3,none⟩=some (.int .u64 0)/\w'.cell? ⟨t,0,none⟩=some (.int .u64 D)/\w'.cell? ⟨t,1,none⟩=some (.int .u64 A)/\w'.cell? ⟨t,2,none⟩=some (.int .u64 z)/\w'.cell? ⟨t,3,none⟩=some (.int .u64 rd)/\w'.cell? ⟨q,0,none⟩=some (.int .u64 a)/\w'.cell? ⟨q,1,none⟩=some (.int .u64 b)/\w'.cell? ⟨q,2,none⟩=some (.int .u64 c)/\w'.cell? ⟨q,3,none⟩=some (.int .u64 d)/\Kept w i [⟨i,0,p,n,o,0⟩,⟨t,0,D,A,z,rd⟩,⟨q,0,a,b,c,d⟩,⟨N,0,0,0,0,0⟩] w') (first|(with_reducible exact rG k)|(with_reducible exact rG k.drew)|fail) (first|(go_at_call 51;refine(qA p n o P _ _ _ _ HG.out H.out H.out _).mono ?_;rintro e w5 ⟨v,rfl,f,s⟩;obtain⟨C,B,E,I,rfl,g⟩:=four_ne s HX.out r;have y:=Oc g;clear s;(first|(with_reducible (have l:=k.drew.call f))|(with_reducible (have l:=k.call f))|fail);clear k f;have k:=l;clear l))
  have u:Hid (¬R*R%P=m):=r;clear r
  rename_i hHeld
  clear hHeld;obtain⟨T,K,M,V,uf⟩:=k.tail.tail.tail.head.at4;have zu:=k.tail.tail.tail.head.lt;go_wp2;have j:At4 (set4 w5 N (.int .u64 0) (.int .u64 0) (.int .u64 0) (.int .u64 0)) N 0 0 0 0:=k.tail.tail.tail.head.at4.self4 0 0 0 0;unfold set4 at j;refine XE (v:=?v3) ?hr3 rfl ?hR3
  case hr3=>simp[results,Tryz.results177,go_sem,j.c0,j.c1,j.c2,j.c3];rfl
  refine⟨_,rfl,?_,RootR.no u.out⟩;rw[H0.out];exact aK k.bl Q2.out _ _ _ _
end
section
def wn(n:Nat):List Xu:=[uZ ((n%18446744073709551616:Nat):Int),uZ ((n/18446744073709551616%18446744073709551616:Nat):Int),uZ ((n/340282366920938463463374607431768211456%18446744073709551616:Nat):Int),uZ ((n/6277101735386680763835789423207666416102355444464034512896%18446744073709551616:Nat):Int)]
def nv(n:Nat):Xu:=.agg (wn n).toArray
theorem wR{n:Nat}(h:n<top):Four (nv n) n:=by
 refine⟨n%18446744073709551616,n/18446744073709551616%18446744073709551616,n/340282366920938463463374607431768211456%18446744073709551616,n/6277101735386680763835789423207666416102355444464034512896%18446744073709551616,rfl,?_,?_,?_,?_,?_⟩
 ·omega
 ·omega
 ·omega
 ·omega
 ·unfold val;unfold top at h;omega
theorem Four.nv{v:Xu}{n:Nat}(h:Four v n):v=Go.Proofs.YtlofhpkoaljmeaaGreat.nv n:=h.inj (wR h.lt)
variable {P:Nat}[NeZero P]
abbrev ws(x:Fin P):List Xu:=wn x.val
abbrev fv(x:Fin P):Xu:=nv x.val
def pv(x y:Fin P):Xu:=.agg (ws x++ws y).toArray
def rv(x y z:Fin P):Xu:=.agg (ws x++(ws y++ws z)).toArray
def Gives(f:ZY)(args:Array Xu)(v:Xu):Prop:=∀w,XH prog f args w (rZ w λe w'=>e=v)
structure Fld(P:Nat)[NeZero P]:Prop where
 gap:Gap 4294968273 0 0 P
 cur:Cur P
 p2:2<=P%18446744073709551616
 p4:P/4%18446744073709551616<18446744073709551615
 p3:P%4=3
 p7:7<P
theorem Fld.top(h:Fld P)(x:Fin P):x.val<top:=by have:=h.gap.hP;have:=x.isLt;omega
theorem Fld.four(h:Fld P)(x:Fin P):Four (fv x) x.val:=wR (h.top x)
theorem mD:(X6 #[uZ 0,uZ 0,uZ 0,uZ 0])=fv (0:Fin P):=by
 have h:Four (X6 #[uZ 0,uZ 0,uZ 0,uZ 0]) (0:Fin P).val:=by
  rw[val_zero];exact Four.mk (a:=0) (b:=0) (c:=0) (d:=0) dC dC dC dC rfl
 exact h.nv
theorem Rz(h:Fld P):(X6 #[uZ 1,uZ 0,uZ 0,uZ 0])=fv (1:Fin P):=by
 have h:Four (X6 #[uZ 1,uZ 0,uZ 0,uZ 0]) (1:Fin P).val:=by
  rw[val_one h.cur.pr];exact Four.mk (a:=1) (b:=0) (c:=0) (d:=0) dC dC dC dC rfl
 exact h.nv
theorem bP:Gives 118 #[] gv0:=λw=>(v9 w).mono (by rintro e w' ⟨rfl,rfl⟩;exact⟨_,rfl,aC _ _,rfl⟩)
theorem TR(h:Fld P)(x y:Fin P):Gives 98 #[gv0,fv x,fv y] (fv (x+y)):=λw =>
 (sum_any 4294968273 0 0 P _ _ x.val y.val h.gap (h.four x) (h.four y) x.isLt y.isLt w).mono (by
  rintro e w' ⟨v,rfl,b,k⟩;exact⟨_,rfl,b,k.nv⟩)
omit [NeZero P] in
theorem Bg(x y:Fin P):(x.val+P-y.val)%P=(x-y).val:=by
 rw[Fin.sub_def];show _=(P-y.val+x.val)%P
 congr 1
 have:=y.isLt;omega
theorem BN(h:Fld P)(x y:Fin P):Gives 178 #[gv0,fv x,fv y] (fv (x-y)):=λw =>
 (oJ 4294968273 0 0 P _ _ x.val y.val h.gap (h.four x) (h.four y) x.isLt y.isLt w).mono (by
  rintro e w' ⟨v,rfl,b,k⟩;rw[Bg]at k;exact⟨_,rfl,b,k.nv⟩)
theorem Ic(h:Fld P)(x y:Fin P):Gives 100 #[gv0,fv x,fv y] (fv (x*y)):=λw =>
 (dM 4294968273 0 0 P _ _ x.val y.val h.gap (h.four x) (h.four y) w).mono (by
  rintro e w' ⟨v,rfl,b,k⟩;exact⟨_,rfl,b,k.nv⟩)
theorem Sz(h:Fld P)(x:Fin P):Gives 55 #[fv x] (fv x):=λw=>(jV _ _ (h.four x) w).mono (by rintro e w' ⟨v,rfl,k,rfl⟩;exact⟨_,rfl,k,rfl⟩)
theorem Kl(h:Fld P)(x:Fin P):Gives 99 #[fv x] (fv x):=λw=>(jR _ _ (h.four x) w).mono (by rintro e w' ⟨v,rfl,k,rfl⟩;exact⟨_,rfl,k,rfl⟩)
theorem sO(h:Fld P)(x y:Fin P):Gives 51 #[gv0,fv x,fv y] (fv (x*y)):=λw =>
 (qA 4294968273 0 0 P _ _ x.val y.val h.gap (h.four x) (h.four y) w).mono (by
  rintro e w' ⟨v,rfl,b,k⟩;exact⟨_,rfl,b,k.nv⟩)
theorem Hn(h:Fld P)(x y:Fin P):Gives 50 #[gv0,fv x,fv y] (fv (x+y)):=λw =>
 (Du 4294968273 0 0 P _ _ x.val y.val h.gap (h.four x) (h.four y) x.isLt y.isLt w).mono (by
  rintro e w' ⟨v,rfl,b,k⟩;exact⟨_,rfl,b,k.nv⟩)
theorem MF(h:Fld P)(x y:Fin P):Gives 121 #[gv0,fv x,fv y] (fv (x-y)):=λw =>
 (uM 4294968273 0 0 P _ _ x.val y.val h.gap (h.four x) (h.four y) x.isLt y.isLt w).mono (by
  rintro e w' ⟨v,rfl,b,k⟩;rw[Bg]at k;exact⟨_,rfl,b,k.nv⟩)
theorem Cm(h:Fld P):(X6 #[uZ 7,uZ 0,uZ 0,uZ 0])=fv (7:Fin P):=by
 have h:Four (X6 #[uZ 7,uZ 0,uZ 0,uZ 0]) (7:Fin P).val:=by
  have k:(7:Fin P).val=7%P:=rfl;rw[k,XX h.p7];exact Four.mk (a:=7) (b:=0) (c:=0) (d:=0) dC dC dC dC rfl
 exact h.nv
theorem A4:([uZ 0,uZ 0,uZ 0,uZ 0]:List Xu)=ws (0:Fin P):=by
 have h:=mD (P:=P);unfold nv at h;injection h with h
 exact congrArg Array.toList h
theorem iE:(X6 #[uZ 0,uZ 0,uZ 0,uZ 0,uZ 0,uZ 0,uZ 0,uZ 0])=pv (0:Fin P) 0:=by
 unfold pv;rw[<-A4];rfl
theorem MN:(X6 #[uZ 0,uZ 0,uZ 0,uZ 0,uZ 0,uZ 0,uZ 0,uZ 0,uZ 0,uZ 0,uZ 0,uZ 0])=rv (0:Fin P) 0 0:=by
 unfold rv;rw[<-A4];rfl
theorem I5(h:Fld P)(x:Fin P):Gives 174 #[gv0,fv x] (fv (inv x)):=λw =>
 (vM 4294968273 0 0 P _ x.val h.gap h.p2 (h.four x) w).mono (by
  rintro e w' ⟨v,rfl,b,k⟩;exact⟨_,rfl,b,k.nv⟩)
end
section
variable {P:Nat}[NeZero P]{N:Nat}
omit [NeZero P] in
theorem Gives.e{f:ZY}{args:Array Xu}{x c:Fin P}(h:Gives f args (fv x))(e:c=x):Gives f args (fv c):=e ▸ h
omit [NeZero P] in
theorem Gives.e3{f:ZY}{args:Array Xu}{x y z a b c:Fin P}(h:Gives f args (rv x y z))(e:a=x)(e':b=y)(k:c=z):Gives f args (rv a b c):=e ▸ e' ▸ k ▸ h
theorem eqW(a b c d p q r s:Int)(w:Xs):(binOp .eql 209 (.agg #[uZ a,uZ b,uZ c,uZ d]) (.agg #[uZ p,uZ q,uZ r,uZ s])).run prog w=.ok (.bool (decide (a=p/\b=q/\c=r/\d=s))) w:=by
 go_simp;by_cases g:a=p<;>by_cases k:b=q<;>by_cases e:c=r<;>by_cases f:d=s<;>simp[g,k,e,f]
theorem A7{m n:Nat}(b:m<top)(k:n<top):(m%18446744073709551616=n%18446744073709551616/\m/18446744073709551616%18446744073709551616=n/18446744073709551616%18446744073709551616/\m/340282366920938463463374607431768211456%18446744073709551616=n/340282366920938463463374607431768211456%18446744073709551616/\m/6277101735386680763835789423207666416102355444464034512896%18446744073709551616=n/6277101735386680763835789423207666416102355444464034512896%18446744073709551616)↔m=n:=by
 constructor
 ·rintro⟨f,c,d,e⟩;unfold top at b k;omega
 ·rintro rfl;exact⟨rfl,rfl,rfl,rfl⟩
theorem eqC(h:Fld P)(x y:Fin P)(w:Xs):(binOp .eql 209 (fv x) (fv y)).run prog w=.ok (.bool (decide (x=y))) w:=by
 have k:=eqW ((x.val%18446744073709551616:Nat):Int) ((x.val/18446744073709551616%18446744073709551616:Nat):Int) ((x.val/340282366920938463463374607431768211456%18446744073709551616:Nat):Int) ((x.val/6277101735386680763835789423207666416102355444464034512896%18446744073709551616:Nat):Int) ((y.val%18446744073709551616:Nat):Int) ((y.val/18446744073709551616%18446744073709551616:Nat):Int) ((y.val/340282366920938463463374607431768211456%18446744073709551616:Nat):Int) ((y.val/6277101735386680763835789423207666416102355444464034512896%18446744073709551616:Nat):Int) w;refine k.trans ?_;have b:=A7 (h.top x) (h.top y);simp only[Int.ofNat_inj,b,<-yEE]
theorem GO(h:Fld P){x y:Fin P}(e:x=y)(w:Xs):(binOp .eql 209 (fv x) (fv y)).run prog w=.ok (.bool true) w:=by rw[eqC h,decide_eq_true e]
theorem LH(h:Fld P){x y:Fin P}(e:¬x=y)(w:Xs):(binOp .eql 209 (fv x) (fv y)).run prog w=.ok (.bool false) w:=by rw[eqC h,decide_eq_false e]
theorem UZ(a b c d p q r s n m l o i g f j:Nat)(w:Xs):(binOp .eql 131 (.agg #[uZ a,uZ b,uZ c,uZ d,uZ n,uZ m,uZ l,uZ o]) (.agg #[uZ p,uZ q,uZ r,uZ s,uZ i,uZ g,uZ f,uZ j])).run prog w=.ok (.bool (decide (a=p/\b=q/\c=r/\d=s) && decide (n=i/\m=g/\l=f/\o=j))) w:=by
 go_simp;rw[GN 9997,Yu];by_cases k:a=p/\b=q/\c=r/\d=s
 ·rw[decide_eq_true k];simp only[Bool.true_eq_false,if_false];rw[GN 9997,Yu];by_cases e:n=i/\m=g/\l=f/\o=j
  ·rw[decide_eq_true e];simp[k.1,k.2.1,k.2.2.1,k.2.2.2,e.1,e.2.1,e.2.2.1,e.2.2.2]
  ·rw[decide_eq_false e];simp only[if_true,Yu];have t:(decide (n=i) && (decide (m=g) && (decide (l=f) && decide (o=j))))=false:=by simpa using e
   rw[t,Bool.and_false]
 ·rw[decide_eq_false k];simp only[if_true,Yu];have t:(decide (a=p) && (decide (b=q) && (decide (c=r) && decide (d=s))))=false:=by simpa using k
  rw[t,Bool.false_and]
theorem eqPt(h:Fld P)(x y z t:Fin P)(w:Xs):(binOp .eql 131 (pv x y) (pv z t)).run prog w=.ok (.bool (decide (x=z/\y=t))) w:=by
 refine(UZ (x.val%18446744073709551616) (x.val/18446744073709551616%18446744073709551616) (x.val/340282366920938463463374607431768211456%18446744073709551616) (x.val/6277101735386680763835789423207666416102355444464034512896%18446744073709551616) (z.val%18446744073709551616) (z.val/18446744073709551616%18446744073709551616) (z.val/340282366920938463463374607431768211456%18446744073709551616) (z.val/6277101735386680763835789423207666416102355444464034512896%18446744073709551616) (y.val%18446744073709551616) (y.val/18446744073709551616%18446744073709551616) (y.val/340282366920938463463374607431768211456%18446744073709551616) (y.val/6277101735386680763835789423207666416102355444464034512896%18446744073709551616) (t.val%18446744073709551616) (t.val/18446744073709551616%18446744073709551616) (t.val/340282366920938463463374607431768211456%18446744073709551616) (t.val/6277101735386680763835789423207666416102355444464034512896%18446744073709551616) w).trans ?_;simp only[A7 (h.top x) (h.top z),A7 (h.top y) (h.top t),<-yEE,Bool.decide_and]
theorem LD(h:Fld P){x y z t:Fin P}(e:x=z/\y=t)(w:Xs):(binOp .eql 131 (pv x y) (pv z t)).run prog w=.ok (.bool true) w:=by rw[eqPt h,decide_eq_true e]
theorem EK(h:Fld P){x y z t:Fin P}(e:¬(x=z/\y=t))(w:Xs):(binOp .eql 131 (pv x y) (pv z t)).run prog w=.ok (.bool false) w:=by rw[eqPt h,decide_eq_false e]
theorem aQ:(prog.underlying 209).map (·.isRow)=some true:=kR
theorem aJ:(prog.info? 209).map (·.size)=some 4:=kR
theorem u85:(prog.underlying 42).map (·.isRow)=some true:=kR
theorem i85:(prog.info? 42).map (·.size)=some 4:=kR
theorem iQ:(prog.underlying 211).map (·.isRow)=some true:=kR
theorem i117:(prog.info? 211).map (·.size)=some 12:=kR
theorem iI:(prog.underlying 131).map (·.isRow)=some true:=kR
theorem i109:(prog.info? 131).map (·.size)=some 8:=kR
theorem u79:(prog.underlying 78).map (·.isRow)=some true:=kR
theorem i79:(prog.info? 78).map (·.size)=some 4:=kR
theorem aU(C:Fld P)(x y:Fin P):Gives 168 #[(fv x),(fv y)] (fv (x*y)):=by
 intro w;obtain⟨c1,d⟩:∃c,c=x*y:=⟨_,rfl⟩
 have k:((fv c1):Xu)=(fv (x*y)):=by
  subst_vars;rfl
 rw[<-k];go_enter func168,ntmps168;refine RG.M.enter [(0,.v (fv x)),(1,.v (fv y))] 9 kR ?_;intro a0 e;repeat refine Xy ?_
 refine e.T [.m 0,.m 1,.m 2] [(0,ws x),(1,ws y),(2,RG.z 4)] [] [ws x,ws y,RG.z 4] [2,3,4] ⟨mk 0 209,mk 1 209,mk 2 209,yEU⟩ ?_;intro m i l g n f;repeat refine Xy ?_
 refine f.D [.c gv0,.x (fv x),.x (fv y),.c (fv c1),.u 2] [] [(2,4,ws c1)] [ws x,ws y,ws c1] [4] ⟨cl bP,ld aQ aJ,ld aQ aJ,cl ((Ic C x y).e d),RG.pt aJ,yEU⟩ ?_;intro a2 j b;refine Y5 ?_;refine XE (v:=(fv c1)) (aH b.st 4 209 rfl 2 _ rfl (b.at (s:=(.p 2 0))) aQ aJ) b.sl.defers ?_;exact⟨_,rfl,b.st.bel.below,rfl⟩
theorem Hq(C:Fld P)(x y:Fin P):Gives 170 #[(fv x),(fv y)] (fv (x+y)):=by
 intro w;obtain⟨c1,d⟩:∃c,c=x+y:=⟨_,rfl⟩
 have k:((fv c1):Xu)=(fv (x+y)):=by
  subst_vars;rfl
 rw[<-k];go_enter func170,ntmps170;refine RG.M.enter [(0,.v (fv x)),(1,.v (fv y))] 9 kR ?_;intro a0 e;repeat refine Xy ?_
 refine e.T [.m 0,.m 1,.m 2] [(0,ws x),(1,ws y),(2,RG.z 4)] [] [ws x,ws y,RG.z 4] [2,3,4] ⟨mk 0 209,mk 1 209,mk 2 209,yEU⟩ ?_;intro m i l g n f;repeat refine Xy ?_
 refine f.D [.c gv0,.x (fv x),.x (fv y),.c (fv c1),.u 2] [] [(2,4,ws c1)] [ws x,ws y,ws c1] [4] ⟨cl bP,ld aQ aJ,ld aQ aJ,cl ((TR C x y).e d),RG.pt aJ,yEU⟩ ?_;intro a2 j b;refine Y5 ?_;refine XE (v:=(fv c1)) (aH b.st 4 209 rfl 2 _ rfl (b.at (s:=(.p 2 0))) aQ aJ) b.sl.defers ?_;exact⟨_,rfl,b.st.bel.below,rfl⟩
theorem fH(C:Fld P)(x y:Fin P):Gives 171 #[(fv x),(fv y)] (fv (x-y)):=by
 intro w;obtain⟨c1,d⟩:∃c,c=x-y:=⟨_,rfl⟩
 have k:((fv c1):Xu)=(fv (x-y)):=by
  subst_vars;rfl
 rw[<-k];go_enter func171,ntmps171;refine RG.M.enter [(0,.v (fv x)),(1,.v (fv y))] 9 kR ?_;intro a0 e;repeat refine Xy ?_
 refine e.T [.m 0,.m 1,.m 2] [(0,ws x),(1,ws y),(2,RG.z 4)] [] [ws x,ws y,RG.z 4] [2,3,4] ⟨mk 0 209,mk 1 209,mk 2 209,yEU⟩ ?_;intro m i l g n f;repeat refine Xy ?_
 refine f.D [.c gv0,.x (fv x),.x (fv y),.c (fv c1),.u 2] [] [(2,4,ws c1)] [ws x,ws y,ws c1] [4] ⟨cl bP,ld aQ aJ,ld aQ aJ,cl ((BN C x y).e d),RG.pt aJ,yEU⟩ ?_;intro a2 j b;refine Y5 ?_;refine XE (v:=(fv c1)) (aH b.st 4 209 rfl 2 _ rfl (b.at (s:=(.p 2 0))) aQ aJ) b.sl.defers ?_;exact⟨_,rfl,b.st.bel.below,rfl⟩
theorem wW(C:Fld P)(x:Fin P):Gives 176 #[(fv x)] (fv x):=by
 intro w;go_enter func176,ntmps176;refine RG.M.enter [(0,.v (fv x))] 5 kR ?_;intro a0 b;repeat refine Xy ?_
 refine b.T [.m 0,.m 1] [(0,ws x),(1,RG.z 4)] [] [ws x,RG.z 4] [1,2] ⟨mk 0 42,mk 1 209,yEU⟩ ?_;intro d i f g c;repeat refine Xy ?_
 refine c.T [.x (fv x),.c (fv x),.u 1] [] [(1,2,ws x)] [ws x,ws x] [2] ⟨ld u85 i85,cl (Sz C x),RG.pt aJ,yEU⟩ ?_;intro a2 e k;refine Y5 ?_;refine XE (v:=(fv x)) (aH k.st 2 209 rfl 1 _ rfl (k.at (s:=(.p 1 0))) aQ aJ) k.sl.defers ?_;exact⟨_,rfl,k.st.bel.below,rfl⟩
theorem Ft(C:Fld P)(x:Fin P):Gives 175 #[(fv x)] (fv x):=by
 intro w;go_enter func175,ntmps175;refine RG.M.enter [(0,.v (fv x))] 5 kR ?_;intro a0 b;repeat refine Xy ?_
 refine b.T [.m 0,.m 1] [(0,ws x),(1,RG.z 4)] [] [ws x,RG.z 4] [1,2] ⟨mk 0 209,mk 1 42,yEU⟩ ?_;intro d i f g c;repeat refine Xy ?_
 refine c.T [.x (fv x),.c (fv x),.u 1] [] [(1,2,ws x)] [ws x,ws x] [2] ⟨ld aQ aJ,cl (Kl C x),RG.pt i85,yEU⟩ ?_;intro a2 e k;refine Y5 ?_;refine XE (v:=(fv x)) (aH k.st 2 42 rfl 1 _ rfl (k.at (s:=(.p 1 0))) u85 i85) k.sl.defers ?_;exact⟨_,rfl,k.st.bel.below,rfl⟩
theorem gI(C:Fld P)(x:Fin P):Gives 169 #[(fv x)] (fv (dbl x)):=by
 intro w;obtain⟨c1,d⟩:∃c,c=x+x:=⟨_,rfl⟩
 have k:((fv c1):Xu)=(fv (dbl x)):=by
  subst_vars;rfl
 rw[<-k];go_enter func169,ntmps169;refine RG.M.enter [(0,.v (fv x))] 6 kR ?_;intro a0 e;repeat refine Xy ?_
 refine e.T [.m 0,.m 1] [(0,ws x),(1,RG.z 4)] [] [ws x,RG.z 4] [1,2] ⟨mk 0 209,mk 1 209,yEU⟩ ?_;intro g m j l f;repeat refine Xy ?_
 refine f.T [.x (fv x),.x (fv x),.c (fv c1),.u 1] [] [(1,3,ws c1)] [ws x,ws c1] [2] ⟨ld aQ aJ,ld aQ aJ,cl ((Hq C x x).e d),RG.pt aJ,yEU⟩ ?_;intro a2 i b;refine Y5 ?_;refine XE (v:=(fv c1)) (aH b.st 2 209 rfl 1 _ rfl (b.at (s:=(.p 1 0))) aQ aJ) b.sl.defers ?_;exact⟨_,rfl,b.st.bel.below,rfl⟩
theorem FC(C:Fld P)(x y z:Fin P):Gives 113 #[(rv x y z)] (rv (twX x y) (twY x y) (twZ y z)):=by
 intro w;obtain⟨c1,O⟩:∃c,c=x*x:=⟨_,rfl⟩
 obtain⟨c2,H⟩:∃c,c=y*y:=⟨_,rfl⟩
 obtain⟨V,T⟩:∃c,c=x*c2:=⟨_,rfl⟩
 obtain⟨I,M⟩:∃c,c=dbl V:=⟨_,rfl⟩
 obtain⟨e,U⟩:∃c,c=dbl I:=⟨_,rfl⟩
 obtain⟨N,R⟩:∃c,c=dbl c1:=⟨_,rfl⟩
 obtain⟨d,K⟩:∃c,c=N+c1:=⟨_,rfl⟩
 obtain⟨J,Q⟩:∃c,c=d*d:=⟨_,rfl⟩
 obtain⟨L,S⟩:∃c,c=dbl e:=⟨_,rfl⟩
 obtain⟨k,q⟩:∃c,c=J-L:=⟨_,rfl⟩
 obtain⟨i,A⟩:∃c,c=e-k:=⟨_,rfl⟩
 obtain⟨o,r⟩:∃c,c=d*i:=⟨_,rfl⟩
 obtain⟨m,a⟩:∃c,c=c2*c2:=⟨_,rfl⟩
 obtain⟨j,p⟩:∃c,c=dbl m:=⟨_,rfl⟩
 obtain⟨l,E⟩:∃c,c=dbl j:=⟨_,rfl⟩
 obtain⟨n,B⟩:∃c,c=dbl l:=⟨_,rfl⟩
 obtain⟨b,D⟩:∃c,c=o-n:=⟨_,rfl⟩
 obtain⟨g,F⟩:∃c,c=y*z:=⟨_,rfl⟩
 obtain⟨f,t⟩:∃c,c=dbl g:=⟨_,rfl⟩
 have u:((rv k b f):Xu)=(rv (twX x y) (twY x y) (twZ y z)):=by
  subst_vars;rfl
 rw[<-u];go_enter func113,ntmps113;refine RG.M.enter [(0,.v (rv x y z))] 56 kR ?_;intro a0 Y;repeat refine Xy ?_
 refine Y.T [.m 0,.m 1] [(0,ws x++(ws y++(ws z))),(1,RG.z 12)] [] [ws x++(ws y++(ws z)),RG.z 12] [1,2] ⟨mk 0 211,mk 1 211,yEU⟩ ?_;intro j1 i1 a1 w1 M1;repeat refine Xy ?_
 refine M1.D [.s (.p 0 0),.x (fv x),.s (.p 0 0),.x (fv x),.c (fv c1),.s (.p 0 4),.x (fv y),.s (.p 0 4),.x (fv y),.c (fv c2),.m 2,.m 3,.u 2,.u 3] [(10,RG.z 4),(11,RG.z 4)] [(2,12,ws c1),(3,13,ws c2)] [ws x++(ws y++(ws z)),RG.z 12,ws c1,ws c2] [1,2,3,4] ⟨st,ld aQ aJ,st,ld aQ aJ,cl ((aU C x x).e O),st,ld aQ aJ,st,ld aQ aJ,cl ((aU C y y).e H),mk 2 209,mk 3 209,RG.pt aJ,RG.pt aJ,yEU⟩ ?_;intro j2 i2 a2 w2 W;repeat refine Xy ?_
 refine W.T [.s (.p 0 0),.x (fv x),.x (fv c2),.c (fv V),.c (fv I),.c (fv e),.m 4,.u 4] [(6,RG.z 4)] [(4,7,ws e)] [ws x++(ws y++(ws z)),RG.z 12,ws c1,ws c2,ws e] [1,2,3,4,5] ⟨st,ld aQ aJ,ld aQ aJ,cl ((aU C x c2).e T),cl ((gI C V).e M),cl ((gI C I).e U),mk 4 209,RG.pt aJ,yEU⟩ ?_;intro j3 a3 w3 X;repeat refine Xy ?_
 refine X.D [.x (fv c1),.c (fv N),.x (fv c1),.c (fv d),.m 5,.u 5] [(4,RG.z 4)] [(5,5,ws d)] [ws x++(ws y++(ws z)),RG.z 12,ws c1,ws c2,ws e,ws d] [1,2,4,5,6] ⟨ld aQ aJ,cl ((gI C c1).e R),ld aQ aJ,cl ((Hq C N c1).e K),mk 5 209,RG.pt aJ,yEU⟩ ?_;intro j4 a4 w4 M4;repeat refine Xy ?_
 refine M4.D [.x (fv d),.x (fv d),.c (fv J),.x (fv e),.c (fv L),.c (fv k),.m 6,.u 6] [(6,RG.z 4)] [(6,7,ws k)] [ws x++(ws y++(ws z)),RG.z 12,ws c1,ws c2,ws e,ws d,ws k] [1,2,4,5,6,7] ⟨ld aQ aJ,ld aQ aJ,cl ((aU C d d).e Q),ld aQ aJ,cl ((gI C e).e S),cl ((fH C J L).e q),mk 6 209,RG.pt aJ,yEU⟩ ?_;intro j5 a5 w5 Z;repeat refine Xy ?_
 refine Z.D [.x (fv d),.x (fv e),.x (fv k),.c (fv i),.c (fv o),.x (fv c2),.x (fv c2),.c (fv m),.c (fv j),.c (fv l),.c (fv n),.c (fv b),.m 7,.u 7] [(12,RG.z 4)] [(7,13,ws b)] [ws x++(ws y++(ws z)),RG.z 12,ws c1,ws c2,ws e,ws d,ws k,ws b] [1,2,7,8] ⟨ld aQ aJ,ld aQ aJ,ld aQ aJ,cl ((fH C e k).e A),cl ((aU C d i).e r),ld aQ aJ,ld aQ aJ,cl ((aU C c2 c2).e a),cl ((gI C m).e p),cl ((gI C j).e E),cl ((gI C l).e B),cl ((fH C o n).e D),mk 7 209,RG.pt aJ,yEU⟩ ?_;intro j6 a6 w6 M6;repeat refine Xy ?_
 refine M6.D [.x (fv k),.x (fv b),.s (.p 0 4),.x (fv y),.s (.p 0 8),.x (fv z),.c (fv g),.c (fv f),.x (rv k b f),.u 1] [] [(1,9,ws k++(ws b++(ws f)))] [ws x++(ws y++(ws z)),ws k++(ws b++(ws f)),ws c1,ws c2,ws e,ws d,ws k,ws b] [2] ⟨ld aQ aJ,ld aQ aJ,st,ld aQ aJ,st,ld aQ aJ,cl ((aU C y z).e F),cl ((gI C g).e t),st,RG.pt i117,yEU⟩ ?_;intro a7 w7 G;refine Y5 ?_;refine XE (v:=(rv k b f)) (aH G.st 2 211 rfl 1 _ rfl (G.at (s:=(.p 1 0))) iQ i117) G.sl.defers ?_;exact⟨_,rfl,G.st.bel.below,rfl⟩
theorem Ek(C:Fld P)(x y z:Fin P):Gives 173 #[(rv x y z)] (rv x (0-y) z):=by
 intro w;obtain⟨c1,d⟩:∃c,c=(0:Fin P)-y:=⟨_,rfl⟩
 have k:((rv x c1 z):Xu)=(rv x (0-y) z):=by
  subst_vars;rfl
 rw[<-k];go_enter func173,ntmps173;refine RG.M.enter [(0,.v (rv x y z))] 12 kR ?_;intro a0 e;repeat refine Xy ?_
 refine e.T [.m 0,.m 1] [(0,ws x++(ws y++(ws z))),(1,RG.z 12)] [] [ws x++(ws y++(ws z)),RG.z 12] [1,2] ⟨mk 0 211,mk 1 211,yEU⟩ ?_;intro l i g m f;repeat refine Xy ?_
 refine f.D [.s (.p 0 0),.x (fv x),.x (fv (0:Fin P)),.s (.p 0 4),.x (fv y),.c (fv c1),.s (.p 0 8),.x (fv z),.x (rv x c1 z),.u 1] [] [(1,9,ws x++(ws c1++(ws z)))] [ws x++(ws y++(ws z)),ws x++(ws c1++(ws z))] [2] ⟨st,ld aQ aJ,se (mD (P:=P)),st,ld aQ aJ,cl ((fH C (0:Fin P) y).e d),st,ld aQ aJ,st,RG.pt i117,yEU⟩ ?_;intro a2 j b;refine Y5 ?_;refine XE (v:=(rv x c1 z)) (aH b.st 2 211 rfl 1 _ rfl (b.at (s:=(.p 1 0))) iQ i117) b.sl.defers ?_;exact⟨_,rfl,b.st.bel.below,rfl⟩
theorem N4(C:Fld P)(x y z:Fin P):Gives 116 #[(rv x y z)] (pv (x*(inv z*inv z)) (y*(inv z*inv z)*inv z)):=by
 intro w;obtain⟨c1,j⟩:∃c,c=inv z:=⟨_,rfl⟩
 obtain⟨c2,f⟩:∃c,c=c1*c1:=⟨_,rfl⟩
 obtain⟨b,l⟩:∃c,c=x*c2:=⟨_,rfl⟩
 obtain⟨g,i⟩:∃c,c=y*c2:=⟨_,rfl⟩
 obtain⟨k,m⟩:∃c,c=g*c1:=⟨_,rfl⟩
 have d:((pv b k):Xu)=(pv (x*(inv z*inv z)) (y*(inv z*inv z)*inv z)):=by
  subst_vars;rfl
 rw[<-d];go_enter func116,ntmps116;refine RG.M.enter [(0,.v (rv x y z))] 27 kR ?_;intro a0 p;repeat refine Xy ?_
 refine p.T [.m 0,.m 1] [(0,ws x++(ws y++(ws z))),(1,RG.z 8)] [] [ws x++(ws y++(ws z)),RG.z 8] [1,2] ⟨mk 0 211,mk 1 131,yEU⟩ ?_;intro A t r E q;repeat refine Xy ?_
 refine q.D [.c gv0,.s (.p 0 8),.x (fv z),.c (fv z),.c (fv c1),.c (fv c1),.m 2,.u 2] [(6,RG.z 4)] [(2,7,ws c1)] [ws x++(ws y++(ws z)),RG.z 8,ws c1] [1,2,3] ⟨cl bP,st,ld aQ aJ,cl (Ft C z),cl ((I5 C z).e j),cl (wW C c1),mk 2 209,RG.pt aJ,yEU⟩ ?_;intro G a2 u n;repeat refine Xy ?_
 refine n.T [.x (fv c1),.x (fv c1),.c (fv c2),.m 3,.u 3] [(3,RG.z 4)] [(3,4,ws c2)] [ws x++(ws y++(ws z)),RG.z 8,ws c1,ws c2] [1,2,3,4] ⟨ld aQ aJ,ld aQ aJ,cl ((aU C c1 c1).e f),mk 3 209,RG.pt aJ,yEU⟩ ?_;intro a D B o;repeat refine Xy ?_
 refine o.D [.s (.p 0 0),.x (fv x),.x (fv c2),.c (fv b),.c (fv b),.s (.p 0 4),.x (fv y),.x (fv c2),.c (fv g),.x (fv c1),.c (fv k),.c (fv k),.x (pv b k),.u 1] [] [(1,13,ws b++(ws k))] [ws x++(ws y++(ws z)),ws b++(ws k),ws c1,ws c2] [2] ⟨st,ld aQ aJ,ld aQ aJ,cl ((aU C x c2).e l),cl (Ft C b),st,ld aQ aJ,ld aQ aJ,cl ((aU C y c2).e i),ld aQ aJ,cl ((aU C g c1).e m),cl (Ft C k),st,RG.pt i109,yEU⟩ ?_;intro F H e;refine Y5 ?_;refine XE (v:=(pv b k)) (aH e.st 2 131 rfl 1 _ rfl (e.at (s:=(.p 1 0))) iI i109) e.sl.defers ?_;exact⟨_,rfl,e.st.bel.below,rfl⟩
theorem uV(C:Fld P)(x y z:Fin P)(b:z=0):Gives 172 #[(rv x y z)] (.bool true):=by
 intro w;go_enter func172,ntmps172;refine RG.M.enter [(0,.v (rv x y z))] 7 kR ?_;intro a0 c;repeat refine Xy ?_
 refine c.T [.m 0,.x (.bool false)] [(0,ws x++(ws y++(ws z)))] [] [ws x++(ws y++(ws z))] [1,2] ⟨mk 0 211,st,yEU⟩ ?_;intro e g i d;repeat refine Xy ?_
 refine d.U [.s (.p 0 8),.x (fv z),.x (fv (0:Fin P)),.x (.bool true),.x (.bool true)] [2] ⟨st,ld aQ aJ,se (mD (P:=P)),aO rfl .eql 209 209 4 5 (fv z) (fv (0:Fin P)) (.bool true) rfl rfl sx sx (λw=>kR) (GO C b),st,yEU⟩ ?_;intro a2 f k;refine Y5 ?_;refine XE (v:=(.bool true)) (jH 2 rfl _ (k.at (s:=(.v (.bool true))))) k.sl.defers ?_;exact⟨_,rfl,k.st.bel.below,rfl⟩
theorem uW(C:Fld P)(x y z:Fin P)(b:¬z=0):Gives 172 #[(rv x y z)] (.bool false):=by
 intro w;go_enter func172,ntmps172;refine RG.M.enter [(0,.v (rv x y z))] 7 kR ?_;intro a0 c;repeat refine Xy ?_
 refine c.T [.m 0,.x (.bool false)] [(0,ws x++(ws y++(ws z)))] [] [ws x++(ws y++(ws z))] [1,2] ⟨mk 0 211,st,yEU⟩ ?_;intro e g i d;repeat refine Xy ?_
 refine d.U [.s (.p 0 8),.x (fv z),.x (fv (0:Fin P)),.x (.bool false),.x (.bool false)] [2] ⟨st,ld aQ aJ,se (mD (P:=P)),aO rfl .eql 209 209 4 5 (fv z) (fv (0:Fin P)) (.bool false) rfl rfl sx sx (λw=>kR) (LH C b),st,yEU⟩ ?_;intro a2 f k;refine Y5 ?_;refine XE (v:=(.bool false)) (jH 2 rfl _ (k.at (s:=(.v (.bool false))))) k.sl.defers ?_;exact⟨_,rfl,k.st.bel.below,rfl⟩
theorem H9(C:Fld P)(x y:Fin P)(e:x=0/\y=0):Gives 167 #[(pv x y)] (rv (0:Fin P) 0 0):=by
 intro w;have k:((rv (0:Fin P) (0:Fin P) (0:Fin P)):Xu)=(rv (0:Fin P) 0 0):=by
  subst_vars;rfl
 rw[<-k];go_enter func167,ntmps167;refine RG.M.enter [(0,.v (pv x y))] 16 kR ?_;intro a0 d;repeat refine Xy ?_
 refine d.T [.m 0,.m 1] [(0,ws x++(ws y)),(1,RG.z 12)] [] [ws x++(ws y),RG.z 12] [1,2] ⟨mk 0 131,mk 1 211,yEU⟩ ?_;intro l i g o f;repeat refine Xy ?_
 refine f.U [.x (pv x y),.x (pv (0:Fin P) (0:Fin P)),.x (.bool true)] [2,5] ⟨ld iI i109,se (iE (P:=P)),aO rfl .eql 131 131 3 4 (pv x y) (pv (0:Fin P) (0:Fin P)) (.bool true) rfl rfl sx sx (λw=>kR) (LD C e),yEU⟩ ?_;intro a2 j c;repeat refine Xy ?_
 refine Yx c.ev ?_;repeat refine Xy ?_
 refine c.T [.x (rv (0:Fin P) (0:Fin P) (0:Fin P)),.u 1] [] [(1,1,ws (0:Fin P)++(ws (0:Fin P)++(ws (0:Fin P))))] [ws x++(ws y),ws (0:Fin P)++(ws (0:Fin P)++(ws (0:Fin P)))] [2] ⟨se (MN (P:=P)),RG.pt i117,yEU⟩ ?_;intro n m b;refine Y5 ?_;refine XE (v:=(rv (0:Fin P) (0:Fin P) (0:Fin P))) (aH b.st 2 211 rfl 1 _ rfl (b.at (s:=(.p 1 0))) iQ i117) b.sl.defers ?_;exact⟨_,rfl,b.st.bel.below,rfl⟩
theorem Ia(C:Fld P)(x y:Fin P)(e:¬(x=0/\y=0)):Gives 167 #[(pv x y)] (rv x y 1):=by
 intro w;have k:((rv x y (1:Fin P)):Xu)=(rv x y 1):=by
  subst_vars;rfl
 rw[<-k];go_enter func167,ntmps167;refine RG.M.enter [(0,.v (pv x y))] 16 kR ?_;intro a0 d;repeat refine Xy ?_
 refine d.T [.m 0,.m 1] [(0,ws x++(ws y)),(1,RG.z 12)] [] [ws x++(ws y),RG.z 12] [1,2] ⟨mk 0 131,mk 1 211,yEU⟩ ?_;intro l i g o f;repeat refine Xy ?_
 refine f.U [.x (pv x y),.x (pv (0:Fin P) (0:Fin P)),.x (.bool false)] [1,2,5] ⟨ld iI i109,se (iE (P:=P)),aO rfl .eql 131 131 3 4 (pv x y) (pv (0:Fin P) (0:Fin P)) (.bool false) rfl rfl sx sx (λw=>kR) (EK C e),yEU⟩ ?_;intro a2 j c;repeat refine Xy ?_
 refine X7 c.ev ?_;refine YR ?_;repeat refine Xy ?_
 refine c.D [.s (.p 0 0),.x (fv x),.c (fv x),.s (.p 0 4),.x (fv y),.c (fv y),.x (fv (1:Fin P)),.c (fv (1:Fin P)),.x (rv x y (1:Fin P)),.u 1] [] [(1,9,ws x++(ws y++(ws (1:Fin P))))] [ws x++(ws y),ws x++(ws y++(ws (1:Fin P)))] [2] ⟨st,ld u85 i85,cl (wW C x),st,ld u85 i85,cl (wW C y),se (Rz C),cl (wW C (1:Fin P)),st,RG.pt i117,yEU⟩ ?_;intro n m b;refine Y5 ?_;refine XE (v:=(rv x y (1:Fin P))) (aH b.st 2 211 rfl 1 _ rfl (b.at (s:=(.p 1 0))) iQ i117) b.sl.defers ?_;exact⟨_,rfl,b.st.bel.below,rfl⟩
theorem Ih(C:Fld P)(f e k i j b:Fin P)(R:Xu)(ha:k=0->R=rv i j b)(hb:¬k=0->b=0->R=rv f e k)(hc:¬k=0->¬b=0->cO f b=cO i k/\eO e b=eO j k->R=rv (twX f e) (twY f e) (twZ e k))(hd:¬k=0->¬b=0->¬(cO f b=cO i k/\eO e b=eO j k)->R=rv (plX (cO f b) (eO e b) (cO i k) (eO j k)) (plY (cO f b) (eO e b) (cO i k) (eO j k)) (plZ k b (cO f b) (cO i k))):Gives 114 #[(rv f e k),(rv i j b)] R:=by
 intro w;obtain⟨c1,hk⟩:∃c,c=k*k:=⟨_,rfl⟩
 obtain⟨c2,h9⟩:∃c,c=b*b:=⟨_,rfl⟩
 obtain⟨p,h8⟩:∃c,c=f*c2:=⟨_,rfl⟩
 obtain⟨t,h5⟩:∃c,c=i*c1:=⟨_,rfl⟩
 obtain⟨c5,hg⟩:∃c,c=e*c2:=⟨_,rfl⟩
 obtain⟨r,hl⟩:∃c,c=c5*b:=⟨_,rfl⟩
 obtain⟨c7,he⟩:∃c,c=j*c1:=⟨_,rfl⟩
 obtain⟨u,h6⟩:∃c,c=c7*k:=⟨_,rfl⟩
 go_enter func114,ntmps114;refine RG.M.enter [(0,.v (rv f e k)),(1,.v (rv i j b))] 108 kR ?_;intro a0 M0;repeat refine Xy ?_
 refine M0.T [.m 0,.m 1,.m 2] [(0,ws f++(ws e++(ws k))),(1,ws i++(ws j++(ws b))),(2,RG.z 12)] [] [ws f++(ws e++(ws k)),ws i++(ws j++(ws b)),RG.z 12] [2,3,4] ⟨mk 0 211,mk 1 211,mk 2 211,yEU⟩ ?_;intro j1 i1 m1 a1 w1 M1;repeat refine Xy ?_
 by_cases y:k=0
 ·obtain rfl:=ha y;refine M1.U [.x (rv f e k),.c (.bool true)] [3,4,19] ⟨ld iQ i117,cl (uV C f e k y),yEU⟩ ?_;intro a2 w2 N;repeat refine Xy ?_
  refine Yx N.ev ?_;repeat refine Xy ?_
  refine N.T [.x (rv i j b),.u 2] [] [(2,1,ws i++(ws j++(ws b)))] [ws f++(ws e++(ws k)),ws i++(ws j++(ws b)),ws i++(ws j++(ws b))] [4] ⟨ld iQ i117,RG.pt i117,yEU⟩ ?_;intro a3 w3 B;refine Y5 ?_;refine XE (v:=(rv i j b)) (aH B.st 4 211 rfl 2 _ rfl (B.at (s:=(.p 2 0))) iQ i117) B.sl.defers ?_;exact⟨_,rfl,B.st.bel.below,rfl⟩
 refine M1.U [.x (rv f e k),.c (.bool false)] [2,3,4,19] ⟨ld iQ i117,cl (uW C f e k y),yEU⟩ ?_;intro a2 w2 N;repeat refine Xy ?_
 refine X7 N.ev ?_;refine YR ?_;repeat refine Xy ?_
 by_cases A:b=0
 ·obtain rfl:=hb y A;refine N.U [.x (rv i j b),.c (.bool true)] [2,4,22] ⟨ld iQ i117,cl (uV C i j b A),yEU⟩ ?_;intro a3 w3 B;repeat refine Xy ?_
  refine Yx B.ev ?_;repeat refine Xy ?_
  refine B.T [.x (rv f e k),.u 2] [] [(2,1,ws f++(ws e++(ws k)))] [ws f++(ws e++(ws k)),ws i++(ws j++(ws b)),ws f++(ws e++(ws k))] [4] ⟨ld iQ i117,RG.pt i117,yEU⟩ ?_;intro a4 w4 O;refine Y5 ?_;refine XE (v:=(rv f e k)) (aH O.st 4 211 rfl 2 _ rfl (O.at (s:=(.p 2 0))) iQ i117) O.sl.defers ?_;exact⟨_,rfl,O.st.bel.below,rfl⟩
 refine N.U [.x (rv i j b),.c (.bool false)] [2,3,4,22] ⟨ld iQ i117,cl (uW C i j b A),yEU⟩ ?_;intro a3 w3 B;repeat refine Xy ?_
 refine X7 B.ev ?_;refine YR ?_;repeat refine Xy ?_
 refine B.D [.s (.p 0 8),.x (fv k),.s (.p 0 8),.x (fv k),.c (fv c1),.s (.p 1 8),.x (fv b),.s (.p 1 8),.x (fv b),.c (fv c2),.m 3,.m 4,.u 3,.u 4] [(10,RG.z 4),(11,RG.z 4)] [(3,12,ws c1),(4,13,ws c2)] [ws f++(ws e++(ws k)),ws i++(ws j++(ws b)),RG.z 12,ws c1,ws c2] [2,3,4,5,6] ⟨st,ld aQ aJ,st,ld aQ aJ,cl ((aU C k k).e hk),st,ld aQ aJ,st,ld aQ aJ,cl ((aU C b b).e h9),mk 3 209,mk 4 209,RG.pt aJ,RG.pt aJ,yEU⟩ ?_;intro j4 i4 a4 w4 O;repeat refine Xy ?_
 refine O.D [.s (.p 0 0),.x (fv f),.x (fv c2),.c (fv p),.s (.p 1 0),.x (fv i),.x (fv c1),.c (fv t),.m 5,.m 6,.u 5,.u 6] [(8,RG.z 4),(9,RG.z 4)] [(5,10,ws p),(6,11,ws t)] [ws f++(ws e++(ws k)),ws i++(ws j++(ws b)),RG.z 12,ws c1,ws c2,ws p,ws t] [2,3,4,5,6,7,8] ⟨st,ld aQ aJ,ld aQ aJ,cl ((aU C f c2).e h8),st,ld aQ aJ,ld aQ aJ,cl ((aU C i c1).e h5),mk 5 209,mk 6 209,RG.pt aJ,RG.pt aJ,yEU⟩ ?_;intro j5 i5 a5 w5 M5;repeat refine Xy ?_
 refine M5.D [.s (.p 0 4),.x (fv e),.x (fv c2),.c (fv c5),.s (.p 1 8),.x (fv b),.c (fv r),.s (.p 1 4),.x (fv j),.x (fv c1),.c (fv c7),.s (.p 0 8),.x (fv k),.c (fv u),.m 7,.m 8,.u 7,.u 8] [(14,RG.z 4),(15,RG.z 4)] [(7,16,ws r),(8,17,ws u)] [ws f++(ws e++(ws k)),ws i++(ws j++(ws b)),RG.z 12,ws c1,ws c2,ws p,ws t,ws r,ws u] [2,3,4,7,8,9,10] ⟨st,ld aQ aJ,ld aQ aJ,cl ((aU C e c2).e hg),st,ld aQ aJ,cl ((aU C c5 b).e hl),st,ld aQ aJ,ld aQ aJ,cl ((aU C j c1).e he),st,ld aQ aJ,cl ((aU C c7 k).e h6),mk 7 209,mk 8 209,RG.pt aJ,RG.pt aJ,yEU⟩ ?_;intro j6 i6 a6 w6 M6;repeat refine Xy ?_
 by_cases D:cO f b=cO i k/\eO e b=eO j k
 ·have hR:=hc y A D;obtain⟨hx,E⟩:=D;obtain⟨m,H⟩:∃c,c=twX f e:=⟨_,rfl⟩
  obtain⟨d,z⟩:∃c,c=twY f e:=⟨_,rfl⟩
  obtain⟨g,a⟩:∃c,c=twZ e k:=⟨_,rfl⟩
  obtain rfl:R=rv m d g:=hR.trans (by subst_vars;rfl);refine M6.U [.x (fv p),.x (fv t),.x (.bool true),.x (.bool true),.x (fv r),.x (fv u),.x (.bool true),.x (.bool true)] [2,4,63] ⟨ld aQ aJ,ld aQ aJ,aO rfl .eql 209 209 56 57 (fv p) (fv t) (.bool true) rfl rfl sx sx (λw=>kR) (GO C (by subst_vars;exact hx)),st,ld aQ aJ,ld aQ aJ,aO rfl .eql 209 209 60 61 (fv r) (fv u) (.bool true) rfl rfl sx sx (λw=>kR) (GO C (by subst_vars;exact E)),st,yEU⟩ ?_;intro a7 w7 Y;repeat refine Xy ?_
  refine Yx Y.ev ?_;repeat refine Xy ?_
  refine Y.T [.x (rv f e k),.c (rv m d g),.u 2] [] [(2,2,ws m++(ws d++(ws g)))] [ws f++(ws e++(ws k)),ws i++(ws j++(ws b)),ws m++(ws d++(ws g)),ws c1,ws c2,ws p,ws t,ws r,ws u] [4] ⟨ld iQ i117,cl ((FC C f e k).e3 H z a),RG.pt i117,yEU⟩ ?_;intro a8 w8 Q;refine Y5 ?_;refine XE (v:=(rv m d g)) (aH Q.st 4 211 rfl 2 _ rfl (Q.at (s:=(.p 2 0))) iQ i117) Q.sl.defers ?_;exact⟨_,rfl,Q.st.bel.below,rfl⟩
 have hR:=hd y A D;obtain⟨m,H⟩:∃c,c=t-p:=⟨_,rfl⟩
 obtain⟨d,z⟩:∃c,c=u-r:=⟨_,rfl⟩
 obtain⟨g,a⟩:∃c,c=m*m:=⟨_,rfl⟩
 obtain⟨o,h3⟩:∃c,c=g*m:=⟨_,rfl⟩
 obtain⟨n,h0⟩:∃c,c=g*p:=⟨_,rfl⟩
 obtain⟨L,V⟩:∃c,c=d*d:=⟨_,rfl⟩
 obtain⟨F,h2⟩:∃c,c=L-o:=⟨_,rfl⟩
 obtain⟨M,h1⟩:∃c,c=dbl n:=⟨_,rfl⟩
 obtain⟨l,W⟩:∃c,c=F-M:=⟨_,rfl⟩
 obtain⟨J,T⟩:∃c,c=n-l:=⟨_,rfl⟩
 obtain⟨G,Z⟩:∃c,c=d*J:=⟨_,rfl⟩
 obtain⟨I,X⟩:∃c,c=o*r:=⟨_,rfl⟩
 obtain⟨q,S⟩:∃c,c=G-I:=⟨_,rfl⟩
 obtain⟨K,h4⟩:∃c,c=k*b:=⟨_,rfl⟩
 obtain⟨x,U⟩:∃c,c=K*m:=⟨_,rfl⟩
 obtain rfl:R=rv l q x:=hR.trans (by subst_vars;rfl);by_cases hx:cO f b=cO i k
 case' pos =>
  have E:¬eO e b=eO j k:=λh=>D ⟨hx,h⟩
  refine M6.U [.x (fv p),.x (fv t),.x (.bool true),.x (.bool true),.x (fv r),.x (fv u),.x (.bool false),.x (.bool false)] [2,3,4,7,8,9,10,63] ⟨ld aQ aJ,ld aQ aJ,aO rfl .eql 209 209 56 57 (fv p) (fv t) (.bool true) rfl rfl sx sx (λw=>kR) (GO C (by subst_vars;exact hx)),st,ld aQ aJ,ld aQ aJ,aO rfl .eql 209 209 60 61 (fv r) (fv u) (.bool false) rfl rfl sx sx (λw=>kR) (LH C (by subst_vars;exact E)),st,yEU⟩ ?_
 case' neg =>
  refine M6.u [.x 56 [] (fv p),.x 57 [] (fv t),.x 58 [(56,0),(57,1)] (.bool false),.x 59 [(58,2)] (.bool false),⟨some 60,[],.v Zp,.pass⟩,⟨some 61,[],.v Zp,.pass⟩,⟨some 62,[],.v Zp,.pass⟩,.x 63 [(59,3),(62,6)] (.bool false)] [(2,.p 0 0),(3,.p 1 0),(4,.p 2 0),(7,.p 5 0),(8,.p 6 0),(9,.p 7 0),(10,.p 8 0),(63,.v (.bool false))] ⟨ld aQ aJ,ld aQ aJ,aO rfl .eql 209 209 56 57 (fv p) (fv t) (.bool false) rfl rfl sx sx (λw=>kR) (LH C (by subst_vars;exact hx)),st,dB rfl rfl,dB rfl rfl,dB rfl rfl,st,yEU⟩ ?_
 all_goals
  intro a7 w7 Y;repeat refine Xy ?_
  refine X7 Y.ev ?_;refine YR ?_;repeat refine Xy ?_
  refine Y.D [.x (fv t),.x (fv p),.c (fv m),.x (fv u),.x (fv r),.c (fv d),.m 9,.m 10,.u 9,.u 10] [(6,RG.z 4),(7,RG.z 4)] [(9,8,ws m),(10,9,ws d)] [ws f++(ws e++(ws k)),ws i++(ws j++(ws b)),RG.z 12,ws c1,ws c2,ws p,ws t,ws r,ws u,ws m,ws d] [2,3,4,7,9,11,12] ⟨ld aQ aJ,ld aQ aJ,cl ((fH C t p).e H),ld aQ aJ,ld aQ aJ,cl ((fH C u r).e z),mk 9 209,mk 10 209,RG.pt aJ,RG.pt aJ,yEU⟩ ?_;intro j8 i8 a8 w8 Q;repeat refine Xy ?_
  refine Q.T [.x (fv m),.x (fv m),.c (fv g),.m 11,.u 11] [(3,RG.z 4)] [(11,4,ws g)] [ws f++(ws e++(ws k)),ws i++(ws j++(ws b)),RG.z 12,ws c1,ws c2,ws p,ws t,ws r,ws u,ws m,ws d,ws g] [2,3,4,7,9,11,12,13] ⟨ld aQ aJ,ld aQ aJ,cl ((aU C m m).e a),mk 11 209,RG.pt aJ,yEU⟩ ?_;intro j9 a9 w9 M9;repeat refine Xy ?_
  refine M9.D [.x (fv g),.x (fv m),.c (fv o),.x (fv g),.x (fv p),.c (fv n),.m 12,.m 13,.u 12,.u 13] [(6,RG.z 4),(7,RG.z 4)] [(12,8,ws o),(13,9,ws n)] [ws f++(ws e++(ws k)),ws i++(ws j++(ws b)),RG.z 12,ws c1,ws c2,ws p,ws t,ws r,ws u,ws m,ws d,ws g,ws o,ws n] [2,3,4,9,11,12,14,15] ⟨ld aQ aJ,ld aQ aJ,cl ((aU C g m).e h3),ld aQ aJ,ld aQ aJ,cl ((aU C g p).e h0),mk 12 209,mk 13 209,RG.pt aJ,RG.pt aJ,yEU⟩ ?_;intro k0 hq k1 hp hi;repeat refine Xy ?_
  refine hi.D [.x (fv d),.x (fv d),.c (fv L),.x (fv o),.c (fv F),.x (fv n),.c (fv M),.c (fv l),.m 14,.u 14] [(8,RG.z 4)] [(14,9,ws l)] [ws f++(ws e++(ws k)),ws i++(ws j++(ws b)),RG.z 12,ws c1,ws c2,ws p,ws t,ws r,ws u,ws m,ws d,ws g,ws o,ws n,ws l] [2,3,4,9,11,12,14,15,16] ⟨ld aQ aJ,ld aQ aJ,cl ((aU C d d).e V),ld aQ aJ,cl ((fH C L o).e h2),ld aQ aJ,cl ((gI C n).e h1),cl ((fH C F M).e W),mk 14 209,RG.pt aJ,yEU⟩ ?_;intro ht hm hz h7;repeat refine Xy ?_
  refine h7.D [.x (fv d),.x (fv n),.x (fv l),.c (fv J),.c (fv G),.x (fv o),.x (fv r),.c (fv I),.c (fv q),.m 15,.u 15] [(9,RG.z 4)] [(15,10,ws q)] [ws f++(ws e++(ws k)),ws i++(ws j++(ws b)),RG.z 12,ws c1,ws c2,ws p,ws t,ws r,ws u,ws m,ws d,ws g,ws o,ws n,ws l,ws q] [2,3,4,11,16,17] ⟨ld aQ aJ,ld aQ aJ,ld aQ aJ,cl ((fH C n l).e T),cl ((aU C d J).e Z),ld aQ aJ,ld aQ aJ,cl ((aU C o r).e X),cl ((fH C G I).e S),mk 15 209,RG.pt aJ,yEU⟩ ?_;intro hs hu hn hj;repeat refine Xy ?_
  refine hj.D [.x (fv l),.x (fv q),.s (.p 0 8),.x (fv k),.s (.p 1 8),.x (fv b),.c (fv K),.x (fv m),.c (fv x),.x (rv l q x),.u 2] [] [(2,10,ws l++(ws q++(ws x)))] [ws f++(ws e++(ws k)),ws i++(ws j++(ws b)),ws l++(ws q++(ws x)),ws c1,ws c2,ws p,ws t,ws r,ws u,ws m,ws d,ws g,ws o,ws n,ws l,ws q] [4] ⟨ld aQ aJ,ld aQ aJ,st,ld aQ aJ,st,ld aQ aJ,cl ((aU C k b).e h4),ld aQ aJ,cl ((aU C K m).e U),st,RG.pt i117,yEU⟩ ?_;intro hw hr E;refine Y5 ?_;refine XE (v:=(rv l q x)) (aH E.st 4 211 rfl 2 _ rfl (E.at (s:=(.p 2 0))) iQ i117) E.sl.defers ?_;exact⟨_,rfl,E.st.bel.below,rfl⟩
abbrev T3(P:Nat):=Fin P × Fin P × Fin P
abbrev tv(t:T3 P):Xu:=rv t.1 t.2.1 t.2.2
abbrev tw(t:T3 P):List Xu:=ws t.1++(ws t.2.1++ws t.2.2)
def JacT(t:T3 P)(p:EC.Pt P):Prop:=Jac t.1 t.2.1 t.2.2 p/\On p
def twJ(t:T3 P):T3 P:=(twX t.1 t.2.1,twY t.1 t.2.1,twZ t.2.1 t.2.2)
def plJ(a b:T3 P):T3 P:=
 if a.2.2=0 then b else if b.2.2=0 then a else
 if cO a.1 b.2.2=cO b.1 a.2.2/\eO a.2.1 b.2.2=eO b.2.1 a.2.2 then twJ a else
 (plX (cO a.1 b.2.2) (eO a.2.1 b.2.2) (cO b.1 a.2.2) (eO b.2.1 a.2.2),plY (cO a.1 b.2.2) (eO a.2.1 b.2.2) (cO b.1 a.2.2) (eO b.2.1 a.2.2),plZ a.2.2 b.2.2 (cO a.1 b.2.2) (cO b.1 a.2.2))
def opJ(t:T3 P):T3 P:=(t.1,0-t.2.1,t.2.2)
def raJ(x y:Fin P):T3 P:=if x=0/\y=0 then(0,0,0) else(x,y,1)
theorem Pu(C:Fld P)(t:T3 P):Gives 113 #[tv t] (tv (twJ t)):=FC C t.1 t.2.1 t.2.2
theorem PD(C:Fld P)(a b:T3 P):Gives 114 #[tv a,tv b] (tv (plJ a b)):=by
 obtain⟨j,g,f⟩:=a;obtain⟨d,e,i⟩:=b;exact Ih C j g f d e i _ (λh=>by unfold plJ;rw[yES h]) (λk c=>by unfold plJ;rw[yET k,yES c]) (λk c h=>by unfold plJ;rw[yET k,yET c,yES h];rfl) (λk c h=>by unfold plJ;rw[yET k,yET c,yET h])
theorem Un(C:Fld P)(t:T3 P):Gives 173 #[tv t] (tv (opJ t)):=Ek C t.1 t.2.1 t.2.2
theorem Uc(C:Fld P)(x y:Fin P):Gives 167 #[pv x y] (tv (raJ x y)):=by
 unfold raJ;by_cases k:x=0/\y=0
 ·rw[yES k];exact H9 C x y k
 ·rw[yET k];exact Ia C x y k
theorem Ud(C:Fld P)(t:T3 P):Gives 116 #[tv t] (pv (t.1*(inv t.2.2*inv t.2.2)) (t.2.1*(inv t.2.2*inv t.2.2)*inv t.2.2)):=N4 C t.1 t.2.1 t.2.2
theorem JacT.twice(C:Fld P){t:T3 P}{p:EC.Pt P}(h:JacT t p):JacT (twJ t) (EC.add p p):=⟨h.1.twice C.cur h.2,C.cur.on h.2 h.2⟩
theorem JacT.plus(C:Fld P){a b:T3 P}{p q:EC.Pt P}(h:JacT a p)(k:JacT b q):JacT (plJ a b) (EC.add p q):=by
 refine⟨?_,C.cur.on h.2 k.2⟩;obtain⟨m,l,i⟩:=a;obtain⟨n,j,g⟩:=b;unfold plJ;by_cases d:i=0
 ·rw[yES d];obtain rfl:=h.1.zero C.cur d;exact k.1
 ·rw[yET d];by_cases c:g=0
  ·rw[yES c];obtain rfl:=k.1.zero C.cur c;rw[bM];exact h.1
  ·rw[yET c];rcases h.1.plus C.cur h.2 k.1 k.2 d c with⟨e,f,e3⟩|⟨e,f⟩
   ·rw[yES ⟨e,f⟩,e3];exact h.1.twice C.cur h.2
   ·rw[yET e];exact f
theorem JacT.neg{t:T3 P}{p:EC.Pt P}(h:JacT t p):JacT (opJ t) (neg p):=⟨h.1.neg,cE h.2⟩
theorem Py(C:Fld P){x y:Fin P}{p:EC.Pt P}(h:Pair x y p)(b:On p):JacT (raJ x y) p:=by
 refine⟨?_,b⟩;unfold raJ;by_cases k:x=0/\y=0
 ·obtain rfl:=h.nothing C.cur b k;rw[yES k];rfl
 ·rw[yET k];exact h.jac C.cur k
theorem JacT.pair(C:Fld P){t:T3 P}{p:EC.Pt P}(h:JacT t p):Pair (t.1*(inv t.2.2*inv t.2.2)) (t.2.1*(inv t.2.2*inv t.2.2)*inv t.2.2) p:=h.1.pair C.cur
theorem JacT.none:JacT ((0,0,0):T3 P) .none:=⟨rfl,jB⟩
end
namespace DG
def nH(d:Nat->Int):Nat->Int
 | 0=>0
 | k+1=>nH d k+d k*2^k
def upd(d:Nat->Int)(i:Nat)(v:Int):Nat->Int:=λj=>if j=i then v else d j
theorem yW{d e:Nat->Int}:∀k,(∀j,j<k->d j=e j)->nH d k=nH e k
 | 0,_=>rfl
 | k+1,h=>by
  show nH d k+d k*2^k=nH e k+e k*2^k;rw[yW k λj b=>h j oM,h k oM]
theorem yV{d:Nat->Int}(i:Nat)(h:∀j,i<=j->d j=0):∀k,nH d (i+k)=nH d i
 | 0=>rfl
 | k+1=>by
  show nH d (i+k)+d (i+k)*2^(i+k)=_;rw[h (i+k) oM,yCh,yCw,yV i h k]
theorem upd_same(d:Nat->Int)(i:Nat)(v:Int):upd d i v i=v:=yES rfl
theorem jG{d:Nat->Int}{i j:Nat}{v:Int}(h:j≠i):upd d i v j=d j:=yET h
theorem LK{d:Nat->Int}(i:Nat)(v:Int)(h:∀j,i<=j->d j=0)(k:Nat):nH (upd d i v) (i+1+k)=nH d i+v*2^i:=by
 rw[yV (i+1) (λj b=>by rw[jG oM];exact h j oM) k];show nH (upd d i v) i+upd d i v i*2^i=_;rw[upd_same,yW i λj b=>jG oM]
structure DI(n:Nat)(d:Nat->Int)(i c:Nat):Prop where
 hc:c<=1
 hz:∀j,i<=j->d j=0
 hw:∀j,257<=j->d j=0
 ho:∀j,d j=0\/(d j%2=1/\-15<=d j/\d j<=15)
 hs:(n:Int)=nH d i+((n/2^i+c:Nat):Int)*2^i
 he:257<=i->n/2^i+c=0
theorem DI.start(n:Nat):DI n (λ_=>0) 0 0:=by
 refine⟨dC,λ_ _=>rfl,λ_ _=>rfl,λ_=>X9 rfl,?_,λh=>oM⟩;rw[yBo,yEy];show(n:Int)=0+((n+0:Nat):Int)*1;omega
theorem high{n i:Nat}(b:n<2^256)(k:256<=i):n/2^i=0:=
 yAm (Xz b (Y4 dC k))
theorem DI.skip{n i c:Nat}{d:Nat->Int}(h:DI n d i c)(f:n<2^256)(o:i<257)(g:n/2^i%2=c):DI n d (i+1) c:=by
 have k:n/2^(i+1)=n/2^i/2:=by rw[Zf,yAq]
 refine⟨h.hc,λj l=>h.hz j oM,h.hw,h.ho,?_,λe=>?_⟩
 ·rw[h.hs];show _=nH d i+d i*2^i+_;rw[h.hz i (Xx _),yCh,yCw,k,show n/2^i+c=(n/2^i/2+c)*2 by have:=h.hc;omega];rw[show(2:Int)^(i+1)=2^i*2 by rw[yEo]];generalize (2:Int)^i=t;rw[Z2,yCS,yCi (2:Nat) t];rfl
 ·have m:i=256:=oM;have b:n/2^i=0:=high f oM;rw[k,b];rw[b]at g;omega
theorem DI.take{n i c:Nat}{d:Nat->Int}(h:DI n d i c)(l:n<2^256)(r:i<257)(q:n/2^i%2≠c):
 DI n (upd d i (((n/2^i%32+c:Nat):Int)-32*(((n/2^i%32+c)/16:Nat):Int))) (i+5) ((n/2^i%32+c)/16):=by
 have k:n/2^(i+5)=n/2^i/32:=by rw[yAX,yAq]
 have s:=h.hc;have b:(n/2^i%32+c)%2=1:=oM;have f:n/2^i%32+c<32:=oM;refine⟨oM,λj e=>?_,λj e=>?_,λj=>?_,?_,λg=>?_⟩
 ·rw[jG oM];exact h.hz j oM
 ·rw[jG oM];exact h.hw j e
 ·by_cases e:j=i
  ·subst e;rw[upd_same];right;omega
  ·rw[jG e];exact h.ho j
 ·rw[show i+5=i+1+4 by omega,LK i _ h.hz 4,show i+1+4=i+5 by omega,h.hs,Int.add_assoc]
  congr 1
  rw[k,Int.pow_add,show(2:Int)^5=32 by decide,<-yCi (32:Int),<-yCS,<-yEA]
  congr 1
  omega
 ·have o:n/2^i<16:=by
   rw[Nat.div_lt_iff_lt_mul (yAM dC)];refine Xz l ?_
   calc 2^256=16*2^252:=dK
    _<=16*2^i:=Nat.mul_le_mul (Xx _) (Y4 dC oM)
  rw[k];generalize n/2^i=m at o q b f⊢;rw[XX (show m<32 by omega)]at b⊢;have p:m+c<16:=oM;rw[yAm p,yAm (show m<32 by omega)]
theorem DI.all{n i c:Nat}{d:Nat->Int}(h:DI n d i c)(b:257<=i):(n:Int)=nH d 257:=by
 have k:=h.hs;rw[h.he b,Zy,yCh,yCw]at k;rw[k,show i=257+(i-257) by omega,yV 257 h.hw]
def hor(d:Nat->Int):Nat->Int
 | 0=>0
 | k+1=>2*hor d k+d (256-k)
theorem GE(d:Nat->Int):∀k,k<=257->hor d k*2^(257-k)+nH d (257-k)=nH d 257
 | 0,_=>by show 0*_+_=_;rw[yCh,Int.zero_add]
 | k+1,hk=>by
  rw[<-GE d k oM];show(2*hor d k+d (256-k))*2^(257-(k+1))+nH d (257-(k+1))=_;rw[show 257-(k+1)=256-k by omega,show 257-k=(256-k)+1 by omega];show _=hor d k*2^(256-k+1)+(nH d (256-k)+d (256-k)*2^(256-k));rw[yEo];generalize (2:Int)^(256-k)=t;generalize hor d k=a;rw[yEA,yCi t 2,<-yCS,yCi a 2];omega
theorem Ox{n i c:Nat}{d:Nat->Int}(h:DI n d i c)(b:257<=i):hor d 257=(n:Int):=by
 have k:=GE d 257 (Xx _);rw[yA8]at k;rw[h.all b,<-k];show hor d 257=hor d 257*1+0;omega
end DG
section
variable {P:Nat}[NeZero P]{N:Nat}
theorem Mn(k o i:Nat)(c:i<257)(w:Xs):(Yi 214 (oZ k o) (iZ i)).run prog w=.ok (.pointer (some ⟨k,o+i,none⟩)) w:=by
 have b:¬(i:Int)<0:=oM;have d:(i:Int)<257:=oM;go_simp
theorem S5(k i:Nat)(b:i<257)(w:Xs):(Yi 214 (jZ k) (iZ i)).run prog w=.ok (oZ k i) w:=by
 rw[Mn k 0 i b,XD]
theorem Ha(k o i:Nat)(c:i<8)(w:Xs):(Yi 212 (oZ k o) (iZ i)).run prog w=.ok (.pointer (some ⟨k,o+12*i,none⟩)) w:=by
 have b:¬(i:Int)<0:=oM;have d:(i:Int)<8:=oM;go_simp
theorem Mo(k o i:Nat)(c:i<8)(w:Xs):(Yi 212 (oZ k o) (.int .i8 i)).run prog w=.ok (.pointer (some ⟨k,o+12*i,none⟩)) w:=by
 have b:¬(i:Int)<0:=oM;have d:(i:Int)<8:=oM;go_simp
theorem Hb(k n c i:Nat)(b:i<n)(w:Xs):(Yi 208 (sZ k n c) (iZ i)).run prog w=.ok (.pointer (some ⟨k,353*i,none⟩)) w:=by
 go_simp
theorem Vw(k o n c i:Nat)(b:i<n)(w:Xs):(Yi 127 (.slice (some ⟨k,o,none⟩) n c) (iZ i)).run prog w=.ok (.pointer (some ⟨k,o+4*i,none⟩)) w:=by
 go_simp
theorem Qj(k o n c i:Nat)(b:i<n)(w:Xs):(Yi 138 (.slice (some ⟨k,o,none⟩) n c) (iZ i)).run prog w=.ok (.pointer (some ⟨k,o+8*i,none⟩)) w:=by
 go_simp
theorem P4(d:Int)(hd:-15<=d/\d<=15)(w:Xs):(Op.unary .neg (.int .i8 d)).run prog w=.ok (.int .i8 (-d)) w:=by
 have h:=yCz (-d) oM;go_simp
theorem P3(k:Nat)(b:k<8)(w:Xs):(binOp .quo 213 (.int .i8 (2*(k:Int)+1)) (.int .i8 2)).run prog w=.ok (.int .i8 k) w:=by
 have c:(2*(k:Int)+1).tdiv 2=(k:Int):=by rw[yAF oM];omega
 have h:=yCz (k:Int) oM;go_simp
theorem V1(g:Nat)(k:g<32)(w:Xs):(binOp .shr 3 (iZ g) (uZ 4)).run prog w=.ok (iZ ((g/16:Nat):Int)) w:=by
 go_simp
theorem V3(g:Nat)(b:g<32)(w:Xs):(binOp .shl 3 (iZ g) (uZ 5)).run prog w=.ok (iZ (32*(g:Int))) w:=by
 have h:=Zl (32*(g:Int)) oM;have k:(g:Int)*32=32*(g:Int):=oM;go_simp
theorem DV(a b:Int)(c:-1000<=a/\a<=1000)(k:-1000<=b/\b<=1000)(w:Xs):(binOp .sub 3 (iZ a) (iZ b)).run prog w=.ok (iZ (a-b)) w:=by
 have h:=Zl (a-b) oM;go_simp
theorem vZ(a b:Nat)(c:a<=1000000)(k:b<=1000000)(w:Xs):(binOp .add 3 (iZ a) (iZ b)).run prog w=.ok (iZ ((a+b:Nat):Int)) w:=by
 have h:=Zl ((a:Int)+(b:Int)) oM;go_simp
theorem cv8(v:Int)(hv:-15<=v/\v<=15)(w:Xs):(convert 3 213 (iZ v)).run prog w=.ok (.int .i8 v) w:=by
 have h:=yCz v oM;go_simp
theorem U5{b c:Nat}(e:b=c)(w:Xs):(binOp .eql 3 (iZ b) (iZ c)).run prog w=.ok (.bool true) w:=by
 subst e;go_simp
theorem U6{b c:Nat}(e:¬b=c)(w:Xs):(binOp .eql 3 (iZ b) (iZ c)).run prog w=.ok (.bool false) w:=by
 have h:¬(b:Int)=(c:Int):=oM;go_simp
theorem gW{i n:Nat}(e:i<n)(w:Xs):(binOp .lss 3 (iZ i) (iZ n)).run prog w=.ok (.bool true) w:=by
 go_simp
theorem oC{i n:Nat}(e:¬i<n)(w:Xs):(binOp .lss 3 (iZ i) (iZ n)).run prog w=.ok (.bool false) w:=by
 go_simp
theorem MM{n f c:Nat}(k:n<top)(hf:f<=256)(b:c<=32):Gives 198 #[nv n,iZ f,iZ c] (iZ ((n/2^f%2^c:Nat):Int)):=λw =>
 (DC _ n f c (wR k) hf b w).mono (by rintro e w' ⟨v,rfl,d,rfl⟩;exact⟨_,rfl,d,rfl⟩)
def dg(d:Nat->Int):List Xu:=(List.range 257).map (λj=>YQ .i8 (d j))
def dv(d:Nat->Int):Xu:=.agg (dg d).toArray
theorem bT(d:Nat->Int):(dg d).length=257:=by unfold dg;rw[XV,List.length_range]
theorem LO(d:Nat->Int)(j:Nat)(k:j<257):(dg d)[j]? = some (.int .i8 (d j)):=by
 unfold dg;rw[List.getElem?_map,List.getElem?_range k];rfl
theorem SI(d:Nat->Int)(i:Nat)(v:Int):dg (DG.upd d i v)=(dg d).set i (.int .i8 v):=by
 apply yBA;intro j;rw[List.getElem?_set];by_cases b:j<257
 ·rw[LO _ j b,LO _ j b];by_cases k:i=j
  ·subst k;rw[yES rfl,yES (by rw[bT];exact b),DG.upd_same]
  ·rw[yET k,DG.jG (λh=>k h.symm)]
 ·rw[ZG (by rw[bT];omega)];by_cases k:i=j
  ·rw[yES k,yET (by rw[bT];omega)]
  ·rw[yET k,ZG (by rw[bT];omega)]
theorem LN(d:Nat->Int):(dg d).all (·.oneCell')=true:=by
 unfold dg;rw[List.all_map];exact List.all_eq_true.2 λ_ _=>rfl
theorem SH(d:Nat->Int):((dg d).drop 0).take (dg d).length=dg d:=by rw[List.drop_zero,List.take_length]
def dgo(n:Nat):Nat->(Nat->Int)->Nat->Nat->(Nat->Int)
 | 0,d,_,_=>d
 | f+1,d,i,c=>if i<257 then(if n/2^i%2=c then dgo n f d (i+1) c else
  dgo n f (DG.upd d i (((n/2^i%32+c:Nat):Int)-32*(((n/2^i%32+c)/16:Nat):Int))) (i+5) ((n/2^i%32+c)/16)) else d
theorem GR(n:Nat)(f:Nat)(d:Nat->Int)(i c:Nat)(h:¬i<257):dgo n f d i c=d:=by
 cases f with
 | zero=>rfl
 | succ f=>rw[dgo,yET h]
theorem EO{n:Nat}(k:n<2^256):∀(f:Nat) (d:Nat->Int) (i c:Nat),DG.DI n d i c->257<=i+f->∃g j,257<=g/\DG.DI n (dgo n f d i c) g j
 | 0,d,i,c,h,hf=>⟨i,c,oM,h⟩
 | f+1,d,i,c,h,hf=>by
  by_cases b:i<257
  ·rw[dgo,yES b];by_cases e:n/2^i%2=c
   ·rw[yES e];exact EO k f d (i+1) c (h.skip k b e) oM
   ·rw[yET e];exact EO k f _ (i+5) _ (h.take k b e) oM
  ·rw[GR n _ d i c b];exact⟨i,c,oM,h⟩
def fN(n:Nat):Nat->Int:=dgo n 257 (λ_=>0) 0 0
theorem BM{n:Nat}(k:n<2^256):∃i c,257<=i/\DG.DI n (fN n) i c:=EO k 257 _ 0 0 (DG.DI.start n) oM
theorem u138:(prog.underlying 214).map (·.isRow)=some true:=kR
theorem i138:(prog.info? 214).map (·.size)=some 257:=kR
theorem WR:(prog.info? 213).map (·.size)=some 1:=kR
theorem TK:(prog.underlying 213).map (·.isRow)=some false:=kR
theorem Ql(w:Xs):(Instr.alloc 214 true (.tuple #[])).run prog w=.ok (jZ w.heap.size) (w.alloc (.cells (dg (λ_=>0)).toArray 214)):=kR
theorem LM{n:Nat}(hn:n<top):Gives 166 #[nv n] (dv (fN n)):=by
 intro w;go_enter func166,ntmps166;refine Jf (v0:=nv n) (n:=33) kR kR kR ?_;intro a0 h1 f0;have h2:=RG.St.begin w;have q:RG.M w w.heap.size [] 33 [] [] [(0,.v (nv n))] a0 _:=⟨h2,h1,⟨f0,yEU⟩⟩
 repeat refine Xy ?_
 refine q.T [.m 0,.m 1] [(0,wn n),(1,dg (λ_=>0))] [] [wn n,dg (λ_=>0)] [1,2] ⟨mk 0 42,qW 1 rfl rfl _ rfl 214 rfl Ql,yEU⟩ ?_;intro Y V a1 w1 j;repeat refine Xy ?_
 refine j.T [.m 2] [(0,dg (λ_=>0))] [] [wn n,dg (λ_=>0),dg (λ_=>0)] [1,2,3] ⟨qW 2 rfl rfl _ rfl 214 rfl Ql,yEU⟩ ?_;intro W a2 w2 k;repeat refine Xy ?_
 refine k.U [.x (iZ 0)] [1,2,3,4] ⟨st,yEU⟩ ?_;intro r w3 f;repeat refine Xy ?_
 refine f.U [.x (iZ 0)] [1,2,3,4,5] ⟨st,yEU⟩ ?_;intro y w4 l;have H:y.tmps[1]? = some (jZ Y):=l.at (s:=(.p 0 0));have E:y.tmps[2]? = some (jZ V):=l.at (s:=(.p 1 0));have S:y.tmps[3]? = some (jZ W):=l.at (s:=(.p 2 0));have Q:y.tmps[4]? = some (iZ 0):=l.at (s:=(.v (iZ 0)));have J:y.tmps[5]? = some (iZ 0):=l.at (s:=(.v (iZ 0)));repeat refine Xy ?_
 refine Y6 ?_;refine yBN (λm a wr=>∃(d:Nat->Int) (i c:Nat),c<=1/\i<=261/\257<=i+m/\dgo n m d i c=fN n/\Sl a 33/\a.tmps[1]? = some (jZ Y)/\a.tmps[2]? = some (jZ V)/\a.tmps[3]? = some (jZ W)/\a.tmps[4]? = some (iZ c)/\a.tmps[5]? = some (iZ i)/\RG.St w w.heap.size [] [wn n,dg (λ_=>0),dg d] [Y,V,W] wr) 257 ⟨λ_=>0,0,0,oM,oM,oM,rfl,l.sl,H,E,S,Q,J,l.st⟩ ?_;intro m a wr;rintro⟨d,i,c,hc,h4,hm,hd,sl,u,f2,x,f4,f5,z⟩;obtain⟨b,G⟩:∃b,n/2^i%2=b:=⟨_,rfl⟩
 obtain⟨e,A⟩:∃e,n/2^i%32=e:=⟨_,rfl⟩
 obtain⟨g,P⟩:∃g,e+c=g:=⟨_,rfl⟩
 obtain⟨v,B⟩:∃v:Int,(g:Int)-32*((g/16:Nat):Int)=v:=⟨_,rfl⟩
 generalize Y=F at u f2 x z;generalize V=K at u f2 x z;generalize W=R at u f2 x z;by_cases t:i<257
 ·have I:Gives 198 #[nv n,iZ i,iZ 1] (iZ b):=by rw[<-G];exact MM (c:=1) hn oM oM
  have Z:Gives 198 #[nv n,iZ i,iZ 5] (iZ e):=by rw[<-A];exact MM (c:=5) hn oM oM
  have h0:∃o,m=o+1:=by
   cases m with
   | zero=>exact absurd hm oM
   | succ o=>exact⟨o,rfl⟩
  obtain⟨o,rfl⟩:=h0;rw[dgo,yES t,G,A,P,B]at hd;by_cases X:b=c
  ·rw[yES X]at hd;have q:RG.M w w.heap.size [] 33 [wn n,dg (λ_=>0),dg d] [F,K,R] [(1,.p 0 0),(2,.p 1 0),(3,.p 2 0),(4,.v (iZ c)),(5,.v (iZ i))] a _:=⟨z,sl,⟨u,f2,x,f4,f5,yEU⟩⟩
   repeat refine Xy ?_
   refine q.U [.x (iZ i),.x (.bool true)] [1,2,3,4,5,8] ⟨st,aN rfl .lss 3 3 7 (iZ i) (iZ 257) (.bool true) rfl rfl sx (λw=>kR) (gW (n:=257) t),yEU⟩ ?_;intro a1 w1 j;repeat refine Xy ?_
   refine Yx j.ev ?_;refine YR ?_;refine Xy ?_;refine Y6 ?_;repeat refine Xy ?_
   refine j.U [.x (nv n),.x (iZ i),.c (iZ b),.x (iZ c),.x (.bool true)] [1,2,3,4,5,15] ⟨ld u85 i85,st,cl I,st,aO rfl .eql 3 3 13 14 (iZ b) (iZ c) (.bool true) rfl rfl sx sx (λw=>kR) (U5 X),yEU⟩ ?_;intro a2 w2 k;repeat refine Xy ?_
   refine Yx k.ev ?_;refine wp_exit ?_;dsimp only[Exit.then,yA4];rw[yES rfl];repeat refine Xy ?_
   refine k.U [.x (iZ i),.x (iZ ((i+1:Nat):Int)),.x (iZ ((i+1:Nat):Int))] [1,2,3,4,5] ⟨st,aN rfl .add 3 3 9 (iZ i) (iZ 1) (iZ ((i+1:Nat):Int)) rfl rfl sx (λw=>kR) (vZ i 1 oM oM),st,yEU⟩ ?_;intro r w3 f;have L:r.tmps[1]? = some (jZ F):=f.at (s:=(.p 0 0));have D:r.tmps[2]? = some (jZ K):=f.at (s:=(.p 1 0));have M:r.tmps[3]? = some (jZ R):=f.at (s:=(.p 2 0));have p:r.tmps[4]? = some (iZ c):=f.at (s:=(.v (iZ c)));have C:r.tmps[5]? = some (iZ ((i+1:Nat):Int)):=f.at (s:=(.v (iZ ((i+1:Nat):Int))));show ∃n',_;exact⟨o,yCD o,d,i+1,c,hc,oM,oM,hd,f.sl,L,D,M,p,C,f.st⟩
  ·rw[yET X]at hd;have he:e<32:=oM;have h3:g%2=1:=oM;have hg:g<32:=oM;have hv:-15<=v/\v<=15:=oM;have U:∀w,(binOp .add 3 (iZ e) (iZ c)).run prog w=.ok (iZ g) w:=λw=>by rw[vZ e c oM oM,P]
   have T:∀w,(binOp .sub 3 (iZ g) (iZ (32*((g/16:Nat):Int)))).run prog w=.ok (iZ v) w:=λw=>by rw[DV _ _ oM oM,B]
   have q:RG.M w w.heap.size [] 33 [wn n,dg (λ_=>0),dg d] [F,K,R] [(1,.p 0 0),(2,.p 1 0),(3,.p 2 0),(4,.v (iZ c)),(5,.v (iZ i))] a _:=⟨z,sl,⟨u,f2,x,f4,f5,yEU⟩⟩
   repeat refine Xy ?_
   refine q.U [.x (iZ i),.x (.bool true)] [1,2,3,4,5,8] ⟨st,aN rfl .lss 3 3 7 (iZ i) (iZ 257) (.bool true) rfl rfl sx (λw=>kR) (gW (n:=257) t),yEU⟩ ?_;intro a1 w1 j;repeat refine Xy ?_
   refine Yx j.ev ?_;refine YR ?_;refine Xy ?_;refine Y6 ?_;repeat refine Xy ?_
   refine j.U [.x (nv n),.x (iZ i),.c (iZ b),.x (iZ c),.x (.bool false)] [1,2,3,4,5,15] ⟨ld u85 i85,st,cl I,st,aO rfl .eql 3 3 13 14 (iZ b) (iZ c) (.bool false) rfl rfl sx sx (λw=>kR) (U6 X),yEU⟩ ?_;intro a2 w2 k;repeat refine Xy ?_
   refine X7 k.ev ?_;refine YR ?_;repeat refine Xy ?_
   refine k.U [.x (nv n),.x (iZ i),.c (iZ e),.x (iZ c),.x (iZ g),.x (iZ g)] [1,2,3,4,5,6] ⟨ld u85 i85,st,cl Z,st,aO rfl .add 3 3 18 19 (iZ e) (iZ c) (iZ g) rfl rfl sx sx (λw=>kR) U,st,yEU⟩ ?_;intro r w3 f;repeat refine Xy ?_
   refine f.U [.x (iZ g),.x (iZ ((g/16:Nat):Int)),.x (iZ ((g/16:Nat):Int))] [1,2,3,4,5,6] ⟨st,aN rfl .shr 3 189 21 (iZ g) (uZ 4) (iZ ((g/16:Nat):Int)) rfl rfl sx (λw=>kR) (V1 g hg),st,yEU⟩ ?_;intro y w4 l;repeat refine Xy ?_
   refine l.T [.x (iZ i),.x (iZ g),.x (iZ ((g/16:Nat):Int)),.x (iZ (32*((g/16:Nat):Int))),.x (iZ v),.x (.int .i8 v),.s (.p 2 i),.u 2] [] [(2,7,dg (DG.upd d i v))] [wn n,dg (λ_=>0),dg (DG.upd d i v)] [1,2,3,4,5] ⟨st,st,st,aN rfl .shl 3 189 25 (iZ ((g/16:Nat):Int)) (uZ 5) (iZ (32*((g/16:Nat):Int))) rfl rfl sx (λw=>kR) (V3 (g/16) oM),aO rfl .sub 3 3 24 26 (iZ g) (iZ (32*((g/16:Nat):Int))) (iZ v) rfl rfl sx sx (λw=>kR) T,IK rfl 3 213 27 (iZ v) (.int .i8 v) rfl rfl sx (cv8 v hv),aY rfl 214 3 23 rfl (.p 2 0) (iZ i) sx sx (λμ w=>S5 _ i t w),IJ 2 i rfl _ rfl 213 (.tmp 29) (.tmp 28) (.int .i8 v) rfl rfl sx sx (by show i<(dg _).length;rw[bT];exact t) (SI d i v) WR rfl rfl,yEU⟩ ?_;intro a5 w5 M5;repeat refine Xy ?_
   refine M5.U [.x (iZ i),.x (iZ ((i+4:Nat):Int)),.x (iZ ((i+4:Nat):Int))] [1,2,3,4,5] ⟨st,aN rfl .add 3 3 30 (iZ i) (iZ 4) (iZ ((i+4:Nat):Int)) rfl rfl sx (λw=>kR) (vZ i 4 oM oM),st,yEU⟩ ?_;intro a6 w6 M6;repeat refine Xy ?_
   refine M6.U [.x (iZ ((i+4:Nat):Int)),.x (iZ ((i+4+1:Nat):Int)),.x (iZ ((i+4+1:Nat):Int))] [1,2,3,4,5] ⟨st,aN rfl .add 3 3 9 (iZ ((i+4:Nat):Int)) (iZ 1) (iZ ((i+4+1:Nat):Int)) rfl rfl sx (λw=>kR) (vZ (i+4) 1 oM oM),st,yEU⟩ ?_;intro O w7 p;have L:O.tmps[1]? = some (jZ F):=p.at (s:=(.p 0 0));have C:O.tmps[2]? = some (jZ K):=p.at (s:=(.p 1 0));have N:O.tmps[3]? = some (jZ R):=p.at (s:=(.p 2 0));have M:O.tmps[4]? = some (iZ ((g/16:Nat):Int)):=p.at (s:=(.v (iZ ((g/16:Nat):Int))));have D:O.tmps[5]? = some (iZ ((i+4+1:Nat):Int)):=p.at (s:=(.v (iZ ((i+4+1:Nat):Int))));show ∃n',_;exact⟨o,yCD o,DG.upd d i v,i+5,g/16,oM,oM,oM,hd,p.sl,L,C,N,M,D,p.st⟩
 ·have o:d=fN n:=by rw[<-hd,GR n m d i c t]
  have q:RG.M w w.heap.size [] 33 [wn n,dg (λ_=>0),dg d] [F,K,R] [(1,.p 0 0),(2,.p 1 0),(3,.p 2 0),(4,.v (iZ c)),(5,.v (iZ i))] a _:=⟨z,sl,⟨u,f2,x,f4,f5,yEU⟩⟩
  repeat refine Xy ?_
  refine q.U [.x (iZ i),.x (.bool false)] [2,3,8] ⟨st,aN rfl .lss 3 3 7 (iZ i) (iZ 257) (.bool false) rfl rfl sx (λw=>kR) (oC (n:=257) t),yEU⟩ ?_;intro a1 w1 j;repeat refine Xy ?_
  refine X7 j.ev ?_;refine wp_exit ?_;dsimp only[Exit.then,yA4];rw[yES rfl];repeat refine Xy ?_
  refine j.T [.x (dv d),.u 1] [] [(1,1,dg d)] [wn n,dg d,dg d] [2] ⟨pW rfl 2 0 _ rfl rfl kR 214 3 rfl (dg d) rfl sx (SH _) u138 (by rw[bT];exact i138),Ma 1 rfl _ rfl 214 (.tmp 2) (.tmp 32) rfl rfl (by show(dg _).length=(dg _).length;rw[bT,bT]) sx sx (by show _=some (dg _).length;rw[bT];exact i138) (LN _),yEU⟩ ?_;intro a2 w2 k;refine Y5 ?_;refine XE (v:=dv d) (aH k.st 2 214 rfl 1 _ rfl (k.at (s:=(.p 1 0))) u138 (by rw[bT];exact i138)) k.sl.defers ?_;exact⟨_,rfl,k.st.bel.below,by rw[o]⟩
omit [NeZero P] in
theorem cJ(t:T3 P):(tw t).length=12:=rfl
omit [NeZero P] in
theorem Ji(t:T3 P):(tw t).all (·.oneCell')=true:=rfl
def od(x y:Fin P):Nat->T3 P
 | 0=>raJ x y
 | q+1=>plJ (od x y q) (twJ (raJ x y))
theorem RH(C:Fld P){x y:Fin P}{p:EC.Pt P}(h:Pair x y p)(k:On p):∀q,JacT (od x y q) (eG ((2*q+1:Nat):Int) p)
 | 0=>by
  show JacT (raJ x y) (eG 1 p);rw[Cb];exact Py C h k
 | q+1=>by
  have b:=RH C h k q;have c:=(Py C h k).twice C;have d:=b.plus C c;have e:eG ((2*(q+1)+1:Nat):Int) p=EC.add (eG ((2*q+1:Nat):Int) p) (EC.add p p):=by
   have:EC.add p p=eG 2 p:=by
    rw[show(2:Int)=1+1 by rfl,wY C.cur k,Cb]
   rw[this,<-wY C.cur k]
   congr 1
  rw[e];exact d
structure Fi(x y:Fin P)(D:Nat->Int)(C0:List Xu)(off m:Nat)(C:List Xu):Prop where
 len:C.length=C0.length
 out:∀j,j<off\/off+353<=j->C[j]? = C0[j]?
 dig:∀j,j<257->C[off+96+j]? = some (.int .i8 (D j))
 odd:∀q j,q<m->j<12->C[off+12*q+j]? = (tw (od x y q))[j]?
theorem Fi.first{x y:Fin P}{D:Nat->Int}{C0:List Xu}{off:Nat}(h:off+353<=C0.length):Fi x y D C0 off 0 (rep C0 (off+96) (dg D)):=by
 have k:off+96+(dg D).length<=C0.length:=by rw[bT];omega
 refine⟨cY k,λj b=>?_,λj b=>?_,λq j c _=>oM⟩
 ·rw[RG.rep_at k,yET (by rw[bT];omega)]
 ·rw[RG.rep_at k,yES (by rw[bT];omega),show off+96+j-(off+96)=j by omega,LO D j b]
theorem Fi.next{x y:Fin P}{D:Nat->Int}{C0 C:List Xu}{off m:Nat}(h:off+353<=C0.length)(c:Fi x y D C0 off m C)(f:m<8):Fi x y D C0 off (m+1) (rep C (off+12*m) (tw (od x y m))):=by
 have b:=c.len;have d:off+12*m+(tw (od x y m)).length<=C.length:=by rw[cJ];omega
 refine⟨by rw[cY d];exact b,λj k=>?_,λj k=>?_,λq j g k=>?_⟩
 ·rw[RG.rep_at d,yET (by rw[cJ];omega)];exact c.out j k
 ·rw[RG.rep_at d,yET (by rw[cJ];omega)];exact c.dig j k
 ·rw[RG.rep_at d];by_cases e:q=m
  ·subst e;rw[yES (by rw[cJ];omega),show off+12*q+j-(off+12*q)=j by omega]
  ·rw[yET (by rw[cJ];omega)];exact c.odd q j oM k
theorem Fi.sub{x y:Fin P}{D:Nat->Int}{C0 C:List Xu}{off m q:Nat}(h:off+353<=C0.length)(b:Fi x y D C0 off m C)(c:q<m)(d:m<=8):(C.drop (off+12*q)).take (tw (od x y q)).length=tw (od x y q):=
 QI (λj k=>b.odd q j c (by rw[cJ]at k;exact k)) (by rw[cJ];have:=b.len;omega)
def fc(x y:Fin P)(D:Nat->Int)(C0:List Xu)(off:Nat):Nat->List Xu
 | 0=>rep C0 (off+96) (dg D)
 | m+1=>rep (fc x y D C0 off m) (off+12*m) (tw (od x y m))
theorem GL{x y:Fin P}{D:Nat->Int}{C0:List Xu}{off:Nat}(h:off+353<=C0.length):∀m,m<=8->Fi x y D C0 off m (fc x y D C0 off m)
 | 0,_=>Fi.first h
 | m+1,hm=>(GL h m oM).next h oM
theorem Fi.uniq{x y:Fin P}{D:Nat->Int}{C0 C c:List Xu}{off:Nat}(h:Fi x y D C0 off 8 C)(k:Fi x y D C0 off 8 c):C=c:=by
 apply yBA;intro j;by_cases b:j<off\/off+353<=j
 ·rw[h.out j b,k.out j b]
 ·by_cases d:j<off+96
  ·have e:j=off+12*((j-off)/12)+(j-off)%12:=oM;rw[e,h.odd _ _ oM oM,k.odd _ _ oM oM]
  ·have e:j=off+96+(j-off-96):=oM;rw[e,h.dig _ oM,k.dig _ oM]
theorem SD(F:Fld P){n:Nat}(hn:n<top)(x y:Fin P)(C0:List Xu)(k off:Nat)(g:off+353<=C0.length)(w:Xs)(hk:k<w.heap.size)(ht:w.there k 0 C0.length)(hr:w.rangeAt k 0 C0):
 XH prog 112 #[oZ k off,nv n,pv x y] w (Ret λr w'=>(∃C,Fi x y (fN n) C0 off 8 C/\PutTo k C0.length C w w')/\r=.tuple #[]):=by
 obtain⟨D,p⟩:∃D,fN n=D:=⟨_,rfl⟩
 have hD:Gives 166 #[nv n] (dv D):=p ▸ LM hn;obtain⟨s0,e⟩:∃s,raJ x y=s:=⟨_,rfl⟩
 have hb:Gives 167 #[pv x y] (tv s0):=e ▸ Uc F x y;obtain⟨s2,d⟩:∃s,twJ s0=s:=⟨_,rfl⟩
 have h6:Gives 113 #[tv s0] (tv s2):=d ▸ Pu F s0;obtain⟨f,v⟩:∃c,rep C0 (off+96) (dg D)=c:=⟨_,rfl⟩
 have M:off+96+(dg D).length<=C0.length:=by rw[bT];omega
 have W:=v ▸ RG.rep_at M;have U:f.length=C0.length:=v ▸ cY M;have F1:Fi x y D C0 off 0 f:=v ▸ Fi.first g;obtain⟨l,b⟩:∃c,rep f (off+0+12*0) (tw s0)=c:=⟨_,rfl⟩
 have o:off+0+12*0+(tw s0).length<=f.length:=by rw[cJ];omega
 have B:=b ▸ RG.rep_at o;have E:l.length=f.length:=b ▸ cY o;have F2:Fi x y D C0 off 1 l:=by
  have:=F1.next g dC;rw[<-b,<-e];exact this
 have u:(l.drop (off+0+12*0)).take (tw s0).length=tw s0:=by
  have:=F2.sub g (q:=0) dC dC;rw[<-e];exact this
 obtain⟨i,hl⟩:∃i:Nat,i=0:=⟨_,rfl⟩
 obtain⟨s3,-⟩:∃s:T3 P,s=s0:=⟨_,rfl⟩
 obtain⟨K,-⟩:∃s:T3 P,s=s0:=⟨_,rfl⟩
 go_enter func112,ntmps112;refine VN (v0:=oZ k off) (v1:=nv n) (v2:=pv x y) (n:=43) kR kR kR kR kR ?_;intro a0 h9 f0 f1 f2;have ha:=RG.St.lent hk hr ht;have Z:RG.M w w.heap.size [k] 43 [C0] [k] [(0,.p 0 off),(1,.v (nv n)),(2,.v (pv x y))] a0 _:=⟨ha,h9,⟨f0,f1,f2,yEU⟩⟩
 repeat refine Xy ?_
 refine Z.T [.m 1,.m 2] [(0,wn n),(1,ws x++(ws y))] [] [C0,wn n,ws x++(ws y)] [0,4,5] ⟨mk 1 42,mk 2 131,yEU⟩ ?_;intro S L A w1 j;have I:A.tmps[0]? = some (oZ k off):=j.at (s:=(.p 0 off));have h4:A.tmps[4]? = some (jZ S):=j.at (s:=(.p 1 0));have h1:A.tmps[5]? = some (jZ L):=j.at (s:=(.p 2 0));have j:RG.M w w.heap.size [k] 43 [C0,wn n,ws x++(ws y)] [k,S,L] [(0,.p 0 off),(4,.p 1 0),(5,.p 2 0)] A _:=⟨j.st,j.sl,⟨I,h4,h1,yEU⟩⟩
 repeat refine Xy ?_
 refine j.tx [.s 8 [] (.p 0 off),.x 9 [] (nv n),.c 10 [(9,1)] (dv D),.s 11 [(8,0)] (.p 0 off),.s 12 [(11,3)] (.p 0 (off+96)),.u [(12,4),(10,2)] 0] [] [(0,5,f)] [f,wn n,ws x++(ws y)] [(0,.p 0 off),(5,.p 2 0)] kR (congrArg (λn=>[n]) U) ⟨st,ld u85 i85,cl hD,st,st,fO 0 (off+96) rfl _ rfl 214 (.tmp 12) (.tmp 10) (dg D) rfl rfl sx sx (by show off+96+(dg D).length<=C0.length;rw[bT];omega) W (by show _=some (dg _).length;rw[bT];exact i138) (LN _),yEU⟩ ?_;intro a2 w2 G;have X:a2.tmps[0]? = some (oZ k off):=G.at (s:=(.p 0 off));have V:a2.tmps[5]? = some (jZ L):=G.at (s:=(.p 2 0));have G:RG.M w w.heap.size [k] 43 [f,wn n,ws x++(ws y)] [k,S,L] [(0,.p 0 off),(5,.p 2 0)] a2 _:=⟨G.st,G.sl,⟨X,V,yEU⟩⟩
 repeat refine Xy ?_
 refine G.dr kR [.s 13 [] (.p 0 off),.x 14 [] (pv x y),.c 15 [(14,1)] (tv s0),.s 16 [(13,0)] (.p 0 off),.s 17 [(16,3)] (.p 0 (off+0)),.s 18 [(17,4)] (.p 0 ((off+0)+12*0)),.u [(18,5),(15,2)] 0] [] [(0,6,l)] [l,wn n,ws x++(ws y)] [(0,.p 0 off)] kR (congrArg (λn=>[n]) E) ⟨st,ld iI i109,cl hb,st,st,eW rfl 212 17 (iZ 0) rfl (.p 0 (off+0)) sx (λμ w=>Ha _ _ 0 dC w),fO 0 ((off+0)+12*0) rfl _ rfl 211 (.tmp 18) (.tmp 15) (tw s0) rfl rfl sx sx (by show off+0+12*0+(tw s0).length<=f.length;rw[cJ];omega) B i117 (Ji _),yEU⟩ ?_;intro Q w3 z;have t:Q.tmps[0]? = some (oZ k off):=z.at (s:=(.p 0 off));have z:RG.M w w.heap.size [k] 43 [l,wn n,ws x++(ws y)] [k,S,L] [(0,.p 0 off)] Q _:=⟨z.st,z.sl,⟨t,yEU⟩⟩
 repeat refine Xy ?_
 refine z.T [.s (.p 0 off),.s (.p 0 off),.s (.p 0 (off+0)),.s (.p 0 ((off+0)+12*0)),.x (tv s0),.c (tv s2),.m 3,.u 3] [(6,RG.z 12)] [(3,7,tw s2)] [l,wn n,ws x++(ws y),tw s2] [0,6] ⟨st,st,st,eW rfl 212 21 (iZ 0) rfl (.p 0 (off+0)) sx (λμ w=>Ha _ _ 0 dC w),pW rfl 0 ((off+0)+12*0) _ rfl rfl kR 211 22 rfl (tw s0) rfl sx u iQ i117,cl h6,mk 3 211,RG.pt i117,yEU⟩ ?_;intro j4 a4 w4 M4;repeat refine Xy ?_
 refine M4.U [.x (iZ 1)] [0,6,7] ⟨st,yEU⟩ ?_;intro a5 w5 T;have h2:a5.tmps[0]? = some (oZ k off):=T.at (s:=(.p 0 off));have h3:a5.tmps[6]? = some (jZ j4):=T.at (s:=(.p 3 0));have h0:a5.tmps[7]? = some (iZ 1):=T.at (s:=(.v (iZ 1)));subst p;subst e;subst d;clear W B u U E M o;repeat refine Xy ?_
 refine Y6 ?_;refine yBN (λm a wr=>∃(i:Nat) (C:List Xu),1<=i/\i<=8/\i+m=8/\Fi x y (fN n) C0 off i C/\Sl a 43/\a.tmps[0]? = some (oZ k off)/\a.tmps[6]? = some (jZ j4)/\a.tmps[7]? = some (iZ i)/\RG.St w w.heap.size [k] [C,wn n,ws x++ws y,tw (twJ (raJ x y))] [k,S,L,j4] wr) 7 ⟨1,l,oM,oM,oM,F2,T.sl,h2,h3,h0,T.st⟩ ?_;intro m a wr;rintro⟨i,f,hq,hp,hm,O,sl,g0,g6,g7,R⟩;generalize S=k1 at g6 R;generalize L=k2 at g6 R;generalize j4=k3 at g6 R;obtain⟨D,p⟩:∃D,fN n=D:=⟨_,rfl⟩
 rw[p]at O;obtain⟨s0,e⟩:∃s,raJ x y=s:=⟨_,rfl⟩
 obtain⟨s2,d⟩:∃s,twJ (raJ x y)=s:=⟨_,rfl⟩
 rw[d]at R;obtain⟨K,H⟩:∃s,od x y (i-1)=s:=⟨_,rfl⟩
 obtain⟨s3,J⟩:∃s,plJ K s2=s:=⟨_,rfl⟩
 have h8:Gives 114 #[tv K,tv s2] (tv s3):=J ▸ PD F K s2;have hg:=O.len;by_cases hi:i<8
 ·have hc:od x y i=s3:=by
   obtain⟨q,rfl⟩:∃q,i=q+1:=⟨i-1,oM⟩
   rw[<-J,<-H,<-d];rfl
  have N:(f.drop (off+0+12*(i-1))).take (tw K).length=tw K:=by
   have:=O.sub g (q:=i-1) oM oM;rw[H]at this;exact this
  obtain⟨l,b⟩:∃c,rep f (off+0+12*i) (tw s3)=c:=⟨_,rfl⟩
  have o:off+0+12*i+(tw s3).length<=f.length:=by rw[cJ];omega
  have B:=b ▸ RG.rep_at o;have E:l.length=f.length:=b ▸ cY o;have h7:Fi x y D C0 off (i+1) l:=by
   have:=O.next g hi;rw[hc]at this;rw[<-b];exact this
  have he:∀w,(binOp .sub 3 (iZ i) (iZ 1)).run prog w=.ok (iZ ((i-1:Nat):Int)) w:=λw=>by
   rw[DV _ _ oM oM,show(i:Int)-1=((i-1:Nat):Int) by omega]
  clear e b;have Z:RG.M w w.heap.size [k] 43 [f,wn n,ws x++(ws y),tw s2] [k,k1,k2,k3] [(0,.p 0 off),(6,.p 3 0),(7,.v (iZ i))] a _:=⟨R,sl,⟨g0,g6,g7,yEU⟩⟩
  repeat refine Xy ?_
  refine Z.U [.x (iZ i),.x (.bool true)] [0,6,7,26] ⟨st,aN rfl .lss 3 3 25 (iZ i) (iZ 8) (.bool true) rfl rfl sx (λw=>kR) (gW (n:=8) hi),yEU⟩ ?_;intro A w1 j;repeat refine Xy ?_
  refine Yx j.ev ?_;refine YR ?_;refine Xy ?_;refine Y6 ?_;repeat refine Xy ?_
  refine j.dr kR [.s 29 [] (.p 0 off),.x 30 [] (iZ i),.s 31 [] (.p 0 off),.x 32 [] (iZ i),.x 33 [(32,3)] (iZ ((i-1:Nat):Int)),.s 34 [(31,2)] (.p 0 off),.s 35 [(34,5)] (.p 0 (off+0)),.s 36 [(35,6),(33,4)] (.p 0 ((off+0)+12*(i-1))),.x 37 [(36,7)] (tv K),.x 38 [] (tv s2),.c 39 [(37,8),(38,9)] (tv s3),.s 40 [(29,0)] (.p 0 off),.s 41 [(40,11)] (.p 0 (off+0)),.s 42 [(41,12),(30,1)] (.p 0 ((off+0)+12*i)),.u [(42,13),(39,10)] 0] [] [(0,14,l)] [l,wn n,ws x++(ws y),tw s2] [(0,.p 0 off),(6,.p 3 0),(7,.v (iZ i))] kR (congrArg (λn=>[n]) E) ⟨st,st,st,st,aN rfl .sub 3 3 32 (iZ i) (iZ 1) (iZ ((i-1:Nat):Int)) rfl rfl sx (λw=>kR) he,st,st,aY rfl 212 35 33 rfl (.p 0 (off+0)) (iZ ((i-1:Nat):Int)) sx sx (λμ w=>Ha _ _ (i-1) oM w),pW rfl 0 ((off+0)+12*(i-1)) _ rfl rfl kR 211 36 rfl (tw K) rfl sx N iQ i117,ld iQ i117,cl h8,st,st,aY rfl 212 41 30 rfl (.p 0 (off+0)) (iZ i) sx sx (λμ w=>Ha _ _ i oM w),fO 0 ((off+0)+12*i) rfl _ rfl 211 (.tmp 42) (.tmp 39) (tw s3) rfl rfl sx sx (by show off+0+12*i+(tw s3).length<=f.length;rw[cJ];omega) B i117 (Ji _),yEU⟩ ?_;intro a2 w2 G;repeat refine Xy ?_
  refine G.U [.x (iZ i),.x (iZ ((i+1:Nat):Int)),.x (iZ ((i+1:Nat):Int))] [0,6,7] ⟨st,aN rfl .add 3 3 27 (iZ i) (iZ 1) (iZ ((i+1:Nat):Int)) rfl rfl sx (λw=>kR) (vZ i 1 oM oM),st,yEU⟩ ?_;intro Q w3 z;have t:Q.tmps[0]? = some (oZ k off):=z.at (s:=(.p 0 off));have Y:Q.tmps[6]? = some (jZ k3):=z.at (s:=(.p 3 0));have h5:Q.tmps[7]? = some (iZ ((i+1:Nat):Int)):=z.at (s:=(.v (iZ ((i+1:Nat):Int))));show ∃n',_;exact⟨m-1,oM,i+1,l,oM,oM,oM,p.symm ▸ h7,z.sl,t,Y,h5,by rw[d];exact z.st⟩
 ·have N:i=8:=oM;obtain⟨l,-⟩:∃c:List Xu,c=f:=⟨_,rfl⟩
  have Z:RG.M w w.heap.size [k] 43 [f,wn n,ws x++(ws y),tw s2] [k,k1,k2,k3] [(0,.p 0 off),(6,.p 3 0),(7,.v (iZ i))] a _:=⟨R,sl,⟨g0,g6,g7,yEU⟩⟩
  repeat refine Xy ?_
  refine Z.U [.x (iZ i),.x (.bool false)] [0,6,7,26] ⟨st,aN rfl .lss 3 3 25 (iZ i) (iZ 8) (.bool false) rfl rfl sx (λw=>kR) (oC (n:=8) hi),yEU⟩ ?_;intro A w1 j;repeat refine Xy ?_
  refine X7 j.ev ?_;refine wp_exit ?_;dsimp only[Exit.then,yA4];rw[yES rfl];have I:A.tmps[0]? = some (oZ k off):=j.at (s:=(.p 0 off));have Y:A.tmps[6]? = some (jZ k3):=j.at (s:=(.p 3 0));have hj:A.tmps[7]? = some (iZ i):=j.at (s:=(.v (iZ i)));exact⟨j.sl.defers,.tuple #[],RG.results_none rfl,_,rfl,⟨f,p.symm ▸ N ▸ O,j.st.putTo O.len⟩,rfl⟩
end
end Go.Proofs.YtlofhpkoaljmeaaGreat
