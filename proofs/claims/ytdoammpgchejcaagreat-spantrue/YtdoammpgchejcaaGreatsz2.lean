import Derived.Deep.RegionHeld3
import Derived.Deep.LoopGhost
import Derived.Laws.BitsLemmas
import Derived.OrdersHeld
import Derived.Deep.RegionHeld
import Derived.Deep.CutRange
import Derived.Deep.DeepCutAuto
import Derived.Laws.Tables
import Derived.LoopN
import Derived.Deep.RegionWith
import Derived.Deep.Draws
import Derived.Deep.OwnRows
import Derived.Lib.LazyBuf
import Derived.Lib.ConvBytes
import Derived.Test.YtdoammpgchejcaaGreatsz1
set_option linter.unusedVariables false
set_option linter.constructorNameAsVariable false
set_option linter.unusedSimpArgs false
set_option maxRecDepth 1000000
set_option maxHeartbeats 4000000
namespace Go.Proofs.YtdoammpgchejcaaGreat
open EC RG
open _root_.Array renaming getElem?_replicate->Yg,getElem_replicate->Ww,getElem_toList->XE,replicate->UJ,size_append->VN,size_replicate->UP
open _root_.Bool renaming noConfusion->Yx
open _root_.Fin renaming ext_iff->yB2
open _root_.Go renaming Calls->UH,FuncId->Xq,Oper->Vk,Program->VD,TypeId->U8,Value->Ut,World->Ur,bodyPost_ret->UE,getD_set_ne->XQ,rounds_succ->Xc,sizeOf->yAa,undef->WP,wp_block->XH,wp_cond_false->VI,wp_cond_true->VE,wp_loop_ghost->Ze,wp_ret->Wp,wp_seq->Uz,wp_skip->WS
open _root_.Go.Act renaming put->UN
open _root_.Go.Addr renaming add->Zi
open _root_.Go.Builtin renaming copy_->XZ
open _root_.Go.Exit renaming inBlock->Yu
open _root_.Go.Instr renaming index->ZL,indexAt->Vl
open _root_.Go.IntKind renaming i64->VS,u64->Vo,u8->Xy,wrap_i64->Yj,wrap_u64->XU
open _root_.Go.IntWalk renaming i64_in->Ws,i8_in->ZV
open _root_.Go.Op renaming equalIn->yCa
open _root_.Go.Region renaming binds->VP,free->YL,noSelect->XL,ready->U7
open _root_.Go.Result renaming andThen_ok->Vm
open _root_.Go.RowKit.Below renaming heap_setCell->Zr
open _root_.Go.Value renaming agg->U3,int->VZ
open _root_.Go.World renaming alloc->Xt,cell?->VY,cell?_alloc_new->Vd,cell?_of_block->UW,cell?_setCell_other->UU,cell?_setCell_same->VV,frozen?_alloc_new->Wv,frozen?_setCell->VM,setCell->Yb,size_alloc->UB
open _root_.Int renaming add_mul->yBZ,add_zero->ZR,mul_assoc->yAd,mul_comm->ZF,natCast_ediv->Zb,natCast_emod->yBe,natCast_mul->Xw,natCast_pow->Z9,natCast_zero->WH,pow_succ->yBN,tdiv_eq_ediv_of_nonneg->X7,zero_mul->ZE
open _root_.List renaming ext_getElem?->YX,foldl_cons->yBd,getElem?_eq_none->Wx,getElem_map->Xd,length_map->UQ,not_mem_nil->UY,replicate->VB,setIfInBounds_toArray->Us,set_cons_succ->Uu,set_cons_zero->Uv
open _root_.Nat renaming add_assoc->WR,add_mod_right->yAY,add_zero->XB,div_add_mod->Z8,div_div_eq_div_mul->XN,div_eq_of_lt->Xe,div_le_self->yBp,div_one->yBX,le_of_lt->XK,le_refl->Uw,le_succ->Zl,lt_of_le_of_lt->yAM,lt_of_lt_of_le->Ux,lt_succ_self->YG,mod_eq_of_lt->US,mod_lt->V5,mod_one->yAW,mul_assoc->X1,mul_comm->Vv,mul_le_mul_right->Xs,mul_mod->Xz,mul_zero->ZP,ne_of_gt->V8,ne_of_lt->Xk,or_comm->yBU,pow_add->Yp,pow_le_pow_right->VA,pow_pos->XI,pow_succ->V7,pow_zero->YN,sub_self->YU,sub_zero->YT,two_pow_add_eq_or_of_lt->YF,zero_add->UD
open _root_.Ne renaming symm->YB
open _root_.Or renaming inl->U4,inr->UX
open _root_.UInt8 renaming ofNat->UM
open Go.Proofs.Tryz
open Go.RowKit Go.Sort Go.Deep
section
variable {P:Nat}[NeZero P]{N:Nat}
theorem Cn(w:Ur)(t0 t1 t2 q:U8)(a b c d e f g h i j k l m n o p:Nat):
 Kept w w.heap.size [⟨w.heap.size,0,a,b,c,d⟩,⟨w.heap.size+1,0,e,f,g,h⟩,⟨w.heap.size+1+1,0,i,j,k,l⟩,⟨w.heap.size+1+1+1,0,m,n,o,p⟩]
  ((((w.alloc (.cells #[uZ a,uZ b,uZ c,uZ d] t0)).alloc (.cells #[uZ e,uZ f,uZ g,uZ h] t1)).alloc (.cells #[uZ i,uZ j,uZ k,uZ l] t2)).alloc (.cells #[uZ m,uZ n,uZ o,uZ p] q)):=by
 refine((((Kept.mk1 (Ee w _ _ _ _) (Ee w _ _ _ _).size).cons ?_).cons ?_).cons ?_).cons ?_
 ·exact(At4.made _ q m n o p (by simp)).blk
 ·exact((At4.made _ t2 i j k l (by simp)).alloc _).blk
 ·exact(((At4.made _ t1 e f g h (by simp)).alloc _).alloc _).blk
 ·exact((((At4.made _ t0 a b c d rfl).alloc _).alloc _).alloc _).blk
theorem Mg{b c k P m n s l:Nat}(hG:Gap b c k P)(d:s+top*0=m+n)(e:l+top*0=s+val b c k 0)(f:l<top):(m+n)%P=s:=by
 have:=hG.hP;rw[<-d,ZP,XB,US oM]
theorem Mh{f g e P m n s l k j:Nat}(hG:Gap f g e P)(x:m<P)(w:n<P)(p:s+top*k=m+n)(o:l+top*j=s+val f g e 0)(u:k<=1)(t:j<=1)(i:¬(k=0/\j=0))(v:s<top)(_:l<top):(m+n)%P=l:=by
 have q:=hG.hP;have r:=hG.hP2;have d:k=0\/k=1:=oM;have c:j=0\/j=1:=oM;have:m+n=l+P:=by
  rcases d with h|h<;>rcases c with b|b<;>rw[h]at p<;>rw[b]at o<;>first|omega|(exfalso;exact i ⟨h,b⟩)
 rw[this,yAY,US oM]
theorem or2(a b:Nat)(d:a<=1)(e:b<=1):∃o:Nat,bits .or .u64 (a:Int) (b:Int)=(o:Int)/\(o=0↔(a=0/\b=0)):=by
 have c:a=0\/a=1:=oM;have k:b=0\/b=1:=oM;rcases c with rfl|rfl<;>rcases k with rfl|rfl
 ·exact⟨0,dK,dC⟩
 ·exact⟨1,dK,dC⟩
 ·exact⟨1,dK,dC⟩
 ·exact⟨1,dK,dC⟩
theorem I5{P m n s:Nat}(b:m<P)(k:n<P)(c:s+n=m+top*0):(m+P-n)%P=s:=by
 rw[show m+P-n=s+P by omega,yAY,US oM]
theorem I6{d e c P m n s l j:Nat}(hG:Gap d e c P)(_:m<P)(p:n<P)(r:s+n=m+top*1)(f:l+val d e c 0=s+top*j)(i:j<=1)(q:l<top)(o:s<top):(m+P-n)%P=l:=by
 have g:=hG.hP;have k:j=0\/j=1:=oM;have:m+P-n=l:=by
  rcases k with b|b<;>rw[b]at f<;>omega
 rw[this,US oM]
theorem sum_any(Q K L P:Nat)(x y:Ut)(m n:Nat)(hG:Gap Q K L P)(hx:Four x m)(R:Four y n)(hm:m<P)(Y:n<P)(w:Ur):
 UH prog 215 #[.agg #[uZ Q,uZ K,uZ L,uZ 0],x,y] w (rZ w λe w'=>Four e ((m+n)%P)):=by
 obtain⟨a,b,c,d,rfl,ha,hb,hc,hd,em⟩:=id hx;obtain⟨p,q,r,s,rfl,hp,hq,hr,hs,en⟩:=id R;clear em en ha hb hc hd hp hq hr hs;go_enter func215,ntmps215;go_wp2_with fail
 have i:=Cn w 120 118 118 118 Q K L 0 a b c d p q r s 0 0 0 0;simp only[WH]at i;generalize Xt _ _=W0 at i⊢;generalize h3:w.heap.size+1+1+1=k3 at i⊢;generalize h2:w.heap.size+1+1=k2 at i⊢;generalize h1:w.heap.size+1=k1 at i⊢;have U:Hid (w.heap.size<=k3):=by unfold Hid;omega
 generalize h0:w.heap.size=k0 at i U⊢;have H0:Hid (w.heap.size=k0):=h0;have W:k0≠k3:=oM;clear h0 h1 h2 h3;refine(qV _ _ _ _ hx R _).mono ?_;rintro e w1 ⟨v,rfl,S,v2,t,k,rfl,⟨I,b1,c1,G,rfl,z,g,B,E,J⟩,X,O⟩;have HE:Hid (val I b1 c1 G+top*k=m+n):=by unfold Hid;rw[<-J];exact O
 clear J O;replace i:=i.call S;have f:=(i.alloc (.cells #[uZ I,uZ b1,uZ c1,uZ G] 118)).cons (At4.made w1 118 I b1 c1 G rfl).blk;have m0:=Xk i.head.lt;have m3:=Xk i.tail.tail.tail.head.lt;obtain⟨hi,h9,h7,hl,pf⟩:=f.tail.head.at4;have z0:=f.tail.head.lt;go_wp2_with fail
 refine(qV _ _ _ _ (Four.mk z g B E rfl) (Four.mk hG.h0 hG.h1 hG.h2 dC rfl) _).mono ?_;rintro e w2 ⟨v,rfl,T,v3,t2,j,rfl,⟨a2,N,c2,M,rfl,C,l,F,A,J⟩,hj,O⟩;have H:Hid (val a2 N c2 M+top*j=val I b1 c1 G+val Q K L 0):=by unfold Hid;rw[<-J];exact O
 replace f:=f.call T;have HG:=mk1 (hG);have Z:=mk2 hm Y;clear hG hm Y hx R m0 W;generalize w1.heap.size=k4 at f m3⊢;obtain⟨h6,h5,hu,hw,sf⟩:=f.head.at4;obtain⟨h8,k5,ht,hg,rf⟩:=f.tail.tail.tail.tail.head.at4;have z4:=f.head.lt;have z3:=f.tail.tail.tail.tail.head.lt;obtain⟨o,ho,D⟩:=or2 k j X hj;by_cases V:k=0/\j=0
 ·obtain⟨rfl,rfl⟩:=V;obtain rfl:o=0:=D.2 ⟨rfl,rfl⟩;clear D;replace ho:bits .or .u64 0 0=0:=ho;go_wp2;have u:=(f.tail.tail.tail.tail.head.at4.self4 I b1 c1 G).alloc (.cells #[uZ a2,uZ N,uZ c2,uZ M] 118);unfold set4 at u;refine UE (v:=?v0) ?hr0 rfl ?hR0
  case hr0=>simp[results,Tryz.results215,go_sem,u.c0,u.c1,u.c2,u.c3];rfl
  refine⟨_,rfl,?_,Four.mk z g B E (Mg HG.out HE.out H.out (mO C l F A))⟩;rw[H0.out];exact(aL f.bl U.out _ _ _ _).alloc (by simpa[set4]using f.le) _
 ·have h4:¬o=0:=λh=>V (D.1 h)
  go_wp2;have u:=(f.tail.tail.tail.tail.head.at4.self4 a2 N c2 M).alloc (.cells #[uZ a2,uZ N,uZ c2,uZ M] 118);unfold set4 at u;refine UE (v:=?v1) ?hr1 rfl ?hR1
  case hr1=>simp[results,Tryz.results215,go_sem,u.c0,u.c1,u.c2,u.c3];rfl
  refine⟨_,rfl,?_,Four.mk C l F A (Mh HG.out Z.1 Z.2 HE.out H.out X hj V (mO z g B E) (mO C l F A))⟩;rw[H0.out];exact(aL f.bl U.out _ _ _ _).alloc (by simpa[set4]using f.le) _
theorem nN(O L M P:Nat)(x y:Ut)(m n:Nat)(hG:Gap O L M P)(hx:Four x m)(Z:Four y n)(hm:m<P)(hn:n<P)(w:Ur):
 UH prog 221 #[.agg #[uZ O,uZ L,uZ M,uZ 0],x,y] w (rZ w λe w'=>Four e ((m+P-n)%P)):=by
 obtain⟨a,b,c,d,rfl,ha,hb,hc,hd,em⟩:=id hx;obtain⟨p,q,r,s,rfl,hp,hq,hr,hs,en⟩:=id Z;clear em en ha hb hc hd hp hq hr hs;go_enter func221,ntmps221;go_wp2_with fail
 have g:=Cn w 120 118 118 118 O L M 0 a b c d p q r s 0 0 0 0;simp only[WH]at g;generalize Xt _ _=W0 at g⊢;generalize h3:w.heap.size+1+1+1=k3 at g⊢;generalize h2:w.heap.size+1+1=k2 at g⊢;generalize h1:w.heap.size+1=k1 at g⊢;have V:Hid (w.heap.size<=k3):=by unfold Hid;omega
 generalize h0:w.heap.size=k0 at g V⊢;have H0:=mk1 (h0);refine(sL _ _ _ _ hx Z _).mono ?_;rintro e w1 ⟨v,rfl,T,v2,t,k,rfl,⟨C,b1,c1,B,rfl,u,i,z,A,Q⟩,hk,Y⟩;have HE:Hid (val C b1 c1 B+n=m+top*k):=by unfold Hid;rw[<-Q];exact Y
 replace g:=g.call T;have f:=(g.alloc (.cells #[uZ C,uZ b1,uZ c1,uZ B] 118)).cons (At4.made w1 118 C b1 c1 B rfl).blk;have m0:=Xk g.head.lt;have m3:=Xk g.tail.tail.tail.head.lt;have N:=mk1 (hG);have K:=mk2 hm hn;have Q4:=mk1 (g.le);have X:k=0\/k=1:=oM;obtain⟨E,J,H,G,rf⟩:=g.tail.tail.tail.head.at4;have z3:=g.tail.tail.tail.head.lt;rcases X with rfl|rfl
 ·clear f;go_wp2;have l:=(g.tail.tail.tail.head.at4.self4 C b1 c1 B).alloc (.cells #[uZ C,uZ b1,uZ c1,uZ B] 118);unfold set4 at l;refine UE (v:=?v0) ?hr0 rfl ?hR0
  case hr0=>simp[results,Tryz.results221,go_sem,l.c0,l.c1,l.c2,l.c3];rfl
  refine⟨_,rfl,?_,Four.mk u i z A (I5 K.1 K.2 HE.out)⟩;rw[H0.out];exact(aL g.bl V.out _ _ _ _).alloc (by simpa[set4]using g.le) _
 ·clear g E J H G rf z3;obtain⟨h8,h7,h6,h9,pf⟩:=f.tail.head.at4;have z0:=f.tail.head.lt;go_wp2_with fail
  refine(sL _ _ _ _ (Four.mk u i z A rfl) (Four.mk N.h0 N.h1 N.h2 dC rfl) _).mono ?_;rintro e w2 ⟨v,rfl,U,v3,t2,j,rfl,⟨a2,S,c2,R,rfl,F,o,I,D,Q⟩,hj,Y⟩;have W:Hid (val a2 S c2 R+val O L M 0=val C b1 c1 B+top*j):=by unfold Hid;rw[<-Q];exact Y
  replace f:=f.call U;obtain⟨h5,h4,hg,hi,sf⟩:=f.head.at4;obtain⟨E,J,H,G,rf⟩:=f.tail.tail.tail.tail.head.at4;have z4:=f.head.lt;have z3:=f.tail.tail.tail.tail.head.lt;go_wp2;have l:=(f.tail.tail.tail.tail.head.at4.other4 m3.symm (uZ a2) (uZ S) (uZ c2) (uZ R)).self4 a2 S c2 R;unfold set4 at l;refine UE (v:=?v1) ?hr1 rfl ?hR1
  case hr1=>simp[results,Tryz.results221,go_sem,l.c0,l.c1,l.c2,l.c3];rfl
  refine⟨_,rfl,?_,Four.mk F o I D (I6 N.out K.1 K.2 HE.out W.out hj (mO F o I D) (mO u i z A))⟩;rw[H0.out];exact aL (aL f.bl Q4.out _ _ _ _) V.out _ _ _ _
theorem Iz{a b c d n m f s0 t0 u0 e i k g:Nat}(j:m=val a b c d)
 (p:f+18446744073709551616*e=a*n+val 0 0 0 0)
 (o:s0+18446744073709551616*i=b*n+e)
 (l:t0+18446744073709551616*k=c*n+i)
 (e3:u0+18446744073709551616*g=d*n+k) :
 val f s0 t0 u0+top*g=m*n:=by
 have l:val a b c d*n=val (a*n) (b*n) (c*n) (d*n):=by
  rw[Vv,EU,Vv n a,Vv n b,Vv n c,Vv n d]
 rw[j,l];unfold val at *;unfold top;omega
theorem dN(g0 g1 g2 P:Nat)(x y:Ut)(m n:Nat)(hG:Gap g0 g1 g2 P)(hx:Four x m)(H:Four y n)(w:Ur):
 UH prog 213 #[.agg #[uZ g0,uZ g1,uZ g2,uZ 0],x,y] w (rZ w λe w'=>Four e (m*n%P)):=by
 obtain⟨a,b,c,d,rfl,ha,hb,hc,hd,em⟩:=hx;obtain⟨p,q,r,s,rfl,hp,hq,hr,hs,en⟩:=id H;have HM:Hid (m=val a b c d):=em;clear em en;go_enter func213,ntmps213;go_wp2_with fail
 have D:=Cn w 120 118 118 118 g0 g1 g2 0 a b c d p q r s 0 0 0 0;simp only[WH]at D;have PR:=D.head.at4;have X:=D.tail.head.at4;have Y:=D.tail.tail.head.at4;have f:=D.tail.tail.tail.head.at4;have BL:Hid (Below w.heap.size w _):=D.bl;clear D;generalize Xt _ _=w1 at X Y PR f BL⊢;generalize h3:w.heap.size+1+1+1=k3 at f⊢;generalize h2:w.heap.size+1+1=k4 at Y⊢;generalize h1:w.heap.size+1=k1 at X⊢;have Q3:Hid (w.heap.size<=k3):=by unfold Hid;omega
 generalize h0:w.heap.size=A at PR BL Q3⊢;have kf:A≠k3:=oM;have kd:k1≠k3:=oM;have H0:Hid (w.heap.size=A):=h0;clear h0 h1 h2 h3;refine(jX a _ _ _ _ ha H (Four.mk (a:=0) (b:=0) (c:=0) (d:=0) dC dC dC dC rfl) _).mono ?_;rintro e w2 ⟨v,rfl,i,l0,v2,t0,rfl,k2,⟨a0,b0,c0,d0,rfl,k6,hm,h5,h8,u⟩,z⟩;have hi:Hid (l0+18446744073709551616*val a0 b0 c0 d0=a*n+val 0 0 0 0):=by unfold Hid;rw[<-u];exact z
 clear z u;replace BL:Hid (Below A w w2):=yP BL PR i;replace X:=X.call i;replace Y:=Y.call i;replace f:=f.call i;replace PR:=PR.call i;obtain⟨R,K,Q,N,xf⟩:=id X;have z1:=X.lt;obtain⟨I,V,L,M,yf⟩:=id Y;have z4:=Y.lt;obtain⟨j,t,o,l,rf⟩:=id f;have z3:=f.lt;obtain⟨E,C,B,F,pf⟩:=id PR;have z0:=PR.lt;go_wp2_with fail
 refine(jX b _ _ _ _ hb H (Four.mk k6 hm h5 h8 rfl) _).mono ?_;rintro e w3 ⟨v,rfl,g,l1,v3,t1,rfl,hn,⟨a1,b1,c1,d1,rfl,h4,hk,h9,hw,u⟩,z⟩;have hg:Hid (l1+18446744073709551616*val a1 b1 c1 d1=b*n+val a0 b0 c0 d0):=by unfold Hid;rw[<-u];exact z
 have G:=Xk PR.lt;have j1:=Xk X.lt;have j3:=Xk f.lt;have j4:=Xk Y.lt;have J0:=mk1 (XK PR.lt);have T:=(At4.made w2 118 a0 b0 c0 d0 rfl).call g;replace BL:Hid (Below A w w3):=yP (W:=w2.alloc (.cells #[uZ a0,uZ b0,uZ c0,uZ d0] 118)) (BL.alloc (XK PR.lt) _) (PR.alloc _) g;replace X:=(X.alloc _).call g;replace Y:=(Y.alloc _).call g;replace f:=(f.alloc _).call g;replace PR:=(PR.alloc _).call g;obtain⟨R,K,Q,N,xf⟩:=id X;have z1:=X.lt;obtain⟨I,V,L,M,yf⟩:=id Y;have z4:=Y.lt;obtain⟨j,t,o,l,rf⟩:=id f;have z3:=f.lt;obtain⟨E,C,B,F,pf⟩:=id PR;have z0:=PR.lt;obtain⟨O,J,S,U,tf⟩:=id T;have z5:=T.lt;go_wp2_with fail
 refine(jX c _ _ _ _ hc H (Four.mk h4 hk h9 hw rfl) _).mono ?_;rintro e w4 ⟨v,rfl,k,l2,v4,t4,rfl,k8,⟨a2,b2,c2,d2,rfl,hj,i,k7,h6,u⟩,z⟩;have hu:Hid (l2+18446744073709551616*val a2 b2 c2 d2=c*n+val a1 b1 c1 d1):=by unfold Hid;rw[<-u];exact z
 replace BL:Hid (Below A w w4):=yP (aL BL.out J0.out _ _ _ _) (PR.other4 G.symm _ _ _ _) k;replace X:=(X.other4 j1.symm _ _ _ _).call k;replace Y:=(Y.other4 j4.symm _ _ _ _).call k;replace f:=(f.other4 j3.symm _ _ _ _).call k;replace PR:=(PR.other4 G.symm _ _ _ _).call k;replace T:=(T.self4 a1 b1 c1 d1).call k;obtain⟨R,K,Q,N,xf⟩:=id X;have z1:=X.lt;obtain⟨I,V,L,M,yf⟩:=id Y;have z4:=Y.lt;obtain⟨j,t,o,l,rf⟩:=id f;have z3:=f.lt;obtain⟨E,C,B,F,pf⟩:=id PR;have z0:=PR.lt;obtain⟨O,J,S,U,tf⟩:=id T;have z5:=T.lt;go_wp2_with fail
 refine(jX d _ _ _ _ hd H (Four.mk hj i k7 h6 rfl) _).mono ?_;rintro e w5 ⟨v,rfl,k,l3,v4,t4,rfl,h7,⟨a3,b3,c3,d3,rfl,k5,g,hl,hz,u⟩,z⟩;have ht:Hid (l3+18446744073709551616*val a3 b3 c3 d3=d*n+val a2 b2 c2 d2):=by unfold Hid;rw[<-u];exact z
 replace BL:Hid (Below A w w5):=yP (aL BL.out J0.out _ _ _ _) (PR.other4 G.symm _ _ _ _) k;replace X:=(X.other4 j1.symm _ _ _ _).call k;replace Y:=(Y.other4 j4.symm _ _ _ _).call k;replace f:=(f.other4 j3.symm _ _ _ _).call k;replace PR:=(PR.other4 G.symm _ _ _ _).call k;replace T:=(T.self4 a2 b2 c2 d2).call k;obtain⟨j,t,o,l,rf⟩:=id f;have z3:=f.lt;obtain⟨E,C,B,F,pf⟩:=id PR;have z0:=PR.lt;obtain⟨O,J,S,U,tf⟩:=id T;have z5:=T.lt;go_wp2_with fail
 refine(xU g0 g1 g2 _ _ _ _ P hG.h0 hG.h1 hG.h2 hG.hor hG.hP hG.hP2 (Four.mk k2 hn k8 h7 rfl) (Four.mk k5 g hl hz rfl) _).mono ?_;rintro e w6 ⟨v,rfl,k,hv⟩;rw[Iz HM.out hi.out hg.out hu.out ht.out]at hv;replace BL:Hid (Below A w w6):=yP (aL BL.out J0.out _ _ _ _) (PR.other4 G.symm _ _ _ _) k;replace f:=(f.other4 j3.symm _ _ _ _).call k;replace PR:=(PR.other4 G.symm _ _ _ _).call k;obtain⟨a7,b7,c7,d7,rfl,kb,ke,kc,k9,ka⟩:=id hv;have HV:=mk1 (hv);obtain⟨j,t,o,l,rf⟩:=id f;have z3:=f.lt;go_wp2;have Z:=f.self4 a7 b7 c7 d7;unfold set4 at Z;refine UE (v:=?v) ?hr rfl ?hR
 case hr=>simp[results,Tryz.results213,go_sem,Z.c0,Z.c1,Z.c2,Z.c3];rfl
 refine⟨_,rfl,?_,HV.out⟩;rw[H0.out];exact aL BL.out Q3.out _ _ _ _
theorem Ax{w W:Ur}{k e f a b c d p q r s g j i:Nat}(h:Kept w k [⟨k,0,g,j,i,0⟩,⟨e,0,a,b,c,d⟩,⟨f,0,p,q,r,s⟩] W):W.cell? ⟨k,0,none⟩=some (uZ g)/\W.cell? ⟨k,1,none⟩=some (uZ j)/\W.cell? ⟨k,2,none⟩=some (uZ i)/\W.cell? ⟨k,3,none⟩=some (uZ 0)/\W.cell? ⟨e,0,none⟩=some (uZ a)/\W.cell? ⟨e,1,none⟩=some (uZ b)/\W.cell? ⟨e,2,none⟩=some (uZ c)/\W.cell? ⟨e,3,none⟩=some (uZ d)/\W.cell? ⟨f,0,none⟩=some (uZ p)/\W.cell? ⟨f,1,none⟩=some (uZ q)/\W.cell? ⟨f,2,none⟩=some (uZ r)/\W.cell? ⟨f,3,none⟩=some (uZ s)/\Kept w k [⟨k,0,g,j,i,0⟩,⟨e,0,a,b,c,d⟩,⟨f,0,p,q,r,s⟩] W:=
 ⟨h.head.c0,h.head.c1,h.head.c2,h.head.c3,h.tail.head.c0,h.tail.head.c1,h.tail.head.c2,h.tail.head.c3,h.tail.tail.head.c0,h.tail.tail.head.c1,h.tail.tail.head.c2,h.tail.tail.head.c3,h⟩
theorem rS(o t l:Nat)(x y:Ut)(m n R:Nat)(hx:Four x m)(N:Four y n)(w:Ur):((∀w,UH prog 215 #[.agg #[.int .u64 o,.int .u64 t,.int .u64 l,.int .u64 0],x,y] w (Ret λe w'=>Below w.heap.size w w'/\Four e R))->UH prog 155 #[.agg #[.int .u64 o,.int .u64 t,.int .u64 l,.int .u64 0],x,y] w (Ret λe w'=>Below w.heap.size w w'/\Four e R))/\((∀w,UH prog 221 #[.agg #[.int .u64 o,.int .u64 t,.int .u64 l,.int .u64 0],x,y] w (Ret λe w'=>Below w.heap.size w w'/\Four e R))->UH prog 198 #[.agg #[.int .u64 o,.int .u64 t,.int .u64 l,.int .u64 0],x,y] w (Ret λe w'=>Below w.heap.size w w'/\Four e R))/\((∀w,UH prog 213 #[.agg #[.int .u64 o,.int .u64 t,.int .u64 l,.int .u64 0],x,y] w (Ret λe w'=>Below w.heap.size w w'/\Four e R))->UH prog 154 #[.agg #[.int .u64 o,.int .u64 t,.int .u64 l,.int .u64 0],x,y] w (Ret λe w'=>Below w.heap.size w w'/\Four e R)):=by
 obtain⟨a,b,c,d,rfl,Y,hb,W,hd,Z⟩:=id hx;obtain⟨p,q,r,s,rfl,hp,hq,hr,hs,en⟩:=id N;have X:=mk1 (hx);have HY:=mk1 (N);refine⟨λJ=>?_,λJ=>?_,λJ=>?_⟩;all_goals replace J:Hid _:=J
 all_goals clear Z en hx N Y hb W hd hp hq hr hs
 case' refine_1=>go_enter func155,ntmps155
 case' refine_2=>go_enter func198,ntmps198
 case' refine_3=>go_enter func154,ntmps154
 all_goals
  go_wp2_with fail
  have g:=Cn w 120 47 47 47 o t l 0 a b c d p q r s 0 0 0 0;simp only[WH]at g;generalize h3:w.heap.size+1+1+1=U at g⊢;generalize h2:w.heap.size+1+1=E at g⊢;generalize h1:w.heap.size+1=F at g⊢;have L:Hid (w.heap.size<=U):=by unfold Hid;omega
  generalize h0:w.heap.size=C at g L⊢;have H0:Hid (w.heap.size=C):=h0;have G:∀x∈([⟨C,0,o,t,l,0⟩,⟨F,0,a,b,c,d⟩,⟨E,0,p,q,r,s⟩]:List Blk),U≠x.k:=by simp only[List.mem_cons,UY,or_false];rintro x (rfl|rfl|rfl)<;>simp only<;>omega
  have i:=(((Kept.mk1 g.bl g.le).cons g.tail.tail.head).cons g.tail.head).cons g.head;have T3:=g.tail.tail.tail.head.at4;obtain⟨u,A,z,B,M⟩:=id T3;have K:=T3.lt;go_region_held3 (λw'=>w'.cell? ⟨C,0,none⟩=some (.int .u64 o)/\w'.cell? ⟨C,1,none⟩=some (.int .u64 t)/\w'.cell? ⟨C,2,none⟩=some (.int .u64 l)/\w'.cell? ⟨C,3,none⟩=some (.int .u64 0)/\w'.cell? ⟨F,0,none⟩=some (.int .u64 a)/\w'.cell? ⟨F,1,none⟩=some (.int .u64 b)/\w'.cell? ⟨F,2,none⟩=some (.int .u64 c)/\w'.cell? ⟨F,3,none⟩=some (.int .u64 d)/\w'.cell? ⟨E,0,none⟩=some (.int .u64 p)/\w'.cell? ⟨E,1,none⟩=some (.int .u64 q)/\w'.cell? ⟨E,2,none⟩=some (.int .u64 r)/\w'.cell? ⟨E,3,none⟩=some (.int .u64 s)/\Kept w C [⟨C,0,o,t,l,0⟩,⟨F,0,a,b,c,d⟩,⟨E,0,p,q,r,s⟩] w') (first|(with_reducible exact Ax i)|(with_reducible exact Ax i.drew)|(with_reducible exact Ax (i.set4' L.out G _ _ _ _))|(with_reducible exact Ax (i.set4' L.out G _ _ _ _).drew)|fail) (first|(go_at_call_of 127 (U3 #[VZ .u64 a,VZ .u64 b,VZ .u64 c,VZ .u64 d]);refine(jN _ _ X.out _).mono ?_;rintro e P ⟨v,rfl,k,rfl⟩;(first|(with_reducible (have f:=i.drew.call k))|(with_reducible (have f:=i.call k))|fail);(first|(with_reducible (have j:=T3.drew.call k))|(with_reducible (have j:=T3.call k))|fail);clear i T3 k;have i:=f;have T3:=j;clear f j;obtain⟨u,A,z,B,M⟩:=id T3;have K:=T3.lt)|(go_at_call_of 127 (U3 #[VZ .u64 p,VZ .u64 q,VZ .u64 r,VZ .u64 s]);refine(jN _ _ HY.out _).mono ?_;rintro e P ⟨v,rfl,k,rfl⟩;(first|(with_reducible (have f:=i.drew.call k))|(with_reducible (have f:=i.call k))|fail);(first|(with_reducible (have j:=T3.drew.call k))|(with_reducible (have j:=T3.call k))|fail);clear i T3 k;have i:=f;have T3:=j;clear f j;obtain⟨u,A,z,B,M⟩:=id T3;have K:=T3.lt)|((first|go_at_call 215|go_at_call 221|go_at_call 213);refine(J _).mono ?_;rintro e P ⟨v,rfl,k,D⟩;obtain⟨V,S,T,Q,rfl,h4,h5,h6,h7,O⟩:=id D;clear O;have H:Hid (Four _ _):=D;clear D;(first|(with_reducible (have f:=i.drew.call k))|(with_reducible (have f:=i.call k))|fail);(first|(with_reducible (have j:=T3.drew.call k))|(with_reducible (have j:=T3.call k))|fail);clear i T3 k;have i:=f;have T3:=j;clear f j;obtain⟨u,A,z,B,M⟩:=id T3;have K:=T3.lt)|(go_at_call 214;refine(jI _ _ H.out _).mono ?_;rintro e P ⟨v,rfl,k,rfl⟩;(first|(with_reducible (have f:=i.drew.call k))|(with_reducible (have f:=i.call k))|fail);(first|(with_reducible (have j:=T3.drew.call k))|(with_reducible (have j:=T3.call k))|fail);clear i T3 k;have i:=f;have T3:=j;clear f j;obtain⟨u,A,z,B,M⟩:=id T3;have K:=T3.lt))
  all_goals (try go_wp2)
  all_goals (have I:=T3.self4 V S T Q)
  all_goals unfold set4 at I
  all_goals (refine UE (v:=(.agg #[.int .u64 V,.int .u64 S,.int .u64 T,.int .u64 Q])) ?_ rfl ?_)
  all_goals first|(refine⟨_,rfl,?_,H.out⟩;rw[H0.out];exact aL i.bl L.out _ _ _ _)|(simp[results,Tryz.results155,Tryz.results198,Tryz.results154,go_sem,I.c0,I.c1,I.c2,I.c3];done)|fail
theorem CV(b c k P:Nat)(x y:Ut)(m n:Nat)(hG:Gap b c k P)(hx:Four x m)(d:Four y n)(f:m<P)(g:n<P)(w:Ur):
 UH prog 155 #[.agg #[uZ b,uZ c,uZ k,uZ 0],x,y] w (rZ w λe w'=>Four e ((m+n)%P)):=
 (rS b c k x y m n _ hx d w).1 (λw=>sum_any b c k P _ _ m n hG hx d f g w)
theorem tK(b c k P:Nat)(x y:Ut)(m n:Nat)(hG:Gap b c k P)(hx:Four x m)(d:Four y n)(f:m<P)(g:n<P)(w:Ur):
 UH prog 198 #[.agg #[uZ b,uZ c,uZ k,uZ 0],x,y] w (rZ w λe w'=>Four e ((m+P-n)%P)):=
 (rS b c k x y m n _ hx d w).2.1 (λw=>nN b c k P _ _ m n hG hx d f g w)
theorem oN(b c k P:Nat)(x y:Ut)(m n:Nat)(hG:Gap b c k P)(hx:Four x m)(d:Four y n)(w:Ur):
 UH prog 154 #[.agg #[uZ b,uZ c,uZ k,uZ 0],x,y] w (rZ w λe w'=>Four e (m*n%P)):=
 (rS b c k x y m n _ hx d w).2.2 (λw=>dN b c k P _ _ m n hG hx d w)
theorem J3(m i s:Nat):m/2^i%2^(s+1)=2*(m/2^(i+1)%2^s)+m/2^i%2:=by
 have e:m/2^(i+1)=m/2^i/2:=by rw[V7,XN]
 rw[e,V7,Vv (2^s),Nat.mod_mul];omega
theorem low_bit(y z r:Nat)(f:r<64)(k:z=y%18446744073709551616):z/2^r%2=y/2^r%2:=by
 have e:(18446744073709551616:Nat)=2^r*(2*2^(63-r)):=by
  rw[<-X1,<-V7,<-Yp,show r+1+(63-r)=64 by omega]
 have c:0<2^r:=XI dC;have d:y/2^r=2*(2^(63-r)*(y/18446744073709551616))+z/2^r:=by
  have b:y=2^r*(2*(2^(63-r)*(y/18446744073709551616)))+z:=by
   have:=Z8 y 18446744073709551616;rw[k];rw[e]at this⊢;rw[X1,X1]at this;exact this.symm
  conv=>lhs;rw[b]
  rw[Nat.mul_add_div c]
 omega
def wd(a b c d q:Nat):Nat:=if q=0 then a else if q=1 then b else if q=2 then c else d
theorem Np{a b c d:Nat}(q:Nat)(e:a<18446744073709551616)(f:b<18446744073709551616)(k:c<18446744073709551616)(hd:d<18446744073709551616):wd a b c d q<18446744073709551616:=by
 unfold wd;split;exact e;split;exact f;split;exact k;exact hd
theorem Qt{a b c d:Nat}(q:Nat)(g:q<4)(e:a<18446744073709551616)(f:b<18446744073709551616)(k:c<18446744073709551616)(hd:d<18446744073709551616):
 wd a b c d q=val a b c d/2^(64*q)%18446744073709551616:=by
 have h:q=0\/q=1\/q=2\/q=3:=oM;rcases h with rfl|rfl|rfl|rfl
 ·show a=val a b c d/1%_;unfold val;omega
 ·show b=val a b c d/18446744073709551616%_;unfold val;omega
 ·show c=val a b c d/340282366920938463463374607431768211456%_;unfold val;omega
 ·show d=val a b c d/6277101735386680763835789423207666416102355444464034512896%_;unfold val;omega
theorem Hu{a b c d:Nat}(i:Nat)(g:i<256)(e:a<18446744073709551616)(f:b<18446744073709551616)(k:c<18446744073709551616)(hd:d<18446744073709551616):
 wd a b c d (i/64)/2^(i%64)%2=val a b c d/2^i%2:=by
 rw[low_bit _ _ (i%64) oM (Qt (i/64) oM e f k hd),XN,<-Yp,show 64*(i/64)+i%64=i by omega]
theorem kF(a P k:Nat):a^k%P*(a^k%P)%P=a^(2*k)%P:=by
 rw[<-Xz,<-Yp,Nat.two_mul]
theorem B6(a P k l:Nat):a^k%P*(a^l%P)%P=a^(k+l)%P:=by
 rw[<-Xz,<-Yp]
theorem AO(a P k:Nat):a^k%P*a%P=a^(k+1)%P:=by
 rw[V7,Xz,Nat.mod_mod,<-Xz]
theorem MO(e i:Nat):e/2^i=16*(e/2^(i+4))+e/2^i%2^4:=by
 rw[Yp,<-XN];have:=Z8 (e/2^i) (2^4);omega
theorem Dq(a b c d:Nat):
 val (a/4+b*4611686018427387904%18446744073709551616) (b/4+c*4611686018427387904%18446744073709551616) (c/4+d*4611686018427387904%18446744073709551616) (d/4)=val a b c d/4:=by
 unfold val;omega
theorem At4.wd{w:Ur}{k a b c d:Nat}(h:At4 w k a b c d)(q:Nat)(f:q<4):w.cell? ⟨k,q,none⟩=some (uZ (wd a b c d q:Int)):=by
 have e:q=0\/q=1\/q=2\/q=3:=oM;rcases e with rfl|rfl|rfl|rfl
 ·exact h.c0
 ·exact h.c1
 ·exact h.c2
 ·exact h.c3
theorem Aw(n:Nat)(h:n<9223372036854775808):VS.wrap (n:Int)=(n:Int):=by rw[Yj];omega
theorem or_bit(b t:Nat)(e:b<4294967296)(c:t<2):bits .or .i64 ((2*b:Nat):Int) (t:Int)=((2*b+t:Nat):Int):=by
 rw[(bits_nat .i64 40 dC (λn k d=>by rw[Yj];omega) (2*b) t oM oM).2];have:=YF (i:=1) (b:=t) oM b;rw[show 2^1*b=2*b from rfl]at this;rw[<-this]
theorem and_one(v:Nat)(hv:v<18446744073709551616):bits .and .u64 (v:Int) 1=((v%2:Nat):Int):=by
 have:=bits_and_u64_nat v 1 hv oM;rw[show v &&& 1=v%2 from Nat.and_one_is_mod v]at this;exact this
theorem yQ{m f c g:Nat}(k:m<top)(h:g=c\/f+g=256):m/2^(f+g)%2^(c-g)=0:=by
 rcases h with rfl|h
 ·rw[YU,YN,yAW]
 ·rw[h,Xe (by exact k),Nat.zero_mod]
theorem Ak{m f g c:Nat}(b:0<g)(k:g<=c):m/2^(f+(g-1))%2^(c-(g-1))=2*(m/2^(f+g)%2^(c-g))+m/2^(f+(g-1))%2:=by
 rw[show c-(g-1)=c-g+1 by omega,J3,show f+(g-1)+1=f+g by omega]
theorem CY(x:Ut)(m f c:Nat)(hx:Four x m)(hf:f<=256)(Y:c<=32)(w:Ur):
 UH prog 220 #[x,iZ f,iZ c] w (rZ w λe w'=>e=iZ ((m/2^f%2^c:Nat):Int)):=by
 obtain⟨n,o,p,q,rfl,G,K,N,M,U⟩:=id hx;have T:=mk1 (hx);have k:=mk5 G K N M U;have Q:=mk1 (T.lt);obtain⟨R,hR⟩:∃R,m/2^f%2^c=R:=⟨_,rfl⟩
 have P:=mk1 (hR);rw[hR];by_cases V:(f:Int)+(c:Int)<=256
 ·have S:¬(256:Int)<(f:Int)+(c:Int):=oM;go_enter func220,ntmps220;go_wp2;have X:=At4.made w 47 n o p q rfl;have BL:=mk1 (aC w (.cells #[uZ n,uZ o,uZ p,uZ q] 47));generalize Xt _ _=E at X BL⊢;go_loopg [7,8] c (λgk s7 s8 wr=>gk<=c/\f+gk<=256/\s7=iZ ((m/2^(f+gk)%2^(c-gk):Nat):Int)/\s8=iZ ((f:Int)+(gk:Int)-1)/\E=wr)
  case atStart=>exact⟨oM,oM,by rw[yQ Q.out (U4 rfl)];rfl,by congr 1<;>omega,rfl⟩
  case round =>
   obtain⟨z,H,rfl,rfl,rfl⟩:=hrel;by_cases D:gk=0
   ·subst D;have L:¬(f:Int)<=(f:Int)+((0:Nat):Int)-1:=oM;rw[XB,YT,P.out];go_wp2;go_ret;exact⟨_,rfl,BL.out,rfl⟩
   ·obtain⟨i,C⟩:∃i,f+(gk-1)=i:=⟨_,rfl⟩
    have I:(f:Int)+(gk:Int)-1=(i:Int):=oM;have L:(f:Int)<=(i:Int):=oM;have r:i<256:=oM;have O:=X.wd (i/64) oM;have l:wd n o p q (i/64)<18446744073709551616:=Np _ k.1 k.2.1 k.2.2.1 k.2.2.2.1;have b:wd n o p q (i/64)/2^(i%64)%2=m/2^i%2:=by rw[k.2.2.2.2];exact Hu i r k.1 k.2.1 k.2.2.1 k.2.2.2.1
    have i2:(i:Int).tdiv 64=((i/64:Nat):Int):=by rw[X7 oM];omega
    have i3:(i:Int).tmod 64=((i%64:Nat):Int):=by rw[Int.tmod_eq_emod_of_nonneg oM];omega
    have Z:(i/64:Nat)<4:=oM;generalize wd n o p q (i/64)=v at O l b;have s:v/2^(i%64)<18446744073709551616:=yAM (yBp _ _) l;have j:bits .and .u64 ((v:Int)/2^(i%64)) 1=((m/2^i%2:Nat):Int):=by
     have:=and_one (v/2^(i%64)) s;rw[b]at this;rw[<-this,Zb,Z9];rfl
    obtain⟨t,A⟩:∃t,m/2^i%2=t:=⟨_,rfl⟩
    have u:t<2:=oM;have y:=Ak (m:=m) (f:=f) (g:=gk) (c:=c) oM z;rw[C,A]at y;have d:m/2^(f+gk)%2^(c-gk)<4294967296:=Ux (V5 _ (XI dC)) (show 2^(c-gk)<=2^32 from VA dC oM);rw[A]at j;generalize m/2^(f+gk)%2^(c-gk)=B at y d⊢;have hor:=or_bit B t d u;have J:VS.wrap ((B:Int)*2)=((2*B:Nat):Int):=by rw[show(B:Int)*2=((2*B:Nat):Int) by omega];exact Aw _ oM
    have W:VS.wrap (t:Int)=(t:Int):=Aw _ oM;have F:=mk1 (y);have a:=mk1 (C);have zx:=X.lt;rw[I];go_wp2;go_roundg (gk-1)
    case measure=>omega
    case rel =>
     refine⟨oM,oM,?_,?_,rfl⟩
     ·rw[a.out,F.out,<-hor,Xw];rfl
     ·congr 1;have:=a.out;omega
 ·have S:(256:Int)<(f:Int)+(c:Int):=oM;go_enter func220,ntmps220;go_wp2;have X:=At4.made w 47 n o p q rfl;have BL:=mk1 (aC w (.cells #[uZ n,uZ o,uZ p,uZ q] 47));generalize Xt _ _=E at X BL⊢;go_loopg [7,8] (256-f) (λgk s7 s8 wr=>gk<=c/\f+gk<=256/\s7=iZ ((m/2^(f+gk)%2^(c-gk):Nat):Int)/\s8=iZ ((f:Int)+(gk:Int)-1)/\E=wr)
  case atStart=>exact⟨oM,oM,by rw[yQ Q.out (UX oM)];rfl,by congr 1<;>omega,rfl⟩
  case round =>
   obtain⟨z,H,rfl,rfl,rfl⟩:=hrel;by_cases D:gk=0
   ·subst D;have L:¬(f:Int)<=(f:Int)+((0:Nat):Int)-1:=oM;rw[XB,YT,P.out];go_wp2;go_ret;exact⟨_,rfl,BL.out,rfl⟩
   ·obtain⟨i,C⟩:∃i,f+(gk-1)=i:=⟨_,rfl⟩
    have I:(f:Int)+(gk:Int)-1=(i:Int):=oM;have L:(f:Int)<=(i:Int):=oM;have r:i<256:=oM;have O:=X.wd (i/64) oM;have l:wd n o p q (i/64)<18446744073709551616:=Np _ k.1 k.2.1 k.2.2.1 k.2.2.2.1;have b:wd n o p q (i/64)/2^(i%64)%2=m/2^i%2:=by rw[k.2.2.2.2];exact Hu i r k.1 k.2.1 k.2.2.1 k.2.2.2.1
    generalize wd n o p q (i/64)=v at O l b;have s:v/2^(i%64)<18446744073709551616:=yAM (yBp _ _) l;have j:bits .and .u64 ((v:Int)/2^(i%64)) 1=((m/2^i%2:Nat):Int):=by
     have:=and_one (v/2^(i%64)) s;rw[b]at this;rw[<-this,Zb,Z9];rfl
    obtain⟨t,A⟩:∃t,m/2^i%2=t:=⟨_,rfl⟩
    have u:t<2:=oM;have y:=Ak (m:=m) (f:=f) (g:=gk) (c:=c) oM z;rw[C,A]at y;have d:m/2^(f+gk)%2^(c-gk)<4294967296:=Ux (V5 _ (XI dC)) (show 2^(c-gk)<=2^32 from VA dC oM);rw[A]at j;generalize m/2^(f+gk)%2^(c-gk)=B at y d⊢;have hor:=or_bit B t d u;have J:VS.wrap ((B:Int)*2)=((2*B:Nat):Int):=by rw[show(B:Int)*2=((2*B:Nat):Int) by omega];exact Aw _ oM
    have F:=mk1 (y);have a:=mk1 (C);have zx:=X.lt;rw[I];go_wp2;go_roundg (gk-1)
    case measure=>omega
    case rel =>
     refine⟨oM,oM,?_,?_,rfl⟩
     ·rw[a.out,F.out,<-hor,Xw];rfl
     ·congr 1;have:=a.out;omega
end
section
open Go
section
variable {P:VD}{ops:Array Vk}{Q:Exit->Act->Ur->Prop}{S:Ur->Prop}{p:Nat}
def anyTill(P:VD)(k:Array Vk)(Q:Exit->Act->Ur->Prop)(S:Ur->Prop)(p:Nat):Nat->Array Bool->Act->Ur->Prop
 | 0,listed,a,w=>U7 .any k listed=[]/\Q .normal a w
 | fuel+1,listed,a,w=>(U7 .any k listed=[]->Q .normal a w) /\
  ∀i∈U7 .any k listed,wpOp P k Q i (λb w'=>((listed.setIfInBounds i true).getD p false=false->S w')/\anyTill P k Q S p fuel (listed.setIfInBounds i true) b w') a w
theorem anyTill.any:∀(k:Nat) (b:Array Bool) (a:Act) (w:Ur),anyTill P ops Q S p k b a w->wpAny P .any ops Q k b a w
 | 0,_,_,_,h=>h
 | k+1,_,_,_,h=>⟨h.1,λi e=>wpOp_mono (λd w' c=>anyTill.any k _ d w' c.2) (h.2 i e)⟩
theorem anyTill.first{i:Nat}{t op:Vk}{v:Ut}(M:ops[i]? = some t)(W:ops[p]? = some op)(N:∃e∈op.after,VP .any e=true/\e.on=i)(K:p≠i)
 (n:∀(j:Nat) (o:Vk) cs b,ops[j]? = some o->o.op≠.select cs b) (V:∀c a w,Q (.panic c) (a.put t.dst v) w->Q (.panic c) a w) :
 ∀(g:Nat) (d:Array Bool) (a:Act) (w:Ur),d.getD p false=false ->
  (∀j s,ops[j]? = some s->j≠i->d.getD j true=false->(∀e∈s.after,VP .any e=true->e.on≠i)->t.apart ops s=true) ->
  i∈U7 .any ops d->YieldsIf P ops S t v a->S w ->
  anyTill P ops Q S p g (d.setIfInBounds i true) (a.put t.dst v) w->anyTill P ops Q S p (g+1) d a w:=by
 intro g;induction g with
 | zero =>
  intro d a w _ _ C D y H;refine⟨λh=>absurd C (by rw[h];exact UY),λj E=>?_⟩;by_cases f:j=i
  ·subst f;exact D.wpOp M y ⟨λ_=>y,H⟩
  ·exact absurd (ready_mono E f) (by rw[H.1];exact UY)
 | succ g ih =>
  intro d a w T m C D y H;refine⟨λh=>absurd C (by rw[h];exact UY),λj E=>?_⟩;by_cases f:j=i
  ·subst f;exact D.wpOp M y ⟨λ_=>y,H⟩
  ·obtain⟨q,s,l,A⟩:=mem_ready.1 E;have r:∀e∈s.after,VP .any e=true->e.on≠i:=λe L O G=>by
    have u:=A e L O;have z:=(mem_ready.1 C).1;rw[G]at u;rcases Nat.lt_or_ge i d.size with x|x
    ·simp[x]at z u;rw[z]at u;cases u
    ·simp[Array.getElem?_eq_none x]at u
   have x:j≠p:=by
    intro h;subst h;rw[W]at l;obtain⟨e,L,O,u⟩:=N;injection l with l
    subst l;exact r e L O u
   have X:=wpOp_putIf l (m j s l f q r) (λcs b=>n i t cs b M) (λcs b=>n j s cs b l) V D (H.2 j (ready_mono E f));have J:(d.setIfInBounds j true).getD p false=false:=by rw[XQ false x];exact T
   refine wpOp_mono (λY w' F=>?_) X;have B:=F.2.1 (by rw[XQ false x,XQ false (YB K)];exact T);refine⟨λ_=>B,ih (d.setIfInBounds j true) Y w' J (λk ok U I u R=>?_) (ready_mono C (YB f)) F.1 B ?_⟩
   ·refine m k ok U I ?_ R;by_cases z:j=k
    ·subst z;exact q
    ·rw[XQ true z]at u;exact u
   ·rw[Array.setIfInBounds_comm _ _ f];exact F.2.2
def waits(k:Array Vk)(p i:Nat):Bool:=match k[p]? with
 | some o=>o.after.any (λe=>VP .any e && e.on == i)
 | none=>false
theorem anyTill.take{i:Nat}{f:Vk}{v:Ut}{b:Nat}{k:Array Bool}{a:Act}{w:Ur}(l:ops[i]? = some f)(d:waits ops p i=true)(n:XL ops=true)
 (g:(k.getD p false || p == i)=false) (hf:YL .any ops k i=true) (s:(U7 .any ops k).contains i=true)
 (q:∀c a w,Q (.panic c) (a.put f.dst v) w->Q (.panic c) a w) (m:YieldsIf P ops S f v a) (r:S w)
 (h:anyTill P ops Q S p b (k.setIfInBounds i true) (a.put f.dst v) w):anyTill P ops Q S p (b+1) k a w:=by
 rw[Bool.or_eq_false_iff]at g;unfold waits at d;cases ho:ops[p]? with
 | none=>rw[ho]at d;cases d
 | some op =>
  rw[ho]at d;obtain⟨e,o,j⟩:=Array.any_eq_true'.1 d;simp only[Bool.and_eq_true,beq_iff_eq]at j;exact anyTill.first l ho ⟨e,o,j.1,j.2⟩ (by simpa using g.2) (Region.noSelect_spec n) q b k a w g.1 (Region.free_spec l hf) (by simpa using s) m r h
theorem anyTill.tk{i:Nat}{d:Vk}{v:Ut}{b:Nat}{k:Array Bool}{a:Act}{w:Ur}(g:ops[i]? = some d)(e:YieldsIf P ops S d v a)(m:S w)
 (h:anyTill P ops Q S p b (k.setIfInBounds i true) (a.put d.dst v) w) (n:waits ops p i=true:=by kernel_rfl) (f:XL ops=true:=by kernel_rfl)
 (j:(k.getD p false || p == i)=false:=by kernel_rfl) (hf:YL .any ops k i=true:=by kernel_rfl) (o:(U7 .any ops k).contains i=true:=by kernel_rfl)
 (l:∀c a w,Q (.panic c) (a.put d.dst v) w->Q (.panic c) a w:=by exact λ_ _ _ h=>h):anyTill P ops Q S p (b+1) k a w:=anyTill.take g n f j hf o l e m h
theorem anyTill.step{i:Nat}{o:Vk}{b:Nat}{k:Array Bool}{a:Act}{w:Ur}(ho:ops[i]? = some o)(e:U7 .any ops k=[i])
 (h:∀c:Act->Ur->Prop,Shut (∀a w,((k.setIfInBounds i true).getD p false=false->S w)->anyTill P ops Q S p b (k.setIfInBounds i true) a w->c a w) ->
  if Region.wanted o (yielded ops a.tmps)=true then Oper.wp P o a w c Q else c (a.put o.dst WP) w):anyTill P ops Q S p (b+1) k a w:=by
 refine⟨λd=>(by rw[e]at d;cases d),λj f=>?_⟩;rw[e,List.mem_singleton]at f;subst f;exact wpOp_step ho (λc g=>h c (λa w m l=>g a w ⟨m,l⟩))
theorem anyTill.done{k:Array Bool}{a:Act}{w:Ur}(c:U7 .any ops k=[])(h:Q .normal a w):∀b,anyTill P ops Q S p b k a w
 | 0=>⟨c,h⟩
 | _+1=>⟨λ_=>h,by rw[c];intro i d;cases d⟩
theorem anyTill.begin{id:Nat}{a:Act}{w:Ur}(S:Ur->Prop)(p:Nat)(k:P.follows .mixedOrders=true)(b:S w.drew)
 (h:S w.drew->anyTill P ops Q S p ops.size (UJ ops.size false) a w.drew):(Code.region id ops true).wp P Q a w:=
 wp_region_any k ((h b).any)
end
end
section
variable {P:Nat}[NeZero P]{N:Nat}
def pw0:Array Ut:=#[uZ 1]++UJ 63 (uZ 0)
def pwz:Array Ut:=UJ 64 (uZ 0)
theorem Qq:∀w:Ur,(zeroValue 308).run prog w=.ok (.agg pwz) w:=λ_=>kR
theorem sizeT:(prog.info? 308).map (·.size)=some pw0.size:=kR
theorem TI:pw0.all (·.oneCell')=true:=kR
def Tab(W:Ur)(k m P i:Nat):Prop:=∀j,j<16->∃a b c d:Nat,(Blk.mk k (j*4) a b c d).at W/\(j<i->Four (.agg #[uZ a,uZ b,uZ c,uZ d]) (m^j%P))
theorem Tab.call{W e:Ur}{k m P i:Nat}(h:Tab W k m P i)(n:kZ W e):Tab e k m P i:=λj l=>by
 obtain⟨a,b,c,d,g,f⟩:=h j l;exact⟨a,b,c,d,g.call n,f⟩
theorem Tab.drew{W:Ur}{k m P i:Nat}(h:Tab W k m P i):Tab W.drew k m P i:=λj g=>by
 obtain⟨a,b,c,d,e,f⟩:=h j g;exact⟨a,b,c,d,⟨e.c0,e.c1,e.c2,e.c3,e.f⟩,f⟩
theorem Tab.other{W:Ur}{k m P i g o:Nat}(h:Tab W k m P i)(f:g≠k)(v:Ut):Tab (W.setCell ⟨g,o,none⟩ v) k m P i:=λj n=>by
 obtain⟨a,b,c,d,l,e⟩:=h j n;exact⟨a,b,c,d,l.other f v,e⟩
theorem Blk.at.off{W : Ur}{x : Blk}{i : Nat}(h : x.at W)(hi : i < x.o \/ x.o + 3 < i)(v : Ut): x.at (W.setCell ⟨x.k, i, none⟩ v) :=
  ⟨by rw [UU _ _ _ _ (bH (UX oM))]; exact h.c0, by rw [UU _ _ _ _ (bH (UX oM))]; exact h.c1,
   by rw [UU _ _ _ _ (bH (UX oM))]; exact h.c2, by rw [UU _ _ _ _ (bH (UX oM))]; exact h.c3, λo => by rw [VM]; exact h.f o⟩
theorem Blk.at.put{W:Ur}{k o a b c d:Nat}(h:(Blk.mk k o a b c d).at W)(x y z t:Nat):
 (Blk.mk k o x y z t).at ((((W.setCell ⟨k,o,none⟩ (uZ x)).setCell ⟨k,o+1,none⟩ (uZ y)).setCell ⟨k,o+2,none⟩ (uZ z)).setCell ⟨k,o+3,none⟩ (uZ t)):=by
 have s0:=VV W ⟨k,o,none⟩ (uZ x) h.c0;have e:∀(W:Ur) (i j:Nat) (v:Ut),i≠j->(W.setCell ⟨k,i,none⟩ v).cell? ⟨k,j,none⟩=W.cell? ⟨k,j,none⟩:=λW i j v f=>UU _ _ _ _ (bH (UX f))
 refine⟨?_,?_,?_,?_,λi=>?_⟩
 ·show VY _ ⟨k,o,none⟩=_;rw[e _ _ _ _ oM,e _ _ _ _ oM,e _ _ _ _ oM];exact s0
 ·show VY _ ⟨k,o+1,none⟩=_;rw[e _ _ _ _ oM,e _ _ _ _ oM];exact VV _ _ _ (by rw[e _ _ _ _ oM];exact h.c1)
 ·show VY _ ⟨k,o+2,none⟩=_;rw[e _ _ _ _ oM];exact VV _ _ _ (by rw[e _ _ _ _ oM,e _ _ _ _ oM];exact h.c2)
 ·show VY _ ⟨k,o+3,none⟩=_;exact VV _ _ _ (by rw[e _ _ _ _ oM,e _ _ _ _ oM,e _ _ _ _ oM];exact h.c3)
 ·rw[VM,VM,VM,VM];exact h.f i
theorem Tab.put{W:Ur}{k m P i x y z t:Nat}(h:Tab W k m P i)(p:i<16)(l:Four (.agg #[uZ x,uZ y,uZ z,uZ t]) (m^i%P)):
 Tab ((((W.setCell ⟨k,i*4,none⟩ (uZ x)).setCell ⟨k,i*4+1,none⟩ (uZ y)).setCell ⟨k,i*4+2,none⟩ (uZ z)).setCell ⟨k,i*4+3,none⟩ (uZ t)) k m P (i+1):=λj g=>by
 obtain⟨a,b,c,d,f,n⟩:=h j g;by_cases e:j=i
 ·subst e;exact⟨x,y,z,t,f.put x y z t,λ_=>l⟩
 ·refine⟨a,b,c,d,?_,λo=>n oM⟩;exact(((f.off (by simp only;omega) _).off (by simp only;omega) _).off (by simp only;omega) _).off (by simp only;omega) _
theorem newest(w:Ur)(o:Obj):(w.alloc o).heap[w.heap.size]? = some o:=by
 show(w.heap.push o)[w.heap.size]? = some o;simp
theorem nD(j:Nat):pw0[j]? = if j=0 then some (uZ 1) else if j<64 then some (uZ 0) else none:=by
 match j with
 | 0=>rfl
 | j+1 =>
  rw[yCk oM];unfold pw0;rw[Array.getElem?_append_right (by simp)];by_cases h:j+1<64
  ·rw[yCj h];simp[Yg];omega
  ·rw[yCk h];simp[Yg];omega
theorem Tab.new(w:Ur)(m P:Nat)(d:1<P):Tab ((w.alloc (.cells pwz 308)).setRow w.heap.size pw0) w.heap.size m P 1:=λj e=>by
 have b:(w.alloc (.cells pwz 308)).heap[w.heap.size]? = some (.cells pwz 308 (0,0)):=newest w _;have k:=λi=>cell_setRow_same (w.alloc (.cells pwz 308)) w.heap.size i pwz pw0 308 (0,0) b
 have hf:∀o,((w.alloc (.cells pwz 308)).setRow w.heap.size pw0).frozen? ⟨w.heap.size,o,none⟩=false:=λo=>by
  have c:=setRow_heap _ _ _ pw0 _ _ b;unfold World.frozen?;dsimp only;rw[c];simp
 by_cases c:j=0
 ·subst c;refine⟨1,0,0,0,⟨?_,?_,?_,?_,hf⟩,λ_=>?_⟩
  ·rw[k,nD];rfl
  ·rw[k,nD];rfl
  ·rw[k,nD];rfl
  ·rw[k,nD];rfl
  ·rw[YN,US d];exact Four.mk dC dC dC dC rfl
 ·refine⟨0,0,0,0,⟨?_,?_,?_,?_,hf⟩,λh=>oM⟩
  ·rw[k,nD,yCk (by simp only;omega),yCj (by simp only;omega)];rfl
  ·rw[k,nD,yCk (by simp only;omega),yCj (by simp only;omega)];rfl
  ·rw[k,nD,yCk (by simp only;omega),yCj (by simp only;omega)];rfl
  ·rw[k,nD,yCk (by simp only;omega),yCj (by simp only;omega)];rfl
theorem below_setRow{B:Nat}{w W:Ur}(h:Below B w W){g:Nat}(c:B<=g)(cs:Array Ut):Below B w (W.setRow g cs):=
 ⟨h.os,h.tape,h.output,by rw[setRow_size];exact h.size,λk b=>by rw[setRow_other W g k cs oM];exact h.block k b⟩
theorem G6(W:Ur):kZ W ((W.alloc (.cells pwz 308)).setRow W.heap.size pw0):=below_setRow (aC W _) (Uw _) _
theorem uX{w W:Ur}{k f u v e j a b c d p q r s t g l m o n i:Nat}(h:Kept w k [⟨k,0,o,n,i,0⟩,⟨e,j*4,t,g,l,m⟩,⟨f,0,a,b,c,d⟩,⟨u,0,p,q,r,s⟩,⟨v,0,0,0,0,0⟩] W):W.cell? ⟨k,0,none⟩=some (uZ o)/\W.cell? ⟨k,1,none⟩=some (uZ n)/\W.cell? ⟨k,2,none⟩=some (uZ i)/\W.cell? ⟨k,3,none⟩=some (uZ 0)/\W.cell? ⟨e,j*4,none⟩=some (uZ t)/\W.cell? ⟨e,j*4+1,none⟩=some (uZ g)/\W.cell? ⟨e,j*4+2,none⟩=some (uZ l)/\W.cell? ⟨e,j*4+3,none⟩=some (uZ m)/\W.cell? ⟨f,0,none⟩=some (uZ a)/\W.cell? ⟨f,1,none⟩=some (uZ b)/\W.cell? ⟨f,2,none⟩=some (uZ c)/\W.cell? ⟨f,3,none⟩=some (uZ d)/\Kept w k [⟨k,0,o,n,i,0⟩,⟨e,j*4,t,g,l,m⟩,⟨f,0,a,b,c,d⟩,⟨u,0,p,q,r,s⟩,⟨v,0,0,0,0,0⟩] W:=
 ⟨h.head.c0,h.head.c1,h.head.c2,h.head.c3,h.tail.head.c0,h.tail.head.c1,h.tail.head.c2,h.tail.head.c3,h.tail.tail.head.c0,h.tail.tail.head.c1,h.tail.tail.head.c2,h.tail.tail.head.c3,h⟩
theorem qU{w W:Ur}{k x f v u e m P a b c d p q r s l j i nd n o g:Nat}(h:Kept w k (⟨e,0,l,j,i,nd⟩ :: [⟨k,0,n,o,g,0⟩,⟨x,0,a,b,c,d⟩,⟨f,0,p,q,r,s⟩,⟨v,0,0,0,0,0⟩]) W)(t:Tab W u m P 16):W.cell? ⟨k,0,none⟩=some (uZ n)/\W.cell? ⟨k,1,none⟩=some (uZ o)/\W.cell? ⟨k,2,none⟩=some (uZ g)/\W.cell? ⟨k,3,none⟩=some (uZ 0)/\W.cell? ⟨e,0,none⟩=some (uZ l)/\W.cell? ⟨e,1,none⟩=some (uZ j)/\W.cell? ⟨e,2,none⟩=some (uZ i)/\W.cell? ⟨e,3,none⟩=some (uZ nd)/\W.cell? ⟨f,0,none⟩=some (uZ p)/\W.cell? ⟨f,1,none⟩=some (uZ q)/\W.cell? ⟨f,2,none⟩=some (uZ r)/\W.cell? ⟨f,3,none⟩=some (uZ s)/\Kept w k (⟨e,0,l,j,i,nd⟩ :: [⟨k,0,n,o,g,0⟩,⟨x,0,a,b,c,d⟩,⟨f,0,p,q,r,s⟩,⟨v,0,0,0,0,0⟩]) W/\Tab W u m P 16:=
 ⟨h.tail.head.c0,h.tail.head.c1,h.tail.head.c2,h.tail.head.c3,h.head.c0,h.head.c1,h.head.c2,h.head.c3,h.tail.tail.tail.head.c0,h.tail.tail.tail.head.c1,h.tail.tail.tail.head.c2,h.tail.tail.tail.head.c3,h,t⟩
theorem uW{w W:Ur}{e l f g k j i a b c d p q r s y m o t x u n:Nat}(h:Kept w e [⟨e,0,x,u,n,0⟩,⟨k,j*4,y,m,o,t⟩,⟨l,0,a,b,c,d⟩,⟨f,0,p,q,r,s⟩,⟨g,0,0,0,0,0⟩] W)(B:e<=k)(D:k≠e)(F:k≠l)(E:k≠f)(z:k≠g)(C:i<j*4\/j*4+3<i)(v:Ut):Kept w e [⟨e,0,x,u,n,0⟩,⟨k,j*4,y,m,o,t⟩,⟨l,0,a,b,c,d⟩,⟨f,0,p,q,r,s⟩,⟨g,0,0,0,0,0⟩] (W.setCell ⟨k,i,none⟩ v):=by
 refine((((((Kept.mk1 (h.bl.setCell (p:=⟨k,i,none⟩) B v) (by simpa using h.le)).cons ?_).cons ?_).cons ?_).cons ?_).cons ?_)
 ·exact h.tail.tail.tail.tail.head.other z v
 ·exact h.tail.tail.tail.head.other E v
 ·exact h.tail.tail.head.other F v
 ·exact h.tail.head.off C v
 ·exact h.head.other D v
theorem wU{w W:Ur}{e v o u k j i a b c d p q r s G A C D F E B:Nat}(h:Kept w e [⟨e,0,F,E,B,0⟩,⟨k,j*4,G,A,C,D⟩,⟨v,0,a,b,c,d⟩,⟨o,0,p,q,r,s⟩,⟨u,0,0,0,0,0⟩] W)(g:e<=k)(l:k≠e)(n:k≠v)(m:k≠o)(f:k≠u)
 (J:i*4<j*4\/j*4+3<i*4) (H:i*4+1<j*4\/j*4+3<i*4+1) (I:i*4+2<j*4\/j*4+3<i*4+2) (K:i*4+3<j*4\/j*4+3<i*4+3) (x y z t:Ut) :
 Kept w e [⟨e,0,F,E,B,0⟩,⟨k,j*4,G,A,C,D⟩,⟨v,0,a,b,c,d⟩,⟨o,0,p,q,r,s⟩,⟨u,0,0,0,0,0⟩] ((((W.setCell ⟨k,i*4,none⟩ x).setCell ⟨k,i*4+1,none⟩ y).setCell ⟨k,i*4+2,none⟩ z).setCell ⟨k,i*4+3,none⟩ t):=
 uW (uW (uW (uW h g l n m f J x) g l n m f H y) g l n m f I z) g l n m f K t
theorem zO(g0 g1 g2 P : Nat)(x y : Ut)(m n : Nat)(hG : Gap g0 g1 g2 P)(hx : Four x m)(hy : Four y n)(w : Ur):
    UH prog 223 #[.agg #[.int .u64 (g0 : Int), .int .u64 (g1 : Int), .int .u64 (g2 : Int), .int .u64 0], x, y] w (Ret λe w' => Below w.heap.size w w' /\ Four e (m ^ n % P)) := by
  obtain⟨a, b, c, d, rfl, ha, hb, hc, hd, em⟩ := id hx;obtain⟨p, q, r, s, rfl, hp, hq, hr, hs, en⟩ := id hy;have HX : Hid (Four _ m) := hx;have HY : Hid (Four _ n) := hy;have HG : Hid (Gap g0 g1 g2 P) := hG;clear em en hx hy ha hb hc hd hp hq hr hs hG;go_enter func223, ntmps223
  go_upto_region 1 with fail
  have KP := Cn w 120 47 47 47 g0 g1 g2 0 a b c d p q r s 0 0 0 0;simp only [WH]at KP;generalize Xt _ _ = W0 at KP⊢;have zv := Qq;have hpz : ¬pwz.size < 4 := dC;have hgr : (W0.alloc (.cells pwz 308)).heap[W0.heap.size]? = some (.cells pwz 308 (0, 0)) := newest W0 _;go_wp2_with (first | refine wpList_store_row rfl 308 _ _ rfl W0.heap.size pw0 rfl rfl 308 pwz hgr sizeT rfl TI ?_)
  have TB := Tab.new W0 m P (by have := HG.hP2; have : 3 < top := dC
                                omega)
  have hlt := KP.lts;have Q4 : Hid (w.heap.size <= W0.heap.size) := KP.le;replace KP := KP.call (G6 W0);clear zv hgr hpz;generalize World.setRow _ _ _ = W1 at KP TB⊢;generalize W0.heap.size = k4 at TB hlt Q4⊢;generalize h3 : w.heap.size + 1 + 1 + 1 = k3 at KP hlt⊢;generalize h2 : w.heap.size + 1 + 1 = k2 at KP hlt⊢;generalize h1 : w.heap.size + 1 = k1 at KP hlt⊢;have Q3 : Hid (w.heap.size <= k3) := by unfold Hid; omega
  generalize h0 : w.heap.size = k0 at KP hlt Q3 Q4⊢;have H0 : Hid (w.heap.size = k0) := h0;have n40 : k4 ≠ k0 := V8 (hlt _ List.mem_cons_self);have n41 : k4 ≠ k1 := V8 (hlt ⟨k1, 0, a, b, c, d⟩ (by simp));have n42 : k4 ≠ k2 := V8 (hlt ⟨k2, 0, p, q, r, s⟩ (by simp));have n43 : k4 ≠ k3 := V8 (hlt ⟨k3, 0, 0, 0, 0, 0⟩ (by simp));clear h0 h1 h2 h3 hlt;generalize pwz.setIfInBounds 0 (VZ Vo 1) = zz;go_loopg [8] 15 (λgk s8 wr => ∃i : Nat, i + gk = 16 /\ 1 <= i /\ s8 = .int .i64 (i : Int) /\ Kept w k0 [⟨k0, 0, g0, g1, g2, 0⟩, ⟨k1, 0, a, b, c, d⟩, ⟨k2, 0, p, q, r, s⟩, ⟨k3, 0, 0, 0, 0, 0⟩] wr /\ Tab wr k4 m P i)
  case atStart => exact⟨1, rfl, Uw _, rfl, KP, TB⟩
  case round =>
    clear KP TB;obtain⟨i, hi, hi1, rfl, KP0, TB⟩ := hrel;by_cases hlt : i < 16
    · obtain⟨j, hji⟩ : ∃j, i = j + 1 := ⟨i - 1, oM⟩
      obtain⟨pa, pb, pc, pd, BJ, hFJ⟩ := TB j oM;have HFJ : Hid (Four _ (m ^ j % P)) := hFJ oM;have KP : Kept w k0 [⟨k0, 0, g0, g1, g2, 0⟩, ⟨k4, j * 4, pa, pb, pc, pd⟩, ⟨k1, 0, a, b, c, d⟩, ⟨k2, 0, p, q, r, s⟩, ⟨k3, 0, 0, 0, 0, 0⟩] wr := by
        refine((((((Kept.mk1 KP0.bl KP0.le).cons ?_).cons ?_).cons ?_).cons ?_).cons ?_)
        · exact KP0.tail.tail.tail.head
        · exact KP0.tail.tail.head
        · exact KP0.tail.head
        · exact BJ
        · exact KP0.head
      clear KP0 BJ hFJ;have hlt' : (i : Int) < 16 := oM;have e1 : (i : Int) - 1 = (j : Int) := oM;have hj16 : j < 16 := oM;have hj16i : (j : Int) < 16 := oM;have hw1 : VS.wrap (j : Int) = (j : Int) := Aw _ oM;have HJ : Hid (i = j + 1) := hji;have o0 : Hid (i * 4 < j * 4 \/ j * 4 + 3 < i * 4) := by unfold Hid; omega
      have o1 : Hid (i * 4 + 1 < j * 4 \/ j * 4 + 3 < i * 4 + 1) := by unfold Hid; omega
      have o2 : Hid (i * 4 + 2 < j * 4 \/ j * 4 + 3 < i * 4 + 2) := by unfold Hid; omega
      have o3 : Hid (i * 4 + 3 < j * 4 \/ j * 4 + 3 < i * 4 + 3) := by unfold Hid; omega
      clear hji
      go_upto_region 5 with fail
      go_region_held3 (λw' => w'.cell? ⟨k0, 0, none⟩ = some (.int .u64 (g0 : Int)) /\ w'.cell? ⟨k0, 1, none⟩ = some (.int .u64 (g1 : Int)) /\ w'.cell? ⟨k0, 2, none⟩ = some (.int .u64 (g2 : Int)) /\ w'.cell? ⟨k0, 3, none⟩ = some (.int .u64 0) /\ w'.cell? ⟨k4, j * 4, none⟩ = some (.int .u64 (pa : Int)) /\ w'.cell? ⟨k4, j * 4 + 1, none⟩ = some (.int .u64 (pb : Int)) /\ w'.cell? ⟨k4, j * 4 + 2, none⟩ = some (.int .u64 (pc : Int)) /\ w'.cell? ⟨k4, j * 4 + 3, none⟩ = some (.int .u64 (pd : Int)) /\ w'.cell? ⟨k1, 0, none⟩ = some (.int .u64 (a : Int)) /\ w'.cell? ⟨k1, 1, none⟩ = some (.int .u64 (b : Int)) /\ w'.cell? ⟨k1, 2, none⟩ = some (.int .u64 (c : Int)) /\ w'.cell? ⟨k1, 3, none⟩ = some (.int .u64 (d : Int)) /\ Kept w k0 [⟨k0, 0, g0, g1, g2, 0⟩, ⟨k4, j * 4, pa, pb, pc, pd⟩, ⟨k1, 0, a, b, c, d⟩, ⟨k2, 0, p, q, r, s⟩, ⟨k3, 0, 0, 0, 0, 0⟩] w') (first | (with_reducible exact uX KP) | (with_reducible exact uX KP.drew) | (with_reducible exact uX (wU KP Q4.out n40 n41 n42 n43 o0.out o1.out o2.out o3.out _ _ _ _)) | (with_reducible exact uX (wU KP Q4.out n40 n41 n42 n43 o0.out o1.out o2.out o3.out _ _ _ _).drew) | fail) (first | (go_at_call 127; refine(jN _ _ HX.out _).mono ?_; rintro e w1 ⟨v, rfl, hb1, rfl⟩; (first | (with_reducible (have KP1 := KP.drew.call hb1)) | (with_reducible (have KP1 := KP.call hb1)) | fail); (first | (with_reducible (have T1 := TB.drew.call hb1)) | (with_reducible (have T1 := TB.call hb1)) | fail); clear KP TB hb1; have KP := KP1; have TB := T1; clear KP1 T1) | (go_at_call 213; refine(dN g0 g1 g2 P _ _ _ _ HG.out HFJ.out HX.out _).mono ?_; rintro e w1 ⟨v, rfl, hb1, hF3⟩; obtain⟨a', b', c', d', rfl, ha', hb', hc', hd', es3⟩ := id hF3; clear es3; have HF3 : Hid (Four _ _) := hF3; clear hF3; (first | (with_reducible (have KP1 := KP.drew.call hb1)) | (with_reducible (have KP1 := KP.call hb1)) | fail); (first | (with_reducible (have T1 := TB.drew.call hb1)) | (with_reducible (have T1 := TB.call hb1)) | fail); clear KP TB hb1; have KP := KP1; have TB := T1; clear KP1 T1; obtain⟨ya, yb, yc, yd, BI, hFI⟩ := TB i hlt; clear hFI; obtain⟨tc0, tc1, tc2, tc3, tf⟩ := id BI; have zt := BI.lt; clear BI))
      go_wp2;go_roundg (gk - 1)
      case measure => omega
      case rel =>
        have K3 := wU KP Q4.out n40 n41 n42 n43 o0.out o1.out o2.out o3.out (.int .u64 (a' : Int)) (.int .u64 (b' : Int)) (.int .u64 (c' : Int)) (.int .u64 (d' : Int));refine⟨i + 1, oM, oM, rfl, ?_, ?_⟩
        · exact((((Kept.mk1 K3.bl K3.le).cons K3.tail.tail.tail.tail.head).cons K3.tail.tail.tail.head).cons K3.tail.tail.head).cons K3.head
        · refine TB.put hlt ?_
          have h1 := HF3.out;rw [AO, <-HJ.out]at h1;exact h1
    · have hi16 : i = 16 := oM
      subst hi16;obtain⟨pa, pb, pc, pd, BJ, hFJ⟩ := TB 0 dC;have HFJ := mk1 (hFJ dC);replace BJ : (Blk.mk k4 0 pa pb pc pd).at wr := BJ;obtain⟨tc0, tc1, tc2, tc3, tf⟩ := id BJ;replace tc0 : wr.cell? ⟨k4, 0, none⟩ = some (.int .u64 (pa : Int)) := tc0;replace tc1 : wr.cell? ⟨k4, 1, none⟩ = some (.int .u64 (pb : Int)) := tc1;replace tc2 : wr.cell? ⟨k4, 2, none⟩ = some (.int .u64 (pc : Int)) := tc2;replace tc3 : wr.cell? ⟨k4, 3, none⟩ = some (.int .u64 (pd : Int)) := tc3;have zt := BJ.lt;go_wp2;have KN := (KP0.alloc (.cells #[.int .u64 (pa : Int), .int .u64 (pb : Int), .int .u64 (pc : Int), .int .u64 (pd : Int)] 118)).cons (At4.made wr 118 pa pb pc pd rfl).blk;have TN := TB.call (aC wr (.cells #[.int .u64 (pa : Int), .int .u64 (pb : Int), .int .u64 (pc : Int), .int .u64 (pd : Int)] 118));have hlt5 := KP0.lts;have n54 := V8 BJ.lt;have Q5 := mk1 (KP0.le);generalize Xt _ _ = Wv5 at KN TN⊢;generalize wr.heap.size = k5 at KN hlt5 n54 Q5⊢;have hl5 : ∀x ∈ ([⟨k0, 0, g0, g1, g2, 0⟩, ⟨k1, 0, a, b, c, d⟩, ⟨k2, 0, p, q, r, s⟩, ⟨k3, 0, 0, 0, 0, 0⟩] : List Blk), k5 ≠ x.k := λx hx => V8 (hlt5 x hx)
      go_loopg [10] 64 (λgk s10 wr => gk <= 64 /\ s10 = .int .i64 (4 * (gk : Int) - 4) /\ (∃na nb nc nd : Nat, Kept w k0 (⟨k5, 0, na, nb, nc, nd⟩ :: [⟨k0, 0, g0, g1, g2, 0⟩, ⟨k1, 0, a, b, c, d⟩, ⟨k2, 0, p, q, r, s⟩, ⟨k3, 0, 0, 0, 0, 0⟩]) wr /\ Hid (Four (.agg #[.int .u64 (na : Int), .int .u64 (nb : Int), .int .u64 (nc : Int), .int .u64 (nd : Int)]) (m ^ (n / 2 ^ (4 * gk)) % P))) /\ Tab wr k4 m P 16)
      case atStart =>
        refine⟨Uw _, rfl, ⟨pa, pb, pc, pd, KN, ?_⟩, TN⟩;have h1 := HFJ.out;rw [show n / 2 ^ (4 * 64) = 0 from Xe HY.lt];exact h1
      case round =>
        obtain⟨hg64, rfl, ⟨na, nb, nc, nd, KP, HF⟩, TB⟩ := hrel;by_cases hz : gk = 0
        · subst hz
          have HF0 := HF.out;rw [ZP, YN, yBX]at HF0;obtain⟨tc0, tc1, tc2, tc3, tf⟩ := KP.head.at4;have zt := KP.head.lt;go_wp2_with fail
          refine(jI _ _ HF0 _).mono ?_;rintro e w1 ⟨v, rfl, hb1, rfl⟩;have HFE := mk1 (HF0);have KP1 := KP.call hb1;obtain⟨rc0, rc1, rc2, rc3, rf⟩ := KP1.tail.tail.tail.tail.head.at4;have zr := KP1.tail.tail.tail.tail.head.lt;go_wp2;have RF := KP1.tail.tail.tail.tail.head.at4.self4 na nb nc nd;unfold set4 at RF;refine UE (v := ?v) ?hr rfl ?hR
          case hr => simp [results, Tryz.results223, go_sem, RF.c0, RF.c1, RF.c2, RF.c3]; rfl
          refine⟨_, rfl, ?_, HFE.out⟩;rw [H0.out];exact aL KP1.bl Q3.out _ _ _ _
        · obtain⟨I, hI⟩ : ∃I, 4 * (gk - 1) = I := ⟨_, rfl⟩
          have e1 : 4 * (gk : Int) - 4 = (I : Int) := oM;rw [e1];have HI := mk1 (hI);obtain⟨E, hE⟩ : ∃E, n / 2 ^ (4 * gk) = E := ⟨_, rfl⟩;have HE := mk1 (hE);rw [hE]at HF;go_wp2;refine wp_loop_rounds 5 ?_;obtain⟨tc0, tc1, tc2, tc3, tf⟩ := KP.head.at4;have zt := KP.head.lt;obtain⟨pc0, pc1, pc2, pc3, pf⟩ := KP.tail.head.at4;have zp := KP.tail.head.lt;rw [Xc];go_wp2_with fail
          refine(dN g0 g1 g2 P _ _ _ _ HG.out HF.out HF.out _).mono ?_;rintro e w1 ⟨v, rfl, hb1, hF3⟩;rw [kF]at hF3;obtain⟨n1a, n1b, n1c, n1d, rfl, ha', hb', hc', hd', es3⟩ := id hF3;have HF := mk1 (hF3);replace KP := KP.call hb1;replace TB := TB.call hb1;obtain⟨tc0, tc1, tc2, tc3, tf⟩ := KP.head.at4;have zt := KP.head.lt;go_wp2_with fail
          have KP2 := KP.put Q5.out hl5 n1a n1b n1c n1d;have TB2 := (((TB.other (o := 0) n54 (.int .u64 (n1a : Int))).other (o := 1) n54 (.int .u64 (n1b : Int))).other (o := 2) n54 (.int .u64 (n1c : Int))).other (o := 3) n54 (.int .u64 (n1d : Int));have KP := KP2;have TB := TB2;obtain⟨tc0, tc1, tc2, tc3, tf⟩ := KP.head.at4;have zt := KP.head.lt;obtain⟨pc0, pc1, pc2, pc3, pf⟩ := KP.tail.head.at4;have zp := KP.tail.head.lt;rw [Xc];go_wp2_with fail
          clear tc0 tc1 tc2 tc3 tf zt pc0 pc1 pc2 pc3 pf zp;refine(dN g0 g1 g2 P _ _ _ _ HG.out HF.out HF.out _).mono ?_;rintro e w2 ⟨v, rfl, hb1, hF3⟩;rw [kF]at hF3;obtain⟨n2a, n2b, n2c, n2d, rfl, ha', hb', hc', hd', es3⟩ := id hF3;clear HF;have HF : Hid (Four _ _) := hF3;clear hF3 es3 ha' hb' hc' hd';replace KP := KP.call hb1;replace TB := TB.call hb1;clear hb1;obtain⟨tc0, tc1, tc2, tc3, tf⟩ := KP.head.at4;have zt := KP.head.lt;go_wp2_with fail
          clear tc0 tc1 tc2 tc3 tf zt;have KP2 := KP.put Q5.out hl5 n2a n2b n2c n2d;have TB2 := (((TB.other (o := 0) n54 (.int .u64 (n2a : Int))).other (o := 1) n54 (.int .u64 (n2b : Int))).other (o := 2) n54 (.int .u64 (n2c : Int))).other (o := 3) n54 (.int .u64 (n2d : Int));clear KP TB;generalize Yb _ _ _ = WX2 at KP2 TB2⊢;have KP := KP2;have TB := TB2;clear KP2 TB2;obtain⟨tc0, tc1, tc2, tc3, tf⟩ := KP.head.at4;have zt := KP.head.lt;obtain⟨pc0, pc1, pc2, pc3, pf⟩ := KP.tail.head.at4;have zp := KP.tail.head.lt;rw [Xc];go_wp2_with fail
          clear tc0 tc1 tc2 tc3 tf zt pc0 pc1 pc2 pc3 pf zp;refine(dN g0 g1 g2 P _ _ _ _ HG.out HF.out HF.out _).mono ?_;rintro e w3 ⟨v, rfl, hb1, hF3⟩;rw [kF]at hF3;obtain⟨n3a, n3b, n3c, n3d, rfl, ha', hb', hc', hd', es3⟩ := id hF3;clear HF;have HF : Hid (Four _ _) := hF3;clear hF3 es3 ha' hb' hc' hd';replace KP := KP.call hb1;replace TB := TB.call hb1;clear hb1;obtain⟨tc0, tc1, tc2, tc3, tf⟩ := KP.head.at4;have zt := KP.head.lt;go_wp2_with fail
          clear tc0 tc1 tc2 tc3 tf zt;have KP2 := KP.put Q5.out hl5 n3a n3b n3c n3d;have TB2 := (((TB.other (o := 0) n54 (.int .u64 (n3a : Int))).other (o := 1) n54 (.int .u64 (n3b : Int))).other (o := 2) n54 (.int .u64 (n3c : Int))).other (o := 3) n54 (.int .u64 (n3d : Int));clear KP TB;generalize Yb _ _ _ = WX3 at KP2 TB2⊢;have KP := KP2;have TB := TB2;clear KP2 TB2;obtain⟨tc0, tc1, tc2, tc3, tf⟩ := KP.head.at4;have zt := KP.head.lt;obtain⟨pc0, pc1, pc2, pc3, pf⟩ := KP.tail.head.at4;have zp := KP.tail.head.lt;rw [Xc];go_wp2_with fail
          clear tc0 tc1 tc2 tc3 tf zt pc0 pc1 pc2 pc3 pf zp;refine(dN g0 g1 g2 P _ _ _ _ HG.out HF.out HF.out _).mono ?_;rintro e w4 ⟨v, rfl, hb1, hF3⟩;rw [kF]at hF3;obtain⟨n4a, n4b, n4c, n4d, rfl, ha', hb', hc', hd', es3⟩ := id hF3;clear HF;have HF : Hid (Four _ _) := hF3;clear hF3 es3 ha' hb' hc' hd';replace KP := KP.call hb1;replace TB := TB.call hb1;clear hb1;obtain⟨tc0, tc1, tc2, tc3, tf⟩ := KP.head.at4;have zt := KP.head.lt;go_wp2_with fail
          clear tc0 tc1 tc2 tc3 tf zt;have KP2 := KP.put Q5.out hl5 n4a n4b n4c n4d;have TB2 := (((TB.other (o := 0) n54 (.int .u64 (n4a : Int))).other (o := 1) n54 (.int .u64 (n4b : Int))).other (o := 2) n54 (.int .u64 (n4c : Int))).other (o := 3) n54 (.int .u64 (n4d : Int));clear KP TB;generalize Yb _ _ _ = WX4 at KP2 TB2⊢;have KP := KP2;have TB := TB2;clear KP2 TB2;rw [Xc];go_wp2_with fail
          refine anyTill.begin (λw' => w'.cell? ⟨k0, 0, none⟩ = some (.int .u64 (g0 : Int)) /\ w'.cell? ⟨k0, 1, none⟩ = some (.int .u64 (g1 : Int)) /\ w'.cell? ⟨k0, 2, none⟩ = some (.int .u64 (g2 : Int)) /\ w'.cell? ⟨k0, 3, none⟩ = some (.int .u64 0) /\ w'.cell? ⟨k5, 0, none⟩ = some (.int .u64 (n4a : Int)) /\ w'.cell? ⟨k5, 1, none⟩ = some (.int .u64 (n4b : Int)) /\ w'.cell? ⟨k5, 2, none⟩ = some (.int .u64 (n4c : Int)) /\ w'.cell? ⟨k5, 3, none⟩ = some (.int .u64 (n4d : Int)) /\ w'.cell? ⟨k2, 0, none⟩ = some (.int .u64 (p : Int)) /\ w'.cell? ⟨k2, 1, none⟩ = some (.int .u64 (q : Int)) /\ w'.cell? ⟨k2, 2, none⟩ = some (.int .u64 (r : Int)) /\ w'.cell? ⟨k2, 3, none⟩ = some (.int .u64 (s : Int)) /\ Kept w k0 (⟨k5, 0, n4a, n4b, n4c, n4d⟩ :: [⟨k0, 0, g0, g1, g2, 0⟩, ⟨k1, 0, a, b, c, d⟩, ⟨k2, 0, p, q, r, s⟩, ⟨k3, 0, 0, 0, 0, 0⟩]) w' /\ Tab w' k4 m P 16) 8 mixed (qU KP.drew TB.drew) (λhS => ?_);refine anyTill.tk (i := 0) (v := ?_) rfl (U4 ⟨by rfl, ?_⟩) hS ?_
          rotate_left
          · intro w hSw
            (try dsimp only at hSw)
            go_simp;try(with_reducible rfl)
          simp only [UN, Us];refine anyTill.tk (i := 1) (v := ?_) rfl (U4 ⟨by rfl, ?_⟩) hS ?_
          rotate_left
          · intro w hSw
            (try dsimp only at hSw)
            go_simp;try(with_reducible rfl)
          simp only [UN];refine anyTill.tk (i := 2) (v := ?_) rfl (U4 ⟨by rfl, ?_⟩) hS ?_
          rotate_left
          · intro w hSw
            (try dsimp only at hSw)
            go_simp;try(with_reducible rfl)
          simp only [UN];refine anyTill.tk (i := 3) (v := ?_) rfl (U4 ⟨by rfl, ?_⟩) hS ?_
          rotate_left
          · intro w hSw
            (try dsimp only at hSw)
            go_simp;try(with_reducible rfl)
          simp only [UN];try simp only [Uv, Uu]
          obtain⟨tt, htt⟩ : ∃tt, n / 2 ^ I % 2 ^ 4 = tt := ⟨_, rfl⟩;have HT : Hid (n / 2 ^ I % 2 ^ 4 = tt) := htt;have hB := λw => CY _ n I 4 HY.out oM dC w
          rw [htt]at hB
          have htl : tt < 16 := by have : (2 : Nat) ^ 4 = 16 := rfl
                                   rw [<-htt]; omega
          have htl' : (tt : Int) < 16 := oM;have HB : Hid _ := hB;clear hB htt;refine anyTill.step (i := 4) rfl kR (λK hK => ?_);go_simp;refine(HB _).mono ?_;rintro e w6 ⟨v, rfl, hb1, rfl⟩;clear hS HB;have KP6 := KP.drew.call hb1;have TB6 := TB.drew.call hb1;clear hb1 KP TB;refine hK.out _ _ (λ_ => qU KP6 TB6) ?_;clear hK K;try simp only [UN, Us, Uv, Uu]
          obtain⟨ta, tb, tc, td, BT, hFT⟩ := TB6 tt htl;have HFT : Hid (Four _ (m ^ tt % P)) := hFT htl;clear hFT;obtain⟨tc0, tc1, tc2, tc3, tf⟩ := id BT;have zt := BT.lt;refine anyTill.step (i := 5) rfl kR (λK hK => ?_);go_simp;refine hK.out _ _ (λ_ => qU KP6 TB6) ?_;clear hK K;try simp only [UN, Us, Uv, Uu]
          refine anyTill.step (i := 6) rfl kR (λK hK => ?_);go_simp;refine hK.out _ _ (λ_ => qU KP6 TB6) ?_;clear hK K;try simp only [UN, Us, Uv, Uu]
          clear tc0 tc1 tc2 tc3 tf zt BT;refine anyTill.step (i := 7) rfl kR (λK hK => ?_);go_simp;refine(dN g0 g1 g2 P _ _ _ _ HG.out HF.out HFT.out _).mono ?_;rintro e w7 ⟨v, rfl, hb1, hF3⟩;rw [B6]at hF3;obtain⟨ua, ub, uc, ud, rfl, ha', hb', hc', hd', es3⟩ := id hF3;have HFU : Hid (Four _ _) := hF3;clear hF3 es3 ha' hb' hc' hd' HF HFT;have KP7 := KP6.call hb1;have TB7 := TB6.call hb1;clear hb1 KP6 TB6;refine hK.out _ _ (λ_ => qU KP7 TB7) ?_;clear hK K;try simp only [UN, Us, Uv, Uu]
          obtain⟨tc0, tc1, tc2, tc3, tf⟩ := KP7.head.at4;have zt := KP7.head.lt;refine anyTill.step (i := 8) rfl kR (λK hK => ?_);go_simp;refine hK.out _ _ (λh => Yx h) ?_;clear hK K;try simp only [UN, Us, Uv, Uu]
          refine anyTill.done kR ?_ _;clear tc0 tc1 tc2 tc3 tf zt;go_wp2;go_roundg (gk - 1)
          case measure => omega
          case rel =>
            refine⟨oM, ?_, ⟨ua, ub, uc, ud, KP7.put Q5.out hl5 ua ub uc ud, ?_⟩, (((TB7.other (o := 0) n54 _).other (o := 1) n54 _).other (o := 2) n54 _).other (o := 3) n54 _⟩
            · have := HI.out
              congr 1
              omega
            · have h1 := HFU.out
              unfold Hid;rw [HI.out, MO n I, show I + 4 = 4 * gk by have := HI.out; omega, HE.out, HT.out];rw [show 2 * (2 * (2 * (2 * E))) + tt = 16 * E + tt by omega]at h1;exact h1
def p0:Nat:=115792089237316195423570985008687907853269984665640564039457584007908834671663
def p1:Nat:=115792089237316195423570985008687907852837564279074904382605163141518161494337
def gv0:Ut:=.agg #[uZ 4294968273,uZ 0,uZ 0,uZ 0]
def gv1:Ut:=.agg #[uZ 4624529908474429119,uZ 4994812053365940164,uZ 1,uZ 0]
theorem T8:Gap 4294968273 0 0 p0:=⟨dC,dC,dC,U4 ⟨rfl,rfl⟩,dK,dK,dK⟩
theorem T0:Gap 4624529908474429119 4994812053365940164 1 p1:=⟨dC,dC,dC,UX ⟨4994812053365940165,dK,dC⟩,dK,dK,dK⟩
theorem uR(w:Ur):
 UH prog 114 #[] w λe w'=>e=.returned (.agg #[uZ 4294968273,uZ 0,uZ 0,uZ 0])/\w'=w.alloc (.cells #[uZ 4294968273,uZ 0,uZ 0,uZ 0] 120):=by
 go_enter func114,ntmps114;go_wp2;refine UE (v:=?v) ?hr rfl ?hR
 case hr=>simp[results,Tryz.results114,go_sem];rfl
 exact⟨rfl,rfl⟩
theorem CQ(w:Ur):
 UH prog 58 #[] w λe w'=>e=.returned (.agg #[uZ 4624529908474429119,uZ 4994812053365940164,uZ 1,uZ 0])/\w'=w.alloc (.cells #[uZ 4624529908474429119,uZ 4994812053365940164,uZ 1,uZ 0] 120):=by
 go_enter func58,ntmps58;go_wp2;refine UE (v:=?v) ?hr rfl ?hR
 case hr=>simp[results,Tryz.results58,go_sem];rfl
 exact⟨rfl,rfl⟩
end
section
abbrev Bs:=Array UInt8
def ub(x:UInt8):Int:=(x.toNat:Int)
def encB(x:UInt8):Ut:=.int .u8 (ub x)
structure Only(b off n:Nat)(w w':Ur):Prop where
 os:w'.os=w.os
 tape:w'.tape=w.tape
 output:w'.output=w.output
 size:w.heap.size<=w'.heap.size
 block:∀k,k<w.heap.size->k≠b->w'.heap[k]? = w.heap[k]?
 cell:∀o,(o<off\/off+n<=o)->w'.cell? ⟨b,o,none⟩=w.cell? ⟨b,o,none⟩
 froz:∀o,w'.frozen? ⟨b,o,none⟩=w.frozen? ⟨b,o,none⟩
variable {b off n:Nat}{w w1 w2:Ur}
theorem Only.refl(b off n:Nat)(w:Ur):Only b off n w w:=⟨rfl,rfl,rfl,Uw _,λ_ _ _=>rfl,λ_ _=>rfl,λ_=>rfl⟩
theorem Only.trans(h:Only b off n w w1)(k:Only b off n w1 w2):Only b off n w w2:=
 ⟨k.os.trans h.os,k.tape.trans h.tape,k.output.trans h.output,Nat.le_trans h.size k.size,
  λi d c=>(k.block i (Ux d h.size) c).trans (h.block i d c),
  λo ho=>(k.cell o ho).trans (h.cell o ho),λo=>(k.froz o).trans (h.froz o)⟩
theorem Only.setCell(h:Only b off n w w1){o:Nat}(g:off<=o)(f:o<off+n)(v:Ut):Only b off n w (w1.setCell ⟨b,o,none⟩ v):=by
 refine h.trans ⟨rfl,rfl,rfl,by simp,λk _ c=>Zr _ _ _ _ c,λd ho=>?_,λd=>by simp⟩;exact UU _ _ _ _ (by intro e;simp only[Addr.mk.injEq,and_true,true_and]at e;omega)
theorem Only.below(h:Only b off n w w1){B:Nat}(c:B<=w.heap.size)(d:B<=b):Below B w w1:=
 ⟨h.os,h.tape,h.output,h.size,λk e=>h.block k oM oM⟩
section
variable {α:Type}[Inhabited α]{enc:α->Ut}{d:Array α}
theorem Holds.lt(h:Holds enc w b off d)(hd:0<d.size):b<w.heap.size:=World.block_lt_of_cell? _ _ (h 0 hd).1
theorem Holds.same{o:Nat}(h:Holds enc w b o d)(k:Only b off n w w1)(hd:o+d.size<=off\/off+n<=o):Holds enc w1 b o d:=by
 intro j c;rw[k.cell _ oM,k.froz];exact h j c
theorem Holds.below{B:Nat}(h:Holds enc w b off d)(k:Below B w w1)(c:b<B):Holds enc w1 b off d:=by
 intro j e;rw[k.cell (p:=⟨b,off+j,none⟩) c,k.frozen (p:=⟨b,off+j,none⟩) c];exact h j e
theorem Holds.drewN(h:Holds enc w b off d)(q:Nat):Holds enc (w.drewN q) b off d:=h
theorem Holds.set(h:Holds enc w b off d){i:Nat}(c:i<d.size)(x:α):Holds enc (w.setCell ⟨b,off+i,none⟩ (enc x)) b off (d.setIfInBounds i x):=by
 intro j k;rw[Array.size_setIfInBounds]at k;rw[VM];by_cases e:j=i
 ·subst e;rw[getElem!_set_same d j x c];exact⟨VV _ _ _ (h j k).1,(h j k).2⟩
 ·rw[getElem!_set_other d i j x e,UU _ _ _ _ (by intro e';simp only[Addr.mk.injEq,and_true,true_and]at e';omega)];exact h j k
theorem Holds.new(w:Ur)(t:U8)(d:Array α):Holds enc (w.alloc (.cells (d.map enc) t)) w.heap.size 0 d:=by
 intro j k;rw[Vd,Wv];refine⟨?_,rfl⟩;simp only[UD,Array.getElem?_map,Array.getElem?_eq_getElem k,Option.map_some,getElem!_pos d j k]
theorem Holds.made(w:Ur)(t:U8)(n:Nat)(x:α):Holds enc (w.alloc (.cells (madeCells #[enc x] n) t)) w.heap.size 0 (UJ n x):=by
 intro j k;rw[UP]at k;rw[Vd,Wv];refine⟨?_,rfl⟩;rw[getElem!_pos _ j (by simpa using k),Ww];simp[madeCells,k,yAW]
end
section
def fill(i:Nat):UInt8:=UM (i%251) ^^^ 165
def lentTo(s:ByteArray):Nat->Bs
 | 0=>s.data++UJ 160 0
 | k+1=>(lentTo s k).setIfInBounds (s.size+k) (fill (s.size+k))
def lent(s:ByteArray):Bs:=lentTo s 160
variable {w w1:Ur}{b o n:Nat}
theorem heap_setCells(b:Nat){k:Nat}(c:k≠b):∀(vs:List Ut) (p:Nat) (w:Ur),(w.setCells b p vs).heap[k]? = w.heap[k]?
 | [],_,_=>rfl
 | v :: r,p,w=>by rw[World.setCells,heap_setCells b c r (p+1) _,Zr _ _ _ _ c]
theorem Holds.setCells{k r:Bs}(h:Holds encB w b o k)(vs:List Ut)(p:Nat)(g:r.size=k.size)(l:p+vs.length<=k.size)
 (f:∀j (d:j<vs.length),vs[j]=encB r[p+j]!) (c:∀j,j<k.size->j<p\/p+vs.length<=j->r[j]! = k[j]!):Holds encB (w.setCells b (o+p) vs) b o r:=by
 intro j d;rw[g]at d;rw[World.frozen?_setCells];refine⟨?_,(h j d).2⟩;by_cases e:j<p\/p+vs.length<=j
 ·rw[World.cell?_setCells_out b vs (o+p) w ⟨b,o+j,none⟩ (λ_ _=>by simp only;omega),c j d e];exact(h j d).1
 ·have c:j-p<vs.length:=oM;have:=World.cell?_setCells_in b vs (o+p) w (λi m=>by
   have:=(h (p+i) oM).1;rw[<-WR]at this;rw[this];rfl) (j-p) c
  rw[show o+p+(j-p)=o+j by omega]at this;rw[this,f (j-p) c,show p+(j-p)=j by omega]
theorem app_front(a r:Bs)(j:Nat)(k:j<a.size):(a++r)[j]! = a[j]:=by
 have h:j<(a++r).size:=by rw[VN];omega
 rw[getElem!_pos (a++r) j h,Array.getElem_append_left k]
theorem app_back(a r:Bs)(j:Nat)(b:a.size<=j)(c:j<a.size+r.size):(a++r)[j]! = r[j-a.size]!:=by
 have h:j<(a++r).size:=by rw[VN];omega
 have k:j-a.size<r.size:=oM;rw[getElem!_pos (a++r) j h,Array.getElem_append_right b,getElem!_pos r (j-a.size) k]
theorem rep_at(n j:Nat)(h:j<n):(UJ n (0:UInt8))[j]! = 0:=by
 have k:j<(UJ n (0:UInt8)).size:=by rw[UP];exact h
 rw[getElem!_pos (UJ n (0:UInt8)) j k,Ww]
theorem size_of5(P:VD)(e:U8)(h:(P.info? e).map (·.size)=some 1):∀w,(yAa e).run P w=.ok 1 w:=by
 intro w;cases k:P.info? e with
 | none=>simp[k]at h
 | some i =>
  simp[k]at h;simp[yAa,typeInfo,k,h]
theorem conv_str(P:VD)(src k e:U8)(l:P.underlying src=some (.slice e))(m:P.underlying e=some (.int .u8))(hd:P.underlying k=some .string)
 (w:Ur) (b o n cap:Nat) (c:Bs) (r:Holds encB w b o c) (q:c.size=n):(convert src k (.slice (some ⟨b,o,none⟩) n cap)).run P w=.ok (.string ⟨c⟩) w:=by
 have h:=run_convert_bytes_back (P:=P) w src k e ⟨b,o,none⟩ cap c.toList l m hd (λj i=>by
  have d:j<c.size:=by simpa using i
  have f:=(r j d).1;rw[getElem!_pos c j d]at f;have p:(⟨b,o,none⟩:Addr).add j=⟨b,o+j,none⟩:=by
   unfold Zi;by_cases g:j=0
   ·subst g;rfl
   ·rw[yCk g]
  rw[p,f];simp[encB,ub])
 simpa[q]using h
end
section
theorem slice22:prog.underlying 23=some (.slice 5):=kR
theorem info5:(prog.info? 5).map (λi=>(i.zero,i.size,i.bytes))=some (some (.int .u8 0),1,1):=kR
theorem int5:prog.underlying 5=some (.int .u8):=kR
theorem str9:prog.underlying 9=some .string:=kR
theorem size5:∀w,(yAa 5).run prog w=.ok 1 w:=size_of5 prog 5 kR
end
end
section
variable {P:Nat}[NeZero P]{N:Nat}
def be8(x:Nat):Bs:=#[UM (x/72057594037927936),UM (x/281474976710656),UM (x/1099511627776),UM (x/4294967296),UM (x/16777216),UM (x/65536),UM (x/256),UM x]
def be32(a b c d:Nat):Bs:=be8 d++be8 c++be8 b++be8 a
theorem mQ(x:Nat):ub (UM x)=((x%256:Nat):Int):=by
 unfold ub;rw[UInt8.toNat_ofNat']
theorem Hk(x:Nat):Xy.wrap (x:Int)=ub (UM x):=by
 rw[mQ,IntKind.wrap_u8];omega
theorem byte_at(x k:Nat):(VZ .u8 ((x:Int)/(k:Int)%256))=encB (UM (x/k)):=by
 unfold encB;rw[mQ,yBe,Zb];rfl
theorem JY(x:Nat)(hx:x<18446744073709551616):(VZ .u8 ((x:Int)/72057594037927936))=encB (UM (x/72057594037927936)):=by
 unfold encB;rw[mQ];exact congrArg (VZ .u8) oM
theorem Ty(k:Bs)(g:k.size=8)(v0 v1 v2 c e b f d:UInt8):
 (((((((k.setIfInBounds 0 v0).setIfInBounds 1 v1).setIfInBounds 2 v2).setIfInBounds 3 c).setIfInBounds 4 e).setIfInBounds 5 b).setIfInBounds 6 f).setIfInBounds 7 d=#[v0,v1,v2,c,e,b,f,d]:=by
 obtain⟨l⟩:=k;match l,g with
 | [_,_,_,_,_,_,_,_],_=>simp
theorem kD(g o n cap x:Nat)(b:Bs)(w:Ur)(B:8<=n)(t:n<=cap)(c:cap<=1048576)(hx:x<18446744073709551616)(j:b.size=8)(k:Holds encB w g o b):
 UH prog 192 #[.slice (some ⟨g,o,none⟩) n cap,uZ x] w λe w'=>e=.returned (.tuple #[])/\Only g o 8 w w'/\Holds encB w' g o (be8 x):=by
 obtain⟨l,p⟩:=k 0 oM;obtain⟨c1,a⟩:=k 1 oM;obtain⟨c2,f2⟩:=k 2 oM;obtain⟨C,F⟩:=k 3 oM;obtain⟨A,u⟩:=k 4 oM;obtain⟨z,G⟩:=k 5 oM;obtain⟨y,v⟩:=k 6 oM;obtain⟨E,D⟩:=k 7 oM;rw[XB]at l p;have s:=mk1 (k);go_enter func192,ntmps192;go_wp2;have v0:(VZ .u8 ((x:Int)/72057594037927936))=encB (UM (x/72057594037927936)):=JY x hx;have v1:(VZ .u8 ((x:Int)/281474976710656%256))=encB (UM (x/281474976710656)):=byte_at x 281474976710656;have v2:(VZ .u8 ((x:Int)/1099511627776%256))=encB (UM (x/1099511627776)):=byte_at x 1099511627776;have d:(VZ .u8 ((x:Int)/4294967296%256))=encB (UM (x/4294967296)):=byte_at x 4294967296;have q:(VZ .u8 ((x:Int)/16777216%256))=encB (UM (x/16777216)):=byte_at x 16777216;have m:(VZ .u8 ((x:Int)/65536%256))=encB (UM (x/65536)):=byte_at x 65536;have f:(VZ .u8 ((x:Int)/256%256))=encB (UM (x/256)):=byte_at x 256;have r:(VZ .u8 ((x:Int)%256))=encB (UM x):=by unfold encB;rw[mQ,yBe];rfl
 rw[v0,v1,v2,d,q,m,f,r]
 go_end0
 refine⟨rfl,?_,?_⟩
 ·exact((((((((Only.refl g o 8 w).setCell (o:=o) oM oM _).setCell (o:=o+1) oM oM _).setCell (o:=o+2) oM oM _).setCell (o:=o+3) oM oM _).setCell (o:=o+4) oM oM _).setCell (o:=o+5) oM oM _).setCell (o:=o+6) oM oM _).setCell (o:=o+7) oM oM _
 ·have:=Ty b j (UM (x/72057594037927936)) (UM (x/281474976710656)) (UM (x/1099511627776)) (UM (x/4294967296)) (UM (x/16777216)) (UM (x/65536)) (UM (x/256)) (UM x);unfold be8;rw[<-this];exact Holds.set (Holds.set (Holds.set (Holds.set (Holds.set (Holds.set (Holds.set (Holds.set s.out (i:=0) oM _) (i:=1) (by simp;omega) _) (i:=2) (by simp;omega) _) (i:=3) (by simp;omega) _) (i:=4) (by simp;omega) _) (i:=5) (by simp;omega) _) (i:=6) (by simp;omega) _) (i:=7) (by simp;omega) _
theorem cC(x:Nat):(be8 x).size=8:=rfl
theorem Al(a b c d:Nat):(be32 a b c d).size=32:=by simp only[be32,VN,cC]
theorem Holds.part{w:Ur}{g o p:Nat}{d e:Bs}(h:Holds encB w g o d)(c:p+e.size<=d.size)(k:∀j,j<e.size->e[j]! = d[p+j]!):Holds encB w g (o+p) e:=by
 intro j b;rw[k j b,WR];exact h (p+j) oM
theorem Holds.join{w:Ur}{g:Nat}{a b c d:Nat}(i:Holds encB w g 0 (be8 d))(m:Holds encB w g 8 (be8 c))(l:Holds encB w g 16 (be8 b))(f:Holds encB w g 24 (be8 a)):Holds encB w g 0 (be32 a b c d):=by
 intro j n;rw[Al]at n;have e:be32 a b c d=be8 d++be8 c++be8 b++be8 a:=rfl;have s1:(be8 d++be8 c).size=16:=by simp only[VN,cC]
 have s2:(be8 d++be8 c++be8 b).size=24:=by simp only[VN,cC]
 by_cases k:j<8
 ·have:=i j (by rw[cC];exact k);rw[e,app_front _ _ j oM,<-getElem!_pos (be8 d++be8 c++be8 b) j oM,app_front _ _ j oM,<-getElem!_pos (be8 d++be8 c) j oM,app_front _ _ j (by rw[cC];exact k),<-getElem!_pos (be8 d) j (by rw[cC];exact k)];exact this
 ·by_cases p:j<16
  ·have:=m (j-8) (by rw[cC];omega);rw[show 8+(j-8)=0+j by omega]at this;rw[e,app_front _ _ j oM,<-getElem!_pos (be8 d++be8 c++be8 b) j oM,app_front _ _ j oM,<-getElem!_pos (be8 d++be8 c) j oM,app_back _ _ j (by rw[cC];omega) (by rw[cC,cC];omega),cC];exact this
  ·by_cases o:j<24
   ·have:=l (j-16) (by rw[cC];omega);rw[show 16+(j-16)=0+j by omega]at this;rw[e,app_front _ _ j oM,<-getElem!_pos (be8 d++be8 c++be8 b) j oM,app_back _ _ j oM (by rw[s1,cC];omega),s1];exact this
   ·have:=f (j-24) (by rw[cC];omega);rw[show 24+(j-24)=0+j by omega]at this;rw[e,app_back _ _ j oM (by rw[s2,cC];omega),s2];exact this
theorem TY(a b c d:Nat)(w:Ur):(ZL 47 (.agg #[uZ a,uZ b,uZ c,uZ d]) (iZ 0)).run prog w=.ok (uZ a) w:=kR
theorem TX(a b c d:Nat)(w:Ur):(ZL 47 (.agg #[uZ a,uZ b,uZ c,uZ d]) (iZ 1)).run prog w=.ok (uZ b) w:=kR
theorem TW(a b c d:Nat)(w:Ur):(ZL 47 (.agg #[uZ a,uZ b,uZ c,uZ d]) (iZ 2)).run prog w=.ok (uZ c) w:=kR
theorem TV(a b c d:Nat)(w:Ur):(ZL 47 (.agg #[uZ a,uZ b,uZ c,uZ d]) (iZ 3)).run prog w=.ok (uZ d) w:=kR
theorem nZ{w:Ur}{g:Nat}(p:Nat)(h:Holds encB w g 0 (UJ 32 0))(b:p+8<=32):Holds encB w g p (UJ 8 (0:UInt8)):=by
 have:=Holds.part (p:=p) (e:=UJ 8 0) h (by simpa using b) (λj k=>by
  rw[UP]at k;rw[rep_at 8 j k,rep_at 32 (p+j) oM])
 rwa[UD]at this
theorem As(x:Ut)(m:Nat)(w:Ur)(hx:Four x m):
 UH prog 117 #[x] w (rZ w λe w'=>∃g a b c d:Nat,e=sZ g 32 32/\w.heap.size<=g/\x=.agg #[uZ a,uZ b,uZ c,uZ d]/\Holds encB w' g 0 (be32 a b c d)):=by
 obtain⟨a,b,c,d,rfl,H,N,G,hd,I⟩:=hx;clear I;have J:∀w:Ur,(Instr.makeSlice 23 (iZ 32) (iZ 32)).run prog w=.ok (sZ w.heap.size 32 32) (w.alloc (.cells (madeCells #[.int .u8 0] 32) 5)):=
  run_make_row' (P:=prog) 23 5 (.int .u8 0) 1 slice22 info5 rfl .i64 .i64 32 oM oM
 go_enter func117,ntmps117;go_wp2;refine wp_loop_rounds 5 ?_;have f:Holds encB ((w.alloc (.cells #[uZ a,uZ b,uZ c,uZ d] 47)).alloc (.cells (madeCells #[.int .u8 0] 32) 5)) (w.heap.size+1) 0 (UJ 32 0):=by
  have:=Holds.made (enc:=encB) (w.alloc (.cells #[uZ a,uZ b,uZ c,uZ d] 47)) 5 32 0;rw[UB]at this;exact this
 have n:=below2 w (.cells #[uZ a,uZ b,uZ c,uZ d] 47) (.cells (madeCells #[.int .u8 0] 32) 5);generalize ((w.alloc (.cells #[uZ a,uZ b,uZ c,uZ d] 47)).alloc (.cells (madeCells #[.int .u8 0] 32) 5))=W at f n⊢;have r:Hid (kZ w W):=n;generalize M:w.heap.size+1=g at f⊢;have p:=mk1 (M);have A:=nZ 24 f oM;have j:=nZ 16 f oM;have i:=nZ 8 f oM;have k:=nZ 0 f oM;have E:=TY a b c d;have B:=TX a b c d;have C:=TW a b c d;have z:=TV a b c d;rw[Xc];go_wp2_with (simp only[E])
 refine(kD g 24 8 8 a _ _ oM oM oM H (by rw[UP]) A).mono ?_;rintro e R ⟨rfl,t,b1⟩;replace j:=Holds.same j t (by simp);replace i:=Holds.same i t (by simp);replace k:=Holds.same k t (by simp);have l:=mk1 (r.trans (t.below r.size (by have:=p.out;omega)));go_wp2_with fail
 rw[Xc];go_wp2_with (simp only[B])
 refine(kD g 16 16 16 b _ _ oM oM oM N (by rw[UP]) j).mono ?_;rintro e Q ⟨rfl,u,s⟩;replace i:=Holds.same i u (by simp);replace k:=Holds.same k u (by simp);replace b1:=Holds.same b1 u (by simp);have q:=mk1 (l.trans (u.below l.size (by have:=p.out;omega)));go_wp2_with fail
 rw[Xc];go_wp2_with (simp only[C])
 refine(kD g 8 24 24 c _ _ oM oM oM G (by rw[UP]) i).mono ?_;rintro e O ⟨rfl,y,D⟩;replace k:=Holds.same k y (by simp);replace b1:=Holds.same b1 y (by simp);replace s:=Holds.same s y (by simp);have o:=mk1 (q.trans (y.below q.size (by have:=p.out;omega)));go_wp2_with fail
 rw[Xc];go_wp2_with (simp only[z])
 refine(kD g 0 32 32 d _ _ oM oM oM hd (by rw[UP]) k).mono ?_;rintro e S ⟨rfl,v,K⟩;replace b1:=Holds.same b1 v (by simp);replace s:=Holds.same s v (by simp);replace D:=Holds.same D v (by simp);have F:=mk1 (o.trans (v.below o.size (by have:=p.out;omega)));have L:=mk1 (Holds.join K D s b1);go_wp2_with fail
 rw[Xc];go_wp2
 go_ret;exact⟨_,rfl,F.out,g,a,b,c,d,rfl,by have:=p.out;omega,rfl,L.out⟩
theorem jH(a b t:Nat)(c:t<=56)(k:a<2^t)(j:b<256):bits .or .u64 (a:Int) ((b*2^t:Nat):Int)=((a+b*2^t:Nat):Int)/\a+b*2^t<2^(t+8):=by
 have i:2^t<=2^56:=VA dC c;have g:b*2^t<=255*2^t:=Xs _ oM;have d:2^(t+8)=256*2^t:=by rw[Yp,Vv]
 have f:(2:Nat)^56=72057594037927936:=dC;have e:=YF k b;refine⟨?_,oM⟩;rw[bits_or_u64_nat _ _ oM oM,yBU,Vv b,<-e,Nat.add_comm]
theorem pQ(b:UInt8)(t:Nat)(k:t<=56):Vo.wrap (Vo.wrap (ub b)*((2^t:Nat):Int))=((b.toNat*2^t:Nat):Int):=by
 have d:=b.toNat_lt;have f:2^t<=2^56:=VA dC k;have e:b.toNat*2^t<=255*2^t:=Xs _ oM;have c:(2:Nat)^56=72057594037927936:=dC;unfold ub;rw[wrapN _ oM,mulN,wrapN _ oM]
def w8(b0 b1 e b d c k f:UInt8):Nat:=
 f.toNat+k.toNat*256+c.toNat*65536+d.toNat*16777216+b.toNat*4294967296+e.toNat*1099511627776+b1.toNat*281474976710656+b0.toNat*72057594037927936
theorem Ep(b0 b1 e b d c k f:UInt8):w8 b0 b1 e b d c k f<18446744073709551616:=by
 have:=b0.toNat_lt;have:=b1.toNat_lt;have:=e.toNat_lt;have:=b.toNat_lt
 have:=d.toNat_lt;have:=c.toNat_lt;have:=k.toNat_lt;have:=f.toNat_lt
 unfold w8;omega
theorem KT(b0 b1 f c b e d k:UInt8):
 bits .or .u64 (bits .or .u64 (bits .or .u64 (bits .or .u64 (bits .or .u64 (bits .or .u64 (bits .or .u64 (Vo.wrap (ub k)) (Vo.wrap (Vo.wrap (ub d)*256)))
  (Vo.wrap (Vo.wrap (ub e)*65536))) (Vo.wrap (Vo.wrap (ub b)*16777216))) (Vo.wrap (Vo.wrap (ub c)*4294967296)))
  (Vo.wrap (Vo.wrap (ub f)*1099511627776))) (Vo.wrap (Vo.wrap (ub b1)*281474976710656))) (Vo.wrap (Vo.wrap (ub b0)*72057594037927936))=((w8 b0 b1 f c b e d k:Nat):Int):=by
 have B:=k.toNat_lt;have z:Vo.wrap (ub k)=(k.toNat:Int):=wrapN _ oM;have p:=pQ d 8 dC;have l:=pQ e 16 dC;have e3:=pQ b 24 dC;have o:=pQ c 32 dC;have g:=pQ f 40 dC;have m:=pQ b1 48 dC;have a:=pQ b0 56 dC;obtain⟨q,j⟩:=jH k.toNat d.toNat 8 dC oM (by have:=d.toNat_lt;omega);obtain⟨s,v⟩:=jH _ e.toNat 16 dC j (by have:=e.toNat_lt;omega);obtain⟨x,r⟩:=jH _ b.toNat 24 dC v (by have:=b.toNat_lt;omega);obtain⟨w,y⟩:=jH _ c.toNat 32 dC r (by have:=c.toNat_lt;omega);obtain⟨A,u⟩:=jH _ f.toNat 40 dC y (by have:=f.toNat_lt;omega);obtain⟨n,i⟩:=jH _ b1.toNat 48 dC u (by have:=b1.toNat_lt;omega);obtain⟨t,C⟩:=jH _ b0.toNat 56 dC i (by have:=b0.toNat_lt;omega);rw[show(256:Int)=((2^8:Nat):Int) from rfl,show(65536:Int)=((2^16:Nat):Int) from rfl,show(16777216:Int)=((2^24:Nat):Int) from rfl,
  show(4294967296:Int)=((2^32:Nat):Int) from rfl,show(1099511627776:Int)=((2^40:Nat):Int) from rfl,show(281474976710656:Int)=((2^48:Nat):Int) from rfl,show(72057594037927936:Int)=((2^56:Nat):Int) from rfl,
  z,p,l,e3,o,g,m,a,q,s,x,w,A,n,t]
 rfl
theorem word_any(g o n cap:Nat)(k:Bs)(w:Ur)(A:8<=n)(s:n<=cap)(c:cap<=1048576)(u:8<=k.size)(b:Holds encB w g o k):
 UH prog 195 #[.slice (some ⟨g,o,none⟩) n cap] w λe w'=>e=.returned (.int .u64 ((w8 k[0]! k[1]! k[2]! k[3]! k[4]! k[5]! k[6]! k[7]!:Nat):Int))/\∃n,w'=w.drewN n:=by
 obtain⟨i,m⟩:=b 0 oM;obtain⟨c1,z⟩:=b 1 oM;obtain⟨c2,f2⟩:=b 2 oM;obtain⟨B,E⟩:=b 3 oM;obtain⟨a,t⟩:=b 4 oM;obtain⟨y,F⟩:=b 5 oM;obtain⟨x,v⟩:=b 6 oM;obtain⟨D,C⟩:=b 7 oM;rw[XB]at i m;unfold encB at *;generalize k[0]! = b0 at *;generalize k[1]! = b1 at *;generalize k[2]! = r at *;generalize k[3]! = l at *;generalize k[4]! = f at *;generalize k[5]! = q at *;generalize k[6]! = p at *;generalize k[7]! = j at *;have d:=mk1 (KT b0 b1 r l f q p j);go_enter func195,ntmps195;go_wp2;go_quiet (fail);go_wp2;go_ret;exact⟨ret_int d.out,_,rfl⟩
def beV(l:List UInt8):Nat:=l.foldl (λn b=>256*n+b.toNat) 0
theorem DV(l:List UInt8):∀n,l.foldl (λn b=>256*n+b.toNat) n=n*256^l.length+beV l:=by
 induction l with
 | nil=>intro n;simp[beV]
 | cons x r ih =>
  intro n;have c:=ih (256*n+x.toNat);have k:=ih (256*0+x.toNat);simp only[yBd,List.length_cons,beV]at *;rw[c,k,V7,Nat.add_mul,ZP,UD,Vv 256 n,X1,Vv 256];omega
theorem jP(l r:List UInt8):beV (l++r)=beV l*256^r.length+beV r:=by
 rw[beV,List.foldl_append,DV];rfl
theorem G8(n:Nat)(l:List UInt8):beV (VB n 0++l)=beV l:=by
 rw[jP];have:beV (VB n 0)=0:=by
  induction n with
  | zero=>rfl
  | succ k ih=>rw[List.replicate_succ',jP,ih];rfl
 rw[this,Nat.zero_mul,UD]
theorem J5(u v x y r w t s z a q m d f b c x16 x17 p i g x21 k x23 e n x26 x27 o l x30 j:UInt8):
 beV [u,v,x,y,r,w,t,s,z,a,q,m,d,f,b,c,x16,x17,p,i,g,x21,k,x23,e,n,x26,x27,o,l,x30,j]
  = val (w8 e n x26 x27 o l x30 j) (w8 x16 x17 p i g x21 k x23) (w8 z a q m d f b c) (w8 u v x y r w t s):=by
 simp only[beV,yBd,List.foldl_nil,w8,val];omega
theorem G9(k:Bs)(h:k.size=32):beV k.toList=val (w8 k[24]! k[25]! k[26]! k[27]! k[28]! k[29]! k[30]! k[31]!) (w8 k[16]! k[17]! k[18]! k[19]! k[20]! k[21]! k[22]! k[23]!)
 (w8 k[8]! k[9]! k[10]! k[11]! k[12]! k[13]! k[14]! k[15]!) (w8 k[0]! k[1]! k[2]! k[3]! k[4]! k[5]! k[6]! k[7]!):=by
 obtain⟨l⟩:=k;match l,h with
 | [x0,x1,x2,x3,x4,x5,x6,x7,x8,x9,x10,x11,x12,x13,x14,x15,x16,x17,x18,x19,x20,x21,x22,x23,x24,x25,x26,x27,x28,x29,x30,x31],_=>exact J5 x0 x1 x2 x3 x4 x5 x6 x7 x8 x9 x10 x11 x12 x13 x14 x15 x16 x17 x18 x19 x20 x21 x22 x23 x24 x25 x26 x27 x28 x29 x30 x31
theorem zero32:∀w:Ur,(zeroValue 273).run prog w=.ok (.agg (UJ 32 (.int .u8 0))) w:=λ_=>kR
theorem ints5:(prog.info? 5).map (·.size)=some 1:=kR
def padded(n:Nat)(k:Bs):Bs:=UJ (32-n) 0++k
theorem tY(n:Nat)(k:Bs)(b:k.size=n)(c:n<=32):(padded n k).size=32:=by
 unfold padded;rw[VN,UP];omega
theorem Dw(n:Nat)(k:Bs):beV (padded n k).toList=beV k.toList:=by
 unfold padded;rw[Array.toList_append,Array.toList_replicate,G8]
theorem MQ{w:Ur}{b g o n cap:Nat}{c:Bs}(i:Holds encB w b 0 (UJ 32 0))(s:n<=32)(t:Holds encB w g o c)(m:c.size=n):
 (XZ #[23,23] 3 #[.slice (some ⟨b,32-n,none⟩) n n,.slice (some ⟨g,o,none⟩) n cap]).run prog w=.ok (goInt n) (w.setCells b (32-n) (c.toList.map encB))
  /\ Holds encB (w.setCells b (32-n) (c.toList.map encB)) b 0 (padded n c):=by
 have k:(c.toList.map encB).length=n:=by rw[UQ,Array.length_toList,m]
 refine⟨?_,?_⟩
 ·have:=run_copy_cells (P:=prog) w 23 23 3 5 b (32-n) n n ⟨g,o,none⟩ n cap (c.toList.map encB) slice22 ints5 (by rw[k];exact(Nat.min_self n).symm)
   (λj u d=>by
    obtain⟨f,e⟩:=List.getElem?_eq_some_iff.1 d;rw[k]at f;have l:=(t j oM).1;rw[getElem!_pos c j oM]at l;rw[Xd,XE]at e;have q:(⟨g,o,none⟩:Addr).add j=⟨g,o+j,none⟩:=by
     unfold Zi;by_cases p:j=0
     ·subst p;rw[yCj rfl];rfl
     ·rw[yCk p]
    rw[q,l,e])
   (λj d=>by
    have:=(i (32-n+j) (by rw[UP];omega)).1;rw[UD]at this;rw[this];rfl)
   (λj d=>by
    have:=(i (32-n+j) (by rw[UP];omega)).2;rwa[UD]at this)
   (λu l=>by obtain⟨x,_,rfl⟩:=List.mem_map.1 l;rfl)
  rw[k]at this;exact this
 ·have:=Holds.setCells (r:=padded n c) i (c.toList.map encB) (32-n) (by rw[tY n c m s,UP]) (by rw[k,UP];omega) (λj d=>?_) (λj f e=>?_)
  ·rw[UD]at this;exact this
  ·rw[k]at d;rw[Xd,XE];unfold padded;rw[app_back _ _ _ (by rw[UP];omega) (by rw[UP];omega),UP,show 32-n+j-(32-n)=j by omega,getElem!_pos c j oM]
  ·rw[UP]at f;rw[k]at e;unfold padded;rw[app_front _ _ j (by rw[UP];omega),Ww,rep_at 32 j f]
theorem EM{w:Ur}{g:Nat}{T:Bs}(p:Nat)(h:Holds encB w g 0 T)(b:p+8<=T.size):Holds encB w g p #[T[p]!,T[p+1]!,T[p+2]!,T[p+3]!,T[p+4]!,T[p+5]!,T[p+6]!,T[p+7]!]:=by
 have:=Holds.part (p:=p) (e:=#[T[p]!,T[p+1]!,T[p+2]!,T[p+3]!,T[p+4]!,T[p+5]!,T[p+6]!,T[p+7]!]) h (by simpa using b) (λj k=>by
  have:j<8:=by simpa using k
  match j,this with
  | 0,_=>rfl
  | 1,_=>rfl
  | 2,_=>rfl
  | 3,_=>rfl
  | 4,_=>rfl
  | 5,_=>rfl
  | 6,_=>rfl
  | 7,_=>rfl)
 rwa[UD]at this
theorem nQ(g o n cap:Nat)(b0 b1 j d b i f c:UInt8)(w:Ur)(m:8<=n)(l:n<=cap)(k:cap<=1048576)(p:Holds encB w g o #[b0,b1,j,d,b,i,f,c]):
 UH prog 195 #[.slice (some ⟨g,o,none⟩) n cap] w λe w'=>e=.returned (uZ ((w8 b0 b1 j d b i f c:Nat):Int))/\∃n,w'=w.drewN n:=
 word_any g o n cap #[b0,b1,j,d,b,i,f,c] w m l k (Uw 8) p
theorem Holds.far{w:Ur}{g o j i:Nat}{k:Bs}(h:Holds encB w g o k)(c:j≠g)(v:Ut):Holds encB (w.setCell ⟨j,i,none⟩ v) g o k:=by
 intro l b;rw[UU _ _ _ _ (bH (U4 c)),VM];exact h l b
theorem kK(A:Option Addr)(g o n cap:Nat)(m:Bs)(w:Ur)(hn:n<=32)(hc:n<=cap)(hs:m.size=n)(W:n=0\/(A=some ⟨g,o,none⟩/\Holds encB w g o m)):
 UH prog 125 #[.slice A n cap] w (rZ w λe w'=>Four e (beV m.toList)):=by
 have G:=tY n m hs hn;have B:=mk1 ((Dw n m).symm.trans (G9 _ G));have zv:=zero32;have h5:(n:Int)<=32:=oM;have d0:(0:Int)<=32-(n:Int):=oM;have d1:(32:Int)-(n:Int)<=32:=oM;have d2:((32:Int)-(n:Int)).toNat=32-n:=oM;go_enter func125,ntmps125
 go_upto_region 2 with fail
 have R:=(At4.made w 47 0 0 0 0 rfl).alloc (.cells (UJ 32 (.int .u8 0)) 273);have Z:Holds encB ((w.alloc (.cells #[uZ 0,uZ 0,uZ 0,uZ 0] 47)).alloc (.cells (UJ 32 (.int .u8 0)) 273)) (w.heap.size+1) 0 (UJ 32 0):=by
  have:=Holds.new (enc:=encB) (w.alloc (.cells #[uZ 0,uZ 0,uZ 0,uZ 0] 47)) 273 (UJ 32 0);rw[Array.map_replicate,UB]at this;exact this
 have BL:=below2 w (.cells #[uZ 0,uZ 0,uZ 0,uZ 0] 47) (.cells (UJ 32 (.int .u8 0)) 273);simp only[WH]at R;have I:n=0\/(A=some ⟨g,o,none⟩/\Holds encB ((w.alloc (.cells #[uZ 0,uZ 0,uZ 0,uZ 0] 47)).alloc (.cells (UJ 32 (.int .u8 0)) 273)) g o m):=by
  rcases W with h|⟨h1,b⟩
  ·exact U4 h
  ·by_cases D:n=0
   ·exact U4 D
   ·exact UX ⟨h1,Holds.below b BL (Holds.lt b oM)⟩
 clear W;generalize Xt _ _=S at R Z BL I⊢
 go_cut [] (λwx=>Holds encB wx (w.heap.size+1) 0 (padded n m)/\At4 wx w.heap.size 0 0 0 0/\kZ w wx)
 case first =>
  by_cases D:n=0
  ·subst D;have f:∀w d b dc,(XZ #[23,23] 3 #[.slice d b dc,.slice A 0 cap]).run prog w=.ok (goInt 0) w:=λw d b dc=>run_copy_none w 23 23 3 5 d A b dc 0 cap slice22 ints5 (by simp)
   have c:padded 0 m=UJ 32 0:=by
    have:m=#[]:=Array.eq_empty_of_size_eq_zero hs;rw[this];rfl
   go_wp2
   go_meet
   exact⟨by rw[c];exact Z,R,BL⟩
  ·obtain⟨rfl,W⟩:A=some ⟨g,o,none⟩/\Holds encB S g o m:=I.resolve_left D;obtain⟨f,j⟩:=MQ (cap:=cap) Z hn W hs;have l:32-(32-n)=n:=oM;have b:At4 (S.setCells (w.heap.size+1) (32-n) (m.toList.map encB)) w.heap.size 0 0 0 0:=by
    have c:=heap_setCells (w.heap.size+1) (k:=w.heap.size) oM (m.toList.map encB) (32-n) S;exact⟨by rw[<-R.c0];exact UW c,by rw[<-R.c1];exact UW c,by rw[<-R.c2];exact UW c,by rw[<-R.c3];exact UW c,λo=>by rw[<-R.f o];exact World.frozen?_of_block c⟩
   have y:kZ w (S.setCells (w.heap.size+1) (32-n) (m.toList.map encB)):=below_setCells (Zl _) _ _ _ BL;have c:=mk3 j b y;go_wp2
   go_meet
   exact c.out
 case rest =>
  obtain⟨E,b,y⟩:=hcut;generalize padded n m=T at E G B⊢;have Y:=EM 24 E oM;have p2:=EM 16 E oM;have p1:=EM 8 E oM;have p0:=EM 0 E oM;have zk:=b.lt;have r:=Holds.lt E oM;generalize K:w8 T[24]! T[25]! T[26]! T[27]! T[28]! T[29]! T[30]! T[31]! = x at B;generalize F:w8 T[16]! T[17]! T[18]! T[19]! T[20]! T[21]! T[22]! T[23]! = C at B;generalize J:w8 T[8]! T[9]! T[10]! T[11]! T[12]! T[13]! T[14]! T[15]! = M at B;generalize H:w8 T[0]! T[1]! T[2]! T[3]! T[4]! T[5]! T[6]! T[7]! = q at B;have l3:=K ▸ Ep _ _ _ _ _ _ _ _;have l2:=F ▸ Ep _ _ _ _ _ _ _ _;have l1:=J ▸ Ep _ _ _ _ _ _ _ _;have l0:=H ▸ Ep _ _ _ _ _ _ _ _;go_wp2;have N:=At4.made wc 47 0 0 0 0 rfl;simp only[WH]at N;replace Y:=Holds.below Y (aC wc (.cells #[uZ 0,uZ 0,uZ 0,uZ 0] 47)) r;replace p2:=Holds.below p2 (aC wc (.cells #[uZ 0,uZ 0,uZ 0,uZ 0] 47)) r;replace p1:=Holds.below p1 (aC wc (.cells #[uZ 0,uZ 0,uZ 0,uZ 0] 47)) r;replace p0:=Holds.below p0 (aC wc (.cells #[uZ 0,uZ 0,uZ 0,uZ 0] 47)) r;have BL:=mk1 (y.alloc (XK zk) (.cells #[uZ 0,uZ 0,uZ 0,uZ 0] 47));replace b:=b.alloc (.cells #[uZ 0,uZ 0,uZ 0,uZ 0] 47);have a:w.heap.size≠wc.heap.size:=oM;have t:w.heap.size+1≠wc.heap.size:=oM;have Q:Hid (w.heap.size<=wc.heap.size):=by unfold Hid;omega
  generalize wc.heap.size=P at N a t Q⊢;generalize h1:w.heap.size+1=X at Y p2 p1 p0 t⊢;generalize D:w.heap.size=V at b a BL Q⊢;have H0:=mk1 (D);refine wp_loop_rounds 5 ?_;obtain⟨f,c,j,l,u⟩:=id N;have s:=N.lt;rw[Xc];go_wp2_with fail
  refine(nQ X 24 8 8 _ _ _ _ _ _ _ _ _ dC dC dC Y).mono ?_;rintro e w1 ⟨rfl,z,rfl⟩;rw[K];replace N:=N.drewN z;obtain⟨f,c,j,l,u⟩:=id N;have s:=N.lt;go_wp2_with fail
  replace N:=N.set0 x;replace b:=(b.drewN z).other (o:=0) a.symm (uZ x);replace BL:Hid (Below V w _):=(mK BL.out z).setCell (p:=⟨P,0,none⟩) Q.out (uZ x);replace p2:=Holds.far (Holds.drewN p2 z) (i:=0) t.symm (uZ x);replace p1:=Holds.far (Holds.drewN p1 z) (i:=0) t.symm (uZ x);replace p0:=Holds.far (Holds.drewN p0 z) (i:=0) t.symm (uZ x);obtain⟨f,c,j,l,u⟩:=id N;have s:=N.lt;rw[Xc];go_wp2_with fail
  refine(nQ X 16 16 16 _ _ _ _ _ _ _ _ _ dC dC dC p2).mono ?_;rintro e w1 ⟨rfl,L,rfl⟩;rw[F];replace N:=N.drewN L;obtain⟨f,c,j,l,u⟩:=id N;have s:=N.lt;go_wp2_with fail
  replace N:=N.set1 C;replace b:=(b.drewN L).other (o:=1) a.symm (uZ C);replace BL:Hid (Below V w _):=(mK BL.out L).setCell (p:=⟨P,1,none⟩) Q.out (uZ C);replace p1:=Holds.far (Holds.drewN p1 L) (i:=1) t.symm (uZ C);replace p0:=Holds.far (Holds.drewN p0 L) (i:=1) t.symm (uZ C);obtain⟨f,c,j,l,u⟩:=id N;have s:=N.lt;rw[Xc];go_wp2_with fail
  refine(nQ X 8 24 24 _ _ _ _ _ _ _ _ _ dC dC dC p1).mono ?_;rintro e w1 ⟨rfl,U,rfl⟩;rw[J];replace N:=N.drewN U;obtain⟨f,c,j,l,u⟩:=id N;have s:=N.lt;go_wp2_with fail
  replace N:=N.set2 M;replace b:=(b.drewN U).other (o:=2) a.symm (uZ M);replace BL:Hid (Below V w _):=(mK BL.out U).setCell (p:=⟨P,2,none⟩) Q.out (uZ M);replace p0:=Holds.far (Holds.drewN p0 U) (i:=2) t.symm (uZ M);obtain⟨f,c,j,l,u⟩:=id N;have s:=N.lt;rw[Xc];go_wp2_with fail
  refine(nQ X 0 32 32 _ _ _ _ _ _ _ _ _ dC dC dC p0).mono ?_;rintro e w1 ⟨rfl,q3,rfl⟩;rw[H];replace N:=N.drewN q3;obtain⟨f,c,j,l,u⟩:=id N;have s:=N.lt;go_wp2_with fail
  replace N:=N.set3 q;replace b:=(b.drewN q3).other (o:=3) a.symm (uZ q);replace BL:Hid (Below V w _):=(mK BL.out q3).setCell (p:=⟨P,3,none⟩) Q.out (uZ q);obtain⟨f,c,j,l,u⟩:=id N;have s:=N.lt;obtain⟨h3,h7,h6,h4,rf⟩:=id b;have zr:=b.lt;rw[Xc];go_wp2
  have O:=b.self4 x C M q;unfold set4 at O;refine UE (v:=?v) ?hr rfl ?hR
  case hr=>simp[results,Tryz.results125,go_sem,O.c0,O.c1,O.c2,O.c3];rfl
  refine⟨_,rfl,?_,Four.mk l3 l2 l1 l0 B.out⟩;rw[H0.out];exact aL BL.out (Uw _) _ _ _ _
theorem rP(j l g P:Nat)(hG:Gap j l g P)(w:Ur):
 UH prog 222 #[.agg #[uZ j,uZ l,uZ g,uZ 0]] w (rZ w λe w'=>Four e P):=by
 have r:=hG.hg;go_enter func222,ntmps222;go_wp2_with fail
 have R:=At4.made (w.alloc (.cells #[uZ j,uZ l,uZ g,uZ 0] 120)) 47 0 0 0 0 (UB _ _);have BL:=below2 w (.cells #[uZ j,uZ l,uZ g,uZ 0] 120) (.cells #[uZ 0,uZ 0,uZ 0,uZ 0] 47);simp only[WH]at R;refine(sL _ _ 0 _ (Four.mk (a:=0) (b:=0) (c:=0) (d:=0) dC dC dC dC rfl) (Four.mk hG.h0 hG.h1 hG.h2 dC rfl) _).mono ?_;rintro e H ⟨v,rfl,m,v2,t,k,rfl,n,D,o⟩;replace o:t+val j l g 0=0+top*k:=o;have p:t=P:=by
  have i:=n.lt;have f:=hG.hP;have:k=0\/k=1:=oM;rcases this with h|h<;>rw[h]at o<;>omega
 subst p;replace R:=R.call m;have q:=mk1 (BL.trans (m.mono BL.size));obtain⟨a,b,c,d,rfl,C,I,B,hd,F⟩:=id n;have z:=R.lt;go_wp2_with fail
 refine(jI _ _ n _).mono ?_;rintro e x ⟨G,rfl,f,rfl⟩;replace q:Hid (kZ w x):=(q.alloc oM _).trans (f.mono (by simp;omega));replace R:=(R.alloc _).call f;obtain⟨y,A,s,u,E⟩:=id R;have z:=R.lt;go_wp2;have i:=R.self4 a b c d;unfold set4 at i;refine UE (v:=?v) ?hr rfl ?hR
 case hr=>simp[results,Tryz.results222,go_sem,i.c0,i.c1,i.c2,i.c3];rfl
 exact⟨_,rfl,aL q.out (Zl _) _ _ _ _,n⟩
theorem NG(w:Ur)(t0 t1 t2:U8)(a b c d e f g h i j k l:Nat):
 Kept w w.heap.size [⟨w.heap.size,0,a,b,c,d⟩,⟨w.heap.size+1,0,e,f,g,h⟩,⟨w.heap.size+1+1,0,i,j,k,l⟩]
  (((w.alloc (.cells #[uZ a,uZ b,uZ c,uZ d] t0)).alloc (.cells #[uZ e,uZ f,uZ g,uZ h] t1)).alloc (.cells #[uZ i,uZ j,uZ k,uZ l] t2)):=by
 refine(((Kept.mk1 (below3 w _ _ _) (below3 w _ _ _).size).cons ?_).cons ?_).cons ?_
 ·exact(At4.made _ t2 i j k l (by simp)).blk
 ·exact((At4.made _ t1 e f g h (by simp)).alloc _).blk
 ·exact(((At4.made _ t0 a b c d rfl).alloc _).alloc _).blk
theorem uJ(i f g P:Nat)(x:Ut)(m:Nat)(hG:Gap i f g P)(j:2<=P%18446744073709551616)(hx:Four x m)(w:Ur):
 UH prog 185 #[.agg #[uZ i,uZ f,uZ g,uZ 0],x] w (rZ w λe w'=>Four e (m^(P-2)%P)):=by
 obtain⟨a,b,c,d,rfl,K,hb,Q,hd,D⟩:=id hx;have C:Hid (Four _ m):=hx;have A:Hid (Gap i f g P):=hG;clear D hx K hb Q hd hG;go_enter func185,ntmps185;go_wp2_with fail
 have k:=NG w 120 47 47 i f g 0 a b c d 0 0 0 0;simp only[WH]at k;generalize Xt _ _=W0 at k⊢;generalize h2:w.heap.size+1+1=H at k⊢;generalize h1:w.heap.size+1=k1 at k⊢;have z:Hid (w.heap.size<=H):=by unfold Hid;omega
 generalize h0:w.heap.size=k0 at k z⊢;have H0:=mk1 (h0);refine(rP i f g P A.out _).mono ?_;rintro e w1 ⟨v,rfl,s,o⟩;obtain⟨r,R,X,pd,rfl,Y,y,u,q,B⟩:=id o;replace k:=k.call s;have h3:2<=r:=by rw[B]at j;unfold val at j;omega
 obtain⟨p,n⟩:∃p,r=p+2:=⟨r-2,oM⟩
 have W:Hid (Four (.agg #[uZ p,uZ R,uZ X,uZ pd]) (P-2)):=by
  refine Four.mk oM y u q ?_;rw[B,n];unfold val;omega
 have hw:=wrapN p oM;obtain⟨h4,J,S,M,xf⟩:=k.tail.head.at4;have zx:=k.tail.head.lt;obtain⟨Z,T,N,h5,pf⟩:=k.head.at4;have U:=k.head.lt;have n1:=Xk zx;have n0:=Xk U;go_wp2_with fail
 refine(zO i f g P _ _ _ _ A.out C.out W.out _).mono ?_;rintro e w2 ⟨v,rfl,t,o⟩;replace k:=(k.alloc _).call t;obtain⟨qa,G,L,I,rfl,F,h8,h9,h6,eQ⟩:=id o;have E:=mk1 (o);obtain⟨O,he,h7,V,rf⟩:=k.tail.tail.head.at4;have zr:=k.tail.tail.head.lt;go_wp2;have l:=k.tail.tail.head.at4.self4 qa G L I;unfold set4 at l;refine UE (v:=?v) ?hr rfl ?hR
 case hr=>simp[results,Tryz.results185,go_sem,l.c0,l.c1,l.c2,l.c3];rfl
 refine⟨_,rfl,?_,E.out⟩;rw[H0.out];exact aL k.bl z.out _ _ _ _
theorem QA:prog.underlying 22=some (.int .u64):=kR
theorem Tj:∀w,(sizeOf 22).run prog w=.ok 1 w:=λ_=>kR
theorem Tc:prog.underlying 47=some (.array 4 22):=kR
theorem Fu(D:Nat)(a b c d p q r s:Nat)(w:Ur):
 (yCa (D+1+1) 47 (.agg #[uZ a,uZ b,uZ c,uZ d]) (.agg #[uZ p,uZ q,uZ r,uZ s])).run prog w=.ok (decide (a=p/\b=q/\c=r/\d=s)) w:=by
 have e:=λ(x y:Nat)=>run_equalIn_int (P:=prog) w D 22 .u64 .u64 (x:Int) (y:Int) QA
 rw[yCa];simp only[Sem.run_bind,run_underlying Tc,Vm,Tj];simp only[Std.Legacy.Range.forIn_eq_forIn_range',Std.Legacy.Range.size,List.range',List.forIn_cons,List.forIn_nil];by_cases k:a=p
 ·by_cases f:b=q
  ·by_cases g:c=r
   ·by_cases i:d=s
    ·simp[k,f,g,i,part,e]
    ·simp[k,f,g,i,part,e];omega
   ·simp[k,f,g,part,e];omega
  ·simp[k,f,part,e];omega
 ·simp[k,part,e];omega
theorem Rm(a b c d p q r s:Nat)(w:Ur):
 (binOp .neq 47 (.agg #[uZ a,uZ b,uZ c,uZ d]) (.agg #[uZ p,uZ q,uZ r,uZ s])).run prog w=.ok (.bool (!decide (a=p/\b=q/\c=r/\d=s))) w:=by
 rw[run_neq_struct,Fu 9998];rfl
theorem OK(a b c d:Nat)(w:Ur):(binOp .neq 47 (.agg #[uZ a,uZ b,uZ c,uZ d]) (.agg #[uZ a,uZ b,uZ c,uZ d])).run prog w=.ok (.bool false) w:=by
 rw[Rm,decide_eq_true ⟨rfl,rfl,rfl,rfl⟩];rfl
theorem Mn{a b c d p q r s:Nat}(h:¬(a=p/\b=q/\c=r/\d=s))(w:Ur):(binOp .neq 47 (.agg #[uZ a,uZ b,uZ c,uZ d]) (.agg #[uZ p,uZ q,uZ r,uZ s])).run prog w=.ok (.bool true) w:=by
 rw[Rm,decide_eq_false h];rfl
theorem O1(a b:Nat)(d:a<18446744073709551616):bits .or .u64 ((a/4:Nat):Int) ((b*4611686018427387904%18446744073709551616:Nat):Int)=((a/4+b*4611686018427387904%18446744073709551616:Nat):Int)/\a/4+b*4611686018427387904%18446744073709551616<18446744073709551616:=by
 have c:b*4611686018427387904%18446744073709551616=2^62*(b%4):=oM;have k:=YF (i:=62) (b:=a/4) oM (b%4);rw[bits_or_u64_nat _ _ oM oM,c,yBU,<-k];omega
theorem BX(x:Ut)(m:Nat)(hx:Four x m)(w:Ur):
 UH prog 226 #[x] w (rZ w λe w'=>Four e (m/4)):=by
 obtain⟨a,b,c,d,rfl,r,u,q,hd,j⟩:=id hx;obtain⟨i,l⟩:=O1 a b r;obtain⟨f,n⟩:=O1 b c u;obtain⟨g,p⟩:=O1 c d q;have k:=Dq a b c d;rw[<-j]at k;have s0:(a:Int)/4=((a/4:Nat):Int):=oM;have s1:(b:Int)/4=((b/4:Nat):Int):=oM;have s2:(c:Int)/4=((c/4:Nat):Int):=oM;have s3:(d:Int)/4=((d/4:Nat):Int):=oM;have t1:Vo.wrap ((b:Int)*4611686018427387904)=((b*4611686018427387904%18446744073709551616:Nat):Int):=by rw[XU];omega
 have t2:Vo.wrap ((c:Int)*4611686018427387904)=((c*4611686018427387904%18446744073709551616:Nat):Int):=by rw[XU];omega
 have t:Vo.wrap ((d:Int)*4611686018427387904)=((d*4611686018427387904%18446744073709551616:Nat):Int):=by rw[XU];omega
 have o:d/4<18446744073709551616:=oM;generalize a/4+b*4611686018427387904%18446744073709551616=C at i l k;generalize b/4+c*4611686018427387904%18446744073709551616=F at f n k;generalize c/4+d*4611686018427387904%18446744073709551616=y at g p k;generalize b*4611686018427387904%18446744073709551616=v1 at i t1;generalize c*4611686018427387904%18446744073709551616=v2 at f t2;generalize d*4611686018427387904%18446744073709551616=z at g t;generalize a/4=A at i s0;generalize b/4=E at f s1;generalize c/4=D at g s2;generalize d/4=B at s3 o k;have s:Hid _:=k;clear k j hx;go_enter func226,ntmps226;go_wp2;refine UE (v:=?v) ?hr rfl ?hR
 case hr=>simp[results,Tryz.results226,go_sem];rfl
 exact⟨_,rfl,below2 _ _ _,Four.mk l n p o s.symm⟩
theorem F6(x:Ut)(m:Nat)(hx:Four x m)(w:Ur):
 UH prog 116 #[x] w (rZ w λe w'=>e=.bool (decide (m%2=1))):=by
 obtain⟨a,b,c,d,rfl,k,l,j,hd,f⟩:=id hx;have ho:=and_one a k;have g:m%2=a%2:=by rw[f];unfold val;omega
 rw[g];have i:a%2=0\/a%2=1:=oM;rcases i with h|h
 ·rw[h]at ho⊢;go_enter func116,ntmps116;go_wp2;go_ret;exact⟨_,rfl,aC _ _,rfl⟩
 ·rw[h]at ho⊢;go_enter func116,ntmps116;go_wp2;go_ret;exact⟨_,rfl,aC _ _,rfl⟩
theorem qR{w W:Ur}{k f o e a b c d n j i rd g m l:Nat}(h:Kept w k [⟨k,0,g,m,l,0⟩,⟨e,0,n,j,i,rd⟩,⟨f,0,a,b,c,d⟩,⟨o,0,0,0,0,0⟩] W):W.cell? ⟨k,0,none⟩=some (uZ g)/\W.cell? ⟨k,1,none⟩=some (uZ m)/\W.cell? ⟨k,2,none⟩=some (uZ l)/\W.cell? ⟨k,3,none⟩=some (uZ 0)/\W.cell? ⟨e,0,none⟩=some (uZ n)/\W.cell? ⟨e,1,none⟩=some (uZ j)/\W.cell? ⟨e,2,none⟩=some (uZ i)/\W.cell? ⟨e,3,none⟩=some (uZ rd)/\W.cell? ⟨f,0,none⟩=some (uZ a)/\W.cell? ⟨f,1,none⟩=some (uZ b)/\W.cell? ⟨f,2,none⟩=some (uZ c)/\W.cell? ⟨f,3,none⟩=some (uZ d)/\Kept w k [⟨k,0,g,m,l,0⟩,⟨e,0,n,j,i,rd⟩,⟨f,0,a,b,c,d⟩,⟨o,0,0,0,0,0⟩] W:=
 ⟨h.head.c0,h.head.c1,h.head.c2,h.head.c3,h.tail.head.c0,h.tail.head.c1,h.tail.head.c2,h.tail.head.c3,h.tail.tail.head.c0,h.tail.tail.head.c1,h.tail.tail.head.c2,h.tail.tail.head.c3,h⟩
theorem four_ne{a b c d m n:Nat}{v:Ut}(h:Four v n)(e:Four (.agg #[uZ a,uZ b,uZ c,uZ d]) m)(k:¬n=m):
 ∃p q r s:Nat,v=.agg #[uZ p,uZ q,uZ r,uZ s]/\¬(p=a/\q=b/\r=c/\s=d):=by
 obtain⟨p,q,r,s,rfl,f⟩:=id h;refine⟨p,q,r,s,rfl,?_⟩;rintro⟨rfl,rfl,rfl,rfl⟩;exact k (h.num e)
def even(P r:Nat):Nat:=if r%2=1 then P-r else r
def RootR(P m R:Nat)(e:Ut):Prop:=∃(c d b k:Nat) (ok:Bool),e=.tuple #[.agg #[uZ c,uZ d,uZ b,uZ k],.bool ok] /\
 (ok=true->R*R%P=m/\Four (.agg #[uZ c,uZ d,uZ b,uZ k]) (even P R))/\(ok=false->¬R*R%P=m)/\(ok=false->c=0/\d=0/\b=0/\k=0)
theorem RootR.yes{P m R c d b k:Nat}(h:R*R%P=m)(e:Four (.agg #[uZ c,uZ d,uZ b,uZ k]) (even P R)):RootR P m R (.tuple #[.agg #[uZ c,uZ d,uZ b,uZ k],.bool true]):=
 ⟨c,d,b,k,true,rfl,λ_=>⟨h,e⟩,λh=>Yx h,λh=>Yx h⟩
theorem RootR.no{P m R:Nat}(h:¬R*R%P=m):RootR P m R (.tuple #[.agg #[uZ 0,uZ 0,uZ 0,uZ 0],.bool false]):=
 ⟨0,0,0,0,false,rfl,λh=>Yx h,λ_=>h,λ_=>⟨rfl,rfl,rfl,rfl⟩⟩
theorem CU(p l n P:Nat)(x:Ut)(m:Nat)(hG:Gap p l n P)(T:P/4%18446744073709551616<18446744073709551615)(hx:Four x m)(w:Ur):
 UH prog 191 #[.agg #[.int .u64 p,.int .u64 l,.int .u64 n,.int .u64 0],x] w (Ret λe w'=>Below w.heap.size w w'/\RootR P m (m^(P/4+1)%P) e):=by
 obtain⟨a,b,c,d,rfl,ha,hb,hc,hd,em⟩:=id hx;have HX:Hid (Four _ m):=hx;have HG:Hid (Gap p l n P):=hG;obtain⟨R,hR⟩:∃R,m^(P/4+1)%P=R:=⟨_,rfl⟩
 have h3:R<P:=by
  rw[<-hR];refine V5 _ ?_;have:=hG.hP2;omega
 rw[hR];have hy:Hid (m^(P/4+1)%P=R):=hR;have X:Hid (R<P):=h3;clear em hx ha hb hc hd hG hR h3;go_enter func191,ntmps191;go_wp2_with fail
 have k:=NG w 120 47 47 p l n 0 a b c d 0 0 0 0;simp only[WH]at k;generalize Xt _ _=W0 at k⊢;generalize h2:w.heap.size+1+1=K at k⊢;generalize Y:w.heap.size+1=r at k⊢;have Q2:Hid (w.heap.size<=K):=by unfold Hid;omega
 generalize h0:w.heap.size=i at k Q2⊢;have H0:Hid (w.heap.size=i):=h0;clear h0 Y h2;refine(rP p l n P HG.out _).mono ?_;rintro e w1 ⟨v,rfl,f,G⟩;obtain⟨pa,pb,pc,pd,rfl,-⟩:=id G;replace k:=k.call f;clear f;go_wp2_with fail
 refine(BX _ _ G _).mono ?_;rintro e w2 ⟨v,rfl,h6,h4⟩;obtain⟨qa,qb,qc,qd,rfl,hk,hi,hj,he,eq⟩:=id h4;replace k:=k.call h6;clear h6 G h4;have hq:qa<18446744073709551615:=by rw[eq]at T;unfold val at T;omega
 obtain⟨qe,F⟩:∃qe,qa+1=qe:=⟨_,rfl⟩
 have HE:Hid (Four (.agg #[.int .u64 qe,.int .u64 qb,.int .u64 qc,.int .u64 qd]) (P/4+1)):=by
  refine Four.mk oM hi hj he ?_;rw[eq,<-F];unfold val;omega
 have hg:(qa:Int)+1=(qe:Int):=oM;have hw:=wrapN qe oM;clear hq eq T hk hi hj he F;obtain⟨hu,hl,hs,hn,xf⟩:=k.tail.head.at4;have zx:=k.tail.head.lt;obtain⟨Q,N,M,U,pf⟩:=k.head.at4;have zp:=k.head.lt;have n1:r≠w2.heap.size:=Xk zx;have n0:i≠w2.heap.size:=Xk zp;go_wp2_with fail
 refine(zO p l n P _ _ _ _ HG.out HX.out HE.out _).mono ?_;rintro e S ⟨v,rfl,h5,G⟩;replace k:=(k.alloc _).call h5;clear h5 hu hl hs hn xf zx Q N M U pf zp n0 n1 HE hg hw;obtain⟨E,D,z,rd,rfl,-⟩:=id G;rw[hy.out]at G;have I:Hid (Four _ R):=G;clear G
 go_upto_region 4 with fail
 have h8:Kept w i [⟨i,0,p,l,n,0⟩,⟨S.heap.size,0,E,D,z,rd⟩,⟨r,0,a,b,c,d⟩,⟨K,0,0,0,0,0⟩] _:=((((Kept.mk1 (k.alloc (.cells #[.int .u64 E,.int .u64 D,.int .u64 z,.int .u64 rd] 47)).bl (k.alloc _).le).cons (k.alloc _).tail.tail.head).cons (k.alloc _).tail.head).cons (At4.made S 47 E D z rd rfl).blk).cons (x:=⟨i,0,p,l,n,0⟩) (k.alloc _).head |> λh=>by exact h
 have ht:S.heap.size≠i:=V8 k.head.lt;have h9:S.heap.size≠K:=V8 k.tail.tail.head.lt;have hm:S.heap.size≠r:=V8 k.tail.head.lt;have Q7:Hid (i<=S.heap.size):=k.le;clear k;have k:=h8;clear h8;generalize Xt _ _=W4 at k⊢;generalize S.heap.size=t at k ht hm h9 Q7⊢;by_cases q:R*R%P=m
 ·have hp:=OK a b c d;go_region_held3 (λw'=>w'.cell? ⟨i,0,none⟩=some (.int .u64 p)/\w'.cell? ⟨i,1,none⟩=some (.int .u64 l)/\w'.cell? ⟨i,2,none⟩=some (.int .u64 n)/\w'.cell? ⟨i,3,none⟩=some (.int .u64 0)/\w'.cell? ⟨t,0,none⟩=some (.int .u64 E)/\w'.cell? ⟨t,1,none⟩=some (.int .u64 D)/\w'.cell? ⟨t,2,none⟩=some (.int .u64 z)/\w'.cell? ⟨t,3,none⟩=some (.int .u64 rd)/\w'.cell? ⟨r,0,none⟩=some (.int .u64 a)/\w'.cell? ⟨r,1,none⟩=some (.int .u64 b)/\w'.cell? ⟨r,2,none⟩=some (.int .u64 c)/\w'.cell? ⟨r,3,none⟩=some (.int .u64 d)/\Kept w i [⟨i,0,p,l,n,0⟩,⟨t,0,E,D,z,rd⟩,⟨r,0,a,b,c,d⟩,⟨K,0,0,0,0,0⟩] w') (first|(with_reducible exact qR k)|(with_reducible exact qR k.drew)|fail) (first|(go_at_call 154;refine(oN p l n P _ _ _ _ HG.out I.out I.out _).mono ?_;rintro e w5 ⟨v,rfl,f,s⟩;rw[q]at s;obtain rfl:=s.inj HX.out;clear s;(first|(with_reducible (have o:=k.drew.call f))|(with_reducible (have o:=k.call f))|fail);clear k f;have k:=o;clear o))
  have u:Hid (R*R%P=m):=q;clear q
  rename_i hHeld
  clear hHeld;obtain⟨A,y,B,C,tf⟩:=k.tail.head.at4;have zt:=k.tail.head.lt;go_wp2_with fail
  clear A y B C tf zt;refine(F6 _ _ I.out _).mono ?_;rintro e w6 ⟨v,rfl,Z,rfl⟩;replace k:=k.call Z;clear Z;obtain⟨A,y,B,C,tf⟩:=k.tail.head.at4;have zt:=k.tail.head.lt;obtain⟨W,O,J,H,uf⟩:=k.tail.tail.tail.head.at4;have zu:=k.tail.tail.tail.head.lt;by_cases g:R%2=1
  ·have hd:decide (R%2=1)=true:=decide_eq_true g;rw[hd];have HO:Hid (R%2=1):=g;clear hd g;obtain⟨Q,N,M,U,pf⟩:=k.head.at4;have zp:=k.head.lt;go_wp2_with fail
   refine(tK p l n P _ _ 0 _ HG.out (Four.mk (a:=0) (b:=0) (c:=0) (d:=0) dC dC dC dC rfl) I.out (by have:=X.out;omega) X.out _).mono ?_;rintro e w8 ⟨v,rfl,h7,V⟩;obtain⟨sa,sb,sc,sd,rfl,-⟩:=id V;have L:Hid (Four (.agg #[.int .u64 sa,.int .u64 sb,.int .u64 sc,.int .u64 sd]) (even P R)):=by
    have Y:(0+P-R)%P=even P R:=by
     unfold even;rw[yCj HO.out,UD];exact US (by have:=X.out;have:=HO.out;omega)
    unfold Hid;rw[<-Y];exact V
   replace k:=k.call h7;clear h7 V A y B C tf zt W O J H uf zu Q N M U pf zp;obtain⟨A,y,B,C,tf⟩:=k.tail.head.at4;have zt:=k.tail.head.lt;obtain⟨W,O,J,H,uf⟩:=k.tail.tail.tail.head.at4;have zu:=k.tail.tail.tail.head.lt;go_wp2;have j:=(k.tail.tail.tail.head.at4.other4 h9 (.int .u64 sa) (.int .u64 sb) (.int .u64 sc) (.int .u64 sd)).self4 sa sb sc sd;unfold set4 at j;refine UE (v:=?v) ?hr rfl ?hR
   case hr=>simp[results,Tryz.results191,go_sem,j.c0,j.c1,j.c2,j.c3];rfl
   refine⟨_,rfl,?_,RootR.yes u.out L.out⟩;rw[H0.out];exact aL (aL k.bl Q7.out _ _ _ _) Q2.out _ _ _ _
  ·have hd:decide (R%2=1)=false:=decide_eq_false g;rw[hd];have L:Hid (Four (.agg #[.int .u64 E,.int .u64 D,.int .u64 z,.int .u64 rd]) (even P R)):=by
    have Y:even P R=R:=by unfold even;rw[yCk g]
    unfold Hid;rw[Y];exact I.out
   clear hd g;go_wp2;have j:=k.tail.tail.tail.head.at4.self4 E D z rd;unfold set4 at j;refine UE (v:=?v2) ?hr2 rfl ?hR2
   case hr2=>simp[results,Tryz.results191,go_sem,j.c0,j.c1,j.c2,j.c3];rfl
   refine⟨_,rfl,?_,RootR.yes u.out L.out⟩;rw[H0.out];exact aL k.bl Q2.out _ _ _ _
 ·go_region_held3 (λw'=>w'.cell? ⟨i,0,none⟩=some (.int .u64 p)/\w'.cell? ⟨i,1,none⟩=some (.int .u64 l)/\w'.cell? ⟨i,2,none⟩=some (.int .u64 n)/\w'.cell? ⟨i,3,none⟩=some (.int .u64 0)/\w'.cell? ⟨t,0,none⟩=some (.int .u64 E)/\w'.cell? ⟨t,1,none⟩=some (.int .u64 D)/\w'.cell? ⟨t,2,none⟩=some (.int .u64 z)/\w'.cell? ⟨t,3,none⟩=some (.int .u64 rd)/\w'.cell? ⟨r,0,none⟩=some (.int .u64 a)/\w'.cell? ⟨r,1,none⟩=some (.int .u64 b)/\w'.cell? ⟨r,2,none⟩=some (.int .u64 c)/\w'.cell? ⟨r,3,none⟩=some (.int .u64 d)/\Kept w i [⟨i,0,p,l,n,0⟩,⟨t,0,E,D,z,rd⟩,⟨r,0,a,b,c,d⟩,⟨K,0,0,0,0,0⟩] w') (first|(with_reducible exact qR k)|(with_reducible exact qR k.drew)|fail) (first|(go_at_call 154;refine(oN p l n P _ _ _ _ HG.out I.out I.out _).mono ?_;rintro e w5 ⟨v,rfl,f,s⟩;obtain⟨C,L,A,B,rfl,g⟩:=four_ne s HX.out q;have y:=Mn g;clear s;(first|(with_reducible (have o:=k.drew.call f))|(with_reducible (have o:=k.call f))|fail);clear k f;have k:=o;clear o))
  have u:Hid (¬R*R%P=m):=q;clear q
  rename_i hHeld
  clear hHeld;obtain⟨W,O,J,H,uf⟩:=k.tail.tail.tail.head.at4;have zu:=k.tail.tail.tail.head.lt;go_wp2;have j:At4 (set4 w5 K (.int .u64 0) (.int .u64 0) (.int .u64 0) (.int .u64 0)) K 0 0 0 0:=k.tail.tail.tail.head.at4.self4 0 0 0 0;unfold set4 at j;refine UE (v:=?v3) ?hr3 rfl ?hR3
  case hr3=>simp[results,Tryz.results191,go_sem,j.c0,j.c1,j.c2,j.c3];rfl
  refine⟨_,rfl,?_,RootR.no u.out⟩;rw[H0.out];exact aL k.bl Q2.out _ _ _ _
end
section
def wn(n:Nat):List Ut:=[uZ ((n%18446744073709551616:Nat):Int),uZ ((n/18446744073709551616%18446744073709551616:Nat):Int),uZ ((n/340282366920938463463374607431768211456%18446744073709551616:Nat):Int),uZ ((n/6277101735386680763835789423207666416102355444464034512896%18446744073709551616:Nat):Int)]
def nv(n:Nat):Ut:=.agg (wn n).toArray
theorem vF{n:Nat}(h:n<top):Four (nv n) n:=by
 refine⟨n%18446744073709551616,n/18446744073709551616%18446744073709551616,n/340282366920938463463374607431768211456%18446744073709551616,n/6277101735386680763835789423207666416102355444464034512896%18446744073709551616,rfl,?_,?_,?_,?_,?_⟩
 ·omega
 ·omega
 ·omega
 ·omega
 ·unfold val;unfold top at h;omega
theorem Four.nv{v:Ut}{n:Nat}(h:Four v n):v=Go.Proofs.YtdoammpgchejcaaGreat.nv n:=h.inj (vF h.lt)
variable {P:Nat}[NeZero P]
abbrev ws(x:Fin P):List Ut:=wn x.val
abbrev fv(x:Fin P):Ut:=nv x.val
def pv(x y:Fin P):Ut:=.agg (ws x++ws y).toArray
def rv(x y z:Fin P):Ut:=.agg (ws x++(ws y++ws z)).toArray
def Gives(f:Xq)(args:Array Ut)(v:Ut):Prop:=∀w,UH prog f args w (rZ w λe w'=>e=v)
structure Fld(P:Nat)[NeZero P]:Prop where
 gap:Gap 4294968273 0 0 P
 cur:Cur P
 p2:2<=P%18446744073709551616
 p4:P/4%18446744073709551616<18446744073709551615
 p3:P%4=3
 p7:7<P
theorem Fld.top(h:Fld P)(x:Fin P):x.val<top:=by have:=h.gap.hP;have:=x.isLt;omega
theorem Fld.four(h:Fld P)(x:Fin P):Four (fv x) x.val:=vF (h.top x)
theorem lI:(U3 #[uZ 0,uZ 0,uZ 0,uZ 0])=fv (0:Fin P):=by
 have h:Four (U3 #[uZ 0,uZ 0,uZ 0,uZ 0]) (0:Fin P).val:=by
  rw[val_zero];exact Four.mk (a:=0) (b:=0) (c:=0) (d:=0) dC dC dC dC rfl
 exact h.nv
theorem O2(h:Fld P):(U3 #[uZ 1,uZ 0,uZ 0,uZ 0])=fv (1:Fin P):=by
 have h:Four (U3 #[uZ 1,uZ 0,uZ 0,uZ 0]) (1:Fin P).val:=by
  rw[val_one h.cur.pr];exact Four.mk (a:=1) (b:=0) (c:=0) (d:=0) dC dC dC dC rfl
 exact h.nv
theorem bO:Gives 114 #[] gv0:=λw=>(uR w).mono (by rintro e w' ⟨rfl,rfl⟩;exact⟨_,rfl,aC _ _,rfl⟩)
theorem QK(h:Fld P)(x y:Fin P):Gives 215 #[gv0,fv x,fv y] (fv (x+y)):=λw =>
 (sum_any 4294968273 0 0 P _ _ x.val y.val h.gap (h.four x) (h.four y) x.isLt y.isLt w).mono (by
  rintro e w' ⟨v,rfl,b,k⟩;exact⟨_,rfl,b,k.nv⟩)
omit [NeZero P] in
theorem AH(x y:Fin P):(x.val+P-y.val)%P=(x-y).val:=by
 rw[Fin.sub_def];show _=(P-y.val+x.val)%P
 congr 1
 have:=y.isLt;omega
theorem A9(h:Fld P)(x y:Fin P):Gives 221 #[gv0,fv x,fv y] (fv (x-y)):=λw =>
 (nN 4294968273 0 0 P _ _ x.val y.val h.gap (h.four x) (h.four y) x.isLt y.isLt w).mono (by
  rintro e w' ⟨v,rfl,b,k⟩;rw[AH]at k;exact⟨_,rfl,b,k.nv⟩)
theorem Gv(h:Fld P)(x y:Fin P):Gives 213 #[gv0,fv x,fv y] (fv (x*y)):=λw =>
 (dN 4294968273 0 0 P _ _ x.val y.val h.gap (h.four x) (h.four y) w).mono (by
  rintro e w' ⟨v,rfl,b,k⟩;exact⟨_,rfl,b,k.nv⟩)
theorem PM(h:Fld P)(x:Fin P):Gives 127 #[fv x] (fv x):=λw=>(jN _ _ (h.four x) w).mono (by rintro e w' ⟨v,rfl,k,rfl⟩;exact⟨_,rfl,k,rfl⟩)
theorem IZ(h:Fld P)(x:Fin P):Gives 214 #[fv x] (fv x):=λw=>(jI _ _ (h.four x) w).mono (by rintro e w' ⟨v,rfl,k,rfl⟩;exact⟨_,rfl,k,rfl⟩)
theorem rO(h:Fld P)(x y:Fin P):Gives 154 #[gv0,fv x,fv y] (fv (x*y)):=λw =>
 (oN 4294968273 0 0 P _ _ x.val y.val h.gap (h.four x) (h.four y) w).mono (by
  rintro e w' ⟨v,rfl,b,k⟩;exact⟨_,rfl,b,k.nv⟩)
theorem FZ(h:Fld P)(x y:Fin P):Gives 155 #[gv0,fv x,fv y] (fv (x+y)):=λw =>
 (CV 4294968273 0 0 P _ _ x.val y.val h.gap (h.four x) (h.four y) x.isLt y.isLt w).mono (by
  rintro e w' ⟨v,rfl,b,k⟩;exact⟨_,rfl,b,k.nv⟩)
theorem Ks(h:Fld P)(x y:Fin P):Gives 198 #[gv0,fv x,fv y] (fv (x-y)):=λw =>
 (tK 4294968273 0 0 P _ _ x.val y.val h.gap (h.four x) (h.four y) x.isLt y.isLt w).mono (by
  rintro e w' ⟨v,rfl,b,k⟩;rw[AH]at k;exact⟨_,rfl,b,k.nv⟩)
theorem BK(h:Fld P):(U3 #[uZ 7,uZ 0,uZ 0,uZ 0])=fv (7:Fin P):=by
 have h:Four (U3 #[uZ 7,uZ 0,uZ 0,uZ 0]) (7:Fin P).val:=by
  have k:(7:Fin P).val=7%P:=rfl;rw[k,US h.p7];exact Four.mk (a:=7) (b:=0) (c:=0) (d:=0) dC dC dC dC rfl
 exact h.nv
theorem Av:([uZ 0,uZ 0,uZ 0,uZ 0]:List Ut)=ws (0:Fin P):=by
 have h:=lI (P:=P);unfold nv at h;injection h with h
 exact congrArg Array.toList h
theorem gI:(U3 #[uZ 0,uZ 0,uZ 0,uZ 0,uZ 0,uZ 0,uZ 0,uZ 0])=pv (0:Fin P) 0:=by
 unfold pv;rw[<-Av];rfl
theorem KI:(U3 #[uZ 0,uZ 0,uZ 0,uZ 0,uZ 0,uZ 0,uZ 0,uZ 0,uZ 0,uZ 0,uZ 0,uZ 0])=rv (0:Fin P) 0 0:=by
 unfold rv;rw[<-Av];rfl
theorem Hd(h:Fld P)(x:Fin P):Gives 185 #[gv0,fv x] (fv (inv x)):=λw =>
 (uJ 4294968273 0 0 P _ x.val h.gap h.p2 (h.four x) w).mono (by
  rintro e w' ⟨v,rfl,b,k⟩;exact⟨_,rfl,b,k.nv⟩)
end
section
variable {P:Nat}[NeZero P]{N:Nat}
omit [NeZero P] in
theorem Gives.e{f:Xq}{args:Array Ut}{x c:Fin P}(h:Gives f args (fv x))(e:c=x):Gives f args (fv c):=e ▸ h
omit [NeZero P] in
theorem Gives.e3{f:Xq}{args:Array Ut}{x y z a b c:Fin P}(h:Gives f args (rv x y z))(e:a=x)(e':b=y)(k:c=z):Gives f args (rv a b c):=e ▸ e' ▸ k ▸ h
theorem eqW(a b c d p q r s:Int)(w:Ur):(binOp .eql 183 (.agg #[uZ a,uZ b,uZ c,uZ d]) (.agg #[uZ p,uZ q,uZ r,uZ s])).run prog w=.ok (.bool (decide (a=p/\b=q/\c=r/\d=s))) w:=by
 go_simp;by_cases e:a=p<;>by_cases g:b=q<;>by_cases f:c=r<;>by_cases k:d=s<;>simp[e,g,f,k]
theorem Ay{m n:Nat}(b:m<top)(k:n<top):(m%18446744073709551616=n%18446744073709551616/\m/18446744073709551616%18446744073709551616=n/18446744073709551616%18446744073709551616/\m/340282366920938463463374607431768211456%18446744073709551616=n/340282366920938463463374607431768211456%18446744073709551616/\m/6277101735386680763835789423207666416102355444464034512896%18446744073709551616=n/6277101735386680763835789423207666416102355444464034512896%18446744073709551616)↔m=n:=by
 constructor
 ·rintro⟨d,f,e,c⟩;unfold top at b k;omega
 ·rintro rfl;exact⟨rfl,rfl,rfl,rfl⟩
theorem eqC(h:Fld P)(x y:Fin P)(w:Ur):(binOp .eql 183 (fv x) (fv y)).run prog w=.ok (.bool (decide (x=y))) w:=by
 have b:=eqW ((x.val%18446744073709551616:Nat):Int) ((x.val/18446744073709551616%18446744073709551616:Nat):Int) ((x.val/340282366920938463463374607431768211456%18446744073709551616:Nat):Int) ((x.val/6277101735386680763835789423207666416102355444464034512896%18446744073709551616:Nat):Int) ((y.val%18446744073709551616:Nat):Int) ((y.val/18446744073709551616%18446744073709551616:Nat):Int) ((y.val/340282366920938463463374607431768211456%18446744073709551616:Nat):Int) ((y.val/6277101735386680763835789423207666416102355444464034512896%18446744073709551616:Nat):Int) w;refine b.trans ?_;have k:=Ay (h.top x) (h.top y);simp only[Int.ofNat_inj,k,<-yB2]
theorem Fv(h:Fld P){x y:Fin P}(e:x=y)(w:Ur):(binOp .eql 183 (fv x) (fv y)).run prog w=.ok (.bool true) w:=by rw[eqC h,decide_eq_true e]
theorem JC(h:Fld P){x y:Fin P}(e:¬x=y)(w:Ur):(binOp .eql 183 (fv x) (fv y)).run prog w=.ok (.bool false) w:=by rw[eqC h,decide_eq_false e]
theorem Sq(a b c d p q r s n i m o g j f l:Nat)(w:Ur):(binOp .eql 93 (.agg #[uZ a,uZ b,uZ c,uZ d,uZ n,uZ i,uZ m,uZ o]) (.agg #[uZ p,uZ q,uZ r,uZ s,uZ g,uZ j,uZ f,uZ l])).run prog w=.ok (.bool (decide (a=p/\b=q/\c=r/\d=s) && decide (n=g/\i=j/\m=f/\o=l))) w:=by
 go_simp;rw[Fu 9997,Vm];by_cases e:a=p/\b=q/\c=r/\d=s
 ·rw[decide_eq_true e];simp only[Bool.true_eq_false,if_false];rw[Fu 9997,Vm];by_cases k:n=g/\i=j/\m=f/\o=l
  ·rw[decide_eq_true k];simp[e.1,e.2.1,e.2.2.1,e.2.2.2,k.1,k.2.1,k.2.2.1,k.2.2.2]
  ·rw[decide_eq_false k];simp only[if_true,Vm];have t:(decide (n=g) && (decide (i=j) && (decide (m=f) && decide (o=l))))=false:=by simpa using k
   rw[t,Bool.and_false]
 ·rw[decide_eq_false e];simp only[if_true,Vm];have t:(decide (a=p) && (decide (b=q) && (decide (c=r) && decide (d=s))))=false:=by simpa using e
  rw[t,Bool.false_and]
theorem eqPt(h:Fld P)(x y z t:Fin P)(w:Ur):(binOp .eql 93 (pv x y) (pv z t)).run prog w=.ok (.bool (decide (x=z/\y=t))) w:=by
 refine(Sq (x.val%18446744073709551616) (x.val/18446744073709551616%18446744073709551616) (x.val/340282366920938463463374607431768211456%18446744073709551616) (x.val/6277101735386680763835789423207666416102355444464034512896%18446744073709551616) (z.val%18446744073709551616) (z.val/18446744073709551616%18446744073709551616) (z.val/340282366920938463463374607431768211456%18446744073709551616) (z.val/6277101735386680763835789423207666416102355444464034512896%18446744073709551616) (y.val%18446744073709551616) (y.val/18446744073709551616%18446744073709551616) (y.val/340282366920938463463374607431768211456%18446744073709551616) (y.val/6277101735386680763835789423207666416102355444464034512896%18446744073709551616) (t.val%18446744073709551616) (t.val/18446744073709551616%18446744073709551616) (t.val/340282366920938463463374607431768211456%18446744073709551616) (t.val/6277101735386680763835789423207666416102355444464034512896%18446744073709551616) w).trans ?_;simp only[Ay (h.top x) (h.top z),Ay (h.top y) (h.top t),<-yB2,Bool.decide_and]
theorem JB(h:Fld P){x y z t:Fin P}(e:x=z/\y=t)(w:Ur):(binOp .eql 93 (pv x y) (pv z t)).run prog w=.ok (.bool true) w:=by rw[eqPt h,decide_eq_true e]
theorem DW(h:Fld P){x y z t:Fin P}(e:¬(x=z/\y=t))(w:Ur):(binOp .eql 93 (pv x y) (pv z t)).run prog w=.ok (.bool false) w:=by rw[eqPt h,decide_eq_false e]
theorem aS:(prog.underlying 183).map (·.isRow)=some true:=kR
theorem aJ:(prog.info? 183).map (·.size)=some 4:=kR
theorem u85:(prog.underlying 47).map (·.isRow)=some true:=kR
theorem i85:(prog.info? 47).map (·.size)=some 4:=kR
theorem iF:(prog.underlying 185).map (·.isRow)=some true:=kR
theorem i117:(prog.info? 185).map (·.size)=some 12:=kR
theorem gU:(prog.underlying 93).map (·.isRow)=some true:=kR
theorem i109:(prog.info? 93).map (·.size)=some 8:=kR
theorem u79:(prog.underlying 120).map (·.isRow)=some true:=kR
theorem i79:(prog.info? 120).map (·.size)=some 4:=kR
theorem aW(C:Fld P)(x y:Fin P):Gives 179 #[(fv x),(fv y)] (fv (x*y)):=by
 intro w;obtain⟨c1,d⟩:∃c,c=x*y:=⟨_,rfl⟩
 have k:((fv c1):Ut)=(fv (x*y)):=by
  subst_vars;rfl
 rw[<-k];go_enter func179,ntmps179;refine RG.M.enter [(0,.v (fv x)),(1,.v (fv y))] 9 kR ?_;intro a0 e;repeat refine Uz ?_
 refine e.T [.m 0,.m 1,.m 2] [(0,ws x),(1,ws y),(2,RG.z 4)] [] [ws x,ws y,RG.z 4] [2,3,4] ⟨mk 0 183,mk 1 183,mk 2 183,yCl⟩ ?_;intro g m i j n f;repeat refine Uz ?_
 refine f.D [.c gv0,.x (fv x),.x (fv y),.c (fv c1),.u 2] [] [(2,4,ws c1)] [ws x,ws y,ws c1] [4] ⟨cl bO,ld aS aJ,ld aS aJ,cl ((Gv C x y).e d),RG.pt aJ,yCl⟩ ?_;intro a2 l b;refine Wp ?_;refine UE (v:=(fv c1)) (aI b.st 4 183 rfl 2 _ rfl (b.at (s:=(.p 2 0))) aS aJ) b.sl.defers ?_;exact⟨_,rfl,b.st.bel.below,rfl⟩
theorem Ge(C:Fld P)(x y:Fin P):Gives 181 #[(fv x),(fv y)] (fv (x+y)):=by
 intro w;obtain⟨c1,d⟩:∃c,c=x+y:=⟨_,rfl⟩
 have k:((fv c1):Ut)=(fv (x+y)):=by
  subst_vars;rfl
 rw[<-k];go_enter func181,ntmps181;refine RG.M.enter [(0,.v (fv x)),(1,.v (fv y))] 9 kR ?_;intro a0 e;repeat refine Uz ?_
 refine e.T [.m 0,.m 1,.m 2] [(0,ws x),(1,ws y),(2,RG.z 4)] [] [ws x,ws y,RG.z 4] [2,3,4] ⟨mk 0 183,mk 1 183,mk 2 183,yCl⟩ ?_;intro g m i j n f;repeat refine Uz ?_
 refine f.D [.c gv0,.x (fv x),.x (fv y),.c (fv c1),.u 2] [] [(2,4,ws c1)] [ws x,ws y,ws c1] [4] ⟨cl bO,ld aS aJ,ld aS aJ,cl ((QK C x y).e d),RG.pt aJ,yCl⟩ ?_;intro a2 l b;refine Wp ?_;refine UE (v:=(fv c1)) (aI b.st 4 183 rfl 2 _ rfl (b.at (s:=(.p 2 0))) aS aJ) b.sl.defers ?_;exact⟨_,rfl,b.st.bel.below,rfl⟩
theorem eW(C:Fld P)(x y:Fin P):Gives 182 #[(fv x),(fv y)] (fv (x-y)):=by
 intro w;obtain⟨c1,d⟩:∃c,c=x-y:=⟨_,rfl⟩
 have k:((fv c1):Ut)=(fv (x-y)):=by
  subst_vars;rfl
 rw[<-k];go_enter func182,ntmps182;refine RG.M.enter [(0,.v (fv x)),(1,.v (fv y))] 9 kR ?_;intro a0 e;repeat refine Uz ?_
 refine e.T [.m 0,.m 1,.m 2] [(0,ws x),(1,ws y),(2,RG.z 4)] [] [ws x,ws y,RG.z 4] [2,3,4] ⟨mk 0 183,mk 1 183,mk 2 183,yCl⟩ ?_;intro g m i j n f;repeat refine Uz ?_
 refine f.D [.c gv0,.x (fv x),.x (fv y),.c (fv c1),.u 2] [] [(2,4,ws c1)] [ws x,ws y,ws c1] [4] ⟨cl bO,ld aS aJ,ld aS aJ,cl ((A9 C x y).e d),RG.pt aJ,yCl⟩ ?_;intro a2 l b;refine Wp ?_;refine UE (v:=(fv c1)) (aI b.st 4 183 rfl 2 _ rfl (b.at (s:=(.p 2 0))) aS aJ) b.sl.defers ?_;exact⟨_,rfl,b.st.bel.below,rfl⟩
theorem vQ(C:Fld P)(x:Fin P):Gives 187 #[(fv x)] (fv x):=by
 intro w;go_enter func187,ntmps187;refine RG.M.enter [(0,.v (fv x))] 5 kR ?_;intro a0 b;repeat refine Uz ?_
 refine b.T [.m 0,.m 1] [(0,ws x),(1,RG.z 4)] [] [ws x,RG.z 4] [1,2] ⟨mk 0 47,mk 1 183,yCl⟩ ?_;intro d e f g c;repeat refine Uz ?_
 refine c.T [.x (fv x),.c (fv x),.u 1] [] [(1,2,ws x)] [ws x,ws x] [2] ⟨ld u85 i85,cl (PM C x),RG.pt aJ,yCl⟩ ?_;intro a2 i k;refine Wp ?_;refine UE (v:=(fv x)) (aI k.st 2 183 rfl 1 _ rfl (k.at (s:=(.p 1 0))) aS aJ) k.sl.defers ?_;exact⟨_,rfl,k.st.bel.below,rfl⟩
theorem Em(C:Fld P)(x:Fin P):Gives 186 #[(fv x)] (fv x):=by
 intro w;go_enter func186,ntmps186;refine RG.M.enter [(0,.v (fv x))] 5 kR ?_;intro a0 b;repeat refine Uz ?_
 refine b.T [.m 0,.m 1] [(0,ws x),(1,RG.z 4)] [] [ws x,RG.z 4] [1,2] ⟨mk 0 183,mk 1 47,yCl⟩ ?_;intro d e f g c;repeat refine Uz ?_
 refine c.T [.x (fv x),.c (fv x),.u 1] [] [(1,2,ws x)] [ws x,ws x] [2] ⟨ld aS aJ,cl (IZ C x),RG.pt i85,yCl⟩ ?_;intro a2 i k;refine Wp ?_;refine UE (v:=(fv x)) (aI k.st 2 47 rfl 1 _ rfl (k.at (s:=(.p 1 0))) u85 i85) k.sl.defers ?_;exact⟨_,rfl,k.st.bel.below,rfl⟩
theorem fO(C:Fld P)(x:Fin P):Gives 180 #[(fv x)] (fv (dbl x)):=by
 intro w;obtain⟨c1,d⟩:∃c,c=x+x:=⟨_,rfl⟩
 have k:((fv c1):Ut)=(fv (dbl x)):=by
  subst_vars;rfl
 rw[<-k];go_enter func180,ntmps180;refine RG.M.enter [(0,.v (fv x))] 6 kR ?_;intro a0 e;repeat refine Uz ?_
 refine e.T [.m 0,.m 1] [(0,ws x),(1,RG.z 4)] [] [ws x,RG.z 4] [1,2] ⟨mk 0 183,mk 1 183,yCl⟩ ?_;intro g i j l f;repeat refine Uz ?_
 refine f.T [.x (fv x),.x (fv x),.c (fv c1),.u 1] [] [(1,3,ws c1)] [ws x,ws c1] [2] ⟨ld aS aJ,ld aS aJ,cl ((Ge C x x).e d),RG.pt aJ,yCl⟩ ?_;intro a2 m b;refine Wp ?_;refine UE (v:=(fv c1)) (aI b.st 2 183 rfl 1 _ rfl (b.at (s:=(.p 1 0))) aS aJ) b.sl.defers ?_;exact⟨_,rfl,b.st.bel.below,rfl⟩
theorem Es(C:Fld P)(x y z:Fin P):Gives 108 #[(rv x y z)] (rv (twX x y) (twY x y) (twZ y z)):=by
 intro w;obtain⟨c1,M⟩:∃c,c=x*x:=⟨_,rfl⟩
 obtain⟨c2,S⟩:∃c,c=y*y:=⟨_,rfl⟩
 obtain⟨R,L⟩:∃c,c=x*c2:=⟨_,rfl⟩
 obtain⟨O,K⟩:∃c,c=dbl R:=⟨_,rfl⟩
 obtain⟨f,V⟩:∃c,c=dbl O:=⟨_,rfl⟩
 obtain⟨N,U⟩:∃c,c=dbl c1:=⟨_,rfl⟩
 obtain⟨d,Q⟩:∃c,c=N+c1:=⟨_,rfl⟩
 obtain⟨J,T⟩:∃c,c=d*d:=⟨_,rfl⟩
 obtain⟨I,H⟩:∃c,c=dbl f:=⟨_,rfl⟩
 obtain⟨k,A⟩:∃c,c=J-I:=⟨_,rfl⟩
 obtain⟨l,r⟩:∃c,c=f-k:=⟨_,rfl⟩
 obtain⟨g,t⟩:∃c,c=d*l:=⟨_,rfl⟩
 obtain⟨i,F⟩:∃c,c=c2*c2:=⟨_,rfl⟩
 obtain⟨m,p⟩:∃c,c=dbl i:=⟨_,rfl⟩
 obtain⟨j,D⟩:∃c,c=dbl m:=⟨_,rfl⟩
 obtain⟨o,u⟩:∃c,c=dbl j:=⟨_,rfl⟩
 obtain⟨b,q⟩:∃c,c=g-o:=⟨_,rfl⟩
 obtain⟨n,a⟩:∃c,c=y*z:=⟨_,rfl⟩
 obtain⟨e,B⟩:∃c,c=dbl n:=⟨_,rfl⟩
 have E:((rv k b e):Ut)=(rv (twX x y) (twY x y) (twZ y z)):=by
  subst_vars;rfl
 rw[<-E];go_enter func108,ntmps108;refine RG.M.enter [(0,.v (rv x y z))] 56 kR ?_;intro a0 Z;repeat refine Uz ?_
 refine Z.T [.m 0,.m 1] [(0,ws x++(ws y++(ws z))),(1,RG.z 12)] [] [ws x++(ws y++(ws z)),RG.z 12] [1,2] ⟨mk 0 185,mk 1 185,yCl⟩ ?_;intro j1 i1 a1 w1 M1;repeat refine Uz ?_
 refine M1.D [.s (.p 0 0),.x (fv x),.s (.p 0 0),.x (fv x),.c (fv c1),.s (.p 0 4),.x (fv y),.s (.p 0 4),.x (fv y),.c (fv c2),.m 2,.m 3,.u 2,.u 3] [(10,RG.z 4),(11,RG.z 4)] [(2,12,ws c1),(3,13,ws c2)] [ws x++(ws y++(ws z)),RG.z 12,ws c1,ws c2] [1,2,3,4] ⟨st,ld aS aJ,st,ld aS aJ,cl ((aW C x x).e M),st,ld aS aJ,st,ld aS aJ,cl ((aW C y y).e S),mk 2 183,mk 3 183,RG.pt aJ,RG.pt aJ,yCl⟩ ?_;intro j2 i2 a2 w2 M2;repeat refine Uz ?_
 refine M2.T [.s (.p 0 0),.x (fv x),.x (fv c2),.c (fv R),.c (fv O),.c (fv f),.m 4,.u 4] [(6,RG.z 4)] [(4,7,ws f)] [ws x++(ws y++(ws z)),RG.z 12,ws c1,ws c2,ws f] [1,2,3,4,5] ⟨st,ld aS aJ,ld aS aJ,cl ((aW C x c2).e L),cl ((fO C R).e K),cl ((fO C O).e V),mk 4 183,RG.pt aJ,yCl⟩ ?_;intro j3 a3 w3 X;repeat refine Uz ?_
 refine X.D [.x (fv c1),.c (fv N),.x (fv c1),.c (fv d),.m 5,.u 5] [(4,RG.z 4)] [(5,5,ws d)] [ws x++(ws y++(ws z)),RG.z 12,ws c1,ws c2,ws f,ws d] [1,2,4,5,6] ⟨ld aS aJ,cl ((fO C c1).e U),ld aS aJ,cl ((Ge C N c1).e Q),mk 5 183,RG.pt aJ,yCl⟩ ?_;intro j4 a4 w4 W;repeat refine Uz ?_
 refine W.D [.x (fv d),.x (fv d),.c (fv J),.x (fv f),.c (fv I),.c (fv k),.m 6,.u 6] [(6,RG.z 4)] [(6,7,ws k)] [ws x++(ws y++(ws z)),RG.z 12,ws c1,ws c2,ws f,ws d,ws k] [1,2,4,5,6,7] ⟨ld aS aJ,ld aS aJ,cl ((aW C d d).e T),ld aS aJ,cl ((fO C f).e H),cl ((eW C J I).e A),mk 6 183,RG.pt aJ,yCl⟩ ?_;intro j5 a5 w5 M5;repeat refine Uz ?_
 refine M5.D [.x (fv d),.x (fv f),.x (fv k),.c (fv l),.c (fv g),.x (fv c2),.x (fv c2),.c (fv i),.c (fv m),.c (fv j),.c (fv o),.c (fv b),.m 7,.u 7] [(12,RG.z 4)] [(7,13,ws b)] [ws x++(ws y++(ws z)),RG.z 12,ws c1,ws c2,ws f,ws d,ws k,ws b] [1,2,7,8] ⟨ld aS aJ,ld aS aJ,ld aS aJ,cl ((eW C f k).e r),cl ((aW C d l).e t),ld aS aJ,ld aS aJ,cl ((aW C c2 c2).e F),cl ((fO C i).e p),cl ((fO C m).e D),cl ((fO C j).e u),cl ((eW C g o).e q),mk 7 183,RG.pt aJ,yCl⟩ ?_;intro j6 a6 w6 Y;repeat refine Uz ?_
 refine Y.D [.x (fv k),.x (fv b),.s (.p 0 4),.x (fv y),.s (.p 0 8),.x (fv z),.c (fv n),.c (fv e),.x (rv k b e),.u 1] [] [(1,9,ws k++(ws b++(ws e)))] [ws x++(ws y++(ws z)),ws k++(ws b++(ws e)),ws c1,ws c2,ws f,ws d,ws k,ws b] [2] ⟨ld aS aJ,ld aS aJ,st,ld aS aJ,st,ld aS aJ,cl ((aW C y z).e a),cl ((fO C n).e B),st,RG.pt i117,yCl⟩ ?_;intro a7 w7 G;refine Wp ?_;refine UE (v:=(rv k b e)) (aI G.st 2 185 rfl 1 _ rfl (G.at (s:=(.p 1 0))) iF i117) G.sl.defers ?_;exact⟨_,rfl,G.st.bel.below,rfl⟩
theorem DC(C:Fld P)(x y z:Fin P):Gives 184 #[(rv x y z)] (rv x (0-y) z):=by
 intro w;obtain⟨c1,d⟩:∃c,c=(0:Fin P)-y:=⟨_,rfl⟩
 have k:((rv x c1 z):Ut)=(rv x (0-y) z):=by
  subst_vars;rfl
 rw[<-k];go_enter func184,ntmps184;refine RG.M.enter [(0,.v (rv x y z))] 12 kR ?_;intro a0 e;repeat refine Uz ?_
 refine e.T [.m 0,.m 1] [(0,ws x++(ws y++(ws z))),(1,RG.z 12)] [] [ws x++(ws y++(ws z)),RG.z 12] [1,2] ⟨mk 0 185,mk 1 185,yCl⟩ ?_;intro g l i m f;repeat refine Uz ?_
 refine f.D [.s (.p 0 0),.x (fv x),.x (fv (0:Fin P)),.s (.p 0 4),.x (fv y),.c (fv c1),.s (.p 0 8),.x (fv z),.x (rv x c1 z),.u 1] [] [(1,9,ws x++(ws c1++(ws z)))] [ws x++(ws y++(ws z)),ws x++(ws c1++(ws z))] [2] ⟨st,ld aS aJ,se (lI (P:=P)),st,ld aS aJ,cl ((eW C (0:Fin P) y).e d),st,ld aS aJ,st,RG.pt i117,yCl⟩ ?_;intro a2 j b;refine Wp ?_;refine UE (v:=(rv x c1 z)) (aI b.st 2 185 rfl 1 _ rfl (b.at (s:=(.p 1 0))) iF i117) b.sl.defers ?_;exact⟨_,rfl,b.st.bel.below,rfl⟩
theorem Mf(C:Fld P)(x y z:Fin P):Gives 111 #[(rv x y z)] (pv (x*(inv z*inv z)) (y*(inv z*inv z)*inv z)):=by
 intro w;obtain⟨c1,i⟩:∃c,c=inv z:=⟨_,rfl⟩
 obtain⟨c2,l⟩:∃c,c=c1*c1:=⟨_,rfl⟩
 obtain⟨b,g⟩:∃c,c=x*c2:=⟨_,rfl⟩
 obtain⟨j,f⟩:∃c,c=y*c2:=⟨_,rfl⟩
 obtain⟨k,m⟩:∃c,c=j*c1:=⟨_,rfl⟩
 have d:((pv b k):Ut)=(pv (x*(inv z*inv z)) (y*(inv z*inv z)*inv z)):=by
  subst_vars;rfl
 rw[<-d];go_enter func111,ntmps111;refine RG.M.enter [(0,.v (rv x y z))] 27 kR ?_;intro a0 o;repeat refine Uz ?_
 refine o.T [.m 0,.m 1] [(0,ws x++(ws y++(ws z))),(1,RG.z 8)] [] [ws x++(ws y++(ws z)),RG.z 8] [1,2] ⟨mk 0 185,mk 1 93,yCl⟩ ?_;intro r F t G p;repeat refine Uz ?_
 refine p.D [.c gv0,.s (.p 0 8),.x (fv z),.c (fv z),.c (fv c1),.c (fv c1),.m 2,.u 2] [(6,RG.z 4)] [(2,7,ws c1)] [ws x++(ws y++(ws z)),RG.z 8,ws c1] [1,2,3] ⟨cl bO,st,ld aS aJ,cl (Em C z),cl ((Hd C z).e i),cl (vQ C c1),mk 2 183,RG.pt aJ,yCl⟩ ?_;intro a a2 E q;repeat refine Uz ?_
 refine q.T [.x (fv c1),.x (fv c1),.c (fv c2),.m 3,.u 3] [(3,RG.z 4)] [(3,4,ws c2)] [ws x++(ws y++(ws z)),RG.z 8,ws c1,ws c2] [1,2,3,4] ⟨ld aS aJ,ld aS aJ,cl ((aW C c1 c1).e l),mk 3 183,RG.pt aJ,yCl⟩ ?_;intro A B D n;repeat refine Uz ?_
 refine n.D [.s (.p 0 0),.x (fv x),.x (fv c2),.c (fv b),.c (fv b),.s (.p 0 4),.x (fv y),.x (fv c2),.c (fv j),.x (fv c1),.c (fv k),.c (fv k),.x (pv b k),.u 1] [] [(1,13,ws b++(ws k))] [ws x++(ws y++(ws z)),ws b++(ws k),ws c1,ws c2] [2] ⟨st,ld aS aJ,ld aS aJ,cl ((aW C x c2).e g),cl (Em C b),st,ld aS aJ,ld aS aJ,cl ((aW C y c2).e f),ld aS aJ,cl ((aW C j c1).e m),cl (Em C k),st,RG.pt i109,yCl⟩ ?_;intro u H e;refine Wp ?_;refine UE (v:=(pv b k)) (aI e.st 2 93 rfl 1 _ rfl (e.at (s:=(.p 1 0))) gU i109) e.sl.defers ?_;exact⟨_,rfl,e.st.bel.below,rfl⟩
theorem uA(C:Fld P)(x y z:Fin P)(b:z=0):Gives 183 #[(rv x y z)] (.bool true):=by
 intro w;go_enter func183,ntmps183;refine RG.M.enter [(0,.v (rv x y z))] 7 kR ?_;intro a0 c;repeat refine Uz ?_
 refine c.T [.m 0,.x (.bool false)] [(0,ws x++(ws y++(ws z)))] [] [ws x++(ws y++(ws z))] [1,2] ⟨mk 0 185,st,yCl⟩ ?_;intro e f g d;repeat refine Uz ?_
 refine d.U [.s (.p 0 8),.x (fv z),.x (fv (0:Fin P)),.x (.bool true),.x (.bool true)] [2] ⟨st,ld aS aJ,se (lI (P:=P)),aQ rfl .eql 183 183 4 5 (fv z) (fv (0:Fin P)) (.bool true) rfl rfl sx sx (λw=>kR) (Fv C b),st,yCl⟩ ?_;intro a2 i k;refine Wp ?_;refine UE (v:=(.bool true)) (jA 2 rfl _ (k.at (s:=(.v (.bool true))))) k.sl.defers ?_;exact⟨_,rfl,k.st.bel.below,rfl⟩
theorem uB(C:Fld P)(x y z:Fin P)(b:¬z=0):Gives 183 #[(rv x y z)] (.bool false):=by
 intro w;go_enter func183,ntmps183;refine RG.M.enter [(0,.v (rv x y z))] 7 kR ?_;intro a0 c;repeat refine Uz ?_
 refine c.T [.m 0,.x (.bool false)] [(0,ws x++(ws y++(ws z)))] [] [ws x++(ws y++(ws z))] [1,2] ⟨mk 0 185,st,yCl⟩ ?_;intro e f g d;repeat refine Uz ?_
 refine d.U [.s (.p 0 8),.x (fv z),.x (fv (0:Fin P)),.x (.bool false),.x (.bool false)] [2] ⟨st,ld aS aJ,se (lI (P:=P)),aQ rfl .eql 183 183 4 5 (fv z) (fv (0:Fin P)) (.bool false) rfl rfl sx sx (λw=>kR) (JC C b),st,yCl⟩ ?_;intro a2 i k;refine Wp ?_;refine UE (v:=(.bool false)) (jA 2 rfl _ (k.at (s:=(.v (.bool false))))) k.sl.defers ?_;exact⟨_,rfl,k.st.bel.below,rfl⟩
theorem Gq(C:Fld P)(x y:Fin P)(d:x=0/\y=0):Gives 178 #[(pv x y)] (rv (0:Fin P) 0 0):=by
 intro w;have k:((rv (0:Fin P) (0:Fin P) (0:Fin P)):Ut)=(rv (0:Fin P) 0 0):=by
  subst_vars;rfl
 rw[<-k];go_enter func178,ntmps178;refine RG.M.enter [(0,.v (pv x y))] 16 kR ?_;intro a0 e;repeat refine Uz ?_
 refine e.T [.m 0,.m 1] [(0,ws x++(ws y)),(1,RG.z 12)] [] [ws x++(ws y),RG.z 12] [1,2] ⟨mk 0 93,mk 1 185,yCl⟩ ?_;intro g n i o f;repeat refine Uz ?_
 refine f.U [.x (pv x y),.x (pv (0:Fin P) (0:Fin P)),.x (.bool true)] [2,5] ⟨ld gU i109,se (gI (P:=P)),aQ rfl .eql 93 93 3 4 (pv x y) (pv (0:Fin P) (0:Fin P)) (.bool true) rfl rfl sx sx (λw=>kR) (JB C d),yCl⟩ ?_;intro a2 m c;repeat refine Uz ?_
 refine VE c.ev ?_;repeat refine Uz ?_
 refine c.T [.x (rv (0:Fin P) (0:Fin P) (0:Fin P)),.u 1] [] [(1,1,ws (0:Fin P)++(ws (0:Fin P)++(ws (0:Fin P))))] [ws x++(ws y),ws (0:Fin P)++(ws (0:Fin P)++(ws (0:Fin P)))] [2] ⟨se (KI (P:=P)),RG.pt i117,yCl⟩ ?_;intro j l b;refine Wp ?_;refine UE (v:=(rv (0:Fin P) (0:Fin P) (0:Fin P))) (aI b.st 2 185 rfl 1 _ rfl (b.at (s:=(.p 1 0))) iF i117) b.sl.defers ?_;exact⟨_,rfl,b.st.bel.below,rfl⟩
theorem Gs(C:Fld P)(x y:Fin P)(d:¬(x=0/\y=0)):Gives 178 #[(pv x y)] (rv x y 1):=by
 intro w;have k:((rv x y (1:Fin P)):Ut)=(rv x y 1):=by
  subst_vars;rfl
 rw[<-k];go_enter func178,ntmps178;refine RG.M.enter [(0,.v (pv x y))] 16 kR ?_;intro a0 e;repeat refine Uz ?_
 refine e.T [.m 0,.m 1] [(0,ws x++(ws y)),(1,RG.z 12)] [] [ws x++(ws y),RG.z 12] [1,2] ⟨mk 0 93,mk 1 185,yCl⟩ ?_;intro g n i o f;repeat refine Uz ?_
 refine f.U [.x (pv x y),.x (pv (0:Fin P) (0:Fin P)),.x (.bool false)] [1,2,5] ⟨ld gU i109,se (gI (P:=P)),aQ rfl .eql 93 93 3 4 (pv x y) (pv (0:Fin P) (0:Fin P)) (.bool false) rfl rfl sx sx (λw=>kR) (DW C d),yCl⟩ ?_;intro a2 m c;repeat refine Uz ?_
 refine VI c.ev ?_;refine WS ?_;repeat refine Uz ?_
 refine c.D [.s (.p 0 0),.x (fv x),.c (fv x),.s (.p 0 4),.x (fv y),.c (fv y),.x (fv (1:Fin P)),.c (fv (1:Fin P)),.x (rv x y (1:Fin P)),.u 1] [] [(1,9,ws x++(ws y++(ws (1:Fin P))))] [ws x++(ws y),ws x++(ws y++(ws (1:Fin P)))] [2] ⟨st,ld u85 i85,cl (vQ C x),st,ld u85 i85,cl (vQ C y),se (O2 C),cl (vQ C (1:Fin P)),st,RG.pt i117,yCl⟩ ?_;intro j l b;refine Wp ?_;refine UE (v:=(rv x y (1:Fin P))) (aI b.st 2 185 rfl 1 _ rfl (b.at (s:=(.p 1 0))) iF i117) b.sl.defers ?_;exact⟨_,rfl,b.st.bel.below,rfl⟩
theorem Gy(C:Fld P)(f e k i j b:Fin P)(R:Ut)(ha:k=0->R=rv i j b)(hb:¬k=0->b=0->R=rv f e k)(hc:¬k=0->¬b=0->cN f b=cN i k/\eK e b=eK j k->R=rv (twX f e) (twY f e) (twZ e k))(hd:¬k=0->¬b=0->¬(cN f b=cN i k/\eK e b=eK j k)->R=rv (plX (cN f b) (eK e b) (cN i k) (eK j k)) (plY (cN f b) (eK e b) (cN i k) (eK j k)) (plZ k b (cN f b) (cN i k))):Gives 109 #[(rv f e k),(rv i j b)] R:=by
 intro w;obtain⟨c1,h8⟩:∃c,c=k*k:=⟨_,rfl⟩
 obtain⟨c2,hl⟩:∃c,c=b*b:=⟨_,rfl⟩
 obtain⟨p,hg⟩:∃c,c=f*c2:=⟨_,rfl⟩
 obtain⟨t,hk⟩:∃c,c=i*c1:=⟨_,rfl⟩
 obtain⟨c5,h7⟩:∃c,c=e*c2:=⟨_,rfl⟩
 obtain⟨r,he⟩:∃c,c=c5*b:=⟨_,rfl⟩
 obtain⟨c7,h6⟩:∃c,c=j*c1:=⟨_,rfl⟩
 obtain⟨u,h9⟩:∃c,c=c7*k:=⟨_,rfl⟩
 go_enter func109,ntmps109;refine RG.M.enter [(0,.v (rv f e k)),(1,.v (rv i j b))] 108 kR ?_;intro a0 M0;repeat refine Uz ?_
 refine M0.T [.m 0,.m 1,.m 2] [(0,ws f++(ws e++(ws k))),(1,ws i++(ws j++(ws b))),(2,RG.z 12)] [] [ws f++(ws e++(ws k)),ws i++(ws j++(ws b)),RG.z 12] [2,3,4] ⟨mk 0 185,mk 1 185,mk 2 185,yCl⟩ ?_;intro j1 i1 m1 a1 w1 M1;repeat refine Uz ?_
 by_cases x:k=0
 ·obtain rfl:=ha x;refine M1.U [.x (rv f e k),.c (.bool true)] [3,4,19] ⟨ld iF i117,cl (uA C f e k x),yCl⟩ ?_;intro a2 w2 Q;repeat refine Uz ?_
  refine VE Q.ev ?_;repeat refine Uz ?_
  refine Q.T [.x (rv i j b),.u 2] [] [(2,1,ws i++(ws j++(ws b)))] [ws f++(ws e++(ws k)),ws i++(ws j++(ws b)),ws i++(ws j++(ws b))] [4] ⟨ld iF i117,RG.pt i117,yCl⟩ ?_;intro a3 w3 B;refine Wp ?_;refine UE (v:=(rv i j b)) (aI B.st 4 185 rfl 2 _ rfl (B.at (s:=(.p 2 0))) iF i117) B.sl.defers ?_;exact⟨_,rfl,B.st.bel.below,rfl⟩
 refine M1.U [.x (rv f e k),.c (.bool false)] [2,3,4,19] ⟨ld iF i117,cl (uB C f e k x),yCl⟩ ?_;intro a2 w2 Q;repeat refine Uz ?_
 refine VI Q.ev ?_;refine WS ?_;repeat refine Uz ?_
 by_cases A:b=0
 ·obtain rfl:=hb x A;refine Q.U [.x (rv i j b),.c (.bool true)] [2,4,22] ⟨ld iF i117,cl (uA C i j b A),yCl⟩ ?_;intro a3 w3 B;repeat refine Uz ?_
  refine VE B.ev ?_;repeat refine Uz ?_
  refine B.T [.x (rv f e k),.u 2] [] [(2,1,ws f++(ws e++(ws k)))] [ws f++(ws e++(ws k)),ws i++(ws j++(ws b)),ws f++(ws e++(ws k))] [4] ⟨ld iF i117,RG.pt i117,yCl⟩ ?_;intro a4 w4 O;refine Wp ?_;refine UE (v:=(rv f e k)) (aI O.st 4 185 rfl 2 _ rfl (O.at (s:=(.p 2 0))) iF i117) O.sl.defers ?_;exact⟨_,rfl,O.st.bel.below,rfl⟩
 refine Q.U [.x (rv i j b),.c (.bool false)] [2,3,4,22] ⟨ld iF i117,cl (uB C i j b A),yCl⟩ ?_;intro a3 w3 B;repeat refine Uz ?_
 refine VI B.ev ?_;refine WS ?_;repeat refine Uz ?_
 refine B.D [.s (.p 0 8),.x (fv k),.s (.p 0 8),.x (fv k),.c (fv c1),.s (.p 1 8),.x (fv b),.s (.p 1 8),.x (fv b),.c (fv c2),.m 3,.m 4,.u 3,.u 4] [(10,RG.z 4),(11,RG.z 4)] [(3,12,ws c1),(4,13,ws c2)] [ws f++(ws e++(ws k)),ws i++(ws j++(ws b)),RG.z 12,ws c1,ws c2] [2,3,4,5,6] ⟨st,ld aS aJ,st,ld aS aJ,cl ((aW C k k).e h8),st,ld aS aJ,st,ld aS aJ,cl ((aW C b b).e hl),mk 3 183,mk 4 183,RG.pt aJ,RG.pt aJ,yCl⟩ ?_;intro j4 i4 a4 w4 O;repeat refine Uz ?_
 refine O.D [.s (.p 0 0),.x (fv f),.x (fv c2),.c (fv p),.s (.p 1 0),.x (fv i),.x (fv c1),.c (fv t),.m 5,.m 6,.u 5,.u 6] [(8,RG.z 4),(9,RG.z 4)] [(5,10,ws p),(6,11,ws t)] [ws f++(ws e++(ws k)),ws i++(ws j++(ws b)),RG.z 12,ws c1,ws c2,ws p,ws t] [2,3,4,5,6,7,8] ⟨st,ld aS aJ,ld aS aJ,cl ((aW C f c2).e hg),st,ld aS aJ,ld aS aJ,cl ((aW C i c1).e hk),mk 5 183,mk 6 183,RG.pt aJ,RG.pt aJ,yCl⟩ ?_;intro j5 i5 a5 w5 M5;repeat refine Uz ?_
 refine M5.D [.s (.p 0 4),.x (fv e),.x (fv c2),.c (fv c5),.s (.p 1 8),.x (fv b),.c (fv r),.s (.p 1 4),.x (fv j),.x (fv c1),.c (fv c7),.s (.p 0 8),.x (fv k),.c (fv u),.m 7,.m 8,.u 7,.u 8] [(14,RG.z 4),(15,RG.z 4)] [(7,16,ws r),(8,17,ws u)] [ws f++(ws e++(ws k)),ws i++(ws j++(ws b)),RG.z 12,ws c1,ws c2,ws p,ws t,ws r,ws u] [2,3,4,7,8,9,10] ⟨st,ld aS aJ,ld aS aJ,cl ((aW C e c2).e h7),st,ld aS aJ,cl ((aW C c5 b).e he),st,ld aS aJ,ld aS aJ,cl ((aW C j c1).e h6),st,ld aS aJ,cl ((aW C c7 k).e h9),mk 7 183,mk 8 183,RG.pt aJ,RG.pt aJ,yCl⟩ ?_;intro j6 i6 a6 w6 M6;repeat refine Uz ?_
 by_cases D:cN f b=cN i k/\eK e b=eK j k
 ·have hR:=hc x A D;obtain⟨hx,E⟩:=D;obtain⟨m,F⟩:∃c,c=twX f e:=⟨_,rfl⟩
  obtain⟨d,z⟩:∃c,c=twY f e:=⟨_,rfl⟩
  obtain⟨g,a⟩:∃c,c=twZ e k:=⟨_,rfl⟩
  obtain rfl:R=rv m d g:=hR.trans (by subst_vars;rfl);refine M6.U [.x (fv p),.x (fv t),.x (.bool true),.x (.bool true),.x (fv r),.x (fv u),.x (.bool true),.x (.bool true)] [2,4,63] ⟨ld aS aJ,ld aS aJ,aQ rfl .eql 183 183 56 57 (fv p) (fv t) (.bool true) rfl rfl sx sx (λw=>kR) (Fv C (by subst_vars;exact hx)),st,ld aS aJ,ld aS aJ,aQ rfl .eql 183 183 60 61 (fv r) (fv u) (.bool true) rfl rfl sx sx (λw=>kR) (Fv C (by subst_vars;exact E)),st,yCl⟩ ?_;intro a7 w7 W;repeat refine Uz ?_
  refine VE W.ev ?_;repeat refine Uz ?_
  refine W.T [.x (rv f e k),.c (rv m d g),.u 2] [] [(2,2,ws m++(ws d++(ws g)))] [ws f++(ws e++(ws k)),ws i++(ws j++(ws b)),ws m++(ws d++(ws g)),ws c1,ws c2,ws p,ws t,ws r,ws u] [4] ⟨ld iF i117,cl ((Es C f e k).e3 F z a),RG.pt i117,yCl⟩ ?_;intro a8 w8 N;refine Wp ?_;refine UE (v:=(rv m d g)) (aI N.st 4 185 rfl 2 _ rfl (N.at (s:=(.p 2 0))) iF i117) N.sl.defers ?_;exact⟨_,rfl,N.st.bel.below,rfl⟩
 have hR:=hd x A D;obtain⟨m,F⟩:∃c,c=t-p:=⟨_,rfl⟩
 obtain⟨d,z⟩:∃c,c=u-r:=⟨_,rfl⟩
 obtain⟨g,a⟩:∃c,c=m*m:=⟨_,rfl⟩
 obtain⟨n,Z⟩:∃c,c=g*m:=⟨_,rfl⟩
 obtain⟨o,X⟩:∃c,c=g*p:=⟨_,rfl⟩
 obtain⟨J,S⟩:∃c,c=d*d:=⟨_,rfl⟩
 obtain⟨H,h4⟩:∃c,c=J-n:=⟨_,rfl⟩
 obtain⟨M,h0⟩:∃c,c=dbl o:=⟨_,rfl⟩
 obtain⟨l,V⟩:∃c,c=H-M:=⟨_,rfl⟩
 obtain⟨I,h3⟩:∃c,c=o-l:=⟨_,rfl⟩
 obtain⟨L,U⟩:∃c,c=d*I:=⟨_,rfl⟩
 obtain⟨G,h1⟩:∃c,c=n*r:=⟨_,rfl⟩
 obtain⟨q,h2⟩:∃c,c=L-G:=⟨_,rfl⟩
 obtain⟨K,Y⟩:∃c,c=k*b:=⟨_,rfl⟩
 obtain⟨y,T⟩:∃c,c=K*m:=⟨_,rfl⟩
 obtain rfl:R=rv l q y:=hR.trans (by subst_vars;rfl);by_cases hx:cN f b=cN i k
 case' pos =>
  have E:¬eK e b=eK j k:=λh=>D ⟨hx,h⟩
  refine M6.U [.x (fv p),.x (fv t),.x (.bool true),.x (.bool true),.x (fv r),.x (fv u),.x (.bool false),.x (.bool false)] [2,3,4,7,8,9,10,63] ⟨ld aS aJ,ld aS aJ,aQ rfl .eql 183 183 56 57 (fv p) (fv t) (.bool true) rfl rfl sx sx (λw=>kR) (Fv C (by subst_vars;exact hx)),st,ld aS aJ,ld aS aJ,aQ rfl .eql 183 183 60 61 (fv r) (fv u) (.bool false) rfl rfl sx sx (λw=>kR) (JC C (by subst_vars;exact E)),st,yCl⟩ ?_
 case' neg =>
  refine M6.u [.x 56 [] (fv p),.x 57 [] (fv t),.x 58 [(56,0),(57,1)] (.bool false),.x 59 [(58,2)] (.bool false),⟨some 60,[],.v WP,.pass⟩,⟨some 61,[],.v WP,.pass⟩,⟨some 62,[],.v WP,.pass⟩,.x 63 [(59,3),(62,6)] (.bool false)] [(2,.p 0 0),(3,.p 1 0),(4,.p 2 0),(7,.p 5 0),(8,.p 6 0),(9,.p 7 0),(10,.p 8 0),(63,.v (.bool false))] ⟨ld aS aJ,ld aS aJ,aQ rfl .eql 183 183 56 57 (fv p) (fv t) (.bool false) rfl rfl sx sx (λw=>kR) (JC C (by subst_vars;exact hx)),st,dD rfl rfl,dD rfl rfl,dD rfl rfl,st,yCl⟩ ?_
 all_goals
  intro a7 w7 W;repeat refine Uz ?_
  refine VI W.ev ?_;refine WS ?_;repeat refine Uz ?_
  refine W.D [.x (fv t),.x (fv p),.c (fv m),.x (fv u),.x (fv r),.c (fv d),.m 9,.m 10,.u 9,.u 10] [(6,RG.z 4),(7,RG.z 4)] [(9,8,ws m),(10,9,ws d)] [ws f++(ws e++(ws k)),ws i++(ws j++(ws b)),RG.z 12,ws c1,ws c2,ws p,ws t,ws r,ws u,ws m,ws d] [2,3,4,7,9,11,12] ⟨ld aS aJ,ld aS aJ,cl ((eW C t p).e F),ld aS aJ,ld aS aJ,cl ((eW C u r).e z),mk 9 183,mk 10 183,RG.pt aJ,RG.pt aJ,yCl⟩ ?_;intro j8 i8 a8 w8 N;repeat refine Uz ?_
  refine N.T [.x (fv m),.x (fv m),.c (fv g),.m 11,.u 11] [(3,RG.z 4)] [(11,4,ws g)] [ws f++(ws e++(ws k)),ws i++(ws j++(ws b)),RG.z 12,ws c1,ws c2,ws p,ws t,ws r,ws u,ws m,ws d,ws g] [2,3,4,7,9,11,12,13] ⟨ld aS aJ,ld aS aJ,cl ((aW C m m).e a),mk 11 183,RG.pt aJ,yCl⟩ ?_;intro j9 a9 w9 M9;repeat refine Uz ?_
  refine M9.D [.x (fv g),.x (fv m),.c (fv n),.x (fv g),.x (fv p),.c (fv o),.m 12,.m 13,.u 12,.u 13] [(6,RG.z 4),(7,RG.z 4)] [(12,8,ws n),(13,9,ws o)] [ws f++(ws e++(ws k)),ws i++(ws j++(ws b)),RG.z 12,ws c1,ws c2,ws p,ws t,ws r,ws u,ws m,ws d,ws g,ws n,ws o] [2,3,4,9,11,12,14,15] ⟨ld aS aJ,ld aS aJ,cl ((aW C g m).e Z),ld aS aJ,ld aS aJ,cl ((aW C g p).e X),mk 12 183,mk 13 183,RG.pt aJ,RG.pt aJ,yCl⟩ ?_;intro hm hs hq k1 hi;repeat refine Uz ?_
  refine hi.D [.x (fv d),.x (fv d),.c (fv J),.x (fv n),.c (fv H),.x (fv o),.c (fv M),.c (fv l),.m 14,.u 14] [(8,RG.z 4)] [(14,9,ws l)] [ws f++(ws e++(ws k)),ws i++(ws j++(ws b)),RG.z 12,ws c1,ws c2,ws p,ws t,ws r,ws u,ws m,ws d,ws g,ws n,ws o,ws l] [2,3,4,9,11,12,14,15,16] ⟨ld aS aJ,ld aS aJ,cl ((aW C d d).e S),ld aS aJ,cl ((eW C J n).e h4),ld aS aJ,cl ((fO C o).e h0),cl ((eW C H M).e V),mk 14 183,RG.pt aJ,yCl⟩ ?_;intro k0 hu ht h5;repeat refine Uz ?_
  refine h5.D [.x (fv d),.x (fv o),.x (fv l),.c (fv I),.c (fv L),.x (fv n),.x (fv r),.c (fv G),.c (fv q),.m 15,.u 15] [(9,RG.z 4)] [(15,10,ws q)] [ws f++(ws e++(ws k)),ws i++(ws j++(ws b)),RG.z 12,ws c1,ws c2,ws p,ws t,ws r,ws u,ws m,ws d,ws g,ws n,ws o,ws l,ws q] [2,3,4,11,16,17] ⟨ld aS aJ,ld aS aJ,ld aS aJ,cl ((eW C o l).e h3),cl ((aW C d I).e U),ld aS aJ,ld aS aJ,cl ((aW C n r).e h1),cl ((eW C L G).e h2),mk 15 183,RG.pt aJ,yCl⟩ ?_;intro hn hr hw hj;repeat refine Uz ?_
  refine hj.D [.x (fv l),.x (fv q),.s (.p 0 8),.x (fv k),.s (.p 1 8),.x (fv b),.c (fv K),.x (fv m),.c (fv y),.x (rv l q y),.u 2] [] [(2,10,ws l++(ws q++(ws y)))] [ws f++(ws e++(ws k)),ws i++(ws j++(ws b)),ws l++(ws q++(ws y)),ws c1,ws c2,ws p,ws t,ws r,ws u,ws m,ws d,ws g,ws n,ws o,ws l,ws q] [4] ⟨ld aS aJ,ld aS aJ,st,ld aS aJ,st,ld aS aJ,cl ((aW C k b).e Y),ld aS aJ,cl ((aW C K m).e T),st,RG.pt i117,yCl⟩ ?_;intro hp hz E;refine Wp ?_;refine UE (v:=(rv l q y)) (aI E.st 4 185 rfl 2 _ rfl (E.at (s:=(.p 2 0))) iF i117) E.sl.defers ?_;exact⟨_,rfl,E.st.bel.below,rfl⟩
abbrev T3(P:Nat):=Fin P × Fin P × Fin P
abbrev tv(t:T3 P):Ut:=rv t.1 t.2.1 t.2.2
abbrev tw(t:T3 P):List Ut:=ws t.1++(ws t.2.1++ws t.2.2)
def JacT(t:T3 P)(p:EC.Pt P):Prop:=Jac t.1 t.2.1 t.2.2 p/\On p
def twJ(t:T3 P):T3 P:=(twX t.1 t.2.1,twY t.1 t.2.1,twZ t.2.1 t.2.2)
def plJ(a b:T3 P):T3 P:=
 if a.2.2=0 then b else if b.2.2=0 then a else
 if cN a.1 b.2.2=cN b.1 a.2.2/\eK a.2.1 b.2.2=eK b.2.1 a.2.2 then twJ a else
 (plX (cN a.1 b.2.2) (eK a.2.1 b.2.2) (cN b.1 a.2.2) (eK b.2.1 a.2.2),plY (cN a.1 b.2.2) (eK a.2.1 b.2.2) (cN b.1 a.2.2) (eK b.2.1 a.2.2),plZ a.2.2 b.2.2 (cN a.1 b.2.2) (cN b.1 a.2.2))
def opJ(t:T3 P):T3 P:=(t.1,0-t.2.1,t.2.2)
def raJ(x y:Fin P):T3 P:=if x=0/\y=0 then(0,0,0) else(x,y,1)
theorem Ns(C:Fld P)(t:T3 P):Gives 108 #[tv t] (tv (twJ t)):=Es C t.1 t.2.1 t.2.2
theorem Nz(C:Fld P)(a b:T3 P):Gives 109 #[tv a,tv b] (tv (plJ a b)):=by
 obtain⟨d,j,f⟩:=a;obtain⟨i,e,g⟩:=b;exact Gy C d j f i e g _ (λh=>by unfold plJ;rw[yCj h]) (λc k=>by unfold plJ;rw[yCk c,yCj k]) (λc k h=>by unfold plJ;rw[yCk c,yCk k,yCj h];rfl) (λc k h=>by unfold plJ;rw[yCk c,yCk k,yCk h])
theorem Ri(C:Fld P)(t:T3 P):Gives 184 #[tv t] (tv (opJ t)):=DC C t.1 t.2.1 t.2.2
theorem QY(C:Fld P)(x y:Fin P):Gives 178 #[pv x y] (tv (raJ x y)):=by
 unfold raJ;by_cases k:x=0/\y=0
 ·rw[yCj k];exact Gq C x y k
 ·rw[yCk k];exact Gs C x y k
theorem QZ(C:Fld P)(t:T3 P):Gives 111 #[tv t] (pv (t.1*(inv t.2.2*inv t.2.2)) (t.2.1*(inv t.2.2*inv t.2.2)*inv t.2.2)):=Mf C t.1 t.2.1 t.2.2
theorem JacT.twice(C:Fld P){t:T3 P}{p:EC.Pt P}(h:JacT t p):JacT (twJ t) (EC.add p p):=⟨h.1.twice C.cur h.2,C.cur.on h.2 h.2⟩
theorem JacT.plus(C:Fld P){a b:T3 P}{p q:EC.Pt P}(h:JacT a p)(k:JacT b q):JacT (plJ a b) (EC.add p q):=by
 refine⟨?_,C.cur.on h.2 k.2⟩;obtain⟨l,n,i⟩:=a;obtain⟨m,j,g⟩:=b;unfold plJ;by_cases c:i=0
 ·rw[yCj c];obtain rfl:=h.1.zero C.cur c;exact k.1
 ·rw[yCk c];by_cases d:g=0
  ·rw[yCj d];obtain rfl:=k.1.zero C.cur d;rw[bK];exact h.1
  ·rw[yCk d];rcases h.1.plus C.cur h.2 k.1 k.2 c d with⟨f,e,e3⟩|⟨f,e⟩
   ·rw[yCj ⟨f,e⟩,e3];exact h.1.twice C.cur h.2
   ·rw[yCk f];exact e
theorem JacT.neg{t:T3 P}{p:EC.Pt P}(h:JacT t p):JacT (opJ t) (neg p):=⟨h.1.neg,cE h.2⟩
theorem Nx(C:Fld P){x y:Fin P}{p:EC.Pt P}(h:Pair x y p)(b:On p):JacT (raJ x y) p:=by
 refine⟨?_,b⟩;unfold raJ;by_cases k:x=0/\y=0
 ·obtain rfl:=h.nothing C.cur b k;rw[yCj k];rfl
 ·rw[yCk k];exact h.jac C.cur k
theorem JacT.pair(C:Fld P){t:T3 P}{p:EC.Pt P}(h:JacT t p):Pair (t.1*(inv t.2.2*inv t.2.2)) (t.2.1*(inv t.2.2*inv t.2.2)*inv t.2.2) p:=h.1.pair C.cur
theorem JacT.none:JacT ((0,0,0):T3 P) .none:=⟨rfl,iN⟩
end
namespace DG
def mN(d:Nat->Int):Nat->Int
 | 0=>0
 | k+1=>mN d k+d k*2^k
def upd(d:Nat->Int)(i:Nat)(v:Int):Nat->Int:=λj=>if j=i then v else d j
theorem xZ{d e:Nat->Int}:∀k,(∀j,j<k->d j=e j)->mN d k=mN e k
 | 0,_=>rfl
 | k+1,h=>by
  show mN d k+d k*2^k=mN e k+e k*2^k;rw[xZ k λj b=>h j oM,h k oM]
theorem xY{d:Nat->Int}(i:Nat)(h:∀j,i<=j->d j=0):∀k,mN d (i+k)=mN d i
 | 0=>rfl
 | k+1=>by
  show mN d (i+k)+d (i+k)*2^(i+k)=_;rw[h (i+k) oM,ZE,ZR,xY i h k]
theorem upd_same(d:Nat->Int)(i:Nat)(v:Int):upd d i v i=v:=yCj rfl
theorem iY{d:Nat->Int}{i j:Nat}{v:Int}(h:j≠i):upd d i v j=d j:=yCk h
theorem JF{d:Nat->Int}(i:Nat)(v:Int)(h:∀j,i<=j->d j=0)(k:Nat):mN (upd d i v) (i+1+k)=mN d i+v*2^i:=by
 rw[xY (i+1) (λj b=>by rw[iY oM];exact h j oM) k];show mN (upd d i v) i+upd d i v i*2^i=_;rw[upd_same,xZ i λj b=>iY oM]
structure DI(n:Nat)(d:Nat->Int)(i c:Nat):Prop where
 hc:c<=1
 hz:∀j,i<=j->d j=0
 hw:∀j,257<=j->d j=0
 ho:∀j,d j=0\/(d j%2=1/\-15<=d j/\d j<=15)
 hs:(n:Int)=mN d i+((n/2^i+c:Nat):Int)*2^i
 he:257<=i->n/2^i+c=0
theorem DI.start(n:Nat):DI n (λ_=>0) 0 0:=by
 refine⟨dC,λ_ _=>rfl,λ_ _=>rfl,λ_=>U4 rfl,?_,λh=>oM⟩;rw[YN,yBX];show(n:Int)=0+((n+0:Nat):Int)*1;omega
theorem high{n i:Nat}(b:n<2^256)(k:256<=i):n/2^i=0:=
 Xe (Ux b (VA dC k))
theorem DI.skip{n i c:Nat}{d:Nat->Int}(h:DI n d i c)(f:n<2^256)(o:i<257)(g:n/2^i%2=c):DI n d (i+1) c:=by
 have k:n/2^(i+1)=n/2^i/2:=by rw[V7,XN]
 refine⟨h.hc,λj m=>h.hz j oM,h.hw,h.ho,?_,λe=>?_⟩
 ·rw[h.hs];show _=mN d i+d i*2^i+_;rw[h.hz i (Uw _),ZE,ZR,k,show n/2^i+c=(n/2^i/2+c)*2 by have:=h.hc;omega];rw[show(2:Int)^(i+1)=2^i*2 by rw[yBN]];generalize (2:Int)^i=t;rw[Xw,yAd,ZF (2:Nat) t];rfl
 ·have l:i=256:=oM;have b:n/2^i=0:=high f oM;rw[k,b];rw[b]at g;omega
theorem DI.take{n i c:Nat}{d:Nat->Int}(h:DI n d i c)(o:n<2^256)(s:i<257)(q:n/2^i%2≠c):
 DI n (upd d i (((n/2^i%32+c:Nat):Int)-32*(((n/2^i%32+c)/16:Nat):Int))) (i+5) ((n/2^i%32+c)/16):=by
 have b:n/2^(i+5)=n/2^i/32:=by rw[Yp,XN]
 have r:=h.hc;have k:(n/2^i%32+c)%2=1:=oM;have f:n/2^i%32+c<32:=oM;refine⟨oM,λj e=>?_,λj e=>?_,λj=>?_,?_,λg=>?_⟩
 ·rw[iY oM];exact h.hz j oM
 ·rw[iY oM];exact h.hw j e
 ·by_cases e:j=i
  ·subst e;rw[upd_same];right;omega
  ·rw[iY e];exact h.ho j
 ·rw[show i+5=i+1+4 by omega,JF i _ h.hz 4,show i+1+4=i+5 by omega,h.hs,Int.add_assoc]
  congr 1
  rw[b,Int.pow_add,show(2:Int)^5=32 by decide,<-ZF (32:Int),<-yAd,<-yBZ]
  congr 1
  omega
 ·have p:n/2^i<16:=by
   rw[Nat.div_lt_iff_lt_mul (XI dC)];refine Ux o ?_
   calc 2^256=16*2^252:=dK
    _<=16*2^i:=Nat.mul_le_mul (Uw _) (VA dC oM)
  rw[b];generalize n/2^i=m at p q k f⊢;rw[US (show m<32 by omega)]at k⊢;have l:m+c<16:=oM;rw[Xe l,Xe (show m<32 by omega)]
theorem DI.all{n i c:Nat}{d:Nat->Int}(h:DI n d i c)(b:257<=i):(n:Int)=mN d 257:=by
 have k:=h.hs;rw[h.he b,WH,ZE,ZR]at k;rw[k,show i=257+(i-257) by omega,xY 257 h.hw]
def hor(d:Nat->Int):Nat->Int
 | 0=>0
 | k+1=>2*hor d k+d (256-k)
theorem Fc(d:Nat->Int):∀k,k<=257->hor d k*2^(257-k)+mN d (257-k)=mN d 257
 | 0,_=>by show 0*_+_=_;rw[ZE,Int.zero_add]
 | k+1,hk=>by
  rw[<-Fc d k oM];show(2*hor d k+d (256-k))*2^(257-(k+1))+mN d (257-(k+1))=_;rw[show 257-(k+1)=256-k by omega,show 257-k=(256-k)+1 by omega];show _=hor d k*2^(256-k+1)+(mN d (256-k)+d (256-k)*2^(256-k));rw[yBN];generalize (2:Int)^(256-k)=t;generalize hor d k=a;rw[yBZ,ZF t 2,<-yAd,ZF a 2];omega
theorem MG{n i c:Nat}{d:Nat->Int}(h:DI n d i c)(b:257<=i):hor d 257=(n:Int):=by
 have k:=Fc d 257 (Uw _);rw[YU]at k;rw[h.all b,<-k];show hor d 257=hor d 257*1+0;omega
end DG
section
variable {P:Nat}[NeZero P]{N:Nat}
theorem J6(k o i:Nat)(d:i<257)(w:Ur):(Vl 188 (oZ k o) (iZ i)).run prog w=.ok (.pointer (some ⟨k,o+i,none⟩)) w:=by
 have c:¬(i:Int)<0:=oM;have b:(i:Int)<257:=oM;go_simp
theorem Qf(k i:Nat)(b:i<257)(w:Ur):(Vl 188 (jZ k) (iZ i)).run prog w=.ok (oZ k i) w:=by
 rw[J6 k 0 i b,UD]
theorem FQ(k o i:Nat)(d:i<8)(w:Ur):(Vl 186 (oZ k o) (iZ i)).run prog w=.ok (.pointer (some ⟨k,o+12*i,none⟩)) w:=by
 have c:¬(i:Int)<0:=oM;have b:(i:Int)<8:=oM;go_simp
theorem J7(k o i:Nat)(d:i<8)(w:Ur):(Vl 186 (oZ k o) (.int .i8 i)).run prog w=.ok (.pointer (some ⟨k,o+12*i,none⟩)) w:=by
 have c:¬(i:Int)<0:=oM;have b:(i:Int)<8:=oM;go_simp
theorem FS(k n c i:Nat)(b:i<n)(w:Ur):(Vl 182 (sZ k n c) (iZ i)).run prog w=.ok (.pointer (some ⟨k,353*i,none⟩)) w:=by
 go_simp
theorem SS(k o n c i:Nat)(b:i<n)(w:Ur):(Vl 89 (.slice (some ⟨k,o,none⟩) n c) (iZ i)).run prog w=.ok (.pointer (some ⟨k,o+4*i,none⟩)) w:=by
 go_simp
theorem NY(k o n c i:Nat)(b:i<n)(w:Ur):(Vl 100 (.slice (some ⟨k,o,none⟩) n c) (iZ i)).run prog w=.ok (.pointer (some ⟨k,o+8*i,none⟩)) w:=by
 go_simp
theorem NM(d:Int)(hd:-15<=d/\d<=15)(w:Ur):(Op.unary .neg (.int .i8 d)).run prog w=.ok (.int .i8 (-d)) w:=by
 have h:=ZV (-d) oM;go_simp
theorem NL(k:Nat)(c:k<8)(w:Ur):(binOp .quo 187 (.int .i8 (2*(k:Int)+1)) (.int .i8 2)).run prog w=.ok (.int .i8 k) w:=by
 have b:(2*(k:Int)+1).tdiv 2=(k:Int):=by rw[X7 oM];omega
 have h:=ZV (k:Int) oM;go_simp
theorem Tq(g:Nat)(k:g<32)(w:Ur):(binOp .shr 3 (iZ g) (uZ 4)).run prog w=.ok (iZ ((g/16:Nat):Int)) w:=by
 go_simp
theorem Tr(g:Nat)(b:g<32)(w:Ur):(binOp .shl 3 (iZ g) (uZ 5)).run prog w=.ok (iZ (32*(g:Int))) w:=by
 have h:=Ws (32*(g:Int)) oM;have k:(g:Int)*32=32*(g:Int):=oM;go_simp
theorem Df(a b:Int)(k:-1000<=a/\a<=1000)(c:-1000<=b/\b<=1000)(w:Ur):(binOp .sub 3 (iZ a) (iZ b)).run prog w=.ok (iZ (a-b)) w:=by
 have h:=Ws (a-b) oM;go_simp
theorem uQ(a b:Nat)(k:a<=1000000)(c:b<=1000000)(w:Ur):(binOp .add 3 (iZ a) (iZ b)).run prog w=.ok (iZ ((a+b:Nat):Int)) w:=by
 have h:=Ws ((a:Int)+(b:Int)) oM;go_simp
theorem cv8(v:Int)(hv:-15<=v/\v<=15)(w:Ur):(convert 3 187 (iZ v)).run prog w=.ok (.int .i8 v) w:=by
 have h:=ZV v oM;go_simp
theorem Sz{b c:Nat}(e:b=c)(w:Ur):(binOp .eql 3 (iZ b) (iZ c)).run prog w=.ok (.bool true) w:=by
 subst e;go_simp
theorem SA{b c:Nat}(e:¬b=c)(w:Ur):(binOp .eql 3 (iZ b) (iZ c)).run prog w=.ok (.bool false) w:=by
 have h:¬(b:Int)=(c:Int):=oM;go_simp
theorem gA{i n:Nat}(e:i<n)(w:Ur):(binOp .lss 3 (iZ i) (iZ n)).run prog w=.ok (.bool true) w:=by
 go_simp
theorem nH{i n:Nat}(e:¬i<n)(w:Ur):(binOp .lss 3 (iZ i) (iZ n)).run prog w=.ok (.bool false) w:=by
 go_simp
theorem Ky{n f c:Nat}(b:n<top)(hf:f<=256)(k:c<=32):Gives 220 #[nv n,iZ f,iZ c] (iZ ((n/2^f%2^c:Nat):Int)):=λw =>
 (CY _ n f c (vF b) hf k w).mono (by rintro e w' ⟨v,rfl,d,rfl⟩;exact⟨_,rfl,d,rfl⟩)
def dg(d:Nat->Int):List Ut:=(List.range 257).map (λj=>VZ .i8 (d j))
def dv(d:Nat->Int):Ut:=.agg (dg d).toArray
theorem bQ(d:Nat->Int):(dg d).length=257:=by unfold dg;rw[UQ,List.length_range]
theorem JJ(d:Nat->Int)(j:Nat)(k:j<257):(dg d)[j]? = some (.int .i8 (d j)):=by
 unfold dg;rw[List.getElem?_map,List.getElem?_range k];rfl
theorem PU(d:Nat->Int)(i:Nat)(v:Int):dg (DG.upd d i v)=(dg d).set i (.int .i8 v):=by
 apply YX;intro j;rw[List.getElem?_set];by_cases b:j<257
 ·rw[JJ _ j b,JJ _ j b];by_cases k:i=j
  ·subst k;rw[yCj rfl,yCj (by rw[bQ];exact b),DG.upd_same]
  ·rw[yCk k,DG.iY (λh=>k h.symm)]
 ·rw[Wx (by rw[bQ];omega)];by_cases k:i=j
  ·rw[yCj k,yCk (by rw[bQ];omega)]
  ·rw[yCk k,Wx (by rw[bQ];omega)]
theorem JI(d:Nat->Int):(dg d).all (·.oneCell')=true:=by
 unfold dg;rw[List.all_map];exact List.all_eq_true.2 λ_ _=>rfl
theorem PT(d:Nat->Int):((dg d).drop 0).take (dg d).length=dg d:=by rw[List.drop_zero,List.take_length]
def dgo(n:Nat):Nat->(Nat->Int)->Nat->Nat->(Nat->Int)
 | 0,d,_,_=>d
 | f+1,d,i,c=>if i<257 then(if n/2^i%2=c then dgo n f d (i+1) c else
  dgo n f (DG.upd d i (((n/2^i%32+c:Nat):Int)-32*(((n/2^i%32+c)/16:Nat):Int))) (i+5) ((n/2^i%32+c)/16)) else d
theorem Fy(n:Nat)(f:Nat)(d:Nat->Int)(i c:Nat)(h:¬i<257):dgo n f d i c=d:=by
 cases f with
 | zero=>rfl
 | succ f=>rw[dgo,yCk h]
theorem D2{n:Nat}(k:n<2^256):∀(f:Nat) (d:Nat->Int) (i c:Nat),DG.DI n d i c->257<=i+f->∃g j,257<=g/\DG.DI n (dgo n f d i c) g j
 | 0,d,i,c,h,hf=>⟨i,c,oM,h⟩
 | f+1,d,i,c,h,hf=>by
  by_cases e:i<257
  ·rw[dgo,yCj e];by_cases b:n/2^i%2=c
   ·rw[yCj b];exact D2 k f d (i+1) c (h.skip k e b) oM
   ·rw[yCk b];exact D2 k f _ (i+5) _ (h.take k e b) oM
  ·rw[Fy n _ d i c e];exact⟨i,c,oM,h⟩
def eY(n:Nat):Nat->Int:=dgo n 257 (λ_=>0) 0 0
theorem A8{n:Nat}(k:n<2^256):∃i c,257<=i/\DG.DI n (eY n) i c:=D2 k 257 _ 0 0 (DG.DI.start n) oM
theorem u138:(prog.underlying 188).map (·.isRow)=some true:=kR
theorem i138:(prog.info? 188).map (·.size)=some 257:=kR
theorem TZ:(prog.info? 187).map (·.size)=some 1:=kR
theorem QE:(prog.underlying 187).map (·.isRow)=some false:=kR
theorem N8(w:Ur):(Instr.alloc 188 true (.tuple #[])).run prog w=.ok (jZ w.heap.size) (w.alloc (.cells (dg (λ_=>0)).toArray 188)):=kR
theorem JH{n:Nat}(hn:n<top):Gives 177 #[nv n] (dv (eY n)):=by
 intro w;go_enter func177,ntmps177;refine Hx (v0:=nv n) (n:=33) kR kR kR ?_;intro a0 h0 f0;have h2:=RG.St.begin w;have t:RG.M w w.heap.size [] 33 [] [] [(0,.v (nv n))] a0 _:=⟨h2,h0,⟨f0,yCl⟩⟩
 repeat refine Uz ?_
 refine t.T [.m 0,.m 1] [(0,wn n),(1,dg (λ_=>0))] [] [wn n,dg (λ_=>0)] [1,2] ⟨mk 0 47,qH 1 rfl rfl _ rfl 188 rfl N8,yCl⟩ ?_;intro W X a1 w1 j;repeat refine Uz ?_
 refine j.T [.m 2] [(0,dg (λ_=>0))] [] [wn n,dg (λ_=>0),dg (λ_=>0)] [1,2,3] ⟨qH 2 rfl rfl _ rfl 188 rfl N8,yCl⟩ ?_;intro V a2 w2 k;repeat refine Uz ?_
 refine k.U [.x (iZ 0)] [1,2,3,4] ⟨st,yCl⟩ ?_;intro r w3 f;repeat refine Uz ?_
 refine f.U [.x (iZ 0)] [1,2,3,4,5] ⟨st,yCl⟩ ?_;intro u w4 l;have A:u.tmps[1]? = some (jZ W):=l.at (s:=(.p 0 0));have J:u.tmps[2]? = some (jZ X):=l.at (s:=(.p 1 0));have S:u.tmps[3]? = some (jZ V):=l.at (s:=(.p 2 0));have C:u.tmps[4]? = some (iZ 0):=l.at (s:=(.v (iZ 0)));have K:u.tmps[5]? = some (iZ 0):=l.at (s:=(.v (iZ 0)));repeat refine Uz ?_
 refine XH ?_;refine Ze (λm a wr=>∃(d:Nat->Int) (i c:Nat),c<=1/\i<=261/\257<=i+m/\dgo n m d i c=eY n/\Sl a 33/\a.tmps[1]? = some (jZ W)/\a.tmps[2]? = some (jZ X)/\a.tmps[3]? = some (jZ V)/\a.tmps[4]? = some (iZ c)/\a.tmps[5]? = some (iZ i)/\RG.St w w.heap.size [] [wn n,dg (λ_=>0),dg d] [W,X,V] wr) 257 ⟨λ_=>0,0,0,oM,oM,oM,rfl,l.sl,A,J,S,C,K,l.st⟩ ?_;intro m a wr;rintro⟨d,i,c,hc,h4,hm,hd,sl,y,f2,z,f4,f5,x⟩;obtain⟨b,F⟩:∃b,n/2^i%2=b:=⟨_,rfl⟩
 obtain⟨e,E⟩:∃e,n/2^i%32=e:=⟨_,rfl⟩
 obtain⟨g,M⟩:∃g,e+c=g:=⟨_,rfl⟩
 obtain⟨v,L⟩:∃v:Int,(g:Int)-32*((g/16:Nat):Int)=v:=⟨_,rfl⟩
 generalize W=O at y f2 z x;generalize X=G at y f2 z x;generalize V=T at y f2 z x;by_cases p:i<257
 ·have H:Gives 220 #[nv n,iZ i,iZ 1] (iZ b):=by rw[<-F];exact Ky (c:=1) hn oM oM
  have Z:Gives 220 #[nv n,iZ i,iZ 5] (iZ e):=by rw[<-E];exact Ky (c:=5) hn oM oM
  have h1:∃o,m=o+1:=by
   cases m with
   | zero=>exact absurd hm oM
   | succ o=>exact⟨o,rfl⟩
  obtain⟨o,rfl⟩:=h1;rw[dgo,yCj p,F,E,M,L]at hd;by_cases Y:b=c
  ·rw[yCj Y]at hd;have t:RG.M w w.heap.size [] 33 [wn n,dg (λ_=>0),dg d] [O,G,T] [(1,.p 0 0),(2,.p 1 0),(3,.p 2 0),(4,.v (iZ c)),(5,.v (iZ i))] a _:=⟨x,sl,⟨y,f2,z,f4,f5,yCl⟩⟩
   repeat refine Uz ?_
   refine t.U [.x (iZ i),.x (.bool true)] [1,2,3,4,5,8] ⟨st,aP rfl .lss 3 3 7 (iZ i) (iZ 257) (.bool true) rfl rfl sx (λw=>kR) (gA (n:=257) p),yCl⟩ ?_;intro a1 w1 j;repeat refine Uz ?_
   refine VE j.ev ?_;refine WS ?_;refine Uz ?_;refine XH ?_;repeat refine Uz ?_
   refine j.U [.x (nv n),.x (iZ i),.c (iZ b),.x (iZ c),.x (.bool true)] [1,2,3,4,5,15] ⟨ld u85 i85,st,cl H,st,aQ rfl .eql 3 3 13 14 (iZ b) (iZ c) (.bool true) rfl rfl sx sx (λw=>kR) (Sz Y),yCl⟩ ?_;intro a2 w2 k;repeat refine Uz ?_
   refine VE k.ev ?_;refine wp_exit ?_;dsimp only[Exit.then,Yu];rw[yCj rfl];repeat refine Uz ?_
   refine k.U [.x (iZ i),.x (iZ ((i+1:Nat):Int)),.x (iZ ((i+1:Nat):Int))] [1,2,3,4,5] ⟨st,aP rfl .add 3 3 9 (iZ i) (iZ 1) (iZ ((i+1:Nat):Int)) rfl rfl sx (λw=>kR) (uQ i 1 oM oM),st,yCl⟩ ?_;intro r w3 f;have I:r.tmps[1]? = some (jZ O):=f.at (s:=(.p 0 0));have N:r.tmps[2]? = some (jZ G):=f.at (s:=(.p 1 0));have B:r.tmps[3]? = some (jZ T):=f.at (s:=(.p 2 0));have D:r.tmps[4]? = some (iZ c):=f.at (s:=(.v (iZ c)));have q:r.tmps[5]? = some (iZ ((i+1:Nat):Int)):=f.at (s:=(.v (iZ ((i+1:Nat):Int))));show ∃n',_;exact⟨o,YG o,d,i+1,c,hc,oM,oM,hd,f.sl,I,N,B,D,q,f.st⟩
  ·rw[yCk Y]at hd;have he:e<32:=oM;have h3:g%2=1:=oM;have hg:g<32:=oM;have hv:-15<=v/\v<=15:=oM;have R:∀w,(binOp .add 3 (iZ e) (iZ c)).run prog w=.ok (iZ g) w:=λw=>by rw[uQ e c oM oM,M]
   have U:∀w,(binOp .sub 3 (iZ g) (iZ (32*((g/16:Nat):Int)))).run prog w=.ok (iZ v) w:=λw=>by rw[Df _ _ oM oM,L]
   have t:RG.M w w.heap.size [] 33 [wn n,dg (λ_=>0),dg d] [O,G,T] [(1,.p 0 0),(2,.p 1 0),(3,.p 2 0),(4,.v (iZ c)),(5,.v (iZ i))] a _:=⟨x,sl,⟨y,f2,z,f4,f5,yCl⟩⟩
   repeat refine Uz ?_
   refine t.U [.x (iZ i),.x (.bool true)] [1,2,3,4,5,8] ⟨st,aP rfl .lss 3 3 7 (iZ i) (iZ 257) (.bool true) rfl rfl sx (λw=>kR) (gA (n:=257) p),yCl⟩ ?_;intro a1 w1 j;repeat refine Uz ?_
   refine VE j.ev ?_;refine WS ?_;refine Uz ?_;refine XH ?_;repeat refine Uz ?_
   refine j.U [.x (nv n),.x (iZ i),.c (iZ b),.x (iZ c),.x (.bool false)] [1,2,3,4,5,15] ⟨ld u85 i85,st,cl H,st,aQ rfl .eql 3 3 13 14 (iZ b) (iZ c) (.bool false) rfl rfl sx sx (λw=>kR) (SA Y),yCl⟩ ?_;intro a2 w2 k;repeat refine Uz ?_
   refine VI k.ev ?_;refine WS ?_;repeat refine Uz ?_
   refine k.U [.x (nv n),.x (iZ i),.c (iZ e),.x (iZ c),.x (iZ g),.x (iZ g)] [1,2,3,4,5,6] ⟨ld u85 i85,st,cl Z,st,aQ rfl .add 3 3 18 19 (iZ e) (iZ c) (iZ g) rfl rfl sx sx (λw=>kR) R,st,yCl⟩ ?_;intro r w3 f;repeat refine Uz ?_
   refine f.U [.x (iZ g),.x (iZ ((g/16:Nat):Int)),.x (iZ ((g/16:Nat):Int))] [1,2,3,4,5,6] ⟨st,aP rfl .shr 3 169 21 (iZ g) (uZ 4) (iZ ((g/16:Nat):Int)) rfl rfl sx (λw=>kR) (Tq g hg),st,yCl⟩ ?_;intro u w4 l;repeat refine Uz ?_
   refine l.T [.x (iZ i),.x (iZ g),.x (iZ ((g/16:Nat):Int)),.x (iZ (32*((g/16:Nat):Int))),.x (iZ v),.x (.int .i8 v),.s (.p 2 i),.u 2] [] [(2,7,dg (DG.upd d i v))] [wn n,dg (λ_=>0),dg (DG.upd d i v)] [1,2,3,4,5] ⟨st,st,st,aP rfl .shl 3 169 25 (iZ ((g/16:Nat):Int)) (uZ 5) (iZ (32*((g/16:Nat):Int))) rfl rfl sx (λw=>kR) (Tr (g/16) oM),aQ rfl .sub 3 3 24 26 (iZ g) (iZ (32*((g/16:Nat):Int))) (iZ v) rfl rfl sx sx (λw=>kR) U,GV rfl 3 187 27 (iZ v) (.int .i8 v) rfl rfl sx (cv8 v hv),bD rfl 188 3 23 rfl (.p 2 0) (iZ i) sx sx (λμ w=>Qf _ i p w),GU 2 i rfl _ rfl 187 (.tmp 29) (.tmp 28) (.int .i8 v) rfl rfl sx sx (by show i<(dg _).length;rw[bQ];exact p) (PU d i v) TZ rfl rfl,yCl⟩ ?_;intro a5 w5 M5;repeat refine Uz ?_
   refine M5.U [.x (iZ i),.x (iZ ((i+4:Nat):Int)),.x (iZ ((i+4:Nat):Int))] [1,2,3,4,5] ⟨st,aP rfl .add 3 3 30 (iZ i) (iZ 4) (iZ ((i+4:Nat):Int)) rfl rfl sx (λw=>kR) (uQ i 4 oM oM),st,yCl⟩ ?_;intro a6 w6 M6;repeat refine Uz ?_
   refine M6.U [.x (iZ ((i+4:Nat):Int)),.x (iZ ((i+4+1:Nat):Int)),.x (iZ ((i+4+1:Nat):Int))] [1,2,3,4,5] ⟨st,aP rfl .add 3 3 9 (iZ ((i+4:Nat):Int)) (iZ 1) (iZ ((i+4+1:Nat):Int)) rfl rfl sx (λw=>kR) (uQ (i+4) 1 oM oM),st,yCl⟩ ?_;intro P w7 q;have D:P.tmps[1]? = some (jZ O):=q.at (s:=(.p 0 0));have Q:P.tmps[2]? = some (jZ G):=q.at (s:=(.p 1 0));have I:P.tmps[3]? = some (jZ T):=q.at (s:=(.p 2 0));have N:P.tmps[4]? = some (iZ ((g/16:Nat):Int)):=q.at (s:=(.v (iZ ((g/16:Nat):Int))));have B:P.tmps[5]? = some (iZ ((i+4+1:Nat):Int)):=q.at (s:=(.v (iZ ((i+4+1:Nat):Int))));show ∃n',_;exact⟨o,YG o,DG.upd d i v,i+5,g/16,oM,oM,oM,hd,q.sl,D,Q,I,N,B,q.st⟩
 ·have o:d=eY n:=by rw[<-hd,Fy n m d i c p]
  have t:RG.M w w.heap.size [] 33 [wn n,dg (λ_=>0),dg d] [O,G,T] [(1,.p 0 0),(2,.p 1 0),(3,.p 2 0),(4,.v (iZ c)),(5,.v (iZ i))] a _:=⟨x,sl,⟨y,f2,z,f4,f5,yCl⟩⟩
  repeat refine Uz ?_
  refine t.U [.x (iZ i),.x (.bool false)] [2,3,8] ⟨st,aP rfl .lss 3 3 7 (iZ i) (iZ 257) (.bool false) rfl rfl sx (λw=>kR) (nH (n:=257) p),yCl⟩ ?_;intro a1 w1 j;repeat refine Uz ?_
  refine VI j.ev ?_;refine wp_exit ?_;dsimp only[Exit.then,Yu];rw[yCj rfl];repeat refine Uz ?_
  refine j.T [.x (dv d),.u 1] [] [(1,1,dg d)] [wn n,dg d,dg d] [2] ⟨oI rfl 2 0 _ rfl rfl kR 188 3 rfl (dg d) rfl sx (PT _) u138 (by rw[bQ];exact i138),JU 1 rfl _ rfl 188 (.tmp 2) (.tmp 32) rfl rfl (by show(dg _).length=(dg _).length;rw[bQ,bQ]) sx sx (by show _=some (dg _).length;rw[bQ];exact i138) (JI _),yCl⟩ ?_;intro a2 w2 k;refine Wp ?_;refine UE (v:=dv d) (aI k.st 2 188 rfl 1 _ rfl (k.at (s:=(.p 1 0))) u138 (by rw[bQ];exact i138)) k.sl.defers ?_;exact⟨_,rfl,k.st.bel.below,by rw[o]⟩
omit [NeZero P] in
theorem cJ(t:T3 P):(tw t).length=12:=rfl
omit [NeZero P] in
theorem H5(t:T3 P):(tw t).all (·.oneCell')=true:=rfl
def od(x y:Fin P):Nat->T3 P
 | 0=>raJ x y
 | q+1=>plJ (od x y q) (twJ (raJ x y))
theorem O4(C:Fld P){x y:Fin P}{p:EC.Pt P}(h:Pair x y p)(k:On p):∀q,JacT (od x y q) (eF ((2*q+1:Nat):Int) p)
 | 0=>by
  show JacT (raJ x y) (eF 1 p);rw[Bv];exact Nx C h k
 | q+1=>by
  have d:=O4 C h k q;have c:=(Nx C h k).twice C;have b:=d.plus C c;have e:eF ((2*(q+1)+1:Nat):Int) p=EC.add (eF ((2*q+1:Nat):Int) p) (EC.add p p):=by
   have:EC.add p p=eF 2 p:=by
    rw[show(2:Int)=1+1 by rfl,vU C.cur k,Bv]
   rw[this,<-vU C.cur k]
   congr 1
  rw[e];exact b
structure Fi(x y:Fin P)(D:Nat->Int)(C0:List Ut)(off m:Nat)(C:List Ut):Prop where
 len:C.length=C0.length
 out:∀j,j<off\/off+353<=j->C[j]? = C0[j]?
 dig:∀j,j<257->C[off+96+j]? = some (.int .i8 (D j))
 odd:∀q j,q<m->j<12->C[off+12*q+j]? = (tw (od x y q))[j]?
theorem Fi.first{x y:Fin P}{D:Nat->Int}{C0:List Ut}{off:Nat}(h:off+353<=C0.length):Fi x y D C0 off 0 (rep C0 (off+96) (dg D)):=by
 have k:off+96+(dg D).length<=C0.length:=by rw[bQ];omega
 refine⟨cU k,λj b=>?_,λj b=>?_,λq j c _=>oM⟩
 ·rw[RG.rep_at k,yCk (by rw[bQ];omega)]
 ·rw[RG.rep_at k,yCj (by rw[bQ];omega),show off+96+j-(off+96)=j by omega,JJ D j b]
theorem Fi.next{x y:Fin P}{D:Nat->Int}{C0 C:List Ut}{off m:Nat}(h:off+353<=C0.length)(c:Fi x y D C0 off m C)(f:m<8):Fi x y D C0 off (m+1) (rep C (off+12*m) (tw (od x y m))):=by
 have b:=c.len;have d:off+12*m+(tw (od x y m)).length<=C.length:=by rw[cJ];omega
 refine⟨by rw[cU d];exact b,λj k=>?_,λj k=>?_,λq j g k=>?_⟩
 ·rw[RG.rep_at d,yCk (by rw[cJ];omega)];exact c.out j k
 ·rw[RG.rep_at d,yCk (by rw[cJ];omega)];exact c.dig j k
 ·rw[RG.rep_at d];by_cases e:q=m
  ·subst e;rw[yCj (by rw[cJ];omega),show off+12*q+j-(off+12*q)=j by omega]
  ·rw[yCk (by rw[cJ];omega)];exact c.odd q j oM k
theorem Fi.sub{x y:Fin P}{D:Nat->Int}{C0 C:List Ut}{off m q:Nat}(h:off+353<=C0.length)(k:Fi x y D C0 off m C)(c:q<m)(d:m<=8):(C.drop (off+12*q)).take (tw (od x y q)).length=tw (od x y q):=
 Oz (λj b=>k.odd q j c (by rw[cJ]at b;exact b)) (by rw[cJ];have:=k.len;omega)
def fc(x y:Fin P)(D:Nat->Int)(C0:List Ut)(off:Nat):Nat->List Ut
 | 0=>rep C0 (off+96) (dg D)
 | m+1=>rep (fc x y D C0 off m) (off+12*m) (tw (od x y m))
theorem Fq{x y:Fin P}{D:Nat->Int}{C0:List Ut}{off:Nat}(h:off+353<=C0.length):∀m,m<=8->Fi x y D C0 off m (fc x y D C0 off m)
 | 0,_=>Fi.first h
 | m+1,hm=>(Fq h m oM).next h oM
theorem Fi.uniq{x y:Fin P}{D:Nat->Int}{C0 C c:List Ut}{off:Nat}(h:Fi x y D C0 off 8 C)(k:Fi x y D C0 off 8 c):C=c:=by
 apply YX;intro j;by_cases b:j<off\/off+353<=j
 ·rw[h.out j b,k.out j b]
 ·by_cases d:j<off+96
  ·have e:j=off+12*((j-off)/12)+(j-off)%12:=oM;rw[e,h.odd _ _ oM oM,k.odd _ _ oM oM]
  ·have e:j=off+96+(j-off-96):=oM;rw[e,h.dig _ oM,k.dig _ oM]
theorem PP(F:Fld P){n:Nat}(hn:n<top)(x y:Fin P)(C0:List Ut)(k off:Nat)(j:off+353<=C0.length)(w:Ur)(hk:k<w.heap.size)(ht:w.there k 0 C0.length)(hr:w.rangeAt k 0 C0):
 UH prog 107 #[oZ k off,nv n,pv x y] w (Ret λr w'=>(∃C,Fi x y (eY n) C0 off 8 C/\PutTo k C0.length C w w')/\r=.tuple #[]):=by
 obtain⟨D,o⟩:∃D,eY n=D:=⟨_,rfl⟩
 have hD:Gives 177 #[nv n] (dv D):=o ▸ JH hn;obtain⟨s0,e⟩:∃s,raJ x y=s:=⟨_,rfl⟩
 have h6:Gives 178 #[pv x y] (tv s0):=e ▸ QY F x y;obtain⟨s2,d⟩:∃s,twJ s0=s:=⟨_,rfl⟩
 have h7:Gives 108 #[tv s0] (tv s2):=d ▸ Ns F s0;obtain⟨f,z⟩:∃c,rep C0 (off+96) (dg D)=c:=⟨_,rfl⟩
 have M:off+96+(dg D).length<=C0.length:=by rw[bQ];omega
 have X:=z ▸ RG.rep_at M;have h2:f.length=C0.length:=z ▸ cU M;have F1:Fi x y D C0 off 0 f:=z ▸ Fi.first j;obtain⟨l,b⟩:∃c,rep f (off+0+12*0) (tw s0)=c:=⟨_,rfl⟩
 have p:off+0+12*0+(tw s0).length<=f.length:=by rw[cJ];omega
 have B:=b ▸ RG.rep_at p;have A:l.length=f.length:=b ▸ cU p;have F2:Fi x y D C0 off 1 l:=by
  have:=F1.next j dC;rw[<-b,<-e];exact this
 have u:(l.drop (off+0+12*0)).take (tw s0).length=tw s0:=by
  have:=F2.sub j (q:=0) dC dC;rw[<-e];exact this
 obtain⟨i,hs⟩:∃i:Nat,i=0:=⟨_,rfl⟩
 obtain⟨s3,-⟩:∃s:T3 P,s=s0:=⟨_,rfl⟩
 obtain⟨I,-⟩:∃s:T3 P,s=s0:=⟨_,rfl⟩
 go_enter func107,ntmps107;refine Tb (v0:=oZ k off) (v1:=nv n) (v2:=pv x y) (n:=43) kR kR kR kR kR ?_;intro a0 ha f0 f1 f2;have hc:=RG.St.lent hk hr ht;have M0:RG.M w w.heap.size [k] 43 [C0] [k] [(0,.p 0 off),(1,.v (nv n)),(2,.v (pv x y))] a0 _:=⟨hc,ha,⟨f0,f1,f2,yCl⟩⟩
 repeat refine Uz ?_
 refine M0.T [.m 1,.m 2] [(0,wn n),(1,ws x++(ws y))] [] [C0,wn n,ws x++(ws y)] [0,4,5] ⟨mk 1 47,mk 2 93,yCl⟩ ?_;intro Q N E w1 g;have J:E.tmps[0]? = some (oZ k off):=g.at (s:=(.p 0 off));have h0:E.tmps[4]? = some (jZ Q):=g.at (s:=(.p 1 0));have Z:E.tmps[5]? = some (jZ N):=g.at (s:=(.p 2 0));have g:RG.M w w.heap.size [k] 43 [C0,wn n,ws x++(ws y)] [k,Q,N] [(0,.p 0 off),(4,.p 1 0),(5,.p 2 0)] E _:=⟨g.st,g.sl,⟨J,h0,Z,yCl⟩⟩
 repeat refine Uz ?_
 refine g.tx [.s 8 [] (.p 0 off),.x 9 [] (nv n),.c 10 [(9,1)] (dv D),.s 11 [(8,0)] (.p 0 off),.s 12 [(11,3)] (.p 0 (off+96)),.u [(12,4),(10,2)] 0] [] [(0,5,f)] [f,wn n,ws x++(ws y)] [(0,.p 0 off),(5,.p 2 0)] kR (congrArg (λn=>[n]) h2) ⟨st,ld u85 i85,cl hD,st,st,eZ 0 (off+96) rfl _ rfl 188 (.tmp 12) (.tmp 10) (dg D) rfl rfl sx sx (by show off+96+(dg D).length<=C0.length;rw[bQ];omega) X (by show _=some (dg _).length;rw[bQ];exact i138) (JI _),yCl⟩ ?_;intro a2 w2 K;have V:a2.tmps[0]? = some (oZ k off):=K.at (s:=(.p 0 off));have h4:a2.tmps[5]? = some (jZ N):=K.at (s:=(.p 2 0));have K:RG.M w w.heap.size [k] 43 [f,wn n,ws x++(ws y)] [k,Q,N] [(0,.p 0 off),(5,.p 2 0)] a2 _:=⟨K.st,K.sl,⟨V,h4,yCl⟩⟩
 repeat refine Uz ?_
 refine K.dr kR [.s 13 [] (.p 0 off),.x 14 [] (pv x y),.c 15 [(14,1)] (tv s0),.s 16 [(13,0)] (.p 0 off),.s 17 [(16,3)] (.p 0 (off+0)),.s 18 [(17,4)] (.p 0 ((off+0)+12*0)),.u [(18,5),(15,2)] 0] [] [(0,6,l)] [l,wn n,ws x++(ws y)] [(0,.p 0 off)] kR (congrArg (λn=>[n]) A) ⟨st,ld gU i109,cl h6,st,st,eM rfl 186 17 (iZ 0) rfl (.p 0 (off+0)) sx (λμ w=>FQ _ _ 0 dC w),eZ 0 ((off+0)+12*0) rfl _ rfl 185 (.tmp 18) (.tmp 15) (tw s0) rfl rfl sx sx (by show off+0+12*0+(tw s0).length<=f.length;rw[cJ];omega) B i117 (H5 _),yCl⟩ ?_;intro R w3 v;have t:R.tmps[0]? = some (oZ k off):=v.at (s:=(.p 0 off));have v:RG.M w w.heap.size [k] 43 [l,wn n,ws x++(ws y)] [k,Q,N] [(0,.p 0 off)] R _:=⟨v.st,v.sl,⟨t,yCl⟩⟩
 repeat refine Uz ?_
 refine v.T [.s (.p 0 off),.s (.p 0 off),.s (.p 0 (off+0)),.s (.p 0 ((off+0)+12*0)),.x (tv s0),.c (tv s2),.m 3,.u 3] [(6,RG.z 12)] [(3,7,tw s2)] [l,wn n,ws x++(ws y),tw s2] [0,6] ⟨st,st,st,eM rfl 186 21 (iZ 0) rfl (.p 0 (off+0)) sx (λμ w=>FQ _ _ 0 dC w),oI rfl 0 ((off+0)+12*0) _ rfl rfl kR 185 22 rfl (tw s0) rfl sx u iF i117,cl h7,mk 3 185,RG.pt i117,yCl⟩ ?_;intro j4 a4 w4 M4;repeat refine Uz ?_
 refine M4.U [.x (iZ 1)] [0,6,7] ⟨st,yCl⟩ ?_;intro a5 w5 Y;have T:a5.tmps[0]? = some (oZ k off):=Y.at (s:=(.p 0 off));have h3:a5.tmps[6]? = some (jZ j4):=Y.at (s:=(.p 3 0));have W:a5.tmps[7]? = some (iZ 1):=Y.at (s:=(.v (iZ 1)));subst o;subst e;subst d;clear X B u h2 A M p;repeat refine Uz ?_
 refine XH ?_;refine Ze (λm a wr=>∃(i:Nat) (C:List Ut),1<=i/\i<=8/\i+m=8/\Fi x y (eY n) C0 off i C/\Sl a 43/\a.tmps[0]? = some (oZ k off)/\a.tmps[6]? = some (jZ j4)/\a.tmps[7]? = some (iZ i)/\RG.St w w.heap.size [k] [C,wn n,ws x++ws y,tw (twJ (raJ x y))] [k,Q,N,j4] wr) 7 ⟨1,l,oM,oM,oM,F2,Y.sl,T,h3,W,Y.st⟩ ?_;intro m a wr;rintro⟨i,f,hp,hq,hm,S,sl,g0,U,g7,O⟩;generalize Q=k1 at U O;generalize N=k2 at U O;generalize j4=k3 at U O;obtain⟨D,o⟩:∃D,eY n=D:=⟨_,rfl⟩
 rw[o]at S;obtain⟨s0,e⟩:∃s,raJ x y=s:=⟨_,rfl⟩
 obtain⟨s2,d⟩:∃s,twJ (raJ x y)=s:=⟨_,rfl⟩
 rw[d]at O;obtain⟨I,G⟩:∃s,od x y (i-1)=s:=⟨_,rfl⟩
 obtain⟨s3,H⟩:∃s,plJ I s2=s:=⟨_,rfl⟩
 have he:Gives 109 #[tv I,tv s2] (tv s3):=H ▸ Nz F I s2;have hj:=S.len;by_cases hi:i<8
 ·have hb:od x y i=s3:=by
   obtain⟨q,rfl⟩:∃q,i=q+1:=⟨i-1,oM⟩
   rw[<-H,<-G,<-d];rfl
  have L:(f.drop (off+0+12*(i-1))).take (tw I).length=tw I:=by
   have:=S.sub j (q:=i-1) oM oM;rw[G]at this;exact this
  obtain⟨l,b⟩:∃c,rep f (off+0+12*i) (tw s3)=c:=⟨_,rfl⟩
  have p:off+0+12*i+(tw s3).length<=f.length:=by rw[cJ];omega
  have B:=b ▸ RG.rep_at p;have A:l.length=f.length:=b ▸ cU p;have h9:Fi x y D C0 off (i+1) l:=by
   have:=S.next j hi;rw[hb]at this;rw[<-b];exact this
  have h8:∀w,(binOp .sub 3 (iZ i) (iZ 1)).run prog w=.ok (iZ ((i-1:Nat):Int)) w:=λw=>by
   rw[Df _ _ oM oM,show(i:Int)-1=((i-1:Nat):Int) by omega]
  clear e b;have M0:RG.M w w.heap.size [k] 43 [f,wn n,ws x++(ws y),tw s2] [k,k1,k2,k3] [(0,.p 0 off),(6,.p 3 0),(7,.v (iZ i))] a _:=⟨O,sl,⟨g0,U,g7,yCl⟩⟩
  repeat refine Uz ?_
  refine M0.U [.x (iZ i),.x (.bool true)] [0,6,7,26] ⟨st,aP rfl .lss 3 3 25 (iZ i) (iZ 8) (.bool true) rfl rfl sx (λw=>kR) (gA (n:=8) hi),yCl⟩ ?_;intro E w1 g;repeat refine Uz ?_
  refine VE g.ev ?_;refine WS ?_;refine Uz ?_;refine XH ?_;repeat refine Uz ?_
  refine g.dr kR [.s 29 [] (.p 0 off),.x 30 [] (iZ i),.s 31 [] (.p 0 off),.x 32 [] (iZ i),.x 33 [(32,3)] (iZ ((i-1:Nat):Int)),.s 34 [(31,2)] (.p 0 off),.s 35 [(34,5)] (.p 0 (off+0)),.s 36 [(35,6),(33,4)] (.p 0 ((off+0)+12*(i-1))),.x 37 [(36,7)] (tv I),.x 38 [] (tv s2),.c 39 [(37,8),(38,9)] (tv s3),.s 40 [(29,0)] (.p 0 off),.s 41 [(40,11)] (.p 0 (off+0)),.s 42 [(41,12),(30,1)] (.p 0 ((off+0)+12*i)),.u [(42,13),(39,10)] 0] [] [(0,14,l)] [l,wn n,ws x++(ws y),tw s2] [(0,.p 0 off),(6,.p 3 0),(7,.v (iZ i))] kR (congrArg (λn=>[n]) A) ⟨st,st,st,st,aP rfl .sub 3 3 32 (iZ i) (iZ 1) (iZ ((i-1:Nat):Int)) rfl rfl sx (λw=>kR) h8,st,st,bD rfl 186 35 33 rfl (.p 0 (off+0)) (iZ ((i-1:Nat):Int)) sx sx (λμ w=>FQ _ _ (i-1) oM w),oI rfl 0 ((off+0)+12*(i-1)) _ rfl rfl kR 185 36 rfl (tw I) rfl sx L iF i117,ld iF i117,cl he,st,st,bD rfl 186 41 30 rfl (.p 0 (off+0)) (iZ i) sx sx (λμ w=>FQ _ _ i oM w),eZ 0 ((off+0)+12*i) rfl _ rfl 185 (.tmp 42) (.tmp 39) (tw s3) rfl rfl sx sx (by show off+0+12*i+(tw s3).length<=f.length;rw[cJ];omega) B i117 (H5 _),yCl⟩ ?_;intro a2 w2 K;repeat refine Uz ?_
  refine K.U [.x (iZ i),.x (iZ ((i+1:Nat):Int)),.x (iZ ((i+1:Nat):Int))] [0,6,7] ⟨st,aP rfl .add 3 3 27 (iZ i) (iZ 1) (iZ ((i+1:Nat):Int)) rfl rfl sx (λw=>kR) (uQ i 1 oM oM),st,yCl⟩ ?_;intro R w3 v;have t:R.tmps[0]? = some (oZ k off):=v.at (s:=(.p 0 off));have h5:R.tmps[6]? = some (jZ k3):=v.at (s:=(.p 3 0));have h1:R.tmps[7]? = some (iZ ((i+1:Nat):Int)):=v.at (s:=(.v (iZ ((i+1:Nat):Int))));show ∃n',_;exact⟨m-1,oM,i+1,l,oM,oM,oM,o.symm ▸ h9,v.sl,t,h5,h1,by rw[d];exact v.st⟩
 ·have L:i=8:=oM;obtain⟨l,-⟩:∃c:List Ut,c=f:=⟨_,rfl⟩
  have M0:RG.M w w.heap.size [k] 43 [f,wn n,ws x++(ws y),tw s2] [k,k1,k2,k3] [(0,.p 0 off),(6,.p 3 0),(7,.v (iZ i))] a _:=⟨O,sl,⟨g0,U,g7,yCl⟩⟩
  repeat refine Uz ?_
  refine M0.U [.x (iZ i),.x (.bool false)] [0,6,7,26] ⟨st,aP rfl .lss 3 3 25 (iZ i) (iZ 8) (.bool false) rfl rfl sx (λw=>kR) (nH (n:=8) hi),yCl⟩ ?_;intro E w1 g;repeat refine Uz ?_
  refine VI g.ev ?_;refine wp_exit ?_;dsimp only[Exit.then,Yu];rw[yCj rfl];have J:E.tmps[0]? = some (oZ k off):=g.at (s:=(.p 0 off));have hl:E.tmps[6]? = some (jZ k3):=g.at (s:=(.p 3 0));have hg:E.tmps[7]? = some (iZ i):=g.at (s:=(.v (iZ i)));exact⟨g.sl.defers,.tuple #[],RG.results_none rfl,_,rfl,⟨f,o.symm ▸ L ▸ S,g.st.putTo S.len⟩,rfl⟩
end
end Go.Proofs.YtdoammpgchejcaaGreat
