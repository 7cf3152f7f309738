import Derived.Deep.RegionHeld3
import Derived.Deep.LoopGhost
import Derived.Laws.BitsLemmas
import Derived.OrdersHeld
import Derived.Deep.RegionHeld
import Derived.Deep.CutRange
import Derived.Deep.DeepCutAuto
import Derived.Laws.Tables
import Derived.LoopN
import Derived.Deep.RegionWith
import Derived.Deep.Draws
import Derived.Deep.OwnRows
import Derived.Lib.LazyBuf
import Derived.Lib.ConvBytes
import Derived.Test.YtdoammpgchejcaaGreatsz1
set_option linter.unusedVariables false
set_option linter.constructorNameAsVariable false
set_option linter.unusedSimpArgs false
set_option maxRecDepth 1000000
set_option maxHeartbeats 4000000
namespace Go.Proofs.YtdoammpgchejcaaGreat
open EC RG
open _root_.Array renaming getElem?_replicate->Yg,getElem_replicate->Wv,getElem_toList->XD,replicate->UI,size_append->VM,size_replicate->UO
open _root_.Bool renaming noConfusion->Yx
open _root_.Fin renaming ext_iff->yB2
open _root_.Go renaming Calls->UG,FuncId->Xp,Oper->Vj,Program->VC,TypeId->U7,Value->Us,World->Uq,bodyPost_ret->UD,getD_set_ne->XP,rounds_succ->Xb,sizeOf->yAa,undef->WO,wp_block->XG,wp_cond_false->VH,wp_cond_true->VD,wp_loop_ghost->Ze,wp_ret->We,wp_seq->Uy,wp_skip->WR
open _root_.Go.Act renaming put->UM
open _root_.Go.Addr renaming add->Zi
open _root_.Go.Builtin renaming copy_->XY
open _root_.Go.Exit renaming inBlock->Yu
open _root_.Go.Instr renaming index->ZL,indexAt->Vk
open _root_.Go.IntKind renaming i64->VR,u64->Vn,u8->Xx,wrap_i64->Yj,wrap_u64->XT
open _root_.Go.IntWalk renaming i64_in->Wr,i8_in->ZV
open _root_.Go.Op renaming equalIn->yCa
open _root_.Go.Region renaming binds->VO,free->YL,noSelect->XK,ready->U6
open _root_.Go.Result renaming andThen_ok->Vl
open _root_.Go.RowKit.Below renaming heap_setCell->Zr
open _root_.Go.Value renaming agg->U2,int->VY
open _root_.Go.World renaming alloc->Xs,cell?->VX,cell?_alloc_new->Vb,cell?_of_block->UV,cell?_setCell_other->UT,cell?_setCell_same->VU,frozen?_alloc_new->Wu,frozen?_setCell->VK,setCell->Yb,size_alloc->UA
open _root_.Int renaming add_mul->yBZ,add_zero->ZR,mul_assoc->yAd,mul_comm->ZF,natCast_ediv->Zb,natCast_emod->yBe,natCast_mul->Xv,natCast_pow->Z9,natCast_zero->WG,pow_succ->yBN,tdiv_eq_ediv_of_nonneg->X7,zero_mul->ZE
open _root_.List renaming ext_getElem?->YX,foldl_cons->yBd,getElem?_eq_none->Ww,getElem_map->Xc,length_map->UP,not_mem_nil->UX,replicate->VA,setIfInBounds_toArray->Ur,set_cons_succ->Ut,set_cons_zero->Uu
open _root_.Nat renaming add_assoc->WQ,add_mod_right->yAY,add_zero->XA,div_add_mod->Z8,div_div_eq_div_mul->XM,div_eq_of_lt->Xd,div_le_self->yBp,div_one->yBX,le_of_lt->XJ,le_refl->Uv,le_succ->Zl,lt_of_le_of_lt->yAM,lt_of_lt_of_le->Uw,lt_succ_self->YG,mod_eq_of_lt->UR,mod_lt->V4,mod_one->yAW,mul_assoc->X0,mul_comm->Vu,mul_le_mul_right->Xr,mul_mod->Xy,mul_zero->ZP,ne_of_gt->V7,ne_of_lt->Xj,or_comm->yBU,pow_add->Yp,pow_le_pow_right->Vz,pow_pos->XH,pow_succ->V6,pow_zero->YN,sub_self->YU,sub_zero->YT,two_pow_add_eq_or_of_lt->YF,zero_add->UC
open _root_.Ne renaming symm->YB
open _root_.Or renaming inl->U3,inr->UW
open _root_.UInt8 renaming ofNat->UL
open Go.Proofs.Tryz
open Go.RowKit Go.Sort Go.Deep
section
variable {P:Nat}[NeZero P]{N:Nat}
theorem Cn(w:Uq)(t0 t1 t2 q:U7)(a b c d e f g h i j k l m n o p:Nat):
 Kept w w.heap.size [⟨w.heap.size,0,a,b,c,d⟩,⟨w.heap.size+1,0,e,f,g,h⟩,⟨w.heap.size+1+1,0,i,j,k,l⟩,⟨w.heap.size+1+1+1,0,m,n,o,p⟩]
  ((((w.alloc (.cells #[uZ a,uZ b,uZ c,uZ d] t0)).alloc (.cells #[uZ e,uZ f,uZ g,uZ h] t1)).alloc (.cells #[uZ i,uZ j,uZ k,uZ l] t2)).alloc (.cells #[uZ m,uZ n,uZ o,uZ p] q)):=by
 refine((((Kept.mk1 (Ec w _ _ _ _) (Ec w _ _ _ _).size).cons ?_).cons ?_).cons ?_).cons ?_
 ·exact(At4.made _ q m n o p (by simp)).blk
 ·exact((At4.made _ t2 i j k l (by simp)).alloc _).blk
 ·exact(((At4.made _ t1 e f g h (by simp)).alloc _).alloc _).blk
 ·exact((((At4.made _ t0 a b c d rfl).alloc _).alloc _).alloc _).blk
theorem Mg{c b k P m n s l:Nat}(hG:Gap c b k P)(d:s+top*0=m+n)(f:l+top*0=s+val c b k 0)(e:l<top):(m+n)%P=s:=by
 have:=hG.hP;rw[<-d,ZP,XA,UR oM]
theorem Mh{g e f P m n s l k j:Nat}(hG:Gap g e f P)(x:m<P)(t:n<P)(p:s+top*k=m+n)(i:l+top*j=s+val g e f 0)(r:k<=1)(u:j<=1)(o:¬(k=0/\j=0))(q:s<top)(_:l<top):(m+n)%P=l:=by
 have w:=hG.hP;have v:=hG.hP2;have c:k=0\/k=1:=oM;have d:j=0\/j=1:=oM;have:m+n=l+P:=by
  rcases c with h|h<;>rcases d with b|b<;>rw[h]at p<;>rw[b]at i<;>first|omega|(exfalso;exact o ⟨h,b⟩)
 rw[this,yAY,UR oM]
theorem or2(a b:Nat)(e:a<=1)(d:b<=1):∃o:Nat,bits .or .u64 (a:Int) (b:Int)=(o:Int)/\(o=0↔(a=0/\b=0)):=by
 have c:a=0\/a=1:=oM;have k:b=0\/b=1:=oM;rcases c with rfl|rfl<;>rcases k with rfl|rfl
 ·exact⟨0,dK,dC⟩
 ·exact⟨1,dK,dC⟩
 ·exact⟨1,dK,dC⟩
 ·exact⟨1,dK,dC⟩
theorem I5{P m n s:Nat}(b:m<P)(k:n<P)(c:s+n=m+top*0):(m+P-n)%P=s:=by
 rw[show m+P-n=s+P by omega,yAY,UR oM]
theorem I6{e b d P m n s l j:Nat}(hG:Gap e b d P)(_:m<P)(i:n<P)(r:s+n=m+top*1)(f:l+val e b d 0=s+top*j)(o:j<=1)(p:l<top)(g:s<top):(m+P-n)%P=l:=by
 have q:=hG.hP;have k:j=0\/j=1:=oM;have:m+P-n=l:=by
  rcases k with c|c<;>rw[c]at f<;>omega
 rw[this,UR oM]
theorem sum_any(L M Q P:Nat)(x y:Us)(m n:Nat)(hG:Gap L M Q P)(hx:Four x m)(V:Four y n)(hm:m<P)(hn:n<P)(w:Uq):
 UG prog 215 #[.agg #[uZ L,uZ M,uZ Q,uZ 0],x,y] w (rZ w λe w'=>Four e ((m+n)%P)):=by
 obtain⟨a,b,c,d,rfl,ha,hb,hc,hd,em⟩:=id hx;obtain⟨p,q,r,s,rfl,hp,hq,hr,hs,en⟩:=id V;clear em en ha hb hc hd hp hq hr hs;go_enter func215,ntmps215;go_wp2_with fail
 have u:=Cn w 120 118 118 118 L M Q 0 a b c d p q r s 0 0 0 0;simp only[WG]at u;generalize Xs _ _=W0 at u⊢;generalize h3:w.heap.size+1+1+1=X at u⊢;generalize h2:w.heap.size+1+1=k2 at u⊢;generalize h1:w.heap.size+1=k1 at u⊢;have T:Hid (w.heap.size<=X):=by unfold Hid;omega
 generalize h0:w.heap.size=k0 at u T⊢;have H0:Hid (w.heap.size=k0):=h0;have W:k0≠X:=oM;clear h0 h1 h2 h3;refine(qV _ _ _ _ hx V _).mono ?_;rintro e w1 ⟨v,rfl,S,v2,t,k,rfl,⟨H,b1,c1,I,rfl,C,i,F,D,N⟩,hk,J⟩;have HE:Hid (val H b1 c1 I+top*k=m+n):=by unfold Hid;rw[<-N];exact J
 clear N J;replace u:=u.call S;have f:=(u.alloc (.cells #[uZ H,uZ b1,uZ c1,uZ I] 118)).cons (At4.made w1 118 H b1 c1 I rfl).blk;have m0:=Xj u.head.lt;have m3:=Xj u.tail.tail.tail.head.lt;obtain⟨hg,h5,h8,hi,pf⟩:=f.tail.head.at4;have z0:=f.tail.head.lt;go_wp2_with fail
 refine(qV _ _ _ _ (Four.mk C i F D rfl) (Four.mk hG.h0 hG.h1 hG.h2 dC rfl) _).mono ?_;rintro e w2 ⟨v,rfl,R,v3,t2,j,rfl,⟨a2,K,c2,O,rfl,z,g,E,A,N⟩,Z,J⟩;have G:Hid (val a2 K c2 O+top*j=val H b1 c1 I+val L M Q 0):=by unfold Hid;rw[<-N];exact J
 replace f:=f.call R;have HG:=mk1 (hG);have Y:=mk2 hm hn;clear hG hm hn hx V m0 W;generalize w1.heap.size=k4 at f m3⊢;obtain⟨h9,h7,k5,hw,sf⟩:=f.head.at4;obtain⟨h6,ht,h4,hl,rf⟩:=f.tail.tail.tail.tail.head.at4;have z4:=f.head.lt;have z3:=f.tail.tail.tail.tail.head.lt;obtain⟨o,ho,B⟩:=or2 k j hk Z;by_cases U:k=0/\j=0
 ·obtain⟨rfl,rfl⟩:=U;obtain rfl:o=0:=B.2 ⟨rfl,rfl⟩;clear B;replace ho:bits .or .u64 0 0=0:=ho;go_wp2;have l:=(f.tail.tail.tail.tail.head.at4.self4 H b1 c1 I).alloc (.cells #[uZ a2,uZ K,uZ c2,uZ O] 118);unfold set4 at l;refine UD (v:=?v0) ?hr0 rfl ?hR0
  case hr0=>simp[results,Tryz.results215,go_sem,l.c0,l.c1,l.c2,l.c3];rfl
  refine⟨_,rfl,?_,Four.mk C i F D (Mg HG.out HE.out G.out (mO z g E A))⟩;rw[H0.out];exact(aL f.bl T.out _ _ _ _).alloc (by simpa[set4]using f.le) _
 ·have hu:¬o=0:=λh=>U (B.1 h)
  go_wp2;have l:=(f.tail.tail.tail.tail.head.at4.self4 a2 K c2 O).alloc (.cells #[uZ a2,uZ K,uZ c2,uZ O] 118);unfold set4 at l;refine UD (v:=?v1) ?hr1 rfl ?hR1
  case hr1=>simp[results,Tryz.results215,go_sem,l.c0,l.c1,l.c2,l.c3];rfl
  refine⟨_,rfl,?_,Four.mk z g E A (Mh HG.out Y.1 Y.2 HE.out G.out hk Z U (mO C i F D) (mO z g E A))⟩;rw[H0.out];exact(aL f.bl T.out _ _ _ _).alloc (by simpa[set4]using f.le) _
theorem nN(K M N P:Nat)(x y:Us)(m n:Nat)(hG:Gap K M N P)(hx:Four x m)(hy:Four y n)(hm:m<P)(hn:n<P)(w:Uq):
 UG prog 221 #[.agg #[uZ K,uZ M,uZ N,uZ 0],x,y] w (rZ w λe w'=>Four e ((m+P-n)%P)):=by
 obtain⟨a,b,c,d,rfl,ha,hb,hc,hd,em⟩:=id hx;obtain⟨p,q,r,s,rfl,hp,hq,hr,hs,en⟩:=id hy;clear em en ha hb hc hd hp hq hr hs;go_enter func221,ntmps221;go_wp2_with fail
 have g:=Cn w 120 118 118 118 K M N 0 a b c d p q r s 0 0 0 0;simp only[WG]at g;generalize Xs _ _=W0 at g⊢;generalize h3:w.heap.size+1+1+1=k3 at g⊢;generalize h2:w.heap.size+1+1=k2 at g⊢;generalize h1:w.heap.size+1=k1 at g⊢;have W:Hid (w.heap.size<=k3):=by unfold Hid;omega
 generalize h0:w.heap.size=k0 at g W⊢;have H0:=mk1 (h0);refine(sL _ _ _ _ hx hy _).mono ?_;rintro e w1 ⟨v,rfl,V,v2,t,k,rfl,⟨B,b1,c1,C,rfl,u,i,A,z,X⟩,hk,Q⟩;have HE:Hid (val B b1 c1 C+n=m+top*k):=by unfold Hid;rw[<-X];exact Q
 replace g:=g.call V;have f:=(g.alloc (.cells #[uZ B,uZ b1,uZ c1,uZ C] 118)).cons (At4.made w1 118 B b1 c1 C rfl).blk;have m0:=Xj g.head.lt;have m3:=Xj g.tail.tail.tail.head.lt;have O:=mk1 (hG);have L:=mk2 hm hn;have Q4:=mk1 (g.le);have U:k=0\/k=1:=oM;obtain⟨F,J,E,I,rf⟩:=g.tail.tail.tail.head.at4;have Z:=g.tail.tail.tail.head.lt;rcases U with rfl|rfl
 ·clear f;go_wp2;have l:=(g.tail.tail.tail.head.at4.self4 B b1 c1 C).alloc (.cells #[uZ B,uZ b1,uZ c1,uZ C] 118);unfold set4 at l;refine UD (v:=?v0) ?hr0 rfl ?hR0
  case hr0=>simp[results,Tryz.results221,go_sem,l.c0,l.c1,l.c2,l.c3];rfl
  refine⟨_,rfl,?_,Four.mk u i A z (I5 L.1 L.2 HE.out)⟩;rw[H0.out];exact(aL g.bl W.out _ _ _ _).alloc (by simpa[set4]using g.le) _
 ·clear g F J E I rf Z;obtain⟨h8,h4,h6,h9,pf⟩:=f.tail.head.at4;have z0:=f.tail.head.lt;go_wp2_with fail
  refine(sL _ _ _ _ (Four.mk u i A z rfl) (Four.mk O.h0 O.h1 O.h2 dC rfl) _).mono ?_;rintro e w2 ⟨v,rfl,S,v3,t2,j,rfl,⟨a2,R,c2,Y,rfl,D,o,H,G,X⟩,hj,Q⟩;have T:Hid (val a2 R c2 Y+val K M N 0=val B b1 c1 C+top*j):=by unfold Hid;rw[<-X];exact Q
  replace f:=f.call S;obtain⟨h7,h5,hi,hg,sf⟩:=f.head.at4;obtain⟨F,J,E,I,rf⟩:=f.tail.tail.tail.tail.head.at4;have z4:=f.head.lt;have Z:=f.tail.tail.tail.tail.head.lt;go_wp2;have l:=(f.tail.tail.tail.tail.head.at4.other4 m3.symm (uZ a2) (uZ R) (uZ c2) (uZ Y)).self4 a2 R c2 Y;unfold set4 at l;refine UD (v:=?v1) ?hr1 rfl ?hR1
  case hr1=>simp[results,Tryz.results221,go_sem,l.c0,l.c1,l.c2,l.c3];rfl
  refine⟨_,rfl,?_,Four.mk D o H G (I6 O.out L.1 L.2 HE.out T.out hj (mO D o H G) (mO u i A z))⟩;rw[H0.out];exact aL (aL f.bl Q4.out _ _ _ _) W.out _ _ _ _
theorem Iz{a b c d n m i s0 t0 u0 e f g k:Nat}(j:m=val a b c d)
 (l:i+18446744073709551616*e=a*n+val 0 0 0 0)
 (p:s0+18446744073709551616*f=b*n+e)
 (o:t0+18446744073709551616*g=c*n+f)
 (e3:u0+18446744073709551616*k=d*n+g) :
 val i s0 t0 u0+top*k=m*n:=by
 have l:val a b c d*n=val (a*n) (b*n) (c*n) (d*n):=by
  rw[Vu,ET,Vu n a,Vu n b,Vu n c,Vu n d]
 rw[j,l];unfold val at *;unfold top;omega
theorem dN(g0 g1 g2 P:Nat)(x y:Us)(m n:Nat)(hG:Gap g0 g1 g2 P)(hx:Four x m)(V:Four y n)(w:Uq):
 UG prog 213 #[.agg #[uZ g0,uZ g1,uZ g2,uZ 0],x,y] w (rZ w λe w'=>Four e (m*n%P)):=by
 obtain⟨a,b,c,d,rfl,ha,hb,hc,hd,em⟩:=hx;obtain⟨p,q,r,s,rfl,hp,hq,hr,hs,en⟩:=id V;have HM:Hid (m=val a b c d):=em;clear em en;go_enter func213,ntmps213;go_wp2_with fail
 have F:=Cn w 120 118 118 118 g0 g1 g2 0 a b c d p q r s 0 0 0 0;simp only[WG]at F;have PR:=F.head.at4;have X:=F.tail.head.at4;have Y:=F.tail.tail.head.at4;have f:=F.tail.tail.tail.head.at4;have BL:Hid (Below w.heap.size w _):=F.bl;clear F;generalize Xs _ _=w1 at X Y PR f BL⊢;generalize h3:w.heap.size+1+1+1=k3 at f⊢;generalize h2:w.heap.size+1+1=k4 at Y⊢;generalize h1:w.heap.size+1=k1 at X⊢;have Q3:Hid (w.heap.size<=k3):=by unfold Hid;omega
 generalize h0:w.heap.size=C at PR BL Q3⊢;have kf:C≠k3:=oM;have kb:k1≠k3:=oM;have H0:Hid (w.heap.size=C):=h0;clear h0 h1 h2 h3;refine(jX a _ _ _ _ ha V (Four.mk (a:=0) (b:=0) (c:=0) (d:=0) dC dC dC dC rfl) _).mono ?_;rintro e w2 ⟨v,rfl,i,l0,v2,t0,rfl,ht,⟨a0,b0,c0,d0,rfl,h7,hw,hl,h5,z⟩,u⟩;have hm:Hid (l0+18446744073709551616*val a0 b0 c0 d0=a*n+val 0 0 0 0):=by unfold Hid;rw[<-z];exact u
 clear u z;replace BL:Hid (Below C w w2):=yP BL PR i;replace X:=X.call i;replace Y:=Y.call i;replace f:=f.call i;replace PR:=PR.call i;obtain⟨N,R,O,I,xf⟩:=id X;have z1:=X.lt;obtain⟨U,K,Z,L,yf⟩:=id Y;have z4:=Y.lt;obtain⟨l,t,j,o,rf⟩:=id f;have z3:=f.lt;obtain⟨D,A,B,E,pf⟩:=id PR;have z0:=PR.lt;go_wp2_with fail
 refine(jX b _ _ _ _ hb V (Four.mk h7 hw hl h5 rfl) _).mono ?_;rintro e w3 ⟨v,rfl,g,l1,v3,t1,rfl,k8,⟨a1,b1,c1,d1,rfl,hz,hk,k7,k5,z⟩,u⟩;have hi:Hid (l1+18446744073709551616*val a1 b1 c1 d1=b*n+val a0 b0 c0 d0):=by unfold Hid;rw[<-z];exact u
 have G:=Xj PR.lt;have j1:=Xj X.lt;have j3:=Xj f.lt;have j4:=Xj Y.lt;have J0:=mk1 (XJ PR.lt);have T:=(At4.made w2 118 a0 b0 c0 d0 rfl).call g;replace BL:Hid (Below C w w3):=yP (W:=w2.alloc (.cells #[uZ a0,uZ b0,uZ c0,uZ d0] 118)) (BL.alloc (XJ PR.lt) _) (PR.alloc _) g;replace X:=(X.alloc _).call g;replace Y:=(Y.alloc _).call g;replace f:=(f.alloc _).call g;replace PR:=(PR.alloc _).call g;obtain⟨N,R,O,I,xf⟩:=id X;have z1:=X.lt;obtain⟨U,K,Z,L,yf⟩:=id Y;have z4:=Y.lt;obtain⟨l,t,j,o,rf⟩:=id f;have z3:=f.lt;obtain⟨D,A,B,E,pf⟩:=id PR;have z0:=PR.lt;obtain⟨H,M,J,S,tf⟩:=id T;have z5:=T.lt;go_wp2_with fail
 refine(jX c _ _ _ _ hc V (Four.mk hz hk k7 k5 rfl) _).mono ?_;rintro e w4 ⟨v,rfl,k,l2,v4,t4,rfl,hg,⟨a2,b2,c2,d2,rfl,h4,i,k6,hj,z⟩,u⟩;have h9:Hid (l2+18446744073709551616*val a2 b2 c2 d2=c*n+val a1 b1 c1 d1):=by unfold Hid;rw[<-z];exact u
 replace BL:Hid (Below C w w4):=yP (aL BL.out J0.out _ _ _ _) (PR.other4 G.symm _ _ _ _) k;replace X:=(X.other4 j1.symm _ _ _ _).call k;replace Y:=(Y.other4 j4.symm _ _ _ _).call k;replace f:=(f.other4 j3.symm _ _ _ _).call k;replace PR:=(PR.other4 G.symm _ _ _ _).call k;replace T:=(T.self4 a1 b1 c1 d1).call k;obtain⟨N,R,O,I,xf⟩:=id X;have z1:=X.lt;obtain⟨U,K,Z,L,yf⟩:=id Y;have z4:=Y.lt;obtain⟨l,t,j,o,rf⟩:=id f;have z3:=f.lt;obtain⟨D,A,B,E,pf⟩:=id PR;have z0:=PR.lt;obtain⟨H,M,J,S,tf⟩:=id T;have z5:=T.lt;go_wp2_with fail
 refine(jX d _ _ _ _ hd V (Four.mk h4 i k6 hj rfl) _).mono ?_;rintro e w5 ⟨v,rfl,k,l3,v4,t4,rfl,h6,⟨a3,b3,c3,d3,rfl,hu,g,hn,k2,z⟩,u⟩;have h8:Hid (l3+18446744073709551616*val a3 b3 c3 d3=d*n+val a2 b2 c2 d2):=by unfold Hid;rw[<-z];exact u
 replace BL:Hid (Below C w w5):=yP (aL BL.out J0.out _ _ _ _) (PR.other4 G.symm _ _ _ _) k;replace X:=(X.other4 j1.symm _ _ _ _).call k;replace Y:=(Y.other4 j4.symm _ _ _ _).call k;replace f:=(f.other4 j3.symm _ _ _ _).call k;replace PR:=(PR.other4 G.symm _ _ _ _).call k;replace T:=(T.self4 a2 b2 c2 d2).call k;obtain⟨l,t,j,o,rf⟩:=id f;have z3:=f.lt;obtain⟨D,A,B,E,pf⟩:=id PR;have z0:=PR.lt;obtain⟨H,M,J,S,tf⟩:=id T;have z5:=T.lt;go_wp2_with fail
 refine(xU g0 g1 g2 _ _ _ _ P hG.h0 hG.h1 hG.h2 hG.hor hG.hP hG.hP2 (Four.mk ht k8 hg h6 rfl) (Four.mk hu g hn k2 rfl) _).mono ?_;rintro e w6 ⟨v,rfl,k,hv⟩;rw[Iz HM.out hm.out hi.out h9.out h8.out]at hv;replace BL:Hid (Below C w w6):=yP (aL BL.out J0.out _ _ _ _) (PR.other4 G.symm _ _ _ _) k;replace f:=(f.other4 j3.symm _ _ _ _).call k;replace PR:=(PR.other4 G.symm _ _ _ _).call k;obtain⟨a7,b7,c7,d7,rfl,kd,ke,kc,ka,k9⟩:=id hv;have HV:=mk1 (hv);obtain⟨l,t,j,o,rf⟩:=id f;have z3:=f.lt;go_wp2;have Q:=f.self4 a7 b7 c7 d7;unfold set4 at Q;refine UD (v:=?v) ?hr rfl ?hR
 case hr=>simp[results,Tryz.results213,go_sem,Q.c0,Q.c1,Q.c2,Q.c3];rfl
 refine⟨_,rfl,?_,HV.out⟩;rw[H0.out];exact aL BL.out Q3.out _ _ _ _
theorem Ax{w W:Uq}{k f e a b c d p q r s j i g:Nat}(h:Kept w k [⟨k,0,j,i,g,0⟩,⟨f,0,a,b,c,d⟩,⟨e,0,p,q,r,s⟩] W):W.cell? ⟨k,0,none⟩=some (uZ j)/\W.cell? ⟨k,1,none⟩=some (uZ i)/\W.cell? ⟨k,2,none⟩=some (uZ g)/\W.cell? ⟨k,3,none⟩=some (uZ 0)/\W.cell? ⟨f,0,none⟩=some (uZ a)/\W.cell? ⟨f,1,none⟩=some (uZ b)/\W.cell? ⟨f,2,none⟩=some (uZ c)/\W.cell? ⟨f,3,none⟩=some (uZ d)/\W.cell? ⟨e,0,none⟩=some (uZ p)/\W.cell? ⟨e,1,none⟩=some (uZ q)/\W.cell? ⟨e,2,none⟩=some (uZ r)/\W.cell? ⟨e,3,none⟩=some (uZ s)/\Kept w k [⟨k,0,j,i,g,0⟩,⟨f,0,a,b,c,d⟩,⟨e,0,p,q,r,s⟩] W:=
 ⟨h.head.c0,h.head.c1,h.head.c2,h.head.c3,h.tail.head.c0,h.tail.head.c1,h.tail.head.c2,h.tail.head.c3,h.tail.tail.head.c0,h.tail.tail.head.c1,h.tail.tail.head.c2,h.tail.tail.head.c3,h⟩
theorem rS(t l o:Nat)(x y:Us)(m n R:Nat)(hx:Four x m)(N:Four y n)(w:Uq):((∀w,UG prog 215 #[.agg #[.int .u64 t,.int .u64 l,.int .u64 o,.int .u64 0],x,y] w (Ret λe w'=>Below w.heap.size w w'/\Four e R))->UG prog 155 #[.agg #[.int .u64 t,.int .u64 l,.int .u64 o,.int .u64 0],x,y] w (Ret λe w'=>Below w.heap.size w w'/\Four e R))/\((∀w,UG prog 221 #[.agg #[.int .u64 t,.int .u64 l,.int .u64 o,.int .u64 0],x,y] w (Ret λe w'=>Below w.heap.size w w'/\Four e R))->UG prog 198 #[.agg #[.int .u64 t,.int .u64 l,.int .u64 o,.int .u64 0],x,y] w (Ret λe w'=>Below w.heap.size w w'/\Four e R))/\((∀w,UG prog 213 #[.agg #[.int .u64 t,.int .u64 l,.int .u64 o,.int .u64 0],x,y] w (Ret λe w'=>Below w.heap.size w w'/\Four e R))->UG prog 154 #[.agg #[.int .u64 t,.int .u64 l,.int .u64 o,.int .u64 0],x,y] w (Ret λe w'=>Below w.heap.size w w'/\Four e R)):=by
 obtain⟨a,b,c,d,rfl,ha,W,hc,hd,Z⟩:=id hx;obtain⟨p,q,r,s,rfl,hp,Y,hr,hs,en⟩:=id N;have X:=mk1 (hx);have HY:=mk1 (N);refine⟨λJ=>?_,λJ=>?_,λJ=>?_⟩;all_goals replace J:Hid _:=J
 all_goals clear Z en hx N ha W hc hd hp Y hr hs
 case' refine_1=>go_enter func155,ntmps155
 case' refine_2=>go_enter func198,ntmps198
 case' refine_3=>go_enter func154,ntmps154
 all_goals
  go_wp2_with fail
  have g:=Cn w 120 47 47 47 t l o 0 a b c d p q r s 0 0 0 0;simp only[WG]at g;generalize h3:w.heap.size+1+1+1=U at g⊢;generalize h2:w.heap.size+1+1=E at g⊢;generalize h1:w.heap.size+1=F at g⊢;have M:Hid (w.heap.size<=U):=by unfold Hid;omega
  generalize h0:w.heap.size=C at g M⊢;have H0:Hid (w.heap.size=C):=h0;have G:∀x∈([⟨C,0,t,l,o,0⟩,⟨F,0,a,b,c,d⟩,⟨E,0,p,q,r,s⟩]:List Blk),U≠x.k:=by simp only[List.mem_cons,UX,or_false];rintro x (rfl|rfl|rfl)<;>simp only<;>omega
  have i:=(((Kept.mk1 g.bl g.le).cons g.tail.tail.head).cons g.tail.head).cons g.head;have T3:=g.tail.tail.tail.head.at4;obtain⟨z,u,A,B,K⟩:=id T3;have L:=T3.lt;go_region_held3 (λw'=>w'.cell? ⟨C,0,none⟩=some (.int .u64 t)/\w'.cell? ⟨C,1,none⟩=some (.int .u64 l)/\w'.cell? ⟨C,2,none⟩=some (.int .u64 o)/\w'.cell? ⟨C,3,none⟩=some (.int .u64 0)/\w'.cell? ⟨F,0,none⟩=some (.int .u64 a)/\w'.cell? ⟨F,1,none⟩=some (.int .u64 b)/\w'.cell? ⟨F,2,none⟩=some (.int .u64 c)/\w'.cell? ⟨F,3,none⟩=some (.int .u64 d)/\w'.cell? ⟨E,0,none⟩=some (.int .u64 p)/\w'.cell? ⟨E,1,none⟩=some (.int .u64 q)/\w'.cell? ⟨E,2,none⟩=some (.int .u64 r)/\w'.cell? ⟨E,3,none⟩=some (.int .u64 s)/\Kept w C [⟨C,0,t,l,o,0⟩,⟨F,0,a,b,c,d⟩,⟨E,0,p,q,r,s⟩] w') (first|(with_reducible exact Ax i)|(with_reducible exact Ax i.drew)|(with_reducible exact Ax (i.set4' M.out G _ _ _ _))|(with_reducible exact Ax (i.set4' M.out G _ _ _ _).drew)|fail) (first|(go_at_call_of 127 (U2 #[VY .u64 a,VY .u64 b,VY .u64 c,VY .u64 d]);refine(jN _ _ X.out _).mono ?_;rintro e O ⟨v,rfl,k,rfl⟩;(first|(with_reducible (have f:=i.drew.call k))|(with_reducible (have f:=i.call k))|fail);(first|(with_reducible (have j:=T3.drew.call k))|(with_reducible (have j:=T3.call k))|fail);clear i T3 k;have i:=f;have T3:=j;clear f j;obtain⟨z,u,A,B,K⟩:=id T3;have L:=T3.lt)|(go_at_call_of 127 (U2 #[VY .u64 p,VY .u64 q,VY .u64 r,VY .u64 s]);refine(jN _ _ HY.out _).mono ?_;rintro e O ⟨v,rfl,k,rfl⟩;(first|(with_reducible (have f:=i.drew.call k))|(with_reducible (have f:=i.call k))|fail);(first|(with_reducible (have j:=T3.drew.call k))|(with_reducible (have j:=T3.call k))|fail);clear i T3 k;have i:=f;have T3:=j;clear f j;obtain⟨z,u,A,B,K⟩:=id T3;have L:=T3.lt)|((first|go_at_call 215|go_at_call 221|go_at_call 213);refine(J _).mono ?_;rintro e O ⟨v,rfl,k,D⟩;obtain⟨V,Q,S,T,rfl,h5,h7,h6,h4,P⟩:=id D;clear P;have H:Hid (Four _ _):=D;clear D;(first|(with_reducible (have f:=i.drew.call k))|(with_reducible (have f:=i.call k))|fail);(first|(with_reducible (have j:=T3.drew.call k))|(with_reducible (have j:=T3.call k))|fail);clear i T3 k;have i:=f;have T3:=j;clear f j;obtain⟨z,u,A,B,K⟩:=id T3;have L:=T3.lt)|(go_at_call 214;refine(jI _ _ H.out _).mono ?_;rintro e O ⟨v,rfl,k,rfl⟩;(first|(with_reducible (have f:=i.drew.call k))|(with_reducible (have f:=i.call k))|fail);(first|(with_reducible (have j:=T3.drew.call k))|(with_reducible (have j:=T3.call k))|fail);clear i T3 k;have i:=f;have T3:=j;clear f j;obtain⟨z,u,A,B,K⟩:=id T3;have L:=T3.lt))
  all_goals (try go_wp2)
  all_goals (have I:=T3.self4 V Q S T)
  all_goals unfold set4 at I
  all_goals (refine UD (v:=(.agg #[.int .u64 V,.int .u64 Q,.int .u64 S,.int .u64 T])) ?_ rfl ?_)
  all_goals first|(refine⟨_,rfl,?_,H.out⟩;rw[H0.out];exact aL i.bl M.out _ _ _ _)|(simp[results,Tryz.results155,Tryz.results198,Tryz.results154,go_sem,I.c0,I.c1,I.c2,I.c3];done)|fail
theorem CV(c b k P:Nat)(x y:Us)(m n:Nat)(hG:Gap c b k P)(hx:Four x m)(d:Four y n)(g:m<P)(f:n<P)(w:Uq):
 UG prog 155 #[.agg #[uZ c,uZ b,uZ k,uZ 0],x,y] w (rZ w λe w'=>Four e ((m+n)%P)):=
 (rS c b k x y m n _ hx d w).1 (λw=>sum_any c b k P _ _ m n hG hx d g f w)
theorem tK(c b k P:Nat)(x y:Us)(m n:Nat)(hG:Gap c b k P)(hx:Four x m)(d:Four y n)(g:m<P)(f:n<P)(w:Uq):
 UG prog 198 #[.agg #[uZ c,uZ b,uZ k,uZ 0],x,y] w (rZ w λe w'=>Four e ((m+P-n)%P)):=
 (rS c b k x y m n _ hx d w).2.1 (λw=>nN c b k P _ _ m n hG hx d g f w)
theorem oN(c b k P:Nat)(x y:Us)(m n:Nat)(hG:Gap c b k P)(hx:Four x m)(d:Four y n)(w:Uq):
 UG prog 154 #[.agg #[uZ c,uZ b,uZ k,uZ 0],x,y] w (rZ w λe w'=>Four e (m*n%P)):=
 (rS c b k x y m n _ hx d w).2.2 (λw=>dN c b k P _ _ m n hG hx d w)
theorem J3(m i s:Nat):m/2^i%2^(s+1)=2*(m/2^(i+1)%2^s)+m/2^i%2:=by
 have e:m/2^(i+1)=m/2^i/2:=by rw[V6,XM]
 rw[e,V6,Vu (2^s),Nat.mod_mul];omega
theorem low_bit(y z r:Nat)(d:r<64)(c:z=y%18446744073709551616):z/2^r%2=y/2^r%2:=by
 have e:(18446744073709551616:Nat)=2^r*(2*2^(63-r)):=by
  rw[<-X0,<-V6,<-Yp,show r+1+(63-r)=64 by omega]
 have k:0<2^r:=XH dC;have f:y/2^r=2*(2^(63-r)*(y/18446744073709551616))+z/2^r:=by
  have b:y=2^r*(2*(2^(63-r)*(y/18446744073709551616)))+z:=by
   have:=Z8 y 18446744073709551616;rw[c];rw[e]at this⊢;rw[X0,X0]at this;exact this.symm
  conv=>lhs;rw[b]
  rw[Nat.mul_add_div k]
 omega
def wd(a b c d q:Nat):Nat:=if q=0 then a else if q=1 then b else if q=2 then c else d
theorem Np{a b c d:Nat}(q:Nat)(f:a<18446744073709551616)(e:b<18446744073709551616)(k:c<18446744073709551616)(hd:d<18446744073709551616):wd a b c d q<18446744073709551616:=by
 unfold wd;split;exact f;split;exact e;split;exact k;exact hd
theorem Qt{a b c d:Nat}(q:Nat)(g:q<4)(f:a<18446744073709551616)(e:b<18446744073709551616)(k:c<18446744073709551616)(hd:d<18446744073709551616):
 wd a b c d q=val a b c d/2^(64*q)%18446744073709551616:=by
 have h:q=0\/q=1\/q=2\/q=3:=oM;rcases h with rfl|rfl|rfl|rfl
 ·show a=val a b c d/1%_;unfold val;omega
 ·show b=val a b c d/18446744073709551616%_;unfold val;omega
 ·show c=val a b c d/340282366920938463463374607431768211456%_;unfold val;omega
 ·show d=val a b c d/6277101735386680763835789423207666416102355444464034512896%_;unfold val;omega
theorem Hu{a b c d:Nat}(i:Nat)(g:i<256)(f:a<18446744073709551616)(e:b<18446744073709551616)(k:c<18446744073709551616)(hd:d<18446744073709551616):
 wd a b c d (i/64)/2^(i%64)%2=val a b c d/2^i%2:=by
 rw[low_bit _ _ (i%64) oM (Qt (i/64) oM f e k hd),XM,<-Yp,show 64*(i/64)+i%64=i by omega]
theorem kF(a P k:Nat):a^k%P*(a^k%P)%P=a^(2*k)%P:=by
 rw[<-Xy,<-Yp,Nat.two_mul]
theorem B6(a P k l:Nat):a^k%P*(a^l%P)%P=a^(k+l)%P:=by
 rw[<-Xy,<-Yp]
theorem AO(a P k:Nat):a^k%P*a%P=a^(k+1)%P:=by
 rw[V6,Xy,Nat.mod_mod,<-Xy]
theorem MO(e i:Nat):e/2^i=16*(e/2^(i+4))+e/2^i%2^4:=by
 rw[Yp,<-XM];have:=Z8 (e/2^i) (2^4);omega
theorem Dp(a b c d:Nat):
 val (a/4+b*4611686018427387904%18446744073709551616) (b/4+c*4611686018427387904%18446744073709551616) (c/4+d*4611686018427387904%18446744073709551616) (d/4)=val a b c d/4:=by
 unfold val;omega
theorem At4.wd{w:Uq}{k a b c d:Nat}(h:At4 w k a b c d)(q:Nat)(f:q<4):w.cell? ⟨k,q,none⟩=some (uZ (wd a b c d q:Int)):=by
 have e:q=0\/q=1\/q=2\/q=3:=oM;rcases e with rfl|rfl|rfl|rfl
 ·exact h.c0
 ·exact h.c1
 ·exact h.c2
 ·exact h.c3
theorem Aw(n:Nat)(h:n<9223372036854775808):VR.wrap (n:Int)=(n:Int):=by rw[Yj];omega
theorem or_bit(b t:Nat)(k:b<4294967296)(c:t<2):bits .or .i64 ((2*b:Nat):Int) (t:Int)=((2*b+t:Nat):Int):=by
 rw[(bits_nat .i64 40 dC (λn e d=>by rw[Yj];omega) (2*b) t oM oM).2];have:=YF (i:=1) (b:=t) oM b;rw[show 2^1*b=2*b from rfl]at this;rw[<-this]
theorem and_one(v:Nat)(hv:v<18446744073709551616):bits .and .u64 (v:Int) 1=((v%2:Nat):Int):=by
 have:=bits_and_u64_nat v 1 hv oM;rw[show v &&& 1=v%2 from Nat.and_one_is_mod v]at this;exact this
theorem yQ{m f c g:Nat}(k:m<top)(h:g=c\/f+g=256):m/2^(f+g)%2^(c-g)=0:=by
 rcases h with rfl|h
 ·rw[YU,YN,yAW]
 ·rw[h,Xd (by exact k),Nat.zero_mod]
theorem Ak{m f g c:Nat}(b:0<g)(k:g<=c):m/2^(f+(g-1))%2^(c-(g-1))=2*(m/2^(f+g)%2^(c-g))+m/2^(f+(g-1))%2:=by
 rw[show c-(g-1)=c-g+1 by omega,J3,show f+(g-1)+1=f+g by omega]
theorem CY(x:Us)(m f c:Nat)(hx:Four x m)(hf:f<=256)(hc:c<=32)(w:Uq):
 UG prog 220 #[x,iZ f,iZ c] w (rZ w λe w'=>e=iZ ((m/2^f%2^c:Nat):Int)):=by
 obtain⟨n,p,o,q,rfl,O,J,H,E,V⟩:=id hx;have U:=mk1 (hx);have k:=mk5 O J H E V;have P:=mk1 (U.lt);obtain⟨R,hR⟩:∃R,m/2^f%2^c=R:=⟨_,rfl⟩
 have Q:=mk1 (hR);rw[hR];by_cases W:(f:Int)+(c:Int)<=256
 ·have S:¬(256:Int)<(f:Int)+(c:Int):=oM;go_enter func220,ntmps220;go_wp2;have X:=At4.made w 47 n p o q rfl;have BL:=mk1 (aC w (.cells #[uZ n,uZ p,uZ o,uZ q] 47));generalize Xs _ _=F at X BL⊢;go_loopg [7,8] c (λgk s7 s8 wr=>gk<=c/\f+gk<=256/\s7=iZ ((m/2^(f+gk)%2^(c-gk):Nat):Int)/\s8=iZ ((f:Int)+(gk:Int)-1)/\F=wr)
  case atStart=>exact⟨oM,oM,by rw[yQ P.out (U3 rfl)];rfl,by congr 1<;>omega,rfl⟩
  case round =>
   obtain⟨s,G,rfl,rfl,rfl⟩:=hrel;by_cases L:gk=0
   ·subst L;have K:¬(f:Int)<=(f:Int)+((0:Nat):Int)-1:=oM;rw[XA,YT,Q.out];go_wp2;go_ret;exact⟨_,rfl,BL.out,rfl⟩
   ·obtain⟨i,A⟩:∃i,f+(gk-1)=i:=⟨_,rfl⟩
    have M:(f:Int)+(gk:Int)-1=(i:Int):=oM;have K:(f:Int)<=(i:Int):=oM;have r:i<256:=oM;have I:=X.wd (i/64) oM;have j:wd n p o q (i/64)<18446744073709551616:=Np _ k.1 k.2.1 k.2.2.1 k.2.2.2.1;have b:wd n p o q (i/64)/2^(i%64)%2=m/2^i%2:=by rw[k.2.2.2.2];exact Hu i r k.1 k.2.1 k.2.2.1 k.2.2.2.1
    have Y:(i:Int).tdiv 64=((i/64:Nat):Int):=by rw[X7 oM];omega
    have Z:(i:Int).tmod 64=((i%64:Nat):Int):=by rw[Int.tmod_eq_emod_of_nonneg oM];omega
    have i4:(i/64:Nat)<4:=oM;generalize wd n p o q (i/64)=v at I j b;have u:v/2^(i%64)<18446744073709551616:=yAM (yBp _ _) j;have d:bits .and .u64 ((v:Int)/2^(i%64)) 1=((m/2^i%2:Nat):Int):=by
     have:=and_one (v/2^(i%64)) u;rw[b]at this;rw[<-this,Zb,Z9];rfl
    obtain⟨t,C⟩:∃t,m/2^i%2=t:=⟨_,rfl⟩
    have y:t<2:=oM;have z:=Ak (m:=m) (f:=f) (g:=gk) (c:=c) oM s;rw[A,C]at z;have l:m/2^(f+gk)%2^(c-gk)<4294967296:=Uw (V4 _ (XH dC)) (show 2^(c-gk)<=2^32 from Vz dC oM);rw[C]at d;generalize m/2^(f+gk)%2^(c-gk)=B at z l⊢;have hor:=or_bit B t l y;have D:VR.wrap ((B:Int)*2)=((2*B:Nat):Int):=by rw[show(B:Int)*2=((2*B:Nat):Int) by omega];exact Aw _ oM
    have T:VR.wrap (t:Int)=(t:Int):=Aw _ oM;have N:=mk1 (z);have a:=mk1 (A);have zx:=X.lt;rw[M];go_wp2;go_roundg (gk-1)
    case measure=>omega
    case rel =>
     refine⟨oM,oM,?_,?_,rfl⟩
     ·rw[a.out,N.out,<-hor,Xv];rfl
     ·congr 1;have:=a.out;omega
 ·have S:(256:Int)<(f:Int)+(c:Int):=oM;go_enter func220,ntmps220;go_wp2;have X:=At4.made w 47 n p o q rfl;have BL:=mk1 (aC w (.cells #[uZ n,uZ p,uZ o,uZ q] 47));generalize Xs _ _=F at X BL⊢;go_loopg [7,8] (256-f) (λgk s7 s8 wr=>gk<=c/\f+gk<=256/\s7=iZ ((m/2^(f+gk)%2^(c-gk):Nat):Int)/\s8=iZ ((f:Int)+(gk:Int)-1)/\F=wr)
  case atStart=>exact⟨oM,oM,by rw[yQ P.out (UW oM)];rfl,by congr 1<;>omega,rfl⟩
  case round =>
   obtain⟨s,G,rfl,rfl,rfl⟩:=hrel;by_cases L:gk=0
   ·subst L;have K:¬(f:Int)<=(f:Int)+((0:Nat):Int)-1:=oM;rw[XA,YT,Q.out];go_wp2;go_ret;exact⟨_,rfl,BL.out,rfl⟩
   ·obtain⟨i,A⟩:∃i,f+(gk-1)=i:=⟨_,rfl⟩
    have M:(f:Int)+(gk:Int)-1=(i:Int):=oM;have K:(f:Int)<=(i:Int):=oM;have r:i<256:=oM;have I:=X.wd (i/64) oM;have j:wd n p o q (i/64)<18446744073709551616:=Np _ k.1 k.2.1 k.2.2.1 k.2.2.2.1;have b:wd n p o q (i/64)/2^(i%64)%2=m/2^i%2:=by rw[k.2.2.2.2];exact Hu i r k.1 k.2.1 k.2.2.1 k.2.2.2.1
    generalize wd n p o q (i/64)=v at I j b;have u:v/2^(i%64)<18446744073709551616:=yAM (yBp _ _) j;have d:bits .and .u64 ((v:Int)/2^(i%64)) 1=((m/2^i%2:Nat):Int):=by
     have:=and_one (v/2^(i%64)) u;rw[b]at this;rw[<-this,Zb,Z9];rfl
    obtain⟨t,C⟩:∃t,m/2^i%2=t:=⟨_,rfl⟩
    have y:t<2:=oM;have z:=Ak (m:=m) (f:=f) (g:=gk) (c:=c) oM s;rw[A,C]at z;have l:m/2^(f+gk)%2^(c-gk)<4294967296:=Uw (V4 _ (XH dC)) (show 2^(c-gk)<=2^32 from Vz dC oM);rw[C]at d;generalize m/2^(f+gk)%2^(c-gk)=B at z l⊢;have hor:=or_bit B t l y;have D:VR.wrap ((B:Int)*2)=((2*B:Nat):Int):=by rw[show(B:Int)*2=((2*B:Nat):Int) by omega];exact Aw _ oM
    have N:=mk1 (z);have a:=mk1 (A);have zx:=X.lt;rw[M];go_wp2;go_roundg (gk-1)
    case measure=>omega
    case rel =>
     refine⟨oM,oM,?_,?_,rfl⟩
     ·rw[a.out,N.out,<-hor,Xv];rfl
     ·congr 1;have:=a.out;omega
end
section
open Go
section
variable {P:VC}{ops:Array Vj}{Q:Exit->Act->Uq->Prop}{S:Uq->Prop}{p:Nat}
def anyTill(P:VC)(k:Array Vj)(Q:Exit->Act->Uq->Prop)(S:Uq->Prop)(p:Nat):Nat->Array Bool->Act->Uq->Prop
 | 0,listed,a,w=>U6 .any k listed=[]/\Q .normal a w
 | fuel+1,listed,a,w=>(U6 .any k listed=[]->Q .normal a w) /\
  ∀i∈U6 .any k listed,wpOp P k Q i (λb w'=>((listed.setIfInBounds i true).getD p false=false->S w')/\anyTill P k Q S p fuel (listed.setIfInBounds i true) b w') a w
theorem anyTill.any:∀(b:Nat) (k:Array Bool) (a:Act) (w:Uq),anyTill P ops Q S p b k a w->wpAny P .any ops Q b k a w
 | 0,_,_,_,h=>h
 | b+1,_,_,_,h=>⟨h.1,λi c=>wpOp_mono (λd w' e=>anyTill.any b _ d w' e.2) (h.2 i c)⟩
theorem anyTill.first{i:Nat}{t op:Vj}{v:Us}(O:ops[i]? = some t)(W:ops[p]? = some op)(G:∃e∈op.after,VO .any e=true/\e.on=i)(N:p≠i)
 (r:∀(j:Nat) (o:Vj) cs b,ops[j]? = some o->o.op≠.select cs b) (U:∀c a w,Q (.panic c) (a.put t.dst v) w->Q (.panic c) a w) :
 ∀(g:Nat) (d:Array Bool) (a:Act) (w:Uq),d.getD p false=false ->
  (∀j s,ops[j]? = some s->j≠i->d.getD j true=false->(∀e∈s.after,VO .any e=true->e.on≠i)->t.apart ops s=true) ->
  i∈U6 .any ops d->YieldsIf P ops S t v a->S w ->
  anyTill P ops Q S p g (d.setIfInBounds i true) (a.put t.dst v) w->anyTill P ops Q S p (g+1) d a w:=by
 intro g;induction g with
 | zero =>
  intro d a w _ _ y D A H;refine⟨λh=>absurd y (by rw[h];exact UX),λj E=>?_⟩;by_cases f:j=i
  ·subst f;exact D.wpOp O A ⟨λ_=>A,H⟩
  ·exact absurd (ready_mono E f) (by rw[H.1];exact UX)
 | succ g ih =>
  intro d a w T m y D A H;refine⟨λh=>absurd y (by rw[h];exact UX),λj E=>?_⟩;by_cases f:j=i
  ·subst f;exact D.wpOp O A ⟨λ_=>A,H⟩
  ·obtain⟨n,s,l,x⟩:=mem_ready.1 E;have q:∀e∈s.after,VO .any e=true->e.on≠i:=λe J I K=>by
    have u:=x e J I;have B:=(mem_ready.1 y).1;rw[K]at u;rcases Nat.lt_or_ge i d.size with z|z
    ·simp[z]at B u;rw[B]at u;cases u
    ·simp[Array.getElem?_eq_none z]at u
   have C:j≠p:=by
    intro h;subst h;rw[W]at l;obtain⟨e,J,I,u⟩:=G;injection l with l
    subst l;exact q e J I u
   have Y:=wpOp_putIf l (m j s l f n q) (λcs b=>r i t cs b O) (λcs b=>r j s cs b l) U D (H.2 j (ready_mono E f));have F:(d.setIfInBounds j true).getD p false=false:=by rw[XP false C];exact T
   refine wpOp_mono (λX w' M=>?_) Y;have u:=M.2.1 (by rw[XP false C,XP false (YB N)];exact T);refine⟨λ_=>u,ih (d.setIfInBounds j true) X w' F (λk ok V R z L=>?_) (ready_mono y (YB f)) M.1 u ?_⟩
   ·refine m k ok V R ?_ L;by_cases B:j=k
    ·subst B;exact n
    ·rw[XP true B]at z;exact z
   ·rw[Array.setIfInBounds_comm _ _ f];exact M.2.2
def waits(k:Array Vj)(p i:Nat):Bool:=match k[p]? with
 | some o=>o.after.any (λe=>VO .any e && e.on == i)
 | none=>false
theorem anyTill.take{i:Nat}{f:Vj}{v:Us}{b:Nat}{k:Array Bool}{a:Act}{w:Uq}(l:ops[i]? = some f)(d:waits ops p i=true)(q:XK ops=true)
 (j:(k.getD p false || p == i)=false) (hf:YL .any ops k i=true) (r:(U6 .any ops k).contains i=true)
 (n:∀c a w,Q (.panic c) (a.put f.dst v) w->Q (.panic c) a w) (m:YieldsIf P ops S f v a) (s:S w)
 (h:anyTill P ops Q S p b (k.setIfInBounds i true) (a.put f.dst v) w):anyTill P ops Q S p (b+1) k a w:=by
 rw[Bool.or_eq_false_iff]at j;unfold waits at d;cases ho:ops[p]? with
 | none=>rw[ho]at d;cases d
 | some op =>
  rw[ho]at d;obtain⟨e,o,g⟩:=Array.any_eq_true'.1 d;simp only[Bool.and_eq_true,beq_iff_eq]at g;exact anyTill.first l ho ⟨e,o,g.1,g.2⟩ (by simpa using j.2) (Region.noSelect_spec q) n b k a w j.1 (Region.free_spec l hf) (by simpa using r) m s h
theorem anyTill.tk{i:Nat}{d:Vj}{v:Us}{b:Nat}{k:Array Bool}{a:Act}{w:Uq}(o:ops[i]? = some d)(e:YieldsIf P ops S d v a)(n:S w)
 (h:anyTill P ops Q S p b (k.setIfInBounds i true) (a.put d.dst v) w) (l:waits ops p i=true:=by kernel_rfl) (g:XK ops=true:=by kernel_rfl)
 (m:(k.getD p false || p == i)=false:=by kernel_rfl) (hf:YL .any ops k i=true:=by kernel_rfl) (j:(U6 .any ops k).contains i=true:=by kernel_rfl)
 (f:∀c a w,Q (.panic c) (a.put d.dst v) w->Q (.panic c) a w:=by exact λ_ _ _ h=>h):anyTill P ops Q S p (b+1) k a w:=anyTill.take o l g m hf j f e n h
theorem anyTill.step{i:Nat}{o:Vj}{b:Nat}{k:Array Bool}{a:Act}{w:Uq}(ho:ops[i]? = some o)(d:U6 .any ops k=[i])
 (h:∀c:Act->Uq->Prop,Shut (∀a w,((k.setIfInBounds i true).getD p false=false->S w)->anyTill P ops Q S p b (k.setIfInBounds i true) a w->c a w) ->
  if Region.wanted o (yielded ops a.tmps)=true then Oper.wp P o a w c Q else c (a.put o.dst WO) w):anyTill P ops Q S p (b+1) k a w:=by
 refine⟨λf=>(by rw[d]at f;cases f),λj e=>?_⟩;rw[d,List.mem_singleton]at e;subst e;exact wpOp_step ho (λc g=>h c (λa w m l=>g a w ⟨m,l⟩))
theorem anyTill.done{k:Array Bool}{a:Act}{w:Uq}(c:U6 .any ops k=[])(h:Q .normal a w):∀b,anyTill P ops Q S p b k a w
 | 0=>⟨c,h⟩
 | _+1=>⟨λ_=>h,by rw[c];intro i d;cases d⟩
theorem anyTill.begin{id:Nat}{a:Act}{w:Uq}(S:Uq->Prop)(p:Nat)(b:P.follows .mixedOrders=true)(k:S w.drew)
 (h:S w.drew->anyTill P ops Q S p ops.size (UI ops.size false) a w.drew):(Code.region id ops true).wp P Q a w:=
 wp_region_any b ((h k).any)
end
end
section
variable {P:Nat}[NeZero P]{N:Nat}
def pw0:Array Us:=#[uZ 1]++UI 63 (uZ 0)
def pwz:Array Us:=UI 64 (uZ 0)
theorem Qq:∀w:Uq,(zeroValue 308).run prog w=.ok (.agg pwz) w:=λ_=>kR
theorem sizeT:(prog.info? 308).map (·.size)=some pw0.size:=kR
theorem TG:pw0.all (·.oneCell')=true:=kR
def Tab(W:Uq)(k m P i:Nat):Prop:=∀j,j<16->∃a b c d:Nat,(Blk.mk k (j*4) a b c d).at W/\(j<i->Four (.agg #[uZ a,uZ b,uZ c,uZ d]) (m^j%P))
theorem Tab.call{W e:Uq}{k m P i:Nat}(h:Tab W k m P i)(g:kZ W e):Tab e k m P i:=λj l=>by
 obtain⟨a,b,c,d,n,f⟩:=h j l;exact⟨a,b,c,d,n.call g,f⟩
theorem Tab.drew{W:Uq}{k m P i:Nat}(h:Tab W k m P i):Tab W.drew k m P i:=λj g=>by
 obtain⟨a,b,c,d,e,f⟩:=h j g;exact⟨a,b,c,d,⟨e.c0,e.c1,e.c2,e.c3,e.f⟩,f⟩
theorem Tab.other{W:Uq}{k m P i g o:Nat}(h:Tab W k m P i)(n:g≠k)(v:Us):Tab (W.setCell ⟨g,o,none⟩ v) k m P i:=λj f=>by
 obtain⟨a,b,c,d,l,e⟩:=h j f;exact⟨a,b,c,d,l.other n v,e⟩
theorem Blk.at.off{W : Uq}{x : Blk}{i : Nat}(h : x.at W)(hi : i < x.o \/ x.o + 3 < i)(v : Us): x.at (W.setCell ⟨x.k, i, none⟩ v) :=
  ⟨by rw [UT _ _ _ _ (bH (UW oM))]; exact h.c0, by rw [UT _ _ _ _ (bH (UW oM))]; exact h.c1,
   by rw [UT _ _ _ _ (bH (UW oM))]; exact h.c2, by rw [UT _ _ _ _ (bH (UW oM))]; exact h.c3, λo => by rw [VK]; exact h.f o⟩
theorem Blk.at.put{W:Uq}{k o a b c d:Nat}(h:(Blk.mk k o a b c d).at W)(x y z t:Nat):
 (Blk.mk k o x y z t).at ((((W.setCell ⟨k,o,none⟩ (uZ x)).setCell ⟨k,o+1,none⟩ (uZ y)).setCell ⟨k,o+2,none⟩ (uZ z)).setCell ⟨k,o+3,none⟩ (uZ t)):=by
 have s0:=VU W ⟨k,o,none⟩ (uZ x) h.c0;have e:∀(W:Uq) (i j:Nat) (v:Us),i≠j->(W.setCell ⟨k,i,none⟩ v).cell? ⟨k,j,none⟩=W.cell? ⟨k,j,none⟩:=λW i j v f=>UT _ _ _ _ (bH (UW f))
 refine⟨?_,?_,?_,?_,λi=>?_⟩
 ·show VX _ ⟨k,o,none⟩=_;rw[e _ _ _ _ oM,e _ _ _ _ oM,e _ _ _ _ oM];exact s0
 ·show VX _ ⟨k,o+1,none⟩=_;rw[e _ _ _ _ oM,e _ _ _ _ oM];exact VU _ _ _ (by rw[e _ _ _ _ oM];exact h.c1)
 ·show VX _ ⟨k,o+2,none⟩=_;rw[e _ _ _ _ oM];exact VU _ _ _ (by rw[e _ _ _ _ oM,e _ _ _ _ oM];exact h.c2)
 ·show VX _ ⟨k,o+3,none⟩=_;exact VU _ _ _ (by rw[e _ _ _ _ oM,e _ _ _ _ oM,e _ _ _ _ oM];exact h.c3)
 ·rw[VK,VK,VK,VK];exact h.f i
theorem Tab.put{W:Uq}{k m P i x y z t:Nat}(h:Tab W k m P i)(p:i<16)(l:Four (.agg #[uZ x,uZ y,uZ z,uZ t]) (m^i%P)):
 Tab ((((W.setCell ⟨k,i*4,none⟩ (uZ x)).setCell ⟨k,i*4+1,none⟩ (uZ y)).setCell ⟨k,i*4+2,none⟩ (uZ z)).setCell ⟨k,i*4+3,none⟩ (uZ t)) k m P (i+1):=λj g=>by
 obtain⟨a,b,c,d,f,n⟩:=h j g;by_cases e:j=i
 ·subst e;exact⟨x,y,z,t,f.put x y z t,λ_=>l⟩
 ·refine⟨a,b,c,d,?_,λo=>n oM⟩;exact(((f.off (by simp only;omega) _).off (by simp only;omega) _).off (by simp only;omega) _).off (by simp only;omega) _
theorem newest(w:Uq)(o:Obj):(w.alloc o).heap[w.heap.size]? = some o:=by
 show(w.heap.push o)[w.heap.size]? = some o;simp
theorem nD(j:Nat):pw0[j]? = if j=0 then some (uZ 1) else if j<64 then some (uZ 0) else none:=by
 match j with
 | 0=>rfl
 | j+1 =>
  rw[yCk oM];unfold pw0;rw[Array.getElem?_append_right (by simp)];by_cases h:j+1<64
  ·rw[yCj h];simp[Yg];omega
  ·rw[yCk h];simp[Yg];omega
theorem Tab.new(w:Uq)(m P:Nat)(c:1<P):Tab ((w.alloc (.cells pwz 308)).setRow w.heap.size pw0) w.heap.size m P 1:=λj e=>by
 have b:(w.alloc (.cells pwz 308)).heap[w.heap.size]? = some (.cells pwz 308 (0,0)):=newest w _;have k:=λi=>cell_setRow_same (w.alloc (.cells pwz 308)) w.heap.size i pwz pw0 308 (0,0) b
 have hf:∀o,((w.alloc (.cells pwz 308)).setRow w.heap.size pw0).frozen? ⟨w.heap.size,o,none⟩=false:=λo=>by
  have d:=setRow_heap _ _ _ pw0 _ _ b;unfold World.frozen?;dsimp only;rw[d];simp
 by_cases d:j=0
 ·subst d;refine⟨1,0,0,0,⟨?_,?_,?_,?_,hf⟩,λ_=>?_⟩
  ·rw[k,nD];rfl
  ·rw[k,nD];rfl
  ·rw[k,nD];rfl
  ·rw[k,nD];rfl
  ·rw[YN,UR c];exact Four.mk dC dC dC dC rfl
 ·refine⟨0,0,0,0,⟨?_,?_,?_,?_,hf⟩,λh=>oM⟩
  ·rw[k,nD,yCk (by simp only;omega),yCj (by simp only;omega)];rfl
  ·rw[k,nD,yCk (by simp only;omega),yCj (by simp only;omega)];rfl
  ·rw[k,nD,yCk (by simp only;omega),yCj (by simp only;omega)];rfl
  ·rw[k,nD,yCk (by simp only;omega),yCj (by simp only;omega)];rfl
theorem below_setRow{B:Nat}{w W:Uq}(h:Below B w W){g:Nat}(c:B<=g)(cs:Array Us):Below B w (W.setRow g cs):=
 ⟨h.os,h.tape,h.output,by rw[setRow_size];exact h.size,λk b=>by rw[setRow_other W g k cs oM];exact h.block k b⟩
theorem G6(W:Uq):kZ W ((W.alloc (.cells pwz 308)).setRow W.heap.size pw0):=below_setRow (aC W _) (Uv _) _
theorem uX{w W:Uq}{k e v u f j a b c d p q r s n g l m t i o:Nat}(h:Kept w k [⟨k,0,t,i,o,0⟩,⟨f,j*4,n,g,l,m⟩,⟨e,0,a,b,c,d⟩,⟨v,0,p,q,r,s⟩,⟨u,0,0,0,0,0⟩] W):W.cell? ⟨k,0,none⟩=some (uZ t)/\W.cell? ⟨k,1,none⟩=some (uZ i)/\W.cell? ⟨k,2,none⟩=some (uZ o)/\W.cell? ⟨k,3,none⟩=some (uZ 0)/\W.cell? ⟨f,j*4,none⟩=some (uZ n)/\W.cell? ⟨f,j*4+1,none⟩=some (uZ g)/\W.cell? ⟨f,j*4+2,none⟩=some (uZ l)/\W.cell? ⟨f,j*4+3,none⟩=some (uZ m)/\W.cell? ⟨e,0,none⟩=some (uZ a)/\W.cell? ⟨e,1,none⟩=some (uZ b)/\W.cell? ⟨e,2,none⟩=some (uZ c)/\W.cell? ⟨e,3,none⟩=some (uZ d)/\Kept w k [⟨k,0,t,i,o,0⟩,⟨f,j*4,n,g,l,m⟩,⟨e,0,a,b,c,d⟩,⟨v,0,p,q,r,s⟩,⟨u,0,0,0,0,0⟩] W:=
 ⟨h.head.c0,h.head.c1,h.head.c2,h.head.c3,h.tail.head.c0,h.tail.head.c1,h.tail.head.c2,h.tail.head.c3,h.tail.tail.head.c0,h.tail.tail.head.c1,h.tail.tail.head.c2,h.tail.tail.head.c3,h⟩
theorem qU{w W:Uq}{k v e u x f m P a b c d p q r s n g j nd o i l:Nat}(h:Kept w k (⟨f,0,n,g,j,nd⟩ :: [⟨k,0,o,i,l,0⟩,⟨v,0,a,b,c,d⟩,⟨e,0,p,q,r,s⟩,⟨u,0,0,0,0,0⟩]) W)(t:Tab W x m P 16):W.cell? ⟨k,0,none⟩=some (uZ o)/\W.cell? ⟨k,1,none⟩=some (uZ i)/\W.cell? ⟨k,2,none⟩=some (uZ l)/\W.cell? ⟨k,3,none⟩=some (uZ 0)/\W.cell? ⟨f,0,none⟩=some (uZ n)/\W.cell? ⟨f,1,none⟩=some (uZ g)/\W.cell? ⟨f,2,none⟩=some (uZ j)/\W.cell? ⟨f,3,none⟩=some (uZ nd)/\W.cell? ⟨e,0,none⟩=some (uZ p)/\W.cell? ⟨e,1,none⟩=some (uZ q)/\W.cell? ⟨e,2,none⟩=some (uZ r)/\W.cell? ⟨e,3,none⟩=some (uZ s)/\Kept w k (⟨f,0,n,g,j,nd⟩ :: [⟨k,0,o,i,l,0⟩,⟨v,0,a,b,c,d⟩,⟨e,0,p,q,r,s⟩,⟨u,0,0,0,0,0⟩]) W/\Tab W x m P 16:=
 ⟨h.tail.head.c0,h.tail.head.c1,h.tail.head.c2,h.tail.head.c3,h.head.c0,h.head.c1,h.head.c2,h.head.c3,h.tail.tail.tail.head.c0,h.tail.tail.tail.head.c1,h.tail.tail.tail.head.c2,h.tail.tail.tail.head.c3,h,t⟩
theorem uW{w W:Uq}{e l g f k j i a b c d p q r s u m o t y n x:Nat}(h:Kept w e [⟨e,0,y,n,x,0⟩,⟨k,j*4,u,m,o,t⟩,⟨l,0,a,b,c,d⟩,⟨g,0,p,q,r,s⟩,⟨f,0,0,0,0,0⟩] W)(C:e<=k)(B:k≠e)(z:k≠l)(D:k≠g)(E:k≠f)(F:i<j*4\/j*4+3<i)(v:Us):Kept w e [⟨e,0,y,n,x,0⟩,⟨k,j*4,u,m,o,t⟩,⟨l,0,a,b,c,d⟩,⟨g,0,p,q,r,s⟩,⟨f,0,0,0,0,0⟩] (W.setCell ⟨k,i,none⟩ v):=by
 refine((((((Kept.mk1 (h.bl.setCell (p:=⟨k,i,none⟩) C v) (by simpa using h.le)).cons ?_).cons ?_).cons ?_).cons ?_).cons ?_)
 ·exact h.tail.tail.tail.tail.head.other E v
 ·exact h.tail.tail.tail.head.other D v
 ·exact h.tail.tail.head.other z v
 ·exact h.tail.head.off F v
 ·exact h.head.other B v
theorem wU{w W:Uq}{e v u o k j i a b c d p q r s E A C D G B F:Nat}(h:Kept w e [⟨e,0,G,B,F,0⟩,⟨k,j*4,E,A,C,D⟩,⟨v,0,a,b,c,d⟩,⟨u,0,p,q,r,s⟩,⟨o,0,0,0,0,0⟩] W)(l:e<=k)(g:k≠e)(f:k≠v)(m:k≠u)(n:k≠o)
 (J:i*4<j*4\/j*4+3<i*4) (H:i*4+1<j*4\/j*4+3<i*4+1) (K:i*4+2<j*4\/j*4+3<i*4+2) (I:i*4+3<j*4\/j*4+3<i*4+3) (x y z t:Us) :
 Kept w e [⟨e,0,G,B,F,0⟩,⟨k,j*4,E,A,C,D⟩,⟨v,0,a,b,c,d⟩,⟨u,0,p,q,r,s⟩,⟨o,0,0,0,0,0⟩] ((((W.setCell ⟨k,i*4,none⟩ x).setCell ⟨k,i*4+1,none⟩ y).setCell ⟨k,i*4+2,none⟩ z).setCell ⟨k,i*4+3,none⟩ t):=
 uW (uW (uW (uW h l g f m n J x) l g f m n H y) l g f m n K z) l g f m n I t
theorem zO(g0 g1 g2 P : Nat)(x y : Us)(m n : Nat)(hG : Gap g0 g1 g2 P)(hx : Four x m)(hy : Four y n)(w : Uq):
    UG prog 223 #[.agg #[.int .u64 (g0 : Int), .int .u64 (g1 : Int), .int .u64 (g2 : Int), .int .u64 0], x, y] w (Ret λe w' => Below w.heap.size w w' /\ Four e (m ^ n % P)) := by
  obtain⟨a, b, c, d, rfl, ha, hb, hc, hd, em⟩ := id hx;obtain⟨p, q, r, s, rfl, hp, hq, hr, hs, en⟩ := id hy;have HX : Hid (Four _ m) := hx;have HY : Hid (Four _ n) := hy;have HG : Hid (Gap g0 g1 g2 P) := hG;clear em en hx hy ha hb hc hd hp hq hr hs hG;go_enter func223, ntmps223
  go_upto_region 1 with fail
  have KP := Cn w 120 47 47 47 g0 g1 g2 0 a b c d p q r s 0 0 0 0;simp only [WG]at KP;generalize Xs _ _ = W0 at KP⊢;have zv := Qq;have hpz : ¬pwz.size < 4 := dC;have hgr : (W0.alloc (.cells pwz 308)).heap[W0.heap.size]? = some (.cells pwz 308 (0, 0)) := newest W0 _;go_wp2_with (first | refine wpList_store_row rfl 308 _ _ rfl W0.heap.size pw0 rfl rfl 308 pwz hgr sizeT rfl TG ?_)
  have TB := Tab.new W0 m P (by have := HG.hP2; have : 3 < top := dC
                                omega)
  have hlt := KP.lts;have Q4 : Hid (w.heap.size <= W0.heap.size) := KP.le;replace KP := KP.call (G6 W0);clear zv hgr hpz;generalize World.setRow _ _ _ = W1 at KP TB⊢;generalize W0.heap.size = k4 at TB hlt Q4⊢;generalize h3 : w.heap.size + 1 + 1 + 1 = k3 at KP hlt⊢;generalize h2 : w.heap.size + 1 + 1 = k2 at KP hlt⊢;generalize h1 : w.heap.size + 1 = k1 at KP hlt⊢;have Q3 : Hid (w.heap.size <= k3) := by unfold Hid; omega
  generalize h0 : w.heap.size = k0 at KP hlt Q3 Q4⊢;have H0 : Hid (w.heap.size = k0) := h0;have n40 : k4 ≠ k0 := V7 (hlt _ List.mem_cons_self);have n41 : k4 ≠ k1 := V7 (hlt ⟨k1, 0, a, b, c, d⟩ (by simp));have n42 : k4 ≠ k2 := V7 (hlt ⟨k2, 0, p, q, r, s⟩ (by simp));have n43 : k4 ≠ k3 := V7 (hlt ⟨k3, 0, 0, 0, 0, 0⟩ (by simp));clear h0 h1 h2 h3 hlt;generalize pwz.setIfInBounds 0 (VY Vn 1) = zz;go_loopg [8] 15 (λgk s8 wr => ∃i : Nat, i + gk = 16 /\ 1 <= i /\ s8 = .int .i64 (i : Int) /\ Kept w k0 [⟨k0, 0, g0, g1, g2, 0⟩, ⟨k1, 0, a, b, c, d⟩, ⟨k2, 0, p, q, r, s⟩, ⟨k3, 0, 0, 0, 0, 0⟩] wr /\ Tab wr k4 m P i)
  case atStart => exact⟨1, rfl, Uv _, rfl, KP, TB⟩
  case round =>
    clear KP TB;obtain⟨i, hi, hi1, rfl, KP0, TB⟩ := hrel;by_cases hlt : i < 16
    · obtain⟨j, hji⟩ : ∃j, i = j + 1 := ⟨i - 1, oM⟩
      obtain⟨pa, pb, pc, pd, BJ, hFJ⟩ := TB j oM;have HFJ : Hid (Four _ (m ^ j % P)) := hFJ oM;have KP : Kept w k0 [⟨k0, 0, g0, g1, g2, 0⟩, ⟨k4, j * 4, pa, pb, pc, pd⟩, ⟨k1, 0, a, b, c, d⟩, ⟨k2, 0, p, q, r, s⟩, ⟨k3, 0, 0, 0, 0, 0⟩] wr := by
        refine((((((Kept.mk1 KP0.bl KP0.le).cons ?_).cons ?_).cons ?_).cons ?_).cons ?_)
        · exact KP0.tail.tail.tail.head
        · exact KP0.tail.tail.head
        · exact KP0.tail.head
        · exact BJ
        · exact KP0.head
      clear KP0 BJ hFJ;have hlt' : (i : Int) < 16 := oM;have e1 : (i : Int) - 1 = (j : Int) := oM;have hj16 : j < 16 := oM;have hj16i : (j : Int) < 16 := oM;have hw1 : VR.wrap (j : Int) = (j : Int) := Aw _ oM;have HJ : Hid (i = j + 1) := hji;have o0 : Hid (i * 4 < j * 4 \/ j * 4 + 3 < i * 4) := by unfold Hid; omega
      have o1 : Hid (i * 4 + 1 < j * 4 \/ j * 4 + 3 < i * 4 + 1) := by unfold Hid; omega
      have o2 : Hid (i * 4 + 2 < j * 4 \/ j * 4 + 3 < i * 4 + 2) := by unfold Hid; omega
      have o3 : Hid (i * 4 + 3 < j * 4 \/ j * 4 + 3 < i * 4 + 3) := by unfold Hid; omega
      clear hji
      go_upto_region 5 with fail
      go_region_held3 (λw' => w'.cell? ⟨k0, 0, none⟩ = some (.int .u64 (g0 : Int)) /\ w'.cell? ⟨k0, 1, none⟩ = some (.int .u64 (g1 : Int)) /\ w'.cell? ⟨k0, 2, none⟩ = some (.int .u64 (g2 : Int)) /\ w'.cell? ⟨k0, 3, none⟩ = some (.int .u64 0) /\ w'.cell? ⟨k4, j * 4, none⟩ = some (.int .u64 (pa : Int)) /\ w'.cell? ⟨k4, j * 4 + 1, none⟩ = some (.int .u64 (pb : Int)) /\ w'.cell? ⟨k4, j * 4 + 2, none⟩ = some (.int .u64 (pc : Int)) /\ w'.cell? ⟨k4, j * 4 + 3, none⟩ = some (.int .u64 (pd : Int)) /\ w'.cell? ⟨k1, 0, none⟩ = some (.int .u64 (a : Int)) /\ w'.cell? ⟨k1, 1, none⟩ = some (.int .u64 (b : Int)) /\ w'.cell? ⟨k1, 2, none⟩ = some (.int .u64 (c : Int)) /\ w'.cell? ⟨k1, 3, none⟩ = some (.int .u64 (d : Int)) /\ Kept w k0 [⟨k0, 0, g0, g1, g2, 0⟩, ⟨k4, j * 4, pa, pb, pc, pd⟩, ⟨k1, 0, a, b, c, d⟩, ⟨k2, 0, p, q, r, s⟩, ⟨k3, 0, 0, 0, 0, 0⟩] w') (first | (with_reducible exact uX KP) | (with_reducible exact uX KP.drew) | (with_reducible exact uX (wU KP Q4.out n40 n41 n42 n43 o0.out o1.out o2.out o3.out _ _ _ _)) | (with_reducible exact uX (wU KP Q4.out n40 n41 n42 n43 o0.out o1.out o2.out o3.out _ _ _ _).drew) | fail) (first | (go_at_call 127; refine(jN _ _ HX.out _).mono ?_; rintro e w1 ⟨v, rfl, hb1, rfl⟩; (first | (with_reducible (have KP1 := KP.drew.call hb1)) | (with_reducible (have KP1 := KP.call hb1)) | fail); (first | (with_reducible (have T1 := TB.drew.call hb1)) | (with_reducible (have T1 := TB.call hb1)) | fail); clear KP TB hb1; have KP := KP1; have TB := T1; clear KP1 T1) | (go_at_call 213; refine(dN g0 g1 g2 P _ _ _ _ HG.out HFJ.out HX.out _).mono ?_; rintro e w1 ⟨v, rfl, hb1, hF3⟩; obtain⟨a', b', c', d', rfl, ha', hb', hc', hd', es3⟩ := id hF3; clear es3; have HF3 : Hid (Four _ _) := hF3; clear hF3; (first | (with_reducible (have KP1 := KP.drew.call hb1)) | (with_reducible (have KP1 := KP.call hb1)) | fail); (first | (with_reducible (have T1 := TB.drew.call hb1)) | (with_reducible (have T1 := TB.call hb1)) | fail); clear KP TB hb1; have KP := KP1; have TB := T1; clear KP1 T1; obtain⟨ya, yb, yc, yd, BI, hFI⟩ := TB i hlt; clear hFI; obtain⟨tc0, tc1, tc2, tc3, tf⟩ := id BI; have zt := BI.lt; clear BI))
      go_wp2;go_roundg (gk - 1)
      case measure => omega
      case rel =>
        have K3 := wU KP Q4.out n40 n41 n42 n43 o0.out o1.out o2.out o3.out (.int .u64 (a' : Int)) (.int .u64 (b' : Int)) (.int .u64 (c' : Int)) (.int .u64 (d' : Int));refine⟨i + 1, oM, oM, rfl, ?_, ?_⟩
        · exact((((Kept.mk1 K3.bl K3.le).cons K3.tail.tail.tail.tail.head).cons K3.tail.tail.tail.head).cons K3.tail.tail.head).cons K3.head
        · refine TB.put hlt ?_
          have h1 := HF3.out;rw [AO, <-HJ.out]at h1;exact h1
    · have hi16 : i = 16 := oM
      subst hi16;obtain⟨pa, pb, pc, pd, BJ, hFJ⟩ := TB 0 dC;have HFJ := mk1 (hFJ dC);replace BJ : (Blk.mk k4 0 pa pb pc pd).at wr := BJ;obtain⟨tc0, tc1, tc2, tc3, tf⟩ := id BJ;replace tc0 : wr.cell? ⟨k4, 0, none⟩ = some (.int .u64 (pa : Int)) := tc0;replace tc1 : wr.cell? ⟨k4, 1, none⟩ = some (.int .u64 (pb : Int)) := tc1;replace tc2 : wr.cell? ⟨k4, 2, none⟩ = some (.int .u64 (pc : Int)) := tc2;replace tc3 : wr.cell? ⟨k4, 3, none⟩ = some (.int .u64 (pd : Int)) := tc3;have zt := BJ.lt;go_wp2;have KN := (KP0.alloc (.cells #[.int .u64 (pa : Int), .int .u64 (pb : Int), .int .u64 (pc : Int), .int .u64 (pd : Int)] 118)).cons (At4.made wr 118 pa pb pc pd rfl).blk;have TN := TB.call (aC wr (.cells #[.int .u64 (pa : Int), .int .u64 (pb : Int), .int .u64 (pc : Int), .int .u64 (pd : Int)] 118));have hlt5 := KP0.lts;have n54 := V7 BJ.lt;have Q5 := mk1 (KP0.le);generalize Xs _ _ = Wv5 at KN TN⊢;generalize wr.heap.size = k5 at KN hlt5 n54 Q5⊢;have hl5 : ∀x ∈ ([⟨k0, 0, g0, g1, g2, 0⟩, ⟨k1, 0, a, b, c, d⟩, ⟨k2, 0, p, q, r, s⟩, ⟨k3, 0, 0, 0, 0, 0⟩] : List Blk), k5 ≠ x.k := λx hx => V7 (hlt5 x hx)
      go_loopg [10] 64 (λgk s10 wr => gk <= 64 /\ s10 = .int .i64 (4 * (gk : Int) - 4) /\ (∃na nb nc nd : Nat, Kept w k0 (⟨k5, 0, na, nb, nc, nd⟩ :: [⟨k0, 0, g0, g1, g2, 0⟩, ⟨k1, 0, a, b, c, d⟩, ⟨k2, 0, p, q, r, s⟩, ⟨k3, 0, 0, 0, 0, 0⟩]) wr /\ Hid (Four (.agg #[.int .u64 (na : Int), .int .u64 (nb : Int), .int .u64 (nc : Int), .int .u64 (nd : Int)]) (m ^ (n / 2 ^ (4 * gk)) % P))) /\ Tab wr k4 m P 16)
      case atStart =>
        refine⟨Uv _, rfl, ⟨pa, pb, pc, pd, KN, ?_⟩, TN⟩;have h1 := HFJ.out;rw [show n / 2 ^ (4 * 64) = 0 from Xd HY.lt];exact h1
      case round =>
        obtain⟨hg64, rfl, ⟨na, nb, nc, nd, KP, HF⟩, TB⟩ := hrel;by_cases hz : gk = 0
        · subst hz
          have HF0 := HF.out;rw [ZP, YN, yBX]at HF0;obtain⟨tc0, tc1, tc2, tc3, tf⟩ := KP.head.at4;have zt := KP.head.lt;go_wp2_with fail
          refine(jI _ _ HF0 _).mono ?_;rintro e w1 ⟨v, rfl, hb1, rfl⟩;have HFE := mk1 (HF0);have KP1 := KP.call hb1;obtain⟨rc0, rc1, rc2, rc3, rf⟩ := KP1.tail.tail.tail.tail.head.at4;have zr := KP1.tail.tail.tail.tail.head.lt;go_wp2;have RF := KP1.tail.tail.tail.tail.head.at4.self4 na nb nc nd;unfold set4 at RF;refine UD (v := ?v) ?hr rfl ?hR
          case hr => simp [results, Tryz.results223, go_sem, RF.c0, RF.c1, RF.c2, RF.c3]; rfl
          refine⟨_, rfl, ?_, HFE.out⟩;rw [H0.out];exact aL KP1.bl Q3.out _ _ _ _
        · obtain⟨I, hI⟩ : ∃I, 4 * (gk - 1) = I := ⟨_, rfl⟩
          have e1 : 4 * (gk : Int) - 4 = (I : Int) := oM;rw [e1];have HI := mk1 (hI);obtain⟨E, hE⟩ : ∃E, n / 2 ^ (4 * gk) = E := ⟨_, rfl⟩;have HE := mk1 (hE);rw [hE]at HF;go_wp2;refine wp_loop_rounds 5 ?_;obtain⟨tc0, tc1, tc2, tc3, tf⟩ := KP.head.at4;have zt := KP.head.lt;obtain⟨pc0, pc1, pc2, pc3, pf⟩ := KP.tail.head.at4;have zp := KP.tail.head.lt;rw [Xb];go_wp2_with fail
          refine(dN g0 g1 g2 P _ _ _ _ HG.out HF.out HF.out _).mono ?_;rintro e w1 ⟨v, rfl, hb1, hF3⟩;rw [kF]at hF3;obtain⟨n1a, n1b, n1c, n1d, rfl, ha', hb', hc', hd', es3⟩ := id hF3;have HF := mk1 (hF3);replace KP := KP.call hb1;replace TB := TB.call hb1;obtain⟨tc0, tc1, tc2, tc3, tf⟩ := KP.head.at4;have zt := KP.head.lt;go_wp2_with fail
          have KP2 := KP.put Q5.out hl5 n1a n1b n1c n1d;have TB2 := (((TB.other (o := 0) n54 (.int .u64 (n1a : Int))).other (o := 1) n54 (.int .u64 (n1b : Int))).other (o := 2) n54 (.int .u64 (n1c : Int))).other (o := 3) n54 (.int .u64 (n1d : Int));have KP := KP2;have TB := TB2;obtain⟨tc0, tc1, tc2, tc3, tf⟩ := KP.head.at4;have zt := KP.head.lt;obtain⟨pc0, pc1, pc2, pc3, pf⟩ := KP.tail.head.at4;have zp := KP.tail.head.lt;rw [Xb];go_wp2_with fail
          clear tc0 tc1 tc2 tc3 tf zt pc0 pc1 pc2 pc3 pf zp;refine(dN g0 g1 g2 P _ _ _ _ HG.out HF.out HF.out _).mono ?_;rintro e w2 ⟨v, rfl, hb1, hF3⟩;rw [kF]at hF3;obtain⟨n2a, n2b, n2c, n2d, rfl, ha', hb', hc', hd', es3⟩ := id hF3;clear HF;have HF : Hid (Four _ _) := hF3;clear hF3 es3 ha' hb' hc' hd';replace KP := KP.call hb1;replace TB := TB.call hb1;clear hb1;obtain⟨tc0, tc1, tc2, tc3, tf⟩ := KP.head.at4;have zt := KP.head.lt;go_wp2_with fail
          clear tc0 tc1 tc2 tc3 tf zt;have KP2 := KP.put Q5.out hl5 n2a n2b n2c n2d;have TB2 := (((TB.other (o := 0) n54 (.int .u64 (n2a : Int))).other (o := 1) n54 (.int .u64 (n2b : Int))).other (o := 2) n54 (.int .u64 (n2c : Int))).other (o := 3) n54 (.int .u64 (n2d : Int));clear KP TB;generalize Yb _ _ _ = WX2 at KP2 TB2⊢;have KP := KP2;have TB := TB2;clear KP2 TB2;obtain⟨tc0, tc1, tc2, tc3, tf⟩ := KP.head.at4;have zt := KP.head.lt;obtain⟨pc0, pc1, pc2, pc3, pf⟩ := KP.tail.head.at4;have zp := KP.tail.head.lt;rw [Xb];go_wp2_with fail
          clear tc0 tc1 tc2 tc3 tf zt pc0 pc1 pc2 pc3 pf zp;refine(dN g0 g1 g2 P _ _ _ _ HG.out HF.out HF.out _).mono ?_;rintro e w3 ⟨v, rfl, hb1, hF3⟩;rw [kF]at hF3;obtain⟨n3a, n3b, n3c, n3d, rfl, ha', hb', hc', hd', es3⟩ := id hF3;clear HF;have HF : Hid (Four _ _) := hF3;clear hF3 es3 ha' hb' hc' hd';replace KP := KP.call hb1;replace TB := TB.call hb1;clear hb1;obtain⟨tc0, tc1, tc2, tc3, tf⟩ := KP.head.at4;have zt := KP.head.lt;go_wp2_with fail
          clear tc0 tc1 tc2 tc3 tf zt;have KP2 := KP.put Q5.out hl5 n3a n3b n3c n3d;have TB2 := (((TB.other (o := 0) n54 (.int .u64 (n3a : Int))).other (o := 1) n54 (.int .u64 (n3b : Int))).other (o := 2) n54 (.int .u64 (n3c : Int))).other (o := 3) n54 (.int .u64 (n3d : Int));clear KP TB;generalize Yb _ _ _ = WX3 at KP2 TB2⊢;have KP := KP2;have TB := TB2;clear KP2 TB2;obtain⟨tc0, tc1, tc2, tc3, tf⟩ := KP.head.at4;have zt := KP.head.lt;obtain⟨pc0, pc1, pc2, pc3, pf⟩ := KP.tail.head.at4;have zp := KP.tail.head.lt;rw [Xb];go_wp2_with fail
          clear tc0 tc1 tc2 tc3 tf zt pc0 pc1 pc2 pc3 pf zp;refine(dN g0 g1 g2 P _ _ _ _ HG.out HF.out HF.out _).mono ?_;rintro e w4 ⟨v, rfl, hb1, hF3⟩;rw [kF]at hF3;obtain⟨n4a, n4b, n4c, n4d, rfl, ha', hb', hc', hd', es3⟩ := id hF3;clear HF;have HF : Hid (Four _ _) := hF3;clear hF3 es3 ha' hb' hc' hd';replace KP := KP.call hb1;replace TB := TB.call hb1;clear hb1;obtain⟨tc0, tc1, tc2, tc3, tf⟩ := KP.head.at4;have zt := KP.head.lt;go_wp2_with fail
          clear tc0 tc1 tc2 tc3 tf zt;have KP2 := KP.put Q5.out hl5 n4a n4b n4c n4d;have TB2 := (((TB.other (o := 0) n54 (.int .u64 (n4a : Int))).other (o := 1) n54 (.int .u64 (n4b : Int))).other (o := 2) n54 (.int .u64 (n4c : Int))).other (o := 3) n54 (.int .u64 (n4d : Int));clear KP TB;generalize Yb _ _ _ = WX4 at KP2 TB2⊢;have KP := KP2;have TB := TB2;clear KP2 TB2;rw [Xb];go_wp2_with fail
          refine anyTill.begin (λw' => w'.cell? ⟨k0, 0, none⟩ = some (.int .u64 (g0 : Int)) /\ w'.cell? ⟨k0, 1, none⟩ = some (.int .u64 (g1 : Int)) /\ w'.cell? ⟨k0, 2, none⟩ = some (.int .u64 (g2 : Int)) /\ w'.cell? ⟨k0, 3, none⟩ = some (.int .u64 0) /\ w'.cell? ⟨k5, 0, none⟩ = some (.int .u64 (n4a : Int)) /\ w'.cell? ⟨k5, 1, none⟩ = some (.int .u64 (n4b : Int)) /\ w'.cell? ⟨k5, 2, none⟩ = some (.int .u64 (n4c : Int)) /\ w'.cell? ⟨k5, 3, none⟩ = some (.int .u64 (n4d : Int)) /\ w'.cell? ⟨k2, 0, none⟩ = some (.int .u64 (p : Int)) /\ w'.cell? ⟨k2, 1, none⟩ = some (.int .u64 (q : Int)) /\ w'.cell? ⟨k2, 2, none⟩ = some (.int .u64 (r : Int)) /\ w'.cell? ⟨k2, 3, none⟩ = some (.int .u64 (s : Int)) /\ Kept w k0 (⟨k5, 0, n4a, n4b, n4c, n4d⟩ :: [⟨k0, 0, g0, g1, g2, 0⟩, ⟨k1, 0, a, b, c, d⟩, ⟨k2, 0, p, q, r, s⟩, ⟨k3, 0, 0, 0, 0, 0⟩]) w' /\ Tab w' k4 m P 16) 8 mixed (qU KP.drew TB.drew) (λhS => ?_);refine anyTill.tk (i := 0) (v := ?_) rfl (U3 ⟨by rfl, ?_⟩) hS ?_
          rotate_left
          · intro w hSw
            (try dsimp only at hSw)
            go_simp;try(with_reducible rfl)
          simp only [UM, Ur];refine anyTill.tk (i := 1) (v := ?_) rfl (U3 ⟨by rfl, ?_⟩) hS ?_
          rotate_left
          · intro w hSw
            (try dsimp only at hSw)
            go_simp;try(with_reducible rfl)
          simp only [UM];refine anyTill.tk (i := 2) (v := ?_) rfl (U3 ⟨by rfl, ?_⟩) hS ?_
          rotate_left
          · intro w hSw
            (try dsimp only at hSw)
            go_simp;try(with_reducible rfl)
          simp only [UM];refine anyTill.tk (i := 3) (v := ?_) rfl (U3 ⟨by rfl, ?_⟩) hS ?_
          rotate_left
          · intro w hSw
            (try dsimp only at hSw)
            go_simp;try(with_reducible rfl)
          simp only [UM];try simp only [Uu, Ut]
          obtain⟨tt, htt⟩ : ∃tt, n / 2 ^ I % 2 ^ 4 = tt := ⟨_, rfl⟩;have HT : Hid (n / 2 ^ I % 2 ^ 4 = tt) := htt;have hB := λw => CY _ n I 4 HY.out oM dC w
          rw [htt]at hB
          have htl : tt < 16 := by have : (2 : Nat) ^ 4 = 16 := rfl
                                   rw [<-htt]; omega
          have htl' : (tt : Int) < 16 := oM;have HB : Hid _ := hB;clear hB htt;refine anyTill.step (i := 4) rfl kR (λK hK => ?_);go_simp;refine(HB _).mono ?_;rintro e w6 ⟨v, rfl, hb1, rfl⟩;clear hS HB;have KP6 := KP.drew.call hb1;have TB6 := TB.drew.call hb1;clear hb1 KP TB;refine hK.out _ _ (λ_ => qU KP6 TB6) ?_;clear hK K;try simp only [UM, Ur, Uu, Ut]
          obtain⟨ta, tb, tc, td, BT, hFT⟩ := TB6 tt htl;have HFT : Hid (Four _ (m ^ tt % P)) := hFT htl;clear hFT;obtain⟨tc0, tc1, tc2, tc3, tf⟩ := id BT;have zt := BT.lt;refine anyTill.step (i := 5) rfl kR (λK hK => ?_);go_simp;refine hK.out _ _ (λ_ => qU KP6 TB6) ?_;clear hK K;try simp only [UM, Ur, Uu, Ut]
          refine anyTill.step (i := 6) rfl kR (λK hK => ?_);go_simp;refine hK.out _ _ (λ_ => qU KP6 TB6) ?_;clear hK K;try simp only [UM, Ur, Uu, Ut]
          clear tc0 tc1 tc2 tc3 tf zt BT;refine anyTill.step (i := 7) rfl kR (λK hK => ?_);go_simp;refine(dN g0 g1 g2 P _ _ _ _ HG.out HF.out HFT.out _).mono ?_;rintro e w7 ⟨v, rfl, hb1, hF3⟩;rw [B6]at hF3;obtain⟨ua, ub, uc, ud, rfl, ha', hb', hc', hd', es3⟩ := id hF3;have HFU : Hid (Four _ _) := hF3;clear hF3 es3 ha' hb' hc' hd' HF HFT;have KP7 := KP6.call hb1;have TB7 := TB6.call hb1;clear hb1 KP6 TB6;refine hK.out _ _ (λ_ => qU KP7 TB7) ?_;clear hK K;try simp only [UM, Ur, Uu, Ut]
          obtain⟨tc0, tc1, tc2, tc3, tf⟩ := KP7.head.at4;have zt := KP7.head.lt;refine anyTill.step (i := 8) rfl kR (λK hK => ?_);go_simp;refine hK.out _ _ (λh => Yx h) ?_;clear hK K;try simp only [UM, Ur, Uu, Ut]
          refine anyTill.done kR ?_ _;clear tc0 tc1 tc2 tc3 tf zt;go_wp2;go_roundg (gk - 1)
          case measure => omega
          case rel =>
            refine⟨oM, ?_, ⟨ua, ub, uc, ud, KP7.put Q5.out hl5 ua ub uc ud, ?_⟩, (((TB7.other (o := 0) n54 _).other (o := 1) n54 _).other (o := 2) n54 _).other (o := 3) n54 _⟩
            · have := HI.out
              congr 1
              omega
            · have h1 := HFU.out
              unfold Hid;rw [HI.out, MO n I, show I + 4 = 4 * gk by have := HI.out; omega, HE.out, HT.out];rw [show 2 * (2 * (2 * (2 * E))) + tt = 16 * E + tt by omega]at h1;exact h1
def p0:Nat:=115792089237316195423570985008687907853269984665640564039457584007908834671663
def p1:Nat:=115792089237316195423570985008687907852837564279074904382605163141518161494337
def gv0:Us:=.agg #[uZ 4294968273,uZ 0,uZ 0,uZ 0]
def gv1:Us:=.agg #[uZ 4624529908474429119,uZ 4994812053365940164,uZ 1,uZ 0]
theorem T0:Gap 4294968273 0 0 p0:=⟨dC,dC,dC,U3 ⟨rfl,rfl⟩,dK,dK,dK⟩
theorem TZ:Gap 4624529908474429119 4994812053365940164 1 p1:=⟨dC,dC,dC,UW ⟨4994812053365940165,dK,dC⟩,dK,dK,dK⟩
theorem uR(w:Uq):
 UG prog 114 #[] w λe w'=>e=.returned (.agg #[uZ 4294968273,uZ 0,uZ 0,uZ 0])/\w'=w.alloc (.cells #[uZ 4294968273,uZ 0,uZ 0,uZ 0] 120):=by
 go_enter func114,ntmps114;go_wp2;refine UD (v:=?v) ?hr rfl ?hR
 case hr=>simp[results,Tryz.results114,go_sem];rfl
 exact⟨rfl,rfl⟩
theorem CQ(w:Uq):
 UG prog 58 #[] w λe w'=>e=.returned (.agg #[uZ 4624529908474429119,uZ 4994812053365940164,uZ 1,uZ 0])/\w'=w.alloc (.cells #[uZ 4624529908474429119,uZ 4994812053365940164,uZ 1,uZ 0] 120):=by
 go_enter func58,ntmps58;go_wp2;refine UD (v:=?v) ?hr rfl ?hR
 case hr=>simp[results,Tryz.results58,go_sem];rfl
 exact⟨rfl,rfl⟩
end
section
abbrev Bs:=Array UInt8
def ub(x:UInt8):Int:=(x.toNat:Int)
def encB(x:UInt8):Us:=.int .u8 (ub x)
structure Only(b off n:Nat)(w w':Uq):Prop where
 os:w'.os=w.os
 tape:w'.tape=w.tape
 output:w'.output=w.output
 size:w.heap.size<=w'.heap.size
 block:∀k,k<w.heap.size->k≠b->w'.heap[k]? = w.heap[k]?
 cell:∀o,(o<off\/off+n<=o)->w'.cell? ⟨b,o,none⟩=w.cell? ⟨b,o,none⟩
 froz:∀o,w'.frozen? ⟨b,o,none⟩=w.frozen? ⟨b,o,none⟩
variable {b off n:Nat}{w w1 w2:Uq}
theorem Only.refl(b off n:Nat)(w:Uq):Only b off n w w:=⟨rfl,rfl,rfl,Uv _,λ_ _ _=>rfl,λ_ _=>rfl,λ_=>rfl⟩
theorem Only.trans(h:Only b off n w w1)(k:Only b off n w1 w2):Only b off n w w2:=
 ⟨k.os.trans h.os,k.tape.trans h.tape,k.output.trans h.output,Nat.le_trans h.size k.size,
  λi c d=>(k.block i (Uw c h.size) d).trans (h.block i c d),
  λo ho=>(k.cell o ho).trans (h.cell o ho),λo=>(k.froz o).trans (h.froz o)⟩
theorem Only.setCell(h:Only b off n w w1){o:Nat}(g:off<=o)(f:o<off+n)(v:Us):Only b off n w (w1.setCell ⟨b,o,none⟩ v):=by
 refine h.trans ⟨rfl,rfl,rfl,by simp,λk _ d=>Zr _ _ _ _ d,λc ho=>?_,λc=>by simp⟩;exact UT _ _ _ _ (by intro e;simp only[Addr.mk.injEq,and_true,true_and]at e;omega)
theorem Only.below(h:Only b off n w w1){B:Nat}(c:B<=w.heap.size)(e:B<=b):Below B w w1:=
 ⟨h.os,h.tape,h.output,h.size,λk d=>h.block k oM oM⟩
section
variable {α:Type}[Inhabited α]{enc:α->Us}{d:Array α}
theorem Holds.lt(h:Holds enc w b off d)(hd:0<d.size):b<w.heap.size:=World.block_lt_of_cell? _ _ (h 0 hd).1
theorem Holds.same{o:Nat}(h:Holds enc w b o d)(k:Only b off n w w1)(hd:o+d.size<=off\/off+n<=o):Holds enc w1 b o d:=by
 intro j c;rw[k.cell _ oM,k.froz];exact h j c
theorem Holds.below{B:Nat}(h:Holds enc w b off d)(k:Below B w w1)(c:b<B):Holds enc w1 b off d:=by
 intro j e;rw[k.cell (p:=⟨b,off+j,none⟩) c,k.frozen (p:=⟨b,off+j,none⟩) c];exact h j e
theorem Holds.drewN(h:Holds enc w b off d)(q:Nat):Holds enc (w.drewN q) b off d:=h
theorem Holds.set(h:Holds enc w b off d){i:Nat}(c:i<d.size)(x:α):Holds enc (w.setCell ⟨b,off+i,none⟩ (enc x)) b off (d.setIfInBounds i x):=by
 intro j k;rw[Array.size_setIfInBounds]at k;rw[VK];by_cases e:j=i
 ·subst e;rw[getElem!_set_same d j x c];exact⟨VU _ _ _ (h j k).1,(h j k).2⟩
 ·rw[getElem!_set_other d i j x e,UT _ _ _ _ (by intro e';simp only[Addr.mk.injEq,and_true,true_and]at e';omega)];exact h j k
theorem Holds.new(w:Uq)(t:U7)(d:Array α):Holds enc (w.alloc (.cells (d.map enc) t)) w.heap.size 0 d:=by
 intro j k;rw[Vb,Wu];refine⟨?_,rfl⟩;simp only[UC,Array.getElem?_map,Array.getElem?_eq_getElem k,Option.map_some,getElem!_pos d j k]
theorem Holds.made(w:Uq)(t:U7)(n:Nat)(x:α):Holds enc (w.alloc (.cells (madeCells #[enc x] n) t)) w.heap.size 0 (UI n x):=by
 intro j k;rw[UO]at k;rw[Vb,Wu];refine⟨?_,rfl⟩;rw[getElem!_pos _ j (by simpa using k),Wv];simp[madeCells,k,yAW]
end
section
def fill(i:Nat):UInt8:=UL (i%251) ^^^ 165
def lentTo(s:ByteArray):Nat->Bs
 | 0=>s.data++UI 160 0
 | k+1=>(lentTo s k).setIfInBounds (s.size+k) (fill (s.size+k))
def lent(s:ByteArray):Bs:=lentTo s 160
variable {w w1:Uq}{b o n:Nat}
theorem heap_setCells(b:Nat){k:Nat}(c:k≠b):∀(vs:List Us) (p:Nat) (w:Uq),(w.setCells b p vs).heap[k]? = w.heap[k]?
 | [],_,_=>rfl
 | v :: r,p,w=>by rw[World.setCells,heap_setCells b c r (p+1) _,Zr _ _ _ _ c]
theorem Holds.setCells{d r:Bs}(h:Holds encB w b o d)(vs:List Us)(p:Nat)(f:r.size=d.size)(m:p+vs.length<=d.size)
 (g:∀j (k:j<vs.length),vs[j]=encB r[p+j]!) (c:∀j,j<d.size->j<p\/p+vs.length<=j->r[j]! = d[j]!):Holds encB (w.setCells b (o+p) vs) b o r:=by
 intro j k;rw[f]at k;rw[World.frozen?_setCells];refine⟨?_,(h j k).2⟩;by_cases e:j<p\/p+vs.length<=j
 ·rw[World.cell?_setCells_out b vs (o+p) w ⟨b,o+j,none⟩ (λ_ _=>by simp only;omega),c j k e];exact(h j k).1
 ·have c:j-p<vs.length:=oM;have:=World.cell?_setCells_in b vs (o+p) w (λi l=>by
   have:=(h (p+i) oM).1;rw[<-WQ]at this;rw[this];rfl) (j-p) c
  rw[show o+p+(j-p)=o+j by omega]at this;rw[this,g (j-p) c,show p+(j-p)=j by omega]
theorem app_front(a r:Bs)(j:Nat)(k:j<a.size):(a++r)[j]! = a[j]:=by
 have h:j<(a++r).size:=by rw[VM];omega
 rw[getElem!_pos (a++r) j h,Array.getElem_append_left k]
theorem app_back(a r:Bs)(j:Nat)(b:a.size<=j)(c:j<a.size+r.size):(a++r)[j]! = r[j-a.size]!:=by
 have h:j<(a++r).size:=by rw[VM];omega
 have k:j-a.size<r.size:=oM;rw[getElem!_pos (a++r) j h,Array.getElem_append_right b,getElem!_pos r (j-a.size) k]
theorem rep_at(n j:Nat)(h:j<n):(UI n (0:UInt8))[j]! = 0:=by
 have k:j<(UI n (0:UInt8)).size:=by rw[UO];exact h
 rw[getElem!_pos (UI n (0:UInt8)) j k,Wv]
theorem size_of5(P:VC)(e:U7)(h:(P.info? e).map (·.size)=some 1):∀w,(yAa e).run P w=.ok 1 w:=by
 intro w;cases k:P.info? e with
 | none=>simp[k]at h
 | some i =>
  simp[k]at h;simp[yAa,typeInfo,k,h]
theorem conv_str(P:VC)(src k e:U7)(l:P.underlying src=some (.slice e))(i:P.underlying e=some (.int .u8))(hd:P.underlying k=some .string)
 (w:Uq) (b o n cap:Nat) (c:Bs) (q:Holds encB w b o c) (m:c.size=n):(convert src k (.slice (some ⟨b,o,none⟩) n cap)).run P w=.ok (.string ⟨c⟩) w:=by
 have h:=run_convert_bytes_back (P:=P) w src k e ⟨b,o,none⟩ cap c.toList l i hd (λj p=>by
  have d:j<c.size:=by simpa using p
  have g:=(q j d).1;rw[getElem!_pos c j d]at g;have r:(⟨b,o,none⟩:Addr).add j=⟨b,o+j,none⟩:=by
   unfold Zi;by_cases f:j=0
   ·subst f;rfl
   ·rw[yCk f]
  rw[r,g];simp[encB,ub])
 simpa[m]using h
end
section
theorem slice22:prog.underlying 23=some (.slice 5):=kR
theorem info5:(prog.info? 5).map (λi=>(i.zero,i.size,i.bytes))=some (some (.int .u8 0),1,1):=kR
theorem int5:prog.underlying 5=some (.int .u8):=kR
theorem str9:prog.underlying 9=some .string:=kR
theorem size5:∀w,(yAa 5).run prog w=.ok 1 w:=size_of5 prog 5 kR
end
end
section
variable {P:Nat}[NeZero P]{N:Nat}
def be8(x:Nat):Bs:=#[UL (x/72057594037927936),UL (x/281474976710656),UL (x/1099511627776),UL (x/4294967296),UL (x/16777216),UL (x/65536),UL (x/256),UL x]
def be32(a b c d:Nat):Bs:=be8 d++be8 c++be8 b++be8 a
theorem mQ(x:Nat):ub (UL x)=((x%256:Nat):Int):=by
 unfold ub;rw[UInt8.toNat_ofNat']
theorem Hk(x:Nat):Xx.wrap (x:Int)=ub (UL x):=by
 rw[mQ,IntKind.wrap_u8];omega
theorem byte_at(x k:Nat):(VY .u8 ((x:Int)/(k:Int)%256))=encB (UL (x/k)):=by
 unfold encB;rw[mQ,yBe,Zb];rfl
theorem JY(x:Nat)(hx:x<18446744073709551616):(VY .u8 ((x:Int)/72057594037927936))=encB (UL (x/72057594037927936)):=by
 unfold encB;rw[mQ];exact congrArg (VY .u8) oM
theorem Tx(k:Bs)(g:k.size=8)(v0 v1 v2 c e b f d:UInt8):
 (((((((k.setIfInBounds 0 v0).setIfInBounds 1 v1).setIfInBounds 2 v2).setIfInBounds 3 c).setIfInBounds 4 e).setIfInBounds 5 b).setIfInBounds 6 f).setIfInBounds 7 d=#[v0,v1,v2,c,e,b,f,d]:=by
 obtain⟨l⟩:=k;match l,g with
 | [_,_,_,_,_,_,_,_],_=>simp
theorem kD(g o n cap x:Nat)(b:Bs)(w:Uq)(C:8<=n)(G:n<=cap)(c:cap<=1048576)(hx:x<18446744073709551616)(j:b.size=8)(k:Holds encB w g o b):
 UG prog 192 #[.slice (some ⟨g,o,none⟩) n cap,uZ x] w λe w'=>e=.returned (.tuple #[])/\Only g o 8 w w'/\Holds encB w' g o (be8 x):=by
 obtain⟨r,s⟩:=k 0 oM;obtain⟨c1,u⟩:=k 1 oM;obtain⟨c2,f2⟩:=k 2 oM;obtain⟨t,z⟩:=k 3 oM;obtain⟨y,F⟩:=k 4 oM;obtain⟨D,a⟩:=k 5 oM;obtain⟨v,E⟩:=k 6 oM;obtain⟨B,A⟩:=k 7 oM;rw[XA]at r s;have m:=mk1 (k);go_enter func192,ntmps192;go_wp2;have v0:(VY .u8 ((x:Int)/72057594037927936))=encB (UL (x/72057594037927936)):=JY x hx;have v1:(VY .u8 ((x:Int)/281474976710656%256))=encB (UL (x/281474976710656)):=byte_at x 281474976710656;have v2:(VY .u8 ((x:Int)/1099511627776%256))=encB (UL (x/1099511627776)):=byte_at x 1099511627776;have d:(VY .u8 ((x:Int)/4294967296%256))=encB (UL (x/4294967296)):=byte_at x 4294967296;have p:(VY .u8 ((x:Int)/16777216%256))=encB (UL (x/16777216)):=byte_at x 16777216;have l:(VY .u8 ((x:Int)/65536%256))=encB (UL (x/65536)):=byte_at x 65536;have q:(VY .u8 ((x:Int)/256%256))=encB (UL (x/256)):=byte_at x 256;have f:(VY .u8 ((x:Int)%256))=encB (UL x):=by unfold encB;rw[mQ,yBe];rfl
 rw[v0,v1,v2,d,p,l,q,f]
 go_end0
 refine⟨rfl,?_,?_⟩
 ·exact((((((((Only.refl g o 8 w).setCell (o:=o) oM oM _).setCell (o:=o+1) oM oM _).setCell (o:=o+2) oM oM _).setCell (o:=o+3) oM oM _).setCell (o:=o+4) oM oM _).setCell (o:=o+5) oM oM _).setCell (o:=o+6) oM oM _).setCell (o:=o+7) oM oM _
 ·have:=Tx b j (UL (x/72057594037927936)) (UL (x/281474976710656)) (UL (x/1099511627776)) (UL (x/4294967296)) (UL (x/16777216)) (UL (x/65536)) (UL (x/256)) (UL x);unfold be8;rw[<-this];exact Holds.set (Holds.set (Holds.set (Holds.set (Holds.set (Holds.set (Holds.set (Holds.set m.out (i:=0) oM _) (i:=1) (by simp;omega) _) (i:=2) (by simp;omega) _) (i:=3) (by simp;omega) _) (i:=4) (by simp;omega) _) (i:=5) (by simp;omega) _) (i:=6) (by simp;omega) _) (i:=7) (by simp;omega) _
theorem cC(x:Nat):(be8 x).size=8:=rfl
theorem Al(a b c d:Nat):(be32 a b c d).size=32:=by simp only[be32,VM,cC]
theorem Holds.part{w:Uq}{g o p:Nat}{d e:Bs}(h:Holds encB w g o d)(c:p+e.size<=d.size)(b:∀j,j<e.size->e[j]! = d[p+j]!):Holds encB w g (o+p) e:=by
 intro j k;rw[b j k,WQ];exact h (p+j) oM
theorem Holds.join{w:Uq}{g:Nat}{a b c d:Nat}(n:Holds encB w g 0 (be8 d))(l:Holds encB w g 8 (be8 c))(f:Holds encB w g 16 (be8 b))(m:Holds encB w g 24 (be8 a)):Holds encB w g 0 (be32 a b c d):=by
 intro j i;rw[Al]at i;have e:be32 a b c d=be8 d++be8 c++be8 b++be8 a:=rfl;have s1:(be8 d++be8 c).size=16:=by simp only[VM,cC]
 have s2:(be8 d++be8 c++be8 b).size=24:=by simp only[VM,cC]
 by_cases k:j<8
 ·have:=n j (by rw[cC];exact k);rw[e,app_front _ _ j oM,<-getElem!_pos (be8 d++be8 c++be8 b) j oM,app_front _ _ j oM,<-getElem!_pos (be8 d++be8 c) j oM,app_front _ _ j (by rw[cC];exact k),<-getElem!_pos (be8 d) j (by rw[cC];exact k)];exact this
 ·by_cases o:j<16
  ·have:=l (j-8) (by rw[cC];omega);rw[show 8+(j-8)=0+j by omega]at this;rw[e,app_front _ _ j oM,<-getElem!_pos (be8 d++be8 c++be8 b) j oM,app_front _ _ j oM,<-getElem!_pos (be8 d++be8 c) j oM,app_back _ _ j (by rw[cC];omega) (by rw[cC,cC];omega),cC];exact this
  ·by_cases p:j<24
   ·have:=f (j-16) (by rw[cC];omega);rw[show 16+(j-16)=0+j by omega]at this;rw[e,app_front _ _ j oM,<-getElem!_pos (be8 d++be8 c++be8 b) j oM,app_back _ _ j oM (by rw[s1,cC];omega),s1];exact this
   ·have:=m (j-24) (by rw[cC];omega);rw[show 24+(j-24)=0+j by omega]at this;rw[e,app_back _ _ j oM (by rw[s2,cC];omega),s2];exact this
theorem TX(a b c d:Nat)(w:Uq):(ZL 47 (.agg #[uZ a,uZ b,uZ c,uZ d]) (iZ 0)).run prog w=.ok (uZ a) w:=kR
theorem TW(a b c d:Nat)(w:Uq):(ZL 47 (.agg #[uZ a,uZ b,uZ c,uZ d]) (iZ 1)).run prog w=.ok (uZ b) w:=kR
theorem TV(a b c d:Nat)(w:Uq):(ZL 47 (.agg #[uZ a,uZ b,uZ c,uZ d]) (iZ 2)).run prog w=.ok (uZ c) w:=kR
theorem TU(a b c d:Nat)(w:Uq):(ZL 47 (.agg #[uZ a,uZ b,uZ c,uZ d]) (iZ 3)).run prog w=.ok (uZ d) w:=kR
theorem nZ{w:Uq}{g:Nat}(p:Nat)(h:Holds encB w g 0 (UI 32 0))(b:p+8<=32):Holds encB w g p (UI 8 (0:UInt8)):=by
 have:=Holds.part (p:=p) (e:=UI 8 0) h (by simpa using b) (λj k=>by
  rw[UO]at k;rw[rep_at 8 j k,rep_at 32 (p+j) oM])
 rwa[UC]at this
theorem As(x:Us)(m:Nat)(w:Uq)(hx:Four x m):
 UG prog 117 #[x] w (rZ w λe w'=>∃g a b c d:Nat,e=sZ g 32 32/\w.heap.size<=g/\x=.agg #[uZ a,uZ b,uZ c,uZ d]/\Holds encB w' g 0 (be32 a b c d)):=by
 obtain⟨a,b,c,d,rfl,L,G,M,hd,I⟩:=hx;clear I;have N:∀w:Uq,(Instr.makeSlice 23 (iZ 32) (iZ 32)).run prog w=.ok (sZ w.heap.size 32 32) (w.alloc (.cells (madeCells #[.int .u8 0] 32) 5)):=
  run_make_row' (P:=prog) 23 5 (.int .u8 0) 1 slice22 info5 rfl .i64 .i64 32 oM oM
 go_enter func117,ntmps117;go_wp2;refine wp_loop_rounds 5 ?_;have f:Holds encB ((w.alloc (.cells #[uZ a,uZ b,uZ c,uZ d] 47)).alloc (.cells (madeCells #[.int .u8 0] 32) 5)) (w.heap.size+1) 0 (UI 32 0):=by
  have:=Holds.made (enc:=encB) (w.alloc (.cells #[uZ a,uZ b,uZ c,uZ d] 47)) 5 32 0;rw[UA]at this;exact this
 have o:=below2 w (.cells #[uZ a,uZ b,uZ c,uZ d] 47) (.cells (madeCells #[.int .u8 0] 32) 5);generalize ((w.alloc (.cells #[uZ a,uZ b,uZ c,uZ d] 47)).alloc (.cells (madeCells #[.int .u8 0] 32) 5))=W at f o⊢;have p:Hid (kZ w W):=o;generalize J:w.heap.size+1=g at f⊢;have s:=mk1 (J);have E:=nZ 24 f oM;have j:=nZ 16 f oM;have i:=nZ 8 f oM;have k:=nZ 0 f oM;have z:=TX a b c d;have A:=TW a b c d;have B:=TV a b c d;have F:=TU a b c d;rw[Xb];go_wp2_with (simp only[z])
 refine(kD g 24 8 8 a _ _ oM oM oM L (by rw[UO]) E).mono ?_;rintro e O ⟨rfl,t,b1⟩;replace j:=Holds.same j t (by simp);replace i:=Holds.same i t (by simp);replace k:=Holds.same k t (by simp);have n:=mk1 (p.trans (t.below p.size (by have:=s.out;omega)));go_wp2_with fail
 rw[Xb];go_wp2_with (simp only[A])
 refine(kD g 16 16 16 b _ _ oM oM oM G (by rw[UO]) j).mono ?_;rintro e S ⟨rfl,y,l⟩;replace i:=Holds.same i y (by simp);replace k:=Holds.same k y (by simp);replace b1:=Holds.same b1 y (by simp);have q:=mk1 (n.trans (y.below n.size (by have:=s.out;omega)));go_wp2_with fail
 rw[Xb];go_wp2_with (simp only[B])
 refine(kD g 8 24 24 c _ _ oM oM oM M (by rw[UO]) i).mono ?_;rintro e Q ⟨rfl,u,D⟩;replace k:=Holds.same k u (by simp);replace b1:=Holds.same b1 u (by simp);replace l:=Holds.same l u (by simp);have r:=mk1 (q.trans (u.below q.size (by have:=s.out;omega)));go_wp2_with fail
 rw[Xb];go_wp2_with (simp only[F])
 refine(kD g 0 32 32 d _ _ oM oM oM hd (by rw[UO]) k).mono ?_;rintro e R ⟨rfl,v,H⟩;replace b1:=Holds.same b1 v (by simp);replace l:=Holds.same l v (by simp);replace D:=Holds.same D v (by simp);have C:=mk1 (r.trans (v.below r.size (by have:=s.out;omega)));have K:=mk1 (Holds.join H D l b1);go_wp2_with fail
 rw[Xb];go_wp2
 go_ret;exact⟨_,rfl,C.out,g,a,b,c,d,rfl,by have:=s.out;omega,rfl,K.out⟩
theorem jH(a b t:Nat)(k:t<=56)(c:a<2^t)(f:b<256):bits .or .u64 (a:Int) ((b*2^t:Nat):Int)=((a+b*2^t:Nat):Int)/\a+b*2^t<2^(t+8):=by
 have j:2^t<=2^56:=Vz dC k;have d:b*2^t<=255*2^t:=Xr _ oM;have i:2^(t+8)=256*2^t:=by rw[Yp,Vu]
 have g:(2:Nat)^56=72057594037927936:=dC;have e:=YF c b;refine⟨?_,oM⟩;rw[bits_or_u64_nat _ _ oM oM,yBU,Vu b,<-e,Nat.add_comm]
theorem pQ(b:UInt8)(t:Nat)(k:t<=56):Vn.wrap (Vn.wrap (ub b)*((2^t:Nat):Int))=((b.toNat*2^t:Nat):Int):=by
 have f:=b.toNat_lt;have e:2^t<=2^56:=Vz dC k;have c:b.toNat*2^t<=255*2^t:=Xr _ oM;have d:(2:Nat)^56=72057594037927936:=dC;unfold ub;rw[wrapN _ oM,mulN,wrapN _ oM]
def w8(b0 b1 b c d f e k:UInt8):Nat:=
 k.toNat+e.toNat*256+f.toNat*65536+d.toNat*16777216+c.toNat*4294967296+b.toNat*1099511627776+b1.toNat*281474976710656+b0.toNat*72057594037927936
theorem Eo(b0 b1 b c d f e k:UInt8):w8 b0 b1 b c d f e k<18446744073709551616:=by
 have:=b0.toNat_lt;have:=b1.toNat_lt;have:=b.toNat_lt;have:=c.toNat_lt
 have:=d.toNat_lt;have:=f.toNat_lt;have:=e.toNat_lt;have:=k.toNat_lt
 unfold w8;omega
theorem KT(b0 b1 e f b d c k:UInt8):
 bits .or .u64 (bits .or .u64 (bits .or .u64 (bits .or .u64 (bits .or .u64 (bits .or .u64 (bits .or .u64 (Vn.wrap (ub k)) (Vn.wrap (Vn.wrap (ub c)*256)))
  (Vn.wrap (Vn.wrap (ub d)*65536))) (Vn.wrap (Vn.wrap (ub b)*16777216))) (Vn.wrap (Vn.wrap (ub f)*4294967296)))
  (Vn.wrap (Vn.wrap (ub e)*1099511627776))) (Vn.wrap (Vn.wrap (ub b1)*281474976710656))) (Vn.wrap (Vn.wrap (ub b0)*72057594037927936))=((w8 b0 b1 e f b d c k:Nat):Int):=by
 have C:=k.toNat_lt;have u:Vn.wrap (ub k)=(k.toNat:Int):=wrapN _ oM;have x:=pQ c 8 dC;have v:=pQ d 16 dC;have e3:=pQ b 24 dC;have j:=pQ f 32 dC;have y:=pQ e 40 dC;have p:=pQ b1 48 dC;have l:=pQ b0 56 dC;obtain⟨m,r⟩:=jH k.toNat c.toNat 8 dC oM (by have:=c.toNat_lt;omega);obtain⟨A,n⟩:=jH _ d.toNat 16 dC r (by have:=d.toNat_lt;omega);obtain⟨o,i⟩:=jH _ b.toNat 24 dC n (by have:=b.toNat_lt;omega);obtain⟨z,q⟩:=jH _ f.toNat 32 dC i (by have:=f.toNat_lt;omega);obtain⟨g,a⟩:=jH _ e.toNat 40 dC q (by have:=e.toNat_lt;omega);obtain⟨t,s⟩:=jH _ b1.toNat 48 dC a (by have:=b1.toNat_lt;omega);obtain⟨w,B⟩:=jH _ b0.toNat 56 dC s (by have:=b0.toNat_lt;omega);rw[show(256:Int)=((2^8:Nat):Int) from rfl,show(65536:Int)=((2^16:Nat):Int) from rfl,show(16777216:Int)=((2^24:Nat):Int) from rfl,
  show(4294967296:Int)=((2^32:Nat):Int) from rfl,show(1099511627776:Int)=((2^40:Nat):Int) from rfl,show(281474976710656:Int)=((2^48:Nat):Int) from rfl,show(72057594037927936:Int)=((2^56:Nat):Int) from rfl,
  u,x,v,e3,j,y,p,l,m,A,o,z,g,t,w]
 rfl
theorem word_any(g o n cap:Nat)(k:Bs)(w:Uq)(B:8<=n)(F:n<=cap)(c:cap<=1048576)(x:8<=k.size)(b:Holds encB w g o k):
 UG prog 195 #[.slice (some ⟨g,o,none⟩) n cap] w λe w'=>e=.returned (.int .u64 ((w8 k[0]! k[1]! k[2]! k[3]! k[4]! k[5]! k[6]! k[7]!:Nat):Int))/\∃n,w'=w.drewN n:=by
 obtain⟨p,r⟩:=b 0 oM;obtain⟨c1,t⟩:=b 1 oM;obtain⟨c2,f2⟩:=b 2 oM;obtain⟨s,y⟩:=b 3 oM;obtain⟨v,E⟩:=b 4 oM;obtain⟨C,z⟩:=b 5 oM;obtain⟨u,D⟩:=b 6 oM;obtain⟨A,a⟩:=b 7 oM;rw[XA]at p r;unfold encB at *;generalize k[0]! = b0 at *;generalize k[1]! = b1 at *;generalize k[2]! = j at *;generalize k[3]! = l at *;generalize k[4]! = d at *;generalize k[5]! = i at *;generalize k[6]! = f at *;generalize k[7]! = q at *;have m:=mk1 (KT b0 b1 j l d i f q);go_enter func195,ntmps195;go_wp2;go_quiet (fail);go_wp2;go_ret;exact⟨ret_int m.out,_,rfl⟩
def beV(l:List UInt8):Nat:=l.foldl (λn b=>256*n+b.toNat) 0
theorem DU(l:List UInt8):∀n,l.foldl (λn b=>256*n+b.toNat) n=n*256^l.length+beV l:=by
 induction l with
 | nil=>intro n;simp[beV]
 | cons x r ih =>
  intro n;have c:=ih (256*n+x.toNat);have k:=ih (256*0+x.toNat);simp only[yBd,List.length_cons,beV]at *;rw[c,k,V6,Nat.add_mul,ZP,UC,Vu 256 n,X0,Vu 256];omega
theorem jP(l r:List UInt8):beV (l++r)=beV l*256^r.length+beV r:=by
 rw[beV,List.foldl_append,DU];rfl
theorem G8(n:Nat)(l:List UInt8):beV (VA n 0++l)=beV l:=by
 rw[jP];have:beV (VA n 0)=0:=by
  induction n with
  | zero=>rfl
  | succ k ih=>rw[List.replicate_succ',jP,ih];rfl
 rw[this,Nat.zero_mul,UC]
theorem J5(r v u z x t s a y w f j d g c q x16 x17 o n m x21 k x23 b l x26 x27 i p x30 e:UInt8):
 beV [r,v,u,z,x,t,s,a,y,w,f,j,d,g,c,q,x16,x17,o,n,m,x21,k,x23,b,l,x26,x27,i,p,x30,e]
  = val (w8 b l x26 x27 i p x30 e) (w8 x16 x17 o n m x21 k x23) (w8 y w f j d g c q) (w8 r v u z x t s a):=by
 simp only[beV,yBd,List.foldl_nil,w8,val];omega
theorem G9(k:Bs)(h:k.size=32):beV k.toList=val (w8 k[24]! k[25]! k[26]! k[27]! k[28]! k[29]! k[30]! k[31]!) (w8 k[16]! k[17]! k[18]! k[19]! k[20]! k[21]! k[22]! k[23]!)
 (w8 k[8]! k[9]! k[10]! k[11]! k[12]! k[13]! k[14]! k[15]!) (w8 k[0]! k[1]! k[2]! k[3]! k[4]! k[5]! k[6]! k[7]!):=by
 obtain⟨l⟩:=k;match l,h with
 | [x0,x1,x2,x3,x4,x5,x6,x7,x8,x9,x10,x11,x12,x13,x14,x15,x16,x17,x18,x19,x20,x21,x22,x23,x24,x25,x26,x27,x28,x29,x30,x31],_=>exact J5 x0 x1 x2 x3 x4 x5 x6 x7 x8 x9 x10 x11 x12 x13 x14 x15 x16 x17 x18 x19 x20 x21 x22 x23 x24 x25 x26 x27 x28 x29 x30 x31
theorem zero32:∀w:Uq,(zeroValue 273).run prog w=.ok (.agg (UI 32 (.int .u8 0))) w:=λ_=>kR
theorem ints5:(prog.info? 5).map (·.size)=some 1:=kR
def padded(n:Nat)(k:Bs):Bs:=UI (32-n) 0++k
theorem tY(n:Nat)(k:Bs)(c:k.size=n)(b:n<=32):(padded n k).size=32:=by
 unfold padded;rw[VM,UO];omega
theorem Dv(n:Nat)(k:Bs):beV (padded n k).toList=beV k.toList:=by
 unfold padded;rw[Array.toList_append,Array.toList_replicate,G8]
theorem MQ{w:Uq}{b g o n cap:Nat}{c:Bs}(i:Holds encB w b 0 (UI 32 0))(q:n<=32)(s:Holds encB w g o c)(l:c.size=n):
 (XY #[23,23] 3 #[.slice (some ⟨b,32-n,none⟩) n n,.slice (some ⟨g,o,none⟩) n cap]).run prog w=.ok (goInt n) (w.setCells b (32-n) (c.toList.map encB))
  /\ Holds encB (w.setCells b (32-n) (c.toList.map encB)) b 0 (padded n c):=by
 have k:(c.toList.map encB).length=n:=by rw[UP,Array.length_toList,l]
 refine⟨?_,?_⟩
 ·have:=run_copy_cells (P:=prog) w 23 23 3 5 b (32-n) n n ⟨g,o,none⟩ n cap (c.toList.map encB) slice22 ints5 (by rw[k];exact(Nat.min_self n).symm)
   (λj u d=>by
    obtain⟨f,e⟩:=List.getElem?_eq_some_iff.1 d;rw[k]at f;have p:=(s j oM).1;rw[getElem!_pos c j oM]at p;rw[Xc,XD]at e;have t:(⟨g,o,none⟩:Addr).add j=⟨g,o+j,none⟩:=by
     unfold Zi;by_cases m:j=0
     ·subst m;rw[yCj rfl];rfl
     ·rw[yCk m]
    rw[t,p,e])
   (λj d=>by
    have:=(i (32-n+j) (by rw[UO];omega)).1;rw[UC]at this;rw[this];rfl)
   (λj d=>by
    have:=(i (32-n+j) (by rw[UO];omega)).2;rwa[UC]at this)
   (λu m=>by obtain⟨x,_,rfl⟩:=List.mem_map.1 m;rfl)
  rw[k]at this;exact this
 ·have:=Holds.setCells (r:=padded n c) i (c.toList.map encB) (32-n) (by rw[tY n c l q,UO]) (by rw[k,UO];omega) (λj d=>?_) (λj f e=>?_)
  ·rw[UC]at this;exact this
  ·rw[k]at d;rw[Xc,XD];unfold padded;rw[app_back _ _ _ (by rw[UO];omega) (by rw[UO];omega),UO,show 32-n+j-(32-n)=j by omega,getElem!_pos c j oM]
  ·rw[UO]at f;rw[k]at e;unfold padded;rw[app_front _ _ j (by rw[UO];omega),Wv,rep_at 32 j f]
theorem EL{w:Uq}{g:Nat}{T:Bs}(p:Nat)(h:Holds encB w g 0 T)(b:p+8<=T.size):Holds encB w g p #[T[p]!,T[p+1]!,T[p+2]!,T[p+3]!,T[p+4]!,T[p+5]!,T[p+6]!,T[p+7]!]:=by
 have:=Holds.part (p:=p) (e:=#[T[p]!,T[p+1]!,T[p+2]!,T[p+3]!,T[p+4]!,T[p+5]!,T[p+6]!,T[p+7]!]) h (by simpa using b) (λj k=>by
  have:j<8:=by simpa using k
  match j,this with
  | 0,_=>rfl
  | 1,_=>rfl
  | 2,_=>rfl
  | 3,_=>rfl
  | 4,_=>rfl
  | 5,_=>rfl
  | 6,_=>rfl
  | 7,_=>rfl)
 rwa[UC]at this
theorem nQ(g o n cap:Nat)(b0 b1 f i b d c j:UInt8)(w:Uq)(l:8<=n)(p:n<=cap)(k:cap<=1048576)(m:Holds encB w g o #[b0,b1,f,i,b,d,c,j]):
 UG prog 195 #[.slice (some ⟨g,o,none⟩) n cap] w λe w'=>e=.returned (uZ ((w8 b0 b1 f i b d c j:Nat):Int))/\∃n,w'=w.drewN n:=
 word_any g o n cap #[b0,b1,f,i,b,d,c,j] w l p k (Uv 8) m
theorem Holds.far{w:Uq}{g o j i:Nat}{k:Bs}(h:Holds encB w g o k)(c:j≠g)(v:Us):Holds encB (w.setCell ⟨j,i,none⟩ v) g o k:=by
 intro l b;rw[UT _ _ _ _ (bH (U3 c)),VK];exact h l b
theorem kK(a:Option Addr)(g o n cap:Nat)(m:Bs)(w:Uq)(hn:n<=32)(hc:n<=cap)(hs:m.size=n)(Y:n=0\/(a=some ⟨g,o,none⟩/\Holds encB w g o m)):
 UG prog 125 #[.slice a n cap] w (rZ w λe w'=>Four e (beV m.toList)):=by
 have O:=tY n m hs hn;have z:=mk1 ((Dv n m).symm.trans (G9 _ O));have zv:=zero32;have h5:(n:Int)<=32:=oM;have d0:(0:Int)<=32-(n:Int):=oM;have d1:(32:Int)-(n:Int)<=32:=oM;have d2:((32:Int)-(n:Int)).toNat=32-n:=oM;go_enter func125,ntmps125
 go_upto_region 2 with fail
 have R:=(At4.made w 47 0 0 0 0 rfl).alloc (.cells (UI 32 (.int .u8 0)) 273);have Z:Holds encB ((w.alloc (.cells #[uZ 0,uZ 0,uZ 0,uZ 0] 47)).alloc (.cells (UI 32 (.int .u8 0)) 273)) (w.heap.size+1) 0 (UI 32 0):=by
  have:=Holds.new (enc:=encB) (w.alloc (.cells #[uZ 0,uZ 0,uZ 0,uZ 0] 47)) 273 (UI 32 0);rw[Array.map_replicate,UA]at this;exact this
 have BL:=below2 w (.cells #[uZ 0,uZ 0,uZ 0,uZ 0] 47) (.cells (UI 32 (.int .u8 0)) 273);simp only[WG]at R;have F:n=0\/(a=some ⟨g,o,none⟩/\Holds encB ((w.alloc (.cells #[uZ 0,uZ 0,uZ 0,uZ 0] 47)).alloc (.cells (UI 32 (.int .u8 0)) 273)) g o m):=by
  rcases Y with h|⟨h1,b⟩
  ·exact U3 h
  ·by_cases B:n=0
   ·exact U3 B
   ·exact UW ⟨h1,Holds.below b BL (Holds.lt b oM)⟩
 clear Y;generalize Xs _ _=V at R Z BL F⊢
 go_cut [] (λwx=>Holds encB wx (w.heap.size+1) 0 (padded n m)/\At4 wx w.heap.size 0 0 0 0/\kZ w wx)
 case first =>
  by_cases B:n=0
  ·subst B;have c:∀w d b dc,(XY #[23,23] 3 #[.slice d b dc,.slice a 0 cap]).run prog w=.ok (goInt 0) w:=λw d b dc=>run_copy_none w 23 23 3 5 d a b dc 0 cap slice22 ints5 (by simp)
   have f:padded 0 m=UI 32 0:=by
    have:m=#[]:=Array.eq_empty_of_size_eq_zero hs;rw[this];rfl
   go_wp2
   go_meet
   exact⟨by rw[f];exact Z,R,BL⟩
  ·obtain⟨rfl,Y⟩:a=some ⟨g,o,none⟩/\Holds encB V g o m:=F.resolve_left B;obtain⟨c,j⟩:=MQ (cap:=cap) Z hn Y hs;have l:32-(32-n)=n:=oM;have f:At4 (V.setCells (w.heap.size+1) (32-n) (m.toList.map encB)) w.heap.size 0 0 0 0:=by
    have b:=heap_setCells (w.heap.size+1) (k:=w.heap.size) oM (m.toList.map encB) (32-n) V;exact⟨by rw[<-R.c0];exact UV b,by rw[<-R.c1];exact UV b,by rw[<-R.c2];exact UV b,by rw[<-R.c3];exact UV b,λo=>by rw[<-R.f o];exact World.frozen?_of_block b⟩
   have y:kZ w (V.setCells (w.heap.size+1) (32-n) (m.toList.map encB)):=below_setCells (Zl _) _ _ _ BL;have b:=mk3 j f y;go_wp2
   go_meet
   exact b.out
 case rest =>
  obtain⟨C,f,y⟩:=hcut;generalize padded n m=T at C O z⊢;have P:=EL 24 C oM;have p2:=EL 16 C oM;have p1:=EL 8 C oM;have p0:=EL 0 C oM;have zk:=f.lt;have q:=Holds.lt C oM;generalize H:w8 T[24]! T[25]! T[26]! T[27]! T[28]! T[29]! T[30]! T[31]! = x at z;generalize I:w8 T[16]! T[17]! T[18]! T[19]! T[20]! T[21]! T[22]! T[23]! = E at z;generalize G:w8 T[8]! T[9]! T[10]! T[11]! T[12]! T[13]! T[14]! T[15]! = K at z;generalize L:w8 T[0]! T[1]! T[2]! T[3]! T[4]! T[5]! T[6]! T[7]! = r at z;have l3:=H ▸ Eo _ _ _ _ _ _ _ _;have l2:=I ▸ Eo _ _ _ _ _ _ _ _;have l1:=G ▸ Eo _ _ _ _ _ _ _ _;have l0:=L ▸ Eo _ _ _ _ _ _ _ _;go_wp2;have N:=At4.made wc 47 0 0 0 0 rfl;simp only[WG]at N;replace P:=Holds.below P (aC wc (.cells #[uZ 0,uZ 0,uZ 0,uZ 0] 47)) q;replace p2:=Holds.below p2 (aC wc (.cells #[uZ 0,uZ 0,uZ 0,uZ 0] 47)) q;replace p1:=Holds.below p1 (aC wc (.cells #[uZ 0,uZ 0,uZ 0,uZ 0] 47)) q;replace p0:=Holds.below p0 (aC wc (.cells #[uZ 0,uZ 0,uZ 0,uZ 0] 47)) q;have BL:=mk1 (y.alloc (XJ zk) (.cells #[uZ 0,uZ 0,uZ 0,uZ 0] 47));replace f:=f.alloc (.cells #[uZ 0,uZ 0,uZ 0,uZ 0] 47);have A:w.heap.size≠wc.heap.size:=oM;have t:w.heap.size+1≠wc.heap.size:=oM;have Q:Hid (w.heap.size<=wc.heap.size):=by unfold Hid;omega
  generalize wc.heap.size=X at N A t Q⊢;generalize h1:w.heap.size+1=W at P p2 p1 p0 t⊢;generalize B:w.heap.size=U at f A BL Q⊢;have H0:=mk1 (B);refine wp_loop_rounds 5 ?_;obtain⟨j,l,b,c,s⟩:=id N;have u:=N.lt;rw[Xb];go_wp2_with fail
  refine(nQ W 24 8 8 _ _ _ _ _ _ _ _ _ dC dC dC P).mono ?_;rintro e w1 ⟨rfl,D,rfl⟩;rw[H];replace N:=N.drewN D;obtain⟨j,l,b,c,s⟩:=id N;have u:=N.lt;go_wp2_with fail
  replace N:=N.set0 x;replace f:=(f.drewN D).other (o:=0) A.symm (uZ x);replace BL:Hid (Below U w _):=(mK BL.out D).setCell (p:=⟨X,0,none⟩) Q.out (uZ x);replace p2:=Holds.far (Holds.drewN p2 D) (i:=0) t.symm (uZ x);replace p1:=Holds.far (Holds.drewN p1 D) (i:=0) t.symm (uZ x);replace p0:=Holds.far (Holds.drewN p0 D) (i:=0) t.symm (uZ x);obtain⟨j,l,b,c,s⟩:=id N;have u:=N.lt;rw[Xb];go_wp2_with fail
  refine(nQ W 16 16 16 _ _ _ _ _ _ _ _ _ dC dC dC p2).mono ?_;rintro e w1 ⟨rfl,M,rfl⟩;rw[I];replace N:=N.drewN M;obtain⟨j,l,b,c,s⟩:=id N;have u:=N.lt;go_wp2_with fail
  replace N:=N.set1 E;replace f:=(f.drewN M).other (o:=1) A.symm (uZ E);replace BL:Hid (Below U w _):=(mK BL.out M).setCell (p:=⟨X,1,none⟩) Q.out (uZ E);replace p1:=Holds.far (Holds.drewN p1 M) (i:=1) t.symm (uZ E);replace p0:=Holds.far (Holds.drewN p0 M) (i:=1) t.symm (uZ E);obtain⟨j,l,b,c,s⟩:=id N;have u:=N.lt;rw[Xb];go_wp2_with fail
  refine(nQ W 8 24 24 _ _ _ _ _ _ _ _ _ dC dC dC p1).mono ?_;rintro e w1 ⟨rfl,S,rfl⟩;rw[G];replace N:=N.drewN S;obtain⟨j,l,b,c,s⟩:=id N;have u:=N.lt;go_wp2_with fail
  replace N:=N.set2 K;replace f:=(f.drewN S).other (o:=2) A.symm (uZ K);replace BL:Hid (Below U w _):=(mK BL.out S).setCell (p:=⟨X,2,none⟩) Q.out (uZ K);replace p0:=Holds.far (Holds.drewN p0 S) (i:=2) t.symm (uZ K);obtain⟨j,l,b,c,s⟩:=id N;have u:=N.lt;rw[Xb];go_wp2_with fail
  refine(nQ W 0 32 32 _ _ _ _ _ _ _ _ _ dC dC dC p0).mono ?_;rintro e w1 ⟨rfl,q3,rfl⟩;rw[L];replace N:=N.drewN q3;obtain⟨j,l,b,c,s⟩:=id N;have u:=N.lt;go_wp2_with fail
  replace N:=N.set3 r;replace f:=(f.drewN q3).other (o:=3) A.symm (uZ r);replace BL:Hid (Below U w _):=(mK BL.out q3).setCell (p:=⟨X,3,none⟩) Q.out (uZ r);obtain⟨j,l,b,c,s⟩:=id N;have u:=N.lt;obtain⟨h4,h7,h3,h6,rf⟩:=id f;have zr:=f.lt;rw[Xb];go_wp2
  have J:=f.self4 x E K r;unfold set4 at J;refine UD (v:=?v) ?hr rfl ?hR
  case hr=>simp[results,Tryz.results125,go_sem,J.c0,J.c1,J.c2,J.c3];rfl
  refine⟨_,rfl,?_,Four.mk l3 l2 l1 l0 z.out⟩;rw[H0.out];exact aL BL.out (Uv _) _ _ _ _
theorem rP(m f j P:Nat)(hG:Gap m f j P)(w:Uq):
 UG prog 222 #[.agg #[uZ m,uZ f,uZ j,uZ 0]] w (rZ w λe w'=>Four e P):=by
 have r:=hG.hg;go_enter func222,ntmps222;go_wp2_with fail
 have R:=At4.made (w.alloc (.cells #[uZ m,uZ f,uZ j,uZ 0] 120)) 47 0 0 0 0 (UA _ _);have BL:=below2 w (.cells #[uZ m,uZ f,uZ j,uZ 0] 120) (.cells #[uZ 0,uZ 0,uZ 0,uZ 0] 47);simp only[WG]at R;refine(sL _ _ 0 _ (Four.mk (a:=0) (b:=0) (c:=0) (d:=0) dC dC dC dC rfl) (Four.mk hG.h0 hG.h1 hG.h2 dC rfl) _).mono ?_;rintro e C ⟨v,rfl,l,v2,t,k,rfl,n,D,o⟩;replace o:t+val m f j 0=0+top*k:=o;have q:t=P:=by
  have i:=n.lt;have g:=hG.hP;have:k=0\/k=1:=oM;rcases this with h|h<;>rw[h]at o<;>omega
 subst q;replace R:=R.call l;have p:=mk1 (BL.trans (l.mono BL.size));obtain⟨a,b,c,d,rfl,E,B,G,hd,I⟩:=id n;have z:=R.lt;go_wp2_with fail
 refine(jI _ _ n _).mono ?_;rintro e y ⟨F,rfl,g,rfl⟩;replace p:Hid (kZ w y):=(p.alloc oM _).trans (g.mono (by simp;omega));replace R:=(R.alloc _).call g;obtain⟨A,u,x,s,H⟩:=id R;have z:=R.lt;go_wp2;have i:=R.self4 a b c d;unfold set4 at i;refine UD (v:=?v) ?hr rfl ?hR
 case hr=>simp[results,Tryz.results222,go_sem,i.c0,i.c1,i.c2,i.c3];rfl
 exact⟨_,rfl,aL p.out (Zl _) _ _ _ _,n⟩
theorem NG(w:Uq)(t0 t1 t2:U7)(a b c d e f g h i j k l:Nat):
 Kept w w.heap.size [⟨w.heap.size,0,a,b,c,d⟩,⟨w.heap.size+1,0,e,f,g,h⟩,⟨w.heap.size+1+1,0,i,j,k,l⟩]
  (((w.alloc (.cells #[uZ a,uZ b,uZ c,uZ d] t0)).alloc (.cells #[uZ e,uZ f,uZ g,uZ h] t1)).alloc (.cells #[uZ i,uZ j,uZ k,uZ l] t2)):=by
 refine(((Kept.mk1 (below3 w _ _ _) (below3 w _ _ _).size).cons ?_).cons ?_).cons ?_
 ·exact(At4.made _ t2 i j k l (by simp)).blk
 ·exact((At4.made _ t1 e f g h (by simp)).alloc _).blk
 ·exact(((At4.made _ t0 a b c d rfl).alloc _).alloc _).blk
theorem uJ(f g i P:Nat)(x:Us)(m:Nat)(hG:Gap f g i P)(j:2<=P%18446744073709551616)(hx:Four x m)(w:Uq):
 UG prog 185 #[.agg #[uZ f,uZ g,uZ i,uZ 0],x] w (rZ w λe w'=>Four e (m^(P-2)%P)):=by
 obtain⟨a,b,c,d,rfl,J,L,K,hd,M⟩:=id hx;have HX:Hid (Four _ m):=hx;have B:Hid (Gap f g i P):=hG;clear M hx J L K hd hG;go_enter func185,ntmps185;go_wp2_with fail
 have k:=NG w 120 47 47 f g i 0 a b c d 0 0 0 0;simp only[WG]at k;generalize Xs _ _=W0 at k⊢;generalize h2:w.heap.size+1+1=k2 at k⊢;generalize h1:w.heap.size+1=k1 at k⊢;have z:Hid (w.heap.size<=k2):=by unfold Hid;omega
 generalize h0:w.heap.size=k0 at k z⊢;have H0:=mk1 (h0);refine(rP f g i P B.out _).mono ?_;rintro e w1 ⟨v,rfl,r,o⟩;obtain⟨u,pb,D,I,rfl,h3,t,s,y,A⟩:=id o;replace k:=k.call r;have G:2<=u:=by rw[A]at j;unfold val at j;omega
 obtain⟨p,l⟩:∃p,u=p+2:=⟨u-2,oM⟩
 have HE:Hid (Four (.agg #[uZ p,uZ pb,uZ D,uZ I]) (P-2)):=by
  refine Four.mk oM t s y ?_;rw[A,l];unfold val;omega
 have hw:=wrapN p oM;obtain⟨U,Y,X,C,xf⟩:=k.tail.head.at4;have zx:=k.tail.head.lt;obtain⟨V,F,N,Z,pf⟩:=k.head.at4;have zp:=k.head.lt;have n1:=Xj zx;have n0:=Xj zp;go_wp2_with fail
 refine(zO f g i P _ _ _ _ B.out HX.out HE.out _).mono ?_;rintro e w2 ⟨v,rfl,q,o⟩;replace k:=(k.alloc _).call q;obtain⟨qa,W,Q,T,rfl,O,h4,h7,S,eQ⟩:=id o;have R:=mk1 (o);obtain⟨H,h6,E,h5,rf⟩:=k.tail.tail.head.at4;have zr:=k.tail.tail.head.lt;go_wp2;have n:=k.tail.tail.head.at4.self4 qa W Q T;unfold set4 at n;refine UD (v:=?v) ?hr rfl ?hR
 case hr=>simp[results,Tryz.results185,go_sem,n.c0,n.c1,n.c2,n.c3];rfl
 refine⟨_,rfl,?_,R.out⟩;rw[H0.out];exact aL k.bl z.out _ _ _ _
theorem QA:prog.underlying 22=some (.int .u64):=kR
theorem Ti:∀w,(sizeOf 22).run prog w=.ok 1 w:=λ_=>kR
theorem Tb:prog.underlying 47=some (.array 4 22):=kR
theorem Fu(D:Nat)(a b c d p q r s:Nat)(w:Uq):
 (yCa (D+1+1) 47 (.agg #[uZ a,uZ b,uZ c,uZ d]) (.agg #[uZ p,uZ q,uZ r,uZ s])).run prog w=.ok (decide (a=p/\b=q/\c=r/\d=s)) w:=by
 have k:=λ(x y:Nat)=>run_equalIn_int (P:=prog) w D 22 .u64 .u64 (x:Int) (y:Int) QA
 rw[yCa];simp only[Sem.run_bind,run_underlying Tb,Vl,Ti];simp only[Std.Legacy.Range.forIn_eq_forIn_range',Std.Legacy.Range.size,List.range',List.forIn_cons,List.forIn_nil];by_cases e:a=p
 ·by_cases f:b=q
  ·by_cases g:c=r
   ·by_cases i:d=s
    ·simp[e,f,g,i,part,k]
    ·simp[e,f,g,i,part,k];omega
   ·simp[e,f,g,part,k];omega
  ·simp[e,f,part,k];omega
 ·simp[e,part,k];omega
theorem Rm(a b c d p q r s:Nat)(w:Uq):
 (binOp .neq 47 (.agg #[uZ a,uZ b,uZ c,uZ d]) (.agg #[uZ p,uZ q,uZ r,uZ s])).run prog w=.ok (.bool (!decide (a=p/\b=q/\c=r/\d=s))) w:=by
 rw[run_neq_struct,Fu 9998];rfl
theorem OK(a b c d:Nat)(w:Uq):(binOp .neq 47 (.agg #[uZ a,uZ b,uZ c,uZ d]) (.agg #[uZ a,uZ b,uZ c,uZ d])).run prog w=.ok (.bool false) w:=by
 rw[Rm,decide_eq_true ⟨rfl,rfl,rfl,rfl⟩];rfl
theorem Mn{a b c d p q r s:Nat}(h:¬(a=p/\b=q/\c=r/\d=s))(w:Uq):(binOp .neq 47 (.agg #[uZ a,uZ b,uZ c,uZ d]) (.agg #[uZ p,uZ q,uZ r,uZ s])).run prog w=.ok (.bool true) w:=by
 rw[Rm,decide_eq_false h];rfl
theorem O1(a b:Nat)(d:a<18446744073709551616):bits .or .u64 ((a/4:Nat):Int) ((b*4611686018427387904%18446744073709551616:Nat):Int)=((a/4+b*4611686018427387904%18446744073709551616:Nat):Int)/\a/4+b*4611686018427387904%18446744073709551616<18446744073709551616:=by
 have c:b*4611686018427387904%18446744073709551616=2^62*(b%4):=oM;have k:=YF (i:=62) (b:=a/4) oM (b%4);rw[bits_or_u64_nat _ _ oM oM,c,yBU,<-k];omega
theorem BX(x:Us)(m:Nat)(hx:Four x m)(w:Uq):
 UG prog 226 #[x] w (rZ w λe w'=>Four e (m/4)):=by
 obtain⟨a,b,c,d,rfl,s,r,t,hd,o⟩:=id hx;obtain⟨g,l⟩:=O1 a b s;obtain⟨f,p⟩:=O1 b c r;obtain⟨i,n⟩:=O1 c d t;have k:=Dp a b c d;rw[<-o]at k;have s0:(a:Int)/4=((a/4:Nat):Int):=oM;have s1:(b:Int)/4=((b/4:Nat):Int):=oM;have s2:(c:Int)/4=((c/4:Nat):Int):=oM;have s3:(d:Int)/4=((d/4:Nat):Int):=oM;have t1:Vn.wrap ((b:Int)*4611686018427387904)=((b*4611686018427387904%18446744073709551616:Nat):Int):=by rw[XT];omega
 have t2:Vn.wrap ((c:Int)*4611686018427387904)=((c*4611686018427387904%18446744073709551616:Nat):Int):=by rw[XT];omega
 have q:Vn.wrap ((d:Int)*4611686018427387904)=((d*4611686018427387904%18446744073709551616:Nat):Int):=by rw[XT];omega
 have j:d/4<18446744073709551616:=oM;generalize a/4+b*4611686018427387904%18446744073709551616=B at g l k;generalize b/4+c*4611686018427387904%18446744073709551616=C at f p k;generalize c/4+d*4611686018427387904%18446744073709551616=D at i n k;generalize b*4611686018427387904%18446744073709551616=v1 at g t1;generalize c*4611686018427387904%18446744073709551616=v2 at f t2;generalize d*4611686018427387904%18446744073709551616=y at i q;generalize a/4=E at g s0;generalize b/4=z at f s1;generalize c/4=A at i s2;generalize d/4=F at s3 j k;have u:Hid _:=k;clear k o hx;go_enter func226,ntmps226;go_wp2;refine UD (v:=?v) ?hr rfl ?hR
 case hr=>simp[results,Tryz.results226,go_sem];rfl
 exact⟨_,rfl,below2 _ _ _,Four.mk l p n j u.symm⟩
theorem F6(x:Us)(m:Nat)(hx:Four x m)(w:Uq):
 UG prog 116 #[x] w (rZ w λe w'=>e=.bool (decide (m%2=1))):=by
 obtain⟨a,b,c,d,rfl,g,j,l,hd,k⟩:=id hx;have ho:=and_one a g;have i:m%2=a%2:=by rw[k];unfold val;omega
 rw[i];have f:a%2=0\/a%2=1:=oM;rcases f with h|h
 ·rw[h]at ho⊢;go_enter func116,ntmps116;go_wp2;go_ret;exact⟨_,rfl,aC _ _,rfl⟩
 ·rw[h]at ho⊢;go_enter func116,ntmps116;go_wp2;go_ret;exact⟨_,rfl,aC _ _,rfl⟩
theorem qR{w W:Uq}{k f o e a b c d g n l rd m j i:Nat}(h:Kept w k [⟨k,0,m,j,i,0⟩,⟨e,0,g,n,l,rd⟩,⟨f,0,a,b,c,d⟩,⟨o,0,0,0,0,0⟩] W):W.cell? ⟨k,0,none⟩=some (uZ m)/\W.cell? ⟨k,1,none⟩=some (uZ j)/\W.cell? ⟨k,2,none⟩=some (uZ i)/\W.cell? ⟨k,3,none⟩=some (uZ 0)/\W.cell? ⟨e,0,none⟩=some (uZ g)/\W.cell? ⟨e,1,none⟩=some (uZ n)/\W.cell? ⟨e,2,none⟩=some (uZ l)/\W.cell? ⟨e,3,none⟩=some (uZ rd)/\W.cell? ⟨f,0,none⟩=some (uZ a)/\W.cell? ⟨f,1,none⟩=some (uZ b)/\W.cell? ⟨f,2,none⟩=some (uZ c)/\W.cell? ⟨f,3,none⟩=some (uZ d)/\Kept w k [⟨k,0,m,j,i,0⟩,⟨e,0,g,n,l,rd⟩,⟨f,0,a,b,c,d⟩,⟨o,0,0,0,0,0⟩] W:=
 ⟨h.head.c0,h.head.c1,h.head.c2,h.head.c3,h.tail.head.c0,h.tail.head.c1,h.tail.head.c2,h.tail.head.c3,h.tail.tail.head.c0,h.tail.tail.head.c1,h.tail.tail.head.c2,h.tail.tail.head.c3,h⟩
theorem four_ne{a b c d m n:Nat}{v:Us}(h:Four v n)(e:Four (.agg #[uZ a,uZ b,uZ c,uZ d]) m)(k:¬n=m):
 ∃p q r s:Nat,v=.agg #[uZ p,uZ q,uZ r,uZ s]/\¬(p=a/\q=b/\r=c/\s=d):=by
 obtain⟨p,q,r,s,rfl,f⟩:=id h;refine⟨p,q,r,s,rfl,?_⟩;rintro⟨rfl,rfl,rfl,rfl⟩;exact k (h.num e)
def even(P r:Nat):Nat:=if r%2=1 then P-r else r
def RootR(P m R:Nat)(e:Us):Prop:=∃(c d k b:Nat) (ok:Bool),e=.tuple #[.agg #[uZ c,uZ d,uZ k,uZ b],.bool ok] /\
 (ok=true->R*R%P=m/\Four (.agg #[uZ c,uZ d,uZ k,uZ b]) (even P R))/\(ok=false->¬R*R%P=m)/\(ok=false->c=0/\d=0/\k=0/\b=0)
theorem RootR.yes{P m R c d k b:Nat}(h:R*R%P=m)(e:Four (.agg #[uZ c,uZ d,uZ k,uZ b]) (even P R)):RootR P m R (.tuple #[.agg #[uZ c,uZ d,uZ k,uZ b],.bool true]):=
 ⟨c,d,k,b,true,rfl,λ_=>⟨h,e⟩,λh=>Yx h,λh=>Yx h⟩
theorem RootR.no{P m R:Nat}(h:¬R*R%P=m):RootR P m R (.tuple #[.agg #[uZ 0,uZ 0,uZ 0,uZ 0],.bool false]):=
 ⟨0,0,0,0,false,rfl,λh=>Yx h,λ_=>h,λ_=>⟨rfl,rfl,rfl,rfl⟩⟩
theorem CU(n o p P:Nat)(x:Us)(m:Nat)(hG:Gap n o p P)(S:P/4%18446744073709551616<18446744073709551615)(hx:Four x m)(w:Uq):
 UG prog 191 #[.agg #[.int .u64 n,.int .u64 o,.int .u64 p,.int .u64 0],x] w (Ret λe w'=>Below w.heap.size w w'/\RootR P m (m^(P/4+1)%P) e):=by
 obtain⟨a,b,c,d,rfl,ha,hb,hc,hd,em⟩:=id hx;have HX:Hid (Four _ m):=hx;have HG:Hid (Gap n o p P):=hG;obtain⟨R,hR⟩:∃R,m^(P/4+1)%P=R:=⟨_,rfl⟩
 have h7:R<P:=by
  rw[<-hR];refine V4 _ ?_;have:=hG.hP2;omega
 rw[hR];have hs:Hid (m^(P/4+1)%P=R):=hR;have Q:Hid (R<P):=h7;clear em hx ha hb hc hd hG hR h7;go_enter func191,ntmps191;go_wp2_with fail
 have k:=NG w 120 47 47 n o p 0 a b c d 0 0 0 0;simp only[WG]at k;generalize Xs _ _=W0 at k⊢;generalize h2:w.heap.size+1+1=W at k⊢;generalize h1:w.heap.size+1=r at k⊢;have Q2:Hid (w.heap.size<=W):=by unfold Hid;omega
 generalize h0:w.heap.size=i at k Q2⊢;have H0:Hid (w.heap.size=i):=h0;clear h0 h1 h2;refine(rP n o p P HG.out _).mono ?_;rintro e w1 ⟨v,rfl,f,G⟩;obtain⟨pa,pb,pc,pd,rfl,-⟩:=id G;replace k:=k.call f;clear f;go_wp2_with fail
 refine(BX _ _ G _).mono ?_;rintro e w2 ⟨v,rfl,Z,h5⟩;obtain⟨qa,qb,qc,qd,rfl,hp,he,hg,h9,eq⟩:=id h5;replace k:=k.call Z;clear Z G h5;have hm:qa<18446744073709551615:=by rw[eq]at S;unfold val at S;omega
 obtain⟨qe,F⟩:∃qe,qa+1=qe:=⟨_,rfl⟩
 have HE:Hid (Four (.agg #[.int .u64 qe,.int .u64 qb,.int .u64 qc,.int .u64 qd]) (P/4+1)):=by
  refine Four.mk oM he hg h9 ?_;rw[eq,<-F];unfold val;omega
 have h4:(qa:Int)+1=(qe:Int):=oM;have hw:=wrapN qe oM;clear hm eq S hp he hg h9 F;obtain⟨hq,hu,ht,hj,xf⟩:=k.tail.head.at4;have zx:=k.tail.head.lt;obtain⟨T,J,L,V,pf⟩:=k.head.at4;have zp:=k.head.lt;have n1:r≠w2.heap.size:=Xj zx;have n0:i≠w2.heap.size:=Xj zp;go_wp2_with fail
 refine(zO n o p P _ _ _ _ HG.out HX.out HE.out _).mono ?_;rintro e N ⟨v,rfl,h3,G⟩;replace k:=(k.alloc _).call h3;clear h3 hq hu ht hj xf zx T J L V pf zp n0 n1 HE h4 hw;obtain⟨B,A,E,rd,rfl,-⟩:=id G;rw[hs.out]at G;have M:Hid (Four _ R):=G;clear G
 go_upto_region 4 with fail
 have h6:Kept w i [⟨i,0,n,o,p,0⟩,⟨N.heap.size,0,B,A,E,rd⟩,⟨r,0,a,b,c,d⟩,⟨W,0,0,0,0,0⟩] _:=((((Kept.mk1 (k.alloc (.cells #[.int .u64 B,.int .u64 A,.int .u64 E,.int .u64 rd] 47)).bl (k.alloc _).le).cons (k.alloc _).tail.tail.head).cons (k.alloc _).tail.head).cons (At4.made N 47 B A E rd rfl).blk).cons (x:=⟨i,0,n,o,p,0⟩) (k.alloc _).head |> λh=>by exact h
 have hk:N.heap.size≠i:=V7 k.head.lt;have hi:N.heap.size≠W:=V7 k.tail.tail.head.lt;have hl:N.heap.size≠r:=V7 k.tail.head.lt;have Q7:Hid (i<=N.heap.size):=k.le;clear k;have k:=h6;clear h6;generalize Xs _ _=W4 at k⊢;generalize N.heap.size=t at k hk hl hi Q7⊢;by_cases s:R*R%P=m
 ·have hn:=OK a b c d;go_region_held3 (λw'=>w'.cell? ⟨i,0,none⟩=some (.int .u64 n)/\w'.cell? ⟨i,1,none⟩=some (.int .u64 o)/\w'.cell? ⟨i,2,none⟩=some (.int .u64 p)/\w'.cell? ⟨i,3,none⟩=some (.int .u64 0)/\w'.cell? ⟨t,0,none⟩=some (.int .u64 B)/\w'.cell? ⟨t,1,none⟩=some (.int .u64 A)/\w'.cell? ⟨t,2,none⟩=some (.int .u64 E)/\w'.cell? ⟨t,3,none⟩=some (.int .u64 rd)/\w'.cell? ⟨r,0,none⟩=some (.int .u64 a)/\w'.cell? ⟨r,1,none⟩=some (.int .u64 b)/\w'.cell? ⟨r,2,none⟩=some (.int .u64 c)/\w'.cell? ⟨r,3,none⟩=some (.int .u64 d)/\Kept w i [⟨i,0,n,o,p,0⟩,⟨t,0,B,A,E,rd⟩,⟨r,0,a,b,c,d⟩,⟨W,0,0,0,0,0⟩] w') (first|(with_reducible exact qR k)|(with_reducible exact qR k.drew)|fail) (first|(go_at_call 154;refine(oN n o p P _ _ _ _ HG.out M.out M.out _).mono ?_;rintro e w5 ⟨v,rfl,f,q⟩;rw[s]at q;obtain rfl:=q.inj HX.out;clear q;(first|(with_reducible (have l:=k.drew.call f))|(with_reducible (have l:=k.call f))|fail);clear k f;have k:=l;clear l))
  have u:Hid (R*R%P=m):=s;clear s
  rename_i hHeld
  clear hHeld;obtain⟨y,C,z,D,tf⟩:=k.tail.head.at4;have zt:=k.tail.head.lt;go_wp2_with fail
  clear y C z D tf zt;refine(F6 _ _ M.out _).mono ?_;rintro e w6 ⟨v,rfl,h8,rfl⟩;replace k:=k.call h8;clear h8;obtain⟨y,C,z,D,tf⟩:=k.tail.head.at4;have zt:=k.tail.head.lt;obtain⟨I,U,H,X,uf⟩:=k.tail.tail.tail.head.at4;have zu:=k.tail.tail.tail.head.lt;by_cases g:R%2=1
  ·have hd:decide (R%2=1)=true:=decide_eq_true g;rw[hd];have HO:Hid (R%2=1):=g;clear hd g;obtain⟨T,J,L,V,pf⟩:=k.head.at4;have zp:=k.head.lt;go_wp2_with fail
   refine(tK n o p P _ _ 0 _ HG.out (Four.mk (a:=0) (b:=0) (c:=0) (d:=0) dC dC dC dC rfl) M.out (by have:=Q.out;omega) Q.out _).mono ?_;rintro e w8 ⟨v,rfl,Y,K⟩;obtain⟨sa,sb,sc,sd,rfl,-⟩:=id K;have O:Hid (Four (.agg #[.int .u64 sa,.int .u64 sb,.int .u64 sc,.int .u64 sd]) (even P R)):=by
    have h1:(0+P-R)%P=even P R:=by
     unfold even;rw[yCj HO.out,UC];exact UR (by have:=Q.out;have:=HO.out;omega)
    unfold Hid;rw[<-h1];exact K
   replace k:=k.call Y;clear Y K y C z D tf zt I U H X uf zu T J L V pf zp;obtain⟨y,C,z,D,tf⟩:=k.tail.head.at4;have zt:=k.tail.head.lt;obtain⟨I,U,H,X,uf⟩:=k.tail.tail.tail.head.at4;have zu:=k.tail.tail.tail.head.lt;go_wp2;have j:=(k.tail.tail.tail.head.at4.other4 hi (.int .u64 sa) (.int .u64 sb) (.int .u64 sc) (.int .u64 sd)).self4 sa sb sc sd;unfold set4 at j;refine UD (v:=?v) ?hr rfl ?hR
   case hr=>simp[results,Tryz.results191,go_sem,j.c0,j.c1,j.c2,j.c3];rfl
   refine⟨_,rfl,?_,RootR.yes u.out O.out⟩;rw[H0.out];exact aL (aL k.bl Q7.out _ _ _ _) Q2.out _ _ _ _
  ·have hd:decide (R%2=1)=false:=decide_eq_false g;rw[hd];have O:Hid (Four (.agg #[.int .u64 B,.int .u64 A,.int .u64 E,.int .u64 rd]) (even P R)):=by
    have h1:even P R=R:=by unfold even;rw[yCk g]
    unfold Hid;rw[h1];exact M.out
   clear hd g;go_wp2;have j:=k.tail.tail.tail.head.at4.self4 B A E rd;unfold set4 at j;refine UD (v:=?v2) ?hr2 rfl ?hR2
   case hr2=>simp[results,Tryz.results191,go_sem,j.c0,j.c1,j.c2,j.c3];rfl
   refine⟨_,rfl,?_,RootR.yes u.out O.out⟩;rw[H0.out];exact aL k.bl Q2.out _ _ _ _
 ·go_region_held3 (λw'=>w'.cell? ⟨i,0,none⟩=some (.int .u64 n)/\w'.cell? ⟨i,1,none⟩=some (.int .u64 o)/\w'.cell? ⟨i,2,none⟩=some (.int .u64 p)/\w'.cell? ⟨i,3,none⟩=some (.int .u64 0)/\w'.cell? ⟨t,0,none⟩=some (.int .u64 B)/\w'.cell? ⟨t,1,none⟩=some (.int .u64 A)/\w'.cell? ⟨t,2,none⟩=some (.int .u64 E)/\w'.cell? ⟨t,3,none⟩=some (.int .u64 rd)/\w'.cell? ⟨r,0,none⟩=some (.int .u64 a)/\w'.cell? ⟨r,1,none⟩=some (.int .u64 b)/\w'.cell? ⟨r,2,none⟩=some (.int .u64 c)/\w'.cell? ⟨r,3,none⟩=some (.int .u64 d)/\Kept w i [⟨i,0,n,o,p,0⟩,⟨t,0,B,A,E,rd⟩,⟨r,0,a,b,c,d⟩,⟨W,0,0,0,0,0⟩] w') (first|(with_reducible exact qR k)|(with_reducible exact qR k.drew)|fail) (first|(go_at_call 154;refine(oN n o p P _ _ _ _ HG.out M.out M.out _).mono ?_;rintro e w5 ⟨v,rfl,f,q⟩;obtain⟨C,z,D,K,rfl,g⟩:=four_ne q HX.out s;have y:=Mn g;clear q;(first|(with_reducible (have l:=k.drew.call f))|(with_reducible (have l:=k.call f))|fail);clear k f;have k:=l;clear l))
  have u:Hid (¬R*R%P=m):=s;clear s
  rename_i hHeld
  clear hHeld;obtain⟨I,U,H,X,uf⟩:=k.tail.tail.tail.head.at4;have zu:=k.tail.tail.tail.head.lt;go_wp2;have j:At4 (set4 w5 W (.int .u64 0) (.int .u64 0) (.int .u64 0) (.int .u64 0)) W 0 0 0 0:=k.tail.tail.tail.head.at4.self4 0 0 0 0;unfold set4 at j;refine UD (v:=?v3) ?hr3 rfl ?hR3
  case hr3=>simp[results,Tryz.results191,go_sem,j.c0,j.c1,j.c2,j.c3];rfl
  refine⟨_,rfl,?_,RootR.no u.out⟩;rw[H0.out];exact aL k.bl Q2.out _ _ _ _
end
section
def wn(n:Nat):List Us:=[uZ ((n%18446744073709551616:Nat):Int),uZ ((n/18446744073709551616%18446744073709551616:Nat):Int),uZ ((n/340282366920938463463374607431768211456%18446744073709551616:Nat):Int),uZ ((n/6277101735386680763835789423207666416102355444464034512896%18446744073709551616:Nat):Int)]
def nv(n:Nat):Us:=.agg (wn n).toArray
theorem vF{n:Nat}(h:n<top):Four (nv n) n:=by
 refine⟨n%18446744073709551616,n/18446744073709551616%18446744073709551616,n/340282366920938463463374607431768211456%18446744073709551616,n/6277101735386680763835789423207666416102355444464034512896%18446744073709551616,rfl,?_,?_,?_,?_,?_⟩
 ·omega
 ·omega
 ·omega
 ·omega
 ·unfold val;unfold top at h;omega
theorem Four.nv{v:Us}{n:Nat}(h:Four v n):v=Go.Proofs.YtdoammpgchejcaaGreat.nv n:=h.inj (vF h.lt)
variable {P:Nat}[NeZero P]
abbrev ws(x:Fin P):List Us:=wn x.val
abbrev fv(x:Fin P):Us:=nv x.val
def pv(x y:Fin P):Us:=.agg (ws x++ws y).toArray
def rv(x y z:Fin P):Us:=.agg (ws x++(ws y++ws z)).toArray
def Gives(f:Xp)(args:Array Us)(v:Us):Prop:=∀w,UG prog f args w (rZ w λe w'=>e=v)
structure Fld(P:Nat)[NeZero P]:Prop where
 gap:Gap 4294968273 0 0 P
 cur:Cur P
 p2:2<=P%18446744073709551616
 p4:P/4%18446744073709551616<18446744073709551615
 p3:P%4=3
 p7:7<P
theorem Fld.top(h:Fld P)(x:Fin P):x.val<top:=by have:=h.gap.hP;have:=x.isLt;omega
theorem Fld.four(h:Fld P)(x:Fin P):Four (fv x) x.val:=vF (h.top x)
theorem lI:(U2 #[uZ 0,uZ 0,uZ 0,uZ 0])=fv (0:Fin P):=by
 have h:Four (U2 #[uZ 0,uZ 0,uZ 0,uZ 0]) (0:Fin P).val:=by
  rw[val_zero];exact Four.mk (a:=0) (b:=0) (c:=0) (d:=0) dC dC dC dC rfl
 exact h.nv
theorem O2(h:Fld P):(U2 #[uZ 1,uZ 0,uZ 0,uZ 0])=fv (1:Fin P):=by
 have h:Four (U2 #[uZ 1,uZ 0,uZ 0,uZ 0]) (1:Fin P).val:=by
  rw[val_one h.cur.pr];exact Four.mk (a:=1) (b:=0) (c:=0) (d:=0) dC dC dC dC rfl
 exact h.nv
theorem bO:Gives 114 #[] gv0:=λw=>(uR w).mono (by rintro e w' ⟨rfl,rfl⟩;exact⟨_,rfl,aC _ _,rfl⟩)
theorem QK(h:Fld P)(x y:Fin P):Gives 215 #[gv0,fv x,fv y] (fv (x+y)):=λw =>
 (sum_any 4294968273 0 0 P _ _ x.val y.val h.gap (h.four x) (h.four y) x.isLt y.isLt w).mono (by
  rintro e w' ⟨v,rfl,k,b⟩;exact⟨_,rfl,k,b.nv⟩)
omit [NeZero P] in
theorem AH(x y:Fin P):(x.val+P-y.val)%P=(x-y).val:=by
 rw[Fin.sub_def];show _=(P-y.val+x.val)%P
 congr 1
 have:=y.isLt;omega
theorem A9(h:Fld P)(x y:Fin P):Gives 221 #[gv0,fv x,fv y] (fv (x-y)):=λw =>
 (nN 4294968273 0 0 P _ _ x.val y.val h.gap (h.four x) (h.four y) x.isLt y.isLt w).mono (by
  rintro e w' ⟨v,rfl,b,k⟩;rw[AH]at k;exact⟨_,rfl,b,k.nv⟩)
theorem Gv(h:Fld P)(x y:Fin P):Gives 213 #[gv0,fv x,fv y] (fv (x*y)):=λw =>
 (dN 4294968273 0 0 P _ _ x.val y.val h.gap (h.four x) (h.four y) w).mono (by
  rintro e w' ⟨v,rfl,k,b⟩;exact⟨_,rfl,k,b.nv⟩)
theorem PM(h:Fld P)(x:Fin P):Gives 127 #[fv x] (fv x):=λw=>(jN _ _ (h.four x) w).mono (by rintro e w' ⟨v,rfl,k,rfl⟩;exact⟨_,rfl,k,rfl⟩)
theorem IZ(h:Fld P)(x:Fin P):Gives 214 #[fv x] (fv x):=λw=>(jI _ _ (h.four x) w).mono (by rintro e w' ⟨v,rfl,k,rfl⟩;exact⟨_,rfl,k,rfl⟩)
theorem rO(h:Fld P)(x y:Fin P):Gives 154 #[gv0,fv x,fv y] (fv (x*y)):=λw =>
 (oN 4294968273 0 0 P _ _ x.val y.val h.gap (h.four x) (h.four y) w).mono (by
  rintro e w' ⟨v,rfl,k,b⟩;exact⟨_,rfl,k,b.nv⟩)
theorem FZ(h:Fld P)(x y:Fin P):Gives 155 #[gv0,fv x,fv y] (fv (x+y)):=λw =>
 (CV 4294968273 0 0 P _ _ x.val y.val h.gap (h.four x) (h.four y) x.isLt y.isLt w).mono (by
  rintro e w' ⟨v,rfl,k,b⟩;exact⟨_,rfl,k,b.nv⟩)
theorem Ks(h:Fld P)(x y:Fin P):Gives 198 #[gv0,fv x,fv y] (fv (x-y)):=λw =>
 (tK 4294968273 0 0 P _ _ x.val y.val h.gap (h.four x) (h.four y) x.isLt y.isLt w).mono (by
  rintro e w' ⟨v,rfl,b,k⟩;rw[AH]at k;exact⟨_,rfl,b,k.nv⟩)
theorem BK(h:Fld P):(U2 #[uZ 7,uZ 0,uZ 0,uZ 0])=fv (7:Fin P):=by
 have h:Four (U2 #[uZ 7,uZ 0,uZ 0,uZ 0]) (7:Fin P).val:=by
  have k:(7:Fin P).val=7%P:=rfl;rw[k,UR h.p7];exact Four.mk (a:=7) (b:=0) (c:=0) (d:=0) dC dC dC dC rfl
 exact h.nv
theorem Av:([uZ 0,uZ 0,uZ 0,uZ 0]:List Us)=ws (0:Fin P):=by
 have h:=lI (P:=P);unfold nv at h;injection h with h
 exact congrArg Array.toList h
theorem gI:(U2 #[uZ 0,uZ 0,uZ 0,uZ 0,uZ 0,uZ 0,uZ 0,uZ 0])=pv (0:Fin P) 0:=by
 unfold pv;rw[<-Av];rfl
theorem KI:(U2 #[uZ 0,uZ 0,uZ 0,uZ 0,uZ 0,uZ 0,uZ 0,uZ 0,uZ 0,uZ 0,uZ 0,uZ 0])=rv (0:Fin P) 0 0:=by
 unfold rv;rw[<-Av];rfl
theorem Hd(h:Fld P)(x:Fin P):Gives 185 #[gv0,fv x] (fv (inv x)):=λw =>
 (uJ 4294968273 0 0 P _ x.val h.gap h.p2 (h.four x) w).mono (by
  rintro e w' ⟨v,rfl,k,b⟩;exact⟨_,rfl,k,b.nv⟩)
end
section
variable {P:Nat}[NeZero P]{N:Nat}
omit [NeZero P] in
theorem Gives.e{f:Xp}{args:Array Us}{x c:Fin P}(h:Gives f args (fv x))(e:c=x):Gives f args (fv c):=e ▸ h
omit [NeZero P] in
theorem Gives.e3{f:Xp}{args:Array Us}{x y z a b c:Fin P}(h:Gives f args (rv x y z))(e:a=x)(e':b=y)(k:c=z):Gives f args (rv a b c):=e ▸ e' ▸ k ▸ h
theorem eqW(a b c d p q r s:Int)(w:Uq):(binOp .eql 183 (.agg #[uZ a,uZ b,uZ c,uZ d]) (.agg #[uZ p,uZ q,uZ r,uZ s])).run prog w=.ok (.bool (decide (a=p/\b=q/\c=r/\d=s))) w:=by
 go_simp;by_cases g:a=p<;>by_cases e:b=q<;>by_cases k:c=r<;>by_cases f:d=s<;>simp[g,e,k,f]
theorem Ay{m n:Nat}(b:m<top)(k:n<top):(m%18446744073709551616=n%18446744073709551616/\m/18446744073709551616%18446744073709551616=n/18446744073709551616%18446744073709551616/\m/340282366920938463463374607431768211456%18446744073709551616=n/340282366920938463463374607431768211456%18446744073709551616/\m/6277101735386680763835789423207666416102355444464034512896%18446744073709551616=n/6277101735386680763835789423207666416102355444464034512896%18446744073709551616)↔m=n:=by
 constructor
 ·rintro⟨f,e,c,d⟩;unfold top at b k;omega
 ·rintro rfl;exact⟨rfl,rfl,rfl,rfl⟩
theorem eqC(h:Fld P)(x y:Fin P)(w:Uq):(binOp .eql 183 (fv x) (fv y)).run prog w=.ok (.bool (decide (x=y))) w:=by
 have b:=eqW ((x.val%18446744073709551616:Nat):Int) ((x.val/18446744073709551616%18446744073709551616:Nat):Int) ((x.val/340282366920938463463374607431768211456%18446744073709551616:Nat):Int) ((x.val/6277101735386680763835789423207666416102355444464034512896%18446744073709551616:Nat):Int) ((y.val%18446744073709551616:Nat):Int) ((y.val/18446744073709551616%18446744073709551616:Nat):Int) ((y.val/340282366920938463463374607431768211456%18446744073709551616:Nat):Int) ((y.val/6277101735386680763835789423207666416102355444464034512896%18446744073709551616:Nat):Int) w;refine b.trans ?_;have k:=Ay (h.top x) (h.top y);simp only[Int.ofNat_inj,k,<-yB2]
theorem Fv(h:Fld P){x y:Fin P}(e:x=y)(w:Uq):(binOp .eql 183 (fv x) (fv y)).run prog w=.ok (.bool true) w:=by rw[eqC h,decide_eq_true e]
theorem JC(h:Fld P){x y:Fin P}(e:¬x=y)(w:Uq):(binOp .eql 183 (fv x) (fv y)).run prog w=.ok (.bool false) w:=by rw[eqC h,decide_eq_false e]
theorem So(a b c d p q r s l f i j n m g o:Nat)(w:Uq):(binOp .eql 93 (.agg #[uZ a,uZ b,uZ c,uZ d,uZ l,uZ f,uZ i,uZ j]) (.agg #[uZ p,uZ q,uZ r,uZ s,uZ n,uZ m,uZ g,uZ o])).run prog w=.ok (.bool (decide (a=p/\b=q/\c=r/\d=s) && decide (l=n/\f=m/\i=g/\j=o))) w:=by
 go_simp;rw[Fu 9997,Vl];by_cases e:a=p/\b=q/\c=r/\d=s
 ·rw[decide_eq_true e];simp only[Bool.true_eq_false,if_false];rw[Fu 9997,Vl];by_cases k:l=n/\f=m/\i=g/\j=o
  ·rw[decide_eq_true k];simp[e.1,e.2.1,e.2.2.1,e.2.2.2,k.1,k.2.1,k.2.2.1,k.2.2.2]
  ·rw[decide_eq_false k];simp only[if_true,Vl];have t:(decide (l=n) && (decide (f=m) && (decide (i=g) && decide (j=o))))=false:=by simpa using k
   rw[t,Bool.and_false]
 ·rw[decide_eq_false e];simp only[if_true,Vl];have t:(decide (a=p) && (decide (b=q) && (decide (c=r) && decide (d=s))))=false:=by simpa using e
  rw[t,Bool.false_and]
theorem eqPt(h:Fld P)(x y z t:Fin P)(w:Uq):(binOp .eql 93 (pv x y) (pv z t)).run prog w=.ok (.bool (decide (x=z/\y=t))) w:=by
 refine(So (x.val%18446744073709551616) (x.val/18446744073709551616%18446744073709551616) (x.val/340282366920938463463374607431768211456%18446744073709551616) (x.val/6277101735386680763835789423207666416102355444464034512896%18446744073709551616) (z.val%18446744073709551616) (z.val/18446744073709551616%18446744073709551616) (z.val/340282366920938463463374607431768211456%18446744073709551616) (z.val/6277101735386680763835789423207666416102355444464034512896%18446744073709551616) (y.val%18446744073709551616) (y.val/18446744073709551616%18446744073709551616) (y.val/340282366920938463463374607431768211456%18446744073709551616) (y.val/6277101735386680763835789423207666416102355444464034512896%18446744073709551616) (t.val%18446744073709551616) (t.val/18446744073709551616%18446744073709551616) (t.val/340282366920938463463374607431768211456%18446744073709551616) (t.val/6277101735386680763835789423207666416102355444464034512896%18446744073709551616) w).trans ?_;simp only[Ay (h.top x) (h.top z),Ay (h.top y) (h.top t),<-yB2,Bool.decide_and]
theorem JB(h:Fld P){x y z t:Fin P}(e:x=z/\y=t)(w:Uq):(binOp .eql 93 (pv x y) (pv z t)).run prog w=.ok (.bool true) w:=by rw[eqPt h,decide_eq_true e]
theorem DV(h:Fld P){x y z t:Fin P}(e:¬(x=z/\y=t))(w:Uq):(binOp .eql 93 (pv x y) (pv z t)).run prog w=.ok (.bool false) w:=by rw[eqPt h,decide_eq_false e]
theorem aS:(prog.underlying 183).map (·.isRow)=some true:=kR
theorem aJ:(prog.info? 183).map (·.size)=some 4:=kR
theorem u85:(prog.underlying 47).map (·.isRow)=some true:=kR
theorem i85:(prog.info? 47).map (·.size)=some 4:=kR
theorem iF:(prog.underlying 185).map (·.isRow)=some true:=kR
theorem i117:(prog.info? 185).map (·.size)=some 12:=kR
theorem gU:(prog.underlying 93).map (·.isRow)=some true:=kR
theorem i109:(prog.info? 93).map (·.size)=some 8:=kR
theorem u79:(prog.underlying 120).map (·.isRow)=some true:=kR
theorem i79:(prog.info? 120).map (·.size)=some 4:=kR
theorem aW(C:Fld P)(x y:Fin P):Gives 179 #[(fv x),(fv y)] (fv (x*y)):=by
 intro w;obtain⟨c1,d⟩:∃c,c=x*y:=⟨_,rfl⟩
 have k:((fv c1):Us)=(fv (x*y)):=by
  subst_vars;rfl
 rw[<-k];go_enter func179,ntmps179;refine RG.M.enter [(0,.v (fv x)),(1,.v (fv y))] 9 kR ?_;intro a0 f;repeat refine Uy ?_
 refine f.T [.m 0,.m 1,.m 2] [(0,ws x),(1,ws y),(2,RG.z 4)] [] [ws x,ws y,RG.z 4] [2,3,4] ⟨mk 0 183,mk 1 183,mk 2 183,yCl⟩ ?_;intro g n i m j e;repeat refine Uy ?_
 refine e.D [.c gv0,.x (fv x),.x (fv y),.c (fv c1),.u 2] [] [(2,4,ws c1)] [ws x,ws y,ws c1] [4] ⟨cl bO,ld aS aJ,ld aS aJ,cl ((Gv C x y).e d),RG.pt aJ,yCl⟩ ?_;intro a2 l b;refine We ?_;refine UD (v:=(fv c1)) (aI b.st 4 183 rfl 2 _ rfl (b.at (s:=(.p 2 0))) aS aJ) b.sl.defers ?_;exact⟨_,rfl,b.st.bel.below,rfl⟩
theorem Ge(C:Fld P)(x y:Fin P):Gives 181 #[(fv x),(fv y)] (fv (x+y)):=by
 intro w;obtain⟨c1,d⟩:∃c,c=x+y:=⟨_,rfl⟩
 have k:((fv c1):Us)=(fv (x+y)):=by
  subst_vars;rfl
 rw[<-k];go_enter func181,ntmps181;refine RG.M.enter [(0,.v (fv x)),(1,.v (fv y))] 9 kR ?_;intro a0 f;repeat refine Uy ?_
 refine f.T [.m 0,.m 1,.m 2] [(0,ws x),(1,ws y),(2,RG.z 4)] [] [ws x,ws y,RG.z 4] [2,3,4] ⟨mk 0 183,mk 1 183,mk 2 183,yCl⟩ ?_;intro g n i m j e;repeat refine Uy ?_
 refine e.D [.c gv0,.x (fv x),.x (fv y),.c (fv c1),.u 2] [] [(2,4,ws c1)] [ws x,ws y,ws c1] [4] ⟨cl bO,ld aS aJ,ld aS aJ,cl ((QK C x y).e d),RG.pt aJ,yCl⟩ ?_;intro a2 l b;refine We ?_;refine UD (v:=(fv c1)) (aI b.st 4 183 rfl 2 _ rfl (b.at (s:=(.p 2 0))) aS aJ) b.sl.defers ?_;exact⟨_,rfl,b.st.bel.below,rfl⟩
theorem eW(C:Fld P)(x y:Fin P):Gives 182 #[(fv x),(fv y)] (fv (x-y)):=by
 intro w;obtain⟨c1,d⟩:∃c,c=x-y:=⟨_,rfl⟩
 have k:((fv c1):Us)=(fv (x-y)):=by
  subst_vars;rfl
 rw[<-k];go_enter func182,ntmps182;refine RG.M.enter [(0,.v (fv x)),(1,.v (fv y))] 9 kR ?_;intro a0 f;repeat refine Uy ?_
 refine f.T [.m 0,.m 1,.m 2] [(0,ws x),(1,ws y),(2,RG.z 4)] [] [ws x,ws y,RG.z 4] [2,3,4] ⟨mk 0 183,mk 1 183,mk 2 183,yCl⟩ ?_;intro g n i m j e;repeat refine Uy ?_
 refine e.D [.c gv0,.x (fv x),.x (fv y),.c (fv c1),.u 2] [] [(2,4,ws c1)] [ws x,ws y,ws c1] [4] ⟨cl bO,ld aS aJ,ld aS aJ,cl ((A9 C x y).e d),RG.pt aJ,yCl⟩ ?_;intro a2 l b;refine We ?_;refine UD (v:=(fv c1)) (aI b.st 4 183 rfl 2 _ rfl (b.at (s:=(.p 2 0))) aS aJ) b.sl.defers ?_;exact⟨_,rfl,b.st.bel.below,rfl⟩
theorem vQ(C:Fld P)(x:Fin P):Gives 187 #[(fv x)] (fv x):=by
 intro w;go_enter func187,ntmps187;refine RG.M.enter [(0,.v (fv x))] 5 kR ?_;intro a0 c;repeat refine Uy ?_
 refine c.T [.m 0,.m 1] [(0,ws x),(1,RG.z 4)] [] [ws x,RG.z 4] [1,2] ⟨mk 0 47,mk 1 183,yCl⟩ ?_;intro d f g i b;repeat refine Uy ?_
 refine b.T [.x (fv x),.c (fv x),.u 1] [] [(1,2,ws x)] [ws x,ws x] [2] ⟨ld u85 i85,cl (PM C x),RG.pt aJ,yCl⟩ ?_;intro a2 e k;refine We ?_;refine UD (v:=(fv x)) (aI k.st 2 183 rfl 1 _ rfl (k.at (s:=(.p 1 0))) aS aJ) k.sl.defers ?_;exact⟨_,rfl,k.st.bel.below,rfl⟩
theorem Ek(C:Fld P)(x:Fin P):Gives 186 #[(fv x)] (fv x):=by
 intro w;go_enter func186,ntmps186;refine RG.M.enter [(0,.v (fv x))] 5 kR ?_;intro a0 c;repeat refine Uy ?_
 refine c.T [.m 0,.m 1] [(0,ws x),(1,RG.z 4)] [] [ws x,RG.z 4] [1,2] ⟨mk 0 183,mk 1 47,yCl⟩ ?_;intro d f g i b;repeat refine Uy ?_
 refine b.T [.x (fv x),.c (fv x),.u 1] [] [(1,2,ws x)] [ws x,ws x] [2] ⟨ld aS aJ,cl (IZ C x),RG.pt i85,yCl⟩ ?_;intro a2 e k;refine We ?_;refine UD (v:=(fv x)) (aI k.st 2 47 rfl 1 _ rfl (k.at (s:=(.p 1 0))) u85 i85) k.sl.defers ?_;exact⟨_,rfl,k.st.bel.below,rfl⟩
theorem fO(C:Fld P)(x:Fin P):Gives 180 #[(fv x)] (fv (dbl x)):=by
 intro w;obtain⟨c1,d⟩:∃c,c=x+x:=⟨_,rfl⟩
 have k:((fv c1):Us)=(fv (dbl x)):=by
  subst_vars;rfl
 rw[<-k];go_enter func180,ntmps180;refine RG.M.enter [(0,.v (fv x))] 6 kR ?_;intro a0 f;repeat refine Uy ?_
 refine f.T [.m 0,.m 1] [(0,ws x),(1,RG.z 4)] [] [ws x,RG.z 4] [1,2] ⟨mk 0 183,mk 1 183,yCl⟩ ?_;intro g j l m e;repeat refine Uy ?_
 refine e.T [.x (fv x),.x (fv x),.c (fv c1),.u 1] [] [(1,3,ws c1)] [ws x,ws c1] [2] ⟨ld aS aJ,ld aS aJ,cl ((Ge C x x).e d),RG.pt aJ,yCl⟩ ?_;intro a2 i b;refine We ?_;refine UD (v:=(fv c1)) (aI b.st 2 183 rfl 1 _ rfl (b.at (s:=(.p 1 0))) aS aJ) b.sl.defers ?_;exact⟨_,rfl,b.st.bel.below,rfl⟩
theorem Er(C:Fld P)(x y z:Fin P):Gives 108 #[(rv x y z)] (rv (twX x y) (twY x y) (twZ y z)):=by
 intro w;obtain⟨c1,N⟩:∃c,c=x*x:=⟨_,rfl⟩
 obtain⟨c2,O⟩:∃c,c=y*y:=⟨_,rfl⟩
 obtain⟨H,I⟩:∃c,c=x*c2:=⟨_,rfl⟩
 obtain⟨K,U⟩:∃c,c=dbl H:=⟨_,rfl⟩
 obtain⟨e,Q⟩:∃c,c=dbl K:=⟨_,rfl⟩
 obtain⟨J,M⟩:∃c,c=dbl c1:=⟨_,rfl⟩
 obtain⟨d,R⟩:∃c,c=J+c1:=⟨_,rfl⟩
 obtain⟨L,T⟩:∃c,c=d*d:=⟨_,rfl⟩
 obtain⟨V,S⟩:∃c,c=dbl e:=⟨_,rfl⟩
 obtain⟨k,B⟩:∃c,c=L-V:=⟨_,rfl⟩
 obtain⟨m,p⟩:∃c,c=e-k:=⟨_,rfl⟩
 obtain⟨i,E⟩:∃c,c=d*m:=⟨_,rfl⟩
 obtain⟨o,r⟩:∃c,c=c2*c2:=⟨_,rfl⟩
 obtain⟨j,q⟩:∃c,c=dbl o:=⟨_,rfl⟩
 obtain⟨n,A⟩:∃c,c=dbl j:=⟨_,rfl⟩
 obtain⟨l,u⟩:∃c,c=dbl n:=⟨_,rfl⟩
 obtain⟨b,D⟩:∃c,c=i-l:=⟨_,rfl⟩
 obtain⟨g,F⟩:∃c,c=y*z:=⟨_,rfl⟩
 obtain⟨f,t⟩:∃c,c=dbl g:=⟨_,rfl⟩
 have a:((rv k b f):Us)=(rv (twX x y) (twY x y) (twZ y z)):=by
  subst_vars;rfl
 rw[<-a];go_enter func108,ntmps108;refine RG.M.enter [(0,.v (rv x y z))] 56 kR ?_;intro a0 Y;repeat refine Uy ?_
 refine Y.T [.m 0,.m 1] [(0,ws x++(ws y++(ws z))),(1,RG.z 12)] [] [ws x++(ws y++(ws z)),RG.z 12] [1,2] ⟨mk 0 185,mk 1 185,yCl⟩ ?_;intro j1 i1 a1 w1 X;repeat refine Uy ?_
 refine X.D [.s (.p 0 0),.x (fv x),.s (.p 0 0),.x (fv x),.c (fv c1),.s (.p 0 4),.x (fv y),.s (.p 0 4),.x (fv y),.c (fv c2),.m 2,.m 3,.u 2,.u 3] [(10,RG.z 4),(11,RG.z 4)] [(2,12,ws c1),(3,13,ws c2)] [ws x++(ws y++(ws z)),RG.z 12,ws c1,ws c2] [1,2,3,4] ⟨st,ld aS aJ,st,ld aS aJ,cl ((aW C x x).e N),st,ld aS aJ,st,ld aS aJ,cl ((aW C y y).e O),mk 2 183,mk 3 183,RG.pt aJ,RG.pt aJ,yCl⟩ ?_;intro j2 i2 a2 w2 W;repeat refine Uy ?_
 refine W.T [.s (.p 0 0),.x (fv x),.x (fv c2),.c (fv H),.c (fv K),.c (fv e),.m 4,.u 4] [(6,RG.z 4)] [(4,7,ws e)] [ws x++(ws y++(ws z)),RG.z 12,ws c1,ws c2,ws e] [1,2,3,4,5] ⟨st,ld aS aJ,ld aS aJ,cl ((aW C x c2).e I),cl ((fO C H).e U),cl ((fO C K).e Q),mk 4 183,RG.pt aJ,yCl⟩ ?_;intro j3 a3 w3 M3;repeat refine Uy ?_
 refine M3.D [.x (fv c1),.c (fv J),.x (fv c1),.c (fv d),.m 5,.u 5] [(4,RG.z 4)] [(5,5,ws d)] [ws x++(ws y++(ws z)),RG.z 12,ws c1,ws c2,ws e,ws d] [1,2,4,5,6] ⟨ld aS aJ,cl ((fO C c1).e M),ld aS aJ,cl ((Ge C J c1).e R),mk 5 183,RG.pt aJ,yCl⟩ ?_;intro j4 a4 w4 M4;repeat refine Uy ?_
 refine M4.D [.x (fv d),.x (fv d),.c (fv L),.x (fv e),.c (fv V),.c (fv k),.m 6,.u 6] [(6,RG.z 4)] [(6,7,ws k)] [ws x++(ws y++(ws z)),RG.z 12,ws c1,ws c2,ws e,ws d,ws k] [1,2,4,5,6,7] ⟨ld aS aJ,ld aS aJ,cl ((aW C d d).e T),ld aS aJ,cl ((fO C e).e S),cl ((eW C L V).e B),mk 6 183,RG.pt aJ,yCl⟩ ?_;intro j5 a5 w5 Z;repeat refine Uy ?_
 refine Z.D [.x (fv d),.x (fv e),.x (fv k),.c (fv m),.c (fv i),.x (fv c2),.x (fv c2),.c (fv o),.c (fv j),.c (fv n),.c (fv l),.c (fv b),.m 7,.u 7] [(12,RG.z 4)] [(7,13,ws b)] [ws x++(ws y++(ws z)),RG.z 12,ws c1,ws c2,ws e,ws d,ws k,ws b] [1,2,7,8] ⟨ld aS aJ,ld aS aJ,ld aS aJ,cl ((eW C e k).e p),cl ((aW C d m).e E),ld aS aJ,ld aS aJ,cl ((aW C c2 c2).e r),cl ((fO C o).e q),cl ((fO C j).e A),cl ((fO C n).e u),cl ((eW C i l).e D),mk 7 183,RG.pt aJ,yCl⟩ ?_;intro j6 a6 w6 M6;repeat refine Uy ?_
 refine M6.D [.x (fv k),.x (fv b),.s (.p 0 4),.x (fv y),.s (.p 0 8),.x (fv z),.c (fv g),.c (fv f),.x (rv k b f),.u 1] [] [(1,9,ws k++(ws b++(ws f)))] [ws x++(ws y++(ws z)),ws k++(ws b++(ws f)),ws c1,ws c2,ws e,ws d,ws k,ws b] [2] ⟨ld aS aJ,ld aS aJ,st,ld aS aJ,st,ld aS aJ,cl ((aW C y z).e F),cl ((fO C g).e t),st,RG.pt i117,yCl⟩ ?_;intro a7 w7 G;refine We ?_;refine UD (v:=(rv k b f)) (aI G.st 2 185 rfl 1 _ rfl (G.at (s:=(.p 1 0))) iF i117) G.sl.defers ?_;exact⟨_,rfl,G.st.bel.below,rfl⟩
theorem Dy(C:Fld P)(x y z:Fin P):Gives 184 #[(rv x y z)] (rv x (0-y) z):=by
 intro w;obtain⟨c1,d⟩:∃c,c=(0:Fin P)-y:=⟨_,rfl⟩
 have k:((rv x c1 z):Us)=(rv x (0-y) z):=by
  subst_vars;rfl
 rw[<-k];go_enter func184,ntmps184;refine RG.M.enter [(0,.v (rv x y z))] 12 kR ?_;intro a0 f;repeat refine Uy ?_
 refine f.T [.m 0,.m 1] [(0,ws x++(ws y++(ws z))),(1,RG.z 12)] [] [ws x++(ws y++(ws z)),RG.z 12] [1,2] ⟨mk 0 185,mk 1 185,yCl⟩ ?_;intro g m l i e;repeat refine Uy ?_
 refine e.D [.s (.p 0 0),.x (fv x),.x (fv (0:Fin P)),.s (.p 0 4),.x (fv y),.c (fv c1),.s (.p 0 8),.x (fv z),.x (rv x c1 z),.u 1] [] [(1,9,ws x++(ws c1++(ws z)))] [ws x++(ws y++(ws z)),ws x++(ws c1++(ws z))] [2] ⟨st,ld aS aJ,se (lI (P:=P)),st,ld aS aJ,cl ((eW C (0:Fin P) y).e d),st,ld aS aJ,st,RG.pt i117,yCl⟩ ?_;intro a2 j b;refine We ?_;refine UD (v:=(rv x c1 z)) (aI b.st 2 185 rfl 1 _ rfl (b.at (s:=(.p 1 0))) iF i117) b.sl.defers ?_;exact⟨_,rfl,b.st.bel.below,rfl⟩
theorem Mf(C:Fld P)(x y z:Fin P):Gives 111 #[(rv x y z)] (pv (x*(inv z*inv z)) (y*(inv z*inv z)*inv z)):=by
 intro w;obtain⟨c1,i⟩:∃c,c=inv z:=⟨_,rfl⟩
 obtain⟨c2,j⟩:∃c,c=c1*c1:=⟨_,rfl⟩
 obtain⟨k,f⟩:∃c,c=x*c2:=⟨_,rfl⟩
 obtain⟨g,m⟩:∃c,c=y*c2:=⟨_,rfl⟩
 obtain⟨b,l⟩:∃c,c=g*c1:=⟨_,rfl⟩
 have d:((pv k b):Us)=(pv (x*(inv z*inv z)) (y*(inv z*inv z)*inv z)):=by
  subst_vars;rfl
 rw[<-d];go_enter func111,ntmps111;refine RG.M.enter [(0,.v (rv x y z))] 27 kR ?_;intro a0 p;repeat refine Uy ?_
 refine p.T [.m 0,.m 1] [(0,ws x++(ws y++(ws z))),(1,RG.z 8)] [] [ws x++(ws y++(ws z)),RG.z 8] [1,2] ⟨mk 0 185,mk 1 93,yCl⟩ ?_;intro r H G u o;repeat refine Uy ?_
 refine o.D [.c gv0,.s (.p 0 8),.x (fv z),.c (fv z),.c (fv c1),.c (fv c1),.m 2,.u 2] [(6,RG.z 4)] [(2,7,ws c1)] [ws x++(ws y++(ws z)),RG.z 8,ws c1] [1,2,3] ⟨cl bO,st,ld aS aJ,cl (Ek C z),cl ((Hd C z).e i),cl (vQ C c1),mk 2 183,RG.pt aJ,yCl⟩ ?_;intro D a2 B n;repeat refine Uy ?_
 refine n.T [.x (fv c1),.x (fv c1),.c (fv c2),.m 3,.u 3] [(3,RG.z 4)] [(3,4,ws c2)] [ws x++(ws y++(ws z)),RG.z 8,ws c1,ws c2] [1,2,3,4] ⟨ld aS aJ,ld aS aJ,cl ((aW C c1 c1).e j),mk 3 183,RG.pt aJ,yCl⟩ ?_;intro E t a q;repeat refine Uy ?_
 refine q.D [.s (.p 0 0),.x (fv x),.x (fv c2),.c (fv k),.c (fv k),.s (.p 0 4),.x (fv y),.x (fv c2),.c (fv g),.x (fv c1),.c (fv b),.c (fv b),.x (pv k b),.u 1] [] [(1,13,ws k++(ws b))] [ws x++(ws y++(ws z)),ws k++(ws b),ws c1,ws c2] [2] ⟨st,ld aS aJ,ld aS aJ,cl ((aW C x c2).e f),cl (Ek C k),st,ld aS aJ,ld aS aJ,cl ((aW C y c2).e m),ld aS aJ,cl ((aW C g c1).e l),cl (Ek C b),st,RG.pt i109,yCl⟩ ?_;intro F A e;refine We ?_;refine UD (v:=(pv k b)) (aI e.st 2 93 rfl 1 _ rfl (e.at (s:=(.p 1 0))) gU i109) e.sl.defers ?_;exact⟨_,rfl,e.st.bel.below,rfl⟩
theorem uA(C:Fld P)(x y z:Fin P)(d:z=0):Gives 183 #[(rv x y z)] (.bool true):=by
 intro w;go_enter func183,ntmps183;refine RG.M.enter [(0,.v (rv x y z))] 7 kR ?_;intro a0 c;repeat refine Uy ?_
 refine c.T [.m 0,.x (.bool false)] [(0,ws x++(ws y++(ws z)))] [] [ws x++(ws y++(ws z))] [1,2] ⟨mk 0 185,st,yCl⟩ ?_;intro e i g b;repeat refine Uy ?_
 refine b.U [.s (.p 0 8),.x (fv z),.x (fv (0:Fin P)),.x (.bool true),.x (.bool true)] [2] ⟨st,ld aS aJ,se (lI (P:=P)),aQ rfl .eql 183 183 4 5 (fv z) (fv (0:Fin P)) (.bool true) rfl rfl sx sx (λw=>kR) (Fv C d),st,yCl⟩ ?_;intro a2 f k;refine We ?_;refine UD (v:=(.bool true)) (jA 2 rfl _ (k.at (s:=(.v (.bool true))))) k.sl.defers ?_;exact⟨_,rfl,k.st.bel.below,rfl⟩
theorem uB(C:Fld P)(x y z:Fin P)(d:¬z=0):Gives 183 #[(rv x y z)] (.bool false):=by
 intro w;go_enter func183,ntmps183;refine RG.M.enter [(0,.v (rv x y z))] 7 kR ?_;intro a0 c;repeat refine Uy ?_
 refine c.T [.m 0,.x (.bool false)] [(0,ws x++(ws y++(ws z)))] [] [ws x++(ws y++(ws z))] [1,2] ⟨mk 0 185,st,yCl⟩ ?_;intro e i g b;repeat refine Uy ?_
 refine b.U [.s (.p 0 8),.x (fv z),.x (fv (0:Fin P)),.x (.bool false),.x (.bool false)] [2] ⟨st,ld aS aJ,se (lI (P:=P)),aQ rfl .eql 183 183 4 5 (fv z) (fv (0:Fin P)) (.bool false) rfl rfl sx sx (λw=>kR) (JC C d),st,yCl⟩ ?_;intro a2 f k;refine We ?_;refine UD (v:=(.bool false)) (jA 2 rfl _ (k.at (s:=(.v (.bool false))))) k.sl.defers ?_;exact⟨_,rfl,k.st.bel.below,rfl⟩
theorem Gq(C:Fld P)(x y:Fin P)(f:x=0/\y=0):Gives 178 #[(pv x y)] (rv (0:Fin P) 0 0):=by
 intro w;have k:((rv (0:Fin P) (0:Fin P) (0:Fin P)):Us)=(rv (0:Fin P) 0 0):=by
  subst_vars;rfl
 rw[<-k];go_enter func178,ntmps178;refine RG.M.enter [(0,.v (pv x y))] 16 kR ?_;intro a0 e;repeat refine Uy ?_
 refine e.T [.m 0,.m 1] [(0,ws x++(ws y)),(1,RG.z 12)] [] [ws x++(ws y),RG.z 12] [1,2] ⟨mk 0 93,mk 1 185,yCl⟩ ?_;intro g o n j d;repeat refine Uy ?_
 refine d.U [.x (pv x y),.x (pv (0:Fin P) (0:Fin P)),.x (.bool true)] [2,5] ⟨ld gU i109,se (gI (P:=P)),aQ rfl .eql 93 93 3 4 (pv x y) (pv (0:Fin P) (0:Fin P)) (.bool true) rfl rfl sx sx (λw=>kR) (JB C f),yCl⟩ ?_;intro a2 m c;repeat refine Uy ?_
 refine VD c.ev ?_;repeat refine Uy ?_
 refine c.T [.x (rv (0:Fin P) (0:Fin P) (0:Fin P)),.u 1] [] [(1,1,ws (0:Fin P)++(ws (0:Fin P)++(ws (0:Fin P))))] [ws x++(ws y),ws (0:Fin P)++(ws (0:Fin P)++(ws (0:Fin P)))] [2] ⟨se (KI (P:=P)),RG.pt i117,yCl⟩ ?_;intro i l b;refine We ?_;refine UD (v:=(rv (0:Fin P) (0:Fin P) (0:Fin P))) (aI b.st 2 185 rfl 1 _ rfl (b.at (s:=(.p 1 0))) iF i117) b.sl.defers ?_;exact⟨_,rfl,b.st.bel.below,rfl⟩
theorem Gs(C:Fld P)(x y:Fin P)(f:¬(x=0/\y=0)):Gives 178 #[(pv x y)] (rv x y 1):=by
 intro w;have k:((rv x y (1:Fin P)):Us)=(rv x y 1):=by
  subst_vars;rfl
 rw[<-k];go_enter func178,ntmps178;refine RG.M.enter [(0,.v (pv x y))] 16 kR ?_;intro a0 e;repeat refine Uy ?_
 refine e.T [.m 0,.m 1] [(0,ws x++(ws y)),(1,RG.z 12)] [] [ws x++(ws y),RG.z 12] [1,2] ⟨mk 0 93,mk 1 185,yCl⟩ ?_;intro g o n j d;repeat refine Uy ?_
 refine d.U [.x (pv x y),.x (pv (0:Fin P) (0:Fin P)),.x (.bool false)] [1,2,5] ⟨ld gU i109,se (gI (P:=P)),aQ rfl .eql 93 93 3 4 (pv x y) (pv (0:Fin P) (0:Fin P)) (.bool false) rfl rfl sx sx (λw=>kR) (DV C f),yCl⟩ ?_;intro a2 m c;repeat refine Uy ?_
 refine VH c.ev ?_;refine WR ?_;repeat refine Uy ?_
 refine c.D [.s (.p 0 0),.x (fv x),.c (fv x),.s (.p 0 4),.x (fv y),.c (fv y),.x (fv (1:Fin P)),.c (fv (1:Fin P)),.x (rv x y (1:Fin P)),.u 1] [] [(1,9,ws x++(ws y++(ws (1:Fin P))))] [ws x++(ws y),ws x++(ws y++(ws (1:Fin P)))] [2] ⟨st,ld u85 i85,cl (vQ C x),st,ld u85 i85,cl (vQ C y),se (O2 C),cl (vQ C (1:Fin P)),st,RG.pt i117,yCl⟩ ?_;intro i l b;refine We ?_;refine UD (v:=(rv x y (1:Fin P))) (aI b.st 2 185 rfl 1 _ rfl (b.at (s:=(.p 1 0))) iF i117) b.sl.defers ?_;exact⟨_,rfl,b.st.bel.below,rfl⟩
theorem Gy(C:Fld P)(f e k i j b:Fin P)(R:Us)(ha:k=0->R=rv i j b)(hb:¬k=0->b=0->R=rv f e k)(hc:¬k=0->¬b=0->cN f b=cN i k/\eK e b=eK j k->R=rv (twX f e) (twY f e) (twZ e k))(hd:¬k=0->¬b=0->¬(cN f b=cN i k/\eK e b=eK j k)->R=rv (plX (cN f b) (eK e b) (cN i k) (eK j k)) (plY (cN f b) (eK e b) (cN i k) (eK j k)) (plZ k b (cN f b) (cN i k))):Gives 109 #[(rv f e k),(rv i j b)] R:=by
 intro w;obtain⟨c1,hk⟩:∃c,c=k*k:=⟨_,rfl⟩
 obtain⟨c2,hj⟩:∃c,c=b*b:=⟨_,rfl⟩
 obtain⟨p,he⟩:∃c,c=f*c2:=⟨_,rfl⟩
 obtain⟨t,h9⟩:∃c,c=i*c1:=⟨_,rfl⟩
 obtain⟨c5,hi⟩:∃c,c=e*c2:=⟨_,rfl⟩
 obtain⟨r,h7⟩:∃c,c=c5*b:=⟨_,rfl⟩
 obtain⟨c7,h8⟩:∃c,c=j*c1:=⟨_,rfl⟩
 obtain⟨u,hg⟩:∃c,c=c7*k:=⟨_,rfl⟩
 go_enter func109,ntmps109;refine RG.M.enter [(0,.v (rv f e k)),(1,.v (rv i j b))] 108 kR ?_;intro a0 M0;repeat refine Uy ?_
 refine M0.T [.m 0,.m 1,.m 2] [(0,ws f++(ws e++(ws k))),(1,ws i++(ws j++(ws b))),(2,RG.z 12)] [] [ws f++(ws e++(ws k)),ws i++(ws j++(ws b)),RG.z 12] [2,3,4] ⟨mk 0 185,mk 1 185,mk 2 185,yCl⟩ ?_;intro j1 i1 m1 a1 w1 M1;repeat refine Uy ?_
 by_cases y:k=0
 ·obtain rfl:=ha y;refine M1.U [.x (rv f e k),.c (.bool true)] [3,4,19] ⟨ld iF i117,cl (uA C f e k y),yCl⟩ ?_;intro a2 w2 Q;repeat refine Uy ?_
  refine VD Q.ev ?_;repeat refine Uy ?_
  refine Q.T [.x (rv i j b),.u 2] [] [(2,1,ws i++(ws j++(ws b)))] [ws f++(ws e++(ws k)),ws i++(ws j++(ws b)),ws i++(ws j++(ws b))] [4] ⟨ld iF i117,RG.pt i117,yCl⟩ ?_;intro a3 w3 B;refine We ?_;refine UD (v:=(rv i j b)) (aI B.st 4 185 rfl 2 _ rfl (B.at (s:=(.p 2 0))) iF i117) B.sl.defers ?_;exact⟨_,rfl,B.st.bel.below,rfl⟩
 refine M1.U [.x (rv f e k),.c (.bool false)] [2,3,4,19] ⟨ld iF i117,cl (uB C f e k y),yCl⟩ ?_;intro a2 w2 Q;repeat refine Uy ?_
 refine VH Q.ev ?_;refine WR ?_;repeat refine Uy ?_
 by_cases a:b=0
 ·obtain rfl:=hb y a;refine Q.U [.x (rv i j b),.c (.bool true)] [2,4,22] ⟨ld iF i117,cl (uA C i j b a),yCl⟩ ?_;intro a3 w3 B;repeat refine Uy ?_
  refine VD B.ev ?_;repeat refine Uy ?_
  refine B.T [.x (rv f e k),.u 2] [] [(2,1,ws f++(ws e++(ws k)))] [ws f++(ws e++(ws k)),ws i++(ws j++(ws b)),ws f++(ws e++(ws k))] [4] ⟨ld iF i117,RG.pt i117,yCl⟩ ?_;intro a4 w4 O;refine We ?_;refine UD (v:=(rv f e k)) (aI O.st 4 185 rfl 2 _ rfl (O.at (s:=(.p 2 0))) iF i117) O.sl.defers ?_;exact⟨_,rfl,O.st.bel.below,rfl⟩
 refine Q.U [.x (rv i j b),.c (.bool false)] [2,3,4,22] ⟨ld iF i117,cl (uB C i j b a),yCl⟩ ?_;intro a3 w3 B;repeat refine Uy ?_
 refine VH B.ev ?_;refine WR ?_;repeat refine Uy ?_
 refine B.D [.s (.p 0 8),.x (fv k),.s (.p 0 8),.x (fv k),.c (fv c1),.s (.p 1 8),.x (fv b),.s (.p 1 8),.x (fv b),.c (fv c2),.m 3,.m 4,.u 3,.u 4] [(10,RG.z 4),(11,RG.z 4)] [(3,12,ws c1),(4,13,ws c2)] [ws f++(ws e++(ws k)),ws i++(ws j++(ws b)),RG.z 12,ws c1,ws c2] [2,3,4,5,6] ⟨st,ld aS aJ,st,ld aS aJ,cl ((aW C k k).e hk),st,ld aS aJ,st,ld aS aJ,cl ((aW C b b).e hj),mk 3 183,mk 4 183,RG.pt aJ,RG.pt aJ,yCl⟩ ?_;intro j4 i4 a4 w4 O;repeat refine Uy ?_
 refine O.D [.s (.p 0 0),.x (fv f),.x (fv c2),.c (fv p),.s (.p 1 0),.x (fv i),.x (fv c1),.c (fv t),.m 5,.m 6,.u 5,.u 6] [(8,RG.z 4),(9,RG.z 4)] [(5,10,ws p),(6,11,ws t)] [ws f++(ws e++(ws k)),ws i++(ws j++(ws b)),RG.z 12,ws c1,ws c2,ws p,ws t] [2,3,4,5,6,7,8] ⟨st,ld aS aJ,ld aS aJ,cl ((aW C f c2).e he),st,ld aS aJ,ld aS aJ,cl ((aW C i c1).e h9),mk 5 183,mk 6 183,RG.pt aJ,RG.pt aJ,yCl⟩ ?_;intro j5 i5 a5 w5 M5;repeat refine Uy ?_
 refine M5.D [.s (.p 0 4),.x (fv e),.x (fv c2),.c (fv c5),.s (.p 1 8),.x (fv b),.c (fv r),.s (.p 1 4),.x (fv j),.x (fv c1),.c (fv c7),.s (.p 0 8),.x (fv k),.c (fv u),.m 7,.m 8,.u 7,.u 8] [(14,RG.z 4),(15,RG.z 4)] [(7,16,ws r),(8,17,ws u)] [ws f++(ws e++(ws k)),ws i++(ws j++(ws b)),RG.z 12,ws c1,ws c2,ws p,ws t,ws r,ws u] [2,3,4,7,8,9,10] ⟨st,ld aS aJ,ld aS aJ,cl ((aW C e c2).e hi),st,ld aS aJ,cl ((aW C c5 b).e h7),st,ld aS aJ,ld aS aJ,cl ((aW C j c1).e h8),st,ld aS aJ,cl ((aW C c7 k).e hg),mk 7 183,mk 8 183,RG.pt aJ,RG.pt aJ,yCl⟩ ?_;intro j6 i6 a6 w6 M6;repeat refine Uy ?_
 by_cases E:cN f b=cN i k/\eK e b=eK j k
 ·have hR:=hc y a E;obtain⟨hx,D⟩:=E;obtain⟨m,G⟩:∃c,c=twX f e:=⟨_,rfl⟩
  obtain⟨d,A⟩:∃c,c=twY f e:=⟨_,rfl⟩
  obtain⟨g,z⟩:∃c,c=twZ e k:=⟨_,rfl⟩
  obtain rfl:R=rv m d g:=hR.trans (by subst_vars;rfl);refine M6.U [.x (fv p),.x (fv t),.x (.bool true),.x (.bool true),.x (fv r),.x (fv u),.x (.bool true),.x (.bool true)] [2,4,63] ⟨ld aS aJ,ld aS aJ,aQ rfl .eql 183 183 56 57 (fv p) (fv t) (.bool true) rfl rfl sx sx (λw=>kR) (Fv C (by subst_vars;exact hx)),st,ld aS aJ,ld aS aJ,aQ rfl .eql 183 183 60 61 (fv r) (fv u) (.bool true) rfl rfl sx sx (λw=>kR) (Fv C (by subst_vars;exact D)),st,yCl⟩ ?_;intro a7 w7 Z;repeat refine Uy ?_
  refine VD Z.ev ?_;repeat refine Uy ?_
  refine Z.T [.x (rv f e k),.c (rv m d g),.u 2] [] [(2,2,ws m++(ws d++(ws g)))] [ws f++(ws e++(ws k)),ws i++(ws j++(ws b)),ws m++(ws d++(ws g)),ws c1,ws c2,ws p,ws t,ws r,ws u] [4] ⟨ld iF i117,cl ((Er C f e k).e3 G A z),RG.pt i117,yCl⟩ ?_;intro a8 w8 N;refine We ?_;refine UD (v:=(rv m d g)) (aI N.st 4 185 rfl 2 _ rfl (N.at (s:=(.p 2 0))) iF i117) N.sl.defers ?_;exact⟨_,rfl,N.st.bel.below,rfl⟩
 have hR:=hd y a E;obtain⟨m,G⟩:∃c,c=t-p:=⟨_,rfl⟩
 obtain⟨d,A⟩:∃c,c=u-r:=⟨_,rfl⟩
 obtain⟨g,z⟩:∃c,c=m*m:=⟨_,rfl⟩
 obtain⟨n,h4⟩:∃c,c=g*m:=⟨_,rfl⟩
 obtain⟨o,Y⟩:∃c,c=g*p:=⟨_,rfl⟩
 obtain⟨L,h1⟩:∃c,c=d*d:=⟨_,rfl⟩
 obtain⟨I,W⟩:∃c,c=L-n:=⟨_,rfl⟩
 obtain⟨F,T⟩:∃c,c=dbl o:=⟨_,rfl⟩
 obtain⟨l,U⟩:∃c,c=I-F:=⟨_,rfl⟩
 obtain⟨K,V⟩:∃c,c=o-l:=⟨_,rfl⟩
 obtain⟨M,h0⟩:∃c,c=d*K:=⟨_,rfl⟩
 obtain⟨J,h2⟩:∃c,c=n*r:=⟨_,rfl⟩
 obtain⟨q,X⟩:∃c,c=M-J:=⟨_,rfl⟩
 obtain⟨H,S⟩:∃c,c=k*b:=⟨_,rfl⟩
 obtain⟨x,h3⟩:∃c,c=H*m:=⟨_,rfl⟩
 obtain rfl:R=rv l q x:=hR.trans (by subst_vars;rfl);by_cases hx:cN f b=cN i k
 case' pos =>
  have D:¬eK e b=eK j k:=λh=>E ⟨hx,h⟩
  refine M6.U [.x (fv p),.x (fv t),.x (.bool true),.x (.bool true),.x (fv r),.x (fv u),.x (.bool false),.x (.bool false)] [2,3,4,7,8,9,10,63] ⟨ld aS aJ,ld aS aJ,aQ rfl .eql 183 183 56 57 (fv p) (fv t) (.bool true) rfl rfl sx sx (λw=>kR) (Fv C (by subst_vars;exact hx)),st,ld aS aJ,ld aS aJ,aQ rfl .eql 183 183 60 61 (fv r) (fv u) (.bool false) rfl rfl sx sx (λw=>kR) (JC C (by subst_vars;exact D)),st,yCl⟩ ?_
 case' neg =>
  refine M6.u [.x 56 [] (fv p),.x 57 [] (fv t),.x 58 [(56,0),(57,1)] (.bool false),.x 59 [(58,2)] (.bool false),⟨some 60,[],.v WO,.pass⟩,⟨some 61,[],.v WO,.pass⟩,⟨some 62,[],.v WO,.pass⟩,.x 63 [(59,3),(62,6)] (.bool false)] [(2,.p 0 0),(3,.p 1 0),(4,.p 2 0),(7,.p 5 0),(8,.p 6 0),(9,.p 7 0),(10,.p 8 0),(63,.v (.bool false))] ⟨ld aS aJ,ld aS aJ,aQ rfl .eql 183 183 56 57 (fv p) (fv t) (.bool false) rfl rfl sx sx (λw=>kR) (JC C (by subst_vars;exact hx)),st,dD rfl rfl,dD rfl rfl,dD rfl rfl,st,yCl⟩ ?_
 all_goals
  intro a7 w7 Z;repeat refine Uy ?_
  refine VH Z.ev ?_;refine WR ?_;repeat refine Uy ?_
  refine Z.D [.x (fv t),.x (fv p),.c (fv m),.x (fv u),.x (fv r),.c (fv d),.m 9,.m 10,.u 9,.u 10] [(6,RG.z 4),(7,RG.z 4)] [(9,8,ws m),(10,9,ws d)] [ws f++(ws e++(ws k)),ws i++(ws j++(ws b)),RG.z 12,ws c1,ws c2,ws p,ws t,ws r,ws u,ws m,ws d] [2,3,4,7,9,11,12] ⟨ld aS aJ,ld aS aJ,cl ((eW C t p).e G),ld aS aJ,ld aS aJ,cl ((eW C u r).e A),mk 9 183,mk 10 183,RG.pt aJ,RG.pt aJ,yCl⟩ ?_;intro j8 i8 a8 w8 N;repeat refine Uy ?_
  refine N.T [.x (fv m),.x (fv m),.c (fv g),.m 11,.u 11] [(3,RG.z 4)] [(11,4,ws g)] [ws f++(ws e++(ws k)),ws i++(ws j++(ws b)),RG.z 12,ws c1,ws c2,ws p,ws t,ws r,ws u,ws m,ws d,ws g] [2,3,4,7,9,11,12,13] ⟨ld aS aJ,ld aS aJ,cl ((aW C m m).e z),mk 11 183,RG.pt aJ,yCl⟩ ?_;intro j9 a9 w9 M9;repeat refine Uy ?_
  refine M9.D [.x (fv g),.x (fv m),.c (fv n),.x (fv g),.x (fv p),.c (fv o),.m 12,.m 13,.u 12,.u 13] [(6,RG.z 4),(7,RG.z 4)] [(12,8,ws n),(13,9,ws o)] [ws f++(ws e++(ws k)),ws i++(ws j++(ws b)),RG.z 12,ws c1,ws c2,ws p,ws t,ws r,ws u,ws m,ws d,ws g,ws n,ws o] [2,3,4,9,11,12,14,15] ⟨ld aS aJ,ld aS aJ,cl ((aW C g m).e h4),ld aS aJ,ld aS aJ,cl ((aW C g p).e Y),mk 12 183,mk 13 183,RG.pt aJ,RG.pt aJ,yCl⟩ ?_;intro hm hp hn k1 h5;repeat refine Uy ?_
  refine h5.D [.x (fv d),.x (fv d),.c (fv L),.x (fv n),.c (fv I),.x (fv o),.c (fv F),.c (fv l),.m 14,.u 14] [(8,RG.z 4)] [(14,9,ws l)] [ws f++(ws e++(ws k)),ws i++(ws j++(ws b)),RG.z 12,ws c1,ws c2,ws p,ws t,ws r,ws u,ws m,ws d,ws g,ws n,ws o,ws l] [2,3,4,9,11,12,14,15,16] ⟨ld aS aJ,ld aS aJ,cl ((aW C d d).e h1),ld aS aJ,cl ((eW C L n).e W),ld aS aJ,cl ((fO C o).e T),cl ((eW C I F).e U),mk 14 183,RG.pt aJ,yCl⟩ ?_;intro hr hz hs hl;repeat refine Uy ?_
  refine hl.D [.x (fv d),.x (fv o),.x (fv l),.c (fv K),.c (fv M),.x (fv n),.x (fv r),.c (fv J),.c (fv q),.m 15,.u 15] [(9,RG.z 4)] [(15,10,ws q)] [ws f++(ws e++(ws k)),ws i++(ws j++(ws b)),RG.z 12,ws c1,ws c2,ws p,ws t,ws r,ws u,ws m,ws d,ws g,ws n,ws o,ws l,ws q] [2,3,4,11,16,17] ⟨ld aS aJ,ld aS aJ,ld aS aJ,cl ((eW C o l).e V),cl ((aW C d K).e h0),ld aS aJ,ld aS aJ,cl ((aW C n r).e h2),cl ((eW C M J).e X),mk 15 183,RG.pt aJ,yCl⟩ ?_;intro ht hu hq h6;repeat refine Uy ?_
  refine h6.D [.x (fv l),.x (fv q),.s (.p 0 8),.x (fv k),.s (.p 1 8),.x (fv b),.c (fv H),.x (fv m),.c (fv x),.x (rv l q x),.u 2] [] [(2,10,ws l++(ws q++(ws x)))] [ws f++(ws e++(ws k)),ws i++(ws j++(ws b)),ws l++(ws q++(ws x)),ws c1,ws c2,ws p,ws t,ws r,ws u,ws m,ws d,ws g,ws n,ws o,ws l,ws q] [4] ⟨ld aS aJ,ld aS aJ,st,ld aS aJ,st,ld aS aJ,cl ((aW C k b).e S),ld aS aJ,cl ((aW C H m).e h3),st,RG.pt i117,yCl⟩ ?_;intro k0 hw D;refine We ?_;refine UD (v:=(rv l q x)) (aI D.st 4 185 rfl 2 _ rfl (D.at (s:=(.p 2 0))) iF i117) D.sl.defers ?_;exact⟨_,rfl,D.st.bel.below,rfl⟩
abbrev T3(P:Nat):=Fin P × Fin P × Fin P
abbrev tv(t:T3 P):Us:=rv t.1 t.2.1 t.2.2
abbrev tw(t:T3 P):List Us:=ws t.1++(ws t.2.1++ws t.2.2)
def JacT(t:T3 P)(p:EC.Pt P):Prop:=Jac t.1 t.2.1 t.2.2 p/\On p
def twJ(t:T3 P):T3 P:=(twX t.1 t.2.1,twY t.1 t.2.1,twZ t.2.1 t.2.2)
def plJ(a b:T3 P):T3 P:=
 if a.2.2=0 then b else if b.2.2=0 then a else
 if cN a.1 b.2.2=cN b.1 a.2.2/\eK a.2.1 b.2.2=eK b.2.1 a.2.2 then twJ a else
 (plX (cN a.1 b.2.2) (eK a.2.1 b.2.2) (cN b.1 a.2.2) (eK b.2.1 a.2.2),plY (cN a.1 b.2.2) (eK a.2.1 b.2.2) (cN b.1 a.2.2) (eK b.2.1 a.2.2),plZ a.2.2 b.2.2 (cN a.1 b.2.2) (cN b.1 a.2.2))
def opJ(t:T3 P):T3 P:=(t.1,0-t.2.1,t.2.2)
def raJ(x y:Fin P):T3 P:=if x=0/\y=0 then(0,0,0) else(x,y,1)
theorem Ns(C:Fld P)(t:T3 P):Gives 108 #[tv t] (tv (twJ t)):=Er C t.1 t.2.1 t.2.2
theorem Nz(C:Fld P)(a b:T3 P):Gives 109 #[tv a,tv b] (tv (plJ a b)):=by
 obtain⟨f,g,i⟩:=a;obtain⟨j,e,d⟩:=b;exact Gy C f g i j e d _ (λh=>by unfold plJ;rw[yCj h]) (λc k=>by unfold plJ;rw[yCk c,yCj k]) (λc k h=>by unfold plJ;rw[yCk c,yCk k,yCj h];rfl) (λc k h=>by unfold plJ;rw[yCk c,yCk k,yCk h])
theorem Ri(C:Fld P)(t:T3 P):Gives 184 #[tv t] (tv (opJ t)):=Dy C t.1 t.2.1 t.2.2
theorem QY(C:Fld P)(x y:Fin P):Gives 178 #[pv x y] (tv (raJ x y)):=by
 unfold raJ;by_cases k:x=0/\y=0
 ·rw[yCj k];exact Gq C x y k
 ·rw[yCk k];exact Gs C x y k
theorem QZ(C:Fld P)(t:T3 P):Gives 111 #[tv t] (pv (t.1*(inv t.2.2*inv t.2.2)) (t.2.1*(inv t.2.2*inv t.2.2)*inv t.2.2)):=Mf C t.1 t.2.1 t.2.2
theorem JacT.twice(C:Fld P){t:T3 P}{p:EC.Pt P}(h:JacT t p):JacT (twJ t) (EC.add p p):=⟨h.1.twice C.cur h.2,C.cur.on h.2 h.2⟩
theorem JacT.plus(C:Fld P){a b:T3 P}{p q:EC.Pt P}(h:JacT a p)(k:JacT b q):JacT (plJ a b) (EC.add p q):=by
 refine⟨?_,C.cur.on h.2 k.2⟩;obtain⟨n,j,i⟩:=a;obtain⟨l,m,g⟩:=b;unfold plJ;by_cases d:i=0
 ·rw[yCj d];obtain rfl:=h.1.zero C.cur d;exact k.1
 ·rw[yCk d];by_cases c:g=0
  ·rw[yCj c];obtain rfl:=k.1.zero C.cur c;rw[bK];exact h.1
  ·rw[yCk c];rcases h.1.plus C.cur h.2 k.1 k.2 d c with⟨f,e,e3⟩|⟨f,e⟩
   ·rw[yCj ⟨f,e⟩,e3];exact h.1.twice C.cur h.2
   ·rw[yCk f];exact e
theorem JacT.neg{t:T3 P}{p:EC.Pt P}(h:JacT t p):JacT (opJ t) (neg p):=⟨h.1.neg,cE h.2⟩
theorem Nx(C:Fld P){x y:Fin P}{p:EC.Pt P}(h:Pair x y p)(b:On p):JacT (raJ x y) p:=by
 refine⟨?_,b⟩;unfold raJ;by_cases k:x=0/\y=0
 ·obtain rfl:=h.nothing C.cur b k;rw[yCj k];rfl
 ·rw[yCk k];exact h.jac C.cur k
theorem JacT.pair(C:Fld P){t:T3 P}{p:EC.Pt P}(h:JacT t p):Pair (t.1*(inv t.2.2*inv t.2.2)) (t.2.1*(inv t.2.2*inv t.2.2)*inv t.2.2) p:=h.1.pair C.cur
theorem JacT.none:JacT ((0,0,0):T3 P) .none:=⟨rfl,iN⟩
end
namespace DG
def mN(d:Nat->Int):Nat->Int
 | 0=>0
 | k+1=>mN d k+d k*2^k
def upd(d:Nat->Int)(i:Nat)(v:Int):Nat->Int:=λj=>if j=i then v else d j
theorem xZ{d e:Nat->Int}:∀k,(∀j,j<k->d j=e j)->mN d k=mN e k
 | 0,_=>rfl
 | k+1,h=>by
  show mN d k+d k*2^k=mN e k+e k*2^k;rw[xZ k λj b=>h j oM,h k oM]
theorem xY{d:Nat->Int}(i:Nat)(h:∀j,i<=j->d j=0):∀k,mN d (i+k)=mN d i
 | 0=>rfl
 | k+1=>by
  show mN d (i+k)+d (i+k)*2^(i+k)=_;rw[h (i+k) oM,ZE,ZR,xY i h k]
theorem upd_same(d:Nat->Int)(i:Nat)(v:Int):upd d i v i=v:=yCj rfl
theorem iY{d:Nat->Int}{i j:Nat}{v:Int}(h:j≠i):upd d i v j=d j:=yCk h
theorem JF{d:Nat->Int}(i:Nat)(v:Int)(h:∀j,i<=j->d j=0)(k:Nat):mN (upd d i v) (i+1+k)=mN d i+v*2^i:=by
 rw[xY (i+1) (λj b=>by rw[iY oM];exact h j oM) k];show mN (upd d i v) i+upd d i v i*2^i=_;rw[upd_same,xZ i λj b=>iY oM]
structure DI(n:Nat)(d:Nat->Int)(i c:Nat):Prop where
 hc:c<=1
 hz:∀j,i<=j->d j=0
 hw:∀j,257<=j->d j=0
 ho:∀j,d j=0\/(d j%2=1/\-15<=d j/\d j<=15)
 hs:(n:Int)=mN d i+((n/2^i+c:Nat):Int)*2^i
 he:257<=i->n/2^i+c=0
theorem DI.start(n:Nat):DI n (λ_=>0) 0 0:=by
 refine⟨dC,λ_ _=>rfl,λ_ _=>rfl,λ_=>U3 rfl,?_,λh=>oM⟩;rw[YN,yBX];show(n:Int)=0+((n+0:Nat):Int)*1;omega
theorem high{n i:Nat}(k:n<2^256)(b:256<=i):n/2^i=0:=
 Xd (Uw k (Vz dC b))
theorem DI.skip{n i c:Nat}{d:Nat->Int}(h:DI n d i c)(f:n<2^256)(l:i<257)(g:n/2^i%2=c):DI n d (i+1) c:=by
 have k:n/2^(i+1)=n/2^i/2:=by rw[V6,XM]
 refine⟨h.hc,λj m=>h.hz j oM,h.hw,h.ho,?_,λe=>?_⟩
 ·rw[h.hs];show _=mN d i+d i*2^i+_;rw[h.hz i (Uv _),ZE,ZR,k,show n/2^i+c=(n/2^i/2+c)*2 by have:=h.hc;omega];rw[show(2:Int)^(i+1)=2^i*2 by rw[yBN]];generalize (2:Int)^i=t;rw[Xv,yAd,ZF (2:Nat) t];rfl
 ·have o:i=256:=oM;have b:n/2^i=0:=high f oM;rw[k,b];rw[b]at g;omega
theorem DI.take{n i c:Nat}{d:Nat->Int}(h:DI n d i c)(o:n<2^256)(s:i<257)(q:n/2^i%2≠c):
 DI n (upd d i (((n/2^i%32+c:Nat):Int)-32*(((n/2^i%32+c)/16:Nat):Int))) (i+5) ((n/2^i%32+c)/16):=by
 have b:n/2^(i+5)=n/2^i/32:=by rw[Yp,XM]
 have r:=h.hc;have k:(n/2^i%32+c)%2=1:=oM;have f:n/2^i%32+c<32:=oM;refine⟨oM,λj e=>?_,λj e=>?_,λj=>?_,?_,λg=>?_⟩
 ·rw[iY oM];exact h.hz j oM
 ·rw[iY oM];exact h.hw j e
 ·by_cases e:j=i
  ·subst e;rw[upd_same];right;omega
  ·rw[iY e];exact h.ho j
 ·rw[show i+5=i+1+4 by omega,JF i _ h.hz 4,show i+1+4=i+5 by omega,h.hs,Int.add_assoc]
  congr 1
  rw[b,Int.pow_add,show(2:Int)^5=32 by decide,<-ZF (32:Int),<-yAd,<-yBZ]
  congr 1
  omega
 ·have p:n/2^i<16:=by
   rw[Nat.div_lt_iff_lt_mul (XH dC)];refine Uw o ?_
   calc 2^256=16*2^252:=dK
    _<=16*2^i:=Nat.mul_le_mul (Uv _) (Vz dC oM)
  rw[b];generalize n/2^i=m at p q k f⊢;rw[UR (show m<32 by omega)]at k⊢;have l:m+c<16:=oM;rw[Xd l,Xd (show m<32 by omega)]
theorem DI.all{n i c:Nat}{d:Nat->Int}(h:DI n d i c)(b:257<=i):(n:Int)=mN d 257:=by
 have k:=h.hs;rw[h.he b,WG,ZE,ZR]at k;rw[k,show i=257+(i-257) by omega,xY 257 h.hw]
def hor(d:Nat->Int):Nat->Int
 | 0=>0
 | k+1=>2*hor d k+d (256-k)
theorem Fc(d:Nat->Int):∀k,k<=257->hor d k*2^(257-k)+mN d (257-k)=mN d 257
 | 0,_=>by show 0*_+_=_;rw[ZE,Int.zero_add]
 | k+1,hk=>by
  rw[<-Fc d k oM];show(2*hor d k+d (256-k))*2^(257-(k+1))+mN d (257-(k+1))=_;rw[show 257-(k+1)=256-k by omega,show 257-k=(256-k)+1 by omega];show _=hor d k*2^(256-k+1)+(mN d (256-k)+d (256-k)*2^(256-k));rw[yBN];generalize (2:Int)^(256-k)=t;generalize hor d k=a;rw[yBZ,ZF t 2,<-yAd,ZF a 2];omega
theorem MG{n i c:Nat}{d:Nat->Int}(h:DI n d i c)(b:257<=i):hor d 257=(n:Int):=by
 have k:=Fc d 257 (Uv _);rw[YU]at k;rw[h.all b,<-k];show hor d 257=hor d 257*1+0;omega
end DG
section
variable {P:Nat}[NeZero P]{N:Nat}
theorem J6(k o i:Nat)(b:i<257)(w:Uq):(Vk 188 (oZ k o) (iZ i)).run prog w=.ok (.pointer (some ⟨k,o+i,none⟩)) w:=by
 have d:¬(i:Int)<0:=oM;have c:(i:Int)<257:=oM;go_simp
theorem Qf(k i:Nat)(b:i<257)(w:Uq):(Vk 188 (jZ k) (iZ i)).run prog w=.ok (oZ k i) w:=by
 rw[J6 k 0 i b,UC]
theorem FQ(k o i:Nat)(b:i<8)(w:Uq):(Vk 186 (oZ k o) (iZ i)).run prog w=.ok (.pointer (some ⟨k,o+12*i,none⟩)) w:=by
 have d:¬(i:Int)<0:=oM;have c:(i:Int)<8:=oM;go_simp
theorem J7(k o i:Nat)(b:i<8)(w:Uq):(Vk 186 (oZ k o) (.int .i8 i)).run prog w=.ok (.pointer (some ⟨k,o+12*i,none⟩)) w:=by
 have d:¬(i:Int)<0:=oM;have c:(i:Int)<8:=oM;go_simp
theorem FS(k n c i:Nat)(b:i<n)(w:Uq):(Vk 182 (sZ k n c) (iZ i)).run prog w=.ok (.pointer (some ⟨k,353*i,none⟩)) w:=by
 go_simp
theorem SR(k o n c i:Nat)(b:i<n)(w:Uq):(Vk 89 (.slice (some ⟨k,o,none⟩) n c) (iZ i)).run prog w=.ok (.pointer (some ⟨k,o+4*i,none⟩)) w:=by
 go_simp
theorem NY(k o n c i:Nat)(b:i<n)(w:Uq):(Vk 100 (.slice (some ⟨k,o,none⟩) n c) (iZ i)).run prog w=.ok (.pointer (some ⟨k,o+8*i,none⟩)) w:=by
 go_simp
theorem NM(d:Int)(hd:-15<=d/\d<=15)(w:Uq):(Op.unary .neg (.int .i8 d)).run prog w=.ok (.int .i8 (-d)) w:=by
 have h:=ZV (-d) oM;go_simp
theorem NL(k:Nat)(b:k<8)(w:Uq):(binOp .quo 187 (.int .i8 (2*(k:Int)+1)) (.int .i8 2)).run prog w=.ok (.int .i8 k) w:=by
 have c:(2*(k:Int)+1).tdiv 2=(k:Int):=by rw[X7 oM];omega
 have h:=ZV (k:Int) oM;go_simp
theorem To(g:Nat)(k:g<32)(w:Uq):(binOp .shr 3 (iZ g) (uZ 4)).run prog w=.ok (iZ ((g/16:Nat):Int)) w:=by
 go_simp
theorem Tq(g:Nat)(b:g<32)(w:Uq):(binOp .shl 3 (iZ g) (uZ 5)).run prog w=.ok (iZ (32*(g:Int))) w:=by
 have h:=Wr (32*(g:Int)) oM;have k:(g:Int)*32=32*(g:Int):=oM;go_simp
theorem De(a b:Int)(c:-1000<=a/\a<=1000)(k:-1000<=b/\b<=1000)(w:Uq):(binOp .sub 3 (iZ a) (iZ b)).run prog w=.ok (iZ (a-b)) w:=by
 have h:=Wr (a-b) oM;go_simp
theorem uQ(a b:Nat)(c:a<=1000000)(k:b<=1000000)(w:Uq):(binOp .add 3 (iZ a) (iZ b)).run prog w=.ok (iZ ((a+b:Nat):Int)) w:=by
 have h:=Wr ((a:Int)+(b:Int)) oM;go_simp
theorem cv8(v:Int)(hv:-15<=v/\v<=15)(w:Uq):(convert 3 187 (iZ v)).run prog w=.ok (.int .i8 v) w:=by
 have h:=ZV v oM;go_simp
theorem Sy{b c:Nat}(e:b=c)(w:Uq):(binOp .eql 3 (iZ b) (iZ c)).run prog w=.ok (.bool true) w:=by
 subst e;go_simp
theorem Sz{b c:Nat}(e:¬b=c)(w:Uq):(binOp .eql 3 (iZ b) (iZ c)).run prog w=.ok (.bool false) w:=by
 have h:¬(b:Int)=(c:Int):=oM;go_simp
theorem gA{i n:Nat}(e:i<n)(w:Uq):(binOp .lss 3 (iZ i) (iZ n)).run prog w=.ok (.bool true) w:=by
 go_simp
theorem nH{i n:Nat}(e:¬i<n)(w:Uq):(binOp .lss 3 (iZ i) (iZ n)).run prog w=.ok (.bool false) w:=by
 go_simp
theorem Ky{n f c:Nat}(b:n<top)(hf:f<=256)(k:c<=32):Gives 220 #[nv n,iZ f,iZ c] (iZ ((n/2^f%2^c:Nat):Int)):=λw =>
 (CY _ n f c (vF b) hf k w).mono (by rintro e w' ⟨v,rfl,d,rfl⟩;exact⟨_,rfl,d,rfl⟩)
def dg(d:Nat->Int):List Us:=(List.range 257).map (λj=>VY .i8 (d j))
def dv(d:Nat->Int):Us:=.agg (dg d).toArray
theorem bQ(d:Nat->Int):(dg d).length=257:=by unfold dg;rw[UP,List.length_range]
theorem JJ(d:Nat->Int)(j:Nat)(k:j<257):(dg d)[j]? = some (.int .i8 (d j)):=by
 unfold dg;rw[List.getElem?_map,List.getElem?_range k];rfl
theorem PU(d:Nat->Int)(i:Nat)(v:Int):dg (DG.upd d i v)=(dg d).set i (.int .i8 v):=by
 apply YX;intro j;rw[List.getElem?_set];by_cases b:j<257
 ·rw[JJ _ j b,JJ _ j b];by_cases k:i=j
  ·subst k;rw[yCj rfl,yCj (by rw[bQ];exact b),DG.upd_same]
  ·rw[yCk k,DG.iY (λh=>k h.symm)]
 ·rw[Ww (by rw[bQ];omega)];by_cases k:i=j
  ·rw[yCj k,yCk (by rw[bQ];omega)]
  ·rw[yCk k,Ww (by rw[bQ];omega)]
theorem JI(d:Nat->Int):(dg d).all (·.oneCell')=true:=by
 unfold dg;rw[List.all_map];exact List.all_eq_true.2 λ_ _=>rfl
theorem PT(d:Nat->Int):((dg d).drop 0).take (dg d).length=dg d:=by rw[List.drop_zero,List.take_length]
def dgo(n:Nat):Nat->(Nat->Int)->Nat->Nat->(Nat->Int)
 | 0,d,_,_=>d
 | f+1,d,i,c=>if i<257 then(if n/2^i%2=c then dgo n f d (i+1) c else
  dgo n f (DG.upd d i (((n/2^i%32+c:Nat):Int)-32*(((n/2^i%32+c)/16:Nat):Int))) (i+5) ((n/2^i%32+c)/16)) else d
theorem Fy(n:Nat)(f:Nat)(d:Nat->Int)(i c:Nat)(h:¬i<257):dgo n f d i c=d:=by
 cases f with
 | zero=>rfl
 | succ f=>rw[dgo,yCk h]
theorem DZ{n:Nat}(k:n<2^256):∀(f:Nat) (d:Nat->Int) (i c:Nat),DG.DI n d i c->257<=i+f->∃g j,257<=g/\DG.DI n (dgo n f d i c) g j
 | 0,d,i,c,h,hf=>⟨i,c,oM,h⟩
 | f+1,d,i,c,h,hf=>by
  by_cases b:i<257
  ·rw[dgo,yCj b];by_cases e:n/2^i%2=c
   ·rw[yCj e];exact DZ k f d (i+1) c (h.skip k b e) oM
   ·rw[yCk e];exact DZ k f _ (i+5) _ (h.take k b e) oM
  ·rw[Fy n _ d i c b];exact⟨i,c,oM,h⟩
def eY(n:Nat):Nat->Int:=dgo n 257 (λ_=>0) 0 0
theorem A8{n:Nat}(k:n<2^256):∃i c,257<=i/\DG.DI n (eY n) i c:=DZ k 257 _ 0 0 (DG.DI.start n) oM
theorem u138:(prog.underlying 188).map (·.isRow)=some true:=kR
theorem i138:(prog.info? 188).map (·.size)=some 257:=kR
theorem TY:(prog.info? 187).map (·.size)=some 1:=kR
theorem QE:(prog.underlying 187).map (·.isRow)=some false:=kR
theorem N8(w:Uq):(Instr.alloc 188 true (.tuple #[])).run prog w=.ok (jZ w.heap.size) (w.alloc (.cells (dg (λ_=>0)).toArray 188)):=kR
theorem JH{n:Nat}(hn:n<top):Gives 177 #[nv n] (dv (eY n)):=by
 intro w;go_enter func177,ntmps177;refine Hx (v0:=nv n) (n:=33) kR kR kR ?_;intro a0 h2 f0;have h1:=RG.St.begin w;have r:RG.M w w.heap.size [] 33 [] [] [(0,.v (nv n))] a0 _:=⟨h1,h2,⟨f0,yCl⟩⟩
 repeat refine Uy ?_
 refine r.T [.m 0,.m 1] [(0,wn n),(1,dg (λ_=>0))] [] [wn n,dg (λ_=>0)] [1,2] ⟨mk 0 47,qH 1 rfl rfl _ rfl 188 rfl N8,yCl⟩ ?_;intro V W a1 w1 j;repeat refine Uy ?_
 refine j.T [.m 2] [(0,dg (λ_=>0))] [] [wn n,dg (λ_=>0),dg (λ_=>0)] [1,2,3] ⟨qH 2 rfl rfl _ rfl 188 rfl N8,yCl⟩ ?_;intro Y a2 w2 k;repeat refine Uy ?_
 refine k.U [.x (iZ 0)] [1,2,3,4] ⟨st,yCl⟩ ?_;intro p w3 f;repeat refine Uy ?_
 refine f.U [.x (iZ 0)] [1,2,3,4,5] ⟨st,yCl⟩ ?_;intro z w4 l;have M:z.tmps[1]? = some (jZ V):=l.at (s:=(.p 0 0));have K:z.tmps[2]? = some (jZ W):=l.at (s:=(.p 1 0));have L:z.tmps[3]? = some (jZ Y):=l.at (s:=(.p 2 0));have C:z.tmps[4]? = some (iZ 0):=l.at (s:=(.v (iZ 0)));have J:z.tmps[5]? = some (iZ 0):=l.at (s:=(.v (iZ 0)));repeat refine Uy ?_
 refine XG ?_;refine Ze (λm a wr=>∃(d:Nat->Int) (i c:Nat),c<=1/\i<=261/\257<=i+m/\dgo n m d i c=eY n/\Sl a 33/\a.tmps[1]? = some (jZ V)/\a.tmps[2]? = some (jZ W)/\a.tmps[3]? = some (jZ Y)/\a.tmps[4]? = some (iZ c)/\a.tmps[5]? = some (iZ i)/\RG.St w w.heap.size [] [wn n,dg (λ_=>0),dg d] [V,W,Y] wr) 257 ⟨λ_=>0,0,0,oM,oM,oM,rfl,l.sl,M,K,L,C,J,l.st⟩ ?_;intro m a wr;rintro⟨d,i,c,hc,h4,hm,hd,sl,y,f2,u,f4,f5,x⟩;obtain⟨b,T⟩:∃b,n/2^i%2=b:=⟨_,rfl⟩
 obtain⟨e,I⟩:∃e,n/2^i%32=e:=⟨_,rfl⟩
 obtain⟨g,S⟩:∃g,e+c=g:=⟨_,rfl⟩
 obtain⟨v,A⟩:∃v:Int,(g:Int)-32*((g/16:Nat):Int)=v:=⟨_,rfl⟩
 generalize V=Q at y f2 u x;generalize W=U at y f2 u x;generalize Y=B at y f2 u x;by_cases q:i<257
 ·have G:Gives 220 #[nv n,iZ i,iZ 1] (iZ b):=by rw[<-T];exact Ky (c:=1) hn oM oM
  have Z:Gives 220 #[nv n,iZ i,iZ 5] (iZ e):=by rw[<-I];exact Ky (c:=5) hn oM oM
  have h0:∃o,m=o+1:=by
   cases m with
   | zero=>exact absurd hm oM
   | succ o=>exact⟨o,rfl⟩
  obtain⟨o,rfl⟩:=h0;rw[dgo,yCj q,T,I,S,A]at hd;by_cases X:b=c
  ·rw[yCj X]at hd;have r:RG.M w w.heap.size [] 33 [wn n,dg (λ_=>0),dg d] [Q,U,B] [(1,.p 0 0),(2,.p 1 0),(3,.p 2 0),(4,.v (iZ c)),(5,.v (iZ i))] a _:=⟨x,sl,⟨y,f2,u,f4,f5,yCl⟩⟩
   repeat refine Uy ?_
   refine r.U [.x (iZ i),.x (.bool true)] [1,2,3,4,5,8] ⟨st,aP rfl .lss 3 3 7 (iZ i) (iZ 257) (.bool true) rfl rfl sx (λw=>kR) (gA (n:=257) q),yCl⟩ ?_;intro a1 w1 j;repeat refine Uy ?_
   refine VD j.ev ?_;refine WR ?_;refine Uy ?_;refine XG ?_;repeat refine Uy ?_
   refine j.U [.x (nv n),.x (iZ i),.c (iZ b),.x (iZ c),.x (.bool true)] [1,2,3,4,5,15] ⟨ld u85 i85,st,cl G,st,aQ rfl .eql 3 3 13 14 (iZ b) (iZ c) (.bool true) rfl rfl sx sx (λw=>kR) (Sy X),yCl⟩ ?_;intro a2 w2 k;repeat refine Uy ?_
   refine VD k.ev ?_;refine wp_exit ?_;dsimp only[Exit.then,Yu];rw[yCj rfl];repeat refine Uy ?_
   refine k.U [.x (iZ i),.x (iZ ((i+1:Nat):Int)),.x (iZ ((i+1:Nat):Int))] [1,2,3,4,5] ⟨st,aP rfl .add 3 3 9 (iZ i) (iZ 1) (iZ ((i+1:Nat):Int)) rfl rfl sx (λw=>kR) (uQ i 1 oM oM),st,yCl⟩ ?_;intro p w3 f;have t:p.tmps[1]? = some (jZ Q):=f.at (s:=(.p 0 0));have E:p.tmps[2]? = some (jZ U):=f.at (s:=(.p 1 0));have D:p.tmps[3]? = some (jZ B):=f.at (s:=(.p 2 0));have F:p.tmps[4]? = some (iZ c):=f.at (s:=(.v (iZ c)));have H:p.tmps[5]? = some (iZ ((i+1:Nat):Int)):=f.at (s:=(.v (iZ ((i+1:Nat):Int))));show ∃n',_;exact⟨o,YG o,d,i+1,c,hc,oM,oM,hd,f.sl,t,E,D,F,H,f.st⟩
  ·rw[yCk X]at hd;have he:e<32:=oM;have h3:g%2=1:=oM;have hg:g<32:=oM;have hv:-15<=v/\v<=15:=oM;have E:∀w,(binOp .add 3 (iZ e) (iZ c)).run prog w=.ok (iZ g) w:=λw=>by rw[uQ e c oM oM,S]
   have D:∀w,(binOp .sub 3 (iZ g) (iZ (32*((g/16:Nat):Int)))).run prog w=.ok (iZ v) w:=λw=>by rw[De _ _ oM oM,A]
   have r:RG.M w w.heap.size [] 33 [wn n,dg (λ_=>0),dg d] [Q,U,B] [(1,.p 0 0),(2,.p 1 0),(3,.p 2 0),(4,.v (iZ c)),(5,.v (iZ i))] a _:=⟨x,sl,⟨y,f2,u,f4,f5,yCl⟩⟩
   repeat refine Uy ?_
   refine r.U [.x (iZ i),.x (.bool true)] [1,2,3,4,5,8] ⟨st,aP rfl .lss 3 3 7 (iZ i) (iZ 257) (.bool true) rfl rfl sx (λw=>kR) (gA (n:=257) q),yCl⟩ ?_;intro a1 w1 j;repeat refine Uy ?_
   refine VD j.ev ?_;refine WR ?_;refine Uy ?_;refine XG ?_;repeat refine Uy ?_
   refine j.U [.x (nv n),.x (iZ i),.c (iZ b),.x (iZ c),.x (.bool false)] [1,2,3,4,5,15] ⟨ld u85 i85,st,cl G,st,aQ rfl .eql 3 3 13 14 (iZ b) (iZ c) (.bool false) rfl rfl sx sx (λw=>kR) (Sz X),yCl⟩ ?_;intro a2 w2 k;repeat refine Uy ?_
   refine VH k.ev ?_;refine WR ?_;repeat refine Uy ?_
   refine k.U [.x (nv n),.x (iZ i),.c (iZ e),.x (iZ c),.x (iZ g),.x (iZ g)] [1,2,3,4,5,6] ⟨ld u85 i85,st,cl Z,st,aQ rfl .add 3 3 18 19 (iZ e) (iZ c) (iZ g) rfl rfl sx sx (λw=>kR) E,st,yCl⟩ ?_;intro p w3 f;repeat refine Uy ?_
   refine f.U [.x (iZ g),.x (iZ ((g/16:Nat):Int)),.x (iZ ((g/16:Nat):Int))] [1,2,3,4,5,6] ⟨st,aP rfl .shr 3 169 21 (iZ g) (uZ 4) (iZ ((g/16:Nat):Int)) rfl rfl sx (λw=>kR) (To g hg),st,yCl⟩ ?_;intro z w4 l;repeat refine Uy ?_
   refine l.T [.x (iZ i),.x (iZ g),.x (iZ ((g/16:Nat):Int)),.x (iZ (32*((g/16:Nat):Int))),.x (iZ v),.x (.int .i8 v),.s (.p 2 i),.u 2] [] [(2,7,dg (DG.upd d i v))] [wn n,dg (λ_=>0),dg (DG.upd d i v)] [1,2,3,4,5] ⟨st,st,st,aP rfl .shl 3 169 25 (iZ ((g/16:Nat):Int)) (uZ 5) (iZ (32*((g/16:Nat):Int))) rfl rfl sx (λw=>kR) (Tq (g/16) oM),aQ rfl .sub 3 3 24 26 (iZ g) (iZ (32*((g/16:Nat):Int))) (iZ v) rfl rfl sx sx (λw=>kR) D,GV rfl 3 187 27 (iZ v) (.int .i8 v) rfl rfl sx (cv8 v hv),bD rfl 188 3 23 rfl (.p 2 0) (iZ i) sx sx (λμ w=>Qf _ i q w),GU 2 i rfl _ rfl 187 (.tmp 29) (.tmp 28) (.int .i8 v) rfl rfl sx sx (by show i<(dg _).length;rw[bQ];exact q) (PU d i v) TY rfl rfl,yCl⟩ ?_;intro a5 w5 M5;repeat refine Uy ?_
   refine M5.U [.x (iZ i),.x (iZ ((i+4:Nat):Int)),.x (iZ ((i+4:Nat):Int))] [1,2,3,4,5] ⟨st,aP rfl .add 3 3 30 (iZ i) (iZ 4) (iZ ((i+4:Nat):Int)) rfl rfl sx (λw=>kR) (uQ i 4 oM oM),st,yCl⟩ ?_;intro a6 w6 M6;repeat refine Uy ?_
   refine M6.U [.x (iZ ((i+4:Nat):Int)),.x (iZ ((i+4+1:Nat):Int)),.x (iZ ((i+4+1:Nat):Int))] [1,2,3,4,5] ⟨st,aP rfl .add 3 3 9 (iZ ((i+4:Nat):Int)) (iZ 1) (iZ ((i+4+1:Nat):Int)) rfl rfl sx (λw=>kR) (uQ (i+4) 1 oM oM),st,yCl⟩ ?_;intro P w7 t;have F:P.tmps[1]? = some (jZ Q):=t.at (s:=(.p 0 0));have O:P.tmps[2]? = some (jZ U):=t.at (s:=(.p 1 0));have N:P.tmps[3]? = some (jZ B):=t.at (s:=(.p 2 0));have R:P.tmps[4]? = some (iZ ((g/16:Nat):Int)):=t.at (s:=(.v (iZ ((g/16:Nat):Int))));have H:P.tmps[5]? = some (iZ ((i+4+1:Nat):Int)):=t.at (s:=(.v (iZ ((i+4+1:Nat):Int))));show ∃n',_;exact⟨o,YG o,DG.upd d i v,i+5,g/16,oM,oM,oM,hd,t.sl,F,O,N,R,H,t.st⟩
 ·have o:d=eY n:=by rw[<-hd,Fy n m d i c q]
  have r:RG.M w w.heap.size [] 33 [wn n,dg (λ_=>0),dg d] [Q,U,B] [(1,.p 0 0),(2,.p 1 0),(3,.p 2 0),(4,.v (iZ c)),(5,.v (iZ i))] a _:=⟨x,sl,⟨y,f2,u,f4,f5,yCl⟩⟩
  repeat refine Uy ?_
  refine r.U [.x (iZ i),.x (.bool false)] [2,3,8] ⟨st,aP rfl .lss 3 3 7 (iZ i) (iZ 257) (.bool false) rfl rfl sx (λw=>kR) (nH (n:=257) q),yCl⟩ ?_;intro a1 w1 j;repeat refine Uy ?_
  refine VH j.ev ?_;refine wp_exit ?_;dsimp only[Exit.then,Yu];rw[yCj rfl];repeat refine Uy ?_
  refine j.T [.x (dv d),.u 1] [] [(1,1,dg d)] [wn n,dg d,dg d] [2] ⟨oI rfl 2 0 _ rfl rfl kR 188 3 rfl (dg d) rfl sx (PT _) u138 (by rw[bQ];exact i138),JU 1 rfl _ rfl 188 (.tmp 2) (.tmp 32) rfl rfl (by show(dg _).length=(dg _).length;rw[bQ,bQ]) sx sx (by show _=some (dg _).length;rw[bQ];exact i138) (JI _),yCl⟩ ?_;intro a2 w2 k;refine We ?_;refine UD (v:=dv d) (aI k.st 2 188 rfl 1 _ rfl (k.at (s:=(.p 1 0))) u138 (by rw[bQ];exact i138)) k.sl.defers ?_;exact⟨_,rfl,k.st.bel.below,by rw[o]⟩
omit [NeZero P] in
theorem cJ(t:T3 P):(tw t).length=12:=rfl
omit [NeZero P] in
theorem H5(t:T3 P):(tw t).all (·.oneCell')=true:=rfl
def od(x y:Fin P):Nat->T3 P
 | 0=>raJ x y
 | q+1=>plJ (od x y q) (twJ (raJ x y))
theorem O4(C:Fld P){x y:Fin P}{p:EC.Pt P}(h:Pair x y p)(k:On p):∀q,JacT (od x y q) (eF ((2*q+1:Nat):Int) p)
 | 0=>by
  show JacT (raJ x y) (eF 1 p);rw[Bv];exact Nx C h k
 | q+1=>by
  have d:=O4 C h k q;have b:=(Nx C h k).twice C;have c:=d.plus C b;have e:eF ((2*(q+1)+1:Nat):Int) p=EC.add (eF ((2*q+1:Nat):Int) p) (EC.add p p):=by
   have:EC.add p p=eF 2 p:=by
    rw[show(2:Int)=1+1 by rfl,vU C.cur k,Bv]
   rw[this,<-vU C.cur k]
   congr 1
  rw[e];exact c
structure Fi(x y:Fin P)(D:Nat->Int)(C0:List Us)(off m:Nat)(C:List Us):Prop where
 len:C.length=C0.length
 out:∀j,j<off\/off+353<=j->C[j]? = C0[j]?
 dig:∀j,j<257->C[off+96+j]? = some (.int .i8 (D j))
 odd:∀q j,q<m->j<12->C[off+12*q+j]? = (tw (od x y q))[j]?
theorem Fi.first{x y:Fin P}{D:Nat->Int}{C0:List Us}{off:Nat}(h:off+353<=C0.length):Fi x y D C0 off 0 (rep C0 (off+96) (dg D)):=by
 have k:off+96+(dg D).length<=C0.length:=by rw[bQ];omega
 refine⟨cU k,λj b=>?_,λj b=>?_,λq j c _=>oM⟩
 ·rw[RG.rep_at k,yCk (by rw[bQ];omega)]
 ·rw[RG.rep_at k,yCj (by rw[bQ];omega),show off+96+j-(off+96)=j by omega,JJ D j b]
theorem Fi.next{x y:Fin P}{D:Nat->Int}{C0 C:List Us}{off m:Nat}(h:off+353<=C0.length)(d:Fi x y D C0 off m C)(g:m<8):Fi x y D C0 off (m+1) (rep C (off+12*m) (tw (od x y m))):=by
 have b:=d.len;have c:off+12*m+(tw (od x y m)).length<=C.length:=by rw[cJ];omega
 refine⟨by rw[cU c];exact b,λj k=>?_,λj k=>?_,λq j f k=>?_⟩
 ·rw[RG.rep_at c,yCk (by rw[cJ];omega)];exact d.out j k
 ·rw[RG.rep_at c,yCk (by rw[cJ];omega)];exact d.dig j k
 ·rw[RG.rep_at c];by_cases e:q=m
  ·subst e;rw[yCj (by rw[cJ];omega),show off+12*q+j-(off+12*q)=j by omega]
  ·rw[yCk (by rw[cJ];omega)];exact d.odd q j oM k
theorem Fi.sub{x y:Fin P}{D:Nat->Int}{C0 C:List Us}{off m q:Nat}(h:off+353<=C0.length)(k:Fi x y D C0 off m C)(c:q<m)(d:m<=8):(C.drop (off+12*q)).take (tw (od x y q)).length=tw (od x y q):=
 Oz (λj b=>k.odd q j c (by rw[cJ]at b;exact b)) (by rw[cJ];have:=k.len;omega)
def fc(x y:Fin P)(D:Nat->Int)(C0:List Us)(off:Nat):Nat->List Us
 | 0=>rep C0 (off+96) (dg D)
 | m+1=>rep (fc x y D C0 off m) (off+12*m) (tw (od x y m))
theorem Fq{x y:Fin P}{D:Nat->Int}{C0:List Us}{off:Nat}(h:off+353<=C0.length):∀m,m<=8->Fi x y D C0 off m (fc x y D C0 off m)
 | 0,_=>Fi.first h
 | m+1,hm=>(Fq h m oM).next h oM
theorem Fi.uniq{x y:Fin P}{D:Nat->Int}{C0 C c:List Us}{off:Nat}(h:Fi x y D C0 off 8 C)(k:Fi x y D C0 off 8 c):C=c:=by
 apply YX;intro j;by_cases b:j<off\/off+353<=j
 ·rw[h.out j b,k.out j b]
 ·by_cases d:j<off+96
  ·have e:j=off+12*((j-off)/12)+(j-off)%12:=oM;rw[e,h.odd _ _ oM oM,k.odd _ _ oM oM]
  ·have e:j=off+96+(j-off-96):=oM;rw[e,h.dig _ oM,k.dig _ oM]
theorem PP(F:Fld P){n:Nat}(hn:n<top)(x y:Fin P)(C0:List Us)(k off:Nat)(j:off+353<=C0.length)(w:Uq)(hk:k<w.heap.size)(ht:w.there k 0 C0.length)(hr:w.rangeAt k 0 C0):
 UG prog 107 #[oZ k off,nv n,pv x y] w (Ret λr w'=>(∃C,Fi x y (eY n) C0 off 8 C/\PutTo k C0.length C w w')/\r=.tuple #[]):=by
 obtain⟨D,p⟩:∃D,eY n=D:=⟨_,rfl⟩
 have hD:Gives 177 #[nv n] (dv D):=p ▸ JH hn;obtain⟨s0,e⟩:∃s,raJ x y=s:=⟨_,rfl⟩
 have hc:Gives 178 #[pv x y] (tv s0):=e ▸ QY F x y;obtain⟨s2,d⟩:∃s,twJ s0=s:=⟨_,rfl⟩
 have h8:Gives 108 #[tv s0] (tv s2):=d ▸ Ns F s0;obtain⟨f,t⟩:∃c,rep C0 (off+96) (dg D)=c:=⟨_,rfl⟩
 have L:off+96+(dg D).length<=C0.length:=by rw[bQ];omega
 have Y:=t ▸ RG.rep_at L;have h1:f.length=C0.length:=t ▸ cU L;have F1:Fi x y D C0 off 0 f:=t ▸ Fi.first j;obtain⟨l,b⟩:∃c,rep f (off+0+12*0) (tw s0)=c:=⟨_,rfl⟩
 have o:off+0+12*0+(tw s0).length<=f.length:=by rw[cJ];omega
 have E:=b ▸ RG.rep_at o;have A:l.length=f.length:=b ▸ cU o;have F2:Fi x y D C0 off 1 l:=by
  have:=F1.next j dC;rw[<-b,<-e];exact this
 have v:(l.drop (off+0+12*0)).take (tw s0).length=tw s0:=by
  have:=F2.sub j (q:=0) dC dC;rw[<-e];exact this
 obtain⟨i,hp⟩:∃i:Nat,i=0:=⟨_,rfl⟩
 obtain⟨s3,-⟩:∃s:T3 P,s=s0:=⟨_,rfl⟩
 obtain⟨G,-⟩:∃s:T3 P,s=s0:=⟨_,rfl⟩
 go_enter func107,ntmps107;refine Ta (v0:=oZ k off) (v1:=nv n) (v2:=pv x y) (n:=43) kR kR kR kR kR ?_;intro a0 hg f0 f1 f2;have he:=RG.St.lent hk hr ht;have X:RG.M w w.heap.size [k] 43 [C0] [k] [(0,.p 0 off),(1,.v (nv n)),(2,.v (pv x y))] a0 _:=⟨he,hg,⟨f0,f1,f2,yCl⟩⟩
 repeat refine Uy ?_
 refine X.T [.m 1,.m 2] [(0,wn n),(1,ws x++(ws y))] [] [C0,wn n,ws x++(ws y)] [0,4,5] ⟨mk 1 47,mk 2 93,yCl⟩ ?_;intro O M B w1 g;have K:B.tmps[0]? = some (oZ k off):=g.at (s:=(.p 0 off));have h4:B.tmps[4]? = some (jZ O):=g.at (s:=(.p 1 0));have T:B.tmps[5]? = some (jZ M):=g.at (s:=(.p 2 0));have g:RG.M w w.heap.size [k] 43 [C0,wn n,ws x++(ws y)] [k,O,M] [(0,.p 0 off),(4,.p 1 0),(5,.p 2 0)] B _:=⟨g.st,g.sl,⟨K,h4,T,yCl⟩⟩
 repeat refine Uy ?_
 refine g.tx [.s 8 [] (.p 0 off),.x 9 [] (nv n),.c 10 [(9,1)] (dv D),.s 11 [(8,0)] (.p 0 off),.s 12 [(11,3)] (.p 0 (off+96)),.u [(12,4),(10,2)] 0] [] [(0,5,f)] [f,wn n,ws x++(ws y)] [(0,.p 0 off),(5,.p 2 0)] kR (congrArg (λn=>[n]) h1) ⟨st,ld u85 i85,cl hD,st,st,eZ 0 (off+96) rfl _ rfl 188 (.tmp 12) (.tmp 10) (dg D) rfl rfl sx sx (by show off+96+(dg D).length<=C0.length;rw[bQ];omega) Y (by show _=some (dg _).length;rw[bQ];exact i138) (JI _),yCl⟩ ?_;intro a2 w2 J;have h5:a2.tmps[0]? = some (oZ k off):=J.at (s:=(.p 0 off));have h0:a2.tmps[5]? = some (jZ M):=J.at (s:=(.p 2 0));have J:RG.M w w.heap.size [k] 43 [f,wn n,ws x++(ws y)] [k,O,M] [(0,.p 0 off),(5,.p 2 0)] a2 _:=⟨J.st,J.sl,⟨h5,h0,yCl⟩⟩
 repeat refine Uy ?_
 refine J.dr kR [.s 13 [] (.p 0 off),.x 14 [] (pv x y),.c 15 [(14,1)] (tv s0),.s 16 [(13,0)] (.p 0 off),.s 17 [(16,3)] (.p 0 (off+0)),.s 18 [(17,4)] (.p 0 ((off+0)+12*0)),.u [(18,5),(15,2)] 0] [] [(0,6,l)] [l,wn n,ws x++(ws y)] [(0,.p 0 off)] kR (congrArg (λn=>[n]) A) ⟨st,ld gU i109,cl hc,st,st,eM rfl 186 17 (iZ 0) rfl (.p 0 (off+0)) sx (λμ w=>FQ _ _ 0 dC w),eZ 0 ((off+0)+12*0) rfl _ rfl 185 (.tmp 18) (.tmp 15) (tw s0) rfl rfl sx sx (by show off+0+12*0+(tw s0).length<=f.length;rw[cJ];omega) E i117 (H5 _),yCl⟩ ?_;intro Q w3 z;have u:Q.tmps[0]? = some (oZ k off):=z.at (s:=(.p 0 off));have z:RG.M w w.heap.size [k] 43 [l,wn n,ws x++(ws y)] [k,O,M] [(0,.p 0 off)] Q _:=⟨z.st,z.sl,⟨u,yCl⟩⟩
 repeat refine Uy ?_
 refine z.T [.s (.p 0 off),.s (.p 0 off),.s (.p 0 (off+0)),.s (.p 0 ((off+0)+12*0)),.x (tv s0),.c (tv s2),.m 3,.u 3] [(6,RG.z 12)] [(3,7,tw s2)] [l,wn n,ws x++(ws y),tw s2] [0,6] ⟨st,st,st,eM rfl 186 21 (iZ 0) rfl (.p 0 (off+0)) sx (λμ w=>FQ _ _ 0 dC w),oI rfl 0 ((off+0)+12*0) _ rfl rfl kR 185 22 rfl (tw s0) rfl sx v iF i117,cl h8,mk 3 185,RG.pt i117,yCl⟩ ?_;intro j4 a4 w4 M4;repeat refine Uy ?_
 refine M4.U [.x (iZ 1)] [0,6,7] ⟨st,yCl⟩ ?_;intro a5 w5 U;have W:a5.tmps[0]? = some (oZ k off):=U.at (s:=(.p 0 off));have h6:a5.tmps[6]? = some (jZ j4):=U.at (s:=(.p 3 0));have h3:a5.tmps[7]? = some (iZ 1):=U.at (s:=(.v (iZ 1)));subst p;subst e;subst d;clear Y E v h1 A L o;repeat refine Uy ?_
 refine XG ?_;refine Ze (λm a wr=>∃(i:Nat) (C:List Us),1<=i/\i<=8/\i+m=8/\Fi x y (eY n) C0 off i C/\Sl a 43/\a.tmps[0]? = some (oZ k off)/\a.tmps[6]? = some (jZ j4)/\a.tmps[7]? = some (iZ i)/\RG.St w w.heap.size [k] [C,wn n,ws x++ws y,tw (twJ (raJ x y))] [k,O,M,j4] wr) 7 ⟨1,l,oM,oM,oM,F2,U.sl,W,h6,h3,U.st⟩ ?_;intro m a wr;rintro⟨i,f,hq,hs,hm,S,sl,g0,V,g7,R⟩;generalize O=k1 at V R;generalize M=k2 at V R;generalize j4=k3 at V R;obtain⟨D,p⟩:∃D,eY n=D:=⟨_,rfl⟩
 rw[p]at S;obtain⟨s0,e⟩:∃s,raJ x y=s:=⟨_,rfl⟩
 obtain⟨s2,d⟩:∃s,twJ (raJ x y)=s:=⟨_,rfl⟩
 rw[d]at R;obtain⟨G,H⟩:∃s,od x y (i-1)=s:=⟨_,rfl⟩
 obtain⟨s3,I⟩:∃s,plJ G s2=s:=⟨_,rfl⟩
 have ha:Gives 109 #[tv G,tv s2] (tv s3):=I ▸ Nz F G s2;have hj:=S.len;by_cases hi:i<8
 ·have hb:od x y i=s3:=by
   obtain⟨q,rfl⟩:∃q,i=q+1:=⟨i-1,oM⟩
   rw[<-I,<-H,<-d];rfl
  have N:(f.drop (off+0+12*(i-1))).take (tw G).length=tw G:=by
   have:=S.sub j (q:=i-1) oM oM;rw[H]at this;exact this
  obtain⟨l,b⟩:∃c,rep f (off+0+12*i) (tw s3)=c:=⟨_,rfl⟩
  have o:off+0+12*i+(tw s3).length<=f.length:=by rw[cJ];omega
  have E:=b ▸ RG.rep_at o;have A:l.length=f.length:=b ▸ cU o;have h9:Fi x y D C0 off (i+1) l:=by
   have:=S.next j hi;rw[hb]at this;rw[<-b];exact this
  have h7:∀w,(binOp .sub 3 (iZ i) (iZ 1)).run prog w=.ok (iZ ((i-1:Nat):Int)) w:=λw=>by
   rw[De _ _ oM oM,show(i:Int)-1=((i-1:Nat):Int) by omega]
  clear e b;have X:RG.M w w.heap.size [k] 43 [f,wn n,ws x++(ws y),tw s2] [k,k1,k2,k3] [(0,.p 0 off),(6,.p 3 0),(7,.v (iZ i))] a _:=⟨R,sl,⟨g0,V,g7,yCl⟩⟩
  repeat refine Uy ?_
  refine X.U [.x (iZ i),.x (.bool true)] [0,6,7,26] ⟨st,aP rfl .lss 3 3 25 (iZ i) (iZ 8) (.bool true) rfl rfl sx (λw=>kR) (gA (n:=8) hi),yCl⟩ ?_;intro B w1 g;repeat refine Uy ?_
  refine VD g.ev ?_;refine WR ?_;refine Uy ?_;refine XG ?_;repeat refine Uy ?_
  refine g.dr kR [.s 29 [] (.p 0 off),.x 30 [] (iZ i),.s 31 [] (.p 0 off),.x 32 [] (iZ i),.x 33 [(32,3)] (iZ ((i-1:Nat):Int)),.s 34 [(31,2)] (.p 0 off),.s 35 [(34,5)] (.p 0 (off+0)),.s 36 [(35,6),(33,4)] (.p 0 ((off+0)+12*(i-1))),.x 37 [(36,7)] (tv G),.x 38 [] (tv s2),.c 39 [(37,8),(38,9)] (tv s3),.s 40 [(29,0)] (.p 0 off),.s 41 [(40,11)] (.p 0 (off+0)),.s 42 [(41,12),(30,1)] (.p 0 ((off+0)+12*i)),.u [(42,13),(39,10)] 0] [] [(0,14,l)] [l,wn n,ws x++(ws y),tw s2] [(0,.p 0 off),(6,.p 3 0),(7,.v (iZ i))] kR (congrArg (λn=>[n]) A) ⟨st,st,st,st,aP rfl .sub 3 3 32 (iZ i) (iZ 1) (iZ ((i-1:Nat):Int)) rfl rfl sx (λw=>kR) h7,st,st,bD rfl 186 35 33 rfl (.p 0 (off+0)) (iZ ((i-1:Nat):Int)) sx sx (λμ w=>FQ _ _ (i-1) oM w),oI rfl 0 ((off+0)+12*(i-1)) _ rfl rfl kR 185 36 rfl (tw G) rfl sx N iF i117,ld iF i117,cl ha,st,st,bD rfl 186 41 30 rfl (.p 0 (off+0)) (iZ i) sx sx (λμ w=>FQ _ _ i oM w),eZ 0 ((off+0)+12*i) rfl _ rfl 185 (.tmp 42) (.tmp 39) (tw s3) rfl rfl sx sx (by show off+0+12*i+(tw s3).length<=f.length;rw[cJ];omega) E i117 (H5 _),yCl⟩ ?_;intro a2 w2 J;repeat refine Uy ?_
  refine J.U [.x (iZ i),.x (iZ ((i+1:Nat):Int)),.x (iZ ((i+1:Nat):Int))] [0,6,7] ⟨st,aP rfl .add 3 3 27 (iZ i) (iZ 1) (iZ ((i+1:Nat):Int)) rfl rfl sx (λw=>kR) (uQ i 1 oM oM),st,yCl⟩ ?_;intro Q w3 z;have u:Q.tmps[0]? = some (oZ k off):=z.at (s:=(.p 0 off));have h2:Q.tmps[6]? = some (jZ k3):=z.at (s:=(.p 3 0));have Z:Q.tmps[7]? = some (iZ ((i+1:Nat):Int)):=z.at (s:=(.v (iZ ((i+1:Nat):Int))));show ∃n',_;exact⟨m-1,oM,i+1,l,oM,oM,oM,p.symm ▸ h9,z.sl,u,h2,Z,by rw[d];exact z.st⟩
 ·have N:i=8:=oM;obtain⟨l,-⟩:∃c:List Us,c=f:=⟨_,rfl⟩
  have X:RG.M w w.heap.size [k] 43 [f,wn n,ws x++(ws y),tw s2] [k,k1,k2,k3] [(0,.p 0 off),(6,.p 3 0),(7,.v (iZ i))] a _:=⟨R,sl,⟨g0,V,g7,yCl⟩⟩
  repeat refine Uy ?_
  refine X.U [.x (iZ i),.x (.bool false)] [0,6,7,26] ⟨st,aP rfl .lss 3 3 25 (iZ i) (iZ 8) (.bool false) rfl rfl sx (λw=>kR) (nH (n:=8) hi),yCl⟩ ?_;intro B w1 g;repeat refine Uy ?_
  refine VH g.ev ?_;refine wp_exit ?_;dsimp only[Exit.then,Yu];rw[yCj rfl];have K:B.tmps[0]? = some (oZ k off):=g.at (s:=(.p 0 off));have Z:B.tmps[6]? = some (jZ k3):=g.at (s:=(.p 3 0));have hl:B.tmps[7]? = some (iZ i):=g.at (s:=(.v (iZ i)));exact⟨g.sl.defers,.tuple #[],RG.results_none rfl,_,rfl,⟨f,p.symm ▸ N ▸ S,g.st.putTo S.len⟩,rfl⟩
end
end Go.Proofs.YtdoammpgchejcaaGreat
