import Derived.Deep.RegionHeld3
import Derived.Deep.LoopGhost
import Derived.Laws.BitsLemmas
import Derived.OrdersHeld
import Derived.Deep.RegionHeld
import Derived.Deep.CutRange
import Derived.Deep.DeepCutAuto
import Derived.Laws.Tables
import Derived.LoopN
import Derived.Deep.RegionWith
import Derived.Deep.Draws
import Derived.Deep.OwnRows
import Derived.Lib.LazyBuf
import Derived.Lib.ConvBytes
import Derived.Test.YtlofhpkoaljmeaaGreatat1
set_option linter.unusedVariables false
set_option linter.defProp false
set_option linter.constructorNameAsVariable false
set_option linter.unusedSimpArgs false
set_option maxRecDepth 1000000
set_option maxHeartbeats 4000000
namespace Go.Proofs.YtlofhpkoaljmeaaGreat
open EC RG
open _root_.Array renaming getElem?_eq_none->ZY,getElem?_replicate->yAZ,getElem_replicate->Zp,getElem_toList->yAn,length_toList->X0,replicate->XW,size_append->Ys,size_replicate->X8
open _root_.Bool renaming noConfusion->yBl
open _root_.Classical renaming byContradiction->Zw
open _root_.Fin renaming ext_iff->yEQ
open _root_.Go renaming Calls->ZI,FuncId->ZZ,Oper->Yw,Program->YO,TypeId->Yj,Value->XG,World->XF,bodyPost_ret->XR,getD_set_ne->yAI,rounds_succ->ZV,sizeOf->yCV,undef->ZB,wp_block->Zk,wp_cond_false->Yh,wp_cond_true->YH,wp_loop_ghost->yBL,wp_ret->Zj,wp_seq->XL,wp_skip->Y2
open _root_.Go.Act renaming put->Yo
open _root_.Go.Addr renaming add->yBZ
open _root_.Go.Builtin renaming copy_->yAL
open _root_.Go.Exit renaming inBlock->yBc
open _root_.Go.Instr renaming index->yBE,indexAt->YV,makeSlice->yAq
open _root_.Go.IntKind renaming i64->Yt,u64->Yy,wrap_i64->Zo,wrap_u64->ZX
open _root_.Go.IntWalk renaming i64_in->Zv,i8_in->yCI
open _root_.Go.Op renaming equalIn->yEW,unary->yEt
open _root_.Go.Region renaming binds->Y3,free->yBy,noSelect->yAC,ready->Yq
open _root_.Go.Result renaming andThen_ok->YE
open _root_.Go.RowKit.Below renaming heap_setCell->yCc
open _root_.Go.Value renaming agg->Yg,int->Y1
open _root_.Go.World renaming alloc->yAo,cell?->YY,cell?_alloc_new->Yz,cell?_of_block->Yb,cell?_setCell_other->Yc,cell?_setCell_same->Zf,frozen?_alloc_new->Zz,frozen?_setCell->YX,setCell->yAV,size_alloc->XS
open _root_.Int renaming add_mul->yEL,add_zero->yCE,mul_assoc->yC1,mul_comm->yCq,natCast_ediv->yBX,natCast_emod->yD4,natCast_mul->yAx,natCast_pow->yCU,natCast_zero->ZG,neg_neg->yEK,pow_succ->yEz,tdiv_eq_ediv_of_nonneg->yAS,zero_mul->yCp
open _root_.List renaming ext_getElem?->yBK,foldl_cons->yD3,getElem?_eq_none->ZR,getElem_map->yAj,length_map->X7,not_mem_nil->Yf,replicate->YR,setIfInBounds_toArray->XJ,set_cons_succ->XM,set_cons_zero->XO
open _root_.Nat renaming add_assoc->ZL,add_zero->yAi,div_add_mod->yB3,div_div_eq_div_mul->yAE,div_eq_of_lt->yAA,div_le_self->yEd,div_one->yEJ,le_of_lt->yAm,le_refl->XH,le_succ->yB6,lt_of_le_of_lt->yDG,lt_of_lt_of_le->XI,lt_succ_self->yB2,mod_eq_of_lt->Ya,mod_lt->Zi,mod_one->yEH,mul_assoc->yAO,mul_comm->YN,mul_le_mul->ZP,mul_le_mul_right->yAv,mul_mod->yAz,mul_zero->yCQ,ne_of_gt->Zs,ne_of_lt->Z9,or_comm->yEG,pow_add->yA9,pow_le_pow_right->Zb,pow_pos->yAJ,pow_succ->Zr,pow_zero->yBA,sub_self->yBm,sub_zero->yBI,two_pow_add_eq_or_of_lt->yBs,zero_add->XQ
open _root_.Or renaming inl->Yk,inr->Yd
open _root_.UInt8 renaming ofNat->XY
open Go.Proofs.Tryz
open Go.RowKit Go.Sort Go.Deep
section
variable {P:Nat}[NeZero P]{N:Nat}
def J3{a b c d n m f s0 t0 u0 i e k g:Nat}(l:m=val a b c d)
 (p:f+18446744073709551616*i=a*n+val 0 0 0 0)
 (o:s0+18446744073709551616*e=b*n+i)
 (j:t0+18446744073709551616*k=c*n+e)
 (e3:u0+18446744073709551616*g=d*n+k) :
 val f s0 t0 u0+top*g=m*n:=by
 have j:val a b c d*n=val (a*n) (b*n) (c*n) (d*n):=by
  rw[YN,GE,YN n a,YN n b,YN n c,YN n d]
 rw[l,j];unfold val at *;unfold top;omega
def dN(g0 g1 g2 P:Nat)(x y:XG)(m n:Nat)(hG:Gap g0 g1 g2 P)(hx:Four x m)(J:Four y n)(w:XF):
 ZI prog 100 #[.agg #[.int .u64 g0,.int .u64 g1,.int .u64 g2,.int .u64 0],x,y] w (Ret λe w'=>Below w.heap.size w w'/\Four e (m*n%P)):=by
 obtain⟨a,b,c,d,rfl,ha,hb,hc,hd,em⟩:=hx;obtain⟨p,q,r,s,rfl,hp,hq,hr,hs,en⟩:=id J;have HM:Hid (m=val a b c d):=em;clear em en;go_enter func100,ntmps100;go_wp2_with fail
 have B:=Dg w 78 76 76 76 g0 g1 g2 0 a b c d p q r s 0 0 0 0;simp only[ZG]at B;have PR:=B.head.at4;have X:=B.tail.head.at4;have Y:=B.tail.tail.head.at4;have f:=B.tail.tail.tail.head.at4;have BL:Hid (Below w.heap.size w _):=B.bl;clear B;generalize yAo _ _=w1 at X Y PR f BL⊢;generalize h3:w.heap.size+1+1+1=k3 at f⊢;generalize h2:w.heap.size+1+1=k4 at Y⊢;generalize h1:w.heap.size+1=k1 at X⊢;have Q3:Hid (w.heap.size<=k3):=by unfold Hid;omega
 generalize h0:w.heap.size=A at PR BL Q3⊢;have kd:A≠k3:=oM;have ke:k1≠k3:=oM;have H0:Hid (w.heap.size=A):=h0;clear h0 h1 h2 h3;refine(kJ a _ _ _ _ ha J (Four.mk (a:=0) (b:=0) (c:=0) (d:=0) dC dC dC dC rfl) _).mono ?_;rintro e w2 ⟨v,rfl,i,l0,v2,t0,rfl,k2,⟨a0,b0,c0,d0,rfl,ht,hm,k6,hl,u⟩,z⟩;have h7:Hid (l0+18446744073709551616*val a0 b0 c0 d0=a*n+val 0 0 0 0):=by unfold Hid;rw[<-u];exact z
 clear z u;replace BL:Hid (Below A w w2):=Af BL PR i;replace X:=X.call i;replace Y:=Y.call i;replace f:=f.call i;replace PR:=PR.call i;obtain⟨Z,N,L,V,xf⟩:=id X;have z1:=X.lt;obtain⟨I,Q,O,U,yf⟩:=id Y;have z4:=Y.lt;obtain⟨t,l,o,j,rf⟩:=id f;have z3:=f.lt;obtain⟨F,D,C,E,pf⟩:=id PR;have z0:=PR.lt;go_wp2_with fail
 refine(kJ b _ _ _ _ hb J (Four.mk ht hm k6 hl rfl) _).mono ?_;rintro e w3 ⟨v,rfl,g,l1,v3,t1,rfl,k8,⟨a1,b1,c1,d1,rfl,hw,hi,h6,hk,u⟩,z⟩;have h4:Hid (l1+18446744073709551616*val a1 b1 c1 d1=b*n+val a0 b0 c0 d0):=by unfold Hid;rw[<-u];exact z
 have G:=Z9 PR.lt;have j1:=Z9 X.lt;have j3:=Z9 f.lt;have j4:=Z9 Y.lt;have J0:=mk1 (yAm PR.lt);have T:=(At4.made w2 76 a0 b0 c0 d0 rfl).call g;replace BL:Hid (Below A w w3):=Af (W:=w2.alloc (.cells #[.int .u64 a0,.int .u64 b0,.int .u64 c0,.int .u64 d0] 76)) (BL.alloc (yAm PR.lt) _) (PR.alloc _) g;replace X:=(X.alloc _).call g;replace Y:=(Y.alloc _).call g;replace f:=(f.alloc _).call g;replace PR:=(PR.alloc _).call g;obtain⟨Z,N,L,V,xf⟩:=id X;have z1:=X.lt;obtain⟨I,Q,O,U,yf⟩:=id Y;have z4:=Y.lt;obtain⟨t,l,o,j,rf⟩:=id f;have z3:=f.lt;obtain⟨F,D,C,E,pf⟩:=id PR;have z0:=PR.lt;obtain⟨M,K,H,R,tf⟩:=id T;have z5:=T.lt;go_wp2_with fail
 refine(kJ c _ _ _ _ hc J (Four.mk hw hi h6 hk rfl) _).mono ?_;rintro e w4 ⟨v,rfl,k,l2,v4,t4,rfl,h5,⟨a2,b2,c2,d2,rfl,hu,i,hn,h8,u⟩,z⟩;have hg:Hid (l2+18446744073709551616*val a2 b2 c2 d2=c*n+val a1 b1 c1 d1):=by unfold Hid;rw[<-u];exact z
 replace BL:Hid (Below A w w4):=Af (aK BL.out J0.out) (PR.other4 G.symm _ _ _ _) k;replace X:=(X.other4 j1.symm _ _ _ _).call k;replace Y:=(Y.other4 j4.symm _ _ _ _).call k;replace f:=(f.other4 j3.symm _ _ _ _).call k;replace PR:=(PR.other4 G.symm _ _ _ _).call k;replace T:=(T.self4 a1 b1 c1 d1).call k;obtain⟨Z,N,L,V,xf⟩:=id X;have z1:=X.lt;obtain⟨I,Q,O,U,yf⟩:=id Y;have z4:=Y.lt;obtain⟨t,l,o,j,rf⟩:=id f;have z3:=f.lt;obtain⟨F,D,C,E,pf⟩:=id PR;have z0:=PR.lt;obtain⟨M,K,H,R,tf⟩:=id T;have z5:=T.lt;go_wp2_with fail
 refine(kJ d _ _ _ _ hd J (Four.mk hu i hn h8 rfl) _).mono ?_;rintro e w5 ⟨v,rfl,k,l3,v4,t4,rfl,hz,⟨a3,b3,c3,d3,rfl,k7,g,hj,k5,u⟩,z⟩;have h9:Hid (l3+18446744073709551616*val a3 b3 c3 d3=d*n+val a2 b2 c2 d2):=by unfold Hid;rw[<-u];exact z
 replace BL:Hid (Below A w w5):=Af (aK BL.out J0.out) (PR.other4 G.symm _ _ _ _) k;replace X:=(X.other4 j1.symm _ _ _ _).call k;replace Y:=(Y.other4 j4.symm _ _ _ _).call k;replace f:=(f.other4 j3.symm _ _ _ _).call k;replace PR:=(PR.other4 G.symm _ _ _ _).call k;replace T:=(T.self4 a2 b2 c2 d2).call k;obtain⟨t,l,o,j,rf⟩:=id f;have z3:=f.lt;obtain⟨F,D,C,E,pf⟩:=id PR;have z0:=PR.lt;obtain⟨M,K,H,R,tf⟩:=id T;have z5:=T.lt;go_wp2_with fail
 refine(zF g0 g1 g2 _ _ _ _ P hG.h0 hG.h1 hG.h2 hG.hor hG.hP hG.hP2 (Four.mk k2 k8 h5 hz rfl) (Four.mk k7 g hj k5 rfl) _).mono ?_;rintro e w6 ⟨v,rfl,k,hv⟩;rw[J3 HM.out h7.out h4.out hg.out h9.out]at hv;replace BL:Hid (Below A w w6):=Af (aK BL.out J0.out) (PR.other4 G.symm _ _ _ _) k;replace f:=(f.other4 j3.symm _ _ _ _).call k;replace PR:=(PR.other4 G.symm _ _ _ _).call k;obtain⟨a7,b7,c7,d7,rfl,kc,ka,k9,kb,kf⟩:=id hv;have HV:=mk1 (hv);obtain⟨t,l,o,j,rf⟩:=id f;have z3:=f.lt;go_wp2;have S:=f.self4 a7 b7 c7 d7;unfold set4 at S;refine XR (v:=?v) ?hr rfl ?hR
 case hr=>simp[results,Tryz.results100,go_sem,S.c0,S.c1,S.c2,S.c3];rfl
 refine⟨_,rfl,?_,HV.out⟩;rw[H0.out];exact aK BL.out Q3.out
def Bp{w W:XF}{k f e a b c d p q r s j g i:Nat}(h:Kept w k [⟨k,0,j,g,i,0⟩,⟨f,0,a,b,c,d⟩,⟨e,0,p,q,r,s⟩] W):W.cell? ⟨k,0,none⟩=some (uZ j)/\W.cell? ⟨k,1,none⟩=some (uZ g)/\W.cell? ⟨k,2,none⟩=some (uZ i)/\W.cell? ⟨k,3,none⟩=some (uZ 0)/\W.cell? ⟨f,0,none⟩=some (uZ a)/\W.cell? ⟨f,1,none⟩=some (uZ b)/\W.cell? ⟨f,2,none⟩=some (uZ c)/\W.cell? ⟨f,3,none⟩=some (uZ d)/\W.cell? ⟨e,0,none⟩=some (uZ p)/\W.cell? ⟨e,1,none⟩=some (uZ q)/\W.cell? ⟨e,2,none⟩=some (uZ r)/\W.cell? ⟨e,3,none⟩=some (uZ s)/\Kept w k [⟨k,0,j,g,i,0⟩,⟨f,0,a,b,c,d⟩,⟨e,0,p,q,r,s⟩] W:=
 ⟨h.head.c0,h.head.c1,h.head.c2,h.head.c3,h.tail.head.c0,h.tail.head.c1,h.tail.head.c2,h.tail.head.c3,h.tail.tail.head.c0,h.tail.tail.head.c1,h.tail.tail.head.c2,h.tail.tail.head.c3,h⟩
def tK(t o l:Nat)(x y:XG)(m n R:Nat)(hx:Four x m)(O:Four y n)(w:XF):((∀w,ZI prog 98 #[.agg #[.int .u64 t,.int .u64 o,.int .u64 l,.int .u64 0],x,y] w (Ret λe w'=>Below w.heap.size w w'/\Four e R))->ZI prog 50 #[.agg #[.int .u64 t,.int .u64 o,.int .u64 l,.int .u64 0],x,y] w (Ret λe w'=>Below w.heap.size w w'/\Four e R))/\((∀w,ZI prog 178 #[.agg #[.int .u64 t,.int .u64 o,.int .u64 l,.int .u64 0],x,y] w (Ret λe w'=>Below w.heap.size w w'/\Four e R))->ZI prog 121 #[.agg #[.int .u64 t,.int .u64 o,.int .u64 l,.int .u64 0],x,y] w (Ret λe w'=>Below w.heap.size w w'/\Four e R))/\((∀w,ZI prog 100 #[.agg #[.int .u64 t,.int .u64 o,.int .u64 l,.int .u64 0],x,y] w (Ret λe w'=>Below w.heap.size w w'/\Four e R))->ZI prog 51 #[.agg #[.int .u64 t,.int .u64 o,.int .u64 l,.int .u64 0],x,y] w (Ret λe w'=>Below w.heap.size w w'/\Four e R)):=by
 obtain⟨a,b,c,d,rfl,ha,hb,hc,hd,em⟩:=id hx;obtain⟨p,q,r,s,rfl,W,hq,Z,hs,en⟩:=id O;have HX:=mk1 (hx);have HY:=mk1 (O);refine⟨λH=>?_,λH=>?_,λH=>?_⟩;all_goals replace H:Hid _:=H
 all_goals clear em en hx O ha hb hc hd W hq Z hs
 case' refine_1=>go_enter func50,ntmps50
 case' refine_2=>go_enter func121,ntmps121
 case' refine_3=>go_enter func51,ntmps51
 all_goals
  go_wp2_with fail
  have g:=Dg w 78 42 42 42 t o l 0 a b c d p q r s 0 0 0 0;simp only[ZG]at g;generalize h3:w.heap.size+1+1+1=V at g⊢;generalize h2:w.heap.size+1+1=E at g⊢;generalize h1:w.heap.size+1=F at g⊢;have K:Hid (w.heap.size<=V):=by unfold Hid;omega
  generalize h0:w.heap.size=C at g K⊢;have H0:Hid (w.heap.size=C):=h0;have I:∀x∈([⟨C,0,t,o,l,0⟩,⟨F,0,a,b,c,d⟩,⟨E,0,p,q,r,s⟩]:List Blk),V≠x.k:=by simp only[List.mem_cons,Yf,or_false];rintro x (rfl|rfl|rfl)<;>simp only<;>omega
  have i:=(((Kept.mk1 g.bl g.le).cons g.tail.tail.head).cons g.tail.head).cons g.head;have T3:=g.tail.tail.tail.head.at4;obtain⟨B,z,u,A,L⟩:=id T3;have M:=T3.lt;go_region_held3 (λw'=>w'.cell? ⟨C,0,none⟩=some (.int .u64 t)/\w'.cell? ⟨C,1,none⟩=some (.int .u64 o)/\w'.cell? ⟨C,2,none⟩=some (.int .u64 l)/\w'.cell? ⟨C,3,none⟩=some (.int .u64 0)/\w'.cell? ⟨F,0,none⟩=some (.int .u64 a)/\w'.cell? ⟨F,1,none⟩=some (.int .u64 b)/\w'.cell? ⟨F,2,none⟩=some (.int .u64 c)/\w'.cell? ⟨F,3,none⟩=some (.int .u64 d)/\w'.cell? ⟨E,0,none⟩=some (.int .u64 p)/\w'.cell? ⟨E,1,none⟩=some (.int .u64 q)/\w'.cell? ⟨E,2,none⟩=some (.int .u64 r)/\w'.cell? ⟨E,3,none⟩=some (.int .u64 s)/\Kept w C [⟨C,0,t,o,l,0⟩,⟨F,0,a,b,c,d⟩,⟨E,0,p,q,r,s⟩] w') (first|(with_reducible exact Bp i)|(with_reducible exact Bp i.drew)|(with_reducible exact Bp (i.set4' K I _ _ _ _))|(with_reducible exact Bp (i.set4' K I _ _ _ _).drew)|fail) (first|(go_at_call_of 55 (Yg #[Y1 .u64 a,Y1 .u64 b,Y1 .u64 c,Y1 .u64 d]);apply(jY HX).mono;rintro e P ⟨v,rfl,k,rfl⟩;(first|(with_reducible (have f:=i.drew.call k))|(with_reducible (have f:=i.call k))|fail);(first|(with_reducible (have j:=T3.drew.call k))|(with_reducible (have j:=T3.call k))|fail);clear i T3 k;have i:=f;have T3:=j;clear f j;obtain⟨B,z,u,A,L⟩:=id T3;have M:=T3.lt)|(go_at_call_of 55 (Yg #[Y1 .u64 p,Y1 .u64 q,Y1 .u64 r,Y1 .u64 s]);apply(jY HY).mono;rintro e P ⟨v,rfl,k,rfl⟩;(first|(with_reducible (have f:=i.drew.call k))|(with_reducible (have f:=i.call k))|fail);(first|(with_reducible (have j:=T3.drew.call k))|(with_reducible (have j:=T3.call k))|fail);clear i T3 k;have i:=f;have T3:=j;clear f j;obtain⟨B,z,u,A,L⟩:=id T3;have M:=T3.lt)|((first|go_at_call 98|go_at_call 178|go_at_call 100);apply(H _).mono;rintro e P ⟨v,rfl,k,D⟩;obtain⟨U,Q,T,S,rfl,Y,h4,X,h5,N⟩:=id D;clear N;have G:Hid (Four _ _):=D;clear D;(first|(with_reducible (have f:=i.drew.call k))|(with_reducible (have f:=i.call k))|fail);(first|(with_reducible (have j:=T3.drew.call k))|(with_reducible (have j:=T3.call k))|fail);clear i T3 k;have i:=f;have T3:=j;clear f j;obtain⟨B,z,u,A,L⟩:=id T3;have M:=T3.lt)|(go_at_call 99;apply(jU G).mono;rintro e P ⟨v,rfl,k,rfl⟩;(first|(with_reducible (have f:=i.drew.call k))|(with_reducible (have f:=i.call k))|fail);(first|(with_reducible (have j:=T3.drew.call k))|(with_reducible (have j:=T3.call k))|fail);clear i T3 k;have i:=f;have T3:=j;clear f j;obtain⟨B,z,u,A,L⟩:=id T3;have M:=T3.lt))
  all_goals (try go_wp2)
  all_goals (have J:=T3.self4 U Q T S)
  all_goals unfold set4 at J
  all_goals (refine XR (v:=(.agg #[.int .u64 U,.int .u64 Q,.int .u64 T,.int .u64 S])) ?_ rfl ?_)
  all_goals first|(refine⟨_,rfl,?_,G⟩;rw[H0.out];exact aK i.bl K)|(simp[results,Tryz.results50,Tryz.results121,Tryz.results51,go_sem,J.c0,J.c1,J.c2,J.c3];done)|fail
def DU{c b k P m n:Nat}{x y:XG}{w:XF}(hG:Gap c b k P)(hx:Four x m)(d:Four y n)(g:m<P)(f:n<P):
 cZ 50 #[.agg #[uZ c,uZ b,uZ k,uZ 0],x,y] w (rZ w λe w'=>Four e ((m+n)%P)):=
 (tK c b k x y m n _ hx d w).1 (λw=>sum_any c b k P _ _ m n hG hx d g f w)
def uV{c b k P m n:Nat}{x y:XG}{w:XF}(hG:Gap c b k P)(hx:Four x m)(d:Four y n)(g:m<P)(f:n<P):
 cZ 121 #[.agg #[uZ c,uZ b,uZ k,uZ 0],x,y] w (rZ w λe w'=>Four e ((m+P-n)%P)):=
 (tK c b k x y m n _ hx d w).2.1 (λw=>oQ c b k P _ _ m n hG hx d g f w)
def qG{c b k P m n:Nat}{x y:XG}{w:XF}(hG:Gap c b k P)(hx:Four x m)(d:Four y n):
 cZ 51 #[.agg #[uZ c,uZ b,uZ k,uZ 0],x,y] w (rZ w λe w'=>Four e (m*n%P)):=
 (tK c b k x y m n _ hx d w).2.2 (λw=>dN c b k P _ _ m n hG hx d w)
def Mz(m i s:Nat):m/2^i%2^(s+1)=2*(m/2^(i+1)%2^s)+m/2^i%2:=by
 have e:m/2^(i+1)=m/2^i/2:=by rw[Zr,yAE]
 rw[e,Zr,YN (2^s),Nat.mod_mul];omega
def low_bit(y z r:Nat)(d:r<64)(b:z=y%18446744073709551616):z/2^r%2=y/2^r%2:=by
 have e:(18446744073709551616:Nat)=2^r*(2*2^(63-r)):=by
  rw[<-yAO,<-Zr,<-yA9,show r+1+(63-r)=64 by omega]
 have c:0<2^r:=yAJ dC;have f:y/2^r=2*(2^(63-r)*(y/18446744073709551616))+z/2^r:=by
  have k:y=2^r*(2*(2^(63-r)*(y/18446744073709551616)))+z:=by
   have:=yB3 y 18446744073709551616;rw[b];rw[e]at this⊢;rw[yAO,yAO]at this;exact this.symm
  conv=>lhs;rw[k]
  rw[Nat.mul_add_div c]
 omega
def wd(a b c d q:Nat):Nat:=if q=0 then a else if q=1 then b else if q=2 then c else d
def PM{q a b c d:Nat}(e:a<2^64)(k:b<2^64)(f:c<2^64)(hd:d<2^64):wd a b c d q<2^64:=by
 unfold wd;split;exact e;split;exact k;split;exact f;exact hd
def TK{q a b c d:Nat}(k:q<4)(f:a<2^64)(e:b<2^64)(g:c<2^64)(hd:d<2^64):
 wd a b c d q=val a b c d/2^(64*q)%2^64:=by
 have h:q=0\/q=1\/q=2\/q=3:=oM;rcases h with rfl|rfl|rfl|rfl
 .show a=val a b c d/1%_;unfold val;omega
 .show b=val a b c d/2^64%_;unfold val;omega
 .show c=val a b c d/2^128%_;unfold val;omega
 .show d=val a b c d/2^192%_;unfold val;omega
def Jo{i a b c d:Nat}(g:i<256)(e:a<2^64)(k:b<2^64)(f:c<2^64)(hd:d<2^64):
 wd a b c d (i/64)/2^(i%64)%2=val a b c d/2^i%2:=by
 rw[low_bit _ _ (i%64) oM (TK oM e k f hd),yAE,<-yA9,show 64*(i/64)+i%64=i by omega]
def kQ(a P k:Nat):a^k%P*(a^k%P)%P=a^(2*k)%P:=by
 rw[<-yAz,<-yA9,Nat.two_mul]
def CS(a P k l:Nat):a^k%P*(a^l%P)%P=a^(k+l)%P:=by
 rw[<-yAz,<-yA9]
def BK(a P k:Nat):a^k%P*a%P=a^(k+1)%P:=by
 rw[Zr,yAz,Nat.mod_mod,<-yAz]
def OV{e i:Nat}:e/2^i=16*(e/2^(i+4))+e/2^i%2^4:=by
 rw[yA9,<-yAE];have:=yB3 (e/2^i) (2^4);omega
def Er(a b c d:Nat):
 val (a/4+b*4611686018427387904%2^64) (b/4+c*4611686018427387904%2^64) (c/4+d*4611686018427387904%2^64) (d/4)=val a b c d/4:=by
 unfold val;omega
def At4.wd{w:XF}{k a b c d:Nat}(h:At4 w k a b c d)(q:Nat)(f:q<4):w.cell? ⟨k,q,none⟩=some (uZ (wd a b c d q:Int)):=by
 have e:q=0\/q=1\/q=2\/q=3:=oM;rcases e with rfl|rfl|rfl|rfl
 .exact h.c0
 .exact h.c1
 .exact h.c2
 .exact h.c3
def Bn{n:Nat}(h:n<9223372036854775808):Yt.wrap (n:Int)=(n:Int):=by rw[Zo];omega
def or_bit{b t:Nat}(c:b<4294967296)(d:t<2):bits .or .i64 ((2*b:Nat):Int) (t:Int)=((2*b+t:Nat):Int):=by
 rw[(bits_nat .i64 40 dC (λn k e=>by rw[Zo];omega) (2*b) t oM oM).2];have:=yBs (i:=1) (b:=t) oM b;rw[show 2^1*b=2*b from rfl]at this;rw[<-this]
def and_one{v:Nat}(hv:v<2^64):bits .and .u64 (v:Int) 1=((v%2:Nat):Int):=by
 have:=bits_and_u64_nat v 1 hv oM;rw[show v &&& 1=v%2 from Nat.and_one_is_mod v]at this;exact this
def Ag{m f c g:Nat}(k:m<top)(h:g=c\/f+g=256):m/2^(f+g)%2^(c-g)=0:=by
 rcases h with rfl|h
 .rw[yBm,yBA,yEH]
 .rw[h,yAA (by exact k),Nat.zero_mod]
def Ba{m f g c:Nat}(k:0<g)(b:g<=c):m/2^(f+(g-1))%2^(c-(g-1))=2*(m/2^(f+g)%2^(c-g))+m/2^(f+(g-1))%2:=by
 rw[show c-(g-1)=c-g+1 by omega,Mz,show f+(g-1)+1=f+g by omega]
def DZ(x:XG)(m f c:Nat)(hx:Four x m)(hf:f<=256)(hc:c<=32)(w:XF):
 cZ 198 #[x,iZ f,iZ c] w (rZ w λe w'=>e=iZ ((m/2^f%2^c:Nat):Int)):=by
 obtain⟨n,p,o,l,rfl,D,G,F,J,S⟩:=id hx;have T:=mk1 (hx);have HL:=mk5 D G F J S;have P:=mk1 (T.lt);obtain⟨R,hR⟩:=vH (m/2^f%2^c);have Q:=mk1 (hR);rw[hR];by_cases V:(f:Int)+(c:Int)<=256
 .have O:¬(256:Int)<(f:Int)+(c:Int):=oM;go_enter func198,ntmps198;go_wp2;have X:=At4.made w 42 n p o l rfl;have BL:=mk1 (aC (w:=w) (.cells #[uZ n,uZ p,uZ o,uZ l] 42));generalize yAo _ _=I at X BL⊢;go_loopg [7,8] c (λgk s7 s8 wr=>gk<=c/\f+gk<=256/\s7=iZ ((m/2^(f+gk)%2^(c-gk):Nat):Int)/\s8=iZ ((f:Int)+(gk:Int)-1)/\I=wr)
  case atStart=>exact⟨oM,oM,by rw[Ag P.out (Yk rfl)];rfl,by congr 1<;>omega,rfl⟩
  case round =>
   obtain⟨u,M,rfl,rfl,rfl⟩:=hrel;by_cases E:gk=0
   .subst E;have L:¬(f:Int)<=(f:Int)+((0:Nat):Int)-1:=oM;rw[yAi,yBI,Q.out];go_wp2;go_ret;exact⟨_,rfl,BL,rfl⟩
   .obtain⟨i,a⟩:=vH (f+(gk-1));have H:(f:Int)+(gk:Int)-1=(i:Int):=oM;have L:(f:Int)<=(i:Int):=oM;have q:i<256:=oM;have K:=X.wd (i/64) oM;have d:wd n p o l (i/64)<2^64:=PM HL.1 HL.2.1 HL.2.2.1 HL.2.2.2.1;have k:wd n p o l (i/64)/2^(i%64)%2=m/2^i%2:=by rw[HL.2.2.2.2];exact Jo q HL.1 HL.2.1 HL.2.2.1 HL.2.2.2.1
    have Y:(i:Int).tdiv 64=((i/64:Nat):Int):=by rw[yAS oM];omega
    have Z:(i:Int).tmod 64=((i%64:Nat):Int):=by rw[Int.tmod_eq_emod_of_nonneg oM];omega
    have W:(i/64:Nat)<4:=oM;generalize wd n p o l (i/64)=v at K d k;have s:v/2^(i%64)<2^64:=yDG (yEd _ _) d;have b:bits .and .u64 ((v:Int)/2^(i%64)) 1=((m/2^i%2:Nat):Int):=by
     have:=and_one s;rw[k]at this;rw[<-this,yBX,yCU];rfl
    obtain⟨t,A⟩:=vH (m/2^i%2);have r:t<2:=oM;have y:=Ba (m:=m) (f:=f) (g:=gk) (c:=c) oM u;rw[a,A]at y;have j:m/2^(f+gk)%2^(c-gk)<4294967296:=XI (Zi _ (yAJ dC)) (show 2^(c-gk)<=2^32 from Zb dC oM);rw[A]at b;generalize m/2^(f+gk)%2^(c-gk)=B at y j⊢;have hor:=or_bit j r;have N:Yt.wrap ((B:Int)*2)=((2*B:Nat):Int):=by rw[show(B:Int)*2=((2*B:Nat):Int) by omega];exact Bn oM
    have U:Yt.wrap (t:Int)=(t:Int):=Bn oM;have C:=mk1 (y);have z:=mk1 (a);have zx:=X.lt;rw[H];go_wp2;go_roundg (gk-1)
    case measure=>omega
    case rel =>
     refine⟨oM,oM,?_,?_,rfl⟩
     .rw[z.out,C.out,<-hor,yAx];rfl
     .congr 1;have:=z;omega
 .have O:(256:Int)<(f:Int)+(c:Int):=oM;go_enter func198,ntmps198;go_wp2;have X:=At4.made w 42 n p o l rfl;have BL:=mk1 (aC (w:=w) (.cells #[uZ n,uZ p,uZ o,uZ l] 42));generalize yAo _ _=I at X BL⊢;go_loopg [7,8] (256-f) (λgk s7 s8 wr=>gk<=c/\f+gk<=256/\s7=iZ ((m/2^(f+gk)%2^(c-gk):Nat):Int)/\s8=iZ ((f:Int)+(gk:Int)-1)/\I=wr)
  case atStart=>exact⟨oM,oM,by rw[Ag P.out (Yd oM)];rfl,by congr 1<;>omega,rfl⟩
  case round =>
   obtain⟨u,M,rfl,rfl,rfl⟩:=hrel;by_cases E:gk=0
   .subst E;have L:¬(f:Int)<=(f:Int)+((0:Nat):Int)-1:=oM;rw[yAi,yBI,Q.out];go_wp2;go_ret;exact⟨_,rfl,BL,rfl⟩
   .obtain⟨i,a⟩:=vH (f+(gk-1));have H:(f:Int)+(gk:Int)-1=(i:Int):=oM;have L:(f:Int)<=(i:Int):=oM;have q:i<256:=oM;have K:=X.wd (i/64) oM;have d:wd n p o l (i/64)<2^64:=PM HL.1 HL.2.1 HL.2.2.1 HL.2.2.2.1;have k:wd n p o l (i/64)/2^(i%64)%2=m/2^i%2:=by rw[HL.2.2.2.2];exact Jo q HL.1 HL.2.1 HL.2.2.1 HL.2.2.2.1
    generalize wd n p o l (i/64)=v at K d k;have s:v/2^(i%64)<2^64:=yDG (yEd _ _) d;have b:bits .and .u64 ((v:Int)/2^(i%64)) 1=((m/2^i%2:Nat):Int):=by
     have:=and_one s;rw[k]at this;rw[<-this,yBX,yCU];rfl
    obtain⟨t,A⟩:=vH (m/2^i%2);have r:t<2:=oM;have y:=Ba (m:=m) (f:=f) (g:=gk) (c:=c) oM u;rw[a,A]at y;have j:m/2^(f+gk)%2^(c-gk)<4294967296:=XI (Zi _ (yAJ dC)) (show 2^(c-gk)<=2^32 from Zb dC oM);rw[A]at b;generalize m/2^(f+gk)%2^(c-gk)=B at y j⊢;have hor:=or_bit j r;have N:Yt.wrap ((B:Int)*2)=((2*B:Nat):Int):=by rw[show(B:Int)*2=((2*B:Nat):Int) by omega];exact Bn oM
    have C:=mk1 (y);have z:=mk1 (a);have zx:=X.lt;rw[H];go_wp2;go_roundg (gk-1)
    case measure=>omega
    case rel =>
     refine⟨oM,oM,?_,?_,rfl⟩
     .rw[z.out,C.out,<-hor,yAx];rfl
     .congr 1;have:=z;omega
end
section
open Go
section
variable {P:YO}{ops:Array Yw}{Q:Exit->Act->XF->Prop}{S:XF->Prop}{p:Nat}
def anyTill(P:YO)(k:Array Yw)(Q:Exit->Act->XF->Prop)(S:XF->Prop)(p:Nat):Nat->Array Bool->Act->XF->Prop
 | 0,listed,a,w=>Yq .any k listed=[]/\Q .normal a w
 | fuel+1,listed,a,w=>(Yq .any k listed=[]->Q .normal a w) /\
  ∀i∈Yq .any k listed,wpOp P k Q i (λb w'=>((listed.setIfInBounds i true).getD p false=false->S w')/\anyTill P k Q S p fuel (listed.setIfInBounds i true) b w') a w
def anyTill.any:∀(k:Nat) (b:Array Bool) (a:Act) (w:XF),anyTill P ops Q S p k b a w->wpAny P .any ops Q k b a w
 | 0,_,_,_,h=>h
 | k+1,_,_,_,h=>⟨h.1,λi d=>wpOp_mono (λe w' c=>anyTill.any k _ e w' c.2) (h.2 i d)⟩
def anyTill.first{i:Nat}{t op:Yw}{v:XG}(N:ops[i]? = some t)(U:ops[p]? = some op)(G:∃e∈op.after,Y3 .any e=true/\e.on=i)(M:p≠i)
 (r:∀(j:Nat) (o:Yw) cs b,ops[j]? = some o->o.op≠.select cs b) (Y:∀c a w,Q (.panic c) (a.put t.dst v) w->Q (.panic c) a w) :
 ∀(g:Nat) (d:Array Bool) (a:Act) (w:XF),d.getD p false=false ->
  (∀j s,ops[j]? = some s->j≠i->d.getD j true=false->(∀e∈s.after,Y3 .any e=true->e.on≠i)->t.apart ops s=true) ->
  i∈Yq .any ops d->YieldsIf P ops S t v a->S w ->
  anyTill P ops Q S p g (d.setIfInBounds i true) (a.put t.dst v) w->anyTill P ops Q S p (g+1) d a w:=by
 intro g;induction g with
 | zero =>
  intro d a w _ _ x D A H;refine⟨λh=>absurd x (by rw[h];exact Yf),λj E=>?_⟩;by_cases f:j=i
  .subst f;exact D.wpOp N A ⟨λ_=>A,H⟩
  .exact absurd (ready_mono E f) (by rw[H.1];exact Yf)
 | succ g ih =>
  intro d a w T m x D A H;refine⟨λh=>absurd x (by rw[h];exact Yf),λj E=>?_⟩;by_cases f:j=i
  .subst f;exact D.wpOp N A ⟨λ_=>A,H⟩
  .obtain⟨q,s,l,B⟩:=mem_ready.1 E;have n:∀e∈s.after,Y3 .any e=true->e.on≠i:=λe I R J=>by
    have u:=B e I R;have z:=(mem_ready.1 x).1;rw[J]at u;rcases Nat.lt_or_ge i d.size with y|y
    .simp[y]at z u;rw[z]at u;cases u
    .simp[ZY y]at u
   have z:j≠p:=by
    intro h;subst h;rw[U]at l;obtain⟨e,I,R,u⟩:=G;injection l with l
    subst l;exact n e I R u
   have X:=wpOp_putIf l (m j s l f q n) (λcs b=>r i t cs b N) (λcs b=>r j s cs b l) Y D (H.2 j (ready_mono E f));have K:(d.setIfInBounds j true).getD p false=false:=by rw[yAI false z];exact T
   refine wpOp_mono (λW w' L=>?_) X;have y:=L.2.1 (by rw[yAI false z,yAI false (Ne.symm M)];exact T);refine⟨λ_=>y,ih (d.setIfInBounds j true) W w' K (λk ok V F C O=>?_) (ready_mono x (Ne.symm f)) L.1 y ?_⟩
   .refine m k ok V F ?_ O;by_cases u:j=k
    .subst u;exact q
    .rw[yAI true u]at C;exact C
   .rw[Array.setIfInBounds_comm _ _ f];exact L.2.2
def waits(k:Array Yw)(p i:Nat):Bool:=match k[p]? with
 | some o=>o.after.any (λe=>Y3 .any e && e.on == i)
 | none=>false
def anyTill.take{i:Nat}{f:Yw}{v:XG}{b:Nat}{k:Array Bool}{a:Act}{w:XF}(l:ops[i]? = some f)(d:waits ops p i=true)(q:yAC ops=true)
 (g:(k.getD p false || p == i)=false) (hf:yBy .any ops k i=true) (n:(Yq .any ops k).contains i=true)
 (s:∀c a w,Q (.panic c) (a.put f.dst v) w->Q (.panic c) a w) (o:YieldsIf P ops S f v a) (r:S w)
 (h:anyTill P ops Q S p b (k.setIfInBounds i true) (a.put f.dst v) w):anyTill P ops Q S p (b+1) k a w:=by
 rw[Bool.or_eq_false_iff]at g;unfold waits at d;cases ho:ops[p]? with
 | none=>rw[ho]at d;cases d
 | some op =>
  rw[ho]at d;obtain⟨e,m,j⟩:=Array.any_eq_true'.1 d;simp only[Bool.and_eq_true,beq_iff_eq]at j;exact anyTill.first l ho ⟨e,m,j.1,j.2⟩ (by simpa using g.2) (Region.noSelect_spec q) s b k a w g.1 (Region.free_spec l hf) (by simpa using n) o r h
def anyTill.tk{i:Nat}{d:Yw}{v:XG}{b:Nat}{k:Array Bool}{a:Act}{w:XF}(l:ops[i]? = some d)(g:YieldsIf P ops S d v a)(m:S w)
 (h:anyTill P ops Q S p b (k.setIfInBounds i true) (a.put d.dst v) w) (e:waits ops p i=true:=by kernel_rfl) (j:yAC ops=true:=by kernel_rfl)
 (n:(k.getD p false || p == i)=false:=by kernel_rfl) (hf:yBy .any ops k i=true:=by kernel_rfl) (f:(Yq .any ops k).contains i=true:=by kernel_rfl)
 (o:∀c a w,Q (.panic c) (a.put d.dst v) w->Q (.panic c) a w:=by exact λ_ _ _ h=>h):anyTill P ops Q S p (b+1) k a w:=anyTill.take l e j n hf f o g m h
def anyTill.step{i:Nat}{o:Yw}{b:Nat}{k:Array Bool}{a:Act}{w:XF}(ho:ops[i]? = some o)(f:Yq .any ops k=[i])
 (h:∀c:Act->XF->Prop,Shut (∀a w,((k.setIfInBounds i true).getD p false=false->S w)->anyTill P ops Q S p b (k.setIfInBounds i true) a w->c a w) ->
  if Region.wanted o (yielded ops a.tmps)=true then Oper.wp P o a w c Q else c (a.put o.dst ZB) w):anyTill P ops Q S p (b+1) k a w:=by
 refine⟨λd=>(by rw[f]at d;cases d),λj e=>?_⟩;rw[f,List.mem_singleton]at e;subst e;exact wpOp_step ho (λc m=>h c (λa w l g=>m a w ⟨l,g⟩))
def anyTill.done{k:Array Bool}{a:Act}{w:XF}(c:Yq .any ops k=[])(h:Q .normal a w):∀b,anyTill P ops Q S p b k a w
 | 0=>⟨c,h⟩
 | _+1=>⟨λ_=>h,by rw[c];intro i d;cases d⟩
def anyTill.begin{id:Nat}{a:Act}{w:XF}(S:XF->Prop)(p:Nat)(b:P.follows .mixedOrders=true)(k:S w.drew)
 (h:S w.drew->anyTill P ops Q S p ops.size (XW ops.size false) a w.drew):(Code.region id ops true).wp P Q a w:=
 wp_region_any b ((h k).any)
end
end
section
variable {P:Nat}[NeZero P]{N:Nat}
def pw0:Array XG:=#[uZ 1]++XW 63 (uZ 0)
def pwz:Array XG:=XW 64 (uZ 0)
def TF:∀w:XF,(zeroValue 287).run prog w=.ok (.agg pwz) w:=λ_=>kR
def sizeT:gZ 287 pw0.size:=gQ
def WM:pw0.all (·.oneCell')=true:=kR
def Tab(W:XF)(k m P i:Nat):Prop:=∀j,j<16->∃a b c d:Nat,(Blk.mk k (j*4) a b c d).at W/\(j<i->Four (.agg #[uZ a,uZ b,uZ c,uZ d]) (m^j%P))
def Tab.call{W e:XF}{k m P i:Nat}(h:Tab W k m P i)(f:kZ W e):Tab e k m P i:=λj g=>by
 obtain⟨a,b,c,d,l,n⟩:=h j g;exact⟨a,b,c,d,l.call f,n⟩
def Tab.drew{W:XF}{k m P i:Nat}(h:Tab W k m P i):Tab W.drew k m P i:=λj f=>by
 obtain⟨a,b,c,d,e,g⟩:=h j f;exact⟨a,b,c,d,⟨e.c0,e.c1,e.c2,e.c3,e.f⟩,g⟩
def Tab.other{W:XF}{k m P i g o:Nat}(h:Tab W k m P i)(e:g≠k)(v:XG):Tab (W.setCell ⟨g,o,none⟩ v) k m P i:=λj f=>by
 obtain⟨a,b,c,d,l,n⟩:=h j f;exact⟨a,b,c,d,l.other e v,n⟩
def Blk.at.off{W : XF}{x : Blk}{i : Nat}(h : x.at W)(hi : i < x.o \/ x.o + 3 < i)(v : XG): x.at (W.setCell ⟨x.k, i, none⟩ v) :=
  ⟨by rw [Yc _ _ _ _ (bI (Yd oM))]; exact h.c0, by rw [Yc _ _ _ _ (bI (Yd oM))]; exact h.c1,
   by rw [Yc _ _ _ _ (bI (Yd oM))]; exact h.c2, by rw [Yc _ _ _ _ (bI (Yd oM))]; exact h.c3, λo => by rw [YX]; exact h.f o⟩
def Blk.at.put{W:XF}{k o a b c d:Nat}(h:(Blk.mk k o a b c d).at W)(x y z t:Nat):
 (Blk.mk k o x y z t).at ((((W.setCell ⟨k,o,none⟩ (uZ x)).setCell ⟨k,o+1,none⟩ (uZ y)).setCell ⟨k,o+2,none⟩ (uZ z)).setCell ⟨k,o+3,none⟩ (uZ t)):=by
 have s0:=Zf W ⟨k,o,none⟩ (uZ x) h.c0;have e:∀(W:XF) (i j:Nat) (v:XG),i≠j->(W.setCell ⟨k,i,none⟩ v).cell? ⟨k,j,none⟩=W.cell? ⟨k,j,none⟩:=λW i j v f=>Yc _ _ _ _ (bI (Yd f))
 refine⟨?_,?_,?_,?_,λi=>?_⟩
 .show YY _ ⟨k,o,none⟩=_;rw[e _ _ _ _ oM,e _ _ _ _ oM,e _ _ _ _ oM];exact s0
 .show YY _ ⟨k,o+1,none⟩=_;rw[e _ _ _ _ oM,e _ _ _ _ oM];exact Zf _ _ _ (by rw[e _ _ _ _ oM];exact h.c1)
 .show YY _ ⟨k,o+2,none⟩=_;rw[e _ _ _ _ oM];exact Zf _ _ _ (by rw[e _ _ _ _ oM,e _ _ _ _ oM];exact h.c2)
 .show YY _ ⟨k,o+3,none⟩=_;exact Zf _ _ _ (by rw[e _ _ _ _ oM,e _ _ _ _ oM,e _ _ _ _ oM];exact h.c3)
 .rw[YX,YX,YX,YX];exact h.f i
def Tab.put{W:XF}{k m P i x y z t:Nat}(h:Tab W k m P i)(p:i<16)(g:Four (.agg #[uZ x,uZ y,uZ z,uZ t]) (m^i%P)):
 Tab ((((W.setCell ⟨k,i*4,none⟩ (uZ x)).setCell ⟨k,i*4+1,none⟩ (uZ y)).setCell ⟨k,i*4+2,none⟩ (uZ z)).setCell ⟨k,i*4+3,none⟩ (uZ t)) k m P (i+1):=λj n=>by
 obtain⟨a,b,c,d,f,l⟩:=h j n;by_cases e:j=i
 .subst e;exact⟨x,y,z,t,f.put x y z t,λ_=>g⟩
 .refine⟨a,b,c,d,?_,λo=>l oM⟩;exact(((f.off (by simp only;omega) _).off (by simp only;omega) _).off (by simp only;omega) _).off (by simp only;omega) _
def newest{w:XF}{o:Obj}:(w.alloc o).heap[w.heap.size]? = some o:=by
 show(w.heap.push o)[w.heap.size]? = some o;simp
def nY(j:Nat):pw0[j]? = if j=0 then some (uZ 1) else if j<64 then some (uZ 0) else none:=by
 match j with
 | 0=>rfl
 | j+1 =>
  rw[yE4 oM];unfold pw0;rw[Array.getElem?_append_right (by simp)];by_cases h:j+1<64
  .rw[yE3 h];simp[yAZ];omega
  .rw[yE4 h];simp[yAZ];omega
def Tab.new(w:XF)(m P:Nat)(d:1<P):Tab ((w.alloc (.cells pwz 287)).setRow w.heap.size pw0) w.heap.size m P 1:=λj e=>by
 have b:(w.alloc (.cells pwz 287)).heap[w.heap.size]? = some (.cells pwz 287 (0,0)):=newest;have k:=λi=>cell_setRow_same (w.alloc (.cells pwz 287)) w.heap.size i pwz pw0 287 (0,0) b
 have hf:∀o,((w.alloc (.cells pwz 287)).setRow w.heap.size pw0).frozen? ⟨w.heap.size,o,none⟩=false:=λo=>by
  have c:=setRow_heap _ _ _ pw0 _ _ b;unfold World.frozen?;dsimp only;rw[c];simp
 by_cases c:j=0
 .subst c;refine⟨1,0,0,0,⟨?_,?_,?_,?_,hf⟩,λ_=>?_⟩
  .rw[k,nY];rfl
  .rw[k,nY];rfl
  .rw[k,nY];rfl
  .rw[k,nY];rfl
  .rw[yBA,Ya d];exact Four.mk dC dC dC dC rfl
 .refine⟨0,0,0,0,⟨?_,?_,?_,?_,hf⟩,λh=>oM⟩
  .rw[k,nY,yE4 (by simp only;omega),yE3 (by simp only;omega)];rfl
  .rw[k,nY,yE4 (by simp only;omega),yE3 (by simp only;omega)];rfl
  .rw[k,nY,yE4 (by simp only;omega),yE3 (by simp only;omega)];rfl
  .rw[k,nY,yE4 (by simp only;omega),yE3 (by simp only;omega)];rfl
def below_setRow{cs:Array XG}{B:Nat}{w W:XF}(h:Below B w W){g:Nat}(c:B<=g):Below B w (W.setRow g cs):=
 ⟨h.os,h.tape,h.output,by rw[setRow_size];exact h.size,λk b=>by rw[setRow_other W g k cs oM];exact h.block k b⟩
def I7{W:XF}:kZ W ((W.alloc (.cells pwz 287)).setRow W.heap.size pw0):=below_setRow (aC _) (XH _)
def wV{w W:XF}{k e u v f j a b c d p q r s n o l g t m i:Nat}(h:Kept w k [⟨k,0,t,m,i,0⟩,⟨f,j*4,n,o,l,g⟩,⟨e,0,a,b,c,d⟩,⟨u,0,p,q,r,s⟩,⟨v,0,0,0,0,0⟩] W):W.cell? ⟨k,0,none⟩=some (uZ t)/\W.cell? ⟨k,1,none⟩=some (uZ m)/\W.cell? ⟨k,2,none⟩=some (uZ i)/\W.cell? ⟨k,3,none⟩=some (uZ 0)/\W.cell? ⟨f,j*4,none⟩=some (uZ n)/\W.cell? ⟨f,j*4+1,none⟩=some (uZ o)/\W.cell? ⟨f,j*4+2,none⟩=some (uZ l)/\W.cell? ⟨f,j*4+3,none⟩=some (uZ g)/\W.cell? ⟨e,0,none⟩=some (uZ a)/\W.cell? ⟨e,1,none⟩=some (uZ b)/\W.cell? ⟨e,2,none⟩=some (uZ c)/\W.cell? ⟨e,3,none⟩=some (uZ d)/\Kept w k [⟨k,0,t,m,i,0⟩,⟨f,j*4,n,o,l,g⟩,⟨e,0,a,b,c,d⟩,⟨u,0,p,q,r,s⟩,⟨v,0,0,0,0,0⟩] W:=
 ⟨h.head.c0,h.head.c1,h.head.c2,h.head.c3,h.tail.head.c0,h.tail.head.c1,h.tail.head.c2,h.tail.head.c3,h.tail.tail.head.c0,h.tail.tail.head.c1,h.tail.tail.head.c2,h.tail.tail.head.c3,h⟩
def rR{w W:XF}{k v e u x f m P a b c d p q r s i l j nd o n g:Nat}(h:Kept w k (⟨f,0,i,l,j,nd⟩ :: [⟨k,0,o,n,g,0⟩,⟨v,0,a,b,c,d⟩,⟨e,0,p,q,r,s⟩,⟨u,0,0,0,0,0⟩]) W)(t:Tab W x m P 16):W.cell? ⟨k,0,none⟩=some (uZ o)/\W.cell? ⟨k,1,none⟩=some (uZ n)/\W.cell? ⟨k,2,none⟩=some (uZ g)/\W.cell? ⟨k,3,none⟩=some (uZ 0)/\W.cell? ⟨f,0,none⟩=some (uZ i)/\W.cell? ⟨f,1,none⟩=some (uZ l)/\W.cell? ⟨f,2,none⟩=some (uZ j)/\W.cell? ⟨f,3,none⟩=some (uZ nd)/\W.cell? ⟨e,0,none⟩=some (uZ p)/\W.cell? ⟨e,1,none⟩=some (uZ q)/\W.cell? ⟨e,2,none⟩=some (uZ r)/\W.cell? ⟨e,3,none⟩=some (uZ s)/\Kept w k (⟨f,0,i,l,j,nd⟩ :: [⟨k,0,o,n,g,0⟩,⟨v,0,a,b,c,d⟩,⟨e,0,p,q,r,s⟩,⟨u,0,0,0,0,0⟩]) W/\Tab W x m P 16:=
 ⟨h.tail.head.c0,h.tail.head.c1,h.tail.head.c2,h.tail.head.c3,h.head.c0,h.head.c1,h.head.c2,h.head.c3,h.tail.tail.tail.head.c0,h.tail.tail.tail.head.c1,h.tail.tail.tail.head.c2,h.tail.tail.tail.head.c3,h,t⟩
def wU{v:XG}{w W:XF}{e l f g k j i a b c d p q r s u x o m y t n:Nat}(h:Kept w e [⟨e,0,y,t,n,0⟩,⟨k,j*4,u,x,o,m⟩,⟨l,0,a,b,c,d⟩,⟨f,0,p,q,r,s⟩,⟨g,0,0,0,0,0⟩] W)(z:e<=k)(F:k≠e)(C:k≠l)(E:k≠f)(B:k≠g)(D:i<j*4\/j*4+3<i):Kept w e [⟨e,0,y,t,n,0⟩,⟨k,j*4,u,x,o,m⟩,⟨l,0,a,b,c,d⟩,⟨f,0,p,q,r,s⟩,⟨g,0,0,0,0,0⟩] (W.setCell ⟨k,i,none⟩ v):=by
 refine((((((Kept.mk1 (h.bl.setCell (p:=⟨k,i,none⟩) z v) (by simpa using h.le)).cons ?_).cons ?_).cons ?_).cons ?_).cons ?_)
 .exact h.tail.tail.tail.tail.head.other B v
 .exact h.tail.tail.tail.head.other E v
 .exact h.tail.tail.head.other C v
 .exact h.tail.head.off D v
 .exact h.head.other F v
def yK{w W:XF}{e v o u k j i a b c d p q r s E F C A G D B:Nat}(h:Kept w e [⟨e,0,G,D,B,0⟩,⟨k,j*4,E,F,C,A⟩,⟨v,0,a,b,c,d⟩,⟨o,0,p,q,r,s⟩,⟨u,0,0,0,0,0⟩] W)(f:e<=k)(n:k≠e)(l:k≠v)(m:k≠o)(g:k≠u)
 (H:i*4<j*4\/j*4+3<i*4) (J:i*4+1<j*4\/j*4+3<i*4+1) (K:i*4+2<j*4\/j*4+3<i*4+2) (I:i*4+3<j*4\/j*4+3<i*4+3) (x y z t:XG) :
 Kept w e [⟨e,0,G,D,B,0⟩,⟨k,j*4,E,F,C,A⟩,⟨v,0,a,b,c,d⟩,⟨o,0,p,q,r,s⟩,⟨u,0,0,0,0,0⟩] ((((W.setCell ⟨k,i*4,none⟩ x).setCell ⟨k,i*4+1,none⟩ y).setCell ⟨k,i*4+2,none⟩ z).setCell ⟨k,i*4+3,none⟩ t):=
 wU (wU (wU (wU h f n l m g H) f n l m g J) f n l m g K) f n l m g I
def AN(g0 g1 g2 P : Nat)(x y : XG)(m n : Nat)(hG : Gap g0 g1 g2 P)(hx : Four x m)(hy : Four y n)(w : XF):
    ZI prog 200 #[.agg #[.int .u64 (g0 : Int), .int .u64 (g1 : Int), .int .u64 (g2 : Int), .int .u64 0], x, y] w (Ret λe w' => Below w.heap.size w w' /\ Four e (m ^ n % P)) := by
  obtain⟨a, b, c, d, rfl, ha, hb, hc, hd, em⟩ := id hx;obtain⟨p, q, r, s, rfl, hp, hq, hr, hs, en⟩ := id hy;have HX : Hid (Four _ m) := hx;have HY : Hid (Four _ n) := hy;have HG : Hid (Gap g0 g1 g2 P) := hG;clear em en hx hy ha hb hc hd hp hq hr hs hG;go_enter func200, ntmps200
  go_upto_region 1 with fail
  have KP := Dg w 78 42 42 42 g0 g1 g2 0 a b c d p q r s 0 0 0 0;simp only [ZG]at KP;generalize yAo _ _ = W0 at KP⊢;have zv := TF;have hpz : ¬pwz.size < 4 := dC;have hgr : (W0.alloc (.cells pwz 287)).heap[W0.heap.size]? = some (.cells pwz 287 (0, 0)) := newest;go_wp2_with (first | refine wpList_store_row rfl 287 _ _ rfl W0.heap.size pw0 rfl rfl 287 pwz hgr sizeT rfl WM ?_)
  have TB := Tab.new W0 m P (by have := HG.hP2; have : 3 < top := dC
                                omega)
  have hlt := KP.lts;have Q4 : Hid (w.heap.size <= W0.heap.size) := KP.le;replace KP := KP.call (I7);clear zv hgr hpz;generalize World.setRow _ _ _ = W1 at KP TB⊢;generalize W0.heap.size = k4 at TB hlt Q4⊢;generalize h3 : w.heap.size + 1 + 1 + 1 = k3 at KP hlt⊢;generalize h2 : w.heap.size + 1 + 1 = k2 at KP hlt⊢;generalize h1 : w.heap.size + 1 = k1 at KP hlt⊢;have Q3 : Hid (w.heap.size <= k3) := by unfold Hid; omega
  generalize h0 : w.heap.size = k0 at KP hlt Q3 Q4⊢;have H0 : Hid (w.heap.size = k0) := h0;have n40 : k4 ≠ k0 := Zs (hlt _ List.mem_cons_self);have n41 : k4 ≠ k1 := Zs (hlt ⟨k1, 0, a, b, c, d⟩ (by simp));have n42 : k4 ≠ k2 := Zs (hlt ⟨k2, 0, p, q, r, s⟩ (by simp));have n43 : k4 ≠ k3 := Zs (hlt ⟨k3, 0, 0, 0, 0, 0⟩ (by simp));clear h0 h1 h2 h3 hlt;generalize pwz.setIfInBounds 0 (Y1 Yy 1) = zz;go_loopg [8] 15 (λgk s8 wr => ∃i : Nat, i + gk = 16 /\ 1 <= i /\ s8 = .int .i64 (i : Int) /\ Kept w k0 [⟨k0, 0, g0, g1, g2, 0⟩, ⟨k1, 0, a, b, c, d⟩, ⟨k2, 0, p, q, r, s⟩, ⟨k3, 0, 0, 0, 0, 0⟩] wr /\ Tab wr k4 m P i)
  case atStart => exact⟨1, rfl, XH _, rfl, KP, TB⟩
  case round =>
    clear KP TB;obtain⟨i, hi, hi1, rfl, KP0, TB⟩ := hrel;by_cases hlt : i < 16
    · obtain⟨j, hji⟩ : ∃j, i = j + 1 := ⟨i - 1, oM⟩
      obtain⟨pa, pb, pc, pd, BJ, hFJ⟩ := TB j oM;have HFJ : Hid (Four _ (m ^ j % P)) := hFJ oM;have KP : Kept w k0 [⟨k0, 0, g0, g1, g2, 0⟩, ⟨k4, j * 4, pa, pb, pc, pd⟩, ⟨k1, 0, a, b, c, d⟩, ⟨k2, 0, p, q, r, s⟩, ⟨k3, 0, 0, 0, 0, 0⟩] wr := by
        refine((((((Kept.mk1 KP0.bl KP0.le).cons ?_).cons ?_).cons ?_).cons ?_).cons ?_)
        · exact KP0.tail.tail.tail.head
        · exact KP0.tail.tail.head
        · exact KP0.tail.head
        · exact BJ
        · exact KP0.head
      clear KP0 BJ hFJ;have hlt' : (i : Int) < 16 := oM;have e1 : (i : Int) - 1 = (j : Int) := oM;have hj16 : j < 16 := oM;have hj16i : (j : Int) < 16 := oM;have hw1 : Yt.wrap (j : Int) = (j : Int) := Bn oM;have HJ : Hid (i = j + 1) := hji;have o0 : Hid (i * 4 < j * 4 \/ j * 4 + 3 < i * 4) := by unfold Hid; omega
      have o1 : Hid (i * 4 + 1 < j * 4 \/ j * 4 + 3 < i * 4 + 1) := by unfold Hid; omega
      have o2 : Hid (i * 4 + 2 < j * 4 \/ j * 4 + 3 < i * 4 + 2) := by unfold Hid; omega
      have o3 : Hid (i * 4 + 3 < j * 4 \/ j * 4 + 3 < i * 4 + 3) := by unfold Hid; omega
      clear hji
      go_upto_region 5 with fail
      go_region_held3 (λw' => w'.cell? ⟨k0, 0, none⟩ = some (.int .u64 (g0 : Int)) /\ w'.cell? ⟨k0, 1, none⟩ = some (.int .u64 (g1 : Int)) /\ w'.cell? ⟨k0, 2, none⟩ = some (.int .u64 (g2 : Int)) /\ w'.cell? ⟨k0, 3, none⟩ = some (.int .u64 0) /\ w'.cell? ⟨k4, j * 4, none⟩ = some (.int .u64 (pa : Int)) /\ w'.cell? ⟨k4, j * 4 + 1, none⟩ = some (.int .u64 (pb : Int)) /\ w'.cell? ⟨k4, j * 4 + 2, none⟩ = some (.int .u64 (pc : Int)) /\ w'.cell? ⟨k4, j * 4 + 3, none⟩ = some (.int .u64 (pd : Int)) /\ w'.cell? ⟨k1, 0, none⟩ = some (.int .u64 (a : Int)) /\ w'.cell? ⟨k1, 1, none⟩ = some (.int .u64 (b : Int)) /\ w'.cell? ⟨k1, 2, none⟩ = some (.int .u64 (c : Int)) /\ w'.cell? ⟨k1, 3, none⟩ = some (.int .u64 (d : Int)) /\ Kept w k0 [⟨k0, 0, g0, g1, g2, 0⟩, ⟨k4, j * 4, pa, pb, pc, pd⟩, ⟨k1, 0, a, b, c, d⟩, ⟨k2, 0, p, q, r, s⟩, ⟨k3, 0, 0, 0, 0, 0⟩] w') (first | (with_reducible exact wV KP) | (with_reducible exact wV KP.drew) | (with_reducible exact wV (yK KP Q4.out n40 n41 n42 n43 o0.out o1.out o2.out o3.out _ _ _ _)) | (with_reducible exact wV (yK KP Q4.out n40 n41 n42 n43 o0.out o1.out o2.out o3.out _ _ _ _).drew) | fail) (first | (go_at_call 55; refine(jY HX.out).mono ?_; rintro e w1 ⟨v, rfl, hb1, rfl⟩; (first | (with_reducible (have KP1 := KP.drew.call hb1)) | (with_reducible (have KP1 := KP.call hb1)) | fail); (first | (with_reducible (have T1 := TB.drew.call hb1)) | (with_reducible (have T1 := TB.call hb1)) | fail); clear KP TB hb1; have KP := KP1; have TB := T1; clear KP1 T1) | (go_at_call 100; refine(dN g0 g1 g2 P _ _ _ _ HG.out HFJ.out HX.out _).mono ?_; rintro e w1 ⟨v, rfl, hb1, hF3⟩; obtain⟨a', b', c', d', rfl, ha', hb', hc', hd', es3⟩ := id hF3; clear es3; have HF3 : Hid (Four _ _) := hF3; clear hF3; (first | (with_reducible (have KP1 := KP.drew.call hb1)) | (with_reducible (have KP1 := KP.call hb1)) | fail); (first | (with_reducible (have T1 := TB.drew.call hb1)) | (with_reducible (have T1 := TB.call hb1)) | fail); clear KP TB hb1; have KP := KP1; have TB := T1; clear KP1 T1; obtain⟨ya, yb, yc, yd, BI, hFI⟩ := TB i hlt; clear hFI; obtain⟨tc0, tc1, tc2, tc3, tf⟩ := id BI; have zt := BI.lt; clear BI))
      go_wp2;go_roundg (gk - 1)
      case measure => omega
      case rel =>
        have K3 := yK KP Q4.out n40 n41 n42 n43 o0.out o1.out o2.out o3.out (.int .u64 (a' : Int)) (.int .u64 (b' : Int)) (.int .u64 (c' : Int)) (.int .u64 (d' : Int));refine⟨i + 1, oM, oM, rfl, ?_, ?_⟩
        · exact((((Kept.mk1 K3.bl K3.le).cons K3.tail.tail.tail.tail.head).cons K3.tail.tail.tail.head).cons K3.tail.tail.head).cons K3.head
        · refine TB.put hlt ?_
          have h1 := HF3.out;rw [BK, <-HJ.out]at h1;exact h1
    · have hi16 : i = 16 := oM
      subst hi16;obtain⟨pa, pb, pc, pd, BJ, hFJ⟩ := TB 0 dC;have HFJ := mk1 (hFJ dC);replace BJ : (Blk.mk k4 0 pa pb pc pd).at wr := BJ;obtain⟨tc0, tc1, tc2, tc3, tf⟩ := id BJ;replace tc0 : wr.cell? ⟨k4, 0, none⟩ = some (.int .u64 (pa : Int)) := tc0;replace tc1 : wr.cell? ⟨k4, 1, none⟩ = some (.int .u64 (pb : Int)) := tc1;replace tc2 : wr.cell? ⟨k4, 2, none⟩ = some (.int .u64 (pc : Int)) := tc2;replace tc3 : wr.cell? ⟨k4, 3, none⟩ = some (.int .u64 (pd : Int)) := tc3;have zt := BJ.lt;go_wp2;have KN := (KP0.alloc (.cells #[.int .u64 (pa : Int), .int .u64 (pb : Int), .int .u64 (pc : Int), .int .u64 (pd : Int)] 76)).cons (At4.made wr 76 pa pb pc pd rfl).blk;have TN := TB.call (aC (.cells #[.int .u64 (pa : Int), .int .u64 (pb : Int), .int .u64 (pc : Int), .int .u64 (pd : Int)] 76));have hlt5 := KP0.lts;have n54 := Zs BJ.lt;have Q5 := mk1 (KP0.le);generalize yAo _ _ = Wv5 at KN TN⊢;generalize wr.heap.size = k5 at KN hlt5 n54 Q5⊢;have hl5 : ∀x ∈ ([⟨k0, 0, g0, g1, g2, 0⟩, ⟨k1, 0, a, b, c, d⟩, ⟨k2, 0, p, q, r, s⟩, ⟨k3, 0, 0, 0, 0, 0⟩] : List Blk), k5 ≠ x.k := λx hx => Zs (hlt5 x hx)
      go_loopg [10] 64 (λgk s10 wr => gk <= 64 /\ s10 = .int .i64 (4 * (gk : Int) - 4) /\ (∃na nb nc nd : Nat, Kept w k0 (⟨k5, 0, na, nb, nc, nd⟩ :: [⟨k0, 0, g0, g1, g2, 0⟩, ⟨k1, 0, a, b, c, d⟩, ⟨k2, 0, p, q, r, s⟩, ⟨k3, 0, 0, 0, 0, 0⟩]) wr /\ Hid (Four (.agg #[.int .u64 (na : Int), .int .u64 (nb : Int), .int .u64 (nc : Int), .int .u64 (nd : Int)]) (m ^ (n / 2 ^ (4 * gk)) % P))) /\ Tab wr k4 m P 16)
      case atStart =>
        refine⟨XH _, rfl, ⟨pa, pb, pc, pd, KN, ?_⟩, TN⟩;have h1 := HFJ.out;rw [show n / 2 ^ (4 * 64) = 0 from yAA HY.lt];exact h1
      case round =>
        obtain⟨hg64, rfl, ⟨na, nb, nc, nd, KP, HF⟩, TB⟩ := hrel;by_cases hz : gk = 0
        · subst hz
          have HF0 := HF.out;rw [yCQ, yBA, yEJ]at HF0;obtain⟨tc0, tc1, tc2, tc3, tf⟩ := KP.head.at4;have zt := KP.head.lt;go_wp2_with fail
          refine(jU HF0).mono ?_;rintro e w1 ⟨v, rfl, hb1, rfl⟩;have HFE := mk1 (HF0);have KP1 := KP.call hb1;obtain⟨rc0, rc1, rc2, rc3, rf⟩ := KP1.tail.tail.tail.tail.head.at4;have zr := KP1.tail.tail.tail.tail.head.lt;go_wp2;have RF := KP1.tail.tail.tail.tail.head.at4.self4 na nb nc nd;unfold set4 at RF;refine XR (v := ?v) ?hr rfl ?hR
          case hr => simp [results, Tryz.results200, go_sem, RF.c0, RF.c1, RF.c2, RF.c3]; rfl
          refine⟨_, rfl, ?_, HFE.out⟩;rw [H0.out];exact aK KP1.bl Q3.out
        · obtain⟨I, hI⟩ : ∃I, 4 * (gk - 1) = I := ⟨_, rfl⟩
          have e1 : 4 * (gk : Int) - 4 = (I : Int) := oM;rw [e1];have HI := mk1 (hI);obtain⟨E, hE⟩ : ∃E, n / 2 ^ (4 * gk) = E := ⟨_, rfl⟩;have HE := mk1 (hE);rw [hE]at HF;go_wp2;refine wp_loop_rounds 5 ?_;obtain⟨tc0, tc1, tc2, tc3, tf⟩ := KP.head.at4;have zt := KP.head.lt;obtain⟨pc0, pc1, pc2, pc3, pf⟩ := KP.tail.head.at4;have zp := KP.tail.head.lt;rw [ZV];go_wp2_with fail
          refine(dN g0 g1 g2 P _ _ _ _ HG.out HF.out HF.out _).mono ?_;rintro e w1 ⟨v, rfl, hb1, hF3⟩;rw [kQ]at hF3;obtain⟨n1a, n1b, n1c, n1d, rfl, ha', hb', hc', hd', es3⟩ := id hF3;have HF := mk1 (hF3);replace KP := KP.call hb1;replace TB := TB.call hb1;obtain⟨tc0, tc1, tc2, tc3, tf⟩ := KP.head.at4;have zt := KP.head.lt;go_wp2_with fail
          have KP2 := KP.put Q5.out hl5 n1a n1b n1c n1d;have TB2 := (((TB.other (o := 0) n54 (.int .u64 (n1a : Int))).other (o := 1) n54 (.int .u64 (n1b : Int))).other (o := 2) n54 (.int .u64 (n1c : Int))).other (o := 3) n54 (.int .u64 (n1d : Int));have KP := KP2;have TB := TB2;obtain⟨tc0, tc1, tc2, tc3, tf⟩ := KP.head.at4;have zt := KP.head.lt;obtain⟨pc0, pc1, pc2, pc3, pf⟩ := KP.tail.head.at4;have zp := KP.tail.head.lt;rw [ZV];go_wp2_with fail
          clear tc0 tc1 tc2 tc3 tf zt pc0 pc1 pc2 pc3 pf zp;refine(dN g0 g1 g2 P _ _ _ _ HG.out HF.out HF.out _).mono ?_;rintro e w2 ⟨v, rfl, hb1, hF3⟩;rw [kQ]at hF3;obtain⟨n2a, n2b, n2c, n2d, rfl, ha', hb', hc', hd', es3⟩ := id hF3;clear HF;have HF : Hid (Four _ _) := hF3;clear hF3 es3 ha' hb' hc' hd';replace KP := KP.call hb1;replace TB := TB.call hb1;clear hb1;obtain⟨tc0, tc1, tc2, tc3, tf⟩ := KP.head.at4;have zt := KP.head.lt;go_wp2_with fail
          clear tc0 tc1 tc2 tc3 tf zt;have KP2 := KP.put Q5.out hl5 n2a n2b n2c n2d;have TB2 := (((TB.other (o := 0) n54 (.int .u64 (n2a : Int))).other (o := 1) n54 (.int .u64 (n2b : Int))).other (o := 2) n54 (.int .u64 (n2c : Int))).other (o := 3) n54 (.int .u64 (n2d : Int));clear KP TB;generalize yAV _ _ _ = WX2 at KP2 TB2⊢;have KP := KP2;have TB := TB2;clear KP2 TB2;obtain⟨tc0, tc1, tc2, tc3, tf⟩ := KP.head.at4;have zt := KP.head.lt;obtain⟨pc0, pc1, pc2, pc3, pf⟩ := KP.tail.head.at4;have zp := KP.tail.head.lt;rw [ZV];go_wp2_with fail
          clear tc0 tc1 tc2 tc3 tf zt pc0 pc1 pc2 pc3 pf zp;refine(dN g0 g1 g2 P _ _ _ _ HG.out HF.out HF.out _).mono ?_;rintro e w3 ⟨v, rfl, hb1, hF3⟩;rw [kQ]at hF3;obtain⟨n3a, n3b, n3c, n3d, rfl, ha', hb', hc', hd', es3⟩ := id hF3;clear HF;have HF : Hid (Four _ _) := hF3;clear hF3 es3 ha' hb' hc' hd';replace KP := KP.call hb1;replace TB := TB.call hb1;clear hb1;obtain⟨tc0, tc1, tc2, tc3, tf⟩ := KP.head.at4;have zt := KP.head.lt;go_wp2_with fail
          clear tc0 tc1 tc2 tc3 tf zt;have KP2 := KP.put Q5.out hl5 n3a n3b n3c n3d;have TB2 := (((TB.other (o := 0) n54 (.int .u64 (n3a : Int))).other (o := 1) n54 (.int .u64 (n3b : Int))).other (o := 2) n54 (.int .u64 (n3c : Int))).other (o := 3) n54 (.int .u64 (n3d : Int));clear KP TB;generalize yAV _ _ _ = WX3 at KP2 TB2⊢;have KP := KP2;have TB := TB2;clear KP2 TB2;obtain⟨tc0, tc1, tc2, tc3, tf⟩ := KP.head.at4;have zt := KP.head.lt;obtain⟨pc0, pc1, pc2, pc3, pf⟩ := KP.tail.head.at4;have zp := KP.tail.head.lt;rw [ZV];go_wp2_with fail
          clear tc0 tc1 tc2 tc3 tf zt pc0 pc1 pc2 pc3 pf zp;refine(dN g0 g1 g2 P _ _ _ _ HG.out HF.out HF.out _).mono ?_;rintro e w4 ⟨v, rfl, hb1, hF3⟩;rw [kQ]at hF3;obtain⟨n4a, n4b, n4c, n4d, rfl, ha', hb', hc', hd', es3⟩ := id hF3;clear HF;have HF : Hid (Four _ _) := hF3;clear hF3 es3 ha' hb' hc' hd';replace KP := KP.call hb1;replace TB := TB.call hb1;clear hb1;obtain⟨tc0, tc1, tc2, tc3, tf⟩ := KP.head.at4;have zt := KP.head.lt;go_wp2_with fail
          clear tc0 tc1 tc2 tc3 tf zt;have KP2 := KP.put Q5.out hl5 n4a n4b n4c n4d;have TB2 := (((TB.other (o := 0) n54 (.int .u64 (n4a : Int))).other (o := 1) n54 (.int .u64 (n4b : Int))).other (o := 2) n54 (.int .u64 (n4c : Int))).other (o := 3) n54 (.int .u64 (n4d : Int));clear KP TB;generalize yAV _ _ _ = WX4 at KP2 TB2⊢;have KP := KP2;have TB := TB2;clear KP2 TB2;rw [ZV];go_wp2_with fail
          refine anyTill.begin (λw' => w'.cell? ⟨k0, 0, none⟩ = some (.int .u64 (g0 : Int)) /\ w'.cell? ⟨k0, 1, none⟩ = some (.int .u64 (g1 : Int)) /\ w'.cell? ⟨k0, 2, none⟩ = some (.int .u64 (g2 : Int)) /\ w'.cell? ⟨k0, 3, none⟩ = some (.int .u64 0) /\ w'.cell? ⟨k5, 0, none⟩ = some (.int .u64 (n4a : Int)) /\ w'.cell? ⟨k5, 1, none⟩ = some (.int .u64 (n4b : Int)) /\ w'.cell? ⟨k5, 2, none⟩ = some (.int .u64 (n4c : Int)) /\ w'.cell? ⟨k5, 3, none⟩ = some (.int .u64 (n4d : Int)) /\ w'.cell? ⟨k2, 0, none⟩ = some (.int .u64 (p : Int)) /\ w'.cell? ⟨k2, 1, none⟩ = some (.int .u64 (q : Int)) /\ w'.cell? ⟨k2, 2, none⟩ = some (.int .u64 (r : Int)) /\ w'.cell? ⟨k2, 3, none⟩ = some (.int .u64 (s : Int)) /\ Kept w k0 (⟨k5, 0, n4a, n4b, n4c, n4d⟩ :: [⟨k0, 0, g0, g1, g2, 0⟩, ⟨k1, 0, a, b, c, d⟩, ⟨k2, 0, p, q, r, s⟩, ⟨k3, 0, 0, 0, 0, 0⟩]) w' /\ Tab w' k4 m P 16) 8 mixed (rR KP.drew TB.drew) (λhS => ?_);refine anyTill.tk (i := 0) (v := ?_) rfl (Yk ⟨by rfl, ?_⟩) hS ?_
          rotate_left
          · intro w hSw
            (try dsimp only at hSw)
            go_simp;try(with_reducible rfl)
          simp only [Yo, XJ];refine anyTill.tk (i := 1) (v := ?_) rfl (Yk ⟨by rfl, ?_⟩) hS ?_
          rotate_left
          · intro w hSw
            (try dsimp only at hSw)
            go_simp;try(with_reducible rfl)
          simp only [Yo];refine anyTill.tk (i := 2) (v := ?_) rfl (Yk ⟨by rfl, ?_⟩) hS ?_
          rotate_left
          · intro w hSw
            (try dsimp only at hSw)
            go_simp;try(with_reducible rfl)
          simp only [Yo];refine anyTill.tk (i := 3) (v := ?_) rfl (Yk ⟨by rfl, ?_⟩) hS ?_
          rotate_left
          · intro w hSw
            (try dsimp only at hSw)
            go_simp;try(with_reducible rfl)
          simp only [Yo];try simp only [XO, XM]
          obtain⟨tt, htt⟩ : ∃tt, n / 2 ^ I % 2 ^ 4 = tt := ⟨_, rfl⟩;have HT : Hid (n / 2 ^ I % 2 ^ 4 = tt) := htt;have hB := λw => DZ _ n I 4 HY.out oM dC w
          rw [htt]at hB
          have htl : tt < 16 := by have : (2 : Nat) ^ 4 = 16 := rfl
                                   rw [<-htt]; omega
          have htl' : (tt : Int) < 16 := oM;have HB : Hid _ := hB;clear hB htt;refine anyTill.step (i := 4) rfl kR (λK hK => ?_);go_simp;refine(HB _).mono ?_;rintro e w6 ⟨v, rfl, hb1, rfl⟩;clear hS HB;have KP6 := KP.drew.call hb1;have TB6 := TB.drew.call hb1;clear hb1 KP TB;refine hK.out _ _ (λ_ => rR KP6 TB6) ?_;clear hK K;try simp only [Yo, XJ, XO, XM]
          obtain⟨ta, tb, tc, td, BT, hFT⟩ := TB6 tt htl;have HFT : Hid (Four _ (m ^ tt % P)) := hFT htl;clear hFT;obtain⟨tc0, tc1, tc2, tc3, tf⟩ := id BT;have zt := BT.lt;refine anyTill.step (i := 5) rfl kR (λK hK => ?_);go_simp;refine hK.out _ _ (λ_ => rR KP6 TB6) ?_;clear hK K;try simp only [Yo, XJ, XO, XM]
          refine anyTill.step (i := 6) rfl kR (λK hK => ?_);go_simp;refine hK.out _ _ (λ_ => rR KP6 TB6) ?_;clear hK K;try simp only [Yo, XJ, XO, XM]
          clear tc0 tc1 tc2 tc3 tf zt BT;refine anyTill.step (i := 7) rfl kR (λK hK => ?_);go_simp;refine(dN g0 g1 g2 P _ _ _ _ HG.out HF.out HFT.out _).mono ?_;rintro e w7 ⟨v, rfl, hb1, hF3⟩;rw [CS]at hF3;obtain⟨ua, ub, uc, ud, rfl, ha', hb', hc', hd', es3⟩ := id hF3;have HFU : Hid (Four _ _) := hF3;clear hF3 es3 ha' hb' hc' hd' HF HFT;have KP7 := KP6.call hb1;have TB7 := TB6.call hb1;clear hb1 KP6 TB6;refine hK.out _ _ (λ_ => rR KP7 TB7) ?_;clear hK K;try simp only [Yo, XJ, XO, XM]
          obtain⟨tc0, tc1, tc2, tc3, tf⟩ := KP7.head.at4;have zt := KP7.head.lt;refine anyTill.step (i := 8) rfl kR (λK hK => ?_);go_simp;refine hK.out _ _ (λh => yBl h) ?_;clear hK K;try simp only [Yo, XJ, XO, XM]
          refine anyTill.done kR ?_ _;clear tc0 tc1 tc2 tc3 tf zt;go_wp2;go_roundg (gk - 1)
          case measure => omega
          case rel =>
            refine⟨oM, ?_, ⟨ua, ub, uc, ud, KP7.put Q5.out hl5 ua ub uc ud, ?_⟩, (((TB7.other (o := 0) n54 _).other (o := 1) n54 _).other (o := 2) n54 _).other (o := 3) n54 _⟩
            · have := HI.out
              congr 1
              omega
            · have h1 := HFU.out
              unfold Hid;rw [HI.out, OV, show I + 4 = 4 * gk by have := HI.out; omega, HE.out, HT.out];rw [show 2 * (2 * (2 * (2 * E))) + tt = 16 * E + tt by omega]at h1;exact h1
def p0:Nat:=115792089237316195423570985008687907853269984665640564039457584007908834671663
def p1:Nat:=115792089237316195423570985008687907852837564279074904382605163141518161494337
def gv0:XG:=.agg #[uZ 4294968273,uZ 0,uZ 0,uZ 0]
def gv1:XG:=.agg #[uZ 4624529908474429119,uZ 4994812053365940164,uZ 1,uZ 0]
def Xh:Gap 4294968273 0 0 p0:=⟨dC,dC,dC,Yk ⟨rfl,rfl⟩,dK,dK,dK⟩
def Xg:Gap 4624529908474429119 4994812053365940164 1 p1:=⟨dC,dC,dC,Yd ⟨4994812053365940165,dK,dC⟩,dK,dK,dK⟩
def wN{w:XF}:
 cZ 118 #[] w λe w'=>e=.returned (.agg #[uZ 4294968273,uZ 0,uZ 0,uZ 0])/\w'=w.alloc (.cells #[uZ 4294968273,uZ 0,uZ 0,uZ 0] 78):=by
 go_enter func118,ntmps118;go_wp2;refine XR (v:=?v) ?hr rfl ?hR
 case hr=>simp[results,Tryz.results118,go_sem];rfl
 exact⟨rfl,rfl⟩
def DO{w:XF}:
 cZ 28 #[] w λe w'=>e=.returned (.agg #[uZ 4624529908474429119,uZ 4994812053365940164,uZ 1,uZ 0])/\w'=w.alloc (.cells #[uZ 4624529908474429119,uZ 4994812053365940164,uZ 1,uZ 0] 78):=by
 go_enter func28,ntmps28;go_wp2;refine XR (v:=?v) ?hr rfl ?hR
 case hr=>simp[results,Tryz.results28,go_sem];rfl
 exact⟨rfl,rfl⟩
end
section
abbrev Bs:=Array UInt8
def ub(x:UInt8):Int:=(x.toNat:Int)
def encB(x:UInt8):XG:=.int .u8 (ub x)
abbrev LB:=List (Nat × Bs)
abbrev hZ(w:XF)(b o:Nat)(d:Bs):Prop:=Go.Sort.Holds encB w b o d
structure Only(b off n:Nat)(w w':XF):Prop where
 os:w'.os=w.os
 tape:w'.tape=w.tape
 output:w'.output=w.output
 size:w.heap.size<=w'.heap.size
 block:∀k,k<w.heap.size->k≠b->w'.heap[k]? = w.heap[k]?
 cell:∀o,(o<off\/off+n<=o)->w'.cell? ⟨b,o,none⟩=w.cell? ⟨b,o,none⟩
 froz:∀o,w'.frozen? ⟨b,o,none⟩=w.frozen? ⟨b,o,none⟩
variable {b off n:Nat}{w w1 w2:XF}
def Only.refl(b off n:Nat)(w:XF):Only b off n w w:=⟨rfl,rfl,rfl,XH _,λ_ _ _=>rfl,λ_ _=>rfl,λ_=>rfl⟩
def Only.trans(h:Only b off n w w1)(k:Only b off n w1 w2):Only b off n w w2:=
 ⟨k.os.trans h.os,k.tape.trans h.tape,k.output.trans h.output,Nat.le_trans h.size k.size,
  λi c d=>(k.block i (XI c h.size) d).trans (h.block i c d),
  λo ho=>(k.cell o ho).trans (h.cell o ho),λo=>(k.froz o).trans (h.froz o)⟩
def Only.setCell(h:Only b off n w w1){o:Nat}(f:off<=o)(g:o<off+n)(v:XG):Only b off n w (w1.setCell ⟨b,o,none⟩ v):=by
 refine h.trans ⟨rfl,rfl,rfl,by simp,λk _ c=>yCc _ _ _ _ c,λd ho=>?_,λd=>by simp⟩;exact Yc _ _ _ _ (by intro e;simp only[Addr.mk.injEq,and_true,true_and]at e;omega)
def Only.below(h:Only b off n w w1){B:Nat}(d:B<=w.heap.size)(c:B<=b):Below B w w1:=
 ⟨h.os,h.tape,h.output,h.size,λk e=>h.block k oM oM⟩
section
variable {α:Type}[Inhabited α]{enc:α->XG}{d:Array α}
def Holds.lt(h:Holds enc w b off d)(hd:0<d.size):b<w.heap.size:=World.block_lt_of_cell? _ _ (h 0 hd).1
def Holds.same{o:Nat}(h:Holds enc w b o d)(k:Only b off n w w1)(hd:o+d.size<=off\/off+n<=o):Holds enc w1 b o d:=by
 intro j c;rw[k.cell _ oM,k.froz];exact h j c
def Holds.below{B:Nat}(h:Holds enc w b off d)(k:Below B w w1)(c:b<B):Holds enc w1 b off d:=by
 intro j e;rw[k.cell (p:=⟨b,off+j,none⟩) c,k.frozen (p:=⟨b,off+j,none⟩) c];exact h j e
def Holds.drewN(h:Holds enc w b off d)(q:Nat):Holds enc (w.drewN q) b off d:=h
def Holds.set(h:Holds enc w b off d){i:Nat}(c:i<d.size)(x:α):Holds enc (w.setCell ⟨b,off+i,none⟩ (enc x)) b off (d.setIfInBounds i x):=by
 intro j k;rw[Array.size_setIfInBounds]at k;rw[YX];by_cases e:j=i
 .subst e;rw[getElem!_set_same d j x c];exact⟨Zf _ _ _ (h j k).1,(h j k).2⟩
 .rw[getElem!_set_other d i j x e,Yc _ _ _ _ (by intro e';simp only[Addr.mk.injEq,and_true,true_and]at e';omega)];exact h j k
def Holds.new(w:XF)(t:Yj)(d:Array α):Holds enc (w.alloc (.cells (d.map enc) t)) w.heap.size 0 d:=by
 intro j k;rw[Yz,Zz];refine⟨?_,rfl⟩;simp only[XQ,Array.getElem?_map,Array.getElem?_eq_getElem k,Option.map_some,getElem!_pos d j k]
def Holds.made(w:XF)(t:Yj)(n:Nat)(x:α):Holds enc (w.alloc (.cells (madeCells #[enc x] n) t)) w.heap.size 0 (XW n x):=by
 intro j k;rw[X8]at k;rw[Yz,Zz];refine⟨?_,rfl⟩;rw[getElem!_pos _ j (by simpa using k),Zp];simp[madeCells,k,yEH]
end
section
def fill(i:Nat):UInt8:=XY (i%251) ^^^ 165
def lentTo(s:ByteArray):Nat->Bs
 | 0=>s.data++XW 160 0
 | k+1=>(lentTo s k).setIfInBounds (s.size+k) (fill (s.size+k))
def lent(s:ByteArray):Bs:=lentTo s 160
variable {w w1:XF}{b o n:Nat}
def heap_setCells(b:Nat){k:Nat}(c:k≠b):∀(vs:List XG) (p:Nat) (w:XF),(w.setCells b p vs).heap[k]? = w.heap[k]?
 | [],_,_=>rfl
 | v :: r,p,w=>by rw[World.setCells,heap_setCells b c r (p+1) _,yCc _ _ _ _ c]
def Holds.setCells{d r:Bs}(h:hZ w b o d)(vs:List XG)(p:Nat)(g:r.size=d.size)(m:p+vs.length<=d.size)
 (f:∀j (k:j<vs.length),vs[j]=encB r[p+j]!) (c:∀j,j<d.size->j<p\/p+vs.length<=j->r[j]! = d[j]!):hZ (w.setCells b (o+p) vs) b o r:=by
 intro j k;rw[g]at k;rw[World.frozen?_setCells];refine⟨?_,(h j k).2⟩;by_cases e:j<p\/p+vs.length<=j
 .rw[World.cell?_setCells_out b vs (o+p) w ⟨b,o+j,none⟩ (λ_ _=>by simp only;omega),c j k e];exact(h j k).1
 .have c:j-p<vs.length:=oM;have:=World.cell?_setCells_in b vs (o+p) w (λi l=>by
   have:=(h (p+i) oM).1;rw[<-ZL]at this;rw[this];rfl) (j-p) c
  rw[show o+p+(j-p)=o+j by omega]at this;rw[this,f (j-p) c,show p+(j-p)=j by omega]
def app_front(a r:Bs)(j:Nat)(k:j<a.size):(a++r)[j]! = a[j]:=by
 have h:j<(a++r).size:=by rw[Ys];omega
 rw[getElem!_pos (a++r) j h,Array.getElem_append_left k]
def app_back(a r:Bs)(j:Nat)(b:a.size<=j)(c:j<a.size+r.size):(a++r)[j]! = r[j-a.size]!:=by
 have h:j<(a++r).size:=by rw[Ys];omega
 have k:j-a.size<r.size:=oM;rw[getElem!_pos (a++r) j h,Array.getElem_append_right b,getElem!_pos r (j-a.size) k]
def rep_at(n j:Nat)(h:j<n):(XW n (0:UInt8))[j]! = 0:=by
 have k:j<(XW n (0:UInt8)).size:=by rw[X8];exact h
 rw[getElem!_pos (XW n (0:UInt8)) j k,Zp]
def size_of5(P:YO)(e:Yj)(h:(P.info? e).map (·.size)=some 1):∀w,(yCV e).run P w=.ok 1 w:=by
 intro w;cases k:P.info? e with
 | none=>simp[k]at h
 | some i =>
  simp[k]at h;simp[yCV,typeInfo,k,h]
def conv_str(P:YO)(src k e:Yj)(m:P.underlying src=some (.slice e))(l:P.underlying e=some (.int .u8))(hd:P.underlying k=some .string)
 (w:XF) (b o n cap:Nat) (c:Bs) (i:hZ w b o c) (q:c.size=n):(convert src k (qZ b o n cap)).run P w=.ok (.string ⟨c⟩) w:=by
 have h:=run_convert_bytes_back (P:=P) w src k e ⟨b,o,none⟩ cap c.toList m l hd (λj r=>by
  have d:j<c.size:=by simpa using r
  have f:=(i j d).1;rw[getElem!_pos c j d]at f;have p:(⟨b,o,none⟩:Addr).add j=⟨b,o+j,none⟩:=by
   unfold yBZ;by_cases g:j=0
   .subst g;rfl
   .rw[yE4 g]
  rw[p,f];simp[encB,ub])
 simpa[q]using h
end
section
def slice22:prog.underlying 23=some (.slice 5):=kR
def info5:(prog.info? 5).map (λi=>(i.zero,i.size,i.bytes))=some (some (.int .u8 0),1,1):=kR
def int5:prog.underlying 5=some (.int .u8):=kR
def str9:prog.underlying 9=some .string:=kR
def size5:∀w,(yCV 5).run prog w=.ok 1 w:=size_of5 prog 5 kR
end
end
section
variable {P:Nat}[NeZero P]{N:Nat}
def be8(x:Nat):Bs:=#[XY (x/72057594037927936),XY (x/281474976710656),XY (x/1099511627776),XY (x/4294967296),XY (x/16777216),XY (x/65536),XY (x/256),XY x]
def be32(a b c d:Nat):Bs:=be8 d++be8 c++be8 b++be8 a
def nO(x:Nat):ub (XY x)=((x%256:Nat):Int):=by
 unfold ub;rw[UInt8.toNat_ofNat']
def PL(x:Nat):IntKind.u8.wrap (x:Int)=ub (XY x):=by
 rw[nO,IntKind.wrap_u8];omega
def byte_at{x k:Nat}:(Y1 .u8 ((x:Int)/(k:Int)%256))=encB (XY (x/k)):=by
 unfold encB;rw[nO,yD4,yBX];rfl
def Mt{x:Nat}(hx:x<2^64):(Y1 .u8 ((x:Int)/72057594037927936))=encB (XY (x/72057594037927936)):=by
 unfold encB;rw[nO];exact congrArg (Y1 .u8) oM
def WC{k:Bs}{v0 v1 v2 b f e c d:UInt8}(g:k.size=8):
 (((((((k.setIfInBounds 0 v0).setIfInBounds 1 v1).setIfInBounds 2 v2).setIfInBounds 3 b).setIfInBounds 4 f).setIfInBounds 5 e).setIfInBounds 6 c).setIfInBounds 7 d=#[v0,v1,v2,b,f,e,c,d]:=by
 obtain⟨l⟩:=k;match l,g with
 | [_,_,_,_,_,_,_,_],_=>simp
def kO(g o n cap x:Nat)(b:Bs)(w:XF)(a:8<=n)(A:n<=cap)(c:cap<=1048576)(hx:x<2^64)(l:b.size=8)(k:hZ w g o b):
 cZ 52 #[qZ g o n cap,uZ x] w λe w'=>e=.returned (.tuple #[])/\Only g o 8 w w'/\hZ w' g o (be8 x):=by
 obtain⟨q,f⟩:=k 0 oM;obtain⟨c1,C⟩:=k 1 oM;obtain⟨c2,f2⟩:=k 2 oM;obtain⟨u,f3⟩:=k 3 oM;obtain⟨t,v⟩:=k 4 oM;obtain⟨z,y⟩:=k 5 oM;obtain⟨D,B⟩:=k 6 oM;obtain⟨E,F⟩:=k 7 oM;rw[yAi]at q f;have r:=mk1 (k);go_enter func52,ntmps52;go_wp2;have v0:(Y1 .u8 ((x:Int)/72057594037927936))=encB (XY (x/72057594037927936)):=Mt (x:=x) hx;have v1:(Y1 .u8 ((x:Int)/281474976710656%256))=encB (XY (x/281474976710656)):=byte_at (x:=x) (k:=281474976710656);have v2:(Y1 .u8 ((x:Int)/1099511627776%256))=encB (XY (x/1099511627776)):=byte_at (x:=x) (k:=1099511627776);have m:(Y1 .u8 ((x:Int)/4294967296%256))=encB (XY (x/4294967296)):=byte_at (x:=x) (k:=4294967296);have j:(Y1 .u8 ((x:Int)/16777216%256))=encB (XY (x/16777216)):=byte_at (x:=x) (k:=16777216);have s:(Y1 .u8 ((x:Int)/65536%256))=encB (XY (x/65536)):=byte_at (x:=x) (k:=65536);have d:(Y1 .u8 ((x:Int)/256%256))=encB (XY (x/256)):=byte_at (x:=x) (k:=256);have p:(Y1 .u8 ((x:Int)%256))=encB (XY x):=by unfold encB;rw[nO,yD4];rfl
 rw[v0,v1,v2,m,j,s,d,p]
 go_end0
 refine⟨rfl,?_,?_⟩
 .exact((((((((Only.refl g o 8 w).setCell (o:=o) oM oM _).setCell (o:=o+1) oM oM _).setCell (o:=o+2) oM oM _).setCell (o:=o+3) oM oM _).setCell (o:=o+4) oM oM _).setCell (o:=o+5) oM oM _).setCell (o:=o+6) oM oM _).setCell (o:=o+7) oM oM _
 .have:=WC (k:=b) l (v0:=(XY (x/72057594037927936))) (v1:=(XY (x/281474976710656))) (v2:=(XY (x/1099511627776))) (b:=(XY (x/4294967296))) (f:=(XY (x/16777216))) (e:=(XY (x/65536))) (c:=(XY (x/256))) (d:=(XY x));unfold be8;rw[<-this];exact Holds.set (Holds.set (Holds.set (Holds.set (Holds.set (Holds.set (Holds.set (Holds.set r (i:=0) oM _) (i:=1) (by simp;omega) _) (i:=2) (by simp;omega) _) (i:=3) (by simp;omega) _) (i:=4) (by simp;omega) _) (i:=5) (by simp;omega) _) (i:=6) (by simp;omega) _) (i:=7) (by simp;omega) _
def cC(x:Nat):(be8 x).size=8:=rfl
def Bc{a b c d:Nat}:(be32 a b c d).size=32:=by simp only[be32,Ys,cC]
def Holds.part{w:XF}{g o p:Nat}{d e:Bs}(h:hZ w g o d)(c:p+e.size<=d.size)(b:∀j,j<e.size->e[j]! = d[p+j]!):hZ w g (o+p) e:=by
 intro j k;rw[b j k,ZL];exact h (p+j) oM
def Holds.join{w:XF}{g:Nat}{a b c d:Nat}(f:hZ w g 0 (be8 d))(l:hZ w g 8 (be8 c))(n:hZ w g 16 (be8 b))(m:hZ w g 24 (be8 a)):hZ w g 0 (be32 a b c d):=by
 intro j i;rw[Bc]at i;have e:be32 a b c d=be8 d++be8 c++be8 b++be8 a:=rfl;have s1:(be8 d++be8 c).size=16:=by simp only[Ys,cC]
 have s2:(be8 d++be8 c++be8 b).size=24:=by simp only[Ys,cC]
 by_cases k:j<8
 .have:=f j (by rw[cC];exact k);rw[e,app_front _ _ j oM,<-getElem!_pos (be8 d++be8 c++be8 b) j oM,app_front _ _ j oM,<-getElem!_pos (be8 d++be8 c) j oM,app_front _ _ j (by rw[cC];exact k),<-getElem!_pos (be8 d) j (by rw[cC];exact k)];exact this
 .by_cases o:j<16
  .have:=l (j-8) (by rw[cC];omega);rw[show 8+(j-8)=0+j by omega]at this;rw[e,app_front _ _ j oM,<-getElem!_pos (be8 d++be8 c++be8 b) j oM,app_front _ _ j oM,<-getElem!_pos (be8 d++be8 c) j oM,app_back _ _ j (by rw[cC];omega) (by rw[cC,cC];omega),cC];exact this
  .by_cases p:j<24
   .have:=n (j-16) (by rw[cC];omega);rw[show 16+(j-16)=0+j by omega]at this;rw[e,app_front _ _ j oM,<-getElem!_pos (be8 d++be8 c++be8 b) j oM,app_back _ _ j oM (by rw[s1,cC];omega),s1];exact this
   .have:=m (j-24) (by rw[cC];omega);rw[show 24+(j-24)=0+j by omega]at this;rw[e,app_back _ _ j oM (by rw[s2,cC];omega),s2];exact this
def Xe(a b c d:Nat)(w:XF):(yBE 42 (.agg #[uZ a,uZ b,uZ c,uZ d]) (iZ 0)).run prog w=.ok (uZ a) w:=kR
def Xd(a b c d:Nat)(w:XF):(yBE 42 (.agg #[uZ a,uZ b,uZ c,uZ d]) (iZ 1)).run prog w=.ok (uZ b) w:=kR
def Xc(a b c d:Nat)(w:XF):(yBE 42 (.agg #[uZ a,uZ b,uZ c,uZ d]) (iZ 2)).run prog w=.ok (uZ c) w:=kR
def Xb(a b c d:Nat)(w:XF):(yBE 42 (.agg #[uZ a,uZ b,uZ c,uZ d]) (iZ 3)).run prog w=.ok (uZ d) w:=kR
def pW{w:XF}{g:Nat}(p:Nat)(h:hZ w g 0 (XW 32 0))(b:p+8<=32):hZ w g p (XW 8 (0:UInt8)):=by
 have:=Holds.part (p:=p) (e:=XW 8 0) h (by simpa using b) (λj k=>by
  rw[X8]at k;rw[rep_at 8 j k,rep_at 32 (p+j) oM])
 rwa[XQ]at this
def Bi(x:XG)(m:Nat)(w:XF)(hx:Four x m):
 cZ 27 #[x] w (rZ w λe w'=>∃g a b c d:Nat,e=sZ g 32 32/\w.heap.size<=g/\x=.agg #[uZ a,uZ b,uZ c,uZ d]/\hZ w' g 0 (be32 a b c d)):=by
 obtain⟨a,b,c,d,rfl,K,N,M,hd,H⟩:=hx;clear H;have J:∀w:XF,(yAq 23 (iZ 32) (iZ 32)).run prog w=.ok (sZ w.heap.size 32 32) (w.alloc (.cells (madeCells #[.int .u8 0] 32) 5)):=
  run_make_row' (P:=prog) 23 5 (.int .u8 0) 1 slice22 info5 rfl .i64 .i64 32 oM oM
 go_enter func27,ntmps27;go_wp2;refine wp_loop_rounds 5 ?_;have f:hZ ((w.alloc (.cells #[uZ a,uZ b,uZ c,uZ d] 42)).alloc (.cells (madeCells #[.int .u8 0] 32) 5)) (w.heap.size+1) 0 (XW 32 0):=by
  have:=Holds.made (enc:=encB) (w.alloc (.cells #[uZ a,uZ b,uZ c,uZ d] 42)) 5 32 0;rw[XS]at this;exact this
 have l:=below2 w (.cells #[uZ a,uZ b,uZ c,uZ d] 42) (.cells (madeCells #[.int .u8 0] 32) 5);generalize ((w.alloc (.cells #[uZ a,uZ b,uZ c,uZ d] 42)).alloc (.cells (madeCells #[.int .u8 0] 32) 5))=W at f l⊢;have o:Hid (kZ w W):=l;generalize G:w.heap.size+1=g at f⊢;have n:=mk1 (G);have B:=pW 24 f oM;have j:=pW 16 f oM;have i:=pW 8 f oM;have k:=pW 0 f oM;have C:=Xe a b c d;have D:=Xd a b c d;have E:=Xc a b c d;have z:=Xb a b c d;rw[ZV];go_wp2_with (simp only[C])
 apply(kO g 24 8 8 a _ _ oM oM oM K (by rw[X8]) B).mono;rintro e Q ⟨rfl,u,b1⟩;replace j:=Holds.same j u (by simp);replace i:=Holds.same i u (by simp);replace k:=Holds.same k u (by simp);have r:=mk1 (o.trans (u.below o.size (oN n)));go_wp2_with fail
 rw[ZV];go_wp2_with (simp only[D])
 apply(kO g 16 16 16 b _ _ oM oM oM N (by rw[X8]) j).mono;rintro e R ⟨rfl,v,q⟩;replace i:=Holds.same i v (by simp);replace k:=Holds.same k v (by simp);replace b1:=Holds.same b1 v (by simp);have p:=mk1 (r.trans (v.below r.size (oN n)));go_wp2_with fail
 rw[ZV];go_wp2_with (simp only[E])
 apply(kO g 8 24 24 c _ _ oM oM oM M (by rw[X8]) i).mono;rintro e S ⟨rfl,t,F⟩;replace k:=Holds.same k t (by simp);replace b1:=Holds.same b1 t (by simp);replace q:=Holds.same q t (by simp);have s:=mk1 (p.trans (t.below p.size (oN n)));go_wp2_with fail
 rw[ZV];go_wp2_with (simp only[z])
 apply(kO g 0 32 32 d _ _ oM oM oM hd (by rw[X8]) k).mono;rintro e O ⟨rfl,y,L⟩;replace b1:=Holds.same b1 y (by simp);replace q:=Holds.same q y (by simp);replace F:=Holds.same F y (by simp);have A:=mk1 (s.trans (y.below s.size (oN n)));have I:=mk1 (Holds.join L F q b1);go_wp2_with fail
 rw[ZV];go_wp2
 go_ret;exact⟨_,rfl,A,g,a,b,c,d,rfl,oN n,rfl,I⟩
def jT{a t:Nat}(b:Nat)(c:t<=56)(k:a<2^t)(d:b<256):bits .or .u64 (a:Int) ((b*2^t:Nat):Int)=((a+b*2^t:Nat):Int)/\a+b*2^t<2^(t+8):=by
 have f:2^t<=2^56:=Zb dC c;have i:b*2^t<=255*2^t:=yAv _ oM;have g:2^(t+8)=256*2^t:=by rw[yA9,YN]
 have j:(2:Nat)^56=72057594037927936:=dC;have e:=yBs k b;refine⟨?_,oM⟩;rw[bits_or_u64_nat _ _ oM oM,yEG,YN b,<-e,Nat.add_comm]
def qT(b:UInt8)(t:Nat)(k:t<=56):Yy.wrap (Yy.wrap (ub b)*((2^t:Nat):Int))=((b.toNat*2^t:Nat):Int):=by
 have c:=b.toNat_lt;have d:2^t<=2^56:=Zb dC k;have e:b.toNat*2^t<=255*2^t:=yAv _ oM;have f:(2:Nat)^56=72057594037927936:=dC;unfold ub;rw[wrapN oM,mulN,wrapN oM]
def w8(b0 b1 c f e b d k:UInt8):Nat:=
 k.toNat+d.toNat*256+b.toNat*65536+e.toNat*16777216+f.toNat*4294967296+c.toNat*1099511627776+b1.toNat*281474976710656+b0.toNat*72057594037927936
def FO{b0 b1 c f e b d k:UInt8}:w8 b0 b1 c f e b d k<2^64:=by
 have:=b0.toNat_lt;have:=b1.toNat_lt;have:=c.toNat_lt;have:=f.toNat_lt
 have:=e.toNat_lt;have:=b.toNat_lt;have:=d.toNat_lt;have:=k.toNat_lt
 unfold w8;omega
def Nl(b0 b1 b f e c d k:UInt8):
 bits .or .u64 (bits .or .u64 (bits .or .u64 (bits .or .u64 (bits .or .u64 (bits .or .u64 (bits .or .u64 (Yy.wrap (ub k)) (Yy.wrap (Yy.wrap (ub d)*256)))
  (Yy.wrap (Yy.wrap (ub c)*65536))) (Yy.wrap (Yy.wrap (ub e)*16777216))) (Yy.wrap (Yy.wrap (ub f)*4294967296)))
  (Yy.wrap (Yy.wrap (ub b)*1099511627776))) (Yy.wrap (Yy.wrap (ub b1)*281474976710656))) (Yy.wrap (Yy.wrap (ub b0)*72057594037927936))=((w8 b0 b1 b f e c d k:Nat):Int):=by
 have C:=k.toNat_lt;have r:Yy.wrap (ub k)=(k.toNat:Int):=wrapN oM;have q:=qT d 8 dC;have j:=qT c 16 dC;have e3:=qT e 24 dC;have g:=qT f 32 dC;have m:=qT b 40 dC;have x:=qT b1 48 dC;have y:=qT b0 56 dC;obtain⟨w,l⟩:=jT (a:=k.toNat) d.toNat (t:=8) dC oM (oN d.toNat_lt);obtain⟨a,o⟩:=jT c.toNat dC l (oN c.toNat_lt);obtain⟨p,z⟩:=jT e.toNat dC o (oN e.toNat_lt);obtain⟨A,t⟩:=jT f.toNat dC z (oN f.toNat_lt);obtain⟨s,i⟩:=jT b.toNat dC t (oN b.toNat_lt);obtain⟨n,v⟩:=jT b1.toNat dC i (oN b1.toNat_lt);obtain⟨u,B⟩:=jT b0.toNat dC v (oN b0.toNat_lt);rw[show(256:Int)=((2^8:Nat):Int) from rfl,show(65536:Int)=((2^16:Nat):Int) from rfl,show(16777216:Int)=((2^24:Nat):Int) from rfl,
  show(4294967296:Int)=((2^32:Nat):Int) from rfl,show(1099511627776:Int)=((2^40:Nat):Int) from rfl,show(281474976710656:Int)=((2^48:Nat):Int) from rfl,show(72057594037927936:Int)=((2^56:Nat):Int) from rfl,
  r,q,j,e3,g,m,x,y,w,a,p,A,s,n,u]
 rfl
def word_any(g o n cap:Nat)(k:Bs)(w:XF)(z:8<=n)(a:n<=cap)(c:cap<=1048576)(x:8<=k.size)(b:Holds encB w g o k):
 ZI prog 101 #[.slice (some ⟨g,o,none⟩) n cap] w λe w'=>e=.returned (.int .u64 ((w8 k[0]! k[1]! k[2]! k[3]! k[4]! k[5]! k[6]! k[7]!:Nat):Int))/\∃n,w'=w.drewN n:=by
 obtain⟨m,f⟩:=b 0 oM;obtain⟨c1,B⟩:=b 1 oM;obtain⟨c2,f2⟩:=b 2 oM;obtain⟨t,f3⟩:=b 3 oM;obtain⟨s,u⟩:=b 4 oM;obtain⟨y,v⟩:=b 5 oM;obtain⟨C,A⟩:=b 6 oM;obtain⟨D,E⟩:=b 7 oM;rw[yAi]at m f;unfold encB at *;generalize k[0]! = b0 at *;generalize k[1]! = b1 at *;generalize k[2]! = i at *;generalize k[3]! = r at *;generalize k[4]! = p at *;generalize k[5]! = j at *;generalize k[6]! = l at *;generalize k[7]! = q at *;have d:=mk1 (Nl b0 b1 i r p j l q);go_enter func101,ntmps101;go_wp2;go_quiet (fail);go_wp2;go_ret;exact⟨ret_int d,_,rfl⟩
def beV(l:List UInt8):Nat:=l.foldl (λn b=>256*n+b.toNat) 0
def EX(l:List UInt8):∀n,l.foldl (λn b=>256*n+b.toNat) n=n*256^l.length+beV l:=by
 induction l with
 | nil=>intro n;simp[beV]
 | cons x r ih =>
  intro n;have k:=ih (256*n+x.toNat);have c:=ih (256*0+x.toNat);simp only[yD3,List.length_cons,beV]at *;rw[k,c,Zr,Nat.add_mul,yCQ,XQ,YN 256 n,yAO,YN 256];omega
def rH(l r:List UInt8):beV (l++r)=beV l*256^r.length+beV r:=by
 rw[beV,List.foldl_append,EX];rfl
def I9(n:Nat)(l:List UInt8):beV (YR n 0++l)=beV l:=by
 rw[rH];have:beV (YR n 0)=0:=by
  induction n with
  | zero=>rfl
  | succ k ih=>rw[List.replicate_succ',rH,ih];rfl
 rw[this,Nat.zero_mul,XQ]
def MB(v z w r u x t a y s p i d k b f x16 x17 m q j x21 c x23 l g x26 x27 o n x30 e:UInt8):
 beV [v,z,w,r,u,x,t,a,y,s,p,i,d,k,b,f,x16,x17,m,q,j,x21,c,x23,l,g,x26,x27,o,n,x30,e]
  = val (w8 l g x26 x27 o n x30 e) (w8 x16 x17 m q j x21 c x23) (w8 y s p i d k b f) (w8 v z w r u x t a):=by
 simp only[beV,yD3,List.foldl_nil,w8,val];omega
def Ja{k:Bs}(h:k.size=32):beV k.toList=val (w8 k[24]! k[25]! k[26]! k[27]! k[28]! k[29]! k[30]! k[31]!) (w8 k[16]! k[17]! k[18]! k[19]! k[20]! k[21]! k[22]! k[23]!)
 (w8 k[8]! k[9]! k[10]! k[11]! k[12]! k[13]! k[14]! k[15]!) (w8 k[0]! k[1]! k[2]! k[3]! k[4]! k[5]! k[6]! k[7]!):=by
 obtain⟨l⟩:=k;match l,h with
 | [x0,x1,x2,x3,x4,x5,x6,x7,x8,x9,x10,x11,x12,x13,x14,x15,x16,x17,x18,x19,x20,x21,x22,x23,x24,x25,x26,x27,x28,x29,x30,x31],_=>exact MB x0 x1 x2 x3 x4 x5 x6 x7 x8 x9 x10 x11 x12 x13 x14 x15 x16 x17 x18 x19 x20 x21 x22 x23 x24 x25 x26 x27 x28 x29 x30 x31
def zero32:∀w:XF,(zeroValue 190).run prog w=.ok (.agg (XW 32 (.int .u8 0))) w:=λ_=>kR
def ints5:gZ 5 1:=gQ
def padded(n:Nat)(k:Bs):Bs:=XW (32-n) 0++k
def vK{n:Nat}{k:Bs}(b:k.size=n)(c:n<=32):(padded n k).size=32:=by
 unfold padded;rw[Ys,X8];omega
def EB{n:Nat}{k:Bs}:beV (padded n k).toList=beV k.toList:=by
 unfold padded;rw[Array.toList_append,Array.toList_replicate,I9]
def OX{w:XF}{b g o n cap:Nat}{c:Bs}(i:hZ w b 0 (XW 32 0))(t:n<=32)(q:hZ w g o c)(l:c.size=n):
 (yAL #[23,23] 3 #[qZ b (32-n) n n,qZ g o n cap]).run prog w=.ok (goInt n) (w.setCells b (32-n) (c.toList.map encB))
  /\ hZ (w.setCells b (32-n) (c.toList.map encB)) b 0 (padded n c):=by
 have k:(c.toList.map encB).length=n:=by rw[X7,X0,l]
 refine⟨?_,?_⟩
 .have:=run_copy_cells (P:=prog) w 23 23 3 5 b (32-n) n n ⟨g,o,none⟩ n cap (c.toList.map encB) slice22 ints5 (by rw[k];exact(Nat.min_self n).symm)
   (λj u d=>by
    obtain⟨e,f⟩:=List.getElem?_eq_some_iff.1 d;rw[k]at e;have m:=(q j oM).1;rw[getElem!_pos c j oM]at m;rw[yAj,yAn]at f;have s:(⟨g,o,none⟩:Addr).add j=⟨g,o+j,none⟩:=by
     unfold yBZ;by_cases p:j=0
     .subst p;rw[yE3 rfl];rfl
     .rw[yE4 p]
    rw[s,m,f])
   (λj d=>by
    have:=(i (32-n+j) (by rw[X8];omega)).1;rw[XQ]at this;rw[this];rfl)
   (λj d=>by
    have:=(i (32-n+j) (by rw[X8];omega)).2;rwa[XQ]at this)
   (λu m=>by obtain⟨x,_,rfl⟩:=List.mem_map.1 m;rfl)
  rw[k]at this;exact this
 .have:=Holds.setCells (r:=padded n c) i (c.toList.map encB) (32-n) (by rw[vK l t,X8]) (by rw[k,X8];omega) (λj d=>?_) (λj e f=>?_)
  .rw[XQ]at this;exact this
  .rw[k]at d;rw[yAj,yAn];unfold padded;rw[app_back _ _ _ (by rw[X8];omega) (by rw[X8];omega),X8,show 32-n+j-(32-n)=j by omega,getElem!_pos c j oM]
  .rw[X8]at e;rw[k]at f;unfold padded;rw[app_front _ _ j (by rw[X8];omega),Zp,rep_at 32 j e]
def Gq{w:XF}{g:Nat}{T:Bs}(p:Nat)(h:hZ w g 0 T)(b:p+8<=T.size):hZ w g p #[T[p]!,T[p+1]!,T[p+2]!,T[p+3]!,T[p+4]!,T[p+5]!,T[p+6]!,T[p+7]!]:=by
 have:=Holds.part (p:=p) (e:=#[T[p]!,T[p+1]!,T[p+2]!,T[p+3]!,T[p+4]!,T[p+5]!,T[p+6]!,T[p+7]!]) h (by simpa using b) (λj k=>by
  have:j<8:=by simpa using k
  match j,this with
  | 0,_=>rfl
  | 1,_=>rfl
  | 2,_=>rfl
  | 3,_=>rfl
  | 4,_=>rfl
  | 5,_=>rfl
  | 6,_=>rfl
  | 7,_=>rfl)
 rwa[XQ]at this
def oV{g o n cap:Nat}{b0 b1 b j f c d i:UInt8}{w:XF}(m:8<=n)(p:n<=cap)(k:cap<=1048576)(l:hZ w g o #[b0,b1,b,j,f,c,d,i]):
 cZ 101 #[qZ g o n cap] w λe w'=>e=.returned (uZ ((w8 b0 b1 b j f c d i:Nat):Int))/\∃n,w'=w.drewN n:=
 word_any g o n cap #[b0,b1,b,j,f,c,d,i] w m p k (XH 8) l
def Holds.far{w:XF}{g o j i:Nat}{k:Bs}(h:hZ w g o k)(b:j≠g)(v:XG):hZ (w.setCell ⟨j,i,none⟩ v) g o k:=by
 intro l c;rw[Yc _ _ _ _ (bI (Yk b)),YX];exact h l c
def kY(E:Option Addr)(g o n cap:Nat)(m:Bs)(w:XF)(hn:n<=32)(hc:n<=cap)(hs:m.size=n)(W:n=0\/(E=some ⟨g,o,none⟩/\hZ w g o m)):
 cZ 53 #[.slice E n cap] w (rZ w λe w'=>Four e (beV m.toList)):=by
 have H:=vK (n:=n) (k:=m) hs hn;have A:=mk1 ((EB (n:=n) (k:=m)).symm.trans (Ja H));have zv:=zero32;have h5:(n:Int)<=32:=oM;have d0:(0:Int)<=32-(n:Int):=oM;have d1:(32:Int)-(n:Int)<=32:=oM;have d2:((32:Int)-(n:Int)).toNat=32-n:=oM;go_enter func53,ntmps53
 go_upto_region 2 with fail
 have R:=(At4.made w 42 0 0 0 0 rfl).alloc (.cells (XW 32 (.int .u8 0)) 190);have Z:hZ ((w.alloc (.cells #[uZ 0,uZ 0,uZ 0,uZ 0] 42)).alloc (.cells (XW 32 (.int .u8 0)) 190)) (w.heap.size+1) 0 (XW 32 0):=by
  have:=Holds.new (enc:=encB) (w.alloc (.cells #[uZ 0,uZ 0,uZ 0,uZ 0] 42)) 190 (XW 32 0);rw[Array.map_replicate,XS]at this;exact this
 have BL:=below2 w (.cells #[uZ 0,uZ 0,uZ 0,uZ 0] 42) (.cells (XW 32 (.int .u8 0)) 190);simp only[ZG]at R;have I:n=0\/(E=some ⟨g,o,none⟩/\hZ ((w.alloc (.cells #[uZ 0,uZ 0,uZ 0,uZ 0] 42)).alloc (.cells (XW 32 (.int .u8 0)) 190)) g o m):=by
  rcases W with h|⟨h1,b⟩
  .exact Yk h
  .by_cases B:n=0
   .exact Yk B
   .exact Yd ⟨h1,Holds.below b BL (Holds.lt b oM)⟩
 clear W;generalize yAo _ _=Y at R Z BL I⊢
 go_cut [] (λwx=>hZ wx (w.heap.size+1) 0 (padded n m)/\At4 wx w.heap.size 0 0 0 0/\kZ w wx)
 case first =>
  by_cases B:n=0
  .subst B;have c:∀w d b dc,(yAL #[23,23] 3 #[.slice d b dc,.slice E 0 cap]).run prog w=.ok (goInt 0) w:=λw d b dc=>run_copy_none w 23 23 3 5 d E b dc 0 cap slice22 ints5 (by simp)
   have f:padded 0 m=XW 32 0:=by
    have:m=#[]:=Array.eq_empty_of_size_eq_zero hs;rw[this];rfl
   go_wp2
   go_meet
   exact⟨by rw[f];exact Z,R,BL⟩
  .obtain⟨rfl,W⟩:E=some ⟨g,o,none⟩/\hZ Y g o m:=I.resolve_left B;obtain⟨c,f⟩:=OX (cap:=cap) Z hn W hs;have l:32-(32-n)=n:=oM;have j:At4 (Y.setCells (w.heap.size+1) (32-n) (m.toList.map encB)) w.heap.size 0 0 0 0:=by
    have b:=heap_setCells (w.heap.size+1) (k:=w.heap.size) oM (m.toList.map encB) (32-n) Y;exact⟨by rw[<-R.c0];exact Yb b,by rw[<-R.c1];exact Yb b,by rw[<-R.c2];exact Yb b,by rw[<-R.c3];exact Yb b,λo=>by rw[<-R.f o];exact World.frozen?_of_block b⟩
   have x:kZ w (Y.setCells (w.heap.size+1) (32-n) (m.toList.map encB)):=below_setCells (yB6 _) _ _ _ BL;have b:=mk3 f j x;go_wp2
   go_meet
   exact b
 case rest =>
  obtain⟨a,j,x⟩:=hcut;generalize padded n m=T at a H A⊢;have S:=Gq 24 a oM;have p2:=Gq 16 a oM;have p1:=Gq 8 a oM;have p0:=Gq 0 a oM;have zk:=j.lt;have q:=Holds.lt a oM;generalize K:w8 T[24]! T[25]! T[26]! T[27]! T[28]! T[29]! T[30]! T[31]! = y at A;generalize G:w8 T[16]! T[17]! T[18]! T[19]! T[20]! T[21]! T[22]! T[23]! = D at A;generalize J:w8 T[8]! T[9]! T[10]! T[11]! T[12]! T[13]! T[14]! T[15]! = L at A;generalize F:w8 T[0]! T[1]! T[2]! T[3]! T[4]! T[5]! T[6]! T[7]! = r at A;have l3:=K ▸ FO;have l2:=G ▸ FO;have l1:=J ▸ FO;have l0:=F ▸ FO;go_wp2;have N:=At4.made wc 42 0 0 0 0 rfl;simp only[ZG]at N;replace S:=Holds.below S (aC (w:=wc) (.cells #[uZ 0,uZ 0,uZ 0,uZ 0] 42)) q;replace p2:=Holds.below p2 (aC (w:=wc) (.cells #[uZ 0,uZ 0,uZ 0,uZ 0] 42)) q;replace p1:=Holds.below p1 (aC (w:=wc) (.cells #[uZ 0,uZ 0,uZ 0,uZ 0] 42)) q;replace p0:=Holds.below p0 (aC (w:=wc) (.cells #[uZ 0,uZ 0,uZ 0,uZ 0] 42)) q;have BL:=mk1 (x.alloc (yAm zk) (.cells #[uZ 0,uZ 0,uZ 0,uZ 0] 42));replace j:=j.alloc (.cells #[uZ 0,uZ 0,uZ 0,uZ 0] 42);have z:w.heap.size≠wc.heap.size:=oM;have u:w.heap.size+1≠wc.heap.size:=oM;have Q:Hid (w.heap.size<=wc.heap.size):=by unfold Hid;omega
  generalize wc.heap.size=X at N z u Q⊢;generalize h1:w.heap.size+1=V at S p2 p1 p0 u⊢;generalize B:w.heap.size=U at j z BL Q⊢;have H0:=mk1 (B);refine wp_loop_rounds 5 ?_;obtain⟨b,c,f,l,t⟩:=id N;have s:=N.lt;rw[ZV];go_wp2_with fail
  apply(oV (g:=V) (o:=24) (n:=8) (cap:=8) dC dC dC S).mono;rintro e w1 ⟨rfl,C,rfl⟩;rw[K];replace N:=N.drewN C;obtain⟨b,c,f,l,t⟩:=id N;have s:=N.lt;go_wp2_with fail
  replace N:=N.set0 y;replace j:=(j.drewN C).other (o:=0) z.symm (uZ y);replace BL:Hid (Below U w _):=(nH BL (q:=C)).setCell (p:=⟨X,0,none⟩) Q (uZ y);replace p2:=Holds.far (Holds.drewN p2 C) (i:=0) u.symm (uZ y);replace p1:=Holds.far (Holds.drewN p1 C) (i:=0) u.symm (uZ y);replace p0:=Holds.far (Holds.drewN p0 C) (i:=0) u.symm (uZ y);obtain⟨b,c,f,l,t⟩:=id N;have s:=N.lt;rw[ZV];go_wp2_with fail
  apply(oV (g:=V) (o:=16) (n:=16) (cap:=16) dC dC dC p2).mono;rintro e w1 ⟨rfl,O,rfl⟩;rw[G];replace N:=N.drewN O;obtain⟨b,c,f,l,t⟩:=id N;have s:=N.lt;go_wp2_with fail
  replace N:=N.set1 D;replace j:=(j.drewN O).other (o:=1) z.symm (uZ D);replace BL:Hid (Below U w _):=(nH BL (q:=O)).setCell (p:=⟨X,1,none⟩) Q (uZ D);replace p1:=Holds.far (Holds.drewN p1 O) (i:=1) u.symm (uZ D);replace p0:=Holds.far (Holds.drewN p0 O) (i:=1) u.symm (uZ D);obtain⟨b,c,f,l,t⟩:=id N;have s:=N.lt;rw[ZV];go_wp2_with fail
  apply(oV (g:=V) (o:=8) (n:=24) (cap:=24) dC dC dC p1).mono;rintro e w1 ⟨rfl,P,rfl⟩;rw[J];replace N:=N.drewN P;obtain⟨b,c,f,l,t⟩:=id N;have s:=N.lt;go_wp2_with fail
  replace N:=N.set2 L;replace j:=(j.drewN P).other (o:=2) z.symm (uZ L);replace BL:Hid (Below U w _):=(nH BL (q:=P)).setCell (p:=⟨X,2,none⟩) Q (uZ L);replace p0:=Holds.far (Holds.drewN p0 P) (i:=2) u.symm (uZ L);obtain⟨b,c,f,l,t⟩:=id N;have s:=N.lt;rw[ZV];go_wp2_with fail
  apply(oV (g:=V) (o:=0) (n:=32) (cap:=32) dC dC dC p0).mono;rintro e w1 ⟨rfl,q3,rfl⟩;rw[F];replace N:=N.drewN q3;obtain⟨b,c,f,l,t⟩:=id N;have s:=N.lt;go_wp2_with fail
  replace N:=N.set3 r;replace j:=(j.drewN q3).other (o:=3) z.symm (uZ r);replace BL:Hid (Below U w _):=(nH BL (q:=q3)).setCell (p:=⟨X,3,none⟩) Q (uZ r);obtain⟨b,c,f,l,t⟩:=id N;have s:=N.lt;obtain⟨h7,h4,h6,h3,rf⟩:=id j;have zr:=j.lt;rw[ZV];go_wp2
  have M:=j.self4 y D L r;unfold set4 at M;refine XR (v:=?v) ?hr rfl ?hR
  case hr=>simp[results,Tryz.results53,go_sem,M.c0,M.c1,M.c2,M.c3];rfl
  refine⟨_,rfl,?_,Four.mk l3 l2 l1 l0 A⟩;rw[H0.out];exact aK BL (XH _)
def tH(l i f P:Nat)(hG:Gap l i f P)(w:XF):
 cZ 199 #[.agg #[uZ l,uZ i,uZ f,uZ 0]] w (rZ w λe w'=>Four e P):=by
 have r:=hG.hg;go_enter func199,ntmps199;go_wp2_with fail
 have R:=At4.made (w.alloc (.cells #[uZ l,uZ i,uZ f,uZ 0] 78)) 42 0 0 0 0 (XS _ _);have BL:=below2 w (.cells #[uZ l,uZ i,uZ f,uZ 0] 78) (.cells #[uZ 0,uZ 0,uZ 0,uZ 0] 42);simp only[ZG]at R;apply(uE _ _ 0 _ (Four.mk (a:=0) (b:=0) (c:=0) (d:=0) dC dC dC dC rfl) (Four.mk hG.h0 hG.h1 hG.h2 dC rfl) _).mono;rintro e D ⟨v,rfl,m,v2,t,k,rfl,n,B,o⟩;replace o:t+val l i f 0=0+top*k:=o;have q:t=P:=by
  have g:=n.lt;have j:=hG.hP;have:k=0\/k=1:=oM;rcases this with h|h<;>rw[h]at o<;>omega
 subst q;replace R:=R.call m;have p:=mk1 (BL.trans (m.mono BL.size));obtain⟨a,b,c,d,rfl,E,H,G,hd,F⟩:=id n;have z:=R.lt;go_wp2_with fail
 apply(jU n).mono;rintro e A ⟨I,rfl,g,rfl⟩;replace p:Hid (kZ w A):=(p.alloc oM _).trans (g.mono (by simp;omega));replace R:=(R.alloc _).call g;obtain⟨s,x,y,u,C⟩:=id R;have z:=R.lt;go_wp2;have j:=R.self4 a b c d;unfold set4 at j;refine XR (v:=?v) ?hr rfl ?hR
 case hr=>simp[results,Tryz.results199,go_sem,j.c0,j.c1,j.c2,j.c3];rfl
 exact⟨_,rfl,aK p (yB6 _),n⟩
def Qa(w:XF)(t0 t1 t2:Yj)(a b c d e f g h i j k l:Nat):
 Kept w w.heap.size [⟨w.heap.size,0,a,b,c,d⟩,⟨w.heap.size+1,0,e,f,g,h⟩,⟨w.heap.size+1+1,0,i,j,k,l⟩]
  (((w.alloc (.cells #[uZ a,uZ b,uZ c,uZ d] t0)).alloc (.cells #[uZ e,uZ f,uZ g,uZ h] t1)).alloc (.cells #[uZ i,uZ j,uZ k,uZ l] t2)):=by
 refine(((Kept.mk1 (below3 (w:=w) _ _ _) (below3 _ _ _).size).cons ?_).cons ?_).cons ?_
 .exact(At4.made _ t2 i j k l (by simp)).blk
 .exact((At4.made _ t1 e f g h (by simp)).alloc _).blk
 .exact(((At4.made _ t0 a b c d rfl).alloc _).alloc _).blk
def wE(i g f P:Nat)(x:XG)(m:Nat)(hG:Gap i g f P)(l:2<=P%18446744073709551616)(hx:Four x m)(w:XF):
 cZ 174 #[.agg #[uZ i,uZ g,uZ f,uZ 0],x] w (rZ w λe w'=>Four e (m^(P-2)%P)):=by
 obtain⟨a,b,c,d,rfl,H,hb,J,hd,Z⟩:=id hx;have F:Hid (Four _ m):=hx;have z:Hid (Gap i g f P):=hG;clear Z hx H hb J hd hG;go_enter func174,ntmps174;go_wp2_with fail
 have k:=Qa w 78 42 42 i g f 0 a b c d 0 0 0 0;simp only[ZG]at k;generalize yAo _ _=W0 at k⊢;generalize h2:w.heap.size+1+1=k2 at k⊢;generalize h1:w.heap.size+1=k1 at k⊢;have A:Hid (w.heap.size<=k2):=by unfold Hid;omega
 generalize K:w.heap.size=k0 at k A⊢;have U:=mk1 (K);apply(tH i g f P z _).mono;rintro e w1 ⟨v,rfl,r,o⟩;obtain⟨y,V,N,X,rfl,M,t,q,u,B⟩:=id o;replace k:=k.call r;have O:2<=y:=by rw[B]at l;unfold val at l;omega
 obtain⟨p,j⟩:∃p,y=p+2:=⟨y-2,oM⟩
 have E:Hid (Four (.agg #[uZ p,uZ V,uZ N,uZ X]) (P-2)):=by
  refine Four.mk oM t q u ?_;rw[B,j];unfold val;omega
 have hw:=wrapN (a:=p) oM;obtain⟨h9,W,Q,h5,xf⟩:=k.tail.head.at4;have zx:=k.tail.head.lt;obtain⟨he,h6,S,h8,pf⟩:=k.head.at4;have Y:=k.head.lt;have n1:=Z9 zx;have n0:=Z9 Y;go_wp2_with fail
 apply(AN i g f P _ _ _ _ z F E _).mono;rintro e w2 ⟨v,rfl,s,o⟩;replace k:=(k.alloc _).call s;obtain⟨G,L,qc,R,rfl,C,T,hg,h3,eQ⟩:=id o;have HF:=mk1 (o);obtain⟨h7,I,h4,D,rf⟩:=k.tail.tail.head.at4;have zr:=k.tail.tail.head.lt;go_wp2;have n:=k.tail.tail.head.at4.self4 G L qc R;unfold set4 at n;refine XR (v:=?v) ?hr rfl ?hR
 case hr=>simp[results,Tryz.results174,go_sem,n.c0,n.c1,n.c2,n.c3];rfl
 refine⟨_,rfl,?_,HF⟩;rw[U.out];exact aK k.bl A
def TS:prog.underlying 24=some (.int .u64):=kR
def We:∀w,(sizeOf 24).run prog w=.ok 1 w:=λ_=>kR
def V1:prog.underlying 42=some (.array 4 24):=kR
def GZ(D:Nat)(a b c d p q r s:Nat)(w:XF):
 (yEW (D+1+1) 42 (.agg #[uZ a,uZ b,uZ c,uZ d]) (.agg #[uZ p,uZ q,uZ r,uZ s])).run prog w=.ok (decide (a=p/\b=q/\c=r/\d=s)) w:=by
 have e:=λ(x y:Nat)=>run_equalIn_int (P:=prog) w D 24 .u64 .u64 (x:Int) (y:Int) TS
 rw[yEW];simp only[Sem.run_bind,run_underlying V1,YE,We];simp only[Std.Legacy.Range.forIn_eq_forIn_range',Std.Legacy.Range.size,List.range',List.forIn_cons,List.forIn_nil];by_cases k:a=p
 .by_cases f:b=q
  .by_cases g:c=r
   .by_cases i:d=s
    .simp[k,f,g,i,part,e]
    .simp[k,f,g,i,part,e];omega
   .simp[k,f,g,part,e];omega
  .simp[k,f,part,e];omega
 .simp[k,part,e];omega
def UC(a b c d p q r s:Nat)(w:XF):
 (binOp .neq 42 (.agg #[uZ a,uZ b,uZ c,uZ d]) (.agg #[uZ p,uZ q,uZ r,uZ s])).run prog w=.ok (.bool (!decide (a=p/\b=q/\c=r/\d=s))) w:=by
 rw[run_neq_struct,GZ 9998];rfl
def Rn(a b c d:Nat)(w:XF):(binOp .neq 42 (.agg #[uZ a,uZ b,uZ c,uZ d]) (.agg #[uZ a,uZ b,uZ c,uZ d])).run prog w=.ok fZ w:=by
 rw[UC,decide_eq_true ⟨rfl,rfl,rfl,rfl⟩];rfl
def Ov{a b c d p q r s:Nat}(h:¬(a=p/\b=q/\c=r/\d=s))(w:XF):(binOp .neq 42 (.agg #[uZ a,uZ b,uZ c,uZ d]) (.agg #[uZ p,uZ q,uZ r,uZ s])).run prog w=.ok tZ w:=by
 rw[UC,decide_eq_false h];rfl
def RU{a:Nat}(b:Nat)(d:a<2^64):bits .or .u64 ((a/4:Nat):Int) ((b*4611686018427387904%18446744073709551616:Nat):Int)=((a/4+b*4611686018427387904%18446744073709551616:Nat):Int)/\a/4+b*4611686018427387904%18446744073709551616<2^64:=by
 have k:b*4611686018427387904%18446744073709551616=2^62*(b%4):=oM;have c:=yBs (i:=62) (b:=a/4) oM (b%4);rw[bits_or_u64_nat _ _ oM oM,k,yEG,<-c];omega
def CQ(x:XG)(m:Nat)(hx:Four x m)(w:XF):
 cZ 201 #[x] w (rZ w λe w'=>Four e (m/4)):=by
 obtain⟨a,b,c,d,rfl,r,u,t,hd,l⟩:=id hx;obtain⟨f,j⟩:=RU b r;obtain⟨g,n⟩:=RU c u;obtain⟨i,o⟩:=RU d t;have k:=Er a b c d;rw[<-l]at k;have s0:(a:Int)/4=((a/4:Nat):Int):=oM;have s1:(b:Int)/4=((b/4:Nat):Int):=oM;have s2:(c:Int)/4=((c/4:Nat):Int):=oM;have s3:(d:Int)/4=((d/4:Nat):Int):=oM;have t1:Yy.wrap ((b:Int)*4611686018427387904)=((b*4611686018427387904%18446744073709551616:Nat):Int):=by rw[ZX];omega
 have t2:Yy.wrap ((c:Int)*4611686018427387904)=((c*4611686018427387904%18446744073709551616:Nat):Int):=by rw[ZX];omega
 have q:Yy.wrap ((d:Int)*4611686018427387904)=((d*4611686018427387904%18446744073709551616:Nat):Int):=by rw[ZX];omega
 have p:d/4<2^64:=oM;generalize a/4+b*4611686018427387904%18446744073709551616=F at f j k;generalize b/4+c*4611686018427387904%18446744073709551616=C at g n k;generalize c/4+d*4611686018427387904%18446744073709551616=B at i o k;generalize b*4611686018427387904%18446744073709551616=v1 at f t1;generalize c*4611686018427387904%18446744073709551616=v2 at g t2;generalize d*4611686018427387904%18446744073709551616=E at i q;generalize a/4=A at f s0;generalize b/4=y at g s1;generalize c/4=z at i s2;generalize d/4=D at s3 p k;have s:Hid _:=k;clear k l hx;go_enter func201,ntmps201;go_wp2;refine XR (v:=?v) ?hr rfl ?hR
 case hr=>simp[results,Tryz.results201,go_sem];rfl
 exact⟨_,rfl,below2 _ _ _,Four.mk j n o p s.symm⟩
def H6{x:XG}{m:Nat}{w:XF}(hx:Four x m):
 cZ 120 #[x] w (rZ w λe w'=>e=.bool (decide (m%2=1))):=by
 obtain⟨a,b,c,d,rfl,g,l,j,hd,f⟩:=id hx;have ho:=and_one g;have k:m%2=a%2:=by rw[f];unfold val;omega
 rw[k];have i:a%2=0\/a%2=1:=oM;rcases i with h|h
 .rw[h]at ho⊢;go_enter func120,ntmps120;go_wp2;go_ret;exact⟨_,rfl,aC _,rfl⟩
 .rw[h]at ho⊢;go_enter func120,ntmps120;go_wp2;go_ret;exact⟨_,rfl,aC _,rfl⟩
def rO{w W:XF}{k e o f a b c d i j l rd n g m:Nat}(h:Kept w k [⟨k,0,n,g,m,0⟩,⟨f,0,i,j,l,rd⟩,⟨e,0,a,b,c,d⟩,⟨o,0,0,0,0,0⟩] W):W.cell? ⟨k,0,none⟩=some (uZ n)/\W.cell? ⟨k,1,none⟩=some (uZ g)/\W.cell? ⟨k,2,none⟩=some (uZ m)/\W.cell? ⟨k,3,none⟩=some (uZ 0)/\W.cell? ⟨f,0,none⟩=some (uZ i)/\W.cell? ⟨f,1,none⟩=some (uZ j)/\W.cell? ⟨f,2,none⟩=some (uZ l)/\W.cell? ⟨f,3,none⟩=some (uZ rd)/\W.cell? ⟨e,0,none⟩=some (uZ a)/\W.cell? ⟨e,1,none⟩=some (uZ b)/\W.cell? ⟨e,2,none⟩=some (uZ c)/\W.cell? ⟨e,3,none⟩=some (uZ d)/\Kept w k [⟨k,0,n,g,m,0⟩,⟨f,0,i,j,l,rd⟩,⟨e,0,a,b,c,d⟩,⟨o,0,0,0,0,0⟩] W:=
 ⟨h.head.c0,h.head.c1,h.head.c2,h.head.c3,h.tail.head.c0,h.tail.head.c1,h.tail.head.c2,h.tail.head.c3,h.tail.tail.head.c0,h.tail.tail.head.c1,h.tail.tail.head.c2,h.tail.tail.head.c3,h⟩
def four_ne{a b c d m n:Nat}{v:XG}(h:Four v n)(e:Four (.agg #[uZ a,uZ b,uZ c,uZ d]) m)(k:¬n=m):
 ∃p q r s:Nat,v=.agg #[uZ p,uZ q,uZ r,uZ s]/\¬(p=a/\q=b/\r=c/\s=d):=by
 obtain⟨p,q,r,s,rfl,f⟩:=id h;refine⟨p,q,r,s,rfl,?_⟩;rintro⟨rfl,rfl,rfl,rfl⟩;exact k (h.num e)
def even(P r:Nat):Nat:=if r%2=1 then P-r else r
def RootR(P m R:Nat)(e:XG):Prop:=∃(d c b k:Nat) (ok:Bool),e=.tuple #[.agg #[uZ d,uZ c,uZ b,uZ k],.bool ok] /\
 (ok=true->R*R%P=m/\Four (.agg #[uZ d,uZ c,uZ b,uZ k]) (even P R))/\(ok=false->¬R*R%P=m)/\(ok=false->d=0/\c=0/\b=0/\k=0)
def RootR.yes{P m R d c b k:Nat}(h:R*R%P=m)(e:Four (.agg #[uZ d,uZ c,uZ b,uZ k]) (even P R)):RootR P m R (.tuple #[.agg #[uZ d,uZ c,uZ b,uZ k],tZ]):=
 ⟨d,c,b,k,true,rfl,λ_=>⟨h,e⟩,λh=>yBl h,λh=>yBl h⟩
def RootR.no{P m R:Nat}(h:¬R*R%P=m):RootR P m R (.tuple #[.agg #[uZ 0,uZ 0,uZ 0,uZ 0],fZ]):=
 ⟨0,0,0,0,false,rfl,λh=>yBl h,λ_=>h,λ_=>⟨rfl,rfl,rfl,rfl⟩⟩
def DT(p o n P:Nat)(x:XG)(m:Nat)(hG:Gap p o n P)(S:P/4%18446744073709551616<18446744073709551615)(hx:Four x m)(w:XF):
 ZI prog 177 #[.agg #[.int .u64 p,.int .u64 o,.int .u64 n,.int .u64 0],x] w (Ret λe w'=>Below w.heap.size w w'/\RootR P m (m^(P/4+1)%P) e):=by
 obtain⟨a,b,c,d,rfl,ha,hb,hc,hd,em⟩:=id hx;have HX:Hid (Four _ m):=hx;have HG:Hid (Gap p o n P):=hG;obtain⟨R,hR⟩:=vH (m^(P/4+1)%P);have Y:R<P:=by
  rw[<-hR];refine Zi _ ?_;have:=hG.hP2;omega
 rw[hR];have hp:Hid (m^(P/4+1)%P=R):=hR;have K:Hid (R<P):=Y;clear em hx ha hb hc hd hG hR Y;go_enter func177,ntmps177;go_wp2_with fail
 have k:=Qa w 78 42 42 p o n 0 a b c d 0 0 0 0;simp only[ZG]at k;generalize yAo _ _=W0 at k⊢;generalize h2:w.heap.size+1+1=N at k⊢;generalize h1:w.heap.size+1=r at k⊢;have Q2:Hid (w.heap.size<=N):=by unfold Hid;omega
 generalize h0:w.heap.size=i at k Q2⊢;have H0:Hid (w.heap.size=i):=h0;clear h0 h1 h2;refine(tH p o n P HG.out _).mono ?_;rintro e w1 ⟨v,rfl,f,G⟩;obtain⟨pa,pb,pc,pd,rfl,-⟩:=id G;replace k:=k.call f;clear f;go_wp2_with fail
 refine(CQ _ _ G _).mono ?_;rintro e w2 ⟨v,rfl,h4,Z⟩;obtain⟨qa,qb,qc,qd,rfl,hk,h5,hi,h8,eq⟩:=id Z;replace k:=k.call h4;clear h4 G Z;have hq:qa<18446744073709551615:=by rw[eq]at S;unfold val at S;omega
 obtain⟨qe,F⟩:=vH (qa+1);have HE:Hid (Four (.agg #[.int .u64 qe,.int .u64 qb,.int .u64 qc,.int .u64 qd]) (P/4+1)):=by
  refine Four.mk oM h5 hi h8 ?_;rw[eq,<-F];unfold val;omega
 have h3:(qa:Int)+1=(qe:Int):=oM;have hw:=wrapN (a:=qe) oM;clear hq eq S hk h5 hi h8 F;obtain⟨hu,hs,hn,ht,xf⟩:=k.tail.head.at4;have zx:=k.tail.head.lt;obtain⟨V,O,I,Q,pf⟩:=k.head.at4;have zp:=k.head.lt;have n1:r≠w2.heap.size:=Z9 zx;have n0:i≠w2.heap.size:=Z9 zp;go_wp2_with fail
 refine(AN p o n P _ _ _ _ HG.out HX.out HE.out _).mono ?_;rintro e X ⟨v,rfl,h9,G⟩;replace k:=(k.alloc _).call h9;clear h9 hu hs hn ht xf zx V O I Q pf zp n0 n1 HE h3 hw;obtain⟨C,A,u,rd,rfl,-⟩:=id G;rw[hp.out]at G;have M:Hid (Four _ R):=G;clear G
 go_upto_region 4 with fail
 have hg:Kept w i [⟨i,0,p,o,n,0⟩,⟨X.heap.size,0,C,A,u,rd⟩,⟨r,0,a,b,c,d⟩,⟨N,0,0,0,0,0⟩] _:=((((Kept.mk1 (k.alloc (.cells #[.int .u64 C,.int .u64 A,.int .u64 u,.int .u64 rd] 42)).bl (k.alloc _).le).cons (k.alloc _).tail.tail.head).cons (k.alloc _).tail.head).cons (At4.made X 42 C A u rd rfl).blk).cons (x:=⟨i,0,p,o,n,0⟩) (k.alloc _).head |> λh=>by exact h
 have hj:X.heap.size≠i:=Zs k.head.lt;have h7:X.heap.size≠N:=Zs k.tail.tail.head.lt;have hm:X.heap.size≠r:=Zs k.tail.head.lt;have Q7:Hid (i<=X.heap.size):=k.le;clear k;have k:=hg;clear hg;generalize yAo _ _=W4 at k⊢;generalize X.heap.size=t at k hj hm h7 Q7⊢;by_cases q:R*R%P=m
 .have hl:=Rn a b c d;go_region_held3 (λw'=>w'.cell? ⟨i,0,none⟩=some (.int .u64 p)/\w'.cell? ⟨i,1,none⟩=some (.int .u64 o)/\w'.cell? ⟨i,2,none⟩=some (.int .u64 n)/\w'.cell? ⟨i,3,none⟩=some (.int .u64 0)/\w'.cell? ⟨t,0,none⟩=some (.int .u64 C)/\w'.cell? ⟨t,1,none⟩=some (.int .u64 A)/\w'.cell? ⟨t,2,none⟩=some (.int .u64 u)/\w'.cell? ⟨t,3,none⟩=some (.int .u64 rd)/\w'.cell? ⟨r,0,none⟩=some (.int .u64 a)/\w'.cell? ⟨r,1,none⟩=some (.int .u64 b)/\w'.cell? ⟨r,2,none⟩=some (.int .u64 c)/\w'.cell? ⟨r,3,none⟩=some (.int .u64 d)/\Kept w i [⟨i,0,p,o,n,0⟩,⟨t,0,C,A,u,rd⟩,⟨r,0,a,b,c,d⟩,⟨N,0,0,0,0,0⟩] w') (first|(with_reducible exact rO k)|(with_reducible exact rO k.drew)|fail) (first|(go_at_call 51;refine(qG (c:=p) (b:=o) (k:=n) (P:=P) HG.out M.out M.out).mono ?_;rintro e w5 ⟨v,rfl,f,s⟩;rw[q]at s;obtain rfl:=s.inj HX.out;clear s;(first|(with_reducible (have l:=k.drew.call f))|(with_reducible (have l:=k.call f))|fail);clear k f;have k:=l;clear l))
  have E:Hid (R*R%P=m):=q;clear q
  rename_i hHeld
  clear hHeld;obtain⟨B,z,y,D,tf⟩:=k.tail.head.at4;have zt:=k.tail.head.lt;go_wp2_with fail
  clear B z y D tf zt;refine(H6 M.out).mono ?_;rintro e w6 ⟨v,rfl,h6,rfl⟩;replace k:=k.call h6;clear h6;obtain⟨B,z,y,D,tf⟩:=k.tail.head.at4;have zt:=k.tail.head.lt;obtain⟨W,T,H,L,uf⟩:=k.tail.tail.tail.head.at4;have zu:=k.tail.tail.tail.head.lt;by_cases g:R%2=1
  .have hd:decide (R%2=1)=true:=decide_eq_true g;rw[hd];have HO:Hid (R%2=1):=g;clear hd g;obtain⟨V,O,I,Q,pf⟩:=k.head.at4;have zp:=k.head.lt;go_wp2_with fail
   refine(uV (c:=p) (b:=o) (k:=n) (P:=P) (m:=0) HG.out (Four.mk (a:=0) (b:=0) (c:=0) (d:=0) dC dC dC dC rfl) M.out (oN K.out) K.out).mono ?_;rintro e w8 ⟨v,rfl,he,U⟩;obtain⟨sa,sb,sc,sd,rfl,-⟩:=id U;have J:Hid (Four (.agg #[.int .u64 sa,.int .u64 sb,.int .u64 sc,.int .u64 sd]) (even P R)):=by
    have h1:(0+P-R)%P=even P R:=by
     unfold even;rw[yE3 HO.out,XQ];exact Ya (by have:=K.out;have:=HO.out;omega)
    unfold Hid;rw[<-h1];exact U
   replace k:=k.call he;clear he U B z y D tf zt W T H L uf zu V O I Q pf zp;obtain⟨B,z,y,D,tf⟩:=k.tail.head.at4;have zt:=k.tail.head.lt;obtain⟨W,T,H,L,uf⟩:=k.tail.tail.tail.head.at4;have zu:=k.tail.tail.tail.head.lt;go_wp2;have j:=(k.tail.tail.tail.head.at4.other4 h7 (.int .u64 sa) (.int .u64 sb) (.int .u64 sc) (.int .u64 sd)).self4 sa sb sc sd;unfold set4 at j;refine XR (v:=?v) ?hr rfl ?hR
   case hr=>simp[results,Tryz.results177,go_sem,j.c0,j.c1,j.c2,j.c3];rfl
   refine⟨_,rfl,?_,RootR.yes E.out J.out⟩;rw[H0.out];exact aK (aK k.bl Q7.out) Q2.out
  .have hd:decide (R%2=1)=false:=decide_eq_false g;rw[hd];have J:Hid (Four (.agg #[.int .u64 C,.int .u64 A,.int .u64 u,.int .u64 rd]) (even P R)):=by
    have h1:even P R=R:=by unfold even;rw[yE4 g]
    unfold Hid;rw[h1];exact M.out
   clear hd g;go_wp2;have j:=k.tail.tail.tail.head.at4.self4 C A u rd;unfold set4 at j;refine XR (v:=?v2) ?hr2 rfl ?hR2
   case hr2=>simp[results,Tryz.results177,go_sem,j.c0,j.c1,j.c2,j.c3];rfl
   refine⟨_,rfl,?_,RootR.yes E.out J.out⟩;rw[H0.out];exact aK k.bl Q2.out
 .go_region_held3 (λw'=>w'.cell? ⟨i,0,none⟩=some (.int .u64 p)/\w'.cell? ⟨i,1,none⟩=some (.int .u64 o)/\w'.cell? ⟨i,2,none⟩=some (.int .u64 n)/\w'.cell? ⟨i,3,none⟩=some (.int .u64 0)/\w'.cell? ⟨t,0,none⟩=some (.int .u64 C)/\w'.cell? ⟨t,1,none⟩=some (.int .u64 A)/\w'.cell? ⟨t,2,none⟩=some (.int .u64 u)/\w'.cell? ⟨t,3,none⟩=some (.int .u64 rd)/\w'.cell? ⟨r,0,none⟩=some (.int .u64 a)/\w'.cell? ⟨r,1,none⟩=some (.int .u64 b)/\w'.cell? ⟨r,2,none⟩=some (.int .u64 c)/\w'.cell? ⟨r,3,none⟩=some (.int .u64 d)/\Kept w i [⟨i,0,p,o,n,0⟩,⟨t,0,C,A,u,rd⟩,⟨r,0,a,b,c,d⟩,⟨N,0,0,0,0,0⟩] w') (first|(with_reducible exact rO k)|(with_reducible exact rO k.drew)|fail) (first|(go_at_call 51;refine(qG (c:=p) (b:=o) (k:=n) (P:=P) HG.out M.out M.out).mono ?_;rintro e w5 ⟨v,rfl,f,s⟩;obtain⟨z,J,D,B,rfl,g⟩:=four_ne s HX.out q;have y:=Ov g;clear s;(first|(with_reducible (have l:=k.drew.call f))|(with_reducible (have l:=k.call f))|fail);clear k f;have k:=l;clear l))
  have E:Hid (¬R*R%P=m):=q;clear q
  rename_i hHeld
  clear hHeld;obtain⟨W,T,H,L,uf⟩:=k.tail.tail.tail.head.at4;have zu:=k.tail.tail.tail.head.lt;go_wp2;have j:At4 (set4 w5 N (.int .u64 0) (.int .u64 0) (.int .u64 0) (.int .u64 0)) N 0 0 0 0:=k.tail.tail.tail.head.at4.self4 0 0 0 0;unfold set4 at j;refine XR (v:=?v3) ?hr3 rfl ?hR3
  case hr3=>simp[results,Tryz.results177,go_sem,j.c0,j.c1,j.c2,j.c3];rfl
  refine⟨_,rfl,?_,RootR.no E.out⟩;rw[H0.out];exact aK k.bl Q2.out
end
section
def wn(n:Nat):List XG:=[uZ ((n%2^64:Nat):Int),uZ ((n/2^64%2^64:Nat):Int),uZ ((n/2^128%2^64:Nat):Int),uZ ((n/2^192%2^64:Nat):Int)]
def nv(n:Nat):XG:=.agg (wn n).toArray
def xE{n:Nat}(h:n<top):Four (nv n) n:=by
 refine⟨n%2^64,n/2^64%2^64,n/2^128%2^64,n/2^192%2^64,rfl,?_,?_,?_,?_,?_⟩
 .omega
 .omega
 .omega
 .omega
 .unfold val;unfold top at h;omega
def Four.nv{v:XG}{n:Nat}(h:Four v n):v=Go.Proofs.YtlofhpkoaljmeaaGreat.nv n:=h.inj (xE h.lt)
variable {P:Nat}[NeZero P]
abbrev ws(x:Fin P):List XG:=wn x.val
abbrev fv(x:Fin P):XG:=nv x.val
def pv(x y:Fin P):XG:=.agg (ws x++ws y).toArray
def rv(x y z:Fin P):XG:=.agg (ws x++(ws y++ws z)).toArray
def Gives(f:ZZ)(args:Array XG)(v:XG):Prop:=∀w,cZ f args w (rZ w λe w'=>e=v)
structure Fld(P:Nat)[NeZero P]:Prop where
 gap:Gap 4294968273 0 0 P
 cur:Cur P
 p2:2<=P%18446744073709551616
 p4:P/4%18446744073709551616<18446744073709551615
 p3:P%4=3
 p7:7<P
def Fld.top(h:Fld P)(x:Fin P):x.val<top:=by have:=h.gap.hP;have:=x.isLt;omega
def Fld.four(h:Fld P)(x:Fin P):Four (fv x) x.val:=xE (h.top x)
def mG:(Yg #[uZ 0,uZ 0,uZ 0,uZ 0])=fv (0:Fin P):=by
 have h:Four (Yg #[uZ 0,uZ 0,uZ 0,uZ 0]) (0:Fin P).val:=by
  rw[val_zero];exact Four.mk (a:=0) (b:=0) (c:=0) (d:=0) dC dC dC dC rfl
 exact h.nv
def RY(h:Fld P):(Yg #[uZ 1,uZ 0,uZ 0,uZ 0])=fv (1:Fin P):=by
 have h:Four (Yg #[uZ 1,uZ 0,uZ 0,uZ 0]) (1:Fin P).val:=by
  rw[val_one h.cur.pr];exact Four.mk (a:=1) (b:=0) (c:=0) (d:=0) dC dC dC dC rfl
 exact h.nv
def bP:Gives 118 #[] gv0:=λw=>(wN).mono (by rintro e w' ⟨rfl,rfl⟩;exact⟨_,rfl,aC _,rfl⟩)
def Ub{x y:Fin P}(h:Fld P):Gives 98 #[gv0,fv x,fv y] (fv (x+y)):=λw =>
 (sum_any 4294968273 0 0 P _ _ x.val y.val h.gap (h.four x) (h.four y) x.isLt y.isLt w).mono (by
  rintro e w' ⟨v,rfl,k,b⟩;exact⟨_,rfl,k,b.nv⟩)
omit [NeZero P] in
theorem BA(x y:Fin P):(x.val+P-y.val)%P=(x-y).val:=by
 rw[Fin.sub_def];show _=(P-y.val+x.val)%P
 congr 1
 have:=y.isLt;omega
def Ca{x y:Fin P}(h:Fld P):Gives 178 #[gv0,fv x,fv y] (fv (x-y)):=λw =>
 (oQ 4294968273 0 0 P _ _ x.val y.val h.gap (h.four x) (h.four y) x.isLt y.isLt w).mono (by
  rintro e w' ⟨v,rfl,b,k⟩;rw[BA]at k;exact⟨_,rfl,b,k.nv⟩)
def Iq{x y:Fin P}(h:Fld P):Gives 100 #[gv0,fv x,fv y] (fv (x*y)):=λw =>
 (dN 4294968273 0 0 P _ _ x.val y.val h.gap (h.four x) (h.four y) w).mono (by
  rintro e w' ⟨v,rfl,k,b⟩;exact⟨_,rfl,k,b.nv⟩)
def SO{x:Fin P}(h:Fld P):Gives 55 #[fv x] (fv x):=λw=>(jY (h.four x)).mono (by rintro e w' ⟨v,rfl,k,rfl⟩;exact⟨_,rfl,k,rfl⟩)
def KL{x:Fin P}(h:Fld P):Gives 99 #[fv x] (fv x):=λw=>(jU (h.four x)).mono (by rintro e w' ⟨v,rfl,k,rfl⟩;exact⟨_,rfl,k,rfl⟩)
def tD{x y:Fin P}(h:Fld P):Gives 51 #[gv0,fv x,fv y] (fv (x*y)):=λw =>
 (qG h.gap (h.four x) (h.four y)).mono (by
  rintro e w' ⟨v,rfl,k,b⟩;exact⟨_,rfl,k,b.nv⟩)
def H5{x y:Fin P}(h:Fld P):Gives 50 #[gv0,fv x,fv y] (fv (x+y)):=λw =>
 (DU h.gap (h.four x) (h.four y) x.isLt y.isLt).mono (by
  rintro e w' ⟨v,rfl,k,b⟩;exact⟨_,rfl,k,b.nv⟩)
def MS{x y:Fin P}(h:Fld P):Gives 121 #[gv0,fv x,fv y] (fv (x-y)):=λw =>
 (uV h.gap (h.four x) (h.four y) x.isLt y.isLt).mono (by
  rintro e w' ⟨v,rfl,b,k⟩;rw[BA]at k;exact⟨_,rfl,b,k.nv⟩)
def CB(h:Fld P):(Yg #[uZ 7,uZ 0,uZ 0,uZ 0])=fv (7:Fin P):=by
 have h:Four (Yg #[uZ 7,uZ 0,uZ 0,uZ 0]) (7:Fin P).val:=by
  have k:(7:Fin P).val=7%P:=rfl;rw[k,Ya h.p7];exact Four.mk (a:=7) (b:=0) (c:=0) (d:=0) dC dC dC dC rfl
 exact h.nv
def Bm:([uZ 0,uZ 0,uZ 0,uZ 0]:List XG)=ws (0:Fin P):=by
 have h:=mG (P:=P);unfold nv at h;injection h with h
 exact congrArg Array.toList h
def iI:(Yg #[uZ 0,uZ 0,uZ 0,uZ 0,uZ 0,uZ 0,uZ 0,uZ 0])=pv (0:Fin P) 0:=by
 unfold pv;rw[<-Bm];rfl
def Nc:(Yg #[uZ 0,uZ 0,uZ 0,uZ 0,uZ 0,uZ 0,uZ 0,uZ 0,uZ 0,uZ 0,uZ 0,uZ 0])=rv (0:Fin P) 0 0:=by
 unfold rv;rw[<-Bm];rfl
def Jh{x:Fin P}(h:Fld P):Gives 174 #[gv0,fv x] (fv (inv x)):=λw =>
 (wE 4294968273 0 0 P _ x.val h.gap h.p2 (h.four x) w).mono (by
  rintro e w' ⟨v,rfl,k,b⟩;exact⟨_,rfl,k,b.nv⟩)
end
section
variable {P:Nat}[NeZero P]{N:Nat}
omit [NeZero P] in
theorem Gives.e{f:ZZ}{args:Array XG}{x c:Fin P}(h:Gives f args (fv x))(e:c=x):Gives f args (fv c):=e ▸ h
omit [NeZero P] in
theorem Gives.e3{f:ZZ}{args:Array XG}{x y z a b c:Fin P}(h:Gives f args (rv x y z))(e:a=x)(e':b=y)(k:c=z):Gives f args (rv a b c):=e ▸ e' ▸ k ▸ h
def eqW(a b c d p q r s:Int)(w:XF):(binOp .eql 209 (.agg #[uZ a,uZ b,uZ c,uZ d]) (.agg #[uZ p,uZ q,uZ r,uZ s])).run prog w=.ok (.bool (decide (a=p/\b=q/\c=r/\d=s))) w:=by
 go_simp;by_cases k:a=p<;>by_cases e:b=q<;>by_cases g:c=r<;>by_cases f:d=s<;>simp[k,e,g,f]
def Bq{m n:Nat}(k:m<top)(b:n<top):(m%2^64=n%2^64/\m/2^64%2^64=n/2^64%2^64/\m/2^128%2^64=n/2^128%2^64/\m/2^192%2^64=n/2^192%2^64)↔m=n:=by
 constructor
 .rintro⟨c,d,f,e⟩;unfold top at k b;omega
 .rintro rfl;exact⟨rfl,rfl,rfl,rfl⟩
def eqC(h:Fld P)(x y:Fin P)(w:XF):(binOp .eql 209 (fv x) (fv y)).run prog w=.ok (.bool (decide (x=y))) w:=by
 have k:=eqW ((x.val%2^64:Nat):Int) ((x.val/2^64%2^64:Nat):Int) ((x.val/2^128%2^64:Nat):Int) ((x.val/2^192%2^64:Nat):Int) ((y.val%2^64:Nat):Int) ((y.val/2^64%2^64:Nat):Int) ((y.val/2^128%2^64:Nat):Int) ((y.val/2^192%2^64:Nat):Int) w;refine k.trans ?_;have b:=Bq (h.top x) (h.top y);simp only[Int.ofNat_inj,b,<-yEQ]
def G5(h:Fld P){x y:Fin P}(e:x=y)(w:XF):(binOp .eql 209 (fv x) (fv y)).run prog w=.ok tZ w:=by rw[eqC h,decide_eq_true e]
def LV(h:Fld P){x y:Fin P}(e:¬x=y)(w:XF):(binOp .eql 209 (fv x) (fv y)).run prog w=.ok fZ w:=by rw[eqC h,decide_eq_false e]
def Vd{a b c d p q r s l f j i g n o m:Nat}{w:XF}:(binOp .eql 131 (.agg #[uZ a,uZ b,uZ c,uZ d,uZ l,uZ f,uZ j,uZ i]) (.agg #[uZ p,uZ q,uZ r,uZ s,uZ g,uZ n,uZ o,uZ m])).run prog w=.ok (.bool (decide (a=p/\b=q/\c=r/\d=s) && decide (l=g/\f=n/\j=o/\i=m))) w:=by
 go_simp;rw[GZ 9997,YE];by_cases k:a=p/\b=q/\c=r/\d=s
 .rw[decide_eq_true k];simp only[Bool.true_eq_false,if_false];rw[GZ 9997,YE];by_cases e:l=g/\f=n/\j=o/\i=m
  .rw[decide_eq_true e];simp[k.1,k.2.1,k.2.2.1,k.2.2.2,e.1,e.2.1,e.2.2.1,e.2.2.2]
  .rw[decide_eq_false e];simp only[if_true,YE];have t:(decide (l=g) && (decide (f=n) && (decide (j=o) && decide (i=m))))=false:=by simpa using e
   rw[t,Bool.and_false]
 .rw[decide_eq_false k];simp only[if_true,YE];have t:(decide (a=p) && (decide (b=q) && (decide (c=r) && decide (d=s))))=false:=by simpa using k
  rw[t,Bool.false_and]
def eqPt(h:Fld P)(x y z t:Fin P)(w:XF):(binOp .eql 131 (pv x y) (pv z t)).run prog w=.ok (.bool (decide (x=z/\y=t))) w:=by
 refine(Vd).trans ?_;simp only[Bq (h.top x) (h.top z),Bq (h.top y) (h.top t),<-yEQ,Bool.decide_and]
def LS(h:Fld P){x y z t:Fin P}(e:x=z/\y=t)(w:XF):(binOp .eql 131 (pv x y) (pv z t)).run prog w=.ok tZ w:=by rw[eqPt h,decide_eq_true e]
def EY(h:Fld P){x y z t:Fin P}(e:¬(x=z/\y=t))(w:XF):(binOp .eql 131 (pv x y) (pv z t)).run prog w=.ok fZ w:=by rw[eqPt h,decide_eq_false e]
def aQ:yZ 209:=yQ
def aJ:gZ 209 4:=gQ
def u85:yZ 42:=yQ
def i85:gZ 42 4:=gQ
def iW:yZ 211:=yQ
def i117:gZ 211 12:=gQ
def iM:yZ 131:=yQ
def i109:gZ 131 8:=gQ
def u79:yZ 78:=yQ
def i79:gZ 78 4:=gQ
def aU(C:Fld P)(x y:Fin P):Gives 168 #[(fv x),(fv y)] (fv (x*y)):=by
 intro w;obtain⟨c1,d⟩:∃c,c=x*y:=⟨_,rfl⟩
 have k:((fv c1):XG)=(fv (x*y)):=by
  subst_vars;rfl
 rw[<-k];go_enter func168,ntmps168;refine RG.M.enter [(0,.v (fv x)),(1,.v (fv y))] 9 kR ?_;intro a0 f;repeat apply XL
 refine f.T [.m 0,.m 1,.m 2] [(0,ws x),(1,ws y),(2,RG.z 4)] [] [ws x,ws y,RG.z 4] [2,3,4] ⟨mk 0 209,mk 1 209,mk 2 209,yE5⟩ ?_;intro i j l g m e;repeat apply XL
 refine e.D [.c gv0,.x (fv x),.x (fv y),.c (fv c1),.u 2] [] [(2,4,ws c1)] [ws x,ws y,ws c1] [4] ⟨cl bP,ld aQ aJ,ld aQ aJ,cl ((Iq C).e d),RG.pt aJ,yE5⟩ ?_;intro a2 n b;refine Zj<|XR (v:=(fv c1)) (aH b.st rfl rfl (b.at (s:=(.p 2 0))) aQ aJ) b.sl.defers ?_
 exact⟨_,rfl,b.st.bel.below,rfl⟩
def H9(C:Fld P)(x y:Fin P):Gives 170 #[(fv x),(fv y)] (fv (x+y)):=by
 intro w;obtain⟨c1,d⟩:∃c,c=x+y:=⟨_,rfl⟩
 have k:((fv c1):XG)=(fv (x+y)):=by
  subst_vars;rfl
 rw[<-k];go_enter func170,ntmps170;refine RG.M.enter [(0,.v (fv x)),(1,.v (fv y))] 9 kR ?_;intro a0 f;repeat apply XL
 refine f.T [.m 0,.m 1,.m 2] [(0,ws x),(1,ws y),(2,RG.z 4)] [] [ws x,ws y,RG.z 4] [2,3,4] ⟨mk 0 209,mk 1 209,mk 2 209,yE5⟩ ?_;intro i j l g m e;repeat apply XL
 refine e.D [.c gv0,.x (fv x),.x (fv y),.c (fv c1),.u 2] [] [(2,4,ws c1)] [ws x,ws y,ws c1] [4] ⟨cl bP,ld aQ aJ,ld aQ aJ,cl ((Ub C).e d),RG.pt aJ,yE5⟩ ?_;intro a2 n b;refine Zj<|XR (v:=(fv c1)) (aH b.st rfl rfl (b.at (s:=(.p 2 0))) aQ aJ) b.sl.defers ?_
 exact⟨_,rfl,b.st.bel.below,rfl⟩
def fF(C:Fld P)(x y:Fin P):Gives 171 #[(fv x),(fv y)] (fv (x-y)):=by
 intro w;obtain⟨c1,d⟩:∃c,c=x-y:=⟨_,rfl⟩
 have k:((fv c1):XG)=(fv (x-y)):=by
  subst_vars;rfl
 rw[<-k];go_enter func171,ntmps171;refine RG.M.enter [(0,.v (fv x)),(1,.v (fv y))] 9 kR ?_;intro a0 f;repeat apply XL
 refine f.T [.m 0,.m 1,.m 2] [(0,ws x),(1,ws y),(2,RG.z 4)] [] [ws x,ws y,RG.z 4] [2,3,4] ⟨mk 0 209,mk 1 209,mk 2 209,yE5⟩ ?_;intro i j l g m e;repeat apply XL
 refine e.D [.c gv0,.x (fv x),.x (fv y),.c (fv c1),.u 2] [] [(2,4,ws c1)] [ws x,ws y,ws c1] [4] ⟨cl bP,ld aQ aJ,ld aQ aJ,cl ((Ca C).e d),RG.pt aJ,yE5⟩ ?_;intro a2 n b;refine Zj<|XR (v:=(fv c1)) (aH b.st rfl rfl (b.at (s:=(.p 2 0))) aQ aJ) b.sl.defers ?_
 exact⟨_,rfl,b.st.bel.below,rfl⟩
def xJ(C:Fld P)(x:Fin P):Gives 176 #[(fv x)] (fv x):=by
 intro w;go_enter func176,ntmps176;refine RG.M.enter [(0,.v (fv x))] 5 kR ?_;intro a0 c;repeat apply XL
 refine c.T [.m 0,.m 1] [(0,ws x),(1,RG.z 4)] [] [ws x,RG.z 4] [1,2] ⟨mk 0 42,mk 1 209,yE5⟩ ?_;intro g d e i b;repeat apply XL
 refine b.T [.x (fv x),.c (fv x),.u 1] [] [(1,2,ws x)] [ws x,ws x] [2] ⟨ld u85 i85,cl (SO C (x:=x)),RG.pt aJ,yE5⟩ ?_;intro a2 f k;refine Zj<|XR (v:=(fv x)) (aH k.st (t:=2) (T:=209) rfl (b:=1) rfl (k.at (s:=(.p 1 0))) aQ aJ) k.sl.defers ?_
 exact⟨_,rfl,k.st.bel.below,rfl⟩
def FK(C:Fld P)(x:Fin P):Gives 175 #[(fv x)] (fv x):=by
 intro w;go_enter func175,ntmps175;refine RG.M.enter [(0,.v (fv x))] 5 kR ?_;intro a0 c;repeat apply XL
 refine c.T [.m 0,.m 1] [(0,ws x),(1,RG.z 4)] [] [ws x,RG.z 4] [1,2] ⟨mk 0 209,mk 1 42,yE5⟩ ?_;intro g d e i b;repeat apply XL
 refine b.T [.x (fv x),.c (fv x),.u 1] [] [(1,2,ws x)] [ws x,ws x] [2] ⟨ld aQ aJ,cl (KL C (x:=x)),RG.pt i85,yE5⟩ ?_;intro a2 f k;refine Zj<|XR (v:=(fv x)) (aH k.st (t:=2) (T:=42) rfl (b:=1) rfl (k.at (s:=(.p 1 0))) u85 i85) k.sl.defers ?_
 exact⟨_,rfl,k.st.bel.below,rfl⟩
def gI(C:Fld P)(x:Fin P):Gives 169 #[(fv x)] (fv (dbl x)):=by
 intro w;obtain⟨c1,d⟩:∃c,c=x+x:=⟨_,rfl⟩
 have k:((fv c1):XG)=(fv (dbl x)):=by
  subst_vars;rfl
 rw[<-k];go_enter func169,ntmps169;refine RG.M.enter [(0,.v (fv x))] 6 kR ?_;intro a0 f;repeat apply XL
 refine f.T [.m 0,.m 1] [(0,ws x),(1,RG.z 4)] [] [ws x,RG.z 4] [1,2] ⟨mk 0 209,mk 1 209,yE5⟩ ?_;intro l g i m e;repeat apply XL
 refine e.T [.x (fv x),.x (fv x),.c (fv c1),.u 1] [] [(1,3,ws c1)] [ws x,ws c1] [2] ⟨ld aQ aJ,ld aQ aJ,cl ((H9 C x x).e d),RG.pt aJ,yE5⟩ ?_;intro a2 j b;refine Zj<|XR (v:=(fv c1)) (aH b.st rfl rfl (b.at (s:=(.p 1 0))) aQ aJ) b.sl.defers ?_
 exact⟨_,rfl,b.st.bel.below,rfl⟩
def FU(C:Fld P)(x y z:Fin P):Gives 113 #[(rv x y z)] (rv (twX x y) (twY x y) (twZ y z)):=by
 intro w;obtain⟨c1,Q⟩:∃c,c=x*x:=⟨_,rfl⟩
 obtain⟨c2,L⟩:∃c,c=y*y:=⟨_,rfl⟩
 obtain⟨M,I⟩:∃c,c=x*c2:=⟨_,rfl⟩
 obtain⟨H,R⟩:∃c,c=dbl M:=⟨_,rfl⟩
 obtain⟨e,O⟩:∃c,c=dbl H:=⟨_,rfl⟩
 obtain⟨U,S⟩:∃c,c=dbl c1:=⟨_,rfl⟩
 obtain⟨d,N⟩:∃c,c=U+c1:=⟨_,rfl⟩
 obtain⟨K,J⟩:∃c,c=d*d:=⟨_,rfl⟩
 obtain⟨V,T⟩:∃c,c=dbl e:=⟨_,rfl⟩
 obtain⟨k,B⟩:∃c,c=K-V:=⟨_,rfl⟩
 obtain⟨l,t⟩:∃c,c=e-k:=⟨_,rfl⟩
 obtain⟨o,r⟩:∃c,c=d*l:=⟨_,rfl⟩
 obtain⟨m,u⟩:∃c,c=c2*c2:=⟨_,rfl⟩
 obtain⟨n,D⟩:∃c,c=dbl m:=⟨_,rfl⟩
 obtain⟨j,a⟩:∃c,c=dbl n:=⟨_,rfl⟩
 obtain⟨i,F⟩:∃c,c=dbl j:=⟨_,rfl⟩
 obtain⟨b,p⟩:∃c,c=o-i:=⟨_,rfl⟩
 obtain⟨g,A⟩:∃c,c=y*z:=⟨_,rfl⟩
 obtain⟨f,q⟩:∃c,c=dbl g:=⟨_,rfl⟩
 have E:((rv k b f):XG)=(rv (twX x y) (twY x y) (twZ y z)):=by
  subst_vars;rfl
 rw[<-E];go_enter func113,ntmps113;refine RG.M.enter [(0,.v (rv x y z))] 56 kR ?_;intro a0 M0;repeat apply XL
 refine M0.T [.m 0,.m 1] [(0,ws x++(ws y++(ws z))),(1,RG.z 12)] [] [ws x++(ws y++(ws z)),RG.z 12] [1,2] ⟨mk 0 211,mk 1 211,yE5⟩ ?_;intro j1 i1 a1 w1 Z;repeat apply XL
 refine Z.D [.s (.p 0 0),.x (fv x),.s (.p 0 0),.x (fv x),.c (fv c1),.s (.p 0 4),.x (fv y),.s (.p 0 4),.x (fv y),.c (fv c2),.m 2,.m 3,.u 2,.u 3] [(10,RG.z 4),(11,RG.z 4)] [(2,12,ws c1),(3,13,ws c2)] [ws x++(ws y++(ws z)),RG.z 12,ws c1,ws c2] [1,2,3,4] ⟨st,ld aQ aJ,st,ld aQ aJ,cl ((aU C x x).e Q),st,ld aQ aJ,st,ld aQ aJ,cl ((aU C y y).e L),mk 2 209,mk 3 209,RG.pt aJ,RG.pt aJ,yE5⟩ ?_;intro j2 i2 a2 w2 X;repeat apply XL
 refine X.T [.s (.p 0 0),.x (fv x),.x (fv c2),.c (fv M),.c (fv H),.c (fv e),.m 4,.u 4] [(6,RG.z 4)] [(4,7,ws e)] [ws x++(ws y++(ws z)),RG.z 12,ws c1,ws c2,ws e] [1,2,3,4,5] ⟨st,ld aQ aJ,ld aQ aJ,cl ((aU C x c2).e I),cl ((gI C M).e R),cl ((gI C H).e O),mk 4 209,RG.pt aJ,yE5⟩ ?_;intro j3 a3 w3 Y;repeat apply XL
 refine Y.D [.x (fv c1),.c (fv U),.x (fv c1),.c (fv d),.m 5,.u 5] [(4,RG.z 4)] [(5,5,ws d)] [ws x++(ws y++(ws z)),RG.z 12,ws c1,ws c2,ws e,ws d] [1,2,4,5,6] ⟨ld aQ aJ,cl ((gI C c1).e S),ld aQ aJ,cl ((H9 C U c1).e N),mk 5 209,RG.pt aJ,yE5⟩ ?_;intro j4 a4 w4 W;repeat apply XL
 refine W.D [.x (fv d),.x (fv d),.c (fv K),.x (fv e),.c (fv V),.c (fv k),.m 6,.u 6] [(6,RG.z 4)] [(6,7,ws k)] [ws x++(ws y++(ws z)),RG.z 12,ws c1,ws c2,ws e,ws d,ws k] [1,2,4,5,6,7] ⟨ld aQ aJ,ld aQ aJ,cl ((aU C d d).e J),ld aQ aJ,cl ((gI C e).e T),cl ((fF C K V).e B),mk 6 209,RG.pt aJ,yE5⟩ ?_;intro j5 a5 w5 M5;repeat apply XL
 refine M5.D [.x (fv d),.x (fv e),.x (fv k),.c (fv l),.c (fv o),.x (fv c2),.x (fv c2),.c (fv m),.c (fv n),.c (fv j),.c (fv i),.c (fv b),.m 7,.u 7] [(12,RG.z 4)] [(7,13,ws b)] [ws x++(ws y++(ws z)),RG.z 12,ws c1,ws c2,ws e,ws d,ws k,ws b] [1,2,7,8] ⟨ld aQ aJ,ld aQ aJ,ld aQ aJ,cl ((fF C e k).e t),cl ((aU C d l).e r),ld aQ aJ,ld aQ aJ,cl ((aU C c2 c2).e u),cl ((gI C m).e D),cl ((gI C n).e a),cl ((gI C j).e F),cl ((fF C o i).e p),mk 7 209,RG.pt aJ,yE5⟩ ?_;intro j6 a6 w6 M6;repeat apply XL
 refine M6.D [.x (fv k),.x (fv b),.s (.p 0 4),.x (fv y),.s (.p 0 8),.x (fv z),.c (fv g),.c (fv f),.x (rv k b f),.u 1] [] [(1,9,ws k++(ws b++(ws f)))] [ws x++(ws y++(ws z)),ws k++(ws b++(ws f)),ws c1,ws c2,ws e,ws d,ws k,ws b] [2] ⟨ld aQ aJ,ld aQ aJ,st,ld aQ aJ,st,ld aQ aJ,cl ((aU C y z).e A),cl ((gI C g).e q),st,RG.pt i117,yE5⟩ ?_;intro a7 w7 G;refine Zj<|XR (v:=(rv k b f)) (aH G.st rfl rfl (G.at (s:=(.p 1 0))) iW i117) G.sl.defers ?_
 exact⟨_,rfl,G.st.bel.below,rfl⟩
def EF(C:Fld P)(x y z:Fin P):Gives 173 #[(rv x y z)] (rv x (0-y) z):=by
 intro w;obtain⟨c1,d⟩:∃c,c=(0:Fin P)-y:=⟨_,rfl⟩
 have k:((rv x c1 z):XG)=(rv x (0-y) z):=by
  subst_vars;rfl
 rw[<-k];go_enter func173,ntmps173;refine RG.M.enter [(0,.v (rv x y z))] 12 kR ?_;intro a0 f;repeat apply XL
 refine f.T [.m 0,.m 1] [(0,ws x++(ws y++(ws z))),(1,RG.z 12)] [] [ws x++(ws y++(ws z)),RG.z 12] [1,2] ⟨mk 0 211,mk 1 211,yE5⟩ ?_;intro i j g l e;repeat apply XL
 refine e.D [.s (.p 0 0),.x (fv x),.x (fv (0:Fin P)),.s (.p 0 4),.x (fv y),.c (fv c1),.s (.p 0 8),.x (fv z),.x (rv x c1 z),.u 1] [] [(1,9,ws x++(ws c1++(ws z)))] [ws x++(ws y++(ws z)),ws x++(ws c1++(ws z))] [2] ⟨st,ld aQ aJ,se (mG (P:=P)),st,ld aQ aJ,cl ((fF C (0:Fin P) y).e d),st,ld aQ aJ,st,RG.pt i117,yE5⟩ ?_;intro a2 m b;refine Zj<|XR (v:=(rv x c1 z)) (aH b.st rfl rfl (b.at (s:=(.p 1 0))) iW i117) b.sl.defers ?_
 exact⟨_,rfl,b.st.bel.below,rfl⟩
def Oj(C:Fld P)(x y z:Fin P):Gives 116 #[(rv x y z)] (pv (x*(inv z*inv z)) (y*(inv z*inv z)*inv z)):=by
 intro w;obtain⟨c1,l⟩:∃c,c=inv z:=⟨_,rfl⟩
 obtain⟨c2,i⟩:∃c,c=c1*c1:=⟨_,rfl⟩
 obtain⟨k,g⟩:∃c,c=x*c2:=⟨_,rfl⟩
 obtain⟨f,m⟩:∃c,c=y*c2:=⟨_,rfl⟩
 obtain⟨b,j⟩:∃c,c=f*c1:=⟨_,rfl⟩
 have d:((pv k b):XG)=(pv (x*(inv z*inv z)) (y*(inv z*inv z)*inv z)):=by
  subst_vars;rfl
 rw[<-d];go_enter func116,ntmps116;refine RG.M.enter [(0,.v (rv x y z))] 27 kR ?_;intro a0 q;repeat apply XL
 refine q.T [.m 0,.m 1] [(0,ws x++(ws y++(ws z))),(1,RG.z 8)] [] [ws x++(ws y++(ws z)),RG.z 8] [1,2] ⟨mk 0 211,mk 1 131,yE5⟩ ?_;intro u a r B p;repeat apply XL
 refine p.D [.c gv0,.s (.p 0 8),.x (fv z),.c (fv z),.c (fv c1),.c (fv c1),.m 2,.u 2] [(6,RG.z 4)] [(2,7,ws c1)] [ws x++(ws y++(ws z)),RG.z 8,ws c1] [1,2,3] ⟨cl bP,st,ld aQ aJ,cl (FK C z),cl ((Jh C).e l),cl (xJ C c1),mk 2 209,RG.pt aJ,yE5⟩ ?_;intro A a2 F n;repeat apply XL
 refine n.T [.x (fv c1),.x (fv c1),.c (fv c2),.m 3,.u 3] [(3,RG.z 4)] [(3,4,ws c2)] [ws x++(ws y++(ws z)),RG.z 8,ws c1,ws c2] [1,2,3,4] ⟨ld aQ aJ,ld aQ aJ,cl ((aU C c1 c1).e i),mk 3 209,RG.pt aJ,yE5⟩ ?_;intro H E G o;repeat apply XL
 refine o.D [.s (.p 0 0),.x (fv x),.x (fv c2),.c (fv k),.c (fv k),.s (.p 0 4),.x (fv y),.x (fv c2),.c (fv f),.x (fv c1),.c (fv b),.c (fv b),.x (pv k b),.u 1] [] [(1,13,ws k++(ws b))] [ws x++(ws y++(ws z)),ws k++(ws b),ws c1,ws c2] [2] ⟨st,ld aQ aJ,ld aQ aJ,cl ((aU C x c2).e g),cl (FK C k),st,ld aQ aJ,ld aQ aJ,cl ((aU C y c2).e m),ld aQ aJ,cl ((aU C f c1).e j),cl (FK C b),st,RG.pt i109,yE5⟩ ?_;intro D t e;refine Zj<|XR (v:=(pv k b)) (aH e.st rfl rfl (e.at (s:=(.p 1 0))) iM i109) e.sl.defers ?_
 exact⟨_,rfl,e.st.bel.below,rfl⟩
def vM(C:Fld P)(x y z:Fin P)(d:z=0):Gives 172 #[(rv x y z)] tZ:=by
 intro w;go_enter func172,ntmps172;refine RG.M.enter [(0,.v (rv x y z))] 7 kR ?_;intro a0 c;repeat apply XL
 refine c.T [.m 0,.x fZ] [(0,ws x++(ws y++(ws z)))] [] [ws x++(ws y++(ws z))] [1,2] ⟨mk 0 211,st,yE5⟩ ?_;intro g e i b;repeat apply XL
 refine b.U [.s (.p 0 8),.x (fv z),.x (fv (0:Fin P)),.x tZ,.x tZ] [2] ⟨st,ld aQ aJ,se (mG (P:=P)),aO rfl .eql 209 rfl rfl sx sx (λw=>kR) (G5 C d),st,yE5⟩ ?_;intro a2 f k;refine Zj<|XR (v:=tZ) (jJ rfl (k.at (s:=(.v tZ)))) k.sl.defers ?_
 exact⟨_,rfl,k.st.bel.below,rfl⟩
def vN(C:Fld P)(x y z:Fin P)(d:¬z=0):Gives 172 #[(rv x y z)] fZ:=by
 intro w;go_enter func172,ntmps172;refine RG.M.enter [(0,.v (rv x y z))] 7 kR ?_;intro a0 c;repeat apply XL
 refine c.T [.m 0,.x fZ] [(0,ws x++(ws y++(ws z)))] [] [ws x++(ws y++(ws z))] [1,2] ⟨mk 0 211,st,yE5⟩ ?_;intro g e i b;repeat apply XL
 refine b.U [.s (.p 0 8),.x (fv z),.x (fv (0:Fin P)),.x fZ,.x fZ] [2] ⟨st,ld aQ aJ,se (mG (P:=P)),aO rfl .eql 209 rfl rfl sx sx (λw=>kR) (LV C d),st,yE5⟩ ?_;intro a2 f k;refine Zj<|XR (v:=fZ) (jJ rfl (k.at (s:=(.v fZ)))) k.sl.defers ?_
 exact⟨_,rfl,k.st.bel.below,rfl⟩
def Im(C:Fld P)(x y:Fin P)(d:x=0/\y=0):Gives 167 #[(pv x y)] (rv (0:Fin P) 0 0):=by
 intro w;have k:((rv (0:Fin P) (0:Fin P) (0:Fin P)):XG)=(rv (0:Fin P) 0 0):=by
  subst_vars;rfl
 rw[<-k];go_enter func167,ntmps167;refine RG.M.enter [(0,.v (pv x y))] 16 kR ?_;intro a0 f;repeat apply XL
 refine f.T [.m 0,.m 1] [(0,ws x++(ws y)),(1,RG.z 12)] [] [ws x++(ws y),RG.z 12] [1,2] ⟨mk 0 131,mk 1 211,yE5⟩ ?_;intro i j g l e;repeat apply XL
 refine e.U [.x (pv x y),.x (pv (0:Fin P) (0:Fin P)),.x tZ] [2,5] ⟨ld iM i109,se (iI (P:=P)),aO rfl .eql 131 rfl rfl sx sx (λw=>kR) (LS C d),yE5⟩ ?_;intro a2 n c;repeat apply XL
 refine YH c.ev ?_;repeat apply XL
 refine c.T [.x (rv (0:Fin P) (0:Fin P) (0:Fin P)),.u 1] [] [(1,1,ws (0:Fin P)++(ws (0:Fin P)++(ws (0:Fin P))))] [ws x++(ws y),ws (0:Fin P)++(ws (0:Fin P)++(ws (0:Fin P)))] [2] ⟨se (Nc (P:=P)),RG.pt i117,yE5⟩ ?_;intro m o b;refine Zj<|XR (v:=(rv (0:Fin P) (0:Fin P) (0:Fin P))) (aH b.st rfl rfl (b.at (s:=(.p 1 0))) iW i117) b.sl.defers ?_
 exact⟨_,rfl,b.st.bel.below,rfl⟩
def Io(C:Fld P)(x y:Fin P)(d:¬(x=0/\y=0)):Gives 167 #[(pv x y)] (rv x y 1):=by
 intro w;have k:((rv x y (1:Fin P)):XG)=(rv x y 1):=by
  subst_vars;rfl
 rw[<-k];go_enter func167,ntmps167;refine RG.M.enter [(0,.v (pv x y))] 16 kR ?_;intro a0 f;repeat apply XL
 refine f.T [.m 0,.m 1] [(0,ws x++(ws y)),(1,RG.z 12)] [] [ws x++(ws y),RG.z 12] [1,2] ⟨mk 0 131,mk 1 211,yE5⟩ ?_;intro i j g l e;repeat apply XL
 refine e.U [.x (pv x y),.x (pv (0:Fin P) (0:Fin P)),.x fZ] [1,2,5] ⟨ld iM i109,se (iI (P:=P)),aO rfl .eql 131 rfl rfl sx sx (λw=>kR) (EY C d),yE5⟩ ?_;intro a2 n c;repeat apply XL
 refine Yh c.ev ?_;apply Y2;repeat apply XL
 refine c.D [.s (.p 0 0),.x (fv x),.c (fv x),.s (.p 0 4),.x (fv y),.c (fv y),.x (fv (1:Fin P)),.c (fv (1:Fin P)),.x (rv x y (1:Fin P)),.u 1] [] [(1,9,ws x++(ws y++(ws (1:Fin P))))] [ws x++(ws y),ws x++(ws y++(ws (1:Fin P)))] [2] ⟨st,ld u85 i85,cl (xJ C x),st,ld u85 i85,cl (xJ C y),se (RY C),cl (xJ C (1:Fin P)),st,RG.pt i117,yE5⟩ ?_;intro m o b;refine Zj<|XR (v:=(rv x y (1:Fin P))) (aH b.st rfl rfl (b.at (s:=(.p 1 0))) iW i117) b.sl.defers ?_
 exact⟨_,rfl,b.st.bel.below,rfl⟩
def Iu(C:Fld P)(f e k i j b:Fin P)(R:XG)(ha:k=0->R=rv i j b)(hb:¬k=0->b=0->R=rv f e k)(hc:¬k=0->¬b=0->cO f b=cO i k/\eO e b=eO j k->R=rv (twX f e) (twY f e) (twZ e k))(hd:¬k=0->¬b=0->¬(cO f b=cO i k/\eO e b=eO j k)->R=rv (plX (cO f b) (eO e b) (cO i k) (eO j k)) (plY (cO f b) (eO e b) (cO i k) (eO j k)) (plZ k b (cO f b) (cO i k))):Gives 114 #[(rv f e k),(rv i j b)] R:=by
 intro w;obtain⟨c1,h7⟩:∃c,c=k*k:=⟨_,rfl⟩
 obtain⟨c2,hg⟩:∃c,c=b*b:=⟨_,rfl⟩
 obtain⟨p,h8⟩:∃c,c=f*c2:=⟨_,rfl⟩
 obtain⟨r,hi⟩:∃c,c=i*c1:=⟨_,rfl⟩
 obtain⟨c5,hl⟩:∃c,c=e*c2:=⟨_,rfl⟩
 obtain⟨t,hk⟩:∃c,c=c5*b:=⟨_,rfl⟩
 obtain⟨c7,h6⟩:∃c,c=j*c1:=⟨_,rfl⟩
 obtain⟨u,h9⟩:∃c,c=c7*k:=⟨_,rfl⟩
 go_enter func114,ntmps114;refine RG.M.enter [(0,.v (rv f e k)),(1,.v (rv i j b))] 108 kR ?_;intro a0 M0;repeat refine XL ?_
 refine M0.T [.m 0,.m 1,.m 2] [(0,ws f++(ws e++(ws k))),(1,ws i++(ws j++(ws b))),(2,RG.z 12)] [] [ws f++(ws e++(ws k)),ws i++(ws j++(ws b)),RG.z 12] [2,3,4] ⟨mk 0 211,mk 1 211,mk 2 211,yE5⟩ ?_;intro j1 i1 m1 a1 w1 M1;repeat refine XL ?_
 by_cases y:k=0
 .obtain rfl:=ha y;refine M1.U [.x (rv f e k),.c (.bool true)] [3,4,19] ⟨ld iW i117,cl (vM C f e k y),yE5⟩ ?_;intro a2 w2 N;repeat refine XL ?_
  refine YH N.ev ?_;repeat refine XL ?_
  refine N.T [.x (rv i j b),.u 2] [] [(2,1,ws i++(ws j++(ws b)))] [ws f++(ws e++(ws k)),ws i++(ws j++(ws b)),ws i++(ws j++(ws b))] [4] ⟨ld iW i117,RG.pt i117,yE5⟩ ?_;intro a3 w3 B;refine Zj<|XR (v:=(rv i j b)) (aH B.st (t:=4) (T:=211) rfl (b:=2) rfl (B.at (s:=(.p 2 0))) iW i117) B.sl.defers ?_
  exact⟨_,rfl,B.st.bel.below,rfl⟩
 refine M1.U [.x (rv f e k),.c (.bool false)] [2,3,4,19] ⟨ld iW i117,cl (vN C f e k y),yE5⟩ ?_;intro a2 w2 N;repeat refine XL ?_
 refine Yh N.ev ?_;refine Y2 ?_;repeat refine XL ?_
 by_cases A:b=0
 .obtain rfl:=hb y A;refine N.U [.x (rv i j b),.c (.bool true)] [2,4,22] ⟨ld iW i117,cl (vM C i j b A),yE5⟩ ?_;intro a3 w3 B;repeat refine XL ?_
  refine YH B.ev ?_;repeat refine XL ?_
  refine B.T [.x (rv f e k),.u 2] [] [(2,1,ws f++(ws e++(ws k)))] [ws f++(ws e++(ws k)),ws i++(ws j++(ws b)),ws f++(ws e++(ws k))] [4] ⟨ld iW i117,RG.pt i117,yE5⟩ ?_;intro a4 w4 O;refine Zj<|XR (v:=(rv f e k)) (aH O.st (t:=4) (T:=211) rfl (b:=2) rfl (O.at (s:=(.p 2 0))) iW i117) O.sl.defers ?_
  exact⟨_,rfl,O.st.bel.below,rfl⟩
 refine N.U [.x (rv i j b),.c (.bool false)] [2,3,4,22] ⟨ld iW i117,cl (vN C i j b A),yE5⟩ ?_;intro a3 w3 B;repeat refine XL ?_
 refine Yh B.ev ?_;refine Y2 ?_;repeat refine XL ?_
 refine B.D [.s (.p 0 8),.x (fv k),.s (.p 0 8),.x (fv k),.c (fv c1),.s (.p 1 8),.x (fv b),.s (.p 1 8),.x (fv b),.c (fv c2),.m 3,.m 4,.u 3,.u 4] [(10,RG.z 4),(11,RG.z 4)] [(3,12,ws c1),(4,13,ws c2)] [ws f++(ws e++(ws k)),ws i++(ws j++(ws b)),RG.z 12,ws c1,ws c2] [2,3,4,5,6] ⟨st,ld aQ aJ,st,ld aQ aJ,cl ((aU C k k).e h7),st,ld aQ aJ,st,ld aQ aJ,cl ((aU C b b).e hg),mk 3 209,mk 4 209,RG.pt aJ,RG.pt aJ,yE5⟩ ?_;intro j4 i4 a4 w4 O;repeat refine XL ?_
 refine O.D [.s (.p 0 0),.x (fv f),.x (fv c2),.c (fv p),.s (.p 1 0),.x (fv i),.x (fv c1),.c (fv r),.m 5,.m 6,.u 5,.u 6] [(8,RG.z 4),(9,RG.z 4)] [(5,10,ws p),(6,11,ws r)] [ws f++(ws e++(ws k)),ws i++(ws j++(ws b)),RG.z 12,ws c1,ws c2,ws p,ws r] [2,3,4,5,6,7,8] ⟨st,ld aQ aJ,ld aQ aJ,cl ((aU C f c2).e h8),st,ld aQ aJ,ld aQ aJ,cl ((aU C i c1).e hi),mk 5 209,mk 6 209,RG.pt aJ,RG.pt aJ,yE5⟩ ?_;intro j5 i5 a5 w5 M5;repeat refine XL ?_
 refine M5.D [.s (.p 0 4),.x (fv e),.x (fv c2),.c (fv c5),.s (.p 1 8),.x (fv b),.c (fv t),.s (.p 1 4),.x (fv j),.x (fv c1),.c (fv c7),.s (.p 0 8),.x (fv k),.c (fv u),.m 7,.m 8,.u 7,.u 8] [(14,RG.z 4),(15,RG.z 4)] [(7,16,ws t),(8,17,ws u)] [ws f++(ws e++(ws k)),ws i++(ws j++(ws b)),RG.z 12,ws c1,ws c2,ws p,ws r,ws t,ws u] [2,3,4,7,8,9,10] ⟨st,ld aQ aJ,ld aQ aJ,cl ((aU C e c2).e hl),st,ld aQ aJ,cl ((aU C c5 b).e hk),st,ld aQ aJ,ld aQ aJ,cl ((aU C j c1).e h6),st,ld aQ aJ,cl ((aU C c7 k).e h9),mk 7 209,mk 8 209,RG.pt aJ,RG.pt aJ,yE5⟩ ?_;intro j6 i6 a6 w6 M6;repeat refine XL ?_
 by_cases E:cO f b=cO i k/\eO e b=eO j k
 .have hR:=hc y A E;obtain⟨hx,D⟩:=E;obtain⟨m,J⟩:∃c,c=twX f e:=⟨_,rfl⟩
  obtain⟨d,z⟩:∃c,c=twY f e:=⟨_,rfl⟩
  obtain⟨g,a⟩:∃c,c=twZ e k:=⟨_,rfl⟩
  obtain rfl:R=rv m d g:=hR.trans (by subst_vars;rfl);refine M6.U [.x (fv p),.x (fv r),.x (.bool true),.x (.bool true),.x (fv t),.x (fv u),.x (.bool true),.x (.bool true)] [2,4,63] ⟨ld aQ aJ,ld aQ aJ,aO rfl .eql (T:=209) 209 (t1:=56) (t2:=57) (v1:=(fv p)) (v2:=(fv r)) (v:=(.bool true)) rfl rfl sx sx (λw=>kR) (G5 C (by subst_vars;exact hx)),st,ld aQ aJ,ld aQ aJ,aO rfl .eql (T:=209) 209 (t1:=60) (t2:=61) (v1:=(fv t)) (v2:=(fv u)) (v:=(.bool true)) rfl rfl sx sx (λw=>kR) (G5 C (by subst_vars;exact D)),st,yE5⟩ ?_;intro a7 w7 T;repeat refine XL ?_
  refine YH T.ev ?_;repeat refine XL ?_
  refine T.T [.x (rv f e k),.c (rv m d g),.u 2] [] [(2,2,ws m++(ws d++(ws g)))] [ws f++(ws e++(ws k)),ws i++(ws j++(ws b)),ws m++(ws d++(ws g)),ws c1,ws c2,ws p,ws r,ws t,ws u] [4] ⟨ld iW i117,cl ((FU C f e k).e3 J z a),RG.pt i117,yE5⟩ ?_;intro a8 w8 Q;refine Zj<|XR (v:=(rv m d g)) (aH Q.st (t:=4) (T:=211) rfl (b:=2) rfl (Q.at (s:=(.p 2 0))) iW i117) Q.sl.defers ?_
  exact⟨_,rfl,Q.st.bel.below,rfl⟩
 have hR:=hd y A E;obtain⟨m,J⟩:∃c,c=r-p:=⟨_,rfl⟩
 obtain⟨d,z⟩:∃c,c=u-t:=⟨_,rfl⟩
 obtain⟨g,a⟩:∃c,c=m*m:=⟨_,rfl⟩
 obtain⟨o,h4⟩:∃c,c=g*m:=⟨_,rfl⟩
 obtain⟨n,Y⟩:∃c,c=g*p:=⟨_,rfl⟩
 obtain⟨I,h3⟩:∃c,c=d*d:=⟨_,rfl⟩
 obtain⟨H,S⟩:∃c,c=I-o:=⟨_,rfl⟩
 obtain⟨G,h0⟩:∃c,c=dbl n:=⟨_,rfl⟩
 obtain⟨l,V⟩:∃c,c=H-G:=⟨_,rfl⟩
 obtain⟨K,Z⟩:∃c,c=n-l:=⟨_,rfl⟩
 obtain⟨M,W⟩:∃c,c=d*K:=⟨_,rfl⟩
 obtain⟨L,X⟩:∃c,c=o*t:=⟨_,rfl⟩
 obtain⟨q,h1⟩:∃c,c=M-L:=⟨_,rfl⟩
 obtain⟨F,h2⟩:∃c,c=k*b:=⟨_,rfl⟩
 obtain⟨x,U⟩:∃c,c=F*m:=⟨_,rfl⟩
 obtain rfl:R=rv l q x:=hR.trans (by subst_vars;rfl);by_cases hx:cO f b=cO i k
 case' pos =>
  have D:¬eO e b=eO j k:=λh=>E ⟨hx,h⟩
  refine M6.U [.x (fv p),.x (fv r),.x (.bool true),.x (.bool true),.x (fv t),.x (fv u),.x (.bool false),.x (.bool false)] [2,3,4,7,8,9,10,63] ⟨ld aQ aJ,ld aQ aJ,aO rfl .eql (T:=209) 209 (t1:=56) (t2:=57) (v1:=(fv p)) (v2:=(fv r)) (v:=(.bool true)) rfl rfl sx sx (λw=>kR) (G5 C (by subst_vars;exact hx)),st,ld aQ aJ,ld aQ aJ,aO rfl .eql (T:=209) 209 (t1:=60) (t2:=61) (v1:=(fv t)) (v2:=(fv u)) (v:=(.bool false)) rfl rfl sx sx (λw=>kR) (LV C (by subst_vars;exact D)),st,yE5⟩ ?_
 case' neg =>
  refine M6.u [.x 56 [] (fv p),.x 57 [] (fv r),.x 58 [(56,0),(57,1)] (.bool false),.x 59 [(58,2)] (.bool false),⟨some 60,[],.v ZB,.pass⟩,⟨some 61,[],.v ZB,.pass⟩,⟨some 62,[],.v ZB,.pass⟩,.x 63 [(59,3),(62,6)] (.bool false)] [(2,.p 0 0),(3,.p 1 0),(4,.p 2 0),(7,.p 5 0),(8,.p 6 0),(9,.p 7 0),(10,.p 8 0),(63,.v (.bool false))] ⟨ld aQ aJ,ld aQ aJ,aO rfl .eql (T:=209) 209 (t1:=56) (t2:=57) (v1:=(fv p)) (v2:=(fv r)) (v:=(.bool false)) rfl rfl sx sx (λw=>kR) (LV C (by subst_vars;exact hx)),st,dD rfl rfl,dD rfl rfl,dD rfl rfl,st,yE5⟩ ?_
 all_goals
  intro a7 w7 T;repeat refine XL ?_
  refine Yh T.ev ?_;refine Y2 ?_;repeat refine XL ?_
  refine T.D [.x (fv r),.x (fv p),.c (fv m),.x (fv u),.x (fv t),.c (fv d),.m 9,.m 10,.u 9,.u 10] [(6,RG.z 4),(7,RG.z 4)] [(9,8,ws m),(10,9,ws d)] [ws f++(ws e++(ws k)),ws i++(ws j++(ws b)),RG.z 12,ws c1,ws c2,ws p,ws r,ws t,ws u,ws m,ws d] [2,3,4,7,9,11,12] ⟨ld aQ aJ,ld aQ aJ,cl ((fF C r p).e J),ld aQ aJ,ld aQ aJ,cl ((fF C u t).e z),mk 9 209,mk 10 209,RG.pt aJ,RG.pt aJ,yE5⟩ ?_;intro j8 i8 a8 w8 Q;repeat refine XL ?_
  refine Q.T [.x (fv m),.x (fv m),.c (fv g),.m 11,.u 11] [(3,RG.z 4)] [(11,4,ws g)] [ws f++(ws e++(ws k)),ws i++(ws j++(ws b)),RG.z 12,ws c1,ws c2,ws p,ws r,ws t,ws u,ws m,ws d,ws g] [2,3,4,7,9,11,12,13] ⟨ld aQ aJ,ld aQ aJ,cl ((aU C m m).e a),mk 11 209,RG.pt aJ,yE5⟩ ?_;intro j9 a9 w9 M9;repeat refine XL ?_
  refine M9.D [.x (fv g),.x (fv m),.c (fv o),.x (fv g),.x (fv p),.c (fv n),.m 12,.m 13,.u 12,.u 13] [(6,RG.z 4),(7,RG.z 4)] [(12,8,ws o),(13,9,ws n)] [ws f++(ws e++(ws k)),ws i++(ws j++(ws b)),RG.z 12,ws c1,ws c2,ws p,ws r,ws t,ws u,ws m,ws d,ws g,ws o,ws n] [2,3,4,9,11,12,14,15] ⟨ld aQ aJ,ld aQ aJ,cl ((aU C g m).e h4),ld aQ aJ,ld aQ aJ,cl ((aU C g p).e Y),mk 12 209,mk 13 209,RG.pt aJ,RG.pt aJ,yE5⟩ ?_;intro hn ht hp hu he;repeat refine XL ?_
  refine he.D [.x (fv d),.x (fv d),.c (fv I),.x (fv o),.c (fv H),.x (fv n),.c (fv G),.c (fv l),.m 14,.u 14] [(8,RG.z 4)] [(14,9,ws l)] [ws f++(ws e++(ws k)),ws i++(ws j++(ws b)),RG.z 12,ws c1,ws c2,ws p,ws r,ws t,ws u,ws m,ws d,ws g,ws o,ws n,ws l] [2,3,4,9,11,12,14,15,16] ⟨ld aQ aJ,ld aQ aJ,cl ((aU C d d).e h3),ld aQ aJ,cl ((fF C I o).e S),ld aQ aJ,cl ((gI C n).e h0),cl ((fF C H G).e V),mk 14 209,RG.pt aJ,yE5⟩ ?_;intro hr k1 hw h5;repeat refine XL ?_
  refine h5.D [.x (fv d),.x (fv n),.x (fv l),.c (fv K),.c (fv M),.x (fv o),.x (fv t),.c (fv L),.c (fv q),.m 15,.u 15] [(9,RG.z 4)] [(15,10,ws q)] [ws f++(ws e++(ws k)),ws i++(ws j++(ws b)),RG.z 12,ws c1,ws c2,ws p,ws r,ws t,ws u,ws m,ws d,ws g,ws o,ws n,ws l,ws q] [2,3,4,11,16,17] ⟨ld aQ aJ,ld aQ aJ,ld aQ aJ,cl ((fF C n l).e Z),cl ((aU C d K).e W),ld aQ aJ,ld aQ aJ,cl ((aU C o t).e X),cl ((fF C M L).e h1),mk 15 209,RG.pt aJ,yE5⟩ ?_;intro hq hs hm hj;repeat refine XL ?_
  refine hj.D [.x (fv l),.x (fv q),.s (.p 0 8),.x (fv k),.s (.p 1 8),.x (fv b),.c (fv F),.x (fv m),.c (fv x),.x (rv l q x),.u 2] [] [(2,10,ws l++(ws q++(ws x)))] [ws f++(ws e++(ws k)),ws i++(ws j++(ws b)),ws l++(ws q++(ws x)),ws c1,ws c2,ws p,ws r,ws t,ws u,ws m,ws d,ws g,ws o,ws n,ws l,ws q] [4] ⟨ld aQ aJ,ld aQ aJ,st,ld aQ aJ,st,ld aQ aJ,cl ((aU C k b).e h2),ld aQ aJ,cl ((aU C F m).e U),st,RG.pt i117,yE5⟩ ?_;intro hz k0 D;refine Zj<|XR (v:=(rv l q x)) (aH D.st (t:=4) (T:=211) rfl (b:=2) rfl (D.at (s:=(.p 2 0))) iW i117) D.sl.defers ?_
  exact⟨_,rfl,D.st.bel.below,rfl⟩
abbrev T3(P:Nat):=Fin P × Fin P × Fin P
abbrev tv(t:T3 P):XG:=rv t.1 t.2.1 t.2.2
abbrev tw(t:T3 P):List XG:=ws t.1++(ws t.2.1++ws t.2.2)
def JacT(t:T3 P)(p:EC.Pt P):Prop:=Jac t.1 t.2.1 t.2.2 p/\On p
def twJ(t:T3 P):T3 P:=(twX t.1 t.2.1,twY t.1 t.2.1,twZ t.2.1 t.2.2)
def plJ(a b:T3 P):T3 P:=
 if a.2.2=0 then b else if b.2.2=0 then a else
 if cO a.1 b.2.2=cO b.1 a.2.2/\eO a.2.1 b.2.2=eO b.2.1 a.2.2 then twJ a else
 (plX (cO a.1 b.2.2) (eO a.2.1 b.2.2) (cO b.1 a.2.2) (eO b.2.1 a.2.2),plY (cO a.1 b.2.2) (eO a.2.1 b.2.2) (cO b.1 a.2.2) (eO b.2.1 a.2.2),plZ a.2.2 b.2.2 (cO a.1 b.2.2) (cO b.1 a.2.2))
def opJ(t:T3 P):T3 P:=(t.1,0-t.2.1,t.2.2)
def raJ(x y:Fin P):T3 P:=if x=0/\y=0 then(0,0,0) else(x,y,1)
def PP(C:Fld P)(t:T3 P):Gives 113 #[tv t] (tv (twJ t)):=FU C t.1 t.2.1 t.2.2
def PY(C:Fld P)(a b:T3 P):Gives 114 #[tv a,tv b] (tv (plJ a b)):=by
 obtain⟨j,f,e⟩:=a;obtain⟨g,d,i⟩:=b;exact Iu C j f e g d i _ (λh=>by unfold plJ;rw[yE3 h]) (λk c=>by unfold plJ;rw[yE4 k,yE3 c]) (λk c h=>by unfold plJ;rw[yE4 k,yE4 c,yE3 h];rfl) (λk c h=>by unfold plJ;rw[yE4 k,yE4 c,yE4 h])
def UA(C:Fld P)(t:T3 P):Gives 173 #[tv t] (tv (opJ t)):=EF C t.1 t.2.1 t.2.2
def Up{x y:Fin P}(C:Fld P):Gives 167 #[pv x y] (tv (raJ x y)):=by
 unfold raJ;by_cases k:x=0/\y=0
 .rw[yE3 k];exact Im C x y k
 .rw[yE4 k];exact Io C x y k
def Uq(C:Fld P)(t:T3 P):Gives 116 #[tv t] (pv (t.1*(inv t.2.2*inv t.2.2)) (t.2.1*(inv t.2.2*inv t.2.2)*inv t.2.2)):=Oj C t.1 t.2.1 t.2.2
def JacT.twice(C:Fld P){t:T3 P}{p:EC.Pt P}(h:JacT t p):JacT (twJ t) (EC.add p p):=⟨h.1.twice C.cur h.2,C.cur.on h.2 h.2⟩
def JacT.plus(C:Fld P){a b:T3 P}{p q:EC.Pt P}(h:JacT a p)(k:JacT b q):JacT (plJ a b) (EC.add p q):=by
 refine⟨?_,C.cur.on h.2 k.2⟩;obtain⟨n,l,g⟩:=a;obtain⟨m,j,i⟩:=b;unfold plJ;by_cases d:g=0
 .rw[yE3 d];obtain rfl:=h.1.zero C.cur d;exact k.1
 .rw[yE4 d];by_cases c:i=0
  .rw[yE3 c];obtain rfl:=k.1.zero C.cur c;rw[bM];exact h.1
  .rw[yE4 c];rcases h.1.plus C.cur h.2 k.1 k.2 d c with⟨f,e,e3⟩|⟨f,e⟩
   .rw[yE3 ⟨f,e⟩,e3];exact h.1.twice C.cur h.2
   .rw[yE4 f];exact e
def JacT.neg{t:T3 P}{p:EC.Pt P}(h:JacT t p):JacT (opJ t) (neg p):=⟨h.1.neg,cE h.2⟩
def PV(C:Fld P){x y:Fin P}{p:EC.Pt P}(h:Pair x y p)(b:On p):JacT (raJ x y) p:=by
 refine⟨?_,b⟩;unfold raJ;by_cases k:x=0/\y=0
 .obtain rfl:=h.nothing C.cur b k;rw[yE3 k];rfl
 .rw[yE4 k];exact h.jac C.cur k
def JacT.pair(C:Fld P){t:T3 P}{p:EC.Pt P}(h:JacT t p):Pair (t.1*(inv t.2.2*inv t.2.2)) (t.2.1*(inv t.2.2*inv t.2.2)*inv t.2.2) p:=h.1.pair C.cur
def JacT.none:JacT ((0,0,0):T3 P) .none:=⟨rfl,jD⟩
end
namespace DG
def nK(d:Nat->Int):Nat->Int
 | 0=>0
 | k+1=>nK d k+d k*2^k
def upd(d:Nat->Int)(i:Nat)(v:Int):Nat->Int:=λj=>if j=i then v else d j
def zJ{d e:Nat->Int}:∀k,(∀j,j<k->d j=e j)->nK d k=nK e k
 | 0,_=>rfl
 | k+1,h=>by
  show nK d k+d k*2^k=nK e k+e k*2^k;rw[zJ k λj b=>h j oM,h k oM]
def zI{i:Nat}{d:Nat->Int}(h:∀j,i<=j->d j=0):∀k,nK d (i+k)=nK d i
 | 0=>rfl
 | k+1=>by
  show nK d (i+k)+d (i+k)*2^(i+k)=_;rw[h (i+k) oM,yCp,yCE,zI h k]
def upd_same(d:Nat->Int)(i:Nat)(v:Int):upd d i v i=v:=yE3 rfl
def jI{d:Nat->Int}{i j:Nat}{v:Int}(h:j≠i):upd d i v j=d j:=yE4 h
def LY{i:Nat}{v:Int}{d:Nat->Int}(h:∀j,i<=j->d j=0)(k:Nat):nK (upd d i v) (i+1+k)=nK d i+v*2^i:=by
 rw[zI (i:=(i+1)) (λj b=>by rw[jI oM];exact h j oM) k];show nK (upd d i v) i+upd d i v i*2^i=_;rw[upd_same,zJ i λj b=>jI oM]
structure DI(n:Nat)(d:Nat->Int)(i c:Nat):Prop where
 hc:c<=1
 hz:∀j,i<=j->d j=0
 hw:∀j,257<=j->d j=0
 ho:∀j,d j=0\/(d j%2=1/\-15<=d j/\d j<=15)
 hs:(n:Int)=nK d i+((n/2^i+c:Nat):Int)*2^i
 he:257<=i->n/2^i+c=0
def DI.start(n:Nat):DI n (λ_=>0) 0 0:=by
 refine⟨dC,λ_ _=>rfl,λ_ _=>rfl,λ_=>Yk rfl,?_,λh=>oM⟩;rw[yBA,yEJ];show(n:Int)=0+((n+0:Nat):Int)*1;omega
def high{n i:Nat}(k:n<2^256)(b:256<=i):n/2^i=0:=
 yAA (XI k (Zb dC b))
def DI.skip{n i c:Nat}{d:Nat->Int}(h:DI n d i c)(g:n<2^256)(l:i<257)(f:n/2^i%2=c):DI n d (i+1) c:=by
 have k:n/2^(i+1)=n/2^i/2:=by rw[Zr,yAE]
 refine⟨h.hc,λj m=>h.hz j oM,h.hw,h.ho,?_,λb=>?_⟩
 .rw[h.hs];show _=nK d i+d i*2^i+_;rw[h.hz i (XH _),yCp,yCE,k,show n/2^i+c=(n/2^i/2+c)*2 by have:=h.hc;omega];rw[show(2:Int)^(i+1)=2^i*2 by rw[yEz]];generalize (2:Int)^i=t;rw[yAx,yC1,yCq (2:Nat) t];rfl
 .have o:i=256:=oM;have e:n/2^i=0:=high g oM;rw[k,e];rw[e]at f;omega
def DI.take{n i c:Nat}{d:Nat->Int}(h:DI n d i c)(p:n<2^256)(r:i<257)(l:n/2^i%2≠c):
 DI n (upd d i (((n/2^i%32+c:Nat):Int)-32*(((n/2^i%32+c)/16:Nat):Int))) (i+5) ((n/2^i%32+c)/16):=by
 have k:n/2^(i+5)=n/2^i/32:=by rw[yA9,yAE]
 have s:=h.hc;have b:(n/2^i%32+c)%2=1:=oM;have f:n/2^i%32+c<32:=oM;refine⟨oM,λj e=>?_,λj e=>?_,λj=>?_,?_,λg=>?_⟩
 .rw[jI oM];exact h.hz j oM
 .rw[jI oM];exact h.hw j e
 .by_cases e:j=i
  .subst e;rw[upd_same];right;omega
  .rw[jI e];exact h.ho j
 .rw[show i+5=i+1+4 by omega,LY h.hz 4,show i+1+4=i+5 by omega,h.hs,Int.add_assoc]
  congr 1
  rw[k,Int.pow_add,show(2:Int)^5=32 by decide,<-yCq (32:Int),<-yC1,<-yEL]
  congr 1
  omega
 .have q:n/2^i<16:=by
   rw[Nat.div_lt_iff_lt_mul (yAJ dC)];refine XI p ?_
   calc 2^256=16*2^252:=dK
    _<=16*2^i:=ZP (XH _) (Zb dC oM)
  rw[k];generalize n/2^i=m at q l b f⊢;rw[Ya (show m<32 by omega)]at b⊢;have o:m+c<16:=oM;rw[yAA o,yAA (show m<32 by omega)]
def DI.all{n i c:Nat}{d:Nat->Int}(h:DI n d i c)(b:257<=i):(n:Int)=nK d 257:=by
 have k:=h.hs;rw[h.he b,ZG,yCp,yCE]at k;rw[k,show i=257+(i-257) by omega,zI h.hw]
def hor(d:Nat->Int):Nat->Int
 | 0=>0
 | k+1=>2*hor d k+d (256-k)
def GQ(d:Nat->Int):∀k,k<=257->hor d k*2^(257-k)+nK d (257-k)=nK d 257
 | 0,_=>by show 0*_+_=_;rw[yCp,Int.zero_add]
 | k+1,hk=>by
  rw[<-GQ d k oM];show(2*hor d k+d (256-k))*2^(257-(k+1))+nK d (257-(k+1))=_;rw[show 257-(k+1)=256-k by omega,show 257-k=(256-k)+1 by omega];show _=hor d k*2^(256-k+1)+(nK d (256-k)+d (256-k)*2^(256-k));rw[yEz];generalize (2:Int)^(256-k)=t;generalize hor d k=a;rw[yEL,yCq t 2,<-yC1,yCq a 2];omega
def OL{n i c:Nat}{d:Nat->Int}(h:DI n d i c)(b:257<=i):hor d 257=(n:Int):=by
 have k:=GQ d 257 (XH _);rw[yBm]at k;rw[h.all b,<-k];show hor d 257=hor d 257*1+0;omega
end DG
section
variable {P:Nat}[NeZero P]{N:Nat}
def MD{i:Nat}(k o:Nat)(b:i<257)(w:XF):(YV 214 (oZ k o) (iZ i)).run prog w=.ok (oZ k (o+i)) w:=by
 have c:¬(i:Int)<0:=oM;have d:(i:Int)<257:=oM;go_simp
def Tq{k i:Nat}{w:XF}(b:i<257):(YV 214 (jZ k) (iZ i)).run prog w=.ok (oZ k i) w:=by
 rw[MD k 0 b,XQ]
def Ht{k o i:Nat}{w:XF}(b:i<8):(YV 212 (oZ k o) (iZ i)).run prog w=.ok (oZ k (o+12*i)) w:=by
 have c:¬(i:Int)<0:=oM;have d:(i:Int)<8:=oM;go_simp
def ME{k o i:Nat}{w:XF}(b:i<8):(YV 212 (oZ k o) (.int .i8 i)).run prog w=.ok (oZ k (o+12*i)) w:=by
 have c:¬(i:Int)<0:=oM;have d:(i:Int)<8:=oM;go_simp
def Hu{k n c i:Nat}{w:XF}(b:i<n):(YV 208 (sZ k n c) (iZ i)).run prog w=.ok (oZ k (353*i)) w:=by
 go_simp
def VK{k o n c i:Nat}{w:XF}(b:i<n):(YV 127 (qZ k o n c) (iZ i)).run prog w=.ok (oZ k (o+4*i)) w:=by
 go_simp
def Qw{k o n c i:Nat}{w:XF}(b:i<n):(YV 138 (qZ k o n c) (iZ i)).run prog w=.ok (oZ k (o+8*i)) w:=by
 go_simp
def Qi{d:Int}(hd:-15<=d/\d<=15)(w:XF):(yEt .neg (.int .i8 d)).run prog w=.ok (.int .i8 (-d)) w:=by
 have h:=yCI (-d) oM;go_simp
def Qh{k:Nat}(c:k<8)(w:XF):(binOp .quo 213 (.int .i8 (2*(k:Int)+1)) (.int .i8 2)).run prog w=.ok (.int .i8 k) w:=by
 have b:(2*(k:Int)+1).tdiv 2=(k:Int):=by rw[yAS oM];omega
 have h:=yCI (k:Int) oM;go_simp
def Wu{g:Nat}(k:g<32)(w:XF):(binOp .shr 3 (iZ g) (uZ 4)).run prog w=.ok (iZ ((g/16:Nat):Int)) w:=by
 go_simp
def Wv{g:Nat}(k:g<32)(w:XF):(binOp .shl 3 (iZ g) (uZ 5)).run prog w=.ok (iZ (32*(g:Int))) w:=by
 have h:=Zv (32*(g:Int)) oM;have b:(g:Int)*32=32*(g:Int):=oM;go_simp
def Ee{a b:Int}(c:-1000<=a/\a<=1000)(k:-1000<=b/\b<=1000)(w:XF):(binOp .sub 3 (iZ a) (iZ b)).run prog w=.ok (iZ (a-b)) w:=by
 have h:=Zv (a-b) oM;go_simp
def wM{a b:Nat}(c:a<=1000000)(k:b<=1000000)(w:XF):(binOp .add 3 (iZ a) (iZ b)).run prog w=.ok (iZ ((a+b:Nat):Int)) w:=by
 have h:=Zv ((a:Int)+(b:Int)) oM;go_simp
def cv8{v:Int}(hv:-15<=v/\v<=15)(w:XF):(convert 3 213 (iZ v)).run prog w=.ok (.int .i8 v) w:=by
 have h:=yCI v oM;go_simp
def Vk{b c:Nat}(e:b=c)(w:XF):(binOp .eql 3 (iZ b) (iZ c)).run prog w=.ok tZ w:=by
 subst e;go_simp
def Vl{b c:Nat}(e:¬b=c)(w:XF):(binOp .eql 3 (iZ b) (iZ c)).run prog w=.ok fZ w:=by
 have h:¬(b:Int)=(c:Int):=oM;go_simp
def iD{i n:Nat}(e:i<n)(w:XF):(binOp .lss 3 (iZ i) (iZ n)).run prog w=.ok tZ w:=by
 go_simp
def oJ{i n:Nat}(e:¬i<n)(w:XF):(binOp .lss 3 (iZ i) (iZ n)).run prog w=.ok fZ w:=by
 go_simp
def Nb{n f c:Nat}(b:n<top)(hf:f<=256)(d:c<=32):Gives 198 #[nv n,iZ f,iZ c] (iZ ((n/2^f%2^c:Nat):Int)):=λw =>
 (DZ _ n f c (xE b) hf d w).mono (by rintro e w' ⟨v,rfl,k,rfl⟩;exact⟨_,rfl,k,rfl⟩)
def dg(d:Nat->Int):List XG:=(List.range 257).map (λj=>Y1 .i8 (d j))
def dv(d:Nat->Int):XG:=.agg (dg d).toArray
def bT(d:Nat->Int):(dg d).length=257:=by unfold dg;rw[X7,List.length_range]
def Mc{d:Nat->Int}{j:Nat}(k:j<257):(dg d)[j]? = some (.int .i8 (d j)):=by
 unfold dg;rw[List.getElem?_map,List.getElem?_range k];rfl
def S3{d:Nat->Int}{i:Nat}{v:Int}:dg (DG.upd d i v)=(dg d).set i (.int .i8 v):=by
 apply yBK;intro j;rw[List.getElem?_set];by_cases b:j<257
 .rw[Mc b,Mc b];by_cases k:i=j
  .subst k;rw[yE3 rfl,yE3 (by rw[bT];exact b),DG.upd_same]
  .rw[yE4 k,DG.jI (λh=>k h.symm)]
 .rw[ZR (by rw[bT];omega)];by_cases k:i=j
  .rw[yE3 k,yE4 (by rw[bT];omega)]
  .rw[yE4 k,ZR (by rw[bT];omega)]
def Mb{d:Nat->Int}:(dg d).all (·.oneCell')=true:=by
 unfold dg;rw[List.all_map];exact List.all_eq_true.2 λ_ _=>rfl
def SZ{d:Nat->Int}:((dg d).drop 0).take (dg d).length=dg d:=by rw[List.drop_zero,List.take_length]
def dgo(n:Nat):Nat->(Nat->Int)->Nat->Nat->(Nat->Int)
 | 0,d,_,_=>d
 | f+1,d,i,c=>if i<257 then(if n/2^i%2=c then dgo n f d (i+1) c else
  dgo n f (DG.upd d i (((n/2^i%32+c:Nat):Int)-32*(((n/2^i%32+c)/16:Nat):Int))) (i+5) ((n/2^i%32+c)/16)) else d
def G8{i:Nat}(n:Nat)(f:Nat)(d:Nat->Int)(c:Nat)(h:¬i<257):dgo n f d i c=d:=by
 cases f with
 | zero=>rfl
 | succ f=>rw[dgo,yE4 h]
def Fa{n:Nat}(e:n<2^256):∀(f:Nat) (d:Nat->Int) (i c:Nat),DG.DI n d i c->257<=i+f->∃g j,257<=g/\DG.DI n (dgo n f d i c) g j
 | 0,d,i,c,h,hf=>⟨i,c,oM,h⟩
 | f+1,d,i,c,h,hf=>by
  by_cases b:i<257
  .rw[dgo,yE3 b];by_cases k:n/2^i%2=c
   .rw[yE3 k];exact Fa e f d (i+1) c (h.skip e b k) oM
   .rw[yE4 k];exact Fa e f _ (i+5) _ (h.take e b k) oM
  .rw[G8 n _ d c b];exact⟨i,c,oM,h⟩
def fM(n:Nat):Nat->Int:=dgo n 257 (λ_=>0) 0 0
def B9{n:Nat}(k:n<2^256):∃i c,257<=i/\DG.DI n (fM n) i c:=Fa k 257 _ 0 0 (DG.DI.start n) oM
def u138:yZ 214:=yQ
def i138:gZ 214 257:=gQ
def Xf:gZ 213 1:=gQ
def TY:wZ 213:=wQ
def Qy(w:XF):(Instr.alloc 214 true (.tuple #[])).run prog w=.ok (jZ w.heap.size) (w.alloc (.cells (dg (λ_=>0)).toArray 214)):=kR
def Ma{n:Nat}(hn:n<top):Gives 166 #[nv n] (dv (fM n)):=by
 intro w;go_enter func166,ntmps166;refine Jr (v0:=nv n) (n:=33) kR kR kR ?_;intro a0 h2 f0;have Y:=RG.St.begin w;have t:RG.M w w.heap.size [] 33 [] [] [(0,.v (nv n))] a0 _:=⟨Y,h2,⟨f0,yE5⟩⟩
 repeat apply XL
 refine t.T [.m 0,.m 1] [(0,wn n),(1,dg (λ_=>0))] [] [wn n,dg (λ_=>0)] [1,2] ⟨mk 0 42,rD 1 rfl rfl rfl (T:=214) rfl Qy,yE5⟩ ?_;intro V U a1 w1 j;repeat apply XL
 refine j.T [.m 2] [(0,dg (λ_=>0))] [] [wn n,dg (λ_=>0),dg (λ_=>0)] [1,2,3] ⟨rD 2 rfl rfl rfl (T:=214) rfl Qy,yE5⟩ ?_;intro W a2 w2 k;repeat apply XL
 refine k.U [.x (iZ 0)] [1,2,3,4] ⟨st,yE5⟩ ?_;intro r w3 f;repeat apply XL
 refine f.U [.x (iZ 0)] [1,2,3,4,5] ⟨st,yE5⟩ ?_;intro y w4 l;have J:y.tmps[1]? = some (jZ V):=l.at (s:=(.p 0 0));have N:y.tmps[2]? = some (jZ U):=l.at (s:=(.p 1 0));have G:y.tmps[3]? = some (jZ W):=l.at (s:=(.p 2 0));have T:y.tmps[4]? = some (iZ 0):=l.at (s:=(.v (iZ 0)));have O:y.tmps[5]? = some (iZ 0):=l.at (s:=(.v (iZ 0)));repeat apply XL
 refine Zk<|yBL (λm a wr=>∃(d:Nat->Int) (i c:Nat),c<=1/\i<=261/\257<=i+m/\dgo n m d i c=fM n/\Sl a 33/\a.tmps[1]? = some (jZ V)/\a.tmps[2]? = some (jZ U)/\a.tmps[3]? = some (jZ W)/\a.tmps[4]? = some (iZ c)/\a.tmps[5]? = some (iZ i)/\RG.St w w.heap.size [] [wn n,dg (λ_=>0),dg d] [V,U,W] wr) 257 ⟨λ_=>0,0,0,oM,oM,oM,rfl,l.sl,J,N,G,T,O,l.st⟩ ?_
 intro m a wr;rintro⟨d,i,c,hc,h4,hm,hd,sl,x,f2,f3,f4,Z,u⟩;obtain⟨b,Q⟩:=vH (n/2^i%2);obtain⟨e,H⟩:=vH (n/2^i%32);obtain⟨g,S⟩:=vH (e+c);obtain⟨v,A⟩:=vH ((g:Int)-32*((g/16:Nat):Int):Int);generalize V=F at x f2 f3 u;generalize U=M at x f2 f3 u;generalize W=I at x f2 f3 u;by_cases q:i<257
 .have B:Gives 198 #[nv n,iZ i,iZ 1] (iZ b):=by rw[<-Q];exact Nb (c:=1) hn oM oM
  have h0:Gives 198 #[nv n,iZ i,iZ 5] (iZ e):=by rw[<-H];exact Nb (c:=5) hn oM oM
  have h1:∃o,m=o+1:=by
   cases m with
   | zero=>exact absurd hm oM
   | succ o=>exact⟨o,rfl⟩
  obtain⟨o,rfl⟩:=h1;rw[dgo,yE3 q,Q,H,S,A]at hd;by_cases X:b=c
  .rw[yE3 X]at hd;have t:RG.M w w.heap.size [] 33 [wn n,dg (λ_=>0),dg d] [F,M,I] [(1,.p 0 0),(2,.p 1 0),(3,.p 2 0),(4,.v (iZ c)),(5,.v (iZ i))] a _:=⟨u,sl,⟨x,f2,f3,f4,Z,yE5⟩⟩
   repeat apply XL
   refine t.U [.x (iZ i),.x tZ] [1,2,3,4,5,8] ⟨st,aN rfl .lss (T:=3) 3 (t1:=7) (v1:=(iZ i)) (v2:=(iZ 257)) (v:=tZ) rfl rfl sx (λw=>kR) (iD (n:=257) q),yE5⟩ ?_;intro a1 w1 j;repeat apply XL
   refine YH j.ev ?_;refine Y2<|XL<|Zk ?_
   repeat apply XL
   refine j.U [.x (nv n),.x (iZ i),.c (iZ b),.x (iZ c),.x tZ] [1,2,3,4,5,15] ⟨ld u85 i85,st,cl B,st,aO rfl .eql (T:=3) 3 (t1:=13) (t2:=14) (v1:=(iZ b)) (v2:=(iZ c)) (v:=tZ) rfl rfl sx sx (λw=>kR) (Vk X),yE5⟩ ?_;intro a2 w2 k;repeat apply XL
   refine YH k.ev ?_;apply wp_exit;dsimp only[Exit.then,yBc];rw[yE3 rfl];repeat apply XL
   refine k.U [.x (iZ i),.x (iZ ((i+1:Nat):Int)),.x (iZ ((i+1:Nat):Int))] [1,2,3,4,5] ⟨st,aN rfl .add (T:=3) 3 (t1:=9) (v1:=(iZ i)) (v2:=(iZ 1)) (v:=(iZ ((i+1:Nat):Int))) rfl rfl sx (λw=>kR) (wM (a:=i) (b:=1) oM oM),st,yE5⟩ ?_;intro r w3 f;have C:r.tmps[1]? = some (jZ F):=f.at (s:=(.p 0 0));have p:r.tmps[2]? = some (jZ M):=f.at (s:=(.p 1 0));have z:r.tmps[3]? = some (jZ I):=f.at (s:=(.p 2 0));have E:r.tmps[4]? = some (iZ c):=f.at (s:=(.v (iZ c)));have D:r.tmps[5]? = some (iZ ((i+1:Nat):Int)):=f.at (s:=(.v (iZ ((i+1:Nat):Int))));show ∃n',_;exact⟨o,yB2 o,d,i+1,c,hc,oM,oM,hd,f.sl,C,p,z,E,D,f.st⟩
  .rw[yE4 X]at hd;have he:e<32:=oM;have h3:g%2=1:=oM;have hg:g<32:=oM;have hv:-15<=v/\v<=15:=oM;have D:∀w,(binOp .add 3 (iZ e) (iZ c)).run prog w=.ok (iZ g) w:=λw=>by rw[wM (a:=e) (b:=c) oM oM,S]
   have R:∀w,(binOp .sub 3 (iZ g) (iZ (32*((g/16:Nat):Int)))).run prog w=.ok (iZ v) w:=λw=>by rw[Ee oM oM,A]
   have t:RG.M w w.heap.size [] 33 [wn n,dg (λ_=>0),dg d] [F,M,I] [(1,.p 0 0),(2,.p 1 0),(3,.p 2 0),(4,.v (iZ c)),(5,.v (iZ i))] a _:=⟨u,sl,⟨x,f2,f3,f4,Z,yE5⟩⟩
   repeat apply XL
   refine t.U [.x (iZ i),.x tZ] [1,2,3,4,5,8] ⟨st,aN rfl .lss (T:=3) 3 (t1:=7) (v1:=(iZ i)) (v2:=(iZ 257)) (v:=tZ) rfl rfl sx (λw=>kR) (iD (n:=257) q),yE5⟩ ?_;intro a1 w1 j;repeat apply XL
   refine YH j.ev ?_;refine Y2<|XL<|Zk ?_
   repeat apply XL
   refine j.U [.x (nv n),.x (iZ i),.c (iZ b),.x (iZ c),.x fZ] [1,2,3,4,5,15] ⟨ld u85 i85,st,cl B,st,aO rfl .eql (T:=3) 3 (t1:=13) (t2:=14) (v1:=(iZ b)) (v2:=(iZ c)) (v:=fZ) rfl rfl sx sx (λw=>kR) (Vl X),yE5⟩ ?_;intro a2 w2 k;repeat apply XL
   refine Yh k.ev ?_;apply Y2;repeat apply XL
   refine k.U [.x (nv n),.x (iZ i),.c (iZ e),.x (iZ c),.x (iZ g),.x (iZ g)] [1,2,3,4,5,6] ⟨ld u85 i85,st,cl h0,st,aO rfl .add (T:=3) 3 (t1:=18) (t2:=19) (v1:=(iZ e)) (v2:=(iZ c)) (v:=(iZ g)) rfl rfl sx sx (λw=>kR) D,st,yE5⟩ ?_;intro r w3 f;repeat apply XL
   refine f.U [.x (iZ g),.x (iZ ((g/16:Nat):Int)),.x (iZ ((g/16:Nat):Int))] [1,2,3,4,5,6] ⟨st,aN rfl .shr (T:=3) 189 (t1:=21) (v1:=(iZ g)) (v2:=(uZ 4)) (v:=(iZ ((g/16:Nat):Int))) rfl rfl sx (λw=>kR) (Wu (g:=g) hg),st,yE5⟩ ?_;intro y w4 l;repeat apply XL
   refine l.T [.x (iZ i),.x (iZ g),.x (iZ ((g/16:Nat):Int)),.x (iZ (32*((g/16:Nat):Int))),.x (iZ v),.x (.int .i8 v),.s (.p 2 i),.u 2] [] [(2,7,dg (DG.upd d i v))] [wn n,dg (λ_=>0),dg (DG.upd d i v)] [1,2,3,4,5] ⟨st,st,st,aN rfl .shl (T:=3) 189 (t1:=25) (v1:=(iZ ((g/16:Nat):Int))) (v2:=(uZ 5)) (v:=(iZ (32*((g/16:Nat):Int)))) rfl rfl sx (λw=>kR) (Wv (g:=(g/16)) oM),aO rfl .sub (T:=3) 3 (t1:=24) (t2:=26) (v1:=(iZ g)) (v2:=(iZ (32*((g/16:Nat):Int)))) (v:=(iZ v)) rfl rfl sx sx (λw=>kR) R,IZ rfl (S:=3) (T:=213) (t:=27) (v:=(iZ v)) (b:=(.int .i8 v)) rfl rfl sx (cv8 (v:=v) hv),aY rfl 214 (t:=3) (u:=23) rfl (.p 2 0) (iv:=(iZ i)) sx sx (λμ w=>Tq (i:=i) q (w:=w)),IY (b:=2) (off:=i) rfl rfl (T:=213) (x:=(.tmp 29)) (y:=(.tmp 28)) (v:=(.int .i8 v)) rfl rfl sx sx (by show i<(dg _).length;rw[bT];exact q) (S3 (d:=d) (i:=i) (v:=v)) Xf rfl rfl,yE5⟩ ?_;intro a5 w5 M5;repeat apply XL
   refine M5.U [.x (iZ i),.x (iZ ((i+4:Nat):Int)),.x (iZ ((i+4:Nat):Int))] [1,2,3,4,5] ⟨st,aN rfl .add (T:=3) 3 (t1:=30) (v1:=(iZ i)) (v2:=(iZ 4)) (v:=(iZ ((i+4:Nat):Int))) rfl rfl sx (λw=>kR) (wM (a:=i) (b:=4) oM oM),st,yE5⟩ ?_;intro a6 w6 M6;repeat apply XL
   refine M6.U [.x (iZ ((i+4:Nat):Int)),.x (iZ ((i+4+1:Nat):Int)),.x (iZ ((i+4+1:Nat):Int))] [1,2,3,4,5] ⟨st,aN rfl .add (T:=3) 3 (t1:=9) (v1:=(iZ ((i+4:Nat):Int))) (v2:=(iZ 1)) (v:=(iZ ((i+4+1:Nat):Int))) rfl rfl sx (λw=>kR) (wM (a:=(i+4)) (b:=1) oM oM),st,yE5⟩ ?_;intro P w7 p;have K:P.tmps[1]? = some (jZ F):=p.at (s:=(.p 0 0));have C:P.tmps[2]? = some (jZ M):=p.at (s:=(.p 1 0));have L:P.tmps[3]? = some (jZ I):=p.at (s:=(.p 2 0));have E:P.tmps[4]? = some (iZ ((g/16:Nat):Int)):=p.at (s:=(.v (iZ ((g/16:Nat):Int))));have z:P.tmps[5]? = some (iZ ((i+4+1:Nat):Int)):=p.at (s:=(.v (iZ ((i+4+1:Nat):Int))));show ∃n',_;exact⟨o,yB2 o,DG.upd d i v,i+5,g/16,oM,oM,oM,hd,p.sl,K,C,L,E,z,p.st⟩
 .have o:d=fM n:=by rw[<-hd,G8 n m d (i:=i) c q]
  have t:RG.M w w.heap.size [] 33 [wn n,dg (λ_=>0),dg d] [F,M,I] [(1,.p 0 0),(2,.p 1 0),(3,.p 2 0),(4,.v (iZ c)),(5,.v (iZ i))] a _:=⟨u,sl,⟨x,f2,f3,f4,Z,yE5⟩⟩
  repeat apply XL
  refine t.U [.x (iZ i),.x fZ] [2,3,8] ⟨st,aN rfl .lss (T:=3) 3 (t1:=7) (v1:=(iZ i)) (v2:=(iZ 257)) (v:=fZ) rfl rfl sx (λw=>kR) (oJ (n:=257) q),yE5⟩ ?_;intro a1 w1 j;repeat apply XL
  refine Yh j.ev ?_;apply wp_exit;dsimp only[Exit.then,yBc];rw[yE3 rfl];repeat apply XL
  refine j.T [.x (dv d),.u 1] [] [(1,1,dg d)] [wn n,dg d,dg d] [2] ⟨qF rfl (b:=2) (off:=0) _ rfl rfl kR (T:=214) (t:=3) rfl (cs:=(dg d)) rfl sx SZ u138 (by rw[bT];exact i138),Mo (b:=1) rfl rfl 214 (x:=(.tmp 2)) (y:=(.tmp 32)) rfl rfl (by show(dg _).length=(dg _).length;rw[bT,bT]) sx sx (by show _=some (dg _).length;rw[bT];exact i138) Mb,yE5⟩ ?_;intro a2 w2 k;refine Zj<|XR (v:=dv d) (aH k.st (t:=2) (T:=214) rfl (b:=1) rfl (k.at (s:=(.p 1 0))) u138 (by rw[bT];exact i138)) k.sl.defers ?_
  exact⟨_,rfl,k.st.bel.below,by rw[o]⟩
omit [NeZero P] in
theorem cJ(t:T3 P):(tw t).length=12:=rfl
omit [NeZero P] in
theorem Ju(t:T3 P):(tw t).all (·.oneCell')=true:=rfl
def od(x y:Fin P):Nat->T3 P
 | 0=>raJ x y
 | q+1=>plJ (od x y q) (twJ (raJ x y))
def R2(C:Fld P){x y:Fin P}{p:EC.Pt P}(h:Pair x y p)(k:On p):∀q,JacT (od x y q) (eG ((2*q+1:Nat):Int) p)
 | 0=>by
  show JacT (raJ x y) (eG 1 p);rw[Cp];exact PV C h k
 | q+1=>by
  have c:=R2 C h k q;have d:=(PV C h k).twice C;have b:=c.plus C d;have e:eG ((2*(q+1)+1:Nat):Int) p=EC.add (eG ((2*q+1:Nat):Int) p) (EC.add p p):=by
   have:EC.add p p=eG 2 p:=by
    rw[show(2:Int)=1+1 by rfl,xM C.cur k,Cp]
   rw[this,<-xM C.cur k]
   congr 1
  rw[e];exact b
structure Fi(x y:Fin P)(D:Nat->Int)(C0:List XG)(off m:Nat)(C:List XG):Prop where
 len:C.length=C0.length
 out:∀j,j<off\/off+353<=j->C[j]? = C0[j]?
 dig:∀j,j<257->C[off+96+j]? = some (.int .i8 (D j))
 odd:∀q j,q<m->j<12->C[off+12*q+j]? = (tw (od x y q))[j]?
def Fi.first{x y:Fin P}{D:Nat->Int}{C0:List XG}{off:Nat}(h:off+353<=C0.length):Fi x y D C0 off 0 (rep C0 (off+96) (dg D)):=by
 have k:off+96+(dg D).length<=C0.length:=by rw[bT];omega
 refine⟨cY k,λj b=>?_,λj b=>?_,λq j c _=>oM⟩
 .rw[RG.rep_at k,yE4 (by rw[bT];omega)]
 .rw[RG.rep_at k,yE3 (by rw[bT];omega),show off+96+j-(off+96)=j by omega,Mc b]
def Fi.next{x y:Fin P}{D:Nat->Int}{C0 C:List XG}{off m:Nat}(h:off+353<=C0.length)(d:Fi x y D C0 off m C)(g:m<8):Fi x y D C0 off (m+1) (rep C (off+12*m) (tw (od x y m))):=by
 have b:=d.len;have c:off+12*m+(tw (od x y m)).length<=C.length:=by rw[cJ];omega
 refine⟨by rw[cY c];exact b,λj k=>?_,λj k=>?_,λq j f k=>?_⟩
 .rw[RG.rep_at c,yE4 (by rw[cJ];omega)];exact d.out j k
 .rw[RG.rep_at c,yE4 (by rw[cJ];omega)];exact d.dig j k
 .rw[RG.rep_at c];by_cases e:q=m
  .subst e;rw[yE3 (by rw[cJ];omega),show off+12*q+j-(off+12*q)=j by omega]
  .rw[yE4 (by rw[cJ];omega)];exact d.odd q j oM k
def Fi.sub{x y:Fin P}{D:Nat->Int}{C0 C:List XG}{off m q:Nat}(h:off+353<=C0.length)(b:Fi x y D C0 off m C)(c:q<m)(d:m<=8):(C.drop (off+12*q)).take (tw (od x y q)).length=tw (od x y q):=
 QW (λj k=>b.odd q j c (by rw[cJ]at k;exact k)) (by rw[cJ];have:=b.len;omega)
def fc(x y:Fin P)(D:Nat->Int)(C0:List XG)(off:Nat):Nat->List XG
 | 0=>rep C0 (off+96) (dg D)
 | m+1=>rep (fc x y D C0 off m) (off+12*m) (tw (od x y m))
def GX{x y:Fin P}{D:Nat->Int}{C0:List XG}{off:Nat}(h:off+353<=C0.length):∀m,m<=8->Fi x y D C0 off m (fc x y D C0 off m)
 | 0,_=>Fi.first h
 | m+1,hm=>(GX h m oM).next h oM
def Fi.uniq{x y:Fin P}{D:Nat->Int}{C0 C c:List XG}{off:Nat}(h:Fi x y D C0 off 8 C)(k:Fi x y D C0 off 8 c):C=c:=by
 apply yBK;intro j;by_cases b:j<off\/off+353<=j
 .rw[h.out j b,k.out j b]
 .by_cases d:j<off+96
  .have e:j=off+12*((j-off)/12)+(j-off)%12:=oM;rw[e,h.odd _ _ oM oM,k.odd _ _ oM oM]
  .have e:j=off+96+(j-off-96):=oM;rw[e,h.dig _ oM,k.dig _ oM]
def SU(F:Fld P){n:Nat}(hn:n<top)(x y:Fin P)(C0:List XG)(k off:Nat)(g:off+353<=C0.length)(w:XF)(hk:k<w.heap.size)(ht:w.there k 0 C0.length)(hr:w.rangeAt k 0 C0):
 ZI prog 112 #[oZ k off,nv n,pv x y] w (Ret λr w'=>(∃C,Fi x y (fM n) C0 off 8 C/\PutTo k C0.length C w w')/\r=.tuple #[]):=by
 obtain⟨D,o⟩:=vH (fM n);have hD:Gives 166 #[nv n] (dv D):=o ▸ Ma hn;obtain⟨s0,e⟩:=vH (raJ x y);have ha:Gives 167 #[pv x y] (tv s0):=e ▸ Up F (x:=x) (y:=y);obtain⟨s2,d⟩:=vH (twJ s0);have hc:Gives 113 #[tv s0] (tv s2):=d ▸ PP F s0;obtain⟨f,u⟩:=vH (rep C0 (off+96) (dg D));have N:off+96+(dg D).length<=C0.length:=by rw[bT];omega
 have h2:=u ▸ RG.rep_at N;have Y:f.length=C0.length:=u ▸ cY N;have F1:Fi x y D C0 off 0 f:=u ▸ Fi.first g;obtain⟨l,b⟩:=vH (rep f (off+0+12*0) (tw s0));have p:off+0+12*0+(tw s0).length<=f.length:=by rw[cJ];omega
 have A:=b ▸ RG.rep_at p;have E:l.length=f.length:=b ▸ cY p;have F2:Fi x y D C0 off 1 l:=by
  have:=F1.next g dC;rw[<-b,<-e];exact this
 have z:(l.drop (off+0+12*0)).take (tw s0).length=tw s0:=by
  have:=F2.sub g (q:=0) dC dC;rw[<-e];exact this
 obtain⟨i,hp⟩:∃i:Nat,i=0:=⟨_,rfl⟩
 obtain⟨s3,-⟩:∃s:T3 P,s=s0:=⟨_,rfl⟩
 obtain⟨H,-⟩:∃s:T3 P,s=s0:=⟨_,rfl⟩
 go_enter func112,ntmps112;refine V0 (v0:=oZ k off) (v1:=nv n) (v2:=pv x y) (n:=43) kR kR kR kR kR ?_;intro a0 he f0 f1 f2;have h8:=RG.St.lent hk hr ht;have M0:RG.M w w.heap.size [k] 43 [C0] [k] [(0,.p 0 off),(1,.v (nv n)),(2,.v (pv x y))] a0 _:=⟨h8,he,⟨f0,f1,f2,yE5⟩⟩
 repeat refine XL ?_
 refine M0.T [.m 1,.m 2] [(0,wn n),(1,ws x++(ws y))] [] [C0,wn n,ws x++(ws y)] [0,4,5] ⟨mk 1 42,mk 2 131,yE5⟩ ?_;intro S L B w1 j;have I:B.tmps[0]? = some (oZ k off):=j.at (s:=(.p 0 off));have h3:B.tmps[4]? = some (jZ S):=j.at (s:=(.p 1 0));have X:B.tmps[5]? = some (jZ L):=j.at (s:=(.p 2 0));have j:RG.M w w.heap.size [k] 43 [C0,wn n,ws x++(ws y)] [k,S,L] [(0,.p 0 off),(4,.p 1 0),(5,.p 2 0)] B _:=⟨j.st,j.sl,⟨I,h3,X,yE5⟩⟩
 repeat refine XL ?_
 refine j.tx [.s 8 [] (.p 0 off),.x 9 [] (nv n),.c 10 [(9,1)] (dv D),.s 11 [(8,0)] (.p 0 off),.s 12 [(11,3)] (.p 0 (off+96)),.u [(12,4),(10,2)] 0] [] [(0,5,f)] [f,wn n,ws x++(ws y)] [(0,.p 0 off),(5,.p 2 0)] kR (congrArg (λn=>[n]) Y) ⟨st,ld u85 i85,cl hD,st,st,fN (b:=0) (off:=(off+96)) rfl _ rfl (T:=214) (x:=(.tmp 12)) (y:=(.tmp 10)) (vs:=(dg D)) rfl rfl sx sx (by show off+96+(dg D).length<=C0.length;rw[bT];omega) h2 (by show _=some (dg _).length;rw[bT];exact i138) Mb,yE5⟩ ?_;intro a2 w2 G;have h5:a2.tmps[0]? = some (oZ k off):=G.at (s:=(.p 0 off));have T:a2.tmps[5]? = some (jZ L):=G.at (s:=(.p 2 0));have G:RG.M w w.heap.size [k] 43 [f,wn n,ws x++(ws y)] [k,S,L] [(0,.p 0 off),(5,.p 2 0)] a2 _:=⟨G.st,G.sl,⟨h5,T,yE5⟩⟩
 repeat refine XL ?_
 refine G.dr kR [.s 13 [] (.p 0 off),.x 14 [] (pv x y),.c 15 [(14,1)] (tv s0),.s 16 [(13,0)] (.p 0 off),.s 17 [(16,3)] (.p 0 (off+0)),.s 18 [(17,4)] (.p 0 ((off+0)+12*0)),.u [(18,5),(15,2)] 0] [] [(0,6,l)] [l,wn n,ws x++(ws y)] [(0,.p 0 off)] kR (congrArg (λn=>[n]) E) ⟨st,ld iM i109,cl ha,st,st,eU rfl 212 (t:=17) (iZ 0) rfl (.p 0 (off+0)) sx (λμ w=>Ht (i:=0) dC (w:=w)),fN (b:=0) (off:=((off+0)+12*0)) rfl _ rfl (T:=211) (x:=(.tmp 18)) (y:=(.tmp 15)) (vs:=(tw s0)) rfl rfl sx sx (by show off+0+12*0+(tw s0).length<=f.length;rw[cJ];omega) A i117 (Ju _),yE5⟩ ?_;intro R w3 t;have v:R.tmps[0]? = some (oZ k off):=t.at (s:=(.p 0 off));have t:RG.M w w.heap.size [k] 43 [l,wn n,ws x++(ws y)] [k,S,L] [(0,.p 0 off)] R _:=⟨t.st,t.sl,⟨v,yE5⟩⟩
 repeat refine XL ?_
 refine t.T [.s (.p 0 off),.s (.p 0 off),.s (.p 0 (off+0)),.s (.p 0 ((off+0)+12*0)),.x (tv s0),.c (tv s2),.m 3,.u 3] [(6,RG.z 12)] [(3,7,tw s2)] [l,wn n,ws x++(ws y),tw s2] [0,6] ⟨st,st,st,eU rfl 212 (t:=21) (iZ 0) rfl (.p 0 (off+0)) sx (λμ w=>Ht (i:=0) dC (w:=w)),qF rfl (b:=0) (off:=((off+0)+12*0)) _ rfl rfl kR (T:=211) (t:=22) rfl (cs:=(tw s0)) rfl sx z iW i117,cl hc,mk 3 211,RG.pt i117,yE5⟩ ?_;intro j4 a4 w4 M4;repeat refine XL ?_
 refine M4.U [.x (iZ 1)] [0,6,7] ⟨st,yE5⟩ ?_;intro a5 w5 Z;have h0:a5.tmps[0]? = some (oZ k off):=Z.at (s:=(.p 0 off));have V:a5.tmps[6]? = some (jZ j4):=Z.at (s:=(.p 3 0));have h1:a5.tmps[7]? = some (iZ 1):=Z.at (s:=(.v (iZ 1)));subst o;subst e;subst d;clear h2 A z Y E N p;repeat refine XL ?_
 refine Zk<|yBL (λm a wr=>∃(i:Nat) (C:List XG),1<=i/\i<=8/\i+m=8/\Fi x y (fM n) C0 off i C/\Sl a 43/\a.tmps[0]? = some (oZ k off)/\a.tmps[6]? = some (jZ j4)/\a.tmps[7]? = some (iZ i)/\RG.St w w.heap.size [k] [C,wn n,ws x++ws y,tw (twJ (raJ x y))] [k,S,L,j4] wr) 7 ⟨1,l,oM,oM,oM,F2,Z.sl,h0,V,h1,Z.st⟩ ?_
 intro m a wr;rintro⟨i,f,hq,hl,hm,O,sl,g0,W,g7,Q⟩;generalize S=k1 at W Q;generalize L=k2 at W Q;generalize j4=k3 at W Q;obtain⟨D,o⟩:=vH (fM n);rw[o]at O;obtain⟨s0,e⟩:=vH (raJ x y);obtain⟨s2,d⟩:=vH (twJ (raJ x y));rw[d]at Q;obtain⟨H,K⟩:=vH (od x y (i-1));obtain⟨s3,J⟩:=vH (plJ H s2);have h7:Gives 114 #[tv H,tv s2] (tv s3):=J ▸ PY F H s2;have hg:=O.len;by_cases hi:i<8
 .have h9:od x y i=s3:=by
   obtain⟨q,rfl⟩:∃q,i=q+1:=⟨i-1,oM⟩
   rw[<-J,<-K,<-d];rfl
  have M:(f.drop (off+0+12*(i-1))).take (tw H).length=tw H:=by
   have:=O.sub g (q:=i-1) oM oM;rw[K]at this;exact this
  obtain⟨l,b⟩:=vH (rep f (off+0+12*i) (tw s3));have p:off+0+12*i+(tw s3).length<=f.length:=by rw[cJ];omega
  have A:=b ▸ RG.rep_at p;have E:l.length=f.length:=b ▸ cY p;have h6:Fi x y D C0 off (i+1) l:=by
   have:=O.next g hi;rw[h9]at this;rw[<-b];exact this
  have hb:∀w,(binOp .sub 3 (iZ i) (iZ 1)).run prog w=.ok (iZ ((i-1:Nat):Int)) w:=λw=>by
   rw[Ee oM oM,show(i:Int)-1=((i-1:Nat):Int) by omega]
  clear e b;have M0:RG.M w w.heap.size [k] 43 [f,wn n,ws x++(ws y),tw s2] [k,k1,k2,k3] [(0,.p 0 off),(6,.p 3 0),(7,.v (iZ i))] a _:=⟨Q,sl,⟨g0,W,g7,yE5⟩⟩
  repeat refine XL ?_
  refine M0.U [.x (iZ i),.x (.bool true)] [0,6,7,26] ⟨st,aN rfl .lss (T:=3) 3 (t1:=25) (v1:=(iZ i)) (v2:=(iZ 8)) (v:=(.bool true)) rfl rfl sx (λw=>kR) (iD (n:=8) hi),yE5⟩ ?_;intro B w1 j;repeat refine XL ?_
  refine YH j.ev ?_;refine Y2<|XL<|Zk ?_
  repeat refine XL ?_
  refine j.dr kR [.s 29 [] (.p 0 off),.x 30 [] (iZ i),.s 31 [] (.p 0 off),.x 32 [] (iZ i),.x 33 [(32,3)] (iZ ((i-1:Nat):Int)),.s 34 [(31,2)] (.p 0 off),.s 35 [(34,5)] (.p 0 (off+0)),.s 36 [(35,6),(33,4)] (.p 0 ((off+0)+12*(i-1))),.x 37 [(36,7)] (tv H),.x 38 [] (tv s2),.c 39 [(37,8),(38,9)] (tv s3),.s 40 [(29,0)] (.p 0 off),.s 41 [(40,11)] (.p 0 (off+0)),.s 42 [(41,12),(30,1)] (.p 0 ((off+0)+12*i)),.u [(42,13),(39,10)] 0] [] [(0,14,l)] [l,wn n,ws x++(ws y),tw s2] [(0,.p 0 off),(6,.p 3 0),(7,.v (iZ i))] kR (congrArg (λn=>[n]) E) ⟨st,st,st,st,aN rfl .sub (T:=3) 3 (t1:=32) (v1:=(iZ i)) (v2:=(iZ 1)) (v:=(iZ ((i-1:Nat):Int))) rfl rfl sx (λw=>kR) hb,st,st,aY rfl 212 (t:=35) (u:=33) rfl (.p 0 (off+0)) (iv:=(iZ ((i-1:Nat):Int))) sx sx (λμ w=>Ht (i:=(i-1)) oM (w:=w)),qF rfl (b:=0) (off:=((off+0)+12*(i-1))) _ rfl rfl kR (T:=211) (t:=36) rfl (cs:=(tw H)) rfl sx M iW i117,ld iW i117,cl h7,st,st,aY rfl 212 (t:=41) (u:=30) rfl (.p 0 (off+0)) (iv:=(iZ i)) sx sx (λμ w=>Ht (i:=i) oM (w:=w)),fN (b:=0) (off:=((off+0)+12*i)) rfl _ rfl (T:=211) (x:=(.tmp 42)) (y:=(.tmp 39)) (vs:=(tw s3)) rfl rfl sx sx (by show off+0+12*i+(tw s3).length<=f.length;rw[cJ];omega) A i117 (Ju _),yE5⟩ ?_;intro a2 w2 G;repeat refine XL ?_
  refine G.U [.x (iZ i),.x (iZ ((i+1:Nat):Int)),.x (iZ ((i+1:Nat):Int))] [0,6,7] ⟨st,aN rfl .add (T:=3) 3 (t1:=27) (v1:=(iZ i)) (v2:=(iZ 1)) (v:=(iZ ((i+1:Nat):Int))) rfl rfl sx (λw=>kR) (wM (a:=i) (b:=1) oM oM),st,yE5⟩ ?_;intro R w3 t;have v:R.tmps[0]? = some (oZ k off):=t.at (s:=(.p 0 off));have h4:R.tmps[6]? = some (jZ k3):=t.at (s:=(.p 3 0));have U:R.tmps[7]? = some (iZ ((i+1:Nat):Int)):=t.at (s:=(.v (iZ ((i+1:Nat):Int))));show ∃n',_;exact⟨m-1,oM,i+1,l,oM,oM,oM,o.symm ▸ h6,t.sl,v,h4,U,by rw[d];exact t.st⟩
 .have M:i=8:=oM;obtain⟨l,-⟩:∃c:List XG,c=f:=⟨_,rfl⟩
  have M0:RG.M w w.heap.size [k] 43 [f,wn n,ws x++(ws y),tw s2] [k,k1,k2,k3] [(0,.p 0 off),(6,.p 3 0),(7,.v (iZ i))] a _:=⟨Q,sl,⟨g0,W,g7,yE5⟩⟩
  repeat refine XL ?_
  refine M0.U [.x (iZ i),.x (.bool false)] [0,6,7,26] ⟨st,aN rfl .lss (T:=3) 3 (t1:=25) (v1:=(iZ i)) (v2:=(iZ 8)) (v:=(.bool false)) rfl rfl sx (λw=>kR) (oJ (n:=8) hi),yE5⟩ ?_;intro B w1 j;repeat refine XL ?_
  refine Yh j.ev ?_;refine wp_exit ?_;dsimp only[Exit.then,yBc];rw[yE3 rfl];have I:B.tmps[0]? = some (oZ k off):=j.at (s:=(.p 0 off));have hj:B.tmps[6]? = some (jZ k3):=j.at (s:=(.p 3 0));have U:B.tmps[7]? = some (iZ i):=j.at (s:=(.v (iZ i)));exact⟨j.sl.defers,.tuple #[],RG.results_none rfl,_,rfl,⟨f,o.symm ▸ M ▸ O,j.st.putTo O.len⟩,rfl⟩
def Nz(F:Fld P)(b o k:Nat)(p:k<8)(s:T3 P)(w:XF)(r:b<w.heap.size)(t:w.rangeAt b (o+0+12*k) (tw s)):cZ 115 #[(oZ b o),(.int .i8 (-(2*(k:Int)+1)))] w (rZ w λe w'=>e=tv (opJ s)):=by
 obtain⟨s2,c⟩:=vH (opJ s);have l:=c ▸ UA F s;have d:∀w,(binOp .lss 213 (.int .i8 (-(2*(k:Int)+1))) (.int .i8 0)).run prog w=.ok tZ w:=λw=>by
  go_simp;try omega
 have f:∀w,(yEt .neg (.int .i8 (-(2*(k:Int)+1)))).run prog w=.ok (.int .i8 (2*(k:Int)+1)) w:=λw=>by
  rw[Qi oM,yEK]
 go_enter func115,ntmps115;refine QO (v0:=(oZ b o)) (v1:=(.int .i8 (-(2*(k:Int)+1)))) (n:=23) kR kR kR kR ?_;intro a0 i u y;have j:=RG.St.begin w;have q:RG.M w w.heap.size [] 23 [] [] [(0,.v (oZ b o)),(1,.v (.int .i8 (-(2*(k:Int)+1))))] a0 _:=⟨j,i,⟨u,y,yE5⟩⟩
 repeat apply XL
 refine q.T [.m 0] [(0,RG.z 12)] [] [RG.z 12] [0,1,4] ⟨mk 0 211,yE5⟩ ?_;intro a z A x;repeat apply XL
 refine x.U [.x (.int .i8 (-(2*(k:Int)+1))),.x tZ] [0,1,4,6] ⟨st,aN rfl .lss 213 rfl rfl sx (λw=>kR) d,yE5⟩ ?_;intro a2 C m;repeat apply XL
 refine YH m.ev ?_;repeat apply XL
 refine m.T [.x (oZ b o),.x (.int .i8 (-(2*(k:Int)+1))),.x (.int .i8 (2*(k:Int)+1)),.x (.int .i8 k),.x (oZ b o),.x (oZ b (o+0)),.x (oZ b ((o+0)+12*k)),.x (tv s),.c (tv s2),.u 0] [] [(0,9,tw s2)] [tw s2] [4] ⟨st,st,O9 rfl .neg 213 rfl rfl sx f,aN rfl .quo 213 rfl rfl sx (λw=>kR) (Qh p),st,st,aY rfl 212 rfl (.v (oZ b (o+0))) sx sx (λμ w=>ME p),eK rfl r Yf rfl rfl sx t iW i117,cl l,RG.pt i117,yE5⟩ ?_;intro B D g;refine Zj<|XR (v:=tv s2) (aH g.st rfl rfl (g.at (s:=(.p 0 0))) iW i117) g.sl.defers ?_
 exact⟨_,rfl,g.st.bel.below,by rw[c]⟩
def Ny(F:Fld P)(b o k:Nat)(j:k<8)(s:T3 P)(w:XF)(p:b<w.heap.size)(q:w.rangeAt b (o+0+12*k) (tw s)):cZ 115 #[(oZ b o),(.int .i8 (2*(k:Int)+1))] w (rZ w λe w'=>e=tv s):=by
 obtain⟨s2,m⟩:=vH (opJ s);have c:∀w,(binOp .lss 213 (.int .i8 (2*(k:Int)+1)) (.int .i8 0)).run prog w=.ok fZ w:=λw=>by
  go_simp;try omega
 have l:∀w,(yEt .neg (.int .i8 (-(2*(k:Int)+1)))).run prog w=.ok (.int .i8 (2*(k:Int)+1)) w:=λw=>by
  rw[Qi oM,yEK]
 go_enter func115,ntmps115;refine QO (v0:=(oZ b o)) (v1:=(.int .i8 (2*(k:Int)+1))) (n:=23) kR kR kR kR ?_;intro a0 f r u;have g:=RG.St.begin w;have x:RG.M w w.heap.size [] 23 [] [] [(0,.v (oZ b o)),(1,.v (.int .i8 (2*(k:Int)+1)))] a0 _:=⟨g,f,⟨r,u,yE5⟩⟩
 repeat apply XL
 refine x.T [.m 0] [(0,RG.z 12)] [] [RG.z 12] [0,1,4] ⟨mk 0 211,yE5⟩ ?_;intro z y a t;repeat apply XL
 refine t.U [.x (.int .i8 (2*(k:Int)+1)),.x fZ] [0,1,4,6] ⟨st,aN rfl .lss 213 rfl rfl sx (λw=>kR) c,yE5⟩ ?_;intro a2 B i;repeat apply XL
 refine Yh i.ev ?_;apply Y2;repeat apply XL
 refine i.T [.x (oZ b o),.x (.int .i8 (2*(k:Int)+1)),.x (.int .i8 k),.x (oZ b o),.x (oZ b (o+0)),.x (oZ b ((o+0)+12*k)),.x (tv s),.u 0] [] [(0,7,tw s)] [tw s] [4] ⟨st,st,aN rfl .quo 213 rfl rfl sx (λw=>kR) (Qh j),st,st,aY rfl 212 rfl (.v (oZ b (o+0))) sx sx (λμ w=>ME j),eK rfl p Yf rfl rfl sx q iW i117,RG.pt i117,yE5⟩ ?_;intro A C d;refine Zj<|XR (v:=tv s) (aH d.st rfl rfl (d.at (s:=(.p 0 0))) iW i117) d.sl.defers ?_
 exact⟨_,rfl,d.st.bel.below,rfl⟩
def tmJ(x y:Fin P)(d:Int):T3 P:=if d<0 then opJ (od x y ((-d).toNat/2)) else od x y (d.toNat/2)
def TZ(C:Fld P){x y:Fin P}{p:EC.Pt P}(h:Pair x y p)(b:On p){d:Int}(hd:d%2=1):JacT (tmJ x y d) (eG d p):=by
 unfold tmJ;by_cases c:d<0
 .rw[yE3 c];have k:=(R2 C h b ((-d).toNat/2)).neg;rw[<-Cq C.cur b]at k;rw[show -((2*((-d).toNat/2)+1:Nat):Int)=d by omega]at k;exact k
 .rw[yE4 c];have k:=R2 C h b (d.toNat/2);rw[show((2*(d.toNat/2)+1:Nat):Int)=d by omega]at k;exact k
def inn(ns:Nat->Nat)(xs ys:Nat->Fin P)(st:T3 P)(place:Nat):Nat->T3 P
 | 0=>st
 | i+1=>if fM (ns i) place=0 then inn ns xs ys st place i else plJ (inn ns xs ys st place i) (tmJ (xs i) (ys i) (fM (ns i) place))
def jA(ns:Nat->Nat)(xs ys:Nat->Fin P)(N:Nat):Nat->T3 P
 | 0=>(0,0,0)
 | m+1=>inn ns xs ys (twJ (jA ns xs ys N m)) (256-m) N
def Qd(C:Fld P){ns:Nat->Nat}{xs ys:Nat->Fin P}{p:Nat->EC.Pt P}{N:Nat}(b:∀i,i<N->ns i<2^256)(f:∀i,i<N->Pair (xs i) (ys i) (p i))(ho:∀i,i<N->On (p i)){st:T3 P}{g:Nat->Int}{place:Nat}
 (h:JacT st (tot p N g)):∀i,i<=N->JacT (inn ns xs ys st place i) (tot p N (λj=>if j<i then g j+fM (ns j) place else g j))
 | 0,_=>by
  have:tot p N (λj=>if j<0 then g j+fM (ns j) place else g j)=tot p N g:=eM N λj _=>yE4 oM
  rw[this];exact h
 | i+1,hi=>by
  have l:=Qd C b f ho (place:=place) h i oM;have e:tot p N (λj=>if j<i+1 then g j+fM (ns j) place else g j)=EC.add (tot p N (λj=>if j<i then g j+fM (ns j) place else g j)) (eG (fM (ns i) place) (p i)):=by
   rw[<-Nv C.cur (fM (ns i) place) oM ho];refine eM N λj _=>?_
   by_cases k:j=i
   .subst k;rw[yE3 oM,yE3 rfl,yE4 oM]
   .rw[yE4 k];by_cases d:j<i
    .rw[yE3 oM,yE3 d]
    .rw[yE4 oM,yE4 d]
  rw[e];unfold inn;by_cases d:fM (ns i) place=0
  .rw[yE3 d,d,Ib,bM];exact l
  .rw[yE4 d];obtain⟨q,c,-,m⟩:=B9 (b i oM);rcases m.ho place with k|k
   .exact absurd k d
   .exact l.plus C (TZ C (f i oM) (ho i oM) k.1)
def JF(C:Fld P){ns:Nat->Nat}{xs ys:Nat->Fin P}{p:Nat->EC.Pt P}{N:Nat}(k:∀i,i<N->ns i<2^256)(c:∀i,i<N->Pair (xs i) (ys i) (p i))(ho:∀i,i<N->On (p i)):
 ∀m,m<=257->JacT (jA ns xs ys N m) (tot p N (λj=>DG.hor (fM (ns j)) m))
 | 0,_=>by
  rw[show tot p N (λj=>DG.hor (fM (ns j)) 0)=.none from xQ p N (λ_ _=>rfl)];exact JacT.none
 | m+1,hm=>by
  have b:=(JF C k c ho m oM).twice C;rw[<-Ii C.cur ho]at b;have f:=Qd C k c ho (place:=256-m) b N (XH _);have e:tot p N (λj=>DG.hor (fM (ns j)) (m+1))=tot p N (λj=>if j<N then 2*DG.hor (fM (ns j)) m+fM (ns j) (256-m) else 2*DG.hor (fM (ns j)) m):=
   eM N λj d=>by rw[yE3 d];rfl
  rw[e];exact f
def Cv(C:Fld P){ns:Nat->Nat}{xs ys:Nat->Fin P}{p:Nat->EC.Pt P}{N:Nat}(k:∀i,i<N->ns i<2^256)(g:∀i,i<N->Pair (xs i) (ys i) (p i))(ho:∀i,i<N->On (p i)):
 JacT (jA ns xs ys N 257) (tot p N (λj=>(ns j:Int))):=by
 have h:=JF C k g ho 257 (XH _);have e:tot p N (λj=>(ns j:Int))=tot p N (λj=>DG.hor (fM (ns j)) 257):=eM N λj d=>by
  obtain⟨q,c,b,f⟩:=B9 (k j d);exact(DG.OL f b).symm
 rw[e];exact h
def cc(ns:Nat->Nat)(xs ys:Nat->Fin P)(C0:List XG):Nat->List XG
 | 0=>C0
 | i+1=>fc (xs i) (ys i) (fM (ns i)) (cc ns xs ys C0 i) (353*i) 8
def Qq{ns:Nat->Nat}{xs ys:Nat->Fin P}{C0:List XG}{N:Nat}(f:C0.length=353*N):∀i,i<=N->(cc ns xs ys C0 i).length=353*N /\
 ∀j,j<i->(∀q,q<257->(cc ns xs ys C0 i)[353*j+96+q]? = some (.int .i8 (fM (ns j) q)))/\∀q r,q<8->r<12->(cc ns xs ys C0 i)[353*j+12*q+r]? = (tw (od (xs j) (ys j) q))[r]?
 | 0,_=>⟨f,λj n=>oM⟩
 | i+1,hi=>by
  obtain⟨e,m⟩:=Qq f i oM;have k:=GX (x:=xs i) (y:=ys i) (D:=fM (ns i)) (C0:=cc ns xs ys C0 i) (off:=353*i) (by rw[e];omega) 8 (XH _);refine⟨by rw[<-e];exact k.len,λj n=>?_⟩;by_cases d:j=i
  .subst d;exact⟨k.dig,λq r b c=>k.odd q r b c⟩
  .obtain⟨l,g⟩:=m j oM;exact⟨λq b=>(k.out _ oM).trans (l q b),λq r b c=>(k.out _ oM).trans (g q r b c)⟩
def UI{N:Nat}(d:N<=512):∃C0:List XG,C0.length=353*N/\∀w:XF,(yAq 208 (iZ N) (iZ N)).run prog w=.ok (sZ w.heap.size N N) (w.alloc (.cells C0.toArray 216)):=by
 have j:prog.underlying 208=some (.slice 216):=kR;have e:(prog.info? 216).map (λi=>(i.size,decide (i.bytes<=4000),i.zero.isSome))=some (353,true,true):=kR;obtain⟨i,b,k⟩:=Option.map_eq_some_iff.1 e;simp only[Prod.mk.injEq,decide_eq_true_eq]at k;obtain⟨g,m,f⟩:=k;obtain⟨z,l⟩:=Option.isSome_iff_exists.1 f;refine⟨(madeCells z.cells (N*353)).toList,by rw[X0,size_madeCells,YN],λw=>?_⟩;have c:(i.bytes:Int)*(N:Int)<=281474976710656:=by
  have:i.bytes*N<=4000*512:=ZP m d;have n:((i.bytes*N:Nat):Int)<=281474976710656:=oM;rwa[yAx]at n
 have:=run_make (P:=prog) w 208 216 i z j b l .i64 .i64 (N:Int) (N:Int) oM oM c oM;rw[Int.toNat_natCast,g]at this;rw[Array.toArray_toList];exact this
def LR{x y:Fin P}{C0:List XG}{w:XF}(F:Fld P){b off n:Nat}(d:n<top)(k:off+353<=C0.length)(c:w.there b 0 C0.length)(i:w.rangeAt b 0 C0):
 cZ 112 #[oZ b off,nv n,pv x y] w (Ret λr w'=>PutTo b C0.length (fc x y (fM n) C0 off 8) w w'/\r=.tuple #[]):=by
 have f:b<w.heap.size:=by
  have g:=(c 0 oM).1;exact Zw λd=>by
   have j:w.heap[b]? = none:=ZY oM;simp[YY,j]at g
 apply(SU F d x y C0 b off k w f c i).mono;rintro e w' ⟨v,rfl,⟨C,j,g⟩,rfl⟩;refine⟨_,rfl,?_,rfl⟩;rw[(GX k 8 (XH _)).uniq j];exact g
def NA{b o:Nat}{x y:Fin P}{w:XF}(F:Fld P){d:Int}(hd:d%2=1)(i:-15<=d/\d<=15)(g:b<w.heap.size)(f:∀q,q<8->w.rangeAt b (o+0+12*q) (tw (od x y q))):
 cZ 115 #[oZ b o,.int .i8 d] w (rZ w λe w'=>e=tv (tmJ x y d)):=by
 unfold tmJ;by_cases c:d<0
 .rw[yE3 c];have k:=Nz F b o ((-d).toNat/2) oM (od x y ((-d).toNat/2)) w g (f _ oM);rw[show -(2*(((-d).toNat/2:Nat):Int)+1)=d by omega]at k;exact k
 .rw[yE4 c];have k:=Ny F b o (d.toNat/2) oM (od x y (d.toNat/2)) w g (f _ oM);rw[show 2*((d.toNat/2:Nat):Int)+1=d by omega]at k;exact k
end
end Go.Proofs.YtlofhpkoaljmeaaGreat
