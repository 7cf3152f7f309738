import Derived.Deep.LoopGhost
import Derived.Deep.RegionHeld3
import Derived.WalkKit
import Derived.Sort.Row
import Derived.Deep.Draws
import Derived.Below
import Derived.Deep.OwnRows
import Derived.Test.YtjnchldodncnbaaGreatRows
import Derived.Deep.QuietTactic
import Derived.StillTailTactics
import Derived.BigRegion
import Derived.BigQuiet
import Derived.WalkSpells
import Derived.WalkLawsBesides
import Derived.Deep.RegionWith
import Derived.KernelRfl
import Derived.Lib.LazyBuf
import Derived.Lib.SliceRun
import Derived.Deep.AppendSrc
import Derived.Lib.AppendZeros
import Derived.Lib.ConvBytes
import Derived.Test.YtjnchldodncnbaaGreatpr3
set_option linter.unusedVariables false
set_option linter.constructorNameAsVariable false
set_option linter.unusedSimpArgs false
set_option maxRecDepth 1000000
set_option maxHeartbeats 4000000
namespace Go.Proofs.YtjnchldodncnbaaGreat
open _root_.Array renaming append_assoc->yAu,ext->Z5,getElem?_append_left->Yf,getElem?_append_right->ZC,getElem?_eq_getElem->Uj,getElem?_map->yAr,getElem?_toList->UF,getElem_replicate->U9,getElem_toList->VY,length_toList->TR,map->yBV,map_append->yAK,map_replicate->YW,mk->YV,replicate->TP,size->ZQ,size_append->UA,size_replicate->TY,size_setIfInBounds->Up
open _root_.BitVec renaming eq_of_getLsbD_eq->ZP,eq_of_toNat_eq->Z0,ofInt->Wr,ofInt_natCast->yAa,ofNat->WT,toNat_ofNat->Y5
open _root_.Bool renaming and_eq_true->T0
open _root_.ByteArray renaming data_append->Yl
open _root_.Go renaming Addr->V5,Calls->TW,TypeId->Uw,Value->TC,World->TA,bodyPost_ret->TM,run_make_row'->XO,wp_block->V3,wp_cond_false->UG,wp_cond_true->UC,wp_loop_ghost->Yv,wp_ret->UZ,wp_seq->TI,wp_skip->Vg
open _root_.Go.Act renaming put->Ug
open _root_.Go.Addr renaming add->XI
open _root_.Go.Builtin renaming append_->Ur,copy_->ZB,nextslicecap->YC,zeroCells->VN
open _root_.Go.Exit renaming inBlock->Xl
open _root_.Go.Instr renaming makeSlice->VI
open _root_.Go.IntKind renaming bits->yAZ,i64->UR,signed->yAy,u64->Uv,u8->Yo,wrap->yAY,wrap_u64->Xx
open _root_.Go.IntWalk renaming i64_in->UO
open _root_.Go.Lib renaming bytesCells->WX,bytesWorld->Yt,bytesWorld_size->Zi,wpList_append_run->Vi
open _root_.Go.Question renaming cut->yAx
open _root_.Go.RowKit.Below renaming heap_setCell->Zc,refl->TX
open _root_.Go.Src renaming ofSlice->yAW
open _root_.Go.Value renaming agg->Um,int->UV
open _root_.Go.World renaming alloc->U2,block_lt_of_cell?->Vt,cell?_alloc_new->Us,cell?_of_block->Ua,cell?_setCell_other->TE,cell?_setCell_same->Uu,cell?_setCells_out->ZO,freeze->YH,frozen?_alloc_new->Vr,frozen?_of_block->UY,frozen?_setCell->Un,frozen?_setCells->ZW,setCell->Wb
open _root_.Int renaming emod_eq_of_lt->yAV,natCast_ediv->YN,natCast_mul->V0,natCast_pow->WC,ofNat_inj->XY,tdiv_eq_ediv_of_nonneg->Wt,tmod_eq_emod_of_nonneg->Ys
open _root_.List renaming append_assoc->yAH,cons->Yn,flatMap_append->Yb,getElem?_eq_some_iff->T9,getElem?_map->UX,getElem_map->Wp,length->yBF,length_append->TT,length_cons->Uy,length_drop->YF,length_map->Uk,length_nil->WS,length_replicate->VF,length_take->WF,mem_map->UM,not_mem_nil->Ud,replicate->UU,setIfInBounds_toArray->TD,set_cons_succ->TK,set_cons_zero->TL,take_add->yBn,take_of_length_le->YE,take_zero->YX
open _root_.Nat renaming add_assoc->VQ,add_sub_cancel->Yr,add_sub_cancel_left->WM,add_zero->VK,div_eq_of_lt->WY,div_one->yAR,le_add_right->YA,le_refl->TG,le_trans->TU,lt_of_lt_of_le->TF,min_le_left->yBe,min_le_right->yA3,mod_eq_of_lt->Uf,mod_lt->Vm,mod_one->ZM,mul_assoc->VV,mul_comm->Ut,mul_one->Wq,mul_zero->XZ,ne_of_gt->U3,ne_of_lt->Vl,pow_add->VS,pow_le_pow_right->Ve,pow_zero->Wx,sub_self->Yg,sub_sub->Xv,sub_zero->YD,testBit_lt_two_pow->yAc,zero_add->TO,zero_le->VH
open _root_.Option renaming isSome_iff_exists->UT,map_some->XK
open _root_.Or renaming inl->Ub,inr->T8
open _root_.UInt8 renaming ofNat->TV,toNat_ofNat'->Yc
open Go.Proofs.Tryz
section
open Go.RowKit Go.Sort Go.Deep
variable {P:Nat}[NeZero P]{N:Nat}
theorem Br(p0 p1 L M B C D A P:Nat)(x y:TC)(m n:Nat)(hR:RefP p0 p1 L M B C D A P)(Q:Four x m)(Z:Four y n)(w:TA):
 TW prog 106 #[.agg #[uZ p0,uZ p1,uZ L,uZ M,uZ B,uZ C,uZ D,uZ A],x,y] w (rZ w λe w'=>Four e (m^n%P)):=by
 obtain⟨a,b,c,d,rfl,ha,hb,hc,hd,em⟩:=id Q;obtain⟨p,q,r,s,rfl,hp,hq,hr,hs,en⟩:=id Z;have HX:Hid (Four _ _):=Q;have HY:Hid (Four _ _):=Z;have X:Hid (RefP p0 p1 L M B C D A P):=hR;clear em en Q Z ha hb hc hd hp hq hr hs hR;go_enter func106,ntmps106;go_wp2_with fail
 have k:=Pj w p0 p1 L M B C D A a b c d p q r s;generalize U2 _ _=W0 at k⊢;generalize h3:w.heap.size+1+1+1=k3 at k⊢;generalize h2:w.heap.size+1+1=Y at k⊢;generalize K:w.heap.size+1=k1 at k⊢;have Q3:Hid (w.heap.size<=k3):=by unfold Hid;omega
 generalize h0:w.heap.size=g at k Q3⊢;have H0:Hid (w.heap.size=g):=h0;clear h0 K h2 h3;refine(lU 1 dC _).mono ?_;rintro e w1 ⟨v,rfl,hj,rfl⟩;replace k:=k.call hj;go_wp2;have KN:=(k.alloc (.cells #[uZ 1,uZ 0,uZ 0,uZ 0] 68)).cons (At4.made w1 68 1 0 0 0 rfl).blk;have Q7:=mk1 (k.le);have R:=k.lts;generalize w1.heap.size=k7 at KN R Q7⊢;have H:∀x∈([⟨g,0,p0,p1,L,M⟩,⟨g,4,B,C,D,A⟩,⟨k1,0,a,b,c,d⟩,⟨Y,0,p,q,r,s⟩,⟨k3,0,0,0,0,0⟩]:List Blk),k7≠x.k:=λx Q=>U3 (R x Q)
 have hu:=H ⟨Y,0,p,q,r,s⟩ (by simp);go_loopg [8] 256 (λgk s8 wr=>gk<=256/\s8=iZ ((gk:Int)-1)/\∃S V W nd:Nat,Kept w g (⟨k7,0,S,V,W,nd⟩ :: [⟨g,0,p0,p1,L,M⟩,⟨g,4,B,C,D,A⟩,⟨k1,0,a,b,c,d⟩,⟨Y,0,p,q,r,s⟩,⟨k3,0,0,0,0,0⟩]) wr/\Hid (Four (.agg #[uZ S,uZ V,uZ W,uZ nd]) (m^(n/2^gk)%P)))
 case atStart =>
  refine⟨TG _,rfl,1,0,0,0,KN,?_⟩;have K:=X.hP2;have h2:3<top:=dC;rw[show n/2^256=0 from WY HY.lt,Wx,Uf oM];exact Four.mk dC dC dC dC rfl
 case round =>
  obtain⟨hg,rfl,S,V,W,nd,k,z⟩:=hrel;obtain⟨F,G,I,J,tf⟩:=k.head.at4;have zt:=k.head.lt;by_cases hz:gk=0
  ·subst hz;have j:=z.out;rw[Wx,yAR]at j;have l:=mk1 (j);obtain⟨N,u,O,o,T⟩:=k.tail.tail.tail.tail.tail.head.at4;have U:=k.tail.tail.tail.tail.tail.head.lt;go_wp2;have f:=k.tail.tail.tail.tail.tail.head.at4.self4 S V W nd;unfold set4 at f;refine TM (v:=?v) ?hr rfl ?hR
   case hr=>simp[results,Tryz.results106,go_sem,f.c0,f.c1,f.c2,f.c3];rfl
   refine⟨_,rfl,?_,l.out⟩;rw[H0.out];exact aF k.bl Q3.out _ _ _ _
  ·obtain⟨i,hi⟩:∃i,gk=i+1:=⟨gk-1,oM⟩
   have e1:(gk:Int)-1=(i:Int):=oM;rw[e1];have h6:i<256:=oM;obtain⟨E,hE⟩:∃E,n/2^gk=E:=⟨_,rfl⟩
   rw[hE]at z;rw[hi]at hE;have HE:=mk1 (hE);have T:=mk1 (hi);obtain⟨hh,h7,h5,h4,ff⟩:=k.tail.head.at4;have fb:=k.tail.tail.head;obtain⟨u,o,j,l,fg⟩:=id fb;replace u:wr.cell? ⟨g,4,none⟩=some (uZ B):=u;replace o:wr.cell? ⟨g,5,none⟩=some (uZ C):=o;replace j:wr.cell? ⟨g,6,none⟩=some (uZ D):=j;replace l:wr.cell? ⟨g,7,none⟩=some (uZ A):=l;have zf:=k.tail.head.lt;go_wp2_with fail
   refine(rW X.out z.out z.out _).mono ?_;rintro e w2 ⟨v,rfl,he,f⟩;rw[iP]at f;obtain⟨ya,yb,yc,yd,rfl,-⟩:=id f;have z:=mk1 (f);replace k:=k.call he;obtain⟨F,G,I,J,tf⟩:=k.head.at4;have zt:=k.head.lt;obtain⟨hk,k5,k4,hn,ef⟩:=k.tail.tail.tail.tail.head.at4;have ze:=k.tail.tail.tail.tail.head.lt;go_wp2_with fail
   have O:=k.put Q7.out H ya yb yc yd;refine(qP _ _ i HY.out h6 _).mono ?_;rintro e U ⟨v,rfl,N,t,rfl,ht⟩;have k:=O.call N;have HT:=mk1 (ht);have h8:t=0\/t=1:=oM;clear N O ht;rcases h8 with rfl|rfl
   ·go_wp2;go_roundg (gk-1)
    case measure=>omega
    case rel =>
     refine⟨oM,?_,ya,yb,yc,yd,k,?_⟩
     ·have:=T.out
      congr 1
      omega
     ·have K:=z.out;unfold Hid;rw[T.out,Yr,Au n i,HE.out,<-HT.out,VK];exact K
   ·obtain⟨F,G,I,J,tf⟩:=k.head.at4;have zt:=k.head.lt;obtain⟨k6,hl,hw,hm,af⟩:=k.tail.tail.tail.head.at4;have za:=k.tail.tail.tail.head.lt;obtain⟨hh,h7,h5,h4,ff⟩:=k.tail.head.at4;have fb:=k.tail.tail.head;obtain⟨u,o,j,l,fg⟩:=id fb;replace u:U.cell? ⟨g,4,none⟩=some (uZ B):=u;replace o:U.cell? ⟨g,5,none⟩=some (uZ C):=o;replace j:U.cell? ⟨g,6,none⟩=some (uZ D):=j;replace l:U.cell? ⟨g,7,none⟩=some (uZ A):=l;have zf:=k.tail.head.lt;go_wp2_with fail
    refine(rW X.out z.out HX.out _).mono ?_;rintro e w4 ⟨v,rfl,h9,f⟩;rw[qR]at f;obtain⟨ua,ub,uc,ud,rfl,-⟩:=id f;have z:=mk1 (f);replace k:=k.call h9;obtain⟨F,G,I,J,tf⟩:=k.head.at4;have zt:=k.head.lt;go_wp2;go_roundg (gk-1)
    case measure=>omega
    case rel =>
     refine⟨oM,?_,ua,ub,uc,ud,k.put Q7.out H ua ub uc ud,?_⟩
     ·have:=T.out
      congr 1
      omega
     ·have K:=z.out;unfold Hid;rw[T.out,Yr,Au n i,HE.out,<-HT.out];exact K
theorem Bu(p0 p1 s u j l o i P:Nat)(x:TC)(m:Nat)(hR:RefP p0 p1 s u j l o i P)(D:Four x m)(w:TA):
 TW prog 62 #[.agg #[uZ p0,uZ p1,uZ s,uZ u,uZ j,uZ l,uZ o,uZ i],x] w (rZ w λe w'=>Four e (m^(P-2)%P)):=by
 have g:Hid (RefP p0 p1 s u j l o i P):=hR;have HX:Hid (Four x m):=D;obtain⟨a,b,c,d,rfl,J,I,M,hd,L⟩:=id D;clear hR D L J I M hd;go_enter func62,ntmps62;go_wp2_with fail
 have f:=Dy w p0 p1 s u j l o i a b c d;generalize U2 _ _=W0 at f⊢;generalize Y:w.heap.size+1+1=K at f⊢;generalize V:w.heap.size+1=k1 at f⊢;have G:Hid (w.heap.size<=K):=by unfold Hid;omega
 generalize h0:w.heap.size=C at f G⊢;have W:=mk1 (h0);have r:=Four.mk g.hp0 g.hp1 g.hp2 g.hp3 g.eP;refine(nW _ _ P 2 r (Four.mk (a:=2) (b:=0) (c:=0) (d:=0) dC dC dC dC rfl) _).mono ?_;rintro e B ⟨v,rfl,F,v2,t,k,rfl,n,hk,he⟩;have ht:t=P-2:=by
  have V:=n.lt;have Y:=r.lt;have p:=g.hP2;have:k=0\/k=1:=oM;rcases this with h|h<;>rw[h]at he<;>omega
 have HE:Hid (Four v2 (P-2)):=by unfold Hid;rw[<-ht];exact n
 obtain⟨ea,eb,ec,ed,rfl,-⟩:=id n;replace f:=f.call F;obtain⟨h4,h5,T,X,xf⟩:=f.tail.tail.head.at4;have zx:=f.tail.tail.head.lt;obtain⟨h6,R,O,N,ff⟩:=f.head.at4;have fb:=f.tail.head;obtain⟨A,z,q,y,fg⟩:=id fb;replace A:B.cell? ⟨C,4,none⟩=some (uZ j):=A;replace z:B.cell? ⟨C,5,none⟩=some (uZ l):=z;replace q:B.cell? ⟨C,6,none⟩=some (uZ o):=q;replace y:B.cell? ⟨C,7,none⟩=some (uZ i):=y;have Q:=f.head.lt;have n0:=Vl Q;have n1:=Vl zx;go_wp2_with fail
 refine(Br p0 p1 s u j l o i P _ _ _ _ g.out HX.out HE.out _).mono ?_;rintro e w2 ⟨v,rfl,E,n⟩;replace f:=(f.alloc _).call E;obtain⟨qa,Z,qc,qd,rfl,-⟩:=id n;have HF:=mk1 (n);obtain⟨U,S,h7,H,rf⟩:=f.tail.tail.tail.head.at4;have zr:=f.tail.tail.tail.head.lt;go_wp2;have p:=f.tail.tail.tail.head.at4.self4 qa Z qc qd;unfold set4 at p;refine TM (v:=?v) ?hr rfl ?hR
 case hr=>simp[results,Tryz.results62,go_sem,p.c0,p.c1,p.c2,p.c3];rfl
 refine⟨_,rfl,?_,HF.out⟩;rw[W.out];exact aF f.bl G.out _ _ _ _
theorem LY(v t r:Nat)(c:r<64)(hv:v<2^r)(d:t<2):bits .or .u64 (v:Int) ((t*2^r:Nat):Int)=((v+t*2^r:Nat):Int)/\v+t*2^r<18446744073709551616:=by
 have f:2^r<=2^63:=Ve dC oM;have k:t*2^r<=1*2^r:=Nat.mul_le_mul_right _ oM;have b:(2:Nat)^63=9223372036854775808:=dC;have e:=Nat.two_pow_add_eq_or_of_lt hv t;refine⟨?_,oM⟩;rw[bits_or_u64_nat _ _ oM oM,Nat.or_comm,Ut t,<-e,Nat.add_comm]
theorem Dd{a b c d Q i:Nat}(f:a<18446744073709551616)(e:b<18446744073709551616)(k:c<18446744073709551616)(hd:d<18446744073709551616)(g:i<256)(hv:val a b c d=Q%2^i):wd a b c d (i/64)<2^(i%64):=by
 rw[He (i/64) oM f e k hd,hv];refine Nat.lt_of_le_of_lt (Nat.mod_le _ _) ?_;refine Nat.div_lt_of_lt_mul ?_;rw[<-VS,show 64*(i/64)+i%64=i by omega];exact Vm _ (Nat.pow_pos dC)
theorem De{a b c d Q i t o:Nat}(f:i<256)(hv:val a b c d=Q%2^i)(k:t=Q/2^i%2)(ho:o=wd a b c d (i/64)+t*2^(i%64)):
 val (if i/64=0 then o else a) (if i/64=1 then o else b) (if i/64=2 then o else c) (if i/64=3 then o else d)=Q%2^(i+1):=by
 have h:=Et a b c d (i/64) o oM;have e:(2:Nat)^i=2^(64*(i/64))*2^(i%64):=by
  rw[<-VS,show 64*(i/64)+i%64=i by omega]
 rw[ho,Nat.mul_add,<-VV,Ut (2^(64*(i/64))) t,VV,<-e]at h;rw[ho,Nat.pow_succ,Nat.mod_mul,<-k,Ut (2^i)];omega
theorem uX{w W:TA}{k i p e j v p0 p1 g f l s o t a b c d r n q m:Nat}(h:Kept w k (⟨e,0,r,n,q,m⟩ :: [⟨k,0,p0,p1,g,f⟩,⟨k,4,l,s,o,t⟩,⟨i,0,a,b,c,d⟩,⟨p,0,0,0,0,0⟩]) W)(u:W.cell? ⟨e,j,none⟩=some (uZ v)):W.cell? ⟨k,0,none⟩=some (uZ p0)/\W.cell? ⟨k,1,none⟩=some (uZ p1)/\W.cell? ⟨k,2,none⟩=some (uZ g)/\W.cell? ⟨k,3,none⟩=some (uZ f)/\W.cell? ⟨e,j,none⟩=some (uZ v)/\Kept w k (⟨e,0,r,n,q,m⟩ :: [⟨k,0,p0,p1,g,f⟩,⟨k,4,l,s,o,t⟩,⟨i,0,a,b,c,d⟩,⟨p,0,0,0,0,0⟩]) W:=
 ⟨h.tail.head.c0,h.tail.head.c1,h.tail.head.c2,h.tail.head.c3,u,h⟩
theorem uB{w W:TA}{k f r e p0 p1 p l i o j q a b c d n g m rd:Nat}(h:Kept w k (⟨e,0,n,g,m,rd⟩ :: [⟨k,0,p0,p1,p,l⟩,⟨k,4,i,o,j,q⟩,⟨f,0,a,b,c,d⟩,⟨r,0,0,0,0,0⟩]) W):W.cell? ⟨k,0,none⟩=some (uZ p0)/\W.cell? ⟨k,1,none⟩=some (uZ p1)/\W.cell? ⟨k,2,none⟩=some (uZ p)/\W.cell? ⟨k,3,none⟩=some (uZ l)/\W.cell? ⟨k,4,none⟩=some (uZ i)/\W.cell? ⟨k,5,none⟩=some (uZ o)/\W.cell? ⟨k,6,none⟩=some (uZ j)/\W.cell? ⟨k,7,none⟩=some (uZ q)/\W.cell? ⟨e,0,none⟩=some (uZ n)/\W.cell? ⟨e,1,none⟩=some (uZ g)/\W.cell? ⟨e,2,none⟩=some (uZ m)/\W.cell? ⟨e,3,none⟩=some (uZ rd)/\W.cell? ⟨f,0,none⟩=some (uZ a)/\W.cell? ⟨f,1,none⟩=some (uZ b)/\W.cell? ⟨f,2,none⟩=some (uZ c)/\W.cell? ⟨f,3,none⟩=some (uZ d)/\Kept w k (⟨e,0,n,g,m,rd⟩ :: [⟨k,0,p0,p1,p,l⟩,⟨k,4,i,o,j,q⟩,⟨f,0,a,b,c,d⟩,⟨r,0,0,0,0,0⟩]) W:=
 ⟨h.tail.head.c0,h.tail.head.c1,h.tail.head.c2,h.tail.head.c3,h.tail.tail.head.c0,h.tail.tail.head.c1,h.tail.tail.head.c2,h.tail.tail.head.c3,h.head.c0,h.head.c1,h.head.c2,h.head.c3,h.tail.tail.tail.head.c0,h.tail.tail.tail.head.c1,h.tail.tail.tail.head.c2,h.tail.tail.tail.head.c3,h⟩
theorem yN(p0 p1 n p D E I C P:Nat)(x:TC)(m:Nat)(hR:RefP p0 p1 n p D E I C P)(k7:P/4%18446744073709551616<18446744073709551615)(hx:Four x m)(w:TA):
 TW prog 133 #[.agg #[.int .u64 p0,.int .u64 p1,.int .u64 n,.int .u64 p,.int .u64 D,.int .u64 E,.int .u64 I,.int .u64 C],x] w (Ret λe w'=>Below w.heap.size w w'/\RootR P m (m^(P/4+1)%P) e):=by
 obtain⟨a,b,c,d,rfl,ha,hb,hc,hd,em⟩:=id hx;have HX:Hid (Four _ m):=hx;have HR:Hid (RefP p0 p1 n p D E I C P):=hR;have ke:Hid (P/4%18446744073709551616<18446744073709551615):=k7;have hl:Hid (Four (.agg #[.int .u64 p0,.int .u64 p1,.int .u64 n,.int .u64 p]) P):=Four.mk hR.hp0 hR.hp1 hR.hp2 hR.hp3 hR.eP;obtain⟨R,U⟩:∃R,m^(P/4+1)%P=R:=⟨_,rfl⟩
 have k4:R<P:=by
  rw[<-U];refine Vm _ ?_;have:=hR.hP2;omega
 rw[U];have ko:Hid (m^(P/4+1)%P=R):=U;have hg:Hid (R<P):=k4;clear em hx ha hb hc hd hR U k4 k7;go_enter func133,ntmps133;go_wp2;have K0:=Dy w p0 p1 n p D E I C a b c d;have Z:=(K0.alloc (.cells #[.int .u64 0,.int .u64 0,.int .u64 0,.int .u64 0] 68)).cons (At4.made _ 68 0 0 0 0 rfl).blk;have hz:(((w.alloc (.cells #[.int .u64 p0,.int .u64 p1,.int .u64 n,.int .u64 p,.int .u64 D,.int .u64 E,.int .u64 I,.int .u64 C] 112)).alloc (.cells #[.int .u64 a,.int .u64 b,.int .u64 c,.int .u64 d] 68)).alloc (.cells #[.int .u64 0,.int .u64 0,.int .u64 0,.int .u64 0] 68)).heap.size=w.heap.size+1+1+1:=by simp
 rw[hz]at Z;clear K0 hz;generalize U2 _ _=W0 at Z⊢;generalize h3:w.heap.size+1+1+1=L at Z⊢;generalize h2:w.heap.size+1+1=N at Z⊢;generalize h1:w.heap.size+1=G at Z⊢;have Q2:Hid (w.heap.size<=N):=by unfold Hid;omega
 have Q3:Hid (w.heap.size<=L):=by unfold Hid;omega
 generalize h0:w.heap.size=g at Z Q2 Q3⊢;have H0:Hid (w.heap.size=g):=h0;have hu:L≠g:=oM;have kb:L≠G:=oM;have kn:L≠N:=oM;clear h0 h1 h2 h3;have hk:∀x∈([⟨g,0,p0,p1,n,p⟩,⟨g,4,D,E,I,C⟩,⟨G,0,a,b,c,d⟩,⟨N,0,0,0,0,0⟩]:List Blk),L≠x.k:=by simp only[List.mem_cons,Ud,or_false];rintro x (rfl|rfl|rfl|rfl);exact hu;exact hu;exact kb;exact kn
 go_loopg [7] 254 (λgk s7 wr=>∃i u z B A:Nat,i+gk=254/\s7=.int .i64 i/\Kept w g (⟨L,0,u,z,B,A⟩ :: [⟨g,0,p0,p1,n,p⟩,⟨g,4,D,E,I,C⟩,⟨G,0,a,b,c,d⟩,⟨N,0,0,0,0,0⟩]) wr/\Hid (Four (.agg #[.int .u64 u,.int .u64 z,.int .u64 B,.int .u64 A]) (P/4%2^i)))
 case atStart =>
  refine⟨0,0,0,0,0,rfl,rfl,Z,?_⟩;rw[Wx,ZM];exact Four.mk dC dC dC dC rfl
 case round =>
  clear Z;obtain⟨i,u,z,B,A,hi,rfl,k,M⟩:=hrel;by_cases bf:i<254
  ·have q:val u z B A=P/4%2^i/\u<18446744073709551616/\z<18446744073709551616/\B<18446744073709551616/\A<18446744073709551616:=by
    obtain⟨a',b',c',d',e',h1,h2,h3,h4,h5⟩:=M.out;obtain⟨rfl,rfl,rfl,rfl⟩:a'=u/\b'=z/\c'=B/\d'=A:=by
     simp only[Um.injEq,YV.injEq,Yn.injEq,UV.injEq,true_and,and_true,XY]at e';exact⟨e'.1.symm,e'.2.1.symm,e'.2.2.1.symm,e'.2.2.2.symm⟩
    exact⟨h5.symm,h1,h2,h3,h4⟩
   have X:=Dd q.2.1 q.2.2.1 q.2.2.2.1 q.2.2.2.2 (i:=i) oM q.1;have xw:=k.head.at4.wd (i/64) oM;obtain⟨t,ht⟩:∃t,P/2^(i+2)%2=t:=⟨_,rfl⟩
   have kl:t<2:=oM;have T:t=P/4/2^i%2:=by rw[<-ht,Nat.div_div_eq_div_mul,show 4*2^i=2^(i+2) by rw[VS,Ut]]
   obtain⟨o,ho⟩:∃o,wd u z B A (i/64)+t*2^(i%64)=o:=⟨_,rfl⟩
   have Y:=De (i:=i) oM q.1 T ho.symm;obtain⟨hor,F⟩:=LY _ t (i%64) oM X kl;rw[ho]at hor F;have V:Hid (Four (.agg #[.int .u64 ((if i/64=0 then o else u:Nat):Int),.int .u64 ((if i/64=1 then o else z:Nat):Int),.int .u64 ((if i/64=2 then o else B:Nat):Int),.int .u64 ((if i/64=3 then o else A:Nat):Int)]) (P/4%2^(i+1))):=by
    refine Four.mk ?_ ?_ ?_ ?_ Y.symm
    ·split;exact F;exact q.2.1
    ·split;exact F;exact q.2.2.1
    ·split;exact F;exact q.2.2.2.1
    ·split;exact F;exact q.2.2.2.2
   obtain⟨y,hy⟩:∃y,t*2^(i%64)=y:=⟨_,rfl⟩
   have bd:y<18446744073709551616:=oM;rw[hy]at hor;obtain⟨v,hv⟩:∃v,wd u z B A (i/64)=v:=⟨_,rfl⟩
   rw[hv]at hor xw;obtain⟨j,hj⟩:∃j,i/64=j:=⟨_,rfl⟩
   obtain⟨r,hr⟩:∃r,i%64=r:=⟨_,rfl⟩
   obtain⟨H,S⟩:∃H,i+2=H:=⟨_,rfl⟩
   rw[hj]at xw V;have b7:Uv.wrap ((t:Int)*2^r)=(y:Int):=by
    rw[<-hr,<-hy,V0,WC];have:=wrapN (t*2^(i%64)) oM;rw[V0,WC]at this;exact this
   have k9:Hid (∀w,TW prog 61 #[.agg #[.int .u64 p0,.int .u64 p1,.int .u64 n,.int .u64 p],.int .i64 H] w (Ret λe w'=>Below w.heap.size w w'/\∃t:Nat,e=.int .u64 t/\t=P/2^H%2)):=λw=>qP _ P H hl.out oM w
   have HT:Hid (P/2^H%2=t):=by unfold Hid;rw[<-S];exact ht
   have e1:(i:Int).tdiv 64=(j:Int):=by rw[Wt oM];omega
   have e2:(i:Int).tmod 64=(r:Int):=by rw[Ys oM];omega
   have e3:(j:Int)<4:=oM;have e4:UR.wrap (j:Int)=(j:Int):=rP _ oM;have e6:(i:Int)+2=(H:Int):=oM;have e7:UR.wrap (H:Int)=(H:Int):=rP _ oM;have e9:r<64:=oM;have b2:(i:Int)<254:=oM;have T1:=λW (h:At4 W L u z B A)=>At4.setq h j o oM
   have Q:j<4:=oM;have O:=λW (h:At4 W L u z B A)=>At4.wd h j Q
   rw[<-hj,hv,hj]at O;have HJ:Hid (j<4):=Q;clear hy hv hj hr ho Y q ht T X S M Q
   go_upto_region 5 with fail
   refine anyTill.begin (λw'=>w'.cell? ⟨g,0,none⟩=some (.int .u64 p0)/\w'.cell? ⟨g,1,none⟩=some (.int .u64 p1)/\w'.cell? ⟨g,2,none⟩=some (.int .u64 n)/\w'.cell? ⟨g,3,none⟩=some (.int .u64 p)/\w'.cell? ⟨L,j,none⟩=some (.int .u64 v)/\Kept w g (⟨L,0,u,z,B,A⟩ :: [⟨g,0,p0,p1,n,p⟩,⟨g,4,D,E,I,C⟩,⟨G,0,a,b,c,d⟩,⟨N,0,0,0,0,0⟩]) w') 16 mixed (uX k.drew (O _ k.head.at4.drew)) (λs=>?_);refine anyTill.tk (i:=0) (v:=?_) rfl (Ub ⟨by rfl,?_⟩) s ?_
   rotate_left
   ·intro w f
    (try dsimp only at f)
    go_simp;try(with_reducible rfl)
   refine anyTill.tk (i:=1) (v:=?_) rfl (Ub ⟨by rfl,?_⟩) s ?_
   rotate_left
   ·intro w f
    (try dsimp only at f)
    go_simp;try(with_reducible rfl)
   refine anyTill.tk (i:=2) (v:=?_) rfl (Ub ⟨by rfl,?_⟩) s ?_
   rotate_left
   ·intro w f
    (try dsimp only at f)
    go_simp;try(with_reducible rfl)
   refine anyTill.tk (i:=3) (v:=?_) rfl (Ub ⟨by rfl,?_⟩) s ?_
   rotate_left
   ·intro w f
    (try dsimp only at f)
    go_simp;try(with_reducible rfl)
   refine anyTill.tk (i:=4) (v:=?_) rfl (Ub ⟨by rfl,?_⟩) s ?_
   rotate_left
   ·intro w f
    (try dsimp only at f)
    go_simp;try(with_reducible rfl)
   refine anyTill.tk (i:=5) (v:=?_) rfl (Ub ⟨by rfl,?_⟩) s ?_
   rotate_left
   ·intro w f
    (try dsimp only at f)
    go_simp;try(with_reducible rfl)
   refine anyTill.tk (i:=6) (v:=?_) rfl (Ub ⟨by rfl,?_⟩) s ?_
   rotate_left
   ·intro w f
    (try dsimp only at f)
    go_simp;try(with_reducible rfl)
   refine anyTill.tk (i:=7) (v:=?_) rfl (Ub ⟨by rfl,?_⟩) s ?_
   rotate_left
   ·intro w f
    (try dsimp only at f)
    go_simp;try(with_reducible rfl)
   refine anyTill.tk (i:=8) (v:=?_) rfl (Ub ⟨by rfl,?_⟩) s ?_
   rotate_left
   ·intro w f
    (try dsimp only at f)
    go_simp;try(with_reducible rfl)
   refine anyTill.tk (i:=9) (v:=?_) rfl (Ub ⟨by rfl,?_⟩) s ?_
   rotate_left
   ·intro w f
    (try dsimp only at f)
    go_simp;try(with_reducible rfl)
   refine anyTill.tk (i:=11) (v:=?_) rfl (Ub ⟨by rfl,?_⟩) s ?_
   rotate_left
   ·intro w f
    (try dsimp only at f)
    go_simp;try(with_reducible rfl)
   refine anyTill.tk (i:=12) (v:=?_) rfl (Ub ⟨by rfl,?_⟩) s ?_
   rotate_left
   ·intro w f
    (try dsimp only at f)
    go_simp;try(with_reducible rfl)
   try simp only[TL,TK]
   refine anyTill.step (i:=10) rfl kR (λK J=>?_);go_simp;refine(k9 _).mono ?_;rintro e w1 ⟨v',rfl,l,t',rfl,k6⟩;rw[HT.out]at k6;subst k6;have f:=k.drew.call l;refine J.out _ _ (λ_=>uX f (O _ f.head.at4)) ?_;try simp only[Ug,TD,TL,TK]
   have cj:=O _ f.head.at4;have cf:=f.head.f;have cz:=f.head.lt;refine anyTill.step (i:=13) rfl kR (λK J=>?_);go_simp;refine J.out _ _ (λ_=>uX f (O _ f.head.at4)) ?_;try simp only[Ug,TD,TL,TK]
   refine anyTill.step (i:=14) rfl kR (λK J=>?_);go_simp;refine J.out _ _ (λ_=>uX f (O _ f.head.at4)) ?_;try simp only[Ug,TD,TL,TK]
   refine anyTill.step (i:=15) rfl kR (λK J=>?_);go_simp;refine J.out _ _ (λ_=>uX f (O _ f.head.at4)) ?_;try simp only[Ug,TD,TL,TK]
   refine anyTill.step (i:=16) rfl kR (λK J=>?_);go_simp;refine J.out _ _ (λh=>Bool.noConfusion h) ?_;try simp only[Ug,TD,TL,TK]
   refine anyTill.done kR ?_ _;go_wp2;go_roundg (gk-1)
   case measure=>omega
   case rel =>
    refine⟨i+1,_,_,_,_,oM,rfl,?_,V⟩;exact(f.tail.set (j:=L) (i:=j) Q3.out hk _).cons (T1 _ f.head.at4).blk
  ·have h8:i=254:=oM;subst h8;have q:=M.out;have kp:=hl.lt;rw[Uf (show P/4<2^254 by unfold top at kp;omega)]at q;have hq:val u z B A=P/4/\u<18446744073709551615/\z<18446744073709551616/\B<18446744073709551616/\A<18446744073709551616:=by
    obtain⟨a',b',c',d',e',h1,h2,h3,h4,h5⟩:=q;obtain⟨rfl,rfl,rfl,rfl⟩:a'=u/\b'=z/\c'=B/\d'=A:=by
     simp only[Um.injEq,YV.injEq,Yn.injEq,UV.injEq,true_and,and_true,XY]at e';exact⟨e'.1.symm,e'.2.1.symm,e'.2.2.1.symm,e'.2.2.2.symm⟩
    refine⟨h5.symm,?_,h2,h3,h4⟩;have s:=ke.out;rw[h5]at s;unfold val at s;omega
   obtain⟨qe,k5⟩:∃qe,u+1=qe:=⟨_,rfl⟩
   have HE:Hid (Four (.agg #[.int .u64 qe,.int .u64 z,.int .u64 B,.int .u64 A]) (P/4+1)):=by
    refine Four.mk oM hq.2.2.1 hq.2.2.2.1 hq.2.2.2.2 ?_;rw[<-hq.1,<-k5];unfold val;omega
   have b3:(u:Int)+1=(qe:Int):=oM;have hw:=wrapN qe oM;obtain⟨b6,b5,bg,ba,qf⟩:=k.head.at4;have zq:=k.head.lt;obtain⟨be,bh,b9,bc,xf⟩:=k.tail.tail.tail.head.at4;have zx:=k.tail.tail.tail.head.lt;obtain⟨kx,kk,ki,kg,ff⟩:=k.tail.head.at4;have T:=k.tail.tail.head;have kv:=T.c0;have ku:=T.c1;have kf:=T.c2;have kt:=T.c3;have zf:=k.tail.head.lt;go_wp2_with fail
   have kr:=k.tail.set (j:=L) (i:=0) Q3.out hk (.int .u64 qe);refine(Br p0 p1 n p D E I C P _ _ _ _ HR.out HX.out HE.out _).mono ?_;rintro e w3 ⟨v,rfl,kd,q⟩;have K:=kr.call kd;obtain⟨Y,V,X,rd,rfl,-⟩:=id q;rw[ko.out]at q;have M:Hid (Four _ R):=q
   go_upto_region 8 with fail
   have k:Kept w g (⟨w3.heap.size,0,Y,V,X,rd⟩ :: [⟨g,0,p0,p1,n,p⟩,⟨g,4,D,E,I,C⟩,⟨G,0,a,b,c,d⟩,⟨N,0,0,0,0,0⟩]) _:=(K.alloc (.cells #[.int .u64 Y,.int .u64 V,.int .u64 X,.int .u64 rd] 68)).cons (At4.made w3 68 Y V X rd rfl).blk;have kj:=U3 K.head.lt;have kz:=U3 K.tail.tail.head.lt;have hm:=U3 K.tail.tail.tail.head.lt;have Q8:=mk1 (K.le);clear K;generalize U2 _ _=W4 at k⊢;generalize w3.heap.size=O at k kj kz hm Q8⊢;by_cases Q:R*R%P=m
   ·have ka:=Oe a b c d;go_region_held3 (λw'=>w'.cell? ⟨g,0,none⟩=some (.int .u64 p0)/\w'.cell? ⟨g,1,none⟩=some (.int .u64 p1)/\w'.cell? ⟨g,2,none⟩=some (.int .u64 n)/\w'.cell? ⟨g,3,none⟩=some (.int .u64 p)/\w'.cell? ⟨g,4,none⟩=some (.int .u64 D)/\w'.cell? ⟨g,5,none⟩=some (.int .u64 E)/\w'.cell? ⟨g,6,none⟩=some (.int .u64 I)/\w'.cell? ⟨g,7,none⟩=some (.int .u64 C)/\w'.cell? ⟨O,0,none⟩=some (.int .u64 Y)/\w'.cell? ⟨O,1,none⟩=some (.int .u64 V)/\w'.cell? ⟨O,2,none⟩=some (.int .u64 X)/\w'.cell? ⟨O,3,none⟩=some (.int .u64 rd)/\w'.cell? ⟨G,0,none⟩=some (.int .u64 a)/\w'.cell? ⟨G,1,none⟩=some (.int .u64 b)/\w'.cell? ⟨G,2,none⟩=some (.int .u64 c)/\w'.cell? ⟨G,3,none⟩=some (.int .u64 d)/\Kept w g (⟨O,0,Y,V,X,rd⟩ :: [⟨g,0,p0,p1,n,p⟩,⟨g,4,D,E,I,C⟩,⟨G,0,a,b,c,d⟩,⟨N,0,0,0,0,0⟩]) w') (first|(with_reducible exact uB k)|(with_reducible exact uB k.drew)|fail) (first|(go_at_call 55;refine(rW HR.out M.out M.out _).mono ?_;rintro e w5 ⟨v,rfl,l,J⟩;rw[Q]at J;obtain rfl:=J.inj HX.out;clear J;(first|(with_reducible (have f:=k.drew.call l))|(with_reducible (have f:=k.call l))|fail);clear k l;have k:=f;clear f))
    have S:=mk1 Q
    rename_i hHeld
    obtain⟨H,bb,b4,b8,e',kw,-⟩:=id M.out;obtain⟨rfl,-⟩:H=Y/\True:=by
     simp only[Um.injEq,YV.injEq,Yn.injEq,UV.injEq,true_and,and_true,XY]at e';exact⟨e'.1.symm,yB5⟩
    have F:R%2=H%2:=by
     obtain⟨x1,x2,x3,s,e',-,-,-,-,h5⟩:=id M.out;simp only[Um.injEq,YV.injEq,Yn.injEq,UV.injEq,true_and,and_true,XY]at e';rw[h5,<-e'.1];unfold val;omega
    have h7:=and_one H kw;obtain⟨kc,kh,kq,ky,tf⟩:=k.head.at4;have zt:=k.head.lt;obtain⟨he,hp,hh,hs,uf⟩:=k.tail.tail.tail.tail.head.at4;have zu:=k.tail.tail.tail.tail.head.lt;have h2:H%2=0\/H%2=1:=oM;rcases h2 with h|h
    ·rw[h]at h7 F;have h9:Hid (Four (.agg #[.int .u64 H,.int .u64 V,.int .u64 X,.int .u64 rd]) (even P R)):=by
      have h1:even P R=R:=by unfold even;rw[yB4 oM]
      unfold Hid;rw[h1];exact M.out
     go_wp2;have s:=k.tail.tail.tail.tail.head.at4.self4 H V X rd;unfold set4 at s;refine TM (v:=?v) ?hr rfl ?hR
     case hr=>simp[results,Tryz.results133,go_sem,s.c0,s.c1,s.c2,s.c3];rfl
     refine⟨_,rfl,?_,RootR.yes S.out h9.out⟩;rw[H0.out];exact aF k.bl Q2.out _ _ _ _
    ·rw[h]at h7 F;have HO:=mk1 (F);obtain⟨kx,kk,ki,kg,ff⟩:=k.tail.head.at4;have T:=k.tail.tail.head;have kv:=T.c0;have ku:=T.c1;have kf:=T.c2;have kt:=T.c3;have zf:=k.tail.head.lt;go_wp2_with fail
     refine(Bt p0 p1 n p D E I C P _ _ HR.out M.out hg.out _).mono ?_;rintro e w8 ⟨v,rfl,km,hn⟩;obtain⟨sa,sb,sc,sd,rfl,-⟩:=id hn;have h9:Hid (Four (.agg #[.int .u64 sa,.int .u64 sb,.int .u64 sc,.int .u64 sd]) (even P R)):=by
      have h1:(P-R)%P=even P R:=by
       unfold even;rw[yB3 HO.out];exact Uf (by have:=hg.out;have:=HO.out;omega)
      unfold Hid;rw[<-h1];exact hn
     replace k:=k.call km;obtain⟨kc,kh,kq,ky,tf⟩:=k.head.at4;have zt:=k.head.lt;obtain⟨he,hp,hh,hs,uf⟩:=k.tail.tail.tail.tail.head.at4;have zu:=k.tail.tail.tail.tail.head.lt;go_wp2;have s:=(k.tail.tail.tail.tail.head.at4.other4 hm (.int .u64 sa) (.int .u64 sb) (.int .u64 sc) (.int .u64 sd)).self4 sa sb sc sd;unfold set4 at s;refine TM (v:=?v2) ?hr2 rfl ?hR2
     case hr2=>simp[results,Tryz.results133,go_sem,s.c0,s.c1,s.c2,s.c3];rfl
     refine⟨_,rfl,?_,RootR.yes S.out h9.out⟩;rw[H0.out];exact aF (aF k.bl Q8.out _ _ _ _) Q2.out _ _ _ _
   ·go_region_held3 (λw'=>w'.cell? ⟨g,0,none⟩=some (.int .u64 p0)/\w'.cell? ⟨g,1,none⟩=some (.int .u64 p1)/\w'.cell? ⟨g,2,none⟩=some (.int .u64 n)/\w'.cell? ⟨g,3,none⟩=some (.int .u64 p)/\w'.cell? ⟨g,4,none⟩=some (.int .u64 D)/\w'.cell? ⟨g,5,none⟩=some (.int .u64 E)/\w'.cell? ⟨g,6,none⟩=some (.int .u64 I)/\w'.cell? ⟨g,7,none⟩=some (.int .u64 C)/\w'.cell? ⟨O,0,none⟩=some (.int .u64 Y)/\w'.cell? ⟨O,1,none⟩=some (.int .u64 V)/\w'.cell? ⟨O,2,none⟩=some (.int .u64 X)/\w'.cell? ⟨O,3,none⟩=some (.int .u64 rd)/\w'.cell? ⟨G,0,none⟩=some (.int .u64 a)/\w'.cell? ⟨G,1,none⟩=some (.int .u64 b)/\w'.cell? ⟨G,2,none⟩=some (.int .u64 c)/\w'.cell? ⟨G,3,none⟩=some (.int .u64 d)/\Kept w g (⟨O,0,Y,V,X,rd⟩ :: [⟨g,0,p0,p1,n,p⟩,⟨g,4,D,E,I,C⟩,⟨G,0,a,b,c,d⟩,⟨N,0,0,0,0,0⟩]) w') (first|(with_reducible exact uB k)|(with_reducible exact uB k.drew)|fail) (first|(go_at_call 55;refine(rW HR.out M.out M.out _).mono ?_;rintro e w5 ⟨v,rfl,l,J⟩;obtain⟨ta,tb,tc,td,rfl,F⟩:=four_ne J HX.out Q;have H:=LW F;clear J;(first|(with_reducible (have f:=k.drew.call l))|(with_reducible (have f:=k.call l))|fail);clear k l;have k:=f;clear f))
    have S:=mk1 Q
    rename_i hHeld
    obtain⟨he,hp,hh,hs,uf⟩:=k.tail.tail.tail.tail.head.at4;have zu:=k.tail.tail.tail.tail.head.lt;go_wp2;have s:At4 (set4 w5 N (.int .u64 0) (.int .u64 0) (.int .u64 0) (.int .u64 0)) N 0 0 0 0:=k.tail.tail.tail.tail.head.at4.self4 0 0 0 0;unfold set4 at s;refine TM (v:=?v3) ?hr3 rfl ?hR3
    case hr3=>simp[results,Tryz.results133,go_sem,s.c0,s.c1,s.c2,s.c3];rfl
    refine⟨_,rfl,?_,RootR.no S.out⟩;rw[H0.out];exact aF k.bl Q2.out _ _ _ _
def kK(T:Bs):Nat->Bs
 | 0=>TP 32 0
 | k+1=>(kK T k).setIfInBounds k T[k]!
theorem jC(T:Bs)(k:Nat):(kK T k).size=32:=by
 induction k with
 | zero=>simp[kK]
 | succ k ih=>simp[kK,ih]
theorem Ee(T:Bs)(k j:Nat)(c:k<=32)(b:j<k):(kK T k)[j]! = T[j]!:=by
 induction k with
 | zero=>omega
 | succ k ih =>
  by_cases h:j=k
  ·subst h;exact getElem!_set_same _ _ _ (by rw[jC];omega)
  ·rw[kK,getElem!_set_other _ _ _ _ h];exact ih oM oM
theorem Cm{w:TA}{g:Nat}{T:Bs}(b:T.size=32)(h:Holds encB w g 0 (kK T 32)):Holds encB w g 0 T:=by
 intro j k;rw[<-Ee T 32 j (TG _) oM];exact h j (by rw[jC];omega)
def wordOf(a b c d k:Nat):Nat:=if k<8 then a else if k<16 then b else if k<24 then c else d
theorem AH(x j:Nat)(k:j<8):(be8 x)[j]! = TV (x/2^(8*(7-j))):=by
 match j,k with
 | 0,_=>rfl
 | 1,_=>rfl
 | 2,_=>rfl
 | 3,_=>rfl
 | 4,_=>rfl
 | 5,_=>rfl
 | 6,_=>rfl
 | 7,_ =>
  show TV x=TV (x/2^(8*(7-7)));rw[Yg,XZ,Wx,yAR]
theorem MO(a b c d i:Nat)(g:i<32):(be32 a b c d)[i]! = TV (wordOf a b c d (31-i)/2^(8*((31-i)%8))):=by
 have e:be32 a b c d=be8 d++be8 c++be8 b++be8 a:=rfl;have s1:(be8 d++be8 c).size=16:=by simp only[UA,aW]
 have s2:(be8 d++be8 c++be8 b).size=24:=by simp only[UA,aW]
 unfold wordOf;by_cases k:i<8
 ·rw[yB4 oM,yB4 oM,yB4 oM,show(31-i)%8=7-i by omega,<-AH d i k,
   e,app_front _ _ i oM,<-getElem!_pos (be8 d++be8 c++be8 b) i oM,app_front _ _ i oM,<-getElem!_pos (be8 d++be8 c) i oM,app_front _ _ i (by rw[aW];exact k),<-getElem!_pos (be8 d) i (by rw[aW];exact k)]
 ·by_cases j:i<16
  ·rw[yB4 oM,yB4 oM,yB3 oM,show(31-i)%8=7-(i-8) by omega,<-AH c (i-8) oM,
    e,app_front _ _ i oM,<-getElem!_pos (be8 d++be8 c++be8 b) i oM,app_front _ _ i oM,<-getElem!_pos (be8 d++be8 c) i oM,app_back _ _ i (by rw[aW];omega) (by rw[aW,aW];omega),aW]
  ·by_cases f:i<24
   ·rw[yB4 oM,yB3 oM,show(31-i)%8=7-(i-16) by omega,<-AH b (i-16) oM,
     e,app_front _ _ i oM,<-getElem!_pos (be8 d++be8 c++be8 b) i oM,app_back _ _ i oM (by rw[s1,aW];omega),s1]
   ·rw[yB3 oM,show(31-i)%8=7-(i-24) by omega,<-AH a (i-24) oM,
     e,app_back _ _ i oM (by rw[s2,aW];omega),s2]
theorem Gc{a b c d:Nat}(k:Nat)(g:a<18446744073709551616)(f:b<18446744073709551616)(e:c<18446744073709551616)(hd:d<18446744073709551616):wordOf a b c d k<18446744073709551616:=by
 unfold wordOf;split;exact g;split;exact f;split;exact e;exact hd
theorem At4.word{w:TA}{k a b c d:Nat}(h:At4 w k a b c d)(i:Nat)(j:i<32):w.cell? ⟨k,i/8,none⟩=some (uZ (wordOf a b c d i:Int)):=by
 unfold wordOf;by_cases g:i<8
 ·rw[yB3 g,show i/8=0 by omega];exact h.c0
 ·rw[yB4 g];by_cases e:i<16
  ·rw[yB3 e,show i/8=1 by omega];exact h.c1
  ·rw[yB4 e];by_cases f:i<24
   ·rw[yB3 f,show i/8=2 by omega];exact h.c2
   ·rw[yB4 f,show i/8=3 by omega];exact h.c3
theorem vS(x:TC)(m:Nat)(w:TA)(H:Four x m):
 TW prog 63 #[x] w (rZ w λe w'=>∃a b c d:Nat,x=.agg #[uZ a,uZ b,uZ c,uZ d]/\e=.string ⟨be32 a b c d⟩):=by
 obtain⟨a,b,c,d,rfl,I,F,B,hd,J⟩:=H;clear J;have s:∀w:TA,(VI 23 (iZ 32) (iZ 32)).run prog w=.ok (.slice (some ⟨w.heap.size,0,none⟩) 32 32) (w.alloc (.cells (madeCells #[.int .u8 0] 32) 5)):=
  XO (P:=prog) 23 5 (.int .u8 0) 1 slice22 info5 rfl .i64 .i64 32 oM oM
 go_enter func63,ntmps63;go_wp2;have l:Holds encB ((w.alloc (.cells #[uZ a,uZ b,uZ c,uZ d] 68)).alloc (.cells (madeCells #[.int .u8 0] 32) 5)) (w.heap.size+1) 0 (TP 32 0):=by
  have:=Holds.made (enc:=encB) (w.alloc (.cells #[uZ a,uZ b,uZ c,uZ d] 68)) 5 32 0;rw[World.size_alloc]at this;exact this
 have g:=below2 w (.cells #[uZ a,uZ b,uZ c,uZ d] 68) (.cells (madeCells #[.int .u8 0] 32) 5);have X:=(At4.made w 68 a b c d rfl).alloc (.cells (madeCells #[.int .u8 0] 32) 5);generalize U2 _ _=W at l g X⊢;have r:Hid (Below w.heap.size w W):=g;clear g s;go_loopg [4] 32 (λgk s4 wr=>∃(k:Nat),k+gk=32/\s4=iZ k/\Holds encB wr (w.heap.size+1) 0 (kK (be32 a b c d) k)/\At4 wr w.heap.size a b c d/\Hid (Below w.heap.size w wr))
 case atStart=>exact⟨0,rfl,rfl,l,X,r⟩
 case round =>
  obtain⟨k,O,rfl,n,A,y⟩:=hrel;by_cases o:k<32
  ·obtain⟨D,C⟩:=n k (by rw[jC];omega);rw[TO]at D C;have t:=A.word (31-k) oM;have j:=Gc (31-k) I F B hd;have f:=MO a b c d k o;obtain⟨q,z⟩:∃q,31-k=q:=⟨_,rfl⟩
   rw[z]at t j f;generalize wordOf a b c d q=v at t j f;have K:(31:Int)-(k:Int)=(q:Int):=oM;have N:(q:Int).tdiv 8=((q/8:Nat):Int):=by rw[Wt oM];omega
   have M:(q:Int).tmod 8=((q%8:Nat):Int):=by rw[Ys oM];omega
   have L:(q/8:Nat)<4:=oM;have u:(k:Int)<32:=oM;have E:(8:Int)*((q%8:Nat):Int)=((8*(q%8):Nat):Int):=oM;have hv:(UV .u8 ((v:Int)/2^(8*(q%8))%256))=encB (be32 a b c d)[k]!:=by
    rw[f,<-byte_at v (2^(8*(q%8))),WC];rfl
   have G:Hid (_=_):=hv;clear hv f z;go_wp2;rw[G.out];go_roundg (gk-1)
   case measure=>omega
   case rel =>
    refine⟨k+1,oM,rfl,?_,A.other oM _,y.setCell (p:=⟨w.heap.size+1,k,none⟩) (Nat.le_succ _) _⟩;have:=Holds.set n (i:=k) (by rw[jC];omega) (be32 a b c d)[k]!;rw[TO]at this;exact this
  ·have f:k=32:=oM;subst f;have j:=Cm (oL a b c d) n;have t:=conv_str prog 23 9 5 slice22 int5 str9 wr (w.heap.size+1) 0 32 32 _ j (oL a b c d);clear n j;go_wp2;go_ret;exact⟨_,rfl,y.out,a,b,c,d,rfl,rfl⟩
end
section
open Go.RowKit Go.Sort Go.Deep
structure Ord(N:Nat):Prop where
 gap:Gap 4624529908474429119 4994812053365940164 1 N
 ref:RefP 13822214165235122497 13451932020343611451 18446744073709551614 18446744073709551615 4624529908474429119 4994812053365940164 1 0 N
 le:N<=top
 n2:2<=N%18446744073709551616
variable {N:Nat}
theorem Ord.pos(O:Ord N):0<N:=by have:=O.n2;omega
theorem Ord.four(O:Ord N){a:Nat}(h:a<N):Four (nv a) a:=oH (TF h O.le)
def sTi(N a b:Nat):Nat:=a*b%N
def sIn(N a:Nat):Nat:=a^(N-2)%N
theorem Ig(O:Ord N){a b:Nat}(d:a<N)(k:b<N):Gives 113 #[gv1,nv a,nv b] (nv (sTi N a b)):=λw =>
 (oN _ _ _ N _ _ a b O.gap (O.four d) (O.four k) w).mono (by rintro e w' ⟨v,rfl,k,c⟩;exact⟨_,rfl,k,c.nv⟩)
theorem Oh(O:Ord N){a:Nat}(c:a<N):Gives 90 #[gv1,nv a] (nv (sIn N a)):=λw =>
 (tV _ _ _ N _ a O.gap O.n2 (O.four c) w).mono (by rintro e w' ⟨v,rfl,k,b⟩;exact⟨_,rfl,k,b.nv⟩)
theorem OA(O:Ord N){a b:Nat}(d:a<N)(k:b<N):Gives 55 #[rv1,nv a,nv b] (nv (sTi N a b)):=λw =>
 (rW O.ref (O.four d) (O.four k) w).mono (by rintro e w' ⟨v,rfl,k,c⟩;exact⟨_,rfl,k,c.nv⟩)
theorem OD(O:Ord N){a:Nat}(c:a<N):Gives 62 #[rv1,nv a] (nv (sIn N a)):=λw =>
 (Bu _ _ _ _ _ _ _ _ N _ a O.ref (O.four c) w).mono (by rintro e w' ⟨v,rfl,k,b⟩;exact⟨_,rfl,k,b.nv⟩)
theorem BK{a x y z u:Nat}(h:nv a=.agg #[uZ x,uZ y,uZ z,uZ u]):be32 x y z u=bx a:=by
 have k:wn a=[uZ x,uZ y,uZ z,uZ u]:=by
  unfold nv at h;injection h with h
  exact congrArg Array.toList h
 unfold wn at k;simp only[Yn.injEq,UV.injEq,true_and,and_true,Int.natCast_inj]at k;obtain⟨rfl,rfl,rfl,rfl⟩:=k;rfl
theorem Bz(O:Ord N){a:Nat}(c:a<N):Gives 63 #[nv a] (.string ⟨bx a⟩):=λw =>
 (vS _ a w (O.four c)).mono (by
  rintro e w' ⟨v,rfl,k,x,y,z,u,b,rfl⟩;exact⟨_,rfl,k,by rw[BK b]⟩)
def cb(b:Bs):List TC:=b.toList.map encB
theorem sS(b:Bs):(cb b).length=b.size:=by unfold cb;rw[Uk,TR]
theorem xH{w:TA}{g:Nat}{b:Bs}(h:Holds encB w g 0 b):w.rangeAt g 0 (cb b)/\w.there g 0 (cb b).length:=by
 refine⟨λj v hv=>?_,λj k=>?_⟩
 ·have k:j<b.size:=by rw[<-sS];exact(T9.1 hv).1
  rw[(h j k).1];unfold cb at hv;rw[UX,UF,Uj k]at hv;rw[getElem!_pos b j k];exact hv
 ·rw[sS]at k;exact⟨by rw[(h j k).1];rfl,(h j k).2⟩
theorem cb_holds{w:TA}{g:Nat}{b:Bs}(d:w.rangeAt g 0 (cb b))(c:w.there g 0 (cb b).length):Holds encB w g 0 b:=λj k=>by
 refine⟨d j _ ?_,(c j (by rw[sS];exact k)).2⟩;unfold cb;rw[UX,UF,Uj k,getElem!_pos b j k];rfl
def Kn(f:FuncId)(args:Array TC)(b:Bs)(n:Nat):Prop:=∀w,TW prog f args w (Ret λe w'=>∃k,RG.Made w k (cb b) w'/\e=.slice (some (aZ k)) n n)
theorem Ih(O:Ord N){a:Nat}(i:a<N):Kn 84 #[nv a] (bx a) 32:=λw =>
 (zN _ a w (O.four i)).mono (by
  rintro e w' ⟨v,rfl,d,g,x,y,z,u,rfl,b,f,k⟩;rw[BK f]at k;obtain⟨j,c⟩:=xH k;exact⟨_,rfl,g,⟨d,b,Holds.lt k (by rw[gJ];omega),j,c⟩,rfl⟩)
end
section
open Go.RowKit Go.Sort Go.Deep
variable {P:Nat}[NeZero P]{N:Nat}
theorem Tk(a b c d p q r s:Nat)(w:TA):(binOp .eql 46 (.agg #[uZ a,uZ b,uZ c,uZ d]) (.agg #[uZ p,uZ q,uZ r,uZ s])).run prog w=.ok (.bool (decide (a=p/\b=q/\c=r/\d=s))) w:=by
 go_simp;rw[E9 9997,Result.andThen_ok];by_cases k:a=p/\b=q/\c=r/\d=s
 ·rw[decide_eq_true k];obtain⟨rfl,rfl,rfl,rfl⟩:=k;simp
 ·have e:(decide (a=p) && (decide (b=q) && (decide (c=r) && decide (d=s))))=false:=by
   rw[<-Bool.not_eq_true,T0,T0,T0];simpa using k
  rw[decide_eq_false k,e];simp
theorem eqS{a b:Nat}(c:a<top)(k:b<top)(w:TA):(binOp .eql 46 (nv a) (nv b)).run prog w=.ok (.bool (decide (a=b))) w:=by
 refine(Tk (a%18446744073709551616) (a/18446744073709551616%18446744073709551616) (a/340282366920938463463374607431768211456%18446744073709551616) (a/6277101735386680763835789423207666416102355444464034512896%18446744073709551616) (b%18446744073709551616) (b/18446744073709551616%18446744073709551616) (b/340282366920938463463374607431768211456%18446744073709551616) (b/6277101735386680763835789423207666416102355444464034512896%18446744073709551616) w).trans ?_;simp only[rQ c k]
theorem u40:(prog.underlying 46).map (·.isRow)=some true:=kR
theorem i40:(prog.info? 46).map (·.size)=some 4:=kR
theorem u38:(prog.underlying 44).map (·.isRow)=some true:=kR
theorem i38:(prog.info? 44).map (·.size)=some 4:=kR
theorem u44:(prog.underlying 68).map (·.isRow)=some true:=kR
theorem i44:(prog.info? 68).map (·.size)=some 4:=kR
theorem zZ(O:Ord N)(a b:Nat)(f:a<N)(c:b<N):Gives 80 #[(nv a),(nv b)] (nv (sTi N a b)):=by
 intro w;go_enter func80,ntmps80;refine RG.M.enter [(0,.v (nv a)),(1,.v (nv b))] 12 kR ?_;intro a0 e;repeat refine TI ?_
 refine e.T [.m 0,.m 1,.m 2] [(0,wn a),(1,wn b),(2,RG.z 4)] [] [wn a,wn b,RG.z 4] [2,3,4] ⟨RG.mk 0 46,RG.mk 1 46,RG.mk 2 46,yB5⟩ ?_;intro m o j l g d;repeat refine TI ?_
 refine d.D [.c gv1,.s (.p 0 0),.x (nv a),.s (.p 1 0),.x (nv b),.c (nv (sTi N a b)),.x (nv (sTi N a b)),.u 2] [] [(2,7,wn (sTi N a b))] [wn a,wn b,wn (sTi N a b)] [4] ⟨RG.cl iD,RG.st,RG.ld u38 i38,RG.st,RG.ld u38 i38,RG.cl (Ig O f c),RG.st,RG.pt i40,yB5⟩ ?_;intro i n k;refine UZ ?_;refine TM (v:=(nv (sTi N a b))) (RG.aC k.st 4 46 rfl 2 _ rfl (k.at (s:=(.p 2 0))) u40 i40) k.sl.defers ?_;exact⟨_,rfl,k.st.bel.below,rfl⟩
theorem EE(O:Ord N)(a:Nat)(d:a<N):Gives 44 #[(nv a)] (nv (sIn N a)):=by
 intro w;go_enter func44,ntmps44;refine RG.M.enter [(0,.v (nv a))] 8 kR ?_;intro a0 c;repeat refine TI ?_
 refine c.T [.m 0,.m 1] [(0,wn a),(1,RG.z 4)] [] [wn a,RG.z 4] [1,2] ⟨RG.mk 0 46,RG.mk 1 46,yB5⟩ ?_;intro i l g e b;repeat refine TI ?_
 refine b.D [.c gv1,.s (.p 0 0),.x (nv a),.c (nv (sIn N a)),.x (nv (sIn N a)),.u 1] [] [(1,5,wn (sIn N a))] [wn a,wn (sIn N a)] [2] ⟨RG.cl iD,RG.st,RG.ld u38 i38,RG.cl (Oh O d),RG.st,RG.pt i40,yB5⟩ ?_;intro f j k;refine UZ ?_;refine TM (v:=(nv (sIn N a))) (RG.aC k.st 2 46 rfl 1 _ rfl (k.at (s:=(.p 1 0))) u40 i40) k.sl.defers ?_;exact⟨_,rfl,k.st.bel.below,rfl⟩
theorem KW(v:TC)(m:Nat)(ok:Bool)(w:TA)(c:∀w',RG.BelX w.heap.size [] w w'->TW prog 31 #[gv1,v] w' (Ret λe b=>Below w'.heap.size w' b/\e=.tuple #[nv m,.bool ok])):
 TW prog 12 #[v] w (rZ w λe w'=>e=.tuple #[nv m,.bool ok]):=by
 go_enter func12,ntmps12;refine RG.M.enter [(0,.v v)] 15 kR ?_;intro a0 f;repeat refine TI ?_
 refine f.T [.m 0,.x (.bool false)] [(0,RG.z 4)] [] [RG.z 4] [0,2,3] ⟨RG.mk 0 46,RG.st,yB5⟩ ?_;intro n p i g;repeat refine TI ?_
 refine g.T [.c gv1,.x v,.c (.tuple #[nv m,.bool ok]),.x (.tuple #[nv m,.bool ok]),.x (nv m),.x (.bool ok),.m 1,.u 1,.x (.bool ok)] [(6,RG.z 4)] [(1,7,wn m)] [RG.z 4,wn m] [2,3,4,5] ⟨RG.cl iD,RG.st,RG.clB (λ_ _=>kR) c,RG.st,RG.st,RG.st,RG.mk 1 44,RG.pt i38,RG.st,yB5⟩ ?_;intro l o q d;repeat refine TI ?_
 refine d.T [.x (nv m),.x (nv m),.x (.bool ok),.u 0,.x (.bool ok)] [] [(0,3,wn m)] [wn m,wn m] [2,3] ⟨RG.ld u38 i38,RG.st,RG.st,RG.pt i40,RG.st,yB5⟩ ?_;intro r j k;refine UZ ?_;refine TM (v:=.tuple #[nv m,.bool ok]) (RG.bQ k.st 2 3 46 rfl 0 _ rfl (k.at (s:=.p 0 0)) _ (k.av (v:=.bool ok) kR) u40 i40) k.sl.defers ?_;exact⟨_,rfl,k.st.bel.below,rfl⟩
theorem KX(O:Ord N)(v:TC)(k:Bs)(w:TA)(hv:Arg w v k):TW prog 12 #[v] w (rZ w λe w'=>e=.tuple #[nv ((rq N k).getD 0),.bool (rq N k).isSome]):=by
 refine KW v _ _ w λw' c=>?_
 have h:=Ad O.gap v k w' (hv.below c.below);cases b:rq N k with
 | none=>rw[b]at h;exact h
 | some n=>rw[b]at h;exact h
theorem Bd(O:Ord N){a:Nat}(e:a<N):Kn 40 #[nv a] (bx a) 32:=by
 intro w;go_enter func40,ntmps40;refine RG.M.enter [(0,.v (nv a))] 6 kR ?_;intro a0 d;repeat refine TI ?_
 refine d.T [.m 0,.x (.slice none 0 0)] [(0,wn a)] [] [wn a] [1,2] ⟨RG.mk 0 46,RG.st,yB5⟩ ?_;intro l g f c;repeat refine TI ?_
 refine c.t [.s 3 [] (.p 0 0),.x 4 [(3,0)] (nv a),⟨some 5,[(4,1)],.s 1 32 32,.make 1⟩,.s 2 [(5,2)] (.s 1 32 32)] [(2,cb (bx a))] [] [wn a,cb (bx a)] [(2,.s 1 32 32)] ⟨RG.st,RG.ld u38 i38,RG.cm 1 (λw _=>Ih O e w) λ_ _=>kR,RG.st,yB5⟩ ?_;intro j i m k;refine UZ ?_;refine TM (v:=_) (RG.eD 2 rfl _ (k.at (s:=.s 1 32 32))) k.sl.defers ?_;exact⟨_,rfl,_,k.st.made (b:=1) rfl,rfl⟩
theorem EM(O:Ord N)(s:ByteArray):Gives 20 #[.string s] (.tuple #[nv (nuV s.data),.bool (rq N s.data).isSome]):=by
 intro w;have k:=Ou O.ref s;obtain⟨m,f⟩:∃m,m=nuV s.data:=⟨_,rfl⟩
 obtain⟨ok,d⟩:∃b,b=(rq N s.data).isSome:=⟨_,rfl⟩
 rw[<-f,<-d]at k⊢;go_enter func20,ntmps20;refine RG.M.enter [(0,.v (.string s))] 9 kR ?_;intro a0 g;repeat refine TI ?_
 refine g.T [.m 0,.x (.bool false)] [(0,RG.z 4)] [] [RG.z 4] [0,2,3] ⟨RG.mk 0 68,RG.st,yB5⟩ ?_;intro n l j e;repeat refine TI ?_
 refine e.T [.c rv1,.x (.string s),.c (.tuple #[nv m,.bool ok]),.x (nv m),.x (.bool ok),.u 0,.x (.bool ok)] [] [(0,5,wn m)] [wn m] [2,3] ⟨RG.cl Kf,RG.st,RG.cl k,RG.st,RG.st,RG.pt i44,RG.st,yB5⟩ ?_;intro i o c;refine UZ ?_;refine TM (v:=.tuple #[nv m,.bool ok]) (RG.bQ c.st 2 3 68 rfl 0 _ rfl (c.at (s:=.p 0 0)) _ (c.av (v:=.bool ok) kR) u44 i44) c.sl.defers ?_;exact⟨_,rfl,c.st.bel.below,rfl⟩
end
namespace SP
open Go.RowKit
theorem S5(x:BitVec 64):(x.toNat:Int)<18446744073709551616:=by
 have:=x.isLt;omega
theorem eE(x:BitVec 64):Wr 64 (x.toNat:Int)=x:=by
 apply Z0;rw[yAa,Y5];exact Uf x.isLt
theorem fV(x:BitVec 64):Uv.wrap (x.toNat:Int)=x.toNat:=by
 rw[Xx];have:=S5 x;exact yAV oM this
def u(v:BitVec 64):Int:=(v.toNat:Int)
theorem dO(a b:BitVec 64):bits .xor .u64 (u a) (u b)=u (a ^^^ b):=by
 show Uv.wrap ((Wr 64 (a.toNat:Int) ^^^ Wr 64 (b.toNat:Int)).toNat:Int)=_;rw[eE,eE,fV];rfl
theorem eC(a b:BitVec 64):bits .and .u64 (u a) (u b)=u (a &&& b):=by
 show Uv.wrap ((Wr 64 (a.toNat:Int) &&& Wr 64 (b.toNat:Int)).toNat:Int)=_;rw[eE,eE,fV];rfl
theorem dV(a b:BitVec 64):bits .or .u64 (u a) (u b)=u (a ||| b):=by
 show Uv.wrap ((Wr 64 (a.toNat:Int) ||| Wr 64 (b.toNat:Int)).toNat:Int)=_;rw[eE,eE,fV];rfl
theorem pW(a:BitVec 64):bits .xor .u64 Uv.max (u a)=u (~~~a):=by
 have e:Uv.max=u (BitVec.allOnes 64):=dK;rw[e,dO,BitVec.allOnes_xor]
theorem RS(k:Nat)(b:k<64):bits .and .u64 (k:Int) 63=k:=by
 have h:∀j:Fin 64,bits .and .u64 ((j.val:Nat):Int) 63=(j.val:Int):=dK;exact h ⟨k,b⟩
theorem yL(x:BitVec 64)(k:Nat):Uv.wrap (u x*2^k)=u (x <<< k):=by
 unfold u;rw[Xx,BitVec.toNat_shiftLeft,Nat.shiftLeft_eq,Int.natCast_emod,V0,WC];rfl
theorem ED(x:BitVec 64)(k:Nat):u x/2^k=u (x >>> k):=by
 unfold u;rw[BitVec.toNat_ushiftRight,Nat.shiftRight_eq_div_pow,YN,WC];rfl
def rol(w:BitVec 64)(n:Nat):BitVec 64:=w <<< n ||| w >>> (64-n)
abbrev St:=Array (BitVec 64)
def enc(v:BitVec 64):TC:=uZ (u v)
def D5(d:St)(x:Nat):BitVec 64:=d[x]! ^^^ d[x+5]! ^^^ d[x+10]! ^^^ d[x+15]! ^^^ d[x+20]!
def lL(d:St):Nat->St
 | 0=>#[0,0,0,0,0]
 | k+1=>(lL d k).setIfInBounds k (D5 d k)
def bI(d:St)(i:Nat)(v:BitVec 64):St:=d.setIfInBounds i (d[i]! ^^^ v)
def l7(v:BitVec 64)(x:Nat)(d:St):Nat->St
 | 0=>d
 | m+1=>bI (l7 v x d m) (x+5*m) v
def bP(s:St)(x:Nat):BitVec 64:=s[(x+4)%5]! ^^^ rol s[(x+1)%5]! 1
def jY(s d:St):Nat->St
 | 0=>d
 | k+1=>l7 (bP s k) k (jY s d k) 5
def sW(d:St):St:=jY (lL d 5) d 5
theorem cM(d:St)(i:Nat)(v:BitVec 64):(bI d i v).size=d.size:=by simp[bI]
theorem sZ(d:St)(k:Nat):(lL d k).size=5:=by
 induction k with
 | zero=>rfl
 | succ k ih=>simp[lL,ih]
theorem rA(v:BitVec 64)(x:Nat)(d:St)(m:Nat):(l7 v x d m).size=d.size:=by
 induction m with
 | zero=>rfl
 | succ k ih=>simp[l7,cM,ih]
theorem qG(s d:St)(m:Nat):(jY s d m).size=d.size:=by
 induction m with
 | zero=>rfl
 | succ k ih=>simp[jY,rA,ih]
structure Tm where
 x:Nat
 y:Nat
 m:BitVec 64
 d:St
def wB(t:Nat):Nat:=(t+1)*(t+2)/2%64
def CG(t:Nat)(s:Tm):Tm:=
 { x:=s.y,y:=(2*s.x+3*s.y)%5,m:=s.d[s.y+5*((2*s.x+3*s.y)%5)]!,d:=s.d.setIfInBounds (s.y+5*((2*s.x+3*s.y)%5)) (rol s.m (wB t)) }
def tX(d:St):Nat->Tm
 | 0=>{ x:=1,y:=0,m:=d[1]!,d:=d }
 | t+1=>CG t (tX d t)
def qN(d:St):St:=(tX d 24).d
theorem Ew(d:St)(hd:d.size=25)(t:Nat):(tX d t).x<5/\(tX d t).y<5/\(tX d t).d.size=25:=by
 induction t with
 | zero=>exact⟨show 1<5 by decide,show 0<5 by decide,hd⟩
 | succ t ih =>
  obtain⟨c,k,b⟩:=ih;refine⟨k,?_,?_⟩
  ·show(2*(tX d t).x+3*(tX d t).y)%5<5;omega
  ·show((tX d t).d.setIfInBounds _ _).size=25;rw[Up,b]
def rowAt(d:St)(i:Nat):St:=
 bI (bI (bI (bI (bI d i (~~~d[i+1]! &&& d[i+2]!)) (i+1) (~~~d[i+2]! &&& d[i+3]!)) (i+2) (~~~d[i+3]! &&& d[i+4]!)) (i+3) (~~~d[i+4]! &&& d[i]!)) (i+4) (~~~d[i]! &&& d[i+1]!)
def wZ(d:St):Nat->St
 | 0=>d
 | k+1=>rowAt (wZ d k) (5*k)
def chi(d:St):St:=wZ d 5
theorem CX(d:St)(i:Nat):(rowAt d i).size=d.size:=by simp[rowAt,cM]
theorem wY(d:St)(k:Nat):(wZ d k).size=d.size:=by
 induction k with
 | zero=>rfl
 | succ k ih=>simp[wZ,CX,ih]
def mE(r:Nat):Nat:=if 255<2*r then(2*r) ^^^ 369 else 2*r
def vM(r:Nat):Nat->BitVec 64 × Nat
 | 0=>(0,r)
 | j+1=>((vM r j).1 ||| WT 64 ((vM r j).2%2) <<< (2^j-1),mE (vM r j).2)
theorem vN(r:Nat)(h:r<256):mE r<256:=by
 have H:∀j:Fin 256,mE j.val<256:=dK;exact H ⟨r,h⟩
theorem Lt(r:Nat)(h:r<256)(j:Nat):(vM r j).2<256:=by
 induction j with
 | zero=>exact h
 | succ j ih=>exact vN _ ih
theorem Iw(r:Nat)(h:r<256):bits .xor .i64 ((r:Int)*2) 369=(((2*r) ^^^ 369:Nat):Int):=by
 have H:∀j:Fin 256,bits .xor .i64 ((j.val:Int)*2) 369=(((2*j.val) ^^^ 369:Nat):Int):=dK;exact H ⟨r,h⟩
theorem Ix(r:Nat)(h:r<256):bits .and .i64 (r:Int) 1=u (WT 64 (r%2)):=by
 have H:∀j:Fin 256,bits .and .i64 (j.val:Int) 1=u (WT 64 (j.val%2)):=dK;exact H ⟨r,h⟩
theorem oY(x:BitVec 64):Uv.wrap (u x)=u x:=fV x
def nB(d:St)(c:BitVec 64):St:=bI (chi (qN (sW d))) 0 c
def rcC(r:Nat):BitVec 64:=(vM r 7).1
def rcN(r:Nat):Nat:=(vM r 7).2
theorem Oq(r:Nat)(h:r<256):rcN r<256:=by
 unfold rcN;exact Lt r h 7
def xX:Nat->Nat
 | 0=>1
 | k+1=>rcN (xX k)
theorem Lu(k:Nat):xX k<256:=by
 induction k with
 | zero=>decide
 | succ k ih=>exact Oq _ ih
def m5(d:St):Nat->St
 | 0=>d
 | k+1=>nB (m5 d k) (rcC (xX k))
def perm(d:St):St:=m5 d 24
theorem jK(d:St):(sW d).size=d.size:=qG _ _ _
theorem lQ(d:St)(hd:d.size=25):(qN d).size=25:=(Ew d hd 24).2.2
theorem Ch(d:St):(chi d).size=d.size:=wY _ _
theorem BU(d:St)(c:BitVec 64)(hd:d.size=25):(nB d c).size=25:=by
 unfold nB;rw[cM,Ch,lQ];rw[jK,hd]
theorem mZ(d:St)(hd:d.size=25)(k:Nat):(m5 d k).size=25:=by
 induction k with
 | zero=>exact hd
 | succ k ih=>exact BU _ _ ih
theorem sA(d:St)(hd:d.size=25):(perm d).size=25:=mZ d hd 24
abbrev Bs:=Array UInt8
def ub(x:UInt8):Int:=(x.toNat:Int)
def encB(x:UInt8):TC:=.int .u8 (ub x)
def wide(x:UInt8):BitVec 64:=WT 64 x.toNat
def low(v:BitVec 64):UInt8:=TV v.toNat
theorem Kw(x:UInt8):ub x=u (wide x):=by
 unfold ub u wide;rw[Y5,Uf];have:=x.toNat_lt;omega
theorem zO(x:UInt8):Uv.wrap (ub x)=u (wide x):=by rw[Kw,oY]
theorem Nr(v:BitVec 64):Yo.wrap (u v)=ub (low v):=by
 have e:Yo.wrap (u v)=u v%256:=by simp[yAY,yAZ,yAy]
 rw[e];unfold u ub low;rw[Yc];omega
def kL(b:Bs)(o:Nat):Nat->BitVec 64
 | 0=>0
 | i+1=>kL b o i ||| wide b[o+i]! <<< (8*i)
def wordOf(k:Bs)(o:Nat):BitVec 64:=kL k o 8
def fO(k:Bs)(d:St):Nat->St
 | 0=>d
 | i+1=>bI (fO k d i) i (wordOf k (8*i))
theorem dZ(b:Bs)(d:St)(k:Nat):(fO b d k).size=d.size:=by
 induction k with
 | zero=>rfl
 | succ k ih=>simp[fO,cM,ih]
def byteOf(d:St)(k:Nat):UInt8:=low (d[k/8]! >>> (8*(k%8)))
def eV(d:St)(n:Nat):Nat->Bs
 | 0=>TP n 0
 | k+1=>(eV d n k).setIfInBounds k (byteOf d k)
def front(d:St)(n:Nat):Bs:=eV d n n
theorem jB(d:St)(n k:Nat):(eV d n k).size=n:=by
 induction k with
 | zero=>simp[eV]
 | succ k ih=>simp[eV,ih]
theorem aQ(d:St)(n:Nat):(front d n).size=n:=jB d n n
end SP
namespace SP
open Go.RowKit Go.Sort
structure Only(b off n:Nat)(w w':TA):Prop where
 os:w'.os=w.os
 tape:w'.tape=w.tape
 output:w'.output=w.output
 size:w.heap.size<=w'.heap.size
 block:∀k,k<w.heap.size->k≠b->w'.heap[k]? = w.heap[k]?
 cell:∀o,(o<off\/off+n<=o)->w'.cell? ⟨b,o,none⟩=w.cell? ⟨b,o,none⟩
 froz:∀o,w'.frozen? ⟨b,o,none⟩=w.frozen? ⟨b,o,none⟩
variable {b off n:Nat}{w w1 w2:TA}
theorem Only.refl(b off n:Nat)(w:TA):Only b off n w w:=⟨rfl,rfl,rfl,TG _,λ_ _ _=>rfl,λ_ _=>rfl,λ_=>rfl⟩
theorem Only.trans(h:Only b off n w w1)(k:Only b off n w1 w2):Only b off n w w2:=
 ⟨k.os.trans h.os,k.tape.trans h.tape,k.output.trans h.output,TU h.size k.size,
  λi d c=>(k.block i (TF d h.size) c).trans (h.block i d c),
  λo ho=>(k.cell o ho).trans (h.cell o ho),λo=>(k.froz o).trans (h.froz o)⟩
theorem Only.drewN(h:Only b off n w w1)(q:Nat):Only b off n w (w1.drewN q):=⟨h.os,h.tape,h.output,h.size,h.block,h.cell,h.froz⟩
theorem Only.drew(h:Only b off n w w1):Only b off n w w1.drew:=⟨h.os,h.tape,h.output,h.size,h.block,h.cell,h.froz⟩
theorem Only.setCell(h:Only b off n w w1){o:Nat}(g:off<=o)(f:o<off+n)(v:TC):Only b off n w (w1.setCell ⟨b,o,none⟩ v):=by
 refine h.trans ⟨rfl,rfl,rfl,by simp,λk _ c=>Zc _ _ _ _ c,λd ho=>?_,λd=>by simp⟩;exact TE _ _ _ _ (by intro e;simp only[Addr.mk.injEq,and_true,true_and]at e;omega)
theorem Only.alloc(h:Only b off n w w1)(d:b<w1.heap.size)(o:Obj):Only b off n w (w1.alloc o):=by
 refine h.trans ⟨rfl,rfl,rfl,by simp,λk e _=>Below.heap_alloc _ _ _ e,λc _=>?_,λc=>?_⟩
 ·exact World.cell?_alloc_lt _ _ _ d
 ·exact World.frozen?_alloc_old _ _ _ (by show b≠_;omega)
theorem Only.below(h:Only b off n w w1){B:Nat}(c:B<=w.heap.size)(d:B<=b):Below B w w1:=
 ⟨h.os,h.tape,h.output,h.size,λk e=>h.block k oM oM⟩
theorem Only.of_below{B:Nat}(h:Below B w w1)(d:B=w.heap.size)(c:b<B):Only b off n w w1:=
 ⟨h.os,h.tape,h.output,h.size,λk e _=>h.block k oM,λo _=>h.cell (p:=⟨b,o,none⟩) c,λo=>h.frozen (p:=⟨b,o,none⟩) c⟩
theorem Only.other(h:Only b off n w w1){c o:Nat}(k:c≠b)(d:c<w.heap.size):w1.cell? ⟨c,o,none⟩=w.cell? ⟨c,o,none⟩/\w1.frozen? ⟨c,o,none⟩=w.frozen? ⟨c,o,none⟩:=
 ⟨Ua (w:=w) (h.block c d k),UY (w:=w) (h.block c d k)⟩
theorem Only.fresh{o m:Nat}{x:Obj}(h:Only w.heap.size o m (w.alloc x) w1):Below w.heap.size w w1:=
 ((TX _ _).alloc (TG _) x).trans (h.below (by simp) (TG _))
section
variable {α:Type}[Inhabited α]{enc:α->TC}{d:Array α}
theorem Holds.lt(h:Holds enc w b off d)(hd:0<d.size):b<w.heap.size:=Vt _ _ (h 0 hd).1
theorem Holds.other{c o:Nat}(h:Holds enc w c o d)(k:Only b off n w w1)(f:c≠b)(hd:0<d.size):Holds enc w1 c o d:=by
 intro j e;have:=h j e;have:=k.other (o:=o+j) f (Holds.lt h hd);rw[this.1,this.2];exact h j e
theorem Holds.same{o:Nat}(h:Holds enc w b o d)(k:Only b off n w w1)(hd:o+d.size<=off\/off+n<=o):Holds enc w1 b o d:=by
 intro j c;rw[k.cell _ oM,k.froz];exact h j c
theorem Holds.below{B:Nat}(h:Holds enc w b off d)(k:Below B w w1)(c:b<B):Holds enc w1 b off d:=by
 intro j e;rw[k.cell (p:=⟨b,off+j,none⟩) c,k.frozen (p:=⟨b,off+j,none⟩) c];exact h j e
theorem Holds.drewN(h:Holds enc w b off d)(q:Nat):Holds enc (w.drewN q) b off d:=h
theorem Holds.drew(h:Holds enc w b off d):Holds enc w.drew b off d:=h
theorem Holds.set(h:Holds enc w b off d){i:Nat}(c:i<d.size)(x:α):Holds enc (w.setCell ⟨b,off+i,none⟩ (enc x)) b off (d.setIfInBounds i x):=by
 intro j k;rw[Up]at k;rw[Un];by_cases e:j=i
 ·subst e;rw[getElem!_set_same d j x c];exact⟨Uu _ _ _ (h j k).1,(h j k).2⟩
 ·rw[getElem!_set_other d i j x e,TE _ _ _ _ (by intro e';simp only[Addr.mk.injEq,and_true,true_and]at e';omega)];exact h j k
theorem Holds.new(w:TA)(t:Uw)(d:Array α):Holds enc (w.alloc (.cells (d.map enc) t)) w.heap.size 0 d:=by
 intro j k;rw[Us,Vr];refine⟨?_,rfl⟩;simp only[TO,yAr,Uj k,XK,getElem!_pos d j k]
theorem Holds.made(w:TA)(t:Uw)(n:Nat)(x:α):Holds enc (w.alloc (.cells (madeCells #[enc x] n) t)) w.heap.size 0 (TP n x):=by
 intro j k;rw[TY]at k;rw[Us,Vr];refine⟨?_,rfl⟩;rw[getElem!_pos _ j (by simpa using k),U9];simp[madeCells,k,ZM]
end
theorem Holds.xor{d:St}(h:Holds enc w b off d){i:Nat}(k:i<d.size){x:BitVec 64}(c:d[i]! = x)(v:BitVec 64):Holds enc (w.setCell ⟨b,off+i,none⟩ (uZ (u (x ^^^ v)))) b off (bI d i v):=by
 unfold bI;rw[c];exact Holds.set h k (x ^^^ v)
theorem cD(d:St)(i j:Nat)(v:BitVec 64)(h:j≠i):(bI d i v)[j]! = d[j]!:=getElem!_set_other d i j _ h
end SP
namespace SP
open Go.RowKit Go.Sort
theorem mixed:prog.follows .mixedOrders=true:=kR
theorem aR{w:TA}{b off:Nat}{d:St}(h:Holds enc w b off d)(i:Nat)(k:i<d.size){x:BitVec 64}(c:d[i]! = x):
 w.cell? ⟨b,off+i,none⟩=some (uZ (u x))/\w.frozen? ⟨b,off+i,none⟩=false:=by
 rw[<-c];exact h i k
theorem ret_int{k:IntKind}{a b:Int}(h:a=b):Ending.returned (.int k a)=.returned (.int k b):=by rw[h]
theorem Bf(x:BitVec 64)(k:Nat)(w:TA)(c:k<64):
 TW prog 191 #[uZ (u x),iZ k] w λe w'=>e=.returned (uZ (u (rol x k)))/\w'=w:=by
 have b:=RS k c;go_enter func191,ntmps191;go_wp2;go_ret;refine⟨ret_int ?_,rfl⟩;rw[yL,ED,dV];rfl
end SP
namespace SP
open Go.RowKit Go.Sort
theorem BX(w:TA)(t:Uw):Holds enc (w.alloc (.cells #[uZ 0,uZ 0,uZ 0,uZ 0,uZ 0] t)) w.heap.size 0 (#[0,0,0,0,0]:St):=by
 have h:=Holds.new (enc:=enc) w t (#[0,0,0,0,0]:St);have e:yBV enc (#[0,0,0,0,0]:St)=#[uZ 0,uZ 0,uZ 0,uZ 0,uZ 0]:=by simp[enc,u]
 rw[e]at h;exact h
attribute [local go_sem] dO eC dV
theorem wI(b off:Nat)(d:St)(w:TA)(hd:d.size=25)(T:Holds enc w b off d):
 TW prog 184 #[.pointer (some ⟨b,off,none⟩)] w λe w'=>e=.returned (.tuple #[])/\Only b off 25 w w'/\Holds enc w' b off (sW d):=by
 have O:=Holds.lt T oM;go_enter func184,ntmps184;go_wp2;generalize o:(w.alloc _)=W1;go_loopg [7] 5 (λg s7 wr=>∃k l,k+g=5/\s7=.int .i64 (k:Nat)/\Holds enc wr w.heap.size 0 l/\Only w.heap.size 0 5 W1 wr/\Hid (l=lL d k))
 case atStart =>
  refine⟨0,#[0,0,0,0,0],rfl,rfl,?_,Only.refl _ _ _ _,rfl⟩;rw[<-o];exact BX w 243
 case round =>
  obtain⟨k,l,W,rfl,F,n,q⟩:=hrel;have j:Holds enc wr b off d:=Holds.other (by rw[<-o];exact Holds.below T ((TX _ _).alloc (TG _) _) O) n oM oM;by_cases A:k<5
  ·obtain⟨B,u⟩:∃x,d[k]! = x:=⟨_,rfl⟩
   obtain⟨D,r⟩:∃x,d[k+5]! = x:=⟨_,rfl⟩
   obtain⟨C,p⟩:∃x,d[k+10]! = x:=⟨_,rfl⟩
   obtain⟨a,t⟩:∃x,d[k+15]! = x:=⟨_,rfl⟩
   obtain⟨y,s⟩:∃x,d[k+20]! = x:=⟨_,rfl⟩
   obtain⟨L,v⟩:∃x,l[k]! = x:=⟨_,rfl⟩
   have N:l.size=5:=by rw[q.out,sZ]
   obtain⟨I,Q⟩:=aR j k oM u;obtain⟨K,P⟩:=aR j (k+5) oM r;obtain⟨c2,f2⟩:=aR j (k+10) oM p;obtain⟨S,M⟩:=aR j (k+15) oM t;obtain⟨c4,R⟩:=aR j (k+20) oM s;obtain⟨E,G⟩:=aR F k oM v;rw[TO]at E G;have H:Hid (D5 d k=B ^^^ D ^^^ C ^^^ a ^^^ y):=by rw[<-u,<-r,<-p,<-t,<-s];rfl
   clear u r p t s v j;have Y:(k:Int)<5:=oM;have b0:(k:Int)<25:=oM;have b1:(k:Int)+5<25:=oM;have b2:(k:Int)+10<25:=oM;have b3:(k:Int)+15<25:=oM;have X:(k:Int)+20<25:=oM;have p1:0<=(k:Int)+5:=oM;have p2:0<=(k:Int)+10:=oM;have p3:0<=(k:Int)+15:=oM;have p4:0<=(k:Int)+20:=oM;have V:((k:Int)+5).toNat=k+5:=oM;have Z:((k:Int)+10).toNat=k+10:=oM;have e3:((k:Int)+15).toNat=k+15:=oM;have e4:((k:Int)+20).toNat=k+20:=oM;have v1:UR.wrap ((k:Int)+5)=(k:Int)+5:=UO _ oM;have v2:UR.wrap ((k:Int)+10)=(k:Int)+10:=UO _ oM;have U:UR.wrap ((k:Int)+15)=(k:Int)+15:=UO _ oM;have J:UR.wrap ((k:Int)+20)=(k:Int)+20:=UO _ oM;go_wp2_with fail
   go_still_tail 35,mixed;go_wp2;go_roundg (gk-1)
   case measure=>omega
   case rel =>
    refine⟨k+1,l.setIfInBounds k (B ^^^ D ^^^ C ^^^ a ^^^ y),oM,by go_num,?_,?_,?_⟩
    ·have:=Holds.set F (i:=k) oM (B ^^^ D ^^^ C ^^^ a ^^^ y);rw[TO]at this;exact Holds.drew this
    ·exact(n.setCell (VH _) oM _).drew
    ·show _=(lL d k).setIfInBounds k (D5 d k);rw[H.out,q.out]
  ·have s:k=5:=oM;subst s;have U:Hid (l=lL d 5):=q;have M:Only b off 25 w wr:=by
    rw[<-o]at n;exact Only.of_below n.fresh rfl O
   clear W A q n o;go_wp2;go_loopg [46] 5 (λg s46 C=>∃k r,k+g=5/\s46=.int .i64 (k:Nat)/\Holds enc C b off r/\Only b off 25 wr C/\Hid (r=jY l d k))
   case atStart=>exact⟨0,d,rfl,rfl,j,Only.refl _ _ _ _,rfl⟩
   case round =>
    obtain⟨k,r,W,rfl,V,n,q⟩:=hrel;by_cases A:k<5
    ·have N:l.size=5:=by rw[U.out,sZ]
     have v:=Holds.other F n oM oM;obtain⟨B,u⟩:∃x,l[(k+4)%5]! = x:=⟨_,rfl⟩
     obtain⟨y,t⟩:∃x,l[(k+1)%5]! = x:=⟨_,rfl⟩
     obtain⟨I,Q⟩:=aR v ((k+4)%5) oM u;obtain⟨K,P⟩:=aR v ((k+1)%5) oM t;rw[TO]at I K;have Z:Hid (bP l k=B ^^^ rol y 1):=by rw[<-u,<-t];rfl
     clear u t Q P;have Y:(k:Int)<5:=oM;go_wp2_with fail
     go_quiet ((go_at_call 191;exact Calls.quiet_of_same (Bf _ 1 _ dC)));clear I K;go_wp2;have h0:=n.drewN nq;have J:=Holds.drewN V nq;have H:r.size=25:=by rw[q.out,qG,hd]
     go_loopg [6] 5 (λg s6 C=>∃m p,m+g=5/\s6=.int .i64 ((k+5*m:Nat):Int)/\Holds enc C b off p/\Only b off 25 wr C/\Hid (p=l7 (B ^^^ rol y 1) k r m))
     case atStart=>exact⟨0,r,rfl,rfl,J,(Only.refl _ _ _ _).drewN _,rfl⟩
     case round =>
      obtain⟨m,p,hm,rfl,D,a,L⟩:=hrel;by_cases R:m<5
      ·have h1:p.size=25:=by rw[L.out,rA,H]
       obtain⟨z,E⟩:∃x,p[k+5*m]! = x:=⟨_,rfl⟩
       obtain⟨c,f⟩:=aR D (k+5*m) oM E;have HZ:Hid (p[k+5*m]! = z):=E;clear E;have X:((k+5*m:Nat):Int)<25:=oM;generalize G:k+5*m=i at *;have S:Hid (k+5*m=i):=G;clear G;go_wp2_with fail
       go_still_tail 9,mixed;go_wp2;go_roundg (gk-1)
       case measure=>omega
       case rel =>
        refine⟨m+1,p.setIfInBounds i (z ^^^ (B ^^^ rol y 1)),oM,?_,?_,?_,?_⟩
        ·rw[<-S.out];go_num
        ·exact Holds.drew (Holds.set D oM _)
        ·exact(a.setCell (YA _ _) oM _).drew
        ·show _=bI (l7 (B ^^^ rol y 1) k r m) (k+5*m) (B ^^^ rol y 1);rw[<-L.out,S.out,<-HZ.out];rfl
      ·have E:m=5:=oM;subst E;have X:(25:Int)<=((k+5*5:Nat):Int):=oM;generalize G:k+5*5=i at *;go_wp2;go_roundg (4-k)
       case measure=>omega
       case rel =>
        refine⟨k+1,p,oM,by go_num,D,n.trans a,?_⟩;show _=l7 (bP l k) k (jY l d k) 5;rw[<-q.out,Z.out];exact L.out
    ·have s:k=5:=oM;subst s;go_wp2
     go_end0
     refine⟨rfl,M.trans n,?_⟩;have:sW d=r:=by rw[q.out,U.out];rfl
     rw[this];exact V
end SP
namespace SP
open Go.RowKit Go.Sort
attribute [local go_sem] dO eC dV
theorem IU(t:Nat)(h:t<24):(wrap64 ((wrap64 (((t:Int)+1)*((t:Int)+2))).tdiv 2)).tmod 64=(wB t:Int):=by
 have H:∀j:Fin 24,(wrap64 ((wrap64 (((j.val:Int)+1)*((j.val:Int)+2))).tdiv 2)).tmod 64=(wB j.val:Int):=dK;exact H ⟨t,h⟩
theorem tW(b off:Nat)(d:St)(w:TA)(hd:d.size=25)(a:Holds enc w b off d):
 TW prog 185 #[.pointer (some ⟨b,off,none⟩)] w λe w'=>e=.returned (.tuple #[])/\Only b off 25 w w'/\Holds enc w' b off (qN d):=by
 obtain⟨L,o⟩:∃x,d[1]! = x:=⟨_,rfl⟩
 obtain⟨O,M⟩:=aR a 1 oM o;go_enter func185,ntmps185;go_wp2;go_loopg [2,3,4,12] 24 (λg sx E sm st wr=>∃t T,t+g=24/\st=iZ (t:Nat)/\sx=iZ (T.x:Nat)/\E=iZ (T.y:Nat)/\sm=uZ (u T.m)/\Holds enc wr b off T.d/\Only b off 25 w wr/\Hid (T=tX d t))
 case atStart=>exact⟨0,tX d 0,rfl,rfl,rfl,rfl,by rw[<-o];rfl,a,Only.refl _ _ _ _,rfl⟩
 case round =>
  obtain⟨t,⟨x,y,m,C⟩,K,rfl,rfl,rfl,rfl,q,A,s⟩:=hrel;have l:=Ew d hd t;rw[<-s.out]at l;obtain⟨H,I,G⟩:=l;dsimp only at H I G q;by_cases r:t<24
  ·obtain⟨i,F⟩:∃i,y+5*((2*x+3*y)%5)=i:=⟨_,rfl⟩
   obtain⟨z,B⟩:∃z,C[i]! = z:=⟨_,rfl⟩
   obtain⟨c,f⟩:=aR q i oM B;have J:=mk1 (B);have D:=mk1 (F);go_wp2_with fail
   rw[IU t r];refine(Bf m (wB t) _ (Vm _ dC)).mono ?_;rintro e w' ⟨rfl,rfl⟩;go_wp2_with fail
   obtain⟨p,v⟩:∃n,(2*x+3*y)%5=n:=⟨_,rfl⟩
   have j:(2*(x:Int)+3*(y:Int))%5=(p:Int):=oM;rw[j];have k:=mk1 (v);have N:((y:Int)+5*(p:Int)).toNat=i:=by have:=D.out;have:=k.out;omega
   go_region
   go_wp2;go_roundg (gk-1)
   case measure=>omega
   case rel =>
    refine⟨t+1,⟨y,p,z,C.setIfInBounds i (rol m (wB t))⟩,oM,by go_num,rfl,rfl,rfl,?_,?_,?_⟩
    ·exact Holds.drew (Holds.set q oM _)
    ·exact(A.setCell (YA _ _) oM _).drew
    ·show _=CG t (tX d t);rw[<-s.out];simp only[CG,k.out];have e:y+5*p=i:=by have:=D.out;have:=k.out;omega
     rw[e,J.out]
  ·have k:t=24:=oM;subst k;go_wp2
   go_end0
   refine⟨rfl,A,?_⟩;show Holds enc _ b off (tX d 24).d;rw[<-s.out];exact q
end SP
namespace SP
open Go.RowKit Go.Sort
attribute [local go_sem] dO eC dV pW
theorem BO(b off:Nat)(d:St)(w:TA)(hd:d.size=25)(hH:Holds enc w b off d):
 TW prog 186 #[.pointer (some ⟨b,off,none⟩)] w λe w'=>e=.returned (.tuple #[])/\Only b off 25 w w'/\Holds enc w' b off (chi d):=by
 go_enter func186,ntmps186;go_wp2;go_loopg [2] 5 (λg si wr=>∃k j,k+g=5/\si=.int .i64 ((5*k:Nat):Int)/\Holds enc wr b off j/\Only b off 25 w wr/\Hid (j=wZ d k))
 case atStart=>exact⟨0,d,rfl,rfl,hH,Only.refl _ _ _ _,rfl⟩
 case round =>
  obtain⟨k,j,hk,rfl,B,hO,HE⟩:=hrel;have hs:j.size=25:=by rw[HE.out,wY,hd]
  by_cases ha:k<5
  ·obtain⟨i,hi⟩:∃i,5*k=i:=⟨_,rfl⟩
   rw[hi];have Hi:Hid (5*k=i):=hi;obtain⟨u,P⟩:∃x,j[i]! = x:=⟨_,rfl⟩
   obtain⟨s,K⟩:∃x,j[i+1]! = x:=⟨_,rfl⟩
   obtain⟨r,G⟩:∃x,j[i+2]! = x:=⟨_,rfl⟩
   obtain⟨p,M⟩:∃x,j[i+3]! = x:=⟨_,rfl⟩
   obtain⟨m,L⟩:∃x,j[i+4]! = x:=⟨_,rfl⟩
   obtain⟨c0,f0⟩:=aR B i oM P;obtain⟨c1,f1⟩:=aR B (i+1) oM K;obtain⟨c2,f2⟩:=aR B (i+2) oM G;obtain⟨c3,f3⟩:=aR B (i+3) oM M;obtain⟨c4,f4⟩:=aR B (i+4) oM L;have R:Hid (j[i]! = u):=P;have q:Hid (j[i+1]! = s):=K;have l:Hid (j[i+2]! = r):=G;have f:Hid (j[i+3]! = p):=M;have c:Hid (j[i+4]! = m):=L;have Q0:=R;have Q1:=q;have Q2:=l;have Q3:=f;have Q4:=c;have b1:(i:Int)+1<25:=oM;have p1:0<=(i:Int)+1:=oM;have W:((i:Int)+1).toNat=i+1:=oM;have v1:UR.wrap ((i:Int)+1)=(i:Int)+1:=UO _ oM;have b2:(i:Int)+2<25:=oM;have Z:0<=(i:Int)+2:=oM;have Y:((i:Int)+2).toNat=i+2:=oM;have v2:UR.wrap ((i:Int)+2)=(i:Int)+2:=UO _ oM;have b3:(i:Int)+3<25:=oM;have p3:0<=(i:Int)+3:=oM;have e3:((i:Int)+3).toNat=i+3:=oM;have V:UR.wrap ((i:Int)+3)=(i:Int)+3:=UO _ oM;have b4:(i:Int)+4<25:=oM;have p4:0<=(i:Int)+4:=oM;have e4:((i:Int)+4).toNat=i+4:=oM;have v4:UR.wrap ((i:Int)+4)=(i:Int)+4:=UO _ oM;go_wp2_with fail
   go_quiet (fail);clear c1 c2 c3 c4 f1 f2 f3 f4 b1 p1 W v1 b2 Z Y v2 b3 p3 e3 V b4 p4 e4 v4;go_wp2_with fail
   go_region
   go_wp2_with fail
   generalize z:Wb _ _ _=W0;have he:(bI j i (~~~s &&& r)).size=25:=by rw[cM];omega
   have H:Holds enc W0 b off (bI j i (~~~s &&& r)):=by rw[<-z];exact Holds.xor (Holds.drewN B _) oM R.out _
   have X:Only b off 25 w W0:=by rw[<-z];exact(hO.drewN _).setCell (o:=off+i) oM oM _
   generalize n:bI j i (~~~s &&& r)=v at *;have h5:Hid (bI j i (~~~s &&& r)=v):=n;have q:Hid (v[i+1]! = s):=by show _=_;rw[<-n,cD _ _ _ _ oM];exact q.out
   have l:Hid (v[i+2]! = r):=by show _=_;rw[<-n,cD _ _ _ _ oM];exact l.out
   have f:Hid (v[i+3]! = p):=by show _=_;rw[<-n,cD _ _ _ _ oM];exact f.out
   have c:Hid (v[i+4]! = m):=by show _=_;rw[<-n,cD _ _ _ _ oM];exact c.out
   obtain⟨c1,f1⟩:=aR H (i+1) oM q.out;clear n z c0 f0;have b1:(i:Int)+1<25:=oM;have p1:0<=(i:Int)+1:=oM;have W:((i:Int)+1).toNat=i+1:=oM;have v1:UR.wrap ((i:Int)+1)=(i:Int)+1:=UO _ oM;go_region
   go_wp2_with fail
   generalize E:Wb _ _ _=W1;have hc:(bI v (i+1) (~~~r &&& p)).size=25:=by rw[cM];omega
   have I:Holds enc W1 b off (bI v (i+1) (~~~r &&& p)):=by rw[<-E];exact Holds.xor H oM q.out _
   have h2:Only b off 25 w W1:=by rw[<-E];exact(X).setCell (o:=off+(i+1)) oM oM _
   generalize t:bI v (i+1) (~~~r &&& p)=y at *;have h6:Hid (bI v (i+1) (~~~r &&& p)=y):=t;have l:Hid (y[i+2]! = r):=by show _=_;rw[<-t,cD _ _ _ _ oM];exact l.out
   have f:Hid (y[i+3]! = p):=by show _=_;rw[<-t,cD _ _ _ _ oM];exact f.out
   have c:Hid (y[i+4]! = m):=by show _=_;rw[<-t,cD _ _ _ _ oM];exact c.out
   obtain⟨c2,f2⟩:=aR I (i+2) oM l.out;clear b1 p1 W v1;have b2:(i:Int)+2<25:=oM;have Z:0<=(i:Int)+2:=oM;have Y:((i:Int)+2).toNat=i+2:=oM;have v2:UR.wrap ((i:Int)+2)=(i:Int)+2:=UO _ oM;go_region
   go_wp2_with fail
   generalize Q:Wb _ _ _=W2;have h9:(bI y (i+2) (~~~p &&& m)).size=25:=by rw[cM];omega
   have J:Holds enc W2 b off (bI y (i+2) (~~~p &&& m)):=by rw[<-Q];exact Holds.xor I oM l.out _
   have h7:Only b off 25 w W2:=by rw[<-Q];exact(h2).setCell (o:=off+(i+2)) oM oM _
   generalize A:bI y (i+2) (~~~p &&& m)=a at *;have h3:Hid (bI y (i+2) (~~~p &&& m)=a):=A;have f:Hid (a[i+3]! = p):=by show _=_;rw[<-A,cD _ _ _ _ oM];exact f.out
   have c:Hid (a[i+4]! = m):=by show _=_;rw[<-A,cD _ _ _ _ oM];exact c.out
   obtain⟨c3,f3⟩:=aR J (i+3) oM f.out;clear b2 Z Y v2;have b3:(i:Int)+3<25:=oM;have p3:0<=(i:Int)+3:=oM;have e3:((i:Int)+3).toNat=i+3:=oM;have V:UR.wrap ((i:Int)+3)=(i:Int)+3:=UO _ oM;go_region
   go_wp2_with fail
   generalize D:Wb _ _ _=W3;have h8:(bI a (i+3) (~~~m &&& u)).size=25:=by rw[cM];omega
   have F:Holds enc W3 b off (bI a (i+3) (~~~m &&& u)):=by rw[<-D];exact Holds.xor J oM f.out _
   have T:Only b off 25 w W3:=by rw[<-D];exact(h7).setCell (o:=off+(i+3)) oM oM _
   generalize N:bI a (i+3) (~~~m &&& u)=C at *;have U:Hid (bI a (i+3) (~~~m &&& u)=C):=N;have c:Hid (C[i+4]! = m):=by show _=_;rw[<-N,cD _ _ _ _ oM];exact c.out
   obtain⟨c4,f4⟩:=aR F (i+4) oM c.out;clear b3 p3 e3 V;have b4:(i:Int)+4<25:=oM;have p4:0<=(i:Int)+4:=oM;have e4:((i:Int)+4).toNat=i+4:=oM;have v4:UR.wrap ((i:Int)+4)=(i:Int)+4:=UO _ oM;go_region
   go_wp2;generalize O:Wb _ _ _=W4;have hb:(bI C (i+4) (~~~u &&& s)).size=25:=by rw[cM];omega
   have h0:Holds enc W4 b off (bI C (i+4) (~~~u &&& s)):=by rw[<-O];exact Holds.xor F oM c.out _
   have S:Only b off 25 w W4:=by rw[<-O];exact(T).setCell (o:=off+(i+4)) oM oM _
   generalize h4:bI C (i+4) (~~~u &&& s)=d4 at *;have h1:Hid (bI C (i+4) (~~~u &&& s)=d4):=h4;go_roundg (gk-1)
   case measure=>omega
   case rel =>
    refine⟨k+1,d4,oM,?_,?_,?_,?_⟩
    ·rw[<-Hi.out];go_num
    ·exact h0
    ·exact S.drewN 4
    ·show d4=rowAt (wZ d k) (5*k);rw[<-HE.out,Hi.out];unfold rowAt;rw[Q0.out,Q1.out,Q2.out,Q3.out,Q4.out,h5.out,h6.out,h3.out,U.out,h1.out]
  ·have c:k=5:=oM;subst c;go_wp2
   go_end0
   refine⟨rfl,hO,?_⟩;show Holds enc _ b off (wZ d 5);rw[<-HE.out];exact B
end SP
namespace SP
open Go.RowKit Go.Sort
attribute [local go_sem] dO eC dV oY
theorem GA(j:Nat)(k:j<7):∃p:Nat,wrap64 (wrap64 ((2:Int)^j)-1)=(p:Int)/\p<=63/\Hid (2^j-1=p):=by
 have H:∀j:Fin 7,wrap64 (wrap64 ((2:Int)^j.val)-1)=((2^j.val-1:Nat):Int)/\2^j.val-1<=63:=dK;exact⟨_,(H ⟨j,k⟩).1,(H ⟨j,k⟩).2,rfl⟩
theorem qK(r:Nat)(w:TA)(o:r<256):
 TW prog 187 #[iZ r] w λe w'=>e=.returned (.tuple #[uZ (u (rcC r)),iZ (rcN r:Int)])/\w'=w:=by
 go_enter func187,ntmps187;go_wp2
 go_loop [0,2,6] (λs0 s2 s6=>∃j:Nat,j<=7/\∃(c:BitVec 64) (q:Nat),s6=iZ j/\s2=uZ (u c)/\s0=iZ q/\q<256/\Hid (vM r j=(c,q))) (λ_ _ s6=>7-(intOf s6).toNat)
 case atStart=>exact⟨0,dC,0,r,rfl,rfl,rfl,o,rfl⟩
 case round =>
  obtain⟨j,s,c,q,rfl,rfl,rfl,g,i⟩:=hrel;by_cases f:j<7
  ·have y:=Ix q g;have x:=Iw q g;obtain⟨p,z,v,n⟩:=GA j f;have l:Hid (vM r (j+1)=(c ||| WT 64 (q%2) <<< p,mE q)):=by
    show((vM r j).1 ||| WT 64 ((vM r j).2%2) <<< (2^j-1),mE (vM r j).2)=_;rw[i.out,n.out]
   have t:=yL (WT 64 (q%2)) p;have b:=vN q g;by_cases k:255<2*q
   ·have d:Hid (mE q=2*q ^^^ 369):=yB3 k;rw[d.out]at b;generalize 2*q ^^^ 369=m at *;go_wp2
    go_round
    case rel=>exact⟨j+1,oM,_,m,by go_num,rfl,rfl,b,by rw[l.out,d.out];rfl⟩
    case measure=>simp[intOf];omega
   ·have d:Hid (mE q=2*q):=yB4 k;go_wp2
    go_round
    case rel=>exact⟨j+1,oM,_,2*q,by go_num,rfl,by go_num,oM,by rw[l.out,d.out];rfl⟩
    case measure=>simp[intOf];omega
  ·have k:j=7:=oM;subst k;go_wp2
   go_ret2
   unfold rcC rcN;rw[i.out];exact⟨rfl,rfl⟩
theorem tD(b off:Nat)(d:St)(w:TA)(hd:d.size=25)(E:Holds enc w b off d):
 TW prog 178 #[.pointer (some ⟨b,off,none⟩)] w λe w'=>e=.returned (.tuple #[])/\Only b off 25 w w'/\Holds enc w' b off (perm d):=by
 go_enter func178,ntmps178;go_wp2;go_loopg [2,3,4] 24 (λg D K G wr=>∃(k:Nat) (c:BitVec 64) (f:St),k+g=24/\G=iZ k/\D=uZ (u c)/\K=iZ (xX k:Nat)/\Holds enc wr b off f/\Only b off 25 w wr/\Hid (f=m5 d k))
 case atStart=>exact⟨0,0,d,rfl,rfl,rfl,rfl,E,Only.refl _ _ _ _,rfl⟩
 case round =>
  obtain⟨k,c,f,Q,rfl,rfl,rfl,a,z,m⟩:=hrel;have l:f.size=25:=by rw[m.out,mZ d hd]
  by_cases A:k<24
  ·have H:(k:Int)<24:=oM;go_wp2_with fail
   refine(wI b off f _ l a).mono ?_;rintro e M ⟨rfl,n,s⟩;go_wp2_with fail
   refine(tW b off _ _ (by rw[jK,l]) s).mono ?_;rintro e P ⟨rfl,q,t⟩;go_wp2_with fail
   refine(BO b off _ _ (lQ _ (by rw[jK,l])) t).mono ?_;rintro e N ⟨rfl,y,j⟩;have L:Hid (xX (k+1)=rcN (xX k)):=rfl;have I:Hid (m5 d (k+1)=nB (m5 d k) (rcC (xX k))):=rfl;have v:=Lu k;generalize xX k=r at *;go_wp2_with fail
   refine(qK r _ v).mono ?_;rintro e O ⟨rfl,rfl⟩;have J:(chi (qN (sW f))).size=25:=by rw[Ch,lQ _ (by rw[jK,l])]
   obtain⟨x,p⟩:∃x,(chi (qN (sW f)))[0]! = x:=⟨_,rfl⟩
   obtain⟨C,B⟩:=aR j 0 oM p;rw[VK]at C B;have F:Hid ((chi (qN (sW f)))[0]! = x):=p;clear p;go_wp2_with fail
   go_region
   go_wp2;go_roundg (gk-1)
   case measure=>omega
   case rel =>
    refine⟨k+1,rcC r,nB f (rcC r),oM,by go_num,rfl,by rw[L.out],?_,?_,?_⟩
    ·exact Holds.drew (Holds.xor (i:=0) j oM F.out (rcC r))
    ·exact((((z.trans n).trans q).trans y).setCell (o:=off) oM oM _).drew
    ·rw[I.out,m.out];rfl
  ·have j:k=24:=oM;subst j;go_wp2
   go_end0
   refine⟨rfl,z,?_⟩;unfold perm;rw[<-m.out];exact a
end SP
namespace SP
open Go.RowKit Go.Sort Go.Deep
attribute [local go_sem] dO eC dV oY zO
theorem rJ{w:TA}{b off:Nat}{d:Bs}(h:Holds encB w b off d)(i:Nat)(k:i<d.size){x:UInt8}(c:d[i]! = x):
 w.cell? ⟨b,off+i,none⟩=some (.int .u8 (ub x))/\w.frozen? ⟨b,off+i,none⟩=false:=by
 rw[<-c];exact h i k
theorem word_any(i j o b cap:Nat)(d:Bs)(w:TA)(p:Holds encB w i j d)(s:8<=b)(ho:o+8<=d.size)(v:b<=4611686018427387904):
 TW prog 183 #[.slice (some ⟨i,j+o,none⟩) b cap] w λe w'=>e=.returned (uZ (u (wordOf d o)))/\w'=w:=by
 go_enter func183,ntmps183;go_wp2
 go_loop [3,5] (λs3 s5=>∃(k:Nat) (c:BitVec 64),k<=8/\s5=iZ k/\s3=uZ (u c)/\Hid (kL d o k=c)) (λ_ s5=>8-(intOf s5).toNat)
 case atStart=>exact⟨0,0,dC,rfl,rfl,rfl⟩
 case round =>
  obtain⟨k,c,y,rfl,rfl,g⟩:=hrel;by_cases l:k<8
  ·obtain⟨x,f⟩:∃x,d[o+k]! = x:=⟨_,rfl⟩
   obtain⟨n,m⟩:=rJ p (o+k) oM f;rw[<-VQ]at n;have q:Hid (kL d o (k+1)=c ||| wide x <<< (8*k)):=by
    show kL d o k ||| wide d[o+k]! <<< (8*k)=_
    rw[g.out,f]
   clear f m;have t:=yL (wide x) (8*k);have r:(k:Int)<(b:Int):=oM;go_wp2
   go_round
   case rel=>exact⟨k+1,_,oM,by go_num,rfl,q⟩
   case measure=>simp[intOf];omega
  ·have f:k=8:=oM;subst f;go_wp2;go_ret;unfold wordOf;rw[g.out];exact⟨rfl,rfl⟩
theorem Mi(b off j l c cap:Nat)(f:Bs)(d:St)(w:TA)(hd:d.size=25)(a:Holds enc w b off d)(t:Holds encB w j l f)(K:f.size=c)(u:c<=200)(s:c<=cap)
 (i:j≠b\/l+c<=off\/off+25<=l) :
 TW prog 177 #[.pointer (some ⟨b,off,none⟩),.slice (some ⟨j,l,none⟩) c cap] w λe w'=>e=.returned (.tuple #[])/\Only b off 25 w w'/\Holds enc w' b off (fO f d (c/8)):=by
 go_enter func177,ntmps177;go_wp2;go_loopg [8] (c/8) (λg s8 wr=>∃(k:Nat) (i:St),k+g=c/8/\s8=.int .i64 k/\Holds enc wr b off i/\Only b off 25 w wr/\Hid (i=fO f d k))
 case atStart=>exact⟨0,d,oM,rfl,a,Only.refl _ _ _ _,rfl⟩
 case round =>
  obtain⟨k,i,L,rfl,r,p,q⟩:=hrel;have E:i.size=25:=by rw[q.out,dZ,hd]
  by_cases v:k<c/8
  ·have m:Holds encB wr j l f:=by
    by_cases n:j=b
    ·subst n;exact Holds.same t p oM
    ·exact Holds.other t p n oM
   obtain⟨x,n⟩:∃x,i[k]! = x:=⟨_,rfl⟩
   obtain⟨D,C⟩:=aR r k oM n;have A:Hid (i[k]! = x):=n;clear n;have H:(k:Int)<25:=oM;have I:(0:Int)<=(k:Int)*8:=oM;have F:(k:Int)*8<=(c:Int):=oM;have J:((k:Int)*8).toNat=8*k:=oM;have s1:UR.wrap ((k:Int)*8)=(k:Int)*8:=UO _ oM;have lt:(k:Int)<(c:Int)/8:=oM;go_wp2_with fail
   have y:(cap=8*k)=False:=eq_false oM;have B:Hid (Holds encB wr.drew j l f):=Holds.drew m;have z:Hid (8*k+8<=f.size):=by show _<=_;omega
   clear m;go_region_with (go_at_call 183;refine(word_any j l (8*k) (c-8*k) (cap-8*k) f _ B.out oM z.out oM).mono ?_;rintro e G ⟨rfl,rfl⟩)
   all_goals
    go_wp2;go_roundg (gk-1)
    case measure=>omega
    case rel =>
     refine⟨k+1,bI i k (wordOf f (8*k)),oM,by go_num,?_,?_,?_⟩
     ·exact Holds.drew (Holds.xor r oM A.out _)
     ·exact(p.setCell (o:=off+k) oM oM _).drew
     ·rw[q.out];rfl
  ·have m:k=c/8:=oM;have lt:(c:Int)/8<=(k:Int):=oM;go_wp2
   go_end0
   refine⟨rfl,p,?_⟩;rw[<-m,<-q.out];exact r
theorem slice22:prog.underlying 23=some (.slice 5):=kR
theorem info5:(prog.info? 5).map (λi=>(i.zero,i.size,i.bytes))=some (some (.int .u8 0),1,1):=kR
attribute [local go_sem] Nr
theorem sJ(b off n:Nat)(d:St)(w:TA)(hd:d.size=25)(q:Holds enc w b off d)(D:n<=200):
 TW prog 160 #[.pointer (some ⟨b,off,none⟩),iZ n] w λe w'=>e=.returned (.slice (some ⟨w.heap.size,0,none⟩) n n)/\Below w.heap.size w w'/\Holds encB w' w.heap.size 0 (front d n):=by
 have t:=Holds.lt q oM;have y:=XO (P:=prog) 23 5 (.int .u8 0) 1 slice22 info5 rfl .i64 .i64 n oM oM;go_enter func160,ntmps160;go_wp2;generalize c:(w.alloc _)=A;go_loopg [11] n (λg s11 wr=>∃(k:Nat) (f:Bs),k+g=n/\s11=iZ k/\Holds encB wr w.heap.size 0 f/\Only w.heap.size 0 n A wr/\Hid (f=eV d n k))
 case atStart =>
  refine⟨0,_,oM,rfl,?_,Only.refl _ _ _ _,rfl⟩;rw[<-c];exact Holds.made (enc:=encB) w 5 n 0
 case round =>
  obtain⟨k,f,F,rfl,j,l,m⟩:=hrel;have E:f.size=n:=by rw[m.out,jB]
  have u:Holds enc wr b off d:=Holds.other (by rw[<-c];exact Holds.below q ((TX _ _).alloc (TG _) _) t) l oM oM;by_cases r:k<n
  ·obtain⟨x,p⟩:∃x,d[k/8]! = x:=⟨_,rfl⟩
   obtain⟨C,B⟩:=aR u (k/8) oM p;obtain⟨a,z⟩:=j k oM;rw[TO]at a z;have s:Hid (byteOf d k=low (x >>> (8*(k%8)))):=by show low _=_;rw[p]
   have v:=ED x (8*(k%8));go_wp2;go_roundg (gk-1)
   case measure=>omega
   case rel =>
    refine⟨k+1,f.setIfInBounds k (low (x >>> (8*(k%8)))),oM,by go_num,?_,?_,?_⟩
    ·have:=Holds.set j (i:=k) oM (low (x >>> (8*(k%8))));rw[TO]at this;exact this
    ·exact l.setCell (o:=k) oM oM _
    ·show _=(eV d n k).setIfInBounds k (byteOf d k);rw[s.out,m.out]
  ·have p:k=n:=oM;go_wp2;go_ret;refine⟨rfl,?_,?_⟩
   ·rw[<-c]at l;exact l.fresh
   ·unfold front;rw[m.out,p]at j;exact j
end SP
namespace SP
open Go.RowKit
def encI(n:Nat):TC:=iZ n
def wW(a:St)(x:Nat)(c:St):Nat->St
 | 0=>c
 | y+1=>bI (wW a x c y) x a[x+5*y]!
def nH(a:St):Nat->St
 | 0=>TP 5 0
 | x+1=>wW a x (nH a x) 5
def wG(a:St)(k:Array Nat)(x:Nat)(v:BitVec 64)(m:St):Nat->St
 | 0=>m
 | y+1=>(wG a k x v m y).setIfInBounds (y%5+5*((2*x+3*y)%5)) (rol (a[x+5*y]! ^^^ v) k[x+5*y]!)
def m9(a:St)(k:Array Nat)(c:St):Nat->St
 | 0=>TP 25 0
 | x+1=>wG a k x (bP c x) (m9 a k c x) 5
def v8(m:St)(x:Nat)(o:St):Nat->St
 | 0=>o
 | y+1=>(v8 m x o y).setIfInBounds (x+5*y) (m[x+5*y]! ^^^ (~~~m[(x+1)%5+5*y]! &&& m[(x+2)%5+5*y]!))
def oS(m:St):Nat->St
 | 0=>TP 25 0
 | x+1=>v8 m x (oS m x) 5
def eZ(a:St)(k:Array Nat)(c:BitVec 64):St:=bI (oS (m9 a k (nH a 5) 5) 5) 0 c
theorem wV(a:St)(x:Nat)(c:St)(y:Nat):(wW a x c y).size=c.size:=by
 induction y with
 | zero=>rfl
 | succ y ih=>simp[wW,cM,ih]
theorem D6(a:St)(x:Nat):(nH a x).size=5:=by
 induction x with
 | zero=>simp[nH]
 | succ x ih=>simp[nH,wV,ih]
theorem wF(a:St)(k:Array Nat)(x:Nat)(v:BitVec 64)(m:St)(y:Nat):(wG a k x v m y).size=m.size:=by
 induction y with
 | zero=>rfl
 | succ y ih=>simp[wG,ih]
theorem Dx(a:St)(k:Array Nat)(c:St)(x:Nat):(m9 a k c x).size=25:=by
 induction x with
 | zero=>simp[m9]
 | succ x ih=>simp[m9,wF,ih]
theorem v7(m:St)(x:Nat)(o:St)(y:Nat):(v8 m x o y).size=o.size:=by
 induction y with
 | zero=>rfl
 | succ y ih=>simp[v8,ih]
theorem vZ(m:St)(x:Nat):(oS m x).size=25:=by
 induction x with
 | zero=>simp[oS]
 | succ x ih=>simp[oS,v7,ih]
theorem xW(a:St)(k:Array Nat)(c:BitVec 64):(eZ a k c).size=25:=by simp[eZ,cM,vZ]
structure Of where
 x:Nat
 y:Nat
 o:Array Nat
def kM:Nat->Of
 | 0=>{ x:=1,y:=0,o:=TP 25 0 }
 | t+1=>{ x:=(kM t).y,y:=(2*(kM t).x+3*(kM t).y)%5,o:=(kM t).o.setIfInBounds ((kM t).x%5+5*((kM t).y%5)) (wB t) }
def dB:Array Nat:=(kM 24).o
theorem Mb(t:Nat):(kM t).x<5/\(kM t).y<5/\(kM t).o.size=25:=by
 induction t with
 | zero=>exact⟨show 1<5 by decide,show 0<5 by decide,show(TP 25 0).size=25 by simp⟩
 | succ t ih =>
  obtain⟨c,k,b⟩:=ih;refine⟨k,?_,?_⟩
  ·show(2*(kM t).x+3*(kM t).y)%5<5;omega
  ·show((kM t).o.setIfInBounds _ _).size=25;rw[Up,b]
def Bh:Nat->Nat
 | 0=>1
 | i+1=>mE (Bh i)
def MN(t:Nat):BitVec 64:=WT 64 (Bh t%2)
def Cf(r:Nat):Nat->BitVec 64
 | 0=>0
 | j+1=>Cf r j ||| MN (j+7*r) <<< (2^j-1)
def D4(r:Nat):BitVec 64:=Cf r 7
def Bi(d:St):Nat->St
 | 0=>d
 | k+1=>eZ (Bi d k) dB (D4 k)
end SP
namespace SP
theorem PS:∀k:Fin 24,D4 k.val=rcC (xX k.val):=dK
theorem wA:dB=#[0,1,62,28,27,36,44,6,55,20,3,10,43,25,39,41,45,15,21,8,18,2,61,56,14]:=dK
theorem Ip(x:BitVec 64):rol x 0=x:=by
 unfold rol;rw[BitVec.shiftLeft_zero,YD,BitVec.ushiftRight_eq_zero (TG 64),BitVec.or_zero]
theorem zx(x:BitVec 64):0 ^^^ x=x:=BitVec.zero_xor
theorem MF(a0 v u y z s x r t w i p b l m j n c e f d k q g o:BitVec 64):nH #[a0,v,u,y,z,s,x,r,t,w,i,p,b,l,m,j,n,c,e,f,d,k,q,g,o] 5=#[0 ^^^ a0 ^^^ s ^^^ i ^^^ j ^^^ d,0 ^^^ v ^^^ x ^^^ p ^^^ n ^^^ k,0 ^^^ u ^^^ r ^^^ b ^^^ c ^^^ q,0 ^^^ y ^^^ t ^^^ l ^^^ e ^^^ g,0 ^^^ z ^^^ w ^^^ m ^^^ f ^^^ o]:=kR
theorem Hv(a0 v u y z s x r t w i p b l m j n c e f d k q g o:BitVec 64):lL #[a0,v,u,y,z,s,x,r,t,w,i,p,b,l,m,j,n,c,e,f,d,k,q,g,o] 5=#[a0 ^^^ s ^^^ i ^^^ j ^^^ d,v ^^^ x ^^^ p ^^^ n ^^^ k,u ^^^ r ^^^ b ^^^ c ^^^ q,y ^^^ t ^^^ l ^^^ e ^^^ g,z ^^^ w ^^^ m ^^^ f ^^^ o]:=kR
theorem PT(a0 v u y z s x r t w i p b l m j n c e f d k q g o:BitVec 64):nH #[a0,v,u,y,z,s,x,r,t,w,i,p,b,l,m,j,n,c,e,f,d,k,q,g,o] 5=lL #[a0,v,u,y,z,s,x,r,t,w,i,p,b,l,m,j,n,c,e,f,d,k,q,g,o] 5:=by
 rw[MF,Hv];simp only[zx]
theorem Mg(S:St)(a0 v u y z s x r t w i p b l m j n c e f d k q g o:BitVec 64):m9 #[a0,v,u,y,z,s,x,r,t,w,i,p,b,l,m,j,n,c,e,f,d,k,q,g,o] #[0,1,62,28,27,36,44,6,55,20,3,10,43,25,39,41,45,15,21,8,18,2,61,56,14] S 5=#[rol (a0 ^^^ bP S 0) 0,rol (x ^^^ bP S 1) 44,rol (b ^^^ bP S 2) 43,rol (e ^^^ bP S 3) 21,rol (o ^^^ bP S 4) 14,rol (y ^^^ bP S 3) 28,rol (w ^^^ bP S 4) 20,rol (i ^^^ bP S 0) 3,rol (n ^^^ bP S 1) 45,rol (q ^^^ bP S 2) 61,rol (v ^^^ bP S 1) 1,rol (r ^^^ bP S 2) 6,rol (l ^^^ bP S 3) 25,rol (f ^^^ bP S 4) 8,rol (d ^^^ bP S 0) 18,rol (z ^^^ bP S 4) 27,rol (s ^^^ bP S 0) 36,rol (p ^^^ bP S 1) 10,rol (c ^^^ bP S 2) 15,rol (g ^^^ bP S 3) 56,rol (u ^^^ bP S 2) 62,rol (t ^^^ bP S 3) 55,rol (m ^^^ bP S 4) 39,rol (j ^^^ bP S 0) 41,rol (k ^^^ bP S 1) 2]:=kR
theorem Lr(S:St)(a0 v u y z s x r t w i p b l m j n c e f d k q g o:BitVec 64):qN (jY S #[a0,v,u,y,z,s,x,r,t,w,i,p,b,l,m,j,n,c,e,f,d,k,q,g,o] 5)=#[a0 ^^^ bP S 0,rol (x ^^^ bP S 1) 44,rol (b ^^^ bP S 2) 43,rol (e ^^^ bP S 3) 21,rol (o ^^^ bP S 4) 14,rol (y ^^^ bP S 3) 28,rol (w ^^^ bP S 4) 20,rol (i ^^^ bP S 0) 3,rol (n ^^^ bP S 1) 45,rol (q ^^^ bP S 2) 61,rol (v ^^^ bP S 1) 1,rol (r ^^^ bP S 2) 6,rol (l ^^^ bP S 3) 25,rol (f ^^^ bP S 4) 8,rol (d ^^^ bP S 0) 18,rol (z ^^^ bP S 4) 27,rol (s ^^^ bP S 0) 36,rol (p ^^^ bP S 1) 10,rol (c ^^^ bP S 2) 15,rol (g ^^^ bP S 3) 56,rol (u ^^^ bP S 2) 62,rol (t ^^^ bP S 3) 55,rol (m ^^^ bP S 4) 39,rol (j ^^^ bP S 0) 41,rol (k ^^^ bP S 1) 2]:=kR
theorem O6(S:St)(a0 v u y z s x r t w i p b l m j n c e f d k q g o:BitVec 64):m9 #[a0,v,u,y,z,s,x,r,t,w,i,p,b,l,m,j,n,c,e,f,d,k,q,g,o] dB S 5=qN (jY S #[a0,v,u,y,z,s,x,r,t,w,i,p,b,l,m,j,n,c,e,f,d,k,q,g,o] 5):=by
 rw[wA,Mg,Lr,Ip]
theorem OS(a0 v u y z s x r t w i p b l m j n c e f d k q g o:BitVec 64):oS #[a0,v,u,y,z,s,x,r,t,w,i,p,b,l,m,j,n,c,e,f,d,k,q,g,o] 5=chi #[a0,v,u,y,z,s,x,r,t,w,i,p,b,l,m,j,n,c,e,f,d,k,q,g,o]:=kR
theorem Pi{α:Type}(l:List α)(h:l.length=25):∃a0 w v z a t y s u x i q b m n j o c e f d k r g p,l=[a0,w,v,z,a,t,y,s,u,x,i,q,b,m,n,j,o,c,e,f,d,k,r,g,p]:=by
 match l,h with
 | [a0,w,v,z,a,t,y,s,u,x,i,q,b,m,n,j,o,c,e,f,d,k,r,g,p],_=>exact⟨_,_,_,_,_,_,_,_,_,_,_,_,_,_,_,_,_,_,_,_,_,_,_,_,_,rfl⟩
theorem NF{α:Type}(d:Array α)(h:d.size=25):∃a0 x w a A u z t v y j r b n o m p c f g e k s i q,d=#[a0,x,w,a,A,u,z,t,v,y,j,r,b,n,o,m,p,c,f,g,e,k,s,i,q]:=by
 obtain⟨l⟩:=d;obtain⟨a0,x,w,a,A,u,z,t,v,y,j,r,b,n,o,m,p,c,f,g,e,k,s,i,q,rfl⟩:=Pi l h;exact⟨_,_,_,_,_,_,_,_,_,_,_,_,_,_,_,_,_,_,_,_,_,_,_,_,_,rfl⟩
theorem LV(m:St)(h:m.size=25):oS m 5=chi m:=by
 obtain⟨a0,w,v,z,a,t,y,s,u,x,i,q,b,l,n,j,o,c,e,f,d,k,r,g,p,rfl⟩:=NF m h;exact OS _ _ _ _ _ _ _ _ _ _ _ _ _ _ _ _ _ _ _ _ _ _ _ _ _
theorem round_eq(d:St)(h:d.size=25)(c:BitVec 64):eZ d dB c=nB d c:=by
 have i:m9 d dB (nH d 5) 5=qN (sW d):=by
  obtain⟨a0,y,x,A,B,v,a,u,w,z,m,s,b,o,p,n,q,e,g,j,f,k,t,l,r,rfl⟩:=NF d h;rw[PT,O6];rfl
 unfold eZ nB;rw[i,LV _ (lQ _ (by rw[jK,h]))]
theorem Ir(d:St)(h:d.size=25)(k:Nat)(b:k<=24):Bi d k=m5 d k:=by
 induction k with
 | zero=>rfl
 | succ k ih =>
  show eZ (Bi d k) dB (D4 k)=nB (m5 d k) (rcC (xX k));rw[ih oM,PS ⟨k,oM⟩,round_eq _ (mZ d h k)]
theorem Dt:∀i,i<25->dB[i]! < 64:=by
 intro i k;have H:∀j:Fin 25,dB[j.val]! < 64:=dK;exact H ⟨i,k⟩
theorem lX:dB.size=25:=by rw[wA];rfl
end SP
namespace SP
open Go.Sort
def dE:St:=TP 25 0
def kZ(k:Bs):Bs:=front (perm (fO k dE 25)) 200
def pK(k:Bs):Nat->St
 | 0=>dE
 | i+1=>(pK k i).setIfInBounds (i/8) ((pK k i)[i/8]! ||| wide k[i]! <<< (8*(i%8)))
theorem lC(k:Bs)(i:Nat):(pK k i).size=25:=by
 induction i with
 | zero=>simp[pK,dE]
 | succ i ih=>simp[pK,ih]
theorem jD(j:Nat)(h:j<25):dE[j]! = 0:=by
 have k:j<(TP 25 (0:BitVec 64)).size:=by rw[TY];exact h
 unfold dE;rw[getElem!_pos (TP 25 (0:BitVec 64)) j k,U9]
theorem LZ(b:Bs)(n j:Nat)(g:n<=200)(f:j<25):
 (pK b n)[j]! = if j<n/8 then wordOf b (8*j) else if j=n/8 then kL b (8*j) (n%8) else 0:=by
 induction n with
 | zero =>
  rw[pK,jD j f];by_cases h:j=0
  ·subst h;rfl
  ·simp[h]
 | succ n c =>
  have c:=c oM;rw[pK];by_cases k:j=n/8
  ·rw[<-k,getElem!_set_same _ _ _ (by rw[lC];omega),c,yB4 oM,yB3 k];have d:b[n]! = b[8*j+n%8]!:=by
    have:n=8*j+n%8:=oM;rw[<-this]
   rw[d];show kL b (8*j) (n%8+1)=_;by_cases e:n%8=7
   ·rw[yB3 oM,e];rfl
   ·rw[yB4 oM,yB3 oM,show(n+1)%8=n%8+1 by omega]
  ·rw[getElem!_set_other _ _ _ _ k,c];by_cases e:j<n/8
   ·rw[yB3 e,yB3 oM]
   ·rw[yB4 e,yB4 k,yB4 oM];by_cases d:j=(n+1)/8
    ·rw[yB3 d,show(n+1)%8=0 by omega];rfl
    ·rw[yB4 d]
theorem qY(c:Bs)(d:St)(hd:d.size=25)(n j:Nat)(g:n<=25)(f:j<25):(fO c d n)[j]! = if j<n then d[j]! ^^^ wordOf c (8*j) else d[j]!:=by
 induction n with
 | zero=>rfl
 | succ n b =>
  have b:=b oM;rw[fO];unfold bI;by_cases k:j=n
  ·rw[<-k,getElem!_set_same _ _ _ (by rw[dZ,hd];exact f),yB3 oM];rw[<-k]at b;rw[b,yB4 oM]
  ·rw[getElem!_set_other _ _ _ _ k,b];by_cases e:j<n
   ·rw[yB3 e,yB3 oM]
   ·rw[yB4 e,yB4 oM]
theorem CP(a b:St)(e:a.size=25)(d:b.size=25)(h:∀j,j<25->a[j]! = b[j]!):a=b:=by
 apply Z5 oM;intro i c k;have:=h i oM;rwa[getElem!_pos a i c,getElem!_pos b i k]at this
theorem OU(k:Bs):pK k 200=fO k dE 25:=by
 have c:dE.size=25:=by simp[dE]
 refine CP _ _ (lC _ _) (by rw[dZ,c]) (λj b=>?_);rw[LZ k 200 j (TG _) b,qY k dE c 25 j (TG _) b,yB3 oM,yB3 b,jD j b,zx]
theorem Gl(k:Bs):front (Bi (pK k 200) 24) 200=kZ k:=by
 rw[Ir _ (lC _ _) 24 (TG _),OU];rfl
end SP
namespace SP
open Go.RowKit Go.Sort
def fill(i:Nat):UInt8:=TV (i%251) ^^^ 165
def lentTo(s:ByteArray):Nat->Bs
 | 0=>s.data++TP 160 0
 | k+1=>(lentTo s k).setIfInBounds (s.size+k) (fill (s.size+k))
def lent(s:ByteArray):Bs:=lentTo s 160
variable {w w1:TA}{b o n:Nat}
theorem heap_setCells(b:Nat){k:Nat}(c:k≠b):∀(vs:List TC) (p:Nat) (w:TA),(w.setCells b p vs).heap[k]? = w.heap[k]?
 | [],_,_=>rfl
 | v :: r,p,w=>by rw[World.setCells,heap_setCells b c r (p+1) _,Zc _ _ _ _ c]
theorem Only.setCells(h:Only b o n w w1)(vs:List TC)(p:Nat)(g:o<=p)(e:p+vs.length<=o+n):Only b o n w (w1.setCells b p vs):=by
 have c:=below_setCells (B:=0) (b:=b) (VH _) vs p w1 (TX 0 w1);exact h.trans ⟨c.os,c.tape,c.output,c.size,λk _ d=>heap_setCells b d vs p w1,
  λq f=>ZO b vs p w1 ⟨b,q,none⟩ (λ_ _=>by simp only;omega),λq=>ZW b vs p w1 _⟩
theorem Holds.setCells{k r:Bs}(h:Holds encB w b o k)(vs:List TC)(p:Nat)(f:r.size=k.size)(m:p+vs.length<=k.size)
 (g:∀j (c:j<vs.length),vs[j]=encB r[p+j]!) (d:∀j,j<k.size->j<p\/p+vs.length<=j->r[j]! = k[j]!):Holds encB (w.setCells b (o+p) vs) b o r:=by
 intro j c;rw[f]at c;rw[ZW];refine⟨?_,(h j c).2⟩;by_cases e:j<p\/p+vs.length<=j
 ·rw[ZO b vs (o+p) w ⟨b,o+j,none⟩ (λ_ _=>by simp only;omega),d j c e];exact(h j c).1
 ·have d:j-p<vs.length:=oM;have:=World.cell?_setCells_in b vs (o+p) w (λi l=>by
   have:=(h (p+i) oM).1;rw[<-VQ]at this;rw[this];rfl) (j-p) d
  rw[show o+p+(j-p)=o+j by omega]at this;rw[this,g (j-p) d,show p+(j-p)=j by omega]
theorem app_front(a r:Bs)(j:Nat)(k:j<a.size):(a++r)[j]! = a[j]:=by
 have h:j<(a++r).size:=by rw[UA];omega
 rw[getElem!_pos (a++r) j h,Array.getElem_append_left k]
theorem app_back(a r:Bs)(j:Nat)(b:a.size<=j)(c:j<a.size+r.size):(a++r)[j]! = r[j-a.size]!:=by
 have h:j<(a++r).size:=by rw[UA];omega
 have k:j-a.size<r.size:=oM;rw[getElem!_pos (a++r) j h,Array.getElem_append_right b,getElem!_pos r (j-a.size) k]
theorem rep_at(n j:Nat)(h:j<n):(TP n (0:UInt8))[j]! = 0:=by
 have k:j<(TP n (0:UInt8)).size:=by rw[TY];exact h
 rw[getElem!_pos (TP n (0:UInt8)) j k,U9]
theorem conv_str(P:Program)(src k e:Uw)(q:P.underlying src=some (.slice e))(r:P.underlying e=some (.int .u8))(hd:P.underlying k=some .string)
 (w:TA) (b o n cap:Nat) (c:Bs) (p:Holds encB w b o c) (l:c.size=n):(convert src k (.slice (some ⟨b,o,none⟩) n cap)).run P w=.ok (.string ⟨c⟩) w:=by
 have h:=run_convert_bytes_back (P:=P) w src k e ⟨b,o,none⟩ cap c.toList q r hd (λj m=>by
  have d:j<c.size:=by simpa using m
  have f:=(p j d).1;rw[getElem!_pos c j d]at f;have i:(⟨b,o,none⟩:V5).add j=⟨b,o+j,none⟩:=by
   unfold XI;by_cases g:j=0
   ·subst g;rfl
   ·rw[yB4 g]
  rw[i,f];simp[encB,ub])
 simpa[l]using h
end SP
namespace SP
open Go.RowKit Go.Sort Go.Deep
theorem int5:prog.underlying 5=some (.int .u8):=kR
theorem str9:prog.underlying 9=some .string:=kR
end SP
namespace SP
open Go.Sort
/-! ### Words and bytes -/
theorem Hb(x : UInt8)(i : Nat): (wide x).getLsbD i=x.toNat.testBit i:=by
  unfold wide;rw[BitVec.getLsbD_ofNat];by_cases h : i<64
  · simp[h]
  · have : x.toNat.testBit i=false:=yAc (TF x.toNat_lt (Ve dC (by omega : 8 <= i)))
    simp[h, this]
theorem yB(x:UInt8)(i:Nat)(h:8<=i):x.toNat.testBit i=false:=
 yAc (TF x.toNat_lt (Ve dC h))
theorem o5(b:Bs)(o n k:Nat)(i:n<=8)(d:k<64):(kL b o n).getLsbD k=(decide (k<8*n) && (b[o+k/8]!).toNat.testBit (k%8)):=by
 induction n with
 | zero=>simp[kL]
 | succ n ih =>
  rw[kL,BitVec.getLsbD_or,ih oM,BitVec.getLsbD_shiftLeft,Hb];by_cases c:k<8*n
  ·simp[c,d,show k<8*(n+1) by omega]
  ·by_cases e:k<8*(n+1)
   ·have f:k/8=n:=oM;have g:k-8*n=k%8:=oM;simp[c,e,d,f,g]
   ·have:=yB b[o+n]! (k-8*n) oM;simp[c,e,d,this]
theorem low_bit(v:BitVec 64)(i:Nat)(h:i<8):(low v).toNat.testBit i=v.getLsbD i:=by
 unfold low;rw[Yc,Nat.testBit_mod_two_pow,BitVec.getLsbD];simp[h]
theorem DR(d:St)(n k j:Nat)(e:k<=n)(b:j<n):(eV d n k)[j]! = if j<k then byteOf d j else 0:=by
 induction k with
 | zero =>
  have c:j<(TP n (0:UInt8)).size:=by rw[TY];exact b
  rw[eV,getElem!_pos (TP n (0:UInt8)) j c,U9,yB4 oM]
 | succ k ih =>
  rw[eV];by_cases h:j=k
  ·subst h;rw[getElem!_set_same _ _ _ (by rw[jB];exact b),yB3 oM]
  ·rw[getElem!_set_other _ _ _ _ h,ih oM];by_cases c:j<k
   ·rw[yB3 c,yB3 oM]
   ·rw[yB4 c,yB4 oM]
theorem jO(d:St)(n j:Nat)(k:j<n):(front d n)[j]! = byteOf d j:=by
 unfold front;rw[DR d n n j (TG _) k,yB3 k]
theorem uP(d:St)(n j:Nat)(f:8*j+8<=n):wordOf (front d n) (8*j)=d[j]!:=by
 apply ZP;intro k b;unfold wordOf;rw[o5 _ _ 8 k (TG _) b,jO d n _ oM];unfold byteOf;have c:(8*j+k/8)/8=j:=oM;have e:(8*j+k/8)%8=k/8:=oM;rw[low_bit _ _ (Vm _ dC),BitVec.getLsbD_ushiftRight,c,e,show 8*(k/8)+k%8=k by omega];simp[b]
theorem GH(d:St)(hd:d.size=25):fO (front d 200) dE 25=d:=by
 have b:dE.size=25:=by simp[dE]
 refine CP _ _ (by rw[dZ,b]) hd (λj k=>?_);rw[qY _ dE b 25 j (TG _) k,yB3 k,jD j k,zx,uP d 200 j oM]
theorem BD(d:St)(hd:d.size=25):kZ (front d 200)=front (perm d) 200:=by
 unfold kZ;rw[GH d hd]
/-! ### The sponge, byte by byte -/
structure Sp where
  d : St
  p : Bs
  h : Nat
structure Ok(S:Sp):Prop where
 d25:S.d.size=25
 p136:S.p.size=136
 hlt:S.h<136
def j0(S:Sp):Sp:={ d:=perm (fO S.p S.d 17),p:=S.p,h:=0 }
def xY(S:Sp)(x:UInt8):Sp:=
 if S.h+1=136 then j0 { d:=S.d,p:=S.p.setIfInBounds S.h x,h:=S.h } else { d:=S.d,p:=S.p.setIfInBounds S.h x,h:=S.h+1 }
def eF(S:Sp)(l:List UInt8):Sp:=l.foldl xY S
def splice(p:Bs):Nat->List UInt8->Bs
 | _,[]=>p
 | i,x :: r=>splice (p.setIfInBounds i x) (i+1) r
theorem fX(S:Sp)(a b:List UInt8):eF S (a++b)=eF (eF S a) b:=List.foldl_append
theorem cZ(p:Bs)(i:Nat)(l:List UInt8):(splice p i l).size=p.size:=by
 induction l generalizing p i with
 | nil=>rfl
 | cons x r ih=>rw[splice,ih,Up]
theorem gU(p:Bs)(i:Nat)(l:List UInt8)(j:Nat)(c:i+l.length<=p.size)(k:j<p.size):(splice p i l)[j]! = if i<=j/\j<i+l.length then l[j-i]! else p[j]!:=by
 induction l generalizing p i with
 | nil=>simp[splice];omega
 | cons x r ih =>
  simp only[Uy]at c;rw[splice,ih _ _ (by rw[Up];omega) (by rw[Up];exact k)];by_cases h:j=i
  ·subst h;rw[yB4 oM,getElem!_set_same _ _ _ k,yB3 (by simp),Yg];rfl
  ·rw[getElem!_set_other _ _ _ _ h];by_cases b:i+1<=j/\j<i+1+r.length
   ·rw[yB3 b,yB3 (by simp;omega),show j-i=(j-(i+1))+1 by omega];rfl
   ·rw[yB4 b,yB4 (by simp;omega)]
theorem lO(d:St)(p:Bs)(h:Nat):j0 ⟨d,p,h⟩=⟨perm (fO p d 17),p,0⟩:=by unfold j0;rfl
theorem Li(S:Sp):(j0 S).d=perm (fO S.p S.d 17):=by
 obtain⟨d,p,h⟩:=S;rw[lO]
theorem Lg(S:Sp):(j0 S).p=S.p:=by
 obtain⟨d,p,h⟩:=S;rw[lO]
theorem Lh(S:Sp):(j0 S).h=0:=by
 obtain⟨d,p,h⟩:=S;rw[lO]
theorem Lf{S:Sp}(b:S.d.size=25)(k:S.p.size=136):Ok (j0 S):=by
 have hd:(fO S.p S.d 17).size=25:=by rw[dZ,b]
 refine⟨?_,by rw[Lg,k],?_⟩
 ·rw[Li];exact sA _ hd
 ·rw[Lh];decide
theorem EN{S:Sp}(h:Ok S)(x:UInt8):Ok (xY S x):=by
 have:=h.hlt;unfold xY;by_cases e:S.h+1=136
 ·rw[yB3 e];exact Lf h.d25 (by show(S.p.setIfInBounds _ _).size=136;rw[Up];exact h.p136)
 ·rw[yB4 e];exact⟨h.d25,by show(S.p.setIfInBounds _ _).size=136;rw[Up];exact h.p136,by show S.h+1<136;omega⟩
theorem fW{S:Sp}(h:Ok S)(l:List UInt8):Ok (eF S l):=by
 induction l generalizing S with
 | nil=>exact h
 | cons x r ih=>exact ih (EN h x)
theorem OG{S:Sp}(h:Ok S)(x:UInt8):(xY S x).h=(S.h+1)%136:=by
 have:=h.hlt;unfold xY;by_cases e:S.h+1=136
 ·rw[yB3 e,e];rfl
 ·rw[yB4 e,Uf oM]
theorem Ex{S:Sp}(h:Ok S)(l:List UInt8):(eF S l).h=(S.h+l.length)%136:=by
 induction l generalizing S with
 | nil=>exact(Uf h.hlt).symm
 | cons x r ih =>
  show(eF (xY S x) r).h=_;rw[ih (EN h x),OG h x,Uy];omega
theorem mK(S:Sp)(l:List UInt8)(c:l≠[])(k:S.h+l.length<=136):
 eF S l=if S.h+l.length=136 then j0 { d:=S.d,p:=splice S.p S.h l,h:=S.h } else { d:=S.d,p:=splice S.p S.h l,h:=S.h+l.length }:=by
 induction l generalizing S with
 | nil=>exact absurd rfl c
 | cons x r ih =>
  show eF (xY S x) r=_;simp only[Uy]at k⊢;cases r with
  | nil =>
   unfold xY eF splice;simp only[List.foldl_nil,WS];by_cases e:S.h+1=136
   ·rw[yB3 e,yB3 oM];rfl
   ·rw[yB4 e,yB4 oM];rfl
  | cons y r' =>
   have e:¬S.h+1=136:=by simp only[Uy]at k;omega
   have f:xY S x = { d:=S.d,p:=S.p.setIfInBounds S.h x,h:=S.h+1 }:=by unfold xY;rw[yB4 e]
   rw[f,ih _ (by simp) (by simp only[Uy]at k⊢;omega)];simp only[splice,Uy];by_cases b:S.h+(r'.length+1+1)=136
   ·rw[yB3 oM,yB3 b];rfl
   ·rw[yB4 oM,yB4 b,show S.h+1+(r'.length+1)=S.h+(r'.length+1+1) by omega]
/-! ### The end -/
def ended(p : Bs)(h : Nat)(e : UInt8): Bs:=
  let q:=(splice p h (UU (136-h) 0)).setIfInBounds h e
  q.setIfInBounds 135 (q[135]! ^^^ 128)
def sK(S:Sp)(e:UInt8):Sp:=j0 { d:=S.d,p:=ended S.p S.h e,h:=S.h }
def iF(h:Nat)(e:UInt8):List UInt8:=
 (e :: UU (135-h) 0).set (135-h) ((e :: UU (135-h) 0)[135-h]! ^^^ 128)
theorem eH(h:Nat)(e:UInt8)(k:h<136):(iF h e).length=136-h:=by
 unfold iF;rw[List.length_set,Uy,VF];omega
theorem AD(a b:Bs)(n:Nat)(e:a.size=n)(d:b.size=n)(h:∀j,j<n->a[j]! = b[j]!):a=b:=by
 apply Z5 oM;intro i c k;have:=h i oM;rwa[getElem!_pos a i c,getElem!_pos b i k]at this
theorem OP(h:Nat)(e:UInt8)(j:Nat)(b:j<136-h)(g:h<136):(iF h e)[j]! = (if j=0 then e else 0) ^^^ (if j=135-h then 128 else 0):=by
 have f:∀j,j<136-h->(e :: UU (135-h) (0:UInt8))[j]! = if j=0 then e else 0:=by
  intro j b;cases j with
  | zero=>rfl
  | succ j =>
   have c:j+1<(e :: UU (135-h) (0:UInt8)).length:=by rw[Uy,VF];omega
   rw[getElem!_pos (e :: UU (135-h) (0:UInt8)) (j+1) c];simp
 have k:=eH h e g;have c:j<(e :: UU (135-h) (0:UInt8)).length:=by rw[Uy,VF];omega
 rw[getElem!_pos (iF h e) j (by rw[k];exact b)];unfold iF;rw[List.getElem_set];by_cases d:135-h=j
 ·rw[yB3 d,f (135-h) oM,d,yB3 (rfl:j=j)]
 ·rw[yB4 d,yB4 (show ¬j=135-h by omega)];have:=f j b;rw[getElem!_pos (e :: UU (135-h) (0:UInt8)) j c]at this;rw[this];simp
theorem DX(p:Bs)(h:Nat)(e:UInt8):(ended p h e).size=p.size:=by
 unfold ended;simp only[Up,cZ]
theorem Bg(n j:Nat)(h:j<n):(UU n (0:UInt8))[j]! = 0:=by
 rw[getElem!_pos _ j (by simpa using h)];simp
theorem Jt(p:Bs)(h:Nat)(e:UInt8)(c:p.size=136)(d:h<136):ended p h e=splice p h (iF h e):=by
 have i:(splice p h (UU (136-h) 0)).size=136:=by rw[cZ,c]
 refine AD _ _ 136 (by rw[DX,c]) (by rw[cZ,c]) (λj f=>?_);have g:∀j,j<136->((splice p h (UU (136-h) 0)).setIfInBounds h e)[j]! = if j<h then p[j]! else if j=h then e else 0:=by
  intro j f;by_cases k:j=h
  ·rw[k,getElem!_set_same _ _ _ oM,yB4 oM,yB3 rfl]
  ·rw[getElem!_set_other _ _ _ _ k,gU _ _ _ _ (by rw[VF,c];omega) oM,VF];by_cases b:j<h
   ·rw[yB4 oM,yB3 b]
   ·rw[yB3 oM,yB4 b,yB4 k,Bg _ _ oM]
 have l:(splice p h (iF h e))[j]! = if j<h then p[j]! else(if j=h then e else 0) ^^^ (if j=135 then 128 else 0):=by
  rw[gU _ _ _ _ (by rw[eH h e d,c];omega) oM,eH h e d];by_cases b:j<h
  ·rw[yB4 (show ¬(h<=j/\j<h+(136-h)) by omega),yB3 b]
  ·rw[yB3 (show h<=j/\j<h+(136-h) by omega),yB4 b,OP h e _ oM d];have k:(j-h=0)=(j=h):=by apply propext;omega
   have m:(j-h=135-h)=(j=135):=by apply propext;omega
   simp only[k,m]
 have m:(ended p h e)[j]! = if j<h then p[j]! else(if j=h then e else 0) ^^^ (if j=135 then 128 else 0):=by
  unfold ended;by_cases k:j=135
  ·rw[k,getElem!_set_same _ _ _ (by rw[Up,i];decide),g 135 dC,yB4 (show ¬135<h by omega),yB4 (show ¬135<h by omega),yB3 (rfl:135=135)]
  ·rw[getElem!_set_other _ _ _ _ k,g j f];by_cases b:j<h
   ·rw[yB3 b,yB3 b]
   ·rw[yB4 b,yB4 b,yB4 k];simp
 rw[m,l]
theorem yY{S:Sp}(h:Ok S)(e:UInt8):sK S e=eF S (iF S.h e):=by
 have:=h.hlt;have k:=eH S.h e h.hlt;rw[mK S _ (by intro c;rw[c]at k;simp at k;omega) oM,yB3 oM];unfold sK;rw[Jt _ _ _ h.p136 h.hlt]
end SP
namespace SP
open Go.RowKit Go.Sort Go.Deep
theorem Only.widen{b o n k c:Nat}{w w':TA}(h:Only b o n w w')(e:k<=o)(d:o+n<=k+c):Only b k c w w':=
 ⟨h.os,h.tape,h.output,h.size,h.block,λq f=>h.cell q oM,h.froz⟩
structure HSp(w:TA)(b:Nat)(S:Sp):Prop where
 d:Holds enc w b 0 S.d
 p:Holds encB w b 25 S.p
 h:w.cell? ⟨b,161,none⟩=some (iZ (S.h:Int))
 f:w.frozen? ⟨b,161,none⟩=false
theorem HSp.drew{w:TA}{b:Nat}{S:Sp}(h:HSp w b S):HSp w.drew b S:=⟨h.d,h.p,h.h,h.f⟩
theorem HSp.lt{w:TA}{b:Nat}{S:Sp}(h:HSp w b S):b<w.heap.size:=Vt _ _ h.h
theorem HSp.below{w w':TA}{b B:Nat}{S:Sp}(h:HSp w b S)(k:Below B w w')(c:b<B):HSp w' b S:=
 ⟨Holds.below h.d k c,Holds.below h.p k c,by rw[k.cell (p:=⟨b,161,none⟩) c];exact h.h,by rw[k.frozen (p:=⟨b,161,none⟩) c];exact h.f⟩
theorem uY(b:Nat)(S:Sp)(w:TA)(c:S.d.size=25)(g:S.p.size=136)(m:HSp w b S):
 TW prog 171 #[.pointer (some ⟨b,0,none⟩)] w λe w'=>e=.returned (.tuple #[])/\Only b 0 162 w w'/\HSp w' b (j0 S):=by
 obtain⟨d,p,h⟩:=S;dsimp only at c g;have E:Holds enc w b 0 d:=m.d;have A:Holds encB w b 25 p:=m.p;have a:=m.h;have hf:=m.f;dsimp only at a;rw[lO];clear m;have y:(perm (fO p d 17)).size=25:=sA _ (by rw[dZ,c]);generalize o:perm (fO p d 17)=C at y⊢;have t:Hid (perm (fO p d 17)=C):=o;clear o;go_enter func171,ntmps171;go_wp2;go_still_tail 7,mixed;go_wp2_with fail
 refine(Mi b 0 b 25 136 136 p d _ c (Holds.drew E) (Holds.drew A) g dC (TG _) oM).mono ?_;rintro e s ⟨rfl,l,n⟩;have k:Only b 0 25 w s:=((Only.refl b 0 25 w).drew).trans l;have j:Holds enc s b 0 (fO p d 17):=n;have z:=Holds.same A k oM;have G:s.cell? ⟨b,161,none⟩=some (.int .i64 h):=by rw[k.cell 161 oM];exact a
 have F:s.frozen? ⟨b,161,none⟩=false:=by rw[k.froz];exact hf
 clear l n;go_wp2_with fail
 refine(tD b 0 _ _ (by rw[dZ,c]) j).mono ?_;rintro e r ⟨rfl,f,q⟩;rw[t.out]at q;have v:=Holds.same z f oM;have D:r.cell? ⟨b,161,none⟩=some (.int .i64 h):=by rw[f.cell 161 oM];exact G
 have B:r.frozen? ⟨b,161,none⟩=false:=by rw[f.froz];exact F
 go_wp2
 go_end0
 have i:Only b 161 1 r (r.setCell ⟨b,161,none⟩ (.int .i64 0)):=(Only.refl b 161 1 r).setCell oM oM _;have u:=Holds.same q i (Ub oM);have x:=Holds.same v i (Ub oM);exact⟨rfl,((k.trans f).widen (TG _) oM).trans (i.widen oM oM),⟨u,x,Uu _ _ _ D,by rw[Un];exact B⟩⟩
theorem ints5:(prog.info? 5).map (·.size)=some 1:=kR
theorem gA{w:TA}{b o:Nat}{p:Bs}(h:Holds encB w b o p)(i:Nat)(l:List UInt8)(d:i+l.length<=p.size):Holds encB (w.setCells b (o+i) (l.map encB)) b o (splice p i l):=by
 refine Holds.setCells h _ i (cZ p i l) (by rw[Uk];exact d) (λj c=>?_) (λj c k=>?_)
 ·rw[Uk]at c;rw[gU p i l (i+j) d oM,yB3 oM,WM,getElem!_pos l j c,Wp]
 ·rw[Uk]at k;rw[gU p i l j d c,yB4 oM]
def piece(b:Bs)(k n:Nat):List UInt8:=(b.toList.drop k).take n
theorem qU(b:Bs)(k n:Nat)(h:k+n<=b.size):(piece b k n).length=n:=by
 unfold piece;rw[WF,YF,TR];omega
theorem piece_at(b:Bs)(k n j:Nat)(h:k+n<=b.size)(c:j<n)(d:j<(piece b k n).length):(piece b k n)[j]=b[k+j]!:=by
 have e:(piece b k n)[j]? = some b[k+j]!:=by
  unfold piece;rw[List.getElem?_take_of_lt c,List.getElem?_drop,UF,Uj oM,getElem!_pos b (k+j) oM]
 exact(T9.1 e).2
theorem CJ(b:Bs)(k n:Nat):b.toList.take (k+n)=b.toList.take k++piece b k n:=yBn
theorem D3{w:TA}{b h g o d cap n:Nat}{p e:Bs}{k:Nat}(m:Holds encB w b 25 p)(A:p.size=136)(u:Holds encB w g o e)(a:h<136)(B:k+d<=e.size)(i:Nat.min d (136-h)=n):
 (ZB #[23,23] 3 #[.slice (some ⟨b,25+h,none⟩) (136-h) (136-h),.slice (some ⟨g,o+k,none⟩) d cap]).run prog w=.ok (goInt n) (w.setCells b (25+h) ((piece e k n).map encB)):=by
 have y:n<=d:=by rw[<-i];exact yBe _ _
 have z:n<=136-h:=by rw[<-i];exact yA3 _ _
 have c:((piece e k n).map encB).length=n:=by rw[Uk,qU e k n oM]
 have:=run_copy_cells (P:=prog) w 23 23 3 5 b (25+h) (136-h) (136-h) ⟨g,o+k,none⟩ d cap ((piece e k n).map encB) slice22 ints5 (by rw[c,i])
  (λj v f=>by
   obtain⟨r,l⟩:=T9.1 f;rw[c]at r;have s:=(u (k+j) oM).1;rw[Wp,piece_at e k n j oM r]at l;have t:(⟨g,o+k,none⟩:V5).add j=⟨g,o+(k+j),none⟩:=by
    unfold XI;by_cases q:j=0
    ·subst q;rw[yB3 rfl];rfl
    ·rw[yB4 q,VQ]
   rw[t,s,l])
  (λj f=>by
   rw[c]at f;have:=(m (h+j) oM).1;rw[<-VQ]at this;rw[this];rfl)
  (λj f=>by
   rw[c]at f;have:=(m (h+j) oM).2;rw[<-VQ]at this;exact this)
  (λv hv=>by
   obtain⟨x,_,rfl⟩:=UM.1 hv;rfl)
 rw[c]at this;exact this
theorem rC{w:TA}{b:Nat}{d:St}{p:Bs}{v:TC}(j:Holds enc w b 0 d)(l:d.size=25)(i:Holds encB w b 25 p)(e:p.size=136)(g:w.cell? ⟨b,161,none⟩=some v)(hf:w.frozen? ⟨b,161,none⟩=false)(m:Nat):
 HSp (w.setCell ⟨b,161,none⟩ (iZ ((m:Nat):Int))) b ⟨d,p,m⟩:=by
 have f:Only b 161 1 w (w.setCell ⟨b,161,none⟩ (iZ ((m:Nat):Int))):=(Only.refl b 161 1 w).setCell oM oM _;have k:=Holds.same j f (Ub oM);have c:=Holds.same i f (Ub oM);exact⟨k,c,Uu _ _ _ g,by rw[Un];exact hf⟩
theorem take_any(b:Nat)(S:Sp)(a:Option V5)(v B c cap:Nat)(f:Bs)(w:TA)(Z:Ok S)(hS:HSp w b S)(hl:f.size=c)(h4:c<=cap)(h3:c<=1099511627776)
 (d:c=0\/(a=some ⟨v,B,none⟩/\v≠b/\Holds encB w v B f)) :
 TW prog 170 #[.pointer (some ⟨b,0,none⟩),.slice a c cap] w λe w'=>e=.returned (.tuple #[])/\Only b 0 162 w w'/\HSp w' b (eF S f.toList):=by
 go_enter func170,ntmps170;go_wp2;go_loopg [1] c (λg s1 wr=>∃(k:Nat) (X:Option V5) (l:Sp),k+g=c/\s1=.slice X (c-k) (cap-k)/\(k<c->X=some ⟨v,B+k,none⟩)/\HSp wr b l/\Only b 0 162 w wr/\Hid (l=eF S (f.toList.take k)))
 case atStart =>
  refine⟨0,a,S,oM,rfl,λi=>?_,hS,Only.refl _ _ _ _,rfl⟩;rcases d with h|⟨h,_,_⟩
  ·omega
  ·exact h
 case round =>
  obtain⟨k,X,l,hk,rfl,Q,p,V,HE⟩:=hrel;by_cases h1:k<c
  ·have Y:=Q h1;subst Y;obtain⟨_,h2,hB⟩:a=some ⟨v,B,none⟩/\v≠b/\Holds encB w v B f:=by
    rcases d with h|h
    ·omega
    ·exact h
   have K:=Holds.other hB V h2 oM;have j:Ok l:=by rw[HE.out];exact fW Z _
   obtain⟨q,O⟩:∃q,l.h=q:=⟨_,rfl⟩
   have s:=j.hlt;have D:=j.p136;rw[O]at s;have hc:=p.h;have hf:=p.f;rw[O]at hc;have hP:=p.p;obtain⟨n,M⟩:∃n,Nat.min (c-k) (136-q)=n:=⟨_,rfl⟩
   have l0:(0:Int)<((c-k:Nat):Int):=oM;have R:(q:Int)<=136:=oM;have Hh:Hid (l.h=q):=O;clear O;have P:=eq_false oM;have h7:1<=n:=by rw[<-M];exact(Nat.le_min).2 ⟨oM,oM⟩
   have h5:n<=c-k:=by rw[<-M];exact yBe _ _
   have h6:n<=136-q:=by rw[<-M];exact yA3 _ _
   have W:=D3 (w:=wr.drew) (cap:=cap-k) (k:=k) hP D K s oM M;have z:=qU f k n oM;have u:=gA (Holds.drew hP) q (piece f k n) oM;have y:Only b 0 162 w (wr.drew.setCells b (25+q) ((piece f k n).map encB)):=V.drew.setCells _ _ oM (by rw[Uk];omega);have C:Only b 25 136 wr (wr.drew.setCells b (25+q) ((piece f k n).map encB)):=((Only.refl b 25 136 wr).drew).setCells _ _ oM (by rw[Uk];omega);have t:=Holds.same p.d C (Ub (by rw[j.d25];omega));have J:(wr.drew.setCells b (25+q) ((piece f k n).map encB)).cell? ⟨b,161,none⟩=some (.int .i64 q):=by rw[C.cell 161 oM];exact hc
   have H:(wr.drew.setCells b (25+q) ((piece f k n).map encB)).frozen? ⟨b,161,none⟩=false:=by rw[C.froz];exact hf
   have N:Hid (eF S (f.toList.take (k+n))=eF l (piece f k n)):=by
    show _=_;rw[CJ,fX,<-HE.out]
   have i:Hid (eF l (piece f k n)=if q+n=136 then j0 ⟨l.d,splice l.p q (piece f k n),q⟩ else⟨l.d,splice l.p q (piece f k n),q+n⟩):=by
    show _=_;have:=mK l (piece f k n) (by intro e;rw[e]at z;simp at z;omega) (by rw[z,Hh.out];omega);rw[z,Hh.out]at this;exact this
   have r:(splice l.p q (piece f k n)).size=136:=by rw[cZ,D]
   have m:=j.d25;generalize U:wr.drew.setCells b (25+q) ((piece f k n).map encB)=W1 at W u y t J H;generalize splice l.p q (piece f k n)=G at u r i;generalize l.d=F at t m i;clear C U hP K j z p D M;have z1:(n:Int)<=((c-k:Nat):Int):=oM;by_cases A:cap-k=n
   ·have I:(cap-k=n)=True:=eq_true A;have L:Hid (cap-k=n):=A;clear A;by_cases d:q+n=136
    ·have T:((q:Int)+(n:Int) == 136)=true:=beq_iff_eq.2 oM;rw[yB3 d]at i;go_wp2_with fail
     go_still_tail 9,mixed;go_wp2_with fail
     refine(uY b ⟨F,G,q+n⟩ _ m r (rC t m u r J H (q+n))).mono ?_;rintro e w2 ⟨rfl,E,x⟩;go_wp2;go_roundg (gk-n)
     case measure=>omega
     case rel =>
      refine⟨k+n,some ⟨v,B+k,none⟩,j0 ⟨F,G,q⟩,oM,by rw[Xv,Xv],λhx=>by have:=L.out;omega,?_,?_,?_⟩
      ·rw[lO]at x⊢;exact x
      ·exact(y.setCell (o:=161) oM oM _).trans E
      ·rw[N.out,i.out];rfl
    ·have T:=beq_eq_false_iff_ne.2 oM;rw[yB4 d]at i;go_wp2_with fail
     go_still_tail 9,mixed;go_wp2;go_roundg (gk-n)
     case measure=>omega
     case rel =>
      refine⟨k+n,some ⟨v,B+k,none⟩,⟨F,G,q+n⟩,oM,by rw[Xv,Xv],λhx=>by have:=L.out;omega,?_,?_,?_⟩
      ·exact rC t m u r J H (q+n)
      ·exact y.setCell (o:=161) oM oM _
      ·rw[N.out,i.out];rfl
   ·have I:=eq_false A;by_cases d:q+n=136
    ·have T:=beq_iff_eq.2 oM;rw[yB3 d]at i;go_wp2_with fail
     go_still_tail 9,mixed;go_wp2_with fail
     refine(uY b ⟨F,G,q+n⟩ _ m r (rC t m u r J H (q+n))).mono ?_;rintro e w2 ⟨rfl,E,x⟩;go_wp2;go_roundg (gk-n)
     case measure=>omega
     case rel =>
      refine⟨k+n,some ⟨v,B+k+n,none⟩,j0 ⟨F,G,q⟩,oM,by rw[Xv,Xv],λ_=>by rw[VQ],?_,?_,?_⟩
      ·rw[lO]at x⊢;exact x
      ·exact(y.setCell (o:=161) oM oM _).trans E
      ·rw[N.out,i.out];rfl
    ·have T:=beq_eq_false_iff_ne.2 oM;rw[yB4 d]at i;go_wp2_with fail
     go_still_tail 9,mixed;go_wp2;go_roundg (gk-n)
     case measure=>omega
     case rel =>
      refine⟨k+n,some ⟨v,B+k+n,none⟩,⟨F,G,q+n⟩,oM,by rw[Xv,Xv],λ_=>by rw[VQ],?_,?_,?_⟩
      ·exact rC t m u r J H (q+n)
      ·exact y.setCell (o:=161) oM oM _
      ·rw[N.out,i.out];rfl
  ·have d:k=c:=oM;go_wp2
   go_end0
   refine⟨rfl,V,?_⟩;have Y:f.toList.take k=f.toList:=YE (by rw[TR];omega);rw[HE.out,Y]at p;exact p
theorem qX(x:UInt8):Wr 8 (x.toNat:Int)=x.toBitVec:=by
 apply Z0;rw[yAa,Y5];exact Uf x.toNat_lt
theorem zD(x y:UInt8):bits .xor .u8 (ub x) (ub y)=ub (x ^^^ y):=by
 show Yo.wrap ((Wr 8 (x.toNat:Int) ^^^ Wr 8 (y.toNat:Int)).toNat:Int)=_;rw[qX,qX,<-UInt8.toBitVec_xor];have h:((x ^^^ y).toNat:Int)<256:=by have:=(x ^^^ y).toNat_lt;omega
 have e:∀n:Int,Yo.wrap n=n%256:=λn=>by simp[yAY,yAZ,yAy]
 rw[e];exact yAV (Int.natCast_nonneg _) h
theorem Nb(x:UInt8):bits .xor .u8 (ub x) 128=ub (x ^^^ 128):=zD x 128
theorem Qm:∀w:TA,(zeroValue 5).run prog w=.ok (.int .u8 0) w:=λ_=>kR
theorem Cg{w:TA}{b q:Nat}{p:Bs}(c:Holds encB w b 25 p)(f:p.size=136)(e:q<136)(k:Uw):
 (Builtin.clear_ #[23] k #[.slice (some ⟨b,25+q,none⟩) (136-q) (136-q)]).run prog w=.ok (.tuple #[]) (w.setCells b (25+q) ((UU (136-q) (0:UInt8)).map encB)):=by
 have h:=Lib.run_clear_slice (P:=prog) w 23 5 k (.int .u8 0) slice22 Qm rfl rfl b (25+q) (136-q) (136-q) oM
  (λj d=>by
   have:=(c (q+j) oM).1;rw[<-VQ]at this;rw[this];rfl)
  (λj d=>by
   have:=(c (q+j) oM).2;rw[<-VQ]at this;exact this)
 rw[List.map_replicate];exact h
theorem Fc(b:Nat)(S:Sp)(e:UInt8)(w:TA)(l:Ok S)(z:HSp w b S):
 TW prog 159 #[.pointer (some ⟨b,0,none⟩),.int .u8 (ub e)] w λr w'=>r=.returned (.tuple #[])/\Only b 0 162 w w'/\HSp w' b (sK S e):=by
 obtain⟨d,p,q⟩:=S;have G:d.size=25:=l.d25;have n:p.size=136:=l.p136;have X:q<136:=l.hlt;have Y:Holds enc w b 0 d:=z.d;have I:Holds encB w b 25 p:=z.p;have Q:w.cell? ⟨b,161,none⟩=some (.int .i64 q):=z.h;have hf:=z.f;have v:=Cg (Holds.drew I) n X 0;have t:Only b 25 136 w (w.drew.setCells b (25+q) ((UU (136-q) (0:UInt8)).map encB)):=((Only.refl b 25 136 w).drew).setCells _ _ oM (by rw[Uk,VF];omega);have j:=gA (Holds.drew I) q (UU (136-q) (0:UInt8)) (by rw[VF];omega);have y:(splice p q (UU (136-q) 0)).size=136:=by rw[cZ,n]
 have a:Hid (sK ⟨d,p,q⟩ e=j0 ⟨d,((splice p q (UU (136-q) 0)).setIfInBounds q e).setIfInBounds 135 (((splice p q (UU (136-q) 0)).setIfInBounds q e)[135]! ^^^ 128),q⟩):=by
  show _=_;unfold sK ended;rfl
 generalize w.drew.setCells b (25+q) ((UU (136-q) (0:UInt8)).map encB)=C at v t j;generalize splice p q (UU (136-q) 0)=V at j y a;have B:(136=q)=False:=eq_false oM;have K:(q:Int)<=136:=oM;have D:(q:Int)<136:=oM;have Z:C.cell? ⟨b,161,none⟩=some (.int .i64 q):=by rw[t.cell 161 oM];exact Q
 obtain⟨c2,U⟩:=j q oM;obtain⟨k,c⟩:∃s,V.setIfInBounds q e=s:=⟨_,rfl⟩
 rw[c]at a;have N:k.size=136:=by rw[<-c,Up,y]
 obtain⟨x,H⟩:∃x,k[135]! = x:=⟨_,rfl⟩
 rw[H]at a;have T:=Nb x;have u:=Holds.set j (i:=q) oM e;rw[c]at u;have A:Only b 25 136 w (C.setCell ⟨b,25+q,none⟩ (.int .u8 (ub e))):=t.setCell (o:=25+q) oM oM _;have f:Holds encB (C.setCell ⟨b,25+q,none⟩ (.int .u8 (ub e))) b 25 k:=u;have W:Hid (k[135]! = x):=H;rw[a.out];clear z l I c H u a;have J:(k.setIfInBounds 135 (x ^^^ 128)).size=136:=by rw[Up,N]
 go_enter func159,ntmps159;go_wp2;go_still_tail 8,mixed;go_wp2_with fail
 go_region
 go_wp2_with fail
 generalize C.setCell ⟨b,25+q,none⟩ (.int .u8 (ub e))=P at f A⊢;obtain⟨c3,f3⟩:=rJ f 135 oM W.out;clear Z c2 U v j;go_region
 go_wp2_with fail
 have M:=Holds.set f (i:=135) oM (x ^^^ 128);have g:Only b 25 136 w (P.setCell ⟨b,160,none⟩ (.int .u8 (ub (x ^^^ 128)))):=A.setCell (o:=160) oM oM _;have m:Holds encB (P.setCell ⟨b,160,none⟩ (.int .u8 (ub (x ^^^ 128)))) b 25 (k.setIfInBounds 135 (x ^^^ 128)):=M;generalize P.setCell ⟨b,160,none⟩ (.int .u8 (ub (x ^^^ 128)))=R at m g⊢;have F:Holds enc R b 0 d:=Holds.same Y g (Ub oM);have E:HSp R b ⟨d,k.setIfInBounds 135 (x ^^^ 128),q⟩:=⟨F,m,by rw[g.cell 161 oM];exact Q,by rw[g.froz];exact hf⟩
 refine(uY b ⟨d,k.setIfInBounds 135 (x ^^^ 128),q⟩ _ G J E.drew.drew).mono ?_;rintro r w4 ⟨rfl,L,O⟩;go_wp2
 go_end0
 exact⟨rfl,(g.drew.drew.widen oM oM).trans L,O⟩
end SP
namespace SP
open Go.Sort
def dY(d:St):Nat->St
 | 0=>d
 | m+1=>perm (dY d m)
theorem dJ(d:St)(hd:d.size=25)(m:Nat):(dY d m).size=25:=by
 induction m with
 | zero=>exact hd
 | succ m ih=>exact sA _ ih
def dR(d:St)(j:Nat):UInt8:=byteOf (dY d (j/136)) (j%136)
def fZ(d:St)(n:Nat):Bs:=Array.ofFn (λi:Fin n=>dR d i.val)
theorem fY(d:St)(n:Nat):(fZ d n).size=n:=by simp[fZ]
theorem o6(d:St)(n j:Nat)(k:j<n):(fZ d n)[j]! = dR d j:=by
 rw[getElem!_pos (fZ d n) j (by rw[fY];exact k)];simp[fZ]
def S0:Sp:=⟨dE,TP 136 0,0⟩
theorem rL:Ok S0:=⟨by simp[S0,dE],by simp[S0],dC⟩
def jT(l:List UInt8)(e:UInt8):St:=(sK (eF S0 l) e).d
theorem nQ(l:List UInt8)(e:UInt8):(jT l e).size=25:=by
 unfold jT;have h:=fW rL l;rw[yY h];exact(fW h _).d25
def yW(l:List UInt8):Bs:=front (jT l 6) 32
def uW(l:List UInt8)(n:Nat):Bs:=fZ (jT l 31) n
theorem B5(l:List UInt8):yW l=fZ (jT l 6) 32:=by
 unfold yW;refine AD _ _ 32 (aQ _ _) (fY _ _) (λj k=>?_);rw[jO _ _ _ k,o6 _ _ _ k];unfold dR;rw[WY oM,Uf oM];rfl
/-! ### The reference: all bytes with what stands behind them, piece by piece -/
def total(l : List UInt8)(e : UInt8): List UInt8:=l ++ iF (l.length%136) e
theorem qF(l:List UInt8)(e:UInt8):(total l e).length=136*(l.length/136+1):=by
 unfold total;rw[TT,eH _ _ (Vm _ dC)];omega
theorem AL(l:List UInt8)(e:UInt8):jT l e=(eF S0 (total l e)).d:=by
 unfold jT total;have h:=fW rL l;have k:=Ex rL l;rw[fX,yY h,k];have:S0.h=0:=rfl;rw[this,TO]
def qB(st:Bs)(T:List UInt8)(o:Nat):Nat->Bs
 | 0=>st
 | k+1=>(qB st T o k).setIfInBounds k ((qB st T o k)[k]! ^^^ T[o+k]!)
theorem yD(st:Bs)(T:List UInt8)(o k:Nat):(qB st T o k).size=st.size:=by
 induction k with
 | zero=>rfl
 | succ k ih=>rw[qB,Up,ih]
theorem Kt(st:Bs)(T:List UInt8)(o k j:Nat)(d:k<=st.size)(c:j<st.size):(qB st T o k)[j]! = if j<k then st[j]! ^^^ T[o+j]! else st[j]!:=by
 induction k with
 | zero=>rfl
 | succ k ih =>
  rw[qB];by_cases h:j=k
  ·subst h;rw[getElem!_set_same _ _ _ (by rw[yD];exact c),ih oM,yB4 oM,yB3 oM]
  ·rw[getElem!_set_other _ _ _ _ h,ih oM];by_cases b:j<k
   ·rw[yB3 b,yB3 oM]
   ·rw[yB4 b,yB4 oM]
def kB(T:List UInt8):Nat->Bs
 | 0=>TP 200 0
 | i+1=>kZ (qB (kB T i) T (136*i) 136)
theorem Cv:front dE 200=TP 200 0:=by
 refine AD _ _ 200 (aQ _ _) (by rw[TY]) (λj k=>?_);have b:j<(TP 200 (0:UInt8)).size:=by rw[TY];exact k
 rw[jO _ _ _ k,getElem!_pos (TP 200 (0:UInt8)) j b,U9];unfold byteOf;rw[jD _ oM];unfold low;simp
theorem Ks(x y:UInt8)(i:Nat):(x ^^^ y).toNat.testBit i=(x.toNat.testBit i ^^ y.toNat.testBit i):=by
 rw[UInt8.toNat_xor,Nat.testBit_xor]
theorem Mh(d:St)(hd:d.size=25)(p:Bs)(T:List UInt8)(o:Nat)(l:∀j,j<136->p[j]! = T[o+j]!):
 fO (qB (front d 200) T o 136) dE 25=fO p d 17:=by
 have g:dE.size=25:=by simp[dE]
 refine CP _ _ (by rw[dZ,g]) (by rw[dZ,hd]) (λj c=>?_);rw[qY _ dE g 25 j (TG _) c,yB3 c,jD j c,zx,qY _ d hd 17 j dC c];apply ZP;intro k f;have i:∀m,m<200->(qB (front d 200) T o 136)[m]! = if m<136 then(front d 200)[m]! ^^^ T[o+m]! else(front d 200)[m]!:=λm n =>
  Kt _ _ _ _ _ (by rw[aQ];decide) (by rw[aQ];exact n)
 have e:=congrArg (λv=>v.getLsbD k) (uP d 200 j oM);simp only[wordOf]at e⊢;rw[o5 _ _ 8 k (TG _) f]at e⊢;rw[i _ oM];by_cases b:j<17
 ·rw[yB3 oM,yB3 b,BitVec.getLsbD_xor,<-e,o5 _ _ 8 k (TG _) f,Ks,l _ oM];simp[f]
 ·rw[yB4 oM,yB4 b,<-e]
theorem CL(T:List UInt8)(i:Nat):T.take (136*(i+1))=T.take (136*i)++(T.drop (136*i)).take 136:=by
 rw[show 136*(i+1)=136*i+136 by omega,yBn]
theorem Is(T:List UInt8)(i:Nat)(h:136*i<=T.length):kB T i=front (eF S0 (T.take (136*i))).d 200:=by
 induction i with
 | zero =>
  rw[XZ,YX];exact Cv.symm
 | succ i ih =>
  rw[kB,ih oM,CL T i,fX];have k:=fW rL (T.take (136*i));have c:(eF S0 (T.take (136*i))).h=0:=by
   rw[Ex rL,WF,Nat.min_eq_left oM];have:S0.h=0:=rfl;omega
  generalize eF S0 (T.take (136*i))=S at k c;obtain⟨d,p,q⟩:=S;have hd:=k.d25;have l:p.size=136:=k.p136;have g:=c;subst g;have b:((T.drop (136*i)).take 136).length=136:=by rw[WF,YF];omega
  rw[mK _ _ (by intro e;rw[e]at b;simp at b) (by rw[b];exact TG _),b,yB3 rfl,lO];unfold kZ;rw[Mh d hd (splice p 0 ((T.drop (136*i)).take 136)) T (136*i)];intro j f;rw[gU _ _ _ _ (by rw[b,l];decide) oM,yB3 oM,YD,getElem!_pos _ j (by rw[b];exact f),getElem!_pos T (136*i+j) oM];rw[List.getElem_take,List.getElem_drop]
theorem Bj(l:List UInt8)(e:UInt8):kB (total l e) (l.length/136+1)=front (jT l e) 200:=by
 have h:=qF l e;rw[Is _ _ oM,AL,YE oM]
end SP
namespace SP
open Go.RowKit Go.Sort Go.Deep
theorem nO{w:TA}{g l cap r k n c:Nat}{cur f:Bs}(y:Holds encB w g 0 cur)(D:cur.size=cap)(a:Holds encB w r 0 f)(C:f.size=n)(p:k=n)(e:l+n<=cap)(t:Uw):
 (Ur #[23,23] t #[.slice (some (aZ g)) l cap,.slice (some (aZ r)) k c]).run prog w=.ok (.slice (some (aZ g)) (l+n) cap) (w.setCells g l (f.toList.map encB)):=by
 subst p;obtain⟨i,A,_,d,_⟩:=info_parts info5;have b:(f.toList.map encB).length=k:=by rw[Uk,TR,C]
 have o:Src prog i.size 23 (.slice (some (aZ r)) k c) k (f.toList.map encB) w:=by
  rw[d];refine yAW w slice22 (aZ r) k c _ (by rw[b,Wq]) (λj v m=>?_) (λv hv=>?_)
  ·obtain⟨B,s⟩:=T9.1 m;rw[b]at B;have q:=(a j oM).1;rw[getElem!_pos f j oM]at q;rw[Wp,VY]at s;have z:(⟨r,0,none⟩:V5).add j=⟨r,0+j,none⟩:=by
    unfold XI;by_cases u:j=0
    ·subst u;rw[yB3 rfl]
    ·rw[yB4 u]
   rw[z,q,s]
  ·obtain⟨x,_,rfl⟩:=UM.1 hv;rfl
 have h:=run_append_room_src (P:=prog) w 23 23 t 5 i slice22 A g 0 l cap (.slice (some (aZ r)) k c) k _ o e
  (λj m=>by
   rw[b]at m;rw[d,Wq,VQ,(y (l+j) oM).1];rfl)
  (λj m=>by
   rw[b]at m;rw[d,Wq,VQ];exact(y (l+j) oM).2)
 rw[d,Wq,TO]at h;exact h
theorem Only.with_new{b o n g m p:Nat}{w c d:TA}(h:Only b o n w c)(k:Only g p m c d)(t:w.heap.size<=g)(r:b<w.heap.size):Only b o n w d:=by
 have s:=h.size;have e:=k.block b oM oM;exact⟨k.os.trans h.os,k.tape.trans h.tape,k.output.trans h.output,TU h.size k.size,
  λj i f=>(k.block j oM oM).trans (h.block j i f),
  λq l=>(Ua (w:=c) (a:=⟨b,q,none⟩) e).trans (h.cell q l),λq=>(UY (w:=c) (a:=⟨b,q,none⟩) e).trans (h.froz q)⟩
theorem Dk(d:St)(m:Nat)(h:¬m=0):perm (dY d (m-1))=dY d m:=by
 obtain⟨k,rfl⟩:∃k,m=k+1:=⟨m-1,oM⟩
 rw[Yr,dY]
theorem A8(d:St)(m:Nat)(cur:Bs)(b:136*m+136<=cur.size)(h:∀j,j<136*m->cur[j]! = dR d j):∀j,j<136*(m+1)->(splice cur (136*m) (front (dY d m) 136).toList)[j]! = dR d j:=by
 intro j e;have k:(front (dY d m) 136).toList.length=136:=by rw[TR,aQ]
 rw[gU _ _ _ _ (by rw[k];exact b) oM,k];by_cases c:j<136*m
 ·rw[yB4 oM,h j c]
 ·rw[yB3 oM,getElem!_pos _ (j-136*m) (by rw[k];omega),VY,<-getElem!_pos (front (dY d m) 136) (j-136*m) (by rw[aQ];omega),jO _ _ _ oM];unfold dR;rw[show j/136=m by omega,show j%136=j-136*m by omega]
theorem Jh(b:Nat)(d:St)(n:Nat)(w:TA)(f:d.size=25)(hD:Holds enc w b 0 d)(hn:n<=16384):
 TW prog 182 #[pZ b,iZ n] w λe w'=>e=.returned (.slice (some ⟨w.heap.size,0,none⟩) n n)/\Only b 0 25 w w'/\Holds encB w' w.heap.size 0 (fZ d n):=by
 have K:=Holds.lt hD oM;obtain⟨i,hi,J,S,T⟩:=info_parts info5;obtain⟨q,V⟩:∃c,n+136=c:=⟨_,rfl⟩
 have h3:∀w:TA,(VI 23 (iZ 0) (iZ ((n:Int)+136))).run prog w=.ok (.slice (some ⟨w.heap.size,0,none⟩) 0 q) (w.alloc (.cells (madeCells #[.int .u8 0] q) 5)):=by
  intro w;have h:=run_make (P:=prog) w 23 5 i (.int .u8 0) slice22 hi J .i64 .i64 0 ((n:Int)+136) oM oM (by rw[T];omega) oM;rw[S,Wq,show((n:Int)+136).toNat=q by omega]at h;exact h
 have X:Holds encB (w.alloc (.cells (madeCells #[.int .u8 0] q) 5)) w.heap.size 0 (TP q 0):=Holds.made (enc:=encB) w 5 q 0;have W:Only b 0 25 w (w.alloc (.cells (madeCells #[.int .u8 0] q) 5)):=(Only.refl _ _ _ _).alloc K _;have U:=Holds.below hD ((TX w.heap.size w).alloc (TG _) (.cells (madeCells #[.int .u8 0] q) 5)) K;have Q:w.heap.size<(w.alloc (.cells (madeCells #[.int .u8 0] q) 5)).heap.size:=by simp
 have M:=mk1 (V);go_enter func182,ntmps182;go_wp2;go_loopg [5] q (λg s5 wr=>∃(m l:Nat) (cur:Bs),Hid (l=136*m)/\l+g=q/\1<=g/\s5=.slice (some ⟨w.heap.size,0,none⟩) l q/\Holds encB wr w.heap.size 0 cur/\cur.size=q/\Holds enc wr b 0 (dY d (m-1))/\Only b 0 25 w wr/\w.heap.size<wr.heap.size/\Hid (∀j,j<136*m->cur[j]! = dR d j))
 case atStart=>exact⟨0,0,_,rfl,oM,by have:=M.out;omega,rfl,X,by rw[TY],U,W,Q,λj O=>oM⟩
 case round =>
  obtain⟨m,l,cur,a,hg,h2,rfl,L,x,A,R,hs,HE⟩:=hrel;have Y:=dJ d f (m-1);by_cases h1:l<n
  ·have h0:(l:Int)<(n:Int):=oM;have HN:Hid (∀j,j<136*(m+1)->(splice cur l (front (dY d m) 136).toList)[j]! = dR d j):=by
    rw[a.out];exact A8 d m cur (by rw[<-a.out];omega) HE
   by_cases H:m=0
   ·have J:¬(0:Int)<(l:Int):=by have:=a.out;omega
    have s:Holds enc wr b 0 (dY d m):=by rw[H]at A⊢;exact A
    go_wp2_with fail
    refine(sJ b 0 136 _ _ (dJ d f m) s dC).mono ?_;rintro e E ⟨rfl,o,N⟩;have p:=Holds.below L o (Holds.lt L oM);have C:=Holds.below s o (Holds.lt s (by rw[dJ d f];decide));have u:=nO (l:=l) (k:=136) (n:=136) (c:=136) p x N (aQ _ _) rfl oM 23;have t:=gA p l (front (dY d m) 136).toList (by rw[TR,aQ];omega);rw[TO]at t;have B:=R.trans (Only.of_below o rfl (Holds.lt s (by rw[dJ d f];decide)));have r:Only w.heap.size 0 q E (E.setCells w.heap.size l ((front (dY d m) 136).toList.map encB)):=(Only.refl _ _ _ _).setCells _ _ oM (by rw[Uk,TR,aQ];omega);have y:=B.with_new r (TG _) K;have z:=Holds.other C r oM (by rw[dJ d f];decide);have v:=TF (Holds.lt p oM) r.size;generalize E.setCells w.heap.size l ((front (dY d m) 136).toList.map encB)=F at u t y z v;have D:Hid _:=u;go_wp2_with (at_builtin;refine Vi _ rfl _ _ 23 23 rfl _ _ rfl rfl _ _ D.out ?_)
    go_roundg (gk-136)
    case measure=>omega
    case rel =>
     exact⟨m+1,l+136,_,by have:=a.out;show _=_;omega,oM,oM,rfl,t,by rw[cZ,x],z,y,v,HN⟩
   ·have Z:(0:Int)<(l:Int):=by have:=a.out;omega
    go_wp2_with fail
    refine(tD b 0 _ _ Y A).mono ?_;rintro e w1 ⟨rfl,G,s⟩;rw[Dk d m H]at s;have I:=Holds.other L G oM oM;have F:=R.trans G;go_wp2_with fail
    refine(sJ b 0 136 _ _ (dJ d f m) s dC).mono ?_;rintro e E ⟨rfl,o,N⟩;have p:=Holds.below I o (Holds.lt I oM);have C:=Holds.below s o (Holds.lt s (by rw[dJ d f];decide));have u:=nO (l:=l) (k:=136) (n:=136) (c:=136) p x N (aQ _ _) rfl oM 23;have t:=gA p l (front (dY d m) 136).toList (by rw[TR,aQ];omega);rw[TO]at t;have B:=F.trans (Only.of_below o rfl (Holds.lt s (by rw[dJ d f];decide)));have r:Only w.heap.size 0 q E (E.setCells w.heap.size l ((front (dY d m) 136).toList.map encB)):=(Only.refl _ _ _ _).setCells _ _ oM (by rw[Uk,TR,aQ];omega);have y:=B.with_new r (TG _) K;have z:=Holds.other C r oM (by rw[dJ d f];decide);have v:=TF (Holds.lt p oM) r.size;have D:Hid _:=u;go_wp2_with (at_builtin;refine Vi _ rfl _ _ 23 23 rfl _ _ rfl rfl _ _ D.out ?_)
    go_roundg (gk-136)
    case measure=>omega
    case rel =>
     exact⟨m+1,l+136,_,by have:=a.out;show _=_;omega,oM,oM,rfl,t,by rw[cZ,x],z,y,v,HN⟩
  ·have o:(n:Int)<=(l:Int):=oM;go_wp2;go_ret;refine⟨rfl,R,λj O=>?_⟩;rw[fY]at O;have:=L j oM;rw[HE.out j (by have:=a.out;omega)]at this;rw[o6 d n j O];exact this
def eX:Array TC:=TP 25 (uZ 0)++TP 136 (.int .u8 0)++#[iZ 0]
theorem Ha:∀w:TA,(zeroValue 223).run prog w=.ok (.agg eX) w:=λ_=>kR
theorem HW(j:Nat)(b:j<25):eX[j]? = some (uZ 0):=by
 have k:j<(TP 25 (uZ 0)).size:=by rw[TY];exact b
 unfold eX;rw[yAu,Yf k,Uj k,U9]
theorem Hz(j:Nat)(b:j<136):eX[25+j]? = some (.int .u8 0):=by
 have k:j<(TP 136 (UV .u8 0)).size:=by rw[TY];exact b
 unfold eX;rw[yAu,ZC (by rw[TY];omega),TY,WM,Yf k,Uj k,U9]
theorem HH:eX[161]? = some (iZ 0):=by
 unfold eX;rw[ZC (by rw[UA,TY,TY];decide),UA,TY,TY];rfl
theorem E2(w:TA)(t:Uw):HSp (w.alloc (.cells eX t)) w.heap.size S0:=by
 refine⟨λj b=>?_,λj b=>?_,?_,?_⟩
 ·have k:j<25:=by simpa[S0,dE]using b
  rw[Us,Vr,TO,HW j k];refine⟨?_,rfl⟩;have e:S0.d[j]! = 0:=jD j k;rw[e];rfl
 ·have k:j<136:=by simpa[S0]using b
  rw[Us,Vr,Hz j k];refine⟨?_,rfl⟩;have e:S0.p[j]! = 0:=rep_at 136 j k;rw[e];rfl
 ·rw[Us,HH];rfl
 ·rw[Vr]
theorem Em(a:Option V5)(f p k cap n:Nat)(d:Bs)(w:TA)(z:n<=16384)(B:d.size=k)(i:k<=cap)(g:k<=1099511627776)(l:k=0\/(a=some ⟨f,p,none⟩/\Holds encB w f p d)):
 TW prog 175 #[.slice a k cap,iZ n] w λe w'=>∃r,e=.returned (.tuple #[.slice (some (aZ r)) n n,iZ 0])/\w.heap.size<=r/\Below w.heap.size w w'/\Holds encB w' r 0 (uW d.toList n):=by
 have o:=E2 w 223;have c:Below w.heap.size w (w.alloc (.cells eX 223)):=(TX _ _).alloc (TG _) _;have s:w.heap.size<(w.alloc (.cells eX 223)).heap.size:=by simp
 have b:k=0\/(a=some ⟨f,p,none⟩/\f≠w.heap.size/\Holds encB (w.alloc (.cells eX 223)) f p d):=by
  by_cases q:k=0
  ·exact Ub q
  ·rcases l with h|⟨t,m⟩
   ·exact Ub h
   ·have j:=Holds.lt m oM;exact T8 ⟨t,oM,Holds.below m c j⟩
 have E:=Ha;go_enter func175,ntmps175;go_wp2_with fail
 generalize w.alloc (.cells eX 223)=C at o c s b⊢;refine(take_any w.heap.size S0 a f p k cap d C rL o B i g b).mono ?_;rintro e x ⟨rfl,j,u⟩;go_wp2_with fail
 refine(Fc w.heap.size (eF S0 d.toList) 31 x (fW rL _) u).mono ?_;rintro e A ⟨rfl,m,q⟩;have t:=q.d;go_wp2_with fail
 refine(Jh w.heap.size _ n _ (nQ _ _) t z).mono ?_;rintro e D ⟨rfl,v,y⟩;go_wp2
 go_ret2
 have s1:=j.size;have s2:=m.size;exact⟨A.heap.size,rfl,oM,(c.trans ((j.trans m).below oM (TG _))).trans (v.below oM (TG _)),y⟩
end SP
namespace SP
open Go.RowKit Go.Sort Go.Deep
def Own(B:Nat)(w:TA)(v:TC)(T:List UInt8):Prop:=
 ∃g cap cur,v=.slice (some (aZ g)) T.length cap/\B<=g/\g<w.heap.size/\ZQ cur=cap/\T.length<=cap/\Holds encB w g 0 cur/\∀j,j<T.length->cur[j]! = T[j]!
theorem Holds.front{α:Type}[Inhabited α]{f:α->TC}{w:TA}{b o:Nat}{d e:Array α}(h:Holds f w b o d)(g:e.size<=d.size)(c:∀j,j<e.size->e[j]! = d[j]!):Holds f w b o e:=by
 intro j k;rw[c j k];exact h j oM
theorem nA(T:List UInt8)(j:Nat):T.toArray[j]! = T[j]!:=by
 by_cases h:j<T.length
 ·rw[getElem!_pos T.toArray j (by simpa using h),getElem!_pos T j h];simp
 ·rw[getElem!_neg T.toArray j (by simpa using h),getElem!_neg T j h]
theorem wK(a b:List UInt8)(j:Nat)(h:j<a.length):(a++b)[j]! = a[j]!:=by
 rw[getElem!_pos (a++b) j (by rw[TT];omega),getElem!_pos a j h,List.getElem_append_left h]
theorem oU(a b:List UInt8)(j:Nat)(h:a.length<=j)(k:j<a.length+b.length):(a++b)[j]! = b[j-a.length]!:=by
 rw[getElem!_pos (a++b) j (by rw[TT];omega),getElem!_pos b (j-a.length) oM,List.getElem_append_right h]
variable {B:Nat}{w w1:TA}{v:TC}{T:List UInt8}
theorem Own.holds{g cap n:Nat}(h:Own B w (.slice (some (aZ g)) n cap) T):B<=g/\n=T.length/\T.length<=cap/\Holds encB w g 0 T.toArray:=by
 obtain⟨i,k,cur,hv,d,_,l,e,c,f⟩:=h;injection hv with e1 e2 e3
 injection e1 with e1
 injection e1 with e1 _ _
 subst e1 e3;exact⟨d,e2,e,Holds.front c (by simp;omega) (λj b=>by rw[nA];exact(f j (by simpa using b)).symm)⟩
theorem Own.below(h:Own B w v T)(k:Below w.heap.size w w1):Own B w1 v T:=by
 obtain⟨g,cap,cur,hv,d,b,f,e,c,i⟩:=h;exact⟨g,cap,cur,hv,d,TF b k.size,f,e,Holds.below c k b,i⟩
theorem mA(s:ByteArray)(i:B<=w.heap.size):
 ∃b w',(convert 9 23 (.string s)).run prog w=.ok b w'/\Own B w' b s.data.toList/\Below w.heap.size w w'/\b=.slice (some ⟨w.heap.size,0,none⟩) s.size (grownCap w s.size 0 5):=by
 have h:=Lib.run_convert_string_bytes (P:=prog) w 9 23 5 s str9 slice22 int5;have f:s.size<=grownCap w s.size 0 5:=by
  unfold grownCap yAx;exact YA _ _
 have l:s.data.size=s.size:=rfl;refine⟨_,_,h,⟨w.heap.size,grownCap w s.size 0 5,s.data++TP (grownCap w s.size 0 5-s.size) 0,?_,i,by rw[Zi];omega,?_,?_,?_,?_⟩,?_,rfl⟩
 ·rw[TR];rfl
 ·rw[UA,TY];omega
 ·rw[TR];omega
 ·intro j b;rw[UA,TY]at b;have e:=Lib.bytesWorld_at_new w 5 s;have d:(WX w 5 s).size=grownCap w s.size 0 5:=by
   unfold WX;rw[UA,Array.size_map,TY];omega
  have g:(WX w 5 s)=(s.data++TP (grownCap w s.size 0 5-s.size) 0).map encB:=by
   unfold WX;rw[yAK,YW];rfl
  have c:j<(s.data++TP (grownCap w s.size 0 5-s.size) 0).size:=by rw[UA,TY];exact b
  constructor
  ·unfold World.cell?;rw[e];simp only[TO];rw[yB4 dC,g,yAr,Uj c,XK,getElem!_pos _ j c]
  ·unfold World.frozen?;rw[e];simp only[TO,d];simp;omega
 ·intro j b;rw[TR]at b;rw[app_front _ _ j b,getElem!_pos s.data.toList j (by rw[TR];exact b),VY]
 ·refine⟨?_,?_,?_,?_,λk b=>Lib.bytesWorld_at_old w 5 s k b⟩
  ·unfold Yt YH;rw[yB4 dC];rfl
  ·unfold Yt YH;rw[yB4 dC];rfl
  ·unfold Yt YH;rw[yB4 dC];rfl
  ·rw[Zi];omega
theorem Holds.below'{α:Type}[Inhabited α]{f:α->TC}{w e:TA}{b o:Nat}{d:Array α}(h:Holds f w b o d)(k:Below w.heap.size w e):Holds f e b o d:=by
 intro j g;have c:=Holds.lt h oM;exact Holds.below h k c j g
theorem DK(l:List UInt8):(yW l).size=32:=by rw[yW,aQ]
end SP
namespace SP
open Go.RowKit Go.Sort Go.Deep
def aX(n d:Nat):UInt8:=TV (n/d)
theorem dT(n d:Nat):(n:Int)/(d:Int)%256=ub (aX n d):=by
 have k:((n:Int)/(d:Int))=((n/d:Nat):Int):=by rw[YN]
 rw[k];unfold ub aX;rw[Yc];omega
theorem qZ(n:Nat):(n:Int)%256=ub (aX n 1):=by
 have:=dT n 1;rw[show((1:Nat):Int)=1 from rfl,Int.ediv_one]at this;exact this
def gZ(l:List UInt8):List UInt8:=[aX l.length 16777216,aX l.length 65536,aX l.length 256,aX l.length 1]++l
theorem iI(l:List UInt8):(gZ l).length=l.length+4:=by
 unfold gZ;rw[TT];simp only[Uy,WS];omega
theorem l8(w:TA)(x y z t:UInt8):Holds encB (w.alloc (.cells #[.int .u8 (ub x),.int .u8 (ub y),.int .u8 (ub z),.int .u8 (ub t)] 5)) w.heap.size 0 #[x,y,z,t]:=by
 have h:=Holds.new (enc:=encB) w 5 #[x,y,z,t];have e:yBV encB #[x,y,z,t]=#[.int .u8 (ub x),.int .u8 (ub y),.int .u8 (ub z),.int .u8 (ub t)]:=by simp[encB]
 rw[e]at h;exact h
theorem oQ(b:Nat)(S:Sp)(a:Option V5)(d j k cap:Nat)(g:Bs)(w:TA)(r:Ok S)(C:HSp w b S)(F:g.size=k)(m:k<=cap)(l:k<=1099511627776)
 (i:k=0\/(a=some ⟨d,j,none⟩/\d≠b/\Holds encB w d j g)) :
 TW prog 158 #[pZ b,.slice a k cap] w λe w'=>e=.returned (.tuple #[])/\Only b 0 162 w w'/\HSp w' b (eF S (gZ g.toList)):=by
 have D:=C.lt;have b0:(k:Int)/16777216%256=ub (aX k 16777216):=dT k 16777216;have b1:(k:Int)/65536%256=ub (aX k 65536):=dT k 65536;have I:(k:Int)/256%256=ub (aX k 256):=dT k 256;have J:(k:Int)%256=ub (aX k 1):=qZ k;have G:Hid (gZ g.toList=(#[aX k 16777216,aX k 65536,aX k 256,aX k 1]:Bs).toList++g.toList):=by
  unfold gZ;rw[TR,F];rfl
 have B:=l8 w (aX k 16777216) (aX k 65536) (aX k 256) (aX k 1);generalize aX k 16777216=n at *;generalize aX k 65536=s at *;generalize aX k 256=o at *;generalize aX k 1=u at *;have f:Below w.heap.size w (w.alloc (.cells #[.int .u8 (ub n),.int .u8 (ub s),.int .u8 (ub o),.int .u8 (ub u)] 5)):=(TX _ _).alloc (TG _) _;have t:=C.below f D;have q:Only b 0 162 w (w.alloc (.cells #[.int .u8 (ub n),.int .u8 (ub s),.int .u8 (ub o),.int .u8 (ub u)] 5)):=Only.of_below f rfl D;have c:k=0\/(a=some ⟨d,j,none⟩/\d≠b/\Holds encB (w.alloc (.cells #[.int .u8 (ub n),.int .u8 (ub s),.int .u8 (ub o),.int .u8 (ub u)] 5)) d j g):=by
  by_cases z:k=0
  ·exact Ub z
  ·rcases i with h|⟨A,v,x⟩
   ·exact Ub h
   ·exact T8 ⟨A,v,Holds.below x f (Holds.lt x oM)⟩
 go_enter func158,ntmps158;go_wp2_with fail
 generalize w.alloc (.cells #[.int .u8 (ub n),.int .u8 (ub s),.int .u8 (ub o),.int .u8 (ub u)] 5)=H at B f t q c⊢;refine(take_any b S (some ⟨w.heap.size,0,none⟩) w.heap.size 0 4 4 #[n,s,o,u] H r t rfl (TG _) dC (T8 ⟨rfl,oM,B⟩)).mono ?_;rintro e E ⟨rfl,p,y⟩;have i:k=0\/(a=some ⟨d,j,none⟩/\d≠b/\Holds encB E d j g):=by
  by_cases z:k=0
  ·exact Ub z
  ·rcases c with h|⟨A,v,x⟩
   ·exact Ub h
   ·exact T8 ⟨A,v,Holds.other x p v oM⟩
 go_wp2_with fail
 refine(take_any b _ a d j k cap g E (fW r _) y F m l i).mono ?_;rintro e z ⟨rfl,x,v⟩;go_wp2
 go_end0
 refine⟨rfl,(q.trans p).trans x,?_⟩;rw[G.out,fX];exact v
theorem zL(s:ByteArray)(w:TA)(l:s.size<=1048576):
 TW prog 131 #[.string s] w λe w'=>∃o,e=.returned (.string o)/\o.data.toList=gZ s.data.toList/\Below w.heap.size w w':=by
 have b0:=dT s.size 16777216;have b1:=dT s.size 65536;have j:(s.size:Int)/256%256=ub (aX s.size 256):=dT s.size 256;have n:(s.size:Int)%256=ub (aX s.size 1):=qZ s.size;have c:Hid (gZ s.data.toList=(#[aX s.size 16777216,aX s.size 65536,aX s.size 256,aX s.size 1]:Bs).toList++s.data.toList):=by
  unfold gZ;rw[TR];rfl
 have d:=l8 w (aX s.size 16777216) (aX s.size 65536) (aX s.size 256) (aX s.size 1);generalize aX s.size 16777216=k at *;generalize aX s.size 65536=b at *;generalize aX s.size 256=f at *;generalize aX s.size 1=g at *;have m:=conv_str prog 23 9 5 slice22 int5 str9 _ w.heap.size 0 4 4 #[k,b,f,g] d rfl;have i:(s.size:Int)/16777216=ub k:=oM;have p:(s.size:Int)/65536=ub b:=oM;go_enter func131,ntmps131;go_wp2;go_ret;refine⟨_,rfl,?_,(TX _ _).alloc (TG _) _⟩;rw[c.out,Yl,Array.toList_append]
def bO(k:List UInt8)(b:List (List UInt8)):List UInt8:=gZ k++b.flatMap gZ
def jU(k:List UInt8)(b:List (List UInt8)):Bs:=yW (bO k b)
theorem eO(k:List UInt8)(b:List (List UInt8)):(jU k b).size=32:=DK _
theorem rD(k:List UInt8)(b:List (List UInt8))(x:List UInt8):bO k (b++[x])=bO k b++gZ x:=by
 unfold bO;rw[Yb,<-yAH];simp
def PartOk(w:TA)(v:TC)(x:List UInt8):Prop:=
 ∃a b c cap k,v=.slice a (ZQ k) cap/\k.toList=x/\k.size<=cap/\k.size<=1099511627776/\(k.size=0\/(a=some ⟨b,c,none⟩/\Holds encB w b c k))
theorem PartOk.below{w c:TA}{v:TC}{x:List UInt8}(h:PartOk w v x)(k:Below w.heap.size w c):PartOk c v x:=by
 obtain⟨a,l,m,cap,e,i,f,g,d,b⟩:=h;refine⟨a,l,m,cap,e,i,f,g,d,?_⟩;rcases b with b|⟨b,j⟩
 ·exact Ub b
 ·exact T8 ⟨b,Holds.below' j k⟩
def PartsOk(w:TA)(d:Option V5)(k:List (List UInt8)):Prop:=
 k.length=0\/∃c b,d=some ⟨c,b,none⟩/\∀j,j<k.length->∃v,w.cell? ⟨c,b+j,none⟩=some v/\PartOk w v k[j]!
theorem PartsOk.below{w d:TA}{b:Option V5}{e:List (List UInt8)}(h:PartsOk w b e)(k:Below w.heap.size w d):PartsOk d b e:=by
 rcases h with h|⟨c,g,n,m⟩
 ·exact Ub h
 ·refine T8 ⟨c,g,n,λj l=>?_⟩;obtain⟨v,f,i⟩:=m j l;exact⟨v,by rw[k.cell (p:=⟨c,g+j,none⟩) (Vt _ _ f)];exact f,i.below k⟩
theorem As(b:List UInt8)(c:List (List UInt8))(k:Nat):(bO b (c.take k)).length<=(bO b c).length:=by
 have e:bO b c=bO b (c.take k)++(c.drop k).flatMap gZ:=by
  unfold bO;rw[yAH,<-Yb,List.take_append_drop]
 rw[e,TT];omega
theorem mJ{α:Type}[Inhabited α](l:List α)(k:Nat)(h:k<l.length):l.take (k+1)=l.take k++[l[k]!]:=by
 rw[List.take_succ_eq_append_getElem h,getElem!_pos l k h]
theorem AM(b:ByteArray)(Z:Option V5)(I:Nat)(c:List (List UInt8))(w:TA)(h7:b.size<=1048576)(hh:c.length<=1048576)(hP:PartsOk w Z c):
 TW prog 129 #[.string b,.slice Z c.length I] w λe w'=>∃r,e=.returned (.slice (some (aZ r)) 32 32)/\w.heap.size<=r/\Below w.heap.size w w'/\Holds encB w' r 0 (jU b.data.toList c):=by
 have o:=E2 w 223;have A:Below w.heap.size w (w.alloc (.cells eX 223)):=(TX _ _).alloc (TG _) _;have K:(w.alloc (.cells eX 223)).heap.size=w.heap.size+1:=by simp
 have zv:=Ha;generalize N:w.alloc (.cells eX 223)=X at o A K;obtain⟨v2,W2,q,i,x,S⟩:=mA (w:=X) (B:=0) b (VH _);rw[S]at q i;obtain⟨h5,z,C,Y⟩:=i.holds;rw[<-z]at C;clear h5 z;have d:Holds encB W2 X.heap.size 0 b.data:=by simpa using Y
 have V:=o.below x o.lt;have h9:=x.size;obtain⟨n,hn⟩:∃n,c.length=n:=⟨_,rfl⟩
 rw[hn];have M:=mk1 (hn);rw[K]at q d;generalize hc:grownCap X b.size 0 5=c2 at *;have h8:(convert 9 23 (.string b)).run prog (w.alloc (.cells eX 223))=.ok (.slice (some ⟨w.heap.size+1,0,none⟩) b.size c2) W2:=by rw[N];exact q
 go_enter func129,ntmps129;go_wp2_with fail
 refine(oQ w.heap.size S0 (some ⟨w.heap.size+1,0,none⟩) (w.heap.size+1) 0 b.size c2 b.data W2 rL V rfl oM oM (T8 ⟨rfl,oM,d⟩)).mono ?_;rintro e w3 ⟨rfl,P,G⟩;have R:=(A.trans (x.mono oM)).trans (P.below oM (TG _));have hg:=G.lt;go_wp2;go_loopg [13] n (λg s13 wr=>∃(k:Nat) (u:Sp),k+g=n/\s13=iZ k/\HSp wr w.heap.size u/\Below w.heap.size w wr/\Ok u/\Hid (u=eF S0 (bO b.data.toList (c.take k))))
 case atStart =>
  refine⟨0,_,oM,rfl,G,R,fW rL _,?_⟩;rw[YX];unfold bO;rw[List.flatMap_nil,List.append_nil];rfl
 case round =>
  obtain⟨k,u,hk,rfl,D,m,s,HE⟩:=hrel;by_cases he:k<n
  ·obtain⟨F,E,rfl,J⟩:∃F E,Z=some ⟨F,E,none⟩/\∀j,j<c.length->∃v,w.cell? ⟨F,E+j,none⟩=some v/\PartOk w v c[j]!:=by
    rcases hP with h|h
    ·have:=M.out;omega
    ·exact h
   obtain⟨v,t,h4⟩:=J k (by have:=M.out;omega);have W:=Vt _ _ t;have ha:wr.cell? ⟨F,E+k,none⟩=some v:=by rw[m.cell (p:=⟨F,E+k,none⟩) W];exact t
   obtain⟨a,L,Q,cap,y,rfl,H,h6,T,f⟩:=h4;have l:y.size=0\/(a=some ⟨L,Q,none⟩/\L≠w.heap.size/\Holds encB wr L Q y):=by
    by_cases h0:y.size=0
    ·exact Ub h0
    ·rcases f with h|⟨U,O⟩
     ·exact Ub h
     ·have:=Holds.lt O oM;exact T8 ⟨U,oM,Holds.below O m this⟩
   have HB:Hid (y.toList=c[k]!):=H;have l1:(k:Int)<(n:Int):=oM;generalize h3:y.size=bz at *;clear t f J H;go_wp2_with fail
   refine(oQ w.heap.size u a L Q bz cap y wr s D h3 h6 T l).mono ?_;rintro e w4 ⟨rfl,O,U⟩;go_wp2;go_roundg (gk-1)
   case measure=>omega
   case rel =>
    refine⟨k+1,_,oM,by go_num,U,m.trans (O.below m.size (TG _)),fW s _,?_⟩;rw[mJ c k (by have:=M.out;omega),rD,fX,<-HE.out,HB.out];rfl
  ·have J:k=n:=oM;have y:Hid (u=eF S0 (bO b.data.toList c)):=by
    have f:c.take k=c:=YE (by have:=M.out;omega);rw[f]at HE;exact HE
   go_wp2_with fail
   refine(Fc w.heap.size u 6 wr s D).mono ?_;rintro e H ⟨rfl,f,t⟩;have E:Holds enc H w.heap.size 0 (jT (bO b.data.toList c) 6):=by
    have:=t.d;rw[y.out]at this;exact this
   go_wp2_with fail
   refine(sJ w.heap.size 0 32 _ _ (nQ _ _) E dC).mono ?_;rintro e Q ⟨rfl,F,l⟩;have L:=f.size;have O:=m.size;go_wp2;go_ret;exact⟨H.heap.size,rfl,oM,(m.trans (f.below m.size (TG _))).trans (F.mono oM),l⟩
end SP
namespace SP
open Go.RowKit Go.Sort Go.Deep
variable {B:Nat}{w w1:TA}{v:TC}{T:List UInt8}
set_option maxRecDepth 4000
theorem xO{r c:Nat}{xs:Bs}(h:Own B w v T)(K:Holds encB w r 0 xs)(L:B<=w.heap.size)(J:T.length+xs.size<=1099511627776)(k:Nat)(S:k=xs.size):
 ∃d w',(Ur #[23,23] 23 #[v,.slice (some (aZ r)) k c]).run prog w=.ok d w'/\Own B w' d (T++xs.toList)/\Below B w w':=by
 subst S;obtain⟨g,cap,cur,rfl,N,I,M,U,F,D⟩:=h;obtain⟨i,O,R,a,H⟩:=info_parts info5;have d:xs.toList.length=xs.size:=TR;have f:(T++xs.toList).length=T.length+xs.size:=by rw[TT,d]
 by_cases s:T.length+xs.size<=cap
 ·have m:=nO (l:=T.length) (k:=xs.size) (n:=xs.size) (c:=c) F M K rfl rfl s 23;have o:=gA F T.length xs.toList (by rw[d];omega);rw[TO]at o;refine⟨_,_,m,⟨g,cap,splice cur T.length xs.toList,by rw[f],N,TF I (below_setCells (B:=0) (b:=g) (VH _) _ _ _ (TX 0 w)).size,by rw[cZ,M],oM,o,λj q=>?_⟩,?_⟩
  ·rw[f]at q;rw[gU _ _ _ _ (by rw[d];omega) oM,d];by_cases p:j<T.length
   ·rw[yB4 oM,wK _ _ _ p,D j p]
   ·rw[yB3 oM,oU _ _ _ oM (by rw[d];omega)]
  ·exact below_setCells N _ _ _ (TX _ _)
 ·have A:(Builtin.firstCells i.size T.length (.slice (some (aZ g)) T.length cap)).run prog w.drew=.ok (T.map encB).toArray w.drew:=by
   rw[a];refine run_firstCells_some w.drew 1 T.length (aZ g) T.length cap (T.map encB) (by rw[Uk,Wq]) (λj u q=>?_);obtain⟨p,t⟩:=T9.1 q;rw[Uk]at p;have o:=(F j oM).1;rw[D j p,getElem!_pos T j p]at o;rw[Wp]at t;have E:(⟨g,0,none⟩:V5).add j=⟨g,0+j,none⟩:=by
    unfold XI;by_cases C:j=0
    ·subst C;rw[yB3 rfl]
    ·rw[yB4 C]
   rw[E,World.cell?_drew,o,t]
  have y:(xs.toList.map encB).length=xs.size:=by rw[Uk,d]
  have z:Src prog i.size 23 (.slice (some (aZ r)) xs.size c) xs.size (xs.toList.map encB) w:=by
   rw[a];refine yAW w slice22 (aZ r) xs.size c _ (by rw[y,Wq]) (λj u q=>?_) (λu G=>?_)
   ·obtain⟨p,t⟩:=T9.1 q;rw[y]at p;have o:=(K j oM).1;rw[getElem!_pos xs j oM]at o;rw[Wp,VY]at t;have E:(⟨r,0,none⟩:V5).add j=⟨r,0+j,none⟩:=by
     unfold XI;by_cases C:j=0
     ·subst C;rw[yB3 rfl]
     ·rw[yB4 C]
    rw[E,o,t]
   ·obtain⟨x,_,rfl⟩:=UM.1 G;rfl
  have E:YC (T.length+xs.size) cap<=2*(T.length+xs.size)+768:=by
   unfold YC;split
   ·omega
   ·split
    ·omega
    ·simp only[Builtin.growBy];repeat' split
     all_goals omega
  have m:=run_append_grow_src (P:=prog) w 23 23 23 5 i (.int .u8 0) slice22 O R (some (aZ g)) T.length cap (T.map encB) A _ xs.size (xs.toList.map encB) z oM oM (by rw[H];omega);generalize C:grownCap w (T.length+xs.size) cap 5=G at m;have Q:T.length+xs.size<=G:=by
   rw[<-C];unfold grownCap yAx;exact YA _ _
  have o:(T.map encB++xs.toList.map encB).toArray++VN (UV .u8 0).cells (G-(T.length+xs.size))=((T++xs.toList).toArray++TP (G-(T.length+xs.size)) (0:UInt8)).map encB:=by
   rw[yAK,YW,<-List.map_append]
   congr 1
   ·simp
   ·unfold VN;have e:(UV .u8 0).cells=#[UV .u8 0]:=rfl;rw[e];apply Z5
    ·simp
    ·intro k p t;simp[ZM];rfl
  rw[o]at m;refine⟨_,_,m,⟨w.heap.size,G,(T++xs.toList).toArray++TP (G-(T.length+xs.size)) 0,by rw[f],L,by simp,?_,oM,?_,λj q=>?_⟩,?_⟩
  ·rw[UA,TY,List.size_toArray,f];omega
  ·exact Holds.new (enc:=encB) w.drew 5 _
  ·rw[app_front _ _ j (by simpa using q)];rw[getElem!_pos (T++xs.toList) j q];simp
  ·exact((TX B w).drew).alloc (by exact L) _
end SP
namespace SP
open Go.RowKit Go.Sort Go.Deep
theorem JE{w:TA}{b r:Nat}{L T:Bs}(e:Holds encB w b 0 L)(o:L.size=32)(n:Holds encB w r 0 T)(l:T.size=32):
 (ZB #[23,23] 3 #[.slice (some (aZ b)) 32 32,.slice (some (aZ r)) 32 32]).run prog w=.ok (goInt 32) (w.setCells b 0 (T.toList.map encB)):=by
 have k:(T.toList.map encB).length=32:=by rw[Uk,TR,l]
 have:=run_copy_cells (P:=prog) w 23 23 3 5 b 0 32 32 (aZ r) 32 32 (T.toList.map encB) slice22 ints5 (by rw[k];rfl)
  (λj u c=>by
   obtain⟨m,f⟩:=T9.1 c;rw[k]at m;have d:=(n j oM).1;rw[getElem!_pos T j oM]at d;rw[Wp,VY]at f;have i:(⟨r,0,none⟩:V5).add j=⟨r,0+j,none⟩:=by
    unfold XI;by_cases g:j=0
    ·subst g;rw[yB3 rfl]
    ·rw[yB4 g]
   rw[i,d,f])
  (λj c=>by rw[(e j oM).1];rfl) (λj c=>(e j oM).2)
  (λu d=>by obtain⟨x,_,rfl⟩:=UM.1 d;rfl)
 rw[k]at this;exact this
theorem An{w:TA}{b:Nat}{L T:Bs}(e:Holds encB w b 0 L)(g:L.size=32)(d:T.size=32):Holds encB (w.setCells b 0 (T.toList.map encB)) b 0 T:=by
 have k:(T.toList.map encB).length=32:=by rw[Uk,TR,d]
 refine Holds.setCells e (T.toList.map encB) 0 oM oM (λj c=>?_) (λj i f=>oM);rw[k]at c;rw[Wp,VY,TO,getElem!_pos T j oM]
theorem Eh{w c:TA}{b:Nat}{L T:Bs}(i:Holds encB w b 0 L)(g:L.size=32)(d:T.size=32)(f:b<w.heap.size)(k:Below w.drew.heap.size w.drew c):
 Only b 0 32 w (c.setCells b 0 (T.toList.map encB))/\Holds encB (c.setCells b 0 (T.toList.map encB)) b 0 T:=by
 have e:(T.toList.map encB).length=32:=by rw[Uk,TR,d]
 refine⟨?_,An (Holds.below (Holds.drew i) k f) g d⟩;exact Only.setCells (((Only.refl b 0 32 w).drew).trans (Only.of_below k rfl f)) _ 0 (TG _) oM
theorem qA(b:Nat)(L:Bs)(k:ByteArray)(m:Option V5)(c n:Nat)(d:List (List UInt8))(w:TA)(g:k.size<=1048576)(p:d.length=n)(u:n<=1048576)(x:PartsOk w m d)(o:Holds encB w b 0 L)(s:L.size=32):
 TW prog 93 #[.pointer (some ⟨b,0,none⟩),.string k,.slice m n c] w λe w'=>e=.returned (.tuple #[])/\Only b 0 32 w w'/\Holds encB w' b 0 (jU k.data.toList d):=by
 subst p;have q:=Holds.lt o oM;have r:=AM k m c d w.drew g u (x.below ((TX _ _).drew));generalize z:jU k.data.toList d=T at r⊢;have j:T.size=32:=by rw[<-z,eO]
 have t:=mk1 (r);go_enter func93,ntmps93;go_wp2;go_region_with (go_at_call 129;refine Calls.mono t.out ?_;rintro e A ⟨a,rfl,y,i,l⟩;have v:=JE (Holds.below (Holds.drew o) i q) s l j;have f:=Eh o s j q i)
 all_goals (try go_wp2)
 all_goals go_end0
 all_goals exact⟨rfl,f⟩
def encV(v:TC):TC:=v
theorem Gh(l:List UInt8)(n:Nat):(uW l n).size=n:=by rw[uW,fY]
def newL(k:List UInt8):Bs:=jU [108,111,103] [k]
def kU(L:Bs)(k b:List UInt8):Bs:=jU [115,97,121] [L.toList,k,b]
def t7(L:Bs)(k:List UInt8)(n:Nat):Bs:=uW (jU [97,115,107] [L.toList,k]).toList n
def mD(L:Bs)(k:List UInt8):Bs:=jU [97,115,107,101,100] [L.toList,k]
theorem sF(l:List UInt8):(newL l).size=32:=eO _ _
theorem fL(L:Bs)(l t:List UInt8):(kU L l t).size=32:=eO _ _
theorem fR(L:Bs)(l:List UInt8):(mD L l).size=32:=eO _ _
theorem zG(L:Bs)(l:List UInt8)(n:Nat):(t7 L l n).size=n:=Gh _ _
theorem lH(s:ByteArray)(w:TA)(p:s.size<=1099511627776):
 ∃c w',(convert 9 23 (.string s)).run prog w=.ok (.slice (some ⟨w.heap.size,0,none⟩) s.size c) w'/\s.size<=c/\Holds encB w' w.heap.size 0 s.data/\PartOk w' (.slice (some ⟨w.heap.size,0,none⟩) s.size c) s.data.toList/\Below w.heap.size w w'/\w.heap.size<w'.heap.size:=by
 obtain⟨v2,o,e,k,m,l⟩:=mA (w:=w) (B:=0) s (VH _);rw[l]at e k;have j:w.heap.size<o.heap.size:=by
  obtain⟨g,cap,cur,b,_,d,_⟩:=k;injection b with b
  injection b with b
  injection b with b
  omega
 obtain⟨q,n,b,i⟩:=k.holds;rw[<-n]at b;have d:Holds encB o w.heap.size 0 s.data:=by simpa using i
 have f:=b;exact⟨_,o,e,f,d,⟨_,w.heap.size,0,_,s.data,rfl,rfl,f,p,T8 ⟨rfl,d⟩⟩,m,j⟩
theorem oC(W:TA)(vs:Array TC)(k:List (List UInt8))(t:Uw)(d:vs.size=k.length)(h:∀j,j<k.length->PartOk W vs[j]! k[j]!):
 PartsOk (W.alloc (.cells vs t)) (some ⟨W.heap.size,0,none⟩) k:=by
 refine T8 ⟨W.heap.size,0,rfl,λj b=>⟨vs[j]!,?_,(h j b).below ((TX _ _).alloc (TG _) _)⟩⟩;have c:vs.map encV=vs:=by
  have:encV=id:=rfl;rw[this,Array.map_id]
 have:=(Holds.new (enc:=encV) W t vs j oM).1;rw[c]at this;exact this
theorem vU{w:TA}{b:Nat}{L:Bs}(c:Holds encB w b 0 L)(k:L.size=32):PartOk w (.slice (some (aZ b)) 32 32) L.toList:=
 ⟨_,b,0,32,L,by rw[k],rfl,oM,oM,T8 ⟨rfl,c⟩⟩
theorem Kr:∀w:TA,(zeroValue 156).run prog w=.ok (.agg (TP 32 (.int .u8 0))) w:=λ_=>kR
theorem Ep(k:ByteArray)(w:TA)(v:k.size<=1048576):
 TW prog 128 #[.string k] w λe w'=>e=.returned (.pointer (some ⟨w.heap.size,0,none⟩))/\Below w.heap.size w w'/\Holds encB w' w.heap.size 0 (newL k.data.toList):=by
 have a:=Kr;have s:Holds encB (w.alloc (.cells (TP 32 (.int .u8 0)) 156)) w.heap.size 0 (TP 32 0):=by
  have:=Holds.new (enc:=encB) w 156 (TP 32 0);rw[YW]at this;exact this
 have t:Below w.heap.size w (w.alloc (.cells (TP 32 (.int .u8 0)) 156)):=(TX _ _).alloc (TG _) _;have p:(w.alloc (.cells (TP 32 (.int .u8 0)) 156)).heap.size=w.heap.size+1:=by simp
 obtain⟨c,i,o,z,x,u,l,m⟩:=lH k (w.alloc (.cells (TP 32 (.int .u8 0)) 156)) oM;have g:=Holds.below' s l;have f:=oC i #[.slice (some ⟨(w.alloc (.cells (TP 32 (.int .u8 0)) 156)).heap.size,0,none⟩) k.size c] [k.data.toList] 23 rfl (λj y=>by
  have b:j=0:=by simpa using y
  subst b;exact u)
 have d:Below i.heap.size i (i.alloc (.cells #[.slice (some ⟨(w.alloc (.cells (TP 32 (.int .u8 0)) 156)).heap.size,0,none⟩) k.size c] 23)):=(TX _ _).alloc (TG _) _;have b:=Holds.below' g d;rw[p]at o f d b m;have n:=(t.trans (l.mono oM)).trans (d.mono oM);go_enter func128,ntmps128;go_wp2_with fail
 refine(qA w.heap.size (TP 32 0) ⟨#[108,111,103]⟩ (some ⟨i.heap.size,0,none⟩) 1 1 [k.data.toList] _ dC rfl dC f b (by simp)).mono ?_;rintro e A ⟨rfl,r,q⟩;go_wp2;go_ret;exact⟨rfl,n.trans (r.below n.size (TG _)),q⟩
theorem uL(b:Nat)(L:Bs)(k:ByteArray)(i:Option V5)(m l:Nat)(d:List UInt8)(w:TA)(z:k.size<=1048576)(x:Holds encB w b 0 L)(a:L.size=32)(E:PartOk w (.slice i m l) d):
 TW prog 48 #[pZ b,.string k,.slice i m l] w λe w'=>e=.returned (.tuple #[])/\Only b 0 32 w w'/\Holds encB w' b 0 (kU L k.data.toList d):=by
 have y:=Holds.lt x oM;obtain⟨c,g,D,F,B,s,f,A⟩:=lH k w oM;have n:=Holds.below x f y;have o:=E.below f;have q:=oC g #[.slice (some (aZ b)) 32 32,.slice (some ⟨w.heap.size,0,none⟩) k.size c,.slice i m l] [L.toList,k.data.toList,d] 23 rfl (λj C=>by
  have p:j<3:=C;match j,p with
  | 0,_=>exact vU n a
  | 1,_=>exact s
  | 2,_=>exact o)
 have r:Below g.heap.size g (g.alloc (.cells #[.slice (some (aZ b)) 32 32,.slice (some ⟨w.heap.size,0,none⟩) k.size c,.slice i m l] 23)):=(TX _ _).alloc (TG _) _;have u:=Holds.below' n r;have t:Only b 0 32 w (g.alloc (.cells #[.slice (some (aZ b)) 32 32,.slice (some ⟨w.heap.size,0,none⟩) k.size c,.slice i m l] 23)):=(Only.of_below f rfl y).alloc oM _;go_enter func48,ntmps48;go_wp2_with fail
 refine(qA b L ⟨#[115,97,121]⟩ (some ⟨g.heap.size,0,none⟩) 3 3 [L.toList,k.data.toList,d] _ dC rfl dC q u a).mono ?_;rintro e G ⟨rfl,v,p⟩;go_wp2
 go_end0
 exact⟨rfl,t.trans v,p⟩
theorem Na(b:Nat)(L:Bs)(k:ByteArray)(n:Nat)(w:TA)(X:k.size<=1048576)(hn:n<=1024)(W:Holds encB w b 0 L)(U:L.size=32):
 TW prog 168 #[pZ b,.string k,iZ n] w λe w'=>∃r,e=.returned (.tuple #[.slice (some (aZ r)) n n,iZ 0])/\w.heap.size<=r/\Only b 0 32 w w'/\Holds encB w' b 0 (mD L k.data.toList)/\Holds encB w' r 0 (t7 L k.data.toList n):=by
 have N:=Holds.lt W oM;obtain⟨c,l,h7,hc,J,t,z,h0⟩:=lH k w oM;have g:=Holds.below W z N;have m:=oC l #[.slice (some (aZ b)) 32 32,.slice (some ⟨w.heap.size,0,none⟩) k.size c] [L.toList,k.data.toList] 23 rfl (λj p=>by
  have d:j<2:=p;match j,d with
  | 0,_=>exact vU g U
  | 1,_=>exact t)
 have q:Below l.heap.size l (l.alloc (.cells #[.slice (some (aZ b)) 32 32,.slice (some ⟨w.heap.size,0,none⟩) k.size c] 23)):=(TX _ _).alloc (TG _) _;have v:=Holds.below' g q;have u:Only b 0 32 w (l.alloc (.cells #[.slice (some (aZ b)) 32 32,.slice (some ⟨w.heap.size,0,none⟩) k.size c] 23)):=(Only.of_below z rfl N).alloc oM _;have d0:decide ((n:Int)<0)=false:=decide_eq_false oM;have d1:¬(1024:Int)<(n:Int):=oM;clear J t q;go_enter func168,ntmps168;go_wp2_with fail
 refine(AM ⟨#[97,115,107]⟩ (some ⟨l.heap.size,0,none⟩) 2 [L.toList,k.data.toList] _ dC (by show 2<=1048576;omega) m).mono ?_;rintro e w3 ⟨r3,rfl,ha,D,M⟩;have H:=Holds.below' v D;have B:=u.trans (Only.of_below D rfl (TF N u.size));clear m v g;go_wp2_with fail
 refine(Em (some (aZ r3)) r3 0 32 32 n _ _ oM (eO _ _) oM oM (T8 ⟨rfl,M⟩)).mono ?_;rintro e s ⟨E,rfl,h6,y,O⟩;have P:=Holds.below' H y;have he:=B.size;have a:=B.trans (Only.of_below y rfl oM);have T:Holds encB s E 0 (t7 L k.data.toList n):=O;have h5:=a.size;obtain⟨V,i,h4,h8,h9,R,f,Z⟩:=lH k s oM;have x:=Holds.below' P f;have G:=Holds.below' T f;have A:=oC i #[.slice (some (aZ b)) 32 32,.slice (some ⟨s.heap.size,0,none⟩) k.size V] [L.toList,k.data.toList] 23 rfl (λj p=>by
  have d:j<2:=p;match j,d with
  | 0,_=>exact vU x U
  | 1,_=>exact R)
 have C:Below i.heap.size i (i.alloc (.cells #[.slice (some (aZ b)) 32 32,.slice (some ⟨s.heap.size,0,none⟩) k.size V] 23)):=(TX _ _).alloc (TG _) _;have I:=Holds.below' x C;have Q:=Holds.below' G C;have S:Only b 0 32 w (i.alloc (.cells #[.slice (some (aZ b)) 32 32,.slice (some ⟨s.heap.size,0,none⟩) k.size V] 23)):=a.trans ((Only.of_below f rfl oM).alloc oM _);go_wp2_with fail
 refine(qA b L ⟨#[97,115,107,101,100]⟩ (some ⟨i.heap.size,0,none⟩) 2 2 [L.toList,k.data.toList] _ dC rfl dC A I U).mono ?_;rintro e w7 ⟨rfl,d,K⟩;have F:Holds encB w7 E 0 (t7 L k.data.toList n):=by
  intro j p;have h1:=Q j p;have h2:=Vt _ _ h1.1;have Y:=d.other (c:=E) (o:=0+j) oM h2;rw[Y.1,Y.2];exact h1
 go_wp2
 go_ret2
 exact⟨E,rfl,oM,S.trans d,K,F⟩
end SP
section
open Go.RowKit Go.Sort
variable {P:Nat}[NeZero P]{N:Nat}
def ArgsPts(w:TA)(q:Option V5)(n:Nat)(L:Nat->Bs):Prop:=0<n->∃k,q=some (aZ k)/\k<w.heap.size/\∀j,j<n->∃v,w.cell? ⟨k,j,none⟩=some v/\Arg33 w v (L j)
def Tu(P:Nat)[NeZero P](w:TA)(n:Nat)(L:Nat->Bs)(e:TC)(w':TA):Prop:=
 (∃k,w.heap.size<=k/\k<w'.heap.size/\e=.tuple #[.slice (some (aZ k)) n n,iZ 0]/\∀j,j<n->∃p,rd P (L j)=some p/\w'.rangeAt k (8*j) (ws p.1++ws p.2)) \/
 ((∃j,j<n/\rd P (L j)=none)/\e=.tuple #[.slice none 0 0,iZ 4])
theorem R7(F:Fld P)(n cap:Nat)(hn:n<=512)(q:Option V5)(L:Nat->Bs)(w:TA)(hA:ArgsPts w q n L):TW prog 86 #[.slice q n cap] w (rZ w λe w'=>Tu P w n L e w'):=by
 obtain⟨C,h3,h7⟩:=QZ n hn;obtain⟨i,-⟩:∃i:Nat,i=0:=⟨_,rfl⟩
 obtain⟨b,-⟩:∃i:Nat,i=0:=⟨_,rfl⟩
 obtain⟨m,-⟩:∃i:Nat,i=0:=⟨_,rfl⟩
 obtain⟨v,-⟩:∃v:TC,v=.bool true:=⟨_,rfl⟩
 obtain⟨x,-⟩:∃x:Fin P,x=0:=⟨_,rfl⟩
 obtain⟨y,-⟩:∃x:Fin P,x=0:=⟨_,rfl⟩
 obtain⟨N,-⟩:∃c:List TC,c=C:=⟨_,rfl⟩
 go_enter func86,ntmps86;refine RG.Hl (v0:=.slice q n cap) (n:=32) kR kR kR ?_;intro a0 ha f0;have h4:=RG.St.begin w;have M0:RG.M w w.heap.size [] 32 [] [] [(0,.v (.slice q n cap))] a0 _:=⟨h4,ha,⟨f0,yB5⟩⟩
 repeat refine TI ?_
 refine M0.U [.x (.slice none 0 0),.x (iZ 0)] [0,2,3] ⟨RG.st,RG.st,yB5⟩ ?_;intro a1 w1 M1;repeat refine TI ?_
 refine M1.t [.x 9 [] (.slice q n cap),.x 10 [(9,0)] (iZ n),⟨some 11,[(10,1)],.s 0 n n,.make 0⟩,.s 4 [(11,2)] (.s 0 n n)] [(2,C)] [] [C] [(0,.v (.slice q n cap)),(2,.v (.slice none 0 0)),(3,.v (iZ 0)),(4,.s 0 n n)] ⟨RG.st,RG.gI rfl 9 (.v (.slice q n cap)) (iZ n) rfl RG.sx (λa w=>kR) (λμ w=>kR),RG.mB 0 rfl _ rfl 144 148 10 10 n rfl rfl RG.sx RG.sx h7,RG.st,yB5⟩ ?_;intro j2 a2 w2 M2;repeat refine TI ?_
 refine M2.U [.x (.slice q n cap),.x (iZ n),.x (iZ 0)] [2,3,4,12,13,14] ⟨RG.st,RG.gI rfl 12 (.v (.slice q n cap)) (iZ n) rfl RG.sx (λa w=>kR) (λμ w=>kR),RG.st,yB5⟩ ?_;intro U w3 E;have hl:U.tmps[2]? = some (.slice none 0 0):=E.at (s:=(.v (.slice none 0 0)));have hk:U.tmps[3]? = some (iZ 0):=E.at (s:=(.v (iZ 0)));have Y:U.tmps[4]? = some (.slice (some (aZ j2)) n n):=E.at (s:=(.s 0 n n));have O:U.tmps[12]? = some (.slice q n cap):=E.at (s:=(.v (.slice q n cap)));have M:U.tmps[13]? = some (iZ n):=E.at (s:=(.v (iZ n)));have Q:U.tmps[14]? = some (iZ 0):=E.at (s:=(.v (iZ 0)));repeat refine TI ?_
 refine V3 ?_;refine Yv (λm a wr=>∃(i:Nat) (C:List TC),i+m=n/\(∀j,j<i->(rd P (L j)).isSome=true)/\Rows 8 n (λj=>match rd P (L j) with|some p=>ws p.1++ws p.2|none=>[]) i C/\RG.Sl a 32/\a.tmps[4]? = some (.slice (some (aZ j2)) n n)/\a.tmps[12]? = some (.slice q n cap)/\a.tmps[13]? = some (iZ n)/\a.tmps[14]? = some (iZ i)/\RG.St w w.heap.size [] [C] [j2] wr) n ⟨0,C,oM,λj hj=>oM,⟨h3,λj r hj=>oM⟩,E.sl,Y,O,M,Q,E.st⟩ ?_;intro m' a wr;rintro⟨i,C,hu,G,hR,sl,p4,z,K,R,B⟩;generalize j2=I at p4 B;by_cases t:i<n
 ·obtain⟨b,Z,W,hc⟩:=hA oM;rw[Z]at z;obtain⟨v,hv,H⟩:=hc i t;have g:w.cell? ⟨b,0+i,none⟩=some v:=by rw[TO];exact hv
  cases k:rd P (L i) with
  | some pp =>
   obtain⟨x,y⟩:=pp;have T:∀w',RG.BelX w.heap.size [] w w'->TW prog 117 #[v] w' (Ret λe J=>Below w'.heap.size w' J/\e=.tuple #[pv x y,.bool true]):=λw' hb=>by
    have:=tB F v (L i) w' (H.below hb.below);rw[k]at this;exact this
   have X:=hR.len;have l:0+8*i+(ws x++ws y).length<=C.length:=by rw[X];show 0+8*i+8<=8*n;omega
   obtain⟨N,f⟩:∃c,RG.rep C (0+8*i) (ws x++ws y)=c:=⟨_,rfl⟩
   have hg:=f ▸ RG.rep_at l;have h1:N.length=C.length:=f ▸ RG.dH l;have h9:Rows 8 n (λj=>match rd P (L j) with|some p=>ws p.1++ws p.2|none=>[]) (i+1) N:=by
    have:=hR.next t (by show yBF (match rd P (L i) with|some p=>_|none=>_)=_;rw[k];rfl);rw[<-f];have e:(λj=>match rd P (L j) with|some p=>ws p.1++ws p.2|none=>[]) i=(ws x++ws y):=by show(match rd P (L i) with|some p=>_|none=>_)=_;rw[k]
    rw[<-e];exact this
   have hh:RG.M w w.heap.size [] 32 [C] [I] [(4,.s 0 n n),(12,.v (.slice (some (aZ b)) n cap)),(13,.v (iZ n)),(14,.v (iZ i))] a _:=⟨B,sl,⟨p4,z,K,R,yB5⟩⟩
   repeat refine TI ?_
   refine hh.U [.x (.bool true)] [4,12,13,14,15] ⟨RG.aJ rfl .lss 3 3 14 13 (iZ i) (iZ n) (.bool true) rfl rfl RG.sx RG.sx (λw=>kR) (eY t),yB5⟩ ?_;intro k8 k6 h0;repeat refine TI ?_
   refine UC h0.ev ?_;refine Vg ?_;refine TI ?_;refine V3 ?_;repeat refine TI ?_
   refine h0.U [.x (iZ i),.x (.pointer (some ⟨b,0+i,none⟩)),.x v,.x (iZ i),.x v] [4,5,6,12,13,14] ⟨RG.st,RG.aY rfl 24 12 14 rfl (.v (.slice (some (aZ b)) n cap)) (iZ i) RG.sx RG.sx (λμ w=>MR _ 0 _ _ i t w),RG.bJ rfl b (0+i) W Ud 23 17 rfl v rfl RG.sx g u23,RG.st,RG.st,yB5⟩ ?_;intro hq ht h6;repeat refine TI ?_
   refine h6.T [.x v,.c (.tuple #[pv x y,.bool true]),.x (.tuple #[pv x y,.bool true]),.x (pv x y),.x (.bool true),.m 1,.u 1,.x (.bool true)] [(5,RG.z 8)] [(1,6,ws x++(ws y))] [C,ws x++(ws y)] [4,5,7,8,12,13,14] ⟨RG.st,RG.tP rfl 117 20 v (.tuple #[pv x y,.bool true]) rfl (λa w=>kR) RG.sx T,RG.st,RG.st,RG.st,RG.mk 1 148,RG.pt i109,RG.st,yB5⟩ ?_;intro hm k5 k3 he;repeat refine TI ?_
   refine he.U [.x (.bool true),.x (.bool false)] [4,5,7,12,13,14,25] ⟨RG.st,RG.st,yB5⟩ ?_;intro hp hy V;repeat refine TI ?_
   refine UG V.ev ?_;refine Vg ?_;repeat refine TI ?_
   refine V.tx [.s 26 [] (.s 0 n n),.x 27 [] (iZ i),.x 28 [] (pv x y),.s 29 [(26,0),(27,1)] (.p 0 (0+8*i)),.u [(29,3),(28,2)] 0] [] [(0,4,N)] [N,ws x++(ws y)] [(4,.s 0 n n),(12,.v (.slice (some (aZ b)) n cap)),(13,.v (iZ n)),(14,.v (iZ i))] kR (congrArg (λn=>[n]) h1) ⟨RG.st,RG.st,RG.ld iM i109,RG.aY rfl 144 26 27 rfl (.s 0 n n) (iZ i) RG.sx RG.sx (λμ w=>NC _ 0 _ _ i t w),RG.fF 0 (0+8*i) rfl _ rfl 148 (.tmp 29) (.tmp 28) (ws x++ws y) rfl rfl RG.sx RG.sx l hg i109 rfl,yB5⟩ ?_;intro k4 hs h2;repeat refine TI ?_
   refine h2.U [.x (iZ ((i+1:Nat):Int)),.x (iZ ((i+1:Nat):Int))] [4,12,13,14] ⟨RG.aH rfl .add 3 3 14 (iZ i) (iZ 1) (iZ ((i+1:Nat):Int)) rfl rfl RG.sx (λw=>kR) (rK i 1 oM oM),RG.st,yB5⟩ ?_;intro A hw d;have S:A.tmps[4]? = some (.slice (some (aZ I)) n n):=d.at (s:=(.s 0 n n));have D:A.tmps[12]? = some (.slice (some (aZ b)) n cap):=d.at (s:=(.v (.slice (some (aZ b)) n cap)));have o:A.tmps[13]? = some (iZ n):=d.at (s:=(.v (iZ n)));have u:A.tmps[14]? = some (iZ ((i+1:Nat):Int)):=d.at (s:=(.v (iZ ((i+1:Nat):Int))));show ∃n',_;exact⟨m'-1,oM,i+1,N,oM,λj hj=>(by
    by_cases h8:j=i
    ·rw[h8,k];rfl
    ·exact G j oM),h9,d.sl,S,(by rw[Z];exact D),o,u,RG.St.init (cs:=[N]) (ks:=[I]) d.st⟩
  | none =>
   have T:∀w',RG.BelX w.heap.size [] w w'->TW prog 117 #[v] w' (Ret λe J=>Below w'.heap.size w' J/\e=.tuple #[pv (0:Fin P) 0,.bool false]):=λw' hb=>by
    have:=tB F v (L i) w' (H.below hb.below);rw[k]at this;exact this
   have o:RG.M w w.heap.size [] 32 [C] [I] [(4,.s 0 n n),(12,.v (.slice (some (aZ b)) n cap)),(13,.v (iZ n)),(14,.v (iZ i))] a _:=⟨B,sl,⟨p4,z,K,R,yB5⟩⟩
   repeat refine TI ?_
   refine o.U [.x (.bool true)] [12,14,15] ⟨RG.aJ rfl .lss 3 3 14 13 (iZ i) (iZ n) (.bool true) rfl rfl RG.sx RG.sx (λw=>kR) (eY t),yB5⟩ ?_;intro S D f;repeat refine TI ?_
   refine UC f.ev ?_;refine Vg ?_;refine TI ?_;refine V3 ?_;repeat refine TI ?_
   refine f.U [.x (iZ i),.x (.pointer (some ⟨b,0+i,none⟩)),.x v,.x (iZ i),.x v] [6] ⟨RG.st,RG.aY rfl 24 12 14 rfl (.v (.slice (some (aZ b)) n cap)) (iZ i) RG.sx RG.sx (λμ w=>MR _ 0 _ _ i t w),RG.bJ rfl b (0+i) W Ud 23 17 rfl v rfl RG.sx g u23,RG.st,RG.st,yB5⟩ ?_;intro k0 k9 A;repeat refine TI ?_
   refine A.T [.x v,.c (.tuple #[pv (0:Fin P) (0:Fin P),.bool false]),.x (.tuple #[pv (0:Fin P) (0:Fin P),.bool false]),.x (pv (0:Fin P) (0:Fin P)),.x (.bool false),.m 1,.u 1,.x (.bool false)] [(5,RG.z 8)] [(1,6,ws (0:Fin P)++(ws (0:Fin P)))] [C,ws (0:Fin P)++(ws (0:Fin P))] [8] ⟨RG.st,RG.tP rfl 117 20 v (.tuple #[pv (0:Fin P) (0:Fin P),.bool false]) rfl (λa w=>kR) RG.sx T,RG.st,RG.st,RG.st,RG.mk 1 148,RG.pt i109,RG.st,yB5⟩ ?_;intro V X k2 u;repeat refine TI ?_
   refine u.U [.x (.bool false),.x (.bool true)] [25] ⟨RG.st,RG.st,yB5⟩ ?_;intro hz k7 l;repeat refine TI ?_
   refine UC l.ev ?_;repeat refine TI ?_
   refine l.U [.x (.slice none 0 0),.x (iZ 4)] [2,3] ⟨RG.st,RG.st,yB5⟩ ?_;intro k1 hx d;refine UZ ?_;refine TM (v:=.tuple #[.slice none 0 0,iZ 4]) (RG.gV 2 3 rfl _ _ (d.at (s:=(.v (.slice none 0 0)))) (d.at (s:=(.v (iZ 4))))) d.sl.defers ?_;exact⟨_,rfl,d.st.bel.below,T8 ⟨⟨i,t,k⟩,rfl⟩⟩
 ·have u:i=n:=oM;have g:RG.M w w.heap.size [] 32 [C] [I] [(4,.s 0 n n),(12,.v (.slice q n cap)),(13,.v (iZ n)),(14,.v (iZ i))] a _:=⟨B,sl,⟨p4,z,K,R,yB5⟩⟩
  repeat refine TI ?_
  refine g.U [.x (.bool false)] [4,15] ⟨RG.aJ rfl .lss 3 3 14 13 (iZ i) (iZ n) (.bool false) rfl rfl RG.sx RG.sx (λw=>kR) (l6 t),yB5⟩ ?_;intro A H f;repeat refine TI ?_
  refine UG f.ev ?_;refine wp_exit ?_;dsimp only[Exit.then,Xl];rw[yB3 rfl];repeat refine TI ?_
  refine f.U [.s (.s 0 n n),.s (.s 0 n n),.x (iZ 0)] [2,3] ⟨RG.st,RG.st,RG.st,yB5⟩ ?_;intro o l k;refine UZ ?_;refine TM (v:=.tuple #[.slice (some (aZ I)) n n,iZ 0]) (RG.gV 2 3 rfl _ _ (k.at (s:=(.s 0 n n))) (k.at (s:=(.v (iZ 0))))) k.sl.defers ?_;refine⟨_,rfl,k.st.bel.below,Ub ⟨I,?_,?_,rfl,λj hj=>?_⟩⟩
  ·exact(k.st.has 0 C rfl).2.2.2.elim id (λh=>absurd h Ud)
  ·exact(k.st.has 0 C rfl).2.2.1
  ·obtain⟨pp,d⟩:=UT.1 (G j oM);refine⟨pp,d,RG.rU (k.st.has 0 C rfl).1 (λr J=>?_)⟩;have D:=hR.row j r oM J;rw[D];show(match rd P (L j) with|some p=>_|none=>_)[r]? = _;rw[d]
def AQ(w:TA)(q:Option V5)(n:Nat)(L:Nat->Bs):Prop:=0<n->∃k,q=some (aZ k)/\k<w.heap.size/\∀j,j<n->∃v,w.cell? ⟨k,j,none⟩=some v/\Arg w v (L j)
def Tt(N:Nat)(w:TA)(n:Nat)(L:Nat->Bs)(e:TC)(w':TA):Prop:=
 (∃k,w.heap.size<=k/\k<w'.heap.size/\e=.tuple #[.slice (some (aZ k)) n n,iZ 0]/\∀j,j<n->∃p,rq N (L j)=some p/\w'.rangeAt k (4*j) (wn p)) \/
 ((∃j,j<n/\rq N (L j)=none)/\e=.tuple #[.slice none 0 0,iZ 3])
theorem RZ{N:Nat}(hG:Gap 4624529908474429119 4994812053365940164 1 N)(n cap:Nat)(hn:n<=512)(q:Option V5)(L:Nat->Bs)(w:TA)(hA:AQ w q n L):TW prog 85 #[.slice q n cap] w (rZ w λe w'=>Tt N w n L e w'):=by
 obtain⟨C,h2,h6⟩:=S3 n hn;obtain⟨i,-⟩:∃i:Nat,i=0:=⟨_,rfl⟩
 obtain⟨d,-⟩:∃i:Nat,i=0:=⟨_,rfl⟩
 obtain⟨m,-⟩:∃i:Nat,i=0:=⟨_,rfl⟩
 obtain⟨v,-⟩:∃v:TC,v=.bool true:=⟨_,rfl⟩
 obtain⟨K,-⟩:∃c:List TC,c=C:=⟨_,rfl⟩
 go_enter func85,ntmps85;refine RG.Hl (v0:=.slice q n cap) (n:=33) kR kR kR ?_;intro a0 h9 f0;have h3:=RG.St.begin w;have M0:RG.M w w.heap.size [] 33 [] [] [(0,.v (.slice q n cap))] a0 _:=⟨h3,h9,⟨f0,yB5⟩⟩
 repeat refine TI ?_
 refine M0.U [.x (.slice none 0 0),.x (iZ 0)] [0,2,3] ⟨RG.st,RG.st,yB5⟩ ?_;intro a1 w1 M1;repeat refine TI ?_
 refine M1.t [.x 9 [] (.slice q n cap),.x 10 [(9,0)] (iZ n),⟨some 11,[(10,1)],.s 0 n n,.make 0⟩,.s 4 [(11,2)] (.s 0 n n)] [(2,C)] [] [C] [(0,.v (.slice q n cap)),(2,.v (.slice none 0 0)),(3,.v (iZ 0)),(4,.s 0 n n)] ⟨RG.st,RG.gI rfl 9 (.v (.slice q n cap)) (iZ n) rfl RG.sx (λa w=>kR) (λμ w=>kR),RG.mB 0 rfl _ rfl 141 44 10 10 n rfl rfl RG.sx RG.sx h6,RG.st,yB5⟩ ?_;intro Z a2 w2 M2;repeat refine TI ?_
 refine M2.U [.x (.slice q n cap),.x (iZ n),.x (iZ 0)] [2,3,4,12,13,14] ⟨RG.st,RG.gI rfl 12 (.v (.slice q n cap)) (iZ n) rfl RG.sx (λa w=>kR) (λμ w=>kR),RG.st,yB5⟩ ?_;intro S w3 D;have hk:S.tmps[2]? = some (.slice none 0 0):=D.at (s:=(.v (.slice none 0 0)));have hh:S.tmps[3]? = some (iZ 0):=D.at (s:=(.v (iZ 0)));have W:S.tmps[4]? = some (.slice (some (aZ Z)) n n):=D.at (s:=(.s 0 n n));have M:S.tmps[12]? = some (.slice q n cap):=D.at (s:=(.v (.slice q n cap)));have J:S.tmps[13]? = some (iZ n):=D.at (s:=(.v (iZ n)));have O:S.tmps[14]? = some (iZ 0):=D.at (s:=(.v (iZ 0)));repeat refine TI ?_
 refine V3 ?_;refine Yv (λm a wr=>∃(i:Nat) (C:List TC),i+m=n/\(∀j,j<i->(rq N (L j)).isSome=true)/\Rows 4 n (λj=>match rq N (L j) with|some k=>wn k|none=>[]) i C/\RG.Sl a 33/\a.tmps[4]? = some (.slice (some (aZ Z)) n n)/\a.tmps[12]? = some (.slice q n cap)/\a.tmps[13]? = some (iZ n)/\a.tmps[14]? = some (iZ i)/\RG.St w w.heap.size [] [C] [Z] wr) n ⟨0,C,oM,λj hj=>oM,⟨h2,λj r hj=>oM⟩,D.sl,W,M,J,O,D.st⟩ ?_;intro m' a wr;rintro⟨i,C,ht,E,hR,sl,p4,y,I,P,A⟩;generalize Z=G at p4 A;by_cases u:i<n
 ·obtain⟨d,X,U,hc⟩:=hA oM;rw[X]at y;obtain⟨v,hv,F⟩:=hc i u;have l:w.cell? ⟨d,0+i,none⟩=some v:=by rw[TO];exact hv
  cases b:rq N (L i) with
  | some pp =>
   obtain⟨m,rfl⟩:∃m,m=pp:=⟨_,rfl⟩
   have R:∀w',RG.BelX w.heap.size [] w w'->TW prog 31 #[gv1,v] w' (Ret λe H=>Below w'.heap.size w' H/\e=.tuple #[nv m,.bool true]):=λw' hb=>by
    have:=Ad hG v (L i) w' (F.below hb.below);rw[b]at this;exact this
   have V:=hR.len;have o:0+4*i+(wn m).length<=C.length:=by rw[V];show 0+4*i+4<=4*n;omega
   obtain⟨K,g⟩:∃c,RG.rep C (0+4*i) (wn m)=c:=⟨_,rfl⟩
   have he:=g ▸ RG.rep_at o;have h0:K.length=C.length:=g ▸ RG.dH o;have h8:Rows 4 n (λj=>match rq N (L j) with|some k=>wn k|none=>[]) (i+1) K:=by
    have:=hR.next u (by show yBF (match rq N (L i) with|some p=>_|none=>_)=_;rw[b];rfl);rw[<-g];have e:(λj=>match rq N (L j) with|some k=>wn k|none=>[]) i=(wn m):=by show(match rq N (L i) with|some p=>_|none=>_)=_;rw[b]
    rw[<-e];exact this
   have hg:RG.M w w.heap.size [] 33 [C] [G] [(4,.s 0 n n),(12,.v (.slice (some (aZ d)) n cap)),(13,.v (iZ n)),(14,.v (iZ i))] a _:=⟨A,sl,⟨p4,y,I,P,yB5⟩⟩
   repeat refine TI ?_
   refine hg.U [.x (.bool true)] [4,12,13,14,15] ⟨RG.aJ rfl .lss 3 3 14 13 (iZ i) (iZ n) (.bool true) rfl rfl RG.sx RG.sx (λw=>kR) (eY u),yB5⟩ ?_;intro k6 k4 Y;repeat refine TI ?_
   refine UC Y.ev ?_;refine Vg ?_;refine TI ?_;refine V3 ?_;repeat refine TI ?_
   refine Y.U [.x (iZ i),.x (.pointer (some ⟨d,0+i,none⟩)),.x v,.x (iZ i),.x v] [4,5,6,12,13,14] ⟨RG.st,RG.aY rfl 24 12 14 rfl (.v (.slice (some (aZ d)) n cap)) (iZ i) RG.sx RG.sx (λμ w=>MR _ 0 _ _ i u w),RG.bJ rfl d (0+i) U Ud 23 17 rfl v rfl RG.sx l u23,RG.st,RG.st,yB5⟩ ?_;intro hp hs h4;repeat refine TI ?_
   refine h4.T [.c gv1,.x v,.c (.tuple #[nv m,.bool true]),.x (.tuple #[nv m,.bool true]),.x (nv m),.x (.bool true),.m 1,.u 1,.x (.bool true)] [(6,RG.z 4)] [(1,7,wn m)] [C,wn m] [4,5,7,8,12,13,14] ⟨RG.cl iD,RG.st,RG.kJ rfl 31 20 21 gv1 v (.tuple #[nv m,.bool true]) rfl (λa w=>kR) RG.sx RG.sx R,RG.st,RG.st,RG.st,RG.mk 1 44,RG.pt i85,RG.st,yB5⟩ ?_;intro hl k3 k1 ha;repeat refine TI ?_
   refine ha.U [.x (.bool true),.x (.bool false)] [4,5,7,12,13,14,26] ⟨RG.st,RG.st,yB5⟩ ?_;intro hm hw T;repeat refine TI ?_
   refine UG T.ev ?_;refine Vg ?_;repeat refine TI ?_
   refine T.tx [.s 27 [] (.s 0 n n),.x 28 [] (iZ i),.x 29 [] (nv m),.s 30 [(27,0),(28,1)] (.p 0 (0+4*i)),.u [(30,3),(29,2)] 0] [] [(0,4,K)] [K,wn m] [(4,.s 0 n n),(12,.v (.slice (some (aZ d)) n cap)),(13,.v (iZ n)),(14,.v (iZ i))] kR (congrArg (λn=>[n]) h0) ⟨RG.st,RG.st,RG.ld u85 i85,RG.aY rfl 141 27 28 rfl (.s 0 n n) (iZ i) RG.sx RG.sx (λμ w=>RQ _ 0 _ _ i u w),RG.fF 0 (0+4*i) rfl _ rfl 44 (.tmp 30) (.tmp 29) (wn m) rfl rfl RG.sx RG.sx o he i85 rfl,yB5⟩ ?_;intro k2 hq h1;repeat refine TI ?_
   refine h1.U [.x (iZ ((i+1:Nat):Int)),.x (iZ ((i+1:Nat):Int))] [4,12,13,14] ⟨RG.aH rfl .add 3 3 14 (iZ i) (iZ 1) (iZ ((i+1:Nat):Int)) rfl rfl RG.sx (λw=>kR) (rK i 1 oM oM),RG.st,yB5⟩ ?_;intro z hu f;have Q:z.tmps[4]? = some (.slice (some (aZ G)) n n):=f.at (s:=(.s 0 n n));have B:z.tmps[12]? = some (.slice (some (aZ d)) n cap):=f.at (s:=(.v (.slice (some (aZ d)) n cap)));have t:z.tmps[13]? = some (iZ n):=f.at (s:=(.v (iZ n)));have x:z.tmps[14]? = some (iZ ((i+1:Nat):Int)):=f.at (s:=(.v (iZ ((i+1:Nat):Int))));show ∃n',_;exact⟨m'-1,oM,i+1,K,oM,λj hj=>(by
    by_cases h7:j=i
    ·rw[h7,b];rfl
    ·exact E j oM),h8,f.sl,Q,(by rw[X];exact B),t,x,RG.St.init (cs:=[K]) (ks:=[G]) f.st⟩
  | none =>
   have R:∀w',RG.BelX w.heap.size [] w w'->TW prog 31 #[gv1,v] w' (Ret λe H=>Below w'.heap.size w' H/\e=.tuple #[nv 0,.bool false]):=λw' hb=>by
    have:=Ad hG v (L i) w' (F.below hb.below);rw[b]at this;exact this
   have t:RG.M w w.heap.size [] 33 [C] [G] [(4,.s 0 n n),(12,.v (.slice (some (aZ d)) n cap)),(13,.v (iZ n)),(14,.v (iZ i))] a _:=⟨A,sl,⟨p4,y,I,P,yB5⟩⟩
   repeat refine TI ?_
   refine t.U [.x (.bool true)] [12,14,15] ⟨RG.aJ rfl .lss 3 3 14 13 (iZ i) (iZ n) (.bool true) rfl rfl RG.sx RG.sx (λw=>kR) (eY u),yB5⟩ ?_;intro Q B g;repeat refine TI ?_
   refine UC g.ev ?_;refine Vg ?_;refine TI ?_;refine V3 ?_;repeat refine TI ?_
   refine g.U [.x (iZ i),.x (.pointer (some ⟨d,0+i,none⟩)),.x v,.x (iZ i),.x v] [6] ⟨RG.st,RG.aY rfl 24 12 14 rfl (.v (.slice (some (aZ d)) n cap)) (iZ i) RG.sx RG.sx (λμ w=>MR _ 0 _ _ i u w),RG.bJ rfl d (0+i) U Ud 23 17 rfl v rfl RG.sx l u23,RG.st,RG.st,yB5⟩ ?_;intro hy k7 z;repeat refine TI ?_
   refine z.T [.c gv1,.x v,.c (.tuple #[nv 0,.bool false]),.x (.tuple #[nv 0,.bool false]),.x (nv 0),.x (.bool false),.m 1,.u 1,.x (.bool false)] [(6,RG.z 4)] [(1,7,wn 0)] [C,wn 0] [8] ⟨RG.cl iD,RG.st,RG.kJ rfl 31 20 21 gv1 v (.tuple #[nv 0,.bool false]) rfl (λa w=>kR) RG.sx RG.sx R,RG.st,RG.st,RG.st,RG.mk 1 44,RG.pt i85,RG.st,yB5⟩ ?_;intro T V k0 x;repeat refine TI ?_
   refine x.U [.x (.bool false),.x (.bool true)] [26] ⟨RG.st,RG.st,yB5⟩ ?_;intro hx k5 o;repeat refine TI ?_
   refine UC o.ev ?_;repeat refine TI ?_
   refine o.U [.x (.slice none 0 0),.x (iZ 3)] [2,3] ⟨RG.st,RG.st,yB5⟩ ?_;intro hz Y f;refine UZ ?_;refine TM (v:=.tuple #[.slice none 0 0,iZ 3]) (RG.gV 2 3 rfl _ _ (f.at (s:=(.v (.slice none 0 0)))) (f.at (s:=(.v (iZ 3))))) f.sl.defers ?_;exact⟨_,rfl,f.st.bel.below,T8 ⟨⟨i,u,b⟩,rfl⟩⟩
 ·have x:i=n:=oM;have l:RG.M w w.heap.size [] 33 [C] [G] [(4,.s 0 n n),(12,.v (.slice q n cap)),(13,.v (iZ n)),(14,.v (iZ i))] a _:=⟨A,sl,⟨p4,y,I,P,yB5⟩⟩
  repeat refine TI ?_
  refine l.U [.x (.bool false)] [4,15] ⟨RG.aJ rfl .lss 3 3 14 13 (iZ i) (iZ n) (.bool false) rfl rfl RG.sx RG.sx (λw=>kR) (l6 u),yB5⟩ ?_;intro z F g;repeat refine TI ?_
  refine UG g.ev ?_;refine wp_exit ?_;dsimp only[Exit.then,Xl];rw[yB3 rfl];repeat refine TI ?_
  refine g.U [.s (.s 0 n n),.s (.s 0 n n),.x (iZ 0)] [2,3] ⟨RG.st,RG.st,RG.st,yB5⟩ ?_;intro t o b;refine UZ ?_;refine TM (v:=.tuple #[.slice (some (aZ G)) n n,iZ 0]) (RG.gV 2 3 rfl _ _ (b.at (s:=(.s 0 n n))) (b.at (s:=(.v (iZ 0))))) b.sl.defers ?_;refine⟨_,rfl,b.st.bel.below,Ub ⟨G,?_,?_,rfl,λj hj=>?_⟩⟩
  ·exact(b.st.has 0 C rfl).2.2.2.elim id (λh=>absurd h Ud)
  ·exact(b.st.has 0 C rfl).2.2.1
  ·obtain⟨pp,f⟩:=UT.1 (E j oM);refine⟨pp,f,RG.rU (b.st.has 0 C rfl).1 (λr H=>?_)⟩;have B:=hR.row j r oM H;rw[B];show(match rq N (L j) with|some p=>_|none=>_)[r]? = _;rw[f]
end
section
open Go.RowKit Go.Sort Go.Deep
variable {P:Nat}[NeZero P]{N:Nat}
def MY(c:Int)(e:TC):Prop:=e=.tuple #[.slice none 0 0,iZ c]
def Kk(w:TA)(T:Bs)(e:TC)(w':TA):Prop:=∃g cap,e=.tuple #[.slice (some (aZ g)) 33 cap,iZ 0]/\33<=cap/\w.heap.size<=g/\g<w'.heap.size/\Holds encB w' g 0 T
def ptP(s:T3 P):Fin P × Fin P:=(s.1*(EC.inv s.2.2*EC.inv s.2.2),s.2.1*(EC.inv s.2.2*EC.inv s.2.2)*EC.inv s.2.2)
end
end Go.Proofs.YtjnchldodncnbaaGreat
