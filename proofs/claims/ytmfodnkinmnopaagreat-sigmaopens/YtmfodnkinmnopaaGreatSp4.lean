import Derived.Deep.LoopGhost
import Derived.Deep.RegionHeld3
import Derived.Deep.CutRange
import Derived.WalkKit
import Derived.Sort.Row
import Derived.Deep.Draws
import Derived.Below
import Derived.Deep.OwnRows
import Derived.Test.YtmfodnkinmnopaaGreatRows
import Derived.Deep.QuietTactic
import Derived.StillTailTactics
import Derived.BigRegion
import Derived.BigQuiet
import Derived.WalkSpells
import Derived.WalkLawsBesides
import Derived.Deep.RegionWith
import Derived.KernelRfl
import Derived.Lib.LazyBuf
import Derived.Lib.SliceRun
import Derived.Test.YtmfodnkinmnopaaGreatSp3
set_option linter.unusedVariables false
set_option linter.constructorNameAsVariable false
set_option linter.unusedSimpArgs false
set_option maxRecDepth 1000000
set_option maxHeartbeats 4000000
namespace Go.Proofs.YtmfodnkinmnopaaGreat
open _root_.Array renaming ext->Tk,getElem?_eq_getElem->OJ,getElem?_toList->O7,getElem_replicate->Pr,length_toList->Ot,mk->SU,replicate->Oj,size_append->ON,size_replicate->Ou,size_setIfInBounds->O6
open _root_.BitVec renaming ofInt->Qy,ofNat->QM,toNat_ofNat->T0
open _root_.Bool renaming and_eq_true->Ox,noConfusion->QQ
open _root_.Go.Act renaming put->Pk
open _root_.Go.Addr renaming add->S1,mk->Vy
open _root_.Go.Builtin renaming copy_->Um
open _root_.Go.IntKind renaming bits->VH,i64->OZ,signed->VG,u64->OS,u8->TK,wrap->VF,wrap_u64->Re
open _root_.Go.IntWalk renaming i64_in->Pa
open _root_.Go.RowKit.Below renaming heap_setCell->SN,refl->Ow
open _root_.Go.Value renaming agg->O8,int->Pi
open _root_.Go.World renaming alloc->Pb,block_lt_of_cell?->PK,cell?_alloc_new->OK,cell?_setCell_other->Og,cell?_setCell_same->OT,cell?_setCells_out->TC,frozen?_alloc_new->PI,frozen?_setCell->OI,frozen?_setCells->TI,setCell->Px,size_alloc->Oo
open _root_.Int renaming natCast_ediv->Sw,natCast_mul->Qd,natCast_pow->Qm,natCast_zero->OY,ofNat_inj->Rm,tdiv_eq_ediv_of_nonneg->Qq,tmod_eq_emod_of_nonneg->P8
open _root_.List renaming cons->Sc,getElem?_eq_some_iff->OE,getElem?_map->PD,getElem_map->QD,length_cons->OV,length_map->OO,length_replicate->PV,mem_cons->Pg,not_mem_nil->OD,replicate->Pl,setIfInBounds_toArray->OL,set_cons_succ->Pd,set_cons_zero->Pf
open _root_.Nat renaming add_assoc->Qa,add_mod->RY,add_mul->QC,add_sub_cancel->Uq,add_zero->P9,div_one->TA,le_add_right->RL,le_of_lt->Qi,le_refl->Oh,le_succ->Sv,left_le_or->Tz,lt_of_le_of_lt->S9,lt_of_lt_of_le->Oi,min->VJ,min_le_left->UW,min_le_right->UI,mod_eq_of_lt->Oy,mod_lt->Qf,mod_one->Uz,mul_add->Qr,mul_assoc->P5,mul_comm->OX,mul_zero->RH,ne_of_gt->Pq,ne_of_lt->Pv,or_lt_two_pow->Uy,pow_add->P6,pow_le_pow_right->Qk,pow_pos->S2,pow_succ->PQ,pow_zero->Ql,right_le_or->Tr,sub_self->R9,sub_sub->Rb,sub_zero->So,testBit_lt_two_pow->TT,zero_add->Om,zero_le->QB
open _root_.Or renaming inl->OQ
open _root_.UInt8 renaming ofNat->Oq,toNat_ofNat'->RD
open Go.Proofs.Tryz (prog)
section
open Go.RowKit Go.Sort
structure LessI(w wr:World)(p0 p1 p2 p3 c0 c1 c2 c3 a b c d e f g h:Nat):Prop where
 bl:Below w.heap.size w wr
 fr:At8 wr w.heap.size p0 p1 p2 p3 c0 c1 c2 c3
 wi:At8 wr (w.heap.size+1) a b c d e f g h
 re:At4 wr (w.heap.size+1+1) 0 0 0 0
 ha:a<18446744073709551616
 hb:b<18446744073709551616
 hc:c<18446744073709551616
 hd:d<18446744073709551616
 he:e<18446744073709551616
 hf:f<18446744073709551616
 hg:g<18446744073709551616
 hh:h<18446744073709551616
theorem AQ{x y:Nat}(hx:x<top)(hy:y<top):x*y+top<=top*top:=by
 have h1:x*y<=(top-1)*(top-1):=Nat.mul_le_mul (by omega) (by omega);have h2:(top-1)*(top-1)+top<=top*top:=by unfold top;decide
 omega
section
variable {w w0:World}{k a b c d e f g h j B:Nat}
theorem zO(H:Below B w0 w)(hj:B<=j)(x0 x1 x2 x3 x4 x5 x6 x7:Value):Below B w0 ((((((((w.setCell ⟨j,0,none⟩ x0).setCell ⟨j,1,none⟩ x1).setCell ⟨j,2,none⟩ x2).setCell ⟨j,3,none⟩ x3).setCell ⟨j,4,none⟩ x4).setCell ⟨j,5,none⟩ x5).setCell ⟨j,6,none⟩ x6).setCell ⟨j,7,none⟩ x7):=pY H hj x0 x1 x2 x3 x4 x5 x6 x7
theorem At8.other8x(H:At8 w k a b c d e f g h)(hj:j≠k)(x0 x1 x2 x3 x4 x5 x6 x7:Value):At8 ((((((((w.setCell ⟨j,0,none⟩ x0).setCell ⟨j,1,none⟩ x1).setCell ⟨j,2,none⟩ x2).setCell ⟨j,3,none⟩ x3).setCell ⟨j,4,none⟩ x4).setCell ⟨j,5,none⟩ x5).setCell ⟨j,6,none⟩ x6).setCell ⟨j,7,none⟩ x7) k a b c d e f g h:=H.other8 hj x0 x1 x2 x3 x4 x5 x6 x7
theorem At4.other8x(H:At4 w k a b c d)(hj:j≠k)(x0 x1 x2 x3 x4 x5 x6 x7:Value):At4 ((((((((w.setCell ⟨j,0,none⟩ x0).setCell ⟨j,1,none⟩ x1).setCell ⟨j,2,none⟩ x2).setCell ⟨j,3,none⟩ x3).setCell ⟨j,4,none⟩ x4).setCell ⟨j,5,none⟩ x5).setCell ⟨j,6,none⟩ x6).setCell ⟨j,7,none⟩ x7) k a b c d:=H.other8 hj x0 x1 x2 x3 x4 x5 x6 x7
theorem At8.self8x(H:At8 w k a b c d e f g h)(x0 x1 x2 x3 x4 x5 x6 x7:Nat):At8 ((((((((w.setCell ⟨k,0,none⟩ (.int .u64 x0)).setCell ⟨k,1,none⟩ (.int .u64 x1)).setCell ⟨k,2,none⟩ (.int .u64 x2)).setCell ⟨k,3,none⟩ (.int .u64 x3)).setCell ⟨k,4,none⟩ (.int .u64 x4)).setCell ⟨k,5,none⟩ (.int .u64 x5)).setCell ⟨k,6,none⟩ (.int .u64 x6)).setCell ⟨k,7,none⟩ (.int .u64 x7)) k x0 x1 x2 x3 x4 x5 x6 x7:=H.self8 x0 x1 x2 x3 x4 x5 x6 x7
end
theorem sH{w W:World}{k0 k1 k2 p0 p1 p2 p3 c0 c1 c2 c3 a b c d e f g h:Nat}(H:Kept w k0 [⟨k0,0,p0,p1,p2,p3⟩,⟨k0,4,c0,c1,c2,c3⟩,⟨k1,0,a,b,c,d⟩,⟨k1,4,e,f,g,h⟩,⟨k2,0,0,0,0,0⟩] W):W.cell? ⟨k0,4,none⟩=some (.int .u64 c0)/\W.cell? ⟨k0,5,none⟩=some (.int .u64 c1)/\W.cell? ⟨k0,6,none⟩=some (.int .u64 c2)/\W.cell? ⟨k0,7,none⟩=some (.int .u64 c3)/\W.cell? ⟨k1,0,none⟩=some (.int .u64 a)/\W.cell? ⟨k1,1,none⟩=some (.int .u64 b)/\W.cell? ⟨k1,2,none⟩=some (.int .u64 c)/\W.cell? ⟨k1,3,none⟩=some (.int .u64 d)/\W.cell? ⟨k1,4,none⟩=some (.int .u64 e)/\W.cell? ⟨k1,5,none⟩=some (.int .u64 f)/\W.cell? ⟨k1,6,none⟩=some (.int .u64 g)/\W.cell? ⟨k1,7,none⟩=some (.int .u64 h)/\Kept w k0 [⟨k0,0,p0,p1,p2,p3⟩,⟨k0,4,c0,c1,c2,c3⟩,⟨k1,0,a,b,c,d⟩,⟨k1,4,e,f,g,h⟩,⟨k2,0,0,0,0,0⟩] W:=
 ⟨H.tail.head.c0,H.tail.head.c1,H.tail.head.c2,H.tail.head.c3,H.tail.tail.head.c0,H.tail.tail.head.c1,H.tail.tail.head.c2,H.tail.tail.head.c3,H.tail.tail.tail.head.c0,H.tail.tail.tail.head.c1,H.tail.tail.tail.head.c2,H.tail.tail.tail.head.c3,H⟩
theorem or4(a b c d:Nat)(ha:a<18446744073709551616)(hb:b<18446744073709551616)(hc:c<18446744073709551616)(hd:d<18446744073709551616):
 ∃o:Nat,bits .or .u64 (bits .or .u64 (bits .or .u64 (a:Int) (b:Int)) (c:Int)) (d:Int)=(o:Int)/\(o=0↔(a=0/\b=0/\c=0/\d=0)):=by
 have lt:∀x y:Nat,x<18446744073709551616->y<18446744073709551616->x ||| y<18446744073709551616:=fun x y hx hy=>Uy (n:=64) hx hy
 refine⟨a ||| b ||| c ||| d,?_,?_⟩
 ·rw[bits_or_u64_nat a b ha hb,bits_or_u64_nat _ c (lt _ _ ha hb) hc,bits_or_u64_nat _ d (lt _ _ (lt _ _ ha hb) hc) hd]
 ·constructor
  ·intro h;have h1:=Tz (n:=a ||| b ||| c) (m:=d);have h2:=Tr (n:=a ||| b ||| c) (m:=d);have h3:=Tz (n:=a ||| b) (m:=c);have h4:=Tr (n:=a ||| b) (m:=c);have h5:=Tz (n:=a) (m:=b);have h6:=Tr (n:=a) (m:=b);omega
  ·rintro⟨rfl,rfl,rfl,rfl⟩;rfl
theorem DK{lo hi cc P gk:Nat}(hP:P+cc=top)(hP2:top<2*P)(hpos:0<hi)(hg:gk=lo+top*hi):hi*cc+lo<gk/\(hi*cc+lo)%P=gk%P:=by
 have e:gk=hi*cc+lo+P*hi:=by rw[hg,<-hP,QC,OX cc];omega
 rw[e,Nat.add_mul_mod_self_left];have:0<P*hi:=Nat.mul_pos (by omega) hpos;exact⟨by omega,rfl⟩
theorem oR(p0 p1 p2 p3 c0 c1 c2 c3 P:Nat)(x:Value)(m:Nat)(hp0:p0<18446744073709551616)(hp1:p1<18446744073709551616)(hp2:p2<18446744073709551616)(hp3:p3<18446744073709551616)
 (hc0:c0<18446744073709551616) (hc1:c1<18446744073709551616) (hc2:c2<18446744073709551616) (hc3:c3<18446744073709551616) (eP:P=val p0 p1 p2 p3) (hP:P+val c0 c1 c2 c3=top) (hP2:top<2*P) (hx:jT x m) (w:World) :
 Calls prog 86 #[.agg #[.int .u64 p0,.int .u64 p1,.int .u64 p2,.int .u64 p3,.int .u64 c0,.int .u64 c1,.int .u64 c2,.int .u64 c3],x] w (Ret fun e w'=>Below w.heap.size w w'/\Four e (m%P)):=by
 obtain⟨a,b,c,d,e,f,g,h,rfl,ha,hb,hc,hd,he,hf,hg,hh,em⟩:=hx;go_enter Tryz.func86,Tryz.ntmps86;go_wp2;have HEP:Hid (P=val p0 p1 p2 p3):=eP;clear eP;go_loopg [] (val a b c d+top*val e f g h) (fun gk wr=>∃(a b c d e f g h:Nat),LessI w wr p0 p1 p2 p3 c0 c1 c2 c3 a b c d e f g h/\gk=val a b c d+top*val e f g h/\Hid (gk%P=m%P))
 case atStart =>
  refine⟨a,b,c,d,e,f,g,h,⟨below3 _ _ _ _,?_,?_,?_,ha,hb,hc,hd,he,hf,hg,hh⟩,rfl,?_⟩
  ·exact(((At8.made w 56 p0 p1 p2 p3 c0 c1 c2 c3 rfl).alloc _).alloc _)
  ·exact(At8.made (w.alloc _) 141 a b c d e f g h (Oo _ _)).alloc _
  ·exact At4.made ((w.alloc _).alloc _) 52 0 0 0 0 (by simp)
  ·rw[em];rfl
 case round =>
  obtain⟨a,b,c,d,e,f,g,h,hI,hgk,HE⟩:=hrel;clear em ha hb hc hd he hf hg hh;obtain⟨bl,fr,wi,re,ha,hb,hc,hd,he,hf,hg,hh⟩:=hI;have HB:Hid (Below w.heap.size w wr):=bl;clear bl;generalize q2:w.heap.size+1+1=k2 at re⊢;generalize q1:w.heap.size+1=k1 at wi⊢;have H:Hid (w.heap.size+1=k1/\w.heap.size+1+1=k2):=⟨q1,q2⟩
  have Q1:Hid (w.heap.size<=k1):=by unfold Hid;omega
  have Q2:Hid (w.heap.size<=k2):=by unfold Hid;omega
  generalize q0:w.heap.size=k0 at fr HB Q1 Q2⊢;have H0:Hid (w.heap.size=k0):=q0;have n01:k0≠k1:=by omega
  have n02:k0≠k2:=by omega
  have n12:k1≠k2:=by omega
  have z0:=fr.lt;have z1:=wi.lt;have z2:=re.lt;clear q0 q1 q2;obtain⟨o,ho,hoz⟩:=or4 e f g h he hf hg hh;obtain⟨fc0,fc1,fc2,fc3,fc4,fc5,fc6,fc7,ff⟩:=id fr;obtain⟨wc0,wc1,wc2,wc3,wc4,wc5,wc6,wc7,wf⟩:=id wi;obtain⟨rc0,rc1,rc2,rc3,rf⟩:=id re;by_cases hz:o=0
  ·obtain⟨rfl,rfl,rfl,rfl⟩:=hoz.1 hz;have hlow:gk=val a b c d:=by rw[hgk];rfl
   have HE2:Hid (val a b c d%P=m%P):=by unfold Hid;rw[<-hlow];exact HE.out
   clear hgk HE hoz hlow;subst hz;go_wp2;have N:=At4.made wr 52 a b c d rfl;have M0:k0≠wr.heap.size:=Pv z0;have M2:k2≠wr.heap.size:=Pv z2;have M5:Hid (k0<=wr.heap.size):=Qi z0;have HB0:Hid (Below k0 w _):=HB.out.alloc (Qi z0) (.cells #[.int .u64 a,.int .u64 b,.int .u64 c,.int .u64 d] 52);replace fr:=fr.alloc (.cells #[.int .u64 a,.int .u64 b,.int .u64 c,.int .u64 d] 52);replace re:=re.alloc (.cells #[.int .u64 a,.int .u64 b,.int .u64 c,.int .u64 d] 52);clear wi fc0 fc1 fc2 fc3 fc4 fc5 fc6 fc7 ff wc0 wc1 wc2 wc3 wc4 wc5 wc6 wc7 wf rc0 rc1 rc2 rc3 rf z0 z1 z2 HB ho;generalize Pb _ _=W0 at N fr re HB0⊢;generalize wr.heap.size=k5 at N M0 M2 M5⊢;have hB4:Hid (a<18446744073709551616/\b<18446744073709551616/\c<18446744073709551616/\d<18446744073709551616):=⟨ha,hb,hc,hd⟩
   have HPP:Hid (0<P):=by unfold Hid;have:=hP2;omega
   clear ha hb hc hd hP hP2;have KP:Kept w k0 [⟨k5,0,a,b,c,d⟩,⟨k0,0,p0,p1,p2,p3⟩,⟨k2,0,0,0,0,0⟩] W0:=
    (((Kept.mk1 HB0.out (Qi fr.lt)).cons re.blk).cons (x:=⟨k0,0,p0,p1,p2,p3⟩) ⟨fr.c0,fr.c1,fr.c2,fr.c3,fr.fz⟩).cons N.blk
   clear fr re N HB0;go_loopg [] (val a b c d) (fun gk2 wr2=>∃(a b c d:Nat),gk2=val a b c d/\Kept w k0 [⟨k5,0,a,b,c,d⟩,⟨k0,0,p0,p1,p2,p3⟩,⟨k2,0,0,0,0,0⟩] wr2/\Hid (a<18446744073709551616/\b<18446744073709551616/\c<18446744073709551616/\d<18446744073709551616)/\Hid (val a b c d%P=m%P))
   case atStart=>exact⟨a,b,c,d,rfl,KP,hB4,HE2⟩
   case round =>
    clear KP hB4 HE2;obtain⟨a,b,c,d,hgk2,KP,hB4,HE2⟩:=hrel;obtain⟨xc0,xc1,xc2,xc3,xf⟩:=KP.head.at4;obtain⟨pc0,pc1,pc2,pc3,pf⟩:=KP.tail.head.at4;have z5:=KP.head.lt;have z0:=KP.tail.head.lt;go_wp2_with fail
    refine(lD _ _ _ _ (Four.mk hB4.out.1 hB4.out.2.1 hB4.out.2.2.1 hB4.out.2.2.2 rfl) (Four.mk hp0 hp1 hp2 hp3 rfl) _).mono ?_;rintro r w2 ⟨v,rfl,hb2,v2,t2,j,rfl,⟨a2,b2,c2,d2,rfl,ha2,hb2',hc2,hd2,es2⟩,hj,he2⟩;clear xc0 xc1 xc2 xc3 xf pc0 pc1 pc2 pc3 pf z5 z0;replace KP:=KP.call hb2;clear hb2;have HE3:Hid (val a2 b2 c2 d2+P=val a b c d+top*j):=by unfold Hid;rw[<-es2,HEP.out];exact he2
    clear he2 es2;have hj':j=0\/j=1:=by omega
    rcases hj' with rfl|rfl
    ·obtain⟨xc0,xc1,xc2,xc3,xf⟩:=KP.head.at4;have z5:=KP.head.lt;go_wp2;go_roundg (val a2 b2 c2 d2)
     case measure=>have:=HE3.out;have:=HPP.out;omega
     case rel =>
      refine⟨a2,b2,c2,d2,rfl,?_,⟨ha2,hb2',hc2,hd2⟩,?_⟩
      ·exact(KP.put M5.out (by simp only[Pg,OD,or_false];rintro x (rfl|rfl);exact M0.symm;exact M2.symm) a2 b2 c2 d2).alloc _
      ·unfold Hid;rw[<-HE2.out,show val a b c d=val a2 b2 c2 d2+P by have:=HE3.out;omega,Nat.add_mod_right]
    ·obtain⟨xc0,xc1,xc2,xc3,xf⟩:=KP.head.at4;obtain⟨rc0,rc1,rc2,rc3,rf⟩:=KP.tail.tail.head.at4;have z5:=KP.head.lt;have z3:=KP.tail.tail.head.lt;go_wp2;have RF:=(KP.tail.tail.head.at4.self4 a b c d).alloc (.cells #[.int .u64 a2,.int .u64 b2,.int .u64 c2,.int .u64 d2] 52);unfold set4 at RF;refine bodyPost_ret (v:=?v) ?hr rfl ?hR
     case hr=>simp[results,Tryz.results86,go_sem,RF.c0,RF.c1,RF.c2,RF.c3];rfl
     refine⟨_,rfl,?_,Four.mk hB4.out.1 hB4.out.2.1 hB4.out.2.2.1 hB4.out.2.2.2 ?_⟩
     ·rw[H0.out];exact(aG KP.bl Q2.out _ _ _ _).alloc (by rw[Da];exact KP.le) _
     ·rw[<-HE2.out,Oy (by have:=HE3.out;have:=fG ha2 hb2' hc2 hd2;omega)]
  ·have hpos:0<val e f g h:=by
    rcases Nat.eq_zero_or_pos (val e f g h)with h0|h0
    ·exact absurd (hoz.2 (by unfold val at h0;omega)) hz
    ·exact h0
   have HL:Hid (_/\_):=DK hP hP2 hpos hgk;clear hoz hgk hpos;go_wp2;have KP:Kept w k0 [⟨k0,0,p0,p1,p2,p3⟩,⟨k0,4,c0,c1,c2,c3⟩,⟨k1,0,a,b,c,d⟩,⟨k1,4,e,f,g,h⟩,⟨k2,0,0,0,0,0⟩] wr:=
    (((((Kept.mk1 HB.out (Qi z0)).cons re.blk).cons (x:=⟨k1,4,e,f,g,h⟩) ⟨wi.c4,wi.c5,wi.c6,wi.c7,wi.fz⟩).cons (x:=⟨k1,0,a,b,c,d⟩) ⟨wi.c0,wi.c1,wi.c2,wi.c3,wi.fz⟩).cons (x:=⟨k0,4,c0,c1,c2,c3⟩) ⟨fr.c4,fr.c5,fr.c6,fr.c7,fr.fz⟩).cons (x:=⟨k0,0,p0,p1,p2,p3⟩) ⟨fr.c0,fr.c1,fr.c2,fr.c3,fr.fz⟩
   clear HEP rc0 rc1 rc2 rc3 rf fc0 fc1 fc2 fc3 fr wi re HB;refine anyTill.begin (fun w'=>w'.cell? ⟨k0,4,none⟩=some (.int .u64 c0)/\w'.cell? ⟨k0,5,none⟩=some (.int .u64 c1)/\w'.cell? ⟨k0,6,none⟩=some (.int .u64 c2)/\w'.cell? ⟨k0,7,none⟩=some (.int .u64 c3)/\w'.cell? ⟨k1,0,none⟩=some (.int .u64 a)/\w'.cell? ⟨k1,1,none⟩=some (.int .u64 b)/\w'.cell? ⟨k1,2,none⟩=some (.int .u64 c)/\w'.cell? ⟨k1,3,none⟩=some (.int .u64 d)/\w'.cell? ⟨k1,4,none⟩=some (.int .u64 e)/\w'.cell? ⟨k1,5,none⟩=some (.int .u64 f)/\w'.cell? ⟨k1,6,none⟩=some (.int .u64 g)/\w'.cell? ⟨k1,7,none⟩=some (.int .u64 h)/\Kept w k0 [⟨k0,0,p0,p1,p2,p3⟩,⟨k0,4,c0,c1,c2,c3⟩,⟨k1,0,a,b,c,d⟩,⟨k1,4,e,f,g,h⟩,⟨k2,0,0,0,0,0⟩] w') 22 mixed (sH KP.drew) (fun hS=>?_);refine anyTill.tk (i:=0) (v:=?_) rfl (OQ ⟨by rfl,?_⟩) hS ?_
   rotate_left
   ·intro w hSw
    (try dsimp only at hSw)
    go_simp;try(with_reducible rfl)
   simp only[Pk,OL];refine anyTill.tk (i:=1) (v:=?_) rfl (OQ ⟨by rfl,?_⟩) hS ?_
   rotate_left
   ·intro w hSw
    (try dsimp only at hSw)
    go_simp;try(with_reducible rfl)
   simp only[Pk];refine anyTill.tk (i:=2) (v:=?_) rfl (OQ ⟨by rfl,?_⟩) hS ?_
   rotate_left
   ·intro w hSw
    (try dsimp only at hSw)
    go_simp;try(with_reducible rfl)
   simp only[Pk];refine anyTill.tk (i:=3) (v:=?_) rfl (OQ ⟨by rfl,?_⟩) hS ?_
   rotate_left
   ·intro w hSw
    (try dsimp only at hSw)
    go_simp;try(with_reducible rfl)
   simp only[Pk];refine anyTill.tk (i:=4) (v:=?_) rfl (OQ ⟨by rfl,?_⟩) hS ?_
   rotate_left
   ·intro w hSw
    (try dsimp only at hSw)
    go_simp;try(with_reducible rfl)
   simp only[Pk];refine anyTill.tk (i:=5) (v:=?_) rfl (OQ ⟨by rfl,?_⟩) hS ?_
   rotate_left
   ·intro w hSw
    (try dsimp only at hSw)
    go_simp;try(with_reducible rfl)
   simp only[Pk];refine anyTill.tk (i:=6) (v:=?_) rfl (OQ ⟨by rfl,?_⟩) hS ?_
   rotate_left
   ·intro w hSw
    (try dsimp only at hSw)
    go_simp;try(with_reducible rfl)
   simp only[Pk];refine anyTill.tk (i:=7) (v:=?_) rfl (OQ ⟨by rfl,?_⟩) hS ?_
   rotate_left
   ·intro w hSw
    (try dsimp only at hSw)
    go_simp;try(with_reducible rfl)
   simp only[Pk];refine anyTill.tk (i:=8) (v:=?_) rfl (OQ ⟨by rfl,?_⟩) hS ?_
   rotate_left
   ·intro w hSw
    (try dsimp only at hSw)
    go_simp;try(with_reducible rfl)
   simp only[Pk];refine anyTill.tk (i:=9) (v:=?_) rfl (OQ ⟨by rfl,?_⟩) hS ?_
   rotate_left
   ·intro w hSw
    (try dsimp only at hSw)
    go_simp;try(with_reducible rfl)
   simp only[Pk];refine anyTill.tk (i:=10) (v:=?_) rfl (OQ ⟨by rfl,?_⟩) hS ?_
   rotate_left
   ·intro w hSw
    (try dsimp only at hSw)
    go_simp;try(with_reducible rfl)
   simp only[Pk];refine anyTill.tk (i:=12) (v:=?_) rfl (OQ ⟨by rfl,?_⟩) hS ?_
   rotate_left
   ·intro w hSw
    (try dsimp only at hSw)
    go_simp;try(with_reducible rfl)
   simp only[Pk];refine anyTill.tk (i:=13) (v:=?_) rfl (OQ ⟨by rfl,?_⟩) hS ?_
   rotate_left
   ·intro w hSw
    (try dsimp only at hSw)
    go_simp;try(with_reducible rfl)
   simp only[Pk];refine anyTill.tk (i:=14) (v:=?_) rfl (OQ ⟨by rfl,?_⟩) hS ?_
   rotate_left
   ·intro w hSw
    (try dsimp only at hSw)
    go_simp;try(with_reducible rfl)
   simp only[Pk];refine anyTill.tk (i:=15) (v:=?_) rfl (OQ ⟨by rfl,?_⟩) hS ?_
   rotate_left
   ·intro w hSw
    (try dsimp only at hSw)
    go_simp;try(with_reducible rfl)
   simp only[Pk];refine anyTill.tk (i:=16) (v:=?_) rfl (OQ ⟨by rfl,?_⟩) hS ?_
   rotate_left
   ·intro w hSw
    (try dsimp only at hSw)
    go_simp;try(with_reducible rfl)
   simp only[Pk];refine anyTill.tk (i:=17) (v:=?_) rfl (OQ ⟨by rfl,?_⟩) hS ?_
   rotate_left
   ·intro w hSw
    (try dsimp only at hSw)
    go_simp;try(with_reducible rfl)
   simp only[Pk];refine anyTill.tk (i:=18) (v:=?_) rfl (OQ ⟨by rfl,?_⟩) hS ?_
   rotate_left
   ·intro w hSw
    (try dsimp only at hSw)
    go_simp;try(with_reducible rfl)
   simp only[Pk];refine anyTill.tk (i:=19) (v:=?_) rfl (OQ ⟨by rfl,?_⟩) hS ?_
   rotate_left
   ·intro w hSw
    (try dsimp only at hSw)
    go_simp;try(with_reducible rfl)
   simp only[Pk];refine anyTill.tk (i:=20) (v:=?_) rfl (OQ ⟨by rfl,?_⟩) hS ?_
   rotate_left
   ·intro w hSw
    (try dsimp only at hSw)
    go_simp;try(with_reducible rfl)
   simp only[Pk];refine anyTill.step (i:=11) rfl (by kernel_rfl) (fun K hK=>?_);go_simp;refine(jE _ _ _ _ (Four.mk he hf hg hh rfl) (Four.mk hc0 hc1 hc2 hc3 rfl) _).mono ?_;rintro r w1 ⟨v,rfl,hb1,hE1⟩;obtain⟨x0,x1,x2,x3,x4,x5,x6,x7,rfl,hx0,hx1,hx2,hx3,hx4,hx5,hx6,hx7,hxe⟩:=id hE1;clear hxe hS;have KP1:=KP.drew.call hb1;clear hb1 KP;refine hK.out _ _ (fun _=>sH KP1) ?_;clear hK K;try simp only[Pk,OL,Pf,Pd]
   refine anyTill.step (i:=21) rfl (by kernel_rfl) (fun K hK=>?_);go_simp;refine(oM _ _ _ _ hE1 ⟨a,b,c,d,0,0,0,0,rfl,ha,hb,hc,hd,by decide,by decide,by decide,by decide,rfl⟩ (by have h1:=AQ (fG he hf hg hh) (fG hc0 hc1 hc2 hc3);have h2:=fG ha hb hc hd;have e0:val 0 0 0 0=0:=rfl;rw[e0,RH,P9];omega) _).mono ?_;rintro r w2 ⟨v,rfl,hb2,hE2⟩;obtain⟨y0,y1,y2,y3,y4,y5,y6,y7,rfl,hy0,hy1,hy2,hy3,hy4,hy5,hy6,hy7,hye⟩:=id hE2;rw[show val 0 0 0 0=0 from rfl,RH,P9]at hye;have HY:Hid (_=_):=hye;clear hye hE1 hE2;have KP2:=KP1.call hb2;clear hb2 KP1;refine hK.out _ _ (fun _=>sH KP2) ?_;clear hK K;try simp only[Pk,OL,Pf,Pd]
   have fr:At8 w2 k0 p0 p1 p2 p3 c0 c1 c2 c3:=⟨KP2.head.c0,KP2.head.c1,KP2.head.c2,KP2.head.c3,KP2.tail.head.c0,KP2.tail.head.c1,KP2.tail.head.c2,KP2.tail.head.c3,KP2.head.f⟩
   have wi:At8 w2 k1 a b c d e f g h:=⟨KP2.tail.tail.head.c0,KP2.tail.tail.head.c1,KP2.tail.tail.head.c2,KP2.tail.tail.head.c3,KP2.tail.tail.tail.head.c0,KP2.tail.tail.tail.head.c1,KP2.tail.tail.tail.head.c2,KP2.tail.tail.tail.head.c3,KP2.tail.tail.head.f⟩
   have re:At4 w2 k2 0 0 0 0:=KP2.tail.tail.tail.tail.head.at4;have HB:Hid (Below k0 w w2):=KP2.bl;clear KP2 wc0 wc1 wc2 wc3 wc4 wc5 wc6 wc7 wf z0 z1 z2;obtain⟨wc0,wc1,wc2,wc3,wc4,wc5,wc6,wc7,wf⟩:=id wi;have z1:=wi.lt;refine anyTill.step (i:=22) rfl (by kernel_rfl) (fun K hK=>?_);go_simp;refine hK.out _ _ (fun h=>QQ h) ?_;clear hK K;try simp only[Pk,OL,Pf,Pd]
   refine anyTill.done (by kernel_rfl) ?_ _;obtain⟨q1,q2⟩:=H.out;have q0:=H0.out;subst q1 q2 q0;go_wp2;go_roundg (val y0 y1 y2 y3+top*val y4 y5 y6 y7)
   case measure=>rw[<-HY.out];exact HL.out.1
   case rel =>
    refine⟨y0,y1,y2,y3,y4,y5,y6,y7,⟨?_,?_,?_,?_,hy0,hy1,hy2,hy3,hy4,hy5,hy6,hy7⟩,rfl,?_⟩
    ·exact zO HB.out Q1.out _ _ _ _ _ _ _ _
    ·exact At8.other8x fr n01.symm _ _ _ _ _ _ _ _
    ·exact At8.self8x wi y0 y1 y2 y3 y4 y5 y6 y7
    ·exact At4.other8x re n12 _ _ _ _ _ _ _ _
    ·unfold Hid;rw[<-HY.out,<-HE.out];exact HL.out.2
end
section
open Go.RowKit Go.Sort
variable {P:Nat}[NeZero P]{N:Nat}
theorem dM{w W:World}{k0 k1 k2 p0 p1 p2 p3 c0 c1 c2 c3 a b c d p q r s:Nat}(h:Kept w k0 [⟨k0,0,p0,p1,p2,p3⟩,⟨k0,4,c0,c1,c2,c3⟩,⟨k1,0,a,b,c,d⟩,⟨k2,0,p,q,r,s⟩] W):W.cell? ⟨k0,0,none⟩=some (.int .u64 p0)/\W.cell? ⟨k0,1,none⟩=some (.int .u64 p1)/\W.cell? ⟨k0,2,none⟩=some (.int .u64 p2)/\W.cell? ⟨k0,3,none⟩=some (.int .u64 p3)/\W.cell? ⟨k0,4,none⟩=some (.int .u64 c0)/\W.cell? ⟨k0,5,none⟩=some (.int .u64 c1)/\W.cell? ⟨k0,6,none⟩=some (.int .u64 c2)/\W.cell? ⟨k0,7,none⟩=some (.int .u64 c3)/\W.cell? ⟨k1,0,none⟩=some (.int .u64 a)/\W.cell? ⟨k1,1,none⟩=some (.int .u64 b)/\W.cell? ⟨k1,2,none⟩=some (.int .u64 c)/\W.cell? ⟨k1,3,none⟩=some (.int .u64 d)/\W.cell? ⟨k2,0,none⟩=some (.int .u64 p)/\W.cell? ⟨k2,1,none⟩=some (.int .u64 q)/\W.cell? ⟨k2,2,none⟩=some (.int .u64 r)/\W.cell? ⟨k2,3,none⟩=some (.int .u64 s)/\Kept w k0 [⟨k0,0,p0,p1,p2,p3⟩,⟨k0,4,c0,c1,c2,c3⟩,⟨k1,0,a,b,c,d⟩,⟨k2,0,p,q,r,s⟩] W:=
 ⟨h.head.c0,h.head.c1,h.head.c2,h.head.c3,h.tail.head.c0,h.tail.head.c1,h.tail.head.c2,h.tail.head.c3,h.tail.tail.head.c0,h.tail.tail.head.c1,h.tail.tail.head.c2,h.tail.tail.head.c3,h.tail.tail.tail.head.c0,h.tail.tail.tail.head.c1,h.tail.tail.tail.head.c2,h.tail.tail.tail.head.c3,h⟩
theorem EO(p0 p1 p2 p3 c0 c1 c2 c3 P:Nat)(x y:Value)(m n:Nat)(hp0:p0<18446744073709551616)(hp1:p1<18446744073709551616)(hp2:p2<18446744073709551616)(hp3:p3<18446744073709551616)
 (hc0:c0<18446744073709551616) (hc1:c1<18446744073709551616) (hc2:c2<18446744073709551616) (hc3:c3<18446744073709551616) (eP:P=val p0 p1 p2 p3) (hP:P+val c0 c1 c2 c3=top) (hP2:top<2*P) (hx:Four x m) (hy:Four y n) (w:World) :
 Calls prog 32 #[.agg #[.int .u64 p0,.int .u64 p1,.int .u64 p2,.int .u64 p3,.int .u64 c0,.int .u64 c1,.int .u64 c2,.int .u64 c3],x,y] w (Ret fun e w'=>Below w.heap.size w w'/\Four e (m*n%P)):=by
 obtain⟨a,b,c,d,rfl,ha,hb,hc,hd,em⟩:=id hx;obtain⟨p,q,r,s,rfl,hp,hq,hr,hs,en⟩:=id hy;have HX:Hid (Four _ _):=hx;have HY:Hid (Four _ _):=hy;have HL:Hid (∀(v:Value) (k:Nat) (w:World),jT v k->Calls prog 86 #[.agg #[.int .u64 p0,.int .u64 p1,.int .u64 p2,.int .u64 p3,.int .u64 c0,.int .u64 c1,.int .u64 c2,.int .u64 c3],v] w (Ret fun e w'=>Below w.heap.size w w'/\Four e (k%P))):=
  fun v k w hv=>oR p0 p1 p2 p3 c0 c1 c2 c3 P v k hp0 hp1 hp2 hp3 hc0 hc1 hc2 hc3 eP hP hP2 hv w
 clear em en hx hy ha hb hc hd hp hq hr hs hp0 hp1 hp2 hp3 hc0 hc1 hc2 hc3 eP hP hP2;go_enter Tryz.func32,Tryz.ntmps32;go_wp2_with fail
 have FR:=((((At8.made w 56 p0 p1 p2 p3 c0 c1 c2 c3 rfl).alloc (.cells #[.int .u64 a,.int .u64 b,.int .u64 c,.int .u64 d] 52)).alloc (.cells #[.int .u64 p,.int .u64 q,.int .u64 r,.int .u64 s] 52)).alloc (.cells #[.int .u64 0,.int .u64 0,.int .u64 0,.int .u64 0] 52))
 have X:=(((At4.made (w.alloc (.cells #[.int .u64 p0,.int .u64 p1,.int .u64 p2,.int .u64 p3,.int .u64 c0,.int .u64 c1,.int .u64 c2,.int .u64 c3] 56)) 52 a b c d (Oo _ _)).alloc (.cells #[.int .u64 p,.int .u64 q,.int .u64 r,.int .u64 s] 52)).alloc (.cells #[.int .u64 0,.int .u64 0,.int .u64 0,.int .u64 0] 52))
 have Y:=((At4.made ((w.alloc (.cells #[.int .u64 p0,.int .u64 p1,.int .u64 p2,.int .u64 p3,.int .u64 c0,.int .u64 c1,.int .u64 c2,.int .u64 c3] 56)).alloc (.cells #[.int .u64 a,.int .u64 b,.int .u64 c,.int .u64 d] 52)) 52 p q r s (k:=w.heap.size+1+1) (by simp)).alloc (.cells #[.int .u64 0,.int .u64 0,.int .u64 0,.int .u64 0] 52))
 have T3:=At4.made (((w.alloc (.cells #[.int .u64 p0,.int .u64 p1,.int .u64 p2,.int .u64 p3,.int .u64 c0,.int .u64 c1,.int .u64 c2,.int .u64 c3] 56)).alloc (.cells #[.int .u64 a,.int .u64 b,.int .u64 c,.int .u64 d] 52)).alloc (.cells #[.int .u64 p,.int .u64 q,.int .u64 r,.int .u64 s] 52)) 52 0 0 0 0 (k:=w.heap.size+1+1+1) (by simp);have KP:=((((Kept.mk1 (eN w (.cells #[.int .u64 p0,.int .u64 p1,.int .u64 p2,.int .u64 p3,.int .u64 c0,.int .u64 c1,.int .u64 c2,.int .u64 c3] 56) (.cells #[.int .u64 a,.int .u64 b,.int .u64 c,.int .u64 d] 52) (.cells #[.int .u64 p,.int .u64 q,.int .u64 r,.int .u64 s] 52) (.cells #[.int .u64 0,.int .u64 0,.int .u64 0,.int .u64 0] 52)) (eN w (.cells #[.int .u64 p0,.int .u64 p1,.int .u64 p2,.int .u64 p3,.int .u64 c0,.int .u64 c1,.int .u64 c2,.int .u64 c3] 56) (.cells #[.int .u64 a,.int .u64 b,.int .u64 c,.int .u64 d] 52) (.cells #[.int .u64 p,.int .u64 q,.int .u64 r,.int .u64 s] 52) (.cells #[.int .u64 0,.int .u64 0,.int .u64 0,.int .u64 0] 52)).size).cons Y.blk).cons X.blk).cons (x:=⟨w.heap.size,4,c0,c1,c2,c3⟩) ⟨FR.c4,FR.c5,FR.c6,FR.c7,FR.fz⟩).cons (x:=⟨w.heap.size,0,p0,p1,p2,p3⟩) ⟨FR.c0,FR.c1,FR.c2,FR.c3,FR.fz⟩;simp only[OY]at T3;clear FR X Y;generalize Pb _ _=W0 at KP T3⊢;generalize h3:w.heap.size+1+1+1=k3 at T3⊢;generalize h2:w.heap.size+1+1=k2 at KP⊢;generalize h1:w.heap.size+1=k1 at KP⊢;have Q3:Hid (w.heap.size<=k3):=by unfold Hid;omega
 generalize h0:w.heap.size=k0 at KP Q3⊢;have H0:Hid (w.heap.size=k0):=h0;have hl3:∀x∈([⟨k0,0,p0,p1,p2,p3⟩,⟨k0,4,c0,c1,c2,c3⟩,⟨k1,0,a,b,c,d⟩,⟨k2,0,p,q,r,s⟩]:List Blk),k3≠x.k:=by simp only[Pg,OD,or_false];rintro x (rfl|rfl|rfl|rfl)<;>simp only<;>omega
 clear h0 h1 h2 h3;obtain⟨tc0,tc1,tc2,tc3,tf⟩:=id T3;have zt:=T3.lt;go_region_held3 (fun w'=>w'.cell? ⟨k0,0,none⟩=some (.int .u64 p0)/\w'.cell? ⟨k0,1,none⟩=some (.int .u64 p1)/\w'.cell? ⟨k0,2,none⟩=some (.int .u64 p2)/\w'.cell? ⟨k0,3,none⟩=some (.int .u64 p3)/\w'.cell? ⟨k0,4,none⟩=some (.int .u64 c0)/\w'.cell? ⟨k0,5,none⟩=some (.int .u64 c1)/\w'.cell? ⟨k0,6,none⟩=some (.int .u64 c2)/\w'.cell? ⟨k0,7,none⟩=some (.int .u64 c3)/\w'.cell? ⟨k1,0,none⟩=some (.int .u64 a)/\w'.cell? ⟨k1,1,none⟩=some (.int .u64 b)/\w'.cell? ⟨k1,2,none⟩=some (.int .u64 c)/\w'.cell? ⟨k1,3,none⟩=some (.int .u64 d)/\w'.cell? ⟨k2,0,none⟩=some (.int .u64 p)/\w'.cell? ⟨k2,1,none⟩=some (.int .u64 q)/\w'.cell? ⟨k2,2,none⟩=some (.int .u64 r)/\w'.cell? ⟨k2,3,none⟩=some (.int .u64 s)/\Kept w k0 [⟨k0,0,p0,p1,p2,p3⟩,⟨k0,4,c0,c1,c2,c3⟩,⟨k1,0,a,b,c,d⟩,⟨k2,0,p,q,r,s⟩] w') (first|(with_reducible exact dM KP)|(with_reducible exact dM KP.drew)|(with_reducible exact dM (KP.set4' Q3.out hl3 _ _ _ _))|(with_reducible exact dM (KP.set4' Q3.out hl3 _ _ _ _).drew)|fail) (first|(go_at_call 88;refine(jE _ _ _ _ HX.out HY.out _).mono ?_;rintro e w1 ⟨v,rfl,hb1,hE1⟩;obtain⟨x0,x1,x2,x3,x4,x5,x6,x7,rfl,hx0,hx1,hx2,hx3,hx4,hx5,hx6,hx7,hxe⟩:=id hE1;clear hxe;have HE1:Hid (jT _ _):=hE1;clear hE1;have KP1:=KP.drew.call hb1;have T1:=T3.drew.call hb1;clear KP T3 hb1;have KP:=KP1;have T3:=T1;clear KP1 T1;obtain⟨tc0,tc1,tc2,tc3,tf⟩:=id T3;have zt:=T3.lt)|(go_at_call 86;refine(HL.out _ _ _ HE1.out).mono ?_;rintro e w2 ⟨v,rfl,hb2,hF3⟩;obtain⟨a',b',c',d',rfl,ha',hb',hc',hd',es3⟩:=id hF3;clear es3;have HF3:Hid (Four _ _):=hF3;clear hF3;have KP1:=KP.call hb2;have T1:=T3.call hb2;clear KP T3 hb2;have KP:=KP1;have T3:=T1;clear KP1 T1;obtain⟨tc0,tc1,tc2,tc3,tf⟩:=id T3;have zt:=T3.lt))
 go_wp2;have RF:=T3.self4 a' b' c' d';unfold set4 at RF;refine bodyPost_ret (v:=?v) ?hr rfl ?hR
 case hr=>simp[results,Tryz.results32,go_sem,RF.c0,RF.c1,RF.c2,RF.c3];rfl
 refine⟨_,rfl,?_,HF3.out⟩;rw[H0.out];exact aG KP.bl Q3.out _ _ _ _
theorem Four.eight{a b c d m:Nat}(h:Four (.agg #[.int .u64 a,.int .u64 b,.int .u64 c,.int .u64 d]) m):
 jT (.agg #[.int .u64 a,.int .u64 b,.int .u64 c,.int .u64 d,.int .u64 0,.int .u64 0,.int .u64 0,.int .u64 0]) m:=by
 obtain⟨p,q,r,s,e,hp,hq,hr,hs,rfl⟩:=h;simp only[O8.injEq,SU.injEq,Sc.injEq,Pi.injEq,true_and,and_true,Rm]at e;obtain⟨rfl,rfl,rfl,rfl⟩:=e;exact⟨a,b,c,d,0,0,0,0,rfl,hp,hq,hr,hs,by decide,by decide,by decide,by decide,rfl⟩
theorem D8{v u:Value}{m n:Nat}(hx:Four v m)(hy:Four u n):m+n<top*top:=by
 have h1:=hx.lt;have h2:=hy.lt;have h3:top+top<=top*top:=by unfold top;decide
 omega
theorem ET(p0 p1 p2 p3 c0 c1 c2 c3 P:Nat)(x y:Value)(m n:Nat)(hp0:p0<18446744073709551616)(hp1:p1<18446744073709551616)(hp2:p2<18446744073709551616)(hp3:p3<18446744073709551616)
 (hc0:c0<18446744073709551616) (hc1:c1<18446744073709551616) (hc2:c2<18446744073709551616) (hc3:c3<18446744073709551616) (eP:P=val p0 p1 p2 p3) (hP:P+val c0 c1 c2 c3=top) (hP2:top<2*P) (hx:Four x m) (hy:Four y n) (w:World) :
 Calls prog 31 #[.agg #[.int .u64 p0,.int .u64 p1,.int .u64 p2,.int .u64 p3,.int .u64 c0,.int .u64 c1,.int .u64 c2,.int .u64 c3],x,y] w (Ret fun e w'=>Below w.heap.size w w'/\Four e ((m+n)%P)):=by
 obtain⟨a,b,c,d,rfl,ha,hb,hc,hd,em⟩:=id hx;obtain⟨p,q,r,s,rfl,hp,hq,hr,hs,en⟩:=id hy;have HX:Hid (Four _ _):=hx;have HY:Hid (Four _ _):=hy;have HL:Hid (∀(v:Value) (k:Nat) (w:World),jT v k->Calls prog 86 #[.agg #[.int .u64 p0,.int .u64 p1,.int .u64 p2,.int .u64 p3,.int .u64 c0,.int .u64 c1,.int .u64 c2,.int .u64 c3],v] w (Ret fun e w'=>Below w.heap.size w w'/\Four e (k%P))):=
  fun v k w hv=>oR p0 p1 p2 p3 c0 c1 c2 c3 P v k hp0 hp1 hp2 hp3 hc0 hc1 hc2 hc3 eP hP hP2 hv w
 clear em en hx hy ha hb hc hd hp hq hr hs hp0 hp1 hp2 hp3 hc0 hc1 hc2 hc3 eP hP hP2;go_enter Tryz.func31,Tryz.ntmps31;go_wp2_with fail
 have FR:=((((At8.made w 56 p0 p1 p2 p3 c0 c1 c2 c3 rfl).alloc (.cells #[.int .u64 a,.int .u64 b,.int .u64 c,.int .u64 d] 52)).alloc (.cells #[.int .u64 p,.int .u64 q,.int .u64 r,.int .u64 s] 52)).alloc (.cells #[.int .u64 0,.int .u64 0,.int .u64 0,.int .u64 0] 52))
 have X:=(((At4.made (w.alloc (.cells #[.int .u64 p0,.int .u64 p1,.int .u64 p2,.int .u64 p3,.int .u64 c0,.int .u64 c1,.int .u64 c2,.int .u64 c3] 56)) 52 a b c d (Oo _ _)).alloc (.cells #[.int .u64 p,.int .u64 q,.int .u64 r,.int .u64 s] 52)).alloc (.cells #[.int .u64 0,.int .u64 0,.int .u64 0,.int .u64 0] 52))
 have Y:=((At4.made ((w.alloc (.cells #[.int .u64 p0,.int .u64 p1,.int .u64 p2,.int .u64 p3,.int .u64 c0,.int .u64 c1,.int .u64 c2,.int .u64 c3] 56)).alloc (.cells #[.int .u64 a,.int .u64 b,.int .u64 c,.int .u64 d] 52)) 52 p q r s (k:=w.heap.size+1+1) (by simp)).alloc (.cells #[.int .u64 0,.int .u64 0,.int .u64 0,.int .u64 0] 52))
 have T3:=At4.made (((w.alloc (.cells #[.int .u64 p0,.int .u64 p1,.int .u64 p2,.int .u64 p3,.int .u64 c0,.int .u64 c1,.int .u64 c2,.int .u64 c3] 56)).alloc (.cells #[.int .u64 a,.int .u64 b,.int .u64 c,.int .u64 d] 52)).alloc (.cells #[.int .u64 p,.int .u64 q,.int .u64 r,.int .u64 s] 52)) 52 0 0 0 0 (k:=w.heap.size+1+1+1) (by simp);have KP:=((((Kept.mk1 (eN w (.cells #[.int .u64 p0,.int .u64 p1,.int .u64 p2,.int .u64 p3,.int .u64 c0,.int .u64 c1,.int .u64 c2,.int .u64 c3] 56) (.cells #[.int .u64 a,.int .u64 b,.int .u64 c,.int .u64 d] 52) (.cells #[.int .u64 p,.int .u64 q,.int .u64 r,.int .u64 s] 52) (.cells #[.int .u64 0,.int .u64 0,.int .u64 0,.int .u64 0] 52)) (eN w (.cells #[.int .u64 p0,.int .u64 p1,.int .u64 p2,.int .u64 p3,.int .u64 c0,.int .u64 c1,.int .u64 c2,.int .u64 c3] 56) (.cells #[.int .u64 a,.int .u64 b,.int .u64 c,.int .u64 d] 52) (.cells #[.int .u64 p,.int .u64 q,.int .u64 r,.int .u64 s] 52) (.cells #[.int .u64 0,.int .u64 0,.int .u64 0,.int .u64 0] 52)).size).cons Y.blk).cons X.blk).cons (x:=⟨w.heap.size,4,c0,c1,c2,c3⟩) ⟨FR.c4,FR.c5,FR.c6,FR.c7,FR.fz⟩).cons (x:=⟨w.heap.size,0,p0,p1,p2,p3⟩) ⟨FR.c0,FR.c1,FR.c2,FR.c3,FR.fz⟩;simp only[OY]at T3;clear FR X Y;generalize Pb _ _=W0 at KP T3⊢;generalize h3:w.heap.size+1+1+1=k3 at T3⊢;generalize h2:w.heap.size+1+1=k2 at KP⊢;generalize h1:w.heap.size+1=k1 at KP⊢;have Q3:Hid (w.heap.size<=k3):=by unfold Hid;omega
 generalize h0:w.heap.size=k0 at KP Q3⊢;have H0:Hid (w.heap.size=k0):=h0;have hl3:∀x∈([⟨k0,0,p0,p1,p2,p3⟩,⟨k0,4,c0,c1,c2,c3⟩,⟨k1,0,a,b,c,d⟩,⟨k2,0,p,q,r,s⟩]:List Blk),k3≠x.k:=by simp only[Pg,OD,or_false];rintro x (rfl|rfl|rfl|rfl)<;>simp only<;>omega
 clear h0 h1 h2 h3;obtain⟨tc0,tc1,tc2,tc3,tf⟩:=id T3;have zt:=T3.lt;go_region_held3 (fun w'=>w'.cell? ⟨k0,0,none⟩=some (.int .u64 p0)/\w'.cell? ⟨k0,1,none⟩=some (.int .u64 p1)/\w'.cell? ⟨k0,2,none⟩=some (.int .u64 p2)/\w'.cell? ⟨k0,3,none⟩=some (.int .u64 p3)/\w'.cell? ⟨k0,4,none⟩=some (.int .u64 c0)/\w'.cell? ⟨k0,5,none⟩=some (.int .u64 c1)/\w'.cell? ⟨k0,6,none⟩=some (.int .u64 c2)/\w'.cell? ⟨k0,7,none⟩=some (.int .u64 c3)/\w'.cell? ⟨k1,0,none⟩=some (.int .u64 a)/\w'.cell? ⟨k1,1,none⟩=some (.int .u64 b)/\w'.cell? ⟨k1,2,none⟩=some (.int .u64 c)/\w'.cell? ⟨k1,3,none⟩=some (.int .u64 d)/\w'.cell? ⟨k2,0,none⟩=some (.int .u64 p)/\w'.cell? ⟨k2,1,none⟩=some (.int .u64 q)/\w'.cell? ⟨k2,2,none⟩=some (.int .u64 r)/\w'.cell? ⟨k2,3,none⟩=some (.int .u64 s)/\Kept w k0 [⟨k0,0,p0,p1,p2,p3⟩,⟨k0,4,c0,c1,c2,c3⟩,⟨k1,0,a,b,c,d⟩,⟨k2,0,p,q,r,s⟩] w') (first|(with_reducible exact dM KP)|(with_reducible exact dM KP.drew)|(with_reducible exact dM (KP.set4' Q3.out hl3 _ _ _ _))|(with_reducible exact dM (KP.set4' Q3.out hl3 _ _ _ _).drew)|fail) (first|(go_at_call 87;refine(oM _ _ _ _ (Four.eight HX.out) (Four.eight HY.out) (D8 HX.out HY.out) _).mono ?_;rintro e w1 ⟨v,rfl,hb1,hE1⟩;obtain⟨x0,x1,x2,x3,x4,x5,x6,x7,rfl,hx0,hx1,hx2,hx3,hx4,hx5,hx6,hx7,hxe⟩:=id hE1;clear hxe;have HE1:Hid (jT _ _):=hE1;clear hE1;have KP1:=KP.drew.call hb1;have T1:=T3.drew.call hb1;clear KP T3 hb1;have KP:=KP1;have T3:=T1;clear KP1 T1;obtain⟨tc0,tc1,tc2,tc3,tf⟩:=id T3;have zt:=T3.lt)|(go_at_call 86;refine(HL.out _ _ _ HE1.out).mono ?_;rintro e w2 ⟨v,rfl,hb2,hF3⟩;obtain⟨a',b',c',d',rfl,ha',hb',hc',hd',es3⟩:=id hF3;clear es3;have HF3:Hid (Four _ _):=hF3;clear hF3;have KP1:=KP.call hb2;have T1:=T3.call hb2;clear KP T3 hb2;have KP:=KP1;have T3:=T1;clear KP1 T1;obtain⟨tc0,tc1,tc2,tc3,tf⟩:=id T3;have zt:=T3.lt))
 go_wp2;have RF:=T3.self4 a' b' c' d';unfold set4 at RF;refine bodyPost_ret (v:=?v) ?hr rfl ?hR
 case hr=>simp[results,Tryz.results31,go_sem,RF.c0,RF.c1,RF.c2,RF.c3];rfl
 refine⟨_,rfl,?_,HF3.out⟩;rw[H0.out];exact aG KP.bl Q3.out _ _ _ _
theorem Ax(x y:Value)(m n:Nat)(hx:Four x m)(hy:Four y n)(w:World):
 Calls prog 128 #[x,y] w (Ret fun e w'=>Below w.heap.size w w'/\e=.bool (decide (m<n))):=by
 obtain⟨a,b,c,d,rfl,ha,hb,hc,hd,em⟩:=id hx;obtain⟨p,q,r,s,rfl,hp,hq,hr,hs,en⟩:=id hy;have HX:Hid (Four _ _):=hx;have HY:Hid (Four _ _):=hy;clear em en hx hy ha hb hc hd hp hq hr hs;go_enter Tryz.func128,Tryz.ntmps128;go_wp2_with fail
 refine(lD _ _ _ _ HX.out HY.out _).mono ?_;rintro e w1 ⟨v,rfl,hb1,v2,t,k,rfl,hF,hk,he⟩;have HB:Hid (Below w.heap.size w w1):=(below2 w _ _).trans (hb1.mono (below2 w _ _).size);have hd:decide (m<n)=decide (k=1):=by
  have h1:=hF.lt;have h2:=HX.out.lt;have h3:=HY.out.lt;have:k=0\/k=1:=by omega
  rcases this with rfl|rfl
  ·rw[decide_eq_false (by omega),decide_eq_false (by omega)]
  ·rw[decide_eq_true (by omega),decide_eq_true rfl]
 have HD:Hid (decide (m<n)=decide (k=1)):=hd;obtain⟨a',b',c',d',rfl,ha',hb',hc',hd',es⟩:=id hF;clear es hF he hd hb1;have:k=0\/k=1:=by omega
 rcases this with rfl|rfl
 ·go_wp2;go_ret;exact⟨_,rfl,HB.out.alloc HB.out.size _,by rw[HD.out];rfl⟩
 ·go_wp2;go_ret;exact⟨_,rfl,HB.out.alloc HB.out.size _,by rw[HD.out];rfl⟩
end
section
open Go.RowKit Go.Sort Go.Deep
variable {P:Nat}[NeZero P]{N:Nat}
theorem At4.setq{w:World}{k a b c d:Nat}(h:At4 w k a b c d)(q o:Nat)(hq:q<4):
 At4 (w.setCell ⟨k,q,none⟩ (.int .u64 o)) k (if q=0 then o else a) (if q=1 then o else b) (if q=2 then o else c) (if q=3 then o else d):=by
 have h':q=0\/q=1\/q=2\/q=3:=by omega
 rcases h' with rfl|rfl|rfl|rfl
 ·exact h.set0 o
 ·exact h.set1 o
 ·exact h.set2 o
 ·exact h.set3 o
theorem Ir{a b c d M k B:Nat}(ha:a<18446744073709551616)(hb:b<18446744073709551616)(hc:c<18446744073709551616)(hd:d<18446744073709551616)(hk:k<32)(hB:B<256)(hv:val a b c d=M*256^(k+1)):
 bits .or .u64 (wd a b c d (k/8):Int) ((B*2^(8*(k%8)):Nat):Int)=((wd a b c d (k/8)+B*2^(8*(k%8)):Nat):Int)/\wd a b c d (k/8)+B*2^(8*(k%8))<18446744073709551616:=by
 have h1:wd a b c d (k/8)=256^(k%8+1)*(M%256^(7-k%8)):=by
  rw[Ef (k/8) (by omega) ha hb hc hd,hv,Ks rfl rfl]
 obtain⟨h2,h3⟩:=Md (y:=M%256^(7-k%8)) (x:=B) (r:=k%8) (by omega) hB (Qf _ (S2 (by decide)));rw[h1];refine⟨?_,h3⟩;rw[bits_or_u64_nat _ _ (by omega) (by omega),h2]
theorem Is{a b c d k B o:Nat}(hk:k<32)(ho:o=wd a b c d (k/8)+B*2^(8*(k%8))):
 val (if k/8=0 then o else a) (if k/8=1 then o else b) (if k/8=2 then o else c) (if k/8=3 then o else d)=val a b c d+B*256^k:=by
 have h:=BK a b c d (k/8) o (by omega);have e:(256:Nat)^k=2^(64*(k/8))*2^(8*(k%8)):=by
  rw[<-P6,show 64*(k/8)+8*(k%8)=8*k by omega,Nat.pow_mul]
 rw[ho,Qr,<-P5,OX (2^(64*(k/8))) B,P5,<-e]at h;rw[ho];omega
theorem FX(s:ByteArray)(i:Nat)(hi:i<s.size):beV (s.data.extract 0 (i+1)).toList=beV (s.data.extract 0 i).toList*256+s[i].toNat:=by
 have e:(s.data.extract 0 (i+1)).toList=(s.data.extract 0 i).toList++[s[i]]:=by
  rw[Array.extract_succ_right (by omega) hi,Array.toList_push];rfl
 rw[e,dQ];simp[beV]
theorem B6(s:ByteArray)(hs:s.size=32)(w:World):
 Calls prog 127 #[.string s] w (Ret fun e w'=>Below w.heap.size w w'/\Four e (beV s.data.toList)):=by
 go_enter Tryz.func127,Tryz.ntmps127;go_wp2;have KP:=((Kept.mk1 (below2 w (.cells #[.int .u64 0,.int .u64 0,.int .u64 0,.int .u64 0] 52) (.cells #[.int .u64 0,.int .u64 0,.int .u64 0,.int .u64 0] 52)) (below2 w _ _).size).cons ((At4.made w 52 0 0 0 0 rfl).alloc (.cells #[.int .u64 0,.int .u64 0,.int .u64 0,.int .u64 0] 52)).blk).cons (At4.made (w.alloc (.cells #[.int .u64 0,.int .u64 0,.int .u64 0,.int .u64 0] 52)) 52 0 0 0 0 (Oo _ _)).blk;generalize Pb _ _=W0 at KP⊢;generalize h1:w.heap.size+1=k1 at KP⊢;have n10:k1≠w.heap.size:=by omega
 have Q1:Hid (w.heap.size<=k1):=by unfold Hid;omega
 clear h1;go_loopg [4] 32 (fun gk s4 wr=>∃i a b c d:Nat,i+gk=32/\s4=.int .i64 i/\Kept w w.heap.size [⟨k1,0,a,b,c,d⟩,⟨w.heap.size,0,0,0,0,0⟩] wr/\Hid (Four (.agg #[.int .u64 a,.int .u64 b,.int .u64 c,.int .u64 d]) (beV (s.data.extract 0 i).toList*256^(32-i))))
 case atStart =>
  refine⟨0,0,0,0,0,rfl,rfl,KP,?_⟩;have:beV (s.data.extract 0 0).toList=0:=by simp[beV]
  rw[this,Nat.zero_mul];exact Four.mk (by decide) (by decide) (by decide) (by decide) rfl
 case round =>
  clear KP;obtain⟨i,a,b,c,d,hi,rfl,KP,HF⟩:=hrel;by_cases hlt:i<32
  ·obtain⟨k,hk⟩:∃k,31-i=k:=⟨_,rfl⟩
   have hk32:k<32:=by omega
   have hi32:i<s.size:=by omega
   have hF:val a b c d=beV (s.data.extract 0 i).toList*256^(k+1)/\a<18446744073709551616/\b<18446744073709551616/\c<18446744073709551616/\d<18446744073709551616:=by
    obtain⟨a',b',c',d',e',h1,h2,h3,h4,h5⟩:=HF.out;obtain⟨rfl,rfl,rfl,rfl⟩:a'=a/\b'=b/\c'=c/\d'=d:=by
     simp only[O8.injEq,SU.injEq,Sc.injEq,Pi.injEq,true_and,and_true,Rm]at e';exact⟨e'.1.symm,e'.2.1.symm,e'.2.2.1.symm,e'.2.2.2.symm⟩
    exact⟨by rw[<-h5,show 32-i=k+1 by omega],h1,h2,h3,h4⟩
   obtain⟨B,hB⟩:∃B,s[i].toNat=B:=⟨_,rfl⟩
   have hB256:B<256:=hB ▸ s[i].toNat_lt;have hsb:OS.wrap (s[i].toNat:Int)=(B:Int):=by rw[hB];exact wrapN _ (by omega)
   obtain⟨hor,hol⟩:=Ir hF.2.1 hF.2.2.1 hF.2.2.2.1 hF.2.2.2.2 hk32 hB256 hF.1;have xw:=KP.head.at4.wd (k/8) (by omega);obtain⟨o,ho⟩:∃o,wd a b c d (k/8)+B*2^(8*(k%8))=o:=⟨_,rfl⟩
   rw[ho]at hor hol;have hst:=Is (a:=a) (b:=b) (c:=c) (d:=d) hk32 ho.symm;have HST:Hid (Four (.agg #[.int .u64 ((if k/8=0 then o else a:Nat):Int),.int .u64 ((if k/8=1 then o else b:Nat):Int),.int .u64 ((if k/8=2 then o else c:Nat):Int),.int .u64 ((if k/8=3 then o else d:Nat):Int)]) (beV (s.data.extract 0 (i+1)).toList*256^(32-(i+1)))):=by
    refine Four.mk ?_ ?_ ?_ ?_ ?_
    ·split;exact hol;exact hF.2.1
    ·split;exact hol;exact hF.2.2.1
    ·split;exact hol;exact hF.2.2.2.1
    ·split;exact hol;exact hF.2.2.2.2
    ·rw[hst,hF.1,FX s i hi32,hB,show 32-(i+1)=k by omega,QC,PQ,P5,OX (256^k) 256]
   obtain⟨y,hy⟩:∃y,B*2^(8*(k%8))=y:=⟨_,rfl⟩
   have hyl:y<18446744073709551616:=by omega
   rw[hy]at hor;obtain⟨v,hv⟩:∃v,wd a b c d (k/8)=v:=⟨_,rfl⟩
   rw[hv]at hor xw;obtain⟨q,hq⟩:∃q,k/8=q:=⟨_,rfl⟩
   obtain⟨r,hr⟩:∃r,k%8=r:=⟨_,rfl⟩
   obtain⟨t,ht⟩:∃t,8*r=t:=⟨_,rfl⟩
   have hq4:q<4:=by omega
   have PT:=fun(v:Value)=>KP.tail.set (j:=k1) (i:=q) Q1.out (by simp only[Pg,OD,or_false];rintro x rfl;exact n10) v
   rw[hq]at xw HST;have hsh:OS.wrap ((B:Int)*2^t)=(y:Int):=by
    rw[<-ht,<-hr,<-hy,Qd,Qm];have:=wrapN (B*2^(8*(k%8))) (by omega);rw[Qd,Qm]at this;exact this
   have i1:(31:Int)-(i:Int)=(k:Int):=by omega
   have i2:(k:Int).tdiv 8=(q:Int):=by rw[Qq (by omega)];omega
   have i3:(k:Int).tmod 8=(r:Int):=by rw[P8 (by omega)];omega
   have i4:(q:Int)<4:=by omega
   have i5:OZ.wrap (q:Int)=(q:Int):=fY _ (by omega);have i6:OZ.wrap (r:Int)=(r:Int):=fY _ (by omega);have i7:(8:Int)*(r:Int)=(t:Int):=by omega
   have i8:OZ.wrap (t:Int)=(t:Int):=fY _ (by omega);have i9:t<64:=by omega
   have i10:(t:Int)<64:=by omega
   have hlt':(i:Int)<32:=by omega
   have T1:=KP.head.at4.setq q o hq4;have z1:=KP.head.lt;have xf:=KP.head.f;have HSB:Hid (s[i].toNat=B):=hB;have H4:Hid (q<4):=hq4;clear hy hv hq hr ht ho hst hF hB HF;go_wp2;go_region
   go_wp2;go_roundg (gk-1)
   case measure=>omega
   case rel =>
    refine⟨i+1,_,_,_,_,by omega,rfl,?_,HST⟩;exact((PT _).cons T1.blk).drew
  ·have hi32:i=32:=by omega
   subst hi32;have hse:s.data.extract 0 32=s.data:=by
    have h2:s.data.size=32:=hs;rw[<-h2];exact Array.extract_size
   have h1:=HF.out;rw[R9,Ql,Nat.mul_one,hse]at h1;have HFE:Hid (Four _ _):=h1;clear h1 hse;obtain⟨nc0,nc1,nc2,nc3,nf⟩:=KP.head.at4;obtain⟨rc0,rc1,rc2,rc3,rf⟩:=KP.tail.head.at4;have z1:=KP.head.lt;have z0:=KP.tail.head.lt;clear HF;go_wp2;have RF:=KP.tail.head.at4.self4 a b c d;unfold set4 at RF;refine bodyPost_ret (v:=?v) ?hr rfl ?hR
   case hr=>simp[results,Tryz.results127,go_sem,RF.c0,RF.c1,RF.c2,RF.c3];rfl
   exact⟨_,rfl,aG KP.bl (Oh _) _ _ _ _,HFE.out⟩
theorem KD(w:World)(p0 p1 p2 p3 c0 c1 c2 c3 a b c d p q r s:Nat):
 Kept w w.heap.size [⟨w.heap.size,0,p0,p1,p2,p3⟩,⟨w.heap.size,4,c0,c1,c2,c3⟩,⟨w.heap.size+1,0,a,b,c,d⟩,⟨w.heap.size+1+1,0,p,q,r,s⟩,⟨w.heap.size+1+1+1,0,0,0,0,0⟩]
  ((((w.alloc (.cells #[.int .u64 p0,.int .u64 p1,.int .u64 p2,.int .u64 p3,.int .u64 c0,.int .u64 c1,.int .u64 c2,.int .u64 c3] 56)).alloc (.cells #[.int .u64 a,.int .u64 b,.int .u64 c,.int .u64 d] 52)).alloc (.cells #[.int .u64 p,.int .u64 q,.int .u64 r,.int .u64 s] 52)).alloc (.cells #[.int .u64 0,.int .u64 0,.int .u64 0,.int .u64 0] 52)):=by
 have F:=(((At8.made w 56 p0 p1 p2 p3 c0 c1 c2 c3 rfl).alloc (.cells #[.int .u64 a,.int .u64 b,.int .u64 c,.int .u64 d] 52)).alloc (.cells #[.int .u64 p,.int .u64 q,.int .u64 r,.int .u64 s] 52)).alloc (.cells #[.int .u64 0,.int .u64 0,.int .u64 0,.int .u64 0] 52);refine(((((Kept.mk1 (eN w _ _ _ _) (eN w _ _ _ _).size).cons ?_).cons ?_).cons ?_).cons ?_).cons ?_
 ·exact(At4.made _ 52 0 0 0 0 (by simp)).blk
 ·exact((At4.made _ 52 p q r s (by simp)).alloc _).blk
 ·exact(((At4.made _ 52 a b c d (by simp)).alloc _).alloc _).blk
 ·exact⟨F.c4,F.c5,F.c6,F.c7,F.fz⟩
 ·exact⟨F.c0,F.c1,F.c2,F.c3,F.fz⟩
theorem AW(w:World)(p0 p1 p2 p3 c0 c1 c2 c3 a b c d:Nat):
 Kept w w.heap.size [⟨w.heap.size,0,p0,p1,p2,p3⟩,⟨w.heap.size,4,c0,c1,c2,c3⟩,⟨w.heap.size+1,0,a,b,c,d⟩,⟨w.heap.size+1+1,0,0,0,0,0⟩]
  (((w.alloc (.cells #[.int .u64 p0,.int .u64 p1,.int .u64 p2,.int .u64 p3,.int .u64 c0,.int .u64 c1,.int .u64 c2,.int .u64 c3] 56)).alloc (.cells #[.int .u64 a,.int .u64 b,.int .u64 c,.int .u64 d] 52)).alloc (.cells #[.int .u64 0,.int .u64 0,.int .u64 0,.int .u64 0] 52)):=by
 have F:=((At8.made w 56 p0 p1 p2 p3 c0 c1 c2 c3 rfl).alloc (.cells #[.int .u64 a,.int .u64 b,.int .u64 c,.int .u64 d] 52)).alloc (.cells #[.int .u64 0,.int .u64 0,.int .u64 0,.int .u64 0] 52);refine((((Kept.mk1 (below3 w _ _ _) (below3 w _ _ _).size).cons ?_).cons ?_).cons ?_).cons ?_
 ·exact(At4.made _ 52 0 0 0 0 (by simp)).blk
 ·exact((At4.made _ 52 a b c d (by simp)).alloc _).blk
 ·exact⟨F.c4,F.c5,F.c6,F.c7,F.fz⟩
 ·exact⟨F.c0,F.c1,F.c2,F.c3,F.fz⟩
theorem KE(w:World)(p0 p1 p2 p3 c0 c1 c2 c3:Nat):
 Kept w w.heap.size [⟨w.heap.size,0,p0,p1,p2,p3⟩,⟨w.heap.size,4,c0,c1,c2,c3⟩,⟨w.heap.size+1,0,0,0,0,0⟩] ((w.alloc (.cells #[.int .u64 p0,.int .u64 p1,.int .u64 p2,.int .u64 p3,.int .u64 c0,.int .u64 c1,.int .u64 c2,.int .u64 c3] 56)).alloc (.cells #[.int .u64 0,.int .u64 0,.int .u64 0,.int .u64 0] 52)):=by
 have F:=(At8.made w 56 p0 p1 p2 p3 c0 c1 c2 c3 rfl).alloc (.cells #[.int .u64 0,.int .u64 0,.int .u64 0,.int .u64 0] 52);refine(((Kept.mk1 (below2 w _ _) (below2 w _ _).size).cons ?_).cons ?_).cons ?_
 ·exact(At4.made _ 52 0 0 0 0 (by simp)).blk
 ·exact⟨F.c4,F.c5,F.c6,F.c7,F.fz⟩
 ·exact⟨F.c0,F.c1,F.c2,F.c3,F.fz⟩
theorem kD(p0 p1 p2 p3 c0 c1 c2 c3 P:Nat)(x:ByteArray)(hR:RefP p0 p1 p2 p3 c0 c1 c2 c3 P)(w:World):
 Calls prog 73 #[.agg #[.int .u64 p0,.int .u64 p1,.int .u64 p2,.int .u64 p3,.int .u64 c0,.int .u64 c1,.int .u64 c2,.int .u64 c3],.string x] w (Ret fun e w'=>Below w.heap.size w w'/\∃(a b c d:Nat) (ok:Bool),e=.tuple #[.agg #[.int .u64 a,.int .u64 b,.int .u64 c,.int .u64 d],.bool ok]/\(ok=true->JI P x.data/\Four (.agg #[.int .u64 a,.int .u64 b,.int .u64 c,.int .u64 d]) (beV x.data.toList))/\(ok=false->¬JI P x.data)/\(x.size=32->Four (.agg #[.int .u64 a,.int .u64 b,.int .u64 c,.int .u64 d]) (beV x.data.toList))/\(¬x.size=32->a=0/\b=0/\c=0/\d=0)):=by
 have HR:Hid (RefP p0 p1 p2 p3 c0 c1 c2 c3 P):=hR;clear hR;by_cases hs:x.size=32
 ·have HS:Hid (x.size=32):=hs;have hs':(x.size:Int)=32:=by omega
  clear hs;go_enter Tryz.func73,Tryz.ntmps73;go_wp2_with fail
  have KP:=KE w p0 p1 p2 p3 c0 c1 c2 c3;generalize Pb _ _=W0 at KP⊢;refine(B6 x HS.out _).mono ?_;rintro e w1 ⟨v,rfl,hb1,hF⟩;obtain⟨a,b,c,d,rfl,ha,hb,hc,hd,es⟩:=id hF;have HF:Hid (Four _ _):=hF;replace KP:=KP.call hb1;clear hF es hb1 ha hb hc hd;obtain⟨pc0,pc1,pc2,pc3,pf⟩:=KP.head.at4;have z0:=KP.head.lt;have n0:w.heap.size≠w1.heap.size:=Pv z0;go_wp2_with fail
  refine(Ax _ _ _ _ HF.out (Four.mk HR.out.hp0 HR.out.hp1 HR.out.hp2 HR.out.hp3 HR.out.eP) _).mono ?_;rintro e w2 ⟨v,rfl,hb2,rfl⟩;have KP2:=((KP.alloc (.cells #[.int .u64 a,.int .u64 b,.int .u64 c,.int .u64 d] 52)).cons (At4.made w1 52 a b c d rfl).blk).call hb2;clear hb2 pc0 pc1 pc2 pc3 pf z0 n0;have n4:w.heap.size+1≠w1.heap.size:=Pv KP.tail.tail.head.lt;clear KP;generalize w1.heap.size=k5 at KP2 n4⊢;obtain⟨nc0,nc1,nc2,nc3,nf⟩:=KP2.head.at4;obtain⟨rc0,rc1,rc2,rc3,rf⟩:=KP2.tail.tail.tail.head.at4;have z5:=KP2.head.lt;have z1:=KP2.tail.tail.tail.head.lt;obtain⟨ok,hok⟩:∃ok,decide (beV x.data.toList<P)=ok:=⟨_,rfl⟩
  rw[hok];have HO:Hid (decide (beV x.data.toList<P)=ok):=hok;clear hok;go_wp2;have RF:=KP2.tail.tail.tail.head.at4.self4 a b c d;unfold set4 at RF;refine bodyPost_ret (v:=?v) ?hr rfl ?hR
  case hr=>simp[results,Tryz.results73,go_sem,RF.c0,RF.c1,RF.c2,RF.c3];rfl
  refine⟨_,rfl,aG KP2.bl (Sv _) _ _ _ _,a,b,c,d,ok,rfl,fun h=>⟨⟨HS.out,?_⟩,HF.out⟩,fun h hn=>?_,fun _=>HF.out,fun h=>absurd HS.out h⟩
  ·exact of_decide_eq_true (HO.out.trans h)
  ·have:=HO.out;rw[h]at this;exact of_decide_eq_false this hn.2
 ·have hs':¬(x.size:Int)=32:=by omega
  go_enter Tryz.func73,Tryz.ntmps73;go_wp2;refine bodyPost_ret (v:=?v2) ?hr2 rfl ?hR2
  case hr2=>simp[results,Tryz.results73,go_sem];rfl
  exact⟨_,rfl,below2 _ _ _,0,0,0,0,false,rfl,fun h=>QQ h,fun _ h=>hs h.1,fun h=>absurd h hs,fun _=>⟨rfl,rfl,rfl,rfl⟩⟩
theorem mG(n:Nat)(_:n<18446744073709551616)(w:World):Calls prog 145 #[.int .u64 n] w (Ret fun e w'=>Below w.heap.size w w'/\e=.agg #[.int .u64 n,.int .u64 0,.int .u64 0,.int .u64 0]):=by
 go_enter Tryz.func145,Tryz.ntmps145;go_wp2;refine bodyPost_ret (v:=?v) ?hr rfl ?hR
 case hr=>simp[results,Tryz.results145,go_sem];rfl
 exact⟨_,rfl,aH _ _,rfl⟩
theorem m7(x:Value)(m i:Nat)(hx:Four x m)(hi:i<256)(w:World):Calls prog 101 #[x,.int .i64 i] w (Ret fun e w'=>Below w.heap.size w w'/\∃t:Nat,e=.int .u64 t/\t=m/2^i%2):=by
 obtain⟨a,b,c,d,rfl,ha,hb,hc,hd,em⟩:=id hx;have xw:=(At4.made w 52 a b c d rfl).wd (i/64) (by omega);have hwl:wd a b c d (i/64)<18446744073709551616:=Ee _ ha hb hc hd;have hbit:wd a b c d (i/64)/2^(i%64)%2=m/2^i%2:=by rw[em];exact Ae i hi ha hb hc hd
 have i2:(i:Int).tdiv 64=((i/64:Nat):Int):=by rw[Qq (by omega)];omega
 have i3:(i:Int).tmod 64=((i%64:Nat):Int):=by rw[P8 (by omega)];omega
 have i4:(i/64:Nat)<4:=by omega
 generalize wd a b c d (i/64)=v at xw hwl hbit;have hvl:v/2^(i%64)<18446744073709551616:=S9 (Nat.div_le_self _ _) hwl;have hand:bits .and .u64 ((v:Int)/2^(i%64)) 1=((m/2^i%2:Nat):Int):=by
  have:=and_one (v/2^(i%64)) hvl;rw[hbit]at this;rw[<-this,Sw,Qm];rfl
 obtain⟨t,ht⟩:∃t,m/2^i%2=t:=⟨_,rfl⟩
 rw[ht]at hand;have HT:Hid (t=m/2^i%2):=ht.symm;clear hx em ha hb hc hd hbit ht hvl;go_enter Tryz.func101,Tryz.ntmps101
 go_upto_region 1 with fail
 have zx:w.heap.size<(w.alloc (.cells #[.int .u64 a,.int .u64 b,.int .u64 c,.int .u64 d] 52)).heap.size:=by simp
 have BL:=aH w (.cells #[.int .u64 a,.int .u64 b,.int .u64 c,.int .u64 d] 52);generalize Pb _ _=W0 at xw zx BL⊢;go_wp2;go_ret;exact⟨_,rfl,BL,t,rfl,HT.out⟩
theorem AL(a b:Nat)(ha:a<18446744073709551616)(hb:b<18446744073709551616):∃x:Nat,bits .or .u64 (a:Int) (b:Int)=(x:Int)/\(x=0↔a=0/\b=0)/\x<18446744073709551616:=
 ⟨a ||| b,bits_or_u64_nat a b ha hb,Nat.or_eq_zero_iff,Uy (n:=64) ha hb⟩
theorem oO(x:Value)(m:Nat)(hx:Four x m)(w:World):Calls prog 98 #[x] w (Ret fun e w'=>Below w.heap.size w w'/\e=.bool (decide (m=0))):=by
 obtain⟨a,b,c,d,rfl,ha,hb,hc,hd,em⟩:=id hx;obtain⟨y,o1,z1,l1⟩:=AL a b ha hb;obtain⟨z,o2,z2,l2⟩:=AL y c l1 hc;obtain⟨t,o3,z3,l3⟩:=AL z d l2 hd;have hz:decide (m=0)=decide (t=0):=by
  rw[decide_eq_decide,z3,z2,z1,em];unfold val;omega
 rw[hz];clear z1 z2 z3 hz em hx;go_enter Tryz.func98,Tryz.ntmps98;go_wp2;go_ret;exact⟨_,rfl,aH _ _,by by_cases h:t=0<;>simp[h]⟩
theorem neg_val{P m s k:Nat}(hm:m<P)(_:P<top)(h0:¬m=0)(hs:s<top)(hk:k<=1)(h:s+m=P+top*k):s=(P-m)%P:=by
 have:k=0\/k=1:=by omega
 rw[Oy (by omega)];rcases this with h'|h'<;>rw[h']at h<;>omega
theorem rP(p0 p1 p2 p3 c0 c1 c2 c3 P : Nat)(x : Value)(m : Nat)(hR : RefP p0 p1 p2 p3 c0 c1 c2 c3 P)(hx : Four x m)(hm : m < P)(w : World):
    Calls prog 147 #[.agg #[.int .u64 (p0 : Int), .int .u64 (p1 : Int), .int .u64 (p2 : Int), .int .u64 (p3 : Int), .int .u64 (c0 : Int), .int .u64 (c1 : Int), .int .u64 (c2 : Int), .int .u64 (c3 : Int)], x] w (Ret fun e w' => Below w.heap.size w w' /\ Four e ((P - m) % P)) := by
  have HR : Hid (RefP p0 p1 p2 p3 c0 c1 c2 c3 P) := hR;have HX : Hid (Four x m) := hx;have HM : Hid (m < P) := hm;obtain⟨a, b, c, d, rfl, ha, hb, hc, hd, em⟩ := id hx;clear hR hx hm em ha hb hc hd;go_enter Tryz.func147, Tryz.ntmps147;go_wp2_with fail
  have KP := AW w p0 p1 p2 p3 c0 c1 c2 c3 a b c d;generalize Pb _ _ = W0 at KP⊢;generalize h2 : w.heap.size + 1 + 1 = k2 at KP⊢;generalize h1 : w.heap.size + 1 = k1 at KP⊢;have Q2 : Hid (w.heap.size <= k2) := by unfold Hid; omega
  generalize h0 : w.heap.size = k0 at KP Q2⊢;have H0 : Hid (w.heap.size = k0) := h0;clear h0 h1 h2;refine(oO _ _ HX.out _).mono ?_;rintro e w1 ⟨v, rfl, hb1, rfl⟩;replace KP := KP.call hb1;clear hb1;obtain⟨xc0, xc1, xc2, xc3, xf⟩ := KP.tail.tail.head.at4;have zx := KP.tail.tail.head.lt;by_cases hz : m = 0
  · have hd : decide (m = 0) = true := decide_eq_true hz
    rw [hd];have HZ : Hid (m = 0) := hz;clear hd hz;obtain⟨rc0, rc1, rc2, rc3, rf⟩ := KP.tail.tail.tail.head.at4;have zr := KP.tail.tail.tail.head.lt;go_wp2;have RF := KP.tail.tail.tail.head.at4.self4 a b c d;unfold set4 at RF;refine bodyPost_ret (v := ?v) ?hr rfl ?hR
    case hr => simp [results, Tryz.results147, go_sem, RF.c0, RF.c1, RF.c2, RF.c3]; rfl
    refine⟨_, rfl, by rw [H0.out]; exact aG KP.bl Q2.out _ _ _ _, ?_⟩;have h1 := HX.out;rw [HZ.out]at h1⊢;rw [So, Nat.mod_self];exact h1
  · have hd : decide (m = 0) = false := decide_eq_false hz
    rw [hd];have HZ : Hid (¬m = 0) := hz;clear hd hz;obtain⟨fc0, fc1, fc2, fc3, ff⟩ := KP.head.at4;have zf := KP.head.lt;go_wp2_with fail
    refine(lD _ _ _ _ (Four.mk HR.out.hp0 HR.out.hp1 HR.out.hp2 HR.out.hp3 HR.out.eP) HX.out _).mono ?_;rintro e w2 ⟨v, rfl, hb2, v2, t, k, rfl, hF, hk, he⟩;have HF : Hid (Four v2 ((P - m) % P)) := by
      have h1 := neg_val HM.out (by have h3 := HR.out.hP; have h4 := HR.out.hP2; have h5 := HM.out; have h6 : 0 < val c0 c1 c2 c3 ∨ val c0 c1 c2 c3 = 0 := by omega
                                    rcases h6 with h6 | h6
                                    · omega
                                    · have h7 : Four (.agg #[.int .u64 (p0 : Int), .int .u64 (p1 : Int), .int .u64 (p2 : Int), .int .u64 (p3 : Int)]) P := Four.mk HR.out.hp0 HR.out.hp1 HR.out.hp2 HR.out.hp3 HR.out.eP
                                      exact h7.lt) HZ.out hF.lt hk he
      rw [<-h1]; exact hF
    obtain⟨ra, rb, rc, rd, rfl, -⟩ := id hF;replace KP := KP.call hb2;clear hb2 xc0 xc1 xc2 xc3 xf zx fc0 fc1 fc2 fc3 ff zf hF he;obtain⟨rc0, rc1, rc2, rc3, rf⟩ := KP.tail.tail.tail.head.at4;have zr := KP.tail.tail.tail.head.lt;have nr : k2 ≠ w2.heap.size := Pv zr;go_wp2;have RF := (KP.tail.tail.tail.head.at4.self4 ra rb rc rd).alloc (.cells #[.int .u64 (ra : Int), .int .u64 (rb : Int), .int .u64 (rc : Int), .int .u64 (rd : Int)] 52);unfold set4 at RF;refine bodyPost_ret (v := ?v2) ?hr2 rfl ?hR2
    case hr2 => simp [results, Tryz.results147, go_sem, RF.c0, RF.c1, RF.c2, RF.c3]; rfl
    refine⟨_, rfl, ?_, HF.out⟩;rw [H0.out];exact(aG KP.bl Q2.out _ _ _ _).alloc (by simpa [set4]using KP.le) _
theorem uFq:(prog.underlying 56).map (·.isRow)=some true:=by kernel_rfl
theorem iFq:(prog.info? 56).map (·.size)=some 8:=by kernel_rfl
def rl1:List Value:=[.int .u64 13822214165235122497,.int .u64 13451932020343611451,.int .u64 18446744073709551614,.int .u64 18446744073709551615,.int .u64 4624529908474429119,.int .u64 4994812053365940164,.int .u64 1,.int .u64 0]
def rv1:Value:=.agg rl1.toArray
theorem EQ:Gives 74 #[.int .i64 1] rv1:=fun w=>(Kc w).mono (by rintro e w' ⟨v,rfl,hb,rfl⟩;exact⟨_,rfl,hb,rfl⟩)
theorem I5:Gives 26 #[] rv1:=by
 intro w;go_enter Tryz.func26,Tryz.ntmps26;refine RG.M.enter [] 2 (by kernel_rfl) ?_;intro a0 M0;repeat refine wp_seq ?_
 refine M0.t [.m 0 [] 0] [(0,(RG.z 8))] [] [(RG.z 8)] [(0,(.p 0 0))] ⟨RG.mk 0 56,trivial⟩ ?_;intro j1 a1 w1 M1;repeat refine wp_seq ?_
 refine M1.t [.c 1 [] rv1,.u [(1,0)] 0] [] [(0,1,rl1)] [rl1] [(0,(.p 0 0))] ⟨RG.cl (EQ),RG.pt iFq,trivial⟩ ?_;intro a2 w2 M2;refine wp_ret ?_;refine bodyPost_ret (v:=rv1) (RG.aF M2.st 0 56 rfl 0 _ rfl (M2.at (s:=(.p 0 0))) uFq iFq) M2.sl.defers ?_;exact⟨_,rfl,M2.st.bel.below,rfl⟩
def nuV(bs:Bs):Nat:=if bs.size=32 then beV bs.toList else 0
theorem J8{N:Nat}(hR:RefP 13822214165235122497 13451932020343611451 18446744073709551614 18446744073709551615 4624529908474429119 4994812053365940164 1 0 N)(s:ByteArray):Gives 73 #[rv1,.string s] (.tuple #[nv (nuV s.data),.bool (rq N s.data).isSome]):=fun w =>
 (kD _ _ _ _ _ _ _ _ N s hR w).mono (by
  rintro e w' ⟨v,rfl,hb,a,b,c,d,ok,rfl,h1,h2,h3,h4⟩;refine⟨_,rfl,hb,?_⟩;unfold nuV rq;cases ok with
  | true =>
   obtain⟨hi,hF⟩:=h1 rfl;rw[if_pos (show s.data.size=32/\beV s.data.toList<N from hi),if_pos (show s.data.size=32 from hi.1),hF.nv];rfl
  | false =>
   rw[if_neg (show ¬(s.data.size=32/\beV s.data.toList<N) from h2 rfl)];by_cases hs:s.data.size=32
   ·rw[if_pos hs,(h3 hs).nv];rfl
   ·rw[if_neg hs];obtain⟨rfl,rfl,rfl,rfl⟩:=h4 hs;rfl)
theorem xO{N:Nat}{bs:Bs}{n:Nat}(h:rq N bs=some n):n=nuV bs:=by
 unfold rq at h;split at h
 ·rename_i hc
  unfold nuV;rw[if_pos hc.1];exact(Option.some.inj h).symm
 ·cases h
theorem Ay{p0 p1 p2 p3 c0 c1 c2 c3 P:Nat}{x y:Value}{m n:Nat}(hR:RefP p0 p1 p2 p3 c0 c1 c2 c3 P)(hx:Four x m)(hy:Four y n)(w:World):
 Calls prog 31 #[.agg #[.int .u64 p0,.int .u64 p1,.int .u64 p2,.int .u64 p3,.int .u64 c0,.int .u64 c1,.int .u64 c2,.int .u64 c3],x,y] w (Ret fun e w'=>Below w.heap.size w w'/\Four e ((m+n)%P)):=
 ET p0 p1 p2 p3 c0 c1 c2 c3 P x y m n hR.hp0 hR.hp1 hR.hp2 hR.hp3 hR.hc0 hR.hc1 hR.hc2 hR.hc3 hR.eP hR.hP hR.hP2 hx hy w
theorem oQ{p0 p1 p2 p3 c0 c1 c2 c3 P:Nat}{x y:Value}{m n:Nat}(hR:RefP p0 p1 p2 p3 c0 c1 c2 c3 P)(hx:Four x m)(hy:Four y n)(w:World):
 Calls prog 32 #[.agg #[.int .u64 p0,.int .u64 p1,.int .u64 p2,.int .u64 p3,.int .u64 c0,.int .u64 c1,.int .u64 c2,.int .u64 c3],x,y] w (Ret fun e w'=>Below w.heap.size w w'/\Four e (m*n%P)):=
 EO p0 p1 p2 p3 c0 c1 c2 c3 P x y m n hR.hp0 hR.hp1 hR.hp2 hR.hp3 hR.hc0 hR.hc1 hR.hc2 hR.hc3 hR.eP hR.hP hR.hP2 hx hy w
theorem GQ{P m n:Nat}(hn:n<P):(m+(P-n)%P)%P=(m+P-n)%P:=by
 rw[RY,Nat.mod_mod,<-RY,show m+P-n=m+(P-n) by omega]
theorem EN(p0 p1 p2 p3 c0 c1 c2 c3 P:Nat)(x y:Value)(m n:Nat)(hR:RefP p0 p1 p2 p3 c0 c1 c2 c3 P)(hx:Four x m)(hy:Four y n)(hn:n<P)(w:World):
 Calls prog 100 #[.agg #[.int .u64 p0,.int .u64 p1,.int .u64 p2,.int .u64 p3,.int .u64 c0,.int .u64 c1,.int .u64 c2,.int .u64 c3],x,y] w (Ret fun e w'=>Below w.heap.size w w'/\Four e ((m+P-n)%P)):=by
 obtain⟨a,b,c,d,rfl,ha,hb,hc,hd,em⟩:=id hx;obtain⟨p,q,r,s,rfl,hp,hq,hr,hs,en⟩:=id hy;have HX:Hid (Four _ _):=hx;have HY:Hid (Four _ _):=hy;have HR:Hid (RefP p0 p1 p2 p3 c0 c1 c2 c3 P):=hR;have HN:Hid (n<P):=hn;clear em en hx hy ha hb hc hd hp hq hr hs hR hn;go_enter Tryz.func100,Tryz.ntmps100;go_wp2_with fail
 have FR:=((((At8.made w 56 p0 p1 p2 p3 c0 c1 c2 c3 rfl).alloc (.cells #[.int .u64 a,.int .u64 b,.int .u64 c,.int .u64 d] 52)).alloc (.cells #[.int .u64 p,.int .u64 q,.int .u64 r,.int .u64 s] 52)).alloc (.cells #[.int .u64 0,.int .u64 0,.int .u64 0,.int .u64 0] 52))
 have X:=(((At4.made (w.alloc (.cells #[.int .u64 p0,.int .u64 p1,.int .u64 p2,.int .u64 p3,.int .u64 c0,.int .u64 c1,.int .u64 c2,.int .u64 c3] 56)) 52 a b c d (Oo _ _)).alloc (.cells #[.int .u64 p,.int .u64 q,.int .u64 r,.int .u64 s] 52)).alloc (.cells #[.int .u64 0,.int .u64 0,.int .u64 0,.int .u64 0] 52))
 have Y:=((At4.made ((w.alloc (.cells #[.int .u64 p0,.int .u64 p1,.int .u64 p2,.int .u64 p3,.int .u64 c0,.int .u64 c1,.int .u64 c2,.int .u64 c3] 56)).alloc (.cells #[.int .u64 a,.int .u64 b,.int .u64 c,.int .u64 d] 52)) 52 p q r s (k:=w.heap.size+1+1) (by simp)).alloc (.cells #[.int .u64 0,.int .u64 0,.int .u64 0,.int .u64 0] 52))
 have T3:=At4.made (((w.alloc (.cells #[.int .u64 p0,.int .u64 p1,.int .u64 p2,.int .u64 p3,.int .u64 c0,.int .u64 c1,.int .u64 c2,.int .u64 c3] 56)).alloc (.cells #[.int .u64 a,.int .u64 b,.int .u64 c,.int .u64 d] 52)).alloc (.cells #[.int .u64 p,.int .u64 q,.int .u64 r,.int .u64 s] 52)) 52 0 0 0 0 (k:=w.heap.size+1+1+1) (by simp);have KP:=((((Kept.mk1 (eN w (.cells #[.int .u64 p0,.int .u64 p1,.int .u64 p2,.int .u64 p3,.int .u64 c0,.int .u64 c1,.int .u64 c2,.int .u64 c3] 56) (.cells #[.int .u64 a,.int .u64 b,.int .u64 c,.int .u64 d] 52) (.cells #[.int .u64 p,.int .u64 q,.int .u64 r,.int .u64 s] 52) (.cells #[.int .u64 0,.int .u64 0,.int .u64 0,.int .u64 0] 52)) (eN w (.cells #[.int .u64 p0,.int .u64 p1,.int .u64 p2,.int .u64 p3,.int .u64 c0,.int .u64 c1,.int .u64 c2,.int .u64 c3] 56) (.cells #[.int .u64 a,.int .u64 b,.int .u64 c,.int .u64 d] 52) (.cells #[.int .u64 p,.int .u64 q,.int .u64 r,.int .u64 s] 52) (.cells #[.int .u64 0,.int .u64 0,.int .u64 0,.int .u64 0] 52)).size).cons Y.blk).cons X.blk).cons (x:=⟨w.heap.size,4,c0,c1,c2,c3⟩) ⟨FR.c4,FR.c5,FR.c6,FR.c7,FR.fz⟩).cons (x:=⟨w.heap.size,0,p0,p1,p2,p3⟩) ⟨FR.c0,FR.c1,FR.c2,FR.c3,FR.fz⟩;simp only[OY]at T3;clear FR X Y;generalize Pb _ _=W0 at KP T3⊢;generalize h3:w.heap.size+1+1+1=k3 at T3⊢;generalize h2:w.heap.size+1+1=k2 at KP⊢;generalize h1:w.heap.size+1=k1 at KP⊢;have Q3:Hid (w.heap.size<=k3):=by unfold Hid;omega
 generalize h0:w.heap.size=k0 at KP Q3⊢;have H0:Hid (w.heap.size=k0):=h0;have hl3:∀x∈([⟨k0,0,p0,p1,p2,p3⟩,⟨k0,4,c0,c1,c2,c3⟩,⟨k1,0,a,b,c,d⟩,⟨k2,0,p,q,r,s⟩]:List Blk),k3≠x.k:=by simp only[Pg,OD,or_false];rintro x (rfl|rfl|rfl|rfl)<;>simp only<;>omega
 clear h0 h1 h2 h3;obtain⟨tc0,tc1,tc2,tc3,tf⟩:=id T3;have zt:=T3.lt;go_region_held3 (fun w'=>w'.cell? ⟨k0,0,none⟩=some (.int .u64 p0)/\w'.cell? ⟨k0,1,none⟩=some (.int .u64 p1)/\w'.cell? ⟨k0,2,none⟩=some (.int .u64 p2)/\w'.cell? ⟨k0,3,none⟩=some (.int .u64 p3)/\w'.cell? ⟨k0,4,none⟩=some (.int .u64 c0)/\w'.cell? ⟨k0,5,none⟩=some (.int .u64 c1)/\w'.cell? ⟨k0,6,none⟩=some (.int .u64 c2)/\w'.cell? ⟨k0,7,none⟩=some (.int .u64 c3)/\w'.cell? ⟨k1,0,none⟩=some (.int .u64 a)/\w'.cell? ⟨k1,1,none⟩=some (.int .u64 b)/\w'.cell? ⟨k1,2,none⟩=some (.int .u64 c)/\w'.cell? ⟨k1,3,none⟩=some (.int .u64 d)/\w'.cell? ⟨k2,0,none⟩=some (.int .u64 p)/\w'.cell? ⟨k2,1,none⟩=some (.int .u64 q)/\w'.cell? ⟨k2,2,none⟩=some (.int .u64 r)/\w'.cell? ⟨k2,3,none⟩=some (.int .u64 s)/\Kept w k0 [⟨k0,0,p0,p1,p2,p3⟩,⟨k0,4,c0,c1,c2,c3⟩,⟨k1,0,a,b,c,d⟩,⟨k2,0,p,q,r,s⟩] w') (first|(with_reducible exact dM KP)|(with_reducible exact dM KP.drew)|(with_reducible exact dM (KP.set4' Q3.out hl3 _ _ _ _))|(with_reducible exact dM (KP.set4' Q3.out hl3 _ _ _ _).drew)|fail) (first|(go_at_call 147;refine(rP p0 p1 p2 p3 c0 c1 c2 c3 P _ _ HR.out HY.out HN.out _).mono ?_;rintro e w1 ⟨v,rfl,hb1,hE1⟩;obtain⟨x0,x1,x2,x3,rfl,-⟩:=id hE1;have HE1:Hid (Four _ _):=hE1;clear hE1;have KP1:=KP.drew.call hb1;have T1:=T3.drew.call hb1;clear KP T3 hb1;have KP:=KP1;have T3:=T1;clear KP1 T1;obtain⟨tc0,tc1,tc2,tc3,tf⟩:=id T3;have zt:=T3.lt)|(go_at_call 31;refine(Ay HR.out HX.out HE1.out _).mono ?_;rintro e w2 ⟨v,rfl,hb2,hF3⟩;rw[GQ HN.out]at hF3;obtain⟨a',b',c',d',rfl,ha',hb',hc',hd',es3⟩:=id hF3;clear es3;have HF3:Hid (Four _ _):=hF3;clear hF3;have KP1:=KP.call hb2;have T1:=T3.call hb2;clear KP T3 hb2;have KP:=KP1;have T3:=T1;clear KP1 T1;obtain⟨tc0,tc1,tc2,tc3,tf⟩:=id T3;have zt:=T3.lt))
 go_wp2;have RF:=T3.self4 a' b' c' d';unfold set4 at RF;refine bodyPost_ret (v:=?v) ?hr rfl ?hR
 case hr=>simp[results,Tryz.results100,go_sem,RF.c0,RF.c1,RF.c2,RF.c3];rfl
 refine⟨_,rfl,?_,HF3.out⟩;rw[H0.out];exact aG KP.bl Q3.out _ _ _ _
theorem xZ(p0 p1 p2 p3 c0 c1 c2 c3 P:Nat)(x y:Value)(m n:Nat)(hR:RefP p0 p1 p2 p3 c0 c1 c2 c3 P)(hx:Four x m)(hy:Four y n)(w:World):
 Calls prog 135 #[.agg #[.int .u64 p0,.int .u64 p1,.int .u64 p2,.int .u64 p3,.int .u64 c0,.int .u64 c1,.int .u64 c2,.int .u64 c3],x,y] w (Ret fun e w'=>Below w.heap.size w w'/\Four e (m^n%P)):=by
 obtain⟨a,b,c,d,rfl,ha,hb,hc,hd,em⟩:=id hx;obtain⟨p,q,r,s,rfl,hp,hq,hr,hs,en⟩:=id hy;have HX:Hid (Four _ _):=hx;have HY:Hid (Four _ _):=hy;have HR:Hid (RefP p0 p1 p2 p3 c0 c1 c2 c3 P):=hR;clear em en hx hy ha hb hc hd hp hq hr hs hR;go_enter Tryz.func135,Tryz.ntmps135;go_wp2_with fail
 have KP:=KD w p0 p1 p2 p3 c0 c1 c2 c3 a b c d p q r s;generalize Pb _ _=W0 at KP⊢;generalize h3:w.heap.size+1+1+1=k3 at KP⊢;generalize h2:w.heap.size+1+1=k2 at KP⊢;generalize h1:w.heap.size+1=k1 at KP⊢;have Q3:Hid (w.heap.size<=k3):=by unfold Hid;omega
 generalize h0:w.heap.size=k0 at KP Q3⊢;have H0:Hid (w.heap.size=k0):=h0;clear h0 h1 h2 h3;refine(mG 1 (by decide) _).mono ?_;rintro e w1 ⟨v,rfl,hb1,rfl⟩;replace KP:=KP.call hb1;clear hb1;go_wp2;have KN:Kept w k0 (⟨w1.heap.size,0,1,0,0,0⟩ :: [⟨k0,0,p0,p1,p2,p3⟩,⟨k0,4,c0,c1,c2,c3⟩,⟨k1,0,a,b,c,d⟩,⟨k2,0,p,q,r,s⟩,⟨k3,0,0,0,0,0⟩]) _:=(KP.alloc (.cells #[.int .u64 1,.int .u64 0,.int .u64 0,.int .u64 0] 52)).cons (At4.made w1 52 1 0 0 0 rfl).blk;have Q7:Hid (k0<=w1.heap.size):=KP.le;have hlt:=KP.lts;clear KP;generalize Pb _ _=W1 at KN⊢;generalize w1.heap.size=k7 at KN hlt Q7⊢;have hl7:∀x∈([⟨k0,0,p0,p1,p2,p3⟩,⟨k0,4,c0,c1,c2,c3⟩,⟨k1,0,a,b,c,d⟩,⟨k2,0,p,q,r,s⟩,⟨k3,0,0,0,0,0⟩]:List Blk),k7≠x.k:=fun x hx=>Pq (hlt x hx)
 have n70:k7≠k0:=hl7 _ (List.mem_cons_self);have n71:k7≠k1:=hl7 ⟨k1,0,a,b,c,d⟩ (by simp);have n72:k7≠k2:=hl7 ⟨k2,0,p,q,r,s⟩ (by simp);have n73:k7≠k3:=hl7 ⟨k3,0,0,0,0,0⟩ (by simp);clear hlt;go_loopg [8] 256 (fun gk s8 wr=>gk<=256/\s8=.int .i64 ((gk:Int)-1)/\∃na nb nc nd:Nat,Kept w k0 (⟨k7,0,na,nb,nc,nd⟩ :: [⟨k0,0,p0,p1,p2,p3⟩,⟨k0,4,c0,c1,c2,c3⟩,⟨k1,0,a,b,c,d⟩,⟨k2,0,p,q,r,s⟩,⟨k3,0,0,0,0,0⟩]) wr/\Hid (Four (.agg #[.int .u64 na,.int .u64 nb,.int .u64 nc,.int .u64 nd]) (m^(n/2^gk)%P)))
 case atStart =>
  refine⟨Oh _,rfl,1,0,0,0,KN,?_⟩;have h1:=HR.out.hP2;have h2:3<top:=by decide
  rw[show n/2^256=0 from Nat.div_eq_of_lt HY.out.lt,Ql,Oy (by omega)];exact Four.mk (by decide) (by decide) (by decide) (by decide) rfl
 case round =>
  clear KN;obtain⟨hg,rfl,na,nb,nc,nd,KP,HF⟩:=hrel;obtain⟨tc0,tc1,tc2,tc3,tf⟩:=KP.head.at4;have zt:=KP.head.lt;by_cases hz:gk=0
  ·subst hz;have HF0:=HF.out;rw[Ql,TA]at HF0;have HFE:Hid (Four _ _):=HF0;clear HF0 HF;obtain⟨rc0,rc1,rc2,rc3,rf⟩:=KP.tail.tail.tail.tail.tail.head.at4;have zr:=KP.tail.tail.tail.tail.tail.head.lt;go_wp2;have RF:=KP.tail.tail.tail.tail.tail.head.at4.self4 na nb nc nd;unfold set4 at RF;refine bodyPost_ret (v:=?v) ?hr rfl ?hR
   case hr=>simp[results,Tryz.results135,go_sem,RF.c0,RF.c1,RF.c2,RF.c3];rfl
   refine⟨_,rfl,?_,HFE.out⟩;rw[H0.out];exact aG KP.bl Q3.out _ _ _ _
  ·obtain⟨i,hi⟩:∃i,gk=i+1:=⟨gk-1,by omega⟩
   have e1:(gk:Int)-1=(i:Int):=by omega
   rw[e1];have d1:(0:Int)<=(i:Int):=by omega
   have hi2:i<256:=by omega
   obtain⟨E,hE⟩:∃E,n/2^gk=E:=⟨_,rfl⟩
   rw[hE]at HF;rw[hi]at hE;have HE:Hid (n/2^(i+1)=E):=hE;have HI:Hid (gk=i+1):=hi;clear hE hi e1;obtain⟨fc0,fc1,fc2,fc3,ff⟩:=KP.tail.head.at4;have fb:=KP.tail.tail.head;obtain⟨fd0,fd1,fd2,fd3,fg⟩:=id fb;replace fd0:wr.cell? ⟨k0,4,none⟩=some (.int .u64 c0):=fd0;replace fd1:wr.cell? ⟨k0,5,none⟩=some (.int .u64 c1):=fd1;replace fd2:wr.cell? ⟨k0,6,none⟩=some (.int .u64 c2):=fd2;replace fd3:wr.cell? ⟨k0,7,none⟩=some (.int .u64 c3):=fd3;have zf:=KP.tail.head.lt;go_wp2_with fail
   clear tc0 tc1 tc2 tc3 tf zt fc0 fc1 fc2 fc3 ff fb fd0 fd1 fd2 fd3 fg zf;refine(oQ HR.out HF.out HF.out _).mono ?_;rintro e w2 ⟨v,rfl,hb2,hF3⟩;rw[eY]at hF3;obtain⟨ya,yb,yc,yd,rfl,-⟩:=id hF3;clear HF;have HF:Hid (Four _ _):=hF3;clear hF3;replace KP:=KP.call hb2;clear hb2;obtain⟨tc0,tc1,tc2,tc3,tf⟩:=KP.head.at4;have zt:=KP.head.lt;obtain⟨ec0,ec1,ec2,ec3,ef⟩:=KP.tail.tail.tail.tail.head.at4;have ze:=KP.tail.tail.tail.tail.head.lt;go_wp2_with fail
   clear tc0 tc1 tc2 tc3 tf zt ec0 ec1 ec2 ec3 ef ze;have KP2:=KP.put Q7.out hl7 ya yb yc yd;clear KP;generalize Px _ _ _=WX at KP2⊢;refine(m7 _ _ i HY.out hi2 _).mono ?_;rintro e w3 ⟨v,rfl,hb3,t,rfl,ht⟩;have KP:=KP2.call hb3;have HT:Hid (t=n/2^i%2):=ht;have ht2:t=0\/t=1:=by omega
   clear hb3 KP2 ht;rcases ht2 with rfl|rfl
   ·go_wp2;go_roundg (gk-1)
    case measure=>omega
    case rel =>
     refine⟨by omega,?_,ya,yb,yc,yd,KP,?_⟩
     ·have:=HI.out
      congr 1
      omega
     ·have h1:=HF.out;unfold Hid;rw[HI.out,Uq,wK n i,HE.out,<-HT.out,P9];exact h1
   ·obtain⟨tc0,tc1,tc2,tc3,tf⟩:=KP.head.at4;have zt:=KP.head.lt;obtain⟨ac0,ac1,ac2,ac3,af⟩:=KP.tail.tail.tail.head.at4;have za:=KP.tail.tail.tail.head.lt;obtain⟨fc0,fc1,fc2,fc3,ff⟩:=KP.tail.head.at4;have fb:=KP.tail.tail.head;obtain⟨fd0,fd1,fd2,fd3,fg⟩:=id fb;replace fd0:w3.cell? ⟨k0,4,none⟩=some (.int .u64 c0):=fd0;replace fd1:w3.cell? ⟨k0,5,none⟩=some (.int .u64 c1):=fd1;replace fd2:w3.cell? ⟨k0,6,none⟩=some (.int .u64 c2):=fd2;replace fd3:w3.cell? ⟨k0,7,none⟩=some (.int .u64 c3):=fd3;have zf:=KP.tail.head.lt;go_wp2_with fail
    clear tc0 tc1 tc2 tc3 tf zt fc0 fc1 fc2 fc3 ff fb fd0 fd1 fd2 fd3 fg zf ac0 ac1 ac2 ac3 af za;refine(oQ HR.out HF.out HX.out _).mono ?_;rintro e w4 ⟨v,rfl,hb4,hF3⟩;rw[m9]at hF3;obtain⟨ua,ub,uc,ud,rfl,-⟩:=id hF3;clear HF;have HF:Hid (Four _ _):=hF3;clear hF3;replace KP:=KP.call hb4;clear hb4;obtain⟨tc0,tc1,tc2,tc3,tf⟩:=KP.head.at4;have zt:=KP.head.lt;go_wp2;go_roundg (gk-1)
    case measure=>omega
    case rel =>
     refine⟨by omega,?_,ua,ub,uc,ud,KP.put Q7.out hl7 ua ub uc ud,?_⟩
     ·have:=HI.out
      congr 1
      omega
     ·have h1:=HF.out;unfold Hid;rw[HI.out,Uq,wK n i,HE.out,<-HT.out];exact h1
theorem ES(p0 p1 p2 p3 c0 c1 c2 c3 P:Nat)(x:Value)(m:Nat)(hR:RefP p0 p1 p2 p3 c0 c1 c2 c3 P)(hx:Four x m)(w:World):
 Calls prog 82 #[.agg #[.int .u64 p0,.int .u64 p1,.int .u64 p2,.int .u64 p3,.int .u64 c0,.int .u64 c1,.int .u64 c2,.int .u64 c3],x] w (Ret fun e w'=>Below w.heap.size w w'/\Four e (m^(P-2)%P)):=by
 have HR:Hid (RefP p0 p1 p2 p3 c0 c1 c2 c3 P):=hR;have HX:Hid (Four x m):=hx;obtain⟨a,b,c,d,rfl,ha,hb,hc,hd,em⟩:=id hx;clear hR hx em ha hb hc hd;go_enter Tryz.func82,Tryz.ntmps82;go_wp2_with fail
 have KP:=AW w p0 p1 p2 p3 c0 c1 c2 c3 a b c d;generalize Pb _ _=W0 at KP⊢;generalize h2:w.heap.size+1+1=k2 at KP⊢;generalize h1:w.heap.size+1=k1 at KP⊢;have Q2:Hid (w.heap.size<=k2):=by unfold Hid;omega
 generalize h0:w.heap.size=k0 at KP Q2⊢;have H0:Hid (w.heap.size=k0):=h0;clear h0 h1 h2;have hP4:Four (.agg #[.int .u64 p0,.int .u64 p1,.int .u64 p2,.int .u64 p3]) P:=Four.mk HR.out.hp0 HR.out.hp1 HR.out.hp2 HR.out.hp3 HR.out.eP;refine(lD _ _ P 2 hP4 (Four.mk (a:=2) (b:=0) (c:=0) (d:=0) (by decide) (by decide) (by decide) (by decide) rfl) _).mono ?_;rintro e w1 ⟨v,rfl,hb1,v2,t,k,rfl,hF,hk,he⟩;have ht:t=P-2:=by
  have h1:=hF.lt;have h2:=hP4.lt;have h3:=HR.out.hP2;have h4:3<top:=by decide
  have:k=0\/k=1:=by omega
  rcases this with h|h<;>rw[h]at he<;>omega
 have HE:Hid (Four v2 (P-2)):=by unfold Hid;rw[<-ht];exact hF
 obtain⟨ea,eb,ec,ed,rfl,-⟩:=id hF;replace KP:=KP.call hb1;clear hb1 hF ht he hP4;obtain⟨xc0,xc1,xc2,xc3,xf⟩:=KP.tail.tail.head.at4;have zx:=KP.tail.tail.head.lt;obtain⟨fc0,fc1,fc2,fc3,ff⟩:=KP.head.at4;have fb:=KP.tail.head;obtain⟨fd0,fd1,fd2,fd3,fg⟩:=id fb;replace fd0:w1.cell? ⟨k0,4,none⟩=some (.int .u64 c0):=fd0;replace fd1:w1.cell? ⟨k0,5,none⟩=some (.int .u64 c1):=fd1;replace fd2:w1.cell? ⟨k0,6,none⟩=some (.int .u64 c2):=fd2;replace fd3:w1.cell? ⟨k0,7,none⟩=some (.int .u64 c3):=fd3;have zf:=KP.head.lt;have n0:k0≠w1.heap.size:=Pv zf;have n1:k1≠w1.heap.size:=Pv zx;go_wp2_with fail
 clear xc0 xc1 xc2 xc3 xf zx fc0 fc1 fc2 fc3 ff fb fd0 fd1 fd2 fd3 fg zf n0 n1;refine(xZ p0 p1 p2 p3 c0 c1 c2 c3 P _ _ _ _ HR.out HX.out HE.out _).mono ?_;rintro e w2 ⟨v,rfl,hb2,hF⟩;replace KP:=(KP.alloc _).call hb2;clear hb2;obtain⟨qa,qb,qc,qd,rfl,-⟩:=id hF;have HF:Hid (Four _ _):=hF;clear hF;obtain⟨rc0,rc1,rc2,rc3,rf⟩:=KP.tail.tail.tail.head.at4;have zr:=KP.tail.tail.tail.head.lt;go_wp2;have RF:=KP.tail.tail.tail.head.at4.self4 qa qb qc qd;unfold set4 at RF;refine bodyPost_ret (v:=?v) ?hr rfl ?hR
 case hr=>simp[results,Tryz.results82,go_sem,RF.c0,RF.c1,RF.c2,RF.c3];rfl
 refine⟨_,rfl,?_,HF.out⟩;rw[H0.out];exact aG KP.bl Q2.out _ _ _ _
theorem Io(v t r:Nat)(hr:r<64)(hv:v<2^r)(ht:t<2):bits .or .u64 (v:Int) ((t*2^r:Nat):Int)=((v+t*2^r:Nat):Int)/\v+t*2^r<18446744073709551616:=by
 have h1:2^r<=2^63:=Qk (by decide) (by omega);have h2:t*2^r<=1*2^r:=Nat.mul_le_mul_right _ (by omega);have h3:(2:Nat)^63=9223372036854775808:=by decide
 have e:=Nat.two_pow_add_eq_or_of_lt hv t;refine⟨?_,by omega⟩;rw[bits_or_u64_nat _ _ (by omega) (by omega),Nat.or_comm,OX t,<-e,Nat.add_comm]
theorem AB{a b c d Q i:Nat}(ha:a<18446744073709551616)(hb:b<18446744073709551616)(hc:c<18446744073709551616)(hd:d<18446744073709551616)(hi:i<256)(hv:val a b c d=Q%2^i):wd a b c d (i/64)<2^(i%64):=by
 rw[Ef (i/64) (by omega) ha hb hc hd,hv];refine S9 (Nat.mod_le _ _) ?_;refine Nat.div_lt_of_lt_mul ?_;rw[<-P6,show 64*(i/64)+i%64=i by omega];exact Qf _ (S2 (by decide))
theorem AC{a b c d Q i t o:Nat}(hi:i<256)(hv:val a b c d=Q%2^i)(ht:t=Q/2^i%2)(ho:o=wd a b c d (i/64)+t*2^(i%64)):
 val (if i/64=0 then o else a) (if i/64=1 then o else b) (if i/64=2 then o else c) (if i/64=3 then o else d)=Q%2^(i+1):=by
 have h:=BK a b c d (i/64) o (by omega);have e:(2:Nat)^i=2^(64*(i/64))*2^(i%64):=by
  rw[<-P6,show 64*(i/64)+i%64=i by omega]
 rw[ho,Qr,<-P5,OX (2^(64*(i/64))) t,P5,<-e]at h;rw[ho,PQ,Nat.mod_mul,<-ht,OX (2^i)];omega
theorem rB{w W:World}{k0 k1 k2 k3 j v p0 p1 p2 p3 c0 c1 c2 c3 a b c d qa qb qc qd:Nat}(h:Kept w k0 (⟨k3,0,qa,qb,qc,qd⟩ :: [⟨k0,0,p0,p1,p2,p3⟩,⟨k0,4,c0,c1,c2,c3⟩,⟨k1,0,a,b,c,d⟩,⟨k2,0,0,0,0,0⟩]) W)(hx:W.cell? ⟨k3,j,none⟩=some (.int .u64 v)):W.cell? ⟨k0,0,none⟩=some (.int .u64 p0)/\W.cell? ⟨k0,1,none⟩=some (.int .u64 p1)/\W.cell? ⟨k0,2,none⟩=some (.int .u64 p2)/\W.cell? ⟨k0,3,none⟩=some (.int .u64 p3)/\W.cell? ⟨k3,j,none⟩=some (.int .u64 v)/\Kept w k0 (⟨k3,0,qa,qb,qc,qd⟩ :: [⟨k0,0,p0,p1,p2,p3⟩,⟨k0,4,c0,c1,c2,c3⟩,⟨k1,0,a,b,c,d⟩,⟨k2,0,0,0,0,0⟩]) W:=
 ⟨h.tail.head.c0,h.tail.head.c1,h.tail.head.c2,h.tail.head.c3,hx,h⟩
theorem qH{w W:World}{k0 k1 k2 k8 p0 p1 p2 p3 c0 c1 c2 c3 a b c d ra rb rc rd:Nat}(h:Kept w k0 (⟨k8,0,ra,rb,rc,rd⟩ :: [⟨k0,0,p0,p1,p2,p3⟩,⟨k0,4,c0,c1,c2,c3⟩,⟨k1,0,a,b,c,d⟩,⟨k2,0,0,0,0,0⟩]) W):W.cell? ⟨k0,0,none⟩=some (.int .u64 p0)/\W.cell? ⟨k0,1,none⟩=some (.int .u64 p1)/\W.cell? ⟨k0,2,none⟩=some (.int .u64 p2)/\W.cell? ⟨k0,3,none⟩=some (.int .u64 p3)/\W.cell? ⟨k0,4,none⟩=some (.int .u64 c0)/\W.cell? ⟨k0,5,none⟩=some (.int .u64 c1)/\W.cell? ⟨k0,6,none⟩=some (.int .u64 c2)/\W.cell? ⟨k0,7,none⟩=some (.int .u64 c3)/\W.cell? ⟨k8,0,none⟩=some (.int .u64 ra)/\W.cell? ⟨k8,1,none⟩=some (.int .u64 rb)/\W.cell? ⟨k8,2,none⟩=some (.int .u64 rc)/\W.cell? ⟨k8,3,none⟩=some (.int .u64 rd)/\W.cell? ⟨k1,0,none⟩=some (.int .u64 a)/\W.cell? ⟨k1,1,none⟩=some (.int .u64 b)/\W.cell? ⟨k1,2,none⟩=some (.int .u64 c)/\W.cell? ⟨k1,3,none⟩=some (.int .u64 d)/\Kept w k0 (⟨k8,0,ra,rb,rc,rd⟩ :: [⟨k0,0,p0,p1,p2,p3⟩,⟨k0,4,c0,c1,c2,c3⟩,⟨k1,0,a,b,c,d⟩,⟨k2,0,0,0,0,0⟩]) W:=
 ⟨h.tail.head.c0,h.tail.head.c1,h.tail.head.c2,h.tail.head.c3,h.tail.tail.head.c0,h.tail.tail.head.c1,h.tail.tail.head.c2,h.tail.tail.head.c3,h.head.c0,h.head.c1,h.head.c2,h.head.c3,h.tail.tail.tail.head.c0,h.tail.tail.tail.head.c1,h.tail.tail.tail.head.c2,h.tail.tail.tail.head.c3,h⟩
theorem uE(p0 p1 p2 p3 c0 c1 c2 c3 P:Nat)(x:Value)(m:Nat)(hR:RefP p0 p1 p2 p3 c0 c1 c2 c3 P)(hP1:P/4%18446744073709551616<18446744073709551615)(hx:Four x m)(w:World):
 Calls prog 146 #[.agg #[.int .u64 p0,.int .u64 p1,.int .u64 p2,.int .u64 p3,.int .u64 c0,.int .u64 c1,.int .u64 c2,.int .u64 c3],x] w (Ret fun e w'=>Below w.heap.size w w'/\RootR P m (m^(P/4+1)%P) e):=by
 obtain⟨a,b,c,d,rfl,ha,hb,hc,hd,em⟩:=id hx;have HX:Hid (Four _ m):=hx;have HR:Hid (RefP p0 p1 p2 p3 c0 c1 c2 c3 P):=hR;have HP1:Hid (P/4%18446744073709551616<18446744073709551615):=hP1;have HP4:Hid (Four (.agg #[.int .u64 p0,.int .u64 p1,.int .u64 p2,.int .u64 p3]) P):=Four.mk hR.hp0 hR.hp1 hR.hp2 hR.hp3 hR.eP;obtain⟨R,hRe⟩:∃R,m^(P/4+1)%P=R:=⟨_,rfl⟩
 have hRP:R<P:=by
  rw[<-hRe];refine Qf _ ?_;have:=hR.hP2;omega
 rw[hRe];have HRE:Hid (m^(P/4+1)%P=R):=hRe;have HRP:Hid (R<P):=hRP;clear em hx ha hb hc hd hR hRe hRP hP1;go_enter Tryz.func146,Tryz.ntmps146;go_wp2;have K0:=AW w p0 p1 p2 p3 c0 c1 c2 c3 a b c d;have K1:=(K0.alloc (.cells #[.int .u64 0,.int .u64 0,.int .u64 0,.int .u64 0] 52)).cons (At4.made _ 52 0 0 0 0 rfl).blk;have hz:(((w.alloc (.cells #[.int .u64 p0,.int .u64 p1,.int .u64 p2,.int .u64 p3,.int .u64 c0,.int .u64 c1,.int .u64 c2,.int .u64 c3] 56)).alloc (.cells #[.int .u64 a,.int .u64 b,.int .u64 c,.int .u64 d] 52)).alloc (.cells #[.int .u64 0,.int .u64 0,.int .u64 0,.int .u64 0] 52)).heap.size=w.heap.size+1+1+1:=by simp
 rw[hz]at K1;clear K0 hz;generalize Pb _ _=W0 at K1⊢;generalize h3:w.heap.size+1+1+1=k3 at K1⊢;generalize h2:w.heap.size+1+1=k2 at K1⊢;generalize h1:w.heap.size+1=k1 at K1⊢;have Q2:Hid (w.heap.size<=k2):=by unfold Hid;omega
 have Q3:Hid (w.heap.size<=k3):=by unfold Hid;omega
 generalize h0:w.heap.size=k0 at K1 Q2 Q3⊢;have H0:Hid (w.heap.size=k0):=h0;have n30:k3≠k0:=by omega
 have n31:k3≠k1:=by omega
 have n32:k3≠k2:=by omega
 clear h0 h1 h2 h3;have hl3:∀x∈([⟨k0,0,p0,p1,p2,p3⟩,⟨k0,4,c0,c1,c2,c3⟩,⟨k1,0,a,b,c,d⟩,⟨k2,0,0,0,0,0⟩]:List Blk),k3≠x.k:=by simp only[Pg,OD,or_false];rintro x (rfl|rfl|rfl|rfl);exact n30;exact n30;exact n31;exact n32
 go_loopg [7] 254 (fun gk s7 wr=>∃i qa qb qc qd:Nat,i+gk=254/\s7=.int .i64 i/\Kept w k0 (⟨k3,0,qa,qb,qc,qd⟩ :: [⟨k0,0,p0,p1,p2,p3⟩,⟨k0,4,c0,c1,c2,c3⟩,⟨k1,0,a,b,c,d⟩,⟨k2,0,0,0,0,0⟩]) wr/\Hid (Four (.agg #[.int .u64 qa,.int .u64 qb,.int .u64 qc,.int .u64 qd]) (P/4%2^i)))
 case atStart =>
  refine⟨0,0,0,0,0,rfl,rfl,K1,?_⟩;rw[Ql,Uz];exact Four.mk (by decide) (by decide) (by decide) (by decide) rfl
 case round =>
  clear K1;obtain⟨i,qa,qb,qc,qd,hi,rfl,KP,HF⟩:=hrel;by_cases hlt:i<254
  ·have hF:val qa qb qc qd=P/4%2^i/\qa<18446744073709551616/\qb<18446744073709551616/\qc<18446744073709551616/\qd<18446744073709551616:=by
    obtain⟨a',b',c',d',e',h1,h2,h3,h4,h5⟩:=HF.out;obtain⟨rfl,rfl,rfl,rfl⟩:a'=qa/\b'=qb/\c'=qc/\d'=qd:=by
     simp only[O8.injEq,SU.injEq,Sc.injEq,Pi.injEq,true_and,and_true,Rm]at e';exact⟨e'.1.symm,e'.2.1.symm,e'.2.2.1.symm,e'.2.2.2.symm⟩
    exact⟨h5.symm,h1,h2,h3,h4⟩
   have hwl:=AB hF.2.1 hF.2.2.1 hF.2.2.2.1 hF.2.2.2.2 (i:=i) (by omega) hF.1;have xw:=KP.head.at4.wd (i/64) (by omega);obtain⟨t,ht⟩:∃t,P/2^(i+2)%2=t:=⟨_,rfl⟩
   have ht2:t<2:=by omega
   have htq:t=P/4/2^i%2:=by rw[<-ht,Nat.div_div_eq_div_mul,show 4*2^i=2^(i+2) by rw[P6,OX]]
   obtain⟨o,ho⟩:∃o,wd qa qb qc qd (i/64)+t*2^(i%64)=o:=⟨_,rfl⟩
   have hst:=AC (i:=i) (by omega) hF.1 htq ho.symm;obtain⟨hor,hol⟩:=Io _ t (i%64) (by omega) hwl ht2;rw[ho]at hor hol;have HST:Hid (Four (.agg #[.int .u64 ((if i/64=0 then o else qa:Nat):Int),.int .u64 ((if i/64=1 then o else qb:Nat):Int),.int .u64 ((if i/64=2 then o else qc:Nat):Int),.int .u64 ((if i/64=3 then o else qd:Nat):Int)]) (P/4%2^(i+1))):=by
    refine Four.mk ?_ ?_ ?_ ?_ hst.symm
    ·split;exact hol;exact hF.2.1
    ·split;exact hol;exact hF.2.2.1
    ·split;exact hol;exact hF.2.2.2.1
    ·split;exact hol;exact hF.2.2.2.2
   obtain⟨y,hy⟩:∃y,t*2^(i%64)=y:=⟨_,rfl⟩
   have hyl:y<18446744073709551616:=by omega
   rw[hy]at hor;obtain⟨v,hv⟩:∃v,wd qa qb qc qd (i/64)=v:=⟨_,rfl⟩
   rw[hv]at hor xw;obtain⟨j,hj⟩:∃j,i/64=j:=⟨_,rfl⟩
   obtain⟨r,hr⟩:∃r,i%64=r:=⟨_,rfl⟩
   obtain⟨i2,hi2⟩:∃i2,i+2=i2:=⟨_,rfl⟩
   rw[hj]at xw HST;have hsh:OS.wrap ((t:Int)*2^r)=(y:Int):=by
    rw[<-hr,<-hy,Qd,Qm];have:=wrapN (t*2^(i%64)) (by omega);rw[Qd,Qm]at this;exact this
   have HBT:Hid (∀w,Calls prog 101 #[.agg #[.int .u64 p0,.int .u64 p1,.int .u64 p2,.int .u64 p3],.int .i64 i2] w (Ret fun e w'=>Below w.heap.size w w'/\∃t:Nat,e=.int .u64 t/\t=P/2^i2%2)):=fun w=>m7 _ P i2 HP4.out (by omega) w
   have HT:Hid (P/2^i2%2=t):=by unfold Hid;rw[<-hi2];exact ht
   have e1:(i:Int).tdiv 64=(j:Int):=by rw[Qq (by omega)];omega
   have e2:(i:Int).tmod 64=(r:Int):=by rw[P8 (by omega)];omega
   have e3:(j:Int)<4:=by omega
   have e4:OZ.wrap (j:Int)=(j:Int):=fY _ (by omega);have e5:OZ.wrap (r:Int)=(r:Int):=fY _ (by omega);have e6:(i:Int)+2=(i2:Int):=by omega
   have e7:OZ.wrap (i2:Int)=(i2:Int):=fY _ (by omega);have e8:(r:Int)<64:=by omega
   have e9:r<64:=by omega
   have hlt':(i:Int)<254:=by omega
   have T1:=fun W (h:At4 W k3 qa qb qc qd)=>At4.setq h j o (by omega)
   have hj4:j<4:=by omega
   have XJ:=fun W (h:At4 W k3 qa qb qc qd)=>At4.wd h j hj4
   rw[<-hj,hv,hj]at XJ;have HJ:Hid (j<4):=hj4;clear hy hv hj hr ho hst hF ht htq hwl hi2 HF hj4
   go_upto_region 5 with fail
   refine anyTill.begin (fun w'=>w'.cell? ⟨k0,0,none⟩=some (.int .u64 p0)/\w'.cell? ⟨k0,1,none⟩=some (.int .u64 p1)/\w'.cell? ⟨k0,2,none⟩=some (.int .u64 p2)/\w'.cell? ⟨k0,3,none⟩=some (.int .u64 p3)/\w'.cell? ⟨k3,j,none⟩=some (.int .u64 v)/\Kept w k0 (⟨k3,0,qa,qb,qc,qd⟩ :: [⟨k0,0,p0,p1,p2,p3⟩,⟨k0,4,c0,c1,c2,c3⟩,⟨k1,0,a,b,c,d⟩,⟨k2,0,0,0,0,0⟩]) w') 16 mixed (rB KP.drew (XJ _ KP.head.at4.drew)) (fun hS=>?_);refine anyTill.tk (i:=0) (v:=?_) rfl (OQ ⟨by rfl,?_⟩) hS ?_
   rotate_left
   ·intro w hSw
    (try dsimp only at hSw)
    go_simp;try(with_reducible rfl)
   simp only[Pk,OL];refine anyTill.tk (i:=1) (v:=?_) rfl (OQ ⟨by rfl,?_⟩) hS ?_
   rotate_left
   ·intro w hSw
    (try dsimp only at hSw)
    go_simp;try(with_reducible rfl)
   simp only[Pk];refine anyTill.tk (i:=2) (v:=?_) rfl (OQ ⟨by rfl,?_⟩) hS ?_
   rotate_left
   ·intro w hSw
    (try dsimp only at hSw)
    go_simp;try(with_reducible rfl)
   simp only[Pk];refine anyTill.tk (i:=3) (v:=?_) rfl (OQ ⟨by rfl,?_⟩) hS ?_
   rotate_left
   ·intro w hSw
    (try dsimp only at hSw)
    go_simp;try(with_reducible rfl)
   simp only[Pk];refine anyTill.tk (i:=4) (v:=?_) rfl (OQ ⟨by rfl,?_⟩) hS ?_
   rotate_left
   ·intro w hSw
    (try dsimp only at hSw)
    go_simp;try(with_reducible rfl)
   simp only[Pk];refine anyTill.tk (i:=5) (v:=?_) rfl (OQ ⟨by rfl,?_⟩) hS ?_
   rotate_left
   ·intro w hSw
    (try dsimp only at hSw)
    go_simp;try(with_reducible rfl)
   simp only[Pk];refine anyTill.tk (i:=6) (v:=?_) rfl (OQ ⟨by rfl,?_⟩) hS ?_
   rotate_left
   ·intro w hSw
    (try dsimp only at hSw)
    go_simp;try(with_reducible rfl)
   simp only[Pk];refine anyTill.tk (i:=7) (v:=?_) rfl (OQ ⟨by rfl,?_⟩) hS ?_
   rotate_left
   ·intro w hSw
    (try dsimp only at hSw)
    go_simp;try(with_reducible rfl)
   simp only[Pk];refine anyTill.tk (i:=8) (v:=?_) rfl (OQ ⟨by rfl,?_⟩) hS ?_
   rotate_left
   ·intro w hSw
    (try dsimp only at hSw)
    go_simp;try(with_reducible rfl)
   simp only[Pk];refine anyTill.tk (i:=9) (v:=?_) rfl (OQ ⟨by rfl,?_⟩) hS ?_
   rotate_left
   ·intro w hSw
    (try dsimp only at hSw)
    go_simp;try(with_reducible rfl)
   simp only[Pk];refine anyTill.tk (i:=11) (v:=?_) rfl (OQ ⟨by rfl,?_⟩) hS ?_
   rotate_left
   ·intro w hSw
    (try dsimp only at hSw)
    go_simp;try(with_reducible rfl)
   simp only[Pk];refine anyTill.tk (i:=12) (v:=?_) rfl (OQ ⟨by rfl,?_⟩) hS ?_
   rotate_left
   ·intro w hSw
    (try dsimp only at hSw)
    go_simp;try(with_reducible rfl)
   simp only[Pk];try simp only[Pf,Pd]
   refine anyTill.step (i:=10) rfl (by kernel_rfl) (fun K hK=>?_);go_simp;refine(HBT.out _).mono ?_;rintro e w1 ⟨v',rfl,hb1,t',rfl,ht'⟩;rw[HT.out]at ht';subst ht';clear hS;have KP1:=KP.drew.call hb1;clear hb1 KP;refine hK.out _ _ (fun _=>rB KP1 (XJ _ KP1.head.at4)) ?_;clear hK K;try simp only[Pk,OL,Pf,Pd]
   have cj:=XJ _ KP1.head.at4;have cf:=KP1.head.f;have cz:=KP1.head.lt;refine anyTill.step (i:=13) rfl (by kernel_rfl) (fun K hK=>?_);go_simp;refine hK.out _ _ (fun _=>rB KP1 (XJ _ KP1.head.at4)) ?_;clear hK K;try simp only[Pk,OL,Pf,Pd]
   refine anyTill.step (i:=14) rfl (by kernel_rfl) (fun K hK=>?_);go_simp;refine hK.out _ _ (fun _=>rB KP1 (XJ _ KP1.head.at4)) ?_;clear hK K;try simp only[Pk,OL,Pf,Pd]
   refine anyTill.step (i:=15) rfl (by kernel_rfl) (fun K hK=>?_);go_simp;refine hK.out _ _ (fun _=>rB KP1 (XJ _ KP1.head.at4)) ?_;clear hK K;try simp only[Pk,OL,Pf,Pd]
   refine anyTill.step (i:=16) rfl (by kernel_rfl) (fun K hK=>?_);go_simp;refine hK.out _ _ (fun h=>QQ h) ?_;clear hK K;try simp only[Pk,OL,Pf,Pd]
   refine anyTill.done (by kernel_rfl) ?_ _;clear cj cf cz;go_wp2;go_roundg (gk-1)
   case measure=>omega
   case rel =>
    refine⟨i+1,_,_,_,_,by omega,rfl,?_,HST⟩;exact(KP1.tail.set (j:=k3) (i:=j) Q3.out hl3 _).cons (T1 _ KP1.head.at4).blk
  ·have hi254:i=254:=by omega
   subst hi254;have hF:=HF.out;have hPt:=HP4.out.lt;rw[Oy (show P/4<2^254 by unfold top at hPt;omega)]at hF;have hq:val qa qb qc qd=P/4/\qa<18446744073709551615/\qb<18446744073709551616/\qc<18446744073709551616/\qd<18446744073709551616:=by
    obtain⟨a',b',c',d',e',h1,h2,h3,h4,h5⟩:=hF;obtain⟨rfl,rfl,rfl,rfl⟩:a'=qa/\b'=qb/\c'=qc/\d'=qd:=by
     simp only[O8.injEq,SU.injEq,Sc.injEq,Pi.injEq,true_and,and_true,Rm]at e';exact⟨e'.1.symm,e'.2.1.symm,e'.2.2.1.symm,e'.2.2.2.symm⟩
    refine⟨h5.symm,?_,h2,h3,h4⟩;have h6:=HP1.out;rw[h5]at h6;unfold val at h6;omega
   obtain⟨qe,hqe'⟩:∃qe,qa+1=qe:=⟨_,rfl⟩
   have HE:Hid (Four (.agg #[.int .u64 qe,.int .u64 qb,.int .u64 qc,.int .u64 qd]) (P/4+1)):=by
    refine Four.mk (by omega) hq.2.2.1 hq.2.2.2.1 hq.2.2.2.2 ?_;rw[<-hq.1,<-hqe'];unfold val;omega
   have hadd:(qa:Int)+1=(qe:Int):=by omega
   have hw:=wrapN qe (by omega);clear hq hF hPt HF hqe';obtain⟨qc0,qc1,qc2,qc3,qf⟩:=KP.head.at4;have zq:=KP.head.lt;obtain⟨xc0,xc1,xc2,xc3,xf⟩:=KP.tail.tail.tail.head.at4;have zx:=KP.tail.tail.tail.head.lt;obtain⟨fc0,fc1,fc2,fc3,ff⟩:=KP.tail.head.at4;have fb:=KP.tail.tail.head;have fd0:wr.cell? ⟨k0,4,none⟩=some (.int .u64 c0):=fb.c0;have fd1:wr.cell? ⟨k0,5,none⟩=some (.int .u64 c1):=fb.c1;have fd2:wr.cell? ⟨k0,6,none⟩=some (.int .u64 c2):=fb.c2;have fd3:wr.cell? ⟨k0,7,none⟩=some (.int .u64 c3):=fb.c3;have zf:=KP.tail.head.lt;go_wp2_with fail
   clear qc0 qc1 qc2 qc3 qf zq xc0 xc1 xc2 xc3 xf zx fc0 fc1 fc2 fc3 ff fb fd0 fd1 fd2 fd3 zf;have KP2:=KP.tail.set (j:=k3) (i:=0) Q3.out hl3 (.int .u64 qe);clear KP;generalize Px _ _ _=WS at KP2⊢;refine(xZ p0 p1 p2 p3 c0 c1 c2 c3 P _ _ _ _ HR.out HX.out HE.out _).mono ?_;rintro e w3 ⟨v,rfl,hb3,hF⟩;have K:=KP2.call hb3;clear hb3 KP2 HE hadd hw;obtain⟨ra,rb,rc,rd,rfl,-⟩:=id hF;rw[HRE.out]at hF;have HF:Hid (Four _ R):=hF;clear hF
   go_upto_region 8 with fail
   have KP:Kept w k0 (⟨w3.heap.size,0,ra,rb,rc,rd⟩ :: [⟨k0,0,p0,p1,p2,p3⟩,⟨k0,4,c0,c1,c2,c3⟩,⟨k1,0,a,b,c,d⟩,⟨k2,0,0,0,0,0⟩]) _:=(K.alloc (.cells #[.int .u64 ra,.int .u64 rb,.int .u64 rc,.int .u64 rd] 52)).cons (At4.made w3 52 ra rb rc rd rfl).blk;have n80:w3.heap.size≠k0:=Pq K.head.lt;have n81:w3.heap.size≠k1:=Pq K.tail.tail.head.lt;have n82:w3.heap.size≠k2:=Pq K.tail.tail.tail.head.lt;have Q8:Hid (k0<=w3.heap.size):=K.le;clear K;generalize Pb _ _=W4 at KP⊢;generalize w3.heap.size=k8 at KP n80 n81 n82 Q8⊢;by_cases heq:R*R%P=m
   ·have hsame:=JY a b c d;go_region_held3 (fun w'=>w'.cell? ⟨k0,0,none⟩=some (.int .u64 p0)/\w'.cell? ⟨k0,1,none⟩=some (.int .u64 p1)/\w'.cell? ⟨k0,2,none⟩=some (.int .u64 p2)/\w'.cell? ⟨k0,3,none⟩=some (.int .u64 p3)/\w'.cell? ⟨k0,4,none⟩=some (.int .u64 c0)/\w'.cell? ⟨k0,5,none⟩=some (.int .u64 c1)/\w'.cell? ⟨k0,6,none⟩=some (.int .u64 c2)/\w'.cell? ⟨k0,7,none⟩=some (.int .u64 c3)/\w'.cell? ⟨k8,0,none⟩=some (.int .u64 ra)/\w'.cell? ⟨k8,1,none⟩=some (.int .u64 rb)/\w'.cell? ⟨k8,2,none⟩=some (.int .u64 rc)/\w'.cell? ⟨k8,3,none⟩=some (.int .u64 rd)/\w'.cell? ⟨k1,0,none⟩=some (.int .u64 a)/\w'.cell? ⟨k1,1,none⟩=some (.int .u64 b)/\w'.cell? ⟨k1,2,none⟩=some (.int .u64 c)/\w'.cell? ⟨k1,3,none⟩=some (.int .u64 d)/\Kept w k0 (⟨k8,0,ra,rb,rc,rd⟩ :: [⟨k0,0,p0,p1,p2,p3⟩,⟨k0,4,c0,c1,c2,c3⟩,⟨k1,0,a,b,c,d⟩,⟨k2,0,0,0,0,0⟩]) w') (first|(with_reducible exact qH KP)|(with_reducible exact qH KP.drew)|fail) (first|(go_at_call 32;refine(oQ HR.out HF.out HF.out _).mono ?_;rintro e w5 ⟨v,rfl,hb1,hF3⟩;rw[heq]at hF3;obtain rfl:=hF3.inj HX.out;clear hF3;(first|(with_reducible (have KP1:=KP.drew.call hb1))|(with_reducible (have KP1:=KP.call hb1))|fail);clear KP hb1;have KP:=KP1;clear KP1))
    have HEQ:Hid (R*R%P=m):=heq;clear heq
    rename_i hHeld
    clear hHeld;obtain⟨ra',rb',rc',rd',e',hra,-⟩:=id HF.out;obtain⟨rfl,-⟩:ra'=ra/\True:=by
     simp only[O8.injEq,SU.injEq,Sc.injEq,Pi.injEq,true_and,and_true,Rm]at e';exact⟨e'.1.symm,trivial⟩
    clear e';have hodd2:R%2=ra'%2:=by
     obtain⟨x1,x2,x3,x4,e',-,-,-,-,h5⟩:=id HF.out;simp only[O8.injEq,SU.injEq,Sc.injEq,Pi.injEq,true_and,and_true,Rm]at e';rw[h5,<-e'.1];unfold val;omega
    have hand:=and_one ra' hra;obtain⟨tc0,tc1,tc2,tc3,tf⟩:=KP.head.at4;have zt:=KP.head.lt;obtain⟨uc0,uc1,uc2,uc3,uf⟩:=KP.tail.tail.tail.tail.head.at4;have zu:=KP.tail.tail.tail.tail.head.lt;have h2:ra'%2=0\/ra'%2=1:=by omega
    rcases h2 with h|h
    ·rw[h]at hand hodd2;have HF8:Hid (Four (.agg #[.int .u64 ra',.int .u64 rb,.int .u64 rc,.int .u64 rd]) (even P R)):=by
      have h1:even P R=R:=by unfold even;rw[if_neg (by omega)]
      unfold Hid;rw[h1];exact HF.out
     clear h hodd2 hra;go_wp2;have RF:=KP.tail.tail.tail.tail.head.at4.self4 ra' rb rc rd;unfold set4 at RF;refine bodyPost_ret (v:=?v) ?hr rfl ?hR
     case hr=>simp[results,Tryz.results146,go_sem,RF.c0,RF.c1,RF.c2,RF.c3];rfl
     refine⟨_,rfl,?_,RootR.yes HEQ.out HF8.out⟩;rw[H0.out];exact aG KP.bl Q2.out _ _ _ _
    ·rw[h]at hand hodd2;have HO:Hid (R%2=1):=hodd2;clear h hodd2 hra;obtain⟨fc0,fc1,fc2,fc3,ff⟩:=KP.tail.head.at4;have fb:=KP.tail.tail.head;have fd0:w5.cell? ⟨k0,4,none⟩=some (.int .u64 c0):=fb.c0;have fd1:w5.cell? ⟨k0,5,none⟩=some (.int .u64 c1):=fb.c1;have fd2:w5.cell? ⟨k0,6,none⟩=some (.int .u64 c2):=fb.c2;have fd3:w5.cell? ⟨k0,7,none⟩=some (.int .u64 c3):=fb.c3;have zf:=KP.tail.head.lt;go_wp2_with fail
     clear tc0 tc1 tc2 tc3 tf zt uc0 uc1 uc2 uc3 uf zu fc0 fc1 fc2 fc3 ff fb fd0 fd1 fd2 fd3 zf hand;refine(rP p0 p1 p2 p3 c0 c1 c2 c3 P _ _ HR.out HF.out HRP.out _).mono ?_;rintro e w8 ⟨v,rfl,hb8,hF8⟩;obtain⟨sa,sb,sc,sd,rfl,-⟩:=id hF8;have HF8:Hid (Four (.agg #[.int .u64 sa,.int .u64 sb,.int .u64 sc,.int .u64 sd]) (even P R)):=by
      have h1:(P-R)%P=even P R:=by
       unfold even;rw[if_pos HO.out];exact Oy (by have:=HRP.out;have:=HO.out;omega)
      unfold Hid;rw[<-h1];exact hF8
     replace KP:=KP.call hb8;clear hb8 hF8;obtain⟨tc0,tc1,tc2,tc3,tf⟩:=KP.head.at4;have zt:=KP.head.lt;obtain⟨uc0,uc1,uc2,uc3,uf⟩:=KP.tail.tail.tail.tail.head.at4;have zu:=KP.tail.tail.tail.tail.head.lt;go_wp2;have RF:=(KP.tail.tail.tail.tail.head.at4.other4 n82 (.int .u64 sa) (.int .u64 sb) (.int .u64 sc) (.int .u64 sd)).self4 sa sb sc sd;unfold set4 at RF;refine bodyPost_ret (v:=?v2) ?hr2 rfl ?hR2
     case hr2=>simp[results,Tryz.results146,go_sem,RF.c0,RF.c1,RF.c2,RF.c3];rfl
     refine⟨_,rfl,?_,RootR.yes HEQ.out HF8.out⟩;rw[H0.out];exact aG (aG KP.bl Q8.out _ _ _ _) Q2.out _ _ _ _
   ·go_region_held3 (fun w'=>w'.cell? ⟨k0,0,none⟩=some (.int .u64 p0)/\w'.cell? ⟨k0,1,none⟩=some (.int .u64 p1)/\w'.cell? ⟨k0,2,none⟩=some (.int .u64 p2)/\w'.cell? ⟨k0,3,none⟩=some (.int .u64 p3)/\w'.cell? ⟨k0,4,none⟩=some (.int .u64 c0)/\w'.cell? ⟨k0,5,none⟩=some (.int .u64 c1)/\w'.cell? ⟨k0,6,none⟩=some (.int .u64 c2)/\w'.cell? ⟨k0,7,none⟩=some (.int .u64 c3)/\w'.cell? ⟨k8,0,none⟩=some (.int .u64 ra)/\w'.cell? ⟨k8,1,none⟩=some (.int .u64 rb)/\w'.cell? ⟨k8,2,none⟩=some (.int .u64 rc)/\w'.cell? ⟨k8,3,none⟩=some (.int .u64 rd)/\w'.cell? ⟨k1,0,none⟩=some (.int .u64 a)/\w'.cell? ⟨k1,1,none⟩=some (.int .u64 b)/\w'.cell? ⟨k1,2,none⟩=some (.int .u64 c)/\w'.cell? ⟨k1,3,none⟩=some (.int .u64 d)/\Kept w k0 (⟨k8,0,ra,rb,rc,rd⟩ :: [⟨k0,0,p0,p1,p2,p3⟩,⟨k0,4,c0,c1,c2,c3⟩,⟨k1,0,a,b,c,d⟩,⟨k2,0,0,0,0,0⟩]) w') (first|(with_reducible exact qH KP)|(with_reducible exact qH KP.drew)|fail) (first|(go_at_call 32;refine(oQ HR.out HF.out HF.out _).mono ?_;rintro e w5 ⟨v,rfl,hb1,hF3⟩;obtain⟨ta,tb,tc,td,rfl,hne⟩:=four_ne hF3 HX.out heq;have hoth:=Il hne;clear hF3;(first|(with_reducible (have KP1:=KP.drew.call hb1))|(with_reducible (have KP1:=KP.call hb1))|fail);clear KP hb1;have KP:=KP1;clear KP1))
    have HEQ:Hid (¬R*R%P=m):=heq;clear heq
    rename_i hHeld
    clear hHeld;obtain⟨uc0,uc1,uc2,uc3,uf⟩:=KP.tail.tail.tail.tail.head.at4;have zu:=KP.tail.tail.tail.tail.head.lt;go_wp2;have RF:At4 (set4 w5 k2 (.int .u64 0) (.int .u64 0) (.int .u64 0) (.int .u64 0)) k2 0 0 0 0:=KP.tail.tail.tail.tail.head.at4.self4 0 0 0 0;unfold set4 at RF;refine bodyPost_ret (v:=?v3) ?hr3 rfl ?hR3
    case hr3=>simp[results,Tryz.results146,go_sem,RF.c0,RF.c1,RF.c2,RF.c3];rfl
    refine⟨_,rfl,?_,RootR.no HEQ.out⟩;rw[H0.out];exact aG KP.bl Q2.out _ _ _ _
def iG(T:Bs):Nat->Bs
 | 0=>Oj 32 0
 | k+1=>(iG T k).setIfInBounds k T[k]!
theorem fR(T:Bs)(k:Nat):(iG T k).size=32:=by
 induction k with
 | zero=>simp[iG]
 | succ k ih=>simp[iG,ih]
theorem Bp(T:Bs)(k j:Nat)(hk:k<=32)(hj:j<k):(iG T k)[j]! = T[j]!:=by
 induction k with
 | zero=>omega
 | succ k ih =>
  by_cases h:j=k
  ·subst h;exact getElem!_set_same _ _ _ (by rw[fR];omega)
  ·rw[iG,getElem!_set_other _ _ _ _ h];exact ih (by omega) (by omega)
theorem zM{w:World}{g:Nat}{T:Bs}(hT:T.size=32)(h:Holds encB w g 0 (iG T 32)):Holds encB w g 0 T:=by
 intro j hj;rw[<-Bp T 32 j (Oh _) (by omega)];exact h j (by rw[fR];omega)
def wordOf(a b c d k:Nat):Nat:=if k<8 then a else if k<16 then b else if k<24 then c else d
theorem wW(x j:Nat)(hj:j<8):(be8 x)[j]! = Oq (x/2^(8*(7-j))):=by
 match j,hj with
 | 0,_=>rfl
 | 1,_=>rfl
 | 2,_=>rfl
 | 3,_=>rfl
 | 4,_=>rfl
 | 5,_=>rfl
 | 6,_=>rfl
 | 7,_ =>
  show Oq x=Oq (x/2^(8*(7-7)));rw[R9,RH,Ql,TA]
theorem IZ(a b c d i:Nat)(hi:i<32):(be32 a b c d)[i]! = Oq (wordOf a b c d (31-i)/2^(8*((31-i)%8))):=by
 have e:be32 a b c d=be8 d++be8 c++be8 b++be8 a:=rfl;have s1:(be8 d++be8 c).size=16:=by simp only[ON,aX]
 have s2:(be8 d++be8 c++be8 b).size=24:=by simp only[ON,aX]
 unfold wordOf;by_cases k1:i<8
 ·rw[if_neg (by omega),if_neg (by omega),if_neg (by omega),show(31-i)%8=7-i by omega,<-wW d i k1,
   e,app_front _ _ i (by omega),<-getElem!_pos (be8 d++be8 c++be8 b) i (by omega),app_front _ _ i (by omega),<-getElem!_pos (be8 d++be8 c) i (by omega),app_front _ _ i (by rw[aX];exact k1),<-getElem!_pos (be8 d) i (by rw[aX];exact k1)]
 ·by_cases k2:i<16
  ·rw[if_neg (by omega),if_neg (by omega),if_pos (by omega),show(31-i)%8=7-(i-8) by omega,<-wW c (i-8) (by omega),
    e,app_front _ _ i (by omega),<-getElem!_pos (be8 d++be8 c++be8 b) i (by omega),app_front _ _ i (by omega),<-getElem!_pos (be8 d++be8 c) i (by omega),app_back _ _ i (by rw[aX];omega) (by rw[aX,aX];omega),aX]
  ·by_cases k3:i<24
   ·rw[if_neg (by omega),if_pos (by omega),show(31-i)%8=7-(i-16) by omega,<-wW b (i-16) (by omega),
     e,app_front _ _ i (by omega),<-getElem!_pos (be8 d++be8 c++be8 b) i (by omega),app_back _ _ i (by omega) (by rw[s1,aX];omega),s1]
   ·rw[if_pos (by omega),show(31-i)%8=7-(i-24) by omega,<-wW a (i-24) (by omega),
     e,app_back _ _ i (by omega) (by rw[s2,aX];omega),s2]
theorem C4{a b c d:Nat}(k:Nat)(ha:a<18446744073709551616)(hb:b<18446744073709551616)(hc:c<18446744073709551616)(hd:d<18446744073709551616):wordOf a b c d k<18446744073709551616:=by
 unfold wordOf;split;exact ha;split;exact hb;split;exact hc;exact hd
theorem At4.word{w:World}{k a b c d:Nat}(h:At4 w k a b c d)(i:Nat)(hi:i<32):w.cell? ⟨k,i/8,none⟩=some (.int .u64 (wordOf a b c d i:Int)):=by
 unfold wordOf;by_cases h1:i<8
 ·rw[if_pos h1,show i/8=0 by omega];exact h.c0
 ·rw[if_neg h1];by_cases h2:i<16
  ·rw[if_pos h2,show i/8=1 by omega];exact h.c1
  ·rw[if_neg h2];by_cases h3:i<24
   ·rw[if_pos h3,show i/8=2 by omega];exact h.c2
   ·rw[if_neg h3,show i/8=3 by omega];exact h.c3
theorem rQ(x:Value)(m:Nat)(w:World)(hx:Four x m):
 Calls prog 33 #[x] w (Ret fun e w'=>Below w.heap.size w w'/\∃a b c d:Nat,x=.agg #[.int .u64 a,.int .u64 b,.int .u64 c,.int .u64 d]/\e=.string ⟨be32 a b c d⟩):=by
 obtain⟨a,b,c,d,rfl,ha,hb,hc,hd,em⟩:=hx;clear em;have hmk:∀w:World,(Instr.makeSlice 22 (.int .i64 32) (.int .i64 32)).run prog w=.ok (.slice (some ⟨w.heap.size,0,none⟩) 32 32) (w.alloc (.cells (madeCells #[.int .u8 0] 32) 5)):=
  run_make_row' (P:=prog) 22 5 (.int .u8 0) 1 slice22 info5 rfl .i64 .i64 32 (by omega) (by omega)
 go_enter Tryz.func33,Tryz.ntmps33;go_wp2;have hH0:Holds encB (((w.alloc (.cells #[.int .u64 a,.int .u64 b,.int .u64 c,.int .u64 d] 52)).alloc (.cells (madeCells #[.int .u8 0] 32) 5))) (w.heap.size+1) 0 (Oj 32 0):=by
  have:=Holds.made (enc:=encB) (w.alloc (.cells #[.int .u64 a,.int .u64 b,.int .u64 c,.int .u64 d] 52)) 5 32 0;rw[Oo]at this;exact this
 have hb0:=below2 w (.cells #[.int .u64 a,.int .u64 b,.int .u64 c,.int .u64 d] 52) (.cells (madeCells #[.int .u8 0] 32) 5);have X:=(At4.made w 52 a b c d rfl).alloc (.cells (madeCells #[.int .u8 0] 32) 5);generalize Pb _ _=W at hH0 hb0 X⊢;have HBW:Hid (Below w.heap.size w W):=hb0;clear hb0 hmk;go_loopg [4] 32 (fun gk s4 wr=>∃(k:Nat),k+gk=32/\s4=.int .i64 k/\Holds encB wr (w.heap.size+1) 0 (iG (be32 a b c d) k)/\At4 wr w.heap.size a b c d/\Hid (Below w.heap.size w wr))
 case atStart=>exact⟨0,rfl,rfl,hH0,X,HBW⟩
 case round =>
  obtain⟨k,hk,rfl,hB,X',HB⟩:=hrel;by_cases hlt:k<32
  ·obtain⟨c0,f0⟩:=hB k (by rw[fR];omega);rw[Om]at c0 f0;have xw:=X'.word (31-k) (by omega);have hwl:=C4 (31-k) ha hb hc hd;have hbyte:=IZ a b c d k hlt;obtain⟨q,hq⟩:∃q,31-k=q:=⟨_,rfl⟩
   rw[hq]at xw hwl hbyte;generalize wordOf a b c d q=v at xw hwl hbyte;have i1:(31:Int)-(k:Int)=(q:Int):=by omega
   have i2:(q:Int).tdiv 8=((q/8:Nat):Int):=by rw[Qq (by omega)];omega
   have i3:(q:Int).tmod 8=((q%8:Nat):Int):=by rw[P8 (by omega)];omega
   have i4:(q/8:Nat)<4:=by omega
   have hlt':(k:Int)<32:=by omega
   have hs1:(8:Int)*((q%8:Nat):Int)=((8*(q%8):Nat):Int):=by omega
   have hv:(Pi .u8 ((v:Int)/2^(8*(q%8))%256))=encB (be32 a b c d)[k]!:=by
    rw[hbyte,<-byte_at v (2^(8*(q%8))),Qm];rfl
   have Hv:Hid (_=_):=hv;clear hv hbyte hq;go_wp2;rw[Hv.out];go_roundg (gk-1)
   case measure=>omega
   case rel =>
    refine⟨k+1,by omega,rfl,?_,X'.other (by omega) _,HB.out.setCell (p:=⟨w.heap.size+1,k,none⟩) (Sv _) _⟩;have:=Holds.set hB (i:=k) (by rw[fR];omega) (be32 a b c d)[k]!;rw[Om]at this;exact this
  ·have hk32:k=32:=by omega
   subst hk32;have hT:=zM (lP a b c d) hB;have kc:=conv_str prog 22 9 5 slice22 int5 str9 wr (w.heap.size+1) 0 32 32 _ hT (lP a b c d);clear hB hT;go_wp2;go_ret;exact⟨_,rfl,HB.out,a,b,c,d,rfl,rfl⟩
end
section
open Go.RowKit Go.Sort Go.Deep
structure Ord(N:Nat):Prop where
 gap:Gap 4624529908474429119 4994812053365940164 1 N
 ref:RefP 13822214165235122497 13451932020343611451 18446744073709551614 18446744073709551615 4624529908474429119 4994812053365940164 1 0 N
 le:N<=top
 n2:2<=N%18446744073709551616
variable {N:Nat}
theorem Ord.pos(O:Ord N):0<N:=by have:=O.n2;omega
theorem Ord.four(O:Ord N){a:Nat}(h:a<N):Four (nv a) a:=lK (Oi h O.le)
def sTi(N a b:Nat):Nat:=a*b%N
theorem Ord.ti(O:Ord N)(a b:Nat):sTi N a b<N:=Qf _ O.pos
theorem Ew(O:Ord N){a b:Nat}(ha:a<N)(hb:b<N):Gives 125 #[gv1,nv a,nv b] (nv (sTi N a b)):=fun w =>
 (lQ _ _ _ N _ _ a b O.gap (O.four ha) (O.four hb) w).mono (by rintro e w' ⟨v,rfl,hb,hF⟩;exact⟨_,rfl,hb,hF.nv⟩)
theorem EU(O:Ord N){a b:Nat}(ha:a<N)(hb:b<N):Gives 32 #[rv1,nv a,nv b] (nv (sTi N a b)):=fun w =>
 (oQ O.ref (O.four ha) (O.four hb) w).mono (by rintro e w' ⟨v,rfl,hb,hF⟩;exact⟨_,rfl,hb,hF.nv⟩)
theorem yK{a x y z u:Nat}(h:nv a=.agg #[.int .u64 x,.int .u64 y,.int .u64 z,.int .u64 u]):be32 x y z u=bx a:=by
 have h1:wn a=[.int .u64 x,.int .u64 y,.int .u64 z,.int .u64 u]:=by
  unfold nv at h;injection h with h
  exact congrArg Array.toList h
 unfold wn at h1;simp only[Sc.injEq,Pi.injEq,true_and,and_true,Int.natCast_inj]at h1;obtain⟨rfl,rfl,rfl,rfl⟩:=h1;rfl
theorem yC(O:Ord N){a:Nat}(ha:a<N):Gives 33 #[nv a] (.string ⟨bx a⟩):=fun w =>
 (rQ _ a w (O.four ha)).mono (by
  rintro e w' ⟨v,rfl,hb,x,y,z,u,he,rfl⟩;exact⟨_,rfl,hb,by rw[yK he]⟩)
def cb(b:Bs):List Value:=b.toList.map encB
theorem lO(b:Bs):(cb b).length=b.size:=by unfold cb;rw[OO,Ot]
theorem nV{w:World}{g:Nat}{b:Bs}(h:Holds encB w g 0 b):w.rangeAt g 0 (cb b)/\w.there g 0 (cb b).length:=by
 refine⟨fun j v hv=>?_,fun j hj=>?_⟩
 ·have hj:j<b.size:=by rw[<-lO];exact(OE.1 hv).1
  rw[(h j hj).1];unfold cb at hv;rw[PD,O7,OJ hj]at hv;rw[getElem!_pos b j hj];exact hv
 ·rw[lO]at hj;exact⟨by rw[(h j hj).1];rfl,(h j hj).2⟩
theorem cb_holds{w:World}{g:Nat}{b:Bs}(h1:w.rangeAt g 0 (cb b))(h2:w.there g 0 (cb b).length):Holds encB w g 0 b:=fun j hj=>by
 refine⟨h1 j _ ?_,(h2 j (by rw[lO];exact hj)).2⟩;unfold cb;rw[PD,O7,OJ hj,getElem!_pos b j hj];rfl
def Gl(f:FuncId)(args:Array Value)(b:Bs)(n:Nat):Prop:=∀w,Calls prog f args w (Ret fun e w'=>∃k,RG.Made w k (cb b) w'/\e=.slice (some ⟨k,0,none⟩) n n)
theorem Ey(O:Ord N){a:Nat}(ha:a<N):Gl 72 #[nv a] (bx a) 32:=fun w =>
 (vH _ a w (O.four ha)).mono (by
  rintro e w' ⟨v,rfl,hb,g,x,y,z,u,rfl,hle,he,hH⟩;rw[yK he]at hH;obtain⟨h1,h2⟩:=nV hH;exact⟨_,rfl,g,⟨hb,hle,Holds.lt hH (by rw[bM];omega),h1,h2⟩,rfl⟩)
end
section
open Go.RowKit Go.Sort Go.Deep
variable {P:Nat}[NeZero P]{N:Nat}
theorem N3(a b c d p q r s:Nat)(w:World):(binOp .eql 43 (.agg #[.int .u64 a,.int .u64 b,.int .u64 c,.int .u64 d]) (.agg #[.int .u64 p,.int .u64 q,.int .u64 r,.int .u64 s])).run prog w=.ok (.bool (decide (a=p/\b=q/\c=r/\d=s))) w:=by
 go_simp;rw[Cr 9997,Result.andThen_ok];by_cases h1:a=p/\b=q/\c=r/\d=s
 ·rw[decide_eq_true h1];obtain⟨rfl,rfl,rfl,rfl⟩:=h1;simp
 ·have h2:(decide (a=p) && (decide (b=q) && (decide (c=r) && decide (d=s))))=false:=by
   rw[<-Bool.not_eq_true,Ox,Ox,Ox];simpa using h1
  rw[decide_eq_false h1,h2];simp
theorem eqS{a b:Nat}(ha:a<top)(hb:b<top)(w:World):(binOp .eql 43 (nv a) (nv b)).run prog w=.ok (.bool (decide (a=b))) w:=by
 refine(N3 (a%18446744073709551616) (a/18446744073709551616%18446744073709551616) (a/340282366920938463463374607431768211456%18446744073709551616) (a/6277101735386680763835789423207666416102355444464034512896%18446744073709551616) (b%18446744073709551616) (b/18446744073709551616%18446744073709551616) (b/340282366920938463463374607431768211456%18446744073709551616) (b/6277101735386680763835789423207666416102355444464034512896%18446744073709551616) w).trans ?_;simp only[oJ ha hb]
theorem u40:(prog.underlying 43).map (·.isRow)=some true:=by kernel_rfl
theorem i40:(prog.info? 43).map (·.size)=some 4:=by kernel_rfl
theorem u38:(prog.underlying 41).map (·.isRow)=some true:=by kernel_rfl
theorem i38:(prog.info? 41).map (·.size)=some 4:=by kernel_rfl
theorem u44:(prog.underlying 52).map (·.isRow)=some true:=by kernel_rfl
theorem i44:(prog.info? 52).map (·.size)=some 4:=by kernel_rfl
theorem J1(O:Ord N)(a b:Nat)(ha:a<N)(hb:b<N):Gives 71 #[(nv a),(nv b)] (nv (sTi N a b)):=by
 intro w;go_enter Tryz.func71,Tryz.ntmps71;refine RG.M.enter [(0,(.v (nv a))),(1,(.v (nv b)))] 12 (by kernel_rfl) ?_;intro a0 M0;repeat refine wp_seq ?_
 refine M0.t [.m 2 [] 0,.m 3 [] 1,.m 4 [] 2] [(0,(wn a)),(1,(wn b)),(2,(RG.z 4))] [] [(wn a),(wn b),(RG.z 4)] [(2,(.p 0 0)),(3,(.p 1 0)),(4,(.p 2 0))] ⟨RG.mk 0 43,RG.mk 1 43,RG.mk 2 43,trivial⟩ ?_;intro j1 i1 m1 a1 w1 M1;repeat refine wp_seq ?_
 refine M1.d [.c 5 [] gv1,.s 6 [] (.p 0 0),.x 7 [(6,1)] (nv a),.s 8 [] (.p 1 0),.x 9 [(8,3)] (nv b),.c 10 [(5,0),(7,2),(9,4)] (nv (sTi N a b)),.x 11 [(10,5)] (nv (sTi N a b)),.u [(11,6)] 2] [] [(2,7,(wn (sTi N a b)))] [(wn a),(wn b),(wn (sTi N a b))] [(4,(.p 2 0))] ⟨RG.cl (fX),RG.st,RG.ld u38 i38,RG.st,RG.ld u38 i38,RG.cl (Ew O ha hb),RG.st,RG.pt i40,trivial⟩ ?_;intro a2 w2 M2;refine wp_ret ?_;refine bodyPost_ret (v:=(nv (sTi N a b))) (RG.aF M2.st 4 43 rfl 2 _ rfl (M2.at (s:=(.p 2 0))) u40 i40) M2.sl.defers ?_;exact⟨_,rfl,M2.st.bel.below,rfl⟩
theorem GT(v:Value)(m:Nat)(ok:Bool)(w:World)(hrd:∀w',RG.BelX w.heap.size [] w w'->Calls prog 63 #[gv1,v] w' (Ret fun e w''=>Below w'.heap.size w' w''/\e=.tuple #[nv m,.bool ok])):
 Calls prog 18 #[v] w (Ret fun e w'=>Below w.heap.size w w'/\e=.tuple #[nv m,.bool ok]):=by
 go_enter Tryz.func18,Tryz.ntmps18;refine RG.M.enter [(0,.v v)] 15 (by kernel_rfl) ?_;intro a0 M0;repeat refine wp_seq ?_
 refine M0.t [.m 2 [] 0,.x 3 [] (.bool false)] [(0,(RG.z 4))] [] [(RG.z 4)] [(0,(.v v)),(2,(.p 0 0)),(3,(.v (.bool false)))] ⟨RG.mk 0 43,RG.st,trivial⟩ ?_;intro j1 a1 w1 M1;repeat refine wp_seq ?_
 refine M1.t [.c 7 [] gv1,.x 8 [] v,.c 9 [(7,0),(8,1)] (.tuple #[(nv m),(.bool ok)]),.x 6 [(9,2)] (.tuple #[(nv m),(.bool ok)]),.x 10 [(6,3)] (nv m),.x 11 [(6,3)] (.bool ok),.m 4 [] 1,.u [(4,6),(10,4)] 1,.x 5 [(11,5)] (.bool ok)] [(6,(RG.z 4))] [(1,7,(wn m))] [(RG.z 4),(wn m)] [(2,(.p 0 0)),(3,(.v (.bool false))),(4,(.p 1 0)),(5,(.v (.bool ok)))] ⟨RG.cl (fX),RG.st,RG.clB (fun _ _=>by kernel_rfl) hrd,RG.st,RG.st,RG.st,RG.mk 1 41,RG.pt i38,RG.st,trivial⟩ ?_;intro j2 a2 w2 M2;repeat refine wp_seq ?_
 refine M2.t [.x 12 [] (nv m),.x 13 [(12,0)] (nv m),.x 14 [] (.bool ok),.u [(13,1)] 0,.x 3 [(14,2)] (.bool ok)] [] [(0,3,(wn m))] [(wn m),(wn m)] [(2,(.p 0 0)),(3,(.v (.bool ok)))] ⟨RG.ld u38 i38,RG.st,RG.st,RG.pt i40,RG.st,trivial⟩ ?_;intro a3 w3 M3;refine wp_ret ?_;refine bodyPost_ret (v:=.tuple #[nv m,.bool ok]) (RG.aW M3.st 2 3 43 rfl 0 _ rfl (M3.at (s:=.p 0 0)) _ (M3.av (v:=.bool ok) (by kernel_rfl)) u40 i40) M3.sl.defers ?_;exact⟨_,rfl,M3.st.bel.below,rfl⟩
theorem GU(O:Ord N)(v:Value)(bs:Bs)(w:World)(hv:Arg w v bs):Calls prog 18 #[v] w (Ret fun e w'=>Below w.heap.size w w'/\e=.tuple #[nv ((rq N bs).getD 0),.bool (rq N bs).isSome]):=by
 refine GT v _ _ w fun w' hb=>?_
 have h:=vV O.gap v bs w' (hv.below hb.below);cases hr:rq N bs with
 | none=>rw[hr]at h;exact h
 | some n=>rw[hr]at h;exact h
theorem jZ(O:Ord N){a:Nat}(ha:a<N):Gl 24 #[nv a] (bx a) 32:=by
 intro w;go_enter Tryz.func24,Tryz.ntmps24;refine RG.M.enter [(0,.v (nv a))] 6 (by kernel_rfl) ?_;intro a0 M0;repeat refine wp_seq ?_
 refine M0.t [.m 1 [] 0,.x 2 [] (.slice none 0 0)] [(0,(wn a))] [] [(wn a)] [(1,(.p 0 0)),(2,(.v (.slice none 0 0)))] ⟨RG.mk 0 43,RG.st,trivial⟩ ?_;intro j1 a1 w1 M1;repeat refine wp_seq ?_
 refine M1.t [.s 3 [] (.p 0 0),.x 4 [(3,0)] (nv a),⟨some 5,[(4,1)],(.s 1 32 32),.make 1⟩,.s 2 [(5,2)] (.s 1 32 32)] [(2,(cb (bx a)))] [] [(wn a),(cb (bx a))] [(2,(.s 1 32 32))] ⟨RG.st,RG.ld u38 i38,RG.cm 1 (fun w _=>Ey O ha w) fun _ _=>by kernel_rfl,RG.st,trivial⟩ ?_;intro j2 a2 w2 M2;refine wp_ret ?_;refine bodyPost_ret (v:=_) (RG.aV 2 rfl _ (M2.at (s:=.s 1 32 32))) M2.sl.defers ?_;exact⟨_,rfl,_,M2.st.made (b:=1) rfl,rfl⟩
theorem qI(O:Ord N)(s:ByteArray):Gives 25 #[.string s] (.tuple #[nv (nuV s.data),.bool (rq N s.data).isSome]):=by
 intro w;have hnum:=J8 O.ref s;obtain⟨m,hm⟩:∃m,m=nuV s.data:=⟨_,rfl⟩
 obtain⟨ok,hok⟩:∃b,b=(rq N s.data).isSome:=⟨_,rfl⟩
 rw[<-hm,<-hok]at hnum⊢;go_enter Tryz.func25,Tryz.ntmps25;refine RG.M.enter [(0,.v (.string s))] 9 (by kernel_rfl) ?_;intro a0 M0;repeat refine wp_seq ?_
 refine M0.t [.m 2 [] 0,.x 3 [] (.bool false)] [(0,(RG.z 4))] [] [(RG.z 4)] [(0,(.v (.string s))),(2,(.p 0 0)),(3,(.v (.bool false)))] ⟨RG.mk 0 52,RG.st,trivial⟩ ?_;intro j1 a1 w1 M1;repeat refine wp_seq ?_
 refine M1.t [.c 4 [] rv1,.x 5 [] (.string s),.c 6 [(4,0),(5,1)] (.tuple #[(nv m),(.bool ok)]),.x 7 [(6,2)] (nv m),.x 8 [(6,2)] (.bool ok),.u [(7,3)] 0,.x 3 [(8,4)] (.bool ok)] [] [(0,5,(wn m))] [(wn m)] [(2,(.p 0 0)),(3,(.v (.bool ok)))] ⟨RG.cl (I5),RG.st,RG.cl (hnum),RG.st,RG.st,RG.pt i44,RG.st,trivial⟩ ?_;intro a2 w2 M2;refine wp_ret ?_;refine bodyPost_ret (v:=.tuple #[nv m,.bool ok]) (RG.aW M2.st 2 3 52 rfl 0 _ rfl (M2.at (s:=.p 0 0)) _ (M2.av (v:=.bool ok) (by kernel_rfl)) u44 i44) M2.sl.defers ?_;exact⟨_,rfl,M2.st.bel.below,rfl⟩
end
namespace SP
open Go.RowKit
theorem NM(x:BitVec 64):(x.toNat:Int)<18446744073709551616:=by
 have:=x.isLt;omega
theorem cZ(x:BitVec 64):Qy 64 (x.toNat:Int)=x:=by
 apply BitVec.eq_of_toNat_eq;rw[BitVec.ofInt_natCast,T0];exact Oy x.isLt
theorem dW(x:BitVec 64):OS.wrap (x.toNat:Int)=x.toNat:=by
 rw[Re];have:=NM x;exact Int.emod_eq_of_lt (by omega) this
def u(v:BitVec 64):Int:=(v.toNat:Int)
theorem cL(a b:BitVec 64):bits .xor .u64 (u a) (u b)=u (a ^^^ b):=by
 show OS.wrap ((Qy 64 (a.toNat:Int) ^^^ Qy 64 (b.toNat:Int)).toNat:Int)=_;rw[cZ,cZ,dW];rfl
theorem cV(a b:BitVec 64):bits .and .u64 (u a) (u b)=u (a &&& b):=by
 show OS.wrap ((Qy 64 (a.toNat:Int) &&& Qy 64 (b.toNat:Int)).toNat:Int)=_;rw[cZ,cZ,dW];rfl
theorem cP(a b:BitVec 64):bits .or .u64 (u a) (u b)=u (a ||| b):=by
 show OS.wrap ((Qy 64 (a.toNat:Int) ||| Qy 64 (b.toNat:Int)).toNat:Int)=_;rw[cZ,cZ,dW];rfl
theorem mL(a:BitVec 64):bits .xor .u64 OS.max (u a)=u (~~~a):=by
 have e:OS.max=u (BitVec.allOnes 64):=by decide +kernel
 rw[e,cL,BitVec.allOnes_xor]
theorem MN(k:Nat)(hk:k<64):bits .and .u64 (k:Int) 63=k:=by
 have h:∀j:Fin 64,bits .and .u64 ((j.val:Nat):Int) 63=(j.val:Int):=by decide +kernel
 exact h ⟨k,hk⟩
theorem t8(x:BitVec 64)(k:Nat):OS.wrap (u x*2^k)=u (x <<< k):=by
 unfold u;rw[Re,BitVec.toNat_shiftLeft,Nat.shiftLeft_eq,Int.natCast_emod,Qd,Qm];rfl
theorem BQ(x:BitVec 64)(k:Nat):u x/2^k=u (x >>> k):=by
 unfold u;rw[BitVec.toNat_ushiftRight,Nat.shiftRight_eq_div_pow,Sw,Qm];rfl
def rol(w:BitVec 64)(n:Nat):BitVec 64:=w <<< n ||| w >>> (64-n)
abbrev St:=Array (BitVec 64)
def enc(v:BitVec 64):Value:=.int .u64 (u v)
def Bf(d:St)(x:Nat):BitVec 64:=d[x]! ^^^ d[x+5]! ^^^ d[x+10]! ^^^ d[x+15]! ^^^ d[x+20]!
def iZ(d:St):Nat->St
 | 0=>#[0,0,0,0,0]
 | k+1=>(iZ d k).setIfInBounds k (Bf d k)
def bI(d:St)(i:Nat)(v:BitVec 64):St:=d.setIfInBounds i (d[i]! ^^^ v)
def jM(v:BitVec 64)(x:Nat)(d:St):Nat->St
 | 0=>d
 | m+1=>bI (jM v x d m) (x+5*m) v
def bR(s:St)(x:Nat):BitVec 64:=s[(x+4)%5]! ^^^ rol s[(x+1)%5]! 1
def gV(s d:St):Nat->St
 | 0=>d
 | k+1=>jM (bR s k) k (gV s d k) 5
def pJ(d:St):St:=gV (iZ d 5) d 5
theorem bZ(d:St)(i:Nat)(v:BitVec 64):(bI d i v).size=d.size:=by simp[bI]
theorem pK(d:St)(k:Nat):(iZ d k).size=5:=by
 induction k with
 | zero=>rfl
 | succ k ih=>simp[iZ,ih]
theorem nJ(v:BitVec 64)(x:Nat)(d:St)(m:Nat):(jM v x d m).size=d.size:=by
 induction m with
 | zero=>rfl
 | succ k ih=>simp[jM,bZ,ih]
theorem mT(s d:St)(m:Nat):(gV s d m).size=d.size:=by
 induction m with
 | zero=>rfl
 | succ k ih=>simp[gV,nJ,ih]
structure Tm where
 x:Nat
 y:Nat
 m:BitVec 64
 d:St
def rY(t:Nat):Nat:=(t+1)*(t+2)/2%64
def Ah(t:Nat)(s:Tm):Tm:=
 { x:=s.y,y:=(2*s.x+3*s.y)%5,m:=s.d[s.y+5*((2*s.x+3*s.y)%5)]!,d:=s.d.setIfInBounds (s.y+5*((2*s.x+3*s.y)%5)) (rol s.m (rY t)) }
def qA(d:St):Nat->Tm
 | 0=>{ x:=1,y:=0,m:=d[1]!,d:=d }
 | t+1=>Ah t (qA d t)
def m5(d:St):St:=(qA d 24).d
theorem BO(d:St)(hd:d.size=25)(t:Nat):(qA d t).x<5/\(qA d t).y<5/\(qA d t).d.size=25:=by
 induction t with
 | zero=>exact⟨show 1<5 by decide,show 0<5 by decide,hd⟩
 | succ t ih =>
  obtain⟨h1,h2,h3⟩:=ih;refine⟨h2,?_,?_⟩
  ·show(2*(qA d t).x+3*(qA d t).y)%5<5;omega
  ·show((qA d t).d.setIfInBounds _ _).size=25;rw[O6,h3]
def rowAt(d:St)(i:Nat):St:=
 bI (bI (bI (bI (bI d i (~~~d[i+1]! &&& d[i+2]!)) (i+1) (~~~d[i+2]! &&& d[i+3]!)) (i+2) (~~~d[i+3]! &&& d[i+4]!)) (i+3) (~~~d[i+4]! &&& d[i]!)) (i+4) (~~~d[i]! &&& d[i+1]!)
def sW(d:St):Nat->St
 | 0=>d
 | k+1=>rowAt (sW d k) (5*k)
def chi(d:St):St:=sW d 5
theorem Ar(d:St)(i:Nat):(rowAt d i).size=d.size:=by simp[rowAt,bZ]
theorem sV(d:St)(k:Nat):(sW d k).size=d.size:=by
 induction k with
 | zero=>rfl
 | succ k ih=>simp[sW,Ar,ih]
end SP
namespace SP
open Go.RowKit
def jS(r:Nat):Nat:=if 255<2*r then(2*r) ^^^ 369 else 2*r
def rK(r:Nat):Nat->BitVec 64 × Nat
 | 0=>(0,r)
 | j+1=>((rK r j).1 ||| QM 64 ((rK r j).2%2) <<< (2^j-1),jS (rK r j).2)
theorem rL(r:Nat)(h:r<256):jS r<256:=by
 have H:∀j:Fin 256,jS j.val<256:=by decide +kernel
 exact H ⟨r,h⟩
theorem Hk(r:Nat)(h:r<256)(j:Nat):(rK r j).2<256:=by
 induction j with
 | zero=>exact h
 | succ j ih=>exact rL _ ih
theorem EL(r:Nat)(h:r<256):bits .xor .i64 ((r:Int)*2) 369=(((2*r) ^^^ 369:Nat):Int):=by
 have H:∀j:Fin 256,bits .xor .i64 ((j.val:Int)*2) 369=(((2*j.val) ^^^ 369:Nat):Int):=by decide +kernel
 exact H ⟨r,h⟩
theorem EM(r:Nat)(h:r<256):bits .and .i64 (r:Int) 1=u (QM 64 (r%2)):=by
 have H:∀j:Fin 256,bits .and .i64 (j.val:Int) 1=u (QM 64 (j.val%2)):=by decide +kernel
 exact H ⟨r,h⟩
theorem l8(x:BitVec 64):OS.wrap (u x)=u x:=dW x
def kM(d:St)(c:BitVec 64):St:=bI (chi (m5 (pJ d))) 0 c
def rcC(r:Nat):BitVec 64:=(rK r 7).1
def rcN(r:Nat):Nat:=(rK r 7).2
theorem J7(r:Nat)(h:r<256):rcN r<256:=by
 unfold rcN;exact Hk r h 7
def tO:Nat->Nat
 | 0=>1
 | k+1=>rcN (tO k)
theorem Hm(k:Nat):tO k<256:=by
 induction k with
 | zero=>decide
 | succ k ih=>exact J7 _ ih
def kJ(d:St):Nat->St
 | 0=>d
 | k+1=>kM (kJ d k) (rcC (tO k))
def perm(d:St):St:=kJ d 24
theorem fZ(d:St):(pJ d).size=d.size:=mT _ _ _
theorem jF(d:St)(hd:d.size=25):(m5 d).size=25:=(BO d hd 24).2.2
theorem zE(d:St):(chi d).size=d.size:=sV _ _
theorem yS(d:St)(c:BitVec 64)(hd:d.size=25):(kM d c).size=25:=by
 unfold kM;rw[bZ,zE,jF];rw[fZ,hd]
theorem kH(d:St)(hd:d.size=25)(k:Nat):(kJ d k).size=25:=by
 induction k with
 | zero=>exact hd
 | succ k ih=>exact yS _ _ ih
theorem oW(d:St)(hd:d.size=25):(perm d).size=25:=kH d hd 24
abbrev Bs:=Array UInt8
def ub(x:UInt8):Int:=(x.toNat:Int)
def encB(x:UInt8):Value:=.int .u8 (ub x)
def wide(x:UInt8):BitVec 64:=QM 64 x.toNat
def low(v:BitVec 64):UInt8:=Oq v.toNat
theorem Gz(x:UInt8):ub x=u (wide x):=by
 unfold ub u wide;rw[T0,Oy];have:=x.toNat_lt;omega
theorem vI(x:UInt8):OS.wrap (ub x)=u (wide x):=by rw[Gz,l8]
theorem Jk(v:BitVec 64):TK.wrap (u v)=ub (low v):=by
 have e:TK.wrap (u v)=u v%256:=by simp[VF,VH,VG]
 rw[e];unfold u ub low;rw[RD];omega
def iH(bs:Bs)(o:Nat):Nat->BitVec 64
 | 0=>0
 | i+1=>iH bs o i ||| wide bs[o+i]! <<< (8*i)
def wordOf(bs:Bs)(o:Nat):BitVec 64:=iH bs o 8
def dU(bs:Bs)(d:St):Nat->St
 | 0=>d
 | i+1=>bI (dU bs d i) i (wordOf bs (8*i))
theorem cT(bs:Bs)(d:St)(k:Nat):(dU bs d k).size=d.size:=by
 induction k with
 | zero=>rfl
 | succ k ih=>simp[dU,bZ,ih]
def byteOf(d:St)(k:Nat):UInt8:=low (d[k/8]! >>> (8*(k%8)))
def dH(d:St)(n:Nat):Nat->Bs
 | 0=>Oj n 0
 | k+1=>(dH d n k).setIfInBounds k (byteOf d k)
def front(d:St)(n:Nat):Bs:=dH d n n
theorem fQ(d:St)(n k:Nat):(dH d n k).size=n:=by
 induction k with
 | zero=>simp[dH]
 | succ k ih=>simp[dH,ih]
theorem aR(d:St)(n:Nat):(front d n).size=n:=fQ d n n
end SP
namespace SP
open Go.RowKit Go.Sort
structure Only(b off n:Nat)(w w':World):Prop where
 os:w'.os=w.os
 tape:w'.tape=w.tape
 output:w'.output=w.output
 size:w.heap.size<=w'.heap.size
 block:∀k,k<w.heap.size->k≠b->w'.heap[k]? = w.heap[k]?
 cell:∀o,(o<off\/off+n<=o)->w'.cell? ⟨b,o,none⟩=w.cell? ⟨b,o,none⟩
 froz:∀o,w'.frozen? ⟨b,o,none⟩=w.frozen? ⟨b,o,none⟩
variable {b off n:Nat}{w w1 w2:World}
theorem Only.refl(b off n:Nat)(w:World):Only b off n w w:=⟨rfl,rfl,rfl,Oh _,fun _ _ _=>rfl,fun _ _=>rfl,fun _=>rfl⟩
theorem Only.trans(h:Only b off n w w1)(k:Only b off n w1 w2):Only b off n w w2:=
 ⟨k.os.trans h.os,k.tape.trans h.tape,k.output.trans h.output,Nat.le_trans h.size k.size,
  fun i hi hn=>(k.block i (Oi hi h.size) hn).trans (h.block i hi hn),
  fun o ho=>(k.cell o ho).trans (h.cell o ho),fun o=>(k.froz o).trans (h.froz o)⟩
theorem Only.drewN(h:Only b off n w w1)(q:Nat):Only b off n w (w1.drewN q):=⟨h.os,h.tape,h.output,h.size,h.block,h.cell,h.froz⟩
theorem Only.drew(h:Only b off n w w1):Only b off n w w1.drew:=⟨h.os,h.tape,h.output,h.size,h.block,h.cell,h.froz⟩
theorem Only.setCell(h:Only b off n w w1){o:Nat}(h1:off<=o)(h2:o<off+n)(v:Value):Only b off n w (w1.setCell ⟨b,o,none⟩ v):=by
 refine h.trans ⟨rfl,rfl,rfl,by simp,fun k _ hn=>SN _ _ _ _ hn,fun o' ho=>?_,fun o'=>by simp⟩;exact Og _ _ _ _ (by intro e;simp only[Vy.injEq,and_true,true_and]at e;omega)
theorem Only.alloc(h:Only b off n w w1)(hb:b<w1.heap.size)(o:Obj):Only b off n w (w1.alloc o):=by
 refine h.trans ⟨rfl,rfl,rfl,by simp,fun k hk _=>Below.heap_alloc _ _ _ hk,fun o' _=>?_,fun o'=>?_⟩
 ·exact World.cell?_alloc_lt _ _ _ hb
 ·exact World.frozen?_alloc_old _ _ _ (by show b≠_;omega)
theorem Only.below(h:Only b off n w w1){B:Nat}(hB:B<=w.heap.size)(hb:B<=b):Below B w w1:=
 ⟨h.os,h.tape,h.output,h.size,fun k hk=>h.block k (by omega) (by omega)⟩
theorem Only.of_below{B:Nat}(h:Below B w w1)(hB:B=w.heap.size)(hb:b<B):Only b off n w w1:=
 ⟨h.os,h.tape,h.output,h.size,fun k hk _=>h.block k (by omega),fun o _=>h.cell (p:=⟨b,o,none⟩) hb,fun o=>h.frozen (p:=⟨b,o,none⟩) hb⟩
theorem Only.other(h:Only b off n w w1){c o:Nat}(hc:c≠b)(hs:c<w.heap.size):w1.cell? ⟨c,o,none⟩=w.cell? ⟨c,o,none⟩/\w1.frozen? ⟨c,o,none⟩=w.frozen? ⟨c,o,none⟩:=
 ⟨World.cell?_of_block (w:=w) (h.block c hs hc),World.frozen?_of_block (w:=w) (h.block c hs hc)⟩
theorem Only.fresh{o m:Nat}{x:Obj}(h:Only w.heap.size o m (w.alloc x) w1):Below w.heap.size w w1:=
 ((Ow _ _).alloc (Oh _) x).trans (h.below (by simp) (Oh _))
section
variable {α:Type}[Inhabited α]{enc:α->Value}{d:Array α}
theorem Holds.lt(h:Holds enc w b off d)(hd:0<d.size):b<w.heap.size:=PK _ _ (h 0 hd).1
theorem Holds.other{c o:Nat}(h:Holds enc w c o d)(k:Only b off n w w1)(hc:c≠b)(hd:0<d.size):Holds enc w1 c o d:=by
 intro j hj;have:=h j hj;have:=k.other (o:=o+j) hc (Holds.lt h hd);rw[this.1,this.2];exact h j hj
theorem Holds.same{o:Nat}(h:Holds enc w b o d)(k:Only b off n w w1)(hd:o+d.size<=off\/off+n<=o):Holds enc w1 b o d:=by
 intro j hj;rw[k.cell _ (by omega),k.froz];exact h j hj
theorem Holds.below{B:Nat}(h:Holds enc w b off d)(k:Below B w w1)(hb:b<B):Holds enc w1 b off d:=by
 intro j hj;rw[k.cell (p:=⟨b,off+j,none⟩) hb,k.frozen (p:=⟨b,off+j,none⟩) hb];exact h j hj
theorem Holds.drewN(h:Holds enc w b off d)(q:Nat):Holds enc (w.drewN q) b off d:=h
theorem Holds.drew(h:Holds enc w b off d):Holds enc w.drew b off d:=h
theorem Holds.set(h:Holds enc w b off d){i:Nat}(hi:i<d.size)(x:α):Holds enc (w.setCell ⟨b,off+i,none⟩ (enc x)) b off (d.setIfInBounds i x):=by
 intro j hj;rw[O6]at hj;rw[OI];by_cases e:j=i
 ·subst e;rw[getElem!_set_same d j x hi];exact⟨OT _ _ _ (h j hj).1,(h j hj).2⟩
 ·rw[getElem!_set_other d i j x e,Og _ _ _ _ (by intro e';simp only[Vy.injEq,and_true,true_and]at e';omega)];exact h j hj
theorem Holds.new(w:World)(t:TypeId)(d:Array α):Holds enc (w.alloc (.cells (d.map enc) t)) w.heap.size 0 d:=by
 intro j hj;rw[OK,PI];refine⟨?_,rfl⟩;simp only[Om,Array.getElem?_map,OJ hj,Option.map_some,getElem!_pos d j hj]
theorem Holds.made(w:World)(t:TypeId)(n:Nat)(x:α):Holds enc (w.alloc (.cells (madeCells #[enc x] n) t)) w.heap.size 0 (Oj n x):=by
 intro j hj;rw[Ou]at hj;rw[OK,PI];refine⟨?_,rfl⟩;rw[getElem!_pos _ j (by simpa using hj),Pr];simp[madeCells,hj,Uz]
end
theorem Holds.xor{d:St}(h:Holds enc w b off d){i:Nat}(hi:i<d.size){x:BitVec 64}(hx:d[i]! = x)(v:BitVec 64):Holds enc (w.setCell ⟨b,off+i,none⟩ (.int .u64 (u (x ^^^ v)))) b off (bI d i v):=by
 unfold bI;rw[hx];exact Holds.set h hi (x ^^^ v)
theorem bV(d:St)(i j:Nat)(v:BitVec 64)(h:j≠i):(bI d i v)[j]! = d[j]!:=getElem!_set_other d i j _ h
end SP
namespace SP
open Go.RowKit Go.Sort
theorem mixed:prog.follows .mixedOrders=true:=by kernel_rfl
theorem aS{w:World}{b off:Nat}{d:St}(h:Holds enc w b off d)(i:Nat)(hi:i<d.size){x:BitVec 64}(hx:d[i]! = x):
 w.cell? ⟨b,off+i,none⟩=some (.int .u64 (u x))/\w.frozen? ⟨b,off+i,none⟩=false:=by
 rw[<-hx];exact h i hi
theorem ret_int{k:IntKind}{a b:Int}(h:a=b):Ending.returned (.int k a)=.returned (.int k b):=by rw[h]
theorem xP(x:BitVec 64)(k:Nat)(w:World)(hk:k<64):
 Calls prog 198 #[.int .u64 (u x),.int .i64 k] w fun e w'=>e=.returned (.int .u64 (u (rol x k)))/\w'=w:=by
 have h63:=MN k hk;have h1:(0:Int)<=64-(k:Int):=by omega
 go_enter Tryz.func198,Tryz.ntmps198;go_wp2;go_ret;refine⟨ret_int ?_,rfl⟩;rw[t8,BQ,cP];rfl
end SP
namespace SP
open Go.RowKit Go.Sort
theorem yU(w:World)(t:TypeId):Holds enc (w.alloc (.cells #[.int .u64 0,.int .u64 0,.int .u64 0,.int .u64 0,.int .u64 0] t)) w.heap.size 0 (#[0,0,0,0,0]:St):=by
 have h:=Holds.new (enc:=enc) w t (#[0,0,0,0,0]:St);have e:Array.map enc (#[0,0,0,0,0]:St)=#[.int .u64 0,.int .u64 0,.int .u64 0,.int .u64 0,.int .u64 0]:=by simp[enc,u]
 rw[e]at h;exact h
attribute [local go_sem] cL cV cP
theorem sE(b off:Nat)(d:St)(w:World)(hd:d.size=25)(hH:Holds enc w b off d):
 Calls prog 189 #[.pointer (some ⟨b,off,none⟩)] w fun e w'=>e=.returned (.tuple #[])/\Only b off 25 w w'/\Holds enc w' b off (pJ d):=by
 have hb:=Holds.lt hH (by omega);go_enter Tryz.func189,Tryz.ntmps189;go_wp2;generalize hW1:(w.alloc _)=W1;go_loopg [7] 5 (fun g s7 wr=>∃k sk,k+g=5/\s7=.int .i64 (k:Nat)/\Holds enc wr w.heap.size 0 sk/\Only w.heap.size 0 5 W1 wr/\Hid (sk=iZ d k))
 case atStart =>
  refine⟨0,#[0,0,0,0,0],rfl,rfl,?_,Only.refl _ _ _ _,rfl⟩;rw[<-hW1];exact yU w 242
 case round =>
  obtain⟨k,sk,hk,rfl,hS,hO,HE⟩:=hrel;have hHw:Holds enc wr b off d:=Holds.other (by rw[<-hW1];exact Holds.below hH ((Ow _ _).alloc (Oh _) _) hb) hO (by omega) (by omega);by_cases hlt:k<5
  ·obtain⟨x0,hx0⟩:∃x,d[k]! = x:=⟨_,rfl⟩
   obtain⟨x1,hx1⟩:∃x,d[k+5]! = x:=⟨_,rfl⟩
   obtain⟨x2,hx2⟩:∃x,d[k+10]! = x:=⟨_,rfl⟩
   obtain⟨x3,hx3⟩:∃x,d[k+15]! = x:=⟨_,rfl⟩
   obtain⟨x4,hx4⟩:∃x,d[k+20]! = x:=⟨_,rfl⟩
   obtain⟨x5,hx5⟩:∃x,sk[k]! = x:=⟨_,rfl⟩
   have hss:sk.size=5:=by rw[HE.out,pK]
   obtain⟨c0,f0⟩:=aS hHw k (by omega) hx0;obtain⟨c1,f1⟩:=aS hHw (k+5) (by omega) hx1;obtain⟨c2,f2⟩:=aS hHw (k+10) (by omega) hx2;obtain⟨c3,f3⟩:=aS hHw (k+15) (by omega) hx3;obtain⟨c4,f4⟩:=aS hHw (k+20) (by omega) hx4;obtain⟨c5,f5⟩:=aS hS k (by omega) hx5;rw[Om]at c5 f5;have HX:Hid (Bf d k=x0 ^^^ x1 ^^^ x2 ^^^ x3 ^^^ x4):=by rw[<-hx0,<-hx1,<-hx2,<-hx3,<-hx4];rfl
   clear hx0 hx1 hx2 hx3 hx4 hx5 hHw;have k5:(k:Int)<5:=by omega
   have b0:(k:Int)<25:=by omega
   have b1:(k:Int)+5<25:=by omega
   have b2:(k:Int)+10<25:=by omega
   have b3:(k:Int)+15<25:=by omega
   have b4:(k:Int)+20<25:=by omega
   have p1:0<=(k:Int)+5:=by omega
   have p2:0<=(k:Int)+10:=by omega
   have p3:0<=(k:Int)+15:=by omega
   have p4:0<=(k:Int)+20:=by omega
   have e1:((k:Int)+5).toNat=k+5:=by omega
   have e2:((k:Int)+10).toNat=k+10:=by omega
   have e3:((k:Int)+15).toNat=k+15:=by omega
   have e4:((k:Int)+20).toNat=k+20:=by omega
   have v1:OZ.wrap ((k:Int)+5)=(k:Int)+5:=Pa _ (by omega);have v2:OZ.wrap ((k:Int)+10)=(k:Int)+10:=Pa _ (by omega);have v3:OZ.wrap ((k:Int)+15)=(k:Int)+15:=Pa _ (by omega);have v4:OZ.wrap ((k:Int)+20)=(k:Int)+20:=Pa _ (by omega);go_wp2_with fail
   go_still_tail 35,mixed;go_wp2;go_roundg (gk-1)
   case measure=>omega
   case rel =>
    refine⟨k+1,sk.setIfInBounds k (x0 ^^^ x1 ^^^ x2 ^^^ x3 ^^^ x4),by omega,by go_num,?_,?_,?_⟩
    ·have:=Holds.set hS (i:=k) (by omega) (x0 ^^^ x1 ^^^ x2 ^^^ x3 ^^^ x4);rw[Om]at this;exact Holds.drew this
    ·exact(hO.setCell (QB _) (by omega) _).drew
    ·show _=(iZ d k).setIfInBounds k (Bf d k);rw[HX.out,HE.out]
  ·have hk5:k=5:=by omega
   subst hk5;have HS:Hid (sk=iZ d 5):=HE;have hO2:Only b off 25 w wr:=by
    rw[<-hW1]at hO;exact Only.of_below hO.fresh rfl hb
   clear hk hlt HE hO hW1;go_wp2;go_loopg [46] 5 (fun g s46 wq=>∃k dk,k+g=5/\s46=.int .i64 (k:Nat)/\Holds enc wq b off dk/\Only b off 25 wr wq/\Hid (dk=gV sk d k))
   case atStart=>exact⟨0,d,rfl,rfl,hHw,Only.refl _ _ _ _,rfl⟩
   case round =>
    obtain⟨k,dk,hk,rfl,hD,hO,HE⟩:=hrel;by_cases hlt:k<5
    ·have hss:sk.size=5:=by rw[HS.out,pK]
     have hSw:=Holds.other hS hO (by omega) (by omega);obtain⟨y0,hy0⟩:∃x,sk[(k+4)%5]! = x:=⟨_,rfl⟩
     obtain⟨y1,hy1⟩:∃x,sk[(k+1)%5]! = x:=⟨_,rfl⟩
     obtain⟨c0,f0⟩:=aS hSw ((k+4)%5) (by omega) hy0;obtain⟨c1,f1⟩:=aS hSw ((k+1)%5) (by omega) hy1;rw[Om]at c0 c1;have HD:Hid (bR sk k=y0 ^^^ rol y1 1):=by rw[<-hy0,<-hy1];rfl
     clear hy0 hy1 f0 f1;have k5:(k:Int)<5:=by omega
     go_wp2_with fail
     go_quiet ((go_at_call 198;exact Calls.quiet_of_same (xP _ 1 _ (by decide))));clear c0 c1;go_wp2;have hO1:=hO.drewN nq;have hD1:=Holds.drewN hD nq;have hds:dk.size=25:=by rw[HE.out,mT,hd]
     go_loopg [6] 5 (fun g s6 wq=>∃m dm,m+g=5/\s6=.int .i64 ((k+5*m:Nat):Int)/\Holds enc wq b off dm/\Only b off 25 wr wq/\Hid (dm=jM (y0 ^^^ rol y1 1) k dk m))
     case atStart=>exact⟨0,dk,rfl,rfl,hD1,(Only.refl _ _ _ _).drewN _,rfl⟩
     case round =>
      obtain⟨m,dm,hm,rfl,hM,hOm,HM⟩:=hrel;by_cases hlt2:m<5
      ·have hms:dm.size=25:=by rw[HM.out,nJ,hds]
       obtain⟨z,hz⟩:∃x,dm[k+5*m]! = x:=⟨_,rfl⟩
       obtain⟨c,f⟩:=aS hM (k+5*m) (by omega) hz;have HZ:Hid (dm[k+5*m]! = z):=hz;clear hz;have r1:((k+5*m:Nat):Int)<25:=by omega
       generalize hi:k+5*m=i at *;have Hi:Hid (k+5*m=i):=hi;clear hi;go_wp2_with fail
       go_still_tail 9,mixed;go_wp2;go_roundg (gk-1)
       case measure=>omega
       case rel =>
        refine⟨m+1,dm.setIfInBounds i (z ^^^ (y0 ^^^ rol y1 1)),by omega,?_,?_,?_,?_⟩
        ·rw[<-Hi.out];go_num
        ·exact Holds.drew (Holds.set hM (by omega) _)
        ·exact(hOm.setCell (RL _ _) (by omega) _).drew
        ·show _=bI (jM (y0 ^^^ rol y1 1) k dk m) (k+5*m) (y0 ^^^ rol y1 1);rw[<-HM.out,Hi.out,<-HZ.out];rfl
      ·have hm5:m=5:=by omega
       subst hm5;have r1:(25:Int)<=((k+5*5:Nat):Int):=by omega
       generalize hi:k+5*5=i at *;go_wp2;go_roundg (4-k)
       case measure=>omega
       case rel =>
        refine⟨k+1,dm,by omega,by go_num,hM,hO.trans hOm,?_⟩;show _=jM (bR sk k) k (gV sk d k) 5;rw[<-HE.out,HD.out];exact HM.out
    ·have hk5:k=5:=by omega
     subst hk5;go_wp2
     go_end0
     refine⟨rfl,hO2.trans hO,?_⟩;have:pJ d=dk:=by rw[HE.out,HS.out];rfl
     rw[this];exact hD
end SP
namespace SP
open Go.RowKit Go.Sort
attribute [local go_sem] cL cV cP
theorem E3(t:Nat)(h:t<24):(wrap64 ((wrap64 (((t:Int)+1)*((t:Int)+2))).tdiv 2)).tmod 64=(rY t:Int):=by
 have H:∀j:Fin 24,(wrap64 ((wrap64 (((j.val:Int)+1)*((j.val:Int)+2))).tdiv 2)).tmod 64=(rY j.val:Int):=by decide +kernel
 exact H ⟨t,h⟩
theorem pZ(b off:Nat)(d:St)(w:World)(hd:d.size=25)(hH:Holds enc w b off d):
 Calls prog 190 #[.pointer (some ⟨b,off,none⟩)] w fun e w'=>e=.returned (.tuple #[])/\Only b off 25 w w'/\Holds enc w' b off (m5 d):=by
 obtain⟨x1,hx1⟩:∃x,d[1]! = x:=⟨_,rfl⟩
 obtain⟨c1,f1⟩:=aS hH 1 (by omega) hx1;go_enter Tryz.func190,Tryz.ntmps190;go_wp2;go_loopg [2,3,4,12] 24 (fun g sx sy sm st wr=>∃t T,t+g=24/\st=.int .i64 (t:Nat)/\sx=.int .i64 (T.x:Nat)/\sy=.int .i64 (T.y:Nat)/\sm=.int .u64 (u T.m)/\Holds enc wr b off T.d/\Only b off 25 w wr/\Hid (T=qA d t))
 case atStart=>exact⟨0,qA d 0,rfl,rfl,rfl,rfl,by rw[<-hx1];rfl,hH,Only.refl _ _ _ _,rfl⟩
 case round =>
  obtain⟨t,⟨x,y,m,dk⟩,ht,rfl,rfl,rfl,rfl,hD,hO,HE⟩:=hrel;have hok:=BO d hd t;rw[<-HE.out]at hok;obtain⟨hx,hy,hs⟩:=hok;dsimp only at hx hy hs hD;clear c1 f1 hx1;by_cases hlt:t<24
  ·obtain⟨i,hi⟩:∃i,y+5*((2*x+3*y)%5)=i:=⟨_,rfl⟩
   obtain⟨z,hz⟩:∃z,dk[i]! = z:=⟨_,rfl⟩
   have hib:i<25:=by omega
   obtain⟨c,f⟩:=aS hD i (by omega) hz;have Hz:Hid (dk[i]! = z):=hz;have Hi:Hid (y+5*((2*x+3*y)%5)=i):=hi;have l24:(t:Int)<24:=by omega
   clear hz hi;go_wp2_with fail
   rw[E3 t hlt];refine(xP m (rY t) _ (Qf _ (by decide))).mono ?_;rintro e w' ⟨rfl,rfl⟩;go_wp2_with fail
   obtain⟨y2,hy2⟩:∃n,(2*x+3*y)%5=n:=⟨_,rfl⟩
   have hy2':(2*(x:Int)+3*(y:Int))%5=(y2:Int):=by omega
   rw[hy2'];have Hy2:Hid ((2*x+3*y)%5=y2):=hy2;have r0:y2<5:=by omega
   clear hy2 hy2';have r1:(0:Int)<=(y:Int)+5*(y2:Int):=by omega
   have r2:(y:Int)+5*(y2:Int)<25:=by omega
   have r3:((y:Int)+5*(y2:Int)).toNat=i:=by have:=Hi.out;have:=Hy2.out;omega
   have s1:OZ.wrap (5*(y2:Int))=5*(y2:Int):=Pa _ (by omega);have s2:OZ.wrap ((y:Int)+5*(y2:Int))=(y:Int)+5*(y2:Int):=Pa _ (by omega);go_region
   go_wp2;go_roundg (gk-1)
   case measure=>omega
   case rel =>
    refine⟨t+1,⟨y,y2,z,dk.setIfInBounds i (rol m (rY t))⟩,by omega,by go_num,rfl,rfl,rfl,?_,?_,?_⟩
    ·exact Holds.drew (Holds.set hD (by omega) _)
    ·exact(hO.setCell (RL _ _) (by omega) _).drew
    ·show _=Ah t (qA d t);rw[<-HE.out];simp only[Ah,Hy2.out];have e:y+5*y2=i:=by have:=Hi.out;have:=Hy2.out;omega
     rw[e,Hz.out]
  ·have ht24:t=24:=by omega
   subst ht24;go_wp2
   go_end0
   refine⟨rfl,hO,?_⟩;show Holds enc _ b off (qA d 24).d;rw[<-HE.out];exact hD
end SP
namespace SP
open Go.RowKit Go.Sort
attribute [local go_sem] cL cV cP mL
theorem yM(b off:Nat)(d:St)(w:World)(hd:d.size=25)(hH:Holds enc w b off d):
 Calls prog 191 #[.pointer (some ⟨b,off,none⟩)] w fun e w'=>e=.returned (.tuple #[])/\Only b off 25 w w'/\Holds enc w' b off (chi d):=by
 go_enter Tryz.func191,Tryz.ntmps191;go_wp2;go_loopg [2] 5 (fun g si wr=>∃k dk,k+g=5/\si=.int .i64 ((5*k:Nat):Int)/\Holds enc wr b off dk/\Only b off 25 w wr/\Hid (dk=sW d k))
 case atStart=>exact⟨0,d,rfl,rfl,hH,Only.refl _ _ _ _,rfl⟩
 case round =>
  obtain⟨k,dk,hk,rfl,hD,hO,HE⟩:=hrel;have hs:dk.size=25:=by rw[HE.out,sV,hd]
  by_cases hlt:k<5
  ·obtain⟨i,hi⟩:∃i,5*k=i:=⟨_,rfl⟩
   rw[hi];have Hi:Hid (5*k=i):=hi;obtain⟨x0,hx0⟩:∃x,dk[i]! = x:=⟨_,rfl⟩
   obtain⟨x1,hx1⟩:∃x,dk[i+1]! = x:=⟨_,rfl⟩
   obtain⟨x2,hx2⟩:∃x,dk[i+2]! = x:=⟨_,rfl⟩
   obtain⟨x3,hx3⟩:∃x,dk[i+3]! = x:=⟨_,rfl⟩
   obtain⟨x4,hx4⟩:∃x,dk[i+4]! = x:=⟨_,rfl⟩
   obtain⟨c0,f0⟩:=aS hD i (by omega) hx0;obtain⟨c1,f1⟩:=aS hD (i+1) (by omega) hx1;obtain⟨c2,f2⟩:=aS hD (i+2) (by omega) hx2;obtain⟨c3,f3⟩:=aS hD (i+3) (by omega) hx3;obtain⟨c4,f4⟩:=aS hD (i+4) (by omega) hx4;have HX0:Hid (dk[i]! = x0):=hx0;have HX1:Hid (dk[i+1]! = x1):=hx1;have HX2:Hid (dk[i+2]! = x2):=hx2;have HX3:Hid (dk[i+3]! = x3):=hx3;have HX4:Hid (dk[i+4]! = x4):=hx4;have Q0:=HX0;have Q1:=HX1;have Q2:=HX2;have Q3:=HX3;have Q4:=HX4;have i20:i<=20:=by omega
   clear hx0 hx1 hx2 hx3 hx4 hi;have b0:(i:Int)<25:=by omega
   have b1:(i:Int)+1<25:=by omega
   have p1:0<=(i:Int)+1:=by omega
   have e1:((i:Int)+1).toNat=i+1:=by omega
   have v1:OZ.wrap ((i:Int)+1)=(i:Int)+1:=Pa _ (by omega);have b2:(i:Int)+2<25:=by omega
   have p2:0<=(i:Int)+2:=by omega
   have e2:((i:Int)+2).toNat=i+2:=by omega
   have v2:OZ.wrap ((i:Int)+2)=(i:Int)+2:=Pa _ (by omega);have b3:(i:Int)+3<25:=by omega
   have p3:0<=(i:Int)+3:=by omega
   have e3:((i:Int)+3).toNat=i+3:=by omega
   have v3:OZ.wrap ((i:Int)+3)=(i:Int)+3:=Pa _ (by omega);have b4:(i:Int)+4<25:=by omega
   have p4:0<=(i:Int)+4:=by omega
   have e4:((i:Int)+4).toNat=i+4:=by omega
   have v4:OZ.wrap ((i:Int)+4)=(i:Int)+4:=Pa _ (by omega);go_wp2_with fail
   go_quiet (fail);clear c1 c2 c3 c4 f1 f2 f3 f4 b1 p1 e1 v1 b2 p2 e2 v2 b3 p3 e3 v3 b4 p4 e4 v4;go_wp2_with fail
   go_region
   go_wp2_with fail
   generalize hW0:Px _ _ _=W0;have hs0:(bI dk i (~~~x1 &&& x2)).size=25:=by rw[bZ];omega
   have hD0:Holds enc W0 b off (bI dk i (~~~x1 &&& x2)):=by rw[<-hW0];exact Holds.xor (Holds.drewN hD _) (by omega) HX0.out _
   have hO0:Only b off 25 w W0:=by rw[<-hW0];exact(hO.drewN _).setCell (o:=off+i) (by omega) (by omega) _
   generalize hd0:bI dk i (~~~x1 &&& x2)=d0 at *;have Hd0:Hid (bI dk i (~~~x1 &&& x2)=d0):=hd0;have HX1:Hid (d0[i+1]! = x1):=by show _=_;rw[<-hd0,bV _ _ _ _ (by omega)];exact HX1.out
   have HX2:Hid (d0[i+2]! = x2):=by show _=_;rw[<-hd0,bV _ _ _ _ (by omega)];exact HX2.out
   have HX3:Hid (d0[i+3]! = x3):=by show _=_;rw[<-hd0,bV _ _ _ _ (by omega)];exact HX3.out
   have HX4:Hid (d0[i+4]! = x4):=by show _=_;rw[<-hd0,bV _ _ _ _ (by omega)];exact HX4.out
   obtain⟨c1,f1⟩:=aS hD0 (i+1) (by omega) HX1.out;clear hd0 hW0 c0 f0;have b1:(i:Int)+1<25:=by omega
   have p1:0<=(i:Int)+1:=by omega
   have e1:((i:Int)+1).toNat=i+1:=by omega
   have v1:OZ.wrap ((i:Int)+1)=(i:Int)+1:=Pa _ (by omega);go_region
   go_wp2_with fail
   generalize hW1:Px _ _ _=W1;have hs1:(bI d0 (i+1) (~~~x2 &&& x3)).size=25:=by rw[bZ];omega
   have hD1:Holds enc W1 b off (bI d0 (i+1) (~~~x2 &&& x3)):=by rw[<-hW1];exact Holds.xor hD0 (by omega) HX1.out _
   have hO1:Only b off 25 w W1:=by rw[<-hW1];exact(hO0).setCell (o:=off+(i+1)) (by omega) (by omega) _
   generalize hd1:bI d0 (i+1) (~~~x2 &&& x3)=d1 at *;have Hd1:Hid (bI d0 (i+1) (~~~x2 &&& x3)=d1):=hd1;have HX2:Hid (d1[i+2]! = x2):=by show _=_;rw[<-hd1,bV _ _ _ _ (by omega)];exact HX2.out
   have HX3:Hid (d1[i+3]! = x3):=by show _=_;rw[<-hd1,bV _ _ _ _ (by omega)];exact HX3.out
   have HX4:Hid (d1[i+4]! = x4):=by show _=_;rw[<-hd1,bV _ _ _ _ (by omega)];exact HX4.out
   obtain⟨c2,f2⟩:=aS hD1 (i+2) (by omega) HX2.out;clear hd1 hW1 c1 f1;clear b1 p1 e1 v1;have b2:(i:Int)+2<25:=by omega
   have p2:0<=(i:Int)+2:=by omega
   have e2:((i:Int)+2).toNat=i+2:=by omega
   have v2:OZ.wrap ((i:Int)+2)=(i:Int)+2:=Pa _ (by omega);go_region
   go_wp2_with fail
   generalize hW2:Px _ _ _=W2;have hs2:(bI d1 (i+2) (~~~x3 &&& x4)).size=25:=by rw[bZ];omega
   have hD2:Holds enc W2 b off (bI d1 (i+2) (~~~x3 &&& x4)):=by rw[<-hW2];exact Holds.xor hD1 (by omega) HX2.out _
   have hO2:Only b off 25 w W2:=by rw[<-hW2];exact(hO1).setCell (o:=off+(i+2)) (by omega) (by omega) _
   generalize hd2:bI d1 (i+2) (~~~x3 &&& x4)=d2 at *;have Hd2:Hid (bI d1 (i+2) (~~~x3 &&& x4)=d2):=hd2;have HX3:Hid (d2[i+3]! = x3):=by show _=_;rw[<-hd2,bV _ _ _ _ (by omega)];exact HX3.out
   have HX4:Hid (d2[i+4]! = x4):=by show _=_;rw[<-hd2,bV _ _ _ _ (by omega)];exact HX4.out
   obtain⟨c3,f3⟩:=aS hD2 (i+3) (by omega) HX3.out;clear hd2 hW2 c2 f2;clear b2 p2 e2 v2;have b3:(i:Int)+3<25:=by omega
   have p3:0<=(i:Int)+3:=by omega
   have e3:((i:Int)+3).toNat=i+3:=by omega
   have v3:OZ.wrap ((i:Int)+3)=(i:Int)+3:=Pa _ (by omega);go_region
   go_wp2_with fail
   generalize hW3:Px _ _ _=W3;have hs3:(bI d2 (i+3) (~~~x4 &&& x0)).size=25:=by rw[bZ];omega
   have hD3:Holds enc W3 b off (bI d2 (i+3) (~~~x4 &&& x0)):=by rw[<-hW3];exact Holds.xor hD2 (by omega) HX3.out _
   have hO3:Only b off 25 w W3:=by rw[<-hW3];exact(hO2).setCell (o:=off+(i+3)) (by omega) (by omega) _
   generalize hd3:bI d2 (i+3) (~~~x4 &&& x0)=d3 at *;have Hd3:Hid (bI d2 (i+3) (~~~x4 &&& x0)=d3):=hd3;have HX4:Hid (d3[i+4]! = x4):=by show _=_;rw[<-hd3,bV _ _ _ _ (by omega)];exact HX4.out
   obtain⟨c4,f4⟩:=aS hD3 (i+4) (by omega) HX4.out;clear hd3 hW3 c3 f3;clear b3 p3 e3 v3;have b4:(i:Int)+4<25:=by omega
   have p4:0<=(i:Int)+4:=by omega
   have e4:((i:Int)+4).toNat=i+4:=by omega
   have v4:OZ.wrap ((i:Int)+4)=(i:Int)+4:=Pa _ (by omega);go_region
   go_wp2;generalize hW4:Px _ _ _=W4;have hs4:(bI d3 (i+4) (~~~x0 &&& x1)).size=25:=by rw[bZ];omega
   have hD4:Holds enc W4 b off (bI d3 (i+4) (~~~x0 &&& x1)):=by rw[<-hW4];exact Holds.xor hD3 (by omega) HX4.out _
   have hO4:Only b off 25 w W4:=by rw[<-hW4];exact(hO3).setCell (o:=off+(i+4)) (by omega) (by omega) _
   generalize hd4:bI d3 (i+4) (~~~x0 &&& x1)=d4 at *;have Hd4:Hid (bI d3 (i+4) (~~~x0 &&& x1)=d4):=hd4;clear hd4 hW4 c4 f4;clear b4 p4 e4 v4;go_roundg (gk-1)
   case measure=>omega
   case rel =>
    refine⟨k+1,d4,by omega,?_,?_,?_,?_⟩
    ·rw[<-Hi.out];go_num
    ·exact hD4
    ·exact hO4.drewN 4
    ·show d4=rowAt (sW d k) (5*k);rw[<-HE.out,Hi.out];unfold rowAt;rw[Q0.out,Q1.out,Q2.out,Q3.out,Q4.out,Hd0.out,Hd1.out,Hd2.out,Hd3.out,Hd4.out]
  ·have hk5:k=5:=by omega
   subst hk5;go_wp2
   go_end0
   refine⟨rfl,hO,?_⟩;show Holds enc _ b off (sW d 5);rw[<-HE.out];exact hD
end SP
namespace SP
open Go.RowKit Go.Sort
attribute [local go_sem] cL cV cP l8
theorem Dt(j:Nat)(hj:j<7):∃p:Nat,wrap64 (wrap64 ((2:Int)^j)-1)=(p:Int)/\p<=63/\Hid (2^j-1=p):=by
 have H:∀j:Fin 7,wrap64 (wrap64 ((2:Int)^j.val)-1)=((2^j.val-1:Nat):Int)/\2^j.val-1<=63:=by decide +kernel
 exact⟨_,(H ⟨j,hj⟩).1,(H ⟨j,hj⟩).2,rfl⟩
theorem mZ(r:Nat)(w:World)(hr:r<256):
 Calls prog 192 #[.int .i64 r] w fun e w'=>e=.returned (.tuple #[.int .u64 (u (rcC r)),.int .i64 (rcN r:Int)])/\w'=w:=by
 go_enter Tryz.func192,Tryz.ntmps192;go_wp2
 go_loop [0,2,6] (fun s0 s2 s6=>∃j:Nat,j<=7/\∃(c:BitVec 64) (q:Nat),s6=.int .i64 j/\s2=.int .u64 (u c)/\s0=.int .i64 q/\q<256/\Hid (rK r j=(c,q))) (fun _ _ s6=>7-(intOf s6).toNat)
 case atStart=>exact⟨0,by decide,0,r,rfl,rfl,rfl,hr,rfl⟩
 case round =>
  obtain⟨j,hj,c,q,rfl,rfl,rfl,hq,HE⟩:=hrel;by_cases hlt:j<7
  ·have a1:=EM q hq;have a2:=EL q hq;obtain⟨p,a3,hp,HP⟩:=Dt j hlt;have HC:Hid (rK r (j+1)=(c ||| QM 64 (q%2) <<< p,jS q)):=by
    show((rK r j).1 ||| QM 64 ((rK r j).2%2) <<< (2^j-1),jS (rK r j).2)=_;rw[HE.out,HP.out]
   have hs:=t8 (QM 64 (q%2)) p;have hlt2:=rL q hq;by_cases h255:255<2*q
   ·have HR:Hid (jS q=2*q ^^^ 369):=if_pos h255;rw[HR.out]at hlt2;generalize 2*q ^^^ 369=q2 at *;go_wp2
    go_round
    case rel=>exact⟨j+1,by omega,_,q2,by go_num,rfl,rfl,hlt2,by rw[HC.out,HR.out];rfl⟩
    case measure=>simp[intOf];omega
   ·have HR:Hid (jS q=2*q):=if_neg h255;go_wp2
    go_round
    case rel=>exact⟨j+1,by omega,_,2*q,by go_num,rfl,by go_num,by omega,by rw[HC.out,HR.out];rfl⟩
    case measure=>simp[intOf];omega
  ·have hj7:j=7:=by omega
   subst hj7;go_wp2
   go_ret2
   unfold rcC rcN;rw[HE.out];exact⟨rfl,rfl⟩
theorem pO(b off:Nat)(d:St)(w:World)(hd:d.size=25)(hH:Holds enc w b off d):
 Calls prog 181 #[.pointer (some ⟨b,off,none⟩)] w fun e w'=>e=.returned (.tuple #[])/\Only b off 25 w w'/\Holds enc w' b off (perm d):=by
 go_enter Tryz.func181,Tryz.ntmps181;go_wp2;go_loopg [2,3,4] 24 (fun g sc sr sk wr=>∃(k:Nat) (c:BitVec 64) (dk:St),k+g=24/\sk=.int .i64 k/\sc=.int .u64 (u c)/\sr=.int .i64 (tO k:Nat)/\Holds enc wr b off dk/\Only b off 25 w wr/\Hid (dk=kJ d k))
 case atStart=>exact⟨0,0,d,rfl,rfl,rfl,rfl,hH,Only.refl _ _ _ _,rfl⟩
 case round =>
  obtain⟨k,c,dk,hk,rfl,rfl,rfl,hD,hO,HE⟩:=hrel;have hs:dk.size=25:=by rw[HE.out,kH d hd]
  by_cases hlt:k<24
  ·have k24:(k:Int)<24:=by omega
   go_wp2_with fail
   refine(sE b off dk _ hs hD).mono ?_;rintro e w1 ⟨rfl,hO1,hD1⟩;go_wp2_with fail
   refine(pZ b off _ _ (by rw[fZ,hs]) hD1).mono ?_;rintro e w2 ⟨rfl,hO2,hD2⟩;go_wp2_with fail
   refine(yM b off _ _ (jF _ (by rw[fZ,hs])) hD2).mono ?_;rintro e w3 ⟨rfl,hO3,hD3⟩;have HN:Hid (tO (k+1)=rcN (tO k)):=rfl;have HK:Hid (kJ d (k+1)=kM (kJ d k) (rcC (tO k))):=rfl;have hrl:=Hm k;generalize tO k=r at *;go_wp2_with fail
   refine(mZ r _ hrl).mono ?_;rintro e w4 ⟨rfl,rfl⟩;have hs3:(chi (m5 (pJ dk))).size=25:=by rw[zE,jF _ (by rw[fZ,hs])]
   obtain⟨x,hx⟩:∃x,(chi (m5 (pJ dk)))[0]! = x:=⟨_,rfl⟩
   obtain⟨c0,f0⟩:=aS hD3 0 (by omega) hx;rw[P9]at c0 f0;have HX:Hid ((chi (m5 (pJ dk)))[0]! = x):=hx;clear hx;go_wp2_with fail
   go_region
   go_wp2;go_roundg (gk-1)
   case measure=>omega
   case rel =>
    refine⟨k+1,rcC r,kM dk (rcC r),by omega,by go_num,rfl,by rw[HN.out],?_,?_,?_⟩
    ·exact Holds.drew (Holds.xor (i:=0) hD3 (by omega) HX.out (rcC r))
    ·exact((((hO.trans hO1).trans hO2).trans hO3).setCell (o:=off) (by omega) (by omega) _).drew
    ·rw[HK.out,HE.out];rfl
  ·have hk24:k=24:=by omega
   subst hk24;go_wp2
   go_end0
   refine⟨rfl,hO,?_⟩;unfold perm;rw[<-HE.out];exact hD
end SP
namespace SP
open Go.RowKit Go.Sort Go.Deep
attribute [local go_sem] cL cV cP l8 vI
theorem nX{w:World}{b off:Nat}{d:Bs}(h:Holds encB w b off d)(i:Nat)(hi:i<d.size){x:UInt8}(hx:d[i]! = x):
 w.cell? ⟨b,off+i,none⟩=some (.int .u8 (ub x))/\w.frozen? ⟨b,off+i,none⟩=false:=by
 rw[<-hx];exact h i hi
theorem word_any(sb so o len cap:Nat)(bs:Bs)(w:World)(hB:Holds encB w sb so bs)(h8:8<=len)(ho:o+8<=bs.size)(hl:len<=4611686018427387904):
 Calls prog 193 #[.slice (some ⟨sb,so+o,none⟩) len cap] w fun e w'=>e=.returned (.int .u64 (u (wordOf bs o)))/\w'=w:=by
 go_enter Tryz.func193,Tryz.ntmps193;go_wp2
 go_loop [3,5] (fun s3 s5=>∃(k:Nat) (c:BitVec 64),k<=8/\s5=.int .i64 k/\s3=.int .u64 (u c)/\Hid (iH bs o k=c)) (fun _ s5=>8-(intOf s5).toNat)
 case atStart=>exact⟨0,0,by decide,rfl,rfl,rfl⟩
 case round =>
  obtain⟨k,c,hk,rfl,rfl,HE⟩:=hrel;by_cases hlt:k<8
  ·obtain⟨x,hx⟩:∃x,bs[o+k]! = x:=⟨_,rfl⟩
   obtain⟨c0,f0⟩:=nX hB (o+k) (by omega) hx;rw[<-Qa]at c0;have HC:Hid (iH bs o (k+1)=c ||| wide x <<< (8*k)):=by
    show iH bs o k ||| wide bs[o+k]! <<< (8*k)=_
    rw[HE.out,hx]
   clear hx f0;have hs:=t8 (wide x) (8*k);have k8:(k:Int)<(len:Int):=by omega
   go_wp2
   go_round
   case rel=>exact⟨k+1,_,by omega,by go_num,rfl,HC⟩
   case measure=>simp[intOf];omega
  ·have hk8:k=8:=by omega
   subst hk8;go_wp2;go_ret;unfold wordOf;rw[HE.out];exact⟨rfl,rfl⟩
theorem Iy(b off sb so len cap:Nat)(bs:Bs)(d:St)(w:World)(hd:d.size=25)(hH:Holds enc w b off d)(hB:Holds encB w sb so bs)(hl:bs.size=len)(hlen:len<=200)(hcap:len<=cap)
 (hdis:sb≠b\/so+len<=off\/off+25<=so) :
 Calls prog 183 #[.pointer (some ⟨b,off,none⟩),.slice (some ⟨sb,so,none⟩) len cap] w fun e w'=>e=.returned (.tuple #[])/\Only b off 25 w w'/\Holds enc w' b off (dU bs d (len/8)):=by
 go_enter Tryz.func183,Tryz.ntmps183;go_wp2;go_loopg [8] (len/8) (fun g s8 wr=>∃(k:Nat) (dk:St),k+g=len/8/\s8=.int .i64 k/\Holds enc wr b off dk/\Only b off 25 w wr/\Hid (dk=dU bs d k))
 case atStart=>exact⟨0,d,by omega,rfl,hH,Only.refl _ _ _ _,rfl⟩
 case round =>
  obtain⟨k,dk,hk,rfl,hD,hO,HE⟩:=hrel;have hs:dk.size=25:=by rw[HE.out,cT,hd]
  by_cases hlt:k<len/8
  ·have hBr:Holds encB wr sb so bs:=by
    by_cases hsb:sb=b
    ·subst hsb;exact Holds.same hB hO (by omega)
    ·exact Holds.other hB hO hsb (by omega)
   obtain⟨x,hx⟩:∃x,dk[k]! = x:=⟨_,rfl⟩
   obtain⟨c0,f0⟩:=aS hD k (by omega) hx;have HX:Hid (dk[k]! = x):=hx;clear hx;have r0:(k:Int)<25:=by omega
   have r1:(0:Int)<=(k:Int)*8:=by omega
   have r2:(k:Int)*8<=(len:Int):=by omega
   have r3:((k:Int)*8).toNat=8*k:=by omega
   have s1:OZ.wrap ((k:Int)*8)=(k:Int)*8:=Pa _ (by omega);have lt:(k:Int)<(len:Int)/8:=by omega
   go_wp2_with fail
   have hne:(cap=8*k)=False:=eq_false (by omega);have HB:Hid (Holds encB wr.drew sb so bs):=Holds.drew hBr;have Q4:Hid (8*k+8<=bs.size):=by show _<=_;omega
   clear hBr;go_region_with (go_at_call 193;refine(word_any sb so (8*k) (len-8*k) (cap-8*k) bs _ HB.out (by omega) Q4.out (by omega)).mono ?_;rintro e w2 ⟨rfl,rfl⟩)
   all_goals
    go_wp2;go_roundg (gk-1)
    case measure=>omega
    case rel =>
     refine⟨k+1,bI dk k (wordOf bs (8*k)),by omega,by go_num,?_,?_,?_⟩
     ·exact Holds.drew (Holds.xor hD (by omega) HX.out _)
     ·exact(hO.setCell (o:=off+k) (by omega) (by omega) _).drew
     ·rw[HE.out];rfl
  ·have hk8:k=len/8:=by omega
   have lt:(len:Int)/8<=(k:Int):=by omega
   go_wp2
   go_end0
   refine⟨rfl,hO,?_⟩;rw[<-hk8,<-HE.out];exact hD
theorem slice22:prog.underlying 22=some (.slice 5):=by kernel_rfl
theorem info5:(prog.info? 5).map (fun i=>(i.zero,i.size,i.bytes))=some (some (.int .u8 0),1,1):=by kernel_rfl
attribute [local go_sem] Jk
theorem pB(b off n:Nat)(d:St)(w:World)(hd:d.size=25)(hH:Holds enc w b off d)(hn:n<=200):
 Calls prog 120 #[.pointer (some ⟨b,off,none⟩),.int .i64 n] w fun e w'=>e=.returned (.slice (some ⟨w.heap.size,0,none⟩) n n)/\Below w.heap.size w w'/\Holds encB w' w.heap.size 0 (front d n):=by
 have hb:=Holds.lt hH (by omega);have hmk:=run_make_row' (P:=prog) 22 5 (.int .u8 0) 1 slice22 info5 rfl .i64 .i64 n (by omega) (by omega);go_enter Tryz.func120,Tryz.ntmps120;go_wp2;generalize hW1:(w.alloc _)=W1;go_loopg [11] n (fun g s11 wr=>∃(k:Nat) (bs:Bs),k+g=n/\s11=.int .i64 k/\Holds encB wr w.heap.size 0 bs/\Only w.heap.size 0 n W1 wr/\Hid (bs=dH d n k))
 case atStart =>
  refine⟨0,_,by omega,rfl,?_,Only.refl _ _ _ _,rfl⟩;rw[<-hW1];exact Holds.made (enc:=encB) w 5 n 0
 case round =>
  obtain⟨k,bs,hk,rfl,hB,hO,HE⟩:=hrel;have hs:bs.size=n:=by rw[HE.out,fQ]
  have hD:Holds enc wr b off d:=Holds.other (by rw[<-hW1];exact Holds.below hH ((Ow _ _).alloc (Oh _) _) hb) hO (by omega) (by omega);by_cases hlt:k<n
  ·obtain⟨x,hx⟩:∃x,d[k/8]! = x:=⟨_,rfl⟩
   obtain⟨c0,f0⟩:=aS hD (k/8) (by omega) hx;obtain⟨c1,f1⟩:=hB k (by omega);rw[Om]at c1 f1;have HX:Hid (byteOf d k=low (x >>> (8*(k%8)))):=by show low _=_;rw[hx]
   clear hx f0;have r0:(k:Int)/8<25:=by omega
   have r1:(k:Int)<(n:Int):=by omega
   have hsr:=BQ x (8*(k%8));go_wp2;go_roundg (gk-1)
   case measure=>omega
   case rel =>
    refine⟨k+1,bs.setIfInBounds k (low (x >>> (8*(k%8)))),by omega,by go_num,?_,?_,?_⟩
    ·have:=Holds.set hB (i:=k) (by omega) (low (x >>> (8*(k%8))));rw[Om]at this;exact this
    ·exact hO.setCell (o:=k) (by omega) (by omega) _
    ·show _=(dH d n k).setIfInBounds k (byteOf d k);rw[HX.out,HE.out]
  ·have hkn:k=n:=by omega
   have lt:(n:Int)<=(k:Int):=by omega
   go_wp2;go_ret;refine⟨rfl,?_,?_⟩
   ·rw[<-hW1]at hO;exact hO.fresh
   ·unfold front;rw[HE.out,hkn]at hB;exact hB
end SP
namespace SP
open Go.RowKit
def encI(n:Nat):Value:=.int .i64 n
def sT(a:St)(x:Nat)(c:St):Nat->St
 | 0=>c
 | y+1=>bI (sT a x c y) x a[x+5*y]!
def kP(a:St):Nat->St
 | 0=>Oj 5 0
 | x+1=>sT a x (kP a x) 5
def sC(a:St)(tn:Array Nat)(x:Nat)(v:BitVec 64)(m:St):Nat->St
 | 0=>m
 | y+1=>(sC a tn x v m y).setIfInBounds (y%5+5*((2*x+3*y)%5)) (rol (a[x+5*y]! ^^^ v) tn[x+5*y]!)
def kK(a:St)(tn:Array Nat)(c:St):Nat->St
 | 0=>Oj 25 0
 | x+1=>sC a tn x (bR c x) (kK a tn c x) 5
def rV(m:St)(x:Nat)(o:St):Nat->St
 | 0=>o
 | y+1=>(rV m x o y).setIfInBounds (x+5*y) (m[x+5*y]! ^^^ (~~~m[(x+1)%5+5*y]! &&& m[(x+2)%5+5*y]!))
def lY(m:St):Nat->St
 | 0=>Oj 25 0
 | x+1=>rV m x (lY m x) 5
def dK(a:St)(tn:Array Nat)(c:BitVec 64):St:=bI (lY (kK a tn (kP a 5) 5) 5) 0 c
theorem sS(a:St)(x:Nat)(c:St)(y:Nat):(sT a x c y).size=c.size:=by
 induction y with
 | zero=>rfl
 | succ y ih=>simp[sT,bZ,ih]
theorem Bg(a:St)(x:Nat):(kP a x).size=5:=by
 induction x with
 | zero=>simp[kP]
 | succ x ih=>simp[kP,sS,ih]
theorem sA(a:St)(tn:Array Nat)(x:Nat)(v:BitVec 64)(m:St)(y:Nat):(sC a tn x v m y).size=m.size:=by
 induction y with
 | zero=>rfl
 | succ y ih=>simp[sC,ih]
theorem AU(a:St)(tn:Array Nat)(c:St)(x:Nat):(kK a tn c x).size=25:=by
 induction x with
 | zero=>simp[kK]
 | succ x ih=>simp[kK,sA,ih]
theorem rU(m:St)(x:Nat)(o:St)(y:Nat):(rV m x o y).size=o.size:=by
 induction y with
 | zero=>rfl
 | succ y ih=>simp[rV,ih]
theorem rT(m:St)(x:Nat):(lY m x).size=25:=by
 induction x with
 | zero=>simp[lY]
 | succ x ih=>simp[lY,rU,ih]
theorem tN(a:St)(tn:Array Nat)(c:BitVec 64):(dK a tn c).size=25:=by simp[dK,bZ,rT]
structure Of where
 x:Nat
 y:Nat
 o:Array Nat
def iK:Nat->Of
 | 0=>{ x:=1,y:=0,o:=Oj 25 0 }
 | t+1=>{ x:=(iK t).y,y:=(2*(iK t).x+3*(iK t).y)%5,o:=(iK t).o.setIfInBounds ((iK t).x%5+5*((iK t).y%5)) (rY t) }
def cG:Array Nat:=(iK 24).o
theorem Iu(t:Nat):(iK t).x<5/\(iK t).y<5/\(iK t).o.size=25:=by
 induction t with
 | zero=>exact⟨show 1<5 by decide,show 0<5 by decide,show(Oj 25 0).size=25 by simp⟩
 | succ t ih =>
  obtain⟨h1,h2,h3⟩:=ih;refine⟨h2,?_,?_⟩
  ·show(2*(iK t).x+3*(iK t).y)%5<5;omega
  ·show((iK t).o.setIfInBounds _ _).size=25;rw[O6,h3]
def xR:Nat->Nat
 | 0=>1
 | i+1=>jS (xR i)
def IY(t:Nat):BitVec 64:=QM 64 (xR t%2)
def zC(r:Nat):Nat->BitVec 64
 | 0=>0
 | j+1=>zC r j ||| IY (j+7*r) <<< (2^j-1)
def Be(r:Nat):BitVec 64:=zC r 7
def xT(d:St):Nat->St
 | 0=>d
 | k+1=>dK (xT d k) cG (Be k)
end SP
namespace SP
theorem Lc:∀k:Fin 24,Be k.val=rcC (tO k.val):=by decide +kernel
theorem rX:cG=#[0,1,62,28,27,36,44,6,55,20,3,10,43,25,39,41,45,15,21,8,18,2,61,56,14]:=by decide +kernel
theorem EG(x:BitVec 64):rol x 0=x:=by
 unfold rol;rw[BitVec.shiftLeft_zero,So,BitVec.ushiftRight_eq_zero (Oh 64),BitVec.or_zero]
theorem zx(x:BitVec 64):0 ^^^ x=x:=BitVec.zero_xor
theorem IK(a0 a1 a2 a3 a4 a5 a6 a7 a8 a9 a10 a11 a12 a13 a14 a15 a16 a17 a18 a19 a20 a21 a22 a23 a24:BitVec 64):kP #[a0,a1,a2,a3,a4,a5,a6,a7,a8,a9,a10,a11,a12,a13,a14,a15,a16,a17,a18,a19,a20,a21,a22,a23,a24] 5=#[0 ^^^ a0 ^^^ a5 ^^^ a10 ^^^ a15 ^^^ a20,0 ^^^ a1 ^^^ a6 ^^^ a11 ^^^ a16 ^^^ a21,0 ^^^ a2 ^^^ a7 ^^^ a12 ^^^ a17 ^^^ a22,0 ^^^ a3 ^^^ a8 ^^^ a13 ^^^ a18 ^^^ a23,0 ^^^ a4 ^^^ a9 ^^^ a14 ^^^ a19 ^^^ a24]:=by kernel_rfl
theorem Em(a0 a1 a2 a3 a4 a5 a6 a7 a8 a9 a10 a11 a12 a13 a14 a15 a16 a17 a18 a19 a20 a21 a22 a23 a24:BitVec 64):iZ #[a0,a1,a2,a3,a4,a5,a6,a7,a8,a9,a10,a11,a12,a13,a14,a15,a16,a17,a18,a19,a20,a21,a22,a23,a24] 5=#[a0 ^^^ a5 ^^^ a10 ^^^ a15 ^^^ a20,a1 ^^^ a6 ^^^ a11 ^^^ a16 ^^^ a21,a2 ^^^ a7 ^^^ a12 ^^^ a17 ^^^ a22,a3 ^^^ a8 ^^^ a13 ^^^ a18 ^^^ a23,a4 ^^^ a9 ^^^ a14 ^^^ a19 ^^^ a24]:=by kernel_rfl
theorem Ld(a0 a1 a2 a3 a4 a5 a6 a7 a8 a9 a10 a11 a12 a13 a14 a15 a16 a17 a18 a19 a20 a21 a22 a23 a24:BitVec 64):kP #[a0,a1,a2,a3,a4,a5,a6,a7,a8,a9,a10,a11,a12,a13,a14,a15,a16,a17,a18,a19,a20,a21,a22,a23,a24] 5=iZ #[a0,a1,a2,a3,a4,a5,a6,a7,a8,a9,a10,a11,a12,a13,a14,a15,a16,a17,a18,a19,a20,a21,a22,a23,a24] 5:=by
 rw[IK,Em];simp only[zx]
theorem Iw(S:St)(a0 a1 a2 a3 a4 a5 a6 a7 a8 a9 a10 a11 a12 a13 a14 a15 a16 a17 a18 a19 a20 a21 a22 a23 a24:BitVec 64):kK #[a0,a1,a2,a3,a4,a5,a6,a7,a8,a9,a10,a11,a12,a13,a14,a15,a16,a17,a18,a19,a20,a21,a22,a23,a24] #[0,1,62,28,27,36,44,6,55,20,3,10,43,25,39,41,45,15,21,8,18,2,61,56,14] S 5=#[rol (a0 ^^^ bR S 0) 0,rol (a6 ^^^ bR S 1) 44,rol (a12 ^^^ bR S 2) 43,rol (a18 ^^^ bR S 3) 21,rol (a24 ^^^ bR S 4) 14,rol (a3 ^^^ bR S 3) 28,rol (a9 ^^^ bR S 4) 20,rol (a10 ^^^ bR S 0) 3,rol (a16 ^^^ bR S 1) 45,rol (a22 ^^^ bR S 2) 61,rol (a1 ^^^ bR S 1) 1,rol (a7 ^^^ bR S 2) 6,rol (a13 ^^^ bR S 3) 25,rol (a19 ^^^ bR S 4) 8,rol (a20 ^^^ bR S 0) 18,rol (a4 ^^^ bR S 4) 27,rol (a5 ^^^ bR S 0) 36,rol (a11 ^^^ bR S 1) 10,rol (a17 ^^^ bR S 2) 15,rol (a23 ^^^ bR S 3) 56,rol (a2 ^^^ bR S 2) 62,rol (a8 ^^^ bR S 3) 55,rol (a14 ^^^ bR S 4) 39,rol (a15 ^^^ bR S 0) 41,rol (a21 ^^^ bR S 1) 2]:=by kernel_rfl
theorem He(S:St)(a0 a1 a2 a3 a4 a5 a6 a7 a8 a9 a10 a11 a12 a13 a14 a15 a16 a17 a18 a19 a20 a21 a22 a23 a24:BitVec 64):m5 (gV S #[a0,a1,a2,a3,a4,a5,a6,a7,a8,a9,a10,a11,a12,a13,a14,a15,a16,a17,a18,a19,a20,a21,a22,a23,a24] 5)=#[a0 ^^^ bR S 0,rol (a6 ^^^ bR S 1) 44,rol (a12 ^^^ bR S 2) 43,rol (a18 ^^^ bR S 3) 21,rol (a24 ^^^ bR S 4) 14,rol (a3 ^^^ bR S 3) 28,rol (a9 ^^^ bR S 4) 20,rol (a10 ^^^ bR S 0) 3,rol (a16 ^^^ bR S 1) 45,rol (a22 ^^^ bR S 2) 61,rol (a1 ^^^ bR S 1) 1,rol (a7 ^^^ bR S 2) 6,rol (a13 ^^^ bR S 3) 25,rol (a19 ^^^ bR S 4) 8,rol (a20 ^^^ bR S 0) 18,rol (a4 ^^^ bR S 4) 27,rol (a5 ^^^ bR S 0) 36,rol (a11 ^^^ bR S 1) 10,rol (a17 ^^^ bR S 2) 15,rol (a23 ^^^ bR S 3) 56,rol (a2 ^^^ bR S 2) 62,rol (a8 ^^^ bR S 3) 55,rol (a14 ^^^ bR S 4) 39,rol (a15 ^^^ bR S 0) 41,rol (a21 ^^^ bR S 1) 2]:=by kernel_rfl
theorem Kx(S:St)(a0 a1 a2 a3 a4 a5 a6 a7 a8 a9 a10 a11 a12 a13 a14 a15 a16 a17 a18 a19 a20 a21 a22 a23 a24:BitVec 64):kK #[a0,a1,a2,a3,a4,a5,a6,a7,a8,a9,a10,a11,a12,a13,a14,a15,a16,a17,a18,a19,a20,a21,a22,a23,a24] cG S 5=m5 (gV S #[a0,a1,a2,a3,a4,a5,a6,a7,a8,a9,a10,a11,a12,a13,a14,a15,a16,a17,a18,a19,a20,a21,a22,a23,a24] 5):=by
 rw[rX,Iw,He,EG]
theorem Ko(a0 a1 a2 a3 a4 a5 a6 a7 a8 a9 a10 a11 a12 a13 a14 a15 a16 a17 a18 a19 a20 a21 a22 a23 a24:BitVec 64):lY #[a0,a1,a2,a3,a4,a5,a6,a7,a8,a9,a10,a11,a12,a13,a14,a15,a16,a17,a18,a19,a20,a21,a22,a23,a24] 5=chi #[a0,a1,a2,a3,a4,a5,a6,a7,a8,a9,a10,a11,a12,a13,a14,a15,a16,a17,a18,a19,a20,a21,a22,a23,a24]:=by kernel_rfl
theorem KC{α:Type}(l:List α)(h:l.length=25):∃a0 a1 a2 a3 a4 a5 a6 a7 a8 a9 a10 a11 a12 a13 a14 a15 a16 a17 a18 a19 a20 a21 a22 a23 a24,l=[a0,a1,a2,a3,a4,a5,a6,a7,a8,a9,a10,a11,a12,a13,a14,a15,a16,a17,a18,a19,a20,a21,a22,a23,a24]:=by
 match l,h with
 | [a0,a1,a2,a3,a4,a5,a6,a7,a8,a9,a10,a11,a12,a13,a14,a15,a16,a17,a18,a19,a20,a21,a22,a23,a24],_=>exact⟨_,_,_,_,_,_,_,_,_,_,_,_,_,_,_,_,_,_,_,_,_,_,_,_,_,rfl⟩
theorem JA{α:Type}(d:Array α)(h:d.size=25):∃a0 a1 a2 a3 a4 a5 a6 a7 a8 a9 a10 a11 a12 a13 a14 a15 a16 a17 a18 a19 a20 a21 a22 a23 a24,d=#[a0,a1,a2,a3,a4,a5,a6,a7,a8,a9,a10,a11,a12,a13,a14,a15,a16,a17,a18,a19,a20,a21,a22,a23,a24]:=by
 obtain⟨l⟩:=d;obtain⟨a0,a1,a2,a3,a4,a5,a6,a7,a8,a9,a10,a11,a12,a13,a14,a15,a16,a17,a18,a19,a20,a21,a22,a23,a24,rfl⟩:=KC l h;exact⟨_,_,_,_,_,_,_,_,_,_,_,_,_,_,_,_,_,_,_,_,_,_,_,_,_,rfl⟩
theorem Ik(m:St)(h:m.size=25):lY m 5=chi m:=by
 obtain⟨a0,a1,a2,a3,a4,a5,a6,a7,a8,a9,a10,a11,a12,a13,a14,a15,a16,a17,a18,a19,a20,a21,a22,a23,a24,rfl⟩:=JA m h;exact Ko _ _ _ _ _ _ _ _ _ _ _ _ _ _ _ _ _ _ _ _ _ _ _ _ _
theorem round_eq(d:St)(h:d.size=25)(c:BitVec 64):dK d cG c=kM d c:=by
 have hm:kK d cG (kP d 5) 5=m5 (pJ d):=by
  obtain⟨a0,a1,a2,a3,a4,a5,a6,a7,a8,a9,a10,a11,a12,a13,a14,a15,a16,a17,a18,a19,a20,a21,a22,a23,a24,rfl⟩:=JA d h;rw[Ld,Kx];rfl
 unfold dK kM;rw[hm,Ik _ (jF _ (by rw[fZ,h]))]
theorem EI(d:St)(h:d.size=25)(k:Nat)(hk:k<=24):xT d k=kJ d k:=by
 induction k with
 | zero=>rfl
 | succ k ih =>
  show dK (xT d k) cG (Be k)=kM (kJ d k) (rcC (tO k));rw[ih (by omega),Lc ⟨k,by omega⟩,round_eq _ (kH d h k)]
theorem AP:∀i,i<25->cG[i]! < 64:=by
 intro i hi;have H:∀j:Fin 25,cG[j.val]! < 64:=by decide +kernel
 exact H ⟨i,hi⟩
theorem jJ:cG.size=25:=by rw[rX];rfl
end SP
namespace SP
open Go.Sort
def bX:St:=Oj 25 0
def fA(bs:Bs):Bs:=front (perm (dU bs bX 25)) 200
def mI(bs:Bs):Nat->St
 | 0=>bX
 | i+1=>(mI bs i).setIfInBounds (i/8) ((mI bs i)[i/8]! ||| wide bs[i]! <<< (8*(i%8)))
theorem iS(bs:Bs)(i:Nat):(mI bs i).size=25:=by
 induction i with
 | zero=>simp[mI,bX]
 | succ i ih=>simp[mI,ih]
theorem fS(j:Nat)(h:j<25):bX[j]! = 0:=by
 have h':j<(Oj 25 (0:BitVec 64)).size:=by rw[Ou];exact h
 unfold bX;rw[getElem!_pos (Oj 25 (0:BitVec 64)) j h',Pr]
theorem Ip(bs:Bs)(n j:Nat)(hn:n<=200)(hj:j<25):
 (mI bs n)[j]! = if j<n/8 then wordOf bs (8*j) else if j=n/8 then iH bs (8*j) (n%8) else 0:=by
 induction n with
 | zero =>
  rw[mI,fS j hj];by_cases h:j=0
  ·subst h;rfl
  ·simp[h]
 | succ n ih =>
  have ih:=ih (by omega);rw[mI];by_cases hjn:j=n/8
  ·rw[<-hjn,getElem!_set_same _ _ _ (by rw[iS];omega),ih,if_neg (by omega),if_pos hjn];have hb:bs[n]! = bs[8*j+n%8]!:=by
    have:n=8*j+n%8:=by omega
    rw[<-this]
   rw[hb];show iH bs (8*j) (n%8+1)=_;by_cases h8:n%8=7
   ·rw[if_pos (by omega),h8];rfl
   ·rw[if_neg (by omega),if_pos (by omega),show(n+1)%8=n%8+1 by omega]
  ·rw[getElem!_set_other _ _ _ _ hjn,ih];by_cases h1:j<n/8
   ·rw[if_pos h1,if_pos (by omega)]
   ·rw[if_neg h1,if_neg hjn,if_neg (by omega)];by_cases h2:j=(n+1)/8
    ·rw[if_pos h2,show(n+1)%8=0 by omega];rfl
    ·rw[if_neg h2]
theorem nI(bs:Bs)(d:St)(hd:d.size=25)(n j:Nat)(hn:n<=25)(hj:j<25):(dU bs d n)[j]! = if j<n then d[j]! ^^^ wordOf bs (8*j) else d[j]!:=by
 induction n with
 | zero=>rfl
 | succ n ih =>
  have ih:=ih (by omega);rw[dU];unfold bI;by_cases hjn:j=n
  ·rw[<-hjn,getElem!_set_same _ _ _ (by rw[cT,hd];exact hj),if_pos (by omega)];rw[<-hjn]at ih;rw[ih,if_neg (by omega)]
  ·rw[getElem!_set_other _ _ _ _ hjn,ih];by_cases h1:j<n
   ·rw[if_pos h1,if_pos (by omega)]
   ·rw[if_neg h1,if_neg (by omega)]
theorem Ao(a b:St)(ha:a.size=25)(hb:b.size=25)(h:∀j,j<25->a[j]! = b[j]!):a=b:=by
 apply Tk (by omega);intro i h1 h2;have:=h i (by omega);rwa[getElem!_pos a i h1,getElem!_pos b i h2]at this
theorem Kr(bs:Bs):mI bs 200=dU bs bX 25:=by
 have hz:bX.size=25:=by simp[bX]
 refine Ao _ _ (iS _ _) (by rw[cT,hz]) (fun j hj=>?_);rw[Ip bs 200 j (Oh _) hj,nI bs bX hz 25 j (Oh _) hj,if_pos (by omega),if_pos hj,fS j hj,zx]
theorem De(bs:Bs):front (xT (mI bs 200) 24) 200=fA bs:=by
 have hz:bX.size=25:=by simp[bX]
 rw[EI _ (iS _ _) 24 (Oh _),Kr];rfl
end SP
namespace SP
open Go.RowKit Go.Sort
end SP
namespace SP
open Go.RowKit Go.Sort
def fill(i:Nat):UInt8:=Oq (i%251) ^^^ 165
def lentTo(s:ByteArray):Nat->Bs
 | 0=>s.data++Oj 160 0
 | k+1=>(lentTo s k).setIfInBounds (s.size+k) (fill (s.size+k))
def lent(s:ByteArray):Bs:=lentTo s 160
variable {w w1:World}{b o n:Nat}
theorem heap_setCells(b:Nat){k:Nat}(hk:k≠b):∀(vs:List Value) (p:Nat) (w:World),(w.setCells b p vs).heap[k]? = w.heap[k]?
 | [],_,_=>rfl
 | v :: r,p,w=>by rw[World.setCells,heap_setCells b hk r (p+1) _,SN _ _ _ _ hk]
theorem Only.setCells(h:Only b o n w w1)(vs:List Value)(p:Nat)(hp:o<=p)(hn:p+vs.length<=o+n):Only b o n w (w1.setCells b p vs):=by
 have h0:=below_setCells (B:=0) (b:=b) (QB _) vs p w1 (Ow 0 w1);exact h.trans ⟨h0.os,h0.tape,h0.output,h0.size,fun k _ hk=>heap_setCells b hk vs p w1,
  fun q hq=>TC b vs p w1 ⟨b,q,none⟩ (fun _ _=>by simp only;omega),fun q=>TI b vs p w1 _⟩
theorem Holds.setCells{bs r:Bs}(h:Holds encB w b o bs)(vs:List Value)(p:Nat)(hr:r.size=bs.size)(hp:p+vs.length<=bs.size)
 (h1:∀j (hj:j<vs.length),vs[j]=encB r[p+j]!) (h2:∀j,j<bs.size->j<p\/p+vs.length<=j->r[j]! = bs[j]!):Holds encB (w.setCells b (o+p) vs) b o r:=by
 intro j hj;rw[hr]at hj;rw[TI];refine⟨?_,(h j hj).2⟩;by_cases hin:j<p\/p+vs.length<=j
 ·rw[TC b vs (o+p) w ⟨b,o+j,none⟩ (fun _ _=>by simp only;omega),h2 j hj hin];exact(h j hj).1
 ·have hj2:j-p<vs.length:=by omega
  have:=World.cell?_setCells_in b vs (o+p) w (fun i hi=>by
   have:=(h (p+i) (by omega)).1;rw[<-Qa]at this;rw[this];rfl) (j-p) hj2
  rw[show o+p+(j-p)=o+j by omega]at this;rw[this,h1 (j-p) hj2,show p+(j-p)=j by omega]
theorem app_front(a r:Bs)(j:Nat)(hj:j<a.size):(a++r)[j]! = a[j]:=by
 have h:j<(a++r).size:=by rw[ON];omega
 rw[getElem!_pos (a++r) j h,Array.getElem_append_left hj]
theorem app_back(a r:Bs)(j:Nat)(h1:a.size<=j)(h2:j<a.size+r.size):(a++r)[j]! = r[j-a.size]!:=by
 have h:j<(a++r).size:=by rw[ON];omega
 have h3:j-a.size<r.size:=by omega
 rw[getElem!_pos (a++r) j h,Array.getElem_append_right h1,getElem!_pos r (j-a.size) h3]
theorem rep_at(n j:Nat)(h:j<n):(Oj n (0:UInt8))[j]! = 0:=by
 have h':j<(Oj n (0:UInt8)).size:=by rw[Ou];exact h
 rw[getElem!_pos (Oj n (0:UInt8)) j h',Pr]
theorem conv_str(P:Program)(src dst e:TypeId)(hs:P.underlying src=some (.slice e))(he:P.underlying e=some (.int .u8))(hd:P.underlying dst=some .string)
 (w:World) (b o n cap:Nat) (bs:Bs) (hB:Holds encB w b o bs) (hn:bs.size=n):(convert src dst (.slice (some ⟨b,o,none⟩) n cap)).run P w=.ok (.string ⟨bs⟩) w:=by
 have h:=run_convert_bytes_back (P:=P) w src dst e ⟨b,o,none⟩ cap bs.toList hs he hd (fun j hj=>by
  have hj':j<bs.size:=by simpa using hj
  have hc:=(hB j hj').1;rw[getElem!_pos bs j hj']at hc;have e1:(⟨b,o,none⟩:Addr).add j=⟨b,o+j,none⟩:=by
   unfold S1;by_cases h0:j=0
   ·subst h0;rfl
   ·rw[if_neg h0]
  rw[e1,hc];simp[encB,ub])
 simpa[hn]using h
end SP
namespace SP
open Go.RowKit Go.Sort Go.Deep
theorem int5:prog.underlying 5=some (.int .u8):=by kernel_rfl
theorem str9:prog.underlying 9=some .string:=by kernel_rfl
end SP
namespace SP
open Go.Sort
/-! ### Words and bytes -/
theorem Ed(x : UInt8)(i : Nat): (wide x).getLsbD i=x.toNat.testBit i:=by
  unfold wide;rw[BitVec.getLsbD_ofNat];by_cases h : i<64
  · simp[h]
  · have : x.toNat.testBit i=false:=TT (Oi x.toNat_lt (Qk (by decide) (by omega : 8 <= i)))
    simp[h, this]
theorem tU(x:UInt8)(i:Nat)(h:8<=i):x.toNat.testBit i=false:=
 TT (Oi x.toNat_lt (Qk (by decide) h))
theorem mB(bs:Bs)(o n k:Nat)(hn:n<=8)(hk:k<64):(iH bs o n).getLsbD k=(decide (k<8*n) && (bs[o+k/8]!).toNat.testBit (k%8)):=by
 induction n with
 | zero=>simp[iH]
 | succ n ih =>
  rw[iH,BitVec.getLsbD_or,ih (by omega),BitVec.getLsbD_shiftLeft,Ed];by_cases h1:k<8*n
  ·simp[h1,hk,show k<8*(n+1) by omega]
  ·by_cases h2:k<8*(n+1)
   ·have e1:k/8=n:=by omega
    have e2:k-8*n=k%8:=by omega
    simp[h1,h2,hk,e1,e2]
   ·have:=tU bs[o+n]! (k-8*n) (by omega);simp[h1,h2,hk,this]
theorem low_bit(v:BitVec 64)(i:Nat)(h:i<8):(low v).toNat.testBit i=v.getLsbD i:=by
 unfold low;rw[RD,Nat.testBit_mod_two_pow,BitVec.getLsbD];simp[h]
theorem A8(d:St)(n k j:Nat)(hk:k<=n)(hj:j<n):(dH d n k)[j]! = if j<k then byteOf d j else 0:=by
 induction k with
 | zero =>
  have h':j<(Oj n (0:UInt8)).size:=by rw[Ou];exact hj
  rw[dH,getElem!_pos (Oj n (0:UInt8)) j h',Pr,if_neg (by omega)]
 | succ k ih =>
  rw[dH];by_cases h:j=k
  ·subst h;rw[getElem!_set_same _ _ _ (by rw[fQ];exact hj),if_pos (by omega)]
  ·rw[getElem!_set_other _ _ _ _ h,ih (by omega)];by_cases h1:j<k
   ·rw[if_pos h1,if_pos (by omega)]
   ·rw[if_neg h1,if_neg (by omega)]
theorem gC(d:St)(n j:Nat)(hj:j<n):(front d n)[j]! = byteOf d j:=by
 unfold front;rw[A8 d n n j (Oh _) hj,if_pos hj]
theorem qX(d:St)(n j:Nat)(hj:8*j+8<=n):wordOf (front d n) (8*j)=d[j]!:=by
 apply BitVec.eq_of_getLsbD_eq;intro k hk;unfold wordOf;rw[mB _ _ 8 k (Oh _) hk,gC d n _ (by omega)];unfold byteOf;have e1:(8*j+k/8)/8=j:=by omega
 have e2:(8*j+k/8)%8=k/8:=by omega
 rw[low_bit _ _ (Qf _ (by decide)),BitVec.getLsbD_ushiftRight,e1,e2,show 8*(k/8)+k%8=k by omega];simp[hk]
theorem DF(d:St)(hd:d.size=25):dU (front d 200) bX 25=d:=by
 have hz:bX.size=25:=by simp[bX]
 refine Ao _ _ (by rw[cT,hz]) hd (fun j hj=>?_);rw[nI _ bX hz 25 j (Oh _) hj,if_pos hj,fS j hj,zx,qX d 200 j (by omega)]
theorem yF(d:St)(hd:d.size=25):fA (front d 200)=front (perm d) 200:=by
 unfold fA;rw[DF d hd]
/-! ### The sponge, byte by byte -/
structure Sp where
  d : St
  p : Bs
  h : Nat
structure Ok(S:Sp):Prop where
 d25:S.d.size=25
 p136:S.p.size=136
 hlt:S.h<136
def gZ(S:Sp):Sp:={ d:=perm (dU S.p S.d 17),p:=S.p,h:=0 }
def tP(S:Sp)(x:UInt8):Sp:=
 if S.h+1=136 then gZ { d:=S.d,p:=S.p.setIfInBounds S.h x,h:=S.h } else { d:=S.d,p:=S.p.setIfInBounds S.h x,h:=S.h+1 }
def dA(S:Sp)(l:List UInt8):Sp:=l.foldl tP S
def splice(p:Bs):Nat->List UInt8->Bs
 | _,[]=>p
 | i,x :: r=>splice (p.setIfInBounds i x) (i+1) r
theorem dZ(S:Sp)(a b:List UInt8):dA S (a++b)=dA (dA S a) b:=List.foldl_append
theorem cE(p:Bs)(i:Nat)(l:List UInt8):(splice p i l).size=p.size:=by
 induction l generalizing p i with
 | nil=>rfl
 | cons x r ih=>rw[splice,ih,O6]
theorem eI(p:Bs)(i:Nat)(l:List UInt8)(j:Nat)(hl:i+l.length<=p.size)(hj:j<p.size):(splice p i l)[j]! = if i<=j/\j<i+l.length then l[j-i]! else p[j]!:=by
 induction l generalizing p i with
 | nil=>simp[splice];omega
 | cons x r ih =>
  simp only[OV]at hl;rw[splice,ih _ _ (by rw[O6];omega) (by rw[O6];exact hj)];by_cases h:j=i
  ·subst h;rw[if_neg (by omega),getElem!_set_same _ _ _ hj,if_pos (by simp),R9];rfl
  ·rw[getElem!_set_other _ _ _ _ h];by_cases h1:i+1<=j/\j<i+1+r.length
   ·rw[if_pos h1,if_pos (by simp;omega),show j-i=(j-(i+1))+1 by omega];rfl
   ·rw[if_neg h1,if_neg (by simp;omega)]
theorem jD(d:St)(p:Bs)(h:Nat):gZ ⟨d,p,h⟩=⟨perm (dU p d 17),p,0⟩:=by unfold gZ;rfl
theorem G1(S:Sp):(gZ S).d=perm (dU S.p S.d 17):=by
 obtain⟨d,p,h⟩:=S;rw[jD]
theorem GZ(S:Sp):(gZ S).p=S.p:=by
 obtain⟨d,p,h⟩:=S;rw[jD]
theorem G0(S:Sp):(gZ S).h=0:=by
 obtain⟨d,p,h⟩:=S;rw[jD]
theorem GY{S:Sp}(h1:S.d.size=25)(h2:S.p.size=136):Ok (gZ S):=by
 have hd:(dU S.p S.d 17).size=25:=by rw[cT,h1]
 refine⟨?_,by rw[GZ,h2],?_⟩
 ·rw[G1];exact oW _ hd
 ·rw[G0];decide
theorem B8{S:Sp}(h:Ok S)(x:UInt8):Ok (tP S x):=by
 have:=h.hlt;unfold tP;by_cases e:S.h+1=136
 ·rw[if_pos e];exact GY h.d25 (by show(S.p.setIfInBounds _ _).size=136;rw[O6];exact h.p136)
 ·rw[if_neg e];exact⟨h.d25,by show(S.p.setIfInBounds _ _).size=136;rw[O6];exact h.p136,by show S.h+1<136;omega⟩
theorem dY{S:Sp}(h:Ok S)(l:List UInt8):Ok (dA S l):=by
 induction l generalizing S with
 | nil=>exact h
 | cons x r ih=>exact ih (B8 h x)
theorem Ki{S:Sp}(h:Ok S)(x:UInt8):(tP S x).h=(S.h+1)%136:=by
 have:=h.hlt;unfold tP;by_cases e:S.h+1=136
 ·rw[if_pos e,e];rfl
 ·rw[if_neg e,Oy (by omega)]
theorem BP{S:Sp}(h:Ok S)(l:List UInt8):(dA S l).h=(S.h+l.length)%136:=by
 induction l generalizing S with
 | nil=>exact(Oy h.hlt).symm
 | cons x r ih =>
  show(dA (tP S x) r).h=_;rw[ih (B8 h x),Ki h x,OV];omega
theorem jV(S:Sp)(l:List UInt8)(hl:l≠[])(hle:S.h+l.length<=136):
 dA S l=if S.h+l.length=136 then gZ { d:=S.d,p:=splice S.p S.h l,h:=S.h } else { d:=S.d,p:=splice S.p S.h l,h:=S.h+l.length }:=by
 induction l generalizing S with
 | nil=>exact absurd rfl hl
 | cons x r ih =>
  show dA (tP S x) r=_;simp only[OV]at hle⊢;cases r with
  | nil =>
   unfold tP dA splice;simp only[List.foldl_nil,List.length_nil];by_cases e:S.h+1=136
   ·rw[if_pos e,if_pos (by omega)];rfl
   ·rw[if_neg e,if_neg (by omega)];rfl
  | cons y r' =>
   have e:¬S.h+1=136:=by simp only[OV]at hle;omega
   have hp:tP S x = { d:=S.d,p:=S.p.setIfInBounds S.h x,h:=S.h+1 }:=by unfold tP;rw[if_neg e]
   rw[hp,ih _ (by simp) (by simp only[OV]at hle⊢;omega)];simp only[splice,OV];by_cases e2:S.h+(r'.length+1+1)=136
   ·rw[if_pos (by omega),if_pos e2];rfl
   ·rw[if_neg (by omega),if_neg e2,show S.h+1+(r'.length+1)=S.h+(r'.length+1+1) by omega]
/-! ### The end -/
def ended(p : Bs)(h : Nat)(e : UInt8): Bs:=
  let q:=(splice p h (Pl (136-h) 0)).setIfInBounds h e
  q.setIfInBounds 135 (q[135]! ^^^ 128)
def pC(S:Sp)(e:UInt8):Sp:=gZ { d:=S.d,p:=ended S.p S.h e,h:=S.h }
def d5(h:Nat)(e:UInt8):List UInt8:=
 (e :: Pl (135-h) 0).set (135-h) ((e :: Pl (135-h) 0)[135-h]! ^^^ 128)
theorem dD(h:Nat)(e:UInt8)(hh:h<136):(d5 h e).length=136-h:=by
 unfold d5;rw[List.length_set,OV,PV];omega
theorem wU(a b:Bs)(n:Nat)(ha:a.size=n)(hb:b.size=n)(h:∀j,j<n->a[j]! = b[j]!):a=b:=by
 apply Tk (by omega);intro i h1 h2;have:=h i (by omega);rwa[getElem!_pos a i h1,getElem!_pos b i h2]at this
theorem Kl(h:Nat)(e:UInt8)(j:Nat)(hj:j<136-h)(hh:h<136):(d5 h e)[j]! = (if j=0 then e else 0) ^^^ (if j=135-h then 128 else 0):=by
 have hc:∀j,j<136-h->(e :: Pl (135-h) (0:UInt8))[j]! = if j=0 then e else 0:=by
  intro j hj;cases j with
  | zero=>rfl
  | succ j =>
   have hl:j+1<(e :: Pl (135-h) (0:UInt8)).length:=by rw[OV,PV];omega
   rw[getElem!_pos (e :: Pl (135-h) (0:UInt8)) (j+1) hl];simp
 have hlen:(d5 h e).length=136-h:=dD h e hh;have hl:j<(e :: Pl (135-h) (0:UInt8)).length:=by rw[OV,PV];omega
 rw[getElem!_pos (d5 h e) j (by rw[hlen];exact hj)];unfold d5;rw[List.getElem_set];by_cases h1:135-h=j
 ·rw[if_pos h1,hc (135-h) (by omega),h1,if_pos (rfl:j=j)]
 ·rw[if_neg h1,if_neg (show ¬j=135-h by omega)];have:=hc j hj;rw[getElem!_pos (e :: Pl (135-h) (0:UInt8)) j hl]at this;rw[this];simp
theorem Bb(p:Bs)(h:Nat)(e:UInt8):(ended p h e).size=p.size:=by
 unfold ended;simp only[O6,cE]
theorem xQ(n j:Nat)(h:j<n):(Pl n (0:UInt8))[j]! = 0:=by
 rw[getElem!_pos _ j (by simpa using h)];simp
theorem Fy(p:Bs)(h:Nat)(e:UInt8)(hp:p.size=136)(hh:h<136):ended p h e=splice p h (d5 h e):=by
 have hs:(splice p h (Pl (136-h) 0)).size=136:=by rw[cE,hp]
 refine wU _ _ 136 (by rw[Bb,hp]) (by rw[cE,hp]) (fun j hj=>?_);have hq:∀j,j<136->((splice p h (Pl (136-h) 0)).setIfInBounds h e)[j]! = if j<h then p[j]! else if j=h then e else 0:=by
  intro j hj;by_cases h1:j=h
  ·rw[h1,getElem!_set_same _ _ _ (by omega),if_neg (by omega),if_pos rfl]
  ·rw[getElem!_set_other _ _ _ _ h1,eI _ _ _ _ (by rw[PV,hp];omega) (by omega),PV];by_cases h2:j<h
   ·rw[if_neg (by omega),if_pos h2]
   ·rw[if_pos (by omega),if_neg h2,if_neg h1,xQ _ _ (by omega)]
 have hR:(splice p h (d5 h e))[j]! = if j<h then p[j]! else(if j=h then e else 0) ^^^ (if j=135 then 128 else 0):=by
  rw[eI _ _ _ _ (by rw[dD h e hh,hp];omega) (by omega),dD h e hh];by_cases h2:j<h
  ·rw[if_neg (show ¬(h<=j/\j<h+(136-h)) by omega),if_pos h2]
  ·rw[if_pos (show h<=j/\j<h+(136-h) by omega),if_neg h2,Kl h e _ (by omega) hh];have e1:(j-h=0)=(j=h):=by apply propext;omega
   have e2:(j-h=135-h)=(j=135):=by apply propext;omega
   simp only[e1,e2]
 have hL:(ended p h e)[j]! = if j<h then p[j]! else(if j=h then e else 0) ^^^ (if j=135 then 128 else 0):=by
  unfold ended;by_cases h135:j=135
  ·rw[h135,getElem!_set_same _ _ _ (by rw[O6,hs];decide),hq 135 (by decide),if_neg (show ¬135<h by omega),if_neg (show ¬135<h by omega),if_pos (rfl:135=135)]
  ·rw[getElem!_set_other _ _ _ _ h135,hq j hj];by_cases h2:j<h
   ·rw[if_pos h2,if_pos h2]
   ·rw[if_neg h2,if_neg h2,if_neg h135];simp
 rw[hL,hR]
theorem uU{S:Sp}(h:Ok S)(e:UInt8):pC S e=dA S (d5 S.h e):=by
 have:=h.hlt;have hl:=dD S.h e h.hlt;rw[jV S _ (by intro c;rw[c]at hl;simp at hl;omega) (by omega),if_pos (by omega)];unfold pC;rw[Fy _ _ _ h.p136 h.hlt]
end SP
namespace SP
open Go.RowKit Go.Sort Go.Deep
theorem Only.widen{b o n o' n':Nat}{w w':World}(h:Only b o n w w')(h1:o'<=o)(h2:o+n<=o'+n'):Only b o' n' w w':=
 ⟨h.os,h.tape,h.output,h.size,h.block,fun q hq=>h.cell q (by omega),h.froz⟩
structure HSp(w:World)(b:Nat)(S:Sp):Prop where
 d:Holds enc w b 0 S.d
 p:Holds encB w b 25 S.p
 h:w.cell? ⟨b,161,none⟩=some (.int .i64 (S.h:Int))
 f:w.frozen? ⟨b,161,none⟩=false
theorem HSp.drew{w:World}{b:Nat}{S:Sp}(h:HSp w b S):HSp w.drew b S:=⟨h.d,h.p,h.h,h.f⟩
theorem HSp.lt{w:World}{b:Nat}{S:Sp}(h:HSp w b S):b<w.heap.size:=PK _ _ h.h
theorem HSp.below{w w':World}{b B:Nat}{S:Sp}(h:HSp w b S)(k:Below B w w')(hb:b<B):HSp w' b S:=
 ⟨Holds.below h.d k hb,Holds.below h.p k hb,by rw[k.cell (p:=⟨b,161,none⟩) hb];exact h.h,by rw[k.frozen (p:=⟨b,161,none⟩) hb];exact h.f⟩
theorem rC(b:Nat)(S:Sp)(w:World)(h25:S.d.size=25)(h136:S.p.size=136)(hS:HSp w b S):
 Calls prog 166 #[.pointer (some ⟨b,0,none⟩)] w fun e w'=>e=.returned (.tuple #[])/\Only b 0 162 w w'/\HSp w' b (gZ S):=by
 obtain⟨d,p,h⟩:=S;dsimp only at h25 h136;have hD:Holds enc w b 0 d:=hS.d;have hP:Holds encB w b 25 p:=hS.p;have hc:=hS.h;have hf:=hS.f;dsimp only at hc;rw[jD];clear hS;have hps:(perm (dU p d 17)).size=25:=oW _ (by rw[cT,h25]);generalize hpm:perm (dU p d 17)=pd at hps⊢;have HPM:Hid (perm (dU p d 17)=pd):=hpm;clear hpm;go_enter Tryz.func166,Tryz.ntmps166;go_wp2;go_still_tail 7,mixed;go_wp2_with fail
 refine(Iy b 0 b 25 136 136 p d _ h25 (Holds.drew hD) (Holds.drew hP) h136 (by decide) (Oh _) (by omega)).mono ?_;rintro e w1 ⟨rfl,hO1,hD1⟩;have hO1':Only b 0 25 w w1:=((Only.refl b 0 25 w).drew).trans hO1;have hD1':Holds enc w1 b 0 (dU p d 17):=hD1;have hP1:=Holds.same hP hO1' (by omega);have c1:w1.cell? ⟨b,161,none⟩=some (.int .i64 h):=by rw[hO1'.cell 161 (by omega)];exact hc
 have f1:w1.frozen? ⟨b,161,none⟩=false:=by rw[hO1'.froz];exact hf
 clear hO1 hD1;go_wp2_with fail
 refine(pO b 0 _ _ (by rw[cT,h25]) hD1').mono ?_;rintro e w2 ⟨rfl,hO2,hD2⟩;rw[HPM.out]at hD2;have hP2:=Holds.same hP1 hO2 (by omega);have c2:w2.cell? ⟨b,161,none⟩=some (.int .i64 h):=by rw[hO2.cell 161 (by omega)];exact c1
 have f2:w2.frozen? ⟨b,161,none⟩=false:=by rw[hO2.froz];exact f1
 go_wp2
 go_end0
 have hO3:Only b 161 1 w2 (w2.setCell ⟨b,161,none⟩ (.int .i64 0)):=(Only.refl b 161 1 w2).setCell (by omega) (by omega) _;have hD3:Holds enc _ b 0 pd:=Holds.same hD2 hO3 (OQ (by omega));have hP3:Holds encB _ b 25 p:=Holds.same hP2 hO3 (OQ (by omega));exact⟨rfl,((hO1'.trans hO2).widen (Oh _) (by omega)).trans (hO3.widen (by omega) (by omega)),⟨hD3,hP3,OT _ _ _ c2,by rw[OI];exact f2⟩⟩
end SP
namespace SP
open Go.RowKit Go.Sort Go.Deep
theorem ints5:(prog.info? 5).map (·.size)=some 1:=by kernel_rfl
theorem eC{w:World}{b o:Nat}{p:Bs}(h:Holds encB w b o p)(i:Nat)(l:List UInt8)(hi:i+l.length<=p.size):Holds encB (w.setCells b (o+i) (l.map encB)) b o (splice p i l):=by
 refine Holds.setCells h _ i (cE p i l) (by rw[OO];exact hi) (fun j hj=>?_) (fun j hj hout=>?_)
 ·rw[OO]at hj;rw[eI p i l (i+j) hi (by omega),if_pos (by omega),Nat.add_sub_cancel_left,getElem!_pos l j hj,QD]
 ·rw[OO]at hout;rw[eI p i l j hi hj,if_neg (by omega)]
def piece(bs:Bs)(k n:Nat):List UInt8:=(bs.toList.drop k).take n
theorem nC(bs:Bs)(k n:Nat)(h:k+n<=bs.size):(piece bs k n).length=n:=by
 unfold piece;rw[List.length_take,List.length_drop,Ot];omega
theorem piece_at(bs:Bs)(k n j:Nat)(h:k+n<=bs.size)(hj:j<n)(hl:j<(piece bs k n).length):(piece bs k n)[j]=bs[k+j]!:=by
 have e:(piece bs k n)[j]? = some bs[k+j]!:=by
  unfold piece;rw[List.getElem?_take_of_lt hj,List.getElem?_drop,O7,OJ (by omega),getElem!_pos bs (k+j) (by omega)]
 exact(OE.1 e).2
theorem Aj(bs:Bs)(k n:Nat):bs.toList.take (k+n)=bs.toList.take k++piece bs k n:=List.take_add
theorem Bd{w:World}{b h sb o len cap n:Nat}{p bs:Bs}{k:Nat}(hP:Holds encB w b 25 p)(hp:p.size=136)(hB:Holds encB w sb o bs)(hh:h<136)(hk:k+len<=bs.size)(hn:VJ len (136-h)=n):
 (Um #[22,22] 3 #[.slice (some ⟨b,25+h,none⟩) (136-h) (136-h),.slice (some ⟨sb,o+k,none⟩) len cap]).run prog w=.ok (goInt n) (w.setCells b (25+h) ((piece bs k n).map encB)):=by
 have hnl:n<=len:=by rw[<-hn];exact UW _ _
 have hnh:n<=136-h:=by rw[<-hn];exact UI _ _
 have hlen:((piece bs k n).map encB).length=n:=by rw[OO,nC bs k n (by omega)]
 have:=run_copy_cells (P:=prog) w 22 22 3 5 b (25+h) (136-h) (136-h) ⟨sb,o+k,none⟩ len cap ((piece bs k n).map encB) slice22 ints5 (by rw[hlen,hn])
  (fun j v hj=>by
   obtain⟨h1,h2⟩:=OE.1 hj;rw[hlen]at h1;have hc:=(hB (k+j) (by omega)).1;rw[QD,piece_at bs k n j (by omega) h1]at h2;have e1:(⟨sb,o+k,none⟩:Addr).add j=⟨sb,o+(k+j),none⟩:=by
    unfold S1;by_cases h0:j=0
    ·subst h0;rw[if_pos rfl];rfl
    ·rw[if_neg h0,Qa]
   rw[e1,hc,h2])
  (fun j hj=>by
   rw[hlen]at hj;have:=(hP (h+j) (by omega)).1;rw[<-Qa]at this;rw[this];rfl)
  (fun j hj=>by
   rw[hlen]at hj;have:=(hP (h+j) (by omega)).2;rw[<-Qa]at this;exact this)
  (fun v hv=>by
   obtain⟨x,_,rfl⟩:=List.mem_map.1 hv;rfl)
 rw[hlen]at this;exact this
theorem nK{w:World}{b:Nat}{d:St}{p:Bs}{v:Value}(hD:Holds enc w b 0 d)(h25:d.size=25)(hP:Holds encB w b 25 p)(h136:p.size=136)(hc:w.cell? ⟨b,161,none⟩=some v)(hf:w.frozen? ⟨b,161,none⟩=false)(m:Nat):
 HSp (w.setCell ⟨b,161,none⟩ (.int .i64 ((m:Nat):Int))) b ⟨d,p,m⟩:=by
 have hO:Only b 161 1 w (w.setCell ⟨b,161,none⟩ (.int .i64 ((m:Nat):Int))):=(Only.refl b 161 1 w).setCell (by omega) (by omega) _;have hD3:Holds enc _ b 0 d:=Holds.same hD hO (OQ (by omega));have hP3:Holds encB _ b 25 p:=Holds.same hP hO (OQ (by omega));exact⟨hD3,hP3,OT _ _ _ hc,by rw[OI];exact hf⟩
theorem take_any(b:Nat)(S:Sp)(a:Option Addr)(sb so len cap:Nat)(bs:Bs)(w:World)(hok:Ok S)(hS:HSp w b S)(hl:bs.size=len)(hcap:len<=cap)(hbig:len<=1099511627776)
 (hsrc:len=0\/(a=some ⟨sb,so,none⟩/\sb≠b/\Holds encB w sb so bs)) :
 Calls prog 163 #[.pointer (some ⟨b,0,none⟩),.slice a len cap] w fun e w'=>e=.returned (.tuple #[])/\Only b 0 162 w w'/\HSp w' b (dA S bs.toList):=by
 go_enter Tryz.func163,Tryz.ntmps163;go_wp2;go_loopg [1] len (fun g s1 wr=>∃(k:Nat) (a':Option Addr) (Sk:Sp),k+g=len/\s1=.slice a' (len-k) (cap-k)/\(k<len->a'=some ⟨sb,so+k,none⟩)/\HSp wr b Sk/\Only b 0 162 w wr/\Hid (Sk=dA S (bs.toList.take k)))
 case atStart =>
  refine⟨0,a,S,by omega,rfl,fun h0=>?_,hS,Only.refl _ _ _ _,rfl⟩;rcases hsrc with h|⟨h,_,_⟩
  ·omega
  ·exact h
 case round =>
  obtain⟨k,a',Sk,hk,rfl,ha',hSk,hO,HE⟩:=hrel;by_cases hlt:k<len
  ·have e1:=ha' hlt;subst e1;obtain⟨_,hne,hB⟩:a=some ⟨sb,so,none⟩/\sb≠b/\Holds encB w sb so bs:=by
    rcases hsrc with h|h
    ·omega
    ·exact h
   have hBr:=Holds.other hB hO hne (by omega);have hokk:Ok Sk:=by rw[HE.out];exact dY hok _
   obtain⟨q,hh⟩:∃q,Sk.h=q:=⟨_,rfl⟩
   have hlt136:=hokk.hlt;have hsz:=hokk.p136;rw[hh]at hlt136;have hc:=hSk.h;have hf:=hSk.f;rw[hh]at hc;have hP:=hSk.p;obtain⟨n,hn⟩:∃n,VJ (len-k) (136-q)=n:=⟨_,rfl⟩
   have l0:(0:Int)<((len-k:Nat):Int):=by omega
   have hh136:(q:Int)<=136:=by omega
   have Hh:Hid (Sk.h=q):=hh;clear hh;have hne136:(136=q)=False:=eq_false (by omega);have hn1:1<=n:=by rw[<-hn];exact(Nat.le_min).2 ⟨by omega,by omega⟩
   have hnl:n<=len-k:=by rw[<-hn];exact UW _ _
   have hnh:n<=136-q:=by rw[<-hn];exact UI _ _
   have hcp:=Bd (w:=wr.drew) (cap:=cap-k) (k:=k) hP hsz hBr hlt136 (by omega) hn;have hpl:=nC bs k n (by omega);have hP1:=eC (Holds.drew hP) q (piece bs k n) (by omega);have hO1:Only b 0 162 w (wr.drew.setCells b (25+q) ((piece bs k n).map encB)):=hO.drew.setCells _ _ (by omega) (by rw[OO];omega);have hOx:Only b 25 136 wr (wr.drew.setCells b (25+q) ((piece bs k n).map encB)):=((Only.refl b 25 136 wr).drew).setCells _ _ (by omega) (by rw[OO];omega);have hD1:=Holds.same hSk.d hOx (OQ (by rw[hokk.d25];omega));have c1:(wr.drew.setCells b (25+q) ((piece bs k n).map encB)).cell? ⟨b,161,none⟩=some (.int .i64 q):=by rw[hOx.cell 161 (by omega)];exact hc
   have f1:(wr.drew.setCells b (25+q) ((piece bs k n).map encB)).frozen? ⟨b,161,none⟩=false:=by rw[hOx.froz];exact hf
   have HT:Hid (dA S (bs.toList.take (k+n))=dA Sk (piece bs k n)):=by
    show _=_;rw[Aj,dZ,<-HE.out]
   have HCH:Hid (dA Sk (piece bs k n)=if q+n=136 then gZ ⟨Sk.d,splice Sk.p q (piece bs k n),q⟩ else⟨Sk.d,splice Sk.p q (piece bs k n),q+n⟩):=by
    show _=_;have:=jV Sk (piece bs k n) (by intro e;rw[e]at hpl;simp at hpl;omega) (by rw[hpl,Hh.out];omega);rw[hpl,Hh.out]at this;exact this
   have hss:(splice Sk.p q (piece bs k n)).size=136:=by rw[cE,hsz]
   have hds:=hokk.d25;generalize hW1:wr.drew.setCells b (25+q) ((piece bs k n).map encB)=W1 at hcp hP1 hO1 hD1 c1 f1;generalize splice Sk.p q (piece bs k n)=sp at hP1 hss HCH;generalize Sk.d=sd at hD1 hds HCH;clear hOx hW1 hP hBr hokk hpl hSk hsz hn;have z1:(n:Int)<=((len-k:Nat):Int):=by omega
   by_cases hcn:cap-k=n
   ·have hcn':(cap-k=n)=True:=eq_true hcn;have HCN:Hid (cap-k=n):=hcn;clear hcn;by_cases hfull:q+n=136
    ·have hb:((q:Int)+(n:Int) == 136)=true:=beq_iff_eq.2 (by omega);rw[if_pos hfull]at HCH;go_wp2_with fail
     go_still_tail 9,mixed;go_wp2_with fail
     refine(rC b ⟨sd,sp,q+n⟩ _ hds hss (nK hD1 hds hP1 hss c1 f1 (q+n))).mono ?_;rintro e w2 ⟨rfl,hO2,hS2⟩;go_wp2;go_roundg (gk-n)
     case measure=>omega
     case rel =>
      refine⟨k+n,some ⟨sb,so+k,none⟩,gZ ⟨sd,sp,q⟩,by omega,by rw[Rb,Rb],fun hx=>by have:=HCN.out;omega,?_,?_,?_⟩
      ·rw[jD]at hS2⊢;exact hS2
      ·exact(hO1.setCell (o:=161) (by omega) (by omega) _).trans hO2
      ·rw[HT.out,HCH.out];rfl
    ·have hb:((q:Int)+(n:Int) == 136)=false:=beq_eq_false_iff_ne.2 (by omega);rw[if_neg hfull]at HCH;go_wp2_with fail
     go_still_tail 9,mixed;go_wp2;go_roundg (gk-n)
     case measure=>omega
     case rel =>
      refine⟨k+n,some ⟨sb,so+k,none⟩,⟨sd,sp,q+n⟩,by omega,by rw[Rb,Rb],fun hx=>by have:=HCN.out;omega,?_,?_,?_⟩
      ·exact nK hD1 hds hP1 hss c1 f1 (q+n)
      ·exact hO1.setCell (o:=161) (by omega) (by omega) _
      ·rw[HT.out,HCH.out];rfl
   ·have hcn':(cap-k=n)=False:=eq_false hcn;by_cases hfull:q+n=136
    ·have hb:((q:Int)+(n:Int) == 136)=true:=beq_iff_eq.2 (by omega);rw[if_pos hfull]at HCH;go_wp2_with fail
     go_still_tail 9,mixed;go_wp2_with fail
     refine(rC b ⟨sd,sp,q+n⟩ _ hds hss (nK hD1 hds hP1 hss c1 f1 (q+n))).mono ?_;rintro e w2 ⟨rfl,hO2,hS2⟩;go_wp2;go_roundg (gk-n)
     case measure=>omega
     case rel =>
      refine⟨k+n,some ⟨sb,so+k+n,none⟩,gZ ⟨sd,sp,q⟩,by omega,by rw[Rb,Rb],fun _=>by rw[Qa],?_,?_,?_⟩
      ·rw[jD]at hS2⊢;exact hS2
      ·exact(hO1.setCell (o:=161) (by omega) (by omega) _).trans hO2
      ·rw[HT.out,HCH.out];rfl
    ·have hb:((q:Int)+(n:Int) == 136)=false:=beq_eq_false_iff_ne.2 (by omega);rw[if_neg hfull]at HCH;go_wp2_with fail
     go_still_tail 9,mixed;go_wp2;go_roundg (gk-n)
     case measure=>omega
     case rel =>
      refine⟨k+n,some ⟨sb,so+k+n,none⟩,⟨sd,sp,q+n⟩,by omega,by rw[Rb,Rb],fun _=>by rw[Qa],?_,?_,?_⟩
      ·exact nK hD1 hds hP1 hss c1 f1 (q+n)
      ·exact hO1.setCell (o:=161) (by omega) (by omega) _
      ·rw[HT.out,HCH.out];rfl
  ·have hk0:k=len:=by omega
   have l0:¬(0:Int)<((len-k:Nat):Int):=by omega
   go_wp2
   go_end0
   refine⟨rfl,hO,?_⟩;have e1:bs.toList.take k=bs.toList:=List.take_of_length_le (by rw[Ot];omega);rw[HE.out,e1]at hSk;exact hSk
end SP
end Go.Proofs.YtmfodnkinmnopaaGreat
