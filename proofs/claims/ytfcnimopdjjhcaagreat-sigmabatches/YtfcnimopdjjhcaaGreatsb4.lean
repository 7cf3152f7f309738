import Derived.Deep.LoopGhost
import Derived.Deep.RegionHeld3
import Derived.Deep.CutRange
import Derived.WalkKit
import Derived.Sort.Row
import Derived.Deep.Draws
import Derived.Below
import Derived.Deep.OwnRows
import Derived.Test.YtfcnimopdjjhcaaGreatRows
import Derived.Deep.QuietTactic
import Derived.StillTailTactics
import Derived.BigRegion
import Derived.BigQuiet
import Derived.WalkSpells
import Derived.WalkLawsBesides
import Derived.Deep.RegionWith
import Derived.KernelRfl
import Derived.Lib.LazyBuf
import Derived.Lib.SliceRun
import Derived.Test.YtfcnimopdjjhcaaGreatsb3
set_option linter.unusedVariables false
set_option linter.constructorNameAsVariable false
set_option linter.unusedSimpArgs false
set_option maxRecDepth 1000000
set_option maxHeartbeats 4000000
namespace Go.Proofs.YtfcnimopdjjhcaaGreat
open _root_.Array renaming ext->Vf,getElem?_eq_getElem->Qo,getElem?_toList->QE,getElem_replicate->Q6,length_toList->P8,mk->UV,replicate->PX,size_append->QF,size_replicate->P7,size_setIfInBounds->Qq
open _root_.BitVec renaming eq_of_getLsbD_eq->VB,eq_of_toNat_eq->VL,ofInt->Sr,ofInt_natCast->VP,ofNat->SU,toNat_ofNat->UM
open _root_.Bool renaming and_eq_true->P3,noConfusion->Tc
open _root_.Go.Act renaming put->QR
open _root_.Go.Addr renaming add->UZ,mk->XM
open _root_.Go.Builtin renaming clear_->Uj,copy_->Wo
open _root_.Go.IntKind renaming bits->W9,i64->QA,signed->Wz,u64->Qs,u8->Ve,wrap->WZ,wrap_u64->Tp
open _root_.Go.IntWalk renaming i64_in->QG
open _root_.Go.RowKit.Below renaming heap_setCell->UQ,refl->Qd
open _root_.Go.Value renaming agg->QD,int->QT
open _root_.Go.World renaming alloc->QN,block_lt_of_cell?->Rx,cell?_alloc_new->Qj,cell?_setCell_other->PO,cell?_setCell_same->Qu,cell?_setCells_out->VA,frozen?_alloc_new->Ri,frozen?_setCell->Qk,frozen?_setCells->VH,setCell->Rb,size_alloc->Qa
open _root_.Int renaming emod_eq_of_lt->WO,natCast_ediv->Uw,natCast_mul->RS,natCast_pow->SC,natCast_zero->Qz,ofNat_inj->TA,tdiv_eq_ediv_of_nonneg->SZ,tmod_eq_emod_of_nonneg->Sy
open _root_.List renaming cons->Uf,getElem?_eq_some_iff->Qe,getElem?_map->QX,getElem_map->Sj,length_cons->Qw,length_drop->Um,length_map->Qb,length_replicate->Rt,length_take->SL,mem_cons->QU,not_mem_nil->P4,replicate->QO,setIfInBounds_toArray->Qm,set_cons_succ->QH,set_cons_zero->QM,take_add->Xp,take_of_length_le->Uv
open _root_.Nat renaming add_assoc->RO,add_mod->T9,add_mul->SK,add_sub_cancel->Wr,add_zero->RD,div_eq_of_lt->Tq,le_add_right->Vt,le_of_lt->SD,le_refl->PQ,left_le_or->Vz,lt_of_le_of_lt->U5,lt_of_lt_of_le->PS,min->XQ,min_le_left->Xh,min_le_right->WT,mod_eq_of_lt->Qf,mod_lt->RN,mod_one->WF,mul_add->Sw,mul_assoc->RH,mul_comm->Qr,mul_zero->Ul,ne_of_gt->QW,ne_of_lt->Rf,or_lt_two_pow->WE,pow_add->RI,pow_le_pow_right->Sb,pow_pos->U0,pow_succ->Rk,pow_zero->SX,right_le_or->Vm,sub_self->TK,sub_sub->Tn,sub_zero->Ub,testBit_lt_two_pow->VQ,zero_add->PU,zero_le->SJ
open _root_.Or renaming inl->Ql
open _root_.UInt8 renaming ofNat->P9,toNat_ofNat'->UN
open Go.Proofs.Tryz (prog)
section
open Go.RowKit Go.Sort
structure LessI(w wr:World)(p0 p1 p2 p3 c0 c1 c2 c3 a b c d e f g h:Nat):Prop where
 bl:Below w.heap.size w wr
 fr:At8 wr w.heap.size p0 p1 p2 p3 c0 c1 c2 c3
 wi:At8 wr (w.heap.size+1) a b c d e f g h
 re:At4 wr (w.heap.size+1+1) 0 0 0 0
 ha:a<18446744073709551616
 hb:b<18446744073709551616
 hc:c<18446744073709551616
 hd:d<18446744073709551616
 he:e<18446744073709551616
 hf:f<18446744073709551616
 hg:g<18446744073709551616
 hh:h<18446744073709551616
theorem Bf{x y:Nat}(hx:x<top)(hy:y<top):x*y+top<=top*top:=by
 have h1:x*y<=(top-1)*(top-1):=Nat.mul_le_mul (by omega) (by omega);have h2:(top-1)*(top-1)+top<=top*top:=by unfold top;decide
 omega
section
variable {w w0:World}{k a b c d e f g h j B:Nat}
theorem Aa(H:Below B w0 w)(hj:B<=j)(x0 x1 x2 x3 x4 x5 x6 x7:Value):Below B w0 ((((((((w.setCell ⟨j,0,none⟩ x0).setCell ⟨j,1,none⟩ x1).setCell ⟨j,2,none⟩ x2).setCell ⟨j,3,none⟩ x3).setCell ⟨j,4,none⟩ x4).setCell ⟨j,5,none⟩ x5).setCell ⟨j,6,none⟩ x6).setCell ⟨j,7,none⟩ x7):=pR H hj x0 x1 x2 x3 x4 x5 x6 x7
theorem At8.other8x(H:At8 w k a b c d e f g h)(hj:j≠k)(x0 x1 x2 x3 x4 x5 x6 x7:Value):At8 ((((((((w.setCell ⟨j,0,none⟩ x0).setCell ⟨j,1,none⟩ x1).setCell ⟨j,2,none⟩ x2).setCell ⟨j,3,none⟩ x3).setCell ⟨j,4,none⟩ x4).setCell ⟨j,5,none⟩ x5).setCell ⟨j,6,none⟩ x6).setCell ⟨j,7,none⟩ x7) k a b c d e f g h:=H.other8 hj x0 x1 x2 x3 x4 x5 x6 x7
theorem At4.other8x(H:At4 w k a b c d)(hj:j≠k)(x0 x1 x2 x3 x4 x5 x6 x7:Value):At4 ((((((((w.setCell ⟨j,0,none⟩ x0).setCell ⟨j,1,none⟩ x1).setCell ⟨j,2,none⟩ x2).setCell ⟨j,3,none⟩ x3).setCell ⟨j,4,none⟩ x4).setCell ⟨j,5,none⟩ x5).setCell ⟨j,6,none⟩ x6).setCell ⟨j,7,none⟩ x7) k a b c d:=H.other8 hj x0 x1 x2 x3 x4 x5 x6 x7
theorem At8.self8x(H:At8 w k a b c d e f g h)(x0 x1 x2 x3 x4 x5 x6 x7:Nat):At8 ((((((((w.setCell ⟨k,0,none⟩ (.int .u64 x0)).setCell ⟨k,1,none⟩ (.int .u64 x1)).setCell ⟨k,2,none⟩ (.int .u64 x2)).setCell ⟨k,3,none⟩ (.int .u64 x3)).setCell ⟨k,4,none⟩ (.int .u64 x4)).setCell ⟨k,5,none⟩ (.int .u64 x5)).setCell ⟨k,6,none⟩ (.int .u64 x6)).setCell ⟨k,7,none⟩ (.int .u64 x7)) k x0 x1 x2 x3 x4 x5 x6 x7:=H.self8 x0 x1 x2 x3 x4 x5 x6 x7
end
theorem rX{w W:World}{k0 k1 k2 p0 p1 p2 p3 c0 c1 c2 c3 a b c d e f g h:Nat}(H:Kept w k0 [⟨k0,0,p0,p1,p2,p3⟩,⟨k0,4,c0,c1,c2,c3⟩,⟨k1,0,a,b,c,d⟩,⟨k1,4,e,f,g,h⟩,⟨k2,0,0,0,0,0⟩] W):W.cell? ⟨k0,4,none⟩=some (.int .u64 c0)/\W.cell? ⟨k0,5,none⟩=some (.int .u64 c1)/\W.cell? ⟨k0,6,none⟩=some (.int .u64 c2)/\W.cell? ⟨k0,7,none⟩=some (.int .u64 c3)/\W.cell? ⟨k1,0,none⟩=some (.int .u64 a)/\W.cell? ⟨k1,1,none⟩=some (.int .u64 b)/\W.cell? ⟨k1,2,none⟩=some (.int .u64 c)/\W.cell? ⟨k1,3,none⟩=some (.int .u64 d)/\W.cell? ⟨k1,4,none⟩=some (.int .u64 e)/\W.cell? ⟨k1,5,none⟩=some (.int .u64 f)/\W.cell? ⟨k1,6,none⟩=some (.int .u64 g)/\W.cell? ⟨k1,7,none⟩=some (.int .u64 h)/\Kept w k0 [⟨k0,0,p0,p1,p2,p3⟩,⟨k0,4,c0,c1,c2,c3⟩,⟨k1,0,a,b,c,d⟩,⟨k1,4,e,f,g,h⟩,⟨k2,0,0,0,0,0⟩] W:=
 ⟨H.tail.head.c0,H.tail.head.c1,H.tail.head.c2,H.tail.head.c3,H.tail.tail.head.c0,H.tail.tail.head.c1,H.tail.tail.head.c2,H.tail.tail.head.c3,H.tail.tail.tail.head.c0,H.tail.tail.tail.head.c1,H.tail.tail.tail.head.c2,H.tail.tail.tail.head.c3,H⟩
theorem or4(a b c d:Nat)(ha:a<18446744073709551616)(hb:b<18446744073709551616)(hc:c<18446744073709551616)(hd:d<18446744073709551616):
 ∃o:Nat,bits .or .u64 (bits .or .u64 (bits .or .u64 (a:Int) (b:Int)) (c:Int)) (d:Int)=(o:Int)/\(o=0↔(a=0/\b=0/\c=0/\d=0)):=by
 have lt:∀x y:Nat,x<18446744073709551616->y<18446744073709551616->x ||| y<18446744073709551616:=fun x y hx hy=>WE (n:=64) hx hy
 refine⟨a ||| b ||| c ||| d,?_,?_⟩
 ·rw[bits_or_u64_nat a b ha hb,bits_or_u64_nat _ c (lt _ _ ha hb) hc,bits_or_u64_nat _ d (lt _ _ (lt _ _ ha hb) hc) hd]
 ·constructor
  ·intro h;have h1:=Vz (n:=a ||| b ||| c) (m:=d);have h2:=Vm (n:=a ||| b ||| c) (m:=d);have h3:=Vz (n:=a ||| b) (m:=c);have h4:=Vm (n:=a ||| b) (m:=c);have h5:=Vz (n:=a) (m:=b);have h6:=Vm (n:=a) (m:=b);omega
  ·rintro⟨rfl,rfl,rfl,rfl⟩;rfl
theorem Ez{lo hi cc P gk:Nat}(hP:P+cc=top)(hP2:top<2*P)(hpos:0<hi)(hg:gk=lo+top*hi):hi*cc+lo<gk/\(hi*cc+lo)%P=gk%P:=by
 have e:gk=hi*cc+lo+P*hi:=by rw[hg,<-hP,SK,Qr cc];omega
 rw[e,Nat.add_mul_mod_self_left];have:0<P*hi:=Nat.mul_pos (by omega) hpos;exact⟨by omega,rfl⟩
theorem oN(p0 p1 p2 p3 c0 c1 c2 c3 P:Nat)(x:Value)(m:Nat)(hp0:p0<18446744073709551616)(hp1:p1<18446744073709551616)(hp2:p2<18446744073709551616)(hp3:p3<18446744073709551616)
 (hc0:c0<18446744073709551616) (hc1:c1<18446744073709551616) (hc2:c2<18446744073709551616) (hc3:c3<18446744073709551616) (eP:P=val p0 p1 p2 p3) (hP:P+val c0 c1 c2 c3=top) (hP2:top<2*P) (hx:jT x m) (w:World) :
 Calls prog 66 #[.agg #[.int .u64 p0,.int .u64 p1,.int .u64 p2,.int .u64 p3,.int .u64 c0,.int .u64 c1,.int .u64 c2,.int .u64 c3],x] w (Ret fun e w'=>Below w.heap.size w w'/\Four e (m%P)):=by
 obtain⟨a,b,c,d,e,f,g,h,rfl,ha,hb,hc,hd,he,hf,hg,hh,em⟩:=hx;go_enter Tryz.func66,Tryz.ntmps66;go_wp2;have HEP:Hid (P=val p0 p1 p2 p3):=eP;clear eP;go_loopg [] (val a b c d+top*val e f g h) (fun gk wr=>∃(a b c d e f g h:Nat),LessI w wr p0 p1 p2 p3 c0 c1 c2 c3 a b c d e f g h/\gk=val a b c d+top*val e f g h/\Hid (gk%P=m%P))
 case atStart =>
  refine⟨a,b,c,d,e,f,g,h,⟨below3 _ _ _ _,?_,?_,?_,ha,hb,hc,hd,he,hf,hg,hh⟩,rfl,?_⟩
  ·exact(((At8.made w 70 p0 p1 p2 p3 c0 c1 c2 c3 rfl).alloc _).alloc _)
  ·exact(At8.made (w.alloc _) 124 a b c d e f g h (Qa _ _)).alloc _
  ·exact At4.made ((w.alloc _).alloc _) 68 0 0 0 0 (by simp)
  ·rw[em];rfl
 case round =>
  obtain⟨a,b,c,d,e,f,g,h,hI,hgk,HE⟩:=hrel;clear em ha hb hc hd he hf hg hh;obtain⟨bl,fr,wi,re,ha,hb,hc,hd,he,hf,hg,hh⟩:=hI;have HB:Hid (Below w.heap.size w wr):=bl;clear bl;generalize q2:w.heap.size+1+1=k2 at re⊢;generalize q1:w.heap.size+1=k1 at wi⊢;have H:Hid (w.heap.size+1=k1/\w.heap.size+1+1=k2):=⟨q1,q2⟩
  have Q1:Hid (w.heap.size<=k1):=by unfold Hid;omega
  have Q2:Hid (w.heap.size<=k2):=by unfold Hid;omega
  generalize q0:w.heap.size=k0 at fr HB Q1 Q2⊢;have H0:Hid (w.heap.size=k0):=q0;have n01:k0≠k1:=by omega
  have n02:k0≠k2:=by omega
  have n12:k1≠k2:=by omega
  have z0:=fr.lt;have z1:=wi.lt;have z2:=re.lt;clear q0 q1 q2;obtain⟨o,ho,hoz⟩:=or4 e f g h he hf hg hh;obtain⟨fc0,fc1,fc2,fc3,fc4,fc5,fc6,fc7,ff⟩:=id fr;obtain⟨wc0,wc1,wc2,wc3,wc4,wc5,wc6,wc7,wf⟩:=id wi;obtain⟨rc0,rc1,rc2,rc3,rf⟩:=id re;by_cases hz:o=0
  ·obtain⟨rfl,rfl,rfl,rfl⟩:=hoz.1 hz;have hlow:gk=val a b c d:=by rw[hgk];rfl
   have HE2:Hid (val a b c d%P=m%P):=by unfold Hid;rw[<-hlow];exact HE.out
   clear hgk HE hoz hlow;subst hz;go_wp2;have N:=At4.made wr 68 a b c d rfl;have M0:k0≠wr.heap.size:=Rf z0;have M2:k2≠wr.heap.size:=Rf z2;have M5:Hid (k0<=wr.heap.size):=SD z0;have HB0:Hid (Below k0 w _):=HB.out.alloc (SD z0) (.cells #[.int .u64 a,.int .u64 b,.int .u64 c,.int .u64 d] 68);replace fr:=fr.alloc (.cells #[.int .u64 a,.int .u64 b,.int .u64 c,.int .u64 d] 68);replace re:=re.alloc (.cells #[.int .u64 a,.int .u64 b,.int .u64 c,.int .u64 d] 68);clear wi fc0 fc1 fc2 fc3 fc4 fc5 fc6 fc7 ff wc0 wc1 wc2 wc3 wc4 wc5 wc6 wc7 wf rc0 rc1 rc2 rc3 rf z0 z1 z2 HB ho;generalize QN _ _=W0 at N fr re HB0⊢;generalize wr.heap.size=k5 at N M0 M2 M5⊢;have hB4:Hid (a<18446744073709551616/\b<18446744073709551616/\c<18446744073709551616/\d<18446744073709551616):=⟨ha,hb,hc,hd⟩
   have HPP:Hid (0<P):=by unfold Hid;have:=hP2;omega
   clear ha hb hc hd hP hP2;have KP:Kept w k0 [⟨k5,0,a,b,c,d⟩,⟨k0,0,p0,p1,p2,p3⟩,⟨k2,0,0,0,0,0⟩] W0:=
    (((Kept.mk1 HB0.out (SD fr.lt)).cons re.blk).cons (x:=⟨k0,0,p0,p1,p2,p3⟩) ⟨fr.c0,fr.c1,fr.c2,fr.c3,fr.fz⟩).cons N.blk
   clear fr re N HB0;go_loopg [] (val a b c d) (fun gk2 wr2=>∃(a b c d:Nat),gk2=val a b c d/\Kept w k0 [⟨k5,0,a,b,c,d⟩,⟨k0,0,p0,p1,p2,p3⟩,⟨k2,0,0,0,0,0⟩] wr2/\Hid (a<18446744073709551616/\b<18446744073709551616/\c<18446744073709551616/\d<18446744073709551616)/\Hid (val a b c d%P=m%P))
   case atStart=>exact⟨a,b,c,d,rfl,KP,hB4,HE2⟩
   case round =>
    clear KP hB4 HE2;obtain⟨a,b,c,d,hgk2,KP,hB4,HE2⟩:=hrel;obtain⟨xc0,xc1,xc2,xc3,xf⟩:=KP.head.at4;obtain⟨pc0,pc1,pc2,pc3,pf⟩:=KP.tail.head.at4;have z5:=KP.head.lt;have z0:=KP.tail.head.lt;go_wp2_with fail
    refine(oH _ _ _ _ (Four.mk hB4.out.1 hB4.out.2.1 hB4.out.2.2.1 hB4.out.2.2.2 rfl) (Four.mk hp0 hp1 hp2 hp3 rfl) _).mono ?_;rintro r w2 ⟨v,rfl,hb2,v2,t2,j,rfl,⟨a2,b2,c2,d2,rfl,ha2,hb2',hc2,hd2,es2⟩,hj,he2⟩;clear xc0 xc1 xc2 xc3 xf pc0 pc1 pc2 pc3 pf z5 z0;replace KP:=KP.call hb2;clear hb2;have HE3:Hid (val a2 b2 c2 d2+P=val a b c d+top*j):=by unfold Hid;rw[<-es2,HEP.out];exact he2
    clear he2 es2;have hj':j=0\/j=1:=by omega
    rcases hj' with rfl|rfl
    ·obtain⟨xc0,xc1,xc2,xc3,xf⟩:=KP.head.at4;have z5:=KP.head.lt;go_wp2;go_roundg (val a2 b2 c2 d2)
     case measure=>have:=HE3.out;have:=HPP.out;omega
     case rel =>
      refine⟨a2,b2,c2,d2,rfl,?_,⟨ha2,hb2',hc2,hd2⟩,?_⟩
      ·exact(KP.put M5.out (by simp only[QU,P4,or_false];rintro x (rfl|rfl);exact M0.symm;exact M2.symm) a2 b2 c2 d2).alloc _
      ·unfold Hid;rw[<-HE2.out,show val a b c d=val a2 b2 c2 d2+P by have:=HE3.out;omega,Nat.add_mod_right]
    ·obtain⟨xc0,xc1,xc2,xc3,xf⟩:=KP.head.at4;obtain⟨rc0,rc1,rc2,rc3,rf⟩:=KP.tail.tail.head.at4;have z5:=KP.head.lt;have z3:=KP.tail.tail.head.lt;go_wp2;have RF:=(KP.tail.tail.head.at4.self4 a b c d).alloc (.cells #[.int .u64 a2,.int .u64 b2,.int .u64 c2,.int .u64 d2] 68);unfold set4 at RF;refine bodyPost_ret (v:=?v) ?hr rfl ?hR
     case hr=>simp[results,Tryz.results66,go_sem,RF.c0,RF.c1,RF.c2,RF.c3];rfl
     refine⟨_,rfl,?_,Four.mk hB4.out.1 hB4.out.2.1 hB4.out.2.2.1 hB4.out.2.2.2 ?_⟩
     ·rw[H0.out];exact(aD KP.bl Q2.out _ _ _ _).alloc (by rw[DZ];exact KP.le) _
     ·rw[<-HE2.out,Qf (by have:=HE3.out;have:=eY ha2 hb2' hc2 hd2;omega)]
  ·have hpos:0<val e f g h:=by
    rcases Nat.eq_zero_or_pos (val e f g h)with h0|h0
    ·exact absurd (hoz.2 (by unfold val at h0;omega)) hz
    ·exact h0
   have HL:Hid (_/\_):=Ez hP hP2 hpos hgk;clear hoz hgk hpos;go_wp2;have KP:Kept w k0 [⟨k0,0,p0,p1,p2,p3⟩,⟨k0,4,c0,c1,c2,c3⟩,⟨k1,0,a,b,c,d⟩,⟨k1,4,e,f,g,h⟩,⟨k2,0,0,0,0,0⟩] wr:=
    (((((Kept.mk1 HB.out (SD z0)).cons re.blk).cons (x:=⟨k1,4,e,f,g,h⟩) ⟨wi.c4,wi.c5,wi.c6,wi.c7,wi.fz⟩).cons (x:=⟨k1,0,a,b,c,d⟩) ⟨wi.c0,wi.c1,wi.c2,wi.c3,wi.fz⟩).cons (x:=⟨k0,4,c0,c1,c2,c3⟩) ⟨fr.c4,fr.c5,fr.c6,fr.c7,fr.fz⟩).cons (x:=⟨k0,0,p0,p1,p2,p3⟩) ⟨fr.c0,fr.c1,fr.c2,fr.c3,fr.fz⟩
   clear HEP rc0 rc1 rc2 rc3 rf fc0 fc1 fc2 fc3 fr wi re HB;refine anyTill.begin (fun w'=>w'.cell? ⟨k0,4,none⟩=some (.int .u64 c0)/\w'.cell? ⟨k0,5,none⟩=some (.int .u64 c1)/\w'.cell? ⟨k0,6,none⟩=some (.int .u64 c2)/\w'.cell? ⟨k0,7,none⟩=some (.int .u64 c3)/\w'.cell? ⟨k1,0,none⟩=some (.int .u64 a)/\w'.cell? ⟨k1,1,none⟩=some (.int .u64 b)/\w'.cell? ⟨k1,2,none⟩=some (.int .u64 c)/\w'.cell? ⟨k1,3,none⟩=some (.int .u64 d)/\w'.cell? ⟨k1,4,none⟩=some (.int .u64 e)/\w'.cell? ⟨k1,5,none⟩=some (.int .u64 f)/\w'.cell? ⟨k1,6,none⟩=some (.int .u64 g)/\w'.cell? ⟨k1,7,none⟩=some (.int .u64 h)/\Kept w k0 [⟨k0,0,p0,p1,p2,p3⟩,⟨k0,4,c0,c1,c2,c3⟩,⟨k1,0,a,b,c,d⟩,⟨k1,4,e,f,g,h⟩,⟨k2,0,0,0,0,0⟩] w') 22 mixed (rX KP.drew) (fun hS=>?_);refine anyTill.tk (i:=0) (v:=?_) rfl (Ql ⟨by rfl,?_⟩) hS ?_
   rotate_left
   ·intro w hSw
    (try dsimp only at hSw)
    go_simp;try(with_reducible rfl)
   simp only[QR,Qm];refine anyTill.tk (i:=1) (v:=?_) rfl (Ql ⟨by rfl,?_⟩) hS ?_
   rotate_left
   ·intro w hSw
    (try dsimp only at hSw)
    go_simp;try(with_reducible rfl)
   simp only[QR];refine anyTill.tk (i:=2) (v:=?_) rfl (Ql ⟨by rfl,?_⟩) hS ?_
   rotate_left
   ·intro w hSw
    (try dsimp only at hSw)
    go_simp;try(with_reducible rfl)
   simp only[QR];refine anyTill.tk (i:=3) (v:=?_) rfl (Ql ⟨by rfl,?_⟩) hS ?_
   rotate_left
   ·intro w hSw
    (try dsimp only at hSw)
    go_simp;try(with_reducible rfl)
   simp only[QR];refine anyTill.tk (i:=4) (v:=?_) rfl (Ql ⟨by rfl,?_⟩) hS ?_
   rotate_left
   ·intro w hSw
    (try dsimp only at hSw)
    go_simp;try(with_reducible rfl)
   simp only[QR];refine anyTill.tk (i:=5) (v:=?_) rfl (Ql ⟨by rfl,?_⟩) hS ?_
   rotate_left
   ·intro w hSw
    (try dsimp only at hSw)
    go_simp;try(with_reducible rfl)
   simp only[QR];refine anyTill.tk (i:=6) (v:=?_) rfl (Ql ⟨by rfl,?_⟩) hS ?_
   rotate_left
   ·intro w hSw
    (try dsimp only at hSw)
    go_simp;try(with_reducible rfl)
   simp only[QR];refine anyTill.tk (i:=7) (v:=?_) rfl (Ql ⟨by rfl,?_⟩) hS ?_
   rotate_left
   ·intro w hSw
    (try dsimp only at hSw)
    go_simp;try(with_reducible rfl)
   simp only[QR];refine anyTill.tk (i:=8) (v:=?_) rfl (Ql ⟨by rfl,?_⟩) hS ?_
   rotate_left
   ·intro w hSw
    (try dsimp only at hSw)
    go_simp;try(with_reducible rfl)
   simp only[QR];refine anyTill.tk (i:=9) (v:=?_) rfl (Ql ⟨by rfl,?_⟩) hS ?_
   rotate_left
   ·intro w hSw
    (try dsimp only at hSw)
    go_simp;try(with_reducible rfl)
   simp only[QR];refine anyTill.tk (i:=10) (v:=?_) rfl (Ql ⟨by rfl,?_⟩) hS ?_
   rotate_left
   ·intro w hSw
    (try dsimp only at hSw)
    go_simp;try(with_reducible rfl)
   simp only[QR];refine anyTill.tk (i:=12) (v:=?_) rfl (Ql ⟨by rfl,?_⟩) hS ?_
   rotate_left
   ·intro w hSw
    (try dsimp only at hSw)
    go_simp;try(with_reducible rfl)
   simp only[QR];refine anyTill.tk (i:=13) (v:=?_) rfl (Ql ⟨by rfl,?_⟩) hS ?_
   rotate_left
   ·intro w hSw
    (try dsimp only at hSw)
    go_simp;try(with_reducible rfl)
   simp only[QR];refine anyTill.tk (i:=14) (v:=?_) rfl (Ql ⟨by rfl,?_⟩) hS ?_
   rotate_left
   ·intro w hSw
    (try dsimp only at hSw)
    go_simp;try(with_reducible rfl)
   simp only[QR];refine anyTill.tk (i:=15) (v:=?_) rfl (Ql ⟨by rfl,?_⟩) hS ?_
   rotate_left
   ·intro w hSw
    (try dsimp only at hSw)
    go_simp;try(with_reducible rfl)
   simp only[QR];refine anyTill.tk (i:=16) (v:=?_) rfl (Ql ⟨by rfl,?_⟩) hS ?_
   rotate_left
   ·intro w hSw
    (try dsimp only at hSw)
    go_simp;try(with_reducible rfl)
   simp only[QR];refine anyTill.tk (i:=17) (v:=?_) rfl (Ql ⟨by rfl,?_⟩) hS ?_
   rotate_left
   ·intro w hSw
    (try dsimp only at hSw)
    go_simp;try(with_reducible rfl)
   simp only[QR];refine anyTill.tk (i:=18) (v:=?_) rfl (Ql ⟨by rfl,?_⟩) hS ?_
   rotate_left
   ·intro w hSw
    (try dsimp only at hSw)
    go_simp;try(with_reducible rfl)
   simp only[QR];refine anyTill.tk (i:=19) (v:=?_) rfl (Ql ⟨by rfl,?_⟩) hS ?_
   rotate_left
   ·intro w hSw
    (try dsimp only at hSw)
    go_simp;try(with_reducible rfl)
   simp only[QR];refine anyTill.tk (i:=20) (v:=?_) rfl (Ql ⟨by rfl,?_⟩) hS ?_
   rotate_left
   ·intro w hSw
    (try dsimp only at hSw)
    go_simp;try(with_reducible rfl)
   simp only[QR];refine anyTill.step (i:=11) rfl (by kernel_rfl) (fun K hK=>?_);go_simp;refine(jB _ _ _ _ (Four.mk he hf hg hh rfl) (Four.mk hc0 hc1 hc2 hc3 rfl) _).mono ?_;rintro r w1 ⟨v,rfl,hb1,hE1⟩;obtain⟨x0,x1,x2,x3,x4,x5,x6,x7,rfl,hx0,hx1,hx2,hx3,hx4,hx5,hx6,hx7,hxe⟩:=id hE1;clear hxe hS;have KP1:=KP.drew.call hb1;clear hb1 KP;refine hK.out _ _ (fun _=>rX KP1) ?_;clear hK K;try simp only[QR,Qm,QM,QH]
   refine anyTill.step (i:=21) rfl (by kernel_rfl) (fun K hK=>?_);go_simp;refine(oD _ _ _ _ hE1 ⟨a,b,c,d,0,0,0,0,rfl,ha,hb,hc,hd,by decide,by decide,by decide,by decide,rfl⟩ (by have h1:=Bf (eY he hf hg hh) (eY hc0 hc1 hc2 hc3);have h2:=eY ha hb hc hd;have e0:val 0 0 0 0=0:=rfl;rw[e0,Ul,RD];omega) _).mono ?_;rintro r w2 ⟨v,rfl,hb2,hE2⟩;obtain⟨y0,y1,y2,y3,y4,y5,y6,y7,rfl,hy0,hy1,hy2,hy3,hy4,hy5,hy6,hy7,hye⟩:=id hE2;rw[show val 0 0 0 0=0 from rfl,Ul,RD]at hye;have HY:Hid (_=_):=hye;clear hye hE1 hE2;have KP2:=KP1.call hb2;clear hb2 KP1;refine hK.out _ _ (fun _=>rX KP2) ?_;clear hK K;try simp only[QR,Qm,QM,QH]
   have fr:At8 w2 k0 p0 p1 p2 p3 c0 c1 c2 c3:=⟨KP2.head.c0,KP2.head.c1,KP2.head.c2,KP2.head.c3,KP2.tail.head.c0,KP2.tail.head.c1,KP2.tail.head.c2,KP2.tail.head.c3,KP2.head.f⟩
   have wi:At8 w2 k1 a b c d e f g h:=⟨KP2.tail.tail.head.c0,KP2.tail.tail.head.c1,KP2.tail.tail.head.c2,KP2.tail.tail.head.c3,KP2.tail.tail.tail.head.c0,KP2.tail.tail.tail.head.c1,KP2.tail.tail.tail.head.c2,KP2.tail.tail.tail.head.c3,KP2.tail.tail.head.f⟩
   have re:At4 w2 k2 0 0 0 0:=KP2.tail.tail.tail.tail.head.at4;have HB:Hid (Below k0 w w2):=KP2.bl;clear KP2 wc0 wc1 wc2 wc3 wc4 wc5 wc6 wc7 wf z0 z1 z2;obtain⟨wc0,wc1,wc2,wc3,wc4,wc5,wc6,wc7,wf⟩:=id wi;have z1:=wi.lt;refine anyTill.step (i:=22) rfl (by kernel_rfl) (fun K hK=>?_);go_simp;refine hK.out _ _ (fun h=>Tc h) ?_;clear hK K;try simp only[QR,Qm,QM,QH]
   refine anyTill.done (by kernel_rfl) ?_ _;obtain⟨q1,q2⟩:=H.out;have q0:=H0.out;subst q1 q2 q0;go_wp2;go_roundg (val y0 y1 y2 y3+top*val y4 y5 y6 y7)
   case measure=>rw[<-HY.out];exact HL.out.1
   case rel =>
    refine⟨y0,y1,y2,y3,y4,y5,y6,y7,⟨?_,?_,?_,?_,hy0,hy1,hy2,hy3,hy4,hy5,hy6,hy7⟩,rfl,?_⟩
    ·exact Aa HB.out Q1.out _ _ _ _ _ _ _ _
    ·exact At8.other8x fr n01.symm _ _ _ _ _ _ _ _
    ·exact At8.self8x wi y0 y1 y2 y3 y4 y5 y6 y7
    ·exact At4.other8x re n12 _ _ _ _ _ _ _ _
    ·unfold Hid;rw[<-HY.out,<-HE.out];exact HL.out.2
end
section
open Go.RowKit Go.Sort
variable {P:Nat}[NeZero P]{N:Nat}
theorem dJ{w W:World}{k0 k1 k2 p0 p1 p2 p3 c0 c1 c2 c3 a b c d p q r s:Nat}(h:Kept w k0 [⟨k0,0,p0,p1,p2,p3⟩,⟨k0,4,c0,c1,c2,c3⟩,⟨k1,0,a,b,c,d⟩,⟨k2,0,p,q,r,s⟩] W):W.cell? ⟨k0,0,none⟩=some (.int .u64 p0)/\W.cell? ⟨k0,1,none⟩=some (.int .u64 p1)/\W.cell? ⟨k0,2,none⟩=some (.int .u64 p2)/\W.cell? ⟨k0,3,none⟩=some (.int .u64 p3)/\W.cell? ⟨k0,4,none⟩=some (.int .u64 c0)/\W.cell? ⟨k0,5,none⟩=some (.int .u64 c1)/\W.cell? ⟨k0,6,none⟩=some (.int .u64 c2)/\W.cell? ⟨k0,7,none⟩=some (.int .u64 c3)/\W.cell? ⟨k1,0,none⟩=some (.int .u64 a)/\W.cell? ⟨k1,1,none⟩=some (.int .u64 b)/\W.cell? ⟨k1,2,none⟩=some (.int .u64 c)/\W.cell? ⟨k1,3,none⟩=some (.int .u64 d)/\W.cell? ⟨k2,0,none⟩=some (.int .u64 p)/\W.cell? ⟨k2,1,none⟩=some (.int .u64 q)/\W.cell? ⟨k2,2,none⟩=some (.int .u64 r)/\W.cell? ⟨k2,3,none⟩=some (.int .u64 s)/\Kept w k0 [⟨k0,0,p0,p1,p2,p3⟩,⟨k0,4,c0,c1,c2,c3⟩,⟨k1,0,a,b,c,d⟩,⟨k2,0,p,q,r,s⟩] W:=
 ⟨h.head.c0,h.head.c1,h.head.c2,h.head.c3,h.tail.head.c0,h.tail.head.c1,h.tail.head.c2,h.tail.head.c3,h.tail.tail.head.c0,h.tail.tail.head.c1,h.tail.tail.head.c2,h.tail.tail.head.c3,h.tail.tail.tail.head.c0,h.tail.tail.tail.head.c1,h.tail.tail.tail.head.c2,h.tail.tail.tail.head.c3,h⟩
theorem F5(p0 p1 p2 p3 c0 c1 c2 c3 P:Nat)(x y:Value)(m n:Nat)(hp0:p0<18446744073709551616)(hp1:p1<18446744073709551616)(hp2:p2<18446744073709551616)(hp3:p3<18446744073709551616)
 (hc0:c0<18446744073709551616) (hc1:c1<18446744073709551616) (hc2:c2<18446744073709551616) (hc3:c3<18446744073709551616) (eP:P=val p0 p1 p2 p3) (hP:P+val c0 c1 c2 c3=top) (hP2:top<2*P) (hx:Four x m) (hy:Four y n) (w:World) :
 Calls prog 34 #[.agg #[.int .u64 p0,.int .u64 p1,.int .u64 p2,.int .u64 p3,.int .u64 c0,.int .u64 c1,.int .u64 c2,.int .u64 c3],x,y] w (Ret fun e w'=>Below w.heap.size w w'/\Four e (m*n%P)):=by
 obtain⟨a,b,c,d,rfl,ha,hb,hc,hd,em⟩:=id hx;obtain⟨p,q,r,s,rfl,hp,hq,hr,hs,en⟩:=id hy;have HX:Hid (Four _ _):=hx;have HY:Hid (Four _ _):=hy;have HL:Hid (∀(v:Value) (k:Nat) (w:World),jT v k->Calls prog 66 #[.agg #[.int .u64 p0,.int .u64 p1,.int .u64 p2,.int .u64 p3,.int .u64 c0,.int .u64 c1,.int .u64 c2,.int .u64 c3],v] w (Ret fun e w'=>Below w.heap.size w w'/\Four e (k%P))):=
  fun v k w hv=>oN p0 p1 p2 p3 c0 c1 c2 c3 P v k hp0 hp1 hp2 hp3 hc0 hc1 hc2 hc3 eP hP hP2 hv w
 clear em en hx hy ha hb hc hd hp hq hr hs hp0 hp1 hp2 hp3 hc0 hc1 hc2 hc3 eP hP hP2;go_enter Tryz.func34,Tryz.ntmps34;go_wp2_with fail
 have FR:=((((At8.made w 70 p0 p1 p2 p3 c0 c1 c2 c3 rfl).alloc (.cells #[.int .u64 a,.int .u64 b,.int .u64 c,.int .u64 d] 68)).alloc (.cells #[.int .u64 p,.int .u64 q,.int .u64 r,.int .u64 s] 68)).alloc (.cells #[.int .u64 0,.int .u64 0,.int .u64 0,.int .u64 0] 68))
 have X:=(((At4.made (w.alloc (.cells #[.int .u64 p0,.int .u64 p1,.int .u64 p2,.int .u64 p3,.int .u64 c0,.int .u64 c1,.int .u64 c2,.int .u64 c3] 70)) 68 a b c d (Qa _ _)).alloc (.cells #[.int .u64 p,.int .u64 q,.int .u64 r,.int .u64 s] 68)).alloc (.cells #[.int .u64 0,.int .u64 0,.int .u64 0,.int .u64 0] 68))
 have Y:=((At4.made ((w.alloc (.cells #[.int .u64 p0,.int .u64 p1,.int .u64 p2,.int .u64 p3,.int .u64 c0,.int .u64 c1,.int .u64 c2,.int .u64 c3] 70)).alloc (.cells #[.int .u64 a,.int .u64 b,.int .u64 c,.int .u64 d] 68)) 68 p q r s (k:=w.heap.size+1+1) (by simp)).alloc (.cells #[.int .u64 0,.int .u64 0,.int .u64 0,.int .u64 0] 68))
 have T3:=At4.made (((w.alloc (.cells #[.int .u64 p0,.int .u64 p1,.int .u64 p2,.int .u64 p3,.int .u64 c0,.int .u64 c1,.int .u64 c2,.int .u64 c3] 70)).alloc (.cells #[.int .u64 a,.int .u64 b,.int .u64 c,.int .u64 d] 68)).alloc (.cells #[.int .u64 p,.int .u64 q,.int .u64 r,.int .u64 s] 68)) 68 0 0 0 0 (k:=w.heap.size+1+1+1) (by simp);have KP:=((((Kept.mk1 (eI w (.cells #[.int .u64 p0,.int .u64 p1,.int .u64 p2,.int .u64 p3,.int .u64 c0,.int .u64 c1,.int .u64 c2,.int .u64 c3] 70) (.cells #[.int .u64 a,.int .u64 b,.int .u64 c,.int .u64 d] 68) (.cells #[.int .u64 p,.int .u64 q,.int .u64 r,.int .u64 s] 68) (.cells #[.int .u64 0,.int .u64 0,.int .u64 0,.int .u64 0] 68)) (eI w (.cells #[.int .u64 p0,.int .u64 p1,.int .u64 p2,.int .u64 p3,.int .u64 c0,.int .u64 c1,.int .u64 c2,.int .u64 c3] 70) (.cells #[.int .u64 a,.int .u64 b,.int .u64 c,.int .u64 d] 68) (.cells #[.int .u64 p,.int .u64 q,.int .u64 r,.int .u64 s] 68) (.cells #[.int .u64 0,.int .u64 0,.int .u64 0,.int .u64 0] 68)).size).cons Y.blk).cons X.blk).cons (x:=⟨w.heap.size,4,c0,c1,c2,c3⟩) ⟨FR.c4,FR.c5,FR.c6,FR.c7,FR.fz⟩).cons (x:=⟨w.heap.size,0,p0,p1,p2,p3⟩) ⟨FR.c0,FR.c1,FR.c2,FR.c3,FR.fz⟩;simp only[Qz]at T3;clear FR X Y;generalize QN _ _=W0 at KP T3⊢;generalize h3:w.heap.size+1+1+1=k3 at T3⊢;generalize h2:w.heap.size+1+1=k2 at KP⊢;generalize h1:w.heap.size+1=k1 at KP⊢;have Q3:Hid (w.heap.size<=k3):=by unfold Hid;omega
 generalize h0:w.heap.size=k0 at KP Q3⊢;have H0:Hid (w.heap.size=k0):=h0;have hl3:∀x∈([⟨k0,0,p0,p1,p2,p3⟩,⟨k0,4,c0,c1,c2,c3⟩,⟨k1,0,a,b,c,d⟩,⟨k2,0,p,q,r,s⟩]:List Blk),k3≠x.k:=by simp only[QU,P4,or_false];rintro x (rfl|rfl|rfl|rfl)<;>simp only<;>omega
 clear h0 h1 h2 h3;obtain⟨tc0,tc1,tc2,tc3,tf⟩:=id T3;have zt:=T3.lt;go_region_held3 (fun w'=>w'.cell? ⟨k0,0,none⟩=some (.int .u64 p0)/\w'.cell? ⟨k0,1,none⟩=some (.int .u64 p1)/\w'.cell? ⟨k0,2,none⟩=some (.int .u64 p2)/\w'.cell? ⟨k0,3,none⟩=some (.int .u64 p3)/\w'.cell? ⟨k0,4,none⟩=some (.int .u64 c0)/\w'.cell? ⟨k0,5,none⟩=some (.int .u64 c1)/\w'.cell? ⟨k0,6,none⟩=some (.int .u64 c2)/\w'.cell? ⟨k0,7,none⟩=some (.int .u64 c3)/\w'.cell? ⟨k1,0,none⟩=some (.int .u64 a)/\w'.cell? ⟨k1,1,none⟩=some (.int .u64 b)/\w'.cell? ⟨k1,2,none⟩=some (.int .u64 c)/\w'.cell? ⟨k1,3,none⟩=some (.int .u64 d)/\w'.cell? ⟨k2,0,none⟩=some (.int .u64 p)/\w'.cell? ⟨k2,1,none⟩=some (.int .u64 q)/\w'.cell? ⟨k2,2,none⟩=some (.int .u64 r)/\w'.cell? ⟨k2,3,none⟩=some (.int .u64 s)/\Kept w k0 [⟨k0,0,p0,p1,p2,p3⟩,⟨k0,4,c0,c1,c2,c3⟩,⟨k1,0,a,b,c,d⟩,⟨k2,0,p,q,r,s⟩] w') (first|(with_reducible exact dJ KP)|(with_reducible exact dJ KP.drew)|(with_reducible exact dJ (KP.set4' Q3.out hl3 _ _ _ _))|(with_reducible exact dJ (KP.set4' Q3.out hl3 _ _ _ _).drew)|fail) (first|(go_at_call 65;refine(jB _ _ _ _ HX.out HY.out _).mono ?_;rintro e w1 ⟨v,rfl,hb1,hE1⟩;obtain⟨x0,x1,x2,x3,x4,x5,x6,x7,rfl,hx0,hx1,hx2,hx3,hx4,hx5,hx6,hx7,hxe⟩:=id hE1;clear hxe;have HE1:Hid (jT _ _):=hE1;clear hE1;have KP1:=KP.drew.call hb1;have T1:=T3.drew.call hb1;clear KP T3 hb1;have KP:=KP1;have T3:=T1;clear KP1 T1;obtain⟨tc0,tc1,tc2,tc3,tf⟩:=id T3;have zt:=T3.lt)|(go_at_call 66;refine(HL.out _ _ _ HE1.out).mono ?_;rintro e w2 ⟨v,rfl,hb2,hF3⟩;obtain⟨a',b',c',d',rfl,ha',hb',hc',hd',es3⟩:=id hF3;clear es3;have HF3:Hid (Four _ _):=hF3;clear hF3;have KP1:=KP.call hb2;have T1:=T3.call hb2;clear KP T3 hb2;have KP:=KP1;have T3:=T1;clear KP1 T1;obtain⟨tc0,tc1,tc2,tc3,tf⟩:=id T3;have zt:=T3.lt))
 go_wp2;have RF:=T3.self4 a' b' c' d';unfold set4 at RF;refine bodyPost_ret (v:=?v) ?hr rfl ?hR
 case hr=>simp[results,Tryz.results34,go_sem,RF.c0,RF.c1,RF.c2,RF.c3];rfl
 refine⟨_,rfl,?_,HF3.out⟩;rw[H0.out];exact aD KP.bl Q3.out _ _ _ _
theorem Four.eight{a b c d m:Nat}(h:Four (.agg #[.int .u64 a,.int .u64 b,.int .u64 c,.int .u64 d]) m):
 jT (.agg #[.int .u64 a,.int .u64 b,.int .u64 c,.int .u64 d,.int .u64 0,.int .u64 0,.int .u64 0,.int .u64 0]) m:=by
 obtain⟨p,q,r,s,e,hp,hq,hr,hs,rfl⟩:=h;simp only[QD.injEq,UV.injEq,Uf.injEq,QT.injEq,true_and,and_true,TA]at e;obtain⟨rfl,rfl,rfl,rfl⟩:=e;exact⟨a,b,c,d,0,0,0,0,rfl,hp,hq,hr,hs,by decide,by decide,by decide,by decide,rfl⟩
theorem ET{v u:Value}{m n:Nat}(hx:Four v m)(hy:Four u n):m+n<top*top:=by
 have h1:=hx.lt;have h2:=hy.lt;have h3:top+top<=top*top:=by unfold top;decide
 omega
theorem Gc(p0 p1 p2 p3 c0 c1 c2 c3 P:Nat)(x y:Value)(m n:Nat)(hp0:p0<18446744073709551616)(hp1:p1<18446744073709551616)(hp2:p2<18446744073709551616)(hp3:p3<18446744073709551616)
 (hc0:c0<18446744073709551616) (hc1:c1<18446744073709551616) (hc2:c2<18446744073709551616) (hc3:c3<18446744073709551616) (eP:P=val p0 p1 p2 p3) (hP:P+val c0 c1 c2 c3=top) (hP2:top<2*P) (hx:Four x m) (hy:Four y n) (w:World) :
 Calls prog 33 #[.agg #[.int .u64 p0,.int .u64 p1,.int .u64 p2,.int .u64 p3,.int .u64 c0,.int .u64 c1,.int .u64 c2,.int .u64 c3],x,y] w (Ret fun e w'=>Below w.heap.size w w'/\Four e ((m+n)%P)):=by
 obtain⟨a,b,c,d,rfl,ha,hb,hc,hd,em⟩:=id hx;obtain⟨p,q,r,s,rfl,hp,hq,hr,hs,en⟩:=id hy;have HX:Hid (Four _ _):=hx;have HY:Hid (Four _ _):=hy;have HL:Hid (∀(v:Value) (k:Nat) (w:World),jT v k->Calls prog 66 #[.agg #[.int .u64 p0,.int .u64 p1,.int .u64 p2,.int .u64 p3,.int .u64 c0,.int .u64 c1,.int .u64 c2,.int .u64 c3],v] w (Ret fun e w'=>Below w.heap.size w w'/\Four e (k%P))):=
  fun v k w hv=>oN p0 p1 p2 p3 c0 c1 c2 c3 P v k hp0 hp1 hp2 hp3 hc0 hc1 hc2 hc3 eP hP hP2 hv w
 clear em en hx hy ha hb hc hd hp hq hr hs hp0 hp1 hp2 hp3 hc0 hc1 hc2 hc3 eP hP hP2;go_enter Tryz.func33,Tryz.ntmps33;go_wp2_with fail
 have FR:=((((At8.made w 70 p0 p1 p2 p3 c0 c1 c2 c3 rfl).alloc (.cells #[.int .u64 a,.int .u64 b,.int .u64 c,.int .u64 d] 68)).alloc (.cells #[.int .u64 p,.int .u64 q,.int .u64 r,.int .u64 s] 68)).alloc (.cells #[.int .u64 0,.int .u64 0,.int .u64 0,.int .u64 0] 68))
 have X:=(((At4.made (w.alloc (.cells #[.int .u64 p0,.int .u64 p1,.int .u64 p2,.int .u64 p3,.int .u64 c0,.int .u64 c1,.int .u64 c2,.int .u64 c3] 70)) 68 a b c d (Qa _ _)).alloc (.cells #[.int .u64 p,.int .u64 q,.int .u64 r,.int .u64 s] 68)).alloc (.cells #[.int .u64 0,.int .u64 0,.int .u64 0,.int .u64 0] 68))
 have Y:=((At4.made ((w.alloc (.cells #[.int .u64 p0,.int .u64 p1,.int .u64 p2,.int .u64 p3,.int .u64 c0,.int .u64 c1,.int .u64 c2,.int .u64 c3] 70)).alloc (.cells #[.int .u64 a,.int .u64 b,.int .u64 c,.int .u64 d] 68)) 68 p q r s (k:=w.heap.size+1+1) (by simp)).alloc (.cells #[.int .u64 0,.int .u64 0,.int .u64 0,.int .u64 0] 68))
 have T3:=At4.made (((w.alloc (.cells #[.int .u64 p0,.int .u64 p1,.int .u64 p2,.int .u64 p3,.int .u64 c0,.int .u64 c1,.int .u64 c2,.int .u64 c3] 70)).alloc (.cells #[.int .u64 a,.int .u64 b,.int .u64 c,.int .u64 d] 68)).alloc (.cells #[.int .u64 p,.int .u64 q,.int .u64 r,.int .u64 s] 68)) 68 0 0 0 0 (k:=w.heap.size+1+1+1) (by simp);have KP:=((((Kept.mk1 (eI w (.cells #[.int .u64 p0,.int .u64 p1,.int .u64 p2,.int .u64 p3,.int .u64 c0,.int .u64 c1,.int .u64 c2,.int .u64 c3] 70) (.cells #[.int .u64 a,.int .u64 b,.int .u64 c,.int .u64 d] 68) (.cells #[.int .u64 p,.int .u64 q,.int .u64 r,.int .u64 s] 68) (.cells #[.int .u64 0,.int .u64 0,.int .u64 0,.int .u64 0] 68)) (eI w (.cells #[.int .u64 p0,.int .u64 p1,.int .u64 p2,.int .u64 p3,.int .u64 c0,.int .u64 c1,.int .u64 c2,.int .u64 c3] 70) (.cells #[.int .u64 a,.int .u64 b,.int .u64 c,.int .u64 d] 68) (.cells #[.int .u64 p,.int .u64 q,.int .u64 r,.int .u64 s] 68) (.cells #[.int .u64 0,.int .u64 0,.int .u64 0,.int .u64 0] 68)).size).cons Y.blk).cons X.blk).cons (x:=⟨w.heap.size,4,c0,c1,c2,c3⟩) ⟨FR.c4,FR.c5,FR.c6,FR.c7,FR.fz⟩).cons (x:=⟨w.heap.size,0,p0,p1,p2,p3⟩) ⟨FR.c0,FR.c1,FR.c2,FR.c3,FR.fz⟩;simp only[Qz]at T3;clear FR X Y;generalize QN _ _=W0 at KP T3⊢;generalize h3:w.heap.size+1+1+1=k3 at T3⊢;generalize h2:w.heap.size+1+1=k2 at KP⊢;generalize h1:w.heap.size+1=k1 at KP⊢;have Q3:Hid (w.heap.size<=k3):=by unfold Hid;omega
 generalize h0:w.heap.size=k0 at KP Q3⊢;have H0:Hid (w.heap.size=k0):=h0;have hl3:∀x∈([⟨k0,0,p0,p1,p2,p3⟩,⟨k0,4,c0,c1,c2,c3⟩,⟨k1,0,a,b,c,d⟩,⟨k2,0,p,q,r,s⟩]:List Blk),k3≠x.k:=by simp only[QU,P4,or_false];rintro x (rfl|rfl|rfl|rfl)<;>simp only<;>omega
 clear h0 h1 h2 h3;obtain⟨tc0,tc1,tc2,tc3,tf⟩:=id T3;have zt:=T3.lt;go_region_held3 (fun w'=>w'.cell? ⟨k0,0,none⟩=some (.int .u64 p0)/\w'.cell? ⟨k0,1,none⟩=some (.int .u64 p1)/\w'.cell? ⟨k0,2,none⟩=some (.int .u64 p2)/\w'.cell? ⟨k0,3,none⟩=some (.int .u64 p3)/\w'.cell? ⟨k0,4,none⟩=some (.int .u64 c0)/\w'.cell? ⟨k0,5,none⟩=some (.int .u64 c1)/\w'.cell? ⟨k0,6,none⟩=some (.int .u64 c2)/\w'.cell? ⟨k0,7,none⟩=some (.int .u64 c3)/\w'.cell? ⟨k1,0,none⟩=some (.int .u64 a)/\w'.cell? ⟨k1,1,none⟩=some (.int .u64 b)/\w'.cell? ⟨k1,2,none⟩=some (.int .u64 c)/\w'.cell? ⟨k1,3,none⟩=some (.int .u64 d)/\w'.cell? ⟨k2,0,none⟩=some (.int .u64 p)/\w'.cell? ⟨k2,1,none⟩=some (.int .u64 q)/\w'.cell? ⟨k2,2,none⟩=some (.int .u64 r)/\w'.cell? ⟨k2,3,none⟩=some (.int .u64 s)/\Kept w k0 [⟨k0,0,p0,p1,p2,p3⟩,⟨k0,4,c0,c1,c2,c3⟩,⟨k1,0,a,b,c,d⟩,⟨k2,0,p,q,r,s⟩] w') (first|(with_reducible exact dJ KP)|(with_reducible exact dJ KP.drew)|(with_reducible exact dJ (KP.set4' Q3.out hl3 _ _ _ _))|(with_reducible exact dJ (KP.set4' Q3.out hl3 _ _ _ _).drew)|fail) (first|(go_at_call 67;refine(oD _ _ _ _ (Four.eight HX.out) (Four.eight HY.out) (ET HX.out HY.out) _).mono ?_;rintro e w1 ⟨v,rfl,hb1,hE1⟩;obtain⟨x0,x1,x2,x3,x4,x5,x6,x7,rfl,hx0,hx1,hx2,hx3,hx4,hx5,hx6,hx7,hxe⟩:=id hE1;clear hxe;have HE1:Hid (jT _ _):=hE1;clear hE1;have KP1:=KP.drew.call hb1;have T1:=T3.drew.call hb1;clear KP T3 hb1;have KP:=KP1;have T3:=T1;clear KP1 T1;obtain⟨tc0,tc1,tc2,tc3,tf⟩:=id T3;have zt:=T3.lt)|(go_at_call 66;refine(HL.out _ _ _ HE1.out).mono ?_;rintro e w2 ⟨v,rfl,hb2,hF3⟩;obtain⟨a',b',c',d',rfl,ha',hb',hc',hd',es3⟩:=id hF3;clear es3;have HF3:Hid (Four _ _):=hF3;clear hF3;have KP1:=KP.call hb2;have T1:=T3.call hb2;clear KP T3 hb2;have KP:=KP1;have T3:=T1;clear KP1 T1;obtain⟨tc0,tc1,tc2,tc3,tf⟩:=id T3;have zt:=T3.lt))
 go_wp2;have RF:=T3.self4 a' b' c' d';unfold set4 at RF;refine bodyPost_ret (v:=?v) ?hr rfl ?hR
 case hr=>simp[results,Tryz.results33,go_sem,RF.c0,RF.c1,RF.c2,RF.c3];rfl
 refine⟨_,rfl,?_,HF3.out⟩;rw[H0.out];exact aD KP.bl Q3.out _ _ _ _
theorem AO(x y:Value)(m n:Nat)(hx:Four x m)(hy:Four y n)(w:World):
 Calls prog 145 #[x,y] w (Ret fun e w'=>Below w.heap.size w w'/\e=.bool (decide (m<n))):=by
 obtain⟨a,b,c,d,rfl,ha,hb,hc,hd,em⟩:=id hx;obtain⟨p,q,r,s,rfl,hp,hq,hr,hs,en⟩:=id hy;have HX:Hid (Four _ _):=hx;have HY:Hid (Four _ _):=hy;clear em en hx hy ha hb hc hd hp hq hr hs;go_enter Tryz.func145,Tryz.ntmps145;go_wp2_with fail
 refine(oH _ _ _ _ HX.out HY.out _).mono ?_;rintro e w1 ⟨v,rfl,hb1,v2,t,k,rfl,hF,hk,he⟩;have HB:Hid (Below w.heap.size w w1):=(below2 w _ _).trans (hb1.mono (below2 w _ _).size);have hd:decide (m<n)=decide (k=1):=by
  have h1:=hF.lt;have h2:=HX.out.lt;have h3:=HY.out.lt;have:k=0\/k=1:=by omega
  rcases this with rfl|rfl
  ·rw[decide_eq_false (by omega),decide_eq_false (by omega)]
  ·rw[decide_eq_true (by omega),decide_eq_true rfl]
 have HD:Hid (decide (m<n)=decide (k=1)):=hd;obtain⟨a',b',c',d',rfl,ha',hb',hc',hd',es⟩:=id hF;clear es hF he hd hb1;have:k=0\/k=1:=by omega
 rcases this with rfl|rfl
 ·go_wp2;go_ret;exact⟨_,rfl,HB.out.alloc HB.out.size _,by rw[HD.out];rfl⟩
 ·go_wp2;go_ret;exact⟨_,rfl,HB.out.alloc HB.out.size _,by rw[HD.out];rfl⟩
end
section
open Go.RowKit Go.Sort Go.Deep
variable {P:Nat}[NeZero P]{N:Nat}
theorem At4.setq{w:World}{k a b c d:Nat}(h:At4 w k a b c d)(q o:Nat)(hq:q<4):
 At4 (w.setCell ⟨k,q,none⟩ (.int .u64 o)) k (if q=0 then o else a) (if q=1 then o else b) (if q=2 then o else c) (if q=3 then o else d):=by
 have h':q=0\/q=1\/q=2\/q=3:=by omega
 rcases h' with rfl|rfl|rfl|rfl
 ·exact h.set0 o
 ·exact h.set1 o
 ·exact h.set2 o
 ·exact h.set3 o
theorem JB{a b c d M k B:Nat}(ha:a<18446744073709551616)(hb:b<18446744073709551616)(hc:c<18446744073709551616)(hd:d<18446744073709551616)(hk:k<32)(hB:B<256)(hv:val a b c d=M*256^(k+1)):
 bits .or .u64 (wd a b c d (k/8):Int) ((B*2^(8*(k%8)):Nat):Int)=((wd a b c d (k/8)+B*2^(8*(k%8)):Nat):Int)/\wd a b c d (k/8)+B*2^(8*(k%8))<18446744073709551616:=by
 have h1:wd a b c d (k/8)=256^(k%8+1)*(M%256^(7-k%8)):=by
  rw[Fe (k/8) (by omega) ha hb hc hd,hv,LY rfl rfl]
 obtain⟨h2,h3⟩:=ND (y:=M%256^(7-k%8)) (x:=B) (r:=k%8) (by omega) hB (RN _ (U0 (by decide)));rw[h1];refine⟨?_,h3⟩;rw[bits_or_u64_nat _ _ (by omega) (by omega),h2]
theorem JC{a b c d k B o:Nat}(hk:k<32)(ho:o=wd a b c d (k/8)+B*2^(8*(k%8))):
 val (if k/8=0 then o else a) (if k/8=1 then o else b) (if k/8=2 then o else c) (if k/8=3 then o else d)=val a b c d+B*256^k:=by
 have h:=Cj a b c d (k/8) o (by omega);have e:(256:Nat)^k=2^(64*(k/8))*2^(8*(k%8)):=by
  rw[<-RI,show 64*(k/8)+8*(k%8)=8*k by omega,Nat.pow_mul]
 rw[ho,Sw,<-RH,Qr (2^(64*(k/8))) B,RH,<-e]at h;rw[ho];omega
theorem Hx(s:ByteArray)(i:Nat)(hi:i<s.size):beV (s.data.extract 0 (i+1)).toList=beV (s.data.extract 0 i).toList*256+s[i].toNat:=by
 have e:(s.data.extract 0 (i+1)).toList=(s.data.extract 0 i).toList++[s[i]]:=by
  rw[Array.extract_succ_right (by omega) hi,Array.toList_push];rfl
 rw[e,cX];simp[beV]
theorem CL(s:ByteArray)(hs:s.size=32)(w:World):
 Calls prog 114 #[.string s] w (Ret fun e w'=>Below w.heap.size w w'/\Four e (beV s.data.toList)):=by
 go_enter Tryz.func114,Tryz.ntmps114;go_wp2;have KP:=((Kept.mk1 (below2 w (.cells #[.int .u64 0,.int .u64 0,.int .u64 0,.int .u64 0] 68) (.cells #[.int .u64 0,.int .u64 0,.int .u64 0,.int .u64 0] 68)) (below2 w _ _).size).cons ((At4.made w 68 0 0 0 0 rfl).alloc (.cells #[.int .u64 0,.int .u64 0,.int .u64 0,.int .u64 0] 68)).blk).cons (At4.made (w.alloc (.cells #[.int .u64 0,.int .u64 0,.int .u64 0,.int .u64 0] 68)) 68 0 0 0 0 (Qa _ _)).blk;generalize QN _ _=W0 at KP⊢;generalize h1:w.heap.size+1=k1 at KP⊢;have n10:k1≠w.heap.size:=by omega
 have Q1:Hid (w.heap.size<=k1):=by unfold Hid;omega
 clear h1;go_loopg [4] 32 (fun gk s4 wr=>∃i a b c d:Nat,i+gk=32/\s4=.int .i64 i/\Kept w w.heap.size [⟨k1,0,a,b,c,d⟩,⟨w.heap.size,0,0,0,0,0⟩] wr/\Hid (Four (.agg #[.int .u64 a,.int .u64 b,.int .u64 c,.int .u64 d]) (beV (s.data.extract 0 i).toList*256^(32-i))))
 case atStart =>
  refine⟨0,0,0,0,0,rfl,rfl,KP,?_⟩;have:beV (s.data.extract 0 0).toList=0:=by simp[beV]
  rw[this,Nat.zero_mul];exact Four.mk (by decide) (by decide) (by decide) (by decide) rfl
 case round =>
  clear KP;obtain⟨i,a,b,c,d,hi,rfl,KP,HF⟩:=hrel;by_cases hlt:i<32
  ·obtain⟨k,hk⟩:∃k,31-i=k:=⟨_,rfl⟩
   have hk32:k<32:=by omega
   have hi32:i<s.size:=by omega
   have hF:val a b c d=beV (s.data.extract 0 i).toList*256^(k+1)/\a<18446744073709551616/\b<18446744073709551616/\c<18446744073709551616/\d<18446744073709551616:=by
    obtain⟨a',b',c',d',e',h1,h2,h3,h4,h5⟩:=HF.out;obtain⟨rfl,rfl,rfl,rfl⟩:a'=a/\b'=b/\c'=c/\d'=d:=by
     simp only[QD.injEq,UV.injEq,Uf.injEq,QT.injEq,true_and,and_true,TA]at e';exact⟨e'.1.symm,e'.2.1.symm,e'.2.2.1.symm,e'.2.2.2.symm⟩
    exact⟨by rw[<-h5,show 32-i=k+1 by omega],h1,h2,h3,h4⟩
   obtain⟨B,hB⟩:∃B,s[i].toNat=B:=⟨_,rfl⟩
   have hB256:B<256:=hB ▸ s[i].toNat_lt;have hsb:Qs.wrap (s[i].toNat:Int)=(B:Int):=by rw[hB];exact wrapN _ (by omega)
   obtain⟨hor,hol⟩:=JB hF.2.1 hF.2.2.1 hF.2.2.2.1 hF.2.2.2.2 hk32 hB256 hF.1;have xw:=KP.head.at4.wd (k/8) (by omega);obtain⟨o,ho⟩:∃o,wd a b c d (k/8)+B*2^(8*(k%8))=o:=⟨_,rfl⟩
   rw[ho]at hor hol;have hst:=JC (a:=a) (b:=b) (c:=c) (d:=d) hk32 ho.symm;have HST:Hid (Four (.agg #[.int .u64 ((if k/8=0 then o else a:Nat):Int),.int .u64 ((if k/8=1 then o else b:Nat):Int),.int .u64 ((if k/8=2 then o else c:Nat):Int),.int .u64 ((if k/8=3 then o else d:Nat):Int)]) (beV (s.data.extract 0 (i+1)).toList*256^(32-(i+1)))):=by
    refine Four.mk ?_ ?_ ?_ ?_ ?_
    ·split;exact hol;exact hF.2.1
    ·split;exact hol;exact hF.2.2.1
    ·split;exact hol;exact hF.2.2.2.1
    ·split;exact hol;exact hF.2.2.2.2
    ·rw[hst,hF.1,Hx s i hi32,hB,show 32-(i+1)=k by omega,SK,Rk,RH,Qr (256^k) 256]
   obtain⟨y,hy⟩:∃y,B*2^(8*(k%8))=y:=⟨_,rfl⟩
   have hyl:y<18446744073709551616:=by omega
   rw[hy]at hor;obtain⟨v,hv⟩:∃v,wd a b c d (k/8)=v:=⟨_,rfl⟩
   rw[hv]at hor xw;obtain⟨q,hq⟩:∃q,k/8=q:=⟨_,rfl⟩
   obtain⟨r,hr⟩:∃r,k%8=r:=⟨_,rfl⟩
   obtain⟨t,ht⟩:∃t,8*r=t:=⟨_,rfl⟩
   have hq4:q<4:=by omega
   have PT:=fun(v:Value)=>KP.tail.set (j:=k1) (i:=q) Q1.out (by simp only[QU,P4,or_false];rintro x rfl;exact n10) v
   rw[hq]at xw HST;have hsh:Qs.wrap ((B:Int)*2^t)=(y:Int):=by
    rw[<-ht,<-hr,<-hy,RS,SC];have:=wrapN (B*2^(8*(k%8))) (by omega);rw[RS,SC]at this;exact this
   have i1:(31:Int)-(i:Int)=(k:Int):=by omega
   have i2:(k:Int).tdiv 8=(q:Int):=by rw[SZ (by omega)];omega
   have i3:(k:Int).tmod 8=(r:Int):=by rw[Sy (by omega)];omega
   have i4:(q:Int)<4:=by omega
   have i5:QA.wrap (q:Int)=(q:Int):=fP _ (by omega);have i6:QA.wrap (r:Int)=(r:Int):=fP _ (by omega);have i7:(8:Int)*(r:Int)=(t:Int):=by omega
   have i8:QA.wrap (t:Int)=(t:Int):=fP _ (by omega);have i9:t<64:=by omega
   have i10:(t:Int)<64:=by omega
   have hlt':(i:Int)<32:=by omega
   have T1:=KP.head.at4.setq q o hq4;have z1:=KP.head.lt;have xf:=KP.head.f;have HSB:Hid (s[i].toNat=B):=hB;have H4:Hid (q<4):=hq4;clear hy hv hq hr ht ho hst hF hB HF;go_wp2;go_region
   go_wp2;go_roundg (gk-1)
   case measure=>omega
   case rel =>
    refine⟨i+1,_,_,_,_,by omega,rfl,?_,HST⟩;exact((PT _).cons T1.blk).drew
  ·have hi32:i=32:=by omega
   subst hi32;have hse:s.data.extract 0 32=s.data:=by
    have h2:s.data.size=32:=hs;rw[<-h2];exact Array.extract_size
   have h1:=HF.out;rw[TK,SX,Nat.mul_one,hse]at h1;have HFE:Hid (Four _ _):=h1;clear h1 hse;obtain⟨nc0,nc1,nc2,nc3,nf⟩:=KP.head.at4;obtain⟨rc0,rc1,rc2,rc3,rf⟩:=KP.tail.head.at4;have z1:=KP.head.lt;have z0:=KP.tail.head.lt;clear HF;go_wp2;have RF:=KP.tail.head.at4.self4 a b c d;unfold set4 at RF;refine bodyPost_ret (v:=?v) ?hr rfl ?hR
   case hr=>simp[results,Tryz.results114,go_sem,RF.c0,RF.c1,RF.c2,RF.c3];rfl
   exact⟨_,rfl,aD KP.bl (PQ _) _ _ _ _,HFE.out⟩
theorem Me(w:World)(p0 p1 p2 p3 c0 c1 c2 c3 a b c d p q r s:Nat):
 Kept w w.heap.size [⟨w.heap.size,0,p0,p1,p2,p3⟩,⟨w.heap.size,4,c0,c1,c2,c3⟩,⟨w.heap.size+1,0,a,b,c,d⟩,⟨w.heap.size+1+1,0,p,q,r,s⟩,⟨w.heap.size+1+1+1,0,0,0,0,0⟩]
  ((((w.alloc (.cells #[.int .u64 p0,.int .u64 p1,.int .u64 p2,.int .u64 p3,.int .u64 c0,.int .u64 c1,.int .u64 c2,.int .u64 c3] 70)).alloc (.cells #[.int .u64 a,.int .u64 b,.int .u64 c,.int .u64 d] 68)).alloc (.cells #[.int .u64 p,.int .u64 q,.int .u64 r,.int .u64 s] 68)).alloc (.cells #[.int .u64 0,.int .u64 0,.int .u64 0,.int .u64 0] 68)):=by
 have F:=(((At8.made w 70 p0 p1 p2 p3 c0 c1 c2 c3 rfl).alloc (.cells #[.int .u64 a,.int .u64 b,.int .u64 c,.int .u64 d] 68)).alloc (.cells #[.int .u64 p,.int .u64 q,.int .u64 r,.int .u64 s] 68)).alloc (.cells #[.int .u64 0,.int .u64 0,.int .u64 0,.int .u64 0] 68);refine(((((Kept.mk1 (eI w _ _ _ _) (eI w _ _ _ _).size).cons ?_).cons ?_).cons ?_).cons ?_).cons ?_
 ·exact(At4.made _ 68 0 0 0 0 (by simp)).blk
 ·exact((At4.made _ 68 p q r s (by simp)).alloc _).blk
 ·exact(((At4.made _ 68 a b c d (by simp)).alloc _).alloc _).blk
 ·exact⟨F.c4,F.c5,F.c6,F.c7,F.fz⟩
 ·exact⟨F.c0,F.c1,F.c2,F.c3,F.fz⟩
theorem GL(w:World)(p0 p1 p2 p3 c0 c1 c2 c3 a b c d:Nat):
 Kept w w.heap.size [⟨w.heap.size,0,p0,p1,p2,p3⟩,⟨w.heap.size,4,c0,c1,c2,c3⟩,⟨w.heap.size+1,0,a,b,c,d⟩,⟨w.heap.size+1+1,0,0,0,0,0⟩]
  (((w.alloc (.cells #[.int .u64 p0,.int .u64 p1,.int .u64 p2,.int .u64 p3,.int .u64 c0,.int .u64 c1,.int .u64 c2,.int .u64 c3] 70)).alloc (.cells #[.int .u64 a,.int .u64 b,.int .u64 c,.int .u64 d] 68)).alloc (.cells #[.int .u64 0,.int .u64 0,.int .u64 0,.int .u64 0] 68)):=by
 have F:=((At8.made w 70 p0 p1 p2 p3 c0 c1 c2 c3 rfl).alloc (.cells #[.int .u64 a,.int .u64 b,.int .u64 c,.int .u64 d] 68)).alloc (.cells #[.int .u64 0,.int .u64 0,.int .u64 0,.int .u64 0] 68);refine((((Kept.mk1 (below3 w _ _ _) (below3 w _ _ _).size).cons ?_).cons ?_).cons ?_).cons ?_
 ·exact(At4.made _ 68 0 0 0 0 (by simp)).blk
 ·exact((At4.made _ 68 a b c d (by simp)).alloc _).blk
 ·exact⟨F.c4,F.c5,F.c6,F.c7,F.fz⟩
 ·exact⟨F.c0,F.c1,F.c2,F.c3,F.fz⟩
theorem Mf(w:World)(p0 p1 p2 p3 c0 c1 c2 c3:Nat):
 Kept w w.heap.size [⟨w.heap.size,0,p0,p1,p2,p3⟩,⟨w.heap.size,4,c0,c1,c2,c3⟩,⟨w.heap.size+1,0,0,0,0,0⟩] ((w.alloc (.cells #[.int .u64 p0,.int .u64 p1,.int .u64 p2,.int .u64 p3,.int .u64 c0,.int .u64 c1,.int .u64 c2,.int .u64 c3] 70)).alloc (.cells #[.int .u64 0,.int .u64 0,.int .u64 0,.int .u64 0] 68)):=by
 have F:=(At8.made w 70 p0 p1 p2 p3 c0 c1 c2 c3 rfl).alloc (.cells #[.int .u64 0,.int .u64 0,.int .u64 0,.int .u64 0] 68);refine(((Kept.mk1 (below2 w _ _) (below2 w _ _).size).cons ?_).cons ?_).cons ?_
 ·exact(At4.made _ 68 0 0 0 0 (by simp)).blk
 ·exact⟨F.c4,F.c5,F.c6,F.c7,F.fz⟩
 ·exact⟨F.c0,F.c1,F.c2,F.c3,F.fz⟩
theorem kF(p0 p1 p2 p3 c0 c1 c2 c3 P:Nat)(x:ByteArray)(hR:RefP p0 p1 p2 p3 c0 c1 c2 c3 P)(w:World):
 Calls prog 106 #[.agg #[.int .u64 p0,.int .u64 p1,.int .u64 p2,.int .u64 p3,.int .u64 c0,.int .u64 c1,.int .u64 c2,.int .u64 c3],.string x] w (Ret fun e w'=>Below w.heap.size w w'/\∃(a b c d:Nat) (ok:Bool),e=.tuple #[.agg #[.int .u64 a,.int .u64 b,.int .u64 c,.int .u64 d],.bool ok]/\(ok=true->La P x.data/\Four (.agg #[.int .u64 a,.int .u64 b,.int .u64 c,.int .u64 d]) (beV x.data.toList))/\(ok=false->¬La P x.data)/\(x.size=32->Four (.agg #[.int .u64 a,.int .u64 b,.int .u64 c,.int .u64 d]) (beV x.data.toList))/\(¬x.size=32->a=0/\b=0/\c=0/\d=0)):=by
 have HR:Hid (RefP p0 p1 p2 p3 c0 c1 c2 c3 P):=hR;clear hR;by_cases hs:x.size=32
 ·have HS:Hid (x.size=32):=hs;have hs':(x.size:Int)=32:=by omega
  clear hs;go_enter Tryz.func106,Tryz.ntmps106;go_wp2_with fail
  have KP:=Mf w p0 p1 p2 p3 c0 c1 c2 c3;generalize QN _ _=W0 at KP⊢;refine(CL x HS.out _).mono ?_;rintro e w1 ⟨v,rfl,hb1,hF⟩;obtain⟨a,b,c,d,rfl,ha,hb,hc,hd,es⟩:=id hF;have HF:Hid (Four _ _):=hF;replace KP:=KP.call hb1;clear hF es hb1 ha hb hc hd;obtain⟨pc0,pc1,pc2,pc3,pf⟩:=KP.head.at4;have z0:=KP.head.lt;have n0:w.heap.size≠w1.heap.size:=Rf z0;go_wp2_with fail
  refine(AO _ _ _ _ HF.out (Four.mk HR.out.hp0 HR.out.hp1 HR.out.hp2 HR.out.hp3 HR.out.eP) _).mono ?_;rintro e w2 ⟨v,rfl,hb2,rfl⟩;have KP2:=((KP.alloc (.cells #[.int .u64 a,.int .u64 b,.int .u64 c,.int .u64 d] 68)).cons (At4.made w1 68 a b c d rfl).blk).call hb2;clear hb2 pc0 pc1 pc2 pc3 pf z0 n0;have n4:w.heap.size+1≠w1.heap.size:=Rf KP.tail.tail.head.lt;clear KP;generalize w1.heap.size=k5 at KP2 n4⊢;obtain⟨nc0,nc1,nc2,nc3,nf⟩:=KP2.head.at4;obtain⟨rc0,rc1,rc2,rc3,rf⟩:=KP2.tail.tail.tail.head.at4;have z5:=KP2.head.lt;have z1:=KP2.tail.tail.tail.head.lt;obtain⟨ok,hok⟩:∃ok,decide (beV x.data.toList<P)=ok:=⟨_,rfl⟩
  rw[hok];have HO:Hid (decide (beV x.data.toList<P)=ok):=hok;clear hok;go_wp2;have RF:=KP2.tail.tail.tail.head.at4.self4 a b c d;unfold set4 at RF;refine bodyPost_ret (v:=?v) ?hr rfl ?hR
  case hr=>simp[results,Tryz.results106,go_sem,RF.c0,RF.c1,RF.c2,RF.c3];rfl
  refine⟨_,rfl,aD KP2.bl (Nat.le_succ _) _ _ _ _,a,b,c,d,ok,rfl,fun h=>⟨⟨HS.out,?_⟩,HF.out⟩,fun h hn=>?_,fun _=>HF.out,fun h=>absurd HS.out h⟩
  ·exact of_decide_eq_true (HO.out.trans h)
  ·have:=HO.out;rw[h]at this;exact of_decide_eq_false this hn.2
 ·have hs':¬(x.size:Int)=32:=by omega
  go_enter Tryz.func106,Tryz.ntmps106;go_wp2;refine bodyPost_ret (v:=?v2) ?hr2 rfl ?hR2
  case hr2=>simp[results,Tryz.results106,go_sem];rfl
  exact⟨_,rfl,below2 _ _ _,0,0,0,0,false,rfl,fun h=>Tc h,fun _ h=>hs h.1,fun h=>absurd h hs,fun _=>⟨rfl,rfl,rfl,rfl⟩⟩
theorem mB(n:Nat)(_:n<18446744073709551616)(w:World):Calls prog 61 #[.int .u64 n] w (Ret fun e w'=>Below w.heap.size w w'/\e=.agg #[.int .u64 n,.int .u64 0,.int .u64 0,.int .u64 0]):=by
 go_enter Tryz.func61,Tryz.ntmps61;go_wp2;refine bodyPost_ret (v:=?v) ?hr rfl ?hR
 case hr=>simp[results,Tryz.results61,go_sem];rfl
 exact⟨_,rfl,aE _ _,rfl⟩
theorem mW(x:Value)(m i:Nat)(hx:Four x m)(hi:i<256)(w:World):Calls prog 74 #[x,.int .i64 i] w (Ret fun e w'=>Below w.heap.size w w'/\∃t:Nat,e=.int .u64 t/\t=m/2^i%2):=by
 obtain⟨a,b,c,d,rfl,ha,hb,hc,hd,em⟩:=id hx;have xw:=(At4.made w 68 a b c d rfl).wd (i/64) (by omega);have hwl:wd a b c d (i/64)<18446744073709551616:=Fc _ ha hb hc hd;have hbit:wd a b c d (i/64)/2^(i%64)%2=m/2^i%2:=by rw[em];exact Am i hi ha hb hc hd
 have i2:(i:Int).tdiv 64=((i/64:Nat):Int):=by rw[SZ (by omega)];omega
 have i3:(i:Int).tmod 64=((i%64:Nat):Int):=by rw[Sy (by omega)];omega
 have i4:(i/64:Nat)<4:=by omega
 generalize wd a b c d (i/64)=v at xw hwl hbit;have hvl:v/2^(i%64)<18446744073709551616:=U5 (Nat.div_le_self _ _) hwl;have hand:bits .and .u64 ((v:Int)/2^(i%64)) 1=((m/2^i%2:Nat):Int):=by
  have:=and_one (v/2^(i%64)) hvl;rw[hbit]at this;rw[<-this,Uw,SC];rfl
 obtain⟨t,ht⟩:∃t,m/2^i%2=t:=⟨_,rfl⟩
 rw[ht]at hand;have HT:Hid (t=m/2^i%2):=ht.symm;clear hx em ha hb hc hd hbit ht hvl;go_enter Tryz.func74,Tryz.ntmps74
 go_upto_region 1 with fail
 have zx:w.heap.size<(w.alloc (.cells #[.int .u64 a,.int .u64 b,.int .u64 c,.int .u64 d] 68)).heap.size:=by simp
 have BL:=aE w (.cells #[.int .u64 a,.int .u64 b,.int .u64 c,.int .u64 d] 68);generalize QN _ _=W0 at xw zx BL⊢;go_wp2;go_ret;exact⟨_,rfl,BL,t,rfl,HT.out⟩
theorem A9(a b:Nat)(ha:a<18446744073709551616)(hb:b<18446744073709551616):∃x:Nat,bits .or .u64 (a:Int) (b:Int)=(x:Int)/\(x=0↔a=0/\b=0)/\x<18446744073709551616:=
 ⟨a ||| b,bits_or_u64_nat a b ha hb,Nat.or_eq_zero_iff,WE (n:=64) ha hb⟩
theorem oK(x:Value)(m:Nat)(hx:Four x m)(w:World):Calls prog 71 #[x] w (Ret fun e w'=>Below w.heap.size w w'/\e=.bool (decide (m=0))):=by
 obtain⟨a,b,c,d,rfl,ha,hb,hc,hd,em⟩:=id hx;obtain⟨y,o1,z1,l1⟩:=A9 a b ha hb;obtain⟨z,o2,z2,l2⟩:=A9 y c l1 hc;obtain⟨t,o3,z3,l3⟩:=A9 z d l2 hd;have hz:decide (m=0)=decide (t=0):=by
  rw[decide_eq_decide,z3,z2,z1,em];unfold val;omega
 rw[hz];clear z1 z2 z3 hz em hx;go_enter Tryz.func71,Tryz.ntmps71;go_wp2;go_ret;exact⟨_,rfl,aE _ _,by by_cases h:t=0<;>simp[h]⟩
theorem neg_val{P m s k:Nat}(hm:m<P)(_:P<top)(h0:¬m=0)(hs:s<top)(hk:k<=1)(h:s+m=P+top*k):s=(P-m)%P:=by
 have:k=0\/k=1:=by omega
 rw[Qf (by omega)];rcases this with h'|h'<;>rw[h']at h<;>omega
theorem rH(p0 p1 p2 p3 c0 c1 c2 c3 P : Nat)(x : Value)(m : Nat)(hR : RefP p0 p1 p2 p3 c0 c1 c2 c3 P)(hx : Four x m)(hm : m < P)(w : World):
    Calls prog 113 #[.agg #[.int .u64 (p0 : Int), .int .u64 (p1 : Int), .int .u64 (p2 : Int), .int .u64 (p3 : Int), .int .u64 (c0 : Int), .int .u64 (c1 : Int), .int .u64 (c2 : Int), .int .u64 (c3 : Int)], x] w (Ret fun e w' => Below w.heap.size w w' /\ Four e ((P - m) % P)) := by
  have HR : Hid (RefP p0 p1 p2 p3 c0 c1 c2 c3 P) := hR;have HX : Hid (Four x m) := hx;have HM : Hid (m < P) := hm;obtain⟨a, b, c, d, rfl, ha, hb, hc, hd, em⟩ := id hx;clear hR hx hm em ha hb hc hd;go_enter Tryz.func113, Tryz.ntmps113;go_wp2_with fail
  have KP := GL w p0 p1 p2 p3 c0 c1 c2 c3 a b c d;generalize QN _ _ = W0 at KP⊢;generalize h2 : w.heap.size + 1 + 1 = k2 at KP⊢;generalize h1 : w.heap.size + 1 = k1 at KP⊢;have Q2 : Hid (w.heap.size <= k2) := by unfold Hid; omega
  generalize h0 : w.heap.size = k0 at KP Q2⊢;have H0 : Hid (w.heap.size = k0) := h0;clear h0 h1 h2;refine(oK _ _ HX.out _).mono ?_;rintro e w1 ⟨v, rfl, hb1, rfl⟩;replace KP := KP.call hb1;clear hb1;obtain⟨xc0, xc1, xc2, xc3, xf⟩ := KP.tail.tail.head.at4;have zx := KP.tail.tail.head.lt;by_cases hz : m = 0
  · have hd : decide (m = 0) = true := decide_eq_true hz
    rw [hd];have HZ : Hid (m = 0) := hz;clear hd hz;obtain⟨rc0, rc1, rc2, rc3, rf⟩ := KP.tail.tail.tail.head.at4;have zr := KP.tail.tail.tail.head.lt;go_wp2;have RF := KP.tail.tail.tail.head.at4.self4 a b c d;unfold set4 at RF;refine bodyPost_ret (v := ?v) ?hr rfl ?hR
    case hr => simp [results, Tryz.results113, go_sem, RF.c0, RF.c1, RF.c2, RF.c3]; rfl
    refine⟨_, rfl, by rw [H0.out]; exact aD KP.bl Q2.out _ _ _ _, ?_⟩;have h1 := HX.out;rw [HZ.out]at h1⊢;rw [Ub, Nat.mod_self];exact h1
  · have hd : decide (m = 0) = false := decide_eq_false hz
    rw [hd];have HZ : Hid (¬m = 0) := hz;clear hd hz;obtain⟨fc0, fc1, fc2, fc3, ff⟩ := KP.head.at4;have zf := KP.head.lt;go_wp2_with fail
    refine(oH _ _ _ _ (Four.mk HR.out.hp0 HR.out.hp1 HR.out.hp2 HR.out.hp3 HR.out.eP) HX.out _).mono ?_;rintro e w2 ⟨v, rfl, hb2, v2, t, k, rfl, hF, hk, he⟩;have HF : Hid (Four v2 ((P - m) % P)) := by
      have h1 := neg_val HM.out (by have h3 := HR.out.hP; have h4 := HR.out.hP2; have h5 := HM.out; have h6 : 0 < val c0 c1 c2 c3 ∨ val c0 c1 c2 c3 = 0 := by omega
                                    rcases h6 with h6 | h6
                                    · omega
                                    · have h7 : Four (.agg #[.int .u64 (p0 : Int), .int .u64 (p1 : Int), .int .u64 (p2 : Int), .int .u64 (p3 : Int)]) P := Four.mk HR.out.hp0 HR.out.hp1 HR.out.hp2 HR.out.hp3 HR.out.eP
                                      exact h7.lt) HZ.out hF.lt hk he
      rw [<-h1]; exact hF
    obtain⟨ra, rb, rc, rd, rfl, -⟩ := id hF;replace KP := KP.call hb2;clear hb2 xc0 xc1 xc2 xc3 xf zx fc0 fc1 fc2 fc3 ff zf hF he;obtain⟨rc0, rc1, rc2, rc3, rf⟩ := KP.tail.tail.tail.head.at4;have zr := KP.tail.tail.tail.head.lt;have nr : k2 ≠ w2.heap.size := Rf zr;go_wp2;have RF := (KP.tail.tail.tail.head.at4.self4 ra rb rc rd).alloc (.cells #[.int .u64 (ra : Int), .int .u64 (rb : Int), .int .u64 (rc : Int), .int .u64 (rd : Int)] 68);unfold set4 at RF;refine bodyPost_ret (v := ?v2) ?hr2 rfl ?hR2
    case hr2 => simp [results, Tryz.results113, go_sem, RF.c0, RF.c1, RF.c2, RF.c3]; rfl
    refine⟨_, rfl, ?_, HF.out⟩;rw [H0.out];exact(aD KP.bl Q2.out _ _ _ _).alloc (by simpa [set4]using KP.le) _
theorem uFq:(prog.underlying 70).map (·.isRow)=some true:=by kernel_rfl
theorem iFq:(prog.info? 70).map (·.size)=some 8:=by kernel_rfl
def rl1:List Value:=[.int .u64 13822214165235122497,.int .u64 13451932020343611451,.int .u64 18446744073709551614,.int .u64 18446744073709551615,.int .u64 4624529908474429119,.int .u64 4994812053365940164,.int .u64 1,.int .u64 0]
def rv1:Value:=.agg rl1.toArray
theorem F8:Gives 60 #[.int .i64 1] rv1:=fun w=>(LI w).mono (by rintro e w' ⟨v,rfl,hb,rfl⟩;exact⟨_,rfl,hb,rfl⟩)
theorem MS:Gives 26 #[] rv1:=by
 intro w;go_enter Tryz.func26,Tryz.ntmps26;refine RG.M.enter [] 2 (by kernel_rfl) ?_;intro a0 M0;repeat refine wp_seq ?_
 refine M0.t [.m 0 [] 0] [(0,(RG.z 8))] [] [(RG.z 8)] [(0,(.p 0 0))] ⟨RG.mk 0 70,trivial⟩ ?_;intro j1 a1 w1 M1;repeat refine wp_seq ?_
 refine M1.t [.c 1 [] rv1,.u [(1,0)] 0] [] [(0,1,rl1)] [rl1] [(0,(.p 0 0))] ⟨RG.cl (F8),RG.pt iFq,trivial⟩ ?_;intro a2 w2 M2;refine wp_ret ?_;refine bodyPost_ret (v:=rv1) (RG.aC M2.st 0 70 rfl 0 _ rfl (M2.at (s:=(.p 0 0))) uFq iFq) M2.sl.defers ?_;exact⟨_,rfl,M2.st.bel.below,rfl⟩
def nuV(bs:Bs):Nat:=if bs.size=32 then beV bs.toList else 0
theorem LG{N:Nat}(hR:RefP 13822214165235122497 13451932020343611451 18446744073709551614 18446744073709551615 4624529908474429119 4994812053365940164 1 0 N)(s:ByteArray):Gives 106 #[rv1,.string s] (.tuple #[nv (nuV s.data),.bool (rq N s.data).isSome]):=fun w =>
 (kF _ _ _ _ _ _ _ _ N s hR w).mono (by
  rintro e w' ⟨v,rfl,hb,a,b,c,d,ok,rfl,h1,h2,h3,h4⟩;refine⟨_,rfl,hb,?_⟩;unfold nuV rq;cases ok with
  | true =>
   obtain⟨hi,hF⟩:=h1 rfl;rw[if_pos (show s.data.size=32/\beV s.data.toList<N from hi),if_pos (show s.data.size=32 from hi.1),hF.nv];rfl
  | false =>
   rw[if_neg (show ¬(s.data.size=32/\beV s.data.toList<N) from h2 rfl)];by_cases hs:s.data.size=32
   ·rw[if_pos hs,(h3 hs).nv];rfl
   ·rw[if_neg hs];obtain⟨rfl,rfl,rfl,rfl⟩:=h4 hs;rfl)
theorem FH{N:Nat}{bs:Bs}{n:Nat}(h:rq N bs=some n):n=nuV bs:=by
 unfold rq at h;split at h
 ·rename_i hc
  unfold nuV;rw[if_pos hc.1];exact(Option.some.inj h).symm
 ·cases h
theorem AP{p0 p1 p2 p3 c0 c1 c2 c3 P:Nat}{x y:Value}{m n:Nat}(hR:RefP p0 p1 p2 p3 c0 c1 c2 c3 P)(hx:Four x m)(hy:Four y n)(w:World):
 Calls prog 33 #[.agg #[.int .u64 p0,.int .u64 p1,.int .u64 p2,.int .u64 p3,.int .u64 c0,.int .u64 c1,.int .u64 c2,.int .u64 c3],x,y] w (Ret fun e w'=>Below w.heap.size w w'/\Four e ((m+n)%P)):=
 Gc p0 p1 p2 p3 c0 c1 c2 c3 P x y m n hR.hp0 hR.hp1 hR.hp2 hR.hp3 hR.hc0 hR.hc1 hR.hc2 hR.hc3 hR.eP hR.hP hR.hP2 hx hy w
theorem oM{p0 p1 p2 p3 c0 c1 c2 c3 P:Nat}{x y:Value}{m n:Nat}(hR:RefP p0 p1 p2 p3 c0 c1 c2 c3 P)(hx:Four x m)(hy:Four y n)(w:World):
 Calls prog 34 #[.agg #[.int .u64 p0,.int .u64 p1,.int .u64 p2,.int .u64 p3,.int .u64 c0,.int .u64 c1,.int .u64 c2,.int .u64 c3],x,y] w (Ret fun e w'=>Below w.heap.size w w'/\Four e (m*n%P)):=
 F5 p0 p1 p2 p3 c0 c1 c2 c3 P x y m n hR.hp0 hR.hp1 hR.hp2 hR.hp3 hR.hc0 hR.hc1 hR.hc2 hR.hc3 hR.eP hR.hP hR.hP2 hx hy w
theorem IG{P m n:Nat}(hn:n<P):(m+(P-n)%P)%P=(m+P-n)%P:=by
 rw[T9,Nat.mod_mod,<-T9,show m+P-n=m+(P-n) by omega]
theorem FY(p0 p1 p2 p3 c0 c1 c2 c3 P:Nat)(x y:Value)(m n:Nat)(hR:RefP p0 p1 p2 p3 c0 c1 c2 c3 P)(hx:Four x m)(hy:Four y n)(hn:n<P)(w:World):
 Calls prog 73 #[.agg #[.int .u64 p0,.int .u64 p1,.int .u64 p2,.int .u64 p3,.int .u64 c0,.int .u64 c1,.int .u64 c2,.int .u64 c3],x,y] w (Ret fun e w'=>Below w.heap.size w w'/\Four e ((m+P-n)%P)):=by
 obtain⟨a,b,c,d,rfl,ha,hb,hc,hd,em⟩:=id hx;obtain⟨p,q,r,s,rfl,hp,hq,hr,hs,en⟩:=id hy;have HX:Hid (Four _ _):=hx;have HY:Hid (Four _ _):=hy;have HR:Hid (RefP p0 p1 p2 p3 c0 c1 c2 c3 P):=hR;have HN:Hid (n<P):=hn;clear em en hx hy ha hb hc hd hp hq hr hs hR hn;go_enter Tryz.func73,Tryz.ntmps73;go_wp2_with fail
 have FR:=((((At8.made w 70 p0 p1 p2 p3 c0 c1 c2 c3 rfl).alloc (.cells #[.int .u64 a,.int .u64 b,.int .u64 c,.int .u64 d] 68)).alloc (.cells #[.int .u64 p,.int .u64 q,.int .u64 r,.int .u64 s] 68)).alloc (.cells #[.int .u64 0,.int .u64 0,.int .u64 0,.int .u64 0] 68))
 have X:=(((At4.made (w.alloc (.cells #[.int .u64 p0,.int .u64 p1,.int .u64 p2,.int .u64 p3,.int .u64 c0,.int .u64 c1,.int .u64 c2,.int .u64 c3] 70)) 68 a b c d (Qa _ _)).alloc (.cells #[.int .u64 p,.int .u64 q,.int .u64 r,.int .u64 s] 68)).alloc (.cells #[.int .u64 0,.int .u64 0,.int .u64 0,.int .u64 0] 68))
 have Y:=((At4.made ((w.alloc (.cells #[.int .u64 p0,.int .u64 p1,.int .u64 p2,.int .u64 p3,.int .u64 c0,.int .u64 c1,.int .u64 c2,.int .u64 c3] 70)).alloc (.cells #[.int .u64 a,.int .u64 b,.int .u64 c,.int .u64 d] 68)) 68 p q r s (k:=w.heap.size+1+1) (by simp)).alloc (.cells #[.int .u64 0,.int .u64 0,.int .u64 0,.int .u64 0] 68))
 have T3:=At4.made (((w.alloc (.cells #[.int .u64 p0,.int .u64 p1,.int .u64 p2,.int .u64 p3,.int .u64 c0,.int .u64 c1,.int .u64 c2,.int .u64 c3] 70)).alloc (.cells #[.int .u64 a,.int .u64 b,.int .u64 c,.int .u64 d] 68)).alloc (.cells #[.int .u64 p,.int .u64 q,.int .u64 r,.int .u64 s] 68)) 68 0 0 0 0 (k:=w.heap.size+1+1+1) (by simp);have KP:=((((Kept.mk1 (eI w (.cells #[.int .u64 p0,.int .u64 p1,.int .u64 p2,.int .u64 p3,.int .u64 c0,.int .u64 c1,.int .u64 c2,.int .u64 c3] 70) (.cells #[.int .u64 a,.int .u64 b,.int .u64 c,.int .u64 d] 68) (.cells #[.int .u64 p,.int .u64 q,.int .u64 r,.int .u64 s] 68) (.cells #[.int .u64 0,.int .u64 0,.int .u64 0,.int .u64 0] 68)) (eI w (.cells #[.int .u64 p0,.int .u64 p1,.int .u64 p2,.int .u64 p3,.int .u64 c0,.int .u64 c1,.int .u64 c2,.int .u64 c3] 70) (.cells #[.int .u64 a,.int .u64 b,.int .u64 c,.int .u64 d] 68) (.cells #[.int .u64 p,.int .u64 q,.int .u64 r,.int .u64 s] 68) (.cells #[.int .u64 0,.int .u64 0,.int .u64 0,.int .u64 0] 68)).size).cons Y.blk).cons X.blk).cons (x:=⟨w.heap.size,4,c0,c1,c2,c3⟩) ⟨FR.c4,FR.c5,FR.c6,FR.c7,FR.fz⟩).cons (x:=⟨w.heap.size,0,p0,p1,p2,p3⟩) ⟨FR.c0,FR.c1,FR.c2,FR.c3,FR.fz⟩;simp only[Qz]at T3;clear FR X Y;generalize QN _ _=W0 at KP T3⊢;generalize h3:w.heap.size+1+1+1=k3 at T3⊢;generalize h2:w.heap.size+1+1=k2 at KP⊢;generalize h1:w.heap.size+1=k1 at KP⊢;have Q3:Hid (w.heap.size<=k3):=by unfold Hid;omega
 generalize h0:w.heap.size=k0 at KP Q3⊢;have H0:Hid (w.heap.size=k0):=h0;have hl3:∀x∈([⟨k0,0,p0,p1,p2,p3⟩,⟨k0,4,c0,c1,c2,c3⟩,⟨k1,0,a,b,c,d⟩,⟨k2,0,p,q,r,s⟩]:List Blk),k3≠x.k:=by simp only[QU,P4,or_false];rintro x (rfl|rfl|rfl|rfl)<;>simp only<;>omega
 clear h0 h1 h2 h3;obtain⟨tc0,tc1,tc2,tc3,tf⟩:=id T3;have zt:=T3.lt;go_region_held3 (fun w'=>w'.cell? ⟨k0,0,none⟩=some (.int .u64 p0)/\w'.cell? ⟨k0,1,none⟩=some (.int .u64 p1)/\w'.cell? ⟨k0,2,none⟩=some (.int .u64 p2)/\w'.cell? ⟨k0,3,none⟩=some (.int .u64 p3)/\w'.cell? ⟨k0,4,none⟩=some (.int .u64 c0)/\w'.cell? ⟨k0,5,none⟩=some (.int .u64 c1)/\w'.cell? ⟨k0,6,none⟩=some (.int .u64 c2)/\w'.cell? ⟨k0,7,none⟩=some (.int .u64 c3)/\w'.cell? ⟨k1,0,none⟩=some (.int .u64 a)/\w'.cell? ⟨k1,1,none⟩=some (.int .u64 b)/\w'.cell? ⟨k1,2,none⟩=some (.int .u64 c)/\w'.cell? ⟨k1,3,none⟩=some (.int .u64 d)/\w'.cell? ⟨k2,0,none⟩=some (.int .u64 p)/\w'.cell? ⟨k2,1,none⟩=some (.int .u64 q)/\w'.cell? ⟨k2,2,none⟩=some (.int .u64 r)/\w'.cell? ⟨k2,3,none⟩=some (.int .u64 s)/\Kept w k0 [⟨k0,0,p0,p1,p2,p3⟩,⟨k0,4,c0,c1,c2,c3⟩,⟨k1,0,a,b,c,d⟩,⟨k2,0,p,q,r,s⟩] w') (first|(with_reducible exact dJ KP)|(with_reducible exact dJ KP.drew)|(with_reducible exact dJ (KP.set4' Q3.out hl3 _ _ _ _))|(with_reducible exact dJ (KP.set4' Q3.out hl3 _ _ _ _).drew)|fail) (first|(go_at_call 113;refine(rH p0 p1 p2 p3 c0 c1 c2 c3 P _ _ HR.out HY.out HN.out _).mono ?_;rintro e w1 ⟨v,rfl,hb1,hE1⟩;obtain⟨x0,x1,x2,x3,rfl,-⟩:=id hE1;have HE1:Hid (Four _ _):=hE1;clear hE1;have KP1:=KP.drew.call hb1;have T1:=T3.drew.call hb1;clear KP T3 hb1;have KP:=KP1;have T3:=T1;clear KP1 T1;obtain⟨tc0,tc1,tc2,tc3,tf⟩:=id T3;have zt:=T3.lt)|(go_at_call 33;refine(AP HR.out HX.out HE1.out _).mono ?_;rintro e w2 ⟨v,rfl,hb2,hF3⟩;rw[IG HN.out]at hF3;obtain⟨a',b',c',d',rfl,ha',hb',hc',hd',es3⟩:=id hF3;clear es3;have HF3:Hid (Four _ _):=hF3;clear hF3;have KP1:=KP.call hb2;have T1:=T3.call hb2;clear KP T3 hb2;have KP:=KP1;have T3:=T1;clear KP1 T1;obtain⟨tc0,tc1,tc2,tc3,tf⟩:=id T3;have zt:=T3.lt))
 go_wp2;have RF:=T3.self4 a' b' c' d';unfold set4 at RF;refine bodyPost_ret (v:=?v) ?hr rfl ?hR
 case hr=>simp[results,Tryz.results73,go_sem,RF.c0,RF.c1,RF.c2,RF.c3];rfl
 refine⟨_,rfl,?_,HF3.out⟩;rw[H0.out];exact aD KP.bl Q3.out _ _ _ _
theorem FZ(p0 p1 p2 p3 c0 c1 c2 c3 P:Nat)(x y:Value)(m n:Nat)(hR:RefP p0 p1 p2 p3 c0 c1 c2 c3 P)(hx:Four x m)(hy:Four y n)(w:World):
 Calls prog 160 #[.agg #[.int .u64 p0,.int .u64 p1,.int .u64 p2,.int .u64 p3,.int .u64 c0,.int .u64 c1,.int .u64 c2,.int .u64 c3],x,y] w (Ret fun e w'=>Below w.heap.size w w'/\Four e (m^n%P)):=by
 obtain⟨a,b,c,d,rfl,ha,hb,hc,hd,em⟩:=id hx;obtain⟨p,q,r,s,rfl,hp,hq,hr,hs,en⟩:=id hy;have HX:Hid (Four _ _):=hx;have HY:Hid (Four _ _):=hy;have HR:Hid (RefP p0 p1 p2 p3 c0 c1 c2 c3 P):=hR;clear em en hx hy ha hb hc hd hp hq hr hs hR;go_enter Tryz.func160,Tryz.ntmps160;go_wp2_with fail
 have KP:=Me w p0 p1 p2 p3 c0 c1 c2 c3 a b c d p q r s;generalize QN _ _=W0 at KP⊢;generalize h3:w.heap.size+1+1+1=k3 at KP⊢;generalize h2:w.heap.size+1+1=k2 at KP⊢;generalize h1:w.heap.size+1=k1 at KP⊢;have Q3:Hid (w.heap.size<=k3):=by unfold Hid;omega
 generalize h0:w.heap.size=k0 at KP Q3⊢;have H0:Hid (w.heap.size=k0):=h0;clear h0 h1 h2 h3;refine(mB 1 (by decide) _).mono ?_;rintro e w1 ⟨v,rfl,hb1,rfl⟩;replace KP:=KP.call hb1;clear hb1;go_wp2;have KN:Kept w k0 (⟨w1.heap.size,0,1,0,0,0⟩ :: [⟨k0,0,p0,p1,p2,p3⟩,⟨k0,4,c0,c1,c2,c3⟩,⟨k1,0,a,b,c,d⟩,⟨k2,0,p,q,r,s⟩,⟨k3,0,0,0,0,0⟩]) _:=(KP.alloc (.cells #[.int .u64 1,.int .u64 0,.int .u64 0,.int .u64 0] 68)).cons (At4.made w1 68 1 0 0 0 rfl).blk;have Q7:Hid (k0<=w1.heap.size):=KP.le;have hlt:=KP.lts;clear KP;generalize QN _ _=W1 at KN⊢;generalize w1.heap.size=k7 at KN hlt Q7⊢;have hl7:∀x∈([⟨k0,0,p0,p1,p2,p3⟩,⟨k0,4,c0,c1,c2,c3⟩,⟨k1,0,a,b,c,d⟩,⟨k2,0,p,q,r,s⟩,⟨k3,0,0,0,0,0⟩]:List Blk),k7≠x.k:=fun x hx=>QW (hlt x hx)
 have n70:k7≠k0:=hl7 _ (List.mem_cons_self);have n71:k7≠k1:=hl7 ⟨k1,0,a,b,c,d⟩ (by simp);have n72:k7≠k2:=hl7 ⟨k2,0,p,q,r,s⟩ (by simp);have n73:k7≠k3:=hl7 ⟨k3,0,0,0,0,0⟩ (by simp);clear hlt;go_loopg [8] 256 (fun gk s8 wr=>gk<=256/\s8=.int .i64 ((gk:Int)-1)/\∃na nb nc nd:Nat,Kept w k0 (⟨k7,0,na,nb,nc,nd⟩ :: [⟨k0,0,p0,p1,p2,p3⟩,⟨k0,4,c0,c1,c2,c3⟩,⟨k1,0,a,b,c,d⟩,⟨k2,0,p,q,r,s⟩,⟨k3,0,0,0,0,0⟩]) wr/\Hid (Four (.agg #[.int .u64 na,.int .u64 nb,.int .u64 nc,.int .u64 nd]) (m^(n/2^gk)%P)))
 case atStart =>
  refine⟨PQ _,rfl,1,0,0,0,KN,?_⟩;have h1:=HR.out.hP2;have h2:3<top:=by decide
  rw[show n/2^256=0 from Tq HY.out.lt,SX,Qf (by omega)];exact Four.mk (by decide) (by decide) (by decide) (by decide) rfl
 case round =>
  clear KN;obtain⟨hg,rfl,na,nb,nc,nd,KP,HF⟩:=hrel;obtain⟨tc0,tc1,tc2,tc3,tf⟩:=KP.head.at4;have zt:=KP.head.lt;by_cases hz:gk=0
  ·subst hz;have HF0:=HF.out;rw[SX,Nat.div_one]at HF0;have HFE:Hid (Four _ _):=HF0;clear HF0 HF;obtain⟨rc0,rc1,rc2,rc3,rf⟩:=KP.tail.tail.tail.tail.tail.head.at4;have zr:=KP.tail.tail.tail.tail.tail.head.lt;go_wp2;have RF:=KP.tail.tail.tail.tail.tail.head.at4.self4 na nb nc nd;unfold set4 at RF;refine bodyPost_ret (v:=?v) ?hr rfl ?hR
   case hr=>simp[results,Tryz.results160,go_sem,RF.c0,RF.c1,RF.c2,RF.c3];rfl
   refine⟨_,rfl,?_,HFE.out⟩;rw[H0.out];exact aD KP.bl Q3.out _ _ _ _
  ·obtain⟨i,hi⟩:∃i,gk=i+1:=⟨gk-1,by omega⟩
   have e1:(gk:Int)-1=(i:Int):=by omega
   rw[e1];have d1:(0:Int)<=(i:Int):=by omega
   have hi2:i<256:=by omega
   obtain⟨E,hE⟩:∃E,n/2^gk=E:=⟨_,rfl⟩
   rw[hE]at HF;rw[hi]at hE;have HE:Hid (n/2^(i+1)=E):=hE;have HI:Hid (gk=i+1):=hi;clear hE hi e1;obtain⟨fc0,fc1,fc2,fc3,ff⟩:=KP.tail.head.at4;have fb:=KP.tail.tail.head;obtain⟨fd0,fd1,fd2,fd3,fg⟩:=id fb;replace fd0:wr.cell? ⟨k0,4,none⟩=some (.int .u64 c0):=fd0;replace fd1:wr.cell? ⟨k0,5,none⟩=some (.int .u64 c1):=fd1;replace fd2:wr.cell? ⟨k0,6,none⟩=some (.int .u64 c2):=fd2;replace fd3:wr.cell? ⟨k0,7,none⟩=some (.int .u64 c3):=fd3;have zf:=KP.tail.head.lt;go_wp2_with fail
   clear tc0 tc1 tc2 tc3 tf zt fc0 fc1 fc2 fc3 ff fb fd0 fd1 fd2 fd3 fg zf;refine(oM HR.out HF.out HF.out _).mono ?_;rintro e w2 ⟨v,rfl,hb2,hF3⟩;rw[eT]at hF3;obtain⟨ya,yb,yc,yd,rfl,-⟩:=id hF3;clear HF;have HF:Hid (Four _ _):=hF3;clear hF3;replace KP:=KP.call hb2;clear hb2;obtain⟨tc0,tc1,tc2,tc3,tf⟩:=KP.head.at4;have zt:=KP.head.lt;obtain⟨ec0,ec1,ec2,ec3,ef⟩:=KP.tail.tail.tail.tail.head.at4;have ze:=KP.tail.tail.tail.tail.head.lt;go_wp2_with fail
   clear tc0 tc1 tc2 tc3 tf zt ec0 ec1 ec2 ec3 ef ze;have KP2:=KP.put Q7.out hl7 ya yb yc yd;clear KP;generalize Rb _ _ _=WX at KP2⊢;refine(mW _ _ i HY.out hi2 _).mono ?_;rintro e w3 ⟨v,rfl,hb3,t,rfl,ht⟩;have KP:=KP2.call hb3;have HT:Hid (t=n/2^i%2):=ht;have ht2:t=0\/t=1:=by omega
   clear hb3 KP2 ht;rcases ht2 with rfl|rfl
   ·go_wp2;go_roundg (gk-1)
    case measure=>omega
    case rel =>
     refine⟨by omega,?_,ya,yb,yc,yd,KP,?_⟩
     ·have:=HI.out
      congr 1
      omega
     ·have h1:=HF.out;unfold Hid;rw[HI.out,Wr,wP n i,HE.out,<-HT.out,RD];exact h1
   ·obtain⟨tc0,tc1,tc2,tc3,tf⟩:=KP.head.at4;have zt:=KP.head.lt;obtain⟨ac0,ac1,ac2,ac3,af⟩:=KP.tail.tail.tail.head.at4;have za:=KP.tail.tail.tail.head.lt;obtain⟨fc0,fc1,fc2,fc3,ff⟩:=KP.tail.head.at4;have fb:=KP.tail.tail.head;obtain⟨fd0,fd1,fd2,fd3,fg⟩:=id fb;replace fd0:w3.cell? ⟨k0,4,none⟩=some (.int .u64 c0):=fd0;replace fd1:w3.cell? ⟨k0,5,none⟩=some (.int .u64 c1):=fd1;replace fd2:w3.cell? ⟨k0,6,none⟩=some (.int .u64 c2):=fd2;replace fd3:w3.cell? ⟨k0,7,none⟩=some (.int .u64 c3):=fd3;have zf:=KP.tail.head.lt;go_wp2_with fail
    clear tc0 tc1 tc2 tc3 tf zt fc0 fc1 fc2 fc3 ff fb fd0 fd1 fd2 fd3 fg zf ac0 ac1 ac2 ac3 af za;refine(oM HR.out HF.out HX.out _).mono ?_;rintro e w4 ⟨v,rfl,hb4,hF3⟩;rw[mY]at hF3;obtain⟨ua,ub,uc,ud,rfl,-⟩:=id hF3;clear HF;have HF:Hid (Four _ _):=hF3;clear hF3;replace KP:=KP.call hb4;clear hb4;obtain⟨tc0,tc1,tc2,tc3,tf⟩:=KP.head.at4;have zt:=KP.head.lt;go_wp2;go_roundg (gk-1)
    case measure=>omega
    case rel =>
     refine⟨by omega,?_,ua,ub,uc,ud,KP.put Q7.out hl7 ua ub uc ud,?_⟩
     ·have:=HI.out
      congr 1
      omega
     ·have h1:=HF.out;unfold Hid;rw[HI.out,Wr,wP n i,HE.out,<-HT.out];exact h1
theorem Jw(v t r:Nat)(hr:r<64)(hv:v<2^r)(ht:t<2):bits .or .u64 (v:Int) ((t*2^r:Nat):Int)=((v+t*2^r:Nat):Int)/\v+t*2^r<18446744073709551616:=by
 have h1:2^r<=2^63:=Sb (by decide) (by omega);have h2:t*2^r<=1*2^r:=Nat.mul_le_mul_right _ (by omega);have h3:(2:Nat)^63=9223372036854775808:=by decide
 have e:=Nat.two_pow_add_eq_or_of_lt hv t;refine⟨?_,by omega⟩;rw[bits_or_u64_nat _ _ (by omega) (by omega),Nat.or_comm,Qr t,<-e,Nat.add_comm]
theorem AS{a b c d Q i:Nat}(ha:a<18446744073709551616)(hb:b<18446744073709551616)(hc:c<18446744073709551616)(hd:d<18446744073709551616)(hi:i<256)(hv:val a b c d=Q%2^i):wd a b c d (i/64)<2^(i%64):=by
 rw[Fe (i/64) (by omega) ha hb hc hd,hv];refine U5 (Nat.mod_le _ _) ?_;refine Nat.div_lt_of_lt_mul ?_;rw[<-RI,show 64*(i/64)+i%64=i by omega];exact RN _ (U0 (by decide))
theorem AU{a b c d Q i t o:Nat}(hi:i<256)(hv:val a b c d=Q%2^i)(ht:t=Q/2^i%2)(ho:o=wd a b c d (i/64)+t*2^(i%64)):
 val (if i/64=0 then o else a) (if i/64=1 then o else b) (if i/64=2 then o else c) (if i/64=3 then o else d)=Q%2^(i+1):=by
 have h:=Cj a b c d (i/64) o (by omega);have e:(2:Nat)^i=2^(64*(i/64))*2^(i%64):=by
  rw[<-RI,show 64*(i/64)+i%64=i by omega]
 rw[ho,Sw,<-RH,Qr (2^(64*(i/64))) t,RH,<-e]at h;rw[ho,Rk,Nat.mod_mul,<-ht,Qr (2^i)];omega
theorem qS{w W:World}{k0 k1 k2 k3 j v p0 p1 p2 p3 c0 c1 c2 c3 a b c d qa qb qc qd:Nat}(h:Kept w k0 (⟨k3,0,qa,qb,qc,qd⟩ :: [⟨k0,0,p0,p1,p2,p3⟩,⟨k0,4,c0,c1,c2,c3⟩,⟨k1,0,a,b,c,d⟩,⟨k2,0,0,0,0,0⟩]) W)(hx:W.cell? ⟨k3,j,none⟩=some (.int .u64 v)):W.cell? ⟨k0,0,none⟩=some (.int .u64 p0)/\W.cell? ⟨k0,1,none⟩=some (.int .u64 p1)/\W.cell? ⟨k0,2,none⟩=some (.int .u64 p2)/\W.cell? ⟨k0,3,none⟩=some (.int .u64 p3)/\W.cell? ⟨k3,j,none⟩=some (.int .u64 v)/\Kept w k0 (⟨k3,0,qa,qb,qc,qd⟩ :: [⟨k0,0,p0,p1,p2,p3⟩,⟨k0,4,c0,c1,c2,c3⟩,⟨k1,0,a,b,c,d⟩,⟨k2,0,0,0,0,0⟩]) W:=
 ⟨h.tail.head.c0,h.tail.head.c1,h.tail.head.c2,h.tail.head.c3,hx,h⟩
theorem qB{w W:World}{k0 k1 k2 k8 p0 p1 p2 p3 c0 c1 c2 c3 a b c d ra rb rc rd:Nat}(h:Kept w k0 (⟨k8,0,ra,rb,rc,rd⟩ :: [⟨k0,0,p0,p1,p2,p3⟩,⟨k0,4,c0,c1,c2,c3⟩,⟨k1,0,a,b,c,d⟩,⟨k2,0,0,0,0,0⟩]) W):W.cell? ⟨k0,0,none⟩=some (.int .u64 p0)/\W.cell? ⟨k0,1,none⟩=some (.int .u64 p1)/\W.cell? ⟨k0,2,none⟩=some (.int .u64 p2)/\W.cell? ⟨k0,3,none⟩=some (.int .u64 p3)/\W.cell? ⟨k0,4,none⟩=some (.int .u64 c0)/\W.cell? ⟨k0,5,none⟩=some (.int .u64 c1)/\W.cell? ⟨k0,6,none⟩=some (.int .u64 c2)/\W.cell? ⟨k0,7,none⟩=some (.int .u64 c3)/\W.cell? ⟨k8,0,none⟩=some (.int .u64 ra)/\W.cell? ⟨k8,1,none⟩=some (.int .u64 rb)/\W.cell? ⟨k8,2,none⟩=some (.int .u64 rc)/\W.cell? ⟨k8,3,none⟩=some (.int .u64 rd)/\W.cell? ⟨k1,0,none⟩=some (.int .u64 a)/\W.cell? ⟨k1,1,none⟩=some (.int .u64 b)/\W.cell? ⟨k1,2,none⟩=some (.int .u64 c)/\W.cell? ⟨k1,3,none⟩=some (.int .u64 d)/\Kept w k0 (⟨k8,0,ra,rb,rc,rd⟩ :: [⟨k0,0,p0,p1,p2,p3⟩,⟨k0,4,c0,c1,c2,c3⟩,⟨k1,0,a,b,c,d⟩,⟨k2,0,0,0,0,0⟩]) W:=
 ⟨h.tail.head.c0,h.tail.head.c1,h.tail.head.c2,h.tail.head.c3,h.tail.tail.head.c0,h.tail.tail.head.c1,h.tail.tail.head.c2,h.tail.tail.head.c3,h.head.c0,h.head.c1,h.head.c2,h.head.c3,h.tail.tail.tail.head.c0,h.tail.tail.tail.head.c1,h.tail.tail.tail.head.c2,h.tail.tail.tail.head.c3,h⟩
theorem uG(p0 p1 p2 p3 c0 c1 c2 c3 P:Nat)(x:Value)(m:Nat)(hR:RefP p0 p1 p2 p3 c0 c1 c2 c3 P)(hP1:P/4%18446744073709551616<18446744073709551615)(hx:Four x m)(w:World):
 Calls prog 146 #[.agg #[.int .u64 p0,.int .u64 p1,.int .u64 p2,.int .u64 p3,.int .u64 c0,.int .u64 c1,.int .u64 c2,.int .u64 c3],x] w (Ret fun e w'=>Below w.heap.size w w'/\RootR P m (m^(P/4+1)%P) e):=by
 obtain⟨a,b,c,d,rfl,ha,hb,hc,hd,em⟩:=id hx;have HX:Hid (Four _ m):=hx;have HR:Hid (RefP p0 p1 p2 p3 c0 c1 c2 c3 P):=hR;have HP1:Hid (P/4%18446744073709551616<18446744073709551615):=hP1;have HP4:Hid (Four (.agg #[.int .u64 p0,.int .u64 p1,.int .u64 p2,.int .u64 p3]) P):=Four.mk hR.hp0 hR.hp1 hR.hp2 hR.hp3 hR.eP;obtain⟨R,hRe⟩:∃R,m^(P/4+1)%P=R:=⟨_,rfl⟩
 have hRP:R<P:=by
  rw[<-hRe];refine RN _ ?_;have:=hR.hP2;omega
 rw[hRe];have HRE:Hid (m^(P/4+1)%P=R):=hRe;have HRP:Hid (R<P):=hRP;clear em hx ha hb hc hd hR hRe hRP hP1;go_enter Tryz.func146,Tryz.ntmps146;go_wp2;have K0:=GL w p0 p1 p2 p3 c0 c1 c2 c3 a b c d;have K1:=(K0.alloc (.cells #[.int .u64 0,.int .u64 0,.int .u64 0,.int .u64 0] 68)).cons (At4.made _ 68 0 0 0 0 rfl).blk;have hz:(((w.alloc (.cells #[.int .u64 p0,.int .u64 p1,.int .u64 p2,.int .u64 p3,.int .u64 c0,.int .u64 c1,.int .u64 c2,.int .u64 c3] 70)).alloc (.cells #[.int .u64 a,.int .u64 b,.int .u64 c,.int .u64 d] 68)).alloc (.cells #[.int .u64 0,.int .u64 0,.int .u64 0,.int .u64 0] 68)).heap.size=w.heap.size+1+1+1:=by simp
 rw[hz]at K1;clear K0 hz;generalize QN _ _=W0 at K1⊢;generalize h3:w.heap.size+1+1+1=k3 at K1⊢;generalize h2:w.heap.size+1+1=k2 at K1⊢;generalize h1:w.heap.size+1=k1 at K1⊢;have Q2:Hid (w.heap.size<=k2):=by unfold Hid;omega
 have Q3:Hid (w.heap.size<=k3):=by unfold Hid;omega
 generalize h0:w.heap.size=k0 at K1 Q2 Q3⊢;have H0:Hid (w.heap.size=k0):=h0;have n30:k3≠k0:=by omega
 have n31:k3≠k1:=by omega
 have n32:k3≠k2:=by omega
 clear h0 h1 h2 h3;have hl3:∀x∈([⟨k0,0,p0,p1,p2,p3⟩,⟨k0,4,c0,c1,c2,c3⟩,⟨k1,0,a,b,c,d⟩,⟨k2,0,0,0,0,0⟩]:List Blk),k3≠x.k:=by simp only[QU,P4,or_false];rintro x (rfl|rfl|rfl|rfl);exact n30;exact n30;exact n31;exact n32
 go_loopg [7] 254 (fun gk s7 wr=>∃i qa qb qc qd:Nat,i+gk=254/\s7=.int .i64 i/\Kept w k0 (⟨k3,0,qa,qb,qc,qd⟩ :: [⟨k0,0,p0,p1,p2,p3⟩,⟨k0,4,c0,c1,c2,c3⟩,⟨k1,0,a,b,c,d⟩,⟨k2,0,0,0,0,0⟩]) wr/\Hid (Four (.agg #[.int .u64 qa,.int .u64 qb,.int .u64 qc,.int .u64 qd]) (P/4%2^i)))
 case atStart =>
  refine⟨0,0,0,0,0,rfl,rfl,K1,?_⟩;rw[SX,WF];exact Four.mk (by decide) (by decide) (by decide) (by decide) rfl
 case round =>
  clear K1;obtain⟨i,qa,qb,qc,qd,hi,rfl,KP,HF⟩:=hrel;by_cases hlt:i<254
  ·have hF:val qa qb qc qd=P/4%2^i/\qa<18446744073709551616/\qb<18446744073709551616/\qc<18446744073709551616/\qd<18446744073709551616:=by
    obtain⟨a',b',c',d',e',h1,h2,h3,h4,h5⟩:=HF.out;obtain⟨rfl,rfl,rfl,rfl⟩:a'=qa/\b'=qb/\c'=qc/\d'=qd:=by
     simp only[QD.injEq,UV.injEq,Uf.injEq,QT.injEq,true_and,and_true,TA]at e';exact⟨e'.1.symm,e'.2.1.symm,e'.2.2.1.symm,e'.2.2.2.symm⟩
    exact⟨h5.symm,h1,h2,h3,h4⟩
   have hwl:=AS hF.2.1 hF.2.2.1 hF.2.2.2.1 hF.2.2.2.2 (i:=i) (by omega) hF.1;have xw:=KP.head.at4.wd (i/64) (by omega);obtain⟨t,ht⟩:∃t,P/2^(i+2)%2=t:=⟨_,rfl⟩
   have ht2:t<2:=by omega
   have htq:t=P/4/2^i%2:=by rw[<-ht,Nat.div_div_eq_div_mul,show 4*2^i=2^(i+2) by rw[RI,Qr]]
   obtain⟨o,ho⟩:∃o,wd qa qb qc qd (i/64)+t*2^(i%64)=o:=⟨_,rfl⟩
   have hst:=AU (i:=i) (by omega) hF.1 htq ho.symm;obtain⟨hor,hol⟩:=Jw _ t (i%64) (by omega) hwl ht2;rw[ho]at hor hol;have HST:Hid (Four (.agg #[.int .u64 ((if i/64=0 then o else qa:Nat):Int),.int .u64 ((if i/64=1 then o else qb:Nat):Int),.int .u64 ((if i/64=2 then o else qc:Nat):Int),.int .u64 ((if i/64=3 then o else qd:Nat):Int)]) (P/4%2^(i+1))):=by
    refine Four.mk ?_ ?_ ?_ ?_ hst.symm
    ·split;exact hol;exact hF.2.1
    ·split;exact hol;exact hF.2.2.1
    ·split;exact hol;exact hF.2.2.2.1
    ·split;exact hol;exact hF.2.2.2.2
   obtain⟨y,hy⟩:∃y,t*2^(i%64)=y:=⟨_,rfl⟩
   have hyl:y<18446744073709551616:=by omega
   rw[hy]at hor;obtain⟨v,hv⟩:∃v,wd qa qb qc qd (i/64)=v:=⟨_,rfl⟩
   rw[hv]at hor xw;obtain⟨j,hj⟩:∃j,i/64=j:=⟨_,rfl⟩
   obtain⟨r,hr⟩:∃r,i%64=r:=⟨_,rfl⟩
   obtain⟨i2,hi2⟩:∃i2,i+2=i2:=⟨_,rfl⟩
   rw[hj]at xw HST;have hsh:Qs.wrap ((t:Int)*2^r)=(y:Int):=by
    rw[<-hr,<-hy,RS,SC];have:=wrapN (t*2^(i%64)) (by omega);rw[RS,SC]at this;exact this
   have HBT:Hid (∀w,Calls prog 74 #[.agg #[.int .u64 p0,.int .u64 p1,.int .u64 p2,.int .u64 p3],.int .i64 i2] w (Ret fun e w'=>Below w.heap.size w w'/\∃t:Nat,e=.int .u64 t/\t=P/2^i2%2)):=fun w=>mW _ P i2 HP4.out (by omega) w
   have HT:Hid (P/2^i2%2=t):=by unfold Hid;rw[<-hi2];exact ht
   have e1:(i:Int).tdiv 64=(j:Int):=by rw[SZ (by omega)];omega
   have e2:(i:Int).tmod 64=(r:Int):=by rw[Sy (by omega)];omega
   have e3:(j:Int)<4:=by omega
   have e4:QA.wrap (j:Int)=(j:Int):=fP _ (by omega);have e5:QA.wrap (r:Int)=(r:Int):=fP _ (by omega);have e6:(i:Int)+2=(i2:Int):=by omega
   have e7:QA.wrap (i2:Int)=(i2:Int):=fP _ (by omega);have e8:(r:Int)<64:=by omega
   have e9:r<64:=by omega
   have hlt':(i:Int)<254:=by omega
   have T1:=fun W (h:At4 W k3 qa qb qc qd)=>At4.setq h j o (by omega)
   have hj4:j<4:=by omega
   have XJ:=fun W (h:At4 W k3 qa qb qc qd)=>At4.wd h j hj4
   rw[<-hj,hv,hj]at XJ;have HJ:Hid (j<4):=hj4;clear hy hv hj hr ho hst hF ht htq hwl hi2 HF hj4
   go_upto_region 5 with fail
   refine anyTill.begin (fun w'=>w'.cell? ⟨k0,0,none⟩=some (.int .u64 p0)/\w'.cell? ⟨k0,1,none⟩=some (.int .u64 p1)/\w'.cell? ⟨k0,2,none⟩=some (.int .u64 p2)/\w'.cell? ⟨k0,3,none⟩=some (.int .u64 p3)/\w'.cell? ⟨k3,j,none⟩=some (.int .u64 v)/\Kept w k0 (⟨k3,0,qa,qb,qc,qd⟩ :: [⟨k0,0,p0,p1,p2,p3⟩,⟨k0,4,c0,c1,c2,c3⟩,⟨k1,0,a,b,c,d⟩,⟨k2,0,0,0,0,0⟩]) w') 16 mixed (qS KP.drew (XJ _ KP.head.at4.drew)) (fun hS=>?_);refine anyTill.tk (i:=0) (v:=?_) rfl (Ql ⟨by rfl,?_⟩) hS ?_
   rotate_left
   ·intro w hSw
    (try dsimp only at hSw)
    go_simp;try(with_reducible rfl)
   simp only[QR,Qm];refine anyTill.tk (i:=1) (v:=?_) rfl (Ql ⟨by rfl,?_⟩) hS ?_
   rotate_left
   ·intro w hSw
    (try dsimp only at hSw)
    go_simp;try(with_reducible rfl)
   simp only[QR];refine anyTill.tk (i:=2) (v:=?_) rfl (Ql ⟨by rfl,?_⟩) hS ?_
   rotate_left
   ·intro w hSw
    (try dsimp only at hSw)
    go_simp;try(with_reducible rfl)
   simp only[QR];refine anyTill.tk (i:=3) (v:=?_) rfl (Ql ⟨by rfl,?_⟩) hS ?_
   rotate_left
   ·intro w hSw
    (try dsimp only at hSw)
    go_simp;try(with_reducible rfl)
   simp only[QR];refine anyTill.tk (i:=4) (v:=?_) rfl (Ql ⟨by rfl,?_⟩) hS ?_
   rotate_left
   ·intro w hSw
    (try dsimp only at hSw)
    go_simp;try(with_reducible rfl)
   simp only[QR];refine anyTill.tk (i:=5) (v:=?_) rfl (Ql ⟨by rfl,?_⟩) hS ?_
   rotate_left
   ·intro w hSw
    (try dsimp only at hSw)
    go_simp;try(with_reducible rfl)
   simp only[QR];refine anyTill.tk (i:=6) (v:=?_) rfl (Ql ⟨by rfl,?_⟩) hS ?_
   rotate_left
   ·intro w hSw
    (try dsimp only at hSw)
    go_simp;try(with_reducible rfl)
   simp only[QR];refine anyTill.tk (i:=7) (v:=?_) rfl (Ql ⟨by rfl,?_⟩) hS ?_
   rotate_left
   ·intro w hSw
    (try dsimp only at hSw)
    go_simp;try(with_reducible rfl)
   simp only[QR];refine anyTill.tk (i:=8) (v:=?_) rfl (Ql ⟨by rfl,?_⟩) hS ?_
   rotate_left
   ·intro w hSw
    (try dsimp only at hSw)
    go_simp;try(with_reducible rfl)
   simp only[QR];refine anyTill.tk (i:=9) (v:=?_) rfl (Ql ⟨by rfl,?_⟩) hS ?_
   rotate_left
   ·intro w hSw
    (try dsimp only at hSw)
    go_simp;try(with_reducible rfl)
   simp only[QR];refine anyTill.tk (i:=11) (v:=?_) rfl (Ql ⟨by rfl,?_⟩) hS ?_
   rotate_left
   ·intro w hSw
    (try dsimp only at hSw)
    go_simp;try(with_reducible rfl)
   simp only[QR];refine anyTill.tk (i:=12) (v:=?_) rfl (Ql ⟨by rfl,?_⟩) hS ?_
   rotate_left
   ·intro w hSw
    (try dsimp only at hSw)
    go_simp;try(with_reducible rfl)
   simp only[QR];try simp only[QM,QH]
   refine anyTill.step (i:=10) rfl (by kernel_rfl) (fun K hK=>?_);go_simp;refine(HBT.out _).mono ?_;rintro e w1 ⟨v',rfl,hb1,t',rfl,ht'⟩;rw[HT.out]at ht';subst ht';clear hS;have KP1:=KP.drew.call hb1;clear hb1 KP;refine hK.out _ _ (fun _=>qS KP1 (XJ _ KP1.head.at4)) ?_;clear hK K;try simp only[QR,Qm,QM,QH]
   have cj:=XJ _ KP1.head.at4;have cf:=KP1.head.f;have cz:=KP1.head.lt;refine anyTill.step (i:=13) rfl (by kernel_rfl) (fun K hK=>?_);go_simp;refine hK.out _ _ (fun _=>qS KP1 (XJ _ KP1.head.at4)) ?_;clear hK K;try simp only[QR,Qm,QM,QH]
   refine anyTill.step (i:=14) rfl (by kernel_rfl) (fun K hK=>?_);go_simp;refine hK.out _ _ (fun _=>qS KP1 (XJ _ KP1.head.at4)) ?_;clear hK K;try simp only[QR,Qm,QM,QH]
   refine anyTill.step (i:=15) rfl (by kernel_rfl) (fun K hK=>?_);go_simp;refine hK.out _ _ (fun _=>qS KP1 (XJ _ KP1.head.at4)) ?_;clear hK K;try simp only[QR,Qm,QM,QH]
   refine anyTill.step (i:=16) rfl (by kernel_rfl) (fun K hK=>?_);go_simp;refine hK.out _ _ (fun h=>Tc h) ?_;clear hK K;try simp only[QR,Qm,QM,QH]
   refine anyTill.done (by kernel_rfl) ?_ _;clear cj cf cz;go_wp2;go_roundg (gk-1)
   case measure=>omega
   case rel =>
    refine⟨i+1,_,_,_,_,by omega,rfl,?_,HST⟩;exact(KP1.tail.set (j:=k3) (i:=j) Q3.out hl3 _).cons (T1 _ KP1.head.at4).blk
  ·have hi254:i=254:=by omega
   subst hi254;have hF:=HF.out;have hPt:=HP4.out.lt;rw[Qf (show P/4<2^254 by unfold top at hPt;omega)]at hF;have hq:val qa qb qc qd=P/4/\qa<18446744073709551615/\qb<18446744073709551616/\qc<18446744073709551616/\qd<18446744073709551616:=by
    obtain⟨a',b',c',d',e',h1,h2,h3,h4,h5⟩:=hF;obtain⟨rfl,rfl,rfl,rfl⟩:a'=qa/\b'=qb/\c'=qc/\d'=qd:=by
     simp only[QD.injEq,UV.injEq,Uf.injEq,QT.injEq,true_and,and_true,TA]at e';exact⟨e'.1.symm,e'.2.1.symm,e'.2.2.1.symm,e'.2.2.2.symm⟩
    refine⟨h5.symm,?_,h2,h3,h4⟩;have h6:=HP1.out;rw[h5]at h6;unfold val at h6;omega
   obtain⟨qe,hqe'⟩:∃qe,qa+1=qe:=⟨_,rfl⟩
   have HE:Hid (Four (.agg #[.int .u64 qe,.int .u64 qb,.int .u64 qc,.int .u64 qd]) (P/4+1)):=by
    refine Four.mk (by omega) hq.2.2.1 hq.2.2.2.1 hq.2.2.2.2 ?_;rw[<-hq.1,<-hqe'];unfold val;omega
   have hadd:(qa:Int)+1=(qe:Int):=by omega
   have hw:=wrapN qe (by omega);clear hq hF hPt HF hqe';obtain⟨qc0,qc1,qc2,qc3,qf⟩:=KP.head.at4;have zq:=KP.head.lt;obtain⟨xc0,xc1,xc2,xc3,xf⟩:=KP.tail.tail.tail.head.at4;have zx:=KP.tail.tail.tail.head.lt;obtain⟨fc0,fc1,fc2,fc3,ff⟩:=KP.tail.head.at4;have fb:=KP.tail.tail.head;have fd0:wr.cell? ⟨k0,4,none⟩=some (.int .u64 c0):=fb.c0;have fd1:wr.cell? ⟨k0,5,none⟩=some (.int .u64 c1):=fb.c1;have fd2:wr.cell? ⟨k0,6,none⟩=some (.int .u64 c2):=fb.c2;have fd3:wr.cell? ⟨k0,7,none⟩=some (.int .u64 c3):=fb.c3;have zf:=KP.tail.head.lt;go_wp2_with fail
   clear qc0 qc1 qc2 qc3 qf zq xc0 xc1 xc2 xc3 xf zx fc0 fc1 fc2 fc3 ff fb fd0 fd1 fd2 fd3 zf;have KP2:=KP.tail.set (j:=k3) (i:=0) Q3.out hl3 (.int .u64 qe);clear KP;generalize Rb _ _ _=WS at KP2⊢;refine(FZ p0 p1 p2 p3 c0 c1 c2 c3 P _ _ _ _ HR.out HX.out HE.out _).mono ?_;rintro e w3 ⟨v,rfl,hb3,hF⟩;have K:=KP2.call hb3;clear hb3 KP2 HE hadd hw;obtain⟨ra,rb,rc,rd,rfl,-⟩:=id hF;rw[HRE.out]at hF;have HF:Hid (Four _ R):=hF;clear hF
   go_upto_region 8 with fail
   have KP:Kept w k0 (⟨w3.heap.size,0,ra,rb,rc,rd⟩ :: [⟨k0,0,p0,p1,p2,p3⟩,⟨k0,4,c0,c1,c2,c3⟩,⟨k1,0,a,b,c,d⟩,⟨k2,0,0,0,0,0⟩]) _:=(K.alloc (.cells #[.int .u64 ra,.int .u64 rb,.int .u64 rc,.int .u64 rd] 68)).cons (At4.made w3 68 ra rb rc rd rfl).blk;have n80:w3.heap.size≠k0:=QW K.head.lt;have n81:w3.heap.size≠k1:=QW K.tail.tail.head.lt;have n82:w3.heap.size≠k2:=QW K.tail.tail.tail.head.lt;have Q8:Hid (k0<=w3.heap.size):=K.le;clear K;generalize QN _ _=W4 at KP⊢;generalize w3.heap.size=k8 at KP n80 n81 n82 Q8⊢;by_cases heq:R*R%P=m
   ·have hsame:=Ls a b c d;go_region_held3 (fun w'=>w'.cell? ⟨k0,0,none⟩=some (.int .u64 p0)/\w'.cell? ⟨k0,1,none⟩=some (.int .u64 p1)/\w'.cell? ⟨k0,2,none⟩=some (.int .u64 p2)/\w'.cell? ⟨k0,3,none⟩=some (.int .u64 p3)/\w'.cell? ⟨k0,4,none⟩=some (.int .u64 c0)/\w'.cell? ⟨k0,5,none⟩=some (.int .u64 c1)/\w'.cell? ⟨k0,6,none⟩=some (.int .u64 c2)/\w'.cell? ⟨k0,7,none⟩=some (.int .u64 c3)/\w'.cell? ⟨k8,0,none⟩=some (.int .u64 ra)/\w'.cell? ⟨k8,1,none⟩=some (.int .u64 rb)/\w'.cell? ⟨k8,2,none⟩=some (.int .u64 rc)/\w'.cell? ⟨k8,3,none⟩=some (.int .u64 rd)/\w'.cell? ⟨k1,0,none⟩=some (.int .u64 a)/\w'.cell? ⟨k1,1,none⟩=some (.int .u64 b)/\w'.cell? ⟨k1,2,none⟩=some (.int .u64 c)/\w'.cell? ⟨k1,3,none⟩=some (.int .u64 d)/\Kept w k0 (⟨k8,0,ra,rb,rc,rd⟩ :: [⟨k0,0,p0,p1,p2,p3⟩,⟨k0,4,c0,c1,c2,c3⟩,⟨k1,0,a,b,c,d⟩,⟨k2,0,0,0,0,0⟩]) w') (first|(with_reducible exact qB KP)|(with_reducible exact qB KP.drew)|fail) (first|(go_at_call 34;refine(oM HR.out HF.out HF.out _).mono ?_;rintro e w5 ⟨v,rfl,hb1,hF3⟩;rw[heq]at hF3;obtain rfl:=hF3.inj HX.out;clear hF3;(first|(with_reducible (have KP1:=KP.drew.call hb1))|(with_reducible (have KP1:=KP.call hb1))|fail);clear KP hb1;have KP:=KP1;clear KP1))
    have HEQ:Hid (R*R%P=m):=heq;clear heq
    rename_i hHeld
    clear hHeld;obtain⟨ra',rb',rc',rd',e',hra,-⟩:=id HF.out;obtain⟨rfl,-⟩:ra'=ra/\True:=by
     simp only[QD.injEq,UV.injEq,Uf.injEq,QT.injEq,true_and,and_true,TA]at e';exact⟨e'.1.symm,trivial⟩
    clear e';have hodd2:R%2=ra'%2:=by
     obtain⟨x1,x2,x3,x4,e',-,-,-,-,h5⟩:=id HF.out;simp only[QD.injEq,UV.injEq,Uf.injEq,QT.injEq,true_and,and_true,TA]at e';rw[h5,<-e'.1];unfold val;omega
    have hand:=and_one ra' hra;obtain⟨tc0,tc1,tc2,tc3,tf⟩:=KP.head.at4;have zt:=KP.head.lt;obtain⟨uc0,uc1,uc2,uc3,uf⟩:=KP.tail.tail.tail.tail.head.at4;have zu:=KP.tail.tail.tail.tail.head.lt;have h2:ra'%2=0\/ra'%2=1:=by omega
    rcases h2 with h|h
    ·rw[h]at hand hodd2;have HF8:Hid (Four (.agg #[.int .u64 ra',.int .u64 rb,.int .u64 rc,.int .u64 rd]) (even P R)):=by
      have h1:even P R=R:=by unfold even;rw[if_neg (by omega)]
      unfold Hid;rw[h1];exact HF.out
     clear h hodd2 hra;go_wp2;have RF:=KP.tail.tail.tail.tail.head.at4.self4 ra' rb rc rd;unfold set4 at RF;refine bodyPost_ret (v:=?v) ?hr rfl ?hR
     case hr=>simp[results,Tryz.results146,go_sem,RF.c0,RF.c1,RF.c2,RF.c3];rfl
     refine⟨_,rfl,?_,RootR.yes HEQ.out HF8.out⟩;rw[H0.out];exact aD KP.bl Q2.out _ _ _ _
    ·rw[h]at hand hodd2;have HO:Hid (R%2=1):=hodd2;clear h hodd2 hra;obtain⟨fc0,fc1,fc2,fc3,ff⟩:=KP.tail.head.at4;have fb:=KP.tail.tail.head;have fd0:w5.cell? ⟨k0,4,none⟩=some (.int .u64 c0):=fb.c0;have fd1:w5.cell? ⟨k0,5,none⟩=some (.int .u64 c1):=fb.c1;have fd2:w5.cell? ⟨k0,6,none⟩=some (.int .u64 c2):=fb.c2;have fd3:w5.cell? ⟨k0,7,none⟩=some (.int .u64 c3):=fb.c3;have zf:=KP.tail.head.lt;go_wp2_with fail
     clear tc0 tc1 tc2 tc3 tf zt uc0 uc1 uc2 uc3 uf zu fc0 fc1 fc2 fc3 ff fb fd0 fd1 fd2 fd3 zf hand;refine(rH p0 p1 p2 p3 c0 c1 c2 c3 P _ _ HR.out HF.out HRP.out _).mono ?_;rintro e w8 ⟨v,rfl,hb8,hF8⟩;obtain⟨sa,sb,sc,sd,rfl,-⟩:=id hF8;have HF8:Hid (Four (.agg #[.int .u64 sa,.int .u64 sb,.int .u64 sc,.int .u64 sd]) (even P R)):=by
      have h1:(P-R)%P=even P R:=by
       unfold even;rw[if_pos HO.out];exact Qf (by have:=HRP.out;have:=HO.out;omega)
      unfold Hid;rw[<-h1];exact hF8
     replace KP:=KP.call hb8;clear hb8 hF8;obtain⟨tc0,tc1,tc2,tc3,tf⟩:=KP.head.at4;have zt:=KP.head.lt;obtain⟨uc0,uc1,uc2,uc3,uf⟩:=KP.tail.tail.tail.tail.head.at4;have zu:=KP.tail.tail.tail.tail.head.lt;go_wp2;have RF:=(KP.tail.tail.tail.tail.head.at4.other4 n82 (.int .u64 sa) (.int .u64 sb) (.int .u64 sc) (.int .u64 sd)).self4 sa sb sc sd;unfold set4 at RF;refine bodyPost_ret (v:=?v2) ?hr2 rfl ?hR2
     case hr2=>simp[results,Tryz.results146,go_sem,RF.c0,RF.c1,RF.c2,RF.c3];rfl
     refine⟨_,rfl,?_,RootR.yes HEQ.out HF8.out⟩;rw[H0.out];exact aD (aD KP.bl Q8.out _ _ _ _) Q2.out _ _ _ _
   ·go_region_held3 (fun w'=>w'.cell? ⟨k0,0,none⟩=some (.int .u64 p0)/\w'.cell? ⟨k0,1,none⟩=some (.int .u64 p1)/\w'.cell? ⟨k0,2,none⟩=some (.int .u64 p2)/\w'.cell? ⟨k0,3,none⟩=some (.int .u64 p3)/\w'.cell? ⟨k0,4,none⟩=some (.int .u64 c0)/\w'.cell? ⟨k0,5,none⟩=some (.int .u64 c1)/\w'.cell? ⟨k0,6,none⟩=some (.int .u64 c2)/\w'.cell? ⟨k0,7,none⟩=some (.int .u64 c3)/\w'.cell? ⟨k8,0,none⟩=some (.int .u64 ra)/\w'.cell? ⟨k8,1,none⟩=some (.int .u64 rb)/\w'.cell? ⟨k8,2,none⟩=some (.int .u64 rc)/\w'.cell? ⟨k8,3,none⟩=some (.int .u64 rd)/\w'.cell? ⟨k1,0,none⟩=some (.int .u64 a)/\w'.cell? ⟨k1,1,none⟩=some (.int .u64 b)/\w'.cell? ⟨k1,2,none⟩=some (.int .u64 c)/\w'.cell? ⟨k1,3,none⟩=some (.int .u64 d)/\Kept w k0 (⟨k8,0,ra,rb,rc,rd⟩ :: [⟨k0,0,p0,p1,p2,p3⟩,⟨k0,4,c0,c1,c2,c3⟩,⟨k1,0,a,b,c,d⟩,⟨k2,0,0,0,0,0⟩]) w') (first|(with_reducible exact qB KP)|(with_reducible exact qB KP.drew)|fail) (first|(go_at_call 34;refine(oM HR.out HF.out HF.out _).mono ?_;rintro e w5 ⟨v,rfl,hb1,hF3⟩;obtain⟨ta,tb,tc,td,rfl,hne⟩:=four_ne hF3 HX.out heq;have hoth:=Ju hne;clear hF3;(first|(with_reducible (have KP1:=KP.drew.call hb1))|(with_reducible (have KP1:=KP.call hb1))|fail);clear KP hb1;have KP:=KP1;clear KP1))
    have HEQ:Hid (¬R*R%P=m):=heq;clear heq
    rename_i hHeld
    clear hHeld;obtain⟨uc0,uc1,uc2,uc3,uf⟩:=KP.tail.tail.tail.tail.head.at4;have zu:=KP.tail.tail.tail.tail.head.lt;go_wp2;have RF:At4 (set4 w5 k2 (.int .u64 0) (.int .u64 0) (.int .u64 0) (.int .u64 0)) k2 0 0 0 0:=KP.tail.tail.tail.tail.head.at4.self4 0 0 0 0;unfold set4 at RF;refine bodyPost_ret (v:=?v3) ?hr3 rfl ?hR3
    case hr3=>simp[results,Tryz.results146,go_sem,RF.c0,RF.c1,RF.c2,RF.c3];rfl
    refine⟨_,rfl,?_,RootR.no HEQ.out⟩;rw[H0.out];exact aD KP.bl Q2.out _ _ _ _
def wordOf(a b c d k:Nat):Nat:=if k<8 then a else if k<16 then b else if k<24 then c else d
end
section
open Go.RowKit Go.Sort Go.Deep
structure Ord(N:Nat):Prop where
 gap:Gap 4624529908474429119 4994812053365940164 1 N
 ref:RefP 13822214165235122497 13451932020343611451 18446744073709551614 18446744073709551615 4624529908474429119 4994812053365940164 1 0 N
 le:N<=top
 n2:2<=N%18446744073709551616
variable {N:Nat}
theorem Ord.pos(O:Ord N):0<N:=by have:=O.n2;omega
theorem Ord.four(O:Ord N){a:Nat}(h:a<N):Four (nv a) a:=lK (PS h O.le)
def sTi(N a b:Nat):Nat:=a*b%N
theorem Ord.ti(O:Ord N)(a b:Nat):sTi N a b<N:=RN _ O.pos
theorem FA(O:Ord N){a b:Nat}(ha:a<N)(hb:b<N):Gives 95 #[gv1,nv a,nv b] (nv (sTi N a b)):=fun w =>
 (lP _ _ _ N _ _ a b O.gap (O.four ha) (O.four hb) w).mono (by rintro e w' ⟨v,rfl,hb,hF⟩;exact⟨_,rfl,hb,hF.nv⟩)
theorem Gd(O:Ord N){a b:Nat}(ha:a<N)(hb:b<N):Gives 34 #[rv1,nv a,nv b] (nv (sTi N a b)):=fun w =>
 (oM O.ref (O.four ha) (O.four hb) w).mono (by rintro e w' ⟨v,rfl,hb,hF⟩;exact⟨_,rfl,hb,hF.nv⟩)
theorem Gs{a x y z u:Nat}(h:nv a=.agg #[.int .u64 x,.int .u64 y,.int .u64 z,.int .u64 u]):be32 x y z u=bx a:=by
 have h1:wn a=[.int .u64 x,.int .u64 y,.int .u64 z,.int .u64 u]:=by
  unfold nv at h;injection h with h
  exact congrArg Array.toList h
 unfold wn at h1;simp only[Uf.injEq,QT.injEq,true_and,and_true,Int.natCast_inj]at h1;obtain⟨rfl,rfl,rfl,rfl⟩:=h1;rfl
def cb(b:Bs):List Value:=b.toList.map encB
theorem lN(b:Bs):(cb b).length=b.size:=by unfold cb;rw[Qb,P8]
theorem nM{w:World}{g:Nat}{b:Bs}(h:Holds encB w g 0 b):w.rangeAt g 0 (cb b)/\w.there g 0 (cb b).length:=by
 refine⟨fun j v hv=>?_,fun j hj=>?_⟩
 ·have hj:j<b.size:=by rw[<-lN];exact(Qe.1 hv).1
  rw[(h j hj).1];unfold cb at hv;rw[QX,QE,Qo hj]at hv;rw[getElem!_pos b j hj];exact hv
 ·rw[lN]at hj;exact⟨by rw[(h j hj).1];rfl,(h j hj).2⟩
theorem cb_holds{w:World}{g:Nat}{b:Bs}(h1:w.rangeAt g 0 (cb b))(h2:w.there g 0 (cb b).length):Holds encB w g 0 b:=fun j hj=>by
 refine⟨h1 j _ ?_,(h2 j (by rw[lN];exact hj)).2⟩;unfold cb;rw[QX,QE,Qo hj,getElem!_pos b j hj];rfl
def Im(f:FuncId)(args:Array Value)(b:Bs)(n:Nat):Prop:=∀w,Calls prog f args w (Ret fun e w'=>∃k,RG.Made w k (cb b) w'/\e=.slice (some ⟨k,0,none⟩) n n)
theorem FC(O:Ord N){a:Nat}(ha:a<N):Im 43 #[nv a] (bx a) 32:=fun w =>
 (vD _ a w (O.four ha)).mono (by
  rintro e w' ⟨v,rfl,hb,g,x,y,z,u,rfl,hle,he,hH⟩;rw[Gs he]at hH;obtain⟨h1,h2⟩:=nM hH;exact⟨_,rfl,g,⟨hb,hle,Holds.lt hH (by rw[cN];omega),h1,h2⟩,rfl⟩)
end
section
open Go.RowKit Go.Sort Go.Deep
variable {P:Nat}[NeZero P]{N:Nat}
theorem Pr(a b c d p q r s:Nat)(w:World):(binOp .eql 46 (.agg #[.int .u64 a,.int .u64 b,.int .u64 c,.int .u64 d]) (.agg #[.int .u64 p,.int .u64 q,.int .u64 r,.int .u64 s])).run prog w=.ok (.bool (decide (a=p/\b=q/\c=r/\d=s))) w:=by
 go_simp;rw[De 9997,Result.andThen_ok];by_cases h1:a=p/\b=q/\c=r/\d=s
 ·rw[decide_eq_true h1];obtain⟨rfl,rfl,rfl,rfl⟩:=h1;simp
 ·have h2:(decide (a=p) && (decide (b=q) && (decide (c=r) && decide (d=s))))=false:=by
   rw[<-Bool.not_eq_true,P3,P3,P3];simpa using h1
  rw[decide_eq_false h1,h2];simp
theorem eqS{a b:Nat}(ha:a<top)(hb:b<top)(w:World):(binOp .eql 46 (nv a) (nv b)).run prog w=.ok (.bool (decide (a=b))) w:=by
 refine(Pr (a%18446744073709551616) (a/18446744073709551616%18446744073709551616) (a/340282366920938463463374607431768211456%18446744073709551616) (a/6277101735386680763835789423207666416102355444464034512896%18446744073709551616) (b%18446744073709551616) (b/18446744073709551616%18446744073709551616) (b/340282366920938463463374607431768211456%18446744073709551616) (b/6277101735386680763835789423207666416102355444464034512896%18446744073709551616) w).trans ?_;simp only[nZ ha hb]
theorem u40:(prog.underlying 46).map (·.isRow)=some true:=by kernel_rfl
theorem i40:(prog.info? 46).map (·.size)=some 4:=by kernel_rfl
theorem u38:(prog.underlying 41).map (·.isRow)=some true:=by kernel_rfl
theorem i38:(prog.info? 41).map (·.size)=some 4:=by kernel_rfl
theorem u44:(prog.underlying 68).map (·.isRow)=some true:=by kernel_rfl
theorem i44:(prog.info? 68).map (·.size)=some 4:=by kernel_rfl
theorem AB(O:Ord N)(a b:Nat)(ha:a<N)(hb:b<N):Gives 54 #[(nv a),(nv b)] (nv (sTi N a b)):=by
 intro w;go_enter Tryz.func54,Tryz.ntmps54;refine RG.M.enter [(0,(.v (nv a))),(1,(.v (nv b)))] 12 (by kernel_rfl) ?_;intro a0 M0;repeat refine wp_seq ?_
 refine M0.t [.m 2 [] 0,.m 3 [] 1,.m 4 [] 2] [(0,(wn a)),(1,(wn b)),(2,(RG.z 4))] [] [(wn a),(wn b),(RG.z 4)] [(2,(.p 0 0)),(3,(.p 1 0)),(4,(.p 2 0))] ⟨RG.mk 0 46,RG.mk 1 46,RG.mk 2 46,trivial⟩ ?_;intro j1 i1 m1 a1 w1 M1;repeat refine wp_seq ?_
 refine M1.d [.c 5 [] gv1,.s 6 [] (.p 0 0),.x 7 [(6,1)] (nv a),.s 8 [] (.p 1 0),.x 9 [(8,3)] (nv b),.c 10 [(5,0),(7,2),(9,4)] (nv (sTi N a b)),.x 11 [(10,5)] (nv (sTi N a b)),.u [(11,6)] 2] [] [(2,7,(wn (sTi N a b)))] [(wn a),(wn b),(wn (sTi N a b))] [(4,(.p 2 0))] ⟨RG.cl (fO),RG.st,RG.ld u38 i38,RG.st,RG.ld u38 i38,RG.cl (FA O ha hb),RG.st,RG.pt i40,trivial⟩ ?_;intro a2 w2 M2;refine wp_ret ?_;refine bodyPost_ret (v:=(nv (sTi N a b))) (RG.aC M2.st 4 46 rfl 2 _ rfl (M2.at (s:=(.p 2 0))) u40 i40) M2.sl.defers ?_;exact⟨_,rfl,M2.st.bel.below,rfl⟩
theorem IH(v:Value)(m:Nat)(ok:Bool)(w:World)(hrd:∀w',RG.BelX w.heap.size [] w w'->Calls prog 77 #[gv1,v] w' (Ret fun e w''=>Below w'.heap.size w' w''/\e=.tuple #[nv m,.bool ok])):
 Calls prog 44 #[v] w (Ret fun e w'=>Below w.heap.size w w'/\e=.tuple #[nv m,.bool ok]):=by
 go_enter Tryz.func44,Tryz.ntmps44;refine RG.M.enter [(0,.v v)] 15 (by kernel_rfl) ?_;intro a0 M0;repeat refine wp_seq ?_
 refine M0.t [.m 2 [] 0,.x 3 [] (.bool false)] [(0,(RG.z 4))] [] [(RG.z 4)] [(0,(.v v)),(2,(.p 0 0)),(3,(.v (.bool false)))] ⟨RG.mk 0 46,RG.st,trivial⟩ ?_;intro j1 a1 w1 M1;repeat refine wp_seq ?_
 refine M1.t [.c 7 [] gv1,.x 8 [] v,.c 9 [(7,0),(8,1)] (.tuple #[(nv m),(.bool ok)]),.x 6 [(9,2)] (.tuple #[(nv m),(.bool ok)]),.x 10 [(6,3)] (nv m),.x 11 [(6,3)] (.bool ok),.m 4 [] 1,.u [(4,6),(10,4)] 1,.x 5 [(11,5)] (.bool ok)] [(6,(RG.z 4))] [(1,7,(wn m))] [(RG.z 4),(wn m)] [(2,(.p 0 0)),(3,(.v (.bool false))),(4,(.p 1 0)),(5,(.v (.bool ok)))] ⟨RG.cl (fO),RG.st,RG.clB (fun _ _=>by kernel_rfl) hrd,RG.st,RG.st,RG.st,RG.mk 1 41,RG.pt i38,RG.st,trivial⟩ ?_;intro j2 a2 w2 M2;repeat refine wp_seq ?_
 refine M2.t [.x 12 [] (nv m),.x 13 [(12,0)] (nv m),.x 14 [] (.bool ok),.u [(13,1)] 0,.x 3 [(14,2)] (.bool ok)] [] [(0,3,(wn m))] [(wn m),(wn m)] [(2,(.p 0 0)),(3,(.v (.bool ok)))] ⟨RG.ld u38 i38,RG.st,RG.st,RG.pt i40,RG.st,trivial⟩ ?_;intro a3 w3 M3;refine wp_ret ?_;refine bodyPost_ret (v:=.tuple #[nv m,.bool ok]) (RG.aN M3.st 2 3 46 rfl 0 _ rfl (M3.at (s:=.p 0 0)) _ (M3.av (v:=.bool ok) (by kernel_rfl)) u40 i40) M3.sl.defers ?_;exact⟨_,rfl,M3.st.bel.below,rfl⟩
theorem Ct(O:Ord N)(v:Value)(bs:Bs)(w:World)(hv:Arg w v bs):Calls prog 44 #[v] w (Ret fun e w'=>Below w.heap.size w w'/\e=.tuple #[nv ((rq N bs).getD 0),.bool (rq N bs).isSome]):=by
 refine IH v _ _ w fun w' hb=>?_
 have h:=vY O.gap v bs w' (hv.below hb.below);cases hr:rq N bs with
 | none=>rw[hr]at h;exact h
 | some n=>rw[hr]at h;exact h
theorem yA(O:Ord N){a:Nat}(ha:a<N):Im 20 #[nv a] (bx a) 32:=by
 intro w;go_enter Tryz.func20,Tryz.ntmps20;refine RG.M.enter [(0,.v (nv a))] 6 (by kernel_rfl) ?_;intro a0 M0;repeat refine wp_seq ?_
 refine M0.t [.m 1 [] 0,.x 2 [] (.slice none 0 0)] [(0,(wn a))] [] [(wn a)] [(1,(.p 0 0)),(2,(.v (.slice none 0 0)))] ⟨RG.mk 0 46,RG.st,trivial⟩ ?_;intro j1 a1 w1 M1;repeat refine wp_seq ?_
 refine M1.t [.s 3 [] (.p 0 0),.x 4 [(3,0)] (nv a),⟨some 5,[(4,1)],(.s 1 32 32),.make 1⟩,.s 2 [(5,2)] (.s 1 32 32)] [(2,(cb (bx a)))] [] [(wn a),(cb (bx a))] [(2,(.s 1 32 32))] ⟨RG.st,RG.ld u38 i38,RG.cm 1 (fun w _=>FC O ha w) fun _ _=>by kernel_rfl,RG.st,trivial⟩ ?_;intro j2 a2 w2 M2;refine wp_ret ?_;refine bodyPost_ret (v:=_) (RG.bM 2 rfl _ (M2.at (s:=.s 1 32 32))) M2.sl.defers ?_;exact⟨_,rfl,_,M2.st.made (b:=1) rfl,rfl⟩
theorem Jg(O:Ord N)(s:ByteArray):Gives 64 #[.string s] (.tuple #[nv (nuV s.data),.bool (rq N s.data).isSome]):=by
 intro w;have hnum:=LG O.ref s;obtain⟨m,hm⟩:∃m,m=nuV s.data:=⟨_,rfl⟩
 obtain⟨ok,hok⟩:∃b,b=(rq N s.data).isSome:=⟨_,rfl⟩
 rw[<-hm,<-hok]at hnum⊢;go_enter Tryz.func64,Tryz.ntmps64;refine RG.M.enter [(0,.v (.string s))] 9 (by kernel_rfl) ?_;intro a0 M0;repeat refine wp_seq ?_
 refine M0.t [.m 2 [] 0,.x 3 [] (.bool false)] [(0,(RG.z 4))] [] [(RG.z 4)] [(0,(.v (.string s))),(2,(.p 0 0)),(3,(.v (.bool false)))] ⟨RG.mk 0 68,RG.st,trivial⟩ ?_;intro j1 a1 w1 M1;repeat refine wp_seq ?_
 refine M1.t [.c 4 [] rv1,.x 5 [] (.string s),.c 6 [(4,0),(5,1)] (.tuple #[(nv m),(.bool ok)]),.x 7 [(6,2)] (nv m),.x 8 [(6,2)] (.bool ok),.u [(7,3)] 0,.x 3 [(8,4)] (.bool ok)] [] [(0,5,(wn m))] [(wn m)] [(2,(.p 0 0)),(3,(.v (.bool ok)))] ⟨RG.cl (MS),RG.st,RG.cl (hnum),RG.st,RG.st,RG.pt i44,RG.st,trivial⟩ ?_;intro a2 w2 M2;refine wp_ret ?_;refine bodyPost_ret (v:=.tuple #[nv m,.bool ok]) (RG.aN M2.st 2 3 68 rfl 0 _ rfl (M2.at (s:=.p 0 0)) _ (M2.av (v:=.bool ok) (by kernel_rfl)) u44 i44) M2.sl.defers ?_;exact⟨_,rfl,M2.st.bel.below,rfl⟩
end
namespace SP
open Go.RowKit
theorem Pd(x:BitVec 64):(x.toNat:Int)<18446744073709551616:=by
 have:=x.isLt;omega
theorem cP(x:BitVec 64):Sr 64 (x.toNat:Int)=x:=by
 apply VL;rw[VP,UM];exact Qf x.isLt
theorem dR(x:BitVec 64):Qs.wrap (x.toNat:Int)=x.toNat:=by
 rw[Tp];have:=Pd x;exact WO (by omega) this
def u(v:BitVec 64):Int:=(v.toNat:Int)
theorem cG(a b:BitVec 64):bits .xor .u64 (u a) (u b)=u (a ^^^ b):=by
 show Qs.wrap ((Sr 64 (a.toNat:Int) ^^^ Sr 64 (b.toNat:Int)).toNat:Int)=_;rw[cP,cP,dR];rfl
theorem cO(a b:BitVec 64):bits .and .u64 (u a) (u b)=u (a &&& b):=by
 show Qs.wrap ((Sr 64 (a.toNat:Int) &&& Sr 64 (b.toNat:Int)).toNat:Int)=_;rw[cP,cP,dR];rfl
theorem cJ(a b:BitVec 64):bits .or .u64 (u a) (u b)=u (a ||| b):=by
 show Qs.wrap ((Sr 64 (a.toNat:Int) ||| Sr 64 (b.toNat:Int)).toNat:Int)=_;rw[cP,cP,dR];rfl
theorem mF(a:BitVec 64):bits .xor .u64 Qs.max (u a)=u (~~~a):=by
 have e:Qs.max=u (BitVec.allOnes 64):=by decide +kernel
 rw[e,cG,BitVec.allOnes_xor]
theorem Og(k:Nat)(hk:k<64):bits .and .u64 (k:Int) 63=k:=by
 have h:∀j:Fin 64,bits .and .u64 ((j.val:Nat):Int) 63=(j.val:Int):=by decide +kernel
 exact h ⟨k,hk⟩
theorem uB(x:BitVec 64)(k:Nat):Qs.wrap (u x*2^k)=u (x <<< k):=by
 unfold u;rw[Tp,BitVec.toNat_shiftLeft,Nat.shiftLeft_eq,Int.natCast_emod,RS,SC];rfl
theorem Cu(x:BitVec 64)(k:Nat):u x/2^k=u (x >>> k):=by
 unfold u;rw[BitVec.toNat_ushiftRight,Nat.shiftRight_eq_div_pow,Uw,SC];rfl
def rol(w:BitVec 64)(n:Nat):BitVec 64:=w <<< n ||| w >>> (64-n)
abbrev St:=Array (BitVec 64)
def enc(v:BitVec 64):Value:=.int .u64 (u v)
def BE(d:St)(x:Nat):BitVec 64:=d[x]! ^^^ d[x+5]! ^^^ d[x+10]! ^^^ d[x+15]! ^^^ d[x+20]!
def iW(d:St):Nat->St
 | 0=>#[0,0,0,0,0]
 | k+1=>(iW d k).setIfInBounds k (BE d k)
def bC(d:St)(i:Nat)(v:BitVec 64):St:=d.setIfInBounds i (d[i]! ^^^ v)
def jK(v:BitVec 64)(x:Nat)(d:St):Nat->St
 | 0=>d
 | m+1=>bC (jK v x d m) (x+5*m) v
def bG(s:St)(x:Nat):BitVec 64:=s[(x+4)%5]! ^^^ rol s[(x+1)%5]! 1
def gU(s d:St):Nat->St
 | 0=>d
 | k+1=>jK (bG s k) k (gU s d k) 5
def pB(d:St):St:=gU (iW d 5) d 5
theorem bU(d:St)(i:Nat)(v:BitVec 64):(bC d i v).size=d.size:=by simp[bC]
theorem pC(d:St)(k:Nat):(iW d k).size=5:=by
 induction k with
 | zero=>rfl
 | succ k ih=>simp[iW,ih]
theorem nC(v:BitVec 64)(x:Nat)(d:St)(m:Nat):(jK v x d m).size=d.size:=by
 induction m with
 | zero=>rfl
 | succ k ih=>simp[jK,bU,ih]
theorem mO(s d:St)(m:Nat):(gU s d m).size=d.size:=by
 induction m with
 | zero=>rfl
 | succ k ih=>simp[gU,nC,ih]
structure Tm where
 x:Nat
 y:Nat
 m:BitVec 64
 d:St
def rP(t:Nat):Nat:=(t+1)*(t+2)/2%64
def Aq(t:Nat)(s:Tm):Tm:=
 { x:=s.y,y:=(2*s.x+3*s.y)%5,m:=s.d[s.y+5*((2*s.x+3*s.y)%5)]!,d:=s.d.setIfInBounds (s.y+5*((2*s.x+3*s.y)%5)) (rol s.m (rP t)) }
def pV(d:St):Nat->Tm
 | 0=>{ x:=1,y:=0,m:=d[1]!,d:=d }
 | t+1=>Aq t (pV d t)
def mU(d:St):St:=(pV d 24).d
theorem Cq(d:St)(hd:d.size=25)(t:Nat):(pV d t).x<5/\(pV d t).y<5/\(pV d t).d.size=25:=by
 induction t with
 | zero=>exact⟨show 1<5 by decide,show 0<5 by decide,hd⟩
 | succ t ih =>
  obtain⟨h1,h2,h3⟩:=ih;refine⟨h2,?_,?_⟩
  ·show(2*(pV d t).x+3*(pV d t).y)%5<5;omega
  ·show((pV d t).d.setIfInBounds _ _).size=25;rw[Qq,h3]
def rowAt(d:St)(i:Nat):St:=
 bC (bC (bC (bC (bC d i (~~~d[i+1]! &&& d[i+2]!)) (i+1) (~~~d[i+2]! &&& d[i+3]!)) (i+2) (~~~d[i+3]! &&& d[i+4]!)) (i+3) (~~~d[i+4]! &&& d[i]!)) (i+4) (~~~d[i]! &&& d[i+1]!)
def sN(d:St):Nat->St
 | 0=>d
 | k+1=>rowAt (sN d k) (5*k)
def chi(d:St):St:=sN d 5
theorem AK(d:St)(i:Nat):(rowAt d i).size=d.size:=by simp[rowAt,bU]
theorem sM(d:St)(k:Nat):(sN d k).size=d.size:=by
 induction k with
 | zero=>rfl
 | succ k ih=>simp[sN,AK,ih]
end SP
namespace SP
open Go.RowKit
def jS(r:Nat):Nat:=if 255<2*r then(2*r) ^^^ 369 else 2*r
def rE(r:Nat):Nat->BitVec 64 × Nat
 | 0=>(0,r)
 | j+1=>((rE r j).1 ||| SU 64 ((rE r j).2%2) <<< (2^j-1),jS (rE r j).2)
theorem rF(r:Nat)(h:r<256):jS r<256:=by
 have H:∀j:Fin 256,jS j.val<256:=by decide +kernel
 exact H ⟨r,h⟩
theorem I7(r:Nat)(h:r<256)(j:Nat):(rE r j).2<256:=by
 induction j with
 | zero=>exact h
 | succ j ih=>exact rF _ ih
theorem FW(r:Nat)(h:r<256):bits .xor .i64 ((r:Int)*2) 369=(((2*r) ^^^ 369:Nat):Int):=by
 have H:∀j:Fin 256,bits .xor .i64 ((j.val:Int)*2) 369=(((2*j.val) ^^^ 369:Nat):Int):=by decide +kernel
 exact H ⟨r,h⟩
theorem FX(r:Nat)(h:r<256):bits .and .i64 (r:Int) 1=u (SU 64 (r%2)):=by
 have H:∀j:Fin 256,bits .and .i64 (j.val:Int) 1=u (SU 64 (j.val%2)):=by decide +kernel
 exact H ⟨r,h⟩
theorem lW(x:BitVec 64):Qs.wrap (u x)=u x:=dR x
def kR(d:St)(c:BitVec 64):St:=bC (chi (mU (pB d))) 0 c
def rcC(r:Nat):BitVec 64:=(rE r 7).1
def rcN(r:Nat):Nat:=(rE r 7).2
theorem LD(r:Nat)(h:r<256):rcN r<256:=by
 unfold rcN;exact I7 r h 7
def tL:Nat->Nat
 | 0=>1
 | k+1=>rcN (tL k)
theorem I8(k:Nat):tL k<256:=by
 induction k with
 | zero=>decide
 | succ k ih=>exact LD _ ih
def kL(d:St):Nat->St
 | 0=>d
 | k+1=>kR (kL d k) (rcC (tL k))
def perm(d:St):St:=kL d 24
theorem fQ(d:St):(pB d).size=d.size:=mO _ _ _
theorem jC(d:St)(hd:d.size=25):(mU d).size=25:=(Cq d hd 24).2.2
theorem zS(d:St):(chi d).size=d.size:=sM _ _
theorem zB(d:St)(c:BitVec 64)(hd:d.size=25):(kR d c).size=25:=by
 unfold kR;rw[bU,zS,jC];rw[fQ,hd]
theorem kK(d:St)(hd:d.size=25)(k:Nat):(kL d k).size=25:=by
 induction k with
 | zero=>exact hd
 | succ k ih=>exact zB _ _ ih
theorem oR(d:St)(hd:d.size=25):(perm d).size=25:=kK d hd 24
abbrev Bs:=Array UInt8
def ub(x:UInt8):Int:=(x.toNat:Int)
def encB(x:UInt8):Value:=.int .u8 (ub x)
def wide(x:UInt8):BitVec 64:=SU 64 x.toNat
def low(v:BitVec 64):UInt8:=P9 v.toNat
theorem Iw(x:UInt8):ub x=u (wide x):=by
 unfold ub u wide;rw[UM,Qf];have:=x.toNat_lt;omega
theorem vE(x:UInt8):Qs.wrap (ub x)=u (wide x):=by rw[Iw,lW]
theorem Ku(v:BitVec 64):Ve.wrap (u v)=ub (low v):=by
 have e:Ve.wrap (u v)=u v%256:=by simp[WZ,W9,Wz]
 rw[e];unfold u ub low;rw[UN];omega
def iE(bs:Bs)(o:Nat):Nat->BitVec 64
 | 0=>0
 | i+1=>iE bs o i ||| wide bs[o+i]! <<< (8*i)
def wordOf(bs:Bs)(o:Nat):BitVec 64:=iE bs o 8
def dP(bs:Bs)(d:St):Nat->St
 | 0=>d
 | i+1=>bC (dP bs d i) i (wordOf bs (8*i))
theorem cL(bs:Bs)(d:St)(k:Nat):(dP bs d k).size=d.size:=by
 induction k with
 | zero=>rfl
 | succ k ih=>simp[dP,bU,ih]
def byteOf(d:St)(k:Nat):UInt8:=low (d[k/8]! >>> (8*(k%8)))
def dB(d:St)(n:Nat):Nat->Bs
 | 0=>PX n 0
 | k+1=>(dB d n k).setIfInBounds k (byteOf d k)
def front(d:St)(n:Nat):Bs:=dB d n n
theorem fJ(d:St)(n k:Nat):(dB d n k).size=n:=by
 induction k with
 | zero=>simp[dB]
 | succ k ih=>simp[dB,ih]
theorem aP(d:St)(n:Nat):(front d n).size=n:=fJ d n n
end SP
namespace SP
open Go.RowKit Go.Sort
structure Only(b off n:Nat)(w w':World):Prop where
 os:w'.os=w.os
 tape:w'.tape=w.tape
 output:w'.output=w.output
 size:w.heap.size<=w'.heap.size
 block:∀k,k<w.heap.size->k≠b->w'.heap[k]? = w.heap[k]?
 cell:∀o,(o<off\/off+n<=o)->w'.cell? ⟨b,o,none⟩=w.cell? ⟨b,o,none⟩
 froz:∀o,w'.frozen? ⟨b,o,none⟩=w.frozen? ⟨b,o,none⟩
variable {b off n:Nat}{w w1 w2:World}
theorem Only.refl(b off n:Nat)(w:World):Only b off n w w:=⟨rfl,rfl,rfl,PQ _,fun _ _ _=>rfl,fun _ _=>rfl,fun _=>rfl⟩
theorem Only.trans(h:Only b off n w w1)(k:Only b off n w1 w2):Only b off n w w2:=
 ⟨k.os.trans h.os,k.tape.trans h.tape,k.output.trans h.output,Nat.le_trans h.size k.size,
  fun i hi hn=>(k.block i (PS hi h.size) hn).trans (h.block i hi hn),
  fun o ho=>(k.cell o ho).trans (h.cell o ho),fun o=>(k.froz o).trans (h.froz o)⟩
theorem Only.drewN(h:Only b off n w w1)(q:Nat):Only b off n w (w1.drewN q):=⟨h.os,h.tape,h.output,h.size,h.block,h.cell,h.froz⟩
theorem Only.drew(h:Only b off n w w1):Only b off n w w1.drew:=⟨h.os,h.tape,h.output,h.size,h.block,h.cell,h.froz⟩
theorem Only.setCell(h:Only b off n w w1){o:Nat}(h1:off<=o)(h2:o<off+n)(v:Value):Only b off n w (w1.setCell ⟨b,o,none⟩ v):=by
 refine h.trans ⟨rfl,rfl,rfl,by simp,fun k _ hn=>UQ _ _ _ _ hn,fun o' ho=>?_,fun o'=>by simp⟩;exact PO _ _ _ _ (by intro e;simp only[XM.injEq,and_true,true_and]at e;omega)
theorem Only.alloc(h:Only b off n w w1)(hb:b<w1.heap.size)(o:Obj):Only b off n w (w1.alloc o):=by
 refine h.trans ⟨rfl,rfl,rfl,by simp,fun k hk _=>Below.heap_alloc _ _ _ hk,fun o' _=>?_,fun o'=>?_⟩
 ·exact World.cell?_alloc_lt _ _ _ hb
 ·exact World.frozen?_alloc_old _ _ _ (by show b≠_;omega)
theorem Only.below(h:Only b off n w w1){B:Nat}(hB:B<=w.heap.size)(hb:B<=b):Below B w w1:=
 ⟨h.os,h.tape,h.output,h.size,fun k hk=>h.block k (by omega) (by omega)⟩
theorem Only.of_below{B:Nat}(h:Below B w w1)(hB:B=w.heap.size)(hb:b<B):Only b off n w w1:=
 ⟨h.os,h.tape,h.output,h.size,fun k hk _=>h.block k (by omega),fun o _=>h.cell (p:=⟨b,o,none⟩) hb,fun o=>h.frozen (p:=⟨b,o,none⟩) hb⟩
theorem Only.other(h:Only b off n w w1){c o:Nat}(hc:c≠b)(hs:c<w.heap.size):w1.cell? ⟨c,o,none⟩=w.cell? ⟨c,o,none⟩/\w1.frozen? ⟨c,o,none⟩=w.frozen? ⟨c,o,none⟩:=
 ⟨World.cell?_of_block (w:=w) (h.block c hs hc),World.frozen?_of_block (w:=w) (h.block c hs hc)⟩
theorem Only.fresh{o m:Nat}{x:Obj}(h:Only w.heap.size o m (w.alloc x) w1):Below w.heap.size w w1:=
 ((Qd _ _).alloc (PQ _) x).trans (h.below (by simp) (PQ _))
section
variable {α:Type}[Inhabited α]{enc:α->Value}{d:Array α}
theorem Holds.lt(h:Holds enc w b off d)(hd:0<d.size):b<w.heap.size:=Rx _ _ (h 0 hd).1
theorem Holds.other{c o:Nat}(h:Holds enc w c o d)(k:Only b off n w w1)(hc:c≠b)(hd:0<d.size):Holds enc w1 c o d:=by
 intro j hj;have:=h j hj;have:=k.other (o:=o+j) hc (Holds.lt h hd);rw[this.1,this.2];exact h j hj
theorem Holds.same{o:Nat}(h:Holds enc w b o d)(k:Only b off n w w1)(hd:o+d.size<=off\/off+n<=o):Holds enc w1 b o d:=by
 intro j hj;rw[k.cell _ (by omega),k.froz];exact h j hj
theorem Holds.below{B:Nat}(h:Holds enc w b off d)(k:Below B w w1)(hb:b<B):Holds enc w1 b off d:=by
 intro j hj;rw[k.cell (p:=⟨b,off+j,none⟩) hb,k.frozen (p:=⟨b,off+j,none⟩) hb];exact h j hj
theorem Holds.drewN(h:Holds enc w b off d)(q:Nat):Holds enc (w.drewN q) b off d:=h
theorem Holds.drew(h:Holds enc w b off d):Holds enc w.drew b off d:=h
theorem Holds.set(h:Holds enc w b off d){i:Nat}(hi:i<d.size)(x:α):Holds enc (w.setCell ⟨b,off+i,none⟩ (enc x)) b off (d.setIfInBounds i x):=by
 intro j hj;rw[Qq]at hj;rw[Qk];by_cases e:j=i
 ·subst e;rw[getElem!_set_same d j x hi];exact⟨Qu _ _ _ (h j hj).1,(h j hj).2⟩
 ·rw[getElem!_set_other d i j x e,PO _ _ _ _ (by intro e';simp only[XM.injEq,and_true,true_and]at e';omega)];exact h j hj
theorem Holds.new(w:World)(t:TypeId)(d:Array α):Holds enc (w.alloc (.cells (d.map enc) t)) w.heap.size 0 d:=by
 intro j hj;rw[Qj,Ri];refine⟨?_,rfl⟩;simp only[PU,Array.getElem?_map,Qo hj,Option.map_some,getElem!_pos d j hj]
theorem Holds.made(w:World)(t:TypeId)(n:Nat)(x:α):Holds enc (w.alloc (.cells (madeCells #[enc x] n) t)) w.heap.size 0 (PX n x):=by
 intro j hj;rw[P7]at hj;rw[Qj,Ri];refine⟨?_,rfl⟩;rw[getElem!_pos _ j (by simpa using hj),Q6];simp[madeCells,hj,WF]
end
theorem Holds.xor{d:St}(h:Holds enc w b off d){i:Nat}(hi:i<d.size){x:BitVec 64}(hx:d[i]! = x)(v:BitVec 64):Holds enc (w.setCell ⟨b,off+i,none⟩ (.int .u64 (u (x ^^^ v)))) b off (bC d i v):=by
 unfold bC;rw[hx];exact Holds.set h hi (x ^^^ v)
theorem bR(d:St)(i j:Nat)(v:BitVec 64)(h:j≠i):(bC d i v)[j]! = d[j]!:=getElem!_set_other d i j _ h
end SP
namespace SP
open Go.RowKit Go.Sort
theorem mixed:prog.follows .mixedOrders=true:=by kernel_rfl
theorem aR{w:World}{b off:Nat}{d:St}(h:Holds enc w b off d)(i:Nat)(hi:i<d.size){x:BitVec 64}(hx:d[i]! = x):
 w.cell? ⟨b,off+i,none⟩=some (.int .u64 (u x))/\w.frozen? ⟨b,off+i,none⟩=false:=by
 rw[<-hx];exact h i hi
theorem ret_int{k:IntKind}{a b:Int}(h:a=b):Ending.returned (.int k a)=.returned (.int k b):=by rw[h]
theorem yC(x:BitVec 64)(k:Nat)(w:World)(hk:k<64):
 Calls prog 175 #[.int .u64 (u x),.int .i64 k] w fun e w'=>e=.returned (.int .u64 (u (rol x k)))/\w'=w:=by
 have h63:=Og k hk;have h1:(0:Int)<=64-(k:Int):=by omega
 go_enter Tryz.func175,Tryz.ntmps175;go_wp2;go_ret;refine⟨ret_int ?_,rfl⟩;rw[uB,Cu,cJ];rfl
end SP
namespace SP
open Go.RowKit Go.Sort
theorem zD(w:World)(t:TypeId):Holds enc (w.alloc (.cells #[.int .u64 0,.int .u64 0,.int .u64 0,.int .u64 0,.int .u64 0] t)) w.heap.size 0 (#[0,0,0,0,0]:St):=by
 have h:=Holds.new (enc:=enc) w t (#[0,0,0,0,0]:St);have e:Array.map enc (#[0,0,0,0,0]:St)=#[.int .u64 0,.int .u64 0,.int .u64 0,.int .u64 0,.int .u64 0]:=by simp[enc,u]
 rw[e]at h;exact h
attribute [local go_sem] cG cO cJ
theorem rT(b off:Nat)(d:St)(w:World)(hd:d.size=25)(hH:Holds enc w b off d):
 Calls prog 166 #[.pointer (some ⟨b,off,none⟩)] w fun e w'=>e=.returned (.tuple #[])/\Only b off 25 w w'/\Holds enc w' b off (pB d):=by
 have hb:=Holds.lt hH (by omega);go_enter Tryz.func166,Tryz.ntmps166;go_wp2;generalize hW1:(w.alloc _)=W1;go_loopg [7] 5 (fun g s7 wr=>∃k sk,k+g=5/\s7=.int .i64 (k:Nat)/\Holds enc wr w.heap.size 0 sk/\Only w.heap.size 0 5 W1 wr/\Hid (sk=iW d k))
 case atStart =>
  refine⟨0,#[0,0,0,0,0],rfl,rfl,?_,Only.refl _ _ _ _,rfl⟩;rw[<-hW1];exact zD w 231
 case round =>
  obtain⟨k,sk,hk,rfl,hS,hO,HE⟩:=hrel;have hHw:Holds enc wr b off d:=Holds.other (by rw[<-hW1];exact Holds.below hH ((Qd _ _).alloc (PQ _) _) hb) hO (by omega) (by omega);by_cases hlt:k<5
  ·obtain⟨x0,hx0⟩:∃x,d[k]! = x:=⟨_,rfl⟩
   obtain⟨x1,hx1⟩:∃x,d[k+5]! = x:=⟨_,rfl⟩
   obtain⟨x2,hx2⟩:∃x,d[k+10]! = x:=⟨_,rfl⟩
   obtain⟨x3,hx3⟩:∃x,d[k+15]! = x:=⟨_,rfl⟩
   obtain⟨x4,hx4⟩:∃x,d[k+20]! = x:=⟨_,rfl⟩
   obtain⟨x5,hx5⟩:∃x,sk[k]! = x:=⟨_,rfl⟩
   have hss:sk.size=5:=by rw[HE.out,pC]
   obtain⟨c0,f0⟩:=aR hHw k (by omega) hx0;obtain⟨c1,f1⟩:=aR hHw (k+5) (by omega) hx1;obtain⟨c2,f2⟩:=aR hHw (k+10) (by omega) hx2;obtain⟨c3,f3⟩:=aR hHw (k+15) (by omega) hx3;obtain⟨c4,f4⟩:=aR hHw (k+20) (by omega) hx4;obtain⟨c5,f5⟩:=aR hS k (by omega) hx5;rw[PU]at c5 f5;have HX:Hid (BE d k=x0 ^^^ x1 ^^^ x2 ^^^ x3 ^^^ x4):=by rw[<-hx0,<-hx1,<-hx2,<-hx3,<-hx4];rfl
   clear hx0 hx1 hx2 hx3 hx4 hx5 hHw;have k5:(k:Int)<5:=by omega
   have b0:(k:Int)<25:=by omega
   have b1:(k:Int)+5<25:=by omega
   have b2:(k:Int)+10<25:=by omega
   have b3:(k:Int)+15<25:=by omega
   have b4:(k:Int)+20<25:=by omega
   have p1:0<=(k:Int)+5:=by omega
   have p2:0<=(k:Int)+10:=by omega
   have p3:0<=(k:Int)+15:=by omega
   have p4:0<=(k:Int)+20:=by omega
   have e1:((k:Int)+5).toNat=k+5:=by omega
   have e2:((k:Int)+10).toNat=k+10:=by omega
   have e3:((k:Int)+15).toNat=k+15:=by omega
   have e4:((k:Int)+20).toNat=k+20:=by omega
   have v1:QA.wrap ((k:Int)+5)=(k:Int)+5:=QG _ (by omega);have v2:QA.wrap ((k:Int)+10)=(k:Int)+10:=QG _ (by omega);have v3:QA.wrap ((k:Int)+15)=(k:Int)+15:=QG _ (by omega);have v4:QA.wrap ((k:Int)+20)=(k:Int)+20:=QG _ (by omega);go_wp2_with fail
   go_still_tail 35,mixed;go_wp2;go_roundg (gk-1)
   case measure=>omega
   case rel =>
    refine⟨k+1,sk.setIfInBounds k (x0 ^^^ x1 ^^^ x2 ^^^ x3 ^^^ x4),by omega,by go_num,?_,?_,?_⟩
    ·have:=Holds.set hS (i:=k) (by omega) (x0 ^^^ x1 ^^^ x2 ^^^ x3 ^^^ x4);rw[PU]at this;exact Holds.drew this
    ·exact(hO.setCell (SJ _) (by omega) _).drew
    ·show _=(iW d k).setIfInBounds k (BE d k);rw[HX.out,HE.out]
  ·have hk5:k=5:=by omega
   subst hk5;have HS:Hid (sk=iW d 5):=HE;have hO2:Only b off 25 w wr:=by
    rw[<-hW1]at hO;exact Only.of_below hO.fresh rfl hb
   clear hk hlt HE hO hW1;go_wp2;go_loopg [46] 5 (fun g s46 wq=>∃k dk,k+g=5/\s46=.int .i64 (k:Nat)/\Holds enc wq b off dk/\Only b off 25 wr wq/\Hid (dk=gU sk d k))
   case atStart=>exact⟨0,d,rfl,rfl,hHw,Only.refl _ _ _ _,rfl⟩
   case round =>
    obtain⟨k,dk,hk,rfl,hD,hO,HE⟩:=hrel;by_cases hlt:k<5
    ·have hss:sk.size=5:=by rw[HS.out,pC]
     have hSw:=Holds.other hS hO (by omega) (by omega);obtain⟨y0,hy0⟩:∃x,sk[(k+4)%5]! = x:=⟨_,rfl⟩
     obtain⟨y1,hy1⟩:∃x,sk[(k+1)%5]! = x:=⟨_,rfl⟩
     obtain⟨c0,f0⟩:=aR hSw ((k+4)%5) (by omega) hy0;obtain⟨c1,f1⟩:=aR hSw ((k+1)%5) (by omega) hy1;rw[PU]at c0 c1;have HD:Hid (bG sk k=y0 ^^^ rol y1 1):=by rw[<-hy0,<-hy1];rfl
     clear hy0 hy1 f0 f1;have k5:(k:Int)<5:=by omega
     go_wp2_with fail
     go_quiet ((go_at_call 175;exact Calls.quiet_of_same (yC _ 1 _ (by decide))));clear c0 c1;go_wp2;have hO1:=hO.drewN nq;have hD1:=Holds.drewN hD nq;have hds:dk.size=25:=by rw[HE.out,mO,hd]
     go_loopg [6] 5 (fun g s6 wq=>∃m dm,m+g=5/\s6=.int .i64 ((k+5*m:Nat):Int)/\Holds enc wq b off dm/\Only b off 25 wr wq/\Hid (dm=jK (y0 ^^^ rol y1 1) k dk m))
     case atStart=>exact⟨0,dk,rfl,rfl,hD1,(Only.refl _ _ _ _).drewN _,rfl⟩
     case round =>
      obtain⟨m,dm,hm,rfl,hM,hOm,HM⟩:=hrel;by_cases hlt2:m<5
      ·have hms:dm.size=25:=by rw[HM.out,nC,hds]
       obtain⟨z,hz⟩:∃x,dm[k+5*m]! = x:=⟨_,rfl⟩
       obtain⟨c,f⟩:=aR hM (k+5*m) (by omega) hz;have HZ:Hid (dm[k+5*m]! = z):=hz;clear hz;have r1:((k+5*m:Nat):Int)<25:=by omega
       generalize hi:k+5*m=i at *;have Hi:Hid (k+5*m=i):=hi;clear hi;go_wp2_with fail
       go_still_tail 9,mixed;go_wp2;go_roundg (gk-1)
       case measure=>omega
       case rel =>
        refine⟨m+1,dm.setIfInBounds i (z ^^^ (y0 ^^^ rol y1 1)),by omega,?_,?_,?_,?_⟩
        ·rw[<-Hi.out];go_num
        ·exact Holds.drew (Holds.set hM (by omega) _)
        ·exact(hOm.setCell (Vt _ _) (by omega) _).drew
        ·show _=bC (jK (y0 ^^^ rol y1 1) k dk m) (k+5*m) (y0 ^^^ rol y1 1);rw[<-HM.out,Hi.out,<-HZ.out];rfl
      ·have hm5:m=5:=by omega
       subst hm5;have r1:(25:Int)<=((k+5*5:Nat):Int):=by omega
       generalize hi:k+5*5=i at *;go_wp2;go_roundg (4-k)
       case measure=>omega
       case rel =>
        refine⟨k+1,dm,by omega,by go_num,hM,hO.trans hOm,?_⟩;show _=jK (bG sk k) k (gU sk d k) 5;rw[<-HE.out,HD.out];exact HM.out
    ·have hk5:k=5:=by omega
     subst hk5;go_wp2
     go_end0
     refine⟨rfl,hO2.trans hO,?_⟩;have:pB d=dk:=by rw[HE.out,HS.out];rfl
     rw[this];exact hD
end SP
namespace SP
open Go.RowKit Go.Sort
attribute [local go_sem] cG cO cJ
theorem Gq(t:Nat)(h:t<24):(wrap64 ((wrap64 (((t:Int)+1)*((t:Int)+2))).tdiv 2)).tmod 64=(rP t:Int):=by
 have H:∀j:Fin 24,(wrap64 ((wrap64 (((j.val:Int)+1)*((j.val:Int)+2))).tdiv 2)).tmod 64=(rP j.val:Int):=by decide +kernel
 exact H ⟨t,h⟩
theorem pU(b off:Nat)(d:St)(w:World)(hd:d.size=25)(hH:Holds enc w b off d):
 Calls prog 167 #[.pointer (some ⟨b,off,none⟩)] w fun e w'=>e=.returned (.tuple #[])/\Only b off 25 w w'/\Holds enc w' b off (mU d):=by
 obtain⟨x1,hx1⟩:∃x,d[1]! = x:=⟨_,rfl⟩
 obtain⟨c1,f1⟩:=aR hH 1 (by omega) hx1;go_enter Tryz.func167,Tryz.ntmps167;go_wp2;go_loopg [2,3,4,12] 24 (fun g sx sy sm st wr=>∃t T,t+g=24/\st=.int .i64 (t:Nat)/\sx=.int .i64 (T.x:Nat)/\sy=.int .i64 (T.y:Nat)/\sm=.int .u64 (u T.m)/\Holds enc wr b off T.d/\Only b off 25 w wr/\Hid (T=pV d t))
 case atStart=>exact⟨0,pV d 0,rfl,rfl,rfl,rfl,by rw[<-hx1];rfl,hH,Only.refl _ _ _ _,rfl⟩
 case round =>
  obtain⟨t,⟨x,y,m,dk⟩,ht,rfl,rfl,rfl,rfl,hD,hO,HE⟩:=hrel;have hok:=Cq d hd t;rw[<-HE.out]at hok;obtain⟨hx,hy,hs⟩:=hok;dsimp only at hx hy hs hD;clear c1 f1 hx1;by_cases hlt:t<24
  ·obtain⟨i,hi⟩:∃i,y+5*((2*x+3*y)%5)=i:=⟨_,rfl⟩
   obtain⟨z,hz⟩:∃z,dk[i]! = z:=⟨_,rfl⟩
   have hib:i<25:=by omega
   obtain⟨c,f⟩:=aR hD i (by omega) hz;have Hz:Hid (dk[i]! = z):=hz;have Hi:Hid (y+5*((2*x+3*y)%5)=i):=hi;have l24:(t:Int)<24:=by omega
   clear hz hi;go_wp2_with fail
   rw[Gq t hlt];refine(yC m (rP t) _ (RN _ (by decide))).mono ?_;rintro e w' ⟨rfl,rfl⟩;go_wp2_with fail
   obtain⟨y2,hy2⟩:∃n,(2*x+3*y)%5=n:=⟨_,rfl⟩
   have hy2':(2*(x:Int)+3*(y:Int))%5=(y2:Int):=by omega
   rw[hy2'];have Hy2:Hid ((2*x+3*y)%5=y2):=hy2;have r0:y2<5:=by omega
   clear hy2 hy2';have r1:(0:Int)<=(y:Int)+5*(y2:Int):=by omega
   have r2:(y:Int)+5*(y2:Int)<25:=by omega
   have r3:((y:Int)+5*(y2:Int)).toNat=i:=by have:=Hi.out;have:=Hy2.out;omega
   have s1:QA.wrap (5*(y2:Int))=5*(y2:Int):=QG _ (by omega);have s2:QA.wrap ((y:Int)+5*(y2:Int))=(y:Int)+5*(y2:Int):=QG _ (by omega);go_region
   go_wp2;go_roundg (gk-1)
   case measure=>omega
   case rel =>
    refine⟨t+1,⟨y,y2,z,dk.setIfInBounds i (rol m (rP t))⟩,by omega,by go_num,rfl,rfl,rfl,?_,?_,?_⟩
    ·exact Holds.drew (Holds.set hD (by omega) _)
    ·exact(hO.setCell (Vt _ _) (by omega) _).drew
    ·show _=Aq t (pV d t);rw[<-HE.out];simp only[Aq,Hy2.out];have e:y+5*y2=i:=by have:=Hi.out;have:=Hy2.out;omega
     rw[e,Hz.out]
  ·have ht24:t=24:=by omega
   subst ht24;go_wp2
   go_end0
   refine⟨rfl,hO,?_⟩;show Holds enc _ b off (pV d 24).d;rw[<-HE.out];exact hD
end SP
namespace SP
open Go.RowKit Go.Sort
attribute [local go_sem] cG cO cJ mF
theorem yX(b off:Nat)(d:St)(w:World)(hd:d.size=25)(hH:Holds enc w b off d):
 Calls prog 168 #[.pointer (some ⟨b,off,none⟩)] w fun e w'=>e=.returned (.tuple #[])/\Only b off 25 w w'/\Holds enc w' b off (chi d):=by
 go_enter Tryz.func168,Tryz.ntmps168;go_wp2;go_loopg [2] 5 (fun g si wr=>∃k dk,k+g=5/\si=.int .i64 ((5*k:Nat):Int)/\Holds enc wr b off dk/\Only b off 25 w wr/\Hid (dk=sN d k))
 case atStart=>exact⟨0,d,rfl,rfl,hH,Only.refl _ _ _ _,rfl⟩
 case round =>
  obtain⟨k,dk,hk,rfl,hD,hO,HE⟩:=hrel;have hs:dk.size=25:=by rw[HE.out,sM,hd]
  by_cases hlt:k<5
  ·obtain⟨i,hi⟩:∃i,5*k=i:=⟨_,rfl⟩
   rw[hi];have Hi:Hid (5*k=i):=hi;obtain⟨x0,hx0⟩:∃x,dk[i]! = x:=⟨_,rfl⟩
   obtain⟨x1,hx1⟩:∃x,dk[i+1]! = x:=⟨_,rfl⟩
   obtain⟨x2,hx2⟩:∃x,dk[i+2]! = x:=⟨_,rfl⟩
   obtain⟨x3,hx3⟩:∃x,dk[i+3]! = x:=⟨_,rfl⟩
   obtain⟨x4,hx4⟩:∃x,dk[i+4]! = x:=⟨_,rfl⟩
   obtain⟨c0,f0⟩:=aR hD i (by omega) hx0;obtain⟨c1,f1⟩:=aR hD (i+1) (by omega) hx1;obtain⟨c2,f2⟩:=aR hD (i+2) (by omega) hx2;obtain⟨c3,f3⟩:=aR hD (i+3) (by omega) hx3;obtain⟨c4,f4⟩:=aR hD (i+4) (by omega) hx4;have HX0:Hid (dk[i]! = x0):=hx0;have HX1:Hid (dk[i+1]! = x1):=hx1;have HX2:Hid (dk[i+2]! = x2):=hx2;have HX3:Hid (dk[i+3]! = x3):=hx3;have HX4:Hid (dk[i+4]! = x4):=hx4;have Q0:=HX0;have Q1:=HX1;have Q2:=HX2;have Q3:=HX3;have Q4:=HX4;have i20:i<=20:=by omega
   clear hx0 hx1 hx2 hx3 hx4 hi;have b0:(i:Int)<25:=by omega
   have b1:(i:Int)+1<25:=by omega
   have p1:0<=(i:Int)+1:=by omega
   have e1:((i:Int)+1).toNat=i+1:=by omega
   have v1:QA.wrap ((i:Int)+1)=(i:Int)+1:=QG _ (by omega);have b2:(i:Int)+2<25:=by omega
   have p2:0<=(i:Int)+2:=by omega
   have e2:((i:Int)+2).toNat=i+2:=by omega
   have v2:QA.wrap ((i:Int)+2)=(i:Int)+2:=QG _ (by omega);have b3:(i:Int)+3<25:=by omega
   have p3:0<=(i:Int)+3:=by omega
   have e3:((i:Int)+3).toNat=i+3:=by omega
   have v3:QA.wrap ((i:Int)+3)=(i:Int)+3:=QG _ (by omega);have b4:(i:Int)+4<25:=by omega
   have p4:0<=(i:Int)+4:=by omega
   have e4:((i:Int)+4).toNat=i+4:=by omega
   have v4:QA.wrap ((i:Int)+4)=(i:Int)+4:=QG _ (by omega);go_wp2_with fail
   go_quiet (fail);clear c1 c2 c3 c4 f1 f2 f3 f4 b1 p1 e1 v1 b2 p2 e2 v2 b3 p3 e3 v3 b4 p4 e4 v4;go_wp2_with fail
   go_region
   go_wp2_with fail
   generalize hW0:Rb _ _ _=W0;have hs0:(bC dk i (~~~x1 &&& x2)).size=25:=by rw[bU];omega
   have hD0:Holds enc W0 b off (bC dk i (~~~x1 &&& x2)):=by rw[<-hW0];exact Holds.xor (Holds.drewN hD _) (by omega) HX0.out _
   have hO0:Only b off 25 w W0:=by rw[<-hW0];exact(hO.drewN _).setCell (o:=off+i) (by omega) (by omega) _
   generalize hd0:bC dk i (~~~x1 &&& x2)=d0 at *;have Hd0:Hid (bC dk i (~~~x1 &&& x2)=d0):=hd0;have HX1:Hid (d0[i+1]! = x1):=by show _=_;rw[<-hd0,bR _ _ _ _ (by omega)];exact HX1.out
   have HX2:Hid (d0[i+2]! = x2):=by show _=_;rw[<-hd0,bR _ _ _ _ (by omega)];exact HX2.out
   have HX3:Hid (d0[i+3]! = x3):=by show _=_;rw[<-hd0,bR _ _ _ _ (by omega)];exact HX3.out
   have HX4:Hid (d0[i+4]! = x4):=by show _=_;rw[<-hd0,bR _ _ _ _ (by omega)];exact HX4.out
   obtain⟨c1,f1⟩:=aR hD0 (i+1) (by omega) HX1.out;clear hd0 hW0 c0 f0;have b1:(i:Int)+1<25:=by omega
   have p1:0<=(i:Int)+1:=by omega
   have e1:((i:Int)+1).toNat=i+1:=by omega
   have v1:QA.wrap ((i:Int)+1)=(i:Int)+1:=QG _ (by omega);go_region
   go_wp2_with fail
   generalize hW1:Rb _ _ _=W1;have hs1:(bC d0 (i+1) (~~~x2 &&& x3)).size=25:=by rw[bU];omega
   have hD1:Holds enc W1 b off (bC d0 (i+1) (~~~x2 &&& x3)):=by rw[<-hW1];exact Holds.xor hD0 (by omega) HX1.out _
   have hO1:Only b off 25 w W1:=by rw[<-hW1];exact(hO0).setCell (o:=off+(i+1)) (by omega) (by omega) _
   generalize hd1:bC d0 (i+1) (~~~x2 &&& x3)=d1 at *;have Hd1:Hid (bC d0 (i+1) (~~~x2 &&& x3)=d1):=hd1;have HX2:Hid (d1[i+2]! = x2):=by show _=_;rw[<-hd1,bR _ _ _ _ (by omega)];exact HX2.out
   have HX3:Hid (d1[i+3]! = x3):=by show _=_;rw[<-hd1,bR _ _ _ _ (by omega)];exact HX3.out
   have HX4:Hid (d1[i+4]! = x4):=by show _=_;rw[<-hd1,bR _ _ _ _ (by omega)];exact HX4.out
   obtain⟨c2,f2⟩:=aR hD1 (i+2) (by omega) HX2.out;clear hd1 hW1 c1 f1;clear b1 p1 e1 v1;have b2:(i:Int)+2<25:=by omega
   have p2:0<=(i:Int)+2:=by omega
   have e2:((i:Int)+2).toNat=i+2:=by omega
   have v2:QA.wrap ((i:Int)+2)=(i:Int)+2:=QG _ (by omega);go_region
   go_wp2_with fail
   generalize hW2:Rb _ _ _=W2;have hs2:(bC d1 (i+2) (~~~x3 &&& x4)).size=25:=by rw[bU];omega
   have hD2:Holds enc W2 b off (bC d1 (i+2) (~~~x3 &&& x4)):=by rw[<-hW2];exact Holds.xor hD1 (by omega) HX2.out _
   have hO2:Only b off 25 w W2:=by rw[<-hW2];exact(hO1).setCell (o:=off+(i+2)) (by omega) (by omega) _
   generalize hd2:bC d1 (i+2) (~~~x3 &&& x4)=d2 at *;have Hd2:Hid (bC d1 (i+2) (~~~x3 &&& x4)=d2):=hd2;have HX3:Hid (d2[i+3]! = x3):=by show _=_;rw[<-hd2,bR _ _ _ _ (by omega)];exact HX3.out
   have HX4:Hid (d2[i+4]! = x4):=by show _=_;rw[<-hd2,bR _ _ _ _ (by omega)];exact HX4.out
   obtain⟨c3,f3⟩:=aR hD2 (i+3) (by omega) HX3.out;clear hd2 hW2 c2 f2;clear b2 p2 e2 v2;have b3:(i:Int)+3<25:=by omega
   have p3:0<=(i:Int)+3:=by omega
   have e3:((i:Int)+3).toNat=i+3:=by omega
   have v3:QA.wrap ((i:Int)+3)=(i:Int)+3:=QG _ (by omega);go_region
   go_wp2_with fail
   generalize hW3:Rb _ _ _=W3;have hs3:(bC d2 (i+3) (~~~x4 &&& x0)).size=25:=by rw[bU];omega
   have hD3:Holds enc W3 b off (bC d2 (i+3) (~~~x4 &&& x0)):=by rw[<-hW3];exact Holds.xor hD2 (by omega) HX3.out _
   have hO3:Only b off 25 w W3:=by rw[<-hW3];exact(hO2).setCell (o:=off+(i+3)) (by omega) (by omega) _
   generalize hd3:bC d2 (i+3) (~~~x4 &&& x0)=d3 at *;have Hd3:Hid (bC d2 (i+3) (~~~x4 &&& x0)=d3):=hd3;have HX4:Hid (d3[i+4]! = x4):=by show _=_;rw[<-hd3,bR _ _ _ _ (by omega)];exact HX4.out
   obtain⟨c4,f4⟩:=aR hD3 (i+4) (by omega) HX4.out;clear hd3 hW3 c3 f3;clear b3 p3 e3 v3;have b4:(i:Int)+4<25:=by omega
   have p4:0<=(i:Int)+4:=by omega
   have e4:((i:Int)+4).toNat=i+4:=by omega
   have v4:QA.wrap ((i:Int)+4)=(i:Int)+4:=QG _ (by omega);go_region
   go_wp2;generalize hW4:Rb _ _ _=W4;have hs4:(bC d3 (i+4) (~~~x0 &&& x1)).size=25:=by rw[bU];omega
   have hD4:Holds enc W4 b off (bC d3 (i+4) (~~~x0 &&& x1)):=by rw[<-hW4];exact Holds.xor hD3 (by omega) HX4.out _
   have hO4:Only b off 25 w W4:=by rw[<-hW4];exact(hO3).setCell (o:=off+(i+4)) (by omega) (by omega) _
   generalize hd4:bC d3 (i+4) (~~~x0 &&& x1)=d4 at *;have Hd4:Hid (bC d3 (i+4) (~~~x0 &&& x1)=d4):=hd4;clear hd4 hW4 c4 f4;clear b4 p4 e4 v4;go_roundg (gk-1)
   case measure=>omega
   case rel =>
    refine⟨k+1,d4,by omega,?_,?_,?_,?_⟩
    ·rw[<-Hi.out];go_num
    ·exact hD4
    ·exact hO4.drewN 4
    ·show d4=rowAt (sN d k) (5*k);rw[<-HE.out,Hi.out];unfold rowAt;rw[Q0.out,Q1.out,Q2.out,Q3.out,Q4.out,Hd0.out,Hd1.out,Hd2.out,Hd3.out,Hd4.out]
  ·have hk5:k=5:=by omega
   subst hk5;go_wp2
   go_end0
   refine⟨rfl,hO,?_⟩;show Holds enc _ b off (sN d 5);rw[<-HE.out];exact hD
end SP
namespace SP
open Go.RowKit Go.Sort
attribute [local go_sem] cG cO cJ lW
theorem Eo(j:Nat)(hj:j<7):∃p:Nat,wrap64 (wrap64 ((2:Int)^j)-1)=(p:Int)/\p<=63/\Hid (2^j-1=p):=by
 have H:∀j:Fin 7,wrap64 (wrap64 ((2:Int)^j.val)-1)=((2^j.val-1:Nat):Int)/\2^j.val-1<=63:=by decide +kernel
 exact⟨_,(H ⟨j,hj⟩).1,(H ⟨j,hj⟩).2,rfl⟩
theorem mS(r:Nat)(w:World)(hr:r<256):
 Calls prog 169 #[.int .i64 r] w fun e w'=>e=.returned (.tuple #[.int .u64 (u (rcC r)),.int .i64 (rcN r:Int)])/\w'=w:=by
 go_enter Tryz.func169,Tryz.ntmps169;go_wp2
 go_loop [0,2,6] (fun s0 s2 s6=>∃j:Nat,j<=7/\∃(c:BitVec 64) (q:Nat),s6=.int .i64 j/\s2=.int .u64 (u c)/\s0=.int .i64 q/\q<256/\Hid (rE r j=(c,q))) (fun _ _ s6=>7-(intOf s6).toNat)
 case atStart=>exact⟨0,by decide,0,r,rfl,rfl,rfl,hr,rfl⟩
 case round =>
  obtain⟨j,hj,c,q,rfl,rfl,rfl,hq,HE⟩:=hrel;by_cases hlt:j<7
  ·have a1:=FX q hq;have a2:=FW q hq;obtain⟨p,a3,hp,HP⟩:=Eo j hlt;have HC:Hid (rE r (j+1)=(c ||| SU 64 (q%2) <<< p,jS q)):=by
    show((rE r j).1 ||| SU 64 ((rE r j).2%2) <<< (2^j-1),jS (rE r j).2)=_;rw[HE.out,HP.out]
   have hs:=uB (SU 64 (q%2)) p;have hlt2:=rF q hq;by_cases h255:255<2*q
   ·have HR:Hid (jS q=2*q ^^^ 369):=if_pos h255;rw[HR.out]at hlt2;generalize 2*q ^^^ 369=q2 at *;go_wp2
    go_round
    case rel=>exact⟨j+1,by omega,_,q2,by go_num,rfl,rfl,hlt2,by rw[HC.out,HR.out];rfl⟩
    case measure=>simp[intOf];omega
   ·have HR:Hid (jS q=2*q):=if_neg h255;go_wp2
    go_round
    case rel=>exact⟨j+1,by omega,_,2*q,by go_num,rfl,by go_num,by omega,by rw[HC.out,HR.out];rfl⟩
    case measure=>simp[intOf];omega
  ·have hj7:j=7:=by omega
   subst hj7;go_wp2
   go_ret2
   unfold rcC rcN;rw[HE.out];exact⟨rfl,rfl⟩
theorem pE(b off:Nat)(d:St)(w:World)(hd:d.size=25)(hH:Holds enc w b off d):
 Calls prog 155 #[.pointer (some ⟨b,off,none⟩)] w fun e w'=>e=.returned (.tuple #[])/\Only b off 25 w w'/\Holds enc w' b off (perm d):=by
 go_enter Tryz.func155,Tryz.ntmps155;go_wp2;go_loopg [2,3,4] 24 (fun g sc sr sk wr=>∃(k:Nat) (c:BitVec 64) (dk:St),k+g=24/\sk=.int .i64 k/\sc=.int .u64 (u c)/\sr=.int .i64 (tL k:Nat)/\Holds enc wr b off dk/\Only b off 25 w wr/\Hid (dk=kL d k))
 case atStart=>exact⟨0,0,d,rfl,rfl,rfl,rfl,hH,Only.refl _ _ _ _,rfl⟩
 case round =>
  obtain⟨k,c,dk,hk,rfl,rfl,rfl,hD,hO,HE⟩:=hrel;have hs:dk.size=25:=by rw[HE.out,kK d hd]
  by_cases hlt:k<24
  ·have k24:(k:Int)<24:=by omega
   go_wp2_with fail
   refine(rT b off dk _ hs hD).mono ?_;rintro e w1 ⟨rfl,hO1,hD1⟩;go_wp2_with fail
   refine(pU b off _ _ (by rw[fQ,hs]) hD1).mono ?_;rintro e w2 ⟨rfl,hO2,hD2⟩;go_wp2_with fail
   refine(yX b off _ _ (jC _ (by rw[fQ,hs])) hD2).mono ?_;rintro e w3 ⟨rfl,hO3,hD3⟩;have HN:Hid (tL (k+1)=rcN (tL k)):=rfl;have HK:Hid (kL d (k+1)=kR (kL d k) (rcC (tL k))):=rfl;have hrl:=I8 k;generalize tL k=r at *;go_wp2_with fail
   refine(mS r _ hrl).mono ?_;rintro e w4 ⟨rfl,rfl⟩;have hs3:(chi (mU (pB dk))).size=25:=by rw[zS,jC _ (by rw[fQ,hs])]
   obtain⟨x,hx⟩:∃x,(chi (mU (pB dk)))[0]! = x:=⟨_,rfl⟩
   obtain⟨c0,f0⟩:=aR hD3 0 (by omega) hx;rw[RD]at c0 f0;have HX:Hid ((chi (mU (pB dk)))[0]! = x):=hx;clear hx;go_wp2_with fail
   go_region
   go_wp2;go_roundg (gk-1)
   case measure=>omega
   case rel =>
    refine⟨k+1,rcC r,kR dk (rcC r),by omega,by go_num,rfl,by rw[HN.out],?_,?_,?_⟩
    ·exact Holds.drew (Holds.xor (i:=0) hD3 (by omega) HX.out (rcC r))
    ·exact((((hO.trans hO1).trans hO2).trans hO3).setCell (o:=off) (by omega) (by omega) _).drew
    ·rw[HK.out,HE.out];rfl
  ·have hk24:k=24:=by omega
   subst hk24;go_wp2
   go_end0
   refine⟨rfl,hO,?_⟩;unfold perm;rw[<-HE.out];exact hD
end SP
namespace SP
open Go.RowKit Go.Sort Go.Deep
attribute [local go_sem] cG cO cJ lW vE
theorem nS{w:World}{b off:Nat}{d:Bs}(h:Holds encB w b off d)(i:Nat)(hi:i<d.size){x:UInt8}(hx:d[i]! = x):
 w.cell? ⟨b,off+i,none⟩=some (.int .u8 (ub x))/\w.frozen? ⟨b,off+i,none⟩=false:=by
 rw[<-hx];exact h i hi
theorem word_any(sb so o len cap:Nat)(bs:Bs)(w:World)(hB:Holds encB w sb so bs)(h8:8<=len)(ho:o+8<=bs.size)(hl:len<=4611686018427387904):
 Calls prog 170 #[.slice (some ⟨sb,so+o,none⟩) len cap] w fun e w'=>e=.returned (.int .u64 (u (wordOf bs o)))/\w'=w:=by
 go_enter Tryz.func170,Tryz.ntmps170;go_wp2
 go_loop [3,5] (fun s3 s5=>∃(k:Nat) (c:BitVec 64),k<=8/\s5=.int .i64 k/\s3=.int .u64 (u c)/\Hid (iE bs o k=c)) (fun _ s5=>8-(intOf s5).toNat)
 case atStart=>exact⟨0,0,by decide,rfl,rfl,rfl⟩
 case round =>
  obtain⟨k,c,hk,rfl,rfl,HE⟩:=hrel;by_cases hlt:k<8
  ·obtain⟨x,hx⟩:∃x,bs[o+k]! = x:=⟨_,rfl⟩
   obtain⟨c0,f0⟩:=nS hB (o+k) (by omega) hx;rw[<-RO]at c0;have HC:Hid (iE bs o (k+1)=c ||| wide x <<< (8*k)):=by
    show iE bs o k ||| wide bs[o+k]! <<< (8*k)=_
    rw[HE.out,hx]
   clear hx f0;have hs:=uB (wide x) (8*k);have k8:(k:Int)<(len:Int):=by omega
   go_wp2
   go_round
   case rel=>exact⟨k+1,_,by omega,by go_num,rfl,HC⟩
   case measure=>simp[intOf];omega
  ·have hk8:k=8:=by omega
   subst hk8;go_wp2;go_ret;unfold wordOf;rw[HE.out];exact⟨rfl,rfl⟩
theorem JJ(b off sb so len cap:Nat)(bs:Bs)(d:St)(w:World)(hd:d.size=25)(hH:Holds enc w b off d)(hB:Holds encB w sb so bs)(hl:bs.size=len)(hlen:len<=200)(hcap:len<=cap)
 (hdis:sb≠b\/so+len<=off\/off+25<=so) :
 Calls prog 157 #[.pointer (some ⟨b,off,none⟩),.slice (some ⟨sb,so,none⟩) len cap] w fun e w'=>e=.returned (.tuple #[])/\Only b off 25 w w'/\Holds enc w' b off (dP bs d (len/8)):=by
 go_enter Tryz.func157,Tryz.ntmps157;go_wp2;go_loopg [8] (len/8) (fun g s8 wr=>∃(k:Nat) (dk:St),k+g=len/8/\s8=.int .i64 k/\Holds enc wr b off dk/\Only b off 25 w wr/\Hid (dk=dP bs d k))
 case atStart=>exact⟨0,d,by omega,rfl,hH,Only.refl _ _ _ _,rfl⟩
 case round =>
  obtain⟨k,dk,hk,rfl,hD,hO,HE⟩:=hrel;have hs:dk.size=25:=by rw[HE.out,cL,hd]
  by_cases hlt:k<len/8
  ·have hBr:Holds encB wr sb so bs:=by
    by_cases hsb:sb=b
    ·subst hsb;exact Holds.same hB hO (by omega)
    ·exact Holds.other hB hO hsb (by omega)
   obtain⟨x,hx⟩:∃x,dk[k]! = x:=⟨_,rfl⟩
   obtain⟨c0,f0⟩:=aR hD k (by omega) hx;have HX:Hid (dk[k]! = x):=hx;clear hx;have r0:(k:Int)<25:=by omega
   have r1:(0:Int)<=(k:Int)*8:=by omega
   have r2:(k:Int)*8<=(len:Int):=by omega
   have r3:((k:Int)*8).toNat=8*k:=by omega
   have s1:QA.wrap ((k:Int)*8)=(k:Int)*8:=QG _ (by omega);have lt:(k:Int)<(len:Int)/8:=by omega
   go_wp2_with fail
   have hne:(cap=8*k)=False:=eq_false (by omega);have HB:Hid (Holds encB wr.drew sb so bs):=Holds.drew hBr;have Q4:Hid (8*k+8<=bs.size):=by show _<=_;omega
   clear hBr;go_region_with (go_at_call 170;refine(word_any sb so (8*k) (len-8*k) (cap-8*k) bs _ HB.out (by omega) Q4.out (by omega)).mono ?_;rintro e w2 ⟨rfl,rfl⟩)
   all_goals
    go_wp2;go_roundg (gk-1)
    case measure=>omega
    case rel =>
     refine⟨k+1,bC dk k (wordOf bs (8*k)),by omega,by go_num,?_,?_,?_⟩
     ·exact Holds.drew (Holds.xor hD (by omega) HX.out _)
     ·exact(hO.setCell (o:=off+k) (by omega) (by omega) _).drew
     ·rw[HE.out];rfl
  ·have hk8:k=len/8:=by omega
   have lt:(len:Int)/8<=(k:Int):=by omega
   go_wp2
   go_end0
   refine⟨rfl,hO,?_⟩;rw[<-hk8,<-HE.out];exact hD
theorem slice22:prog.underlying 28=some (.slice 5):=by kernel_rfl
theorem info5:(prog.info? 5).map (fun i=>(i.zero,i.size,i.bytes))=some (some (.int .u8 0),1,1):=by kernel_rfl
attribute [local go_sem] Ku
theorem oW(b off n:Nat)(d:St)(w:World)(hd:d.size=25)(hH:Holds enc w b off d)(hn:n<=200):
 Calls prog 89 #[.pointer (some ⟨b,off,none⟩),.int .i64 n] w fun e w'=>e=.returned (.slice (some ⟨w.heap.size,0,none⟩) n n)/\Below w.heap.size w w'/\Holds encB w' w.heap.size 0 (front d n):=by
 have hb:=Holds.lt hH (by omega);have hmk:=run_make_row' (P:=prog) 28 5 (.int .u8 0) 1 slice22 info5 rfl .i64 .i64 n (by omega) (by omega);go_enter Tryz.func89,Tryz.ntmps89;go_wp2;generalize hW1:(w.alloc _)=W1;go_loopg [11] n (fun g s11 wr=>∃(k:Nat) (bs:Bs),k+g=n/\s11=.int .i64 k/\Holds encB wr w.heap.size 0 bs/\Only w.heap.size 0 n W1 wr/\Hid (bs=dB d n k))
 case atStart =>
  refine⟨0,_,by omega,rfl,?_,Only.refl _ _ _ _,rfl⟩;rw[<-hW1];exact Holds.made (enc:=encB) w 5 n 0
 case round =>
  obtain⟨k,bs,hk,rfl,hB,hO,HE⟩:=hrel;have hs:bs.size=n:=by rw[HE.out,fJ]
  have hD:Holds enc wr b off d:=Holds.other (by rw[<-hW1];exact Holds.below hH ((Qd _ _).alloc (PQ _) _) hb) hO (by omega) (by omega);by_cases hlt:k<n
  ·obtain⟨x,hx⟩:∃x,d[k/8]! = x:=⟨_,rfl⟩
   obtain⟨c0,f0⟩:=aR hD (k/8) (by omega) hx;obtain⟨c1,f1⟩:=hB k (by omega);rw[PU]at c1 f1;have HX:Hid (byteOf d k=low (x >>> (8*(k%8)))):=by show low _=_;rw[hx]
   clear hx f0;have r0:(k:Int)/8<25:=by omega
   have r1:(k:Int)<(n:Int):=by omega
   have hsr:=Cu x (8*(k%8));go_wp2;go_roundg (gk-1)
   case measure=>omega
   case rel =>
    refine⟨k+1,bs.setIfInBounds k (low (x >>> (8*(k%8)))),by omega,by go_num,?_,?_,?_⟩
    ·have:=Holds.set hB (i:=k) (by omega) (low (x >>> (8*(k%8))));rw[PU]at this;exact this
    ·exact hO.setCell (o:=k) (by omega) (by omega) _
    ·show _=(dB d n k).setIfInBounds k (byteOf d k);rw[HX.out,HE.out]
  ·have hkn:k=n:=by omega
   have lt:(n:Int)<=(k:Int):=by omega
   go_wp2;go_ret;refine⟨rfl,?_,?_⟩
   ·rw[<-hW1]at hO;exact hO.fresh
   ·unfold front;rw[HE.out,hkn]at hB;exact hB
end SP
namespace SP
open Go.RowKit
def encI(n:Nat):Value:=.int .i64 n
def sJ(a:St)(x:Nat)(c:St):Nat->St
 | 0=>c
 | y+1=>bC (sJ a x c y) x a[x+5*y]!
def kU(a:St):Nat->St
 | 0=>PX 5 0
 | x+1=>sJ a x (kU a x) 5
def rR(a:St)(tn:Array Nat)(x:Nat)(v:BitVec 64)(m:St):Nat->St
 | 0=>m
 | y+1=>(rR a tn x v m y).setIfInBounds (y%5+5*((2*x+3*y)%5)) (rol (a[x+5*y]! ^^^ v) tn[x+5*y]!)
def kP(a:St)(tn:Array Nat)(c:St):Nat->St
 | 0=>PX 25 0
 | x+1=>rR a tn x (bG c x) (kP a tn c x) 5
def rM(m:St)(x:Nat)(o:St):Nat->St
 | 0=>o
 | y+1=>(rM m x o y).setIfInBounds (x+5*y) (m[x+5*y]! ^^^ (~~~m[(x+1)%5+5*y]! &&& m[(x+2)%5+5*y]!))
def lU(m:St):Nat->St
 | 0=>PX 25 0
 | x+1=>rM m x (lU m x) 5
def dG(a:St)(tn:Array Nat)(c:BitVec 64):St:=bC (lU (kP a tn (kU a 5) 5) 5) 0 c
theorem sH(a:St)(x:Nat)(c:St)(y:Nat):(sJ a x c y).size=c.size:=by
 induction y with
 | zero=>rfl
 | succ y ih=>simp[sJ,bU,ih]
theorem BF(a:St)(x:Nat):(kU a x).size=5:=by
 induction x with
 | zero=>simp[kU]
 | succ x ih=>simp[kU,sH,ih]
theorem rQ(a:St)(tn:Array Nat)(x:Nat)(v:BitVec 64)(m:St)(y:Nat):(rR a tn x v m y).size=m.size:=by
 induction y with
 | zero=>rfl
 | succ y ih=>simp[rR,ih]
theorem Bh(a:St)(tn:Array Nat)(c:St)(x:Nat):(kP a tn c x).size=25:=by
 induction x with
 | zero=>simp[kP]
 | succ x ih=>simp[kP,rQ,ih]
theorem rL(m:St)(x:Nat)(o:St)(y:Nat):(rM m x o y).size=o.size:=by
 induction y with
 | zero=>rfl
 | succ y ih=>simp[rM,ih]
theorem rK(m:St)(x:Nat):(lU m x).size=25:=by
 induction x with
 | zero=>simp[lU]
 | succ x ih=>simp[lU,rL,ih]
theorem tJ(a:St)(tn:Array Nat)(c:BitVec 64):(dG a tn c).size=25:=by simp[dG,bU,rK]
structure Of where
 x:Nat
 y:Nat
 o:Array Nat
def iH:Nat->Of
 | 0=>{ x:=1,y:=0,o:=PX 25 0 }
 | t+1=>{ x:=(iH t).y,y:=(2*(iH t).x+3*(iH t).y)%5,o:=(iH t).o.setIfInBounds ((iH t).x%5+5*((iH t).y%5)) (rP t) }
def cD:Array Nat:=(iH 24).o
theorem JD(t:Nat):(iH t).x<5/\(iH t).y<5/\(iH t).o.size=25:=by
 induction t with
 | zero=>exact⟨show 1<5 by decide,show 0<5 by decide,show(PX 25 0).size=25 by simp⟩
 | succ t ih =>
  obtain⟨h1,h2,h3⟩:=ih;refine⟨h2,?_,?_⟩
  ·show(2*(iH t).x+3*(iH t).y)%5<5;omega
  ·show((iH t).o.setIfInBounds _ _).size=25;rw[Qq,h3]
def yE:Nat->Nat
 | 0=>1
 | i+1=>jS (yE i)
def J4(t:Nat):BitVec 64:=SU 64 (yE t%2)
def zO(r:Nat):Nat->BitVec 64
 | 0=>0
 | j+1=>zO r j ||| J4 (j+7*r) <<< (2^j-1)
def BD(r:Nat):BitVec 64:=zO r 7
def yF(d:St):Nat->St
 | 0=>d
 | k+1=>dG (yF d k) cD (BD k)
end SP
namespace SP
theorem Mv:∀k:Fin 24,BD k.val=rcC (tL k.val):=by decide +kernel
theorem rO:cD=#[0,1,62,28,27,36,44,6,55,20,3,10,43,25,39,41,45,15,21,8,18,2,61,56,14]:=by decide +kernel
theorem FO(x:BitVec 64):rol x 0=x:=by
 unfold rol;rw[BitVec.shiftLeft_zero,Ub,BitVec.ushiftRight_eq_zero (PQ 64),BitVec.or_zero]
theorem zx(x:BitVec 64):0 ^^^ x=x:=BitVec.zero_xor
theorem JU(a0 a1 a2 a3 a4 a5 a6 a7 a8 a9 a10 a11 a12 a13 a14 a15 a16 a17 a18 a19 a20 a21 a22 a23 a24:BitVec 64):kU #[a0,a1,a2,a3,a4,a5,a6,a7,a8,a9,a10,a11,a12,a13,a14,a15,a16,a17,a18,a19,a20,a21,a22,a23,a24] 5=#[0 ^^^ a0 ^^^ a5 ^^^ a10 ^^^ a15 ^^^ a20,0 ^^^ a1 ^^^ a6 ^^^ a11 ^^^ a16 ^^^ a21,0 ^^^ a2 ^^^ a7 ^^^ a12 ^^^ a17 ^^^ a22,0 ^^^ a3 ^^^ a8 ^^^ a13 ^^^ a18 ^^^ a23,0 ^^^ a4 ^^^ a9 ^^^ a14 ^^^ a19 ^^^ a24]:=by kernel_rfl
theorem Fq(a0 a1 a2 a3 a4 a5 a6 a7 a8 a9 a10 a11 a12 a13 a14 a15 a16 a17 a18 a19 a20 a21 a22 a23 a24:BitVec 64):iW #[a0,a1,a2,a3,a4,a5,a6,a7,a8,a9,a10,a11,a12,a13,a14,a15,a16,a17,a18,a19,a20,a21,a22,a23,a24] 5=#[a0 ^^^ a5 ^^^ a10 ^^^ a15 ^^^ a20,a1 ^^^ a6 ^^^ a11 ^^^ a16 ^^^ a21,a2 ^^^ a7 ^^^ a12 ^^^ a17 ^^^ a22,a3 ^^^ a8 ^^^ a13 ^^^ a18 ^^^ a23,a4 ^^^ a9 ^^^ a14 ^^^ a19 ^^^ a24]:=by kernel_rfl
theorem Mw(a0 a1 a2 a3 a4 a5 a6 a7 a8 a9 a10 a11 a12 a13 a14 a15 a16 a17 a18 a19 a20 a21 a22 a23 a24:BitVec 64):kU #[a0,a1,a2,a3,a4,a5,a6,a7,a8,a9,a10,a11,a12,a13,a14,a15,a16,a17,a18,a19,a20,a21,a22,a23,a24] 5=iW #[a0,a1,a2,a3,a4,a5,a6,a7,a8,a9,a10,a11,a12,a13,a14,a15,a16,a17,a18,a19,a20,a21,a22,a23,a24] 5:=by
 rw[JU,Fq];simp only[zx]
theorem JH(S:St)(a0 a1 a2 a3 a4 a5 a6 a7 a8 a9 a10 a11 a12 a13 a14 a15 a16 a17 a18 a19 a20 a21 a22 a23 a24:BitVec 64):kP #[a0,a1,a2,a3,a4,a5,a6,a7,a8,a9,a10,a11,a12,a13,a14,a15,a16,a17,a18,a19,a20,a21,a22,a23,a24] #[0,1,62,28,27,36,44,6,55,20,3,10,43,25,39,41,45,15,21,8,18,2,61,56,14] S 5=#[rol (a0 ^^^ bG S 0) 0,rol (a6 ^^^ bG S 1) 44,rol (a12 ^^^ bG S 2) 43,rol (a18 ^^^ bG S 3) 21,rol (a24 ^^^ bG S 4) 14,rol (a3 ^^^ bG S 3) 28,rol (a9 ^^^ bG S 4) 20,rol (a10 ^^^ bG S 0) 3,rol (a16 ^^^ bG S 1) 45,rol (a22 ^^^ bG S 2) 61,rol (a1 ^^^ bG S 1) 1,rol (a7 ^^^ bG S 2) 6,rol (a13 ^^^ bG S 3) 25,rol (a19 ^^^ bG S 4) 8,rol (a20 ^^^ bG S 0) 18,rol (a4 ^^^ bG S 4) 27,rol (a5 ^^^ bG S 0) 36,rol (a11 ^^^ bG S 1) 10,rol (a17 ^^^ bG S 2) 15,rol (a23 ^^^ bG S 3) 56,rol (a2 ^^^ bG S 2) 62,rol (a8 ^^^ bG S 3) 55,rol (a14 ^^^ bG S 4) 39,rol (a15 ^^^ bG S 0) 41,rol (a21 ^^^ bG S 1) 2]:=by kernel_rfl
theorem I3(S:St)(a0 a1 a2 a3 a4 a5 a6 a7 a8 a9 a10 a11 a12 a13 a14 a15 a16 a17 a18 a19 a20 a21 a22 a23 a24:BitVec 64):mU (gU S #[a0,a1,a2,a3,a4,a5,a6,a7,a8,a9,a10,a11,a12,a13,a14,a15,a16,a17,a18,a19,a20,a21,a22,a23,a24] 5)=#[a0 ^^^ bG S 0,rol (a6 ^^^ bG S 1) 44,rol (a12 ^^^ bG S 2) 43,rol (a18 ^^^ bG S 3) 21,rol (a24 ^^^ bG S 4) 14,rol (a3 ^^^ bG S 3) 28,rol (a9 ^^^ bG S 4) 20,rol (a10 ^^^ bG S 0) 3,rol (a16 ^^^ bG S 1) 45,rol (a22 ^^^ bG S 2) 61,rol (a1 ^^^ bG S 1) 1,rol (a7 ^^^ bG S 2) 6,rol (a13 ^^^ bG S 3) 25,rol (a19 ^^^ bG S 4) 8,rol (a20 ^^^ bG S 0) 18,rol (a4 ^^^ bG S 4) 27,rol (a5 ^^^ bG S 0) 36,rol (a11 ^^^ bG S 1) 10,rol (a17 ^^^ bG S 2) 15,rol (a23 ^^^ bG S 3) 56,rol (a2 ^^^ bG S 2) 62,rol (a8 ^^^ bG S 3) 55,rol (a14 ^^^ bG S 4) 39,rol (a15 ^^^ bG S 0) 41,rol (a21 ^^^ bG S 1) 2]:=by kernel_rfl
theorem Ma(S:St)(a0 a1 a2 a3 a4 a5 a6 a7 a8 a9 a10 a11 a12 a13 a14 a15 a16 a17 a18 a19 a20 a21 a22 a23 a24:BitVec 64):kP #[a0,a1,a2,a3,a4,a5,a6,a7,a8,a9,a10,a11,a12,a13,a14,a15,a16,a17,a18,a19,a20,a21,a22,a23,a24] cD S 5=mU (gU S #[a0,a1,a2,a3,a4,a5,a6,a7,a8,a9,a10,a11,a12,a13,a14,a15,a16,a17,a18,a19,a20,a21,a22,a23,a24] 5):=by
 rw[rO,JH,I3,FO]
theorem LV(a0 a1 a2 a3 a4 a5 a6 a7 a8 a9 a10 a11 a12 a13 a14 a15 a16 a17 a18 a19 a20 a21 a22 a23 a24:BitVec 64):lU #[a0,a1,a2,a3,a4,a5,a6,a7,a8,a9,a10,a11,a12,a13,a14,a15,a16,a17,a18,a19,a20,a21,a22,a23,a24] 5=chi #[a0,a1,a2,a3,a4,a5,a6,a7,a8,a9,a10,a11,a12,a13,a14,a15,a16,a17,a18,a19,a20,a21,a22,a23,a24]:=by kernel_rfl
theorem Md{α:Type}(l:List α)(h:l.length=25):∃a0 a1 a2 a3 a4 a5 a6 a7 a8 a9 a10 a11 a12 a13 a14 a15 a16 a17 a18 a19 a20 a21 a22 a23 a24,l=[a0,a1,a2,a3,a4,a5,a6,a7,a8,a9,a10,a11,a12,a13,a14,a15,a16,a17,a18,a19,a20,a21,a22,a23,a24]:=by
 match l,h with
 | [a0,a1,a2,a3,a4,a5,a6,a7,a8,a9,a10,a11,a12,a13,a14,a15,a16,a17,a18,a19,a20,a21,a22,a23,a24],_=>exact⟨_,_,_,_,_,_,_,_,_,_,_,_,_,_,_,_,_,_,_,_,_,_,_,_,_,rfl⟩
theorem KR{α:Type}(d:Array α)(h:d.size=25):∃a0 a1 a2 a3 a4 a5 a6 a7 a8 a9 a10 a11 a12 a13 a14 a15 a16 a17 a18 a19 a20 a21 a22 a23 a24,d=#[a0,a1,a2,a3,a4,a5,a6,a7,a8,a9,a10,a11,a12,a13,a14,a15,a16,a17,a18,a19,a20,a21,a22,a23,a24]:=by
 obtain⟨l⟩:=d;obtain⟨a0,a1,a2,a3,a4,a5,a6,a7,a8,a9,a10,a11,a12,a13,a14,a15,a16,a17,a18,a19,a20,a21,a22,a23,a24,rfl⟩:=Md l h;exact⟨_,_,_,_,_,_,_,_,_,_,_,_,_,_,_,_,_,_,_,_,_,_,_,_,_,rfl⟩
theorem Jt(m:St)(h:m.size=25):lU m 5=chi m:=by
 obtain⟨a0,a1,a2,a3,a4,a5,a6,a7,a8,a9,a10,a11,a12,a13,a14,a15,a16,a17,a18,a19,a20,a21,a22,a23,a24,rfl⟩:=KR m h;exact LV _ _ _ _ _ _ _ _ _ _ _ _ _ _ _ _ _ _ _ _ _ _ _ _ _
theorem round_eq(d:St)(h:d.size=25)(c:BitVec 64):dG d cD c=kR d c:=by
 have hm:kP d cD (kU d 5) 5=mU (pB d):=by
  obtain⟨a0,a1,a2,a3,a4,a5,a6,a7,a8,a9,a10,a11,a12,a13,a14,a15,a16,a17,a18,a19,a20,a21,a22,a23,a24,rfl⟩:=KR d h;rw[Mw,Ma];rfl
 unfold dG kR;rw[hm,Jt _ (jC _ (by rw[fQ,h]))]
theorem FT(d:St)(h:d.size=25)(k:Nat)(hk:k<=24):yF d k=kL d k:=by
 induction k with
 | zero=>rfl
 | succ k ih =>
  show dG (yF d k) cD (BD k)=kR (kL d k) (rcC (tL k));rw[ih (by omega),Mv ⟨k,by omega⟩,round_eq _ (kK d h k)]
theorem Bd:∀i,i<25->cD[i]! < 64:=by
 intro i hi;have H:∀j:Fin 25,cD[j.val]! < 64:=by decide +kernel
 exact H ⟨i,hi⟩
theorem jI:cD.size=25:=by rw[rO];rfl
end SP
namespace SP
open Go.Sort
def bT:St:=PX 25 0
def eU(bs:Bs):Bs:=front (perm (dP bs bT 25)) 200
def mD(bs:Bs):Nat->St
 | 0=>bT
 | i+1=>(mD bs i).setIfInBounds (i/8) ((mD bs i)[i/8]! ||| wide bs[i]! <<< (8*(i%8)))
theorem iQ(bs:Bs)(i:Nat):(mD bs i).size=25:=by
 induction i with
 | zero=>simp[mD,bT]
 | succ i ih=>simp[mD,ih]
theorem fK(j:Nat)(h:j<25):bT[j]! = 0:=by
 have h':j<(PX 25 (0:BitVec 64)).size:=by rw[P7];exact h
 unfold bT;rw[getElem!_pos (PX 25 (0:BitVec 64)) j h',Q6]
theorem Jy(bs:Bs)(n j:Nat)(hn:n<=200)(hj:j<25):
 (mD bs n)[j]! = if j<n/8 then wordOf bs (8*j) else if j=n/8 then iE bs (8*j) (n%8) else 0:=by
 induction n with
 | zero =>
  rw[mD,fK j hj];by_cases h:j=0
  ·subst h;rfl
  ·simp[h]
 | succ n ih =>
  have ih:=ih (by omega);rw[mD];by_cases hjn:j=n/8
  ·rw[<-hjn,getElem!_set_same _ _ _ (by rw[iQ];omega),ih,if_neg (by omega),if_pos hjn];have hb:bs[n]! = bs[8*j+n%8]!:=by
    have:n=8*j+n%8:=by omega
    rw[<-this]
   rw[hb];show iE bs (8*j) (n%8+1)=_;by_cases h8:n%8=7
   ·rw[if_pos (by omega),h8];rfl
   ·rw[if_neg (by omega),if_pos (by omega),show(n+1)%8=n%8+1 by omega]
  ·rw[getElem!_set_other _ _ _ _ hjn,ih];by_cases h1:j<n/8
   ·rw[if_pos h1,if_pos (by omega)]
   ·rw[if_neg h1,if_neg hjn,if_neg (by omega)];by_cases h2:j=(n+1)/8
    ·rw[if_pos h2,show(n+1)%8=0 by omega];rfl
    ·rw[if_neg h2]
theorem nB(bs:Bs)(d:St)(hd:d.size=25)(n j:Nat)(hn:n<=25)(hj:j<25):(dP bs d n)[j]! = if j<n then d[j]! ^^^ wordOf bs (8*j) else d[j]!:=by
 induction n with
 | zero=>rfl
 | succ n ih =>
  have ih:=ih (by omega);rw[dP];unfold bC;by_cases hjn:j=n
  ·rw[<-hjn,getElem!_set_same _ _ _ (by rw[cL,hd];exact hj),if_pos (by omega)];rw[<-hjn]at ih;rw[ih,if_neg (by omega)]
  ·rw[getElem!_set_other _ _ _ _ hjn,ih];by_cases h1:j<n
   ·rw[if_pos h1,if_pos (by omega)]
   ·rw[if_neg h1,if_neg (by omega)]
theorem Ay(a b:St)(ha:a.size=25)(hb:b.size=25)(h:∀j,j<25->a[j]! = b[j]!):a=b:=by
 apply Vf (by omega);intro i h1 h2;have:=h i (by omega);rwa[getElem!_pos a i h1,getElem!_pos b i h2]at this
theorem LX(bs:Bs):mD bs 200=dP bs bT 25:=by
 have hz:bT.size=25:=by simp[bT]
 refine Ay _ _ (iQ _ _) (by rw[cL,hz]) (fun j hj=>?_);rw[Jy bs 200 j (PQ _) hj,nB bs bT hz 25 j (PQ _) hj,if_pos (by omega),if_pos hj,fK j hj,zx]
theorem D7(bs:Bs):front (yF (mD bs 200) 24) 200=eU bs:=by
 have hz:bT.size=25:=by simp[bT]
 rw[FT _ (iQ _ _) 24 (PQ _),LX];rfl
end SP
namespace SP
open Go.RowKit Go.Sort
end SP
namespace SP
open Go.RowKit Go.Sort
def fill(i:Nat):UInt8:=P9 (i%251) ^^^ 165
def lentTo(s:ByteArray):Nat->Bs
 | 0=>s.data++PX 160 0
 | k+1=>(lentTo s k).setIfInBounds (s.size+k) (fill (s.size+k))
def lent(s:ByteArray):Bs:=lentTo s 160
variable {w w1:World}{b o n:Nat}
theorem heap_setCells(b:Nat){k:Nat}(hk:k≠b):∀(vs:List Value) (p:Nat) (w:World),(w.setCells b p vs).heap[k]? = w.heap[k]?
 | [],_,_=>rfl
 | v :: r,p,w=>by rw[World.setCells,heap_setCells b hk r (p+1) _,UQ _ _ _ _ hk]
theorem Only.setCells(h:Only b o n w w1)(vs:List Value)(p:Nat)(hp:o<=p)(hn:p+vs.length<=o+n):Only b o n w (w1.setCells b p vs):=by
 have h0:=below_setCells (B:=0) (b:=b) (SJ _) vs p w1 (Qd 0 w1);exact h.trans ⟨h0.os,h0.tape,h0.output,h0.size,fun k _ hk=>heap_setCells b hk vs p w1,
  fun q hq=>VA b vs p w1 ⟨b,q,none⟩ (fun _ _=>by simp only;omega),fun q=>VH b vs p w1 _⟩
theorem Holds.setCells{bs r:Bs}(h:Holds encB w b o bs)(vs:List Value)(p:Nat)(hr:r.size=bs.size)(hp:p+vs.length<=bs.size)
 (h1:∀j (hj:j<vs.length),vs[j]=encB r[p+j]!) (h2:∀j,j<bs.size->j<p\/p+vs.length<=j->r[j]! = bs[j]!):Holds encB (w.setCells b (o+p) vs) b o r:=by
 intro j hj;rw[hr]at hj;rw[VH];refine⟨?_,(h j hj).2⟩;by_cases hin:j<p\/p+vs.length<=j
 ·rw[VA b vs (o+p) w ⟨b,o+j,none⟩ (fun _ _=>by simp only;omega),h2 j hj hin];exact(h j hj).1
 ·have hj2:j-p<vs.length:=by omega
  have:=World.cell?_setCells_in b vs (o+p) w (fun i hi=>by
   have:=(h (p+i) (by omega)).1;rw[<-RO]at this;rw[this];rfl) (j-p) hj2
  rw[show o+p+(j-p)=o+j by omega]at this;rw[this,h1 (j-p) hj2,show p+(j-p)=j by omega]
theorem app_front(a r:Bs)(j:Nat)(hj:j<a.size):(a++r)[j]! = a[j]:=by
 have h:j<(a++r).size:=by rw[QF];omega
 rw[getElem!_pos (a++r) j h,Array.getElem_append_left hj]
theorem app_back(a r:Bs)(j:Nat)(h1:a.size<=j)(h2:j<a.size+r.size):(a++r)[j]! = r[j-a.size]!:=by
 have h:j<(a++r).size:=by rw[QF];omega
 have h3:j-a.size<r.size:=by omega
 rw[getElem!_pos (a++r) j h,Array.getElem_append_right h1,getElem!_pos r (j-a.size) h3]
theorem rep_at(n j:Nat)(h:j<n):(PX n (0:UInt8))[j]! = 0:=by
 have h':j<(PX n (0:UInt8)).size:=by rw[P7];exact h
 rw[getElem!_pos (PX n (0:UInt8)) j h',Q6]
theorem conv_str(P:Program)(src dst e:TypeId)(hs:P.underlying src=some (.slice e))(he:P.underlying e=some (.int .u8))(hd:P.underlying dst=some .string)
 (w:World) (b o n cap:Nat) (bs:Bs) (hB:Holds encB w b o bs) (hn:bs.size=n):(convert src dst (.slice (some ⟨b,o,none⟩) n cap)).run P w=.ok (.string ⟨bs⟩) w:=by
 have h:=run_convert_bytes_back (P:=P) w src dst e ⟨b,o,none⟩ cap bs.toList hs he hd (fun j hj=>by
  have hj':j<bs.size:=by simpa using hj
  have hc:=(hB j hj').1;rw[getElem!_pos bs j hj']at hc;have e1:(⟨b,o,none⟩:Addr).add j=⟨b,o+j,none⟩:=by
   unfold UZ;by_cases h0:j=0
   ·subst h0;rfl
   ·rw[if_neg h0]
  rw[e1,hc];simp[encB,ub])
 simpa[hn]using h
end SP
namespace SP
open Go.RowKit Go.Sort Go.Deep
theorem int5:prog.underlying 5=some (.int .u8):=by kernel_rfl
theorem str9:prog.underlying 9=some .string:=by kernel_rfl
end SP
namespace SP
open Go.Sort
/-! ### Words and bytes -/
theorem Fa(x : UInt8)(i : Nat): (wide x).getLsbD i=x.toNat.testBit i:=by
  unfold wide;rw[BitVec.getLsbD_ofNat];by_cases h : i<64
  · simp[h]
  · have : x.toNat.testBit i=false:=VQ (PS x.toNat_lt (Sb (by decide) (by omega : 8 <= i)))
    simp[h, this]
theorem tP(x:UInt8)(i:Nat)(h:8<=i):x.toNat.testBit i=false:=
 VQ (PS x.toNat_lt (Sb (by decide) h))
theorem lZ(bs:Bs)(o n k:Nat)(hn:n<=8)(hk:k<64):(iE bs o n).getLsbD k=(decide (k<8*n) && (bs[o+k/8]!).toNat.testBit (k%8)):=by
 induction n with
 | zero=>simp[iE]
 | succ n ih =>
  rw[iE,BitVec.getLsbD_or,ih (by omega),BitVec.getLsbD_shiftLeft,Fa];by_cases h1:k<8*n
  ·simp[h1,hk,show k<8*(n+1) by omega]
  ·by_cases h2:k<8*(n+1)
   ·have e1:k/8=n:=by omega
    have e2:k-8*n=k%8:=by omega
    simp[h1,h2,hk,e1,e2]
   ·have:=tP bs[o+n]! (k-8*n) (by omega);simp[h1,h2,hk,this]
theorem low_bit(v:BitVec 64)(i:Nat)(h:i<8):(low v).toNat.testBit i=v.getLsbD i:=by
 unfold low;rw[UN,Nat.testBit_mod_two_pow,BitVec.getLsbD];simp[h]
theorem Br(d:St)(n k j:Nat)(hk:k<=n)(hj:j<n):(dB d n k)[j]! = if j<k then byteOf d j else 0:=by
 induction k with
 | zero =>
  have h':j<(PX n (0:UInt8)).size:=by rw[P7];exact hj
  rw[dB,getElem!_pos (PX n (0:UInt8)) j h',Q6,if_neg (by omega)]
 | succ k ih =>
  rw[dB];by_cases h:j=k
  ·subst h;rw[getElem!_set_same _ _ _ (by rw[fJ];exact hj),if_pos (by omega)]
  ·rw[getElem!_set_other _ _ _ _ h,ih (by omega)];by_cases h1:j<k
   ·rw[if_pos h1,if_pos (by omega)]
   ·rw[if_neg h1,if_neg (by omega)]
theorem f8(d:St)(n j:Nat)(hj:j<n):(front d n)[j]! = byteOf d j:=by
 unfold front;rw[Br d n n j (PQ _) hj,if_pos hj]
theorem qM(d:St)(n j:Nat)(hj:8*j+8<=n):wordOf (front d n) (8*j)=d[j]!:=by
 apply VB;intro k hk;unfold wordOf;rw[lZ _ _ 8 k (PQ _) hk,f8 d n _ (by omega)];unfold byteOf;have e1:(8*j+k/8)/8=j:=by omega
 have e2:(8*j+k/8)%8=k/8:=by omega
 rw[low_bit _ _ (RN _ (by decide)),BitVec.getLsbD_ushiftRight,e1,e2,show 8*(k/8)+k%8=k by omega];simp[hk]
theorem Ex(d:St)(hd:d.size=25):dP (front d 200) bT 25=d:=by
 have hz:bT.size=25:=by simp[bT]
 refine Ay _ _ (by rw[cL,hz]) hd (fun j hj=>?_);rw[nB _ bT hz 25 j (PQ _) hj,if_pos hj,fK j hj,zx,qM d 200 j (by omega)]
theorem yO(d:St)(hd:d.size=25):eU (front d 200)=front (perm d) 200:=by
 unfold eU;rw[Ex d hd]
/-! ### The sponge, byte by byte -/
structure Sp where
  d : St
  p : Bs
  h : Nat
structure Ok(S:Sp):Prop where
 d25:S.d.size=25
 p136:S.p.size=136
 hlt:S.h<136
def gW(S:Sp):Sp:={ d:=perm (dP S.p S.d 17),p:=S.p,h:=0 }
def tM(S:Sp)(x:UInt8):Sp:=
 if S.h+1=136 then gW { d:=S.d,p:=S.p.setIfInBounds S.h x,h:=S.h } else { d:=S.d,p:=S.p.setIfInBounds S.h x,h:=S.h+1 }
def cQ(S:Sp)(l:List UInt8):Sp:=l.foldl tM S
def splice(p:Bs):Nat->List UInt8->Bs
 | _,[]=>p
 | i,x :: r=>splice (p.setIfInBounds i x) (i+1) r
theorem dV(S:Sp)(a b:List UInt8):cQ S (a++b)=cQ (cQ S a) b:=List.foldl_append
theorem cB(p:Bs)(i:Nat)(l:List UInt8):(splice p i l).size=p.size:=by
 induction l generalizing p i with
 | nil=>rfl
 | cons x r ih=>rw[splice,ih,Qq]
theorem eH(p:Bs)(i:Nat)(l:List UInt8)(j:Nat)(hl:i+l.length<=p.size)(hj:j<p.size):(splice p i l)[j]! = if i<=j/\j<i+l.length then l[j-i]! else p[j]!:=by
 induction l generalizing p i with
 | nil=>simp[splice];omega
 | cons x r ih =>
  simp only[Qw]at hl;rw[splice,ih _ _ (by rw[Qq];omega) (by rw[Qq];exact hj)];by_cases h:j=i
  ·subst h;rw[if_neg (by omega),getElem!_set_same _ _ _ hj,if_pos (by simp),TK];rfl
  ·rw[getElem!_set_other _ _ _ _ h];by_cases h1:i+1<=j/\j<i+1+r.length
   ·rw[if_pos h1,if_pos (by simp;omega),show j-i=(j-(i+1))+1 by omega];rfl
   ·rw[if_neg h1,if_neg (by simp;omega)]
theorem jA(d:St)(p:Bs)(h:Nat):gW ⟨d,p,h⟩=⟨perm (dP p d 17),p,0⟩:=by unfold gW;rfl
theorem IM(S:Sp):(gW S).d=perm (dP S.p S.d 17):=by
 obtain⟨d,p,h⟩:=S;rw[jA]
theorem IK(S:Sp):(gW S).p=S.p:=by
 obtain⟨d,p,h⟩:=S;rw[jA]
theorem IL(S:Sp):(gW S).h=0:=by
 obtain⟨d,p,h⟩:=S;rw[jA]
theorem IJ{S:Sp}(h1:S.d.size=25)(h2:S.p.size=136):Ok (gW S):=by
 have hd:(dP S.p S.d 17).size=25:=by rw[cL,h1]
 refine⟨?_,by rw[IK,h2],?_⟩
 ·rw[IM];exact oR _ hd
 ·rw[IL];decide
theorem CN{S:Sp}(h:Ok S)(x:UInt8):Ok (tM S x):=by
 have:=h.hlt;unfold tM;by_cases e:S.h+1=136
 ·rw[if_pos e];exact IJ h.d25 (by show(S.p.setIfInBounds _ _).size=136;rw[Qq];exact h.p136)
 ·rw[if_neg e];exact⟨h.d25,by show(S.p.setIfInBounds _ _).size=136;rw[Qq];exact h.p136,by show S.h+1<136;omega⟩
theorem dU{S:Sp}(h:Ok S)(l:List UInt8):Ok (cQ S l):=by
 induction l generalizing S with
 | nil=>exact h
 | cons x r ih=>exact ih (CN h x)
theorem LP{S:Sp}(h:Ok S)(x:UInt8):(tM S x).h=(S.h+1)%136:=by
 have:=h.hlt;unfold tM;by_cases e:S.h+1=136
 ·rw[if_pos e,e];rfl
 ·rw[if_neg e,Qf (by omega)]
theorem Cs{S:Sp}(h:Ok S)(l:List UInt8):(cQ S l).h=(S.h+l.length)%136:=by
 induction l generalizing S with
 | nil=>exact(Qf h.hlt).symm
 | cons x r ih =>
  show(cQ (tM S x) r).h=_;rw[ih (CN h x),LP h x,Qw];omega
theorem jW(S:Sp)(l:List UInt8)(hl:l≠[])(hle:S.h+l.length<=136):
 cQ S l=if S.h+l.length=136 then gW { d:=S.d,p:=splice S.p S.h l,h:=S.h } else { d:=S.d,p:=splice S.p S.h l,h:=S.h+l.length }:=by
 induction l generalizing S with
 | nil=>exact absurd rfl hl
 | cons x r ih =>
  show cQ (tM S x) r=_;simp only[Qw]at hle⊢;cases r with
  | nil =>
   unfold tM cQ splice;simp only[List.foldl_nil,List.length_nil];by_cases e:S.h+1=136
   ·rw[if_pos e,if_pos (by omega)];rfl
   ·rw[if_neg e,if_neg (by omega)];rfl
  | cons y r' =>
   have e:¬S.h+1=136:=by simp only[Qw]at hle;omega
   have hp:tM S x = { d:=S.d,p:=S.p.setIfInBounds S.h x,h:=S.h+1 }:=by unfold tM;rw[if_neg e]
   rw[hp,ih _ (by simp) (by simp only[Qw]at hle⊢;omega)];simp only[splice,Qw];by_cases e2:S.h+(r'.length+1+1)=136
   ·rw[if_pos (by omega),if_pos e2];rfl
   ·rw[if_neg (by omega),if_neg e2,show S.h+1+(r'.length+1)=S.h+(r'.length+1+1) by omega]
/-! ### The end -/
def ended(p : Bs)(h : Nat)(e : UInt8): Bs:=
  let q:=(splice p h (QO (136-h) 0)).setIfInBounds h e
  q.setIfInBounds 135 (q[135]! ^^^ 128)
def oY(S:Sp)(e:UInt8):Sp:=gW { d:=S.d,p:=ended S.p S.h e,h:=S.h }
def dW(h:Nat)(e:UInt8):List UInt8:=
 (e :: QO (135-h) 0).set (135-h) ((e :: QO (135-h) 0)[135-h]! ^^^ 128)
theorem cS(h:Nat)(e:UInt8)(hh:h<136):(dW h e).length=136-h:=by
 unfold dW;rw[List.length_set,Qw,Rt];omega
theorem wZ(a b:Bs)(n:Nat)(ha:a.size=n)(hb:b.size=n)(h:∀j,j<n->a[j]! = b[j]!):a=b:=by
 apply Vf (by omega);intro i h1 h2;have:=h i (by omega);rwa[getElem!_pos a i h1,getElem!_pos b i h2]at this
theorem LU(h:Nat)(e:UInt8)(j:Nat)(hj:j<136-h)(hh:h<136):(dW h e)[j]! = (if j=0 then e else 0) ^^^ (if j=135-h then 128 else 0):=by
 have hc:∀j,j<136-h->(e :: QO (135-h) (0:UInt8))[j]! = if j=0 then e else 0:=by
  intro j hj;cases j with
  | zero=>rfl
  | succ j =>
   have hl:j+1<(e :: QO (135-h) (0:UInt8)).length:=by rw[Qw,Rt];omega
   rw[getElem!_pos (e :: QO (135-h) (0:UInt8)) (j+1) hl];simp
 have hlen:(dW h e).length=136-h:=cS h e hh;have hl:j<(e :: QO (135-h) (0:UInt8)).length:=by rw[Qw,Rt];omega
 rw[getElem!_pos (dW h e) j (by rw[hlen];exact hj)];unfold dW;rw[List.getElem_set];by_cases h1:135-h=j
 ·rw[if_pos h1,hc (135-h) (by omega),h1,if_pos (rfl:j=j)]
 ·rw[if_neg h1,if_neg (show ¬j=135-h by omega)];have:=hc j hj;rw[getElem!_pos (e :: QO (135-h) (0:UInt8)) j hl]at this;rw[this];simp
theorem Bv(p:Bs)(h:Nat)(e:UInt8):(ended p h e).size=p.size:=by
 unfold ended;simp only[Qq,cB]
theorem yD(n j:Nat)(h:j<n):(QO n (0:UInt8))[j]! = 0:=by
 rw[getElem!_pos _ j (by simpa using h)];simp
theorem G3(p:Bs)(h:Nat)(e:UInt8)(hp:p.size=136)(hh:h<136):ended p h e=splice p h (dW h e):=by
 have hs:(splice p h (QO (136-h) 0)).size=136:=by rw[cB,hp]
 refine wZ _ _ 136 (by rw[Bv,hp]) (by rw[cB,hp]) (fun j hj=>?_);have hq:∀j,j<136->((splice p h (QO (136-h) 0)).setIfInBounds h e)[j]! = if j<h then p[j]! else if j=h then e else 0:=by
  intro j hj;by_cases h1:j=h
  ·rw[h1,getElem!_set_same _ _ _ (by omega),if_neg (by omega),if_pos rfl]
  ·rw[getElem!_set_other _ _ _ _ h1,eH _ _ _ _ (by rw[Rt,hp];omega) (by omega),Rt];by_cases h2:j<h
   ·rw[if_neg (by omega),if_pos h2]
   ·rw[if_pos (by omega),if_neg h2,if_neg h1,yD _ _ (by omega)]
 have hR:(splice p h (dW h e))[j]! = if j<h then p[j]! else(if j=h then e else 0) ^^^ (if j=135 then 128 else 0):=by
  rw[eH _ _ _ _ (by rw[cS h e hh,hp];omega) (by omega),cS h e hh];by_cases h2:j<h
  ·rw[if_neg (show ¬(h<=j/\j<h+(136-h)) by omega),if_pos h2]
  ·rw[if_pos (show h<=j/\j<h+(136-h) by omega),if_neg h2,LU h e _ (by omega) hh];have e1:(j-h=0)=(j=h):=by apply propext;omega
   have e2:(j-h=135-h)=(j=135):=by apply propext;omega
   simp only[e1,e2]
 have hL:(ended p h e)[j]! = if j<h then p[j]! else(if j=h then e else 0) ^^^ (if j=135 then 128 else 0):=by
  unfold ended;by_cases h135:j=135
  ·rw[h135,getElem!_set_same _ _ _ (by rw[Qq,hs];decide),hq 135 (by decide),if_neg (show ¬135<h by omega),if_neg (show ¬135<h by omega),if_pos (rfl:135=135)]
  ·rw[getElem!_set_other _ _ _ _ h135,hq j hj];by_cases h2:j<h
   ·rw[if_pos h2,if_pos h2]
   ·rw[if_neg h2,if_neg h2,if_neg h135];simp
 rw[hL,hR]
theorem uR{S:Sp}(h:Ok S)(e:UInt8):oY S e=cQ S (dW S.h e):=by
 have:=h.hlt;have hl:=cS S.h e h.hlt;rw[jW S _ (by intro c;rw[c]at hl;simp at hl;omega) (by omega),if_pos (by omega)];unfold oY;rw[G3 _ _ _ h.p136 h.hlt]
end SP
namespace SP
open Go.RowKit Go.Sort Go.Deep
theorem Only.widen{b o n o' n':Nat}{w w':World}(h:Only b o n w w')(h1:o'<=o)(h2:o+n<=o'+n'):Only b o' n' w w':=
 ⟨h.os,h.tape,h.output,h.size,h.block,fun q hq=>h.cell q (by omega),h.froz⟩
structure HSp(w:World)(b:Nat)(S:Sp):Prop where
 d:Holds enc w b 0 S.d
 p:Holds encB w b 25 S.p
 h:w.cell? ⟨b,161,none⟩=some (.int .i64 (S.h:Int))
 f:w.frozen? ⟨b,161,none⟩=false
theorem HSp.drew{w:World}{b:Nat}{S:Sp}(h:HSp w b S):HSp w.drew b S:=⟨h.d,h.p,h.h,h.f⟩
theorem HSp.lt{w:World}{b:Nat}{S:Sp}(h:HSp w b S):b<w.heap.size:=Rx _ _ h.h
theorem HSp.below{w w':World}{b B:Nat}{S:Sp}(h:HSp w b S)(k:Below B w w')(hb:b<B):HSp w' b S:=
 ⟨Holds.below h.d k hb,Holds.below h.p k hb,by rw[k.cell (p:=⟨b,161,none⟩) hb];exact h.h,by rw[k.frozen (p:=⟨b,161,none⟩) hb];exact h.f⟩
theorem qV(b:Nat)(S:Sp)(w:World)(h25:S.d.size=25)(h136:S.p.size=136)(hS:HSp w b S):
 Calls prog 135 #[.pointer (some ⟨b,0,none⟩)] w fun e w'=>e=.returned (.tuple #[])/\Only b 0 162 w w'/\HSp w' b (gW S):=by
 obtain⟨d,p,h⟩:=S;dsimp only at h25 h136;have hD:Holds enc w b 0 d:=hS.d;have hP:Holds encB w b 25 p:=hS.p;have hc:=hS.h;have hf:=hS.f;dsimp only at hc;rw[jA];clear hS;have hps:(perm (dP p d 17)).size=25:=oR _ (by rw[cL,h25]);generalize hpm:perm (dP p d 17)=pd at hps⊢;have HPM:Hid (perm (dP p d 17)=pd):=hpm;clear hpm;go_enter Tryz.func135,Tryz.ntmps135;go_wp2;go_still_tail 7,mixed;go_wp2_with fail
 refine(JJ b 0 b 25 136 136 p d _ h25 (Holds.drew hD) (Holds.drew hP) h136 (by decide) (PQ _) (by omega)).mono ?_;rintro e w1 ⟨rfl,hO1,hD1⟩;have hO1':Only b 0 25 w w1:=((Only.refl b 0 25 w).drew).trans hO1;have hD1':Holds enc w1 b 0 (dP p d 17):=hD1;have hP1:=Holds.same hP hO1' (by omega);have c1:w1.cell? ⟨b,161,none⟩=some (.int .i64 h):=by rw[hO1'.cell 161 (by omega)];exact hc
 have f1:w1.frozen? ⟨b,161,none⟩=false:=by rw[hO1'.froz];exact hf
 clear hO1 hD1;go_wp2_with fail
 refine(pE b 0 _ _ (by rw[cL,h25]) hD1').mono ?_;rintro e w2 ⟨rfl,hO2,hD2⟩;rw[HPM.out]at hD2;have hP2:=Holds.same hP1 hO2 (by omega);have c2:w2.cell? ⟨b,161,none⟩=some (.int .i64 h):=by rw[hO2.cell 161 (by omega)];exact c1
 have f2:w2.frozen? ⟨b,161,none⟩=false:=by rw[hO2.froz];exact f1
 go_wp2
 go_end0
 have hO3:Only b 161 1 w2 (w2.setCell ⟨b,161,none⟩ (.int .i64 0)):=(Only.refl b 161 1 w2).setCell (by omega) (by omega) _;have hD3:Holds enc _ b 0 pd:=Holds.same hD2 hO3 (Ql (by omega));have hP3:Holds encB _ b 25 p:=Holds.same hP2 hO3 (Ql (by omega));exact⟨rfl,((hO1'.trans hO2).widen (PQ _) (by omega)).trans (hO3.widen (by omega) (by omega)),⟨hD3,hP3,Qu _ _ _ c2,by rw[Qk];exact f2⟩⟩
end SP
namespace SP
open Go.RowKit Go.Sort Go.Deep
theorem ints5:(prog.info? 5).map (·.size)=some 1:=by kernel_rfl
theorem d5{w:World}{b o:Nat}{p:Bs}(h:Holds encB w b o p)(i:Nat)(l:List UInt8)(hi:i+l.length<=p.size):Holds encB (w.setCells b (o+i) (l.map encB)) b o (splice p i l):=by
 refine Holds.setCells h _ i (cB p i l) (by rw[Qb];exact hi) (fun j hj=>?_) (fun j hj hout=>?_)
 ·rw[Qb]at hj;rw[eH p i l (i+j) hi (by omega),if_pos (by omega),Nat.add_sub_cancel_left,getElem!_pos l j hj,Sj]
 ·rw[Qb]at hout;rw[eH p i l j hi hj,if_neg (by omega)]
def piece(bs:Bs)(k n:Nat):List UInt8:=(bs.toList.drop k).take n
theorem m7(bs:Bs)(k n:Nat)(h:k+n<=bs.size):(piece bs k n).length=n:=by
 unfold piece;rw[SL,Um,P8];omega
theorem piece_at(bs:Bs)(k n j:Nat)(h:k+n<=bs.size)(hj:j<n)(hl:j<(piece bs k n).length):(piece bs k n)[j]=bs[k+j]!:=by
 have e:(piece bs k n)[j]? = some bs[k+j]!:=by
  unfold piece;rw[List.getElem?_take_of_lt hj,List.getElem?_drop,QE,Qo (by omega),getElem!_pos bs (k+j) (by omega)]
 exact(Qe.1 e).2
theorem Au(bs:Bs)(k n:Nat):bs.toList.take (k+n)=bs.toList.take k++piece bs k n:=Xp
theorem BC{w:World}{b h sb o len cap n:Nat}{p bs:Bs}{k:Nat}(hP:Holds encB w b 25 p)(hp:p.size=136)(hB:Holds encB w sb o bs)(hh:h<136)(hk:k+len<=bs.size)(hn:XQ len (136-h)=n):
 (Wo #[28,28] 3 #[.slice (some ⟨b,25+h,none⟩) (136-h) (136-h),.slice (some ⟨sb,o+k,none⟩) len cap]).run prog w=.ok (goInt n) (w.setCells b (25+h) ((piece bs k n).map encB)):=by
 have hnl:n<=len:=by rw[<-hn];exact Xh _ _
 have hnh:n<=136-h:=by rw[<-hn];exact WT _ _
 have hlen:((piece bs k n).map encB).length=n:=by rw[Qb,m7 bs k n (by omega)]
 have:=run_copy_cells (P:=prog) w 28 28 3 5 b (25+h) (136-h) (136-h) ⟨sb,o+k,none⟩ len cap ((piece bs k n).map encB) slice22 ints5 (by rw[hlen,hn])
  (fun j v hj=>by
   obtain⟨h1,h2⟩:=Qe.1 hj;rw[hlen]at h1;have hc:=(hB (k+j) (by omega)).1;rw[Sj,piece_at bs k n j (by omega) h1]at h2;have e1:(⟨sb,o+k,none⟩:Addr).add j=⟨sb,o+(k+j),none⟩:=by
    unfold UZ;by_cases h0:j=0
    ·subst h0;rw[if_pos rfl];rfl
    ·rw[if_neg h0,RO]
   rw[e1,hc,h2])
  (fun j hj=>by
   rw[hlen]at hj;have:=(hP (h+j) (by omega)).1;rw[<-RO]at this;rw[this];rfl)
  (fun j hj=>by
   rw[hlen]at hj;have:=(hP (h+j) (by omega)).2;rw[<-RO]at this;exact this)
  (fun v hv=>by
   obtain⟨x,_,rfl⟩:=List.mem_map.1 hv;rfl)
 rw[hlen]at this;exact this
theorem nD{w:World}{b:Nat}{d:St}{p:Bs}{v:Value}(hD:Holds enc w b 0 d)(h25:d.size=25)(hP:Holds encB w b 25 p)(h136:p.size=136)(hc:w.cell? ⟨b,161,none⟩=some v)(hf:w.frozen? ⟨b,161,none⟩=false)(m:Nat):
 HSp (w.setCell ⟨b,161,none⟩ (.int .i64 ((m:Nat):Int))) b ⟨d,p,m⟩:=by
 have hO:Only b 161 1 w (w.setCell ⟨b,161,none⟩ (.int .i64 ((m:Nat):Int))):=(Only.refl b 161 1 w).setCell (by omega) (by omega) _;have hD3:Holds enc _ b 0 d:=Holds.same hD hO (Ql (by omega));have hP3:Holds encB _ b 25 p:=Holds.same hP hO (Ql (by omega));exact⟨hD3,hP3,Qu _ _ _ hc,by rw[Qk];exact hf⟩
theorem take_any(b:Nat)(S:Sp)(a:Option Addr)(sb so len cap:Nat)(bs:Bs)(w:World)(hok:Ok S)(hS:HSp w b S)(hl:bs.size=len)(hcap:len<=cap)(hbig:len<=1099511627776)
 (hsrc:len=0\/(a=some ⟨sb,so,none⟩/\sb≠b/\Holds encB w sb so bs)) :
 Calls prog 132 #[.pointer (some ⟨b,0,none⟩),.slice a len cap] w fun e w'=>e=.returned (.tuple #[])/\Only b 0 162 w w'/\HSp w' b (cQ S bs.toList):=by
 go_enter Tryz.func132,Tryz.ntmps132;go_wp2;go_loopg [1] len (fun g s1 wr=>∃(k:Nat) (a':Option Addr) (Sk:Sp),k+g=len/\s1=.slice a' (len-k) (cap-k)/\(k<len->a'=some ⟨sb,so+k,none⟩)/\HSp wr b Sk/\Only b 0 162 w wr/\Hid (Sk=cQ S (bs.toList.take k)))
 case atStart =>
  refine⟨0,a,S,by omega,rfl,fun h0=>?_,hS,Only.refl _ _ _ _,rfl⟩;rcases hsrc with h|⟨h,_,_⟩
  ·omega
  ·exact h
 case round =>
  obtain⟨k,a',Sk,hk,rfl,ha',hSk,hO,HE⟩:=hrel;by_cases hlt:k<len
  ·have e1:=ha' hlt;subst e1;obtain⟨_,hne,hB⟩:a=some ⟨sb,so,none⟩/\sb≠b/\Holds encB w sb so bs:=by
    rcases hsrc with h|h
    ·omega
    ·exact h
   have hBr:=Holds.other hB hO hne (by omega);have hokk:Ok Sk:=by rw[HE.out];exact dU hok _
   obtain⟨q,hh⟩:∃q,Sk.h=q:=⟨_,rfl⟩
   have hlt136:=hokk.hlt;have hsz:=hokk.p136;rw[hh]at hlt136;have hc:=hSk.h;have hf:=hSk.f;rw[hh]at hc;have hP:=hSk.p;obtain⟨n,hn⟩:∃n,XQ (len-k) (136-q)=n:=⟨_,rfl⟩
   have l0:(0:Int)<((len-k:Nat):Int):=by omega
   have hh136:(q:Int)<=136:=by omega
   have Hh:Hid (Sk.h=q):=hh;clear hh;have hne136:(136=q)=False:=eq_false (by omega);have hn1:1<=n:=by rw[<-hn];exact(Nat.le_min).2 ⟨by omega,by omega⟩
   have hnl:n<=len-k:=by rw[<-hn];exact Xh _ _
   have hnh:n<=136-q:=by rw[<-hn];exact WT _ _
   have hcp:=BC (w:=wr.drew) (cap:=cap-k) (k:=k) hP hsz hBr hlt136 (by omega) hn;have hpl:=m7 bs k n (by omega);have hP1:=d5 (Holds.drew hP) q (piece bs k n) (by omega);have hO1:Only b 0 162 w (wr.drew.setCells b (25+q) ((piece bs k n).map encB)):=hO.drew.setCells _ _ (by omega) (by rw[Qb];omega);have hOx:Only b 25 136 wr (wr.drew.setCells b (25+q) ((piece bs k n).map encB)):=((Only.refl b 25 136 wr).drew).setCells _ _ (by omega) (by rw[Qb];omega);have hD1:=Holds.same hSk.d hOx (Ql (by rw[hokk.d25];omega));have c1:(wr.drew.setCells b (25+q) ((piece bs k n).map encB)).cell? ⟨b,161,none⟩=some (.int .i64 q):=by rw[hOx.cell 161 (by omega)];exact hc
   have f1:(wr.drew.setCells b (25+q) ((piece bs k n).map encB)).frozen? ⟨b,161,none⟩=false:=by rw[hOx.froz];exact hf
   have HT:Hid (cQ S (bs.toList.take (k+n))=cQ Sk (piece bs k n)):=by
    show _=_;rw[Au,dV,<-HE.out]
   have HCH:Hid (cQ Sk (piece bs k n)=if q+n=136 then gW ⟨Sk.d,splice Sk.p q (piece bs k n),q⟩ else⟨Sk.d,splice Sk.p q (piece bs k n),q+n⟩):=by
    show _=_;have:=jW Sk (piece bs k n) (by intro e;rw[e]at hpl;simp at hpl;omega) (by rw[hpl,Hh.out];omega);rw[hpl,Hh.out]at this;exact this
   have hss:(splice Sk.p q (piece bs k n)).size=136:=by rw[cB,hsz]
   have hds:=hokk.d25;generalize hW1:wr.drew.setCells b (25+q) ((piece bs k n).map encB)=W1 at hcp hP1 hO1 hD1 c1 f1;generalize splice Sk.p q (piece bs k n)=sp at hP1 hss HCH;generalize Sk.d=sd at hD1 hds HCH;clear hOx hW1 hP hBr hokk hpl hSk hsz hn;have z1:(n:Int)<=((len-k:Nat):Int):=by omega
   by_cases hcn:cap-k=n
   ·have hcn':(cap-k=n)=True:=eq_true hcn;have HCN:Hid (cap-k=n):=hcn;clear hcn;by_cases hfull:q+n=136
    ·have hb:((q:Int)+(n:Int) == 136)=true:=beq_iff_eq.2 (by omega);rw[if_pos hfull]at HCH;go_wp2_with fail
     go_still_tail 9,mixed;go_wp2_with fail
     refine(qV b ⟨sd,sp,q+n⟩ _ hds hss (nD hD1 hds hP1 hss c1 f1 (q+n))).mono ?_;rintro e w2 ⟨rfl,hO2,hS2⟩;go_wp2;go_roundg (gk-n)
     case measure=>omega
     case rel =>
      refine⟨k+n,some ⟨sb,so+k,none⟩,gW ⟨sd,sp,q⟩,by omega,by rw[Tn,Tn],fun hx=>by have:=HCN.out;omega,?_,?_,?_⟩
      ·rw[jA]at hS2⊢;exact hS2
      ·exact(hO1.setCell (o:=161) (by omega) (by omega) _).trans hO2
      ·rw[HT.out,HCH.out];rfl
    ·have hb:((q:Int)+(n:Int) == 136)=false:=beq_eq_false_iff_ne.2 (by omega);rw[if_neg hfull]at HCH;go_wp2_with fail
     go_still_tail 9,mixed;go_wp2;go_roundg (gk-n)
     case measure=>omega
     case rel =>
      refine⟨k+n,some ⟨sb,so+k,none⟩,⟨sd,sp,q+n⟩,by omega,by rw[Tn,Tn],fun hx=>by have:=HCN.out;omega,?_,?_,?_⟩
      ·exact nD hD1 hds hP1 hss c1 f1 (q+n)
      ·exact hO1.setCell (o:=161) (by omega) (by omega) _
      ·rw[HT.out,HCH.out];rfl
   ·have hcn':(cap-k=n)=False:=eq_false hcn;by_cases hfull:q+n=136
    ·have hb:((q:Int)+(n:Int) == 136)=true:=beq_iff_eq.2 (by omega);rw[if_pos hfull]at HCH;go_wp2_with fail
     go_still_tail 9,mixed;go_wp2_with fail
     refine(qV b ⟨sd,sp,q+n⟩ _ hds hss (nD hD1 hds hP1 hss c1 f1 (q+n))).mono ?_;rintro e w2 ⟨rfl,hO2,hS2⟩;go_wp2;go_roundg (gk-n)
     case measure=>omega
     case rel =>
      refine⟨k+n,some ⟨sb,so+k+n,none⟩,gW ⟨sd,sp,q⟩,by omega,by rw[Tn,Tn],fun _=>by rw[RO],?_,?_,?_⟩
      ·rw[jA]at hS2⊢;exact hS2
      ·exact(hO1.setCell (o:=161) (by omega) (by omega) _).trans hO2
      ·rw[HT.out,HCH.out];rfl
    ·have hb:((q:Int)+(n:Int) == 136)=false:=beq_eq_false_iff_ne.2 (by omega);rw[if_neg hfull]at HCH;go_wp2_with fail
     go_still_tail 9,mixed;go_wp2;go_roundg (gk-n)
     case measure=>omega
     case rel =>
      refine⟨k+n,some ⟨sb,so+k+n,none⟩,⟨sd,sp,q+n⟩,by omega,by rw[Tn,Tn],fun _=>by rw[RO],?_,?_,?_⟩
      ·exact nD hD1 hds hP1 hss c1 f1 (q+n)
      ·exact hO1.setCell (o:=161) (by omega) (by omega) _
      ·rw[HT.out,HCH.out];rfl
  ·have hk0:k=len:=by omega
   have l0:¬(0:Int)<((len-k:Nat):Int):=by omega
   go_wp2
   go_end0
   refine⟨rfl,hO,?_⟩;have e1:bs.toList.take k=bs.toList:=Uv (by rw[P8];omega);rw[HE.out,e1]at hSk;exact hSk
end SP
namespace SP
open Go.RowKit Go.Sort Go.Deep
theorem m9(x:UInt8):Sr 8 (x.toNat:Int)=x.toBitVec:=by
 apply VL;rw[VP,UM];exact Qf x.toNat_lt
theorem uW(x y:UInt8):bits .xor .u8 (ub x) (ub y)=ub (x ^^^ y):=by
 show Ve.wrap ((Sr 8 (x.toNat:Int) ^^^ Sr 8 (y.toNat:Int)).toNat:Int)=_;rw[m9,m9,<-UInt8.toBitVec_xor];have h:((x ^^^ y).toNat:Int)<256:=by have:=(x ^^^ y).toNat_lt;omega
 have e:∀n:Int,Ve.wrap n=n%256:=fun n=>by simp[WZ,W9,Wz]
 rw[e];exact WO (Int.natCast_nonneg _) h
theorem Kh(x:UInt8):bits .xor .u8 (ub x) 128=ub (x ^^^ 128):=uW x 128
theorem Nc:∀w:World,(zeroValue 5).run prog w=.ok (.int .u8 0) w:=fun _=>by kernel_rfl
theorem zP{w:World}{b q:Nat}{p:Bs}(hP:Holds encB w b 25 p)(hp:p.size=136)(hq:q<136)(ty:TypeId):
 (Uj #[28] ty #[.slice (some ⟨b,25+q,none⟩) (136-q) (136-q)]).run prog w=.ok (.tuple #[]) (w.setCells b (25+q) ((QO (136-q) (0:UInt8)).map encB)):=by
 have h:=Lib.run_clear_slice (P:=prog) w 28 5 ty (.int .u8 0) slice22 Nc rfl rfl b (25+q) (136-q) (136-q) (by omega)
  (fun j hj=>by
   have:=(hP (q+j) (by omega)).1;rw[<-RO]at this;rw[this];rfl)
  (fun j hj=>by
   have:=(hP (q+j) (by omega)).2;rw[<-RO]at this;exact this)
 rw[List.map_replicate];exact h
theorem Dg(b:Nat)(S:Sp)(e:UInt8)(w:World)(hok:Ok S)(hS:HSp w b S):
 Calls prog 88 #[.pointer (some ⟨b,0,none⟩),.int .u8 (ub e)] w fun r w'=>r=.returned (.tuple #[])/\Only b 0 162 w w'/\HSp w' b (oY S e):=by
 obtain⟨d,p,q⟩:=S;have h25:d.size=25:=hok.d25;have h136:p.size=136:=hok.p136;have hq:q<136:=hok.hlt;have hD:Holds enc w b 0 d:=hS.d;have hP:Holds encB w b 25 p:=hS.p;have hc:w.cell? ⟨b,161,none⟩=some (.int .i64 q):=hS.h;have hf:=hS.f;have hcl:=zP (Holds.drew hP) h136 hq 0;have hOx:Only b 25 136 w (w.drew.setCells b (25+q) ((QO (136-q) (0:UInt8)).map encB)):=((Only.refl b 25 136 w).drew).setCells _ _ (by omega) (by rw[Qb,Rt];omega);have hP1:=d5 (Holds.drew hP) q (QO (136-q) (0:UInt8)) (by rw[Rt];omega);have hs1:(splice p q (QO (136-q) 0)).size=136:=by rw[cB,h136]
 have HF:Hid (oY ⟨d,p,q⟩ e=gW ⟨d,((splice p q (QO (136-q) 0)).setIfInBounds q e).setIfInBounds 135 (((splice p q (QO (136-q) 0)).setIfInBounds q e)[135]! ^^^ 128),q⟩):=by
  show _=_;unfold oY ended;rfl
 generalize w.drew.setCells b (25+q) ((QO (136-q) (0:UInt8)).map encB)=W1 at hcl hOx hP1;generalize splice p q (QO (136-q) 0)=sp at hP1 hs1 HF;have hne136:(136=q)=False:=eq_false (by omega);have hq136:(q:Int)<=136:=by omega
 have hq136':(q:Int)<136:=by omega
 have c1:W1.cell? ⟨b,161,none⟩=some (.int .i64 q):=by rw[hOx.cell 161 (by omega)];exact hc
 obtain⟨c2,f2⟩:=hP1 q (by omega);obtain⟨sp2,hsp2⟩:∃s,sp.setIfInBounds q e=s:=⟨_,rfl⟩
 rw[hsp2]at HF;have hs2:sp2.size=136:=by rw[<-hsp2,Qq,hs1]
 obtain⟨x,hx⟩:∃x,sp2[135]! = x:=⟨_,rfl⟩
 rw[hx]at HF;have hx80:=Kh x;have hP2:=Holds.set hP1 (i:=q) (by omega) e;rw[hsp2]at hP2;have hO2:Only b 25 136 w (W1.setCell ⟨b,25+q,none⟩ (.int .u8 (ub e))):=hOx.setCell (o:=25+q) (by omega) (by omega) _;have hP2':Holds encB (W1.setCell ⟨b,25+q,none⟩ (.int .u8 (ub e))) b 25 sp2:=hP2;have HX:Hid (sp2[135]! = x):=hx;rw[HF.out];clear hS hok hP hsp2 hx hP2 HF;have hs3:(sp2.setIfInBounds 135 (x ^^^ 128)).size=136:=by rw[Qq,hs2]
 go_enter Tryz.func88,Tryz.ntmps88;go_wp2;go_still_tail 8,mixed;go_wp2_with fail
 go_region
 go_wp2_with fail
 generalize W1.setCell ⟨b,25+q,none⟩ (.int .u8 (ub e))=W2 at hP2' hO2⊢;obtain⟨c3,f3⟩:=nS hP2' 135 (by omega) HX.out;clear c1 c2 f2 hcl hP1;go_region
 go_wp2_with fail
 have hP3:=Holds.set hP2' (i:=135) (by omega) (x ^^^ 128);have hO3:Only b 25 136 w (W2.setCell ⟨b,160,none⟩ (.int .u8 (ub (x ^^^ 128)))):=hO2.setCell (o:=160) (by omega) (by omega) _;have hP3':Holds encB (W2.setCell ⟨b,160,none⟩ (.int .u8 (ub (x ^^^ 128)))) b 25 (sp2.setIfInBounds 135 (x ^^^ 128)):=hP3;generalize W2.setCell ⟨b,160,none⟩ (.int .u8 (ub (x ^^^ 128)))=W3 at hP3' hO3⊢;have hD3:Holds enc W3 b 0 d:=Holds.same hD hO3 (Ql (by omega));have hS3:HSp W3 b ⟨d,sp2.setIfInBounds 135 (x ^^^ 128),q⟩:=⟨hD3,hP3',by rw[hO3.cell 161 (by omega)];exact hc,by rw[hO3.froz];exact hf⟩
 refine(qV b ⟨d,sp2.setIfInBounds 135 (x ^^^ 128),q⟩ _ h25 hs3 hS3.drew.drew).mono ?_;rintro r w4 ⟨rfl,hO4,hS4⟩;go_wp2
 go_end0
 exact⟨rfl,(hO3.drew.drew.widen (by omega) (by omega)).trans hO4,hS4⟩
end SP
namespace SP
open Go.Sort
def bX(d:St):Nat->St
 | 0=>d
 | m+1=>perm (bX d m)
theorem cF(d:St)(hd:d.size=25)(m:Nat):(bX d m).size=25:=by
 induction m with
 | zero=>exact hd
 | succ m ih=>exact oR _ ih
def cA(d:St)(j:Nat):UInt8:=byteOf (bX d (j/136)) (j%136)
def dY(d:St)(n:Nat):Bs:=Array.ofFn (fun i:Fin n=>cA d i.val)
theorem dX(d:St)(n:Nat):(dY d n).size=n:=by simp[dY]
theorem l8(d:St)(n j:Nat)(hj:j<n):(dY d n)[j]! = cA d j:=by
 rw[getElem!_pos (dY d n) j (by rw[dX];exact hj)];simp[dY]
def S0:Sp:=⟨bT,PX 136 0,0⟩
theorem nT:Ok S0:=⟨by simp[S0,bT],by simp[S0],by decide⟩
def eJ(l:List UInt8)(e:UInt8):St:=(oY (cQ S0 l) e).d
theorem kY(l:List UInt8)(e:UInt8):(eJ l e).size=25:=by
 unfold eJ;have h:=dU nT l;rw[uR h];exact(dU h _).d25
def uP(l:List UInt8):Bs:=front (eJ l 6) 32
def jR(l:List UInt8)(n:Nat):Bs:=dY (eJ l 31) n
theorem zF(l:List UInt8):uP l=dY (eJ l 6) 32:=by
 unfold uP;refine wZ _ _ 32 (aP _ _) (dX _ _) (fun j hj=>?_);rw[f8 _ _ _ hj,l8 _ _ _ hj];unfold cA;rw[Tq (by omega),Qf (by omega)];rfl
/-! ### The reference: all bytes with what stands behind them, piece by piece -/
def total(l : List UInt8)(e : UInt8): List UInt8:=l ++ dW (l.length%136) e
theorem mN(l:List UInt8)(e:UInt8):(total l e).length=136*(l.length/136+1):=by
 unfold total;rw[List.length_append,cS _ _ (RN _ (by decide))];omega
theorem xF(l:List UInt8)(e:UInt8):eJ l e=(cQ S0 (total l e)).d:=by
 unfold eJ total;have h:=dU nT l;have hh:=Cs nT l;rw[dV,uR h,hh];have:S0.h=0:=rfl;rw[this,PU]
def mL(st:Bs)(T:List UInt8)(o:Nat):Nat->Bs
 | 0=>st
 | k+1=>(mL st T o k).setIfInBounds k ((mL st T o k)[k]! ^^^ T[o+k]!)
theorem tQ(st:Bs)(T:List UInt8)(o k:Nat):(mL st T o k).size=st.size:=by
 induction k with
 | zero=>rfl
 | succ k ih=>rw[mL,Qq,ih]
theorem Is(st:Bs)(T:List UInt8)(o k j:Nat)(hk:k<=st.size)(hj:j<st.size):(mL st T o k)[j]! = if j<k then st[j]! ^^^ T[o+j]! else st[j]!:=by
 induction k with
 | zero=>rfl
 | succ k ih =>
  rw[mL];by_cases h:j=k
  ·subst h;rw[getElem!_set_same _ _ _ (by rw[tQ];exact hj),ih (by omega),if_neg (by omega),if_pos (by omega)]
  ·rw[getElem!_set_other _ _ _ _ h,ih (by omega)];by_cases h1:j<k
   ·rw[if_pos h1,if_pos (by omega)]
   ·rw[if_neg h1,if_neg (by omega)]
def g8(T:List UInt8):Nat->Bs
 | 0=>PX 200 0
 | i+1=>eU (mL (g8 T i) T (136*i) 136)
theorem Al:front bT 200=PX 200 0:=by
 refine wZ _ _ 200 (aP _ _) (by rw[P7]) (fun j hj=>?_);have h':j<(PX 200 (0:UInt8)).size:=by rw[P7];exact hj
 rw[f8 _ _ _ hj,getElem!_pos (PX 200 (0:UInt8)) j h',Q6];unfold byteOf;rw[fK _ (by omega)];unfold low;simp
theorem Ir(x y:UInt8)(i:Nat):(x ^^^ y).toNat.testBit i=(x.toNat.testBit i ^^ y.toNat.testBit i):=by
 rw[UInt8.toNat_xor,Nat.testBit_xor]
theorem JI(d:St)(hd:d.size=25)(p:Bs)(T:List UInt8)(o:Nat)(hp:∀j,j<136->p[j]! = T[o+j]!):
 dP (mL (front d 200) T o 136) bT 25=dP p d 17:=by
 have hz:bT.size=25:=by simp[bT]
 refine Ay _ _ (by rw[cL,hz]) (by rw[cL,hd]) (fun j hj=>?_);rw[nB _ bT hz 25 j (PQ _) hj,if_pos hj,fK j hj,zx,nB _ d hd 17 j (by decide) hj];apply VB;intro k hk;have hb:∀m,m<200->(mL (front d 200) T o 136)[m]! = if m<136 then(front d 200)[m]! ^^^ T[o+m]! else(front d 200)[m]!:=fun m hm =>
  Is _ _ _ _ _ (by rw[aP];decide) (by rw[aP];exact hm)
 have hw:=congrArg (fun v=>v.getLsbD k) (qM d 200 j (by omega));simp only[wordOf]at hw⊢;rw[lZ _ _ 8 k (PQ _) hk]at hw⊢;rw[hb _ (by omega)];by_cases h17:j<17
 ·rw[if_pos (by omega),if_pos h17,BitVec.getLsbD_xor,<-hw,lZ _ _ 8 k (PQ _) hk,Ir,hp _ (by omega)];simp[hk]
 ·rw[if_neg (by omega),if_neg h17,<-hw]
theorem Av(T:List UInt8)(i:Nat):T.take (136*(i+1))=T.take (136*i)++(T.drop (136*i)).take 136:=by
 rw[show 136*(i+1)=136*i+136 by omega,Xp]
theorem FU(T:List UInt8)(i:Nat)(h:136*i<=T.length):g8 T i=front (cQ S0 (T.take (136*i))).d 200:=by
 induction i with
 | zero =>
  rw[Ul,List.take_zero];exact Al.symm
 | succ i ih =>
  rw[g8,ih (by omega),Av T i,dV];have hok:=dU nT (T.take (136*i));have hh:(cQ S0 (T.take (136*i))).h=0:=by
   rw[Cs nT,SL,Nat.min_eq_left (by omega)];have:S0.h=0:=rfl;omega
  generalize cQ S0 (T.take (136*i))=S at hok hh;obtain⟨d,p,q⟩:=S;have hd:d.size=25:=hok.d25;have hp:p.size=136:=hok.p136;have hq:q=0:=hh;subst hq;have hl:((T.drop (136*i)).take 136).length=136:=by rw[SL,Um];omega
  rw[jW _ _ (by intro e;rw[e]at hl;simp at hl) (by rw[hl];exact PQ _),hl,if_pos rfl,jA];unfold eU;rw[JI d hd (splice p 0 ((T.drop (136*i)).take 136)) T (136*i)];intro j hj;rw[eH _ _ _ _ (by rw[hl,hp];decide) (by omega),if_pos (by omega),Ub,getElem!_pos _ j (by rw[hl];exact hj),getElem!_pos T (136*i+j) (by omega)];rw[List.getElem_take,List.getElem_drop]
theorem yG(l:List UInt8)(e:UInt8):g8 (total l e) (l.length/136+1)=front (eJ l e) 200:=by
 have h:=mN l e;rw[FU _ _ (by omega),xF,Uv (by omega)]
end SP
end Go.Proofs.YtfcnimopdjjhcaaGreat
