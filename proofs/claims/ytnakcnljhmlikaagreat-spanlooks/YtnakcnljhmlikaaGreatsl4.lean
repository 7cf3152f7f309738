import Derived.Deep.RegionHeld3
import Derived.Deep.LoopGhost
import Derived.WalkKit
import Derived.Sort.Row
import Derived.Deep.Draws
import Derived.Below
import Derived.Deep.OwnRows
import Derived.Test.YtnakcnljhmlikaaGreatRows
import Derived.Deep.QuietTactic
import Derived.StillTailTactics
import Derived.BigRegion
import Derived.BigQuiet
import Derived.WalkSpells
import Derived.WalkLawsBesides
import Derived.Deep.RegionWith
import Derived.KernelRfl
import Derived.Lib.LazyBuf
import Derived.Lib.SliceRun
import Derived.Deep.AppendSrc
import Derived.Lib.AppendZeros
import Derived.Lib.ConvBytes
import Derived.Test.YtnakcnljhmlikaaGreatsl3
set_option linter.unusedVariables false
set_option linter.constructorNameAsVariable false
set_option linter.unusedSimpArgs false
set_option maxRecDepth 1000000
set_option maxHeartbeats 4000000
namespace Go.Proofs.YtnakcnljhmlikaaGreat
open _root_.Array renaming append_assoc->YD,ext->Y9,getElem?_append_left->VY,getElem?_append_right->Xz,getElem?_eq_getElem->SS,getElem?_map->YA,getElem?_toList->Tn,getElem_replicate->TL,getElem_toList->UR,length_toList->Sx,map->Z1,mk->WM,replicate->So,size_append->Tw,size_replicate->SB,size_setIfInBounds->Tg
open _root_.BitVec renaming eq_of_getLsbD_eq->XO,eq_of_toNat_eq->Yb,ofInt->UN,ofInt_natCast->Yg,ofNat->U9,toNat_ofNat->WB
open _root_.Bool renaming and_eq_true->SC,noConfusion->VO
open _root_.ByteArray renaming data_append->Xs
open _root_.Go.Act renaming put->Tt
open _root_.Go.Addr renaming add->Vw,mk->ZX
open _root_.Go.Builtin renaming append_->UG,clear_->YI,copy_->YH
open _root_.Go.IntKind renaming bits->Y7,i64->TA,signed->YG,u64->Ta,u8->Xp,wrap->Y6,wrap_u64->Vz
open _root_.Go.IntWalk renaming i64_in->Tv
open _root_.Go.Lib renaming bytesCells->Vl,bytesWorld->V7,bytesWorld_size->WS,wpList_append_run->UD
open _root_.Go.Question renaming cut->ZV
open _root_.Go.RowKit.Below renaming heap_setCell->WI,refl->SE
open _root_.Go.Value renaming agg->SX,int->TW
open _root_.Go.World renaming alloc->TI,block_lt_of_cell?->TV,cell?_alloc_new->S5,cell?_of_block->SR,cell?_setCell_other->u7,cell?_setCell_same->Tb,cell?_setCells_out->XN,freeze->Wj,frozen?_alloc_new->TU,frozen?_of_block->Uf,frozen?_setCell->S3,frozen?_setCells->XW,setCell->UH,size_alloc->Sq
open _root_.Int renaming emod_eq_of_lt->Y4,natCast_ediv->VT,natCast_mul->Uh,natCast_pow->US,natCast_zero->Te,ofNat_inj->VK,tdiv_eq_ediv_of_nonneg->XM,tmod_eq_emod_of_nonneg->V5
open _root_.List renaming cons->Vy,getElem?_eq_some_iff->SI,getElem?_map->Un,getElem_map->UM,length_append->Su,length_cons->Tc,length_drop->Wi,length_map->SO,length_nil->UE,length_replicate->Uk,length_take->UZ,mem_cons->TP,mem_map->Tq,not_mem_nil->SL,replicate->TE,setIfInBounds_toArray->Sw,set_cons_succ->SN,set_cons_zero->SQ,take_add->Zw,take_of_length_le->Wo
open _root_.Nat renaming add_assoc->Uu,add_mod->VI,add_sub_cancel->V4,add_sub_cancel_left->VH,add_zero->Ur,div_eq_of_lt->VB,le_add_right->Wn,le_refl->Se,le_trans->SD,lt_of_le_of_lt->WY,lt_of_lt_of_le->Si,min->Z4,min_le_left->Zm,min_le_right->Za,mod_eq_of_lt->SA,mod_lt->Ug,mod_one->YR,mul_add->U4,mul_assoc->Uy,mul_comm->S9,mul_one->UW,ne_of_gt->TC,ne_of_lt->TJ,pow_add->Uz,pow_le_pow_right->TT,pow_pos->Va,pow_succ->T8,pow_zero->UV,sub_self->WP,sub_sub->Vv,sub_zero->VP,testBit_lt_two_pow->Yi,zero_add->Sj,zero_le->Us
open _root_.Option renaming map_some->WX
open _root_.Or renaming inl->SY,inr->SJ
open _root_.UInt8 renaming ofNat->Sy,toNat_ofNat'->Vq
open Go.Proofs.Tryz (prog)
section
open Go.RowKit Go.Sort
variable {P:Nat}[NeZero P]{N:Nat}
theorem eU{w W:World}{k0 k1 k2 p0 p1 p2 p3 c0 c1 c2 c3 a b c d p q r s:Nat}(h:Kept w k0 [⟨k0,0,p0,p1,p2,p3⟩,⟨k0,4,c0,c1,c2,c3⟩,⟨k1,0,a,b,c,d⟩,⟨k2,0,p,q,r,s⟩] W):W.cell? ⟨k0,0,none⟩=some (uZ p0)/\W.cell? ⟨k0,1,none⟩=some (uZ p1)/\W.cell? ⟨k0,2,none⟩=some (uZ p2)/\W.cell? ⟨k0,3,none⟩=some (uZ p3)/\W.cell? ⟨k0,4,none⟩=some (uZ c0)/\W.cell? ⟨k0,5,none⟩=some (uZ c1)/\W.cell? ⟨k0,6,none⟩=some (uZ c2)/\W.cell? ⟨k0,7,none⟩=some (uZ c3)/\W.cell? ⟨k1,0,none⟩=some (uZ a)/\W.cell? ⟨k1,1,none⟩=some (uZ b)/\W.cell? ⟨k1,2,none⟩=some (uZ c)/\W.cell? ⟨k1,3,none⟩=some (uZ d)/\W.cell? ⟨k2,0,none⟩=some (uZ p)/\W.cell? ⟨k2,1,none⟩=some (uZ q)/\W.cell? ⟨k2,2,none⟩=some (uZ r)/\W.cell? ⟨k2,3,none⟩=some (uZ s)/\Kept w k0 [⟨k0,0,p0,p1,p2,p3⟩,⟨k0,4,c0,c1,c2,c3⟩,⟨k1,0,a,b,c,d⟩,⟨k2,0,p,q,r,s⟩] W:=
 ⟨h.head.c0,h.head.c1,h.head.c2,h.head.c3,h.tail.head.c0,h.tail.head.c1,h.tail.head.c2,h.tail.head.c3,h.tail.tail.head.c0,h.tail.tail.head.c1,h.tail.tail.head.c2,h.tail.tail.head.c3,h.tail.tail.tail.head.c0,h.tail.tail.tail.head.c1,h.tail.tail.tail.head.c2,h.tail.tail.tail.head.c3,h⟩
theorem Hk(p0 p1 p2 p3 c0 c1 c2 c3 P:Nat)(x y:Value)(m n:Nat)(hp0:p0<18446744073709551616)(hp1:p1<18446744073709551616)(hp2:p2<18446744073709551616)(hp3:p3<18446744073709551616)
 (hc0:c0<18446744073709551616) (hc1:c1<18446744073709551616) (hc2:c2<18446744073709551616) (hc3:c3<18446744073709551616) (eP:P=val p0 p1 p2 p3) (hP:P+val c0 c1 c2 c3=top) (hP2:top<2*P) (hx:Four x m) (hy:Four y n) (w:World) :
 Calls prog 52 #[.agg #[uZ p0,uZ p1,uZ p2,uZ p3,uZ c0,uZ c1,uZ c2,uZ c3],x,y] w (rZ w λe w'=>Four e (m*n%P)):=by
 obtain⟨a,b,c,d,rfl,ha,hb,hc,hd,em⟩:=id hx;obtain⟨p,q,r,s,rfl,hp,hq,hr,hs,en⟩:=id hy;have HX:Hid (Four _ _):=hx;have HY:Hid (Four _ _):=hy;have HL:Hid (∀(v:Value) (k:Nat) (w:World),lO v k->Calls prog 96 #[.agg #[uZ p0,uZ p1,uZ p2,uZ p3,uZ c0,uZ c1,uZ c2,uZ c3],v] w (rZ w λe w'=>Four e (k%P))):=
  λv k w hv=>rB p0 p1 p2 p3 c0 c1 c2 c3 P v k hp0 hp1 hp2 hp3 hc0 hc1 hc2 hc3 eP hP hP2 hv w
 clear em en hx hy ha hb hc hd hp hq hr hs hp0 hp1 hp2 hp3 hc0 hc1 hc2 hc3 eP hP hP2;go_enter Tryz.func52,Tryz.ntmps52;go_wp2_with fail
 have FR:=((((At8.made w 97 p0 p1 p2 p3 c0 c1 c2 c3 rfl).alloc (.cells #[uZ a,uZ b,uZ c,uZ d] 63)).alloc (.cells #[uZ p,uZ q,uZ r,uZ s] 63)).alloc (.cells #[uZ 0,uZ 0,uZ 0,uZ 0] 63))
 have X:=(((At4.made (w.alloc (.cells #[uZ p0,uZ p1,uZ p2,uZ p3,uZ c0,uZ c1,uZ c2,uZ c3] 97)) 63 a b c d (Sq _ _)).alloc (.cells #[uZ p,uZ q,uZ r,uZ s] 63)).alloc (.cells #[uZ 0,uZ 0,uZ 0,uZ 0] 63))
 have Y:=((At4.made ((w.alloc (.cells #[uZ p0,uZ p1,uZ p2,uZ p3,uZ c0,uZ c1,uZ c2,uZ c3] 97)).alloc (.cells #[uZ a,uZ b,uZ c,uZ d] 63)) 63 p q r s (k:=w.heap.size+1+1) (by simp)).alloc (.cells #[uZ 0,uZ 0,uZ 0,uZ 0] 63))
 have T3:=At4.made (((w.alloc (.cells #[uZ p0,uZ p1,uZ p2,uZ p3,uZ c0,uZ c1,uZ c2,uZ c3] 97)).alloc (.cells #[uZ a,uZ b,uZ c,uZ d] 63)).alloc (.cells #[uZ p,uZ q,uZ r,uZ s] 63)) 63 0 0 0 0 (k:=w.heap.size+1+1+1) (by simp);have KP:=((((Kept.mk1 (gK w (.cells #[uZ p0,uZ p1,uZ p2,uZ p3,uZ c0,uZ c1,uZ c2,uZ c3] 97) (.cells #[uZ a,uZ b,uZ c,uZ d] 63) (.cells #[uZ p,uZ q,uZ r,uZ s] 63) (.cells #[uZ 0,uZ 0,uZ 0,uZ 0] 63)) (gK w (.cells #[uZ p0,uZ p1,uZ p2,uZ p3,uZ c0,uZ c1,uZ c2,uZ c3] 97) (.cells #[uZ a,uZ b,uZ c,uZ d] 63) (.cells #[uZ p,uZ q,uZ r,uZ s] 63) (.cells #[uZ 0,uZ 0,uZ 0,uZ 0] 63)).size).cons Y.blk).cons X.blk).cons (x:=⟨w.heap.size,4,c0,c1,c2,c3⟩) ⟨FR.c4,FR.c5,FR.c6,FR.c7,FR.fz⟩).cons (x:=⟨w.heap.size,0,p0,p1,p2,p3⟩) ⟨FR.c0,FR.c1,FR.c2,FR.c3,FR.fz⟩;simp only[Te]at T3;clear FR X Y;generalize TI _ _=W0 at KP T3⊢;generalize h3:w.heap.size+1+1+1=k3 at T3⊢;generalize h2:w.heap.size+1+1=k2 at KP⊢;generalize h1:w.heap.size+1=k1 at KP⊢;have Q3:Hid (w.heap.size<=k3):=by unfold Hid;omega
 generalize h0:w.heap.size=k0 at KP Q3⊢;have H0:=mk1 (h0);have hl3:∀x∈([⟨k0,0,p0,p1,p2,p3⟩,⟨k0,4,c0,c1,c2,c3⟩,⟨k1,0,a,b,c,d⟩,⟨k2,0,p,q,r,s⟩]:List Blk),k3≠x.k:=by simp only[TP,SL,or_false];rintro x (rfl|rfl|rfl|rfl)<;>simp only<;>omega
 obtain⟨tc0,tc1,tc2,tc3,tf⟩:=id T3;have zt:=T3.lt;go_region_held3 (λw'=>w'.cell? ⟨k0,0,none⟩=some (uZ p0)/\w'.cell? ⟨k0,1,none⟩=some (uZ p1)/\w'.cell? ⟨k0,2,none⟩=some (uZ p2)/\w'.cell? ⟨k0,3,none⟩=some (uZ p3)/\w'.cell? ⟨k0,4,none⟩=some (uZ c0)/\w'.cell? ⟨k0,5,none⟩=some (uZ c1)/\w'.cell? ⟨k0,6,none⟩=some (uZ c2)/\w'.cell? ⟨k0,7,none⟩=some (uZ c3)/\w'.cell? ⟨k1,0,none⟩=some (uZ a)/\w'.cell? ⟨k1,1,none⟩=some (uZ b)/\w'.cell? ⟨k1,2,none⟩=some (uZ c)/\w'.cell? ⟨k1,3,none⟩=some (uZ d)/\w'.cell? ⟨k2,0,none⟩=some (uZ p)/\w'.cell? ⟨k2,1,none⟩=some (uZ q)/\w'.cell? ⟨k2,2,none⟩=some (uZ r)/\w'.cell? ⟨k2,3,none⟩=some (uZ s)/\Kept w k0 [⟨k0,0,p0,p1,p2,p3⟩,⟨k0,4,c0,c1,c2,c3⟩,⟨k1,0,a,b,c,d⟩,⟨k2,0,p,q,r,s⟩] w') (first|(with_reducible exact eU KP)|(with_reducible exact eU KP.drew)|(with_reducible exact eU (KP.set4' Q3.out hl3 _ _ _ _))|(with_reducible exact eU (KP.set4' Q3.out hl3 _ _ _ _).drew)|fail) (first|(go_at_call 97;refine(kS _ _ _ _ HX.out HY.out _).mono ?_;rintro e w1 ⟨v,rfl,hb1,hE1⟩;obtain⟨x0,x1,x2,x3,x4,x5,x6,x7,rfl,hx0,hx1,hx2,hx3,hx4,hx5,hx6,hx7,hxe⟩:=id hE1;clear hxe;have HE1:Hid (lO _ _):=hE1;clear hE1;have KP1:=KP.drew.call hb1;have T1:=T3.drew.call hb1;clear KP T3 hb1;have KP:=KP1;have T3:=T1;clear KP1 T1;obtain⟨tc0,tc1,tc2,tc3,tf⟩:=id T3;have zt:=T3.lt)|(go_at_call 96;refine(HL _ _ _ HE1.out).mono ?_;rintro e w2 ⟨v,rfl,hb2,hF3⟩;obtain⟨a',b',c',d',rfl,ha',hb',hc',hd',es3⟩:=id hF3;clear es3;have HF3:Hid (Four _ _):=hF3;clear hF3;have KP1:=KP.call hb2;have T1:=T3.call hb2;clear KP T3 hb2;have KP:=KP1;have T3:=T1;clear KP1 T1;obtain⟨tc0,tc1,tc2,tc3,tf⟩:=id T3;have zt:=T3.lt))
 go_wp2;have RF:=T3.self4 a' b' c' d';unfold set4 at RF;refine bodyPost_ret (v:=?v) ?hr rfl ?hR
 case hr=>simp[results,Tryz.results52,go_sem,RF.c0,RF.c1,RF.c2,RF.c3];rfl
 refine⟨_,rfl,?_,HF3.out⟩;rw[H0.out];exact aF KP.bl Q3.out _ _ _ _
theorem Four.eight{a b c d m:Nat}(h:Four (.agg #[uZ a,uZ b,uZ c,uZ d]) m):
 lO (.agg #[uZ a,uZ b,uZ c,uZ d,uZ 0,uZ 0,uZ 0,uZ 0]) m:=by
 obtain⟨p,q,r,s,e,hp,hq,hr,hs,rfl⟩:=h;simp only[SX.injEq,WM.injEq,Vy.injEq,TW.injEq,true_and,and_true,VK]at e;obtain⟨rfl,rfl,rfl,rfl⟩:=e;exact⟨a,b,c,d,0,0,0,0,rfl,hp,hq,hr,hs,dC,dC,dC,dC,rfl⟩
theorem Gf{v u:Value}{m n:Nat}(hx:Four v m)(hy:Four u n):m+n<top*top:=by
 have h1:=hx.lt;have h2:=hy.lt;have h3:top+top<=top*top:=by unfold top;decide
 omega
theorem Hr(p0 p1 p2 p3 c0 c1 c2 c3 P:Nat)(x y:Value)(m n:Nat)(hp0:p0<18446744073709551616)(hp1:p1<18446744073709551616)(hp2:p2<18446744073709551616)(hp3:p3<18446744073709551616)
 (hc0:c0<18446744073709551616) (hc1:c1<18446744073709551616) (hc2:c2<18446744073709551616) (hc3:c3<18446744073709551616) (eP:P=val p0 p1 p2 p3) (hP:P+val c0 c1 c2 c3=top) (hP2:top<2*P) (hx:Four x m) (hy:Four y n) (w:World) :
 Calls prog 85 #[.agg #[uZ p0,uZ p1,uZ p2,uZ p3,uZ c0,uZ c1,uZ c2,uZ c3],x,y] w (rZ w λe w'=>Four e ((m+n)%P)):=by
 obtain⟨a,b,c,d,rfl,ha,hb,hc,hd,em⟩:=id hx;obtain⟨p,q,r,s,rfl,hp,hq,hr,hs,en⟩:=id hy;have HX:Hid (Four _ _):=hx;have HY:Hid (Four _ _):=hy;have HL:Hid (∀(v:Value) (k:Nat) (w:World),lO v k->Calls prog 96 #[.agg #[uZ p0,uZ p1,uZ p2,uZ p3,uZ c0,uZ c1,uZ c2,uZ c3],v] w (rZ w λe w'=>Four e (k%P))):=
  λv k w hv=>rB p0 p1 p2 p3 c0 c1 c2 c3 P v k hp0 hp1 hp2 hp3 hc0 hc1 hc2 hc3 eP hP hP2 hv w
 clear em en hx hy ha hb hc hd hp hq hr hs hp0 hp1 hp2 hp3 hc0 hc1 hc2 hc3 eP hP hP2;go_enter Tryz.func85,Tryz.ntmps85;go_wp2_with fail
 have FR:=((((At8.made w 97 p0 p1 p2 p3 c0 c1 c2 c3 rfl).alloc (.cells #[uZ a,uZ b,uZ c,uZ d] 63)).alloc (.cells #[uZ p,uZ q,uZ r,uZ s] 63)).alloc (.cells #[uZ 0,uZ 0,uZ 0,uZ 0] 63))
 have X:=(((At4.made (w.alloc (.cells #[uZ p0,uZ p1,uZ p2,uZ p3,uZ c0,uZ c1,uZ c2,uZ c3] 97)) 63 a b c d (Sq _ _)).alloc (.cells #[uZ p,uZ q,uZ r,uZ s] 63)).alloc (.cells #[uZ 0,uZ 0,uZ 0,uZ 0] 63))
 have Y:=((At4.made ((w.alloc (.cells #[uZ p0,uZ p1,uZ p2,uZ p3,uZ c0,uZ c1,uZ c2,uZ c3] 97)).alloc (.cells #[uZ a,uZ b,uZ c,uZ d] 63)) 63 p q r s (k:=w.heap.size+1+1) (by simp)).alloc (.cells #[uZ 0,uZ 0,uZ 0,uZ 0] 63))
 have T3:=At4.made (((w.alloc (.cells #[uZ p0,uZ p1,uZ p2,uZ p3,uZ c0,uZ c1,uZ c2,uZ c3] 97)).alloc (.cells #[uZ a,uZ b,uZ c,uZ d] 63)).alloc (.cells #[uZ p,uZ q,uZ r,uZ s] 63)) 63 0 0 0 0 (k:=w.heap.size+1+1+1) (by simp);have KP:=((((Kept.mk1 (gK w (.cells #[uZ p0,uZ p1,uZ p2,uZ p3,uZ c0,uZ c1,uZ c2,uZ c3] 97) (.cells #[uZ a,uZ b,uZ c,uZ d] 63) (.cells #[uZ p,uZ q,uZ r,uZ s] 63) (.cells #[uZ 0,uZ 0,uZ 0,uZ 0] 63)) (gK w (.cells #[uZ p0,uZ p1,uZ p2,uZ p3,uZ c0,uZ c1,uZ c2,uZ c3] 97) (.cells #[uZ a,uZ b,uZ c,uZ d] 63) (.cells #[uZ p,uZ q,uZ r,uZ s] 63) (.cells #[uZ 0,uZ 0,uZ 0,uZ 0] 63)).size).cons Y.blk).cons X.blk).cons (x:=⟨w.heap.size,4,c0,c1,c2,c3⟩) ⟨FR.c4,FR.c5,FR.c6,FR.c7,FR.fz⟩).cons (x:=⟨w.heap.size,0,p0,p1,p2,p3⟩) ⟨FR.c0,FR.c1,FR.c2,FR.c3,FR.fz⟩;simp only[Te]at T3;clear FR X Y;generalize TI _ _=W0 at KP T3⊢;generalize h3:w.heap.size+1+1+1=k3 at T3⊢;generalize h2:w.heap.size+1+1=k2 at KP⊢;generalize h1:w.heap.size+1=k1 at KP⊢;have Q3:Hid (w.heap.size<=k3):=by unfold Hid;omega
 generalize h0:w.heap.size=k0 at KP Q3⊢;have H0:=mk1 (h0);have hl3:∀x∈([⟨k0,0,p0,p1,p2,p3⟩,⟨k0,4,c0,c1,c2,c3⟩,⟨k1,0,a,b,c,d⟩,⟨k2,0,p,q,r,s⟩]:List Blk),k3≠x.k:=by simp only[TP,SL,or_false];rintro x (rfl|rfl|rfl|rfl)<;>simp only<;>omega
 obtain⟨tc0,tc1,tc2,tc3,tf⟩:=id T3;have zt:=T3.lt;go_region_held3 (λw'=>w'.cell? ⟨k0,0,none⟩=some (uZ p0)/\w'.cell? ⟨k0,1,none⟩=some (uZ p1)/\w'.cell? ⟨k0,2,none⟩=some (uZ p2)/\w'.cell? ⟨k0,3,none⟩=some (uZ p3)/\w'.cell? ⟨k0,4,none⟩=some (uZ c0)/\w'.cell? ⟨k0,5,none⟩=some (uZ c1)/\w'.cell? ⟨k0,6,none⟩=some (uZ c2)/\w'.cell? ⟨k0,7,none⟩=some (uZ c3)/\w'.cell? ⟨k1,0,none⟩=some (uZ a)/\w'.cell? ⟨k1,1,none⟩=some (uZ b)/\w'.cell? ⟨k1,2,none⟩=some (uZ c)/\w'.cell? ⟨k1,3,none⟩=some (uZ d)/\w'.cell? ⟨k2,0,none⟩=some (uZ p)/\w'.cell? ⟨k2,1,none⟩=some (uZ q)/\w'.cell? ⟨k2,2,none⟩=some (uZ r)/\w'.cell? ⟨k2,3,none⟩=some (uZ s)/\Kept w k0 [⟨k0,0,p0,p1,p2,p3⟩,⟨k0,4,c0,c1,c2,c3⟩,⟨k1,0,a,b,c,d⟩,⟨k2,0,p,q,r,s⟩] w') (first|(with_reducible exact eU KP)|(with_reducible exact eU KP.drew)|(with_reducible exact eU (KP.set4' Q3.out hl3 _ _ _ _))|(with_reducible exact eU (KP.set4' Q3.out hl3 _ _ _ _).drew)|fail) (first|(go_at_call 127;refine(qW _ _ _ _ (Four.eight HX.out) (Four.eight HY.out) (Gf HX.out HY.out) _).mono ?_;rintro e w1 ⟨v,rfl,hb1,hE1⟩;obtain⟨x0,x1,x2,x3,x4,x5,x6,x7,rfl,hx0,hx1,hx2,hx3,hx4,hx5,hx6,hx7,hxe⟩:=id hE1;clear hxe;have HE1:Hid (lO _ _):=hE1;clear hE1;have KP1:=KP.drew.call hb1;have T1:=T3.drew.call hb1;clear KP T3 hb1;have KP:=KP1;have T3:=T1;clear KP1 T1;obtain⟨tc0,tc1,tc2,tc3,tf⟩:=id T3;have zt:=T3.lt)|(go_at_call 96;refine(HL _ _ _ HE1.out).mono ?_;rintro e w2 ⟨v,rfl,hb2,hF3⟩;obtain⟨a',b',c',d',rfl,ha',hb',hc',hd',es3⟩:=id hF3;clear es3;have HF3:Hid (Four _ _):=hF3;clear hF3;have KP1:=KP.call hb2;have T1:=T3.call hb2;clear KP T3 hb2;have KP:=KP1;have T3:=T1;clear KP1 T1;obtain⟨tc0,tc1,tc2,tc3,tf⟩:=id T3;have zt:=T3.lt))
 go_wp2;have RF:=T3.self4 a' b' c' d';unfold set4 at RF;refine bodyPost_ret (v:=?v) ?hr rfl ?hR
 case hr=>simp[results,Tryz.results85,go_sem,RF.c0,RF.c1,RF.c2,RF.c3];rfl
 refine⟨_,rfl,?_,HF3.out⟩;rw[H0.out];exact aF KP.bl Q3.out _ _ _ _
theorem Co(x y:Value)(m n:Nat)(hx:Four x m)(hy:Four y n)(w:World):
 Calls prog 83 #[x,y] w (rZ w λe w'=>e=.bool (decide (m<n))):=by
 obtain⟨a,b,c,d,rfl,ha,hb,hc,hd,em⟩:=id hx;obtain⟨p,q,r,s,rfl,hp,hq,hr,hs,en⟩:=id hy;have HX:=mk1 (hx);have HY:=mk1 (hy);go_enter Tryz.func83,Tryz.ntmps83;go_wp2_with fail
 refine(mW _ _ _ _ HX.out HY.out _).mono ?_;rintro e w1 ⟨v,rfl,hb1,v2,t,k,rfl,hF,hk,he⟩;have HB:=mk1 ((below2 w _ _).trans (hb1.mono (below2 w _ _).size));have hd:decide (m<n)=decide (k=1):=by
  have h1:=hF.lt;have h2:=HX.lt;have h3:=HY.lt;have:k=0\/k=1:=oM;rcases this with rfl|rfl
  ·rw[decide_eq_false oM,decide_eq_false oM]
  ·rw[decide_eq_true oM,decide_eq_true rfl]
 have HD:=mk1 (hd);obtain⟨a',b',c',d',rfl,ha',hb',hc',hd',es⟩:=id hF;have:k=0\/k=1:=oM;rcases this with rfl|rfl
 ·go_wp2;go_ret;exact⟨_,rfl,HB.alloc HB.size _,by rw[HD.out];rfl⟩
 ·go_wp2;go_ret;exact⟨_,rfl,HB.alloc HB.size _,by rw[HD.out];rfl⟩
end
section
open Go.RowKit Go.Sort Go.Deep
variable {P:Nat}[NeZero P]{N:Nat}
theorem At4.setq{w:World}{k a b c d:Nat}(h:At4 w k a b c d)(q o:Nat)(hq:q<4):
 At4 (w.setCell ⟨k,q,none⟩ (uZ o)) k (if q=0 then o else a) (if q=1 then o else b) (if q=2 then o else c) (if q=3 then o else d):=by
 have h':q=0\/q=1\/q=2\/q=3:=oM;rcases h' with rfl|rfl|rfl|rfl
 ·exact h.set0 o
 ·exact h.set1 o
 ·exact h.set2 o
 ·exact h.set3 o
theorem KX{a b c d M k B:Nat}(ha:a<18446744073709551616)(hb:b<18446744073709551616)(hc:c<18446744073709551616)(hd:d<18446744073709551616)(hk:k<32)(hB:B<256)(hv:val a b c d=M*256^(k+1)):
 bits .or .u64 (wd a b c d (k/8):Int) ((B*2^(8*(k%8)):Nat):Int)=((wd a b c d (k/8)+B*2^(8*(k%8)):Nat):Int)/\wd a b c d (k/8)+B*2^(8*(k%8))<18446744073709551616:=by
 have h1:wd a b c d (k/8)=256^(k%8+1)*(M%256^(7-k%8)):=by
  rw[Gm (k/8) oM ha hb hc hd,hv,NX rfl rfl]
 obtain⟨h2,h3⟩:=PL (y:=M%256^(7-k%8)) (x:=B) (r:=k%8) oM hB (Ug _ (Va dC));rw[h1];refine⟨?_,h3⟩;rw[bits_or_u64_nat _ _ oM oM,h2]
theorem KY{a b c d k B o:Nat}(hk:k<32)(ho:o=wd a b c d (k/8)+B*2^(8*(k%8))):
 val (if k/8=0 then o else a) (if k/8=1 then o else b) (if k/8=2 then o else c) (if k/8=3 then o else d)=val a b c d+B*256^k:=by
 have h:=DD a b c d (k/8) o oM;have e:(256:Nat)^k=2^(64*(k/8))*2^(8*(k%8)):=by
  rw[<-Uz,show 64*(k/8)+8*(k%8)=8*k by omega,Nat.pow_mul]
 rw[ho,U4,<-Uy,S9 (2^(64*(k/8))) B,Uy,<-e]at h;rw[ho];omega
theorem Jc(s:ByteArray)(i:Nat)(hi:i<s.size):beV (s.data.extract 0 (i+1)).toList=beV (s.data.extract 0 i).toList*256+s[i].toNat:=by
 have e:(s.data.extract 0 (i+1)).toList=(s.data.extract 0 i).toList++[s[i]]:=by
  rw[Array.extract_succ_right oM hi,Array.toList_push];rfl
 rw[e,fA];simp[beV]
theorem D5(s:ByteArray)(hs:s.size=32)(w:World):
 Calls prog 82 #[.string s] w (rZ w λe w'=>Four e (beV s.data.toList)):=by
 go_enter Tryz.func82,Tryz.ntmps82;go_wp2;have KP:=((Kept.mk1 (below2 w (.cells #[uZ 0,uZ 0,uZ 0,uZ 0] 63) (.cells #[uZ 0,uZ 0,uZ 0,uZ 0] 63)) (below2 w _ _).size).cons ((At4.made w 63 0 0 0 0 rfl).alloc (.cells #[uZ 0,uZ 0,uZ 0,uZ 0] 63)).blk).cons (At4.made (w.alloc (.cells #[uZ 0,uZ 0,uZ 0,uZ 0] 63)) 63 0 0 0 0 (Sq _ _)).blk;generalize h1:w.heap.size+1=k1 at KP⊢;have n10:k1≠w.heap.size:=oM;have Q1:Hid (w.heap.size<=k1):=by unfold Hid;omega
 go_loopg [4] 32 (λgk s4 wr=>∃i a b c d:Nat,i+gk=32/\s4=iZ i/\Kept w w.heap.size [⟨k1,0,a,b,c,d⟩,⟨w.heap.size,0,0,0,0,0⟩] wr/\Hid (Four (.agg #[uZ a,uZ b,uZ c,uZ d]) (beV (s.data.extract 0 i).toList*256^(32-i))))
 case atStart =>
  refine⟨0,0,0,0,0,rfl,rfl,KP,?_⟩;have:beV (s.data.extract 0 0).toList=0:=by simp[beV]
  rw[this,Nat.zero_mul];exact Four.mk dC dC dC dC rfl
 case round =>
  obtain⟨i,a,b,c,d,hi,rfl,KP,HF⟩:=hrel;by_cases hlt:i<32
  ·obtain⟨k,hk⟩:∃k,31-i=k:=⟨_,rfl⟩
   have hk32:k<32:=oM;have hi32:i<s.size:=oM;have hF:val a b c d=beV (s.data.extract 0 i).toList*256^(k+1)/\a<18446744073709551616/\b<18446744073709551616/\c<18446744073709551616/\d<18446744073709551616:=by
    obtain⟨a',b',c',d',e',h1,h2,h3,h4,h5⟩:=HF.out;obtain⟨rfl,rfl,rfl,rfl⟩:a'=a/\b'=b/\c'=c/\d'=d:=by
     simp only[SX.injEq,WM.injEq,Vy.injEq,TW.injEq,true_and,and_true,VK]at e';exact⟨e'.1.symm,e'.2.1.symm,e'.2.2.1.symm,e'.2.2.2.symm⟩
    exact⟨by rw[<-h5,show 32-i=k+1 by omega],h1,h2,h3,h4⟩
   obtain⟨B,hB⟩:∃B,s[i].toNat=B:=⟨_,rfl⟩
   have hB256:=hB ▸ s[i].toNat_lt;obtain⟨hor,hol⟩:=KX hF.2.1 hF.2.2.1 hF.2.2.2.1 hF.2.2.2.2 hk32 hB256 hF.1;have xw:=KP.head.at4.wd (k/8) oM;obtain⟨o,ho⟩:∃o,wd a b c d (k/8)+B*2^(8*(k%8))=o:=⟨_,rfl⟩
   rw[ho]at hor hol;have hst:=KY (a:=a) (b:=b) (c:=c) (d:=d) hk32 ho.symm;have HST:Hid (Four (.agg #[uZ ((if k/8=0 then o else a:Nat):Int),uZ ((if k/8=1 then o else b:Nat):Int),uZ ((if k/8=2 then o else c:Nat):Int),uZ ((if k/8=3 then o else d:Nat):Int)]) (beV (s.data.extract 0 (i+1)).toList*256^(32-(i+1)))):=by
    refine Four.mk ?_ ?_ ?_ ?_ ?_
    ·split;exact hol;exact hF.2.1
    ·split;exact hol;exact hF.2.2.1
    ·split;exact hol;exact hF.2.2.2.1
    ·split;exact hol;exact hF.2.2.2.2
    ·rw[hst,hF.1,Jc s i hi32,hB,show 32-(i+1)=k by omega,Nat.add_mul,T8,Uy,S9 (256^k) 256]
   obtain⟨y,hy⟩:∃y,B*2^(8*(k%8))=y:=⟨_,rfl⟩
   rw[hy]at hor;obtain⟨v,hv⟩:∃v,wd a b c d (k/8)=v:=⟨_,rfl⟩
   rw[hv]at hor xw;obtain⟨q,hq⟩:∃q,k/8=q:=⟨_,rfl⟩
   obtain⟨r,hr⟩:∃r,k%8=r:=⟨_,rfl⟩
   obtain⟨t,ht⟩:∃t,8*r=t:=⟨_,rfl⟩
   have hq4:q<4:=oM;have PT:=λ(v:Value)=>KP.tail.set (j:=k1) (i:=q) Q1.out (by simp only[TP,SL,or_false];rintro x rfl;exact n10) v
   rw[hq]at xw HST;have hsh:Ta.wrap ((B:Int)*2^t)=(y:Int):=by
    rw[<-ht,<-hr,<-hy,Uh,US];have:=wrapN (B*2^(8*(k%8))) oM;rw[Uh,US]at this;exact this
   have T1:=KP.head.at4.setq q o hq4;have z1:=KP.head.lt;have xf:=KP.head.f;go_wp2;go_region
   go_wp2;go_roundg (gk-1)
   case measure=>omega
   case rel =>
    refine⟨i+1,_,_,_,_,oM,rfl,?_,HST⟩;exact((PT _).cons T1.blk).drew
  ·have hi32:i=32:=oM;subst hi32;have hse:s.data.extract 0 32=s.data:=by
    have h2:=hs;rw[<-h2];exact Array.extract_size
   have h1:=HF.out;rw[WP,UV,UW,hse]at h1;have HFE:=mk1 (h1);obtain⟨nc0,nc1,nc2,nc3,nf⟩:=KP.head.at4;obtain⟨rc0,rc1,rc2,rc3,rf⟩:=KP.tail.head.at4;have z1:=KP.head.lt;have z0:=KP.tail.head.lt;go_wp2;have RF:=KP.tail.head.at4.self4 a b c d;unfold set4 at RF;refine bodyPost_ret (v:=?v) ?hr rfl ?hR
   case hr=>simp[results,Tryz.results82,go_sem,RF.c0,RF.c1,RF.c2,RF.c3];rfl
   exact⟨_,rfl,aF KP.bl (Se _) _ _ _ _,HFE.out⟩
theorem Ob(w:World)(p0 p1 p2 p3 c0 c1 c2 c3 a b c d p q r s:Nat):
 Kept w w.heap.size [⟨w.heap.size,0,p0,p1,p2,p3⟩,⟨w.heap.size,4,c0,c1,c2,c3⟩,⟨w.heap.size+1,0,a,b,c,d⟩,⟨w.heap.size+1+1,0,p,q,r,s⟩,⟨w.heap.size+1+1+1,0,0,0,0,0⟩]
  ((((w.alloc (.cells #[uZ p0,uZ p1,uZ p2,uZ p3,uZ c0,uZ c1,uZ c2,uZ c3] 97)).alloc (.cells #[uZ a,uZ b,uZ c,uZ d] 63)).alloc (.cells #[uZ p,uZ q,uZ r,uZ s] 63)).alloc (.cells #[uZ 0,uZ 0,uZ 0,uZ 0] 63)):=by
 have F:=(((At8.made w 97 p0 p1 p2 p3 c0 c1 c2 c3 rfl).alloc (.cells #[uZ a,uZ b,uZ c,uZ d] 63)).alloc (.cells #[uZ p,uZ q,uZ r,uZ s] 63)).alloc (.cells #[uZ 0,uZ 0,uZ 0,uZ 0] 63);refine(((((Kept.mk1 (gK w _ _ _ _) (gK w _ _ _ _).size).cons ?_).cons ?_).cons ?_).cons ?_).cons ?_
 ·exact(At4.made _ 63 0 0 0 0 (by simp)).blk
 ·exact((At4.made _ 63 p q r s (by simp)).alloc _).blk
 ·exact(((At4.made _ 63 a b c d (by simp)).alloc _).alloc _).blk
 ·exact⟨F.c4,F.c5,F.c6,F.c7,F.fz⟩
 ·exact⟨F.c0,F.c1,F.c2,F.c3,F.fz⟩
theorem CQ(w:World)(p0 p1 p2 p3 c0 c1 c2 c3 a b c d:Nat):
 Kept w w.heap.size [⟨w.heap.size,0,p0,p1,p2,p3⟩,⟨w.heap.size,4,c0,c1,c2,c3⟩,⟨w.heap.size+1,0,a,b,c,d⟩,⟨w.heap.size+1+1,0,0,0,0,0⟩]
  (((w.alloc (.cells #[uZ p0,uZ p1,uZ p2,uZ p3,uZ c0,uZ c1,uZ c2,uZ c3] 97)).alloc (.cells #[uZ a,uZ b,uZ c,uZ d] 63)).alloc (.cells #[uZ 0,uZ 0,uZ 0,uZ 0] 63)):=by
 have F:=((At8.made w 97 p0 p1 p2 p3 c0 c1 c2 c3 rfl).alloc (.cells #[uZ a,uZ b,uZ c,uZ d] 63)).alloc (.cells #[uZ 0,uZ 0,uZ 0,uZ 0] 63);refine((((Kept.mk1 (below3 w _ _ _) (below3 w _ _ _).size).cons ?_).cons ?_).cons ?_).cons ?_
 ·exact(At4.made _ 63 0 0 0 0 (by simp)).blk
 ·exact((At4.made _ 63 a b c d (by simp)).alloc _).blk
 ·exact⟨F.c4,F.c5,F.c6,F.c7,F.fz⟩
 ·exact⟨F.c0,F.c1,F.c2,F.c3,F.fz⟩
theorem Oc(w:World)(p0 p1 p2 p3 c0 c1 c2 c3:Nat):
 Kept w w.heap.size [⟨w.heap.size,0,p0,p1,p2,p3⟩,⟨w.heap.size,4,c0,c1,c2,c3⟩,⟨w.heap.size+1,0,0,0,0,0⟩] ((w.alloc (.cells #[uZ p0,uZ p1,uZ p2,uZ p3,uZ c0,uZ c1,uZ c2,uZ c3] 97)).alloc (.cells #[uZ 0,uZ 0,uZ 0,uZ 0] 63)):=by
 have F:=(At8.made w 97 p0 p1 p2 p3 c0 c1 c2 c3 rfl).alloc (.cells #[uZ 0,uZ 0,uZ 0,uZ 0] 63);refine(((Kept.mk1 (below2 w _ _) (below2 w _ _).size).cons ?_).cons ?_).cons ?_
 ·exact(At4.made _ 63 0 0 0 0 (by simp)).blk
 ·exact⟨F.c4,F.c5,F.c6,F.c7,F.fz⟩
 ·exact⟨F.c0,F.c1,F.c2,F.c3,F.fz⟩
theorem l9(p0 p1 p2 p3 c0 c1 c2 c3 P:Nat)(x:ByteArray)(hR:RefP p0 p1 p2 p3 c0 c1 c2 c3 P)(w:World):
 Calls prog 42 #[.agg #[uZ p0,uZ p1,uZ p2,uZ p3,uZ c0,uZ c1,uZ c2,uZ c3],.string x] w (rZ w λe w'=>∃(a b c d:Nat) (ok:Bool),e=.tuple #[.agg #[uZ a,uZ b,uZ c,uZ d],.bool ok]/\(ok=true->MQ P x.data/\Four (.agg #[uZ a,uZ b,uZ c,uZ d]) (beV x.data.toList))/\(ok=false->¬MQ P x.data)/\(x.size=32->Four (.agg #[uZ a,uZ b,uZ c,uZ d]) (beV x.data.toList))/\(¬x.size=32->a=0/\b=0/\c=0/\d=0)):=by
 have HR:=mk1 (hR);by_cases hs:x.size=32
 ·have HS:=mk1 (hs);have hs':(x.size:Int)=32:=oM;go_enter Tryz.func42,Tryz.ntmps42;go_wp2_with fail
  have KP:=Oc w p0 p1 p2 p3 c0 c1 c2 c3;refine(D5 x HS.out _).mono ?_;rintro e w1 ⟨v,rfl,hb1,hF⟩;obtain⟨a,b,c,d,rfl,ha,hb,hc,hd,es⟩:=id hF;have HF:=mk1 (hF);replace KP:=KP.call hb1;obtain⟨pc0,pc1,pc2,pc3,pf⟩:=KP.head.at4;have z0:=KP.head.lt;have n0:=TJ z0;go_wp2_with fail
  refine(Co _ _ _ _ HF.out (Four.mk HR.hp0 HR.hp1 HR.hp2 HR.hp3 HR.eP) _).mono ?_;rintro e w2 ⟨v,rfl,hb2,rfl⟩;have KP2:=((KP.alloc (.cells #[uZ a,uZ b,uZ c,uZ d] 63)).cons (At4.made w1 63 a b c d rfl).blk).call hb2;have n4:=TJ KP.tail.tail.head.lt;obtain⟨nc0,nc1,nc2,nc3,nf⟩:=KP2.head.at4;obtain⟨rc0,rc1,rc2,rc3,rf⟩:=KP2.tail.tail.tail.head.at4;have z5:=KP2.head.lt;have z1:=KP2.tail.tail.tail.head.lt;obtain⟨ok,hok⟩:∃ok,decide (beV x.data.toList<P)=ok:=⟨_,rfl⟩
  rw[hok];have HO:=mk1 (hok);go_wp2;have RF:=KP2.tail.tail.tail.head.at4.self4 a b c d;unfold set4 at RF;refine bodyPost_ret (v:=?v) ?hr rfl ?hR
  case hr=>simp[results,Tryz.results42,go_sem,RF.c0,RF.c1,RF.c2,RF.c3];rfl
  refine⟨_,rfl,aF KP2.bl (Nat.le_succ _) _ _ _ _,a,b,c,d,ok,rfl,λh=>⟨⟨HS.out,?_⟩,HF.out⟩,λh hn=>?_,λ_=>HF.out,λh=>absurd HS.out h⟩
  ·exact of_decide_eq_true (HO.trans h)
  ·have:=HO.out;rw[h]at this;exact of_decide_eq_false this hn.2
 ·have hs':¬(x.size:Int)=32:=oM;go_enter Tryz.func42,Tryz.ntmps42;go_wp2;refine bodyPost_ret (v:=?v2) ?hr2 rfl ?hR2
  case hr2=>simp[results,Tryz.results42,go_sem];rfl
  exact⟨_,rfl,below2 _ _ _,0,0,0,0,false,rfl,λh=>VO h,λ_ h=>hs h.1,λh=>absurd h hs,λ_=>⟨rfl,rfl,rfl,rfl⟩⟩
theorem kX(n:Nat)(_:n<18446744073709551616)(w:World):Calls prog 80 #[uZ n] w (rZ w λe w'=>e=.agg #[uZ n,uZ 0,uZ 0,uZ 0]):=by
 go_enter Tryz.func80,Tryz.ntmps80;go_wp2;refine bodyPost_ret (v:=?v) ?hr rfl ?hR
 case hr=>simp[results,Tryz.results80,go_sem];rfl
 exact⟨_,rfl,aB _ _,rfl⟩
theorem o9(x:Value)(m i:Nat)(hx:Four x m)(hi:i<256)(w:World):Calls prog 95 #[x,iZ i] w (rZ w λe w'=>∃t:Nat,e=uZ t/\t=m/2^i%2):=by
 obtain⟨a,b,c,d,rfl,ha,hb,hc,hd,em⟩:=id hx;have xw:=(At4.made w 63 a b c d rfl).wd (i/64) oM;have hwl:wd a b c d (i/64)<18446744073709551616:=Gl _ ha hb hc hd;have hbit:wd a b c d (i/64)/2^(i%64)%2=m/2^i%2:=by rw[em];exact BV i hi ha hb hc hd
 have i2:(i:Int).tdiv 64=((i/64:Nat):Int):=by rw[XM oM];omega
 have i3:(i:Int).tmod 64=((i%64:Nat):Int):=by rw[V5 oM];omega
 have i4:(i/64:Nat)<4:=oM;generalize wd a b c d (i/64)=v at xw hwl hbit;have hvl:v/2^(i%64)<18446744073709551616:=WY (Nat.div_le_self _ _) hwl;have hand:bits .and .u64 ((v:Int)/2^(i%64)) 1=((m/2^i%2:Nat):Int):=by
  have:=and_one (v/2^(i%64)) hvl;rw[hbit]at this;rw[<-this,VT,US];rfl
 obtain⟨t,ht⟩:∃t,m/2^i%2=t:=⟨_,rfl⟩
 rw[ht]at hand;have HT:=mk1 (ht.symm);go_enter Tryz.func95,Tryz.ntmps95
 go_upto_region 1 with fail
 have zx:w.heap.size<(w.alloc (.cells #[uZ a,uZ b,uZ c,uZ d] 63)).heap.size:=by simp
 have BL:=aB w (.cells #[uZ a,uZ b,uZ c,uZ d] 63);go_wp2;go_ret;exact⟨_,rfl,BL,t,rfl,HT.out⟩
theorem CE(a b:Nat)(ha:a<18446744073709551616)(hb:b<18446744073709551616):∃x:Nat,bits .or .u64 (a:Int) (b:Int)=(x:Int)/\(x=0↔a=0/\b=0)/\x<18446744073709551616:=
 ⟨a ||| b,bits_or_u64_nat a b ha hb,Nat.or_eq_zero_iff,Nat.or_lt_two_pow (n:=64) ha hb⟩
theorem mY(x:Value)(m:Nat)(hx:Four x m)(w:World):Calls prog 89 #[x] w (rZ w λe w'=>e=.bool (decide (m=0))):=by
 obtain⟨a,b,c,d,rfl,ha,hb,hc,hd,em⟩:=id hx;obtain⟨y,o1,z1,l1⟩:=CE a b ha hb;obtain⟨z,o2,z2,l2⟩:=CE y c l1 hc;obtain⟨t,o3,z3,l3⟩:=CE z d l2 hd;have hz:decide (m=0)=decide (t=0):=by
  rw[decide_eq_decide,z3,z2,z1,em];unfold val;omega
 rw[hz];go_enter Tryz.func89,Tryz.ntmps89;go_wp2;go_ret;exact⟨_,rfl,aB _ _,by by_cases h:t=0<;>simp[h]⟩
theorem neg_val{P m s k:Nat}(hm:m<P)(_:P<top)(h0:¬m=0)(hs:s<top)(hk:k<=1)(h:s+m=P+top*k):s=(P-m)%P:=by
 have:k=0\/k=1:=oM;rw[SA oM];rcases this with h'|h'<;>rw[h']at h<;>omega
theorem uO(p0 p1 p2 p3 c0 c1 c2 c3 P : Nat)(x : Value)(m : Nat)(hR : RefP p0 p1 p2 p3 c0 c1 c2 c3 P)(hx : Four x m)(hm : m < P)(w : World):
    Calls prog 86 #[.agg #[uZ (p0 : Int), uZ (p1 : Int), uZ (p2 : Int), uZ (p3 : Int), uZ (c0 : Int), uZ (c1 : Int), uZ (c2 : Int), uZ (c3 : Int)], x] w (rZ w λe w'=>Four e ((P - m) % P)) := by
  have HR : Hid (RefP p0 p1 p2 p3 c0 c1 c2 c3 P) := hR;have HX : Hid (Four x m) := hx;have HM : Hid (m < P) := hm;obtain⟨a, b, c, d, rfl, ha, hb, hc, hd, em⟩ := id hx;clear hR hx hm em ha hb hc hd;go_enter Tryz.func86, Tryz.ntmps86;go_wp2_with fail
  have KP := CQ w p0 p1 p2 p3 c0 c1 c2 c3 a b c d;generalize TI _ _ = W0 at KP⊢;generalize h2 : w.heap.size + 1 + 1 = k2 at KP⊢;generalize h1 : w.heap.size + 1 = k1 at KP⊢;have Q2 : Hid (w.heap.size <= k2) := by unfold Hid; omega
  generalize h0 : w.heap.size = k0 at KP Q2⊢;have H0 := mk1 (h0);refine(mY _ _ HX.out _).mono ?_;rintro e w1 ⟨v, rfl, hb1, rfl⟩;replace KP := KP.call hb1;obtain⟨xc0, xc1, xc2, xc3, xf⟩ := KP.tail.tail.head.at4;have zx := KP.tail.tail.head.lt;by_cases hz : m = 0
  · have hd := decide_eq_true hz
    rw [hd];have HZ := mk1 (hz);obtain⟨rc0, rc1, rc2, rc3, rf⟩ := KP.tail.tail.tail.head.at4;have zr := KP.tail.tail.tail.head.lt;go_wp2;have RF := KP.tail.tail.tail.head.at4.self4 a b c d;unfold set4 at RF;refine bodyPost_ret (v := ?v) ?hr rfl ?hR
    case hr => simp [results, Tryz.results86, go_sem, RF.c0, RF.c1, RF.c2, RF.c3]; rfl
    refine⟨_, rfl, by rw [H0.out]; exact aF KP.bl Q2.out _ _ _ _, ?_⟩;have h1 := HX.out;rw [HZ.out]at h1⊢;rw [VP, Nat.mod_self];exact h1
  · have hd := decide_eq_false hz
    rw [hd];have HZ := mk1 (hz);obtain⟨fc0, fc1, fc2, fc3, ff⟩ := KP.head.at4;have zf := KP.head.lt;go_wp2_with fail
    refine(mW _ _ _ _ (Four.mk HR.hp0 HR.hp1 HR.hp2 HR.hp3 HR.eP) HX.out _).mono ?_;rintro e w2 ⟨v, rfl, hb2, v2, t, k, rfl, hF, hk, he⟩;have HF : Hid (Four v2 ((P - m) % P)) := by
      have h1 := neg_val HM.out (by have h3 := HR.hP; have h4 := HR.hP2; have h5 := HM.out; have h6 : 0 < val c0 c1 c2 c3 ∨ val c0 c1 c2 c3 = 0 := oM
                                    rcases h6 with h6 | h6
                                    · omega
                                    · have h7 := Four.mk HR.hp0 HR.hp1 HR.hp2 HR.hp3 HR.eP
                                      exact h7.lt) HZ.out hF.lt hk he
      rw [<-h1]; exact hF
    obtain⟨ra, rb, rc, rd, rfl, -⟩ := id hF;replace KP := KP.call hb2;obtain⟨rc0, rc1, rc2, rc3, rf⟩ := KP.tail.tail.tail.head.at4;have zr := KP.tail.tail.tail.head.lt;go_wp2;have RF := (KP.tail.tail.tail.head.at4.self4 ra rb rc rd).alloc (.cells #[uZ (ra : Int), uZ (rb : Int), uZ (rc : Int), uZ (rd : Int)] 63);unfold set4 at RF;refine bodyPost_ret (v := ?v2) ?hr2 rfl ?hR2
    case hr2 => simp [results, Tryz.results86, go_sem, RF.c0, RF.c1, RF.c2, RF.c3]; rfl
    refine⟨_, rfl, ?_, HF.out⟩;rw [H0.out];exact(aF KP.bl Q2.out _ _ _ _).alloc (by simpa [set4]using KP.le) _
theorem uFq:(prog.underlying 97).map (·.isRow)=some true:=kR
theorem iFq:(prog.info? 97).map (·.size)=some 8:=kR
def rl1:List Value:=[uZ 13822214165235122497,uZ 13451932020343611451,uZ 18446744073709551614,uZ 18446744073709551615,uZ 4624529908474429119,uZ 4994812053365940164,uZ 1,uZ 0]
def rv1:Value:=.agg rl1.toArray
theorem Hp:Gives 81 #[iZ 1] rv1:=λw=>(NC w).mono (by rintro e w' ⟨v,rfl,hb,rfl⟩;exact⟨_,rfl,hb,rfl⟩)
theorem O4:Gives 45 #[] rv1:=by
 intro w;go_enter Tryz.func45,Tryz.ntmps45;refine RG.M.enter [] 2 kR ?_;intro a0 M0;repeat refine wp_seq ?_
 refine M0.T [.m 0] [(0,RG.z 8)] [] [RG.z 8] [0] ⟨RG.mk 0 97,trivial⟩ ?_;intro j1 a1 w1 M1;repeat refine wp_seq ?_
 refine M1.T [.c rv1,.u 0] [] [(0,1,rl1)] [rl1] [0] ⟨RG.cl Hp,RG.pt iFq,trivial⟩ ?_;intro a2 w2 M2;refine wp_ret ?_;refine bodyPost_ret (v:=rv1) (RG.aE M2.st 0 97 rfl 0 _ rfl (M2.at (s:=(.p 0 0))) uFq iFq) M2.sl.defers ?_;exact⟨_,rfl,M2.st.bel.below,rfl⟩
def nuV(bs:Bs):Nat:=if bs.size=32 then beV bs.toList else 0
theorem NA{N:Nat}(hR:RefP 13822214165235122497 13451932020343611451 18446744073709551614 18446744073709551615 4624529908474429119 4994812053365940164 1 0 N)(s:ByteArray):Gives 42 #[rv1,.string s] (.tuple #[nv (nuV s.data),.bool (rq N s.data).isSome]):=λw =>
 (l9 _ _ _ _ _ _ _ _ N s hR w).mono (by
  rintro e w' ⟨v,rfl,hb,a,b,c,d,ok,rfl,h1,h2,h3,h4⟩;refine⟨_,rfl,hb,?_⟩;unfold nuV rq;cases ok with
  | true =>
   obtain⟨hi,hF⟩:=h1 rfl;rw[if_pos (show s.data.size=32/\beV s.data.toList<N from hi),if_pos (show s.data.size=32 from hi.1),hF.nv];rfl
  | false =>
   rw[if_neg (show ¬(s.data.size=32/\beV s.data.toList<N) from h2 rfl)];by_cases hs:s.data.size=32
   ·rw[if_pos hs,(h3 hs).nv];rfl
   ·rw[if_neg hs];obtain⟨rfl,rfl,rfl,rfl⟩:=h4 hs;rfl)
theorem Pv{N:Nat}{bs:Bs}{n:Nat}(h:rq N bs=some n):n=nuV bs:=by
 unfold rq at h;split at h
 ·rename_i hc
  unfold nuV;rw[if_pos hc.1];exact(Option.some.inj h).symm
 ·cases h
theorem Ht{p0 p1 p2 p3 c0 c1 c2 c3 P:Nat}{x y:Value}{m n:Nat}(hR:RefP p0 p1 p2 p3 c0 c1 c2 c3 P)(hx:Four x m)(hy:Four y n)(w:World):
 Calls prog 85 #[.agg #[uZ p0,uZ p1,uZ p2,uZ p3,uZ c0,uZ c1,uZ c2,uZ c3],x,y] w (rZ w λe w'=>Four e ((m+n)%P)):=
 Hr p0 p1 p2 p3 c0 c1 c2 c3 P x y m n hR.hp0 hR.hp1 hR.hp2 hR.hp3 hR.hc0 hR.hc1 hR.hc2 hR.hc3 hR.eP hR.hP hR.hP2 hx hy w
theorem rA{p0 p1 p2 p3 c0 c1 c2 c3 P:Nat}{x y:Value}{m n:Nat}(hR:RefP p0 p1 p2 p3 c0 c1 c2 c3 P)(hx:Four x m)(hy:Four y n)(w:World):
 Calls prog 52 #[.agg #[uZ p0,uZ p1,uZ p2,uZ p3,uZ c0,uZ c1,uZ c2,uZ c3],x,y] w (rZ w λe w'=>Four e (m*n%P)):=
 Hk p0 p1 p2 p3 c0 c1 c2 c3 P x y m n hR.hp0 hR.hp1 hR.hp2 hR.hp3 hR.hc0 hR.hc1 hR.hc2 hR.hc3 hR.eP hR.hP hR.hP2 hx hy w
theorem JW{P m n:Nat}(hn:n<P):(m+(P-n)%P)%P=(m+P-n)%P:=by
 rw[VI,Nat.mod_mod,<-VI,show m+P-n=m+(P-n) by omega]
theorem Hg(p0 p1 p2 p3 c0 c1 c2 c3 P:Nat)(x y:Value)(m n:Nat)(hR:RefP p0 p1 p2 p3 c0 c1 c2 c3 P)(hx:Four x m)(hy:Four y n)(hn:n<P)(w:World):
 Calls prog 94 #[.agg #[uZ p0,uZ p1,uZ p2,uZ p3,uZ c0,uZ c1,uZ c2,uZ c3],x,y] w (rZ w λe w'=>Four e ((m+P-n)%P)):=by
 obtain⟨a,b,c,d,rfl,ha,hb,hc,hd,em⟩:=id hx;obtain⟨p,q,r,s,rfl,hp,hq,hr,hs,en⟩:=id hy;have HX:Hid (Four _ _):=hx;have HY:Hid (Four _ _):=hy;have HR:Hid (RefP p0 p1 p2 p3 c0 c1 c2 c3 P):=hR;have HN:Hid (n<P):=hn;clear em en hx hy ha hb hc hd hp hq hr hs hR hn;go_enter Tryz.func94,Tryz.ntmps94;go_wp2_with fail
 have FR:=((((At8.made w 97 p0 p1 p2 p3 c0 c1 c2 c3 rfl).alloc (.cells #[uZ a,uZ b,uZ c,uZ d] 63)).alloc (.cells #[uZ p,uZ q,uZ r,uZ s] 63)).alloc (.cells #[uZ 0,uZ 0,uZ 0,uZ 0] 63))
 have X:=(((At4.made (w.alloc (.cells #[uZ p0,uZ p1,uZ p2,uZ p3,uZ c0,uZ c1,uZ c2,uZ c3] 97)) 63 a b c d (Sq _ _)).alloc (.cells #[uZ p,uZ q,uZ r,uZ s] 63)).alloc (.cells #[uZ 0,uZ 0,uZ 0,uZ 0] 63))
 have Y:=((At4.made ((w.alloc (.cells #[uZ p0,uZ p1,uZ p2,uZ p3,uZ c0,uZ c1,uZ c2,uZ c3] 97)).alloc (.cells #[uZ a,uZ b,uZ c,uZ d] 63)) 63 p q r s (k:=w.heap.size+1+1) (by simp)).alloc (.cells #[uZ 0,uZ 0,uZ 0,uZ 0] 63))
 have T3:=At4.made (((w.alloc (.cells #[uZ p0,uZ p1,uZ p2,uZ p3,uZ c0,uZ c1,uZ c2,uZ c3] 97)).alloc (.cells #[uZ a,uZ b,uZ c,uZ d] 63)).alloc (.cells #[uZ p,uZ q,uZ r,uZ s] 63)) 63 0 0 0 0 (k:=w.heap.size+1+1+1) (by simp);have KP:=((((Kept.mk1 (gK w (.cells #[uZ p0,uZ p1,uZ p2,uZ p3,uZ c0,uZ c1,uZ c2,uZ c3] 97) (.cells #[uZ a,uZ b,uZ c,uZ d] 63) (.cells #[uZ p,uZ q,uZ r,uZ s] 63) (.cells #[uZ 0,uZ 0,uZ 0,uZ 0] 63)) (gK w (.cells #[uZ p0,uZ p1,uZ p2,uZ p3,uZ c0,uZ c1,uZ c2,uZ c3] 97) (.cells #[uZ a,uZ b,uZ c,uZ d] 63) (.cells #[uZ p,uZ q,uZ r,uZ s] 63) (.cells #[uZ 0,uZ 0,uZ 0,uZ 0] 63)).size).cons Y.blk).cons X.blk).cons (x:=⟨w.heap.size,4,c0,c1,c2,c3⟩) ⟨FR.c4,FR.c5,FR.c6,FR.c7,FR.fz⟩).cons (x:=⟨w.heap.size,0,p0,p1,p2,p3⟩) ⟨FR.c0,FR.c1,FR.c2,FR.c3,FR.fz⟩;simp only[Te]at T3;clear FR X Y;generalize TI _ _=W0 at KP T3⊢;generalize h3:w.heap.size+1+1+1=k3 at T3⊢;generalize h2:w.heap.size+1+1=k2 at KP⊢;generalize h1:w.heap.size+1=k1 at KP⊢;have Q3:Hid (w.heap.size<=k3):=by unfold Hid;omega
 generalize h0:w.heap.size=k0 at KP Q3⊢;have H0:=mk1 (h0);have hl3:∀x∈([⟨k0,0,p0,p1,p2,p3⟩,⟨k0,4,c0,c1,c2,c3⟩,⟨k1,0,a,b,c,d⟩,⟨k2,0,p,q,r,s⟩]:List Blk),k3≠x.k:=by simp only[TP,SL,or_false];rintro x (rfl|rfl|rfl|rfl)<;>simp only<;>omega
 obtain⟨tc0,tc1,tc2,tc3,tf⟩:=id T3;have zt:=T3.lt;go_region_held3 (λw'=>w'.cell? ⟨k0,0,none⟩=some (uZ p0)/\w'.cell? ⟨k0,1,none⟩=some (uZ p1)/\w'.cell? ⟨k0,2,none⟩=some (uZ p2)/\w'.cell? ⟨k0,3,none⟩=some (uZ p3)/\w'.cell? ⟨k0,4,none⟩=some (uZ c0)/\w'.cell? ⟨k0,5,none⟩=some (uZ c1)/\w'.cell? ⟨k0,6,none⟩=some (uZ c2)/\w'.cell? ⟨k0,7,none⟩=some (uZ c3)/\w'.cell? ⟨k1,0,none⟩=some (uZ a)/\w'.cell? ⟨k1,1,none⟩=some (uZ b)/\w'.cell? ⟨k1,2,none⟩=some (uZ c)/\w'.cell? ⟨k1,3,none⟩=some (uZ d)/\w'.cell? ⟨k2,0,none⟩=some (uZ p)/\w'.cell? ⟨k2,1,none⟩=some (uZ q)/\w'.cell? ⟨k2,2,none⟩=some (uZ r)/\w'.cell? ⟨k2,3,none⟩=some (uZ s)/\Kept w k0 [⟨k0,0,p0,p1,p2,p3⟩,⟨k0,4,c0,c1,c2,c3⟩,⟨k1,0,a,b,c,d⟩,⟨k2,0,p,q,r,s⟩] w') (first|(with_reducible exact eU KP)|(with_reducible exact eU KP.drew)|(with_reducible exact eU (KP.set4' Q3.out hl3 _ _ _ _))|(with_reducible exact eU (KP.set4' Q3.out hl3 _ _ _ _).drew)|fail) (first|(go_at_call 86;refine(uO p0 p1 p2 p3 c0 c1 c2 c3 P _ _ HR.out HY.out HN.out _).mono ?_;rintro e w1 ⟨v,rfl,hb1,hE1⟩;obtain⟨x0,x1,x2,x3,rfl,-⟩:=id hE1;have HE1:Hid (Four _ _):=hE1;clear hE1;have KP1:=KP.drew.call hb1;have T1:=T3.drew.call hb1;clear KP T3 hb1;have KP:=KP1;have T3:=T1;clear KP1 T1;obtain⟨tc0,tc1,tc2,tc3,tf⟩:=id T3;have zt:=T3.lt)|(go_at_call 85;refine(Ht HR.out HX.out HE1.out _).mono ?_;rintro e w2 ⟨v,rfl,hb2,hF3⟩;rw[JW HN.out]at hF3;obtain⟨a',b',c',d',rfl,ha',hb',hc',hd',es3⟩:=id hF3;clear es3;have HF3:Hid (Four _ _):=hF3;clear hF3;have KP1:=KP.call hb2;have T1:=T3.call hb2;clear KP T3 hb2;have KP:=KP1;have T3:=T1;clear KP1 T1;obtain⟨tc0,tc1,tc2,tc3,tf⟩:=id T3;have zt:=T3.lt))
 go_wp2;have RF:=T3.self4 a' b' c' d';unfold set4 at RF;refine bodyPost_ret (v:=?v) ?hr rfl ?hR
 case hr=>simp[results,Tryz.results94,go_sem,RF.c0,RF.c1,RF.c2,RF.c3];rfl
 refine⟨_,rfl,?_,HF3.out⟩;rw[H0.out];exact aF KP.bl Q3.out _ _ _ _
theorem AV(p0 p1 p2 p3 c0 c1 c2 c3 P:Nat)(x y:Value)(m n:Nat)(hR:RefP p0 p1 p2 p3 c0 c1 c2 c3 P)(hx:Four x m)(hy:Four y n)(w:World):
 Calls prog 91 #[.agg #[uZ p0,uZ p1,uZ p2,uZ p3,uZ c0,uZ c1,uZ c2,uZ c3],x,y] w (rZ w λe w'=>Four e (m^n%P)):=by
 obtain⟨a,b,c,d,rfl,ha,hb,hc,hd,em⟩:=id hx;obtain⟨p,q,r,s,rfl,hp,hq,hr,hs,en⟩:=id hy;have HX:Hid (Four _ _):=hx;have HY:Hid (Four _ _):=hy;have HR:Hid (RefP p0 p1 p2 p3 c0 c1 c2 c3 P):=hR;clear em en hx hy ha hb hc hd hp hq hr hs hR;go_enter Tryz.func91,Tryz.ntmps91;go_wp2_with fail
 have KP:=Ob w p0 p1 p2 p3 c0 c1 c2 c3 a b c d p q r s;generalize TI _ _=W0 at KP⊢;generalize h3:w.heap.size+1+1+1=k3 at KP⊢;generalize h2:w.heap.size+1+1=k2 at KP⊢;generalize h1:w.heap.size+1=k1 at KP⊢;have Q3:Hid (w.heap.size<=k3):=by unfold Hid;omega
 generalize h0:w.heap.size=k0 at KP Q3⊢;have H0:Hid (w.heap.size=k0):=h0;clear h0 h1 h2 h3;refine(kX 1 dC _).mono ?_;rintro e w1 ⟨v,rfl,hb1,rfl⟩;replace KP:=KP.call hb1;go_wp2;have KN:=(KP.alloc (.cells #[uZ 1,uZ 0,uZ 0,uZ 0] 63)).cons (At4.made w1 63 1 0 0 0 rfl).blk;have Q7:=mk1 (KP.le);have hlt:=KP.lts;generalize w1.heap.size=k7 at KN hlt Q7⊢;have hl7:∀x∈([⟨k0,0,p0,p1,p2,p3⟩,⟨k0,4,c0,c1,c2,c3⟩,⟨k1,0,a,b,c,d⟩,⟨k2,0,p,q,r,s⟩,⟨k3,0,0,0,0,0⟩]:List Blk),k7≠x.k:=λx hx=>TC (hlt x hx)
 have n72:=hl7 ⟨k2,0,p,q,r,s⟩ (by simp);go_loopg [8] 256 (λgk s8 wr=>gk<=256/\s8=iZ ((gk:Int)-1)/\∃na nb nc nd:Nat,Kept w k0 (⟨k7,0,na,nb,nc,nd⟩ :: [⟨k0,0,p0,p1,p2,p3⟩,⟨k0,4,c0,c1,c2,c3⟩,⟨k1,0,a,b,c,d⟩,⟨k2,0,p,q,r,s⟩,⟨k3,0,0,0,0,0⟩]) wr/\Hid (Four (.agg #[uZ na,uZ nb,uZ nc,uZ nd]) (m^(n/2^gk)%P)))
 case atStart =>
  refine⟨Se _,rfl,1,0,0,0,KN,?_⟩;have h1:=HR.hP2;have h2:3<top:=dC;rw[show n/2^256=0 from VB HY.lt,UV,SA oM];exact Four.mk dC dC dC dC rfl
 case round =>
  obtain⟨hg,rfl,na,nb,nc,nd,KP,HF⟩:=hrel;obtain⟨tc0,tc1,tc2,tc3,tf⟩:=KP.head.at4;have zt:=KP.head.lt;by_cases hz:gk=0
  ·subst hz;have HF0:=HF.out;rw[UV,Nat.div_one]at HF0;have HFE:=mk1 (HF0);obtain⟨rc0,rc1,rc2,rc3,rf⟩:=KP.tail.tail.tail.tail.tail.head.at4;have zr:=KP.tail.tail.tail.tail.tail.head.lt;go_wp2;have RF:=KP.tail.tail.tail.tail.tail.head.at4.self4 na nb nc nd;unfold set4 at RF;refine bodyPost_ret (v:=?v) ?hr rfl ?hR
   case hr=>simp[results,Tryz.results91,go_sem,RF.c0,RF.c1,RF.c2,RF.c3];rfl
   refine⟨_,rfl,?_,HFE.out⟩;rw[H0.out];exact aF KP.bl Q3.out _ _ _ _
  ·obtain⟨i,hi⟩:∃i,gk=i+1:=⟨gk-1,oM⟩
   have e1:(gk:Int)-1=(i:Int):=oM;rw[e1];have hi2:i<256:=oM;obtain⟨E,hE⟩:∃E,n/2^gk=E:=⟨_,rfl⟩
   rw[hE]at HF;rw[hi]at hE;have HE:=mk1 (hE);have HI:=mk1 (hi);obtain⟨fc0,fc1,fc2,fc3,ff⟩:=KP.tail.head.at4;have fb:=KP.tail.tail.head;obtain⟨fd0,fd1,fd2,fd3,fg⟩:=id fb;replace fd0:wr.cell? ⟨k0,4,none⟩=some (uZ c0):=fd0;replace fd1:wr.cell? ⟨k0,5,none⟩=some (uZ c1):=fd1;replace fd2:wr.cell? ⟨k0,6,none⟩=some (uZ c2):=fd2;replace fd3:wr.cell? ⟨k0,7,none⟩=some (uZ c3):=fd3;have zf:=KP.tail.head.lt;go_wp2_with fail
   refine(rA HR.out HF.out HF.out _).mono ?_;rintro e w2 ⟨v,rfl,hb2,hF3⟩;rw[iD]at hF3;obtain⟨ya,yb,yc,yd,rfl,-⟩:=id hF3;have HF:=mk1 (hF3);replace KP:=KP.call hb2;obtain⟨tc0,tc1,tc2,tc3,tf⟩:=KP.head.at4;have zt:=KP.head.lt;obtain⟨ec0,ec1,ec2,ec3,ef⟩:=KP.tail.tail.tail.tail.head.at4;have ze:=KP.tail.tail.tail.tail.head.lt;go_wp2_with fail
   have KP2:=KP.put Q7.out hl7 ya yb yc yd;refine(o9 _ _ i HY.out hi2 _).mono ?_;rintro e w3 ⟨v,rfl,hb3,t,rfl,ht⟩;have KP:=KP2.call hb3;have HT:=mk1 (ht);have ht2:t=0\/t=1:=oM;clear hb3 KP2 ht;rcases ht2 with rfl|rfl
   ·go_wp2;go_roundg (gk-1)
    case measure=>omega
    case rel =>
     refine⟨oM,?_,ya,yb,yc,yd,KP,?_⟩
     ·have:=HI.out
      congr 1
      omega
     ·have h1:=HF.out;unfold Hid;rw[HI.out,V4,zX n i,HE.out,<-HT.out,Ur];exact h1
   ·obtain⟨tc0,tc1,tc2,tc3,tf⟩:=KP.head.at4;have zt:=KP.head.lt;obtain⟨ac0,ac1,ac2,ac3,af⟩:=KP.tail.tail.tail.head.at4;have za:=KP.tail.tail.tail.head.lt;obtain⟨fc0,fc1,fc2,fc3,ff⟩:=KP.tail.head.at4;have fb:=KP.tail.tail.head;obtain⟨fd0,fd1,fd2,fd3,fg⟩:=id fb;replace fd0:w3.cell? ⟨k0,4,none⟩=some (uZ c0):=fd0;replace fd1:w3.cell? ⟨k0,5,none⟩=some (uZ c1):=fd1;replace fd2:w3.cell? ⟨k0,6,none⟩=some (uZ c2):=fd2;replace fd3:w3.cell? ⟨k0,7,none⟩=some (uZ c3):=fd3;have zf:=KP.tail.head.lt;go_wp2_with fail
    refine(rA HR.out HF.out HX.out _).mono ?_;rintro e w4 ⟨v,rfl,hb4,hF3⟩;rw[pD]at hF3;obtain⟨ua,ub,uc,ud,rfl,-⟩:=id hF3;have HF:=mk1 (hF3);replace KP:=KP.call hb4;obtain⟨tc0,tc1,tc2,tc3,tf⟩:=KP.head.at4;have zt:=KP.head.lt;go_wp2;go_roundg (gk-1)
    case measure=>omega
    case rel =>
     refine⟨oM,?_,ua,ub,uc,ud,KP.put Q7.out hl7 ua ub uc ud,?_⟩
     ·have:=HI.out
      congr 1
      omega
     ·have h1:=HF.out;unfold Hid;rw[HI.out,V4,zX n i,HE.out,<-HT.out];exact h1
theorem Hq(p0 p1 p2 p3 c0 c1 c2 c3 P:Nat)(x:Value)(m:Nat)(hR:RefP p0 p1 p2 p3 c0 c1 c2 c3 P)(hx:Four x m)(w:World):
 Calls prog 49 #[.agg #[uZ p0,uZ p1,uZ p2,uZ p3,uZ c0,uZ c1,uZ c2,uZ c3],x] w (rZ w λe w'=>Four e (m^(P-2)%P)):=by
 have HR:Hid (RefP p0 p1 p2 p3 c0 c1 c2 c3 P):=hR;have HX:Hid (Four x m):=hx;obtain⟨a,b,c,d,rfl,ha,hb,hc,hd,em⟩:=id hx;clear hR hx em ha hb hc hd;go_enter Tryz.func49,Tryz.ntmps49;go_wp2_with fail
 have KP:=CQ w p0 p1 p2 p3 c0 c1 c2 c3 a b c d;generalize TI _ _=W0 at KP⊢;generalize h2:w.heap.size+1+1=k2 at KP⊢;generalize h1:w.heap.size+1=k1 at KP⊢;have Q2:Hid (w.heap.size<=k2):=by unfold Hid;omega
 generalize h0:w.heap.size=k0 at KP Q2⊢;have H0:=mk1 (h0);have hP4:=Four.mk HR.hp0 HR.hp1 HR.hp2 HR.hp3 HR.eP;refine(mW _ _ P 2 hP4 (Four.mk (a:=2) (b:=0) (c:=0) (d:=0) dC dC dC dC rfl) _).mono ?_;rintro e w1 ⟨v,rfl,hb1,v2,t,k,rfl,hF,hk,he⟩;have ht:t=P-2:=by
  have h1:=hF.lt;have h2:=hP4.lt;have h3:=HR.hP2;have:k=0\/k=1:=oM;rcases this with h|h<;>rw[h]at he<;>omega
 have HE:Hid (Four v2 (P-2)):=by unfold Hid;rw[<-ht];exact hF
 obtain⟨ea,eb,ec,ed,rfl,-⟩:=id hF;replace KP:=KP.call hb1;obtain⟨xc0,xc1,xc2,xc3,xf⟩:=KP.tail.tail.head.at4;have zx:=KP.tail.tail.head.lt;obtain⟨fc0,fc1,fc2,fc3,ff⟩:=KP.head.at4;have fb:=KP.tail.head;obtain⟨fd0,fd1,fd2,fd3,fg⟩:=id fb;replace fd0:w1.cell? ⟨k0,4,none⟩=some (uZ c0):=fd0;replace fd1:w1.cell? ⟨k0,5,none⟩=some (uZ c1):=fd1;replace fd2:w1.cell? ⟨k0,6,none⟩=some (uZ c2):=fd2;replace fd3:w1.cell? ⟨k0,7,none⟩=some (uZ c3):=fd3;have zf:=KP.head.lt;have n0:=TJ zf;have n1:=TJ zx;go_wp2_with fail
 refine(AV p0 p1 p2 p3 c0 c1 c2 c3 P _ _ _ _ HR.out HX.out HE.out _).mono ?_;rintro e w2 ⟨v,rfl,hb2,hF⟩;replace KP:=(KP.alloc _).call hb2;obtain⟨qa,qb,qc,qd,rfl,-⟩:=id hF;have HF:=mk1 (hF);obtain⟨rc0,rc1,rc2,rc3,rf⟩:=KP.tail.tail.tail.head.at4;have zr:=KP.tail.tail.tail.head.lt;go_wp2;have RF:=KP.tail.tail.tail.head.at4.self4 qa qb qc qd;unfold set4 at RF;refine bodyPost_ret (v:=?v) ?hr rfl ?hR
 case hr=>simp[results,Tryz.results49,go_sem,RF.c0,RF.c1,RF.c2,RF.c3];rfl
 refine⟨_,rfl,?_,HF.out⟩;rw[H0.out];exact aF KP.bl Q2.out _ _ _ _
theorem KQ(v t r:Nat)(hr:r<64)(hv:v<2^r)(ht:t<2):bits .or .u64 (v:Int) ((t*2^r:Nat):Int)=((v+t*2^r:Nat):Int)/\v+t*2^r<18446744073709551616:=by
 have h1:2^r<=2^63:=TT dC oM;have h2:t*2^r<=1*2^r:=Nat.mul_le_mul_right _ oM;have h3:(2:Nat)^63=9223372036854775808:=dC;have e:=Nat.two_pow_add_eq_or_of_lt hv t;refine⟨?_,oM⟩;rw[bits_or_u64_nat _ _ oM oM,Nat.or_comm,S9 t,<-e,Nat.add_comm]
theorem Cq{a b c d Q i:Nat}(ha:a<18446744073709551616)(hb:b<18446744073709551616)(hc:c<18446744073709551616)(hd:d<18446744073709551616)(hi:i<256)(hv:val a b c d=Q%2^i):wd a b c d (i/64)<2^(i%64):=by
 rw[Gm (i/64) oM ha hb hc hd,hv];refine WY (Nat.mod_le _ _) ?_;refine Nat.div_lt_of_lt_mul ?_;rw[<-Uz,show 64*(i/64)+i%64=i by omega];exact Ug _ (Va dC)
theorem Cr{a b c d Q i t o:Nat}(hi:i<256)(hv:val a b c d=Q%2^i)(ht:t=Q/2^i%2)(ho:o=wd a b c d (i/64)+t*2^(i%64)):
 val (if i/64=0 then o else a) (if i/64=1 then o else b) (if i/64=2 then o else c) (if i/64=3 then o else d)=Q%2^(i+1):=by
 have h:=DD a b c d (i/64) o oM;have e:(2:Nat)^i=2^(64*(i/64))*2^(i%64):=by
  rw[<-Uz,show 64*(i/64)+i%64=i by omega]
 rw[ho,U4,<-Uy,S9 (2^(64*(i/64))) t,Uy,<-e]at h;rw[ho,T8,Nat.mod_mul,<-ht,S9 (2^i)];omega
theorem uC{w W:World}{k0 k1 k2 k3 j v p0 p1 p2 p3 c0 c1 c2 c3 a b c d qa qb qc qd:Nat}(h:Kept w k0 (⟨k3,0,qa,qb,qc,qd⟩ :: [⟨k0,0,p0,p1,p2,p3⟩,⟨k0,4,c0,c1,c2,c3⟩,⟨k1,0,a,b,c,d⟩,⟨k2,0,0,0,0,0⟩]) W)(hx:W.cell? ⟨k3,j,none⟩=some (uZ v)):W.cell? ⟨k0,0,none⟩=some (uZ p0)/\W.cell? ⟨k0,1,none⟩=some (uZ p1)/\W.cell? ⟨k0,2,none⟩=some (uZ p2)/\W.cell? ⟨k0,3,none⟩=some (uZ p3)/\W.cell? ⟨k3,j,none⟩=some (uZ v)/\Kept w k0 (⟨k3,0,qa,qb,qc,qd⟩ :: [⟨k0,0,p0,p1,p2,p3⟩,⟨k0,4,c0,c1,c2,c3⟩,⟨k1,0,a,b,c,d⟩,⟨k2,0,0,0,0,0⟩]) W:=
 ⟨h.tail.head.c0,h.tail.head.c1,h.tail.head.c2,h.tail.head.c3,hx,h⟩
theorem tJ{w W:World}{k0 k1 k2 k8 p0 p1 p2 p3 c0 c1 c2 c3 a b c d ra rb rc rd:Nat}(h:Kept w k0 (⟨k8,0,ra,rb,rc,rd⟩ :: [⟨k0,0,p0,p1,p2,p3⟩,⟨k0,4,c0,c1,c2,c3⟩,⟨k1,0,a,b,c,d⟩,⟨k2,0,0,0,0,0⟩]) W):W.cell? ⟨k0,0,none⟩=some (uZ p0)/\W.cell? ⟨k0,1,none⟩=some (uZ p1)/\W.cell? ⟨k0,2,none⟩=some (uZ p2)/\W.cell? ⟨k0,3,none⟩=some (uZ p3)/\W.cell? ⟨k0,4,none⟩=some (uZ c0)/\W.cell? ⟨k0,5,none⟩=some (uZ c1)/\W.cell? ⟨k0,6,none⟩=some (uZ c2)/\W.cell? ⟨k0,7,none⟩=some (uZ c3)/\W.cell? ⟨k8,0,none⟩=some (uZ ra)/\W.cell? ⟨k8,1,none⟩=some (uZ rb)/\W.cell? ⟨k8,2,none⟩=some (uZ rc)/\W.cell? ⟨k8,3,none⟩=some (uZ rd)/\W.cell? ⟨k1,0,none⟩=some (uZ a)/\W.cell? ⟨k1,1,none⟩=some (uZ b)/\W.cell? ⟨k1,2,none⟩=some (uZ c)/\W.cell? ⟨k1,3,none⟩=some (uZ d)/\Kept w k0 (⟨k8,0,ra,rb,rc,rd⟩ :: [⟨k0,0,p0,p1,p2,p3⟩,⟨k0,4,c0,c1,c2,c3⟩,⟨k1,0,a,b,c,d⟩,⟨k2,0,0,0,0,0⟩]) W:=
 ⟨h.tail.head.c0,h.tail.head.c1,h.tail.head.c2,h.tail.head.c3,h.tail.tail.head.c0,h.tail.tail.head.c1,h.tail.tail.head.c2,h.tail.tail.head.c3,h.head.c0,h.head.c1,h.head.c2,h.head.c3,h.tail.tail.tail.head.c0,h.tail.tail.tail.head.c1,h.tail.tail.tail.head.c2,h.tail.tail.tail.head.c3,h⟩
theorem xT(p0 p1 p2 p3 c0 c1 c2 c3 P:Nat)(x:Value)(m:Nat)(hR:RefP p0 p1 p2 p3 c0 c1 c2 c3 P)(hP1:P/4%18446744073709551616<18446744073709551615)(hx:Four x m)(w:World):
 Calls prog 84 #[.agg #[uZ p0,uZ p1,uZ p2,uZ p3,uZ c0,uZ c1,uZ c2,uZ c3],x] w (rZ w λe w'=>RootR P m (m^(P/4+1)%P) e):=by
 obtain⟨a,b,c,d,rfl,ha,hb,hc,hd,em⟩:=id hx;have HX:Hid (Four _ m):=hx;have HR:Hid (RefP p0 p1 p2 p3 c0 c1 c2 c3 P):=hR;have HP1:Hid (P/4%18446744073709551616<18446744073709551615):=hP1;have HP4:Hid (Four (.agg #[uZ p0,uZ p1,uZ p2,uZ p3]) P):=Four.mk hR.hp0 hR.hp1 hR.hp2 hR.hp3 hR.eP;obtain⟨R,hRe⟩:∃R,m^(P/4+1)%P=R:=⟨_,rfl⟩
 have hRP:R<P:=by
  rw[<-hRe];refine Ug _ ?_;have:=hR.hP2;omega
 rw[hRe];have HRE:Hid (m^(P/4+1)%P=R):=hRe;have HRP:Hid (R<P):=hRP;clear em hx ha hb hc hd hR hRe hRP hP1;go_enter Tryz.func84,Tryz.ntmps84;go_wp2;have K0:=CQ w p0 p1 p2 p3 c0 c1 c2 c3 a b c d;have K1:=(K0.alloc (.cells #[uZ 0,uZ 0,uZ 0,uZ 0] 63)).cons (At4.made _ 63 0 0 0 0 rfl).blk;have hz:(((w.alloc (.cells #[uZ p0,uZ p1,uZ p2,uZ p3,uZ c0,uZ c1,uZ c2,uZ c3] 97)).alloc (.cells #[uZ a,uZ b,uZ c,uZ d] 63)).alloc (.cells #[uZ 0,uZ 0,uZ 0,uZ 0] 63)).heap.size=w.heap.size+1+1+1:=by simp
 rw[hz]at K1;clear K0 hz;generalize TI _ _=W0 at K1⊢;generalize h3:w.heap.size+1+1+1=k3 at K1⊢;generalize h2:w.heap.size+1+1=k2 at K1⊢;generalize h1:w.heap.size+1=k1 at K1⊢;have Q2:Hid (w.heap.size<=k2):=by unfold Hid;omega
 have Q3:Hid (w.heap.size<=k3):=by unfold Hid;omega
 generalize h0:w.heap.size=k0 at K1 Q2 Q3⊢;have H0:Hid (w.heap.size=k0):=h0;have n30:k3≠k0:=oM;have n31:k3≠k1:=oM;have n32:k3≠k2:=oM;clear h0 h1 h2 h3;have hl3:∀x∈([⟨k0,0,p0,p1,p2,p3⟩,⟨k0,4,c0,c1,c2,c3⟩,⟨k1,0,a,b,c,d⟩,⟨k2,0,0,0,0,0⟩]:List Blk),k3≠x.k:=by simp only[TP,SL,or_false];rintro x (rfl|rfl|rfl|rfl);exact n30;exact n30;exact n31;exact n32
 go_loopg [7] 254 (λgk s7 wr=>∃i qa qb qc qd:Nat,i+gk=254/\s7=iZ i/\Kept w k0 (⟨k3,0,qa,qb,qc,qd⟩ :: [⟨k0,0,p0,p1,p2,p3⟩,⟨k0,4,c0,c1,c2,c3⟩,⟨k1,0,a,b,c,d⟩,⟨k2,0,0,0,0,0⟩]) wr/\Hid (Four (.agg #[uZ qa,uZ qb,uZ qc,uZ qd]) (P/4%2^i)))
 case atStart =>
  refine⟨0,0,0,0,0,rfl,rfl,K1,?_⟩;rw[UV,YR];exact Four.mk dC dC dC dC rfl
 case round =>
  clear K1;obtain⟨i,qa,qb,qc,qd,hi,rfl,KP,HF⟩:=hrel;by_cases hlt:i<254
  ·have hF:val qa qb qc qd=P/4%2^i/\qa<18446744073709551616/\qb<18446744073709551616/\qc<18446744073709551616/\qd<18446744073709551616:=by
    obtain⟨a',b',c',d',e',h1,h2,h3,h4,h5⟩:=HF.out;obtain⟨rfl,rfl,rfl,rfl⟩:a'=qa/\b'=qb/\c'=qc/\d'=qd:=by
     simp only[SX.injEq,WM.injEq,Vy.injEq,TW.injEq,true_and,and_true,VK]at e';exact⟨e'.1.symm,e'.2.1.symm,e'.2.2.1.symm,e'.2.2.2.symm⟩
    exact⟨h5.symm,h1,h2,h3,h4⟩
   have hwl:=Cq hF.2.1 hF.2.2.1 hF.2.2.2.1 hF.2.2.2.2 (i:=i) oM hF.1;have xw:=KP.head.at4.wd (i/64) oM;obtain⟨t,ht⟩:∃t,P/2^(i+2)%2=t:=⟨_,rfl⟩
   have ht2:t<2:=oM;have htq:t=P/4/2^i%2:=by rw[<-ht,Nat.div_div_eq_div_mul,show 4*2^i=2^(i+2) by rw[Uz,S9]]
   obtain⟨o,ho⟩:∃o,wd qa qb qc qd (i/64)+t*2^(i%64)=o:=⟨_,rfl⟩
   have hst:=Cr (i:=i) oM hF.1 htq ho.symm;obtain⟨hor,hol⟩:=KQ _ t (i%64) oM hwl ht2;rw[ho]at hor hol;have HST:Hid (Four (.agg #[uZ ((if i/64=0 then o else qa:Nat):Int),uZ ((if i/64=1 then o else qb:Nat):Int),uZ ((if i/64=2 then o else qc:Nat):Int),uZ ((if i/64=3 then o else qd:Nat):Int)]) (P/4%2^(i+1))):=by
    refine Four.mk ?_ ?_ ?_ ?_ hst.symm
    ·split;exact hol;exact hF.2.1
    ·split;exact hol;exact hF.2.2.1
    ·split;exact hol;exact hF.2.2.2.1
    ·split;exact hol;exact hF.2.2.2.2
   obtain⟨y,hy⟩:∃y,t*2^(i%64)=y:=⟨_,rfl⟩
   have hyl:y<18446744073709551616:=oM;rw[hy]at hor;obtain⟨v,hv⟩:∃v,wd qa qb qc qd (i/64)=v:=⟨_,rfl⟩
   rw[hv]at hor xw;obtain⟨j,hj⟩:∃j,i/64=j:=⟨_,rfl⟩
   obtain⟨r,hr⟩:∃r,i%64=r:=⟨_,rfl⟩
   obtain⟨i2,hi2⟩:∃i2,i+2=i2:=⟨_,rfl⟩
   rw[hj]at xw HST;have hsh:Ta.wrap ((t:Int)*2^r)=(y:Int):=by
    rw[<-hr,<-hy,Uh,US];have:=wrapN (t*2^(i%64)) oM;rw[Uh,US]at this;exact this
   have HBT:Hid (∀w,Calls prog 95 #[.agg #[uZ p0,uZ p1,uZ p2,uZ p3],iZ i2] w (rZ w λe w'=>∃t:Nat,e=uZ t/\t=P/2^i2%2)):=λw=>o9 _ P i2 HP4.out oM w
   have HT:Hid (P/2^i2%2=t):=by unfold Hid;rw[<-hi2];exact ht
   have e1:(i:Int).tdiv 64=(j:Int):=by rw[XM oM];omega
   have e2:(i:Int).tmod 64=(r:Int):=by rw[V5 oM];omega
   have e3:(j:Int)<4:=oM;have e4:TA.wrap (j:Int)=(j:Int):=qS _ oM;have e6:(i:Int)+2=(i2:Int):=oM;have e7:TA.wrap (i2:Int)=(i2:Int):=qS _ oM;have e9:r<64:=oM;have hlt':(i:Int)<254:=oM;have T1:=λW (h:At4 W k3 qa qb qc qd)=>At4.setq h j o oM
   have hj4:j<4:=oM;have XJ:=λW (h:At4 W k3 qa qb qc qd)=>At4.wd h j hj4
   rw[<-hj,hv,hj]at XJ;have HJ:Hid (j<4):=hj4;clear hy hv hj hr ho hst hF ht htq hwl hi2 HF hj4
   go_upto_region 5 with fail
   refine anyTill.begin (λw'=>w'.cell? ⟨k0,0,none⟩=some (uZ p0)/\w'.cell? ⟨k0,1,none⟩=some (uZ p1)/\w'.cell? ⟨k0,2,none⟩=some (uZ p2)/\w'.cell? ⟨k0,3,none⟩=some (uZ p3)/\w'.cell? ⟨k3,j,none⟩=some (uZ v)/\Kept w k0 (⟨k3,0,qa,qb,qc,qd⟩ :: [⟨k0,0,p0,p1,p2,p3⟩,⟨k0,4,c0,c1,c2,c3⟩,⟨k1,0,a,b,c,d⟩,⟨k2,0,0,0,0,0⟩]) w') 16 mixed (uC KP.drew (XJ _ KP.head.at4.drew)) (λhS=>?_);refine anyTill.tk (i:=0) (v:=?_) rfl (SY ⟨by rfl,?_⟩) hS ?_
   rotate_left
   ·intro w hSw
    (try dsimp only at hSw)
    go_simp;try(with_reducible rfl)
   refine anyTill.tk (i:=1) (v:=?_) rfl (SY ⟨by rfl,?_⟩) hS ?_
   rotate_left
   ·intro w hSw
    (try dsimp only at hSw)
    go_simp;try(with_reducible rfl)
   refine anyTill.tk (i:=2) (v:=?_) rfl (SY ⟨by rfl,?_⟩) hS ?_
   rotate_left
   ·intro w hSw
    (try dsimp only at hSw)
    go_simp;try(with_reducible rfl)
   refine anyTill.tk (i:=3) (v:=?_) rfl (SY ⟨by rfl,?_⟩) hS ?_
   rotate_left
   ·intro w hSw
    (try dsimp only at hSw)
    go_simp;try(with_reducible rfl)
   refine anyTill.tk (i:=4) (v:=?_) rfl (SY ⟨by rfl,?_⟩) hS ?_
   rotate_left
   ·intro w hSw
    (try dsimp only at hSw)
    go_simp;try(with_reducible rfl)
   refine anyTill.tk (i:=5) (v:=?_) rfl (SY ⟨by rfl,?_⟩) hS ?_
   rotate_left
   ·intro w hSw
    (try dsimp only at hSw)
    go_simp;try(with_reducible rfl)
   refine anyTill.tk (i:=6) (v:=?_) rfl (SY ⟨by rfl,?_⟩) hS ?_
   rotate_left
   ·intro w hSw
    (try dsimp only at hSw)
    go_simp;try(with_reducible rfl)
   refine anyTill.tk (i:=7) (v:=?_) rfl (SY ⟨by rfl,?_⟩) hS ?_
   rotate_left
   ·intro w hSw
    (try dsimp only at hSw)
    go_simp;try(with_reducible rfl)
   refine anyTill.tk (i:=8) (v:=?_) rfl (SY ⟨by rfl,?_⟩) hS ?_
   rotate_left
   ·intro w hSw
    (try dsimp only at hSw)
    go_simp;try(with_reducible rfl)
   refine anyTill.tk (i:=9) (v:=?_) rfl (SY ⟨by rfl,?_⟩) hS ?_
   rotate_left
   ·intro w hSw
    (try dsimp only at hSw)
    go_simp;try(with_reducible rfl)
   refine anyTill.tk (i:=11) (v:=?_) rfl (SY ⟨by rfl,?_⟩) hS ?_
   rotate_left
   ·intro w hSw
    (try dsimp only at hSw)
    go_simp;try(with_reducible rfl)
   refine anyTill.tk (i:=12) (v:=?_) rfl (SY ⟨by rfl,?_⟩) hS ?_
   rotate_left
   ·intro w hSw
    (try dsimp only at hSw)
    go_simp;try(with_reducible rfl)
   try simp only[SQ,SN]
   refine anyTill.step (i:=10) rfl kR (λK hK=>?_);go_simp;refine(HBT _).mono ?_;rintro e w1 ⟨v',rfl,hb1,t',rfl,ht'⟩;rw[HT.out]at ht';subst ht';have KP1:=KP.drew.call hb1;refine hK.out _ _ (λ_=>uC KP1 (XJ _ KP1.head.at4)) ?_;try simp only[Tt,Sw,SQ,SN]
   have cj:=XJ _ KP1.head.at4;have cf:=KP1.head.f;have cz:=KP1.head.lt;refine anyTill.step (i:=13) rfl kR (λK hK=>?_);go_simp;refine hK.out _ _ (λ_=>uC KP1 (XJ _ KP1.head.at4)) ?_;try simp only[Tt,Sw,SQ,SN]
   refine anyTill.step (i:=14) rfl kR (λK hK=>?_);go_simp;refine hK.out _ _ (λ_=>uC KP1 (XJ _ KP1.head.at4)) ?_;try simp only[Tt,Sw,SQ,SN]
   refine anyTill.step (i:=15) rfl kR (λK hK=>?_);go_simp;refine hK.out _ _ (λ_=>uC KP1 (XJ _ KP1.head.at4)) ?_;try simp only[Tt,Sw,SQ,SN]
   refine anyTill.step (i:=16) rfl kR (λK hK=>?_);go_simp;refine hK.out _ _ (λh=>VO h) ?_;try simp only[Tt,Sw,SQ,SN]
   refine anyTill.done kR ?_ _;go_wp2;go_roundg (gk-1)
   case measure=>omega
   case rel =>
    refine⟨i+1,_,_,_,_,oM,rfl,?_,HST⟩;exact(KP1.tail.set (j:=k3) (i:=j) Q3.out hl3 _).cons (T1 _ KP1.head.at4).blk
  ·have hi254:i=254:=oM;subst hi254;have hF:=HF.out;have hPt:=HP4.lt;rw[SA (show P/4<2^254 by unfold top at hPt;omega)]at hF;have hq:val qa qb qc qd=P/4/\qa<18446744073709551615/\qb<18446744073709551616/\qc<18446744073709551616/\qd<18446744073709551616:=by
    obtain⟨a',b',c',d',e',h1,h2,h3,h4,h5⟩:=hF;obtain⟨rfl,rfl,rfl,rfl⟩:a'=qa/\b'=qb/\c'=qc/\d'=qd:=by
     simp only[SX.injEq,WM.injEq,Vy.injEq,TW.injEq,true_and,and_true,VK]at e';exact⟨e'.1.symm,e'.2.1.symm,e'.2.2.1.symm,e'.2.2.2.symm⟩
    refine⟨h5.symm,?_,h2,h3,h4⟩;have h6:=HP1.out;rw[h5]at h6;unfold val at h6;omega
   obtain⟨qe,hqe'⟩:∃qe,qa+1=qe:=⟨_,rfl⟩
   have HE:Hid (Four (.agg #[uZ qe,uZ qb,uZ qc,uZ qd]) (P/4+1)):=by
    refine Four.mk oM hq.2.2.1 hq.2.2.2.1 hq.2.2.2.2 ?_;rw[<-hq.1,<-hqe'];unfold val;omega
   have hadd:(qa:Int)+1=(qe:Int):=oM;have hw:=wrapN qe oM;obtain⟨qc0,qc1,qc2,qc3,qf⟩:=KP.head.at4;have zq:=KP.head.lt;obtain⟨xc0,xc1,xc2,xc3,xf⟩:=KP.tail.tail.tail.head.at4;have zx:=KP.tail.tail.tail.head.lt;obtain⟨fc0,fc1,fc2,fc3,ff⟩:=KP.tail.head.at4;have fb:=KP.tail.tail.head;have fd0:=fb.c0;have fd1:=fb.c1;have fd2:=fb.c2;have fd3:=fb.c3;have zf:=KP.tail.head.lt;go_wp2_with fail
   have KP2:=KP.tail.set (j:=k3) (i:=0) Q3.out hl3 (uZ qe);refine(AV p0 p1 p2 p3 c0 c1 c2 c3 P _ _ _ _ HR.out HX.out HE.out _).mono ?_;rintro e w3 ⟨v,rfl,hb3,hF⟩;have K:=KP2.call hb3;obtain⟨ra,rb,rc,rd,rfl,-⟩:=id hF;rw[HRE.out]at hF;have HF:Hid (Four _ R):=hF
   go_upto_region 8 with fail
   have KP:Kept w k0 (⟨w3.heap.size,0,ra,rb,rc,rd⟩ :: [⟨k0,0,p0,p1,p2,p3⟩,⟨k0,4,c0,c1,c2,c3⟩,⟨k1,0,a,b,c,d⟩,⟨k2,0,0,0,0,0⟩]) _:=(K.alloc (.cells #[uZ ra,uZ rb,uZ rc,uZ rd] 63)).cons (At4.made w3 63 ra rb rc rd rfl).blk;have n80:=TC K.head.lt;have n81:=TC K.tail.tail.head.lt;have n82:=TC K.tail.tail.tail.head.lt;have Q8:=mk1 (K.le);clear K;generalize TI _ _=W4 at KP⊢;generalize w3.heap.size=k8 at KP n80 n81 n82 Q8⊢;by_cases heq:R*R%P=m
   ·have hsame:=Nm a b c d;go_region_held3 (λw'=>w'.cell? ⟨k0,0,none⟩=some (uZ p0)/\w'.cell? ⟨k0,1,none⟩=some (uZ p1)/\w'.cell? ⟨k0,2,none⟩=some (uZ p2)/\w'.cell? ⟨k0,3,none⟩=some (uZ p3)/\w'.cell? ⟨k0,4,none⟩=some (uZ c0)/\w'.cell? ⟨k0,5,none⟩=some (uZ c1)/\w'.cell? ⟨k0,6,none⟩=some (uZ c2)/\w'.cell? ⟨k0,7,none⟩=some (uZ c3)/\w'.cell? ⟨k8,0,none⟩=some (uZ ra)/\w'.cell? ⟨k8,1,none⟩=some (uZ rb)/\w'.cell? ⟨k8,2,none⟩=some (uZ rc)/\w'.cell? ⟨k8,3,none⟩=some (uZ rd)/\w'.cell? ⟨k1,0,none⟩=some (uZ a)/\w'.cell? ⟨k1,1,none⟩=some (uZ b)/\w'.cell? ⟨k1,2,none⟩=some (uZ c)/\w'.cell? ⟨k1,3,none⟩=some (uZ d)/\Kept w k0 (⟨k8,0,ra,rb,rc,rd⟩ :: [⟨k0,0,p0,p1,p2,p3⟩,⟨k0,4,c0,c1,c2,c3⟩,⟨k1,0,a,b,c,d⟩,⟨k2,0,0,0,0,0⟩]) w') (first|(with_reducible exact tJ KP)|(with_reducible exact tJ KP.drew)|fail) (first|(go_at_call 52;refine(rA HR.out HF.out HF.out _).mono ?_;rintro e w5 ⟨v,rfl,hb1,hF3⟩;rw[heq]at hF3;obtain rfl:=hF3.inj HX.out;clear hF3;(first|(with_reducible (have KP1:=KP.drew.call hb1))|(with_reducible (have KP1:=KP.call hb1))|fail);clear KP hb1;have KP:=KP1;clear KP1))
    have HEQ:=mk1 heq
    rename_i hHeld
    obtain⟨ra',rb',rc',rd',e',hra,-⟩:=id HF.out;obtain⟨rfl,-⟩:ra'=ra/\True:=by
     simp only[SX.injEq,WM.injEq,Vy.injEq,TW.injEq,true_and,and_true,VK]at e';exact⟨e'.1.symm,trivial⟩
    have hodd2:R%2=ra'%2:=by
     obtain⟨x1,x2,x3,x4,e',-,-,-,-,h5⟩:=id HF.out;simp only[SX.injEq,WM.injEq,Vy.injEq,TW.injEq,true_and,and_true,VK]at e';rw[h5,<-e'.1];unfold val;omega
    have hand:=and_one ra' hra;obtain⟨tc0,tc1,tc2,tc3,tf⟩:=KP.head.at4;have zt:=KP.head.lt;obtain⟨uc0,uc1,uc2,uc3,uf⟩:=KP.tail.tail.tail.tail.head.at4;have zu:=KP.tail.tail.tail.tail.head.lt;have h2:ra'%2=0\/ra'%2=1:=oM;rcases h2 with h|h
    ·rw[h]at hand hodd2;have HF8:Hid (Four (.agg #[uZ ra',uZ rb,uZ rc,uZ rd]) (even P R)):=by
      have h1:even P R=R:=by unfold even;rw[if_neg oM]
      unfold Hid;rw[h1];exact HF.out
     go_wp2;have RF:=KP.tail.tail.tail.tail.head.at4.self4 ra' rb rc rd;unfold set4 at RF;refine bodyPost_ret (v:=?v) ?hr rfl ?hR
     case hr=>simp[results,Tryz.results84,go_sem,RF.c0,RF.c1,RF.c2,RF.c3];rfl
     refine⟨_,rfl,?_,RootR.yes HEQ.out HF8.out⟩;rw[H0.out];exact aF KP.bl Q2.out _ _ _ _
    ·rw[h]at hand hodd2;have HO:=mk1 (hodd2);obtain⟨fc0,fc1,fc2,fc3,ff⟩:=KP.tail.head.at4;have fb:=KP.tail.tail.head;have fd0:=fb.c0;have fd1:=fb.c1;have fd2:=fb.c2;have fd3:=fb.c3;have zf:=KP.tail.head.lt;go_wp2_with fail
     refine(uO p0 p1 p2 p3 c0 c1 c2 c3 P _ _ HR.out HF.out HRP.out _).mono ?_;rintro e w8 ⟨v,rfl,hb8,hF8⟩;obtain⟨sa,sb,sc,sd,rfl,-⟩:=id hF8;have HF8:Hid (Four (.agg #[uZ sa,uZ sb,uZ sc,uZ sd]) (even P R)):=by
      have h1:(P-R)%P=even P R:=by
       unfold even;rw[if_pos HO.out];exact SA (by have:=HRP.out;have:=HO.out;omega)
      unfold Hid;rw[<-h1];exact hF8
     replace KP:=KP.call hb8;obtain⟨tc0,tc1,tc2,tc3,tf⟩:=KP.head.at4;have zt:=KP.head.lt;obtain⟨uc0,uc1,uc2,uc3,uf⟩:=KP.tail.tail.tail.tail.head.at4;have zu:=KP.tail.tail.tail.tail.head.lt;go_wp2;have RF:=(KP.tail.tail.tail.tail.head.at4.other4 n82 (uZ sa) (uZ sb) (uZ sc) (uZ sd)).self4 sa sb sc sd;unfold set4 at RF;refine bodyPost_ret (v:=?v2) ?hr2 rfl ?hR2
     case hr2=>simp[results,Tryz.results84,go_sem,RF.c0,RF.c1,RF.c2,RF.c3];rfl
     refine⟨_,rfl,?_,RootR.yes HEQ.out HF8.out⟩;rw[H0.out];exact aF (aF KP.bl Q8.out _ _ _ _) Q2.out _ _ _ _
   ·go_region_held3 (λw'=>w'.cell? ⟨k0,0,none⟩=some (uZ p0)/\w'.cell? ⟨k0,1,none⟩=some (uZ p1)/\w'.cell? ⟨k0,2,none⟩=some (uZ p2)/\w'.cell? ⟨k0,3,none⟩=some (uZ p3)/\w'.cell? ⟨k0,4,none⟩=some (uZ c0)/\w'.cell? ⟨k0,5,none⟩=some (uZ c1)/\w'.cell? ⟨k0,6,none⟩=some (uZ c2)/\w'.cell? ⟨k0,7,none⟩=some (uZ c3)/\w'.cell? ⟨k8,0,none⟩=some (uZ ra)/\w'.cell? ⟨k8,1,none⟩=some (uZ rb)/\w'.cell? ⟨k8,2,none⟩=some (uZ rc)/\w'.cell? ⟨k8,3,none⟩=some (uZ rd)/\w'.cell? ⟨k1,0,none⟩=some (uZ a)/\w'.cell? ⟨k1,1,none⟩=some (uZ b)/\w'.cell? ⟨k1,2,none⟩=some (uZ c)/\w'.cell? ⟨k1,3,none⟩=some (uZ d)/\Kept w k0 (⟨k8,0,ra,rb,rc,rd⟩ :: [⟨k0,0,p0,p1,p2,p3⟩,⟨k0,4,c0,c1,c2,c3⟩,⟨k1,0,a,b,c,d⟩,⟨k2,0,0,0,0,0⟩]) w') (first|(with_reducible exact tJ KP)|(with_reducible exact tJ KP.drew)|fail) (first|(go_at_call 52;refine(rA HR.out HF.out HF.out _).mono ?_;rintro e w5 ⟨v,rfl,hb1,hF3⟩;obtain⟨ta,tb,tc,td,rfl,hne⟩:=four_ne hF3 HX.out heq;have hoth:=KJ hne;clear hF3;(first|(with_reducible (have KP1:=KP.drew.call hb1))|(with_reducible (have KP1:=KP.call hb1))|fail);clear KP hb1;have KP:=KP1;clear KP1))
    have HEQ:=mk1 heq
    rename_i hHeld
    obtain⟨uc0,uc1,uc2,uc3,uf⟩:=KP.tail.tail.tail.tail.head.at4;have zu:=KP.tail.tail.tail.tail.head.lt;go_wp2;have RF:At4 (set4 w5 k2 (uZ 0) (uZ 0) (uZ 0) (uZ 0)) k2 0 0 0 0:=KP.tail.tail.tail.tail.head.at4.self4 0 0 0 0;unfold set4 at RF;refine bodyPost_ret (v:=?v3) ?hr3 rfl ?hR3
    case hr3=>simp[results,Tryz.results84,go_sem,RF.c0,RF.c1,RF.c2,RF.c3];rfl
    refine⟨_,rfl,?_,RootR.no HEQ.out⟩;rw[H0.out];exact aF KP.bl Q2.out _ _ _ _
def wordOf(a b c d k:Nat):Nat:=if k<8 then a else if k<16 then b else if k<24 then c else d
end
section
open Go.RowKit Go.Sort Go.Deep
structure Ord(N:Nat):Prop where
 gap:Gap 4624529908474429119 4994812053365940164 1 N
 ref:RefP 13822214165235122497 13451932020343611451 18446744073709551614 18446744073709551615 4624529908474429119 4994812053365940164 1 0 N
 le:N<=top
 n2:2<=N%18446744073709551616
variable {N:Nat}
theorem Ord.pos(O:Ord N):0<N:=by have:=O.n2;omega
theorem Ord.four(O:Ord N){a:Nat}(h:a<N):Four (nv a) a:=m7 (Si h O.le)
def sMi(N a b:Nat):Nat:=(a+N-b)%N
def sTi(N a b:Nat):Nat:=a*b%N
def sIn(N a:Nat):Nat:=a^(N-2)%N
theorem GX(O:Ord N){a b:Nat}(ha:a<N)(hb:b<N):Gives 136 #[gv1,nv a,nv b] (nv (sMi N a b)):=λw =>
 (rY _ _ _ N _ _ a b O.gap (O.four ha) (O.four hb) ha hb w).mono (by rintro e w' ⟨v,rfl,hb,hF⟩;exact⟨_,rfl,hb,hF.nv⟩)
theorem GV(O:Ord N){a b:Nat}(ha:a<N)(hb:b<N):Gives 62 #[gv1,nv a,nv b] (nv (sTi N a b)):=λw =>
 (nF _ _ _ N _ _ a b O.gap (O.four ha) (O.four hb) w).mono (by rintro e w' ⟨v,rfl,hb,hF⟩;exact⟨_,rfl,hb,hF.nv⟩)
theorem Nq(O:Ord N){a:Nat}(ha:a<N):Gives 64 #[gv1,nv a] (nv (sIn N a)):=λw =>
 (sV _ _ _ N _ a O.gap O.n2 (O.four ha) w).mono (by rintro e w' ⟨v,rfl,hb,hF⟩;exact⟨_,rfl,hb,hF.nv⟩)
theorem Ct(O:Ord N){a b:Nat}(ha:a<N)(hb:b<N):Gives 52 #[rv1,nv a,nv b] (nv (sTi N a b)):=λw =>
 (rA O.ref (O.four ha) (O.four hb) w).mono (by rintro e w' ⟨v,rfl,hb,hF⟩;exact⟨_,rfl,hb,hF.nv⟩)
theorem NH(O:Ord N){a:Nat}(ha:a<N):Gives 49 #[rv1,nv a] (nv (sIn N a)):=λw =>
 (Hq _ _ _ _ _ _ _ _ N _ a O.ref (O.four ha) w).mono (by rintro e w' ⟨v,rfl,hb,hF⟩;exact⟨_,rfl,hb,hF.nv⟩)
theorem Ic{a x y z u:Nat}(h:nv a=.agg #[uZ x,uZ y,uZ z,uZ u]):be32 x y z u=bx a:=by
 have h1:wn a=[uZ x,uZ y,uZ z,uZ u]:=by
  unfold nv at h;injection h with h
  exact congrArg Array.toList h
 unfold wn at h1;simp only[Vy.injEq,TW.injEq,true_and,and_true,Int.natCast_inj]at h1;obtain⟨rfl,rfl,rfl,rfl⟩:=h1;rfl
def cb(b:Bs):List Value:=b.toList.map encB
theorem rV(b:Bs):(cb b).length=b.size:=by unfold cb;rw[SO,Sx]
theorem wO{w:World}{g:Nat}{b:Bs}(h:Holds encB w g 0 b):w.rangeAt g 0 (cb b)/\w.there g 0 (cb b).length:=by
 refine⟨λj v hv=>?_,λj hj=>?_⟩
 ·have hj:j<b.size:=by rw[<-rV];exact(SI.1 hv).1
  rw[(h j hj).1];unfold cb at hv;rw[Un,Tn,SS hj]at hv;rw[getElem!_pos b j hj];exact hv
 ·rw[rV]at hj;exact⟨by rw[(h j hj).1];rfl,(h j hj).2⟩
theorem cb_holds{w:World}{g:Nat}{b:Bs}(h1:w.rangeAt g 0 (cb b))(h2:w.there g 0 (cb b).length):Holds encB w g 0 b:=λj hj=>by
 refine⟨h1 j _ ?_,(h2 j (by rw[rV];exact hj)).2⟩;unfold cb;rw[Un,Tn,SS hj,getElem!_pos b j hj];rfl
def Jz(f:FuncId)(args:Array Value)(b:Bs)(n:Nat):Prop:=∀w,Calls prog f args w (Ret λe w'=>∃k,RG.Made w k (cb b) w'/\e=.slice (some (aZ k)) n n)
theorem GY(O:Ord N){a:Nat}(ha:a<N):Jz 117 #[nv a] (bx a) 32:=λw =>
 (yS _ a w (O.four ha)).mono (by
  rintro e w' ⟨v,rfl,hb,g,x,y,z,u,rfl,hle,he,hH⟩;rw[Ic he]at hH;obtain⟨h1,h2⟩:=wO hH;exact⟨_,rfl,g,⟨hb,hle,Holds.lt hH (by rw[jR];omega),h1,h2⟩,rfl⟩)
end
section
open Go.RowKit Go.Sort Go.Deep
variable {P:Nat}[NeZero P]{N:Nat}
theorem RP(a b c d p q r s:Nat)(w:World):(binOp .eql 43 (.agg #[uZ a,uZ b,uZ c,uZ d]) (.agg #[uZ p,uZ q,uZ r,uZ s])).run prog w=.ok (.bool (decide (a=p/\b=q/\c=r/\d=s))) w:=by
 go_simp;rw[Ex 9997,Result.andThen_ok];by_cases h1:a=p/\b=q/\c=r/\d=s
 ·rw[decide_eq_true h1];obtain⟨rfl,rfl,rfl,rfl⟩:=h1;simp
 ·have h2:(decide (a=p) && (decide (b=q) && (decide (c=r) && decide (d=s))))=false:=by
   rw[<-Bool.not_eq_true,SC,SC,SC];simpa using h1
  rw[decide_eq_false h1,h2];simp
theorem eqS{a b:Nat}(ha:a<top)(hb:b<top)(w:World):(binOp .eql 43 (nv a) (nv b)).run prog w=.ok (.bool (decide (a=b))) w:=by
 refine(RP (a%18446744073709551616) (a/18446744073709551616%18446744073709551616) (a/340282366920938463463374607431768211456%18446744073709551616) (a/6277101735386680763835789423207666416102355444464034512896%18446744073709551616) (b%18446744073709551616) (b/18446744073709551616%18446744073709551616) (b/340282366920938463463374607431768211456%18446744073709551616) (b/6277101735386680763835789423207666416102355444464034512896%18446744073709551616) w).trans ?_;simp only[qT ha hb]
theorem u40:(prog.underlying 43).map (·.isRow)=some true:=kR
theorem i40:(prog.info? 43).map (·.size)=some 4:=kR
theorem u38:(prog.underlying 41).map (·.isRow)=some true:=kR
theorem i38:(prog.info? 41).map (·.size)=some 4:=kR
theorem u44:(prog.underlying 63).map (·.isRow)=some true:=kR
theorem i44:(prog.info? 63).map (·.size)=some 4:=kR
theorem Np(O:Ord N)(a b:Nat)(ha:a<N)(hb:b<N):Gives 113 #[(nv a),(nv b)] (nv (sMi N a b)):=by
 intro w;go_enter Tryz.func113,Tryz.ntmps113;refine RG.M.enter [(0,.v (nv a)),(1,.v (nv b))] 12 kR ?_;intro a0 M0;repeat refine wp_seq ?_
 refine M0.T [.m 0,.m 1,.m 2] [(0,wn a),(1,wn b),(2,RG.z 4)] [] [wn a,wn b,RG.z 4] [2,3,4] ⟨RG.mk 0 43,RG.mk 1 43,RG.mk 2 43,trivial⟩ ?_;intro j1 i1 m1 a1 w1 M1;repeat refine wp_seq ?_
 refine M1.D [.c gv1,.s (.p 0 0),.x (nv a),.s (.p 1 0),.x (nv b),.c (nv (sMi N a b)),.x (nv (sMi N a b)),.u 2] [] [(2,7,wn (sMi N a b))] [wn a,wn b,wn (sMi N a b)] [4] ⟨RG.cl fJ,RG.st,RG.ld u38 i38,RG.st,RG.ld u38 i38,RG.cl (GX O ha hb),RG.st,RG.pt i40,trivial⟩ ?_;intro a2 w2 M2;refine wp_ret ?_;refine bodyPost_ret (v:=(nv (sMi N a b))) (RG.aE M2.st 4 43 rfl 2 _ rfl (M2.at (s:=(.p 2 0))) u40 i40) M2.sl.defers ?_;exact⟨_,rfl,M2.st.bel.below,rfl⟩
theorem Cf(O:Ord N)(a b:Nat)(ha:a<N)(hb:b<N):Gives 27 #[(nv a),(nv b)] (nv (sTi N a b)):=by
 intro w;go_enter Tryz.func27,Tryz.ntmps27;refine RG.M.enter [(0,.v (nv a)),(1,.v (nv b))] 12 kR ?_;intro a0 M0;repeat refine wp_seq ?_
 refine M0.T [.m 0,.m 1,.m 2] [(0,wn a),(1,wn b),(2,RG.z 4)] [] [wn a,wn b,RG.z 4] [2,3,4] ⟨RG.mk 0 43,RG.mk 1 43,RG.mk 2 43,trivial⟩ ?_;intro j1 i1 m1 a1 w1 M1;repeat refine wp_seq ?_
 refine M1.D [.c gv1,.s (.p 0 0),.x (nv a),.s (.p 1 0),.x (nv b),.c (nv (sTi N a b)),.x (nv (sTi N a b)),.u 2] [] [(2,7,wn (sTi N a b))] [wn a,wn b,wn (sTi N a b)] [4] ⟨RG.cl fJ,RG.st,RG.ld u38 i38,RG.st,RG.ld u38 i38,RG.cl (GV O ha hb),RG.st,RG.pt i40,trivial⟩ ?_;intro a2 w2 M2;refine wp_ret ?_;refine bodyPost_ret (v:=(nv (sTi N a b))) (RG.aE M2.st 4 43 rfl 2 _ rfl (M2.at (s:=(.p 2 0))) u40 i40) M2.sl.defers ?_;exact⟨_,rfl,M2.st.bel.below,rfl⟩
theorem DV(O:Ord N)(a:Nat)(ha:a<N):Gives 30 #[(nv a)] (nv (sIn N a)):=by
 intro w;go_enter Tryz.func30,Tryz.ntmps30;refine RG.M.enter [(0,.v (nv a))] 8 kR ?_;intro a0 M0;repeat refine wp_seq ?_
 refine M0.T [.m 0,.m 1] [(0,wn a),(1,RG.z 4)] [] [wn a,RG.z 4] [1,2] ⟨RG.mk 0 43,RG.mk 1 43,trivial⟩ ?_;intro j1 i1 a1 w1 M1;repeat refine wp_seq ?_
 refine M1.D [.c gv1,.s (.p 0 0),.x (nv a),.c (nv (sIn N a)),.x (nv (sIn N a)),.u 1] [] [(1,5,wn (sIn N a))] [wn a,wn (sIn N a)] [2] ⟨RG.cl fJ,RG.st,RG.ld u38 i38,RG.cl (Nq O ha),RG.st,RG.pt i40,trivial⟩ ?_;intro a2 w2 M2;refine wp_ret ?_;refine bodyPost_ret (v:=(nv (sIn N a))) (RG.aE M2.st 2 43 rfl 1 _ rfl (M2.at (s:=(.p 1 0))) u40 i40) M2.sl.defers ?_;exact⟨_,rfl,M2.st.bel.below,rfl⟩
theorem JX(v:Value)(m:Nat)(ok:Bool)(w:World)(hrd:∀w',RG.BelX w.heap.size [] w w'->Calls prog 60 #[gv1,v] w' (Ret λe w''=>Below w'.heap.size w' w''/\e=.tuple #[nv m,.bool ok])):
 Calls prog 25 #[v] w (rZ w λe w'=>e=.tuple #[nv m,.bool ok]):=by
 go_enter Tryz.func25,Tryz.ntmps25;refine RG.M.enter [(0,.v v)] 15 kR ?_;intro a0 M0;repeat refine wp_seq ?_
 refine M0.T [.m 0,.x (.bool false)] [(0,RG.z 4)] [] [RG.z 4] [0,2,3] ⟨RG.mk 0 43,RG.st,trivial⟩ ?_;intro j1 a1 w1 M1;repeat refine wp_seq ?_
 refine M1.T [.c gv1,.x v,.c (.tuple #[nv m,.bool ok]),.x (.tuple #[nv m,.bool ok]),.x (nv m),.x (.bool ok),.m 1,.u 1,.x (.bool ok)] [(6,RG.z 4)] [(1,7,wn m)] [RG.z 4,wn m] [2,3,4,5] ⟨RG.cl fJ,RG.st,RG.clB (λ_ _=>kR) hrd,RG.st,RG.st,RG.st,RG.mk 1 41,RG.pt i38,RG.st,trivial⟩ ?_;intro j2 a2 w2 M2;repeat refine wp_seq ?_
 refine M2.T [.x (nv m),.x (nv m),.x (.bool ok),.u 0,.x (.bool ok)] [] [(0,3,wn m)] [wn m,wn m] [2,3] ⟨RG.ld u38 i38,RG.st,RG.st,RG.pt i40,RG.st,trivial⟩ ?_;intro a3 w3 M3;refine wp_ret ?_;refine bodyPost_ret (v:=.tuple #[nv m,.bool ok]) (RG.aV M3.st 2 3 43 rfl 0 _ rfl (M3.at (s:=.p 0 0)) _ (M3.av (v:=.bool ok) kR) u40 i40) M3.sl.defers ?_;exact⟨_,rfl,M3.st.bel.below,rfl⟩
theorem JY(O:Ord N)(v:Value)(bs:Bs)(w:World)(hv:Arg w v bs):Calls prog 25 #[v] w (rZ w λe w'=>e=.tuple #[nv ((rq N bs).getD 0),.bool (rq N bs).isSome]):=by
 refine JX v _ _ w λw' hb=>?_
 have h:=zF O.gap v bs w' (hv.below hb.below);cases hr:rq N bs with
 | none=>rw[hr]at h;exact h
 | some n=>rw[hr]at h;exact h
theorem GT(O:Ord N){a:Nat}(ha:a<N):Jz 71 #[nv a] (bx a) 32:=by
 intro w;go_enter Tryz.func71,Tryz.ntmps71;refine RG.M.enter [(0,.v (nv a))] 6 kR ?_;intro a0 M0;repeat refine wp_seq ?_
 refine M0.T [.m 0,.x (.slice none 0 0)] [(0,wn a)] [] [wn a] [1,2] ⟨RG.mk 0 43,RG.st,trivial⟩ ?_;intro j1 a1 w1 M1;repeat refine wp_seq ?_
 refine M1.t [.s 3 [] (.p 0 0),.x 4 [(3,0)] (nv a),⟨some 5,[(4,1)],.s 1 32 32,.make 1⟩,.s 2 [(5,2)] (.s 1 32 32)] [(2,cb (bx a))] [] [wn a,cb (bx a)] [(2,.s 1 32 32)] ⟨RG.st,RG.ld u38 i38,RG.cm 1 (λw _=>GY O ha w) λ_ _=>kR,RG.st,trivial⟩ ?_;intro j2 a2 w2 M2;refine wp_ret ?_;refine bodyPost_ret (v:=_) (RG.cK 2 rfl _ (M2.at (s:=.s 1 32 32))) M2.sl.defers ?_;exact⟨_,rfl,_,M2.st.made (b:=1) rfl,rfl⟩
theorem D7(O:Ord N)(s:ByteArray):Gives 46 #[.string s] (.tuple #[nv (nuV s.data),.bool (rq N s.data).isSome]):=by
 intro w;have hnum:=NA O.ref s;obtain⟨m,hm⟩:∃m,m=nuV s.data:=⟨_,rfl⟩
 obtain⟨ok,hok⟩:∃b,b=(rq N s.data).isSome:=⟨_,rfl⟩
 rw[<-hm,<-hok]at hnum⊢;go_enter Tryz.func46,Tryz.ntmps46;refine RG.M.enter [(0,.v (.string s))] 9 kR ?_;intro a0 M0;repeat refine wp_seq ?_
 refine M0.T [.m 0,.x (.bool false)] [(0,RG.z 4)] [] [RG.z 4] [0,2,3] ⟨RG.mk 0 63,RG.st,trivial⟩ ?_;intro j1 a1 w1 M1;repeat refine wp_seq ?_
 refine M1.T [.c rv1,.x (.string s),.c (.tuple #[nv m,.bool ok]),.x (nv m),.x (.bool ok),.u 0,.x (.bool ok)] [] [(0,5,wn m)] [wn m] [2,3] ⟨RG.cl O4,RG.st,RG.cl hnum,RG.st,RG.st,RG.pt i44,RG.st,trivial⟩ ?_;intro a2 w2 M2;refine wp_ret ?_;refine bodyPost_ret (v:=.tuple #[nv m,.bool ok]) (RG.aV M2.st 2 3 63 rfl 0 _ rfl (M2.at (s:=.p 0 0)) _ (M2.av (v:=.bool ok) kR) u44 i44) M2.sl.defers ?_;exact⟨_,rfl,M2.st.bel.below,rfl⟩
end
namespace SP
open Go.RowKit
theorem Rr(x:BitVec 64):(x.toNat:Int)<18446744073709551616:=by
 have:=x.isLt;omega
theorem dY(x:BitVec 64):UN 64 (x.toNat:Int)=x:=by
 apply Yb;rw[Yg,WB];exact SA x.isLt
theorem fM(x:BitVec 64):Ta.wrap (x.toNat:Int)=x.toNat:=by
 rw[Vz];have:=Rr x;exact Y4 oM this
def u(v:BitVec 64):Int:=(v.toNat:Int)
theorem dA(a b:BitVec 64):bits .xor .u64 (u a) (u b)=u (a ^^^ b):=by
 show Ta.wrap ((UN 64 (a.toNat:Int) ^^^ UN 64 (b.toNat:Int)).toNat:Int)=_;rw[dY,dY,fM];rfl
theorem dV(a b:BitVec 64):bits .and .u64 (u a) (u b)=u (a &&& b):=by
 show Ta.wrap ((UN 64 (a.toNat:Int) &&& UN 64 (b.toNat:Int)).toNat:Int)=_;rw[dY,dY,fM];rfl
theorem dQ(a b:BitVec 64):bits .or .u64 (u a) (u b)=u (a ||| b):=by
 show Ta.wrap ((UN 64 (a.toNat:Int) ||| UN 64 (b.toNat:Int)).toNat:Int)=_;rw[dY,dY,fM];rfl
theorem oC(a:BitVec 64):bits .xor .u64 Ta.max (u a)=u (~~~a):=by
 have e:Ta.max=u (BitVec.allOnes 64):=dK;rw[e,dA,BitVec.allOnes_xor]
theorem Qy(k:Nat)(hk:k<64):bits .and .u64 (k:Int) 63=k:=by
 have h:∀j:Fin 64,bits .and .u64 ((j.val:Nat):Int) 63=(j.val:Int):=dK;exact h ⟨k,hk⟩
theorem xR(x:BitVec 64)(k:Nat):Ta.wrap (u x*2^k)=u (x <<< k):=by
 unfold u;rw[Vz,BitVec.toNat_shiftLeft,Nat.shiftLeft_eq,Int.natCast_emod,Uh,US];rfl
theorem DU(x:BitVec 64)(k:Nat):u x/2^k=u (x >>> k):=by
 unfold u;rw[BitVec.toNat_ushiftRight,Nat.shiftRight_eq_div_pow,VT,US];rfl
def rol(w:BitVec 64)(n:Nat):BitVec 64:=w <<< n ||| w >>> (64-n)
abbrev St:=Array (BitVec 64)
def enc(v:BitVec 64):Value:=uZ (u v)
def Dh(d:St)(x:Nat):BitVec 64:=d[x]! ^^^ d[x+5]! ^^^ d[x+10]! ^^^ d[x+15]! ^^^ d[x+20]!
def kN(d:St):Nat->St
 | 0=>#[0,0,0,0,0]
 | k+1=>(kN d k).setIfInBounds k (Dh d k)
def bJ(d:St)(i:Nat)(v:BitVec 64):St:=d.setIfInBounds i (d[i]! ^^^ v)
def lE(v:BitVec 64)(x:Nat)(d:St):Nat->St
 | 0=>d
 | m+1=>bJ (lE v x d m) (x+5*m) v
def bP(s:St)(x:Nat):BitVec 64:=s[(x+4)%5]! ^^^ rol s[(x+1)%5]! 1
def jD(s d:St):Nat->St
 | 0=>d
 | k+1=>lE (bP s k) k (jD s d k) 5
def sF(d:St):St:=jD (kN d 5) d 5
theorem bX(d:St)(i:Nat)(v:BitVec 64):(bJ d i v).size=d.size:=by simp[bJ]
theorem sG(d:St)(k:Nat):(kN d k).size=5:=by
 induction k with
 | zero=>rfl
 | succ k ih=>simp[kN,ih]
theorem pW(v:BitVec 64)(x:Nat)(d:St)(m:Nat):(lE v x d m).size=d.size:=by
 induction m with
 | zero=>rfl
 | succ k ih=>simp[lE,bX,ih]
theorem oN(s d:St)(m:Nat):(jD s d m).size=d.size:=by
 induction m with
 | zero=>rfl
 | succ k ih=>simp[jD,pW,ih]
structure Tm where
 x:Nat
 y:Nat
 m:BitVec 64
 d:St
def uX(t:Nat):Nat:=(t+1)*(t+2)/2%64
def B6(t:Nat)(s:Tm):Tm:=
 { x:=s.y,y:=(2*s.x+3*s.y)%5,m:=s.d[s.y+5*((2*s.x+3*s.y)%5)]!,d:=s.d.setIfInBounds (s.y+5*((2*s.x+3*s.y)%5)) (rol s.m (uX t)) }
def sZ(d:St):Nat->Tm
 | 0=>{ x:=1,y:=0,m:=d[1]!,d:=d }
 | t+1=>B6 t (sZ d t)
def oY(d:St):St:=(sZ d 24).d
theorem DK(d:St)(hd:d.size=25)(t:Nat):(sZ d t).x<5/\(sZ d t).y<5/\(sZ d t).d.size=25:=by
 induction t with
 | zero=>exact⟨show 1<5 by decide,show 0<5 by decide,hd⟩
 | succ t ih =>
  obtain⟨h1,h2,h3⟩:=ih;refine⟨h2,?_,?_⟩
  ·show(2*(sZ d t).x+3*(sZ d t).y)%5<5;omega
  ·show((sZ d t).d.setIfInBounds _ _).size=25;rw[Tg,h3]
def rowAt(d:St)(i:Nat):St:=
 bJ (bJ (bJ (bJ (bJ d i (~~~d[i+1]! &&& d[i+2]!)) (i+1) (~~~d[i+2]! &&& d[i+3]!)) (i+2) (~~~d[i+3]! &&& d[i+4]!)) (i+3) (~~~d[i+4]! &&& d[i]!)) (i+4) (~~~d[i]! &&& d[i+1]!)
def wF(d:St):Nat->St
 | 0=>d
 | k+1=>rowAt (wF d k) (5*k)
def chi(d:St):St:=wF d 5
theorem Cj(d:St)(i:Nat):(rowAt d i).size=d.size:=by simp[rowAt,bX]
theorem wE(d:St)(k:Nat):(wF d k).size=d.size:=by
 induction k with
 | zero=>rfl
 | succ k ih=>simp[wF,Cj,ih]
def lM(r:Nat):Nat:=if 255<2*r then(2*r) ^^^ 369 else 2*r
def uK(r:Nat):Nat->BitVec 64 × Nat
 | 0=>(0,r)
 | j+1=>((uK r j).1 ||| U9 64 ((uK r j).2%2) <<< (2^j-1),lM (uK r j).2)
theorem uL(r:Nat)(h:r<256):lM r<256:=by
 have H:∀j:Fin 256,lM j.val<256:=dK;exact H ⟨r,h⟩
theorem Km(r:Nat)(h:r<256)(j:Nat):(uK r j).2<256:=by
 induction j with
 | zero=>exact h
 | succ j ih=>exact uL _ ih
theorem Hd(r:Nat)(h:r<256):bits .xor .i64 ((r:Int)*2) 369=(((2*r) ^^^ 369:Nat):Int):=by
 have H:∀j:Fin 256,bits .xor .i64 ((j.val:Int)*2) 369=(((2*j.val) ^^^ 369:Nat):Int):=dK;exact H ⟨r,h⟩
theorem He(r:Nat)(h:r<256):bits .and .i64 (r:Int) 1=u (U9 64 (r%2)):=by
 have H:∀j:Fin 256,bits .and .i64 (j.val:Int) 1=u (U9 64 (j.val%2)):=dK;exact H ⟨r,h⟩
theorem nO(x:BitVec 64):Ta.wrap (u x)=u x:=fM x
def mJ(d:St)(c:BitVec 64):St:=bJ (chi (oY (sF d))) 0 c
def rcC(r:Nat):BitVec 64:=(uK r 7).1
def rcN(r:Nat):Nat:=(uK r 7).2
theorem Ny(r:Nat)(h:r<256):rcN r<256:=by
 unfold rcN;exact Km r h 7
def xA:Nat->Nat
 | 0=>1
 | k+1=>rcN (xA k)
theorem Kn(k:Nat):xA k<256:=by
 induction k with
 | zero=>decide
 | succ k ih=>exact Ny _ ih
def mE(d:St):Nat->St
 | 0=>d
 | k+1=>mJ (mE d k) (rcC (xA k))
def perm(d:St):St:=mE d 24
theorem iO(d:St):(sF d).size=d.size:=oN _ _ _
theorem kT(d:St)(hd:d.size=25):(oY d).size=25:=(DK d hd 24).2.2
theorem BC(d:St):(chi d).size=d.size:=wE _ _
theorem Bh(d:St)(c:BitVec 64)(hd:d.size=25):(mJ d c).size=25:=by
 unfold mJ;rw[bX,BC,kT];rw[iO,hd]
theorem mD(d:St)(hd:d.size=25)(k:Nat):(mE d k).size=25:=by
 induction k with
 | zero=>exact hd
 | succ k ih=>exact Bh _ _ ih
theorem rF(d:St)(hd:d.size=25):(perm d).size=25:=mD d hd 24
abbrev Bs:=Array UInt8
def ub(x:UInt8):Int:=(x.toNat:Int)
def encB(x:UInt8):Value:=.int .u8 (ub x)
def wide(x:UInt8):BitVec 64:=U9 64 x.toNat
def low(v:BitVec 64):UInt8:=Sy v.toNat
theorem JI(x:UInt8):ub x=u (wide x):=by
 unfold ub u wide;rw[WB,SA];have:=x.toNat_lt;omega
theorem yT(x:UInt8):Ta.wrap (ub x)=u (wide x):=by rw[JI,nO]
theorem Mq(v:BitVec 64):Xp.wrap (u v)=ub (low v):=by
 have e:Xp.wrap (u v)=u v%256:=by simp[Y6,Y7,YG]
 rw[e];unfold u ub low;rw[Vq];omega
def jS(bs:Bs)(o:Nat):Nat->BitVec 64
 | 0=>0
 | i+1=>jS bs o i ||| wide bs[o+i]! <<< (8*i)
def wordOf(bs:Bs)(o:Nat):BitVec 64:=jS bs o 8
def fF(bs:Bs)(d:St):Nat->St
 | 0=>d
 | i+1=>bJ (fF bs d i) i (wordOf bs (8*i))
theorem dU(bs:Bs)(d:St)(k:Nat):(fF bs d k).size=d.size:=by
 induction k with
 | zero=>rfl
 | succ k ih=>simp[fF,bX,ih]
def byteOf(d:St)(k:Nat):UInt8:=low (d[k/8]! >>> (8*(k%8)))
def eI(d:St)(n:Nat):Nat->Bs
 | 0=>So n 0
 | k+1=>(eI d n k).setIfInBounds k (byteOf d k)
def front(d:St)(n:Nat):Bs:=eI d n n
theorem iI(d:St)(n k:Nat):(eI d n k).size=n:=by
 induction k with
 | zero=>simp[eI]
 | succ k ih=>simp[eI,ih]
theorem aQ(d:St)(n:Nat):(front d n).size=n:=iI d n n
end SP
namespace SP
open Go.RowKit Go.Sort
structure Only(b off n:Nat)(w w':World):Prop where
 os:w'.os=w.os
 tape:w'.tape=w.tape
 output:w'.output=w.output
 size:w.heap.size<=w'.heap.size
 block:∀k,k<w.heap.size->k≠b->w'.heap[k]? = w.heap[k]?
 cell:∀o,(o<off\/off+n<=o)->w'.cell? ⟨b,o,none⟩=w.cell? ⟨b,o,none⟩
 froz:∀o,w'.frozen? ⟨b,o,none⟩=w.frozen? ⟨b,o,none⟩
variable {b off n:Nat}{w w1 w2:World}
theorem Only.refl(b off n:Nat)(w:World):Only b off n w w:=⟨rfl,rfl,rfl,Se _,λ_ _ _=>rfl,λ_ _=>rfl,λ_=>rfl⟩
theorem Only.trans(h:Only b off n w w1)(k:Only b off n w1 w2):Only b off n w w2:=
 ⟨k.os.trans h.os,k.tape.trans h.tape,k.output.trans h.output,SD h.size k.size,
  λi hi hn=>(k.block i (Si hi h.size) hn).trans (h.block i hi hn),
  λo ho=>(k.cell o ho).trans (h.cell o ho),λo=>(k.froz o).trans (h.froz o)⟩
theorem Only.drewN(h:Only b off n w w1)(q:Nat):Only b off n w (w1.drewN q):=⟨h.os,h.tape,h.output,h.size,h.block,h.cell,h.froz⟩
theorem Only.drew(h:Only b off n w w1):Only b off n w w1.drew:=⟨h.os,h.tape,h.output,h.size,h.block,h.cell,h.froz⟩
theorem Only.setCell(h:Only b off n w w1){o:Nat}(h1:off<=o)(h2:o<off+n)(v:Value):Only b off n w (w1.setCell ⟨b,o,none⟩ v):=by
 refine h.trans ⟨rfl,rfl,rfl,by simp,λk _ hn=>WI _ _ _ _ hn,λo' ho=>?_,λo'=>by simp⟩;exact u7 _ _ _ _ (by intro e;simp only[ZX.injEq,and_true,true_and]at e;omega)
theorem Only.alloc(h:Only b off n w w1)(hb:b<w1.heap.size)(o:Obj):Only b off n w (w1.alloc o):=by
 refine h.trans ⟨rfl,rfl,rfl,by simp,λk hk _=>Below.heap_alloc _ _ _ hk,λo' _=>?_,λo'=>?_⟩
 ·exact World.cell?_alloc_lt _ _ _ hb
 ·exact World.frozen?_alloc_old _ _ _ (by show b≠_;omega)
theorem Only.below(h:Only b off n w w1){B:Nat}(hB:B<=w.heap.size)(hb:B<=b):Below B w w1:=
 ⟨h.os,h.tape,h.output,h.size,λk hk=>h.block k oM oM⟩
theorem Only.of_below{B:Nat}(h:Below B w w1)(hB:B=w.heap.size)(hb:b<B):Only b off n w w1:=
 ⟨h.os,h.tape,h.output,h.size,λk hk _=>h.block k oM,λo _=>h.cell (p:=⟨b,o,none⟩) hb,λo=>h.frozen (p:=⟨b,o,none⟩) hb⟩
theorem Only.other(h:Only b off n w w1){c o:Nat}(hc:c≠b)(hs:c<w.heap.size):w1.cell? ⟨c,o,none⟩=w.cell? ⟨c,o,none⟩/\w1.frozen? ⟨c,o,none⟩=w.frozen? ⟨c,o,none⟩:=
 ⟨SR (w:=w) (h.block c hs hc),Uf (w:=w) (h.block c hs hc)⟩
theorem Only.fresh{o m:Nat}{x:Obj}(h:Only w.heap.size o m (w.alloc x) w1):Below w.heap.size w w1:=
 ((SE _ _).alloc (Se _) x).trans (h.below (by simp) (Se _))
section
variable {α:Type}[Inhabited α]{enc:α->Value}{d:Array α}
theorem Holds.lt(h:Holds enc w b off d)(hd:0<d.size):b<w.heap.size:=TV _ _ (h 0 hd).1
theorem Holds.other{c o:Nat}(h:Holds enc w c o d)(k:Only b off n w w1)(hc:c≠b)(hd:0<d.size):Holds enc w1 c o d:=by
 intro j hj;have:=h j hj;have:=k.other (o:=o+j) hc (Holds.lt h hd);rw[this.1,this.2];exact h j hj
theorem Holds.same{o:Nat}(h:Holds enc w b o d)(k:Only b off n w w1)(hd:o+d.size<=off\/off+n<=o):Holds enc w1 b o d:=by
 intro j hj;rw[k.cell _ oM,k.froz];exact h j hj
theorem Holds.below{B:Nat}(h:Holds enc w b off d)(k:Below B w w1)(hb:b<B):Holds enc w1 b off d:=by
 intro j hj;rw[k.cell (p:=⟨b,off+j,none⟩) hb,k.frozen (p:=⟨b,off+j,none⟩) hb];exact h j hj
theorem Holds.drewN(h:Holds enc w b off d)(q:Nat):Holds enc (w.drewN q) b off d:=h
theorem Holds.drew(h:Holds enc w b off d):Holds enc w.drew b off d:=h
theorem Holds.set(h:Holds enc w b off d){i:Nat}(hi:i<d.size)(x:α):Holds enc (w.setCell ⟨b,off+i,none⟩ (enc x)) b off (d.setIfInBounds i x):=by
 intro j hj;rw[Tg]at hj;rw[S3];by_cases e:j=i
 ·subst e;rw[getElem!_set_same d j x hi];exact⟨Tb _ _ _ (h j hj).1,(h j hj).2⟩
 ·rw[getElem!_set_other d i j x e,u7 _ _ _ _ (by intro e';simp only[ZX.injEq,and_true,true_and]at e';omega)];exact h j hj
theorem Holds.new(w:World)(t:TypeId)(d:Array α):Holds enc (w.alloc (.cells (d.map enc) t)) w.heap.size 0 d:=by
 intro j hj;rw[S5,TU];refine⟨?_,rfl⟩;simp only[Sj,YA,SS hj,WX,getElem!_pos d j hj]
theorem Holds.made(w:World)(t:TypeId)(n:Nat)(x:α):Holds enc (w.alloc (.cells (madeCells #[enc x] n) t)) w.heap.size 0 (So n x):=by
 intro j hj;rw[SB]at hj;rw[S5,TU];refine⟨?_,rfl⟩;rw[getElem!_pos _ j (by simpa using hj),TL];simp[madeCells,hj,YR]
end
theorem Holds.xor{d:St}(h:Holds enc w b off d){i:Nat}(hi:i<d.size){x:BitVec 64}(hx:d[i]! = x)(v:BitVec 64):Holds enc (w.setCell ⟨b,off+i,none⟩ (uZ (u (x ^^^ v)))) b off (bJ d i v):=by
 unfold bJ;rw[hx];exact Holds.set h hi (x ^^^ v)
theorem bV(d:St)(i j:Nat)(v:BitVec 64)(h:j≠i):(bJ d i v)[j]! = d[j]!:=getElem!_set_other d i j _ h
end SP
namespace SP
open Go.RowKit Go.Sort
theorem mixed:prog.follows .mixedOrders=true:=kR
theorem aR{w:World}{b off:Nat}{d:St}(h:Holds enc w b off d)(i:Nat)(hi:i<d.size){x:BitVec 64}(hx:d[i]! = x):
 w.cell? ⟨b,off+i,none⟩=some (uZ (u x))/\w.frozen? ⟨b,off+i,none⟩=false:=by
 rw[<-hx];exact h i hi
theorem ret_int{k:IntKind}{a b:Int}(h:a=b):Ending.returned (.int k a)=.returned (.int k b):=by rw[h]
theorem AH(x:BitVec 64)(k:Nat)(w:World)(hk:k<64):
 Calls prog 193 #[uZ (u x),iZ k] w λe w'=>e=.returned (uZ (u (rol x k)))/\w'=w:=by
 have h63:=Qy k hk;go_enter Tryz.func193,Tryz.ntmps193;go_wp2;go_ret;refine⟨ret_int ?_,rfl⟩;rw[xR,DU,dQ];rfl
end SP
namespace SP
open Go.RowKit Go.Sort
theorem Bj(w:World)(t:TypeId):Holds enc (w.alloc (.cells #[uZ 0,uZ 0,uZ 0,uZ 0,uZ 0] t)) w.heap.size 0 (#[0,0,0,0,0]:St):=by
 have h:=Holds.new (enc:=enc) w t (#[0,0,0,0,0]:St);have e:Z1 enc (#[0,0,0,0,0]:St)=#[uZ 0,uZ 0,uZ 0,uZ 0,uZ 0]:=by simp[enc,u]
 rw[e]at h;exact h
attribute [local go_sem] dA dV dQ
theorem vH(b off:Nat)(d:St)(w:World)(hd:d.size=25)(hH:Holds enc w b off d):
 Calls prog 186 #[.pointer (some ⟨b,off,none⟩)] w λe w'=>e=.returned (.tuple #[])/\Only b off 25 w w'/\Holds enc w' b off (sF d):=by
 have hb:=Holds.lt hH oM;go_enter Tryz.func186,Tryz.ntmps186;go_wp2;generalize hW1:(w.alloc _)=W1;go_loopg [7] 5 (λg s7 wr=>∃k sk,k+g=5/\s7=iZ (k:Nat)/\Holds enc wr w.heap.size 0 sk/\Only w.heap.size 0 5 W1 wr/\Hid (sk=kN d k))
 case atStart =>
  refine⟨0,#[0,0,0,0,0],rfl,rfl,?_,Only.refl _ _ _ _,rfl⟩;rw[<-hW1];exact Bj w 245
 case round =>
  obtain⟨k,sk,hk,rfl,hS,hO,HE⟩:=hrel;have hHw:Holds enc wr b off d:=Holds.other (by rw[<-hW1];exact Holds.below hH ((SE _ _).alloc (Se _) _) hb) hO oM oM;by_cases hlt:k<5
  ·obtain⟨x0,hx0⟩:∃x,d[k]! = x:=⟨_,rfl⟩
   obtain⟨x1,hx1⟩:∃x,d[k+5]! = x:=⟨_,rfl⟩
   obtain⟨x2,hx2⟩:∃x,d[k+10]! = x:=⟨_,rfl⟩
   obtain⟨x3,hx3⟩:∃x,d[k+15]! = x:=⟨_,rfl⟩
   obtain⟨x4,hx4⟩:∃x,d[k+20]! = x:=⟨_,rfl⟩
   obtain⟨x5,hx5⟩:∃x,sk[k]! = x:=⟨_,rfl⟩
   have hss:sk.size=5:=by rw[HE.out,sG]
   obtain⟨c0,f0⟩:=aR hHw k oM hx0;obtain⟨c1,f1⟩:=aR hHw (k+5) oM hx1;obtain⟨c2,f2⟩:=aR hHw (k+10) oM hx2;obtain⟨c3,f3⟩:=aR hHw (k+15) oM hx3;obtain⟨c4,f4⟩:=aR hHw (k+20) oM hx4;obtain⟨c5,f5⟩:=aR hS k oM hx5;rw[Sj]at c5 f5;have HX:Hid (Dh d k=x0 ^^^ x1 ^^^ x2 ^^^ x3 ^^^ x4):=by rw[<-hx0,<-hx1,<-hx2,<-hx3,<-hx4];rfl
   clear hx0 hx1 hx2 hx3 hx4 hx5 hHw;have k5:(k:Int)<5:=oM;have b0:(k:Int)<25:=oM;have b1:(k:Int)+5<25:=oM;have b2:(k:Int)+10<25:=oM;have b3:(k:Int)+15<25:=oM;have b4:(k:Int)+20<25:=oM;have p1:0<=(k:Int)+5:=oM;have p2:0<=(k:Int)+10:=oM;have p3:0<=(k:Int)+15:=oM;have p4:0<=(k:Int)+20:=oM;have e1:((k:Int)+5).toNat=k+5:=oM;have e2:((k:Int)+10).toNat=k+10:=oM;have e3:((k:Int)+15).toNat=k+15:=oM;have e4:((k:Int)+20).toNat=k+20:=oM;have v1:TA.wrap ((k:Int)+5)=(k:Int)+5:=Tv _ oM;have v2:TA.wrap ((k:Int)+10)=(k:Int)+10:=Tv _ oM;have v3:TA.wrap ((k:Int)+15)=(k:Int)+15:=Tv _ oM;have v4:TA.wrap ((k:Int)+20)=(k:Int)+20:=Tv _ oM;go_wp2_with fail
   go_still_tail 35,mixed;go_wp2;go_roundg (gk-1)
   case measure=>omega
   case rel =>
    refine⟨k+1,sk.setIfInBounds k (x0 ^^^ x1 ^^^ x2 ^^^ x3 ^^^ x4),oM,by go_num,?_,?_,?_⟩
    ·have:=Holds.set hS (i:=k) oM (x0 ^^^ x1 ^^^ x2 ^^^ x3 ^^^ x4);rw[Sj]at this;exact Holds.drew this
    ·exact(hO.setCell (Us _) oM _).drew
    ·show _=(kN d k).setIfInBounds k (Dh d k);rw[HX.out,HE.out]
  ·have hk5:k=5:=oM;subst hk5;have HS:Hid (sk=kN d 5):=HE;have hO2:Only b off 25 w wr:=by
    rw[<-hW1]at hO;exact Only.of_below hO.fresh rfl hb
   clear hk hlt HE hO hW1;go_wp2;go_loopg [46] 5 (λg s46 wq=>∃k dk,k+g=5/\s46=iZ (k:Nat)/\Holds enc wq b off dk/\Only b off 25 wr wq/\Hid (dk=jD sk d k))
   case atStart=>exact⟨0,d,rfl,rfl,hHw,Only.refl _ _ _ _,rfl⟩
   case round =>
    obtain⟨k,dk,hk,rfl,hD,hO,HE⟩:=hrel;by_cases hlt:k<5
    ·have hss:sk.size=5:=by rw[HS.out,sG]
     have hSw:=Holds.other hS hO oM oM;obtain⟨y0,hy0⟩:∃x,sk[(k+4)%5]! = x:=⟨_,rfl⟩
     obtain⟨y1,hy1⟩:∃x,sk[(k+1)%5]! = x:=⟨_,rfl⟩
     obtain⟨c0,f0⟩:=aR hSw ((k+4)%5) oM hy0;obtain⟨c1,f1⟩:=aR hSw ((k+1)%5) oM hy1;rw[Sj]at c0 c1;have HD:Hid (bP sk k=y0 ^^^ rol y1 1):=by rw[<-hy0,<-hy1];rfl
     clear hy0 hy1 f0 f1;have k5:(k:Int)<5:=oM;go_wp2_with fail
     go_quiet ((go_at_call 193;exact Calls.quiet_of_same (AH _ 1 _ dC)));clear c0 c1;go_wp2;have hO1:=hO.drewN nq;have hD1:=Holds.drewN hD nq;have hds:dk.size=25:=by rw[HE.out,oN,hd]
     go_loopg [6] 5 (λg s6 wq=>∃m dm,m+g=5/\s6=iZ ((k+5*m:Nat):Int)/\Holds enc wq b off dm/\Only b off 25 wr wq/\Hid (dm=lE (y0 ^^^ rol y1 1) k dk m))
     case atStart=>exact⟨0,dk,rfl,rfl,hD1,(Only.refl _ _ _ _).drewN _,rfl⟩
     case round =>
      obtain⟨m,dm,hm,rfl,hM,hOm,HM⟩:=hrel;by_cases hlt2:m<5
      ·have hms:dm.size=25:=by rw[HM.out,pW,hds]
       obtain⟨z,hz⟩:∃x,dm[k+5*m]! = x:=⟨_,rfl⟩
       obtain⟨c,f⟩:=aR hM (k+5*m) oM hz;have HZ:Hid (dm[k+5*m]! = z):=hz;clear hz;have r1:((k+5*m:Nat):Int)<25:=oM;generalize hi:k+5*m=i at *;have Hi:Hid (k+5*m=i):=hi;clear hi;go_wp2_with fail
       go_still_tail 9,mixed;go_wp2;go_roundg (gk-1)
       case measure=>omega
       case rel =>
        refine⟨m+1,dm.setIfInBounds i (z ^^^ (y0 ^^^ rol y1 1)),oM,?_,?_,?_,?_⟩
        ·rw[<-Hi.out];go_num
        ·exact Holds.drew (Holds.set hM oM _)
        ·exact(hOm.setCell (Wn _ _) oM _).drew
        ·show _=bJ (lE (y0 ^^^ rol y1 1) k dk m) (k+5*m) (y0 ^^^ rol y1 1);rw[<-HM.out,Hi.out,<-HZ.out];rfl
      ·have hm5:m=5:=oM;subst hm5;have r1:(25:Int)<=((k+5*5:Nat):Int):=oM;generalize hi:k+5*5=i at *;go_wp2;go_roundg (4-k)
       case measure=>omega
       case rel =>
        refine⟨k+1,dm,oM,by go_num,hM,hO.trans hOm,?_⟩;show _=lE (bP sk k) k (jD sk d k) 5;rw[<-HE.out,HD.out];exact HM.out
    ·have hk5:k=5:=oM;subst hk5;go_wp2
     go_end0
     refine⟨rfl,hO2.trans hO,?_⟩;have:sF d=dk:=by rw[HE.out,HS.out];rfl
     rw[this];exact hD
end SP
namespace SP
open Go.RowKit Go.Sort
attribute [local go_sem] dA dV dQ
theorem Ia(t:Nat)(h:t<24):(wrap64 ((wrap64 (((t:Int)+1)*((t:Int)+2))).tdiv 2)).tmod 64=(uX t:Int):=by
 have H:∀j:Fin 24,(wrap64 ((wrap64 (((j.val:Int)+1)*((j.val:Int)+2))).tdiv 2)).tmod 64=(uX j.val:Int):=dK;exact H ⟨t,h⟩
theorem sW(b off:Nat)(d:St)(w:World)(hd:d.size=25)(hH:Holds enc w b off d):
 Calls prog 187 #[.pointer (some ⟨b,off,none⟩)] w λe w'=>e=.returned (.tuple #[])/\Only b off 25 w w'/\Holds enc w' b off (oY d):=by
 obtain⟨x1,hx1⟩:∃x,d[1]! = x:=⟨_,rfl⟩
 obtain⟨c1,f1⟩:=aR hH 1 oM hx1;go_enter Tryz.func187,Tryz.ntmps187;go_wp2;go_loopg [2,3,4,12] 24 (λg sx sy sm st wr=>∃t T,t+g=24/\st=iZ (t:Nat)/\sx=iZ (T.x:Nat)/\sy=iZ (T.y:Nat)/\sm=uZ (u T.m)/\Holds enc wr b off T.d/\Only b off 25 w wr/\Hid (T=sZ d t))
 case atStart=>exact⟨0,sZ d 0,rfl,rfl,rfl,rfl,by rw[<-hx1];rfl,hH,Only.refl _ _ _ _,rfl⟩
 case round =>
  obtain⟨t,⟨x,y,m,dk⟩,ht,rfl,rfl,rfl,rfl,hD,hO,HE⟩:=hrel;have hok:=DK d hd t;rw[<-HE.out]at hok;obtain⟨hx,hy,hs⟩:=hok;dsimp only at hx hy hs hD;by_cases hlt:t<24
  ·obtain⟨i,hi⟩:∃i,y+5*((2*x+3*y)%5)=i:=⟨_,rfl⟩
   obtain⟨z,hz⟩:∃z,dk[i]! = z:=⟨_,rfl⟩
   obtain⟨c,f⟩:=aR hD i oM hz;have Hz:=mk1 (hz);have Hi:=mk1 (hi);go_wp2_with fail
   rw[Ia t hlt];refine(AH m (uX t) _ (Ug _ dC)).mono ?_;rintro e w' ⟨rfl,rfl⟩;go_wp2_with fail
   obtain⟨y2,hy2⟩:∃n,(2*x+3*y)%5=n:=⟨_,rfl⟩
   have hy2':(2*(x:Int)+3*(y:Int))%5=(y2:Int):=oM;rw[hy2'];have Hy2:=mk1 (hy2);have r3:((y:Int)+5*(y2:Int)).toNat=i:=by have:=Hi.out;have:=Hy2.out;omega
   go_region
   go_wp2;go_roundg (gk-1)
   case measure=>omega
   case rel =>
    refine⟨t+1,⟨y,y2,z,dk.setIfInBounds i (rol m (uX t))⟩,oM,by go_num,rfl,rfl,rfl,?_,?_,?_⟩
    ·exact Holds.drew (Holds.set hD oM _)
    ·exact(hO.setCell (Wn _ _) oM _).drew
    ·show _=B6 t (sZ d t);rw[<-HE.out];simp only[B6,Hy2.out];have e:y+5*y2=i:=by have:=Hi.out;have:=Hy2.out;omega
     rw[e,Hz.out]
  ·have ht24:t=24:=oM;subst ht24;go_wp2
   go_end0
   refine⟨rfl,hO,?_⟩;show Holds enc _ b off (sZ d 24).d;rw[<-HE.out];exact hD
end SP
namespace SP
open Go.RowKit Go.Sort
attribute [local go_sem] dA dV dQ oC
theorem A9(b off:Nat)(d:St)(w:World)(hd:d.size=25)(hH:Holds enc w b off d):
 Calls prog 188 #[.pointer (some ⟨b,off,none⟩)] w λe w'=>e=.returned (.tuple #[])/\Only b off 25 w w'/\Holds enc w' b off (chi d):=by
 go_enter Tryz.func188,Tryz.ntmps188;go_wp2;go_loopg [2] 5 (λg si wr=>∃k dk,k+g=5/\si=iZ ((5*k:Nat):Int)/\Holds enc wr b off dk/\Only b off 25 w wr/\Hid (dk=wF d k))
 case atStart=>exact⟨0,d,rfl,rfl,hH,Only.refl _ _ _ _,rfl⟩
 case round =>
  obtain⟨k,dk,hk,rfl,hD,hO,HE⟩:=hrel;have hs:dk.size=25:=by rw[HE.out,wE,hd]
  by_cases hlt:k<5
  ·obtain⟨i,hi⟩:∃i,5*k=i:=⟨_,rfl⟩
   rw[hi];have Hi:Hid (5*k=i):=hi;obtain⟨x0,hx0⟩:∃x,dk[i]! = x:=⟨_,rfl⟩
   obtain⟨x1,hx1⟩:∃x,dk[i+1]! = x:=⟨_,rfl⟩
   obtain⟨x2,hx2⟩:∃x,dk[i+2]! = x:=⟨_,rfl⟩
   obtain⟨x3,hx3⟩:∃x,dk[i+3]! = x:=⟨_,rfl⟩
   obtain⟨x4,hx4⟩:∃x,dk[i+4]! = x:=⟨_,rfl⟩
   obtain⟨c0,f0⟩:=aR hD i oM hx0;obtain⟨c1,f1⟩:=aR hD (i+1) oM hx1;obtain⟨c2,f2⟩:=aR hD (i+2) oM hx2;obtain⟨c3,f3⟩:=aR hD (i+3) oM hx3;obtain⟨c4,f4⟩:=aR hD (i+4) oM hx4;have HX0:Hid (dk[i]! = x0):=hx0;have HX1:Hid (dk[i+1]! = x1):=hx1;have HX2:Hid (dk[i+2]! = x2):=hx2;have HX3:Hid (dk[i+3]! = x3):=hx3;have HX4:Hid (dk[i+4]! = x4):=hx4;have Q0:=HX0;have Q1:=HX1;have Q2:=HX2;have Q3:=HX3;have Q4:=HX4;have b1:(i:Int)+1<25:=oM;have p1:0<=(i:Int)+1:=oM;have e1:((i:Int)+1).toNat=i+1:=oM;have v1:TA.wrap ((i:Int)+1)=(i:Int)+1:=Tv _ oM;have b2:(i:Int)+2<25:=oM;have p2:0<=(i:Int)+2:=oM;have e2:((i:Int)+2).toNat=i+2:=oM;have v2:TA.wrap ((i:Int)+2)=(i:Int)+2:=Tv _ oM;have b3:(i:Int)+3<25:=oM;have p3:0<=(i:Int)+3:=oM;have e3:((i:Int)+3).toNat=i+3:=oM;have v3:TA.wrap ((i:Int)+3)=(i:Int)+3:=Tv _ oM;have b4:(i:Int)+4<25:=oM;have p4:0<=(i:Int)+4:=oM;have e4:((i:Int)+4).toNat=i+4:=oM;have v4:TA.wrap ((i:Int)+4)=(i:Int)+4:=Tv _ oM;go_wp2_with fail
   go_quiet (fail);clear c1 c2 c3 c4 f1 f2 f3 f4 b1 p1 e1 v1 b2 p2 e2 v2 b3 p3 e3 v3 b4 p4 e4 v4;go_wp2_with fail
   go_region
   go_wp2_with fail
   generalize hW0:UH _ _ _=W0;have hs0:(bJ dk i (~~~x1 &&& x2)).size=25:=by rw[bX];omega
   have hD0:Holds enc W0 b off (bJ dk i (~~~x1 &&& x2)):=by rw[<-hW0];exact Holds.xor (Holds.drewN hD _) oM HX0.out _
   have hO0:Only b off 25 w W0:=by rw[<-hW0];exact(hO.drewN _).setCell (o:=off+i) oM oM _
   generalize hd0:bJ dk i (~~~x1 &&& x2)=d0 at *;have Hd0:Hid (bJ dk i (~~~x1 &&& x2)=d0):=hd0;have HX1:Hid (d0[i+1]! = x1):=by show _=_;rw[<-hd0,bV _ _ _ _ oM];exact HX1.out
   have HX2:Hid (d0[i+2]! = x2):=by show _=_;rw[<-hd0,bV _ _ _ _ oM];exact HX2.out
   have HX3:Hid (d0[i+3]! = x3):=by show _=_;rw[<-hd0,bV _ _ _ _ oM];exact HX3.out
   have HX4:Hid (d0[i+4]! = x4):=by show _=_;rw[<-hd0,bV _ _ _ _ oM];exact HX4.out
   obtain⟨c1,f1⟩:=aR hD0 (i+1) oM HX1.out;clear hd0 hW0 c0 f0;have b1:(i:Int)+1<25:=oM;have p1:0<=(i:Int)+1:=oM;have e1:((i:Int)+1).toNat=i+1:=oM;have v1:TA.wrap ((i:Int)+1)=(i:Int)+1:=Tv _ oM;go_region
   go_wp2_with fail
   generalize hW1:UH _ _ _=W1;have hs1:(bJ d0 (i+1) (~~~x2 &&& x3)).size=25:=by rw[bX];omega
   have hD1:Holds enc W1 b off (bJ d0 (i+1) (~~~x2 &&& x3)):=by rw[<-hW1];exact Holds.xor hD0 oM HX1.out _
   have hO1:Only b off 25 w W1:=by rw[<-hW1];exact(hO0).setCell (o:=off+(i+1)) oM oM _
   generalize hd1:bJ d0 (i+1) (~~~x2 &&& x3)=d1 at *;have Hd1:Hid (bJ d0 (i+1) (~~~x2 &&& x3)=d1):=hd1;have HX2:Hid (d1[i+2]! = x2):=by show _=_;rw[<-hd1,bV _ _ _ _ oM];exact HX2.out
   have HX3:Hid (d1[i+3]! = x3):=by show _=_;rw[<-hd1,bV _ _ _ _ oM];exact HX3.out
   have HX4:Hid (d1[i+4]! = x4):=by show _=_;rw[<-hd1,bV _ _ _ _ oM];exact HX4.out
   obtain⟨c2,f2⟩:=aR hD1 (i+2) oM HX2.out;clear b1 p1 e1 v1;have b2:(i:Int)+2<25:=oM;have p2:0<=(i:Int)+2:=oM;have e2:((i:Int)+2).toNat=i+2:=oM;have v2:TA.wrap ((i:Int)+2)=(i:Int)+2:=Tv _ oM;go_region
   go_wp2_with fail
   generalize hW2:UH _ _ _=W2;have hs2:(bJ d1 (i+2) (~~~x3 &&& x4)).size=25:=by rw[bX];omega
   have hD2:Holds enc W2 b off (bJ d1 (i+2) (~~~x3 &&& x4)):=by rw[<-hW2];exact Holds.xor hD1 oM HX2.out _
   have hO2:Only b off 25 w W2:=by rw[<-hW2];exact(hO1).setCell (o:=off+(i+2)) oM oM _
   generalize hd2:bJ d1 (i+2) (~~~x3 &&& x4)=d2 at *;have Hd2:Hid (bJ d1 (i+2) (~~~x3 &&& x4)=d2):=hd2;have HX3:Hid (d2[i+3]! = x3):=by show _=_;rw[<-hd2,bV _ _ _ _ oM];exact HX3.out
   have HX4:Hid (d2[i+4]! = x4):=by show _=_;rw[<-hd2,bV _ _ _ _ oM];exact HX4.out
   obtain⟨c3,f3⟩:=aR hD2 (i+3) oM HX3.out;clear b2 p2 e2 v2;have b3:(i:Int)+3<25:=oM;have p3:0<=(i:Int)+3:=oM;have e3:((i:Int)+3).toNat=i+3:=oM;have v3:TA.wrap ((i:Int)+3)=(i:Int)+3:=Tv _ oM;go_region
   go_wp2_with fail
   generalize hW3:UH _ _ _=W3;have hs3:(bJ d2 (i+3) (~~~x4 &&& x0)).size=25:=by rw[bX];omega
   have hD3:Holds enc W3 b off (bJ d2 (i+3) (~~~x4 &&& x0)):=by rw[<-hW3];exact Holds.xor hD2 oM HX3.out _
   have hO3:Only b off 25 w W3:=by rw[<-hW3];exact(hO2).setCell (o:=off+(i+3)) oM oM _
   generalize hd3:bJ d2 (i+3) (~~~x4 &&& x0)=d3 at *;have Hd3:Hid (bJ d2 (i+3) (~~~x4 &&& x0)=d3):=hd3;have HX4:Hid (d3[i+4]! = x4):=by show _=_;rw[<-hd3,bV _ _ _ _ oM];exact HX4.out
   obtain⟨c4,f4⟩:=aR hD3 (i+4) oM HX4.out;clear b3 p3 e3 v3;have b4:(i:Int)+4<25:=oM;have p4:0<=(i:Int)+4:=oM;have e4:((i:Int)+4).toNat=i+4:=oM;have v4:TA.wrap ((i:Int)+4)=(i:Int)+4:=Tv _ oM;go_region
   go_wp2;generalize hW4:UH _ _ _=W4;have hs4:(bJ d3 (i+4) (~~~x0 &&& x1)).size=25:=by rw[bX];omega
   have hD4:Holds enc W4 b off (bJ d3 (i+4) (~~~x0 &&& x1)):=by rw[<-hW4];exact Holds.xor hD3 oM HX4.out _
   have hO4:Only b off 25 w W4:=by rw[<-hW4];exact(hO3).setCell (o:=off+(i+4)) oM oM _
   generalize hd4:bJ d3 (i+4) (~~~x0 &&& x1)=d4 at *;have Hd4:Hid (bJ d3 (i+4) (~~~x0 &&& x1)=d4):=hd4;go_roundg (gk-1)
   case measure=>omega
   case rel =>
    refine⟨k+1,d4,oM,?_,?_,?_,?_⟩
    ·rw[<-Hi.out];go_num
    ·exact hD4
    ·exact hO4.drewN 4
    ·show d4=rowAt (wF d k) (5*k);rw[<-HE.out,Hi.out];unfold rowAt;rw[Q0.out,Q1.out,Q2.out,Q3.out,Q4.out,Hd0.out,Hd1.out,Hd2.out,Hd3.out,Hd4.out]
  ·have hk5:k=5:=oM;subst hk5;go_wp2
   go_end0
   refine⟨rfl,hO,?_⟩;show Holds enc _ b off (wF d 5);rw[<-HE.out];exact hD
end SP
namespace SP
open Go.RowKit Go.Sort
attribute [local go_sem] dA dV dQ nO
theorem Fp(j:Nat)(hj:j<7):∃p:Nat,wrap64 (wrap64 ((2:Int)^j)-1)=(p:Int)/\p<=63/\Hid (2^j-1=p):=by
 have H:∀j:Fin 7,wrap64 (wrap64 ((2:Int)^j.val)-1)=((2^j.val-1:Nat):Int)/\2^j.val-1<=63:=dK;exact⟨_,(H ⟨j,hj⟩).1,(H ⟨j,hj⟩).2,rfl⟩
theorem oU(r:Nat)(w:World)(hr:r<256):
 Calls prog 189 #[iZ r] w λe w'=>e=.returned (.tuple #[uZ (u (rcC r)),iZ (rcN r:Int)])/\w'=w:=by
 go_enter Tryz.func189,Tryz.ntmps189;go_wp2
 go_loop [0,2,6] (λs0 s2 s6=>∃j:Nat,j<=7/\∃(c:BitVec 64) (q:Nat),s6=iZ j/\s2=uZ (u c)/\s0=iZ q/\q<256/\Hid (uK r j=(c,q))) (λ_ _ s6=>7-(intOf s6).toNat)
 case atStart=>exact⟨0,dC,0,r,rfl,rfl,rfl,hr,rfl⟩
 case round =>
  obtain⟨j,hj,c,q,rfl,rfl,rfl,hq,HE⟩:=hrel;by_cases hlt:j<7
  ·have a1:=He q hq;have a2:=Hd q hq;obtain⟨p,a3,hp,HP⟩:=Fp j hlt;have HC:Hid (uK r (j+1)=(c ||| U9 64 (q%2) <<< p,lM q)):=by
    show((uK r j).1 ||| U9 64 ((uK r j).2%2) <<< (2^j-1),lM (uK r j).2)=_;rw[HE.out,HP.out]
   have hs:=xR (U9 64 (q%2)) p;have hlt2:=uL q hq;by_cases h255:255<2*q
   ·have HR:Hid (lM q=2*q ^^^ 369):=if_pos h255;rw[HR.out]at hlt2;generalize 2*q ^^^ 369=q2 at *;go_wp2
    go_round
    case rel=>exact⟨j+1,oM,_,q2,by go_num,rfl,rfl,hlt2,by rw[HC.out,HR.out];rfl⟩
    case measure=>simp[intOf];omega
   ·have HR:Hid (lM q=2*q):=if_neg h255;go_wp2
    go_round
    case rel=>exact⟨j+1,oM,_,2*q,by go_num,rfl,by go_num,oM,by rw[HC.out,HR.out];rfl⟩
    case measure=>simp[intOf];omega
  ·have hj7:j=7:=oM;subst hj7;go_wp2
   go_ret2
   unfold rcC rcN;rw[HE.out];exact⟨rfl,rfl⟩
theorem sK(b off:Nat)(d:St)(w:World)(hd:d.size=25)(hH:Holds enc w b off d):
 Calls prog 180 #[.pointer (some ⟨b,off,none⟩)] w λe w'=>e=.returned (.tuple #[])/\Only b off 25 w w'/\Holds enc w' b off (perm d):=by
 go_enter Tryz.func180,Tryz.ntmps180;go_wp2;go_loopg [2,3,4] 24 (λg sc sr sk wr=>∃(k:Nat) (c:BitVec 64) (dk:St),k+g=24/\sk=iZ k/\sc=uZ (u c)/\sr=iZ (xA k:Nat)/\Holds enc wr b off dk/\Only b off 25 w wr/\Hid (dk=mE d k))
 case atStart=>exact⟨0,0,d,rfl,rfl,rfl,rfl,hH,Only.refl _ _ _ _,rfl⟩
 case round =>
  obtain⟨k,c,dk,hk,rfl,rfl,rfl,hD,hO,HE⟩:=hrel;have hs:dk.size=25:=by rw[HE.out,mD d hd]
  by_cases hlt:k<24
  ·have k24:(k:Int)<24:=oM;go_wp2_with fail
   refine(vH b off dk _ hs hD).mono ?_;rintro e w1 ⟨rfl,hO1,hD1⟩;go_wp2_with fail
   refine(sW b off _ _ (by rw[iO,hs]) hD1).mono ?_;rintro e w2 ⟨rfl,hO2,hD2⟩;go_wp2_with fail
   refine(A9 b off _ _ (kT _ (by rw[iO,hs])) hD2).mono ?_;rintro e w3 ⟨rfl,hO3,hD3⟩;have HN:Hid (xA (k+1)=rcN (xA k)):=rfl;have HK:Hid (mE d (k+1)=mJ (mE d k) (rcC (xA k))):=rfl;have hrl:=Kn k;generalize xA k=r at *;go_wp2_with fail
   refine(oU r _ hrl).mono ?_;rintro e w4 ⟨rfl,rfl⟩;have hs3:(chi (oY (sF dk))).size=25:=by rw[BC,kT _ (by rw[iO,hs])]
   obtain⟨x,hx⟩:∃x,(chi (oY (sF dk)))[0]! = x:=⟨_,rfl⟩
   obtain⟨c0,f0⟩:=aR hD3 0 oM hx;rw[Ur]at c0 f0;have HX:Hid ((chi (oY (sF dk)))[0]! = x):=hx;clear hx;go_wp2_with fail
   go_region
   go_wp2;go_roundg (gk-1)
   case measure=>omega
   case rel =>
    refine⟨k+1,rcC r,mJ dk (rcC r),oM,by go_num,rfl,by rw[HN.out],?_,?_,?_⟩
    ·exact Holds.drew (Holds.xor (i:=0) hD3 oM HX.out (rcC r))
    ·exact((((hO.trans hO1).trans hO2).trans hO3).setCell (o:=off) oM oM _).drew
    ·rw[HK.out,HE.out];rfl
  ·have hk24:k=24:=oM;subst hk24;go_wp2
   go_end0
   refine⟨rfl,hO,?_⟩;unfold perm;rw[<-HE.out];exact hD
end SP
namespace SP
open Go.RowKit Go.Sort Go.Deep
attribute [local go_sem] dA dV dQ nO yT
theorem qL{w:World}{b off:Nat}{d:Bs}(h:Holds encB w b off d)(i:Nat)(hi:i<d.size){x:UInt8}(hx:d[i]! = x):
 w.cell? ⟨b,off+i,none⟩=some (.int .u8 (ub x))/\w.frozen? ⟨b,off+i,none⟩=false:=by
 rw[<-hx];exact h i hi
theorem word_any(sb so o len cap:Nat)(bs:Bs)(w:World)(hB:Holds encB w sb so bs)(h8:8<=len)(ho:o+8<=bs.size)(hl:len<=4611686018427387904):
 Calls prog 185 #[.slice (some ⟨sb,so+o,none⟩) len cap] w λe w'=>e=.returned (uZ (u (wordOf bs o)))/\w'=w:=by
 go_enter Tryz.func185,Tryz.ntmps185;go_wp2
 go_loop [3,5] (λs3 s5=>∃(k:Nat) (c:BitVec 64),k<=8/\s5=iZ k/\s3=uZ (u c)/\Hid (jS bs o k=c)) (λ_ s5=>8-(intOf s5).toNat)
 case atStart=>exact⟨0,0,dC,rfl,rfl,rfl⟩
 case round =>
  obtain⟨k,c,hk,rfl,rfl,HE⟩:=hrel;by_cases hlt:k<8
  ·obtain⟨x,hx⟩:∃x,bs[o+k]! = x:=⟨_,rfl⟩
   obtain⟨c0,f0⟩:=qL hB (o+k) oM hx;rw[<-Uu]at c0;have HC:Hid (jS bs o (k+1)=c ||| wide x <<< (8*k)):=by
    show jS bs o k ||| wide bs[o+k]! <<< (8*k)=_
    rw[HE.out,hx]
   clear hx f0;have hs:=xR (wide x) (8*k);have k8:(k:Int)<(len:Int):=oM;go_wp2
   go_round
   case rel=>exact⟨k+1,_,oM,by go_num,rfl,HC⟩
   case measure=>simp[intOf];omega
  ·have hk8:k=8:=oM;subst hk8;go_wp2;go_ret;unfold wordOf;rw[HE.out];exact⟨rfl,rfl⟩
theorem Lh(b off sb so len cap:Nat)(bs:Bs)(d:St)(w:World)(hd:d.size=25)(hH:Holds enc w b off d)(hB:Holds encB w sb so bs)(hl:bs.size=len)(hlen:len<=200)(hcap:len<=cap)
 (hdis:sb≠b\/so+len<=off\/off+25<=so) :
 Calls prog 179 #[.pointer (some ⟨b,off,none⟩),.slice (some ⟨sb,so,none⟩) len cap] w λe w'=>e=.returned (.tuple #[])/\Only b off 25 w w'/\Holds enc w' b off (fF bs d (len/8)):=by
 go_enter Tryz.func179,Tryz.ntmps179;go_wp2;go_loopg [8] (len/8) (λg s8 wr=>∃(k:Nat) (dk:St),k+g=len/8/\s8=iZ k/\Holds enc wr b off dk/\Only b off 25 w wr/\Hid (dk=fF bs d k))
 case atStart=>exact⟨0,d,oM,rfl,hH,Only.refl _ _ _ _,rfl⟩
 case round =>
  obtain⟨k,dk,hk,rfl,hD,hO,HE⟩:=hrel;have hs:dk.size=25:=by rw[HE.out,dU,hd]
  by_cases hlt:k<len/8
  ·have hBr:Holds encB wr sb so bs:=by
    by_cases hsb:sb=b
    ·subst hsb;exact Holds.same hB hO oM
    ·exact Holds.other hB hO hsb oM
   obtain⟨x,hx⟩:∃x,dk[k]! = x:=⟨_,rfl⟩
   obtain⟨c0,f0⟩:=aR hD k oM hx;have HX:Hid (dk[k]! = x):=hx;clear hx;have r0:(k:Int)<25:=oM;have r1:(0:Int)<=(k:Int)*8:=oM;have r2:(k:Int)*8<=(len:Int):=oM;have r3:((k:Int)*8).toNat=8*k:=oM;have s1:TA.wrap ((k:Int)*8)=(k:Int)*8:=Tv _ oM;have lt:(k:Int)<(len:Int)/8:=oM;go_wp2_with fail
   have hne:(cap=8*k)=False:=eq_false oM;have HB:Hid (Holds encB wr.drew sb so bs):=Holds.drew hBr;have Q4:Hid (8*k+8<=bs.size):=by show _<=_;omega
   clear hBr;go_region_with (go_at_call 185;refine(word_any sb so (8*k) (len-8*k) (cap-8*k) bs _ HB.out oM Q4.out oM).mono ?_;rintro e w2 ⟨rfl,rfl⟩)
   all_goals
    go_wp2;go_roundg (gk-1)
    case measure=>omega
    case rel =>
     refine⟨k+1,bJ dk k (wordOf bs (8*k)),oM,by go_num,?_,?_,?_⟩
     ·exact Holds.drew (Holds.xor hD oM HX.out _)
     ·exact(hO.setCell (o:=off+k) oM oM _).drew
     ·rw[HE.out];rfl
  ·have hk8:k=len/8:=oM;have lt:(len:Int)/8<=(k:Int):=oM;go_wp2
   go_end0
   refine⟨rfl,hO,?_⟩;rw[<-hk8,<-HE.out];exact hD
theorem slice22:prog.underlying 23=some (.slice 5):=kR
theorem info5:(prog.info? 5).map (λi=>(i.zero,i.size,i.bytes))=some (some (.int .u8 0),1,1):=kR
attribute [local go_sem] Mq
theorem rO(b off n:Nat)(d:St)(w:World)(hd:d.size=25)(hH:Holds enc w b off d)(hn:n<=200):
 Calls prog 153 #[.pointer (some ⟨b,off,none⟩),iZ n] w λe w'=>e=.returned (.slice (some ⟨w.heap.size,0,none⟩) n n)/\Below w.heap.size w w'/\Holds encB w' w.heap.size 0 (front d n):=by
 have hb:=Holds.lt hH oM;have hmk:=run_make_row' (P:=prog) 23 5 (.int .u8 0) 1 slice22 info5 rfl .i64 .i64 n oM oM;go_enter Tryz.func153,Tryz.ntmps153;go_wp2;generalize hW1:(w.alloc _)=W1;go_loopg [11] n (λg s11 wr=>∃(k:Nat) (bs:Bs),k+g=n/\s11=iZ k/\Holds encB wr w.heap.size 0 bs/\Only w.heap.size 0 n W1 wr/\Hid (bs=eI d n k))
 case atStart =>
  refine⟨0,_,oM,rfl,?_,Only.refl _ _ _ _,rfl⟩;rw[<-hW1];exact Holds.made (enc:=encB) w 5 n 0
 case round =>
  obtain⟨k,bs,hk,rfl,hB,hO,HE⟩:=hrel;have hs:bs.size=n:=by rw[HE.out,iI]
  have hD:Holds enc wr b off d:=Holds.other (by rw[<-hW1];exact Holds.below hH ((SE _ _).alloc (Se _) _) hb) hO oM oM;by_cases hlt:k<n
  ·obtain⟨x,hx⟩:∃x,d[k/8]! = x:=⟨_,rfl⟩
   obtain⟨c0,f0⟩:=aR hD (k/8) oM hx;obtain⟨c1,f1⟩:=hB k oM;rw[Sj]at c1 f1;have HX:Hid (byteOf d k=low (x >>> (8*(k%8)))):=by show low _=_;rw[hx]
   have hsr:=DU x (8*(k%8));go_wp2;go_roundg (gk-1)
   case measure=>omega
   case rel =>
    refine⟨k+1,bs.setIfInBounds k (low (x >>> (8*(k%8)))),oM,by go_num,?_,?_,?_⟩
    ·have:=Holds.set hB (i:=k) oM (low (x >>> (8*(k%8))));rw[Sj]at this;exact this
    ·exact hO.setCell (o:=k) oM oM _
    ·show _=(eI d n k).setIfInBounds k (byteOf d k);rw[HX.out,HE.out]
  ·have hkn:k=n:=oM;go_wp2;go_ret;refine⟨rfl,?_,?_⟩
   ·rw[<-hW1]at hO;exact hO.fresh
   ·unfold front;rw[HE.out,hkn]at hB;exact hB
end SP
namespace SP
open Go.RowKit
def encI(n:Nat):Value:=iZ n
def wB(a:St)(x:Nat)(c:St):Nat->St
 | 0=>c
 | y+1=>bJ (wB a x c y) x a[x+5*y]!
def mM(a:St):Nat->St
 | 0=>So 5 0
 | x+1=>wB a x (mM a x) 5
def vE(a:St)(tn:Array Nat)(x:Nat)(v:BitVec 64)(m:St):Nat->St
 | 0=>m
 | y+1=>(vE a tn x v m y).setIfInBounds (y%5+5*((2*x+3*y)%5)) (rol (a[x+5*y]! ^^^ v) tn[x+5*y]!)
def mH(a:St)(tn:Array Nat)(c:St):Nat->St
 | 0=>So 25 0
 | x+1=>vE a tn x (bP c x) (mH a tn c x) 5
def uU(m:St)(x:Nat)(o:St):Nat->St
 | 0=>o
 | y+1=>(uU m x o y).setIfInBounds (x+5*y) (m[x+5*y]! ^^^ (~~~m[(x+1)%5+5*y]! &&& m[(x+2)%5+5*y]!))
def nK(m:St):Nat->St
 | 0=>So 25 0
 | x+1=>uU m x (nK m x) 5
def eR(a:St)(tn:Array Nat)(c:BitVec 64):St:=bJ (nK (mH a tn (mM a 5) 5) 5) 0 c
theorem wA(a:St)(x:Nat)(c:St)(y:Nat):(wB a x c y).size=c.size:=by
 induction y with
 | zero=>rfl
 | succ y ih=>simp[wB,bX,ih]
theorem Di(a:St)(x:Nat):(mM a x).size=5:=by
 induction x with
 | zero=>simp[mM]
 | succ x ih=>simp[mM,wA,ih]
theorem vD(a:St)(tn:Array Nat)(x:Nat)(v:BitVec 64)(m:St)(y:Nat):(vE a tn x v m y).size=m.size:=by
 induction y with
 | zero=>rfl
 | succ y ih=>simp[vE,ih]
theorem CP(a:St)(tn:Array Nat)(c:St)(x:Nat):(mH a tn c x).size=25:=by
 induction x with
 | zero=>simp[mH]
 | succ x ih=>simp[mH,vD,ih]
theorem uS(m:St)(x:Nat)(o:St)(y:Nat):(uU m x o y).size=o.size:=by
 induction y with
 | zero=>rfl
 | succ y ih=>simp[uU,ih]
theorem uR(m:St)(x:Nat):(nK m x).size=25:=by
 induction x with
 | zero=>simp[nK]
 | succ x ih=>simp[nK,uS,ih]
theorem wZ(a:St)(tn:Array Nat)(c:BitVec 64):(eR a tn c).size=25:=by simp[eR,bX,uR]
structure Of where
 x:Nat
 y:Nat
 o:Array Nat
def jT:Nat->Of
 | 0=>{ x:=1,y:=0,o:=So 25 0 }
 | t+1=>{ x:=(jT t).y,y:=(2*(jT t).x+3*(jT t).y)%5,o:=(jT t).o.setIfInBounds ((jT t).x%5+5*((jT t).y%5)) (uX t) }
def cU:Array Nat:=(jT 24).o
theorem Lc(t:Nat):(jT t).x<5/\(jT t).y<5/\(jT t).o.size=25:=by
 induction t with
 | zero=>exact⟨show 1<5 by decide,show 0<5 by decide,show(So 25 0).size=25 by simp⟩
 | succ t ih =>
  obtain⟨h1,h2,h3⟩:=ih;refine⟨h2,?_,?_⟩
  ·show(2*(jT t).x+3*(jT t).y)%5<5;omega
  ·show((jT t).o.setIfInBounds _ _).size=25;rw[Tg,h3]
def AL:Nat->Nat
 | 0=>1
 | i+1=>lM (AL i)
def LU(t:Nat):BitVec 64:=U9 64 (AL t%2)
def BA(r:Nat):Nat->BitVec 64
 | 0=>0
 | j+1=>BA r j ||| LU (j+7*r) <<< (2^j-1)
def Dg(r:Nat):BitVec 64:=BA r 7
def AM(d:St):Nat->St
 | 0=>d
 | k+1=>eR (AM d k) cU (Dg k)
end SP
namespace SP
theorem OE:∀k:Fin 24,Dg k.val=rcC (xA k.val):=dK
theorem uW:cU=#[0,1,62,28,27,36,44,6,55,20,3,10,43,25,39,41,45,15,21,8,18,2,61,56,14]:=dK
theorem G6(x:BitVec 64):rol x 0=x:=by
 unfold rol;rw[BitVec.shiftLeft_zero,VP,BitVec.ushiftRight_eq_zero (Se 64),BitVec.or_zero]
theorem zx(x:BitVec 64):0 ^^^ x=x:=BitVec.zero_xor
theorem LI(a0 a1 a2 a3 a4 a5 a6 a7 a8 a9 a10 a11 a12 a13 a14 a15 a16 a17 a18 a19 a20 a21 a22 a23 a24:BitVec 64):mM #[a0,a1,a2,a3,a4,a5,a6,a7,a8,a9,a10,a11,a12,a13,a14,a15,a16,a17,a18,a19,a20,a21,a22,a23,a24] 5=#[0 ^^^ a0 ^^^ a5 ^^^ a10 ^^^ a15 ^^^ a20,0 ^^^ a1 ^^^ a6 ^^^ a11 ^^^ a16 ^^^ a21,0 ^^^ a2 ^^^ a7 ^^^ a12 ^^^ a17 ^^^ a22,0 ^^^ a3 ^^^ a8 ^^^ a13 ^^^ a18 ^^^ a23,0 ^^^ a4 ^^^ a9 ^^^ a14 ^^^ a19 ^^^ a24]:=kR
theorem GA(a0 a1 a2 a3 a4 a5 a6 a7 a8 a9 a10 a11 a12 a13 a14 a15 a16 a17 a18 a19 a20 a21 a22 a23 a24:BitVec 64):kN #[a0,a1,a2,a3,a4,a5,a6,a7,a8,a9,a10,a11,a12,a13,a14,a15,a16,a17,a18,a19,a20,a21,a22,a23,a24] 5=#[a0 ^^^ a5 ^^^ a10 ^^^ a15 ^^^ a20,a1 ^^^ a6 ^^^ a11 ^^^ a16 ^^^ a21,a2 ^^^ a7 ^^^ a12 ^^^ a17 ^^^ a22,a3 ^^^ a8 ^^^ a13 ^^^ a18 ^^^ a23,a4 ^^^ a9 ^^^ a14 ^^^ a19 ^^^ a24]:=kR
theorem OG(a0 a1 a2 a3 a4 a5 a6 a7 a8 a9 a10 a11 a12 a13 a14 a15 a16 a17 a18 a19 a20 a21 a22 a23 a24:BitVec 64):mM #[a0,a1,a2,a3,a4,a5,a6,a7,a8,a9,a10,a11,a12,a13,a14,a15,a16,a17,a18,a19,a20,a21,a22,a23,a24] 5=kN #[a0,a1,a2,a3,a4,a5,a6,a7,a8,a9,a10,a11,a12,a13,a14,a15,a16,a17,a18,a19,a20,a21,a22,a23,a24] 5:=by
 rw[LI,GA];simp only[zx]
theorem Lf(S:St)(a0 a1 a2 a3 a4 a5 a6 a7 a8 a9 a10 a11 a12 a13 a14 a15 a16 a17 a18 a19 a20 a21 a22 a23 a24:BitVec 64):mH #[a0,a1,a2,a3,a4,a5,a6,a7,a8,a9,a10,a11,a12,a13,a14,a15,a16,a17,a18,a19,a20,a21,a22,a23,a24] #[0,1,62,28,27,36,44,6,55,20,3,10,43,25,39,41,45,15,21,8,18,2,61,56,14] S 5=#[rol (a0 ^^^ bP S 0) 0,rol (a6 ^^^ bP S 1) 44,rol (a12 ^^^ bP S 2) 43,rol (a18 ^^^ bP S 3) 21,rol (a24 ^^^ bP S 4) 14,rol (a3 ^^^ bP S 3) 28,rol (a9 ^^^ bP S 4) 20,rol (a10 ^^^ bP S 0) 3,rol (a16 ^^^ bP S 1) 45,rol (a22 ^^^ bP S 2) 61,rol (a1 ^^^ bP S 1) 1,rol (a7 ^^^ bP S 2) 6,rol (a13 ^^^ bP S 3) 25,rol (a19 ^^^ bP S 4) 8,rol (a20 ^^^ bP S 0) 18,rol (a4 ^^^ bP S 4) 27,rol (a5 ^^^ bP S 0) 36,rol (a11 ^^^ bP S 1) 10,rol (a17 ^^^ bP S 2) 15,rol (a23 ^^^ bP S 3) 56,rol (a2 ^^^ bP S 2) 62,rol (a8 ^^^ bP S 3) 55,rol (a14 ^^^ bP S 4) 39,rol (a15 ^^^ bP S 0) 41,rol (a21 ^^^ bP S 1) 2]:=kR
theorem Kj(S:St)(a0 a1 a2 a3 a4 a5 a6 a7 a8 a9 a10 a11 a12 a13 a14 a15 a16 a17 a18 a19 a20 a21 a22 a23 a24:BitVec 64):oY (jD S #[a0,a1,a2,a3,a4,a5,a6,a7,a8,a9,a10,a11,a12,a13,a14,a15,a16,a17,a18,a19,a20,a21,a22,a23,a24] 5)=#[a0 ^^^ bP S 0,rol (a6 ^^^ bP S 1) 44,rol (a12 ^^^ bP S 2) 43,rol (a18 ^^^ bP S 3) 21,rol (a24 ^^^ bP S 4) 14,rol (a3 ^^^ bP S 3) 28,rol (a9 ^^^ bP S 4) 20,rol (a10 ^^^ bP S 0) 3,rol (a16 ^^^ bP S 1) 45,rol (a22 ^^^ bP S 2) 61,rol (a1 ^^^ bP S 1) 1,rol (a7 ^^^ bP S 2) 6,rol (a13 ^^^ bP S 3) 25,rol (a19 ^^^ bP S 4) 8,rol (a20 ^^^ bP S 0) 18,rol (a4 ^^^ bP S 4) 27,rol (a5 ^^^ bP S 0) 36,rol (a11 ^^^ bP S 1) 10,rol (a17 ^^^ bP S 2) 15,rol (a23 ^^^ bP S 3) 56,rol (a2 ^^^ bP S 2) 62,rol (a8 ^^^ bP S 3) 55,rol (a14 ^^^ bP S 4) 39,rol (a15 ^^^ bP S 0) 41,rol (a21 ^^^ bP S 1) 2]:=kR
theorem N8(S:St)(a0 a1 a2 a3 a4 a5 a6 a7 a8 a9 a10 a11 a12 a13 a14 a15 a16 a17 a18 a19 a20 a21 a22 a23 a24:BitVec 64):mH #[a0,a1,a2,a3,a4,a5,a6,a7,a8,a9,a10,a11,a12,a13,a14,a15,a16,a17,a18,a19,a20,a21,a22,a23,a24] cU S 5=oY (jD S #[a0,a1,a2,a3,a4,a5,a6,a7,a8,a9,a10,a11,a12,a13,a14,a15,a16,a17,a18,a19,a20,a21,a22,a23,a24] 5):=by
 rw[uW,Lf,Kj,G6]
theorem NS(a0 a1 a2 a3 a4 a5 a6 a7 a8 a9 a10 a11 a12 a13 a14 a15 a16 a17 a18 a19 a20 a21 a22 a23 a24:BitVec 64):nK #[a0,a1,a2,a3,a4,a5,a6,a7,a8,a9,a10,a11,a12,a13,a14,a15,a16,a17,a18,a19,a20,a21,a22,a23,a24] 5=chi #[a0,a1,a2,a3,a4,a5,a6,a7,a8,a9,a10,a11,a12,a13,a14,a15,a16,a17,a18,a19,a20,a21,a22,a23,a24]:=kR
theorem Oa{α:Type}(l:List α)(h:l.length=25):∃a0 a1 a2 a3 a4 a5 a6 a7 a8 a9 a10 a11 a12 a13 a14 a15 a16 a17 a18 a19 a20 a21 a22 a23 a24,l=[a0,a1,a2,a3,a4,a5,a6,a7,a8,a9,a10,a11,a12,a13,a14,a15,a16,a17,a18,a19,a20,a21,a22,a23,a24]:=by
 match l,h with
 | [a0,a1,a2,a3,a4,a5,a6,a7,a8,a9,a10,a11,a12,a13,a14,a15,a16,a17,a18,a19,a20,a21,a22,a23,a24],_=>exact⟨_,_,_,_,_,_,_,_,_,_,_,_,_,_,_,_,_,_,_,_,_,_,_,_,_,rfl⟩
theorem ML{α:Type}(d:Array α)(h:d.size=25):∃a0 a1 a2 a3 a4 a5 a6 a7 a8 a9 a10 a11 a12 a13 a14 a15 a16 a17 a18 a19 a20 a21 a22 a23 a24,d=#[a0,a1,a2,a3,a4,a5,a6,a7,a8,a9,a10,a11,a12,a13,a14,a15,a16,a17,a18,a19,a20,a21,a22,a23,a24]:=by
 obtain⟨l⟩:=d;obtain⟨a0,a1,a2,a3,a4,a5,a6,a7,a8,a9,a10,a11,a12,a13,a14,a15,a16,a17,a18,a19,a20,a21,a22,a23,a24,rfl⟩:=Oa l h;exact⟨_,_,_,_,_,_,_,_,_,_,_,_,_,_,_,_,_,_,_,_,_,_,_,_,_,rfl⟩
theorem KI(m:St)(h:m.size=25):nK m 5=chi m:=by
 obtain⟨a0,a1,a2,a3,a4,a5,a6,a7,a8,a9,a10,a11,a12,a13,a14,a15,a16,a17,a18,a19,a20,a21,a22,a23,a24,rfl⟩:=ML m h;exact NS _ _ _ _ _ _ _ _ _ _ _ _ _ _ _ _ _ _ _ _ _ _ _ _ _
theorem round_eq(d:St)(h:d.size=25)(c:BitVec 64):eR d cU c=mJ d c:=by
 have hm:mH d cU (mM d 5) 5=oY (sF d):=by
  obtain⟨a0,a1,a2,a3,a4,a5,a6,a7,a8,a9,a10,a11,a12,a13,a14,a15,a16,a17,a18,a19,a20,a21,a22,a23,a24,rfl⟩:=ML d h;rw[OG,N8];rfl
 unfold eR mJ;rw[hm,KI _ (kT _ (by rw[iO,h]))]
theorem G8(d:St)(h:d.size=25)(k:Nat)(hk:k<=24):AM d k=mE d k:=by
 induction k with
 | zero=>rfl
 | succ k ih =>
  show eR (AM d k) cU (Dg k)=mJ (mE d k) (rcC (xA k));rw[ih oM,OE ⟨k,oM⟩,round_eq _ (mD d h k)]
theorem CL:∀i,i<25->cU[i]! < 64:=by
 intro i hi;have H:∀j:Fin 25,cU[j.val]! < 64:=dK;exact H ⟨i,hi⟩
theorem lA:cU.size=25:=by rw[uW];rfl
end SP
namespace SP
open Go.Sort
def cV:St:=So 25 0
def kD(bs:Bs):Bs:=front (perm (fF bs cV 25)) 200
def nW(bs:Bs):Nat->St
 | 0=>cV
 | i+1=>(nW bs i).setIfInBounds (i/8) ((nW bs i)[i/8]! ||| wide bs[i]! <<< (8*(i%8)))
theorem kE(bs:Bs)(i:Nat):(nW bs i).size=25:=by
 induction i with
 | zero=>simp[nW,cV]
 | succ i ih=>simp[nW,ih]
theorem iJ(j:Nat)(h:j<25):cV[j]! = 0:=by
 have h':j<(So 25 (0:BitVec 64)).size:=by rw[SB];exact h
 unfold cV;rw[getElem!_pos (So 25 (0:BitVec 64)) j h',TL]
theorem KR(bs:Bs)(n j:Nat)(hn:n<=200)(hj:j<25):
 (nW bs n)[j]! = if j<n/8 then wordOf bs (8*j) else if j=n/8 then jS bs (8*j) (n%8) else 0:=by
 induction n with
 | zero =>
  rw[nW,iJ j hj];by_cases h:j=0
  ·subst h;rfl
  ·simp[h]
 | succ n ih =>
  have ih:=ih oM;rw[nW];by_cases hjn:j=n/8
  ·rw[<-hjn,getElem!_set_same _ _ _ (by rw[kE];omega),ih,if_neg oM,if_pos hjn];have hb:bs[n]! = bs[8*j+n%8]!:=by
    have:n=8*j+n%8:=oM;rw[<-this]
   rw[hb];show jS bs (8*j) (n%8+1)=_;by_cases h8:n%8=7
   ·rw[if_pos oM,h8];rfl
   ·rw[if_neg oM,if_pos oM,show(n+1)%8=n%8+1 by omega]
  ·rw[getElem!_set_other _ _ _ _ hjn,ih];by_cases h1:j<n/8
   ·rw[if_pos h1,if_pos oM]
   ·rw[if_neg h1,if_neg hjn,if_neg oM];by_cases h2:j=(n+1)/8
    ·rw[if_pos h2,show(n+1)%8=0 by omega];rfl
    ·rw[if_neg h2]
theorem pU(bs:Bs)(d:St)(hd:d.size=25)(n j:Nat)(hn:n<=25)(hj:j<25):(fF bs d n)[j]! = if j<n then d[j]! ^^^ wordOf bs (8*j) else d[j]!:=by
 induction n with
 | zero=>rfl
 | succ n ih =>
  have ih:=ih oM;rw[fF];unfold bJ;by_cases hjn:j=n
  ·rw[<-hjn,getElem!_set_same _ _ _ (by rw[dU,hd];exact hj),if_pos oM];rw[<-hjn]at ih;rw[ih,if_neg oM]
  ·rw[getElem!_set_other _ _ _ _ hjn,ih];by_cases h1:j<n
   ·rw[if_pos h1,if_pos oM]
   ·rw[if_neg h1,if_neg oM]
theorem Ce(a b:St)(ha:a.size=25)(hb:b.size=25)(h:∀j,j<25->a[j]! = b[j]!):a=b:=by
 apply Y9 oM;intro i h1 h2;have:=h i oM;rwa[getElem!_pos a i h1,getElem!_pos b i h2]at this
theorem NV(bs:Bs):nW bs 200=fF bs cV 25:=by
 have hz:cV.size=25:=by simp[cV]
 refine Ce _ _ (kE _ _) (by rw[dU,hz]) (λj hj=>?_);rw[KR bs 200 j (Se _) hj,pU bs cV hz 25 j (Se _) hj,if_pos oM,if_pos hj,iJ j hj,zx]
theorem Fc(bs:Bs):front (AM (nW bs 200) 24) 200=kD bs:=by
 rw[G8 _ (kE _ _) 24 (Se _),NV];rfl
end SP
namespace SP
open Go.RowKit Go.Sort
def fill(i:Nat):UInt8:=Sy (i%251) ^^^ 165
def lentTo(s:ByteArray):Nat->Bs
 | 0=>s.data++So 160 0
 | k+1=>(lentTo s k).setIfInBounds (s.size+k) (fill (s.size+k))
def lent(s:ByteArray):Bs:=lentTo s 160
variable {w w1:World}{b o n:Nat}
theorem heap_setCells(b:Nat){k:Nat}(hk:k≠b):∀(vs:List Value) (p:Nat) (w:World),(w.setCells b p vs).heap[k]? = w.heap[k]?
 | [],_,_=>rfl
 | v :: r,p,w=>by rw[World.setCells,heap_setCells b hk r (p+1) _,WI _ _ _ _ hk]
theorem Only.setCells(h:Only b o n w w1)(vs:List Value)(p:Nat)(hp:o<=p)(hn:p+vs.length<=o+n):Only b o n w (w1.setCells b p vs):=by
 have h0:=below_setCells (B:=0) (b:=b) (Us _) vs p w1 (SE 0 w1);exact h.trans ⟨h0.os,h0.tape,h0.output,h0.size,λk _ hk=>heap_setCells b hk vs p w1,
  λq hq=>XN b vs p w1 ⟨b,q,none⟩ (λ_ _=>by simp only;omega),λq=>XW b vs p w1 _⟩
theorem Holds.setCells{bs r:Bs}(h:Holds encB w b o bs)(vs:List Value)(p:Nat)(hr:r.size=bs.size)(hp:p+vs.length<=bs.size)
 (h1:∀j (hj:j<vs.length),vs[j]=encB r[p+j]!) (h2:∀j,j<bs.size->j<p\/p+vs.length<=j->r[j]! = bs[j]!):Holds encB (w.setCells b (o+p) vs) b o r:=by
 intro j hj;rw[hr]at hj;rw[XW];refine⟨?_,(h j hj).2⟩;by_cases hin:j<p\/p+vs.length<=j
 ·rw[XN b vs (o+p) w ⟨b,o+j,none⟩ (λ_ _=>by simp only;omega),h2 j hj hin];exact(h j hj).1
 ·have hj2:j-p<vs.length:=oM;have:=World.cell?_setCells_in b vs (o+p) w (λi hi=>by
   have:=(h (p+i) oM).1;rw[<-Uu]at this;rw[this];rfl) (j-p) hj2
  rw[show o+p+(j-p)=o+j by omega]at this;rw[this,h1 (j-p) hj2,show p+(j-p)=j by omega]
theorem app_front(a r:Bs)(j:Nat)(hj:j<a.size):(a++r)[j]! = a[j]:=by
 have h:j<(a++r).size:=by rw[Tw];omega
 rw[getElem!_pos (a++r) j h,Array.getElem_append_left hj]
theorem app_back(a r:Bs)(j:Nat)(h1:a.size<=j)(h2:j<a.size+r.size):(a++r)[j]! = r[j-a.size]!:=by
 have h:j<(a++r).size:=by rw[Tw];omega
 have h3:j-a.size<r.size:=oM;rw[getElem!_pos (a++r) j h,Array.getElem_append_right h1,getElem!_pos r (j-a.size) h3]
theorem rep_at(n j:Nat)(h:j<n):(So n (0:UInt8))[j]! = 0:=by
 have h':j<(So n (0:UInt8)).size:=by rw[SB];exact h
 rw[getElem!_pos (So n (0:UInt8)) j h',TL]
theorem conv_str(P:Program)(src dst e:TypeId)(hs:P.underlying src=some (.slice e))(he:P.underlying e=some (.int .u8))(hd:P.underlying dst=some .string)
 (w:World) (b o n cap:Nat) (bs:Bs) (hB:Holds encB w b o bs) (hn:bs.size=n):(convert src dst (.slice (some ⟨b,o,none⟩) n cap)).run P w=.ok (.string ⟨bs⟩) w:=by
 have h:=run_convert_bytes_back (P:=P) w src dst e ⟨b,o,none⟩ cap bs.toList hs he hd (λj hj=>by
  have hj':j<bs.size:=by simpa using hj
  have hc:=(hB j hj').1;rw[getElem!_pos bs j hj']at hc;have e1:(⟨b,o,none⟩:Addr).add j=⟨b,o+j,none⟩:=by
   unfold Vw;by_cases h0:j=0
   ·subst h0;rfl
   ·rw[if_neg h0]
  rw[e1,hc];simp[encB,ub])
 simpa[hn]using h
end SP
namespace SP
open Go.RowKit Go.Sort Go.Deep
theorem int5:prog.underlying 5=some (.int .u8):=kR
theorem str9:prog.underlying 9=some .string:=kR
end SP
namespace SP
open Go.Sort
/-! ### Words and bytes -/
theorem Gk(x : UInt8)(i : Nat): (wide x).getLsbD i=x.toNat.testBit i:=by
  unfold wide;rw[BitVec.getLsbD_ofNat];by_cases h : i<64
  · simp[h]
  · have : x.toNat.testBit i=false:=Yi (Si x.toNat_lt (TT dC (by omega : 8 <= i)))
    simp[h, this]
theorem xG(x:UInt8)(i:Nat)(h:8<=i):x.toNat.testBit i=false:=
 Yi (Si x.toNat_lt (TT dC h))
theorem nP(bs:Bs)(o n k:Nat)(hn:n<=8)(hk:k<64):(jS bs o n).getLsbD k=(decide (k<8*n) && (bs[o+k/8]!).toNat.testBit (k%8)):=by
 induction n with
 | zero=>simp[jS]
 | succ n ih =>
  rw[jS,BitVec.getLsbD_or,ih oM,BitVec.getLsbD_shiftLeft,Gk];by_cases h1:k<8*n
  ·simp[h1,hk,show k<8*(n+1) by omega]
  ·by_cases h2:k<8*(n+1)
   ·have e1:k/8=n:=oM;have e2:k-8*n=k%8:=oM;simp[h1,h2,hk,e1,e2]
   ·have:=xG bs[o+n]! (k-8*n) oM;simp[h1,h2,hk,this]
theorem low_bit(v:BitVec 64)(i:Nat)(h:i<8):(low v).toNat.testBit i=v.getLsbD i:=by
 unfold low;rw[Vq,Nat.testBit_mod_two_pow,BitVec.getLsbD];simp[h]
theorem C5(d:St)(n k j:Nat)(hk:k<=n)(hj:j<n):(eI d n k)[j]! = if j<k then byteOf d j else 0:=by
 induction k with
 | zero =>
  have h':j<(So n (0:UInt8)).size:=by rw[SB];exact hj
  rw[eI,getElem!_pos (So n (0:UInt8)) j h',TL,if_neg oM]
 | succ k ih =>
  rw[eI];by_cases h:j=k
  ·subst h;rw[getElem!_set_same _ _ _ (by rw[iI];exact hj),if_pos oM]
  ·rw[getElem!_set_other _ _ _ _ h,ih oM];by_cases h1:j<k
   ·rw[if_pos h1,if_pos oM]
   ·rw[if_neg h1,if_neg oM]
theorem iV(d:St)(n j:Nat)(hj:j<n):(front d n)[j]! = byteOf d j:=by
 unfold front;rw[C5 d n n j (Se _) hj,if_pos hj]
theorem t7(d:St)(n j:Nat)(hj:8*j+8<=n):wordOf (front d n) (8*j)=d[j]!:=by
 apply XO;intro k hk;unfold wordOf;rw[nP _ _ 8 k (Se _) hk,iV d n _ oM];unfold byteOf;have e1:(8*j+k/8)/8=j:=oM;have e2:(8*j+k/8)%8=k/8:=oM;rw[low_bit _ _ (Ug _ dC),BitVec.getLsbD_ushiftRight,e1,e2,show 8*(k/8)+k%8=k by omega];simp[hk]
theorem Fx(d:St)(hd:d.size=25):fF (front d 200) cV 25=d:=by
 have hz:cV.size=25:=by simp[cV]
 refine Ce _ _ (by rw[dU,hz]) hd (λj hj=>?_);rw[pU _ cV hz 25 j (Se _) hj,if_pos hj,iJ j hj,zx,t7 d 200 j oM]
theorem AZ(d:St)(hd:d.size=25):kD (front d 200)=front (perm d) 200:=by
 unfold kD;rw[Fx d hd]
/-! ### The sponge, byte by byte -/
structure Sp where
  d : St
  p : Bs
  h : Nat
structure Ok(S:Sp):Prop where
 d25:S.d.size=25
 p136:S.p.size=136
 hlt:S.h<136
def jF(S:Sp):Sp:={ d:=perm (fF S.p S.d 17),p:=S.p,h:=0 }
def xB(S:Sp)(x:UInt8):Sp:=
 if S.h+1=136 then jF { d:=S.d,p:=S.p.setIfInBounds S.h x,h:=S.h } else { d:=S.d,p:=S.p.setIfInBounds S.h x,h:=S.h+1 }
def dZ(S:Sp)(l:List UInt8):Sp:=l.foldl xB S
def splice(p:Bs):Nat->List UInt8->Bs
 | _,[]=>p
 | i,x :: r=>splice (p.setIfInBounds i x) (i+1) r
theorem fO(S:Sp)(a b:List UInt8):dZ S (a++b)=dZ (dZ S a) b:=List.foldl_append
theorem cO(p:Bs)(i:Nat)(l:List UInt8):(splice p i l).size=p.size:=by
 induction l generalizing p i with
 | nil=>rfl
 | cons x r ih=>rw[splice,ih,Tg]
theorem gB(p:Bs)(i:Nat)(l:List UInt8)(j:Nat)(hl:i+l.length<=p.size)(hj:j<p.size):(splice p i l)[j]! = if i<=j/\j<i+l.length then l[j-i]! else p[j]!:=by
 induction l generalizing p i with
 | nil=>simp[splice];omega
 | cons x r ih =>
  simp only[Tc]at hl;rw[splice,ih _ _ (by rw[Tg];omega) (by rw[Tg];exact hj)];by_cases h:j=i
  ·subst h;rw[if_neg oM,getElem!_set_same _ _ _ hj,if_pos (by simp),WP];rfl
  ·rw[getElem!_set_other _ _ _ _ h];by_cases h1:i+1<=j/\j<i+1+r.length
   ·rw[if_pos h1,if_pos (by simp;omega),show j-i=(j-(i+1))+1 by omega];rfl
   ·rw[if_neg h1,if_neg (by simp;omega)]
theorem kQ(d:St)(p:Bs)(h:Nat):jF ⟨d,p,h⟩=⟨perm (fF p d 17),p,0⟩:=by unfold jF;rfl
theorem J7(S:Sp):(jF S).d=perm (fF S.p S.d 17):=by
 obtain⟨d,p,h⟩:=S;rw[kQ]
theorem J5(S:Sp):(jF S).p=S.p:=by
 obtain⟨d,p,h⟩:=S;rw[kQ]
theorem J6(S:Sp):(jF S).h=0:=by
 obtain⟨d,p,h⟩:=S;rw[kQ]
theorem J4{S:Sp}(h1:S.d.size=25)(h2:S.p.size=136):Ok (jF S):=by
 have hd:(fF S.p S.d 17).size=25:=by rw[dU,h1]
 refine⟨?_,by rw[J5,h2],?_⟩
 ·rw[J7];exact rF _ hd
 ·rw[J6];decide
theorem D8{S:Sp}(h:Ok S)(x:UInt8):Ok (xB S x):=by
 have:=h.hlt;unfold xB;by_cases e:S.h+1=136
 ·rw[if_pos e];exact J4 h.d25 (by show(S.p.setIfInBounds _ _).size=136;rw[Tg];exact h.p136)
 ·rw[if_neg e];exact⟨h.d25,by show(S.p.setIfInBounds _ _).size=136;rw[Tg];exact h.p136,by show S.h+1<136;omega⟩
theorem fN{S:Sp}(h:Ok S)(l:List UInt8):Ok (dZ S l):=by
 induction l generalizing S with
 | nil=>exact h
 | cons x r ih=>exact ih (D8 h x)
theorem NI{S:Sp}(h:Ok S)(x:UInt8):(xB S x).h=(S.h+1)%136:=by
 have:=h.hlt;unfold xB;by_cases e:S.h+1=136
 ·rw[if_pos e,e];rfl
 ·rw[if_neg e,SA oM]
theorem DL{S:Sp}(h:Ok S)(l:List UInt8):(dZ S l).h=(S.h+l.length)%136:=by
 induction l generalizing S with
 | nil=>exact(SA h.hlt).symm
 | cons x r ih =>
  show(dZ (xB S x) r).h=_;rw[ih (D8 h x),NI h x,Tc];omega
theorem lS(S:Sp)(l:List UInt8)(hl:l≠[])(hle:S.h+l.length<=136):
 dZ S l=if S.h+l.length=136 then jF { d:=S.d,p:=splice S.p S.h l,h:=S.h } else { d:=S.d,p:=splice S.p S.h l,h:=S.h+l.length }:=by
 induction l generalizing S with
 | nil=>exact absurd rfl hl
 | cons x r ih =>
  show dZ (xB S x) r=_;simp only[Tc]at hle⊢;cases r with
  | nil =>
   unfold xB dZ splice;simp only[List.foldl_nil,UE];by_cases e:S.h+1=136
   ·rw[if_pos e,if_pos oM];rfl
   ·rw[if_neg e,if_neg oM];rfl
  | cons y r' =>
   have e:¬S.h+1=136:=by simp only[Tc]at hle;omega
   have hp:xB S x = { d:=S.d,p:=S.p.setIfInBounds S.h x,h:=S.h+1 }:=by unfold xB;rw[if_neg e]
   rw[hp,ih _ (by simp) (by simp only[Tc]at hle⊢;omega)];simp only[splice,Tc];by_cases e2:S.h+(r'.length+1+1)=136
   ·rw[if_pos oM,if_pos e2];rfl
   ·rw[if_neg oM,if_neg e2,show S.h+1+(r'.length+1)=S.h+(r'.length+1+1) by omega]
/-! ### The end -/
def ended(p : Bs)(h : Nat)(e : UInt8): Bs:=
  let q:=(splice p h (TE (136-h) 0)).setIfInBounds h e
  q.setIfInBounds 135 (q[135]! ^^^ 128)
def rP(S:Sp)(e:UInt8):Sp:=jF { d:=S.d,p:=ended S.p S.h e,h:=S.h }
def gR(h:Nat)(e:UInt8):List UInt8:=
 (e :: TE (135-h) 0).set (135-h) ((e :: TE (135-h) 0)[135-h]! ^^^ 128)
theorem eB(h:Nat)(e:UInt8)(hh:h<136):(gR h e).length=136-h:=by
 unfold gR;rw[List.length_set,Tc,Uk];omega
theorem Ai(a b:Bs)(n:Nat)(ha:a.size=n)(hb:b.size=n)(h:∀j,j<n->a[j]! = b[j]!):a=b:=by
 apply Y9 oM;intro i h1 h2;have:=h i oM;rwa[getElem!_pos a i h1,getElem!_pos b i h2]at this
theorem NQ(h:Nat)(e:UInt8)(j:Nat)(hj:j<136-h)(hh:h<136):(gR h e)[j]! = (if j=0 then e else 0) ^^^ (if j=135-h then 128 else 0):=by
 have hc:∀j,j<136-h->(e :: TE (135-h) (0:UInt8))[j]! = if j=0 then e else 0:=by
  intro j hj;cases j with
  | zero=>rfl
  | succ j =>
   have hl:j+1<(e :: TE (135-h) (0:UInt8)).length:=by rw[Tc,Uk];omega
   rw[getElem!_pos (e :: TE (135-h) (0:UInt8)) (j+1) hl];simp
 have hlen:=eB h e hh;have hl:j<(e :: TE (135-h) (0:UInt8)).length:=by rw[Tc,Uk];omega
 rw[getElem!_pos (gR h e) j (by rw[hlen];exact hj)];unfold gR;rw[List.getElem_set];by_cases h1:135-h=j
 ·rw[if_pos h1,hc (135-h) oM,h1,if_pos (rfl:j=j)]
 ·rw[if_neg h1,if_neg (show ¬j=135-h by omega)];have:=hc j hj;rw[getElem!_pos (e :: TE (135-h) (0:UInt8)) j hl]at this;rw[this];simp
theorem Db(p:Bs)(h:Nat)(e:UInt8):(ended p h e).size=p.size:=by
 unfold ended;simp only[Tg,cO]
theorem AK(n j:Nat)(h:j<n):(TE n (0:UInt8))[j]! = 0:=by
 rw[getElem!_pos _ j (by simpa using h)];simp
theorem IU(p:Bs)(h:Nat)(e:UInt8)(hp:p.size=136)(hh:h<136):ended p h e=splice p h (gR h e):=by
 have hs:(splice p h (TE (136-h) 0)).size=136:=by rw[cO,hp]
 refine Ai _ _ 136 (by rw[Db,hp]) (by rw[cO,hp]) (λj hj=>?_);have hq:∀j,j<136->((splice p h (TE (136-h) 0)).setIfInBounds h e)[j]! = if j<h then p[j]! else if j=h then e else 0:=by
  intro j hj;by_cases h1:j=h
  ·rw[h1,getElem!_set_same _ _ _ oM,if_neg oM,if_pos rfl]
  ·rw[getElem!_set_other _ _ _ _ h1,gB _ _ _ _ (by rw[Uk,hp];omega) oM,Uk];by_cases h2:j<h
   ·rw[if_neg oM,if_pos h2]
   ·rw[if_pos oM,if_neg h2,if_neg h1,AK _ _ oM]
 have hR:(splice p h (gR h e))[j]! = if j<h then p[j]! else(if j=h then e else 0) ^^^ (if j=135 then 128 else 0):=by
  rw[gB _ _ _ _ (by rw[eB h e hh,hp];omega) oM,eB h e hh];by_cases h2:j<h
  ·rw[if_neg (show ¬(h<=j/\j<h+(136-h)) by omega),if_pos h2]
  ·rw[if_pos (show h<=j/\j<h+(136-h) by omega),if_neg h2,NQ h e _ oM hh];have e1:(j-h=0)=(j=h):=by apply propext;omega
   have e2:(j-h=135-h)=(j=135):=by apply propext;omega
   simp only[e1,e2]
 have hL:(ended p h e)[j]! = if j<h then p[j]! else(if j=h then e else 0) ^^^ (if j=135 then 128 else 0):=by
  unfold ended;by_cases h135:j=135
  ·rw[h135,getElem!_set_same _ _ _ (by rw[Tg,hs];decide),hq 135 dC,if_neg (show ¬135<h by omega),if_neg (show ¬135<h by omega),if_pos (rfl:135=135)]
  ·rw[getElem!_set_other _ _ _ _ h135,hq j hj];by_cases h2:j<h
   ·rw[if_pos h2,if_pos h2]
   ·rw[if_neg h2,if_neg h2,if_neg h135];simp
 rw[hL,hR]
theorem yE{S:Sp}(h:Ok S)(e:UInt8):rP S e=dZ S (gR S.h e):=by
 have:=h.hlt;have hl:=eB S.h e h.hlt;rw[lS S _ (by intro c;rw[c]at hl;simp at hl;omega) oM,if_pos oM];unfold rP;rw[IU _ _ _ h.p136 h.hlt]
end SP
namespace SP
open Go.RowKit Go.Sort Go.Deep
theorem Only.widen{b o n o' n':Nat}{w w':World}(h:Only b o n w w')(h1:o'<=o)(h2:o+n<=o'+n'):Only b o' n' w w':=
 ⟨h.os,h.tape,h.output,h.size,h.block,λq hq=>h.cell q oM,h.froz⟩
structure HSp(w:World)(b:Nat)(S:Sp):Prop where
 d:Holds enc w b 0 S.d
 p:Holds encB w b 25 S.p
 h:w.cell? ⟨b,161,none⟩=some (iZ (S.h:Int))
 f:w.frozen? ⟨b,161,none⟩=false
theorem HSp.drew{w:World}{b:Nat}{S:Sp}(h:HSp w b S):HSp w.drew b S:=⟨h.d,h.p,h.h,h.f⟩
theorem HSp.lt{w:World}{b:Nat}{S:Sp}(h:HSp w b S):b<w.heap.size:=TV _ _ h.h
theorem HSp.below{w w':World}{b B:Nat}{S:Sp}(h:HSp w b S)(k:Below B w w')(hb:b<B):HSp w' b S:=
 ⟨Holds.below h.d k hb,Holds.below h.p k hb,by rw[k.cell (p:=⟨b,161,none⟩) hb];exact h.h,by rw[k.frozen (p:=⟨b,161,none⟩) hb];exact h.f⟩
theorem uD(b:Nat)(S:Sp)(w:World)(h25:S.d.size=25)(h136:S.p.size=136)(hS:HSp w b S):
 Calls prog 175 #[pZ b] w λe w'=>e=.returned (.tuple #[])/\Only b 0 162 w w'/\HSp w' b (jF S):=by
 obtain⟨d,p,h⟩:=S;dsimp only at h25 h136;have hD:Holds enc w b 0 d:=hS.d;have hP:Holds encB w b 25 p:=hS.p;have hc:=hS.h;have hf:=hS.f;dsimp only at hc;rw[kQ];clear hS;have hps:(perm (fF p d 17)).size=25:=rF _ (by rw[dU,h25]);generalize hpm:perm (fF p d 17)=pd at hps⊢;have HPM:Hid (perm (fF p d 17)=pd):=hpm;clear hpm;go_enter Tryz.func175,Tryz.ntmps175;go_wp2;go_still_tail 7,mixed;go_wp2_with fail
 refine(Lh b 0 b 25 136 136 p d _ h25 (Holds.drew hD) (Holds.drew hP) h136 dC (Se _) oM).mono ?_;rintro e w1 ⟨rfl,hO1,hD1⟩;have hO1':Only b 0 25 w w1:=((Only.refl b 0 25 w).drew).trans hO1;have hD1':Holds enc w1 b 0 (fF p d 17):=hD1;have hP1:=Holds.same hP hO1' oM;have c1:w1.cell? ⟨b,161,none⟩=some (iZ h):=by rw[hO1'.cell 161 oM];exact hc
 have f1:w1.frozen? ⟨b,161,none⟩=false:=by rw[hO1'.froz];exact hf
 clear hO1 hD1;go_wp2_with fail
 refine(sK b 0 _ _ (by rw[dU,h25]) hD1').mono ?_;rintro e w2 ⟨rfl,hO2,hD2⟩;rw[HPM.out]at hD2;have hP2:=Holds.same hP1 hO2 oM;have c2:w2.cell? ⟨b,161,none⟩=some (iZ h):=by rw[hO2.cell 161 oM];exact c1
 have f2:w2.frozen? ⟨b,161,none⟩=false:=by rw[hO2.froz];exact f1
 go_wp2
 go_end0
 have hO3:Only b 161 1 w2 (w2.setCell ⟨b,161,none⟩ (iZ 0)):=(Only.refl b 161 1 w2).setCell oM oM _;have hD3:=Holds.same hD2 hO3 (SY oM);have hP3:=Holds.same hP2 hO3 (SY oM);exact⟨rfl,((hO1'.trans hO2).widen (Se _) oM).trans (hO3.widen oM oM),⟨hD3,hP3,Tb _ _ _ c2,by rw[S3];exact f2⟩⟩
theorem ints5:(prog.info? 5).map (·.size)=some 1:=kR
theorem fW{w:World}{b o:Nat}{p:Bs}(h:Holds encB w b o p)(i:Nat)(l:List UInt8)(hi:i+l.length<=p.size):Holds encB (w.setCells b (o+i) (l.map encB)) b o (splice p i l):=by
 refine Holds.setCells h _ i (cO p i l) (by rw[SO];exact hi) (λj hj=>?_) (λj hj hout=>?_)
 ·rw[SO]at hj;rw[gB p i l (i+j) hi oM,if_pos oM,VH,getElem!_pos l j hj,UM]
 ·rw[SO]at hout;rw[gB p i l j hi hj,if_neg oM]
def piece(bs:Bs)(k n:Nat):List UInt8:=(bs.toList.drop k).take n
theorem pK(bs:Bs)(k n:Nat)(h:k+n<=bs.size):(piece bs k n).length=n:=by
 unfold piece;rw[UZ,Wi,Sx];omega
theorem piece_at(bs:Bs)(k n j:Nat)(h:k+n<=bs.size)(hj:j<n)(hl:j<(piece bs k n).length):(piece bs k n)[j]=bs[k+j]!:=by
 have e:(piece bs k n)[j]? = some bs[k+j]!:=by
  unfold piece;rw[List.getElem?_take_of_lt hj,List.getElem?_drop,Tn,SS oM,getElem!_pos bs (k+j) oM]
 exact(SI.1 e).2
theorem B8(bs:Bs)(k n:Nat):bs.toList.take (k+n)=bs.toList.take k++piece bs k n:=Zw
theorem Df{w:World}{b h sb o len cap n:Nat}{p bs:Bs}{k:Nat}(hP:Holds encB w b 25 p)(hp:p.size=136)(hB:Holds encB w sb o bs)(hh:h<136)(hk:k+len<=bs.size)(hn:Z4 len (136-h)=n):
 (YH #[23,23] 3 #[.slice (some ⟨b,25+h,none⟩) (136-h) (136-h),.slice (some ⟨sb,o+k,none⟩) len cap]).run prog w=.ok (goInt n) (w.setCells b (25+h) ((piece bs k n).map encB)):=by
 have hnl:n<=len:=by rw[<-hn];exact Zm _ _
 have hnh:n<=136-h:=by rw[<-hn];exact Za _ _
 have hlen:((piece bs k n).map encB).length=n:=by rw[SO,pK bs k n oM]
 have:=run_copy_cells (P:=prog) w 23 23 3 5 b (25+h) (136-h) (136-h) ⟨sb,o+k,none⟩ len cap ((piece bs k n).map encB) slice22 ints5 (by rw[hlen,hn])
  (λj v hj=>by
   obtain⟨h1,h2⟩:=SI.1 hj;rw[hlen]at h1;have hc:=(hB (k+j) oM).1;rw[UM,piece_at bs k n j oM h1]at h2;have e1:(⟨sb,o+k,none⟩:Addr).add j=⟨sb,o+(k+j),none⟩:=by
    unfold Vw;by_cases h0:j=0
    ·subst h0;rw[if_pos rfl];rfl
    ·rw[if_neg h0,Uu]
   rw[e1,hc,h2])
  (λj hj=>by
   rw[hlen]at hj;have:=(hP (h+j) oM).1;rw[<-Uu]at this;rw[this];rfl)
  (λj hj=>by
   rw[hlen]at hj;have:=(hP (h+j) oM).2;rw[<-Uu]at this;exact this)
  (λv hv=>by
   obtain⟨x,_,rfl⟩:=Tq.1 hv;rfl)
 rw[hlen]at this;exact this
theorem pY{w:World}{b:Nat}{d:St}{p:Bs}{v:Value}(hD:Holds enc w b 0 d)(h25:d.size=25)(hP:Holds encB w b 25 p)(h136:p.size=136)(hc:w.cell? ⟨b,161,none⟩=some v)(hf:w.frozen? ⟨b,161,none⟩=false)(m:Nat):
 HSp (w.setCell ⟨b,161,none⟩ (iZ ((m:Nat):Int))) b ⟨d,p,m⟩:=by
 have hO:Only b 161 1 w (w.setCell ⟨b,161,none⟩ (iZ ((m:Nat):Int))):=(Only.refl b 161 1 w).setCell oM oM _;have hD3:=Holds.same hD hO (SY oM);have hP3:=Holds.same hP hO (SY oM);exact⟨hD3,hP3,Tb _ _ _ hc,by rw[S3];exact hf⟩
theorem take_any(b:Nat)(S:Sp)(a:Option Addr)(sb so len cap:Nat)(bs:Bs)(w:World)(hok:Ok S)(hS:HSp w b S)(hl:bs.size=len)(hcap:len<=cap)(hbig:len<=1099511627776)
 (hsrc:len=0\/(a=some ⟨sb,so,none⟩/\sb≠b/\Holds encB w sb so bs)) :
 Calls prog 174 #[pZ b,.slice a len cap] w λe w'=>e=.returned (.tuple #[])/\Only b 0 162 w w'/\HSp w' b (dZ S bs.toList):=by
 go_enter Tryz.func174,Tryz.ntmps174;go_wp2;go_loopg [1] len (λg s1 wr=>∃(k:Nat) (a':Option Addr) (Sk:Sp),k+g=len/\s1=.slice a' (len-k) (cap-k)/\(k<len->a'=some ⟨sb,so+k,none⟩)/\HSp wr b Sk/\Only b 0 162 w wr/\Hid (Sk=dZ S (bs.toList.take k)))
 case atStart =>
  refine⟨0,a,S,oM,rfl,λh0=>?_,hS,Only.refl _ _ _ _,rfl⟩;rcases hsrc with h|⟨h,_,_⟩
  ·omega
  ·exact h
 case round =>
  obtain⟨k,a',Sk,hk,rfl,ha',hSk,hO,HE⟩:=hrel;by_cases hlt:k<len
  ·have e1:=ha' hlt;subst e1;obtain⟨_,hne,hB⟩:a=some ⟨sb,so,none⟩/\sb≠b/\Holds encB w sb so bs:=by
    rcases hsrc with h|h
    ·omega
    ·exact h
   have hBr:=Holds.other hB hO hne oM;have hokk:Ok Sk:=by rw[HE.out];exact fN hok _
   obtain⟨q,hh⟩:∃q,Sk.h=q:=⟨_,rfl⟩
   have hlt136:=hokk.hlt;have hsz:=hokk.p136;rw[hh]at hlt136;have hc:=hSk.h;have hf:=hSk.f;rw[hh]at hc;have hP:=hSk.p;obtain⟨n,hn⟩:∃n,Z4 (len-k) (136-q)=n:=⟨_,rfl⟩
   have l0:(0:Int)<((len-k:Nat):Int):=oM;have hh136:(q:Int)<=136:=oM;have Hh:Hid (Sk.h=q):=hh;clear hh;have hne136:=eq_false oM;have hn1:1<=n:=by rw[<-hn];exact(Nat.le_min).2 ⟨oM,oM⟩
   have hnl:n<=len-k:=by rw[<-hn];exact Zm _ _
   have hnh:n<=136-q:=by rw[<-hn];exact Za _ _
   have hcp:=Df (w:=wr.drew) (cap:=cap-k) (k:=k) hP hsz hBr hlt136 oM hn;have hpl:=pK bs k n oM;have hP1:=fW (Holds.drew hP) q (piece bs k n) oM;have hO1:Only b 0 162 w (wr.drew.setCells b (25+q) ((piece bs k n).map encB)):=hO.drew.setCells _ _ oM (by rw[SO];omega);have hOx:Only b 25 136 wr (wr.drew.setCells b (25+q) ((piece bs k n).map encB)):=((Only.refl b 25 136 wr).drew).setCells _ _ oM (by rw[SO];omega);have hD1:=Holds.same hSk.d hOx (SY (by rw[hokk.d25];omega));have c1:(wr.drew.setCells b (25+q) ((piece bs k n).map encB)).cell? ⟨b,161,none⟩=some (iZ q):=by rw[hOx.cell 161 oM];exact hc
   have f1:(wr.drew.setCells b (25+q) ((piece bs k n).map encB)).frozen? ⟨b,161,none⟩=false:=by rw[hOx.froz];exact hf
   have HT:Hid (dZ S (bs.toList.take (k+n))=dZ Sk (piece bs k n)):=by
    show _=_;rw[B8,fO,<-HE.out]
   have HCH:Hid (dZ Sk (piece bs k n)=if q+n=136 then jF ⟨Sk.d,splice Sk.p q (piece bs k n),q⟩ else⟨Sk.d,splice Sk.p q (piece bs k n),q+n⟩):=by
    show _=_;have:=lS Sk (piece bs k n) (by intro e;rw[e]at hpl;simp at hpl;omega) (by rw[hpl,Hh.out];omega);rw[hpl,Hh.out]at this;exact this
   have hss:(splice Sk.p q (piece bs k n)).size=136:=by rw[cO,hsz]
   have hds:=hokk.d25;generalize hW1:wr.drew.setCells b (25+q) ((piece bs k n).map encB)=W1 at hcp hP1 hO1 hD1 c1 f1;generalize splice Sk.p q (piece bs k n)=sp at hP1 hss HCH;generalize Sk.d=sd at hD1 hds HCH;clear hOx hW1 hP hBr hokk hpl hSk hsz hn;have z1:(n:Int)<=((len-k:Nat):Int):=oM;by_cases hcn:cap-k=n
   ·have hcn':(cap-k=n)=True:=eq_true hcn;have HCN:Hid (cap-k=n):=hcn;clear hcn;by_cases hfull:q+n=136
    ·have hb:((q:Int)+(n:Int) == 136)=true:=beq_iff_eq.2 oM;rw[if_pos hfull]at HCH;go_wp2_with fail
     go_still_tail 9,mixed;go_wp2_with fail
     refine(uD b ⟨sd,sp,q+n⟩ _ hds hss (pY hD1 hds hP1 hss c1 f1 (q+n))).mono ?_;rintro e w2 ⟨rfl,hO2,hS2⟩;go_wp2;go_roundg (gk-n)
     case measure=>omega
     case rel =>
      refine⟨k+n,some ⟨sb,so+k,none⟩,jF ⟨sd,sp,q⟩,oM,by rw[Vv,Vv],λhx=>by have:=HCN.out;omega,?_,?_,?_⟩
      ·rw[kQ]at hS2⊢;exact hS2
      ·exact(hO1.setCell (o:=161) oM oM _).trans hO2
      ·rw[HT.out,HCH.out];rfl
    ·have hb:=beq_eq_false_iff_ne.2 oM;rw[if_neg hfull]at HCH;go_wp2_with fail
     go_still_tail 9,mixed;go_wp2;go_roundg (gk-n)
     case measure=>omega
     case rel =>
      refine⟨k+n,some ⟨sb,so+k,none⟩,⟨sd,sp,q+n⟩,oM,by rw[Vv,Vv],λhx=>by have:=HCN.out;omega,?_,?_,?_⟩
      ·exact pY hD1 hds hP1 hss c1 f1 (q+n)
      ·exact hO1.setCell (o:=161) oM oM _
      ·rw[HT.out,HCH.out];rfl
   ·have hcn':=eq_false hcn;by_cases hfull:q+n=136
    ·have hb:=beq_iff_eq.2 oM;rw[if_pos hfull]at HCH;go_wp2_with fail
     go_still_tail 9,mixed;go_wp2_with fail
     refine(uD b ⟨sd,sp,q+n⟩ _ hds hss (pY hD1 hds hP1 hss c1 f1 (q+n))).mono ?_;rintro e w2 ⟨rfl,hO2,hS2⟩;go_wp2;go_roundg (gk-n)
     case measure=>omega
     case rel =>
      refine⟨k+n,some ⟨sb,so+k+n,none⟩,jF ⟨sd,sp,q⟩,oM,by rw[Vv,Vv],λ_=>by rw[Uu],?_,?_,?_⟩
      ·rw[kQ]at hS2⊢;exact hS2
      ·exact(hO1.setCell (o:=161) oM oM _).trans hO2
      ·rw[HT.out,HCH.out];rfl
    ·have hb:=beq_eq_false_iff_ne.2 oM;rw[if_neg hfull]at HCH;go_wp2_with fail
     go_still_tail 9,mixed;go_wp2;go_roundg (gk-n)
     case measure=>omega
     case rel =>
      refine⟨k+n,some ⟨sb,so+k+n,none⟩,⟨sd,sp,q+n⟩,oM,by rw[Vv,Vv],λ_=>by rw[Uu],?_,?_,?_⟩
      ·exact pY hD1 hds hP1 hss c1 f1 (q+n)
      ·exact hO1.setCell (o:=161) oM oM _
      ·rw[HT.out,HCH.out];rfl
  ·have hk0:k=len:=oM;go_wp2
   go_end0
   refine⟨rfl,hO,?_⟩;have e1:bs.toList.take k=bs.toList:=Wo (by rw[Sx];omega);rw[HE.out,e1]at hSk;exact hSk
theorem pS(x:UInt8):UN 8 (x.toNat:Int)=x.toBitVec:=by
 apply Yb;rw[Yg,WB];exact SA x.toNat_lt
theorem yJ(x y:UInt8):bits .xor .u8 (ub x) (ub y)=ub (x ^^^ y):=by
 show Xp.wrap ((UN 8 (x.toNat:Int) ^^^ UN 8 (y.toNat:Int)).toNat:Int)=_;rw[pS,pS,<-UInt8.toBitVec_xor];have h:((x ^^^ y).toNat:Int)<256:=by have:=(x ^^^ y).toNat_lt;omega
 have e:∀n:Int,Xp.wrap n=n%256:=λn=>by simp[Y6,Y7,YG]
 rw[e];exact Y4 (Int.natCast_nonneg _) h
theorem Mg(x:UInt8):bits .xor .u8 (ub x) 128=ub (x ^^^ 128):=yJ x 128
theorem Pa:∀w:World,(zeroValue 5).run prog w=.ok (.int .u8 0) w:=λ_=>kR
theorem BB{w:World}{b q:Nat}{p:Bs}(hP:Holds encB w b 25 p)(hp:p.size=136)(hq:q<136)(ty:TypeId):
 (YI #[23] ty #[.slice (some ⟨b,25+q,none⟩) (136-q) (136-q)]).run prog w=.ok (.tuple #[]) (w.setCells b (25+q) ((TE (136-q) (0:UInt8)).map encB)):=by
 have h:=Lib.run_clear_slice (P:=prog) w 23 5 ty (.int .u8 0) slice22 Pa rfl rfl b (25+q) (136-q) (136-q) oM
  (λj hj=>by
   have:=(hP (q+j) oM).1;rw[<-Uu]at this;rw[this];rfl)
  (λj hj=>by
   have:=(hP (q+j) oM).2;rw[<-Uu]at this;exact this)
 rw[List.map_replicate];exact h
theorem Ez(b:Nat)(S:Sp)(e:UInt8)(w:World)(hok:Ok S)(hS:HSp w b S):
 Calls prog 152 #[pZ b,.int .u8 (ub e)] w λr w'=>r=.returned (.tuple #[])/\Only b 0 162 w w'/\HSp w' b (rP S e):=by
 obtain⟨d,p,q⟩:=S;have h25:d.size=25:=hok.d25;have h136:p.size=136:=hok.p136;have hq:q<136:=hok.hlt;have hD:Holds enc w b 0 d:=hS.d;have hP:Holds encB w b 25 p:=hS.p;have hc:w.cell? ⟨b,161,none⟩=some (iZ q):=hS.h;have hf:=hS.f;have hcl:=BB (Holds.drew hP) h136 hq 0;have hOx:Only b 25 136 w (w.drew.setCells b (25+q) ((TE (136-q) (0:UInt8)).map encB)):=((Only.refl b 25 136 w).drew).setCells _ _ oM (by rw[SO,Uk];omega);have hP1:=fW (Holds.drew hP) q (TE (136-q) (0:UInt8)) (by rw[Uk];omega);have hs1:(splice p q (TE (136-q) 0)).size=136:=by rw[cO,h136]
 have HF:Hid (rP ⟨d,p,q⟩ e=jF ⟨d,((splice p q (TE (136-q) 0)).setIfInBounds q e).setIfInBounds 135 (((splice p q (TE (136-q) 0)).setIfInBounds q e)[135]! ^^^ 128),q⟩):=by
  show _=_;unfold rP ended;rfl
 generalize w.drew.setCells b (25+q) ((TE (136-q) (0:UInt8)).map encB)=W1 at hcl hOx hP1;generalize splice p q (TE (136-q) 0)=sp at hP1 hs1 HF;have hne136:(136=q)=False:=eq_false oM;have hq136:(q:Int)<=136:=oM;have hq136':(q:Int)<136:=oM;have c1:W1.cell? ⟨b,161,none⟩=some (iZ q):=by rw[hOx.cell 161 oM];exact hc
 obtain⟨c2,f2⟩:=hP1 q oM;obtain⟨sp2,hsp2⟩:∃s,sp.setIfInBounds q e=s:=⟨_,rfl⟩
 rw[hsp2]at HF;have hs2:sp2.size=136:=by rw[<-hsp2,Tg,hs1]
 obtain⟨x,hx⟩:∃x,sp2[135]! = x:=⟨_,rfl⟩
 rw[hx]at HF;have hx80:=Mg x;have hP2:=Holds.set hP1 (i:=q) oM e;rw[hsp2]at hP2;have hO2:Only b 25 136 w (W1.setCell ⟨b,25+q,none⟩ (.int .u8 (ub e))):=hOx.setCell (o:=25+q) oM oM _;have hP2':Holds encB (W1.setCell ⟨b,25+q,none⟩ (.int .u8 (ub e))) b 25 sp2:=hP2;have HX:Hid (sp2[135]! = x):=hx;rw[HF.out];clear hS hok hP hsp2 hx hP2 HF;have hs3:(sp2.setIfInBounds 135 (x ^^^ 128)).size=136:=by rw[Tg,hs2]
 go_enter Tryz.func152,Tryz.ntmps152;go_wp2;go_still_tail 8,mixed;go_wp2_with fail
 go_region
 go_wp2_with fail
 generalize W1.setCell ⟨b,25+q,none⟩ (.int .u8 (ub e))=W2 at hP2' hO2⊢;obtain⟨c3,f3⟩:=qL hP2' 135 oM HX.out;clear c1 c2 f2 hcl hP1;go_region
 go_wp2_with fail
 have hP3:=Holds.set hP2' (i:=135) oM (x ^^^ 128);have hO3:Only b 25 136 w (W2.setCell ⟨b,160,none⟩ (.int .u8 (ub (x ^^^ 128)))):=hO2.setCell (o:=160) oM oM _;have hP3':Holds encB (W2.setCell ⟨b,160,none⟩ (.int .u8 (ub (x ^^^ 128)))) b 25 (sp2.setIfInBounds 135 (x ^^^ 128)):=hP3;generalize W2.setCell ⟨b,160,none⟩ (.int .u8 (ub (x ^^^ 128)))=W3 at hP3' hO3⊢;have hD3:Holds enc W3 b 0 d:=Holds.same hD hO3 (SY oM);have hS3:HSp W3 b ⟨d,sp2.setIfInBounds 135 (x ^^^ 128),q⟩:=⟨hD3,hP3',by rw[hO3.cell 161 oM];exact hc,by rw[hO3.froz];exact hf⟩
 refine(uD b ⟨d,sp2.setIfInBounds 135 (x ^^^ 128),q⟩ _ h25 hs3 hS3.drew.drew).mono ?_;rintro r w4 ⟨rfl,hO4,hS4⟩;go_wp2
 go_end0
 exact⟨rfl,(hO3.drew.drew.widen oM oM).trans hO4,hS4⟩
end SP
namespace SP
open Go.Sort
def dT(d:St):Nat->St
 | 0=>d
 | m+1=>perm (dT d m)
theorem cY(d:St)(hd:d.size=25)(m:Nat):(dT d m).size=25:=by
 induction m with
 | zero=>exact hd
 | succ m ih=>exact rF _ ih
def dH(d:St)(j:Nat):UInt8:=byteOf (dT d (j/136)) (j%136)
def fU(d:St)(n:Nat):Bs:=Array.ofFn (λi:Fin n=>dH d i.val)
theorem fQ(d:St)(n:Nat):(fU d n).size=n:=by simp[fU]
theorem nQ(d:St)(n j:Nat)(hj:j<n):(fU d n)[j]! = dH d j:=by
 rw[getElem!_pos (fU d n) j (by rw[fQ];exact hj)];simp[fU]
def S0:Sp:=⟨cV,So 136 0,0⟩
theorem qN:Ok S0:=⟨by simp[S0,cV],by simp[S0],dC⟩
def i7(l:List UInt8)(e:UInt8):St:=(rP (dZ S0 l) e).d
theorem mR(l:List UInt8)(e:UInt8):(i7 l e).size=25:=by
 unfold i7;have h:=fN qN l;rw[yE h];exact(fN h _).d25
def yD(l:List UInt8):Bs:=front (i7 l 6) 32
def uB(l:List UInt8)(n:Nat):Bs:=fU (i7 l 31) n
theorem Bn(l:List UInt8):yD l=fU (i7 l 6) 32:=by
 unfold yD;refine Ai _ _ 32 (aQ _ _) (fQ _ _) (λj hj=>?_);rw[iV _ _ _ hj,nQ _ _ _ hj];unfold dH;rw[VB oM,SA oM];rfl
/-! ### The reference: all bytes with what stands behind them, piece by piece -/
def total(l : List UInt8)(e : UInt8): List UInt8:=l ++ gR (l.length%136) e
theorem oK(l:List UInt8)(e:UInt8):(total l e).length=136*(l.length/136+1):=by
 unfold total;rw[Su,eB _ _ (Ug _ dC)];omega
theorem Al(l:List UInt8)(e:UInt8):i7 l e=(dZ S0 (total l e)).d:=by
 unfold i7 total;have h:=fN qN l;have hh:=DL qN l;rw[fO,yE h,hh];have:S0.h=0:=rfl;rw[this,Sj]
def oH(st:Bs)(T:List UInt8)(o:Nat):Nat->Bs
 | 0=>st
 | k+1=>(oH st T o k).setIfInBounds k ((oH st T o k)[k]! ^^^ T[o+k]!)
theorem xI(st:Bs)(T:List UInt8)(o k:Nat):(oH st T o k).size=st.size:=by
 induction k with
 | zero=>rfl
 | succ k ih=>rw[oH,Tg,ih]
theorem JD(st:Bs)(T:List UInt8)(o k j:Nat)(hk:k<=st.size)(hj:j<st.size):(oH st T o k)[j]! = if j<k then st[j]! ^^^ T[o+j]! else st[j]!:=by
 induction k with
 | zero=>rfl
 | succ k ih =>
  rw[oH];by_cases h:j=k
  ·subst h;rw[getElem!_set_same _ _ _ (by rw[xI];exact hj),ih oM,if_neg oM,if_pos oM]
  ·rw[getElem!_set_other _ _ _ _ h,ih oM];by_cases h1:j<k
   ·rw[if_pos h1,if_pos oM]
   ·rw[if_neg h1,if_neg oM]
def jH(T:List UInt8):Nat->Bs
 | 0=>So 200 0
 | i+1=>kD (oH (jH T i) T (136*i) 136)
theorem BU:front cV 200=So 200 0:=by
 refine Ai _ _ 200 (aQ _ _) (by rw[SB]) (λj hj=>?_);have h':j<(So 200 (0:UInt8)).size:=by rw[SB];exact hj
 rw[iV _ _ _ hj,getElem!_pos (So 200 (0:UInt8)) j h',TL];unfold byteOf;rw[iJ _ oM];unfold low;simp
theorem JC(x y:UInt8)(i:Nat):(x ^^^ y).toNat.testBit i=(x.toNat.testBit i ^^ y.toNat.testBit i):=by
 rw[UInt8.toNat_xor,Nat.testBit_xor]
theorem Lg(d:St)(hd:d.size=25)(p:Bs)(T:List UInt8)(o:Nat)(hp:∀j,j<136->p[j]! = T[o+j]!):
 fF (oH (front d 200) T o 136) cV 25=fF p d 17:=by
 have hz:cV.size=25:=by simp[cV]
 refine Ce _ _ (by rw[dU,hz]) (by rw[dU,hd]) (λj hj=>?_);rw[pU _ cV hz 25 j (Se _) hj,if_pos hj,iJ j hj,zx,pU _ d hd 17 j dC hj];apply XO;intro k hk;have hb:∀m,m<200->(oH (front d 200) T o 136)[m]! = if m<136 then(front d 200)[m]! ^^^ T[o+m]! else(front d 200)[m]!:=λm hm =>
  JD _ _ _ _ _ (by rw[aQ];decide) (by rw[aQ];exact hm)
 have hw:=congrArg (λv=>v.getLsbD k) (t7 d 200 j oM);simp only[wordOf]at hw⊢;rw[nP _ _ 8 k (Se _) hk]at hw⊢;rw[hb _ oM];by_cases h17:j<17
 ·rw[if_pos oM,if_pos h17,BitVec.getLsbD_xor,<-hw,nP _ _ 8 k (Se _) hk,JC,hp _ oM];simp[hk]
 ·rw[if_neg oM,if_neg h17,<-hw]
theorem B9(T:List UInt8)(i:Nat):T.take (136*(i+1))=T.take (136*i)++(T.drop (136*i)).take 136:=by
 rw[show 136*(i+1)=136*i+136 by omega,Zw]
theorem G9(T:List UInt8)(i:Nat)(h:136*i<=T.length):jH T i=front (dZ S0 (T.take (136*i))).d 200:=by
 induction i with
 | zero =>
  rw[Nat.mul_zero,List.take_zero];exact BU.symm
 | succ i ih =>
  rw[jH,ih oM,B9 T i,fO];have hok:=fN qN (T.take (136*i));have hh:(dZ S0 (T.take (136*i))).h=0:=by
   rw[DL qN,UZ,Nat.min_eq_left oM];have:S0.h=0:=rfl;omega
  generalize dZ S0 (T.take (136*i))=S at hok hh;obtain⟨d,p,q⟩:=S;have hd:=hok.d25;have hp:p.size=136:=hok.p136;have hq:=hh;subst hq;have hl:((T.drop (136*i)).take 136).length=136:=by rw[UZ,Wi];omega
  rw[lS _ _ (by intro e;rw[e]at hl;simp at hl) (by rw[hl];exact Se _),hl,if_pos rfl,kQ];unfold kD;rw[Lg d hd (splice p 0 ((T.drop (136*i)).take 136)) T (136*i)];intro j hj;rw[gB _ _ _ _ (by rw[hl,hp];decide) oM,if_pos oM,VP,getElem!_pos _ j (by rw[hl];exact hj),getElem!_pos T (136*i+j) oM];rw[List.getElem_take,List.getElem_drop]
theorem AN(l:List UInt8)(e:UInt8):jH (total l e) (l.length/136+1)=front (i7 l e) 200:=by
 have h:=oK l e;rw[G9 _ _ oM,Al,Wo oM]
end SP
namespace SP
open Go.RowKit Go.Sort Go.Deep
theorem mP{w:World}{g l cap r k n c:Nat}{cur bs:Bs}(hC:Holds encB w g 0 cur)(hs:cur.size=cap)(hB:Holds encB w r 0 bs)(hk:bs.size=n)(hk2:k=n)(hroom:l+n<=cap)(ty:TypeId):
 (UG #[23,23] ty #[.slice (some (aZ g)) l cap,.slice (some (aZ r)) k c]).run prog w=.ok (.slice (some (aZ g)) (l+n) cap) (w.setCells g l (bs.toList.map encB)):=by
 subst hk2;obtain⟨i,hi,_,hsz,_⟩:=info_parts info5;have hlen:(bs.toList.map encB).length=k:=by rw[SO,Sx,hk]
 have hsrc:Src prog i.size 23 (.slice (some (aZ r)) k c) k (bs.toList.map encB) w:=by
  rw[hsz];refine Src.ofSlice w slice22 (aZ r) k c _ (by rw[hlen,UW]) (λj v hj=>?_) (λv hv=>?_)
  ·obtain⟨h1,h2⟩:=SI.1 hj;rw[hlen]at h1;have hc:=(hB j oM).1;rw[getElem!_pos bs j oM]at hc;rw[UM,UR]at h2;have e1:(⟨r,0,none⟩:Addr).add j=⟨r,0+j,none⟩:=by
    unfold Vw;by_cases h0:j=0
    ·subst h0;rw[if_pos rfl]
    ·rw[if_neg h0]
   rw[e1,hc,h2]
  ·obtain⟨x,_,rfl⟩:=Tq.1 hv;rfl
 have h:=run_append_room_src (P:=prog) w 23 23 ty 5 i slice22 hi g 0 l cap (.slice (some (aZ r)) k c) k _ hsrc hroom
  (λj hj=>by
   rw[hlen]at hj;rw[hsz,UW,Uu,(hC (l+j) oM).1];rfl)
  (λj hj=>by
   rw[hlen]at hj;rw[hsz,UW,Uu];exact(hC (l+j) oM).2)
 rw[hsz,UW,Sj]at h;exact h
theorem Only.with_new{b o n g m p:Nat}{w w1 w2:World}(h:Only b o n w w1)(k:Only g p m w1 w2)(hg:w.heap.size<=g)(hb:b<w.heap.size):Only b o n w w2:=by
 have hs:=h.size;have e:=k.block b oM oM;exact⟨k.os.trans h.os,k.tape.trans h.tape,k.output.trans h.output,SD h.size k.size,
  λj hj hn=>(k.block j oM oM).trans (h.block j hj hn),
  λq hq=>(SR (w:=w1) (a:=⟨b,q,none⟩) e).trans (h.cell q hq),λq=>(Uf (w:=w1) (a:=⟨b,q,none⟩) e).trans (h.froz q)⟩
theorem Cy(d:St)(m:Nat)(h:¬m=0):perm (dT d (m-1))=dT d m:=by
 obtain⟨k,rfl⟩:∃k,m=k+1:=⟨m-1,oM⟩
 rw[V4,dT]
theorem AB(d:St)(m:Nat)(cur:Bs)(hc:136*m+136<=cur.size)(h:∀j,j<136*m->cur[j]! = dH d j):∀j,j<136*(m+1)->(splice cur (136*m) (front (dT d m) 136).toList)[j]! = dH d j:=by
 intro j hj;have hl:(front (dT d m) 136).toList.length=136:=by rw[Sx,aQ]
 rw[gB _ _ _ _ (by rw[hl];exact hc) oM,hl];by_cases h1:j<136*m
 ·rw[if_neg oM,h j h1]
 ·rw[if_pos oM,getElem!_pos _ (j-136*m) (by rw[hl];omega),UR,<-getElem!_pos (front (dT d m) 136) (j-136*m) (by rw[aQ];omega),iV _ _ _ oM];unfold dH;rw[show j/136=m by omega,show j%136=j-136*m by omega]
theorem IG(b:Nat)(d:St)(n:Nat)(w:World)(h25:d.size=25)(hD:Holds enc w b 0 d)(hn:n<=16384):
 Calls prog 184 #[pZ b,iZ n] w λe w'=>e=.returned (.slice (some ⟨w.heap.size,0,none⟩) n n)/\Only b 0 25 w w'/\Holds encB w' w.heap.size 0 (fU d n):=by
 have hb:=Holds.lt hD oM;obtain⟨i,hi,hz0,hsz,hby⟩:=info_parts info5;obtain⟨cp,hcp⟩:∃c,n+136=c:=⟨_,rfl⟩
 have hmk:∀w:World,(Instr.makeSlice 23 (iZ 0) (iZ ((n:Int)+136))).run prog w=.ok (.slice (some ⟨w.heap.size,0,none⟩) 0 cp) (w.alloc (.cells (madeCells #[.int .u8 0] cp) 5)):=by
  intro w;have h:=run_make (P:=prog) w 23 5 i (.int .u8 0) slice22 hi hz0 .i64 .i64 0 ((n:Int)+136) oM oM (by rw[hby];omega) oM;rw[hsz,UW,show((n:Int)+136).toNat=cp by omega]at h;exact h
 have hC0:Holds encB (w.alloc (.cells (madeCells #[.int .u8 0] cp) 5)) w.heap.size 0 (So cp 0):=Holds.made (enc:=encB) w 5 cp 0;have hO0:Only b 0 25 w (w.alloc (.cells (madeCells #[.int .u8 0] cp) 5)):=(Only.refl _ _ _ _).alloc hb _;have hD0:=Holds.below hD ((SE w.heap.size w).alloc (Se _) (.cells (madeCells #[.int .u8 0] cp) 5)) hb;have hs0:w.heap.size<(w.alloc (.cells (madeCells #[.int .u8 0] cp) 5)).heap.size:=by simp
 have Hcp:=mk1 (hcp);go_enter Tryz.func184,Tryz.ntmps184;go_wp2;go_loopg [5] cp (λg s5 wr=>∃(m l:Nat) (cur:Bs),Hid (l=136*m)/\l+g=cp/\1<=g/\s5=.slice (some ⟨w.heap.size,0,none⟩) l cp/\Holds encB wr w.heap.size 0 cur/\cur.size=cp/\Holds enc wr b 0 (dT d (m-1))/\Only b 0 25 w wr/\w.heap.size<wr.heap.size/\Hid (∀j,j<136*m->cur[j]! = dH d j))
 case atStart=>exact⟨0,0,_,rfl,oM,by have:=Hcp.out;omega,rfl,hC0,by rw[SB],hD0,hO0,hs0,λj hj=>oM⟩
 case round =>
  obtain⟨m,l,cur,Hl,hg,hg1,rfl,hC,hcs,hDm,hO,hs,HE⟩:=hrel;have hps:=cY d h25 (m-1);by_cases hlt:l<n
  ·have hlt':(l:Int)<(n:Int):=oM;have HN:Hid (∀j,j<136*(m+1)->(splice cur l (front (dT d m) 136).toList)[j]! = dH d j):=by
    rw[Hl.out];exact AB d m cur (by rw[<-Hl.out];omega) HE
   by_cases hm0:m=0
   ·have hz0:¬(0:Int)<(l:Int):=by have:=Hl.out;omega
    have hDm0:Holds enc wr b 0 (dT d m):=by rw[hm0]at hDm⊢;exact hDm
    go_wp2_with fail
    refine(rO b 0 136 _ _ (cY d h25 m) hDm0 dC).mono ?_;rintro e w2 ⟨rfl,hb2,hF⟩;have hC2:=Holds.below hC hb2 (Holds.lt hC oM);have hD2:=Holds.below hDm0 hb2 (Holds.lt hDm0 (by rw[cY d h25];decide));have hap:=mP (l:=l) (k:=136) (n:=136) (c:=136) hC2 hcs hF (aQ _ _) rfl oM 23;have hC3:=fW hC2 l (front (dT d m) 136).toList (by rw[Sx,aQ];omega);rw[Sj]at hC3;have hO2:=hO.trans (Only.of_below hb2 rfl (Holds.lt hDm0 (by rw[cY d h25];decide)));have hOn:Only w.heap.size 0 cp w2 (w2.setCells w.heap.size l ((front (dT d m) 136).toList.map encB)):=(Only.refl _ _ _ _).setCells _ _ oM (by rw[SO,Sx,aQ];omega);have hO3:=hO2.with_new hOn (Se _) hb;have hD3:=Holds.other hD2 hOn oM (by rw[cY d h25];decide);have hs3:=Si (Holds.lt hC2 oM) hOn.size;generalize w2.setCells w.heap.size l ((front (dT d m) 136).toList.map encB)=W3 at hap hC3 hO3 hD3 hs3;have HAP:Hid _:=hap;go_wp2_with (at_builtin;refine UD _ rfl _ _ 23 23 rfl _ _ rfl rfl _ _ HAP.out ?_)
    go_roundg (gk-136)
    case measure=>omega
    case rel =>
     exact⟨m+1,l+136,_,by have:=Hl.out;show _=_;omega,oM,oM,rfl,hC3,by rw[cO,hcs],hD3,hO3,hs3,HN⟩
   ·have hpos:(0:Int)<(l:Int):=by have:=Hl.out;omega
    go_wp2_with fail
    refine(sK b 0 _ _ hps hDm).mono ?_;rintro e w1 ⟨rfl,hO1,hD1⟩;rw[Cy d m hm0]at hD1;have hC1:=Holds.other hC hO1 oM oM;have hO1':=hO.trans hO1;go_wp2_with fail
    refine(rO b 0 136 _ _ (cY d h25 m) hD1 dC).mono ?_;rintro e w2 ⟨rfl,hb2,hF⟩;have hC2:=Holds.below hC1 hb2 (Holds.lt hC1 oM);have hD2:=Holds.below hD1 hb2 (Holds.lt hD1 (by rw[cY d h25];decide));have hap:=mP (l:=l) (k:=136) (n:=136) (c:=136) hC2 hcs hF (aQ _ _) rfl oM 23;have hC3:=fW hC2 l (front (dT d m) 136).toList (by rw[Sx,aQ];omega);rw[Sj]at hC3;have hO2:=hO1'.trans (Only.of_below hb2 rfl (Holds.lt hD1 (by rw[cY d h25];decide)));have hOn:Only w.heap.size 0 cp w2 (w2.setCells w.heap.size l ((front (dT d m) 136).toList.map encB)):=(Only.refl _ _ _ _).setCells _ _ oM (by rw[SO,Sx,aQ];omega);have hO3:=hO2.with_new hOn (Se _) hb;have hD3:=Holds.other hD2 hOn oM (by rw[cY d h25];decide);have hs3:=Si (Holds.lt hC2 oM) hOn.size;have HAP:Hid _:=hap;go_wp2_with (at_builtin;refine UD _ rfl _ _ 23 23 rfl _ _ rfl rfl _ _ HAP.out ?_)
    go_roundg (gk-136)
    case measure=>omega
    case rel =>
     exact⟨m+1,l+136,_,by have:=Hl.out;show _=_;omega,oM,oM,rfl,hC3,by rw[cO,hcs],hD3,hO3,hs3,HN⟩
  ·have hge:(n:Int)<=(l:Int):=oM;go_wp2;go_ret;refine⟨rfl,hO,λj hj=>?_⟩;rw[fQ]at hj;have:=hC j oM;rw[HE.out j (by have:=Hl.out;omega)]at this;rw[nQ d n j hj];exact this
def eM:Array Value:=So 25 (uZ 0)++So 136 (.int .u8 0)++#[iZ 0]
theorem Gi:∀w:World,(zeroValue 223).run prog w=.ok (.agg eM) w:=λ_=>kR
theorem GL(j:Nat)(hj:j<25):eM[j]? = some (uZ 0):=by
 have h1:j<(So 25 (uZ 0)).size:=by rw[SB];exact hj
 unfold eM;rw[YD,VY h1,SS h1,TL]
theorem GI(j:Nat)(hj:j<136):eM[25+j]? = some (.int .u8 0):=by
 have h1:j<(So 136 (TW .u8 0)).size:=by rw[SB];exact hj
 unfold eM;rw[YD,Xz (by rw[SB];omega),SB,VH,VY h1,SS h1,TL]
theorem GK:eM[161]? = some (iZ 0):=by
 unfold eM;rw[Xz (by rw[Tw,SB,SB];decide),Tw,SB,SB];rfl
theorem Eo(w:World)(t:TypeId):HSp (w.alloc (.cells eM t)) w.heap.size S0:=by
 refine⟨λj hj=>?_,λj hj=>?_,?_,?_⟩
 ·have hj':j<25:=by simpa[S0,cV]using hj
  rw[S5,TU,Sj,GL j hj'];refine⟨?_,rfl⟩;have e:S0.d[j]! = 0:=iJ j hj';rw[e];rfl
 ·have hj':j<136:=by simpa[S0]using hj
  rw[S5,TU,GI j hj'];refine⟨?_,rfl⟩;have e:S0.p[j]! = 0:=rep_at 136 j hj';rw[e];rfl
 ·rw[S5,GK];rfl
 ·rw[TU]
theorem Dv(a:Option Addr)(sb so len cap n:Nat)(bs:Bs)(w:World)(hn:n<=16384)(hl:bs.size=len)(hcap:len<=cap)(hbig:len<=1099511627776)(hsrc:len=0\/(a=some ⟨sb,so,none⟩/\Holds encB w sb so bs)):
 Calls prog 177 #[.slice a len cap,iZ n] w λe w'=>∃r,e=.returned (.tuple #[.slice (some (aZ r)) n n,iZ 0])/\w.heap.size<=r/\Below w.heap.size w w'/\Holds encB w' r 0 (uB bs.toList n):=by
 have hS0:=Eo w 223;have hb0:Below w.heap.size w (w.alloc (.cells eM 223)):=(SE _ _).alloc (Se _) _;have hs0:w.heap.size<(w.alloc (.cells eM 223)).heap.size:=by simp
 have hsrc':len=0\/(a=some ⟨sb,so,none⟩/\sb≠w.heap.size/\Holds encB (w.alloc (.cells eM 223)) sb so bs):=by
  by_cases h0:len=0
  ·exact SY h0
  ·rcases hsrc with h|⟨h1,h2⟩
   ·exact SY h
   ·have hlt:=Holds.lt h2 oM;exact SJ ⟨h1,oM,Holds.below h2 hb0 hlt⟩
 have zv:=Gi;go_enter Tryz.func177,Tryz.ntmps177;go_wp2_with fail
 generalize w.alloc (.cells eM 223)=W1 at hS0 hb0 hs0 hsrc'⊢;refine(take_any w.heap.size S0 a sb so len cap bs W1 qN hS0 hl hcap hbig hsrc').mono ?_;rintro e w1 ⟨rfl,hO1,hS1⟩;go_wp2_with fail
 refine(Ez w.heap.size (dZ S0 bs.toList) 31 w1 (fN qN _) hS1).mono ?_;rintro e w2 ⟨rfl,hO2,hS2⟩;have hD2:=hS2.d;go_wp2_with fail
 refine(IG w.heap.size _ n _ (mR _ _) hD2 hn).mono ?_;rintro e w3 ⟨rfl,hO3,hF⟩;go_wp2
 go_ret2
 have s1:=hO1.size;have s2:=hO2.size;exact⟨w2.heap.size,rfl,oM,(hb0.trans ((hO1.trans hO2).below oM (Se _))).trans (hO3.below oM (Se _)),hF⟩
end SP
namespace SP
open Go.RowKit Go.Sort Go.Deep
def Own(B:Nat)(w:World)(v:Value)(T:List UInt8):Prop:=
 ∃g cap cur,v=.slice (some (aZ g)) T.length cap/\B<=g/\g<w.heap.size/\Array.size cur=cap/\T.length<=cap/\Holds encB w g 0 cur/\∀j,j<T.length->cur[j]! = T[j]!
theorem Holds.front{α:Type}[Inhabited α]{f:α->Value}{w:World}{b o:Nat}{d e:Array α}(h:Holds f w b o d)(hs:e.size<=d.size)(he:∀j,j<e.size->e[j]! = d[j]!):Holds f w b o e:=by
 intro j hj;rw[he j hj];exact h j oM
theorem mI(T:List UInt8)(j:Nat):T.toArray[j]! = T[j]!:=by
 by_cases h:j<T.length
 ·rw[getElem!_pos T.toArray j (by simpa using h),getElem!_pos T j h];simp
 ·rw[getElem!_neg T.toArray j (by simpa using h),getElem!_neg T j h]
theorem vK(a b:List UInt8)(j:Nat)(h:j<a.length):(a++b)[j]! = a[j]!:=by
 rw[getElem!_pos (a++b) j (by rw[Su];omega),getElem!_pos a j h,List.getElem_append_left h]
theorem nM(a b:List UInt8)(j:Nat)(h:a.length<=j)(h2:j<a.length+b.length):(a++b)[j]! = b[j-a.length]!:=by
 rw[getElem!_pos (a++b) j (by rw[Su];omega),getElem!_pos b (j-a.length) oM,List.getElem_append_right h]
variable {B:Nat}{w w1:World}{v:Value}{T:List UInt8}
theorem Own.holds{g cap n:Nat}(h:Own B w (.slice (some (aZ g)) n cap) T):B<=g/\n=T.length/\T.length<=cap/\Holds encB w g 0 T.toArray:=by
 obtain⟨g',cap',cur,hv,hg,_,hs,hl,hH,hT⟩:=h;injection hv with e1 e2 e3
 injection e1 with e1
 injection e1 with e1 _ _
 subst e1 e3;exact⟨hg,e2,hl,Holds.front hH (by simp;omega) (λj hj=>by rw[mI];exact(hT j (by simpa using hj)).symm)⟩
theorem Own.below(h:Own B w v T)(k:Below w.heap.size w w1):Own B w1 v T:=by
 obtain⟨g,cap,cur,hv,hg,hgl,hs,hl,hH,hT⟩:=h;exact⟨g,cap,cur,hv,hg,Si hgl k.size,hs,hl,Holds.below hH k hgl,hT⟩
theorem lH(s:ByteArray)(hB:B<=w.heap.size):
 ∃v' w',(convert 9 23 (.string s)).run prog w=.ok v' w'/\Own B w' v' s.data.toList/\Below w.heap.size w w'/\v'=.slice (some ⟨w.heap.size,0,none⟩) s.size (grownCap w s.size 0 5):=by
 have h:=Lib.run_convert_string_bytes (P:=prog) w 9 23 5 s str9 slice22 int5;have hcap:s.size<=grownCap w s.size 0 5:=by
  unfold grownCap ZV;exact Wn _ _
 have hl:s.data.size=s.size:=rfl;refine⟨_,_,h,⟨w.heap.size,grownCap w s.size 0 5,s.data++So (grownCap w s.size 0 5-s.size) 0,?_,hB,by rw[WS];omega,?_,?_,?_,?_⟩,?_,rfl⟩
 ·rw[Sx];rfl
 ·rw[Tw,SB];omega
 ·rw[Sx];omega
 ·intro j hj;rw[Tw,SB]at hj;have hb:=Lib.bytesWorld_at_new w 5 s;have hsz:(Vl w 5 s).size=grownCap w s.size 0 5:=by
   unfold Vl;rw[Tw,Array.size_map,SB];omega
  have hc:(Vl w 5 s)=(s.data++So (grownCap w s.size 0 5-s.size) 0).map encB:=by
   unfold Vl;rw[Array.map_append,Array.map_replicate];rfl
  have hj2:j<(s.data++So (grownCap w s.size 0 5-s.size) 0).size:=by rw[Tw,SB];exact hj
  constructor
  ·unfold World.cell?;rw[hb];simp only[Sj];rw[if_neg dC,hc,YA,SS hj2,WX,getElem!_pos _ j hj2]
  ·unfold World.frozen?;rw[hb];simp only[Sj,hsz];simp;omega
 ·intro j hj;rw[Sx]at hj;rw[app_front _ _ j hj,getElem!_pos s.data.toList j (by rw[Sx];exact hj),UR]
 ·refine⟨?_,?_,?_,?_,λk hk=>Lib.bytesWorld_at_old w 5 s k hk⟩
  ·unfold V7 Wj;rw[if_neg dC];rfl
  ·unfold V7 Wj;rw[if_neg dC];rfl
  ·unfold V7 Wj;rw[if_neg dC];rfl
  ·rw[WS];omega
theorem Holds.below'{α:Type}[Inhabited α]{f:α->Value}{w w1:World}{b o:Nat}{d:Array α}(h:Holds f w b o d)(k:Below w.heap.size w w1):Holds f w1 b o d:=by
 intro j hj;have hlt:=Holds.lt h oM;exact Holds.below h k hlt j hj
theorem CY(l:List UInt8):(yD l).size=32:=by rw[yD,aQ]
end SP
namespace SP
open Go.RowKit Go.Sort Go.Deep
def aX(n d:Nat):UInt8:=Sy (n/d)
theorem dM(n d:Nat):(n:Int)/(d:Int)%256=ub (aX n d):=by
 have e2:((n:Int)/(d:Int))=((n/d:Nat):Int):=by rw[VT]
 rw[e2];unfold ub aX;rw[Vq];omega
theorem pV(n:Nat):(n:Int)%256=ub (aX n 1):=by
 have:=dM n 1;rw[show((1:Nat):Int)=1 from rfl,Int.ediv_one]at this;exact this
def gJ(l:List UInt8):List UInt8:=[aX l.length 16777216,aX l.length 65536,aX l.length 256,aX l.length 1]++l
theorem gV(l:List UInt8):(gJ l).length=l.length+4:=by
 unfold gJ;rw[Su];simp only[Tc,UE];omega
theorem lF(w:World)(x y z t:UInt8):Holds encB (w.alloc (.cells #[.int .u8 (ub x),.int .u8 (ub y),.int .u8 (ub z),.int .u8 (ub t)] 5)) w.heap.size 0 #[x,y,z,t]:=by
 have h:=Holds.new (enc:=encB) w 5 #[x,y,z,t];have e:Z1 encB #[x,y,z,t]=#[.int .u8 (ub x),.int .u8 (ub y),.int .u8 (ub z),.int .u8 (ub t)]:=by simp[encB]
 rw[e]at h;exact h
theorem nI(b:Nat)(S:Sp)(a:Option Addr)(sb so len cap:Nat)(bs:Bs)(w:World)(hok:Ok S)(hS:HSp w b S)(hl:bs.size=len)(hcap:len<=cap)(hbig:len<=1099511627776)
 (hsrc:len=0\/(a=some ⟨sb,so,none⟩/\sb≠b/\Holds encB w sb so bs)) :
 Calls prog 151 #[pZ b,.slice a len cap] w λe w'=>e=.returned (.tuple #[])/\Only b 0 162 w w'/\HSp w' b (dZ S (gJ bs.toList)):=by
 have hb:=hS.lt;have b0:(len:Int)/16777216%256=ub (aX len 16777216):=dM len 16777216;have b1:(len:Int)/65536%256=ub (aX len 65536):=dM len 65536;have b2:(len:Int)/256%256=ub (aX len 256):=dM len 256;have b3:(len:Int)%256=ub (aX len 1):=pV len;have hF:Hid (gJ bs.toList=(#[aX len 16777216,aX len 65536,aX len 256,aX len 1]:Bs).toList++bs.toList):=by
  unfold gJ;rw[Sx,hl];rfl
 have h4:=lF w (aX len 16777216) (aX len 65536) (aX len 256) (aX len 1);generalize aX len 16777216=x0 at *;generalize aX len 65536=x1 at *;generalize aX len 256=x2 at *;generalize aX len 1=x3 at *;have hb0:Below w.heap.size w (w.alloc (.cells #[.int .u8 (ub x0),.int .u8 (ub x1),.int .u8 (ub x2),.int .u8 (ub x3)] 5)):=(SE _ _).alloc (Se _) _;have hS1:=hS.below hb0 hb;have hO0:Only b 0 162 w (w.alloc (.cells #[.int .u8 (ub x0),.int .u8 (ub x1),.int .u8 (ub x2),.int .u8 (ub x3)] 5)):=Only.of_below hb0 rfl hb;have hsrc1:len=0\/(a=some ⟨sb,so,none⟩/\sb≠b/\Holds encB (w.alloc (.cells #[.int .u8 (ub x0),.int .u8 (ub x1),.int .u8 (ub x2),.int .u8 (ub x3)] 5)) sb so bs):=by
  by_cases h0:len=0
  ·exact SY h0
  ·rcases hsrc with h|⟨h1,h2,h3⟩
   ·exact SY h
   ·exact SJ ⟨h1,h2,Holds.below h3 hb0 (Holds.lt h3 oM)⟩
 go_enter Tryz.func151,Tryz.ntmps151;go_wp2_with fail
 generalize w.alloc (.cells #[.int .u8 (ub x0),.int .u8 (ub x1),.int .u8 (ub x2),.int .u8 (ub x3)] 5)=W1 at h4 hb0 hS1 hO0 hsrc1⊢;refine(take_any b S (some ⟨w.heap.size,0,none⟩) w.heap.size 0 4 4 #[x0,x1,x2,x3] W1 hok hS1 rfl (Se _) dC (SJ ⟨rfl,oM,h4⟩)).mono ?_;rintro e w2 ⟨rfl,hO2,hS2⟩;have hsrc2:len=0\/(a=some ⟨sb,so,none⟩/\sb≠b/\Holds encB w2 sb so bs):=by
  by_cases h0:len=0
  ·exact SY h0
  ·rcases hsrc1 with h|⟨h1,h2,h3⟩
   ·exact SY h
   ·exact SJ ⟨h1,h2,Holds.other h3 hO2 h2 oM⟩
 go_wp2_with fail
 refine(take_any b _ a sb so len cap bs w2 (fN hok _) hS2 hl hcap hbig hsrc2).mono ?_;rintro e w3 ⟨rfl,hO3,hS3⟩;go_wp2
 go_end0
 refine⟨rfl,(hO0.trans hO2).trans hO3,?_⟩;rw[hF.out,fO];exact hS3
theorem yQ(s:ByteArray)(w:World)(hs:s.size<=1048576):
 Calls prog 128 #[.string s] w λe w'=>∃o,e=.returned (.string o)/\o.data.toList=gJ s.data.toList/\Below w.heap.size w w':=by
 have b0:=dM s.size 16777216;have b1:=dM s.size 65536;have b2:(s.size:Int)/256%256=ub (aX s.size 256):=dM s.size 256;have b3:(s.size:Int)%256=ub (aX s.size 1):=pV s.size;have hF:Hid (gJ s.data.toList=(#[aX s.size 16777216,aX s.size 65536,aX s.size 256,aX s.size 1]:Bs).toList++s.data.toList):=by
  unfold gJ;rw[Sx];rfl
 have h4:=lF w (aX s.size 16777216) (aX s.size 65536) (aX s.size 256) (aX s.size 1);generalize aX s.size 16777216=x0 at *;generalize aX s.size 65536=x1 at *;generalize aX s.size 256=x2 at *;generalize aX s.size 1=x3 at *;have kc:=conv_str prog 23 9 5 slice22 int5 str9 _ w.heap.size 0 4 4 #[x0,x1,x2,x3] h4 rfl;have c0:(s.size:Int)/16777216=ub x0:=oM;have c1:(s.size:Int)/65536=ub x1:=oM;go_enter Tryz.func128,Tryz.ntmps128;go_wp2;go_ret;refine⟨_,rfl,?_,(SE _ _).alloc (Se _) _⟩;rw[hF.out,Xs,Array.toList_append]
end SP
end Go.Proofs.YtnakcnljhmlikaaGreat
