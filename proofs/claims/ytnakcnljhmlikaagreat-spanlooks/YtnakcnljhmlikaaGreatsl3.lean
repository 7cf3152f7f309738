import Derived.Deep.LoopGhost
import Derived.Deep.RegionHeld3
import Derived.Deep.CutRange
import Derived.Deep.DeepCutAuto
import Derived.Laws.MakeOwn
import Derived.ChangeKeysEq
import Derived.Deep.AppendSrc
import Derived.Lib.AppendZeros
import Derived.LoopN
import Derived.Deep.RegionWith
import Derived.Test.YtnakcnljhmlikaaGreatsl2
set_option linter.unusedVariables false
set_option linter.constructorNameAsVariable false
set_option linter.unusedSimpArgs false
set_option maxRecDepth 1000000
set_option maxHeartbeats 4000000
namespace Go.Proofs.YtnakcnljhmlikaaGreat
open _root_.Array renaming getElem?_append_left->VY,getElem?_eq_getElem->SS,getElem?_toList->Tn,length_toList->Sx,replicate->So,size_append->Tw,size_extract->Uo,toArray_toList->UQ
open _root_.Classical renaming byContradiction->TQ
open _root_.Fin renaming ofNat->Ua
open _root_.Go.Act renaming put->Tt
open _root_.Go.Addr renaming add_mid->ZF
open _root_.Go.Builtin renaming append_->UG
open _root_.Go.Calls renaming quiet_of_same->Tx
open _root_.Go.Exit renaming inBlock->U5
open _root_.Go.Instr renaming alloc->Yn,indexAt->To,makeSlice->Uc
open _root_.Go.IntWalk renaming i64_in->Tv,i8_in->XE
open _root_.Go.Lib renaming wpList_append_run->UD
open _root_.Go.Op renaming eqItems->Y5,unary->ZE
open _root_.Go.Value renaming int->TW
open _root_.Go.World renaming alloc->TI,cell?_alloc_new->S5,setCell->UH,size_alloc->Sq
open _root_.Int renaming add_mul->ZU,add_zero->Xx,mul_assoc->XU,mul_comm->WW,natCast_mul->Uh,natCast_zero->Te,neg_neg->ZT,pow_succ->ZM,toNat_natCast->Vd,zero_mul->WV
open _root_.List renaming ext_getElem?->We,forall_mem_cons->Yl,getElem?_eq_none->UO,getElem?_eq_some_iff->SI,getElem?_map->Un,getElem?_toArray->VJ,length_map->SO,mem_cons_of_mem->S8,mem_cons_self->Ti,mem_range->TM,not_mem_nil->SL,range->TD,setIfInBounds_toArray->Sw,set_cons_succ->SN,set_cons_zero->SQ,size_toArray->Tf
open _root_.Nat renaming add_zero->Ur,div_div_eq_div_mul->U2,div_eq_of_lt->VB,eq_zero_or_pos->YK,le_of_lt->Uw,le_refl->Se,le_trans->SD,left_le_or->XL,lt_of_lt_of_le->Si,lt_succ_self->Vt,mod_eq_of_lt->SA,mul_add->U4,mul_comm->S9,mul_le_mul->T9,mul_le_mul_left->YE,mul_one->UW,mul_succ->V0,mul_zero->V8,ne_of_gt->TC,ne_of_lt->TJ,pos_of_neZero->VQ,pow_le_pow_right->TT,right_le_or->XA,sub_self->WP,zero_add->Sj
open _root_.Option renaming isSome_iff_exists->SU,map_eq_some_iff->Sf
open _root_.Or renaming inl->SY
open _root_.Prod renaming mk->Ud
open _root_.UInt8 renaming ofNat->Sy
open Go.Proofs.Tryz (prog)
section
open Go.RowKit Go.Sort
variable {P:Nat}[NeZero P]{N:Nat}
theorem sO(C:Fld P)(x y z:Fin P)(hz:z=0):Gives 170 #[(rv x y z)] (.bool true):=by
 intro w;go_enter Tryz.func170,Tryz.ntmps170;refine RG.M.enter [(0,.v (rv x y z))] 7 kR ?_;intro a0 M0;repeat refine wp_seq ?_
 refine M0.T [.m 0,.x (.bool false)] [(0,ws x++(ws y++(ws z)))] [] [ws x++(ws y++(ws z))] [1,2] ⟨RG.mk 0 209,RG.st,trivial⟩ ?_;intro j1 a1 w1 M1;repeat refine wp_seq ?_
 refine M1.U [.s (.p 0 8),.x (fv z),.x (fv (0:Fin P)),.x (.bool true),.x (.bool true)] [2] ⟨RG.st,RG.ld aN aJ,RG.se (kK (P:=P)),RG.aK rfl .eql 207 207 4 5 (fv z) (fv (0:Fin P)) (.bool true) rfl rfl RG.sx RG.sx (λw=>kR) (Ey C hz),RG.st,trivial⟩ ?_;intro a2 w2 M2;refine wp_ret ?_;refine bodyPost_ret (v:=(.bool true)) (RG.cK 2 rfl _ (M2.at (s:=(.v (.bool true))))) M2.sl.defers ?_;exact⟨_,rfl,M2.st.bel.below,rfl⟩
theorem sP(C:Fld P)(x y z:Fin P)(hz:¬z=0):Gives 170 #[(rv x y z)] (.bool false):=by
 intro w;go_enter Tryz.func170,Tryz.ntmps170;refine RG.M.enter [(0,.v (rv x y z))] 7 kR ?_;intro a0 M0;repeat refine wp_seq ?_
 refine M0.T [.m 0,.x (.bool false)] [(0,ws x++(ws y++(ws z)))] [] [ws x++(ws y++(ws z))] [1,2] ⟨RG.mk 0 209,RG.st,trivial⟩ ?_;intro j1 a1 w1 M1;repeat refine wp_seq ?_
 refine M1.U [.s (.p 0 8),.x (fv z),.x (fv (0:Fin P)),.x (.bool false),.x (.bool false)] [2] ⟨RG.st,RG.ld aN aJ,RG.se (kK (P:=P)),RG.aK rfl .eql 207 207 4 5 (fv z) (fv (0:Fin P)) (.bool false) rfl rfl RG.sx RG.sx (λw=>kR) (IQ C hz),RG.st,trivial⟩ ?_;intro a2 w2 M2;refine wp_ret ?_;refine bodyPost_ret (v:=(.bool false)) (RG.cK 2 rfl _ (M2.at (s:=(.v (.bool false))))) M2.sl.defers ?_;exact⟨_,rfl,M2.st.bel.below,rfl⟩
theorem Fg(C:Fld P)(x y:Fin P)(hz:x=0/\y=0):Gives 165 #[(pv x y)] (rv (0:Fin P) 0 0):=by
 intro w;have hfin:((rv (0:Fin P) (0:Fin P) (0:Fin P)):Value)=(rv (0:Fin P) 0 0):=by
  subst_vars;rfl
 rw[<-hfin];go_enter Tryz.func165,Tryz.ntmps165;refine RG.M.enter [(0,.v (pv x y))] 16 kR ?_;intro a0 M0;repeat refine wp_seq ?_
 refine M0.T [.m 0,.m 1] [(0,ws x++(ws y)),(1,RG.z 12)] [] [ws x++(ws y),RG.z 12] [1,2] ⟨RG.mk 0 114,RG.mk 1 209,trivial⟩ ?_;intro j1 i1 a1 w1 M1;repeat refine wp_seq ?_
 refine M1.U [.x (pv x y),.x (pv (0:Fin P) (0:Fin P)),.x (.bool true)] [2,5] ⟨RG.ld g9 i109,RG.se (gQ (P:=P)),RG.aK rfl .eql 114 114 3 4 (pv x y) (pv (0:Fin P) (0:Fin P)) (.bool true) rfl rfl RG.sx RG.sx (λw=>kR) (IP C hz),trivial⟩ ?_;intro a2 w2 M2;repeat refine wp_seq ?_
 refine wp_cond_true M2.ev ?_;repeat refine wp_seq ?_
 refine M2.T [.x (rv (0:Fin P) (0:Fin P) (0:Fin P)),.u 1] [] [(1,1,ws (0:Fin P)++(ws (0:Fin P)++(ws (0:Fin P))))] [ws x++(ws y),ws (0:Fin P)++(ws (0:Fin P)++(ws (0:Fin P)))] [2] ⟨RG.se (tG (P:=P)),RG.pt i117,trivial⟩ ?_;intro a3 w3 M3;refine wp_ret ?_;refine bodyPost_ret (v:=(rv (0:Fin P) (0:Fin P) (0:Fin P))) (RG.aE M3.st 2 209 rfl 1 _ rfl (M3.at (s:=(.p 1 0))) iG i117) M3.sl.defers ?_;exact⟨_,rfl,M3.st.bel.below,rfl⟩
theorem Fh(C:Fld P)(x y:Fin P)(hz:¬(x=0/\y=0)):Gives 165 #[(pv x y)] (rv x y 1):=by
 intro w;have hfin:((rv x y (1:Fin P)):Value)=(rv x y 1):=by
  subst_vars;rfl
 rw[<-hfin];go_enter Tryz.func165,Tryz.ntmps165;refine RG.M.enter [(0,.v (pv x y))] 16 kR ?_;intro a0 M0;repeat refine wp_seq ?_
 refine M0.T [.m 0,.m 1] [(0,ws x++(ws y)),(1,RG.z 12)] [] [ws x++(ws y),RG.z 12] [1,2] ⟨RG.mk 0 114,RG.mk 1 209,trivial⟩ ?_;intro j1 i1 a1 w1 M1;repeat refine wp_seq ?_
 refine M1.U [.x (pv x y),.x (pv (0:Fin P) (0:Fin P)),.x (.bool false)] [1,2,5] ⟨RG.ld g9 i109,RG.se (gQ (P:=P)),RG.aK rfl .eql 114 114 3 4 (pv x y) (pv (0:Fin P) (0:Fin P)) (.bool false) rfl rfl RG.sx RG.sx (λw=>kR) (Da C hz),trivial⟩ ?_;intro a2 w2 M2;repeat refine wp_seq ?_
 refine wp_cond_false M2.ev ?_;refine wp_skip ?_;repeat refine wp_seq ?_
 refine M2.D [.s (.p 0 0),.x (fv x),.c (fv x),.s (.p 0 4),.x (fv y),.c (fv y),.x (fv (1:Fin P)),.c (fv (1:Fin P)),.x (rv x y (1:Fin P)),.u 1] [] [(1,9,ws x++(ws y++(ws (1:Fin P))))] [ws x++(ws y),ws x++(ws y++(ws (1:Fin P)))] [2] ⟨RG.st,RG.ld u85 i85,RG.cl (tY C x),RG.st,RG.ld u85 i85,RG.cl (tY C y),RG.se (zK C),RG.cl (tY C (1:Fin P)),RG.st,RG.pt i117,trivial⟩ ?_;intro a3 w3 M3;refine wp_ret ?_;refine bodyPost_ret (v:=(rv x y (1:Fin P))) (RG.aE M3.st 2 209 rfl 1 _ rfl (M3.at (s:=(.p 1 0))) iG i117) M3.sl.defers ?_;exact⟨_,rfl,M3.st.bel.below,rfl⟩
theorem Fo(C:Fld P)(x1 y1 z1 x2 y2 z2:Fin P)(R:Value)(ha:z1=0->R=rv x2 y2 z2)(hb:¬z1=0->z2=0->R=rv x1 y1 z1)(hc:¬z1=0->¬z2=0->EC.cQ x1 z2=EC.cQ x2 z1/\EC.eH y1 z2=EC.eH y2 z1->R=rv (EC.twX x1 y1) (EC.twY x1 y1) (EC.twZ y1 z1))(hd:¬z1=0->¬z2=0->¬(EC.cQ x1 z2=EC.cQ x2 z1/\EC.eH y1 z2=EC.eH y2 z1)->R=rv (EC.plX (EC.cQ x1 z2) (EC.eH y1 z2) (EC.cQ x2 z1) (EC.eH y2 z1)) (EC.plY (EC.cQ x1 z2) (EC.eH y1 z2) (EC.cQ x2 z1) (EC.eH y2 z1)) (EC.plZ z1 z2 (EC.cQ x1 z2) (EC.cQ x2 z1))):Gives 147 #[(rv x1 y1 z1),(rv x2 y2 z2)] R:=by
 intro w;obtain⟨c1,hc1⟩:∃c,c=z1*z1:=⟨_,rfl⟩
 obtain⟨c2,hc2⟩:∃c,c=z2*z2:=⟨_,rfl⟩
 obtain⟨c3,hc3⟩:∃c,c=x1*c2:=⟨_,rfl⟩
 obtain⟨c4,hc4⟩:∃c,c=x2*c1:=⟨_,rfl⟩
 obtain⟨c5,hc5⟩:∃c,c=y1*c2:=⟨_,rfl⟩
 obtain⟨c6,hc6⟩:∃c,c=c5*z2:=⟨_,rfl⟩
 obtain⟨c7,hc7⟩:∃c,c=y2*c1:=⟨_,rfl⟩
 obtain⟨c8,hc8⟩:∃c,c=c7*z1:=⟨_,rfl⟩
 go_enter Tryz.func147,Tryz.ntmps147;refine RG.M.enter [(0,.v (rv x1 y1 z1)),(1,.v (rv x2 y2 z2))] 108 kR ?_;intro a0 M0;repeat refine wp_seq ?_
 refine M0.T [.m 0,.m 1,.m 2] [(0,ws x1++(ws y1++(ws z1))),(1,ws x2++(ws y2++(ws z2))),(2,RG.z 12)] [] [ws x1++(ws y1++(ws z1)),ws x2++(ws y2++(ws z2)),RG.z 12] [2,3,4] ⟨RG.mk 0 209,RG.mk 1 209,RG.mk 2 209,trivial⟩ ?_;intro j1 i1 m1 a1 w1 M1;repeat refine wp_seq ?_
 by_cases hz1:z1=0
 ·obtain rfl:=ha hz1;refine M1.U [.x (rv x1 y1 z1),.c (.bool true)] [3,4,19] ⟨RG.ld iG i117,RG.cl (sO C x1 y1 z1 hz1),trivial⟩ ?_;intro a2 w2 M2;repeat refine wp_seq ?_
  refine wp_cond_true M2.ev ?_;repeat refine wp_seq ?_
  refine M2.T [.x (rv x2 y2 z2),.u 2] [] [(2,1,ws x2++(ws y2++(ws z2)))] [ws x1++(ws y1++(ws z1)),ws x2++(ws y2++(ws z2)),ws x2++(ws y2++(ws z2))] [4] ⟨RG.ld iG i117,RG.pt i117,trivial⟩ ?_;intro a3 w3 M3;refine wp_ret ?_;refine bodyPost_ret (v:=(rv x2 y2 z2)) (RG.aE M3.st 4 209 rfl 2 _ rfl (M3.at (s:=(.p 2 0))) iG i117) M3.sl.defers ?_;exact⟨_,rfl,M3.st.bel.below,rfl⟩
 refine M1.U [.x (rv x1 y1 z1),.c (.bool false)] [2,3,4,19] ⟨RG.ld iG i117,RG.cl (sP C x1 y1 z1 hz1),trivial⟩ ?_;intro a2 w2 M2;repeat refine wp_seq ?_
 refine wp_cond_false M2.ev ?_;refine wp_skip ?_;repeat refine wp_seq ?_
 by_cases hz2:z2=0
 ·obtain rfl:=hb hz1 hz2;refine M2.U [.x (rv x2 y2 z2),.c (.bool true)] [2,4,22] ⟨RG.ld iG i117,RG.cl (sO C x2 y2 z2 hz2),trivial⟩ ?_;intro a3 w3 M3;repeat refine wp_seq ?_
  refine wp_cond_true M3.ev ?_;repeat refine wp_seq ?_
  refine M3.T [.x (rv x1 y1 z1),.u 2] [] [(2,1,ws x1++(ws y1++(ws z1)))] [ws x1++(ws y1++(ws z1)),ws x2++(ws y2++(ws z2)),ws x1++(ws y1++(ws z1))] [4] ⟨RG.ld iG i117,RG.pt i117,trivial⟩ ?_;intro a4 w4 M4;refine wp_ret ?_;refine bodyPost_ret (v:=(rv x1 y1 z1)) (RG.aE M4.st 4 209 rfl 2 _ rfl (M4.at (s:=(.p 2 0))) iG i117) M4.sl.defers ?_;exact⟨_,rfl,M4.st.bel.below,rfl⟩
 refine M2.U [.x (rv x2 y2 z2),.c (.bool false)] [2,3,4,22] ⟨RG.ld iG i117,RG.cl (sP C x2 y2 z2 hz2),trivial⟩ ?_;intro a3 w3 M3;repeat refine wp_seq ?_
 refine wp_cond_false M3.ev ?_;refine wp_skip ?_;repeat refine wp_seq ?_
 refine M3.D [.s (.p 0 8),.x (fv z1),.s (.p 0 8),.x (fv z1),.c (fv c1),.s (.p 1 8),.x (fv z2),.s (.p 1 8),.x (fv z2),.c (fv c2),.m 3,.m 4,.u 3,.u 4] [(10,RG.z 4),(11,RG.z 4)] [(3,12,ws c1),(4,13,ws c2)] [ws x1++(ws y1++(ws z1)),ws x2++(ws y2++(ws z2)),RG.z 12,ws c1,ws c2] [2,3,4,5,6] ⟨RG.st,RG.ld aN aJ,RG.st,RG.ld aN aJ,RG.cl ((aU C z1 z1).e hc1),RG.st,RG.ld aN aJ,RG.st,RG.ld aN aJ,RG.cl ((aU C z2 z2).e hc2),RG.mk 3 207,RG.mk 4 207,RG.pt aJ,RG.pt aJ,trivial⟩ ?_;intro j4 i4 a4 w4 M4;repeat refine wp_seq ?_
 refine M4.D [.s (.p 0 0),.x (fv x1),.x (fv c2),.c (fv c3),.s (.p 1 0),.x (fv x2),.x (fv c1),.c (fv c4),.m 5,.m 6,.u 5,.u 6] [(8,RG.z 4),(9,RG.z 4)] [(5,10,ws c3),(6,11,ws c4)] [ws x1++(ws y1++(ws z1)),ws x2++(ws y2++(ws z2)),RG.z 12,ws c1,ws c2,ws c3,ws c4] [2,3,4,5,6,7,8] ⟨RG.st,RG.ld aN aJ,RG.ld aN aJ,RG.cl ((aU C x1 c2).e hc3),RG.st,RG.ld aN aJ,RG.ld aN aJ,RG.cl ((aU C x2 c1).e hc4),RG.mk 5 207,RG.mk 6 207,RG.pt aJ,RG.pt aJ,trivial⟩ ?_;intro j5 i5 a5 w5 M5;repeat refine wp_seq ?_
 refine M5.D [.s (.p 0 4),.x (fv y1),.x (fv c2),.c (fv c5),.s (.p 1 8),.x (fv z2),.c (fv c6),.s (.p 1 4),.x (fv y2),.x (fv c1),.c (fv c7),.s (.p 0 8),.x (fv z1),.c (fv c8),.m 7,.m 8,.u 7,.u 8] [(14,RG.z 4),(15,RG.z 4)] [(7,16,ws c6),(8,17,ws c8)] [ws x1++(ws y1++(ws z1)),ws x2++(ws y2++(ws z2)),RG.z 12,ws c1,ws c2,ws c3,ws c4,ws c6,ws c8] [2,3,4,7,8,9,10] ⟨RG.st,RG.ld aN aJ,RG.ld aN aJ,RG.cl ((aU C y1 c2).e hc5),RG.st,RG.ld aN aJ,RG.cl ((aU C c5 z2).e hc6),RG.st,RG.ld aN aJ,RG.ld aN aJ,RG.cl ((aU C y2 c1).e hc7),RG.st,RG.ld aN aJ,RG.cl ((aU C c7 z1).e hc8),RG.mk 7 207,RG.mk 8 207,RG.pt aJ,RG.pt aJ,trivial⟩ ?_;intro j6 i6 a6 w6 M6;repeat refine wp_seq ?_
 by_cases hxy:EC.cQ x1 z2=EC.cQ x2 z1/\EC.eH y1 z2=EC.eH y2 z1
 ·have hR:=hc hz1 hz2 hxy;obtain⟨hx,hy⟩:=hxy;obtain⟨c9,hc9⟩:∃c,c=EC.twX x1 y1:=⟨_,rfl⟩
  obtain⟨c10,hc10⟩:∃c,c=EC.twY x1 y1:=⟨_,rfl⟩
  obtain⟨c11,hc11⟩:∃c,c=EC.twZ y1 z1:=⟨_,rfl⟩
  obtain rfl:R=rv c9 c10 c11:=hR.trans (by subst_vars;rfl);refine M6.U [.x (fv c3),.x (fv c4),.x (.bool true),.x (.bool true),.x (fv c6),.x (fv c8),.x (.bool true),.x (.bool true)] [2,4,63] ⟨RG.ld aN aJ,RG.ld aN aJ,RG.aK rfl .eql 207 207 56 57 (fv c3) (fv c4) (.bool true) rfl rfl RG.sx RG.sx (λw=>kR) (Ey C (by subst_vars;exact hx)),RG.st,RG.ld aN aJ,RG.ld aN aJ,RG.aK rfl .eql 207 207 60 61 (fv c6) (fv c8) (.bool true) rfl rfl RG.sx RG.sx (λw=>kR) (Ey C (by subst_vars;exact hy)),RG.st,trivial⟩ ?_;intro a7 w7 M7;repeat refine wp_seq ?_
  refine wp_cond_true M7.ev ?_;repeat refine wp_seq ?_
  refine M7.T [.x (rv x1 y1 z1),.c (rv c9 c10 c11),.u 2] [] [(2,2,ws c9++(ws c10++(ws c11)))] [ws x1++(ws y1++(ws z1)),ws x2++(ws y2++(ws z2)),ws c9++(ws c10++(ws c11)),ws c1,ws c2,ws c3,ws c4,ws c6,ws c8] [4] ⟨RG.ld iG i117,RG.cl ((DF C x1 y1 z1).e3 hc9 hc10 hc11),RG.pt i117,trivial⟩ ?_;intro a8 w8 M8;refine wp_ret ?_;refine bodyPost_ret (v:=(rv c9 c10 c11)) (RG.aE M8.st 4 209 rfl 2 _ rfl (M8.at (s:=(.p 2 0))) iG i117) M8.sl.defers ?_;exact⟨_,rfl,M8.st.bel.below,rfl⟩
 have hR:=hd hz1 hz2 hxy;obtain⟨c9,hc9⟩:∃c,c=c4-c3:=⟨_,rfl⟩
 obtain⟨c10,hc10⟩:∃c,c=c8-c6:=⟨_,rfl⟩
 obtain⟨c11,hc11⟩:∃c,c=c9*c9:=⟨_,rfl⟩
 obtain⟨c12,hc12⟩:∃c,c=c11*c9:=⟨_,rfl⟩
 obtain⟨c13,hc13⟩:∃c,c=c11*c3:=⟨_,rfl⟩
 obtain⟨c14,hc14⟩:∃c,c=c10*c10:=⟨_,rfl⟩
 obtain⟨c15,hc15⟩:∃c,c=c14-c12:=⟨_,rfl⟩
 obtain⟨c16,hc16⟩:∃c,c=EC.dbl c13:=⟨_,rfl⟩
 obtain⟨c17,hc17⟩:∃c,c=c15-c16:=⟨_,rfl⟩
 obtain⟨c18,hc18⟩:∃c,c=c13-c17:=⟨_,rfl⟩
 obtain⟨c19,hc19⟩:∃c,c=c10*c18:=⟨_,rfl⟩
 obtain⟨c20,hc20⟩:∃c,c=c12*c6:=⟨_,rfl⟩
 obtain⟨c21,hc21⟩:∃c,c=c19-c20:=⟨_,rfl⟩
 obtain⟨c22,hc22⟩:∃c,c=z1*z2:=⟨_,rfl⟩
 obtain⟨c23,hc23⟩:∃c,c=c22*c9:=⟨_,rfl⟩
 obtain rfl:R=rv c17 c21 c23:=hR.trans (by subst_vars;rfl);by_cases hx:EC.cQ x1 z2=EC.cQ x2 z1
 case' pos =>
  have hy:¬EC.eH y1 z2=EC.eH y2 z1:=λh=>hxy ⟨hx,h⟩
  refine M6.U [.x (fv c3),.x (fv c4),.x (.bool true),.x (.bool true),.x (fv c6),.x (fv c8),.x (.bool false),.x (.bool false)] [2,3,4,7,8,9,10,63] ⟨RG.ld aN aJ,RG.ld aN aJ,RG.aK rfl .eql 207 207 56 57 (fv c3) (fv c4) (.bool true) rfl rfl RG.sx RG.sx (λw=>kR) (Ey C (by subst_vars;exact hx)),RG.st,RG.ld aN aJ,RG.ld aN aJ,RG.aK rfl .eql 207 207 60 61 (fv c6) (fv c8) (.bool false) rfl rfl RG.sx RG.sx (λw=>kR) (IQ C (by subst_vars;exact hy)),RG.st,trivial⟩ ?_
 case' neg =>
  refine M6.u [.x 56 [] (fv c3),.x 57 [] (fv c4),.x 58 [(56,0),(57,1)] (.bool false),.x 59 [(58,2)] (.bool false),⟨some 60,[],.v undef,.pass⟩,⟨some 61,[],.v undef,.pass⟩,⟨some 62,[],.v undef,.pass⟩,.x 63 [(59,3),(62,6)] (.bool false)] [(2,.p 0 0),(3,.p 1 0),(4,.p 2 0),(7,.p 5 0),(8,.p 6 0),(9,.p 7 0),(10,.p 8 0),(63,.v (.bool false))] ⟨RG.ld aN aJ,RG.ld aN aJ,RG.aK rfl .eql 207 207 56 57 (fv c3) (fv c4) (.bool false) rfl rfl RG.sx RG.sx (λw=>kR) (IQ C (by subst_vars;exact hx)),RG.st,RG.aM rfl rfl,RG.aM rfl rfl,RG.aM rfl rfl,RG.st,trivial⟩ ?_
 all_goals
  intro a7 w7 M7;repeat refine wp_seq ?_
  refine wp_cond_false M7.ev ?_;refine wp_skip ?_;repeat refine wp_seq ?_
  refine M7.D [.x (fv c4),.x (fv c3),.c (fv c9),.x (fv c8),.x (fv c6),.c (fv c10),.m 9,.m 10,.u 9,.u 10] [(6,RG.z 4),(7,RG.z 4)] [(9,8,ws c9),(10,9,ws c10)] [ws x1++(ws y1++(ws z1)),ws x2++(ws y2++(ws z2)),RG.z 12,ws c1,ws c2,ws c3,ws c4,ws c6,ws c8,ws c9,ws c10] [2,3,4,7,9,11,12] ⟨RG.ld aN aJ,RG.ld aN aJ,RG.cl ((eT C c4 c3).e hc9),RG.ld aN aJ,RG.ld aN aJ,RG.cl ((eT C c8 c6).e hc10),RG.mk 9 207,RG.mk 10 207,RG.pt aJ,RG.pt aJ,trivial⟩ ?_;intro j8 i8 a8 w8 M8;repeat refine wp_seq ?_
  refine M8.T [.x (fv c9),.x (fv c9),.c (fv c11),.m 11,.u 11] [(3,RG.z 4)] [(11,4,ws c11)] [ws x1++(ws y1++(ws z1)),ws x2++(ws y2++(ws z2)),RG.z 12,ws c1,ws c2,ws c3,ws c4,ws c6,ws c8,ws c9,ws c10,ws c11] [2,3,4,7,9,11,12,13] ⟨RG.ld aN aJ,RG.ld aN aJ,RG.cl ((aU C c9 c9).e hc11),RG.mk 11 207,RG.pt aJ,trivial⟩ ?_;intro j9 a9 w9 M9;repeat refine wp_seq ?_
  refine M9.D [.x (fv c11),.x (fv c9),.c (fv c12),.x (fv c11),.x (fv c3),.c (fv c13),.m 12,.m 13,.u 12,.u 13] [(6,RG.z 4),(7,RG.z 4)] [(12,8,ws c12),(13,9,ws c13)] [ws x1++(ws y1++(ws z1)),ws x2++(ws y2++(ws z2)),RG.z 12,ws c1,ws c2,ws c3,ws c4,ws c6,ws c8,ws c9,ws c10,ws c11,ws c12,ws c13] [2,3,4,9,11,12,14,15] ⟨RG.ld aN aJ,RG.ld aN aJ,RG.cl ((aU C c11 c9).e hc12),RG.ld aN aJ,RG.ld aN aJ,RG.cl ((aU C c11 c3).e hc13),RG.mk 12 207,RG.mk 13 207,RG.pt aJ,RG.pt aJ,trivial⟩ ?_;intro j10 i10 a10 w10 M10;repeat refine wp_seq ?_
  refine M10.D [.x (fv c10),.x (fv c10),.c (fv c14),.x (fv c12),.c (fv c15),.x (fv c13),.c (fv c16),.c (fv c17),.m 14,.u 14] [(8,RG.z 4)] [(14,9,ws c17)] [ws x1++(ws y1++(ws z1)),ws x2++(ws y2++(ws z2)),RG.z 12,ws c1,ws c2,ws c3,ws c4,ws c6,ws c8,ws c9,ws c10,ws c11,ws c12,ws c13,ws c17] [2,3,4,9,11,12,14,15,16] ⟨RG.ld aN aJ,RG.ld aN aJ,RG.cl ((aU C c10 c10).e hc14),RG.ld aN aJ,RG.cl ((eT C c14 c12).e hc15),RG.ld aN aJ,RG.cl ((fX C c13).e hc16),RG.cl ((eT C c15 c16).e hc17),RG.mk 14 207,RG.pt aJ,trivial⟩ ?_;intro j11 a11 w11 M11;repeat refine wp_seq ?_
  refine M11.D [.x (fv c10),.x (fv c13),.x (fv c17),.c (fv c18),.c (fv c19),.x (fv c12),.x (fv c6),.c (fv c20),.c (fv c21),.m 15,.u 15] [(9,RG.z 4)] [(15,10,ws c21)] [ws x1++(ws y1++(ws z1)),ws x2++(ws y2++(ws z2)),RG.z 12,ws c1,ws c2,ws c3,ws c4,ws c6,ws c8,ws c9,ws c10,ws c11,ws c12,ws c13,ws c17,ws c21] [2,3,4,11,16,17] ⟨RG.ld aN aJ,RG.ld aN aJ,RG.ld aN aJ,RG.cl ((eT C c13 c17).e hc18),RG.cl ((aU C c10 c18).e hc19),RG.ld aN aJ,RG.ld aN aJ,RG.cl ((aU C c12 c6).e hc20),RG.cl ((eT C c19 c20).e hc21),RG.mk 15 207,RG.pt aJ,trivial⟩ ?_;intro j12 a12 w12 M12;repeat refine wp_seq ?_
  refine M12.D [.x (fv c17),.x (fv c21),.s (.p 0 8),.x (fv z1),.s (.p 1 8),.x (fv z2),.c (fv c22),.x (fv c9),.c (fv c23),.x (rv c17 c21 c23),.u 2] [] [(2,10,ws c17++(ws c21++(ws c23)))] [ws x1++(ws y1++(ws z1)),ws x2++(ws y2++(ws z2)),ws c17++(ws c21++(ws c23)),ws c1,ws c2,ws c3,ws c4,ws c6,ws c8,ws c9,ws c10,ws c11,ws c12,ws c13,ws c17,ws c21] [4] ⟨RG.ld aN aJ,RG.ld aN aJ,RG.st,RG.ld aN aJ,RG.st,RG.ld aN aJ,RG.cl ((aU C z1 z2).e hc22),RG.ld aN aJ,RG.cl ((aU C c22 c9).e hc23),RG.st,RG.pt i117,trivial⟩ ?_;intro a13 w13 M13;refine wp_ret ?_;refine bodyPost_ret (v:=(rv c17 c21 c23)) (RG.aE M13.st 4 209 rfl 2 _ rfl (M13.at (s:=(.p 2 0))) iG i117) M13.sl.defers ?_;exact⟨_,rfl,M13.st.bel.below,rfl⟩
abbrev T3(P:Nat):=Fin P × Fin P × Fin P
abbrev tv(t:T3 P):Value:=rv t.1 t.2.1 t.2.2
abbrev tw(t:T3 P):List Value:=ws t.1++(ws t.2.1++ws t.2.2)
def JacT(t:T3 P)(p:EC.Pt P):Prop:=EC.Jac t.1 t.2.1 t.2.2 p/\EC.On p
def twJ(t:T3 P):T3 P:=(EC.twX t.1 t.2.1,EC.twY t.1 t.2.1,EC.twZ t.2.1 t.2.2)
def plJ(a b:T3 P):T3 P:=
 if a.2.2=0 then b else if b.2.2=0 then a else
 if EC.cQ a.1 b.2.2=EC.cQ b.1 a.2.2/\EC.eH a.2.1 b.2.2=EC.eH b.2.1 a.2.2 then twJ a else
 (EC.plX (EC.cQ a.1 b.2.2) (EC.eH a.2.1 b.2.2) (EC.cQ b.1 a.2.2) (EC.eH b.2.1 a.2.2),EC.plY (EC.cQ a.1 b.2.2) (EC.eH a.2.1 b.2.2) (EC.cQ b.1 a.2.2) (EC.eH b.2.1 a.2.2),EC.plZ a.2.2 b.2.2 (EC.cQ a.1 b.2.2) (EC.cQ b.1 a.2.2))
def opJ(t:T3 P):T3 P:=(t.1,0-t.2.1,t.2.2)
def raJ(x y:Fin P):T3 P:=if x=0/\y=0 then(0,0,0) else(x,y,1)
theorem Mj(C:Fld P)(t:T3 P):Gives 146 #[tv t] (tv (twJ t)):=DF C t.1 t.2.1 t.2.2
theorem Mm(C:Fld P)(a b:T3 P):Gives 147 #[tv a,tv b] (tv (plJ a b)):=by
 obtain⟨x1,y1,z1⟩:=a;obtain⟨x2,y2,z2⟩:=b;exact Fo C x1 y1 z1 x2 y2 z2 _ (λh=>by unfold plJ;rw[if_pos h]) (λh1 h2=>by unfold plJ;rw[if_neg h1,if_pos h2]) (λh1 h2 h=>by unfold plJ;rw[if_neg h1,if_neg h2,if_pos h];rfl) (λh1 h2 h=>by unfold plJ;rw[if_neg h1,if_neg h2,if_neg h])
theorem PK(C:Fld P)(t:T3 P):Gives 171 #[tv t] (tv (opJ t)):=CG C t.1 t.2.1 t.2.2
theorem PC(C:Fld P)(x y:Fin P):Gives 165 #[pv x y] (tv (raJ x y)):=by
 unfold raJ;by_cases hz:x=0/\y=0
 ·rw[if_pos hz];exact Fg C x y hz
 ·rw[if_neg hz];exact Fh C x y hz
theorem PG(C:Fld P)(t:T3 P):Gives 149 #[tv t] (pv (t.1*(EC.inv t.2.2*EC.inv t.2.2)) (t.2.1*(EC.inv t.2.2*EC.inv t.2.2)*EC.inv t.2.2)):=KD C t.1 t.2.1 t.2.2
theorem JacT.twice(C:Fld P){t:T3 P}{p:EC.Pt P}(h:JacT t p):JacT (twJ t) (EC.add p p):=⟨h.1.twice C.cur h.2,C.cur.on h.2 h.2⟩
theorem JacT.plus(C:Fld P){a b:T3 P}{p q:EC.Pt P}(h:JacT a p)(h':JacT b q):JacT (plJ a b) (EC.add p q):=by
 refine⟨?_,C.cur.on h.2 h'.2⟩;obtain⟨x1,y1,z1⟩:=a;obtain⟨x2,y2,z2⟩:=b;unfold plJ;by_cases n1:z1=0
 ·rw[if_pos n1];obtain rfl:=h.1.zero C.cur n1;exact h'.1
 ·rw[if_neg n1];by_cases n2:z2=0
  ·rw[if_pos n2];obtain rfl:=h'.1.zero C.cur n2;rw[EC.bE];exact h.1
  ·rw[if_neg n2];rcases h.1.plus C.cur h.2 h'.1 h'.2 n1 n2 with⟨e1,e2,e3⟩|⟨e1,e2⟩
   ·rw[if_pos ⟨e1,e2⟩,e3];exact h.1.twice C.cur h.2
   ·rw[if_neg e1];exact e2
theorem JacT.neg{t:T3 P}{p:EC.Pt P}(h:JacT t p):JacT (opJ t) (EC.neg p):=⟨h.1.neg,EC.b8 h.2⟩
theorem Ml(C:Fld P){x y:Fin P}{p:EC.Pt P}(h:EC.Pair x y p)(hp:EC.On p):JacT (raJ x y) p:=by
 refine⟨?_,hp⟩;unfold raJ;by_cases hz:x=0/\y=0
 ·obtain rfl:=h.nothing C.cur hp hz;rw[if_pos hz];rfl
 ·rw[if_neg hz];exact h.jac C.cur hz
theorem JacT.pair(C:Fld P){t:T3 P}{p:EC.Pt P}(h:JacT t p):EC.Pair (t.1*(EC.inv t.2.2*EC.inv t.2.2)) (t.2.1*(EC.inv t.2.2*EC.inv t.2.2)*EC.inv t.2.2) p:=h.1.pair C.cur
theorem JacT.none:JacT ((0,0,0):T3 P) .none:=⟨rfl,EC.fV⟩
end
namespace DG
def lP(d:Nat->Int):Nat->Int
 | 0=>0
 | k+1=>lP d k+d k*2^k
def upd(d:Nat->Int)(i:Nat)(v:Int):Nat->Int:=λj=>if j=i then v else d j
theorem v8{d e:Nat->Int}:∀k,(∀j,j<k->d j=e j)->lP d k=lP e k
 | 0,_=>rfl
 | k+1,h=>by
  show lP d k+d k*2^k=lP e k+e k*2^k;rw[v8 k λj hj=>h j oM,h k oM]
theorem vW{d:Nat->Int}(i:Nat)(h:∀j,i<=j->d j=0):∀k,lP d (i+k)=lP d i
 | 0=>rfl
 | k+1=>by
  show lP d (i+k)+d (i+k)*2^(i+k)=_;rw[h (i+k) oM,WV,Xx,vW i h k]
theorem upd_same(d:Nat->Int)(i:Nat)(v:Int):upd d i v i=v:=if_pos rfl
theorem iK{d:Nat->Int}{i j:Nat}{v:Int}(h:j≠i):upd d i v j=d j:=if_neg h
theorem IV{d:Nat->Int}(i:Nat)(v:Int)(h:∀j,i<=j->d j=0)(k:Nat):lP (upd d i v) (i+1+k)=lP d i+v*2^i:=by
 rw[vW (i+1) (λj hj=>by rw[iK oM];exact h j oM) k];show lP (upd d i v) i+upd d i v i*2^i=_;rw[upd_same,v8 i λj hj=>iK oM]
structure DI(n:Nat)(d:Nat->Int)(i c:Nat):Prop where
 hc:c<=1
 hz:∀j,i<=j->d j=0
 hw:∀j,257<=j->d j=0
 ho:∀j,d j=0\/(d j%2=1/\-15<=d j/\d j<=15)
 hs:(n:Int)=lP d i+((n/2^i+c:Nat):Int)*2^i
 he:257<=i->n/2^i+c=0
theorem DI.start(n:Nat):DI n (λ_=>0) 0 0:=by
 refine⟨dC,λ_ _=>rfl,λ_ _=>rfl,λ_=>SY rfl,?_,λh=>oM⟩;rw[Nat.pow_zero,Nat.div_one];show(n:Int)=0+((n+0:Nat):Int)*1;omega
theorem high{n i:Nat}(hn:n<2^256)(hi:256<=i):n/2^i=0:=
 VB (Si hn (TT dC hi))
theorem DI.skip{n i c:Nat}{d:Nat->Int}(h:DI n d i c)(hn:n<2^256)(hi:i<257)(hb:n/2^i%2=c):DI n d (i+1) c:=by
 have hdiv:n/2^(i+1)=n/2^i/2:=by rw[Nat.pow_succ,U2]
 refine⟨h.hc,λj hj=>h.hz j oM,h.hw,h.ho,?_,λh257=>?_⟩
 ·rw[h.hs];show _=lP d i+d i*2^i+_;rw[h.hz i (Se _),WV,Xx,hdiv,show n/2^i+c=(n/2^i/2+c)*2 by have:=h.hc;omega];rw[show(2:Int)^(i+1)=2^i*2 by rw[ZM]];generalize (2:Int)^i=t;rw[Uh,XU,WW (2:Nat) t];rfl
 ·have h1:i=256:=oM;have h2:n/2^i=0:=high hn oM;rw[hdiv,h2];rw[h2]at hb;omega
theorem DI.take{n i c:Nat}{d:Nat->Int}(h:DI n d i c)(hn:n<2^256)(hi:i<257)(hb:n/2^i%2≠c):
 DI n (upd d i (((n/2^i%32+c:Nat):Int)-32*(((n/2^i%32+c)/16:Nat):Int))) (i+5) ((n/2^i%32+c)/16):=by
 have hdiv:n/2^(i+5)=n/2^i/32:=by rw[Nat.pow_add,U2]
 have hc:=h.hc;have hodd:(n/2^i%32+c)%2=1:=oM;have hlt:n/2^i%32+c<32:=oM;refine⟨oM,λj hj=>?_,λj hj=>?_,λj=>?_,?_,λh257=>?_⟩
 ·rw[iK oM];exact h.hz j oM
 ·rw[iK oM];exact h.hw j hj
 ·by_cases hj:j=i
  ·subst hj;rw[upd_same];right;omega
  ·rw[iK hj];exact h.ho j
 ·rw[show i+5=i+1+4 by omega,IV i _ h.hz 4,show i+1+4=i+5 by omega,h.hs,Int.add_assoc]
  congr 1
  rw[hdiv,Int.pow_add,show(2:Int)^5=32 by decide,<-WW (32:Int),<-XU,<-ZU]
  congr 1
  omega
 ·have h2:n/2^i<16:=by
   rw[Nat.div_lt_iff_lt_mul (Nat.pow_pos dC)];refine Si hn ?_
   calc 2^256=16*2^252:=dK
    _<=16*2^i:=T9 (Se _) (TT dC oM)
  rw[hdiv];generalize n/2^i=m at h2 hb hodd hlt⊢;rw[SA (show m<32 by omega)]at hodd⊢;have h3:m+c<16:=oM;rw[VB h3,VB (show m<32 by omega)]
theorem DI.all{n i c:Nat}{d:Nat->Int}(h:DI n d i c)(hi:257<=i):(n:Int)=lP d 257:=by
 have h1:=h.hs;rw[h.he hi,Te,WV,Xx]at h1;rw[h1,show i=257+(i-257) by omega,vW 257 h.hw]
def hor(d:Nat->Int):Nat->Int
 | 0=>0
 | k+1=>2*hor d k+d (256-k)
theorem Ep(d:Nat->Int):∀k,k<=257->hor d k*2^(257-k)+lP d (257-k)=lP d 257
 | 0,_=>by show 0*_+_=_;rw[WV,Int.zero_add]
 | k+1,hk=>by
  rw[<-Ep d k oM];show(2*hor d k+d (256-k))*2^(257-(k+1))+lP d (257-(k+1))=_;rw[show 257-(k+1)=256-k by omega,show 257-k=(256-k)+1 by omega];show _=hor d k*2^(256-k+1)+(lP d (256-k)+d (256-k)*2^(256-k));rw[ZM];generalize (2:Int)^(256-k)=t;generalize hor d k=a;rw[ZU,WW t 2,<-XU,WW a 2];omega
theorem Ln{n i c:Nat}{d:Nat->Int}(h:DI n d i c)(hi:257<=i):hor d 257=(n:Int):=by
 have h1:=Ep d 257 (Se _);rw[WP]at h1;rw[h.all hi,<-h1];show hor d 257=hor d 257*1+0;omega
end DG
section
open Go.RowKit Go.Sort
variable {P:Nat}[NeZero P]{N:Nat}
theorem Jg(k o i:Nat)(hi:i<257)(w:World):(To 212 (.pointer (some ⟨k,o,none⟩)) (iZ i)).run prog w=.ok (.pointer (some ⟨k,o+i,none⟩)) w:=by
 have h1:¬(i:Int)<0:=oM;have h2:(i:Int)<257:=oM;go_simp
theorem OS(k i:Nat)(hi:i<257)(w:World):(To 212 (pZ k) (iZ i)).run prog w=.ok (.pointer (some ⟨k,i,none⟩)) w:=by
 rw[Jg k 0 i hi,Sj]
theorem ET(k o i:Nat)(hi:i<8)(w:World):(To 210 (.pointer (some ⟨k,o,none⟩)) (iZ i)).run prog w=.ok (.pointer (some ⟨k,o+12*i,none⟩)) w:=by
 have h1:¬(i:Int)<0:=oM;have h2:(i:Int)<8:=oM;go_simp
theorem Jh(k o i:Nat)(hi:i<8)(w:World):(To 210 (.pointer (some ⟨k,o,none⟩)) (.int .i8 i)).run prog w=.ok (.pointer (some ⟨k,o+12*i,none⟩)) w:=by
 have h1:¬(i:Int)<0:=oM;have h2:(i:Int)<8:=oM;go_simp
theorem EU(k n c i:Nat)(hi:i<n)(w:World):(To 206 (.slice (some (aZ k)) n c) (iZ i)).run prog w=.ok (.pointer (some ⟨k,353*i,none⟩)) w:=by
 go_simp
theorem Qw(k o n c i:Nat)(hi:i<n)(w:World):(To 177 (.slice (some ⟨k,o,none⟩) n c) (iZ i)).run prog w=.ok (.pointer (some ⟨k,o+4*i,none⟩)) w:=by
 go_simp
theorem MI(k o n c i:Nat)(hi:i<n)(w:World):(To 180 (.slice (some ⟨k,o,none⟩) n c) (iZ i)).run prog w=.ok (.pointer (some ⟨k,o+8*i,none⟩)) w:=by
 go_simp
theorem Mw(d:Int)(hd:-15<=d/\d<=15)(w:World):(ZE .neg (.int .i8 d)).run prog w=.ok (.int .i8 (-d)) w:=by
 have h:=XE (-d) oM;go_simp
theorem Mv(k:Nat)(hk:k<8)(w:World):(binOp .quo 211 (.int .i8 (2*(k:Int)+1)) (.int .i8 2)).run prog w=.ok (.int .i8 k) w:=by
 have h0:(2*(k:Int)+1).tdiv 2=(k:Int):=by rw[Int.tdiv_eq_ediv_of_nonneg oM];omega
 have h:=XE (k:Int) oM;go_simp
theorem QY(g:Nat)(hg:g<32)(w:World):(binOp .shr 3 (iZ g) (uZ 4)).run prog w=.ok (iZ ((g/16:Nat):Int)) w:=by
 go_simp
theorem QZ(g:Nat)(hg:g<32)(w:World):(binOp .shl 3 (iZ g) (uZ 5)).run prog w=.ok (iZ (32*(g:Int))) w:=by
 have h:=Tv (32*(g:Int)) oM;have h2:(g:Int)*32=32*(g:Int):=oM;go_simp
theorem Cd(a b:Int)(ha:-1000<=a/\a<=1000)(hb:-1000<=b/\b<=1000)(w:World):(binOp .sub 3 (iZ a) (iZ b)).run prog w=.ok (iZ (a-b)) w:=by
 have h:=Tv (a-b) oM;go_simp
theorem qM(a b:Nat)(ha:a<=1000000)(hb:b<=1000000)(w:World):(binOp .add 3 (iZ a) (iZ b)).run prog w=.ok (iZ ((a+b:Nat):Int)) w:=by
 have h:=Tv ((a:Int)+(b:Int)) oM;go_simp
theorem cv8(v:Int)(hv:-15<=v/\v<=15)(w:World):(convert 3 211 (iZ v)).run prog w=.ok (.int .i8 v) w:=by
 have h:=XE v oM;go_simp
theorem Qo{b c:Nat}(e:b=c)(w:World):(binOp .eql 3 (iZ b) (iZ c)).run prog w=.ok (.bool true) w:=by
 subst e;go_simp
theorem Qp{b c:Nat}(e:¬b=c)(w:World):(binOp .eql 3 (iZ b) (iZ c)).run prog w=.ok (.bool false) w:=by
 have h:¬(b:Int)=(c:Int):=oM;go_simp
theorem eN{i n:Nat}(e:i<n)(w:World):(binOp .lss 3 (iZ i) (iZ n)).run prog w=.ok (.bool true) w:=by
 go_simp
theorem lD{i n:Nat}(e:¬i<n)(w:World):(binOp .lss 3 (iZ i) (iZ n)).run prog w=.ok (.bool false) w:=by
 go_simp
theorem JA{n f c:Nat}(hn:n<top)(hf:f<=256)(hc:c<=32):Gives 142 #[nv n,iZ f,iZ c] (iZ ((n/2^f%2^c:Nat):Int)):=λw =>
 (BS _ n f c (m7 hn) hf hc w).mono (by rintro e w' ⟨v,rfl,hb,rfl⟩;exact⟨_,rfl,hb,rfl⟩)
def dg(d:Nat->Int):List Value:=(TD 257).map (λj=>TW .i8 (d j))
def dv(d:Nat->Int):Value:=.agg (dg d).toArray
theorem bN(d:Nat->Int):(dg d).length=257:=by unfold dg;rw[SO,List.length_range]
theorem IZ(d:Nat->Int)(j:Nat)(hj:j<257):(dg d)[j]? = some (.int .i8 (d j)):=by
 unfold dg;rw[Un,List.getElem?_range hj];rfl
theorem OC(d:Nat->Int)(i:Nat)(v:Int):dg (DG.upd d i v)=(dg d).set i (.int .i8 v):=by
 apply We;intro j;rw[List.getElem?_set];by_cases hj:j<257
 ·rw[IZ _ j hj,IZ _ j hj];by_cases hij:i=j
  ·subst hij;rw[if_pos rfl,if_pos (by rw[bN];exact hj),DG.upd_same]
  ·rw[if_neg hij,DG.iK (λh=>hij h.symm)]
 ·rw[UO (by rw[bN];omega)];by_cases hij:i=j
  ·rw[if_pos hij,if_neg (by rw[bN];omega)]
  ·rw[if_neg hij,UO (by rw[bN];omega)]
theorem IY(d:Nat->Int):(dg d).all (·.oneCell')=true:=by
 unfold dg;rw[List.all_map];exact List.all_eq_true.2 λ_ _=>rfl
theorem OA(d:Nat->Int):((dg d).drop 0).take (dg d).length=dg d:=by rw[List.drop_zero,List.take_length]
def dgo(n:Nat):Nat->(Nat->Int)->Nat->Nat->(Nat->Int)
 | 0,d,_,_=>d
 | f+1,d,i,c=>if i<257 then(if n/2^i%2=c then dgo n f d (i+1) c else
  dgo n f (DG.upd d i (((n/2^i%32+c:Nat):Int)-32*(((n/2^i%32+c)/16:Nat):Int))) (i+5) ((n/2^i%32+c)/16)) else d
theorem EA(n:Nat)(f:Nat)(d:Nat->Int)(i c:Nat)(h:¬i<257):dgo n f d i c=d:=by
 cases f with
 | zero=>rfl
 | succ f=>rw[dgo,if_neg h]
theorem De{n:Nat}(hn:n<2^256):∀(f:Nat) (d:Nat->Int) (i c:Nat),DG.DI n d i c->257<=i+f->∃i' c',257<=i'/\DG.DI n (dgo n f d i c) i' c'
 | 0,d,i,c,h,hf=>⟨i,c,oM,h⟩
 | f+1,d,i,c,h,hf=>by
  by_cases hi:i<257
  ·rw[dgo,if_pos hi];by_cases hb:n/2^i%2=c
   ·rw[if_pos hb];exact De hn f d (i+1) c (h.skip hn hi hb) oM
   ·rw[if_neg hb];exact De hn f _ (i+5) _ (h.take hn hi hb) oM
  ·rw[EA n _ d i c hi];exact⟨i,c,oM,h⟩
def eW(n:Nat):Nat->Int:=dgo n 257 (λ_=>0) 0 0
theorem zY{n:Nat}(hn:n<2^256):∃i c,257<=i/\DG.DI n (eW n) i c:=De hn 257 _ 0 0 (DG.DI.start n) oM
theorem u138:(prog.underlying 212).map (·.isRow)=some true:=kR
theorem i138:(prog.info? 212).map (·.size)=some 257:=kR
theorem Rz:(prog.info? 211).map (·.size)=some 1:=kR
theorem Ph:(prog.underlying 211).map (·.isRow)=some false:=kR
theorem MM(w:World):(Yn 212 true (.tuple #[])).run prog w=.ok (.pointer (some ⟨w.heap.size,0,none⟩)) (w.alloc (.cells (dg (λ_=>0)).toArray 212)):=kR
theorem IX{n:Nat}(hn:n<top):Gives 164 #[nv n] (dv (eW n)):=by
 intro w;go_enter Tryz.func164,Tryz.ntmps164;refine RG.Gq (v0:=nv n) (n:=33) kR kR kR ?_;intro a0 sl0 f0;have hS0:=RG.St.begin w;have M0:RG.M w w.heap.size [] 33 [] [] [(0,.v (nv n))] a0 _:=⟨hS0,sl0,⟨f0,trivial⟩⟩
 repeat refine wp_seq ?_
 refine M0.T [.m 0,.m 1] [(0,wn n),(1,dg (λ_=>0))] [] [wn n,dg (λ_=>0)] [1,2] ⟨RG.mk 0 41,RG.nY 1 rfl rfl _ rfl 212 rfl MM,trivial⟩ ?_;intro j1 i1 a1 w1 M1;repeat refine wp_seq ?_
 refine M1.T [.m 2] [(0,dg (λ_=>0))] [] [wn n,dg (λ_=>0),dg (λ_=>0)] [1,2,3] ⟨RG.nY 2 rfl rfl _ rfl 212 rfl MM,trivial⟩ ?_;intro j2 a2 w2 M2;repeat refine wp_seq ?_
 refine M2.U [.x (iZ 0)] [1,2,3,4] ⟨RG.st,trivial⟩ ?_;intro a3 w3 M3;repeat refine wp_seq ?_
 refine M3.U [.x (iZ 0)] [1,2,3,4,5] ⟨RG.st,trivial⟩ ?_;intro a4 w4 M4;have f1_4:a4.tmps[1]? = some (pZ j1):=M4.at (s:=(.p 0 0));have f2_4:a4.tmps[2]? = some (pZ i1):=M4.at (s:=(.p 1 0));have f3_4:a4.tmps[3]? = some (pZ j2):=M4.at (s:=(.p 2 0));have f4_4:a4.tmps[4]? = some (iZ 0):=M4.at (s:=(.v (iZ 0)));have f5_4:a4.tmps[5]? = some (iZ 0):=M4.at (s:=(.v (iZ 0)));repeat refine wp_seq ?_
 refine wp_block ?_;refine wp_loop_ghost (λm a wr=>∃(d:Nat->Int) (i c:Nat),c<=1/\i<=261/\257<=i+m/\dgo n m d i c=eW n/\RG.Sl a 33/\a.tmps[1]? = some (pZ j1)/\a.tmps[2]? = some (pZ i1)/\a.tmps[3]? = some (pZ j2)/\a.tmps[4]? = some (iZ c)/\a.tmps[5]? = some (iZ i)/\RG.St w w.heap.size [] [wn n,dg (λ_=>0),dg d] [j1,i1,j2] wr) 257 ⟨λ_=>0,0,0,oM,oM,oM,rfl,M4.sl,f1_4,f2_4,f3_4,f4_4,f5_4,M4.st⟩ ?_;intro m a wr;rintro⟨d,i,c,hc,hi2,hm,hd,sl,f1,f2,f3,f4,f5,hS⟩;obtain⟨b,hbv⟩:∃b,n/2^i%2=b:=⟨_,rfl⟩
 obtain⟨e,hev⟩:∃e,n/2^i%32=e:=⟨_,rfl⟩
 obtain⟨g,hgv⟩:∃g,e+c=g:=⟨_,rfl⟩
 obtain⟨v,hvv⟩:∃v:Int,(g:Int)-32*((g/16:Nat):Int)=v:=⟨_,rfl⟩
 generalize j1=k1 at f1 f2 f3 hS;generalize i1=k2 at f1 f2 f3 hS;generalize j2=k3 at f1 f2 f3 hS;by_cases hi:i<257
 ·have hB1:Gives 142 #[nv n,iZ i,iZ 1] (iZ b):=by rw[<-hbv];exact JA (c:=1) hn oM oM
  have hB5:Gives 142 #[nv n,iZ i,iZ 5] (iZ e):=by rw[<-hev];exact JA (c:=5) hn oM oM
  have hm0:∃m',m=m'+1:=by
   cases m with
   | zero=>exact absurd hm oM
   | succ m'=>exact⟨m',rfl⟩
  obtain⟨m',rfl⟩:=hm0;rw[dgo,if_pos hi,hbv,hev,hgv,hvv]at hd;by_cases hb:b=c
  ·rw[if_pos hb]at hd;have M0:RG.M w w.heap.size [] 33 [wn n,dg (λ_=>0),dg d] [k1,k2,k3] [(1,.p 0 0),(2,.p 1 0),(3,.p 2 0),(4,.v (iZ c)),(5,.v (iZ i))] a _:=⟨hS,sl,⟨f1,f2,f3,f4,f5,trivial⟩⟩
   repeat refine wp_seq ?_
   refine M0.U [.x (iZ i),.x (.bool true)] [1,2,3,4,5,8] ⟨RG.st,RG.aG rfl .lss 3 3 7 (iZ i) (iZ 257) (.bool true) rfl rfl RG.sx (λw=>kR) (eN (n:=257) hi),trivial⟩ ?_;intro a1 w1 M1;repeat refine wp_seq ?_
   refine wp_cond_true M1.ev ?_;refine wp_skip ?_;refine wp_seq ?_;refine wp_block ?_;repeat refine wp_seq ?_
   refine M1.U [.x (nv n),.x (iZ i),.c (iZ b),.x (iZ c),.x (.bool true)] [1,2,3,4,5,15] ⟨RG.ld u85 i85,RG.st,RG.cl hB1,RG.st,RG.aK rfl .eql 3 3 13 14 (iZ b) (iZ c) (.bool true) rfl rfl RG.sx RG.sx (λw=>kR) (Qo hb),trivial⟩ ?_;intro a2 w2 M2;repeat refine wp_seq ?_
   refine wp_cond_true M2.ev ?_;refine wp_exit ?_;dsimp only[Exit.then,U5];rw[if_pos rfl];repeat refine wp_seq ?_
   refine M2.U [.x (iZ i),.x (iZ ((i+1:Nat):Int)),.x (iZ ((i+1:Nat):Int))] [1,2,3,4,5] ⟨RG.st,RG.aG rfl .add 3 3 9 (iZ i) (iZ 1) (iZ ((i+1:Nat):Int)) rfl rfl RG.sx (λw=>kR) (qM i 1 oM oM),RG.st,trivial⟩ ?_;intro a3 w3 M3;have f1_3:a3.tmps[1]? = some (pZ k1):=M3.at (s:=(.p 0 0));have f2_3:a3.tmps[2]? = some (pZ k2):=M3.at (s:=(.p 1 0));have f3_3:a3.tmps[3]? = some (pZ k3):=M3.at (s:=(.p 2 0));have f4_3:a3.tmps[4]? = some (iZ c):=M3.at (s:=(.v (iZ c)));have f5_3:a3.tmps[5]? = some (iZ ((i+1:Nat):Int)):=M3.at (s:=(.v (iZ ((i+1:Nat):Int))));show ∃n',_;exact⟨m',Vt m',d,i+1,c,hc,oM,oM,hd,M3.sl,f1_3,f2_3,f3_3,f4_3,f5_3,M3.st⟩
  ·rw[if_neg hb]at hd;have he:e<32:=oM;have hpar:g%2=1:=oM;have hg:g<32:=oM;have hv:-15<=v/\v<=15:=oM;have hadd:∀w,(binOp .add 3 (iZ e) (iZ c)).run prog w=.ok (iZ g) w:=λw=>by rw[qM e c oM oM,hgv]
   have hsub:∀w,(binOp .sub 3 (iZ g) (iZ (32*((g/16:Nat):Int)))).run prog w=.ok (iZ v) w:=λw=>by rw[Cd _ _ oM oM,hvv]
   have M0:RG.M w w.heap.size [] 33 [wn n,dg (λ_=>0),dg d] [k1,k2,k3] [(1,.p 0 0),(2,.p 1 0),(3,.p 2 0),(4,.v (iZ c)),(5,.v (iZ i))] a _:=⟨hS,sl,⟨f1,f2,f3,f4,f5,trivial⟩⟩
   repeat refine wp_seq ?_
   refine M0.U [.x (iZ i),.x (.bool true)] [1,2,3,4,5,8] ⟨RG.st,RG.aG rfl .lss 3 3 7 (iZ i) (iZ 257) (.bool true) rfl rfl RG.sx (λw=>kR) (eN (n:=257) hi),trivial⟩ ?_;intro a1 w1 M1;repeat refine wp_seq ?_
   refine wp_cond_true M1.ev ?_;refine wp_skip ?_;refine wp_seq ?_;refine wp_block ?_;repeat refine wp_seq ?_
   refine M1.U [.x (nv n),.x (iZ i),.c (iZ b),.x (iZ c),.x (.bool false)] [1,2,3,4,5,15] ⟨RG.ld u85 i85,RG.st,RG.cl hB1,RG.st,RG.aK rfl .eql 3 3 13 14 (iZ b) (iZ c) (.bool false) rfl rfl RG.sx RG.sx (λw=>kR) (Qp hb),trivial⟩ ?_;intro a2 w2 M2;repeat refine wp_seq ?_
   refine wp_cond_false M2.ev ?_;refine wp_skip ?_;repeat refine wp_seq ?_
   refine M2.U [.x (nv n),.x (iZ i),.c (iZ e),.x (iZ c),.x (iZ g),.x (iZ g)] [1,2,3,4,5,6] ⟨RG.ld u85 i85,RG.st,RG.cl hB5,RG.st,RG.aK rfl .add 3 3 18 19 (iZ e) (iZ c) (iZ g) rfl rfl RG.sx RG.sx (λw=>kR) hadd,RG.st,trivial⟩ ?_;intro a3 w3 M3;repeat refine wp_seq ?_
   refine M3.U [.x (iZ g),.x (iZ ((g/16:Nat):Int)),.x (iZ ((g/16:Nat):Int))] [1,2,3,4,5,6] ⟨RG.st,RG.aG rfl .shr 3 163 21 (iZ g) (uZ 4) (iZ ((g/16:Nat):Int)) rfl rfl RG.sx (λw=>kR) (QY g hg),RG.st,trivial⟩ ?_;intro a4 w4 M4;repeat refine wp_seq ?_
   refine M4.T [.x (iZ i),.x (iZ g),.x (iZ ((g/16:Nat):Int)),.x (iZ (32*((g/16:Nat):Int))),.x (iZ v),.x (.int .i8 v),.s (.p 2 i),.u 2] [] [(2,7,dg (DG.upd d i v))] [wn n,dg (λ_=>0),dg (DG.upd d i v)] [1,2,3,4,5] ⟨RG.st,RG.st,RG.st,RG.aG rfl .shl 3 163 25 (iZ ((g/16:Nat):Int)) (uZ 5) (iZ (32*((g/16:Nat):Int))) rfl rfl RG.sx (λw=>kR) (QZ (g/16) oM),RG.aK rfl .sub 3 3 24 26 (iZ g) (iZ (32*((g/16:Nat):Int))) (iZ v) rfl rfl RG.sx RG.sx (λw=>kR) hsub,RG.nE rfl 3 211 27 (iZ v) (.int .i8 v) rfl rfl RG.sx (cv8 v hv),RG.aY rfl 212 3 23 rfl (.p 2 0) (iZ i) RG.sx RG.sx (λμ w=>OS _ i hi w),RG.FW 2 i rfl _ rfl 211 (.tmp 29) (.tmp 28) (.int .i8 v) rfl rfl RG.sx RG.sx (by show i<(dg _).length;rw[bN];exact hi) (OC d i v) Rz rfl rfl,trivial⟩ ?_;intro a5 w5 M5;repeat refine wp_seq ?_
   refine M5.U [.x (iZ i),.x (iZ ((i+4:Nat):Int)),.x (iZ ((i+4:Nat):Int))] [1,2,3,4,5] ⟨RG.st,RG.aG rfl .add 3 3 30 (iZ i) (iZ 4) (iZ ((i+4:Nat):Int)) rfl rfl RG.sx (λw=>kR) (qM i 4 oM oM),RG.st,trivial⟩ ?_;intro a6 w6 M6;repeat refine wp_seq ?_
   refine M6.U [.x (iZ ((i+4:Nat):Int)),.x (iZ ((i+4+1:Nat):Int)),.x (iZ ((i+4+1:Nat):Int))] [1,2,3,4,5] ⟨RG.st,RG.aG rfl .add 3 3 9 (iZ ((i+4:Nat):Int)) (iZ 1) (iZ ((i+4+1:Nat):Int)) rfl rfl RG.sx (λw=>kR) (qM (i+4) 1 oM oM),RG.st,trivial⟩ ?_;intro a7 w7 M7;have f1_7:a7.tmps[1]? = some (pZ k1):=M7.at (s:=(.p 0 0));have f2_7:a7.tmps[2]? = some (pZ k2):=M7.at (s:=(.p 1 0));have f3_7:a7.tmps[3]? = some (pZ k3):=M7.at (s:=(.p 2 0));have f4_7:a7.tmps[4]? = some (iZ ((g/16:Nat):Int)):=M7.at (s:=(.v (iZ ((g/16:Nat):Int))));have f5_7:a7.tmps[5]? = some (iZ ((i+4+1:Nat):Int)):=M7.at (s:=(.v (iZ ((i+4+1:Nat):Int))));show ∃n',_;exact⟨m',Vt m',DG.upd d i v,i+5,g/16,oM,oM,oM,hd,M7.sl,f1_7,f2_7,f3_7,f4_7,f5_7,M7.st⟩
 ·have hD:d=eW n:=by rw[<-hd,EA n m d i c hi]
  have M0:RG.M w w.heap.size [] 33 [wn n,dg (λ_=>0),dg d] [k1,k2,k3] [(1,.p 0 0),(2,.p 1 0),(3,.p 2 0),(4,.v (iZ c)),(5,.v (iZ i))] a _:=⟨hS,sl,⟨f1,f2,f3,f4,f5,trivial⟩⟩
  repeat refine wp_seq ?_
  refine M0.U [.x (iZ i),.x (.bool false)] [2,3,8] ⟨RG.st,RG.aG rfl .lss 3 3 7 (iZ i) (iZ 257) (.bool false) rfl rfl RG.sx (λw=>kR) (lD (n:=257) hi),trivial⟩ ?_;intro a1 w1 M1;repeat refine wp_seq ?_
  refine wp_cond_false M1.ev ?_;refine wp_exit ?_;dsimp only[Exit.then,U5];rw[if_pos rfl];repeat refine wp_seq ?_
  refine M1.T [.x (dv d),.u 1] [] [(1,1,dg d)] [wn n,dg d,dg d] [2] ⟨RG.nD rfl 2 0 _ rfl rfl kR 212 3 rfl (dg d) rfl RG.sx (OA _) u138 (by rw[bN];exact i138),RG.I8 1 rfl _ rfl 212 (.tmp 2) (.tmp 32) rfl rfl (by show(dg _).length=(dg _).length;rw[bN,bN]) RG.sx RG.sx (by show _=some (dg _).length;rw[bN];exact i138) (IY _),trivial⟩ ?_;intro a2 w2 M2;refine wp_ret ?_;refine bodyPost_ret (v:=dv d) (RG.aE M2.st 2 212 rfl 1 _ rfl (M2.at (s:=(.p 1 0))) u138 (by rw[bN];exact i138)) M2.sl.defers ?_;exact⟨_,rfl,M2.st.bel.below,by rw[hD]⟩
omit [NeZero P] in
theorem cJ(t:T3 P):(tw t).length=12:=rfl
omit [NeZero P] in
theorem BZ(t:T3 P):(tw t).all (·.oneCell')=true:=rfl
def od(x y:Fin P):Nat->T3 P
 | 0=>raJ x y
 | q+1=>plJ (od x y q) (twJ (raJ x y))
theorem NY(C:Fld P){x y:Fin P}{p:EC.Pt P}(h:EC.Pair x y p)(hp:EC.On p):∀q,JacT (od x y q) (EC.eF ((2*q+1:Nat):Int) p)
 | 0=>by
  show JacT (raJ x y) (EC.eF 1 p);rw[EC.Aq];exact Ml C h hp
 | q+1=>by
  have h1:=NY C h hp q;have h2:=(Ml C h hp).twice C;have h3:=h1.plus C h2;have e:EC.eF ((2*(q+1)+1:Nat):Int) p=EC.add (EC.eF ((2*q+1:Nat):Int) p) (EC.add p p):=by
   have:EC.add p p=EC.eF 2 p:=by
    rw[show(2:Int)=1+1 by rfl,EC.tZ C.cur hp,EC.Aq]
   rw[this,<-EC.tZ C.cur hp]
   congr 1
  rw[e];exact h3
structure Fi(x y:Fin P)(D:Nat->Int)(C0:List Value)(off m:Nat)(C:List Value):Prop where
 len:C.length=C0.length
 out:∀j,j<off\/off+353<=j->C[j]? = C0[j]?
 dig:∀j,j<257->C[off+96+j]? = some (.int .i8 (D j))
 odd:∀q j,q<m->j<12->C[off+12*q+j]? = (tw (od x y q))[j]?
theorem Fi.first{x y:Fin P}{D:Nat->Int}{C0:List Value}{off:Nat}(h:off+353<=C0.length):Fi x y D C0 off 0 (RG.rep C0 (off+96) (dg D)):=by
 have hl:off+96+(dg D).length<=C0.length:=by rw[bN];omega
 refine⟨RG.cX hl,λj hj=>?_,λj hj=>?_,λq j hq _=>oM⟩
 ·rw[RG.rep_at hl,if_neg (by rw[bN];omega)]
 ·rw[RG.rep_at hl,if_pos (by rw[bN];omega),show off+96+j-(off+96)=j by omega,IZ D j hj]
theorem Fi.next{x y:Fin P}{D:Nat->Int}{C0 C:List Value}{off m:Nat}(h:off+353<=C0.length)(hF:Fi x y D C0 off m C)(hm:m<8):Fi x y D C0 off (m+1) (RG.rep C (off+12*m) (tw (od x y m))):=by
 have hlen:=hF.len;have hl:off+12*m+(tw (od x y m)).length<=C.length:=by rw[cJ];omega
 refine⟨by rw[RG.cX hl];exact hlen,λj hj=>?_,λj hj=>?_,λq j hq hj=>?_⟩
 ·rw[RG.rep_at hl,if_neg (by rw[cJ];omega)];exact hF.out j hj
 ·rw[RG.rep_at hl,if_neg (by rw[cJ];omega)];exact hF.dig j hj
 ·rw[RG.rep_at hl];by_cases hqm:q=m
  ·subst hqm;rw[if_pos (by rw[cJ];omega),show off+12*q+j-(off+12*q)=j by omega]
  ·rw[if_neg (by rw[cJ];omega)];exact hF.odd q j oM hj
theorem Fi.sub{x y:Fin P}{D:Nat->Int}{C0 C:List Value}{off m q:Nat}(h:off+353<=C0.length)(hF:Fi x y D C0 off m C)(hq:q<m)(hm:m<=8):(C.drop (off+12*q)).take (tw (od x y q)).length=tw (od x y q):=
 RG.Nj (λj hj=>hF.odd q j hq (by rw[cJ]at hj;exact hj)) (by rw[cJ];have:=hF.len;omega)
def fc(x y:Fin P)(D:Nat->Int)(C0:List Value)(off:Nat):Nat->List Value
 | 0=>RG.rep C0 (off+96) (dg D)
 | m+1=>RG.rep (fc x y D C0 off m) (off+12*m) (tw (od x y m))
theorem Eu{x y:Fin P}{D:Nat->Int}{C0:List Value}{off:Nat}(h:off+353<=C0.length):∀m,m<=8->Fi x y D C0 off m (fc x y D C0 off m)
 | 0,_=>Fi.first h
 | m+1,hm=>(Eu h m oM).next h oM
theorem Fi.uniq{x y:Fin P}{D:Nat->Int}{C0 C C':List Value}{off:Nat}(h:Fi x y D C0 off 8 C)(h':Fi x y D C0 off 8 C'):C=C':=by
 apply We;intro j;by_cases h1:j<off\/off+353<=j
 ·rw[h.out j h1,h'.out j h1]
 ·by_cases h2:j<off+96
  ·have e:j=off+12*((j-off)/12)+(j-off)%12:=oM;rw[e,h.odd _ _ oM oM,h'.odd _ _ oM oM]
  ·have e:j=off+96+(j-off-96):=oM;rw[e,h.dig _ oM,h'.dig _ oM]
theorem Oz(F:Fld P){n:Nat}(hn:n<top)(x y:Fin P)(C0:List Value)(kt off:Nat)(hoff:off+353<=C0.length)(w:World)(hk:kt<w.heap.size)(ht:w.there kt 0 C0.length)(hr:w.rangeAt kt 0 C0):
 Calls prog 145 #[.pointer (some ⟨kt,off,none⟩),nv n,pv x y] w (Ret λr w'=>(∃C,Fi x y (eW n) C0 off 8 C/\RG.PutTo kt C0.length C w w')/\r=.tuple #[]):=by
 obtain⟨D,hDe⟩:∃D,eW n=D:=⟨_,rfl⟩
 have hD:Gives 164 #[nv n] (dv D):=hDe ▸ IX hn;obtain⟨s0,hs0e⟩:∃s,raJ x y=s:=⟨_,rfl⟩
 have hs0:Gives 165 #[pv x y] (tv s0):=hs0e ▸ PC F x y;obtain⟨s2,hs2e⟩:∃s,twJ s0=s:=⟨_,rfl⟩
 have hs2:Gives 146 #[tv s0] (tv s2):=hs2e ▸ Mj F s0;obtain⟨C1,hC1e⟩:∃c,RG.rep C0 (off+96) (dg D)=c:=⟨_,rfl⟩
 have hlD:off+96+(dg D).length<=C0.length:=by rw[bN];omega
 have hC1:=hC1e ▸ RG.rep_at hlD;have hL1:C1.length=C0.length:=hC1e ▸ RG.cX hlD;have F1:Fi x y D C0 off 0 C1:=hC1e ▸ Fi.first hoff;obtain⟨C2,hC2e⟩:∃c,RG.rep C1 (off+0+12*0) (tw s0)=c:=⟨_,rfl⟩
 have hlS:off+0+12*0+(tw s0).length<=C1.length:=by rw[cJ];omega
 have hC2:=hC2e ▸ RG.rep_at hlS;have hL2:C2.length=C1.length:=hC2e ▸ RG.cX hlS;have F2:Fi x y D C0 off 1 C2:=by
  have:=F1.next hoff dC;rw[<-hC2e,<-hs0e];exact this
 have hsub0:(C2.drop (off+0+12*0)).take (tw s0).length=tw s0:=by
  have:=F2.sub hoff (q:=0) dC dC;rw[<-hs0e];exact this
 obtain⟨i,hi0⟩:∃i:Nat,i=0:=⟨_,rfl⟩
 obtain⟨s3,-⟩:∃s:T3 P,s=s0:=⟨_,rfl⟩
 obtain⟨sp,-⟩:∃s:T3 P,s=s0:=⟨_,rfl⟩
 go_enter Tryz.func145,Tryz.ntmps145;refine RG.QL (v0:=.pointer (some ⟨kt,off,none⟩)) (v1:=nv n) (v2:=pv x y) (n:=43) kR kR kR kR kR ?_;intro a0 sl0 f0 f1 f2;have hS0:=RG.St.lent hk hr ht;have M0:RG.M w w.heap.size [kt] 43 [C0] [kt] [(0,.p 0 off),(1,.v (nv n)),(2,.v (pv x y))] a0 _:=⟨hS0,sl0,⟨f0,f1,f2,trivial⟩⟩
 repeat refine wp_seq ?_
 refine M0.T [.m 1,.m 2] [(0,wn n),(1,ws x++(ws y))] [] [C0,wn n,ws x++(ws y)] [0,4,5] ⟨RG.mk 1 41,RG.mk 2 114,trivial⟩ ?_;intro j1 i1 a1 w1 M1;have f0_1:a1.tmps[0]? = some (.pointer (some ⟨kt,off,none⟩)):=M1.at (s:=(.p 0 off));have f4_1:a1.tmps[4]? = some (pZ j1):=M1.at (s:=(.p 1 0));have f5_1:a1.tmps[5]? = some (pZ i1):=M1.at (s:=(.p 2 0));have M1:RG.M w w.heap.size [kt] 43 [C0,wn n,ws x++(ws y)] [kt,j1,i1] [(0,.p 0 off),(4,.p 1 0),(5,.p 2 0)] a1 _:=⟨M1.st,M1.sl,⟨f0_1,f4_1,f5_1,trivial⟩⟩
 repeat refine wp_seq ?_
 refine M1.tx [.s 8 [] (.p 0 off),.x 9 [] (nv n),.c 10 [(9,1)] (dv D),.s 11 [(8,0)] (.p 0 off),.s 12 [(11,3)] (.p 0 (off+96)),.u [(12,4),(10,2)] 0] [] [(0,5,C1)] [C1,wn n,ws x++(ws y)] [(0,.p 0 off),(5,.p 2 0)] kR (congrArg (λn=>[n]) hL1) ⟨RG.st,RG.ld u85 i85,RG.cl hD,RG.st,RG.st,RG.eX 0 (off+96) rfl _ rfl 212 (.tmp 12) (.tmp 10) (dg D) rfl rfl RG.sx RG.sx (by show off+96+(dg D).length<=C0.length;rw[bN];omega) hC1 (by show _=some (dg _).length;rw[bN];exact i138) (IY _),trivial⟩ ?_;intro a2 w2 M2;have f0_2:a2.tmps[0]? = some (.pointer (some ⟨kt,off,none⟩)):=M2.at (s:=(.p 0 off));have f5_2:a2.tmps[5]? = some (pZ i1):=M2.at (s:=(.p 2 0));have M2:RG.M w w.heap.size [kt] 43 [C1,wn n,ws x++(ws y)] [kt,j1,i1] [(0,.p 0 off),(5,.p 2 0)] a2 _:=⟨M2.st,M2.sl,⟨f0_2,f5_2,trivial⟩⟩
 repeat refine wp_seq ?_
 refine M2.dr kR [.s 13 [] (.p 0 off),.x 14 [] (pv x y),.c 15 [(14,1)] (tv s0),.s 16 [(13,0)] (.p 0 off),.s 17 [(16,3)] (.p 0 (off+0)),.s 18 [(17,4)] (.p 0 ((off+0)+12*0)),.u [(18,5),(15,2)] 0] [] [(0,6,C2)] [C2,wn n,ws x++(ws y)] [(0,.p 0 off)] kR (congrArg (λn=>[n]) hL2) ⟨RG.st,RG.ld g9 i109,RG.cl hs0,RG.st,RG.st,RG.eK rfl 210 17 (iZ 0) rfl (.p 0 (off+0)) RG.sx (λμ w=>ET _ _ 0 dC w),RG.eX 0 ((off+0)+12*0) rfl _ rfl 209 (.tmp 18) (.tmp 15) (tw s0) rfl rfl RG.sx RG.sx (by show off+0+12*0+(tw s0).length<=C1.length;rw[cJ];omega) hC2 i117 (BZ _),trivial⟩ ?_;intro a3 w3 M3;have f0_3:a3.tmps[0]? = some (.pointer (some ⟨kt,off,none⟩)):=M3.at (s:=(.p 0 off));have M3:RG.M w w.heap.size [kt] 43 [C2,wn n,ws x++(ws y)] [kt,j1,i1] [(0,.p 0 off)] a3 _:=⟨M3.st,M3.sl,⟨f0_3,trivial⟩⟩
 repeat refine wp_seq ?_
 refine M3.T [.s (.p 0 off),.s (.p 0 off),.s (.p 0 (off+0)),.s (.p 0 ((off+0)+12*0)),.x (tv s0),.c (tv s2),.m 3,.u 3] [(6,RG.z 12)] [(3,7,tw s2)] [C2,wn n,ws x++(ws y),tw s2] [0,6] ⟨RG.st,RG.st,RG.st,RG.eK rfl 210 21 (iZ 0) rfl (.p 0 (off+0)) RG.sx (λμ w=>ET _ _ 0 dC w),RG.nD rfl 0 ((off+0)+12*0) _ rfl rfl kR 209 22 rfl (tw s0) rfl RG.sx hsub0 iG i117,RG.cl hs2,RG.mk 3 209,RG.pt i117,trivial⟩ ?_;intro j4 a4 w4 M4;repeat refine wp_seq ?_
 refine M4.U [.x (iZ 1)] [0,6,7] ⟨RG.st,trivial⟩ ?_;intro a5 w5 M5;have f0_5:a5.tmps[0]? = some (.pointer (some ⟨kt,off,none⟩)):=M5.at (s:=(.p 0 off));have f6_5:a5.tmps[6]? = some (pZ j4):=M5.at (s:=(.p 3 0));have f7_5:a5.tmps[7]? = some (iZ 1):=M5.at (s:=(.v (iZ 1)));subst hDe;subst hs0e;subst hs2e;clear hC1 hC2 hsub0 hL1 hL2 hlD hlS;repeat refine wp_seq ?_
 refine wp_block ?_;refine wp_loop_ghost (λm a wr=>∃(i:Nat) (C:List Value),1<=i/\i<=8/\i+m=8/\Fi x y (eW n) C0 off i C/\RG.Sl a 43/\a.tmps[0]? = some (.pointer (some ⟨kt,off,none⟩))/\a.tmps[6]? = some (pZ j4)/\a.tmps[7]? = some (iZ i)/\RG.St w w.heap.size [kt] [C,wn n,ws x++ws y,tw (twJ (raJ x y))] [kt,j1,i1,j4] wr) 7 ⟨1,C2,oM,oM,oM,F2,M5.sl,f0_5,f6_5,f7_5,M5.st⟩ ?_;intro m a wr;rintro⟨i,C1,hi1,hi8,hm,hF,sl,g0,g6,g7,hS⟩;generalize j1=k1 at g6 hS;generalize i1=k2 at g6 hS;generalize j4=k3 at g6 hS;obtain⟨D,hDe⟩:∃D,eW n=D:=⟨_,rfl⟩
 rw[hDe]at hF;obtain⟨s0,hs0e⟩:∃s,raJ x y=s:=⟨_,rfl⟩
 obtain⟨s2,hs2e⟩:∃s,twJ (raJ x y)=s:=⟨_,rfl⟩
 rw[hs2e]at hS;obtain⟨sp,hspe⟩:∃s,od x y (i-1)=s:=⟨_,rfl⟩
 obtain⟨s3,hs3e⟩:∃s,plJ sp s2=s:=⟨_,rfl⟩
 have hs3:Gives 147 #[tv sp,tv s2] (tv s3):=hs3e ▸ Mm F sp s2;have hlen:=hF.len;by_cases hi:i<8
 ·have hod:od x y i=s3:=by
   obtain⟨q,rfl⟩:∃q,i=q+1:=⟨i-1,oM⟩
   rw[<-hs3e,<-hspe,<-hs2e];rfl
  have hsubp:(C1.drop (off+0+12*(i-1))).take (tw sp).length=tw sp:=by
   have:=hF.sub hoff (q:=i-1) oM oM;rw[hspe]at this;exact this
  obtain⟨C2,hC2e⟩:∃c,RG.rep C1 (off+0+12*i) (tw s3)=c:=⟨_,rfl⟩
  have hlS:off+0+12*i+(tw s3).length<=C1.length:=by rw[cJ];omega
  have hC2:=hC2e ▸ RG.rep_at hlS;have hL2:C2.length=C1.length:=hC2e ▸ RG.cX hlS;have hF2:Fi x y D C0 off (i+1) C2:=by
   have:=hF.next hoff hi;rw[hod]at this;rw[<-hC2e];exact this
  have hsb:∀w,(binOp .sub 3 (iZ i) (iZ 1)).run prog w=.ok (iZ ((i-1:Nat):Int)) w:=λw=>by
   rw[Cd _ _ oM oM,show(i:Int)-1=((i-1:Nat):Int) by omega]
  clear hs0e hC2e;have M0:RG.M w w.heap.size [kt] 43 [C1,wn n,ws x++(ws y),tw s2] [kt,k1,k2,k3] [(0,.p 0 off),(6,.p 3 0),(7,.v (iZ i))] a _:=⟨hS,sl,⟨g0,g6,g7,trivial⟩⟩
  repeat refine wp_seq ?_
  refine M0.U [.x (iZ i),.x (.bool true)] [0,6,7,26] ⟨RG.st,RG.aG rfl .lss 3 3 25 (iZ i) (iZ 8) (.bool true) rfl rfl RG.sx (λw=>kR) (eN (n:=8) hi),trivial⟩ ?_;intro a1 w1 M1;repeat refine wp_seq ?_
  refine wp_cond_true M1.ev ?_;refine wp_skip ?_;refine wp_seq ?_;refine wp_block ?_;repeat refine wp_seq ?_
  refine M1.dr kR [.s 29 [] (.p 0 off),.x 30 [] (iZ i),.s 31 [] (.p 0 off),.x 32 [] (iZ i),.x 33 [(32,3)] (iZ ((i-1:Nat):Int)),.s 34 [(31,2)] (.p 0 off),.s 35 [(34,5)] (.p 0 (off+0)),.s 36 [(35,6),(33,4)] (.p 0 ((off+0)+12*(i-1))),.x 37 [(36,7)] (tv sp),.x 38 [] (tv s2),.c 39 [(37,8),(38,9)] (tv s3),.s 40 [(29,0)] (.p 0 off),.s 41 [(40,11)] (.p 0 (off+0)),.s 42 [(41,12),(30,1)] (.p 0 ((off+0)+12*i)),.u [(42,13),(39,10)] 0] [] [(0,14,C2)] [C2,wn n,ws x++(ws y),tw s2] [(0,.p 0 off),(6,.p 3 0),(7,.v (iZ i))] kR (congrArg (λn=>[n]) hL2) ⟨RG.st,RG.st,RG.st,RG.st,RG.aG rfl .sub 3 3 32 (iZ i) (iZ 1) (iZ ((i-1:Nat):Int)) rfl rfl RG.sx (λw=>kR) hsb,RG.st,RG.st,RG.aY rfl 210 35 33 rfl (.p 0 (off+0)) (iZ ((i-1:Nat):Int)) RG.sx RG.sx (λμ w=>ET _ _ (i-1) oM w),RG.nD rfl 0 ((off+0)+12*(i-1)) _ rfl rfl kR 209 36 rfl (tw sp) rfl RG.sx hsubp iG i117,RG.ld iG i117,RG.cl hs3,RG.st,RG.st,RG.aY rfl 210 41 30 rfl (.p 0 (off+0)) (iZ i) RG.sx RG.sx (λμ w=>ET _ _ i oM w),RG.eX 0 ((off+0)+12*i) rfl _ rfl 209 (.tmp 42) (.tmp 39) (tw s3) rfl rfl RG.sx RG.sx (by show off+0+12*i+(tw s3).length<=C1.length;rw[cJ];omega) hC2 i117 (BZ _),trivial⟩ ?_;intro a2 w2 M2;repeat refine wp_seq ?_
  refine M2.U [.x (iZ i),.x (iZ ((i+1:Nat):Int)),.x (iZ ((i+1:Nat):Int))] [0,6,7] ⟨RG.st,RG.aG rfl .add 3 3 27 (iZ i) (iZ 1) (iZ ((i+1:Nat):Int)) rfl rfl RG.sx (λw=>kR) (qM i 1 oM oM),RG.st,trivial⟩ ?_;intro a3 w3 M3;have f0_3:a3.tmps[0]? = some (.pointer (some ⟨kt,off,none⟩)):=M3.at (s:=(.p 0 off));have f6_3:a3.tmps[6]? = some (pZ k3):=M3.at (s:=(.p 3 0));have f7_3:a3.tmps[7]? = some (iZ ((i+1:Nat):Int)):=M3.at (s:=(.v (iZ ((i+1:Nat):Int))));show ∃n',_;exact⟨m-1,oM,i+1,C2,oM,oM,oM,hDe.symm ▸ hF2,M3.sl,f0_3,f6_3,f7_3,by rw[hs2e];exact M3.st⟩
 ·have hi9:i=8:=oM;obtain⟨C2,-⟩:∃c:List Value,c=C1:=⟨_,rfl⟩
  have M0:RG.M w w.heap.size [kt] 43 [C1,wn n,ws x++(ws y),tw s2] [kt,k1,k2,k3] [(0,.p 0 off),(6,.p 3 0),(7,.v (iZ i))] a _:=⟨hS,sl,⟨g0,g6,g7,trivial⟩⟩
  repeat refine wp_seq ?_
  refine M0.U [.x (iZ i),.x (.bool false)] [0,6,7,26] ⟨RG.st,RG.aG rfl .lss 3 3 25 (iZ i) (iZ 8) (.bool false) rfl rfl RG.sx (λw=>kR) (lD (n:=8) hi),trivial⟩ ?_;intro a1 w1 M1;repeat refine wp_seq ?_
  refine wp_cond_false M1.ev ?_;refine wp_exit ?_;dsimp only[Exit.then,U5];rw[if_pos rfl];have f0_1:a1.tmps[0]? = some (.pointer (some ⟨kt,off,none⟩)):=M1.at (s:=(.p 0 off));have f6_1:a1.tmps[6]? = some (pZ k3):=M1.at (s:=(.p 3 0));have f7_1:a1.tmps[7]? = some (iZ i):=M1.at (s:=(.v (iZ i)));exact⟨M1.sl.defers,.tuple #[],RG.results_none rfl,_,rfl,⟨C1,hDe.symm ▸ hi9 ▸ hF,M1.st.putTo hF.len⟩,rfl⟩
theorem JU(F:Fld P)(kt o k:Nat)(hq:k<8)(s:T3 P)(w:World)(hk:kt<w.heap.size)(hr:w.rangeAt kt (o+0+12*k) (tw s)):Calls prog 148 #[(.pointer (some ⟨kt,o,none⟩)),(.int .i8 (-(2*(k:Int)+1)))] w (rZ w λe w'=>e=tv (opJ s)):=by
 obtain⟨s2,hs2e⟩:∃s2,opJ s=s2:=⟨_,rfl⟩
 have hs2:=hs2e ▸ PK F s;have hlss:∀w,(binOp .lss 211 (.int .i8 (-(2*(k:Int)+1))) (.int .i8 0)).run prog w=.ok (.bool true) w:=λw=>by
  go_simp;try omega
 have hneg:∀w,(ZE .neg (.int .i8 (-(2*(k:Int)+1)))).run prog w=.ok (.int .i8 (2*(k:Int)+1)) w:=λw=>by
  rw[Mw _ oM,ZT]
 go_enter Tryz.func148,Tryz.ntmps148;refine RG.JL (v0:=(.pointer (some ⟨kt,o,none⟩))) (v1:=(.int .i8 (-(2*(k:Int)+1)))) (n:=23) kR kR kR kR ?_;intro a0 sl0 f0 f1;have hS0:=RG.St.begin w;have M0:RG.M w w.heap.size [] 23 [] [] [(0,.v (.pointer (some ⟨kt,o,none⟩))),(1,.v (.int .i8 (-(2*(k:Int)+1))))] a0 _:=⟨hS0,sl0,⟨f0,f1,trivial⟩⟩
 repeat refine wp_seq ?_
 refine M0.T [.m 0] [(0,RG.z 12)] [] [RG.z 12] [0,1,4] ⟨RG.mk 0 209,trivial⟩ ?_;intro j1 a1 w1 M1;repeat refine wp_seq ?_
 refine M1.U [.x (.int .i8 (-(2*(k:Int)+1))),.x (.bool true)] [0,1,4,6] ⟨RG.st,RG.aG rfl .lss 211 211 5 (.int .i8 (-(2*(k:Int)+1))) (.int .i8 0) (.bool true) rfl rfl RG.sx (λw=>kR) hlss,trivial⟩ ?_;intro a2 w2 M2;repeat refine wp_seq ?_
 refine wp_cond_true M2.ev ?_;repeat refine wp_seq ?_
 refine M2.T [.x (.pointer (some ⟨kt,o,none⟩)),.x (.int .i8 (-(2*(k:Int)+1))),.x (.int .i8 (2*(k:Int)+1)),.x (.int .i8 k),.x (.pointer (some ⟨kt,o,none⟩)),.x (.pointer (some ⟨kt,o+0,none⟩)),.x (.pointer (some ⟨kt,(o+0)+12*k,none⟩)),.x (tv s),.c (tv s2),.u 0] [] [(0,9,tw s2)] [tw s2] [4] ⟨RG.st,RG.st,RG.LM rfl .neg 211 8 (.int .i8 (-(2*(k:Int)+1))) (.int .i8 (2*(k:Int)+1)) rfl rfl RG.sx hneg,RG.aG rfl .quo 211 211 9 (.int .i8 (2*(k:Int)+1)) (.int .i8 2) (.int .i8 k) rfl rfl RG.sx (λw=>kR) (Mv k hq),RG.st,RG.st,RG.aY rfl 210 12 10 rfl (.v (.pointer (some ⟨kt,o+0,none⟩))) (.int .i8 k) RG.sx RG.sx (λμ w=>Jh _ _ k hq w),RG.eD rfl kt ((o+0)+12*k) hk SL 209 13 rfl (tw s) rfl RG.sx hr iG i117,RG.cl hs2,RG.pt i117,trivial⟩ ?_;intro a3 w3 M3;refine wp_ret ?_;refine bodyPost_ret (v:=tv s2) (RG.aE M3.st 4 209 rfl 0 _ rfl (M3.at (s:=(.p 0 0))) iG i117) M3.sl.defers ?_;exact⟨_,rfl,M3.st.bel.below,by rw[hs2e]⟩
theorem JS(F:Fld P)(kt o k:Nat)(hq:k<8)(s:T3 P)(w:World)(hk:kt<w.heap.size)(hr:w.rangeAt kt (o+0+12*k) (tw s)):Calls prog 148 #[(.pointer (some ⟨kt,o,none⟩)),(.int .i8 (2*(k:Int)+1))] w (rZ w λe w'=>e=tv s):=by
 obtain⟨s2,hs2e⟩:∃s2,opJ s=s2:=⟨_,rfl⟩
 have hlss:∀w,(binOp .lss 211 (.int .i8 (2*(k:Int)+1)) (.int .i8 0)).run prog w=.ok (.bool false) w:=λw=>by
  go_simp;try omega
 have hneg:∀w,(ZE .neg (.int .i8 (-(2*(k:Int)+1)))).run prog w=.ok (.int .i8 (2*(k:Int)+1)) w:=λw=>by
  rw[Mw _ oM,ZT]
 go_enter Tryz.func148,Tryz.ntmps148;refine RG.JL (v0:=(.pointer (some ⟨kt,o,none⟩))) (v1:=(.int .i8 (2*(k:Int)+1))) (n:=23) kR kR kR kR ?_;intro a0 sl0 f0 f1;have hS0:=RG.St.begin w;have M0:RG.M w w.heap.size [] 23 [] [] [(0,.v (.pointer (some ⟨kt,o,none⟩))),(1,.v (.int .i8 (2*(k:Int)+1)))] a0 _:=⟨hS0,sl0,⟨f0,f1,trivial⟩⟩
 repeat refine wp_seq ?_
 refine M0.T [.m 0] [(0,RG.z 12)] [] [RG.z 12] [0,1,4] ⟨RG.mk 0 209,trivial⟩ ?_;intro j1 a1 w1 M1;repeat refine wp_seq ?_
 refine M1.U [.x (.int .i8 (2*(k:Int)+1)),.x (.bool false)] [0,1,4,6] ⟨RG.st,RG.aG rfl .lss 211 211 5 (.int .i8 (2*(k:Int)+1)) (.int .i8 0) (.bool false) rfl rfl RG.sx (λw=>kR) hlss,trivial⟩ ?_;intro a2 w2 M2;repeat refine wp_seq ?_
 refine wp_cond_false M2.ev ?_;refine wp_skip ?_;repeat refine wp_seq ?_
 refine M2.T [.x (.pointer (some ⟨kt,o,none⟩)),.x (.int .i8 (2*(k:Int)+1)),.x (.int .i8 k),.x (.pointer (some ⟨kt,o,none⟩)),.x (.pointer (some ⟨kt,o+0,none⟩)),.x (.pointer (some ⟨kt,(o+0)+12*k,none⟩)),.x (tv s),.u 0] [] [(0,7,tw s)] [tw s] [4] ⟨RG.st,RG.st,RG.aG rfl .quo 211 211 17 (.int .i8 (2*(k:Int)+1)) (.int .i8 2) (.int .i8 k) rfl rfl RG.sx (λw=>kR) (Mv k hq),RG.st,RG.st,RG.aY rfl 210 20 18 rfl (.v (.pointer (some ⟨kt,o+0,none⟩))) (.int .i8 k) RG.sx RG.sx (λμ w=>Jh _ _ k hq w),RG.eD rfl kt ((o+0)+12*k) hk SL 209 21 rfl (tw s) rfl RG.sx hr iG i117,RG.pt i117,trivial⟩ ?_;intro a3 w3 M3;refine wp_ret ?_;refine bodyPost_ret (v:=tv s) (RG.aE M3.st 4 209 rfl 0 _ rfl (M3.at (s:=(.p 0 0))) iG i117) M3.sl.defers ?_;exact⟨_,rfl,M3.st.bel.below,rfl⟩
def tmJ(x y:Fin P)(d:Int):T3 P:=if d<0 then opJ (od x y ((-d).toNat/2)) else od x y (d.toNat/2)
theorem Pi(C:Fld P){x y:Fin P}{p:EC.Pt P}(h:EC.Pair x y p)(hp:EC.On p){d:Int}(hd:d%2=1):JacT (tmJ x y d) (EC.eF d p):=by
 unfold tmJ;by_cases hn:d<0
 ·rw[if_pos hn];have h1:=(NY C h hp ((-d).toNat/2)).neg;rw[<-EC.As C.cur hp]at h1;rw[show -((2*((-d).toNat/2)+1:Nat):Int)=d by omega]at h1;exact h1
 ·rw[if_neg hn];have h1:=NY C h hp (d.toNat/2);rw[show((2*(d.toNat/2)+1:Nat):Int)=d by omega]at h1;exact h1
def inn(ns:Nat->Nat)(xs ys:Nat->Fin P)(st:T3 P)(place:Nat):Nat->T3 P
 | 0=>st
 | i+1=>if eW (ns i) place=0 then inn ns xs ys st place i else plJ (inn ns xs ys st place i) (tmJ (xs i) (ys i) (eW (ns i) place))
def jW(ns:Nat->Nat)(xs ys:Nat->Fin P)(N:Nat):Nat->T3 P
 | 0=>(0,0,0)
 | m+1=>inn ns xs ys (twJ (jW ns xs ys N m)) (256-m) N
theorem Mt(C:Fld P){ns:Nat->Nat}{xs ys:Nat->Fin P}{p:Nat->EC.Pt P}{N:Nat}(hns:∀i,i<N->ns i<2^256)(hp:∀i,i<N->EC.Pair (xs i) (ys i) (p i))(ho:∀i,i<N->EC.On (p i)){st:T3 P}{g:Nat->Int}{place:Nat}
 (h:JacT st (EC.tot p N g)):∀i,i<=N->JacT (inn ns xs ys st place i) (EC.tot p N (λj=>if j<i then g j+eW (ns j) place else g j))
 | 0,_=>by
  have:EC.tot p N (λj=>if j<0 then g j+eW (ns j) place else g j)=EC.tot p N g:=EC.fC N λj _=>if_neg oM
  rw[this];exact h
 | i+1,hi=>by
  have ih:=Mt C hns hp ho (place:=place) h i oM;have e:EC.tot p N (λj=>if j<i+1 then g j+eW (ns j) place else g j)=EC.add (EC.tot p N (λj=>if j<i then g j+eW (ns j) place else g j)) (EC.eF (eW (ns i) place) (p i)):=by
   rw[<-EC.JQ C.cur _ i (eW (ns i) place) N oM ho];refine EC.fC N λj _=>?_
   by_cases h1:j=i
   ·subst h1;rw[if_pos oM,if_pos rfl,if_neg oM]
   ·rw[if_neg h1];by_cases h2:j<i
    ·rw[if_pos oM,if_pos h2]
    ·rw[if_neg oM,if_neg h2]
  rw[e];unfold inn;by_cases hz:eW (ns i) place=0
  ·rw[if_pos hz,hz,EC.E1,EC.bE];exact ih
  ·rw[if_neg hz];obtain⟨q,c,-,hD⟩:=zY (hns i oM);rcases hD.ho place with h1|h1
   ·exact absurd h1 hz
   ·exact ih.plus C (Pi C (hp i oM) (ho i oM) h1.1)
theorem GE(C:Fld P){ns:Nat->Nat}{xs ys:Nat->Fin P}{p:Nat->EC.Pt P}{N:Nat}(hns:∀i,i<N->ns i<2^256)(hp:∀i,i<N->EC.Pair (xs i) (ys i) (p i))(ho:∀i,i<N->EC.On (p i)):
 ∀m,m<=257->JacT (jW ns xs ys N m) (EC.tot p N (λj=>DG.hor (eW (ns j)) m))
 | 0,_=>by
  rw[show EC.tot p N (λj=>DG.hor (eW (ns j)) 0)=.none from EC.t9 p N (λ_ _=>rfl)];exact JacT.none
 | m+1,hm=>by
  have ih:=(GE C hns hp ho m oM).twice C;rw[<-EC.E5 C.cur _ N ho]at ih;have h1:=Mt C hns hp ho (place:=256-m) ih N (Se _);have e:EC.tot p N (λj=>DG.hor (eW (ns j)) (m+1))=EC.tot p N (λj=>if j<N then 2*DG.hor (eW (ns j)) m+eW (ns j) (256-m) else 2*DG.hor (eW (ns j)) m):=
   EC.fC N λj hj=>by rw[if_pos hj];rfl
  rw[e];exact h1
theorem GB(C:Fld P){ns:Nat->Nat}{xs ys:Nat->Fin P}{p:Nat->EC.Pt P}{N:Nat}(hns:∀i,i<N->ns i<2^256)(hp:∀i,i<N->EC.Pair (xs i) (ys i) (p i))(ho:∀i,i<N->EC.On (p i)):
 JacT (jW ns xs ys N 257) (EC.tot p N (λj=>(ns j:Int))):=by
 have h:=GE C hns hp ho 257 (Se _);have e:EC.tot p N (λj=>(ns j:Int))=EC.tot p N (λj=>DG.hor (eW (ns j)) 257):=EC.fC N λj hj=>by
  obtain⟨q,c,hq,hD⟩:=zY (hns j hj);exact(DG.Ln hD hq).symm
 rw[e];exact h
def cc(ns:Nat->Nat)(xs ys:Nat->Fin P)(C0:List Value):Nat->List Value
 | 0=>C0
 | i+1=>fc (xs i) (ys i) (eW (ns i)) (cc ns xs ys C0 i) (353*i) 8
theorem MD{ns:Nat->Nat}{xs ys:Nat->Fin P}{C0:List Value}{N:Nat}(hl:C0.length=353*N):∀i,i<=N->(cc ns xs ys C0 i).length=353*N /\
 ∀j,j<i->(∀q,q<257->(cc ns xs ys C0 i)[353*j+96+q]? = some (.int .i8 (eW (ns j) q)))/\∀q r,q<8->r<12->(cc ns xs ys C0 i)[353*j+12*q+r]? = (tw (od (xs j) (ys j) q))[r]?
 | 0,_=>⟨hl,λj hj=>oM⟩
 | i+1,hi=>by
  obtain⟨h1,h2⟩:=MD hl i oM;have hF:=Eu (x:=xs i) (y:=ys i) (D:=eW (ns i)) (C0:=cc ns xs ys C0 i) (off:=353*i) (by rw[h1];omega) 8 (Se _);refine⟨by rw[<-h1];exact hF.len,λj hj=>?_⟩;by_cases hji:j=i
  ·subst hji;exact⟨hF.dig,λq r hq hr=>hF.odd q r hq hr⟩
  ·obtain⟨g1,g2⟩:=h2 j oM;exact⟨λq hq=>(hF.out _ oM).trans (g1 q hq),λq r hq hr=>(hF.out _ oM).trans (g2 q r hq hr)⟩
theorem PW(N:Nat)(hN:N<=512):∃C0:List Value,C0.length=353*N/\∀w:World,(Uc 206 (iZ N) (iZ N)).run prog w=.ok (.slice (some ⟨w.heap.size,0,none⟩) N N) (w.alloc (.cells C0.toArray 214)):=by
 have hu:prog.underlying 206=some (.slice 214):=kR;have hi:(prog.info? 214).map (λi=>(i.size,decide (i.bytes<=4000),i.zero.isSome))=some (353,true,true):=kR;obtain⟨i,hi1,hi2⟩:=Sf.1 hi;simp only[Ud.injEq,decide_eq_true_eq]at hi2;obtain⟨h1,h2,h3⟩:=hi2;obtain⟨z,hz⟩:=SU.1 h3;refine⟨(madeCells z.cells (N*353)).toList,by rw[Sx,size_madeCells,S9],λw=>?_⟩;have hb:(i.bytes:Int)*(N:Int)<=281474976710656:=by
  have:i.bytes*N<=4000*512:=T9 h2 hN;have h5:((i.bytes*N:Nat):Int)<=281474976710656:=oM;rwa[Uh]at h5
 have:=run_make (P:=prog) w 206 214 i z hu hi1 hz .i64 .i64 (N:Int) (N:Int) oM oM hb oM;rw[Vd,h1]at this;rw[UQ];exact this
theorem IM(F:Fld P){n:Nat}(hn:n<top)(x y:Fin P)(C0:List Value)(kt off:Nat)(hoff:off+353<=C0.length)(w:World)(ht:w.there kt 0 C0.length)(hr:w.rangeAt kt 0 C0):
 Calls prog 145 #[.pointer (some ⟨kt,off,none⟩),nv n,pv x y] w (Ret λr w'=>RG.PutTo kt C0.length (fc x y (eW n) C0 off 8) w w'/\r=.tuple #[]):=by
 have hk:kt<w.heap.size:=by
  have h1:=(ht 0 oM).1;exact TQ λhn=>by
   have h2:w.heap[kt]? = none:=Array.getElem?_eq_none oM;simp[World.cell?,h2]at h1
 refine(Oz F hn x y C0 kt off hoff w hk ht hr).mono ?_;rintro e w' ⟨v,rfl,⟨C,hF,hP⟩,rfl⟩;refine⟨_,rfl,?_,rfl⟩;rw[(Eu hoff 8 (Se _)).uniq hF];exact hP
theorem JV(F:Fld P)(kt o:Nat)(x y:Fin P){d:Int}(hd:d%2=1)(hd2:-15<=d/\d<=15)(w:World)(hk:kt<w.heap.size)(hr:∀q,q<8->w.rangeAt kt (o+0+12*q) (tw (od x y q))):
 Calls prog 148 #[.pointer (some ⟨kt,o,none⟩),.int .i8 d] w (rZ w λe w'=>e=tv (tmJ x y d)):=by
 unfold tmJ;by_cases hn:d<0
 ·rw[if_pos hn];have h1:=JU F kt o ((-d).toNat/2) oM (od x y ((-d).toNat/2)) w hk (hr _ oM);rw[show -(2*(((-d).toNat/2:Nat):Int)+1)=d by omega]at h1;exact h1
 ·rw[if_neg hn];have h1:=JS F kt o (d.toNat/2) oM (od x y (d.toNat/2)) w hk (hr _ oM);rw[show 2*((d.toNat/2:Nat):Int)+1=d by omega]at h1;exact h1
theorem QA{P:Nat}[NeZero P](w:World):(Yn 209 true (.tuple #[])).run prog w=.ok (.pointer (some ⟨w.heap.size,0,none⟩)) (w.alloc (.cells (tw ((0,0,0):T3 P)).toArray 209)):=by
 show _=Result.ok _ (w.alloc (.cells (ws (0:Fin P)++(ws (0:Fin P)++ws (0:Fin P))).toArray 209));rw[<-tH];kernel_rfl
theorem PS(w:World):(binOp .neq 211 (.int .i8 0) (.int .i8 0)).run prog w=.ok (.bool false) w:=kR
theorem PQ{d:Int}(h:¬d=0)(w:World):(binOp .neq 211 (.int .i8 d) (.int .i8 0)).run prog w=.ok (.bool true) w:=by
 go_simp
theorem sub1'(q:Nat)(hq:q<1000)(w:World):(binOp .sub 3 (iZ q) (iZ 1)).run prog w=.ok (iZ ((q:Int)-1)) w:=Cd _ _ oM oM w
theorem geq0'(i:Nat)(w:World):(binOp .geq 3 (iZ i) (iZ 0)).run prog w=.ok (.bool true) w:=by
 go_simp
theorem Nh(F:Fld P)(N:Nat)(hN:N<=512)(ns:Nat->Nat)(xs ys:Nat->Fin P)(hns:∀i,i<N->ns i<top)(kn ka:Nat)(w:World)(hkn:kn<w.heap.size)(hka:ka<w.heap.size)
 (hn:∀i,i<N->w.rangeAt kn (4*i) (wn (ns i))) (ha:∀i,i<N->w.rangeAt ka (8*i) (ws (xs i)++ws (ys i))) :
 Calls prog 120 #[.slice (some (aZ kn)) N N,.slice (some (aZ ka)) N N] w (rZ w λe w'=>∃s,s=jW ns xs ys N 257/\e=pv (s.1*(EC.inv s.2.2*EC.inv s.2.2)) (s.2.1*(EC.inv s.2.2*EC.inv s.2.2)*EC.inv s.2.2)):=by
 obtain⟨C,hCl,hmk⟩:=PW N hN;have hstepC:∀(i:Nat) (c2:List Value),fc (xs i) (ys i) (eW (ns i)) (cc ns xs ys C i) (353*i) 8=c2->cc ns xs ys C (i+1)=c2:=λi c2 h=>h
 obtain⟨i,-⟩:∃i:Nat,i=0:=⟨_,rfl⟩
 obtain⟨q,-⟩:∃i:Nat,i=0:=⟨_,rfl⟩
 obtain⟨d,-⟩:∃i:Int,i=0:=⟨_,rfl⟩
 obtain⟨C2,-⟩:∃c:List Value,c=C:=⟨_,rfl⟩
 obtain⟨s,-⟩:∃s:T3 P,s=(0,0,0):=⟨_,rfl⟩
 obtain⟨s2,-⟩:∃s:T3 P,s=(0,0,0):=⟨_,rfl⟩
 obtain⟨s3,-⟩:∃s:T3 P,s=(0,0,0):=⟨_,rfl⟩
 obtain⟨s4,-⟩:∃s:T3 P,s=(0,0,0):=⟨_,rfl⟩
 go_enter Tryz.func120,Tryz.ntmps120;refine RG.JL (v0:=(.slice (some (aZ kn)) N N)) (v1:=(.slice (some (aZ ka)) N N)) (n:=62) kR kR kR kR ?_;intro a0 sl0 f0 f1;have hS0:=RG.St.begin w;have M0:RG.M w w.heap.size [] 62 [] [] [(0,.v (.slice (some (aZ kn)) N N)),(1,.v (.slice (some (aZ ka)) N N))] a0 _:=⟨hS0,sl0,⟨f0,f1,trivial⟩⟩
 repeat refine wp_seq ?_
 refine M0.T [.m 0] [(0,RG.z 8)] [] [RG.z 8] [0,1,4] ⟨RG.mk 0 114,trivial⟩ ?_;intro j1 a1 w1 M1;repeat refine wp_seq ?_
 refine M1.t [.x 11 [] (.slice (some (aZ kn)) N N),.x 12 [(11,0)] (iZ N),⟨some 13,[(12,1)],.s 1 N N,.make 1⟩,.s 5 [(13,2)] (.s 1 N N)] [(2,C)] [] [RG.z 8,C] [(0,.v (.slice (some (aZ kn)) N N)),(1,.v (.slice (some (aZ ka)) N N)),(4,.p 0 0),(5,.s 1 N N)] ⟨RG.st,RG.fY rfl 11 (.v (.slice (some (aZ kn)) N N)) (iZ N) rfl RG.sx (λa w=>kR) (λμ w=>kR),RG.lI 1 rfl _ rfl 206 214 12 12 N rfl rfl RG.sx RG.sx hmk,RG.st,trivial⟩ ?_;intro j2 a2 w2 M2;repeat refine wp_seq ?_
 refine M2.U [.s (.s 1 N N),.x (iZ N),.x (iZ 0)] [0,1,4,5,15,16] ⟨RG.st,RG.fY rfl 14 (.s 1 N N) (iZ N) rfl RG.sx (λa w=>kR) (λμ w=>kR),RG.st,trivial⟩ ?_;intro a3 w3 M3;have f0_3:a3.tmps[0]? = some (.slice (some (aZ kn)) N N):=M3.at (s:=(.v (.slice (some (aZ kn)) N N)));have f1_3:a3.tmps[1]? = some (.slice (some (aZ ka)) N N):=M3.at (s:=(.v (.slice (some (aZ ka)) N N)));have f4_3:a3.tmps[4]? = some (pZ j1):=M3.at (s:=(.p 0 0));have f5_3:a3.tmps[5]? = some (.slice (some (aZ j2)) N N):=M3.at (s:=(.s 1 N N));have f15_3:a3.tmps[15]? = some (iZ N):=M3.at (s:=(.v (iZ N)));have f16_3:a3.tmps[16]? = some (iZ 0):=M3.at (s:=(.v (iZ 0)));repeat refine wp_seq ?_
 refine wp_block ?_;refine wp_loop_ghost (λm a wr=>∃i,i+m=N/\RG.Sl a 62/\a.tmps[0]? = some (.slice (some (aZ kn)) N N)/\a.tmps[1]? = some (.slice (some (aZ ka)) N N)/\a.tmps[4]? = some (pZ j1)/\a.tmps[5]? = some (.slice (some (aZ j2)) N N)/\a.tmps[15]? = some (iZ N)/\a.tmps[16]? = some (iZ i)/\RG.St w w.heap.size [] [[uZ 0,uZ 0,uZ 0,uZ 0,uZ 0,uZ 0,uZ 0,uZ 0],cc ns xs ys C i] [j1,j2] wr) N ⟨0,oM,M3.sl,f0_3,f1_3,f4_3,f5_3,f15_3,f16_3,M3.st⟩ ?_;intro m a wr;rintro⟨i,him,sl,p0,p1,p4,p5,p15,p16,hSp⟩;generalize j1=kr at p4 hSp;generalize j2=kt at p5 hSp;obtain⟨C,hCe⟩:∃c,cc ns xs ys C i=c:=⟨_,rfl⟩
 have hcc:=MD (ns:=ns) (xs:=xs) (ys:=ys) hCl i oM;rw[hCe]at hSp hcc;by_cases hi:i<N
 ·obtain⟨C2,hC2e⟩:∃c,fc (xs i) (ys i) (eW (ns i)) C (353*i) 8=c:=⟨_,rfl⟩
  have hoff:353*i+353<=C.length:=by rw[hcc.1];omega
  have hcl:C2.length=C.length:=hC2e ▸ (Eu hoff 8 (Se _)).len;have hfill:∀(k:Nat) (w:World),w.there k 0 C.length->w.rangeAt k 0 C->Calls prog 145 #[.pointer (some ⟨k,353*i,none⟩),nv (ns i),pv (xs i) (ys i)] w (Ret λr w'=>RG.PutTo k C.length C2 w w'/\r=.tuple #[]):=λk w ht hr=>hC2e ▸ IM F (hns i hi) (xs i) (ys i) C k (353*i) hoff w ht hr
  have hrn:w.rangeAt kn (0+4*i) (wn (ns i)):=by rw[Sj];exact hn i hi
  have hra:w.rangeAt ka (0+8*i) (ws (xs i)++ws (ys i)):=by rw[Sj];exact ha i hi
  have M10:RG.M w w.heap.size [] 62 [RG.z 8,C] [kr,kt] [(0,.v (.slice (some (aZ kn)) N N)),(1,.v (.slice (some (aZ ka)) N N)),(4,.p 0 0),(5,.s 1 N N),(15,.v (iZ N)),(16,.v (iZ i))] a _:=⟨hSp,sl,⟨p0,p1,p4,p5,p15,p16,trivial⟩⟩
  repeat refine wp_seq ?_
  refine M10.U [.x (.bool true)] [0,1,4,5,15,16,17] ⟨RG.aK rfl .lss 3 3 16 15 (iZ i) (iZ N) (.bool true) rfl rfl RG.sx RG.sx (λw=>kR) (eN hi),trivial⟩ ?_;intro a11 w11 M11;repeat refine wp_seq ?_
  refine wp_cond_true M11.ev ?_;refine wp_skip ?_;refine wp_seq ?_;refine wp_block ?_;repeat refine wp_seq ?_
  refine M11.U [.x (iZ i),.x (iZ i)] [0,1,4,5,6,15,16] ⟨RG.st,RG.st,trivial⟩ ?_;intro a12 w12 M12;repeat refine wp_seq ?_
  refine M12.dr kR [.s 19 [] (.s 1 N N),.x 20 [] (iZ i),.s 21 [(19,0),(20,1)] (.p 1 (353*i)),.x 22 [] (.slice (some (aZ kn)) N N),.x 23 [] (iZ i),.x 24 [(22,3),(23,4)] (.pointer (some ⟨kn,0+4*i,none⟩)),.x 25 [(24,5)] (nv (ns i)),.x 26 [] (.slice (some (aZ ka)) N N),.x 27 [] (iZ i),.x 28 [(26,7),(27,8)] (.pointer (some ⟨ka,0+8*i,none⟩)),.x 29 [(28,9)] (pv (xs i) (ys i)),⟨some 30,[(21,2),(25,6),(29,10)],.v (.tuple #[]),.put 1⟩] [] [(1,11,C2)] [RG.z 8,C2] [(0,.v (.slice (some (aZ kn)) N N)),(1,.v (.slice (some (aZ ka)) N N)),(4,.p 0 0),(5,.s 1 N N),(15,.v (iZ N)),(16,.v (iZ i))] kR (congrArg (λn=>[n]) hcl) ⟨RG.st,RG.st,RG.aY rfl 206 19 20 rfl (.s 1 N N) (iZ i) RG.sx RG.sx (λμ w=>EU _ _ _ i hi w),RG.st,RG.st,RG.aY rfl 177 22 23 rfl (.v (.slice (some (aZ kn)) N N)) (iZ i) RG.sx RG.sx (λμ w=>Qw _ _ _ _ i hi w),RG.eD rfl kn (0+4*i) hkn SL 41 24 rfl (wn (ns i)) rfl RG.sx hrn u85 i85,RG.st,RG.st,RG.aY rfl 180 26 27 rfl (.v (.slice (some (aZ ka)) N N)) (iZ i) RG.sx RG.sx (λμ w=>MI _ _ _ _ i hi w),RG.eD rfl ka (0+8*i) hka SL 114 28 rfl (ws (xs i)++ws (ys i)) rfl RG.sx hra g9 i109,RG.xE 1 rfl _ rfl 145 21 25 29 (.p 1 (353*i)) (nv (ns i)) (pv (xs i) (ys i)) (.tuple #[]) rfl (λa w=>kR) RG.sx RG.sx RG.sx (λμ w ht hr=>hfill (μ 1) w ht hr),trivial⟩ ?_;intro a13 w13 M13;repeat refine wp_seq ?_
  refine M13.U [.x (iZ ((i+1:Nat):Int)),.x (iZ ((i+1:Nat):Int))] [0,1,4,5,15,16] ⟨RG.aG rfl .add 3 3 16 (iZ i) (iZ 1) (iZ ((i+1:Nat):Int)) rfl rfl RG.sx (λw=>kR) (qM i 1 oM oM),RG.st,trivial⟩ ?_;intro a14 w14 M14;have f0_14:a14.tmps[0]? = some (.slice (some (aZ kn)) N N):=M14.at (s:=(.v (.slice (some (aZ kn)) N N)));have f1_14:a14.tmps[1]? = some (.slice (some (aZ ka)) N N):=M14.at (s:=(.v (.slice (some (aZ ka)) N N)));have f4_14:a14.tmps[4]? = some (pZ kr):=M14.at (s:=(.p 0 0));have f5_14:a14.tmps[5]? = some (.slice (some (aZ kt)) N N):=M14.at (s:=(.s 1 N N));have f15_14:a14.tmps[15]? = some (iZ N):=M14.at (s:=(.v (iZ N)));have f16_14:a14.tmps[16]? = some (iZ ((i+1:Nat):Int)):=M14.at (s:=(.v (iZ ((i+1:Nat):Int))));show ∃n',_;refine⟨m-1,oM,i+1,oM,M14.sl,f0_14,f1_14,f4_14,f5_14,f15_14,f16_14,?_⟩;rw[hstepC i C2 (by rw[hCe];exact hC2e)];exact M14.st
 ·have hiN:i=N:=oM;rw[hiN]at hcc;have hcN:=hcc.2;have M20:RG.M w w.heap.size [] 62 [RG.z 8,C] [kr,kt] [(0,.v (.slice (some (aZ kn)) N N)),(1,.v (.slice (some (aZ ka)) N N)),(4,.p 0 0),(5,.s 1 N N),(15,.v (iZ N)),(16,.v (iZ i))] a _:=⟨hSp,sl,⟨p0,p1,p4,p5,p15,p16,trivial⟩⟩
  repeat refine wp_seq ?_
  refine M20.U [.x (.bool false)] [4,5,17] ⟨RG.aK rfl .lss 3 3 16 15 (iZ i) (iZ N) (.bool false) rfl rfl RG.sx RG.sx (λw=>kR) (lD hi),trivial⟩ ?_;intro a21 w21 M21;repeat refine wp_seq ?_
  refine wp_cond_false M21.ev ?_;refine wp_exit ?_;dsimp only[Exit.then,U5];rw[if_pos rfl];repeat refine wp_seq ?_
  refine M21.T [.m 2] [(0,tw ((0,0,0):T3 P))] [] [RG.z 8,C,tw ((0,0,0):T3 P)] [4,5,7] ⟨RG.nY 2 rfl rfl _ rfl 209 rfl QA,trivial⟩ ?_;intro j22 a22 w22 M22;repeat refine wp_seq ?_
  refine M22.U [.x (iZ 256)] [4,5,7,8] ⟨RG.st,trivial⟩ ?_;intro a23 w23 M23;have f4_23:a23.tmps[4]? = some (pZ kr):=M23.at (s:=(.p 0 0));have f5_23:a23.tmps[5]? = some (.slice (some (aZ kt)) N N):=M23.at (s:=(.s 1 N N));have f7_23:a23.tmps[7]? = some (pZ j22):=M23.at (s:=(.p 2 0));have f8_23:a23.tmps[8]? = some (iZ 256):=M23.at (s:=(.v (iZ 256)));repeat refine wp_seq ?_
  refine wp_block ?_;refine wp_loop_ghost (λm a wr=>m<=257/\RG.Sl a 62/\a.tmps[4]? = some (pZ kr)/\a.tmps[5]? = some (.slice (some (aZ kt)) N N)/\a.tmps[7]? = some (pZ j22)/\a.tmps[8]? = some (iZ ((m:Int)-1))/\RG.St w w.heap.size [] [[uZ 0,uZ 0,uZ 0,uZ 0,uZ 0,uZ 0,uZ 0,uZ 0],C,tw (jW ns xs ys N (257-m))] [kr,kt,j22] wr) 257 ⟨Se _,M23.sl,f4_23,f5_23,f7_23,f8_23,?_⟩ ?_
  ·rw[WP,jW];exact M23.st
  intro m b wr;rintro⟨hm,slb,q4,q5,q7,q8,hSq⟩;generalize j22=kl at q7 hSq;by_cases hz:m=0
  ·subst hz;rw[show 257-0=257 from rfl]at hSq;obtain⟨s,hse⟩:∃s,jW ns xs ys N 257=s:=⟨_,rfl⟩
   rw[hse]at hSq;have M40:RG.M w w.heap.size [] 62 [RG.z 8,C,tw s] [kr,kt,kl] [(4,.p 0 0),(5,.s 1 N N),(7,.p 2 0),(8,.v (iZ (-1)))] b _:=⟨hSq,slb,⟨q4,q5,q7,q8,trivial⟩⟩
   repeat refine wp_seq ?_
   refine M40.U [.x (iZ (-1)),.x (.bool false)] [4,7,33] ⟨RG.st,RG.st,trivial⟩ ?_;intro a41 w41 M41;repeat refine wp_seq ?_
   refine wp_cond_false M41.ev ?_;refine wp_exit ?_;dsimp only[Exit.then,U5];rw[if_pos rfl];repeat refine wp_seq ?_
   refine M41.T [.x (tv s),.c (pv (s.1*(EC.inv s.2.2*EC.inv s.2.2)) (s.2.1*(EC.inv s.2.2*EC.inv s.2.2)*EC.inv s.2.2)),.u 0] [] [(0,2,ws (s.1*(EC.inv s.2.2*EC.inv s.2.2))++(ws (s.2.1*(EC.inv s.2.2*EC.inv s.2.2)*EC.inv s.2.2)))] [ws (s.1*(EC.inv s.2.2*EC.inv s.2.2))++(ws (s.2.1*(EC.inv s.2.2*EC.inv s.2.2)*EC.inv s.2.2)),C,tw s] [4] ⟨RG.ld iG i117,RG.cl (PG F s),RG.pt i109,trivial⟩ ?_;intro a42 w42 M42;refine wp_ret ?_;refine bodyPost_ret (v:=pv (s.1*(EC.inv s.2.2*EC.inv s.2.2)) (s.2.1*(EC.inv s.2.2*EC.inv s.2.2)*EC.inv s.2.2)) (RG.aE M42.st 4 114 rfl 0 _ rfl (M42.at (s:=(.p 0 0))) g9 i109) M42.sl.defers ?_;exact⟨_,rfl,M42.st.bel.below,s,hse.symm,rfl⟩
  ·obtain⟨q,rfl⟩:∃q,m=q+1:=⟨m-1,oM⟩
   have hq:q<257:=oM;replace q8:b.tmps[8]? = some (iZ q):=by rw[q8];congr 2;omega
   obtain⟨s,hse⟩:∃s,jW ns xs ys N (257-(q+1))=s:=⟨_,rfl⟩
   rw[hse]at hSq;obtain⟨s2,hs2e⟩:∃t,twJ s=t:=⟨_,rfl⟩
   have hs2:=hs2e ▸ Mj F s;have hnext:jW ns xs ys N (257-q)=inn ns xs ys s2 q N:=by
    rw[show 257-q=257-(q+1)+1 by omega];show inn ns xs ys (twJ (jW ns xs ys N (257-(q+1)))) (256-(257-(q+1))) N=_;rw[hse,hs2e,show 256-(257-(q+1))=q by omega]
   have M30:RG.M w w.heap.size [] 62 [RG.z 8,C,tw s] [kr,kt,kl] [(4,.p 0 0),(5,.s 1 N N),(7,.p 2 0),(8,.v (iZ q))] b _:=⟨hSq,slb,⟨q4,q5,q7,q8,trivial⟩⟩
   repeat refine wp_seq ?_
   refine M30.U [.x (iZ q),.x (.bool true)] [4,5,7,8,33] ⟨RG.st,RG.aG rfl .geq 3 3 32 (iZ q) (iZ 0) (.bool true) rfl rfl RG.sx (λw=>kR) (geq0' q),trivial⟩ ?_;intro a31 w31 M31;repeat refine wp_seq ?_
   refine wp_cond_true M31.ev ?_;refine wp_skip ?_;refine wp_seq ?_;refine wp_block ?_;repeat refine wp_seq ?_
   refine M31.T [.x (tv s),.c (tv s2),.u 2] [] [(2,2,tw s2)] [RG.z 8,C,tw s2] [4,5,7,8] ⟨RG.ld iG i117,RG.cl hs2,RG.pt i117,trivial⟩ ?_;intro a32 w32 M32;repeat refine wp_seq ?_
   refine M32.U [.s (.s 1 N N),.x (iZ N),.x (iZ 0)] [4,5,7,8,39,40] ⟨RG.st,RG.fY rfl 38 (.s 1 N N) (iZ N) rfl RG.sx (λa w=>kR) (λμ w=>kR),RG.st,trivial⟩ ?_;intro a33 w33 M33;have f4_33:a33.tmps[4]? = some (pZ kr):=M33.at (s:=(.p 0 0));have f5_33:a33.tmps[5]? = some (.slice (some (aZ kt)) N N):=M33.at (s:=(.s 1 N N));have f7_33:a33.tmps[7]? = some (pZ kl):=M33.at (s:=(.p 2 0));have f8_33:a33.tmps[8]? = some (iZ q):=M33.at (s:=(.v (iZ q)));have f39_33:a33.tmps[39]? = some (iZ N):=M33.at (s:=(.v (iZ N)));have f40_33:a33.tmps[40]? = some (iZ 0):=M33.at (s:=(.v (iZ 0)));repeat refine wp_seq ?_
   refine wp_block ?_;refine wp_loop_ghost (λm a wr=>∃i,i+m=N/\RG.Sl a 62/\a.tmps[4]? = some (pZ kr)/\a.tmps[5]? = some (.slice (some (aZ kt)) N N)/\a.tmps[7]? = some (pZ kl)/\a.tmps[8]? = some (iZ q)/\a.tmps[39]? = some (iZ N)/\a.tmps[40]? = some (iZ i)/\RG.St w w.heap.size [] [[uZ 0,uZ 0,uZ 0,uZ 0,uZ 0,uZ 0,uZ 0,uZ 0],C,tw (inn ns xs ys s2 q i)] [kr,kt,kl] wr) N ⟨0,oM,M33.sl,f4_33,f5_33,f7_33,f8_33,f39_33,f40_33,M33.st⟩ ?_;intro m' c wr;rintro⟨i,him,slc,r4,r5,r7,r8,r39,r40,hSr⟩;obtain⟨s,hse3⟩:∃s,inn ns xs ys s2 q i=s:=⟨_,rfl⟩
   rw[hse3]at hSr;by_cases hi:i<N
   ·obtain⟨h1,h2⟩:=hcN i hi;obtain⟨d,hde⟩:∃d,eW (ns i) q=d:=⟨_,rfl⟩
    have hdig:=hde ▸ h1 q hq;have hCne:C≠[]:=by intro h;rw[h]at hdig;simp at hdig
    have hstep:inn ns xs ys s2 q (i+1)=if d=0 then s else plJ s (tmJ (xs i) (ys i) d):=by rw[<-hse3,<-hde];rfl
    by_cases hdz:d=0
    ·rw[if_pos hdz]at hstep;rw[hdz]at hdig;have M50:RG.M w w.heap.size [] 62 [RG.z 8,C,tw s] [kr,kt,kl] [(4,.p 0 0),(5,.s 1 N N),(7,.p 2 0),(8,.v (iZ q)),(39,.v (iZ N)),(40,.v (iZ i))] c _:=⟨hSr,slc,⟨r4,r5,r7,r8,r39,r40,trivial⟩⟩
     repeat refine wp_seq ?_
     refine M50.U [.x (.bool true)] [4,5,7,8,39,40,41] ⟨RG.aK rfl .lss 3 3 40 39 (iZ i) (iZ N) (.bool true) rfl rfl RG.sx RG.sx (λw=>kR) (eN hi),trivial⟩ ?_;intro a51 w51 M51;repeat refine wp_seq ?_
     refine wp_cond_true M51.ev ?_;refine wp_skip ?_;refine wp_seq ?_;refine wp_block ?_;repeat refine wp_seq ?_
     refine M51.U [.x (iZ i),.x (iZ i)] [4,5,7,8,9,39,40] ⟨RG.st,RG.st,trivial⟩ ?_;intro a52 w52 M52;repeat refine wp_seq ?_
     refine M52.U [.s (.s 1 N N),.x (iZ i),.x (iZ q),.s (.p 1 (353*i)),.s (.p 1 ((353*i)+96)),.s (.p 1 (((353*i)+96)+q)),.x (.int .i8 0),.x (.int .i8 0)] [4,5,7,8,10,39,40] ⟨RG.st,RG.st,RG.st,RG.aY rfl 206 43 44 rfl (.s 1 N N) (iZ i) RG.sx RG.sx (λμ w=>EU _ _ _ i hi w),RG.st,RG.aY rfl 212 47 45 rfl (.p 1 ((353*i)+96)) (iZ q) RG.sx RG.sx (λμ w=>Jg _ _ q hq w),RG.wJ rfl 1 (((353*i)+96)+q) _ rfl rfl kR 211 48 rfl (.int .i8 0) rfl RG.sx hdig Ph,RG.st,trivial⟩ ?_;intro a53 w53 M53;repeat refine wp_seq ?_
     refine M53.U [.x (.int .i8 0),.x (.bool false)] [4,5,7,8,39,40,51] ⟨RG.st,RG.aG rfl .neq 211 211 50 (.int .i8 0) (.int .i8 0) (.bool false) rfl rfl RG.sx (λw=>kR) PS,trivial⟩ ?_;intro a54 w54 M54;repeat refine wp_seq ?_
     refine wp_cond_false M54.ev ?_;refine wp_skip ?_;repeat refine wp_seq ?_
     refine M54.U [.x (iZ ((i+1:Nat):Int)),.x (iZ ((i+1:Nat):Int))] [4,5,7,8,39,40] ⟨RG.aG rfl .add 3 3 40 (iZ i) (iZ 1) (iZ ((i+1:Nat):Int)) rfl rfl RG.sx (λw=>kR) (qM i 1 oM oM),RG.st,trivial⟩ ?_;intro a55 w55 M55;have f4_55:a55.tmps[4]? = some (pZ kr):=M55.at (s:=(.p 0 0));have f5_55:a55.tmps[5]? = some (.slice (some (aZ kt)) N N):=M55.at (s:=(.s 1 N N));have f7_55:a55.tmps[7]? = some (pZ kl):=M55.at (s:=(.p 2 0));have f8_55:a55.tmps[8]? = some (iZ q):=M55.at (s:=(.v (iZ q)));have f39_55:a55.tmps[39]? = some (iZ N):=M55.at (s:=(.v (iZ N)));have f40_55:a55.tmps[40]? = some (iZ ((i+1:Nat):Int)):=M55.at (s:=(.v (iZ ((i+1:Nat):Int))));show ∃n',_;exact⟨m'-1,oM,i+1,oM,M55.sl,f4_55,f5_55,f7_55,f8_55,f39_55,f40_55,by rw[hstep];exact M55.st⟩
    ·rw[if_neg hdz]at hstep;have hodd:d%2=1/\-15<=d/\d<=15:=by
      obtain⟨_,_,-,hD⟩:=zY (show ns i<2^256 from hns i hi);rcases hD.ho q with h|h
      ·exact absurd (hde ▸ h) hdz
      ·exact hde ▸ h
     obtain⟨s3,hs3e⟩:∃t,tmJ (xs i) (ys i) d=t:=⟨_,rfl⟩
     obtain⟨s4,hs4e⟩:∃t,plJ s s3=t:=⟨_,rfl⟩
     have hs4:=hs4e ▸ Mm F s s3;have htm:∀(k:Nat) (w:World),k<w.heap.size->w.rangeAt k 0 C->Calls prog 148 #[.pointer (some ⟨k,353*i,none⟩),.int .i8 d] w (rZ w λr w'=>r=tv s3):=λk w hlt hr =>
      hs3e ▸ JV F k (353*i) (xs i) (ys i) hodd.1 hodd.2 w hlt (λqq hqq=>RG.qY hr (λj hj=>by rw[Ur];exact h2 qq j hqq (by rw[cJ]at hj;exact hj)))
     rw[hs3e,hs4e]at hstep;have M50:RG.M w w.heap.size [] 62 [RG.z 8,C,tw s] [kr,kt,kl] [(4,.p 0 0),(5,.s 1 N N),(7,.p 2 0),(8,.v (iZ q)),(39,.v (iZ N)),(40,.v (iZ i))] c _:=⟨hSr,slc,⟨r4,r5,r7,r8,r39,r40,trivial⟩⟩
     repeat refine wp_seq ?_
     refine M50.U [.x (.bool true)] [4,5,7,8,39,40,41] ⟨RG.aK rfl .lss 3 3 40 39 (iZ i) (iZ N) (.bool true) rfl rfl RG.sx RG.sx (λw=>kR) (eN hi),trivial⟩ ?_;intro a51 w51 M51;repeat refine wp_seq ?_
     refine wp_cond_true M51.ev ?_;refine wp_skip ?_;refine wp_seq ?_;refine wp_block ?_;repeat refine wp_seq ?_
     refine M51.U [.x (iZ i),.x (iZ i)] [4,5,7,8,9,39,40] ⟨RG.st,RG.st,trivial⟩ ?_;intro a52 w52 M52;repeat refine wp_seq ?_
     refine M52.U [.s (.s 1 N N),.x (iZ i),.x (iZ q),.s (.p 1 (353*i)),.s (.p 1 ((353*i)+96)),.s (.p 1 (((353*i)+96)+q)),.x (.int .i8 d),.x (.int .i8 d)] [4,5,7,8,9,10,39,40] ⟨RG.st,RG.st,RG.st,RG.aY rfl 206 43 44 rfl (.s 1 N N) (iZ i) RG.sx RG.sx (λμ w=>EU _ _ _ i hi w),RG.st,RG.aY rfl 212 47 45 rfl (.p 1 ((353*i)+96)) (iZ q) RG.sx RG.sx (λμ w=>Jg _ _ q hq w),RG.wJ rfl 1 (((353*i)+96)+q) _ rfl rfl kR 211 48 rfl (.int .i8 d) rfl RG.sx hdig Ph,RG.st,trivial⟩ ?_;intro a53 w53 M53;repeat refine wp_seq ?_
     refine M53.U [.x (.int .i8 d),.x (.bool true)] [4,5,7,8,9,10,39,40,51] ⟨RG.st,RG.aG rfl .neq 211 211 50 (.int .i8 d) (.int .i8 0) (.bool true) rfl rfl RG.sx (λw=>kR) (PQ hdz),trivial⟩ ?_;intro a54 w54 M54;repeat refine wp_seq ?_
     refine wp_cond_true M54.ev ?_;repeat refine wp_seq ?_
     refine M54.D [.x (tv s),.s (.s 1 N N),.x (iZ i),.s (.p 1 (353*i)),.x (.int .i8 d),.c (tv s3),.c (tv s4),.u 2] [] [(2,7,tw s4)] [RG.z 8,C,tw s4] [4,5,7,8,39,40] ⟨RG.ld iG i117,RG.st,RG.st,RG.aY rfl 206 53 54 rfl (.s 1 N N) (iZ i) RG.sx RG.sx (λμ w=>EU _ _ _ i hi w),RG.st,RG.BE rfl 1 _ rfl rfl kR hCne 148 55 56 (.p 1 (353*i)) (.int .i8 d) (tv s3) rfl (λa w=>kR) RG.sx RG.sx (λμ w hlt hr=>htm (μ 1) w hlt hr),RG.cl hs4,RG.pt i117,trivial⟩ ?_;intro a55 w55 M55;repeat refine wp_seq ?_
     refine M55.U [.x (iZ ((i+1:Nat):Int)),.x (iZ ((i+1:Nat):Int))] [4,5,7,8,39,40] ⟨RG.aG rfl .add 3 3 40 (iZ i) (iZ 1) (iZ ((i+1:Nat):Int)) rfl rfl RG.sx (λw=>kR) (qM i 1 oM oM),RG.st,trivial⟩ ?_;intro a56 w56 M56;have f4_56:a56.tmps[4]? = some (pZ kr):=M56.at (s:=(.p 0 0));have f5_56:a56.tmps[5]? = some (.slice (some (aZ kt)) N N):=M56.at (s:=(.s 1 N N));have f7_56:a56.tmps[7]? = some (pZ kl):=M56.at (s:=(.p 2 0));have f8_56:a56.tmps[8]? = some (iZ q):=M56.at (s:=(.v (iZ q)));have f39_56:a56.tmps[39]? = some (iZ N):=M56.at (s:=(.v (iZ N)));have f40_56:a56.tmps[40]? = some (iZ ((i+1:Nat):Int)):=M56.at (s:=(.v (iZ ((i+1:Nat):Int))));show ∃n',_;exact⟨m'-1,oM,i+1,oM,M56.sl,f4_56,f5_56,f7_56,f8_56,f39_56,f40_56,by rw[hstep];exact M56.st⟩
   ·have hiN3:i=N:=oM;rw[hiN3]at hse3;rw[hse3]at hnext;have M60:RG.M w w.heap.size [] 62 [RG.z 8,C,tw s] [kr,kt,kl] [(4,.p 0 0),(5,.s 1 N N),(7,.p 2 0),(8,.v (iZ q)),(39,.v (iZ N)),(40,.v (iZ i))] c _:=⟨hSr,slc,⟨r4,r5,r7,r8,r39,r40,trivial⟩⟩
    repeat refine wp_seq ?_
    refine M60.U [.x (.bool false)] [4,5,7,8,41] ⟨RG.aK rfl .lss 3 3 40 39 (iZ i) (iZ N) (.bool false) rfl rfl RG.sx RG.sx (λw=>kR) (lD hi),trivial⟩ ?_;intro a61 w61 M61;repeat refine wp_seq ?_
    refine wp_cond_false M61.ev ?_;refine wp_exit ?_;dsimp only[Exit.then,U5];rw[if_pos rfl];repeat refine wp_seq ?_
    refine M61.U [.x (iZ q),.x (iZ ((q:Int)-1)),.x (iZ ((q:Int)-1))] [4,5,7,8] ⟨RG.st,RG.aG rfl .sub 3 3 34 (iZ q) (iZ 1) (iZ ((q:Int)-1)) rfl rfl RG.sx (λw=>kR) (sub1' q oM),RG.st,trivial⟩ ?_;intro a62 w62 M62;have f4_62:a62.tmps[4]? = some (pZ kr):=M62.at (s:=(.p 0 0));have f5_62:a62.tmps[5]? = some (.slice (some (aZ kt)) N N):=M62.at (s:=(.s 1 N N));have f7_62:a62.tmps[7]? = some (pZ kl):=M62.at (s:=(.p 2 0));have f8_62:a62.tmps[8]? = some (iZ ((q:Int)-1)):=M62.at (s:=(.v (iZ ((q:Int)-1))));show ∃n',_;exact⟨q,Vt q,oM,M62.sl,f4_62,f5_62,f7_62,f8_62,by rw[hnext];exact M62.st⟩
theorem MW(h:Fld P):([uZ 1,uZ 0,uZ 0,uZ 0]:List Value)=ws (1:Fin P):=by
 have h:=zK h;unfold nv at h;injection h with h
 exact congrArg Array.toList h
def rt(m:Fin P):Option (Fin P):=if m.val^(P/4+1)%P*(m.val^(P/4+1)%P)%P=m.val then some (Ua P (even P (m.val^(P/4+1)%P))) else none
omit [NeZero P] in
theorem Ev{r:Nat}(hP:0<P)(h:r<P):even P r<P:=by unfold even;split<;>omega
theorem Kd{m y:Fin P}{v:Value}(h:rt m=some y)(hF:Four v (even P (m.val^(P/4+1)%P))):v=fv y:=by
 unfold rt at h;split at h
 ·obtain rfl:=Option.some.inj h;have:(Ua P (even P (m.val^(P/4+1)%P))).val=even P (m.val^(P/4+1)%P):=SA (Ev (VQ P) (Nat.mod_lt _ (VQ P)));show v=nv _;rw[this];exact hF.nv
 ·cases h
theorem GZ{m y:Fin P}(h:rt m=some y):m.val^(P/4+1)%P*(m.val^(P/4+1)%P)%P=m.val:=by
 unfold rt at h;split at h
 ·assumption
 ·cases h
theorem Pu{m:Fin P}(h:rt m=none):¬m.val^(P/4+1)%P*(m.val^(P/4+1)%P)%P=m.val:=by
 unfold rt at h;split at h
 ·cases h
 ·assumption
theorem RootR.val{m:Fin P}{e:Value}(h:RootR P m.val (m.val^(P/4+1)%P) e):(∀y,rt m=some y->e=.tuple #[fv y,.bool true])/\(rt m=none->e=.tuple #[fv (0:Fin P),.bool false]):=by
 obtain⟨ya,yb,yc,yd,ok,rfl,h1,h2,h3⟩:=h;refine⟨λy hy=>?_,λhn=>?_⟩
 ·cases ok with
  | true=>rw[Kd hy (h1 rfl).2]
  | false=>exact absurd (GZ hy) (h2 rfl)
 ·cases ok with
  | true=>exact absurd (h1 rfl).1 (Pu hn)
  | false =>
   obtain⟨rfl,rfl,rfl,rfl⟩:=h3 rfl;rw[<-kK];rfl
theorem OX(h:Fld P){m y:Fin P}(e:rt m=some y):Gives 135 #[gv0,fv m] (.tuple #[fv y,.bool true]):=λw =>
 (BP 4294968273 0 0 P _ m.val h.gap h.p4 (h.four m) w).mono (by rintro e' w' ⟨v,rfl,hb,hF⟩;exact⟨_,rfl,hb,hF.val.1 y e⟩)
theorem OY(h:Fld P){m:Fin P}(e:rt m=none):Gives 135 #[gv0,fv m] (.tuple #[fv (0:Fin P),.bool false]):=λw =>
 (BP 4294968273 0 0 P _ m.val h.gap h.p4 (h.four m) w).mono (by rintro e' w' ⟨v,rfl,hb,hF⟩;exact⟨_,rfl,hb,hF.val.2 e⟩)
def gl0:List Value:=[uZ 4294968273,uZ 0,uZ 0,uZ 0]
theorem yO(C:Fld P)(x y:Fin P)(hr:rt (x*x*x+7)=some y):Gives 100 #[(fv x)] (.tuple #[pv x y,.bool true]):=by
 intro w;obtain⟨c1,hc1⟩:∃c,c=x*x:=⟨_,rfl⟩
 obtain⟨c2,hc2⟩:∃c,c=c1*x:=⟨_,rfl⟩
 obtain⟨c3,hc3⟩:∃c,c=c2+(7:Fin P):=⟨_,rfl⟩
 have hfin:((.tuple #[pv x y,.bool true]):Value)=(.tuple #[pv x y,.bool true]):=by
  subst_vars;rfl
 rw[<-hfin];go_enter Tryz.func100,Tryz.ntmps100;refine RG.M.enter [(0,.v (fv x))] 31 kR ?_;intro a0 M0;repeat refine wp_seq ?_
 refine M0.T [.m 0,.m 1,.x (.bool false)] [(0,ws x),(1,RG.z 8)] [] [ws x,RG.z 8] [1,2,3] ⟨RG.mk 0 41,RG.mk 1 114,RG.st,trivial⟩ ?_;intro j1 i1 a1 w1 M1;repeat refine wp_seq ?_
 refine M1.T [.c gv0,.m 2,.u 2] [(1,RG.z 4)] [(2,2,gl0)] [ws x,RG.z 8,gl0] [1,2,3,4] ⟨RG.cl bM,RG.mk 2 122,RG.pt i79,trivial⟩ ?_;intro j2 a2 w2 M2;repeat refine wp_seq ?_
 refine M2.D [.x gv0,.x gv0,.x gv0,.x (fv x),.x (fv x),.c (fv c1),.x (fv x),.c (fv c2),.x (fv (7:Fin P)),.c (fv c3),.m 3,.u 3] [(10,RG.z 4)] [(3,11,ws c3)] [ws x,RG.z 8,gl0,ws c3] [1,2,3,4,5] ⟨RG.ld u79 i79,RG.ld u79 i79,RG.ld u79 i79,RG.ld u85 i85,RG.ld u85 i85,RG.cl ((qO C x x).e hc1),RG.ld u85 i85,RG.cl ((qO C c1 x).e hc2),RG.se (uF C),RG.cl ((EW C c2 (7:Fin P)).e hc3),RG.mk 3 41,RG.pt i85,trivial⟩ ?_;intro j3 a3 w3 M3;repeat refine wp_seq ?_
 refine M3.T [.x gv0,.x (fv c3),.c (.tuple #[fv y,.bool true]),.x (.tuple #[fv y,.bool true]),.x (fv y),.x (.bool true),.m 4,.u 4,.x (.bool true)] [(6,RG.z 4)] [(4,7,ws y)] [ws x,RG.z 8,gl0,ws c3,ws y] [1,2,3,6,7] ⟨RG.ld u79 i79,RG.ld u85 i85,RG.cl (f:=135) (args:=#[gv0,fv c3]) (v:=(.tuple #[fv y,.bool true])) (OX C (by subst_vars;exact hr)),RG.st,RG.st,RG.st,RG.mk 4 41,RG.pt i85,RG.st,trivial⟩ ?_;intro j4 a4 w4 M4;repeat refine wp_seq ?_
 refine M4.U [.x (.bool true),.x (.bool false)] [1,2,3,6,26] ⟨RG.st,RG.st,trivial⟩ ?_;intro a5 w5 M5;repeat refine wp_seq ?_
 refine wp_cond_false M5.ev ?_;refine wp_skip ?_;repeat refine wp_seq ?_
 refine M5.T [.x (fv x),.x (fv y),.x (pv x y),.u 1,.x (.bool true)] [] [(1,3,ws x++(ws y))] [ws x,ws x++(ws y),gl0,ws c3,ws y] [2,3] ⟨RG.ld u85 i85,RG.ld u85 i85,RG.st,RG.pt i109,RG.st,trivial⟩ ?_;intro a6 w6 M6;refine wp_ret ?_;refine bodyPost_ret (v:=(.tuple #[pv x y,.bool true])) (RG.aV M6.st 2 3 114 rfl 1 _ rfl (M6.at (s:=(.p 1 0))) _ (M6.at (s:=(.v (.bool true)))) g9 i109) M6.sl.defers ?_;exact⟨_,rfl,M6.st.bel.below,rfl⟩
theorem yP(C:Fld P)(x:Fin P)(hr:rt (x*x*x+7)=none):Gives 100 #[(fv x)] (.tuple #[pv (0:Fin P) 0,.bool false]):=by
 intro w;obtain⟨c1,hc1⟩:∃c,c=x*x:=⟨_,rfl⟩
 obtain⟨c2,hc2⟩:∃c,c=c1*x:=⟨_,rfl⟩
 obtain⟨c3,hc3⟩:∃c,c=c2+(7:Fin P):=⟨_,rfl⟩
 have hfin:((.tuple #[pv (0:Fin P) (0:Fin P),.bool false]):Value)=(.tuple #[pv (0:Fin P) 0,.bool false]):=by
  subst_vars;rfl
 rw[<-hfin];go_enter Tryz.func100,Tryz.ntmps100;refine RG.M.enter [(0,.v (fv x))] 31 kR ?_;intro a0 M0;repeat refine wp_seq ?_
 refine M0.T [.m 0,.m 1,.x (.bool false)] [(0,ws x),(1,RG.z 8)] [] [ws x,RG.z 8] [1,2,3] ⟨RG.mk 0 41,RG.mk 1 114,RG.st,trivial⟩ ?_;intro j1 i1 a1 w1 M1;repeat refine wp_seq ?_
 refine M1.T [.c gv0,.m 2,.u 2] [(1,RG.z 4)] [(2,2,gl0)] [ws x,RG.z 8,gl0] [1,2,3,4] ⟨RG.cl bM,RG.mk 2 122,RG.pt i79,trivial⟩ ?_;intro j2 a2 w2 M2;repeat refine wp_seq ?_
 refine M2.D [.x gv0,.x gv0,.x gv0,.x (fv x),.x (fv x),.c (fv c1),.x (fv x),.c (fv c2),.x (fv (7:Fin P)),.c (fv c3),.m 3,.u 3] [(10,RG.z 4)] [(3,11,ws c3)] [ws x,RG.z 8,gl0,ws c3] [2,3,4,5] ⟨RG.ld u79 i79,RG.ld u79 i79,RG.ld u79 i79,RG.ld u85 i85,RG.ld u85 i85,RG.cl ((qO C x x).e hc1),RG.ld u85 i85,RG.cl ((qO C c1 x).e hc2),RG.se (uF C),RG.cl ((EW C c2 (7:Fin P)).e hc3),RG.mk 3 41,RG.pt i85,trivial⟩ ?_;intro j3 a3 w3 M3;repeat refine wp_seq ?_
 refine M3.T [.x gv0,.x (fv c3),.c (.tuple #[fv (0:Fin P),.bool false]),.x (.tuple #[fv (0:Fin P),.bool false]),.x (fv (0:Fin P)),.x (.bool false),.m 4,.u 4,.x (.bool false)] [(6,RG.z 4)] [(4,7,ws (0:Fin P))] [ws x,RG.z 8,gl0,ws c3,ws (0:Fin P)] [2,3,7] ⟨RG.ld u79 i79,RG.ld u85 i85,RG.cl (f:=135) (args:=#[gv0,fv c3]) (v:=(.tuple #[fv (0:Fin P),.bool false])) (OY C (by subst_vars;exact hr)),RG.st,RG.st,RG.st,RG.mk 4 41,RG.pt i85,RG.st,trivial⟩ ?_;intro j4 a4 w4 M4;repeat refine wp_seq ?_
 refine M4.U [.x (.bool false),.x (.bool true)] [2,3,26] ⟨RG.st,RG.st,trivial⟩ ?_;intro a5 w5 M5;repeat refine wp_seq ?_
 refine wp_cond_true M5.ev ?_;repeat refine wp_seq ?_
 refine M5.T [.x (pv (0:Fin P) (0:Fin P)),.u 1,.x (.bool false)] [] [(1,1,ws (0:Fin P)++(ws (0:Fin P)))] [ws x,ws (0:Fin P)++(ws (0:Fin P)),gl0,ws c3,ws (0:Fin P)] [2,3] ⟨RG.se (gQ (P:=P)),RG.pt i109,RG.st,trivial⟩ ?_;intro a6 w6 M6;refine wp_ret ?_;refine bodyPost_ret (v:=(.tuple #[pv (0:Fin P) (0:Fin P),.bool false])) (RG.aV M6.st 2 3 114 rfl 1 _ rfl (M6.at (s:=(.p 1 0))) _ (M6.at (s:=(.v (.bool false)))) g9 i109) M6.sl.defers ?_;exact⟨_,rfl,M6.st.bel.below,rfl⟩
theorem NK(C:Fld P)(x y:Fin P):Gives 101 #[(pv x y)] (pv x (0-y)):=by
 intro w;obtain⟨c1,hc1⟩:∃c,c=(0:Fin P)-y:=⟨_,rfl⟩
 have hfin:((pv x c1):Value)=(pv x (0-y)):=by
  subst_vars;rfl
 rw[<-hfin];go_enter Tryz.func101,Tryz.ntmps101;refine RG.M.enter [(0,.v (pv x y))] 11 kR ?_;intro a0 M0;repeat refine wp_seq ?_
 refine M0.T [.m 0,.m 1] [(0,ws x++(ws y)),(1,RG.z 8)] [] [ws x++(ws y),RG.z 8] [1,2] ⟨RG.mk 0 114,RG.mk 1 114,trivial⟩ ?_;intro j1 i1 a1 w1 M1;repeat refine wp_seq ?_
 refine M1.D [.s (.p 0 0),.x (fv x),.c gv0,.x (fv (0:Fin P)),.s (.p 0 4),.x (fv y),.c (fv c1),.x (pv x c1),.u 1] [] [(1,8,ws x++(ws c1))] [ws x++(ws y),ws x++(ws c1)] [2] ⟨RG.st,RG.ld u85 i85,RG.cl bM,RG.se (kK (P:=P)),RG.st,RG.ld u85 i85,RG.cl ((Jt C (0:Fin P) y).e hc1),RG.st,RG.pt i109,trivial⟩ ?_;intro a2 w2 M2;refine wp_ret ?_;refine bodyPost_ret (v:=(pv x c1)) (RG.aE M2.st 2 114 rfl 1 _ rfl (M2.at (s:=(.p 1 0))) g9 i109) M2.sl.defers ?_;exact⟨_,rfl,M2.st.bel.below,rfl⟩
end
section
open Go.RowKit Go.Sort Go.Deep
variable {P:Nat}[NeZero P]{N:Nat}
theorem iC{w W:World}{k0 k1 k6 a b c d g0 g1 g2:Nat}(h:Kept w k0 [⟨k6,0,a,b,c,d⟩,⟨k0,0,g0,g1,g2,0⟩,⟨k1,0,0,0,0,0⟩] W):W.cell? ⟨k6,0,none⟩=some (uZ a)/\W.cell? ⟨k6,1,none⟩=some (uZ b)/\W.cell? ⟨k6,2,none⟩=some (uZ c)/\W.cell? ⟨k6,3,none⟩=some (uZ d)/\W.cell? ⟨k0,0,none⟩=some (uZ g0)/\W.cell? ⟨k0,1,none⟩=some (uZ g1)/\W.cell? ⟨k0,2,none⟩=some (uZ g2)/\W.cell? ⟨k0,3,none⟩=some (uZ 0)/\Kept w k0 [⟨k6,0,a,b,c,d⟩,⟨k0,0,g0,g1,g2,0⟩,⟨k1,0,0,0,0,0⟩] W:=⟨h.head.c0,h.head.c1,h.head.c2,h.head.c3,h.tail.head.c0,h.tail.head.c1,h.tail.head.c2,h.tail.head.c3,h⟩
theorem mX{w W:World}{k0 k1 k6 a b c d g0 g1 g2:Nat}(h:W.cell? ⟨k6,0,none⟩=some (uZ a)/\W.cell? ⟨k6,1,none⟩=some (uZ b)/\W.cell? ⟨k6,2,none⟩=some (uZ c)/\W.cell? ⟨k6,3,none⟩=some (uZ d)/\W.cell? ⟨k0,0,none⟩=some (uZ g0)/\W.cell? ⟨k0,1,none⟩=some (uZ g1)/\W.cell? ⟨k0,2,none⟩=some (uZ g2)/\W.cell? ⟨k0,3,none⟩=some (uZ 0)/\Kept w k0 [⟨k6,0,a,b,c,d⟩,⟨k0,0,g0,g1,g2,0⟩,⟨k1,0,0,0,0,0⟩] W):Kept w k0 [⟨k6,0,a,b,c,d⟩,⟨k0,0,g0,g1,g2,0⟩,⟨k1,0,0,0,0,0⟩] W:=h.2.2.2.2.2.2.2.2
theorem AQ{w W:World}{k0 k1 k6 a b c d g0 g1 g2:Nat}{o:Obj}(h:W.cell? ⟨k6,0,none⟩=some (uZ a)/\W.cell? ⟨k6,1,none⟩=some (uZ b)/\W.cell? ⟨k6,2,none⟩=some (uZ c)/\W.cell? ⟨k6,3,none⟩=some (uZ d)/\W.cell? ⟨k0,0,none⟩=some (uZ g0)/\W.cell? ⟨k0,1,none⟩=some (uZ g1)/\W.cell? ⟨k0,2,none⟩=some (uZ g2)/\W.cell? ⟨k0,3,none⟩=some (uZ 0)/\Kept w k0 [⟨k6,0,a,b,c,d⟩,⟨k0,0,g0,g1,g2,0⟩,⟨k1,0,0,0,0,0⟩] W):(W.alloc o).cell? ⟨k6,0,none⟩=some (uZ a)/\(W.alloc o).cell? ⟨k6,1,none⟩=some (uZ b)/\(W.alloc o).cell? ⟨k6,2,none⟩=some (uZ c)/\(W.alloc o).cell? ⟨k6,3,none⟩=some (uZ d)/\(W.alloc o).cell? ⟨k0,0,none⟩=some (uZ g0)/\(W.alloc o).cell? ⟨k0,1,none⟩=some (uZ g1)/\(W.alloc o).cell? ⟨k0,2,none⟩=some (uZ g2)/\(W.alloc o).cell? ⟨k0,3,none⟩=some (uZ 0)/\Kept w k0 [⟨k6,0,a,b,c,d⟩,⟨k0,0,g0,g1,g2,0⟩,⟨k1,0,0,0,0,0⟩] (W.alloc o):=iC ((mX h).alloc o)
theorem zE{w W:World}{k0 k1 k6 a b c d g0 g1 g2:Nat}{o:Obj}(h:W.drew.cell? ⟨k6,0,none⟩=some (uZ a)/\W.drew.cell? ⟨k6,1,none⟩=some (uZ b)/\W.drew.cell? ⟨k6,2,none⟩=some (uZ c)/\W.drew.cell? ⟨k6,3,none⟩=some (uZ d)/\W.drew.cell? ⟨k0,0,none⟩=some (uZ g0)/\W.drew.cell? ⟨k0,1,none⟩=some (uZ g1)/\W.drew.cell? ⟨k0,2,none⟩=some (uZ g2)/\W.drew.cell? ⟨k0,3,none⟩=some (uZ 0)/\Kept w k0 [⟨k6,0,a,b,c,d⟩,⟨k0,0,g0,g1,g2,0⟩,⟨k1,0,0,0,0,0⟩] W.drew):(W.alloc o).drew.cell? ⟨k6,0,none⟩=some (uZ a)/\(W.alloc o).drew.cell? ⟨k6,1,none⟩=some (uZ b)/\(W.alloc o).drew.cell? ⟨k6,2,none⟩=some (uZ c)/\(W.alloc o).drew.cell? ⟨k6,3,none⟩=some (uZ d)/\(W.alloc o).drew.cell? ⟨k0,0,none⟩=some (uZ g0)/\(W.alloc o).drew.cell? ⟨k0,1,none⟩=some (uZ g1)/\(W.alloc o).drew.cell? ⟨k0,2,none⟩=some (uZ g2)/\(W.alloc o).drew.cell? ⟨k0,3,none⟩=some (uZ 0)/\Kept w k0 [⟨k6,0,a,b,c,d⟩,⟨k0,0,g0,g1,g2,0⟩,⟨k1,0,0,0,0,0⟩] (W.alloc o).drew:=iC (((mX h).undrew).alloc o).drew
theorem Js(pv:Value)(p:Option Addr)(n cap:Nat)(w:World)(g0 g1 g2:Nat)(hp:pv=.agg #[uZ g0,uZ g1,uZ g2,uZ 0])(hn:n≠32):
 Calls prog 60 #[pv,.slice p n cap] w (rZ w λe w'=>e=.tuple #[.agg #[uZ 0,uZ 0,uZ 0,uZ 0],.bool false]):=by
 subst hp;go_enter Tryz.func60,Tryz.ntmps60;go_wp2;refine bodyPost_ret (v:=?v) ?hr rfl ?hR
 case hr=>simp[results,Tryz.results60,go_sem];rfl
 exact⟨_,rfl,below2 _ _ _,rfl⟩
theorem wW(g0 g1 g2 P g o cap:Nat)(bs:Bs)(hG:Gap g0 g1 g2 P)(w:World)(hs:bs.size=32)(hc:32<=cap)(hg:g<w.heap.size)(hB:Holds encB w g o bs):
 Calls prog 60 #[.agg #[uZ g0,uZ g1,uZ g2,uZ 0],.slice (some ⟨g,o,none⟩) 32 cap] w
  (rZ w λe w'=>((beV bs.toList<P/\∃v,e=.tuple #[v,.bool true]/\Four v (beV bs.toList))\/(P<=beV bs.toList/\e=.tuple #[.agg #[uZ 0,uZ 0,uZ 0,uZ 0],.bool false]))):=by
 have HG:Hid (Gap g0 g1 g2 P):=hG;have HBS:Hid (Holds encB w g o bs):=hB;have HS:Hid (bs.size=32):=hs;clear hG hB hs;go_enter Tryz.func60,Tryz.ntmps60;go_wp2_with fail
 have PR:=(At4.made w 122 g0 g1 g2 0 rfl).alloc (.cells #[uZ 0,uZ 0,uZ 0,uZ 0] 41);have RE:=At4.made (w.alloc (.cells #[uZ g0,uZ g1,uZ g2,uZ 0] 122)) 41 0 0 0 0 (Sq _ _);have KP0:=((Kept.mk1 (below2 w (.cells #[uZ g0,uZ g1,uZ g2,uZ 0] 122) (.cells #[uZ 0,uZ 0,uZ 0,uZ 0] 41)) (below2 w (.cells #[uZ g0,uZ g1,uZ g2,uZ 0] 122) (.cells #[uZ 0,uZ 0,uZ 0,uZ 0] 41)).size).cons RE.blk).cons PR.blk;have HB0:=Holds.below HBS.out (below2 w (.cells #[uZ g0,uZ g1,uZ g2,uZ 0] 122) (.cells #[uZ 0,uZ 0,uZ 0,uZ 0] 41)) hg;clear PR RE;generalize TI _ _=W0 at KP0 HB0⊢;refine(jU (some ⟨g,o,none⟩) g o 32 cap bs _ (Se 32) hc HS.out (Or.inr ⟨rfl,HB0⟩)).mono ?_;rintro e w1 ⟨v,rfl,hb1,hF⟩;obtain⟨a,b,c,d,rfl,ha,hb,hc',hd,es⟩:=id hF;have HF:Hid (Four _ _):=hF;have K1:=KP0.call hb1;clear es hF hb1 KP0 HB0;go_wp2_with fail
 have KP:=(K1.alloc (.cells #[uZ a,uZ b,uZ c,uZ d] 41)).cons (At4.made w1 41 a b c d rfl).blk;have q60:w1.heap.size≠w.heap.size:=TC K1.head.lt;clear K1;generalize TI _ _=W1 at KP⊢;generalize w1.heap.size=k6 at KP q60⊢;generalize h1:w.heap.size+1=k1 at KP⊢;have Q1:Hid (w.heap.size<=k1):=by unfold Hid;omega
 generalize h0:w.heap.size=k0 at KP Q1 hg q60⊢;have H0:Hid (w.heap.size=k0):=h0;clear h0 h1
 go_cut [8] (λs8 wx=>∃k:Nat,s8=uZ k/\k<=1/\Hid (∃t,t<top/\t+top*k=beV bs.toList+val g0 g1 g2 0)/\Kept w k0 [⟨k6,0,a,b,c,d⟩,⟨k0,0,g0,g1,g2,0⟩,⟨k1,0,0,0,0,0⟩] wx)
 case first =>
  go_region_held3 (λw'=>w'.cell? ⟨k6,0,none⟩=some (uZ a)/\w'.cell? ⟨k6,1,none⟩=some (uZ b)/\w'.cell? ⟨k6,2,none⟩=some (uZ c)/\w'.cell? ⟨k6,3,none⟩=some (uZ d)/\w'.cell? ⟨k0,0,none⟩=some (uZ g0)/\w'.cell? ⟨k0,1,none⟩=some (uZ g1)/\w'.cell? ⟨k0,2,none⟩=some (uZ g2)/\w'.cell? ⟨k0,3,none⟩=some (uZ 0)/\Kept w k0 [⟨k6,0,a,b,c,d⟩,⟨k0,0,g0,g1,g2,0⟩,⟨k1,0,0,0,0,0⟩] w') (first|(with_reducible exact iC KP)|(with_reducible exact iC KP.drew)|(with_reducible exact zE (by assumption))|(with_reducible exact AQ (by assumption))|(with_reducible exact iC (KP.alloc _))|(with_reducible exact iC (KP.set4' M7 (λx hx=>TC (N7 x hx)) _ _ _ _))|(with_reducible exact iC (KP.alloc _).drew)|(with_reducible exact iC (KP.set4' M7 (λx hx=>TC (N7 x hx)) _ _ _ _).drew)|fail) (first|(go_at_call 104;refine(iW _ _ HF.out _).mono ?_;rintro e w2 ⟨v,rfl,hb1,rfl⟩;(try(with_reducible have T1:=T.call hb1;clear T;have T:=T1;clear T1));(try(first|(with_reducible have T:=(At4.made _ 120 0 0 0 0 rfl).call hb1)|(with_reducible have T:=(At4.made _ 120 0 0 0 0 rfl).drew.call hb1));have N7:=KP.lts;have M7:=KP.le);have KP1:=Kept.call (mX (by assumption)) hb1;clear KP;have KP:=KP1;clear KP1 hb1)|(go_at_call 103;refine(pJ _ _ _ _ HF.out (Four.mk HG.h0 HG.h1 HG.h2 dC rfl) _).mono ?_;rintro e w2 ⟨v,rfl,hb1,v2,t,k,rfl,hF2,hk,he⟩;obtain⟨a',b',c',d',rfl,ha',hb',hc',hd',es⟩:=id hF2;have HT:Hid (t<top/\t+top*k=beV bs.toList+val g0 g1 g2 0):=⟨hF2.lt,he⟩;clear es he hF2;(try(with_reducible have T1:=T.call hb1;clear T;have T:=T1;clear T1));(try(first|(with_reducible have T:=(At4.made _ 120 0 0 0 0 rfl).call hb1)|(with_reducible have T:=(At4.made _ 120 0 0 0 0 rfl).drew.call hb1));have N7:=KP.lts;have M7:=KP.le);have KP1:=Kept.call (mX (by assumption)) hb1;clear KP;have KP:=KP1;clear KP1 hb1;(try(obtain⟨tc0,tc1,tc2,tc3,tf⟩:=id T;have zt:=T.lt))))
  all_goals (try go_wp2)
  all_goals (have HX:Hid (∃t,t<top/\t+top*k=beV bs.toList+val g0 g1 g2 0):=⟨t,HT.out⟩)
  all_goals (go_meet;first|(with_reducible exact⟨k,rfl,hk,HX,KP.alloc _⟩)|(with_reducible exact⟨k,rfl,hk,HX,(KP.alloc _).drew⟩)|(with_reducible exact⟨k,rfl,hk,HX,KP.set4' M7 (λx hx=>TC (N7 x hx)) _ _ _ _⟩)|(with_reducible exact⟨k,rfl,hk,HX,(KP.set4' M7 (λx hx=>TC (N7 x hx)) _ _ _ _).drew⟩)|fail)
 case rest =>
  clear KP;obtain⟨k,rfl,hk,HE,KP⟩:=hcut;have hk':k=0\/k=1:=oM;rcases hk' with rfl|rfl
  ·obtain⟨xc0,xc1,xc2,xc3,xf⟩:=KP.head.at4;obtain⟨rc0,rc1,rc2,rc3,rf⟩:=KP.tail.tail.head.at4;have z1:=KP.tail.tail.head.lt;go_wp2;have RF:=KP.tail.tail.head.at4.self4 a b c d;unfold set4 at RF;refine bodyPost_ret (v:=?v0) ?hr0 rfl ?hR0
   case hr0=>simp[results,Tryz.results60,go_sem,RF.c0,RF.c1,RF.c2,RF.c3];rfl
   refine⟨_,rfl,?_,SY ⟨?_,_,rfl,HF.out⟩⟩
   ·rw[H0.out];exact aF KP.bl Q1.out _ _ _ _
   ·obtain⟨t,h1,h2⟩:=HE.out;have:=HG.hP;omega
  ·obtain⟨rc0,rc1,rc2,rc3,rf⟩:=KP.tail.tail.head.at4;have z1:=KP.tail.tail.head.lt;go_wp2;have RF:At4 (set4 wc k1 (uZ 0) (uZ 0) (uZ 0) (uZ 0)) k1 0 0 0 0:=KP.tail.tail.head.at4.self4 0 0 0 0;unfold set4 at RF;refine bodyPost_ret (v:=?v1) ?hr1 rfl ?hR1
   case hr1=>simp[results,Tryz.results60,go_sem,RF.c0,RF.c1,RF.c2,RF.c3];rfl
   refine⟨_,rfl,?_,Or.inr ⟨?_,rfl⟩⟩
   ·rw[H0.out];exact aF KP.bl Q1.out _ _ _ _
   ·obtain⟨t,h1,h2⟩:=HE.out;have:=HG.hP;omega
def Arg(w:World)(v:Value)(bs:Bs):Prop:=∃(p:Option Addr) (n cap:Nat),v=.slice p n cap/\bs.size=n/\(n=32->∃g o,p=some ⟨g,o,none⟩/\32<=cap/\g<w.heap.size/\Holds encB w g o bs)
theorem Arg.below{w w1:World}{v:Value}{bs:Bs}(h:Arg w v bs)(hb:Below w.heap.size w w1):Arg w1 v bs:=by
 obtain⟨p,n,cap,rfl,hs,h1⟩:=h;refine⟨p,n,cap,rfl,hs,λh2=>?_⟩;obtain⟨g,o,h3,h4,h6,h7⟩:=h1 h2;exact⟨g,o,h3,h4,Si h6 hb.size,Holds.below h7 hb h6⟩
def MQ(P:Nat)(bs:Bs):Prop:=bs.size=32/\beV bs.toList<P
def Args(w:World)(q:Option Addr)(n:Nat)(L:Nat->Bs):Prop:=0<n->∃gg,q=some (aZ gg)/\gg<w.heap.size/\∀j,j<n->∃v,w.cell? ⟨gg,j,none⟩=some v/\Arg w v (L j)
end
section
open Go.RowKit Go.Sort
theorem u131:(prog.underlying 34).map (·.isRow)=some true:=kR
theorem i131:(prog.info? 34).map (·.size)=some 33:=kR
theorem u5:(prog.underlying 5).map (·.isRow)=some false:=kR
theorem Na:prog.underlying 34=some (.array 33 5):=kR
theorem QQ:prog.underlying 5=some (.int .u8):=kR
theorem cells5:prog.cellsOf 5=1:=kR
theorem Pr(g o cap:Nat)(hc:33<=cap)(w:World):(Instr.sliceAt 23 (.slice (some ⟨g,o,none⟩) 33 cap) (some (iZ 1)) none none).run prog w=.ok (.slice (some ⟨g,o+1,none⟩) 32 (cap-1)) w:=by
 go_simp;omega
theorem MK(g o cap:Nat)(w:World):(Instr.arrayAt 34 (.slice (some ⟨g,o,none⟩) 33 cap)).run prog w=.ok (.pointer (some ⟨g,o,none⟩)) w:=kR
theorem Ds(g o n cap:Nat)(hn:0<n)(w:World):(To 23 (.slice (some ⟨g,o,none⟩) n cap) (iZ 0)).run prog w=.ok (.pointer (some ⟨g,o,none⟩)) w:=by
 go_simp
theorem Mn(xs:Array Value)(i:Nat)(v:Value)(h:xs[i]? = some v)(w:World):(part 5 xs i).run prog w=.ok v w:=by
 go_simp
theorem eqI(xs ys:Array Value)(a b:Nat->Int)(D:Nat)(w:World):∀(is:List Nat),(∀i∈is,xs[i]? = some (.int .u8 (a i)))->(∀i∈is,ys[i]? = some (.int .u8 (b i))) ->
 (Y5 (D+1) 5 1 xs ys is).run prog w=.ok (decide (∀i∈is,a i=b i)) w
 | [],_,_=>by
  rw[Y5];simp
 | i :: is,hx,hy=>by
  have ih:=eqI xs ys a b D w is (λj hj=>hx j (S8 _ hj)) (λj hj=>hy j (S8 _ hj));have p1:=Mn xs (i*1) _ (by rw[UW];exact hx i Ti) w;have p2:=Mn ys (i*1) _ (by rw[UW];exact hy i Ti) w;have p3:=run_equalIn_int (P:=prog) w D 5 .u8 .u8 (a i) (b i) QQ;rw[Y5];simp only[Sem.run_bind,p1,p2,p3,Result.andThen_ok];by_cases h:a i=b i
  ·simp only[h,beq_self_eq_true,Bool.not_true,Bool.false_eq_true,if_false,ih,Yl,true_and]
  ·have h2:(a i == b i)=false:=by simpa using h
   simp only[h2,Bool.not_false,if_true,Sem.run_pure,Yl,h,false_and,decide_false]
def aA(bs:Bs):List Value:=bs.toList.map encB
def z33:List Value:=List.replicate 33 (.int .u8 0)
theorem qK(bs:Bs)(i:Nat)(h:i<bs.size):(aA bs)[i]? = some (.int .u8 (ub bs[i]!)):=by
 unfold aA;rw[Un,Tn,SS h,getElem!_pos bs i h];rfl
theorem eqz(bs:Bs)(h:bs.size=33)(w:World):(binOp .eql 34 (.agg (aA bs).toArray) (.agg z33.toArray)).run prog w=.ok (.bool (decide (∀i∈TD 33,ub bs[i]! = 0))) w:=by
 have hi:(prog.info? 5).isSome=true:=kR;obtain⟨inf,hinf⟩:=SU.1 hi;rw[run_eql_struct,run_equalIn_array w 9999 _ _ Na hinf,cells5,
  eqI _ _ (λi=>ub bs[i]!) (λ_=>0) 9998 w (TD 33) (λi hi=>by
   rw[VJ];exact qK bs i (by rw[h];exact TM.1 hi)) (λi hi=>by
   rw[VJ];unfold z33;rw[List.getElem?_replicate,if_pos (TM.1 hi)])]
 rfl
@[reducible] def mS (bs:Bs):Prop:=∀i∈TD 33,ub bs[i]! = 0
theorem Qf{bs:Bs}(h:bs.size=33)(hz:mS bs)(w:World):(binOp .eql 34 (.agg (aA bs).toArray) (.agg z33.toArray)).run prog w=.ok (.bool true) w:=by rw[eqz bs h,decide_eq_true (show ∀i∈TD 33,ub bs[i]! = 0 from hz)]
theorem Qg{bs:Bs}(h:bs.size=33)(hz:¬mS bs)(w:World):(binOp .eql 34 (.agg (aA bs).toArray) (.agg z33.toArray)).run prog w=.ok (.bool false) w:=by rw[eqz bs h,decide_eq_false (show ¬ ∀i∈TD 33,ub bs[i]! = 0 from hz)]
theorem aH{bs:Bs}(h:bs.size=33):(aA bs).length=33:=by unfold aA;rw[SO,Sx,h]
theorem Dp{bs:Bs}{w:World}{g o:Nat}(hB:Holds encB w g o bs):w.rangeAt g o (aA bs):=λj v hv=>by
 have hj:j<bs.size:=by
  have:=(SI.1 hv).1;unfold aA at this;rwa[SO,Sx]at this
 rw[qK bs j hj]at hv;rw[(hB j hj).1];exact hv
def f8(bs:Bs):Bs:=bs.extract 1 33
theorem gA{bs:Bs}(h:bs.size=33):(f8 bs).size=32:=by unfold f8;rw[Uo,h];rfl
theorem tl33_holds{bs:Bs}{w:World}{g o:Nat}(h:bs.size=33)(hB:Holds encB w g o bs):Holds encB w g (o+1) (f8 bs):=
 Holds.part hB (by rw[gA h,h];decide) (λj hj=>by
  rw[gA h]at hj;unfold f8;rw[getElem!_pos _ j (by rw[Uo,h];omega),getElem!_pos _ (1+j) (by rw[h];omega),Array.getElem_extract])
variable {P:Nat}[NeZero P]
theorem Jq(C:Fld P){g o cap:Nat}{bs:Bs}(hs:bs.size=32)(hc:32<=cap){x:Fin P}(hx:beV bs.toList=x.val){w:World}(hg:g<w.heap.size)(hB:Holds encB w g o bs):
 Calls prog 60 #[gv0,.slice (some ⟨g,o,none⟩) 32 cap] w (rZ w λe w'=>e=.tuple #[fv x,.bool true]):=
 (wW 4294968273 0 0 P g o cap bs C.gap w hs hc hg hB).mono (by
  rintro e w' ⟨v,rfl,hb,⟨hl,v',rfl,h8⟩|⟨hl,rfl⟩⟩
  ·refine⟨_,rfl,hb,?_⟩;rw[hx]at h8;rw[h8.nv]
  ·have:=x.isLt;omega)
theorem Jr(C:Fld P){g o cap:Nat}{bs:Bs}(hs:bs.size=32)(hc:32<=cap)(hx:¬beV bs.toList<P){w:World}(hg:g<w.heap.size)(hB:Holds encB w g o bs):
 Calls prog 60 #[gv0,.slice (some ⟨g,o,none⟩) 32 cap] w (rZ w λe w'=>e=.tuple #[fv (0:Fin P),.bool false]):=
 (wW 4294968273 0 0 P g o cap bs C.gap w hs hc hg hB).mono (by
  rintro e w' ⟨v,rfl,hb,⟨hl,v',rfl,h8⟩|⟨hl,rfl⟩⟩
  ·exact absurd hl hx
  ·refine⟨_,rfl,hb,?_⟩;rw[<-kK])
def rdx(P:Nat)[NeZero P](bs:Bs):Fin P:=Ua P (beV (f8 bs).toList)
def rd(P:Nat)[NeZero P](bs:Bs):Option (Fin P × Fin P):=
 if bs.size=33 then
  if mS bs then some (0,0) else
  if ub bs[0]! = 2\/ub bs[0]! = 3 then
   if beV (f8 bs).toList<P then
    (rt (rdx P bs*rdx P bs*rdx P bs+7)).map (λy=>(rdx P bs,if ub bs[0]! = 3 then 0-y else y))
   else none
  else none
 else none
def rdV:Option (Fin P × Fin P)->Value
 | none=>.tuple #[pv (0:Fin P) 0,.bool false]
 | some p=>.tuple #[pv p.1 p.2,.bool true]
end
section
open Go.RowKit Go.Sort
variable {P:Nat}[NeZero P]{N:Nat}
theorem Nx(C:Fld P)(q:Option Addr)(n cap:Nat)(x:Fin P)(w:World)(hn:¬n=33):Calls prog 58 #[(.slice q n cap)] w (rZ w λe w'=>e=(.tuple #[pv (0:Fin P) 0,.bool false])):=by
 have hne:∀w,(binOp .neq 3 (iZ n) (iZ 33)).run prog w=.ok (.bool true) w:=λw=>by
  have h:¬(n:Int)=33:=oM;go_simp
 go_enter Tryz.func58,Tryz.ntmps58;refine RG.Gq (v0:=(.slice q n cap)) (n:=54) kR kR kR ?_;intro a0 sl0 f0;have hS0:=RG.St.begin w;have M0:RG.M w w.heap.size [] 54 [] [] [(0,.v (.slice q n cap))] a0 _:=⟨hS0,sl0,⟨f0,trivial⟩⟩
 repeat refine wp_seq ?_
 refine M0.T [.m 0,.x (.bool false)] [(0,RG.z 8)] [] [RG.z 8] [0,2,3] ⟨RG.mk 0 114,RG.st,trivial⟩ ?_;intro j1 a1 w1 M1;repeat refine wp_seq ?_
 refine M1.U [.x (.slice q n cap),.x (iZ n),.x (.bool true)] [2,3,9] ⟨RG.st,RG.fY rfl 7 (.v (.slice q n cap)) (iZ n) rfl RG.sx (λa w=>kR) (λμ w=>kR),RG.aG rfl .neq 3 3 8 (iZ n) (iZ 33) (.bool true) rfl rfl RG.sx (λw=>kR) hne,trivial⟩ ?_;intro a2 w2 M2;repeat refine wp_seq ?_
 refine wp_cond_true M2.ev ?_;repeat refine wp_seq ?_
 refine M2.T [.x (pv (0:Fin P) (0:Fin P)),.u 0,.x (.bool false)] [] [(0,1,ws (0:Fin P)++(ws (0:Fin P)))] [ws (0:Fin P)++(ws (0:Fin P))] [2,3] ⟨RG.se (gQ (P:=P)),RG.pt i109,RG.st,trivial⟩ ?_;intro a3 w3 M3;refine wp_ret ?_;refine bodyPost_ret (v:=(.tuple #[pv (0:Fin P) (0:Fin P),.bool false])) (RG.aV M3.st 2 3 114 rfl 0 _ rfl (M3.at (s:=(.p 0 0))) _ (M3.at (s:=(.v (.bool false)))) g9 i109) M3.sl.defers ?_;exact⟨_,rfl,M3.st.bel.below,rfl⟩
abbrev v33(g o cap:Nat):Value:=.slice (some ⟨g,o,none⟩) 33 cap
theorem Q9(C:Fld P)(g o cap:Nat)(bs:Bs)(w:World)(hs:bs.size=33)(hc:33<=cap)(hg:g<w.heap.size)(hB:Holds encB w g o bs):Calls prog 58 #[v33 g o cap] w (rZ w λe w'=>e=rdV (rd P bs)):=by
 have hrg:=Dp hB;have hb0:w.cell? ⟨g,o,none⟩=some (.int .u8 (ub bs[0]!)):=by
  have:=(hB 0 (by rw[hs];decide)).1;rw[Ur]at this;exact this
 go_enter Tryz.func58,Tryz.ntmps58;refine RG.Gq (v0:=(v33 g o cap)) (n:=54) kR kR kR ?_;intro a0 sl0 f0;have hS0:=RG.St.begin w;have M0:RG.M w w.heap.size [] 54 [] [] [(0,.v (v33 g o cap))] a0 _:=⟨hS0,sl0,⟨f0,trivial⟩⟩
 repeat refine wp_seq ?_
 refine M0.T [.m 0,.x (.bool false)] [(0,RG.z 8)] [] [RG.z 8] [0,2,3] ⟨RG.mk 0 114,RG.st,trivial⟩ ?_;intro j1 a1 w1 M1;repeat refine wp_seq ?_
 refine M1.U [.x (v33 g o cap),.x (iZ 33),.x (.bool false)] [0,2,3,9] ⟨RG.st,RG.fY rfl 7 (.v (v33 g o cap)) (iZ 33) rfl RG.sx (λa w=>kR) (λμ w=>kR),RG.st,trivial⟩ ?_;intro a2 w2 M2;repeat refine wp_seq ?_
 refine wp_cond_false M2.ev ?_;refine wp_skip ?_;repeat refine wp_seq ?_
 unfold rd;rw[if_pos hs];by_cases hz:mS bs
 ·rw[if_pos hz];refine M2.U [.x (v33 g o cap),.x (.pointer (some ⟨g,o,none⟩)),.x (.agg (aA bs).toArray),.x (.agg z33.toArray),.x (.bool true)] [2,3,15] ⟨RG.st,RG.BD rfl 34 11 (v33 g o cap) (.pointer (some ⟨g,o,none⟩)) rfl rfl RG.sx (MK g o cap),RG.eD rfl g o hg SL 34 12 rfl (aA bs) rfl RG.sx hrg u131 (by rw[aH hs];exact i131),RG.st,RG.aK rfl .eql 34 34 13 14 (.agg (aA bs).toArray) (.agg z33.toArray) (.bool true) rfl rfl RG.sx RG.sx (λw=>kR) (Qf hs hz),trivial⟩ ?_;intro a3 w3 M3;repeat refine wp_seq ?_
  refine wp_cond_true M3.ev ?_;repeat refine wp_seq ?_
  refine M3.T [.x (pv (0:Fin P) (0:Fin P)),.u 0,.x (.bool true)] [] [(0,1,ws (0:Fin P)++(ws (0:Fin P)))] [ws (0:Fin P)++(ws (0:Fin P))] [2,3] ⟨RG.se (gQ (P:=P)),RG.pt i109,RG.st,trivial⟩ ?_;intro a4 w4 M4;refine wp_ret ?_;refine bodyPost_ret (v:=(.tuple #[pv (0:Fin P) (0:Fin P),.bool true])) (RG.aV M4.st 2 3 114 rfl 0 _ rfl (M4.at (s:=(.p 0 0))) _ (M4.at (s:=(.v (.bool true)))) g9 i109) M4.sl.defers ?_;exact⟨_,rfl,M4.st.bel.below,rfl⟩
 rw[if_neg hz];refine M2.U [.x (v33 g o cap),.x (.pointer (some ⟨g,o,none⟩)),.x (.agg (aA bs).toArray),.x (.agg z33.toArray),.x (.bool false)] [0,2,3,15] ⟨RG.st,RG.BD rfl 34 11 (v33 g o cap) (.pointer (some ⟨g,o,none⟩)) rfl rfl RG.sx (MK g o cap),RG.eD rfl g o hg SL 34 12 rfl (aA bs) rfl RG.sx hrg u131 (by rw[aH hs];exact i131),RG.st,RG.aK rfl .eql 34 34 13 14 (.agg (aA bs).toArray) (.agg z33.toArray) (.bool false) rfl rfl RG.sx RG.sx (λw=>kR) (Qg hs hz),trivial⟩ ?_;intro a3 w3 M3;repeat refine wp_seq ?_
 refine wp_cond_false M3.ev ?_;refine wp_skip ?_;repeat refine wp_seq ?_
 by_cases hm:ub bs[0]! = 2\/ub bs[0]! = 3
 rotate_left
 ·rw[if_neg hm];generalize ub bs[0]! = m at hb0 hm;have h2:¬m=2:=λh=>hm (.inl h)
  have h3:¬m=3:=λh=>hm (.inr h)
  have hm2:∀w,(binOp .neq 5 (.int .u8 m) (.int .u8 2)).run prog w=.ok (.bool true) w:=λw=>by
   go_simp
  have hm3:∀w,(binOp .neq 5 (.int .u8 m) (.int .u8 3)).run prog w=.ok (.bool true) w:=λw=>by
   go_simp
  refine M3.U [.x (v33 g o cap),.x (.pointer (some ⟨g,o,none⟩)),.x (.int .u8 m),.x (.bool true),.x (.bool true),.x (v33 g o cap),.x (.pointer (some ⟨g,o,none⟩)),.x (.int .u8 m),.x (.bool true),.x (.bool true)] [2,3,26] ⟨RG.st,RG.eK rfl 23 17 (iZ 0) rfl (.v (v33 g o cap)) RG.sx (λμ w=>Ds g o 33 cap dC w),RG.bK rfl g o hg SL 5 18 rfl (.int .u8 m) rfl RG.sx hb0 u5,RG.aG rfl .neq 5 5 19 (.int .u8 m) (.int .u8 2) (.bool true) rfl rfl RG.sx (λw=>kR) hm2,RG.st,RG.st,RG.eK rfl 23 22 (iZ 0) rfl (.v (v33 g o cap)) RG.sx (λμ w=>Ds g o 33 cap dC w),RG.bK rfl g o hg SL 5 23 rfl (.int .u8 m) rfl RG.sx hb0 u5,RG.aG rfl .neq 5 5 24 (.int .u8 m) (.int .u8 3) (.bool true) rfl rfl RG.sx (λw=>kR) hm3,RG.st,trivial⟩ ?_;intro a4 w4 M4;repeat refine wp_seq ?_
  refine wp_cond_true M4.ev ?_;repeat refine wp_seq ?_
  refine M4.T [.x (pv (0:Fin P) (0:Fin P)),.u 0,.x (.bool false)] [] [(0,1,ws (0:Fin P)++(ws (0:Fin P)))] [ws (0:Fin P)++(ws (0:Fin P))] [2,3] ⟨RG.se (gQ (P:=P)),RG.pt i109,RG.st,trivial⟩ ?_;intro a5 w5 M5;refine wp_ret ?_;refine bodyPost_ret (v:=(.tuple #[pv (0:Fin P) (0:Fin P),.bool false])) (RG.aV M5.st 2 3 114 rfl 0 _ rfl (M5.at (s:=(.p 0 0))) _ (M5.at (s:=(.v (.bool false)))) g9 i109) M5.sl.defers ?_;exact⟨_,rfl,M5.st.bel.below,rfl⟩
 rw[if_pos hm];rcases hm with hm|hm
 case' inl=>refine M3.u [.x 17 [] (v33 g o cap),.x 18 [(17,0)] (.pointer (some ⟨g,o,none⟩)),.x 19 [(18,1)] (.int .u8 2),.x 20 [(19,2)] (.bool false),.x 21 [(20,3)] (.bool false),⟨some 22,[],.v undef,.pass⟩,⟨some 23,[],.v undef,.pass⟩,⟨some 24,[],.v undef,.pass⟩,⟨some 25,[],.v undef,.pass⟩,.x 26 [(21,4),(25,8)] (.bool false)] [(0,.v (v33 g o cap)),(2,.p 0 0),(3,.v (.bool false)),(26,.v (.bool false))] ⟨RG.st,RG.eK rfl 23 17 (iZ 0) rfl (.v (v33 g o cap)) RG.sx (λμ w=>Ds g o 33 cap dC w),RG.bK rfl g o hg SL 5 18 rfl (.int .u8 2) rfl RG.sx (hb0.trans (by rw[hm])) u5,RG.st,RG.st,RG.aM rfl rfl,RG.aM rfl rfl,RG.aM rfl rfl,RG.aM rfl rfl,RG.st,trivial⟩ ?_
 case' inr=>refine M3.U [.x (v33 g o cap),.x (.pointer (some ⟨g,o,none⟩)),.x (.int .u8 3),.x (.bool true),.x (.bool true),.x (v33 g o cap),.x (.pointer (some ⟨g,o,none⟩)),.x (.int .u8 3),.x (.bool false),.x (.bool false)] [0,2,3,26] ⟨RG.st,RG.eK rfl 23 17 (iZ 0) rfl (.v (v33 g o cap)) RG.sx (λμ w=>Ds g o 33 cap dC w),RG.bK rfl g o hg SL 5 18 rfl (.int .u8 3) rfl RG.sx (hb0.trans (by rw[hm])) u5,RG.st,RG.st,RG.st,RG.eK rfl 23 22 (iZ 0) rfl (.v (v33 g o cap)) RG.sx (λμ w=>Ds g o 33 cap dC w),RG.bK rfl g o hg SL 5 23 rfl (.int .u8 3) rfl RG.sx (hb0.trans (by rw[hm])) u5,RG.st,RG.st,trivial⟩ ?_
 all_goals
  intro a4 w4 M4;repeat refine wp_seq ?_
  refine wp_cond_false M4.ev ?_;refine wp_skip ?_;repeat refine wp_seq ?_
  by_cases hx:beV (f8 bs).toList<P
  rotate_left
  ·rw[if_neg hx];have hrd:∀w',RG.BelX w.heap.size [] w w'->Calls prog 60 #[gv0,.slice (some ⟨g,o+1,none⟩) 32 (cap-1)] w' (Ret λe w''=>Below w'.heap.size w' w''/\e=.tuple #[fv (0:Fin P),.bool false]):=λw' hb=>Jr C (gA hs) oM hx (Si hg hb.size) (Holds.below (tl33_holds hs hB) hb.below hg)
   refine M4.D [.c gv0,.x (v33 g o cap),.x (.slice (some ⟨g,o+1,none⟩) 32 (cap-1)),.c (.tuple #[fv (0:Fin P),.bool false]),.x (.tuple #[fv (0:Fin P),.bool false]),.x (fv (0:Fin P)),.x (.bool false),.m 1,.u 1,.x (.bool false)] [(7,RG.z 4)] [(1,8,ws (0:Fin P))] [RG.z 8,ws (0:Fin P)] [2,3,5] ⟨RG.cl bM,RG.st,RG.jP rfl 23 30 (iZ 1) (v33 g o cap) (.slice (some ⟨g,o+1,none⟩) 32 (cap-1)) rfl rfl RG.sx (Pr g o cap hc),RG.jQ rfl 60 29 31 gv0 (.slice (some ⟨g,o+1,none⟩) 32 (cap-1)) (.tuple #[fv (0:Fin P),.bool false]) rfl (λa w=>kR) RG.sx RG.sx hrd,RG.st,RG.st,RG.st,RG.mk 1 41,RG.pt i85,RG.st,trivial⟩ ?_;intro j5 a5 w5 M5;repeat refine wp_seq ?_
   refine M5.U [.x (.bool false),.x (.bool true)] [2,3,36] ⟨RG.st,RG.st,trivial⟩ ?_;intro a6 w6 M6;repeat refine wp_seq ?_
   refine wp_cond_true M6.ev ?_;repeat refine wp_seq ?_
   refine M6.T [.x (pv (0:Fin P) (0:Fin P)),.u 0,.x (.bool false)] [] [(0,1,ws (0:Fin P)++(ws (0:Fin P)))] [ws (0:Fin P)++(ws (0:Fin P)),ws (0:Fin P)] [2,3] ⟨RG.se (gQ (P:=P)),RG.pt i109,RG.st,trivial⟩ ?_;intro a7 w7 M7;refine wp_ret ?_;refine bodyPost_ret (v:=(.tuple #[pv (0:Fin P) (0:Fin P),.bool false])) (RG.aV M7.st 2 3 114 rfl 0 _ rfl (M7.at (s:=(.p 0 0))) _ (M7.at (s:=(.v (.bool false)))) g9 i109) M7.sl.defers ?_;exact⟨_,rfl,M7.st.bel.below,rfl⟩
  rw[if_pos hx];have hx':beV (f8 bs).toList=(rdx P bs).val:=(SA hx).symm;generalize rdx P bs=x at hx';have hrd:∀w',RG.BelX w.heap.size [] w w'->Calls prog 60 #[gv0,.slice (some ⟨g,o+1,none⟩) 32 (cap-1)] w' (Ret λe w''=>Below w'.heap.size w' w''/\e=.tuple #[fv x,.bool true]):=λw' hb=>Jq C (gA hs) oM hx' (Si hg hb.size) (Holds.below (tl33_holds hs hB) hb.below hg)
  refine M4.D [.c gv0,.x (v33 g o cap),.x (.slice (some ⟨g,o+1,none⟩) 32 (cap-1)),.c (.tuple #[fv x,.bool true]),.x (.tuple #[fv x,.bool true]),.x (fv x),.x (.bool true),.m 1,.u 1,.x (.bool true)] [(7,RG.z 4)] [(1,8,ws x)] [RG.z 8,ws x] [0,2,3,4,5] ⟨RG.cl bM,RG.st,RG.jP rfl 23 30 (iZ 1) (v33 g o cap) (.slice (some ⟨g,o+1,none⟩) 32 (cap-1)) rfl rfl RG.sx (Pr g o cap hc),RG.jQ rfl 60 29 31 gv0 (.slice (some ⟨g,o+1,none⟩) 32 (cap-1)) (.tuple #[fv x,.bool true]) rfl (λa w=>kR) RG.sx RG.sx hrd,RG.st,RG.st,RG.st,RG.mk 1 41,RG.pt i85,RG.st,trivial⟩ ?_;intro j5 a5 w5 M5;repeat refine wp_seq ?_
  refine M5.U [.x (.bool true),.x (.bool false)] [0,2,3,4,5,36] ⟨RG.st,RG.st,trivial⟩ ?_;intro a6 w6 M6;repeat refine wp_seq ?_
  refine wp_cond_false M6.ev ?_;refine wp_skip ?_;repeat refine wp_seq ?_
  cases hr:rt (x*x*x+7) with
  | none =>
   refine M6.T [.x (fv x),.c (.tuple #[pv (0:Fin P) (0:Fin P),.bool false]),.x (.tuple #[pv (0:Fin P) (0:Fin P),.bool false]),.x (pv (0:Fin P) (0:Fin P)),.x (.bool false),.m 2,.u 2,.x (.bool false)] [(5,RG.z 8)] [(2,6,ws (0:Fin P)++(ws (0:Fin P)))] [RG.z 8,ws x,ws (0:Fin P)++(ws (0:Fin P))] [2,3,5,6] ⟨RG.ld u85 i85,RG.wL rfl 100 39 (fv x) (.tuple #[pv (0:Fin P) (0:Fin P),.bool false]) rfl (λa w=>kR) RG.sx (yP C x hr),RG.st,RG.st,RG.st,RG.mk 2 114,RG.pt i109,RG.st,trivial⟩ ?_;intro j7 a7 w7 M7;repeat refine wp_seq ?_
   refine M7.u [.x 43 [] (.bool false),.x 44 [(43,0)] (.bool false),⟨some 45,[],.v undef,.pass⟩,⟨some 46,[],.v undef,.pass⟩,⟨some 47,[],.v undef,.pass⟩,⟨some 48,[],.v undef,.pass⟩,.x 49 [(44,1),(48,5)] (.bool false)] [(2,.p 0 0),(3,.v (.bool false)),(5,.v (.bool false)),(6,.p 2 0),(49,.v (.bool false))] ⟨RG.st,RG.st,RG.aM rfl rfl,RG.aM rfl rfl,RG.aM rfl rfl,RG.aM rfl rfl,RG.st,trivial⟩ ?_;intro a8 w8 M8;repeat refine wp_seq ?_
   refine wp_cond_false M8.ev ?_;refine wp_skip ?_;repeat refine wp_seq ?_
   refine M8.T [.x (pv (0:Fin P) (0:Fin P)),.x (.bool false),.u 0,.x (.bool false)] [] [(0,2,ws (0:Fin P)++(ws (0:Fin P)))] [ws (0:Fin P)++(ws (0:Fin P)),ws x,ws (0:Fin P)++(ws (0:Fin P))] [2,3] ⟨RG.ld g9 i109,RG.st,RG.pt i109,RG.st,trivial⟩ ?_;intro a9 w9 M9;refine wp_ret ?_;refine bodyPost_ret (v:=(.tuple #[pv (0:Fin P) (0:Fin P),.bool false])) (RG.aV M9.st 2 3 114 rfl 0 _ rfl (M9.at (s:=(.p 0 0))) _ (M9.at (s:=(.v (.bool false)))) g9 i109) M9.sl.defers ?_;exact⟨_,rfl,M9.st.bel.below,rfl⟩
  | some y =>
   refine M6.T [.x (fv x),.c (.tuple #[pv x y,.bool true]),.x (.tuple #[pv x y,.bool true]),.x (pv x y),.x (.bool true),.m 2,.u 2,.x (.bool true)] [(5,RG.z 8)] [(2,6,ws x++(ws y))] [RG.z 8,ws x,ws x++(ws y)] [0,2,3,5,6] ⟨RG.ld u85 i85,RG.wL rfl 100 39 (fv x) (.tuple #[pv x y,.bool true]) rfl (λa w=>kR) RG.sx (yO C x y hr),RG.st,RG.st,RG.st,RG.mk 2 114,RG.pt i109,RG.st,trivial⟩ ?_;intro j7 a7 w7 M7;repeat refine wp_seq ?_
   rw[Option.map_some];by_cases h3:ub bs[0]! = 3
   ·rw[if_pos h3];generalize hy2:0-y=y2;have popp_y:Gives 101 #[pv x y] (pv x y2):=hy2 ▸ NK C x y;refine M7.U [.x (.bool true),.x (.bool true),.x (v33 g o cap),.x (.pointer (some ⟨g,o,none⟩)),.x (.int .u8 3),.x (.bool true),.x (.bool true)] [2,3,5,6,49] ⟨RG.st,RG.st,RG.st,RG.eK rfl 23 45 (iZ 0) rfl (.v (v33 g o cap)) RG.sx (λμ w=>Ds g o 33 cap dC w),RG.bK rfl g o hg SL 5 46 rfl (.int .u8 3) rfl RG.sx (hb0.trans (by rw[h3])) u5,RG.st,RG.st,trivial⟩ ?_;intro a8 w8 M8;repeat refine wp_seq ?_
    refine wp_cond_true M8.ev ?_;repeat refine wp_seq ?_
    refine M8.T [.x (pv x y),.c (pv x y2),.u 2] [] [(2,2,ws x++(ws y2))] [RG.z 8,ws x,ws x++(ws y2)] [2,3,5,6] ⟨RG.ld g9 i109,RG.cl popp_y,RG.pt i109,trivial⟩ ?_;intro a9 w9 M9;repeat refine wp_seq ?_
    refine M9.T [.x (pv x y2),.x (.bool true),.u 0,.x (.bool true)] [] [(0,2,ws x++(ws y2))] [ws x++(ws y2),ws x,ws x++(ws y2)] [2,3] ⟨RG.ld g9 i109,RG.st,RG.pt i109,RG.st,trivial⟩ ?_;intro a10 w10 M10;refine wp_ret ?_;refine bodyPost_ret (v:=(.tuple #[pv x y2,.bool true])) (RG.aV M10.st 2 3 114 rfl 0 _ rfl (M10.at (s:=(.p 0 0))) _ (M10.at (s:=(.v (.bool true)))) g9 i109) M10.sl.defers ?_;exact⟨_,rfl,M10.st.bel.below,rfl⟩
   ·rw[if_neg h3];have h2:ub bs[0]! = 2:=oM;refine M7.U [.x (.bool true),.x (.bool true),.x (v33 g o cap),.x (.pointer (some ⟨g,o,none⟩)),.x (.int .u8 2),.x (.bool false),.x (.bool false)] [2,3,5,6,49] ⟨RG.st,RG.st,RG.st,RG.eK rfl 23 45 (iZ 0) rfl (.v (v33 g o cap)) RG.sx (λμ w=>Ds g o 33 cap dC w),RG.bK rfl g o hg SL 5 46 rfl (.int .u8 2) rfl RG.sx (hb0.trans (by rw[h2])) u5,RG.st,RG.st,trivial⟩ ?_;intro a8 w8 M8;repeat refine wp_seq ?_
    refine wp_cond_false M8.ev ?_;refine wp_skip ?_;repeat refine wp_seq ?_
    refine M8.T [.x (pv x y),.x (.bool true),.u 0,.x (.bool true)] [] [(0,2,ws x++(ws y))] [ws x++(ws y),ws x,ws x++(ws y)] [2,3] ⟨RG.ld g9 i109,RG.st,RG.pt i109,RG.st,trivial⟩ ?_;intro a9 w9 M9;refine wp_ret ?_;refine bodyPost_ret (v:=(.tuple #[pv x y,.bool true])) (RG.aV M9.st 2 3 114 rfl 0 _ rfl (M9.at (s:=(.p 0 0))) _ (M9.at (s:=(.v (.bool true)))) g9 i109) M9.sl.defers ?_;exact⟨_,rfl,M9.st.bel.below,rfl⟩
def Arg33(w:World)(v:Value)(bs:Bs):Prop:=∃(p:Option Addr) (n cap:Nat),v=.slice p n cap/\bs.size=n/\(n=33->∃g o,p=some ⟨g,o,none⟩/\33<=cap/\g<w.heap.size/\Holds encB w g o bs)
theorem Arg33.below{w w1:World}{v:Value}{bs:Bs}(h:Arg33 w v bs)(hb:Below w.heap.size w w1):Arg33 w1 v bs:=by
 obtain⟨p,n,cap,rfl,hs,h1⟩:=h;refine⟨p,n,cap,rfl,hs,λh2=>?_⟩;obtain⟨g,o,h3,h4,h6,h7⟩:=h1 h2;exact⟨g,o,h3,h4,Si h6 hb.size,Holds.below h7 hb h6⟩
theorem l8(C:Fld P)(v:Value)(bs:Bs)(w:World)(hv:Arg33 w v bs):Calls prog 58 #[v] w (rZ w λe w'=>e=rdV (rd P bs)):=by
 obtain⟨p,n,cap,rfl,hs,h1⟩:=hv;by_cases hn:n=33
 ·subst hn;obtain⟨g,o,rfl,hc,hg,hB⟩:=h1 rfl;exact Q9 C g o cap bs w hs hc hg hB
 ·unfold rd;rw[if_neg (by rw[hs];exact hn)];exact Nx C p n cap 0 w hn
end
section
open Go.RowKit Go.Sort Go.Deep
variable {P:Nat}[NeZero P]{N:Nat}
def bx(n:Nat):Bs:=be32 (n%18446744073709551616) (n/18446744073709551616%18446744073709551616) (n/340282366920938463463374607431768211456%18446744073709551616) (n/6277101735386680763835789423207666416102355444464034512896%18446744073709551616)
theorem jR(n:Nat):(bx n).size=32:=by unfold bx;exact yL _ _ _ _
def mark(n:Nat):UInt8:=if n%2=1 then 3 else 2
def xH(x y:Fin P):Bs:=if x=0/\y=0 then So 33 0 else #[mark y.val]++bx x.val
theorem E0(C:Fld P)(x:Fin P)(w:World):Calls prog 117 #[fv x] w (rZ w λe w'=>∃g,e=.slice (some (aZ g)) 32 32/\w.heap.size<=g/\Holds encB w' g 0 (bx x.val)):=
 (yS _ _ w (C.four x)).mono (by
  rintro e w' ⟨v,rfl,hb,g,a,b,c,d,rfl,hg,he,hH⟩;refine⟨_,rfl,hb,g,rfl,hg,?_⟩;have h2:fv x=.agg #[uZ ((x.val%18446744073709551616:Nat):Int),uZ ((x.val/18446744073709551616%18446744073709551616:Nat):Int),uZ ((x.val/340282366920938463463374607431768211456%18446744073709551616:Nat):Int),uZ ((x.val/6277101735386680763835789423207666416102355444464034512896%18446744073709551616:Nat):Int)]:=rfl;rw[h2]at he;simp only[Value.agg.injEq,Array.mk.injEq,List.cons.injEq,TW.injEq,true_and,and_true,Int.ofNat_inj]at he;obtain⟨rfl,rfl,rfl,rfl⟩:=he;exact hH)
theorem MN(C:Fld P)(y:Fin P):Gives 150 #[fv y] (.bool (decide (y.val%2=1))):=λw =>
 (EX _ _ (C.four y) w).mono (by rintro e w' ⟨v,rfl,hb,rfl⟩;exact⟨_,rfl,hb,rfl⟩)
theorem CV:(prog.info? 5).map (λi=>(i.zero,i.size,i.bytes))=some (some (.int .u8 0),1,1):=kR
theorem Gu:prog.underlying 23=some (.slice 5):=kR
def sE(w:World)(T:Bs)(e:Value)(w':World):Prop:=∃g cap,e=.slice (some (aZ g)) 33 cap/\33<=cap/\w.heap.size<=g/\g<w'.heap.size/\Holds encB w' g 0 T
theorem Fw(w:World):(Uc 23 (iZ 33) (iZ 33)).run prog w=.ok (.slice (some ⟨w.heap.size,0,none⟩) 33 33) (w.alloc (.cells (madeCells #[.int .u8 0] 33) 5)):=
 run_make_row' (P:=prog) 23 5 (.int .u8 0) 1 Gu CV rfl .i64 .i64 33 dC dC w
theorem Io(w:World)(o:Obj):Holds encB ((w.alloc o).alloc (.cells (madeCells #[.int .u8 0] 33) 5)) (w.heap.size+1) 0 (So 33 0):=by
 have h:=Holds.made (enc:=encB) (w.alloc o) 5 33 (0:UInt8);rw[Sq]at h;exact h
omit [NeZero P] in
theorem kC(x y:Fin P):pv x y=.agg #[uZ ((x.val%18446744073709551616:Nat):Int),uZ ((x.val/18446744073709551616%18446744073709551616:Nat):Int),uZ ((x.val/340282366920938463463374607431768211456%18446744073709551616:Nat):Int),uZ ((x.val/6277101735386680763835789423207666416102355444464034512896%18446744073709551616:Nat):Int),uZ ((y.val%18446744073709551616:Nat):Int),uZ ((y.val/18446744073709551616%18446744073709551616:Nat):Int),uZ ((y.val/340282366920938463463374607431768211456%18446744073709551616:Nat):Int),uZ ((y.val/6277101735386680763835789423207666416102355444464034512896%18446744073709551616:Nat):Int)]:=rfl
theorem Dl(C:Fld P)(x y:Fin P)(hz:x=0/\y=0)(w:World):Calls prog 121 #[pv x y] w (rZ w λe w'=>sE w (So 33 0) e w'):=by
 have heq:=IP C (x:=x) (y:=y) (z:=0) (t:=0) hz;rw[<-gQ,kC]at heq;rw[kC];generalize ((x.val%18446744073709551616:Nat):Int)=a at heq⊢;generalize ((x.val/18446744073709551616%18446744073709551616:Nat):Int)=b at heq⊢;generalize ((x.val/340282366920938463463374607431768211456%18446744073709551616:Nat):Int)=c at heq⊢;generalize ((x.val/6277101735386680763835789423207666416102355444464034512896%18446744073709551616:Nat):Int)=d at heq⊢;generalize ((y.val%18446744073709551616:Nat):Int)=p at heq⊢;generalize ((y.val/18446744073709551616%18446744073709551616:Nat):Int)=q at heq⊢;generalize ((y.val/340282366920938463463374607431768211456%18446744073709551616:Nat):Int)=r at heq⊢;generalize ((y.val/6277101735386680763835789423207666416102355444464034512896%18446744073709551616:Nat):Int)=s at heq⊢;have hmk:=Fw;generalize hT:(So 33 0:Bs)=T;go_enter Tryz.func121,Tryz.ntmps121;go_wp2;go_ret;have hM:=Io w (.cells #[uZ a,uZ b,uZ c,uZ d,uZ p,uZ q,uZ r,uZ s] 114);rw[hT]at hM;exact⟨_,rfl,below2 _ _ _,_,33,rfl,oM,oM,by simp,hM⟩
theorem IE(w:World)(k g m:Nat)(B:Bs)(hB:B.size=32)(hc:w.cell? ⟨k,0,none⟩=some (.int .u8 m))(hH:Holds encB w g 0 B)(hm:m<256:=by decide):
 ∃(w':World) (cap:Nat),(UG #[23,23] 23 #[.slice (some (aZ k)) 1 1,.slice (some (aZ g)) 32 32]).run prog w=.ok (.slice (some ⟨w.heap.size,0,none⟩) 33 cap) w'/\Below w.heap.size w w'/\33<=cap/\w.heap.size<w'.heap.size/\Holds encB w' w.heap.size 0 (#[Sy m]++B):=by
 obtain⟨i,hi,hzz⟩:=Sf.1 CV;simp only[Ud.injEq]at hzz;obtain⟨hz,hs,hb⟩:=hzz;have hap:=run_append_grow (P:=prog) w 23 23 5 i (.int .u8 0) Gu hi hz (aZ k) 1 1 [.int .u8 m] (by rw[hs];rfl) (λj v hj=>by
  cases j with
  | zero =>
   obtain rfl:TW .u8 m=v:=by simpa using hj
   rw[ZF];exact hc
  | succ j=>simp at hj) ⟨g,0,none⟩ 32 32 (B.toList.map encB) (by rw[hs,SO,Sx,hB]) (λj v hj=>by
  have hj':j<B.size:=by
   have:=(SI.1 hj).1;rwa[SO,Sx]at this
  rw[ZF,(hH j hj').1];rw[Un,Tn,SS hj']at hj;rw[getElem!_pos B j hj'];exact hj) dC dC (by rw[hb];decide)
 refine⟨_,_,hap,?_,?_,?_,?_⟩
 ·exact(Below.refl _ w).drew.trans (aB w.drew _)
 ·exact grownCap_ge w (1+32) 1 5
 ·show w.drew.heap.size<(w.drew.alloc _).heap.size;rw[Sq];exact Vt _
 ·intro j hj;have hsz:(#[Sy m]++B).size=33:=by rw[Tw,hB];rfl
  refine⟨?_,World.frozen?_alloc_new w.drew _ _ _⟩;show(w.drew.alloc _).cell? ⟨w.drew.heap.size,0+j,none⟩=_;rw[Sj,S5,getElem!_pos _ j hj,VY (by
   rw[Tw,Tf,Tf,SO,Sx];show j<1+B.size;omega)]
  cases j with
  | zero =>
   rw[VY (by simp),Array.getElem_append_left (by simp)];show some (TW .u8 m)=some (encB (Sy m));unfold encB;rw[oJ,SA hm]
  | succ i =>
   rw[Array.getElem?_append_right (by simp),Array.getElem_append_right (by simp),VJ,Un,Tn];show Option.map encB B[i]? = some (encB B[i]);rw[SS oM];rfl
theorem Mr(w:World)(a b c d p q r s:Nat):Kept w w.heap.size [⟨w.heap.size,0,a,b,c,d⟩,⟨w.heap.size,4,p,q,r,s⟩] (w.alloc (.cells #[uZ a,uZ b,uZ c,uZ d,uZ p,uZ q,uZ r,uZ s] 114)):=by
 have F:=At8.made w 114 a b c d p q r s rfl;refine((Kept.mk1 (aB w _) (aB w _).size).cons ?_).cons ?_
 ·exact⟨F.c4,F.c5,F.c6,F.c7,F.fz⟩
 ·exact⟨F.c0,F.c1,F.c2,F.c3,F.fz⟩
theorem F6(C:Fld P)(x y:Fin P)(hz:¬(x=0/\y=0))(ho:y.val%2=1)(w:World):Calls prog 121 #[pv x y] w (rZ w λe w'=>sE w (#[3]++bx x.val) e w'):=by
 have heq:=Da C (x:=x) (y:=y) (z:=0) (t:=0) hz;rw[<-gQ,kC]at heq;rw[kC];have hO:∀w,Calls prog 150 #[.agg #[uZ ((y.val%18446744073709551616:Nat):Int),uZ ((y.val/18446744073709551616%18446744073709551616:Nat):Int),uZ ((y.val/340282366920938463463374607431768211456%18446744073709551616:Nat):Int),uZ ((y.val/6277101735386680763835789423207666416102355444464034512896%18446744073709551616:Nat):Int)]] w (rZ w λe w'=>e=.bool true):=λw=>by
  have h:=MN C y w;rw[decide_eq_true ho]at h;exact h
 have hBy:∀w,Calls prog 117 #[.agg #[uZ ((x.val%18446744073709551616:Nat):Int),uZ ((x.val/18446744073709551616%18446744073709551616:Nat):Int),uZ ((x.val/340282366920938463463374607431768211456%18446744073709551616:Nat):Int),uZ ((x.val/6277101735386680763835789423207666416102355444464034512896%18446744073709551616:Nat):Int)]] w (rZ w λe w'=>∃g,e=.slice (some (aZ g)) 32 32/\w.heap.size<=g/\Holds encB w' g 0 (bx x.val)):=E0 C x;have hbs:=jR x.val;generalize bx x.val=B at hBy hbs⊢;generalize x.val%18446744073709551616=a at heq hO hBy⊢;generalize x.val/18446744073709551616%18446744073709551616=b at heq hO hBy⊢;generalize x.val/340282366920938463463374607431768211456%18446744073709551616=c at heq hO hBy⊢;generalize x.val/6277101735386680763835789423207666416102355444464034512896%18446744073709551616=d at heq hO hBy⊢;generalize y.val%18446744073709551616=p at heq hO hBy⊢;generalize y.val/18446744073709551616%18446744073709551616=q at heq hO hBy⊢;generalize y.val/340282366920938463463374607431768211456%18446744073709551616=r at heq hO hBy⊢;generalize y.val/6277101735386680763835789423207666416102355444464034512896%18446744073709551616=s at heq hO hBy⊢;have HQ:=mk1 (heq);go_enter Tryz.func121,Tryz.ntmps121;go_wp2_with fail
 have KP:=Mr w a b c d p q r s;generalize hk:w.heap.size=k0 at KP⊢;refine(hO _).mono ?_;rintro e w1 ⟨v,rfl,hb1,rfl⟩;replace KP:=KP.call hb1;obtain⟨xc0,xc1,xc2,xc3,xf⟩:=KP.head;have zx:=KP.head.lt;go_wp2_with fail
 refine(hBy _).mono ?_;rintro e w2 ⟨v,rfl,hb2,g,rfl,hg,hH⟩;have hc:w2.cell? ⟨w1.heap.size,0,none⟩=some (.int .u8 3):=by
  rw[hb2.cell (p:=⟨w1.heap.size,0,none⟩) (by show w1.heap.size<_;rw[Sq];omega),S5];rfl
 have hle:=SD KP.le (SD (by rw[Sq];omega) hb2.size);have hbl:=mk1 (((KP.alloc _).call hb2).bl);obtain⟨W3,cp,hap,hb3,hcp,hsz3,hH3⟩:=IE w2 w1.heap.size g 3 B hbs hc hH;go_wp2_with (at_builtin;refine UD _ rfl _ _ 23 23 rfl _ _ rfl rfl _ _ hap ?_)
 go_ret;refine⟨_,rfl,?_,_,cp,rfl,hcp,?_,hsz3,hH3⟩
 ·rw[hk];exact hbl.trans (hb3.mono hle)
 ·rw[hk];exact hle
theorem Dm(C:Fld P)(x y:Fin P)(hz:¬(x=0/\y=0))(ho:¬y.val%2=1)(w:World):Calls prog 121 #[pv x y] w (rZ w λe w'=>sE w (#[2]++bx x.val) e w'):=by
 have heq:=Da C (x:=x) (y:=y) (z:=0) (t:=0) hz;rw[<-gQ,kC]at heq;rw[kC];have hO:∀w,Calls prog 150 #[.agg #[uZ ((y.val%18446744073709551616:Nat):Int),uZ ((y.val/18446744073709551616%18446744073709551616:Nat):Int),uZ ((y.val/340282366920938463463374607431768211456%18446744073709551616:Nat):Int),uZ ((y.val/6277101735386680763835789423207666416102355444464034512896%18446744073709551616:Nat):Int)]] w (rZ w λe w'=>e=.bool false):=λw=>by
  have h:=MN C y w;rw[decide_eq_false ho]at h;exact h
 have hBy:∀w,Calls prog 117 #[.agg #[uZ ((x.val%18446744073709551616:Nat):Int),uZ ((x.val/18446744073709551616%18446744073709551616:Nat):Int),uZ ((x.val/340282366920938463463374607431768211456%18446744073709551616:Nat):Int),uZ ((x.val/6277101735386680763835789423207666416102355444464034512896%18446744073709551616:Nat):Int)]] w (rZ w λe w'=>∃g,e=.slice (some (aZ g)) 32 32/\w.heap.size<=g/\Holds encB w' g 0 (bx x.val)):=E0 C x;have hbs:=jR x.val;generalize bx x.val=B at hBy hbs⊢;generalize x.val%18446744073709551616=a at heq hO hBy⊢;generalize x.val/18446744073709551616%18446744073709551616=b at heq hO hBy⊢;generalize x.val/340282366920938463463374607431768211456%18446744073709551616=c at heq hO hBy⊢;generalize x.val/6277101735386680763835789423207666416102355444464034512896%18446744073709551616=d at heq hO hBy⊢;generalize y.val%18446744073709551616=p at heq hO hBy⊢;generalize y.val/18446744073709551616%18446744073709551616=q at heq hO hBy⊢;generalize y.val/340282366920938463463374607431768211456%18446744073709551616=r at heq hO hBy⊢;generalize y.val/6277101735386680763835789423207666416102355444464034512896%18446744073709551616=s at heq hO hBy⊢;have HQ:=mk1 (heq);go_enter Tryz.func121,Tryz.ntmps121;go_wp2_with fail
 have KP:=Mr w a b c d p q r s;generalize hk:w.heap.size=k0 at KP⊢;refine(hO _).mono ?_;rintro e w1 ⟨v,rfl,hb1,rfl⟩;replace KP:=KP.call hb1;obtain⟨xc0,xc1,xc2,xc3,xf⟩:=KP.head;have zx:=KP.head.lt;go_wp2_with fail
 refine(hBy _).mono ?_;rintro e w2 ⟨v,rfl,hb2,g,rfl,hg,hH⟩;have hc:w2.cell? ⟨w1.heap.size,0,none⟩=some (.int .u8 2):=by
  rw[hb2.cell (p:=⟨w1.heap.size,0,none⟩) (by show w1.heap.size<_;rw[Sq];omega),S5];rfl
 have hle:=SD KP.le (SD (by rw[Sq];omega) hb2.size);have hbl:=mk1 (((KP.alloc _).call hb2).bl);obtain⟨W3,cp,hap,hb3,hcp,hsz3,hH3⟩:=IE w2 w1.heap.size g 2 B hbs hc hH;go_wp2_with (at_builtin;refine UD _ rfl _ _ 23 23 rfl _ _ rfl rfl _ _ hap ?_)
 go_ret;refine⟨_,rfl,?_,_,cp,rfl,hcp,?_,hsz3,hH3⟩
 ·rw[hk];exact hbl.trans (hb3.mono hle)
 ·rw[hk];exact hle
theorem EN(C:Fld P)(x y:Fin P)(w:World):Calls prog 121 #[pv x y] w (rZ w λe w'=>sE w (xH x y) e w'):=by
 unfold xH mark;by_cases hz:x=0/\y=0
 ·rw[if_pos hz];exact Dl C x y hz w
 ·rw[if_neg hz];by_cases ho:y.val%2=1
  ·rw[if_pos ho];exact F6 C x y hz ho w
  ·rw[if_neg ho];exact Dm C x y hz ho w
theorem u23:(prog.underlying 23).map (·.isRow)=some false:=kR
theorem LY(k o n c i:Nat)(hi:i<n)(w:World):(To 22 (.slice (some ⟨k,o,none⟩) n c) (iZ i)).run prog w=.ok (.pointer (some ⟨k,o+i,none⟩)) w:=by
 go_simp
theorem PX(N:Nat)(hN:N<=512):∃C0:List Value,C0.length=8*N/\∀w:World,(Uc 180 (iZ N) (iZ N)).run prog w=.ok (.slice (some ⟨w.heap.size,0,none⟩) N N) (w.alloc (.cells C0.toArray 114)):=by
 have hu:prog.underlying 180=some (.slice 114):=kR;have hi:(prog.info? 114).map (λi=>(i.size,decide (i.bytes<=4000),i.zero.isSome))=some (8,true,true):=kR;obtain⟨i,hi1,hi2⟩:=Sf.1 hi;simp only[Ud.injEq,decide_eq_true_eq]at hi2;obtain⟨h1,h2,h3⟩:=hi2;obtain⟨z,hz⟩:=SU.1 h3;refine⟨(madeCells z.cells (N*8)).toList,by rw[Sx,size_madeCells,S9],λw=>?_⟩;have hb:(i.bytes:Int)*(N:Int)<=281474976710656:=by
  have:i.bytes*N<=4000*512:=T9 h2 hN;have h5:((i.bytes*N:Nat):Int)<=281474976710656:=oM;rwa[Uh]at h5
 have:=run_make (P:=prog) w 180 114 i z hu hi1 hz .i64 .i64 (N:Int) (N:Int) oM oM hb oM;rw[Vd,h1]at this;rw[UQ];exact this
theorem Rp(N:Nat)(hN:N<=512):∃C0:List Value,C0.length=4*N/\∀w:World,(Uc 177 (iZ N) (iZ N)).run prog w=.ok (.slice (some ⟨w.heap.size,0,none⟩) N N) (w.alloc (.cells C0.toArray 41)):=by
 have hu:prog.underlying 177=some (.slice 41):=kR;have hi:(prog.info? 41).map (λi=>(i.size,decide (i.bytes<=4000),i.zero.isSome))=some (4,true,true):=kR;obtain⟨i,hi1,hi2⟩:=Sf.1 hi;simp only[Ud.injEq,decide_eq_true_eq]at hi2;obtain⟨h1,h2,h3⟩:=hi2;obtain⟨z,hz⟩:=SU.1 h3;refine⟨(madeCells z.cells (N*4)).toList,by rw[Sx,size_madeCells,S9],λw=>?_⟩;have hb:(i.bytes:Int)*(N:Int)<=281474976710656:=by
  have:i.bytes*N<=4000*512:=T9 h2 hN;have h5:((i.bytes*N:Nat):Int)<=281474976710656:=oM;rwa[Uh]at h5
 have:=run_make (P:=prog) w 177 41 i z hu hi1 hz .i64 .i64 (N:Int) (N:Int) oM oM hb oM;rw[Vd,h1]at this;rw[UQ];exact this
structure Rows(sz N:Nat)(cell:Nat->List Value)(m:Nat)(C:List Value):Prop where
 len:C.length=sz*N
 row:∀j r,j<m->r<sz->C[sz*j+r]? = (cell j)[r]?
theorem Rows.next{sz N m:Nat}{cell:Nat->List Value}{C:List Value}(h:Rows sz N cell m C)(hm:m<N)(hc:(cell m).length=sz):Rows sz N cell (m+1) (RG.rep C (0+sz*m) (cell m)):=by
 have hlen:=h.len;have hb:sz*m+sz<=sz*N:=by rw[<-V0];exact YE _ hm
 have hl:0+sz*m+(cell m).length<=C.length:=by rw[hc];omega
 refine⟨by rw[RG.cX hl];exact hlen,λj r hj hr=>?_⟩;rw[RG.rep_at hl];by_cases hjm:j=m
 ·subst hjm;rw[if_pos (by rw[hc];omega),show sz*j+r-(0+sz*j)=r by omega]
 ·have h2:sz*j+sz<=sz*m:=by rw[<-V0];exact YE _ oM
  rw[if_neg (by rw[hc];omega)];exact h.row j r oM hr
def rq(N:Nat)(bs:Bs):Option Nat:=if bs.size=32/\beV bs.toList<N then some (beV bs.toList) else none
def rqV:Option Nat->Value
 | none=>.tuple #[nv 0,.bool false]
 | some n=>.tuple #[nv n,.bool true]
theorem fJ:Gives 59 #[] gv1:=λw=>(BO w).mono (by rintro e w' ⟨rfl,rfl⟩;exact⟨_,rfl,aB _ _,rfl⟩)
theorem zF{N:Nat}(hG:Gap 4624529908474429119 4994812053365940164 1 N)(v:Value)(bs:Bs)(w:World)(hv:Arg w v bs):Calls prog 60 #[gv1,v] w (rZ w λe w'=>e=rqV (rq N bs)):=by
 obtain⟨p,n,cap,rfl,hs,h1⟩:=hv;unfold rq;by_cases hn:n=32
 ·subst hn;obtain⟨g,o,rfl,h4,h6,h7⟩:=h1 rfl;refine(wW _ _ _ N g o cap bs hG w hs h4 h6 h7).mono ?_;rintro e w' ⟨v,rfl,hb,⟨hl,v',rfl,h8⟩|⟨hl,rfl⟩⟩
  ·rw[if_pos ⟨hs,hl⟩];exact⟨_,rfl,hb,by rw[h8.nv];rfl⟩
  ·rw[if_neg (λh=>oM)];exact⟨_,rfl,hb,rfl⟩
 ·refine(Js _ p n cap w _ _ _ rfl hn).mono ?_;rintro e w' ⟨v,rfl,hb,rfl⟩;rw[if_neg (λh=>hn (hs.symm.trans h.1))];exact⟨_,rfl,hb,rfl⟩
end
section
open Go.RowKit Go.Sort
variable {P:Nat}[NeZero P]{N:Nat}
structure RefP(p0 p1 p2 p3 c0 c1 c2 c3 P:Nat):Prop where
 hp0:p0<18446744073709551616
 hp1:p1<18446744073709551616
 hp2:p2<18446744073709551616
 hp3:p3<18446744073709551616
 hc0:c0<18446744073709551616
 hc1:c1<18446744073709551616
 hc2:c2<18446744073709551616
 hc3:c3<18446744073709551616
 eP:P=val p0 p1 p2 p3
 hP:P+val c0 c1 c2 c3=top
 hP2:top<2*P
theorem Px:RefP 18446744069414583343 18446744073709551615 18446744073709551615 18446744073709551615 4294968273 0 0 0 Go.Proofs.YtnakcnljhmlikaaGreat.p0:=
 ⟨dC,dC,dC,dC,dC,dC,dC,dC,dK,dK,dK⟩
theorem Pw:RefP 13822214165235122497 13451932020343611451 18446744073709551614 18446744073709551615 4624529908474429119 4994812053365940164 1 0 Go.Proofs.YtnakcnljhmlikaaGreat.p1:=
 ⟨dC,dC,dC,dC,dC,dC,dC,dC,dK,dK,dK⟩
theorem mW(x y:Value)(m n:Nat)(hx:Four x m)(hy:Four y n)(w:World):
 Calls prog 90 #[x,y] w (rZ w λe w'=>∃(v:Value) (s k:Nat),e=.tuple #[v,uZ k]/\Four v s/\k<=1/\s+n=m+top*k):=by
 obtain⟨a,b,c,d,rfl,ha,hb,hc,hd,em⟩:=hx;obtain⟨p,q,r,s,rfl,hp,hq,hr,hs,en⟩:=hy;obtain⟨s0,k0,a0,hs0,hk0,e0⟩:=yZ a p ha hp;obtain⟨s1,k1,a1,hs1,hk1,e1⟩:=jX b q k0 hb hq hk0;obtain⟨s2,k2,a2,hs2,hk2,e2⟩:=jX c r k1 hc hr hk1;obtain⟨s3,k3,a3,hs3,hk3,e3⟩:=jX d s k2 hd hs hk2;have hv:val s0 s1 s2 s3+n=m+top*k3:=by rw[em,en];unfold val top;omega
 go_enter Tryz.func90,Tryz.ntmps90;go_wp2;refine wp_loop_rounds 5 ?_;rw[rounds_succ];go_wp2;go_region
 go_wp2;rw[rounds_succ];go_wp2;go_region
 go_wp2;rw[rounds_succ];go_wp2;go_region
 go_wp2;rw[rounds_succ];go_wp2;go_region
 go_wp2;rw[rounds_succ];go_wp2
 refine bodyPost_ret (v:=?v) ?hr rfl ?hR
 case hr=>simp[results,Tryz.results90,go_sem];rfl
 exact⟨_,rfl,(gK _ _ _ _ _).drew.drew.drew.drew,_,_,k3,rfl,Four.mk hs0 hs1 hs2 hs3 rfl,hk3,hv⟩
def lO(v:Value)(n:Nat):Prop:=∃a b c d a' b' c' d':Nat,v=.agg #[uZ a,uZ b,uZ c,uZ d,uZ a',uZ b',uZ c',uZ d'] /\
 a<18446744073709551616/\b<18446744073709551616/\c<18446744073709551616/\d<18446744073709551616/\a'<18446744073709551616/\b'<18446744073709551616/\c'<18446744073709551616/\d'<18446744073709551616 /\
 n=val a b c d+top*val a' b' c' d'
theorem Du{m n a b c d s u k l:Nat}(em:m=a+top*b)(en:n=c+top*d)(h1:s+top*k=a+c)(h2:u+top*l=b+d+k)(hlt:m+n<top*top):m+n=s+top*u:=by
 have h3:top*u+top*top*l=top*b+top*d+top*k:=by rw[Nat.mul_assoc,<-U4,h2,U4,U4]
 have h4:m+n=s+top*u+top*top*l:=oM;have h5:l=0:=by
  rcases YK l with h|h
  ·exact h
  ·have:=Nat.le_mul_of_pos_right (top*top) h;omega
 rw[h4,h5,V8,Ur]
theorem qW(x y:Value)(m n:Nat)(hx:lO x m)(hy:lO y n)(hlt:m+n<top*top)(w:World):
 Calls prog 127 #[x,y] w (rZ w λe w'=>lO e (m+n)):=by
 obtain⟨a,b,c,d,aa,bb,cc,dd,rfl,ha,hb,hc,hd,haa,hbb,hcc,hdd,em⟩:=hx;obtain⟨p,q,r,s,pp,qq,rr,ss,rfl,hp,hq,hr,hs,hpp,hqq,hrr,hss,en⟩:=hy;obtain⟨s0,k0,a0,hs0,hk0,e0⟩:=rX a p ha hp;obtain⟨s1,k1,a1,hs1,hk1,e1⟩:=mQ b q k0 hb hq hk0;obtain⟨s2,k2,a2,hs2,hk2,e2⟩:=mQ c r k1 hc hr hk1;obtain⟨s3,k3,a3,hs3,hk3,e3⟩:=mQ d s k2 hd hs hk2;obtain⟨s4,k4,a4,hs4,hk4,e4⟩:=mQ aa pp k3 haa hpp hk3;obtain⟨s5,k5,a5,hs5,hk5,e5⟩:=mQ bb qq k4 hbb hqq hk4;obtain⟨s6,k6,a6,hs6,hk6,e6⟩:=mQ cc rr k5 hcc hrr hk5;obtain⟨s7,k7,a7,hs7,hk7,e7⟩:=mQ dd ss k6 hdd hss hk6;have v1:val s0 s1 s2 s3+top*k3=val a b c d+val p q r s:=by clear em en hlt e4 e5 e6 e7;unfold val top;omega
 have v2:val s4 s5 s6 s7+top*k7=val aa bb cc dd+val pp qq rr ss+k3:=by clear em en hlt e0 e1 e2 e3;unfold val top;omega
 have hv:=Du em en v1 v2 hlt;go_enter Tryz.func127,Tryz.ntmps127;go_wp2;refine wp_loop_rounds 9 ?_;rw[rounds_succ];go_wp2;go_region
 go_wp2;rw[rounds_succ];go_wp2;go_region
 go_wp2;rw[rounds_succ];go_wp2;go_region
 go_wp2;rw[rounds_succ];go_wp2;go_region
 go_wp2;rw[rounds_succ];go_wp2;go_region
 go_wp2;rw[rounds_succ];go_wp2;go_region
 go_wp2;rw[rounds_succ];go_wp2;go_region
 go_wp2;rw[rounds_succ];go_wp2;go_region
 go_wp2;rw[rounds_succ];go_wp2
 refine bodyPost_ret (v:=?v) ?hr rfl ?hR
 case hr=>simp[results,Tryz.results127,go_sem];rfl
 exact⟨_,rfl,(below3 _ _ _ _).drew.drew.drew.drew.drew.drew.drew.drew,s0,s1,s2,s3,s4,s5,s6,s7,rfl,hs0,hs1,hs2,hs3,hs4,hs5,hs6,hs7,hv⟩
theorem FI{a b c d n r0 r1 r2 r3 s0 s1 s2 s3 t0 t1 t2 t3 u0 u1 u2 u3 h0 h1 h2 h3:Nat}
 (e0:r0+18446744073709551616*val r1 r2 r3 h0=a*n+val 0 0 0 0)
 (e1:s0+18446744073709551616*val s1 s2 s3 h1=b*n+val r1 r2 r3 h0)
 (e2:t0+18446744073709551616*val t1 t2 t3 h2=c*n+val s1 s2 s3 h1)
 (e3:u0+18446744073709551616*val u1 u2 u3 h3=d*n+val t1 t2 t3 h2) :
 val a b c d*n=val r0 s0 t0 u0+top*val u1 u2 u3 h3:=by
 have hm:val a b c d*n=val (a*n) (b*n) (c*n) (d*n):=by
  rw[S9,zM,S9 n a,S9 n b,S9 n c,S9 n d]
 rw[hm];unfold val at *;unfold top;omega
theorem kS(x y:Value)(m n:Nat)(hx:Four x m)(hy:Four y n)(w:World):
 Calls prog 97 #[x,y] w (rZ w λe w'=>lO e (m*n)):=by
 obtain⟨a,b,c,d,rfl,ha,hb,hc,hd,em⟩:=hx;obtain⟨p,q,r,s,rfl,hp,hq,hr,hs,en⟩:=hy;go_enter Tryz.func97,Tryz.ntmps97;go_wp2;refine wp_loop_rounds 5 ?_;have X:=(((At4.made w 63 a b c d rfl).alloc (.cells #[uZ p,uZ q,uZ r,uZ s] 63)).alloc (.cells #[uZ 0,uZ 0,uZ 0,uZ 0,uZ 0,uZ 0,uZ 0,uZ 0] 161)).alloc (.cells #[uZ 0,uZ 0,uZ 0,uZ 0,uZ 0,uZ 0,uZ 0,uZ 0] 161);have Y:=((At4.made (w.alloc (.cells #[uZ a,uZ b,uZ c,uZ d] 63)) 63 p q r s (Sq _ _)).alloc (.cells #[uZ 0,uZ 0,uZ 0,uZ 0,uZ 0,uZ 0,uZ 0,uZ 0] 161)).alloc (.cells #[uZ 0,uZ 0,uZ 0,uZ 0,uZ 0,uZ 0,uZ 0,uZ 0] 161);have R:=(At8.made ((w.alloc (.cells #[uZ a,uZ b,uZ c,uZ d] 63)).alloc (.cells #[uZ p,uZ q,uZ r,uZ s] 63)) 161 0 0 0 0 0 0 0 0 (k:=w.heap.size+1+1) (by simp)).alloc (.cells #[uZ 0,uZ 0,uZ 0,uZ 0,uZ 0,uZ 0,uZ 0,uZ 0] 161);have O:=At8.made (((w.alloc (.cells #[uZ a,uZ b,uZ c,uZ d] 63)).alloc (.cells #[uZ p,uZ q,uZ r,uZ s] 63)).alloc (.cells #[uZ 0,uZ 0,uZ 0,uZ 0,uZ 0,uZ 0,uZ 0,uZ 0] 161)) 161 0 0 0 0 0 0 0 0 (k:=w.heap.size+1+1+1) (by simp);have BL:Hid (Below w.heap.size w _):=gK w (.cells #[uZ a,uZ b,uZ c,uZ d] 63) (.cells #[uZ p,uZ q,uZ r,uZ s] 63) (.cells #[uZ 0,uZ 0,uZ 0,uZ 0,uZ 0,uZ 0,uZ 0,uZ 0] 161) (.cells #[uZ 0,uZ 0,uZ 0,uZ 0,uZ 0,uZ 0,uZ 0,uZ 0] 161);simp only[Te]at R O;generalize TI _ _=W0 at X Y R O BL⊢;generalize h3:w.heap.size+1+1+1=k3 at O⊢;generalize h2:w.heap.size+1+1=k2 at R⊢;generalize h1:w.heap.size+1=k1 at Y⊢;have Q3:Hid (w.heap.size<=k3):=by unfold Hid;omega
 have Q2:Hid (w.heap.size<=k2):=by unfold Hid;omega
 generalize h0:w.heap.size=k0 at X BL Q2 Q3⊢;have n03:k0≠k3:=oM;have n13:k1≠k3:=oM;have n23:k2≠k3:=oM;have H0:Hid (w.heap.size=k0):=h0;clear h0 h1 h2 h3;obtain⟨xc0,xc1,xc2,xc3,xf⟩:=id X;obtain⟨yc0,yc1,yc2,yc3,yf⟩:=id Y;obtain⟨oc0,oc1,oc2,oc3,oc4,oc5,oc6,oc7,of⟩:=id O;simp only[Te]at oc0 oc1 oc2 oc3 oc4 oc5 oc6 oc7;rw[rounds_succ];go_wp2
 refine wp_loop_rounds 5 ?_;obtain⟨h00,l00,s00,k00,o00,j00,g00,y00,m00,b00,d00,v00,z00,ho00,hy00,e00⟩:=dD a p 0 0 ha hp dC dC;simp only[Te]at b00;simp only[Te]at d00;rw[rounds_succ];go_wp2
 go_quiet ((go_at_call 132;exact Tx (m00 _)));revert nq;intro nq00
 go_wp2_with (first|simp only[b00]|simp only[d00])
 obtain⟨h01,l01,s01,k01,o01,j01,g01,y01,m01,b01,d01,v01,z01,ho01,hy01,e01⟩:=dD a q 0 y00 ha hq dC hy00;simp only[Te]at d01;rw[rounds_succ];go_wp2
 go_quiet ((go_at_call 132;exact Tx (m01 _)));revert nq;intro nq01
 go_wp2_with (first|simp only[b01]|simp only[d01])
 obtain⟨h02,l02,s02,k02,o02,j02,g02,y02,m02,b02,d02,v02,z02,ho02,hy02,e02⟩:=dD a r 0 y01 ha hr dC hy01;simp only[Te]at d02;rw[rounds_succ];go_wp2
 go_quiet ((go_at_call 132;exact Tx (m02 _)));revert nq;intro nq02
 go_wp2_with (first|simp only[b02]|simp only[d02])
 obtain⟨h03,l03,s03,k03,o03,j03,g03,y03,m03,b03,d03,v03,z03,ho03,hy03,e03⟩:=dD a s 0 y02 ha hs dC hy02;simp only[Te]at d03;rw[rounds_succ];go_wp2
 go_quiet ((go_at_call 132;exact Tx (m03 _)));revert nq;intro nq03
 go_wp2_with (first|simp only[b03]|simp only[d03])
 rw[rounds_succ];go_wp2
 have R0:=oQ (n:=val 0 0 0 0) (p:=0) (q:=0) (r:=0) (s:=0) (x:=a) (l0:=o00) (l1:=o01) (l2:=o02) (l3:=o03) en rfl e00 e01 e02 e03;have HR0:Hid _:=R0;clear R0;clear e00 e01 e02 e03 m00 b00 d00 v00 z00 m01 b01 d01 v01 z01 m02 b02 d02 v02 z02 m03 b03 d03 v03 z03;clear xc0 xc1 xc2 xc3 xf yc0 yc1 yc2 yc3 yf oc0 oc1 oc2 oc3 oc4 oc5 oc6 oc7 of;have X0:=(((((((((X).drewN nq00).other (o:=0) n03.symm (uZ o00)).drewN nq01).other (o:=1) n03.symm (uZ o01)).drewN nq02).other (o:=2) n03.symm (uZ o02)).drewN nq03).other (o:=3) n03.symm (uZ o03)).other (o:=4) n03.symm (uZ y03);have Y0:=(((((((((Y).drewN nq00).other (o:=0) n13.symm (uZ o00)).drewN nq01).other (o:=1) n13.symm (uZ o01)).drewN nq02).other (o:=2) n13.symm (uZ o02)).drewN nq03).other (o:=3) n13.symm (uZ o03)).other (o:=4) n13.symm (uZ y03);have RR0:=(((((((((R).drewN nq00).other (o:=0) n23.symm (uZ o00)).drewN nq01).other (o:=1) n23.symm (uZ o01)).drewN nq02).other (o:=2) n23.symm (uZ o02)).drewN nq03).other (o:=3) n23.symm (uZ o03)).other (o:=4) n23.symm (uZ y03);have O0:=(((((((((O).drewN nq00).set0 o00).drewN nq01).set1 o01).drewN nq02).set2 o02).drewN nq03).set3 o03).set4 y03;have BL0:Hid (Below k0 w _):=((aT ((aT ((aT ((aT BL.out nq00).setCell (p:=⟨k3,0,none⟩) Q3.out (uZ o00)) nq01).setCell (p:=⟨k3,1,none⟩) Q3.out (uZ o01)) nq02).setCell (p:=⟨k3,2,none⟩) Q3.out (uZ o02)) nq03).setCell (p:=⟨k3,3,none⟩) Q3.out (uZ o03)).setCell (p:=⟨k3,4,none⟩) Q3.out (uZ y03);generalize UH _ _ _=W1 at X0 Y0 RR0 O0 BL0⊢;clear X Y R O BL;have X:=X0;have Y:=Y0;have R:=RR0;have O:=O0;have BL:=BL0;clear X0 Y0 RR0 O0 BL0;obtain⟨xc0,xc1,xc2,xc3,xf⟩:=id X;obtain⟨yc0,yc1,yc2,yc3,yf⟩:=id Y;obtain⟨oc0,oc1,oc2,oc3,oc4,oc5,oc6,oc7,of⟩:=id O;simp only[Te]at oc5 oc6 oc7;rw[rounds_succ];go_wp2
 refine wp_loop_rounds 5 ?_;obtain⟨h10,l10,s10,k10,o10,j10,g10,y10,m10,b10,d10,v10,z10,ho10,hy10,e10⟩:=dD b p o01 0 hb hp ho01 dC;simp only[Te]at b10;rw[rounds_succ];go_wp2
 go_quiet ((go_at_call 132;exact Tx (m10 _)));revert nq;intro nq10
 go_wp2_with (first|simp only[b10]|simp only[d10])
 obtain⟨h11,l11,s11,k11,o11,j11,g11,y11,m11,b11,d11,v11,z11,ho11,hy11,e11⟩:=dD b q o02 y10 hb hq ho02 hy10;rw[rounds_succ];go_wp2
 go_quiet ((go_at_call 132;exact Tx (m11 _)));revert nq;intro nq11
 go_wp2_with (first|simp only[b11]|simp only[d11])
 obtain⟨h12,l12,s12,k12,o12,j12,g12,y12,m12,b12,d12,v12,z12,ho12,hy12,e12⟩:=dD b r o03 y11 hb hr ho03 hy11;rw[rounds_succ];go_wp2
 go_quiet ((go_at_call 132;exact Tx (m12 _)));revert nq;intro nq12
 go_wp2_with (first|simp only[b12]|simp only[d12])
 obtain⟨h13,l13,s13,k13,o13,j13,g13,y13,m13,b13,d13,v13,z13,ho13,hy13,e13⟩:=dD b s y03 y12 hb hs hy03 hy12;rw[rounds_succ];go_wp2
 go_quiet ((go_at_call 132;exact Tx (m13 _)));revert nq;intro nq13
 go_wp2_with (first|simp only[b13]|simp only[d13])
 rw[rounds_succ];go_wp2
 have R1:=oQ (n:=val o01 o02 o03 y03) (p:=o01) (q:=o02) (r:=o03) (s:=y03) (x:=b) (l0:=o10) (l1:=o11) (l2:=o12) (l3:=o13) en rfl e10 e11 e12 e13;have HR1:Hid _:=R1;clear R1;clear e10 e11 e12 e13 m10 b10 d10 v10 z10 m11 b11 d11 v11 z11 m12 b12 d12 v12 z12 m13 b13 d13 v13 z13;clear xc0 xc1 xc2 xc3 xf yc0 yc1 yc2 yc3 yf oc0 oc1 oc2 oc3 oc4 oc5 oc6 oc7 of;have X1:=(((((((((X).drewN nq10).other (o:=1) n03.symm (uZ o10)).drewN nq11).other (o:=2) n03.symm (uZ o11)).drewN nq12).other (o:=3) n03.symm (uZ o12)).drewN nq13).other (o:=4) n03.symm (uZ o13)).other (o:=5) n03.symm (uZ y13);have Y1:=(((((((((Y).drewN nq10).other (o:=1) n13.symm (uZ o10)).drewN nq11).other (o:=2) n13.symm (uZ o11)).drewN nq12).other (o:=3) n13.symm (uZ o12)).drewN nq13).other (o:=4) n13.symm (uZ o13)).other (o:=5) n13.symm (uZ y13);have RR1:=(((((((((R).drewN nq10).other (o:=1) n23.symm (uZ o10)).drewN nq11).other (o:=2) n23.symm (uZ o11)).drewN nq12).other (o:=3) n23.symm (uZ o12)).drewN nq13).other (o:=4) n23.symm (uZ o13)).other (o:=5) n23.symm (uZ y13);have O1:=(((((((((O).drewN nq10).set1 o10).drewN nq11).set2 o11).drewN nq12).set3 o12).drewN nq13).set4 o13).set5 y13;have BL1:Hid (Below k0 w _):=((aT ((aT ((aT ((aT BL.out nq10).setCell (p:=⟨k3,1,none⟩) Q3.out (uZ o10)) nq11).setCell (p:=⟨k3,2,none⟩) Q3.out (uZ o11)) nq12).setCell (p:=⟨k3,3,none⟩) Q3.out (uZ o12)) nq13).setCell (p:=⟨k3,4,none⟩) Q3.out (uZ o13)).setCell (p:=⟨k3,5,none⟩) Q3.out (uZ y13);generalize UH _ _ _=W2 at X1 Y1 RR1 O1 BL1⊢;clear X Y R O BL;have X:=X1;have Y:=Y1;have R:=RR1;have O:=O1;have BL:=BL1;clear X1 Y1 RR1 O1 BL1;obtain⟨xc0,xc1,xc2,xc3,xf⟩:=id X;obtain⟨yc0,yc1,yc2,yc3,yf⟩:=id Y;obtain⟨oc0,oc1,oc2,oc3,oc4,oc5,oc6,oc7,of⟩:=id O;simp only[Te]at oc6 oc7;rw[rounds_succ];go_wp2
 refine wp_loop_rounds 5 ?_;obtain⟨h20,l20,s20,k20,o20,j20,g20,y20,m20,b20,d20,v20,z20,ho20,hy20,e20⟩:=dD c p o11 0 hc hp ho11 dC;simp only[Te]at b20;rw[rounds_succ];go_wp2
 go_quiet ((go_at_call 132;exact Tx (m20 _)));revert nq;intro nq20
 go_wp2_with (first|simp only[b20]|simp only[d20])
 obtain⟨h21,l21,s21,k21,o21,j21,g21,y21,m21,b21,d21,v21,z21,ho21,hy21,e21⟩:=dD c q o12 y20 hc hq ho12 hy20;rw[rounds_succ];go_wp2
 go_quiet ((go_at_call 132;exact Tx (m21 _)));revert nq;intro nq21
 go_wp2_with (first|simp only[b21]|simp only[d21])
 obtain⟨h22,l22,s22,k22,o22,j22,g22,y22,m22,b22,d22,v22,z22,ho22,hy22,e22⟩:=dD c r o13 y21 hc hr ho13 hy21;rw[rounds_succ];go_wp2
 go_quiet ((go_at_call 132;exact Tx (m22 _)));revert nq;intro nq22
 go_wp2_with (first|simp only[b22]|simp only[d22])
 obtain⟨h23,l23,s23,k23,o23,j23,g23,y23,m23,b23,d23,v23,z23,ho23,hy23,e23⟩:=dD c s y13 y22 hc hs hy13 hy22;rw[rounds_succ];go_wp2
 go_quiet ((go_at_call 132;exact Tx (m23 _)));revert nq;intro nq23
 go_wp2_with (first|simp only[b23]|simp only[d23])
 rw[rounds_succ];go_wp2
 have R2:=oQ (n:=val o11 o12 o13 y13) (p:=o11) (q:=o12) (r:=o13) (s:=y13) (x:=c) (l0:=o20) (l1:=o21) (l2:=o22) (l3:=o23) en rfl e20 e21 e22 e23;have HR2:Hid _:=R2;clear R2;clear e20 e21 e22 e23 m20 b20 d20 v20 z20 m21 b21 d21 v21 z21 m22 b22 d22 v22 z22 m23 b23 d23 v23 z23;clear xc0 xc1 xc2 xc3 xf yc0 yc1 yc2 yc3 yf oc0 oc1 oc2 oc3 oc4 oc5 oc6 oc7 of;have X2:=(((((((((X).drewN nq20).other (o:=2) n03.symm (uZ o20)).drewN nq21).other (o:=3) n03.symm (uZ o21)).drewN nq22).other (o:=4) n03.symm (uZ o22)).drewN nq23).other (o:=5) n03.symm (uZ o23)).other (o:=6) n03.symm (uZ y23);have Y2:=(((((((((Y).drewN nq20).other (o:=2) n13.symm (uZ o20)).drewN nq21).other (o:=3) n13.symm (uZ o21)).drewN nq22).other (o:=4) n13.symm (uZ o22)).drewN nq23).other (o:=5) n13.symm (uZ o23)).other (o:=6) n13.symm (uZ y23);have RR2:=(((((((((R).drewN nq20).other (o:=2) n23.symm (uZ o20)).drewN nq21).other (o:=3) n23.symm (uZ o21)).drewN nq22).other (o:=4) n23.symm (uZ o22)).drewN nq23).other (o:=5) n23.symm (uZ o23)).other (o:=6) n23.symm (uZ y23);have O2:=(((((((((O).drewN nq20).set2 o20).drewN nq21).set3 o21).drewN nq22).set4 o22).drewN nq23).set5 o23).set6 y23;have BL2:Hid (Below k0 w _):=((aT ((aT ((aT ((aT BL.out nq20).setCell (p:=⟨k3,2,none⟩) Q3.out (uZ o20)) nq21).setCell (p:=⟨k3,3,none⟩) Q3.out (uZ o21)) nq22).setCell (p:=⟨k3,4,none⟩) Q3.out (uZ o22)) nq23).setCell (p:=⟨k3,5,none⟩) Q3.out (uZ o23)).setCell (p:=⟨k3,6,none⟩) Q3.out (uZ y23);generalize UH _ _ _=W3 at X2 Y2 RR2 O2 BL2⊢;clear X Y R O BL;have X:=X2;have Y:=Y2;have R:=RR2;have O:=O2;have BL:=BL2;clear X2 Y2 RR2 O2 BL2;obtain⟨xc0,xc1,xc2,xc3,xf⟩:=id X;obtain⟨yc0,yc1,yc2,yc3,yf⟩:=id Y;obtain⟨oc0,oc1,oc2,oc3,oc4,oc5,oc6,oc7,of⟩:=id O;simp only[Te]at oc7;rw[rounds_succ];go_wp2
 refine wp_loop_rounds 5 ?_;obtain⟨h30,l30,s30,k30,o30,j30,g30,y30,m30,b30,d30,v30,z30,ho30,hy30,e30⟩:=dD d p o21 0 hd hp ho21 dC;simp only[Te]at b30;rw[rounds_succ];go_wp2
 go_quiet ((go_at_call 132;exact Tx (m30 _)));revert nq;intro nq30
 go_wp2_with (first|simp only[b30]|simp only[d30])
 obtain⟨h31,l31,s31,k31,o31,j31,g31,y31,m31,b31,d31,v31,z31,ho31,hy31,e31⟩:=dD d q o22 y30 hd hq ho22 hy30;rw[rounds_succ];go_wp2
 go_quiet ((go_at_call 132;exact Tx (m31 _)));revert nq;intro nq31
 go_wp2_with (first|simp only[b31]|simp only[d31])
 obtain⟨h32,l32,s32,k32,o32,j32,g32,y32,m32,b32,d32,v32,z32,ho32,hy32,e32⟩:=dD d r o23 y31 hd hr ho23 hy31;rw[rounds_succ];go_wp2
 go_quiet ((go_at_call 132;exact Tx (m32 _)));revert nq;intro nq32
 go_wp2_with (first|simp only[b32]|simp only[d32])
 obtain⟨h33,l33,s33,k33,o33,j33,g33,y33,m33,b33,d33,v33,z33,ho33,hy33,e33⟩:=dD d s y23 y32 hd hs hy23 hy32;rw[rounds_succ];go_wp2
 go_quiet ((go_at_call 132;exact Tx (m33 _)));revert nq;intro nq33
 go_wp2_with (first|simp only[b33]|simp only[d33])
 rw[rounds_succ];go_wp2
 have R3:=oQ (n:=val o21 o22 o23 y23) (p:=o21) (q:=o22) (r:=o23) (s:=y23) (x:=d) (l0:=o30) (l1:=o31) (l2:=o32) (l3:=o33) en rfl e30 e31 e32 e33;have HR3:Hid _:=R3;clear R3;clear e30 e31 e32 e33 m30 b30 d30 v30 z30 m31 b31 d31 v31 z31 m32 b32 d32 v32 z32 m33 b33 d33 v33 z33;clear xc0 xc1 xc2 xc3 xf yc0 yc1 yc2 yc3 yf oc0 oc1 oc2 oc3 oc4 oc5 oc6 oc7 of;have X3:=(((((((((X).drewN nq30).other (o:=3) n03.symm (uZ o30)).drewN nq31).other (o:=4) n03.symm (uZ o31)).drewN nq32).other (o:=5) n03.symm (uZ o32)).drewN nq33).other (o:=6) n03.symm (uZ o33)).other (o:=7) n03.symm (uZ y33);have Y3:=(((((((((Y).drewN nq30).other (o:=3) n13.symm (uZ o30)).drewN nq31).other (o:=4) n13.symm (uZ o31)).drewN nq32).other (o:=5) n13.symm (uZ o32)).drewN nq33).other (o:=6) n13.symm (uZ o33)).other (o:=7) n13.symm (uZ y33);have RR3:=(((((((((R).drewN nq30).other (o:=3) n23.symm (uZ o30)).drewN nq31).other (o:=4) n23.symm (uZ o31)).drewN nq32).other (o:=5) n23.symm (uZ o32)).drewN nq33).other (o:=6) n23.symm (uZ o33)).other (o:=7) n23.symm (uZ y33);have O3:=(((((((((O).drewN nq30).set3 o30).drewN nq31).set4 o31).drewN nq32).set5 o32).drewN nq33).set6 o33).set7 y33;have BL3:Hid (Below k0 w _):=((aT ((aT ((aT ((aT BL.out nq30).setCell (p:=⟨k3,3,none⟩) Q3.out (uZ o30)) nq31).setCell (p:=⟨k3,4,none⟩) Q3.out (uZ o31)) nq32).setCell (p:=⟨k3,5,none⟩) Q3.out (uZ o32)) nq33).setCell (p:=⟨k3,6,none⟩) Q3.out (uZ o33)).setCell (p:=⟨k3,7,none⟩) Q3.out (uZ y33);generalize UH _ _ _=W4 at X3 Y3 RR3 O3 BL3⊢;clear X Y R O BL;have X:=X3;have Y:=Y3;have R:=RR3;have O:=O3;have BL:=BL3;clear X3 Y3 RR3 O3 BL3;obtain⟨oc0,oc1,oc2,oc3,oc4,oc5,oc6,oc7,of⟩:=id O;obtain⟨rc0,rc1,rc2,rc3,rc4,rc5,rc6,rc7,rf⟩:=id R;have z3:=O.lt;have z2:=R.lt;rw[rounds_succ];go_wp2
 have RF:=R.self8 o00 o10 o20 o30 o31 o32 o33 y33;unfold AE at RF;refine bodyPost_ret (v:=?v) ?hr rfl ?hR
 case hr=>simp[results,Tryz.results97,go_sem,RF.c0,RF.c1,RF.c2,RF.c3,RF.c4,RF.c5,RF.c6,RF.c7];rfl
 refine⟨_,rfl,?_,o00,o10,o20,o30,o31,o32,o33,y33,rfl,ho00,ho10,ho20,ho30,ho31,ho32,ho33,hy33,?_⟩
 ·rw[H0.out];exact sU BL.out Q2.out _ _ _ _ _ _ _ _
 ·rw[em];exact FI HR0.out HR1.out HR2.out HR3.out
end
section
open Go.RowKit Go.Sort
structure LessI(w wr:World)(p0 p1 p2 p3 c0 c1 c2 c3 a b c d e f g h:Nat):Prop where
 bl:Below w.heap.size w wr
 fr:At8 wr w.heap.size p0 p1 p2 p3 c0 c1 c2 c3
 wi:At8 wr (w.heap.size+1) a b c d e f g h
 re:At4 wr (w.heap.size+1+1) 0 0 0 0
 ha:a<18446744073709551616
 hb:b<18446744073709551616
 hc:c<18446744073709551616
 hd:d<18446744073709551616
 he:e<18446744073709551616
 hf:f<18446744073709551616
 hg:g<18446744073709551616
 hh:h<18446744073709551616
theorem CN{x y:Nat}(hx:x<top)(hy:y<top):x*y+top<=top*top:=by
 have h1:x*y<=(top-1)*(top-1):=T9 oM oM;have h2:(top-1)*(top-1)+top<=top*top:=by unfold top;decide
 omega
section
variable {w w0:World}{k a b c d e f g h j B:Nat}
theorem BK(H:Below B w0 w)(hj:B<=j)(x0 x1 x2 x3 x4 x5 x6 x7:Value):Below B w0 ((((((((w.setCell (aZ j) x0).setCell ⟨j,1,none⟩ x1).setCell ⟨j,2,none⟩ x2).setCell ⟨j,3,none⟩ x3).setCell ⟨j,4,none⟩ x4).setCell ⟨j,5,none⟩ x5).setCell ⟨j,6,none⟩ x6).setCell ⟨j,7,none⟩ x7):=sU H hj x0 x1 x2 x3 x4 x5 x6 x7
theorem At8.other8x(H:At8 w k a b c d e f g h)(hj:j≠k)(x0 x1 x2 x3 x4 x5 x6 x7:Value):At8 ((((((((w.setCell (aZ j) x0).setCell ⟨j,1,none⟩ x1).setCell ⟨j,2,none⟩ x2).setCell ⟨j,3,none⟩ x3).setCell ⟨j,4,none⟩ x4).setCell ⟨j,5,none⟩ x5).setCell ⟨j,6,none⟩ x6).setCell ⟨j,7,none⟩ x7) k a b c d e f g h:=H.other8 hj x0 x1 x2 x3 x4 x5 x6 x7
theorem At4.other8x(H:At4 w k a b c d)(hj:j≠k)(x0 x1 x2 x3 x4 x5 x6 x7:Value):At4 ((((((((w.setCell (aZ j) x0).setCell ⟨j,1,none⟩ x1).setCell ⟨j,2,none⟩ x2).setCell ⟨j,3,none⟩ x3).setCell ⟨j,4,none⟩ x4).setCell ⟨j,5,none⟩ x5).setCell ⟨j,6,none⟩ x6).setCell ⟨j,7,none⟩ x7) k a b c d:=H.other8 hj x0 x1 x2 x3 x4 x5 x6 x7
theorem At8.self8x(H:At8 w k a b c d e f g h)(x0 x1 x2 x3 x4 x5 x6 x7:Nat):At8 ((((((((w.setCell (aZ k) (uZ x0)).setCell ⟨k,1,none⟩ (uZ x1)).setCell ⟨k,2,none⟩ (uZ x2)).setCell ⟨k,3,none⟩ (uZ x3)).setCell ⟨k,4,none⟩ (uZ x4)).setCell ⟨k,5,none⟩ (uZ x5)).setCell ⟨k,6,none⟩ (uZ x6)).setCell ⟨k,7,none⟩ (uZ x7)) k x0 x1 x2 x3 x4 x5 x6 x7:=H.self8 x0 x1 x2 x3 x4 x5 x6 x7
end
theorem vM{w W:World}{k0 k1 k2 p0 p1 p2 p3 c0 c1 c2 c3 a b c d e f g h:Nat}(H:Kept w k0 [⟨k0,0,p0,p1,p2,p3⟩,⟨k0,4,c0,c1,c2,c3⟩,⟨k1,0,a,b,c,d⟩,⟨k1,4,e,f,g,h⟩,⟨k2,0,0,0,0,0⟩] W):W.cell? ⟨k0,4,none⟩=some (uZ c0)/\W.cell? ⟨k0,5,none⟩=some (uZ c1)/\W.cell? ⟨k0,6,none⟩=some (uZ c2)/\W.cell? ⟨k0,7,none⟩=some (uZ c3)/\W.cell? ⟨k1,0,none⟩=some (uZ a)/\W.cell? ⟨k1,1,none⟩=some (uZ b)/\W.cell? ⟨k1,2,none⟩=some (uZ c)/\W.cell? ⟨k1,3,none⟩=some (uZ d)/\W.cell? ⟨k1,4,none⟩=some (uZ e)/\W.cell? ⟨k1,5,none⟩=some (uZ f)/\W.cell? ⟨k1,6,none⟩=some (uZ g)/\W.cell? ⟨k1,7,none⟩=some (uZ h)/\Kept w k0 [⟨k0,0,p0,p1,p2,p3⟩,⟨k0,4,c0,c1,c2,c3⟩,⟨k1,0,a,b,c,d⟩,⟨k1,4,e,f,g,h⟩,⟨k2,0,0,0,0,0⟩] W:=
 ⟨H.tail.head.c0,H.tail.head.c1,H.tail.head.c2,H.tail.head.c3,H.tail.tail.head.c0,H.tail.tail.head.c1,H.tail.tail.head.c2,H.tail.tail.head.c3,H.tail.tail.tail.head.c0,H.tail.tail.tail.head.c1,H.tail.tail.tail.head.c2,H.tail.tail.tail.head.c3,H⟩
theorem or4(a b c d:Nat)(ha:a<18446744073709551616)(hb:b<18446744073709551616)(hc:c<18446744073709551616)(hd:d<18446744073709551616):
 ∃o:Nat,bits .or .u64 (bits .or .u64 (bits .or .u64 (a:Int) (b:Int)) (c:Int)) (d:Int)=(o:Int)/\(o=0↔(a=0/\b=0/\c=0/\d=0)):=by
 have lt:∀x y:Nat,x<18446744073709551616->y<18446744073709551616->x ||| y<18446744073709551616:=λx y hx hy=>Nat.or_lt_two_pow (n:=64) hx hy
 refine⟨a ||| b ||| c ||| d,?_,?_⟩
 ·rw[bits_or_u64_nat a b ha hb,bits_or_u64_nat _ c (lt _ _ ha hb) hc,bits_or_u64_nat _ d (lt _ _ (lt _ _ ha hb) hc) hd]
 ·constructor
  ·intro h;have h1:=XL (n:=a ||| b ||| c) (m:=d);have h2:=XA (n:=a ||| b ||| c) (m:=d);have h3:=XL (n:=a ||| b) (m:=c);have h4:=XA (n:=a ||| b) (m:=c);have h5:=XL (n:=a) (m:=b);have h6:=XA (n:=a) (m:=b);omega
  ·rintro⟨rfl,rfl,rfl,rfl⟩;rfl
theorem FC{lo hi cc P gk:Nat}(hP:P+cc=top)(hP2:top<2*P)(hpos:0<hi)(hg:gk=lo+top*hi):hi*cc+lo<gk/\(hi*cc+lo)%P=gk%P:=by
 have e:gk=hi*cc+lo+P*hi:=by rw[hg,<-hP,Nat.add_mul,S9 cc];omega
 rw[e,Nat.add_mul_mod_self_left];have:0<P*hi:=Nat.mul_pos oM hpos;exact⟨oM,rfl⟩
theorem rB(p0 p1 p2 p3 c0 c1 c2 c3 P:Nat)(x:Value)(m:Nat)(hp0:p0<18446744073709551616)(hp1:p1<18446744073709551616)(hp2:p2<18446744073709551616)(hp3:p3<18446744073709551616)
 (hc0:c0<18446744073709551616) (hc1:c1<18446744073709551616) (hc2:c2<18446744073709551616) (hc3:c3<18446744073709551616) (eP:P=val p0 p1 p2 p3) (hP:P+val c0 c1 c2 c3=top) (hP2:top<2*P) (hx:lO x m) (w:World) :
 Calls prog 96 #[.agg #[uZ p0,uZ p1,uZ p2,uZ p3,uZ c0,uZ c1,uZ c2,uZ c3],x] w (rZ w λe w'=>Four e (m%P)):=by
 obtain⟨a,b,c,d,e,f,g,h,rfl,ha,hb,hc,hd,he,hf,hg,hh,em⟩:=hx;go_enter Tryz.func96,Tryz.ntmps96;go_wp2;have HEP:=mk1 (eP);go_loopg [] (val a b c d+top*val e f g h) (λgk wr=>∃(a b c d e f g h:Nat),LessI w wr p0 p1 p2 p3 c0 c1 c2 c3 a b c d e f g h/\gk=val a b c d+top*val e f g h/\Hid (gk%P=m%P))
 case atStart =>
  refine⟨a,b,c,d,e,f,g,h,⟨below3 _ _ _ _,?_,?_,?_,ha,hb,hc,hd,he,hf,hg,hh⟩,rfl,?_⟩
  ·exact(((At8.made w 97 p0 p1 p2 p3 c0 c1 c2 c3 rfl).alloc _).alloc _)
  ·exact(At8.made (w.alloc _) 161 a b c d e f g h (Sq _ _)).alloc _
  ·exact At4.made ((w.alloc _).alloc _) 63 0 0 0 0 (by simp)
  ·rw[em];rfl
 case round =>
  obtain⟨a,b,c,d,e,f,g,h,hI,hgk,HE⟩:=hrel;obtain⟨bl,fr,wi,re,ha,hb,hc,hd,he,hf,hg,hh⟩:=hI;have HB:=mk1 (bl);generalize q2:w.heap.size+1+1=k2 at re⊢;generalize q1:w.heap.size+1=k1 at wi⊢;have H:Hid (w.heap.size+1=k1/\w.heap.size+1+1=k2):=⟨q1,q2⟩
  have Q1:Hid (w.heap.size<=k1):=by unfold Hid;omega
  have Q2:Hid (w.heap.size<=k2):=by unfold Hid;omega
  generalize q0:w.heap.size=k0 at fr HB Q1 Q2⊢;have H0:Hid (w.heap.size=k0):=q0;have n01:k0≠k1:=oM;have n12:k1≠k2:=oM;have z0:=fr.lt;have z1:=wi.lt;have z2:=re.lt;clear q0 q1 q2;obtain⟨o,ho,hoz⟩:=or4 e f g h he hf hg hh;obtain⟨fc0,fc1,fc2,fc3,fc4,fc5,fc6,fc7,ff⟩:=id fr;obtain⟨wc0,wc1,wc2,wc3,wc4,wc5,wc6,wc7,wf⟩:=id wi;obtain⟨rc0,rc1,rc2,rc3,rf⟩:=id re;by_cases hz:o=0
  ·obtain⟨rfl,rfl,rfl,rfl⟩:=hoz.1 hz;have hlow:gk=val a b c d:=by rw[hgk];rfl
   have HE2:Hid (val a b c d%P=m%P):=by unfold Hid;rw[<-hlow];exact HE.out
   clear hgk HE hoz hlow;subst hz;go_wp2;have N:=At4.made wr 63 a b c d rfl;have M0:k0≠wr.heap.size:=TJ z0;have M2:k2≠wr.heap.size:=TJ z2;have M5:Hid (k0<=wr.heap.size):=Uw z0;have HB0:Hid (Below k0 w _):=HB.alloc (Uw z0) (.cells #[uZ a,uZ b,uZ c,uZ d] 63);replace fr:=fr.alloc (.cells #[uZ a,uZ b,uZ c,uZ d] 63);replace re:=re.alloc (.cells #[uZ a,uZ b,uZ c,uZ d] 63);clear wi fc0 fc1 fc2 fc3 fc4 fc5 fc6 fc7 ff wc0 wc1 wc2 wc3 wc4 wc5 wc6 wc7 wf rc0 rc1 rc2 rc3 rf z0 z1 z2 HB ho;generalize TI _ _=W0 at N fr re HB0⊢;generalize wr.heap.size=k5 at N M0 M2 M5⊢;have hB4:Hid (a<18446744073709551616/\b<18446744073709551616/\c<18446744073709551616/\d<18446744073709551616):=⟨ha,hb,hc,hd⟩
   have HPP:Hid (0<P):=by unfold Hid;have:=hP2;omega
   clear ha hb hc hd hP hP2;have KP:Kept w k0 [⟨k5,0,a,b,c,d⟩,⟨k0,0,p0,p1,p2,p3⟩,⟨k2,0,0,0,0,0⟩] W0:=
    (((Kept.mk1 HB0.out (Uw fr.lt)).cons re.blk).cons (x:=⟨k0,0,p0,p1,p2,p3⟩) ⟨fr.c0,fr.c1,fr.c2,fr.c3,fr.fz⟩).cons N.blk
   clear fr re N HB0;go_loopg [] (val a b c d) (λgk2 wr2=>∃(a b c d:Nat),gk2=val a b c d/\Kept w k0 [⟨k5,0,a,b,c,d⟩,⟨k0,0,p0,p1,p2,p3⟩,⟨k2,0,0,0,0,0⟩] wr2/\Hid (a<18446744073709551616/\b<18446744073709551616/\c<18446744073709551616/\d<18446744073709551616)/\Hid (val a b c d%P=m%P))
   case atStart=>exact⟨a,b,c,d,rfl,KP,hB4,HE2⟩
   case round =>
    clear KP hB4 HE2;obtain⟨a,b,c,d,hgk2,KP,hB4,HE2⟩:=hrel;obtain⟨xc0,xc1,xc2,xc3,xf⟩:=KP.head.at4;obtain⟨pc0,pc1,pc2,pc3,pf⟩:=KP.tail.head.at4;have z5:=KP.head.lt;have z0:=KP.tail.head.lt;go_wp2_with fail
    refine(mW _ _ _ _ (Four.mk hB4.1 hB4.2.1 hB4.2.2.1 hB4.2.2.2 rfl) (Four.mk hp0 hp1 hp2 hp3 rfl) _).mono ?_;rintro r w2 ⟨v,rfl,hb2,v2,t2,j,rfl,⟨a2,b2,c2,d2,rfl,ha2,hb2',hc2,hd2,es2⟩,hj,he2⟩;clear xc0 xc1 xc2 xc3 xf pc0 pc1 pc2 pc3 pf z5 z0;replace KP:=KP.call hb2;clear hb2;have HE3:Hid (val a2 b2 c2 d2+P=val a b c d+top*j):=by unfold Hid;rw[<-es2,HEP.out];exact he2
    clear he2 es2;have hj':j=0\/j=1:=oM;rcases hj' with rfl|rfl
    ·obtain⟨xc0,xc1,xc2,xc3,xf⟩:=KP.head.at4;have z5:=KP.head.lt;go_wp2;go_roundg (val a2 b2 c2 d2)
     case measure=>have:=HE3.out;have:=HPP.out;omega
     case rel =>
      refine⟨a2,b2,c2,d2,rfl,?_,⟨ha2,hb2',hc2,hd2⟩,?_⟩
      ·exact(KP.put M5.out (by simp only[List.mem_cons,SL,or_false];rintro x (rfl|rfl);exact M0.symm;exact M2.symm) a2 b2 c2 d2).alloc _
      ·unfold Hid;rw[<-HE2.out,show val a b c d=val a2 b2 c2 d2+P by have:=HE3.out;omega,Nat.add_mod_right]
    ·obtain⟨xc0,xc1,xc2,xc3,xf⟩:=KP.head.at4;obtain⟨rc0,rc1,rc2,rc3,rf⟩:=KP.tail.tail.head.at4;have z5:=KP.head.lt;have z3:=KP.tail.tail.head.lt;go_wp2;have RF:=(KP.tail.tail.head.at4.self4 a b c d).alloc (.cells #[uZ a2,uZ b2,uZ c2,uZ d2] 63);unfold set4 at RF;refine bodyPost_ret (v:=?v) ?hr rfl ?hR
     case hr=>simp[results,Tryz.results96,go_sem,RF.c0,RF.c1,RF.c2,RF.c3];rfl
     refine⟨_,rfl,?_,Four.mk hB4.1 hB4.2.1 hB4.2.2.1 hB4.2.2.2 ?_⟩
     ·rw[H0.out];exact(aF KP.bl Q2.out _ _ _ _).alloc (by rw[E8];exact KP.le) _
     ·rw[<-HE2.out,SA (by have:=HE3.out;have:=iF ha2 hb2' hc2 hd2;omega)]
  ·have hpos:0<val e f g h:=by
    rcases YK (val e f g h)with h0|h0
    ·exact absurd (hoz.2 (by unfold val at h0;omega)) hz
    ·exact h0
   have HL:Hid (_/\_):=FC hP hP2 hpos hgk;clear hoz hgk hpos;go_wp2;have KP:Kept w k0 [⟨k0,0,p0,p1,p2,p3⟩,⟨k0,4,c0,c1,c2,c3⟩,⟨k1,0,a,b,c,d⟩,⟨k1,4,e,f,g,h⟩,⟨k2,0,0,0,0,0⟩] wr:=
    (((((Kept.mk1 HB.out (Uw z0)).cons re.blk).cons (x:=⟨k1,4,e,f,g,h⟩) ⟨wi.c4,wi.c5,wi.c6,wi.c7,wi.fz⟩).cons (x:=⟨k1,0,a,b,c,d⟩) ⟨wi.c0,wi.c1,wi.c2,wi.c3,wi.fz⟩).cons (x:=⟨k0,4,c0,c1,c2,c3⟩) ⟨fr.c4,fr.c5,fr.c6,fr.c7,fr.fz⟩).cons (x:=⟨k0,0,p0,p1,p2,p3⟩) ⟨fr.c0,fr.c1,fr.c2,fr.c3,fr.fz⟩
   clear HEP rc0 rc1 rc2 rc3 rf fc0 fc1 fc2 fc3 fr wi re HB;refine anyTill.begin (λw'=>w'.cell? ⟨k0,4,none⟩=some (uZ c0)/\w'.cell? ⟨k0,5,none⟩=some (uZ c1)/\w'.cell? ⟨k0,6,none⟩=some (uZ c2)/\w'.cell? ⟨k0,7,none⟩=some (uZ c3)/\w'.cell? ⟨k1,0,none⟩=some (uZ a)/\w'.cell? ⟨k1,1,none⟩=some (uZ b)/\w'.cell? ⟨k1,2,none⟩=some (uZ c)/\w'.cell? ⟨k1,3,none⟩=some (uZ d)/\w'.cell? ⟨k1,4,none⟩=some (uZ e)/\w'.cell? ⟨k1,5,none⟩=some (uZ f)/\w'.cell? ⟨k1,6,none⟩=some (uZ g)/\w'.cell? ⟨k1,7,none⟩=some (uZ h)/\Kept w k0 [⟨k0,0,p0,p1,p2,p3⟩,⟨k0,4,c0,c1,c2,c3⟩,⟨k1,0,a,b,c,d⟩,⟨k1,4,e,f,g,h⟩,⟨k2,0,0,0,0,0⟩] w') 22 mixed (vM KP.drew) (λhS=>?_);refine anyTill.tk (i:=0) (v:=?_) rfl (SY ⟨by rfl,?_⟩) hS ?_
   rotate_left
   ·intro w hSw
    (try dsimp only at hSw)
    go_simp;try(with_reducible rfl)
   simp only[Tt,Sw];refine anyTill.tk (i:=1) (v:=?_) rfl (SY ⟨by rfl,?_⟩) hS ?_
   rotate_left
   ·intro w hSw
    (try dsimp only at hSw)
    go_simp;try(with_reducible rfl)
   simp only[Tt];refine anyTill.tk (i:=2) (v:=?_) rfl (SY ⟨by rfl,?_⟩) hS ?_
   rotate_left
   ·intro w hSw
    (try dsimp only at hSw)
    go_simp;try(with_reducible rfl)
   simp only[Tt];refine anyTill.tk (i:=3) (v:=?_) rfl (SY ⟨by rfl,?_⟩) hS ?_
   rotate_left
   ·intro w hSw
    (try dsimp only at hSw)
    go_simp;try(with_reducible rfl)
   simp only[Tt];refine anyTill.tk (i:=4) (v:=?_) rfl (SY ⟨by rfl,?_⟩) hS ?_
   rotate_left
   ·intro w hSw
    (try dsimp only at hSw)
    go_simp;try(with_reducible rfl)
   simp only[Tt];refine anyTill.tk (i:=5) (v:=?_) rfl (SY ⟨by rfl,?_⟩) hS ?_
   rotate_left
   ·intro w hSw
    (try dsimp only at hSw)
    go_simp;try(with_reducible rfl)
   simp only[Tt];refine anyTill.tk (i:=6) (v:=?_) rfl (SY ⟨by rfl,?_⟩) hS ?_
   rotate_left
   ·intro w hSw
    (try dsimp only at hSw)
    go_simp;try(with_reducible rfl)
   simp only[Tt];refine anyTill.tk (i:=7) (v:=?_) rfl (SY ⟨by rfl,?_⟩) hS ?_
   rotate_left
   ·intro w hSw
    (try dsimp only at hSw)
    go_simp;try(with_reducible rfl)
   simp only[Tt];refine anyTill.tk (i:=8) (v:=?_) rfl (SY ⟨by rfl,?_⟩) hS ?_
   rotate_left
   ·intro w hSw
    (try dsimp only at hSw)
    go_simp;try(with_reducible rfl)
   simp only[Tt];refine anyTill.tk (i:=9) (v:=?_) rfl (SY ⟨by rfl,?_⟩) hS ?_
   rotate_left
   ·intro w hSw
    (try dsimp only at hSw)
    go_simp;try(with_reducible rfl)
   simp only[Tt];refine anyTill.tk (i:=10) (v:=?_) rfl (SY ⟨by rfl,?_⟩) hS ?_
   rotate_left
   ·intro w hSw
    (try dsimp only at hSw)
    go_simp;try(with_reducible rfl)
   simp only[Tt];refine anyTill.tk (i:=12) (v:=?_) rfl (SY ⟨by rfl,?_⟩) hS ?_
   rotate_left
   ·intro w hSw
    (try dsimp only at hSw)
    go_simp;try(with_reducible rfl)
   simp only[Tt];refine anyTill.tk (i:=13) (v:=?_) rfl (SY ⟨by rfl,?_⟩) hS ?_
   rotate_left
   ·intro w hSw
    (try dsimp only at hSw)
    go_simp;try(with_reducible rfl)
   simp only[Tt];refine anyTill.tk (i:=14) (v:=?_) rfl (SY ⟨by rfl,?_⟩) hS ?_
   rotate_left
   ·intro w hSw
    (try dsimp only at hSw)
    go_simp;try(with_reducible rfl)
   simp only[Tt];refine anyTill.tk (i:=15) (v:=?_) rfl (SY ⟨by rfl,?_⟩) hS ?_
   rotate_left
   ·intro w hSw
    (try dsimp only at hSw)
    go_simp;try(with_reducible rfl)
   simp only[Tt];refine anyTill.tk (i:=16) (v:=?_) rfl (SY ⟨by rfl,?_⟩) hS ?_
   rotate_left
   ·intro w hSw
    (try dsimp only at hSw)
    go_simp;try(with_reducible rfl)
   simp only[Tt];refine anyTill.tk (i:=17) (v:=?_) rfl (SY ⟨by rfl,?_⟩) hS ?_
   rotate_left
   ·intro w hSw
    (try dsimp only at hSw)
    go_simp;try(with_reducible rfl)
   simp only[Tt];refine anyTill.tk (i:=18) (v:=?_) rfl (SY ⟨by rfl,?_⟩) hS ?_
   rotate_left
   ·intro w hSw
    (try dsimp only at hSw)
    go_simp;try(with_reducible rfl)
   simp only[Tt];refine anyTill.tk (i:=19) (v:=?_) rfl (SY ⟨by rfl,?_⟩) hS ?_
   rotate_left
   ·intro w hSw
    (try dsimp only at hSw)
    go_simp;try(with_reducible rfl)
   simp only[Tt];refine anyTill.tk (i:=20) (v:=?_) rfl (SY ⟨by rfl,?_⟩) hS ?_
   rotate_left
   ·intro w hSw
    (try dsimp only at hSw)
    go_simp;try(with_reducible rfl)
   simp only[Tt];refine anyTill.step (i:=11) rfl kR (λK hK=>?_);go_simp;refine(kS _ _ _ _ (Four.mk he hf hg hh rfl) (Four.mk hc0 hc1 hc2 hc3 rfl) _).mono ?_;rintro r w1 ⟨v,rfl,hb1,hE1⟩;obtain⟨x0,x1,x2,x3,x4,x5,x6,x7,rfl,hx0,hx1,hx2,hx3,hx4,hx5,hx6,hx7,hxe⟩:=id hE1;clear hxe hS;have KP1:=KP.drew.call hb1;clear hb1 KP;refine hK.out _ _ (λ_=>vM KP1) ?_;clear hK K;try simp only[Tt,Sw,SQ,SN]
   refine anyTill.step (i:=21) rfl kR (λK hK=>?_);go_simp;refine(qW _ _ _ _ hE1 ⟨a,b,c,d,0,0,0,0,rfl,ha,hb,hc,hd,dC,dC,dC,dC,rfl⟩ (by have h1:=CN (iF he hf hg hh) (iF hc0 hc1 hc2 hc3);have h2:=iF ha hb hc hd;have e0:val 0 0 0 0=0:=rfl;rw[e0,V8,Ur];omega) _).mono ?_;rintro r w2 ⟨v,rfl,hb2,hE2⟩;obtain⟨y0,y1,y2,y3,y4,y5,y6,y7,rfl,hy0,hy1,hy2,hy3,hy4,hy5,hy6,hy7,hye⟩:=id hE2;rw[show val 0 0 0 0=0 from rfl,V8,Ur]at hye;have HY:Hid (_=_):=hye;clear hye hE1 hE2;have KP2:=KP1.call hb2;clear hb2 KP1;refine hK.out _ _ (λ_=>vM KP2) ?_;clear hK K;try simp only[Tt,Sw,SQ,SN]
   have fr:At8 w2 k0 p0 p1 p2 p3 c0 c1 c2 c3:=⟨KP2.head.c0,KP2.head.c1,KP2.head.c2,KP2.head.c3,KP2.tail.head.c0,KP2.tail.head.c1,KP2.tail.head.c2,KP2.tail.head.c3,KP2.head.f⟩
   have wi:At8 w2 k1 a b c d e f g h:=⟨KP2.tail.tail.head.c0,KP2.tail.tail.head.c1,KP2.tail.tail.head.c2,KP2.tail.tail.head.c3,KP2.tail.tail.tail.head.c0,KP2.tail.tail.tail.head.c1,KP2.tail.tail.tail.head.c2,KP2.tail.tail.tail.head.c3,KP2.tail.tail.head.f⟩
   have re:At4 w2 k2 0 0 0 0:=KP2.tail.tail.tail.tail.head.at4;have HB:Hid (Below k0 w w2):=KP2.bl;clear KP2 wc0 wc1 wc2 wc3 wc4 wc5 wc6 wc7 wf z0 z1 z2;obtain⟨wc0,wc1,wc2,wc3,wc4,wc5,wc6,wc7,wf⟩:=id wi;have z1:=wi.lt;refine anyTill.step (i:=22) rfl kR (λK hK=>?_);go_simp;refine hK.out _ _ (λh=>Bool.noConfusion h) ?_;clear hK K;try simp only[Tt,Sw,SQ,SN]
   refine anyTill.done kR ?_ _;obtain⟨q1,q2⟩:=H.out;have q0:=H0.out;subst q1 q2 q0;go_wp2;go_roundg (val y0 y1 y2 y3+top*val y4 y5 y6 y7)
   case measure=>rw[<-HY.out];exact HL.1
   case rel =>
    refine⟨y0,y1,y2,y3,y4,y5,y6,y7,⟨?_,?_,?_,?_,hy0,hy1,hy2,hy3,hy4,hy5,hy6,hy7⟩,rfl,?_⟩
    ·exact BK HB.out Q1.out _ _ _ _ _ _ _ _
    ·exact At8.other8x fr n01.symm _ _ _ _ _ _ _ _
    ·exact At8.self8x wi y0 y1 y2 y3 y4 y5 y6 y7
    ·exact At4.other8x re n12 _ _ _ _ _ _ _ _
    ·unfold Hid;rw[<-HY.out,<-HE.out];exact HL.2
end
end Go.Proofs.YtnakcnljhmlikaaGreat
