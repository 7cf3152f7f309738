import Derived.Deep.LoopGhost
import Derived.Deep.RegionHeld3
import Derived.Deep.CutRange
import Derived.Deep.DeepCutAuto
import Derived.Laws.MakeOwn
import Derived.ChangeKeysEq
import Derived.Deep.AppendSrc
import Derived.Lib.AppendZeros
import Derived.LoopN
import Derived.Deep.RegionWith
import Derived.Test.YtfcnimopdjjhcaaGreatsb2
set_option linter.unusedVariables false
set_option linter.constructorNameAsVariable false
set_option linter.unusedSimpArgs false
set_option maxRecDepth 1000000
set_option maxHeartbeats 4000000
namespace Go.Proofs.YtfcnimopdjjhcaaGreat
open _root_.Array renaming getElem?_append_left->TR,getElem?_eq_getElem->Qo,getElem?_toList->QE,length_toList->P8,replicate->PX,size_append->QF,size_extract->QQ,toArray_toList->Sz
open _root_.Classical renaming byContradiction->Rc
open _root_.Fin renaming ofNat->SA
open _root_.Go.Addr renaming add_mid->VZ
open _root_.Go.Builtin renaming append_->QS
open _root_.Go.Calls renaming quiet_of_same->QP
open _root_.Go.Exit renaming inBlock->So
open _root_.Go.Instr renaming alloc->VY,indexAt->QV,makeSlice->Rm
open _root_.Go.IntWalk renaming i64_in->QG,i8_in->Vp
open _root_.Go.Lib renaming wpList_append_run->QC
open _root_.Go.Op renaming eqItems->WQ,unary->Xw
open _root_.Go.Value renaming int->QT
open _root_.Go.World renaming alloc->QN,cell?_alloc_new->Qj,setCell->Rb,size_alloc->Qa
open _root_.Int renaming add_mul->XK,add_zero->Vk,mul_assoc->VF,mul_comm->U4,natCast_mul->RS,natCast_zero->Qz,neg_neg->XI,pow_succ->XD,toNat_natCast->Uh,zero_mul->U3
open _root_.List renaming ext_getElem?->U9,forall_mem_cons->VW,getElem?_eq_none->RY,getElem?_eq_some_iff->Qe,getElem?_map->QX,getElem?_toArray->Tw,length_map->Qb,mem_cons_of_mem->Qv,mem_cons_self->Qy,mem_range->Rh,not_mem_nil->P4,range->QJ,size_toArray->QB
open _root_.Nat renaming add_zero->RD,div_div_eq_div_mul->SO,div_eq_of_lt->Tq,le_refl->PQ,le_trans->Qn,lt_of_lt_of_le->PS,lt_succ_self->Su,mod_eq_of_lt->Qf,mul_add->Sw,mul_comm->Qr,mul_le_mul->RJ,mul_le_mul_left->TS,mul_one->Se,mul_succ->Tv,ne_of_gt->QW,pos_of_neZero->Vg,pow_le_pow_right->Sb,sub_self->TK,zero_add->PU
open _root_.Option renaming isSome_iff_exists->Qx,map_eq_some_iff->PV
open _root_.Prod renaming mk->Rz
open _root_.UInt8 renaming ofNat->P9
open Go.Proofs.Tryz (prog)
section
open Go.RowKit Go.Sort
variable {P:Nat}[NeZero P]{N:Nat}
theorem pH(C:Fld P)(x y z:Fin P)(hz:z=0):Gives 127 #[(rv x y z)] (.bool true):=by
 intro w;go_enter Tryz.func127,Tryz.ntmps127;refine RG.M.enter [(0,(.v (rv x y z)))] 7 (by kernel_rfl) ?_;intro a0 M0;repeat refine wp_seq ?_
 refine M0.t [.m 1 [] 0,.x 2 [] (.bool false)] [(0,(ws x++(ws y++(ws z))))] [] [(ws x++(ws y++(ws z)))] [(1,(.p 0 0)),(2,(.v (.bool false)))] ⟨RG.mk 0 143,RG.st,trivial⟩ ?_;intro j1 a1 w1 M1;repeat refine wp_seq ?_
 refine M1.u [.s 3 [] (.p 0 8),.x 4 [(3,0)] (fv z),.x 5 [] (fv (0:Fin P)),.x 6 [(4,1),(5,2)] (.bool true),.x 2 [(6,3)] (.bool true)] [(2,(.v (.bool true)))] ⟨RG.st,RG.ld aO aL,RG.se (iS (P:=P)),RG.aG rfl .eql 141 141 4 5 (fv z) (fv (0:Fin P)) (.bool true) rfl rfl RG.sx RG.sx (fun w=>by kernel_rfl) (Df C hz),RG.st,trivial⟩ ?_;intro a2 w2 M2;refine wp_ret ?_;refine bodyPost_ret (v:=(.bool true)) (RG.bM 2 rfl _ (M2.at (s:=(.v (.bool true))))) M2.sl.defers ?_;exact⟨_,rfl,M2.st.bel.below,rfl⟩
theorem pI(C:Fld P)(x y z:Fin P)(hz:¬z=0):Gives 127 #[(rv x y z)] (.bool false):=by
 intro w;go_enter Tryz.func127,Tryz.ntmps127;refine RG.M.enter [(0,(.v (rv x y z)))] 7 (by kernel_rfl) ?_;intro a0 M0;repeat refine wp_seq ?_
 refine M0.t [.m 1 [] 0,.x 2 [] (.bool false)] [(0,(ws x++(ws y++(ws z))))] [] [(ws x++(ws y++(ws z)))] [(1,(.p 0 0)),(2,(.v (.bool false)))] ⟨RG.mk 0 143,RG.st,trivial⟩ ?_;intro j1 a1 w1 M1;repeat refine wp_seq ?_
 refine M1.u [.s 3 [] (.p 0 8),.x 4 [(3,0)] (fv z),.x 5 [] (fv (0:Fin P)),.x 6 [(4,1),(5,2)] (.bool false),.x 2 [(6,3)] (.bool false)] [(2,(.v (.bool false)))] ⟨RG.st,RG.ld aO aL,RG.se (iS (P:=P)),RG.aG rfl .eql 141 141 4 5 (fv z) (fv (0:Fin P)) (.bool false) rfl rfl RG.sx RG.sx (fun w=>by kernel_rfl) (G0 C hz),RG.st,trivial⟩ ?_;intro a2 w2 M2;refine wp_ret ?_;refine bodyPost_ret (v:=(.bool false)) (RG.bM 2 rfl _ (M2.at (s:=(.v (.bool false))))) M2.sl.defers ?_;exact⟨_,rfl,M2.st.bel.below,rfl⟩
theorem D9(C:Fld P)(x y:Fin P)(hz:x=0/\y=0):Gives 122 #[(pv x y)] (rv (0:Fin P) 0 0):=by
 intro w;have hfin:((rv (0:Fin P) (0:Fin P) (0:Fin P)):Value)=(rv (0:Fin P) 0 0):=by
  subst_vars;rfl
 rw[<-hfin];go_enter Tryz.func122,Tryz.ntmps122;refine RG.M.enter [(0,(.v (pv x y)))] 16 (by kernel_rfl) ?_;intro a0 M0;repeat refine wp_seq ?_
 refine M0.t [.m 1 [] 0,.m 2 [] 1] [(0,(ws x++(ws y))),(1,(RG.z 12))] [] [(ws x++(ws y)),(RG.z 12)] [(1,(.p 0 0)),(2,(.p 1 0))] ⟨RG.mk 0 43,RG.mk 1 143,trivial⟩ ?_;intro j1 i1 a1 w1 M1;repeat refine wp_seq ?_
 refine M1.u [.x 3 [] (pv x y),.x 4 [] (pv (0:Fin P) (0:Fin P)),.x 5 [(3,0),(4,1)] (.bool true)] [(2,(.p 1 0)),(5,(.v (.bool true)))] ⟨RG.ld gP i109,RG.se (eK (P:=P)),RG.aG rfl .eql 43 43 3 4 (pv x y) (pv (0:Fin P) (0:Fin P)) (.bool true) rfl rfl RG.sx RG.sx (fun w=>by kernel_rfl) (GZ C hz),trivial⟩ ?_;intro a2 w2 M2;repeat refine wp_seq ?_
 refine wp_cond_true M2.ev ?_;repeat refine wp_seq ?_
 refine M2.t [.x 6 [] (rv (0:Fin P) (0:Fin P) (0:Fin P)),.u [(6,0)] 1] [] [(1,1,(ws (0:Fin P)++(ws (0:Fin P)++(ws (0:Fin P)))))] [(ws x++(ws y)),(ws (0:Fin P)++(ws (0:Fin P)++(ws (0:Fin P))))] [(2,(.p 1 0))] ⟨RG.se (pY (P:=P)),RG.pt i117,trivial⟩ ?_;intro a3 w3 M3;refine wp_ret ?_;refine bodyPost_ret (v:=(rv (0:Fin P) (0:Fin P) (0:Fin P))) (RG.aC M3.st 2 143 rfl 1 _ rfl (M3.at (s:=(.p 1 0))) fA i117) M3.sl.defers ?_;exact⟨_,rfl,M3.st.bel.below,rfl⟩
theorem Ea(C:Fld P)(x y:Fin P)(hz:¬(x=0/\y=0)):Gives 122 #[(pv x y)] (rv x y 1):=by
 intro w;have hfin:((rv x y (1:Fin P)):Value)=(rv x y 1):=by
  subst_vars;rfl
 rw[<-hfin];go_enter Tryz.func122,Tryz.ntmps122;refine RG.M.enter [(0,(.v (pv x y)))] 16 (by kernel_rfl) ?_;intro a0 M0;repeat refine wp_seq ?_
 refine M0.t [.m 1 [] 0,.m 2 [] 1] [(0,(ws x++(ws y))),(1,(RG.z 12))] [] [(ws x++(ws y)),(RG.z 12)] [(1,(.p 0 0)),(2,(.p 1 0))] ⟨RG.mk 0 43,RG.mk 1 143,trivial⟩ ?_;intro j1 i1 a1 w1 M1;repeat refine wp_seq ?_
 refine M1.u [.x 3 [] (pv x y),.x 4 [] (pv (0:Fin P) (0:Fin P)),.x 5 [(3,0),(4,1)] (.bool false)] [(1,(.p 0 0)),(2,(.p 1 0)),(5,(.v (.bool false)))] ⟨RG.ld gP i109,RG.se (eK (P:=P)),RG.aG rfl .eql 43 43 3 4 (pv x y) (pv (0:Fin P) (0:Fin P)) (.bool false) rfl rfl RG.sx RG.sx (fun w=>by kernel_rfl) (Bu C hz),trivial⟩ ?_;intro a2 w2 M2;repeat refine wp_seq ?_
 refine wp_cond_false M2.ev ?_;refine wp_skip ?_;repeat refine wp_seq ?_
 refine M2.d [.s 7 [] (.p 0 0),.x 8 [(7,0)] (fv x),.c 9 [(8,1)] (fv x),.s 10 [] (.p 0 4),.x 11 [(10,3)] (fv y),.c 12 [(11,4)] (fv y),.x 13 [] (fv (1:Fin P)),.c 14 [(13,6)] (fv (1:Fin P)),.x 15 [(9,2),(12,5),(14,7)] (rv x y (1:Fin P)),.u [(15,8)] 1] [] [(1,9,(ws x++(ws y++(ws (1:Fin P)))))] [(ws x++(ws y)),(ws x++(ws y++(ws (1:Fin P))))] [(2,(.p 1 0))] ⟨RG.st,RG.ld u85 i85,RG.cl (qK C x),RG.st,RG.ld u85 i85,RG.cl (qK C y),RG.se (wF C),RG.cl (qK C (1:Fin P)),RG.st,RG.pt i117,trivial⟩ ?_;intro a3 w3 M3;refine wp_ret ?_;refine bodyPost_ret (v:=(rv x y (1:Fin P))) (RG.aC M3.st 2 143 rfl 1 _ rfl (M3.at (s:=(.p 1 0))) fA i117) M3.sl.defers ?_;exact⟨_,rfl,M3.st.bel.below,rfl⟩
theorem En(C:Fld P)(x1 y1 z1 x2 y2 z2:Fin P)(R:Value)(ha:z1=0->R=rv x2 y2 z2)(hb:¬z1=0->z2=0->R=rv x1 y1 z1)(hc:¬z1=0->¬z2=0->EC.cC x1 z2=EC.cC x2 z1/\EC.dA y1 z2=EC.dA y2 z1->R=rv (EC.twX x1 y1) (EC.twY x1 y1) (EC.twZ y1 z1))(hd:¬z1=0->¬z2=0->¬(EC.cC x1 z2=EC.cC x2 z1/\EC.dA y1 z2=EC.dA y2 z1)->R=rv (EC.plX (EC.cC x1 z2) (EC.dA y1 z2) (EC.cC x2 z1) (EC.dA y2 z1)) (EC.plY (EC.cC x1 z2) (EC.dA y1 z2) (EC.cC x2 z1) (EC.dA y2 z1)) (EC.plZ z1 z2 (EC.cC x1 z2) (EC.cC x2 z1))):Gives 81 #[(rv x1 y1 z1),(rv x2 y2 z2)] R:=by
 intro w;obtain⟨c1,hc1⟩:∃c,c=z1*z1:=⟨_,rfl⟩
 obtain⟨c2,hc2⟩:∃c,c=z2*z2:=⟨_,rfl⟩
 obtain⟨c3,hc3⟩:∃c,c=x1*c2:=⟨_,rfl⟩
 obtain⟨c4,hc4⟩:∃c,c=x2*c1:=⟨_,rfl⟩
 obtain⟨c5,hc5⟩:∃c,c=y1*c2:=⟨_,rfl⟩
 obtain⟨c6,hc6⟩:∃c,c=c5*z2:=⟨_,rfl⟩
 obtain⟨c7,hc7⟩:∃c,c=y2*c1:=⟨_,rfl⟩
 obtain⟨c8,hc8⟩:∃c,c=c7*z1:=⟨_,rfl⟩
 go_enter Tryz.func81,Tryz.ntmps81;refine RG.M.enter [(0,(.v (rv x1 y1 z1))),(1,(.v (rv x2 y2 z2)))] 108 (by kernel_rfl) ?_;intro a0 M0;repeat refine wp_seq ?_
 refine M0.t [.m 2 [] 0,.m 3 [] 1,.m 4 [] 2] [(0,(ws x1++(ws y1++(ws z1)))),(1,(ws x2++(ws y2++(ws z2)))),(2,(RG.z 12))] [] [(ws x1++(ws y1++(ws z1))),(ws x2++(ws y2++(ws z2))),(RG.z 12)] [(2,(.p 0 0)),(3,(.p 1 0)),(4,(.p 2 0))] ⟨RG.mk 0 143,RG.mk 1 143,RG.mk 2 143,trivial⟩ ?_;intro j1 i1 m1 a1 w1 M1;repeat refine wp_seq ?_
 by_cases hz1:z1=0
 ·obtain rfl:=ha hz1;refine M1.u [.x 18 [] (rv x1 y1 z1),.c 19 [(18,0)] (.bool true)] [(3,(.p 1 0)),(4,(.p 2 0)),(19,(.v (.bool true)))] ⟨RG.ld fA i117,RG.cl (pH C x1 y1 z1 hz1),trivial⟩ ?_;intro a2 w2 M2;repeat refine wp_seq ?_
  refine wp_cond_true M2.ev ?_;repeat refine wp_seq ?_
  refine M2.t [.x 20 [] (rv x2 y2 z2),.u [(20,0)] 2] [] [(2,1,(ws x2++(ws y2++(ws z2))))] [(ws x1++(ws y1++(ws z1))),(ws x2++(ws y2++(ws z2))),(ws x2++(ws y2++(ws z2)))] [(4,(.p 2 0))] ⟨RG.ld fA i117,RG.pt i117,trivial⟩ ?_;intro a3 w3 M3;refine wp_ret ?_;refine bodyPost_ret (v:=(rv x2 y2 z2)) (RG.aC M3.st 4 143 rfl 2 _ rfl (M3.at (s:=(.p 2 0))) fA i117) M3.sl.defers ?_;exact⟨_,rfl,M3.st.bel.below,rfl⟩
 refine M1.u [.x 18 [] (rv x1 y1 z1),.c 19 [(18,0)] (.bool false)] [(2,(.p 0 0)),(3,(.p 1 0)),(4,(.p 2 0)),(19,(.v (.bool false)))] ⟨RG.ld fA i117,RG.cl (pI C x1 y1 z1 hz1),trivial⟩ ?_;intro a2 w2 M2;repeat refine wp_seq ?_
 refine wp_cond_false M2.ev ?_;refine wp_skip ?_;repeat refine wp_seq ?_
 by_cases hz2:z2=0
 ·obtain rfl:=hb hz1 hz2;refine M2.u [.x 21 [] (rv x2 y2 z2),.c 22 [(21,0)] (.bool true)] [(2,(.p 0 0)),(4,(.p 2 0)),(22,(.v (.bool true)))] ⟨RG.ld fA i117,RG.cl (pH C x2 y2 z2 hz2),trivial⟩ ?_;intro a3 w3 M3;repeat refine wp_seq ?_
  refine wp_cond_true M3.ev ?_;repeat refine wp_seq ?_
  refine M3.t [.x 23 [] (rv x1 y1 z1),.u [(23,0)] 2] [] [(2,1,(ws x1++(ws y1++(ws z1))))] [(ws x1++(ws y1++(ws z1))),(ws x2++(ws y2++(ws z2))),(ws x1++(ws y1++(ws z1)))] [(4,(.p 2 0))] ⟨RG.ld fA i117,RG.pt i117,trivial⟩ ?_;intro a4 w4 M4;refine wp_ret ?_;refine bodyPost_ret (v:=(rv x1 y1 z1)) (RG.aC M4.st 4 143 rfl 2 _ rfl (M4.at (s:=(.p 2 0))) fA i117) M4.sl.defers ?_;exact⟨_,rfl,M4.st.bel.below,rfl⟩
 refine M2.u [.x 21 [] (rv x2 y2 z2),.c 22 [(21,0)] (.bool false)] [(2,(.p 0 0)),(3,(.p 1 0)),(4,(.p 2 0)),(22,(.v (.bool false)))] ⟨RG.ld fA i117,RG.cl (pI C x2 y2 z2 hz2),trivial⟩ ?_;intro a3 w3 M3;repeat refine wp_seq ?_
 refine wp_cond_false M3.ev ?_;refine wp_skip ?_;repeat refine wp_seq ?_
 refine M3.d [.s 24 [] (.p 0 8),.x 25 [(24,0)] (fv z1),.s 26 [] (.p 0 8),.x 27 [(26,2)] (fv z1),.c 28 [(25,1),(27,3)] (fv c1),.s 29 [] (.p 1 8),.x 30 [(29,5)] (fv z2),.s 31 [] (.p 1 8),.x 32 [(31,7)] (fv z2),.c 33 [(30,6),(32,8)] (fv c2),.m 5 [] 3,.m 6 [] 4,.u [(5,10),(28,4)] 3,.u [(6,11),(33,9)] 4] [(10,(RG.z 4)),(11,(RG.z 4))] [(3,12,(ws c1)),(4,13,(ws c2))] [(ws x1++(ws y1++(ws z1))),(ws x2++(ws y2++(ws z2))),(RG.z 12),(ws c1),(ws c2)] [(2,(.p 0 0)),(3,(.p 1 0)),(4,(.p 2 0)),(5,(.p 3 0)),(6,(.p 4 0))] ⟨RG.st,RG.ld aO aL,RG.st,RG.ld aO aL,RG.cl ((aU C z1 z1).e hc1),RG.st,RG.ld aO aL,RG.st,RG.ld aO aL,RG.cl ((aU C z2 z2).e hc2),RG.mk 3 141,RG.mk 4 141,RG.pt aL,RG.pt aL,trivial⟩ ?_;intro j4 i4 a4 w4 M4;repeat refine wp_seq ?_
 refine M4.d [.s 34 [] (.p 0 0),.x 35 [(34,0)] (fv x1),.x 36 [] (fv c2),.c 37 [(35,1),(36,2)] (fv c3),.s 38 [] (.p 1 0),.x 39 [(38,4)] (fv x2),.x 40 [] (fv c1),.c 41 [(39,5),(40,6)] (fv c4),.m 7 [] 5,.m 8 [] 6,.u [(7,8),(37,3)] 5,.u [(8,9),(41,7)] 6] [(8,(RG.z 4)),(9,(RG.z 4))] [(5,10,(ws c3)),(6,11,(ws c4))] [(ws x1++(ws y1++(ws z1))),(ws x2++(ws y2++(ws z2))),(RG.z 12),(ws c1),(ws c2),(ws c3),(ws c4)] [(2,(.p 0 0)),(3,(.p 1 0)),(4,(.p 2 0)),(5,(.p 3 0)),(6,(.p 4 0)),(7,(.p 5 0)),(8,(.p 6 0))] ⟨RG.st,RG.ld aO aL,RG.ld aO aL,RG.cl ((aU C x1 c2).e hc3),RG.st,RG.ld aO aL,RG.ld aO aL,RG.cl ((aU C x2 c1).e hc4),RG.mk 5 141,RG.mk 6 141,RG.pt aL,RG.pt aL,trivial⟩ ?_;intro j5 i5 a5 w5 M5;repeat refine wp_seq ?_
 refine M5.d [.s 42 [] (.p 0 4),.x 43 [(42,0)] (fv y1),.x 44 [] (fv c2),.c 45 [(43,1),(44,2)] (fv c5),.s 46 [] (.p 1 8),.x 47 [(46,4)] (fv z2),.c 48 [(45,3),(47,5)] (fv c6),.s 49 [] (.p 1 4),.x 50 [(49,7)] (fv y2),.x 51 [] (fv c1),.c 52 [(50,8),(51,9)] (fv c7),.s 53 [] (.p 0 8),.x 54 [(53,11)] (fv z1),.c 55 [(52,10),(54,12)] (fv c8),.m 9 [] 7,.m 10 [] 8,.u [(9,14),(48,6)] 7,.u [(10,15),(55,13)] 8] [(14,(RG.z 4)),(15,(RG.z 4))] [(7,16,(ws c6)),(8,17,(ws c8))] [(ws x1++(ws y1++(ws z1))),(ws x2++(ws y2++(ws z2))),(RG.z 12),(ws c1),(ws c2),(ws c3),(ws c4),(ws c6),(ws c8)] [(2,(.p 0 0)),(3,(.p 1 0)),(4,(.p 2 0)),(7,(.p 5 0)),(8,(.p 6 0)),(9,(.p 7 0)),(10,(.p 8 0))] ⟨RG.st,RG.ld aO aL,RG.ld aO aL,RG.cl ((aU C y1 c2).e hc5),RG.st,RG.ld aO aL,RG.cl ((aU C c5 z2).e hc6),RG.st,RG.ld aO aL,RG.ld aO aL,RG.cl ((aU C y2 c1).e hc7),RG.st,RG.ld aO aL,RG.cl ((aU C c7 z1).e hc8),RG.mk 7 141,RG.mk 8 141,RG.pt aL,RG.pt aL,trivial⟩ ?_;intro j6 i6 a6 w6 M6;repeat refine wp_seq ?_
 by_cases hxy:EC.cC x1 z2=EC.cC x2 z1/\EC.dA y1 z2=EC.dA y2 z1
 ·have hR:=hc hz1 hz2 hxy;obtain⟨hx,hy⟩:=hxy;obtain⟨c9,hc9⟩:∃c,c=EC.twX x1 y1:=⟨_,rfl⟩
  obtain⟨c10,hc10⟩:∃c,c=EC.twY x1 y1:=⟨_,rfl⟩
  obtain⟨c11,hc11⟩:∃c,c=EC.twZ y1 z1:=⟨_,rfl⟩
  obtain rfl:R=rv c9 c10 c11:=hR.trans (by subst_vars;rfl);refine M6.u [.x 56 [] (fv c3),.x 57 [] (fv c4),.x 58 [(56,0),(57,1)] (.bool true),.x 59 [(58,2)] (.bool true),.x 60 [] (fv c6),.x 61 [] (fv c8),.x 62 [(60,4),(61,5)] (.bool true),.x 63 [(59,3),(62,6)] (.bool true)] [(2,(.p 0 0)),(4,(.p 2 0)),(63,(.v (.bool true)))] ⟨RG.ld aO aL,RG.ld aO aL,RG.aG rfl .eql 141 141 56 57 (fv c3) (fv c4) (.bool true) rfl rfl RG.sx RG.sx (fun w=>by kernel_rfl) (Df C (by subst_vars;exact hx)),RG.st,RG.ld aO aL,RG.ld aO aL,RG.aG rfl .eql 141 141 60 61 (fv c6) (fv c8) (.bool true) rfl rfl RG.sx RG.sx (fun w=>by kernel_rfl) (Df C (by subst_vars;exact hy)),RG.st,trivial⟩ ?_;intro a7 w7 M7;repeat refine wp_seq ?_
  refine wp_cond_true M7.ev ?_;repeat refine wp_seq ?_
  refine M7.t [.x 64 [] (rv x1 y1 z1),.c 65 [(64,0)] (rv c9 c10 c11),.u [(65,1)] 2] [] [(2,2,(ws c9++(ws c10++(ws c11))))] [(ws x1++(ws y1++(ws z1))),(ws x2++(ws y2++(ws z2))),(ws c9++(ws c10++(ws c11))),(ws c1),(ws c2),(ws c3),(ws c4),(ws c6),(ws c8)] [(4,(.p 2 0))] ⟨RG.ld fA i117,RG.cl ((Cn C x1 y1 z1).e3 hc9 hc10 hc11),RG.pt i117,trivial⟩ ?_;intro a8 w8 M8;refine wp_ret ?_;refine bodyPost_ret (v:=(rv c9 c10 c11)) (RG.aC M8.st 4 143 rfl 2 _ rfl (M8.at (s:=(.p 2 0))) fA i117) M8.sl.defers ?_;exact⟨_,rfl,M8.st.bel.below,rfl⟩
 have hR:=hd hz1 hz2 hxy;obtain⟨c9,hc9⟩:∃c,c=c4-c3:=⟨_,rfl⟩
 obtain⟨c10,hc10⟩:∃c,c=c8-c6:=⟨_,rfl⟩
 obtain⟨c11,hc11⟩:∃c,c=c9*c9:=⟨_,rfl⟩
 obtain⟨c12,hc12⟩:∃c,c=c11*c9:=⟨_,rfl⟩
 obtain⟨c13,hc13⟩:∃c,c=c11*c3:=⟨_,rfl⟩
 obtain⟨c14,hc14⟩:∃c,c=c10*c10:=⟨_,rfl⟩
 obtain⟨c15,hc15⟩:∃c,c=c14-c12:=⟨_,rfl⟩
 obtain⟨c16,hc16⟩:∃c,c=EC.dbl c13:=⟨_,rfl⟩
 obtain⟨c17,hc17⟩:∃c,c=c15-c16:=⟨_,rfl⟩
 obtain⟨c18,hc18⟩:∃c,c=c13-c17:=⟨_,rfl⟩
 obtain⟨c19,hc19⟩:∃c,c=c10*c18:=⟨_,rfl⟩
 obtain⟨c20,hc20⟩:∃c,c=c12*c6:=⟨_,rfl⟩
 obtain⟨c21,hc21⟩:∃c,c=c19-c20:=⟨_,rfl⟩
 obtain⟨c22,hc22⟩:∃c,c=z1*z2:=⟨_,rfl⟩
 obtain⟨c23,hc23⟩:∃c,c=c22*c9:=⟨_,rfl⟩
 obtain rfl:R=rv c17 c21 c23:=hR.trans (by subst_vars;rfl);by_cases hx:EC.cC x1 z2=EC.cC x2 z1
 case' pos =>
  have hy:¬EC.dA y1 z2=EC.dA y2 z1:=fun h=>hxy ⟨hx,h⟩
  refine M6.u [.x 56 [] (fv c3),.x 57 [] (fv c4),.x 58 [(56,0),(57,1)] (.bool true),.x 59 [(58,2)] (.bool true),.x 60 [] (fv c6),.x 61 [] (fv c8),.x 62 [(60,4),(61,5)] (.bool false),.x 63 [(59,3),(62,6)] (.bool false)] [(2,(.p 0 0)),(3,(.p 1 0)),(4,(.p 2 0)),(7,(.p 5 0)),(8,(.p 6 0)),(9,(.p 7 0)),(10,(.p 8 0)),(63,(.v (.bool false)))] ⟨RG.ld aO aL,RG.ld aO aL,RG.aG rfl .eql 141 141 56 57 (fv c3) (fv c4) (.bool true) rfl rfl RG.sx RG.sx (fun w=>by kernel_rfl) (Df C (by subst_vars;exact hx)),RG.st,RG.ld aO aL,RG.ld aO aL,RG.aG rfl .eql 141 141 60 61 (fv c6) (fv c8) (.bool false) rfl rfl RG.sx RG.sx (fun w=>by kernel_rfl) (G0 C (by subst_vars;exact hy)),RG.st,trivial⟩ ?_
 case' neg =>
  refine M6.u [.x 56 [] (fv c3),.x 57 [] (fv c4),.x 58 [(56,0),(57,1)] (.bool false),.x 59 [(58,2)] (.bool false),⟨some 60,[],(.v undef),.pass⟩,⟨some 61,[],(.v undef),.pass⟩,⟨some 62,[],(.v undef),.pass⟩,.x 63 [(59,3),(62,6)] (.bool false)] [(2,(.p 0 0)),(3,(.p 1 0)),(4,(.p 2 0)),(7,(.p 5 0)),(8,(.p 6 0)),(9,(.p 7 0)),(10,(.p 8 0)),(63,(.v (.bool false)))] ⟨RG.ld aO aL,RG.ld aO aL,RG.aG rfl .eql 141 141 56 57 (fv c3) (fv c4) (.bool false) rfl rfl RG.sx RG.sx (fun w=>by kernel_rfl) (G0 C (by subst_vars;exact hx)),RG.st,RG.aH rfl rfl,RG.aH rfl rfl,RG.aH rfl rfl,RG.st,trivial⟩ ?_
 all_goals
  intro a7 w7 M7;repeat refine wp_seq ?_
  refine wp_cond_false M7.ev ?_;refine wp_skip ?_;repeat refine wp_seq ?_
  refine M7.d [.x 66 [] (fv c4),.x 67 [] (fv c3),.c 68 [(66,0),(67,1)] (fv c9),.x 69 [] (fv c8),.x 70 [] (fv c6),.c 71 [(69,3),(70,4)] (fv c10),.m 11 [] 9,.m 12 [] 10,.u [(11,6),(68,2)] 9,.u [(12,7),(71,5)] 10] [(6,(RG.z 4)),(7,(RG.z 4))] [(9,8,(ws c9)),(10,9,(ws c10))] [(ws x1++(ws y1++(ws z1))),(ws x2++(ws y2++(ws z2))),(RG.z 12),(ws c1),(ws c2),(ws c3),(ws c4),(ws c6),(ws c8),(ws c9),(ws c10)] [(2,(.p 0 0)),(3,(.p 1 0)),(4,(.p 2 0)),(7,(.p 5 0)),(9,(.p 7 0)),(11,(.p 9 0)),(12,(.p 10 0))] ⟨RG.ld aO aL,RG.ld aO aL,RG.cl ((dI C c4 c3).e hc9),RG.ld aO aL,RG.ld aO aL,RG.cl ((dI C c8 c6).e hc10),RG.mk 9 141,RG.mk 10 141,RG.pt aL,RG.pt aL,trivial⟩ ?_;intro j8 i8 a8 w8 M8;repeat refine wp_seq ?_
  refine M8.t [.x 72 [] (fv c9),.x 73 [] (fv c9),.c 74 [(72,0),(73,1)] (fv c11),.m 13 [] 11,.u [(13,3),(74,2)] 11] [(3,(RG.z 4))] [(11,4,(ws c11))] [(ws x1++(ws y1++(ws z1))),(ws x2++(ws y2++(ws z2))),(RG.z 12),(ws c1),(ws c2),(ws c3),(ws c4),(ws c6),(ws c8),(ws c9),(ws c10),(ws c11)] [(2,(.p 0 0)),(3,(.p 1 0)),(4,(.p 2 0)),(7,(.p 5 0)),(9,(.p 7 0)),(11,(.p 9 0)),(12,(.p 10 0)),(13,(.p 11 0))] ⟨RG.ld aO aL,RG.ld aO aL,RG.cl ((aU C c9 c9).e hc11),RG.mk 11 141,RG.pt aL,trivial⟩ ?_;intro j9 a9 w9 M9;repeat refine wp_seq ?_
  refine M9.d [.x 75 [] (fv c11),.x 76 [] (fv c9),.c 77 [(75,0),(76,1)] (fv c12),.x 78 [] (fv c11),.x 79 [] (fv c3),.c 80 [(78,3),(79,4)] (fv c13),.m 14 [] 12,.m 15 [] 13,.u [(14,6),(77,2)] 12,.u [(15,7),(80,5)] 13] [(6,(RG.z 4)),(7,(RG.z 4))] [(12,8,(ws c12)),(13,9,(ws c13))] [(ws x1++(ws y1++(ws z1))),(ws x2++(ws y2++(ws z2))),(RG.z 12),(ws c1),(ws c2),(ws c3),(ws c4),(ws c6),(ws c8),(ws c9),(ws c10),(ws c11),(ws c12),(ws c13)] [(2,(.p 0 0)),(3,(.p 1 0)),(4,(.p 2 0)),(9,(.p 7 0)),(11,(.p 9 0)),(12,(.p 10 0)),(14,(.p 12 0)),(15,(.p 13 0))] ⟨RG.ld aO aL,RG.ld aO aL,RG.cl ((aU C c11 c9).e hc12),RG.ld aO aL,RG.ld aO aL,RG.cl ((aU C c11 c3).e hc13),RG.mk 12 141,RG.mk 13 141,RG.pt aL,RG.pt aL,trivial⟩ ?_;intro j10 i10 a10 w10 M10;repeat refine wp_seq ?_
  refine M10.d [.x 81 [] (fv c10),.x 82 [] (fv c10),.c 83 [(81,0),(82,1)] (fv c14),.x 84 [] (fv c12),.c 85 [(83,2),(84,3)] (fv c15),.x 86 [] (fv c13),.c 87 [(86,5)] (fv c16),.c 88 [(85,4),(87,6)] (fv c17),.m 16 [] 14,.u [(16,8),(88,7)] 14] [(8,(RG.z 4))] [(14,9,(ws c17))] [(ws x1++(ws y1++(ws z1))),(ws x2++(ws y2++(ws z2))),(RG.z 12),(ws c1),(ws c2),(ws c3),(ws c4),(ws c6),(ws c8),(ws c9),(ws c10),(ws c11),(ws c12),(ws c13),(ws c17)] [(2,(.p 0 0)),(3,(.p 1 0)),(4,(.p 2 0)),(9,(.p 7 0)),(11,(.p 9 0)),(12,(.p 10 0)),(14,(.p 12 0)),(15,(.p 13 0)),(16,(.p 14 0))] ⟨RG.ld aO aL,RG.ld aO aL,RG.cl ((aU C c10 c10).e hc14),RG.ld aO aL,RG.cl ((dI C c14 c12).e hc15),RG.ld aO aL,RG.cl ((eB C c13).e hc16),RG.cl ((dI C c15 c16).e hc17),RG.mk 14 141,RG.pt aL,trivial⟩ ?_;intro j11 a11 w11 M11;repeat refine wp_seq ?_
  refine M11.d [.x 89 [] (fv c10),.x 90 [] (fv c13),.x 91 [] (fv c17),.c 92 [(90,1),(91,2)] (fv c18),.c 93 [(89,0),(92,3)] (fv c19),.x 94 [] (fv c12),.x 95 [] (fv c6),.c 96 [(94,5),(95,6)] (fv c20),.c 97 [(93,4),(96,7)] (fv c21),.m 17 [] 15,.u [(17,9),(97,8)] 15] [(9,(RG.z 4))] [(15,10,(ws c21))] [(ws x1++(ws y1++(ws z1))),(ws x2++(ws y2++(ws z2))),(RG.z 12),(ws c1),(ws c2),(ws c3),(ws c4),(ws c6),(ws c8),(ws c9),(ws c10),(ws c11),(ws c12),(ws c13),(ws c17),(ws c21)] [(2,(.p 0 0)),(3,(.p 1 0)),(4,(.p 2 0)),(11,(.p 9 0)),(16,(.p 14 0)),(17,(.p 15 0))] ⟨RG.ld aO aL,RG.ld aO aL,RG.ld aO aL,RG.cl ((dI C c13 c17).e hc18),RG.cl ((aU C c10 c18).e hc19),RG.ld aO aL,RG.ld aO aL,RG.cl ((aU C c12 c6).e hc20),RG.cl ((dI C c19 c20).e hc21),RG.mk 15 141,RG.pt aL,trivial⟩ ?_;intro j12 a12 w12 M12;repeat refine wp_seq ?_
  refine M12.d [.x 98 [] (fv c17),.x 99 [] (fv c21),.s 100 [] (.p 0 8),.x 101 [(100,2)] (fv z1),.s 102 [] (.p 1 8),.x 103 [(102,4)] (fv z2),.c 104 [(101,3),(103,5)] (fv c22),.x 105 [] (fv c9),.c 106 [(104,6),(105,7)] (fv c23),.x 107 [(98,0),(99,1),(106,8)] (rv c17 c21 c23),.u [(107,9)] 2] [] [(2,10,(ws c17++(ws c21++(ws c23))))] [(ws x1++(ws y1++(ws z1))),(ws x2++(ws y2++(ws z2))),(ws c17++(ws c21++(ws c23))),(ws c1),(ws c2),(ws c3),(ws c4),(ws c6),(ws c8),(ws c9),(ws c10),(ws c11),(ws c12),(ws c13),(ws c17),(ws c21)] [(4,(.p 2 0))] ⟨RG.ld aO aL,RG.ld aO aL,RG.st,RG.ld aO aL,RG.st,RG.ld aO aL,RG.cl ((aU C z1 z2).e hc22),RG.ld aO aL,RG.cl ((aU C c22 c9).e hc23),RG.st,RG.pt i117,trivial⟩ ?_;intro a13 w13 M13;refine wp_ret ?_;refine bodyPost_ret (v:=(rv c17 c21 c23)) (RG.aC M13.st 4 143 rfl 2 _ rfl (M13.at (s:=(.p 2 0))) fA i117) M13.sl.defers ?_;exact⟨_,rfl,M13.st.bel.below,rfl⟩
abbrev T3(P:Nat):=Fin P × Fin P × Fin P
abbrev tv(t:T3 P):Value:=rv t.1 t.2.1 t.2.2
abbrev tw(t:T3 P):List Value:=ws t.1++(ws t.2.1++ws t.2.2)
def JacT(t:T3 P)(p:EC.Pt P):Prop:=EC.Jac t.1 t.2.1 t.2.2 p/\EC.On p
def twJ(t:T3 P):T3 P:=(EC.twX t.1 t.2.1,EC.twY t.1 t.2.1,EC.twZ t.2.1 t.2.2)
def plJ(a b:T3 P):T3 P:=
 if a.2.2=0 then b else if b.2.2=0 then a else
 if EC.cC a.1 b.2.2=EC.cC b.1 a.2.2/\EC.dA a.2.1 b.2.2=EC.dA b.2.1 a.2.2 then twJ a else
 (EC.plX (EC.cC a.1 b.2.2) (EC.dA a.2.1 b.2.2) (EC.cC b.1 a.2.2) (EC.dA b.2.1 a.2.2),EC.plY (EC.cC a.1 b.2.2) (EC.dA a.2.1 b.2.2) (EC.cC b.1 a.2.2) (EC.dA b.2.1 a.2.2),EC.plZ a.2.2 b.2.2 (EC.cC a.1 b.2.2) (EC.cC b.1 a.2.2))
def opJ(t:T3 P):T3 P:=(t.1,0-t.2.1,t.2.2)
def raJ(x y:Fin P):T3 P:=if x=0/\y=0 then(0,0,0) else(x,y,1)
theorem Kk(C:Fld P)(t:T3 P):Gives 80 #[tv t] (tv (twJ t)):=Cn C t.1 t.2.1 t.2.2
theorem Kq(C:Fld P)(a b:T3 P):Gives 81 #[tv a,tv b] (tv (plJ a b)):=by
 obtain⟨x1,y1,z1⟩:=a;obtain⟨x2,y2,z2⟩:=b;exact En C x1 y1 z1 x2 y2 z2 _ (fun h=>by unfold plJ;rw[if_pos h]) (fun h1 h2=>by unfold plJ;rw[if_neg h1,if_pos h2]) (fun h1 h2 h=>by unfold plJ;rw[if_neg h1,if_neg h2,if_pos h];rfl) (fun h1 h2 h=>by unfold plJ;rw[if_neg h1,if_neg h2,if_neg h])
theorem Ks(C:Fld P)(t:T3 P):Gives 128 #[tv t] (tv (opJ t)):=Ba C t.1 t.2.1 t.2.2
theorem Nz(C:Fld P)(x y:Fin P):Gives 122 #[pv x y] (tv (raJ x y)):=by
 unfold raJ;by_cases hz:x=0/\y=0
 ·rw[if_pos hz];exact D9 C x y hz
 ·rw[if_neg hz];exact Ea C x y hz
theorem NB(C:Fld P)(t:T3 P):Gives 83 #[tv t] (pv (t.1*(EC.inv t.2.2*EC.inv t.2.2)) (t.2.1*(EC.inv t.2.2*EC.inv t.2.2)*EC.inv t.2.2)):=Jm C t.1 t.2.1 t.2.2
theorem JacT.twice(C:Fld P){t:T3 P}{p:EC.Pt P}(h:JacT t p):JacT (twJ t) (EC.add p p):=⟨h.1.twice C.cur h.2,C.cur.on h.2 h.2⟩
theorem JacT.plus(C:Fld P){a b:T3 P}{p q:EC.Pt P}(h:JacT a p)(h':JacT b q):JacT (plJ a b) (EC.add p q):=by
 refine⟨?_,C.cur.on h.2 h'.2⟩;obtain⟨x1,y1,z1⟩:=a;obtain⟨x2,y2,z2⟩:=b;unfold plJ;by_cases n1:z1=0
 ·rw[if_pos n1];obtain rfl:=h.1.zero C.cur n1;exact h'.1
 ·rw[if_neg n1];by_cases n2:z2=0
  ·rw[if_pos n2];obtain rfl:=h'.1.zero C.cur n2;rw[EC.bD];exact h.1
  ·rw[if_neg n2];rcases h.1.plus C.cur h.2 h'.1 h'.2 n1 n2 with⟨e1,e2,e3⟩|⟨e1,e2⟩
   ·rw[if_pos ⟨e1,e2⟩,e3];exact h.1.twice C.cur h.2
   ·rw[if_neg e1];exact e2
theorem JacT.neg{t:T3 P}{p:EC.Pt P}(h:JacT t p):JacT (opJ t) (EC.neg p):=⟨h.1.neg,EC.b8 h.2⟩
theorem Ko(C:Fld P){x y:Fin P}{p:EC.Pt P}(h:EC.Pair x y p)(hp:EC.On p):JacT (raJ x y) p:=by
 refine⟨?_,hp⟩;unfold raJ;by_cases hz:x=0/\y=0
 ·obtain rfl:=h.nothing C.cur hp hz;rw[if_pos hz];rfl
 ·rw[if_neg hz];exact h.jac C.cur hz
theorem JacT.pair(C:Fld P){t:T3 P}{p:EC.Pt P}(h:JacT t p):EC.Pair (t.1*(EC.inv t.2.2*EC.inv t.2.2)) (t.2.1*(EC.inv t.2.2*EC.inv t.2.2)*EC.inv t.2.2) p:=h.1.pair C.cur
theorem JacT.none:JacT ((0,0,0):T3 P) .none:=⟨rfl,EC.eN⟩
end
namespace DG
def jN(d:Nat->Int):Nat->Int
 | 0=>0
 | k+1=>jN d k+d k*2^k
def upd(d:Nat->Int)(i:Nat)(v:Int):Nat->Int:=fun j=>if j=i then v else d j
theorem sF{d e:Nat->Int}:∀k,(∀j,j<k->d j=e j)->jN d k=jN e k
 | 0,_=>rfl
 | k+1,h=>by
  show jN d k+d k*2^k=jN e k+e k*2^k;rw[sF k fun j hj=>h j (by omega),h k (by omega)]
theorem sE{d:Nat->Int}(i:Nat)(h:∀j,i<=j->d j=0):∀k,jN d (i+k)=jN d i
 | 0=>rfl
 | k+1=>by
  show jN d (i+k)+d (i+k)*2^(i+k)=_;rw[h (i+k) (by omega),U3,Vk,sE i h k]
theorem upd_same(d:Nat->Int)(i:Nat)(v:Int):upd d i v i=v:=if_pos rfl
theorem fL{d:Nat->Int}{i j:Nat}{v:Int}(h:j≠i):upd d i v j=d j:=if_neg h
theorem G4{d:Nat->Int}(i:Nat)(v:Int)(h:∀j,i<=j->d j=0)(k:Nat):jN (upd d i v) (i+1+k)=jN d i+v*2^i:=by
 rw[sE (i+1) (fun j hj=>by rw[fL (by omega)];exact h j (by omega)) k];show jN (upd d i v) i+upd d i v i*2^i=_;rw[upd_same,sF i fun j hj=>fL (by omega)]
structure DI(n:Nat)(d:Nat->Int)(i c:Nat):Prop where
 hc:c<=1
 hz:∀j,i<=j->d j=0
 hw:∀j,257<=j->d j=0
 ho:∀j,d j=0\/(d j%2=1/\-15<=d j/\d j<=15)
 hs:(n:Int)=jN d i+((n/2^i+c:Nat):Int)*2^i
 he:257<=i->n/2^i+c=0
theorem DI.start(n:Nat):DI n (fun _=>0) 0 0:=by
 refine⟨by decide,fun _ _=>rfl,fun _ _=>rfl,fun _=>Or.inl rfl,?_,fun h=>by omega⟩;rw[Nat.pow_zero,Nat.div_one];show(n:Int)=0+((n+0:Nat):Int)*1;omega
theorem high{n i:Nat}(hn:n<2^256)(hi:256<=i):n/2^i=0:=
 Tq (PS hn (Sb (by decide) hi))
theorem DI.skip{n i c:Nat}{d:Nat->Int}(h:DI n d i c)(hn:n<2^256)(hi:i<257)(hb:n/2^i%2=c):DI n d (i+1) c:=by
 have hdiv:n/2^(i+1)=n/2^i/2:=by rw[Nat.pow_succ,SO]
 refine⟨h.hc,fun j hj=>h.hz j (by omega),h.hw,h.ho,?_,fun h257=>?_⟩
 ·rw[h.hs];show _=jN d i+d i*2^i+_;rw[h.hz i (PQ _),U3,Vk,hdiv,show n/2^i+c=(n/2^i/2+c)*2 by have:=h.hc;omega];rw[show(2:Int)^(i+1)=2^i*2 by rw[XD]];generalize (2:Int)^i=t;rw[RS,VF,U4 (2:Nat) t];rfl
 ·have h1:i=256:=by omega
  have h2:n/2^i=0:=high hn (by omega);rw[hdiv,h2];rw[h2]at hb;omega
theorem DI.take{n i c:Nat}{d:Nat->Int}(h:DI n d i c)(hn:n<2^256)(hi:i<257)(hb:n/2^i%2≠c):
 DI n (upd d i (((n/2^i%32+c:Nat):Int)-32*(((n/2^i%32+c)/16:Nat):Int))) (i+5) ((n/2^i%32+c)/16):=by
 have hdiv:n/2^(i+5)=n/2^i/32:=by rw[Nat.pow_add,SO]
 have hc:=h.hc;have hodd:(n/2^i%32+c)%2=1:=by omega
 have hlt:n/2^i%32+c<32:=by omega
 refine⟨by omega,fun j hj=>?_,fun j hj=>?_,fun j=>?_,?_,fun h257=>?_⟩
 ·rw[fL (by omega)];exact h.hz j (by omega)
 ·rw[fL (by omega)];exact h.hw j hj
 ·by_cases hj:j=i
  ·subst hj;rw[upd_same];right;omega
  ·rw[fL hj];exact h.ho j
 ·rw[show i+5=i+1+4 by omega,G4 i _ h.hz 4,show i+1+4=i+5 by omega,h.hs,Int.add_assoc]
  congr 1
  rw[hdiv,Int.pow_add,show(2:Int)^5=32 by decide,<-U4 (32:Int),<-VF,<-XK]
  congr 1
  omega
 ·have h2:n/2^i<16:=by
   rw[Nat.div_lt_iff_lt_mul (Nat.pow_pos (by decide))];refine PS hn ?_
   calc 2^256=16*2^252:=by decide +kernel
    _<=16*2^i:=RJ (PQ _) (Sb (by decide) (by omega))
  rw[hdiv];generalize n/2^i=m at h2 hb hodd hlt⊢;rw[Qf (show m<32 by omega)]at hodd⊢;have h3:m+c<16:=by omega
  rw[Tq h3,Tq (show m<32 by omega)]
theorem DI.all{n i c:Nat}{d:Nat->Int}(h:DI n d i c)(hi:257<=i):(n:Int)=jN d 257:=by
 have h1:=h.hs;rw[h.he hi,Qz,U3,Vk]at h1;rw[h1,show i=257+(i-257) by omega,sE 257 h.hw]
def hor(d:Nat->Int):Nat->Int
 | 0=>0
 | k+1=>2*hor d k+d (256-k)
theorem C4(d:Nat->Int):∀k,k<=257->hor d k*2^(257-k)+jN d (257-k)=jN d 257
 | 0,_=>by show 0*_+_=_;rw[U3,Int.zero_add]
 | k+1,hk=>by
  rw[<-C4 d k (by omega)];show(2*hor d k+d (256-k))*2^(257-(k+1))+jN d (257-(k+1))=_;rw[show 257-(k+1)=256-k by omega,show 257-k=(256-k)+1 by omega];show _=hor d k*2^(256-k+1)+(jN d (256-k)+d (256-k)*2^(256-k));rw[XD];generalize (2:Int)^(256-k)=t;generalize hor d k=a;generalize jN d (256-k)=b;rw[XK,U4 t 2,<-VF,U4 a 2];omega
theorem JO{n i c:Nat}{d:Nat->Int}(h:DI n d i c)(hi:257<=i):hor d 257=(n:Int):=by
 have h1:=C4 d 257 (PQ _);rw[TK]at h1;rw[h.all hi,<-h1];show hor d 257=hor d 257*1+0;omega
end DG
section
open Go.RowKit Go.Sort
variable {P:Nat}[NeZero P]{N:Nat}
theorem H7(k o i:Nat)(hi:i<257)(w:World):(QV 146 (.pointer (some ⟨k,o,none⟩)) (.int .i64 i)).run prog w=.ok (.pointer (some ⟨k,o+i,none⟩)) w:=by
 have h1:¬(i:Int)<0:=by omega
 have h2:(i:Int)<257:=by omega
 go_simp
theorem MI(k i:Nat)(hi:i<257)(w:World):(QV 146 (.pointer (some ⟨k,0,none⟩)) (.int .i64 i)).run prog w=.ok (.pointer (some ⟨k,i,none⟩)) w:=by
 rw[H7 k 0 i hi,PU]
theorem Dy(k o i:Nat)(hi:i<8)(w:World):(QV 144 (.pointer (some ⟨k,o,none⟩)) (.int .i64 i)).run prog w=.ok (.pointer (some ⟨k,o+12*i,none⟩)) w:=by
 have h1:¬(i:Int)<0:=by omega
 have h2:(i:Int)<8:=by omega
 go_simp
theorem H8(k o i:Nat)(hi:i<8)(w:World):(QV 144 (.pointer (some ⟨k,o,none⟩)) (.int .i8 i)).run prog w=.ok (.pointer (some ⟨k,o+12*i,none⟩)) w:=by
 have h1:¬(i:Int)<0:=by omega
 have h2:(i:Int)<8:=by omega
 go_simp
theorem DC(k n c i:Nat)(hi:i<n)(w:World):(QV 140 (.slice (some ⟨k,0,none⟩) n c) (.int .i64 i)).run prog w=.ok (.pointer (some ⟨k,353*i,none⟩)) w:=by
 have h1:¬(i:Int)<0:=by omega
 have h2:(i:Int)<n:=by omega
 go_simp
theorem Oc(k o n c i:Nat)(hi:i<n)(w:World):(QV 87 (.slice (some ⟨k,o,none⟩) n c) (.int .i64 i)).run prog w=.ok (.pointer (some ⟨k,o+4*i,none⟩)) w:=by
 have h1:¬(i:Int)<0:=by omega
 have h2:(i:Int)<n:=by omega
 go_simp
theorem KL(k o n c i:Nat)(hi:i<n)(w:World):(QV 90 (.slice (some ⟨k,o,none⟩) n c) (.int .i64 i)).run prog w=.ok (.pointer (some ⟨k,o+8*i,none⟩)) w:=by
 have h1:¬(i:Int)<0:=by omega
 have h2:(i:Int)<n:=by omega
 go_simp
theorem KD(d:Int)(hd:-15<=d/\d<=15)(w:World):(Xw .neg (.int .i8 d)).run prog w=.ok (.int .i8 (-d)) w:=by
 have h:=Vp (-d) (by omega);go_simp
theorem KC(k:Nat)(hk:k<8)(w:World):(binOp .quo 145 (.int .i8 (2*(k:Int)+1)) (.int .i8 2)).run prog w=.ok (.int .i8 k) w:=by
 have h0:(2*(k:Int)+1).tdiv 2=(k:Int):=by rw[Int.tdiv_eq_ediv_of_nonneg (by omega)];omega
 have h:=Vp (k:Int) (by omega);go_simp
theorem OP(g:Nat)(hg:g<32)(w:World):(binOp .shr 3 (.int .i64 g) (.int .u64 4)).run prog w=.ok (.int .i64 ((g/16:Nat):Int)) w:=by
 go_simp
theorem OQ(g:Nat)(hg:g<32)(w:World):(binOp .shl 3 (.int .i64 g) (.int .u64 5)).run prog w=.ok (.int .i64 (32*(g:Int))) w:=by
 have h:=QG (32*(g:Int)) (by omega);have h2:(g:Int)*32=32*(g:Int):=by omega
 go_simp
theorem Ax(a b:Int)(ha:-1000<=a/\a<=1000)(hb:-1000<=b/\b<=1000)(w:World):(binOp .sub 3 (.int .i64 a) (.int .i64 b)).run prog w=.ok (.int .i64 (a-b)) w:=by
 have h:=QG (a-b) (by omega);go_simp
theorem mH(a b:Nat)(ha:a<=1000000)(hb:b<=1000000)(w:World):(binOp .add 3 (.int .i64 a) (.int .i64 b)).run prog w=.ok (.int .i64 ((a+b:Nat):Int)) w:=by
 have h:=QG ((a:Int)+(b:Int)) (by omega);go_simp
theorem cv8(v:Int)(hv:-15<=v/\v<=15)(w:World):(convert 3 145 (.int .i64 v)).run prog w=.ok (.int .i8 v) w:=by
 have h:=Vp v (by omega);go_simp
theorem N6{b c:Nat}(e:b=c)(w:World):(binOp .eql 3 (.int .i64 b) (.int .i64 c)).run prog w=.ok (.bool true) w:=by
 subst e;go_simp
theorem N8{b c:Nat}(e:¬b=c)(w:World):(binOp .eql 3 (.int .i64 b) (.int .i64 c)).run prog w=.ok (.bool false) w:=by
 have h:¬(b:Int)=(c:Int):=by omega
 go_simp
theorem dE{i n:Nat}(e:i<n)(w:World):(binOp .lss 3 (.int .i64 i) (.int .i64 n)).run prog w=.ok (.bool true) w:=by
 have h:(i:Int)<(n:Int):=by omega
 go_simp
theorem fY{i n:Nat}(e:¬i<n)(w:World):(binOp .lss 3 (.int .i64 i) (.int .i64 n)).run prog w=.ok (.bool false) w:=by
 have h:¬(i:Int)<(n:Int):=by omega
 go_simp
theorem Ip{n f c:Nat}(hn:n<top)(hf:f<=256)(hc:c<=32):Gives 151 #[nv n,.int .i64 f,.int .i64 c] (.int .i64 ((n/2^f%2^c:Nat):Int)):=fun w =>
 (Ak _ n f c (lK hn) hf hc w).mono (by rintro e w' ⟨v,rfl,hb,rfl⟩;exact⟨_,rfl,hb,rfl⟩)
def dg(d:Nat->Int):List Value:=(QJ 257).map (fun j=>QT .i8 (d j))
def dv(d:Nat->Int):Value:=.agg (dg d).toArray
theorem bF(d:Nat->Int):(dg d).length=257:=by unfold dg;rw[Qb,List.length_range]
theorem Hb(d:Nat->Int)(j:Nat)(hj:j<257):(dg d)[j]? = some (.int .i8 (d j)):=by
 unfold dg;rw[QX,List.getElem?_range hj];rfl
theorem Mr(d:Nat->Int)(i:Nat)(v:Int):dg (DG.upd d i v)=(dg d).set i (.int .i8 v):=by
 apply U9;intro j;rw[List.getElem?_set];by_cases hj:j<257
 ·rw[Hb _ j hj,Hb _ j hj];by_cases hij:i=j
  ·subst hij;rw[if_pos rfl,if_pos (by rw[bF];exact hj),DG.upd_same]
  ·rw[if_neg hij,DG.fL (fun h=>hij h.symm)]
 ·rw[RY (by rw[bF];omega)];by_cases hij:i=j
  ·rw[if_pos hij,if_neg (by rw[bF];omega)]
  ·rw[if_neg hij,RY (by rw[bF];omega)]
theorem Ha(d:Nat->Int):(dg d).all (·.oneCell')=true:=by
 unfold dg;rw[List.all_map];exact List.all_eq_true.2 fun _ _=>rfl
theorem Mq(d:Nat->Int):((dg d).drop 0).take (dg d).length=dg d:=by rw[List.drop_zero,List.take_length]
def dgo(n:Nat):Nat->(Nat->Int)->Nat->Nat->(Nat->Int)
 | 0,d,_,_=>d
 | f+1,d,i,c=>if i<257 then(if n/2^i%2=c then dgo n f d (i+1) c else
  dgo n f (DG.upd d i (((n/2^i%32+c:Nat):Int)-32*(((n/2^i%32+c)/16:Nat):Int))) (i+5) ((n/2^i%32+c)/16)) else d
theorem Dh(n:Nat)(f:Nat)(d:Nat->Int)(i c:Nat)(h:¬i<257):dgo n f d i c=d:=by
 cases f with
 | zero=>rfl
 | succ f=>rw[dgo,if_neg h]
theorem Bw{n:Nat}(hn:n<2^256):∀(f:Nat) (d:Nat->Int) (i c:Nat),DG.DI n d i c->257<=i+f->∃i' c',257<=i'/\DG.DI n (dgo n f d i c) i' c'
 | 0,d,i,c,h,hf=>⟨i,c,by omega,h⟩
 | f+1,d,i,c,h,hf=>by
  by_cases hi:i<257
  ·rw[dgo,if_pos hi];by_cases hb:n/2^i%2=c
   ·rw[if_pos hb];exact Bw hn f d (i+1) c (h.skip hn hi hb) (by omega)
   ·rw[if_neg hb];exact Bw hn f _ (i+5) _ (h.take hn hi hb) (by omega)
  ·rw[Dh n _ d i c hi];exact⟨i,c,by omega,h⟩
def dL(n:Nat):Nat->Int:=dgo n 257 (fun _=>0) 0 0
theorem wQ{n:Nat}(hn:n<2^256):∃i c,257<=i/\DG.DI n (dL n) i c:=Bw hn 257 _ 0 0 (DG.DI.start n) (by omega)
theorem u138:(prog.underlying 146).map (·.isRow)=some true:=by kernel_rfl
theorem i138:(prog.info? 146).map (·.size)=some 257:=by kernel_rfl
theorem Pi:(prog.info? 145).map (·.size)=some 1:=by kernel_rfl
theorem Nj:(prog.underlying 145).map (·.isRow)=some false:=by kernel_rfl
theorem KU(w:World):(VY 146 true (.tuple #[])).run prog w=.ok (.pointer (some ⟨w.heap.size,0,none⟩)) (w.alloc (.cells (dg (fun _=>0)).toArray 146)):=by kernel_rfl
theorem G9{n:Nat}(hn:n<top):Gives 121 #[nv n] (dv (dL n)):=by
 intro w;go_enter Tryz.func121,Tryz.ntmps121;refine RG.Ff (v0:=nv n) (n:=33) (by kernel_rfl) (by kernel_rfl) (by kernel_rfl) ?_;intro a0 sl0 f0;have hS0:=RG.St.begin w;have M0:RG.M w w.heap.size [] 33 [] [] [(0,(.v (nv n)))] a0 _:=⟨hS0,sl0,⟨f0,trivial⟩⟩
 repeat refine wp_seq ?_
 refine M0.t [.m 1 [] 0,.m 2 [] 1] [(0,(wn n)),(1,(dg (fun _=>0)))] [] [(wn n),(dg (fun _=>0))] [(1,(.p 0 0)),(2,(.p 1 0))] ⟨RG.mk 0 41,RG.mE 1 rfl rfl _ rfl 146 rfl (KU),trivial⟩ ?_;intro j1 i1 a1 w1 M1;repeat refine wp_seq ?_
 refine M1.t [.m 3 [] 2] [(0,(dg (fun _=>0)))] [] [(wn n),(dg (fun _=>0)),(dg (fun _=>0))] [(1,(.p 0 0)),(2,(.p 1 0)),(3,(.p 2 0))] ⟨RG.mE 2 rfl rfl _ rfl 146 rfl (KU),trivial⟩ ?_;intro j2 a2 w2 M2;repeat refine wp_seq ?_
 refine M2.u [.x 4 [] (.int .i64 0)] [(1,(.p 0 0)),(2,(.p 1 0)),(3,(.p 2 0)),(4,(.v (.int .i64 0)))] ⟨RG.st,trivial⟩ ?_;intro a3 w3 M3;repeat refine wp_seq ?_
 refine M3.u [.x 5 [] (.int .i64 0)] [(1,(.p 0 0)),(2,(.p 1 0)),(3,(.p 2 0)),(4,(.v (.int .i64 0))),(5,(.v (.int .i64 0)))] ⟨RG.st,trivial⟩ ?_;intro a4 w4 M4;have f1_4:a4.tmps[1]? = some (.pointer (some ⟨j1,0,none⟩)):=M4.at (s:=(.p 0 0));have f2_4:a4.tmps[2]? = some (.pointer (some ⟨i1,0,none⟩)):=M4.at (s:=(.p 1 0));have f3_4:a4.tmps[3]? = some (.pointer (some ⟨j2,0,none⟩)):=M4.at (s:=(.p 2 0));have f4_4:a4.tmps[4]? = some (.int .i64 0):=M4.at (s:=(.v (.int .i64 0)));have f5_4:a4.tmps[5]? = some (.int .i64 0):=M4.at (s:=(.v (.int .i64 0)));repeat refine wp_seq ?_
 refine wp_block ?_;refine wp_loop_ghost (fun m a wr=>∃(d:Nat->Int) (i c:Nat),c<=1/\i<=261/\257<=i+m/\dgo n m d i c=dL n/\RG.Sl a 33/\a.tmps[1]? = some (.pointer (some ⟨j1,0,none⟩))/\a.tmps[2]? = some (.pointer (some ⟨i1,0,none⟩))/\a.tmps[3]? = some (.pointer (some ⟨j2,0,none⟩))/\a.tmps[4]? = some (.int .i64 c)/\a.tmps[5]? = some (.int .i64 i)/\RG.St w w.heap.size [] [wn n,dg (fun _=>0),dg d] [j1,i1,j2] wr) 257 ⟨fun _=>0,0,0,by omega,by omega,by omega,rfl,M4.sl,f1_4,f2_4,f3_4,f4_4,f5_4,M4.st⟩ ?_;intro m a wr;rintro⟨d,i,c,hc,hi2,hm,hd,sl,f1,f2,f3,f4,f5,hS⟩;obtain⟨b,hbv⟩:∃b,n/2^i%2=b:=⟨_,rfl⟩
 obtain⟨e,hev⟩:∃e,n/2^i%32=e:=⟨_,rfl⟩
 obtain⟨g,hgv⟩:∃g,e+c=g:=⟨_,rfl⟩
 obtain⟨v,hvv⟩:∃v:Int,(g:Int)-32*((g/16:Nat):Int)=v:=⟨_,rfl⟩
 generalize j1=k1 at f1 f2 f3 hS;generalize i1=k2 at f1 f2 f3 hS;generalize j2=k3 at f1 f2 f3 hS;by_cases hi:i<257
 ·have hB1:Gives 151 #[nv n,.int .i64 i,.int .i64 1] (.int .i64 b):=by rw[<-hbv];exact Ip (c:=1) hn (by omega) (by omega)
  have hB5:Gives 151 #[nv n,.int .i64 i,.int .i64 5] (.int .i64 e):=by rw[<-hev];exact Ip (c:=5) hn (by omega) (by omega)
  have hm0:∃m',m=m'+1:=by
   cases m with
   | zero=>exact absurd hm (by omega)
   | succ m'=>exact⟨m',rfl⟩
  obtain⟨m',rfl⟩:=hm0;rw[dgo,if_pos hi,hbv,hev,hgv,hvv]at hd;by_cases hb:b=c
  ·rw[if_pos hb]at hd;have M0:RG.M w w.heap.size [] 33 [(wn n),(dg (fun _=>0)),(dg d)] [k1,k2,k3] [(1,(.p 0 0)),(2,(.p 1 0)),(3,(.p 2 0)),(4,(.v (.int .i64 c))),(5,(.v (.int .i64 i)))] a _:=⟨hS,sl,⟨f1,f2,f3,f4,f5,trivial⟩⟩
   repeat refine wp_seq ?_
   refine M0.u [.x 7 [] (.int .i64 i),.x 8 [(7,0)] (.bool true)] [(1,(.p 0 0)),(2,(.p 1 0)),(3,(.p 2 0)),(4,(.v (.int .i64 c))),(5,(.v (.int .i64 i))),(8,(.v (.bool true)))] ⟨RG.st,RG.aI rfl .lss 3 3 7 (.int .i64 i) (.int .i64 257) (.bool true) rfl rfl RG.sx (fun w=>by kernel_rfl) (dE (n:=257) hi),trivial⟩ ?_;intro a1 w1 M1;repeat refine wp_seq ?_
   refine wp_cond_true M1.ev ?_;refine wp_skip ?_;refine wp_seq ?_;refine wp_block ?_;repeat refine wp_seq ?_
   refine M1.u [.x 11 [] (nv n),.x 12 [] (.int .i64 i),.c 13 [(11,0),(12,1)] (.int .i64 b),.x 14 [] (.int .i64 c),.x 15 [(13,2),(14,3)] (.bool true)] [(1,(.p 0 0)),(2,(.p 1 0)),(3,(.p 2 0)),(4,(.v (.int .i64 c))),(5,(.v (.int .i64 i))),(15,(.v (.bool true)))] ⟨RG.ld u85 i85,RG.st,RG.cl (hB1),RG.st,RG.aG rfl .eql 3 3 13 14 (.int .i64 b) (.int .i64 c) (.bool true) rfl rfl RG.sx RG.sx (fun w=>by kernel_rfl) (N6 hb),trivial⟩ ?_;intro a2 w2 M2;repeat refine wp_seq ?_
   refine wp_cond_true M2.ev ?_;refine wp_exit ?_;dsimp only[Exit.then,So];rw[if_pos rfl];repeat refine wp_seq ?_
   refine M2.u [.x 9 [] (.int .i64 i),.x 10 [(9,0)] (.int .i64 ((i+1:Nat):Int)),.x 5 [(10,1)] (.int .i64 ((i+1:Nat):Int))] [(1,(.p 0 0)),(2,(.p 1 0)),(3,(.p 2 0)),(4,(.v (.int .i64 c))),(5,(.v (.int .i64 ((i+1:Nat):Int))))] ⟨RG.st,RG.aI rfl .add 3 3 9 (.int .i64 i) (.int .i64 1) (.int .i64 ((i+1:Nat):Int)) rfl rfl RG.sx (fun w=>by kernel_rfl) (mH i 1 (by omega) (by omega)),RG.st,trivial⟩ ?_;intro a3 w3 M3;have f1_3:a3.tmps[1]? = some (.pointer (some ⟨k1,0,none⟩)):=M3.at (s:=(.p 0 0));have f2_3:a3.tmps[2]? = some (.pointer (some ⟨k2,0,none⟩)):=M3.at (s:=(.p 1 0));have f3_3:a3.tmps[3]? = some (.pointer (some ⟨k3,0,none⟩)):=M3.at (s:=(.p 2 0));have f4_3:a3.tmps[4]? = some (.int .i64 c):=M3.at (s:=(.v (.int .i64 c)));have f5_3:a3.tmps[5]? = some (.int .i64 ((i+1:Nat):Int)):=M3.at (s:=(.v (.int .i64 ((i+1:Nat):Int))));show ∃n',_;exact⟨m',Su m',d,i+1,c,hc,by omega,by omega,hd,M3.sl,f1_3,f2_3,f3_3,f4_3,f5_3,M3.st⟩
  ·rw[if_neg hb]at hd;have he:e<32:=by omega
   have hpar:g%2=1:=by omega
   have hg:g<32:=by omega
   have hv:-15<=v/\v<=15:=by omega
   have hadd:∀w,(binOp .add 3 (.int .i64 e) (.int .i64 c)).run prog w=.ok (.int .i64 g) w:=fun w=>by rw[mH e c (by omega) (by omega),hgv]
   have hsub:∀w,(binOp .sub 3 (.int .i64 g) (.int .i64 (32*((g/16:Nat):Int)))).run prog w=.ok (.int .i64 v) w:=fun w=>by rw[Ax _ _ (by omega) (by omega),hvv]
   have M0:RG.M w w.heap.size [] 33 [(wn n),(dg (fun _=>0)),(dg d)] [k1,k2,k3] [(1,(.p 0 0)),(2,(.p 1 0)),(3,(.p 2 0)),(4,(.v (.int .i64 c))),(5,(.v (.int .i64 i)))] a _:=⟨hS,sl,⟨f1,f2,f3,f4,f5,trivial⟩⟩
   repeat refine wp_seq ?_
   refine M0.u [.x 7 [] (.int .i64 i),.x 8 [(7,0)] (.bool true)] [(1,(.p 0 0)),(2,(.p 1 0)),(3,(.p 2 0)),(4,(.v (.int .i64 c))),(5,(.v (.int .i64 i))),(8,(.v (.bool true)))] ⟨RG.st,RG.aI rfl .lss 3 3 7 (.int .i64 i) (.int .i64 257) (.bool true) rfl rfl RG.sx (fun w=>by kernel_rfl) (dE (n:=257) hi),trivial⟩ ?_;intro a1 w1 M1;repeat refine wp_seq ?_
   refine wp_cond_true M1.ev ?_;refine wp_skip ?_;refine wp_seq ?_;refine wp_block ?_;repeat refine wp_seq ?_
   refine M1.u [.x 11 [] (nv n),.x 12 [] (.int .i64 i),.c 13 [(11,0),(12,1)] (.int .i64 b),.x 14 [] (.int .i64 c),.x 15 [(13,2),(14,3)] (.bool false)] [(1,(.p 0 0)),(2,(.p 1 0)),(3,(.p 2 0)),(4,(.v (.int .i64 c))),(5,(.v (.int .i64 i))),(15,(.v (.bool false)))] ⟨RG.ld u85 i85,RG.st,RG.cl (hB1),RG.st,RG.aG rfl .eql 3 3 13 14 (.int .i64 b) (.int .i64 c) (.bool false) rfl rfl RG.sx RG.sx (fun w=>by kernel_rfl) (N8 hb),trivial⟩ ?_;intro a2 w2 M2;repeat refine wp_seq ?_
   refine wp_cond_false M2.ev ?_;refine wp_skip ?_;repeat refine wp_seq ?_
   refine M2.u [.x 16 [] (nv n),.x 17 [] (.int .i64 i),.c 18 [(16,0),(17,1)] (.int .i64 e),.x 19 [] (.int .i64 c),.x 20 [(18,2),(19,3)] (.int .i64 g),.x 6 [(20,4)] (.int .i64 g)] [(1,(.p 0 0)),(2,(.p 1 0)),(3,(.p 2 0)),(4,(.v (.int .i64 c))),(5,(.v (.int .i64 i))),(6,(.v (.int .i64 g)))] ⟨RG.ld u85 i85,RG.st,RG.cl (hB5),RG.st,RG.aG rfl .add 3 3 18 19 (.int .i64 e) (.int .i64 c) (.int .i64 g) rfl rfl RG.sx RG.sx (fun w=>by kernel_rfl) (hadd),RG.st,trivial⟩ ?_;intro a3 w3 M3;repeat refine wp_seq ?_
   refine M3.u [.x 21 [] (.int .i64 g),.x 22 [(21,0)] (.int .i64 ((g/16:Nat):Int)),.x 4 [(22,1)] (.int .i64 ((g/16:Nat):Int))] [(1,(.p 0 0)),(2,(.p 1 0)),(3,(.p 2 0)),(4,(.v (.int .i64 ((g/16:Nat):Int)))),(5,(.v (.int .i64 i))),(6,(.v (.int .i64 g)))] ⟨RG.st,RG.aI rfl .shr 3 202 21 (.int .i64 g) (.int .u64 4) (.int .i64 ((g/16:Nat):Int)) rfl rfl RG.sx (fun w=>by kernel_rfl) (OP g hg),RG.st,trivial⟩ ?_;intro a4 w4 M4;repeat refine wp_seq ?_
   refine M4.t [.x 23 [] (.int .i64 i),.x 24 [] (.int .i64 g),.x 25 [] (.int .i64 ((g/16:Nat):Int)),.x 26 [(25,2)] (.int .i64 (32*((g/16:Nat):Int))),.x 27 [(24,1),(26,3)] (.int .i64 v),.x 28 [(27,4)] (.int .i8 v),.s 29 [(23,0)] (.p 2 i),.u [(29,6),(28,5)] 2] [] [(2,7,(dg (DG.upd d i v)))] [(wn n),(dg (fun _=>0)),(dg (DG.upd d i v))] [(1,(.p 0 0)),(2,(.p 1 0)),(3,(.p 2 0)),(4,(.v (.int .i64 ((g/16:Nat):Int)))),(5,(.v (.int .i64 i)))] ⟨RG.st,RG.st,RG.st,RG.aI rfl .shl 3 202 25 (.int .i64 ((g/16:Nat):Int)) (.int .u64 5) (.int .i64 (32*((g/16:Nat):Int))) rfl rfl RG.sx (fun w=>by kernel_rfl) (OQ (g/16) (by omega)),RG.aG rfl .sub 3 3 24 26 (.int .i64 g) (.int .i64 (32*((g/16:Nat):Int))) (.int .i64 v) rfl rfl RG.sx RG.sx (fun w=>by kernel_rfl) (hsub),RG.EL rfl 3 145 27 (.int .i64 v) (.int .i8 v) rfl rfl RG.sx (cv8 v hv),RG.aK rfl 146 3 23 rfl (.p 2 0) (.int .i64 i) RG.sx RG.sx (fun μ w=>MI _ i hi w),RG.EK 2 i rfl _ rfl 145 (.tmp 29) (.tmp 28) (.int .i8 v) rfl rfl RG.sx RG.sx (by show i<(dg _).length;rw[bF];exact hi) (Mr d i v) Pi rfl rfl,trivial⟩ ?_;intro a5 w5 M5;repeat refine wp_seq ?_
   refine M5.u [.x 30 [] (.int .i64 i),.x 31 [(30,0)] (.int .i64 ((i+4:Nat):Int)),.x 5 [(31,1)] (.int .i64 ((i+4:Nat):Int))] [(1,(.p 0 0)),(2,(.p 1 0)),(3,(.p 2 0)),(4,(.v (.int .i64 ((g/16:Nat):Int)))),(5,(.v (.int .i64 ((i+4:Nat):Int))))] ⟨RG.st,RG.aI rfl .add 3 3 30 (.int .i64 i) (.int .i64 4) (.int .i64 ((i+4:Nat):Int)) rfl rfl RG.sx (fun w=>by kernel_rfl) (mH i 4 (by omega) (by omega)),RG.st,trivial⟩ ?_;intro a6 w6 M6;repeat refine wp_seq ?_
   refine M6.u [.x 9 [] (.int .i64 ((i+4:Nat):Int)),.x 10 [(9,0)] (.int .i64 ((i+4+1:Nat):Int)),.x 5 [(10,1)] (.int .i64 ((i+4+1:Nat):Int))] [(1,(.p 0 0)),(2,(.p 1 0)),(3,(.p 2 0)),(4,(.v (.int .i64 ((g/16:Nat):Int)))),(5,(.v (.int .i64 ((i+4+1:Nat):Int))))] ⟨RG.st,RG.aI rfl .add 3 3 9 (.int .i64 ((i+4:Nat):Int)) (.int .i64 1) (.int .i64 ((i+4+1:Nat):Int)) rfl rfl RG.sx (fun w=>by kernel_rfl) (mH (i+4) 1 (by omega) (by omega)),RG.st,trivial⟩ ?_;intro a7 w7 M7;have f1_7:a7.tmps[1]? = some (.pointer (some ⟨k1,0,none⟩)):=M7.at (s:=(.p 0 0));have f2_7:a7.tmps[2]? = some (.pointer (some ⟨k2,0,none⟩)):=M7.at (s:=(.p 1 0));have f3_7:a7.tmps[3]? = some (.pointer (some ⟨k3,0,none⟩)):=M7.at (s:=(.p 2 0));have f4_7:a7.tmps[4]? = some (.int .i64 ((g/16:Nat):Int)):=M7.at (s:=(.v (.int .i64 ((g/16:Nat):Int))));have f5_7:a7.tmps[5]? = some (.int .i64 ((i+4+1:Nat):Int)):=M7.at (s:=(.v (.int .i64 ((i+4+1:Nat):Int))));show ∃n',_;exact⟨m',Su m',DG.upd d i v,i+5,g/16,by omega,by omega,by omega,hd,M7.sl,f1_7,f2_7,f3_7,f4_7,f5_7,M7.st⟩
 ·have hD:d=dL n:=by rw[<-hd,Dh n m d i c hi]
  have M0:RG.M w w.heap.size [] 33 [(wn n),(dg (fun _=>0)),(dg d)] [k1,k2,k3] [(1,(.p 0 0)),(2,(.p 1 0)),(3,(.p 2 0)),(4,(.v (.int .i64 c))),(5,(.v (.int .i64 i)))] a _:=⟨hS,sl,⟨f1,f2,f3,f4,f5,trivial⟩⟩
  repeat refine wp_seq ?_
  refine M0.u [.x 7 [] (.int .i64 i),.x 8 [(7,0)] (.bool false)] [(2,(.p 1 0)),(3,(.p 2 0)),(8,(.v (.bool false)))] ⟨RG.st,RG.aI rfl .lss 3 3 7 (.int .i64 i) (.int .i64 257) (.bool false) rfl rfl RG.sx (fun w=>by kernel_rfl) (fY (n:=257) hi),trivial⟩ ?_;intro a1 w1 M1;repeat refine wp_seq ?_
  refine wp_cond_false M1.ev ?_;refine wp_exit ?_;dsimp only[Exit.then,So];rw[if_pos rfl];repeat refine wp_seq ?_
  refine M1.t [.x 32 [] (dv d),.u [(32,0)] 1] [] [(1,1,(dg d))] [(wn n),(dg d),(dg d)] [(2,(.p 1 0))] ⟨RG.lM rfl 2 0 _ rfl rfl (by kernel_rfl) 146 3 rfl (dg d) rfl RG.sx (Mq _) u138 (by rw[bF];exact i138),RG.Hr 1 rfl _ rfl 146 (.tmp 2) (.tmp 32) rfl rfl (by show(dg _).length=(dg _).length;rw[bF,bF]) RG.sx RG.sx (by show _=some (dg _).length;rw[bF];exact i138) (Ha _),trivial⟩ ?_;intro a2 w2 M2;refine wp_ret ?_;refine bodyPost_ret (v:=dv d) (RG.aC M2.st 2 146 rfl 1 _ rfl (M2.at (s:=(.p 1 0))) u138 (by rw[bF];exact i138)) M2.sl.defers ?_;exact⟨_,rfl,M2.st.bel.below,by rw[hD]⟩
omit [NeZero P] in
theorem b9(t:T3 P):(tw t).length=12:=rfl
omit [NeZero P] in
theorem Fj(t:T3 P):(tw t).all (·.oneCell')=true:=rfl
def od(x y:Fin P):Nat->T3 P
 | 0=>raJ x y
 | q+1=>plJ (od x y q) (twJ (raJ x y))
theorem LZ(C:Fld P){x y:Fin P}{p:EC.Pt P}(h:EC.Pair x y p)(hp:EC.On p):∀q,JacT (od x y q) (EC.cZ ((2*q+1:Nat):Int) p)
 | 0=>by
  show JacT (raJ x y) (EC.cZ 1 p);rw[EC.xK];exact Ko C h hp
 | q+1=>by
  have h1:=LZ C h hp q;have h2:=(Ko C h hp).twice C;have h3:=h1.plus C h2;have e:EC.cZ ((2*(q+1)+1:Nat):Int) p=EC.add (EC.cZ ((2*q+1:Nat):Int) p) (EC.add p p):=by
   have:EC.add p p=EC.cZ 2 p:=by
    rw[show(2:Int)=1+1 by rfl,EC.qL C.cur hp,EC.xK]
   rw[this,<-EC.qL C.cur hp]
   congr 1
  rw[e];exact h3
structure Fi(x y:Fin P)(D:Nat->Int)(C0:List Value)(off m:Nat)(C:List Value):Prop where
 len:C.length=C0.length
 out:∀j,j<off\/off+353<=j->C[j]? = C0[j]?
 dig:∀j,j<257->C[off+96+j]? = some (.int .i8 (D j))
 odd:∀q j,q<m->j<12->C[off+12*q+j]? = (tw (od x y q))[j]?
theorem Fi.first{x y:Fin P}{D:Nat->Int}{C0:List Value}{off:Nat}(h:off+353<=C0.length):Fi x y D C0 off 0 (RG.rep C0 (off+96) (dg D)):=by
 have hl:off+96+(dg D).length<=C0.length:=by rw[bF];omega
 refine⟨RG.bV hl,fun j hj=>?_,fun j hj=>?_,fun q j hq _=>by omega⟩
 ·rw[RG.rep_at hl,if_neg (by rw[bF];omega)]
 ·rw[RG.rep_at hl,if_pos (by rw[bF];omega),show off+96+j-(off+96)=j by omega,Hb D j hj]
theorem Fi.next{x y:Fin P}{D:Nat->Int}{C0 C:List Value}{off m:Nat}(h:off+353<=C0.length)(hF:Fi x y D C0 off m C)(hm:m<8):Fi x y D C0 off (m+1) (RG.rep C (off+12*m) (tw (od x y m))):=by
 have hlen:=hF.len;have hl:off+12*m+(tw (od x y m)).length<=C.length:=by rw[b9];omega
 refine⟨by rw[RG.bV hl];exact hlen,fun j hj=>?_,fun j hj=>?_,fun q j hq hj=>?_⟩
 ·rw[RG.rep_at hl,if_neg (by rw[b9];omega)];exact hF.out j hj
 ·rw[RG.rep_at hl,if_neg (by rw[b9];omega)];exact hF.dig j hj
 ·rw[RG.rep_at hl];by_cases hqm:q=m
  ·subst hqm;rw[if_pos (by rw[b9];omega),show off+12*q+j-(off+12*q)=j by omega]
  ·rw[if_neg (by rw[b9];omega)];exact hF.odd q j (by omega) hj
theorem Fi.sub{x y:Fin P}{D:Nat->Int}{C0 C:List Value}{off m q:Nat}(h:off+353<=C0.length)(hF:Fi x y D C0 off m C)(hq:q<m)(hm:m<=8):(C.drop (off+12*q)).take (tw (od x y q)).length=tw (od x y q):=
 RG.Lk (fun j hj=>hF.odd q j hq (by rw[b9]at hj;exact hj)) (by rw[b9];have:=hF.len;omega)
def fc(x y:Fin P)(D:Nat->Int)(C0:List Value)(off:Nat):Nat->List Value
 | 0=>RG.rep C0 (off+96) (dg D)
 | m+1=>RG.rep (fc x y D C0 off m) (off+12*m) (tw (od x y m))
theorem Da{x y:Fin P}{D:Nat->Int}{C0:List Value}{off:Nat}(h:off+353<=C0.length):∀m,m<=8->Fi x y D C0 off m (fc x y D C0 off m)
 | 0,_=>Fi.first h
 | m+1,hm=>(Da h m (by omega)).next h (by omega)
theorem Fi.uniq{x y:Fin P}{D:Nat->Int}{C0 C C':List Value}{off:Nat}(h:Fi x y D C0 off 8 C)(h':Fi x y D C0 off 8 C'):C=C':=by
 apply U9;intro j;by_cases h1:j<off\/off+353<=j
 ·rw[h.out j h1,h'.out j h1]
 ·by_cases h2:j<off+96
  ·have e:j=off+12*((j-off)/12)+(j-off)%12:=by omega
   rw[e,h.odd _ _ (by omega) (by omega),h'.odd _ _ (by omega) (by omega)]
  ·have e:j=off+96+(j-off-96):=by omega
   rw[e,h.dig _ (by omega),h'.dig _ (by omega)]
theorem Mo(F:Fld P){n:Nat}(hn:n<top)(x y:Fin P)(C0:List Value)(kt off:Nat)(hoff:off+353<=C0.length)(w:World)(hk:kt<w.heap.size)(ht:w.there kt 0 C0.length)(hr:w.rangeAt kt 0 C0):
 Calls prog 79 #[.pointer (some ⟨kt,off,none⟩),nv n,pv x y] w (Ret fun r w'=>(∃C,Fi x y (dL n) C0 off 8 C/\RG.PutTo kt C0.length C w w')/\r=.tuple #[]):=by
 obtain⟨D,hDe⟩:∃D,dL n=D:=⟨_,rfl⟩
 have hD:Gives 121 #[nv n] (dv D):=hDe ▸ G9 hn;obtain⟨s0,hs0e⟩:∃s,raJ x y=s:=⟨_,rfl⟩
 have hs0:Gives 122 #[pv x y] (tv s0):=hs0e ▸ Nz F x y;obtain⟨s2,hs2e⟩:∃s,twJ s0=s:=⟨_,rfl⟩
 have hs2:Gives 80 #[tv s0] (tv s2):=hs2e ▸ Kk F s0;obtain⟨C1,hC1e⟩:∃c,RG.rep C0 (off+96) (dg D)=c:=⟨_,rfl⟩
 have hlD:off+96+(dg D).length<=C0.length:=by rw[bF];omega
 have hC1:=hC1e ▸ RG.rep_at hlD;have hL1:C1.length=C0.length:=hC1e ▸ RG.bV hlD;have F1:Fi x y D C0 off 0 C1:=hC1e ▸ Fi.first hoff;obtain⟨C2,hC2e⟩:∃c,RG.rep C1 (off+0+12*0) (tw s0)=c:=⟨_,rfl⟩
 have hlS:off+0+12*0+(tw s0).length<=C1.length:=by rw[b9];omega
 have hC2:=hC2e ▸ RG.rep_at hlS;have hL2:C2.length=C1.length:=hC2e ▸ RG.bV hlS;have F2:Fi x y D C0 off 1 C2:=by
  have:=F1.next hoff (by decide);rw[<-hC2e,<-hs0e];exact this
 have hsub0:(C2.drop (off+0+12*0)).take (tw s0).length=tw s0:=by
  have:=F2.sub hoff (q:=0) (by decide) (by decide);rw[<-hs0e];exact this
 obtain⟨i,hi0⟩:∃i:Nat,i=0:=⟨_,rfl⟩
 obtain⟨s3,-⟩:∃s:T3 P,s=s0:=⟨_,rfl⟩
 obtain⟨sp,-⟩:∃s:T3 P,s=s0:=⟨_,rfl⟩
 go_enter Tryz.func79,Tryz.ntmps79;refine RG.OD (v0:=.pointer (some ⟨kt,off,none⟩)) (v1:=nv n) (v2:=pv x y) (n:=43) (by kernel_rfl) (by kernel_rfl) (by kernel_rfl) (by kernel_rfl) (by kernel_rfl) ?_;intro a0 sl0 f0 f1 f2;have hS0:=RG.St.lent hk hr ht;have M0:RG.M w w.heap.size [kt] 43 [C0] [kt] [(0,(.p 0 off)),(1,(.v (nv n))),(2,(.v (pv x y)))] a0 _:=⟨hS0,sl0,⟨f0,f1,f2,trivial⟩⟩
 repeat refine wp_seq ?_
 refine M0.t [.m 4 [] 1,.m 5 [] 2] [(0,(wn n)),(1,(ws x++(ws y)))] [] [C0,(wn n),(ws x++(ws y))] [(0,(.p 0 off)),(4,(.p 1 0)),(5,(.p 2 0))] ⟨RG.mk 1 41,RG.mk 2 43,trivial⟩ ?_;intro j1 i1 a1 w1 M1;have f0_1:a1.tmps[0]? = some (.pointer (some ⟨kt,off,none⟩)):=M1.at (s:=(.p 0 off));have f4_1:a1.tmps[4]? = some (.pointer (some ⟨j1,0,none⟩)):=M1.at (s:=(.p 1 0));have f5_1:a1.tmps[5]? = some (.pointer (some ⟨i1,0,none⟩)):=M1.at (s:=(.p 2 0));have M1:RG.M w w.heap.size [kt] 43 [C0,(wn n),(ws x++(ws y))] [kt,j1,i1] [(0,(.p 0 off)),(4,(.p 1 0)),(5,(.p 2 0))] a1 _:=⟨M1.st,M1.sl,⟨f0_1,f4_1,f5_1,trivial⟩⟩
 repeat refine wp_seq ?_
 refine M1.tx [.s 8 [] (.p 0 off),.x 9 [] (nv n),.c 10 [(9,1)] (dv D),.s 11 [(8,0)] (.p 0 off),.s 12 [(11,3)] (.p 0 (off+96)),.u [(12,4),(10,2)] 0] [] [(0,5,C1)] [C1,(wn n),(ws x++(ws y))] [(0,(.p 0 off)),(5,(.p 2 0))] (by kernel_rfl) (congrArg (fun n=>[n]) hL1) ⟨RG.st,RG.ld u85 i85,RG.cl (hD),RG.st,RG.st,RG.cU 0 (off+96) rfl _ rfl 146 (.tmp 12) (.tmp 10) (dg D) rfl rfl RG.sx RG.sx (by show off+96+(dg D).length<=C0.length;rw[bF];omega) (hC1) (by show _=some (dg _).length;rw[bF];exact i138) (Ha _),trivial⟩ ?_;intro a2 w2 M2;have f0_2:a2.tmps[0]? = some (.pointer (some ⟨kt,off,none⟩)):=M2.at (s:=(.p 0 off));have f5_2:a2.tmps[5]? = some (.pointer (some ⟨i1,0,none⟩)):=M2.at (s:=(.p 2 0));have M2:RG.M w w.heap.size [kt] 43 [C1,(wn n),(ws x++(ws y))] [kt,j1,i1] [(0,(.p 0 off)),(5,(.p 2 0))] a2 _:=⟨M2.st,M2.sl,⟨f0_2,f5_2,trivial⟩⟩
 repeat refine wp_seq ?_
 refine M2.dr (by kernel_rfl) [.s 13 [] (.p 0 off),.x 14 [] (pv x y),.c 15 [(14,1)] (tv s0),.s 16 [(13,0)] (.p 0 off),.s 17 [(16,3)] (.p 0 (off+0)),.s 18 [(17,4)] (.p 0 ((off+0)+12*0)),.u [(18,5),(15,2)] 0] [] [(0,6,C2)] [C2,(wn n),(ws x++(ws y))] [(0,(.p 0 off))] (by kernel_rfl) (congrArg (fun n=>[n]) hL2) ⟨RG.st,RG.ld gP i109,RG.cl (hs0),RG.st,RG.st,RG.dC rfl 144 17 (.int .i64 0) rfl (.p 0 (off+0)) RG.sx (fun μ w=>Dy _ _ 0 (by decide) w),RG.cU 0 ((off+0)+12*0) rfl _ rfl 143 (.tmp 18) (.tmp 15) (tw s0) rfl rfl RG.sx RG.sx (by show off+0+12*0+(tw s0).length<=C1.length;rw[b9];omega) (hC2) i117 (Fj _),trivial⟩ ?_;intro a3 w3 M3;have f0_3:a3.tmps[0]? = some (.pointer (some ⟨kt,off,none⟩)):=M3.at (s:=(.p 0 off));have M3:RG.M w w.heap.size [kt] 43 [C2,(wn n),(ws x++(ws y))] [kt,j1,i1] [(0,(.p 0 off))] a3 _:=⟨M3.st,M3.sl,⟨f0_3,trivial⟩⟩
 repeat refine wp_seq ?_
 refine M3.t [.s 19 [] (.p 0 off),.s 20 [(19,0)] (.p 0 off),.s 21 [(20,1)] (.p 0 (off+0)),.s 22 [(21,2)] (.p 0 ((off+0)+12*0)),.x 23 [(22,3)] (tv s0),.c 24 [(23,4)] (tv s2),.m 6 [] 3,.u [(6,6),(24,5)] 3] [(6,(RG.z 12))] [(3,7,(tw s2))] [C2,(wn n),(ws x++(ws y)),(tw s2)] [(0,(.p 0 off)),(6,(.p 3 0))] ⟨RG.st,RG.st,RG.st,RG.dC rfl 144 21 (.int .i64 0) rfl (.p 0 (off+0)) RG.sx (fun μ w=>Dy _ _ 0 (by decide) w),RG.lM rfl 0 ((off+0)+12*0) _ rfl rfl (by kernel_rfl) 143 22 rfl (tw s0) rfl RG.sx (hsub0) fA i117,RG.cl (hs2),RG.mk 3 143,RG.pt i117,trivial⟩ ?_;intro j4 a4 w4 M4;repeat refine wp_seq ?_
 refine M4.u [.x 7 [] (.int .i64 1)] [(0,(.p 0 off)),(6,(.p 3 0)),(7,(.v (.int .i64 1)))] ⟨RG.st,trivial⟩ ?_;intro a5 w5 M5;have f0_5:a5.tmps[0]? = some (.pointer (some ⟨kt,off,none⟩)):=M5.at (s:=(.p 0 off));have f6_5:a5.tmps[6]? = some (.pointer (some ⟨j4,0,none⟩)):=M5.at (s:=(.p 3 0));have f7_5:a5.tmps[7]? = some (.int .i64 1):=M5.at (s:=(.v (.int .i64 1)));subst hDe;subst hs0e;subst hs2e;clear hC1 hC2 hsub0 hL1 hL2 hlD hlS;repeat refine wp_seq ?_
 refine wp_block ?_;refine wp_loop_ghost (fun m a wr=>∃(i:Nat) (C:List Value),1<=i/\i<=8/\i+m=8/\Fi x y (dL n) C0 off i C/\RG.Sl a 43/\a.tmps[0]? = some (.pointer (some ⟨kt,off,none⟩))/\a.tmps[6]? = some (.pointer (some ⟨j4,0,none⟩))/\a.tmps[7]? = some (.int .i64 i)/\RG.St w w.heap.size [kt] [C,wn n,ws x++ws y,tw (twJ (raJ x y))] [kt,j1,i1,j4] wr) 7 ⟨1,C2,by omega,by omega,by omega,F2,M5.sl,f0_5,f6_5,f7_5,M5.st⟩ ?_;intro m a wr;rintro⟨i,C1,hi1,hi8,hm,hF,sl,g0,g6,g7,hS⟩;generalize j1=k1 at g6 hS;generalize i1=k2 at g6 hS;generalize j4=k3 at g6 hS;obtain⟨D,hDe⟩:∃D,dL n=D:=⟨_,rfl⟩
 rw[hDe]at hF;obtain⟨s0,hs0e⟩:∃s,raJ x y=s:=⟨_,rfl⟩
 obtain⟨s2,hs2e⟩:∃s,twJ (raJ x y)=s:=⟨_,rfl⟩
 rw[hs2e]at hS;obtain⟨sp,hspe⟩:∃s,od x y (i-1)=s:=⟨_,rfl⟩
 obtain⟨s3,hs3e⟩:∃s,plJ sp s2=s:=⟨_,rfl⟩
 have hs3:Gives 81 #[tv sp,tv s2] (tv s3):=hs3e ▸ Kq F sp s2;have hlen:=hF.len;by_cases hi:i<8
 ·have hod:od x y i=s3:=by
   obtain⟨q,rfl⟩:∃q,i=q+1:=⟨i-1,by omega⟩
   rw[<-hs3e,<-hspe,<-hs2e];rfl
  have hsubp:(C1.drop (off+0+12*(i-1))).take (tw sp).length=tw sp:=by
   have:=hF.sub hoff (q:=i-1) (by omega) (by omega);rw[hspe]at this;exact this
  obtain⟨C2,hC2e⟩:∃c,RG.rep C1 (off+0+12*i) (tw s3)=c:=⟨_,rfl⟩
  have hlS:off+0+12*i+(tw s3).length<=C1.length:=by rw[b9];omega
  have hC2:=hC2e ▸ RG.rep_at hlS;have hL2:C2.length=C1.length:=hC2e ▸ RG.bV hlS;have hF2:Fi x y D C0 off (i+1) C2:=by
   have:=hF.next hoff hi;rw[hod]at this;rw[<-hC2e];exact this
  have hsb:∀w,(binOp .sub 3 (.int .i64 i) (.int .i64 1)).run prog w=.ok (.int .i64 ((i-1:Nat):Int)) w:=fun w=>by
   rw[Ax _ _ (by omega) (by omega),show(i:Int)-1=((i-1:Nat):Int) by omega]
  clear hs0e hC2e;have M0:RG.M w w.heap.size [kt] 43 [C1,(wn n),(ws x++(ws y)),(tw s2)] [kt,k1,k2,k3] [(0,(.p 0 off)),(6,(.p 3 0)),(7,(.v (.int .i64 i)))] a _:=⟨hS,sl,⟨g0,g6,g7,trivial⟩⟩
  repeat refine wp_seq ?_
  refine M0.u [.x 25 [] (.int .i64 i),.x 26 [(25,0)] (.bool true)] [(0,(.p 0 off)),(6,(.p 3 0)),(7,(.v (.int .i64 i))),(26,(.v (.bool true)))] ⟨RG.st,RG.aI rfl .lss 3 3 25 (.int .i64 i) (.int .i64 8) (.bool true) rfl rfl RG.sx (fun w=>by kernel_rfl) (dE (n:=8) hi),trivial⟩ ?_;intro a1 w1 M1;repeat refine wp_seq ?_
  refine wp_cond_true M1.ev ?_;refine wp_skip ?_;refine wp_seq ?_;refine wp_block ?_;repeat refine wp_seq ?_
  refine M1.dr (by kernel_rfl) [.s 29 [] (.p 0 off),.x 30 [] (.int .i64 i),.s 31 [] (.p 0 off),.x 32 [] (.int .i64 i),.x 33 [(32,3)] (.int .i64 ((i-1:Nat):Int)),.s 34 [(31,2)] (.p 0 off),.s 35 [(34,5)] (.p 0 (off+0)),.s 36 [(35,6),(33,4)] (.p 0 ((off+0)+12*(i-1))),.x 37 [(36,7)] (tv sp),.x 38 [] (tv s2),.c 39 [(37,8),(38,9)] (tv s3),.s 40 [(29,0)] (.p 0 off),.s 41 [(40,11)] (.p 0 (off+0)),.s 42 [(41,12),(30,1)] (.p 0 ((off+0)+12*i)),.u [(42,13),(39,10)] 0] [] [(0,14,C2)] [C2,(wn n),(ws x++(ws y)),(tw s2)] [(0,(.p 0 off)),(6,(.p 3 0)),(7,(.v (.int .i64 i)))] (by kernel_rfl) (congrArg (fun n=>[n]) hL2) ⟨RG.st,RG.st,RG.st,RG.st,RG.aI rfl .sub 3 3 32 (.int .i64 i) (.int .i64 1) (.int .i64 ((i-1:Nat):Int)) rfl rfl RG.sx (fun w=>by kernel_rfl) (hsb),RG.st,RG.st,RG.aK rfl 144 35 33 rfl (.p 0 (off+0)) (.int .i64 ((i-1:Nat):Int)) RG.sx RG.sx (fun μ w=>Dy _ _ (i-1) (by omega) w),RG.lM rfl 0 ((off+0)+12*(i-1)) _ rfl rfl (by kernel_rfl) 143 36 rfl (tw sp) rfl RG.sx (hsubp) fA i117,RG.ld fA i117,RG.cl (hs3),RG.st,RG.st,RG.aK rfl 144 41 30 rfl (.p 0 (off+0)) (.int .i64 i) RG.sx RG.sx (fun μ w=>Dy _ _ i (by omega) w),RG.cU 0 ((off+0)+12*i) rfl _ rfl 143 (.tmp 42) (.tmp 39) (tw s3) rfl rfl RG.sx RG.sx (by show off+0+12*i+(tw s3).length<=C1.length;rw[b9];omega) (hC2) i117 (Fj _),trivial⟩ ?_;intro a2 w2 M2;repeat refine wp_seq ?_
  refine M2.u [.x 27 [] (.int .i64 i),.x 28 [(27,0)] (.int .i64 ((i+1:Nat):Int)),.x 7 [(28,1)] (.int .i64 ((i+1:Nat):Int))] [(0,(.p 0 off)),(6,(.p 3 0)),(7,(.v (.int .i64 ((i+1:Nat):Int))))] ⟨RG.st,RG.aI rfl .add 3 3 27 (.int .i64 i) (.int .i64 1) (.int .i64 ((i+1:Nat):Int)) rfl rfl RG.sx (fun w=>by kernel_rfl) (mH i 1 (by omega) (by omega)),RG.st,trivial⟩ ?_;intro a3 w3 M3;have f0_3:a3.tmps[0]? = some (.pointer (some ⟨kt,off,none⟩)):=M3.at (s:=(.p 0 off));have f6_3:a3.tmps[6]? = some (.pointer (some ⟨k3,0,none⟩)):=M3.at (s:=(.p 3 0));have f7_3:a3.tmps[7]? = some (.int .i64 ((i+1:Nat):Int)):=M3.at (s:=(.v (.int .i64 ((i+1:Nat):Int))));show ∃n',_;exact⟨m-1,by omega,i+1,C2,by omega,by omega,by omega,hDe.symm ▸ hF2,M3.sl,f0_3,f6_3,f7_3,by rw[hs2e];exact M3.st⟩
 ·have hi9:i=8:=by omega
  obtain⟨C2,-⟩:∃c:List Value,c=C1:=⟨_,rfl⟩
  have M0:RG.M w w.heap.size [kt] 43 [C1,(wn n),(ws x++(ws y)),(tw s2)] [kt,k1,k2,k3] [(0,(.p 0 off)),(6,(.p 3 0)),(7,(.v (.int .i64 i)))] a _:=⟨hS,sl,⟨g0,g6,g7,trivial⟩⟩
  repeat refine wp_seq ?_
  refine M0.u [.x 25 [] (.int .i64 i),.x 26 [(25,0)] (.bool false)] [(0,(.p 0 off)),(6,(.p 3 0)),(7,(.v (.int .i64 i))),(26,(.v (.bool false)))] ⟨RG.st,RG.aI rfl .lss 3 3 25 (.int .i64 i) (.int .i64 8) (.bool false) rfl rfl RG.sx (fun w=>by kernel_rfl) (fY (n:=8) hi),trivial⟩ ?_;intro a1 w1 M1;repeat refine wp_seq ?_
  refine wp_cond_false M1.ev ?_;refine wp_exit ?_;dsimp only[Exit.then,So];rw[if_pos rfl];have f0_1:a1.tmps[0]? = some (.pointer (some ⟨kt,off,none⟩)):=M1.at (s:=(.p 0 off));have f6_1:a1.tmps[6]? = some (.pointer (some ⟨k3,0,none⟩)):=M1.at (s:=(.p 3 0));have f7_1:a1.tmps[7]? = some (.int .i64 i):=M1.at (s:=(.v (.int .i64 i)));exact⟨M1.sl.defers,.tuple #[],RG.results_none rfl,_,rfl,⟨C1,hDe.symm ▸ hi9 ▸ hF,M1.st.putTo hF.len⟩,rfl⟩
theorem IE(F:Fld P)(kt o k:Nat)(hq:k<8)(s:T3 P)(w:World)(hk:kt<w.heap.size)(hr:w.rangeAt kt (o+0+12*k) (tw s)):Calls prog 82 #[(.pointer (some ⟨kt,o,none⟩)),(.int .i8 (-(2*(k:Int)+1)))] w (Ret fun e w'=>Below w.heap.size w w'/\e=tv (opJ s)):=by
 obtain⟨s2,hs2e⟩:∃s2,opJ s=s2:=⟨_,rfl⟩
 have hs2:Gives 128 #[tv s] (tv s2):=hs2e ▸ Ks F s;have hlss:∀w,(binOp .lss 145 (.int .i8 (-(2*(k:Int)+1))) (.int .i8 0)).run prog w=.ok (.bool true) w:=fun w=>by
  have h1:-(2*(k:Int)+1)<0:=by omega
  go_simp;try omega
 have hneg:∀w,(Xw .neg (.int .i8 (-(2*(k:Int)+1)))).run prog w=.ok (.int .i8 (2*(k:Int)+1)) w:=fun w=>by
  rw[KD _ (by omega),XI]
 go_enter Tryz.func82,Tryz.ntmps82;refine RG.Ix (v0:=(.pointer (some ⟨kt,o,none⟩))) (v1:=(.int .i8 (-(2*(k:Int)+1)))) (n:=23) (by kernel_rfl) (by kernel_rfl) (by kernel_rfl) (by kernel_rfl) ?_;intro a0 sl0 f0 f1;have hS0:=RG.St.begin w;have M0:RG.M w w.heap.size [] 23 [] [] [(0,(.v (.pointer (some ⟨kt,o,none⟩)))),(1,(.v (.int .i8 (-(2*(k:Int)+1)))))] a0 _:=⟨hS0,sl0,⟨f0,f1,trivial⟩⟩
 repeat refine wp_seq ?_
 refine M0.t [.m 4 [] 0] [(0,(RG.z 12))] [] [(RG.z 12)] [(0,(.v (.pointer (some ⟨kt,o,none⟩)))),(1,(.v (.int .i8 (-(2*(k:Int)+1))))),(4,(.p 0 0))] ⟨RG.mk 0 143,trivial⟩ ?_;intro j1 a1 w1 M1;repeat refine wp_seq ?_
 refine M1.u [.x 5 [] (.int .i8 (-(2*(k:Int)+1))),.x 6 [(5,0)] (.bool true)] [(0,(.v (.pointer (some ⟨kt,o,none⟩)))),(1,(.v (.int .i8 (-(2*(k:Int)+1))))),(4,(.p 0 0)),(6,(.v (.bool true)))] ⟨RG.st,RG.aI rfl .lss 145 145 5 (.int .i8 (-(2*(k:Int)+1))) (.int .i8 0) (.bool true) rfl rfl RG.sx (fun w=>by kernel_rfl) (hlss),trivial⟩ ?_;intro a2 w2 M2;repeat refine wp_seq ?_
 refine wp_cond_true M2.ev ?_;repeat refine wp_seq ?_
 refine M2.t [.x 7 [] (.pointer (some ⟨kt,o,none⟩)),.x 8 [] (.int .i8 (-(2*(k:Int)+1))),.x 9 [(8,1)] (.int .i8 (2*(k:Int)+1)),.x 10 [(9,2)] (.int .i8 k),.x 11 [(7,0)] (.pointer (some ⟨kt,o,none⟩)),.x 12 [(11,4)] (.pointer (some ⟨kt,(o+0),none⟩)),.x 13 [(12,5),(10,3)] (.pointer (some ⟨kt,((o+0)+12*k),none⟩)),.x 14 [(13,6)] (tv s),.c 15 [(14,7)] (tv s2),.u [(15,8)] 0] [] [(0,9,(tw s2))] [(tw s2)] [(4,(.p 0 0))] ⟨RG.st,RG.st,RG.JY rfl .neg 145 8 (.int .i8 (-(2*(k:Int)+1))) (.int .i8 (2*(k:Int)+1)) rfl rfl RG.sx (hneg),RG.aI rfl .quo 145 145 9 (.int .i8 (2*(k:Int)+1)) (.int .i8 2) (.int .i8 k) rfl rfl RG.sx (fun w=>by kernel_rfl) (KC k hq),RG.st,RG.st,RG.aK rfl 144 12 10 rfl (.v (.pointer (some ⟨kt,(o+0),none⟩))) (.int .i8 k) RG.sx RG.sx (fun μ w=>H8 _ _ k hq w),RG.cV rfl kt ((o+0)+12*k) hk P4 143 13 rfl (tw s) rfl RG.sx hr fA i117,RG.cl (hs2),RG.pt i117,trivial⟩ ?_;intro a3 w3 M3;refine wp_ret ?_;refine bodyPost_ret (v:=tv s2) (RG.aC M3.st 4 143 rfl 0 _ rfl (M3.at (s:=(.p 0 0))) fA i117) M3.sl.defers ?_;exact⟨_,rfl,M3.st.bel.below,by rw[hs2e]⟩
theorem ID(F:Fld P)(kt o k:Nat)(hq:k<8)(s:T3 P)(w:World)(hk:kt<w.heap.size)(hr:w.rangeAt kt (o+0+12*k) (tw s)):Calls prog 82 #[(.pointer (some ⟨kt,o,none⟩)),(.int .i8 (2*(k:Int)+1))] w (Ret fun e w'=>Below w.heap.size w w'/\e=tv s):=by
 obtain⟨s2,hs2e⟩:∃s2,opJ s=s2:=⟨_,rfl⟩
 have hs2:Gives 128 #[tv s] (tv s2):=hs2e ▸ Ks F s;have hlss:∀w,(binOp .lss 145 (.int .i8 (2*(k:Int)+1)) (.int .i8 0)).run prog w=.ok (.bool false) w:=fun w=>by
  have h1:¬2*(k:Int)+1<0:=by omega
  go_simp;try omega
 have hneg:∀w,(Xw .neg (.int .i8 (-(2*(k:Int)+1)))).run prog w=.ok (.int .i8 (2*(k:Int)+1)) w:=fun w=>by
  rw[KD _ (by omega),XI]
 go_enter Tryz.func82,Tryz.ntmps82;refine RG.Ix (v0:=(.pointer (some ⟨kt,o,none⟩))) (v1:=(.int .i8 (2*(k:Int)+1))) (n:=23) (by kernel_rfl) (by kernel_rfl) (by kernel_rfl) (by kernel_rfl) ?_;intro a0 sl0 f0 f1;have hS0:=RG.St.begin w;have M0:RG.M w w.heap.size [] 23 [] [] [(0,(.v (.pointer (some ⟨kt,o,none⟩)))),(1,(.v (.int .i8 (2*(k:Int)+1))))] a0 _:=⟨hS0,sl0,⟨f0,f1,trivial⟩⟩
 repeat refine wp_seq ?_
 refine M0.t [.m 4 [] 0] [(0,(RG.z 12))] [] [(RG.z 12)] [(0,(.v (.pointer (some ⟨kt,o,none⟩)))),(1,(.v (.int .i8 (2*(k:Int)+1)))),(4,(.p 0 0))] ⟨RG.mk 0 143,trivial⟩ ?_;intro j1 a1 w1 M1;repeat refine wp_seq ?_
 refine M1.u [.x 5 [] (.int .i8 (2*(k:Int)+1)),.x 6 [(5,0)] (.bool false)] [(0,(.v (.pointer (some ⟨kt,o,none⟩)))),(1,(.v (.int .i8 (2*(k:Int)+1)))),(4,(.p 0 0)),(6,(.v (.bool false)))] ⟨RG.st,RG.aI rfl .lss 145 145 5 (.int .i8 (2*(k:Int)+1)) (.int .i8 0) (.bool false) rfl rfl RG.sx (fun w=>by kernel_rfl) (hlss),trivial⟩ ?_;intro a2 w2 M2;repeat refine wp_seq ?_
 refine wp_cond_false M2.ev ?_;refine wp_skip ?_;repeat refine wp_seq ?_
 refine M2.t [.x 16 [] (.pointer (some ⟨kt,o,none⟩)),.x 17 [] (.int .i8 (2*(k:Int)+1)),.x 18 [(17,1)] (.int .i8 k),.x 19 [(16,0)] (.pointer (some ⟨kt,o,none⟩)),.x 20 [(19,3)] (.pointer (some ⟨kt,(o+0),none⟩)),.x 21 [(20,4),(18,2)] (.pointer (some ⟨kt,((o+0)+12*k),none⟩)),.x 22 [(21,5)] (tv s),.u [(22,6)] 0] [] [(0,7,(tw s))] [(tw s)] [(4,(.p 0 0))] ⟨RG.st,RG.st,RG.aI rfl .quo 145 145 17 (.int .i8 (2*(k:Int)+1)) (.int .i8 2) (.int .i8 k) rfl rfl RG.sx (fun w=>by kernel_rfl) (KC k hq),RG.st,RG.st,RG.aK rfl 144 20 18 rfl (.v (.pointer (some ⟨kt,(o+0),none⟩))) (.int .i8 k) RG.sx RG.sx (fun μ w=>H8 _ _ k hq w),RG.cV rfl kt ((o+0)+12*k) hk P4 143 21 rfl (tw s) rfl RG.sx hr fA i117,RG.pt i117,trivial⟩ ?_;intro a3 w3 M3;refine wp_ret ?_;refine bodyPost_ret (v:=tv s) (RG.aC M3.st 4 143 rfl 0 _ rfl (M3.at (s:=(.p 0 0))) fA i117) M3.sl.defers ?_;exact⟨_,rfl,M3.st.bel.below,rfl⟩
def tmJ(x y:Fin P)(d:Int):T3 P:=if d<0 then opJ (od x y ((-d).toNat/2)) else od x y (d.toNat/2)
theorem Nk(C:Fld P){x y:Fin P}{p:EC.Pt P}(h:EC.Pair x y p)(hp:EC.On p){d:Int}(hd:d%2=1):JacT (tmJ x y d) (EC.cZ d p):=by
 unfold tmJ;by_cases hn:d<0
 ·rw[if_pos hn];have h1:=(LZ C h hp ((-d).toNat/2)).neg;rw[<-EC.xM C.cur hp]at h1;rw[show -((2*((-d).toNat/2)+1:Nat):Int)=d by omega]at h1;exact h1
 ·rw[if_neg hn];have h1:=LZ C h hp (d.toNat/2);rw[show((2*(d.toNat/2)+1:Nat):Int)=d by omega]at h1;exact h1
def inn(ns:Nat->Nat)(xs ys:Nat->Fin P)(st:T3 P)(place:Nat):Nat->T3 P
 | 0=>st
 | i+1=>if dL (ns i) place=0 then inn ns xs ys st place i else plJ (inn ns xs ys st place i) (tmJ (xs i) (ys i) (dL (ns i) place))
def eE(ns:Nat->Nat)(xs ys:Nat->Fin P)(N:Nat):Nat->T3 P
 | 0=>(0,0,0)
 | m+1=>inn ns xs ys (twJ (eE ns xs ys N m)) (256-m) N
theorem Kx(C:Fld P){ns:Nat->Nat}{xs ys:Nat->Fin P}{p:Nat->EC.Pt P}{N:Nat}(hns:∀i,i<N->ns i<2^256)(hp:∀i,i<N->EC.Pair (xs i) (ys i) (p i))(ho:∀i,i<N->EC.On (p i)){st:T3 P}{g:Nat->Int}{place:Nat}
 (h:JacT st (EC.tot p N g)):∀i,i<=N->JacT (inn ns xs ys st place i) (EC.tot p N (fun j=>if j<i then g j+dL (ns j) place else g j))
 | 0,_=>by
  have:EC.tot p N (fun j=>if j<0 then g j+dL (ns j) place else g j)=EC.tot p N g:=EC.dM N fun j _=>if_neg (by omega)
  rw[this];exact h
 | i+1,hi=>by
  have ih:=Kx C hns hp ho (place:=place) h i (by omega);have e:EC.tot p N (fun j=>if j<i+1 then g j+dL (ns j) place else g j)=EC.add (EC.tot p N (fun j=>if j<i then g j+dL (ns j) place else g j)) (EC.cZ (dL (ns i) place) (p i)):=by
   rw[<-EC.IA C.cur _ i (dL (ns i) place) N (by omega) ho];refine EC.dM N fun j _=>?_
   by_cases h1:j=i
   ·subst h1;rw[if_pos (by omega),if_pos rfl,if_neg (by omega)]
   ·rw[if_neg h1];by_cases h2:j<i
    ·rw[if_pos (by omega),if_pos h2]
    ·rw[if_neg (by omega),if_neg h2]
  rw[e];unfold inn;by_cases hz:dL (ns i) place=0
  ·rw[if_pos hz,hz,EC.DT,EC.bD];exact ih
  ·rw[if_neg hz];obtain⟨q,c,-,hD⟩:=wQ (hns i (by omega));rcases hD.ho place with h1|h1
   ·exact absurd h1 hz
   ·exact ih.plus C (Nk C (hp i (by omega)) (ho i (by omega)) h1.1)
theorem Ft(C:Fld P){ns:Nat->Nat}{xs ys:Nat->Fin P}{p:Nat->EC.Pt P}{N:Nat}(hns:∀i,i<N->ns i<2^256)(hp:∀i,i<N->EC.Pair (xs i) (ys i) (p i))(ho:∀i,i<N->EC.On (p i)):
 ∀m,m<=257->JacT (eE ns xs ys N m) (EC.tot p N (fun j=>DG.hor (dL (ns j)) m))
 | 0,_=>by
  rw[show EC.tot p N (fun j=>DG.hor (dL (ns j)) 0)=.none from EC.qP p N (fun _ _=>rfl)];exact JacT.none
 | m+1,hm=>by
  have ih:=(Ft C hns hp ho m (by omega)).twice C;rw[<-EC.DY C.cur _ N ho]at ih;have h1:=Kx C hns hp ho (place:=256-m) ih N (PQ _);have e:EC.tot p N (fun j=>DG.hor (dL (ns j)) (m+1))=EC.tot p N (fun j=>if j<N then 2*DG.hor (dL (ns j)) m+dL (ns j) (256-m) else 2*DG.hor (dL (ns j)) m):=
   EC.dM N fun j hj=>by rw[if_pos hj];rfl
  rw[e];exact h1
theorem xU(C:Fld P){ns:Nat->Nat}{xs ys:Nat->Fin P}{p:Nat->EC.Pt P}{N:Nat}(hns:∀i,i<N->ns i<2^256)(hp:∀i,i<N->EC.Pair (xs i) (ys i) (p i))(ho:∀i,i<N->EC.On (p i)):
 JacT (eE ns xs ys N 257) (EC.tot p N (fun j=>(ns j:Int))):=by
 have h:=Ft C hns hp ho 257 (PQ _);have e:EC.tot p N (fun j=>(ns j:Int))=EC.tot p N (fun j=>DG.hor (dL (ns j)) 257):=EC.dM N fun j hj=>by
  obtain⟨q,c,hq,hD⟩:=wQ (hns j hj);exact(DG.JO hD hq).symm
 rw[e];exact h
def cc(ns:Nat->Nat)(xs ys:Nat->Fin P)(C0:List Value):Nat->List Value
 | 0=>C0
 | i+1=>fc (xs i) (ys i) (dL (ns i)) (cc ns xs ys C0 i) (353*i) 8
theorem KI{ns:Nat->Nat}{xs ys:Nat->Fin P}{C0:List Value}{N:Nat}(hl:C0.length=353*N):∀i,i<=N->(cc ns xs ys C0 i).length=353*N /\
 ∀j,j<i->(∀q,q<257->(cc ns xs ys C0 i)[353*j+96+q]? = some (.int .i8 (dL (ns j) q)))/\∀q r,q<8->r<12->(cc ns xs ys C0 i)[353*j+12*q+r]? = (tw (od (xs j) (ys j) q))[r]?
 | 0,_=>⟨hl,fun j hj=>by omega⟩
 | i+1,hi=>by
  obtain⟨h1,h2⟩:=KI hl i (by omega);have hF:=Da (x:=xs i) (y:=ys i) (D:=dL (ns i)) (C0:=cc ns xs ys C0 i) (off:=353*i) (by rw[h1];omega) 8 (PQ _);refine⟨by rw[<-h1];exact hF.len,fun j hj=>?_⟩;by_cases hji:j=i
  ·subst hji;exact⟨hF.dig,fun q r hq hr=>hF.odd q r hq hr⟩
  ·obtain⟨g1,g2⟩:=h2 j (by omega);exact⟨fun q hq=>(hF.out _ (by omega)).trans (g1 q hq),fun q r hq hr=>(hF.out _ (by omega)).trans (g2 q r hq hr)⟩
theorem NL(N:Nat)(hN:N<=512):∃C0:List Value,C0.length=353*N/\∀w:World,(Rm 140 (.int .i64 N) (.int .i64 N)).run prog w=.ok (.slice (some ⟨w.heap.size,0,none⟩) N N) (w.alloc (.cells C0.toArray 148)):=by
 have hu:prog.underlying 140=some (.slice 148):=by kernel_rfl
 have hi:(prog.info? 148).map (fun i=>(i.size,decide (i.bytes<=4000),i.zero.isSome))=some (353,true,true):=by kernel_rfl
 obtain⟨i,hi1,hi2⟩:=PV.1 hi;simp only[Rz.injEq,decide_eq_true_eq]at hi2;obtain⟨h1,h2,h3⟩:=hi2;obtain⟨z,hz⟩:=Qx.1 h3;refine⟨(madeCells z.cells (N*353)).toList,by rw[P8,size_madeCells,Qr],fun w=>?_⟩;have hb:(i.bytes:Int)*(N:Int)<=281474976710656:=by
  have:i.bytes*N<=4000*512:=RJ h2 hN;have h5:((i.bytes*N:Nat):Int)<=281474976710656:=by omega
  rwa[RS]at h5
 have:=run_make (P:=prog) w 140 148 i z hu hi1 hz .i64 .i64 (N:Int) (N:Int) (by omega) (by omega) hb (by omega);rw[Uh,h1]at this;rw[Sz];exact this
theorem GX(F:Fld P){n:Nat}(hn:n<top)(x y:Fin P)(C0:List Value)(kt off:Nat)(hoff:off+353<=C0.length)(w:World)(ht:w.there kt 0 C0.length)(hr:w.rangeAt kt 0 C0):
 Calls prog 79 #[.pointer (some ⟨kt,off,none⟩),nv n,pv x y] w (Ret fun r w'=>RG.PutTo kt C0.length (fc x y (dL n) C0 off 8) w w'/\r=.tuple #[]):=by
 have hk:kt<w.heap.size:=by
  have h1:=(ht 0 (by omega)).1;exact Rc fun hn=>by
   have h2:w.heap[kt]? = none:=Array.getElem?_eq_none (by omega);simp[World.cell?,h2]at h1
 refine(Mo F hn x y C0 kt off hoff w hk ht hr).mono ?_;rintro e w' ⟨v,rfl,⟨C,hF,hP⟩,rfl⟩;refine⟨_,rfl,?_,rfl⟩;rw[(Da hoff 8 (PQ _)).uniq hF];exact hP
theorem IF(F:Fld P)(kt o:Nat)(x y:Fin P){d:Int}(hd:d%2=1)(hd2:-15<=d/\d<=15)(w:World)(hk:kt<w.heap.size)(hr:∀q,q<8->w.rangeAt kt (o+0+12*q) (tw (od x y q))):
 Calls prog 82 #[.pointer (some ⟨kt,o,none⟩),.int .i8 d] w (Ret fun e w'=>Below w.heap.size w w'/\e=tv (tmJ x y d)):=by
 unfold tmJ;by_cases hn:d<0
 ·rw[if_pos hn];have h1:=IE F kt o ((-d).toNat/2) (by omega) (od x y ((-d).toNat/2)) w hk (hr _ (by omega));rw[show -(2*(((-d).toNat/2:Nat):Int)+1)=d by omega]at h1;exact h1
 ·rw[if_neg hn];have h1:=ID F kt o (d.toNat/2) (by omega) (od x y (d.toNat/2)) w hk (hr _ (by omega));rw[show 2*((d.toNat/2:Nat):Int)+1=d by omega]at h1;exact h1
theorem Oh{P:Nat}[NeZero P](w:World):(VY 143 true (.tuple #[])).run prog w=.ok (.pointer (some ⟨w.heap.size,0,none⟩)) (w.alloc (.cells (tw ((0,0,0):T3 P)).toArray 143)):=by
 show _=Result.ok _ (w.alloc (.cells (ws (0:Fin P)++(ws (0:Fin P)++ws (0:Fin P))).toArray 143));rw[<-pZ];kernel_rfl
theorem NJ(w:World):(binOp .neq 145 (.int .i8 0) (.int .i8 0)).run prog w=.ok (.bool false) w:=by kernel_rfl
theorem NI{d:Int}(h:¬d=0)(w:World):(binOp .neq 145 (.int .i8 d) (.int .i8 0)).run prog w=.ok (.bool true) w:=by
 go_simp
theorem sub1'(q:Nat)(hq:q<1000)(w:World):(binOp .sub 3 (.int .i64 q) (.int .i64 1)).run prog w=.ok (.int .i64 ((q:Int)-1)) w:=Ax _ _ (by omega) (by omega) w
theorem geq0'(i:Nat)(w:World):(binOp .geq 3 (.int .i64 i) (.int .i64 0)).run prog w=.ok (.bool true) w:=by
 go_simp
theorem Lj(F:Fld P)(N:Nat)(hN:N<=512)(ns:Nat->Nat)(xs ys:Nat->Fin P)(hns:∀i,i<N->ns i<top)(kn ka:Nat)(w:World)(hkn:kn<w.heap.size)(hka:ka<w.heap.size)
 (hn:∀i,i<N->w.rangeAt kn (4*i) (wn (ns i))) (ha:∀i,i<N->w.rangeAt ka (8*i) (ws (xs i)++ws (ys i))) :
 Calls prog 41 #[(.slice (some ⟨kn,0,none⟩) N N),(.slice (some ⟨ka,0,none⟩) N N)] w (Ret fun e w'=>Below w.heap.size w w'/\∃s,s=eE ns xs ys N 257/\e=pv (s.1*(EC.inv s.2.2*EC.inv s.2.2)) (s.2.1*(EC.inv s.2.2*EC.inv s.2.2)*EC.inv s.2.2)):=by
 obtain⟨C,hCl,hmk⟩:=NL N hN;have hstepC:∀(i:Nat) (c2:List Value),fc (xs i) (ys i) (dL (ns i)) (cc ns xs ys C i) (353*i) 8=c2->cc ns xs ys C (i+1)=c2:=fun i c2 h=>h
 obtain⟨i,-⟩:∃i:Nat,i=0:=⟨_,rfl⟩
 obtain⟨q,-⟩:∃i:Nat,i=0:=⟨_,rfl⟩
 obtain⟨d,-⟩:∃i:Int,i=0:=⟨_,rfl⟩
 obtain⟨C2,-⟩:∃c:List Value,c=C:=⟨_,rfl⟩
 obtain⟨s,-⟩:∃s:T3 P,s=(0,0,0):=⟨_,rfl⟩
 obtain⟨s2,-⟩:∃s:T3 P,s=(0,0,0):=⟨_,rfl⟩
 obtain⟨s3,-⟩:∃s:T3 P,s=(0,0,0):=⟨_,rfl⟩
 obtain⟨s4,-⟩:∃s:T3 P,s=(0,0,0):=⟨_,rfl⟩
 go_enter Tryz.func41,Tryz.ntmps41;refine RG.Ix (v0:=(.slice (some ⟨kn,0,none⟩) N N)) (v1:=(.slice (some ⟨ka,0,none⟩) N N)) (n:=62) (by kernel_rfl) (by kernel_rfl) (by kernel_rfl) (by kernel_rfl) ?_;intro a0 sl0 f0 f1;have hS0:=RG.St.begin w;have M0:RG.M w w.heap.size [] 62 [] [] [(0,(.v (.slice (some ⟨kn,0,none⟩) N N))),(1,(.v (.slice (some ⟨ka,0,none⟩) N N)))] a0 _:=⟨hS0,sl0,⟨f0,f1,trivial⟩⟩
 repeat refine wp_seq ?_
 refine M0.t [.m 4 [] 0] [(0,(RG.z 8))] [] [(RG.z 8)] [(0,(.v (.slice (some ⟨kn,0,none⟩) N N))),(1,(.v (.slice (some ⟨ka,0,none⟩) N N))),(4,(.p 0 0))] ⟨RG.mk 0 43,trivial⟩ ?_;intro j1 a1 w1 M1;repeat refine wp_seq ?_
 refine M1.t [.x 11 [] (.slice (some ⟨kn,0,none⟩) N N),.x 12 [(11,0)] (.int .i64 N),⟨some 13,[(12,1)],(.s 1 N N),.make 1⟩,.s 5 [(13,2)] (.s 1 N N)] [(2,C)] [] [(RG.z 8),C] [(0,(.v (.slice (some ⟨kn,0,none⟩) N N))),(1,(.v (.slice (some ⟨ka,0,none⟩) N N))),(4,(.p 0 0)),(5,(.s 1 N N))] ⟨RG.st,RG.eC rfl 11 (.v (.slice (some ⟨kn,0,none⟩) N N)) (.int .i64 N) rfl RG.sx (fun a w=>by kernel_rfl) (fun μ w=>by kernel_rfl),RG.gC 1 rfl _ rfl 140 148 12 12 N rfl rfl RG.sx RG.sx (hmk),RG.st,trivial⟩ ?_;intro j2 a2 w2 M2;repeat refine wp_seq ?_
 refine M2.u [.s 14 [] (.s 1 N N),.x 15 [(14,0)] (.int .i64 N),.x 16 [] (.int .i64 0)] [(0,(.v (.slice (some ⟨kn,0,none⟩) N N))),(1,(.v (.slice (some ⟨ka,0,none⟩) N N))),(4,(.p 0 0)),(5,(.s 1 N N)),(15,(.v (.int .i64 N))),(16,(.v (.int .i64 0)))] ⟨RG.st,RG.eC rfl 14 (.s 1 N N) (.int .i64 N) rfl RG.sx (fun a w=>by kernel_rfl) (fun μ w=>by kernel_rfl),RG.st,trivial⟩ ?_;intro a3 w3 M3;have f0_3:a3.tmps[0]? = some (.slice (some ⟨kn,0,none⟩) N N):=M3.at (s:=(.v (.slice (some ⟨kn,0,none⟩) N N)));have f1_3:a3.tmps[1]? = some (.slice (some ⟨ka,0,none⟩) N N):=M3.at (s:=(.v (.slice (some ⟨ka,0,none⟩) N N)));have f4_3:a3.tmps[4]? = some (.pointer (some ⟨j1,0,none⟩)):=M3.at (s:=(.p 0 0));have f5_3:a3.tmps[5]? = some (.slice (some ⟨j2,0,none⟩) N N):=M3.at (s:=(.s 1 N N));have f15_3:a3.tmps[15]? = some (.int .i64 N):=M3.at (s:=(.v (.int .i64 N)));have f16_3:a3.tmps[16]? = some (.int .i64 0):=M3.at (s:=(.v (.int .i64 0)));repeat refine wp_seq ?_
 refine wp_block ?_;refine wp_loop_ghost (fun m a wr=>∃i,i+m=N/\RG.Sl a 62/\a.tmps[0]? = some (.slice (some ⟨kn,0,none⟩) N N)/\a.tmps[1]? = some (.slice (some ⟨ka,0,none⟩) N N)/\a.tmps[4]? = some (.pointer (some ⟨j1,0,none⟩))/\a.tmps[5]? = some (.slice (some ⟨j2,0,none⟩) N N)/\a.tmps[15]? = some (.int .i64 N)/\a.tmps[16]? = some (.int .i64 i)/\RG.St w w.heap.size [] [[.int .u64 0,.int .u64 0,.int .u64 0,.int .u64 0,.int .u64 0,.int .u64 0,.int .u64 0,.int .u64 0],cc ns xs ys C i] [j1,j2] wr) N ⟨0,by omega,M3.sl,f0_3,f1_3,f4_3,f5_3,f15_3,f16_3,M3.st⟩ ?_;intro m a wr;rintro⟨i,him,sl,p0,p1,p4,p5,p15,p16,hSp⟩;generalize j1=kr at p4 hSp;generalize j2=kt at p5 hSp;obtain⟨C,hCe⟩:∃c,cc ns xs ys C i=c:=⟨_,rfl⟩
 have hcc:=KI (ns:=ns) (xs:=xs) (ys:=ys) hCl i (by omega);rw[hCe]at hSp hcc;by_cases hi:i<N
 ·obtain⟨C2,hC2e⟩:∃c,fc (xs i) (ys i) (dL (ns i)) C (353*i) 8=c:=⟨_,rfl⟩
  have hoff:353*i+353<=C.length:=by rw[hcc.1];omega
  have hcl:C2.length=C.length:=hC2e ▸ (Da hoff 8 (PQ _)).len;have hfill:∀(k:Nat) (w:World),w.there k 0 C.length->w.rangeAt k 0 C->Calls prog 79 #[.pointer (some ⟨k,353*i,none⟩),nv (ns i),pv (xs i) (ys i)] w (Ret fun r w'=>RG.PutTo k C.length C2 w w'/\r=.tuple #[]):=fun k w ht hr=>hC2e ▸ GX F (hns i hi) (xs i) (ys i) C k (353*i) hoff w ht hr
  have hrn:w.rangeAt kn (0+4*i) (wn (ns i)):=by rw[PU];exact hn i hi
  have hra:w.rangeAt ka (0+8*i) (ws (xs i)++ws (ys i)):=by rw[PU];exact ha i hi
  have M10:RG.M w w.heap.size [] 62 [(RG.z 8),C] [kr,kt] [(0,(.v (.slice (some ⟨kn,0,none⟩) N N))),(1,(.v (.slice (some ⟨ka,0,none⟩) N N))),(4,(.p 0 0)),(5,(.s 1 N N)),(15,(.v (.int .i64 N))),(16,(.v (.int .i64 i)))] a _:=⟨hSp,sl,⟨p0,p1,p4,p5,p15,p16,trivial⟩⟩
  repeat refine wp_seq ?_
  refine M10.u [.x 17 [] (.bool true)] [(0,(.v (.slice (some ⟨kn,0,none⟩) N N))),(1,(.v (.slice (some ⟨ka,0,none⟩) N N))),(4,(.p 0 0)),(5,(.s 1 N N)),(15,(.v (.int .i64 N))),(16,(.v (.int .i64 i))),(17,(.v (.bool true)))] ⟨RG.aG rfl .lss 3 3 16 15 (.int .i64 i) (.int .i64 N) (.bool true) rfl rfl RG.sx RG.sx (fun w=>by kernel_rfl) (dE hi),trivial⟩ ?_;intro a11 w11 M11;repeat refine wp_seq ?_
  refine wp_cond_true M11.ev ?_;refine wp_skip ?_;refine wp_seq ?_;refine wp_block ?_;repeat refine wp_seq ?_
  refine M11.u [.x 18 [] (.int .i64 i),.x 6 [(18,0)] (.int .i64 i)] [(0,(.v (.slice (some ⟨kn,0,none⟩) N N))),(1,(.v (.slice (some ⟨ka,0,none⟩) N N))),(4,(.p 0 0)),(5,(.s 1 N N)),(6,(.v (.int .i64 i))),(15,(.v (.int .i64 N))),(16,(.v (.int .i64 i)))] ⟨RG.st,RG.st,trivial⟩ ?_;intro a12 w12 M12;repeat refine wp_seq ?_
  refine M12.dr (by kernel_rfl) [.s 19 [] (.s 1 N N),.x 20 [] (.int .i64 i),.s 21 [(19,0),(20,1)] (.p 1 (353*i)),.x 22 [] (.slice (some ⟨kn,0,none⟩) N N),.x 23 [] (.int .i64 i),.x 24 [(22,3),(23,4)] (.pointer (some ⟨kn,(0+4*i),none⟩)),.x 25 [(24,5)] (nv (ns i)),.x 26 [] (.slice (some ⟨ka,0,none⟩) N N),.x 27 [] (.int .i64 i),.x 28 [(26,7),(27,8)] (.pointer (some ⟨ka,(0+8*i),none⟩)),.x 29 [(28,9)] (pv (xs i) (ys i)),⟨some 30,[(21,2),(25,6),(29,10)],(.v (.tuple #[])),.put 1⟩] [] [(1,11,C2)] [(RG.z 8),C2] [(0,(.v (.slice (some ⟨kn,0,none⟩) N N))),(1,(.v (.slice (some ⟨ka,0,none⟩) N N))),(4,(.p 0 0)),(5,(.s 1 N N)),(15,(.v (.int .i64 N))),(16,(.v (.int .i64 i)))] (by kernel_rfl) (congrArg (fun n=>[n]) hcl) ⟨RG.st,RG.st,RG.aK rfl 140 19 20 rfl (.s 1 N N) (.int .i64 i) RG.sx RG.sx (fun μ w=>DC _ _ _ i hi w),RG.st,RG.st,RG.aK rfl 87 22 23 rfl (.v (.slice (some ⟨kn,0,none⟩) N N)) (.int .i64 i) RG.sx RG.sx (fun μ w=>Oc _ _ _ _ i hi w),RG.cV rfl kn (0+4*i) hkn P4 41 24 rfl (wn (ns i)) rfl RG.sx hrn u85 i85,RG.st,RG.st,RG.aK rfl 90 26 27 rfl (.v (.slice (some ⟨ka,0,none⟩) N N)) (.int .i64 i) RG.sx RG.sx (fun μ w=>KL _ _ _ _ i hi w),RG.cV rfl ka (0+8*i) hka P4 43 28 rfl (ws (xs i)++ws (ys i)) rfl RG.sx hra gP i109,RG.tO 1 rfl _ rfl 79 21 25 29 (.p 1 (353*i)) (nv (ns i)) (pv (xs i) (ys i)) (.tuple #[]) rfl (fun a w=>by kernel_rfl) RG.sx RG.sx RG.sx (fun μ w ht hr=>hfill (μ 1) w ht hr),trivial⟩ ?_;intro a13 w13 M13;repeat refine wp_seq ?_
  refine M13.u [.x 31 [] (.int .i64 ((i+1:Nat):Int)),.x 16 [(31,0)] (.int .i64 ((i+1:Nat):Int))] [(0,(.v (.slice (some ⟨kn,0,none⟩) N N))),(1,(.v (.slice (some ⟨ka,0,none⟩) N N))),(4,(.p 0 0)),(5,(.s 1 N N)),(15,(.v (.int .i64 N))),(16,(.v (.int .i64 ((i+1:Nat):Int))))] ⟨RG.aI rfl .add 3 3 16 (.int .i64 i) (.int .i64 1) (.int .i64 ((i+1:Nat):Int)) rfl rfl RG.sx (fun w=>by kernel_rfl) (mH i 1 (by omega) (by omega)),RG.st,trivial⟩ ?_;intro a14 w14 M14;have f0_14:a14.tmps[0]? = some (.slice (some ⟨kn,0,none⟩) N N):=M14.at (s:=(.v (.slice (some ⟨kn,0,none⟩) N N)));have f1_14:a14.tmps[1]? = some (.slice (some ⟨ka,0,none⟩) N N):=M14.at (s:=(.v (.slice (some ⟨ka,0,none⟩) N N)));have f4_14:a14.tmps[4]? = some (.pointer (some ⟨kr,0,none⟩)):=M14.at (s:=(.p 0 0));have f5_14:a14.tmps[5]? = some (.slice (some ⟨kt,0,none⟩) N N):=M14.at (s:=(.s 1 N N));have f15_14:a14.tmps[15]? = some (.int .i64 N):=M14.at (s:=(.v (.int .i64 N)));have f16_14:a14.tmps[16]? = some (.int .i64 ((i+1:Nat):Int)):=M14.at (s:=(.v (.int .i64 ((i+1:Nat):Int))));show ∃n',_;refine⟨m-1,by omega,i+1,by omega,M14.sl,f0_14,f1_14,f4_14,f5_14,f15_14,f16_14,?_⟩;rw[hstepC i C2 (by rw[hCe];exact hC2e)];exact M14.st
 ·have hiN:i=N:=by omega
  rw[hiN]at hcc;have hcN:=hcc.2;have M20:RG.M w w.heap.size [] 62 [(RG.z 8),C] [kr,kt] [(0,(.v (.slice (some ⟨kn,0,none⟩) N N))),(1,(.v (.slice (some ⟨ka,0,none⟩) N N))),(4,(.p 0 0)),(5,(.s 1 N N)),(15,(.v (.int .i64 N))),(16,(.v (.int .i64 i)))] a _:=⟨hSp,sl,⟨p0,p1,p4,p5,p15,p16,trivial⟩⟩
  repeat refine wp_seq ?_
  refine M20.u [.x 17 [] (.bool false)] [(4,(.p 0 0)),(5,(.s 1 N N)),(17,(.v (.bool false)))] ⟨RG.aG rfl .lss 3 3 16 15 (.int .i64 i) (.int .i64 N) (.bool false) rfl rfl RG.sx RG.sx (fun w=>by kernel_rfl) (fY hi),trivial⟩ ?_;intro a21 w21 M21;repeat refine wp_seq ?_
  refine wp_cond_false M21.ev ?_;refine wp_exit ?_;dsimp only[Exit.then,So];rw[if_pos rfl];repeat refine wp_seq ?_
  refine M21.t [.m 7 [] 2] [(0,(tw ((0,0,0):T3 P)))] [] [(RG.z 8),C,(tw ((0,0,0):T3 P))] [(4,(.p 0 0)),(5,(.s 1 N N)),(7,(.p 2 0))] ⟨RG.mE 2 rfl rfl _ rfl 143 rfl (Oh),trivial⟩ ?_;intro j22 a22 w22 M22;repeat refine wp_seq ?_
  refine M22.u [.x 8 [] (.int .i64 256)] [(4,(.p 0 0)),(5,(.s 1 N N)),(7,(.p 2 0)),(8,(.v (.int .i64 256)))] ⟨RG.st,trivial⟩ ?_;intro a23 w23 M23;have f4_23:a23.tmps[4]? = some (.pointer (some ⟨kr,0,none⟩)):=M23.at (s:=(.p 0 0));have f5_23:a23.tmps[5]? = some (.slice (some ⟨kt,0,none⟩) N N):=M23.at (s:=(.s 1 N N));have f7_23:a23.tmps[7]? = some (.pointer (some ⟨j22,0,none⟩)):=M23.at (s:=(.p 2 0));have f8_23:a23.tmps[8]? = some (.int .i64 256):=M23.at (s:=(.v (.int .i64 256)));repeat refine wp_seq ?_
  refine wp_block ?_;refine wp_loop_ghost (fun m a wr=>m<=257/\RG.Sl a 62/\a.tmps[4]? = some (.pointer (some ⟨kr,0,none⟩))/\a.tmps[5]? = some (.slice (some ⟨kt,0,none⟩) N N)/\a.tmps[7]? = some (.pointer (some ⟨j22,0,none⟩))/\a.tmps[8]? = some (.int .i64 ((m:Int)-1))/\RG.St w w.heap.size [] [[.int .u64 0,.int .u64 0,.int .u64 0,.int .u64 0,.int .u64 0,.int .u64 0,.int .u64 0,.int .u64 0],C,tw (eE ns xs ys N (257-m))] [kr,kt,j22] wr) 257 ⟨PQ _,M23.sl,f4_23,f5_23,f7_23,f8_23,?_⟩ ?_
  ·rw[TK,eE];exact M23.st
  intro m b wr;rintro⟨hm,slb,q4,q5,q7,q8,hSq⟩;generalize j22=kl at q7 hSq;by_cases hz:m=0
  ·subst hz;rw[show 257-0=257 from rfl]at hSq;obtain⟨s,hse⟩:∃s,eE ns xs ys N 257=s:=⟨_,rfl⟩
   rw[hse]at hSq;have M40:RG.M w w.heap.size [] 62 [(RG.z 8),C,(tw s)] [kr,kt,kl] [(4,(.p 0 0)),(5,(.s 1 N N)),(7,(.p 2 0)),(8,(.v (.int .i64 (-1))))] b _:=⟨hSq,slb,⟨q4,q5,q7,q8,trivial⟩⟩
   repeat refine wp_seq ?_
   refine M40.u [.x 32 [] (.int .i64 (-1)),.x 33 [(32,0)] (.bool false)] [(4,(.p 0 0)),(7,(.p 2 0)),(33,(.v (.bool false)))] ⟨RG.st,RG.st,trivial⟩ ?_;intro a41 w41 M41;repeat refine wp_seq ?_
   refine wp_cond_false M41.ev ?_;refine wp_exit ?_;dsimp only[Exit.then,So];rw[if_pos rfl];repeat refine wp_seq ?_
   refine M41.t [.x 60 [] (tv s),.c 61 [(60,0)] (pv (s.1*(EC.inv s.2.2*EC.inv s.2.2)) (s.2.1*(EC.inv s.2.2*EC.inv s.2.2)*EC.inv s.2.2)),.u [(61,1)] 0] [] [(0,2,(ws (s.1*(EC.inv s.2.2*EC.inv s.2.2))++(ws (s.2.1*(EC.inv s.2.2*EC.inv s.2.2)*EC.inv s.2.2))))] [(ws (s.1*(EC.inv s.2.2*EC.inv s.2.2))++(ws (s.2.1*(EC.inv s.2.2*EC.inv s.2.2)*EC.inv s.2.2))),C,(tw s)] [(4,(.p 0 0))] ⟨RG.ld fA i117,RG.cl (NB F s),RG.pt i109,trivial⟩ ?_;intro a42 w42 M42;refine wp_ret ?_;refine bodyPost_ret (v:=pv (s.1*(EC.inv s.2.2*EC.inv s.2.2)) (s.2.1*(EC.inv s.2.2*EC.inv s.2.2)*EC.inv s.2.2)) (RG.aC M42.st 4 43 rfl 0 _ rfl (M42.at (s:=(.p 0 0))) gP i109) M42.sl.defers ?_;exact⟨_,rfl,M42.st.bel.below,s,hse.symm,rfl⟩
  ·obtain⟨q,rfl⟩:∃q,m=q+1:=⟨m-1,by omega⟩
   have hq:q<257:=by omega
   replace q8:b.tmps[8]? = some (.int .i64 q):=by rw[q8];congr 2;omega
   obtain⟨s,hse⟩:∃s,eE ns xs ys N (257-(q+1))=s:=⟨_,rfl⟩
   rw[hse]at hSq;obtain⟨s2,hs2e⟩:∃t,twJ s=t:=⟨_,rfl⟩
   have hs2:Gives 80 #[tv s] (tv s2):=hs2e ▸ Kk F s;have hnext:eE ns xs ys N (257-q)=inn ns xs ys s2 q N:=by
    rw[show 257-q=257-(q+1)+1 by omega];show inn ns xs ys (twJ (eE ns xs ys N (257-(q+1)))) (256-(257-(q+1))) N=_;rw[hse,hs2e,show 256-(257-(q+1))=q by omega]
   have M30:RG.M w w.heap.size [] 62 [(RG.z 8),C,(tw s)] [kr,kt,kl] [(4,(.p 0 0)),(5,(.s 1 N N)),(7,(.p 2 0)),(8,(.v (.int .i64 q)))] b _:=⟨hSq,slb,⟨q4,q5,q7,q8,trivial⟩⟩
   repeat refine wp_seq ?_
   refine M30.u [.x 32 [] (.int .i64 q),.x 33 [(32,0)] (.bool true)] [(4,(.p 0 0)),(5,(.s 1 N N)),(7,(.p 2 0)),(8,(.v (.int .i64 q))),(33,(.v (.bool true)))] ⟨RG.st,RG.aI rfl .geq 3 3 32 (.int .i64 q) (.int .i64 0) (.bool true) rfl rfl RG.sx (fun w=>by kernel_rfl) (geq0' q),trivial⟩ ?_;intro a31 w31 M31;repeat refine wp_seq ?_
   refine wp_cond_true M31.ev ?_;refine wp_skip ?_;refine wp_seq ?_;refine wp_block ?_;repeat refine wp_seq ?_
   refine M31.t [.x 36 [] (tv s),.c 37 [(36,0)] (tv s2),.u [(37,1)] 2] [] [(2,2,(tw s2))] [(RG.z 8),C,(tw s2)] [(4,(.p 0 0)),(5,(.s 1 N N)),(7,(.p 2 0)),(8,(.v (.int .i64 q)))] ⟨RG.ld fA i117,RG.cl (hs2),RG.pt i117,trivial⟩ ?_;intro a32 w32 M32;repeat refine wp_seq ?_
   refine M32.u [.s 38 [] (.s 1 N N),.x 39 [(38,0)] (.int .i64 N),.x 40 [] (.int .i64 0)] [(4,(.p 0 0)),(5,(.s 1 N N)),(7,(.p 2 0)),(8,(.v (.int .i64 q))),(39,(.v (.int .i64 N))),(40,(.v (.int .i64 0)))] ⟨RG.st,RG.eC rfl 38 (.s 1 N N) (.int .i64 N) rfl RG.sx (fun a w=>by kernel_rfl) (fun μ w=>by kernel_rfl),RG.st,trivial⟩ ?_;intro a33 w33 M33;have f4_33:a33.tmps[4]? = some (.pointer (some ⟨kr,0,none⟩)):=M33.at (s:=(.p 0 0));have f5_33:a33.tmps[5]? = some (.slice (some ⟨kt,0,none⟩) N N):=M33.at (s:=(.s 1 N N));have f7_33:a33.tmps[7]? = some (.pointer (some ⟨kl,0,none⟩)):=M33.at (s:=(.p 2 0));have f8_33:a33.tmps[8]? = some (.int .i64 q):=M33.at (s:=(.v (.int .i64 q)));have f39_33:a33.tmps[39]? = some (.int .i64 N):=M33.at (s:=(.v (.int .i64 N)));have f40_33:a33.tmps[40]? = some (.int .i64 0):=M33.at (s:=(.v (.int .i64 0)));repeat refine wp_seq ?_
   refine wp_block ?_;refine wp_loop_ghost (fun m a wr=>∃i,i+m=N/\RG.Sl a 62/\a.tmps[4]? = some (.pointer (some ⟨kr,0,none⟩))/\a.tmps[5]? = some (.slice (some ⟨kt,0,none⟩) N N)/\a.tmps[7]? = some (.pointer (some ⟨kl,0,none⟩))/\a.tmps[8]? = some (.int .i64 q)/\a.tmps[39]? = some (.int .i64 N)/\a.tmps[40]? = some (.int .i64 i)/\RG.St w w.heap.size [] [[.int .u64 0,.int .u64 0,.int .u64 0,.int .u64 0,.int .u64 0,.int .u64 0,.int .u64 0,.int .u64 0],C,tw (inn ns xs ys s2 q i)] [kr,kt,kl] wr) N ⟨0,by omega,M33.sl,f4_33,f5_33,f7_33,f8_33,f39_33,f40_33,M33.st⟩ ?_;intro m' c wr;rintro⟨i,him,slc,r4,r5,r7,r8,r39,r40,hSr⟩;obtain⟨s,hse3⟩:∃s,inn ns xs ys s2 q i=s:=⟨_,rfl⟩
   rw[hse3]at hSr;by_cases hi:i<N
   ·obtain⟨h1,h2⟩:=hcN i hi;obtain⟨d,hde⟩:∃d,dL (ns i) q=d:=⟨_,rfl⟩
    have hdig:C[353*i+96+q]? = some (.int .i8 d):=hde ▸ h1 q hq;have hCne:C≠[]:=by intro h;rw[h]at hdig;simp at hdig
    have hstep:inn ns xs ys s2 q (i+1)=if d=0 then s else plJ s (tmJ (xs i) (ys i) d):=by rw[<-hse3,<-hde];rfl
    by_cases hdz:d=0
    ·rw[if_pos hdz]at hstep;rw[hdz]at hdig;have M50:RG.M w w.heap.size [] 62 [(RG.z 8),C,(tw s)] [kr,kt,kl] [(4,(.p 0 0)),(5,(.s 1 N N)),(7,(.p 2 0)),(8,(.v (.int .i64 q))),(39,(.v (.int .i64 N))),(40,(.v (.int .i64 i)))] c _:=⟨hSr,slc,⟨r4,r5,r7,r8,r39,r40,trivial⟩⟩
     repeat refine wp_seq ?_
     refine M50.u [.x 41 [] (.bool true)] [(4,(.p 0 0)),(5,(.s 1 N N)),(7,(.p 2 0)),(8,(.v (.int .i64 q))),(39,(.v (.int .i64 N))),(40,(.v (.int .i64 i))),(41,(.v (.bool true)))] ⟨RG.aG rfl .lss 3 3 40 39 (.int .i64 i) (.int .i64 N) (.bool true) rfl rfl RG.sx RG.sx (fun w=>by kernel_rfl) (dE hi),trivial⟩ ?_;intro a51 w51 M51;repeat refine wp_seq ?_
     refine wp_cond_true M51.ev ?_;refine wp_skip ?_;refine wp_seq ?_;refine wp_block ?_;repeat refine wp_seq ?_
     refine M51.u [.x 42 [] (.int .i64 i),.x 9 [(42,0)] (.int .i64 i)] [(4,(.p 0 0)),(5,(.s 1 N N)),(7,(.p 2 0)),(8,(.v (.int .i64 q))),(9,(.v (.int .i64 i))),(39,(.v (.int .i64 N))),(40,(.v (.int .i64 i)))] ⟨RG.st,RG.st,trivial⟩ ?_;intro a52 w52 M52;repeat refine wp_seq ?_
     refine M52.u [.s 43 [] (.s 1 N N),.x 44 [] (.int .i64 i),.x 45 [] (.int .i64 q),.s 46 [(43,0),(44,1)] (.p 1 (353*i)),.s 47 [(46,3)] (.p 1 ((353*i)+96)),.s 48 [(47,4),(45,2)] (.p 1 (((353*i)+96)+q)),.x 49 [(48,5)] (.int .i8 0),.x 10 [(49,6)] (.int .i8 0)] [(4,(.p 0 0)),(5,(.s 1 N N)),(7,(.p 2 0)),(8,(.v (.int .i64 q))),(10,(.v (.int .i8 0))),(39,(.v (.int .i64 N))),(40,(.v (.int .i64 i)))] ⟨RG.st,RG.st,RG.st,RG.aK rfl 140 43 44 rfl (.s 1 N N) (.int .i64 i) RG.sx RG.sx (fun μ w=>DC _ _ _ i hi w),RG.st,RG.aK rfl 146 47 45 rfl (.p 1 ((353*i)+96)) (.int .i64 q) RG.sx RG.sx (fun μ w=>H7 _ _ q hq w),RG.sP rfl 1 (((353*i)+96)+q) _ rfl rfl (by kernel_rfl) 145 48 rfl (.int .i8 0) rfl RG.sx hdig Nj,RG.st,trivial⟩ ?_;intro a53 w53 M53;repeat refine wp_seq ?_
     refine M53.u [.x 50 [] (.int .i8 0),.x 51 [(50,0)] (.bool false)] [(4,(.p 0 0)),(5,(.s 1 N N)),(7,(.p 2 0)),(8,(.v (.int .i64 q))),(39,(.v (.int .i64 N))),(40,(.v (.int .i64 i))),(51,(.v (.bool false)))] ⟨RG.st,RG.aI rfl .neq 145 145 50 (.int .i8 0) (.int .i8 0) (.bool false) rfl rfl RG.sx (fun w=>by kernel_rfl) (NJ),trivial⟩ ?_;intro a54 w54 M54;repeat refine wp_seq ?_
     refine wp_cond_false M54.ev ?_;refine wp_skip ?_;repeat refine wp_seq ?_
     refine M54.u [.x 59 [] (.int .i64 ((i+1:Nat):Int)),.x 40 [(59,0)] (.int .i64 ((i+1:Nat):Int))] [(4,(.p 0 0)),(5,(.s 1 N N)),(7,(.p 2 0)),(8,(.v (.int .i64 q))),(39,(.v (.int .i64 N))),(40,(.v (.int .i64 ((i+1:Nat):Int))))] ⟨RG.aI rfl .add 3 3 40 (.int .i64 i) (.int .i64 1) (.int .i64 ((i+1:Nat):Int)) rfl rfl RG.sx (fun w=>by kernel_rfl) (mH i 1 (by omega) (by omega)),RG.st,trivial⟩ ?_;intro a55 w55 M55;have f4_55:a55.tmps[4]? = some (.pointer (some ⟨kr,0,none⟩)):=M55.at (s:=(.p 0 0));have f5_55:a55.tmps[5]? = some (.slice (some ⟨kt,0,none⟩) N N):=M55.at (s:=(.s 1 N N));have f7_55:a55.tmps[7]? = some (.pointer (some ⟨kl,0,none⟩)):=M55.at (s:=(.p 2 0));have f8_55:a55.tmps[8]? = some (.int .i64 q):=M55.at (s:=(.v (.int .i64 q)));have f39_55:a55.tmps[39]? = some (.int .i64 N):=M55.at (s:=(.v (.int .i64 N)));have f40_55:a55.tmps[40]? = some (.int .i64 ((i+1:Nat):Int)):=M55.at (s:=(.v (.int .i64 ((i+1:Nat):Int))));show ∃n',_;exact⟨m'-1,by omega,i+1,by omega,M55.sl,f4_55,f5_55,f7_55,f8_55,f39_55,f40_55,by rw[hstep];exact M55.st⟩
    ·rw[if_neg hdz]at hstep;have hodd:d%2=1/\-15<=d/\d<=15:=by
      obtain⟨_,_,-,hD⟩:=wQ (show ns i<2^256 from hns i hi);rcases hD.ho q with h|h
      ·exact absurd (hde ▸ h) hdz
      ·exact hde ▸ h
     obtain⟨s3,hs3e⟩:∃t,tmJ (xs i) (ys i) d=t:=⟨_,rfl⟩
     obtain⟨s4,hs4e⟩:∃t,plJ s s3=t:=⟨_,rfl⟩
     have hs4:Gives 81 #[tv s,tv s3] (tv s4):=hs4e ▸ Kq F s s3;have htm:∀(k:Nat) (w:World),k<w.heap.size->w.rangeAt k 0 C->Calls prog 82 #[.pointer (some ⟨k,353*i,none⟩),.int .i8 d] w (Ret fun r w'=>Below w.heap.size w w'/\r=tv s3):=fun k w hlt hr =>
      hs3e ▸ IF F k (353*i) (xs i) (ys i) hodd.1 hodd.2 w hlt (fun qq hqq=>RG.oJ hr (fun j hj=>by rw[RD];exact h2 qq j hqq (by rw[b9]at hj;exact hj)))
     rw[hs3e,hs4e]at hstep;have M50:RG.M w w.heap.size [] 62 [(RG.z 8),C,(tw s)] [kr,kt,kl] [(4,(.p 0 0)),(5,(.s 1 N N)),(7,(.p 2 0)),(8,(.v (.int .i64 q))),(39,(.v (.int .i64 N))),(40,(.v (.int .i64 i)))] c _:=⟨hSr,slc,⟨r4,r5,r7,r8,r39,r40,trivial⟩⟩
     repeat refine wp_seq ?_
     refine M50.u [.x 41 [] (.bool true)] [(4,(.p 0 0)),(5,(.s 1 N N)),(7,(.p 2 0)),(8,(.v (.int .i64 q))),(39,(.v (.int .i64 N))),(40,(.v (.int .i64 i))),(41,(.v (.bool true)))] ⟨RG.aG rfl .lss 3 3 40 39 (.int .i64 i) (.int .i64 N) (.bool true) rfl rfl RG.sx RG.sx (fun w=>by kernel_rfl) (dE hi),trivial⟩ ?_;intro a51 w51 M51;repeat refine wp_seq ?_
     refine wp_cond_true M51.ev ?_;refine wp_skip ?_;refine wp_seq ?_;refine wp_block ?_;repeat refine wp_seq ?_
     refine M51.u [.x 42 [] (.int .i64 i),.x 9 [(42,0)] (.int .i64 i)] [(4,(.p 0 0)),(5,(.s 1 N N)),(7,(.p 2 0)),(8,(.v (.int .i64 q))),(9,(.v (.int .i64 i))),(39,(.v (.int .i64 N))),(40,(.v (.int .i64 i)))] ⟨RG.st,RG.st,trivial⟩ ?_;intro a52 w52 M52;repeat refine wp_seq ?_
     refine M52.u [.s 43 [] (.s 1 N N),.x 44 [] (.int .i64 i),.x 45 [] (.int .i64 q),.s 46 [(43,0),(44,1)] (.p 1 (353*i)),.s 47 [(46,3)] (.p 1 ((353*i)+96)),.s 48 [(47,4),(45,2)] (.p 1 (((353*i)+96)+q)),.x 49 [(48,5)] (.int .i8 d),.x 10 [(49,6)] (.int .i8 d)] [(4,(.p 0 0)),(5,(.s 1 N N)),(7,(.p 2 0)),(8,(.v (.int .i64 q))),(9,(.v (.int .i64 i))),(10,(.v (.int .i8 d))),(39,(.v (.int .i64 N))),(40,(.v (.int .i64 i)))] ⟨RG.st,RG.st,RG.st,RG.aK rfl 140 43 44 rfl (.s 1 N N) (.int .i64 i) RG.sx RG.sx (fun μ w=>DC _ _ _ i hi w),RG.st,RG.aK rfl 146 47 45 rfl (.p 1 ((353*i)+96)) (.int .i64 q) RG.sx RG.sx (fun μ w=>H7 _ _ q hq w),RG.sP rfl 1 (((353*i)+96)+q) _ rfl rfl (by kernel_rfl) 145 48 rfl (.int .i8 d) rfl RG.sx hdig Nj,RG.st,trivial⟩ ?_;intro a53 w53 M53;repeat refine wp_seq ?_
     refine M53.u [.x 50 [] (.int .i8 d),.x 51 [(50,0)] (.bool true)] [(4,(.p 0 0)),(5,(.s 1 N N)),(7,(.p 2 0)),(8,(.v (.int .i64 q))),(9,(.v (.int .i64 i))),(10,(.v (.int .i8 d))),(39,(.v (.int .i64 N))),(40,(.v (.int .i64 i))),(51,(.v (.bool true)))] ⟨RG.st,RG.aI rfl .neq 145 145 50 (.int .i8 d) (.int .i8 0) (.bool true) rfl rfl RG.sx (fun w=>by kernel_rfl) (NI hdz),trivial⟩ ?_;intro a54 w54 M54;repeat refine wp_seq ?_
     refine wp_cond_true M54.ev ?_;repeat refine wp_seq ?_
     refine M54.d [.x 52 [] (tv s),.s 53 [] (.s 1 N N),.x 54 [] (.int .i64 i),.s 55 [(53,1),(54,2)] (.p 1 (353*i)),.x 56 [] (.int .i8 d),.c 57 [(55,3),(56,4)] (tv s3),.c 58 [(52,0),(57,5)] (tv s4),.u [(58,6)] 2] [] [(2,7,(tw s4))] [(RG.z 8),C,(tw s4)] [(4,(.p 0 0)),(5,(.s 1 N N)),(7,(.p 2 0)),(8,(.v (.int .i64 q))),(39,(.v (.int .i64 N))),(40,(.v (.int .i64 i)))] ⟨RG.ld fA i117,RG.st,RG.st,RG.aK rfl 140 53 54 rfl (.s 1 N N) (.int .i64 i) RG.sx RG.sx (fun μ w=>DC _ _ _ i hi w),RG.st,RG.zV rfl 1 _ rfl rfl (by kernel_rfl) hCne 82 55 56 (.p 1 (353*i)) (.int .i8 d) (tv s3) rfl (fun a w=>by kernel_rfl) RG.sx RG.sx (fun μ w hlt hr=>htm (μ 1) w hlt hr),RG.cl (hs4),RG.pt i117,trivial⟩ ?_;intro a55 w55 M55;repeat refine wp_seq ?_
     refine M55.u [.x 59 [] (.int .i64 ((i+1:Nat):Int)),.x 40 [(59,0)] (.int .i64 ((i+1:Nat):Int))] [(4,(.p 0 0)),(5,(.s 1 N N)),(7,(.p 2 0)),(8,(.v (.int .i64 q))),(39,(.v (.int .i64 N))),(40,(.v (.int .i64 ((i+1:Nat):Int))))] ⟨RG.aI rfl .add 3 3 40 (.int .i64 i) (.int .i64 1) (.int .i64 ((i+1:Nat):Int)) rfl rfl RG.sx (fun w=>by kernel_rfl) (mH i 1 (by omega) (by omega)),RG.st,trivial⟩ ?_;intro a56 w56 M56;have f4_56:a56.tmps[4]? = some (.pointer (some ⟨kr,0,none⟩)):=M56.at (s:=(.p 0 0));have f5_56:a56.tmps[5]? = some (.slice (some ⟨kt,0,none⟩) N N):=M56.at (s:=(.s 1 N N));have f7_56:a56.tmps[7]? = some (.pointer (some ⟨kl,0,none⟩)):=M56.at (s:=(.p 2 0));have f8_56:a56.tmps[8]? = some (.int .i64 q):=M56.at (s:=(.v (.int .i64 q)));have f39_56:a56.tmps[39]? = some (.int .i64 N):=M56.at (s:=(.v (.int .i64 N)));have f40_56:a56.tmps[40]? = some (.int .i64 ((i+1:Nat):Int)):=M56.at (s:=(.v (.int .i64 ((i+1:Nat):Int))));show ∃n',_;exact⟨m'-1,by omega,i+1,by omega,M56.sl,f4_56,f5_56,f7_56,f8_56,f39_56,f40_56,by rw[hstep];exact M56.st⟩
   ·have hiN3:i=N:=by omega
    rw[hiN3]at hse3;rw[hse3]at hnext;have M60:RG.M w w.heap.size [] 62 [(RG.z 8),C,(tw s)] [kr,kt,kl] [(4,(.p 0 0)),(5,(.s 1 N N)),(7,(.p 2 0)),(8,(.v (.int .i64 q))),(39,(.v (.int .i64 N))),(40,(.v (.int .i64 i)))] c _:=⟨hSr,slc,⟨r4,r5,r7,r8,r39,r40,trivial⟩⟩
    repeat refine wp_seq ?_
    refine M60.u [.x 41 [] (.bool false)] [(4,(.p 0 0)),(5,(.s 1 N N)),(7,(.p 2 0)),(8,(.v (.int .i64 q))),(41,(.v (.bool false)))] ⟨RG.aG rfl .lss 3 3 40 39 (.int .i64 i) (.int .i64 N) (.bool false) rfl rfl RG.sx RG.sx (fun w=>by kernel_rfl) (fY hi),trivial⟩ ?_;intro a61 w61 M61;repeat refine wp_seq ?_
    refine wp_cond_false M61.ev ?_;refine wp_exit ?_;dsimp only[Exit.then,So];rw[if_pos rfl];repeat refine wp_seq ?_
    refine M61.u [.x 34 [] (.int .i64 q),.x 35 [(34,0)] (.int .i64 ((q:Int)-1)),.x 8 [(35,1)] (.int .i64 ((q:Int)-1))] [(4,(.p 0 0)),(5,(.s 1 N N)),(7,(.p 2 0)),(8,(.v (.int .i64 ((q:Int)-1))))] ⟨RG.st,RG.aI rfl .sub 3 3 34 (.int .i64 q) (.int .i64 1) (.int .i64 ((q:Int)-1)) rfl rfl RG.sx (fun w=>by kernel_rfl) (sub1' q (by omega)),RG.st,trivial⟩ ?_;intro a62 w62 M62;have f4_62:a62.tmps[4]? = some (.pointer (some ⟨kr,0,none⟩)):=M62.at (s:=(.p 0 0));have f5_62:a62.tmps[5]? = some (.slice (some ⟨kt,0,none⟩) N N):=M62.at (s:=(.s 1 N N));have f7_62:a62.tmps[7]? = some (.pointer (some ⟨kl,0,none⟩)):=M62.at (s:=(.p 2 0));have f8_62:a62.tmps[8]? = some (.int .i64 ((q:Int)-1)):=M62.at (s:=(.v (.int .i64 ((q:Int)-1))));show ∃n',_;exact⟨q,Su q,by omega,M62.sl,f4_62,f5_62,f7_62,f8_62,by rw[hnext];exact M62.st⟩
theorem Lg(h:Fld P):([.int .u64 1,.int .u64 0,.int .u64 0,.int .u64 0]:List Value)=ws (1:Fin P):=by
 have h:=wF h;unfold nv at h;injection h with h
 exact congrArg Array.toList h
def rt(m:Fin P):Option (Fin P):=if m.val^(P/4+1)%P*(m.val^(P/4+1)%P)%P=m.val then some (SA P (even P (m.val^(P/4+1)%P))) else none
omit [NeZero P] in
theorem Db{r:Nat}(hP:0<P)(h:r<P):even P r<P:=by unfold even;split<;>omega
theorem IY{m y:Fin P}{v:Value}(h:rt m=some y)(hF:Four v (even P (m.val^(P/4+1)%P))):v=fv y:=by
 unfold rt at h;split at h
 ·obtain rfl:=Option.some.inj h;have:(SA P (even P (m.val^(P/4+1)%P))).val=even P (m.val^(P/4+1)%P):=Qf (Db (Vg P) (Nat.mod_lt _ (Vg P)));show v=nv _;rw[this];exact hF.nv
 ·cases h
theorem FD{m y:Fin P}(h:rt m=some y):m.val^(P/4+1)%P*(m.val^(P/4+1)%P)%P=m.val:=by
 unfold rt at h;split at h
 ·assumption
 ·cases h
theorem Nt{m:Fin P}(h:rt m=none):¬m.val^(P/4+1)%P*(m.val^(P/4+1)%P)%P=m.val:=by
 unfold rt at h;split at h
 ·cases h
 ·assumption
theorem RootR.val{m:Fin P}{e:Value}(h:RootR P m.val (m.val^(P/4+1)%P) e):(∀y,rt m=some y->e=.tuple #[fv y,.bool true])/\(rt m=none->e=.tuple #[fv (0:Fin P),.bool false]):=by
 obtain⟨ya,yb,yc,yd,ok,rfl,h1,h2,h3⟩:=h;refine⟨fun y hy=>?_,fun hn=>?_⟩
 ·cases ok with
  | true=>rw[IY hy (h1 rfl).2]
  | false=>exact absurd (FD hy) (h2 rfl)
 ·cases ok with
  | true=>exact absurd (h1 rfl).1 (Nt hn)
  | false =>
   obtain⟨rfl,rfl,rfl,rfl⟩:=h3 rfl;rw[<-iS];rfl
theorem MM(h:Fld P){m y:Fin P}(e:rt m=some y):Gives 149 #[gv0,fv m] (.tuple #[fv y,.bool true]):=fun w =>
 (Af 4294968273 0 0 P _ m.val h.gap h.p4 (h.four m) w).mono (by rintro e' w' ⟨v,rfl,hb,hF⟩;exact⟨_,rfl,hb,hF.val.1 y e⟩)
theorem MN(h:Fld P){m:Fin P}(e:rt m=none):Gives 149 #[gv0,fv m] (.tuple #[fv (0:Fin P),.bool false]):=fun w =>
 (Af 4294968273 0 0 P _ m.val h.gap h.p4 (h.four m) w).mono (by rintro e' w' ⟨v,rfl,hb,hF⟩;exact⟨_,rfl,hb,hF.val.2 e⟩)
def gl0:List Value:=[.int .u64 4294968273,.int .u64 0,.int .u64 0,.int .u64 0]
theorem EU(C:Fld P)(x y:Fin P)(hr:rt (x*x*x+7)=some y):Gives 119 #[(fv x)] (.tuple #[pv x y,.bool true]):=by
 intro w;obtain⟨c1,hc1⟩:∃c,c=x*x:=⟨_,rfl⟩
 obtain⟨c2,hc2⟩:∃c,c=c1*x:=⟨_,rfl⟩
 obtain⟨c3,hc3⟩:∃c,c=c2+(7:Fin P):=⟨_,rfl⟩
 have hfin:((.tuple #[(pv x y),(.bool true)]):Value)=(.tuple #[pv x y,.bool true]):=by
  subst_vars;rfl
 rw[<-hfin];go_enter Tryz.func119,Tryz.ntmps119;refine RG.M.enter [(0,(.v (fv x)))] 31 (by kernel_rfl) ?_;intro a0 M0;repeat refine wp_seq ?_
 refine M0.t [.m 1 [] 0,.m 2 [] 1,.x 3 [] (.bool false)] [(0,(ws x)),(1,(RG.z 8))] [] [(ws x),(RG.z 8)] [(1,(.p 0 0)),(2,(.p 1 0)),(3,(.v (.bool false)))] ⟨RG.mk 0 41,RG.mk 1 43,RG.st,trivial⟩ ?_;intro j1 i1 a1 w1 M1;repeat refine wp_seq ?_
 refine M1.t [.c 8 [] gv0,.m 4 [] 2,.u [(4,1),(8,0)] 2] [(1,(RG.z 4))] [(2,2,gl0)] [(ws x),(RG.z 8),gl0] [(1,(.p 0 0)),(2,(.p 1 0)),(3,(.v (.bool false))),(4,(.p 2 0))] ⟨RG.cl (bJ),RG.mk 2 135,RG.pt i79,trivial⟩ ?_;intro j2 a2 w2 M2;repeat refine wp_seq ?_
 refine M2.d [.x 9 [] gv0,.x 10 [] gv0,.x 11 [] gv0,.x 12 [] (fv x),.x 13 [] (fv x),.c 14 [(11,2),(12,3),(13,4)] (fv c1),.x 15 [] (fv x),.c 16 [(10,1),(14,5),(15,6)] (fv c2),.x 17 [] (fv (7:Fin P)),.c 18 [(9,0),(16,7),(17,8)] (fv c3),.m 5 [] 3,.u [(5,10),(18,9)] 3] [(10,(RG.z 4))] [(3,11,(ws c3))] [(ws x),(RG.z 8),gl0,(ws c3)] [(1,(.p 0 0)),(2,(.p 1 0)),(3,(.v (.bool false))),(4,(.p 2 0)),(5,(.p 3 0))] ⟨RG.ld u79 i79,RG.ld u79 i79,RG.ld u79 i79,RG.ld u85 i85,RG.ld u85 i85,RG.cl ((nU C x x).e hc1),RG.ld u85 i85,RG.cl ((nU C c1 x).e hc2),RG.se (qX C),RG.cl ((DJ C c2 (7:Fin P)).e hc3),RG.mk 3 41,RG.pt i85,trivial⟩ ?_;intro j3 a3 w3 M3;repeat refine wp_seq ?_
 refine M3.t [.x 20 [] gv0,.x 21 [] (fv c3),.c 22 [(20,0),(21,1)] (.tuple #[(fv y),(.bool true)]),.x 19 [(22,2)] (.tuple #[(fv y),(.bool true)]),.x 23 [(19,3)] (fv y),.x 24 [(19,3)] (.bool true),.m 6 [] 4,.u [(6,6),(23,4)] 4,.x 7 [(24,5)] (.bool true)] [(6,(RG.z 4))] [(4,7,(ws y))] [(ws x),(RG.z 8),gl0,(ws c3),(ws y)] [(1,(.p 0 0)),(2,(.p 1 0)),(3,(.v (.bool false))),(6,(.p 4 0)),(7,(.v (.bool true)))] ⟨RG.ld u79 i79,RG.ld u85 i85,RG.cl (f:=149) (args:=#[gv0,(fv c3)]) (v:=(.tuple #[(fv y),(.bool true)])) (MM C (by subst_vars;exact hr)),RG.st,RG.st,RG.st,RG.mk 4 41,RG.pt i85,RG.st,trivial⟩ ?_;intro j4 a4 w4 M4;repeat refine wp_seq ?_
 refine M4.u [.x 25 [] (.bool true),.x 26 [(25,0)] (.bool false)] [(1,(.p 0 0)),(2,(.p 1 0)),(3,(.v (.bool false))),(6,(.p 4 0)),(26,(.v (.bool false)))] ⟨RG.st,RG.st,trivial⟩ ?_;intro a5 w5 M5;repeat refine wp_seq ?_
 refine wp_cond_false M5.ev ?_;refine wp_skip ?_;repeat refine wp_seq ?_
 refine M5.t [.x 28 [] (fv x),.x 29 [] (fv y),.x 30 [(28,0),(29,1)] (pv x y),.u [(30,2)] 1,.x 3 [] (.bool true)] [] [(1,3,(ws x++(ws y)))] [(ws x),(ws x++(ws y)),gl0,(ws c3),(ws y)] [(2,(.p 1 0)),(3,(.v (.bool true)))] ⟨RG.ld u85 i85,RG.ld u85 i85,RG.st,RG.pt i109,RG.st,trivial⟩ ?_;intro a6 w6 M6;refine wp_ret ?_;refine bodyPost_ret (v:=(.tuple #[(pv x y),(.bool true)])) (RG.aN M6.st 2 3 43 rfl 1 _ rfl (M6.at (s:=(.p 1 0))) _ (M6.at (s:=(.v (.bool true)))) gP i109) M6.sl.defers ?_;exact⟨_,rfl,M6.st.bel.below,rfl⟩
theorem EV(C:Fld P)(x:Fin P)(hr:rt (x*x*x+7)=none):Gives 119 #[(fv x)] (.tuple #[pv (0:Fin P) 0,.bool false]):=by
 intro w;obtain⟨c1,hc1⟩:∃c,c=x*x:=⟨_,rfl⟩
 obtain⟨c2,hc2⟩:∃c,c=c1*x:=⟨_,rfl⟩
 obtain⟨c3,hc3⟩:∃c,c=c2+(7:Fin P):=⟨_,rfl⟩
 have hfin:((.tuple #[(pv (0:Fin P) (0:Fin P)),(.bool false)]):Value)=(.tuple #[pv (0:Fin P) 0,.bool false]):=by
  subst_vars;rfl
 rw[<-hfin];go_enter Tryz.func119,Tryz.ntmps119;refine RG.M.enter [(0,(.v (fv x)))] 31 (by kernel_rfl) ?_;intro a0 M0;repeat refine wp_seq ?_
 refine M0.t [.m 1 [] 0,.m 2 [] 1,.x 3 [] (.bool false)] [(0,(ws x)),(1,(RG.z 8))] [] [(ws x),(RG.z 8)] [(1,(.p 0 0)),(2,(.p 1 0)),(3,(.v (.bool false)))] ⟨RG.mk 0 41,RG.mk 1 43,RG.st,trivial⟩ ?_;intro j1 i1 a1 w1 M1;repeat refine wp_seq ?_
 refine M1.t [.c 8 [] gv0,.m 4 [] 2,.u [(4,1),(8,0)] 2] [(1,(RG.z 4))] [(2,2,gl0)] [(ws x),(RG.z 8),gl0] [(1,(.p 0 0)),(2,(.p 1 0)),(3,(.v (.bool false))),(4,(.p 2 0))] ⟨RG.cl (bJ),RG.mk 2 135,RG.pt i79,trivial⟩ ?_;intro j2 a2 w2 M2;repeat refine wp_seq ?_
 refine M2.d [.x 9 [] gv0,.x 10 [] gv0,.x 11 [] gv0,.x 12 [] (fv x),.x 13 [] (fv x),.c 14 [(11,2),(12,3),(13,4)] (fv c1),.x 15 [] (fv x),.c 16 [(10,1),(14,5),(15,6)] (fv c2),.x 17 [] (fv (7:Fin P)),.c 18 [(9,0),(16,7),(17,8)] (fv c3),.m 5 [] 3,.u [(5,10),(18,9)] 3] [(10,(RG.z 4))] [(3,11,(ws c3))] [(ws x),(RG.z 8),gl0,(ws c3)] [(2,(.p 1 0)),(3,(.v (.bool false))),(4,(.p 2 0)),(5,(.p 3 0))] ⟨RG.ld u79 i79,RG.ld u79 i79,RG.ld u79 i79,RG.ld u85 i85,RG.ld u85 i85,RG.cl ((nU C x x).e hc1),RG.ld u85 i85,RG.cl ((nU C c1 x).e hc2),RG.se (qX C),RG.cl ((DJ C c2 (7:Fin P)).e hc3),RG.mk 3 41,RG.pt i85,trivial⟩ ?_;intro j3 a3 w3 M3;repeat refine wp_seq ?_
 refine M3.t [.x 20 [] gv0,.x 21 [] (fv c3),.c 22 [(20,0),(21,1)] (.tuple #[(fv (0:Fin P)),(.bool false)]),.x 19 [(22,2)] (.tuple #[(fv (0:Fin P)),(.bool false)]),.x 23 [(19,3)] (fv (0:Fin P)),.x 24 [(19,3)] (.bool false),.m 6 [] 4,.u [(6,6),(23,4)] 4,.x 7 [(24,5)] (.bool false)] [(6,(RG.z 4))] [(4,7,(ws (0:Fin P)))] [(ws x),(RG.z 8),gl0,(ws c3),(ws (0:Fin P))] [(2,(.p 1 0)),(3,(.v (.bool false))),(7,(.v (.bool false)))] ⟨RG.ld u79 i79,RG.ld u85 i85,RG.cl (f:=149) (args:=#[gv0,(fv c3)]) (v:=(.tuple #[(fv (0:Fin P)),(.bool false)])) (MN C (by subst_vars;exact hr)),RG.st,RG.st,RG.st,RG.mk 4 41,RG.pt i85,RG.st,trivial⟩ ?_;intro j4 a4 w4 M4;repeat refine wp_seq ?_
 refine M4.u [.x 25 [] (.bool false),.x 26 [(25,0)] (.bool true)] [(2,(.p 1 0)),(3,(.v (.bool false))),(26,(.v (.bool true)))] ⟨RG.st,RG.st,trivial⟩ ?_;intro a5 w5 M5;repeat refine wp_seq ?_
 refine wp_cond_true M5.ev ?_;repeat refine wp_seq ?_
 refine M5.t [.x 27 [] (pv (0:Fin P) (0:Fin P)),.u [(27,0)] 1,.x 3 [] (.bool false)] [] [(1,1,(ws (0:Fin P)++(ws (0:Fin P))))] [(ws x),(ws (0:Fin P)++(ws (0:Fin P))),gl0,(ws c3),(ws (0:Fin P))] [(2,(.p 1 0)),(3,(.v (.bool false)))] ⟨RG.se (eK (P:=P)),RG.pt i109,RG.st,trivial⟩ ?_;intro a6 w6 M6;refine wp_ret ?_;refine bodyPost_ret (v:=(.tuple #[(pv (0:Fin P) (0:Fin P)),(.bool false)])) (RG.aN M6.st 2 3 43 rfl 1 _ rfl (M6.at (s:=(.p 1 0))) _ (M6.at (s:=(.v (.bool false)))) gP i109) M6.sl.defers ?_;exact⟨_,rfl,M6.st.bel.below,rfl⟩
theorem LS(C:Fld P)(x y:Fin P):Gives 120 #[(pv x y)] (pv x (0-y)):=by
 intro w;obtain⟨c1,hc1⟩:∃c,c=(0:Fin P)-y:=⟨_,rfl⟩
 have hfin:((pv x c1):Value)=(pv x (0-y)):=by
  subst_vars;rfl
 rw[<-hfin];go_enter Tryz.func120,Tryz.ntmps120;refine RG.M.enter [(0,(.v (pv x y)))] 11 (by kernel_rfl) ?_;intro a0 M0;repeat refine wp_seq ?_
 refine M0.t [.m 1 [] 0,.m 2 [] 1] [(0,(ws x++(ws y))),(1,(RG.z 8))] [] [(ws x++(ws y)),(RG.z 8)] [(1,(.p 0 0)),(2,(.p 1 0))] ⟨RG.mk 0 43,RG.mk 1 43,trivial⟩ ?_;intro j1 i1 a1 w1 M1;repeat refine wp_seq ?_
 refine M1.d [.s 3 [] (.p 0 0),.x 4 [(3,0)] (fv x),.c 5 [] gv0,.x 6 [] (fv (0:Fin P)),.s 7 [] (.p 0 4),.x 8 [(7,4)] (fv y),.c 9 [(5,2),(6,3),(8,5)] (fv c1),.x 10 [(4,1),(9,6)] (pv x c1),.u [(10,7)] 1] [] [(1,8,(ws x++(ws c1)))] [(ws x++(ws y)),(ws x++(ws c1))] [(2,(.p 1 0))] ⟨RG.st,RG.ld u85 i85,RG.cl (bJ),RG.se (iS (P:=P)),RG.st,RG.ld u85 i85,RG.cl ((Ij C (0:Fin P) y).e hc1),RG.st,RG.pt i109,trivial⟩ ?_;intro a2 w2 M2;refine wp_ret ?_;refine bodyPost_ret (v:=(pv x c1)) (RG.aC M2.st 2 43 rfl 1 _ rfl (M2.at (s:=(.p 1 0))) gP i109) M2.sl.defers ?_;exact⟨_,rfl,M2.st.bel.below,rfl⟩
end
section
open Go.RowKit Go.Sort Go.Deep
variable {P:Nat}[NeZero P]{N:Nat}
theorem eS{w W:World}{k0 k1 k6 a b c d g0 g1 g2:Nat}(h:Kept w k0 [⟨k6,0,a,b,c,d⟩,⟨k0,0,g0,g1,g2,0⟩,⟨k1,0,0,0,0,0⟩] W):W.cell? ⟨k6,0,none⟩=some (.int .u64 a)/\W.cell? ⟨k6,1,none⟩=some (.int .u64 b)/\W.cell? ⟨k6,2,none⟩=some (.int .u64 c)/\W.cell? ⟨k6,3,none⟩=some (.int .u64 d)/\W.cell? ⟨k0,0,none⟩=some (.int .u64 g0)/\W.cell? ⟨k0,1,none⟩=some (.int .u64 g1)/\W.cell? ⟨k0,2,none⟩=some (.int .u64 g2)/\W.cell? ⟨k0,3,none⟩=some (.int .u64 0)/\Kept w k0 [⟨k6,0,a,b,c,d⟩,⟨k0,0,g0,g1,g2,0⟩,⟨k1,0,0,0,0,0⟩] W:=⟨h.head.c0,h.head.c1,h.head.c2,h.head.c3,h.tail.head.c0,h.tail.head.c1,h.tail.head.c2,h.tail.head.c3,h⟩
theorem lE{w W:World}{k0 k1 k6 a b c d g0 g1 g2:Nat}(h:W.cell? ⟨k6,0,none⟩=some (.int .u64 a)/\W.cell? ⟨k6,1,none⟩=some (.int .u64 b)/\W.cell? ⟨k6,2,none⟩=some (.int .u64 c)/\W.cell? ⟨k6,3,none⟩=some (.int .u64 d)/\W.cell? ⟨k0,0,none⟩=some (.int .u64 g0)/\W.cell? ⟨k0,1,none⟩=some (.int .u64 g1)/\W.cell? ⟨k0,2,none⟩=some (.int .u64 g2)/\W.cell? ⟨k0,3,none⟩=some (.int .u64 0)/\Kept w k0 [⟨k6,0,a,b,c,d⟩,⟨k0,0,g0,g1,g2,0⟩,⟨k1,0,0,0,0,0⟩] W):Kept w k0 [⟨k6,0,a,b,c,d⟩,⟨k0,0,g0,g1,g2,0⟩,⟨k1,0,0,0,0,0⟩] W:=h.2.2.2.2.2.2.2.2
theorem yJ{w W:World}{k0 k1 k6 a b c d g0 g1 g2:Nat}{o:Obj}(h:W.cell? ⟨k6,0,none⟩=some (.int .u64 a)/\W.cell? ⟨k6,1,none⟩=some (.int .u64 b)/\W.cell? ⟨k6,2,none⟩=some (.int .u64 c)/\W.cell? ⟨k6,3,none⟩=some (.int .u64 d)/\W.cell? ⟨k0,0,none⟩=some (.int .u64 g0)/\W.cell? ⟨k0,1,none⟩=some (.int .u64 g1)/\W.cell? ⟨k0,2,none⟩=some (.int .u64 g2)/\W.cell? ⟨k0,3,none⟩=some (.int .u64 0)/\Kept w k0 [⟨k6,0,a,b,c,d⟩,⟨k0,0,g0,g1,g2,0⟩,⟨k1,0,0,0,0,0⟩] W):(W.alloc o).cell? ⟨k6,0,none⟩=some (.int .u64 a)/\(W.alloc o).cell? ⟨k6,1,none⟩=some (.int .u64 b)/\(W.alloc o).cell? ⟨k6,2,none⟩=some (.int .u64 c)/\(W.alloc o).cell? ⟨k6,3,none⟩=some (.int .u64 d)/\(W.alloc o).cell? ⟨k0,0,none⟩=some (.int .u64 g0)/\(W.alloc o).cell? ⟨k0,1,none⟩=some (.int .u64 g1)/\(W.alloc o).cell? ⟨k0,2,none⟩=some (.int .u64 g2)/\(W.alloc o).cell? ⟨k0,3,none⟩=some (.int .u64 0)/\Kept w k0 [⟨k6,0,a,b,c,d⟩,⟨k0,0,g0,g1,g2,0⟩,⟨k1,0,0,0,0,0⟩] (W.alloc o):=eS ((lE h).alloc o)
theorem vX{w W:World}{k0 k1 k6 a b c d g0 g1 g2:Nat}{o:Obj}(h:W.drew.cell? ⟨k6,0,none⟩=some (.int .u64 a)/\W.drew.cell? ⟨k6,1,none⟩=some (.int .u64 b)/\W.drew.cell? ⟨k6,2,none⟩=some (.int .u64 c)/\W.drew.cell? ⟨k6,3,none⟩=some (.int .u64 d)/\W.drew.cell? ⟨k0,0,none⟩=some (.int .u64 g0)/\W.drew.cell? ⟨k0,1,none⟩=some (.int .u64 g1)/\W.drew.cell? ⟨k0,2,none⟩=some (.int .u64 g2)/\W.drew.cell? ⟨k0,3,none⟩=some (.int .u64 0)/\Kept w k0 [⟨k6,0,a,b,c,d⟩,⟨k0,0,g0,g1,g2,0⟩,⟨k1,0,0,0,0,0⟩] W.drew):(W.alloc o).drew.cell? ⟨k6,0,none⟩=some (.int .u64 a)/\(W.alloc o).drew.cell? ⟨k6,1,none⟩=some (.int .u64 b)/\(W.alloc o).drew.cell? ⟨k6,2,none⟩=some (.int .u64 c)/\(W.alloc o).drew.cell? ⟨k6,3,none⟩=some (.int .u64 d)/\(W.alloc o).drew.cell? ⟨k0,0,none⟩=some (.int .u64 g0)/\(W.alloc o).drew.cell? ⟨k0,1,none⟩=some (.int .u64 g1)/\(W.alloc o).drew.cell? ⟨k0,2,none⟩=some (.int .u64 g2)/\(W.alloc o).drew.cell? ⟨k0,3,none⟩=some (.int .u64 0)/\Kept w k0 [⟨k6,0,a,b,c,d⟩,⟨k0,0,g0,g1,g2,0⟩,⟨k1,0,0,0,0,0⟩] (W.alloc o).drew:=eS (((lE h).undrew).alloc o).drew
theorem Ig(pv:Value)(p:Option Addr)(n cap:Nat)(w:World)(g0 g1 g2:Nat)(hp:pv=.agg #[.int .u64 g0,.int .u64 g1,.int .u64 g2,.int .u64 0])(hn:n≠32):
 Calls prog 77 #[pv,.slice p n cap] w (Ret fun e w'=>Below w.heap.size w w'/\e=.tuple #[.agg #[.int .u64 0,.int .u64 0,.int .u64 0,.int .u64 0],.bool false]):=by
 subst hp;have h1:¬(n:Int)=32:=by omega
 go_enter Tryz.func77,Tryz.ntmps77;go_wp2;refine bodyPost_ret (v:=?v) ?hr rfl ?hR
 case hr=>simp[results,Tryz.results77,go_sem];rfl
 exact⟨_,rfl,below2 _ _ _,rfl⟩
theorem tH(g0 g1 g2 P g o cap:Nat)(bs:Bs)(hG:Gap g0 g1 g2 P)(w:World)(hs:bs.size=32)(hc:32<=cap)(hg:g<w.heap.size)(hB:Holds encB w g o bs):
 Calls prog 77 #[.agg #[.int .u64 g0,.int .u64 g1,.int .u64 g2,.int .u64 0],.slice (some ⟨g,o,none⟩) 32 cap] w
  (Ret fun e w'=>Below w.heap.size w w'/\((beV bs.toList<P/\∃v,e=.tuple #[v,.bool true]/\Four v (beV bs.toList))\/(P<=beV bs.toList/\e=.tuple #[.agg #[.int .u64 0,.int .u64 0,.int .u64 0,.int .u64 0],.bool false]))):=by
 have HG:Hid (Gap g0 g1 g2 P):=hG;have HBS:Hid (Holds encB w g o bs):=hB;have HS:Hid (bs.size=32):=hs;clear hG hB hs;go_enter Tryz.func77,Tryz.ntmps77;go_wp2_with fail
 have PR:=(At4.made w 135 g0 g1 g2 0 rfl).alloc (.cells #[.int .u64 0,.int .u64 0,.int .u64 0,.int .u64 0] 41);have RE:=At4.made (w.alloc (.cells #[.int .u64 g0,.int .u64 g1,.int .u64 g2,.int .u64 0] 135)) 41 0 0 0 0 (Qa _ _);have KP0:=((Kept.mk1 (below2 w (.cells #[.int .u64 g0,.int .u64 g1,.int .u64 g2,.int .u64 0] 135) (.cells #[.int .u64 0,.int .u64 0,.int .u64 0,.int .u64 0] 41)) (below2 w (.cells #[.int .u64 g0,.int .u64 g1,.int .u64 g2,.int .u64 0] 135) (.cells #[.int .u64 0,.int .u64 0,.int .u64 0,.int .u64 0] 41)).size).cons RE.blk).cons PR.blk;have HB0:=Holds.below HBS.out (below2 w (.cells #[.int .u64 g0,.int .u64 g1,.int .u64 g2,.int .u64 0] 135) (.cells #[.int .u64 0,.int .u64 0,.int .u64 0,.int .u64 0] 41)) hg;clear PR RE;generalize QN _ _=W0 at KP0 HB0⊢;refine(iI (some ⟨g,o,none⟩) g o 32 cap bs _ (PQ 32) hc HS.out (Or.inr ⟨rfl,HB0⟩)).mono ?_;rintro e w1 ⟨v,rfl,hb1,hF⟩;obtain⟨a,b,c,d,rfl,ha,hb,hc',hd,es⟩:=id hF;have HF:Hid (Four _ _):=hF;have K1:=KP0.call hb1;clear es hF hb1 KP0 HB0;go_wp2_with fail
 have KP:=(K1.alloc (.cells #[.int .u64 a,.int .u64 b,.int .u64 c,.int .u64 d] 41)).cons (At4.made w1 41 a b c d rfl).blk;have q60:w1.heap.size≠w.heap.size:=QW K1.head.lt;clear K1;generalize QN _ _=W1 at KP⊢;generalize w1.heap.size=k6 at KP q60⊢;generalize h1:w.heap.size+1=k1 at KP⊢;have Q1:Hid (w.heap.size<=k1):=by unfold Hid;omega
 generalize h0:w.heap.size=k0 at KP Q1 hg q60⊢;have H0:Hid (w.heap.size=k0):=h0;clear h0 h1
 go_cut [8] (fun s8 wx=>∃k:Nat,s8=.int .u64 k/\k<=1/\Hid (∃t,t<top/\t+top*k=beV bs.toList+val g0 g1 g2 0)/\Kept w k0 [⟨k6,0,a,b,c,d⟩,⟨k0,0,g0,g1,g2,0⟩,⟨k1,0,0,0,0,0⟩] wx)
 case first =>
  go_region_held3 (fun w'=>w'.cell? ⟨k6,0,none⟩=some (.int .u64 a)/\w'.cell? ⟨k6,1,none⟩=some (.int .u64 b)/\w'.cell? ⟨k6,2,none⟩=some (.int .u64 c)/\w'.cell? ⟨k6,3,none⟩=some (.int .u64 d)/\w'.cell? ⟨k0,0,none⟩=some (.int .u64 g0)/\w'.cell? ⟨k0,1,none⟩=some (.int .u64 g1)/\w'.cell? ⟨k0,2,none⟩=some (.int .u64 g2)/\w'.cell? ⟨k0,3,none⟩=some (.int .u64 0)/\Kept w k0 [⟨k6,0,a,b,c,d⟩,⟨k0,0,g0,g1,g2,0⟩,⟨k1,0,0,0,0,0⟩] w') (first|(with_reducible exact eS KP)|(with_reducible exact eS KP.drew)|(with_reducible exact vX (by assumption))|(with_reducible exact yJ (by assumption))|(with_reducible exact eS (KP.alloc _))|(with_reducible exact eS (KP.set4' M7 (fun x hx=>QW (N7 x hx)) _ _ _ _))|(with_reducible exact eS (KP.alloc _).drew)|(with_reducible exact eS (KP.set4' M7 (fun x hx=>QW (N7 x hx)) _ _ _ _).drew)|fail) (first|(go_at_call 117;refine(f9 _ _ HF.out _).mono ?_;rintro e w2 ⟨v,rfl,hb1,rfl⟩;(try(with_reducible have T1:=T.call hb1;clear T;have T:=T1;clear T1));(try(first|(with_reducible have T:=(At4.made _ 133 0 0 0 0 rfl).call hb1)|(with_reducible have T:=(At4.made _ 133 0 0 0 0 rfl).drew.call hb1));have N7:=KP.lts;have M7:=KP.le);have KP1:=Kept.call (lE (by assumption)) hb1;clear KP;have KP:=KP1;clear KP1 hb1)|(go_at_call 116;refine(m6 _ _ _ _ HF.out (Four.mk HG.out.h0 HG.out.h1 HG.out.h2 (by decide) rfl) _).mono ?_;rintro e w2 ⟨v,rfl,hb1,v2,t,k,rfl,hF2,hk,he⟩;obtain⟨a',b',c',d',rfl,ha',hb',hc',hd',es⟩:=id hF2;have HT:Hid (t<top/\t+top*k=beV bs.toList+val g0 g1 g2 0):=⟨hF2.lt,he⟩;clear es he hF2;(try(with_reducible have T1:=T.call hb1;clear T;have T:=T1;clear T1));(try(first|(with_reducible have T:=(At4.made _ 133 0 0 0 0 rfl).call hb1)|(with_reducible have T:=(At4.made _ 133 0 0 0 0 rfl).drew.call hb1));have N7:=KP.lts;have M7:=KP.le);have KP1:=Kept.call (lE (by assumption)) hb1;clear KP;have KP:=KP1;clear KP1 hb1;(try(obtain⟨tc0,tc1,tc2,tc3,tf⟩:=id T;have zt:=T.lt))))
  all_goals (try go_wp2)
  all_goals (have HX:Hid (∃t,t<top/\t+top*k=beV bs.toList+val g0 g1 g2 0):=⟨t,HT.out⟩)
  all_goals (go_meet;first|(with_reducible exact⟨k,rfl,hk,HX,KP.alloc _⟩)|(with_reducible exact⟨k,rfl,hk,HX,(KP.alloc _).drew⟩)|(with_reducible exact⟨k,rfl,hk,HX,KP.set4' M7 (fun x hx=>QW (N7 x hx)) _ _ _ _⟩)|(with_reducible exact⟨k,rfl,hk,HX,(KP.set4' M7 (fun x hx=>QW (N7 x hx)) _ _ _ _).drew⟩)|fail)
 case rest =>
  clear KP;obtain⟨k,rfl,hk,HE,KP⟩:=hcut;have hk':k=0\/k=1:=by omega
  rcases hk' with rfl|rfl
  ·obtain⟨xc0,xc1,xc2,xc3,xf⟩:=KP.head.at4;obtain⟨rc0,rc1,rc2,rc3,rf⟩:=KP.tail.tail.head.at4;have z1:=KP.tail.tail.head.lt;go_wp2;have RF:=KP.tail.tail.head.at4.self4 a b c d;unfold set4 at RF;refine bodyPost_ret (v:=?v0) ?hr0 rfl ?hR0
   case hr0=>simp[results,Tryz.results77,go_sem,RF.c0,RF.c1,RF.c2,RF.c3];rfl
   refine⟨_,rfl,?_,Or.inl ⟨?_,_,rfl,HF.out⟩⟩
   ·rw[H0.out];exact aD KP.bl Q1.out _ _ _ _
   ·obtain⟨t,h1,h2⟩:=HE.out;have:=HG.out.hP;omega
  ·obtain⟨rc0,rc1,rc2,rc3,rf⟩:=KP.tail.tail.head.at4;have z1:=KP.tail.tail.head.lt;go_wp2;have RF:At4 (set4 wc k1 (.int .u64 0) (.int .u64 0) (.int .u64 0) (.int .u64 0)) k1 0 0 0 0:=KP.tail.tail.head.at4.self4 0 0 0 0;unfold set4 at RF;refine bodyPost_ret (v:=?v1) ?hr1 rfl ?hR1
   case hr1=>simp[results,Tryz.results77,go_sem,RF.c0,RF.c1,RF.c2,RF.c3];rfl
   refine⟨_,rfl,?_,Or.inr ⟨?_,rfl⟩⟩
   ·rw[H0.out];exact aD KP.bl Q1.out _ _ _ _
   ·obtain⟨t,h1,h2⟩:=HE.out;have:=HG.out.hP;omega
def Arg(w:World)(v:Value)(bs:Bs):Prop:=∃(p:Option Addr) (n cap:Nat),v=.slice p n cap/\bs.size=n/\(n=32->∃g o,p=some ⟨g,o,none⟩/\32<=cap/\g<w.heap.size/\Holds encB w g o bs)
theorem Arg.below{w w1:World}{v:Value}{bs:Bs}(h:Arg w v bs)(hb:Below w.heap.size w w1):Arg w1 v bs:=by
 obtain⟨p,n,cap,rfl,hs,h1⟩:=h;refine⟨p,n,cap,rfl,hs,fun h2=>?_⟩;obtain⟨g,o,h3,h4,h6,h7⟩:=h1 h2;exact⟨g,o,h3,h4,PS h6 hb.size,Holds.below h7 hb h6⟩
def La(P:Nat)(bs:Bs):Prop:=bs.size=32/\beV bs.toList<P
def Args(w:World)(q:Option Addr)(n:Nat)(L:Nat->Bs):Prop:=0<n->∃gg,q=some ⟨gg,0,none⟩/\gg<w.heap.size/\∀j,j<n->∃v,w.cell? ⟨gg,j,none⟩=some v/\Arg w v (L j)
end
section
open Go.RowKit Go.Sort
theorem u131:(prog.underlying 50).map (·.isRow)=some true:=by kernel_rfl
theorem i131:(prog.info? 50).map (·.size)=some 33:=by kernel_rfl
theorem u5:(prog.underlying 5).map (·.isRow)=some false:=by kernel_rfl
theorem Lh:prog.underlying 50=some (.array 33 5):=by kernel_rfl
theorem OI:prog.underlying 5=some (.int .u8):=by kernel_rfl
theorem cells5:prog.cellsOf 5=1:=by kernel_rfl
theorem Ns(g o cap:Nat)(hc:33<=cap)(w:World):(Instr.sliceAt 28 (.slice (some ⟨g,o,none⟩) 33 cap) (some (.int .i64 1)) none none).run prog w=.ok (.slice (some ⟨g,o+1,none⟩) 32 (cap-1)) w:=by
 go_simp;omega
theorem KQ(g o cap:Nat)(w:World):(Instr.arrayAt 50 (.slice (some ⟨g,o,none⟩) 33 cap)).run prog w=.ok (.pointer (some ⟨g,o,none⟩)) w:=by kernel_rfl
theorem BV(g o n cap:Nat)(hn:0<n)(w:World):(QV 28 (.slice (some ⟨g,o,none⟩) n cap) (.int .i64 0)).run prog w=.ok (.pointer (some ⟨g,o,none⟩)) w:=by
 have h:(0:Int)<(n:Int):=by omega
 go_simp
theorem Kr(xs:Array Value)(i:Nat)(v:Value)(h:xs[i]? = some v)(w:World):(part 5 xs i).run prog w=.ok v w:=by
 go_simp
theorem eqI(xs ys:Array Value)(a b:Nat->Int)(D:Nat)(w:World):∀(is:List Nat),(∀i∈is,xs[i]? = some (.int .u8 (a i)))->(∀i∈is,ys[i]? = some (.int .u8 (b i))) ->
 (WQ (D+1) 5 1 xs ys is).run prog w=.ok (decide (∀i∈is,a i=b i)) w
 | [],_,_=>by
  rw[WQ];simp
 | i :: is,hx,hy=>by
  have ih:=eqI xs ys a b D w is (fun j hj=>hx j (Qv _ hj)) (fun j hj=>hy j (Qv _ hj));have p1:=Kr xs (i*1) _ (by rw[Se];exact hx i Qy) w;have p2:=Kr ys (i*1) _ (by rw[Se];exact hy i Qy) w;have p3:=run_equalIn_int (P:=prog) w D 5 .u8 .u8 (a i) (b i) OI;rw[WQ];simp only[Sem.run_bind,p1,p2,p3,Result.andThen_ok];by_cases h:a i=b i
  ·simp only[h,beq_self_eq_true,Bool.not_true,Bool.false_eq_true,if_false,ih,VW,true_and]
  ·have h2:(a i == b i)=false:=by simpa using h
   simp only[h2,Bool.not_false,if_true,Sem.run_pure,VW,h,false_and,decide_false]
def aA(bs:Bs):List Value:=bs.toList.map encB
def z33:List Value:=List.replicate 33 (.int .u8 0)
theorem nQ(bs:Bs)(i:Nat)(h:i<bs.size):(aA bs)[i]? = some (.int .u8 (ub bs[i]!)):=by
 unfold aA;rw[QX,QE,Qo h,getElem!_pos bs i h];rfl
theorem eqz(bs:Bs)(h:bs.size=33)(w:World):(binOp .eql 50 (.agg (aA bs).toArray) (.agg z33.toArray)).run prog w=.ok (.bool (decide (∀i∈QJ 33,ub bs[i]! = 0))) w:=by
 have hi:(prog.info? 5).isSome=true:=by kernel_rfl
 obtain⟨inf,hinf⟩:=Qx.1 hi;rw[run_eql_struct,run_equalIn_array w 9999 _ _ Lh hinf,cells5,
  eqI _ _ (fun i=>ub bs[i]!) (fun _=>0) 9998 w (QJ 33) (fun i hi=>by
   rw[Tw];exact nQ bs i (by rw[h];exact Rh.1 hi)) (fun i hi=>by
   rw[Tw];unfold z33;rw[List.getElem?_replicate,if_pos (Rh.1 hi)])]
 rfl
@[reducible] def jQ (bs:Bs):Prop:=∀i∈QJ 33,ub bs[i]! = 0
theorem N1{bs:Bs}(h:bs.size=33)(hz:jQ bs)(w:World):(binOp .eql 50 (.agg (aA bs).toArray) (.agg z33.toArray)).run prog w=.ok (.bool true) w:=by rw[eqz bs h,decide_eq_true (show ∀i∈QJ 33,ub bs[i]! = 0 from hz)]
theorem N2{bs:Bs}(h:bs.size=33)(hz:¬jQ bs)(w:World):(binOp .eql 50 (.agg (aA bs).toArray) (.agg z33.toArray)).run prog w=.ok (.bool false) w:=by rw[eqz bs h,decide_eq_false (show ¬ ∀i∈QJ 33,ub bs[i]! = 0 from hz)]
theorem aF{bs:Bs}(h:bs.size=33):(aA bs).length=33:=by unfold aA;rw[Qb,P8,h]
theorem BR{bs:Bs}{w:World}{g o:Nat}(hB:Holds encB w g o bs):w.rangeAt g o (aA bs):=fun j v hv=>by
 have hj:j<bs.size:=by
  have:=(Qe.1 hv).1;unfold aA at this;rwa[Qb,P8]at this
 rw[nQ bs j hj]at hv;rw[(hB j hj).1];exact hv
def dT(bs:Bs):Bs:=bs.extract 1 33
theorem eF{bs:Bs}(h:bs.size=33):(dT bs).size=32:=by unfold dT;rw[QQ,h];rfl
theorem tl33_holds{bs:Bs}{w:World}{g o:Nat}(h:bs.size=33)(hB:Holds encB w g o bs):Holds encB w g (o+1) (dT bs):=
 Holds.part hB (by rw[eF h,h];decide) (fun j hj=>by
  rw[eF h]at hj;unfold dT;rw[getElem!_pos _ j (by rw[QQ,h];omega),getElem!_pos _ (1+j) (by rw[h];omega),Array.getElem_extract])
variable {P:Nat}[NeZero P]
theorem MO(C:Fld P){g o cap:Nat}{bs:Bs}(hs:bs.size=32)(hc:32<=cap){x:Fin P}(hx:beV bs.toList=x.val){w:World}(hg:g<w.heap.size)(hB:Holds encB w g o bs):
 Calls prog 77 #[gv0,.slice (some ⟨g,o,none⟩) 32 cap] w (Ret fun e w'=>Below w.heap.size w w'/\e=.tuple #[fv x,.bool true]):=
 (tH 4294968273 0 0 P g o cap bs C.gap w hs hc hg hB).mono (by
  rintro e w' ⟨v,rfl,hb,⟨hl,v',rfl,h8⟩|⟨hl,rfl⟩⟩
  ·refine⟨_,rfl,hb,?_⟩;rw[hx]at h8;rw[h8.nv]
  ·have:=x.isLt;omega)
theorem MP(C:Fld P){g o cap:Nat}{bs:Bs}(hs:bs.size=32)(hc:32<=cap)(hx:¬beV bs.toList<P){w:World}(hg:g<w.heap.size)(hB:Holds encB w g o bs):
 Calls prog 77 #[gv0,.slice (some ⟨g,o,none⟩) 32 cap] w (Ret fun e w'=>Below w.heap.size w w'/\e=.tuple #[fv (0:Fin P),.bool false]):=
 (tH 4294968273 0 0 P g o cap bs C.gap w hs hc hg hB).mono (by
  rintro e w' ⟨v,rfl,hb,⟨hl,v',rfl,h8⟩|⟨hl,rfl⟩⟩
  ·exact absurd hl hx
  ·refine⟨_,rfl,hb,?_⟩;rw[<-iS])
def rdx(P:Nat)[NeZero P](bs:Bs):Fin P:=SA P (beV (dT bs).toList)
def rd(P:Nat)[NeZero P](bs:Bs):Option (Fin P × Fin P):=
 if bs.size=33 then
  if jQ bs then some (0,0) else
  if ub bs[0]! = 2\/ub bs[0]! = 3 then
   if beV (dT bs).toList<P then
    (rt (rdx P bs*rdx P bs*rdx P bs+7)).map (fun y=>(rdx P bs,if ub bs[0]! = 3 then 0-y else y))
   else none
  else none
 else none
def rdV:Option (Fin P × Fin P)->Value
 | none=>.tuple #[pv (0:Fin P) 0,.bool false]
 | some p=>.tuple #[pv p.1 p.2,.bool true]
end
section
open Go.RowKit Go.Sort
variable {P:Nat}[NeZero P]{N:Nat}
theorem LA(C:Fld P)(q:Option Addr)(n cap:Nat)(x:Fin P)(w:World)(hn:¬n=33):Calls prog 78 #[(.slice q n cap)] w (Ret fun e w'=>Below w.heap.size w w'/\e=(.tuple #[pv (0:Fin P) 0,.bool false])):=by
 have hne:∀w,(binOp .neq 3 (.int .i64 n) (.int .i64 33)).run prog w=.ok (.bool true) w:=fun w=>by
  have h:¬(n:Int)=33:=by omega
  go_simp
 go_enter Tryz.func78,Tryz.ntmps78;refine RG.Ff (v0:=(.slice q n cap)) (n:=54) (by kernel_rfl) (by kernel_rfl) (by kernel_rfl) ?_;intro a0 sl0 f0;have hS0:=RG.St.begin w;have M0:RG.M w w.heap.size [] 54 [] [] [(0,(.v (.slice q n cap)))] a0 _:=⟨hS0,sl0,⟨f0,trivial⟩⟩
 repeat refine wp_seq ?_
 refine M0.t [.m 2 [] 0,.x 3 [] (.bool false)] [(0,(RG.z 8))] [] [(RG.z 8)] [(0,(.v (.slice q n cap))),(2,(.p 0 0)),(3,(.v (.bool false)))] ⟨RG.mk 0 43,RG.st,trivial⟩ ?_;intro j1 a1 w1 M1;repeat refine wp_seq ?_
 refine M1.u [.x 7 [] (.slice q n cap),.x 8 [(7,0)] (.int .i64 n),.x 9 [(8,1)] (.bool true)] [(2,(.p 0 0)),(3,(.v (.bool false))),(9,(.v (.bool true)))] ⟨RG.st,RG.eC rfl 7 (.v (.slice q n cap)) (.int .i64 n) rfl RG.sx (fun a w=>by kernel_rfl) (fun μ w=>by kernel_rfl),RG.aI rfl .neq 3 3 8 (.int .i64 n) (.int .i64 33) (.bool true) rfl rfl RG.sx (fun w=>by kernel_rfl) (hne),trivial⟩ ?_;intro a2 w2 M2;repeat refine wp_seq ?_
 refine wp_cond_true M2.ev ?_;repeat refine wp_seq ?_
 refine M2.t [.x 10 [] (pv (0:Fin P) (0:Fin P)),.u [(10,0)] 0,.x 3 [] (.bool false)] [] [(0,1,(ws (0:Fin P)++(ws (0:Fin P))))] [(ws (0:Fin P)++(ws (0:Fin P)))] [(2,(.p 0 0)),(3,(.v (.bool false)))] ⟨RG.se (eK (P:=P)),RG.pt i109,RG.st,trivial⟩ ?_;intro a3 w3 M3;refine wp_ret ?_;refine bodyPost_ret (v:=(.tuple #[(pv (0:Fin P) (0:Fin P)),(.bool false)])) (RG.aN M3.st 2 3 43 rfl 0 _ rfl (M3.at (s:=(.p 0 0))) _ (M3.at (s:=(.v (.bool false)))) gP i109) M3.sl.defers ?_;exact⟨_,rfl,M3.st.bel.below,rfl⟩
abbrev v33(g o cap:Nat):Value:=.slice (some ⟨g,o,none⟩) 33 cap
theorem OS(C:Fld P)(g o cap:Nat)(bs:Bs)(w:World)(hs:bs.size=33)(hc:33<=cap)(hg:g<w.heap.size)(hB:Holds encB w g o bs):Calls prog 78 #[v33 g o cap] w (Ret fun e w'=>Below w.heap.size w w'/\e=rdV (rd P bs)):=by
 have hrg:=BR hB;have hb0:w.cell? ⟨g,o,none⟩=some (.int .u8 (ub bs[0]!)):=by
  have:=(hB 0 (by rw[hs];decide)).1;rw[RD]at this;exact this
 go_enter Tryz.func78,Tryz.ntmps78;refine RG.Ff (v0:=(v33 g o cap)) (n:=54) (by kernel_rfl) (by kernel_rfl) (by kernel_rfl) ?_;intro a0 sl0 f0;have hS0:=RG.St.begin w;have M0:RG.M w w.heap.size [] 54 [] [] [(0,(.v (v33 g o cap)))] a0 _:=⟨hS0,sl0,⟨f0,trivial⟩⟩
 repeat refine wp_seq ?_
 refine M0.t [.m 2 [] 0,.x 3 [] (.bool false)] [(0,(RG.z 8))] [] [(RG.z 8)] [(0,(.v (v33 g o cap))),(2,(.p 0 0)),(3,(.v (.bool false)))] ⟨RG.mk 0 43,RG.st,trivial⟩ ?_;intro j1 a1 w1 M1;repeat refine wp_seq ?_
 refine M1.u [.x 7 [] (v33 g o cap),.x 8 [(7,0)] (.int .i64 33),.x 9 [(8,1)] (.bool false)] [(0,(.v (v33 g o cap))),(2,(.p 0 0)),(3,(.v (.bool false))),(9,(.v (.bool false)))] ⟨RG.st,RG.eC rfl 7 (.v (v33 g o cap)) (.int .i64 33) rfl RG.sx (fun a w=>by kernel_rfl) (fun μ w=>by kernel_rfl),RG.st,trivial⟩ ?_;intro a2 w2 M2;repeat refine wp_seq ?_
 refine wp_cond_false M2.ev ?_;refine wp_skip ?_;repeat refine wp_seq ?_
 unfold rd;rw[if_pos hs];by_cases hz:jQ bs
 ·rw[if_pos hz];refine M2.u [.x 11 [] (v33 g o cap),.x 12 [(11,0)] (.pointer (some ⟨g,o,none⟩)),.x 13 [(12,1)] (.agg (aA bs).toArray),.x 14 [] (.agg z33.toArray),.x 15 [(13,2),(14,3)] (.bool true)] [(2,(.p 0 0)),(3,(.v (.bool false))),(15,(.v (.bool true)))] ⟨RG.st,RG.zU rfl 50 11 (v33 g o cap) (.pointer (some ⟨g,o,none⟩)) rfl rfl RG.sx (KQ g o cap),RG.cV rfl g o hg P4 50 12 rfl (aA bs) rfl RG.sx hrg u131 (by rw[aF hs];exact i131),RG.st,RG.aG rfl .eql 50 50 13 14 (.agg (aA bs).toArray) (.agg z33.toArray) (.bool true) rfl rfl RG.sx RG.sx (fun w=>by kernel_rfl) (N1 hs hz),trivial⟩ ?_;intro a3 w3 M3;repeat refine wp_seq ?_
  refine wp_cond_true M3.ev ?_;repeat refine wp_seq ?_
  refine M3.t [.x 16 [] (pv (0:Fin P) (0:Fin P)),.u [(16,0)] 0,.x 3 [] (.bool true)] [] [(0,1,(ws (0:Fin P)++(ws (0:Fin P))))] [(ws (0:Fin P)++(ws (0:Fin P)))] [(2,(.p 0 0)),(3,(.v (.bool true)))] ⟨RG.se (eK (P:=P)),RG.pt i109,RG.st,trivial⟩ ?_;intro a4 w4 M4;refine wp_ret ?_;refine bodyPost_ret (v:=(.tuple #[(pv (0:Fin P) (0:Fin P)),(.bool true)])) (RG.aN M4.st 2 3 43 rfl 0 _ rfl (M4.at (s:=(.p 0 0))) _ (M4.at (s:=(.v (.bool true)))) gP i109) M4.sl.defers ?_;exact⟨_,rfl,M4.st.bel.below,rfl⟩
 rw[if_neg hz];refine M2.u [.x 11 [] (v33 g o cap),.x 12 [(11,0)] (.pointer (some ⟨g,o,none⟩)),.x 13 [(12,1)] (.agg (aA bs).toArray),.x 14 [] (.agg z33.toArray),.x 15 [(13,2),(14,3)] (.bool false)] [(0,(.v (v33 g o cap))),(2,(.p 0 0)),(3,(.v (.bool false))),(15,(.v (.bool false)))] ⟨RG.st,RG.zU rfl 50 11 (v33 g o cap) (.pointer (some ⟨g,o,none⟩)) rfl rfl RG.sx (KQ g o cap),RG.cV rfl g o hg P4 50 12 rfl (aA bs) rfl RG.sx hrg u131 (by rw[aF hs];exact i131),RG.st,RG.aG rfl .eql 50 50 13 14 (.agg (aA bs).toArray) (.agg z33.toArray) (.bool false) rfl rfl RG.sx RG.sx (fun w=>by kernel_rfl) (N2 hs hz),trivial⟩ ?_;intro a3 w3 M3;repeat refine wp_seq ?_
 refine wp_cond_false M3.ev ?_;refine wp_skip ?_;repeat refine wp_seq ?_
 by_cases hm:ub bs[0]! = 2\/ub bs[0]! = 3
 rotate_left
 ·rw[if_neg hm];generalize ub bs[0]! = m at hb0 hm;have h2:¬m=2:=fun h=>hm (.inl h)
  have h3:¬m=3:=fun h=>hm (.inr h)
  have hm2:∀w,(binOp .neq 5 (.int .u8 m) (.int .u8 2)).run prog w=.ok (.bool true) w:=fun w=>by
   go_simp
  have hm3:∀w,(binOp .neq 5 (.int .u8 m) (.int .u8 3)).run prog w=.ok (.bool true) w:=fun w=>by
   go_simp
  refine M3.u [.x 17 [] (v33 g o cap),.x 18 [(17,0)] (.pointer (some ⟨g,o,none⟩)),.x 19 [(18,1)] (.int .u8 m),.x 20 [(19,2)] (.bool true),.x 21 [(20,3)] (.bool true),.x 22 [] (v33 g o cap),.x 23 [(22,5)] (.pointer (some ⟨g,o,none⟩)),.x 24 [(23,6)] (.int .u8 m),.x 25 [(24,7)] (.bool true),.x 26 [(21,4),(25,8)] (.bool true)] [(2,(.p 0 0)),(3,(.v (.bool false))),(26,(.v (.bool true)))] ⟨RG.st,RG.dC rfl 28 17 (.int .i64 0) rfl (.v (v33 g o cap)) RG.sx (fun μ w=>BV g o 33 cap (by decide) w),RG.aJ rfl g o hg P4 5 18 rfl (.int .u8 m) rfl RG.sx hb0 u5,RG.aI rfl .neq 5 5 19 (.int .u8 m) (.int .u8 2) (.bool true) rfl rfl RG.sx (fun w=>by kernel_rfl) (hm2),RG.st,RG.st,RG.dC rfl 28 22 (.int .i64 0) rfl (.v (v33 g o cap)) RG.sx (fun μ w=>BV g o 33 cap (by decide) w),RG.aJ rfl g o hg P4 5 23 rfl (.int .u8 m) rfl RG.sx hb0 u5,RG.aI rfl .neq 5 5 24 (.int .u8 m) (.int .u8 3) (.bool true) rfl rfl RG.sx (fun w=>by kernel_rfl) (hm3),RG.st,trivial⟩ ?_;intro a4 w4 M4;repeat refine wp_seq ?_
  refine wp_cond_true M4.ev ?_;repeat refine wp_seq ?_
  refine M4.t [.x 27 [] (pv (0:Fin P) (0:Fin P)),.u [(27,0)] 0,.x 3 [] (.bool false)] [] [(0,1,(ws (0:Fin P)++(ws (0:Fin P))))] [(ws (0:Fin P)++(ws (0:Fin P)))] [(2,(.p 0 0)),(3,(.v (.bool false)))] ⟨RG.se (eK (P:=P)),RG.pt i109,RG.st,trivial⟩ ?_;intro a5 w5 M5;refine wp_ret ?_;refine bodyPost_ret (v:=(.tuple #[(pv (0:Fin P) (0:Fin P)),(.bool false)])) (RG.aN M5.st 2 3 43 rfl 0 _ rfl (M5.at (s:=(.p 0 0))) _ (M5.at (s:=(.v (.bool false)))) gP i109) M5.sl.defers ?_;exact⟨_,rfl,M5.st.bel.below,rfl⟩
 rw[if_pos hm];rcases hm with hm|hm
 case' inl=>refine M3.u [.x 17 [] (v33 g o cap),.x 18 [(17,0)] (.pointer (some ⟨g,o,none⟩)),.x 19 [(18,1)] (.int .u8 2),.x 20 [(19,2)] (.bool false),.x 21 [(20,3)] (.bool false),⟨some 22,[],(.v undef),.pass⟩,⟨some 23,[],(.v undef),.pass⟩,⟨some 24,[],(.v undef),.pass⟩,⟨some 25,[],(.v undef),.pass⟩,.x 26 [(21,4),(25,8)] (.bool false)] [(0,(.v (v33 g o cap))),(2,(.p 0 0)),(3,(.v (.bool false))),(26,(.v (.bool false)))] ⟨RG.st,RG.dC rfl 28 17 (.int .i64 0) rfl (.v (v33 g o cap)) RG.sx (fun μ w=>BV g o 33 cap (by decide) w),RG.aJ rfl g o hg P4 5 18 rfl (.int .u8 2) rfl RG.sx (hb0.trans (by rw[hm])) u5,RG.st,RG.st,RG.aH rfl rfl,RG.aH rfl rfl,RG.aH rfl rfl,RG.aH rfl rfl,RG.st,trivial⟩ ?_
 case' inr=>refine M3.u [.x 17 [] (v33 g o cap),.x 18 [(17,0)] (.pointer (some ⟨g,o,none⟩)),.x 19 [(18,1)] (.int .u8 3),.x 20 [(19,2)] (.bool true),.x 21 [(20,3)] (.bool true),.x 22 [] (v33 g o cap),.x 23 [(22,5)] (.pointer (some ⟨g,o,none⟩)),.x 24 [(23,6)] (.int .u8 3),.x 25 [(24,7)] (.bool false),.x 26 [(21,4),(25,8)] (.bool false)] [(0,(.v (v33 g o cap))),(2,(.p 0 0)),(3,(.v (.bool false))),(26,(.v (.bool false)))] ⟨RG.st,RG.dC rfl 28 17 (.int .i64 0) rfl (.v (v33 g o cap)) RG.sx (fun μ w=>BV g o 33 cap (by decide) w),RG.aJ rfl g o hg P4 5 18 rfl (.int .u8 3) rfl RG.sx (hb0.trans (by rw[hm])) u5,RG.st,RG.st,RG.st,RG.dC rfl 28 22 (.int .i64 0) rfl (.v (v33 g o cap)) RG.sx (fun μ w=>BV g o 33 cap (by decide) w),RG.aJ rfl g o hg P4 5 23 rfl (.int .u8 3) rfl RG.sx (hb0.trans (by rw[hm])) u5,RG.st,RG.st,trivial⟩ ?_
 all_goals
  intro a4 w4 M4;repeat refine wp_seq ?_
  refine wp_cond_false M4.ev ?_;refine wp_skip ?_;repeat refine wp_seq ?_
  by_cases hx:beV (dT bs).toList<P
  rotate_left
  ·rw[if_neg hx];have hrd:∀w',RG.BelX w.heap.size [] w w'->Calls prog 77 #[gv0,.slice (some ⟨g,o+1,none⟩) 32 (cap-1)] w' (Ret fun e w''=>Below w'.heap.size w' w''/\e=.tuple #[fv (0:Fin P),.bool false]):=fun w' hb=>MP C (eF hs) (by omega) hx (PS hg hb.size) (Holds.below (tl33_holds hs hB) hb.below hg)
   refine M4.d [.c 29 [] gv0,.x 30 [] (v33 g o cap),.x 31 [(30,1)] (.slice (some ⟨g,o+1,none⟩) 32 (cap-1)),.c 32 [(29,0),(31,2)] (.tuple #[(fv (0:Fin P)),(.bool false)]),.x 28 [(32,3)] (.tuple #[(fv (0:Fin P)),(.bool false)]),.x 33 [(28,4)] (fv (0:Fin P)),.x 34 [(28,4)] (.bool false),.m 4 [] 1,.u [(4,7),(33,5)] 1,.x 5 [(34,6)] (.bool false)] [(7,(RG.z 4))] [(1,8,(ws (0:Fin P)))] [(RG.z 8),(ws (0:Fin P))] [(2,(.p 0 0)),(3,(.v (.bool false))),(5,(.v (.bool false)))] ⟨RG.cl (bJ),RG.st,RG.eW rfl 28 30 (.int .i64 1) (v33 g o cap) (.slice (some ⟨g,o+1,none⟩) 32 (cap-1)) rfl rfl RG.sx (Ns g o cap hc),RG.iD rfl 77 29 31 gv0 (.slice (some ⟨g,o+1,none⟩) 32 (cap-1)) (.tuple #[(fv (0:Fin P)),(.bool false)]) rfl (fun a w=>by kernel_rfl) RG.sx RG.sx hrd,RG.st,RG.st,RG.st,RG.mk 1 41,RG.pt i85,RG.st,trivial⟩ ?_;intro j5 a5 w5 M5;repeat refine wp_seq ?_
   refine M5.u [.x 35 [] (.bool false),.x 36 [(35,0)] (.bool true)] [(2,(.p 0 0)),(3,(.v (.bool false))),(36,(.v (.bool true)))] ⟨RG.st,RG.st,trivial⟩ ?_;intro a6 w6 M6;repeat refine wp_seq ?_
   refine wp_cond_true M6.ev ?_;repeat refine wp_seq ?_
   refine M6.t [.x 37 [] (pv (0:Fin P) (0:Fin P)),.u [(37,0)] 0,.x 3 [] (.bool false)] [] [(0,1,(ws (0:Fin P)++(ws (0:Fin P))))] [(ws (0:Fin P)++(ws (0:Fin P))),(ws (0:Fin P))] [(2,(.p 0 0)),(3,(.v (.bool false)))] ⟨RG.se (eK (P:=P)),RG.pt i109,RG.st,trivial⟩ ?_;intro a7 w7 M7;refine wp_ret ?_;refine bodyPost_ret (v:=(.tuple #[(pv (0:Fin P) (0:Fin P)),(.bool false)])) (RG.aN M7.st 2 3 43 rfl 0 _ rfl (M7.at (s:=(.p 0 0))) _ (M7.at (s:=(.v (.bool false)))) gP i109) M7.sl.defers ?_;exact⟨_,rfl,M7.st.bel.below,rfl⟩
  rw[if_pos hx];have hx':beV (dT bs).toList=(rdx P bs).val:=(Qf hx).symm;generalize rdx P bs=x at hx';have hrd:∀w',RG.BelX w.heap.size [] w w'->Calls prog 77 #[gv0,.slice (some ⟨g,o+1,none⟩) 32 (cap-1)] w' (Ret fun e w''=>Below w'.heap.size w' w''/\e=.tuple #[fv x,.bool true]):=fun w' hb=>MO C (eF hs) (by omega) hx' (PS hg hb.size) (Holds.below (tl33_holds hs hB) hb.below hg)
  refine M4.d [.c 29 [] gv0,.x 30 [] (v33 g o cap),.x 31 [(30,1)] (.slice (some ⟨g,o+1,none⟩) 32 (cap-1)),.c 32 [(29,0),(31,2)] (.tuple #[(fv x),(.bool true)]),.x 28 [(32,3)] (.tuple #[(fv x),(.bool true)]),.x 33 [(28,4)] (fv x),.x 34 [(28,4)] (.bool true),.m 4 [] 1,.u [(4,7),(33,5)] 1,.x 5 [(34,6)] (.bool true)] [(7,(RG.z 4))] [(1,8,(ws x))] [(RG.z 8),(ws x)] [(0,(.v (v33 g o cap))),(2,(.p 0 0)),(3,(.v (.bool false))),(4,(.p 1 0)),(5,(.v (.bool true)))] ⟨RG.cl (bJ),RG.st,RG.eW rfl 28 30 (.int .i64 1) (v33 g o cap) (.slice (some ⟨g,o+1,none⟩) 32 (cap-1)) rfl rfl RG.sx (Ns g o cap hc),RG.iD rfl 77 29 31 gv0 (.slice (some ⟨g,o+1,none⟩) 32 (cap-1)) (.tuple #[(fv x),(.bool true)]) rfl (fun a w=>by kernel_rfl) RG.sx RG.sx hrd,RG.st,RG.st,RG.st,RG.mk 1 41,RG.pt i85,RG.st,trivial⟩ ?_;intro j5 a5 w5 M5;repeat refine wp_seq ?_
  refine M5.u [.x 35 [] (.bool true),.x 36 [(35,0)] (.bool false)] [(0,(.v (v33 g o cap))),(2,(.p 0 0)),(3,(.v (.bool false))),(4,(.p 1 0)),(5,(.v (.bool true))),(36,(.v (.bool false)))] ⟨RG.st,RG.st,trivial⟩ ?_;intro a6 w6 M6;repeat refine wp_seq ?_
  refine wp_cond_false M6.ev ?_;refine wp_skip ?_;repeat refine wp_seq ?_
  cases hr:rt (x*x*x+7) with
  | none =>
   refine M6.t [.x 39 [] (fv x),.c 40 [(39,0)] (.tuple #[(pv (0:Fin P) (0:Fin P)),(.bool false)]),.x 38 [(40,1)] (.tuple #[(pv (0:Fin P) (0:Fin P)),(.bool false)]),.x 41 [(38,2)] (pv (0:Fin P) (0:Fin P)),.x 42 [(38,2)] (.bool false),.m 6 [] 2,.u [(6,5),(41,3)] 2,.x 5 [(42,4)] (.bool false)] [(5,(RG.z 8))] [(2,6,(ws (0:Fin P)++(ws (0:Fin P))))] [(RG.z 8),(ws x),(ws (0:Fin P)++(ws (0:Fin P)))] [(2,(.p 0 0)),(3,(.v (.bool false))),(5,(.v (.bool false))),(6,(.p 2 0))] ⟨RG.ld u85 i85,RG.sS rfl 119 39 (fv x) (.tuple #[(pv (0:Fin P) (0:Fin P)),(.bool false)]) rfl (fun a w=>by kernel_rfl) RG.sx (EV C x hr),RG.st,RG.st,RG.st,RG.mk 2 43,RG.pt i109,RG.st,trivial⟩ ?_;intro j7 a7 w7 M7;repeat refine wp_seq ?_
   refine M7.u [.x 43 [] (.bool false),.x 44 [(43,0)] (.bool false),⟨some 45,[],(.v undef),.pass⟩,⟨some 46,[],(.v undef),.pass⟩,⟨some 47,[],(.v undef),.pass⟩,⟨some 48,[],(.v undef),.pass⟩,.x 49 [(44,1),(48,5)] (.bool false)] [(2,(.p 0 0)),(3,(.v (.bool false))),(5,(.v (.bool false))),(6,(.p 2 0)),(49,(.v (.bool false)))] ⟨RG.st,RG.st,RG.aH rfl rfl,RG.aH rfl rfl,RG.aH rfl rfl,RG.aH rfl rfl,RG.st,trivial⟩ ?_;intro a8 w8 M8;repeat refine wp_seq ?_
   refine wp_cond_false M8.ev ?_;refine wp_skip ?_;repeat refine wp_seq ?_
   refine M8.t [.x 52 [] (pv (0:Fin P) (0:Fin P)),.x 53 [] (.bool false),.u [(52,0)] 0,.x 3 [(53,1)] (.bool false)] [] [(0,2,(ws (0:Fin P)++(ws (0:Fin P))))] [(ws (0:Fin P)++(ws (0:Fin P))),(ws x),(ws (0:Fin P)++(ws (0:Fin P)))] [(2,(.p 0 0)),(3,(.v (.bool false)))] ⟨RG.ld gP i109,RG.st,RG.pt i109,RG.st,trivial⟩ ?_;intro a9 w9 M9;refine wp_ret ?_;refine bodyPost_ret (v:=(.tuple #[(pv (0:Fin P) (0:Fin P)),(.bool false)])) (RG.aN M9.st 2 3 43 rfl 0 _ rfl (M9.at (s:=(.p 0 0))) _ (M9.at (s:=(.v (.bool false)))) gP i109) M9.sl.defers ?_;exact⟨_,rfl,M9.st.bel.below,rfl⟩
  | some y =>
   refine M6.t [.x 39 [] (fv x),.c 40 [(39,0)] (.tuple #[(pv x y),(.bool true)]),.x 38 [(40,1)] (.tuple #[(pv x y),(.bool true)]),.x 41 [(38,2)] (pv x y),.x 42 [(38,2)] (.bool true),.m 6 [] 2,.u [(6,5),(41,3)] 2,.x 5 [(42,4)] (.bool true)] [(5,(RG.z 8))] [(2,6,(ws x++(ws y)))] [(RG.z 8),(ws x),(ws x++(ws y))] [(0,(.v (v33 g o cap))),(2,(.p 0 0)),(3,(.v (.bool false))),(5,(.v (.bool true))),(6,(.p 2 0))] ⟨RG.ld u85 i85,RG.sS rfl 119 39 (fv x) (.tuple #[(pv x y),(.bool true)]) rfl (fun a w=>by kernel_rfl) RG.sx (EU C x y hr),RG.st,RG.st,RG.st,RG.mk 2 43,RG.pt i109,RG.st,trivial⟩ ?_;intro j7 a7 w7 M7;repeat refine wp_seq ?_
   rw[Option.map_some];by_cases h3:ub bs[0]! = 3
   ·rw[if_pos h3];generalize hy2:0-y=y2;have popp_y:Gives 120 #[pv x y] (pv x y2):=hy2 ▸ LS C x y;refine M7.u [.x 43 [] (.bool true),.x 44 [(43,0)] (.bool true),.x 45 [] (v33 g o cap),.x 46 [(45,2)] (.pointer (some ⟨g,o,none⟩)),.x 47 [(46,3)] (.int .u8 3),.x 48 [(47,4)] (.bool true),.x 49 [(44,1),(48,5)] (.bool true)] [(2,(.p 0 0)),(3,(.v (.bool false))),(5,(.v (.bool true))),(6,(.p 2 0)),(49,(.v (.bool true)))] ⟨RG.st,RG.st,RG.st,RG.dC rfl 28 45 (.int .i64 0) rfl (.v (v33 g o cap)) RG.sx (fun μ w=>BV g o 33 cap (by decide) w),RG.aJ rfl g o hg P4 5 46 rfl (.int .u8 3) rfl RG.sx (hb0.trans (by rw[h3])) u5,RG.st,RG.st,trivial⟩ ?_;intro a8 w8 M8;repeat refine wp_seq ?_
    refine wp_cond_true M8.ev ?_;repeat refine wp_seq ?_
    refine M8.t [.x 50 [] (pv x y),.c 51 [(50,0)] (pv x y2),.u [(51,1)] 2] [] [(2,2,(ws x++(ws y2)))] [(RG.z 8),(ws x),(ws x++(ws y2))] [(2,(.p 0 0)),(3,(.v (.bool false))),(5,(.v (.bool true))),(6,(.p 2 0))] ⟨RG.ld gP i109,RG.cl (popp_y),RG.pt i109,trivial⟩ ?_;intro a9 w9 M9;repeat refine wp_seq ?_
    refine M9.t [.x 52 [] (pv x y2),.x 53 [] (.bool true),.u [(52,0)] 0,.x 3 [(53,1)] (.bool true)] [] [(0,2,(ws x++(ws y2)))] [(ws x++(ws y2)),(ws x),(ws x++(ws y2))] [(2,(.p 0 0)),(3,(.v (.bool true)))] ⟨RG.ld gP i109,RG.st,RG.pt i109,RG.st,trivial⟩ ?_;intro a10 w10 M10;refine wp_ret ?_;refine bodyPost_ret (v:=(.tuple #[(pv x y2),(.bool true)])) (RG.aN M10.st 2 3 43 rfl 0 _ rfl (M10.at (s:=(.p 0 0))) _ (M10.at (s:=(.v (.bool true)))) gP i109) M10.sl.defers ?_;exact⟨_,rfl,M10.st.bel.below,rfl⟩
   ·rw[if_neg h3];have h2:ub bs[0]! = 2:=by omega
    refine M7.u [.x 43 [] (.bool true),.x 44 [(43,0)] (.bool true),.x 45 [] (v33 g o cap),.x 46 [(45,2)] (.pointer (some ⟨g,o,none⟩)),.x 47 [(46,3)] (.int .u8 2),.x 48 [(47,4)] (.bool false),.x 49 [(44,1),(48,5)] (.bool false)] [(2,(.p 0 0)),(3,(.v (.bool false))),(5,(.v (.bool true))),(6,(.p 2 0)),(49,(.v (.bool false)))] ⟨RG.st,RG.st,RG.st,RG.dC rfl 28 45 (.int .i64 0) rfl (.v (v33 g o cap)) RG.sx (fun μ w=>BV g o 33 cap (by decide) w),RG.aJ rfl g o hg P4 5 46 rfl (.int .u8 2) rfl RG.sx (hb0.trans (by rw[h2])) u5,RG.st,RG.st,trivial⟩ ?_;intro a8 w8 M8;repeat refine wp_seq ?_
    refine wp_cond_false M8.ev ?_;refine wp_skip ?_;repeat refine wp_seq ?_
    refine M8.t [.x 52 [] (pv x y),.x 53 [] (.bool true),.u [(52,0)] 0,.x 3 [(53,1)] (.bool true)] [] [(0,2,(ws x++(ws y)))] [(ws x++(ws y)),(ws x),(ws x++(ws y))] [(2,(.p 0 0)),(3,(.v (.bool true)))] ⟨RG.ld gP i109,RG.st,RG.pt i109,RG.st,trivial⟩ ?_;intro a9 w9 M9;refine wp_ret ?_;refine bodyPost_ret (v:=(.tuple #[(pv x y),(.bool true)])) (RG.aN M9.st 2 3 43 rfl 0 _ rfl (M9.at (s:=(.p 0 0))) _ (M9.at (s:=(.v (.bool true)))) gP i109) M9.sl.defers ?_;exact⟨_,rfl,M9.st.bel.below,rfl⟩
def Arg33(w:World)(v:Value)(bs:Bs):Prop:=∃(p:Option Addr) (n cap:Nat),v=.slice p n cap/\bs.size=n/\(n=33->∃g o,p=some ⟨g,o,none⟩/\33<=cap/\g<w.heap.size/\Holds encB w g o bs)
theorem Arg33.below{w w1:World}{v:Value}{bs:Bs}(h:Arg33 w v bs)(hb:Below w.heap.size w w1):Arg33 w1 v bs:=by
 obtain⟨p,n,cap,rfl,hs,h1⟩:=h;refine⟨p,n,cap,rfl,hs,fun h2=>?_⟩;obtain⟨g,o,h3,h4,h6,h7⟩:=h1 h2;exact⟨g,o,h3,h4,PS h6 hb.size,Holds.below h7 hb h6⟩
theorem kD(C:Fld P)(v:Value)(bs:Bs)(w:World)(hv:Arg33 w v bs):Calls prog 78 #[v] w (Ret fun e w'=>Below w.heap.size w w'/\e=rdV (rd P bs)):=by
 obtain⟨p,n,cap,rfl,hs,h1⟩:=hv;by_cases hn:n=33
 ·subst hn;obtain⟨g,o,rfl,hc,hg,hB⟩:=h1 rfl;exact OS C g o cap bs w hs hc hg hB
 ·unfold rd;rw[if_neg (by rw[hs];exact hn)];exact LA C p n cap 0 w hn
end
section
open Go.RowKit Go.Sort Go.Deep
variable {P:Nat}[NeZero P]{N:Nat}
def bx(n:Nat):Bs:=be32 (n%18446744073709551616) (n/18446744073709551616%18446744073709551616) (n/340282366920938463463374607431768211456%18446744073709551616) (n/6277101735386680763835789423207666416102355444464034512896%18446744073709551616)
theorem cN(n:Nat):(bx n).size=32:=by unfold bx;exact uY _ _ _ _
def mark(n:Nat):UInt8:=if n%2=1 then 3 else 2
def sV(x y:Fin P):Bs:=if x=0/\y=0 then PX 33 0 else #[mark y.val]++bx x.val
theorem DO(C:Fld P)(x:Fin P)(w:World):Calls prog 43 #[fv x] w (Ret fun e w'=>Below w.heap.size w w'/\∃g,e=.slice (some ⟨g,0,none⟩) 32 32/\w.heap.size<=g/\Holds encB w' g 0 (bx x.val)):=
 (vD _ _ w (C.four x)).mono (by
  rintro e w' ⟨v,rfl,hb,g,a,b,c,d,rfl,hg,he,hH⟩;refine⟨_,rfl,hb,g,rfl,hg,?_⟩;have h2:fv x=.agg #[.int .u64 ((x.val%18446744073709551616:Nat):Int),.int .u64 ((x.val/18446744073709551616%18446744073709551616:Nat):Int),.int .u64 ((x.val/340282366920938463463374607431768211456%18446744073709551616:Nat):Int),.int .u64 ((x.val/6277101735386680763835789423207666416102355444464034512896%18446744073709551616:Nat):Int)]:=rfl;rw[h2]at he;simp only[Value.agg.injEq,Array.mk.injEq,List.cons.injEq,QT.injEq,true_and,and_true,Int.ofNat_inj]at he;obtain⟨rfl,rfl,rfl,rfl⟩:=he;exact hH)
theorem KX(C:Fld P)(y:Fin P):Gives 42 #[fv y] (.bool (decide (y.val%2=1))):=fun w =>
 (DK _ _ (C.four y) w).mono (by rintro e w' ⟨v,rfl,hb,rfl⟩;exact⟨_,rfl,hb,rfl⟩)
theorem Bj:(prog.info? 5).map (fun i=>(i.zero,i.size,i.bytes))=some (some (.int .u8 0),1,1):=by kernel_rfl
theorem Fg:prog.underlying 28=some (.slice 5):=by kernel_rfl
def mK(w:World)(T:Bs)(e:Value)(w':World):Prop:=∃g cap,e=.slice (some ⟨g,0,none⟩) 33 cap/\33<=cap/\w.heap.size<=g/\g<w'.heap.size/\Holds encB w' g 0 T
theorem Ew(w:World):(Rm 28 (.int .i64 33) (.int .i64 33)).run prog w=.ok (.slice (some ⟨w.heap.size,0,none⟩) 33 33) (w.alloc (.cells (madeCells #[.int .u8 0] 33) 5)):=
 run_make_row' (P:=prog) 28 5 (.int .u8 0) 1 Fg Bj rfl .i64 .i64 33 (by decide) (by decide) w
theorem GG(w:World)(o:Obj):Holds encB ((w.alloc o).alloc (.cells (madeCells #[.int .u8 0] 33) 5)) (w.heap.size+1) 0 (PX 33 0):=by
 have h:=Holds.made (enc:=encB) (w.alloc o) 5 33 (0:UInt8);rw[Qa]at h;exact h
omit [NeZero P] in
theorem iO(x y:Fin P):pv x y=.agg #[.int .u64 ((x.val%18446744073709551616:Nat):Int),.int .u64 ((x.val/18446744073709551616%18446744073709551616:Nat):Int),.int .u64 ((x.val/340282366920938463463374607431768211456%18446744073709551616:Nat):Int),.int .u64 ((x.val/6277101735386680763835789423207666416102355444464034512896%18446744073709551616:Nat):Int),.int .u64 ((y.val%18446744073709551616:Nat):Int),.int .u64 ((y.val/18446744073709551616%18446744073709551616:Nat):Int),.int .u64 ((y.val/340282366920938463463374607431768211456%18446744073709551616:Nat):Int),.int .u64 ((y.val/6277101735386680763835789423207666416102355444464034512896%18446744073709551616:Nat):Int)]:=rfl
theorem BN(C:Fld P)(x y:Fin P)(hz:x=0/\y=0)(w:World):Calls prog 12 #[pv x y] w (Ret fun e w'=>Below w.heap.size w w'/\mK w (PX 33 0) e w'):=by
 have heq:=GZ C (x:=x) (y:=y) (z:=0) (t:=0) hz;rw[<-eK,iO]at heq;rw[iO];generalize ((x.val%18446744073709551616:Nat):Int)=a at heq⊢;generalize ((x.val/18446744073709551616%18446744073709551616:Nat):Int)=b at heq⊢;generalize ((x.val/340282366920938463463374607431768211456%18446744073709551616:Nat):Int)=c at heq⊢;generalize ((x.val/6277101735386680763835789423207666416102355444464034512896%18446744073709551616:Nat):Int)=d at heq⊢;generalize ((y.val%18446744073709551616:Nat):Int)=p at heq⊢;generalize ((y.val/18446744073709551616%18446744073709551616:Nat):Int)=q at heq⊢;generalize ((y.val/340282366920938463463374607431768211456%18446744073709551616:Nat):Int)=r at heq⊢;generalize ((y.val/6277101735386680763835789423207666416102355444464034512896%18446744073709551616:Nat):Int)=s at heq⊢;have hmk:=Ew;generalize hT:(PX 33 0:Bs)=T;go_enter Tryz.func12,Tryz.ntmps12;go_wp2;go_ret;have hM:=GG w (.cells #[.int .u64 a,.int .u64 b,.int .u64 c,.int .u64 d,.int .u64 p,.int .u64 q,.int .u64 r,.int .u64 s] 43);rw[hT]at hM;exact⟨_,rfl,below2 _ _ _,_,33,rfl,by omega,by omega,by simp,hM⟩
theorem GQ(w:World)(k g m:Nat)(B:Bs)(hB:B.size=32)(hc:w.cell? ⟨k,0,none⟩=some (.int .u8 m))(hH:Holds encB w g 0 B)(hm:m<256:=by decide):
 ∃(w':World) (cap:Nat),(QS #[28,28] 28 #[.slice (some ⟨k,0,none⟩) 1 1,.slice (some ⟨g,0,none⟩) 32 32]).run prog w=.ok (.slice (some ⟨w.heap.size,0,none⟩) 33 cap) w'/\Below w.heap.size w w'/\33<=cap/\w.heap.size<w'.heap.size/\Holds encB w' w.heap.size 0 (#[P9 m]++B):=by
 obtain⟨i,hi,hzz⟩:=PV.1 Bj;simp only[Rz.injEq]at hzz;obtain⟨hz,hs,hb⟩:=hzz;have hap:=run_append_grow (P:=prog) w 28 28 5 i (.int .u8 0) Fg hi hz ⟨k,0,none⟩ 1 1 [.int .u8 m] (by rw[hs];rfl) (fun j v hj=>by
  cases j with
  | zero =>
   obtain rfl:QT .u8 m=v:=by simpa using hj
   rw[VZ];exact hc
  | succ j=>simp at hj) ⟨g,0,none⟩ 32 32 (B.toList.map encB) (by rw[hs,Qb,P8,hB]) (fun j v hj=>by
  have hj':j<B.size:=by
   have:=(Qe.1 hj).1;rwa[Qb,P8]at this
  rw[VZ,(hH j hj').1];rw[QX,QE,Qo hj']at hj;rw[getElem!_pos B j hj'];exact hj) (by decide) (by decide) (by rw[hb];decide)
 refine⟨_,_,hap,?_,?_,?_,?_⟩
 ·exact(Below.refl _ w).drew.trans (aE w.drew _)
 ·exact grownCap_ge w (1+32) 1 5
 ·show w.drew.heap.size<(w.drew.alloc _).heap.size;rw[Qa];exact Su _
 ·intro j hj;have hsz:(#[P9 m]++B).size=33:=by rw[QF,hB];rfl
  have hj':j<33:=by rw[<-hsz];exact hj
  refine⟨?_,World.frozen?_alloc_new w.drew _ _ _⟩;show(w.drew.alloc _).cell? ⟨w.drew.heap.size,0+j,none⟩=_;rw[PU,Qj,getElem!_pos _ j hj,TR (by
   rw[QF,QB,QB,Qb,P8];show j<1+B.size;omega)]
  cases j with
  | zero =>
   rw[TR (by simp),Array.getElem_append_left (by simp)];show some (QT .u8 m)=some (encB (P9 m));unfold encB;rw[mM,Qf hm]
  | succ i =>
   rw[Array.getElem?_append_right (by simp),Array.getElem_append_right (by simp),Tw,QX,QE];show Option.map encB B[i]? = some (encB B[i]);rw[Qo (by omega)];rfl
theorem Kv(w:World)(a b c d p q r s:Nat):Kept w w.heap.size [⟨w.heap.size,0,a,b,c,d⟩,⟨w.heap.size,4,p,q,r,s⟩] (w.alloc (.cells #[.int .u64 a,.int .u64 b,.int .u64 c,.int .u64 d,.int .u64 p,.int .u64 q,.int .u64 r,.int .u64 s] 43)):=by
 have F:=At8.made w 43 a b c d p q r s rfl;refine((Kept.mk1 (aE w _) (aE w _).size).cons ?_).cons ?_
 ·exact⟨F.c4,F.c5,F.c6,F.c7,F.fz⟩
 ·exact⟨F.c0,F.c1,F.c2,F.c3,F.fz⟩
theorem EN(C:Fld P)(x y:Fin P)(hz:¬(x=0/\y=0))(ho:y.val%2=1)(w:World):Calls prog 12 #[pv x y] w (Ret fun e w'=>Below w.heap.size w w'/\mK w (#[3]++bx x.val) e w'):=by
 have heq:=Bu C (x:=x) (y:=y) (z:=0) (t:=0) hz;rw[<-eK,iO]at heq;rw[iO];have hO:∀w,Calls prog 42 #[.agg #[.int .u64 ((y.val%18446744073709551616:Nat):Int),.int .u64 ((y.val/18446744073709551616%18446744073709551616:Nat):Int),.int .u64 ((y.val/340282366920938463463374607431768211456%18446744073709551616:Nat):Int),.int .u64 ((y.val/6277101735386680763835789423207666416102355444464034512896%18446744073709551616:Nat):Int)]] w (Ret fun e w'=>Below w.heap.size w w'/\e=.bool true):=fun w=>by
  have h:=KX C y w;rw[decide_eq_true ho]at h;exact h
 have hBy:∀w,Calls prog 43 #[.agg #[.int .u64 ((x.val%18446744073709551616:Nat):Int),.int .u64 ((x.val/18446744073709551616%18446744073709551616:Nat):Int),.int .u64 ((x.val/340282366920938463463374607431768211456%18446744073709551616:Nat):Int),.int .u64 ((x.val/6277101735386680763835789423207666416102355444464034512896%18446744073709551616:Nat):Int)]] w (Ret fun e w'=>Below w.heap.size w w'/\∃g,e=.slice (some ⟨g,0,none⟩) 32 32/\w.heap.size<=g/\Holds encB w' g 0 (bx x.val)):=DO C x;have hbs:=cN x.val;generalize bx x.val=B at hBy hbs⊢;generalize x.val%18446744073709551616=a at heq hO hBy⊢;generalize x.val/18446744073709551616%18446744073709551616=b at heq hO hBy⊢;generalize x.val/340282366920938463463374607431768211456%18446744073709551616=c at heq hO hBy⊢;generalize x.val/6277101735386680763835789423207666416102355444464034512896%18446744073709551616=d at heq hO hBy⊢;generalize y.val%18446744073709551616=p at heq hO hBy⊢;generalize y.val/18446744073709551616%18446744073709551616=q at heq hO hBy⊢;generalize y.val/340282366920938463463374607431768211456%18446744073709551616=r at heq hO hBy⊢;generalize y.val/6277101735386680763835789423207666416102355444464034512896%18446744073709551616=s at heq hO hBy⊢;have HQ:Hid (∀w,(binOp .eql 43 _ _).run prog w=_):=heq;go_enter Tryz.func12,Tryz.ntmps12;go_wp2_with fail
 have KP:=Kv w a b c d p q r s;clear heq;generalize QN _ _=W0 at KP⊢;generalize hk:w.heap.size=k0 at KP⊢;refine(hO _).mono ?_;rintro e w1 ⟨v,rfl,hb1,rfl⟩;replace KP:=KP.call hb1;clear hb1 HQ hO;obtain⟨xc0,xc1,xc2,xc3,xf⟩:=KP.head;have zx:=KP.head.lt;go_wp2_with fail
 refine(hBy _).mono ?_;rintro e w2 ⟨v,rfl,hb2,g,rfl,hg,hH⟩;have hc:w2.cell? ⟨w1.heap.size,0,none⟩=some (.int .u8 3):=by
  rw[hb2.cell (p:=⟨w1.heap.size,0,none⟩) (by show w1.heap.size<_;rw[Qa];omega),Qj];rfl
 have hle:k0<=w2.heap.size:=Qn KP.le (Qn (by rw[Qa];omega) hb2.size);have hbl:Hid (Below k0 w w2):=((KP.alloc _).call hb2).bl;clear KP hb2 xc0 xc1 xc2 xc3 xf zx hg;obtain⟨W3,cp,hap,hb3,hcp,hsz3,hH3⟩:=GQ w2 w1.heap.size g 3 B hbs hc hH;generalize w1.heap.size=km at hap⊢;go_wp2_with (at_builtin;refine QC _ rfl _ _ 28 28 rfl _ _ rfl rfl _ _ hap ?_)
 go_ret;refine⟨_,rfl,?_,_,cp,rfl,hcp,?_,hsz3,hH3⟩
 ·rw[hk];exact hbl.out.trans (hb3.mono hle)
 ·rw[hk];exact hle
theorem BO(C:Fld P)(x y:Fin P)(hz:¬(x=0/\y=0))(ho:¬y.val%2=1)(w:World):Calls prog 12 #[pv x y] w (Ret fun e w'=>Below w.heap.size w w'/\mK w (#[2]++bx x.val) e w'):=by
 have heq:=Bu C (x:=x) (y:=y) (z:=0) (t:=0) hz;rw[<-eK,iO]at heq;rw[iO];have hO:∀w,Calls prog 42 #[.agg #[.int .u64 ((y.val%18446744073709551616:Nat):Int),.int .u64 ((y.val/18446744073709551616%18446744073709551616:Nat):Int),.int .u64 ((y.val/340282366920938463463374607431768211456%18446744073709551616:Nat):Int),.int .u64 ((y.val/6277101735386680763835789423207666416102355444464034512896%18446744073709551616:Nat):Int)]] w (Ret fun e w'=>Below w.heap.size w w'/\e=.bool false):=fun w=>by
  have h:=KX C y w;rw[decide_eq_false ho]at h;exact h
 have hBy:∀w,Calls prog 43 #[.agg #[.int .u64 ((x.val%18446744073709551616:Nat):Int),.int .u64 ((x.val/18446744073709551616%18446744073709551616:Nat):Int),.int .u64 ((x.val/340282366920938463463374607431768211456%18446744073709551616:Nat):Int),.int .u64 ((x.val/6277101735386680763835789423207666416102355444464034512896%18446744073709551616:Nat):Int)]] w (Ret fun e w'=>Below w.heap.size w w'/\∃g,e=.slice (some ⟨g,0,none⟩) 32 32/\w.heap.size<=g/\Holds encB w' g 0 (bx x.val)):=DO C x;have hbs:=cN x.val;generalize bx x.val=B at hBy hbs⊢;generalize x.val%18446744073709551616=a at heq hO hBy⊢;generalize x.val/18446744073709551616%18446744073709551616=b at heq hO hBy⊢;generalize x.val/340282366920938463463374607431768211456%18446744073709551616=c at heq hO hBy⊢;generalize x.val/6277101735386680763835789423207666416102355444464034512896%18446744073709551616=d at heq hO hBy⊢;generalize y.val%18446744073709551616=p at heq hO hBy⊢;generalize y.val/18446744073709551616%18446744073709551616=q at heq hO hBy⊢;generalize y.val/340282366920938463463374607431768211456%18446744073709551616=r at heq hO hBy⊢;generalize y.val/6277101735386680763835789423207666416102355444464034512896%18446744073709551616=s at heq hO hBy⊢;have HQ:Hid (∀w,(binOp .eql 43 _ _).run prog w=_):=heq;go_enter Tryz.func12,Tryz.ntmps12;go_wp2_with fail
 have KP:=Kv w a b c d p q r s;clear heq;generalize QN _ _=W0 at KP⊢;generalize hk:w.heap.size=k0 at KP⊢;refine(hO _).mono ?_;rintro e w1 ⟨v,rfl,hb1,rfl⟩;replace KP:=KP.call hb1;clear hb1 HQ hO;obtain⟨xc0,xc1,xc2,xc3,xf⟩:=KP.head;have zx:=KP.head.lt;go_wp2_with fail
 refine(hBy _).mono ?_;rintro e w2 ⟨v,rfl,hb2,g,rfl,hg,hH⟩;have hc:w2.cell? ⟨w1.heap.size,0,none⟩=some (.int .u8 2):=by
  rw[hb2.cell (p:=⟨w1.heap.size,0,none⟩) (by show w1.heap.size<_;rw[Qa];omega),Qj];rfl
 have hle:k0<=w2.heap.size:=Qn KP.le (Qn (by rw[Qa];omega) hb2.size);have hbl:Hid (Below k0 w w2):=((KP.alloc _).call hb2).bl;clear KP hb2 xc0 xc1 xc2 xc3 xf zx hg;obtain⟨W3,cp,hap,hb3,hcp,hsz3,hH3⟩:=GQ w2 w1.heap.size g 2 B hbs hc hH;generalize w1.heap.size=km at hap⊢;go_wp2_with (at_builtin;refine QC _ rfl _ _ 28 28 rfl _ _ rfl rfl _ _ hap ?_)
 go_ret;refine⟨_,rfl,?_,_,cp,rfl,hcp,?_,hsz3,hH3⟩
 ·rw[hk];exact hbl.out.trans (hb3.mono hle)
 ·rw[hk];exact hle
theorem Ds(C:Fld P)(x y:Fin P)(w:World):Calls prog 12 #[pv x y] w (Ret fun e w'=>Below w.heap.size w w'/\mK w (sV x y) e w'):=by
 unfold sV mark;by_cases hz:x=0/\y=0
 ·rw[if_pos hz];exact BN C x y hz w
 ·rw[if_neg hz];by_cases ho:y.val%2=1
  ·rw[if_pos ho];exact EN C x y hz ho w
  ·rw[if_neg ho];exact BO C x y hz ho w
theorem u23:(prog.underlying 28).map (·.isRow)=some false:=by kernel_rfl
theorem J7(k o n c i:Nat)(hi:i<n)(w:World):(QV 23 (.slice (some ⟨k,o,none⟩) n c) (.int .i64 i)).run prog w=.ok (.pointer (some ⟨k,o+i,none⟩)) w:=by
 have h1:¬(i:Int)<0:=by omega
 have h2:(i:Int)<n:=by omega
 go_simp
theorem NM(N:Nat)(hN:N<=512):∃C0:List Value,C0.length=8*N/\∀w:World,(Rm 90 (.int .i64 N) (.int .i64 N)).run prog w=.ok (.slice (some ⟨w.heap.size,0,none⟩) N N) (w.alloc (.cells C0.toArray 43)):=by
 have hu:prog.underlying 90=some (.slice 43):=by kernel_rfl
 have hi:(prog.info? 43).map (fun i=>(i.size,decide (i.bytes<=4000),i.zero.isSome))=some (8,true,true):=by kernel_rfl
 obtain⟨i,hi1,hi2⟩:=PV.1 hi;simp only[Rz.injEq,decide_eq_true_eq]at hi2;obtain⟨h1,h2,h3⟩:=hi2;obtain⟨z,hz⟩:=Qx.1 h3;refine⟨(madeCells z.cells (N*8)).toList,by rw[P8,size_madeCells,Qr],fun w=>?_⟩;have hb:(i.bytes:Int)*(N:Int)<=281474976710656:=by
  have:i.bytes*N<=4000*512:=RJ h2 hN;have h5:((i.bytes*N:Nat):Int)<=281474976710656:=by omega
  rwa[RS]at h5
 have:=run_make (P:=prog) w 90 43 i z hu hi1 hz .i64 .i64 (N:Int) (N:Int) (by omega) (by omega) hb (by omega);rw[Uh,h1]at this;rw[Sz];exact this
theorem O8(N:Nat)(hN:N<=512):∃C0:List Value,C0.length=4*N/\∀w:World,(Rm 87 (.int .i64 N) (.int .i64 N)).run prog w=.ok (.slice (some ⟨w.heap.size,0,none⟩) N N) (w.alloc (.cells C0.toArray 41)):=by
 have hu:prog.underlying 87=some (.slice 41):=by kernel_rfl
 have hi:(prog.info? 41).map (fun i=>(i.size,decide (i.bytes<=4000),i.zero.isSome))=some (4,true,true):=by kernel_rfl
 obtain⟨i,hi1,hi2⟩:=PV.1 hi;simp only[Rz.injEq,decide_eq_true_eq]at hi2;obtain⟨h1,h2,h3⟩:=hi2;obtain⟨z,hz⟩:=Qx.1 h3;refine⟨(madeCells z.cells (N*4)).toList,by rw[P8,size_madeCells,Qr],fun w=>?_⟩;have hb:(i.bytes:Int)*(N:Int)<=281474976710656:=by
  have:i.bytes*N<=4000*512:=RJ h2 hN;have h5:((i.bytes*N:Nat):Int)<=281474976710656:=by omega
  rwa[RS]at h5
 have:=run_make (P:=prog) w 87 41 i z hu hi1 hz .i64 .i64 (N:Int) (N:Int) (by omega) (by omega) hb (by omega);rw[Uh,h1]at this;rw[Sz];exact this
structure Rows(sz N:Nat)(cell:Nat->List Value)(m:Nat)(C:List Value):Prop where
 len:C.length=sz*N
 row:∀j r,j<m->r<sz->C[sz*j+r]? = (cell j)[r]?
theorem Rows.next{sz N m:Nat}{cell:Nat->List Value}{C:List Value}(h:Rows sz N cell m C)(hm:m<N)(hc:(cell m).length=sz):Rows sz N cell (m+1) (RG.rep C (0+sz*m) (cell m)):=by
 have hlen:=h.len;have hb:sz*m+sz<=sz*N:=by rw[<-Tv];exact TS _ hm
 have hl:0+sz*m+(cell m).length<=C.length:=by rw[hc];omega
 refine⟨by rw[RG.bV hl];exact hlen,fun j r hj hr=>?_⟩;rw[RG.rep_at hl];by_cases hjm:j=m
 ·subst hjm;rw[if_pos (by rw[hc];omega),show sz*j+r-(0+sz*j)=r by omega]
 ·have h2:sz*j+sz<=sz*m:=by rw[<-Tv];exact TS _ (by omega)
  rw[if_neg (by rw[hc];omega)];exact h.row j r (by omega) hr
def rq(N:Nat)(bs:Bs):Option Nat:=if bs.size=32/\beV bs.toList<N then some (beV bs.toList) else none
def rqV:Option Nat->Value
 | none=>.tuple #[nv 0,.bool false]
 | some n=>.tuple #[nv n,.bool true]
theorem fO:Gives 76 #[] gv1:=fun w=>(Ae w).mono (by rintro e w' ⟨rfl,rfl⟩;exact⟨_,rfl,aE _ _,rfl⟩)
theorem vY{N:Nat}(hG:Gap 4624529908474429119 4994812053365940164 1 N)(v:Value)(bs:Bs)(w:World)(hv:Arg w v bs):Calls prog 77 #[gv1,v] w (Ret fun e w'=>Below w.heap.size w w'/\e=rqV (rq N bs)):=by
 obtain⟨p,n,cap,rfl,hs,h1⟩:=hv;unfold rq;by_cases hn:n=32
 ·subst hn;obtain⟨g,o,rfl,h4,h6,h7⟩:=h1 rfl;refine(tH _ _ _ N g o cap bs hG w hs h4 h6 h7).mono ?_;rintro e w' ⟨v,rfl,hb,⟨hl,v',rfl,h8⟩|⟨hl,rfl⟩⟩
  ·rw[if_pos ⟨hs,hl⟩];exact⟨_,rfl,hb,by rw[h8.nv];rfl⟩
  ·rw[if_neg (fun h=>by omega)];exact⟨_,rfl,hb,rfl⟩
 ·refine(Ig _ p n cap w _ _ _ rfl hn).mono ?_;rintro e w' ⟨v,rfl,hb,rfl⟩;rw[if_neg (fun h=>hn (hs.symm.trans h.1))];exact⟨_,rfl,hb,rfl⟩
end
section
open Go.RowKit Go.Sort
variable {P:Nat}[NeZero P]{N:Nat}
structure RefP(p0 p1 p2 p3 c0 c1 c2 c3 P:Nat):Prop where
 hp0:p0<18446744073709551616
 hp1:p1<18446744073709551616
 hp2:p2<18446744073709551616
 hp3:p3<18446744073709551616
 hc0:c0<18446744073709551616
 hc1:c1<18446744073709551616
 hc2:c2<18446744073709551616
 hc3:c3<18446744073709551616
 eP:P=val p0 p1 p2 p3
 hP:P+val c0 c1 c2 c3=top
 hP2:top<2*P
theorem Nx:RefP 18446744069414583343 18446744073709551615 18446744073709551615 18446744073709551615 4294968273 0 0 0 Go.Proofs.YtfcnimopdjjhcaaGreat.p0:=
 ⟨by decide,by decide,by decide,by decide,by decide,by decide,by decide,by decide,by decide +kernel,by decide +kernel,by decide +kernel⟩
theorem Nv:RefP 13822214165235122497 13451932020343611451 18446744073709551614 18446744073709551615 4624529908474429119 4994812053365940164 1 0 Go.Proofs.YtfcnimopdjjhcaaGreat.p1:=
 ⟨by decide,by decide,by decide,by decide,by decide,by decide,by decide,by decide,by decide +kernel,by decide +kernel,by decide +kernel⟩
theorem oH(x y:Value)(m n:Nat)(hx:Four x m)(hy:Four y n)(w:World):
 Calls prog 111 #[x,y] w (Ret fun e w'=>Below w.heap.size w w'/\∃(v:Value) (s k:Nat),e=.tuple #[v,.int .u64 k]/\Four v s/\k<=1/\s+n=m+top*k):=by
 obtain⟨a,b,c,d,rfl,ha,hb,hc,hd,em⟩:=hx;obtain⟨p,q,r,s,rfl,hp,hq,hr,hs,en⟩:=hy;obtain⟨s0,k0,a0,hs0,hk0,e0⟩:=vP a p ha hp;obtain⟨s1,k1,a1,hs1,hk1,e1⟩:=iL b q k0 hb hq hk0;obtain⟨s2,k2,a2,hs2,hk2,e2⟩:=iL c r k1 hc hr hk1;obtain⟨s3,k3,a3,hs3,hk3,e3⟩:=iL d s k2 hd hs hk2;have hv:val s0 s1 s2 s3+n=m+top*k3:=by rw[em,en];unfold val top;omega
 clear e0 e1 e2 e3 em en;go_enter Tryz.func111,Tryz.ntmps111;go_wp2;refine wp_loop_rounds 5 ?_;rw[rounds_succ];go_wp2;go_region
 go_wp2;rw[rounds_succ];go_wp2;go_region
 go_wp2;rw[rounds_succ];go_wp2;go_region
 go_wp2;rw[rounds_succ];go_wp2;go_region
 go_wp2;rw[rounds_succ];go_wp2
 refine bodyPost_ret (v:=?v) ?hr rfl ?hR
 case hr=>simp[results,Tryz.results111,go_sem];rfl
 exact⟨_,rfl,(eI _ _ _ _ _).drew.drew.drew.drew,_,_,k3,rfl,Four.mk hs0 hs1 hs2 hs3 rfl,hk3,hv⟩
def jT(v:Value)(n:Nat):Prop:=∃a b c d a' b' c' d':Nat,v=.agg #[.int .u64 a,.int .u64 b,.int .u64 c,.int .u64 d,.int .u64 a',.int .u64 b',.int .u64 c',.int .u64 d'] /\
 a<18446744073709551616/\b<18446744073709551616/\c<18446744073709551616/\d<18446744073709551616/\a'<18446744073709551616/\b'<18446744073709551616/\c'<18446744073709551616/\d'<18446744073709551616 /\
 n=val a b c d+top*val a' b' c' d'
theorem Ca{m n a b c d s u k l:Nat}(em:m=a+top*b)(en:n=c+top*d)(h1:s+top*k=a+c)(h2:u+top*l=b+d+k)(hlt:m+n<top*top):m+n=s+top*u:=by
 have h3:top*u+top*top*l=top*b+top*d+top*k:=by rw[Nat.mul_assoc,<-Sw,h2,Sw,Sw]
 have h4:m+n=s+top*u+top*top*l:=by omega
 have h5:l=0:=by
  rcases Nat.eq_zero_or_pos l with h|h
  ·exact h
  ·have:=Nat.le_mul_of_pos_right (top*top) h;omega
 rw[h4,h5,Nat.mul_zero,RD]
theorem oD(x y:Value)(m n:Nat)(hx:jT x m)(hy:jT y n)(hlt:m+n<top*top)(w:World):
 Calls prog 67 #[x,y] w (Ret fun e w'=>Below w.heap.size w w'/\jT e (m+n)):=by
 obtain⟨a,b,c,d,aa,bb,cc,dd,rfl,ha,hb,hc,hd,haa,hbb,hcc,hdd,em⟩:=hx;obtain⟨p,q,r,s,pp,qq,rr,ss,rfl,hp,hq,hr,hs,hpp,hqq,hrr,hss,en⟩:=hy;obtain⟨s0,k0,a0,hs0,hk0,e0⟩:=pA a p ha hp;obtain⟨s1,k1,a1,hs1,hk1,e1⟩:=kX b q k0 hb hq hk0;obtain⟨s2,k2,a2,hs2,hk2,e2⟩:=kX c r k1 hc hr hk1;obtain⟨s3,k3,a3,hs3,hk3,e3⟩:=kX d s k2 hd hs hk2;obtain⟨s4,k4,a4,hs4,hk4,e4⟩:=kX aa pp k3 haa hpp hk3;obtain⟨s5,k5,a5,hs5,hk5,e5⟩:=kX bb qq k4 hbb hqq hk4;obtain⟨s6,k6,a6,hs6,hk6,e6⟩:=kX cc rr k5 hcc hrr hk5;obtain⟨s7,k7,a7,hs7,hk7,e7⟩:=kX dd ss k6 hdd hss hk6;have v1:val s0 s1 s2 s3+top*k3=val a b c d+val p q r s:=by clear em en hlt e4 e5 e6 e7;unfold val top;omega
 have v2:val s4 s5 s6 s7+top*k7=val aa bb cc dd+val pp qq rr ss+k3:=by clear em en hlt e0 e1 e2 e3;unfold val top;omega
 have hv:m+n=val s0 s1 s2 s3+top*val s4 s5 s6 s7:=Ca em en v1 v2 hlt;clear e0 e1 e2 e3 e4 e5 e6 e7 em en hlt;go_enter Tryz.func67,Tryz.ntmps67;go_wp2;refine wp_loop_rounds 9 ?_;rw[rounds_succ];go_wp2;go_region
 go_wp2;rw[rounds_succ];go_wp2;go_region
 go_wp2;rw[rounds_succ];go_wp2;go_region
 go_wp2;rw[rounds_succ];go_wp2;go_region
 go_wp2;rw[rounds_succ];go_wp2;go_region
 go_wp2;rw[rounds_succ];go_wp2;go_region
 go_wp2;rw[rounds_succ];go_wp2;go_region
 go_wp2;rw[rounds_succ];go_wp2;go_region
 go_wp2;rw[rounds_succ];go_wp2
 refine bodyPost_ret (v:=?v) ?hr rfl ?hR
 case hr=>simp[results,Tryz.results67,go_sem];rfl
 exact⟨_,rfl,(below3 _ _ _ _).drew.drew.drew.drew.drew.drew.drew.drew,s0,s1,s2,s3,s4,s5,s6,s7,rfl,hs0,hs1,hs2,hs3,hs4,hs5,hs6,hs7,hv⟩
theorem ED{a b c d n r0 r1 r2 r3 s0 s1 s2 s3 t0 t1 t2 t3 u0 u1 u2 u3 h0 h1 h2 h3:Nat}
 (e0:r0+18446744073709551616*val r1 r2 r3 h0=a*n+val 0 0 0 0)
 (e1:s0+18446744073709551616*val s1 s2 s3 h1=b*n+val r1 r2 r3 h0)
 (e2:t0+18446744073709551616*val t1 t2 t3 h2=c*n+val s1 s2 s3 h1)
 (e3:u0+18446744073709551616*val u1 u2 u3 h3=d*n+val t1 t2 t3 h2) :
 val a b c d*n=val r0 s0 t0 u0+top*val u1 u2 u3 h3:=by
 have hm:val a b c d*n=val (a*n) (b*n) (c*n) (d*n):=by
  rw[Qr,wH,Qr n a,Qr n b,Qr n c,Qr n d]
 rw[hm];generalize a*n=x0 at *;generalize b*n=x1 at *;generalize c*n=x2 at *;generalize d*n=x3 at *;generalize val r1 r2 r3 h0=y0 at *;generalize val s1 s2 s3 h1=y1 at *;generalize val t1 t2 t3 h2=y2 at *;generalize val u1 u2 u3 h3=y3 at *;unfold val at *;unfold top;omega
theorem jB(x y:Value)(m n:Nat)(hx:Four x m)(hy:Four y n)(w:World):
 Calls prog 65 #[x,y] w (Ret fun e w'=>Below w.heap.size w w'/\jT e (m*n)):=by
 obtain⟨a,b,c,d,rfl,ha,hb,hc,hd,em⟩:=hx;obtain⟨p,q,r,s,rfl,hp,hq,hr,hs,en⟩:=hy;go_enter Tryz.func65,Tryz.ntmps65;go_wp2;refine wp_loop_rounds 5 ?_;have X:=(((At4.made w 68 a b c d rfl).alloc (.cells #[.int .u64 p,.int .u64 q,.int .u64 r,.int .u64 s] 68)).alloc (.cells #[.int .u64 0,.int .u64 0,.int .u64 0,.int .u64 0,.int .u64 0,.int .u64 0,.int .u64 0,.int .u64 0] 124)).alloc (.cells #[.int .u64 0,.int .u64 0,.int .u64 0,.int .u64 0,.int .u64 0,.int .u64 0,.int .u64 0,.int .u64 0] 124);have Y:=((At4.made (w.alloc (.cells #[.int .u64 a,.int .u64 b,.int .u64 c,.int .u64 d] 68)) 68 p q r s (Qa _ _)).alloc (.cells #[.int .u64 0,.int .u64 0,.int .u64 0,.int .u64 0,.int .u64 0,.int .u64 0,.int .u64 0,.int .u64 0] 124)).alloc (.cells #[.int .u64 0,.int .u64 0,.int .u64 0,.int .u64 0,.int .u64 0,.int .u64 0,.int .u64 0,.int .u64 0] 124);have R:=(At8.made ((w.alloc (.cells #[.int .u64 a,.int .u64 b,.int .u64 c,.int .u64 d] 68)).alloc (.cells #[.int .u64 p,.int .u64 q,.int .u64 r,.int .u64 s] 68)) 124 0 0 0 0 0 0 0 0 (k:=w.heap.size+1+1) (by simp)).alloc (.cells #[.int .u64 0,.int .u64 0,.int .u64 0,.int .u64 0,.int .u64 0,.int .u64 0,.int .u64 0,.int .u64 0] 124);have O:=At8.made (((w.alloc (.cells #[.int .u64 a,.int .u64 b,.int .u64 c,.int .u64 d] 68)).alloc (.cells #[.int .u64 p,.int .u64 q,.int .u64 r,.int .u64 s] 68)).alloc (.cells #[.int .u64 0,.int .u64 0,.int .u64 0,.int .u64 0,.int .u64 0,.int .u64 0,.int .u64 0,.int .u64 0] 124)) 124 0 0 0 0 0 0 0 0 (k:=w.heap.size+1+1+1) (by simp);have BL:Hid (Below w.heap.size w _):=eI w (.cells #[.int .u64 a,.int .u64 b,.int .u64 c,.int .u64 d] 68) (.cells #[.int .u64 p,.int .u64 q,.int .u64 r,.int .u64 s] 68) (.cells #[.int .u64 0,.int .u64 0,.int .u64 0,.int .u64 0,.int .u64 0,.int .u64 0,.int .u64 0,.int .u64 0] 124) (.cells #[.int .u64 0,.int .u64 0,.int .u64 0,.int .u64 0,.int .u64 0,.int .u64 0,.int .u64 0,.int .u64 0] 124);simp only[Qz]at R O;generalize QN _ _=W0 at X Y R O BL⊢;generalize h3:w.heap.size+1+1+1=k3 at O⊢;generalize h2:w.heap.size+1+1=k2 at R⊢;generalize h1:w.heap.size+1=k1 at Y⊢;have Q3:Hid (w.heap.size<=k3):=by unfold Hid;omega
 have Q2:Hid (w.heap.size<=k2):=by unfold Hid;omega
 generalize h0:w.heap.size=k0 at X BL Q2 Q3⊢;have n03:k0≠k3:=by omega
 have n13:k1≠k3:=by omega
 have n23:k2≠k3:=by omega
 have H0:Hid (w.heap.size=k0):=h0;clear h0 h1 h2 h3;obtain⟨xc0,xc1,xc2,xc3,xf⟩:=id X;obtain⟨yc0,yc1,yc2,yc3,yf⟩:=id Y;obtain⟨oc0,oc1,oc2,oc3,oc4,oc5,oc6,oc7,of⟩:=id O;simp only[Qz]at oc0 oc1 oc2 oc3 oc4 oc5 oc6 oc7;rw[rounds_succ];go_wp2
 refine wp_loop_rounds 5 ?_;obtain⟨h00,l00,s00,k00,o00,j00,g00,y00,m00,b00,d00,v00,z00,ho00,hy00,e00⟩:=cH a p 0 0 ha hp (by decide) (by decide);simp only[Qz]at b00;simp only[Qz]at d00;rw[rounds_succ];go_wp2
 go_quiet ((go_at_call 109;exact QP (m00 _)));revert nq;intro nq00
 go_wp2_with (first|simp only[b00]|simp only[d00])
 obtain⟨h01,l01,s01,k01,o01,j01,g01,y01,m01,b01,d01,v01,z01,ho01,hy01,e01⟩:=cH a q 0 y00 ha hq (by decide) hy00;simp only[Qz]at d01;rw[rounds_succ];go_wp2
 go_quiet ((go_at_call 109;exact QP (m01 _)));revert nq;intro nq01
 go_wp2_with (first|simp only[b01]|simp only[d01])
 obtain⟨h02,l02,s02,k02,o02,j02,g02,y02,m02,b02,d02,v02,z02,ho02,hy02,e02⟩:=cH a r 0 y01 ha hr (by decide) hy01;simp only[Qz]at d02;rw[rounds_succ];go_wp2
 go_quiet ((go_at_call 109;exact QP (m02 _)));revert nq;intro nq02
 go_wp2_with (first|simp only[b02]|simp only[d02])
 obtain⟨h03,l03,s03,k03,o03,j03,g03,y03,m03,b03,d03,v03,z03,ho03,hy03,e03⟩:=cH a s 0 y02 ha hs (by decide) hy02;simp only[Qz]at d03;rw[rounds_succ];go_wp2
 go_quiet ((go_at_call 109;exact QP (m03 _)));revert nq;intro nq03
 go_wp2_with (first|simp only[b03]|simp only[d03])
 rw[rounds_succ];go_wp2
 have R0:=mQ (n:=val 0 0 0 0) (p:=0) (q:=0) (r:=0) (s:=0) (x:=a) (l0:=o00) (l1:=o01) (l2:=o02) (l3:=o03) en rfl e00 e01 e02 e03;have HR0:Hid _:=R0;clear R0;clear e00 e01 e02 e03 m00 b00 d00 v00 z00 m01 b01 d01 v01 z01 m02 b02 d02 v02 z02 m03 b03 d03 v03 z03;clear xc0 xc1 xc2 xc3 xf yc0 yc1 yc2 yc3 yf oc0 oc1 oc2 oc3 oc4 oc5 oc6 oc7 of;have X0:=(((((((((X).drewN nq00).other (o:=0) n03.symm (.int .u64 o00)).drewN nq01).other (o:=1) n03.symm (.int .u64 o01)).drewN nq02).other (o:=2) n03.symm (.int .u64 o02)).drewN nq03).other (o:=3) n03.symm (.int .u64 o03)).other (o:=4) n03.symm (.int .u64 y03);have Y0:=(((((((((Y).drewN nq00).other (o:=0) n13.symm (.int .u64 o00)).drewN nq01).other (o:=1) n13.symm (.int .u64 o01)).drewN nq02).other (o:=2) n13.symm (.int .u64 o02)).drewN nq03).other (o:=3) n13.symm (.int .u64 o03)).other (o:=4) n13.symm (.int .u64 y03);have RR0:=(((((((((R).drewN nq00).other (o:=0) n23.symm (.int .u64 o00)).drewN nq01).other (o:=1) n23.symm (.int .u64 o01)).drewN nq02).other (o:=2) n23.symm (.int .u64 o02)).drewN nq03).other (o:=3) n23.symm (.int .u64 o03)).other (o:=4) n23.symm (.int .u64 y03);have O0:=(((((((((O).drewN nq00).set0 o00).drewN nq01).set1 o01).drewN nq02).set2 o02).drewN nq03).set3 o03).set4 y03;have BL0:Hid (Below k0 w _):=((aT ((aT ((aT ((aT (BL.out) nq00).setCell (p:=⟨k3,0,none⟩) Q3.out (.int .u64 o00)) nq01).setCell (p:=⟨k3,1,none⟩) Q3.out (.int .u64 o01)) nq02).setCell (p:=⟨k3,2,none⟩) Q3.out (.int .u64 o02)) nq03).setCell (p:=⟨k3,3,none⟩) Q3.out (.int .u64 o03)).setCell (p:=⟨k3,4,none⟩) Q3.out (.int .u64 y03);generalize Rb _ _ _=W1 at X0 Y0 RR0 O0 BL0⊢;clear X Y R O BL;have X:=X0;have Y:=Y0;have R:=RR0;have O:=O0;have BL:=BL0;clear X0 Y0 RR0 O0 BL0;obtain⟨xc0,xc1,xc2,xc3,xf⟩:=id X;obtain⟨yc0,yc1,yc2,yc3,yf⟩:=id Y;obtain⟨oc0,oc1,oc2,oc3,oc4,oc5,oc6,oc7,of⟩:=id O;simp only[Qz]at oc5 oc6 oc7;rw[rounds_succ];go_wp2
 refine wp_loop_rounds 5 ?_;obtain⟨h10,l10,s10,k10,o10,j10,g10,y10,m10,b10,d10,v10,z10,ho10,hy10,e10⟩:=cH b p o01 0 hb hp ho01 (by decide);simp only[Qz]at b10;rw[rounds_succ];go_wp2
 go_quiet ((go_at_call 109;exact QP (m10 _)));revert nq;intro nq10
 go_wp2_with (first|simp only[b10]|simp only[d10])
 obtain⟨h11,l11,s11,k11,o11,j11,g11,y11,m11,b11,d11,v11,z11,ho11,hy11,e11⟩:=cH b q o02 y10 hb hq ho02 hy10;rw[rounds_succ];go_wp2
 go_quiet ((go_at_call 109;exact QP (m11 _)));revert nq;intro nq11
 go_wp2_with (first|simp only[b11]|simp only[d11])
 obtain⟨h12,l12,s12,k12,o12,j12,g12,y12,m12,b12,d12,v12,z12,ho12,hy12,e12⟩:=cH b r o03 y11 hb hr ho03 hy11;rw[rounds_succ];go_wp2
 go_quiet ((go_at_call 109;exact QP (m12 _)));revert nq;intro nq12
 go_wp2_with (first|simp only[b12]|simp only[d12])
 obtain⟨h13,l13,s13,k13,o13,j13,g13,y13,m13,b13,d13,v13,z13,ho13,hy13,e13⟩:=cH b s y03 y12 hb hs hy03 hy12;rw[rounds_succ];go_wp2
 go_quiet ((go_at_call 109;exact QP (m13 _)));revert nq;intro nq13
 go_wp2_with (first|simp only[b13]|simp only[d13])
 rw[rounds_succ];go_wp2
 have R1:=mQ (n:=val o01 o02 o03 y03) (p:=o01) (q:=o02) (r:=o03) (s:=y03) (x:=b) (l0:=o10) (l1:=o11) (l2:=o12) (l3:=o13) en rfl e10 e11 e12 e13;have HR1:Hid _:=R1;clear R1;clear e10 e11 e12 e13 m10 b10 d10 v10 z10 m11 b11 d11 v11 z11 m12 b12 d12 v12 z12 m13 b13 d13 v13 z13;clear xc0 xc1 xc2 xc3 xf yc0 yc1 yc2 yc3 yf oc0 oc1 oc2 oc3 oc4 oc5 oc6 oc7 of;have X1:=(((((((((X).drewN nq10).other (o:=1) n03.symm (.int .u64 o10)).drewN nq11).other (o:=2) n03.symm (.int .u64 o11)).drewN nq12).other (o:=3) n03.symm (.int .u64 o12)).drewN nq13).other (o:=4) n03.symm (.int .u64 o13)).other (o:=5) n03.symm (.int .u64 y13);have Y1:=(((((((((Y).drewN nq10).other (o:=1) n13.symm (.int .u64 o10)).drewN nq11).other (o:=2) n13.symm (.int .u64 o11)).drewN nq12).other (o:=3) n13.symm (.int .u64 o12)).drewN nq13).other (o:=4) n13.symm (.int .u64 o13)).other (o:=5) n13.symm (.int .u64 y13);have RR1:=(((((((((R).drewN nq10).other (o:=1) n23.symm (.int .u64 o10)).drewN nq11).other (o:=2) n23.symm (.int .u64 o11)).drewN nq12).other (o:=3) n23.symm (.int .u64 o12)).drewN nq13).other (o:=4) n23.symm (.int .u64 o13)).other (o:=5) n23.symm (.int .u64 y13);have O1:=(((((((((O).drewN nq10).set1 o10).drewN nq11).set2 o11).drewN nq12).set3 o12).drewN nq13).set4 o13).set5 y13;have BL1:Hid (Below k0 w _):=((aT ((aT ((aT ((aT (BL.out) nq10).setCell (p:=⟨k3,1,none⟩) Q3.out (.int .u64 o10)) nq11).setCell (p:=⟨k3,2,none⟩) Q3.out (.int .u64 o11)) nq12).setCell (p:=⟨k3,3,none⟩) Q3.out (.int .u64 o12)) nq13).setCell (p:=⟨k3,4,none⟩) Q3.out (.int .u64 o13)).setCell (p:=⟨k3,5,none⟩) Q3.out (.int .u64 y13);generalize Rb _ _ _=W2 at X1 Y1 RR1 O1 BL1⊢;clear X Y R O BL;have X:=X1;have Y:=Y1;have R:=RR1;have O:=O1;have BL:=BL1;clear X1 Y1 RR1 O1 BL1;obtain⟨xc0,xc1,xc2,xc3,xf⟩:=id X;obtain⟨yc0,yc1,yc2,yc3,yf⟩:=id Y;obtain⟨oc0,oc1,oc2,oc3,oc4,oc5,oc6,oc7,of⟩:=id O;simp only[Qz]at oc6 oc7;rw[rounds_succ];go_wp2
 refine wp_loop_rounds 5 ?_;obtain⟨h20,l20,s20,k20,o20,j20,g20,y20,m20,b20,d20,v20,z20,ho20,hy20,e20⟩:=cH c p o11 0 hc hp ho11 (by decide);simp only[Qz]at b20;rw[rounds_succ];go_wp2
 go_quiet ((go_at_call 109;exact QP (m20 _)));revert nq;intro nq20
 go_wp2_with (first|simp only[b20]|simp only[d20])
 obtain⟨h21,l21,s21,k21,o21,j21,g21,y21,m21,b21,d21,v21,z21,ho21,hy21,e21⟩:=cH c q o12 y20 hc hq ho12 hy20;rw[rounds_succ];go_wp2
 go_quiet ((go_at_call 109;exact QP (m21 _)));revert nq;intro nq21
 go_wp2_with (first|simp only[b21]|simp only[d21])
 obtain⟨h22,l22,s22,k22,o22,j22,g22,y22,m22,b22,d22,v22,z22,ho22,hy22,e22⟩:=cH c r o13 y21 hc hr ho13 hy21;rw[rounds_succ];go_wp2
 go_quiet ((go_at_call 109;exact QP (m22 _)));revert nq;intro nq22
 go_wp2_with (first|simp only[b22]|simp only[d22])
 obtain⟨h23,l23,s23,k23,o23,j23,g23,y23,m23,b23,d23,v23,z23,ho23,hy23,e23⟩:=cH c s y13 y22 hc hs hy13 hy22;rw[rounds_succ];go_wp2
 go_quiet ((go_at_call 109;exact QP (m23 _)));revert nq;intro nq23
 go_wp2_with (first|simp only[b23]|simp only[d23])
 rw[rounds_succ];go_wp2
 have R2:=mQ (n:=val o11 o12 o13 y13) (p:=o11) (q:=o12) (r:=o13) (s:=y13) (x:=c) (l0:=o20) (l1:=o21) (l2:=o22) (l3:=o23) en rfl e20 e21 e22 e23;have HR2:Hid _:=R2;clear R2;clear e20 e21 e22 e23 m20 b20 d20 v20 z20 m21 b21 d21 v21 z21 m22 b22 d22 v22 z22 m23 b23 d23 v23 z23;clear xc0 xc1 xc2 xc3 xf yc0 yc1 yc2 yc3 yf oc0 oc1 oc2 oc3 oc4 oc5 oc6 oc7 of;have X2:=(((((((((X).drewN nq20).other (o:=2) n03.symm (.int .u64 o20)).drewN nq21).other (o:=3) n03.symm (.int .u64 o21)).drewN nq22).other (o:=4) n03.symm (.int .u64 o22)).drewN nq23).other (o:=5) n03.symm (.int .u64 o23)).other (o:=6) n03.symm (.int .u64 y23);have Y2:=(((((((((Y).drewN nq20).other (o:=2) n13.symm (.int .u64 o20)).drewN nq21).other (o:=3) n13.symm (.int .u64 o21)).drewN nq22).other (o:=4) n13.symm (.int .u64 o22)).drewN nq23).other (o:=5) n13.symm (.int .u64 o23)).other (o:=6) n13.symm (.int .u64 y23);have RR2:=(((((((((R).drewN nq20).other (o:=2) n23.symm (.int .u64 o20)).drewN nq21).other (o:=3) n23.symm (.int .u64 o21)).drewN nq22).other (o:=4) n23.symm (.int .u64 o22)).drewN nq23).other (o:=5) n23.symm (.int .u64 o23)).other (o:=6) n23.symm (.int .u64 y23);have O2:=(((((((((O).drewN nq20).set2 o20).drewN nq21).set3 o21).drewN nq22).set4 o22).drewN nq23).set5 o23).set6 y23;have BL2:Hid (Below k0 w _):=((aT ((aT ((aT ((aT (BL.out) nq20).setCell (p:=⟨k3,2,none⟩) Q3.out (.int .u64 o20)) nq21).setCell (p:=⟨k3,3,none⟩) Q3.out (.int .u64 o21)) nq22).setCell (p:=⟨k3,4,none⟩) Q3.out (.int .u64 o22)) nq23).setCell (p:=⟨k3,5,none⟩) Q3.out (.int .u64 o23)).setCell (p:=⟨k3,6,none⟩) Q3.out (.int .u64 y23);generalize Rb _ _ _=W3 at X2 Y2 RR2 O2 BL2⊢;clear X Y R O BL;have X:=X2;have Y:=Y2;have R:=RR2;have O:=O2;have BL:=BL2;clear X2 Y2 RR2 O2 BL2;obtain⟨xc0,xc1,xc2,xc3,xf⟩:=id X;obtain⟨yc0,yc1,yc2,yc3,yf⟩:=id Y;obtain⟨oc0,oc1,oc2,oc3,oc4,oc5,oc6,oc7,of⟩:=id O;simp only[Qz]at oc7;rw[rounds_succ];go_wp2
 refine wp_loop_rounds 5 ?_;obtain⟨h30,l30,s30,k30,o30,j30,g30,y30,m30,b30,d30,v30,z30,ho30,hy30,e30⟩:=cH d p o21 0 hd hp ho21 (by decide);simp only[Qz]at b30;rw[rounds_succ];go_wp2
 go_quiet ((go_at_call 109;exact QP (m30 _)));revert nq;intro nq30
 go_wp2_with (first|simp only[b30]|simp only[d30])
 obtain⟨h31,l31,s31,k31,o31,j31,g31,y31,m31,b31,d31,v31,z31,ho31,hy31,e31⟩:=cH d q o22 y30 hd hq ho22 hy30;rw[rounds_succ];go_wp2
 go_quiet ((go_at_call 109;exact QP (m31 _)));revert nq;intro nq31
 go_wp2_with (first|simp only[b31]|simp only[d31])
 obtain⟨h32,l32,s32,k32,o32,j32,g32,y32,m32,b32,d32,v32,z32,ho32,hy32,e32⟩:=cH d r o23 y31 hd hr ho23 hy31;rw[rounds_succ];go_wp2
 go_quiet ((go_at_call 109;exact QP (m32 _)));revert nq;intro nq32
 go_wp2_with (first|simp only[b32]|simp only[d32])
 obtain⟨h33,l33,s33,k33,o33,j33,g33,y33,m33,b33,d33,v33,z33,ho33,hy33,e33⟩:=cH d s y23 y32 hd hs hy23 hy32;rw[rounds_succ];go_wp2
 go_quiet ((go_at_call 109;exact QP (m33 _)));revert nq;intro nq33
 go_wp2_with (first|simp only[b33]|simp only[d33])
 rw[rounds_succ];go_wp2
 have R3:=mQ (n:=val o21 o22 o23 y23) (p:=o21) (q:=o22) (r:=o23) (s:=y23) (x:=d) (l0:=o30) (l1:=o31) (l2:=o32) (l3:=o33) en rfl e30 e31 e32 e33;have HR3:Hid _:=R3;clear R3;clear e30 e31 e32 e33 m30 b30 d30 v30 z30 m31 b31 d31 v31 z31 m32 b32 d32 v32 z32 m33 b33 d33 v33 z33;clear xc0 xc1 xc2 xc3 xf yc0 yc1 yc2 yc3 yf oc0 oc1 oc2 oc3 oc4 oc5 oc6 oc7 of;have X3:=(((((((((X).drewN nq30).other (o:=3) n03.symm (.int .u64 o30)).drewN nq31).other (o:=4) n03.symm (.int .u64 o31)).drewN nq32).other (o:=5) n03.symm (.int .u64 o32)).drewN nq33).other (o:=6) n03.symm (.int .u64 o33)).other (o:=7) n03.symm (.int .u64 y33);have Y3:=(((((((((Y).drewN nq30).other (o:=3) n13.symm (.int .u64 o30)).drewN nq31).other (o:=4) n13.symm (.int .u64 o31)).drewN nq32).other (o:=5) n13.symm (.int .u64 o32)).drewN nq33).other (o:=6) n13.symm (.int .u64 o33)).other (o:=7) n13.symm (.int .u64 y33);have RR3:=(((((((((R).drewN nq30).other (o:=3) n23.symm (.int .u64 o30)).drewN nq31).other (o:=4) n23.symm (.int .u64 o31)).drewN nq32).other (o:=5) n23.symm (.int .u64 o32)).drewN nq33).other (o:=6) n23.symm (.int .u64 o33)).other (o:=7) n23.symm (.int .u64 y33);have O3:=(((((((((O).drewN nq30).set3 o30).drewN nq31).set4 o31).drewN nq32).set5 o32).drewN nq33).set6 o33).set7 y33;have BL3:Hid (Below k0 w _):=((aT ((aT ((aT ((aT (BL.out) nq30).setCell (p:=⟨k3,3,none⟩) Q3.out (.int .u64 o30)) nq31).setCell (p:=⟨k3,4,none⟩) Q3.out (.int .u64 o31)) nq32).setCell (p:=⟨k3,5,none⟩) Q3.out (.int .u64 o32)) nq33).setCell (p:=⟨k3,6,none⟩) Q3.out (.int .u64 o33)).setCell (p:=⟨k3,7,none⟩) Q3.out (.int .u64 y33);generalize Rb _ _ _=W4 at X3 Y3 RR3 O3 BL3⊢;clear X Y R O BL;have X:=X3;have Y:=Y3;have R:=RR3;have O:=O3;have BL:=BL3;clear X3 Y3 RR3 O3 BL3;obtain⟨oc0,oc1,oc2,oc3,oc4,oc5,oc6,oc7,of⟩:=id O;obtain⟨rc0,rc1,rc2,rc3,rc4,rc5,rc6,rc7,rf⟩:=id R;have z3:=O.lt;have z2:=R.lt;rw[rounds_succ];go_wp2
 have RF:=R.self8 o00 o10 o20 o30 o31 o32 o33 y33;unfold xZ at RF;refine bodyPost_ret (v:=?v) ?hr rfl ?hR
 case hr=>simp[results,Tryz.results65,go_sem,RF.c0,RF.c1,RF.c2,RF.c3,RF.c4,RF.c5,RF.c6,RF.c7];rfl
 refine⟨_,rfl,?_,o00,o10,o20,o30,o31,o32,o33,y33,rfl,ho00,ho10,ho20,ho30,ho31,ho32,ho33,hy33,?_⟩
 ·rw[H0.out];exact pR BL.out Q2.out _ _ _ _ _ _ _ _
 ·rw[em];exact ED HR0.out HR1.out HR2.out HR3.out
end
end Go.Proofs.YtfcnimopdjjhcaaGreat
