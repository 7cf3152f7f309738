import Derived.Deep.RegionHeld3
import Derived.Deep.LoopGhost
import Derived.Great.BuildSlice
import Derived.Lib.LazyBuf
import Derived.Laws.AppendOwn
import Derived.Laws.IdiomCopy
import Derived.Test.YtnakcnljhmlikaaGreatsl5
set_option linter.unusedVariables false
set_option linter.constructorNameAsVariable false
set_option linter.unusedSimpArgs false
set_option maxRecDepth 1000000
set_option maxHeartbeats 4000000
namespace Go.Proofs.YtnakcnljhmlikaaGreat
open _root_.Array renaming all_eq_true'->Up,any_eq_true'->Vr,ext_getElem?->YC,getD_eq_getD_getElem?->Sz,getElem?_eq_getElem->SS,getElem?_eq_some_iff->SZ,getElem?_replicate->Vp,getElem?_setIfInBounds->Um,getElem?_toList->Tn,length_toList->Sx,replicate->So,size_replicate->SB,size_setIfInBounds->Tg,toList_replicate->Wm
open _root_.Bool renaming and_eq_true->SC,or_eq_false_iff->Yo,or_eq_true->VV,true_or->Vm
open _root_.ByteArray renaming data_extract->Z0
open _root_.Classical renaming byContradiction->TQ
open _root_.Go.Addr renaming add->Vw
open _root_.Go.Builtin renaming append_->UG,clear_->YI,zeroCells->UB
open _root_.Go.ByteArray renaming toList_eq->XT
open _root_.Go.Code renaming region->TX
open _root_.Go.Exit renaming inBlock->U5
open _root_.Go.Instr renaming box->TF,build->VA,buildSlice->UK,findAsking->YQ,findKey->Zu,indexAt->To,lookup->XX,mapUpdate->Wk,sliceAt->VN
open _root_.Go.IntWalk renaming i64_in->Tv
open _root_.Go.Next renaming value->UP
open _root_.Go.Oper renaming upon_enter->UF,wp->TZ
open _root_.Go.Region renaming binds->TR,ready->Ts,wanted->Vk
open _root_.Go.Result renaming andThen_ok->Tr
open _root_.Go.RowKit.Below renaming refl->SE
open _root_.Go.Sem renaming run->ZO,run_bind->SK,run_pure->Ux
open _root_.Go.Value renaming agg->SX
open _root_.Go.World renaming cell?->V6,cell?_of_block->SR,frozen?->Zr,frozen?_of_block->Uf,putObj->XV,rangeAt_setCells_apart->Ul,size_alloc->Sq
open _root_.List renaming all_eq_true->S4,append_nil->U7,countP_replicate->Yj,eq_nil_iff_forall_not_mem->Xl,ext_getElem?->We,flatMap_cons->YN,getElem?_append_left->Ty,getElem?_append_right->Ut,getElem?_eq_getElem->SH,getElem?_eq_none->UO,getElem?_eq_some_iff->SI,getElem?_map->Un,getElem?_of_mem->Ub,getElem?_range->Ys,getElem?_take->T0,getElem?_toArray->VJ,getElem_cons_succ->Ye,getElem_mem->Tu,length_append->Su,length_cons->Tc,length_map->SO,length_range->VC,length_take->UZ,map_append->XG,map_cons->UJ,map_nil->Yk,map_toArray->Xv,mem_append->UT,mem_cons->TP,mem_cons_of_mem->S8,mem_cons_self->Ti,mem_map->Tq,mem_range->TM,mem_toArray->Vj,not_mem_nil->SL,range->TD,range_succ->XF,set_cons_succ->SN,size_toArray->Tf
open _root_.Nat renaming le_add_right->Wn,le_of_ble_eq_true->TY,le_refl->Se,le_trans->SD,lt_of_lt_of_le->Si,lt_of_succ_le->UX,lt_or_ge->UC,lt_succ_self->Vt,mod_lt->Ug,mul_comm->S9,mul_le_mul_right->Vg,reduceAdd->TG,sub_self->WP,sub_zero->VP,zero_add->Sj,zero_le->Us
open _root_.Ne renaming symm->Yd
open _root_.Option renaming isSome_iff_exists->SU,map_eq_some_iff->Sf,some->Td
open _root_.Or renaming inl->SY,inr->SJ
open _root_.Prod renaming mk->Ud
open Go.Proofs.Tryz (prog)
section
open Go.RowKit Go.Sort
variable {P:Nat}[NeZero P]{N:Nat}
theorem u33:(prog.underlying 63).map (·.isRow)=some true:=kR
theorem i33:(prog.info? 63).map (·.size)=some 4:=kR
theorem u56:(prog.underlying 65).map (·.isRow)=some true:=kR
theorem i56:(prog.info? 65).map (·.size)=some 12:=kR
theorem u35:(prog.underlying 97).map (·.isRow)=some true:=kR
theorem i35:(prog.info? 97).map (·.size)=some 8:=kR
theorem bL:Gives 41 #[] rv0:=by
 intro w;go_enter Tryz.func41,Tryz.ntmps41;refine RG.M.enter [] 2 kR ?_;intro a0 M0;repeat refine wp_seq ?_
 refine M0.T [.m 0] [(0,RG.z 8)] [] [RG.z 8] [0] ⟨RG.mk 0 97,trivial⟩ ?_;intro j1 a1 w1 M1;repeat refine wp_seq ?_
 refine M1.T [.c rv0,.u 0] [] [(0,1,rl0)] [rl0] [0] ⟨RG.cl Kw,RG.pt i35,trivial⟩ ?_;intro a2 w2 M2;refine wp_ret ?_;refine bodyPost_ret (v:=rv0) (RG.aE M2.st 0 97 rfl 0 _ rfl (M2.at (s:=(.p 0 0))) u35 i35) M2.sl.defers ?_;exact⟨_,rfl,M2.st.bel.below,rfl⟩
theorem Dx(C:Fl3 P):Gives 40 #[] (rv (0:Fin P) 1 0):=by
 intro w;have hfin:((rv (0:Fin P) (1:Fin P) (0:Fin P)):Value)=(rv (0:Fin P) 1 0):=by
  subst_vars;rfl
 rw[<-hfin];go_enter Tryz.func40,Tryz.ntmps40;refine RG.M.enter [] 3 kR ?_;intro a0 M0;repeat refine wp_seq ?_
 refine M0.T [.m 0] [(0,RG.z 12)] [] [RG.z 12] [0] ⟨RG.mk 0 65,trivial⟩ ?_;intro j1 a1 w1 M1;repeat refine wp_seq ?_
 refine M1.T [.c (fv (1:Fin P)),.x (rv (0:Fin P) (1:Fin P) (0:Fin P)),.u 0] [] [(0,2,ws (0:Fin P)++(ws (1:Fin P)++(ws (0:Fin P))))] [ws (0:Fin P)++(ws (1:Fin P)++(ws (0:Fin P)))] [0] ⟨RG.cl (qZ C),RG.BF rfl 65 1 1 rfl (fv (1:Fin P)) (rv (0:Fin P) (1:Fin P) (0:Fin P)) rfl RG.sx (Do C.toFld),RG.pt i56,trivial⟩ ?_;intro a2 w2 M2;refine wp_ret ?_;refine bodyPost_ret (v:=(rv (0:Fin P) (1:Fin P) (0:Fin P))) (RG.aE M2.st 0 65 rfl 0 _ rfl (M2.at (s:=(.p 0 0))) u56 i56) M2.sl.defers ?_;exact⟨_,rfl,M2.st.bel.below,rfl⟩
theorem sC(C:Fl3 P)(x y z:Fin P)(hz:z=0):Gives 92 #[(rv x y z)] (.bool true):=by
 intro w;go_enter Tryz.func92,Tryz.ntmps92;refine RG.M.enter [(0,.v (rv x y z))] 6 kR ?_;intro a0 M0;repeat refine wp_seq ?_
 refine M0.T [.m 0,.x (.bool false)] [(0,ws x++(ws y++(ws z)))] [] [ws x++(ws y++(ws z))] [1,2] ⟨RG.mk 0 65,RG.st,trivial⟩ ?_;intro j1 a1 w1 M1;repeat refine wp_seq ?_
 refine M1.U [.s (.p 0 8),.x (fv z),.c (.bool true),.x (.bool true)] [2] ⟨RG.st,RG.ld u33 i33,RG.cl (Kp C hz),RG.st,trivial⟩ ?_;intro a2 w2 M2;refine wp_ret ?_;refine bodyPost_ret (v:=(.bool true)) (RG.cK 2 rfl _ (M2.at (s:=(.v (.bool true))))) M2.sl.defers ?_;exact⟨_,rfl,M2.st.bel.below,rfl⟩
theorem sD(C:Fl3 P)(x y z:Fin P)(hz:¬z=0):Gives 92 #[(rv x y z)] (.bool false):=by
 intro w;go_enter Tryz.func92,Tryz.ntmps92;refine RG.M.enter [(0,.v (rv x y z))] 6 kR ?_;intro a0 M0;repeat refine wp_seq ?_
 refine M0.T [.m 0,.x (.bool false)] [(0,ws x++(ws y++(ws z)))] [] [ws x++(ws y++(ws z))] [1,2] ⟨RG.mk 0 65,RG.st,trivial⟩ ?_;intro j1 a1 w1 M1;repeat refine wp_seq ?_
 refine M1.U [.s (.p 0 8),.x (fv z),.c (.bool false),.x (.bool false)] [2] ⟨RG.st,RG.ld u33 i33,RG.cl (D4 C hz),RG.st,trivial⟩ ?_;intro a2 w2 M2;refine wp_ret ?_;refine bodyPost_ret (v:=(.bool false)) (RG.cK 2 rfl _ (M2.at (s:=(.v (.bool false))))) M2.sl.defers ?_;exact⟨_,rfl,M2.st.bel.below,rfl⟩
theorem Ff(C:Fl3 P)(x y z:Fin P):Gives 93 #[(rv x y z)] (rv ((EC.fdE y z)*(EC.fdT x y z)) ((EC.fdD x)*(x*((EC.fdE y z)*(EC.fdE y z))-(EC.fdT x y z))-y*((EC.fdE y z)*(EC.fdE y z)*(EC.fdE y z))) ((EC.fdE y z)*(EC.fdE y z)*(EC.fdE y z)*z)):=by
 intro w;obtain⟨c1,hc1⟩:∃c,c=x*x:=⟨_,rfl⟩
 obtain⟨c2,hc2⟩:∃c,c=c1+c1:=⟨_,rfl⟩
 obtain⟨c3,hc3⟩:∃c,c=c2+c1:=⟨_,rfl⟩
 obtain⟨c4,hc4⟩:∃c,c=y+y:=⟨_,rfl⟩
 obtain⟨c5,hc5⟩:∃c,c=c4*z:=⟨_,rfl⟩
 obtain⟨c6,hc6⟩:∃c,c=c5*c5:=⟨_,rfl⟩
 obtain⟨c7,hc7⟩:∃c,c=c6*c5:=⟨_,rfl⟩
 obtain⟨c8,hc8⟩:∃c,c=c3*c3:=⟨_,rfl⟩
 obtain⟨c9,hc9⟩:∃c,c=c8*z:=⟨_,rfl⟩
 obtain⟨c10,hc10⟩:∃c,c=x+x:=⟨_,rfl⟩
 obtain⟨c11,hc11⟩:∃c,c=c10*c6:=⟨_,rfl⟩
 obtain⟨c12,hc12⟩:∃c,c=c9-c11:=⟨_,rfl⟩
 obtain⟨c13,hc13⟩:∃c,c=c5*c12:=⟨_,rfl⟩
 obtain⟨c14,hc14⟩:∃c,c=x*c6:=⟨_,rfl⟩
 obtain⟨c15,hc15⟩:∃c,c=c14-c12:=⟨_,rfl⟩
 obtain⟨c16,hc16⟩:∃c,c=c3*c15:=⟨_,rfl⟩
 obtain⟨c17,hc17⟩:∃c,c=y*c7:=⟨_,rfl⟩
 obtain⟨c18,hc18⟩:∃c,c=c16-c17:=⟨_,rfl⟩
 obtain⟨c19,hc19⟩:∃c,c=c7*z:=⟨_,rfl⟩
 have hfin:((rv c13 c18 c19):Value)=(rv ((EC.fdE y z)*(EC.fdT x y z)) ((EC.fdD x)*(x*((EC.fdE y z)*(EC.fdE y z))-(EC.fdT x y z))-y*((EC.fdE y z)*(EC.fdE y z)*(EC.fdE y z))) ((EC.fdE y z)*(EC.fdE y z)*(EC.fdE y z)*z)):=by
  subst_vars;rfl
 rw[<-hfin];go_enter Tryz.func93,Tryz.ntmps93;refine RG.M.enter [(0,.v (rv x y z))] 91 kR ?_;intro a0 M0;repeat refine wp_seq ?_
 refine M0.T [.m 0,.m 1] [(0,ws x++(ws y++(ws z))),(1,RG.z 12)] [] [ws x++(ws y++(ws z)),RG.z 12] [1,2] ⟨RG.mk 0 65,RG.mk 1 65,trivial⟩ ?_;intro j1 i1 a1 w1 M1;repeat refine wp_seq ?_
 refine M1.D [.c rv0,.s (.p 0 0),.x (fv x),.s (.p 0 0),.x (fv x),.c (fv c1),.m 2,.u 2] [(6,RG.z 4)] [(2,7,ws c1)] [ws x++(ws y++(ws z)),RG.z 12,ws c1] [1,2,3] ⟨RG.cl bL,RG.st,RG.ld u33 i33,RG.st,RG.ld u33 i33,RG.cl ((aW C x x).e hc1),RG.mk 2 63,RG.pt i33,trivial⟩ ?_;intro j2 a2 w2 M2;repeat refine wp_seq ?_
 refine M2.D [.c rv0,.c rv0,.x (fv c1),.x (fv c1),.c (fv c2),.x (fv c1),.c (fv c3),.m 3,.u 3] [(7,RG.z 4)] [(3,8,ws c3)] [ws x++(ws y++(ws z)),RG.z 12,ws c1,ws c3] [1,2,4] ⟨RG.cl bL,RG.cl bL,RG.ld u33 i33,RG.ld u33 i33,RG.cl ((nU C c1 c1).e hc2),RG.ld u33 i33,RG.cl ((nU C c2 c1).e hc3),RG.mk 3 63,RG.pt i33,trivial⟩ ?_;intro j3 a3 w3 M3;repeat refine wp_seq ?_
 refine M3.D [.c rv0,.c rv0,.s (.p 0 4),.x (fv y),.s (.p 0 4),.x (fv y),.c (fv c4),.s (.p 0 8),.x (fv z),.c (fv c5),.m 4,.u 4] [(10,RG.z 4)] [(4,11,ws c5)] [ws x++(ws y++(ws z)),RG.z 12,ws c1,ws c3,ws c5] [1,2,4,5] ⟨RG.cl bL,RG.cl bL,RG.st,RG.ld u33 i33,RG.st,RG.ld u33 i33,RG.cl ((nU C y y).e hc4),RG.st,RG.ld u33 i33,RG.cl ((aW C c4 z).e hc5),RG.mk 4 63,RG.pt i33,trivial⟩ ?_;intro j4 a4 w4 M4;repeat refine wp_seq ?_
 refine M4.D [.c rv0,.x (fv c5),.x (fv c5),.c (fv c6),.m 5,.u 5] [(4,RG.z 4)] [(5,5,ws c6)] [ws x++(ws y++(ws z)),RG.z 12,ws c1,ws c3,ws c5,ws c6] [1,2,4,5,6] ⟨RG.cl bL,RG.ld u33 i33,RG.ld u33 i33,RG.cl ((aW C c5 c5).e hc6),RG.mk 5 63,RG.pt i33,trivial⟩ ?_;intro j5 a5 w5 M5;repeat refine wp_seq ?_
 refine M5.D [.c rv0,.x (fv c6),.x (fv c5),.c (fv c7),.m 6,.u 6] [(4,RG.z 4)] [(6,5,ws c7)] [ws x++(ws y++(ws z)),RG.z 12,ws c1,ws c3,ws c5,ws c6,ws c7] [1,2,4,5,6,7] ⟨RG.cl bL,RG.ld u33 i33,RG.ld u33 i33,RG.cl ((aW C c6 c5).e hc7),RG.mk 6 63,RG.pt i33,trivial⟩ ?_;intro j6 a6 w6 M6;repeat refine wp_seq ?_
 refine M6.D [.c rv0,.c rv0,.c rv0,.x (fv c3),.x (fv c3),.c (fv c8),.s (.p 0 8),.x (fv z),.c (fv c9),.c rv0,.c rv0,.s (.p 0 0),.x (fv x),.s (.p 0 0),.x (fv x),.c (fv c10),.x (fv c6),.c (fv c11),.c (fv c12),.m 7,.u 7] [(19,RG.z 4)] [(7,20,ws c12)] [ws x++(ws y++(ws z)),RG.z 12,ws c1,ws c3,ws c5,ws c6,ws c7,ws c12] [1,2,4,5,6,7,8] ⟨RG.cl bL,RG.cl bL,RG.cl bL,RG.ld u33 i33,RG.ld u33 i33,RG.cl ((aW C c3 c3).e hc8),RG.st,RG.ld u33 i33,RG.cl ((aW C c8 z).e hc9),RG.cl bL,RG.cl bL,RG.st,RG.ld u33 i33,RG.st,RG.ld u33 i33,RG.cl ((nU C x x).e hc10),RG.ld u33 i33,RG.cl ((aW C c10 c6).e hc11),RG.cl ((kW C c9 c11).e hc12),RG.mk 7 63,RG.pt i33,trivial⟩ ?_;intro j7 a7 w7 M7;repeat refine wp_seq ?_
 refine M7.D [.c rv0,.x (fv c5),.x (fv c12),.c (fv c13),.m 8,.u 8] [(4,RG.z 4)] [(8,5,ws c13)] [ws x++(ws y++(ws z)),RG.z 12,ws c1,ws c3,ws c5,ws c6,ws c7,ws c12,ws c13] [1,2,4,6,7,8,9] ⟨RG.cl bL,RG.ld u33 i33,RG.ld u33 i33,RG.cl ((aW C c5 c12).e hc13),RG.mk 8 63,RG.pt i33,trivial⟩ ?_;intro j8 a8 w8 M8;repeat refine wp_seq ?_
 refine M8.D [.c rv0,.c rv0,.x (fv c3),.c rv0,.c rv0,.s (.p 0 0),.x (fv x),.x (fv c6),.c (fv c14),.x (fv c12),.c (fv c15),.c (fv c16),.c rv0,.s (.p 0 4),.x (fv y),.x (fv c7),.c (fv c17),.c (fv c18),.m 9,.u 9] [(18,RG.z 4)] [(9,19,ws c18)] [ws x++(ws y++(ws z)),RG.z 12,ws c1,ws c3,ws c5,ws c6,ws c7,ws c12,ws c13,ws c18] [1,2,7,9,10] ⟨RG.cl bL,RG.cl bL,RG.ld u33 i33,RG.cl bL,RG.cl bL,RG.st,RG.ld u33 i33,RG.ld u33 i33,RG.cl ((aW C x c6).e hc14),RG.ld u33 i33,RG.cl ((kW C c14 c12).e hc15),RG.cl ((aW C c3 c15).e hc16),RG.cl bL,RG.st,RG.ld u33 i33,RG.ld u33 i33,RG.cl ((aW C y c7).e hc17),RG.cl ((kW C c16 c17).e hc18),RG.mk 9 63,RG.pt i33,trivial⟩ ?_;intro j9 a9 w9 M9;repeat refine wp_seq ?_
 refine M9.D [.x (fv c13),.x (fv c18),.c rv0,.x (fv c7),.s (.p 0 8),.x (fv z),.c (fv c19),.x (rv c13 c18 c19),.u 1] [] [(1,8,ws c13++(ws c18++(ws c19)))] [ws x++(ws y++(ws z)),ws c13++(ws c18++(ws c19)),ws c1,ws c3,ws c5,ws c6,ws c7,ws c12,ws c13,ws c18] [2] ⟨RG.ld u33 i33,RG.ld u33 i33,RG.cl bL,RG.ld u33 i33,RG.st,RG.ld u33 i33,RG.cl ((aW C c7 z).e hc19),RG.st,RG.pt i56,trivial⟩ ?_;intro a10 w10 M10;refine wp_ret ?_;refine bodyPost_ret (v:=(rv c13 c18 c19)) (RG.aE M10.st 2 65 rfl 1 _ rfl (M10.at (s:=(.p 1 0))) u56 i56) M10.sl.defers ?_;exact⟨_,rfl,M10.st.bel.below,rfl⟩
theorem Kv(C:Fl3 P)(x y z:Fin P):Gives 44 #[(rv x y z)] (rv x (0-y) z):=by
 intro w;obtain⟨c1,hc1⟩:∃c,c=0-y:=⟨_,rfl⟩
 have hfin:((rv x c1 z):Value)=(rv x (0-y) z):=by
  subst_vars;rfl
 rw[<-hfin];go_enter Tryz.func44,Tryz.ntmps44;refine RG.M.enter [(0,.v (rv x y z))] 12 kR ?_;intro a0 M0;repeat refine wp_seq ?_
 refine M0.T [.m 0,.m 1] [(0,ws x++(ws y++(ws z))),(1,RG.z 12)] [] [ws x++(ws y++(ws z)),RG.z 12] [1,2] ⟨RG.mk 0 65,RG.mk 1 65,trivial⟩ ?_;intro j1 i1 a1 w1 M1;repeat refine wp_seq ?_
 refine M1.D [.s (.p 0 0),.x (fv x),.c rv0,.s (.p 0 4),.x (fv y),.c (fv c1),.s (.p 0 8),.x (fv z),.x (rv x c1 z),.u 1] [] [(1,9,ws x++(ws c1++(ws z)))] [ws x++(ws y++(ws z)),ws x++(ws c1++(ws z))] [2] ⟨RG.st,RG.ld u33 i33,RG.cl bL,RG.st,RG.ld u33 i33,RG.cl ((NB C y).e hc1),RG.st,RG.ld u33 i33,RG.st,RG.pt i56,trivial⟩ ?_;intro a2 w2 M2;refine wp_ret ?_;refine bodyPost_ret (v:=(rv x c1 z)) (RG.aE M2.st 2 65 rfl 1 _ rfl (M2.at (s:=(.p 1 0))) u56 i56) M2.sl.defers ?_;exact⟨_,rfl,M2.st.bel.below,rfl⟩
theorem Cn(C:Fl3 P)(x1 y1 z1 x2 y2 z2:Fin P)(R:Value)(ha:z1=0->R=(rv x2 y2 z2))(hb:¬z1=0->z2=0->R=(rv x1 y1 z1))(hd:¬z1=0->¬z2=0->x2*z1=x1*z2->(¬y2*z1=y1*z2/\R=(rv (0:Fin P) 1 0))\/(y2*z1=y1*z2/\¬y2*z1=0/\R=(rv ((EC.fdE y1 z1)*(EC.fdT x1 y1 z1)) ((EC.fdD x1)*(x1*((EC.fdE y1 z1)*(EC.fdE y1 z1))-(EC.fdT x1 y1 z1))-y1*((EC.fdE y1 z1)*(EC.fdE y1 z1)*(EC.fdE y1 z1))) ((EC.fdE y1 z1)*(EC.fdE y1 z1)*(EC.fdE y1 z1)*z1))))(he:¬z1=0->¬z2=0->¬x2*z1=x1*z2->R=(rv ((x2*z1-x1*z2)*EC.frT (y2*z1-y1*z2) (x2*z1-x1*z2) (z1*z2) (x1*z2)) ((y2*z1-y1*z2)*(x1*z2*((x2*z1-x1*z2)*(x2*z1-x1*z2))-EC.frT (y2*z1-y1*z2) (x2*z1-x1*z2) (z1*z2) (x1*z2))-y1*z2*((x2*z1-x1*z2)*(x2*z1-x1*z2)*(x2*z1-x1*z2))) ((x2*z1-x1*z2)*(x2*z1-x1*z2)*(x2*z1-x1*z2)*(z1*z2)))):Gives 50 #[(rv x1 y1 z1),(rv x2 y2 z2)] R:=by
 intro w;obtain⟨c1,hc1⟩:∃c,c=y2*z1:=⟨_,rfl⟩
 obtain⟨c2,hc2⟩:∃c,c=x2*z1:=⟨_,rfl⟩
 obtain⟨c3,hc3⟩:∃c,c=y1*z2:=⟨_,rfl⟩
 obtain⟨c4,hc4⟩:∃c,c=x1*z2:=⟨_,rfl⟩
 go_enter Tryz.func50,Tryz.ntmps50;refine RG.M.enter [(0,.v (rv x1 y1 z1)),(1,.v (rv x2 y2 z2))] 127 kR ?_;intro a0 M0;repeat refine wp_seq ?_
 refine M0.T [.m 0,.m 1,.m 2] [(0,ws x1++(ws y1++(ws z1))),(1,ws x2++(ws y2++(ws z2))),(2,RG.z 12)] [] [ws x1++(ws y1++(ws z1)),ws x2++(ws y2++(ws z2)),RG.z 12] [2,3,4] ⟨RG.mk 0 65,RG.mk 1 65,RG.mk 2 65,trivial⟩ ?_;intro j1 i1 m1 a1 w1 M1;repeat refine wp_seq ?_
 by_cases hz1:z1=0
 ·obtain rfl:=ha hz1;refine M1.U [.x (rv x1 y1 z1),.c (.bool true),.x (.bool true)] [3,4,5] ⟨RG.ld u56 i56,RG.cl (sC C x1 y1 z1 hz1),RG.st,trivial⟩ ?_;intro a2 w2 M2;repeat refine wp_seq ?_
  refine M2.U [.x (.bool true)] [3,4,18] ⟨RG.st,trivial⟩ ?_;intro a3 w3 M3;repeat refine wp_seq ?_
  refine wp_cond_true M3.ev ?_;repeat refine wp_seq ?_
  refine M3.T [.x (rv x2 y2 z2),.u 2] [] [(2,1,ws x2++(ws y2++(ws z2)))] [ws x1++(ws y1++(ws z1)),ws x2++(ws y2++(ws z2)),ws x2++(ws y2++(ws z2))] [4] ⟨RG.ld u56 i56,RG.pt i56,trivial⟩ ?_;intro a4 w4 M4;refine wp_ret ?_;refine bodyPost_ret (v:=(rv x2 y2 z2)) (RG.aE M4.st 4 65 rfl 2 _ rfl (M4.at (s:=(.p 2 0))) u56 i56) M4.sl.defers ?_;exact⟨_,rfl,M4.st.bel.below,rfl⟩
 refine M1.U [.x (rv x1 y1 z1),.c (.bool false),.x (.bool false)] [2,3,4,5] ⟨RG.ld u56 i56,RG.cl (sD C x1 y1 z1 hz1),RG.st,trivial⟩ ?_;intro a2 w2 M2;repeat refine wp_seq ?_
 refine M2.U [.x (.bool false)] [2,3,4,5,18] ⟨RG.st,trivial⟩ ?_;intro a3 w3 M3;repeat refine wp_seq ?_
 refine wp_cond_false M3.ev ?_;refine wp_skip ?_;repeat refine wp_seq ?_
 by_cases hz2:z2=0
 ·obtain rfl:=hb hz1 hz2;refine M3.U [.x (rv x2 y2 z2),.c (.bool true),.x (.bool true)] [2,4,5] ⟨RG.ld u56 i56,RG.cl (sC C x2 y2 z2 hz2),RG.st,trivial⟩ ?_;intro a4 w4 M4;repeat refine wp_seq ?_
  refine M4.U [.x (.bool true)] [2,4,22] ⟨RG.st,trivial⟩ ?_;intro a5 w5 M5;repeat refine wp_seq ?_
  refine wp_cond_true M5.ev ?_;repeat refine wp_seq ?_
  refine M5.T [.x (rv x1 y1 z1),.u 2] [] [(2,1,ws x1++(ws y1++(ws z1)))] [ws x1++(ws y1++(ws z1)),ws x2++(ws y2++(ws z2)),ws x1++(ws y1++(ws z1))] [4] ⟨RG.ld u56 i56,RG.pt i56,trivial⟩ ?_;intro a6 w6 M6;refine wp_ret ?_;refine bodyPost_ret (v:=(rv x1 y1 z1)) (RG.aE M6.st 4 65 rfl 2 _ rfl (M6.at (s:=(.p 2 0))) u56 i56) M6.sl.defers ?_;exact⟨_,rfl,M6.st.bel.below,rfl⟩
 refine M3.U [.x (rv x2 y2 z2),.c (.bool false),.x (.bool false)] [2,3,4,5] ⟨RG.ld u56 i56,RG.cl (sD C x2 y2 z2 hz2),RG.st,trivial⟩ ?_;intro a4 w4 M4;repeat refine wp_seq ?_
 refine M4.U [.x (.bool false)] [2,3,4,22] ⟨RG.st,trivial⟩ ?_;intro a5 w5 M5;repeat refine wp_seq ?_
 refine wp_cond_false M5.ev ?_;refine wp_skip ?_;repeat refine wp_seq ?_
 refine M5.D [.c rv0,.s (.p 1 4),.x (fv y2),.s (.p 0 8),.x (fv z1),.c (fv c1),.m 3,.u 3] [(6,RG.z 4)] [(3,7,ws c1)] [ws x1++(ws y1++(ws z1)),ws x2++(ws y2++(ws z2)),RG.z 12,ws c1] [2,3,4,6] ⟨RG.cl bL,RG.st,RG.ld u33 i33,RG.st,RG.ld u33 i33,RG.cl ((aW C y2 z1).e hc1),RG.mk 3 63,RG.pt i33,trivial⟩ ?_;intro j6 a6 w6 M6;repeat refine wp_seq ?_
 refine M6.D [.c rv0,.s (.p 1 0),.x (fv x2),.s (.p 0 8),.x (fv z1),.c (fv c2),.m 4,.u 4] [(6,RG.z 4)] [(4,7,ws c2)] [ws x1++(ws y1++(ws z1)),ws x2++(ws y2++(ws z2)),RG.z 12,ws c1,ws c2] [2,3,4,6,7] ⟨RG.cl bL,RG.st,RG.ld u33 i33,RG.st,RG.ld u33 i33,RG.cl ((aW C x2 z1).e hc2),RG.mk 4 63,RG.pt i33,trivial⟩ ?_;intro j7 a7 w7 M7;repeat refine wp_seq ?_
 refine M7.D [.c rv0,.s (.p 0 4),.x (fv y1),.s (.p 1 8),.x (fv z2),.c (fv c3),.m 5,.u 5] [(6,RG.z 4)] [(5,7,ws c3)] [ws x1++(ws y1++(ws z1)),ws x2++(ws y2++(ws z2)),RG.z 12,ws c1,ws c2,ws c3] [2,3,4,6,7,8] ⟨RG.cl bL,RG.st,RG.ld u33 i33,RG.st,RG.ld u33 i33,RG.cl ((aW C y1 z2).e hc3),RG.mk 5 63,RG.pt i33,trivial⟩ ?_;intro j8 a8 w8 M8;repeat refine wp_seq ?_
 refine M8.D [.c rv0,.s (.p 0 0),.x (fv x1),.s (.p 1 8),.x (fv z2),.c (fv c4),.m 6,.u 6] [(6,RG.z 4)] [(6,7,ws c4)] [ws x1++(ws y1++(ws z1)),ws x2++(ws y2++(ws z2)),RG.z 12,ws c1,ws c2,ws c3,ws c4] [2,3,4,6,7,8,9] ⟨RG.cl bL,RG.st,RG.ld u33 i33,RG.st,RG.ld u33 i33,RG.cl ((aW C x1 z2).e hc4),RG.mk 6 63,RG.pt i33,trivial⟩ ?_;intro j9 a9 w9 M9;repeat refine wp_seq ?_
 by_cases hv:x2*z1=x1*z2
 ·have hR:=hd hz1 hz2 hv;refine M9.U [.x (fv c2),.x (fv c4),.x (.bool true)] [2,4,6,8,50] ⟨RG.ld u33 i33,RG.ld u33 i33,RG.aK rfl .eql 63 63 48 49 (fv c2) (fv c4) (.bool true) rfl rfl RG.sx RG.sx (λw=>kR) (Qh C.toFld (by subst_vars;exact hv)),trivial⟩ ?_;intro a10 w10 M10;repeat refine wp_seq ?_
  refine wp_cond_true M10.ev ?_;repeat refine wp_seq ?_
  rcases hR with⟨hu,rfl⟩|⟨hu,hn,hR⟩
  ·refine M10.u [.x 51 [] (fv c1),.x 52 [] (fv c3),.x 53 [(51,0),(52,1)] (.bool true),.x 54 [(53,2)] (.bool true),⟨some 55,[],.v undef,.pass⟩,⟨some 56,[],.v undef,.pass⟩,.x 57 [(54,3),(56,5)] (.bool true)] [(4,.p 2 0),(57,.v (.bool true))] ⟨RG.ld u33 i33,RG.ld u33 i33,RG.aK rfl .neq 63 63 51 52 (fv c1) (fv c3) (.bool true) rfl rfl RG.sx RG.sx (λw=>kR) (PO C.toFld (by subst_vars;exact hu)),RG.st,RG.aM rfl rfl,RG.aM rfl rfl,RG.st,trivial⟩ ?_;intro a11 w11 M11;repeat refine wp_seq ?_
   refine wp_cond_true M11.ev ?_;repeat refine wp_seq ?_
   refine M11.T [.c (rv (0:Fin P) (1:Fin P) (0:Fin P)),.u 2] [] [(2,1,ws (0:Fin P)++(ws (1:Fin P)++(ws (0:Fin P))))] [ws x1++(ws y1++(ws z1)),ws x2++(ws y2++(ws z2)),ws (0:Fin P)++(ws (1:Fin P)++(ws (0:Fin P))),ws c1,ws c2,ws c3,ws c4] [4] ⟨RG.cl (Dx C),RG.pt i56,trivial⟩ ?_;intro a12 w12 M12;refine wp_ret ?_;refine bodyPost_ret (v:=(rv (0:Fin P) (1:Fin P) (0:Fin P))) (RG.aE M12.st 4 65 rfl 2 _ rfl (M12.at (s:=(.p 2 0))) u56 i56) M12.sl.defers ?_;exact⟨_,rfl,M12.st.bel.below,rfl⟩
  obtain⟨c5,hc5⟩:∃c,c=(EC.fdE y1 z1)*(EC.fdT x1 y1 z1):=⟨_,rfl⟩
  obtain⟨c6,hc6⟩:∃c,c=(EC.fdD x1)*(x1*((EC.fdE y1 z1)*(EC.fdE y1 z1))-(EC.fdT x1 y1 z1))-y1*((EC.fdE y1 z1)*(EC.fdE y1 z1)*(EC.fdE y1 z1)):=⟨_,rfl⟩
  obtain⟨c7,hc7⟩:∃c,c=(EC.fdE y1 z1)*(EC.fdE y1 z1)*(EC.fdE y1 z1)*z1:=⟨_,rfl⟩
  obtain rfl:R=rv c5 c6 c7:=hR.trans (by subst_vars;rfl);refine M10.U [.x (fv c1),.x (fv c3),.x (.bool false),.x (.bool false),.x (fv c1),.c (.bool false),.x (.bool false)] [2,4,57] ⟨RG.ld u33 i33,RG.ld u33 i33,RG.aK rfl .neq 63 63 51 52 (fv c1) (fv c3) (.bool false) rfl rfl RG.sx RG.sx (λw=>kR) (PP C.toFld (by subst_vars;exact hu)),RG.st,RG.ld u33 i33,RG.cl (f:=89) (args:=#[fv c1]) (v:=(.bool false)) (D4 C (by subst_vars;exact hn)),RG.st,trivial⟩ ?_;intro a11 w11 M11;repeat refine wp_seq ?_
  refine wp_cond_false M11.ev ?_;refine wp_skip ?_;repeat refine wp_seq ?_
  refine M11.T [.x (rv x1 y1 z1),.c (rv c5 c6 c7),.u 2] [] [(2,2,ws c5++(ws c6++(ws c7)))] [ws x1++(ws y1++(ws z1)),ws x2++(ws y2++(ws z2)),ws c5++(ws c6++(ws c7)),ws c1,ws c2,ws c3,ws c4] [4] ⟨RG.ld u56 i56,RG.cl ((Ff C x1 y1 z1).e3 hc5 hc6 hc7),RG.pt i56,trivial⟩ ?_;intro a12 w12 M12;refine wp_ret ?_;refine bodyPost_ret (v:=(rv c5 c6 c7)) (RG.aE M12.st 4 65 rfl 2 _ rfl (M12.at (s:=(.p 2 0))) u56 i56) M12.sl.defers ?_;exact⟨_,rfl,M12.st.bel.below,rfl⟩
 have hR:=he hz1 hz2 hv;obtain⟨c5,hc5⟩:∃c,c=c1-c3:=⟨_,rfl⟩
 obtain⟨c6,hc6⟩:∃c,c=c2-c4:=⟨_,rfl⟩
 obtain⟨c7,hc7⟩:∃c,c=z1*z2:=⟨_,rfl⟩
 obtain⟨c8,hc8⟩:∃c,c=c6*c6:=⟨_,rfl⟩
 obtain⟨c9,hc9⟩:∃c,c=c8*c6:=⟨_,rfl⟩
 obtain⟨c10,hc10⟩:∃c,c=c5*c5:=⟨_,rfl⟩
 obtain⟨c11,hc11⟩:∃c,c=c10*c7:=⟨_,rfl⟩
 obtain⟨c12,hc12⟩:∃c,c=c11-c9:=⟨_,rfl⟩
 obtain⟨c13,hc13⟩:∃c,c=c4+c4:=⟨_,rfl⟩
 obtain⟨c14,hc14⟩:∃c,c=c13*c8:=⟨_,rfl⟩
 obtain⟨c15,hc15⟩:∃c,c=c12-c14:=⟨_,rfl⟩
 obtain⟨c16,hc16⟩:∃c,c=c6*c15:=⟨_,rfl⟩
 obtain⟨c17,hc17⟩:∃c,c=c4*c8:=⟨_,rfl⟩
 obtain⟨c18,hc18⟩:∃c,c=c17-c15:=⟨_,rfl⟩
 obtain⟨c19,hc19⟩:∃c,c=c5*c18:=⟨_,rfl⟩
 obtain⟨c20,hc20⟩:∃c,c=c3*c9:=⟨_,rfl⟩
 obtain⟨c21,hc21⟩:∃c,c=c19-c20:=⟨_,rfl⟩
 obtain⟨c22,hc22⟩:∃c,c=c9*c7:=⟨_,rfl⟩
 obtain rfl:R=rv c16 c21 c22:=hR.trans (by subst_vars;rfl);refine M9.U [.x (fv c2),.x (fv c4),.x (.bool false)] [2,3,4,6,7,8,9,50] ⟨RG.ld u33 i33,RG.ld u33 i33,RG.aK rfl .eql 63 63 48 49 (fv c2) (fv c4) (.bool false) rfl rfl RG.sx RG.sx (λw=>kR) (Qi C.toFld (by subst_vars;exact hv)),trivial⟩ ?_;intro a10 w10 M10;repeat refine wp_seq ?_
 refine wp_cond_false M10.ev ?_;refine wp_skip ?_;repeat refine wp_seq ?_
 refine M10.D [.c rv0,.x (fv c1),.x (fv c3),.c (fv c5),.m 7,.u 7] [(4,RG.z 4)] [(7,5,ws c5)] [ws x1++(ws y1++(ws z1)),ws x2++(ws y2++(ws z2)),RG.z 12,ws c1,ws c2,ws c3,ws c4,ws c5] [2,3,4,7,8,9,10] ⟨RG.cl bL,RG.ld u33 i33,RG.ld u33 i33,RG.cl ((kW C c1 c3).e hc5),RG.mk 7 63,RG.pt i33,trivial⟩ ?_;intro j11 a11 w11 M11;repeat refine wp_seq ?_
 refine M11.D [.c rv0,.x (fv c2),.x (fv c4),.c (fv c6),.m 8,.u 8] [(4,RG.z 4)] [(8,5,ws c6)] [ws x1++(ws y1++(ws z1)),ws x2++(ws y2++(ws z2)),RG.z 12,ws c1,ws c2,ws c3,ws c4,ws c5,ws c6] [2,3,4,8,9,10,11] ⟨RG.cl bL,RG.ld u33 i33,RG.ld u33 i33,RG.cl ((kW C c2 c4).e hc6),RG.mk 8 63,RG.pt i33,trivial⟩ ?_;intro j12 a12 w12 M12;repeat refine wp_seq ?_
 refine M12.D [.c rv0,.s (.p 0 8),.x (fv z1),.s (.p 1 8),.x (fv z2),.c (fv c7),.m 9,.u 9] [(6,RG.z 4)] [(9,7,ws c7)] [ws x1++(ws y1++(ws z1)),ws x2++(ws y2++(ws z2)),RG.z 12,ws c1,ws c2,ws c3,ws c4,ws c5,ws c6,ws c7] [4,8,9,10,11,12] ⟨RG.cl bL,RG.st,RG.ld u33 i33,RG.st,RG.ld u33 i33,RG.cl ((aW C z1 z2).e hc7),RG.mk 9 63,RG.pt i33,trivial⟩ ?_;intro j13 a13 w13 M13;repeat refine wp_seq ?_
 refine M13.D [.c rv0,.x (fv c6),.x (fv c6),.c (fv c8),.m 10,.u 10] [(4,RG.z 4)] [(10,5,ws c8)] [ws x1++(ws y1++(ws z1)),ws x2++(ws y2++(ws z2)),RG.z 12,ws c1,ws c2,ws c3,ws c4,ws c5,ws c6,ws c7,ws c8] [4,8,9,10,11,12,13] ⟨RG.cl bL,RG.ld u33 i33,RG.ld u33 i33,RG.cl ((aW C c6 c6).e hc8),RG.mk 10 63,RG.pt i33,trivial⟩ ?_;intro j14 a14 w14 M14;repeat refine wp_seq ?_
 refine M14.D [.c rv0,.x (fv c8),.x (fv c6),.c (fv c9),.m 11,.u 11] [(4,RG.z 4)] [(11,5,ws c9)] [ws x1++(ws y1++(ws z1)),ws x2++(ws y2++(ws z2)),RG.z 12,ws c1,ws c2,ws c3,ws c4,ws c5,ws c6,ws c7,ws c8,ws c9] [4,8,9,10,11,12,13,14] ⟨RG.cl bL,RG.ld u33 i33,RG.ld u33 i33,RG.cl ((aW C c8 c6).e hc9),RG.mk 11 63,RG.pt i33,trivial⟩ ?_;intro j15 a15 w15 M15;repeat refine wp_seq ?_
 refine M15.D [.c rv0,.c rv0,.c rv0,.c rv0,.x (fv c5),.x (fv c5),.c (fv c10),.x (fv c7),.c (fv c11),.x (fv c9),.c (fv c12),.c rv0,.c rv0,.x (fv c4),.x (fv c4),.c (fv c13),.x (fv c8),.c (fv c14),.c (fv c15),.m 12,.u 12] [(19,RG.z 4)] [(12,20,ws c15)] [ws x1++(ws y1++(ws z1)),ws x2++(ws y2++(ws z2)),RG.z 12,ws c1,ws c2,ws c3,ws c4,ws c5,ws c6,ws c7,ws c8,ws c9,ws c15] [4,8,9,10,11,12,13,14,15] ⟨RG.cl bL,RG.cl bL,RG.cl bL,RG.cl bL,RG.ld u33 i33,RG.ld u33 i33,RG.cl ((aW C c5 c5).e hc10),RG.ld u33 i33,RG.cl ((aW C c10 c7).e hc11),RG.ld u33 i33,RG.cl ((kW C c11 c9).e hc12),RG.cl bL,RG.cl bL,RG.ld u33 i33,RG.ld u33 i33,RG.cl ((nU C c4 c4).e hc13),RG.ld u33 i33,RG.cl ((aW C c13 c8).e hc14),RG.cl ((kW C c12 c14).e hc15),RG.mk 12 63,RG.pt i33,trivial⟩ ?_;intro j16 a16 w16 M16;repeat refine wp_seq ?_
 refine M16.D [.c rv0,.x (fv c6),.x (fv c15),.c (fv c16),.c rv0,.c rv0,.x (fv c5),.c rv0,.c rv0,.x (fv c4),.x (fv c8),.c (fv c17),.x (fv c15),.c (fv c18),.c (fv c19),.c rv0,.x (fv c3),.x (fv c9),.c (fv c20),.c (fv c21),.c rv0,.x (fv c9),.x (fv c7),.c (fv c22),.x (rv c16 c21 c22),.u 2] [] [(2,25,ws c16++(ws c21++(ws c22)))] [ws x1++(ws y1++(ws z1)),ws x2++(ws y2++(ws z2)),ws c16++(ws c21++(ws c22)),ws c1,ws c2,ws c3,ws c4,ws c5,ws c6,ws c7,ws c8,ws c9,ws c15] [4] ⟨RG.cl bL,RG.ld u33 i33,RG.ld u33 i33,RG.cl ((aW C c6 c15).e hc16),RG.cl bL,RG.cl bL,RG.ld u33 i33,RG.cl bL,RG.cl bL,RG.ld u33 i33,RG.ld u33 i33,RG.cl ((aW C c4 c8).e hc17),RG.ld u33 i33,RG.cl ((kW C c17 c15).e hc18),RG.cl ((aW C c5 c18).e hc19),RG.cl bL,RG.ld u33 i33,RG.ld u33 i33,RG.cl ((aW C c3 c9).e hc20),RG.cl ((kW C c19 c20).e hc21),RG.cl bL,RG.ld u33 i33,RG.ld u33 i33,RG.cl ((aW C c9 c7).e hc22),RG.st,RG.pt i56,trivial⟩ ?_;intro a17 w17 M17;refine wp_ret ?_;refine bodyPost_ret (v:=(rv c16 c21 c22)) (RG.aE M17.st 4 65 rfl 2 _ rfl (M17.at (s:=(.p 2 0))) u56 i56) M17.sl.defers ?_;exact⟨_,rfl,M17.st.bel.below,rfl⟩
theorem zH(C:Fl3 P)(x y:Fin P)(hr:rt (x*x*x+7)=some y):Gives 43 #[(fv x)] (.tuple #[rv x y 1,.bool true]):=by
 intro w;obtain⟨c1,hc1⟩:∃c,c=x*x:=⟨_,rfl⟩
 obtain⟨c2,hc2⟩:∃c,c=c1*x:=⟨_,rfl⟩
 obtain⟨c3,hc3⟩:∃c,c=c2+(7:Fin P):=⟨_,rfl⟩
 have hfin:((.tuple #[rv x y (1:Fin P),.bool true]):Value)=(.tuple #[rv x y 1,.bool true]):=by
  subst_vars;rfl
 rw[<-hfin];go_enter Tryz.func43,Tryz.ntmps43;refine RG.M.enter [(0,.v (fv x))] 26 kR ?_;intro a0 M0;repeat refine wp_seq ?_
 refine M0.T [.m 0,.m 1,.x (.bool false)] [(0,ws x),(1,RG.z 12)] [] [ws x,RG.z 12] [1,2,3] ⟨RG.mk 0 63,RG.mk 1 65,RG.st,trivial⟩ ?_;intro j1 i1 a1 w1 M1;repeat refine wp_seq ?_
 refine M1.D [.c rv0,.c rv0,.c rv0,.c rv0,.x (fv x),.x (fv x),.c (fv c1),.x (fv x),.c (fv c2),.c (fv (7:Fin P)),.c (fv c3),.c (.tuple #[fv y,.bool true]),.x (.tuple #[fv y,.bool true]),.x (fv y),.x (.bool true),.m 2,.u 2,.x (.bool true)] [(15,RG.z 4)] [(2,16,ws y)] [ws x,RG.z 12,ws y] [1,2,3,4,5] ⟨RG.cl bL,RG.cl bL,RG.cl bL,RG.cl bL,RG.ld u33 i33,RG.ld u33 i33,RG.cl ((aW C x x).e hc1),RG.ld u33 i33,RG.cl ((aW C c1 x).e hc2),RG.cl (xU C),RG.cl ((nU C c2 (7:Fin P)).e hc3),RG.cl (f:=84) (args:=#[rv0,fv c3]) (v:=(.tuple #[fv y,.bool true])) (Kr C (by subst_vars;exact hr)),RG.st,RG.st,RG.st,RG.mk 2 63,RG.pt i33,RG.st,trivial⟩ ?_;intro j2 a2 w2 M2;repeat refine wp_seq ?_
 refine M2.D [.x (fv x),.x (fv y),.c (fv (1:Fin P)),.x (rv x y (1:Fin P)),.x (.bool true),.u 1,.x (.bool true)] [] [(1,5,ws x++(ws y++(ws (1:Fin P))))] [ws x,ws x++(ws y++(ws (1:Fin P))),ws y] [2,3] ⟨RG.ld u33 i33,RG.ld u33 i33,RG.cl (qZ C),RG.st,RG.st,RG.pt i56,RG.st,trivial⟩ ?_;intro a3 w3 M3;refine wp_ret ?_;refine bodyPost_ret (v:=(.tuple #[rv x y (1:Fin P),.bool true])) (RG.aV M3.st 2 3 65 rfl 1 _ rfl (M3.at (s:=(.p 1 0))) _ (M3.at (s:=(.v (.bool true)))) u56 i56) M3.sl.defers ?_;exact⟨_,rfl,M3.st.bel.below,rfl⟩
theorem D3(C:Fl3 P)(x:Fin P)(hr:rt (x*x*x+7)=none):Gives 43 #[(fv x)] (.tuple #[rv x 0 1,.bool false]):=by
 intro w;obtain⟨c1,hc1⟩:∃c,c=x*x:=⟨_,rfl⟩
 obtain⟨c2,hc2⟩:∃c,c=c1*x:=⟨_,rfl⟩
 obtain⟨c3,hc3⟩:∃c,c=c2+(7:Fin P):=⟨_,rfl⟩
 have hfin:((.tuple #[rv x (0:Fin P) (1:Fin P),.bool false]):Value)=(.tuple #[rv x 0 1,.bool false]):=by
  subst_vars;rfl
 rw[<-hfin];go_enter Tryz.func43,Tryz.ntmps43;refine RG.M.enter [(0,.v (fv x))] 26 kR ?_;intro a0 M0;repeat refine wp_seq ?_
 refine M0.T [.m 0,.m 1,.x (.bool false)] [(0,ws x),(1,RG.z 12)] [] [ws x,RG.z 12] [1,2,3] ⟨RG.mk 0 63,RG.mk 1 65,RG.st,trivial⟩ ?_;intro j1 i1 a1 w1 M1;repeat refine wp_seq ?_
 refine M1.D [.c rv0,.c rv0,.c rv0,.c rv0,.x (fv x),.x (fv x),.c (fv c1),.x (fv x),.c (fv c2),.c (fv (7:Fin P)),.c (fv c3),.c (.tuple #[fv (0:Fin P),.bool false]),.x (.tuple #[fv (0:Fin P),.bool false]),.x (fv (0:Fin P)),.x (.bool false),.m 2,.u 2,.x (.bool false)] [(15,RG.z 4)] [(2,16,ws (0:Fin P))] [ws x,RG.z 12,ws (0:Fin P)] [1,2,3,4,5] ⟨RG.cl bL,RG.cl bL,RG.cl bL,RG.cl bL,RG.ld u33 i33,RG.ld u33 i33,RG.cl ((aW C x x).e hc1),RG.ld u33 i33,RG.cl ((aW C c1 x).e hc2),RG.cl (xU C),RG.cl ((nU C c2 (7:Fin P)).e hc3),RG.cl (f:=84) (args:=#[rv0,fv c3]) (v:=(.tuple #[fv (0:Fin P),.bool false])) (Ks C (by subst_vars;exact hr)),RG.st,RG.st,RG.st,RG.mk 2 63,RG.pt i33,RG.st,trivial⟩ ?_;intro j2 a2 w2 M2;repeat refine wp_seq ?_
 refine M2.D [.x (fv x),.x (fv (0:Fin P)),.c (fv (1:Fin P)),.x (rv x (0:Fin P) (1:Fin P)),.x (.bool false),.u 1,.x (.bool false)] [] [(1,5,ws x++(ws (0:Fin P)++(ws (1:Fin P))))] [ws x,ws x++(ws (0:Fin P)++(ws (1:Fin P))),ws (0:Fin P)] [2,3] ⟨RG.ld u33 i33,RG.ld u33 i33,RG.cl (qZ C),RG.st,RG.st,RG.pt i56,RG.st,trivial⟩ ?_;intro a3 w3 M3;refine wp_ret ?_;refine bodyPost_ret (v:=(.tuple #[rv x (0:Fin P) (1:Fin P),.bool false])) (RG.aV M3.st 2 3 65 rfl 1 _ rfl (M3.at (s:=(.p 1 0))) _ (M3.at (s:=(.v (.bool false)))) u56 i56) M3.sl.defers ?_;exact⟨_,rfl,M3.st.bel.below,rfl⟩
end
section
open Go.RowKit Go.Sort Go.Deep
variable {P:Nat}[NeZero P]{N:Nat}
theorem NG(O:Ord N)(s:Bs)(hs:s.size<=1048576):Gives 130 #[rv1,.string ⟨s⟩] (nv (oZ N s)):=λw =>
 (Hm _ _ _ _ _ _ _ _ N ⟨s⟩ O.ref hs w).mono (by rintro e w' ⟨v,rfl,hb,hF⟩;exact⟨_,rfl,hb,hF.nv⟩)
def z12:Array Value:=#[uZ 0,uZ 0,uZ 0,uZ 0,uZ 0,uZ 0,uZ 0,uZ 0,uZ 0,uZ 0,uZ 0,uZ 0]
def WB5(w:World):World:=(w.alloc (.cells z12 65)).alloc (.cells (madeCells #[.int .u8 0] 33) 5)
theorem oG(w:World):RG.St w w.heap.size [] [z12.toList] [w.heap.size] (WB5 w):=(RG.St.new w z12.toList 65).more (aB _ _)
theorem v9(w:World):(convert 23 9 (.slice (some ⟨w.heap.size+1,0,none⟩) 33 33)).run prog (WB5 w)=.ok (.string ⟨qQ⟩) (WB5 w):=
 conv_str prog 23 9 5 slice22 int5 str9 _ _ 0 33 33 _ (Io w _) dC
theorem str_eq(a:Bs):((⟨a⟩:ByteArray).toList == (⟨a⟩:ByteArray).toList)=true:=by simp
theorem tI{a b:Bs}(h:¬a=b):((⟨a⟩:ByteArray).toList == (⟨b⟩:ByteArray).toList)=false:=by
 rw[XT,XT];simp only[beq_eq_false_iff_ne,ne_eq];exact λe=>h (Array.toList_inj.1 e)
theorem slS(bs:Bs)(hs:bs.size=33)(w:World):(VN 9 (.string ⟨bs⟩) (some (iZ 1)) none none).run prog w=.ok (.string ⟨f8 bs⟩) w:=by
 go_simp;have h2:((⟨bs⟩:ByteArray).extract 1 33).data=f8 bs:=by rw[Z0];rfl
 rw[<-h2]
theorem Li{bs:Bs}(hs:bs.size=33)(hp:0<(⟨bs⟩:ByteArray).size):(((⟨bs⟩:ByteArray)[0]'hp).toNat:Int)=ub bs[0]!:=by
 rw[getElem!_pos bs 0 oM];rfl
theorem ixS(bs:Bs)(hs:bs.size=33)(m:Int)(hm:ub bs[0]! = m)(w:World):(Instr.index 9 (.string ⟨bs⟩) (iZ 0)).run prog w=.ok (.int .u8 m) w:=by
 have h:=hs;have h2:∀hp,(((⟨bs⟩:ByteArray)[0]'hp).toNat:Int)=m:=λhp=>by rw[Li hs,hm]
 go_simp
theorem xW(C:Fl3 P)(bs:Bs)(hs:bs.size=32){x:Fin P}(hx:beV bs.toList=x.val):Gives 42 #[rv0,.string ⟨bs⟩] (.tuple #[fv x,.bool true]):=λw =>
 (l9 _ _ _ _ _ _ _ _ P ⟨bs⟩ C.ref w).mono (by
  rintro e w' ⟨v,rfl,hb,a,b,c,d,ok,rfl,h1,h2,h3,-⟩;cases ok with
  | false=>exact absurd ⟨hs,by rw[hx];exact x.isLt⟩ (h2 rfl)
  | true =>
   have h4:=(h1 rfl).2;rw[hx]at h4;refine⟨_,rfl,hb,?_⟩;rw[C.toFld.four x |>.inj h4])
theorem xX(C:Fl3 P)(bs:Bs)(hs:bs.size=32)(hx:¬beV bs.toList<P):Gives 42 #[rv0,.string ⟨bs⟩] (.tuple #[nv (beV bs.toList),.bool false]):=λw =>
 (l9 _ _ _ _ _ _ _ _ P ⟨bs⟩ C.ref w).mono (by
  rintro e w' ⟨v,rfl,hb,a,b,c,d,ok,rfl,h1,h2,h3,-⟩;cases ok with
  | true=>exact absurd (h1 rfl).1.2 hx
  | false =>
   have h4:=h3 hs;refine⟨_,rfl,hb,?_⟩;rw[h4.nv])
def n12(P:Nat)[NeZero P]:List Value:=ws (0:Fin P)++(ws (1:Fin P)++ws (0:Fin P))
theorem Ke(C:Fl3 P)(w:World):Calls prog 16 #[.string ⟨qQ⟩] w (rZ w λe w'=>e=.tuple #[rv (0:Fin P) 1 0,.bool true]):=by
 have hmk:=Fw;have hcv:=v9 w;have hse:=str_eq qQ;unfold WB5 z12 at hcv;have hN:=Dx C;have hrv:rv (0:Fin P) 1 0=.agg (n12 P).toArray:=rfl;rw[hrv]at hN⊢;have hln:(n12 P).length=12:=rfl;have hone:(n12 P).all (·.oneCell')=true:=rfl;generalize n12 P=N at hN hln hone⊢;go_enter Tryz.func16,Tryz.ntmps16;go_wp2_with fail
 refine(hN _).mono ?_;rintro e w1 ⟨v,rfl,hb,rfl⟩;obtain⟨w2,s0,s1,s2,hS⟩:=(RG.St.more (oG w) hb).store1 (P:=prog) 65 (D:=N) hln (by rw[hln];exact i56) hone;go_wp2;refine bodyPost_ret (v:=.tuple #[.agg N.toArray,.bool true]) (RG.aV hS 2 3 65 rfl 0 _ rfl rfl _ rfl u56 (by rw[hln];exact i56)) rfl ?_;exact⟨_,rfl,hS.bel.below,rfl⟩
theorem Nu(C:Fl3 P)(bs:Bs)(hs:¬bs.size=33)(w:World):Calls prog 16 #[.string ⟨bs⟩] w (rZ w λe w'=>e=.tuple #[rv (0:Fin P) 0 0,.bool false]):=by
 have hmk:=Fw;have hcv:=v9 w;have hse:=tI (a:=bs) (b:=qQ) (λh=>hs (by rw[h];rfl));unfold WB5 z12 at hcv;rw[<-tG];go_enter Tryz.func16,Tryz.ntmps16;go_wp2;refine bodyPost_ret (v:=.tuple #[.agg z12,.bool false]) (RG.aV (oG w) 2 3 65 rfl 0 _ rfl rfl _ rfl u56 i56) rfl ?_;exact⟨_,rfl,(oG w).bel.below,rfl⟩
theorem Kf(C:Fl3 P)(bs:Bs)(hs:bs.size=33)(hz:¬bs=qQ)(m:Int)(hm:ub bs[0]! = m)(hm2:¬m=2)(hm3:¬m=3)(w:World):Calls prog 16 #[.string ⟨bs⟩] w (rZ w λe w'=>e=.tuple #[rv (0:Fin P) 0 0,.bool false]):=by
 have hmk:=Fw;have hcv:=v9 w;have hse:=tI hz;unfold WB5 z12 at hcv;have hs2:=hs;have hix:=ixS bs hs m hm;have e2:(m != 2)=true:=by simpa using hm2
 rw[<-tG];go_enter Tryz.func16,Tryz.ntmps16;go_wp2;refine bodyPost_ret (v:=.tuple #[.agg z12,.bool false]) (RG.aV (oG w) 2 3 65 rfl 0 _ rfl rfl _ rfl u56 i56) rfl ?_;exact⟨_,rfl,(oG w).bel.below,rfl⟩
theorem Nt(C:Fl3 P)(m:Nat)(bs:Bs)(w:World)(hs:bs.size=33)(hz:¬bs=qQ)(hm:ub bs[0]! = 2\/ub bs[0]! = 3)(hnum:Gives 42 #[rv0,.string ⟨f8 bs⟩] (.tuple #[nv m,.bool false])):Calls prog 16 #[.string ⟨bs⟩] w (rZ w λe w'=>e=.tuple #[rv (0:Fin P) 0 0,.bool false]):=by
 rcases hm with hm|hm
 all_goals
  have hmk:=Fw;have hcv:=v9 w;have hse:=tI hz;unfold WB5 z12 at hcv;have hs2:=hs;have hix:=ixS bs hs _ hm;have hS0:=oG w;unfold WB5 z12 at hS0;go_enter Tryz.func16,Tryz.ntmps16;go_wp2_with fail
  rename_i hK
  refine RG.PY (v0:=.string ⟨bs⟩) (v1:=.pointer (some ⟨w.heap.size,0,none⟩)) (v2:=.bool false) (n:=48) 0 2 3 rfl rfl rfl rfl rfl ?_;intro a0 sl0 f0 f2 f3;have M0:RG.M w w.heap.size [] 48 [RG.z 12] [w.heap.size] [(0,.v (.string ⟨bs⟩)),(2,.p 0 0),(3,.v (.bool false))] a0 _:=⟨hS0,sl0,⟨f0,f2,f3,trivial⟩⟩
  repeat refine wp_seq ?_
  refine M0.D [.c rv0,.x (.string ⟨bs⟩),.x (.string ⟨f8 bs⟩),.c (.tuple #[nv m,.bool false]),.x (.tuple #[nv m,.bool false]),.x (nv m),.x (.bool false),.m 1,.u 1,.x (.bool false)] [(7,RG.z 4)] [(1,8,wn m)] [RG.z 12,wn m] [2,3,5] ⟨RG.cl bL,RG.st,RG.jP rfl 9 28 (iZ 1) (.string ⟨bs⟩) (.string ⟨f8 bs⟩) rfl rfl RG.sx (slS bs hs),RG.cl hnum,RG.st,RG.st,RG.st,RG.mk 1 63,RG.pt i33,RG.st,trivial⟩ ?_;intro j1 a1 w1 M1;refine hK _ _ ?_;repeat refine wp_seq ?_
  refine M1.U [.x (.bool false),.x (.bool true)] [2,3,34] ⟨RG.st,RG.st,trivial⟩ ?_;intro a2 w2 M2;repeat refine wp_seq ?_
  refine wp_cond_true M2.ev ?_;repeat refine wp_seq ?_
  refine M2.T [.x (rv (0:Fin P) (0:Fin P) (0:Fin P)),.u 0,.x (.bool false)] [] [(0,1,ws (0:Fin P)++(ws (0:Fin P)++(ws (0:Fin P))))] [ws (0:Fin P)++(ws (0:Fin P)++(ws (0:Fin P))),wn m] [2,3] ⟨RG.se (tG (P:=P)),RG.pt i56,RG.st,trivial⟩ ?_;intro a3 w3 M3;refine wp_ret ?_;refine bodyPost_ret (v:=(.tuple #[rv (0:Fin P) (0:Fin P) (0:Fin P),.bool false])) (RG.aV M3.st 2 3 65 rfl 0 _ rfl (M3.at (s:=(.p 0 0))) _ (M3.at (s:=(.v (.bool false)))) u56 i56) M3.sl.defers ?_;exact⟨_,rfl,M3.st.bel.below,rfl⟩
theorem DW(C:Fl3 P)(bs:Bs)(x y:Fin P)(b:Bool)(w:World)(hs:bs.size=33)(hz:¬bs=qQ)(hm:ub bs[0]! = 2\/ub bs[0]! = 3)(hx:beV (f8 bs).toList=x.val)(hat:Gives 43 #[(fv x)] (.tuple #[rv x y 1,.bool b])):Calls prog 16 #[.string ⟨bs⟩] w (rZ w λe w'=>e=.tuple #[rv x (if ub bs[0]! = 3 then 0-y else y) 1,.bool b]):=by
 rcases hm with hm|hm
 case' inl=>rw[if_neg (by rw[hm];decide)]
 case' inr =>
  rw[if_pos hm];generalize hy2:0-y=y2
 all_goals
  have hmk:=Fw;have hcv:=v9 w;have hse:=tI hz;unfold WB5 z12 at hcv;have hs2:(⟨bs⟩:ByteArray).size=33:=hs;have hix:=ixS bs hs _ hm;have hS0:=oG w;unfold WB5 z12 at hS0;go_enter Tryz.func16,Tryz.ntmps16;go_wp2_with fail
  rename_i hK
  clear hmk hcv hse hs2 hix;generalize (w.alloc _).alloc _=w0 at hS0⊢;refine RG.PY (v0:=.string ⟨bs⟩) (v1:=.pointer (some ⟨w.heap.size,0,none⟩)) (v2:=.bool false) (n:=48) 0 2 3 rfl rfl rfl rfl rfl ?_;intro a0 sl0 f0 f2 f3;have M0:RG.M w w.heap.size [] 48 [RG.z 12] [w.heap.size] [(0,.v (.string ⟨bs⟩)),(2,.p 0 0),(3,.v (.bool false))] a0 _:=⟨hS0,sl0,⟨f0,f2,f3,trivial⟩⟩
  repeat refine wp_seq ?_
  refine M0.D [.c rv0,.x (.string ⟨bs⟩),.x (.string ⟨f8 bs⟩),.c (.tuple #[fv x,.bool true]),.x (.tuple #[fv x,.bool true]),.x (fv x),.x (.bool true),.m 1,.u 1,.x (.bool true)] [(7,RG.z 4)] [(1,8,ws x)] [RG.z 12,ws x] [0,2,3,4,5] ⟨RG.cl bL,RG.st,RG.jP rfl 9 28 (iZ 1) (.string ⟨bs⟩) (.string ⟨f8 bs⟩) rfl rfl RG.sx (slS bs hs),RG.cl (xW C (f8 bs) (gA hs) hx),RG.st,RG.st,RG.st,RG.mk 1 63,RG.pt i33,RG.st,trivial⟩ ?_;intro j1 a1 w1 M1;refine hK _ _ ?_;repeat refine wp_seq ?_
  refine M1.U [.x (.bool true),.x (.bool false)] [0,2,3,4,5,34] ⟨RG.st,RG.st,trivial⟩ ?_;intro a2 w2 M2;repeat refine wp_seq ?_
  refine wp_cond_false M2.ev ?_;refine wp_skip ?_;repeat refine wp_seq ?_
  refine M2.T [.x (fv x),.c (.tuple #[rv x y (1:Fin P),.bool b]),.x (.tuple #[rv x y (1:Fin P),.bool b]),.x (rv x y (1:Fin P)),.x (.bool b),.m 2,.u 2,.x (.bool b)] [(5,RG.z 12)] [(2,6,ws x++(ws y++(ws (1:Fin P))))] [RG.z 12,ws x,ws x++(ws y++(ws (1:Fin P)))] [0,2,3,5,6] ⟨RG.ld u33 i33,RG.cl hat,RG.st,RG.st,RG.st,RG.mk 2 65,RG.pt i56,RG.st,trivial⟩ ?_;intro j3 a3 w3 M3;repeat refine wp_seq ?_
 ·refine M3.U [.x (.string ⟨bs⟩),.x (.int .u8 3),.x (.bool true)] [2,3,5,6,43] ⟨RG.st,RG.wK rfl 9 41 (iZ 0) (.string ⟨bs⟩) (.int .u8 3) rfl rfl RG.sx (ixS bs hs 3 hm),RG.st,trivial⟩ ?_;intro a4 w4 M4;repeat refine wp_seq ?_
  refine wp_cond_true M4.ev ?_;repeat refine wp_seq ?_
  refine M4.T [.x (rv x y (1:Fin P)),.c (rv x y2 (1:Fin P)),.u 2] [] [(2,2,ws x++(ws y2++(ws (1:Fin P))))] [RG.z 12,ws x,ws x++(ws y2++(ws (1:Fin P)))] [2,3,5,6] ⟨RG.ld u56 i56,RG.cl (f:=44) (args:=#[rv x y (1:Fin P)]) (v:=(rv x y2 (1:Fin P))) (hy2 ▸ Kv C x y 1),RG.pt i56,trivial⟩ ?_;intro a5 w5 M5;repeat refine wp_seq ?_
  refine M5.T [.x (rv x y2 (1:Fin P)),.x (.bool b),.u 0,.x (.bool b)] [] [(0,2,ws x++(ws y2++(ws (1:Fin P))))] [ws x++(ws y2++(ws (1:Fin P))),ws x,ws x++(ws y2++(ws (1:Fin P)))] [2,3] ⟨RG.ld u56 i56,RG.st,RG.pt i56,RG.st,trivial⟩ ?_;intro a6 w6 M6;refine wp_ret ?_;refine bodyPost_ret (v:=(.tuple #[rv x y2 (1:Fin P),.bool b])) (RG.aV M6.st 2 3 65 rfl 0 _ rfl (M6.at (s:=(.p 0 0))) _ (M6.at (s:=(.v (.bool b)))) u56 i56) M6.sl.defers ?_;exact⟨_,rfl,M6.st.bel.below,rfl⟩
 refine M3.U [.x (.string ⟨bs⟩),.x (.int .u8 2),.x (.bool false)] [2,3,5,6,43] ⟨RG.st,RG.wK rfl 9 41 (iZ 0) (.string ⟨bs⟩) (.int .u8 2) rfl rfl RG.sx (ixS bs hs 2 hm),RG.st,trivial⟩ ?_;intro a4 w4 M4;repeat refine wp_seq ?_
 refine wp_cond_false M4.ev ?_;refine wp_skip ?_;repeat refine wp_seq ?_
 refine M4.T [.x (rv x y (1:Fin P)),.x (.bool b),.u 0,.x (.bool b)] [] [(0,2,ws x++(ws y++(ws (1:Fin P))))] [ws x++(ws y++(ws (1:Fin P))),ws x,ws x++(ws y++(ws (1:Fin P)))] [2,3] ⟨RG.ld u56 i56,RG.st,RG.pt i56,RG.st,trivial⟩ ?_;intro a5 w5 M5;refine wp_ret ?_;refine bodyPost_ret (v:=(.tuple #[rv x y (1:Fin P),.bool b])) (RG.aV M5.st 2 3 65 rfl 0 _ rfl (M5.at (s:=(.p 0 0))) _ (M5.at (s:=(.v (.bool b)))) u56 i56) M5.sl.defers ?_;exact⟨_,rfl,M5.st.bel.below,rfl⟩
end
section
open Go.RowKit Go.Sort
variable {P:Nat}[NeZero P]{N:Nat}
def FracT(t:T3 P)(p:EC.Pt P):Prop:=EC.Frac t.1 t.2.1 t.2.2 p/\EC.On p
def dbF(t:T3 P):T3 P:=(EC.fdE t.2.1 t.2.2*EC.fdT t.1 t.2.1 t.2.2,EC.fdD t.1*(t.1*(EC.fdE t.2.1 t.2.2*EC.fdE t.2.1 t.2.2)-EC.fdT t.1 t.2.1 t.2.2)-t.2.1*(EC.fdE t.2.1 t.2.2*EC.fdE t.2.1 t.2.2*EC.fdE t.2.1 t.2.2),EC.fdE t.2.1 t.2.2*EC.fdE t.2.1 t.2.2*EC.fdE t.2.1 t.2.2*t.2.2)
def plF(a b : T3 P): T3 P :=
  if a.2.2 = 0 then b else if b.2.2 = 0 then a else
  if b.1 * a.2.2 = a.1 * b.2.2 then(if b.2.1 * a.2.2 = a.2.1 * b.2.2 then dbF a else(0, 1, 0)) else
  ((b.1 * a.2.2 - a.1 * b.2.2) * EC.frT (b.2.1 * a.2.2 - a.2.1 * b.2.2) (b.1 * a.2.2 - a.1 * b.2.2) (a.2.2 * b.2.2) (a.1 * b.2.2),
   (b.2.1 * a.2.2 - a.2.1 * b.2.2) * (a.1 * b.2.2 * ((b.1 * a.2.2 - a.1 * b.2.2) * (b.1 * a.2.2 - a.1 * b.2.2)) - EC.frT (b.2.1 * a.2.2 - a.2.1 * b.2.2) (b.1 * a.2.2 - a.1 * b.2.2) (a.2.2 * b.2.2) (a.1 * b.2.2)) - a.2.1 * b.2.2 * ((b.1 * a.2.2 - a.1 * b.2.2) * (b.1 * a.2.2 - a.1 * b.2.2) * (b.1 * a.2.2 - a.1 * b.2.2)),
   (b.1 * a.2.2 - a.1 * b.2.2) * (b.1 * a.2.2 - a.1 * b.2.2) * (b.1 * a.2.2 - a.1 * b.2.2) * (a.2.2 * b.2.2))
theorem FracT.plus(C:Fl3 P){a b:T3 P}{p q:EC.Pt P}(h:FracT a p)(h':FracT b q):Gives 50 #[tv a,tv b] (tv (plF a b))/\FracT (plF a b) (EC.add p q):=by
 have ho:=C.cur.on h.2 h'.2;obtain⟨x1,y1,z1⟩:=a;obtain⟨x2,y2,z2⟩:=b;refine⟨Cn C x1 y1 z1 x2 y2 z2 _ (λn1=>by unfold plF;rw[if_pos n1]) (λn1 n2=>by unfold plF;rw[if_neg n1,if_pos n2]) (λn1 n2 e=>?_) (λn1 n2 e1=>by unfold plF;rw[if_neg n1,if_neg n2,if_neg e1]),?_⟩
 ·rcases h.1.plus C.cur h.2 h'.1 h'.2 n1 n2 with⟨e1,e2,e3⟩|⟨e1,e2,e3,e4⟩|⟨e1,e2⟩
  ·exact .inl ⟨e2,by unfold plF;rw[if_neg n1,if_neg n2,if_pos e1,if_neg e2]⟩
  ·exact .inr ⟨e2,e3,by unfold plF;rw[if_neg n1,if_neg n2,if_pos e1,if_pos e2];rfl⟩
  ·exact absurd e e1
 unfold plF;by_cases n1:z1=0
 ·rw[if_pos n1];obtain rfl:=h.1.zero n1;exact h'
 ·rw[if_neg n1];by_cases n2:z2=0
  ·rw[if_pos n2];obtain rfl:=h'.1.zero n2;rw[EC.bE];exact h
  ·rw[if_neg n2];rcases h.1.plus C.cur h.2 h'.1 h'.2 n1 n2 with⟨e1,e2,e3⟩|⟨e1,e2,e3,e4⟩|⟨e1,e2⟩
   ·rw[if_pos e1,if_neg e2];refine⟨?_,ho⟩;rw[e3];exact rfl
   ·rw[if_pos e1,if_pos e2];refine⟨?_,ho⟩;rw[e4];exact h.1.double C.cur h.2 n1
   ·rw[if_neg e1];exact⟨e2,ho⟩
theorem FracT.none:FracT ((0,1,0):T3 P) .none:=⟨rfl,EC.fV⟩
def tmF(n:Nat)(t:T3 P):Nat->T3 P
 | 0=>(0,1,0)
 | m+1=>if n/2^(255-m)%2=1 then plF (plF (tmF n t m) (tmF n t m)) t else plF (tmF n t m) (tmF n t m)
theorem Ay(C:Fl3 P){n:Nat}{t:T3 P}{p:EC.Pt P}(hn:n<2^256)(h:FracT t p):∀m,m<=256->FracT (tmF n t m) (EC.mul (n/2^(256-m)) p)
 | 0,_=>by
  rw[VP,Nat.div_eq_of_lt hn];exact FracT.none
 | m+1,hm=>by
  have ih:=Ay C hn h m oM;have e1:256-m=255-m+1:=oM;rw[show 256-(m+1)=255-m by omega,zX n (255-m),<-e1];unfold tmF;have h2:=(FracT.plus C ih ih).2;rw[<-EC.mul_add C.cur h.2,<-Nat.two_mul]at h2;by_cases hb:n/2^(255-m)%2=1
  ·rw[if_pos hb,hb];exact(FracT.plus C h2 h).2
  ·rw[if_neg hb,show n/2^(255-m)%2=0 by omega];exact h2
theorem qD(C:Fld P)(x y:Fin P):EC.Frac x y 1 (.some (x,y):EC.Pt P):=⟨λh=>C.cur.two (by grobner),by grobner,by grobner⟩
end
section
open Go.RowKit Go.Sort Go.Deep
variable {P:Nat}[NeZero P]{N:Nat}
def gxB:Bs:=#[121,190,102,126,249,220,187,172,85,160,98,149,206,135,11,7,2,155,252,219,45,206,40,217,89,242,129,91,22,248,23,152]
theorem Rl(C:Fld P):Gives 82 #[.string ⟨gxB⟩] (fv (gX P)):=λw=>(D5 ⟨gxB⟩ rfl w).mono (by
 rintro e w' ⟨v,rfl,hb,hF⟩;refine⟨_,rfl,hb,?_⟩;have h:=hF.nv;rw[h];show nv _=nv _;rw[C4 C];exact congrArg nv (by decide +kernel:beV gxB.toList=55066263022277343669578718895168534326250603453777594175500187360389116729240))
theorem Ov(C:Fld P):rt (gX P*gX P*gX P+7)=some (gY P):=by
 have h:=II C;have h1:gY P^2=gX P^3+7:=h;have h2:gY P*gY P=gX P*gX P*gX P+7:=by
  generalize gX P=x at *;generalize gY P=y at *;clear h C
  grobner
 rw[G1 C h2,if_neg];rw[C3 C];decide
def gT(P:Nat)[NeZero P]:T3 P:=(gX P,gY P,1)
theorem Rc(C:Fl3 P):Gives 98 #[] (tv (gT P)):=by
 intro w;go_enter Tryz.func98,Tryz.ntmps98;refine RG.M.enter [] 11 kR ?_;intro a0 M0;repeat refine wp_seq ?_
 refine M0.T [.m 0] [(0,RG.z 12)] [] [RG.z 12] [0] ⟨RG.mk 0 65,trivial⟩ ?_;intro j1 a1 w1 M1;repeat refine wp_seq ?_
 refine M1.T [.c (fv (gX P)),.m 1,.u 1] [(1,RG.z 4)] [(1,2,ws (gX P))] [RG.z 12,ws (gX P)] [0,1] ⟨RG.cl (Rl C.toFld),RG.mk 1 63,RG.pt i33,trivial⟩ ?_;intro j2 a2 w2 M2;repeat refine wp_seq ?_
 refine M2.T [.x (fv (gX P)),.c (.tuple #[rv (gX P) (gY P) (1:Fin P),.bool true]),.x (.tuple #[rv (gX P) (gY P) (1:Fin P),.bool true]),.x (rv (gX P) (gY P) (1:Fin P)),.x (.bool true),.m 2,.u 2,.x (.bool true)] [(5,RG.z 12)] [(2,6,ws (gX P)++(ws (gY P)++(ws (1:Fin P))))] [RG.z 12,ws (gX P),ws (gX P)++(ws (gY P)++(ws (1:Fin P)))] [0,2] ⟨RG.ld u33 i33,RG.cl (zH C (gX P) (gY P) (Ov C.toFld)),RG.st,RG.st,RG.st,RG.mk 2 65,RG.pt i56,RG.st,trivial⟩ ?_;intro j3 a3 w3 M3;repeat refine wp_seq ?_
 refine M3.T [.x (rv (gX P) (gY P) (1:Fin P)),.u 0] [] [(0,1,ws (gX P)++(ws (gY P)++(ws (1:Fin P))))] [ws (gX P)++(ws (gY P)++(ws (1:Fin P))),ws (gX P),ws (gX P)++(ws (gY P)++(ws (1:Fin P)))] [0] ⟨RG.ld u56 i56,RG.pt i56,trivial⟩ ?_;intro a4 w4 M4;refine wp_ret ?_;refine bodyPost_ret (v:=tv (gT P)) (RG.aE M4.st 0 65 rfl 0 _ rfl (M4.at (s:=.p 0 0)) u56 i56) M4.sl.defers ?_;exact⟨_,rfl,M4.st.bel.below,rfl⟩
end
section
open Go.RowKit Go.Sort
variable {P:Nat}[NeZero P]{N:Nat}
theorem Qa(i:Nat)(w:World):(binOp .geq 3 (iZ i) (iZ 0)).run prog w=.ok (.bool true) w:=by
 go_simp
theorem Pp(i:Nat)(hi:i<1000)(w:World):(binOp .sub 3 (iZ i) (iZ 1)).run prog w=.ok (iZ ((i:Int)-1)) w:=by
 have h:=Tv ((i:Int)-1) oM;go_simp
theorem NE{n i:Nat}(hn:n<top)(hi:i<256)(h:n/2^i%2=1):Gives 95 #[nv n,iZ i] (uZ 1):=λw =>
 (o9 _ n i (m7 hn) hi w).mono (by rintro e w' ⟨v,rfl,hb,t,rfl,ht⟩;exact⟨_,rfl,hb,by rw[ht,h];rfl⟩)
theorem NF{n i:Nat}(hn:n<top)(hi:i<256)(h:¬n/2^i%2=1):Gives 95 #[nv n,iZ i] (uZ 0):=λw =>
 (o9 _ n i (m7 hn) hi w).mono (by rintro e w' ⟨v,rfl,hb,t,rfl,ht⟩;exact⟨_,rfl,hb,by rw[ht,show n/2^i%2=0 by omega];rfl⟩)
theorem uM(C:Fl3 P)(n:Nat)(hn:n<top)(t:T3 P){p:EC.Pt P}(h:FracT t p):Gives 51 #[nv n,tv t] (tv (tmF n t 256)):=by
 intro w;go_enter Tryz.func51,Tryz.ntmps51;refine RG.JL (v0:=nv n) (v1:=tv t) (n:=23) kR kR kR kR ?_;intro a0 sl0 f0 f1;have hS0:=RG.St.begin w;have M0:RG.M w w.heap.size [] 23 [] [] [(0,.v (nv n)),(1,.v (tv t))] a0 _:=⟨hS0,sl0,⟨f0,f1,trivial⟩⟩
 repeat refine wp_seq ?_
 refine M0.T [.m 0,.m 1,.m 2] [(0,wn n),(1,tw t),(2,RG.z 12)] [] [wn n,tw t,RG.z 12] [2,3,4] ⟨RG.mk 0 63,RG.mk 1 65,RG.mk 2 65,trivial⟩ ?_;intro j1 i1 m1 a1 w1 M1;repeat refine wp_seq ?_
 refine M1.T [.c (tv ((0,1,0):T3 P)),.m 3,.u 3] [(1,RG.z 12)] [(3,2,tw ((0,1,0):T3 P))] [wn n,tw t,RG.z 12,tw ((0,1,0):T3 P)] [2,3,4,5] ⟨RG.cl (Dx C),RG.mk 3 65,RG.pt i56,trivial⟩ ?_;intro j2 a2 w2 M2;repeat refine wp_seq ?_
 refine M2.U [.x (iZ 255)] [2,3,4,5,6] ⟨RG.st,trivial⟩ ?_;intro a3 w3 M3;have f2_3:a3.tmps[2]? = some (pZ j1):=M3.at (s:=(.p 0 0));have f3_3:a3.tmps[3]? = some (pZ i1):=M3.at (s:=(.p 1 0));have f4_3:a3.tmps[4]? = some (pZ m1):=M3.at (s:=(.p 2 0));have f5_3:a3.tmps[5]? = some (pZ j2):=M3.at (s:=(.p 3 0));have f6_3:a3.tmps[6]? = some (iZ 255):=M3.at (s:=(.v (iZ 255)));repeat refine wp_seq ?_
 refine wp_block ?_;refine wp_loop_ghost (λm a wr=>m<=256/\RG.Sl a 23/\a.tmps[2]? = some (pZ j1)/\a.tmps[3]? = some (pZ i1)/\a.tmps[4]? = some (pZ m1)/\a.tmps[5]? = some (pZ j2)/\a.tmps[6]? = some (iZ ((m:Int)-1))/\RG.St w w.heap.size [] [wn n,tw t,[uZ 0,uZ 0,uZ 0,uZ 0,uZ 0,uZ 0,uZ 0,uZ 0,uZ 0,uZ 0,uZ 0,uZ 0],tw (tmF n t (256-m))] [j1,i1,m1,j2] wr) 256 ⟨Se _,M3.sl,f2_3,f3_3,f4_3,f5_3,f6_3,?_⟩ ?_
 ·rw[WP,tmF];exact M3.st
 intro m a wr;rintro⟨hm,sl,f2,f3,f4,f5,f6,hS⟩;have hn2:n<2^256:=hn;generalize j1=k2 at f2 f3 f4 f5 hS;generalize i1=k3 at f2 f3 f4 f5 hS;generalize m1=k4 at f2 f3 f4 f5 hS;generalize j2=k5 at f2 f3 f4 f5 hS;by_cases hz:m=0
 ·subst hz;have e256:tmF n t (256-0)=tmF n t 256:=rfl;rw[e256]at hS;obtain⟨s,hs⟩:∃s,tmF n t 256=s:=⟨_,rfl⟩
  rw[hs]at hS⊢;have M0:RG.M w w.heap.size [] 23 [wn n,tw t,RG.z 12,tw s] [k2,k3,k4,k5] [(2,.p 0 0),(3,.p 1 0),(4,.p 2 0),(5,.p 3 0),(6,.v (iZ (-1)))] a _:=⟨hS,sl,⟨f2,f3,f4,f5,f6,trivial⟩⟩
  repeat refine wp_seq ?_
  refine M0.U [.x (iZ (-1)),.x (.bool false)] [4,5,9] ⟨RG.st,RG.st,trivial⟩ ?_;intro a1 w1 M1;repeat refine wp_seq ?_
  refine wp_cond_false M1.ev ?_;refine wp_exit ?_;dsimp only[Exit.then,U5];rw[if_pos rfl];repeat refine wp_seq ?_
  refine M1.T [.x (tv s),.u 2] [] [(2,1,tw s)] [wn n,tw t,tw s,tw s] [4] ⟨RG.ld u56 i56,RG.pt i56,trivial⟩ ?_;intro a2 w2 M2;refine wp_ret ?_;refine bodyPost_ret (v:=tv s) (RG.aE M2.st 4 65 rfl 2 _ rfl (M2.at (s:=(.p 2 0))) u56 i56) M2.sl.defers ?_;exact⟨_,rfl,M2.st.bel.below,rfl⟩
 ·obtain⟨i,rfl⟩:∃i,m=i+1:=⟨m-1,oM⟩
  have hi:i<256:=oM;replace f6:a.tmps[6]? = some (iZ i):=by rw[f6];congr 2;omega
  have ih:=Ay C hn2 h (256-(i+1)) oM;obtain⟨s,hs⟩:∃s,tmF n t (256-(i+1))=s:=⟨_,rfl⟩
  rw[hs]at hS ih;obtain⟨s2,hs2⟩:∃s2,s2=plF s s:=⟨_,rfl⟩
  have hp1:=(ih.plus C ih).1;have ih2:=(ih.plus C ih).2;rw[<-hs2]at hp1 ih2;obtain⟨s3,hs3⟩:∃s3,s3=plF s2 t:=⟨_,rfl⟩
  have hp2:=(ih2.plus C h).1;rw[<-hs3]at hp2;have hstep:tmF n t (256-i)=if n/2^i%2=1 then s3 else s2:=by
   rw[show 256-i=256-(i+1)+1 by omega];show(if n/2^(255-(256-(i+1)))%2=1 then plF (plF (tmF n t (256-(i+1))) (tmF n t (256-(i+1)))) t else plF (tmF n t (256-(i+1))) (tmF n t (256-(i+1))))=_;rw[show 255-(256-(i+1))=i by omega,hs,<-hs2,<-hs3]
  by_cases hb:n/2^i%2=1
  ·rw[if_pos hb]at hstep;have M0:RG.M w w.heap.size [] 23 [wn n,tw t,RG.z 12,tw s] [k2,k3,k4,k5] [(2,.p 0 0),(3,.p 1 0),(4,.p 2 0),(5,.p 3 0),(6,.v (iZ i))] a _:=⟨hS,sl,⟨f2,f3,f4,f5,f6,trivial⟩⟩
   repeat refine wp_seq ?_
   refine M0.U [.x (iZ i),.x (.bool true)] [2,3,4,5,6,9] ⟨RG.st,RG.aG rfl .geq 3 3 8 (iZ i) (iZ 0) (.bool true) rfl rfl RG.sx (λw=>kR) (Qa i),trivial⟩ ?_;intro a1 w1 M1;repeat refine wp_seq ?_
   refine wp_cond_true M1.ev ?_;refine wp_skip ?_;refine wp_seq ?_;refine wp_block ?_;repeat refine wp_seq ?_
   refine M1.T [.x (tv s),.x (tv s),.c (tv s2),.u 3] [] [(3,3,tw s2)] [wn n,tw t,RG.z 12,tw s2] [2,3,4,5,6] ⟨RG.ld u56 i56,RG.ld u56 i56,RG.cl hp1,RG.pt i56,trivial⟩ ?_;intro a2 w2 M2;repeat refine wp_seq ?_
   refine M2.U [.x (nv n),.x (iZ i),.c (uZ 1),.x (.bool true)] [2,3,4,5,6,18] ⟨RG.ld u33 i33,RG.st,RG.cl (NE hn hi hb),RG.st,trivial⟩ ?_;intro a3 w3 M3;repeat refine wp_seq ?_
   refine wp_cond_true M3.ev ?_;repeat refine wp_seq ?_
   refine M3.T [.x (tv s2),.x (tv t),.c (tv s3),.u 3] [] [(3,3,tw s3)] [wn n,tw t,RG.z 12,tw s3] [2,3,4,5,6] ⟨RG.ld u56 i56,RG.ld u56 i56,RG.cl hp2,RG.pt i56,trivial⟩ ?_;intro a4 w4 M4;repeat refine wp_seq ?_
   refine M4.U [.x (iZ i),.x (iZ ((i:Int)-1)),.x (iZ ((i:Int)-1))] [2,3,4,5,6] ⟨RG.st,RG.aG rfl .sub 3 3 10 (iZ i) (iZ 1) (iZ ((i:Int)-1)) rfl rfl RG.sx (λw=>kR) (Pp i oM),RG.st,trivial⟩ ?_;intro a5 w5 M5;have f2_5:a5.tmps[2]? = some (pZ k2):=M5.at (s:=(.p 0 0));have f3_5:a5.tmps[3]? = some (pZ k3):=M5.at (s:=(.p 1 0));have f4_5:a5.tmps[4]? = some (pZ k4):=M5.at (s:=(.p 2 0));have f5_5:a5.tmps[5]? = some (pZ k5):=M5.at (s:=(.p 3 0));have f6_5:a5.tmps[6]? = some (iZ ((i:Int)-1)):=M5.at (s:=(.v (iZ ((i:Int)-1))));show ∃n',_;exact⟨i,Vt i,oM,M5.sl,f2_5,f3_5,f4_5,f5_5,f6_5,by rw[hstep];exact M5.st⟩
  ·rw[if_neg hb]at hstep;have M0:RG.M w w.heap.size [] 23 [wn n,tw t,RG.z 12,tw s] [k2,k3,k4,k5] [(2,.p 0 0),(3,.p 1 0),(4,.p 2 0),(5,.p 3 0),(6,.v (iZ i))] a _:=⟨hS,sl,⟨f2,f3,f4,f5,f6,trivial⟩⟩
   repeat refine wp_seq ?_
   refine M0.U [.x (iZ i),.x (.bool true)] [2,3,4,5,6,9] ⟨RG.st,RG.aG rfl .geq 3 3 8 (iZ i) (iZ 0) (.bool true) rfl rfl RG.sx (λw=>kR) (Qa i),trivial⟩ ?_;intro a1 w1 M1;repeat refine wp_seq ?_
   refine wp_cond_true M1.ev ?_;refine wp_skip ?_;refine wp_seq ?_;refine wp_block ?_;repeat refine wp_seq ?_
   refine M1.T [.x (tv s),.x (tv s),.c (tv s2),.u 3] [] [(3,3,tw s2)] [wn n,tw t,RG.z 12,tw s2] [2,3,4,5,6] ⟨RG.ld u56 i56,RG.ld u56 i56,RG.cl hp1,RG.pt i56,trivial⟩ ?_;intro a2 w2 M2;repeat refine wp_seq ?_
   refine M2.U [.x (nv n),.x (iZ i),.c (uZ 0),.x (.bool false)] [2,3,4,5,6,18] ⟨RG.ld u33 i33,RG.st,RG.cl (NF hn hi hb),RG.st,trivial⟩ ?_;intro a3 w3 M3;repeat refine wp_seq ?_
   refine wp_cond_false M3.ev ?_;refine wp_skip ?_;repeat refine wp_seq ?_
   refine M3.U [.x (iZ i),.x (iZ ((i:Int)-1)),.x (iZ ((i:Int)-1))] [2,3,4,5,6] ⟨RG.st,RG.aG rfl .sub 3 3 10 (iZ i) (iZ 1) (iZ ((i:Int)-1)) rfl rfl RG.sx (λw=>kR) (Pp i oM),RG.st,trivial⟩ ?_;intro a4 w4 M4;have f2_4:a4.tmps[2]? = some (pZ k2):=M4.at (s:=(.p 0 0));have f3_4:a4.tmps[3]? = some (pZ k3):=M4.at (s:=(.p 1 0));have f4_4:a4.tmps[4]? = some (pZ k4):=M4.at (s:=(.p 2 0));have f5_4:a4.tmps[5]? = some (pZ k5):=M4.at (s:=(.p 3 0));have f6_4:a4.tmps[6]? = some (iZ ((i:Int)-1)):=M4.at (s:=(.v (iZ ((i:Int)-1))));show ∃n',_;exact⟨i,Vt i,oM,M4.sl,f2_4,f3_4,f4_4,f5_4,f6_4,by rw[hstep];exact M4.st⟩
end
section
open Go.RowKit Go.Sort Go.Deep
variable {P:Nat}[NeZero P]{N:Nat}
theorem bs1(m:Int)(w:World):(UK 23 1 #[(0,.int .u8 m)]).run prog w=.ok (.slice (some ⟨w.heap.size,0,none⟩) 1 1) (w.alloc (.cells #[.int .u8 m] 5)):=by
 obtain⟨ie,hie,he⟩:=Sf.1 CV;simp only[Ud.injEq]at he;obtain⟨h1,h2,-⟩:=he;exact run_buildSlice w 23 5 1 _ #[.int .u8 m] ie (.int .u8 0) Gu hie h1 (by rw[h2];omega) (by rw[h2];omega) (by rw[h2];kernel_rfl)
theorem str1(m:UInt8)(w:World)(k:Nat)(h:w.rangeAt k 0 [.int .u8 (ub m)]):(convert 23 9 (.slice (some (aZ k)) 1 1)).run prog w=.ok (.string ⟨#[m]⟩) w:=by
 have h2:=run_convert_bytes_back (P:=prog) w 23 9 5 (aZ k) 1 [m] slice22 int5 str9 (λj hj=>by
  obtain rfl:j=0:=by simpa using hj
  have h3:=h 0 _ rfl;have e1:(⟨k,0,none⟩:Addr).add 0=⟨k,0,none⟩:=rfl;rw[e1,h3];simp[ub])
 simpa using h2
theorem Jd(l:List UInt8):beV l<256^l.length:=by
 induction l with
 | nil=>decide
 | cons x r ih =>
  have h:=fA [x] r;rw[show [x]++r=x :: r from rfl]at h;have hx:beV [x]=x.toNat:=by simp[beV]
  have hx2:=x.toNat_lt;rw[h,hx,Tc,Nat.pow_succ,S9 (256^r.length)];have:=Vg (256^r.length) (show x.toNat+1<=256 by omega);rw[Nat.add_mul,Nat.one_mul]at this;omega
theorem Mh:prog.underlying 35=some (.array 33 5):=kR
theorem mO{b:Bs}(h:b.size=33):aA b=[.int .u8 (ub b[0]!),.int .u8 (ub b[1]!),.int .u8 (ub b[2]!),.int .u8 (ub b[3]!),.int .u8 (ub b[4]!),.int .u8 (ub b[5]!),.int .u8 (ub b[6]!),.int .u8 (ub b[7]!),.int .u8 (ub b[8]!),.int .u8 (ub b[9]!),.int .u8 (ub b[10]!),.int .u8 (ub b[11]!),.int .u8 (ub b[12]!),.int .u8 (ub b[13]!),.int .u8 (ub b[14]!),.int .u8 (ub b[15]!),.int .u8 (ub b[16]!),.int .u8 (ub b[17]!),.int .u8 (ub b[18]!),.int .u8 (ub b[19]!),.int .u8 (ub b[20]!),.int .u8 (ub b[21]!),.int .u8 (ub b[22]!),.int .u8 (ub b[23]!),.int .u8 (ub b[24]!),.int .u8 (ub b[25]!),.int .u8 (ub b[26]!),.int .u8 (ub b[27]!),.int .u8 (ub b[28]!),.int .u8 (ub b[29]!),.int .u8 (ub b[30]!),.int .u8 (ub b[31]!),.int .u8 (ub b[32]!)]:=by
 apply We;intro i;by_cases hi:i<33
 ·rw[qK b i oM];match i,hi with
  | 0,_=>rfl
  | 1,_=>rfl
  | 2,_=>rfl
  | 3,_=>rfl
  | 4,_=>rfl
  | 5,_=>rfl
  | 6,_=>rfl
  | 7,_=>rfl
  | 8,_=>rfl
  | 9,_=>rfl
  | 10,_=>rfl
  | 11,_=>rfl
  | 12,_=>rfl
  | 13,_=>rfl
  | 14,_=>rfl
  | 15,_=>rfl
  | 16,_=>rfl
  | 17,_=>rfl
  | 18,_=>rfl
  | 19,_=>rfl
  | 20,_=>rfl
  | 21,_=>rfl
  | 22,_=>rfl
  | 23,_=>rfl
  | 24,_=>rfl
  | 25,_=>rfl
  | 26,_=>rfl
  | 27,_=>rfl
  | 28,_=>rfl
  | 29,_=>rfl
  | 30,_=>rfl
  | 31,_=>rfl
  | 32,_=>rfl
  | n+33,h=>exact absurd h oM
 ·rw[UO (by rw[aH h];omega),UO (by show 33<=i;omega)]
theorem bytes_eq{a b:Bs}(ha:a.size=33)(hb:b.size=33):(∀i∈TD 33,ub a[i]! = ub b[i]!)↔a=b:=by
 constructor
 ·intro h;apply Array.ext (by rw[ha,hb]);intro i h1 h2;have h3:=h i (TM.2 oM);rw[getElem!_pos a i h1,getElem!_pos b i h2]at h3;have h4:a[i].toNat=b[i].toNat:=by unfold ub at h3;omega
  exact UInt8.toNat_inj.1 h4
 ·rintro rfl i _;rfl
theorem Ql{a b:Bs}(ha:a.size=33)(hb:b.size=33)(w:World):(Op.equal 35 (.agg (aA a).toArray) (.agg (aA b).toArray)).run prog w=.ok (decide (a=b)) w:=by
 have hi:(prog.info? 5).isSome=true:=kR;obtain⟨inf,hinf⟩:=SU.1 hi;show(Op.equalIn 10000 35 _ _).run prog w=_;rw[run_equalIn_array w 9999 _ _ Mh hinf,cells5,
  eqI _ _ (λi=>ub a[i]!) (λi=>ub b[i]!) 9998 w (TD 33) (λi hi=>by
   rw[VJ];exact qK a i (by rw[ha];exact TM.1 hi)) (λi hi=>by
   rw[VJ];exact qK b i (by rw[hb];exact TM.1 hi))]
 rw[decide_eq_decide.2 (bytes_eq ha hb)]
theorem EE{b:Bs}(hb:b.size=33)(e:Bool)(w:World):(Instr.checkKey e 10000 35 (.agg (aA b).toArray)).run prog w=.ok () w:=by
 rw[mO hb];kernel_rfl
def at?(b:Bs):List Bs->Nat->Option Nat
 | [],_=>none
 | k :: r,i=>if b=k then some i else at? b r (i+1)
def ents:List Bs->Nat->List MapEntry
 | [],_=>[]
 | k :: r,i=>{ key:=.agg (aA k).toArray,val:=iZ i,born:=i } :: ents r (i+1)
theorem Bw{b:Bs}(hb:b.size=33)(w:World):∀(D:List Bs) (i:Nat),(∀k∈D,k.size=33)->(YQ 35 (.agg (aA b).toArray) (ents D i) i).run prog w=.ok ((at? b D i).map λj=>(j,iZ j)) w
 | [],i,_=>rfl
 | k :: r,i,h=>by
  have ih:=Bw hb w r (i+1) (λx hx=>h x (S8 _ hx));have he:=Ql hb (h k Ti) w;unfold ents YQ at?;simp only[SK,he,Tr];by_cases hk:b=k
  ·simp only[hk,decide_true,if_true,Ux,Option.map_some]
  ·simp only[hk,decide_false,Bool.false_eq_true,if_false,ih]
theorem Em{b:Bs}(hb:b.size=33)(D:List Bs)(h:∀k∈D,k.size=33)(w:World):(Zu 35 (.agg (aA b).toArray) (ents D 0)).run prog w=.ok ((at? b D 0).map λj=>(j,iZ j)) w:=by
 have hu:=run_underlying Mh w;unfold Zu;rw[SK,hu,Tr];cases D with
 | nil=>rfl
 | cons k r =>
  have h1:Instr.findNow (.array 33 5) (.agg (aA b).toArray) (ents (k :: r) 0) 0=none:=rfl;simp only[h1];exact Bw hb w (k :: r) 0 h
theorem at?_none{b:Bs}:∀ {D:List Bs}{i:Nat},at? b D i=none↔b ∉ D
 | [],i=>by simp[at?]
 | k :: r,i=>by
  unfold at?;by_cases h:b=k
  ·simp[h]
  ·simp[h,at?_none (D:=r) (i:=i+1)]
end
section
open Go.RowKit Go.Sort Go.Deep
section
variable {P:Program}{ops:Array Oper}{rest:List Oper}{op:Oper}{a:Act}{w w':World}{v u:Value}{Q:Exit->Act->World->Prop}
theorem aI(hgd:op.guard=none)(T:TypeId)(x:Operand)(ho:op.op=.box T x)(hx:a.eval x=u)(hr:(TF T u).run P w=.ok v w')(h:wpList P ops Q rest (a.put op.dst v) w'):wpList P ops Q (op :: rest) a w:=
 wpList_plain hgd λK hK=>by
  unfold TZ execOp;simp only[ho,hx,SK,hr,Tr,Ux];exact hK _ _ h
end
variable {N:Nat}
theorem eC:(prog.info? 35).map (·.size)=some 33:=kR
theorem uCP:(prog.underlying 35).map (·.isRow)=some true:=kR
theorem yH{a:Bs}(ha:a.size=33)(w:World):(TF 35 (.agg (aA a).toArray)).run prog w=.ok (.pointer (some ⟨w.heap.size,0,none⟩)) (w.alloc (.cells (aA a).toArray 35)):=by
 rw[mO ha];kernel_rfl
theorem QX(k:Nat)(w:World):(VN 35 (pZ k) none none none).run prog w=.ok (.slice (some (aZ k)) 33 33) w:=kR
theorem row_holds{W:World}{k:Nat}{a:Bs}(h:Row W k (aA a)):Holds encB W k 0 a:=cb_holds h.2.1 h.2.2
theorem uG{W:World}{k:Nat}{a:Bs}(ha:a.size=33)(h:Row W k (aA a)):SP.PartOk W (.slice (some (aZ k)) 33 33) a.toList:=
 ⟨_,k,0,33,a,by rw[ha],rfl,oM,oM,SJ ⟨rfl,row_holds h⟩⟩
theorem J2{W:World}{r:Nat}{L:Bs}(h:Holds encB W r 0 L):Holds SP.encB W r 0 L:=h
theorem J1{W:World}{r:Nat}{L:Bs}(h:Holds SP.encB W r 0 L):Holds encB W r 0 L:=h
end
section
open Go.RowKit Go.Sort Go.Deep
variable {P:Nat}[NeZero P]{N:Nat}
theorem MJ(g cg:Nat)(w:World):(Instr.arrayAt 35 (.slice (some (aZ g)) 33 cg)).run prog w=.ok (pZ g) w:=kR
theorem G4{W:World}{k:Nat}{a:Bs}(ha:Holds encB W k 0 a)(hk:k<W.heap.size):Row W k (aA a):=⟨hk,(wO ha).1,(wO ha).2⟩
theorem kJ(a:Bs):(aA a).toArray.all (·.oneCell')=true:=by
 rw[Up];intro v hv;obtain⟨x,-,rfl⟩:=Tq.1 (Vj.1 hv);rfl
def pvl(a:Bs):Value:=.agg (aA a).toArray
end
section
open Go.RowKit Go.Sort Go.Deep
section
variable {P:Program}{ops:Array Oper}{rest:List Oper}{op:Oper}{a:Act}{w w':World}{v:Value}{Q:Exit->Act->World->Prop}
theorem d6(hgd:op.guard=none)(T:TypeId)(parts:Array (Nat × Operand))(ho:op.op=.build T parts)(vs:Array (Nat × Value))(hx:(parts.map λ(i,x)=>(i,a.eval x))=vs)(hr:(VA T vs).run P w=.ok v w')(h:wpList P ops Q rest (a.put op.dst v) w'):wpList P ops Q (op :: rest) a w:=
 wpList_plain hgd λK hK=>by
  unfold TZ execOp;simp only[ho,hx,SK,hr,Tr,Ux];exact hK _ _ h
theorem f9(hgd:op.guard=none)(T:TypeId)(n:Nat)(parts:Array (Nat × Operand))(ho:op.op=.buildSlice T n parts)(vs:Array (Nat × Value))(hx:(parts.map λ(i,x)=>(i,a.eval x))=vs)(hr:(UK T n vs).run P w=.ok v w')(h:wpList P ops Q rest (a.put op.dst v) w'):wpList P ops Q (op :: rest) a w:=
 wpList_plain hgd λK hK=>by
  unfold TZ execOp;simp only[ho,hx,SK,hr,Tr,Ux];exact hK _ _ h
end
theorem Qv{a:Bs}(ha:a.size=33)(n:Nat)(w:World):(VA 128 #[(0,nv n),(1,pvl a)]).run prog w=.ok (.agg (wn n++aA a).toArray) w:=by
 unfold pvl;rw[mO ha];kernel_rfl
theorem Qr{a:Bs}(ha:a.size=33)(n:Nat)(w:World):(UK 57 1 #[(0,.agg (wn n++aA a).toArray)]).run prog w=.ok (.slice (some ⟨w.heap.size,0,none⟩) 1 1) (w.alloc (.cells (wn n++aA a).toArray 128)):=by
 rw[mO ha];kernel_rfl
theorem boxS(n:Nat)(w:World):(TF 43 (nv n)).run prog w=.ok (.pointer (some ⟨w.heap.size,0,none⟩)) (w.alloc (.cells (wn n).toArray 43)):=kR
theorem rE(a:Bs)(ha:a.size=33)(n:Nat)(w:World):Calls prog 29 #[pvl a,nv n] w (rZ w λe w'=>∃k,e=.slice (some (aZ k)) 1 1/\w.heap.size<=k/\Row w' k (wn n++aA a)):=by
 have B1:=Hid.mk' (yH ha w);obtain⟨w1,hw1⟩:=hE (w.alloc (.cells (aA a).toArray 35));rw[hw1.out]at B1;have e1:w1.heap.size=w.heap.size+1:=by rw[<-hw1.out,Sq]
 have B2:=Hid.mk' (boxS n w1);obtain⟨w2,hw2⟩:=hE (w1.alloc (.cells (wn n).toArray 43));rw[hw2.out,e1]at B2;have e2:w2.heap.size=w.heap.size+2:=by rw[<-hw2.out,Sq,e1]
 have B3:=Hid.mk' (Qv ha n w2);have B4:=Hid.mk' (Qr ha n w2);obtain⟨w3,hw3⟩:=hE (w2.alloc (.cells (wn n++aA a).toArray 128));rw[hw3.out,e2]at B4;have K:Hid (Row w2 w.heap.size (aA a)/\Row w2 (w.heap.size+1) (wn n)/\Below w.heap.size w w3/\Row w3 (w.heap.size+2) (wn n++aA a)):=by
  have q1:Row w1 w.heap.size (aA a):=by rw[<-hw1.out];exact aD w _ _
  have q2:Row w2 (w.heap.size+1) (wn n):=by rw[<-hw2.out,<-e1];exact aD w1 _ _
  have q3:Row w3 (w.heap.size+2) (wn n++aA a):=by rw[<-hw3.out,<-e2];exact aD w2 _ _
  have b1:Below w.heap.size w w1:=by rw[<-hw1.out];exact aB w _
  have b2:Below w1.heap.size w1 w2:=by rw[<-hw2.out];exact aB w1 _
  have b3:Below w2.heap.size w2 w3:=by rw[<-hw3.out];exact aB w2 _
  exact⟨q1.below b2,q2,(b1.trans (b2.mono oM)).trans (b3.mono oM),q3⟩
 have HL:Hid ((prog.info? 35).map (·.size)=some (aA a).length):=by show _=_;rw[aH ha];exact eC
 obtain⟨d,hd1,hd2⟩:=Sf.1 uCP;obtain⟨d',hd3,hd4⟩:=Sf.1 u40;have HD:Hid ((prog.underlying 35=some d/\d.isRow=true)/\prog.underlying 43=some d'/\d'.isRow=true):=⟨⟨hd1,hd2⟩,hd3,hd4⟩
 obtain⟨va,hva⟩:=hE (pvl a);obtain⟨vn,hvn⟩:=hE (nv n);obtain⟨vt,hvt⟩:=hE (SX (wn n++aA a).toArray);have B1':Hid ((TF 35 va).run prog w=.ok (.pointer (some ⟨w.heap.size,0,none⟩)) w1):=by rw[<-hva.out];exact B1
 rw[hvn.out]at B2;rw[hva.out,hvn.out,hvt.out]at B3;rw[hvt.out]at B4;rw[hva.out,hvn.out];go_enter Tryz.func29,Tryz.ntmps29;go_wp2_with (first|(refine aI (u:=va) (v:=.pointer (some ⟨w.heap.size,0,none⟩)) (w':=w1) rfl 35 (.tmp 0) rfl ?_ ?_ ?_;rfl;exact B1'.out)|(refine aI (u:=vn) (v:=.pointer (some ⟨w.heap.size+1,0,none⟩)) (w':=w2) rfl 43 (.tmp 1) rfl ?_ ?_ ?_;rfl;exact B2.out)|(refine wpList_load_mid rfl 43 _ rfl (w.heap.size+1) 0 ?_ (wn n) d' ?_ ?_ ?_ ?_ ?_;rfl;exact K.2.1.2.1;exact HD.2.1;exact HD.2.2;exact i40;rw[show SX (wn n).toArray=vn from hvn.out])|(refine wpList_load_mid rfl 35 _ rfl w.heap.size 0 ?_ (aA a) d ?_ ?_ ?_ ?_ ?_;rfl;exact K.1.2.1;exact HD.1.1;exact HD.1.2;exact HL.out;rw[show SX (aA a).toArray=va from hva.out])|(refine d6 (v:=vt) (w':=w2) rfl 128 _ rfl #[(0,vn),(1,va)] ?_ ?_ ?_;kernel_rfl;exact B3.out)|(refine f9 (v:=.slice (some ⟨w.heap.size+2,0,none⟩) 1 1) (w':=w3) rfl 57 1 _ rfl #[(0,vt)] ?_ ?_ ?_;kernel_rfl;exact B4.out))
 go_ret;exact⟨_,rfl,K.2.2.1,w.heap.size+2,rfl,oM,K.2.2.2⟩
end
section
open Go.RowKit Go.Sort Go.Deep
variable {P:Nat}[NeZero P]{N:Nat}
theorem RS{a:Bs}(ha:a.size=33)(n:Nat)(w:World):(TF 128 (.agg (wn n++aA a).toArray)).run prog w=.ok (.pointer (some ⟨w.heap.size,0,none⟩)) (w.alloc (.cells (wn n++aA a).toArray 128)):=by
 rw[mO ha];kernel_rfl
theorem RV(w:World):(VA 43 #[]).run prog w=.ok (nv 0) w:=kR
def tvl(n:Nat)(a:Bs):Value:=.agg (wn n++aA a).toArray
theorem jJ{W:World}{k:Nat}{xs ys:List Value}(h:W.rangeAt k 0 (xs++ys)):W.rangeAt k 0 xs:=λj v hj=>h j v (by rw[Ty (SI.1 hj).1];exact hj)
theorem kV{W:World}{k:Nat}{xs ys:List Value}(h:W.rangeAt k 0 (xs++ys)):W.rangeAt k xs.length ys:=λj v hj=>by
 have:=h (xs.length+j) v (by rw[Ut (Wn _ _),Nat.add_sub_cancel_left];exact hj);rwa[Sj]at this
theorem Ig{n:Nat}(hn:n<top){a:Bs}(ha:a.size=33):Gives 116 #[tvl n a] (.bool (decide (n=0))):=by
 intro w;have B1:=Hid.mk' (RS ha n w);obtain⟨w1,hw1⟩:=hE (w.alloc (.cells (wn n++aA a).toArray 128));rw[hw1.out]at B1;have K:Hid (Row w1 w.heap.size (wn n++aA a)/\Below w.heap.size w w1):=by rw[<-hw1.out];exact⟨aD w _ _,aB w _⟩
 obtain⟨d',hd3,hd4⟩:=Sf.1 u40;have HD:=mk2 hd3 hd4;obtain⟨va,hva⟩:=hE (tvl n a);obtain⟨vn,hvn⟩:=hE (nv n);obtain⟨v0,hv0⟩:=hE (nv 0);have B1':Hid ((TF 128 va).run prog w=.ok (.pointer (some ⟨w.heap.size,0,none⟩)) w1):=by rw[<-hva.out];exact B1
 have B2:Hid ((VA 43 #[]).run prog w1=.ok v0 w1):=by rw[<-hv0.out];exact RV w1
 have B3:=Hid.mk' (eqS hn (show 0<top by unfold top;omega) w1);rw[hvn.out,hv0.out]at B3;have hq:=B3.out;obtain⟨z,hz⟩:=hE (decide (n=0));rw[hz.out]at hq;have hg:(eqGuard .eql 43 (.tmp 4) (.tmp 5) vn v0).run prog w1=.ok () w1:=by rw[<-hvn.out,<-hv0.out];kernel_rfl
 rw[hva.out,hz.out];clear B1 B3;go_enter Tryz.func116,Tryz.ntmps116;go_wp2_with (first|(refine aI (u:=va) (v:=.pointer (some ⟨w.heap.size,0,none⟩)) (w':=w1) rfl 128 (.tmp 0) rfl ?_ ?_ ?_;rfl;exact B1'.out)|(refine wpList_load_mid rfl 43 _ rfl w.heap.size 0 ?_ (wn n) d' ?_ ?_ ?_ ?_ ?_;rfl;exact jJ K.1.2.1;exact HD.1;exact HD.2;exact i40;rw[show SX (wn n).toArray=vn from hvn.out])|(refine d6 (v:=v0) (w':=w1) rfl 43 _ rfl #[] ?_ ?_ ?_;kernel_rfl;exact B2.out))
 go_wp2;go_ret;exact⟨_,rfl,K.2,rfl⟩
theorem uT:(prog.underlying 128).map (·.isRow)=some true:=kR
theorem iT:(prog.info? 128).map (·.size)=some 37:=kR
theorem atT(k o n c i:Nat)(hi:i<n)(w:World):(To 57 (.slice (some ⟨k,o,none⟩) n c) (iZ i)).run prog w=.ok (.pointer (some ⟨k,o+37*i,none⟩)) w:=by
 go_simp
def jV(ns:Nat->Nat):Nat->Nat->Int
 | _,0=>-1
 | i,m+1=>if ns i=0 then(i:Int) else jV ns (i+1) m
def MS(b:Bool):List RG.It:=[.x 9 [] (.bool b)]
def MR(g k c i n:Nat)(a:Bs)(z:Bool):List RG.It:=[.x 11 [] (.func (.func 116) #[] #[]),.x 12 [] (.slice (some (aZ g)) k c),.x 13 [] (iZ i),.x 14 [(12,1),(13,2)] (.pointer (some ⟨g,(0+37*i),none⟩)),.x 15 [(14,3)] (tvl n a),.c 16 [(11,0),(15,4)] (.bool z)]
theorem En(g k c:Nat)(hk:k<=1000000)(ns:Nat->Nat)(az:Nat->Bs)(hn:∀j,j<k->ns j<top)(ha:∀j,j<k->(az j).size=33)(w:World)(hg:g<w.heap.size)(hr:∀j,j<k->w.rangeAt g (37*j) (wn (ns j)++aA (az j))):
 Calls prog 143 #[.slice (some (aZ g)) k c,.func (.func 116) #[] #[]] w (rZ w λe w'=>e=iZ (jV ns 0 k)):=by
 obtain⟨R,hR⟩:∃R,jV ns 0 k=R:=⟨_,rfl⟩
 rw[hR];go_enter Tryz.func143,Tryz.ntmps143;refine RG.M.enter [(0,.v (.slice (some (aZ g)) k c)),(1,.v (.func (.func 116) #[] #[]))] 19 kR ?_;intro a0 M0;repeat refine wp_seq ?_
 refine M0.U [.x (iZ 0)] [0,1] ⟨RG.st,trivial⟩ ?_;intro a1 w1 M1;repeat refine wp_seq ?_
 refine M1.U [.x (.slice (some (aZ g)) k c),.x (iZ k),.x (iZ 0)] [0,1,7,8] ⟨RG.st,RG.st,RG.st,trivial⟩ ?_;intro a2 w2 M2;repeat refine wp_seq ?_
 refine wp_block ?_;refine wp_loop_ghost (λm a wr=>∃i:Nat,i+m=k/\jV ns i m=R/\RG.M w w.heap.size [] 19 [] [] [(0,.v (.slice (some (aZ g)) k c)),(1,.v (.func (.func 116) #[] #[])),(7,.v (iZ k)),(8,.v (iZ i))] a wr) k ⟨0,oM,hR,M2⟩ ?_;intro m' a wr;rintro⟨i,him,hf,M20⟩;by_cases hi:i<k
 ·obtain⟨n,hne⟩:∃n,ns i=n:=⟨_,rfl⟩
  obtain⟨b,hbe⟩:∃b,az i=b:=⟨_,rfl⟩
  have hnt:=hn i hi;have hbs:=ha i hi;have hri:=hr i hi;rw[hne]at hnt hri;rw[hbe]at hbs hri;have hri':w.rangeAt g (0+37*i) (wn n++aA b):=by rw[Sj];exact hri
  have hlen:(prog.info? 128).map (·.size)=some (wn n++aA b).length:=by rw[Su,aH hbs];exact iT
  have hz:=Ig hnt hbs;obtain⟨m2,rfl⟩:∃m2,m'=m2+1:=⟨m'-1,oM⟩
  unfold jV at hf;rw[hne]at hf;repeat refine wp_seq ?_
  refine M20.u (MS true) [(0,.v (.slice (some (aZ g)) k c)),(1,.v (.func (.func 116) #[] #[])),(7,.v (iZ k)),(8,.v (iZ i)),(9,.v (.bool true))] ⟨RG.aK rfl .lss 3 3 8 7 (iZ i) (iZ k) (.bool true) rfl rfl RG.sx RG.sx (λw=>kR) (eN hi),trivial⟩ ?_;intro a21 w21 M21;repeat refine wp_seq ?_
  refine wp_cond_true M21.ev ?_;refine wp_skip ?_;refine wp_seq ?_;refine wp_block ?_;repeat refine wp_seq ?_
  refine M21.U [.x (iZ i),.x (iZ i)] [0,1,7,8,5] ⟨RG.st,RG.st,trivial⟩ ?_;intro a22 w22 M22;repeat refine wp_seq ?_
  by_cases h0:n=0
  ·rw[decide_eq_true h0]at hz;rw[if_pos h0]at hf;refine M22.u (MR g k c i n b true) [(0,.v (.slice (some (aZ g)) k c)),(1,.v (.func (.func 116) #[] #[])),(7,.v (iZ k)),(8,.v (iZ i)),(5,.v (iZ i)),(16,.v (.bool true))] ⟨RG.st,RG.st,RG.st,RG.aY rfl 57 12 13 rfl (.v (.slice (some (aZ g)) k c)) (iZ i) RG.sx RG.sx (λμ w=>atT _ 0 _ _ i hi w),RG.eD rfl g (0+37*i) hg SL 128 14 rfl (wn n++aA b) rfl RG.sx hri' uT hlen,RG.clB (λ_ _=>kR) (λw' _=>hz w'),trivial⟩ ?_;intro a23 w23 M23;repeat refine wp_seq ?_
   refine wp_cond_true M23.ev ?_;repeat refine wp_seq ?_
   refine M23.U [.x (iZ i),.x (iZ i)] [4] ⟨RG.st,RG.st,trivial⟩ ?_;intro a24 w24 M24;refine wp_ret ?_;refine bodyPost_ret (v:=iZ i) (RG.cK 4 rfl (iZ i) M24.av) M24.sl.defers ?_;exact⟨_,rfl,M24.st.bel.below,by rw[hf]⟩
  ·rw[decide_eq_false h0]at hz;rw[if_neg h0]at hf;refine M22.u (MR g k c i n b false) [(0,.v (.slice (some (aZ g)) k c)),(1,.v (.func (.func 116) #[] #[])),(7,.v (iZ k)),(8,.v (iZ i)),(16,.v (.bool false))] ⟨RG.st,RG.st,RG.st,RG.aY rfl 57 12 13 rfl (.v (.slice (some (aZ g)) k c)) (iZ i) RG.sx RG.sx (λμ w=>atT _ 0 _ _ i hi w),RG.eD rfl g (0+37*i) hg SL 128 14 rfl (wn n++aA b) rfl RG.sx hri' uT hlen,RG.clB (λ_ _=>kR) (λw' _=>hz w'),trivial⟩ ?_;intro a23 w23 M23;repeat refine wp_seq ?_
   refine wp_cond_false M23.ev ?_;refine wp_skip ?_;repeat refine wp_seq ?_
   refine M23.U [.x (iZ ((i+1:Nat):Int)),.x (iZ ((i+1:Nat):Int))] [0,1,7,8] ⟨RG.aG rfl .add 3 3 8 (iZ i) (iZ 1) (iZ ((i+1:Nat):Int)) rfl rfl RG.sx (λw=>kR) (qM i 1 oM oM),RG.st,trivial⟩ ?_;intro a24 w24 M24;show ∃n',_;exact⟨m2,oM,i+1,oM,hf,M24⟩
 ·have hik:m'=0:=oM;rw[hik]at hf;unfold jV at hf;repeat refine wp_seq ?_
  refine M20.u (MS false) [(9,.v (.bool false))] ⟨RG.aK rfl .lss 3 3 8 7 (iZ i) (iZ k) (.bool false) rfl rfl RG.sx RG.sx (λw=>kR) (lD hi),trivial⟩ ?_;intro a21 w21 M21;repeat refine wp_seq ?_
  refine wp_cond_false M21.ev ?_;refine wp_exit ?_;dsimp only[Exit.then,U5];rw[if_pos rfl];repeat refine wp_seq ?_
  refine M21.U [.x (iZ (-1))] [4] ⟨RG.st,trivial⟩ ?_;intro a22 w22 M22;refine wp_ret ?_;refine bodyPost_ret (v:=iZ (-1)) (RG.cK 4 rfl (iZ (-1)) M22.av) M22.sl.defers ?_;exact⟨_,rfl,M22.st.bel.below,by rw[<-hf]⟩
theorem sS{ns:Nat->Nat}:∀(m i:Nat),(∀j,i<=j->j<i+m->ns j≠0)->jV ns i m = -1
 | 0,_,_=>rfl
 | m+1,i,h=>by
  unfold jV;rw[if_neg (h i (Se _) oM)];exact sS m (i+1) (λj h1 h2=>h j oM oM)
theorem Bz(g k c:Nat)(hk:k<=1000000)(ns:Nat->Nat)(az:Nat->Bs)(hn:∀j,j<k->ns j<top)(hn0:∀j,j<k->ns j≠0)(ha:∀j,j<k->(az j).size=33)(w:World)(hg:g<w.heap.size)(hr:∀j,j<k->w.rangeAt g (37*j) (wn (ns j)++aA (az j))):
 Calls prog 115 #[.slice (some (aZ g)) k c,.func (.func 116) #[] #[]] w (rZ w λe w'=>e=(.slice (some (aZ g)) k c)):=by
 have hI:∀w',RG.BelX w.heap.size [] w w'->Calls prog 143 #[.slice (some (aZ g)) k c,.func (.func 116) #[] #[]] w' (Ret λe w''=>Below w'.heap.size w' w''/\e=iZ (-1)):=λw' hb=>by
  have h:=En g k c hk ns az hn ha w' (Si hg hb.below.size) (λj hj=>RG.range_below (hr j hj) hb.below hg);rw[sS k 0 (λj _ h2=>hn0 j oM)]at h;exact h
 go_enter Tryz.func115,Tryz.ntmps115;refine RG.M.enter [(0,.v (.slice (some (aZ g)) k c)),(1,.v (.func (.func 116) #[] #[]))] 42 kR ?_;intro a0 M0;repeat refine wp_seq ?_
 refine M0.U [.x (.slice none 0 0)] [0,1] ⟨RG.st,trivial⟩ ?_;intro a1 w1 M1;repeat refine wp_seq ?_
 refine M1.U [.x (.slice (some (aZ g)) k c),.x (.func (.func 116) #[] #[]),.c (iZ (-1)),.x (iZ (-1))] [0,5] ⟨RG.st,RG.st,RG.clB (λ_ _=>kR) hI,RG.st,trivial⟩ ?_;intro a2 w2 M2;repeat refine wp_seq ?_
 refine M2.U [.x (iZ (-1)),.x (.bool true)] [0,12] ⟨RG.st,RG.st,trivial⟩ ?_;intro a3 w3 M3;repeat refine wp_seq ?_
 refine wp_cond_true M3.ev ?_;repeat refine wp_seq ?_
 refine M3.U [.x (.slice (some (aZ g)) k c),.x (.slice (some (aZ g)) k c)] [4] ⟨RG.st,RG.st,trivial⟩ ?_;intro a4 w4 M4;refine wp_ret ?_;refine bodyPost_ret (v:=(.slice (some (aZ g)) k c)) (RG.cK 4 rfl _ M4.av) M4.sl.defers ?_;exact⟨_,rfl,M4.st.bel.below,rfl⟩
theorem Pe:prog.underlying 174=some (.map 35 3):=kR
theorem zero3(w:World):(zeroValue 3).run prog w=.ok (iZ 0) w:=kR
theorem yF(b:Bs):∀(D:List Bs) (i:Nat),ents (D++[b]) i=ents D i++[{ key:=.agg (aA b).toArray,val:=iZ ((i+D.length:Nat):Int),born:=i+D.length }]
 | [],i=>rfl
 | k :: r,i=>by
  rw[List.cons_append];unfold ents;rw[yF b r (i+1),Tc,show i+1+r.length=i+(r.length+1) by omega];rfl
theorem Ba{b:Bs}(hb:b.size=33)(D:List Bs)(hD:∀k∈D,k.size=33)(m clock:Nat)(w:World)(hm:w.heap[m]? = some (.map (ents D 0).toArray clock)):
 (XX 174 (.map (some m)) (.agg (aA b).toArray) true).run prog w=.ok (.tuple #[iZ (((at? b D 0).getD 0:Nat):Int),.bool (at? b D 0).isSome]) w:=by
 have h1:=run_underlying Pe w;have h2:=λe=>EE hb e w
 have h3:=Em hb D hD w;have h4:(getObj m).run prog w=.ok (.map (ents D 0).toArray clock) w:=by
  simp[getObj,ZO,hm]
 unfold XX;simp only[SK,h1,Tr,h4,Ux,h2,h3];cases h:at? b D 0 with
 | none=>simp[SK,zero3]
 | some j=>simp
theorem JO{b:Bs}(hb:b.size=33)(D:List Bs)(hD:∀k∈D,k.size=33)(m:Nat)(w:World)(hm:w.heap[m]? = some (.map (ents D 0).toArray D.length))(hn:at? b D 0=none):
 (Wk 174 (.map (some m)) (.agg (aA b).toArray) (iZ (D.length:Int))).run prog w=.ok () (w.putObj m (.map (ents (D++[b]) 0).toArray (D.length+1))):=by
 have h1:=run_underlying Pe w;have h2:=λe=>EE hb e w
 have h3:=Em hb D hD w;rw[hn]at h3;have h4:(getObj m).run prog w=.ok (.map (ents D 0).toArray D.length) w:=by
  simp[getObj,ZO,hm]
 unfold Wk;simp only[SK,h1,Tr,h4,Ux,h2,h3];rw[yF,Sj];simp[setObj,ZO,hm,XV]
theorem BW:prog.underlying 57=some (.slice 128):=kR
theorem P0:(prog.info? 128).map (λi=>(i.size,i.bytes,i.zero.map λz=>z.cells.size))=some (37,72,some 37):=kR
theorem cells_one(n:Nat)(a:Bs):∀u∈wn n++aA a,u.oneCell'=true:=by
 intro u hu;rcases UT.1 hu with h|h
 ·unfold wn at h;simp only[TP,SL,or_false]at h;rcases h with rfl|rfl|rfl|rfl<;>rfl
 ·obtain⟨x,-,rfl⟩:=Tq.1 h;rfl
theorem Jk{base k g n:Nat}{v:Value}{xs:List Value}{a:Bs}(ha:a.size=33){W:World}(hown:W.ownsRow base 128 37 v k xs)(hR:Row W g (wn n++aA a))(hk:k<=1000000)(hb:base<=W.heap.size):
 ∃v' W',(UG #[57,57] 57 #[v,.slice (some (aZ g)) 1 1]).run prog W=.ok v' W'/\W'.ownsRow base 128 37 v' (k+1) (xs++(wn n++aA a))/\W.grownBy W' v.ownBlock:=by
 obtain⟨i,hi,he⟩:=Sf.1 P0;simp only[Ud.injEq]at he;obtain⟨h1,h2,h3⟩:=he;obtain⟨z,hz,hz2⟩:=Sf.1 h3;obtain⟨v',W',r1,r2,r3,-⟩:=run_append_own (P:=prog) W base 57 57 128 i z 37 72 BW hi hz h1 h2 hz2 dC v k xs hown (aZ g) 1 1 (wn n++aA a) (by rw[Su,aH ha];rfl)
  (λj u hj=>by
   have:=hR.2.1 j u hj;rw[Sj]at this;rw[show(⟨g,0,none⟩:Addr).add j=⟨g,j,none⟩ by unfold Vw;split<;>simp_all];exact this) (cells_one n a) (by unfold maxLen;omega) oM hb
 exact⟨v',W',r1,r2,r3⟩
def fB(N:Nat):List (Nat × Bs)->Nat->Bs->List (Nat × Bs)
 | [],n,p=>[(n,p)]
 | (s,q) :: r,n,p=>if p=q then(sPl N s n,q) :: r else(s,q) :: fB N r n p
def mrg(N:Nat)(ns:Nat->Nat)(az:Nat->Bs):Nat->List (Nat × Bs)
 | 0=>[]
 | i+1=>fB N (mrg N ns az i) (ns i) (az i)
def aO(l:List (Nat × Bs)):List Value:=l.flatMap λx=>wn x.1++aA x.2
theorem BN{N n:Nat}{p:Bs}:∀ {l:List (Nat × Bs)},at? p (l.map (·.2)) 0=none->fB N l n p=l++[(n,p)]
 | [],_=>rfl
 | (s,q) :: r,h=>by
  have h2:=at?_none.1 h;rw[UJ,TP,not_or]at h2;unfold fB;rw[if_neg h2.1,BN (l:=r) (at?_none.2 h2.2)];rfl
theorem BG(l:List (Nat × Bs))(n:Nat)(p:Bs):aO (l++[(n,p)])=aO l++(wn n++aA p):=by
 unfold aO;rw[List.flatMap_append];simp
structure Mx(w W:World)(m:Nat)(l:List (Nat × Bs))(v:Value):Prop where
 bl:Below w.heap.size w W
 mp:W.heap[m]? = some (.map (ents (l.map (·.2)) 0).toArray l.length)
 lm:w.heap.size<=m
 ow:W.ownsRow w.heap.size 128 37 v l.length (aO l)
theorem Mx.own_ne{w W:World}{m:Nat}{l:List (Nat × Bs)}{v:Value}(h:Mx w W m l v){g:Nat}(hg:v.ownBlock=some g):g≠m/\w.heap.size<=g/\g<W.heap.size:=by
 rcases h.ow.2 with⟨rfl,-⟩|⟨g',cap,cur,rfl,h1,h2,-⟩
 ·cases hg
 ·obtain rfl:g'=g:=by simpa[Value.ownBlock]using hg
  refine⟨λe=>?_,h1,(SZ.1 h2).1⟩;have:=h.mp;rw[<-e,h2]at this;cases this
theorem rK{W W':World}{base k:Nat}{e:TypeId}{s:Nat}{v:Value}{xs:List Value}(h:W.ownsRow base e s v k xs)(hk:∀g,v.ownBlock=some g->W'.heap[g]? = W.heap[g]?):W'.ownsRow base e s v k xs:=by
 refine⟨h.1,?_⟩;rcases h.2 with h2|⟨g,cap,cur,rfl,h1,h2,h3⟩
 ·exact SY h2
 ·exact SJ ⟨g,cap,cur,rfl,h1,by rw[hk g rfl];exact h2,h3⟩
theorem Mx.kept{w W W':World}{m:Nat}{l:List (Nat × Bs)}{v:Value}(h:Mx w W m l v)(hb:Below W.heap.size W W'):Mx w W' m l v:=
 ⟨h.bl.trans (hb.mono h.bl.size),by rw[hb.block m (SZ.1 h.mp).1];exact h.mp,h.lm,rK h.ow λg hg=>hb.block g (h.own_ne hg).2.2⟩
theorem IR(l:List (Nat × Bs))(n:Nat)(p:Bs):(l++[(n,p)]).map (·.2)=l.map (·.2)++[p]:=by simp
theorem Mx.push{w W:World}{m:Nat}{l:List (Nat × Bs)}{v:Value}(h:Mx w W m l v){p:Bs}(hp:p.size=33)(hk:l.length<=1000000)(n:Nat):
 ∃v' W5x,(UG #[57,57] 57 #[v,.slice (some ⟨W.heap.size,0,none⟩) 1 1]).run prog ((W.putObj m (.map (ents (l.map (·.2)++[p]) 0).toArray (l.length+1))).alloc (.cells (wn n++aA p).toArray 128))=.ok v' W5x/\Mx w W5x m (l++[(n,p)]) v'/\W.heap.size<W5x.heap.size/\∀j,j<W.heap.size->w.heap.size<=j->j≠m->some j≠v.ownBlock->W5x.heap[j]? = W.heap[j]?:=by
 obtain⟨W3,h3⟩:∃W3,W.putObj m (.map (ents (l.map (·.2)++[p]) 0).toArray (l.length+1))=W3:=⟨_,rfl⟩
 have s3:W3.heap.size=W.heap.size:=by rw[<-h3];simp[XV]
 have hmW:=(SZ.1 h.mp).1;have o3:∀j,j≠m->W3.heap[j]? = W.heap[j]?:=λj hj=>by rw[<-h3];exact World.putObj_heap_other hj
 have b3:=h.bl.trans ⟨by rw[<-h3];rfl,by rw[<-h3];rfl,by rw[<-h3];rfl,oM,λj hj=>o3 j (by have:=h.lm;omega)⟩;have w3:=rK h.ow λg hg=>o3 g (h.own_ne hg).1
 have m3:W3.heap[m]? = some (.map (ents (l.map (·.2)++[p]) 0).toArray (l.length+1)):=by rw[<-h3];exact World.putObj_heap_same hmW
 rw[h3];have R4:=aD W3 (wn n++aA p) 128;have b4:=aB W3 (.cells (wn n++aA p).toArray 128);have s4:(W3.alloc (.cells (wn n++aA p).toArray 128)).heap.size=W.heap.size+1:=by rw[Sq,s3]
 have w4:=rK w3 λg hg=>b4.block g (by have:=(h.own_ne hg).2.2;omega)
 rw[s3]at R4;obtain⟨v',W5x,r1,r2,r3⟩:=Jk hp w4 R4 hk (by have:=b3.size;omega);have hm5:some m≠v.ownBlock:=λe=>(h.own_ne e.symm).1 rfl
 refine⟨v',W5x,r1,⟨?_,?_,h.lm,?_⟩,by have:=r3.size;omega,λj hj _ hjm hjo=>?_⟩
 ·exact(b3.trans (b4.mono b3.size)).grown r3 (by have:=b3.size;omega) (λk e=>(h.own_ne e).2.1)
 ·rw[r3.block m oM hm5,b4.block m oM,m3,IR,Su];rfl
 ·rw[BG,Su];exact r2
 ·rw[r3.block j oM hjo,b4.block j oM,o3 j hjm]
end
section
open Go.RowKit Go.Sort Go.Deep
variable {N:Nat}
section
variable {P:Program}{ops:Array Oper}{rest:List Oper}{op:Oper}{a:Act}{w w':World}{v x y z:Value}{Q:Exit->Act->World->Prop}
theorem xJ(hgd:op.guard=none)(T:TypeId)(m k:Operand)(ok:Bool)(ho:op.op=.lookup T m k ok)(hm:a.eval m=x)(hk:a.eval k=y)(hr:(XX T x y ok).run P w=.ok v w')(h:wpList P ops Q rest (a.put op.dst v) w'):wpList P ops Q (op :: rest) a w:=
 wpList_plain hgd λK hK=>by
  unfold TZ execOp;simp only[ho,hm,hk,SK,hr,Tr,Ux];exact hK _ _ h
theorem E2(hgd:op.guard=none)(T:TypeId)(m k u:Operand)(ho:op.op=.mapUpdate T m k u)(hm:a.eval m=x)(hk:a.eval k=y)(hu:a.eval u=z)(hr:(Wk T x y z).run P w=.ok () w')(h:wpList P ops Q rest (a.put op.dst undef) w'):wpList P ops Q (op :: rest) a w:=
 wpList_plain hgd λK hK=>by
  unfold TZ execOp;simp only[ho,hm,hk,hu,SK,hr,Tr,Ux];exact hK _ _ h
theorem iN(hgd:op.guard=none)(s u:Operand)(t:TypeId)(ho:op.op=.call { callee:=.builtin .append,args:=#[s,u],argTypes:=#[t,t] })(hs:a.eval s=x)(hu:a.eval u=y)(hr:(UG #[t,t] op.type #[x,y]).run P w=.ok v w')(h:wpList P ops Q rest (a.put op.dst v) w'):wpList P ops Q (op :: rest) a w:=
 wpList_plain hgd λK hK=>by
  unfold TZ execOp;simp only[ho,resolve,invoke,builtin,SK,Ux,Tr,Xv,UJ,Yk,hs,hu,hr];exact hK _ _ h
end
def zT:List Value:=[uZ 0,uZ 0,uZ 0,uZ 0]++z33
theorem Ft{W:World}{base k:Nat}{e:TypeId}{s:Nat}{v:Value}{xs:List Value}(h:W.ownsRow base e s v k xs):∃q cap,v=.slice q k cap:=by
 rcases h.2 with⟨rfl,rfl⟩|⟨g,cap,cur,rfl,-⟩
 ·exact⟨none,0,rfl⟩
 ·exact⟨some (aZ g),cap,rfl⟩
theorem zO(ns:Nat->Nat)(az:Nat->Bs):∀i,(mrg N ns az i).length<=i
 | 0=>Se _
 | i+1=>by
  have ih:=zO ns az i;have h:∀(l:List (Nat × Bs)) n p,(fB N l n p).length<=l.length+1:=by
   intro l n p;induction l with
   | nil=>exact Se _
   | cons x r ihr =>
    unfold fB;split
    ·simp
    ·simp only[Tc];omega
  exact SD (h _ _ _) oM
theorem vC(ns:Nat->Nat)(az:Nat->Bs){k:Nat}(ha:∀j,j<k->(az j).size=33):∀i,i<=k->∀x∈(mrg N ns az i).map (·.2),x.size=33
 | 0,_=>λx hx=>by cases hx
 | i+1,hi=>by
  have ih:=vC ns az ha i oM;have h:∀(l:List (Nat × Bs)) n p,p.size=33->(∀x∈l.map (·.2),x.size=33)->∀x∈(fB N l n p).map (·.2),x.size=33:=by
   intro l n p hp;induction l with
   | nil=>intro _ x hx;simp[fB]at hx;rw[hx];exact hp
   | cons y r ihr =>
    intro hl x hx;unfold fB at hx;split at hx
    ·exact hl x (by simpa using hx)
    ·rw[UJ,TP]at hx;rcases hx with hx|hx
     ·exact hl x (by rw[hx];simp)
     ·exact ihr (λz hz=>hl z (S8 _ hz)) x hx
  exact h _ _ _ (ha i oM) ih
theorem kH:∀(l:List (Nat × Bs)),(∀x∈l.map (·.2),x.size=33)->∀(j:Nat) (hj:j<l.length) (t:Nat),t<37->(aO l)[37*j+t]? = (wn (l[j]).1++aA (l[j]).2)[t]?
 | [],_,j,hj,_,_=>by cases hj
 | x :: r,hs,j,hj,t,ht=>by
  have hx:(wn x.1++aA x.2).length=37:=by rw[Su,aH (hs x.2 (by simp))];rfl
  have e:aO (x :: r)=(wn x.1++aA x.2)++aO r:=by unfold aO;rw[YN]
  rw[e];cases j with
  | zero =>
   rw[Nat.mul_zero,Sj,Ty oM];rfl
  | succ j =>
   rw[Ut oM,hx,show 37*(j+1)+t-37=37*j+t by omega,kH r (λy hy=>hs y (S8 _ hy)) j (by simpa using hj) t ht];rfl
theorem rJ{W:World}{base:Nat}{v:Value}{l:List (Nat × Bs)}(h:W.ownsRow base 128 37 v l.length (aO l))(hs:∀x∈l.map (·.2),x.size=33)(hl:0<l.length):
 ∃g cap,v=.slice (some (aZ g)) l.length cap/\base<=g/\g<W.heap.size/\∀j (hj:j<l.length),W.rangeAt g (37*j) (wn (l[j]).1++aA (l[j]).2):=by
 have h0:=h;rcases h.2 with⟨-,h2⟩|⟨g,cap,cur,rfl,h1,h2,h3⟩
 ·omega
 ·refine⟨g,cap,rfl,h1,(SZ.1 h2).1,λj hj t u hu=>?_⟩;have ht:t<37:=by
   have:=(SI.1 hu).1;rw[Su,aH (hs _ (Tq.2 ⟨_,Tu hj,rfl⟩))]at this;exact this
  have hc:=h0.cells (g:=g) rfl (37*j+t) u (by rw[kH l hs j hj t ht];exact hu);have e:(⟨g,0,none⟩:Addr).add (37*j+t)=⟨g,37*j+t,none⟩:=by
   unfold Vw;split
   ·rename_i h;rw[h]
   ·simp
  rw[e]at hc;exact hc
end
section
open Go.RowKit Go.Sort Go.Deep
variable {P:Nat}[NeZero P]{N:Nat}
theorem MU(w:World):(zeroValue 128).run prog w=.ok (.agg zT.toArray) w:=kR
theorem MV:∀v∈zT,v.oneCell'=true:=by
 intro v hv;unfold zT z33 at hv;rcases UT.1 hv with h|h
 ·simp only[TP,SL,or_false]at h;rcases h with rfl|rfl|rfl|rfl<;>rfl
 ·rw[(List.mem_replicate.1 h).2];rfl
end
namespace RG
open Go Go.RowKit
variable {P:Program}{ops:Array Oper}{Q:Exit->Act->World->Prop}{w:World}{a0:Act}{L:Array Bool}
structure Flow where
 R:Nat->Value->World->Prop
 B:Nat->World->Prop
 E:Nat->World->World->Prop
 kill:Nat->List Nat
 killB:Nat->List Nat
def bC(ops:Array Oper)(i:Nat):Option Tmp:=(ops[i]?).bind (·.dst)
def depOn(ops:Array Oper)(x k:Nat):Bool:=match ops[x]? with|some o=>bU o k|none=>true
def okK(ops:Array Oper)(k:Nat)(l:List Nat):Bool:=l.all (λx=>x == k || depOn ops x k)
def nN(ops:Array Oper)(k:Nat)(t:Tmp):Bool:=(TD ops.size).all (λi=>bC ops i != some t || i == k || depOn ops i k)
structure InvF(F:Flow)(ops:Array Oper)(a0:Act)(L:Array Bool)(a:Act)(w:World):Prop where
 size:L.size=ops.size
 cl:∀(i:Nat) (o:Oper),ops[i]? = some o->on L i=true->∀e∈o.after,TR .any e=true->on L e.on=true
 def':a.defers=a0.defers
 sz:a.tmps.size=a0.tmps.size
 rest:∀t:Tmp,(∀i,on L i=true->bC ops i≠some t)->a.tmps[t]? = a0.tmps[t]?
 all:∃V:Nat->Value,(∀i d,on L i=true->bC ops i=some d->a.tmps[d]? = some (V i))/\(∀i,on L i=true->(∀x∈F.kill i,on L x=false)->F.R i (V i) w)
 base:∀b,(∀x∈F.killB b,on L x=false)->F.B b w
def bQ(P:Program)(Q:Exit->Act->World->Prop)(F:Flow)(ops:Array Oper)(a0:Act)(k:Nat)(o:Oper):Prop:=
 ∀(a:Act) (w:World) (K:Act->World->Prop),
  (∀j d,bU o j=true->okK ops k (F.kill j)=true->bC ops j=some d->F.R j (a.eval (.tmp d)) w) ->
  (∀t,nN ops k t=true->a.eval (.tmp t)=a0.eval (.tmp t)) ->
  (∀b,okK ops k (F.killB b)=true->F.B b w) ->
  (∀v w',F.E k w w'->F.R k v w'->K (a.put o.dst v) w')->o.wp P a w K Q
def yR(P:Program)(Q:Exit->Act->World->Prop)(F:Flow)(ops:Array Oper)(a0:Act)(k:Nat)(o:Oper):Prop:=
 match o.guard with
 | none=>bQ P Q F ops a0 k o
 | some (j,want)=>bU o j=true/\(bC ops j).isSome=true/\okK ops k (F.kill j)=true /\
  (((∀v w,F.R j v w->v=.bool want)/\bQ P Q F ops a0 k o)\/((∀v w,F.R j v w->v=.bool (!want))/\∀w,F.E k w w/\F.R k undef w))
def FT(ops:Array Oper)(n:Nat):Bool:=
 (TD ops.size).all (λi=>match ops[i]? with
  | some o=>o.after.all (λe=>!TR .any e || e.on<i) && (match o.dst with|none=>true|some d=>decide (d<n) && (TD ops.size).all (λj=>j == i || bC ops j != some d))
  | none=>false)
structure RegF(P:Program)(Q:Exit->Act->World->Prop)(F:Flow)(ops:Array Oper)(a0:Act)(m:Nat):Prop where
 chk:FT ops a0.tmps.size=true
 cert:∀k o,k<m->ops[k]? = some o->yR P Q F ops a0 k o
 stab:∀i j,i<m->j<m->i≠j->(F.kill j).contains i=false->depOn ops j i=false->∀v w w',F.E i w w'->F.R j v w->F.R j v w'
 stabB:∀i b,i<m->(F.killB b).contains i=false->∀w w',F.E i w w'->F.B b w->F.B b w'
variable {F:Flow}{m:Nat}
theorem RegF.of{k:Nat}{o:Oper}(h:RegF P Q F ops a0 m)(ho:ops[k]? = some o):(∀e∈o.after,TR .any e=true->e.on<k)/\∀d,o.dst=some d->d<a0.tmps.size/\∀j,bC ops j=some d->j=k:=by
 have hk:=(SZ.1 ho).1;have h1:=S4.1 h.chk k (TM.2 hk);rw[ho]at h1;simp only[SC]at h1;obtain⟨h2,h3⟩:=h1;refine⟨λe he hb=>?_,λd hd=>?_⟩
 ·have:=Up.1 h2 e he;simpa[hb]using this
 ·rw[hd]at h3;simp only[SC,decide_eq_true_eq]at h3;refine⟨h3.1,λj hj=>?_⟩;have hjs:j<ops.size:=by
   unfold bC at hj;cases hx:ops[j]? with
   | none=>rw[hx]at hj;cases hj
   | some x=>exact(SZ.1 hx).1
  have:=S4.1 h3.2 j (TM.2 hjs);simpa[hj]using this
theorem iY{i:Nat}{o:Oper}(ho:ops[i]? = some o):bC ops i=o.dst:=by unfold bC;rw[ho];rfl
theorem Ab{a:Act}{x k:Nat}{o:Oper}(h:InvF F ops a0 L a w){ho:ops[x]? = some o}(hd:bU o k=true)(hx:on L x=true):on L k=true:=by
 obtain⟨e,he,hb⟩:=Vr.1 hd;simp only[SC,beq_iff_eq]at hb;rw[<-hb.2];exact h.cl x o ho hx e he hb.1
theorem A4{L:Array Bool}{x:Nat}(h:on L x=true):x<L.size:=by
 rcases UC x L.size with h1|h1
 ·exact h1
 ·unfold on at h;rw[Sz,Array.getElem?_eq_none h1]at h;cases h
theorem DO{k:Nat}{o:Oper}{a:Act}(R:RegF P Q F ops a0 m)(hkm:k<m)(hlt:∀i,on L i=true->i<m)(ho:ops[k]? = some o)(hun:on L k=false)(hdep:∀e∈o.after,TR .any e=true->on L e.on=true)(h:InvF F ops a0 L a w):
 wpOp P ops Q k (InvF F ops a0 (L.setIfInBounds k true)) a w:=by
 obtain⟨hback,hdst⟩:=R.of ho;have hks:=(SZ.1 ho).1;have hkL:k<L.size:=by rw[h.size];exact hks
 have hdo:=iY ho;have hnot:∀x,(x == k || depOn ops x k)=true->on L x=false:=λx hx=>by
  cases hon:on L x with
  | false=>rfl
  | true =>
   rcases VV _ _ ▸ hx with h1|h1
   ·rw[show x=k by simpa using h1,hun]at hon;cases hon
   ·unfold depOn at h1;have hxs:x<ops.size:=by rw[<-h.size];exact A4 hon
    have hox:=SS hxs;rw[hox]at h1;have:=Ab (ho:=hox) h h1 hon;rw[hun]at this;cases this
 obtain⟨V,hV1,hV2⟩:=h.all;have hp1:∀j d,bU o j=true->okK ops k (F.kill j)=true->bC ops j=some d->a.tmps[d]? = some (V j)/\F.R j (V j) w:=λj d hj hok hd=>by
  obtain⟨e,he,hb⟩:=Vr.1 hj;simp only[SC,beq_iff_eq]at hb;have hjon:on L j=true:=by rw[<-hb.2];exact hdep e he hb.1
  exact⟨hV1 j d hjon hd,hV2 j hjon λx hx=>hnot x (S4.1 hok x hx)⟩
 have hpre1:∀j d,bU o j=true->okK ops k (F.kill j)=true->bC ops j=some d->F.R j (a.eval (.tmp d)) w:=λj d hj hok hd=>by
  rw[Ew (hp1 j d hj hok hd).1];exact(hp1 j d hj hok hd).2
 have hpre2:∀t,nN ops k t=true->a.eval (.tmp t)=a0.eval (.tmp t):=λt hf=>by
  have h1:=h.rest t λi hi hd=>by
   have his:i<ops.size:=by rw[<-h.size];exact A4 hi
   have h2:=S4.1 hf i (TM.2 his);rw[hd]at h2;have h3:(i == k || depOn ops i k)=true:=by simpa using h2
   rw[hnot i h3]at hi;cases hi
  show a.tmps.getD t undef=a0.tmps.getD t undef;rw[Sz,Sz,h1]
 have hpre3:∀b,okK ops k (F.killB b)=true->F.B b w:=λb hb=>h.base b λx hx=>hnot x (S4.1 hb x hx)
 have hpost:∀v w',F.E k w w'->F.R k v w'->InvF F ops a0 (L.setIfInBounds k true) (a.put o.dst v) w':=λv w' hE hR=>by
  have hon:∀x,on (L.setIfInBounds k true) x=(on L x || k == x):=λx=>eV hkL
  refine⟨by rw[Tg];exact h.size,λi oi hoi hi e he hb=>?_,?_,?_,λt ht=>?_,⟨λx=>if x=k then v else V x,λi d hi hd=>?_,λi hi hkl=>?_⟩,λb hb=>?_⟩
  ·rw[hon]at hi⊢;by_cases hik:k=i
   ·subst hik;rw[ho]at hoi;obtain rfl:=Td.inj hoi;rw[hdep e he hb,Vm]
   ·rw[h.cl i oi hoi (by simpa[hik]using hi) e he hb,Vm]
  ·rw[<-h.def'];cases o.dst<;>rfl
  ·rw[pC];exact h.sz
  ·have h1:o.dst≠some t:=λhd=>ht k (by rw[hon];simp) (by rw[hdo];exact hd)
   rw[mZ a v h1];exact h.rest t λi hi=>ht i (by rw[hon,hi,Vm])
  ·rw[hon]at hi;by_cases hik:i=k
   ·subst hik;rw[hdo]at hd;rw[hd];show(a.tmps.setIfInBounds d v)[d]? = some (if i=i then v else V i);rw[if_pos (rfl:i=i)];rw[Um,if_pos rfl,if_pos (by rw[h.sz];exact(hdst d hd).1)]
   ·have hne:o.dst≠some d:=λhd2=>hik ((hdst d hd2).2 i hd)
    rw[mZ a v hne];show _=some (if i=k then v else V i);rw[if_neg hik];have hik':¬k=i:=λe=>hik e.symm
    exact hV1 i d (by simpa[hik']using hi) hd
  ·rw[hon]at hi;by_cases hik:i=k
   ·subst hik;show F.R i (if i=i then v else V i) w';rw[if_pos rfl];exact hR
   ·show F.R i (if i=k then v else V i) w';rw[if_neg hik];have hik':¬k=i:=λe=>hik e.symm
    have hi':on L i=true:=by simpa[hik']using hi
    have h1:∀x∈F.kill i,on L x=false:=λx hx=>by
     have:=hkl x hx;rw[hon,Yo]at this;exact this.1
    have h2:(F.kill i).contains k=false:=by
     cases hc:(F.kill i).contains k with
     | false=>rfl
     | true =>
      have:=hkl k (by simpa using hc);rw[hon]at this;simp at this
    have h3:depOn ops i k=false:=by
     cases hc:depOn ops i k with
     | false=>rfl
     | true=>rw[hnot i (by rw[hc,Bool.or_true])]at hi';cases hi'
    exact R.stab k i hkm (hlt i hi') (Yd hik) h2 h3 _ _ _ hE (hV2 i hi' h1)
  ·have h1:∀x∈F.killB b,on L x=false:=λx hx=>by
    have:=hb x hx;rw[hon,Yo]at this;exact this.1
   have h2:(F.killB b).contains k=false:=by
    cases hc:(F.killB b).contains k with
    | false=>rfl
    | true =>
     have:=hb k (by simpa using hc);rw[hon]at this;simp at this
   exact R.stabB k b hkm h2 _ _ hE (h.base b h1)
 have hC:=R.cert k o hkm ho;unfold yR at hC;unfold wpOp;rw[ho];dsimp only;cases hg:o.guard with
 | none =>
  rw[hg]at hC;rw[Av hg,if_pos rfl];left;exact hC a w _ hpre1 hpre2 hpre3 hpost
 | some jw =>
  obtain⟨j,want⟩:=jw;rw[hg]at hC;obtain⟨hd1,hd2,hd3,hcase⟩:=hC;obtain⟨d,hd⟩:=SU.1 hd2;obtain⟨hs,hRj⟩:=hp1 j d hd1 hd3 hd;have hy:∀b,V j=.bool b->Vk o (yielded ops a.tmps)=(b == want):=λb hb=>by
   have h4:yielded ops a.tmps j=some b:=by
    unfold bC at hd;unfold yielded;cases hoj:ops[j]? with
    | none=>rw[hoj]at hd;cases hd
    | some oj =>
     rw[hoj]at hd;show(match oj.dst.bind (a.tmps[·]?) with|some (.bool b)=>some b|_=>none)=_;rw[show oj.dst=some d from hd];show(match a.tmps[d]? with|some (.bool b)=>some b|_=>none)=_;rw[hs,hb]
   unfold Vk;rw[hg];show(yielded ops a.tmps j == some want)=_;rw[h4];cases b<;>cases want<;>rfl
  rcases hcase with⟨hw,hc⟩|⟨hw,hsk⟩
  ·rw[hy _ (hw _ _ hRj),show(want == want)=true by cases want<;>rfl,if_pos rfl];left;exact hc a w _ hpre1 hpre2 hpre3 hpost
  ·rw[hy _ (hw _ _ hRj),show((!want) == want)=false by cases want<;>rfl];exact hpost undef w (hsk w).1 (hsk w).2
def dJ(V:Nat->Value):List Oper->Nat->Act->Act
 | [],_,a=>a
 | o :: r,i,a=>dJ V r (i+1) (a.put o.dst (V i))
theorem mC(V:Nat->Value):∀(l:List Oper) (i:Nat) (a:Act),(dJ V l i a).defers=a.defers
 | [],_,_=>rfl
 | o :: r,i,a=>by
  rw[dJ,mC V r];cases o.dst<;>rfl
theorem kZ(V:Nat->Value):∀(l:List Oper) (i:Nat) (a:Act) (t:Tmp),(∀o∈l,o.dst≠some t)->(dJ V l i a).tmps[t]? = a.tmps[t]?
 | [],_,_,_,_=>rfl
 | o :: r,i,a,t,h=>by
  rw[dJ,kZ V r _ _ t (λx hx=>h x (S8 _ hx)),mZ a _ (h o Ti)]
theorem rD(V:Nat->Value):∀(l:List Oper) (i:Nat) (a:Act) (j:Nat) (o:Oper) (d:Tmp),l[j]? = some o->o.dst=some d->(∀j' o',l[j']? = some o'->o'.dst=some d->j'=j)->d<a.tmps.size->(dJ V l i a).tmps[d]? = some (V (i+j))
 | [],_,_,_,_,_,h,_,_,_=>by simp at h
 | x :: r,i,a,0,o,d,h,hd,hu,hs=>by
  obtain rfl:x=o:=by simpa using h
  rw[dJ,kZ V r _ _ d (λy hy hyd=>by
   obtain⟨j',hj'⟩:=Ub hy;have:=hu (j'+1) y (by simpa using hj') hyd;omega),hd]
  show(a.tmps.setIfInBounds d _)[d]? = _;rw[Um,if_pos rfl,if_pos hs];rfl
 | x :: r,i,a,j+1,o,d,h,hd,hu,hs=>by
  rw[dJ,rD V r (i+1) _ j o d (by simpa using h) hd (λj' o' h' hd'=>by
   have:=hu (j'+1) o' (by simpa using h') hd';omega) (by rw[pC];exact hs)]
  congr 2
  omega
theorem InvF.done{a:Act}(R:RegF P Q F ops a0 m)(h:InvF F ops a0 L a w)(hall:∀i,i<ops.size->on L i=true)
 (hp:∀(V:Nat->Value),(∀i,i<ops.size->F.kill i=[]->F.R i (V i) w)->(∀b,F.killB b=[]->F.B b w)->Q .normal (dJ V ops.toList 0 a0) w):Q .normal a w:=by
 obtain⟨V,hV1,hV2⟩:=h.all;have e:a=dJ V ops.toList 0 a0:=by
  refine Act.ext' ?_ (by rw[mC];exact h.def');apply YC;intro t;by_cases ht:∃(i:Nat) (o:Oper),ops[i]? = some o/\o.dst=some t
  ·obtain⟨i,o,ho,hd⟩:=ht;rw[hV1 i t (hall i (SZ.1 ho).1) (by rw[iY ho];exact hd)];rw[rD V ops.toList 0 a0 i o t (by rw[Tn];exact ho) hd (λj' o' hj' hd'=>((R.of ho).2 t hd).2 j' (by rw[Tn]at hj';rw[iY hj'];exact hd')) ((R.of ho).2 t hd).1,Sj]
  ·rw[h.rest t (λi hi hd=>?_),kZ V ops.toList 0 a0 t (λo hm hd=>?_)]
   ·obtain⟨i,hi⟩:=Ub hm;rw[Tn]at hi;exact ht ⟨i,o,hi,hd⟩
   ·unfold bC at hd;cases hx:ops[i]? with
    | none=>rw[hx]at hd;cases hd
    | some x=>rw[hx]at hd;exact ht ⟨i,x,hx,hd⟩
 rw[e];exact hp V (λi hi hk=>hV2 i (hall i hi) (by rw[hk];simp)) (λb hb=>h.base b (by rw[hb];simp))
theorem InvF.full{a:Act}(R:RegF P Q F ops a0 m)(h:InvF F ops a0 L a w)(hr:Ts .any ops L=[]):∀i,i<ops.size->on L i=true:=by
 intro i;induction i using Nat.strongRecOn with
 | ind i ih =>
  intro hi;have ho:ops[i]? = some ops[i]:=SS _;cases hon:on L i with
  | true=>rfl
  | false =>
   have:i∈Ts .any ops L:=mem_ready.2 ⟨?_,_,ho,λe he hb=>?_⟩
   ·rw[hr]at this;cases this
   ·unfold on at hon;rw[Sz,SS (by rw[h.size];exact hi)]at hon⊢;exact hon
   ·have hlt:=(R.of ho).1 e he hb;exact ih e.on hlt (Nat.lt_trans hlt hi)
theorem vV{id:Nat}(F:Flow)(hm:P.follows .mixedOrders=true)(R:RegF P Q F ops a0 ops.size)(hB:∀b,F.B b w.drew)
 (hp:∀(V:Nat->Value) (w':World),(∀i,i<ops.size->F.kill i=[]->F.R i (V i) w')->(∀b,F.killB b=[]->F.B b w')->Q .normal (dJ V ops.toList 0 a0) w'):(TX id ops true).wp P Q a0 w:=by
 have key:∀(fuel:Nat) (L:Array Bool) (a:Act) (w:World),unl L=fuel->InvF F ops a0 L a w->wpAny P .any ops Q fuel L a w:=by
  intro fuel;induction fuel with
  | zero =>
   intro L a w hu hI;have hall:∀i,i<ops.size->on L i=true:=λi hi=>lQ hu i (by rw[hI.size];exact hi)
   refine⟨?_,hI.done R hall (λV=>hp V w)⟩;apply Xl.2;intro i hi;obtain⟨h1,o,ho,-⟩:=mem_ready.1 hi;have h2:=hall i (SZ.1 ho).1;unfold on at h2;rw[Sz]at h1 h2;cases hh:L[i]? with
   | none=>rw[hh]at h1;cases h1
   | some b=>rw[hh]at h1 h2;rw[show b=false from h1]at h2;cases h2
  | succ fuel ih =>
   intro L a w hu hI;refine⟨λhr=>hI.done R (hI.full R hr) (λV=>hp V w),λi hi=>?_⟩;obtain⟨h1,o,ho,hdep⟩:=mem_ready.1 hi;have hoff:on L i=false:=by
    unfold on;rw[Sz]at h1⊢;cases hh:L[i]? with
    | none=>rfl
    | some b=>rw[hh]at h1;exact h1
   exact wpOp_mono (λa' w' hI'=>ih _ a' w' (by have:=oI h1;omega) hI') (DO R (SZ.1 ho).1 (λi hi=>by rw[<-hI.size];exact A4 hi) ho hoff hdep hI)
 have hoff:∀i,on (So ops.size false) i=false:=λi=>by
  unfold on;rw[Sz,Vp];by_cases h:i<ops.size
  ·rw[if_pos h];rfl
  ·rw[if_neg h];rfl
 refine wp_region_any hm (key _ _ a0 _ ?_ ⟨SB,(λi o _ h=>by rw[hoff]at h;cases h),rfl,rfl,λ_ _=>rfl,⟨λ_=>undef,λi d h=>(by rw[hoff]at h;cases h),λi h=>(by rw[hoff]at h;cases h)⟩,λb _=>hB b⟩);unfold unl;rw[Wm,Yj];simp
structure PreF(F:Flow)(ops:Array Oper)(a0:Act)(k:Nat)(o:Oper)(a:Act)(w:World):Prop where
 n:∀j d,bU o j=true->okK ops k (F.kill j)=true->bC ops j=some d->F.R j (a.eval (.tmp d)) w
 o:∀t,nN ops k t=true->a.eval (.tmp t)=a0.eval (.tmp t)
 b:∀b,okK ops k (F.killB b)=true->F.B b w
def lL(P:Program)(Q:Exit->Act->World->Prop)(F:Flow)(ops:Array Oper)(a0:Act):Nat->List Oper->Prop
 | _,[]=>True
 | k,o :: r=>yR P Q F ops a0 k o/\lL P Q F ops a0 (k+1) r
theorem wH:∀(l:List Oper) (i:Nat),lL P Q F ops a0 i l->∀k o,l[k]? = some o->yR P Q F ops a0 (i+k) o
 | [],_,_,k,o,h=>by simp at h
 | x :: r,i,hc,0,o,h=>by
  obtain rfl:x=o:=by simpa using h
  exact hc.1
 | x :: r,i,hc,k+1,o,h=>by
  have:=wH r (i+1) hc.2 k o (by simpa using h);rwa[show i+1+k=i+(k+1) by omega]at this
theorem I7(h:lL P Q F ops a0 0 ops.toList):∀k o,k<ops.size->ops[k]? = some o->yR P Q F ops a0 k o:=λk o _ ho=>by
 have:=wH ops.toList 0 h k o (by rw[Tn];exact ho);rwa[Sj]at this
def evo(ev:Tmp->Value):Operand->Value
 | .tmp t=>ev t
 | .const v=>v
 | .global g=>pZ g
 | .func f=>.func (.func f) #[] #[]
def dW(T:List Tmp)(o:Oper):Bool:=
 (match o.op with | .select _ _=>false|_=>true) && o.op.operands.all (λx=>match x with | .tmp t=>T.contains t|_=>true)
theorem tQ{a:Act}{o:Oper}(ev:Tmp->Value)(T:List Tmp)(h:dW T o=true)(he:∀t∈T,a.eval (.tmp t)=ev t):execOp a.eval o=execOp (evo ev) o:=by
 simp only[dW,SC]at h;refine execOp_congr o (λcs b he=>?_) (λx hx=>?_)
 ·rw[he]at h;exact absurd h.1 (by simp)
 ·have h1:=Up.1 h.2 x hx;cases x with
  | tmp t=>exact he t (by simpa using h1)
  | const v=>rfl
  | global g=>rfl
  | func f=>rfl
theorem rS{k:Nat}{o:Oper}(h:∀(a:Act) (w:World),PreF F ops a0 k o a w->∃v w',(execOp a.eval o).run P w=.ok (.value v) w'/\F.E k w w'/\F.R k v w'):bQ P Q F ops a0 k o:=by
 intro a w K h1 h2 h3 hK;obtain⟨v,w',hr,hE,hR⟩:=h a w ⟨h1,h2,h3⟩;unfold TZ;rw[hr];exact hK v w' hE hR
theorem mN{k:Nat}{o:Oper}(t:Tmp)(h:∀(a:Act) (w:World),PreF F ops a0 k o a w->∃v w',(dW [t] o=true)/\(execOp (evo λ_=>a.eval (.tmp t)) o).run P w=.ok (.value v) w'/\F.E k w w'/\F.R k v w'):bQ P Q F ops a0 k o:=by
 refine rS λa w hp=>?_
 obtain⟨v,w',hs,hr,hE⟩:=h a w hp;refine⟨v,w',?_,hE⟩;rw[tQ (λ_=>a.eval (.tmp t)) [t] hs (λx hx=>by rw[show x=t by simpa using hx])];exact hr
theorem EH{k:Nat}{o:Oper}(t:Tmp)(h:∀(a:Act) (w:World),PreF F ops a0 k o a w->∃f args,(dW [t] o=true)/\(execOp (evo λ_=>a.eval (.tmp t)) o).run P w=.ok (.enter f args) w/\Calls P f args w (Ret λe w'=>F.E k w w'/\F.R k e w')):bQ P Q F ops a0 k o:=by
 intro a w K h1 h2 h3 hK;obtain⟨f,args,hs,hr,hc⟩:=h a w ⟨h1,h2,h3⟩;unfold TZ;rw[tQ (λ_=>a.eval (.tmp t)) [t] hs (λx hx=>by rw[show x=t by simpa using hx]),hr,UF];refine hc.mono ?_;rintro e w' ⟨v,rfl,hE,hR⟩;exact hK _ _ hE hR
theorem Ae{k:Nat}{o:Oper}(T:TypeId)(t:Tmp)(ho:o.op=.load T (.tmp t))(hu:(P.underlying T).map (·.isRow)=some true)
 (h:∀(a:Act) (w:World),PreF F ops a0 k o a w->∃g off cs,a.eval (.tmp t)=.pointer (some ⟨g,off,none⟩)/\w.rangeAt g off cs/\(P.info? T).map (·.size)=some cs.length/\F.E k w w/\F.R k (.agg cs.toArray) w):bQ P Q F ops a0 k o:=by
 intro a w K h1 h2 h3 hK;obtain⟨g,off,cs,he,hr,hi,hE,hR⟩:=h a w ⟨h1,h2,h3⟩;obtain⟨d,hu,hd⟩:=Sf.1 hu;exact wp_load_mid T (.tmp t) ho g off he cs d hr hu hd hi (hK _ _ hE hR)
theorem I6{k:Nat}{o:Oper}(s u:Tmp)(t:TypeId)(ho:o.op=.call { callee:=.builtin .append,args:=#[.tmp s,.tmp u],argTypes:=#[t,t] })
 (h:∀(a:Act) (w:World),PreF F ops a0 k o a w->∃v w',(UG #[t,t] o.type #[a.eval (.tmp s),a.eval (.tmp u)]).run P w=.ok v w'/\F.E k w w'/\F.R k v w'):bQ P Q F ops a0 k o:=by
 intro a w K h1 h2 h3 hK;obtain⟨v,w',hr,hE,hR⟩:=h a w ⟨h1,h2,h3⟩;unfold TZ execOp;simp only[ho,resolve,invoke,builtin,SK,Ux,Tr,Xv,UJ,Yk,hr];exact hK _ _ hE hR
theorem FV(h:lL P Q F ops a0 0 (ops.toList.take m)):∀k o,k<m->ops[k]? = some o->yR P Q F ops a0 k o:=λk o hk ho=>by
 have:=wH (ops.toList.take m) 0 h k o (by rw[T0,if_pos hk,Tn];exact ho);rwa[Sj]at this
theorem InvF.act{a:Act}(R:RegF P Q F ops a0 m)(h:InvF F ops a0 L a w)(hm:m<=ops.size)(hall:∀i,on L i=true↔i<m){V:Nat->Value}(hV1:∀i d,on L i=true->bC ops i=some d->a.tmps[d]? = some (V i)):a=dJ V (ops.toList.take m) 0 a0:=by
 refine Act.ext' ?_ (by rw[mC];exact h.def');apply YC;intro t;by_cases ht:∃(i:Nat) (o:Oper),i<m/\ops[i]? = some o/\o.dst=some t
 ·obtain⟨i,o,him,ho,hd⟩:=ht;rw[hV1 i t ((hall i).2 him) (by rw[iY ho];exact hd)];rw[rD V (ops.toList.take m) 0 a0 i o t (by rw[T0,if_pos him,Tn];exact ho) hd (λj' o' hj' hd'=>((R.of ho).2 t hd).2 j' (by
   rw[T0]at hj';split at hj'
   ·rw[Tn]at hj';rw[iY hj'];exact hd'
   ·cases hj')) ((R.of ho).2 t hd).1,Sj]
 ·rw[h.rest t (λi hi hd=>?_),kZ V (ops.toList.take m) 0 a0 t (λo hm' hd=>?_)]
  ·obtain⟨i,hi⟩:=Ub hm';rw[T0]at hi;split at hi
   ·rename_i him
    rw[Tn]at hi;exact ht ⟨i,o,him,hi,hd⟩
   ·cases hi
  ·unfold bC at hd;cases hx:ops[i]? with
   | none=>rw[hx]at hd;cases hd
   | some x=>rw[hx]at hd;exact ht ⟨i,x,(hall i).1 hi,hx,hd⟩
theorem FM{id:Nat}(F:Flow)(n:Nat)(hn:ops.size=n+1)(hd:(TD n).all (λj=>depOn ops n j || (TD n).any (λi=>depOn ops n i && depOn ops i j))=true)(hm:P.follows .mixedOrders=true)(R:RegF P Q F ops a0 n)(hB:∀b,F.B b w.drew)
 (hp:∀(V:Nat->Value) (w':World),(∀i,i<n->F.kill i=[]->F.R i (V i) w')->(∀b,F.killB b=[]->F.B b w')->wpList P ops Q (ops.toList.drop n) (dJ V (ops.toList.take n) 0 a0) w'):(TX id ops true).wp P Q a0 w:=by
 have key:∀(fuel:Nat) (L:Array Bool) (a:Act) (w:World),unl L=fuel->on L n=false->InvF F ops a0 L a w->wpAny P .any ops Q fuel L a w:=by
  intro fuel;induction fuel with
  | zero =>
   intro L a w hu hoff hI;have:=lQ hu n (by rw[hI.size];omega);rw[hoff]at this;cases this
  | succ fuel ih =>
   intro L a w hu hoff hI;refine⟨λhr=>?_,λi hi=>?_⟩
   ·have:=hI.full R hr n oM;rw[hoff]at this;cases this
   ·obtain⟨h1,o,ho,hdep⟩:=mem_ready.1 hi;have his:=(SZ.1 ho).1;have hoi:on L i=false:=by
     unfold on;rw[Sz]at h1⊢;cases hh:L[i]? with
     | none=>rfl
     | some b=>rw[hh]at h1;exact h1
    by_cases hin:i=n
    ·subst hin;have hall:∀j,on L j=true↔j<i:=λj=>by
      constructor
      ·intro hj;have h2:j<ops.size:=by rw[<-hI.size];exact A4 hj
       rcases UC j i with h|h
       ·exact h
       ·obtain rfl:j=i:=oM;rw[hoff]at hj;cases hj
      ·intro hj;have hdir:∀j,depOn ops i j=true->on L j=true:=λj h2=>by
        unfold depOn at h2;rw[ho]at h2;obtain⟨e,he,hb⟩:=Vr.1 h2;simp only[SC,beq_iff_eq]at hb;have:=hdep e he hb.1;rw[hb.2]at this;exact this
       have h2:=S4.1 hd j (TM.2 hj);rw[VV]at h2;rcases h2 with h2|h2
       ·exact hdir j h2
       ·obtain⟨x,hx,h3⟩:=List.any_eq_true.1 h2;rw[SC]at h3;have hxo:=hdir x h3.1;have hxs:x<ops.size:=by have:=TM.1 hx;omega
        have hox:=SS hxs;have h4:=h3.2;unfold depOn at h4;rw[hox]at h4;exact Ab (ho:=hox) hI h4 hxo
     obtain⟨V,hV1,hV2⟩:=hI.all;have ha:=hI.act R oM hall hV1;have hkl:∀l:List Nat,l=[]->∀x∈l,on L x=false:=λl hl x hx=>by rw[hl]at hx;cases hx
     have hfin:=hp V w (λj hj hk=>hV2 j ((hall j).2 hj) (hkl _ hk)) (λb hb=>hI.base b (hkl _ hb));have hdrop:ops.toList.drop i=[o]:=by
      have hlen:ops.toList.length=i+1:=by rw[Sx];exact hn
      rw[List.drop_eq_getElem_cons oM,List.drop_of_length_le oM];have:ops.toList[i]? = some o:=by rw[Tn];exact ho
      rw[SH oM]at this;rw[Td.inj this]
     rw[hdrop,<-ha]at hfin;have hop:wpOp P ops Q i (λa' w'=>Q .normal a' w') a w:=by
      unfold wpOp;rw[ho];exact hfin
     refine wpOp_mono (λa' w' hq=>?_) hop;have hon2:∀j,j<ops.size->on (L.setIfInBounds i true) j=true:=λj hj=>by
      rw[eV (by rw[hI.size];omega)];by_cases h:j<i
      ·rw[(hall j).2 h,Vm]
      ·rw[show j=i by omega];simp
     have hr:Ts .any ops (L.setIfInBounds i true)=[]:=by
      apply Xl.2;intro j hj;obtain⟨h1,o',ho',-⟩:=mem_ready.1 hj;have h2:=hon2 j (SZ.1 ho').1;unfold on at h2;rw[Sz]at h1 h2;cases hh:(L.setIfInBounds i true)[j]? with
      | none=>rw[hh]at h1;cases h1
      | some b=>rw[hh]at h1 h2;rw[show b=false from h1]at h2;cases h2
     cases fuel with
     | zero=>exact⟨hr,hq⟩
     | succ f=>exact⟨λ_=>hq,λj hj=>by rw[hr]at hj;cases hj⟩
    ·refine wpOp_mono (λa' w' hI'=>ih _ a' w' (by have:=oI h1;omega) ?_ hI') (DO R oM (λj hj=>?_) ho hoi hdep hI)
     ·rw[eV (by rw[hI.size];exact his),hoff];simpa using hin
     ·have h2:j<ops.size:=by rw[<-hI.size];exact A4 hj
      rcases UC j n with h|h
      ·exact h
      ·obtain rfl:j=n:=oM;rw[hoff]at hj;cases hj
 have hoff:∀i,on (So ops.size false) i=false:=λi=>by
  unfold on;rw[Sz,Vp];by_cases h:i<ops.size
  ·rw[if_pos h];rfl
  ·rw[if_neg h];rfl
 refine wp_region_any hm (key _ _ a0 _ ?_ (hoff n) ⟨SB,(λi o _ h=>by rw[hoff]at h;cases h),rfl,rfl,λ_ _=>rfl,⟨λ_=>undef,λi d h=>(by rw[hoff]at h;cases h),λi h=>(by rw[hoff]at h;cases h)⟩,λb _=>hB b⟩);unfold unl;rw[Wm,Yj];simp
end RG
namespace RG
open Go Go.RowKit
variable {P:Program}{ops:Array Oper}{Q:Exit->Act->World->Prop}{w:World}{a0:Act}
def AllE(a:Act):List (Tmp × Value)->Prop
 | []=>True
 | x :: r=>a.eval (.tmp x.1)=x.2/\AllE a r
def evl(ps:List (Tmp × Value))(t:Tmp):Value:=match ps.find? (λx=>x.1 == t) with|some x=>x.2|none=>undef
theorem AllE.mem{a:Act}:∀ {ps:List (Tmp × Value)},AllE a ps->∀x∈ps,a.eval (.tmp x.1)=x.2
 | [],_,x,hx=>by cases hx
 | y :: r,h,x,hx=>by
  rcases TP.1 hx with rfl|hx
  ·exact h.1
  ·exact AllE.mem h.2 x hx
theorem AllE.ev{a:Act}{ps:List (Tmp × Value)}(h:AllE a ps):∀t∈ps.map (·.1),a.eval (.tmp t)=evl ps t:=λt ht=>by
 obtain⟨x,hx,rfl⟩:=Tq.1 ht;unfold evl;cases hf:ps.find? (λy=>y.1 == x.1) with
 | none =>
  have:=List.find?_eq_none.1 hf x hx;simp at this
 | some y =>
  have h1:=List.mem_of_find?_eq_some hf;have h2:y.1=x.1:=by simpa using List.find?_some hf
  have:=h.mem y h1;rw[h2]at this;exact this
structure Gw where
 R:Nat->Value->World->Prop
 B:World->Prop
 sR:∀i v w w',Below w.heap.size w w'->R i v w->R i v w'
 sB:∀w w',Below w.heap.size w w'->B w->B w'
def Gw.flow(G:Gw):Flow:=⟨G.R,λ_=>G.B,λ_ w w'=>Below w.heap.size w w',λ_=>[],λ_=>[]⟩
structure PreG(G:Gw)(ops:Array Oper)(a0:Act)(k:Nat)(o:Oper)(a:Act)(w:World):Prop where
 n:∀j d,bU o j=true->bC ops j=some d->G.R j (a.eval (.tmp d)) w
 o:∀t,nN ops k t=true->a.eval (.tmp t)=a0.eval (.tmp t)
 b:G.B w
variable {G:Gw}
theorem nV{k:Nat}{o:Oper}{a:Act}(h:PreF G.flow ops a0 k o a w):PreG G ops a0 k o a w:=⟨λj d hj hd=>h.n j d hj rfl hd,h.o,h.b 0 rfl⟩
theorem cE{k:Nat}{o:Oper}(h:∀(a:Act) (w:World),PreG G ops a0 k o a w->∃(ps:List (Tmp × Value)) (v:Value) (w':World),AllE a ps/\(dW (ps.map (·.1)) o,(execOp (evo (evl ps)) o).run P w)=(true,.ok (.value v) w')/\Below w.heap.size w w'/\G.R k v w'):bQ P Q G.flow ops a0 k o:=
 rS λa w hp=>by
  obtain⟨ps,v,w',he,hs,hE⟩:=h a w (nV hp);simp only[Ud.injEq]at hs;refine⟨v,w',?_,hE⟩;rw[tQ (evl ps) (ps.map (·.1)) hs.1 he.ev];exact hs.2
theorem jN{k:Nat}{o:Oper}(h:∀(a:Act) (w:World),PreG G ops a0 k o a w->∃(ps:List (Tmp × Value)) (f:FuncId) (args:Array Value),AllE a ps/\(dW (ps.map (·.1)) o,(execOp (evo (evl ps)) o).run P w)=(true,.ok (.enter f args) w)/\Calls P f args w (rZ w λe w'=>G.R k e w')):bQ P Q G.flow ops a0 k o:=by
 intro a w K h1 h2 h3 hK;obtain⟨ps,f,args,he,hs,hc⟩:=h a w (nV ⟨h1,h2,h3⟩);simp only[Ud.injEq]at hs;unfold TZ;rw[tQ (evl ps) (ps.map (·.1)) hs.1 he.ev,hs.2,UF];refine hc.mono ?_;rintro e w' ⟨v,rfl,hE,hR⟩;exact hK _ _ hE hR
theorem lG{k:Nat}{o:Oper}(T:TypeId)(t:Tmp)(ho:o.op=.load T (.tmp t))(hu:(P.underlying T).map (·.isRow)=some true)
 (h:∀(a:Act) (w:World),PreG G ops a0 k o a w->∃g off cs,a.eval (.tmp t)=.pointer (some ⟨g,off,none⟩)/\w.rangeAt g off cs/\(P.info? T).map (·.size)=some cs.length/\G.R k (.agg cs.toArray) w):bQ P Q G.flow ops a0 k o:=
 Ae T t ho hu λa w hp=>by
  obtain⟨g,off,cs,h1,h2,h3,h4⟩:=h a w (nV hp);exact⟨g,off,cs,h1,h2,h3,SE _ _,h4⟩
theorem Ou{k:Nat}{o:Oper}(op:BinOp)(T T':TypeId)(t1 t2:Tmp)(ho:o.op=.binOp op T (.tmp t1) (.tmp t2) T')
 (h:∀(a:Act) (w:World),PreG G ops a0 k o a w->∃v1 v2 v,a.eval (.tmp t1)=v1/\a.eval (.tmp t2)=v2/\(eqGuard op T (.tmp t1) (.tmp t2) v1 v2).run P w=.ok () w/\(binOp op T v1 v2).run P w=.ok v w/\G.R k v w):bQ P Q G.flow ops a0 k o:=
 rS λa w hp=>by
  obtain⟨v1,v2,v,h1,h2,hg,hb,hR⟩:=h a w (nV hp);refine⟨v,w,?_,SE _ _,hR⟩;unfold execOp;rw[ho];dsimp only;rw[h1,h2,SK,SK,hg];dsimp only[Result.andThen];rw[hb];rfl
theorem Gw.reg{m:Nat}(hc:FT ops a0.tmps.size=true)(h:lL P Q G.flow ops a0 0 (ops.toList.take m)):RegF P Q G.flow ops a0 m:=
 ⟨hc,FV h,λi j _ _ _ _ _ v w w' hE hR=>G.sR j v w w' hE hR,λi b _ _ w w' hE hB=>G.sB w w' hE hB⟩
theorem Gw.draws{id:Nat}(G:Gw)(hm:P.follows .mixedOrders=true)(hc:FT ops a0.tmps.size=true)(h:lL P Q G.flow ops a0 0 (ops.toList.take ops.size))(hB:G.B w.drew)
 (hp:∀(V:Nat->Value) (w':World),(∀i,i<ops.size->G.R i (V i) w')->G.B w'->Q .normal (dJ V ops.toList 0 a0) w'):(TX id ops true).wp P Q a0 w:=
 vV G.flow hm (Gw.reg hc h) (λ_=>hB) λV w' h1 h2=>hp V w' (λi hi=>h1 i hi rfl) (h2 0 rfl)
theorem Gw.last{id:Nat}(G:Gw)(n:Nat)(hn:((ops.size == n+1) && (TD n).all (λj=>depOn ops n j || (TD n).any (λi=>depOn ops n i && depOn ops i j)))=true)(hm:P.follows .mixedOrders=true)(hc:FT ops a0.tmps.size=true)(h:lL P Q G.flow ops a0 0 (ops.toList.take n))(hB:G.B w.drew)
 (hp:∀(V:Nat->Value) (w':World),(∀i,i<n->G.R i (V i) w')->G.B w'->wpList P ops Q (ops.toList.drop n) (dJ V (ops.toList.take n) 0 a0) w'):(TX id ops true).wp P Q a0 w:=by
 rw[SC,beq_iff_eq]at hn;exact FM G.flow n hn.1 hn.2 hm (Gw.reg hc h) (λ_=>hB) λV w' h1 h2=>hp V w' (λi hi=>h1 i hi rfl) (h2 0 rfl)
end RG
section
open Go.RowKit Go.Sort Go.Deep
variable {P:Nat}[NeZero P]{N:Nat}
theorem AD{w:World}{g o:Nat}{v:Value}{cur:Array Value}{e:TypeId}{z:Nat × Nat}(h:w.heap[g]? = some (.cells cur e z)):∃cur2:Array Value,(w.setCell ⟨g,o,none⟩ v).heap[g]? = some (.cells cur2 e z)/\cur2.size=cur.size:=by
 have hlt:=(SZ.1 h).1;refine⟨cur.setIfInBounds o v,?_,Tg ..⟩;have h2:w.heap[g]=.cells cur e z:=by rw[SS hlt]at h;exact Td.inj h
 simp[World.setCell,Array.getElem_modify,hlt,h2]
theorem oO{g:Nat}{e:TypeId}{z:Nat × Nat}:∀(vs:List Value) (o:Nat) (w:World) (cur:Array Value),w.heap[g]? = some (.cells cur e z)->∃cur2:Array Value,(w.setCells g o vs).heap[g]? = some (.cells cur2 e z)/\cur2.size=cur.size
 | [],_,_,cur,h=>⟨cur,h,rfl⟩
 | v :: r,o,w,cur,h=>by
  obtain⟨c1,h1,h2⟩:=AD (o:=o) (v:=v) h;obtain⟨c2,h3,h4⟩:=oO r (o+1) _ c1 h1;exact⟨c2,h3,h4.trans h2⟩
theorem Hy{W:World}{base n s g o cap:Nat}{e:TypeId}{xs vs:List Value}(h:W.ownsRow base e s (.slice (some (aZ g)) n cap) n xs)(hl:o+vs.length<=n*s):(W.setCells g o vs).ownsRow base e s (.slice (some (aZ g)) n cap) n (RG.rep xs o vs):=by
 have hx:o+vs.length<=xs.length:=by rw[h.1];exact hl
 refine⟨by rw[RG.cX hx];exact h.1,?_⟩;rcases h.2 with⟨h1,-⟩|⟨g',cap',cur,h1,h2,h3,h4,h5,h6,h7⟩
 ·cases h1
 ·injection h1 with e1 e2 e3
  injection e1 with e1
  injection e1 with e1
  subst e1;subst e3;obtain⟨c2,k1,k2⟩:=oO vs o W cur h3;refine SJ ⟨g,cap,c2,rfl,h2,k1,h4,h5,by rw[k2];exact h6,?_⟩;have hcs:n*s<=cur.size:=by rw[h6];exact Vg s h4
  apply We;intro i;rw[RG.rep_at hx,T0,<-h7];have c1:∀i,W.cell? ⟨g,i,none⟩=cur[i]?:=λi=>cell_of_row W g i cur e (0,0) h3
  have c3:(W.setCells g o vs).cell? ⟨g,i,none⟩=c2[i]?:=cell_of_row _ g i c2 e (0,0) k1;by_cases hi:i<n*s
  ·rw[if_pos hi];by_cases hin:o<=i/\i<o+vs.length
   ·rw[if_pos hin];have hj:i-o<vs.length:=oM;have:=World.cell?_setCells_in g vs o W (λj hj=>by rw[c1 (o+j),SS oM];rfl) (i-o) hj;rw[show o+(i-o)=i by omega,c3]at this;rw[Tn,this,SH hj]
   ·rw[if_neg hin,T0,if_pos hi,Tn,Tn,<-c3,<-c1 i];exact World.cell?_setCells_out g vs o W ⟨g,i,none⟩ (λ_ _=>by show i<o\/o+vs.length<=i;omega)
  ·rw[if_neg hi,if_neg oM,T0,if_neg hi]
theorem Kk{xs ys vs:List Value}{o:Nat}:RG.rep (xs++ys) (xs.length+o) vs=xs++RG.rep ys o vs:=by
 unfold RG.rep;rw[List.take_length_add_append,Nat.add_assoc,List.drop_length_add_append,List.append_assoc]
theorem gU{n:Nat}{p:Bs}(hp:p.size=33):(wn n++aA p).length=37:=by rw[Su,aH hp];rfl
theorem fG(x:Nat × Bs)(r:List (Nat × Bs)):aO (x :: r)=(wn x.1++aA x.2)++aO r:=by unfold aO;rw[YN]
theorem wN(s:Nat):∀(l:List (Nat × Bs)) (j:Nat) (hj:j<l.length),(∀x∈l.map (·.2),x.size=33)->aO (l.set j (s,(l[j]).2))=RG.rep (aO l) (37*j) (wn s)
 | [],j,hj,_=>by cases hj
 | x :: r,0,_,_=>by
  show aO ((s,x.2) :: r)=_;rw[fG,fG];rfl
 | x :: r,j+1,hj,hs=>by
  have hx:=gU (n:=x.1) (hs x.2 (by simp));show aO (x :: r.set j (s,(r[j]'(by simpa using hj)).2))=_;rw[fG,fG,wN s r j (by simpa using hj) (λy hy=>hs y (S8 _ hy)),show 37*(j+1)=(wn x.1++aA x.2).length+37*j by rw[hx];omega,Kk]
theorem at?_some{p:Bs}:∀ {l:List (Nat × Bs)}{i j:Nat},at? p (l.map (·.2)) i=some j->i<=j/\∃h:j-i<l.length,(l[j-i]).2=p/\∀n,fB N l n p=l.set (j-i) (sPl N (l[j-i]).1 n,p)
 | [],i,j,h=>by cases h
 | (s,q) :: r,i,j,h=>by
  rw[UJ]at h;unfold at? at h;by_cases hq:p=q
  ·rw[if_pos hq]at h;obtain rfl:=Td.inj h;refine⟨Se _,by simp,?_,λn=>?_⟩
   ·simp[hq]
   ·unfold fB;rw[if_pos hq];simp[hq]
  ·rw[if_neg hq]at h;obtain⟨h1,h2,h3,h4⟩:=at?_some h;have e:j-i=(j-(i+1))+1:=oM;refine⟨oM,by simp;omega,?_,λn=>?_⟩
   ·simp only[e,Ye];exact h3
   ·unfold fB;rw[if_neg hq,h4 n];simp only[e,Ye,SN]
theorem Jo{n:Nat}{p:Bs}{l:List (Nat × Bs)}{j:Nat}(h:at? p (l.map (·.2)) 0=some j):(fB N l n p).map (·.2)=l.map (·.2)/\(fB N l n p).length=l.length:=by
 obtain⟨-,h2,h3,h4⟩:=at?_some (N:=N) h;rw[h4 n];refine⟨?_,List.length_set ..⟩;rw[List.map_set];apply We;intro i;rw[List.getElem?_set];by_cases hi:j-0=i
 ·subst hi;rw[if_pos rfl,if_pos (by rw[SO];exact h2),Un,SH h2];exact congrArg some h3.symm
 ·rw[if_neg hi]
theorem Mx.again{w W:World}{m g cap:Nat}{l:List (Nat × Bs)}{p:Bs}{j:Nat}(h:Mx w W m l (.slice (some (aZ g)) l.length cap))(hs:∀x∈l.map (·.2),x.size=33)(hj:at? p (l.map (·.2)) 0=some j)(hl:j<l.length)(n:Nat):
 Mx w (W.setCells g (37*j) (wn (sPl N (l[j]).1 n))) m (fB N l n p) (.slice (some (aZ g)) l.length cap):=by
 have hne:=h.own_ne (g:=g) rfl;obtain⟨e1,e2⟩:=Jo (N:=N) (n:=n) hj;refine⟨RG.below_setCells hne.2.1 _ _ _ h.bl,?_,h.lm,?_⟩
 ·rw[RG.aS _ _ _ _ _ (Yd hne.1),e1,e2];exact h.mp
 ·obtain⟨-,h2,h3,h4⟩:=at?_some (N:=N) hj;have e3:fB N l n p=l.set j (sPl N (l[j]).1 n,(l[j]).2):=by rw[h4 n];simp only[VP]at h3⊢;rw[h3]
  rw[e2,e3,wN _ l j hl hs];exact Hy h.ow (by show 37*j+4<=_;omega)
theorem CO(O:Ord N)(ns:Nat->Nat)(az:Nat->Bs){k:Nat}(hn:∀j,j<k->ns j<N):∀i,i<=k->∀x∈mrg N ns az i,x.1<N
 | 0,_=>λx hx=>by cases hx
 | i+1,hi=>by
  have ih:=CO O ns az hn i oM;have h:∀(l:List (Nat × Bs)) n p,n<N->(∀x∈l,x.1<N)->∀x∈fB N l n p,x.1<N:=by
   intro l n p hp;induction l with
   | nil=>intro _ x hx;simp[fB]at hx;rw[hx];exact hp
   | cons y r ihr =>
    intro hl x hx;unfold fB at hx;split at hx
    ·rcases TP.1 hx with rfl|hx
     ·exact Ug _ O.pos
     ·exact hl x (S8 _ hx)
    ·rcases TP.1 hx with rfl|hx
     ·exact hl _ Ti
     ·exact ihr (λz hz=>hl z (S8 _ hz)) x hx
  exact h _ _ _ (hn i oM) ih
end
section
open Go.RowKit Go.Sort Go.Deep
variable {N:Nat}
section
variable (w:World) (m g4 cap k6 j s n z:Nat) (l:List (Nat × Bs)) (p:Bs)
def Ra:Nat->Value->World->Prop
 | 0,v,_=>v=.slice (some (aZ g4)) l.length cap
 | 1,v,_=>v=iZ j
 | 2,v,_=>v=.slice (some (aZ g4)) l.length cap
 | 3,v,_=>v=iZ j
 | 4,v,_=>v=.pointer (some ⟨g4,0+37*j,none⟩)
 | 5,v,_=>v=.pointer (some ⟨g4,0+37*j,none⟩)
 | 6,v,_=>v=nv s
 | 7,v,_=>v=pZ k6
 | 8,v,_=>v=nv n
 | 9,v,_=>v=nv z
 | 10,v,_=>v=.pointer (some ⟨g4,0+37*j,none⟩)
 | 11,v,_=>v=.pointer (some ⟨g4,0+37*j,none⟩)
 | _,_,_=>True
theorem OZ{i:Nat}{v:Value}{W W':World}(h:Ra g4 cap k6 j s n z l i v W):Ra g4 cap k6 j s n z l i v W':=by
 match i,h with
 | 0,h=>exact h
 | 1,h=>exact h
 | 2,h=>exact h
 | 3,h=>exact h
 | 4,h=>exact h
 | 5,h=>exact h
 | 6,h=>exact h
 | 7,h=>exact h
 | 8,h=>exact h
 | 9,h=>exact h
 | 10,h=>exact h
 | 11,h=>exact h
 | _+12,_=>trivial
def Ga:RG.Gw:=⟨Ra g4 cap k6 j s n z l,λW=>Mx w W m l (.slice (some (aZ g4)) l.length cap)/\Row W k6 (wn n++aA p),λ_ _ _ _ _ h=>OZ g4 cap k6 j s n z l h,λ_ _ hb h=>⟨h.1.kept hb,h.2.below hb⟩⟩
end
theorem range_front'{W:World}{k o:Nat}{xs ys:List Value}(h:W.rangeAt k o (xs++ys)):W.rangeAt k o xs:=λj v hj=>h j v (by rw[Ty (SI.1 hj).1];exact hj)
theorem Mx.drew{w W:World}{m:Nat}{l:List (Nat × Bs)}{v:Value}(h:Mx w W m l v):Mx w W.drew m l v:=⟨h.bl.drew,h.mp,h.lm,h.ow⟩
theorem Im(O:Ord N)(R:Value->World->Prop)(g k c:Nat)(hk:k<=1000)(ns:Nat->Nat)(az:Nat->Bs)(ha:∀j,j<k->(az j).size=33)(hn:∀j,j<k->ns j<N)(w:World)(hg:g<w.heap.size)(hr:∀j,j<k->w.rangeAt g (37*j) (wn (ns j)++aA (az j)))
 (hdel:∀W v,Mx w W w.heap.size (mrg N ns az k) v->Calls prog 115 #[v,.func (.func 116) #[] #[]] W (Ret R)) :
 Calls prog 70 #[.slice (some (aZ g)) k c] w (Ret R):=by
 have HDEL:=Hid.mk' hdel;have hmm:(Instr.makeMap 174 none).run prog w=.ok (.map (some w.heap.size)) (w.alloc (.map #[] 0)):=kR;obtain⟨w1,hw1⟩:=hE (w.alloc (.map #[] 0));rw[hw1.out]at hmm;have M1:Hid (Mx w w1 w.heap.size (mrg N ns az 0) (.slice none 0 0)):=by
  rw[<-hw1.out];exact⟨aB w _,by show(w.heap.push (.map #[] 0))[w.heap.size]? = _;rw[Array.getElem?_push_size];rfl,Se _,rfl,SY ⟨rfl,rfl⟩⟩
 have HH:=mk5 O ha hn hg hr;obtain⟨d,hd1,hd2⟩:=Sf.1 uCP;obtain⟨d',hd3,hd4⟩:=Sf.1 uT;have HD:Hid ((prog.underlying 35=some d/\d.isRow=true)/\prog.underlying 128=some d'/\d'.isRow=true):=⟨⟨hd1,hd2⟩,hd3,hd4⟩
 go_enter Tryz.func70,Tryz.ntmps70;go_wp2;go_loopg [4,12] k (λq s4 s12 W=>∃i:Nat,i+q=k/\s12=iZ i/\Hid (Mx w W w.heap.size (mrg N ns az i) s4))
 case atStart=>exact⟨0,oM,rfl,M1⟩
 case round =>
  obtain⟨i,hik,rfl,KM⟩:=hrel;by_cases hi:i<k
  ·have hi':(i:Int)<(k:Int):=oM;obtain⟨n,hne⟩:=hE (ns i);obtain⟨p,hpe⟩:=hE (az i);obtain⟨l,hl⟩:=hE (mrg N ns az i);rw[hl.out]at KM;have hps:Hid (p.size=33):=by have:=HH.2.1 i hi;rw[hpe.out]at this;exact this
   have hll:Hid (l.length<=i):=by have:=zO (N:=N) ns az i;rw[hl.out]at this;exact this
   obtain⟨q,cap,rfl⟩:=Ft KM.ow;obtain⟨W1,hW1⟩:=hE (wr.alloc (.cells zT.toArray 128));obtain⟨W2,hW2⟩:=hE (W1.setCells wr.heap.size 0 (wn n++aA p));have hlen:(wn n++aA p).length=37:=by rw[Su,aH hps.out];rfl
   have F1:Hid (Row W1 wr.heap.size zT/\Below wr.heap.size wr W1/\W1.heap.size=wr.heap.size+1):=by rw[<-hW1.out];exact⟨aD wr _ _,aB wr _,Sq _ _⟩
   have F2:Hid (Row W2 wr.heap.size (wn n++aA p)/\Below wr.heap.size wr W2/\W2.heap.size=wr.heap.size+1):=by rw[<-hW2.out];exact⟨F1.1.put (by rw[hlen];rfl),RG.below_setCells (Se _) _ _ _ F1.2.1,by rw[RG.setCells_size];exact F1.2.2⟩
   have K2:=mk1 (KM.kept F2.2.1);have hsz:∀x∈l.map (·.2),x.size=33:=by have:=vC (N:=N) ns az HH.2.1 i oM;rw[hl.out]at this;exact this
   cases hat:at? p (l.map (·.2)) 0 with
   | none =>
    have hnone:=mk1 (hat);have B1:=Hid.mk' (Ba hps.out (l.map (·.2)) hsz w.heap.size l.length W2 K2.mp);rw[hnone.out]at B1;have B2:Hid ((Wk 174 (.map (some w.heap.size)) (.agg (aA p).toArray) (iZ (l.length:Int))).run prog W2=.ok () (W2.putObj w.heap.size (.map (ents (l.map (·.2)++[p]) 0).toArray (l.length+1)))):=by
     have h:=JO hps.out (l.map (·.2)) hsz w.heap.size W2 (by rw[SO];exact K2.mp) hnone.out;rw[SO]at h;exact h
    obtain⟨v',W5,happ,K5,lt5,-⟩:=K2.push hps.out (by have:=hll.out;omega) n;obtain⟨W3,hW3⟩:=hE (W2.putObj w.heap.size (.map (ents (l.map (·.2)++[p]) 0).toArray (l.length+1)));have F3:Hid (Row W3 wr.heap.size (wn n++aA p)/\W3.heap.size=wr.heap.size+1):=by rw[<-hW3.out];exact⟨F2.1.putObj K2.mp rfl _,by simp[XV];exact F2.2.2⟩
    have B3:=Hid.mk' (Qr hps.out n W3);obtain⟨W4,hW4⟩:=hE (W3.alloc (.cells (wn n++aA p).toArray 128));rw[hW3.out]at B2 happ;rw[hW4.out]at B3 happ;rw[F3.2]at B3;rw[F2.2.2]at happ;have K5':Hid (Mx w W5 w.heap.size (mrg N ns az (i+1)) v'):=by
     have e:mrg N ns az (i+1)=l++[(n,p)]:=by
      show fB N (mrg N ns az i) (ns i) (az i)=_;rw[hl.out,hne.out,hpe.out];exact BN hnone.out
     rw[e];exact K5
    have B0:Hid (wr.rangeAt g (37*i) (wn n++aA p)):=by
     have h:=RG.range_below (HH.2.2.2.2 i hi) KM.bl HH.2.2.2.1;rw[hne.out,hpe.out]at h;exact h
    have HLT:Hid ((prog.info? 128).map (·.size)=some (wn n++aA p).length):=by show _=_;rw[hlen];exact iT
    have HLS:Hid ((prog.info? 128).map (·.size)=some (wn n++aA p).toArray.size/\W1.there wr.heap.size 0 (wn n++aA p).toArray.size):=by
     have e:(wn n++aA p).toArray.size=37:=by rw[Tf];exact hlen
     rw[e];exact⟨iT,F1.1.2.2⟩
    have HLP:Hid ((prog.info? 35).map (·.size)=some (aA p).length):=by show _=_;rw[aH hps.out];exact eC
    have HB:=mk1 (kV (xs:=wn n) F2.1.2.1);have HAL:Hid ((wn n++aA p).toArray.all (·.oneCell')=true):=by
     show _=_;rw[Up];intro u hu;exact cells_one n p u (Vj.1 hu)
    have hix:=atT g 0 k c i hi;have HAP:=Hid.mk' happ;obtain⟨vt,hvt⟩:=hE (SX (wn n++aA p).toArray);obtain⟨vp,hvp⟩:=hE (SX (aA p).toArray);rw[hvp.out]at B1 B2;rw[hvt.out]at B3;go_wp2_with (first|(refine wpList_load_mid rfl 128 _ rfl g (37*i) ?_ (wn n++aA p) d' ?_ ?_ ?_ ?_ ?_;rfl;exact B0.out;exact HD.2.1;exact HD.2.2;exact HLT.out;rw[hvt.out])|(refine bG (v:=.pointer (some ⟨wr.heap.size,0,none⟩)) (w':=W1) rfl (.alloc 128) rfl ?_ ?_;(rw[<-hW1.out];kernel_rfl))|(refine wpList_store_mid rfl 128 _ _ rfl wr.heap.size 0 (wn n++aA p).toArray ?_ ?_ ?_ ?_ ?_ ?_;rfl;exact hvt.symm;exact HLS.2;exact HLS.1;exact HAL.out;rw[show(wn n++aA p).toArray.toList=wn n++aA p from rfl,hW2.out])|(refine wpList_load_mid rfl 35 _ rfl wr.heap.size 4 ?_ (aA p) d ?_ ?_ ?_ ?_ ?_;rfl;exact HB.out;exact HD.1.1;exact HD.1.2;exact HLP.out;rw[hvp.out])|(refine xJ (x:=.map (some w.heap.size)) (y:=vp) (w':=W2) rfl 174 _ _ true rfl ?_ ?_ B1.out ?_;rfl;rfl)|(refine E2 (x:=.map (some w.heap.size)) (y:=vp) (z:=iZ (l.length:Int)) (w':=W3) rfl 174 _ _ _ rfl ?_ ?_ ?_ B2.out ?_;rfl;rfl;rfl)|(refine wpList_load_mid rfl 128 _ rfl wr.heap.size 0 ?_ (wn n++aA p) d' ?_ ?_ ?_ ?_ ?_;rfl;exact F3.1.2.1;exact HD.2.1;exact HD.2.2;exact HLT.out;rw[hvt.out])|(refine f9 (v:=.slice (some ⟨wr.heap.size+1,0,none⟩) 1 1) (w':=W4) rfl 57 1 _ rfl #[(0,vt)] ?_ B3.out ?_;kernel_rfl)|(refine iN (x:=.slice q l.length cap) (y:=.slice (some ⟨wr.heap.size+1,0,none⟩) 1 1) (v:=v') (w':=W5) rfl _ _ 57 rfl ?_ ?_ ?_ ?_;rfl;rfl;exact HAP.out))
    go_roundg (gk-1)
    case measure=>omega
    case rel=>exact⟨i+1,oM,rfl,K5'⟩
   | some j =>
    obtain⟨-,hjl,hjp,-⟩:=at?_some (N:=N) hat;rw[VP]at hjl;simp only[VP]at hjp;have B1:=Hid.mk' (Ba hps.out (l.map (·.2)) hsz w.heap.size l.length W2 K2.mp);rw[hat]at B1;obtain⟨g4,cap4,he4,-,hg4,hr4⟩:=rJ K2.ow hsz oM;injection he4 with q1 q2 q3
    subst q1;obtain⟨s,hse⟩:∃s,Hid ((l[j]'hjl).1=s):=⟨(l[j]'hjl).1,(rfl:(l[j]'hjl).1=(l[j]'hjl).1)⟩
    have hsN:Hid (s<N):=by
     have:=CO HH.1 ns az HH.2.2.1 i oM;rw[hl.out]at this;rw[<-hse.out];exact this _ (Tu hjl)
    have hnN:Hid (n<N):=by rw[<-hne.out];exact HH.2.2.1 i hi
    have B0:Hid (wr.rangeAt g (37*i) (wn n++aA p)):=by
     have h:=RG.range_below (HH.2.2.2.2 i hi) KM.bl HH.2.2.2.1;rw[hne.out,hpe.out]at h;exact h
    have HLT:Hid ((prog.info? 128).map (·.size)=some (wn n++aA p).length):=by show _=_;rw[hlen];exact iT
    have HLS:Hid ((prog.info? 128).map (·.size)=some (wn n++aA p).toArray.size/\W1.there wr.heap.size 0 (wn n++aA p).toArray.size):=by
     have e:(wn n++aA p).toArray.size=37:=by rw[Tf];exact hlen
     rw[e];exact⟨iT,F1.1.2.2⟩
    have HLP:Hid ((prog.info? 35).map (·.size)=some (aA p).length):=by show _=_;rw[aH hps.out];exact eC
    have HB:=mk1 (kV (xs:=wn n) F2.1.2.1);have HAL:Hid ((wn n++aA p).toArray.all (·.oneCell')=true):=by
     show _=_;rw[Up];intro u hu;exact cells_one n p u (Vj.1 hu)
    have hix:=atT g 0 k c i hi;obtain⟨vt,hvt⟩:=hE (SX (wn n++aA p).toArray);obtain⟨vp,hvp⟩:=hE (SX (aA p).toArray);rw[hvp.out]at B1;have HL:=mk1 (hjl);have HS:Hid (∀h:j<l.length,(l[j]'h).1=s):=λ_=>hse.out
    have HJ:=mk2 hat hsz;have HK:=mk2 K2.out F2.1;have KN:Hid (mrg N ns az (i+1)=fB N l n p):=by
     show fB N (mrg N ns az i) (ns i) (az i)=_;rw[hl.out,hne.out,hpe.out]
    clear hlen hsz K2 KM hjp q2 q3 hr4 hg4;clear hat;go_wp2_with (first|(refine wpList_load_mid rfl 128 _ rfl g (37*i) ?_ (wn n++aA p) d' ?_ ?_ ?_ ?_ ?_;rfl;exact B0.out;exact HD.2.1;exact HD.2.2;exact HLT.out;rw[hvt.out])|(refine bG (v:=.pointer (some ⟨wr.heap.size,0,none⟩)) (w':=W1) rfl (.alloc 128) rfl ?_ ?_;(rw[<-hW1.out];kernel_rfl))|(refine wpList_store_mid rfl 128 _ _ rfl wr.heap.size 0 (wn n++aA p).toArray ?_ ?_ ?_ ?_ ?_ ?_;rfl;exact hvt.symm;exact HLS.2;exact HLS.1;exact HAL.out;rw[show(wn n++aA p).toArray.toList=wn n++aA p from rfl,hW2.out])|(refine wpList_load_mid rfl 35 _ rfl wr.heap.size 4 ?_ (aA p) d ?_ ?_ ?_ ?_ ?_;rfl;exact HB.out;exact HD.1.1;exact HD.1.2;exact HLP.out;rw[hvp.out])|(refine xJ (x:=.map (some w.heap.size)) (y:=vp) (w':=W2) rfl 174 _ _ true rfl ?_ ?_ B1.out ?_;rfl;rfl)|fail)
    refine(Ga w w.heap.size g4 cap wr.heap.size j s n (sPl N s n) l p).last 12 kR kR kR ⟨
     RG.cE λa W hp=>⟨[(4,.slice (some (aZ g4)) l.length cap)],.slice (some (aZ g4)) l.length cap,W,⟨hp.o 4 kR,trivial⟩,kR,SE _ _,rfl⟩,
     RG.cE λa W hp=>⟨[(7,iZ j)],iZ j,W,⟨hp.o 7 kR,trivial⟩,kR,SE _ _,rfl⟩,
     RG.cE λa W hp=>⟨[(4,.slice (some (aZ g4)) l.length cap)],.slice (some (aZ g4)) l.length cap,W,⟨hp.o 4 kR,trivial⟩,kR,SE _ _,rfl⟩,
     RG.cE λa W hp=>⟨[(7,iZ j)],iZ j,W,⟨hp.o 7 kR,trivial⟩,kR,SE _ _,rfl⟩,
     RG.cE λa W hp=>⟨[(36,.slice (some (aZ g4)) l.length cap),(37,iZ j)],.pointer (some ⟨g4,0+37*j,none⟩),W,⟨hp.n 2 36 kR kR,hp.n 3 37 kR kR,trivial⟩,by
      rw[Ud.injEq];refine⟨kR,?_⟩;show((To 57 (.slice (some (aZ g4)) l.length cap) (iZ j)) >>= λv=>pure (UP v)).run prog W=_;rw[SK,atT g4 0 l.length cap j HL.out];rfl,SE _ _,rfl⟩,
     RG.cE λa W hp=>⟨[(38,.pointer (some ⟨g4,0+37*j,none⟩))],.pointer (some ⟨g4,0+37*j,none⟩),W,⟨hp.n 4 38 kR kR,trivial⟩,kR,SE _ _,rfl⟩,
     RG.lG 43 39 rfl Go.Proofs.YtnakcnljhmlikaaGreat.u40 λa W hp=>⟨g4,0+37*j,wn s,hp.n 5 39 kR kR,by
      obtain⟨g5,cap5,he5,-,-,hr5⟩:=rJ hp.b.1.ow HJ.2 (by have:=HL.out;omega);injection he5 with q1 q2 q3
      injection q1 with q1
      injection q1 with q1
      subst q1;have:=hr5 j HL.out;rw[HS HL.out]at this;rw[Sj];exact range_front' this,i40,rfl⟩,
     RG.cE λa W hp=>⟨[(6,.pointer (some ⟨wr.heap.size,0,none⟩))],.pointer (some ⟨wr.heap.size,0,none⟩),W,⟨hp.o 6 kR,trivial⟩,kR,SE _ _,rfl⟩,
     RG.lG 43 41 rfl Go.Proofs.YtnakcnljhmlikaaGreat.u40 λa W hp=>⟨wr.heap.size,0,wn n,hp.n 7 41 kR kR,jJ hp.b.2.2.1,i40,rfl⟩,
     RG.jN λa W hp=>⟨[(40,nv s),(42,nv n)],114,#[nv s,nv n],⟨hp.n 6 40 kR kR,hp.n 8 42 kR kR,trivial⟩,kR,(GW HH.1 s n hsN.out hnN.out W).mono (by
      rintro e W' ⟨u,rfl,hb,rfl⟩;exact⟨_,rfl,hb,rfl⟩)⟩,
     RG.cE λa W hp=>⟨[(34,.slice (some (aZ g4)) l.length cap),(35,iZ j)],.pointer (some ⟨g4,0+37*j,none⟩),W,⟨hp.n 0 34 kR kR,hp.n 1 35 kR kR,trivial⟩,by
      rw[Ud.injEq];refine⟨kR,?_⟩;show((To 57 (.slice (some (aZ g4)) l.length cap) (iZ j)) >>= λv=>pure (UP v)).run prog W=_;rw[SK,atT g4 0 l.length cap j HL.out];rfl,SE _ _,rfl⟩,
     RG.cE λa W hp=>⟨[(44,.pointer (some ⟨g4,0+37*j,none⟩))],.pointer (some ⟨g4,0+37*j,none⟩),W,⟨hp.n 10 44 kR kR,trivial⟩,kR,SE _ _,rfl⟩,trivial⟩ ⟨HK.1.drew,HK.2⟩ ?_
    intro V W3 hR3 hB3;have hV9:=hR3 9 dC;have hV11:=hR3 11 dC;obtain⟨W4,hW4⟩:=hE (W3.setCells g4 (37*j) (wn (sPl N s n)));have K4:Hid (Mx w W4 w.heap.size (mrg N ns az (i+1)) (.slice (some (aZ g4)) l.length cap)):=by
     rw[<-hW4.out,KN.out,<-(HS HL.out)];exact hB3.1.again HJ.2 HJ.1 HL.out n
    have HTH:Hid (W3.there g4 (37*j) 4):=by
     intro t ht;have hj:=HL.out;rcases hB3.1.ow.2 with⟨h,-⟩|⟨g2,cap2,cur,he,-,hc,hn,-,hs,-⟩
     ·cases h
     ·injection he with he1 he2 he3
      injection he1 with he1
      injection he1 with he1
      subst he1;have hlt:37*j+t<cur.size:=by
       rw[hs];have:(j+1)*37<=cap2*37:=Vg 37 oM;omega
      refine⟨?_,?_⟩
      ·simp[V6,hc,hlt]
      ·simp[Zr,hc]
    dsimp only[RG.dJ,TG,List.take,List.drop];simp only[Act.put,List.setIfInBounds_toArray,SN,List.set_cons_zero];obtain⟨vz,hvz⟩:=hE (nv (sPl N s n));rw[hV9,hV11,hvz.out,Sj];go_wp2_with (first|(refine wpList_store_mid rfl 43 _ _ rfl g4 (37*j) (wn (sPl N s n)).toArray ?_ ?_ ?_ ?_ ?_ ?_;rfl;exact hvz.symm;exact HTH.out;exact i40;exact dE (sPl N s n);rw[show(wn (sPl N s n)).toArray.toList=wn (sPl N s n) from rfl,hW4.out])|fail)
    go_roundg (gk-1)
    case measure=>omega
    case rel=>exact⟨i+1,oM,rfl,K4⟩
  ·have hi':¬(i:Int)<(k:Int):=oM;obtain rfl:i=k:=oM;go_wp2_with fail
   refine(HDEL wr _ KM.out).mono ?_;rintro e w9 ⟨vv,rfl,hR9⟩;have HR9:=Hid.mk' hR9;go_wp2;go_ret;exact⟨_,rfl,HR9.out⟩
end
section
open Go.RowKit Go.Sort Go.Deep
variable {P:Nat}[NeZero P]{N:Nat}
def LF(l:List (Nat × Bs)):List (Nat × Bs):=l.filter λx=>x.1 != 0
theorem nG{l:List (Nat × Bs)}{j:Nat}(hj:j<l.length):LF (l.take (j+1))=LF (l.take j)++(if (l[j]).1=0 then [] else [l[j]]):=by
 unfold LF;rw[List.take_add_one,SH hj,List.filter_append]
 congr 1
 by_cases h:(l[j]).1=0
 ·simp[h]
 ·simp[h]
theorem MP(l:List (Nat × Bs))(j:Nat):(LF (l.take j)).length<=j:=
 SD (List.length_filter_le _ _) (by rw[UZ];exact Nat.min_le_left _ _)
theorem An{l:List (Nat × Bs)}{x:Nat × Bs}(h:x∈LF l):x∈l:=(List.mem_filter.1 h).1
theorem sQ{ns:Nat->Nat}:∀(m i:Nat),(∃j,i<=j/\j<i+m/\ns j=0)->∃i0,jV ns i m=((i0:Nat):Int)/\i<=i0/\i0<i+m/\ns i0=0/\∀j,i<=j->j<i0->ns j≠0
 | 0,i,h=>by obtain⟨j,h1,h2,-⟩:=h;omega
 | m+1,i,h=>by
  unfold jV;by_cases h0:ns i=0
  ·rw[if_pos h0];exact⟨i,rfl,Se _,oM,h0,λj h1 h2=>oM⟩
  ·rw[if_neg h0];obtain⟨j,h1,h2,h3⟩:=h;obtain⟨i0,e1,e2,e3,e4,e5⟩:=sQ m (i+1) ⟨j,by
    rcases UC i j with h|h
    ·omega
    ·obtain rfl:j=i:=oM;exact absurd h3 h0,oM,h3⟩
   refine⟨i0,e1,oM,oM,e4,λj' h1' h2'=>?_⟩;rcases UC i j' with h|h
   ·exact e5 j' h h2'
   ·obtain rfl:j'=i:=oM;exact h0
def Rw(W:World)(g j:Nat)(x:Nat × Bs):Prop:=W.rangeAt g (37*j) (wn x.1++aA x.2)
theorem Rw.below{W W':World}{g j:Nat}{x:Nat × Bs}(h:Rw W g j x)(hb:Below W.heap.size W W')(hg:g<W.heap.size):Rw W' g j x:=RG.range_below h hb hg
structure Dz(base:Nat)(w W:World)(g:Nat)(l:List (Nat × Bs))(j:Nat):Prop where
 bl:Below base w W
 hb:base<=W.heap.size
 lt:g<W.heap.size
 th:W.there g 0 (37*l.length)
 lo:∀a (ha:a<(LF (l.take j)).length),Rw W g a ((LF (l.take j))[a])
 hi:∀b (hb:b<l.length),j<=b->Rw W g b (l[b])
theorem Dz.grow{base:Nat}{w W W':World}{g:Nat}{l:List (Nat × Bs)}{j:Nat}(h:Dz base w W g l j)(hb:Below W.heap.size W W'):Dz base w W' g l j:=
 ⟨h.bl.trans (hb.mono h.hb),SD h.hb hb.size,Si h.lt hb.size,RG.eA h.th hb h.lt,λa ha=>(h.lo a ha).below hb h.lt,λb hb' hj=>(h.hi b hb' hj).below hb h.lt⟩
theorem Dz.skip{base:Nat}{w W:World}{g:Nat}{l:List (Nat × Bs)}{j:Nat}(h:Dz base w W g l j)(hj:j<l.length)(h0:(l[j]).1=0):Dz base w W g l (j+1):=by
 have e:LF (l.take (j+1))=LF (l.take j):=by rw[nG hj,if_pos h0,U7]
 exact⟨h.bl,h.hb,h.lt,h.th,λa ha=>by
  have h1:=h.lo a (by rw[<-e];exact ha);simp only[e];exact h1,λb hb hj=>h.hi b hb oM⟩
theorem Dz.put{base:Nat}{w W:World}{g:Nat}{l:List (Nat × Bs)}{j:Nat}(h:Dz base w W g l j)(hg:base<=g)(hs:∀x∈l.map (·.2),x.size=33)(hj:j<l.length)(h0:(l[j]).1≠0):
 Dz base w (W.setCells g (37*(LF (l.take j)).length) (wn (l[j]).1++aA (l[j]).2)) g l (j+1):=by
 have e:LF (l.take (j+1))=LF (l.take j)++[l[j]]:=by rw[nG hj,if_neg h0]
 have hle:=MP l j;have hsz:∀x∈l,(wn x.1++aA x.2).length=37:=λx hx=>gU (hs x.2 (Tq.2 ⟨x,hx,rfl⟩))
 have hlen:=hsz (l[j]) (Tu hj);refine⟨RG.below_setCells hg _ _ _ h.bl,by rw[RG.setCells_size];exact h.hb,by rw[RG.setCells_size];exact h.lt,World.there_setCells h.th _ _ _,λa ha=>?_,λb hb hjb=>?_⟩
 ·simp only[e]at ha⊢;by_cases hlt:a<(LF (l.take j)).length
  ·rw[List.getElem_append_left hlt];have h1:=h.lo a hlt;have hm:=List.mem_of_mem_take (An (Tu hlt));exact Ul h1 g _ _ (SJ (SY (by rw[hsz _ hm];omega)))
  ·have ha2:a=(LF (l.take j)).length:=by rw[Su,List.length_singleton]at ha;omega
   subst ha2;rw[List.getElem_append_right (Se _)];simp only[WP,List.getElem_singleton];refine World.rangeAt_setCells_same W g _ _ λt ht=>?_
   rw[hlen]at ht;have:=h.th (37*(LF (l.take j)).length+t) oM;rwa[Sj]at this
 ·exact Ul (h.hi b hb oM) g _ _ (SJ (SJ (by rw[hlen];omega)))
theorem Gh(n:Nat):∀v∈(UB (SX zT.toArray).cells n).toList,v.oneCell'=true:=by
 intro v hv;have hz:=MV;have hl:(SX zT.toArray).cells.size=37:=kR;unfold UB at hv;rw[Array.toList_map]at hv;obtain⟨i,-,rfl⟩:=Tq.1 hv;have hi:i%(SX zT.toArray).cells.size<(SX zT.toArray).cells.size:=Ug _ (by rw[hl];decide);rw[getElem!_pos (SX zT.toArray).cells _ hi];exact hz _ (by
  have e:(SX zT.toArray).cells.toList=zT:=kR;have h2:=Array.getElem_mem_toList hi;rwa[e]at h2)
theorem LJ(g i n c:Nat)(w:World)(hn:0<n)(h:w.there g 0 (37*(i+n))):∃Z:List Value,∀ty,(YI #[57] ty #[.slice (some ⟨g,37*i,none⟩) n c]).run prog w=.ok (.tuple #[]) (w.setCells g (37*i) Z):=by
 have h1:=MU w;have h3:=run_underlying BW w;have ho:=Gh n;have hl:(UB (SX zT.toArray).cells n).toList.length=n*37:=by
  have:(SX zT.toArray).cells.size=37:=kR;rw[Sx,size_zeroCells,this]
 generalize (SX zT.toArray)=Zv at h1 ho hl;generalize hZ:(UB Zv.cells n).toList=Z at ho hl;have h4:(storeCells ⟨g,37*i,none⟩ Z).run prog w=.ok () (w.setCells g (37*i) Z):=
  run_storeCells_cells (P:=prog) g (37*i) Z 0 w (λj hj=>by rw[hl]at hj;have:=(h (37*i+j) oM).1;simpa using this) (λj hj=>by rw[hl]at hj;have:=(h (37*i+j) oM).2;simpa using this) ho
 refine⟨Z,λty=>?_⟩;obtain⟨n',rfl⟩:∃n',n=n'+1:=⟨n-1,oM⟩
 unfold YI;simp[SK,h3,h1,hZ,h4]
theorem QW(g n c i:Nat)(hi:i<=n)(hn:n<=c)(w:World):(VN 57 (.slice (some (aZ g)) n c) none (some (iZ i)) none).run prog w=.ok (.slice (some (aZ g)) i c) w:=by
 have h1:¬(i:Int)<0:=oM;have h2:(i:Int)<=(c:Int):=oM;go_simp
theorem QV(g n c i:Nat)(hi:i<n)(hn:n<=c)(w:World):(VN 57 (.slice (some (aZ g)) n c) (some (iZ i)) none none).run prog w=.ok (.slice (some ⟨g,37*i,none⟩) (n-i) (c-i)) w:=by
 have h1:¬(i:Int)<0:=oM;have h2:(i:Int)<=(n:Int):=oM;go_simp;rw[if_neg oM,S9]
def TmL(W:World)(q:Option Addr)(l:List (Nat × Bs)):Prop:=0<l.length->∃g,q=some (aZ g)/\g<W.heap.size/\∀j (hj:j<l.length),W.rangeAt g (37*j) (wn (l[j]).1++aA (l[j]).2)
def Sa(base:Nat)(l:List (Nat × Bs))(w:World)(e:Value)(w':World):Prop:=Below base w w'/\∃q cap,e=.slice q (LF l).length cap/\TmL w' q (LF l)
theorem EY{l:List (Nat × Bs)}(h:∀x∈l,x.1≠0):LF l=l:=List.filter_eq_self.2 λx hx=>by simpa using h x hx
theorem MO{l:List (Nat × Bs)}{i0:Nat}(hi:i0<l.length)(h0:(l[i0]).1=0):∀j,i0<j->j<=l.length->(LF (l.take j)).length<j
 | 0,h,_=>oM
 | j+1,h,hj=>by
  rw[nG oM,Su];rcases UC i0 j with h1|h1
  ·have:=MO hi h0 j h1 oM;split<;>simp<;>omega
  ·obtain rfl:j=i0:=oM;rw[if_pos h0];have:=MP l j;simp;omega
theorem I0(l:List (Nat × Bs))(hl0:0<l.length)(hlk:l.length<=1000)(hs:∀x∈l.map (·.2),x.size=33)(hn:∀x∈l,x.1<top)(base:Nat)(v:Value)(w:World)(hb:base<=w.heap.size)(ho:w.ownsRow base 128 37 v l.length (aO l)):
 Calls prog 115 #[v,.func (.func 116) #[] #[]] w (Ret (Sa base l w)):=by
 obtain⟨g,c,rfl,hg1,hg2,hr⟩:=rJ ho hs hl0;have hsz:∀(j:Nat) (hj:j<l.length),(l[j]).2.size=33:=λj hj=>hs _ (Tq.2 ⟨_,Tu hj,rfl⟩)
 have hcap:l.length<=c/\w.there g 0 (37*l.length):=by
  rcases ho.2 with⟨h,-⟩|⟨g2,cap2,cur,he,-,hc,hn',-,hs',-⟩
  ·cases h
  ·injection he with he1 he2 he3
   injection he1 with he1
   injection he1 with he1
   subst he1;subst he3;refine⟨hn',λt ht=>?_⟩;have hlt:0+t<cur.size:=by
    rw[hs'];have:l.length*37<=c*37:=Vg 37 hn';omega
   exact⟨by simp only[V6,hc];simp;omega,by simp[Zr,hc]⟩
 by_cases hall:∀x∈l,x.1≠0
 ·have eL:=EY hall;refine(Bz g l.length c oM (λj=>((l[j]?).getD (0,#[])).1) (λj=>((l[j]?).getD (0,#[])).2) (λj hj=>by rw[SH hj];exact hn _ (Tu hj)) (λj hj=>by rw[SH hj];exact hall _ (Tu hj)) (λj hj=>by rw[SH hj];exact hsz j hj) w hg2 (λj hj=>by rw[SH hj];exact hr j hj)).mono ?_;rintro e w9 ⟨vv,rfl,hb9,rfl⟩;refine⟨_,rfl,hb9.mono hb,some (aZ g),c,by rw[eL],?_⟩;rw[eL];exact λ_=>⟨g,rfl,Si hg2 hb9.size,λj hj=>RG.range_below (hr j hj) hb9 hg2⟩
 ·have hI:=En g l.length c oM (λj=>((l[j]?).getD (0,#[])).1) (λj=>((l[j]?).getD (0,#[])).2) (λj hj=>by rw[SH hj];exact hn _ (Tu hj)) (λj hj=>by rw[SH hj];exact hsz j hj) w hg2 (λj hj=>by rw[SH hj];exact hr j hj);obtain⟨i0,e1,-,e3,e4,e5⟩:=sQ (ns:=λj=>((l[j]?).getD (0,#[])).1) l.length 0 (by
   have:∃x,x∈l/\x.1=0:=TQ λh=>hall λx hx h0=>h ⟨x,hx,h0⟩
   obtain⟨x,hx,hx0⟩:=this;obtain⟨j,hj⟩:=Ub hx;exact⟨j,Us _,by have:=(SI.1 hj).1;omega,by show((l[j]?).getD (0,#[])).1=0;rw[hj];exact hx0⟩)
  rw[e1]at hI;have hi0:i0<l.length:=oM;have hz0:(l[i0]).1=0:=by
   have:((l[i0]?).getD (0,#[])).1=0:=e4;rw[SH hi0]at this;exact this
  have hpre:LF (l.take i0)=l.take i0:=EY λx hx=>by
   obtain⟨j,hj⟩:=Ub hx;rw[T0]at hj;split at hj
   ·rename_i hji
    have:=e5 j (Us _) hji;have h6:((l[j]?).getD (0,#[])).1≠0:=this;rw[hj]at h6;exact h6
   ·cases hj
  have hlen0:(LF (l.take i0)).length=i0:=by rw[hpre,UZ];omega
  have D0:Dz base w w g l i0:=⟨SE _ _,hb,hg2,hcap.2,λa ha=>by
   simp only[hpre]at ha⊢;rw[List.getElem_take];exact hr a _,λb hb' _=>hr b hb'⟩
  have D1:Dz base w w g l (i0+1):=D0.skip hi0 hz0;have e6:(LF (l.take (i0+1))).length=i0:=by rw[nG hi0,if_pos hz0,U7];exact hlen0
  have HI:=Hid.mk' hI;have HZ:Hid (∀j,i0<j->j<=l.length->(LF (l.take j)).length<j):=MO hi0 hz0;have HD1:=Hid.mk' D1;have HF:Hid (base<=g/\l.length<=c/\(∀x∈l.map (·.2),x.size=33)/\(∀x∈l,x.1<top)/\∀(j:Nat) (hj:j<l.length),(l[j]).2.size=33):=⟨hg1,hcap.1,hs,hn,hsz⟩
  obtain⟨d',hd3,hd4⟩:=Sf.1 uT;have HD:Hid (prog.underlying 128=some d'/\d'.isRow=true):=⟨hd3,hd4⟩
  have hi1:¬((i0:Int) = -1):=oM;clear hd3 hd4 hI D0 D1 hs hn ho hr hsz hcap hall e1 e4 e5 hpre hlen0 hz0 hg1 hg2;go_enter Tryz.func115,Tryz.ntmps115;go_wp2_with fail
  refine HI.mono ?_;rintro e w1 ⟨vv,rfl,hb1,rfl⟩;have K1:Hid (Dz base w w1 g l (i0+1)):=HD1.grow hb1;clear hb1 HI HD1;go_wp2_with fail
  go_loopg [5,6] (l.length-(i0+1)) (λm s5 s6 W=>∃j:Nat,i0<j/\j+m=l.length/\s6=iZ j/\s5=iZ ((LF (l.take j)).length:Int)/\Hid (Dz base w W g l j))
  case atStart=>exact⟨i0+1,oM,oM,rfl,by rw[e6],K1⟩
  case round =>
   clear K1;obtain⟨j,hij,hjk,rfl,rfl,KM⟩:=hrel;by_cases hj:j<l.length
   ·have hj':(j:Int)<(l.length:Int):=oM;obtain⟨n,hne⟩:∃n,Hid ((l[j]'hj).1=n):=⟨(l[j]'hj).1,(rfl:(l[j]'hj).1=(l[j]'hj).1)⟩
    obtain⟨p,hpe⟩:∃p,Hid ((l[j]'hj).2=p):=⟨(l[j]'hj).2,(rfl:(l[j]'hj).2=(l[j]'hj).2)⟩
    obtain⟨i,hie⟩:∃i,Hid ((LF (l.take j)).length=i):=⟨_,rfl⟩
    have hilt:i<l.length:=by have:=HZ.out j hij oM;rw[hie.out]at this;omega
    rw[hie.out];have hps:Hid (p.size=33):=by rw[<-hpe.out];exact HF.2.2.2.2 j hj
    have hnt:Hid (n<top):=by rw[<-hne.out];exact HF.2.2.2.1 _ (Tu hj)
    have B0:Hid (wr.rangeAt g (37*j) (wn n++aA p)):=by
     have h:=KM.hi j hj (Se _);unfold Rw at h;rw[hne.out,hpe.out]at h;exact h
    obtain⟨W1,hW1⟩:∃W1,Hid (wr.alloc (.cells zT.toArray 128)=W1):=⟨_,rfl⟩
    obtain⟨W2,hW2⟩:∃W2,Hid (W1.setCells wr.heap.size 0 (wn n++aA p)=W2):=⟨_,rfl⟩
    have hlen:(wn n++aA p).length=37:=gU hps.out;have F1:Hid (Row W1 wr.heap.size zT/\Below wr.heap.size wr W1/\W1.heap.size=wr.heap.size+1):=by rw[<-hW1.out];exact⟨aD wr _ _,aB wr _,Sq _ _⟩
    have F2:Hid (Row W2 wr.heap.size (wn n++aA p)/\Below wr.heap.size wr W2):=by rw[<-hW2.out];exact⟨F1.1.put (by rw[hlen];rfl),RG.below_setCells (Se _) _ _ _ F1.2.1⟩
    have HLT:Hid ((prog.info? 128).map (·.size)=some (wn n++aA p).length):=by show _=_;rw[hlen];exact iT
    have HLS:Hid ((prog.info? 128).map (·.size)=some (wn n++aA p).toArray.size/\W1.there wr.heap.size 0 (wn n++aA p).toArray.size):=by
     have e:(wn n++aA p).toArray.size=37:=by rw[Tf];exact hlen
     rw[e];exact⟨iT,F1.1.2.2⟩
    have HAL:Hid ((wn n++aA p).toArray.all (·.oneCell')=true):=by
     show _=_;rw[Up];intro u hu;exact cells_one n p u (Vj.1 hu)
    have hix:=atT g 0 l.length c j hj;obtain⟨vt,hvt⟩:∃v,Hid (tvl n p=v):=⟨_,rfl⟩
    have hvt':Hid (SX (wn n++aA p).toArray=vt):=hvt;have K2:Hid (Dz base w W2 g l j):=KM.grow F2.2;have HN:=Hid.mk' (Ig hnt.out hps.out W2);rw[hvt.out]at HN;clear KM;go_wp2_with (first|(refine wpList_load_mid rfl 128 _ rfl g (37*j) ?_ (wn n++aA p) d' ?_ ?_ ?_ ?_ ?_;rfl;exact B0.out;exact HD.1;exact HD.2;exact HLT.out;rw[hvt'.out])|(refine bG (v:=.pointer (some ⟨wr.heap.size,0,none⟩)) (w':=W1) rfl (.alloc 128) rfl ?_ ?_;(rw[<-hW1.out];kernel_rfl))|(refine wpList_store_mid rfl 128 _ _ rfl wr.heap.size 0 (wn n++aA p).toArray ?_ ?_ ?_ ?_ ?_ ?_;rfl;exact hvt'.symm;exact HLS.2;exact HLS.1;exact HAL.out;rw[show(wn n++aA p).toArray.toList=wn n++aA p from rfl,hW2.out])|(refine wpList_load_mid rfl 128 _ rfl wr.heap.size 0 ?_ (wn n++aA p) d' ?_ ?_ ?_ ?_ ?_;rfl;exact F2.1.2.1;exact HD.1;exact HD.2;exact HLT.out;rw[hvt'.out])|fail)
    refine HN.mono ?_;rintro e W3 ⟨vv,rfl,hb3,rfl⟩;have K3:Hid (Dz base w W3 g l j/\Row W3 wr.heap.size (wn n++aA p)):=⟨K2.grow hb3,F2.1.below hb3⟩
    clear hb3 K2 HN F2 F1;by_cases h0:n=0
    ·rw[show decide (n=0)=true by simp[h0]];have K4:Hid (Dz base w W3 g l (j+1)):=K3.1.skip hj (by rw[hne.out];exact h0);have e4:Hid ((LF (l.take (j+1))).length=i):=by
      show _=_;rw[nG hj,if_pos (by rw[hne.out];exact h0),U7];exact hie.out
     go_wp2;go_roundg (gk-1)
     case measure=>omega
     case rel=>exact⟨j+1,oM,oM,rfl,by rw[e4.out],K4⟩
    ·rw[show decide (n=0)=false by simp[h0]];obtain⟨W4,hW4⟩:∃W4,Hid (W3.setCells g (37*i) (wn n++aA p)=W4):=⟨_,rfl⟩
     have K4:Hid (Dz base w W4 g l (j+1)):=by
      have h:=K3.1.put HF.1 HF.2.2.1 hj (by rw[hne.out];exact h0);rw[hie.out,hne.out,hpe.out,hW4.out]at h;exact h
     have e4:Hid ((LF (l.take (j+1))).length=i+1):=by
      show _=_;rw[nG hj,if_neg (by rw[hne.out];exact h0),Su,hie.out];rfl
     have HTH:Hid (W3.there g (37*i) (wn n++aA p).toArray.size):=by
      have e:(wn n++aA p).toArray.size=37:=by rw[Tf];exact hlen
      rw[e];intro t ht;have:=K3.1.th (37*i+t) oM;rwa[Sj]at this
     have hix2:=atT g 0 l.length c i hilt;go_wp2_with (first|(refine wpList_load_mid rfl 128 _ rfl wr.heap.size 0 ?_ (wn n++aA p) d' ?_ ?_ ?_ ?_ ?_;rfl;exact K3.2.2.1;exact HD.1;exact HD.2;exact HLT.out;rw[hvt'.out])|(refine wpList_store_mid rfl 128 _ _ rfl g (37*i) (wn n++aA p).toArray ?_ ?_ ?_ ?_ ?_ ?_;rfl;exact hvt'.symm;exact HTH.out;exact HLS.1;exact HAL.out;rw[show(wn n++aA p).toArray.toList=wn n++aA p from rfl,hW4.out])|fail)
     go_roundg (gk-1)
     case measure=>omega
     case rel=>exact⟨j+1,oM,oM,rfl,by rw[e4.out];rfl,K4⟩
   ·have hj':¬(j:Int)<(l.length:Int):=oM;obtain rfl:j=l.length:=oM;have eL:LF (l.take l.length)=LF l:=by rw[List.take_length]
    rw[eL];have hilt:(LF l).length<l.length:=by have:=HZ.out l.length hij (Se _);rw[eL]at this;exact this
    have hlo:∀a (ha:a<(LF l).length),Rw wr g a ((LF l)[a]):=λa ha=>by
     have:=KM.lo a (by rw[eL];exact ha);simp only[eL]at this;exact this
    have hszL:∀x∈LF l,(wn x.1++aA x.2).length=37:=λx hx=>gU (HF.2.2.1 _ (Tq.2 ⟨x,An hx,rfl⟩))
    obtain⟨Z,hZ⟩:=LJ g (LF l).length (l.length-(LF l).length) (c-(LF l).length) wr oM (by rw[show(LF l).length+(l.length-(LF l).length)=l.length by omega];exact KM.th);obtain⟨W5,hW5⟩:∃W5,Hid (wr.setCells g (37*(LF l).length) Z=W5):=⟨_,rfl⟩
    rw[hW5.out]at hZ;have K5:Hid (Below base w W5/\TmL W5 (some (aZ g)) (LF l)):=by
     rw[<-hW5.out];refine⟨RG.below_setCells HF.1 _ _ _ KM.bl,λ_=>⟨g,rfl,by rw[RG.setCells_size];exact KM.lt,λa ha=>?_⟩⟩;exact Ul (hlo a ha) g _ _ (SJ (SY (by rw[hszL _ (Tu ha)];omega)))
    have hs1:=QV g l.length c (LF l).length hilt HF.2.1;have hs2:=QW g l.length c (LF l).length oM HF.2.1;clear KM hlo hszL eL hW5;obtain⟨i,hie⟩:∃i,Hid ((LF l).length=i):=⟨_,rfl⟩
    rw[hie.out]at hs1 hs2 hZ hilt⊢;go_wp2;go_ret;exact⟨_,rfl,K5.1,some (aZ g),c,by rw[hie.out];rfl,K5.2⟩
theorem Pf{p:Option Addr}{n c:Nat}{x:UInt8}:encB x≠.slice p n c:=λh=>by cases h
def El(n:Nat)(W:World)(x:Value)(b:Bs):Prop:=∃k c,x=.slice (some (aZ k)) n c/\n<=c/\b.size=n/\k<W.heap.size/\Holds encB W k 0 b
def isL(n:Nat)(W:World)(g:Nat):Prop:=∃p c,W.cell? ⟨g,0,none⟩=some (.slice p n c)
structure Gr(n:Nat)(v:Value)(W W':World):Prop where
 gr:W.grownBy W' v.ownBlock
 is:∀g,v.ownBlock=some g->isL n W g
theorem Gr.of{W W':World}{n:Nat}(h:Below W.heap.size W W'):Gr n (.slice none 0 0) W W':=
 ⟨⟨h.os,h.tape,h.output,h.size,λk hk _=>h.block k hk⟩,λg hg=>by cases hg⟩
theorem Gr.below{n:Nat}{v:Value}{w W W':World}{B:Nat}(h:Gr n v W W')(hb:Below B w W)(hB:B<=W.heap.size)(hv:∀g,v.ownBlock=some g->B<=g):Below B w W':=
 hb.grown h.gr hB (λk hk=>hv k hk)
theorem Gr.block{n k:Nat}{v:Value}{W W':World}(h:Gr n v W W')(hk:k<W.heap.size)(hne:∀p c,W.cell? ⟨k,0,none⟩≠some (.slice p n c)):W'.heap[k]? = W.heap[k]? :=
 h.gr.block k hk λe=>by
  obtain⟨p,c,hc⟩:=h.is k e.symm;exact hne p c hc
theorem Holds.kept{W W':World}{k:Nat}{b:Bs}(h:Holds encB W k 0 b)(e:W'.heap[k]? = W.heap[k]?):Holds encB W' k 0 b:=λj hj=>by
 rw[SR (a:=⟨k,0+j,none⟩) e,Uf (a:=⟨k,0+j,none⟩) e];exact h j hj
theorem El.kept{m n:Nat}{v x:Value}{W W':World}{b:Bs}(h:El m W x b)(hm:0<m)(hg:Gr n v W W'):El m W' x b:=by
 obtain⟨k,c,rfl,h1,h2,h3,h4⟩:=h;refine⟨k,c,rfl,h1,h2,Si h3 hg.gr.size,Holds.kept h4 (hg.block h3 λp c' hc=>?_)⟩;have:=(h4 0 oM).1;rw[Sj,hc]at this;exact Pf (Td.inj this).symm
theorem Row.kept{n k:Nat}{v:Value}{W W':World}{vs:List Value}(h:Row W k vs)(hg:Gr n v W W')(hne:∀p c,vs[0]?≠some (.slice p n c))(hl:0<vs.length):Row W' k vs:=by
 have e:=hg.block h.1 λp c hc=>by
  have h0:=h.2.1 0 vs[0] (SH hl);rw[Sj,hc]at h0;exact hne p c (by rw[SH hl,h0])
 refine⟨Si h.1 hg.gr.size,λj u hj=>?_,λj hj=>?_⟩
 ·rw[SR (a:=⟨k,0+j,none⟩) e];exact h.2.1 j u hj
 ·rw[SR (a:=⟨k,0+j,none⟩) e,Uf (a:=⟨k,0+j,none⟩) e];exact h.2.2 j hj
structure Lo(n base:Nat)(W:World)(v:Value)(bs:List Bs):Prop where
 ex:∃xs:List Value,xs.length=bs.length/\W.ownsRow base 23 1 v bs.length xs/\∀(j:Nat) (x:Value) (b:Bs),xs[j]? = some x->bs[j]? = some b->El n W x b
 nil:bs=[]->v=.slice none 0 0
theorem Lo.begin(n base:Nat)(W:World):Lo n base W (.slice none 0 0) []:=⟨⟨[],rfl,World.ownsRow_nil _ _ _ _,λj x b h=>by cases h⟩,λ_=>rfl⟩
theorem add0(g j:Nat):(⟨g,0,none⟩:Addr).add j=⟨g,j,none⟩:=by unfold Vw;split<;>simp_all
theorem Lo.isL{n base:Nat}{W:World}{v:Value}{bs:List Bs}(h:Lo n base W v bs){g:Nat}(hg:v.ownBlock=some g):isL n W g:=by
 obtain⟨xs,h1,h2,h3⟩:=h.ex;have hne:bs≠[]:=λe=>by rw[h.nil e]at hg;cases hg
 cases bs with
 | nil=>exact absurd rfl hne
 | cons b r =>
  cases xs with
  | nil=>cases h1
  | cons x xr =>
   obtain⟨k,c,rfl,-⟩:=h3 0 x b rfl rfl;have:=h2.cells hg 0 _ rfl;rw[add0]at this;exact⟨_,_,this⟩
theorem Lo.lt{n base:Nat}{W:World}{v:Value}{bs:List Bs}(h:Lo n base W v bs):∀g,v.ownBlock=some g->base<=g/\g<W.heap.size:=by
 obtain⟨xs,h1,h2,h3⟩:=h.ex;exact h2.lt
theorem Lo.kept{m n base:Nat}{W W':World}{v v':Value}{bs:List Bs}(h:Lo m base W v bs)(hm:0<m)(hg:Gr n v' W W')(hne:m≠n):Lo m base W' v bs:=by
 have hL:=λ{g}=>h.isL (g:=g)
 obtain⟨xs,h1,h2,h3⟩:=h.ex;refine⟨⟨xs,h1,h2.kept hg.gr ?_,λj x b hx hb=>(h3 j x b hx hb).kept hm hg⟩,h.nil⟩;cases hv:v.ownBlock with
 | none=>exact SY rfl
 | some g =>
  refine SJ λe=>hne ?_
  obtain⟨p,c,hc⟩:=hL hv;obtain⟨p',c',hc'⟩:=hg.is g e.symm;rw[hc]at hc';injection hc' with hc'
  injection hc' with _ h5 _
theorem P3:(prog.info? 23).map (λi=>(i.size,i.bytes,i.zero.map λz=>z.cells.size))=some (1,24,some 1):=kR
theorem QP:prog.underlying 22=some (.slice 23):=kR
theorem Lo.app{n base g:Nat}{W:World}{v x:Value}{bs:List Bs}{b:Bs}(h:Lo n base W v bs)(hn:0<n)(hx:El n W x b)(hc:W.cell? ⟨g,0,none⟩=some x)(hk:bs.length<=1000000)(hb:base<=W.heap.size):
 ∃v' W',(UG #[22,22] 22 #[v,.slice (some (aZ g)) 1 1]).run prog W=.ok v' W'/\Lo n base W' v' (bs++[b])/\Gr n v W W':=by
 obtain⟨i,hi,he⟩:=Sf.1 P3;simp only[Ud.injEq]at he;obtain⟨h1,h2,h3⟩:=he;obtain⟨z,hz,hz2⟩:=Sf.1 h3;obtain⟨xs,x1,x2,x3⟩:=h.ex;obtain⟨v',W',r1,r2,r3,r4⟩:=run_append_own (P:=prog) W base 22 22 23 i z 1 24 QP hi hz h1 h2 hz2 dC v bs.length xs x2 (aZ g) 1 1 [x] rfl
  (λj u hj=>by
   cases j with
   | zero =>
    obtain rfl:x=u:=by simpa using hj
    rw[add0];exact hc
   | succ j=>simp at hj) (λu hu=>by
   obtain rfl:u=x:=by simpa using hu
   obtain⟨k,c,rfl,-⟩:=hx;rfl) (by unfold maxLen;omega) oM hb
 have G:Gr n v W W':=⟨r3,λg hg=>h.isL hg⟩
 refine⟨v',W',r1,⟨⟨xs++[x],by simp[x1],by rw[Su];exact r2,λj y c hy hcy=>?_⟩,λe=>by simp at e⟩,G⟩;by_cases hj:j<bs.length
 ·rw[Ty oM]at hy hcy;exact(x3 j y c hy hcy).kept hn G
 ·rw[Ut oM]at hy hcy;rw[x1]at hy;cases hjj:j-bs.length with
  | zero =>
   rw[hjj]at hy hcy;obtain rfl:x=y:=by simpa using hy
   obtain rfl:b=c:=by simpa using hcy
   exact hx.kept hn G
  | succ d=>rw[hjj]at hy;simp at hy
theorem Fj{a:Bs}(ha:a.size=33)(w:World):Calls prog 72 #[pvl a] w (rZ w λe w'=>El 33 w' e a):=by
 have B1:=Hid.mk' (yH ha w);obtain⟨w1,hw1⟩:=hE (w.alloc (.cells (aA a).toArray 35));rw[hw1.out]at B1;have K:Hid (Row w1 w.heap.size (aA a)/\Below w.heap.size w w1):=by rw[<-hw1.out];exact⟨aD w _ _,aB w _⟩
 obtain⟨va,hva⟩:=hE (pvl a);have B1':Hid ((TF 35 va).run prog w=.ok (.pointer (some ⟨w.heap.size,0,none⟩)) w1):=by rw[<-hva.out];exact B1
 rw[hva.out];have hs:=QX w.heap.size;go_enter Tryz.func72,Tryz.ntmps72;go_wp2_with (first|(refine aI (u:=va) (v:=.pointer (some ⟨w.heap.size,0,none⟩)) (w':=w1) rfl 35 (.tmp 0) rfl ?_ ?_ ?_;rfl;exact B1'.out))
 go_ret;exact⟨_,rfl,K.2,w.heap.size,33,rfl,oM,ha,K.1.1,row_holds K.1⟩
def Bo(n B0:Nat)(W:World)(v:Value)(b:Bs):Prop:=∃k x,v=.slice (some (aZ k)) 1 1/\B0<=k/\k<W.heap.size/\W.cell? ⟨k,0,none⟩=some x/\El n W x b
theorem Bo.kept{m n B0:Nat}{W W':World}{v u:Value}{b:Bs}(h:Bo n B0 W v b)(hn:0<n)(hg:Gr m u W W')(hu:∀g,u.ownBlock=some g->g<B0):Bo n B0 W' v b:=by
 obtain⟨k,x,rfl,h1,h2,h3,h4⟩:=h;refine⟨k,x,rfl,h1,Si h2 hg.gr.size,?_,h4.kept hn hg⟩;rw[SR (a:=⟨k,0,none⟩) (hg.gr.block k h2 λe=>by have:=hu k e.symm;omega)];exact h3
def Tm(W:World)(q:Option Addr)(k:Nat)(ns:Nat->Nat)(az:Nat->Bs):Prop:=0<k->∃g,q=some (aZ g)/\g<W.heap.size/\∀j,j<k->W.rangeAt g (37*j) (wn (ns j)++aA (az j))
theorem Tm.kept{m k:Nat}{W W':World}{u:Value}{q:Option Addr}{ns:Nat->Nat}{az:Nat->Bs}(h:Tm W q k ns az)(hg:Gr m u W W'):Tm W' q k ns az:=λhk=>by
 obtain⟨g,h1,h2,h3⟩:=h hk;refine⟨g,h1,Si h2 hg.gr.size,λj hj i v hv=>?_⟩;have e:=hg.block h2 λp c hc=>by
  have h0:=h3 0 hk 0 _ (show(wn (ns 0)++aA (az 0))[0]? = some _ from rfl);rw[show 37*0+0=0 from rfl,hc]at h0;cases h0
 rw[SR (a:=⟨g,37*j+i,none⟩) e];exact h3 j hj i v hv
section
variable (w0:World) (v3 v4:Value) (k6 n B0 base:Nat) (p:Bs) (bs cs:List Bs) (q:Option Addr) (k:Nat) (ns:Nat->Nat) (az:Nat->Bs)
def PR:Nat->Value->World->Prop
 | 0,v,_=>v=v3
 | 1,v,_=>v=pZ k6
 | 2,v,_=>v=nv n
 | 3,v,w=>El 32 w v (bx n)
 | 4,v,w=>Bo 32 B0 w v (bx n)
 | 5,v,w=>Lo 32 base w v (bs++[bx n])
 | 6,v,_=>v=v4
 | 7,v,_=>v=.pointer (some ⟨k6,4,none⟩)
 | 8,v,_=>v=pvl p
 | 9,v,w=>El 33 w v p
 | 10,v,w=>Bo 33 B0 w v p
 | 11,v,w=>Lo 33 base w v (cs++[p])
 | 12,v,w=>Lo 32 base w v (bs++[bx n])
 | 13,v,w=>Lo 33 base w v (cs++[p])
 | _,_,_=>True
def PBs:Nat->World->Prop
 | 0,w=>Row w k6 (wn n++aA p)
 | 1,w=>Lo 32 base w v3 bs
 | 2,w=>Lo 33 base w v4 cs
 | 3,w=>Below base w0 w/\base<=w.heap.size/\B0<=w.heap.size
 | 4,w=>Tm w q k ns az
 | 5,w=>Row w base z33
 | _,_=>True
def PE:Nat->World->World->Prop
 | 5=>Gr 32 v3
 | 11=>Gr 33 v4
 | _=>Gr 0 (.slice none 0 0)
def Pk1:Nat->List Nat
 | 4=>[5]
 | 10=>[11]
 | _=>[]
def Pk2:Nat->List Nat
 | 1=>[5]
 | 2=>[11]
 | _=>[]
def FP:RG.Flow:=⟨PR v3 v4 k6 n B0 base p bs cs,PBs w0 v3 v4 k6 n B0 base p bs cs q k ns az,PE v3 v4,Pk1,Pk2⟩
theorem Jv{i:Nat}{w w':World}(h:PE v3 v4 i w w'):∃m u,Gr m u w w'/\((i=5/\m=32/\u=v3)\/(i=11/\m=33/\u=v4)\/(i≠5/\i≠11/\m=0/\u=.slice none 0 0)):=by
 unfold PE at h;split at h
 ·exact⟨_,_,h,SY ⟨rfl,rfl,rfl⟩⟩
 ·exact⟨_,_,h,SJ (SY ⟨rfl,rfl,rfl⟩)⟩
 ·rename_i h1 h2
  exact⟨_,_,h,SJ (SJ ⟨h1,h2,rfl,rfl⟩)⟩
variable (hv3:∀g,v3.ownBlock=some g->base<=g/\g<B0) (hv4:∀g,v4.ownBlock=some g->base<=g/\g<B0)
include hv3 hv4
theorem Ju{i m:Nat}{u:Value}(h:(i=5/\m=32/\u=v3)\/(i=11/\m=33/\u=v4)\/(i≠5/\i≠11/\m=0/\u=.slice none 0 0)):∀g,u.ownBlock=some g->base<=g/\g<B0:=by
 rcases h with⟨-,-,rfl⟩|⟨-,-,rfl⟩|⟨-,-,-,rfl⟩
 ·exact hv3
 ·exact hv4
 ·intro g hg;cases hg
theorem O5(i j:Nat)(hj:j<14)(hij:i≠j)(hk:(Pk1 j).contains i=false)(h1:¬(j=12/\i=5))(h2:¬(j=13/\i=11))(v:Value)(w w':World)(hE:PE v3 v4 i w w')(hR:PR v3 v4 k6 n B0 base p bs cs j v w):PR v3 v4 k6 n B0 base p bs cs j v w':=by
 obtain⟨m,u,hg,hc⟩:=Jv v3 v4 hE;have hu:=Ju v3 v4 B0 base hv3 hv4 hc;have m32:m=32->i=5:=λh=>by rcases hc with⟨h1,-⟩|⟨-,h2,-⟩|⟨-,-,h2,-⟩<;>omega
 have m33:m=33->i=11:=λh=>by rcases hc with⟨-,h2,-⟩|⟨h1,-⟩|⟨-,-,h2,-⟩<;>omega
 match j,hj,hR with
 | 0,_,h=>exact h
 | 1,_,h=>exact h
 | 2,_,h=>exact h
 | 3,_,h=>exact El.kept h dC hg
 | 4,_,h=>exact Bo.kept h dC hg λg hgg=>(hu g hgg).2
 | 5,_,h=>exact Lo.kept h dC hg λe=>hij (m32 e.symm)
 | 6,_,h=>exact h
 | 7,_,h=>exact h
 | 8,_,h=>exact h
 | 9,_,h=>exact El.kept h dC hg
 | 10,_,h=>exact Bo.kept h dC hg λg hgg=>(hu g hgg).2
 | 11,_,h=>exact Lo.kept h dC hg λe=>hij (m33 e.symm)
 | 12,_,h=>exact Lo.kept h dC hg λe=>h1 ⟨rfl,m32 e.symm⟩
 | 13,_,h=>exact Lo.kept h dC hg λe=>h2 ⟨rfl,m33 e.symm⟩
 | _+14,hj,_=>omega
theorem Mb(i b:Nat)(hk:(Pk2 b).contains i=false)(w w':World)(hE:PE v3 v4 i w w')(hR:PBs w0 v3 v4 k6 n B0 base p bs cs q k ns az b w):PBs w0 v3 v4 k6 n B0 base p bs cs q k ns az b w':=by
 obtain⟨m,u,hg,hc⟩:=Jv v3 v4 hE;have hu:=Ju v3 v4 B0 base hv3 hv4 hc;have m32:m=32->i=5:=λh=>by rcases hc with⟨h1,-⟩|⟨-,h2,-⟩|⟨-,-,h2,-⟩<;>omega
 have m33:m=33->i=11:=λh=>by rcases hc with⟨-,h2,-⟩|⟨h1,-⟩|⟨-,-,h2,-⟩<;>omega
 match b,hk,hR with
 | 0,_,h=>exact Row.kept h hg (λp c e=>by cases e) (by rw[Su];exact Si dC (Wn 4 _))
 | 1,hk,h=>exact Lo.kept h dC hg λe=>by rw[m32 e.symm]at hk;cases hk
 | 2,hk,h=>exact Lo.kept h dC hg λe=>by rw[m33 e.symm]at hk;cases hk
 | 3,_,h=>exact⟨hg.below h.1 h.2.1 λg hgg=>(hu g hgg).1,SD h.2.1 hg.gr.size,SD h.2.2 hg.gr.size⟩
 | 4,_,h=>exact Tm.kept h hg
 | 5,_,h=>exact Row.kept h hg (λp c e=>by cases e) dC
 | _+6,_,_=>trivial
end
theorem Lo.drew{n base:Nat}{W:World}{v:Value}{bs:List Bs}(h:Lo n base W v bs):Lo n base W.drew v bs:=⟨h.ex,h.nil⟩
theorem SumR.all(C:Fld P)(O:Ord N){w w':World}{k:Nat}(hk:k<=512){ns:Nat->Nat}{X:Nat->EC.Pt P}(hn:∀j,j<k->ns j<N)(hX:∀j,j<k->EC.On (X j)){L M:Nat->Bs}(hL:∀j,j<k->L j=bx (ns j))(hM:∀j,j<k->M j=wr (X j)){e:Value}(h:SumR P N w k k L M e w'):
 Jw w (wr (EC.tot X k (λj=>(ns j:Int)))) e w':=by
 have hq:∀j,j<k->rq N (L j)=some (ns j):=λj hj=>by
  rw[hL j hj];have hb:=Dn (Si (hn j hj) O.le);unfold rq;rw[if_pos ⟨jR _,by rw[hb];exact hn j hj⟩,hb]
 have hr:∀j,j<k->∃p,rd P (M j)=some p/\pt p=X j:=λj hj=>by rw[hM j hj];exact DZ C (hX j hj)
 rcases h with⟨h,-⟩|⟨-,h,-⟩|⟨-,-,⟨⟨j,hj,hn'⟩,-⟩|⟨ns',hns,⟨⟨j,hj,hn'⟩,-⟩|⟨xs,ys,hxy,h⟩⟩⟩
 ·exact absurd rfl h
 ·omega
 ·rw[hq j hj]at hn';cases hn'
 ·obtain⟨p,hp,-⟩:=hr j hj;rw[hp]at hn';cases hn'
 ·have e1:∀j,j<k->ns' j=ns j:=λj hj=>by
   have:=hns j hj;rw[hq j hj]at this;exact(Td.inj this).symm
  have hp:∀j,j<k->EC.Pair (xs j) (ys j) (X j)/\EC.On (X j):=λj hj=>by
   obtain⟨p,hp,hpt⟩:=hr j hj;have h1:=hxy j hj;rw[hp]at h1;have h2:=Td.inj h1;have h3:=D2 C hp;rw[hpt]at h3;rw[h2]at h3;exact h3
  have hJ:=GB C (ns:=ns') (xs:=xs) (ys:=ys) (p:=X) (N:=k) (λi hi=>by rw[e1 i hi];exact Si (hn i hi) O.le) (λi hi=>(hp i hi).1) (λi hi=>(hp i hi).2);have e2:EC.tot X k (λj=>(ns' j:Int))=EC.tot X k (λj=>(ns j:Int)):=EC.fC k λj hj=>by rw[e1 j hj]
  rw[e2]at hJ;rw[<-EO C (hJ.pair C) hJ.2];exact h
structure Pz(w W:World)(q:Option Addr)(k i:Nat)(ns:Nat->Nat)(az:Nat->Bs)(s3 s4:Value):Prop where
 bl:Below w.heap.size w W
 l3:Lo 32 w.heap.size W s3 ((TD i).map λj=>bx (ns j))
 l4:Lo 33 w.heap.size W s4 ((TD i).map az)
 tm:Tm W q k ns az
 r2:Row W w.heap.size z33
theorem El.of_made{w w':World}{k n:Nat}{b:Bs}(h:RG.Made w k (cb b) w')(hb:b.size=n):El n w' (.slice (some (aZ k)) n n) b:=⟨k,n,rfl,Se _,hb,h.lt,cb_holds h.range h.there⟩
theorem Bo.of{n B0:Nat}{w:World}{x:Value}{b:Bs}(h:El n w x b)(hn:0<n)(hB:B0<=w.heap.size)(T:TypeId):Bo n B0 (w.alloc (.cells #[x] T)) (.slice (some ⟨w.heap.size,0,none⟩) 1 1) b:=
 ⟨w.heap.size,x,rfl,hB,by rw[Sq];omega,by rw[World.cell?_alloc_new];rfl,h.kept hn (Gr.of (n:=0) (aB w _))⟩
theorem Lo.args{n base:Nat}{W:World}{v:Value}{bs:List Bs}(h:Lo n base W v bs):∃q cap,v=.slice q bs.length cap/\(0<bs.length->∃g,q=some (aZ g)/\g<W.heap.size/\∀(j:Nat) (b:Bs),bs[j]? = some b->∃x,W.cell? ⟨g,j,none⟩=some x/\El n W x b):=by
 obtain⟨xs,h1,h2,h3⟩:=h.ex;have h4:=λ{g:Nat}=>h2.cells (g:=g)
 rcases h2.2 with⟨rfl,h0⟩|⟨g,cap,cur,rfl,-,hc,-⟩
 ·exact⟨none,0,by rw[h0],λh=>oM⟩
 ·refine⟨_,_,rfl,λ_=>⟨g,rfl,(SZ.1 hc).1,λj b hb=>?_⟩⟩;have hj:j<xs.length:=by rw[h1];exact(SI.1 hb).1
  have:=h4 (g:=g) rfl j xs[j] (SH hj);rw[add0]at this;exact⟨_,this,h3 j _ b (SH hj) hb⟩
theorem El.arg{W:World}{x:Value}{b:Bs}(h:El 32 W x b):Arg W x b:=by
 obtain⟨k,c,rfl,h1,h2,h3,h4⟩:=h;exact⟨_,_,_,rfl,h2,λ_=>⟨k,0,rfl,h1,h3,h4⟩⟩
theorem El.arg33{W:World}{x:Value}{b:Bs}(h:El 33 W x b):Arg33 W x b:=by
 obtain⟨k,c,rfl,h1,h2,h3,h4⟩:=h;exact⟨_,_,_,rfl,h2,λ_=>⟨k,0,rfl,h1,h3,h4⟩⟩
theorem Ca(C:Fld P)(O:Ord N)(v:Value)(w:World)(k:Nat)(hk:k<=512)(ns:Nat->Nat)(X:Nat->EC.Pt P)(hn:∀j,j<k->ns j<N)(hX:∀j,j<k->EC.On (X j))
 (hmer:∀W,Below w.heap.size w W->Calls prog 70 #[v] W (rZ W λe w'=>∃q cap,e=.slice q k cap/\Tm w' q k ns (λj=>wr (X j)))) :
 Calls prog 34 #[v] w (rZ w λe w'=>e=pvl (wr (EC.tot X k (λj=>(ns j:Int))))):=by
 have HM:=Hid.mk' hmer;have HC:Hid (Fld P/\Ord N/\(∀j,j<k->ns j<N)/\∀j,j<k->EC.On (X j)):=⟨C,O,hn,hX⟩
 obtain⟨az,haz⟩:∃az:Nat->Bs,Hid ((λj=>wr (X j))=az):=⟨_,rfl⟩
 have haz':Hid (∀j,az j=wr (X j)):=λj=>by rw[<-haz.out]
 rw[haz.out]at HM;obtain⟨w1,hw1⟩:∃w1,Hid (w.alloc (.cells z33.toArray 35)=w1):=⟨_,rfl⟩
 have K1:Hid (Row w1 w.heap.size z33/\Below w.heap.size w w1):=by rw[<-hw1.out];exact⟨aD w _ _,aB w _⟩
 obtain⟨d,hd1,hd2⟩:=Sf.1 uCP;obtain⟨d',hd3,hd4⟩:=Sf.1 uT;have HD:Hid ((prog.underlying 35=some d/\d.isRow=true)/\prog.underlying 128=some d'/\d'.isRow=true):=⟨⟨hd1,hd2⟩,hd3,hd4⟩
 clear hd1 hd2 hd3 hd4 hmer hn hX haz C O;go_enter Tryz.func34,Tryz.ntmps34;go_wp2_with (refine bG (v:=.pointer (some ⟨w.heap.size,0,none⟩)) (w':=w1) rfl (.alloc 35) rfl ?_ ?_;(rw[<-hw1.out];kernel_rfl))
 clear hw1;refine(HM w1 K1.2).mono ?_;rintro e w2 ⟨vv,rfl,hb2,q,cap,rfl,hT⟩;have K2:Hid (Pz w w2 q k 0 ns az (.slice none 0 0) (.slice none 0 0)):=⟨K1.2.trans (hb2.mono K1.2.size),Lo.begin _ _ _,Lo.begin _ _ _,hT,K1.1.below hb2⟩
 clear hb2 hT K1 HM;go_wp2_with fail
 go_loopg [3,4,12] k (λm s3 s4 s12 W=>∃i:Nat,i+m=k/\s12=iZ i/\Hid (Pz w W q k i ns az s3 s4))
 case atStart=>exact⟨0,oM,rfl,K2⟩
 case round =>
  clear K2;obtain⟨i,hik,rfl,KM⟩:=hrel;by_cases hi:i<k
  ·have hi':(i:Int)<(k:Int):=oM;obtain⟨g,hq,hg,hr⟩:=KM.tm oM;subst hq;obtain⟨n,hne⟩:∃n,Hid (ns i=n):=⟨_,rfl⟩
   obtain⟨p,hpe⟩:∃p,Hid (az i=p):=⟨_,rfl⟩
   have B0:Hid (wr.rangeAt g (37*i) (wn n++aA p)):=by
    have h:=hr i hi;rw[hne.out,hpe.out]at h;exact h
   have hps:Hid (p.size=33):=by rw[<-hpe.out,haz'.out i];exact dB _
   have hnN:Hid (n<N):=by rw[<-hne.out];exact HC.2.2.1 i hi
   obtain⟨W1,hW1⟩:∃W1,Hid (wr.alloc (.cells zT.toArray 128)=W1):=⟨_,rfl⟩
   obtain⟨W2,hW2⟩:∃W2,Hid (W1.setCells wr.heap.size 0 (wn n++aA p)=W2):=⟨_,rfl⟩
   have hlen:(wn n++aA p).length=37:=by rw[Su,aH hps.out];rfl
   have F1:Hid (Row W1 wr.heap.size zT/\Below wr.heap.size wr W1/\W1.heap.size=wr.heap.size+1):=by rw[<-hW1.out];exact⟨aD wr _ _,aB wr _,Sq _ _⟩
   have F2:Hid (Row W2 wr.heap.size (wn n++aA p)/\Below wr.heap.size wr W2):=by rw[<-hW2.out];exact⟨F1.1.put (by rw[hlen];rfl),RG.below_setCells (Se _) _ _ _ F1.2.1⟩
   have HLT:Hid ((prog.info? 128).map (·.size)=some (wn n++aA p).length):=by show _=_;rw[hlen];exact iT
   have HLS:Hid ((prog.info? 128).map (·.size)=some (wn n++aA p).toArray.size/\W1.there wr.heap.size 0 (wn n++aA p).toArray.size):=by
    have e:(wn n++aA p).toArray.size=37:=by rw[Tf];exact hlen
    rw[e];exact⟨iT,F1.1.2.2⟩
   have HAL:Hid ((wn n++aA p).toArray.all (·.oneCell')=true):=by
    show _=_;rw[Up];intro u hu;exact cells_one n p u (Vj.1 hu)
   have hix:=atT g 0 k cap i hi;obtain⟨vt,hvt⟩:∃v,Hid (SX (wn n++aA p).toArray=v):=⟨_,rfl⟩
   have G2:Gr 0 (.slice none 0 0) wr W2:=Gr.of F2.2;have HB:Hid (∀b,PBs w u3 u4 wr.heap.size n W2.heap.size w.heap.size p ((TD i).map λj=>bx (ns j)) ((TD i).map az) (some (aZ g)) k ns az b W2.drew):=λb=>by
    match b with
    | 0=>exact F2.1
    | 1=>exact(KM.l3.kept dC G2 dC).drew
    | 2=>exact(KM.l4.kept dC G2 dC).drew
    | 3=>exact⟨(KM.bl.trans (F2.2.mono KM.bl.size)).drew,SD KM.bl.size F2.2.size,Se _⟩
    | 4=>exact KM.tm.kept (W':=W2) G2
    | 5=>exact KM.r2.below (W':=W2) F2.2
    | _+6=>trivial
   have H3:Hid (∀g,u3.ownBlock=some g->w.heap.size<=g/\g<W2.heap.size):=λg hg=>⟨(KM.l3.lt g hg).1,Si (KM.l3.lt g hg).2 F2.2.size⟩
   have H4:Hid (∀g,u4.ownBlock=some g->w.heap.size<=g/\g<W2.heap.size):=λg hg=>⟨(KM.l4.lt g hg).1,Si (KM.l4.lt g hg).2 F2.2.size⟩
   have HG:=Hid.mk' hg;clear hlen hr G2 KM F2 hg;go_wp2_with (first|(refine wpList_load_mid rfl 128 _ rfl g (37*i) ?_ (wn n++aA p) d' ?_ ?_ ?_ ?_ ?_;rfl;exact B0.out;exact HD.2.1;exact HD.2.2;exact HLT.out;rw[hvt.out])|(refine bG (v:=.pointer (some ⟨wr.heap.size,0,none⟩)) (w':=W1) rfl (.alloc 128) rfl ?_ ?_;(rw[<-hW1.out];kernel_rfl))|(refine wpList_store_mid rfl 128 _ _ rfl wr.heap.size 0 (wn n++aA p).toArray ?_ ?_ ?_ ?_ ?_ ?_;rfl;exact hvt.symm;exact HLS.2;exact HLS.1;exact HAL.out;rw[show(wn n++aA p).toArray.toList=wn n++aA p from rfl,hW2.out])|fail)
   refine RG.vV (FP w u3 u4 wr.heap.size n W2.heap.size w.heap.size p ((TD i).map λj=>bx (ns j)) ((TD i).map az) (some (aZ g)) k ns az) kR ⟨kR,RG.I7 ?_,λi' j hi0 hj hij hkl hdp=>O5 u3 u4 wr.heap.size n W2.heap.size w.heap.size p _ _ H3.out H4.out i' j hj hij hkl (λh=>by rw[h.1,h.2]at hdp;exact absurd (show false=true from hdp.symm.trans kR) dC) (λh=>by rw[h.1,h.2]at hdp;exact absurd (show false=true from hdp.symm.trans kR) dC),λi' b _ hkl=>Mb w u3 u4 wr.heap.size n W2.heap.size w.heap.size p _ _ _ k ns az H3.out H4.out i' b hkl⟩ HB.out ?_
   ·have hb0:∀W:World,Gr 0 (.slice none 0 0) W W:=λW=>Gr.of (SE _ _)
    refine⟨RG.mN 3 λa W hp=>⟨a.eval (.tmp 3),W,kR,kR,hb0 W,hp.o 3 kR⟩,
     RG.mN 6 λa W hp=>⟨.pointer (some ⟨wr.heap.size,0,none⟩),W,kR,by rw[show a.eval (.tmp 6)=.pointer (some ⟨wr.heap.size,0,none⟩) from hp.o 6 kR];kernel_rfl,hb0 W,rfl⟩,
     RG.Ae 43 17 rfl u40 λa W hp=>⟨wr.heap.size,0,wn n,hp.n 1 17 kR kR kR,jJ (show Row W wr.heap.size (wn n++aA p) from hp.b 0 kR).2.1,i40,hb0 W,rfl⟩,
     RG.EH 18 λa W hp=>⟨71,#[nv n],kR,by rw[show a.eval (.tmp 18)=nv n from hp.n 2 18 kR kR kR];kernel_rfl,(GT HC.2.1 hnN.out W).mono (by
      rintro e W' ⟨u,rfl,k',hm,rfl⟩;exact⟨_,rfl,Gr.of hm.bel,El.of_made hm (jR n)⟩)⟩,
     RG.mN 19 λa W hp=>⟨.slice (some ⟨W.heap.size,0,none⟩) 1 1,W.alloc (.cells #[a.eval (.tmp 19)] 23),kR,by
      obtain⟨k',c',he,-⟩:=show El 32 W (a.eval (.tmp 19)) (bx n) from hp.n 3 19 kR kR kR
      rw[he];kernel_rfl,Gr.of (aB W _),Bo.of (show El 32 W (a.eval (.tmp 19)) (bx n) from hp.n 3 19 kR kR kR) dC (hp.b 3 kR).2.2 _⟩,
     RG.I6 16 20 22 rfl λa W hp=>?_,
     RG.mN 4 λa W hp=>⟨a.eval (.tmp 4),W,kR,kR,hb0 W,hp.o 4 kR⟩,
     RG.mN 6 λa W hp=>⟨.pointer (some ⟨wr.heap.size,4,none⟩),W,kR,by rw[show a.eval (.tmp 6)=.pointer (some ⟨wr.heap.size,0,none⟩) from hp.o 6 kR];kernel_rfl,hb0 W,rfl⟩,
     RG.Ae 35 23 rfl uCP λa W hp=>⟨wr.heap.size,4,aA p,hp.n 7 23 kR kR kR,kV (xs:=wn n) (show Row W wr.heap.size (wn n++aA p) from hp.b 0 kR).2.1,by rw[aH hps.out];exact eC,hb0 W,rfl⟩,
     RG.EH 24 λa W hp=>⟨72,#[pvl p],kR,by rw[show a.eval (.tmp 24)=pvl p from hp.n 8 24 kR kR kR];kernel_rfl,(Fj hps.out W).mono (by
      rintro e W' ⟨u,rfl,hb,hE⟩;exact⟨_,rfl,Gr.of hb,hE⟩)⟩,
     RG.mN 25 λa W hp=>⟨.slice (some ⟨W.heap.size,0,none⟩) 1 1,W.alloc (.cells #[a.eval (.tmp 25)] 23),kR,by
      obtain⟨k',c',he,-⟩:=show El 33 W (a.eval (.tmp 25)) p from hp.n 9 25 kR kR kR
      rw[he];kernel_rfl,Gr.of (aB W _),Bo.of (show El 33 W (a.eval (.tmp 25)) p from hp.n 9 25 kR kR kR) dC (hp.b 3 kR).2.2 _⟩,
     RG.I6 22 26 22 rfl λa W hp=>?_,
     RG.mN 21 λa W hp=>⟨a.eval (.tmp 21),W,kR,kR,hb0 W,hp.n 5 21 kR kR kR⟩,
     RG.mN 27 λa W hp=>⟨a.eval (.tmp 27),W,kR,kR,hb0 W,hp.n 11 27 kR kR kR⟩,trivial⟩
    ·obtain⟨k',x,he,h1,h2,h3,h4⟩:=show Bo 32 W2.heap.size W (a.eval (.tmp 20)) (bx n) from hp.n 4 20 kR kR kR
     obtain⟨v',W',r1,r2,r3⟩:=Lo.app (show Lo 32 w.heap.size W u3 _ from hp.b 1 kR) dC h4 h3 (by rw[SO,VC];omega) (hp.b 3 kR).2.1;refine⟨v',W',?_,r3,r2⟩;rw[he,show a.eval (.tmp 16)=u3 from hp.n 0 16 kR kR kR];exact r1
    ·obtain⟨k',x,he,h1,h2,h3,h4⟩:=show Bo 33 W2.heap.size W (a.eval (.tmp 26)) p from hp.n 10 26 kR kR kR
     obtain⟨v',W',r1,r2,r3⟩:=Lo.app (show Lo 33 w.heap.size W u4 _ from hp.b 2 kR) dC h4 h3 (by rw[SO,VC];omega) (hp.b 3 kR).2.1;refine⟨v',W',?_,r3,r2⟩;rw[he,show a.eval (.tmp 22)=u4 from hp.n 6 22 kR kR kR];exact r1
   ·intro V w5 hR5 hB5;have KN:Hid (Pz w w5 (some (aZ g)) k (i+1) ns az (V 12) (V 13)):=by
     have h1:=hR5 12 (UX (TY kR)) rfl;have h2:=hR5 13 (UX (TY kR)) rfl;refine⟨(hB5 3 rfl).1,?_,?_,hB5 4 rfl,hB5 5 rfl⟩
     ·rw[XF,XG];show Lo 32 w.heap.size w5 (V 12) (_++[bx (ns i)]);rw[hne.out];exact h1
     ·rw[XF,XG];show Lo 33 w.heap.size w5 (V 13) (_++[az i]);rw[hpe.out];exact h2
    clear hR5 hB5 HB H3 H4;dsimp only[RG.dJ,TG];generalize V 12=s3 at KN⊢;generalize V 13=s4 at KN⊢;go_wp2;go_roundg (gk-1)
    case measure=>omega
    case rel=>exact⟨i+1,oM,rfl,KN⟩
  ·have hi':¬(i:Int)<(k:Int):=oM;obtain rfl:i=k:=oM;obtain⟨q3,c3,rfl,h3⟩:=KM.l3.args;obtain⟨q4,c4,rfl,h4⟩:=KM.l4.args;rw[SO,VC]at h3 h4;have HA:Hid (Ao wr q3 i (λj=>bx (ns j))):=λh0=>by
    obtain⟨g,e1,e2,e3⟩:=h3 h0;refine⟨g,e1,e2,λj hj=>?_⟩;obtain⟨x,x1,x2⟩:=e3 j (bx (ns j)) (by rw[Un,Ys hj];rfl);exact⟨x,x1,x2.arg⟩
   have HP:Hid (ArgsPts wr q4 i az):=λh0=>by
    obtain⟨g,e1,e2,e3⟩:=h4 h0;refine⟨g,e1,e2,λj hj=>?_⟩;obtain⟨x,x1,x2⟩:=e3 j (az j) (by rw[Un,Ys hj];rfl);exact⟨x,x1,x2.arg33⟩
   rw[SO,VC,SO,VC];have KB:Hid (Below w.heap.size w wr/\Row wr w.heap.size z33):=⟨KM.bl,KM.r2⟩
   clear h3 h4 KM;go_wp2_with fail
   refine(Ow HC.1 HC.2.1.gap HC.2.1.le q3 q4 i c3 i c4 (λj=>bx (ns j)) az wr HA.out HP.out).mono ?_;rintro e w6 ⟨vv,rfl,hb6,hS⟩;obtain⟨gs,cs,rfl,-,-,h6,h7⟩:=SumR.all HC.1 HC.2.1 oM HC.2.2.1 HC.2.2.2 (λ_ _=>rfl) (λj _=>haz'.out j) hS;obtain⟨T,hT⟩:∃T,Hid (Go.Proofs.YtnakcnljhmlikaaGreat.wr (EC.tot X i (λj=>(ns j:Int)))=T):=⟨_,rfl⟩
   have hTs:T.size=33:=by rw[<-hT.out];exact dB _
   rw[hT.out]at h7;have K6:Hid (Row w6 w.heap.size z33/\Below w.heap.size w w6/\Row w6 gs (aA T)):=⟨KB.2.below hb6,KB.1.trans (hb6.mono KB.1.size),G4 h7 h6⟩
   clear hb6 hS h6 h7 KB HA HP;have harr:=MJ gs cs;obtain⟨w7,hw7⟩:∃w7,Hid (w6.setCells w.heap.size 0 (aA T)=w7):=⟨_,rfl⟩
   have hlen:(aA T).length=33:=aH hTs;have K7:Hid (Row w7 w.heap.size (aA T)/\Below w.heap.size w w7):=by rw[<-hw7.out];exact⟨K6.1.put (by rw[hlen];rfl),RG.below_setCells (Se _) _ _ _ K6.2.1⟩
   obtain⟨vt,hvt⟩:∃vt,Hid (SX (aA T).toArray=vt):=⟨_,rfl⟩
   have HI:Hid ((prog.info? 35).map (·.size)=some (aA T).length/\w6.there w.heap.size 0 (aA T).toArray.size/\(prog.info? 35).map (·.size)=some (aA T).toArray.size):=by
    have e:(aA T).toArray.size=33:=by rw[Tf];exact hlen
    refine⟨by rw[hlen];exact eC,by rw[e];exact K6.1.2.2,by rw[e];exact eC⟩
   clear hlen;go_wp2_with (first|(refine wpList_load_mid rfl 35 _ rfl gs 0 ?_ (aA T) d ?_ ?_ ?_ ?_ ?_;rfl;exact K6.2.2.2.1;exact HD.1.1;exact HD.1.2;exact HI.1;rw[hvt.out])|(refine wpList_store_mid rfl 35 _ _ rfl w.heap.size 0 (aA T).toArray ?_ ?_ ?_ ?_ ?_ ?_;rfl;exact hvt.symm;exact HI.2.1;exact HI.2.2;exact kJ T;rw[show(aA T).toArray.toList=aA T from rfl,hw7.out]))
   refine bodyPost_ret (aP 2 35 rfl K7.1 rfl uCP HI.1) rfl ?_;exact⟨_,rfl,K7.2,by rw[hT.out];rfl⟩
end
end Go.Proofs.YtnakcnljhmlikaaGreat
