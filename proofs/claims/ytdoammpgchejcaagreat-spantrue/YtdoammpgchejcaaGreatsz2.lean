import Derived.Deep.LoopGhost
import Derived.Deep.RegionHeld3
import Derived.Deep.CutRange
import Derived.Deep.DeepCutAuto
import Derived.Laws.MakeOwn
import Derived.ChangeKeysEq
import Derived.Deep.AppendSrc
import Derived.Lib.AppendZeros
import Derived.LoopN
import Derived.Deep.RegionWith
import Derived.WalkKit
import Derived.Sort.Row
import Derived.Deep.Draws
import Derived.Below
import Derived.Deep.OwnRows
import Derived.Test.YtdoammpgchejcaaGreatRows
import Derived.Deep.QuietTactic
import Derived.StillTailTactics
import Derived.BigRegion
import Derived.BigQuiet
import Derived.WalkSpells
import Derived.WalkLawsBesides
import Derived.KernelRfl
import Derived.Lib.LazyBuf
import Derived.Lib.SliceRun
import Derived.Lib.ConvBytes
import Derived.RangeFuncNested
import Derived.RangeFuncBound
import Derived.RangeFuncCalls
import Derived.RangeFuncLeaves
import Derived.Shelf.Abstract
import Derived.Shelf.RegionOpen
import Derived.OwnWalkIn
import Derived.TacticsInMore
import Derived.LoopNIn
import Derived.LoopIn
import Derived.Test.YtdoammpgchejcaaGreatsz1
set_option linter.unusedVariables false
set_option linter.constructorNameAsVariable false
set_option linter.unusedSimpArgs false
set_option maxRecDepth 1000000
set_option maxHeartbeats 4000000
namespace Go.Proofs.YtdoammpgchejcaaGreat
open EC NT RG
open _root_.Array renaming append_assoc->yAR,ext->yB7,getElem?_append_left->X7,getElem?_append_right->YN,getElem?_eq_getElem->UZ,getElem?_map->yAP,getElem?_toList->Vt,getElem_append_left->YY,getElem_append_right->Z8,getElem_replicate->Wr,getElem_toList->XG,length_toList->UL,map->yB6,map_replicate->yAH,replicate->UM,size->Wt,size_append->VP,size_extract->XE,size_replicate->UO,size_setIfInBounds->Vz,toArray_toList->Yb
open _root_.BitVec renaming eq_of_toNat_eq->yAx,ofInt->Xg,ofInt_natCast->Zm,ofNat->Yr,toNat_ofNat->YP
open _root_.Bool renaming and_eq_true->UN
open _root_.Classical renaming byContradiction->WB
open _root_.Fin renaming ext->Yi,ofNat->Xr,val_mul->XO
open _root_.Go renaming Addr->Wv,Calls->UK,Program->VD,TypeId->Vb,Value->Uv,World->Ut,bodyPost_ret->UH,run_loadVar_mid->Y2,run_make_row'->yBK,sizeOf->yAl,size_madeCells->Zp,undef->WJ,wp_block->Xy,wp_cond_false->VJ,wp_cond_true->VH,wp_loop_ghost->Yt,wp_ret->Wy,wp_seq->UC,wp_skip->WQ
open _root_.Go.Addr renaming add->Zr,add_mid->yBN
open _root_.Go.Builtin renaming append_->Vx,copy_->Ya
open _root_.Go.Exit renaming inBlock->Ye
open _root_.Go.Instr renaming alloc->yAE,indexAt->Vj,makeSlice->Xx,sureAddr->Yy
open _root_.Go.IntKind renaming bits->yBp,i64->VY,signed->yA3,u64->Vw,u8->XF,wrap->yBo,wrap_u64->XJ
open _root_.Go.IntWalk renaming i64_in->Ws,i8_in->Z7
open _root_.Go.Lib renaming bytesCells->Zs,bytesWorld->yAh,bytesWorld_size->yAU,wpList_append_run->WG
open _root_.Go.Op renaming eqItems->yBe,unary->yBM
open _root_.Go.Oper renaming about->yB2,semAt_eq->yBG
open _root_.Go.OwnFrom renaming and->yBA
open _root_.Go.Result renaming andThen_ok->Vr
open _root_.Go.RowKit.Below renaming heap_setCell->YU,refl->UT
open _root_.Go.Sem renaming run_bind->UW,run_pure->WA
open _root_.Go.Value renaming int->V2
open _root_.Go.World renaming alloc->XB,block_lt_of_cell?->Xf,cell?->V1,cell?_alloc_new->Ve,cell?_of_block->U0,cell?_setCell_other->UV,cell?_setCell_same->VU,cell?_setCells_out->yAg,freeze->yAs,frozen?_alloc_new->Wq,frozen?_of_block->VR,frozen?_setCell->VK,frozen?_setCells->yAr,setCell->X0,size_alloc->UD,there_setCells->V7
open _root_.Int renaming add_mul->yB1,add_zero->Z0,emod_eq_of_lt->yBc,mul_assoc->yAp,mul_comm->ZM,natCast_ediv->Zl,natCast_mul->XD,natCast_pow->yAk,neg_neg->yB0,pow_succ->yBS,toNat_natCast->YF,zero_mul->ZL
open _root_.List renaming cons->yB9,cons_append->Xv,ext_getElem?->Zb,forall_mem_cons->yAC,getElem?_eq_none->WE,getElem?_eq_some_iff->UG,getElem?_map->Vy,getElem?_toArray->Vm,getElem_map->Xi,length->yBR,length_cons->Vg,length_map->US,length_nil->WO,length_replicate->Xp,mem_cons_of_mem->Vd,mem_cons_self->Vo,mem_map->Vn,mem_range->VS,nil_append->XI,not_mem_nil->U1,range->VB,replicate->VG,size_toArray->VE,take_of_length_le->Zi
open _root_.Nat renaming add_assoc->WY,add_mul->XH,add_sub_cancel_left->WH,add_zero->Xm,div_div_eq_div_mul->YD,div_eq_of_lt->XA,le_add_right->Zh,le_of_lt->XN,le_refl->Uy,le_trans->UE,lt_of_lt_of_le->Uz,lt_succ_self->XZ,min->XV,min_le_left->yAj,min_le_right->Z9,mod_eq_of_lt->UU,mod_lt->V6,mul_comm->Vv,mul_le_mul->WP,mul_le_mul_left->XU,mul_mod->Xz,mul_one->XY,mul_succ->Yk,ne_of_gt->Wp,pos_of_neZero->Yc,pow_add->Yh,pow_le_pow_right->VN,pow_succ->V8,pow_two->yBX,sub_self->YH,sub_sub->Yq,zero_add->UF,zero_le->Wz
open _root_.Option renaming isSome_iff_exists->Vu,map_eq_some_iff->UA,map_some->Yj,some->UP
open _root_.Or renaming inl->U6,inr->U2
open _root_.Prod renaming mk->We
open _root_.UInt8 renaming ofNat->UQ,toNat_ofNat'->YQ
open Go.Proofs.Tryz
variable {L:Bs}{p:EC.Pt P}{m x y:Fin P}{C C0 vs:List Uv}{c cap e f g i j k q r:Nat}{xs ys:Nat->Fin P}{D:Nat->Int}{ns:Nat->Nat}{S:Sp}{t:T3 P}{W:Ut}
section
open Go.RowKit Go.Sort
variable {P:Nat}[NeZero P]{N:Nat}
theorem Ev(C:Fld P)(x y z:Fin P):Gives 108 #[(rv x y z)] (rv (twX x y) (twY x y) (twZ y z)):=by
 intro w;obtain⟨c1,N⟩:∃c,c=x*x:=⟨_,rfl⟩
 obtain⟨c2,M⟩:∃c,c=y*y:=⟨_,rfl⟩
 obtain⟨Q,O⟩:∃c,c=x*c2:=⟨_,rfl⟩
 obtain⟨V,H⟩:∃c,c=dbl Q:=⟨_,rfl⟩
 obtain⟨e,J⟩:∃c,c=dbl V:=⟨_,rfl⟩
 obtain⟨R,T⟩:∃c,c=dbl c1:=⟨_,rfl⟩
 obtain⟨d,U⟩:∃c,c=R+c1:=⟨_,rfl⟩
 obtain⟨K,S⟩:∃c,c=d*d:=⟨_,rfl⟩
 obtain⟨I,L⟩:∃c,c=dbl e:=⟨_,rfl⟩
 obtain⟨k,A⟩:∃c,c=K-I:=⟨_,rfl⟩
 obtain⟨m,F⟩:∃c,c=e-k:=⟨_,rfl⟩
 obtain⟨j,u⟩:∃c,c=d*m:=⟨_,rfl⟩
 obtain⟨l,E⟩:∃c,c=c2*c2:=⟨_,rfl⟩
 obtain⟨o,D⟩:∃c,c=dbl l:=⟨_,rfl⟩
 obtain⟨g,p⟩:∃c,c=dbl o:=⟨_,rfl⟩
 obtain⟨i,q⟩:∃c,c=dbl g:=⟨_,rfl⟩
 obtain⟨b,a⟩:∃c,c=j-i:=⟨_,rfl⟩
 obtain⟨n,r⟩:∃c,c=y*z:=⟨_,rfl⟩
 obtain⟨f,B⟩:∃c,c=dbl n:=⟨_,rfl⟩
 have t:((rv k b f):Uv)=(rv (twX x y) (twY x y) (twZ y z)):=by
  subst_vars;rfl
 rw[<-t];go_enter func108,ntmps108;refine RG.M.enter [(0,.v (rv x y z))] 56 kR ?_;intro a0 M0;repeat refine UC ?_
 refine M0.T [.m 0,.m 1] [(0,ws x++(ws y++(ws z))),(1,RG.z 12)] [] [ws x++(ws y++(ws z)),RG.z 12] [1,2] ⟨mk 0 185,mk 1 185,yCm⟩ ?_;intro j1 i1 a1 w1 Y;repeat refine UC ?_
 refine Y.D [.s (.p 0 0),.x (fv x),.s (.p 0 0),.x (fv x),.c (fv c1),.s (.p 0 4),.x (fv y),.s (.p 0 4),.x (fv y),.c (fv c2),.m 2,.m 3,.u 2,.u 3] [(10,RG.z 4),(11,RG.z 4)] [(2,12,ws c1),(3,13,ws c2)] [ws x++(ws y++(ws z)),RG.z 12,ws c1,ws c2] [1,2,3,4] ⟨st,ld aS aJ,st,ld aS aJ,cl ((aW C x x).e N),st,ld aS aJ,st,ld aS aJ,cl ((aW C y y).e M),mk 2 183,mk 3 183,RG.pt aJ,RG.pt aJ,yCm⟩ ?_;intro j2 i2 a2 w2 M2;repeat refine UC ?_
 refine M2.T [.s (.p 0 0),.x (fv x),.x (fv c2),.c (fv Q),.c (fv V),.c (fv e),.m 4,.u 4] [(6,RG.z 4)] [(4,7,ws e)] [ws x++(ws y++(ws z)),RG.z 12,ws c1,ws c2,ws e] [1,2,3,4,5] ⟨st,ld aS aJ,ld aS aJ,cl ((aW C x c2).e O),cl ((fQ C Q).e H),cl ((fQ C V).e J),mk 4 183,RG.pt aJ,yCm⟩ ?_;intro j3 a3 w3 X;repeat refine UC ?_
 refine X.D [.x (fv c1),.c (fv R),.x (fv c1),.c (fv d),.m 5,.u 5] [(4,RG.z 4)] [(5,5,ws d)] [ws x++(ws y++(ws z)),RG.z 12,ws c1,ws c2,ws e,ws d] [1,2,4,5,6] ⟨ld aS aJ,cl ((fQ C c1).e T),ld aS aJ,cl ((Gf C R c1).e U),mk 5 183,RG.pt aJ,yCm⟩ ?_;intro j4 a4 w4 M4;repeat refine UC ?_
 refine M4.D [.x (fv d),.x (fv d),.c (fv K),.x (fv e),.c (fv I),.c (fv k),.m 6,.u 6] [(6,RG.z 4)] [(6,7,ws k)] [ws x++(ws y++(ws z)),RG.z 12,ws c1,ws c2,ws e,ws d,ws k] [1,2,4,5,6,7] ⟨ld aS aJ,ld aS aJ,cl ((aW C d d).e S),ld aS aJ,cl ((fQ C e).e L),cl ((eX C K I).e A),mk 6 183,RG.pt aJ,yCm⟩ ?_;intro j5 a5 w5 Z;repeat refine UC ?_
 refine Z.D [.x (fv d),.x (fv e),.x (fv k),.c (fv m),.c (fv j),.x (fv c2),.x (fv c2),.c (fv l),.c (fv o),.c (fv g),.c (fv i),.c (fv b),.m 7,.u 7] [(12,RG.z 4)] [(7,13,ws b)] [ws x++(ws y++(ws z)),RG.z 12,ws c1,ws c2,ws e,ws d,ws k,ws b] [1,2,7,8] ⟨ld aS aJ,ld aS aJ,ld aS aJ,cl ((eX C e k).e F),cl ((aW C d m).e u),ld aS aJ,ld aS aJ,cl ((aW C c2 c2).e E),cl ((fQ C l).e D),cl ((fQ C o).e p),cl ((fQ C g).e q),cl ((eX C j i).e a),mk 7 183,RG.pt aJ,yCm⟩ ?_;intro j6 a6 w6 W;repeat refine UC ?_
 refine W.D [.x (fv k),.x (fv b),.s (.p 0 4),.x (fv y),.s (.p 0 8),.x (fv z),.c (fv n),.c (fv f),.x (rv k b f),.u 1] [] [(1,9,ws k++(ws b++(ws f)))] [ws x++(ws y++(ws z)),ws k++(ws b++(ws f)),ws c1,ws c2,ws e,ws d,ws k,ws b] [2] ⟨ld aS aJ,ld aS aJ,st,ld aS aJ,st,ld aS aJ,cl ((aW C y z).e r),cl ((fQ C n).e B),st,RG.pt i117,yCm⟩ ?_;intro a7 w7 G;refine Wy ?_;refine UH (v:=(rv k b f)) (aI G.st 2 185 rfl 1 _ rfl (G.at (s:=(.p 1 0))) iH i117) G.sl.defers ?_;exact⟨_,rfl,G.st.bel.below,rfl⟩
theorem DF(C:Fld P)(x y z:Fin P):Gives 184 #[(rv x y z)] (rv x (0-y) z):=by
 intro w;obtain⟨c1,d⟩:∃c,c=(0:Fin P)-y:=⟨_,rfl⟩
 have k:((rv x c1 z):Uv)=(rv x (0-y) z):=by
  subst_vars;rfl
 rw[<-k];go_enter func184,ntmps184;refine RG.M.enter [(0,.v (rv x y z))] 12 kR ?_;intro a0 f;repeat refine UC ?_
 refine f.T [.m 0,.m 1] [(0,ws x++(ws y++(ws z))),(1,RG.z 12)] [] [ws x++(ws y++(ws z)),RG.z 12] [1,2] ⟨mk 0 185,mk 1 185,yCm⟩ ?_;intro l i m j e;repeat refine UC ?_
 refine e.D [.s (.p 0 0),.x (fv x),.x (fv (0:Fin P)),.s (.p 0 4),.x (fv y),.c (fv c1),.s (.p 0 8),.x (fv z),.x (rv x c1 z),.u 1] [] [(1,9,ws x++(ws c1++(ws z)))] [ws x++(ws y++(ws z)),ws x++(ws c1++(ws z))] [2] ⟨st,ld aS aJ,se (lJ (P:=P)),st,ld aS aJ,cl ((eX C (0:Fin P) y).e d),st,ld aS aJ,st,RG.pt i117,yCm⟩ ?_;intro a2 g b;refine Wy ?_;refine UH (v:=(rv x c1 z)) (aI b.st 2 185 rfl 1 _ rfl (b.at (s:=(.p 1 0))) iH i117) b.sl.defers ?_;exact⟨_,rfl,b.st.bel.below,rfl⟩
theorem Mi(C:Fld P)(x y z:Fin P):Gives 111 #[(rv x y z)] (pv (x*(inv z*inv z)) (y*(inv z*inv z)*inv z)):=by
 intro w;obtain⟨c1,i⟩:∃c,c=inv z:=⟨_,rfl⟩
 obtain⟨c2,g⟩:∃c,c=c1*c1:=⟨_,rfl⟩
 obtain⟨k,l⟩:∃c,c=x*c2:=⟨_,rfl⟩
 obtain⟨m,f⟩:∃c,c=y*c2:=⟨_,rfl⟩
 obtain⟨b,j⟩:∃c,c=m*c1:=⟨_,rfl⟩
 have d:((pv k b):Uv)=(pv (x*(inv z*inv z)) (y*(inv z*inv z)*inv z)):=by
  subst_vars;rfl
 rw[<-d];go_enter func111,ntmps111;refine RG.M.enter [(0,.v (rv x y z))] 27 kR ?_;intro a0 p;repeat refine UC ?_
 refine p.T [.m 0,.m 1] [(0,ws x++(ws y++(ws z))),(1,RG.z 8)] [] [ws x++(ws y++(ws z)),RG.z 8] [1,2] ⟨mk 0 185,mk 1 93,yCm⟩ ?_;intro E u G B o;repeat refine UC ?_
 refine o.D [.c gv0,.s (.p 0 8),.x (fv z),.c (fv z),.c (fv c1),.c (fv c1),.m 2,.u 2] [(6,RG.z 4)] [(2,7,ws c1)] [ws x++(ws y++(ws z)),RG.z 8,ws c1] [1,2,3] ⟨cl bO,st,ld aS aJ,cl (Eo C z),cl ((Hg C z).e i),cl (vP C c1),mk 2 183,RG.pt aJ,yCm⟩ ?_;intro H a2 t q;repeat refine UC ?_
 refine q.T [.x (fv c1),.x (fv c1),.c (fv c2),.m 3,.u 3] [(3,RG.z 4)] [(3,4,ws c2)] [ws x++(ws y++(ws z)),RG.z 8,ws c1,ws c2] [1,2,3,4] ⟨ld aS aJ,ld aS aJ,cl ((aW C c1 c1).e g),mk 3 183,RG.pt aJ,yCm⟩ ?_;intro r A a n;repeat refine UC ?_
 refine n.D [.s (.p 0 0),.x (fv x),.x (fv c2),.c (fv k),.c (fv k),.s (.p 0 4),.x (fv y),.x (fv c2),.c (fv m),.x (fv c1),.c (fv b),.c (fv b),.x (pv k b),.u 1] [] [(1,13,ws k++(ws b))] [ws x++(ws y++(ws z)),ws k++(ws b),ws c1,ws c2] [2] ⟨st,ld aS aJ,ld aS aJ,cl ((aW C x c2).e l),cl (Eo C k),st,ld aS aJ,ld aS aJ,cl ((aW C y c2).e f),ld aS aJ,cl ((aW C m c1).e j),cl (Eo C b),st,RG.pt i109,yCm⟩ ?_;intro F D e;refine Wy ?_;refine UH (v:=(pv k b)) (aI e.st 2 93 rfl 1 _ rfl (e.at (s:=(.p 1 0))) gV i109) e.sl.defers ?_;exact⟨_,rfl,e.st.bel.below,rfl⟩
theorem tZ(C:Fld P)(x y z:Fin P)(b:z=0):Gives 183 #[(rv x y z)] (.bool true):=by
 intro w;go_enter func183,ntmps183;refine RG.M.enter [(0,.v (rv x y z))] 7 kR ?_;intro a0 d;repeat refine UC ?_
 refine d.T [.m 0,.x (.bool false)] [(0,ws x++(ws y++(ws z)))] [] [ws x++(ws y++(ws z))] [1,2] ⟨mk 0 185,st,yCm⟩ ?_;intro g i e c;repeat refine UC ?_
 refine c.U [.s (.p 0 8),.x (fv z),.x (fv (0:Fin P)),.x (.bool true),.x (.bool true)] [2] ⟨st,ld aS aJ,se (lJ (P:=P)),aQ rfl .eql 183 183 4 5 (fv z) (fv (0:Fin P)) (.bool true) rfl rfl sx sx (λw=>kR) (Fw C b),st,yCm⟩ ?_;intro a2 f k;refine Wy ?_;refine UH (v:=(.bool true)) (jC 2 rfl _ (k.at (s:=(.v (.bool true))))) k.sl.defers ?_;exact⟨_,rfl,k.st.bel.below,rfl⟩
theorem uA(C:Fld P)(x y z:Fin P)(b:¬z=0):Gives 183 #[(rv x y z)] (.bool false):=by
 intro w;go_enter func183,ntmps183;refine RG.M.enter [(0,.v (rv x y z))] 7 kR ?_;intro a0 d;repeat refine UC ?_
 refine d.T [.m 0,.x (.bool false)] [(0,ws x++(ws y++(ws z)))] [] [ws x++(ws y++(ws z))] [1,2] ⟨mk 0 185,st,yCm⟩ ?_;intro g i e c;repeat refine UC ?_
 refine c.U [.s (.p 0 8),.x (fv z),.x (fv (0:Fin P)),.x (.bool false),.x (.bool false)] [2] ⟨st,ld aS aJ,se (lJ (P:=P)),aQ rfl .eql 183 183 4 5 (fv z) (fv (0:Fin P)) (.bool false) rfl rfl sx sx (λw=>kR) (JF C b),st,yCm⟩ ?_;intro a2 f k;refine Wy ?_;refine UH (v:=(.bool false)) (jC 2 rfl _ (k.at (s:=(.v (.bool false))))) k.sl.defers ?_;exact⟨_,rfl,k.st.bel.below,rfl⟩
theorem Gs(C:Fld P)(x y:Fin P)(d:x=0/\y=0):Gives 178 #[(pv x y)] (rv (0:Fin P) 0 0):=by
 intro w;have k:((rv (0:Fin P) (0:Fin P) (0:Fin P)):Uv)=(rv (0:Fin P) 0 0):=by
  subst_vars;rfl
 rw[<-k];go_enter func178,ntmps178;refine RG.M.enter [(0,.v (pv x y))] 16 kR ?_;intro a0 f;repeat refine UC ?_
 refine f.T [.m 0,.m 1] [(0,ws x++(ws y)),(1,RG.z 12)] [] [ws x++(ws y),RG.z 12] [1,2] ⟨mk 0 93,mk 1 185,yCm⟩ ?_;intro n i o m e;repeat refine UC ?_
 refine e.U [.x (pv x y),.x (pv (0:Fin P) (0:Fin P)),.x (.bool true)] [2,5] ⟨ld gV i109,se (gI (P:=P)),aQ rfl .eql 93 93 3 4 (pv x y) (pv (0:Fin P) (0:Fin P)) (.bool true) rfl rfl sx sx (λw=>kR) (JE C d),yCm⟩ ?_;intro a2 g c;repeat refine UC ?_
 refine VH c.ev ?_;repeat refine UC ?_
 refine c.T [.x (rv (0:Fin P) (0:Fin P) (0:Fin P)),.u 1] [] [(1,1,ws (0:Fin P)++(ws (0:Fin P)++(ws (0:Fin P))))] [ws x++(ws y),ws (0:Fin P)++(ws (0:Fin P)++(ws (0:Fin P)))] [2] ⟨se (KO (P:=P)),RG.pt i117,yCm⟩ ?_;intro l j b;refine Wy ?_;refine UH (v:=(rv (0:Fin P) (0:Fin P) (0:Fin P))) (aI b.st 2 185 rfl 1 _ rfl (b.at (s:=(.p 1 0))) iH i117) b.sl.defers ?_;exact⟨_,rfl,b.st.bel.below,rfl⟩
theorem Gu(C:Fld P)(x y:Fin P)(d:¬(x=0/\y=0)):Gives 178 #[(pv x y)] (rv x y 1):=by
 intro w;have k:((rv x y (1:Fin P)):Uv)=(rv x y 1):=by
  subst_vars;rfl
 rw[<-k];go_enter func178,ntmps178;refine RG.M.enter [(0,.v (pv x y))] 16 kR ?_;intro a0 f;repeat refine UC ?_
 refine f.T [.m 0,.m 1] [(0,ws x++(ws y)),(1,RG.z 12)] [] [ws x++(ws y),RG.z 12] [1,2] ⟨mk 0 93,mk 1 185,yCm⟩ ?_;intro n i o m e;repeat refine UC ?_
 refine e.U [.x (pv x y),.x (pv (0:Fin P) (0:Fin P)),.x (.bool false)] [1,2,5] ⟨ld gV i109,se (gI (P:=P)),aQ rfl .eql 93 93 3 4 (pv x y) (pv (0:Fin P) (0:Fin P)) (.bool false) rfl rfl sx sx (λw=>kR) (DY C d),yCm⟩ ?_;intro a2 g c;repeat refine UC ?_
 refine VJ c.ev ?_;refine WQ ?_;repeat refine UC ?_
 refine c.D [.s (.p 0 0),.x (fv x),.c (fv x),.s (.p 0 4),.x (fv y),.c (fv y),.x (fv (1:Fin P)),.c (fv (1:Fin P)),.x (rv x y (1:Fin P)),.u 1] [] [(1,9,ws x++(ws y++(ws (1:Fin P))))] [ws x++(ws y),ws x++(ws y++(ws (1:Fin P)))] [2] ⟨st,ld u85 i85,cl (vP C x),st,ld u85 i85,cl (vP C y),se (O4 C),cl (vP C (1:Fin P)),st,RG.pt i117,yCm⟩ ?_;intro l j b;refine Wy ?_;refine UH (v:=(rv x y (1:Fin P))) (aI b.st 2 185 rfl 1 _ rfl (b.at (s:=(.p 1 0))) iH i117) b.sl.defers ?_;exact⟨_,rfl,b.st.bel.below,rfl⟩
theorem Gz(C:Fld P)(f e k i j b:Fin P)(R:Uv)(ha:k=0->R=rv i j b)(hb:¬k=0->b=0->R=rv f e k)(hc:¬k=0->¬b=0->cN f b=cN i k/\eK e b=eK j k->R=rv (twX f e) (twY f e) (twZ e k))(hd:¬k=0->¬b=0->¬(cN f b=cN i k/\eK e b=eK j k)->R=rv (plX (cN f b) (eK e b) (cN i k) (eK j k)) (plY (cN f b) (eK e b) (cN i k) (eK j k)) (plZ k b (cN f b) (cN i k))):Gives 109 #[(rv f e k),(rv i j b)] R:=by
 intro w;obtain⟨c1,h5⟩:∃c,c=k*k:=⟨_,rfl⟩
 obtain⟨c2,h9⟩:∃c,c=b*b:=⟨_,rfl⟩
 obtain⟨p,hg⟩:∃c,c=f*c2:=⟨_,rfl⟩
 obtain⟨r,he⟩:∃c,c=i*c1:=⟨_,rfl⟩
 obtain⟨c5,hl⟩:∃c,c=e*c2:=⟨_,rfl⟩
 obtain⟨t,h6⟩:∃c,c=c5*b:=⟨_,rfl⟩
 obtain⟨c7,hj⟩:∃c,c=j*c1:=⟨_,rfl⟩
 obtain⟨u,hi⟩:∃c,c=c7*k:=⟨_,rfl⟩
 go_enter func109,ntmps109;refine RG.M.enter [(0,.v (rv f e k)),(1,.v (rv i j b))] 108 kR ?_;intro a0 M0;repeat refine UC ?_
 refine M0.T [.m 0,.m 1,.m 2] [(0,ws f++(ws e++(ws k))),(1,ws i++(ws j++(ws b))),(2,RG.z 12)] [] [ws f++(ws e++(ws k)),ws i++(ws j++(ws b)),RG.z 12] [2,3,4] ⟨mk 0 185,mk 1 185,mk 2 185,yCm⟩ ?_;intro j1 i1 m1 a1 w1 M1;repeat refine UC ?_
 by_cases x:k=0
 ·obtain rfl:=ha x;refine M1.U [.x (rv f e k),.c (.bool true)] [3,4,19] ⟨ld iH i117,cl (tZ C f e k x),yCm⟩ ?_;intro a2 w2 N;repeat refine UC ?_
  refine VH N.ev ?_;repeat refine UC ?_
  refine N.T [.x (rv i j b),.u 2] [] [(2,1,ws i++(ws j++(ws b)))] [ws f++(ws e++(ws k)),ws i++(ws j++(ws b)),ws i++(ws j++(ws b))] [4] ⟨ld iH i117,RG.pt i117,yCm⟩ ?_;intro a3 w3 B;refine Wy ?_;refine UH (v:=(rv i j b)) (aI B.st 4 185 rfl 2 _ rfl (B.at (s:=(.p 2 0))) iH i117) B.sl.defers ?_;exact⟨_,rfl,B.st.bel.below,rfl⟩
 refine M1.U [.x (rv f e k),.c (.bool false)] [2,3,4,19] ⟨ld iH i117,cl (uA C f e k x),yCm⟩ ?_;intro a2 w2 N;repeat refine UC ?_
 refine VJ N.ev ?_;refine WQ ?_;repeat refine UC ?_
 by_cases A:b=0
 ·obtain rfl:=hb x A;refine N.U [.x (rv i j b),.c (.bool true)] [2,4,22] ⟨ld iH i117,cl (tZ C i j b A),yCm⟩ ?_;intro a3 w3 B;repeat refine UC ?_
  refine VH B.ev ?_;repeat refine UC ?_
  refine B.T [.x (rv f e k),.u 2] [] [(2,1,ws f++(ws e++(ws k)))] [ws f++(ws e++(ws k)),ws i++(ws j++(ws b)),ws f++(ws e++(ws k))] [4] ⟨ld iH i117,RG.pt i117,yCm⟩ ?_;intro a4 w4 Q;refine Wy ?_;refine UH (v:=(rv f e k)) (aI Q.st 4 185 rfl 2 _ rfl (Q.at (s:=(.p 2 0))) iH i117) Q.sl.defers ?_;exact⟨_,rfl,Q.st.bel.below,rfl⟩
 refine N.U [.x (rv i j b),.c (.bool false)] [2,3,4,22] ⟨ld iH i117,cl (uA C i j b A),yCm⟩ ?_;intro a3 w3 B;repeat refine UC ?_
 refine VJ B.ev ?_;refine WQ ?_;repeat refine UC ?_
 refine B.D [.s (.p 0 8),.x (fv k),.s (.p 0 8),.x (fv k),.c (fv c1),.s (.p 1 8),.x (fv b),.s (.p 1 8),.x (fv b),.c (fv c2),.m 3,.m 4,.u 3,.u 4] [(10,RG.z 4),(11,RG.z 4)] [(3,12,ws c1),(4,13,ws c2)] [ws f++(ws e++(ws k)),ws i++(ws j++(ws b)),RG.z 12,ws c1,ws c2] [2,3,4,5,6] ⟨st,ld aS aJ,st,ld aS aJ,cl ((aW C k k).e h5),st,ld aS aJ,st,ld aS aJ,cl ((aW C b b).e h9),mk 3 183,mk 4 183,RG.pt aJ,RG.pt aJ,yCm⟩ ?_;intro j4 i4 a4 w4 Q;repeat refine UC ?_
 refine Q.D [.s (.p 0 0),.x (fv f),.x (fv c2),.c (fv p),.s (.p 1 0),.x (fv i),.x (fv c1),.c (fv r),.m 5,.m 6,.u 5,.u 6] [(8,RG.z 4),(9,RG.z 4)] [(5,10,ws p),(6,11,ws r)] [ws f++(ws e++(ws k)),ws i++(ws j++(ws b)),RG.z 12,ws c1,ws c2,ws p,ws r] [2,3,4,5,6,7,8] ⟨st,ld aS aJ,ld aS aJ,cl ((aW C f c2).e hg),st,ld aS aJ,ld aS aJ,cl ((aW C i c1).e he),mk 5 183,mk 6 183,RG.pt aJ,RG.pt aJ,yCm⟩ ?_;intro j5 i5 a5 w5 M5;repeat refine UC ?_
 refine M5.D [.s (.p 0 4),.x (fv e),.x (fv c2),.c (fv c5),.s (.p 1 8),.x (fv b),.c (fv t),.s (.p 1 4),.x (fv j),.x (fv c1),.c (fv c7),.s (.p 0 8),.x (fv k),.c (fv u),.m 7,.m 8,.u 7,.u 8] [(14,RG.z 4),(15,RG.z 4)] [(7,16,ws t),(8,17,ws u)] [ws f++(ws e++(ws k)),ws i++(ws j++(ws b)),RG.z 12,ws c1,ws c2,ws p,ws r,ws t,ws u] [2,3,4,7,8,9,10] ⟨st,ld aS aJ,ld aS aJ,cl ((aW C e c2).e hl),st,ld aS aJ,cl ((aW C c5 b).e h6),st,ld aS aJ,ld aS aJ,cl ((aW C j c1).e hj),st,ld aS aJ,cl ((aW C c7 k).e hi),mk 7 183,mk 8 183,RG.pt aJ,RG.pt aJ,yCm⟩ ?_;intro j6 i6 a6 w6 M6;repeat refine UC ?_
 by_cases E:cN f b=cN i k/\eK e b=eK j k
 ·have hR:=hc x A E;obtain⟨hx,D⟩:=E;obtain⟨m,H⟩:∃c,c=twX f e:=⟨_,rfl⟩
  obtain⟨d,a⟩:∃c,c=twY f e:=⟨_,rfl⟩
  obtain⟨g,z⟩:∃c,c=twZ e k:=⟨_,rfl⟩
  obtain rfl:R=rv m d g:=hR.trans (by subst_vars;rfl);refine M6.U [.x (fv p),.x (fv r),.x (.bool true),.x (.bool true),.x (fv t),.x (fv u),.x (.bool true),.x (.bool true)] [2,4,63] ⟨ld aS aJ,ld aS aJ,aQ rfl .eql 183 183 56 57 (fv p) (fv r) (.bool true) rfl rfl sx sx (λw=>kR) (Fw C (by subst_vars;exact hx)),st,ld aS aJ,ld aS aJ,aQ rfl .eql 183 183 60 61 (fv t) (fv u) (.bool true) rfl rfl sx sx (λw=>kR) (Fw C (by subst_vars;exact D)),st,yCm⟩ ?_;intro a7 w7 X;repeat refine UC ?_
  refine VH X.ev ?_;repeat refine UC ?_
  refine X.T [.x (rv f e k),.c (rv m d g),.u 2] [] [(2,2,ws m++(ws d++(ws g)))] [ws f++(ws e++(ws k)),ws i++(ws j++(ws b)),ws m++(ws d++(ws g)),ws c1,ws c2,ws p,ws r,ws t,ws u] [4] ⟨ld iH i117,cl ((Ev C f e k).e3 H a z),RG.pt i117,yCm⟩ ?_;intro a8 w8 O;refine Wy ?_;refine UH (v:=(rv m d g)) (aI O.st 4 185 rfl 2 _ rfl (O.at (s:=(.p 2 0))) iH i117) O.sl.defers ?_;exact⟨_,rfl,O.st.bel.below,rfl⟩
 have hR:=hd x A E;obtain⟨m,H⟩:∃c,c=r-p:=⟨_,rfl⟩
 obtain⟨d,a⟩:∃c,c=u-t:=⟨_,rfl⟩
 obtain⟨g,z⟩:∃c,c=m*m:=⟨_,rfl⟩
 obtain⟨o,Y⟩:∃c,c=g*m:=⟨_,rfl⟩
 obtain⟨n,h4⟩:∃c,c=g*p:=⟨_,rfl⟩
 obtain⟨I,Z⟩:∃c,c=d*d:=⟨_,rfl⟩
 obtain⟨J,V⟩:∃c,c=I-o:=⟨_,rfl⟩
 obtain⟨G,S⟩:∃c,c=dbl n:=⟨_,rfl⟩
 obtain⟨l,W⟩:∃c,c=J-G:=⟨_,rfl⟩
 obtain⟨M,h1⟩:∃c,c=n-l:=⟨_,rfl⟩
 obtain⟨K,T⟩:∃c,c=d*M:=⟨_,rfl⟩
 obtain⟨F,h3⟩:∃c,c=o*t:=⟨_,rfl⟩
 obtain⟨q,U⟩:∃c,c=K-F:=⟨_,rfl⟩
 obtain⟨L,h0⟩:∃c,c=k*b:=⟨_,rfl⟩
 obtain⟨y,h2⟩:∃c,c=L*m:=⟨_,rfl⟩
 obtain rfl:R=rv l q y:=hR.trans (by subst_vars;rfl);by_cases hx:cN f b=cN i k
 case' pos =>
  have D:¬eK e b=eK j k:=λh=>E ⟨hx,h⟩
  refine M6.U [.x (fv p),.x (fv r),.x (.bool true),.x (.bool true),.x (fv t),.x (fv u),.x (.bool false),.x (.bool false)] [2,3,4,7,8,9,10,63] ⟨ld aS aJ,ld aS aJ,aQ rfl .eql 183 183 56 57 (fv p) (fv r) (.bool true) rfl rfl sx sx (λw=>kR) (Fw C (by subst_vars;exact hx)),st,ld aS aJ,ld aS aJ,aQ rfl .eql 183 183 60 61 (fv t) (fv u) (.bool false) rfl rfl sx sx (λw=>kR) (JF C (by subst_vars;exact D)),st,yCm⟩ ?_
 case' neg =>
  refine M6.u [.x 56 [] (fv p),.x 57 [] (fv r),.x 58 [(56,0),(57,1)] (.bool false),.x 59 [(58,2)] (.bool false),⟨some 60,[],.v WJ,.pass⟩,⟨some 61,[],.v WJ,.pass⟩,⟨some 62,[],.v WJ,.pass⟩,.x 63 [(59,3),(62,6)] (.bool false)] [(2,.p 0 0),(3,.p 1 0),(4,.p 2 0),(7,.p 5 0),(8,.p 6 0),(9,.p 7 0),(10,.p 8 0),(63,.v (.bool false))] ⟨ld aS aJ,ld aS aJ,aQ rfl .eql 183 183 56 57 (fv p) (fv r) (.bool false) rfl rfl sx sx (λw=>kR) (JF C (by subst_vars;exact hx)),st,dE rfl rfl,dE rfl rfl,dE rfl rfl,st,yCm⟩ ?_
 all_goals
  intro a7 w7 X;repeat refine UC ?_
  refine VJ X.ev ?_;refine WQ ?_;repeat refine UC ?_
  refine X.D [.x (fv r),.x (fv p),.c (fv m),.x (fv u),.x (fv t),.c (fv d),.m 9,.m 10,.u 9,.u 10] [(6,RG.z 4),(7,RG.z 4)] [(9,8,ws m),(10,9,ws d)] [ws f++(ws e++(ws k)),ws i++(ws j++(ws b)),RG.z 12,ws c1,ws c2,ws p,ws r,ws t,ws u,ws m,ws d] [2,3,4,7,9,11,12] ⟨ld aS aJ,ld aS aJ,cl ((eX C r p).e H),ld aS aJ,ld aS aJ,cl ((eX C u t).e a),mk 9 183,mk 10 183,RG.pt aJ,RG.pt aJ,yCm⟩ ?_;intro j8 i8 a8 w8 O;repeat refine UC ?_
  refine O.T [.x (fv m),.x (fv m),.c (fv g),.m 11,.u 11] [(3,RG.z 4)] [(11,4,ws g)] [ws f++(ws e++(ws k)),ws i++(ws j++(ws b)),RG.z 12,ws c1,ws c2,ws p,ws r,ws t,ws u,ws m,ws d,ws g] [2,3,4,7,9,11,12,13] ⟨ld aS aJ,ld aS aJ,cl ((aW C m m).e z),mk 11 183,RG.pt aJ,yCm⟩ ?_;intro j9 a9 w9 M9;repeat refine UC ?_
  refine M9.D [.x (fv g),.x (fv m),.c (fv o),.x (fv g),.x (fv p),.c (fv n),.m 12,.m 13,.u 12,.u 13] [(6,RG.z 4),(7,RG.z 4)] [(12,8,ws o),(13,9,ws n)] [ws f++(ws e++(ws k)),ws i++(ws j++(ws b)),RG.z 12,ws c1,ws c2,ws p,ws r,ws t,ws u,ws m,ws d,ws g,ws o,ws n] [2,3,4,9,11,12,14,15] ⟨ld aS aJ,ld aS aJ,cl ((aW C g m).e Y),ld aS aJ,ld aS aJ,cl ((aW C g p).e h4),mk 12 183,mk 13 183,RG.pt aJ,RG.pt aJ,yCm⟩ ?_;intro hp hw hr hn h7;repeat refine UC ?_
  refine h7.D [.x (fv d),.x (fv d),.c (fv I),.x (fv o),.c (fv J),.x (fv n),.c (fv G),.c (fv l),.m 14,.u 14] [(8,RG.z 4)] [(14,9,ws l)] [ws f++(ws e++(ws k)),ws i++(ws j++(ws b)),RG.z 12,ws c1,ws c2,ws p,ws r,ws t,ws u,ws m,ws d,ws g,ws o,ws n,ws l] [2,3,4,9,11,12,14,15,16] ⟨ld aS aJ,ld aS aJ,cl ((aW C d d).e Z),ld aS aJ,cl ((eX C I o).e V),ld aS aJ,cl ((fQ C n).e S),cl ((eX C J G).e W),mk 14 183,RG.pt aJ,yCm⟩ ?_;intro hm k1 hq h8;repeat refine UC ?_
  refine h8.D [.x (fv d),.x (fv n),.x (fv l),.c (fv M),.c (fv K),.x (fv o),.x (fv t),.c (fv F),.c (fv q),.m 15,.u 15] [(9,RG.z 4)] [(15,10,ws q)] [ws f++(ws e++(ws k)),ws i++(ws j++(ws b)),RG.z 12,ws c1,ws c2,ws p,ws r,ws t,ws u,ws m,ws d,ws g,ws o,ws n,ws l,ws q] [2,3,4,11,16,17] ⟨ld aS aJ,ld aS aJ,ld aS aJ,cl ((eX C n l).e h1),cl ((aW C d M).e T),ld aS aJ,ld aS aJ,cl ((aW C o t).e h3),cl ((eX C K F).e U),mk 15 183,RG.pt aJ,yCm⟩ ?_;intro hs hz ht hk;repeat refine UC ?_
  refine hk.D [.x (fv l),.x (fv q),.s (.p 0 8),.x (fv k),.s (.p 1 8),.x (fv b),.c (fv L),.x (fv m),.c (fv y),.x (rv l q y),.u 2] [] [(2,10,ws l++(ws q++(ws y)))] [ws f++(ws e++(ws k)),ws i++(ws j++(ws b)),ws l++(ws q++(ws y)),ws c1,ws c2,ws p,ws r,ws t,ws u,ws m,ws d,ws g,ws o,ws n,ws l,ws q] [4] ⟨ld aS aJ,ld aS aJ,st,ld aS aJ,st,ld aS aJ,cl ((aW C k b).e h0),ld aS aJ,cl ((aW C L m).e h2),st,RG.pt i117,yCm⟩ ?_;intro k0 hu D;refine Wy ?_;refine UH (v:=(rv l q y)) (aI D.st 4 185 rfl 2 _ rfl (D.at (s:=(.p 2 0))) iH i117) D.sl.defers ?_;exact⟨_,rfl,D.st.bel.below,rfl⟩
abbrev T3(P:Nat):=Fin P × Fin P × Fin P
abbrev tv(t:T3 P):Uv:=rv t.1 t.2.1 t.2.2
abbrev tw(t:T3 P):List Uv:=ws t.1++(ws t.2.1++ws t.2.2)
def JacT(t:T3 P)(p:EC.Pt P):Prop:=Jac t.1 t.2.1 t.2.2 p/\On p
def twJ(t:T3 P):T3 P:=(twX t.1 t.2.1,twY t.1 t.2.1,twZ t.2.1 t.2.2)
def plJ(a b:T3 P):T3 P:=
 if a.2.2=0 then b else if b.2.2=0 then a else
 if cN a.1 b.2.2=cN b.1 a.2.2/\eK a.2.1 b.2.2=eK b.2.1 a.2.2 then twJ a else
 (plX (cN a.1 b.2.2) (eK a.2.1 b.2.2) (cN b.1 a.2.2) (eK b.2.1 a.2.2),plY (cN a.1 b.2.2) (eK a.2.1 b.2.2) (cN b.1 a.2.2) (eK b.2.1 a.2.2),plZ a.2.2 b.2.2 (cN a.1 b.2.2) (cN b.1 a.2.2))
def opJ(t:T3 P):T3 P:=(t.1,0-t.2.1,t.2.2)
def raJ(x y:Fin P):T3 P:=if x=0/\y=0 then(0,0,0) else(x,y,1)
theorem Nv(C:Fld P)(t:T3 P):Gives 108 #[tv t] (tv (twJ t)):=Ev C t.1 t.2.1 t.2.2
theorem NC(C:Fld P)(a b:T3 P):Gives 109 #[tv a,tv b] (tv (plJ a b)):=by
 obtain⟨f,d,e⟩:=a;obtain⟨j,g,i⟩:=b;exact Gz C f d e j g i _ (λh=>by unfold plJ;rw[yCk h]) (λk c=>by unfold plJ;rw[yCl k,yCk c]) (λk c h=>by unfold plJ;rw[yCl k,yCl c,yCk h];rfl) (λk c h=>by unfold plJ;rw[yCl k,yCl c,yCl h])
theorem Rk(C:Fld P)(t:T3 P):Gives 184 #[tv t] (tv (opJ t)):=DF C t.1 t.2.1 t.2.2
theorem Q6(C:Fld P)(x y:Fin P):Gives 178 #[pv x y] (tv (raJ x y)):=by
 unfold raJ;by_cases k:x=0/\y=0
 ·rw[yCk k];exact Gs C x y k
 ·rw[yCl k];exact Gu C x y k
theorem Q8(C:Fld P)(t:T3 P):Gives 111 #[tv t] (pv (t.1*(inv t.2.2*inv t.2.2)) (t.2.1*(inv t.2.2*inv t.2.2)*inv t.2.2)):=Mi C t.1 t.2.1 t.2.2
theorem JacT.twice(C:Fld P)(h:JacT t p):JacT (twJ t) (EC.add p p):=⟨h.1.twice C.cur h.2,C.cur.on h.2 h.2⟩
theorem JacT.plus(C:Fld P){a b:T3 P}{q:EC.Pt P}(h:JacT a p)(k:JacT b q):JacT (plJ a b) (EC.add p q):=by
 refine⟨?_,C.cur.on h.2 k.2⟩;obtain⟨m,j,i⟩:=a;obtain⟨n,l,g⟩:=b;unfold plJ;by_cases c:i=0
 ·rw[yCk c];obtain rfl:=h.1.zero C.cur c;exact k.1
 ·rw[yCl c];by_cases d:g=0
  ·rw[yCk d];obtain rfl:=k.1.zero C.cur d;rw[bK];exact h.1
  ·rw[yCl d];rcases h.1.plus C.cur h.2 k.1 k.2 c d with⟨f,e,e3⟩|⟨f,e⟩
   ·rw[yCk ⟨f,e⟩,e3];exact h.1.twice C.cur h.2
   ·rw[yCl f];exact e
theorem JacT.neg(h:JacT t p):JacT (opJ t) (neg p):=⟨h.1.neg,cE h.2⟩
theorem NA(C:Fld P)(h:Pair x y p)(b:On p):JacT (raJ x y) p:=by
 refine⟨?_,b⟩;unfold raJ;by_cases k:x=0/\y=0
 ·obtain rfl:=h.nothing C.cur b k;rw[yCk k];rfl
 ·rw[yCl k];exact h.jac C.cur k
theorem JacT.pair(C:Fld P)(h:JacT t p):Pair (t.1*(inv t.2.2*inv t.2.2)) (t.2.1*(inv t.2.2*inv t.2.2)*inv t.2.2) p:=h.1.pair C.cur
theorem JacT.none:JacT ((0,0,0):T3 P) .none:=⟨rfl,iQ⟩
end
namespace DG
def mM(d:Nat->Int):Nat->Int
 | 0=>0
 | k+1=>mM d k+d k*2^k
def upd(d:Nat->Int)(i:Nat)(v:Int):Nat->Int:=λj=>if j=i then v else d j
theorem xZ{d e:Nat->Int}:∀k,(∀j,j<k->d j=e j)->mM d k=mM e k
 | 0,_=>rfl
 | k+1,h=>by
  show mM d k+d k*2^k=mM e k+e k*2^k;rw[xZ k λj b=>h j oM,h k oM]
theorem xY{d:Nat->Int}(i:Nat)(h:∀j,i<=j->d j=0):∀k,mM d (i+k)=mM d i
 | 0=>rfl
 | k+1=>by
  show mM d (i+k)+d (i+k)*2^(i+k)=_;rw[h (i+k) oM,ZL,Z0,xY i h k]
theorem upd_same(d:Nat->Int)(i:Nat)(v:Int):upd d i v i=v:=yCk rfl
theorem jB{d:Nat->Int}{v:Int}(h:j≠i):upd d i v j=d j:=yCl h
theorem JI{d:Nat->Int}(i:Nat)(v:Int)(h:∀j,i<=j->d j=0)(k:Nat):mM (upd d i v) (i+1+k)=mM d i+v*2^i:=by
 rw[xY (i+1) (λj b=>by rw[jB oM];exact h j oM) k];show mM (upd d i v) i+upd d i v i*2^i=_;rw[upd_same,xZ i λj b=>jB oM]
structure DI(n:Nat)(d:Nat->Int)(i c:Nat):Prop where
 hc:c<=1
 hz:∀j,i<=j->d j=0
 hw:∀j,257<=j->d j=0
 ho:∀j,d j=0\/(d j%2=1/\-15<=d j/\d j<=15)
 hs:(n:Int)=mM d i+((n/2^i+c:Nat):Int)*2^i
 he:257<=i->n/2^i+c=0
theorem DI.start(n:Nat):DI n (λ_=>0) 0 0:=by
 refine⟨dC,λ_ _=>rfl,λ_ _=>rfl,λ_=>U6 rfl,?_,λh=>oM⟩;rw[Nat.pow_zero,Nat.div_one];show(n:Int)=0+((n+0:Nat):Int)*1;omega
theorem high{n:Nat}(b:n<2^256)(k:256<=i):n/2^i=0:=
 XA (Uz b (VN dC k))
theorem DI.skip{n:Nat}{d:Nat->Int}(h:DI n d i c)(g:n<2^256)(m:i<257)(f:n/2^i%2=c):DI n d (i+1) c:=by
 have k:n/2^(i+1)=n/2^i/2:=by rw[V8,YD]
 refine⟨h.hc,λj l=>h.hz j oM,h.hw,h.ho,?_,λb=>?_⟩
 ·rw[h.hs];show _=mM d i+d i*2^i+_;rw[h.hz i (Uy _),ZL,Z0,k,show n/2^i+c=(n/2^i/2+c)*2 by have:=h.hc;omega];rw[show(2:Int)^(i+1)=2^i*2 by rw[yBS]];generalize (2:Int)^i=t;rw[XD,yAp,ZM (2:Nat) t];rfl
 ·have o:i=256:=oM;have e:n/2^i=0:=high g oM;rw[k,e];rw[e]at f;omega
theorem DI.take{n:Nat}{d:Nat->Int}(h:DI n d i c)(q:n<2^256)(s:i<257)(l:n/2^i%2≠c):
 DI n (upd d i (((n/2^i%32+c:Nat):Int)-32*(((n/2^i%32+c)/16:Nat):Int))) (i+5) ((n/2^i%32+c)/16):=by
 have b:n/2^(i+5)=n/2^i/32:=by rw[Yh,YD]
 have r:=h.hc;have k:(n/2^i%32+c)%2=1:=oM;have f:n/2^i%32+c<32:=oM;refine⟨oM,λj e=>?_,λj e=>?_,λj=>?_,?_,λg=>?_⟩
 ·rw[jB oM];exact h.hz j oM
 ·rw[jB oM];exact h.hw j e
 ·by_cases e:j=i
  ·subst e;rw[upd_same];right;omega
  ·rw[jB e];exact h.ho j
 ·rw[show i+5=i+1+4 by omega,JI i _ h.hz 4,show i+1+4=i+5 by omega,h.hs,Int.add_assoc]
  congr 1
  rw[b,Int.pow_add,show(2:Int)^5=32 by decide,<-ZM (32:Int),<-yAp,<-yB1]
  congr 1
  omega
 ·have p:n/2^i<16:=by
   rw[Nat.div_lt_iff_lt_mul (Nat.pow_pos dC)];refine Uz q ?_
   calc 2^256=16*2^252:=dK
    _<=16*2^i:=WP (Uy _) (VN dC oM)
  rw[b];generalize n/2^i=m at p l k f⊢;rw[UU (show m<32 by omega)]at k⊢;have o:m+c<16:=oM;rw[XA o,XA (show m<32 by omega)]
theorem DI.all{n:Nat}{d:Nat->Int}(h:DI n d i c)(b:257<=i):(n:Int)=mM d 257:=by
 have k:=h.hs;rw[h.he b,Int.natCast_zero,ZL,Z0]at k;rw[k,show i=257+(i-257) by omega,xY 257 h.hw]
def hor(d:Nat->Int):Nat->Int
 | 0=>0
 | k+1=>2*hor d k+d (256-k)
theorem Ff(d:Nat->Int):∀k,k<=257->hor d k*2^(257-k)+mM d (257-k)=mM d 257
 | 0,_=>by show 0*_+_=_;rw[ZL,Int.zero_add]
 | k+1,hk=>by
  rw[<-Ff d k oM];show(2*hor d k+d (256-k))*2^(257-(k+1))+mM d (257-(k+1))=_;rw[show 257-(k+1)=256-k by omega,show 257-k=(256-k)+1 by omega];show _=hor d k*2^(256-k+1)+(mM d (256-k)+d (256-k)*2^(256-k));rw[yBS];generalize (2:Int)^(256-k)=t;generalize hor d k=a;rw[yB1,ZM t 2,<-yAp,ZM a 2];omega
theorem MJ{n:Nat}{d:Nat->Int}(h:DI n d i c)(b:257<=i):hor d 257=(n:Int):=by
 have k:=Ff d 257 (Uy _);rw[YH]at k;rw[h.all b,<-k];show hor d 257=hor d 257*1+0;omega
end DG
section
open Go.RowKit Go.Sort
variable {P:Nat}[NeZero P]{N:Nat}
theorem J9(k o i:Nat)(b:i<257)(w:Ut):(Vj 188 (oZ k o) (iZ i)).run prog w=.ok (.pointer (some ⟨k,o+i,none⟩)) w:=by
 have c:¬(i:Int)<0:=oM;have d:(i:Int)<257:=oM;go_simp
theorem Qh(k i:Nat)(b:i<257)(w:Ut):(Vj 188 (jZ k) (iZ i)).run prog w=.ok (oZ k i) w:=by
 rw[J9 k 0 i b,UF]
theorem FS(k o i:Nat)(b:i<8)(w:Ut):(Vj 186 (oZ k o) (iZ i)).run prog w=.ok (.pointer (some ⟨k,o+12*i,none⟩)) w:=by
 have c:¬(i:Int)<0:=oM;have d:(i:Int)<8:=oM;go_simp
theorem Ka(k o i:Nat)(b:i<8)(w:Ut):(Vj 186 (oZ k o) (.int .i8 i)).run prog w=.ok (.pointer (some ⟨k,o+12*i,none⟩)) w:=by
 have c:¬(i:Int)<0:=oM;have d:(i:Int)<8:=oM;go_simp
theorem FT(k n c i:Nat)(b:i<n)(w:Ut):(Vj 182 (sZ k n c) (iZ i)).run prog w=.ok (.pointer (some ⟨k,353*i,none⟩)) w:=by
 go_simp
theorem SX(k o n c i:Nat)(b:i<n)(w:Ut):(Vj 89 (.slice (some ⟨k,o,none⟩) n c) (iZ i)).run prog w=.ok (.pointer (some ⟨k,o+4*i,none⟩)) w:=by
 go_simp
theorem N6(k o n c i:Nat)(b:i<n)(w:Ut):(Vj 100 (.slice (some ⟨k,o,none⟩) n c) (iZ i)).run prog w=.ok (.pointer (some ⟨k,o+8*i,none⟩)) w:=by
 go_simp
theorem NQ(d:Int)(hd:-15<=d/\d<=15)(w:Ut):(yBM .neg (.int .i8 d)).run prog w=.ok (.int .i8 (-d)) w:=by
 have h:=Z7 (-d) oM;go_simp
theorem NP(k:Nat)(b:k<8)(w:Ut):(binOp .quo 187 (.int .i8 (2*(k:Int)+1)) (.int .i8 2)).run prog w=.ok (.int .i8 k) w:=by
 have c:(2*(k:Int)+1).tdiv 2=(k:Int):=by rw[Int.tdiv_eq_ediv_of_nonneg oM];omega
 have h:=Z7 (k:Int) oM;go_simp
theorem Ts(g:Nat)(k:g<32)(w:Ut):(binOp .shr 3 (iZ g) (uZ 4)).run prog w=.ok (iZ ((g/16:Nat):Int)) w:=by
 go_simp
theorem Tt(g:Nat)(k:g<32)(w:Ut):(binOp .shl 3 (iZ g) (uZ 5)).run prog w=.ok (iZ (32*(g:Int))) w:=by
 have h:=Ws (32*(g:Int)) oM;have b:(g:Int)*32=32*(g:Int):=oM;go_simp
theorem Dh(a b:Int)(c:-1000<=a/\a<=1000)(k:-1000<=b/\b<=1000)(w:Ut):(binOp .sub 3 (iZ a) (iZ b)).run prog w=.ok (iZ (a-b)) w:=by
 have h:=Ws (a-b) oM;go_simp
theorem uP(a b:Nat)(c:a<=1000000)(k:b<=1000000)(w:Ut):(binOp .add 3 (iZ a) (iZ b)).run prog w=.ok (iZ ((a+b:Nat):Int)) w:=by
 have h:=Ws ((a:Int)+(b:Int)) oM;go_simp
theorem cv8(v:Int)(hv:-15<=v/\v<=15)(w:Ut):(convert 3 187 (iZ v)).run prog w=.ok (.int .i8 v) w:=by
 have h:=Z7 v oM;go_simp
theorem SB{b:Nat}(e:b=c)(w:Ut):(binOp .eql 3 (iZ b) (iZ c)).run prog w=.ok (.bool true) w:=by
 subst e;go_simp
theorem SC{b:Nat}(e:¬b=c)(w:Ut):(binOp .eql 3 (iZ b) (iZ c)).run prog w=.ok (.bool false) w:=by
 have h:¬(b:Int)=(c:Int):=oM;go_simp
theorem gB{n:Nat}(e:i<n)(w:Ut):(binOp .lss 3 (iZ i) (iZ n)).run prog w=.ok (.bool true) w:=by
 go_simp
theorem nG{n:Nat}(e:¬i<n)(w:Ut):(binOp .lss 3 (iZ i) (iZ n)).run prog w=.ok (.bool false) w:=by
 go_simp
theorem KL{n:Nat}(d:n<top)(hf:f<=256)(k:c<=32):Gives 220 #[nv n,iZ f,iZ c] (iZ ((n/2^f%2^c:Nat):Int)):=λw =>
 (C4 _ n f c (vE d) hf k w).mono (by rintro e w' ⟨v,rfl,b,rfl⟩;exact⟨_,rfl,b,rfl⟩)
def dg(d:Nat->Int):List Uv:=(VB 257).map (λj=>V2 .i8 (d j))
def dv(d:Nat->Int):Uv:=.agg (dg d).toArray
theorem bQ(d:Nat->Int):(dg d).length=257:=by unfold dg;rw[US,List.length_range]
theorem JM(d:Nat->Int)(j:Nat)(k:j<257):(dg d)[j]? = some (.int .i8 (d j)):=by
 unfold dg;rw[Vy,List.getElem?_range k];rfl
theorem PX(d:Nat->Int)(i:Nat)(v:Int):dg (DG.upd d i v)=(dg d).set i (.int .i8 v):=by
 apply Zb;intro j;rw[List.getElem?_set];by_cases b:j<257
 ·rw[JM _ j b,JM _ j b];by_cases k:i=j
  ·subst k;rw[yCk rfl,yCk (by rw[bQ];exact b),DG.upd_same]
  ·rw[yCl k,DG.jB (λh=>k h.symm)]
 ·rw[WE (by rw[bQ];omega)];by_cases k:i=j
  ·rw[yCk k,yCl (by rw[bQ];omega)]
  ·rw[yCl k,WE (by rw[bQ];omega)]
theorem JL(d:Nat->Int):(dg d).all (·.oneCell')=true:=by
 unfold dg;rw[List.all_map];exact List.all_eq_true.2 λ_ _=>rfl
theorem PV(d:Nat->Int):((dg d).drop 0).take (dg d).length=dg d:=by rw[List.drop_zero,List.take_length]
def dgo(n:Nat):Nat->(Nat->Int)->Nat->Nat->(Nat->Int)
 | 0,d,_,_=>d
 | f+1,d,i,c=>if i<257 then(if n/2^i%2=c then dgo n f d (i+1) c else
  dgo n f (DG.upd d i (((n/2^i%32+c:Nat):Int)-32*(((n/2^i%32+c)/16:Nat):Int))) (i+5) ((n/2^i%32+c)/16)) else d
theorem Fz(n:Nat)(f:Nat)(d:Nat->Int)(i c:Nat)(h:¬i<257):dgo n f d i c=d:=by
 cases f with
 | zero=>rfl
 | succ f=>rw[dgo,yCl h]
theorem D4{n:Nat}(e:n<2^256):∀(f:Nat) (d:Nat->Int) (i c:Nat),DG.DI n d i c->257<=i+f->∃g j,257<=g/\DG.DI n (dgo n f d i c) g j
 | 0,d,i,c,h,hf=>⟨i,c,oM,h⟩
 | f+1,d,i,c,h,hf=>by
  by_cases b:i<257
  ·rw[dgo,yCk b];by_cases k:n/2^i%2=c
   ·rw[yCk k];exact D4 e f d (i+1) c (h.skip e b k) oM
   ·rw[yCl k];exact D4 e f _ (i+5) _ (h.take e b k) oM
  ·rw[Fz n _ d i c b];exact⟨i,c,oM,h⟩
def eZ(n:Nat):Nat->Int:=dgo n 257 (λ_=>0) 0 0
theorem A9{n:Nat}(k:n<2^256):∃i c,257<=i/\DG.DI n (eZ n) i c:=D4 k 257 _ 0 0 (DG.DI.start n) oM
theorem u138:(prog.underlying 188).map (·.isRow)=some true:=kR
theorem i138:(prog.info? 188).map (·.size)=some 257:=kR
theorem T8:(prog.info? 187).map (·.size)=some 1:=kR
theorem QG:(prog.underlying 187).map (·.isRow)=some false:=kR
theorem Oa(w:Ut):(yAE 188 true (.tuple #[])).run prog w=.ok (jZ w.heap.size) (w.alloc (.cells (dg (λ_=>0)).toArray 188)):=kR
theorem JK{n:Nat}(hn:n<top):Gives 177 #[nv n] (dv (eZ n)):=by
 intro w;go_enter func177,ntmps177;refine Hz (v0:=nv n) (n:=33) kR kR kR ?_;intro a0 h0 f0;have Z:=RG.St.begin w;have r:RG.M w w.heap.size [] 33 [] [] [(0,.v (nv n))] a0 _:=⟨Z,h0,⟨f0,yCm⟩⟩
 repeat refine UC ?_
 refine r.T [.m 0,.m 1] [(0,wn n),(1,dg (λ_=>0))] [] [wn n,dg (λ_=>0)] [1,2] ⟨mk 0 47,qG 1 rfl rfl _ rfl 188 rfl Oa,yCm⟩ ?_;intro W V a1 w1 j;repeat refine UC ?_
 refine j.T [.m 2] [(0,dg (λ_=>0))] [] [wn n,dg (λ_=>0),dg (λ_=>0)] [1,2,3] ⟨qG 2 rfl rfl _ rfl 188 rfl Oa,yCm⟩ ?_;intro Y a2 w2 k;repeat refine UC ?_
 refine k.U [.x (iZ 0)] [1,2,3,4] ⟨st,yCm⟩ ?_;intro q w3 f;repeat refine UC ?_
 refine f.U [.x (iZ 0)] [1,2,3,4,5] ⟨st,yCm⟩ ?_;intro z w4 l;have P:z.tmps[1]? = some (jZ W):=l.at (s:=(.p 0 0));have D:z.tmps[2]? = some (jZ V):=l.at (s:=(.p 1 0));have M:z.tmps[3]? = some (jZ Y):=l.at (s:=(.p 2 0));have N:z.tmps[4]? = some (iZ 0):=l.at (s:=(.v (iZ 0)));have Q:z.tmps[5]? = some (iZ 0):=l.at (s:=(.v (iZ 0)));repeat refine UC ?_
 refine Xy ?_;refine Yt (λm a wr=>∃(d:Nat->Int) (i c:Nat),c<=1/\i<=261/\257<=i+m/\dgo n m d i c=eZ n/\Sl a 33/\a.tmps[1]? = some (jZ W)/\a.tmps[2]? = some (jZ V)/\a.tmps[3]? = some (jZ Y)/\a.tmps[4]? = some (iZ c)/\a.tmps[5]? = some (iZ i)/\RG.St w w.heap.size [] [wn n,dg (λ_=>0),dg d] [W,V,Y] wr) 257 ⟨λ_=>0,0,0,oM,oM,oM,rfl,l.sl,P,D,M,N,Q,l.st⟩ ?_;intro m a wr;rintro⟨d,i,c,hc,h4,hm,hd,sl,y,f2,u,f4,f5,x⟩;obtain⟨b,A⟩:∃b,n/2^i%2=b:=⟨_,rfl⟩
 obtain⟨e,B⟩:∃e,n/2^i%32=e:=⟨_,rfl⟩
 obtain⟨g,U⟩:∃g,e+c=g:=⟨_,rfl⟩
 obtain⟨v,F⟩:∃v:Int,(g:Int)-32*((g/16:Nat):Int)=v:=⟨_,rfl⟩
 generalize W=T at y f2 u x;generalize V=O at y f2 u x;generalize Y=K at y f2 u x;by_cases t:i<257
 ·have S:Gives 220 #[nv n,iZ i,iZ 1] (iZ b):=by rw[<-A];exact KL (c:=1) hn oM oM
  have h2:Gives 220 #[nv n,iZ i,iZ 5] (iZ e):=by rw[<-B];exact KL (c:=5) hn oM oM
  have h1:∃o,m=o+1:=by
   cases m with
   | zero=>exact absurd hm oM
   | succ o=>exact⟨o,rfl⟩
  obtain⟨o,rfl⟩:=h1;rw[dgo,yCk t,A,B,U,F]at hd;by_cases X:b=c
  ·rw[yCk X]at hd;have r:RG.M w w.heap.size [] 33 [wn n,dg (λ_=>0),dg d] [T,O,K] [(1,.p 0 0),(2,.p 1 0),(3,.p 2 0),(4,.v (iZ c)),(5,.v (iZ i))] a _:=⟨x,sl,⟨y,f2,u,f4,f5,yCm⟩⟩
   repeat refine UC ?_
   refine r.U [.x (iZ i),.x (.bool true)] [1,2,3,4,5,8] ⟨st,aP rfl .lss 3 3 7 (iZ i) (iZ 257) (.bool true) rfl rfl sx (λw=>kR) (gB (n:=257) t),yCm⟩ ?_;intro a1 w1 j;repeat refine UC ?_
   refine VH j.ev ?_;refine WQ ?_;refine UC ?_;refine Xy ?_;repeat refine UC ?_
   refine j.U [.x (nv n),.x (iZ i),.c (iZ b),.x (iZ c),.x (.bool true)] [1,2,3,4,5,15] ⟨ld u85 i85,st,cl S,st,aQ rfl .eql 3 3 13 14 (iZ b) (iZ c) (.bool true) rfl rfl sx sx (λw=>kR) (SB X),yCm⟩ ?_;intro a2 w2 k;repeat refine UC ?_
   refine VH k.ev ?_;refine wp_exit ?_;dsimp only[Exit.then,Ye];rw[yCk rfl];repeat refine UC ?_
   refine k.U [.x (iZ i),.x (iZ ((i+1:Nat):Int)),.x (iZ ((i+1:Nat):Int))] [1,2,3,4,5] ⟨st,aP rfl .add 3 3 9 (iZ i) (iZ 1) (iZ ((i+1:Nat):Int)) rfl rfl sx (λw=>kR) (uP i 1 oM oM),st,yCm⟩ ?_;intro q w3 f;have H:q.tmps[1]? = some (jZ T):=f.at (s:=(.p 0 0));have p:q.tmps[2]? = some (jZ O):=f.at (s:=(.p 1 0));have G:q.tmps[3]? = some (jZ K):=f.at (s:=(.p 2 0));have E:q.tmps[4]? = some (iZ c):=f.at (s:=(.v (iZ c)));have C:q.tmps[5]? = some (iZ ((i+1:Nat):Int)):=f.at (s:=(.v (iZ ((i+1:Nat):Int))));show ∃n',_;exact⟨o,XZ o,d,i+1,c,hc,oM,oM,hd,f.sl,H,p,G,E,C,f.st⟩
  ·rw[yCl X]at hd;have he:e<32:=oM;have h3:g%2=1:=oM;have hg:g<32:=oM;have hv:-15<=v/\v<=15:=oM;have R:∀w,(binOp .add 3 (iZ e) (iZ c)).run prog w=.ok (iZ g) w:=λw=>by rw[uP e c oM oM,U]
   have C:∀w,(binOp .sub 3 (iZ g) (iZ (32*((g/16:Nat):Int)))).run prog w=.ok (iZ v) w:=λw=>by rw[Dh _ _ oM oM,F]
   have r:RG.M w w.heap.size [] 33 [wn n,dg (λ_=>0),dg d] [T,O,K] [(1,.p 0 0),(2,.p 1 0),(3,.p 2 0),(4,.v (iZ c)),(5,.v (iZ i))] a _:=⟨x,sl,⟨y,f2,u,f4,f5,yCm⟩⟩
   repeat refine UC ?_
   refine r.U [.x (iZ i),.x (.bool true)] [1,2,3,4,5,8] ⟨st,aP rfl .lss 3 3 7 (iZ i) (iZ 257) (.bool true) rfl rfl sx (λw=>kR) (gB (n:=257) t),yCm⟩ ?_;intro a1 w1 j;repeat refine UC ?_
   refine VH j.ev ?_;refine WQ ?_;refine UC ?_;refine Xy ?_;repeat refine UC ?_
   refine j.U [.x (nv n),.x (iZ i),.c (iZ b),.x (iZ c),.x (.bool false)] [1,2,3,4,5,15] ⟨ld u85 i85,st,cl S,st,aQ rfl .eql 3 3 13 14 (iZ b) (iZ c) (.bool false) rfl rfl sx sx (λw=>kR) (SC X),yCm⟩ ?_;intro a2 w2 k;repeat refine UC ?_
   refine VJ k.ev ?_;refine WQ ?_;repeat refine UC ?_
   refine k.U [.x (nv n),.x (iZ i),.c (iZ e),.x (iZ c),.x (iZ g),.x (iZ g)] [1,2,3,4,5,6] ⟨ld u85 i85,st,cl h2,st,aQ rfl .add 3 3 18 19 (iZ e) (iZ c) (iZ g) rfl rfl sx sx (λw=>kR) R,st,yCm⟩ ?_;intro q w3 f;repeat refine UC ?_
   refine f.U [.x (iZ g),.x (iZ ((g/16:Nat):Int)),.x (iZ ((g/16:Nat):Int))] [1,2,3,4,5,6] ⟨st,aP rfl .shr 3 169 21 (iZ g) (uZ 4) (iZ ((g/16:Nat):Int)) rfl rfl sx (λw=>kR) (Ts g hg),st,yCm⟩ ?_;intro z w4 l;repeat refine UC ?_
   refine l.T [.x (iZ i),.x (iZ g),.x (iZ ((g/16:Nat):Int)),.x (iZ (32*((g/16:Nat):Int))),.x (iZ v),.x (.int .i8 v),.s (.p 2 i),.u 2] [] [(2,7,dg (DG.upd d i v))] [wn n,dg (λ_=>0),dg (DG.upd d i v)] [1,2,3,4,5] ⟨st,st,st,aP rfl .shl 3 169 25 (iZ ((g/16:Nat):Int)) (uZ 5) (iZ (32*((g/16:Nat):Int))) rfl rfl sx (λw=>kR) (Tt (g/16) oM),aQ rfl .sub 3 3 24 26 (iZ g) (iZ (32*((g/16:Nat):Int))) (iZ v) rfl rfl sx sx (λw=>kR) C,GX rfl 3 187 27 (iZ v) (.int .i8 v) rfl rfl sx (cv8 v hv),bD rfl 188 3 23 rfl (.p 2 0) (iZ i) sx sx (λμ w=>Qh _ i t w),GW 2 i rfl _ rfl 187 (.tmp 29) (.tmp 28) (.int .i8 v) rfl rfl sx sx (by show i<(dg _).length;rw[bQ];exact t) (PX d i v) T8 rfl rfl,yCm⟩ ?_;intro a5 w5 M5;repeat refine UC ?_
   refine M5.U [.x (iZ i),.x (iZ ((i+4:Nat):Int)),.x (iZ ((i+4:Nat):Int))] [1,2,3,4,5] ⟨st,aP rfl .add 3 3 30 (iZ i) (iZ 4) (iZ ((i+4:Nat):Int)) rfl rfl sx (λw=>kR) (uP i 4 oM oM),st,yCm⟩ ?_;intro a6 w6 M6;repeat refine UC ?_
   refine M6.U [.x (iZ ((i+4:Nat):Int)),.x (iZ ((i+4+1:Nat):Int)),.x (iZ ((i+4+1:Nat):Int))] [1,2,3,4,5] ⟨st,aP rfl .add 3 3 9 (iZ ((i+4:Nat):Int)) (iZ 1) (iZ ((i+4+1:Nat):Int)) rfl rfl sx (λw=>kR) (uP (i+4) 1 oM oM),st,yCm⟩ ?_;intro I w7 p;have E:I.tmps[1]? = some (jZ T):=p.at (s:=(.p 0 0));have G:I.tmps[2]? = some (jZ O):=p.at (s:=(.p 1 0));have J:I.tmps[3]? = some (jZ K):=p.at (s:=(.p 2 0));have H:I.tmps[4]? = some (iZ ((g/16:Nat):Int)):=p.at (s:=(.v (iZ ((g/16:Nat):Int))));have L:I.tmps[5]? = some (iZ ((i+4+1:Nat):Int)):=p.at (s:=(.v (iZ ((i+4+1:Nat):Int))));show ∃n',_;exact⟨o,XZ o,DG.upd d i v,i+5,g/16,oM,oM,oM,hd,p.sl,E,G,J,H,L,p.st⟩
 ·have o:d=eZ n:=by rw[<-hd,Fz n m d i c t]
  have r:RG.M w w.heap.size [] 33 [wn n,dg (λ_=>0),dg d] [T,O,K] [(1,.p 0 0),(2,.p 1 0),(3,.p 2 0),(4,.v (iZ c)),(5,.v (iZ i))] a _:=⟨x,sl,⟨y,f2,u,f4,f5,yCm⟩⟩
  repeat refine UC ?_
  refine r.U [.x (iZ i),.x (.bool false)] [2,3,8] ⟨st,aP rfl .lss 3 3 7 (iZ i) (iZ 257) (.bool false) rfl rfl sx (λw=>kR) (nG (n:=257) t),yCm⟩ ?_;intro a1 w1 j;repeat refine UC ?_
  refine VJ j.ev ?_;refine wp_exit ?_;dsimp only[Exit.then,Ye];rw[yCk rfl];repeat refine UC ?_
  refine j.T [.x (dv d),.u 1] [] [(1,1,dg d)] [wn n,dg d,dg d] [2] ⟨oI rfl 2 0 _ rfl rfl kR 188 3 rfl (dg d) rfl sx (PV _) u138 (by rw[bQ];exact i138),JX 1 rfl _ rfl 188 (.tmp 2) (.tmp 32) rfl rfl (by show(dg _).length=(dg _).length;rw[bQ,bQ]) sx sx (by show _=some (dg _).length;rw[bQ];exact i138) (JL _),yCm⟩ ?_;intro a2 w2 k;refine Wy ?_;refine UH (v:=dv d) (aI k.st 2 188 rfl 1 _ rfl (k.at (s:=(.p 1 0))) u138 (by rw[bQ];exact i138)) k.sl.defers ?_;exact⟨_,rfl,k.st.bel.below,by rw[o]⟩
omit [NeZero P] in
theorem cJ(t:T3 P):(tw t).length=12:=rfl
omit [NeZero P] in
theorem H8(t:T3 P):(tw t).all (·.oneCell')=true:=rfl
def od(x y:Fin P):Nat->T3 P
 | 0=>raJ x y
 | q+1=>plJ (od x y q) (twJ (raJ x y))
theorem O6(C:Fld P)(h:Pair x y p)(k:On p):∀q,JacT (od x y q) (eF ((2*q+1:Nat):Int) p)
 | 0=>by
  show JacT (raJ x y) (eF 1 p);rw[Bw];exact NA C h k
 | q+1=>by
  have c:=O6 C h k q;have d:=(NA C h k).twice C;have b:=c.plus C d;have e:eF ((2*(q+1)+1:Nat):Int) p=EC.add (eF ((2*q+1:Nat):Int) p) (EC.add p p):=by
   have:EC.add p p=eF 2 p:=by
    rw[show(2:Int)=1+1 by rfl,vT C.cur k,Bw]
   rw[this,<-vT C.cur k]
   congr 1
  rw[e];exact b
structure Fi(x y:Fin P)(D:Nat->Int)(C0:List Uv)(off m:Nat)(C:List Uv):Prop where
 len:C.length=C0.length
 out:∀j,j<off\/off+353<=j->C[j]? = C0[j]?
 dig:∀j,j<257->C[off+96+j]? = some (.int .i8 (D j))
 odd:∀q j,q<m->j<12->C[off+12*q+j]? = (tw (od x y q))[j]?
theorem Fi.first{off:Nat}(h:off+353<=C0.length):Fi x y D C0 off 0 (rep C0 (off+96) (dg D)):=by
 have k:off+96+(dg D).length<=C0.length:=by rw[bQ];omega
 refine⟨cU k,λj b=>?_,λj b=>?_,λq j c _=>oM⟩
 ·rw[RG.rep_at k,yCl (by rw[bQ];omega)]
 ·rw[RG.rep_at k,yCk (by rw[bQ];omega),show off+96+j-(off+96)=j by omega,JM D j b]
theorem Fi.next{off m:Nat}(h:off+353<=C0.length)(d:Fi x y D C0 off m C)(g:m<8):Fi x y D C0 off (m+1) (rep C (off+12*m) (tw (od x y m))):=by
 have b:=d.len;have c:off+12*m+(tw (od x y m)).length<=C.length:=by rw[cJ];omega
 refine⟨by rw[cU c];exact b,λj k=>?_,λj k=>?_,λq j f k=>?_⟩
 ·rw[RG.rep_at c,yCl (by rw[cJ];omega)];exact d.out j k
 ·rw[RG.rep_at c,yCl (by rw[cJ];omega)];exact d.dig j k
 ·rw[RG.rep_at c];by_cases e:q=m
  ·subst e;rw[yCk (by rw[cJ];omega),show off+12*q+j-(off+12*q)=j by omega]
  ·rw[yCl (by rw[cJ];omega)];exact d.odd q j oM k
theorem Fi.sub{off m:Nat}(h:off+353<=C0.length)(b:Fi x y D C0 off m C)(c:q<m)(d:m<=8):(C.drop (off+12*q)).take (tw (od x y q)).length=tw (od x y q):=
 OB (λj k=>b.odd q j c (by rw[cJ]at k;exact k)) (by rw[cJ];have:=b.len;omega)
def fc(x y:Fin P)(D:Nat->Int)(C0:List Uv)(off:Nat):Nat->List Uv
 | 0=>rep C0 (off+96) (dg D)
 | m+1=>rep (fc x y D C0 off m) (off+12*m) (tw (od x y m))
theorem Ft{off:Nat}(h:off+353<=C0.length):∀m,m<=8->Fi x y D C0 off m (fc x y D C0 off m)
 | 0,_=>Fi.first h
 | m+1,hm=>(Ft h m oM).next h oM
theorem Fi.uniq{b:List Uv}{off:Nat}(h:Fi x y D C0 off 8 C)(k:Fi x y D C0 off 8 b):C=b:=by
 apply Zb;intro j;by_cases c:j<off\/off+353<=j
 ·rw[h.out j c,k.out j c]
 ·by_cases d:j<off+96
  ·have e:j=off+12*((j-off)/12)+(j-off)%12:=oM;rw[e,h.odd _ _ oM oM,k.odd _ _ oM oM]
  ·have e:j=off+96+(j-off-96):=oM;rw[e,h.dig _ oM,k.dig _ oM]
theorem PT(F:Fld P){n:Nat}(hn:n<top)(x y:Fin P)(C0:List Uv)(k off:Nat)(g:off+353<=C0.length)(w:Ut)(hk:k<w.heap.size)(ht:w.there k 0 C0.length)(hr:w.rangeAt k 0 C0):
 UK prog 107 #[oZ k off,nv n,pv x y] w (Ret λr w'=>(∃C,Fi x y (eZ n) C0 off 8 C/\PutTo k C0.length C w w')/\r=.tuple #[]):=by
 obtain⟨D,p⟩:∃D,eZ n=D:=⟨_,rfl⟩
 have hD:Gives 177 #[nv n] (dv D):=p ▸ JK hn;obtain⟨s0,e⟩:∃s,raJ x y=s:=⟨_,rfl⟩
 have hb:Gives 178 #[pv x y] (tv s0):=e ▸ Q6 F x y;obtain⟨s2,d⟩:∃s,twJ s0=s:=⟨_,rfl⟩
 have h9:Gives 108 #[tv s0] (tv s2):=d ▸ Nv F s0;obtain⟨f,t⟩:∃c,rep C0 (off+96) (dg D)=c:=⟨_,rfl⟩
 have M:off+96+(dg D).length<=C0.length:=by rw[bQ];omega
 have X:=t ▸ RG.rep_at M;have W:f.length=C0.length:=t ▸ cU M;have F1:Fi x y D C0 off 0 f:=t ▸ Fi.first g;obtain⟨l,b⟩:∃c,rep f (off+0+12*0) (tw s0)=c:=⟨_,rfl⟩
 have o:off+0+12*0+(tw s0).length<=f.length:=by rw[cJ];omega
 have B:=b ▸ RG.rep_at o;have A:l.length=f.length:=b ▸ cU o;have F2:Fi x y D C0 off 1 l:=by
  have:=F1.next g dC;rw[<-b,<-e];exact this
 have z:(l.drop (off+0+12*0)).take (tw s0).length=tw s0:=by
  have:=F2.sub g (q:=0) dC dC;rw[<-e];exact this
 obtain⟨i,hp⟩:∃i:Nat,i=0:=⟨_,rfl⟩
 obtain⟨s3,-⟩:∃s:T3 P,s=s0:=⟨_,rfl⟩
 obtain⟨K,-⟩:∃s:T3 P,s=s0:=⟨_,rfl⟩
 go_enter func107,ntmps107;refine Td (v0:=oZ k off) (v1:=nv n) (v2:=pv x y) (n:=43) kR kR kR kR kR ?_;intro a0 h8 f0 f1 f2;have h5:=RG.St.lent hk hr ht;have M0:RG.M w w.heap.size [k] 43 [C0] [k] [(0,.p 0 off),(1,.v (nv n)),(2,.v (pv x y))] a0 _:=⟨h5,h8,⟨f0,f1,f2,yCm⟩⟩
 repeat refine UC ?_
 refine M0.T [.m 1,.m 2] [(0,wn n),(1,ws x++(ws y))] [] [C0,wn n,ws x++(ws y)] [0,4,5] ⟨mk 1 47,mk 2 93,yCm⟩ ?_;intro S N E w1 j;have J:E.tmps[0]? = some (oZ k off):=j.at (s:=(.p 0 off));have h2:E.tmps[4]? = some (jZ S):=j.at (s:=(.p 1 0));have h0:E.tmps[5]? = some (jZ N):=j.at (s:=(.p 2 0));have j:RG.M w w.heap.size [k] 43 [C0,wn n,ws x++(ws y)] [k,S,N] [(0,.p 0 off),(4,.p 1 0),(5,.p 2 0)] E _:=⟨j.st,j.sl,⟨J,h2,h0,yCm⟩⟩
 repeat refine UC ?_
 refine j.tx [.s 8 [] (.p 0 off),.x 9 [] (nv n),.c 10 [(9,1)] (dv D),.s 11 [(8,0)] (.p 0 off),.s 12 [(11,3)] (.p 0 (off+96)),.u [(12,4),(10,2)] 0] [] [(0,5,f)] [f,wn n,ws x++(ws y)] [(0,.p 0 off),(5,.p 2 0)] kR (congrArg (λn=>[n]) W) ⟨st,ld u85 i85,cl hD,st,st,fA 0 (off+96) rfl _ rfl 188 (.tmp 12) (.tmp 10) (dg D) rfl rfl sx sx (by show off+96+(dg D).length<=C0.length;rw[bQ];omega) X (by show _=some (dg _).length;rw[bQ];exact i138) (JL _),yCm⟩ ?_;intro a2 w2 I;have h3:a2.tmps[0]? = some (oZ k off):=I.at (s:=(.p 0 off));have Z:a2.tmps[5]? = some (jZ N):=I.at (s:=(.p 2 0));have I:RG.M w w.heap.size [k] 43 [f,wn n,ws x++(ws y)] [k,S,N] [(0,.p 0 off),(5,.p 2 0)] a2 _:=⟨I.st,I.sl,⟨h3,Z,yCm⟩⟩
 repeat refine UC ?_
 refine I.dr kR [.s 13 [] (.p 0 off),.x 14 [] (pv x y),.c 15 [(14,1)] (tv s0),.s 16 [(13,0)] (.p 0 off),.s 17 [(16,3)] (.p 0 (off+0)),.s 18 [(17,4)] (.p 0 ((off+0)+12*0)),.u [(18,5),(15,2)] 0] [] [(0,6,l)] [l,wn n,ws x++(ws y)] [(0,.p 0 off)] kR (congrArg (λn=>[n]) A) ⟨st,ld gV i109,cl hb,st,st,eN rfl 186 17 (iZ 0) rfl (.p 0 (off+0)) sx (λμ w=>FS _ _ 0 dC w),fA 0 ((off+0)+12*0) rfl _ rfl 185 (.tmp 18) (.tmp 15) (tw s0) rfl rfl sx sx (by show off+0+12*0+(tw s0).length<=f.length;rw[cJ];omega) B i117 (H8 _),yCm⟩ ?_;intro O w3 v;have u:O.tmps[0]? = some (oZ k off):=v.at (s:=(.p 0 off));have v:RG.M w w.heap.size [k] 43 [l,wn n,ws x++(ws y)] [k,S,N] [(0,.p 0 off)] O _:=⟨v.st,v.sl,⟨u,yCm⟩⟩
 repeat refine UC ?_
 refine v.T [.s (.p 0 off),.s (.p 0 off),.s (.p 0 (off+0)),.s (.p 0 ((off+0)+12*0)),.x (tv s0),.c (tv s2),.m 3,.u 3] [(6,RG.z 12)] [(3,7,tw s2)] [l,wn n,ws x++(ws y),tw s2] [0,6] ⟨st,st,st,eN rfl 186 21 (iZ 0) rfl (.p 0 (off+0)) sx (λμ w=>FS _ _ 0 dC w),oI rfl 0 ((off+0)+12*0) _ rfl rfl kR 185 22 rfl (tw s0) rfl sx z iH i117,cl h9,mk 3 185,RG.pt i117,yCm⟩ ?_;intro j4 a4 w4 M4;repeat refine UC ?_
 refine M4.U [.x (iZ 1)] [0,6,7] ⟨st,yCm⟩ ?_;intro a5 w5 M5;have V:a5.tmps[0]? = some (oZ k off):=M5.at (s:=(.p 0 off));have U:a5.tmps[6]? = some (jZ j4):=M5.at (s:=(.p 3 0));have h1:a5.tmps[7]? = some (iZ 1):=M5.at (s:=(.v (iZ 1)));subst p;subst e;subst d;clear X B z W A M o;repeat refine UC ?_
 refine Xy ?_;refine Yt (λm a wr=>∃(i:Nat) (C:List Uv),1<=i/\i<=8/\i+m=8/\Fi x y (eZ n) C0 off i C/\Sl a 43/\a.tmps[0]? = some (oZ k off)/\a.tmps[6]? = some (jZ j4)/\a.tmps[7]? = some (iZ i)/\RG.St w w.heap.size [k] [C,wn n,ws x++ws y,tw (twJ (raJ x y))] [k,S,N,j4] wr) 7 ⟨1,l,oM,oM,oM,F2,M5.sl,V,U,h1,M5.st⟩ ?_;intro m a wr;rintro⟨i,f,hl,hj,hm,R,sl,g0,Y,g7,Q⟩;generalize S=k1 at Y Q;generalize N=k2 at Y Q;generalize j4=k3 at Y Q;obtain⟨D,p⟩:∃D,eZ n=D:=⟨_,rfl⟩
 rw[p]at R;obtain⟨s0,e⟩:∃s,raJ x y=s:=⟨_,rfl⟩
 obtain⟨s2,d⟩:∃s,twJ (raJ x y)=s:=⟨_,rfl⟩
 rw[d]at Q;obtain⟨K,G⟩:∃s,od x y (i-1)=s:=⟨_,rfl⟩
 obtain⟨s3,H⟩:∃s,plJ K s2=s:=⟨_,rfl⟩
 have h7:Gives 109 #[tv K,tv s2] (tv s3):=H ▸ NC F K s2;have hg:=R.len;by_cases hi:i<8
 ·have h6:od x y i=s3:=by
   obtain⟨q,rfl⟩:∃q,i=q+1:=⟨i-1,oM⟩
   rw[<-H,<-G,<-d];rfl
  have L:(f.drop (off+0+12*(i-1))).take (tw K).length=tw K:=by
   have:=R.sub g (q:=i-1) oM oM;rw[G]at this;exact this
  obtain⟨l,b⟩:∃c,rep f (off+0+12*i) (tw s3)=c:=⟨_,rfl⟩
  have o:off+0+12*i+(tw s3).length<=f.length:=by rw[cJ];omega
  have B:=b ▸ RG.rep_at o;have A:l.length=f.length:=b ▸ cU o;have hc:Fi x y D C0 off (i+1) l:=by
   have:=R.next g hi;rw[h6]at this;rw[<-b];exact this
  have ha:∀w,(binOp .sub 3 (iZ i) (iZ 1)).run prog w=.ok (iZ ((i-1:Nat):Int)) w:=λw=>by
   rw[Dh _ _ oM oM,show(i:Int)-1=((i-1:Nat):Int) by omega]
  clear e b;have M0:RG.M w w.heap.size [k] 43 [f,wn n,ws x++(ws y),tw s2] [k,k1,k2,k3] [(0,.p 0 off),(6,.p 3 0),(7,.v (iZ i))] a _:=⟨Q,sl,⟨g0,Y,g7,yCm⟩⟩
  repeat refine UC ?_
  refine M0.U [.x (iZ i),.x (.bool true)] [0,6,7,26] ⟨st,aP rfl .lss 3 3 25 (iZ i) (iZ 8) (.bool true) rfl rfl sx (λw=>kR) (gB (n:=8) hi),yCm⟩ ?_;intro E w1 j;repeat refine UC ?_
  refine VH j.ev ?_;refine WQ ?_;refine UC ?_;refine Xy ?_;repeat refine UC ?_
  refine j.dr kR [.s 29 [] (.p 0 off),.x 30 [] (iZ i),.s 31 [] (.p 0 off),.x 32 [] (iZ i),.x 33 [(32,3)] (iZ ((i-1:Nat):Int)),.s 34 [(31,2)] (.p 0 off),.s 35 [(34,5)] (.p 0 (off+0)),.s 36 [(35,6),(33,4)] (.p 0 ((off+0)+12*(i-1))),.x 37 [(36,7)] (tv K),.x 38 [] (tv s2),.c 39 [(37,8),(38,9)] (tv s3),.s 40 [(29,0)] (.p 0 off),.s 41 [(40,11)] (.p 0 (off+0)),.s 42 [(41,12),(30,1)] (.p 0 ((off+0)+12*i)),.u [(42,13),(39,10)] 0] [] [(0,14,l)] [l,wn n,ws x++(ws y),tw s2] [(0,.p 0 off),(6,.p 3 0),(7,.v (iZ i))] kR (congrArg (λn=>[n]) A) ⟨st,st,st,st,aP rfl .sub 3 3 32 (iZ i) (iZ 1) (iZ ((i-1:Nat):Int)) rfl rfl sx (λw=>kR) ha,st,st,bD rfl 186 35 33 rfl (.p 0 (off+0)) (iZ ((i-1:Nat):Int)) sx sx (λμ w=>FS _ _ (i-1) oM w),oI rfl 0 ((off+0)+12*(i-1)) _ rfl rfl kR 185 36 rfl (tw K) rfl sx L iH i117,ld iH i117,cl h7,st,st,bD rfl 186 41 30 rfl (.p 0 (off+0)) (iZ i) sx sx (λμ w=>FS _ _ i oM w),fA 0 ((off+0)+12*i) rfl _ rfl 185 (.tmp 42) (.tmp 39) (tw s3) rfl rfl sx sx (by show off+0+12*i+(tw s3).length<=f.length;rw[cJ];omega) B i117 (H8 _),yCm⟩ ?_;intro a2 w2 I;repeat refine UC ?_
  refine I.U [.x (iZ i),.x (iZ ((i+1:Nat):Int)),.x (iZ ((i+1:Nat):Int))] [0,6,7] ⟨st,aP rfl .add 3 3 27 (iZ i) (iZ 1) (iZ ((i+1:Nat):Int)) rfl rfl sx (λw=>kR) (uP i 1 oM oM),st,yCm⟩ ?_;intro O w3 v;have u:O.tmps[0]? = some (oZ k off):=v.at (s:=(.p 0 off));have h4:O.tmps[6]? = some (jZ k3):=v.at (s:=(.p 3 0));have T:O.tmps[7]? = some (iZ ((i+1:Nat):Int)):=v.at (s:=(.v (iZ ((i+1:Nat):Int))));show ∃n',_;exact⟨m-1,oM,i+1,l,oM,oM,oM,p.symm ▸ hc,v.sl,u,h4,T,by rw[d];exact v.st⟩
 ·have L:i=8:=oM;obtain⟨l,-⟩:∃c:List Uv,c=f:=⟨_,rfl⟩
  have M0:RG.M w w.heap.size [k] 43 [f,wn n,ws x++(ws y),tw s2] [k,k1,k2,k3] [(0,.p 0 off),(6,.p 3 0),(7,.v (iZ i))] a _:=⟨Q,sl,⟨g0,Y,g7,yCm⟩⟩
  repeat refine UC ?_
  refine M0.U [.x (iZ i),.x (.bool false)] [0,6,7,26] ⟨st,aP rfl .lss 3 3 25 (iZ i) (iZ 8) (.bool false) rfl rfl sx (λw=>kR) (nG (n:=8) hi),yCm⟩ ?_;intro E w1 j;repeat refine UC ?_
  refine VJ j.ev ?_;refine wp_exit ?_;dsimp only[Exit.then,Ye];rw[yCk rfl];have J:E.tmps[0]? = some (oZ k off):=j.at (s:=(.p 0 off));have T:E.tmps[6]? = some (jZ k3):=j.at (s:=(.p 3 0));have he:E.tmps[7]? = some (iZ i):=j.at (s:=(.v (iZ i)));exact⟨j.sl.defers,.tuple #[],RG.results_none rfl,_,rfl,⟨f,p.symm ▸ L ▸ R,j.st.putTo R.len⟩,rfl⟩
theorem Lr(F:Fld P)(b o k:Nat)(m:k<8)(s:T3 P)(w:Ut)(t:b<w.heap.size)(u:w.rangeAt b (o+0+12*k) (tw s)):UK prog 110 #[(oZ b o),(.int .i8 (-(2*(k:Int)+1)))] w (rZ w λe w'=>e=tv (opJ s)):=by
 obtain⟨s2,c⟩:∃s2,opJ s=s2:=⟨_,rfl⟩
 have j:=c ▸ Rk F s;have f:∀w,(binOp .lss 187 (.int .i8 (-(2*(k:Int)+1))) (.int .i8 0)).run prog w=.ok (.bool true) w:=λw=>by
  go_simp;try omega
 have d:∀w,(yBM .neg (.int .i8 (-(2*(k:Int)+1)))).run prog w=.ok (.int .i8 (2*(k:Int)+1)) w:=λw=>by
  rw[NQ _ oM,yB0]
 go_enter func110,ntmps110;refine Ov (v0:=(oZ b o)) (v1:=(.int .i8 (-(2*(k:Int)+1)))) (n:=23) kR kR kR kR ?_;intro a0 l r q;have i:=RG.St.begin w;have y:RG.M w w.heap.size [] 23 [] [] [(0,.v (oZ b o)),(1,.v (.int .i8 (-(2*(k:Int)+1))))] a0 _:=⟨i,l,⟨r,q,yCm⟩⟩
 repeat refine UC ?_
 refine y.T [.m 0] [(0,RG.z 12)] [] [RG.z 12] [0,1,4] ⟨mk 0 185,yCm⟩ ?_;intro C D B x;repeat refine UC ?_
 refine x.U [.x (.int .i8 (-(2*(k:Int)+1))),.x (.bool true)] [0,1,4,6] ⟨st,aP rfl .lss 187 187 5 (.int .i8 (-(2*(k:Int)+1))) (.int .i8 0) (.bool true) rfl rfl sx (λw=>kR) f,yCm⟩ ?_;intro a2 z p;repeat refine UC ?_
 refine VH p.ev ?_;repeat refine UC ?_
 refine p.T [.x (oZ b o),.x (.int .i8 (-(2*(k:Int)+1))),.x (.int .i8 (2*(k:Int)+1)),.x (.int .i8 k),.x (oZ b o),.x (.pointer (some ⟨b,o+0,none⟩)),.x (.pointer (some ⟨b,(o+0)+12*k,none⟩)),.x (tv s),.c (tv s2),.u 0] [] [(0,9,tw s2)] [tw s2] [4] ⟨st,st,Na rfl .neg 187 8 (.int .i8 (-(2*(k:Int)+1))) (.int .i8 (2*(k:Int)+1)) rfl rfl sx d,aP rfl .quo 187 187 9 (.int .i8 (2*(k:Int)+1)) (.int .i8 2) (.int .i8 k) rfl rfl sx (λw=>kR) (NP k m),st,st,bD rfl 186 12 10 rfl (.v (.pointer (some ⟨b,o+0,none⟩))) (.int .i8 k) sx sx (λμ w=>Ka _ _ k m w),eH rfl b ((o+0)+12*k) t U1 185 13 rfl (tw s) rfl sx u iH i117,cl j,RG.pt i117,yCm⟩ ?_;intro A a g;refine Wy ?_;refine UH (v:=tv s2) (aI g.st 4 185 rfl 0 _ rfl (g.at (s:=(.p 0 0))) iH i117) g.sl.defers ?_;exact⟨_,rfl,g.st.bel.below,by rw[c]⟩
theorem Lq(F:Fld P)(b o k:Nat)(j:k<8)(s:T3 P)(w:Ut)(r:b<w.heap.size)(t:w.rangeAt b (o+0+12*k) (tw s)):UK prog 110 #[(oZ b o),(.int .i8 (2*(k:Int)+1))] w (rZ w λe w'=>e=tv s):=by
 obtain⟨s2,i⟩:∃s2,opJ s=s2:=⟨_,rfl⟩
 have c:∀w,(binOp .lss 187 (.int .i8 (2*(k:Int)+1)) (.int .i8 0)).run prog w=.ok (.bool false) w:=λw=>by
  go_simp;try omega
 have l:∀w,(yBM .neg (.int .i8 (-(2*(k:Int)+1)))).run prog w=.ok (.int .i8 (2*(k:Int)+1)) w:=λw=>by
  rw[NQ _ oM,yB0]
 go_enter func110,ntmps110;refine Ov (v0:=(oZ b o)) (v1:=(.int .i8 (2*(k:Int)+1))) (n:=23) kR kR kR kR ?_;intro a0 g q p;have f:=RG.St.begin w;have x:RG.M w w.heap.size [] 23 [] [] [(0,.v (oZ b o)),(1,.v (.int .i8 (2*(k:Int)+1)))] a0 _:=⟨f,g,⟨q,p,yCm⟩⟩
 repeat refine UC ?_
 refine x.T [.m 0] [(0,RG.z 12)] [] [RG.z 12] [0,1,4] ⟨mk 0 185,yCm⟩ ?_;intro B C A u;repeat refine UC ?_
 refine u.U [.x (.int .i8 (2*(k:Int)+1)),.x (.bool false)] [0,1,4,6] ⟨st,aP rfl .lss 187 187 5 (.int .i8 (2*(k:Int)+1)) (.int .i8 0) (.bool false) rfl rfl sx (λw=>kR) c,yCm⟩ ?_;intro a2 y m;repeat refine UC ?_
 refine VJ m.ev ?_;refine WQ ?_;repeat refine UC ?_
 refine m.T [.x (oZ b o),.x (.int .i8 (2*(k:Int)+1)),.x (.int .i8 k),.x (oZ b o),.x (.pointer (some ⟨b,o+0,none⟩)),.x (.pointer (some ⟨b,(o+0)+12*k,none⟩)),.x (tv s),.u 0] [] [(0,7,tw s)] [tw s] [4] ⟨st,st,aP rfl .quo 187 187 17 (.int .i8 (2*(k:Int)+1)) (.int .i8 2) (.int .i8 k) rfl rfl sx (λw=>kR) (NP k j),st,st,bD rfl 186 20 18 rfl (.v (.pointer (some ⟨b,o+0,none⟩))) (.int .i8 k) sx sx (λμ w=>Ka _ _ k j w),eH rfl b ((o+0)+12*k) r U1 185 21 rfl (tw s) rfl sx t iH i117,RG.pt i117,yCm⟩ ?_;intro a z d;refine Wy ?_;refine UH (v:=tv s) (aI d.st 4 185 rfl 0 _ rfl (d.at (s:=(.p 0 0))) iH i117) d.sl.defers ?_;exact⟨_,rfl,d.st.bel.below,rfl⟩
def tmJ(x y:Fin P)(d:Int):T3 P:=if d<0 then opJ (od x y ((-d).toNat/2)) else od x y (d.toNat/2)
theorem QI(C:Fld P)(h:Pair x y p)(b:On p){d:Int}(hd:d%2=1):JacT (tmJ x y d) (eF d p):=by
 unfold tmJ;by_cases c:d<0
 ·rw[yCk c];have k:=(O6 C h b ((-d).toNat/2)).neg;rw[<-Bz C.cur b]at k;rw[show -((2*((-d).toNat/2)+1:Nat):Int)=d by omega]at k;exact k
 ·rw[yCl c];have k:=O6 C h b (d.toNat/2);rw[show((2*(d.toNat/2)+1:Nat):Int)=d by omega]at k;exact k
def inn(ns:Nat->Nat)(xs ys:Nat->Fin P)(st:T3 P)(place:Nat):Nat->T3 P
 | 0=>st
 | i+1=>if eZ (ns i) place=0 then inn ns xs ys st place i else plJ (inn ns xs ys st place i) (tmJ (xs i) (ys i) (eZ (ns i) place))
def iI(ns:Nat->Nat)(xs ys:Nat->Fin P)(N:Nat):Nat->T3 P
 | 0=>(0,0,0)
 | m+1=>inn ns xs ys (twJ (iI ns xs ys N m)) (256-m) N
theorem NL(C:Fld P){p:Nat->EC.Pt P}{N:Nat}(b:∀i,i<N->ns i<2^256)(f:∀i,i<N->Pair (xs i) (ys i) (p i))(ho:∀i,i<N->On (p i)){st:T3 P}{g:Nat->Int}{place:Nat}
 (h:JacT st (tot p N g)):∀i,i<=N->JacT (inn ns xs ys st place i) (tot p N (λj=>if j<i then g j+eZ (ns j) place else g j))
 | 0,_=>by
  have:tot p N (λj=>if j<0 then g j+eZ (ns j) place else g j)=tot p N g:=eJ N λj _=>yCl oM
  rw[this];exact h
 | i+1,hi=>by
  have l:=NL C b f ho (place:=place) h i oM;have e:tot p N (λj=>if j<i+1 then g j+eZ (ns j) place else g j)=EC.add (tot p N (λj=>if j<i then g j+eZ (ns j) place else g j)) (eF (eZ (ns i) place) (p i)):=by
   rw[<-Ll C.cur _ i (eZ (ns i) place) N oM ho];refine eJ N λj _=>?_
   by_cases k:j=i
   ·subst k;rw[yCk oM,yCk rfl,yCl oM]
   ·rw[yCl k];by_cases d:j<i
    ·rw[yCk oM,yCk d]
    ·rw[yCl oM,yCl d]
  rw[e];unfold inn;by_cases d:eZ (ns i) place=0
  ·rw[yCk d,d,Gh,bK];exact l
  ·rw[yCl d];obtain⟨q,c,-,m⟩:=A9 (b i oM);rcases m.ho place with k|k
   ·exact absurd k d
   ·exact l.plus C (QI C (f i oM) (ho i oM) k.1)
theorem Ie(C:Fld P){p:Nat->EC.Pt P}{N:Nat}(k:∀i,i<N->ns i<2^256)(b:∀i,i<N->Pair (xs i) (ys i) (p i))(ho:∀i,i<N->On (p i)):
 ∀m,m<=257->JacT (iI ns xs ys N m) (tot p N (λj=>DG.hor (eZ (ns j)) m))
 | 0,_=>by
  rw[show tot p N (λj=>DG.hor (eZ (ns j)) 0)=.none from v8 p N (λ_ _=>rfl)];exact JacT.none
 | m+1,hm=>by
  have c:=(Ie C k b ho m oM).twice C;rw[<-Gm C.cur _ N ho]at c;have f:=NL C k b ho (place:=256-m) c N (Uy _);have e:tot p N (λj=>DG.hor (eZ (ns j)) (m+1))=tot p N (λj=>if j<N then 2*DG.hor (eZ (ns j)) m+eZ (ns j) (256-m) else 2*DG.hor (eZ (ns j)) m):=
   eJ N λj d=>by rw[yCk d];rfl
  rw[e];exact f
theorem BG(C:Fld P){p:Nat->EC.Pt P}{N:Nat}(k:∀i,i<N->ns i<2^256)(b:∀i,i<N->Pair (xs i) (ys i) (p i))(ho:∀i,i<N->On (p i)):
 JacT (iI ns xs ys N 257) (tot p N (λj=>(ns j:Int))):=by
 have h:=Ie C k b ho 257 (Uy _);have e:tot p N (λj=>(ns j:Int))=tot p N (λj=>DG.hor (eZ (ns j)) 257):=eJ N λj g=>by
  obtain⟨q,c,f,d⟩:=A9 (k j g);exact(DG.MJ d f).symm
 rw[e];exact h
def cc(ns:Nat->Nat)(xs ys:Nat->Fin P)(C0:List Uv):Nat->List Uv
 | 0=>C0
 | i+1=>fc (xs i) (ys i) (eZ (ns i)) (cc ns xs ys C0 i) (353*i) 8
theorem NX{N:Nat}(f:C0.length=353*N):∀i,i<=N->(cc ns xs ys C0 i).length=353*N /\
 ∀j,j<i->(∀q,q<257->(cc ns xs ys C0 i)[353*j+96+q]? = some (.int .i8 (eZ (ns j) q)))/\∀q r,q<8->r<12->(cc ns xs ys C0 i)[353*j+12*q+r]? = (tw (od (xs j) (ys j) q))[r]?
 | 0,_=>⟨f,λj l=>oM⟩
 | i+1,hi=>by
  obtain⟨e,n⟩:=NX f i oM;have b:=Ft (x:=xs i) (y:=ys i) (D:=eZ (ns i)) (C0:=cc ns xs ys C0 i) (off:=353*i) (by rw[e];omega) 8 (Uy _);refine⟨by rw[<-e];exact b.len,λj l=>?_⟩;by_cases d:j=i
  ·subst d;exact⟨b.dig,λq r k c=>b.odd q r k c⟩
  ·obtain⟨g,m⟩:=n j oM;exact⟨λq k=>(b.out _ oM).trans (g q k),λq r k c=>(b.out _ oM).trans (m q r k c)⟩
theorem RD(N:Nat)(g:N<=512):∃C0:List Uv,C0.length=353*N/\∀w:Ut,(Xx 182 (iZ N) (iZ N)).run prog w=.ok (sZ w.heap.size N N) (w.alloc (.cells C0.toArray 190)):=by
 have c:prog.underlying 182=some (.slice 190):=kR;have l:(prog.info? 190).map (λi=>(i.size,decide (i.bytes<=4000),i.zero.isSome))=some (353,true,true):=kR;obtain⟨i,b,k⟩:=UA.1 l;simp only[We.injEq,decide_eq_true_eq]at k;obtain⟨m,n,j⟩:=k;obtain⟨z,e⟩:=Vu.1 j;refine⟨(madeCells z.cells (N*353)).toList,by rw[UL,Zp,Vv],λw=>?_⟩;have f:(i.bytes:Int)*(N:Int)<=281474976710656:=by
  have:i.bytes*N<=4000*512:=WP n g;have d:((i.bytes*N:Nat):Int)<=281474976710656:=oM;rwa[XD]at d
 have:=run_make (P:=prog) w 182 190 i z c b e .i64 .i64 (N:Int) (N:Int) oM oM f oM;rw[YF,m]at this;rw[Yb];exact this
theorem JD(F:Fld P){n:Nat}(d:n<top)(x y:Fin P)(C0:List Uv)(b off:Nat)(k:off+353<=C0.length)(w:Ut)(c:w.there b 0 C0.length)(i:w.rangeAt b 0 C0):
 UK prog 107 #[oZ b off,nv n,pv x y] w (Ret λr w'=>PutTo b C0.length (fc x y (eZ n) C0 off 8) w w'/\r=.tuple #[]):=by
 have g:b<w.heap.size:=by
  have f:=(c 0 oM).1;exact WB λd=>by
   have j:w.heap[b]? = none:=Array.getElem?_eq_none oM;simp[V1,j]at f
 refine(PT F d x y C0 b off k w g c i).mono ?_;rintro e w' ⟨v,rfl,⟨C,j,f⟩,rfl⟩;refine⟨_,rfl,?_,rfl⟩;rw[(Ft k 8 (Uy _)).uniq j];exact f
theorem Ls(F:Fld P)(k o:Nat)(x y:Fin P){d:Int}(hd:d%2=1)(i:-15<=d/\d<=15)(w:Ut)(c:k<w.heap.size)(f:∀q,q<8->w.rangeAt k (o+0+12*q) (tw (od x y q))):
 UK prog 110 #[oZ k o,.int .i8 d] w (rZ w λe w'=>e=tv (tmJ x y d)):=by
 unfold tmJ;by_cases g:d<0
 ·rw[yCk g];have b:=Lr F k o ((-d).toNat/2) oM (od x y ((-d).toNat/2)) w c (f _ oM);rw[show -(2*(((-d).toNat/2:Nat):Int)+1)=d by omega]at b;exact b
 ·rw[yCl g];have b:=Lq F k o (d.toNat/2) oM (od x y (d.toNat/2)) w c (f _ oM);rw[show 2*((d.toNat/2:Nat):Int)+1=d by omega]at b;exact b
theorem S4{P:Nat}[NeZero P](w:Ut):(yAE 185 true (.tuple #[])).run prog w=.ok (jZ w.heap.size) (w.alloc (.cells (tw ((0,0,0):T3 P)).toArray 185)):=by
 show _=Result.ok _ (w.alloc (.cells (ws (0:Fin P)++(ws (0:Fin P)++ws (0:Fin P))).toArray 185));rw[<-Aw];kernel_rfl
theorem Rr(w:Ut):(binOp .neq 187 (.int .i8 0) (.int .i8 0)).run prog w=.ok (.bool false) w:=kR
theorem Rq{d:Int}(h:¬d=0)(w:Ut):(binOp .neq 187 (.int .i8 d) (.int .i8 0)).run prog w=.ok (.bool true) w:=by
 go_simp
theorem sub1'(q:Nat)(k:q<1000)(w:Ut):(binOp .sub 3 (iZ q) (iZ 1)).run prog w=.ok (iZ ((q:Int)-1)) w:=Dh _ _ oM oM w
theorem geq0'(i:Nat)(w:Ut):(binOp .geq 3 (iZ i) (iZ 0)).run prog w=.ok (.bool true) w:=by
 go_simp
theorem Ic(F:Fld P)(N:Nat)(hN:N<=512)(ns:Nat->Nat)(xs ys:Nat->Fin P)(ki:∀i,i<N->ns i<top)(g o:Nat)(w:Ut)(kz:g<w.heap.size)(b5:o<w.heap.size)
 (Z:∀i,i<N->w.rangeAt g (4*i) (wn (ns i))) (X:∀i,i<N->w.rangeAt o (8*i) (ws (xs i)++ws (ys i))) :
 UK prog 48 #[sZ g N N,sZ o N N] w (rZ w λe w'=>∃s,s=iI ns xs ys N 257/\e=pv (s.1*(inv s.2.2*inv s.2.2)) (s.2.1*(inv s.2.2*inv s.2.2)*inv s.2.2)):=by
 obtain⟨C,b3,bc⟩:=RD N hN;have T:∀(i:Nat) (c2:List Uv),fc (xs i) (ys i) (eZ (ns i)) (cc ns xs ys C i) (353*i) 8=c2->cc ns xs ys C (i+1)=c2:=λi c2 h=>h
 obtain⟨i,-⟩:∃i:Nat,i=0:=⟨_,rfl⟩
 obtain⟨q,-⟩:∃i:Nat,i=0:=⟨_,rfl⟩
 obtain⟨d,-⟩:∃i:Int,i=0:=⟨_,rfl⟩
 obtain⟨C2,-⟩:∃c:List Uv,c=C:=⟨_,rfl⟩
 obtain⟨s,-⟩:∃s:T3 P,s=(0,0,0):=⟨_,rfl⟩
 obtain⟨s2,-⟩:∃s:T3 P,s=(0,0,0):=⟨_,rfl⟩
 obtain⟨s3,-⟩:∃s:T3 P,s=(0,0,0):=⟨_,rfl⟩
 obtain⟨s4,-⟩:∃s:T3 P,s=(0,0,0):=⟨_,rfl⟩
 go_enter func48,ntmps48;refine Ov (v0:=(sZ g N N)) (v1:=(sZ o N N)) (n:=62) kR kR kR kR ?_;intro a0 kw f0 f1;have kp:=RG.St.begin w;have M0:RG.M w w.heap.size [] 62 [] [] [(0,.v (sZ g N N)),(1,.v (sZ o N N))] a0 _:=⟨kp,kw,⟨f0,f1,yCm⟩⟩
 repeat refine UC ?_
 refine M0.T [.m 0] [(0,RG.z 8)] [] [RG.z 8] [0,1,4] ⟨mk 0 93,yCm⟩ ?_;intro j1 a1 w1 M1;repeat refine UC ?_
 refine M1.t [.x 11 [] (sZ g N N),.x 12 [(11,0)] (iZ N),⟨some 13,[(12,1)],.s 1 N N,.make 1⟩,.s 5 [(13,2)] (.s 1 N N)] [(2,C)] [] [RG.z 8,C] [(0,.v (sZ g N N)),(1,.v (sZ o N N)),(4,.p 0 0),(5,.s 1 N N)] ⟨st,fR rfl 11 (.v (sZ g N N)) (iZ N) rfl sx (λa w=>kR) (λμ w=>kR),mI 1 rfl _ rfl 182 190 12 12 N rfl rfl sx sx bc,st,yCm⟩ ?_;intro j2 a2 w2 M2;repeat refine UC ?_
 refine M2.U [.s (.s 1 N N),.x (iZ N),.x (iZ 0)] [0,1,4,5,15,16] ⟨st,fR rfl 14 (.s 1 N N) (iZ N) rfl sx (λa w=>kR) (λμ w=>kR),st,yCm⟩ ?_;intro a3 w3 M3;have kg:a3.tmps[0]? = some (sZ g N N):=M3.at (s:=(.v (sZ g N N)));have kk:a3.tmps[1]? = some (sZ o N N):=M3.at (s:=(.v (sZ o N N)));have kh:a3.tmps[4]? = some (jZ j1):=M3.at (s:=(.p 0 0));have ke:a3.tmps[5]? = some (sZ j2 N N):=M3.at (s:=(.s 1 N N));have k3:a3.tmps[15]? = some (iZ N):=M3.at (s:=(.v (iZ N)));have h8:a3.tmps[16]? = some (iZ 0):=M3.at (s:=(.v (iZ 0)));repeat refine UC ?_
 refine Xy ?_;refine Yt (λm a wr=>∃i,i+m=N/\Sl a 62/\a.tmps[0]? = some (sZ g N N)/\a.tmps[1]? = some (sZ o N N)/\a.tmps[4]? = some (jZ j1)/\a.tmps[5]? = some (sZ j2 N N)/\a.tmps[15]? = some (iZ N)/\a.tmps[16]? = some (iZ i)/\RG.St w w.heap.size [] [[uZ 0,uZ 0,uZ 0,uZ 0,uZ 0,uZ 0,uZ 0,uZ 0],cc ns xs ys C i] [j1,j2] wr) N ⟨0,oM,M3.sl,kg,kk,kh,ke,k3,h8,M3.st⟩ ?_;intro m a wr;rintro⟨i,bh,sl,p0,p1,p4,p5,km,ko,O⟩;generalize j1=x at p4 O;generalize j2=z at p5 O;obtain⟨C,kj⟩:∃c,cc ns xs ys C i=c:=⟨_,rfl⟩
 have S:=NX (ns:=ns) (xs:=xs) (ys:=ys) b3 i oM;rw[kj]at O S;by_cases A:i<N
 ·obtain⟨C2,p⟩:∃c,fc (xs i) (ys i) (eZ (ns i)) C (353*i) 8=c:=⟨_,rfl⟩
  have B:353*i+353<=C.length:=by rw[S.1];omega
  have K:C2.length=C.length:=p ▸ (Ft B 8 (Uy _)).len;have H:∀(k:Nat) (w:Ut),w.there k 0 C.length->w.rangeAt k 0 C->UK prog 107 #[.pointer (some ⟨k,353*i,none⟩),nv (ns i),pv (xs i) (ys i)] w (Ret λr w'=>PutTo k C.length C2 w w'/\r=.tuple #[]):=λk w U hr=>p ▸ JD F (ki i A) (xs i) (ys i) C k (353*i) B w U hr
  have L:w.rangeAt g (0+4*i) (wn (ns i)):=by rw[UF];exact Z i A
  have Q:w.rangeAt o (0+8*i) (ws (xs i)++ws (ys i)):=by rw[UF];exact X i A
  have M:RG.M w w.heap.size [] 62 [RG.z 8,C] [x,z] [(0,.v (sZ g N N)),(1,.v (sZ o N N)),(4,.p 0 0),(5,.s 1 N N),(15,.v (iZ N)),(16,.v (iZ i))] a _:=⟨O,sl,⟨p0,p1,p4,p5,km,ko,yCm⟩⟩
  repeat refine UC ?_
  refine M.U [.x (.bool true)] [0,1,4,5,15,16,17] ⟨aQ rfl .lss 3 3 16 15 (iZ i) (iZ N) (.bool true) rfl rfl sx sx (λw=>kR) (gB A),yCm⟩ ?_;intro c4 Y J;repeat refine UC ?_
  refine VH J.ev ?_;refine WQ ?_;refine UC ?_;refine Xy ?_;repeat refine UC ?_
  refine J.U [.x (iZ i),.x (iZ i)] [0,1,4,5,6,15,16] ⟨st,st,yCm⟩ ?_;intro bz br V;repeat refine UC ?_
  refine V.dr kR [.s 19 [] (.s 1 N N),.x 20 [] (iZ i),.s 21 [(19,0),(20,1)] (.p 1 (353*i)),.x 22 [] (sZ g N N),.x 23 [] (iZ i),.x 24 [(22,3),(23,4)] (.pointer (some ⟨g,0+4*i,none⟩)),.x 25 [(24,5)] (nv (ns i)),.x 26 [] (sZ o N N),.x 27 [] (iZ i),.x 28 [(26,7),(27,8)] (.pointer (some ⟨o,0+8*i,none⟩)),.x 29 [(28,9)] (pv (xs i) (ys i)),⟨some 30,[(21,2),(25,6),(29,10)],.v (.tuple #[]),.put 1⟩] [] [(1,11,C2)] [RG.z 8,C2] [(0,.v (sZ g N N)),(1,.v (sZ o N N)),(4,.p 0 0),(5,.s 1 N N),(15,.v (iZ N)),(16,.v (iZ i))] kR (congrArg (λn=>[n]) K) ⟨st,st,bD rfl 182 19 20 rfl (.s 1 N N) (iZ i) sx sx (λμ w=>FT _ _ _ i A w),st,st,bD rfl 89 22 23 rfl (.v (sZ g N N)) (iZ i) sx sx (λμ w=>SX _ _ _ _ i A w),eH rfl g (0+4*i) kz U1 47 24 rfl (wn (ns i)) rfl sx L u85 i85,st,st,bD rfl 100 26 27 rfl (.v (sZ o N N)) (iZ i) sx sx (λμ w=>N6 _ _ _ _ i A w),eH rfl o (0+8*i) b5 U1 93 28 rfl (ws (xs i)++ws (ys i)) rfl sx Q gV i109,yZ 1 rfl _ rfl 107 21 25 29 (.p 1 (353*i)) (nv (ns i)) (pv (xs i) (ys i)) (.tuple #[]) rfl (λa w=>kR) sx sx sx (λμ w U hr=>H (μ 1) w U hr),yCm⟩ ?_;intro c3 bs R;repeat refine UC ?_
  refine R.U [.x (iZ ((i+1:Nat):Int)),.x (iZ ((i+1:Nat):Int))] [0,1,4,5,15,16] ⟨aP rfl .add 3 3 16 (iZ i) (iZ 1) (iZ ((i+1:Nat):Int)) rfl rfl sx (λw=>kR) (uP i 1 oM oM),st,yCm⟩ ?_;intro l W f;have D:l.tmps[0]? = some (sZ g N N):=f.at (s:=(.v (sZ g N N)));have I:l.tmps[1]? = some (sZ o N N):=f.at (s:=(.v (sZ o N N)));have E:l.tmps[4]? = some (jZ x):=f.at (s:=(.p 0 0));have G:l.tmps[5]? = some (sZ z N N):=f.at (s:=(.s 1 N N));have u:l.tmps[15]? = some (iZ N):=f.at (s:=(.v (iZ N)));have y:l.tmps[16]? = some (iZ ((i+1:Nat):Int)):=f.at (s:=(.v (iZ ((i+1:Nat):Int))));show ∃n',_;refine⟨m-1,oM,i+1,oM,f.sl,D,I,E,G,u,y,?_⟩;rw[T i C2 (by rw[kj];exact p)];exact f.st
 ·have bg:i=N:=oM;rw[bg]at S;have b8:=S.2;have bi:RG.M w w.heap.size [] 62 [RG.z 8,C] [x,z] [(0,.v (sZ g N N)),(1,.v (sZ o N N)),(4,.p 0 0),(5,.s 1 N N),(15,.v (iZ N)),(16,.v (iZ i))] a _:=⟨O,sl,⟨p0,p1,p4,p5,km,ko,yCm⟩⟩
  repeat refine UC ?_
  refine bi.U [.x (.bool false)] [4,5,17] ⟨aQ rfl .lss 3 3 16 15 (iZ i) (iZ N) (.bool false) rfl rfl sx sx (λw=>kR) (nG A),yCm⟩ ?_;intro bu bo kf;repeat refine UC ?_
  refine VJ kf.ev ?_;refine wp_exit ?_;dsimp only[Exit.then,Ye];rw[yCk rfl];repeat refine UC ?_
  refine kf.T [.m 2] [(0,tw ((0,0,0):T3 P))] [] [RG.z 8,C,tw ((0,0,0):T3 P)] [4,5,7] ⟨qG 2 rfl rfl _ rfl 185 rfl S4,yCm⟩ ?_;intro W bk bp b2;repeat refine UC ?_
  refine b2.U [.x (iZ 256)] [4,5,7,8] ⟨st,yCm⟩ ?_;intro h3 bv I;have hy:h3.tmps[4]? = some (jZ x):=I.at (s:=(.p 0 0));have h9:h3.tmps[5]? = some (sZ z N N):=I.at (s:=(.s 1 N N));have hc:h3.tmps[7]? = some (jZ W):=I.at (s:=(.p 2 0));have hs:h3.tmps[8]? = some (iZ 256):=I.at (s:=(.v (iZ 256)));repeat refine UC ?_
  refine Xy ?_;refine Yt (λm a wr=>m<=257/\Sl a 62/\a.tmps[4]? = some (jZ x)/\a.tmps[5]? = some (sZ z N N)/\a.tmps[7]? = some (jZ W)/\a.tmps[8]? = some (iZ ((m:Int)-1))/\RG.St w w.heap.size [] [[uZ 0,uZ 0,uZ 0,uZ 0,uZ 0,uZ 0,uZ 0,uZ 0],C,tw (iI ns xs ys N (257-m))] [x,z,W] wr) 257 ⟨Uy _,I.sl,hy,h9,hc,hs,?_⟩ ?_
  ·rw[YH,iI];exact I.st
  intro m b wr;rintro⟨hm,kc,q4,q5,q7,q8,G⟩;generalize W=J at q7 G;by_cases hz:m=0
  ·subst hz;rw[show 257-0=257 from rfl]at G;obtain⟨s,Q⟩:∃s,iI ns xs ys N 257=s:=⟨_,rfl⟩
   rw[Q]at G;have p:RG.M w w.heap.size [] 62 [RG.z 8,C,tw s] [x,z,J] [(4,.p 0 0),(5,.s 1 N N),(7,.p 2 0),(8,.v (iZ (-1)))] b _:=⟨G,kc,⟨q4,q5,q7,q8,yCm⟩⟩
   repeat refine UC ?_
   refine p.U [.x (iZ (-1)),.x (.bool false)] [4,7,33] ⟨st,st,yCm⟩ ?_;intro y u l;repeat refine UC ?_
   refine VJ l.ev ?_;refine wp_exit ?_;dsimp only[Exit.then,Ye];rw[yCk rfl];repeat refine UC ?_
   refine l.T [.x (tv s),.c (pv (s.1*(inv s.2.2*inv s.2.2)) (s.2.1*(inv s.2.2*inv s.2.2)*inv s.2.2)),.u 0] [] [(0,2,ws (s.1*(inv s.2.2*inv s.2.2))++(ws (s.2.1*(inv s.2.2*inv s.2.2)*inv s.2.2)))] [ws (s.1*(inv s.2.2*inv s.2.2))++(ws (s.2.1*(inv s.2.2*inv s.2.2)*inv s.2.2)),C,tw s] [4] ⟨ld iH i117,cl (Q8 F s),RG.pt i109,yCm⟩ ?_;intro B D f;refine Wy ?_;refine UH (v:=pv (s.1*(inv s.2.2*inv s.2.2)) (s.2.1*(inv s.2.2*inv s.2.2)*inv s.2.2)) (aI f.st 4 93 rfl 0 _ rfl (f.at (s:=(.p 0 0))) gV i109) f.sl.defers ?_;exact⟨_,rfl,f.st.bel.below,s,Q.symm,rfl⟩
  ·obtain⟨q,rfl⟩:∃q,m=q+1:=⟨m-1,oM⟩
   have hq:q<257:=oM;replace q8:b.tmps[8]? = some (iZ q):=by rw[q8];congr 2;omega
   obtain⟨s,Q⟩:∃s,iI ns xs ys N (257-(q+1))=s:=⟨_,rfl⟩
   rw[Q]at G;obtain⟨s2,h4⟩:∃t,twJ s=t:=⟨_,rfl⟩
   have b6:=h4 ▸ Nv F s;have M:iI ns xs ys N (257-q)=inn ns xs ys s2 q N:=by
    rw[show 257-q=257-(q+1)+1 by omega];show inn ns xs ys (twJ (iI ns xs ys N (257-(q+1)))) (256-(257-(q+1))) N=_;rw[Q,h4,show 256-(257-(q+1))=q by omega]
   have bj:RG.M w w.heap.size [] 62 [RG.z 8,C,tw s] [x,z,J] [(4,.p 0 0),(5,.s 1 N N),(7,.p 2 0),(8,.v (iZ q))] b _:=⟨G,kc,⟨q4,q5,q7,q8,yCm⟩⟩
   repeat refine UC ?_
   refine bj.U [.x (iZ q),.x (.bool true)] [4,5,7,8,33] ⟨st,aP rfl .geq 3 3 32 (iZ q) (iZ 0) (.bool true) rfl rfl sx (λw=>kR) (geq0' q),yCm⟩ ?_;intro bm bn kd;repeat refine UC ?_
   refine VH kd.ev ?_;refine WQ ?_;refine UC ?_;refine Xy ?_;repeat refine UC ?_
   refine kd.T [.x (tv s),.c (tv s2),.u 2] [] [(2,2,tw s2)] [RG.z 8,C,tw s2] [4,5,7,8] ⟨ld iH i117,cl b6,RG.pt i117,yCm⟩ ?_;intro bl bq ba;repeat refine UC ?_
   refine ba.U [.s (.s 1 N N),.x (iZ N),.x (iZ 0)] [4,5,7,8,39,40] ⟨st,fR rfl 38 (.s 1 N N) (iZ N) rfl sx (λa w=>kR) (λμ w=>kR),st,yCm⟩ ?_;intro H bt u;have k6:H.tmps[4]? = some (jZ x):=u.at (s:=(.p 0 0));have k9:H.tmps[5]? = some (sZ z N N):=u.at (s:=(.s 1 N N));have hb:H.tmps[7]? = some (jZ J):=u.at (s:=(.p 2 0));have he:H.tmps[8]? = some (iZ q):=u.at (s:=(.v (iZ q)));have h0:H.tmps[39]? = some (iZ N):=u.at (s:=(.v (iZ N)));have U:H.tmps[40]? = some (iZ 0):=u.at (s:=(.v (iZ 0)));repeat refine UC ?_
   refine Xy ?_;refine Yt (λm a wr=>∃i,i+m=N/\Sl a 62/\a.tmps[4]? = some (jZ x)/\a.tmps[5]? = some (sZ z N N)/\a.tmps[7]? = some (jZ J)/\a.tmps[8]? = some (iZ q)/\a.tmps[39]? = some (iZ N)/\a.tmps[40]? = some (iZ i)/\RG.St w w.heap.size [] [[uZ 0,uZ 0,uZ 0,uZ 0,uZ 0,uZ 0,uZ 0,uZ 0],C,tw (inn ns xs ys s2 q i)] [x,z,J] wr) N ⟨0,oM,u.sl,k6,k9,hb,he,h0,U,u.st⟩ ?_;intro m' c wr;rintro⟨i,bh,k0,r4,r5,r7,r8,hk,k2,V⟩;obtain⟨s,D⟩:∃s,inn ns xs ys s2 q i=s:=⟨_,rfl⟩
   rw[D]at V;by_cases A:i<N
   ·obtain⟨h1,h2⟩:=b8 i A;obtain⟨d,X⟩:∃d,eZ (ns i) q=d:=⟨_,rfl⟩
    have p:=X ▸ h1 q hq;have kb:C≠[]:=by intro h;rw[h]at p;simp at p
    have f:inn ns xs ys s2 q (i+1)=if d=0 then s else plJ s (tmJ (xs i) (ys i) d):=by rw[<-D,<-X];rfl
    by_cases R:d=0
    ·rw[yCk R]at f;rw[R]at p;have k4:RG.M w w.heap.size [] 62 [RG.z 8,C,tw s] [x,z,J] [(4,.p 0 0),(5,.s 1 N N),(7,.p 2 0),(8,.v (iZ q)),(39,.v (iZ N)),(40,.v (iZ i))] c _:=⟨V,k0,⟨r4,r5,r7,r8,hk,k2,yCm⟩⟩
     repeat refine UC ?_
     refine k4.U [.x (.bool true)] [4,5,7,8,39,40,41] ⟨aQ rfl .lss 3 3 40 39 (iZ i) (iZ N) (.bool true) rfl rfl sx sx (λw=>kR) (gB A),yCm⟩ ?_;intro kv bd L;repeat refine UC ?_
     refine VH L.ev ?_;refine WQ ?_;refine UC ?_;refine Xy ?_;repeat refine UC ?_
     refine L.U [.x (iZ i),.x (iZ i)] [4,5,7,8,9,39,40] ⟨st,st,yCm⟩ ?_;intro ku b4 hl;repeat refine UC ?_
     refine hl.U [.s (.s 1 N N),.x (iZ i),.x (iZ q),.s (.p 1 (353*i)),.s (.p 1 ((353*i)+96)),.s (.p 1 (((353*i)+96)+q)),.x (.int .i8 0),.x (.int .i8 0)] [4,5,7,8,10,39,40] ⟨st,st,st,bD rfl 182 43 44 rfl (.s 1 N N) (iZ i) sx sx (λμ w=>FT _ _ _ i A w),st,bD rfl 188 47 45 rfl (.p 1 ((353*i)+96)) (iZ q) sx sx (λμ w=>J9 _ _ q hq w),yK rfl 1 (((353*i)+96)+q) _ rfl rfl kR 187 48 rfl (.int .i8 0) rfl sx p QG,st,yCm⟩ ?_;intro bb b9 k1;repeat refine UC ?_
     refine k1.U [.x (.int .i8 0),.x (.bool false)] [4,5,7,8,39,40,51] ⟨st,aP rfl .neq 187 187 50 (.int .i8 0) (.int .i8 0) (.bool false) rfl rfl sx (λw=>kR) Rr,yCm⟩ ?_;intro kx bf K;repeat refine UC ?_
     refine VJ K.ev ?_;refine WQ ?_;repeat refine UC ?_
     refine K.U [.x (iZ ((i+1:Nat):Int)),.x (iZ ((i+1:Nat):Int))] [4,5,7,8,39,40] ⟨aP rfl .add 3 3 40 (iZ i) (iZ 1) (iZ ((i+1:Nat):Int)) rfl rfl sx (λw=>kR) (uP i 1 oM oM),st,yCm⟩ ?_;intro B be l;have k7:B.tmps[4]? = some (jZ x):=l.at (s:=(.p 0 0));have Z:B.tmps[5]? = some (sZ z N N):=l.at (s:=(.s 1 N N));have hw:B.tmps[7]? = some (jZ J):=l.at (s:=(.p 2 0));have Y:B.tmps[8]? = some (iZ q):=l.at (s:=(.v (iZ q)));have y:B.tmps[39]? = some (iZ N):=l.at (s:=(.v (iZ N)));have E:B.tmps[40]? = some (iZ ((i+1:Nat):Int)):=l.at (s:=(.v (iZ ((i+1:Nat):Int))));show ∃n',_;exact⟨m'-1,oM,i+1,oM,l.sl,k7,Z,hw,Y,y,E,by rw[f];exact l.st⟩
    ·rw[yCl R]at f;have h7:d%2=1/\-15<=d/\d<=15:=by
      obtain⟨_,_,-,y⟩:=A9 (show ns i<2^256 from ki i A);rcases y.ho q with h|h
      ·exact absurd (X ▸ h) R
      ·exact X ▸ h
     obtain⟨s3,h5⟩:∃t,tmJ (xs i) (ys i) d=t:=⟨_,rfl⟩
     obtain⟨s4,h6⟩:∃t,plJ s s3=t:=⟨_,rfl⟩
     have b7:=h6 ▸ NC F s s3;have ky:∀(k:Nat) (w:Ut),k<w.heap.size->w.rangeAt k 0 C->UK prog 110 #[.pointer (some ⟨k,353*i,none⟩),.int .i8 d] w (rZ w λr w'=>r=tv s3):=λk w hp hr =>
      h5 ▸ Ls F k (353*i) (xs i) (ys i) h7.1 h7.2 w hp (λY y=>rU hr (λj E=>by rw[Xm];exact h2 Y j y (by rw[cJ]at E;exact E)))
     rw[h5,h6]at f;have k4:RG.M w w.heap.size [] 62 [RG.z 8,C,tw s] [x,z,J] [(4,.p 0 0),(5,.s 1 N N),(7,.p 2 0),(8,.v (iZ q)),(39,.v (iZ N)),(40,.v (iZ i))] c _:=⟨V,k0,⟨r4,r5,r7,r8,hk,k2,yCm⟩⟩
     repeat refine UC ?_
     refine k4.U [.x (.bool true)] [4,5,7,8,39,40,41] ⟨aQ rfl .lss 3 3 40 39 (iZ i) (iZ N) (.bool true) rfl rfl sx sx (λw=>kR) (gB A),yCm⟩ ?_;intro kv bd L;repeat refine UC ?_
     refine VH L.ev ?_;refine WQ ?_;refine UC ?_;refine Xy ?_;repeat refine UC ?_
     refine L.U [.x (iZ i),.x (iZ i)] [4,5,7,8,9,39,40] ⟨st,st,yCm⟩ ?_;intro ku b4 hl;repeat refine UC ?_
     refine hl.U [.s (.s 1 N N),.x (iZ i),.x (iZ q),.s (.p 1 (353*i)),.s (.p 1 ((353*i)+96)),.s (.p 1 (((353*i)+96)+q)),.x (.int .i8 d),.x (.int .i8 d)] [4,5,7,8,9,10,39,40] ⟨st,st,st,bD rfl 182 43 44 rfl (.s 1 N N) (iZ i) sx sx (λμ w=>FT _ _ _ i A w),st,bD rfl 188 47 45 rfl (.p 1 ((353*i)+96)) (iZ q) sx sx (λμ w=>J9 _ _ q hq w),yK rfl 1 (((353*i)+96)+q) _ rfl rfl kR 187 48 rfl (.int .i8 d) rfl sx p QG,st,yCm⟩ ?_;intro bb b9 k1;repeat refine UC ?_
     refine k1.U [.x (.int .i8 d),.x (.bool true)] [4,5,7,8,9,10,39,40,51] ⟨st,aP rfl .neq 187 187 50 (.int .i8 d) (.int .i8 0) (.bool true) rfl rfl sx (λw=>kR) (Rq R),yCm⟩ ?_;intro kx bf K;repeat refine UC ?_
     refine VH K.ev ?_;repeat refine UC ?_
     refine K.D [.x (tv s),.s (.s 1 N N),.x (iZ i),.s (.p 1 (353*i)),.x (.int .i8 d),.c (tv s3),.c (tv s4),.u 2] [] [(2,7,tw s4)] [RG.z 8,C,tw s4] [4,5,7,8,39,40] ⟨ld iH i117,st,st,bD rfl 182 53 54 rfl (.s 1 N N) (iZ i) sx sx (λμ w=>FT _ _ _ i A w),st,CL rfl 1 _ rfl rfl kR kb 110 55 56 (.p 1 (353*i)) (.int .i8 d) (tv s3) rfl (λa w=>kR) sx sx (λμ w hp hr=>ky (μ 1) w hp hr),cl b7,RG.pt i117,yCm⟩ ?_;intro B be l;repeat refine UC ?_
     refine l.U [.x (iZ ((i+1:Nat):Int)),.x (iZ ((i+1:Nat):Int))] [4,5,7,8,39,40] ⟨aP rfl .add 3 3 40 (iZ i) (iZ 1) (iZ ((i+1:Nat):Int)) rfl rfl sx (λw=>kR) (uP i 1 oM oM),st,yCm⟩ ?_;intro E c0 y;have k8:E.tmps[4]? = some (jZ x):=y.at (s:=(.p 0 0));have hu:E.tmps[5]? = some (sZ z N N):=y.at (s:=(.s 1 N N));have k5:E.tmps[7]? = some (jZ J):=y.at (s:=(.p 2 0));have hg:E.tmps[8]? = some (iZ q):=y.at (s:=(.v (iZ q)));have Y:E.tmps[39]? = some (iZ N):=y.at (s:=(.v (iZ N)));have Z:E.tmps[40]? = some (iZ ((i+1:Nat):Int)):=y.at (s:=(.v (iZ ((i+1:Nat):Int))));show ∃n',_;exact⟨m'-1,oM,i+1,oM,y.sl,k8,hu,k5,hg,Y,Z,by rw[f];exact y.st⟩
   ·have K:i=N:=oM;rw[K]at D;rw[D]at M;have R:RG.M w w.heap.size [] 62 [RG.z 8,C,tw s] [x,z,J] [(4,.p 0 0),(5,.s 1 N N),(7,.p 2 0),(8,.v (iZ q)),(39,.v (iZ N)),(40,.v (iZ i))] c _:=⟨V,k0,⟨r4,r5,r7,r8,hk,k2,yCm⟩⟩
    repeat refine UC ?_
    refine R.U [.x (.bool false)] [4,5,7,8,41] ⟨aQ rfl .lss 3 3 40 39 (iZ i) (iZ N) (.bool false) rfl rfl sx sx (λw=>kR) (nG A),yCm⟩ ?_;intro Y Z L;repeat refine UC ?_
    refine VJ L.ev ?_;refine wp_exit ?_;dsimp only[Exit.then,Ye];rw[yCk rfl];repeat refine UC ?_
    refine L.U [.x (iZ q),.x (iZ ((q:Int)-1)),.x (iZ ((q:Int)-1))] [4,5,7,8] ⟨st,aP rfl .sub 3 3 34 (iZ q) (iZ 1) (iZ ((q:Int)-1)) rfl rfl sx (λw=>kR) (sub1' q oM),st,yCm⟩ ?_;intro l X f;have y:l.tmps[4]? = some (jZ x):=f.at (s:=(.p 0 0));have E:l.tmps[5]? = some (sZ z N N):=f.at (s:=(.s 1 N N));have B:l.tmps[7]? = some (jZ J):=f.at (s:=(.p 2 0));have p:l.tmps[8]? = some (iZ ((q:Int)-1)):=f.at (s:=(.v (iZ ((q:Int)-1))));show ∃n',_;exact⟨q,XZ q,oM,f.sl,y,E,B,p,by rw[M];exact f.st⟩
def rt(m:Fin P):Option (Fin P):=if m.val^(P/4+1)%P*(m.val^(P/4+1)%P)%P=m.val then some (Xr P (even P (m.val^(P/4+1)%P))) else none
omit [NeZero P] in
theorem Fu(k:0<P)(h:r<P):even P r<P:=by unfold even;split<;>omega
theorem LQ{v:Uv}(h:rt m=some y)(k:Four v (even P (m.val^(P/4+1)%P))):v=fv y:=by
 unfold rt at h;split at h
 ·obtain rfl:=UP.inj h;have:(Xr P (even P (m.val^(P/4+1)%P))).val=even P (m.val^(P/4+1)%P):=UU (Fu (Yc P) (V6 _ (Yc P)));show v=nv _;rw[this];exact k.nv
 ·cases h
theorem IA(h:rt m=some y):m.val^(P/4+1)%P*(m.val^(P/4+1)%P)%P=m.val:=by
 unfold rt at h;split at h
 ·assumption
 ·cases h
theorem QU(h:rt m=none):¬m.val^(P/4+1)%P*(m.val^(P/4+1)%P)%P=m.val:=by
 unfold rt at h;split at h
 ·cases h
 ·assumption
theorem RootR.val{e:Uv}(h:RootR P m.val (m.val^(P/4+1)%P) e):(∀y,rt m=some y->e=.tuple #[fv y,.bool true])/\(rt m=none->e=.tuple #[fv (0:Fin P),.bool false]):=by
 obtain⟨g,i,j,l,ok,rfl,k,d,c⟩:=h;refine⟨λy b=>?_,λf=>?_⟩
 ·cases ok with
  | true=>rw[LQ b (k rfl).2]
  | false=>exact absurd (IA b) (d rfl)
 ·cases ok with
  | true=>exact absurd (k rfl).1 (QU f)
  | false =>
   obtain⟨rfl,rfl,rfl,rfl⟩:=c rfl;rw[<-lJ];rfl
theorem Qm(h:Fld P)(e:rt m=some y):Gives 191 #[gv0,fv m] (.tuple #[fv y,.bool true]):=λw =>
 (CX 4294968273 0 0 P _ m.val h.gap h.p4 (h.four m) w).mono (by rintro e' w' ⟨v,rfl,k,b⟩;exact⟨_,rfl,k,b.val.1 y e⟩)
theorem Qn(h:Fld P)(e:rt m=none):Gives 191 #[gv0,fv m] (.tuple #[fv (0:Fin P),.bool false]):=λw =>
 (CX 4294968273 0 0 P _ m.val h.gap h.p4 (h.four m) w).mono (by rintro e' w' ⟨v,rfl,k,b⟩;exact⟨_,rfl,k,b.val.2 e⟩)
def gl0:List Uv:=[uZ 4294968273,uZ 0,uZ 0,uZ 0]
theorem Ap(C:Fld P)(x y:Fin P)(m:rt (x*x*x+7)=some y):Gives 115 #[(fv x)] (.tuple #[pv x y,.bool true]):=by
 intro w;obtain⟨c1,g⟩:∃c,c=x*x:=⟨_,rfl⟩
 obtain⟨c2,e⟩:∃c,c=c1*x:=⟨_,rfl⟩
 obtain⟨k,i⟩:∃c,c=c2+(7:Fin P):=⟨_,rfl⟩
 have d:((.tuple #[pv x y,.bool true]):Uv)=(.tuple #[pv x y,.bool true]):=by
  subst_vars;rfl
 rw[<-d];go_enter func115,ntmps115;refine RG.M.enter [(0,.v (fv x))] 31 kR ?_;intro a0 p;repeat refine UC ?_
 refine p.T [.m 0,.m 1,.x (.bool false)] [(0,ws x),(1,RG.z 8)] [] [ws x,RG.z 8] [1,2,3] ⟨mk 0 47,mk 1 93,st,yCm⟩ ?_;intro H A K E n;repeat refine UC ?_
 refine n.T [.c gv0,.m 2,.u 2] [(1,RG.z 4)] [(2,2,gl0)] [ws x,RG.z 8,gl0] [1,2,3,4] ⟨cl bO,mk 2 120,RG.pt i79,yCm⟩ ?_;intro L a2 z q;repeat refine UC ?_
 refine q.D [.x gv0,.x gv0,.x gv0,.x (fv x),.x (fv x),.c (fv c1),.x (fv x),.c (fv c2),.x (fv (7:Fin P)),.c (fv k),.m 3,.u 3] [(10,RG.z 4)] [(3,11,ws k)] [ws x,RG.z 8,gl0,ws k] [1,2,3,4,5] ⟨ld u79 i79,ld u79 i79,ld u79 i79,ld u85 i85,ld u85 i85,cl ((rN C x x).e g),ld u85 i85,cl ((rN C c1 x).e e),se (BO C),cl ((F6 C c2 (7:Fin P)).e i),mk 3 47,RG.pt i85,yCm⟩ ?_;intro r D B l;repeat refine UC ?_
 refine l.T [.x gv0,.x (fv k),.c (.tuple #[fv y,.bool true]),.x (.tuple #[fv y,.bool true]),.x (fv y),.x (.bool true),.m 4,.u 4,.x (.bool true)] [(6,RG.z 4)] [(4,7,ws y)] [ws x,RG.z 8,gl0,ws k,ws y] [1,2,3,6,7] ⟨ld u79 i79,ld u85 i85,cl (f:=191) (args:=#[gv0,fv k]) (v:=(.tuple #[fv y,.bool true])) (Qm C (by subst_vars;exact m)),st,st,st,mk 4 47,RG.pt i85,st,yCm⟩ ?_;intro t J G o;repeat refine UC ?_
 refine o.U [.x (.bool true),.x (.bool false)] [1,2,3,6,26] ⟨st,st,yCm⟩ ?_;intro I F j;repeat refine UC ?_
 refine VJ j.ev ?_;refine WQ ?_;repeat refine UC ?_
 refine j.T [.x (fv x),.x (fv y),.x (pv x y),.u 1,.x (.bool true)] [] [(1,3,ws x++(ws y))] [ws x,ws x++(ws y),gl0,ws k,ws y] [2,3] ⟨ld u85 i85,ld u85 i85,st,RG.pt i109,st,yCm⟩ ?_;intro u a b;refine Wy ?_;refine UH (v:=(.tuple #[pv x y,.bool true])) (cQ b.st 2 3 93 rfl 1 _ rfl (b.at (s:=(.p 1 0))) _ (b.at (s:=(.v (.bool true)))) gV i109) b.sl.defers ?_;exact⟨_,rfl,b.st.bel.below,rfl⟩
theorem Aq(C:Fld P)(x:Fin P)(m:rt (x*x*x+7)=none):Gives 115 #[(fv x)] (.tuple #[pv (0:Fin P) 0,.bool false]):=by
 intro w;obtain⟨c1,g⟩:∃c,c=x*x:=⟨_,rfl⟩
 obtain⟨c2,e⟩:∃c,c=c1*x:=⟨_,rfl⟩
 obtain⟨k,i⟩:∃c,c=c2+(7:Fin P):=⟨_,rfl⟩
 have d:((.tuple #[pv (0:Fin P) (0:Fin P),.bool false]):Uv)=(.tuple #[pv (0:Fin P) 0,.bool false]):=by
  subst_vars;rfl
 rw[<-d];go_enter func115,ntmps115;refine RG.M.enter [(0,.v (fv x))] 31 kR ?_;intro a0 p;repeat refine UC ?_
 refine p.T [.m 0,.m 1,.x (.bool false)] [(0,ws x),(1,RG.z 8)] [] [ws x,RG.z 8] [1,2,3] ⟨mk 0 47,mk 1 93,st,yCm⟩ ?_;intro G a J D n;repeat refine UC ?_
 refine n.T [.c gv0,.m 2,.u 2] [(1,RG.z 4)] [(2,2,gl0)] [ws x,RG.z 8,gl0] [1,2,3,4] ⟨cl bO,mk 2 120,RG.pt i79,yCm⟩ ?_;intro K a2 y q;repeat refine UC ?_
 refine q.D [.x gv0,.x gv0,.x gv0,.x (fv x),.x (fv x),.c (fv c1),.x (fv x),.c (fv c2),.x (fv (7:Fin P)),.c (fv k),.m 3,.u 3] [(10,RG.z 4)] [(3,11,ws k)] [ws x,RG.z 8,gl0,ws k] [2,3,4,5] ⟨ld u79 i79,ld u79 i79,ld u79 i79,ld u85 i85,ld u85 i85,cl ((rN C x x).e g),ld u85 i85,cl ((rN C c1 x).e e),se (BO C),cl ((F6 C c2 (7:Fin P)).e i),mk 3 47,RG.pt i85,yCm⟩ ?_;intro r B A l;repeat refine UC ?_
 refine l.T [.x gv0,.x (fv k),.c (.tuple #[fv (0:Fin P),.bool false]),.x (.tuple #[fv (0:Fin P),.bool false]),.x (fv (0:Fin P)),.x (.bool false),.m 4,.u 4,.x (.bool false)] [(6,RG.z 4)] [(4,7,ws (0:Fin P))] [ws x,RG.z 8,gl0,ws k,ws (0:Fin P)] [2,3,7] ⟨ld u79 i79,ld u85 i85,cl (f:=191) (args:=#[gv0,fv k]) (v:=(.tuple #[fv (0:Fin P),.bool false])) (Qn C (by subst_vars;exact m)),st,st,st,mk 4 47,RG.pt i85,st,yCm⟩ ?_;intro t I F o;repeat refine UC ?_
 refine o.U [.x (.bool false),.x (.bool true)] [2,3,26] ⟨st,st,yCm⟩ ?_;intro H E j;repeat refine UC ?_
 refine VH j.ev ?_;repeat refine UC ?_
 refine j.T [.x (pv (0:Fin P) (0:Fin P)),.u 1,.x (.bool false)] [] [(1,1,ws (0:Fin P)++(ws (0:Fin P)))] [ws x,ws (0:Fin P)++(ws (0:Fin P)),gl0,ws k,ws (0:Fin P)] [2,3] ⟨se (gI (P:=P)),RG.pt i109,st,yCm⟩ ?_;intro u z b;refine Wy ?_;refine UH (v:=(.tuple #[pv (0:Fin P) (0:Fin P),.bool false])) (cQ b.st 2 3 93 rfl 1 _ rfl (b.at (s:=(.p 1 0))) _ (b.at (s:=(.v (.bool false)))) gV i109) b.sl.defers ?_;exact⟨_,rfl,b.st.bel.below,rfl⟩
theorem OX(C:Fld P)(x y:Fin P):Gives 227 #[(pv x y)] (pv x (0-y)):=by
 intro w;obtain⟨c1,d⟩:∃c,c=(0:Fin P)-y:=⟨_,rfl⟩
 have k:((pv x c1):Uv)=(pv x (0-y)):=by
  subst_vars;rfl
 rw[<-k];go_enter func227,ntmps227;refine RG.M.enter [(0,.v (pv x y))] 11 kR ?_;intro a0 f;repeat refine UC ?_
 refine f.T [.m 0,.m 1] [(0,ws x++(ws y)),(1,RG.z 8)] [] [ws x++(ws y),RG.z 8] [1,2] ⟨mk 0 93,mk 1 93,yCm⟩ ?_;intro j m l g e;repeat refine UC ?_
 refine e.D [.s (.p 0 0),.x (fv x),.c gv0,.x (fv (0:Fin P)),.s (.p 0 4),.x (fv y),.c (fv c1),.x (pv x c1),.u 1] [] [(1,8,ws x++(ws c1))] [ws x++(ws y),ws x++(ws c1)] [2] ⟨st,ld u85 i85,cl bO,se (lJ (P:=P)),st,ld u85 i85,cl ((Kv C (0:Fin P) y).e d),st,RG.pt i109,yCm⟩ ?_;intro a2 i b;refine Wy ?_;refine UH (v:=(pv x c1)) (aI b.st 2 93 rfl 1 _ rfl (b.at (s:=(.p 1 0))) gV i109) b.sl.defers ?_;exact⟨_,rfl,b.st.bel.below,rfl⟩
end
section
open Go.RowKit Go.Sort Go.Deep
variable {P:Nat}[NeZero P]{N:Nat}
theorem gW{w:Ut}{a b d:Nat}(h:Kept w k [⟨e,0,a,b,c,d⟩,⟨k,0,f,g,i,0⟩,⟨j,0,0,0,0,0⟩] W):W.cell? ⟨e,0,none⟩=some (uZ a)/\W.cell? ⟨e,1,none⟩=some (uZ b)/\W.cell? ⟨e,2,none⟩=some (uZ c)/\W.cell? ⟨e,3,none⟩=some (uZ d)/\W.cell? ⟨k,0,none⟩=some (uZ f)/\W.cell? ⟨k,1,none⟩=some (uZ g)/\W.cell? ⟨k,2,none⟩=some (uZ i)/\W.cell? ⟨k,3,none⟩=some (uZ 0)/\Kept w k [⟨e,0,a,b,c,d⟩,⟨k,0,f,g,i,0⟩,⟨j,0,0,0,0,0⟩] W:=⟨h.head.c0,h.head.c1,h.head.c2,h.head.c3,h.tail.head.c0,h.tail.head.c1,h.tail.head.c2,h.tail.head.c3,h⟩
theorem nV{w:Ut}{a b d:Nat}(h:W.cell? ⟨e,0,none⟩=some (uZ a)/\W.cell? ⟨e,1,none⟩=some (uZ b)/\W.cell? ⟨e,2,none⟩=some (uZ c)/\W.cell? ⟨e,3,none⟩=some (uZ d)/\W.cell? ⟨k,0,none⟩=some (uZ f)/\W.cell? ⟨k,1,none⟩=some (uZ g)/\W.cell? ⟨k,2,none⟩=some (uZ i)/\W.cell? ⟨k,3,none⟩=some (uZ 0)/\Kept w k [⟨e,0,a,b,c,d⟩,⟨k,0,f,g,i,0⟩,⟨j,0,0,0,0,0⟩] W):Kept w k [⟨e,0,a,b,c,d⟩,⟨k,0,f,g,i,0⟩,⟨j,0,0,0,0,0⟩] W:=h.2.2.2.2.2.2.2.2
theorem BX{w:Ut}{a b d:Nat}{o:Obj}(h:W.cell? ⟨e,0,none⟩=some (uZ a)/\W.cell? ⟨e,1,none⟩=some (uZ b)/\W.cell? ⟨e,2,none⟩=some (uZ c)/\W.cell? ⟨e,3,none⟩=some (uZ d)/\W.cell? ⟨k,0,none⟩=some (uZ f)/\W.cell? ⟨k,1,none⟩=some (uZ g)/\W.cell? ⟨k,2,none⟩=some (uZ i)/\W.cell? ⟨k,3,none⟩=some (uZ 0)/\Kept w k [⟨e,0,a,b,c,d⟩,⟨k,0,f,g,i,0⟩,⟨j,0,0,0,0,0⟩] W):(W.alloc o).cell? ⟨e,0,none⟩=some (uZ a)/\(W.alloc o).cell? ⟨e,1,none⟩=some (uZ b)/\(W.alloc o).cell? ⟨e,2,none⟩=some (uZ c)/\(W.alloc o).cell? ⟨e,3,none⟩=some (uZ d)/\(W.alloc o).cell? ⟨k,0,none⟩=some (uZ f)/\(W.alloc o).cell? ⟨k,1,none⟩=some (uZ g)/\(W.alloc o).cell? ⟨k,2,none⟩=some (uZ i)/\(W.alloc o).cell? ⟨k,3,none⟩=some (uZ 0)/\Kept w k [⟨e,0,a,b,c,d⟩,⟨k,0,f,g,i,0⟩,⟨j,0,0,0,0,0⟩] (W.alloc o):=gW ((nV h).alloc o)
theorem AM{w:Ut}{a b d:Nat}{o:Obj}(h:W.drew.cell? ⟨e,0,none⟩=some (uZ a)/\W.drew.cell? ⟨e,1,none⟩=some (uZ b)/\W.drew.cell? ⟨e,2,none⟩=some (uZ c)/\W.drew.cell? ⟨e,3,none⟩=some (uZ d)/\W.drew.cell? ⟨k,0,none⟩=some (uZ f)/\W.drew.cell? ⟨k,1,none⟩=some (uZ g)/\W.drew.cell? ⟨k,2,none⟩=some (uZ i)/\W.drew.cell? ⟨k,3,none⟩=some (uZ 0)/\Kept w k [⟨e,0,a,b,c,d⟩,⟨k,0,f,g,i,0⟩,⟨j,0,0,0,0,0⟩] W.drew):(W.alloc o).drew.cell? ⟨e,0,none⟩=some (uZ a)/\(W.alloc o).drew.cell? ⟨e,1,none⟩=some (uZ b)/\(W.alloc o).drew.cell? ⟨e,2,none⟩=some (uZ c)/\(W.alloc o).drew.cell? ⟨e,3,none⟩=some (uZ d)/\(W.alloc o).drew.cell? ⟨k,0,none⟩=some (uZ f)/\(W.alloc o).drew.cell? ⟨k,1,none⟩=some (uZ g)/\(W.alloc o).drew.cell? ⟨k,2,none⟩=some (uZ i)/\(W.alloc o).drew.cell? ⟨k,3,none⟩=some (uZ 0)/\Kept w k [⟨e,0,a,b,c,d⟩,⟨k,0,f,g,i,0⟩,⟨j,0,0,0,0,0⟩] (W.alloc o).drew:=gW (((nV h).undrew).alloc o).drew
theorem Ku(pv:Uv)(p:Option Wv)(n cap:Nat)(w:Ut)(k c d:Nat)(b:pv=.agg #[uZ k,uZ c,uZ d,uZ 0])(f:n≠32):
 UK prog 59 #[pv,.slice p n cap] w (rZ w λe w'=>e=.tuple #[.agg #[uZ 0,uZ 0,uZ 0,uZ 0],.bool false]):=by
 subst b;go_enter func59,ntmps59;go_wp2;refine UH (v:=?v) ?hr rfl ?hR
 case hr=>simp[results,Tryz.results59,go_sem];rfl
 exact⟨_,rfl,below2 _ _ _,rfl⟩
theorem yW(j m l P g o cap:Nat)(n:Bs)(hG:Gap j m l P)(w:Ut)(U:n.size=32)(hc:32<=cap)(V:g<w.heap.size)(Y:Holds encB w g o n):
 UK prog 59 #[.agg #[.int .u64 j,.int .u64 m,.int .u64 l,.int .u64 0],.slice (some ⟨g,o,none⟩) 32 cap] w
  (Ret λe w'=>Below w.heap.size w w'/\((beV n.toList<P/\∃v,e=.tuple #[v,.bool true]/\Four v (beV n.toList))\/(P<=beV n.toList/\e=.tuple #[.agg #[.int .u64 0,.int .u64 0,.int .u64 0,.int .u64 0],.bool false]))):=by
 have C:Hid (Gap j m l P):=hG;have L:Hid (Holds encB w g o n):=Y;have HS:Hid (n.size=32):=U;clear hG Y U;go_enter func59,ntmps59;go_wp2_with fail
 have PR:=(At4.made w 120 j m l 0 rfl).alloc (.cells #[.int .u64 0,.int .u64 0,.int .u64 0,.int .u64 0] 47);have S:=At4.made (w.alloc (.cells #[.int .u64 j,.int .u64 m,.int .u64 l,.int .u64 0] 120)) 47 0 0 0 0 (UD _ _);have s:=((Kept.mk1 (below2 w (.cells #[.int .u64 j,.int .u64 m,.int .u64 l,.int .u64 0] 120) (.cells #[.int .u64 0,.int .u64 0,.int .u64 0,.int .u64 0] 47)) (below2 w (.cells #[.int .u64 j,.int .u64 m,.int .u64 l,.int .u64 0] 120) (.cells #[.int .u64 0,.int .u64 0,.int .u64 0,.int .u64 0] 47)).size).cons S.blk).cons PR.blk;have r:=Holds.below L.out (below2 w (.cells #[.int .u64 j,.int .u64 m,.int .u64 l,.int .u64 0] 120) (.cells #[.int .u64 0,.int .u64 0,.int .u64 0,.int .u64 0] 47)) V;clear PR S;generalize XB _ _=W0 at s r⊢;refine(kM (some ⟨g,o,none⟩) g o 32 cap n _ (Uy 32) hc HS.out (U2 ⟨rfl,r⟩)).mono ?_;rintro e H ⟨v,rfl,i,M⟩;obtain⟨a,b,c,d,rfl,ha,hb,K,hd,I⟩:=id M;have J:Hid (Four _ _):=M;have Q:=s.call i;clear I M i s r;go_wp2_with fail
 have f:=(Q.alloc (.cells #[.int .u64 a,.int .u64 b,.int .u64 c,.int .u64 d] 47)).cons (At4.made H 47 a b c d rfl).blk;have D:H.heap.size≠w.heap.size:=Wp Q.head.lt;clear Q;generalize XB _ _=W1 at f⊢;generalize H.heap.size=y at f D⊢;generalize N:w.heap.size+1=F at f⊢;have O:Hid (w.heap.size<=F):=by unfold Hid;omega
 generalize X:w.heap.size=q at f O V D⊢;have W:Hid (w.heap.size=q):=X;clear X N
 go_cut [8] (λs8 wx=>∃k:Nat,s8=.int .u64 k/\k<=1/\Hid (∃t,t<top/\t+top*k=beV n.toList+val j m l 0)/\Kept w q [⟨y,0,a,b,c,d⟩,⟨q,0,j,m,l,0⟩,⟨F,0,0,0,0,0⟩] wx)
 case first =>
  go_region_held3 (λw'=>w'.cell? ⟨y,0,none⟩=some (.int .u64 a)/\w'.cell? ⟨y,1,none⟩=some (.int .u64 b)/\w'.cell? ⟨y,2,none⟩=some (.int .u64 c)/\w'.cell? ⟨y,3,none⟩=some (.int .u64 d)/\w'.cell? ⟨q,0,none⟩=some (.int .u64 j)/\w'.cell? ⟨q,1,none⟩=some (.int .u64 m)/\w'.cell? ⟨q,2,none⟩=some (.int .u64 l)/\w'.cell? ⟨q,3,none⟩=some (.int .u64 0)/\Kept w q [⟨y,0,a,b,c,d⟩,⟨q,0,j,m,l,0⟩,⟨F,0,0,0,0,0⟩] w') (first|(with_reducible exact gW f)|(with_reducible exact gW f.drew)|(with_reducible exact AM (by assumption))|(with_reducible exact BX (by assumption))|(with_reducible exact gW (f.alloc _))|(with_reducible exact gW (f.set4' A (λx hx=>Wp (E x hx)) _ _ _ _))|(with_reducible exact gW (f.alloc _).drew)|(with_reducible exact gW (f.set4' A (λx hx=>Wp (E x hx)) _ _ _ _).drew)|fail) (first|(go_at_call 127;refine(jP _ _ J.out _).mono ?_;rintro e w2 ⟨v,rfl,i,rfl⟩;(try(with_reducible have z:=T.call i;clear T;have T:=z;clear z));(try(first|(with_reducible have T:=(At4.made _ 118 0 0 0 0 rfl).call i)|(with_reducible have T:=(At4.made _ 118 0 0 0 0 rfl).drew.call i));have E:=f.lts;have A:=f.le);have p:=Kept.call (nV (by assumption)) i;clear f;have f:=p;clear p i)|(go_at_call 126;refine(qU _ _ _ _ J.out (Four.mk C.h0 C.h1 C.h2 dC rfl) _).mono ?_;rintro e w2 ⟨v,rfl,i,v2,t,k,rfl,u,B,R⟩;obtain⟨a',b',c',d',rfl,h6,Z,K,hl,I⟩:=id u;have HT:Hid (t<top/\t+top*k=beV n.toList+val j m l 0):=⟨u.lt,R⟩;clear I R u;(try(with_reducible have z:=T.call i;clear T;have T:=z;clear z));(try(first|(with_reducible have T:=(At4.made _ 118 0 0 0 0 rfl).call i)|(with_reducible have T:=(At4.made _ 118 0 0 0 0 rfl).drew.call i));have E:=f.lts;have A:=f.le);have p:=Kept.call (nV (by assumption)) i;clear f;have f:=p;clear p i;(try(obtain⟨h4,h9,h5,h7,tf⟩:=id T;have zt:=T.lt))))
  all_goals (try go_wp2)
  all_goals (have G:Hid (∃t,t<top/\t+top*k=beV n.toList+val j m l 0):=⟨t,HT.out⟩)
  all_goals (go_meet;first|(with_reducible exact⟨k,rfl,B,G,f.alloc _⟩)|(with_reducible exact⟨k,rfl,B,G,(f.alloc _).drew⟩)|(with_reducible exact⟨k,rfl,B,G,f.set4' A (λx hx=>Wp (E x hx)) _ _ _ _⟩)|(with_reducible exact⟨k,rfl,B,G,(f.set4' A (λx hx=>Wp (E x hx)) _ _ _ _).drew⟩)|fail)
 case rest =>
  clear f;obtain⟨k,rfl,B,R,f⟩:=hcut;have A:k=0\/k=1:=oM;rcases A with rfl|rfl
  ·obtain⟨h3,hi,h8,hj,xf⟩:=f.head.at4;obtain⟨G,z,E,u,rf⟩:=f.tail.tail.head.at4;have z1:=f.tail.tail.head.lt;go_wp2;have p:=f.tail.tail.head.at4.self4 a b c d;unfold set4 at p;refine UH (v:=?v0) ?hr0 rfl ?hR0
   case hr0=>simp[results,Tryz.results59,go_sem,p.c0,p.c1,p.c2,p.c3];rfl
   refine⟨_,rfl,?_,U6 ⟨?_,_,rfl,J.out⟩⟩
   ·rw[W.out];exact aL f.bl O.out _ _ _ _
   ·obtain⟨t,N,Z⟩:=R.out;have:=C.hP;omega
  ·obtain⟨G,z,E,u,rf⟩:=f.tail.tail.head.at4;have z1:=f.tail.tail.head.lt;go_wp2;have p:At4 (set4 wc F (.int .u64 0) (.int .u64 0) (.int .u64 0) (.int .u64 0)) F 0 0 0 0:=f.tail.tail.head.at4.self4 0 0 0 0;unfold set4 at p;refine UH (v:=?v1) ?hr1 rfl ?hR1
   case hr1=>simp[results,Tryz.results59,go_sem,p.c0,p.c1,p.c2,p.c3];rfl
   refine⟨_,rfl,?_,U2 ⟨?_,rfl⟩⟩
   ·rw[W.out];exact aL f.bl O.out _ _ _ _
   ·obtain⟨t,N,Z⟩:=R.out;have:=C.hP;omega
def Arg(w:Ut)(v:Uv)(k:Bs):Prop:=∃(p:Option Wv) (n cap:Nat),v=.slice p n cap/\k.size=n/\(n=32->∃g o,p=some ⟨g,o,none⟩/\32<=cap/\g<w.heap.size/\Holds encB w g o k)
theorem Arg.below{w k:Ut}{v:Uv}{b:Bs}(h:Arg w v b)(c:kZ w k):Arg k v b:=by
 obtain⟨p,n,cap,rfl,e,j⟩:=h;refine⟨p,n,cap,rfl,e,λm=>?_⟩;obtain⟨g,o,i,l,d,f⟩:=j m;exact⟨g,o,i,l,Uz d c.size,Holds.below f c d⟩
def Args(w:Ut)(q:Option Wv)(n:Nat)(L:Nat->Bs):Prop:=0<n->∃k,q=some (aZ k)/\k<w.heap.size/\∀j,j<n->∃v,w.cell? ⟨k,j,none⟩=some v/\Arg w v (L j)
end
section
open Go.RowKit Go.Sort
theorem u131:(prog.underlying 102).map (·.isRow)=some true:=kR
theorem i131:(prog.info? 102).map (·.size)=some 33:=kR
theorem u5:(prog.underlying 5).map (·.isRow)=some false:=kR
theorem Ow:prog.underlying 102=some (.array 33 5):=kR
theorem Tg:prog.underlying 5=some (.int .u8):=kR
theorem cells5:prog.cellsOf 5=1:=kR
theorem QP(g o cap:Nat)(k:33<=cap)(w:Ut):(Instr.sliceAt 23 (.slice (some ⟨g,o,none⟩) 33 cap) (some (iZ 1)) none none).run prog w=.ok (.slice (some ⟨g,o+1,none⟩) 32 (cap-1)) w:=by
 go_simp;omega
theorem N8(g o cap:Nat)(w:Ut):(Instr.arrayAt 102 (.slice (some ⟨g,o,none⟩) 33 cap)).run prog w=.ok (oZ g o) w:=kR
theorem Ek(g o n cap:Nat)(k:0<n)(w:Ut):(Vj 23 (.slice (some ⟨g,o,none⟩) n cap) (iZ 0)).run prog w=.ok (oZ g o) w:=by
 go_simp
theorem ND(xs:Array Uv)(i:Nat)(v:Uv)(h:xs[i]? = some v)(w:Ut):(part 5 xs i).run prog w=.ok v w:=by
 go_simp
theorem eqI(xs ys:Array Uv)(a b:Nat->Int)(D:Nat)(w:Ut):∀(k:List Nat),(∀i∈k,xs[i]? = some (.int .u8 (a i)))->(∀i∈k,ys[i]? = some (.int .u8 (b i))) ->
 (yBe (D+1) 5 1 xs ys k).run prog w=.ok (decide (∀i∈k,a i=b i)) w
 | [],_,_=>by
  rw[yBe];simp
 | i :: k,hx,hy=>by
  have e:=eqI xs ys a b D w k (λj c=>hx j (Vd _ c)) (λj c=>hy j (Vd _ c));have p1:=ND xs (i*1) _ (by rw[XY];exact hx i Vo) w;have p2:=ND ys (i*1) _ (by rw[XY];exact hy i Vo) w;have d:=run_equalIn_int (P:=prog) w D 5 .u8 .u8 (a i) (b i) Tg;rw[yBe];simp only[UW,p1,p2,d,Vr];by_cases h:a i=b i
  ·simp only[h,beq_self_eq_true,Bool.not_true,Bool.false_eq_true,if_false,e,yAC,true_and]
  ·have f:(a i == b i)=false:=by simpa using h
   simp only[f,Bool.not_false,if_true,WA,yAC,h,false_and,decide_false]
def aA(k:Bs):List Uv:=k.toList.map encB
def z33:List Uv:=VG 33 (.int .u8 0)
theorem rM(k:Bs)(i:Nat)(h:i<k.size):(aA k)[i]? = some (.int .u8 (ub k[i]!)):=by
 unfold aA;rw[Vy,Vt,UZ h,getElem!_pos k i h];rfl
theorem eqz(k:Bs)(h:k.size=33)(w:Ut):(binOp .eql 102 (.agg (aA k).toArray) (.agg z33.toArray)).run prog w=.ok (.bool (decide (∀i∈VB 33,ub k[i]! = 0))) w:=by
 have c:(prog.info? 5).isSome=true:=kR;obtain⟨d,b⟩:=Vu.1 c;rw[run_eql_struct,run_equalIn_array w 9999 _ _ Ow b,cells5,
  eqI _ _ (λi=>ub k[i]!) (λ_=>0) 9998 w (VB 33) (λi c=>by
   rw[Vm];exact rM k i (by rw[h];exact VS.1 c)) (λi c=>by
   rw[Vm];unfold z33;rw[List.getElem?_replicate,yCk (VS.1 c)])]
 rfl
@[reducible] def tI (bs:Bs):Prop:=∀i∈VB 33,ub bs[i]! = 0
theorem Sq{k:Bs}(h:k.size=33)(b:tI k)(w:Ut):(binOp .eql 102 (.agg (aA k).toArray) (.agg z33.toArray)).run prog w=.ok (.bool true) w:=by rw[eqz k h,decide_eq_true (show ∀i∈VB 33,ub k[i]! = 0 from b)]
theorem Sr{k:Bs}(h:k.size=33)(b:¬tI k)(w:Ut):(binOp .eql 102 (.agg (aA k).toArray) (.agg z33.toArray)).run prog w=.ok (.bool false) w:=by rw[eqz k h,decide_eq_false (show ¬ ∀i∈VB 33,ub k[i]! = 0 from b)]
theorem aB{k:Bs}(h:k.size=33):(aA k).length=33:=by unfold aA;rw[US,UL,h]
theorem Ef{k:Bs}{w:Ut}{o:Nat}(c:Holds encB w g o k):w.rangeAt g o (aA k):=λj v hv=>by
 have b:j<k.size:=by
  have:=(UG.1 hv).1;unfold aA at this;rwa[US,UL]at this
 rw[rM k j b]at hv;rw[(c j b).1];exact hv
def uL(k:Bs):Bs:=k.extract 1 33
theorem nR{k:Bs}(h:k.size=33):(uL k).size=32:=by unfold uL;rw[XE,h];rfl
theorem tl33_holds{k:Bs}{w:Ut}{o:Nat}(h:k.size=33)(c:Holds encB w g o k):Holds encB w g (o+1) (uL k):=
 Holds.part c (by rw[nR h,h];decide) (λj b=>by
  rw[nR h]at b;unfold uL;rw[getElem!_pos _ j (by rw[XE,h];omega),getElem!_pos _ (1+j) (by rw[h];omega),Array.getElem_extract])
variable {P:Nat}[NeZero P]
theorem Ks(C:Fld P){o:Nat}{k:Bs}(c:k.size=32)(i:32<=cap)(hx:beV k.toList=x.val){w:Ut}(d:g<w.heap.size)(f:Holds encB w g o k):
 UK prog 59 #[gv0,.slice (some ⟨g,o,none⟩) 32 cap] w (rZ w λe w'=>e=.tuple #[fv x,.bool true]):=
 (yW 4294968273 0 0 P g o cap k C.gap w c i d f).mono (by
  rintro e w' ⟨v,rfl,l,⟨j,m,rfl,b⟩|⟨j,rfl⟩⟩
  ·refine⟨_,rfl,l,?_⟩;rw[hx]at b;rw[b.nv]
  ·have:=x.isLt;omega)
theorem Kt(C:Fld P){o:Nat}{k:Bs}(c:k.size=32)(i:32<=cap)(hx:¬beV k.toList<P){w:Ut}(d:g<w.heap.size)(f:Holds encB w g o k):
 UK prog 59 #[gv0,.slice (some ⟨g,o,none⟩) 32 cap] w (rZ w λe w'=>e=.tuple #[fv (0:Fin P),.bool false]):=
 (yW 4294968273 0 0 P g o cap k C.gap w c i d f).mono (by
  rintro e w' ⟨v,rfl,j,⟨b,l,rfl,m⟩|⟨b,rfl⟩⟩
  ·exact absurd b hx
  ·refine⟨_,rfl,j,?_⟩;rw[<-lJ])
def rdx(P:Nat)[NeZero P](k:Bs):Fin P:=Xr P (beV (uL k).toList)
def rd(P:Nat)[NeZero P](k:Bs):Option (Fin P × Fin P):=
 if k.size=33 then
  if tI k then some (0,0) else
  if ub k[0]! = 2\/ub k[0]! = 3 then
   if beV (uL k).toList<P then
    (rt (rdx P k*rdx P k*rdx P k+7)).map (λy=>(rdx P k,if ub k[0]! = 3 then 0-y else y))
   else none
  else none
 else none
def rdV:Option (Fin P × Fin P)->Uv
 | none=>.tuple #[pv (0:Fin P) 0,.bool false]
 | some p=>.tuple #[pv p.1 p.2,.bool true]
end
section
open Go.RowKit Go.Sort
variable {P:Nat}[NeZero P]{N:Nat}
theorem OR(C:Fld P)(q:Option Wv)(n cap:Nat)(x:Fin P)(w:Ut)(u:¬n=33):UK prog 193 #[(.slice q n cap)] w (rZ w λe w'=>e=(.tuple #[pv (0:Fin P) 0,.bool false])):=by
 have c:∀w,(binOp .neq 3 (iZ n) (iZ 33)).run prog w=.ok (.bool true) w:=λw=>by
  have h:¬(n:Int)=33:=oM;go_simp
 go_enter func193,ntmps193;refine Hz (v0:=(.slice q n cap)) (n:=54) kR kR kR ?_;intro a0 d g;have b:=RG.St.begin w;have j:RG.M w w.heap.size [] 54 [] [] [(0,.v (.slice q n cap))] a0 _:=⟨b,d,⟨g,yCm⟩⟩
 repeat refine UC ?_
 refine j.T [.m 0,.x (.bool false)] [(0,RG.z 8)] [] [RG.z 8] [0,2,3] ⟨mk 0 93,st,yCm⟩ ?_;intro r t p i;repeat refine UC ?_
 refine i.U [.x (.slice q n cap),.x (iZ n),.x (.bool true)] [2,3,9] ⟨st,fR rfl 7 (.v (.slice q n cap)) (iZ n) rfl sx (λa w=>kR) (λμ w=>kR),aP rfl .neq 3 3 8 (iZ n) (iZ 33) (.bool true) rfl rfl sx (λw=>kR) c,yCm⟩ ?_;intro a2 l f;repeat refine UC ?_
 refine VH f.ev ?_;repeat refine UC ?_
 refine f.T [.x (pv (0:Fin P) (0:Fin P)),.u 0,.x (.bool false)] [] [(0,1,ws (0:Fin P)++(ws (0:Fin P)))] [ws (0:Fin P)++(ws (0:Fin P))] [2,3] ⟨se (gI (P:=P)),RG.pt i109,st,yCm⟩ ?_;intro o m k;refine Wy ?_;refine UH (v:=(.tuple #[pv (0:Fin P) (0:Fin P),.bool false])) (cQ k.st 2 3 93 rfl 0 _ rfl (k.at (s:=(.p 0 0))) _ (k.at (s:=(.v (.bool false)))) gV i109) k.sl.defers ?_;exact⟨_,rfl,k.st.bel.below,rfl⟩
abbrev v33(g o cap:Nat):Uv:=.slice (some ⟨g,o,none⟩) 33 cap
theorem TD(C:Fld P)(g o cap:Nat)(k:Bs)(w:Ut)(l:k.size=33)(hc:33<=cap)(c:g<w.heap.size)(J:Holds encB w g o k):UK prog 193 #[v33 g o cap] w (rZ w λe w'=>e=rdV (rd P k)):=by
 have F:=Ef J;have b:w.cell? ⟨g,o,none⟩=some (.int .u8 (ub k[0]!)):=by
  have:=(J 0 (by rw[l];decide)).1;rw[Xm]at this;exact this
 go_enter func193,ntmps193;refine Hz (v0:=(v33 g o cap)) (n:=54) kR kR kR ?_;intro a0 N f0;have K:=RG.St.begin w;have M0:RG.M w w.heap.size [] 54 [] [] [(0,.v (v33 g o cap))] a0 _:=⟨K,N,⟨f0,yCm⟩⟩
 repeat refine UC ?_
 refine M0.T [.m 0,.x (.bool false)] [(0,RG.z 8)] [] [RG.z 8] [0,2,3] ⟨mk 0 93,st,yCm⟩ ?_;intro j1 a1 w1 M1;repeat refine UC ?_
 refine M1.U [.x (v33 g o cap),.x (iZ 33),.x (.bool false)] [0,2,3,9] ⟨st,fR rfl 7 (.v (v33 g o cap)) (iZ 33) rfl sx (λa w=>kR) (λμ w=>kR),st,yCm⟩ ?_;intro a2 w2 M;repeat refine UC ?_
 refine VJ M.ev ?_;refine WQ ?_;repeat refine UC ?_
 unfold rd;rw[yCk l];by_cases H:tI k
 ·rw[yCk H];refine M.U [.x (v33 g o cap),.x (oZ g o),.x (.agg (aA k).toArray),.x (.agg z33.toArray),.x (.bool true)] [2,3,15] ⟨st,CJ rfl 102 11 (v33 g o cap) (oZ g o) rfl rfl sx (N8 g o cap),eH rfl g o c U1 102 12 rfl (aA k) rfl sx F u131 (by rw[aB l];exact i131),st,aQ rfl .eql 102 102 13 14 (.agg (aA k).toArray) (.agg z33.toArray) (.bool true) rfl rfl sx sx (λw=>kR) (Sq l H),yCm⟩ ?_;intro a3 w3 A;repeat refine UC ?_
  refine VH A.ev ?_;repeat refine UC ?_
  refine A.T [.x (pv (0:Fin P) (0:Fin P)),.u 0,.x (.bool true)] [] [(0,1,ws (0:Fin P)++(ws (0:Fin P)))] [ws (0:Fin P)++(ws (0:Fin P))] [2,3] ⟨se (gI (P:=P)),RG.pt i109,st,yCm⟩ ?_;intro Y V f;refine Wy ?_;refine UH (v:=(.tuple #[pv (0:Fin P) (0:Fin P),.bool true])) (cQ f.st 2 3 93 rfl 0 _ rfl (f.at (s:=(.p 0 0))) _ (f.at (s:=(.v (.bool true)))) gV i109) f.sl.defers ?_;exact⟨_,rfl,f.st.bel.below,rfl⟩
 rw[yCl H];refine M.U [.x (v33 g o cap),.x (oZ g o),.x (.agg (aA k).toArray),.x (.agg z33.toArray),.x (.bool false)] [0,2,3,15] ⟨st,CJ rfl 102 11 (v33 g o cap) (oZ g o) rfl rfl sx (N8 g o cap),eH rfl g o c U1 102 12 rfl (aA k) rfl sx F u131 (by rw[aB l];exact i131),st,aQ rfl .eql 102 102 13 14 (.agg (aA k).toArray) (.agg z33.toArray) (.bool false) rfl rfl sx sx (λw=>kR) (Sr l H),yCm⟩ ?_;intro a3 w3 A;repeat refine UC ?_
 refine VJ A.ev ?_;refine WQ ?_;repeat refine UC ?_
 by_cases j:ub k[0]! = 2\/ub k[0]! = 3
 rotate_left
 ·rw[yCl j];generalize ub k[0]! = m at b j;have Z:¬m=2:=λh=>j (.inl h)
  have I:¬m=3:=λh=>j (.inr h)
  have d:∀w,(binOp .neq 5 (.int .u8 m) (.int .u8 2)).run prog w=.ok (.bool true) w:=λw=>by
   go_simp
  have i:∀w,(binOp .neq 5 (.int .u8 m) (.int .u8 3)).run prog w=.ok (.bool true) w:=λw=>by
   go_simp
  refine A.U [.x (v33 g o cap),.x (oZ g o),.x (.int .u8 m),.x (.bool true),.x (.bool true),.x (v33 g o cap),.x (oZ g o),.x (.int .u8 m),.x (.bool true),.x (.bool true)] [2,3,26] ⟨st,eN rfl 23 17 (iZ 0) rfl (.v (v33 g o cap)) sx (λμ w=>Ek g o 33 cap dC w),bM rfl g o c U1 5 18 rfl (.int .u8 m) rfl sx b u5,aP rfl .neq 5 5 19 (.int .u8 m) (.int .u8 2) (.bool true) rfl rfl sx (λw=>kR) d,st,st,eN rfl 23 22 (iZ 0) rfl (.v (v33 g o cap)) sx (λμ w=>Ek g o 33 cap dC w),bM rfl g o c U1 5 23 rfl (.int .u8 m) rfl sx b u5,aP rfl .neq 5 5 24 (.int .u8 m) (.int .u8 3) (.bool true) rfl rfl sx (λw=>kR) i,st,yCm⟩ ?_;intro Y V f;repeat refine UC ?_
  refine VH f.ev ?_;repeat refine UC ?_
  refine f.T [.x (pv (0:Fin P) (0:Fin P)),.u 0,.x (.bool false)] [] [(0,1,ws (0:Fin P)++(ws (0:Fin P)))] [ws (0:Fin P)++(ws (0:Fin P))] [2,3] ⟨se (gI (P:=P)),RG.pt i109,st,yCm⟩ ?_;intro W U t;refine Wy ?_;refine UH (v:=(.tuple #[pv (0:Fin P) (0:Fin P),.bool false])) (cQ t.st 2 3 93 rfl 0 _ rfl (t.at (s:=(.p 0 0))) _ (t.at (s:=(.v (.bool false)))) gV i109) t.sl.defers ?_;exact⟨_,rfl,t.st.bel.below,rfl⟩
 rw[yCk j];rcases j with j|j
 case' inl=>refine A.u [.x 17 [] (v33 g o cap),.x 18 [(17,0)] (oZ g o),.x 19 [(18,1)] (.int .u8 2),.x 20 [(19,2)] (.bool false),.x 21 [(20,3)] (.bool false),⟨some 22,[],.v WJ,.pass⟩,⟨some 23,[],.v WJ,.pass⟩,⟨some 24,[],.v WJ,.pass⟩,⟨some 25,[],.v WJ,.pass⟩,.x 26 [(21,4),(25,8)] (.bool false)] [(0,.v (v33 g o cap)),(2,.p 0 0),(3,.v (.bool false)),(26,.v (.bool false))] ⟨st,eN rfl 23 17 (iZ 0) rfl (.v (v33 g o cap)) sx (λμ w=>Ek g o 33 cap dC w),bM rfl g o c U1 5 18 rfl (.int .u8 2) rfl sx (b.trans (by rw[j])) u5,st,st,dE rfl rfl,dE rfl rfl,dE rfl rfl,dE rfl rfl,st,yCm⟩ ?_
 case' inr=>refine A.U [.x (v33 g o cap),.x (oZ g o),.x (.int .u8 3),.x (.bool true),.x (.bool true),.x (v33 g o cap),.x (oZ g o),.x (.int .u8 3),.x (.bool false),.x (.bool false)] [0,2,3,26] ⟨st,eN rfl 23 17 (iZ 0) rfl (.v (v33 g o cap)) sx (λμ w=>Ek g o 33 cap dC w),bM rfl g o c U1 5 18 rfl (.int .u8 3) rfl sx (b.trans (by rw[j])) u5,st,st,st,eN rfl 23 22 (iZ 0) rfl (.v (v33 g o cap)) sx (λμ w=>Ek g o 33 cap dC w),bM rfl g o c U1 5 23 rfl (.int .u8 3) rfl sx (b.trans (by rw[j])) u5,st,st,yCm⟩ ?_
 all_goals
  intro Y V f;repeat refine UC ?_
  refine VJ f.ev ?_;refine WQ ?_;repeat refine UC ?_
  by_cases hx:beV (uL k).toList<P
  rotate_left
  ·rw[yCl hx];have B:∀w',BelX w.heap.size [] w w'->UK prog 59 #[gv0,.slice (some ⟨g,o+1,none⟩) 32 (cap-1)] w' (Ret λe z=>kZ w' z/\e=.tuple #[fv (0:Fin P),.bool false]):=λw' G=>Kt C (nR l) oM hx (Uz c G.size) (Holds.below (tl33_holds l J) G.below c)
   refine f.D [.c gv0,.x (v33 g o cap),.x (.slice (some ⟨g,o+1,none⟩) 32 (cap-1)),.c (.tuple #[fv (0:Fin P),.bool false]),.x (.tuple #[fv (0:Fin P),.bool false]),.x (fv (0:Fin P)),.x (.bool false),.m 1,.u 1,.x (.bool false)] [(7,RG.z 4)] [(1,8,ws (0:Fin P))] [RG.z 8,ws (0:Fin P)] [2,3,5] ⟨cl bO,st,uE rfl 23 30 (iZ 1) (v33 g o cap) (.slice (some ⟨g,o+1,none⟩) 32 (cap-1)) rfl rfl sx (QP g o cap hc),kK rfl 59 29 31 gv0 (.slice (some ⟨g,o+1,none⟩) 32 (cap-1)) (.tuple #[fv (0:Fin P),.bool false]) rfl (λa w=>kR) sx sx B,st,st,st,mk 1 47,RG.pt i85,st,yCm⟩ ?_;intro j5 W U t;repeat refine UC ?_
   refine t.U [.x (.bool false),.x (.bool true)] [2,3,36] ⟨st,st,yCm⟩ ?_;intro a6 w6 D;repeat refine UC ?_
   refine VH D.ev ?_;repeat refine UC ?_
   refine D.T [.x (pv (0:Fin P) (0:Fin P)),.u 0,.x (.bool false)] [] [(0,1,ws (0:Fin P)++(ws (0:Fin P)))] [ws (0:Fin P)++(ws (0:Fin P)),ws (0:Fin P)] [2,3] ⟨se (gI (P:=P)),RG.pt i109,st,yCm⟩ ?_;intro T X p;refine Wy ?_;refine UH (v:=(.tuple #[pv (0:Fin P) (0:Fin P),.bool false])) (cQ p.st 2 3 93 rfl 0 _ rfl (p.at (s:=(.p 0 0))) _ (p.at (s:=(.v (.bool false)))) gV i109) p.sl.defers ?_;exact⟨_,rfl,p.st.bel.below,rfl⟩
  rw[yCk hx];have E:beV (uL k).toList=(rdx P k).val:=(UU hx).symm;generalize rdx P k=x at E;have B:∀w',BelX w.heap.size [] w w'->UK prog 59 #[gv0,.slice (some ⟨g,o+1,none⟩) 32 (cap-1)] w' (Ret λe z=>kZ w' z/\e=.tuple #[fv x,.bool true]):=λw' G=>Ks C (nR l) oM E (Uz c G.size) (Holds.below (tl33_holds l J) G.below c)
  refine f.D [.c gv0,.x (v33 g o cap),.x (.slice (some ⟨g,o+1,none⟩) 32 (cap-1)),.c (.tuple #[fv x,.bool true]),.x (.tuple #[fv x,.bool true]),.x (fv x),.x (.bool true),.m 1,.u 1,.x (.bool true)] [(7,RG.z 4)] [(1,8,ws x)] [RG.z 8,ws x] [0,2,3,4,5] ⟨cl bO,st,uE rfl 23 30 (iZ 1) (v33 g o cap) (.slice (some ⟨g,o+1,none⟩) 32 (cap-1)) rfl rfl sx (QP g o cap hc),kK rfl 59 29 31 gv0 (.slice (some ⟨g,o+1,none⟩) 32 (cap-1)) (.tuple #[fv x,.bool true]) rfl (λa w=>kR) sx sx B,st,st,st,mk 1 47,RG.pt i85,st,yCm⟩ ?_;intro j5 W U t;repeat refine UC ?_
  refine t.U [.x (.bool true),.x (.bool false)] [0,2,3,4,5,36] ⟨st,st,yCm⟩ ?_;intro a6 w6 D;repeat refine UC ?_
  refine VJ D.ev ?_;refine WQ ?_;repeat refine UC ?_
  cases S:rt (x*x*x+7) with
  | none =>
   refine D.T [.x (fv x),.c (.tuple #[pv (0:Fin P) (0:Fin P),.bool false]),.x (.tuple #[pv (0:Fin P) (0:Fin P),.bool false]),.x (pv (0:Fin P) (0:Fin P)),.x (.bool false),.m 2,.u 2,.x (.bool false)] [(5,RG.z 8)] [(2,6,ws (0:Fin P)++(ws (0:Fin P)))] [RG.z 8,ws x,ws (0:Fin P)++(ws (0:Fin P))] [2,3,5,6] ⟨ld u85 i85,yL rfl 115 39 (fv x) (.tuple #[pv (0:Fin P) (0:Fin P),.bool false]) rfl (λa w=>kR) sx (Aq C x S),st,st,st,mk 2 93,RG.pt i109,st,yCm⟩ ?_;intro j7 T X p;repeat refine UC ?_
   refine p.u [.x 43 [] (.bool false),.x 44 [(43,0)] (.bool false),⟨some 45,[],.v WJ,.pass⟩,⟨some 46,[],.v WJ,.pass⟩,⟨some 47,[],.v WJ,.pass⟩,⟨some 48,[],.v WJ,.pass⟩,.x 49 [(44,1),(48,5)] (.bool false)] [(2,.p 0 0),(3,.v (.bool false)),(5,.v (.bool false)),(6,.p 2 0),(49,.v (.bool false))] ⟨st,st,dE rfl rfl,dE rfl rfl,dE rfl rfl,dE rfl rfl,st,yCm⟩ ?_;intro O w8 u;repeat refine UC ?_
   refine VJ u.ev ?_;refine WQ ?_;repeat refine UC ?_
   refine u.T [.x (pv (0:Fin P) (0:Fin P)),.x (.bool false),.u 0,.x (.bool false)] [] [(0,2,ws (0:Fin P)++(ws (0:Fin P)))] [ws (0:Fin P)++(ws (0:Fin P)),ws x,ws (0:Fin P)++(ws (0:Fin P))] [2,3] ⟨ld gV i109,st,RG.pt i109,st,yCm⟩ ?_;intro R Q d;refine Wy ?_;refine UH (v:=(.tuple #[pv (0:Fin P) (0:Fin P),.bool false])) (cQ d.st 2 3 93 rfl 0 _ rfl (d.at (s:=(.p 0 0))) _ (d.at (s:=(.v (.bool false)))) gV i109) d.sl.defers ?_;exact⟨_,rfl,d.st.bel.below,rfl⟩
  | some y =>
   refine D.T [.x (fv x),.c (.tuple #[pv x y,.bool true]),.x (.tuple #[pv x y,.bool true]),.x (pv x y),.x (.bool true),.m 2,.u 2,.x (.bool true)] [(5,RG.z 8)] [(2,6,ws x++(ws y))] [RG.z 8,ws x,ws x++(ws y)] [0,2,3,5,6] ⟨ld u85 i85,yL rfl 115 39 (fv x) (.tuple #[pv x y,.bool true]) rfl (λa w=>kR) sx (Ap C x y S),st,st,st,mk 2 93,RG.pt i109,st,yCm⟩ ?_;intro j7 T X p;repeat refine UC ?_
   rw[Yj];by_cases I:ub k[0]! = 3
   ·rw[yCk I];generalize L:0-y=r;have q:Gives 227 #[pv x y] (pv x r):=L ▸ OX C x y;refine p.U [.x (.bool true),.x (.bool true),.x (v33 g o cap),.x (oZ g o),.x (.int .u8 3),.x (.bool true),.x (.bool true)] [2,3,5,6,49] ⟨st,st,st,eN rfl 23 45 (iZ 0) rfl (.v (v33 g o cap)) sx (λμ w=>Ek g o 33 cap dC w),bM rfl g o c U1 5 46 rfl (.int .u8 3) rfl sx (b.trans (by rw[I])) u5,st,st,yCm⟩ ?_;intro O w8 u;repeat refine UC ?_
    refine VH u.ev ?_;repeat refine UC ?_
    refine u.T [.x (pv x y),.c (pv x r),.u 2] [] [(2,2,ws x++(ws r))] [RG.z 8,ws x,ws x++(ws r)] [2,3,5,6] ⟨ld gV i109,cl q,RG.pt i109,yCm⟩ ?_;intro R Q d;repeat refine UC ?_
    refine d.T [.x (pv x r),.x (.bool true),.u 0,.x (.bool true)] [] [(0,2,ws x++(ws r))] [ws x++(ws r),ws x,ws x++(ws r)] [2,3] ⟨ld gV i109,st,RG.pt i109,st,yCm⟩ ?_;intro h1 h0 i;refine Wy ?_;refine UH (v:=(.tuple #[pv x r,.bool true])) (cQ i.st 2 3 93 rfl 0 _ rfl (i.at (s:=(.p 0 0))) _ (i.at (s:=(.v (.bool true)))) gV i109) i.sl.defers ?_;exact⟨_,rfl,i.st.bel.below,rfl⟩
   ·rw[yCl I];have Z:ub k[0]! = 2:=oM;refine p.U [.x (.bool true),.x (.bool true),.x (v33 g o cap),.x (oZ g o),.x (.int .u8 2),.x (.bool false),.x (.bool false)] [2,3,5,6,49] ⟨st,st,st,eN rfl 23 45 (iZ 0) rfl (.v (v33 g o cap)) sx (λμ w=>Ek g o 33 cap dC w),bM rfl g o c U1 5 46 rfl (.int .u8 2) rfl sx (b.trans (by rw[Z])) u5,st,st,yCm⟩ ?_;intro O w8 u;repeat refine UC ?_
    refine VJ u.ev ?_;refine WQ ?_;repeat refine UC ?_
    refine u.T [.x (pv x y),.x (.bool true),.u 0,.x (.bool true)] [] [(0,2,ws x++(ws y))] [ws x++(ws y),ws x,ws x++(ws y)] [2,3] ⟨ld gV i109,st,RG.pt i109,st,yCm⟩ ?_;intro R Q d;refine Wy ?_;refine UH (v:=(.tuple #[pv x y,.bool true])) (cQ d.st 2 3 93 rfl 0 _ rfl (d.at (s:=(.p 0 0))) _ (d.at (s:=(.v (.bool true)))) gV i109) d.sl.defers ?_;exact⟨_,rfl,d.st.bel.below,rfl⟩
def Arg33(w:Ut)(v:Uv)(k:Bs):Prop:=∃(p:Option Wv) (n cap:Nat),v=.slice p n cap/\k.size=n/\(n=33->∃g o,p=some ⟨g,o,none⟩/\33<=cap/\g<w.heap.size/\Holds encB w g o k)
theorem Arg33.below{w k:Ut}{v:Uv}{b:Bs}(h:Arg33 w v b)(c:kZ w k):Arg33 k v b:=by
 obtain⟨p,n,cap,rfl,e,j⟩:=h;refine⟨p,n,cap,rfl,e,λm=>?_⟩;obtain⟨g,o,i,l,d,f⟩:=j m;exact⟨g,o,i,l,Uz d c.size,Holds.below f c d⟩
theorem mY(C:Fld P)(v:Uv)(k:Bs)(w:Ut)(hv:Arg33 w v k):UK prog 193 #[v] w (rZ w λe w'=>e=rdV (rd P k)):=by
 obtain⟨p,n,cap,rfl,c,f⟩:=hv;by_cases b:n=33
 ·subst b;obtain⟨g,o,rfl,j,d,i⟩:=f rfl;exact TD C g o cap k w c j d i
 ·unfold rd;rw[yCl (by rw[c];exact b)];exact OR C p n cap 0 w b
end
section
open Go.RowKit Go.Sort Go.Deep
variable {P:Nat}[NeZero P]{N:Nat}
def bx(n:Nat):Bs:=be32 (n%18446744073709551616) (n/18446744073709551616%18446744073709551616) (n/340282366920938463463374607431768211456%18446744073709551616) (n/6277101735386680763835789423207666416102355444464034512896%18446744073709551616)
theorem eE(n:Nat):(bx n).size=32:=by unfold bx;exact Am _ _ _ _
def mark(n:Nat):UInt8:=if n%2=1 then 3 else 2
def tC(x y:Fin P):Bs:=if x=0/\y=0 then UM 33 0 else #[mark y.val]++bx x.val
theorem Gg(C:Fld P)(x:Fin P)(w:Ut):UK prog 117 #[fv x] w (rZ w λe w'=>∃g,e=sZ g 32 32/\w.heap.size<=g/\Holds encB w' g 0 (bx x.val)):=
 (Au _ _ w (C.four x)).mono (by
  rintro e w' ⟨v,rfl,i,g,a,b,c,d,rfl,f,k,l⟩;refine⟨_,rfl,i,g,rfl,f,?_⟩;have j:fv x=.agg #[uZ ((x.val%18446744073709551616:Nat):Int),uZ ((x.val/18446744073709551616%18446744073709551616:Nat):Int),uZ ((x.val/340282366920938463463374607431768211456%18446744073709551616:Nat):Int),uZ ((x.val/6277101735386680763835789423207666416102355444464034512896%18446744073709551616:Nat):Int)]:=rfl;rw[j]at k;simp only[Value.agg.injEq,Array.mk.injEq,yB9.injEq,V2.injEq,true_and,and_true,Int.ofNat_inj]at k;obtain⟨rfl,rfl,rfl,rfl⟩:=k;exact l)
theorem Oe(C:Fld P)(y:Fin P):Gives 116 #[fv y] (.bool (decide (y.val%2=1))):=λw =>
 (Gc _ _ (C.four y) w).mono (by rintro e w' ⟨v,rfl,k,rfl⟩;exact⟨_,rfl,k,rfl⟩)
theorem DR:(prog.info? 5).map (λi=>(i.zero,i.size,i.bytes))=some (some (.int .u8 0),1,1):=kR
theorem H6:prog.underlying 23=some (.slice 5):=kR
def mK(w:Ut)(T:Bs)(e:Uv)(w':Ut):Prop:=∃g cap,e=sZ g 33 cap/\33<=cap/\w.heap.size<=g/\g<w'.heap.size/\Holds encB w' g 0 T
theorem TQ(w:Ut):(Xx 23 (iZ 33) (iZ 33)).run prog w=.ok (sZ w.heap.size 33 33) (w.alloc (.cells (madeCells #[.int .u8 0] 33) 5)):=
 yBK (P:=prog) 23 5 (.int .u8 0) 1 H6 DR rfl .i64 .i64 33 dC dC w
theorem Po(w:Ut)(o:Obj):Holds encB ((w.alloc o).alloc (.cells (madeCells #[.int .u8 0] 33) 5)) (w.heap.size+1) 0 (UM 33 0):=by
 have h:=Holds.made (enc:=encB) (w.alloc o) 5 33 (0:UInt8);rw[UD]at h;exact h
omit [NeZero P] in
theorem kU(x y:Fin P):pv x y=.agg #[uZ ((x.val%18446744073709551616:Nat):Int),uZ ((x.val/18446744073709551616%18446744073709551616:Nat):Int),uZ ((x.val/340282366920938463463374607431768211456%18446744073709551616:Nat):Int),uZ ((x.val/6277101735386680763835789423207666416102355444464034512896%18446744073709551616:Nat):Int),uZ ((y.val%18446744073709551616:Nat):Int),uZ ((y.val/18446744073709551616%18446744073709551616:Nat):Int),uZ ((y.val/340282366920938463463374607431768211456%18446744073709551616:Nat):Int),uZ ((y.val/6277101735386680763835789423207666416102355444464034512896%18446744073709551616:Nat):Int)]:=rfl
theorem Ec(C:Fld P)(x y:Fin P)(g:x=0/\y=0)(w:Ut):UK prog 52 #[pv x y] w (rZ w λe w'=>mK w (UM 33 0) e w'):=by
 have k:=JE C (x:=x) (y:=y) (z:=0) (t:=0) g;rw[<-gI,kU]at k;rw[kU];generalize ((x.val%18446744073709551616:Nat):Int)=a at k⊢;generalize ((x.val/18446744073709551616%18446744073709551616:Nat):Int)=b at k⊢;generalize ((x.val/340282366920938463463374607431768211456%18446744073709551616:Nat):Int)=c at k⊢;generalize ((x.val/6277101735386680763835789423207666416102355444464034512896%18446744073709551616:Nat):Int)=d at k⊢;generalize ((y.val%18446744073709551616:Nat):Int)=p at k⊢;generalize ((y.val/18446744073709551616%18446744073709551616:Nat):Int)=q at k⊢;generalize ((y.val/340282366920938463463374607431768211456%18446744073709551616:Nat):Int)=r at k⊢;generalize ((y.val/6277101735386680763835789423207666416102355444464034512896%18446744073709551616:Nat):Int)=s at k⊢;have j:=TQ;generalize i:(UM 33 0:Bs)=T;go_enter func52,ntmps52;go_wp2;go_ret;have f:=Po w (.cells #[uZ a,uZ b,uZ c,uZ d,uZ p,uZ q,uZ r,uZ s] 93);rw[i]at f;exact⟨_,rfl,below2 _ _ _,_,33,rfl,oM,oM,by simp,f⟩
theorem Js(w:Ut)(k g m:Nat)(B:Bs)(l:B.size=32)(p:w.cell? ⟨k,0,none⟩=some (.int .u8 m))(o:Holds encB w g 0 B)(r:m<256:=by decide):
 ∃(w':Ut) (cap:Nat),(Vx #[23,23] 23 #[sZ k 1 1,sZ g 32 32]).run prog w=.ok (sZ w.heap.size 33 cap) w'/\kZ w w'/\33<=cap/\w.heap.size<w'.heap.size/\Holds encB w' w.heap.size 0 (#[UQ m]++B):=by
 obtain⟨i,s,d⟩:=UA.1 DR;simp only[We.injEq]at d;obtain⟨n,f,q⟩:=d;have e:=run_append_grow (P:=prog) w 23 23 5 i (.int .u8 0) H6 s n (aZ k) 1 1 [.int .u8 m] (by rw[f];rfl) (λj v b=>by
  cases j with
  | zero =>
   obtain rfl:V2 .u8 m=v:=by simpa using b
   rw[yBN];exact p
  | succ j=>simp at b) ⟨g,0,none⟩ 32 32 (B.toList.map encB) (by rw[f,US,UL,l]) (λj v b=>by
  have c:j<B.size:=by
   have:=(UG.1 b).1;rwa[US,UL]at this
  rw[yBN,(o j c).1];rw[Vy,Vt,UZ c]at b;rw[getElem!_pos B j c];exact b) dC dC (by rw[q];decide)
 refine⟨_,_,e,?_,?_,?_,?_⟩
 ·exact(UT _ w).drew.trans (aC w.drew _)
 ·exact grownCap_ge w (1+32) 1 5
 ·show w.drew.heap.size<(w.drew.alloc _).heap.size;rw[UD];exact XZ _
 ·intro j b;have c:(#[UQ m]++B).size=33:=by rw[VP,l];rfl
  refine⟨?_,Wq w.drew _ _ _⟩;show(w.drew.alloc _).cell? ⟨w.drew.heap.size,0+j,none⟩=_;rw[UF,Ve,getElem!_pos _ j b,X7 (by
   rw[VP,VE,VE,US,UL];show j<1+B.size;omega)]
  cases j with
  | zero =>
   rw[X7 (by simp),YY (by simp)];show some (V2 .u8 m)=some (encB (UQ m));unfold encB;rw[mP,UU r]
  | succ i =>
   rw[YN (by simp),Z8 (by simp),Vm,Vy,Vt];show Option.map encB B[i]? = some (encB B[i]);rw[UZ oM];rfl
theorem NI(w:Ut)(a b c d p q r s:Nat):Kept w w.heap.size [⟨w.heap.size,0,a,b,c,d⟩,⟨w.heap.size,4,p,q,r,s⟩] (w.alloc (.cells #[uZ a,uZ b,uZ c,uZ d,uZ p,uZ q,uZ r,uZ s] 93)):=by
 have F:=At8.made w 93 a b c d p q r s rfl;refine((Kept.mk1 (aC w _) (aC w _).size).cons ?_).cons ?_
 ·exact⟨F.c4,F.c5,F.c6,F.c7,F.fz⟩
 ·exact⟨F.c0,F.c1,F.c2,F.c3,F.fz⟩
theorem G7(C:Fld P)(x y:Fin P)(K:¬(x=0/\y=0))(ho:y.val%2=1)(w:Ut):UK prog 52 #[pv x y] w (rZ w λe w'=>mK w (#[3]++bx x.val) e w'):=by
 have k:=DY C (x:=x) (y:=y) (z:=0) (t:=0) K;rw[<-gI,kU]at k;rw[kU];have i:∀w,UK prog 116 #[.agg #[uZ ((y.val%18446744073709551616:Nat):Int),uZ ((y.val/18446744073709551616%18446744073709551616:Nat):Int),uZ ((y.val/340282366920938463463374607431768211456%18446744073709551616:Nat):Int),uZ ((y.val/6277101735386680763835789423207666416102355444464034512896%18446744073709551616:Nat):Int)]] w (rZ w λe w'=>e=.bool true):=λw=>by
  have h:=Oe C y w;rw[decide_eq_true ho]at h;exact h
 have f:∀w,UK prog 117 #[.agg #[uZ ((x.val%18446744073709551616:Nat):Int),uZ ((x.val/18446744073709551616%18446744073709551616:Nat):Int),uZ ((x.val/340282366920938463463374607431768211456%18446744073709551616:Nat):Int),uZ ((x.val/6277101735386680763835789423207666416102355444464034512896%18446744073709551616:Nat):Int)]] w (rZ w λe w'=>∃g,e=sZ g 32 32/\w.heap.size<=g/\Holds encB w' g 0 (bx x.val)):=Gg C x;have m:=eE x.val;generalize bx x.val=B at f m⊢;generalize x.val%18446744073709551616=a at k i f⊢;generalize x.val/18446744073709551616%18446744073709551616=b at k i f⊢;generalize x.val/340282366920938463463374607431768211456%18446744073709551616=c at k i f⊢;generalize x.val/6277101735386680763835789423207666416102355444464034512896%18446744073709551616=d at k i f⊢;generalize y.val%18446744073709551616=p at k i f⊢;generalize y.val/18446744073709551616%18446744073709551616=q at k i f⊢;generalize y.val/340282366920938463463374607431768211456%18446744073709551616=r at k i f⊢;generalize y.val/6277101735386680763835789423207666416102355444464034512896%18446744073709551616=s at k i f⊢;have W:=mk1 (k);go_enter func52,ntmps52;go_wp2_with fail
 have l:=NI w a b c d p q r s;generalize I:w.heap.size=V at l⊢;refine(i _).mono ?_;rintro e u ⟨v,rfl,G,rfl⟩;replace l:=l.call G;obtain⟨R,N,L,O,X⟩:=l.head;have zx:=l.head.lt;go_wp2_with fail
 refine(f _).mono ?_;rintro e J ⟨v,rfl,j,g,rfl,T,M⟩;have Q:J.cell? ⟨u.heap.size,0,none⟩=some (.int .u8 3):=by
  rw[j.cell (p:=⟨u.heap.size,0,none⟩) (by show u.heap.size<_;rw[UD];omega),Ve];rfl
 have n:=UE l.le (UE (by rw[UD];omega) j.size);have D:=mk1 (((l.alloc _).call j).bl);obtain⟨U,S,E,A,F,o,H⟩:=Js J u.heap.size g 3 B m Q M;go_wp2_with (at_builtin;refine WG _ rfl _ _ 23 23 rfl _ _ rfl rfl _ _ E ?_)
 go_ret;refine⟨_,rfl,?_,_,S,rfl,F,?_,o,H⟩
 ·rw[I];exact D.trans (A.mono n)
 ·rw[I];exact n
theorem Ee(C:Fld P)(x y:Fin P)(K:¬(x=0/\y=0))(ho:¬y.val%2=1)(w:Ut):UK prog 52 #[pv x y] w (rZ w λe w'=>mK w (#[2]++bx x.val) e w'):=by
 have k:=DY C (x:=x) (y:=y) (z:=0) (t:=0) K;rw[<-gI,kU]at k;rw[kU];have i:∀w,UK prog 116 #[.agg #[uZ ((y.val%18446744073709551616:Nat):Int),uZ ((y.val/18446744073709551616%18446744073709551616:Nat):Int),uZ ((y.val/340282366920938463463374607431768211456%18446744073709551616:Nat):Int),uZ ((y.val/6277101735386680763835789423207666416102355444464034512896%18446744073709551616:Nat):Int)]] w (rZ w λe w'=>e=.bool false):=λw=>by
  have h:=Oe C y w;rw[decide_eq_false ho]at h;exact h
 have f:∀w,UK prog 117 #[.agg #[uZ ((x.val%18446744073709551616:Nat):Int),uZ ((x.val/18446744073709551616%18446744073709551616:Nat):Int),uZ ((x.val/340282366920938463463374607431768211456%18446744073709551616:Nat):Int),uZ ((x.val/6277101735386680763835789423207666416102355444464034512896%18446744073709551616:Nat):Int)]] w (rZ w λe w'=>∃g,e=sZ g 32 32/\w.heap.size<=g/\Holds encB w' g 0 (bx x.val)):=Gg C x;have m:=eE x.val;generalize bx x.val=B at f m⊢;generalize x.val%18446744073709551616=a at k i f⊢;generalize x.val/18446744073709551616%18446744073709551616=b at k i f⊢;generalize x.val/340282366920938463463374607431768211456%18446744073709551616=c at k i f⊢;generalize x.val/6277101735386680763835789423207666416102355444464034512896%18446744073709551616=d at k i f⊢;generalize y.val%18446744073709551616=p at k i f⊢;generalize y.val/18446744073709551616%18446744073709551616=q at k i f⊢;generalize y.val/340282366920938463463374607431768211456%18446744073709551616=r at k i f⊢;generalize y.val/6277101735386680763835789423207666416102355444464034512896%18446744073709551616=s at k i f⊢;have W:=mk1 (k);go_enter func52,ntmps52;go_wp2_with fail
 have l:=NI w a b c d p q r s;generalize I:w.heap.size=V at l⊢;refine(i _).mono ?_;rintro e u ⟨v,rfl,G,rfl⟩;replace l:=l.call G;obtain⟨R,N,L,O,X⟩:=l.head;have zx:=l.head.lt;go_wp2_with fail
 refine(f _).mono ?_;rintro e J ⟨v,rfl,j,g,rfl,T,M⟩;have Q:J.cell? ⟨u.heap.size,0,none⟩=some (.int .u8 2):=by
  rw[j.cell (p:=⟨u.heap.size,0,none⟩) (by show u.heap.size<_;rw[UD];omega),Ve];rfl
 have n:=UE l.le (UE (by rw[UD];omega) j.size);have D:=mk1 (((l.alloc _).call j).bl);obtain⟨U,S,E,A,F,o,H⟩:=Js J u.heap.size g 2 B m Q M;go_wp2_with (at_builtin;refine WG _ rfl _ _ 23 23 rfl _ _ rfl rfl _ _ E ?_)
 go_ret;refine⟨_,rfl,?_,_,S,rfl,F,?_,o,H⟩
 ·rw[I];exact D.trans (A.mono n)
 ·rw[I];exact n
theorem vJ(C:Fld P)(x y:Fin P)(w:Ut):UK prog 52 #[pv x y] w (rZ w λe w'=>mK w (tC x y) e w'):=by
 unfold tC mark;by_cases k:x=0/\y=0
 ·rw[yCk k];exact Ec C x y k w
 ·rw[yCl k];by_cases ho:y.val%2=1
  ·rw[yCk ho];exact G7 C x y k ho w
  ·rw[yCl ho];exact Ee C x y k ho w
theorem u23:(prog.underlying 23).map (·.isRow)=some false:=kR
theorem Nl(k o n c i:Nat)(b:i<n)(w:Ut):(Vj 24 (.slice (some ⟨k,o,none⟩) n c) (iZ i)).run prog w=.ok (.pointer (some ⟨k,o+i,none⟩)) w:=by
 go_simp
theorem RH(N:Nat)(g:N<=512):∃C0:List Uv,C0.length=8*N/\∀w:Ut,(Xx 100 (iZ N) (iZ N)).run prog w=.ok (sZ w.heap.size N N) (w.alloc (.cells C0.toArray 93)):=by
 have c:prog.underlying 100=some (.slice 93):=kR;have l:(prog.info? 93).map (λi=>(i.size,decide (i.bytes<=4000),i.zero.isSome))=some (8,true,true):=kR;obtain⟨i,b,k⟩:=UA.1 l;simp only[We.injEq,decide_eq_true_eq]at k;obtain⟨m,n,j⟩:=k;obtain⟨z,e⟩:=Vu.1 j;refine⟨(madeCells z.cells (N*8)).toList,by rw[UL,Zp,Vv],λw=>?_⟩;have f:(i.bytes:Int)*(N:Int)<=281474976710656:=by
  have:i.bytes*N<=4000*512:=WP n g;have d:((i.bytes*N:Nat):Int)<=281474976710656:=oM;rwa[XD]at d
 have:=run_make (P:=prog) w 100 93 i z c b e .i64 .i64 (N:Int) (N:Int) oM oM f oM;rw[YF,m]at this;rw[Yb];exact this
theorem TP(N:Nat)(g:N<=512):∃C0:List Uv,C0.length=4*N/\∀w:Ut,(Xx 89 (iZ N) (iZ N)).run prog w=.ok (sZ w.heap.size N N) (w.alloc (.cells C0.toArray 47)):=by
 have c:prog.underlying 89=some (.slice 47):=kR;have l:(prog.info? 47).map (λi=>(i.size,decide (i.bytes<=4000),i.zero.isSome))=some (4,true,true):=kR;obtain⟨i,b,k⟩:=UA.1 l;simp only[We.injEq,decide_eq_true_eq]at k;obtain⟨m,n,j⟩:=k;obtain⟨z,e⟩:=Vu.1 j;refine⟨(madeCells z.cells (N*4)).toList,by rw[UL,Zp,Vv],λw=>?_⟩;have f:(i.bytes:Int)*(N:Int)<=281474976710656:=by
  have:i.bytes*N<=4000*512:=WP n g;have d:((i.bytes*N:Nat):Int)<=281474976710656:=oM;rwa[XD]at d
 have:=run_make (P:=prog) w 89 47 i z c b e .i64 .i64 (N:Int) (N:Int) oM oM f oM;rw[YF,m]at this;rw[Yb];exact this
structure Rows(sz N:Nat)(cell:Nat->List Uv)(m:Nat)(C:List Uv):Prop where
 len:C.length=sz*N
 row:∀j r,j<m->r<sz->C[sz*j+r]? = (cell j)[r]?
theorem Rows.next{sz N m:Nat}{cell:Nat->List Uv}(h:Rows sz N cell m C)(f:m<N)(b:(cell m).length=sz):Rows sz N cell (m+1) (rep C (0+sz*m) (cell m)):=by
 have k:=h.len;have g:sz*m+sz<=sz*N:=by rw[<-Yk];exact XU _ f
 have d:0+sz*m+(cell m).length<=C.length:=by rw[b];omega
 refine⟨by rw[cU d];exact k,λj r i e=>?_⟩;rw[RG.rep_at d];by_cases c:j=m
 ·subst c;rw[yCk (by rw[b];omega),show sz*j+r-(0+sz*j)=r by omega]
 ·have l:sz*j+sz<=sz*m:=by rw[<-Yk];exact XU _ oM
  rw[yCl (by rw[b];omega)];exact h.row j r oM e
def rq(N:Nat)(k:Bs):Option Nat:=if k.size=32/\beV k.toList<N then some (beV k.toList) else none
def rqV:Option Nat->Uv
 | none=>.tuple #[nv 0,.bool false]
 | some n=>.tuple #[nv n,.bool true]
theorem fJ:Gives 58 #[] gv1:=λw=>(CV w).mono (by rintro e w' ⟨rfl,rfl⟩;exact⟨_,rfl,aC _ _,rfl⟩)
theorem AN{N:Nat}(hG:Gap 4624529908474429119 4994812053365940164 1 N)(v:Uv)(c:Bs)(w:Ut)(hv:Arg w v c):UK prog 59 #[gv1,v] w (rZ w λe w'=>e=rqV (rq N c)):=by
 obtain⟨p,n,cap,rfl,b,j⟩:=hv;unfold rq;by_cases d:n=32
 ·subst d;obtain⟨g,o,rfl,l,q,i⟩:=j rfl;refine(yW _ _ _ N g o cap c hG w b l q i).mono ?_;rintro e w' ⟨v,rfl,k,⟨f,r,rfl,m⟩|⟨f,rfl⟩⟩
  ·rw[yCk ⟨b,f⟩];exact⟨_,rfl,k,by rw[m.nv];rfl⟩
  ·rw[yCl (λh=>oM)];exact⟨_,rfl,k,rfl⟩
 ·refine(Ku _ p n cap w _ _ _ rfl d).mono ?_;rintro e w' ⟨v,rfl,k,rfl⟩;rw[yCl (λh=>d (b.symm.trans h.1))];exact⟨_,rfl,k,rfl⟩
end
section
open Go.RowKit Go.Sort
variable {P:Nat}[NeZero P]{N:Nat}
structure RefP(p0 p1 p2 p3 c0 c1 c2 c3 P:Nat):Prop where
 hp0:p0<18446744073709551616
 hp1:p1<18446744073709551616
 hp2:p2<18446744073709551616
 hp3:p3<18446744073709551616
 hc0:c0<18446744073709551616
 hc1:c1<18446744073709551616
 hc2:c2<18446744073709551616
 hc3:c3<18446744073709551616
 eP:P=val p0 p1 p2 p3
 hP:P+val c0 c1 c2 c3=top
 hP2:top<2*P
theorem QX:RefP 13822214165235122497 13451932020343611451 18446744073709551614 18446744073709551615 4624529908474429119 4994812053365940164 1 0 Go.Proofs.YtdoammpgchejcaaGreat.p1:=
 ⟨dC,dC,dC,dC,dC,dC,dC,dC,dK,dK,dK⟩
def Us(v:Uv)(n:Nat):Prop:=∃a b c d k f g e:Nat,v=.agg #[uZ a,uZ b,uZ c,uZ d,uZ k,uZ f,uZ g,uZ e] /\
 a<18446744073709551616/\b<18446744073709551616/\c<18446744073709551616/\d<18446744073709551616/\k<18446744073709551616/\f<18446744073709551616/\g<18446744073709551616/\e<18446744073709551616 /\
 n=val a b c d+top*val k f g e
end
section
open Go.RowKit Go.Sort Go.Deep
variable {P:Nat}[NeZero P]{N:Nat}
def wordOf(a b c d k:Nat):Nat:=if k<8 then a else if k<16 then b else if k<24 then c else d
end
section
open Go.RowKit Go.Sort Go.Deep
structure Ord(N:Nat):Prop where
 gap:Gap 4624529908474429119 4994812053365940164 1 N
 ref:RefP 13822214165235122497 13451932020343611451 18446744073709551614 18446744073709551615 4624529908474429119 4994812053365940164 1 0 N
 le:N<=top
 n2:2<=N%18446744073709551616
variable {N:Nat}
theorem Ord.pos(O:Ord N):0<N:=by have:=O.n2;omega
theorem Ord.four(O:Ord N){a:Nat}(h:a<N):Four (nv a) a:=vE (Uz h O.le)
def sMi(N a b:Nat):Nat:=(a+N-b)%N
def sTi(N a b:Nat):Nat:=a*b%N
def sIn(N a:Nat):Nat:=a^(N-2)%N
theorem Iy(O:Ord N){a b:Nat}(c:a<N)(k:b<N):Gives 198 #[gv1,nv a,nv b] (nv (sMi N a b)):=λw =>
 (tJ _ _ _ N _ _ a b O.gap (O.four c) (O.four k) c k w).mono (by rintro e w' ⟨v,rfl,k,d⟩;exact⟨_,rfl,k,d.nv⟩)
theorem Ix(O:Ord N){a b:Nat}(c:a<N)(k:b<N):Gives 154 #[gv1,nv a,nv b] (nv (sTi N a b)):=λw =>
 (oN _ _ _ N _ _ a b O.gap (O.four c) (O.four k) w).mono (by rintro e w' ⟨v,rfl,k,d⟩;exact⟨_,rfl,k,d.nv⟩)
theorem OP(O:Ord N){a:Nat}(b:a<N):Gives 185 #[gv1,nv a] (nv (sIn N a)):=λw =>
 (uI _ _ _ N _ a O.gap O.n2 (O.four b) w).mono (by rintro e w' ⟨v,rfl,k,c⟩;exact⟨_,rfl,k,c.nv⟩)
theorem I2{a x y z u:Nat}(h:nv a=.agg #[uZ x,uZ y,uZ z,uZ u]):be32 x y z u=bx a:=by
 have k:wn a=[uZ x,uZ y,uZ z,uZ u]:=by
  unfold nv at h;injection h with h
  exact congrArg Array.toList h
 unfold wn at k;simp only[yB9.injEq,V2.injEq,true_and,and_true,Int.natCast_inj]at k;obtain⟨rfl,rfl,rfl,rfl⟩:=k;rfl
def cb(b:Bs):List Uv:=b.toList.map encB
theorem oJ(b:Bs):(cb b).length=b.size:=by unfold cb;rw[US,UL]
theorem rK{w:Ut}{b:Bs}(h:Holds encB w g 0 b):w.rangeAt g 0 (cb b)/\w.there g 0 (cb b).length:=by
 refine⟨λj v hv=>?_,λj k=>?_⟩
 ·have k:j<b.size:=by rw[<-oJ];exact(UG.1 hv).1
  rw[(h j k).1];unfold cb at hv;rw[Vy,Vt,UZ k]at hv;rw[getElem!_pos b j k];exact hv
 ·rw[oJ]at k;exact⟨by rw[(h j k).1];rfl,(h j k).2⟩
theorem cb_holds{w:Ut}{b:Bs}(c:w.rangeAt g 0 (cb b))(d:w.there g 0 (cb b).length):Holds encB w g 0 b:=λj k=>by
 refine⟨c j _ ?_,(d j (by rw[oJ];exact k)).2⟩;unfold cb;rw[Vy,Vt,UZ k,getElem!_pos b j k];rfl
def KJ(f:FuncId)(args:Array Uv)(b:Bs)(n:Nat):Prop:=∀w,UK prog f args w (Ret λe w'=>∃k,Made w k (cb b) w'/\e=sZ k n n)
theorem Iz(O:Ord N){a:Nat}(f:a<N):KJ 117 #[nv a] (bx a) 32:=λw =>
 (Au _ a w (O.four f)).mono (by
  rintro e w' ⟨v,rfl,j,g,x,y,z,u,rfl,b,d,k⟩;rw[I2 d]at k;obtain⟨c,i⟩:=rK k;exact⟨_,rfl,g,⟨j,b,Holds.lt k (by rw[eE];omega),c,i⟩,rfl⟩)
end
section
open Go.RowKit Go.Sort Go.Deep
variable {P:Nat}[NeZero P]{N:Nat}
theorem Ub(a b c d p q r s:Nat)(w:Ut):(binOp .eql 49 (.agg #[uZ a,uZ b,uZ c,uZ d]) (.agg #[uZ p,uZ q,uZ r,uZ s])).run prog w=.ok (.bool (decide (a=p/\b=q/\c=r/\d=s))) w:=by
 go_simp;rw[Fv 9997,Vr];by_cases k:a=p/\b=q/\c=r/\d=s
 ·rw[decide_eq_true k];obtain⟨rfl,rfl,rfl,rfl⟩:=k;simp
 ·have e:(decide (a=p) && (decide (b=q) && (decide (c=r) && decide (d=s))))=false:=by
   rw[<-Bool.not_eq_true,UN,UN,UN];simpa using k
  rw[decide_eq_false k,e];simp
theorem eqS{a b:Nat}(c:a<top)(k:b<top)(w:Ut):(binOp .eql 49 (nv a) (nv b)).run prog w=.ok (.bool (decide (a=b))) w:=by
 refine(Ub (a%18446744073709551616) (a/18446744073709551616%18446744073709551616) (a/340282366920938463463374607431768211456%18446744073709551616) (a/6277101735386680763835789423207666416102355444464034512896%18446744073709551616) (b%18446744073709551616) (b/18446744073709551616%18446744073709551616) (b/340282366920938463463374607431768211456%18446744073709551616) (b/6277101735386680763835789423207666416102355444464034512896%18446744073709551616) w).trans ?_;simp only[AA c k]
theorem u40:(prog.underlying 49).map (·.isRow)=some true:=kR
theorem i40:(prog.info? 49).map (·.size)=some 4:=kR
theorem u38:(prog.underlying 47).map (·.isRow)=some true:=kR
theorem i38:(prog.info? 47).map (·.size)=some 4:=kR
theorem Dn(O:Ord N)(a b:Nat)(e:a<N)(c:b<N):Gives 131 #[(nv a),(nv b)] (nv (sMi N a b)):=by
 intro w;go_enter func131,ntmps131;refine RG.M.enter [(0,.v (nv a)),(1,.v (nv b))] 12 kR ?_;intro a0 f;repeat refine UC ?_
 refine f.T [.m 0,.m 1,.m 2] [(0,wn a),(1,wn b),(2,RG.z 4)] [] [wn a,wn b,RG.z 4] [2,3,4] ⟨mk 0 49,mk 1 49,mk 2 49,yCm⟩ ?_;intro l n g j i d;repeat refine UC ?_
 refine d.D [.c gv1,.s (.p 0 0),.x (nv a),.s (.p 1 0),.x (nv b),.c (nv (sMi N a b)),.x (nv (sMi N a b)),.u 2] [] [(2,7,wn (sMi N a b))] [wn a,wn b,wn (sMi N a b)] [4] ⟨cl fJ,st,ld u38 i38,st,ld u38 i38,cl (Iy O e c),st,RG.pt i40,yCm⟩ ?_;intro a2 m k;refine Wy ?_;refine UH (v:=(nv (sMi N a b))) (aI k.st 4 49 rfl 2 _ rfl (k.at (s:=(.p 2 0))) u40 i40) k.sl.defers ?_;exact⟨_,rfl,k.st.bel.below,rfl⟩
theorem iJ(O:Ord N)(a b:Nat)(e:a<N)(c:b<N):Gives 79 #[(nv a),(nv b)] (nv (sTi N a b)):=by
 intro w;go_enter func79,ntmps79;refine RG.M.enter [(0,.v (nv a)),(1,.v (nv b))] 12 kR ?_;intro a0 f;repeat refine UC ?_
 refine f.T [.m 0,.m 1,.m 2] [(0,wn a),(1,wn b),(2,RG.z 4)] [] [wn a,wn b,RG.z 4] [2,3,4] ⟨mk 0 49,mk 1 49,mk 2 49,yCm⟩ ?_;intro l n g j i d;repeat refine UC ?_
 refine d.D [.c gv1,.s (.p 0 0),.x (nv a),.s (.p 1 0),.x (nv b),.c (nv (sTi N a b)),.x (nv (sTi N a b)),.u 2] [] [(2,7,wn (sTi N a b))] [wn a,wn b,wn (sTi N a b)] [4] ⟨cl fJ,st,ld u38 i38,st,ld u38 i38,cl (Ix O e c),st,RG.pt i40,yCm⟩ ?_;intro a2 m k;refine Wy ?_;refine UH (v:=(nv (sTi N a b))) (aI k.st 4 49 rfl 2 _ rfl (k.at (s:=(.p 2 0))) u40 i40) k.sl.defers ?_;exact⟨_,rfl,k.st.bel.below,rfl⟩
theorem uR(O:Ord N)(a:Nat)(c:a<N):Gives 159 #[(nv a)] (nv (sIn N a)):=by
 intro w;go_enter func159,ntmps159;refine RG.M.enter [(0,.v (nv a))] 8 kR ?_;intro a0 d;repeat refine UC ?_
 refine d.T [.m 0,.m 1] [(0,wn a),(1,RG.z 4)] [] [wn a,RG.z 4] [1,2] ⟨mk 0 49,mk 1 49,yCm⟩ ?_;intro f j i e b;repeat refine UC ?_
 refine b.D [.c gv1,.s (.p 0 0),.x (nv a),.c (nv (sIn N a)),.x (nv (sIn N a)),.u 1] [] [(1,5,wn (sIn N a))] [wn a,wn (sIn N a)] [2] ⟨cl fJ,st,ld u38 i38,cl (OP O c),st,RG.pt i40,yCm⟩ ?_;intro a2 g k;refine Wy ?_;refine UH (v:=(nv (sIn N a))) (aI k.st 2 49 rfl 1 _ rfl (k.at (s:=(.p 1 0))) u40 i40) k.sl.defers ?_;exact⟨_,rfl,k.st.bel.below,rfl⟩
theorem Lv(v:Uv)(m:Nat)(ok:Bool)(w:Ut)(c:∀w',BelX w.heap.size [] w w'->UK prog 59 #[gv1,v] w' (Ret λe b=>kZ w' b/\e=.tuple #[nv m,.bool ok])):
 UK prog 16 #[v] w (rZ w λe w'=>e=.tuple #[nv m,.bool ok]):=by
 go_enter func16,ntmps16;refine RG.M.enter [(0,.v v)] 15 kR ?_;intro a0 f;repeat refine UC ?_
 refine f.T [.m 0,.x (.bool false)] [(0,RG.z 4)] [] [RG.z 4] [0,2,3] ⟨mk 0 49,st,yCm⟩ ?_;intro o p n d;repeat refine UC ?_
 refine d.T [.c gv1,.x v,.c (.tuple #[nv m,.bool ok]),.x (.tuple #[nv m,.bool ok]),.x (nv m),.x (.bool ok),.m 1,.u 1,.x (.bool ok)] [(6,RG.z 4)] [(1,7,wn m)] [RG.z 4,wn m] [2,3,4,5] ⟨cl fJ,st,clB (λ_ _=>kR) c,st,st,st,mk 1 47,RG.pt i38,st,yCm⟩ ?_;intro q a2 i g;repeat refine UC ?_
 refine g.T [.x (nv m),.x (nv m),.x (.bool ok),.u 0,.x (.bool ok)] [] [(0,3,wn m)] [wn m,wn m] [2,3] ⟨ld u38 i38,st,st,RG.pt i40,st,yCm⟩ ?_;intro l j k;refine Wy ?_;refine UH (v:=.tuple #[nv m,.bool ok]) (cQ k.st 2 3 49 rfl 0 _ rfl (k.at (s:=.p 0 0)) _ (k.av (v:=.bool ok) kR) u40 i40) k.sl.defers ?_;exact⟨_,rfl,k.st.bel.below,rfl⟩
theorem EB(O:Ord N)(v:Uv)(k:Bs)(w:Ut)(hv:Arg w v k):UK prog 16 #[v] w (rZ w λe w'=>e=.tuple #[nv ((rq N k).getD 0),.bool (rq N k).isSome]):=by
 refine Lv v _ _ w λw' c=>?_
 have h:=AN O.gap v k w' (hv.below c.below);cases b:rq N k with
 | none=>rw[b]at h;exact h
 | some n=>rw[b]at h;exact h
theorem qN(O:Ord N){a:Nat}(d:a<N):KJ 141 #[nv a] (bx a) 32:=by
 intro w;go_enter func141,ntmps141;refine RG.M.enter [(0,.v (nv a))] 6 kR ?_;intro a0 e;repeat refine UC ?_
 refine e.T [.m 0,.x (.slice none 0 0)] [(0,wn a)] [] [wn a] [1,2] ⟨mk 0 49,st,yCm⟩ ?_;intro g l f c;repeat refine UC ?_
 refine c.t [.s 3 [] (.p 0 0),.x 4 [(3,0)] (nv a),⟨some 5,[(4,1)],.s 1 32 32,.make 1⟩,.s 2 [(5,2)] (.s 1 32 32)] [(2,cb (bx a))] [] [wn a,cb (bx a)] [(2,.s 1 32 32)] ⟨st,ld u38 i38,RG.cm 1 (λw _=>Iz O d w) λ_ _=>kR,st,yCm⟩ ?_;intro i a2 j k;refine Wy ?_;refine UH (v:=_) (jC 2 rfl _ (k.at (s:=.s 1 32 32))) k.sl.defers ?_;exact⟨_,rfl,_,k.st.made (b:=1) rfl,rfl⟩
end
namespace SP
open Go.RowKit
theorem TS(x:BitVec 64):(x.toNat:Int)<18446744073709551616:=by
 have:=x.isLt;omega
theorem dY(x:BitVec 64):Xg 64 (x.toNat:Int)=x:=by
 apply yAx;rw[Zm,YP];exact UU x.isLt
theorem fL(x:BitVec 64):Vw.wrap (x.toNat:Int)=x.toNat:=by
 rw[XJ];have:=TS x;exact yBc oM this
def u(v:BitVec 64):Int:=(v.toNat:Int)
theorem cY(a b:BitVec 64):bits .xor .u64 (u a) (u b)=u (a ^^^ b):=by
 show Vw.wrap ((Xg 64 (a.toNat:Int) ^^^ Xg 64 (b.toNat:Int)).toNat:Int)=_;rw[dY,dY,fL];rfl
theorem dW(a b:BitVec 64):bits .and .u64 (u a) (u b)=u (a &&& b):=by
 show Vw.wrap ((Xg 64 (a.toNat:Int) &&& Xg 64 (b.toNat:Int)).toNat:Int)=_;rw[dY,dY,fL];rfl
theorem eC(a b:BitVec 64):bits .or .u64 (u a) (u b)=u (a ||| b):=by
 show Vw.wrap ((Xg 64 (a.toNat:Int) ||| Xg 64 (b.toNat:Int)).toNat:Int)=_;rw[dY,dY,fL];rfl
theorem qI(a:BitVec 64):bits .xor .u64 Vw.max (u a)=u (~~~a):=by
 have e:Vw.max=u (BitVec.allOnes 64):=dK;rw[e,cY,BitVec.allOnes_xor]
theorem S3(k:Nat)(b:k<64):bits .and .u64 (k:Int) 63=k:=by
 have h:∀j:Fin 64,bits .and .u64 ((j.val:Nat):Int) 63=(j.val:Int):=dK;exact h ⟨k,b⟩
theorem Iu(x:BitVec 64)(k:Nat):Vw.wrap (u x*2^k)=u (x <<< k):=by
 unfold u;rw[XJ,BitVec.toNat_shiftLeft,Nat.shiftLeft_eq,Int.natCast_emod,XD,yAk];rfl
theorem Ny(x:BitVec 64)(k:Nat):u x/2^k=u (x >>> k):=by
 unfold u;rw[BitVec.toNat_ushiftRight,Nat.shiftRight_eq_div_pow,Zl,yAk];rfl
def rol(w:BitVec 64)(n:Nat):BitVec 64:=w <<< n ||| w >>> (64-n)
abbrev St:=Array (BitVec 64)
def enc(v:BitVec 64):Uv:=uZ (u v)
def D6(d:St)(x:Nat):BitVec 64:=d[x]! ^^^ d[x+5]! ^^^ d[x+10]! ^^^ d[x+15]! ^^^ d[x+20]!
def pD(d:St):Nat->St
 | 0=>#[0,0,0,0,0]
 | k+1=>(pD d k).setIfInBounds k (D6 d k)
def bT(d:St)(i:Nat)(v:BitVec 64):St:=d.setIfInBounds i (d[i]! ^^^ v)
def mE(v:BitVec 64)(x:Nat)(d:St):Nat->St
 | 0=>d
 | m+1=>bT (mE v x d m) (x+5*m) v
def PY(s:St)(x:Nat):BitVec 64:=s[(x+4)%5]! ^^^ rol s[(x+1)%5]! 1
def nS(s d:St):Nat->St
 | 0=>d
 | k+1=>mE (PY s k) k (nS s d k) 5
def wE(d:St):St:=nS (pD d 5) d 5
theorem dQ(d:St)(i:Nat)(v:BitVec 64):(bT d i v).size=d.size:=by simp[bT]
theorem tN(d:St)(k:Nat):(pD d k).size=5:=by
 induction k with
 | zero=>rfl
 | succ k ih=>simp[pD,ih]
theorem rC(v:BitVec 64)(x:Nat)(d:St)(m:Nat):(mE v x d m).size=d.size:=by
 induction m with
 | zero=>rfl
 | succ k ih=>simp[mE,dQ,ih]
theorem qK(s d:St)(m:Nat):(nS s d m).size=d.size:=by
 induction m with
 | zero=>rfl
 | succ k ih=>simp[nS,rC,ih]
structure Tm where
 x:Nat
 y:Nat
 m:BitVec 64
 d:St
def offs(t:Nat):Nat:=(t+1)*(t+2)/2%64
def Da(t:Nat)(s:Tm):Tm:=
 { x:=s.y,y:=(2*s.x+3*s.y)%5,m:=s.d[s.y+5*((2*s.x+3*s.y)%5)]!,d:=s.d.setIfInBounds (s.y+5*((2*s.x+3*s.y)%5)) (rol s.m (offs t)) }
def uK(d:St):Nat->Tm
 | 0=>{ x:=1,y:=0,m:=d[1]!,d:=d }
 | t+1=>Da t (uK d t)
def zK(d:St):St:=(uK d 24).d
theorem Ex(d:St)(hd:d.size=25)(t:Nat):(uK d t).x<5/\(uK d t).y<5/\(uK d t).d.size=25:=by
 induction t with
 | zero=>exact⟨show 1<5 by decide,show 0<5 by decide,hd⟩
 | succ t ih =>
  obtain⟨c,b,k⟩:=ih;refine⟨b,?_,?_⟩
  ·show(2*(uK d t).x+3*(uK d t).y)%5<5;omega
  ·show((uK d t).d.setIfInBounds _ _).size=25;rw[Vz,k]
def rowAt(d:St)(i:Nat):St:=
 bT (bT (bT (bT (bT d i (~~~d[i+1]! &&& d[i+2]!)) (i+1) (~~~d[i+2]! &&& d[i+3]!)) (i+2) (~~~d[i+3]! &&& d[i+4]!)) (i+3) (~~~d[i+4]! &&& d[i]!)) (i+4) (~~~d[i]! &&& d[i+1]!)
def yE(d:St):Nat->St
 | 0=>d
 | k+1=>rowAt (yE d k) (5*k)
def chi(d:St):St:=yE d 5
theorem Dq(d:St)(i:Nat):(rowAt d i).size=d.size:=by simp[rowAt,dQ]
theorem yD(d:St)(k:Nat):(yE d k).size=d.size:=by
 induction k with
 | zero=>rfl
 | succ k ih=>simp[yE,Dq,ih]
def wR(r:Nat):Nat:=if 255<2*r then(2*r) ^^^ 369 else 2*r
def wQ(r:Nat):Nat->BitVec 64 × Nat
 | 0=>(0,r)
 | j+1=>((wQ r j).1 ||| Yr 64 ((wQ r j).2%2) <<< (2^j-1),wR (wQ r j).2)
theorem BZ(r:Nat)(h:r<256):wR r<256:=by
 have H:∀j:Fin 256,wR j.val<256:=dK;exact H ⟨r,h⟩
theorem LY(r:Nat)(h:r<256)(j:Nat):(wQ r j).2<256:=by
 induction j with
 | zero=>exact h
 | succ j ih=>exact BZ _ ih
theorem OS(r:Nat)(h:r<256):bits .xor .i64 ((r:Int)*2) 369=(((2*r) ^^^ 369:Nat):Int):=by
 have H:∀j:Fin 256,bits .xor .i64 ((j.val:Int)*2) 369=(((2*j.val) ^^^ 369:Nat):Int):=dK;exact H ⟨r,h⟩
theorem OT(r:Nat)(h:r<256):bits .and .i64 (r:Int) 1=u (Yr 64 (r%2)):=by
 have H:∀j:Fin 256,bits .and .i64 (j.val:Int) 1=u (Yr 64 (j.val%2)):=dK;exact H ⟨r,h⟩
theorem pB(x:BitVec 64):Vw.wrap (u x)=u x:=fL x
def xK(d:St)(c:BitVec 64):St:=bT (chi (zK (wE d))) 0 c
def rcC(r:Nat):BitVec 64:=(wQ r 7).1
def rcN(r:Nat):Nat:=(wQ r 7).2
theorem OU(r:Nat)(h:r<256):rcN r<256:=by
 unfold rcN;exact LY r h 7
def B6:Nat->Nat
 | 0=>1
 | k+1=>rcN (B6 k)
theorem LZ(k:Nat):B6 k<256:=by
 induction k with
 | zero=>decide
 | succ k ih=>exact OU _ ih
def sE(d:St):Nat->St
 | 0=>d
 | k+1=>xK (sE d k) (rcC (B6 k))
def perm(d:St):St:=sE d 24
theorem lO(d:St):(wE d).size=d.size:=qK _ _ _
theorem qC(d:St)(hd:d.size=25):(zK d).size=25:=(Ex d hd 24).2.2
theorem CC(d:St):(chi d).size=d.size:=yD _ _
theorem Cp(d:St)(c:BitVec 64)(hd:d.size=25):(xK d c).size=25:=by
 unfold xK;rw[dQ,CC,qC];rw[lO,hd]
theorem tW(d:St)(hd:d.size=25)(k:Nat):(sE d k).size=25:=by
 induction k with
 | zero=>exact hd
 | succ k ih=>exact Cp _ _ ih
theorem rY(d:St)(hd:d.size=25):(perm d).size=25:=tW d hd 24
abbrev Bs:=Array UInt8
def ub(x:UInt8):Int:=(x.toNat:Int)
def encB(x:UInt8):Uv:=.int .u8 (ub x)
def wide(x:UInt8):BitVec 64:=Yr 64 x.toNat
def low(v:BitVec 64):UInt8:=UQ v.toNat
theorem KX(x:UInt8):ub x=u (wide x):=by
 unfold ub u wide;rw[YP,UU];have:=x.toNat_lt;omega
theorem Er(x:UInt8):Vw.wrap (ub x)=u (wide x):=by rw[KX,pB]
theorem NH(v:BitVec 64):XF.wrap (u v)=ub (low v):=by
 have e:XF.wrap (u v)=u v%256:=by simp[yBo,yBp,yA3]
 rw[e];unfold u ub low;rw[YQ];omega
def vW(b:Bs)(o:Nat):Nat->BitVec 64
 | 0=>0
 | i+1=>vW b o i ||| wide b[o+i]! <<< (8*i)
def wordOf(k:Bs)(o:Nat):BitVec 64:=vW k o 8
def kY(k:Bs)(d:St):Nat->St
 | 0=>d
 | i+1=>bT (kY k d i) i (wordOf k (8*i))
theorem mC(b:Bs)(d:St)(k:Nat):(kY b d k).size=d.size:=by
 induction k with
 | zero=>rfl
 | succ k ih=>simp[kY,dQ,ih]
def byteOf(d:St)(k:Nat):UInt8:=low (d[k/8]! >>> (8*(k%8)))
def gQ(d:St)(n:Nat):Nat->Bs
 | 0=>UM n 0
 | k+1=>(gQ d n k).setIfInBounds k (byteOf d k)
def front(d:St)(n:Nat):Bs:=gQ d n n
theorem mF(d:St)(n k:Nat):(gQ d n k).size=n:=by
 induction k with
 | zero=>simp[gQ]
 | succ k ih=>simp[gQ,ih]
theorem dV(d:St)(n:Nat):(front d n).size=n:=mF d n n
end SP
namespace SP
open Go.RowKit Go.Sort
structure Only(b off n:Nat)(w w':Ut):Prop where
 os:w'.os=w.os
 tape:w'.tape=w.tape
 output:w'.output=w.output
 size:w.heap.size<=w'.heap.size
 block:∀k,k<w.heap.size->k≠b->w'.heap[k]? = w.heap[k]?
 cell:∀o,(o<off\/off+n<=o)->w'.cell? ⟨b,o,none⟩=w.cell? ⟨b,o,none⟩
 froz:∀o,w'.frozen? ⟨b,o,none⟩=w.frozen? ⟨b,o,none⟩
variable {b off n:Nat}{w w1 w2:Ut}
theorem Only.refl(b off n:Nat)(w:Ut):Only b off n w w:=⟨rfl,rfl,rfl,Uy _,λ_ _ _=>rfl,λ_ _=>rfl,λ_=>rfl⟩
theorem Only.trans(h:Only b off n w w1)(k:Only b off n w1 w2):Only b off n w w2:=
 ⟨k.os.trans h.os,k.tape.trans h.tape,k.output.trans h.output,UE h.size k.size,
  λi c d=>(k.block i (Uz c h.size) d).trans (h.block i c d),
  λo ho=>(k.cell o ho).trans (h.cell o ho),λo=>(k.froz o).trans (h.froz o)⟩
theorem Only.drewN(h:Only b off n w w1)(q:Nat):Only b off n w (w1.drewN q):=⟨h.os,h.tape,h.output,h.size,h.block,h.cell,h.froz⟩
theorem Only.drew(h:Only b off n w w1):Only b off n w w1.drew:=⟨h.os,h.tape,h.output,h.size,h.block,h.cell,h.froz⟩
theorem Only.setCell(h:Only b off n w w1){o:Nat}(f:off<=o)(g:o<off+n)(v:Uv):Only b off n w (w1.setCell ⟨b,o,none⟩ v):=by
 refine h.trans ⟨rfl,rfl,rfl,by simp,λk _ d=>YU _ _ _ _ d,λc ho=>?_,λc=>by simp⟩;exact UV _ _ _ _ (by intro e;simp only[Addr.mk.injEq,and_true,true_and]at e;omega)
theorem Only.alloc(h:Only b off n w w1)(d:b<w1.heap.size)(o:Obj):Only b off n w (w1.alloc o):=by
 refine h.trans ⟨rfl,rfl,rfl,by simp,λk c _=>Below.heap_alloc _ _ _ c,λe _=>?_,λe=>?_⟩
 ·exact World.cell?_alloc_lt _ _ _ d
 ·exact World.frozen?_alloc_old _ _ _ (by show b≠_;omega)
theorem Only.below(h:Only b off n w w1){B:Nat}(e:B<=w.heap.size)(d:B<=b):Below B w w1:=
 ⟨h.os,h.tape,h.output,h.size,λk c=>h.block k oM oM⟩
theorem Only.of_below{B:Nat}(h:Below B w w1)(e:B=w.heap.size)(c:b<B):Only b off n w w1:=
 ⟨h.os,h.tape,h.output,h.size,λk d _=>h.block k oM,λo _=>h.cell (p:=⟨b,o,none⟩) c,λo=>h.frozen (p:=⟨b,o,none⟩) c⟩
theorem Only.other(h:Only b off n w w1){o:Nat}(k:c≠b)(d:c<w.heap.size):w1.cell? ⟨c,o,none⟩=w.cell? ⟨c,o,none⟩/\w1.frozen? ⟨c,o,none⟩=w.frozen? ⟨c,o,none⟩:=
 ⟨U0 (w:=w) (h.block c d k),VR (w:=w) (h.block c d k)⟩
theorem Only.fresh{o m:Nat}{x:Obj}(h:Only w.heap.size o m (w.alloc x) w1):kZ w w1:=
 ((UT _ _).alloc (Uy _) x).trans (h.below (by simp) (Uy _))
section
variable {α:Type}[Inhabited α]{enc:α->Uv}{d:Array α}
theorem Holds.lt(h:Holds enc w b off d)(hd:0<d.size):b<w.heap.size:=Xf _ _ (h 0 hd).1
theorem Holds.other{o:Nat}(h:Holds enc w c o d)(k:Only b off n w w1)(f:c≠b)(hd:0<d.size):Holds enc w1 c o d:=by
 intro j e;have:=h j e;have:=k.other (o:=o+j) f (Holds.lt h hd);rw[this.1,this.2];exact h j e
theorem Holds.same{o:Nat}(h:Holds enc w b o d)(k:Only b off n w w1)(hd:o+d.size<=off\/off+n<=o):Holds enc w1 b o d:=by
 intro j c;rw[k.cell _ oM,k.froz];exact h j c
theorem Holds.below{B:Nat}(h:Holds enc w b off d)(k:Below B w w1)(c:b<B):Holds enc w1 b off d:=by
 intro j e;rw[k.cell (p:=⟨b,off+j,none⟩) c,k.frozen (p:=⟨b,off+j,none⟩) c];exact h j e
theorem Holds.drewN(h:Holds enc w b off d)(q:Nat):Holds enc (w.drewN q) b off d:=h
theorem Holds.drew(h:Holds enc w b off d):Holds enc w.drew b off d:=h
theorem Holds.set(h:Holds enc w b off d)(c:i<d.size)(x:α):Holds enc (w.setCell ⟨b,off+i,none⟩ (enc x)) b off (d.setIfInBounds i x):=by
 intro j k;rw[Vz]at k;rw[VK];by_cases e:j=i
 ·subst e;rw[getElem!_set_same d j x c];exact⟨VU _ _ _ (h j k).1,(h j k).2⟩
 ·rw[getElem!_set_other d i j x e,UV _ _ _ _ (by intro e';simp only[Addr.mk.injEq,and_true,true_and]at e';omega)];exact h j k
theorem Holds.new(w:Ut)(t:Vb)(d:Array α):Holds enc (w.alloc (.cells (d.map enc) t)) w.heap.size 0 d:=by
 intro j k;rw[Ve,Wq];refine⟨?_,rfl⟩;simp only[UF,yAP,UZ k,Yj,getElem!_pos d j k]
theorem Holds.made(w:Ut)(t:Vb)(n:Nat)(x:α):Holds enc (w.alloc (.cells (madeCells #[enc x] n) t)) w.heap.size 0 (UM n x):=by
 intro j k;rw[UO]at k;rw[Ve,Wq];refine⟨?_,rfl⟩;rw[getElem!_pos _ j (by simpa using k),Wr];simp[madeCells,k,Nat.mod_one]
end
theorem Holds.xor{d:St}(h:Holds enc w b off d)(k:i<d.size){x:BitVec 64}(hx:d[i]! = x)(v:BitVec 64):Holds enc (w.setCell ⟨b,off+i,none⟩ (uZ (u (x ^^^ v)))) b off (bT d i v):=by
 unfold bT;rw[hx];exact Holds.set h k (x ^^^ v)
theorem bX(d:St)(i j:Nat)(v:BitVec 64)(h:j≠i):(bT d i v)[j]! = d[j]!:=getElem!_set_other d i j _ h
end SP
namespace SP
open Go.RowKit Go.Sort
theorem mixed:prog.follows .mixedOrders=true:=kR
theorem bP{w:Ut}{b off:Nat}{d:St}(h:Holds enc w b off d)(i:Nat)(k:i<d.size){x:BitVec 64}(hx:d[i]! = x):
 w.cell? ⟨b,off+i,none⟩=some (uZ (u x))/\w.frozen? ⟨b,off+i,none⟩=false:=by
 rw[<-hx];exact h i k
theorem ret_int{k:IntKind}{a b:Int}(h:a=b):Ending.returned (.int k a)=.returned (.int k b):=by rw[h]
theorem BS(x:BitVec 64)(k:Nat)(w:Ut)(c:k<64):
 UK prog 252 #[uZ (u x),iZ k] w λe w'=>e=.returned (uZ (u (rol x k)))/\w'=w:=by
 have b:=S3 k c;go_enter func252,ntmps252;go_wp2;go_ret;refine⟨ret_int ?_,rfl⟩;rw[Iu,Ny,eC];rfl
end SP
namespace SP
open Go.RowKit Go.Sort
theorem Cr(w:Ut)(t:Vb):Holds enc (w.alloc (.cells #[uZ 0,uZ 0,uZ 0,uZ 0,uZ 0] t)) w.heap.size 0 (#[0,0,0,0,0]:St):=by
 have h:=Holds.new (enc:=enc) w t (#[0,0,0,0,0]:St);have e:yB6 enc (#[0,0,0,0,0]:St)=#[uZ 0,uZ 0,uZ 0,uZ 0,uZ 0]:=by simp[enc,u]
 rw[e]at h;exact h
attribute [local go_sem] cY dW eC
theorem xG(b off:Nat)(d:St)(w:Ut)(hd:d.size=25)(P:Holds enc w b off d):
 UK prog 248 #[.pointer (some ⟨b,off,none⟩)] w λe w'=>e=.returned (.tuple #[])/\Only b off 25 w w'/\Holds enc w' b off (wE d):=by
 have V:=Holds.lt P oM;go_enter func248,ntmps248;go_wp2;generalize o:(w.alloc _)=X;go_loopg [7] 5 (λg s7 wr=>∃k l,k+g=5/\s7=.int .i64 (k:Nat)/\Holds enc wr w.heap.size 0 l/\Only w.heap.size 0 5 X wr/\Hid (l=pD d k))
 case atStart =>
  refine⟨0,#[0,0,0,0,0],rfl,rfl,?_,Only.refl _ _ _ _,rfl⟩;rw[<-o];exact Cr w 314
 case round =>
  obtain⟨k,l,R,rfl,J,n,r⟩:=hrel;have j:Holds enc wr b off d:=Holds.other (by rw[<-o];exact Holds.below P ((UT _ _).alloc (Uy _) _) V) n oM oM;by_cases a:k<5
  ·obtain⟨D,u⟩:∃x,d[k]! = x:=⟨_,rfl⟩
   obtain⟨B,q⟩:∃x,d[k+5]! = x:=⟨_,rfl⟩
   obtain⟨C,s⟩:∃x,d[k+10]! = x:=⟨_,rfl⟩
   obtain⟨y,t⟩:∃x,d[k+15]! = x:=⟨_,rfl⟩
   obtain⟨A,p⟩:∃x,d[k+20]! = x:=⟨_,rfl⟩
   obtain⟨M,v⟩:∃x,l[k]! = x:=⟨_,rfl⟩
   have F:l.size=5:=by rw[r.out,tN]
   obtain⟨G,Q⟩:=bP j k oM u;obtain⟨c1,U⟩:=bP j (k+5) oM q;obtain⟨c2,f2⟩:=bP j (k+10) oM s;obtain⟨c3,Y⟩:=bP j (k+15) oM t;obtain⟨N,T⟩:=bP j (k+20) oM p;obtain⟨E,H⟩:=bP J k oM v;rw[UF]at E H;have I:Hid (D6 d k=D ^^^ B ^^^ C ^^^ y ^^^ A):=by rw[<-u,<-q,<-s,<-t,<-p];rfl
   clear u q s t p v j;have W:(k:Int)<5:=oM;have b0:(k:Int)<25:=oM;have b1:(k:Int)+5<25:=oM;have b2:(k:Int)+10<25:=oM;have b3:(k:Int)+15<25:=oM;have S:(k:Int)+20<25:=oM;have p1:0<=(k:Int)+5:=oM;have p2:0<=(k:Int)+10:=oM;have p3:0<=(k:Int)+15:=oM;have p4:0<=(k:Int)+20:=oM;have e1:((k:Int)+5).toNat=k+5:=oM;have K:((k:Int)+10).toNat=k+10:=oM;have e3:((k:Int)+15).toNat=k+15:=oM;have Z:((k:Int)+20).toNat=k+20:=oM;have v1:VY.wrap ((k:Int)+5)=(k:Int)+5:=Ws _ oM;have v2:VY.wrap ((k:Int)+10)=(k:Int)+10:=Ws _ oM;have L:VY.wrap ((k:Int)+15)=(k:Int)+15:=Ws _ oM;have O:VY.wrap ((k:Int)+20)=(k:Int)+20:=Ws _ oM;go_wp2_with fail
   go_still_tail 35,mixed;go_wp2;go_roundg (gk-1)
   case measure=>omega
   case rel =>
    refine⟨k+1,l.setIfInBounds k (D ^^^ B ^^^ C ^^^ y ^^^ A),oM,by go_num,?_,?_,?_⟩
    ·have:=Holds.set J (i:=k) oM (D ^^^ B ^^^ C ^^^ y ^^^ A);rw[UF]at this;exact Holds.drew this
    ·exact(n.setCell (Wz _) oM _).drew
    ·show _=(pD d k).setIfInBounds k (D6 d k);rw[I.out,r.out]
  ·have t:k=5:=oM;subst t;have O:Hid (l=pD d 5):=r;have I:Only b off 25 w wr:=by
    rw[<-o]at n;exact Only.of_below n.fresh rfl V
   clear R a r n o;go_wp2;go_loopg [46] 5 (λg s46 A=>∃k q,k+g=5/\s46=.int .i64 (k:Nat)/\Holds enc A b off q/\Only b off 25 wr A/\Hid (q=nS l d k))
   case atStart=>exact⟨0,d,rfl,rfl,j,Only.refl _ _ _ _,rfl⟩
   case round =>
    obtain⟨k,q,R,rfl,N,n,r⟩:=hrel;by_cases a:k<5
    ·have F:l.size=5:=by rw[O.out,tN]
     have y:=Holds.other J n oM oM;obtain⟨v,s⟩:∃x,l[(k+4)%5]! = x:=⟨_,rfl⟩
     obtain⟨B,u⟩:∃x,l[(k+1)%5]! = x:=⟨_,rfl⟩
     obtain⟨G,Q⟩:=bP y ((k+4)%5) oM s;obtain⟨c1,U⟩:=bP y ((k+1)%5) oM u;rw[UF]at G c1;have Y:Hid (PY l k=v ^^^ rol B 1):=by rw[<-s,<-u];rfl
     clear s u Q U;have W:(k:Int)<5:=oM;go_wp2_with fail
     go_quiet ((go_at_call 252;exact Calls.quiet_of_same (BS _ 1 _ dC)));clear G c1;go_wp2;have Z:=n.drewN nq;have M:=Holds.drewN N nq;have E:q.size=25:=by rw[r.out,qK,hd]
     go_loopg [6] 5 (λg s6 A=>∃m p,m+g=5/\s6=.int .i64 ((k+5*m:Nat):Int)/\Holds enc A b off p/\Only b off 25 wr A/\Hid (p=mE (v ^^^ rol B 1) k q m))
     case atStart=>exact⟨0,q,rfl,rfl,M,(Only.refl _ _ _ _).drewN _,rfl⟩
     case round =>
      obtain⟨m,p,hm,rfl,K,C,H⟩:=hrel;by_cases S:m<5
      ·have h0:p.size=25:=by rw[H.out,rC,E]
       obtain⟨z,D⟩:∃x,p[k+5*m]! = x:=⟨_,rfl⟩
       obtain⟨c,f⟩:=bP K (k+5*m) oM D;have HZ:Hid (p[k+5*m]! = z):=D;clear D;have r1:((k+5*m:Nat):Int)<25:=oM;generalize L:k+5*m=i at *;have T:Hid (k+5*m=i):=L;clear L;go_wp2_with fail
       go_still_tail 9,mixed;go_wp2;go_roundg (gk-1)
       case measure=>omega
       case rel =>
        refine⟨m+1,p.setIfInBounds i (z ^^^ (v ^^^ rol B 1)),oM,?_,?_,?_,?_⟩
        ·rw[<-T.out];go_num
        ·exact Holds.drew (Holds.set K oM _)
        ·exact(C.setCell (Zh _ _) oM _).drew
        ·show _=bT (mE (v ^^^ rol B 1) k q m) (k+5*m) (v ^^^ rol B 1);rw[<-H.out,T.out,<-HZ.out];rfl
      ·have D:m=5:=oM;subst D;have r1:(25:Int)<=((k+5*5:Nat):Int):=oM;generalize L:k+5*5=i at *;go_wp2;go_roundg (4-k)
       case measure=>omega
       case rel =>
        refine⟨k+1,p,oM,by go_num,K,n.trans C,?_⟩;show _=mE (PY l k) k (nS l d k) 5;rw[<-r.out,Y.out];exact H.out
    ·have t:k=5:=oM;subst t;go_wp2
     go_end0
     refine⟨rfl,I.trans n,?_⟩;have:wE d=q:=by rw[r.out,O.out];rfl
     rw[this];exact N
end SP
namespace SP
open Go.RowKit Go.Sort
attribute [local go_sem] cY dW eC
theorem IZ(t:Nat)(h:t<24):(wrap64 ((wrap64 (((t:Int)+1)*((t:Int)+2))).tdiv 2)).tmod 64=(offs t:Int):=by
 have H:∀j:Fin 24,(wrap64 ((wrap64 (((j.val:Int)+1)*((j.val:Int)+2))).tdiv 2)).tmod 64=(offs j.val:Int):=dK;exact H ⟨t,h⟩
theorem uJ(b off:Nat)(d:St)(w:Ut)(hd:d.size=25)(A:Holds enc w b off d):
 UK prog 249 #[oZ b off] w λe w'=>e=.returned (.tuple #[])/\Only b off 25 w w'/\Holds enc w' b off (zK d):=by
 obtain⟨M,o⟩:∃x,d[1]! = x:=⟨_,rfl⟩
 obtain⟨c1,J⟩:=bP A 1 oM o;go_enter func249,ntmps249;go_wp2;go_loopg [2,3,4,12] 24 (λg sx F sm st wr=>∃t T,t+g=24/\st=iZ (t:Nat)/\sx=iZ (T.x:Nat)/\F=iZ (T.y:Nat)/\sm=uZ (u T.m)/\Holds enc wr b off T.d/\Only b off 25 w wr/\Hid (T=uK d t))
 case atStart=>exact⟨0,uK d 0,rfl,rfl,rfl,rfl,by rw[<-o];rfl,A,Only.refl _ _ _ _,rfl⟩
 case round =>
  obtain⟨t,⟨x,y,m,B⟩,K,rfl,rfl,rfl,rfl,q,D,s⟩:=hrel;have l:=Ex d hd t;rw[<-s.out]at l;obtain⟨hx,H,E⟩:=l;dsimp only at hx H E q;by_cases r:t<24
  ·obtain⟨i,I⟩:∃i,y+5*((2*x+3*y)%5)=i:=⟨_,rfl⟩
   obtain⟨z,a⟩:∃z,B[i]! = z:=⟨_,rfl⟩
   obtain⟨c,f⟩:=bP q i oM a;have G:=mk1 (a);have C:=mk1 (I);go_wp2_with fail
   rw[IZ t r];refine(BS m (offs t) _ (V6 _ dC)).mono ?_;rintro e w' ⟨rfl,rfl⟩;go_wp2_with fail
   obtain⟨p,v⟩:∃n,(2*x+3*y)%5=n:=⟨_,rfl⟩
   have j:(2*(x:Int)+3*(y:Int))%5=(p:Int):=oM;rw[j];have k:=mk1 (v);have L:((y:Int)+5*(p:Int)).toNat=i:=by have:=C.out;have:=k.out;omega
   go_region
   go_wp2;go_roundg (gk-1)
   case measure=>omega
   case rel =>
    refine⟨t+1,⟨y,p,z,B.setIfInBounds i (rol m (offs t))⟩,oM,by go_num,rfl,rfl,rfl,?_,?_,?_⟩
    ·exact Holds.drew (Holds.set q oM _)
    ·exact(D.setCell (Zh _ _) oM _).drew
    ·show _=Da t (uK d t);rw[<-s.out];simp only[Da,k.out];have e:y+5*p=i:=by have:=C.out;have:=k.out;omega
     rw[e,G.out]
  ·have k:t=24:=oM;subst k;go_wp2
   go_end0
   refine⟨rfl,D,?_⟩;show Holds enc _ b off (uK d 24).d;rw[<-s.out];exact q
end SP
namespace SP
open Go.RowKit Go.Sort
attribute [local go_sem] cY dW eC qI
theorem Ck(b off:Nat)(d:St)(w:Ut)(hd:d.size=25)(hH:Holds enc w b off d):
 UK prog 250 #[.pointer (some ⟨b,off,none⟩)] w λe w'=>e=.returned (.tuple #[])/\Only b off 25 w w'/\Holds enc w' b off (chi d):=by
 go_enter func250,ntmps250;go_wp2;go_loopg [2] 5 (λg si wr=>∃k j,k+g=5/\si=.int .i64 ((5*k:Nat):Int)/\Holds enc wr b off j/\Only b off 25 w wr/\Hid (j=yE d k))
 case atStart=>exact⟨0,d,rfl,rfl,hH,Only.refl _ _ _ _,rfl⟩
 case round =>
  obtain⟨k,j,hk,rfl,A,hO,HE⟩:=hrel;have hs:j.size=25:=by rw[HE.out,yD,hd]
  by_cases h7:k<5
  ·obtain⟨i,hi⟩:∃i,5*k=i:=⟨_,rfl⟩
   rw[hi];have Hi:Hid (5*k=i):=hi;obtain⟨u,P⟩:∃x,j[i]! = x:=⟨_,rfl⟩
   obtain⟨s,H⟩:∃x,j[i+1]! = x:=⟨_,rfl⟩
   obtain⟨r,L⟩:∃x,j[i+2]! = x:=⟨_,rfl⟩
   obtain⟨p,O⟩:∃x,j[i+3]! = x:=⟨_,rfl⟩
   obtain⟨n,F⟩:∃x,j[i+4]! = x:=⟨_,rfl⟩
   obtain⟨c0,f0⟩:=bP A i oM P;obtain⟨c1,f1⟩:=bP A (i+1) oM H;obtain⟨c2,f2⟩:=bP A (i+2) oM L;obtain⟨c3,f3⟩:=bP A (i+3) oM O;obtain⟨c4,f4⟩:=bP A (i+4) oM F;have K:Hid (j[i]! = u):=P;have q:Hid (j[i+1]! = s):=H;have l:Hid (j[i+2]! = r):=L;have f:Hid (j[i+3]! = p):=O;have c:Hid (j[i+4]! = n):=F;have Q0:=K;have Q1:=q;have Q2:=l;have Q3:=f;have Q4:=c;have b1:(i:Int)+1<25:=oM;have p1:0<=(i:Int)+1:=oM;have e1:((i:Int)+1).toNat=i+1:=oM;have v1:VY.wrap ((i:Int)+1)=(i:Int)+1:=Ws _ oM;have b2:(i:Int)+2<25:=oM;have p2:0<=(i:Int)+2:=oM;have S:((i:Int)+2).toNat=i+2:=oM;have v2:VY.wrap ((i:Int)+2)=(i:Int)+2:=Ws _ oM;have b3:(i:Int)+3<25:=oM;have p3:0<=(i:Int)+3:=oM;have e3:((i:Int)+3).toNat=i+3:=oM;have T:VY.wrap ((i:Int)+3)=(i:Int)+3:=Ws _ oM;have b4:(i:Int)+4<25:=oM;have p4:0<=(i:Int)+4:=oM;have e4:((i:Int)+4).toNat=i+4:=oM;have v4:VY.wrap ((i:Int)+4)=(i:Int)+4:=Ws _ oM;go_wp2_with fail
   go_quiet (fail);clear c1 c2 c3 c4 f1 f2 f3 f4 b1 p1 e1 v1 b2 p2 S v2 b3 p3 e3 T b4 p4 e4 v4;go_wp2_with fail
   go_region
   go_wp2_with fail
   generalize B:X0 _ _ _=W0;have ha:(bT j i (~~~s &&& r)).size=25:=by rw[dQ];omega
   have N:Holds enc W0 b off (bT j i (~~~s &&& r)):=by rw[<-B];exact Holds.xor (Holds.drewN A _) oM K.out _
   have X:Only b off 25 w W0:=by rw[<-B];exact(hO.drewN _).setCell (o:=off+i) oM oM _
   generalize m:bT j i (~~~s &&& r)=t at *;have W:Hid (bT j i (~~~s &&& r)=t):=m;have q:Hid (t[i+1]! = s):=by show _=_;rw[<-m,bX _ _ _ _ oM];exact q.out
   have l:Hid (t[i+2]! = r):=by show _=_;rw[<-m,bX _ _ _ _ oM];exact l.out
   have f:Hid (t[i+3]! = p):=by show _=_;rw[<-m,bX _ _ _ _ oM];exact f.out
   have c:Hid (t[i+4]! = n):=by show _=_;rw[<-m,bX _ _ _ _ oM];exact c.out
   obtain⟨c1,f1⟩:=bP N (i+1) oM q.out;clear m B c0 f0;have b1:(i:Int)+1<25:=oM;have p1:0<=(i:Int)+1:=oM;have e1:((i:Int)+1).toNat=i+1:=oM;have v1:VY.wrap ((i:Int)+1)=(i:Int)+1:=Ws _ oM;go_region
   go_wp2_with fail
   generalize J:X0 _ _ _=W1;have hb:(bT t (i+1) (~~~r &&& p)).size=25:=by rw[dQ];omega
   have Q:Holds enc W1 b off (bT t (i+1) (~~~r &&& p)):=by rw[<-J];exact Holds.xor N oM q.out _
   have h1:Only b off 25 w W1:=by rw[<-J];exact(X).setCell (o:=off+(i+1)) oM oM _
   generalize v:bT t (i+1) (~~~r &&& p)=y at *;have h3:Hid (bT t (i+1) (~~~r &&& p)=y):=v;have l:Hid (y[i+2]! = r):=by show _=_;rw[<-v,bX _ _ _ _ oM];exact l.out
   have f:Hid (y[i+3]! = p):=by show _=_;rw[<-v,bX _ _ _ _ oM];exact f.out
   have c:Hid (y[i+4]! = n):=by show _=_;rw[<-v,bX _ _ _ _ oM];exact c.out
   obtain⟨c2,f2⟩:=bP Q (i+2) oM l.out;clear b1 p1 e1 v1;have b2:(i:Int)+2<25:=oM;have p2:0<=(i:Int)+2:=oM;have S:((i:Int)+2).toNat=i+2:=oM;have v2:VY.wrap ((i:Int)+2)=(i:Int)+2:=Ws _ oM;go_region
   go_wp2_with fail
   generalize M:X0 _ _ _=W2;have h8:(bT y (i+2) (~~~p &&& n)).size=25:=by rw[dQ];omega
   have D:Holds enc W2 b off (bT y (i+2) (~~~p &&& n)):=by rw[<-M];exact Holds.xor Q oM l.out _
   have h0:Only b off 25 w W2:=by rw[<-M];exact(h1).setCell (o:=off+(i+2)) oM oM _
   generalize a:bT y (i+2) (~~~p &&& n)=z at *;have h2:Hid (bT y (i+2) (~~~p &&& n)=z):=a;have f:Hid (z[i+3]! = p):=by show _=_;rw[<-a,bX _ _ _ _ oM];exact f.out
   have c:Hid (z[i+4]! = n):=by show _=_;rw[<-a,bX _ _ _ _ oM];exact c.out
   obtain⟨c3,f3⟩:=bP D (i+3) oM f.out;clear b2 p2 S v2;have b3:(i:Int)+3<25:=oM;have p3:0<=(i:Int)+3:=oM;have e3:((i:Int)+3).toNat=i+3:=oM;have T:VY.wrap ((i:Int)+3)=(i:Int)+3:=Ws _ oM;go_region
   go_wp2_with fail
   generalize R:X0 _ _ _=W3;have h6:(bT z (i+3) (~~~n &&& u)).size=25:=by rw[dQ];omega
   have E:Holds enc W3 b off (bT z (i+3) (~~~n &&& u)):=by rw[<-R];exact Holds.xor D oM f.out _
   have U:Only b off 25 w W3:=by rw[<-R];exact(h0).setCell (o:=off+(i+3)) oM oM _
   generalize G:bT z (i+3) (~~~n &&& u)=C at *;have h5:Hid (bT z (i+3) (~~~n &&& u)=C):=G;have c:Hid (C[i+4]! = n):=by show _=_;rw[<-G,bX _ _ _ _ oM];exact c.out
   obtain⟨c4,f4⟩:=bP E (i+4) oM c.out;clear b3 p3 e3 T;have b4:(i:Int)+4<25:=oM;have p4:0<=(i:Int)+4:=oM;have e4:((i:Int)+4).toNat=i+4:=oM;have v4:VY.wrap ((i:Int)+4)=(i:Int)+4:=Ws _ oM;go_region
   go_wp2;generalize I:X0 _ _ _=W4;have h9:(bT C (i+4) (~~~u &&& s)).size=25:=by rw[dQ];omega
   have Y:Holds enc W4 b off (bT C (i+4) (~~~u &&& s)):=by rw[<-I];exact Holds.xor E oM c.out _
   have Z:Only b off 25 w W4:=by rw[<-I];exact(U).setCell (o:=off+(i+4)) oM oM _
   generalize h4:bT C (i+4) (~~~u &&& s)=d4 at *;have V:Hid (bT C (i+4) (~~~u &&& s)=d4):=h4;go_roundg (gk-1)
   case measure=>omega
   case rel =>
    refine⟨k+1,d4,oM,?_,?_,?_,?_⟩
    ·rw[<-Hi.out];go_num
    ·exact Y
    ·exact Z.drewN 4
    ·show d4=rowAt (yE d k) (5*k);rw[<-HE.out,Hi.out];unfold rowAt;rw[Q0.out,Q1.out,Q2.out,Q3.out,Q4.out,W.out,h3.out,h2.out,h5.out,V.out]
  ·have c:k=5:=oM;subst c;go_wp2
   go_end0
   refine⟨rfl,hO,?_⟩;show Holds enc _ b off (yE d 5);rw[<-HE.out];exact A
end SP
namespace SP
open Go.RowKit Go.Sort
attribute [local go_sem] cY dW eC pB
theorem GA(j:Nat)(k:j<7):∃p:Nat,wrap64 (wrap64 ((2:Int)^j)-1)=(p:Int)/\p<=63/\Hid (2^j-1=p):=by
 have H:∀j:Fin 7,wrap64 (wrap64 ((2:Int)^j.val)-1)=((2^j.val-1:Nat):Int)/\2^j.val-1<=63:=dK;exact⟨_,(H ⟨j,k⟩).1,(H ⟨j,k⟩).2,rfl⟩
theorem qP(r:Nat)(w:Ut)(m:r<256):
 UK prog 251 #[iZ r] w λe w'=>e=.returned (.tuple #[uZ (u (rcC r)),iZ (rcN r:Int)])/\w'=w:=by
 go_enter func251,ntmps251;go_wp2
 go_loop [0,2,6] (λs0 s2 s6=>∃j:Nat,j<=7/\∃(c:BitVec 64) (q:Nat),s6=iZ j/\s2=uZ (u c)/\s0=iZ q/\q<256/\Hid (wQ r j=(c,q))) (λ_ _ s6=>7-(intOf s6).toNat)
 case atStart=>exact⟨0,dC,0,r,rfl,rfl,rfl,m,rfl⟩
 case round =>
  obtain⟨j,v,c,q,rfl,rfl,rfl,g,i⟩:=hrel;by_cases f:j<7
  ·have y:=OT q g;have a2:=OS q g;obtain⟨p,x,t,o⟩:=GA j f;have l:Hid (wQ r (j+1)=(c ||| Yr 64 (q%2) <<< p,wR q)):=by
    show((wQ r j).1 ||| Yr 64 ((wQ r j).2%2) <<< (2^j-1),wR (wQ r j).2)=_;rw[i.out,o.out]
   have s:=Iu (Yr 64 (q%2)) p;have k:=BZ q g;by_cases b:255<2*q
   ·have d:Hid (wR q=2*q ^^^ 369):=yCk b;rw[d.out]at k;generalize 2*q ^^^ 369=n at *;go_wp2
    go_round
    case rel=>exact⟨j+1,oM,_,n,by go_num,rfl,rfl,k,by rw[l.out,d.out];rfl⟩
    case measure=>simp[intOf];omega
   ·have d:Hid (wR q=2*q):=yCl b;go_wp2
    go_round
    case rel=>exact⟨j+1,oM,_,2*q,by go_num,rfl,by go_num,oM,by rw[l.out,d.out];rfl⟩
    case measure=>simp[intOf];omega
  ·have k:j=7:=oM;subst k;go_wp2
   go_ret2
   unfold rcC rcN;rw[i.out];exact⟨rfl,rfl⟩
theorem tQ(b off:Nat)(d:St)(w:Ut)(hd:d.size=25)(A:Holds enc w b off d):
 UK prog 241 #[oZ b off] w λe w'=>e=.returned (.tuple #[])/\Only b off 25 w w'/\Holds enc w' b off (perm d):=by
 go_enter func241,ntmps241;go_wp2;go_loopg [2,3,4] 24 (λg sc I G wr=>∃(k:Nat) (c:BitVec 64) (f:St),k+g=24/\G=iZ k/\sc=uZ (u c)/\I=iZ (B6 k:Nat)/\Holds enc wr b off f/\Only b off 25 w wr/\Hid (f=sE d k))
 case atStart=>exact⟨0,0,d,rfl,rfl,rfl,rfl,A,Only.refl _ _ _ _,rfl⟩
 case round =>
  obtain⟨k,c,f,K,rfl,rfl,rfl,y,z,q⟩:=hrel;have l:f.size=25:=by rw[q.out,tW d hd]
  by_cases a:k<24
  ·have C:(k:Int)<24:=oM;go_wp2_with fail
   refine(xG b off f _ l y).mono ?_;rintro e N ⟨rfl,s,v⟩;go_wp2_with fail
   refine(uJ b off _ _ (by rw[lO,l]) v).mono ?_;rintro e L ⟨rfl,n,m⟩;go_wp2_with fail
   refine(Ck b off _ _ (qC _ (by rw[lO,l])) m).mono ?_;rintro e M ⟨rfl,p,j⟩;have E:Hid (B6 (k+1)=rcN (B6 k)):=rfl;have D:Hid (sE d (k+1)=xK (sE d k) (rcC (B6 k))):=rfl;have t:=LZ k;generalize B6 k=r at *;go_wp2_with fail
   refine(qP r _ t).mono ?_;rintro e O ⟨rfl,rfl⟩;have F:(chi (zK (wE f))).size=25:=by rw[CC,qC _ (by rw[lO,l])]
   obtain⟨x,hx⟩:∃x,(chi (zK (wE f)))[0]! = x:=⟨_,rfl⟩
   obtain⟨H,B⟩:=bP j 0 oM hx;rw[Xm]at H B;have J:Hid ((chi (zK (wE f)))[0]! = x):=hx;clear hx;go_wp2_with fail
   go_region
   go_wp2;go_roundg (gk-1)
   case measure=>omega
   case rel =>
    refine⟨k+1,rcC r,xK f (rcC r),oM,by go_num,rfl,by rw[E.out],?_,?_,?_⟩
    ·exact Holds.drew (Holds.xor (i:=0) j oM J.out (rcC r))
    ·exact((((z.trans s).trans n).trans p).setCell (o:=off) oM oM _).drew
    ·rw[D.out,q.out];rfl
  ·have j:k=24:=oM;subst j;go_wp2
   go_end0
   refine⟨rfl,z,?_⟩;unfold perm;rw[<-q.out];exact y
end SP
namespace SP
open Go.RowKit Go.Sort Go.Deep
attribute [local go_sem] cY dW eC pB Er
theorem FQ{w:Ut}{b off:Nat}{d:Bs}(h:Holds encB w b off d)(i:Nat)(k:i<d.size){x:UInt8}(hx:d[i]! = x):
 w.cell? ⟨b,off+i,none⟩=some (.int .u8 (ub x))/\w.frozen? ⟨b,off+i,none⟩=false:=by
 rw[<-hx];exact h i k
theorem word_any(i f o len cap:Nat)(b:Bs)(w:Ut)(l:Holds encB w i f b)(s:8<=len)(ho:o+8<=b.size)(t:len<=4611686018427387904):
 UK prog 247 #[.slice (some ⟨i,f+o,none⟩) len cap] w λe w'=>e=.returned (uZ (u (wordOf b o)))/\w'=w:=by
 go_enter func247,ntmps247;go_wp2
 go_loop [3,5] (λs3 s5=>∃(k:Nat) (c:BitVec 64),k<=8/\s5=iZ k/\s3=uZ (u c)/\Hid (vW b o k=c)) (λ_ s5=>8-(intOf s5).toNat)
 case atStart=>exact⟨0,0,dC,rfl,rfl,rfl⟩
 case round =>
  obtain⟨k,c,q,rfl,rfl,g⟩:=hrel;by_cases j:k<8
  ·obtain⟨x,hx⟩:∃x,b[o+k]! = x:=⟨_,rfl⟩
   obtain⟨m,d⟩:=FQ l (o+k) oM hx;rw[<-WY]at m;have n:Hid (vW b o (k+1)=c ||| wide x <<< (8*k)):=by
    show vW b o k ||| wide b[o+k]! <<< (8*k)=_
    rw[g.out,hx]
   clear hx d;have p:=Iu (wide x) (8*k);have r:(k:Int)<(len:Int):=oM;go_wp2
   go_round
   case rel=>exact⟨k+1,_,oM,by go_num,rfl,n⟩
   case measure=>simp[intOf];omega
  ·have d:k=8:=oM;subst d;go_wp2;go_ret;unfold wordOf;rw[g.out];exact⟨rfl,rfl⟩
theorem MD(b off j f len cap:Nat)(c:Bs)(d:St)(w:Ut)(hd:d.size=25)(y:Holds enc w b off d)(t:Holds encB w j f c)(H:c.size=len)(s:len<=200)(r:len<=cap)
 (i:j≠b\/f+len<=off\/off+25<=f) :
 UK prog 240 #[.pointer (some ⟨b,off,none⟩),.slice (some ⟨j,f,none⟩) len cap] w λe w'=>e=.returned (.tuple #[])/\Only b off 25 w w'/\Holds enc w' b off (kY c d (len/8)):=by
 go_enter func240,ntmps240;go_wp2;go_loopg [8] (len/8) (λg s8 wr=>∃(k:Nat) (i:St),k+g=len/8/\s8=.int .i64 k/\Holds enc wr b off i/\Only b off 25 w wr/\Hid (i=kY c d k))
 case atStart=>exact⟨0,d,oM,rfl,y,Only.refl _ _ _ _,rfl⟩
 case round =>
  obtain⟨k,i,D,rfl,q,n,p⟩:=hrel;have A:i.size=25:=by rw[p.out,mC,hd]
  by_cases v:k<len/8
  ·have l:Holds encB wr j f c:=by
    by_cases m:j=b
    ·subst m;exact Holds.same t n oM
    ·exact Holds.other t n m oM
   obtain⟨x,hx⟩:∃x,i[k]! = x:=⟨_,rfl⟩
   obtain⟨I,C⟩:=bP q k oM hx;have a:Hid (i[k]! = x):=hx;clear hx;have G:(k:Int)<25:=oM;have J:(0:Int)<=(k:Int)*8:=oM;have B:(k:Int)*8<=(len:Int):=oM;have E:((k:Int)*8).toNat=8*k:=oM;have s1:VY.wrap ((k:Int)*8)=(k:Int)*8:=Ws _ oM;have lt:(k:Int)<(len:Int)/8:=oM;go_wp2_with fail
   have u:(cap=8*k)=False:=eq_false oM;have m:Hid (Holds encB wr.drew j f c):=Holds.drew l;have z:Hid (8*k+8<=c.size):=by show _<=_;omega
   clear l;go_region_with (go_at_call 247;refine(word_any j f (8*k) (len-8*k) (cap-8*k) c _ m.out oM z.out oM).mono ?_;rintro e F ⟨rfl,rfl⟩)
   all_goals
    go_wp2;go_roundg (gk-1)
    case measure=>omega
    case rel =>
     refine⟨k+1,bT i k (wordOf c (8*k)),oM,by go_num,?_,?_,?_⟩
     ·exact Holds.drew (Holds.xor q oM a.out _)
     ·exact(n.setCell (o:=off+k) oM oM _).drew
     ·rw[p.out];rfl
  ·have l:k=len/8:=oM;have lt:(len:Int)/8<=(k:Int):=oM;go_wp2
   go_end0
   refine⟨rfl,n,?_⟩;rw[<-l,<-p.out];exact q
theorem slice22:prog.underlying 23=some (.slice 5):=kR
theorem info5:(prog.info? 5).map (λi=>(i.zero,i.size,i.bytes))=some (some (.int .u8 0),1,1):=kR
attribute [local go_sem] NH
theorem sN(b off n:Nat)(d:St)(w:Ut)(hd:d.size=25)(q:Holds enc w b off d)(D:n<=200):
 UK prog 190 #[oZ b off,iZ n] w λe w'=>e=.returned (sZ w.heap.size n n)/\kZ w w'/\Holds encB w' w.heap.size 0 (front d n):=by
 have v:=Holds.lt q oM;have t:=yBK (P:=prog) 23 5 (.int .u8 0) 1 slice22 info5 rfl .i64 .i64 n oM oM;go_enter func190,ntmps190;go_wp2;generalize c:(w.alloc _)=s;go_loopg [11] n (λg s11 wr=>∃(k:Nat) (f:Bs),k+g=n/\s11=iZ k/\Holds encB wr w.heap.size 0 f/\Only w.heap.size 0 n s wr/\Hid (f=gQ d n k))
 case atStart =>
  refine⟨0,_,oM,rfl,?_,Only.refl _ _ _ _,rfl⟩;rw[<-c];exact Holds.made (enc:=encB) w 5 n 0
 case round =>
  obtain⟨k,f,B,rfl,j,l,p⟩:=hrel;have a:f.size=n:=by rw[p.out,mF]
  have u:Holds enc wr b off d:=Holds.other (by rw[<-c];exact Holds.below q ((UT _ _).alloc (Uy _) _) v) l oM oM;by_cases r:k<n
  ·obtain⟨x,hx⟩:∃x,d[k/8]! = x:=⟨_,rfl⟩
   obtain⟨C,A⟩:=bP u (k/8) oM hx;obtain⟨c1,m⟩:=j k oM;rw[UF]at c1 m;have y:Hid (byteOf d k=low (x >>> (8*(k%8)))):=by show low _=_;rw[hx]
   have z:=Ny x (8*(k%8));go_wp2;go_roundg (gk-1)
   case measure=>omega
   case rel =>
    refine⟨k+1,f.setIfInBounds k (low (x >>> (8*(k%8)))),oM,by go_num,?_,?_,?_⟩
    ·have:=Holds.set j (i:=k) oM (low (x >>> (8*(k%8))));rw[UF]at this;exact this
    ·exact l.setCell (o:=k) oM oM _
    ·show _=(gQ d n k).setIfInBounds k (byteOf d k);rw[y.out,p.out]
  ·have m:k=n:=oM;go_wp2;go_ret;refine⟨rfl,?_,?_⟩
   ·rw[<-c]at l;exact l.fresh
   ·unfold front;rw[p.out,m]at j;exact j
end SP
namespace SP
open Go.RowKit
structure Of where
 x:Nat
 y:Nat
 o:Array Nat
end SP
namespace SP
theorem zx(x:BitVec 64):0 ^^^ x=x:=BitVec.zero_xor
end SP
namespace SP
open Go.Sort
def vU:St:=UM 25 0
theorem Gi(j:Nat)(h:j<25):vU[j]! = 0:=by
 have k:j<(UM 25 (0:BitVec 64)).size:=by rw[UO];exact h
 unfold vU;rw[getElem!_pos (UM 25 (0:BitVec 64)) j k,Wr]
end SP
namespace SP
open Go.RowKit Go.Sort
def fill(i:Nat):UInt8:=UQ (i%251) ^^^ 165
def lentTo(s:ByteArray):Nat->Bs
 | 0=>s.data++UM 160 0
 | k+1=>(lentTo s k).setIfInBounds (s.size+k) (fill (s.size+k))
def lent(s:ByteArray):Bs:=lentTo s 160
variable {w w1:Ut}{b o n:Nat}
theorem heap_setCells(b:Nat)(c:k≠b):∀(vs:List Uv) (p:Nat) (w:Ut),(w.setCells b p vs).heap[k]? = w.heap[k]?
 | [],_,_=>rfl
 | v :: r,p,w=>by rw[World.setCells,heap_setCells b c r (p+1) _,YU _ _ _ _ c]
theorem Only.setCells(h:Only b o n w w1)(vs:List Uv)(p:Nat)(e:o<=p)(g:p+vs.length<=o+n):Only b o n w (w1.setCells b p vs):=by
 have c:=below_setCells (B:=0) (b:=b) (Wz _) vs p w1 (UT 0 w1);exact h.trans ⟨c.os,c.tape,c.output,c.size,λk _ d=>heap_setCells b d vs p w1,
  λq f=>yAg b vs p w1 ⟨b,q,none⟩ (λ_ _=>by simp only;omega),λq=>yAr b vs p w1 _⟩
theorem Holds.setCells{k r:Bs}(h:Holds encB w b o k)(vs:List Uv)(p:Nat)(f:r.size=k.size)(l:p+vs.length<=k.size)
 (g:∀j (c:j<vs.length),vs[j]=encB r[p+j]!) (d:∀j,j<k.size->j<p\/p+vs.length<=j->r[j]! = k[j]!):Holds encB (w.setCells b (o+p) vs) b o r:=by
 intro j c;rw[f]at c;rw[yAr];refine⟨?_,(h j c).2⟩;by_cases e:j<p\/p+vs.length<=j
 ·rw[yAg b vs (o+p) w ⟨b,o+j,none⟩ (λ_ _=>by simp only;omega),d j c e];exact(h j c).1
 ·have d:j-p<vs.length:=oM;have:=World.cell?_setCells_in b vs (o+p) w (λi m=>by
   have:=(h (p+i) oM).1;rw[<-WY]at this;rw[this];rfl) (j-p) d
  rw[show o+p+(j-p)=o+j by omega]at this;rw[this,g (j-p) d,show p+(j-p)=j by omega]
theorem app_front(a r:Bs)(j:Nat)(k:j<a.size):(a++r)[j]! = a[j]:=by
 have h:j<(a++r).size:=by rw[VP];omega
 rw[getElem!_pos (a++r) j h,YY k]
theorem app_back(a r:Bs)(j:Nat)(b:a.size<=j)(c:j<a.size+r.size):(a++r)[j]! = r[j-a.size]!:=by
 have h:j<(a++r).size:=by rw[VP];omega
 have k:j-a.size<r.size:=oM;rw[getElem!_pos (a++r) j h,Z8 b,getElem!_pos r (j-a.size) k]
theorem rep_at(n j:Nat)(h:j<n):(UM n (0:UInt8))[j]! = 0:=by
 have k:j<(UM n (0:UInt8)).size:=by rw[UO];exact h
 rw[getElem!_pos (UM n (0:UInt8)) j k,Wr]
theorem size_of5(P:VD)(e:Vb)(h:(P.info? e).map (·.size)=some 1):∀w,(yAl e).run P w=.ok 1 w:=by
 intro w;cases k:P.info? e with
 | none=>simp[k]at h
 | some i =>
  simp[k]at h;simp[yAl,typeInfo,k,h]
theorem conv_str(P:VD)(src k e:Vb)(i:P.underlying src=some (.slice e))(l:P.underlying e=some (.int .u8))(hd:P.underlying k=some .string)
 (w:Ut) (b o n cap:Nat) (c:Bs) (p:Holds encB w b o c) (r:c.size=n):(convert src k (.slice (some ⟨b,o,none⟩) n cap)).run P w=.ok (.string ⟨c⟩) w:=by
 have h:=run_convert_bytes_back (P:=P) w src k e ⟨b,o,none⟩ cap c.toList i l hd (λj m=>by
  have d:j<c.size:=by simpa using m
  have g:=(p j d).1;rw[getElem!_pos c j d]at g;have q:(⟨b,o,none⟩:Wv).add j=⟨b,o+j,none⟩:=by
   unfold Zr;by_cases f:j=0
   ·subst f;rfl
   ·rw[yCl f]
  rw[q,g];simp[encB,ub])
 simpa[r]using h
end SP
namespace SP
open Go.RowKit Go.Sort Go.Deep
theorem int5:prog.underlying 5=some (.int .u8):=kR
theorem str9:prog.underlying 9=some .string:=kR
theorem size5:∀w,(yAl 5).run prog w=.ok 1 w:=size_of5 prog 5 kR
end SP
namespace SP
open Go.Sort
theorem low_bit(v:BitVec 64)(i:Nat)(h:i<8):(low v).toNat.testBit i=v.getLsbD i:=by
 unfold low;rw[YQ,Nat.testBit_mod_two_pow,BitVec.getLsbD];simp[h]
theorem DW(d:St)(n k j:Nat)(e:k<=n)(b:j<n):(gQ d n k)[j]! = if j<k then byteOf d j else 0:=by
 induction k with
 | zero =>
  have c:j<(UM n (0:UInt8)).size:=by rw[UO];exact b
  rw[gQ,getElem!_pos (UM n (0:UInt8)) j c,Wr,yCl oM]
 | succ k ih =>
  rw[gQ];by_cases h:j=k
  ·subst h;rw[getElem!_set_same _ _ _ (by rw[mF];exact b),yCk oM]
  ·rw[getElem!_set_other _ _ _ _ h,ih oM];by_cases c:j<k
   ·rw[yCk c,yCk oM]
   ·rw[yCl c,yCl oM]
theorem Jy(d:St)(n j:Nat)(k:j<n):(front d n)[j]! = byteOf d j:=by
 unfold front;rw[DW d n n j (Uy _) k,yCk k]
/-! ### The sponge, byte by byte -/
structure Sp where
  d : St
  p : Bs
  h : Nat
structure Ok(S:Sp):Prop where
 d25:S.d.size=25
 p136:S.p.size=136
 hlt:S.h<136
def jX(S:Sp):Sp:={ d:=perm (kY S.p S.d 17),p:=S.p,h:=0 }
def Dw(S:Sp)(x:UInt8):Sp:=
 if S.h+1=136 then jX { d:=S.d,p:=S.p.setIfInBounds S.h x,h:=S.h } else { d:=S.d,p:=S.p.setIfInBounds S.h x,h:=S.h+1 }
def fV(S:Sp)(l:List UInt8):Sp:=l.foldl Dw S
def splice(p:Bs):Nat->List UInt8->Bs
 | _,[]=>p
 | i,x :: r=>splice (p.setIfInBounds i x) (i+1) r
theorem lP(S:Sp)(a b:List UInt8):fV S (a++b)=fV (fV S a) b:=List.foldl_append
theorem dN(p:Bs)(i:Nat)(l:List UInt8):(splice p i l).size=p.size:=by
 induction l generalizing p i with
 | nil=>rfl
 | cons x r ih=>rw[splice,ih,Vz]
theorem kP(p:Bs)(i:Nat)(l:List UInt8)(j:Nat)(c:i+l.length<=p.size)(k:j<p.size):(splice p i l)[j]! = if i<=j/\j<i+l.length then l[j-i]! else p[j]!:=by
 induction l generalizing p i with
 | nil=>simp[splice];omega
 | cons x r ih =>
  simp only[Vg]at c;rw[splice,ih _ _ (by rw[Vz];omega) (by rw[Vz];exact k)];by_cases h:j=i
  ·subst h;rw[yCl oM,getElem!_set_same _ _ _ k,yCk (by simp),YH];rfl
  ·rw[getElem!_set_other _ _ _ _ h];by_cases b:i+1<=j/\j<i+1+r.length
   ·rw[yCk b,yCk (by simp;omega),show j-i=(j-(i+1))+1 by omega];rfl
   ·rw[yCl b,yCl (by simp;omega)]
theorem nU(d:St)(p:Bs)(h:Nat):jX ⟨d,p,h⟩=⟨perm (kY p d 17),p,0⟩:=by unfold jX;rfl
theorem LH(S:Sp):(jX S).d=perm (kY S.p S.d 17):=by
 obtain⟨d,p,h⟩:=S;rw[nU]
theorem LD(S:Sp):(jX S).p=S.p:=by
 obtain⟨d,p,h⟩:=S;rw[nU]
theorem LG(S:Sp):(jX S).h=0:=by
 obtain⟨d,p,h⟩:=S;rw[nU]
theorem LC(k:S.d.size=25)(b:S.p.size=136):Ok (jX S):=by
 have hd:(kY S.p S.d 17).size=25:=by rw[mC,k]
 refine⟨?_,by rw[LD,b],?_⟩
 ·rw[LH];exact rY _ hd
 ·rw[LG];decide
theorem Ma(h:Ok S)(x:UInt8):Ok (Dw S x):=by
 have:=h.hlt;unfold Dw;by_cases e:S.h+1=136
 ·rw[yCk e];exact LC h.d25 (by show(S.p.setIfInBounds _ _).size=136;rw[Vz];exact h.p136)
 ·rw[yCl e];exact⟨h.d25,by show(S.p.setIfInBounds _ _).size=136;rw[Vz];exact h.p136,by show S.h+1<136;omega⟩
theorem jF(h:Ok S)(l:List UInt8):Ok (fV S l):=by
 induction l generalizing S with
 | nil=>exact h
 | cons x r ih=>exact ih (Ma h x)
theorem tK(S:Sp)(l:List UInt8)(c:l≠[])(k:S.h+l.length<=136):
 fV S l=if S.h+l.length=136 then jX { d:=S.d,p:=splice S.p S.h l,h:=S.h } else { d:=S.d,p:=splice S.p S.h l,h:=S.h+l.length }:=by
 induction l generalizing S with
 | nil=>exact absurd rfl c
 | cons x r ih =>
  show fV (Dw S x) r=_;simp only[Vg]at k⊢;cases r with
  | nil =>
   unfold Dw fV splice;simp only[List.foldl_nil,WO];by_cases e:S.h+1=136
   ·rw[yCk e,yCk oM];rfl
   ·rw[yCl e,yCl oM];rfl
  | cons y r' =>
   have e:¬S.h+1=136:=by simp only[Vg]at k;omega
   have f:Dw S x = { d:=S.d,p:=S.p.setIfInBounds S.h x,h:=S.h+1 }:=by unfold Dw;rw[yCl e]
   rw[f,ih _ (by simp) (by simp only[Vg]at k⊢;omega)];simp only[splice,Vg];by_cases b:S.h+(r'.length+1+1)=136
   ·rw[yCk oM,yCk b];rfl
   ·rw[yCl oM,yCl b,show S.h+1+(r'.length+1)=S.h+(r'.length+1+1) by omega]
/-! ### The end -/
def ended(p : Bs)(h : Nat)(e : UInt8): Bs:=
  let q:=(splice p h (VG (136-h) 0)).setIfInBounds h e
  q.setIfInBounds 135 (q[135]! ^^^ 128)
def sP(S:Sp)(e:UInt8):Sp:=jX { d:=S.d,p:=ended S.p S.h e,h:=S.h }
def jV(h:Nat)(e:UInt8):List UInt8:=
 (e :: VG (135-h) 0).set (135-h) ((e :: VG (135-h) 0)[135-h]! ^^^ 128)
theorem fN(h:Nat)(e:UInt8)(hh:h<136):(jV h e).length=136-h:=by
 unfold jV;rw[List.length_set,Vg,Xp];omega
theorem Qa(a b:Bs)(n:Nat)(e:a.size=n)(d:b.size=n)(h:∀j,j<n->a[j]! = b[j]!):a=b:=by
 apply yB7 oM;intro i k c;have:=h i oM;rwa[getElem!_pos a i k,getElem!_pos b i c]at this
theorem O2(h:Nat)(e:UInt8)(j:Nat)(c:j<136-h)(hh:h<136):(jV h e)[j]! = (if j=0 then e else 0) ^^^ (if j=135-h then 128 else 0):=by
 have f:∀j,j<136-h->(e :: VG (135-h) (0:UInt8))[j]! = if j=0 then e else 0:=by
  intro j c;cases j with
  | zero=>rfl
  | succ j =>
   have b:j+1<(e :: VG (135-h) (0:UInt8)).length:=by rw[Vg,Xp];omega
   rw[getElem!_pos (e :: VG (135-h) (0:UInt8)) (j+1) b];simp
 have k:=fN h e hh;have b:j<(e :: VG (135-h) (0:UInt8)).length:=by rw[Vg,Xp];omega
 rw[getElem!_pos (jV h e) j (by rw[k];exact c)];unfold jV;rw[List.getElem_set];by_cases d:135-h=j
 ·rw[yCk d,f (135-h) oM,d,yCk (rfl:j=j)]
 ·rw[yCl d,yCl (show ¬j=135-h by omega)];have:=f j c;rw[getElem!_pos (e :: VG (135-h) (0:UInt8)) j b]at this;rw[this];simp
theorem DZ(p:Bs)(h:Nat)(e:UInt8):(ended p h e).size=p.size:=by
 unfold ended;simp only[Vz,dN]
theorem BV(n j:Nat)(h:j<n):(VG n (0:UInt8))[j]! = 0:=by
 rw[getElem!_pos _ j (by simpa using h)];simp
theorem JH(p:Bs)(h:Nat)(e:UInt8)(c:p.size=136)(hh:h<136):ended p h e=splice p h (jV h e):=by
 have g:(splice p h (VG (136-h) 0)).size=136:=by rw[dN,c]
 refine Qa _ _ 136 (by rw[DZ,c]) (by rw[dN,c]) (λj f=>?_);have d:∀j,j<136->((splice p h (VG (136-h) 0)).setIfInBounds h e)[j]! = if j<h then p[j]! else if j=h then e else 0:=by
  intro j f;by_cases k:j=h
  ·rw[k,getElem!_set_same _ _ _ oM,yCl oM,yCk rfl]
  ·rw[getElem!_set_other _ _ _ _ k,kP _ _ _ _ (by rw[Xp,c];omega) oM,Xp];by_cases b:j<h
   ·rw[yCl oM,yCk b]
   ·rw[yCk oM,yCl b,yCl k,BV _ _ oM]
 have hR:(splice p h (jV h e))[j]! = if j<h then p[j]! else(if j=h then e else 0) ^^^ (if j=135 then 128 else 0):=by
  rw[kP _ _ _ _ (by rw[fN h e hh,c];omega) oM,fN h e hh];by_cases b:j<h
  ·rw[yCl (show ¬(h<=j/\j<h+(136-h)) by omega),yCk b]
  ·rw[yCk (show h<=j/\j<h+(136-h) by omega),yCl b,O2 h e _ oM hh];have i:(j-h=0)=(j=h):=by apply propext;omega
   have k:(j-h=135-h)=(j=135):=by apply propext;omega
   simp only[i,k]
 have i:(ended p h e)[j]! = if j<h then p[j]! else(if j=h then e else 0) ^^^ (if j=135 then 128 else 0):=by
  unfold ended;by_cases k:j=135
  ·rw[k,getElem!_set_same _ _ _ (by rw[Vz,g];decide),d 135 dC,yCl (show ¬135<h by omega),yCl (show ¬135<h by omega),yCk (rfl:135=135)]
  ·rw[getElem!_set_other _ _ _ _ k,d j f];by_cases b:j<h
   ·rw[yCk b,yCk b]
   ·rw[yCl b,yCl b,yCl k];simp
 rw[i,hR]
theorem GP(h:Ok S)(e:UInt8):sP S e=fV S (jV S.h e):=by
 have:=h.hlt;have k:=fN S.h e h.hlt;rw[tK S _ (by intro c;rw[c]at k;simp at k;omega) oM,yCk oM];unfold sP;rw[JH _ _ _ h.p136 h.hlt]
end SP
namespace SP
open Go.RowKit Go.Sort Go.Deep
theorem Only.widen{b o n:Nat}{w w':Ut}(h:Only b o n w w')(e:k<=o)(f:o+n<=k+c):Only b k c w w':=
 ⟨h.os,h.tape,h.output,h.size,h.block,λq d=>h.cell q oM,h.froz⟩
structure HSp(w:Ut)(b:Nat)(S:Sp):Prop where
 d:Holds enc w b 0 S.d
 p:Holds encB w b 25 S.p
 h:w.cell? ⟨b,161,none⟩=some (iZ (S.h:Int))
 f:w.frozen? ⟨b,161,none⟩=false
theorem HSp.drew{w:Ut}{b:Nat}(h:HSp w b S):HSp w.drew b S:=⟨h.d,h.p,h.h,h.f⟩
theorem HSp.lt{w:Ut}{b:Nat}(h:HSp w b S):b<w.heap.size:=Xf _ _ h.h
theorem HSp.below{w w':Ut}{b B:Nat}(h:HSp w b S)(k:Below B w w')(c:b<B):HSp w' b S:=
 ⟨Holds.below h.d k c,Holds.below h.p k c,by rw[k.cell (p:=⟨b,161,none⟩) c];exact h.h,by rw[k.frozen (p:=⟨b,161,none⟩) c];exact h.f⟩
theorem wH(b:Nat)(S:Sp)(w:Ut)(f:S.d.size=25)(g:S.p.size=136)(o:HSp w b S):
 UK prog 225 #[.pointer (some ⟨b,0,none⟩)] w λe w'=>e=.returned (.tuple #[])/\Only b 0 162 w w'/\HSp w' b (jX S):=by
 obtain⟨d,p,h⟩:=S;dsimp only at f g;have D:Holds enc w b 0 d:=o.d;have a:Holds encB w b 25 p:=o.p;have A:=o.h;have hf:=o.f;dsimp only at A;rw[nU];clear o;have x:(perm (kY p d 17)).size=25:=rY _ (by rw[mC,f]);generalize q:perm (kY p d 17)=C at x⊢;have y:Hid (perm (kY p d 17)=C):=q;clear q;go_enter func225,ntmps225;go_wp2;go_still_tail 7,mixed;go_wp2_with fail
 refine(MD b 0 b 25 136 136 p d _ f (Holds.drew D) (Holds.drew a) g dC (Uy _) oM).mono ?_;rintro e s ⟨rfl,m,r⟩;have k:Only b 0 25 w s:=((Only.refl b 0 25 w).drew).trans m;have l:Holds enc s b 0 (kY p d 17):=r;have z:=Holds.same a k oM;have c1:s.cell? ⟨b,161,none⟩=some (.int .i64 h):=by rw[k.cell 161 oM];exact A
 have B:s.frozen? ⟨b,161,none⟩=false:=by rw[k.froz];exact hf
 clear m r;go_wp2_with fail
 refine(tQ b 0 _ _ (by rw[mC,f]) l).mono ?_;rintro e n ⟨rfl,c,j⟩;rw[y.out]at j;have u:=Holds.same z c oM;have c2:n.cell? ⟨b,161,none⟩=some (.int .i64 h):=by rw[c.cell 161 oM];exact c1
 have f2:n.frozen? ⟨b,161,none⟩=false:=by rw[c.froz];exact B
 go_wp2
 go_end0
 have i:Only b 161 1 n (n.setCell ⟨b,161,none⟩ (.int .i64 0)):=(Only.refl b 161 1 n).setCell oM oM _;have t:=Holds.same j i (U6 oM);have v:=Holds.same u i (U6 oM);exact⟨rfl,((k.trans c).widen (Uy _) oM).trans (i.widen oM oM),⟨t,v,VU _ _ _ c2,by rw[VK];exact f2⟩⟩
theorem ints5:(prog.info? 5).map (·.size)=some 1:=kR
theorem iU{w:Ut}{b o:Nat}{p:Bs}(h:Holds encB w b o p)(i:Nat)(l:List UInt8)(d:i+l.length<=p.size):Holds encB (w.setCells b (o+i) (l.map encB)) b o (splice p i l):=by
 refine Holds.setCells h _ i (dN p i l) (by rw[US];exact d) (λj c=>?_) (λj c k=>?_)
 ·rw[US]at c;rw[kP p i l (i+j) d oM,yCk oM,WH,getElem!_pos l j c,Xi]
 ·rw[US]at k;rw[kP p i l j d c,yCl oM]
def piece(b:Bs)(k n:Nat):List UInt8:=(b.toList.drop k).take n
theorem qV(b:Bs)(k n:Nat)(h:k+n<=b.size):(piece b k n).length=n:=by
 unfold piece;rw[List.length_take,List.length_drop,UL];omega
theorem piece_at(b:Bs)(k n j:Nat)(h:k+n<=b.size)(c:j<n)(d:j<(piece b k n).length):(piece b k n)[j]=b[k+j]!:=by
 have e:(piece b k n)[j]? = some b[k+j]!:=by
  unfold piece;rw[List.getElem?_take_of_lt c,List.getElem?_drop,Vt,UZ oM,getElem!_pos b (k+j) oM]
 exact(UG.1 e).2
theorem Dd(b:Bs)(k n:Nat):b.toList.take (k+n)=b.toList.take k++piece b k n:=List.take_add
theorem D5{w:Ut}{b h o len n:Nat}{p d:Bs}(i:Holds encB w b 25 p)(z:p.size=136)(r:Holds encB w f o d)(hh:h<136)(a:k+len<=d.size)(g:XV len (136-h)=n):
 (Ya #[23,23] 3 #[.slice (some ⟨b,25+h,none⟩) (136-h) (136-h),.slice (some ⟨f,o+k,none⟩) len cap]).run prog w=.ok (goInt n) (w.setCells b (25+h) ((piece d k n).map encB)):=by
 have s:n<=len:=by rw[<-g];exact yAj _ _
 have t:n<=136-h:=by rw[<-g];exact Z9 _ _
 have c:((piece d k n).map encB).length=n:=by rw[US,qV d k n oM]
 have:=run_copy_cells (P:=prog) w 23 23 3 5 b (25+h) (136-h) (136-h) ⟨f,o+k,none⟩ len cap ((piece d k n).map encB) slice22 ints5 (by rw[c,g])
  (λj v e=>by
   obtain⟨l,q⟩:=UG.1 e;rw[c]at l;have u:=(r (k+j) oM).1;rw[Xi,piece_at d k n j oM l]at q;have y:(⟨f,o+k,none⟩:Wv).add j=⟨f,o+(k+j),none⟩:=by
    unfold Zr;by_cases m:j=0
    ·subst m;rw[yCk rfl];rfl
    ·rw[yCl m,WY]
   rw[y,u,q])
  (λj e=>by
   rw[c]at e;have:=(i (h+j) oM).1;rw[<-WY]at this;rw[this];rfl)
  (λj e=>by
   rw[c]at e;have:=(i (h+j) oM).2;rw[<-WY]at this;exact this)
  (λv hv=>by
   obtain⟨x,_,rfl⟩:=Vn.1 hv;rfl)
 rw[c]at this;exact this
theorem rD{w:Ut}{b:Nat}{d:St}{p:Bs}{v:Uv}(i:Holds enc w b 0 d)(l:d.size=25)(j:Holds encB w b 25 p)(f:p.size=136)(g:w.cell? ⟨b,161,none⟩=some v)(hf:w.frozen? ⟨b,161,none⟩=false)(m:Nat):
 HSp (w.setCell ⟨b,161,none⟩ (iZ ((m:Nat):Int))) b ⟨d,p,m⟩:=by
 have e:Only b 161 1 w (w.setCell ⟨b,161,none⟩ (iZ ((m:Nat):Int))):=(Only.refl b 161 1 w).setCell oM oM _;have k:=Holds.same i e (U6 oM);have c:=Holds.same j e (U6 oM);exact⟨k,c,VU _ _ _ g,by rw[VK];exact hf⟩
theorem take_any(b:Nat)(S:Sp)(a:Option Wv)(v B len cap:Nat)(d:Bs)(w:Ut)(X:Ok S)(hS:HSp w b S)(hl:d.size=len)(h2:len<=cap)(h1:len<=1099511627776)
 (c:len=0\/(a=some ⟨v,B,none⟩/\v≠b/\Holds encB w v B d)) :
 UK prog 224 #[.pointer (some ⟨b,0,none⟩),.slice a len cap] w λe w'=>e=.returned (.tuple #[])/\Only b 0 162 w w'/\HSp w' b (fV S d.toList):=by
 go_enter func224,ntmps224;go_wp2;go_loopg [1] len (λg s1 wr=>∃(k:Nat) (Q:Option Wv) (j:Sp),k+g=len/\s1=.slice Q (len-k) (cap-k)/\(k<len->Q=some ⟨v,B+k,none⟩)/\HSp wr b j/\Only b 0 162 w wr/\Hid (j=fV S (d.toList.take k)))
 case atStart =>
  refine⟨0,a,S,oM,rfl,λf=>?_,hS,Only.refl _ _ _ _,rfl⟩;rcases c with h|⟨h,_,_⟩
  ·omega
  ·exact h
 case round =>
  obtain⟨k,Q,j,hk,rfl,O,p,N,Z⟩:=hrel;by_cases T:k<len
  ·have Y:=O T;subst Y;obtain⟨_,P,hB⟩:a=some ⟨v,B,none⟩/\v≠b/\Holds encB w v B d:=by
    rcases c with h|h
    ·omega
    ·exact h
   have I:=Holds.other hB N P oM;have i:Ok j:=by rw[Z.out];exact jF X _
   obtain⟨q,hh⟩:∃q,j.h=q:=⟨_,rfl⟩
   have r:=i.hlt;have C:=i.p136;rw[hh]at r;have hc:=p.h;have hf:=p.f;rw[hh]at hc;have W:=p.p;obtain⟨n,H⟩:∃n,XV (len-k) (136-q)=n:=⟨_,rfl⟩
   have l0:(0:Int)<((len-k:Nat):Int):=oM;have V:(q:Int)<=136:=oM;have Hh:Hid (j.h=q):=hh;clear hh;have L:=eq_false oM;have h4:1<=n:=by rw[<-H];exact(Nat.le_min).2 ⟨oM,oM⟩
   have h5:n<=len-k:=by rw[<-H];exact yAj _ _
   have h3:n<=136-q:=by rw[<-H];exact Z9 _ _
   have U:=D5 (w:=wr.drew) (cap:=cap-k) (k:=k) W C I r oM H;have u:=qV d k n oM;have s:=iU (Holds.drew W) q (piece d k n) oM;have x:Only b 0 162 w (wr.drew.setCells b (25+q) ((piece d k n).map encB)):=N.drew.setCells _ _ oM (by rw[US];omega);have A:Only b 25 136 wr (wr.drew.setCells b (25+q) ((piece d k n).map encB)):=((Only.refl b 25 136 wr).drew).setCells _ _ oM (by rw[US];omega);have t:=Holds.same p.d A (U6 (by rw[i.d25];omega));have c1:(wr.drew.setCells b (25+q) ((piece d k n).map encB)).cell? ⟨b,161,none⟩=some (.int .i64 q):=by rw[A.cell 161 oM];exact hc
   have K:(wr.drew.setCells b (25+q) ((piece d k n).map encB)).frozen? ⟨b,161,none⟩=false:=by rw[A.froz];exact hf
   have M:Hid (fV S (d.toList.take (k+n))=fV j (piece d k n)):=by
    show _=_;rw[Dd,lP,<-Z.out]
   have f:Hid (fV j (piece d k n)=if q+n=136 then jX ⟨j.d,splice j.p q (piece d k n),q⟩ else⟨j.d,splice j.p q (piece d k n),q+n⟩):=by
    show _=_;have:=tK j (piece d k n) (by intro e;rw[e]at u;simp at u;omega) (by rw[u,Hh.out];omega);rw[u,Hh.out]at this;exact this
   have m:(splice j.p q (piece d k n)).size=136:=by rw[dN,C]
   have l:=i.d25;generalize R:wr.drew.setCells b (25+q) ((piece d k n).map encB)=W1 at U s x t c1 K;generalize splice j.p q (piece d k n)=F at s m f;generalize j.d=E at t l f;clear A R W I i u p C H;have z1:(n:Int)<=((len-k:Nat):Int):=oM;by_cases z:cap-k=n
   ·have J:(cap-k=n)=True:=eq_true z;have G:Hid (cap-k=n):=z;clear z;by_cases c:q+n=136
    ·have hb:((q:Int)+(n:Int) == 136)=true:=beq_iff_eq.2 oM;rw[yCk c]at f;go_wp2_with fail
     go_still_tail 9,mixed;go_wp2_with fail
     refine(wH b ⟨E,F,q+n⟩ _ l m (rD t l s m c1 K (q+n))).mono ?_;rintro e w2 ⟨rfl,D,y⟩;go_wp2;go_roundg (gk-n)
     case measure=>omega
     case rel =>
      refine⟨k+n,some ⟨v,B+k,none⟩,jX ⟨E,F,q⟩,oM,by rw[Yq,Yq],λhx=>by have:=G.out;omega,?_,?_,?_⟩
      ·rw[nU]at y⊢;exact y
      ·exact(x.setCell (o:=161) oM oM _).trans D
      ·rw[M.out,f.out];rfl
    ·have hb:=beq_eq_false_iff_ne.2 oM;rw[yCl c]at f;go_wp2_with fail
     go_still_tail 9,mixed;go_wp2;go_roundg (gk-n)
     case measure=>omega
     case rel =>
      refine⟨k+n,some ⟨v,B+k,none⟩,⟨E,F,q+n⟩,oM,by rw[Yq,Yq],λhx=>by have:=G.out;omega,?_,?_,?_⟩
      ·exact rD t l s m c1 K (q+n)
      ·exact x.setCell (o:=161) oM oM _
      ·rw[M.out,f.out];rfl
   ·have J:=eq_false z;by_cases c:q+n=136
    ·have hb:=beq_iff_eq.2 oM;rw[yCk c]at f;go_wp2_with fail
     go_still_tail 9,mixed;go_wp2_with fail
     refine(wH b ⟨E,F,q+n⟩ _ l m (rD t l s m c1 K (q+n))).mono ?_;rintro e w2 ⟨rfl,D,y⟩;go_wp2;go_roundg (gk-n)
     case measure=>omega
     case rel =>
      refine⟨k+n,some ⟨v,B+k+n,none⟩,jX ⟨E,F,q⟩,oM,by rw[Yq,Yq],λ_=>by rw[WY],?_,?_,?_⟩
      ·rw[nU]at y⊢;exact y
      ·exact(x.setCell (o:=161) oM oM _).trans D
      ·rw[M.out,f.out];rfl
    ·have hb:=beq_eq_false_iff_ne.2 oM;rw[yCl c]at f;go_wp2_with fail
     go_still_tail 9,mixed;go_wp2;go_roundg (gk-n)
     case measure=>omega
     case rel =>
      refine⟨k+n,some ⟨v,B+k+n,none⟩,⟨E,F,q+n⟩,oM,by rw[Yq,Yq],λ_=>by rw[WY],?_,?_,?_⟩
      ·exact rD t l s m c1 K (q+n)
      ·exact x.setCell (o:=161) oM oM _
      ·rw[M.out,f.out];rfl
  ·have c:k=len:=oM;go_wp2
   go_end0
   refine⟨rfl,N,?_⟩;have Y:d.toList.take k=d.toList:=Zi (by rw[UL];omega);rw[Z.out,Y]at p;exact p
theorem qZ(x:UInt8):Xg 8 (x.toNat:Int)=x.toBitVec:=by
 apply yAx;rw[Zm,YP];exact UU x.toNat_lt
theorem Ak(x y:UInt8):bits .xor .u8 (ub x) (ub y)=ub (x ^^^ y):=by
 show XF.wrap ((Xg 8 (x.toNat:Int) ^^^ Xg 8 (y.toNat:Int)).toNat:Int)=_;rw[qZ,qZ,<-UInt8.toBitVec_xor];have h:((x ^^^ y).toNat:Int)<256:=by have:=(x ^^^ y).toNat_lt;omega
 have e:∀n:Int,XF.wrap n=n%256:=λn=>by simp[yBo,yBp,yA3]
 rw[e];exact yBc (Int.natCast_nonneg _) h
theorem Qu(x:UInt8):bits .xor .u8 (ub x) 128=ub (x ^^^ 128):=Ak x 128
theorem Qt:∀w:Ut,(zeroValue 5).run prog w=.ok (.int .u8 0) w:=λ_=>kR
theorem CB{w:Ut}{b:Nat}{p:Bs}(k:Holds encB w b 25 p)(e:p.size=136)(f:q<136)(c:Vb):
 (Builtin.clear_ #[23] c #[.slice (some ⟨b,25+q,none⟩) (136-q) (136-q)]).run prog w=.ok (.tuple #[]) (w.setCells b (25+q) ((VG (136-q) (0:UInt8)).map encB)):=by
 have h:=Lib.run_clear_slice (P:=prog) w 23 5 c (.int .u8 0) slice22 Qt rfl rfl b (25+q) (136-q) (136-q) oM
  (λj d=>by
   have:=(k (q+j) oM).1;rw[<-WY]at this;rw[this];rfl)
  (λj d=>by
   have:=(k (q+j) oM).2;rw[<-WY]at this;exact this)
 rw[List.map_replicate];exact h
theorem Fx(b:Nat)(S:Sp)(e:UInt8)(w:Ut)(l:Ok S)(A:HSp w b S):
 UK prog 189 #[.pointer (some ⟨b,0,none⟩),.int .u8 (ub e)] w λr w'=>r=.returned (.tuple #[])/\Only b 0 162 w w'/\HSp w' b (sP S e):=by
 obtain⟨d,p,q⟩:=S;have G:d.size=25:=l.d25;have n:p.size=136:=l.p136;have T:q<136:=l.hlt;have V:Holds enc w b 0 d:=A.d;have E:Holds encB w b 25 p:=A.p;have R:w.cell? ⟨b,161,none⟩=some (.int .i64 q):=A.h;have hf:=A.f;have y:=CB (Holds.drew E) n T 0;have u:Only b 25 136 w (w.drew.setCells b (25+q) ((VG (136-q) (0:UInt8)).map encB)):=((Only.refl b 25 136 w).drew).setCells _ _ oM (by rw[US,Xp];omega);have j:=iU (Holds.drew E) q (VG (136-q) (0:UInt8)) (by rw[Xp];omega);have z:(splice p q (VG (136-q) 0)).size=136:=by rw[dN,n]
 have a:Hid (sP ⟨d,p,q⟩ e=jX ⟨d,((splice p q (VG (136-q) 0)).setIfInBounds q e).setIfInBounds 135 (((splice p q (VG (136-q) 0)).setIfInBounds q e)[135]! ^^^ 128),q⟩):=by
  show _=_;unfold sP ended;rfl
 generalize w.drew.setCells b (25+q) ((VG (136-q) (0:UInt8)).map encB)=B at y u j;generalize splice p q (VG (136-q) 0)=U at j z a;have D:(136=q)=False:=eq_false oM;have F:(q:Int)<=136:=oM;have C:(q:Int)<136:=oM;have c1:B.cell? ⟨b,161,none⟩=some (.int .i64 q):=by rw[u.cell 161 oM];exact R
 obtain⟨c2,f2⟩:=j q oM;obtain⟨k,c⟩:∃s,U.setIfInBounds q e=s:=⟨_,rfl⟩
 rw[c]at a;have K:k.size=136:=by rw[<-c,Vz,z]
 obtain⟨x,hx⟩:∃x,k[135]! = x:=⟨_,rfl⟩
 rw[hx]at a;have P:=Qu x;have t:=Holds.set j (i:=q) oM e;rw[c]at t;have v:Only b 25 136 w (B.setCell ⟨b,25+q,none⟩ (.int .u8 (ub e))):=u.setCell (o:=25+q) oM oM _;have g:Holds encB (B.setCell ⟨b,25+q,none⟩ (.int .u8 (ub e))) b 25 k:=t;have W:Hid (k[135]! = x):=hx;rw[a.out];clear A l E c hx t a;have M:(k.setIfInBounds 135 (x ^^^ 128)).size=136:=by rw[Vz,K]
 go_enter func189,ntmps189;go_wp2;go_still_tail 8,mixed;go_wp2_with fail
 go_region
 go_wp2_with fail
 generalize B.setCell ⟨b,25+q,none⟩ (.int .u8 (ub e))=L at g v⊢;obtain⟨Y,Z⟩:=FQ g 135 oM W.out;clear c1 c2 f2 y j;go_region
 go_wp2_with fail
 have J:=Holds.set g (i:=135) oM (x ^^^ 128);have f:Only b 25 136 w (L.setCell ⟨b,160,none⟩ (.int .u8 (ub (x ^^^ 128)))):=v.setCell (o:=160) oM oM _;have m:Holds encB (L.setCell ⟨b,160,none⟩ (.int .u8 (ub (x ^^^ 128)))) b 25 (k.setIfInBounds 135 (x ^^^ 128)):=J;generalize L.setCell ⟨b,160,none⟩ (.int .u8 (ub (x ^^^ 128)))=Q at m f⊢;have H:Holds enc Q b 0 d:=Holds.same V f (U6 oM);have I:HSp Q b ⟨d,k.setIfInBounds 135 (x ^^^ 128),q⟩:=⟨H,m,by rw[f.cell 161 oM];exact R,by rw[f.froz];exact hf⟩
 refine(wH b ⟨d,k.setIfInBounds 135 (x ^^^ 128),q⟩ _ G M I.drew.drew).mono ?_;rintro r X ⟨rfl,N,O⟩;go_wp2
 go_end0
 exact⟨rfl,(f.drew.drew.widen oM oM).trans N,O⟩
end SP
namespace SP
open Go.Sort
def gZ(d:St):Nat->St
 | 0=>d
 | m+1=>perm (gZ d m)
theorem dT(d:St)(hd:d.size=25)(m:Nat):(gZ d m).size=25:=by
 induction m with
 | zero=>exact hd
 | succ m ih=>exact rY _ ih
def jG(d:St)(j:Nat):UInt8:=byteOf (gZ d (j/136)) (j%136)
def lS(d:St)(n:Nat):Bs:=Array.ofFn (λi:Fin n=>jG d i.val)
theorem lQ(d:St)(n:Nat):(lS d n).size=n:=by simp[lS]
theorem Di(d:St)(n j:Nat)(k:j<n):(lS d n)[j]! = jG d j:=by
 rw[getElem!_pos (lS d n) j (by rw[lQ];exact k)];simp[lS]
def S0:Sp:=⟨vU,UM 136 0,0⟩
theorem CW:Ok S0:=⟨by simp[S0,vU],by simp[S0],dC⟩
def yU(l:List UInt8)(e:UInt8):St:=(sP (fV S0 l) e).d
theorem uH(l:List UInt8)(e:UInt8):(yU l e).size=25:=by
 unfold yU;have h:=jF CW l;rw[GP h];exact(jF h _).d25
def Jo(l:List UInt8):Bs:=front (yU l 6) 32
def qL(l:List UInt8)(n:Nat):Bs:=lS (yU l 31) n
end SP
namespace SP
open Go.RowKit Go.Sort Go.Deep
theorem uG{w:Ut}{l n:Nat}{cur f:Bs}(y:Holds encB w g 0 cur)(D:cur.size=cap)(A:Holds encB w r 0 f)(a:f.size=n)(p:k=n)(e:l+n<=cap)(s:Vb):
 (Vx #[23,23] s #[sZ g l cap,sZ r k c]).run prog w=.ok (sZ g (l+n) cap) (w.setCells g l (f.toList.map encB)):=by
 subst p;obtain⟨i,C,_,d,_⟩:=info_parts info5;have b:(f.toList.map encB).length=k:=by rw[US,UL,a]
 have m:Src prog i.size 23 (sZ r k c) k (f.toList.map encB) w:=by
  rw[d];refine Src.ofSlice w slice22 (aZ r) k c _ (by rw[b,XY]) (λj v o=>?_) (λv hv=>?_)
  ·obtain⟨z,t⟩:=UG.1 o;rw[b]at z;have u:=(A j oM).1;rw[getElem!_pos f j oM]at u;rw[Xi,XG]at t;have B:(⟨r,0,none⟩:Wv).add j=⟨r,0+j,none⟩:=by
    unfold Zr;by_cases q:j=0
    ·subst q;rw[yCk rfl]
    ·rw[yCl q]
   rw[B,u,t]
  ·obtain⟨x,_,rfl⟩:=Vn.1 hv;rfl
 have h:=run_append_room_src (P:=prog) w 23 23 s 5 i slice22 C g 0 l cap (sZ r k c) k _ m e
  (λj o=>by
   rw[b]at o;rw[d,XY,WY,(y (l+j) oM).1];rfl)
  (λj o=>by
   rw[b]at o;rw[d,XY,WY];exact(y (l+j) oM).2)
 rw[d,XY,UF]at h;exact h
theorem Only.with_new{b o n m p:Nat}{w c d:Ut}(h:Only b o n w c)(k:Only g p m c d)(s:w.heap.size<=g)(t:b<w.heap.size):Only b o n w d:=by
 have r:=h.size;have e:=k.block b oM oM;exact⟨k.os.trans h.os,k.tape.trans h.tape,k.output.trans h.output,UE h.size k.size,
  λj i l=>(k.block j oM oM).trans (h.block j i l),
  λq f=>(U0 (w:=c) (a:=⟨b,q,none⟩) e).trans (h.cell q f),λq=>(VR (w:=c) (a:=⟨b,q,none⟩) e).trans (h.froz q)⟩
theorem Dx(d:St)(m:Nat)(h:¬m=0):perm (gZ d (m-1))=gZ d m:=by
 obtain⟨k,rfl⟩:∃k,m=k+1:=⟨m-1,oM⟩
 rw[Nat.add_sub_cancel,gZ]
theorem BH(d:St)(m:Nat)(cur:Bs)(b:136*m+136<=cur.size)(h:∀j,j<136*m->cur[j]! = jG d j):∀j,j<136*(m+1)->(splice cur (136*m) (front (gZ d m) 136).toList)[j]! = jG d j:=by
 intro j e;have k:(front (gZ d m) 136).toList.length=136:=by rw[UL,dV]
 rw[kP _ _ _ _ (by rw[k];exact b) oM,k];by_cases c:j<136*m
 ·rw[yCl oM,h j c]
 ·rw[yCk oM,getElem!_pos _ (j-136*m) (by rw[k];omega),XG,<-getElem!_pos (front (gZ d m) 136) (j-136*m) (by rw[dV];omega),Jy _ _ _ oM];unfold jG;rw[show j/136=m by omega,show j%136=j-136*m by omega]
theorem Jt(b:Nat)(d:St)(n:Nat)(w:Ut)(f:d.size=25)(hD:Holds enc w b 0 d)(hn:n<=16384):
 UK prog 228 #[jZ b,iZ n] w λe w'=>e=.returned (sZ w.heap.size n n)/\Only b 0 25 w w'/\Holds encB w' w.heap.size 0 (lS d n):=by
 have K:=Holds.lt hD oM;obtain⟨i,hi,J,R,X⟩:=info_parts info5;obtain⟨r,S⟩:∃c,n+136=c:=⟨_,rfl⟩
 have h3:∀w:Ut,(Xx 23 (iZ 0) (iZ ((n:Int)+136))).run prog w=.ok (sZ w.heap.size 0 r) (w.alloc (.cells (madeCells #[.int .u8 0] r) 5)):=by
  intro w;have h:=run_make (P:=prog) w 23 5 i (.int .u8 0) slice22 hi J .i64 .i64 0 ((n:Int)+136) oM oM (by rw[X];omega) oM;rw[R,XY,show((n:Int)+136).toNat=r by omega]at h;exact h
 have T:Holds encB (w.alloc (.cells (madeCells #[.int .u8 0] r) 5)) w.heap.size 0 (UM r 0):=Holds.made (enc:=encB) w 5 r 0;have Q:Only b 0 25 w (w.alloc (.cells (madeCells #[.int .u8 0] r) 5)):=(Only.refl _ _ _ _).alloc K _;have O:=Holds.below hD ((UT w.heap.size w).alloc (Uy _) (.cells (madeCells #[.int .u8 0] r) 5)) K;have V:w.heap.size<(w.alloc (.cells (madeCells #[.int .u8 0] r) 5)).heap.size:=by simp
 have M:=mk1 (S);go_enter func228,ntmps228;go_wp2;go_loopg [5] r (λg s5 wr=>∃(m l:Nat) (cur:Bs),Hid (l=136*m)/\l+g=r/\1<=g/\s5=sZ w.heap.size l r/\Holds encB wr w.heap.size 0 cur/\cur.size=r/\Holds enc wr b 0 (gZ d (m-1))/\Only b 0 25 w wr/\w.heap.size<wr.heap.size/\Hid (∀j,j<136*m->cur[j]! = jG d j))
 case atStart=>exact⟨0,0,_,rfl,oM,by have:=M.out;omega,rfl,T,by rw[UO],O,Q,V,λj N=>oM⟩
 case round =>
  obtain⟨m,l,cur,B,hg,h1,rfl,L,y,C,W,hs,HE⟩:=hrel;have U:=dT d f (m-1);by_cases h2:l<n
  ·have h0:(l:Int)<(n:Int):=oM;have HN:Hid (∀j,j<136*(m+1)->(splice cur l (front (gZ d m) 136).toList)[j]! = jG d j):=by
    rw[B.out];exact BH d m cur (by rw[<-B.out];omega) HE
   by_cases H:m=0
   ·have J:¬(0:Int)<(l:Int):=by have:=B.out;omega
    have s:Holds enc wr b 0 (gZ d m):=by rw[H]at C⊢;exact C
    go_wp2_with fail
    refine(sN b 0 136 _ _ (dT d f m) s dC).mono ?_;rintro e E ⟨rfl,o,Y⟩;have q:=Holds.below L o (Holds.lt L oM);have a:=Holds.below s o (Holds.lt s (by rw[dT d f];decide));have x:=uG (l:=l) (k:=136) (n:=136) (c:=136) q y Y (dV _ _) rfl oM 23;have t:=iU q l (front (gZ d m) 136).toList (by rw[UL,dV];omega);rw[UF]at t;have A:=W.trans (Only.of_below o rfl (Holds.lt s (by rw[dT d f];decide)));have p:Only w.heap.size 0 r E (E.setCells w.heap.size l ((front (gZ d m) 136).toList.map encB)):=(Only.refl _ _ _ _).setCells _ _ oM (by rw[US,UL,dV];omega);have u:=A.with_new p (Uy _) K;have v:=Holds.other a p oM (by rw[dT d f];decide);have z:=Uz (Holds.lt q oM) p.size;generalize E.setCells w.heap.size l ((front (gZ d m) 136).toList.map encB)=F at x t u v z;have D:Hid _:=x;go_wp2_with (at_builtin;refine WG _ rfl _ _ 23 23 rfl _ _ rfl rfl _ _ D.out ?_)
    go_roundg (gk-136)
    case measure=>omega
    case rel =>
     exact⟨m+1,l+136,_,by have:=B.out;show _=_;omega,oM,oM,rfl,t,by rw[dN,y],v,u,z,HN⟩
   ·have Z:(0:Int)<(l:Int):=by have:=B.out;omega
    go_wp2_with fail
    refine(tQ b 0 _ _ U C).mono ?_;rintro e w1 ⟨rfl,I,s⟩;rw[Dx d m H]at s;have F:=Holds.other L I oM oM;have G:=W.trans I;go_wp2_with fail
    refine(sN b 0 136 _ _ (dT d f m) s dC).mono ?_;rintro e E ⟨rfl,o,Y⟩;have q:=Holds.below F o (Holds.lt F oM);have a:=Holds.below s o (Holds.lt s (by rw[dT d f];decide));have x:=uG (l:=l) (k:=136) (n:=136) (c:=136) q y Y (dV _ _) rfl oM 23;have t:=iU q l (front (gZ d m) 136).toList (by rw[UL,dV];omega);rw[UF]at t;have A:=G.trans (Only.of_below o rfl (Holds.lt s (by rw[dT d f];decide)));have p:Only w.heap.size 0 r E (E.setCells w.heap.size l ((front (gZ d m) 136).toList.map encB)):=(Only.refl _ _ _ _).setCells _ _ oM (by rw[US,UL,dV];omega);have u:=A.with_new p (Uy _) K;have v:=Holds.other a p oM (by rw[dT d f];decide);have z:=Uz (Holds.lt q oM) p.size;have D:Hid _:=x;go_wp2_with (at_builtin;refine WG _ rfl _ _ 23 23 rfl _ _ rfl rfl _ _ D.out ?_)
    go_roundg (gk-136)
    case measure=>omega
    case rel =>
     exact⟨m+1,l+136,_,by have:=B.out;show _=_;omega,oM,oM,rfl,t,by rw[dN,y],v,u,z,HN⟩
  ·have o:(n:Int)<=(l:Int):=oM;go_wp2;go_ret;refine⟨rfl,W,λj N=>?_⟩;rw[lQ]at N;have:=L j oM;rw[HE.out j (by have:=B.out;omega)]at this;rw[Di d n j N];exact this
def eO:Array Uv:=UM 25 (uZ 0)++UM 136 (.int .u8 0)++#[iZ 0]
theorem Hn:∀w:Ut,(zeroValue 266).run prog w=.ok (.agg eO) w:=λ_=>kR
theorem Il(j:Nat)(b:j<25):eO[j]? = some (uZ 0):=by
 have k:j<(UM 25 (uZ 0)).size:=by rw[UO];exact b
 unfold eO;rw[yAR,X7 k,UZ k,Wr]
theorem Ij(j:Nat)(b:j<136):eO[25+j]? = some (.int .u8 0):=by
 have k:j<(UM 136 (V2 .u8 0)).size:=by rw[UO];exact b
 unfold eO;rw[yAR,YN (by rw[UO];omega),UO,WH,X7 k,UZ k,Wr]
theorem Ik:eO[161]? = some (iZ 0):=by
 unfold eO;rw[YN (by rw[VP,UO,UO];decide),VP,UO,UO];rfl
theorem Fc(w:Ut)(t:Vb):HSp (w.alloc (.cells eO t)) w.heap.size S0:=by
 refine⟨λj b=>?_,λj b=>?_,?_,?_⟩
 ·have k:j<25:=by simpa[S0,vU]using b
  rw[Ve,Wq,UF,Il j k];refine⟨?_,rfl⟩;have e:S0.d[j]! = 0:=Gi j k;rw[e];rfl
 ·have k:j<136:=by simpa[S0]using b
  rw[Ve,Wq,Ij j k];refine⟨?_,rfl⟩;have e:S0.p[j]! = 0:=rep_at 136 j k;rw[e];rfl
 ·rw[Ve,Ik];rfl
 ·rw[Wq]
theorem yV(a:Option Wv)(c l len cap n:Nat)(d:Bs)(w:Ut)(B:n<=16384)(z:d.size=len)(i:len<=cap)(o:len<=1099511627776)(j:len=0\/(a=some ⟨c,l,none⟩/\Holds encB w c l d)):
 UK prog 196 #[.slice a len cap,iZ n] w λe w'=>∃r,e=.returned (.tuple #[sZ r n n,iZ 0])/\w.heap.size<=r/\kZ w w'/\Holds encB w' r 0 (qL d.toList n):=by
 have g:=Fc w 266;have b:kZ w (w.alloc (.cells eO 266)):=(UT _ _).alloc (Uy _) _;have u:w.heap.size<(w.alloc (.cells eO 266)).heap.size:=by simp
 have k:len=0\/(a=some ⟨c,l,none⟩/\c≠w.heap.size/\Holds encB (w.alloc (.cells eO 266)) c l d):=by
  by_cases q:len=0
  ·exact U6 q
  ·rcases j with h|⟨p,m⟩
   ·exact U6 h
   ·have f:=Holds.lt m oM;exact U2 ⟨p,oM,Holds.below m b f⟩
 have D:=Hn;go_enter func196,ntmps196;go_wp2_with fail
 generalize w.alloc (.cells eO 266)=v at g b u k⊢;refine(take_any w.heap.size S0 a c l len cap d v CW g z i o k).mono ?_;rintro e y ⟨rfl,m,p⟩;go_wp2_with fail
 refine(Fx w.heap.size (fV S0 d.toList) 31 y (jF CW _) p).mono ?_;rintro e x ⟨rfl,f,t⟩;have s:=t.d;go_wp2_with fail
 refine(Jt w.heap.size _ n _ (uH _ _) s B).mono ?_;rintro e C ⟨rfl,q,A⟩;go_wp2
 go_ret2
 have s1:=m.size;have s2:=f.size;exact⟨x.heap.size,rfl,oM,(b.trans ((m.trans f).below oM (Uy _))).trans (q.below oM (Uy _)),A⟩
end SP
namespace SP
open Go.RowKit Go.Sort Go.Deep
def Own(B:Nat)(w:Ut)(v:Uv)(T:List UInt8):Prop:=
 ∃g cap cur,v=sZ g T.length cap/\B<=g/\g<w.heap.size/\Wt cur=cap/\T.length<=cap/\Holds encB w g 0 cur/\∀j,j<T.length->cur[j]! = T[j]!
theorem Holds.front{α:Type}[Inhabited α]{f:α->Uv}{w:Ut}{b o:Nat}{d e:Array α}(h:Holds f w b o d)(g:e.size<=d.size)(k:∀j,j<e.size->e[j]! = d[j]!):Holds f w b o e:=by
 intro j c;rw[k j c];exact h j oM
theorem Cn(T:List UInt8)(j:Nat):T.toArray[j]! = T[j]!:=by
 by_cases h:j<T.length
 ·rw[getElem!_pos T.toArray j (by simpa using h),getElem!_pos T j h];simp
 ·rw[getElem!_neg T.toArray j (by simpa using h),getElem!_neg T j h]
variable {B:Nat}{w w1:Ut}{v:Uv}{T:List UInt8}
theorem Own.holds{n:Nat}(h:Own B w (sZ g n cap) T):B<=g/\n=T.length/\T.length<=cap/\Holds encB w g 0 T.toArray:=by
 obtain⟨l,k,cur,hv,c,_,i,b,f,e⟩:=h;injection hv with e1 e2 e3
 injection e1 with e1
 injection e1 with e1 _ _
 subst e1 e3;exact⟨c,e2,b,Holds.front f (by simp;omega) (λj d=>by rw[Cn];exact(e j (by simpa using d)).symm)⟩
theorem yA(s:ByteArray)(i:B<=w.heap.size):
 ∃b w',(convert 9 23 (.string s)).run prog w=.ok b w'/\Own B w' b s.data.toList/\kZ w w'/\b=sZ w.heap.size s.size (grownCap w s.size 0 5):=by
 have h:=Lib.run_convert_string_bytes (P:=prog) w 9 23 5 s str9 slice22 int5;have e:s.size<=grownCap w s.size 0 5:=by
  unfold grownCap Question.cut;exact Zh _ _
 have l:s.data.size=s.size:=rfl;refine⟨_,_,h,⟨w.heap.size,grownCap w s.size 0 5,s.data++UM (grownCap w s.size 0 5-s.size) 0,?_,i,by rw[yAU];omega,?_,?_,?_,?_⟩,?_,rfl⟩
 ·rw[UL];rfl
 ·rw[VP,UO];omega
 ·rw[UL];omega
 ·intro j b;rw[VP,UO]at b;have f:=Lib.bytesWorld_at_new w 5 s;have d:(Zs w 5 s).size=grownCap w s.size 0 5:=by
   unfold Zs;rw[VP,Array.size_map,UO];omega
  have g:(Zs w 5 s)=(s.data++UM (grownCap w s.size 0 5-s.size) 0).map encB:=by
   unfold Zs;rw[Array.map_append,yAH];rfl
  have c:j<(s.data++UM (grownCap w s.size 0 5-s.size) 0).size:=by rw[VP,UO];exact b
  constructor
  ·unfold V1;rw[f];simp only[UF];rw[yCl dC,g,yAP,UZ c,Yj,getElem!_pos _ j c]
  ·unfold World.frozen?;rw[f];simp only[UF,d];simp;omega
 ·intro j b;rw[UL]at b;rw[app_front _ _ j b,getElem!_pos s.data.toList j (by rw[UL];exact b),XG]
 ·refine⟨?_,?_,?_,?_,λk b=>Lib.bytesWorld_at_old w 5 s k b⟩
  ·unfold yAh yAs;rw[yCl dC];rfl
  ·unfold yAh yAs;rw[yCl dC];rfl
  ·unfold yAh yAs;rw[yCl dC];rfl
  ·rw[yAU];omega
theorem Holds.below'{α:Type}[Inhabited α]{f:α->Uv}{w e:Ut}{b o:Nat}{d:Array α}(h:Holds f w b o d)(k:kZ w e):Holds f e b o d:=by
 intro j g;have c:=Holds.lt h oM;exact Holds.below h k c j g
theorem DT(l:List UInt8):(Jo l).size=32:=by rw[Jo,dV]
end SP
namespace SP
open Go.RowKit Go.Sort Go.Deep
def bV(n d:Nat):UInt8:=UQ (n/d)
theorem jN(n d:Nat):(n:Int)/(d:Int)%256=ub (bV n d):=by
 have k:((n:Int)/(d:Int))=((n/d:Nat):Int):=by rw[Zl]
 rw[k];unfold ub bV;rw[YQ];omega
theorem xJ(n:Nat):(n:Int)%256=ub (bV n 1):=by
 have:=jN n 1;rw[show((1:Nat):Int)=1 from rfl,Int.ediv_one]at this;exact this
def sO(l:List UInt8):List UInt8:=[bV l.length 16777216,bV l.length 65536,bV l.length 256,bV l.length 1]++l
theorem xN(w:Ut)(x y z t:UInt8):Holds encB (w.alloc (.cells #[.int .u8 (ub x),.int .u8 (ub y),.int .u8 (ub z),.int .u8 (ub t)] 5)) w.heap.size 0 #[x,y,z,t]:=by
 have h:=Holds.new (enc:=encB) w 5 #[x,y,z,t];have e:yB6 encB #[x,y,z,t]=#[.int .u8 (ub x),.int .u8 (ub y),.int .u8 (ub z),.int .u8 (ub t)]:=by simp[encB]
 rw[e]at h;exact h
theorem oU(b:Nat)(S:Sp)(a:Option Wv)(c g len cap:Nat)(f:Bs)(w:Ut)(o:Ok S)(C:HSp w b S)(D:f.size=len)(m:len<=cap)(q:len<=1099511627776)
 (i:len=0\/(a=some ⟨c,g,none⟩/\c≠b/\Holds encB w c g f)) :
 UK prog 188 #[jZ b,.slice a len cap] w λe w'=>e=.returned (.tuple #[])/\Only b 0 162 w w'/\HSp w' b (fV S (sO f.toList)):=by
 have E:=C.lt;have b0:(len:Int)/16777216%256=ub (bV len 16777216):=jN len 16777216;have b1:(len:Int)/65536%256=ub (bV len 65536):=jN len 65536;have I:(len:Int)/256%256=ub (bV len 256):=jN len 256;have H:(len:Int)%256=ub (bV len 1):=xJ len;have G:Hid (sO f.toList=(#[bV len 16777216,bV len 65536,bV len 256,bV len 1]:Bs).toList++f.toList):=by
  unfold sO;rw[UL,D];rfl
 have B:=xN w (bV len 16777216) (bV len 65536) (bV len 256) (bV len 1);generalize bV len 16777216=n at *;generalize bV len 65536=s at *;generalize bV len 256=t at *;generalize bV len 1=r at *;have d:kZ w (w.alloc (.cells #[.int .u8 (ub n),.int .u8 (ub s),.int .u8 (ub t),.int .u8 (ub r)] 5)):=(UT _ _).alloc (Uy _) _;have l:=C.below d E;have p:Only b 0 162 w (w.alloc (.cells #[.int .u8 (ub n),.int .u8 (ub s),.int .u8 (ub t),.int .u8 (ub r)] 5)):=Only.of_below d rfl E;have k:len=0\/(a=some ⟨c,g,none⟩/\c≠b/\Holds encB (w.alloc (.cells #[.int .u8 (ub n),.int .u8 (ub s),.int .u8 (ub t),.int .u8 (ub r)] 5)) c g f):=by
  by_cases y:len=0
  ·exact U6 y
  ·rcases i with h|⟨x,v,u⟩
   ·exact U6 h
   ·exact U2 ⟨x,v,Holds.below u d (Holds.lt u oM)⟩
 go_enter func188,ntmps188;go_wp2_with fail
 generalize w.alloc (.cells #[.int .u8 (ub n),.int .u8 (ub s),.int .u8 (ub t),.int .u8 (ub r)] 5)=F at B d l p k⊢;refine(take_any b S (some (aZ w.heap.size)) w.heap.size 0 4 4 #[n,s,t,r] F o l rfl (Uy _) dC (U2 ⟨rfl,oM,B⟩)).mono ?_;rintro e A ⟨rfl,j,z⟩;have i:len=0\/(a=some ⟨c,g,none⟩/\c≠b/\Holds encB A c g f):=by
  by_cases y:len=0
  ·exact U6 y
  ·rcases k with h|⟨x,v,u⟩
   ·exact U6 h
   ·exact U2 ⟨x,v,Holds.other u j v oM⟩
 go_wp2_with fail
 refine(take_any b _ a c g len cap f A (jF o _) z D m q i).mono ?_;rintro e x ⟨rfl,u,v⟩;go_wp2
 go_end0
 refine⟨rfl,(p.trans j).trans u,?_⟩;rw[G.out,lP];exact v
def kJ(k:List UInt8)(b:List (List UInt8)):List UInt8:=sO k++b.flatMap sO
def oR(k:List UInt8)(b:List (List UInt8)):Bs:=Jo (kJ k b)
theorem fD(k:List UInt8)(b:List (List UInt8)):(oR k b).size=32:=DT _
theorem A7(k:List UInt8)(b:List (List UInt8))(x:List UInt8):kJ k (b++[x])=kJ k b++sO x:=by
 unfold kJ;rw[List.flatMap_append,<-List.append_assoc];simp
def PartOk(w:Ut)(v:Uv)(x:List UInt8):Prop:=
 ∃a b c cap k,v=.slice a (Wt k) cap/\k.toList=x/\k.size<=cap/\k.size<=1099511627776/\(k.size=0\/(a=some ⟨b,c,none⟩/\Holds encB w b c k))
theorem PartOk.below{w c:Ut}{v:Uv}{x:List UInt8}(h:PartOk w v x)(k:kZ w c):PartOk c v x:=by
 obtain⟨a,d,j,cap,f,l,m,i,e,b⟩:=h;refine⟨a,d,j,cap,f,l,m,i,e,?_⟩;rcases b with b|⟨b,g⟩
 ·exact U6 b
 ·exact U2 ⟨b,Holds.below' g k⟩
def PartsOk(w:Ut)(d:Option Wv)(k:List (List UInt8)):Prop:=
 k.length=0\/∃b c,d=some ⟨b,c,none⟩/\∀j,j<k.length->∃v,w.cell? ⟨b,c+j,none⟩=some v/\PartOk w v k[j]!
theorem PartsOk.below{w d:Ut}{c:Option Wv}{e:List (List UInt8)}(h:PartsOk w c e)(k:kZ w d):PartsOk d c e:=by
 rcases h with h|⟨b,g,m,n⟩
 ·exact U6 h
 ·refine U2 ⟨b,g,m,λj l=>?_⟩;obtain⟨v,f,i⟩:=n j l;exact⟨v,by rw[k.cell (p:=⟨b,g+j,none⟩) (Xf _ _ f)];exact f,i.below k⟩
theorem wF{α:Type}[Inhabited α](l:List α)(k:Nat)(h:k<l.length):l.take (k+1)=l.take k++[l[k]!]:=by
 rw[List.take_succ_eq_append_getElem h,getElem!_pos l k h]
theorem vN(b:ByteArray)(N:Option Wv)(C:Nat)(c:List (List UInt8))(w:Ut)(h9:b.size<=1048576)(hc:c.length<=1048576)(hP:PartsOk w N c):
 UK prog 113 #[.string b,.slice N c.length C] w λe w'=>∃r,e=.returned (sZ r 32 32)/\w.heap.size<=r/\kZ w w'/\Holds encB w' r 0 (oR b.data.toList c):=by
 have l:=Fc w 266;have E:kZ w (w.alloc (.cells eO 266)):=(UT _ _).alloc (Uy _) _;have G:(w.alloc (.cells eO 266)).heap.size=w.heap.size+1:=by simp
 have zv:=Hn;generalize V:w.alloc (.cells eO 266)=O at l E G;obtain⟨v2,Q,q,d,u,X⟩:=yA (w:=O) (B:=0) b (Wz _);rw[X]at q d;obtain⟨S,I,H,Y⟩:=d.holds;rw[<-I]at H;clear S I;have f:Holds encB Q O.heap.size 0 b.data:=by simpa using Y
 have h5:=l.below u l.lt;have h8:=u.size;obtain⟨n,hn⟩:∃n,c.length=n:=⟨_,rfl⟩
 rw[hn];have M:=mk1 (hn);rw[G]at q f;generalize hg:grownCap O b.size 0 5=c2 at *;have ha:(convert 9 23 (.string b)).run prog (w.alloc (.cells eO 266))=.ok (.slice (some ⟨w.heap.size+1,0,none⟩) b.size c2) Q:=by rw[V];exact q
 go_enter func113,ntmps113;go_wp2_with fail
 refine(oU w.heap.size S0 (some ⟨w.heap.size+1,0,none⟩) (w.heap.size+1) 0 b.size c2 b.data Q CW h5 rfl oM oM (U2 ⟨rfl,oM,f⟩)).mono ?_;rintro e w3 ⟨rfl,T,D⟩;have U:=(E.trans (u.mono oM)).trans (T.below oM (Uy _));have hi:=D.lt;go_wp2;go_loopg [13] n (λg s13 wr=>∃(k:Nat) (o:Sp),k+g=n/\s13=iZ k/\HSp wr w.heap.size o/\kZ w wr/\Ok o/\Hid (o=fV S0 (kJ b.data.toList (c.take k))))
 case atStart =>
  refine⟨0,_,oM,rfl,D,U,jF CW _,?_⟩;rw[List.take_zero];unfold kJ;rw[List.flatMap_nil,List.append_nil];rfl
 case round =>
  obtain⟨k,o,hk,rfl,K,x,s,HE⟩:=hrel;by_cases he:k<n
  ·obtain⟨F,J,rfl,A⟩:∃F J,N=some ⟨F,J,none⟩/\∀j,j<c.length->∃v,w.cell? ⟨F,J+j,none⟩=some v/\PartOk w v c[j]!:=by
    rcases hP with h|h
    ·have:=M.out;omega
    ·exact h
   obtain⟨v,t,h6⟩:=A k (by have:=M.out;omega);have R:=Xf _ _ t;have h7:wr.cell? ⟨F,J+k,none⟩=some v:=by rw[x.cell (p:=⟨F,J+k,none⟩) R];exact t
   obtain⟨a,L,so,cap,y,rfl,z,Z,h4,i⟩:=h6;have m:y.size=0\/(a=some ⟨L,so,none⟩/\L≠w.heap.size/\Holds encB wr L so y):=by
    by_cases h0:y.size=0
    ·exact U6 h0
    ·rcases i with h|⟨W,P⟩
     ·exact U6 h
     ·have:=Holds.lt P oM;exact U2 ⟨W,oM,Holds.below P x this⟩
   have HB:Hid (y.toList=c[k]!):=z;have l1:(k:Int)<(n:Int):=oM;generalize P:y.size=bz at *;clear t i A z;go_wp2_with fail
   refine(oU w.heap.size o a L so bz cap y wr s K P Z h4 m).mono ?_;rintro e w4 ⟨rfl,W,h3⟩;go_wp2;go_roundg (gk-1)
   case measure=>omega
   case rel =>
    refine⟨k+1,_,oM,by go_num,h3,x.trans (W.below x.size (Uy _)),jF s _,?_⟩;rw[wF c k (by have:=M.out;omega),A7,lP,<-HE.out,HB.out];rfl
  ·have J:k=n:=oM;have t:Hid (o=fV S0 (kJ b.data.toList c)):=by
    have i:c.take k=c:=Zi (by have:=M.out;omega);rw[i]at HE;exact HE
   go_wp2_with fail
   refine(Fx w.heap.size o 6 wr s K).mono ?_;rintro e F ⟨rfl,i,y⟩;have m:Holds enc F w.heap.size 0 (yU (kJ b.data.toList c) 6):=by
    have:=y.d;rw[t.out]at this;exact this
   go_wp2_with fail
   refine(sN w.heap.size 0 32 _ _ (uH _ _) m dC).mono ?_;rintro e R ⟨rfl,z,A⟩;have P:=i.size;have L:=x.size;go_wp2;go_ret;exact⟨F.heap.size,rfl,oM,(x.trans (i.below x.size (Uy _))).trans (z.mono oM),A⟩
end SP
namespace SP
open Go.RowKit Go.Sort Go.Deep
variable {B:Nat}{w w1:Ut}{v:Uv}{T:List UInt8}
set_option maxRecDepth 4000
end SP
namespace SP
open Go.RowKit Go.Sort Go.Deep
theorem JP{w:Ut}{b:Nat}{T:Bs}(e:Holds encB w b 0 L)(o:L.size=32)(m:Holds encB w r 0 T)(l:T.size=32):
 (Ya #[23,23] 3 #[sZ b 32 32,sZ r 32 32]).run prog w=.ok (goInt 32) (w.setCells b 0 (T.toList.map encB)):=by
 have k:(T.toList.map encB).length=32:=by rw[US,UL,l]
 have:=run_copy_cells (P:=prog) w 23 23 3 5 b 0 32 32 (aZ r) 32 32 (T.toList.map encB) slice22 ints5 (by rw[k];rfl)
  (λj u c=>by
   obtain⟨i,f⟩:=UG.1 c;rw[k]at i;have g:=(m j oM).1;rw[getElem!_pos T j oM]at g;rw[Xi,XG]at f;have n:(⟨r,0,none⟩:Wv).add j=⟨r,0+j,none⟩:=by
    unfold Zr;by_cases d:j=0
    ·subst d;rw[yCk rfl]
    ·rw[yCl d]
   rw[n,g,f])
  (λj c=>by rw[(e j oM).1];rfl) (λj c=>(e j oM).2)
  (λu d=>by obtain⟨x,_,rfl⟩:=Vn.1 d;rfl)
 rw[k]at this;exact this
theorem A0{w:Ut}{b:Nat}{T:Bs}(d:Holds encB w b 0 L)(f:L.size=32)(e:T.size=32):Holds encB (w.setCells b 0 (T.toList.map encB)) b 0 T:=by
 have k:(T.toList.map encB).length=32:=by rw[US,UL,e]
 refine Holds.setCells d (T.toList.map encB) 0 oM oM (λj c=>?_) (λj g i=>oM);rw[k]at c;rw[Xi,XG,UF,getElem!_pos T j oM]
theorem Eh{w c:Ut}{b:Nat}{T:Bs}(i:Holds encB w b 0 L)(g:L.size=32)(f:T.size=32)(d:b<w.heap.size)(k:Below w.drew.heap.size w.drew c):
 Only b 0 32 w (c.setCells b 0 (T.toList.map encB))/\Holds encB (c.setCells b 0 (T.toList.map encB)) b 0 T:=by
 have e:(T.toList.map encB).length=32:=by rw[US,UL,f]
 refine⟨?_,A0 (Holds.below (Holds.drew i) k d) g f⟩;exact Only.setCells (((Only.refl b 0 32 w).drew).trans (Only.of_below k rfl d)) _ 0 (Uy _) oM
theorem qJ(b:Nat)(L:Bs)(k:ByteArray)(l:Option Wv)(c n:Nat)(j:List (List UInt8))(w:Ut)(f:k.size<=1048576)(m:j.length=n)(z:n<=1048576)(t:PartsOk w l j)(o:Holds encB w b 0 L)(r:L.size=32):
 UK prog 208 #[.pointer (some ⟨b,0,none⟩),.string k,.slice l n c] w λe w'=>e=.returned (.tuple #[])/\Only b 0 32 w w'/\Holds encB w' b 0 (oR k.data.toList j):=by
 subst m;have s:=Holds.lt o oM;have q:=vN k l c j w.drew f z (t.below ((UT _ _).drew));generalize u:oR k.data.toList j=T at q⊢;have g:T.size=32:=by rw[<-u,fD]
 have y:=mk1 (q);go_enter func208,ntmps208;go_wp2;go_region_with (go_at_call 113;refine Calls.mono y.out ?_;rintro e A ⟨a,rfl,v,d,p⟩;have x:=JP (Holds.below (Holds.drew o) d s) r p g;have i:=Eh o r g s d)
 all_goals (try go_wp2)
 all_goals go_end0
 all_goals exact⟨rfl,i⟩
def encV(v:Uv):Uv:=v
theorem zI(l:List UInt8)(n:Nat):(qL l n).size=n:=by rw[qL,lQ]
def newL(k:List UInt8):Bs:=oR [108,111,103] [k]
def uM(L:Bs)(k b:List UInt8):Bs:=oR [115,97,121] [L.toList,k,b]
def CQ(L:Bs)(k:List UInt8)(n:Nat):Bs:=qL (oR [97,115,107] [L.toList,k]).toList n
def tH(L:Bs)(k:List UInt8):Bs:=oR [97,115,107,101,100] [L.toList,k]
theorem zY(l:List UInt8):(newL l).size=32:=fD _ _
theorem kQ(L:Bs)(l t:List UInt8):(uM L l t).size=32:=fD _ _
theorem bE(L:Bs)(l:List UInt8):(tH L l).size=32:=fD _ _
theorem Hd(L:Bs)(l:List UInt8)(n:Nat):(CQ L l n).size=n:=zI _ _
theorem oG(s:ByteArray)(w:Ut)(p:s.size<=1099511627776):
 ∃c w',(convert 9 23 (.string s)).run prog w=.ok (sZ w.heap.size s.size c) w'/\s.size<=c/\Holds encB w' w.heap.size 0 s.data/\PartOk w' (sZ w.heap.size s.size c) s.data.toList/\kZ w w'/\w.heap.size<w'.heap.size:=by
 obtain⟨v2,n,e,k,i,l⟩:=yA (w:=w) (B:=0) s (Wz _);rw[l]at e k;have m:w.heap.size<n.heap.size:=by
  obtain⟨g,cap,cur,b,_,d,_⟩:=k;injection b with b
  injection b with b
  injection b with b
  omega
 obtain⟨q,j,b,o⟩:=k.holds;rw[<-j]at b;have d:Holds encB n w.heap.size 0 s.data:=by simpa using o
 have f:=b;exact⟨_,n,e,f,d,⟨_,w.heap.size,0,_,s.data,rfl,rfl,f,p,U2 ⟨rfl,d⟩⟩,i,m⟩
theorem nY(W:Ut)(vs:Array Uv)(k:List (List UInt8))(t:Vb)(d:vs.size=k.length)(h:∀j,j<k.length->PartOk W vs[j]! k[j]!):
 PartsOk (W.alloc (.cells vs t)) (some (aZ W.heap.size)) k:=by
 refine U2 ⟨W.heap.size,0,rfl,λj c=>⟨vs[j]!,?_,(h j c).below ((UT _ _).alloc (Uy _) _)⟩⟩;have b:vs.map encV=vs:=by
  have:encV=id:=rfl;rw[this,Array.map_id]
 have:=(Holds.new (enc:=encV) W t vs j oM).1;rw[b]at this;exact this
theorem qW{w:Ut}{b:Nat}(c:Holds encB w b 0 L)(k:L.size=32):PartOk w (sZ b 32 32) L.toList:=
 ⟨_,b,0,32,L,by rw[k],rfl,oM,oM,U2 ⟨rfl,c⟩⟩
theorem KQ:∀w:Ut,(zeroValue 286).run prog w=.ok (.agg (UM 32 (.int .u8 0))) w:=λ_=>kR
theorem Ep(k:ByteArray)(w:Ut)(v:k.size<=1048576):
 UK prog 231 #[.string k] w λe w'=>e=.returned (jZ w.heap.size)/\kZ w w'/\Holds encB w' w.heap.size 0 (newL k.data.toList):=by
 have z:=KQ;have p:Holds encB (w.alloc (.cells (UM 32 (.int .u8 0)) 286)) w.heap.size 0 (UM 32 0):=by
  have:=Holds.new (enc:=encB) w 286 (UM 32 0);rw[yAH]at this;exact this
 have q:kZ w (w.alloc (.cells (UM 32 (.int .u8 0)) 286)):=(UT _ _).alloc (Uy _) _;have s:(w.alloc (.cells (UM 32 (.int .u8 0)) 286)).heap.size=w.heap.size+1:=by simp
 obtain⟨c,g,o,A,x,u,m,l⟩:=oG k (w.alloc (.cells (UM 32 (.int .u8 0)) 286)) oM;have i:=Holds.below' p m;have n:=nY g #[.slice (some ⟨(w.alloc (.cells (UM 32 (.int .u8 0)) 286)).heap.size,0,none⟩) k.size c] [k.data.toList] 23 rfl (λj y=>by
  have b:j=0:=by simpa using y
  subst b;exact u)
 have d:kZ g (g.alloc (.cells #[.slice (some ⟨(w.alloc (.cells (UM 32 (.int .u8 0)) 286)).heap.size,0,none⟩) k.size c] 23)):=(UT _ _).alloc (Uy _) _;have b:=Holds.below' i d;rw[s]at o n d b l;have f:=(q.trans (m.mono oM)).trans (d.mono oM);go_enter func231,ntmps231;go_wp2_with fail
 refine(qJ w.heap.size (UM 32 0) ⟨#[108,111,103]⟩ (some (aZ g.heap.size)) 1 1 [k.data.toList] _ dC rfl dC n b (by simp)).mono ?_;rintro e a ⟨rfl,t,r⟩;go_wp2;go_ret;exact⟨rfl,f.trans (t.below f.size (Uy _)),r⟩
theorem Br(b:Nat)(L:Bs)(k:ByteArray)(i:Option Wv)(l n:Nat)(d:List UInt8)(w:Ut)(x:k.size<=1048576)(y:Holds encB w b 0 L)(a:L.size=32)(D:PartOk w (.slice i l n) d):
 UK prog 145 #[jZ b,.string k,.slice i l n] w λe w'=>e=.returned (.tuple #[])/\Only b 0 32 w w'/\Holds encB w' b 0 (uM L k.data.toList d):=by
 have A:=Holds.lt y oM;obtain⟨c,g,B,G,C,v,f,z⟩:=oG k w oM;have m:=Holds.below y f A;have q:=D.below f;have u:=nY g #[sZ b 32 32,sZ w.heap.size k.size c,.slice i l n] [L.toList,k.data.toList,d] 23 rfl (λj E=>by
  have o:j<3:=E;match j,o with
  | 0,_=>exact qW m a
  | 1,_=>exact v
  | 2,_=>exact q)
 have o:kZ g (g.alloc (.cells #[sZ b 32 32,sZ w.heap.size k.size c,.slice i l n] 23)):=(UT _ _).alloc (Uy _) _;have s:=Holds.below' m o;have p:Only b 0 32 w (g.alloc (.cells #[sZ b 32 32,sZ w.heap.size k.size c,.slice i l n] 23)):=(Only.of_below f rfl A).alloc oM _;go_enter func145,ntmps145;go_wp2_with fail
 refine(qJ b L ⟨#[115,97,121]⟩ (some (aZ g.heap.size)) 3 3 [L.toList,k.data.toList,d] _ dC rfl dC u s a).mono ?_;rintro e F ⟨rfl,t,r⟩;go_wp2
 go_end0
 exact⟨rfl,p.trans t,r⟩
theorem Nr(b:Nat)(L:Bs)(k:ByteArray)(n:Nat)(w:Ut)(X:k.size<=1048576)(hn:n<=1024)(hL:Holds encB w b 0 L)(S:L.size=32):
 UK prog 242 #[jZ b,.string k,iZ n] w λe w'=>∃r,e=.returned (.tuple #[sZ r n n,iZ 0])/\w.heap.size<=r/\Only b 0 32 w w'/\Holds encB w' b 0 (tH L k.data.toList)/\Holds encB w' r 0 (CQ L k.data.toList n):=by
 have V:=Holds.lt hL oM;obtain⟨c,i,h5,hc,G,D,z,h4⟩:=oG k w oM;have g:=Holds.below hL z V;have B:=nY i #[sZ b 32 32,sZ w.heap.size k.size c] [L.toList,k.data.toList] 23 rfl (λj x=>by
  have d:j<2:=x;match j,d with
  | 0,_=>exact qW g S
  | 1,_=>exact D)
 have m:kZ i (i.alloc (.cells #[sZ b 32 32,sZ w.heap.size k.size c] 23)):=(UT _ _).alloc (Uy _) _;have y:=Holds.below' g m;have s:Only b 0 32 w (i.alloc (.cells #[sZ b 32 32,sZ w.heap.size k.size c] 23)):=(Only.of_below z rfl V).alloc oM _;have d0:decide ((n:Int)<0)=false:=decide_eq_false oM;have d1:¬(1024:Int)<(n:Int):=oM;clear G D m;go_enter func242,ntmps242;go_wp2_with fail
 refine(vN ⟨#[97,115,107]⟩ (some (aZ i.heap.size)) 2 [L.toList,k.data.toList] _ dC (by show 2<=1048576;omega) B).mono ?_;rintro e w3 ⟨r3,rfl,h6,q,U⟩;have K:=Holds.below' y q;have t:=s.trans (Only.of_below q rfl (Uz V s.size));clear B y g;go_wp2_with fail
 refine(yV (some (aZ r3)) r3 0 32 32 n _ _ oM (fD _ _) oM oM (U2 ⟨rfl,U⟩)).mono ?_;rintro e a ⟨E,rfl,h7,p,M⟩;have Q:=Holds.below' K p;have h8:=t.size;have A:=t.trans (Only.of_below p rfl oM);have J:Holds encB a E 0 (CQ L k.data.toList n):=M;have ha:=A.size;obtain⟨T,l,W,h9,he,P,f,h0⟩:=oG k a oM;have u:=Holds.below' Q f;have I:=Holds.below' J f;have v:=nY l #[sZ b 32 32,sZ a.heap.size k.size T] [L.toList,k.data.toList] 23 rfl (λj x=>by
  have d:j<2:=x;match j,d with
  | 0,_=>exact qW u S
  | 1,_=>exact P)
 have C:kZ l (l.alloc (.cells #[sZ b 32 32,sZ a.heap.size k.size T] 23)):=(UT _ _).alloc (Uy _) _;have O:=Holds.below' u C;have H:=Holds.below' I C;have N:Only b 0 32 w (l.alloc (.cells #[sZ b 32 32,sZ a.heap.size k.size T] 23)):=A.trans ((Only.of_below f rfl oM).alloc oM _);go_wp2_with fail
 refine(qJ b L ⟨#[97,115,107,101,100]⟩ (some (aZ l.heap.size)) 2 2 [L.toList,k.data.toList] _ dC rfl dC v O S).mono ?_;rintro e w7 ⟨rfl,d,R⟩;have F:Holds encB w7 E 0 (CQ L k.data.toList n):=by
  intro j x;have Z:=H j x;have h2:=Xf _ _ Z.1;have Y:=d.other (c:=E) (o:=0+j) oM h2;rw[Y.1,Y.2];exact Z
 go_wp2
 go_ret2
 exact⟨E,rfl,oM,N.trans d,R,F⟩
end SP
section
open Go.RowKit Go.Sort
variable {P:Nat}[NeZero P]{N:Nat}
def ArgsPts(w:Ut)(q:Option Wv)(n:Nat)(L:Nat->Bs):Prop:=0<n->∃k,q=some (aZ k)/\k<w.heap.size/\∀j,j<n->∃v,w.cell? ⟨k,j,none⟩=some v/\Arg33 w v (L j)
def Uo(P:Nat)[NeZero P](w:Ut)(n:Nat)(L:Nat->Bs)(e:Uv)(w':Ut):Prop:=
 (∃k,w.heap.size<=k/\k<w'.heap.size/\e=.tuple #[sZ k n n,iZ 0]/\∀j,j<n->∃p,rd P (L j)=some p/\w'.rangeAt k (8*j) (ws p.1++ws p.2)) \/
 ((∃j,j<n/\rd P (L j)=none)/\e=.tuple #[.slice none 0 0,iZ 4])
theorem Ta(F:Fld P)(n cap:Nat)(hn:n<=512)(q:Option Wv)(L:Nat->Bs)(w:Ut)(hA:ArgsPts w q n L):UK prog 206 #[.slice q n cap] w (rZ w λe w'=>Uo P w n L e w'):=by
 obtain⟨C,h4,h7⟩:=RH n hn;obtain⟨i,-⟩:∃i:Nat,i=0:=⟨_,rfl⟩
 obtain⟨b,-⟩:∃i:Nat,i=0:=⟨_,rfl⟩
 obtain⟨m,-⟩:∃i:Nat,i=0:=⟨_,rfl⟩
 obtain⟨v,-⟩:∃v:Uv,v=.bool true:=⟨_,rfl⟩
 obtain⟨x,-⟩:∃x:Fin P,x=0:=⟨_,rfl⟩
 obtain⟨y,-⟩:∃x:Fin P,x=0:=⟨_,rfl⟩
 obtain⟨I,-⟩:∃c:List Uv,c=C:=⟨_,rfl⟩
 go_enter func206,ntmps206;refine Hz (v0:=.slice q n cap) (n:=32) kR kR kR ?_;intro a0 h3 f0;have h1:=RG.St.begin w;have M0:RG.M w w.heap.size [] 32 [] [] [(0,.v (.slice q n cap))] a0 _:=⟨h1,h3,⟨f0,yCm⟩⟩
 repeat refine UC ?_
 refine M0.U [.x (.slice none 0 0),.x (iZ 0)] [0,2,3] ⟨st,st,yCm⟩ ?_;intro a1 w1 M1;repeat refine UC ?_
 refine M1.t [.x 9 [] (.slice q n cap),.x 10 [(9,0)] (iZ n),⟨some 11,[(10,1)],.s 0 n n,.make 0⟩,.s 4 [(11,2)] (.s 0 n n)] [(2,C)] [] [C] [(0,.v (.slice q n cap)),(2,.v (.slice none 0 0)),(3,.v (iZ 0)),(4,.s 0 n n)] ⟨st,fR rfl 9 (.v (.slice q n cap)) (iZ n) rfl sx (λa w=>kR) (λμ w=>kR),mI 0 rfl _ rfl 100 93 10 10 n rfl rfl sx sx h7,st,yCm⟩ ?_;intro j2 a2 w2 M2;repeat refine UC ?_
 refine M2.U [.x (.slice q n cap),.x (iZ n),.x (iZ 0)] [2,3,4,12,13,14] ⟨st,fR rfl 12 (.v (.slice q n cap)) (iZ n) rfl sx (λa w=>kR) (λμ w=>kR),st,yCm⟩ ?_;intro U w3 H;have hl:U.tmps[2]? = some (.slice none 0 0):=H.at (s:=(.v (.slice none 0 0)));have hm:U.tmps[3]? = some (iZ 0):=H.at (s:=(.v (iZ 0)));have Z:U.tmps[4]? = some (sZ j2 n n):=H.at (s:=(.s 0 n n));have J:U.tmps[12]? = some (.slice q n cap):=H.at (s:=(.v (.slice q n cap)));have R:U.tmps[13]? = some (iZ n):=H.at (s:=(.v (iZ n)));have T:U.tmps[14]? = some (iZ 0):=H.at (s:=(.v (iZ 0)));repeat refine UC ?_
 refine Xy ?_;refine Yt (λm a wr=>∃(i:Nat) (C:List Uv),i+m=n/\(∀j,j<i->(rd P (L j)).isSome=true)/\Rows 8 n (λj=>match rd P (L j) with|some p=>ws p.1++ws p.2|none=>[]) i C/\Sl a 32/\a.tmps[4]? = some (sZ j2 n n)/\a.tmps[12]? = some (.slice q n cap)/\a.tmps[13]? = some (iZ n)/\a.tmps[14]? = some (iZ i)/\RG.St w w.heap.size [] [C] [j2] wr) n ⟨0,C,oM,λj hj=>oM,⟨h4,λj r hj=>oM⟩,H.sl,Z,J,R,T,H.st⟩ ?_;intro m' a wr;rintro⟨i,C,k8,G,hR,sl,p4,A,Q,K,B⟩;generalize j2=M at p4 B;by_cases D:i<n
 ·obtain⟨b,V,Y,hc⟩:=hA oM;rw[V]at A;obtain⟨v,hv,E⟩:=hc i D;have l:w.cell? ⟨b,0+i,none⟩=some v:=by rw[UF];exact hv
  cases k:rd P (L i) with
  | some pp =>
   obtain⟨x,y⟩:=pp;have N:∀w',BelX w.heap.size [] w w'->UK prog 193 #[v] w' (Ret λe O=>kZ w' O/\e=.tuple #[pv x y,.bool true]):=λw' hb=>by
    have:=mY F v (L i) w' (E.below hb.below);rw[k]at this;exact this
   have h0:=hR.len;have f:0+8*i+(ws x++ws y).length<=C.length:=by rw[h0];show 0+8*i+8<=8*n;omega
   obtain⟨I,g⟩:∃c,rep C (0+8*i) (ws x++ws y)=c:=⟨_,rfl⟩
   have hk:=g ▸ RG.rep_at f;have h2:I.length=C.length:=g ▸ cU f;have he:Rows 8 n (λj=>match rd P (L j) with|some p=>ws p.1++ws p.2|none=>[]) (i+1) I:=by
    have:=hR.next D (by show yBR (match rd P (L i) with|some p=>_|none=>_)=_;rw[k];rfl);rw[<-g];have e:(λj=>match rd P (L j) with|some p=>ws p.1++ws p.2|none=>[]) i=(ws x++ws y):=by show(match rd P (L i) with|some p=>_|none=>_)=_;rw[k]
    rw[<-e];exact this
   have h6:RG.M w w.heap.size [] 32 [C] [M] [(4,.s 0 n n),(12,.v (sZ b n cap)),(13,.v (iZ n)),(14,.v (iZ i))] a _:=⟨B,sl,⟨p4,A,Q,K,yCm⟩⟩
   repeat refine UC ?_
   refine h6.U [.x (.bool true)] [4,12,13,14,15] ⟨aQ rfl .lss 3 3 14 13 (iZ i) (iZ n) (.bool true) rfl rfl sx sx (λw=>kR) (gB D),yCm⟩ ?_;intro kb hu W;repeat refine UC ?_
   refine VH W.ev ?_;refine WQ ?_;refine UC ?_;refine Xy ?_;repeat refine UC ?_
   refine W.U [.x (iZ i),.x (.pointer (some ⟨b,0+i,none⟩)),.x v,.x (iZ i),.x v] [4,5,6,12,13,14] ⟨st,bD rfl 24 12 14 rfl (.v (sZ b n cap)) (iZ i) sx sx (λμ w=>Nl _ 0 _ _ i D w),bM rfl b (0+i) Y U1 23 17 rfl v rfl sx l u23,st,st,yCm⟩ ?_;intro k6 hz hg;repeat refine UC ?_
   refine hg.T [.x v,.c (.tuple #[pv x y,.bool true]),.x (.tuple #[pv x y,.bool true]),.x (pv x y),.x (.bool true),.m 1,.u 1,.x (.bool true)] [(5,RG.z 8)] [(1,6,ws x++(ws y))] [C,ws x++(ws y)] [4,5,7,8,12,13,14] ⟨st,uF rfl 193 20 v (.tuple #[pv x y,.bool true]) rfl (λa w=>kR) sx N,st,st,st,mk 1 93,RG.pt i109,st,yCm⟩ ?_;intro hy ka k2 h9;repeat refine UC ?_
   refine h9.U [.x (.bool true),.x (.bool false)] [4,5,7,12,13,14,25] ⟨st,st,yCm⟩ ?_;intro ht hq X;repeat refine UC ?_
   refine VJ X.ev ?_;refine WQ ?_;repeat refine UC ?_
   refine X.tx [.s 26 [] (.s 0 n n),.x 27 [] (iZ i),.x 28 [] (pv x y),.s 29 [(26,0),(27,1)] (.p 0 (0+8*i)),.u [(29,3),(28,2)] 0] [] [(0,4,I)] [I,ws x++(ws y)] [(4,.s 0 n n),(12,.v (sZ b n cap)),(13,.v (iZ n)),(14,.v (iZ i))] kR (congrArg (λn=>[n]) h2) ⟨st,st,ld gV i109,bD rfl 100 26 27 rfl (.s 0 n n) (iZ i) sx sx (λμ w=>N6 _ 0 _ _ i D w),fA 0 (0+8*i) rfl _ rfl 93 (.tmp 29) (.tmp 28) (ws x++ws y) rfl rfl sx sx f hk i109 rfl,yCm⟩ ?_;intro k7 hp ha;repeat refine UC ?_
   refine ha.U [.x (iZ ((i+1:Nat):Int)),.x (iZ ((i+1:Nat):Int))] [4,12,13,14] ⟨aP rfl .add 3 3 14 (iZ i) (iZ 1) (iZ ((i+1:Nat):Int)) rfl rfl sx (λw=>kR) (uP i 1 oM oM),st,yCm⟩ ?_;intro z hs d;have S:z.tmps[4]? = some (sZ M n n):=d.at (s:=(.s 0 n n));have t:z.tmps[12]? = some (sZ b n cap):=d.at (s:=(.v (sZ b n cap)));have o:z.tmps[13]? = some (iZ n):=d.at (s:=(.v (iZ n)));have u:z.tmps[14]? = some (iZ ((i+1:Nat):Int)):=d.at (s:=(.v (iZ ((i+1:Nat):Int))));show ∃n',_;exact⟨m'-1,oM,i+1,I,oM,λj hj=>(by
    by_cases h8:j=i
    ·rw[h8,k];rfl
    ·exact G j oM),he,d.sl,S,(by rw[V];exact t),o,u,RG.St.init (cs:=[I]) (ks:=[M]) d.st⟩
  | none =>
   have N:∀w',BelX w.heap.size [] w w'->UK prog 193 #[v] w' (Ret λe O=>kZ w' O/\e=.tuple #[pv (0:Fin P) 0,.bool false]):=λw' hb=>by
    have:=mY F v (L i) w' (E.below hb.below);rw[k]at this;exact this
   have u:RG.M w w.heap.size [] 32 [C] [M] [(4,.s 0 n n),(12,.v (sZ b n cap)),(13,.v (iZ n)),(14,.v (iZ i))] a _:=⟨B,sl,⟨p4,A,Q,K,yCm⟩⟩
   repeat refine UC ?_
   refine u.U [.x (.bool true)] [12,14,15] ⟨aQ rfl .lss 3 3 14 13 (iZ i) (iZ n) (.bool true) rfl rfl sx sx (λw=>kR) (gB D),yCm⟩ ?_;intro k4 X f;repeat refine UC ?_
   refine VH f.ev ?_;refine WQ ?_;refine UC ?_;refine Xy ?_;repeat refine UC ?_
   refine f.U [.x (iZ i),.x (.pointer (some ⟨b,0+i,none⟩)),.x v,.x (iZ i),.x v] [6] ⟨st,bD rfl 24 12 14 rfl (.v (sZ b n cap)) (iZ i) sx sx (λμ w=>Nl _ 0 _ _ i D w),bM rfl b (0+i) Y U1 23 17 rfl v rfl sx l u23,st,st,yCm⟩ ?_;intro S hw o;repeat refine UC ?_
   refine o.T [.x v,.c (.tuple #[pv (0:Fin P) (0:Fin P),.bool false]),.x (.tuple #[pv (0:Fin P) (0:Fin P),.bool false]),.x (pv (0:Fin P) (0:Fin P)),.x (.bool false),.m 1,.u 1,.x (.bool false)] [(5,RG.z 8)] [(1,6,ws (0:Fin P)++(ws (0:Fin P)))] [C,ws (0:Fin P)++(ws (0:Fin P))] [8] ⟨st,uF rfl 193 20 v (.tuple #[pv (0:Fin P) (0:Fin P),.bool false]) rfl (λa w=>kR) sx N,st,st,st,mk 1 93,RG.pt i109,st,yCm⟩ ?_;intro k1 k9 k5 t;repeat refine UC ?_
   refine t.U [.x (.bool false),.x (.bool true)] [25] ⟨st,st,yCm⟩ ?_;intro k0 W g;repeat refine UC ?_
   refine VH g.ev ?_;repeat refine UC ?_
   refine g.U [.x (.slice none 0 0),.x (iZ 4)] [2,3] ⟨st,st,yCm⟩ ?_;intro z k3 d;refine Wy ?_;refine UH (v:=.tuple #[.slice none 0 0,iZ 4]) (fY 2 3 rfl _ _ (d.at (s:=(.v (.slice none 0 0)))) (d.at (s:=(.v (iZ 4))))) d.sl.defers ?_;exact⟨_,rfl,d.st.bel.below,U2 ⟨⟨i,D,k⟩,rfl⟩⟩
 ·have N:i=n:=oM;have g:RG.M w w.heap.size [] 32 [C] [M] [(4,.s 0 n n),(12,.v (.slice q n cap)),(13,.v (iZ n)),(14,.v (iZ i))] a _:=⟨B,sl,⟨p4,A,Q,K,yCm⟩⟩
  repeat refine UC ?_
  refine g.U [.x (.bool false)] [4,15] ⟨aQ rfl .lss 3 3 14 13 (iZ i) (iZ n) (.bool false) rfl rfl sx sx (λw=>kR) (nG D),yCm⟩ ?_;intro o t d;repeat refine UC ?_
  refine VJ d.ev ?_;refine wp_exit ?_;dsimp only[Exit.then,Ye];rw[yCk rfl];repeat refine UC ?_
  refine d.U [.s (.s 0 n n),.s (.s 0 n n),.x (iZ 0)] [2,3] ⟨st,st,st,yCm⟩ ?_;intro l u k;refine Wy ?_;refine UH (v:=.tuple #[sZ M n n,iZ 0]) (fY 2 3 rfl _ _ (k.at (s:=(.s 0 n n))) (k.at (s:=(.v (iZ 0))))) k.sl.defers ?_;refine⟨_,rfl,k.st.bel.below,U6 ⟨M,?_,?_,rfl,λj hj=>?_⟩⟩
  ·exact(k.st.has 0 C rfl).2.2.2.elim id (λh=>absurd h U1)
  ·exact(k.st.has 0 C rfl).2.2.1
  ·obtain⟨pp,f⟩:=Vu.1 (G j oM);refine⟨pp,f,rU (k.st.has 0 C rfl).1 (λr E=>?_)⟩;have z:=hR.row j r oM E;rw[z];show(match rd P (L j) with|some p=>_|none=>_)[r]? = _;rw[f]
def vQ(w:Ut)(q:Option Wv)(n:Nat)(L:Nat->Bs):Prop:=0<n->∃k,q=some (aZ k)/\k<w.heap.size/\∀j,j<n->∃v,w.cell? ⟨k,j,none⟩=some v/\Arg w v (L j)
def Un(N:Nat)(w:Ut)(n:Nat)(L:Nat->Bs)(e:Uv)(w':Ut):Prop:=
 (∃k,w.heap.size<=k/\k<w'.heap.size/\e=.tuple #[sZ k n n,iZ 0]/\∀j,j<n->∃p,rq N (L j)=some p/\w'.rangeAt k (4*j) (wn p)) \/
 ((∃j,j<n/\rq N (L j)=none)/\e=.tuple #[.slice none 0 0,iZ 3])
theorem Od{N:Nat}(hG:Gap 4624529908474429119 4994812053365940164 1 N)(n cap:Nat)(hn:n<=512)(q:Option Wv)(L:Nat->Bs)(w:Ut)(hA:vQ w q n L):UK prog 47 #[.slice q n cap] w (rZ w λe w'=>Un N w n L e w'):=by
 obtain⟨C,h3,h6⟩:=TP n hn;obtain⟨i,-⟩:∃i:Nat,i=0:=⟨_,rfl⟩
 obtain⟨d,-⟩:∃i:Nat,i=0:=⟨_,rfl⟩
 obtain⟨m,-⟩:∃i:Nat,i=0:=⟨_,rfl⟩
 obtain⟨v,-⟩:∃v:Uv,v=.bool true:=⟨_,rfl⟩
 obtain⟨G,-⟩:∃c:List Uv,c=C:=⟨_,rfl⟩
 go_enter func47,ntmps47;refine Hz (v0:=.slice q n cap) (n:=33) kR kR kR ?_;intro a0 h2 f0;have h0:=RG.St.begin w;have M0:RG.M w w.heap.size [] 33 [] [] [(0,.v (.slice q n cap))] a0 _:=⟨h0,h2,⟨f0,yCm⟩⟩
 repeat refine UC ?_
 refine M0.U [.x (.slice none 0 0),.x (iZ 0)] [0,2,3] ⟨st,st,yCm⟩ ?_;intro a1 w1 M1;repeat refine UC ?_
 refine M1.t [.x 9 [] (.slice q n cap),.x 10 [(9,0)] (iZ n),⟨some 11,[(10,1)],.s 0 n n,.make 0⟩,.s 4 [(11,2)] (.s 0 n n)] [(2,C)] [] [C] [(0,.v (.slice q n cap)),(2,.v (.slice none 0 0)),(3,.v (iZ 0)),(4,.s 0 n n)] ⟨st,fR rfl 9 (.v (.slice q n cap)) (iZ n) rfl sx (λa w=>kR) (λμ w=>kR),mI 0 rfl _ rfl 89 47 10 10 n rfl rfl sx sx h6,st,yCm⟩ ?_;intro j2 a2 w2 M2;repeat refine UC ?_
 refine M2.U [.x (.slice q n cap),.x (iZ n),.x (iZ 0)] [2,3,4,12,13,14] ⟨st,fR rfl 12 (.v (.slice q n cap)) (iZ n) rfl sx (λa w=>kR) (λμ w=>kR),st,yCm⟩ ?_;intro S w3 F;have hk:S.tmps[2]? = some (.slice none 0 0):=F.at (s:=(.v (.slice none 0 0)));have hl:S.tmps[3]? = some (iZ 0):=F.at (s:=(.v (iZ 0)));have X:S.tmps[4]? = some (sZ j2 n n):=F.at (s:=(.s 0 n n));have H:S.tmps[12]? = some (.slice q n cap):=F.at (s:=(.v (.slice q n cap)));have P:S.tmps[13]? = some (iZ n):=F.at (s:=(.v (iZ n)));have R:S.tmps[14]? = some (iZ 0):=F.at (s:=(.v (iZ 0)));repeat refine UC ?_
 refine Xy ?_;refine Yt (λm a wr=>∃(i:Nat) (C:List Uv),i+m=n/\(∀j,j<i->(rq N (L j)).isSome=true)/\Rows 4 n (λj=>match rq N (L j) with|some k=>wn k|none=>[]) i C/\Sl a 33/\a.tmps[4]? = some (sZ j2 n n)/\a.tmps[12]? = some (.slice q n cap)/\a.tmps[13]? = some (iZ n)/\a.tmps[14]? = some (iZ i)/\RG.St w w.heap.size [] [C] [j2] wr) n ⟨0,C,oM,λj hj=>oM,⟨h3,λj r hj=>oM⟩,F.sl,X,H,P,R,F.st⟩ ?_;intro m' a wr;rintro⟨i,C,k6,E,hR,sl,Z,z,O,I,A⟩;generalize j2=J at Z A;by_cases B:i<n
 ·obtain⟨d,T,W,hc⟩:=hA oM;rw[T]at z;obtain⟨v,hv,D⟩:=hc i B;have o:w.cell? ⟨d,0+i,none⟩=some v:=by rw[UF];exact hv
  cases b:rq N (L i) with
  | some pp =>
   obtain⟨m,rfl⟩:∃m,m=pp:=⟨_,rfl⟩
   have K:∀w',BelX w.heap.size [] w w'->UK prog 59 #[gv1,v] w' (Ret λe M=>kZ w' M/\e=.tuple #[nv m,.bool true]):=λw' hb=>by
    have:=AN hG v (L i) w' (D.below hb.below);rw[b]at this;exact this
   have Y:=hR.len;have g:0+4*i+(wn m).length<=C.length:=by rw[Y];show 0+4*i+4<=4*n;omega
   obtain⟨G,l⟩:∃c,rep C (0+4*i) (wn m)=c:=⟨_,rfl⟩
   have hg:=l ▸ RG.rep_at g;have h1:G.length=C.length:=l ▸ cU g;have ha:Rows 4 n (λj=>match rq N (L j) with|some k=>wn k|none=>[]) (i+1) G:=by
    have:=hR.next B (by show yBR (match rq N (L i) with|some p=>_|none=>_)=_;rw[b];rfl);rw[<-l];have e:(λj=>match rq N (L j) with|some k=>wn k|none=>[]) i=(wn m):=by show(match rq N (L i) with|some p=>_|none=>_)=_;rw[b]
    rw[<-e];exact this
   have h4:RG.M w w.heap.size [] 33 [C] [J] [(4,.s 0 n n),(12,.v (sZ d n cap)),(13,.v (iZ n)),(14,.v (iZ i))] a _:=⟨A,sl,⟨Z,z,O,I,yCm⟩⟩
   repeat refine UC ?_
   refine h4.U [.x (.bool true)] [4,12,13,14,15] ⟨aQ rfl .lss 3 3 14 13 (iZ i) (iZ n) (.bool true) rfl rfl sx sx (λw=>kR) (gB B),yCm⟩ ?_;intro k9 ht U;repeat refine UC ?_
   refine VH U.ev ?_;refine WQ ?_;refine UC ?_;refine Xy ?_;repeat refine UC ?_
   refine U.U [.x (iZ i),.x (.pointer (some ⟨d,0+i,none⟩)),.x v,.x (iZ i),.x v] [4,5,6,12,13,14] ⟨st,bD rfl 24 12 14 rfl (.v (sZ d n cap)) (iZ i) sx sx (λμ w=>Nl _ 0 _ _ i B w),bM rfl d (0+i) W U1 23 17 rfl v rfl sx o u23,st,st,yCm⟩ ?_;intro k4 hw he;repeat refine UC ?_
   refine he.T [.c gv1,.x v,.c (.tuple #[nv m,.bool true]),.x (.tuple #[nv m,.bool true]),.x (nv m),.x (.bool true),.m 1,.u 1,.x (.bool true)] [(6,RG.z 4)] [(1,7,wn m)] [C,wn m] [4,5,7,8,12,13,14] ⟨cl fJ,st,kK rfl 59 20 21 gv1 v (.tuple #[nv m,.bool true]) rfl (λa w=>kR) sx sx K,st,st,st,mk 1 47,RG.pt i85,st,yCm⟩ ?_;intro hu k8 k0 h8;repeat refine UC ?_
   refine h8.U [.x (.bool true),.x (.bool false)] [4,5,7,12,13,14,26] ⟨st,st,yCm⟩ ?_;intro hs hp V;repeat refine UC ?_
   refine VJ V.ev ?_;refine WQ ?_;repeat refine UC ?_
   refine V.tx [.s 27 [] (.s 0 n n),.x 28 [] (iZ i),.x 29 [] (nv m),.s 30 [(27,0),(28,1)] (.p 0 (0+4*i)),.u [(30,3),(29,2)] 0] [] [(0,4,G)] [G,wn m] [(4,.s 0 n n),(12,.v (sZ d n cap)),(13,.v (iZ n)),(14,.v (iZ i))] kR (congrArg (λn=>[n]) h1) ⟨st,st,ld u85 i85,bD rfl 89 27 28 rfl (.s 0 n n) (iZ i) sx sx (λμ w=>SX _ 0 _ _ i B w),fA 0 (0+4*i) rfl _ rfl 47 (.tmp 30) (.tmp 29) (wn m) rfl rfl sx sx g hg i85 rfl,yCm⟩ ?_;intro k5 hm h9;repeat refine UC ?_
   refine h9.U [.x (iZ ((i+1:Nat):Int)),.x (iZ ((i+1:Nat):Int))] [4,12,13,14] ⟨aP rfl .add 3 3 14 (iZ i) (iZ 1) (iZ ((i+1:Nat):Int)) rfl rfl sx (λw=>kR) (uP i 1 oM oM),st,yCm⟩ ?_;intro y hq f;have Q:y.tmps[4]? = some (sZ J n n):=f.at (s:=(.s 0 n n));have u:y.tmps[12]? = some (sZ d n cap):=f.at (s:=(.v (sZ d n cap)));have t:y.tmps[13]? = some (iZ n):=f.at (s:=(.v (iZ n)));have x:y.tmps[14]? = some (iZ ((i+1:Nat):Int)):=f.at (s:=(.v (iZ ((i+1:Nat):Int))));show ∃n',_;exact⟨m'-1,oM,i+1,G,oM,λj hj=>(by
    by_cases h7:j=i
    ·rw[h7,b];rfl
    ·exact E j oM),ha,f.sl,Q,(by rw[T];exact u),t,x,RG.St.init (cs:=[G]) (ks:=[J]) f.st⟩
  | none =>
   have K:∀w',BelX w.heap.size [] w w'->UK prog 59 #[gv1,v] w' (Ret λe M=>kZ w' M/\e=.tuple #[nv 0,.bool false]):=λw' hb=>by
    have:=AN hG v (L i) w' (D.below hb.below);rw[b]at this;exact this
   have x:RG.M w w.heap.size [] 33 [C] [J] [(4,.s 0 n n),(12,.v (sZ d n cap)),(13,.v (iZ n)),(14,.v (iZ i))] a _:=⟨A,sl,⟨Z,z,O,I,yCm⟩⟩
   repeat refine UC ?_
   refine x.U [.x (.bool true)] [12,14,15] ⟨aQ rfl .lss 3 3 14 13 (iZ i) (iZ n) (.bool true) rfl rfl sx sx (λw=>kR) (gB B),yCm⟩ ?_;intro k2 V g;repeat refine UC ?_
   refine VH g.ev ?_;refine WQ ?_;refine UC ?_;refine Xy ?_;repeat refine UC ?_
   refine g.U [.x (iZ i),.x (.pointer (some ⟨d,0+i,none⟩)),.x v,.x (iZ i),.x v] [6] ⟨st,bD rfl 24 12 14 rfl (.v (sZ d n cap)) (iZ i) sx sx (λμ w=>Nl _ 0 _ _ i B w),bM rfl d (0+i) W U1 23 17 rfl v rfl sx o u23,st,st,yCm⟩ ?_;intro Q Y t;repeat refine UC ?_
   refine t.T [.c gv1,.x v,.c (.tuple #[nv 0,.bool false]),.x (.tuple #[nv 0,.bool false]),.x (nv 0),.x (.bool false),.m 1,.u 1,.x (.bool false)] [(6,RG.z 4)] [(1,7,wn 0)] [C,wn 0] [8] ⟨cl fJ,st,kK rfl 59 20 21 gv1 v (.tuple #[nv 0,.bool false]) rfl (λa w=>kR) sx sx K,st,st,st,mk 1 47,RG.pt i85,st,yCm⟩ ?_;intro hz k7 k3 u;repeat refine UC ?_
   refine u.U [.x (.bool false),.x (.bool true)] [26] ⟨st,st,yCm⟩ ?_;intro hy U l;repeat refine UC ?_
   refine VH l.ev ?_;repeat refine UC ?_
   refine l.U [.x (.slice none 0 0),.x (iZ 3)] [2,3] ⟨st,st,yCm⟩ ?_;intro y k1 f;refine Wy ?_;refine UH (v:=.tuple #[.slice none 0 0,iZ 3]) (fY 2 3 rfl _ _ (f.at (s:=(.v (.slice none 0 0)))) (f.at (s:=(.v (iZ 3))))) f.sl.defers ?_;exact⟨_,rfl,f.st.bel.below,U2 ⟨⟨i,B,b⟩,rfl⟩⟩
 ·have K:i=n:=oM;have l:RG.M w w.heap.size [] 33 [C] [J] [(4,.s 0 n n),(12,.v (.slice q n cap)),(13,.v (iZ n)),(14,.v (iZ i))] a _:=⟨A,sl,⟨Z,z,O,I,yCm⟩⟩
  repeat refine UC ?_
  refine l.U [.x (.bool false)] [4,15] ⟨aQ rfl .lss 3 3 14 13 (iZ i) (iZ n) (.bool false) rfl rfl sx sx (λw=>kR) (nG B),yCm⟩ ?_;intro t u f;repeat refine UC ?_
  refine VJ f.ev ?_;refine wp_exit ?_;dsimp only[Exit.then,Ye];rw[yCk rfl];repeat refine UC ?_
  refine f.U [.s (.s 0 n n),.s (.s 0 n n),.x (iZ 0)] [2,3] ⟨st,st,st,yCm⟩ ?_;intro o x b;refine Wy ?_;refine UH (v:=.tuple #[sZ J n n,iZ 0]) (fY 2 3 rfl _ _ (b.at (s:=(.s 0 n n))) (b.at (s:=(.v (iZ 0))))) b.sl.defers ?_;refine⟨_,rfl,b.st.bel.below,U6 ⟨J,?_,?_,rfl,λj hj=>?_⟩⟩
  ·exact(b.st.has 0 C rfl).2.2.2.elim id (λh=>absurd h U1)
  ·exact(b.st.has 0 C rfl).2.2.1
  ·obtain⟨pp,g⟩:=Vu.1 (E j oM);refine⟨pp,g,rU (b.st.has 0 C rfl).1 (λr D=>?_)⟩;have y:=hR.row j r oM D;rw[y];show(match rq N (L j) with|some p=>_|none=>_)[r]? = _;rw[g]
end
section
open Go.RowKit Go.Sort Go.Deep
variable {P:Nat}[NeZero P]{N:Nat}
omit [NeZero P] in
theorem Hv(x y:Fin P):∃a b c d p q r s:Nat,pv x y=.agg #[uZ a,uZ b,uZ c,uZ d,uZ p,uZ q,uZ r,uZ s]/\ws x++ws y=[uZ a,uZ b,uZ c,uZ d,uZ p,uZ q,uZ r,uZ s]:=
 ⟨_,_,_,_,_,_,_,_,rfl,rfl⟩
def Ky(c:Int)(e:Uv):Prop:=e=.tuple #[.slice none 0 0,iZ c]
def He(w:Ut)(T:Bs)(e:Uv)(w':Ut):Prop:=∃g cap,e=.tuple #[sZ g 33 cap,iZ 0]/\33<=cap/\w.heap.size<=g/\g<w'.heap.size/\Holds encB w' g 0 T
theorem Ct(C:Fld P)(v:Uv)(f:Bs)(w:Ut)(hv:Arg33 w v f):UK prog 118 #[v] w (rZ w λe w'=>e=.bool (rd P f).isSome):=by
 have i:∃(b b1 c1 k p1 d c s1:Nat),UK prog 193 #[v] w (rZ w λe w'=>e=.tuple #[.agg #[uZ b,uZ b1,uZ c1,uZ k,uZ p1,uZ d,uZ c,uZ s1],.bool (rd P f).isSome]):=by
  have h:=mY C v f w hv;cases g:rd P f with
  | none =>
   obtain⟨b,b1,c1,k,p1,d,c,s1,j,-⟩:=Hv (0:Fin P) 0;refine⟨b,b1,c1,k,p1,d,c,s1,?_⟩;rw[g]at h;rw[<-j];exact h
  | some p =>
   obtain⟨b,b1,c1,k,p1,d,c,s1,j,-⟩:=Hv p.1 p.2;refine⟨b,b1,c1,k,p1,d,c,s1,?_⟩;rw[g]at h;rw[<-j];exact h
 obtain⟨b,b1,c1,k,p1,d,c,s1,i⟩:=i;obtain⟨q,n,cap,rfl,-⟩:=hv;go_enter func118,ntmps118;go_wp2_with fail
 refine i.mono ?_;rintro e l ⟨v,rfl,g,rfl⟩;have j:=mk1 (g);go_wp2;go_ret;exact⟨_,rfl,j.alloc j.size _,rfl⟩
structure PS(w:Ut)(k:Nat)(a1 b1 c1 d1 p1 q1 r1 s1 a2 b2 c2 d2 p2 q2 r2 s2:Nat)(W:Ut):Prop where
 r1:W.rangeAt k 0 [uZ a1,uZ b1,uZ c1,uZ d1,uZ p1,uZ q1,uZ r1,uZ s1]
 r2:W.rangeAt k 8 [uZ a2,uZ b2,uZ c2,uZ d2,uZ p2,uZ q2,uZ r2,uZ s2]
 lt:k<W.heap.size
 bl:kZ w W
def ptP(s:T3 P):Fin P × Fin P:=(s.1*(inv s.2.2*inv s.2.2),s.2.1*(inv s.2.2*inv s.2.2)*inv s.2.2)
theorem cell_below{w b:Ut}{v:Uv}(h:w.cell? ⟨k,j,none⟩=some v)(e:kZ w b)(d:k<w.heap.size):b.cell? ⟨k,j,none⟩=some v:=by
 have f:w.rangeAt k j [v]:=λi u c=>by
  cases i with
  | zero =>
   obtain rfl:v=u:=UP.inj c;exact h
  | succ i=>exact absurd c (by simp)
 exact RG.range_below f e d 0 v rfl
theorem ArgsPts.below{w c:Ut}{q:Option Wv}{n:Nat}{L:Nat->Bs}(h:ArgsPts w q n L)(b:kZ w c):ArgsPts c q n L:=λf=>by
 obtain⟨e,g,k,d⟩:=h f;refine⟨e,g,Uz k b.size,λj i=>?_⟩;obtain⟨v,hv,l⟩:=d j i;exact⟨v,cell_below hv b k,l.below b⟩
def SumR(P:Nat)[NeZero P](N:Nat)(w:Ut)(n a:Nat)(L M:Nat->Bs)(e:Uv)(w':Ut):Prop:=
 (n≠a/\Ky 2 e)\/(n=a/\512<n/\Ky 1 e)\/(n=a/\n<=512/\(((∃j,j<n/\rq N (L j)=none)/\Ky 3 e) \/
  ∃ns:Nat->Nat,(∀j,j<n->rq N (L j)=some (ns j))/\(((∃j,j<n/\rd P (M j)=none)/\Ky 4 e) \/
   ∃xs ys:Nat->Fin P,(∀j,j<n->rd P (M j)=some (xs j,ys j))/\He w (tC (ptP (iI ns xs ys n 257)).1 (ptP (iI ns xs ys n 257)).2) e w')))
theorem yC{A:Type}[Inhabited A]{n:Nat}{p:Nat->A->Prop}(h:∀j,j<n->∃a,p j a):∃f:Nat->A,∀j,j<n->p j (f j):=
 ⟨λj=>if k:j<n then(h j k).choose else default,λj k=>by
  show p j (if k:j<n then(h j k).choose else default);rw[dif_pos k];exact(h j k).choose_spec⟩
theorem wM{N:Nat}(b:N<=top){k:Bs}{m:Nat}(h:rq N k=some m):m<top:=by
 unfold rq at h;split at h
 ·rename_i h1
  obtain rfl:beV k.toList=m:=UP.inj h;exact Uz h1.2 b
 ·exact absurd h (by simp)
theorem PM{N:Nat}(C:Fld P)(hG:Gap 4624529908474429119 4994812053365940164 1 N)(hN:N<=top)(q S:Option Wv)(n cap a p:Nat)(L M:Nat->Bs)(w:Ut)(hL:vQ w q n L)(hM:ArgsPts w S a M):
 UK prog 143 #[.slice q n cap,.slice S a p] w (rZ w λe w'=>SumR P N w n a L M e w'):=by
 have HL:=mk1 (hL);have HM:=mk1 (hM);by_cases E:n=a
 ·subst E;by_cases D:512<n
  ·go_enter func143,ntmps143;go_wp2
   go_ret2
   exact⟨_,rfl,UT _ _,U2 (U6 ⟨rfl,D,rfl⟩)⟩
  ·have y:n<=512:=oM;go_enter func143,ntmps143;go_wp2_with fail
   refine(Od hG n cap y q L w HL.out).mono ?_;rintro e T ⟨v,rfl,F,⟨k,h0,x,rfl,c⟩|⟨t,rfl⟩⟩
   ·obtain⟨ns,I⟩:=yC c;have r:=mk1 (F);have U:Hid (k<T.heap.size/\∀j,j<n->T.rangeAt k (4*j) (wn (ns j))):=⟨x,λj f=>(I j f).2⟩
    have R:Hid (∀j,j<n->rq N (L j)=some (ns j)):=λj f=>(I j f).1
    go_wp2_with fail
    refine(Ta C n p y S M T (HM.below r.out)).mono ?_;rintro e o ⟨v,rfl,d,⟨K,h0,x,rfl,c⟩|⟨t,rfl⟩⟩
    ·obtain⟨b,H⟩:=yC c;have l:=mk1 (r.trans (d.mono r.size));have J:Hid (k<o.heap.size/\∀j,j<n->o.rangeAt k (4*j) (wn (ns j))):=⟨Uz U.1 d.size,λj f=>RG.range_below (U.2 j f) d U.1⟩
     have HP:Hid (K<o.heap.size/\∀j,j<n->o.rangeAt K (8*j) (ws (b j).1++ws (b j).2)):=⟨x,λj f=>(H j f).2⟩
     have X:Hid (∀j,j<n->rd P (M j)=some ((b j).1,(b j).2)):=λj f=>(H j f).1
     have G:∀w,UK prog 52 #[pv (ptP (iI ns (λj=>(b j).1) (λj=>(b j).2) n 257)).1 (ptP (iI ns (λj=>(b j).1) (λj=>(b j).2) n 257)).2] w (rZ w λe w'=>mK w (tC (ptP (iI ns (λj=>(b j).1) (λj=>(b j).2) n 257)).1 (ptP (iI ns (λj=>(b j).1) (λj=>(b j).2) n 257)).2) e w'):=vJ C _ _;have hS:UK prog 48 #[sZ k n n,sZ K n n] o (rZ o λe w'=>e=pv (ptP (iI ns (λj=>(b j).1) (λj=>(b j).2) n 257)).1 (ptP (iI ns (λj=>(b j).1) (λj=>(b j).2) n 257)).2):=by
      refine(Ic C n y ns (λj=>(b j).1) (λj=>(b j).2) (λi u=>wM hN (R i u)) k K o J.1 HP.1 J.2 HP.2).mono ?_;rintro e w' ⟨v,rfl,m,s,rfl,rfl⟩;exact⟨_,rfl,m,rfl⟩
     generalize hz:ptP (iI ns (λj=>(b j).1) (λj=>(b j).2) n 257)=z at hS G;have HZ:Hid (ptP (iI ns (λj=>(b j).1) (λj=>(b j).2) n 257)=z):=hz;go_wp2_with fail
     refine hS.mono ?_;rintro e w3 ⟨v,rfl,Q,rfl⟩;have u:=mk1 (l.trans (Q.mono l.size));go_wp2_with fail
     refine(G _).mono ?_;rintro e w4 ⟨v,rfl,O,g,m,rfl,V,W,B,Z⟩;have Y:=mk1 (u.trans (O.mono u.size));have A:Hid (He w (tC z.1 z.2) (.tuple #[sZ g 33 m,iZ 0]) w4):=⟨g,m,rfl,V,UE u.size W,B,Z⟩
     go_wp2
     go_ret2
     refine⟨_,rfl,Y.out,U2 (U2 ⟨rfl,y,U2 ⟨ns,R.out,U2 ⟨_,_,X.out,?_⟩⟩⟩)⟩;rw[HZ.out];exact A.out
    ·have l:=mk1 (r.trans (d.mono r.size));have A:=mk1 (t);go_wp2
     go_ret2
     exact⟨_,rfl,l.out,U2 (U2 ⟨rfl,y,U2 ⟨ns,R.out,U6 ⟨A.out,rfl⟩⟩⟩)⟩
   ·have r:=mk1 (F);have A:=mk1 (t);go_wp2
    go_ret2
    exact⟨_,rfl,r.out,U2 (U2 ⟨rfl,y,U6 ⟨A.out,rfl⟩⟩)⟩
 ·go_enter func143,ntmps143;go_wp2
  go_ret2
  exact⟨_,rfl,UT _ _,U6 ⟨E,rfl⟩⟩
def Hj:Bs:=UM 33 0
theorem OG(r d:Nat):d*d%(r+d)=r*r%(r+d):=by
 have h:d*d+(r+d)*r=r*r+(r+d)*d:=by
  rw[XH,XH,Vv d r];omega
 have k:=congrArg (· % (r+d)) h;simp only[Nat.add_mul_mod_self_left]at k;exact k
theorem Nz(h:rt m=some y):y*y=m:=by
 have k:=IA h;unfold rt at h;rw[yCk k]at h;obtain rfl:=UP.inj h;have b:=Yc P;have c:m.val^(P/4+1)%P<P:=V6 _ b;generalize m.val^(P/4+1)%P=r at k c;apply Yi;rw[XO];show(even P r%P)*(even P r%P)%P=m.val;rw[UU (Fu b c),<-k];unfold even;split
 ·have d:=OG r (P-r);rw[show r+(P-r)=P by omega]at d;exact d
 ·rfl
theorem C5{k:Bs}(c:k.size=33):tI k↔k=Hj:=by
 constructor
 ·intro h;apply yB7
  ·rw[c];rfl
  ·intro i e g;have:=h i (VS.2 oM);rw[getElem!_pos k i e]at this;have d:k[i].toNat=0:=by
    have b:ub k[i]=(k[i].toNat:Int):=rfl;rw[b]at this;omega
   have b:(Hj)[i]=0:=by
    have f:(UM 33 (0:UInt8))[i]'g=0:=Wr _;exact f
   rw[b];exact UInt8.toNat_inj.1 d
 ·rintro rfl i b;have b:=VS.1 b;unfold Hj;rw[getElem!_pos _ i (by rw[UO];exact b),Wr];rfl
theorem IY(h:y*y=x*x*x+7):On (.some (x,y):EC.Pt P):=by
 show y^2=x^3+7
 grobner
theorem O5(h:y*y=x*x*x+7):On (.some (x,0-y):EC.Pt P):=by
 show(0-y)^2=x^3+7
 grobner
def wr:EC.Pt P->Bs
 | none=>Hj
 | some (x,y)=>#[mark y.val]++bx x.val
theorem vK(C:Fld P)(h:Pair x y p)(ho:On p):tC x y=wr p:=by
 unfold tC;match p,h,ho with
 | none,h,_=>rw[yCk (show x=0/\y=0 from h)];rfl
 | some (a,b),h,ho =>
  obtain⟨rfl,rfl⟩:=h;rw[yCl (λe=>C.cur.y_ne ho e.2)];rfl
def pt(p:Fin P × Fin P):EC.Pt P:=if p.1=0/\p.2=0 then none else some p
theorem Mm(C:Fld P){q:EC.Pt P}(h:Pair x y q)(ho:On q):q=pt (x,y):=by
 unfold pt;match q,h,ho with
 | none,h,_=>rw[yCk (show x=0/\y=0 from h)]
 | some (a,b),h,ho =>
  obtain⟨rfl,rfl⟩:=h;rw[yCl (λe=>C.cur.y_ne ho e.2)]
theorem QY(C:Fld P){b:Bs}{p:Fin P × Fin P}(h:rd P b=some p):Pair p.1 p.2 (pt p)/\On (pt p):=by
 have key:∃q:EC.Pt P,Pair p.1 p.2 q/\On q:=by
  unfold rd at h;split at h
  ·split at h
   ·obtain rfl:=UP.inj h;exact⟨none,⟨rfl,rfl⟩,iQ⟩
   ·split at h
    ·split at h
     ·obtain⟨y,c,rfl⟩:=UA.1 h;have k:=Nz c;refine⟨some (rdx P b,if ub b[0]! = 3 then 0-y else y),⟨rfl,rfl⟩,?_⟩;split
      ·exact O5 k
      ·exact IY k
     ·cases h
    ·cases h
  ·cases h
 obtain⟨q,k,c⟩:=key;have:=Mm C k c;rw[show pt p=q from this.symm];exact⟨k,c⟩
omit [NeZero P] in
theorem aT(p:EC.Pt P):(wr p).size=33:=by
 match p with
 | none=>rfl
 | some (x,y) =>
  show(#[mark y.val]++bx x.val).size=33;rw[VP,eE];rfl
end
section
variable {P:Nat}[NeZero P]{N:Nat}
theorem ID{a P:Nat}(h:IsP P)(k:P%4=3):(a*a%P)^(P/4+1)%P*((a*a%P)^(P/4+1)%P)%P=a*a%P:=by
 rw[<-Xz,<-Yh,<-Nat.pow_mod,<-yBX,<-Nat.pow_mul,show 2*(P/4+1+(P/4+1))=P+1 by omega,V8,Xz,h.fermat a,<-Xz,yBX]
theorem LS{a R P:Nat}(h:IsP P)(f:a<P)(hR:R<P)(e:R*R%P=a*a%P):R=a\/R+a=P:=by
 have key:∀x y:Nat,x<P->y<P->y<=x->x*x%P=y*y%P->x=y\/x+y=P:=by
  intro x y hx j g d;have hd:P ∣ x*x-y*y:=by
   refine Nat.dvd_of_mod_eq_zero ?_;exact Nat.sub_mod_eq_zero_of_mod_eq d
  have hf:x*x-y*y=(x-y)*(x+y):=by
   rw[Vv (x-y),Nat.mul_self_sub_mul_self_eq]
  rw[hf]at hd;rcases h.euclid hd with b|b
  ·left;have:=Nat.eq_zero_of_dvd_of_lt b oM;omega
  ·obtain⟨k,i⟩:=b;have:k=0\/k=1\/2<=k:=oM;rcases this with rfl|rfl|c
   ·left;omega
   ·right;omega
   ·have:=XU P c;omega
 rcases Nat.le_total a R with b|b
 ·exact key R a hR f b e
 ·rcases key a R f hR b e.symm with c|c
  ·left;exact c.symm
  ·right;omega
end
section
open Go.RowKit Go.Sort Go.Deep
theorem AB(x:Nat)(hx:x<18446744073709551616):
 w8 (UQ (x/72057594037927936)) (UQ (x/281474976710656)) (UQ (x/1099511627776)) (UQ (x/4294967296)) (UQ (x/16777216)) (UQ (x/65536)) (UQ (x/256)) (UQ x)=x:=by
 unfold w8;simp only[YQ];omega
theorem An(a b c d:Nat):(be32 a b c d).toList=[UQ (d/72057594037927936),UQ (d/281474976710656),UQ (d/1099511627776),UQ (d/4294967296),UQ (d/16777216),UQ (d/65536),UQ (d/256),UQ d,UQ (c/72057594037927936),UQ (c/281474976710656),UQ (c/1099511627776),UQ (c/4294967296),UQ (c/16777216),UQ (c/65536),UQ (c/256),UQ c,UQ (b/72057594037927936),UQ (b/281474976710656),UQ (b/1099511627776),UQ (b/4294967296),UQ (b/16777216),UQ (b/65536),UQ (b/256),UQ b,UQ (a/72057594037927936),UQ (a/281474976710656),UQ (a/1099511627776),UQ (a/4294967296),UQ (a/16777216),UQ (a/65536),UQ (a/256),UQ a]:=by
 simp only[be32,be8,Array.toList_append,Xv,XI]
theorem val_congr{a b d p s:Nat}(f:a=p)(g:b=q)(e:c=r)(k:d=s):val a b c d=val p q r s:=by subst f g e k;rfl
theorem J7(a b c d:Nat)(f:a<18446744073709551616)(e:b<18446744073709551616)(k:c<18446744073709551616)(hd:d<18446744073709551616):beV (be32 a b c d).toList=val a b c d:=
 (congrArg beV (An a b c d)).trans ((J8 _ _ _ _ _ _ _ _ _ _ _ _ _ _ _ _ _ _ _ _ _ _ _ _ _ _ _ _ _ _ _ _).trans (val_congr (AB a f) (AB b e) (AB c k) (AB d hd)))
theorem Bn{n:Nat}(k:n<top):beV (bx n).toList=n:=by
 unfold bx;rw[J7 _ _ _ _ oM oM oM oM];unfold val;unfold top at k;omega
variable {P:Nat}[NeZero P]
theorem QT(C:Fld P)(h:y*y=m):rt m=some (if y.val%2=1 then 0-y else y):=by
 have d:y.val*y.val%P=m.val:=by rw[<-h,XO]
 have k:=ID (a:=y.val) C.cur.pr C.p3;rw[d]at k;unfold rt;rw[yCk k];have f:=Yc P;have c:m.val^(P/4+1)%P<P:=V6 _ f;generalize m.val^(P/4+1)%P=r at k c;have b:=y.isLt;have j:=C.p3;have hor:=LS C.cur.pr b c (k.trans d.symm)
 congr 1
 apply Yi;show even P r%P=_;unfold even;have g:(0-y:Fin P).val=(P-y.val)%P:=by rw[<-AK,val_zero,UF]
 by_cases ho:y.val%2=1
 ·rw[yCk ho,g];rcases hor with e|e
  ·rw[e,yCk ho]
  ·rw[yCl oM,show P-y.val=r by omega]
 ·rw[yCl ho];rcases hor with e|e
  ·rw[e,yCl ho,UU b]
  ·by_cases i:y.val=0
   ·omega
   ·rw[yCk oM,show P-r=y.val by omega,UU b]
theorem Lh(n:Nat):ub (mark n)=if n%2=1 then 3 else 2:=by
 unfold mark;split<;>rfl
theorem Lm{m:UInt8}{b:Bs}(h:b.size=32):uL (#[m]++b)=b:=by
 unfold uL;rw[Array.extract_append];have k:(#[m]:Bs).extract 1 33=#[]:=by rfl
 rw[k];simp[h]
theorem Pm(m:UInt8)(b:Bs):(#[m]++b)[0]! = m:=by
 rw[getElem!_pos _ 0 (by rw[VP];simp;omega),YY (by simp)];rfl
theorem QZ(C:Fld P){b:Bs}(d:b.size=33)(c:ub b[0]! = if y.val%2=1 then 3 else 2)(hv:beV (uL b).toList=x.val)(h:On (some (x,y):EC.Pt P)):rd P b=some (x,y):=by
 have k:¬tI b:=λk=>by
  have:=k 0 (VS.2 dC);rw[c]at this;split at this<;>omega
 have hx:rdx P b=x:=by
  unfold rdx;rw[hv];exact Yi (UU x.isLt)
 have f:y*y=x*x*x+7:=by
  have:y^2=x^3+7:=h
  grobner
 unfold rd;rw[yCk d,yCl k,c,hv,yCk x.isLt,hx,QT C f];by_cases ho:y.val%2=1
 ·rw[yCk ho,yCk (U2 rfl),yCk ho,Yj,yCk rfl];have e:0-(0-y)=y:=by grobner
  rw[e]
 ·rw[yCl ho,yCk (U6 rfl),yCl ho,Yj,yCl dC]
theorem zM(C:Fld P){X:EC.Pt P}(h:On X):∃p,rd P (wr X)=some p/\pt p=X:=by
 match X,h with
 | none,_ =>
  refine⟨(0,0),?_,by unfold pt;rw[yCk ⟨rfl,rfl⟩]⟩;have k:(wr (none:EC.Pt P)).size=33:=aT _;have b:=(C5 k).2 rfl;unfold rd;rw[yCk k,yCk b]
 | some (x,y),h =>
  have b:=aT (P:=P) (some (x,y));have k:(wr (some (x,y):EC.Pt P))[0]! = mark y.val:=Pm _ _;have c:uL (wr (some (x,y):EC.Pt P))=bx x.val:=Lm (eE _);refine⟨(x,y),QZ C b (by rw[k,Lh]) (by rw[c,Bn (C.top x)]) h,by unfold pt;rw[yCl (λe=>C.cur.y_ne h e.2)]⟩
end
section
open Go.RowKit Go.Sort Go.Deep
variable {P:Nat}[NeZero P]{N:Nat}
def gxl:List Uv:=[uZ 6481385041966929816,uZ 188021827762530521,uZ 6170039885052185351,uZ 8772561819708210092]
def gyl:List Uv:=[uZ 11261198710074299576,uZ 18237243440184513561,uZ 6747795201694173352,uZ 5204712524664259685]
def gX(P:Nat)[NeZero P]:Fin P:=Xr P 55066263022277343669578718895168534326250603453777594175500187360389116729240
def gY(P:Nat)[NeZero P]:Fin P:=Xr P 32670510020758816978083085130507043184471273380659243275938904335757337482424
def gG(P:Nat)[NeZero P]:EC.Pt P:=some (gX P,gY P)
theorem Fld.eq(C:Fld P):P=115792089237316195423570985008687907853269984665640564039457584007908834671663:=by
 have h:=C.gap.hP;have e:val 4294968273 0 0 0=4294968273:=dC;rw[e]at h;unfold Go.Proofs.YtdoammpgchejcaaGreat.top at h;omega
theorem Jw(C:Fld P):(gX P).val=55066263022277343669578718895168534326250603453777594175500187360389116729240:=by
 have h:=C.eq;exact UU oM
theorem Jv(C:Fld P):(gY P).val=32670510020758816978083085130507043184471273380659243275938904335757337482424:=by
 have h:=C.eq;exact UU oM
theorem PG(C:Fld P):gxl=ws (gX P):=by
 show _=wn (gX P).val;rw[Jw C];kernel_rfl
theorem PD(C:Fld P):gyl=ws (gY P):=by
 show _=wn (gY P).val;rw[Jv C];kernel_rfl
theorem Cu(C:Fld P):On (gG P):=by
 refine IY (Yi ?_);have k:(7:Fin P).val=7:=UU C.p7;rw[XO,Fin.val_add,XO,XO,Jw C,Jv C,k];have h:=C.eq;rw[h]
theorem Qd:Gives 51 #[] (.agg (gxl++gyl).toArray):=by
 intro w;go_enter func51,ntmps51;refine RG.M.enter [] 4 kR ?_;intro a0 c;repeat refine UC ?_
 refine c.T [.m 0] [(0,RG.z 8)] [] [RG.z 8] [0] ⟨mk 0 93,yCm⟩ ?_;intro e g d b;repeat refine UC ?_
 refine b.T [.x (.agg gxl.toArray),.x (.agg gyl.toArray),.x (.agg (gxl++gyl).toArray),.u 0] [] [(0,3,gxl++gyl)] [gxl++gyl] [0] ⟨st,st,st,RG.pt i109,yCm⟩ ?_;intro a2 f k;refine Wy ?_;refine UH (v:=.agg (gxl++gyl).toArray) (aI k.st 0 93 rfl 0 _ rfl (k.at (s:=.p 0 0)) gV i109) k.sl.defers ?_;exact⟨_,rfl,k.st.bel.below,rfl⟩
theorem Ej(C:Fld P):Gives 51 #[] (pv (gX P) (gY P)):=by
 unfold pv;rw[<-PG C,<-PD C];exact Qd
theorem Sj(C:Fld P):tC (gX P) (gY P)=wr (gG P):=vK C ⟨rfl,rfl⟩ (Cu C)
theorem Qr(C:Fld P)(w:Ut):UK prog 137 #[] w (rZ w λe w'=>mK w (wr (gG P)) e w'):=by
 have d:Hid (Fld P):=C;clear C;go_enter func137,ntmps137;go_wp2_with fail
 refine(Ej d.out _).mono ?_;rintro e n ⟨v,rfl,k,rfl⟩;go_wp2_with fail
 refine(vJ d.out (gX P) (gY P) _).mono ?_;rintro e i ⟨v,rfl,b,g,cap,rfl,j,l,f,c⟩;rw[Sj d.out]at c;have m:Hid (kZ w i/\mK w (wr (gG P)) (sZ g 33 cap) i):=⟨k.trans (b.mono k.size),g,cap,rfl,j,UE k.size l,f,c⟩
 clear k b j l f c;go_wp2;go_ret;exact⟨_,rfl,m.out⟩
end
section
open Go.RowKit Go.Sort Go.Deep Go.Shelf
attribute [local go_sem] Oper.semAt_some
section
variable {F:Fence}{n:Nat}{P:VD}{ops:Array Oper}{rest:List Oper}{op:Oper}{a:Act}{w:Ut}{Q:Exit->Act->Ut->Prop}
theorem jU(g:op.guard=none)(k:Vb)(x:Operand)(ho:op.op=.load k x)(b o:Nat)(hx:a.eval x=oZ b o)(cs:List Uv)(d:TypeDesc)(j:w.rangeAt b o cs)
 (m:P.underlying k=some d) (hd:d.isRow=true) (l:(P.info? k).map (·.size)=some cs.length) (h:wpListIn F n P ops Q rest (a.put op.dst (.agg cs.toArray)) w):wpListIn F n P ops Q (op :: rest) a w:=
 wpListIn_plain g λK i=>by
  refine⟨λf hf=>(by unfold yB2 at hf;rw[ho]at hf;cases hf),?_⟩;rw[yBG _ _ _ (λc=>by rw[ho];intro e;cases e)];unfold execOp;simp only[ho,hx,Instr.loadAt,Yy,UW,WA,Vr,Y2 w b o k cs d j m hd l];exact i _ _ h
theorem bL(d:op.guard=none)(g:Vb)(x y:Operand)(ho:op.op=.store g x y)(b o:Nat)(k:Array Uv)(hx:a.eval x=oZ b o)(p:a.eval y=.agg k)
 (l:w.there b o k.size) (m:(P.info? g).map (·.size)=some k.size) (j:k.all (·.oneCell')=true)
 (h:wpListIn F n P ops Q rest (a.put op.dst WJ) (w.setCells b o k.toList)):wpListIn F n P ops Q (op :: rest) a w:=
 wpListIn_plain d λK i=>by
  refine⟨λf hf=>(by unfold yB2 at hf;rw[ho]at hf;cases hf),?_⟩;rw[yBG _ _ _ (λc=>by rw[ho];intro e;cases e)];unfold execOp;simp only[ho,hx,p,Instr.storeAt,Yy,UW,WA,Vr,run_storeVar_mid w b o g k l m j];exact i _ _ h
end
def Row(W:Ut)(k:Nat)(vs:List Uv):Prop:=k<W.heap.size/\W.rangeAt k 0 vs/\W.there k 0 vs.length
theorem qO(k:Nat)(vs:List Uv):Own (λ(_:Unit) W=>Row W k vs):=λs A B row b c e=>by
 refine⟨Uz b.1 c.size,λj v d=>?_,λj d=>?_⟩
 ·exact cell_kept (b.2.1 j v d) c e
 ·have f:=b.2.1 j vs[j] (List.getElem?_eq_getElem d);have g:=cell_kept f c e;exact⟨by rw[g];rfl,(frozen_kept f c e).trans (b.2.2 j d).2⟩
theorem nH(k:Nat):∀(vs:List Uv) (o:Nat) (W:Ut),KeepsOthers W (W.setCells k o vs)
 | [],_,W=>KeepsOthers.refl W
 | v :: vs,o,W=>(KeepsOthers.setCell W ⟨k,o,none⟩ v).trans (nH k vs (o+1) _)
theorem Row.alloc(h:Row W k vs)(o:Obj):Row (W.alloc o) k vs:=
 qO k vs () W (W.alloc o) none h (World.grownBy_alloc W o none) (λ_ e=>by cases e)
theorem Row.putObj{D:Nat}(h:Row W k vs){o:Obj}(c:W.heap[D]? = some o)(ho:o.isCells=false)(b:Obj):Row (W.putObj D b) k vs:=
 qO k vs () W (W.putObj D b) (some D) h (grownBy_putObj' W D b) (λr e=>by cases e;exact⟨_,c,ho⟩)
theorem Row.below{W':Ut}(h:Row W k vs)(c:kZ W W'):Row W' k vs:=by
 have e:=c.block k h.1;refine⟨Uz h.1 c.size,λj v b=>?_,λj b=>?_⟩
 ·exact(U0 e).trans (h.2.1 j v b)
 ·have d:=h.2.2 j b;exact⟨by rw[U0 e];exact d.1,(VR e).trans d.2⟩
theorem aG{P:VD}{c:Func}{tmps:Array Uv}(t:Tmp)(T:Vb)(e:c.results=#[.cell t T])(h:Row W k vs)(j:tmps[t]? = some (jZ k))
 (b:(P.underlying T).map (·.isRow)=some true) (f:(P.info? T).map (·.size)=some vs.length):(results c tmps).run P W=.ok (.agg vs.toArray) W:=by
 obtain⟨d,b,hd⟩:=UA.1 b;have g:=Y2 (P:=P) W k 0 T vs d h.2.1 b hd f;have i:tmps.getD t WJ=jZ k:=by rw[Array.getD_eq_getD_getElem?,j];rfl
 unfold results;rw[e];simp only[Array.mapM_eq_mapM_toList,List.mapM_cons,List.mapM_nil,i,asAddr];simp[UW,g]
theorem Row.put{us:List Uv}(h:Row W k vs)(b:us.length=vs.length):Row (W.setCells k 0 us) k us:=
 ⟨by rw[setCells_size];exact h.1,World.rangeAt_setCells_same W k 0 us (by rw[b];exact h.2.2),by rw[b];exact V7 h.2.2 _ _ _⟩
theorem Row.other{us:List Uv}(h:Row W k vs)(b:k≠j):Row (W.setCells j 0 us) k vs:=
 ⟨by rw[setCells_size];exact h.1,World.rangeAt_setCells_apart h.2.1 j 0 us (U6 b),V7 h.2.2 _ _ _⟩
variable {P:Nat}[NeZero P]
theorem MQ(C:Fld P)(lb:Array Uv)(L:List (Fin P × Fin P))(N:Nat)(w:Ut)
 (E:∀n,SeqStopsK Fence.wide n prog 112 lb (λx:Fin P × Fin P=>#[pv x.1 x.2]) (Below w.heap.size) (λxs=>xs=L) (λb=>b <+: L) N w) :
 UK prog 49 #[.func (.func 112) #[] lb] w (rZ w λe w'=>e=pv (L.headD (gX P,gY P)).1 (L.headD (gX P,gY P)).2):=by
 refine(callsIn_wide (n:=5)).1 ?_;refine callsIn_of_wp_marks func49 rfl trivial ?_ rfl;simp only[ntmps49,VE,Vg,WO,Nat.reduceAdd,Nat.reduceSub,Array.replicate_succ,Array.replicate_zero,List.push_toArray,List.append_toArray,XI,Xv]
 gi_wp2
 have z:=Made.alloc w [uZ 0,uZ 0,uZ 0,uZ 0,uZ 0,uZ 0,uZ 0,uZ 0] 93;have a:Row (w.alloc (.cells #[uZ 0,uZ 0,uZ 0,uZ 0,uZ 0,uZ 0,uZ 0,uZ 0] 93)) w.heap.size [uZ 0,uZ 0,uZ 0,uZ 0,uZ 0,uZ 0,uZ 0,uZ 0]:=⟨z.lt,z.range,z.there⟩
 have p:kZ w (w.alloc (.cells #[uZ 0,uZ 0,uZ 0,uZ 0,uZ 0,uZ 0,uZ 0,uZ 0] 93)):=z.bel;clear z;obtain⟨y,m⟩:∃y,y=w.alloc (.cells #[uZ 0,uZ 0,uZ 0,uZ 0,uZ 0,uZ 0,uZ 0,uZ 0] 93):=⟨_,rfl⟩
 have H:y.heap.size=w.heap.size+1:=by rw[m,UD]
 rw[<-m]at a p⊢;clear m;refine wpIn_rangeFunc_ownH (α:=Fin P × Fin P) rfl dC (gf:=112) (lb:=lb) rfl trivial (enters_of func112 kR rfl) (E 4) belowK_t (belowK_b oM) p (λ_=>rfl)
  (λb W=>(b=[]/\Row W w.heap.size [uZ 0,uZ 0,uZ 0,uZ 0,uZ 0,uZ 0,uZ 0,uZ 0])/\kZ w W)
  (λc b W=>(c=.ret/\∃x:Fin P × Fin P,b=[x]/\Row W w.heap.size (ws x.1++ws x.2))/\kZ w W)
  (yBA (Own.from (λs A B row k f j=>⟨k.1,qO _ _ () A B row k.2 f j⟩) _) (ownFrom_below (Uy _) oM))
  (λc=>yBA (Own.from (λs A B row k f j=>⟨k.1,k.2.imp λx hx=>⟨hx.1,qO _ _ () A B row hx.2 f j⟩⟩) _) (ownFrom_below (Uy _) oM))
  ⟨⟨rfl,a⟩,p⟩
  (λx u W=>∃o,w.heap.size<o/\Row W o (ws x.1++ws x.2)/\u = { tmps:=#[.func (.func 112) #[] lb,WJ,jZ w.heap.size,jZ o,.func (.func 112) #[] lb,pv x.1 x.2,WJ,WJ],defers:=[] })
  (λx u=>Own.from (λs A B row k f j=>k.imp λo hx=>⟨hx.1,qO _ _ () A B row hx.2.1 f j,hx.2.2⟩) _) ?assign ?body ?done ?stop
 case assign =>
  intro l b x W K t i;have f:=Made.alloc W [uZ 0,uZ 0,uZ 0,uZ 0,uZ 0,uZ 0,uZ 0,uZ 0] 93;have g:=f.there
  gi_wp2_with (refine bL rfl 93 _ _ rfl W.heap.size 0 (ws x.1++ws x.2).toArray rfl rfl g i109 kR ?_)
  have k:=t.1.2.1;have q:Below w.heap.size W ((W.alloc (.cells #[uZ 0,uZ 0,uZ 0,uZ 0,uZ 0,uZ 0,uZ 0,uZ 0] 93)).setCells W.heap.size 0 (ws x.1++ws x.2)):=
   RG.below_setCells (XN k) _ _ _ ((UT _ W).alloc (XN k) _)
  exact i _ _ (((KeepsOthers.alloc W _).trans (nH _ _ _ _)).from _) q ⟨⟨t.1.1,(t.1.2.alloc _).other (Nat.ne_of_lt k)⟩,t.2.trans q⟩
   ⟨W.heap.size,k,Row.put (vs:=[uZ 0,uZ 0,uZ 0,uZ 0,uZ 0,uZ 0,uZ 0,uZ 0]) ⟨f.lt,f.range,f.there⟩ rfl,rfl⟩
 case body =>
  rintro l b x u W J ⟨r,j⟩ ⟨⟨rfl,k⟩,t⟩ ⟨o,I,G,rfl⟩ F;obtain⟨d,f,A⟩:=UA.1 gV;have q:=G.2.1;have g:=k.2.2
  gi_wp2_with (first|refine jU rfl 93 _ rfl o 0 rfl (ws x.1++ws x.2) d q f A i109 ?_|refine bL rfl 93 _ _ rfl w.heap.size 0 (ws x.1++ws x.2).toArray rfl rfl g i109 kR ?_)
  exact⟨(nH _ _ _ _).from _,⟨rfl,x,rfl,k.put rfl⟩,RG.below_setCells (Uy _) _ _ _ t⟩
 case done =>
  rintro D ys W G rfl ⟨⟨rfl,k⟩,t⟩ i;have g:=k.2.2
  gi_wp2_with fail
  refine⟨trivial,(callsIn_wide.2 (Ej C _)).mono ?_⟩;rintro e A ⟨v,rfl,j,rfl⟩;have f:Row A w.heap.size [uZ 0,uZ 0,uZ 0,uZ 0,uZ 0,uZ 0,uZ 0,uZ 0]:=k.below j;have u:=f.2.2
  gi_wp2_with (refine bL rfl 93 _ _ rfl w.heap.size 0 (ws (gX P)++ws (gY P)).toArray rfl rfl u i109 kR ?_)
  have o:(A.setCells w.heap.size 0 (ws (gX P)++ws (gY P))).heap[D]? = some (.deferred (some [])):=by
   rw[aH _ _ _ _ _ oM,j.block D (Array.getElem?_eq_some_iff.1 i).1];exact i
  have F:kZ w (A.setCells w.heap.size 0 (ws (gX P)++ws (gY P))):=RG.below_setCells (Uy _) _ _ _ (t.trans (j.mono t.size));have q:Row (A.setCells w.heap.size 0 (ws (gX P)++ws (gY P))) w.heap.size (ws (gX P)++ws (gY P)):=f.put rfl;refine⟨by simp,.inl ⟨_,_,rfl,run_takeDeferred o,?_⟩⟩;exact⟨_,aG 2 93 rfl (q.putObj o rfl _) rfl gV i109,_,rfl,F.trans (belowK_b (w:=y) oM _ D _ _ G o rfl rfl),rfl⟩
 case stop =>
  rintro D c b W G f ⟨⟨rfl,x,rfl,k⟩,t⟩ i
  gi_wp2
  obtain⟨o,j⟩:=f;have g:L=x :: o:=j.symm;rw[g];refine⟨by simp,.inl ⟨_,_,rfl,run_takeDeferred i,?_⟩⟩;exact⟨_,aG 2 93 rfl (k.putObj i rfl _) rfl gV i109,_,rfl,t.trans (belowK_b (w:=y) oM _ D _ _ G i rfl rfl),rfl⟩
end
end Go.Proofs.YtdoammpgchejcaaGreat
