import Derived.Deep.LoopGhost
import Derived.Deep.RegionHeld3
import Derived.Lib.LazyBuf
import Derived.RangeFuncNested
import Derived.RangeFuncBound
import Derived.RangeFuncCalls
import Derived.RangeFuncLeaves
import Derived.Shelf.Abstract
import Derived.Shelf.RegionOpen
import Derived.WalkKit
import Derived.OwnWalkIn
import Derived.TacticsInMore
import Derived.LoopNIn
import Derived.LoopIn
import Derived.Deep.RegionWith
import Derived.Deep.CutRange
import Derived.Deep.DeepCutAuto
import Derived.Deep.OwnRows
import Derived.Great.BuildSlice
import Derived.Laws.AppendOwn
import Derived.Laws.IdiomCopy
import Derived.Lib.AppendZeros
import Derived.Test.YtdoammpgchejcaaGreatsz3
set_option linter.unusedVariables false
set_option linter.constructorNameAsVariable false
set_option linter.unusedSimpArgs false
set_option maxRecDepth 1000000
set_option maxHeartbeats 4000000
namespace Go.Proofs.YtdoammpgchejcaaGreat
open EC NT RG SP
open _root_.Array renaming all_eq_true'->WX,any_eq_true'->XO,ext->yB4,ext_getElem?->yAF,getD_eq_getD_getElem?->UI,getElem?_eq_getElem->U0,getElem?_eq_some_iff->UZ,getElem?_replicate->Yg,getElem?_setIfInBounds->WB,getElem?_toList->Vq,getElem_replicate->Ww,length_toList->UK,replicate->UJ,replicate_succ->yAo,replicate_zero->yAn,size_append->VN,size_extract->Xx,size_replicate->UP,size_setIfInBounds->VF,toList_append->yAu,toList_replicate->Y3
open _root_.Bool renaming and_eq_true->UL,or_eq_false_iff->yAt,or_eq_true->Xv,true_or->X9
open _root_.Classical renaming byContradiction->Wt
open _root_.Fin renaming ext->X8,ofNat->Xh,val_mul->XJ
open _root_.Go renaming Addr->Wu,Calls->UH,Exit->Yo,Oper->Vk,Operand->XG,Program->VD,Tmp->WC,TypeId->U8,Value->Ut,World->Ur,bodyPost_ret->UE,execOp->U5,run_append_own->Y1,run_loadVar_mid->Ye,run_underlying->XY,undef->WP,wpList_load_mid->U6,wpList_plain->Xg,wpList_store_mid->U2,wpOp_mono->Zz,wp_block->XH,wp_cond_false->VI,wp_cond_true->VE,wp_loop_ghost->Ze,wp_region_any->yB7,wp_ret->Wp,wp_seq->Uz,wp_skip->WS
open _root_.Go.Addr renaming add->Zi
open _root_.Go.Builtin renaming append_->Vt,clear_->yAK,zeroCells->WE
open _root_.Go.Code renaming region->V4
open _root_.Go.Exit renaming inBlock->Yu
open _root_.Go.Fence renaming wide->yBP
open _root_.Go.Instr renaming box->Ve,build->Zg,buildSlice->Vy,findAsking->yAS,findKey->yBv,indexAt->Vl,loadAt->ZB,lookup->yAh,mapUpdate->Y2,sliceAt->Xn,sureAddr->X4
open _root_.Go.IntKind renaming i64->VS,wrap_i64->Yj
open _root_.Go.Next renaming value->Xp
open _root_.Go.Oper renaming about->yAI,semAt_eq->yAb,semAt_some->Zd,upon_enter->WY,wp->VT
open _root_.Go.OwnFrom renaming and->yBu
open _root_.Go.Region renaming binds->VP,ready->U7,wanted->V2
open _root_.Go.Result renaming andThen_ok->Vm
open _root_.Go.RowKit.Below renaming refl->UR
open _root_.Go.RowKit.Hid renaming out->Zf
open _root_.Go.Sem renaming run->yBO,run_bind->UV,run_pure->Wr
open _root_.Go.Value renaming agg->U3
open _root_.Go.World renaming cell?->VY,cell?_of_block->UW,frozen?->WW,frozen?_of_block->VU,ownsRow_nil->yAH,putObj->yAe,rangeAt_setCells_apart->Vh,rangeAt_setCells_same->VO,size_alloc->UB,there->yBF,there_setCells->VW
open _root_.List renaming all_eq_true->Va,append_nil->Xu,append_toArray->yAA,cons_append->Xa,countP_replicate->yAm,eq_nil_iff_forall_not_mem->ZJ,ext_getElem?->YX,filter_sublist->yAz,finRange->yBx,flatMap_append->Zq,flatMap_cons->Zy,getElem?_append_left->UT,getElem?_append_right->U1,getElem?_eq_getElem->UG,getElem?_eq_none->Wx,getElem?_eq_some_iff->UF,getElem?_map->Vz,getElem?_of_mem->WJ,getElem?_range->yAy,getElem?_take->WA,getElem?_toArray->Vg,getElem_cons_succ->yAj,getElem_mem->VH,length->yBM,length_append->UA,length_cons->Vj,length_filter_le->yAl,length_map->UQ,length_nil->WG,length_range->XW,length_take->WF,map_append->We,map_cons->XV,map_nil->yBD,map_toArray->yA1,mem_append->Wz,mem_cons->VX,mem_cons_of_mem->Vb,mem_cons_self->Vu,mem_filter->Y5,mem_finRange->yAP,mem_flatMap->yA0,mem_map->Vn,mem_of_mem_take->yAp,mem_range->V0,mem_toArray->X6,nil_append->Xr,nodup_cons->XT,nodup_finRange->Zk,not_mem_nil->UY,pairwise_map->yAO,prefix_rfl->yBb,push_toArray->yAN,range->VG,range_succ->Y4,set_cons_succ->Uu,size_toArray->VC,take_add_one->ZH,take_length->yAZ
open _root_.List.Pairwise renaming imp->ZY
open _root_.Nat renaming add_comm->yBL,add_mod->Zn,add_mul->XF,add_zero->XB,div_add_mod->Z8,le_add_right->Y8,le_of_ble_eq_true->VR,le_of_lt->XK,le_refl->Uw,le_trans->UC,lt_of_lt_of_le->Ux,lt_of_succ_le->Xj,lt_or_ge->Wq,mod_eq_of_lt->US,mod_lt->V5,mul_comm->Vv,mul_le_mul_right->Xs,mul_mod->Xz,mul_succ->Yi,mul_zero->ZP,ne_of_gt->V8,pos_of_neZero->Yy,pow_succ->V7,pow_two->yBT,reduceAdd->VK,reduceSub->yBC,sub_zero->YT,zero_add->UD,zero_le->Wy
open _root_.Ne renaming symm->YB
open _root_.Option renaming isSome_iff_exists->Vr,map_eq_some_iff->Uy,map_some->Yv,some->UO
open _root_.Or renaming inl->U4,inr->UX
open _root_.Prod renaming mk->V6
open _root_.UInt8 renaming ofNat->UM,toNat_inj->yAU,toNat_ofNat'->YH
open Go.Proofs.Tryz
open Go.RowKit Go.Sort Go.Deep
section
variable {P:Nat}[NeZero P]{N:Nat}
def ArgsPts(w:Ur)(q:Option Wu)(n:Nat)(L:Nat->Bs):Prop:=0<n->∃k,q=some (aZ k)/\k<w.heap.size/\∀j,j<n->∃v,w.cell? ⟨k,j,none⟩=some v/\Arg33 w v (L j)
def Um(P:Nat)[NeZero P](w:Ur)(n:Nat)(L:Nat->Bs)(e:Ut)(w':Ur):Prop:=
 (∃k,w.heap.size<=k/\k<w'.heap.size/\e=.tuple #[sZ k n n,iZ 0]/\∀j,j<n->∃p,rd P (L j)=some p/\w'.rangeAt k (8*j) (ws p.1++ws p.2)) \/
 ((∃j,j<n/\rd P (L j)=none)/\e=.tuple #[.slice none 0 0,iZ 4])
theorem S6(F:Fld P)(n cap:Nat)(hn:n<=512)(q:Option Wu)(L:Nat->Bs)(w:Ur)(hA:ArgsPts w q n L):UH prog 206 #[.slice q n cap] w (rZ w λe w'=>Um P w n L e w'):=by
 obtain⟨C,h4,hg⟩:=Rz n hn;obtain⟨i,-⟩:∃i:Nat,i=0:=⟨_,rfl⟩
 obtain⟨b,-⟩:∃i:Nat,i=0:=⟨_,rfl⟩
 obtain⟨m,-⟩:∃i:Nat,i=0:=⟨_,rfl⟩
 obtain⟨v,-⟩:∃v:Ut,v=.bool true:=⟨_,rfl⟩
 obtain⟨x,-⟩:∃x:Fin P,x=0:=⟨_,rfl⟩
 obtain⟨y,-⟩:∃x:Fin P,x=0:=⟨_,rfl⟩
 obtain⟨M,-⟩:∃c:List Ut,c=C:=⟨_,rfl⟩
 go_enter func206,ntmps206;refine Hx (v0:=.slice q n cap) (n:=32) kR kR kR ?_;intro a0 h3 f0;have he:=RG.St.begin w;have M0:RG.M w w.heap.size [] 32 [] [] [(0,.v (.slice q n cap))] a0 _:=⟨he,h3,⟨f0,yCl⟩⟩
 repeat refine Uz ?_
 refine M0.U [.x (.slice none 0 0),.x (iZ 0)] [0,2,3] ⟨st,st,yCl⟩ ?_;intro a1 w1 M1;repeat refine Uz ?_
 refine M1.t [.x 9 [] (.slice q n cap),.x 10 [(9,0)] (iZ n),⟨some 11,[(10,1)],.s 0 n n,.make 0⟩,.s 4 [(11,2)] (.s 0 n n)] [(2,C)] [] [C] [(0,.v (.slice q n cap)),(2,.v (.slice none 0 0)),(3,.v (iZ 0)),(4,.s 0 n n)] ⟨st,fQ rfl 9 (.v (.slice q n cap)) (iZ n) rfl sx (λa w=>kR) (λμ w=>kR),mJ 0 rfl _ rfl 100 93 10 10 n rfl rfl sx sx hg,st,yCl⟩ ?_;intro j2 a2 w2 M2;repeat refine Uz ?_
 refine M2.U [.x (.slice q n cap),.x (iZ n),.x (iZ 0)] [2,3,4,12,13,14] ⟨st,fQ rfl 12 (.v (.slice q n cap)) (iZ n) rfl sx (λa w=>kR) (λμ w=>kR),st,yCl⟩ ?_;intro U w3 H;have hm:U.tmps[2]? = some (.slice none 0 0):=H.at (s:=(.v (.slice none 0 0)));have hl:U.tmps[3]? = some (iZ 0):=H.at (s:=(.v (iZ 0)));have X:U.tmps[4]? = some (sZ j2 n n):=H.at (s:=(.s 0 n n));have S:U.tmps[12]? = some (.slice q n cap):=H.at (s:=(.v (.slice q n cap)));have J:U.tmps[13]? = some (iZ n):=H.at (s:=(.v (iZ n)));have T:U.tmps[14]? = some (iZ 0):=H.at (s:=(.v (iZ 0)));repeat refine Uz ?_
 refine XH ?_;refine Ze (λm a wr=>∃(i:Nat) (C:List Ut),i+m=n/\(∀j,j<i->(rd P (L j)).isSome=true)/\Rows 8 n (λj=>match rd P (L j) with|some p=>ws p.1++ws p.2|none=>[]) i C/\Sl a 32/\a.tmps[4]? = some (sZ j2 n n)/\a.tmps[12]? = some (.slice q n cap)/\a.tmps[13]? = some (iZ n)/\a.tmps[14]? = some (iZ i)/\RG.St w w.heap.size [] [C] [j2] wr) n ⟨0,C,oM,λj hj=>oM,⟨h4,λj r hj=>oM⟩,H.sl,X,S,J,T,H.st⟩ ?_;intro m' a wr;rintro⟨i,C,ka,G,hR,sl,p4,z,R,K,u⟩;generalize j2=Q at p4 u;by_cases o:i<n
 ·obtain⟨b,Z,h0,hc⟩:=hA oM;rw[Z]at z;obtain⟨v,hv,E⟩:=hc i o;have l:w.cell? ⟨b,0+i,none⟩=some v:=by rw[UD];exact hv
  cases k:rd P (L i) with
  | some pp =>
   obtain⟨x,y⟩:=pp;have I:∀w',BelX w.heap.size [] w w'->UH prog 193 #[v] w' (Ret λe N=>kZ w' N/\e=.tuple #[pv x y,.bool true]):=λw' hb=>by
    have:=mZ F v (L i) w' (E.below hb.below);rw[k]at this;exact this
   have W:=hR.len;have g:0+8*i+(ws x++ws y).length<=C.length:=by rw[W];show 0+8*i+8<=8*n;omega
   obtain⟨M,f⟩:∃c,rep C (0+8*i) (ws x++ws y)=c:=⟨_,rfl⟩
   have h7:=f ▸ RG.rep_at g;have h1:M.length=C.length:=f ▸ cU g;have hk:Rows 8 n (λj=>match rd P (L j) with|some p=>ws p.1++ws p.2|none=>[]) (i+1) M:=by
    have:=hR.next o (by show yBM (match rd P (L i) with|some p=>_|none=>_)=_;rw[k];rfl);rw[<-f];have e:(λj=>match rd P (L j) with|some p=>ws p.1++ws p.2|none=>[]) i=(ws x++ws y):=by show(match rd P (L i) with|some p=>_|none=>_)=_;rw[k]
    rw[<-e];exact this
   have h8:RG.M w w.heap.size [] 32 [C] [Q] [(4,.s 0 n n),(12,.v (sZ b n cap)),(13,.v (iZ n)),(14,.v (iZ i))] a _:=⟨u,sl,⟨p4,z,R,K,yCl⟩⟩
   repeat refine Uz ?_
   refine h8.U [.x (.bool true)] [4,12,13,14,15] ⟨aQ rfl .lss 3 3 14 13 (iZ i) (iZ n) (.bool true) rfl rfl sx sx (λw=>kR) (gA o),yCl⟩ ?_;intro hy hw V;repeat refine Uz ?_
   refine VE V.ev ?_;refine WS ?_;refine Uz ?_;refine XH ?_;repeat refine Uz ?_
   refine V.U [.x (iZ i),.x (.pointer (some ⟨b,0+i,none⟩)),.x v,.x (iZ i),.x v] [4,5,6,12,13,14] ⟨st,bD rfl 24 12 14 rfl (.v (sZ b n cap)) (iZ i) sx sx (λμ w=>Nh _ 0 _ _ i o w),bM rfl b (0+i) h0 UY 23 17 rfl v rfl sx l u23,st,st,yCl⟩ ?_;intro ht k0 h9;repeat refine Uz ?_
   refine h9.T [.x v,.c (.tuple #[pv x y,.bool true]),.x (.tuple #[pv x y,.bool true]),.x (pv x y),.x (.bool true),.m 1,.u 1,.x (.bool true)] [(5,RG.z 8)] [(1,6,ws x++(ws y))] [C,ws x++(ws y)] [4,5,7,8,12,13,14] ⟨st,uG rfl 193 20 v (.tuple #[pv x y,.bool true]) rfl (λa w=>kR) sx I,st,st,st,mk 1 93,RG.pt i109,st,yCl⟩ ?_;intro hp hq k2 ha;repeat refine Uz ?_
   refine ha.U [.x (.bool true),.x (.bool false)] [4,5,7,12,13,14,25] ⟨st,st,yCl⟩ ?_;intro hs hz Y;repeat refine Uz ?_
   refine VI Y.ev ?_;refine WS ?_;repeat refine Uz ?_
   refine Y.tx [.s 26 [] (.s 0 n n),.x 27 [] (iZ i),.x 28 [] (pv x y),.s 29 [(26,0),(27,1)] (.p 0 (0+8*i)),.u [(29,3),(28,2)] 0] [] [(0,4,M)] [M,ws x++(ws y)] [(4,.s 0 n n),(12,.v (sZ b n cap)),(13,.v (iZ n)),(14,.v (iZ i))] kR (congrArg (λn=>[n]) h1) ⟨st,st,ld gU i109,bD rfl 100 26 27 rfl (.s 0 n n) (iZ i) sx sx (λμ w=>NY _ 0 _ _ i o w),eZ 0 (0+8*i) rfl _ rfl 93 (.tmp 29) (.tmp 28) (ws x++ws y) rfl rfl sx sx g h7 i109 rfl,yCl⟩ ?_;intro hu k6 h6;repeat refine Uz ?_
   refine h6.U [.x (iZ ((i+1:Nat):Int)),.x (iZ ((i+1:Nat):Int))] [4,12,13,14] ⟨aP rfl .add 3 3 14 (iZ i) (iZ 1) (iZ ((i+1:Nat):Int)) rfl rfl sx (λw=>kR) (uQ i 1 oM oM),st,yCl⟩ ?_;intro B k1 d;have O:B.tmps[4]? = some (sZ Q n n):=d.at (s:=(.s 0 n n));have A:B.tmps[12]? = some (sZ b n cap):=d.at (s:=(.v (sZ b n cap)));have D:B.tmps[13]? = some (iZ n):=d.at (s:=(.v (iZ n)));have t:B.tmps[14]? = some (iZ ((i+1:Nat):Int)):=d.at (s:=(.v (iZ ((i+1:Nat):Int))));show ∃n',_;exact⟨m'-1,oM,i+1,M,oM,λj hj=>(by
    by_cases h2:j=i
    ·rw[h2,k];rfl
    ·exact G j oM),hk,d.sl,O,(by rw[Z];exact A),D,t,RG.St.init (cs:=[M]) (ks:=[Q]) d.st⟩
  | none =>
   have I:∀w',BelX w.heap.size [] w w'->UH prog 193 #[v] w' (Ret λe N=>kZ w' N/\e=.tuple #[pv (0:Fin P) 0,.bool false]):=λw' hb=>by
    have:=mZ F v (L i) w' (E.below hb.below);rw[k]at this;exact this
   have t:RG.M w w.heap.size [] 32 [C] [Q] [(4,.s 0 n n),(12,.v (sZ b n cap)),(13,.v (iZ n)),(14,.v (iZ i))] a _:=⟨u,sl,⟨p4,z,R,K,yCl⟩⟩
   repeat refine Uz ?_
   refine t.U [.x (.bool true)] [12,14,15] ⟨aQ rfl .lss 3 3 14 13 (iZ i) (iZ n) (.bool true) rfl rfl sx sx (λw=>kR) (gA o),yCl⟩ ?_;intro W D f;repeat refine Uz ?_
   refine VE f.ev ?_;refine WS ?_;refine Uz ?_;refine XH ?_;repeat refine Uz ?_
   refine f.U [.x (iZ i),.x (.pointer (some ⟨b,0+i,none⟩)),.x v,.x (iZ i),.x v] [6] ⟨st,bD rfl 24 12 14 rfl (.v (sZ b n cap)) (iZ i) sx sx (λμ w=>Nh _ 0 _ _ i o w),bM rfl b (0+i) h0 UY 23 17 rfl v rfl sx l u23,st,st,yCl⟩ ?_;intro O k4 B;repeat refine Uz ?_
   refine B.T [.x v,.c (.tuple #[pv (0:Fin P) (0:Fin P),.bool false]),.x (.tuple #[pv (0:Fin P) (0:Fin P),.bool false]),.x (pv (0:Fin P) (0:Fin P)),.x (.bool false),.m 1,.u 1,.x (.bool false)] [(5,RG.z 8)] [(1,6,ws (0:Fin P)++(ws (0:Fin P)))] [C,ws (0:Fin P)++(ws (0:Fin P))] [8] ⟨st,uG rfl 193 20 v (.tuple #[pv (0:Fin P) (0:Fin P),.bool false]) rfl (λa w=>kR) sx I,st,st,st,mk 1 93,RG.pt i109,st,yCl⟩ ?_;intro k7 k8 k3 A;repeat refine Uz ?_
   refine A.U [.x (.bool false),.x (.bool true)] [25] ⟨st,st,yCl⟩ ?_;intro V k9 g;repeat refine Uz ?_
   refine VE g.ev ?_;repeat refine Uz ?_
   refine g.U [.x (.slice none 0 0),.x (iZ 4)] [2,3] ⟨st,st,yCl⟩ ?_;intro k5 Y d;refine Wp ?_;refine UE (v:=.tuple #[.slice none 0 0,iZ 4]) (fX 2 3 rfl _ _ (d.at (s:=(.v (.slice none 0 0)))) (d.at (s:=(.v (iZ 4))))) d.sl.defers ?_;exact⟨_,rfl,d.st.bel.below,UX ⟨⟨i,o,k⟩,rfl⟩⟩
 ·have E:i=n:=oM;have g:RG.M w w.heap.size [] 32 [C] [Q] [(4,.s 0 n n),(12,.v (.slice q n cap)),(13,.v (iZ n)),(14,.v (iZ i))] a _:=⟨u,sl,⟨p4,z,R,K,yCl⟩⟩
  repeat refine Uz ?_
  refine g.U [.x (.bool false)] [4,15] ⟨aQ rfl .lss 3 3 14 13 (iZ i) (iZ n) (.bool false) rfl rfl sx sx (λw=>kR) (nH o),yCl⟩ ?_;intro A D f;repeat refine Uz ?_
  refine VI f.ev ?_;refine wp_exit ?_;dsimp only[Exit.then,Yu];rw[yCj rfl];repeat refine Uz ?_
  refine f.U [.s (.s 0 n n),.s (.s 0 n n),.x (iZ 0)] [2,3] ⟨st,st,st,yCl⟩ ?_;intro t l k;refine Wp ?_;refine UE (v:=.tuple #[sZ Q n n,iZ 0]) (fX 2 3 rfl _ _ (k.at (s:=(.s 0 n n))) (k.at (s:=(.v (iZ 0))))) k.sl.defers ?_;refine⟨_,rfl,k.st.bel.below,U4 ⟨Q,?_,?_,rfl,λj hj=>?_⟩⟩
  ·exact(k.st.has 0 C rfl).2.2.2.elim id (λh=>absurd h UY)
  ·exact(k.st.has 0 C rfl).2.2.1
  ·obtain⟨pp,d⟩:=Vr.1 (G j oM);refine⟨pp,d,rV (k.st.has 0 C rfl).1 (λr I=>?_)⟩;have B:=hR.row j r oM I;rw[B];show(match rd P (L j) with|some p=>_|none=>_)[r]? = _;rw[d]
def vT(w:Ur)(q:Option Wu)(n:Nat)(L:Nat->Bs):Prop:=0<n->∃k,q=some (aZ k)/\k<w.heap.size/\∀j,j<n->∃v,w.cell? ⟨k,j,none⟩=some v/\Arg w v (L j)
def Ul(N:Nat)(w:Ur)(n:Nat)(L:Nat->Bs)(e:Ut)(w':Ur):Prop:=
 (∃k,w.heap.size<=k/\k<w'.heap.size/\e=.tuple #[sZ k n n,iZ 0]/\∀j,j<n->∃p,rq N (L j)=some p/\w'.rangeAt k (4*j) (wn p)) \/
 ((∃j,j<n/\rq N (L j)=none)/\e=.tuple #[.slice none 0 0,iZ 3])
theorem Ob{N:Nat}(hG:Gap 4624529908474429119 4994812053365940164 1 N)(n cap:Nat)(hn:n<=512)(q:Option Wu)(L:Nat->Bs)(w:Ur)(hA:vT w q n L):UH prog 47 #[.slice q n cap] w (rZ w λe w'=>Ul N w n L e w'):=by
 obtain⟨C,h3,he⟩:=TM n hn;obtain⟨i,-⟩:∃i:Nat,i=0:=⟨_,rfl⟩
 obtain⟨d,-⟩:∃i:Nat,i=0:=⟨_,rfl⟩
 obtain⟨m,-⟩:∃i:Nat,i=0:=⟨_,rfl⟩
 obtain⟨v,-⟩:∃v:Ut,v=.bool true:=⟨_,rfl⟩
 obtain⟨J,-⟩:∃c:List Ut,c=C:=⟨_,rfl⟩
 go_enter func47,ntmps47;refine Hx (v0:=.slice q n cap) (n:=33) kR kR kR ?_;intro a0 h2 f0;have ha:=RG.St.begin w;have M0:RG.M w w.heap.size [] 33 [] [] [(0,.v (.slice q n cap))] a0 _:=⟨ha,h2,⟨f0,yCl⟩⟩
 repeat refine Uz ?_
 refine M0.U [.x (.slice none 0 0),.x (iZ 0)] [0,2,3] ⟨st,st,yCl⟩ ?_;intro a1 w1 M1;repeat refine Uz ?_
 refine M1.t [.x 9 [] (.slice q n cap),.x 10 [(9,0)] (iZ n),⟨some 11,[(10,1)],.s 0 n n,.make 0⟩,.s 4 [(11,2)] (.s 0 n n)] [(2,C)] [] [C] [(0,.v (.slice q n cap)),(2,.v (.slice none 0 0)),(3,.v (iZ 0)),(4,.s 0 n n)] ⟨st,fQ rfl 9 (.v (.slice q n cap)) (iZ n) rfl sx (λa w=>kR) (λμ w=>kR),mJ 0 rfl _ rfl 89 47 10 10 n rfl rfl sx sx he,st,yCl⟩ ?_;intro Z a2 w2 M2;repeat refine Uz ?_
 refine M2.U [.x (.slice q n cap),.x (iZ n),.x (iZ 0)] [2,3,4,12,13,14] ⟨st,fQ rfl 12 (.v (.slice q n cap)) (iZ n) rfl sx (λa w=>kR) (λμ w=>kR),st,yCl⟩ ?_;intro S w3 F;have hl:S.tmps[2]? = some (.slice none 0 0):=F.at (s:=(.v (.slice none 0 0)));have hk:S.tmps[3]? = some (iZ 0):=F.at (s:=(.v (iZ 0)));have V:S.tmps[4]? = some (sZ Z n n):=F.at (s:=(.s 0 n n));have Q:S.tmps[12]? = some (.slice q n cap):=F.at (s:=(.v (.slice q n cap)));have H:S.tmps[13]? = some (iZ n):=F.at (s:=(.v (iZ n)));have R:S.tmps[14]? = some (iZ 0):=F.at (s:=(.v (iZ 0)));repeat refine Uz ?_
 refine XH ?_;refine Ze (λm a wr=>∃(i:Nat) (C:List Ut),i+m=n/\(∀j,j<i->(rq N (L j)).isSome=true)/\Rows 4 n (λj=>match rq N (L j) with|some k=>wn k|none=>[]) i C/\Sl a 33/\a.tmps[4]? = some (sZ Z n n)/\a.tmps[12]? = some (.slice q n cap)/\a.tmps[13]? = some (iZ n)/\a.tmps[14]? = some (iZ i)/\RG.St w w.heap.size [] [C] [Z] wr) n ⟨0,C,oM,λj hj=>oM,⟨h3,λj r hj=>oM⟩,F.sl,V,Q,H,R,F.st⟩ ?_;intro m' a wr;rintro⟨i,C,k9,E,hR,sl,p4,y,P,I,x⟩;generalize Z=O at p4 x;by_cases t:i<n
 ·obtain⟨d,X,Y,hc⟩:=hA oM;rw[X]at y;obtain⟨v,hv,D⟩:=hc i t;have o:w.cell? ⟨d,0+i,none⟩=some v:=by rw[UD];exact hv
  cases b:rq N (L i) with
  | some pp =>
   obtain⟨m,rfl⟩:∃m,m=pp:=⟨_,rfl⟩
   have G:∀w',BelX w.heap.size [] w w'->UH prog 59 #[gv1,v] w' (Ret λe K=>kZ w' K/\e=.tuple #[nv m,.bool true]):=λw' hb=>by
    have:=AM hG v (L i) w' (D.below hb.below);rw[b]at this;exact this
   have U:=hR.len;have l:0+4*i+(wn m).length<=C.length:=by rw[U];show 0+4*i+4<=4*n;omega
   obtain⟨J,g⟩:∃c,rep C (0+4*i) (wn m)=c:=⟨_,rfl⟩
   have h6:=g ▸ RG.rep_at l;have h0:J.length=C.length:=g ▸ cU l;have hg:Rows 4 n (λj=>match rq N (L j) with|some k=>wn k|none=>[]) (i+1) J:=by
    have:=hR.next t (by show yBM (match rq N (L i) with|some p=>_|none=>_)=_;rw[b];rfl);rw[<-g];have e:(λj=>match rq N (L j) with|some k=>wn k|none=>[]) i=(wn m):=by show(match rq N (L i) with|some p=>_|none=>_)=_;rw[b]
    rw[<-e];exact this
   have h7:RG.M w w.heap.size [] 33 [C] [O] [(4,.s 0 n n),(12,.v (sZ d n cap)),(13,.v (iZ n)),(14,.v (iZ i))] a _:=⟨x,sl,⟨p4,y,P,I,yCl⟩⟩
   repeat refine Uz ?_
   refine h7.U [.x (.bool true)] [4,12,13,14,15] ⟨aQ rfl .lss 3 3 14 13 (iZ i) (iZ n) (.bool true) rfl rfl sx sx (λw=>kR) (gA t),yCl⟩ ?_;intro hw hu T;repeat refine Uz ?_
   refine VE T.ev ?_;refine WS ?_;refine Uz ?_;refine XH ?_;repeat refine Uz ?_
   refine T.U [.x (iZ i),.x (.pointer (some ⟨d,0+i,none⟩)),.x v,.x (iZ i),.x v] [4,5,6,12,13,14] ⟨st,bD rfl 24 12 14 rfl (.v (sZ d n cap)) (iZ i) sx sx (λμ w=>Nh _ 0 _ _ i t w),bM rfl d (0+i) Y UY 23 17 rfl v rfl sx o u23,st,st,yCl⟩ ?_;intro hs hz h8;repeat refine Uz ?_
   refine h8.T [.c gv1,.x v,.c (.tuple #[nv m,.bool true]),.x (.tuple #[nv m,.bool true]),.x (nv m),.x (.bool true),.m 1,.u 1,.x (.bool true)] [(6,RG.z 4)] [(1,7,wn m)] [C,wn m] [4,5,7,8,12,13,14] ⟨cl fH,st,kH rfl 59 20 21 gv1 v (.tuple #[nv m,.bool true]) rfl (λa w=>kR) sx sx G,st,st,st,mk 1 47,RG.pt i85,st,yCl⟩ ?_;intro hm hp k1 h9;repeat refine Uz ?_
   refine h9.U [.x (.bool true),.x (.bool false)] [4,5,7,12,13,14,26] ⟨st,st,yCl⟩ ?_;intro hq hy W;repeat refine Uz ?_
   refine VI W.ev ?_;refine WS ?_;repeat refine Uz ?_
   refine W.tx [.s 27 [] (.s 0 n n),.x 28 [] (iZ i),.x 29 [] (nv m),.s 30 [(27,0),(28,1)] (.p 0 (0+4*i)),.u [(30,3),(29,2)] 0] [] [(0,4,J)] [J,wn m] [(4,.s 0 n n),(12,.v (sZ d n cap)),(13,.v (iZ n)),(14,.v (iZ i))] kR (congrArg (λn=>[n]) h0) ⟨st,st,ld u85 i85,bD rfl 89 27 28 rfl (.s 0 n n) (iZ i) sx sx (λμ w=>SS _ 0 _ _ i t w),eZ 0 (0+4*i) rfl _ rfl 47 (.tmp 30) (.tmp 29) (wn m) rfl rfl sx sx l h6 i85 rfl,yCl⟩ ?_;intro ht k5 h4;repeat refine Uz ?_
   refine h4.U [.x (iZ ((i+1:Nat):Int)),.x (iZ ((i+1:Nat):Int))] [4,12,13,14] ⟨aP rfl .add 3 3 14 (iZ i) (iZ 1) (iZ ((i+1:Nat):Int)) rfl rfl sx (λw=>kR) (uQ i 1 oM oM),st,yCl⟩ ?_;intro A k0 f;have M:A.tmps[4]? = some (sZ O n n):=f.at (s:=(.s 0 n n));have z:A.tmps[12]? = some (sZ d n cap):=f.at (s:=(.v (sZ d n cap)));have B:A.tmps[13]? = some (iZ n):=f.at (s:=(.v (iZ n)));have u:A.tmps[14]? = some (iZ ((i+1:Nat):Int)):=f.at (s:=(.v (iZ ((i+1:Nat):Int))));show ∃n',_;exact⟨m'-1,oM,i+1,J,oM,λj hj=>(by
    by_cases h1:j=i
    ·rw[h1,b];rfl
    ·exact E j oM),hg,f.sl,M,(by rw[X];exact z),B,u,RG.St.init (cs:=[J]) (ks:=[O]) f.st⟩
  | none =>
   have G:∀w',BelX w.heap.size [] w w'->UH prog 59 #[gv1,v] w' (Ret λe K=>kZ w' K/\e=.tuple #[nv 0,.bool false]):=λw' hb=>by
    have:=AM hG v (L i) w' (D.below hb.below);rw[b]at this;exact this
   have u:RG.M w w.heap.size [] 33 [C] [O] [(4,.s 0 n n),(12,.v (sZ d n cap)),(13,.v (iZ n)),(14,.v (iZ i))] a _:=⟨x,sl,⟨p4,y,P,I,yCl⟩⟩
   repeat refine Uz ?_
   refine u.U [.x (.bool true)] [12,14,15] ⟨aQ rfl .lss 3 3 14 13 (iZ i) (iZ n) (.bool true) rfl rfl sx sx (λw=>kR) (gA t),yCl⟩ ?_;intro U B g;repeat refine Uz ?_
   refine VE g.ev ?_;refine WS ?_;refine Uz ?_;refine XH ?_;repeat refine Uz ?_
   refine g.U [.x (iZ i),.x (.pointer (some ⟨d,0+i,none⟩)),.x v,.x (iZ i),.x v] [6] ⟨st,bD rfl 24 12 14 rfl (.v (sZ d n cap)) (iZ i) sx sx (λμ w=>Nh _ 0 _ _ i t w),bM rfl d (0+i) Y UY 23 17 rfl v rfl sx o u23,st,st,yCl⟩ ?_;intro M k3 A;repeat refine Uz ?_
   refine A.T [.c gv1,.x v,.c (.tuple #[nv 0,.bool false]),.x (.tuple #[nv 0,.bool false]),.x (nv 0),.x (.bool false),.m 1,.u 1,.x (.bool false)] [(6,RG.z 4)] [(1,7,wn 0)] [C,wn 0] [8] ⟨cl fH,st,kH rfl 59 20 21 gv1 v (.tuple #[nv 0,.bool false]) rfl (λa w=>kR) sx sx G,st,st,st,mk 1 47,RG.pt i85,st,yCl⟩ ?_;intro k6 k7 k2 z;repeat refine Uz ?_
   refine z.U [.x (.bool false),.x (.bool true)] [26] ⟨st,st,yCl⟩ ?_;intro T k8 l;repeat refine Uz ?_
   refine VE l.ev ?_;repeat refine Uz ?_
   refine l.U [.x (.slice none 0 0),.x (iZ 3)] [2,3] ⟨st,st,yCl⟩ ?_;intro k4 W f;refine Wp ?_;refine UE (v:=.tuple #[.slice none 0 0,iZ 3]) (fX 2 3 rfl _ _ (f.at (s:=(.v (.slice none 0 0)))) (f.at (s:=(.v (iZ 3))))) f.sl.defers ?_;exact⟨_,rfl,f.st.bel.below,UX ⟨⟨i,t,b⟩,rfl⟩⟩
 ·have D:i=n:=oM;have l:RG.M w w.heap.size [] 33 [C] [O] [(4,.s 0 n n),(12,.v (.slice q n cap)),(13,.v (iZ n)),(14,.v (iZ i))] a _:=⟨x,sl,⟨p4,y,P,I,yCl⟩⟩
  repeat refine Uz ?_
  refine l.U [.x (.bool false)] [4,15] ⟨aQ rfl .lss 3 3 14 13 (iZ i) (iZ n) (.bool false) rfl rfl sx sx (λw=>kR) (nH t),yCl⟩ ?_;intro z B g;repeat refine Uz ?_
  refine VI g.ev ?_;refine wp_exit ?_;dsimp only[Exit.then,Yu];rw[yCj rfl];repeat refine Uz ?_
  refine g.U [.s (.s 0 n n),.s (.s 0 n n),.x (iZ 0)] [2,3] ⟨st,st,st,yCl⟩ ?_;intro u o b;refine Wp ?_;refine UE (v:=.tuple #[sZ O n n,iZ 0]) (fX 2 3 rfl _ _ (b.at (s:=(.s 0 n n))) (b.at (s:=(.v (iZ 0))))) b.sl.defers ?_;refine⟨_,rfl,b.st.bel.below,U4 ⟨O,?_,?_,rfl,λj hj=>?_⟩⟩
  ·exact(b.st.has 0 C rfl).2.2.2.elim id (λh=>absurd h UY)
  ·exact(b.st.has 0 C rfl).2.2.1
  ·obtain⟨pp,f⟩:=Vr.1 (E j oM);refine⟨pp,f,rV (b.st.has 0 C rfl).1 (λr G=>?_)⟩;have A:=hR.row j r oM G;rw[A];show(match rq N (L j) with|some p=>_|none=>_)[r]? = _;rw[f]
omit [NeZero P] in
theorem Ht(x y:Fin P):∃a b c d p q r s:Nat,pv x y=.agg #[uZ a,uZ b,uZ c,uZ d,uZ p,uZ q,uZ r,uZ s]/\ws x++ws y=[uZ a,uZ b,uZ c,uZ d,uZ p,uZ q,uZ r,uZ s]:=
 ⟨_,_,_,_,_,_,_,_,rfl,rfl⟩
def Kv(c:Int)(e:Ut):Prop:=e=.tuple #[.slice none 0 0,iZ c]
def Hb(w:Ur)(T:Bs)(e:Ut)(w':Ur):Prop:=∃g cap,e=.tuple #[sZ g 33 cap,iZ 0]/\33<=cap/\w.heap.size<=g/\g<w'.heap.size/\Holds encB w' g 0 T
theorem Cq(C:Fld P)(v:Ut)(g:Bs)(w:Ur)(hv:Arg33 w v g):UH prog 118 #[v] w (rZ w λe w'=>e=.bool (rd P g).isSome):=by
 have i:∃(k b1 c1 d p1 c b s1:Nat),UH prog 193 #[v] w (rZ w λe w'=>e=.tuple #[.agg #[uZ k,uZ b1,uZ c1,uZ d,uZ p1,uZ c,uZ b,uZ s1],.bool (rd P g).isSome]):=by
  have h:=mZ C v g w hv;cases f:rd P g with
  | none =>
   obtain⟨k,b1,c1,d,p1,c,b,s1,j,-⟩:=Ht (0:Fin P) 0;refine⟨k,b1,c1,d,p1,c,b,s1,?_⟩;rw[f]at h;rw[<-j];exact h
  | some p =>
   obtain⟨k,b1,c1,d,p1,c,b,s1,j,-⟩:=Ht p.1 p.2;refine⟨k,b1,c1,d,p1,c,b,s1,?_⟩;rw[f]at h;rw[<-j];exact h
 obtain⟨k,b1,c1,d,p1,c,b,s1,i⟩:=i;obtain⟨q,n,cap,rfl,-⟩:=hv;go_enter func118,ntmps118;go_wp2_with fail
 refine i.mono ?_;rintro e l ⟨v,rfl,f,rfl⟩;have j:=mk1 (f);go_wp2;go_ret;exact⟨_,rfl,j.alloc j.size _,rfl⟩
structure PS(w:Ur)(k:Nat)(a1 b1 c1 d1 p1 q1 r1 s1 a2 b2 c2 d2 p2 q2 r2 s2:Nat)(W:Ur):Prop where
 r1:W.rangeAt k 0 [uZ a1,uZ b1,uZ c1,uZ d1,uZ p1,uZ q1,uZ r1,uZ s1]
 r2:W.rangeAt k 8 [uZ a2,uZ b2,uZ c2,uZ d2,uZ p2,uZ q2,uZ r2,uZ s2]
 lt:k<W.heap.size
 bl:kZ w W
def ptP(s:T3 P):Fin P × Fin P:=(s.1*(inv s.2.2*inv s.2.2),s.2.1*(inv s.2.2*inv s.2.2)*inv s.2.2)
theorem cell_below{w c:Ur}{k j:Nat}{v:Ut}(h:w.cell? ⟨k,j,none⟩=some v)(e:kZ w c)(f:k<w.heap.size):c.cell? ⟨k,j,none⟩=some v:=by
 have d:w.rangeAt k j [v]:=λi u b=>by
  cases i with
  | zero =>
   obtain rfl:v=u:=UO.inj b;exact h
  | succ i=>exact absurd b (by simp)
 exact RG.range_below d e f 0 v rfl
theorem ArgsPts.below{w c:Ur}{q:Option Wu}{n:Nat}{L:Nat->Bs}(h:ArgsPts w q n L)(b:kZ w c):ArgsPts c q n L:=λe=>by
 obtain⟨f,l,k,d⟩:=h e;refine⟨f,l,Ux k b.size,λj i=>?_⟩;obtain⟨v,hv,g⟩:=d j i;exact⟨v,cell_below hv b k,g.below b⟩
def SumR(P:Nat)[NeZero P](N:Nat)(w:Ur)(n a:Nat)(L M:Nat->Bs)(e:Ut)(w':Ur):Prop:=
 (n≠a/\Kv 2 e)\/(n=a/\512<n/\Kv 1 e)\/(n=a/\n<=512/\(((∃j,j<n/\rq N (L j)=none)/\Kv 3 e) \/
  ∃ns:Nat->Nat,(∀j,j<n->rq N (L j)=some (ns j))/\(((∃j,j<n/\rd P (M j)=none)/\Kv 4 e) \/
   ∃xs ys:Nat->Fin P,(∀j,j<n->rd P (M j)=some (xs j,ys j))/\Hb w (tD (ptP (iH ns xs ys n 257)).1 (ptP (iH ns xs ys n 257)).2) e w')))
theorem yC{A:Type}[Inhabited A]{n:Nat}{p:Nat->A->Prop}(h:∀j,j<n->∃a,p j a):∃f:Nat->A,∀j,j<n->p j (f j):=
 ⟨λj=>if k:j<n then(h j k).choose else default,λj k=>by
  show p j (if k:j<n then(h j k).choose else default);rw[dif_pos k];exact(h j k).choose_spec⟩
theorem wN{N:Nat}(b:N<=top){k:Bs}{m:Nat}(h:rq N k=some m):m<top:=by
 unfold rq at h;split at h
 ·rename_i h1
  obtain rfl:beV k.toList=m:=UO.inj h;exact Ux h1.2 b
 ·exact absurd h (by simp)
theorem PK{N:Nat}(C:Fld P)(hG:Gap 4624529908474429119 4994812053365940164 1 N)(hN:N<=top)(q T:Option Wu)(n cap a m:Nat)(L M:Nat->Bs)(w:Ur)(hL:vT w q n L)(hM:ArgsPts w T a M):
 UH prog 143 #[.slice q n cap,.slice T a m] w (rZ w λe w'=>SumR P N w n a L M e w'):=by
 have HL:=mk1 (hL);have HM:=mk1 (hM);by_cases A:n=a
 ·subst A;by_cases B:512<n
  ·go_enter func143,ntmps143;go_wp2
   go_ret2
   exact⟨_,rfl,UR _ _,UX (U4 ⟨rfl,B,rfl⟩)⟩
  ·have y:n<=512:=oM;go_enter func143,ntmps143;go_wp2_with fail
   refine(Ob hG n cap y q L w HL.out).mono ?_;rintro e Y ⟨v,rfl,J,⟨k,Q,u,rfl,c⟩|⟨x,rfl⟩⟩
   ·obtain⟨ns,G⟩:=yC c;have t:=mk1 (J);have HS:Hid (k<Y.heap.size/\∀j,j<n->Y.rangeAt k (4*j) (wn (ns j))):=⟨u,λj d=>(G j d).2⟩
    have S:Hid (∀j,j<n->rq N (L j)=some (ns j)):=λj d=>(G j d).1
    go_wp2_with fail
    refine(S6 C n m y T M Y (HM.below t.out)).mono ?_;rintro e p ⟨v,rfl,f,⟨K,Q,u,rfl,c⟩|⟨x,rfl⟩⟩
    ·obtain⟨b,F⟩:=yC c;have l:=mk1 (t.trans (f.mono t.size));have E:Hid (k<p.heap.size/\∀j,j<n->p.rangeAt k (4*j) (wn (ns j))):=⟨Ux HS.1 f.size,λj d=>RG.range_below (HS.2 j d) f HS.1⟩
     have HP:Hid (K<p.heap.size/\∀j,j<n->p.rangeAt K (8*j) (ws (b j).1++ws (b j).2)):=⟨u,λj d=>(F j d).2⟩
     have Z:Hid (∀j,j<n->rd P (M j)=some ((b j).1,(b j).2)):=λj d=>(F j d).1
     have D:∀w,UH prog 52 #[pv (ptP (iH ns (λj=>(b j).1) (λj=>(b j).2) n 257)).1 (ptP (iH ns (λj=>(b j).1) (λj=>(b j).2) n 257)).2] w (rZ w λe w'=>mL w (tD (ptP (iH ns (λj=>(b j).1) (λj=>(b j).2) n 257)).1 (ptP (iH ns (λj=>(b j).1) (λj=>(b j).2) n 257)).2) e w'):=vK C _ _;have hS:UH prog 48 #[sZ k n n,sZ K n n] p (rZ p λe w'=>e=pv (ptP (iH ns (λj=>(b j).1) (λj=>(b j).2) n 257)).1 (ptP (iH ns (λj=>(b j).1) (λj=>(b j).2) n 257)).2):=by
      refine(H9 C n y ns (λj=>(b j).1) (λj=>(b j).2) (λi o=>wN hN (S i o)) k K p E.1 HP.1 E.2 HP.2).mono ?_;rintro e w' ⟨v,rfl,r,s,rfl,rfl⟩;exact⟨_,rfl,r,rfl⟩
     generalize hz:ptP (iH ns (λj=>(b j).1) (λj=>(b j).2) n 257)=z at hS D;have HZ:Hid (ptP (iH ns (λj=>(b j).1) (λj=>(b j).2) n 257)=z):=hz;go_wp2_with fail
     refine hS.mono ?_;rintro e w3 ⟨v,rfl,V,rfl⟩;have r:=mk1 (l.trans (V.mono l.size));go_wp2_with fail
     refine(D _).mono ?_;rintro e w4 ⟨v,rfl,R,g,o,rfl,O,W,I,U⟩;have X:=mk1 (r.trans (R.mono r.size));have H:Hid (Hb w (tD z.1 z.2) (.tuple #[sZ g 33 o,iZ 0]) w4):=⟨g,o,rfl,O,UC r.size W,I,U⟩
     go_wp2
     go_ret2
     refine⟨_,rfl,X.out,UX (UX ⟨rfl,y,UX ⟨ns,S.out,UX ⟨_,_,Z.out,?_⟩⟩⟩)⟩;rw[HZ.out];exact H.out
    ·have l:=mk1 (t.trans (f.mono t.size));have H:=mk1 (x);go_wp2
     go_ret2
     exact⟨_,rfl,l.out,UX (UX ⟨rfl,y,UX ⟨ns,S.out,U4 ⟨H.out,rfl⟩⟩⟩)⟩
   ·have t:=mk1 (J);have H:=mk1 (x);go_wp2
    go_ret2
    exact⟨_,rfl,t.out,UX (UX ⟨rfl,y,U4 ⟨H.out,rfl⟩⟩)⟩
 ·go_enter func143,ntmps143;go_wp2
  go_ret2
  exact⟨_,rfl,UR _ _,U4 ⟨A,rfl⟩⟩
def He:Bs:=UJ 33 0
theorem OD(r d:Nat):d*d%(r+d)=r*r%(r+d):=by
 have h:d*d+(r+d)*r=r*r+(r+d)*d:=by
  rw[XF,XF,Vv d r];omega
 have k:=congrArg (· % (r+d)) h;simp only[Nat.add_mul_mod_self_left]at k;exact k
theorem Nv{m y:Fin P}(h:rt m=some y):y*y=m:=by
 have k:=Ix h;unfold rt at h;rw[yCj k]at h;obtain rfl:=UO.inj h;have c:=Yy P;have d:m.val^(P/4+1)%P<P:=V5 _ c;generalize m.val^(P/4+1)%P=r at k d;apply X8;rw[XJ];show(even P r%P)*(even P r%P)%P=m.val;rw[US (Ft c d),<-k];unfold even;split
 ·have b:=OD r (P-r);rw[show r+(P-r)=P by omega]at b;exact b
 ·rfl
theorem CZ{k:Bs}(e:k.size=33):tJ k↔k=He:=by
 constructor
 ·intro h;apply yB4
  ·rw[e];rfl
  ·intro i f d;have:=h i (V0.2 oM);rw[getElem!_pos k i f]at this;have b:k[i].toNat=0:=by
    have c:ub k[i]=(k[i].toNat:Int):=rfl;rw[c]at this;omega
   have g:(He)[i]=0:=by
    have c:(UJ 33 (0:UInt8))[i]'d=0:=Ww _;exact c
   rw[g];exact yAU.1 b
 ·rintro rfl i b;have b:=V0.1 b;unfold He;rw[getElem!_pos _ i (by rw[UP];exact b),Ww];rfl
theorem IV{x y:Fin P}(h:y*y=x*x*x+7):On (.some (x,y):EC.Pt P):=by
 show y^2=x^3+7
 grobner
theorem O3{x y:Fin P}(h:y*y=x*x*x+7):On (.some (x,0-y):EC.Pt P):=by
 show(0-y)^2=x^3+7
 grobner
def wr:EC.Pt P->Bs
 | none=>He
 | some (x,y)=>#[mark y.val]++bx x.val
theorem vM(C:Fld P){x y:Fin P}{p:EC.Pt P}(h:Pair x y p)(ho:On p):tD x y=wr p:=by
 unfold tD;match p,h,ho with
 | none,h,_=>rw[yCj (show x=0/\y=0 from h)];rfl
 | some (a,b),h,ho =>
  obtain⟨rfl,rfl⟩:=h;rw[yCk (λe=>C.cur.y_ne ho e.2)];rfl
def pt(p:Fin P × Fin P):EC.Pt P:=if p.1=0/\p.2=0 then none else some p
theorem Mj(C:Fld P){x y:Fin P}{q:EC.Pt P}(h:Pair x y q)(ho:On q):q=pt (x,y):=by
 unfold pt;match q,h,ho with
 | none,h,_=>rw[yCj (show x=0/\y=0 from h)]
 | some (a,b),h,ho =>
  obtain⟨rfl,rfl⟩:=h;rw[yCk (λe=>C.cur.y_ne ho e.2)]
theorem QW(C:Fld P){b:Bs}{p:Fin P × Fin P}(h:rd P b=some p):Pair p.1 p.2 (pt p)/\On (pt p):=by
 have key:∃q:EC.Pt P,Pair p.1 p.2 q/\On q:=by
  unfold rd at h;split at h
  ·split at h
   ·obtain rfl:=UO.inj h;exact⟨none,⟨rfl,rfl⟩,iN⟩
   ·split at h
    ·split at h
     ·obtain⟨y,c,rfl⟩:=Uy.1 h;have k:=Nv c;refine⟨some (rdx P b,if ub b[0]! = 3 then 0-y else y),⟨rfl,rfl⟩,?_⟩;split
      ·exact O3 k
      ·exact IV k
     ·cases h
    ·cases h
  ·cases h
 obtain⟨q,c,k⟩:=key;have:=Mj C c k;rw[show pt p=q from this.symm];exact⟨c,k⟩
omit [NeZero P] in
theorem aT(p:EC.Pt P):(wr p).size=33:=by
 match p with
 | none=>rfl
 | some (x,y) =>
  show(#[mark y.val]++bx x.val).size=33;rw[VN,eE];rfl
theorem IA{a P:Nat}(h:IsP P)(k:P%4=3):(a*a%P)^(P/4+1)%P*((a*a%P)^(P/4+1)%P)%P=a*a%P:=by
 rw[<-Xz,<-Nat.pow_add,<-Nat.pow_mod,<-yBT,<-Nat.pow_mul,show 2*(P/4+1+(P/4+1))=P+1 by omega,V7,Xz,h.fermat a,<-Xz,yBT]
theorem LP{a R P:Nat}(h:IsP P)(e:a<P)(hR:R<P)(f:R*R%P=a*a%P):R=a\/R+a=P:=by
 have key:∀x y:Nat,x<P->y<P->y<=x->x*x%P=y*y%P->x=y\/x+y=P:=by
  intro x y hx i g d;have hd:P ∣ x*x-y*y:=by
   refine Nat.dvd_of_mod_eq_zero ?_;exact Nat.sub_mod_eq_zero_of_mod_eq d
  have hf:x*x-y*y=(x-y)*(x+y):=by
   rw[Vv (x-y),Nat.mul_self_sub_mul_self_eq]
  rw[hf]at hd;rcases h.euclid hd with b|b
  ·left;have:=Nat.eq_zero_of_dvd_of_lt b oM;omega
  ·obtain⟨k,j⟩:=b;have:k=0\/k=1\/2<=k:=oM;rcases this with rfl|rfl|c
   ·left;omega
   ·right;omega
   ·have:=Nat.mul_le_mul_left P c;omega
 rcases Nat.le_total a R with b|b
 ·exact key R a hR e b f
 ·rcases key a R e hR b f.symm with c|c
  ·left;exact c.symm
  ·right;omega
end
section
theorem AA(x:Nat)(hx:x<18446744073709551616):
 w8 (UM (x/72057594037927936)) (UM (x/281474976710656)) (UM (x/1099511627776)) (UM (x/4294967296)) (UM (x/16777216)) (UM (x/65536)) (UM (x/256)) (UM x)=x:=by
 unfold w8;simp only[YH];omega
theorem Am(a b c d:Nat):(be32 a b c d).toList=[UM (d/72057594037927936),UM (d/281474976710656),UM (d/1099511627776),UM (d/4294967296),UM (d/16777216),UM (d/65536),UM (d/256),UM d,UM (c/72057594037927936),UM (c/281474976710656),UM (c/1099511627776),UM (c/4294967296),UM (c/16777216),UM (c/65536),UM (c/256),UM c,UM (b/72057594037927936),UM (b/281474976710656),UM (b/1099511627776),UM (b/4294967296),UM (b/16777216),UM (b/65536),UM (b/256),UM b,UM (a/72057594037927936),UM (a/281474976710656),UM (a/1099511627776),UM (a/4294967296),UM (a/16777216),UM (a/65536),UM (a/256),UM a]:=by
 simp only[be32,be8,yAu,Xa,Xr]
theorem val_congr{a b c d p q r s:Nat}(g:a=p)(f:b=q)(k:c=r)(e:d=s):val a b c d=val p q r s:=by subst g f k e;rfl
theorem J4(a b c d:Nat)(e:a<18446744073709551616)(f:b<18446744073709551616)(k:c<18446744073709551616)(hd:d<18446744073709551616):beV (be32 a b c d).toList=val a b c d:=
 (congrArg beV (Am a b c d)).trans ((J5 _ _ _ _ _ _ _ _ _ _ _ _ _ _ _ _ _ _ _ _ _ _ _ _ _ _ _ _ _ _ _ _).trans (val_congr (AA a e) (AA b f) (AA c k) (AA d hd)))
theorem Bm{n:Nat}(k:n<top):beV (bx n).toList=n:=by
 unfold bx;rw[J4 _ _ _ _ oM oM oM oM];unfold val;unfold top at k;omega
variable {P:Nat}[NeZero P]
theorem QQ(C:Fld P){y m:Fin P}(h:y*y=m):rt m=some (if y.val%2=1 then 0-y else y):=by
 have c:y.val*y.val%P=m.val:=by rw[<-h,XJ]
 have k:=IA (a:=y.val) C.cur.pr C.p3;rw[c]at k;unfold rt;rw[yCj k];have g:=Yy P;have d:m.val^(P/4+1)%P<P:=V5 _ g;generalize m.val^(P/4+1)%P=r at k d;have b:=y.isLt;have j:=C.p3;have hor:=LP C.cur.pr b d (k.trans c.symm)
 congr 1
 apply X8;show even P r%P=_;unfold even;have f:(0-y:Fin P).val=(P-y.val)%P:=by rw[<-AH,val_zero,UD]
 by_cases ho:y.val%2=1
 ·rw[yCj ho,f];rcases hor with e|e
  ·rw[e,yCj ho]
  ·rw[yCk oM,show P-y.val=r by omega]
 ·rw[yCk ho];rcases hor with e|e
  ·rw[e,yCk ho,US b]
  ·by_cases i:y.val=0
   ·omega
   ·rw[yCj oM,show P-r=y.val by omega,US b]
theorem Le(n:Nat):ub (mark n)=if n%2=1 then 3 else 2:=by
 unfold mark;split<;>rfl
theorem Li{m:UInt8}{b:Bs}(h:b.size=32):uM (#[m]++b)=b:=by
 unfold uM;rw[Array.extract_append];have k:(#[m]:Bs).extract 1 33=#[]:=by rfl
 rw[k];simp[h]
theorem Pk(m:UInt8)(b:Bs):(#[m]++b)[0]! = m:=by
 rw[getElem!_pos _ 0 (by rw[VN];simp;omega),Array.getElem_append_left (by simp)];rfl
theorem QX(C:Fld P){b:Bs}(d:b.size=33){x y:Fin P}(c:ub b[0]! = if y.val%2=1 then 3 else 2)(hv:beV (uM b).toList=x.val)(h:On (some (x,y):EC.Pt P)):rd P b=some (x,y):=by
 have k:¬tJ b:=λk=>by
  have:=k 0 (V0.2 dC);rw[c]at this;split at this<;>omega
 have hx:rdx P b=x:=by
  unfold rdx;rw[hv];exact X8 (US x.isLt)
 have f:y*y=x*x*x+7:=by
  have:y^2=x^3+7:=h
  grobner
 unfold rd;rw[yCj d,yCk k,c,hv,yCj x.isLt,hx,QQ C f];by_cases ho:y.val%2=1
 ·rw[yCj ho,yCj (UX rfl),yCj ho,Yv,yCj rfl];have e:0-(0-y)=y:=by grobner
  rw[e]
 ·rw[yCk ho,yCj (U4 rfl),yCk ho,Yv,yCk dC]
theorem zM(C:Fld P){X:EC.Pt P}(h:On X):∃p,rd P (wr X)=some p/\pt p=X:=by
 match X,h with
 | none,_ =>
  refine⟨(0,0),?_,by unfold pt;rw[yCj ⟨rfl,rfl⟩]⟩;have k:(wr (none:EC.Pt P)).size=33:=aT _;have b:=(CZ k).2 rfl;unfold rd;rw[yCj k,yCj b]
 | some (x,y),h =>
  have b:=aT (P:=P) (some (x,y));have k:(wr (some (x,y):EC.Pt P))[0]! = mark y.val:=Pk _ _;have c:uM (wr (some (x,y):EC.Pt P))=bx x.val:=Li (eE _);refine⟨(x,y),QX C b (by rw[k,Le]) (by rw[c,Bm (C.top x)]) h,by unfold pt;rw[yCk (λe=>C.cur.y_ne h e.2)]⟩
end
section
variable {P:Nat}[NeZero P]{N:Nat}
def gxl:List Ut:=[uZ 6481385041966929816,uZ 188021827762530521,uZ 6170039885052185351,uZ 8772561819708210092]
def gyl:List Ut:=[uZ 11261198710074299576,uZ 18237243440184513561,uZ 6747795201694173352,uZ 5204712524664259685]
def gX(P:Nat)[NeZero P]:Fin P:=Xh P 55066263022277343669578718895168534326250603453777594175500187360389116729240
def gY(P:Nat)[NeZero P]:Fin P:=Xh P 32670510020758816978083085130507043184471273380659243275938904335757337482424
def gG(P:Nat)[NeZero P]:EC.Pt P:=some (gX P,gY P)
theorem Fld.eq(C:Fld P):P=115792089237316195423570985008687907853269984665640564039457584007908834671663:=by
 have h:=C.gap.hP;have e:val 4294968273 0 0 0=4294968273:=dC;rw[e]at h;unfold Go.Proofs.YtdoammpgchejcaaGreat.top at h;omega
theorem Jt(C:Fld P):(gX P).val=55066263022277343669578718895168534326250603453777594175500187360389116729240:=by
 have h:=C.eq;exact US oM
theorem Js(C:Fld P):(gY P).val=32670510020758816978083085130507043184471273380659243275938904335757337482424:=by
 have h:=C.eq;exact US oM
theorem PC(C:Fld P):gxl=ws (gX P):=by
 show _=wn (gX P).val;rw[Jt C];kernel_rfl
theorem Py(C:Fld P):gyl=ws (gY P):=by
 show _=wn (gY P).val;rw[Js C];kernel_rfl
theorem Cr(C:Fld P):On (gG P):=by
 refine IV (X8 ?_);have k:(7:Fin P).val=7:=US C.p7;rw[XJ,Fin.val_add,XJ,XJ,Jt C,Js C,k];have h:=C.eq;rw[h]
theorem Qb:Gives 51 #[] (.agg (gxl++gyl).toArray):=by
 intro w;go_enter func51,ntmps51;refine RG.M.enter [] 4 kR ?_;intro a0 b;repeat refine Uz ?_
 refine b.T [.m 0] [(0,RG.z 8)] [] [RG.z 8] [0] ⟨mk 0 93,yCl⟩ ?_;intro d e f c;repeat refine Uz ?_
 refine c.T [.x (.agg gxl.toArray),.x (.agg gyl.toArray),.x (.agg (gxl++gyl).toArray),.u 0] [] [(0,3,gxl++gyl)] [gxl++gyl] [0] ⟨st,st,st,RG.pt i109,yCl⟩ ?_;intro a2 g k;refine Wp ?_;refine UE (v:=.agg (gxl++gyl).toArray) (aI k.st 0 93 rfl 0 _ rfl (k.at (s:=.p 0 0)) gU i109) k.sl.defers ?_;exact⟨_,rfl,k.st.bel.below,rfl⟩
theorem Eh(C:Fld P):Gives 51 #[] (pv (gX P) (gY P)):=by
 unfold pv;rw[<-PC C,<-Py C];exact Qb
theorem Sg(C:Fld P):tD (gX P) (gY P)=wr (gG P):=vM C ⟨rfl,rfl⟩ (Cr C)
theorem Qp(C:Fld P)(w:Ur):UH prog 137 #[] w (rZ w λe w'=>mL w (wr (gG P)) e w'):=by
 have d:Hid (Fld P):=C;clear C;go_enter func137,ntmps137;go_wp2_with fail
 refine(Eh d.out _).mono ?_;rintro e n ⟨v,rfl,k,rfl⟩;go_wp2_with fail
 refine(vK d.out (gX P) (gY P) _).mono ?_;rintro e l ⟨v,rfl,b,g,cap,rfl,j,i,f,c⟩;rw[Sg d.out]at c;have m:Hid (kZ w l/\mL w (wr (gG P)) (sZ g 33 cap) l):=⟨k.trans (b.mono k.size),g,cap,rfl,j,UC k.size i,f,c⟩
 clear k b j i f c;go_wp2;go_ret;exact⟨_,rfl,m.out⟩
end
section
open Go.Shelf
attribute [local go_sem] Zd
section
variable {F:Fence}{n:Nat}{P:VD}{ops:Array Vk}{rest:List Vk}{op:Vk}{a:Act}{w:Ur}{Q:Yo->Act->Ur->Prop}
theorem jS(g:op.guard=none)(k:U8)(x:XG)(ho:op.op=.load k x)(b o:Nat)(hx:a.eval x=oZ b o)(cs:List Ut)(d:TypeDesc)(i:w.rangeAt b o cs)
 (m:P.underlying k=some d) (hd:d.isRow=true) (l:(P.info? k).map (·.size)=some cs.length) (h:wpListIn F n P ops Q rest (a.put op.dst (.agg cs.toArray)) w):wpListIn F n P ops Q (op :: rest) a w:=
 wpListIn_plain g λK j=>by
  refine⟨λf hf=>(by unfold yAI at hf;rw[ho]at hf;cases hf),?_⟩;rw[yAb _ _ _ (λc=>by rw[ho];intro e;cases e)];unfold U5;simp only[ho,hx,ZB,X4,UV,Wr,Vm,Ye w b o k cs d i m hd l];exact j _ _ h
theorem bL(d:op.guard=none)(g:U8)(x y:XG)(ho:op.op=.store g x y)(b o:Nat)(k:Array Ut)(hx:a.eval x=oZ b o)(j:a.eval y=.agg k)
 (l:w.there b o k.size) (m:(P.info? g).map (·.size)=some k.size) (p:k.all (·.oneCell')=true)
 (h:wpListIn F n P ops Q rest (a.put op.dst WP) (w.setCells b o k.toList)):wpListIn F n P ops Q (op :: rest) a w:=
 wpListIn_plain d λK i=>by
  refine⟨λf hf=>(by unfold yAI at hf;rw[ho]at hf;cases hf),?_⟩;rw[yAb _ _ _ (λc=>by rw[ho];intro e;cases e)];unfold U5;simp only[ho,hx,j,Instr.storeAt,X4,UV,Wr,Vm,run_storeVar_mid w b o g k l m p];exact i _ _ h
end
def Row(W:Ur)(k:Nat)(vs:List Ut):Prop:=k<W.heap.size/\W.rangeAt k 0 vs/\W.there k 0 vs.length
theorem qP(k:Nat)(vs:List Ut):Own (λ(_:Unit) W=>Row W k vs):=λs A B row b c e=>by
 refine⟨Ux b.1 c.size,λj v d=>?_,λj d=>?_⟩
 ·exact cell_kept (b.2.1 j v d) c e
 ·have f:=b.2.1 j vs[j] (UG d);have g:=cell_kept f c e;exact⟨by rw[g];rfl,(frozen_kept f c e).trans (b.2.2 j d).2⟩
theorem nI(k:Nat):∀(vs:List Ut) (o:Nat) (W:Ur),KeepsOthers W (W.setCells k o vs)
 | [],_,W=>KeepsOthers.refl W
 | v :: vs,o,W=>(KeepsOthers.setCell W ⟨k,o,none⟩ v).trans (nI k vs (o+1) _)
theorem Row.alloc{W:Ur}{k:Nat}{vs:List Ut}(h:Row W k vs)(o:Obj):Row (W.alloc o) k vs:=
 qP k vs () W (W.alloc o) none h (World.grownBy_alloc W o none) (λ_ e=>by cases e)
theorem Row.putObj{W:Ur}{k D:Nat}{vs:List Ut}(h:Row W k vs){o:Obj}(c:W.heap[D]? = some o)(ho:o.isCells=false)(b:Obj):Row (W.putObj D b) k vs:=
 qP k vs () W (W.putObj D b) (some D) h (grownBy_putObj' W D b) (λr e=>by cases e;exact⟨_,c,ho⟩)
theorem Row.below{W W':Ur}{k:Nat}{vs:List Ut}(h:Row W k vs)(d:kZ W W'):Row W' k vs:=by
 have e:=d.block k h.1;refine⟨Ux h.1 d.size,λj v b=>?_,λj b=>?_⟩
 ·exact(UW e).trans (h.2.1 j v b)
 ·have c:=h.2.2 j b;exact⟨by rw[UW e];exact c.1,(VU e).trans c.2⟩
theorem aG{P:VD}{c:Func}{tmps:Array Ut}{W:Ur}{k:Nat}{vs:List Ut}(t:WC)(T:U8)(g:c.results=#[.cell t T])(h:Row W k vs)(f:tmps[t]? = some (jZ k))
 (b:(P.underlying T).map (·.isRow)=some true) (j:(P.info? T).map (·.size)=some vs.length):(results c tmps).run P W=.ok (.agg vs.toArray) W:=by
 obtain⟨d,b,hd⟩:=Uy.1 b;have i:=Ye (P:=P) W k 0 T vs d h.2.1 b hd j;have e:tmps.getD t WP=jZ k:=by rw[UI,f];rfl
 unfold results;rw[g];simp only[Array.mapM_eq_mapM_toList,List.mapM_cons,List.mapM_nil,e,asAddr];simp[UV,i]
theorem Row.put{W:Ur}{k:Nat}{vs us:List Ut}(h:Row W k vs)(b:us.length=vs.length):Row (W.setCells k 0 us) k us:=
 ⟨by rw[setCells_size];exact h.1,VO W k 0 us (by rw[b];exact h.2.2),by rw[b];exact VW h.2.2 _ _ _⟩
theorem Row.other{W:Ur}{k j:Nat}{vs us:List Ut}(h:Row W k vs)(b:k≠j):Row (W.setCells j 0 us) k vs:=
 ⟨by rw[setCells_size];exact h.1,Vh h.2.1 j 0 us (U4 b),VW h.2.2 _ _ _⟩
variable {P:Nat}[NeZero P]
theorem MN(C:Fld P)(lb:Array Ut)(L:List (Fin P × Fin P))(N:Nat)(w:Ur)
 (y:∀n,SeqStopsK yBP n prog 112 lb (λx:Fin P × Fin P=>#[pv x.1 x.2]) (Below w.heap.size) (λxs=>xs=L) (λb=>b <+: L) N w) :
 UH prog 49 #[.func (.func 112) #[] lb] w (rZ w λe w'=>e=pv (L.headD (gX P,gY P)).1 (L.headD (gX P,gY P)).2):=by
 refine(callsIn_wide (n:=5)).1 ?_;refine callsIn_of_wp_marks func49 rfl trivial ?_ rfl;simp only[ntmps49,VC,Vj,WG,VK,yBC,yAo,yAn,yAN,yAA,Xr,Xa]
 gi_wp2
 have z:=Made.alloc w [uZ 0,uZ 0,uZ 0,uZ 0,uZ 0,uZ 0,uZ 0,uZ 0] 93;have a:Row (w.alloc (.cells #[uZ 0,uZ 0,uZ 0,uZ 0,uZ 0,uZ 0,uZ 0,uZ 0] 93)) w.heap.size [uZ 0,uZ 0,uZ 0,uZ 0,uZ 0,uZ 0,uZ 0,uZ 0]:=⟨z.lt,z.range,z.there⟩
 have o:kZ w (w.alloc (.cells #[uZ 0,uZ 0,uZ 0,uZ 0,uZ 0,uZ 0,uZ 0,uZ 0] 93)):=z.bel;clear z;obtain⟨u,q⟩:∃u,u=w.alloc (.cells #[uZ 0,uZ 0,uZ 0,uZ 0,uZ 0,uZ 0,uZ 0,uZ 0] 93):=⟨_,rfl⟩
 have I:u.heap.size=w.heap.size+1:=by rw[q,UB]
 rw[<-q]at a o⊢;clear q;refine wpIn_rangeFunc_ownH (α:=Fin P × Fin P) rfl dC (gf:=112) (lb:=lb) rfl trivial (enters_of func112 kR rfl) (y 4) belowK_t (belowK_b oM) o (λ_=>rfl)
  (λb W=>(b=[]/\Row W w.heap.size [uZ 0,uZ 0,uZ 0,uZ 0,uZ 0,uZ 0,uZ 0,uZ 0])/\kZ w W)
  (λc b W=>(c=.ret/\∃x:Fin P × Fin P,b=[x]/\Row W w.heap.size (ws x.1++ws x.2))/\kZ w W)
  (yBu (Own.from (λs A B row k f m=>⟨k.1,qP _ _ () A B row k.2 f m⟩) _) (ownFrom_below (Uw _) oM))
  (λc=>yBu (Own.from (λs A B row k f m=>⟨k.1,k.2.imp λx hx=>⟨hx.1,qP _ _ () A B row hx.2 f m⟩⟩) _) (ownFrom_below (Uw _) oM))
  ⟨⟨rfl,a⟩,o⟩
  (λx E W=>∃j,w.heap.size<j/\Row W j (ws x.1++ws x.2)/\E = { tmps:=#[.func (.func 112) #[] lb,WP,jZ w.heap.size,jZ j,.func (.func 112) #[] lb,pv x.1 x.2,WP,WP],defers:=[] })
  (λx E=>Own.from (λs A B row k f m=>k.imp λj hx=>⟨hx.1,qP _ _ () A B row hx.2.1 f m,hx.2.2⟩) _) ?assign ?body ?done ?stop
 case assign =>
  intro l b x W K t i;have f:=Made.alloc W [uZ 0,uZ 0,uZ 0,uZ 0,uZ 0,uZ 0,uZ 0,uZ 0] 93;have g:=f.there
  gi_wp2_with (refine bL rfl 93 _ _ rfl W.heap.size 0 (ws x.1++ws x.2).toArray rfl rfl g i109 kR ?_)
  have k:=t.1.2.1;have p:Below w.heap.size W ((W.alloc (.cells #[uZ 0,uZ 0,uZ 0,uZ 0,uZ 0,uZ 0,uZ 0,uZ 0] 93)).setCells W.heap.size 0 (ws x.1++ws x.2)):=
   RG.below_setCells (XK k) _ _ _ ((UR _ W).alloc (XK k) _)
  exact i _ _ (((KeepsOthers.alloc W _).trans (nI _ _ _ _)).from _) p ⟨⟨t.1.1,(t.1.2.alloc _).other (Nat.ne_of_lt k)⟩,t.2.trans p⟩
   ⟨W.heap.size,k,Row.put (vs:=[uZ 0,uZ 0,uZ 0,uZ 0,uZ 0,uZ 0,uZ 0,uZ 0]) ⟨f.lt,f.range,f.there⟩ rfl,rfl⟩
 case body =>
  rintro l b x E W J ⟨r,m⟩ ⟨⟨rfl,k⟩,t⟩ ⟨j,G,F,rfl⟩ H;obtain⟨d,A,p⟩:=Uy.1 gU;have f:=F.2.1;have g:=k.2.2
  gi_wp2_with (first|refine jS rfl 93 _ rfl j 0 rfl (ws x.1++ws x.2) d f A p i109 ?_|refine bL rfl 93 _ _ rfl w.heap.size 0 (ws x.1++ws x.2).toArray rfl rfl g i109 kR ?_)
  exact⟨(nI _ _ _ _).from _,⟨rfl,x,rfl,k.put rfl⟩,RG.below_setCells (Uw _) _ _ _ t⟩
 case done =>
  rintro D ys W G rfl ⟨⟨rfl,k⟩,t⟩ i;have g:=k.2.2
  gi_wp2_with fail
  refine⟨trivial,(callsIn_wide.2 (Eh C _)).mono ?_⟩;rintro e E ⟨v,rfl,j,rfl⟩;have f:Row E w.heap.size [uZ 0,uZ 0,uZ 0,uZ 0,uZ 0,uZ 0,uZ 0,uZ 0]:=k.below j;have A:=f.2.2
  gi_wp2_with (refine bL rfl 93 _ _ rfl w.heap.size 0 (ws (gX P)++ws (gY P)).toArray rfl rfl A i109 kR ?_)
  have p:(E.setCells w.heap.size 0 (ws (gX P)++ws (gY P))).heap[D]? = some (.deferred (some [])):=by
   rw[aH _ _ _ _ _ oM,j.block D (UZ.1 i).1];exact i
  have F:kZ w (E.setCells w.heap.size 0 (ws (gX P)++ws (gY P))):=RG.below_setCells (Uw _) _ _ _ (t.trans (j.mono t.size));have m:Row (E.setCells w.heap.size 0 (ws (gX P)++ws (gY P))) w.heap.size (ws (gX P)++ws (gY P)):=f.put rfl;refine⟨by simp,.inl ⟨_,_,rfl,run_takeDeferred p,?_⟩⟩;exact⟨_,aG 2 93 rfl (m.putObj p rfl _) rfl gU i109,_,rfl,F.trans (belowK_b (w:=u) oM _ D _ _ G p rfl rfl),rfl⟩
 case stop =>
  rintro D c b W G f ⟨⟨rfl,x,rfl,k⟩,t⟩ i
  gi_wp2
  obtain⟨m,j⟩:=f;have g:L=x :: m:=j.symm;rw[g];refine⟨by simp,.inl ⟨_,_,rfl,run_takeDeferred i,?_⟩⟩;exact⟨_,aG 2 93 rfl (k.putObj i rfl _) rfl gU i109,_,rfl,t.trans (belowK_b (w:=u) oM _ D _ _ G i rfl rfl),rfl⟩
end
section
variable {P:Nat}[NeZero P]{N:Nat}
theorem jY{w W:Ur}{k e c d b:Nat}(h:Kept w k [⟨k,0,c,d,b,0⟩,⟨e,0,0,0,0,0⟩] W):W.cell? ⟨k,0,none⟩=some (uZ c)/\W.cell? ⟨k,1,none⟩=some (uZ d)/\W.cell? ⟨k,2,none⟩=some (uZ b)/\W.cell? ⟨k,3,none⟩=some (uZ 0)/\Kept w k [⟨k,0,c,d,b,0⟩,⟨e,0,0,0,0,0⟩] W:=⟨h.head.c0,h.head.c1,h.head.c2,h.head.c3,h⟩
theorem kS{w W:Ur}{k e c d b:Nat}(h:W.cell? ⟨k,0,none⟩=some (uZ c)/\W.cell? ⟨k,1,none⟩=some (uZ d)/\W.cell? ⟨k,2,none⟩=some (uZ b)/\W.cell? ⟨k,3,none⟩=some (uZ 0)/\Kept w k [⟨k,0,c,d,b,0⟩,⟨e,0,0,0,0,0⟩] W):Kept w k [⟨k,0,c,d,b,0⟩,⟨e,0,0,0,0,0⟩] W:=h.2.2.2.2
theorem Dp{w W:Ur}{k e c d b:Nat}{o:Obj}(h:W.cell? ⟨k,0,none⟩=some (uZ c)/\W.cell? ⟨k,1,none⟩=some (uZ d)/\W.cell? ⟨k,2,none⟩=some (uZ b)/\W.cell? ⟨k,3,none⟩=some (uZ 0)/\Kept w k [⟨k,0,c,d,b,0⟩,⟨e,0,0,0,0,0⟩] W):(W.alloc o).cell? ⟨k,0,none⟩=some (uZ c)/\(W.alloc o).cell? ⟨k,1,none⟩=some (uZ d)/\(W.alloc o).cell? ⟨k,2,none⟩=some (uZ b)/\(W.alloc o).cell? ⟨k,3,none⟩=some (uZ 0)/\Kept w k [⟨k,0,c,d,b,0⟩,⟨e,0,0,0,0,0⟩] (W.alloc o):=jY ((kS h).alloc o)
theorem BS{w W:Ur}{k e c d b:Nat}{o:Obj}(h:W.drew.cell? ⟨k,0,none⟩=some (uZ c)/\W.drew.cell? ⟨k,1,none⟩=some (uZ d)/\W.drew.cell? ⟨k,2,none⟩=some (uZ b)/\W.drew.cell? ⟨k,3,none⟩=some (uZ 0)/\Kept w k [⟨k,0,c,d,b,0⟩,⟨e,0,0,0,0,0⟩] W.drew):(W.alloc o).drew.cell? ⟨k,0,none⟩=some (uZ c)/\(W.alloc o).drew.cell? ⟨k,1,none⟩=some (uZ d)/\(W.alloc o).drew.cell? ⟨k,2,none⟩=some (uZ b)/\(W.alloc o).drew.cell? ⟨k,3,none⟩=some (uZ 0)/\Kept w k [⟨k,0,c,d,b,0⟩,⟨e,0,0,0,0,0⟩] (W.alloc o).drew:=jY (((kS h).undrew).alloc o).drew
theorem xN{w:Ur}{g o:Nat}{k:Bs}(p l:Nat)(h:Holds encB w g o k)(c:p+l<=k.size):Holds encB w g (o+p) (k.extract p (p+l)):=by
 refine Holds.part h (by rw[Xx];omega) (λj b=>?_);rw[Xx]at b;rw[getElem!_pos (k.extract p (p+l)) j (by rw[Xx];omega),getElem!_pos k (p+j) oM,Array.getElem_extract]
theorem Cp{w:Ur}{g o:Nat}{k:Bs}(f:Nat)(h:Holds encB w g o k)(hf:f<=k.size):Holds encB w g o (k.extract 0 f):=by
 have:=xN 0 f h oM;rwa[UD,XB]at this
def RedR(w:Ur)(e f j l i N:Nat)(s6:Ut)(g:Ur):Prop:=
 ∃k a b c d:Nat,s6=jZ k/\Kept w e [⟨k,0,a,b,c,d⟩,⟨e,0,j,l,i,0⟩,⟨f,0,0,0,0,0⟩] g/\k≠e/\k≠f/\e<=k /\
  Hid (Four (.agg #[uZ a,uZ b,uZ c,uZ d]) N)
theorem RedR.made{w k:Ur}{f g j l i N a b c d:Nat}(e:Kept w f [⟨f,0,j,l,i,0⟩,⟨g,0,0,0,0,0⟩] k)(m:Hid (Four (.agg #[uZ a,uZ b,uZ c,uZ d]) N)):
 RedR w f g j l i N (jZ k.heap.size) (k.alloc (.cells #[uZ a,uZ b,uZ c,uZ d] 118)):=
 ⟨k.heap.size,a,b,c,d,rfl,(e.alloc _).cons (At4.made k 118 a b c d rfl).blk,V8 e.head.lt,V8 e.tail.head.lt,e.le,m⟩
theorem RedR.put{w m:Ur}{e g k i j f N a b c d x y z u:Nat}(o:Kept w e [⟨e,0,i,j,f,0⟩,⟨g,0,0,0,0,0⟩] m)(T:At4 m k x y z u)(n:e<=k)(l:∀x∈([⟨e,0,i,j,f,0⟩,⟨g,0,0,0,0,0⟩]:List Blk),x.k<k)(p:Hid (Four (.agg #[uZ a,uZ b,uZ c,uZ d]) N)):
 RedR w e g i j f N (jZ k) ((((m.setCell (aZ k) (uZ a)).setCell ⟨k,1,none⟩ (uZ b)).setCell ⟨k,2,none⟩ (uZ c)).setCell ⟨k,3,none⟩ (uZ d)):=
 ⟨k,a,b,c,d,rfl,(o.set4' n (λx hx=>V8 (l x hx)) _ _ _ _).cons (T.self4 a b c d).blk,V8 (l ⟨e,0,i,j,f,0⟩ (by simp)),V8 (l ⟨g,0,0,0,0,0⟩ (by simp)),n,p⟩
theorem ID{P:Nat}(k:Bs)(p:Nat)(d:p+32<=k.size):(beV (k.extract p (p+32)).toList+top*(beV (k.extract 0 p).toList%P))%P=beV (k.extract 0 (p+32)).toList%P:=by
 have e:(k.extract 0 (p+32)).toList=(k.extract 0 p).toList++(k.extract p (p+32)).toList:=by
  rw[<-yAu,Array.extract_append_extract,Nat.min_eq_left oM,Nat.max_eq_right oM]
 have b:(k.extract p (p+32)).toList.length=32:=by rw[UK,Xx];omega
 have c:256^32=top:=by unfold top;decide
 rw[e,jP,b,c,yBL,Zn,Xz,Nat.mod_mod,<-Xz,<-Zn,Vv]
theorem CW(g0 g1 g2 P g o n cap : Nat)(bs : Bs)(hG : Gap g0 g1 g2 P)(w : Ur)(hs : bs.size = n)(hc : n <= cap)(hg : g < w.heap.size)(hB : Holds encB w g o bs):
    UH prog 229 #[.agg #[.int .u64 (g0 : Int), .int .u64 (g1 : Int), .int .u64 (g2 : Int), .int .u64 0], .slice (some ⟨g, o, none⟩) n cap] w (Ret λe w' => Below w.heap.size w w' /\ Four e (beV bs.toList % P)) := by
  obtain⟨f, hf⟩ : ∃f, f = n % 32 := ⟨_, rfl⟩;have hf32 : f < 32 := oM;have hfn : f <= n := oM;have e1 : (n : Int) % 32 = (f : Int) := oM;have e2 : (f : Int) <= (cap : Int) := oM;have e3 : (f : Int) <= (n : Int) := oM;have e4 : f <= cap := oM;have hsz0 : (bs.extract 0 f).size = f := by rw [Xx]; omega
  have Hf : Hid (f = n % 32) := hf;have HS : Hid ((bs.extract 0 f).size = f) := hsz0;have hbs : f <= bs.size := oM;have HSZ : Hid (bs.size = n) := hs;have HG : Hid (Gap g0 g1 g2 P) := hG;clear hf hsz0 hG;go_enter func229, ntmps229
  go_upto_region 2 with fail
  rw [e1];clear e1;have PR := (At4.made w 120 g0 g1 g2 0 rfl).alloc (.cells #[.int .u64 0, .int .u64 0, .int .u64 0, .int .u64 0] 47);have RE := At4.made (w.alloc (.cells #[.int .u64 (g0 : Int), .int .u64 (g1 : Int), .int .u64 (g2 : Int), .int .u64 0] 120)) 47 0 0 0 0 (UB _ _);have KP := ((Kept.mk1 (below2 w (.cells #[.int .u64 (g0 : Int), .int .u64 (g1 : Int), .int .u64 (g2 : Int), .int .u64 0] 120) (.cells #[.int .u64 0, .int .u64 0, .int .u64 0, .int .u64 0] 47)) (below2 w (.cells #[.int .u64 (g0 : Int), .int .u64 (g1 : Int), .int .u64 (g2 : Int), .int .u64 0] 120) (.cells #[.int .u64 0, .int .u64 0, .int .u64 0, .int .u64 0] 47)).size).cons RE.blk).cons PR.blk;clear PR RE;generalize World.alloc _ _ = W0 at KP⊢;generalize h1 : w.heap.size + 1 = k1 at KP⊢;have Q1 : Hid (w.heap.size <= k1) := by unfold Hid; omega
  generalize h0 : w.heap.size = k0 at KP Q1 hg⊢;have n01 : k0 ≠ k1 := oM;have H0 : Hid (w.heap.size = k0) := h0;have HBS : Hid (Holds encB w g o bs) := hB;clear h0 h1 hB hs
  go_cut [6] (λs6 wx => RedR w k0 k1 g0 g1 g2 (beV (bs.extract 0 f).toList % P) s6 wx)
  case first =>
    go_region_held3 (λw' => w'.cell? ⟨k0, 0, none⟩ = some (.int .u64 (g0 : Int)) /\ w'.cell? ⟨k0, 1, none⟩ = some (.int .u64 (g1 : Int)) /\ w'.cell? ⟨k0, 2, none⟩ = some (.int .u64 (g2 : Int)) /\ w'.cell? ⟨k0, 3, none⟩ = some (.int .u64 0) /\ Kept w k0 [⟨k0, 0, g0, g1, g2, 0⟩, ⟨k1, 0, 0, 0, 0, 0⟩] w') (first | (with_reducible exact jY KP) | (with_reducible exact jY KP.drew) | (with_reducible exact BS (by assumption)) | (with_reducible exact Dp (by assumption)) | (with_reducible exact jY (KP.alloc _)) | (with_reducible exact jY (KP.set4' M7 (λx hx => V8 (N7 x hx)) _ _ _ _)) | (with_reducible exact jY (KP.alloc _).drew) | (with_reducible exact jY (KP.set4' M7 (λx hx => V8 (N7 x hx)) _ _ _ _).drew) | fail) (first | (go_at_call 125; refine(kK (some ⟨g, o, none⟩) g o f cap (bs.extract 0 f) _ (XK hf32) e4 HS.out (UX ⟨rfl, Cp f (Holds.below HBS.out (kS (by assumption)).bl hg) hbs⟩)).mono ?_; rintro e w1 ⟨v, rfl, hb1, hF1⟩; obtain⟨a1, b1, c1, d1, rfl, ha1, hb1', hc1, hd1, es1⟩ := id hF1; clear es1; have HF1 : Hid (Four _ _) := hF1; clear hF1; (try(with_reducible have T1 := T.call hb1; clear T; have T := T1; clear T1)); (try(first | (with_reducible have T := (At4.made _ 118 0 0 0 0 rfl).call hb1) | (with_reducible have T := (At4.made _ 118 0 0 0 0 rfl).drew.call hb1)); have N7 := KP.lts; have M7 := KP.le); have KP1 := Kept.call (kS (by assumption)) hb1; clear KP; have KP := KP1; clear KP1 hb1) | (go_at_call 127; refine(jN _ _ HF1.out _).mono ?_; rintro e w1 ⟨v, rfl, hb1, rfl⟩; (try(with_reducible have T1 := T.call hb1; clear T; have T := T1; clear T1)); (try(first | (with_reducible have T := (At4.made _ 118 0 0 0 0 rfl).call hb1) | (with_reducible have T := (At4.made _ 118 0 0 0 0 rfl).drew.call hb1)); have N7 := KP.lts; have M7 := KP.le); have KP1 := Kept.call (kS (by assumption)) hb1; clear KP; have KP := KP1; clear KP1 hb1) | (go_at_call 235; refine(xU g0 g1 g2 _ _ _ _ P HG.h0 HG.h1 HG.h2 HG.hor HG.hP HG.hP2 HF1.out (Four.mk (a := 0) (b := 0) (c := 0) (d := 0) dC dC dC dC rfl) _).mono ?_; rintro e w1 ⟨v, rfl, hb1, hF3⟩; obtain⟨a', b', c', d', rfl, ha', hb', hc', hd', es3⟩ := id hF3; clear es3; have HF3 : Hid (Four _ _) := hF3; clear hF3; (try(with_reducible have T1 := T.call hb1; clear T; have T := T1; clear T1)); (try(first | (with_reducible have T := (At4.made _ 118 0 0 0 0 rfl).call hb1) | (with_reducible have T := (At4.made _ 118 0 0 0 0 rfl).drew.call hb1)); have N7 := KP.lts; have M7 := KP.le); have KP1 := Kept.call (kS (by assumption)) hb1; clear KP; have KP := KP1; clear KP1 hb1; (try(obtain⟨tc0, tc1, tc2, tc3, tf⟩ := id T; have zt := T.lt))))
    all_goals (try go_wp2)
    all_goals (rw [show val 0 0 0 0 = 0 from rfl, ZP, XB]at HF3)
    all_goals (go_meet; first | (with_reducible exact RedR.made KP HF3) | (with_reducible exact(RedR.made KP HF3).drew) | (with_reducible exact RedR.put KP T M7 N7 HF3) | (with_reducible exact(RedR.put KP T M7 N7 HF3).drew) | fail)
  case rest =>
    clear KP;obtain⟨k6, a, b, c, d, rfl, KP, n60, n61, M6, HF⟩ := hcut;have f0 : (0 : Int) <= (f : Int) := Int.natCast_nonneg _
    go_upto_region 3 with fail
    go_cut [1] (λs1 wx => ∃q : Nat, s1 = .slice (some ⟨g, q, none⟩) (n - f) (cap - f) /\ Hid (0 < n - f -> q = o + f) /\ Kept w k0 [⟨k6, 0, a, b, c, d⟩, ⟨k0, 0, g0, g1, g2, 0⟩, ⟨k1, 0, 0, 0, 0, 0⟩] wx)
    case first =>
      by_cases ec : cap = f
      · have en : n = f := oM
        have HEN : Hid (n = f /\ cap = f) := ⟨en, ec⟩;go_wp2
        go_meet
        refine⟨o, ?_, λh => ?_, KP⟩
        · rw [HEN.1, HEN.2]; try simp
        · have := HEN.1; omega
      · go_wp2
        go_meet
        exact⟨o + f, rfl, λ_ => rfl, KP⟩
    case rest =>
    clear KP;obtain⟨q0, rfl, HQ0, KP⟩ := hcut;go_wp2_with fail
    go_loopg [1] (n - f) (λgk s1 wr => ∃(l q lc a b c d : Nat), gk = l /\ l <= n /\ s1 = .slice (some ⟨g, q, none⟩) l lc /\ Hid (l % 32 = 0 /\ (0 < l -> q = o + (n - l)) /\ lc = cap - (n - l)) /\ Kept w k0 [⟨k6, 0, a, b, c, d⟩, ⟨k0, 0, g0, g1, g2, 0⟩, ⟨k1, 0, 0, 0, 0, 0⟩] wr /\
      Hid (Four (.agg #[.int .u64 (a : Int), .int .u64 (b : Int), .int .u64 (c : Int), .int .u64 (d : Int)]) (beV (bs.extract 0 (n - l)).toList % P)))
    case atStart =>
      refine⟨n - f, q0, cap - f, a, b, c, d, rfl, oM, rfl, ⟨by have := Hf.out; omega, λh => by have := HQ0.out h; omega, oM⟩, KP, ?_⟩;rw [show n - (n - f) = f by omega];exact HF
    case round =>
      clear KP HF;obtain⟨l, q, lc, a, b, c, d, hgk, hln, rfl, HQ3, KP, HF⟩ := hrel;clear e2 e3 e4 f0 hbs HS hf32 hfn HQ0;have hlcl : l <= lc := by have := HQ3.out; omega
      by_cases h0 : l = 0
      · subst h0
        obtain⟨xc0, xc1, xc2, xc3, xf⟩ := KP.head.at4;have z7 := KP.head.lt;go_wp2_with fail
        refine(jI _ _ HF.out _).mono ?_;rintro e w3 ⟨v, rfl, hb3, rfl⟩;have KP3 := KP.call hb3;clear hb3 xc0 xc1 xc2 xc3 xf z7 KP;obtain⟨rc0, rc1, rc2, rc3, rf⟩ := KP3.tail.tail.head.at4;have z3 := KP3.tail.tail.head.lt;go_wp2;have RF := KP3.tail.tail.head.at4.self4 a b c d;unfold set4 at RF;refine UE (v := ?v) ?hr rfl ?hR
        case hr => simp [results, Tryz.results229, go_sem, RF.c0, RF.c1, RF.c2, RF.c3]; rfl
        refine⟨_, rfl, ?_, ?_⟩
        · rw [H0.out]
          exact aL KP3.bl Q1.out _ _ _ _
        · have := HF.out
          rw [YT, <-HSZ.out, Array.extract_size]at this;exact this
      · have h32 : 32 <= l := by have := HQ3.out; omega
        have HQ : Hid (o + (n - l) = q) := (HQ3.2.1 oM).symm;have h32c : 32 <= lc := oM;have i1 : (32 : Int) <= (lc : Int) := oM;have i2 : (32 : Int) <= (l : Int) := oM;have i3 : (0 : Int) < (l : Int) := oM;have HSL : Hid (n - l + 32 <= bs.size) := by unfold Hid; have := HSZ.out; omega
        have HS3 : Hid ((bs.extract (n - l) (n - l + 32)).size = 32) := by unfold Hid; rw [Xx]; have := HSL.out; omega
        obtain⟨tc0, tc1, tc2, tc3, tf⟩ := KP.head.at4;have zt := KP.head.lt;obtain⟨pc0, pc1, pc2, pc3, pf⟩ := KP.tail.head.at4;have hl6 : ∀x ∈ ([⟨k0, 0, g0, g1, g2, 0⟩, ⟨k1, 0, 0, 0, 0, 0⟩] : List Blk), k6 ≠ x.k := by simp only [VX, UY, or_false]; rintro x (rfl | rfl); exact n60; exact n61
        have HFF : Hid (_ = _) := ID (P := P) bs (n - l) HSL.out;go_wp2_with fail
        go_region_with (first | (go_at_call 125; refine(kK (some ⟨g, q, none⟩) g q 32 lc (bs.extract (n - l) (n - l + 32)) _ (Uw 32) h32c HS3.out (UX ⟨rfl, HQ.out ▸ xN (n - l) 32 (by first | (with_reducible exact Holds.below HBS.out KP.bl hg) | (with_reducible exact Holds.below HBS.out KP.drew.bl hg) | fail) HSL.out⟩)).mono ?_; rintro e w1 ⟨v, rfl, hb1, hF1⟩; obtain⟨a1, b1, c1, d1, rfl, ha1, hb1', hc1, hd1, es1⟩ := id hF1; clear es1; have HF1 : Hid (Four _ _) := hF1; clear hF1; (first | (with_reducible have KP1 := KP.call hb1) | (with_reducible have KP1 := KP.drew.call hb1) | fail); clear KP; have KP := KP1; clear KP1 hb1; obtain⟨tc0, tc1, tc2, tc3, tf⟩ := KP.head.at4; have zt := KP.head.lt; obtain⟨pc0, pc1, pc2, pc3, pf⟩ := KP.tail.head.at4) | (go_at_call 127; refine(jN _ _ HF1.out _).mono ?_; rintro e w1 ⟨v, rfl, hb1, rfl⟩; (first | (with_reducible have KP1 := KP.call hb1) | (with_reducible have KP1 := KP.drew.call hb1) | fail); clear KP; have KP := KP1; clear KP1 hb1; obtain⟨tc0, tc1, tc2, tc3, tf⟩ := KP.head.at4; have zt := KP.head.lt; obtain⟨pc0, pc1, pc2, pc3, pf⟩ := KP.tail.head.at4) | (go_at_call 235; refine(xU g0 g1 g2 _ _ _ _ P HG.h0 HG.h1 HG.h2 HG.hor HG.hP HG.hP2 HF1.out HF.out _).mono ?_; rintro e w1 ⟨v, rfl, hb1, hF3⟩; obtain⟨a', b', c', d', rfl, ha', hb', hc', hd', es3⟩ := id hF3; clear es3; have HF3 : Hid (Four _ _) := hF3; clear hF3; (first | (with_reducible have KP1 := KP.call hb1) | (with_reducible have KP1 := KP.drew.call hb1) | fail); clear KP; have KP := KP1; clear KP1 hb1; obtain⟨tc0, tc1, tc2, tc3, tf⟩ := KP.head.at4; have zt := KP.head.lt; obtain⟨pc0, pc1, pc2, pc3, pf⟩ := KP.tail.head.at4))
        all_goals (rw [HFF.out]at HF3)
        all_goals (by_cases i4 : lc = 32)
        all_goals (try go_wp2)
        all_goals
          (go_roundg (l - 32)
           case measure => omega
           case rel =>
            first
              | refine⟨l - 32, q + 32, lc - 32, a', b', c', d', rfl, oM, rfl, ⟨by have := HQ3.out; omega, λ_ => by have := HQ.out; omega, by have := HQ3.out; omega⟩, ?_, ?_⟩
              | refine⟨l - 32, q, lc - 32, a', b', c', d', rfl, oM, by first | rfl | (rw [i4]), ⟨by have := HQ3.out; omega, λh => oM, by have := HQ3.out; omega⟩, ?_, ?_⟩
              | fail
            · first | (with_reducible exact KP.put M6 hl6 a' b' c' d') | (with_reducible exact(KP.put M6 hl6 a' b' c' d').drew) | fail
            · rw [show n - (l - 32) = n - l + 32 by omega]; exact HF3)
def sPl(N a b:Nat):Nat:=(a+b)%N
theorem LL(O:Ord N){a b:Nat}(c:a<N)(k:b<N):Gives 155 #[gv1,nv a,nv b] (nv (sPl N a b)):=λw =>
 (CV _ _ _ N _ _ a b O.gap (O.four c) (O.four k) c k w).mono (by rintro e w' ⟨v,rfl,k,d⟩;exact⟨_,rfl,k,d.nv⟩)
theorem mY(O:Ord N)(a b:Nat)(c:a<N)(f:b<N):Gives 80 #[(nv a),(nv b)] (nv (sPl N a b)):=by
 intro w;go_enter func80,ntmps80;refine RG.M.enter [(0,.v (nv a)),(1,.v (nv b))] 12 kR ?_;intro a0 d;repeat refine Uz ?_
 refine d.T [.m 0,.m 1,.m 2] [(0,wn a),(1,wn b),(2,RG.z 4)] [] [wn a,wn b,RG.z 4] [2,3,4] ⟨mk 0 49,mk 1 49,mk 2 49,yCl⟩ ?_;intro g j i l m e;repeat refine Uz ?_
 refine e.D [.c gv1,.s (.p 0 0),.x (nv a),.s (.p 1 0),.x (nv b),.c (nv (sPl N a b)),.x (nv (sPl N a b)),.u 2] [] [(2,7,wn (sPl N a b))] [wn a,wn b,wn (sPl N a b)] [4] ⟨cl fH,st,ld u38 i38,st,ld u38 i38,cl (LL O c f),st,RG.pt i40,yCl⟩ ?_;intro a2 n k;refine Wp ?_;refine UE (v:=(nv (sPl N a b))) (aI k.st 4 49 rfl 2 _ rfl (k.at (s:=(.p 2 0))) u40 i40) k.sl.defers ?_;exact⟨_,rfl,k.st.bel.below,rfl⟩
def oS(N:Nat)(k:Bs):Nat:=beV k.toList%N
def Qo(v:Ut)(n:Nat):List It:=[.c 3 [] gv1,.x 4 [] v,.c 5 [(3,0),(4,1)] (nv n),.x 6 [(5,2)] (nv n),.u [(6,3)] 0]
theorem zL(O:Ord N)(g:Nat)(k:Bs)(j:k.size=64)(w:Ur)(f:g<w.heap.size)(l:Holds encB w g 0 k):UH prog 197 #[sZ g 64 64] w (rZ w λe w'=>e=nv (oS N k)):=by
 have i:∀w',BelX w.heap.size [] w w'->UH prog 229 #[gv1,sZ g 64 64] w' (Ret λe b=>kZ w' b/\e=nv (oS N k)):=λw' d =>
  (CW _ _ _ N g 0 64 64 k O.gap w' j (Uw _) (Ux f d.below.size) (Holds.below l d.below f)).mono (by rintro e b ⟨v,rfl,d,c⟩;exact⟨_,rfl,d,c.nv⟩)
 go_enter func197,ntmps197;refine RG.M.enter [(0,.v (sZ g 64 64))] 7 kR ?_;intro a0 m;repeat refine Uz ?_
 refine m.T [.m 0] [(0,RG.z 4)] [] [RG.z 4] [0,2] ⟨mk 0 49,yCl⟩ ?_;intro o p r n;repeat refine Uz ?_
 refine n.t (Qo (sZ g 64 64) (oS N k)) [] [(0,4,wn (oS N k))] [wn (oS N k)] [(2,.p 0 0)] ⟨cl fH,st,clB (λ_ _=>kR) i,st,RG.pt i40,yCl⟩ ?_;intro a2 q c;refine Wp ?_;refine UE (v:=(nv (oS N k))) (aI c.st 2 49 rfl 0 _ rfl (c.at (s:=(.p 0 0))) u40 i40) c.sl.defers ?_;exact⟨_,rfl,c.st.bel.below,rfl⟩
theorem uU(O:Ord N)(k:Bs):oS N k<N:=V5 _ O.pos
def chL(N:Nat)(k:List UInt8)(b:List (List UInt8)):Nat:=oS N (qM (oR k b).toList 64)
theorem aE(w:Ur)(c:List Ut)(T:U8):Row (w.alloc (.cells c.toArray T)) w.heap.size c:=
 have h:=Made.alloc w c T
 ⟨h.lt,h.range,h.there⟩
theorem aM(n:Nat):(wn n).toArray.all (·.oneCell')=true:=kR
theorem Ic(O:Ord N)(f:Nat)(T:Bs)(w:Ur)(s:T.size=32)(p:Holds encB w f 0 T):
 UH prog 128 #[sZ f 32 32] w (rZ w λe w'=>e=nv (oS N (qM T.toList 64))):=by
 obtain⟨S,t⟩:∃S,Hid (qM T.toList 64=S):=⟨_,rfl⟩
 have q:S.size=64:=by rw[<-t.out];exact zI _ _
 rw[t.out];obtain⟨c,k⟩:∃c,Hid (w.alloc (.cells #[uZ 0,uZ 0,uZ 0,uZ 0] 49)=c):=⟨_,rfl⟩
 have g:Hid (Row c w.heap.size [uZ 0,uZ 0,uZ 0,uZ 0]/\kZ w c/\Holds encB c f 0 T):=by rw[<-k.out];exact⟨aE w _ _,aC w _,Holds.below p (aC w _) (Holds.lt p oM)⟩
 clear p;go_enter func128,ntmps128;go_wp2_with fail
 rw[k.out];clear k;refine(yV (some (aZ f)) f 0 32 32 64 T c dC s (Uw _) dC (UX ⟨rfl,g.2.2⟩)).mono ?_;rintro e l ⟨y,rfl,B,u,o⟩;rw[t.out]at o;have d:Hid (Row l w.heap.size [uZ 0,uZ 0,uZ 0,uZ 0]/\kZ w l/\Holds encB l y 0 S):=⟨g.1.below u,g.2.1.trans (u.mono g.2.1.size),o⟩
 clear B u o g;go_wp2_with fail
 refine(zL O y S q l (Holds.lt d.2.2 oM) d.2.2).mono ?_;rintro e x ⟨v,rfl,b,rfl⟩;have r:Hid (Row x w.heap.size [uZ 0,uZ 0,uZ 0,uZ 0]/\kZ w x):=⟨d.1.below b,d.2.1.trans (b.mono d.2.1.size)⟩
 clear b d;obtain⟨m,a⟩:∃m,Hid (oS N S=m):=⟨_,rfl⟩
 rw[a.out];obtain⟨n,j⟩:∃n,Hid (x.setCells w.heap.size 0 (wn m)=n):=⟨_,rfl⟩
 have z:Hid (Row n w.heap.size (wn m)/\kZ w n):=by rw[<-j.out];exact⟨r.1.put rfl,RG.below_setCells (Uw _) _ _ _ r.2⟩
 obtain⟨A,i⟩:∃A,Hid (nv m=A):=⟨_,rfl⟩
 rw[i.out];go_wp2_with (refine U2 rfl 49 _ _ rfl w.heap.size 0 (wn m).toArray ?_ ?_ ?_ ?_ ?_ ?_;rfl;exact i.symm;exact r.1.2.2;exact i40;exact aM m;rw[show(wn m).toArray.toList=wn m from rfl,j.out])
 refine UE (aG 2 49 rfl z.1 rfl u40 i40) rfl ?_;exact⟨_,rfl,z.2,by rw[a.out];rfl⟩
theorem Cz(O:Ord N)(k:ByteArray)(u:Option Wu)(n cap:Nat)(i:List (List UInt8))(w:Ur)(o:k.size<=1048576)(E:i.length=n)(q:n<=1048576)(H:PartsOk w u i):
 UH prog 60 #[.string k,.slice u n cap] w (rZ w λe w'=>e=nv (chL N k.data.toList i)):=by
 obtain⟨T,x⟩:∃T,Hid (oR k.data.toList i=T):=⟨_,rfl⟩
 have z:T.size=32:=by rw[<-x.out];exact fC _ _
 have I:chL N k.data.toList i=oS N (qM T.toList 64):=by unfold chL;rw[x.out]
 rw[I];clear I;obtain⟨c,f⟩:∃c,Hid (w.alloc (.cells #[uZ 0,uZ 0,uZ 0,uZ 0] 49)=c):=⟨_,rfl⟩
 have b:Hid (Row c w.heap.size [uZ 0,uZ 0,uZ 0,uZ 0]/\kZ w c):=by rw[<-f.out];exact⟨aE w _ _,aC w _⟩
 have d:Hid (UH prog 113 #[.string k,.slice u n cap] c λe w'=>∃r,e=.returned (sZ r 32 32)/\c.heap.size<=r/\kZ c w'/\Holds encB w' r 0 T):=by
  subst E;rw[<-x.out];exact vP k u cap i c o q (H.below b.2)
 clear H E q;go_enter func60,ntmps60;go_wp2_with fail
 rw[f.out];clear f;refine d.mono ?_;rintro e t ⟨C,rfl,J,a,B⟩;have j:Hid (Row t w.heap.size [uZ 0,uZ 0,uZ 0,uZ 0]/\kZ w t/\Holds encB t C 0 T):=⟨b.1.below a,b.2.trans (a.mono b.2.size),B⟩
 clear J a B d b;go_wp2_with fail
 refine(Ic O C T t z j.2.2).mono ?_;rintro e A ⟨v,rfl,g,rfl⟩;have y:Hid (Row A w.heap.size [uZ 0,uZ 0,uZ 0,uZ 0]/\kZ w A):=⟨j.1.below g,j.2.1.trans (g.mono j.2.1.size)⟩
 clear g j;obtain⟨m,F⟩:∃m,Hid (oS N (qM T.toList 64)=m):=⟨_,rfl⟩
 rw[F.out];obtain⟨s,p⟩:∃s,Hid (A.setCells w.heap.size 0 (wn m)=s):=⟨_,rfl⟩
 have D:Hid (Row s w.heap.size (wn m)/\kZ w s):=by rw[<-p.out];exact⟨y.1.put rfl,RG.below_setCells (Uw _) _ _ _ y.2⟩
 obtain⟨G,l⟩:∃G,Hid (nv m=G):=⟨_,rfl⟩
 rw[l.out];go_wp2_with (refine U2 rfl 49 _ _ rfl w.heap.size 0 (wn m).toArray ?_ ?_ ?_ ?_ ?_ ?_;rfl;exact l.symm;exact y.1.2.2;exact i40;exact aM m;rw[show(wn m).toArray.toList=wn m from rfl,p.out])
 refine UE (aG 4 49 rfl D.1 rfl u40 i40) rfl ?_;exact⟨_,rfl,D.2,by rw[F.out];rfl⟩
end
section
section
variable {P:VD}{ops:Array Vk}{rest:List Vk}{op:Vk}{a:Act}{w w':Ur}{v:Ut}{Q:Yo->Act->Ur->Prop}
theorem bG(k:op.guard=none)(X:Op)(_:op.op=X)(c:(U5 a.eval op).run P w=.ok (.value v) w')(h:wpList P ops Q rest (a.put op.dst v) w'):wpList P ops Q (op :: rest) a w:=
 Xg k λK b=>by
  unfold VT;rw[c];exact b _ _ h
end
variable {N:Nat}
theorem Row.only{W W':Ur}{k b o n:Nat}{vs:List Ut}(h:Row W k vs)(e:SP.Only b o n W W')(d:k≠b):Row W' k vs:=by
 refine⟨Ux h.1 e.size,λj v f=>?_,λj f=>?_⟩
 ·rw[(e.other (c:=k) (o:=0+j) d h.1).1];exact h.2.1 j v f
 ·have i:=h.2.2 j f;have g:=e.other (c:=k) (o:=0+j) d h.1;exact⟨by rw[g.1];exact i.1,by rw[g.2];exact i.2⟩
theorem dW{w W:Ur}{y o n k:Nat}{vs:List Ut}(h:SP.Only y o n w W)(d:y<w.heap.size)(g:w.heap.size<=k)(q:Nat):SP.Only y o n w (W.setCells k q vs):=
 have b:=RG.below_setCells g _ _ _ (UR _ _)
 ⟨b.os.trans h.os,b.tape.trans h.tape,b.output.trans h.output,UC h.size b.size,λj e c=>(b.block j e).trans (h.block j e c),λp f=>(UW (a:=⟨y,p,none⟩) (b.block y d)).trans (h.cell p f),λp=>(VU (a:=⟨y,p,none⟩) (b.block y d)).trans (h.froz p)⟩
theorem Hid.mk'{p:Prop}(h:p):Hid p:=h
theorem u124:(prog.underlying 143).map (·.isRow)=some true:=kR
theorem i124:(prog.info? 143).map (·.size)=some 1:=kR
theorem Gp(k:ByteArray)(w:Ur)(n:k.size<=1048576):UH prog 207 #[.string k] w (rZ w λe w'=>∃r,e=.agg #[jZ r]/\w.heap.size<=r/\r<w'.heap.size/\Holds encB w' r 0 (newL k.data.toList)):=by
 obtain⟨L,s⟩:=hE (newL k.data.toList);have u:L.size=32:=by rw[<-s.out];exact zY _
 rw[s.out];obtain⟨g,d⟩:∃g,Hid (w.alloc (.cells #[.pointer none] 143)=g):=⟨_,rfl⟩
 have m:Hid (Row g w.heap.size [.pointer none]/\kZ w g):=by rw[<-d.out];exact⟨aE w _ _,aC w _⟩
 go_enter func207,ntmps207;go_wp2_with fail
 rw[d.out];clear d;refine(En k g n).mono ?_;rintro e f ⟨rfl,c,b⟩;rw[s.out]at b;have l:g.heap.size<f.heap.size:=Holds.lt b oM;obtain⟨r,t⟩:∃r,Hid (g.heap.size=r):=⟨_,rfl⟩
 rw[t.out]at b l⊢;have y:w.heap.size<r:=by rw[<-t.out];exact m.1.1
 have q:Hid (Row f w.heap.size [.pointer none]/\kZ w f/\Holds encB f r 0 L):=⟨m.1.below c,m.2.trans (c.mono m.2.size),b⟩
 clear c b m t;obtain⟨i,o⟩:∃i,Hid (f.setCells w.heap.size 0 [jZ r]=i):=⟨_,rfl⟩
 have p:Hid (Row i w.heap.size [jZ r]/\kZ w i/\Holds encB i r 0 L/\r<i.heap.size):=by
  rw[<-o.out];refine⟨q.1.put rfl,RG.below_setCells (Uw _) _ _ _ q.2.1,λj x=>?_,by rw[setCells_size];exact l⟩;have h:=q.2.2 j x;have e:=aH w.heap.size [jZ r] 0 f r oM;rw[UW (a:=⟨r,0+j,none⟩) e,VU (a:=⟨r,0+j,none⟩) e];exact h
 go_wp2_with (refine bG (v:=.agg #[jZ r]) (w':=f) rfl (.build 143 _) rfl ?_ ?_;kernel_rfl;refine Zf ?_)
 show wpList _ _ _ _ _ _;refine U2 rfl 143 _ _ rfl w.heap.size 0 #[jZ r] ?_ ?_ ?_ ?_ ?_ ?_
 ·kernel_rfl
 ·kernel_rfl
 ·exact q.1.2.2
 ·exact i124
 ·kernel_rfl
 rw[show(#[jZ r]).toList=[jZ r] from rfl,o.out];go_wp2;refine UE (aG 2 143 rfl p.1 rfl u124 i124) rfl ?_;exact⟨_,rfl,p.2.1,r,rfl,oM,p.2.2.2,p.2.2.1⟩
def cha(N:Nat)(L:Bs):Nat:=oS N (CN L [99,104,97,108,108,101,110,103,101] 64)
end
namespace SP
attribute [local go_sem] cY dV dZ pB
end SP
namespace SP
attribute [local go_sem] cY dV dZ pB
end SP
namespace SP
attribute [local go_sem] cY dV dZ qJ pB
end SP
namespace SP
attribute [local go_sem] cY dV dZ qJ pB Eo NE
end SP
namespace SP
attribute [local go_sem] Aj
end SP
section
variable {P:Nat}[NeZero P]{N:Nat}
def n12(P:Nat)[NeZero P]:List Ut:=ws (0:Fin P)++(ws (1:Fin P)++ws (0:Fin P))
theorem Eg(l:List UInt8):beV l<256^l.length:=by
 induction l with
 | nil=>decide
 | cons x r ih =>
  have h:=jP [x] r;rw[show [x]++r=x :: r from rfl]at h;have hx:beV [x]=x.toNat:=by simp[beV]
  have k:=x.toNat_lt;rw[h,hx,Vj,V7,Vv (256^r.length)];have:=Xs (256^r.length) (show x.toNat+1<=256 by omega);rw[XF,Nat.one_mul]at this;omega
theorem Rx(w:Ur):(Instr.makeSlice 23 (iZ 32) (iZ 32)).run prog w=.ok (sZ w.heap.size 32 32) (w.alloc (.cells (madeCells #[.int .u8 0] 32) 5)):=
 run_make_row' (P:=prog) 23 5 (.int .u8 0) 1 Hz DN rfl .i64 .i64 32 dC dC w
theorem Nq:prog.underlying 103=some (.array 33 5):=kR
theorem dF{b:Bs}(h:b.size=33):aA b=[.int .u8 (ub b[0]!),.int .u8 (ub b[1]!),.int .u8 (ub b[2]!),.int .u8 (ub b[3]!),.int .u8 (ub b[4]!),.int .u8 (ub b[5]!),.int .u8 (ub b[6]!),.int .u8 (ub b[7]!),.int .u8 (ub b[8]!),.int .u8 (ub b[9]!),.int .u8 (ub b[10]!),.int .u8 (ub b[11]!),.int .u8 (ub b[12]!),.int .u8 (ub b[13]!),.int .u8 (ub b[14]!),.int .u8 (ub b[15]!),.int .u8 (ub b[16]!),.int .u8 (ub b[17]!),.int .u8 (ub b[18]!),.int .u8 (ub b[19]!),.int .u8 (ub b[20]!),.int .u8 (ub b[21]!),.int .u8 (ub b[22]!),.int .u8 (ub b[23]!),.int .u8 (ub b[24]!),.int .u8 (ub b[25]!),.int .u8 (ub b[26]!),.int .u8 (ub b[27]!),.int .u8 (ub b[28]!),.int .u8 (ub b[29]!),.int .u8 (ub b[30]!),.int .u8 (ub b[31]!),.int .u8 (ub b[32]!)]:=by
 apply YX;intro i;by_cases k:i<33
 ·rw[rN b i oM];match i,k with
  | 0,_=>rfl
  | 1,_=>rfl
  | 2,_=>rfl
  | 3,_=>rfl
  | 4,_=>rfl
  | 5,_=>rfl
  | 6,_=>rfl
  | 7,_=>rfl
  | 8,_=>rfl
  | 9,_=>rfl
  | 10,_=>rfl
  | 11,_=>rfl
  | 12,_=>rfl
  | 13,_=>rfl
  | 14,_=>rfl
  | 15,_=>rfl
  | 16,_=>rfl
  | 17,_=>rfl
  | 18,_=>rfl
  | 19,_=>rfl
  | 20,_=>rfl
  | 21,_=>rfl
  | 22,_=>rfl
  | 23,_=>rfl
  | 24,_=>rfl
  | 25,_=>rfl
  | 26,_=>rfl
  | 27,_=>rfl
  | 28,_=>rfl
  | 29,_=>rfl
  | 30,_=>rfl
  | 31,_=>rfl
  | 32,_=>rfl
  | n+33,h=>exact absurd h oM
 ·rw[Wx (by rw[aB h];omega),Wx (by show 33<=i;omega)]
theorem bytes_eq{a b:Bs}(c:a.size=33)(g:b.size=33):(∀i∈VG 33,ub a[i]! = ub b[i]!)↔a=b:=by
 constructor
 ·intro h;apply yB4 (by rw[c,g]);intro i f e;have k:=h i (V0.2 oM);rw[getElem!_pos a i f,getElem!_pos b i e]at k;have d:a[i].toNat=b[i].toNat:=by unfold ub at k;omega
  exact yAU.1 d
 ·rintro rfl i _;rfl
theorem Sr{a b:Bs}(d:a.size=33)(e:b.size=33)(w:Ur):(Op.equal 103 (.agg (aA a).toArray) (.agg (aA b).toArray)).run prog w=.ok (decide (a=b)) w:=by
 have c:(prog.info? 5).isSome=true:=kR;obtain⟨f,k⟩:=Vr.1 c;show(Op.equalIn 10000 103 _ _).run prog w=_;rw[run_equalIn_array w 9999 _ _ Nq k,cells5,
  eqI _ _ (λi=>ub a[i]!) (λi=>ub b[i]!) 9998 w (VG 33) (λi c=>by
   rw[Vg];exact rN a i (by rw[d];exact V0.1 c)) (λi c=>by
   rw[Vg];exact rN b i (by rw[e];exact V0.1 c))]
 rw[decide_eq_decide.2 (bytes_eq d e)]
theorem FB{b:Bs}(k:b.size=33)(e:Bool)(w:Ur):(Instr.checkKey e 10000 103 (.agg (aA b).toArray)).run prog w=.ok () w:=by
 rw[dF k];kernel_rfl
def at?(b:Bs):List Bs->Nat->Option Nat
 | [],_=>none
 | k :: r,i=>if b=k then some i else at? b r (i+1)
def ents:List Bs->Nat->List MapEntry
 | [],_=>[]
 | k :: r,i=>{ key:=.agg (aA k).toArray,val:=iZ i,born:=i } :: ents r (i+1)
theorem Cv{b:Bs}(c:b.size=33)(w:Ur):∀(D:List Bs) (i:Nat),(∀k∈D,k.size=33)->(yAS 103 (.agg (aA b).toArray) (ents D i) i).run prog w=.ok ((at? b D i).map λj=>(j,iZ j)) w
 | [],i,_=>rfl
 | k :: r,i,h=>by
  have e:=Cv c w r (i+1) (λx hx=>h x (Vb _ hx));have f:=Sr c (h k Vu) w;unfold ents yAS at?;simp only[UV,f,Vm];by_cases d:b=k
  ·simp only[d,decide_true,if_true,Wr,Yv]
  ·simp only[d,decide_false,Bool.false_eq_true,if_false,e]
theorem E0{b:Bs}(e:b.size=33)(D:List Bs)(h:∀k∈D,k.size=33)(w:Ur):(yBv 103 (.agg (aA b).toArray) (ents D 0)).run prog w=.ok ((at? b D 0).map λj=>(j,iZ j)) w:=by
 have c:=XY Nq w;unfold yBv;rw[UV,c,Vm];cases D with
 | nil=>rfl
 | cons k r =>
  have d:Instr.findNow (.array 33 5) (.agg (aA b).toArray) (ents (k :: r) 0) 0=none:=rfl;simp only[d];exact Cv e w (k :: r) 0 h
theorem at?_none{b:Bs}:∀ {D:List Bs}{i:Nat},at? b D i=none↔b ∉ D
 | [],i=>by simp[at?]
 | k :: r,i=>by
  unfold at?;by_cases h:b=k
  ·simp[h]
  ·simp[h,at?_none (D:=r) (i:=i+1)]
end
section
section
variable {P:VD}{ops:Array Vk}{rest:List Vk}{op:Vk}{a:Act}{w w':Ur}{v u:Ut}{Q:Yo->Act->Ur->Prop}
theorem aF(k:op.guard=none)(T:U8)(x:XG)(ho:op.op=.box T x)(hx:a.eval x=u)(c:(Ve T u).run P w=.ok v w')(h:wpList P ops Q rest (a.put op.dst v) w'):wpList P ops Q (op :: rest) a w:=
 Xg k λK b=>by
  unfold VT U5;simp only[ho,hx,UV,c,Vm,Wr];exact b _ _ h
end
variable {N:Nat}
theorem cV:(prog.info? 103).map (·.size)=some 33:=kR
theorem uCP:(prog.underlying 103).map (·.isRow)=some true:=kR
theorem rM{a:Bs}(k:a.size=33)(w:Ur):(Ve 103 (.agg (aA a).toArray)).run prog w=.ok (jZ w.heap.size) (w.alloc (.cells (aA a).toArray 103)):=by
 rw[dF k];kernel_rfl
theorem QM(k:Nat)(w:Ur):(Xn 103 (jZ k) none none none).run prog w=.ok (sZ k 33 33) w:=kR
theorem row_holds{W:Ur}{k:Nat}{a:Bs}(h:Row W k (aA a)):Holds encB W k 0 a:=cb_holds h.2.1 h.2.2
theorem wO{W:Ur}{k:Nat}{a:Bs}(b:a.size=33)(h:Row W k (aA a)):PartOk W (sZ k 33 33) a.toList:=
 ⟨_,k,0,33,a,by rw[b],rfl,oM,oM,UX ⟨rfl,row_holds h⟩⟩
theorem OG{W:Ur}{r:Nat}{L:Bs}(h:Holds encB W r 0 L):Holds SP.encB W r 0 L:=h
theorem OE{W:Ur}{r:Nat}{L:Bs}(h:Holds SP.encB W r 0 L):Holds encB W r 0 L:=h
end
section
variable {P:Nat}[NeZero P]{N:Nat}
theorem FU(g k:Nat)(w:Ur):(Instr.arrayAt 103 (sZ g 33 k)).run prog w=.ok (jZ g) w:=kR
theorem pW{W:Ur}{k:Nat}{a:Bs}(b:Holds encB W k 0 a)(c:k<W.heap.size):Row W k (aA a):=⟨c,(rL b).1,(rL b).2⟩
theorem bW(a:Bs):(aA a).toArray.all (·.oneCell')=true:=by
 rw[WX];intro v hv;obtain⟨x,-,rfl⟩:=Vn.1 (X6.1 hv);rfl
def pvl(a:Bs):Ut:=.agg (aA a).toArray
theorem NP(C:Fld P):Gives 63 #[] (pvl (wr (gG P))):=by
 intro w;obtain⟨T,s⟩:∃T,Hid (wr (gG P)=T):=⟨_,rfl⟩
 have u:T.size=33:=by rw[<-s.out];exact aT _
 rw[s.out];obtain⟨f,c⟩:∃f,Hid (w.alloc (.cells z33.toArray 103)=f):=⟨_,rfl⟩
 have q:Hid (Row f w.heap.size z33/\kZ w f):=by rw[<-c.out];exact⟨aE w _ _,aC w _⟩
 obtain⟨d,m,l⟩:=Uy.1 uCP;have y:Hid (prog.underlying 103=some d/\d.isRow=true):=⟨m,l⟩
 clear m l;go_enter func63,ntmps63;go_wp2_with (refine bG (v:=jZ w.heap.size) (w':=f) rfl (.alloc 103) rfl ?_ ?_;(rw[<-c.out];kernel_rfl))
 refine(Qp C f).mono ?_;rintro e j ⟨E,rfl,b,g,B,rfl,-,D,z,t⟩;rw[s.out]at t;have p:Hid (Row j w.heap.size z33/\kZ w j/\Row j g (aA T)):=⟨q.1.below b,q.2.trans (b.mono q.2.size),pW t z⟩
 clear b D z t q c;have a:=FU g B;obtain⟨r,i⟩:∃r,Hid (j.setCells w.heap.size 0 (aA T)=r):=⟨_,rfl⟩
 have k:(aA T).length=33:=aB u;have A:Hid (Row r w.heap.size (aA T)/\kZ w r):=by rw[<-i.out];exact⟨p.1.put (by rw[k];rfl),RG.below_setCells (Uw _) _ _ _ p.2.1⟩
 obtain⟨x,n⟩:∃x,Hid (U3 (aA T).toArray=x):=⟨_,rfl⟩
 have o:Hid ((prog.info? 103).map (·.size)=some (aA T).length/\j.there w.heap.size 0 (aA T).toArray.size/\(prog.info? 103).map (·.size)=some (aA T).toArray.size):=by
  have e:(aA T).toArray.size=33:=by rw[VC];exact k
  refine⟨by rw[k];exact cV,by rw[e];exact p.1.2.2,by rw[e];exact cV⟩
 clear k;go_wp2_with (first|(refine U6 rfl 103 _ rfl g 0 ?_ (aA T) d ?_ ?_ ?_ ?_ ?_;rfl;exact p.2.2.2.1;exact y.1;exact y.2;exact o.1;rw[n.out])|(refine U2 rfl 103 _ _ rfl w.heap.size 0 (aA T).toArray ?_ ?_ ?_ ?_ ?_ ?_;rfl;exact n.symm;exact o.2.1;exact o.2.2;exact bW T;rw[show(aA T).toArray.toList=aA T from rfl,i.out]))
 refine UE (aG 0 103 rfl A.1 rfl uCP o.1) rfl ?_;exact⟨_,rfl,A.2,rfl⟩
end
section
section
variable {P:VD}{ops:Array Vk}{rest:List Vk}{op:Vk}{a:Act}{w w':Ur}{v:Ut}{Q:Yo->Act->Ur->Prop}
theorem lJ(b:op.guard=none)(T:U8)(k:Array (Nat × XG))(ho:op.op=.build T k)(vs:Array (Nat × Ut))(hx:(k.map λ(i,x)=>(i,a.eval x))=vs)(d:(Zg T vs).run P w=.ok v w')(h:wpList P ops Q rest (a.put op.dst v) w'):wpList P ops Q (op :: rest) a w:=
 Xg b λK c=>by
  unfold VT U5;simp only[ho,hx,UV,d,Vm,Wr];exact c _ _ h
theorem jC(b:op.guard=none)(T:U8)(n:Nat)(k:Array (Nat × XG))(ho:op.op=.buildSlice T n k)(vs:Array (Nat × Ut))(hx:(k.map λ(i,x)=>(i,a.eval x))=vs)(d:(Vy T n vs).run P w=.ok v w')(h:wpList P ops Q rest (a.put op.dst v) w'):wpList P ops Q (op :: rest) a w:=
 Xg b λK c=>by
  unfold VT U5;simp only[ho,hx,UV,d,Vm,Wr];exact c _ _ h
end
theorem SR{a:Bs}(k:a.size=33)(n:Nat)(w:Ur):(Zg 226 #[(0,nv n),(1,pvl a)]).run prog w=.ok (.agg (wn n++aA a).toArray) w:=by
 unfold pvl;rw[dF k];kernel_rfl
theorem SH{a:Bs}(k:a.size=33)(n:Nat)(w:Ur):(Vy 131 1 #[(0,.agg (wn n++aA a).toArray)]).run prog w=.ok (sZ w.heap.size 1 1) (w.alloc (.cells (wn n++aA a).toArray 226)):=by
 rw[dF k];kernel_rfl
theorem boxS(n:Nat)(w:Ur):(Ve 49 (nv n)).run prog w=.ok (jZ w.heap.size) (w.alloc (.cells (wn n).toArray 49)):=kR
theorem kU(a:Bs)(p:a.size=33)(n:Nat)(w:Ur):UH prog 64 #[pvl a,nv n] w (rZ w λe w'=>∃k,e=sZ k 1 1/\w.heap.size<=k/\Row w' k (wn n++aA a)):=by
 have E:=Hid.mk' (rM p w);obtain⟨c,g⟩:=hE (w.alloc (.cells (aA a).toArray 103));rw[g.out]at E;have y:c.heap.size=w.heap.size+1:=by rw[<-g.out,UB]
 have r:=Hid.mk' (boxS n c);obtain⟨b,f⟩:=hE (c.alloc (.cells (wn n).toArray 49));rw[f.out,y]at r;have H:b.heap.size=w.heap.size+2:=by rw[<-f.out,UB,y]
 have G:=Hid.mk' (SR p n b);have t:=Hid.mk' (SH p n b);obtain⟨m,l⟩:=hE (b.alloc (.cells (wn n++aA a).toArray 226));rw[l.out,H]at t;have K:Hid (Row b w.heap.size (aA a)/\Row b (w.heap.size+1) (wn n)/\kZ w m/\Row m (w.heap.size+2) (wn n++aA a)):=by
  have s:Row c w.heap.size (aA a):=by rw[<-g.out];exact aE w _ _
  have o:Row b (w.heap.size+1) (wn n):=by rw[<-f.out,<-y];exact aE c _ _
  have j:Row m (w.heap.size+2) (wn n++aA a):=by rw[<-l.out,<-H];exact aE b _ _
  have b1:kZ w c:=by rw[<-g.out];exact aC w _
  have i:kZ c b:=by rw[<-f.out];exact aC c _
  have q:kZ b m:=by rw[<-l.out];exact aC b _
  exact⟨s.below i,o,(b1.trans (i.mono oM)).trans (q.mono oM),j⟩
 have I:Hid ((prog.info? 103).map (·.size)=some (aA a).length):=by show _=_;rw[aB p];exact cV
 obtain⟨d,A,z⟩:=Uy.1 uCP;obtain⟨D,B,s⟩:=Uy.1 u40;have q:Hid ((prog.underlying 103=some d/\d.isRow=true)/\prog.underlying 49=some D/\D.isRow=true):=⟨⟨A,z⟩,B,s⟩
 obtain⟨va,i⟩:=hE (pvl a);obtain⟨x,j⟩:=hE (nv n);obtain⟨F,o⟩:=hE (U3 (wn n++aA a).toArray);have C:Hid ((Ve 103 va).run prog w=.ok (jZ w.heap.size) c):=by rw[<-i.out];exact E
 rw[j.out]at r;rw[i.out,j.out,o.out]at G;rw[o.out]at t;rw[i.out,j.out];go_enter func64,ntmps64;go_wp2_with (first|(refine aF (u:=va) (v:=jZ w.heap.size) (w':=c) rfl 103 (.tmp 0) rfl ?_ ?_ ?_;rfl;exact C.out)|(refine aF (u:=x) (v:=.pointer (some ⟨w.heap.size+1,0,none⟩)) (w':=b) rfl 49 (.tmp 1) rfl ?_ ?_ ?_;rfl;exact r.out)|(refine U6 rfl 49 _ rfl (w.heap.size+1) 0 ?_ (wn n) D ?_ ?_ ?_ ?_ ?_;rfl;exact K.2.1.2.1;exact q.2.1;exact q.2.2;exact i40;rw[show U3 (wn n).toArray=x from j.out])|(refine U6 rfl 103 _ rfl w.heap.size 0 ?_ (aA a) d ?_ ?_ ?_ ?_ ?_;rfl;exact K.1.2.1;exact q.1.1;exact q.1.2;exact I.out;rw[show U3 (aA a).toArray=va from i.out])|(refine lJ (v:=F) (w':=b) rfl 226 _ rfl #[(0,x),(1,va)] ?_ ?_ ?_;kernel_rfl;exact G.out)|(refine jC (v:=.slice (some ⟨w.heap.size+2,0,none⟩) 1 1) (w':=m) rfl 131 1 _ rfl #[(0,F)] ?_ ?_ ?_;kernel_rfl;exact t.out))
 go_ret;exact⟨_,rfl,K.2.2.1,w.heap.size+2,rfl,oM,K.2.2.2⟩
end
section
variable {P:Nat}[NeZero P]{N:Nat}
theorem Ug{a:Bs}(k:a.size=33)(n:Nat)(w:Ur):(Ve 226 (.agg (wn n++aA a).toArray)).run prog w=.ok (jZ w.heap.size) (w.alloc (.cells (wn n++aA a).toArray 226)):=by
 rw[dF k];kernel_rfl
theorem Ui(w:Ur):(Zg 49 #[]).run prog w=.ok (nv 0) w:=kR
def tvl(n:Nat)(a:Bs):Ut:=.agg (wn n++aA a).toArray
theorem kA{W:Ur}{k:Nat}{xs ys:List Ut}(h:W.rangeAt k 0 (xs++ys)):W.rangeAt k 0 xs:=λj v b=>h j v (by rw[UT (UF.1 b).1];exact b)
theorem lT{W:Ur}{k:Nat}{xs ys:List Ut}(h:W.rangeAt k 0 (xs++ys)):W.rangeAt k xs.length ys:=λj v b=>by
 have:=h (xs.length+j) v (by rw[U1 (Y8 _ _),Nat.add_sub_cancel_left];exact b);rwa[UD]at this
theorem I1{n:Nat}(x:n<top){a:Bs}(q:a.size=33):Gives 205 #[tvl n a] (.bool (decide (n=0))):=by
 intro w;have f:=Hid.mk' (Ug q n w);obtain⟨k,d⟩:=hE (w.alloc (.cells (wn n++aA a).toArray 226));rw[d.out]at f;have K:Hid (Row k w.heap.size (wn n++aA a)/\kZ w k):=by rw[<-d.out];exact⟨aE w _ _,aC w _⟩
 obtain⟨s,i,l⟩:=Uy.1 u40;have p:=mk2 i l;obtain⟨va,e⟩:=hE (tvl n a);obtain⟨o,b⟩:=hE (nv n);obtain⟨v0,c⟩:=hE (nv 0);have j:Hid ((Ve 226 va).run prog w=.ok (jZ w.heap.size) k):=by rw[<-e.out];exact f
 have t:Hid ((Zg 49 #[]).run prog k=.ok v0 k):=by rw[<-c.out];exact Ui k
 have g:=Hid.mk' (eqS x (show 0<top by unfold top;omega) k);rw[b.out,c.out]at g;have r:=g.out;obtain⟨z,m⟩:=hE (decide (n=0));rw[m.out]at r;have y:(eqGuard .eql 49 (.tmp 4) (.tmp 5) o v0).run prog k=.ok () k:=by rw[<-b.out,<-c.out];kernel_rfl
 rw[e.out,m.out];clear f g;go_enter func205,ntmps205;go_wp2_with (first|(refine aF (u:=va) (v:=jZ w.heap.size) (w':=k) rfl 226 (.tmp 0) rfl ?_ ?_ ?_;rfl;exact j.out)|(refine U6 rfl 49 _ rfl w.heap.size 0 ?_ (wn n) s ?_ ?_ ?_ ?_ ?_;rfl;exact kA K.1.2.1;exact p.1;exact p.2;exact i40;rw[show U3 (wn n).toArray=o from b.out])|(refine lJ (v:=v0) (w':=k) rfl 49 _ rfl #[] ?_ ?_ ?_;kernel_rfl;exact t.out))
 go_wp2;go_ret;exact⟨_,rfl,K.2,rfl⟩
theorem uT:(prog.underlying 226).map (·.isRow)=some true:=kR
theorem iT:(prog.info? 226).map (·.size)=some 37:=kR
theorem atT(k o n c i:Nat)(b:i<n)(w:Ur):(Vl 131 (.slice (some ⟨k,o,none⟩) n c) (iZ i)).run prog w=.ok (.pointer (some ⟨k,o+37*i,none⟩)) w:=by
 go_simp
def kL(ns:Nat->Nat):Nat->Nat->Int
 | _,0=>-1
 | i,m+1=>if ns i=0 then(i:Int) else kL ns (i+1) m
def Oh(b:Bool):List It:=[.x 9 [] (.bool b)]
def Og(g k c i n:Nat)(a:Bs)(z:Bool):List It:=[.x 11 [] (.func (.func 205) #[] #[]),.x 12 [] (sZ g k c),.x 13 [] (iZ i),.x 14 [(12,1),(13,2)] (.pointer (some ⟨g,(0+37*i),none⟩)),.x 15 [(14,3)] (tvl n a),.c 16 [(11,0),(15,4)] (.bool z)]
theorem E8(g k c:Nat)(X:k<=1000000)(ns:Nat->Nat)(K:Nat->Bs)(P:∀j,j<k->ns j<top)(O:∀j,j<k->(K j).size=33)(w:Ur)(N:g<w.heap.size)(T:∀j,j<k->w.rangeAt g (37*j) (wn (ns j)++aA (K j))):
 UH prog 230 #[sZ g k c,.func (.func 205) #[] #[]] w (rZ w λe w'=>e=iZ (kL ns 0 k)):=by
 obtain⟨R,hR⟩:∃R,kL ns 0 k=R:=⟨_,rfl⟩
 rw[hR];go_enter func230,ntmps230;refine RG.M.enter [(0,.v (sZ g k c)),(1,.v (.func (.func 205) #[] #[]))] 19 kR ?_;intro a0 Q;repeat refine Uz ?_
 refine Q.U [.x (iZ 0)] [0,1] ⟨st,yCl⟩ ?_;intro W w1 S;repeat refine Uz ?_
 refine S.U [.x (sZ g k c),.x (iZ k),.x (iZ 0)] [0,1,7,8] ⟨st,st,st,yCl⟩ ?_;intro a2 Z U;repeat refine Uz ?_
 refine XH ?_;refine Ze (λm a wr=>∃i:Nat,i+m=k/\kL ns i m=R/\RG.M w w.heap.size [] 19 [] [] [(0,.v (sZ g k c)),(1,.v (.func (.func 205) #[] #[])),(7,.v (iZ k)),(8,.v (iZ i))] a wr) k ⟨0,oM,hR,U⟩ ?_;intro L a wr;rintro⟨i,V,hf,u⟩;by_cases r:i<k
 ·obtain⟨n,x⟩:∃n,ns i=n:=⟨_,rfl⟩
  obtain⟨b,I⟩:∃b,K i=b:=⟨_,rfl⟩
  have y:=P i r;have s:=O i r;have t:=T i r;rw[x]at y t;rw[I]at s t;have q:w.rangeAt g (0+37*i) (wn n++aA b):=by rw[UD];exact t
  have p:(prog.info? 226).map (·.size)=some (wn n++aA b).length:=by rw[UA,aB s];exact iT
  have z:=I1 y s;obtain⟨B,rfl⟩:∃B,L=B+1:=⟨L-1,oM⟩
  unfold kL at hf;rw[x]at hf;repeat refine Uz ?_
  refine u.u (Oh true) [(0,.v (sZ g k c)),(1,.v (.func (.func 205) #[] #[])),(7,.v (iZ k)),(8,.v (iZ i)),(9,.v (.bool true))] ⟨aQ rfl .lss 3 3 8 7 (iZ i) (iZ k) (.bool true) rfl rfl sx sx (λw=>kR) (gA r),yCl⟩ ?_;intro D E o;repeat refine Uz ?_
  refine VE o.ev ?_;refine WS ?_;refine Uz ?_;refine XH ?_;repeat refine Uz ?_
  refine o.U [.x (iZ i),.x (iZ i)] [0,1,7,8,5] ⟨st,st,yCl⟩ ?_;intro F C d;repeat refine Uz ?_
  by_cases A:n=0
  ·rw[decide_eq_true A]at z;rw[yCj A]at hf;refine d.u (Og g k c i n b true) [(0,.v (sZ g k c)),(1,.v (.func (.func 205) #[] #[])),(7,.v (iZ k)),(8,.v (iZ i)),(5,.v (iZ i)),(16,.v (.bool true))] ⟨st,st,st,bD rfl 131 12 13 rfl (.v (sZ g k c)) (iZ i) sx sx (λμ w=>atT _ 0 _ _ i r w),eH rfl g (0+37*i) N UY 226 14 rfl (wn n++aA b) rfl sx q uT p,clB (λ_ _=>kR) (λw' _=>z w'),yCl⟩ ?_;intro H M l;repeat refine Uz ?_
   refine VE l.ev ?_;repeat refine Uz ?_
   refine l.U [.x (iZ i),.x (iZ i)] [4] ⟨st,st,yCl⟩ ?_;intro G J f;refine Wp ?_;refine UE (v:=iZ i) (jA 4 rfl (iZ i) f.av) f.sl.defers ?_;exact⟨_,rfl,f.st.bel.below,by rw[hf]⟩
  ·rw[decide_eq_false A]at z;rw[yCk A]at hf;refine d.u (Og g k c i n b false) [(0,.v (sZ g k c)),(1,.v (.func (.func 205) #[] #[])),(7,.v (iZ k)),(8,.v (iZ i)),(16,.v (.bool false))] ⟨st,st,st,bD rfl 131 12 13 rfl (.v (sZ g k c)) (iZ i) sx sx (λμ w=>atT _ 0 _ _ i r w),eH rfl g (0+37*i) N UY 226 14 rfl (wn n++aA b) rfl sx q uT p,clB (λ_ _=>kR) (λw' _=>z w'),yCl⟩ ?_;intro H M l;repeat refine Uz ?_
   refine VI l.ev ?_;refine WS ?_;repeat refine Uz ?_
   refine l.U [.x (iZ ((i+1:Nat):Int)),.x (iZ ((i+1:Nat):Int))] [0,1,7,8] ⟨aP rfl .add 3 3 8 (iZ i) (iZ 1) (iZ ((i+1:Nat):Int)) rfl rfl sx (λw=>kR) (uQ i 1 oM oM),st,yCl⟩ ?_;intro G J f;show ∃Y,_;exact⟨B,oM,i+1,oM,hf,f⟩
 ·have f:L=0:=oM;rw[f]at hf;unfold kL at hf;repeat refine Uz ?_
  refine u.u (Oh false) [(9,.v (.bool false))] ⟨aQ rfl .lss 3 3 8 7 (iZ i) (iZ k) (.bool false) rfl rfl sx sx (λw=>kR) (nH r),yCl⟩ ?_;intro D E o;repeat refine Uz ?_
  refine VI o.ev ?_;refine wp_exit ?_;dsimp only[Exit.then,Yu];rw[yCj rfl];repeat refine Uz ?_
  refine o.U [.x (iZ (-1))] [4] ⟨st,yCl⟩ ?_;intro F C d;refine Wp ?_;refine UE (v:=iZ (-1)) (jA 4 rfl (iZ (-1)) d.av) d.sl.defers ?_;exact⟨_,rfl,d.st.bel.below,by rw[<-hf]⟩
theorem uE{ns:Nat->Nat}:∀(m i:Nat),(∀j,i<=j->j<i+m->ns j≠0)->kL ns i m = -1
 | 0,_,_=>rfl
 | m+1,i,h=>by
  unfold kL;rw[yCk (h i (Uw _) oM)];exact uE m (i+1) (λj b k=>h j oM oM)
theorem Cw(g k c:Nat)(p:k<=1000000)(ns:Nat->Nat)(i:Nat->Bs)(r:∀j,j<k->ns j<top)(f:∀j,j<k->ns j≠0)(o:∀j,j<k->(i j).size=33)(w:Ur)(l:g<w.heap.size)(u:∀j,j<k->w.rangeAt g (37*j) (wn (ns j)++aA (i j))):
 UH prog 204 #[sZ g k c,.func (.func 205) #[] #[]] w (rZ w λe w'=>e=(sZ g k c)):=by
 have q:∀w',BelX w.heap.size [] w w'->UH prog 230 #[sZ g k c,.func (.func 205) #[] #[]] w' (Ret λe d=>kZ w' d/\e=iZ (-1)):=λw' n=>by
  have h:=E8 g k c p ns i r o w' (Ux l n.below.size) (λj b=>RG.range_below (u j b) n.below l);rw[uE k 0 (λj _ m=>f j oM)]at h;exact h
 go_enter func204,ntmps204;refine RG.M.enter [(0,.v (sZ g k c)),(1,.v (.func (.func 205) #[] #[]))] 42 kR ?_;intro a0 s;repeat refine Uz ?_
 refine s.U [.x (.slice none 0 0)] [0,1] ⟨st,yCl⟩ ?_;intro y C t;repeat refine Uz ?_
 refine t.U [.x (sZ g k c),.x (.func (.func 205) #[] #[]),.c (iZ (-1)),.x (iZ (-1))] [0,5] ⟨st,st,clB (λ_ _=>kR) q,st,yCl⟩ ?_;intro a2 B x;repeat refine Uz ?_
 refine x.U [.x (iZ (-1)),.x (.bool true)] [0,12] ⟨st,st,yCl⟩ ?_;intro a A m;repeat refine Uz ?_
 refine VE m.ev ?_;repeat refine Uz ?_
 refine m.U [.x (sZ g k c),.x (sZ g k c)] [4] ⟨st,st,yCl⟩ ?_;intro z D b;refine Wp ?_;refine UE (v:=(sZ g k c)) (jA 4 rfl _ b.av) b.sl.defers ?_;exact⟨_,rfl,b.st.bel.below,rfl⟩
theorem Qy:prog.underlying 278=some (.map 103 3):=kR
theorem zero3(w:Ur):(zeroValue 3).run prog w=.ok (iZ 0) w:=kR
theorem Af(b:Bs):∀(D:List Bs) (i:Nat),ents (D++[b]) i=ents D i++[{ key:=.agg (aA b).toArray,val:=iZ ((i+D.length:Nat):Int),born:=i+D.length }]
 | [],i=>rfl
 | k :: r,i=>by
  rw[Xa];unfold ents;rw[Af b r (i+1),Vj,show i+1+r.length=i+(r.length+1) by omega];rfl
theorem Cj{b:Bs}(d:b.size=33)(D:List Bs)(o:∀k∈D,k.size=33)(m c:Nat)(w:Ur)(l:w.heap[m]? = some (.map (ents D 0).toArray c)):
 (yAh 278 (.map (some m)) (.agg (aA b).toArray) true).run prog w=.ok (.tuple #[iZ (((at? b D 0).getD 0:Nat):Int),.bool (at? b D 0).isSome]) w:=by
 have n:=XY Qy w;have i:=λe=>FB d e w
 have f:=E0 d D o w;have g:(getObj m).run prog w=.ok (.map (ents D 0).toArray c) w:=by
  simp[getObj,yBO,l]
 unfold yAh;simp only[UV,n,Vm,g,Wr,i,f];cases h:at? b D 0 with
 | none=>simp[UV,zero3]
 | some j=>simp
theorem Ld{b:Bs}(f:b.size=33)(D:List Bs)(n:∀k∈D,k.size=33)(m:Nat)(w:Ur)(d:w.heap[m]? = some (.map (ents D 0).toArray D.length))(i:at? b D 0=none):
 (Y2 278 (.map (some m)) (.agg (aA b).toArray) (iZ (D.length:Int))).run prog w=.ok () (w.putObj m (.map (ents (D++[b]) 0).toArray (D.length+1))):=by
 have l:=XY Qy w;have j:=λe=>FB f e w
 have c:=E0 f D n w;rw[i]at c;have g:(getObj m).run prog w=.ok (.map (ents D 0).toArray D.length) w:=by
  simp[getObj,yBO,d]
 unfold Y2;simp only[UV,l,Vm,g,Wr,j,c];rw[Af,UD];simp[setObj,yBO,d,yAe]
theorem C4:prog.underlying 131=some (.slice 226):=kR
theorem RO:(prog.info? 226).map (λi=>(i.size,i.bytes,i.zero.map λz=>z.cells.size))=some (37,72,some 37):=kR
theorem cells_one(n:Nat)(a:Bs):∀u∈wn n++aA a,u.oneCell'=true:=by
 intro u k;rcases Wz.1 k with h|h
 ·unfold wn at h;simp only[VX,UY,or_false]at h;rcases h with rfl|rfl|rfl|rfl<;>rfl
 ·obtain⟨x,-,rfl⟩:=Vn.1 h;rfl
theorem Kb{b k g n:Nat}{v:Ut}{xs:List Ut}{a:Bs}(p:a.size=33){W:Ur}(c:W.ownsRow b 226 37 v k xs)(hR:Row W g (wn n++aA a))(B:k<=1000000)(y:b<=W.heap.size):
 ∃d W',(Vt #[131,131] 131 #[v,sZ g 1 1]).run prog W=.ok d W'/\W'.ownsRow b 226 37 d (k+1) (xs++(wn n++aA a))/\W.grownBy W' v.ownBlock:=by
 obtain⟨i,t,f⟩:=Uy.1 RO;simp only[V6.injEq]at f;obtain⟨x,w,m⟩:=f;obtain⟨z,l,e⟩:=Uy.1 m;obtain⟨d,W',s,o,r,-⟩:=Y1 (P:=prog) W b 131 131 226 i z 37 72 C4 t l x w e dC v k xs c (aZ g) 1 1 (wn n++aA a) (by rw[UA,aB p];rfl)
  (λj u q=>by
   have:=hR.2.1 j u q;rw[UD]at this;rw[show(⟨g,0,none⟩:Wu).add j=⟨g,j,none⟩ by unfold Zi;split<;>simp_all];exact this) (cells_one n a) (by unfold maxLen;omega) oM y
 exact⟨d,W',s,o,r⟩
def fA(N:Nat):List (Nat × Bs)->Nat->Bs->List (Nat × Bs)
 | [],n,p=>[(n,p)]
 | (s,q) :: r,n,p=>if p=q then(sPl N s n,q) :: r else(s,q) :: fA N r n p
def mrg(N:Nat)(ns:Nat->Nat)(k:Nat->Bs):Nat->List (Nat × Bs)
 | 0=>[]
 | i+1=>fA N (mrg N ns k i) (ns i) (k i)
def aU(l:List (Nat × Bs)):List Ut:=l.flatMap λx=>wn x.1++aA x.2
theorem CP{N n:Nat}{p:Bs}:∀ {l:List (Nat × Bs)},at? p (l.map (·.2)) 0=none->fA N l n p=l++[(n,p)]
 | [],_=>rfl
 | (s,q) :: r,h=>by
  have k:=at?_none.1 h;rw[XV,VX,not_or]at k;unfold fA;rw[yCk k.1,CP (l:=r) (at?_none.2 k.2)];rfl
theorem CG(l:List (Nat × Bs))(n:Nat)(p:Bs):aU (l++[(n,p)])=aU l++(wn n++aA p):=by
 unfold aU;rw[Zq];simp
structure Mx(w W:Ur)(m:Nat)(l:List (Nat × Bs))(v:Ut):Prop where
 bl:kZ w W
 mp:W.heap[m]? = some (.map (ents (l.map (·.2)) 0).toArray l.length)
 lm:w.heap.size<=m
 ow:W.ownsRow w.heap.size 226 37 v l.length (aU l)
theorem Mx.own_ne{w W:Ur}{m:Nat}{l:List (Nat × Bs)}{v:Ut}(h:Mx w W m l v){g:Nat}(b:v.ownBlock=some g):g≠m/\w.heap.size<=g/\g<W.heap.size:=by
 rcases h.ow.2 with⟨rfl,-⟩|⟨d,cap,cur,rfl,c,k,-⟩
 ·cases b
 ·obtain rfl:d=g:=by simpa[Value.ownBlock]using b
  refine⟨λe=>?_,c,(UZ.1 k).1⟩;have:=h.mp;rw[<-e,k]at this;cases this
theorem sJ{W W':Ur}{b k:Nat}{e:U8}{s:Nat}{v:Ut}{xs:List Ut}(h:W.ownsRow b e s v k xs)(i:∀g,v.ownBlock=some g->W'.heap[g]? = W.heap[g]?):W'.ownsRow b e s v k xs:=by
 refine⟨h.1,?_⟩;rcases h.2 with c|⟨g,cap,cur,rfl,f,c,d⟩
 ·exact U4 c
 ·exact UX ⟨g,cap,cur,rfl,f,by rw[i g rfl];exact c,d⟩
theorem Mx.kept{w W W':Ur}{m:Nat}{l:List (Nat × Bs)}{v:Ut}(h:Mx w W m l v)(k:kZ W W'):Mx w W' m l v:=
 ⟨h.bl.trans (k.mono h.bl.size),by rw[k.block m (UZ.1 h.mp).1];exact h.mp,h.lm,sJ h.ow λg b=>k.block g (h.own_ne b).2.2⟩
theorem JD(l:List (Nat × Bs))(n:Nat)(p:Bs):(l++[(n,p)]).map (·.2)=l.map (·.2)++[p]:=by simp
theorem Mx.push{w W:Ur}{m:Nat}{l:List (Nat × Bs)}{v:Ut}(h:Mx w W m l v){p:Bs}(C:p.size=33)(A:l.length<=1000000)(n:Nat):
 ∃q b,(Vt #[131,131] 131 #[v,sZ W.heap.size 1 1]).run prog ((W.putObj m (.map (ents (l.map (·.2)++[p]) 0).toArray (l.length+1))).alloc (.cells (wn n++aA p).toArray 226))=.ok q b/\Mx w b m (l++[(n,p)]) q/\W.heap.size<b.heap.size/\∀j,j<W.heap.size->w.heap.size<=j->j≠m->some j≠v.ownBlock->b.heap[j]? = W.heap[j]?:=by
 obtain⟨c,d⟩:∃c,W.putObj m (.map (ents (l.map (·.2)++[p]) 0).toArray (l.length+1))=c:=⟨_,rfl⟩
 have s3:c.heap.size=W.heap.size:=by rw[<-d];simp[yAe]
 have t:=(UZ.1 h.mp).1;have z:∀j,j≠m->c.heap[j]? = W.heap[j]?:=λj s=>by rw[<-d];exact World.putObj_heap_other s
 have o:=h.bl.trans ⟨by rw[<-d];rfl,by rw[<-d];rfl,by rw[<-d];rfl,oM,λj s=>z j (by have:=h.lm;omega)⟩;have D:=sJ h.ow λg x=>z g (h.own_ne x).1
 have E:c.heap[m]? = some (.map (ents (l.map (·.2)++[p]) 0).toArray (l.length+1)):=by rw[<-d];exact World.putObj_heap_same t
 rw[d];have R4:=aE c (wn n++aA p) 226;have i:=aC c (.cells (wn n++aA p).toArray 226);have s4:(c.alloc (.cells (wn n++aA p).toArray 226)).heap.size=W.heap.size+1:=by rw[UB,s3]
 have F:=sJ D λg x=>i.block g (by have:=(h.own_ne x).2.2;omega)
 rw[s3]at R4;obtain⟨q,b,B,a,f⟩:=Kb C F R4 A (by have:=o.size;omega);have y:some m≠v.ownBlock:=λe=>(h.own_ne e.symm).1 rfl
 refine⟨q,b,B,⟨?_,?_,h.lm,?_⟩,by have:=f.size;omega,λj s _ r u=>?_⟩
 ·exact(o.trans (i.mono o.size)).grown f (by have:=o.size;omega) (λk e=>(h.own_ne e).2.1)
 ·rw[f.block m oM y,i.block m oM,E,JD,UA];rfl
 ·rw[CG,UA];exact a
 ·rw[f.block j oM u,i.block j oM,z j r]
end
section
variable {N:Nat}
section
variable {P:VD}{ops:Array Vk}{rest:List Vk}{op:Vk}{a:Act}{w w':Ur}{v x y z:Ut}{Q:Yo->Act->Ur->Prop}
theorem zA(b:op.guard=none)(T:U8)(m k:XG)(ok:Bool)(ho:op.op=.lookup T m k ok)(d:a.eval m=x)(f:a.eval k=y)(e:(yAh T x y ok).run P w=.ok v w')(h:wpList P ops Q rest (a.put op.dst v) w'):wpList P ops Q (op :: rest) a w:=
 Xg b λK c=>by
  unfold VT U5;simp only[ho,d,f,UV,e,Vm,Wr];exact c _ _ h
theorem Gi(b:op.guard=none)(T:U8)(m k u:XG)(ho:op.op=.mapUpdate T m k u)(e:a.eval m=x)(g:a.eval k=y)(c:a.eval u=z)(f:(Y2 T x y z).run P w=.ok () w')(h:wpList P ops Q rest (a.put op.dst WP) w'):wpList P ops Q (op :: rest) a w:=
 Xg b λK d=>by
  unfold VT U5;simp only[ho,e,g,c,UV,f,Vm,Wr];exact d _ _ h
theorem lK(k:op.guard=none)(s u:XG)(t:U8)(ho:op.op=.call { callee:=.builtin .append,args:=#[s,u],argTypes:=#[t,t] })(d:a.eval s=x)(b:a.eval u=y)(e:(Vt #[t,t] op.type #[x,y]).run P w=.ok v w')(h:wpList P ops Q rest (a.put op.dst v) w'):wpList P ops Q (op :: rest) a w:=
 Xg k λK c=>by
  unfold VT U5;simp only[ho,resolve,invoke,builtin,UV,Wr,Vm,yA1,XV,yBD,d,b,e];exact c _ _ h
end
def zT:List Ut:=[uZ 0,uZ 0,uZ 0,uZ 0]++z33
theorem GA{W:Ur}{b k:Nat}{e:U8}{s:Nat}{v:Ut}{xs:List Ut}(h:W.ownsRow b e s v k xs):∃q cap,v=.slice q k cap:=by
 rcases h.2 with⟨rfl,rfl⟩|⟨g,cap,cur,rfl,-⟩
 ·exact⟨none,0,rfl⟩
 ·exact⟨some (aZ g),cap,rfl⟩
theorem AV(ns:Nat->Nat)(k:Nat->Bs):∀i,(mrg N ns k i).length<=i
 | 0=>Uw _
 | i+1=>by
  have b:=AV ns k i;have h:∀(l:List (Nat × Bs)) n p,(fA N l n p).length<=l.length+1:=by
   intro l n p;induction l with
   | nil=>exact Uw _
   | cons x r ihr =>
    unfold fA;split
    ·simp
    ·simp only[Vj];omega
  exact UC (h _ _ _) oM
theorem xF(ns:Nat->Nat)(b:Nat->Bs){k:Nat}(d:∀j,j<k->(b j).size=33):∀i,i<=k->∀x∈(mrg N ns b i).map (·.2),x.size=33
 | 0,_=>λx hx=>by cases hx
 | i+1,hi=>by
  have f:=xF ns b d i oM;have h:∀(l:List (Nat × Bs)) n p,p.size=33->(∀x∈l.map (·.2),x.size=33)->∀x∈(fA N l n p).map (·.2),x.size=33:=by
   intro l n p g;induction l with
   | nil=>intro _ x hx;simp[fA]at hx;rw[hx];exact g
   | cons y r ihr =>
    intro c x hx;unfold fA at hx;split at hx
    ·exact c x (by simpa using hx)
    ·rw[XV,VX]at hx;rcases hx with hx|hx
     ·exact c x (by rw[hx];simp)
     ·exact ihr (λz e=>c z (Vb _ e)) x hx
  exact h _ _ _ (d i oM) f
theorem lD:∀(l:List (Nat × Bs)),(∀x∈l.map (·.2),x.size=33)->∀(j:Nat) (k:j<l.length) (t:Nat),t<37->(aU l)[37*j+t]? = (wn (l[j]).1++aA (l[j]).2)[t]?
 | [],_,j,k,_,_=>by cases k
 | x :: r,hs,j,k,t,ht=>by
  have hx:(wn x.1++aA x.2).length=37:=by rw[UA,aB (hs x.2 (by simp))];rfl
  have e:aU (x :: r)=(wn x.1++aA x.2)++aU r:=by unfold aU;rw[Zy]
  rw[e];cases j with
  | zero =>
   rw[ZP,UD,UT oM];rfl
  | succ j =>
   rw[U1 oM,hx,show 37*(j+1)+t-37=37*j+t by omega,lD r (λy b=>hs y (Vb _ b)) j (by simpa using k) t ht];rfl
theorem sH{W:Ur}{k:Nat}{v:Ut}{l:List (Nat × Bs)}(h:W.ownsRow k 226 37 v l.length (aU l))(d:∀x∈l.map (·.2),x.size=33)(q:0<l.length):
 ∃g cap,v=sZ g l.length cap/\k<=g/\g<W.heap.size/\∀j (b:j<l.length),W.rangeAt g (37*j) (wn (l[j]).1++aA (l[j]).2):=by
 have n:=h;rcases h.2 with⟨-,i⟩|⟨g,cap,cur,rfl,o,i,p⟩
 ·omega
 ·refine⟨g,cap,rfl,o,(UZ.1 i).1,λj b t u f=>?_⟩;have m:t<37:=by
   have:=(UF.1 f).1;rw[UA,aB (d _ (Vn.2 ⟨_,VH b,rfl⟩))]at this;exact this
  have c:=n.cells (g:=g) rfl (37*j+t) u (by rw[lD l d j b t m];exact f);have e:(⟨g,0,none⟩:Wu).add (37*j+t)=⟨g,37*j+t,none⟩:=by
   unfold Zi;split
   ·rename_i h;rw[h]
   ·simp
  rw[e]at c;exact c
end
section
variable {P:Nat}[NeZero P]{N:Nat}
theorem Oj(w:Ur):(zeroValue 226).run prog w=.ok (.agg zT.toArray) w:=kR
theorem Ol:∀v∈zT,v.oneCell'=true:=by
 intro v hv;unfold zT z33 at hv;rcases Wz.1 hv with h|h
 ·simp only[VX,UY,or_false]at h;rcases h with rfl|rfl|rfl|rfl<;>rfl
 ·rw[(List.mem_replicate.1 h).2];rfl
end
namespace RG
variable {P:VD}{ops:Array Vk}{Q:Yo->Act->Ur->Prop}{w:Ur}{a0:Act}{L:Array Bool}
structure Flow where
 R:Nat->Ut->Ur->Prop
 B:Nat->Ur->Prop
 E:Nat->Ur->Ur->Prop
 kill:Nat->List Nat
 killB:Nat->List Nat
def aX(k:Array Vk)(i:Nat):Option WC:=(k[i]?).bind (·.dst)
def depOn(b:Array Vk)(x k:Nat):Bool:=match b[x]? with|some o=>dB o k|none=>true
def okK(b:Array Vk)(k:Nat)(l:List Nat):Bool:=l.all (λx=>x == k || depOn b x k)
def oY(b:Array Vk)(k:Nat)(t:WC):Bool:=(VG b.size).all (λi=>aX b i != some t || i == k || depOn b i k)
structure InvF(F:Flow)(ops:Array Vk)(a0:Act)(L:Array Bool)(a:Act)(w:Ur):Prop where
 size:L.size=ops.size
 cl:∀(i:Nat) (o:Vk),ops[i]? = some o->on L i=true->∀e∈o.after,VP .any e=true->on L e.on=true
 def':a.defers=a0.defers
 sz:a.tmps.size=a0.tmps.size
 rest:∀t:WC,(∀i,on L i=true->aX ops i≠some t)->a.tmps[t]? = a0.tmps[t]?
 all:∃V:Nat->Ut,(∀i d,on L i=true->aX ops i=some d->a.tmps[d]? = some (V i))/\(∀i,on L i=true->(∀x∈F.kill i,on L x=false)->F.R i (V i) w)
 base:∀b,(∀x∈F.killB b,on L x=false)->F.B b w
def bF(P:VD)(Q:Yo->Act->Ur->Prop)(F:Flow)(c:Array Vk)(a0:Act)(k:Nat)(o:Vk):Prop:=
 ∀(a:Act) (w:Ur) (K:Act->Ur->Prop),
  (∀j d,dB o j=true->okK c k (F.kill j)=true->aX c j=some d->F.R j (a.eval (.tmp d)) w) ->
  (∀t,oY c k t=true->a.eval (.tmp t)=a0.eval (.tmp t)) ->
  (∀b,okK c k (F.killB b)=true->F.B b w) ->
  (∀v w',F.E k w w'->F.R k v w'->K (a.put o.dst v) w')->o.wp P a w K Q
def Aq(P:VD)(Q:Yo->Act->Ur->Prop)(F:Flow)(b:Array Vk)(a0:Act)(k:Nat)(o:Vk):Prop:=
 match o.guard with
 | none=>bF P Q F b a0 k o
 | some (j,want)=>dB o j=true/\(aX b j).isSome=true/\okK b k (F.kill j)=true /\
  (((∀v w,F.R j v w->v=.bool want)/\bF P Q F b a0 k o)\/((∀v w,F.R j v w->v=.bool (!want))/\∀w,F.E k w w/\F.R k WP w))
def Be(k:Array Vk)(n:Nat):Bool:=
 (VG k.size).all (λi=>match k[i]? with
  | some o=>o.after.all (λe=>!VP .any e || e.on<i) && (match o.dst with|none=>true|some d=>decide (d<n) && (VG k.size).all (λj=>j == i || aX k j != some d))
  | none=>false)
structure RegF(P:VD)(Q:Yo->Act->Ur->Prop)(F:Flow)(ops:Array Vk)(a0:Act)(m:Nat):Prop where
 chk:Be ops a0.tmps.size=true
 cert:∀k o,k<m->ops[k]? = some o->Aq P Q F ops a0 k o
 stab:∀i j,i<m->j<m->i≠j->(F.kill j).contains i=false->depOn ops j i=false->∀v w w',F.E i w w'->F.R j v w->F.R j v w'
 stabB:∀i b,i<m->(F.killB b).contains i=false->∀w w',F.E i w w'->F.B b w->F.B b w'
variable {F:Flow}{m:Nat}
theorem RegF.of{k:Nat}{o:Vk}(h:RegF P Q F ops a0 m)(ho:ops[k]? = some o):(∀e∈o.after,VP .any e=true->e.on<k)/\∀d,o.dst=some d->d<a0.tmps.size/\∀j,aX ops j=some d->j=k:=by
 have p:=(UZ.1 ho).1;have g:=Va.1 h.chk k (V0.2 p);rw[ho]at g;simp only[UL]at g;obtain⟨i,b⟩:=g;refine⟨λe l n=>?_,λd hd=>?_⟩
 ·have:=WX.1 i e l;simpa[n]using this
 ·rw[hd]at b;simp only[UL,decide_eq_true_eq]at b;refine⟨b.1,λj c=>?_⟩;have f:j<ops.size:=by
   unfold aX at c;cases hx:ops[j]? with
   | none=>rw[hx]at c;cases c
   | some x=>exact(UZ.1 hx).1
  have:=Va.1 b.2 j (V0.2 f);simpa[c]using this
theorem eX{i:Nat}{o:Vk}(ho:ops[i]? = some o):aX ops i=o.dst:=by unfold aX;rw[ho];rfl
theorem Ba{a:Act}{x k:Nat}{o:Vk}(h:InvF F ops a0 L a w){ho:ops[x]? = some o}(hd:dB o k=true)(hx:on L x=true):on L k=true:=by
 obtain⟨e,c,b⟩:=XO.1 hd;simp only[UL,beq_iff_eq]at b;rw[<-b.2];exact h.cl x o ho hx e c b.1
theorem zV{L:Array Bool}{x:Nat}(h:on L x=true):x<L.size:=by
 rcases Wq x L.size with k|k
 ·exact k
 ·unfold on at h;rw[UI,Array.getElem?_eq_none k]at h;cases h
theorem InvF.nt{k:Nat}{a:Act}(e:on L k=false)(h:InvF F ops a0 L a w)(x:Nat)(hx:(x == k || depOn ops x k)=true):on L x=false:=by
 cases b:on L x with
 | false=>rfl
 | true =>
  rcases Xv _ _ ▸ hx with d|d
  ·rw[show x=k by simpa using d,e]at b;cases b
  ·unfold depOn at d;have f:x<ops.size:=by rw[<-h.size];exact zV b
   have c:=U0 f;rw[c]at d;have:=Ba (ho:=c) h d b;rw[e]at this;cases this
theorem InvF.nx{k:Nat}{o:Vk}{a:Act}{v:Ut}{w':Ur}(R:RegF P Q F ops a0 m)(A:k<m)(G:∀i,on L i=true->i<m)(ho:ops[k]? = some o)(C:on L k=false)(s:∀e∈o.after,VP .any e=true->on L e.on=true)(h:InvF F ops a0 L a w)(hE:F.E k w w')(hR:F.R k v w'):InvF F ops a0 (L.setIfInBounds k true) (a.put o.dst v) w':=by
 obtain⟨D,n⟩:=R.of ho;have J:=(UZ.1 ho).1;have E:k<L.size:=by rw[h.size];exact J
 have r:=eX ho;have y:=λx hx=>h.nt C x hx
 obtain⟨V,H,I⟩:=h.all;have f:∀x,on (L.setIfInBounds k true) x=(on L x || k == x):=λx=>eC E
 refine⟨by rw[VF];exact h.size,λi S p j e N B=>?_,?_,?_,λt M=>?_,⟨λx=>if x=k then v else V x,λi d j hd=>?_,λi j u=>?_⟩,λb B=>?_⟩
 ·rw[f]at j⊢;by_cases c:k=i
  ·subst c;rw[ho]at p;obtain rfl:=UO.inj p;rw[s e N B,X9]
  ·rw[h.cl i S p (by simpa[c]using j) e N B,X9]
 ·rw[<-h.def'];cases o.dst<;>rfl
 ·rw[qS];exact h.sz
 ·have z:o.dst≠some t:=λhd=>M k (by rw[f];simp) (by rw[r];exact hd)
  rw[nW a v z];exact h.rest t λi j=>M i (by rw[f,j,X9])
 ·rw[f]at j;by_cases c:i=k
  ·subst c;rw[r]at hd;rw[hd];show(a.tmps.setIfInBounds d v)[d]? = some (if i=i then v else V i);rw[yCj (rfl:i=i)];rw[WB,yCj rfl,yCj (by rw[h.sz];exact(n d hd).1)]
  ·have l:o.dst≠some d:=λq=>c ((n d q).2 i hd)
   rw[nW a v l];show _=some (if i=k then v else V i);rw[yCk c];have g:¬k=i:=λe=>c e.symm
   exact H i d (by simpa[g]using j) hd
 ·rw[f]at j;by_cases c:i=k
  ·subst c;show F.R i (if i=i then v else V i) w';rw[yCj rfl];exact hR
  ·show F.R i (if i=k then v else V i) w';rw[yCk c];have g:¬k=i:=λe=>c e.symm
   have l:on L i=true:=by simpa[g]using j
   have z:∀x∈F.kill i,on L x=false:=λx hx=>by
    have:=u x hx;rw[f,yAt]at this;exact this.1
   have K:(F.kill i).contains k=false:=by
    cases q:(F.kill i).contains k with
    | false=>rfl
    | true =>
     have:=u k (by simpa using q);rw[f]at this;simp at this
   have O:depOn ops i k=false:=by
    cases q:depOn ops i k with
    | false=>rfl
    | true=>rw[y i (by rw[q,Bool.or_true])]at l;cases l
   exact R.stab k i A (G i l) (YB c) K O _ _ _ hE (I i l z)
 ·have z:∀x∈F.killB b,on L x=false:=λx hx=>by
   have:=B x hx;rw[f,yAt]at this;exact this.1
  have K:(F.killB b).contains k=false:=by
   cases q:(F.killB b).contains k with
   | false=>rfl
   | true =>
    have:=B k (by simpa using q);rw[f]at this;simp at this
  exact R.stabB k b A K _ _ hE (h.base b z)
theorem Ey{k:Nat}{o:Vk}{a:Act}(R:RegF P Q F ops a0 m)(D:k<m)(I:∀i,on L i=true->i<m)(ho:ops[k]? = some o)(A:on L k=false)(r:∀e∈o.after,VP .any e=true->on L e.on=true)(h:InvF F ops a0 L a w):
 wpOp P ops Q k (InvF F ops a0 (L.setIfInBounds k true)) a w:=by
 obtain⟨H,W⟩:=R.of ho;have N:=(UZ.1 ho).1;have h0:k<L.size:=by rw[h.size];exact N
 have Y:=eX ho;have n:=λx hx=>h.nt A x hx
 obtain⟨V,J,M⟩:=h.all;have s:∀j d,dB o j=true->okK ops k (F.kill j)=true->aX ops j=some d->a.tmps[d]? = some (V j)/\F.R j (V j) w:=λj d E q hd=>by
  obtain⟨e,f,y⟩:=XO.1 E;simp only[UL,beq_iff_eq]at y;have c:on L j=true:=by rw[<-y.2];exact r e f y.1
  exact⟨J j d c hd,M j c λx hx=>n x (Va.1 q x hx)⟩
 have l:∀j d,dB o j=true->okK ops k (F.kill j)=true->aX ops j=some d->F.R j (a.eval (.tmp d)) w:=λj d E q hd=>by
  rw[A7 (s j d E q hd).1];exact(s j d E q hd).2
 have p:∀t,oY ops k t=true->a.eval (.tmp t)=a0.eval (.tmp t):=λt hf=>by
  have z:=h.rest t λi c hd=>by
   have f:i<ops.size:=by rw[<-h.size];exact zV c
   have g:=Va.1 hf i (V0.2 f);rw[hd]at g;have u:(i == k || depOn ops i k)=true:=by simpa using g
   rw[n i u]at c;cases c
  show a.tmps.getD t WP=a0.tmps.getD t WP;rw[UI,UI,z]
 have g:∀b,okK ops k (F.killB b)=true->F.B b w:=λb y=>h.base b λx hx=>n x (Va.1 y x hx)
 have f:=λv w' hE hR=>h.nx (v:=v) (w':=w') R D I ho A r hE hR
 have C:=R.cert k o D ho;unfold Aq at C;unfold wpOp;rw[ho];dsimp only;cases G:o.guard with
 | none =>
  rw[G]at C;rw[BA G,yCj rfl];left;exact C a w _ l p g f
 | some jw =>
  obtain⟨j,c⟩:=jw;rw[G]at C;obtain⟨S,O,T,u⟩:=C;obtain⟨d,hd⟩:=Vr.1 O;obtain⟨Z,B⟩:=s j d S T hd;have U:∀b,V j=.bool b->V2 o (yielded ops a.tmps)=(b == c):=λb y=>by
   have K:yielded ops a.tmps j=some b:=by
    unfold aX at hd;unfold yielded;cases z:ops[j]? with
    | none=>rw[z]at hd;cases hd
    | some oj =>
     rw[z]at hd;show(match oj.dst.bind (a.tmps[·]?) with|some (.bool b)=>some b|_=>none)=_;rw[show oj.dst=some d from hd];show(match a.tmps[d]? with|some (.bool b)=>some b|_=>none)=_;rw[Z,y]
   unfold V2;rw[G];show(yielded ops a.tmps j == some c)=_;rw[K];cases b<;>cases c<;>rfl
  rcases u with⟨K,X⟩|⟨K,z⟩
  ·rw[U _ (K _ _ B),show(c == c)=true by cases c<;>rfl,yCj rfl];left;exact X a w _ l p g f
  ·rw[U _ (K _ _ B),show((!c) == c)=false by cases c<;>rfl];exact f WP w (z w).1 (z w).2
def bU(V:Nat->Ut):List Vk->Nat->Act->Act
 | [],_,a=>a
 | o :: r,i,a=>bU V r (i+1) (a.put o.dst (V i))
theorem nF(V:Nat->Ut):∀(l:List Vk) (i:Nat) (a:Act),(bU V l i a).defers=a.defers
 | [],_,_=>rfl
 | o :: r,i,a=>by
  rw[bU,nF V r];cases o.dst<;>rfl
theorem lY(V:Nat->Ut):∀(l:List Vk) (i:Nat) (a:Act) (t:WC),(∀o∈l,o.dst≠some t)->(bU V l i a).tmps[t]? = a.tmps[t]?
 | [],_,_,_,_=>rfl
 | o :: r,i,a,t,h=>by
  rw[bU,lY V r _ _ t (λx hx=>h x (Vb _ hx)),nW a _ (h o Vu)]
theorem rX(V:Nat->Ut):∀(l:List Vk) (i:Nat) (a:Act) (j:Nat) (o:Vk) (d:WC),l[j]? = some o->o.dst=some d->(∀k b,l[k]? = some b->b.dst=some d->k=j)->d<a.tmps.size->(bU V l i a).tmps[d]? = some (V (i+j))
 | [],_,_,_,_,_,h,_,_,_=>by simp at h
 | x :: r,i,a,0,o,d,h,hd,hu,hs=>by
  obtain rfl:x=o:=by simpa using h
  rw[bU,lY V r _ _ d (λy f e=>by
   obtain⟨k,c⟩:=WJ f;have:=hu (k+1) y (by simpa using c) e;omega),hd]
  show(a.tmps.setIfInBounds d _)[d]? = _;rw[WB,yCj rfl,yCj hs];rfl
 | x :: r,i,a,j+1,o,d,h,hd,hu,hs=>by
  rw[bU,rX V r (i+1) _ j o d (by simpa using h) hd (λk b e c=>by
   have:=hu (k+1) b (by simpa using e) c;omega) (by rw[qS];exact hs)]
  congr 2
  omega
theorem InvF.done{a:Act}(R:RegF P Q F ops a0 m)(h:InvF F ops a0 L a w)(k:∀i,i<ops.size->on L i=true)
 (n:∀(V:Nat->Ut),(∀i,i<ops.size->F.kill i=[]->F.R i (V i) w)->(∀b,F.killB b=[]->F.B b w)->Q .normal (bU V ops.toList 0 a0) w):Q .normal a w:=by
 obtain⟨V,f,g⟩:=h.all;have e:a=bU V ops.toList 0 a0:=by
  refine Act.ext' ?_ (by rw[nF];exact h.def');apply yAF;intro t;by_cases d:∃(i:Nat) (o:Vk),ops[i]? = some o/\o.dst=some t
  ·obtain⟨i,o,ho,hd⟩:=d;rw[f i t (k i (UZ.1 ho).1) (by rw[eX ho];exact hd)];rw[rX V ops.toList 0 a0 i o t (by rw[Vq];exact ho) hd (λl p c j=>((R.of ho).2 t hd).2 l (by rw[Vq]at c;rw[eX c];exact j)) ((R.of ho).2 t hd).1,UD]
  ·rw[h.rest t (λi c hd=>?_),lY V ops.toList 0 a0 t (λo j hd=>?_)]
   ·obtain⟨i,c⟩:=WJ j;rw[Vq]at c;exact d ⟨i,o,c,hd⟩
   ·unfold aX at hd;cases hx:ops[i]? with
    | none=>rw[hx]at hd;cases hd
    | some x=>rw[hx]at hd;exact d ⟨i,x,hx,hd⟩
 rw[e];exact n V (λi c d=>g i (k i c) (by rw[d];simp)) (λb j=>h.base b (by rw[j];simp))
theorem InvF.full{a:Act}(R:RegF P Q F ops a0 m)(h:InvF F ops a0 L a w)(f:U7 .any ops L=[]):∀i,i<ops.size->on L i=true:=by
 intro i;induction i using Nat.strongRecOn with
 | ind i ih =>
  intro c;have ho:ops[i]? = some ops[i]:=U0 _;cases k:on L i with
  | true=>rfl
  | false =>
   have:i∈U7 .any ops L:=mem_ready.2 ⟨?_,_,ho,λe d g=>?_⟩
   ·rw[f]at this;cases this
   ·unfold on at k;rw[UI,U0 (by rw[h.size];exact c)]at k⊢;exact k
   ·have b:=(R.of ho).1 e d g;exact ih e.on b (Nat.lt_trans b c)
theorem qG{id:Nat}(F:Flow)(p:P.follows .mixedOrders=true)(R:RegF P Q F ops a0 ops.size)(q:∀b,F.B b w.drew)
 (n:∀(V:Nat->Ut) (w':Ur),(∀i,i<ops.size->F.kill i=[]->F.R i (V i) w')->(∀b,F.killB b=[]->F.B b w')->Q .normal (bU V ops.toList 0 a0) w'):(V4 id ops true).wp P Q a0 w:=by
 have key:∀(k:Nat) (L:Array Bool) (a:Act) (w:Ur),unl L=k->InvF F ops a0 L a w->wpAny P .any ops Q k L a w:=by
  intro k;induction k with
  | zero =>
   intro L a w m g;have c:∀i,i<ops.size->on L i=true:=λi f=>kN m i (by rw[g.size];exact f)
   refine⟨?_,g.done R c (λV=>n V w)⟩;apply ZJ.2;intro i f;obtain⟨e,o,ho,-⟩:=mem_ready.1 f;have j:=c i (UZ.1 ho).1;unfold on at j;rw[UI]at e j;cases hh:L[i]? with
   | none=>rw[hh]at e;cases e
   | some b=>rw[hh]at e j;rw[show b=false from e]at j;cases j
  | succ k ih =>
   intro L a w m g;refine⟨λs=>g.done R (g.full R s) (λV=>n V w),λi f=>?_⟩;obtain⟨e,o,ho,j⟩:=mem_ready.1 f;have c:on L i=false:=by
    unfold on;rw[UI]at e⊢;cases hh:L[i]? with
    | none=>rfl
    | some b=>rw[hh]at e;exact e
   exact Zz (λr w' l=>ih _ r w' (by have:=lN e;omega) l) (Ey R (UZ.1 ho).1 (λi f=>by rw[<-g.size];exact zV f) ho c j g)
 have c:∀i,on (UJ ops.size false) i=false:=λi=>by
  unfold on;rw[UI,Yg];by_cases h:i<ops.size
  ·rw[yCj h];rfl
  ·rw[yCk h];rfl
 refine yB7 p (key _ _ a0 _ ?_ ⟨UP,(λi o _ h=>by rw[c]at h;cases h),rfl,rfl,λ_ _=>rfl,⟨λ_=>WP,λi d h=>(by rw[c]at h;cases h),λi h=>(by rw[c]at h;cases h)⟩,λb _=>q b⟩);unfold unl;rw[Y3,yAm];simp
structure PreF(F:Flow)(ops:Array Vk)(a0:Act)(k:Nat)(o:Vk)(a:Act)(w:Ur):Prop where
 n:∀j d,dB o j=true->okK ops k (F.kill j)=true->aX ops j=some d->F.R j (a.eval (.tmp d)) w
 o:∀t,oY ops k t=true->a.eval (.tmp t)=a0.eval (.tmp t)
 b:∀b,okK ops k (F.killB b)=true->F.B b w
def iK(P:VD)(Q:Yo->Act->Ur->Prop)(F:Flow)(b:Array Vk)(a0:Act):Nat->List Vk->Prop
 | _,[]=>True
 | k,o :: r=>Aq P Q F b a0 k o/\iK P Q F b a0 (k+1) r
theorem yJ:∀(l:List Vk) (i:Nat),iK P Q F ops a0 i l->∀k o,l[k]? = some o->Aq P Q F ops a0 (i+k) o
 | [],_,_,k,o,h=>by simp at h
 | x :: r,i,hc,0,o,h=>by
  obtain rfl:x=o:=by simpa using h
  exact hc.1
 | x :: r,i,hc,k+1,o,h=>by
  have:=yJ r (i+1) hc.2 k o (by simpa using h);rwa[show i+1+k=i+(k+1) by omega]at this
theorem CB(h:iK P Q F ops a0 0 ops.toList):∀k o,k<ops.size->ops[k]? = some o->Aq P Q F ops a0 k o:=λk o _ ho=>by
 have:=yJ ops.toList 0 h k o (by rw[Vq];exact ho);rwa[UD]at this
def evo(ev:WC->Ut):XG->Ut
 | .tmp t=>ev t
 | .const v=>v
 | .global g=>jZ g
 | .func f=>.func (.func f) #[] #[]
def dA(T:List WC)(o:Vk):Bool:=
 (match o.op with | .select _ _=>false|_=>true) && o.op.operands.all (λx=>match x with | .tmp t=>T.contains t|_=>true)
theorem iU{a:Act}{o:Vk}(ev:WC->Ut)(T:List WC)(h:dA T o=true)(k:∀t∈T,a.eval (.tmp t)=ev t):U5 a.eval o=U5 (evo ev) o:=by
 simp only[dA,UL]at h;refine execOp_congr o (λcs b k=>?_) (λx hx=>?_)
 ·rw[k]at h;exact absurd h.1 (by simp)
 ·have c:=WX.1 h.2 x hx;cases x with
  | tmp t=>exact k t (by simpa using c)
  | const v=>rfl
  | global g=>rfl
  | func f=>rfl
theorem mH{k:Nat}{o:Vk}(h:∀(a:Act) (w:Ur),PreF F ops a0 k o a w->∃v w',(U5 a.eval o).run P w=.ok (.value v) w'/\F.E k w w'/\F.R k v w'):bF P Q F ops a0 k o:=by
 intro a w K e d b c;obtain⟨v,w',f,hE,hR⟩:=h a w ⟨e,d,b⟩;unfold VT;rw[f];exact c v w' hE hR
theorem mI{k:Nat}{o:Vk}(t:WC)(h:∀(a:Act) (w:Ur),PreF F ops a0 k o a w->∃v w',(dA [t] o=true)/\(U5 (evo λ_=>a.eval (.tmp t)) o).run P w=.ok (.value v) w'/\F.E k w w'/\F.R k v w'):bF P Q F ops a0 k o:=by
 refine mH λa w d=>?_
 obtain⟨v,w',b,c,hE⟩:=h a w d;refine⟨v,w',?_,hE⟩;rw[iU (λ_=>a.eval (.tmp t)) [t] b (λx hx=>by rw[show x=t by simpa using hx])];exact c
theorem FG{k:Nat}{o:Vk}(t:WC)(h:∀(a:Act) (w:Ur),PreF F ops a0 k o a w->∃f args,(dA [t] o=true)/\(U5 (evo λ_=>a.eval (.tmp t)) o).run P w=.ok (.enter f args) w/\UH P f args w (Ret λe w'=>F.E k w w'/\F.R k e w')):bF P Q F ops a0 k o:=by
 intro a w K j i b d;obtain⟨f,args,g,l,c⟩:=h a w ⟨j,i,b⟩;unfold VT;rw[iU (λ_=>a.eval (.tmp t)) [t] g (λx hx=>by rw[show x=t by simpa using hx]),l,WY];refine c.mono ?_;rintro e w' ⟨v,rfl,hE,hR⟩;exact d _ _ hE hR
theorem Bg{k:Nat}{o:Vk}(T:U8)(t:WC)(ho:o.op=.load T (.tmp t))(b:(P.underlying T).map (·.isRow)=some true)
 (h:∀(a:Act) (w:Ur),PreF F ops a0 k o a w->∃g off cs,a.eval (.tmp t)=oZ g off/\w.rangeAt g off cs/\(P.info? T).map (·.size)=some cs.length/\F.E k w w/\F.R k (.agg cs.toArray) w):bF P Q F ops a0 k o:=by
 intro a w K l j c e;obtain⟨g,off,cs,f,m,i,hE,hR⟩:=h a w ⟨l,j,c⟩;obtain⟨d,b,hd⟩:=Uy.1 b;exact wp_load_mid T (.tmp t) ho g off f cs d m b hd i (e _ _ hE hR)
theorem JS{k:Nat}{o:Vk}(s u:WC)(t:U8)(ho:o.op=.call { callee:=.builtin .append,args:=#[.tmp s,.tmp u],argTypes:=#[t,t] })
 (h:∀(a:Act) (w:Ur),PreF F ops a0 k o a w->∃v w',(Vt #[t,t] o.type #[a.eval (.tmp s),a.eval (.tmp u)]).run P w=.ok v w'/\F.E k w w'/\F.R k v w'):bF P Q F ops a0 k o:=by
 intro a w K e d b c;obtain⟨v,w',f,hE,hR⟩:=h a w ⟨e,d,b⟩;unfold VT U5;simp only[ho,resolve,invoke,builtin,UV,Wr,Vm,yA1,XV,yBD,f];exact c _ _ hE hR
theorem tB(h:iK P Q F ops a0 0 (ops.toList.take m)):∀k o,k<m->ops[k]? = some o->Aq P Q F ops a0 k o:=λk o b ho=>by
 have:=yJ (ops.toList.take m) 0 h k o (by rw[WA,yCj b,Vq];exact ho);rwa[UD]at this
theorem InvF.act{a:Act}(R:RegF P Q F ops a0 m)(h:InvF F ops a0 L a w)(n:m<=ops.size)(c:∀i,on L i=true↔i<m){V:Nat->Ut}(g:∀i d,on L i=true->aX ops i=some d->a.tmps[d]? = some (V i)):a=bU V (ops.toList.take m) 0 a0:=by
 refine Act.ext' ?_ (by rw[nF];exact h.def');apply yAF;intro t;by_cases f:∃(i:Nat) (o:Vk),i<m/\ops[i]? = some o/\o.dst=some t
 ·obtain⟨i,o,b,ho,hd⟩:=f;rw[g i t ((c i).2 b) (by rw[eX ho];exact hd)];rw[rX V (ops.toList.take m) 0 a0 i o t (by rw[WA,yCj b,Vq];exact ho) hd (λj l k e=>((R.of ho).2 t hd).2 j (by
   rw[WA]at k;split at k
   ·rw[Vq]at k;rw[eX k];exact e
   ·cases k)) ((R.of ho).2 t hd).1,UD]
 ·rw[h.rest t (λi k hd=>?_),lY V (ops.toList.take m) 0 a0 t (λo e hd=>?_)]
  ·obtain⟨i,k⟩:=WJ e;rw[WA]at k;split at k
   ·rename_i b
    rw[Vq]at k;exact f ⟨i,o,b,k,hd⟩
   ·cases k
  ·unfold aX at hd;cases hx:ops[i]? with
   | none=>rw[hx]at hd;cases hd
   | some x=>rw[hx]at hd;exact f ⟨i,x,(c i).1 k,hx,hd⟩
theorem GM{id:Nat}(F:Flow)(n:Nat)(T:ops.size=n+1)(hd:(VG n).all (λj=>depOn ops n j || (VG n).any (λi=>depOn ops n i && depOn ops i j))=true)(U:P.follows .mixedOrders=true)(R:RegF P Q F ops a0 n)(X:∀b,F.B b w.drew)
 (Y:∀(V:Nat->Ut) (w':Ur),(∀i,i<n->F.kill i=[]->F.R i (V i) w')->(∀b,F.killB b=[]->F.B b w')->wpList P ops Q (ops.toList.drop n) (bU V (ops.toList.take n) 0 a0) w'):(V4 id ops true).wp P Q a0 w:=by
 have key:∀(c:Nat) (L:Array Bool) (a:Act) (w:Ur),unl L=c->on L n=false->InvF F ops a0 L a w->wpAny P .any ops Q c L a w:=by
  intro c;induction c with
  | zero =>
   intro L a w M k p;have:=kN M n (by rw[p.size];omega);rw[k]at this;cases this
  | succ c ih =>
   intro L a w M k p;refine⟨λC=>?_,λi S=>?_⟩
   ·have:=p.full R C n oM;rw[k]at this;cases this
   ·obtain⟨r,o,ho,t⟩:=mem_ready.1 S;have J:=(UZ.1 ho).1;have G:on L i=false:=by
     unfold on;rw[UI]at r⊢;cases hh:L[i]? with
     | none=>rfl
     | some b=>rw[hh]at r;exact r
    by_cases y:i=n
    ·subst y;have q:∀j,on L j=true↔j<i:=λj=>by
      constructor
      ·intro m;have g:j<ops.size:=by rw[<-p.size];exact zV m
       rcases Wq j i with h|h
       ·exact h
       ·obtain rfl:j=i:=oM;rw[k]at m;cases m
      ·intro m;have s:∀j,depOn ops i j=true->on L j=true:=λj g=>by
        unfold depOn at g;rw[ho]at g;obtain⟨e,u,z⟩:=XO.1 g;simp only[UL,beq_iff_eq]at z;have:=t e u z.1;rw[z.2]at this;exact this
       have g:=Va.1 hd j (V0.2 m);rw[Xv]at g;rcases g with g|g
       ·exact s j g
       ·obtain⟨x,hx,v⟩:=List.any_eq_true.1 g;rw[UL]at v;have D:=s x v.1;have B:x<ops.size:=by have:=V0.1 hx;omega
        have u:=U0 B;have A:=v.2;unfold depOn at A;rw[u]at A;exact Ba (ho:=u) p A D
     obtain⟨V,E,I⟩:=p.all;have N:=p.act R oM q E;have v:∀l:List Nat,l=[]->∀x∈l,on L x=false:=λl W x hx=>by rw[W]at hx;cases hx
     have s:=Y V w (λj m O=>I j ((q j).2 m) (v _ O)) (λb z=>p.base b (v _ z));have u:ops.toList.drop i=[o]:=by
      have A:ops.toList.length=i+1:=by rw[UK];exact T
      rw[List.drop_eq_getElem_cons oM,List.drop_of_length_le oM];have:ops.toList[i]? = some o:=by rw[Vq];exact ho
      rw[UG oM]at this;rw[UO.inj this]
     rw[u,<-N]at s;have H:wpOp P ops Q i (λB w'=>Q .normal B w') a w:=by
      unfold wpOp;rw[ho];exact s
     refine Zz (λB w' K=>?_) H;have A:∀j,j<ops.size->on (L.setIfInBounds i true) j=true:=λj m=>by
      rw[eC (by rw[p.size];omega)];by_cases h:j<i
      ·rw[(q j).2 h,X9]
      ·rw[show j=i by omega];simp
     have C:U7 .any ops (L.setIfInBounds i true)=[]:=by
      apply ZJ.2;intro j m;obtain⟨r,Z,D,-⟩:=mem_ready.1 m;have g:=A j (UZ.1 D).1;unfold on at g;rw[UI]at r g;cases hh:(L.setIfInBounds i true)[j]? with
      | none=>rw[hh]at r;cases r
      | some b=>rw[hh]at r g;rw[show b=false from r]at g;cases g
     cases c with
     | zero=>exact⟨C,K⟩
     | succ f=>exact⟨λ_=>K,λj m=>by rw[C]at m;cases m⟩
    ·refine Zz (λB w' q=>ih _ B w' (by have:=lN r;omega) ?_ q) (Ey R oM (λj m=>?_) ho G t p)
     ·rw[eC (by rw[p.size];exact J),k];simpa using y
     ·have g:j<ops.size:=by rw[<-p.size];exact zV m
      rcases Wq j n with h|h
      ·exact h
      ·obtain rfl:j=n:=oM;rw[k]at m;cases m
 have k:∀i,on (UJ ops.size false) i=false:=λi=>by
  unfold on;rw[UI,Yg];by_cases h:i<ops.size
  ·rw[yCj h];rfl
  ·rw[yCk h];rfl
 refine yB7 U (key _ _ a0 _ ?_ (k n) ⟨UP,(λi o _ h=>by rw[k]at h;cases h),rfl,rfl,λ_ _=>rfl,⟨λ_=>WP,λi d h=>(by rw[k]at h;cases h),λi h=>(by rw[k]at h;cases h)⟩,λb _=>X b⟩);unfold unl;rw[Y3,yAm];simp
end RG
namespace RG
variable {P:VD}{ops:Array Vk}{Q:Yo->Act->Ur->Prop}{w:Ur}{a0:Act}
def AllE(a:Act):List (WC × Ut)->Prop
 | []=>True
 | x :: r=>a.eval (.tmp x.1)=x.2/\AllE a r
def evl(k:List (WC × Ut))(t:WC):Ut:=match k.find? (λx=>x.1 == t) with|some x=>x.2|none=>WP
theorem AllE.mem{a:Act}:∀ {k:List (WC × Ut)},AllE a k->∀x∈k,a.eval (.tmp x.1)=x.2
 | [],_,x,hx=>by cases hx
 | y :: r,h,x,hx=>by
  rcases VX.1 hx with rfl|hx
  ·exact h.1
  ·exact AllE.mem h.2 x hx
theorem AllE.ev{a:Act}{k:List (WC × Ut)}(h:AllE a k):∀t∈k.map (·.1),a.eval (.tmp t)=evl k t:=λt c=>by
 obtain⟨x,hx,rfl⟩:=Vn.1 c;unfold evl;cases hf:k.find? (λy=>y.1 == x.1) with
 | none =>
  have:=List.find?_eq_none.1 hf x hx;simp at this
 | some y =>
  have d:=List.mem_of_find?_eq_some hf;have b:y.1=x.1:=by simpa using List.find?_some hf
  have:=h.mem y d;rw[b]at this;exact this
structure Gw where
 R:Nat->Ut->Ur->Prop
 B:Ur->Prop
 sR:∀i v w w',kZ w w'->R i v w->R i v w'
 sB:∀w w',kZ w w'->B w->B w'
def Gw.flow(G:Gw):Flow:=⟨G.R,λ_=>G.B,λ_ w w'=>kZ w w',λ_=>[],λ_=>[]⟩
structure PreG(G:Gw)(ops:Array Vk)(a0:Act)(k:Nat)(o:Vk)(a:Act)(w:Ur):Prop where
 n:∀j d,dB o j=true->aX ops j=some d->G.R j (a.eval (.tmp d)) w
 o:∀t,oY ops k t=true->a.eval (.tmp t)=a0.eval (.tmp t)
 b:G.B w
variable {G:Gw}
theorem rY{k:Nat}{o:Vk}{a:Act}(h:PreF G.flow ops a0 k o a w):PreG G ops a0 k o a w:=⟨λj d b hd=>h.n j d b rfl hd,h.o,h.b 0 rfl⟩
theorem bN{k:Nat}{o:Vk}(h:∀(a:Act) (w:Ur),PreG G ops a0 k o a w->∃(b:List (WC × Ut)) (v:Ut) (w':Ur),AllE a b/\(dA (b.map (·.1)) o,(U5 (evo (evl b)) o).run P w)=(true,.ok (.value v) w')/\kZ w w'/\G.R k v w'):bF P Q G.flow ops a0 k o:=
 mH λa w e=>by
  obtain⟨b,v,w',d,c,hE⟩:=h a w (rY e);simp only[V6.injEq]at c;refine⟨v,w',?_,hE⟩;rw[iU (evl b) (b.map (·.1)) c.1 d.ev];exact c.2
theorem gK{k:Nat}{o:Vk}(h:∀(a:Act) (w:Ur),PreG G ops a0 k o a w->∃(b:List (WC × Ut)) (f:FuncId) (args:Array Ut),AllE a b/\(dA (b.map (·.1)) o,(U5 (evo (evl b)) o).run P w)=(true,.ok (.enter f args) w)/\UH P f args w (rZ w λe w'=>G.R k e w')):bF P Q G.flow ops a0 k o:=by
 intro a w K m l d i;obtain⟨b,f,args,j,c,g⟩:=h a w (rY ⟨m,l,d⟩);simp only[V6.injEq]at c;unfold VT;rw[iU (evl b) (b.map (·.1)) c.1 j.ev,c.2,WY];refine g.mono ?_;rintro e w' ⟨v,rfl,hE,hR⟩;exact i _ _ hE hR
theorem iQ{k:Nat}{o:Vk}(T:U8)(t:WC)(ho:o.op=.load T (.tmp t))(b:(P.underlying T).map (·.isRow)=some true)
 (h:∀(a:Act) (w:Ur),PreG G ops a0 k o a w->∃g off cs,a.eval (.tmp t)=oZ g off/\w.rangeAt g off cs/\(P.info? T).map (·.size)=some cs.length/\G.R k (.agg cs.toArray) w):bF P Q G.flow ops a0 k o:=
 Bg T t ho b λa w i=>by
  obtain⟨g,off,cs,f,e,c,d⟩:=h a w (rY i);exact⟨g,off,cs,f,e,c,UR _ _,d⟩
theorem Jn{k:Nat}{o:Vk}(op:BinOp)(T b:U8)(t1 t2:WC)(ho:o.op=.binOp op T (.tmp t1) (.tmp t2) b)
 (h:∀(a:Act) (w:Ur),PreG G ops a0 k o a w->∃v1 v2 v,a.eval (.tmp t1)=v1/\a.eval (.tmp t2)=v2/\(eqGuard op T (.tmp t1) (.tmp t2) v1 v2).run P w=.ok () w/\(binOp op T v1 v2).run P w=.ok v w/\G.R k v w):bF P Q G.flow ops a0 k o:=
 mH λa w d=>by
  obtain⟨v1,v2,v,f,e,c,g,hR⟩:=h a w (rY d);refine⟨v,w,?_,UR _ _,hR⟩;unfold U5;rw[ho];dsimp only;rw[f,e,UV,UV,c];dsimp only[Result.andThen];rw[g];rfl
theorem Gw.reg{m:Nat}(k:Be ops a0.tmps.size=true)(h:iK P Q G.flow ops a0 0 (ops.toList.take m)):RegF P Q G.flow ops a0 m:=
 ⟨k,tB h,λi j _ _ _ _ _ v w w' hE hR=>G.sR j v w w' hE hR,λi b _ _ w w' hE c=>G.sB w w' hE c⟩
theorem Gw.draws{id:Nat}(G:Gw)(c:P.follows .mixedOrders=true)(k:Be ops a0.tmps.size=true)(h:iK P Q G.flow ops a0 0 (ops.toList.take ops.size))(d:G.B w.drew)
 (f:∀(V:Nat->Ut) (w':Ur),(∀i,i<ops.size->G.R i (V i) w')->G.B w'->Q .normal (bU V ops.toList 0 a0) w'):(V4 id ops true).wp P Q a0 w:=
 qG G.flow c (Gw.reg k h) (λ_=>d) λV w' e b=>f V w' (λi g=>e i g rfl) (b 0 rfl)
theorem Gw.last{id:Nat}(G:Gw)(n:Nat)(k:((ops.size == n+1) && (VG n).all (λj=>depOn ops n j || (VG n).any (λi=>depOn ops n i && depOn ops i j)))=true)(d:P.follows .mixedOrders=true)(b:Be ops a0.tmps.size=true)(h:iK P Q G.flow ops a0 0 (ops.toList.take n))(e:G.B w.drew)
 (g:∀(V:Nat->Ut) (w':Ur),(∀i,i<n->G.R i (V i) w')->G.B w'->wpList P ops Q (ops.toList.drop n) (bU V (ops.toList.take n) 0 a0) w'):(V4 id ops true).wp P Q a0 w:=by
 rw[UL,beq_iff_eq]at k;exact GM G.flow n k.1 k.2 d (Gw.reg b h) (λ_=>e) λV w' f c=>g V w' (λi l=>f i l rfl) (c 0 rfl)
end RG
section
variable {P:Nat}[NeZero P]{N:Nat}
theorem BM{w:Ur}{g o:Nat}{v:Ut}{cur:Array Ut}{e:U8}{z:Nat × Nat}(h:w.heap[g]? = some (.cells cur e z)):∃k:Array Ut,(w.setCell ⟨g,o,none⟩ v).heap[g]? = some (.cells k e z)/\k.size=cur.size:=by
 have b:=(UZ.1 h).1;refine⟨cur.setIfInBounds o v,?_,VF ..⟩;have c:w.heap[g]=.cells cur e z:=by rw[U0 b]at h;exact UO.inj h
 simp[World.setCell,Array.getElem_modify,b,c]
theorem qN{g:Nat}{e:U8}{z:Nat × Nat}:∀(vs:List Ut) (o:Nat) (w:Ur) (cur:Array Ut),w.heap[g]? = some (.cells cur e z)->∃k:Array Ut,(w.setCells g o vs).heap[g]? = some (.cells k e z)/\k.size=cur.size
 | [],_,_,cur,h=>⟨cur,h,rfl⟩
 | v :: r,o,w,cur,h=>by
  obtain⟨c1,f,d⟩:=BM (o:=o) (v:=v) h;obtain⟨c2,b,c⟩:=qN r (o+1) _ c1 f;exact⟨c2,b,c.trans d⟩
theorem IM{W:Ur}{k n s g o cap:Nat}{e:U8}{xs vs:List Ut}(h:W.ownsRow k e s (sZ g n cap) n xs)(v:o+vs.length<=n*s):(W.setCells g o vs).ownsRow k e s (sZ g n cap) n (rep xs o vs):=by
 have hx:o+vs.length<=xs.length:=by rw[h.1];exact v
 refine⟨by rw[cU hx];exact h.1,?_⟩;rcases h.2 with⟨f,-⟩|⟨a,q,cur,f,z,l,m,u,p,y⟩
 ·cases f
 ·injection f with e1 e2 e3
  injection e1 with e1
  injection e1 with e1
  subst e1;subst e3;obtain⟨c2,t,x⟩:=qN vs o W cur l;refine UX ⟨g,cap,c2,rfl,z,t,m,u,by rw[x];exact p,?_⟩;have w:n*s<=cur.size:=by rw[p];exact Xs s m
  apply YX;intro i;rw[RG.rep_at hx,WA,<-y];have c1:∀i,W.cell? ⟨g,i,none⟩=cur[i]?:=λi=>cell_of_row W g i cur e (0,0) l
  have r:(W.setCells g o vs).cell? ⟨g,i,none⟩=c2[i]?:=cell_of_row _ g i c2 e (0,0) t;by_cases c:i<n*s
  ·rw[yCj c];by_cases b:o<=i/\i<o+vs.length
   ·rw[yCj b];have d:i-o<vs.length:=oM;have:=World.cell?_setCells_in g vs o W (λj d=>by rw[c1 (o+j),U0 oM];rfl) (i-o) d;rw[show o+(i-o)=i by omega,r]at this;rw[Vq,this,UG d]
   ·rw[yCk b,WA,yCj c,Vq,Vq,<-r,<-c1 i];exact World.cell?_setCells_out g vs o W ⟨g,i,none⟩ (λ_ _=>by show i<o\/o+vs.length<=i;omega)
  ·rw[yCk c,yCk oM,WA,yCk c]
theorem LS{xs ys vs:List Ut}{o:Nat}:rep (xs++ys) (xs.length+o) vs=xs++rep ys o vs:=by
 unfold rep;rw[List.take_length_add_append,Nat.add_assoc,List.drop_length_add_append,List.append_assoc]
theorem gJ{n:Nat}{p:Bs}(k:p.size=33):(wn n++aA p).length=37:=by rw[UA,aB k];rfl
theorem fG(x:Nat × Bs)(r:List (Nat × Bs)):aU (x :: r)=(wn x.1++aA x.2)++aU r:=by unfold aU;rw[Zy]
theorem yM(s:Nat):∀(l:List (Nat × Bs)) (j:Nat) (k:j<l.length),(∀x∈l.map (·.2),x.size=33)->aU (l.set j (s,(l[j]).2))=rep (aU l) (37*j) (wn s)
 | [],j,k,_=>by cases k
 | x :: r,0,_,_=>by
  show aU ((s,x.2) :: r)=_;rw[fG,fG];rfl
 | x :: r,j+1,k,hs=>by
  have hx:=gJ (n:=x.1) (hs x.2 (by simp));show aU (x :: r.set j (s,(r[j]'(by simpa using k)).2))=_;rw[fG,fG,yM s r j (by simpa using k) (λy b=>hs y (Vb _ b)),show 37*(j+1)=(wn x.1++aA x.2).length+37*j by rw[hx];omega,LS]
theorem at?_some{p:Bs}:∀ {l:List (Nat × Bs)}{i j:Nat},at? p (l.map (·.2)) i=some j->i<=j/\∃h:j-i<l.length,(l[j-i]).2=p/\∀n,fA N l n p=l.set (j-i) (sPl N (l[j-i]).1 n,p)
 | [],i,j,h=>by cases h
 | (s,q) :: r,i,j,h=>by
  rw[XV]at h;unfold at? at h;by_cases k:p=q
  ·rw[yCj k]at h;obtain rfl:=UO.inj h;refine⟨Uw _,by simp,?_,λn=>?_⟩
   ·simp[k]
   ·unfold fA;rw[yCj k];simp[k]
  ·rw[yCk k]at h;obtain⟨f,d,b,c⟩:=at?_some h;have e:j-i=(j-(i+1))+1:=oM;refine⟨oM,by simp;omega,?_,λn=>?_⟩
   ·simp only[e,yAj];exact b
   ·unfold fA;rw[yCk k,c n];simp only[e,yAj,Uu]
theorem Kk{n:Nat}{p:Bs}{l:List (Nat × Bs)}{j:Nat}(h:at? p (l.map (·.2)) 0=some j):(fA N l n p).map (·.2)=l.map (·.2)/\(fA N l n p).length=l.length:=by
 obtain⟨-,k,c,d⟩:=at?_some (N:=N) h;rw[d n];refine⟨?_,List.length_set ..⟩;rw[List.map_set];apply YX;intro i;rw[List.getElem?_set];by_cases b:j-0=i
 ·subst b;rw[yCj rfl,yCj (by rw[UQ];exact k),Vz,UG k];exact congrArg some c.symm
 ·rw[yCk b]
theorem Mx.again{w W:Ur}{m g cap:Nat}{l:List (Nat × Bs)}{p:Bs}{j:Nat}(h:Mx w W m l (sZ g l.length cap))(f:∀x∈l.map (·.2),x.size=33)(c:at? p (l.map (·.2)) 0=some j)(o:j<l.length)(n:Nat):
 Mx w (W.setCells g (37*j) (wn (sPl N (l[j]).1 n))) m (fA N l n p) (sZ g l.length cap):=by
 have k:=h.own_ne (g:=g) rfl;obtain⟨i,d⟩:=Kk (N:=N) (n:=n) c;refine⟨RG.below_setCells k.2.1 _ _ _ h.bl,?_,h.lm,?_⟩
 ·rw[aH _ _ _ _ _ (YB k.1),i,d];exact h.mp
 ·obtain⟨-,q,b,e⟩:=at?_some (N:=N) c;have e3:fA N l n p=l.set j (sPl N (l[j]).1 n,(l[j]).2):=by rw[e n];simp only[YT]at b⊢;rw[b]
  rw[d,e3,yM _ l j o f];exact IM h.ow (by show 37*j+4<=_;omega)
theorem DF(O:Ord N)(ns:Nat->Nat)(d:Nat->Bs){k:Nat}(c:∀j,j<k->ns j<N):∀i,i<=k->∀x∈mrg N ns d i,x.1<N
 | 0,_=>λx hx=>by cases hx
 | i+1,hi=>by
  have f:=DF O ns d c i oM;have h:∀(l:List (Nat × Bs)) n p,n<N->(∀x∈l,x.1<N)->∀x∈fA N l n p,x.1<N:=by
   intro l n p g;induction l with
   | nil=>intro _ x hx;simp[fA]at hx;rw[hx];exact g
   | cons y r ihr =>
    intro b x hx;unfold fA at hx;split at hx
    ·rcases VX.1 hx with rfl|hx
     ·exact V5 _ O.pos
     ·exact b x (Vb _ hx)
    ·rcases VX.1 hx with rfl|hx
     ·exact b _ Vu
     ·exact ihr (λz e=>b z (Vb _ e)) x hx
  exact h _ _ _ (c i oM) f
end
section
variable {N:Nat}
section
variable (w:Ur) (m g4 cap k6 j s n z:Nat) (l:List (Nat × Bs)) (p:Bs)
def Ra:Nat->Ut->Ur->Prop
 | 0,v,_=>v=sZ g4 l.length cap
 | 1,v,_=>v=iZ j
 | 2,v,_=>v=sZ g4 l.length cap
 | 3,v,_=>v=iZ j
 | 4,v,_=>v=.pointer (some ⟨g4,0+37*j,none⟩)
 | 5,v,_=>v=.pointer (some ⟨g4,0+37*j,none⟩)
 | 6,v,_=>v=nv s
 | 7,v,_=>v=jZ k6
 | 8,v,_=>v=nv n
 | 9,v,_=>v=nv z
 | 10,v,_=>v=.pointer (some ⟨g4,0+37*j,none⟩)
 | 11,v,_=>v=.pointer (some ⟨g4,0+37*j,none⟩)
 | _,_,_=>True
theorem Qm{i:Nat}{v:Ut}{W W':Ur}(h:Ra g4 cap k6 j s n z l i v W):Ra g4 cap k6 j s n z l i v W':=by
 match i,h with
 | 0,h=>exact h
 | 1,h=>exact h
 | 2,h=>exact h
 | 3,h=>exact h
 | 4,h=>exact h
 | 5,h=>exact h
 | 6,h=>exact h
 | 7,h=>exact h
 | 8,h=>exact h
 | 9,h=>exact h
 | 10,h=>exact h
 | 11,h=>exact h
 | _+12,_=>trivial
def Ga:Gw:=⟨Ra g4 cap k6 j s n z l,λW=>Mx w W m l (sZ g4 l.length cap)/\Row W k6 (wn n++aA p),λ_ _ _ _ _ h=>Qm g4 cap k6 j s n z l h,λ_ _ k h=>⟨h.1.kept k,h.2.below k⟩⟩
end
theorem range_front'{W:Ur}{k o:Nat}{xs ys:List Ut}(h:W.rangeAt k o (xs++ys)):W.rangeAt k o xs:=λj v b=>h j v (by rw[UT (UF.1 b).1];exact b)
theorem Mx.drew{w W:Ur}{m:Nat}{l:List (Nat × Bs)}{v:Ut}(h:Mx w W m l v):Mx w W.drew m l v:=⟨h.bl.drew,h.mp,h.lm,h.ow⟩
theorem I8(O:Ord N)(R:Ut->Ur->Prop)(g k c:Nat)(hk:k<=1000)(ns:Nat->Nat)(o:Nat->Bs)(ha:∀j,j<k->(o j).size=33)(hn:∀j,j<k->ns j<N)(w:Ur)(hg:g<w.heap.size)(hr:∀j,j<k->w.rangeAt g (37*j) (wn (ns j)++aA (o j)))
 (h7:∀W v,Mx w W w.heap.size (mrg N ns o k) v->UH prog 204 #[v,.func (.func 205) #[] #[]] W (Ret R)) :
 UH prog 140 #[sZ g k c] w (Ret R):=by
 have h9:=Hid.mk' h7;have k2:(Instr.makeMap 278 none).run prog w=.ok (.map (some w.heap.size)) (w.alloc (.map #[] 0)):=kR;obtain⟨w1,h2⟩:=hE (w.alloc (.map #[] 0));rw[h2.out]at k2;have M1:Hid (Mx w w1 w.heap.size (mrg N ns o 0) (.slice none 0 0)):=by
  rw[<-h2.out];exact⟨aC w _,by show(w.heap.push (.map #[] 0))[w.heap.size]? = _;rw[Array.getElem?_push_size];rfl,Uw _,rfl,U4 ⟨rfl,rfl⟩⟩
 have J:=mk5 O ha hn hg hr;obtain⟨d,k5,hw⟩:=Uy.1 uCP;obtain⟨d',k7,k8⟩:=Uy.1 uT;have K:Hid ((prog.underlying 103=some d/\d.isRow=true)/\prog.underlying 226=some d'/\d'.isRow=true):=⟨⟨k5,hw⟩,k7,k8⟩
 go_enter func140,ntmps140;go_wp2;go_loopg [4,12] k (λq s4 s12 W=>∃i:Nat,i+q=k/\s12=iZ i/\Hid (Mx w W w.heap.size (mrg N ns o i) s4))
 case atStart=>exact⟨0,oM,rfl,M1⟩
 case round =>
  obtain⟨i,kg,rfl,KM⟩:=hrel;by_cases hi:i<k
  ·have kc:(i:Int)<(k:Int):=oM;obtain⟨n,E⟩:=hE (ns i);obtain⟨p,I⟩:=hE (o i);obtain⟨l,hl⟩:=hE (mrg N ns o i);rw[hl.out]at KM;have r:Hid (p.size=33):=by have:=J.2.1 i hi;rw[I.out]at this;exact this
   have k0:Hid (l.length<=i):=by have:=AV (N:=N) ns o i;rw[hl.out]at this;exact this
   obtain⟨q,cap,rfl⟩:=GA KM.ow;obtain⟨T,h0⟩:=hE (wr.alloc (.cells zT.toArray 226));obtain⟨G,U⟩:=hE (T.setCells wr.heap.size 0 (wn n++aA p));have m:(wn n++aA p).length=37:=by rw[UA,aB r.out];rfl
   have F1:Hid (Row T wr.heap.size zT/\kZ wr T/\T.heap.size=wr.heap.size+1):=by rw[<-h0.out];exact⟨aE wr _ _,aC wr _,UB _ _⟩
   have Z:Hid (Row G wr.heap.size (wn n++aA p)/\kZ wr G/\G.heap.size=wr.heap.size+1):=by rw[<-U.out];exact⟨F1.1.put (by rw[m];rfl),RG.below_setCells (Uw _) _ _ _ F1.2.1,by rw[setCells_size];exact F1.2.2⟩
   have S:=mk1 (KM.kept Z.2.1);have C:∀x∈l.map (·.2),x.size=33:=by have:=xF (N:=N) ns o J.2.1 i oM;rw[hl.out]at this;exact this
   cases D:at? p (l.map (·.2)) 0 with
   | none =>
    have b:=mk1 (D);have Y:=Hid.mk' (Cj r.out (l.map (·.2)) C w.heap.size l.length G S.mp);rw[b.out]at Y;have B2:Hid ((Y2 278 (.map (some w.heap.size)) (.agg (aA p).toArray) (iZ (l.length:Int))).run prog G=.ok () (G.putObj w.heap.size (.map (ents (l.map (·.2)++[p]) 0).toArray (l.length+1)))):=by
     have h:=Ld r.out (l.map (·.2)) C w.heap.size G (by rw[UQ];exact S.mp) b.out;rw[UQ]at h;exact h
    obtain⟨v',W5,f,K5,kf,-⟩:=S.push r.out (by have:=k0.out;omega) n;obtain⟨P,A⟩:=hE (G.putObj w.heap.size (.map (ents (l.map (·.2)++[p]) 0).toArray (l.length+1)));have F3:Hid (Row P wr.heap.size (wn n++aA p)/\P.heap.size=wr.heap.size+1):=by rw[<-A.out];exact⟨Z.1.putObj S.mp rfl _,by simp[yAe];exact Z.2.2⟩
    have Q:=Hid.mk' (SH r.out n P);obtain⟨W4,M⟩:=hE (P.alloc (.cells (wn n++aA p).toArray 226));rw[A.out]at B2 f;rw[M.out]at Q f;rw[F3.2]at Q;rw[Z.2.2]at f;have k6:Hid (Mx w W5 w.heap.size (mrg N ns o (i+1)) v'):=by
     have e:mrg N ns o (i+1)=l++[(n,p)]:=by
      show fA N (mrg N ns o i) (ns i) (o i)=_;rw[hl.out,E.out,I.out];exact CP b.out
     rw[e];exact K5
    have B0:Hid (wr.rangeAt g (37*i) (wn n++aA p)):=by
     have h:=RG.range_below (J.2.2.2.2 i hi) KM.bl J.2.2.2.1;rw[E.out,I.out]at h;exact h
    have L:Hid ((prog.info? 226).map (·.size)=some (wn n++aA p).length):=by show _=_;rw[m];exact iT
    have H:Hid ((prog.info? 226).map (·.size)=some (wn n++aA p).toArray.size/\T.there wr.heap.size 0 (wn n++aA p).toArray.size):=by
     have e:(wn n++aA p).toArray.size=37:=by rw[VC];exact m
     rw[e];exact⟨iT,F1.1.2.2⟩
    have h1:Hid ((prog.info? 103).map (·.size)=some (aA p).length):=by show _=_;rw[aB r.out];exact cV
    have HB:=mk1 (lT (xs:=wn n) Z.1.2.1);have X:Hid ((wn n++aA p).toArray.all (·.oneCell')=true):=by
     show _=_;rw[WX];intro u hu;exact cells_one n p u (X6.1 hu)
    have hz:=atT g 0 k c i hi;have V:=Hid.mk' f;obtain⟨vt,B⟩:=hE (U3 (wn n++aA p).toArray);obtain⟨vp,F⟩:=hE (U3 (aA p).toArray);rw[F.out]at Y B2;rw[B.out]at Q;go_wp2_with (first|(refine U6 rfl 226 _ rfl g (37*i) ?_ (wn n++aA p) d' ?_ ?_ ?_ ?_ ?_;rfl;exact B0.out;exact K.2.1;exact K.2.2;exact L.out;rw[B.out])|(refine bG (v:=jZ wr.heap.size) (w':=T) rfl (.alloc 226) rfl ?_ ?_;(rw[<-h0.out];kernel_rfl))|(refine U2 rfl 226 _ _ rfl wr.heap.size 0 (wn n++aA p).toArray ?_ ?_ ?_ ?_ ?_ ?_;rfl;exact B.symm;exact H.2;exact H.1;exact X.out;rw[show(wn n++aA p).toArray.toList=wn n++aA p from rfl,U.out])|(refine U6 rfl 103 _ rfl wr.heap.size 4 ?_ (aA p) d ?_ ?_ ?_ ?_ ?_;rfl;exact HB.out;exact K.1.1;exact K.1.2;exact h1.out;rw[F.out])|(refine zA (x:=.map (some w.heap.size)) (y:=vp) (w':=G) rfl 278 _ _ true rfl ?_ ?_ Y.out ?_;rfl;rfl)|(refine Gi (x:=.map (some w.heap.size)) (y:=vp) (z:=iZ (l.length:Int)) (w':=P) rfl 278 _ _ _ rfl ?_ ?_ ?_ B2.out ?_;rfl;rfl;rfl)|(refine U6 rfl 226 _ rfl wr.heap.size 0 ?_ (wn n++aA p) d' ?_ ?_ ?_ ?_ ?_;rfl;exact F3.1.2.1;exact K.2.1;exact K.2.2;exact L.out;rw[B.out])|(refine jC (v:=.slice (some ⟨wr.heap.size+1,0,none⟩) 1 1) (w':=W4) rfl 131 1 _ rfl #[(0,vt)] ?_ Q.out ?_;kernel_rfl)|(refine lK (x:=.slice q l.length cap) (y:=.slice (some ⟨wr.heap.size+1,0,none⟩) 1 1) (v:=v') (w':=W5) rfl _ _ 131 rfl ?_ ?_ ?_ ?_;rfl;rfl;exact V.out))
    go_roundg (gk-1)
    case measure=>omega
    case rel=>exact⟨i+1,oM,rfl,k6⟩
   | some j =>
    obtain⟨-,A,h4,-⟩:=at?_some (N:=N) D;rw[YT]at A;simp only[YT]at h4;have Y:=Hid.mk' (Cj r.out (l.map (·.2)) C w.heap.size l.length G S.mp);rw[D]at Y;obtain⟨f,ke,hm,-,k3,ka⟩:=sH S.ow C oM;injection hm with q1 q2 q3
    subst q1;obtain⟨s,h3⟩:∃s,Hid ((l[j]'A).1=s):=⟨(l[j]'A).1,(rfl:(l[j]'A).1=(l[j]'A).1)⟩
    have hy:Hid (s<N):=by
     have:=DF J.1 ns o J.2.2.1 i oM;rw[hl.out]at this;rw[<-h3.out];exact this _ (VH A)
    have kb:Hid (n<N):=by rw[<-E.out];exact J.2.2.1 i hi
    have B0:Hid (wr.rangeAt g (37*i) (wn n++aA p)):=by
     have h:=RG.range_below (J.2.2.2.2 i hi) KM.bl J.2.2.2.1;rw[E.out,I.out]at h;exact h
    have L:Hid ((prog.info? 226).map (·.size)=some (wn n++aA p).length):=by show _=_;rw[m];exact iT
    have H:Hid ((prog.info? 226).map (·.size)=some (wn n++aA p).toArray.size/\T.there wr.heap.size 0 (wn n++aA p).toArray.size):=by
     have e:(wn n++aA p).toArray.size=37:=by rw[VC];exact m
     rw[e];exact⟨iT,F1.1.2.2⟩
    have h1:Hid ((prog.info? 103).map (·.size)=some (aA p).length):=by show _=_;rw[aB r.out];exact cV
    have HB:=mk1 (lT (xs:=wn n) Z.1.2.1);have X:Hid ((wn n++aA p).toArray.all (·.oneCell')=true):=by
     show _=_;rw[WX];intro u hu;exact cells_one n p u (X6.1 hu)
    have hz:=atT g 0 k c i hi;obtain⟨vt,B⟩:=hE (U3 (wn n++aA p).toArray);obtain⟨vp,F⟩:=hE (U3 (aA p).toArray);rw[F.out]at Y;have Q:=mk1 (A);have HS:Hid (∀h:j<l.length,(l[j]'h).1=s):=λ_=>h3.out
    have HJ:=mk2 D C;have HK:=mk2 S.out Z.1;have KN:Hid (mrg N ns o (i+1)=fA N l n p):=by
     show fA N (mrg N ns o i) (ns i) (o i)=_;rw[hl.out,E.out,I.out]
    clear m C S KM h4 q2 q3 ka k3;clear D;go_wp2_with (first|(refine U6 rfl 226 _ rfl g (37*i) ?_ (wn n++aA p) d' ?_ ?_ ?_ ?_ ?_;rfl;exact B0.out;exact K.2.1;exact K.2.2;exact L.out;rw[B.out])|(refine bG (v:=jZ wr.heap.size) (w':=T) rfl (.alloc 226) rfl ?_ ?_;(rw[<-h0.out];kernel_rfl))|(refine U2 rfl 226 _ _ rfl wr.heap.size 0 (wn n++aA p).toArray ?_ ?_ ?_ ?_ ?_ ?_;rfl;exact B.symm;exact H.2;exact H.1;exact X.out;rw[show(wn n++aA p).toArray.toList=wn n++aA p from rfl,U.out])|(refine U6 rfl 103 _ rfl wr.heap.size 4 ?_ (aA p) d ?_ ?_ ?_ ?_ ?_;rfl;exact HB.out;exact K.1.1;exact K.1.2;exact h1.out;rw[F.out])|(refine zA (x:=.map (some w.heap.size)) (y:=vp) (w':=G) rfl 278 _ _ true rfl ?_ ?_ Y.out ?_;rfl;rfl)|fail)
    refine(Ga w w.heap.size f cap wr.heap.size j s n (sPl N s n) l p).last 12 kR kR kR ⟨
     bN λa W b=>⟨[(4,sZ f l.length cap)],sZ f l.length cap,W,⟨b.o 4 kR,yCl⟩,kR,UR _ _,rfl⟩,
     bN λa W b=>⟨[(7,iZ j)],iZ j,W,⟨b.o 7 kR,yCl⟩,kR,UR _ _,rfl⟩,
     bN λa W b=>⟨[(4,sZ f l.length cap)],sZ f l.length cap,W,⟨b.o 4 kR,yCl⟩,kR,UR _ _,rfl⟩,
     bN λa W b=>⟨[(7,iZ j)],iZ j,W,⟨b.o 7 kR,yCl⟩,kR,UR _ _,rfl⟩,
     bN λa W b=>⟨[(36,sZ f l.length cap),(37,iZ j)],.pointer (some ⟨f,0+37*j,none⟩),W,⟨b.n 2 36 kR kR,b.n 3 37 kR kR,yCl⟩,by
      rw[V6.injEq];refine⟨kR,?_⟩;show((Vl 131 (sZ f l.length cap) (iZ j)) >>= λv=>pure (Xp v)).run prog W=_;rw[UV,atT f 0 l.length cap j Q.out];rfl,UR _ _,rfl⟩,
     bN λa W b=>⟨[(38,.pointer (some ⟨f,0+37*j,none⟩))],.pointer (some ⟨f,0+37*j,none⟩),W,⟨b.n 4 38 kR kR,yCl⟩,kR,UR _ _,rfl⟩,
     iQ 49 39 rfl Go.Proofs.YtdoammpgchejcaaGreat.u40 λa W b=>⟨f,0+37*j,wn s,b.n 5 39 kR kR,by
      obtain⟨g5,kd,k9,-,-,V⟩:=sH b.b.1.ow HJ.2 (by have:=Q.out;omega);injection k9 with q1 q2 q3
      injection q1 with q1
      injection q1 with q1
      subst q1;have:=V j Q.out;rw[HS Q.out]at this;rw[UD];exact range_front' this,i40,rfl⟩,
     bN λa W b=>⟨[(6,jZ wr.heap.size)],jZ wr.heap.size,W,⟨b.o 6 kR,yCl⟩,kR,UR _ _,rfl⟩,
     iQ 49 41 rfl Go.Proofs.YtdoammpgchejcaaGreat.u40 λa W b=>⟨wr.heap.size,0,wn n,b.n 7 41 kR kR,kA b.b.2.2.1,i40,rfl⟩,
     gK λa W b=>⟨[(40,nv s),(42,nv n)],80,#[nv s,nv n],⟨b.n 6 40 kR kR,b.n 8 42 kR kR,yCl⟩,kR,(mY J.1 s n hy.out kb.out W).mono (by
      rintro e W' ⟨u,rfl,V,rfl⟩;exact⟨_,rfl,V,rfl⟩)⟩,
     bN λa W b=>⟨[(34,sZ f l.length cap),(35,iZ j)],.pointer (some ⟨f,0+37*j,none⟩),W,⟨b.n 0 34 kR kR,b.n 1 35 kR kR,yCl⟩,by
      rw[V6.injEq];refine⟨kR,?_⟩;show((Vl 131 (sZ f l.length cap) (iZ j)) >>= λv=>pure (Xp v)).run prog W=_;rw[UV,atT f 0 l.length cap j Q.out];rfl,UR _ _,rfl⟩,
     bN λa W b=>⟨[(44,.pointer (some ⟨f,0+37*j,none⟩))],.pointer (some ⟨f,0+37*j,none⟩),W,⟨b.n 10 44 kR kR,yCl⟩,kR,UR _ _,rfl⟩,yCl⟩ ⟨HK.1.drew,HK.2⟩ ?_
    intro V P h8 h5;have k4:=h8 9 dC;have h6:=h8 11 dC;obtain⟨W4,M⟩:=hE (P.setCells f (37*j) (wn (sPl N s n)));have K4:Hid (Mx w W4 w.heap.size (mrg N ns o (i+1)) (sZ f l.length cap)):=by
     rw[<-M.out,KN.out,<-(HS Q.out)];exact h5.1.again HJ.2 HJ.1 Q.out n
    have k1:Hid (P.there f (37*j) 4):=by
     intro t ht;have hj:=Q.out;rcases h5.1.ow.2 with⟨h,-⟩|⟨g2,b,cur,he,-,hc,hn,-,hs,-⟩
     ·cases h
     ·injection he with he1 he2 he3
      injection he1 with he1
      injection he1 with he1
      subst he1;have hq:37*j+t<cur.size:=by
       rw[hs];have:(j+1)*37<=b*37:=Xs 37 oM;omega
      refine⟨?_,?_⟩
      ·simp[VY,hc,hq]
      ·simp[WW,hc]
    dsimp only[bU,VK,List.take,List.drop];simp only[Act.put,List.setIfInBounds_toArray,Uu,List.set_cons_zero];obtain⟨vz,b⟩:=hE (nv (sPl N s n));rw[k4,h6,b.out,UD];go_wp2_with (first|(refine U2 rfl 49 _ _ rfl f (37*j) (wn (sPl N s n)).toArray ?_ ?_ ?_ ?_ ?_ ?_;rfl;exact b.symm;exact k1.out;exact i40;exact aM (sPl N s n);rw[show(wn (sPl N s n)).toArray.toList=wn (sPl N s n) from rfl,M.out])|fail)
    go_roundg (gk-1)
    case measure=>omega
    case rel=>exact⟨i+1,oM,rfl,K4⟩
  ·have kc:¬(i:Int)<(k:Int):=oM;obtain rfl:i=k:=oM;go_wp2_with fail
   refine(h9 wr _ KM.out).mono ?_;rintro e r ⟨m,rfl,f⟩;have b:=Hid.mk' f;go_wp2;go_ret;exact⟨_,rfl,b.out⟩
end
section
variable {P:Nat}[NeZero P]{N:Nat}
def LF(l:List (Nat × Bs)):List (Nat × Bs):=l.filter λx=>x.1 != 0
theorem oO{l:List (Nat × Bs)}{j:Nat}(k:j<l.length):LF (l.take (j+1))=LF (l.take j)++(if (l[j]).1=0 then [] else [l[j]]):=by
 unfold LF;rw[ZH,UG k,List.filter_append]
 congr 1
 by_cases h:(l[j]).1=0
 ·simp[h]
 ·simp[h]
theorem Oe(l:List (Nat × Bs))(j:Nat):(LF (l.take j)).length<=j:=
 UC (yAl _ _) (by rw[WF];exact Nat.min_le_left _ _)
theorem Br{l:List (Nat × Bs)}{x:Nat × Bs}(h:x∈LF l):x∈l:=(Y5.1 h).1
theorem uD{ns:Nat->Nat}:∀(m i:Nat),(∃j,i<=j/\j<i+m/\ns j=0)->∃k,kL ns i m=((k:Nat):Int)/\i<=k/\k<i+m/\ns k=0/\∀j,i<=j->j<k->ns j≠0
 | 0,i,h=>by obtain⟨j,g,f,-⟩:=h;omega
 | m+1,i,h=>by
  unfold kL;by_cases b:ns i=0
  ·rw[yCj b];exact⟨i,rfl,Uw _,oM,b,λj g f=>oM⟩
  ·rw[yCk b];obtain⟨j,g,f,e⟩:=h;obtain⟨k,p,q,e3,o,l⟩:=uD m (i+1) ⟨j,by
    rcases Wq i j with h|h
    ·omega
    ·obtain rfl:j=i:=oM;exact absurd e b,oM,e⟩
   refine⟨k,p,oM,oM,o,λd n c=>?_⟩;rcases Wq i d with h|h
   ·exact l d h c
   ·obtain rfl:d=i:=oM;exact b
def Rw(W:Ur)(g j:Nat)(x:Nat × Bs):Prop:=W.rangeAt g (37*j) (wn x.1++aA x.2)
theorem Rw.below{W W':Ur}{g j:Nat}{x:Nat × Bs}(h:Rw W g j x)(b:kZ W W')(k:g<W.heap.size):Rw W' g j x:=RG.range_below h b k
structure Dz(base:Nat)(w W:Ur)(g:Nat)(l:List (Nat × Bs))(j:Nat):Prop where
 bl:Below base w W
 hb:base<=W.heap.size
 lt:g<W.heap.size
 th:W.there g 0 (37*l.length)
 lo:∀a (ha:a<(LF (l.take j)).length),Rw W g a ((LF (l.take j))[a])
 hi:∀b (hb:b<l.length),j<=b->Rw W g b (l[b])
theorem Dz.grow{k:Nat}{w W W':Ur}{g:Nat}{l:List (Nat × Bs)}{j:Nat}(h:Dz k w W g l j)(c:kZ W W'):Dz k w W' g l j:=
 ⟨h.bl.trans (c.mono h.hb),UC h.hb c.size,Ux h.lt c.size,dJ h.th c h.lt,λa e=>(h.lo a e).below c h.lt,λb d f=>(h.hi b d f).below c h.lt⟩
theorem Dz.skip{k:Nat}{w W:Ur}{g:Nat}{l:List (Nat × Bs)}{j:Nat}(h:Dz k w W g l j)(c:j<l.length)(f:(l[j]).1=0):Dz k w W g l (j+1):=by
 have e:LF (l.take (j+1))=LF (l.take j):=by rw[oO c,yCj f,Xu]
 exact⟨h.bl,h.hb,h.lt,h.th,λa d=>by
  have m:=h.lo a (by rw[<-e];exact d);simp only[e];exact m,λb i c=>h.hi b i oM⟩
theorem Dz.put{k:Nat}{w W:Ur}{g:Nat}{l:List (Nat × Bs)}{j:Nat}(h:Dz k w W g l j)(u:k<=g)(p:∀x∈l.map (·.2),x.size=33)(n:j<l.length)(s:(l[j]).1≠0):
 Dz k w (W.setCells g (37*(LF (l.take j)).length) (wn (l[j]).1++aA (l[j]).2)) g l (j+1):=by
 have e:LF (l.take (j+1))=LF (l.take j)++[l[j]]:=by rw[oO n,yCk s]
 have r:=Oe l j;have f:∀x∈l,(wn x.1++aA x.2).length=37:=λx hx=>gJ (p x.2 (Vn.2 ⟨x,hx,rfl⟩))
 have c:=f (l[j]) (VH n);refine⟨RG.below_setCells u _ _ _ h.bl,by rw[setCells_size];exact h.hb,by rw[setCells_size];exact h.lt,VW h.th _ _ _,λa m=>?_,λb v o=>?_⟩
 ·simp only[e]at m⊢;by_cases d:a<(LF (l.take j)).length
  ·rw[List.getElem_append_left d];have q:=h.lo a d;have i:=yAp (Br (VH d));exact Vh q g _ _ (UX (U4 (by rw[f _ i];omega)))
  ·have i:a=(LF (l.take j)).length:=by rw[UA,List.length_singleton]at m;omega
   subst i;rw[List.getElem_append_right (Uw _)];simp only[Nat.sub_self,List.getElem_singleton];refine VO W g _ _ λt q=>?_
   rw[c]at q;have:=h.th (37*(LF (l.take j)).length+t) oM;rwa[UD]at this
 ·exact Vh (h.hi b v oM) g _ _ (UX (UX (by rw[c];omega)))
theorem Hg(n:Nat):∀v∈(WE (U3 zT.toArray).cells n).toList,v.oneCell'=true:=by
 intro v hv;have b:=Ol;have d:(U3 zT.toArray).cells.size=37:=kR;unfold WE at hv;rw[Array.toList_map]at hv;obtain⟨i,-,rfl⟩:=Vn.1 hv;have k:i%(U3 zT.toArray).cells.size<(U3 zT.toArray).cells.size:=V5 _ (by rw[d];decide);rw[getElem!_pos (U3 zT.toArray).cells _ k];exact b _ (by
  have e:(U3 zT.toArray).cells.toList=zT:=kR;have c:=Array.getElem_mem_toList k;rwa[e]at c)
theorem MS(g i n c:Nat)(w:Ur)(p:0<n)(h:w.there g 0 (37*(i+n))):∃Z:List Ut,∀d,(yAK #[131] d #[.slice (some ⟨g,37*i,none⟩) n c]).run prog w=.ok (.tuple #[]) (w.setCells g (37*i) Z):=by
 have e:=Oj w;have f:=XY C4 w;have ho:=Hg n;have k:(WE (U3 zT.toArray).cells n).toList.length=n*37:=by
  have:(U3 zT.toArray).cells.size=37:=kR;rw[UK,size_zeroCells,this]
 generalize (U3 zT.toArray)=m at e ho k;generalize o:(WE m.cells n).toList=Z at ho k;have l:(storeCells ⟨g,37*i,none⟩ Z).run prog w=.ok () (w.setCells g (37*i) Z):=
  run_storeCells_cells (P:=prog) g (37*i) Z 0 w (λj b=>by rw[k]at b;have:=(h (37*i+j) oM).1;simpa using this) (λj b=>by rw[k]at b;have:=(h (37*i+j) oM).2;simpa using this) ho
 refine⟨Z,λd=>?_⟩;obtain⟨b,rfl⟩:∃b,n=b+1:=⟨n-1,oM⟩
 unfold yAK;simp[UV,f,e,o,l]
theorem To(g n c i:Nat)(e:i<=n)(k:n<=c)(w:Ur):(Xn 131 (sZ g n c) none (some (iZ i)) none).run prog w=.ok (sZ g i c) w:=by
 have d:¬(i:Int)<0:=oM;have b:(i:Int)<=(c:Int):=oM;go_simp
theorem Tn(g n c i:Nat)(e:i<n)(k:n<=c)(w:Ur):(Xn 131 (sZ g n c) (some (iZ i)) none none).run prog w=.ok (.slice (some ⟨g,37*i,none⟩) (n-i) (c-i)) w:=by
 have d:¬(i:Int)<0:=oM;have b:(i:Int)<=(n:Int):=oM;go_simp;rw[yCk oM,Vv]
def TmL(W:Ur)(q:Option Wu)(l:List (Nat × Bs)):Prop:=0<l.length->∃g,q=some (aZ g)/\g<W.heap.size/\∀j (k:j<l.length),W.rangeAt g (37*j) (wn (l[j]).1++aA (l[j]).2)
def Un(k:Nat)(l:List (Nat × Bs))(w:Ur)(e:Ut)(w':Ur):Prop:=Below k w w'/\∃q cap,e=.slice q (LF l).length cap/\TmL w' q (LF l)
theorem Gc{l:List (Nat × Bs)}(h:∀x∈l,x.1≠0):LF l=l:=List.filter_eq_self.2 λx hx=>by simpa using h x hx
theorem Od{l:List (Nat × Bs)}{k:Nat}(d:k<l.length)(b:(l[k]).1=0):∀j,k<j->j<=l.length->(LF (l.take j)).length<j
 | 0,h,_=>oM
 | j+1,h,hj=>by
  rw[oO oM,UA];rcases Wq k j with c|c
  ·have:=Od d b j c oM;split<;>simp<;>omega
  ·obtain rfl:j=k:=oM;rw[yCj b];have:=Oe l j;simp;omega
theorem JK(l:List (Nat × Bs))(hm:0<l.length)(hy:l.length<=1000)(hs:∀x∈l.map (·.2),x.size=33)(hn:∀x∈l,x.1<top)(d:Nat)(v:Ut)(w:Ur)(hb:d<=w.heap.size)(ho:w.ownsRow d 226 37 v l.length (aU l)):
 UH prog 204 #[v,.func (.func 205) #[] #[]] w (Ret (Un d l w)):=by
 obtain⟨g,c,rfl,h3,A,U⟩:=sH ho hs hm;have F:∀(j:Nat) (k:j<l.length),(l[j]).2.size=33:=λj k=>hs _ (Vn.2 ⟨_,VH k,rfl⟩)
 have D:l.length<=c/\w.there g 0 (37*l.length):=by
  rcases ho.2 with⟨h,-⟩|⟨z,r,cur,y,-,q,f,-,o,-⟩
  ·cases h
  ·injection y with he1 he2 he3
   injection he1 with he1
   injection he1 with he1
   subst he1;subst he3;refine⟨f,λt ht=>?_⟩;have s:0+t<cur.size:=by
    rw[o];have:l.length*37<=c*37:=Xs 37 f;omega
   exact⟨by simp only[VY,q];simp;omega,by simp[WW,q]⟩
 by_cases z:∀x∈l,x.1≠0
 ·have I:=Gc z;refine(Cw g l.length c oM (λj=>((l[j]?).getD (0,#[])).1) (λj=>((l[j]?).getD (0,#[])).2) (λj k=>by rw[UG k];exact hn _ (VH k)) (λj k=>by rw[UG k];exact z _ (VH k)) (λj k=>by rw[UG k];exact F j k) w A (λj k=>by rw[UG k];exact U j k)).mono ?_;rintro e o ⟨vv,rfl,f,rfl⟩;refine⟨_,rfl,f.mono hb,some (aZ g),c,by rw[I],?_⟩;rw[I];exact λ_=>⟨g,rfl,Ux A f.size,λj k=>RG.range_below (U j k) f A⟩
 ·have hI:=E8 g l.length c oM (λj=>((l[j]?).getD (0,#[])).1) (λj=>((l[j]?).getD (0,#[])).2) (λj k=>by rw[UG k];exact hn _ (VH k)) (λj k=>by rw[UG k];exact F j k) w A (λj k=>by rw[UG k];exact U j k);obtain⟨q,e1,-,e3,T,e5⟩:=uD (ns:=λj=>((l[j]?).getD (0,#[])).1) l.length 0 (by
   have:∃x,x∈l/\x.1=0:=Wt λh=>z λx hx J=>h ⟨x,hx,J⟩
   obtain⟨x,hx,f⟩:=this;obtain⟨j,k⟩:=WJ hx;exact⟨j,Wy _,by have:=(UF.1 k).1;omega,by show((l[j]?).getD (0,#[])).1=0;rw[k];exact f⟩)
  rw[e1]at hI;have G:q<l.length:=oM;have E:(l[q]).1=0:=by
   have:((l[q]?).getD (0,#[])).1=0:=T;rw[UG G]at this;exact this
  have B:LF (l.take q)=l.take q:=Gc λx hx=>by
   obtain⟨j,k⟩:=WJ hx;rw[WA]at k;split at k
   ·rename_i hji
    have:=e5 j (Wy _) hji;have f:((l[j]?).getD (0,#[])).1≠0:=this;rw[k]at f;exact f
   ·cases k
  have C:(LF (l.take q)).length=q:=by rw[B,WF];omega
  have D0:Dz d w w g l q:=⟨UR _ _,hb,A,D.2,λa M=>by
   simp only[B]at M⊢;rw[List.getElem_take];exact U a _,λb f _=>U b f⟩
  have D1:Dz d w w g l (q+1):=D0.skip G E;have e6:(LF (l.take (q+1))).length=q:=by rw[oO G,yCj E,Xu];exact C
  have HI:=Hid.mk' hI;have HZ:Hid (∀j,q<j->j<=l.length->(LF (l.take j)).length<j):=Od G E;have h1:=Hid.mk' D1;have H:Hid (d<=g/\l.length<=c/\(∀x∈l.map (·.2),x.size=33)/\(∀x∈l,x.1<top)/\∀(j:Nat) (k:j<l.length),(l[j]).2.size=33):=⟨h3,D.1,hs,hn,F⟩
  obtain⟨d',h7,h8⟩:=Uy.1 uT;have R:Hid (prog.underlying 226=some d'/\d'.isRow=true):=⟨h7,h8⟩
  have hq:¬((q:Int) = -1):=oM;clear h7 h8 hI D0 D1 hs hn ho U F D z e1 T e5 B C E h3 A;go_enter func204,ntmps204;go_wp2_with fail
  refine HI.mono ?_;rintro e w1 ⟨vv,rfl,h2,rfl⟩;have K1:Hid (Dz d w w1 g l (q+1)):=h1.grow h2;clear h2 HI h1;go_wp2_with fail
  go_loopg [5,6] (l.length-(q+1)) (λm s5 s6 W=>∃j:Nat,q<j/\j+m=l.length/\s6=iZ j/\s5=iZ ((LF (l.take j)).length:Int)/\Hid (Dz d w W g l j))
  case atStart=>exact⟨q+1,oM,oM,rfl,by rw[e6],K1⟩
  case round =>
   clear K1;obtain⟨j,h9,hz,rfl,rfl,K⟩:=hrel;by_cases k:j<l.length
   ·have hi:(j:Int)<(l.length:Int):=oM;obtain⟨n,r⟩:∃n,Hid ((l[j]'k).1=n):=⟨(l[j]'k).1,(rfl:(l[j]'k).1=(l[j]'k).1)⟩
    obtain⟨p,Q⟩:∃p,Hid ((l[j]'k).2=p):=⟨(l[j]'k).2,(rfl:(l[j]'k).2=(l[j]'k).2)⟩
    obtain⟨i,o⟩:∃i,Hid ((LF (l.take j)).length=i):=⟨_,rfl⟩
    have y:i<l.length:=by have:=HZ.out j h9 oM;rw[o.out]at this;omega
    rw[o.out];have X:Hid (p.size=33):=by rw[<-Q.out];exact H.2.2.2.2 j k
    have hl:Hid (n<top):=by rw[<-r.out];exact H.2.2.2.1 _ (VH k)
    have B0:Hid (wr.rangeAt g (37*j) (wn n++aA p)):=by
     have h:=K.hi j k (Uw _);unfold Rw at h;rw[r.out,Q.out]at h;exact h
    obtain⟨L,h4⟩:∃L,Hid (wr.alloc (.cells zT.toArray 226)=L):=⟨_,rfl⟩
    obtain⟨S,V⟩:∃S,Hid (L.setCells wr.heap.size 0 (wn n++aA p)=S):=⟨_,rfl⟩
    have s:(wn n++aA p).length=37:=gJ X.out;have F1:Hid (Row L wr.heap.size zT/\kZ wr L/\L.heap.size=wr.heap.size+1):=by rw[<-h4.out];exact⟨aE wr _ _,aC wr _,UB _ _⟩
    have F2:Hid (Row S wr.heap.size (wn n++aA p)/\kZ wr S):=by rw[<-V.out];exact⟨F1.1.put (by rw[s];rfl),RG.below_setCells (Uw _) _ _ _ F1.2.1⟩
    have P:Hid ((prog.info? 226).map (·.size)=some (wn n++aA p).length):=by show _=_;rw[s];exact iT
    have N:Hid ((prog.info? 226).map (·.size)=some (wn n++aA p).toArray.size/\L.there wr.heap.size 0 (wn n++aA p).toArray.size):=by
     have e:(wn n++aA p).toArray.size=37:=by rw[VC];exact s
     rw[e];exact⟨iT,F1.1.2.2⟩
    have Z:Hid ((wn n++aA p).toArray.all (·.oneCell')=true):=by
     show _=_;rw[WX];intro u f;exact cells_one n p u (X6.1 f)
    have hw:=atT g 0 l.length c j k;obtain⟨vt,h5⟩:∃v,Hid (tvl n p=v):=⟨_,rfl⟩
    have f:Hid (U3 (wn n++aA p).toArray=vt):=h5;have K2:Hid (Dz d w S g l j):=K.grow F2.2;have HN:=Hid.mk' (I1 hl.out X.out S);rw[h5.out]at HN;clear K;go_wp2_with (first|(refine U6 rfl 226 _ rfl g (37*j) ?_ (wn n++aA p) d' ?_ ?_ ?_ ?_ ?_;rfl;exact B0.out;exact R.1;exact R.2;exact P.out;rw[f.out])|(refine bG (v:=jZ wr.heap.size) (w':=L) rfl (.alloc 226) rfl ?_ ?_;(rw[<-h4.out];kernel_rfl))|(refine U2 rfl 226 _ _ rfl wr.heap.size 0 (wn n++aA p).toArray ?_ ?_ ?_ ?_ ?_ ?_;rfl;exact f.symm;exact N.2;exact N.1;exact Z.out;rw[show(wn n++aA p).toArray.toList=wn n++aA p from rfl,V.out])|(refine U6 rfl 226 _ rfl wr.heap.size 0 ?_ (wn n++aA p) d' ?_ ?_ ?_ ?_ ?_;rfl;exact F2.1.2.1;exact R.1;exact R.2;exact P.out;rw[f.out])|fail)
    refine HN.mono ?_;rintro e Y ⟨vv,rfl,O,rfl⟩;have K3:Hid (Dz d w Y g l j/\Row Y wr.heap.size (wn n++aA p)):=⟨K2.grow O,F2.1.below O⟩
    clear O K2 HN F2 F1;by_cases J:n=0
    ·rw[show decide (n=0)=true by simp[J]];have K4:Hid (Dz d w Y g l (j+1)):=K3.1.skip k (by rw[r.out];exact J);have T:Hid ((LF (l.take (j+1))).length=i):=by
      show _=_;rw[oO k,yCj (by rw[r.out];exact J),Xu];exact o.out
     go_wp2;go_roundg (gk-1)
     case measure=>omega
     case rel=>exact⟨j+1,oM,oM,rfl,by rw[T.out],K4⟩
    ·rw[show decide (n=0)=false by simp[J]];obtain⟨W4,hg⟩:∃W4,Hid (Y.setCells g (37*i) (wn n++aA p)=W4):=⟨_,rfl⟩
     have K4:Hid (Dz d w W4 g l (j+1)):=by
      have h:=K3.1.put H.1 H.2.2.1 k (by rw[r.out];exact J);rw[o.out,r.out,Q.out,hg.out]at h;exact h
     have T:Hid ((LF (l.take (j+1))).length=i+1):=by
      show _=_;rw[oO k,yCk (by rw[r.out];exact J),UA,o.out];rfl
     have hk:Hid (Y.there g (37*i) (wn n++aA p).toArray.size):=by
      have e:(wn n++aA p).toArray.size=37:=by rw[VC];exact s
      rw[e];intro t ht;have:=K3.1.th (37*i+t) oM;rwa[UD]at this
     have hp:=atT g 0 l.length c i y;go_wp2_with (first|(refine U6 rfl 226 _ rfl wr.heap.size 0 ?_ (wn n++aA p) d' ?_ ?_ ?_ ?_ ?_;rfl;exact K3.2.2.1;exact R.1;exact R.2;exact P.out;rw[f.out])|(refine U2 rfl 226 _ _ rfl g (37*i) (wn n++aA p).toArray ?_ ?_ ?_ ?_ ?_ ?_;rfl;exact f.symm;exact hk.out;exact N.1;exact Z.out;rw[show(wn n++aA p).toArray.toList=wn n++aA p from rfl,hg.out])|fail)
     go_roundg (gk-1)
     case measure=>omega
     case rel=>exact⟨j+1,oM,oM,rfl,by rw[T.out];rfl,K4⟩
   ·have hi:¬(j:Int)<(l.length:Int):=oM;obtain rfl:j=l.length:=oM;have I:LF (l.take l.length)=LF l:=by rw[yAZ]
    rw[I];have y:(LF l).length<l.length:=by have:=HZ.out l.length h9 (Uw _);rw[I]at this;exact this
    have s:∀a (M:a<(LF l).length),Rw wr g a ((LF l)[a]):=λa M=>by
     have:=K.lo a (by rw[I];exact M);simp only[I]at this;exact this
    have f:∀x∈LF l,(wn x.1++aA x.2).length=37:=λx hx=>gJ (H.2.2.1 _ (Vn.2 ⟨x,Br hx,rfl⟩))
    obtain⟨Z,O⟩:=MS g (LF l).length (l.length-(LF l).length) (c-(LF l).length) wr oM (by rw[show(LF l).length+(l.length-(LF l).length)=l.length by omega];exact K.th);obtain⟨J,r⟩:∃J,Hid (wr.setCells g (37*(LF l).length) Z=J):=⟨_,rfl⟩
    rw[r.out]at O;have P:Hid (Below d w J/\TmL J (some (aZ g)) (LF l)):=by
     rw[<-r.out];refine⟨RG.below_setCells H.1 _ _ _ K.bl,λ_=>⟨g,rfl,by rw[setCells_size];exact K.lt,λa M=>?_⟩⟩;exact Vh (s a M) g _ _ (UX (U4 (by rw[f _ (VH M)];omega)))
    have N:=Tn g l.length c (LF l).length y H.2.1;have L:=To g l.length c (LF l).length oM H.2.1;clear K s f I r;obtain⟨i,o⟩:∃i,Hid ((LF l).length=i):=⟨_,rfl⟩
    rw[o.out]at N L O y⊢;go_wp2;go_ret;exact⟨_,rfl,P.1,some (aZ g),c,by rw[o.out];rfl,P.2⟩
theorem QD{p:Option Wu}{n c:Nat}{x:UInt8}:encB x≠.slice p n c:=λh=>by cases h
def El(n:Nat)(W:Ur)(x:Ut)(b:Bs):Prop:=∃k c,x=sZ k n c/\n<=c/\b.size=n/\k<W.heap.size/\Holds encB W k 0 b
def isL(n:Nat)(W:Ur)(g:Nat):Prop:=∃p c,W.cell? ⟨g,0,none⟩=some (.slice p n c)
structure Gr(n:Nat)(v:Ut)(W W':Ur):Prop where
 gr:W.grownBy W' v.ownBlock
 is:∀g,v.ownBlock=some g->isL n W g
theorem Gr.of{W W':Ur}{n:Nat}(h:kZ W W'):Gr n (.slice none 0 0) W W':=
 ⟨⟨h.os,h.tape,h.output,h.size,λk c _=>h.block k c⟩,λg b=>by cases b⟩
theorem Gr.below{n:Nat}{v:Ut}{w W W':Ur}{B:Nat}(h:Gr n v W W')(c:Below B w W)(b:B<=W.heap.size)(hv:∀g,v.ownBlock=some g->B<=g):Below B w W':=
 c.grown h.gr b (λk d=>hv k d)
theorem Gr.block{n k:Nat}{v:Ut}{W W':Ur}(h:Gr n v W W')(f:k<W.heap.size)(b:∀p c,W.cell? ⟨k,0,none⟩≠some (.slice p n c)):W'.heap[k]? = W.heap[k]? :=
 h.gr.block k f λe=>by
  obtain⟨p,c,d⟩:=h.is k e.symm;exact b p c d
theorem Holds.kept{W W':Ur}{k:Nat}{b:Bs}(h:Holds encB W k 0 b)(e:W'.heap[k]? = W.heap[k]?):Holds encB W' k 0 b:=λj c=>by
 rw[UW (a:=⟨k,0+j,none⟩) e,VU (a:=⟨k,0+j,none⟩) e];exact h j c
theorem El.kept{m n:Nat}{v x:Ut}{W W':Ur}{b:Bs}(h:El m W x b)(l:0<m)(f:Gr n v W W'):El m W' x b:=by
 obtain⟨k,c,rfl,j,i,d,e⟩:=h;refine⟨k,c,rfl,j,i,Ux d f.gr.size,Holds.kept e (f.block d λp o g=>?_)⟩;have:=(e 0 oM).1;rw[UD,g]at this;exact QD (UO.inj this).symm
theorem Row.kept{n k:Nat}{v:Ut}{W W':Ur}{vs:List Ut}(h:Row W k vs)(g:Gr n v W W')(b:∀p c,vs[0]?≠some (.slice p n c))(f:0<vs.length):Row W' k vs:=by
 have e:=g.block h.1 λp c i=>by
  have d:=h.2.1 0 vs[0] (UG f);rw[UD,i]at d;exact b p c (by rw[UG f,d])
 refine⟨Ux h.1 g.gr.size,λj u d=>?_,λj d=>?_⟩
 ·rw[UW (a:=⟨k,0+j,none⟩) e];exact h.2.1 j u d
 ·rw[UW (a:=⟨k,0+j,none⟩) e,VU (a:=⟨k,0+j,none⟩) e];exact h.2.2 j d
structure Lo(n base:Nat)(W:Ur)(v:Ut)(bs:List Bs):Prop where
 ex:∃xs:List Ut,xs.length=bs.length/\W.ownsRow base 23 1 v bs.length xs/\∀(j:Nat) (x:Ut) (b:Bs),xs[j]? = some x->bs[j]? = some b->El n W x b
 nil:bs=[]->v=.slice none 0 0
theorem Lo.begin(n k:Nat)(W:Ur):Lo n k W (.slice none 0 0) []:=⟨⟨[],rfl,yAH _ _ _ _,λj x b h=>by cases h⟩,λ_=>rfl⟩
theorem add0(g j:Nat):(⟨g,0,none⟩:Wu).add j=⟨g,j,none⟩:=by unfold Zi;split<;>simp_all
theorem Lo.isL{n d:Nat}{W:Ur}{v:Ut}{f:List Bs}(h:Lo n d W v f){g:Nat}(j:v.ownBlock=some g):isL n W g:=by
 obtain⟨xs,o,m,l⟩:=h.ex;have i:f≠[]:=λe=>by rw[h.nil e]at j;cases j
 cases f with
 | nil=>exact absurd rfl i
 | cons b r =>
  cases xs with
  | nil=>cases o
  | cons x xr =>
   obtain⟨k,c,rfl,-⟩:=l 0 x b rfl rfl;have:=m.cells j 0 _ rfl;rw[add0]at this;exact⟨_,_,this⟩
theorem Lo.lt{n k:Nat}{W:Ur}{v:Ut}{b:List Bs}(h:Lo n k W v b):∀g,v.ownBlock=some g->k<=g/\g<W.heap.size:=by
 obtain⟨xs,e,c,d⟩:=h.ex;exact c.lt
theorem Lo.kept{m n d:Nat}{W W':Ur}{v t:Ut}{l:List Bs}(h:Lo m d W v l)(s:0<m)(i:Gr n t W W')(f:m≠n):Lo m d W' v l:=by
 have r:=λ{g}=>h.isL (g:=g)
 obtain⟨xs,w,u,o⟩:=h.ex;refine⟨⟨xs,w,u.kept i.gr ?_,λj x b hx y=>(o j x b hx y).kept s i⟩,h.nil⟩;cases hv:v.ownBlock with
 | none=>exact U4 rfl
 | some g =>
  refine UX λe=>f ?_
  obtain⟨p,c,q⟩:=r hv;obtain⟨z,a,k⟩:=i.is g e.symm;rw[q]at k;injection k with k
  injection k with _ h5 _
theorem RP:(prog.info? 23).map (λi=>(i.size,i.bytes,i.zero.map λz=>z.cells.size))=some (1,24,some 1):=kR
theorem Td:prog.underlying 24=some (.slice 23):=kR
theorem Lo.app{n f g:Nat}{W:Ur}{v x:Ut}{o:List Bs}{b:Bs}(h:Lo n f W v o)(a:0<n)(hx:El n W x b)(B:W.cell? ⟨g,0,none⟩=some x)(O:o.length<=1000000)(N:f<=W.heap.size):
 ∃q W',(Vt #[24,24] 24 #[v,sZ g 1 1]).run prog W=.ok q W'/\Lo n f W' q (o++[b])/\Gr n v W W':=by
 obtain⟨i,H,t⟩:=Uy.1 RP;simp only[V6.injEq]at t;obtain⟨M,K,C⟩:=t;obtain⟨z,A,s⟩:=Uy.1 C;obtain⟨xs,w,J,L⟩:=h.ex;obtain⟨q,W',F,D,E,Q⟩:=Y1 (P:=prog) W f 24 24 23 i z 1 24 Td H A M K s dC v o.length xs J (aZ g) 1 1 [x] rfl
  (λj u r=>by
   cases j with
   | zero =>
    obtain rfl:x=u:=by simpa using r
    rw[add0];exact B
   | succ j=>simp at r) (λu l=>by
   obtain rfl:u=x:=by simpa using l
   obtain⟨k,c,rfl,-⟩:=hx;rfl) (by unfold maxLen;omega) oM N
 have G:Gr n v W W':=⟨E,λg I=>h.isL I⟩
 refine⟨q,W',F,⟨⟨xs++[x],by simp[w],by rw[UA];exact D,λj y c m l=>?_⟩,λe=>by simp at e⟩,G⟩;by_cases r:j<o.length
 ·rw[UT oM]at m l;exact(L j y c m l).kept a G
 ·rw[U1 oM]at m l;rw[w]at m;cases p:j-o.length with
  | zero =>
   rw[p]at m l;obtain rfl:x=y:=by simpa using m
   obtain rfl:b=c:=by simpa using l
   exact hx.kept a G
  | succ d=>rw[p]at m;simp at m
theorem Gu{a:Bs}(f:a.size=33)(w:Ur):UH prog 142 #[pvl a] w (rZ w λe w'=>El 33 w' e a):=by
 have g:=Hid.mk' (rM f w);obtain⟨c,k⟩:=hE (w.alloc (.cells (aA a).toArray 103));rw[k.out]at g;have K:Hid (Row c w.heap.size (aA a)/\kZ w c):=by rw[<-k.out];exact⟨aE w _ _,aC w _⟩
 obtain⟨va,b⟩:=hE (pvl a);have d:Hid ((Ve 103 va).run prog w=.ok (jZ w.heap.size) c):=by rw[<-b.out];exact g
 rw[b.out];have i:=QM w.heap.size;go_enter func142,ntmps142;go_wp2_with (first|(refine aF (u:=va) (v:=jZ w.heap.size) (w':=c) rfl 103 (.tmp 0) rfl ?_ ?_ ?_;rfl;exact d.out))
 go_ret;exact⟨_,rfl,K.2,w.heap.size,33,rfl,oM,f,K.1.1,row_holds K.1⟩
def Bo(n c:Nat)(W:Ur)(v:Ut)(b:Bs):Prop:=∃k x,v=sZ k 1 1/\c<=k/\k<W.heap.size/\W.cell? ⟨k,0,none⟩=some x/\El n W x b
theorem Bo.kept{m n c:Nat}{W W':Ur}{v u:Ut}{b:Bs}(h:Bo n c W v b)(o:0<n)(d:Gr m u W W')(l:∀g,u.ownBlock=some g->g<c):Bo n c W' v b:=by
 obtain⟨k,x,rfl,p,f,i,j⟩:=h;refine⟨k,x,rfl,p,Ux f d.gr.size,?_,j.kept o d⟩;rw[UW (a:=⟨k,0,none⟩) (d.gr.block k f λe=>by have:=l k e.symm;omega)];exact i
def Tm(W:Ur)(q:Option Wu)(k:Nat)(ns:Nat->Nat)(b:Nat->Bs):Prop:=0<k->∃g,q=some (aZ g)/\g<W.heap.size/\∀j,j<k->W.rangeAt g (37*j) (wn (ns j)++aA (b j))
theorem Tm.kept{m k:Nat}{W W':Ur}{u:Ut}{q:Option Wu}{ns:Nat->Nat}{b:Nat->Bs}(h:Tm W q k ns b)(n:Gr m u W W'):Tm W' q k ns b:=λf=>by
 obtain⟨g,t,o,d⟩:=h f;refine⟨g,t,Ux o n.gr.size,λj s i v hv=>?_⟩;have e:=n.block o λp c r=>by
  have l:=d 0 f 0 _ (show(wn (ns 0)++aA (b 0))[0]? = some _ from rfl);rw[show 37*0+0=0 from rfl,r]at l;cases l
 rw[UW (a:=⟨g,37*j+i,none⟩) e];exact d j s i v hv
section
variable (w0:Ur) (v3 v4:Ut) (k6 n B0 base:Nat) (p:Bs) (bs cs:List Bs) (q:Option Wu) (k:Nat) (ns:Nat->Nat) (az:Nat->Bs)
def PR:Nat->Ut->Ur->Prop
 | 0,v,_=>v=v3
 | 1,v,_=>v=jZ k6
 | 2,v,_=>v=nv n
 | 3,v,w=>El 32 w v (bx n)
 | 4,v,w=>Bo 32 B0 w v (bx n)
 | 5,v,w=>Lo 32 base w v (bs++[bx n])
 | 6,v,_=>v=v4
 | 7,v,_=>v=oZ k6 4
 | 8,v,_=>v=pvl p
 | 9,v,w=>El 33 w v p
 | 10,v,w=>Bo 33 B0 w v p
 | 11,v,w=>Lo 33 base w v (cs++[p])
 | 12,v,w=>Lo 32 base w v (bs++[bx n])
 | 13,v,w=>Lo 33 base w v (cs++[p])
 | _,_,_=>True
def PBs:Nat->Ur->Prop
 | 0,w=>Row w k6 (wn n++aA p)
 | 1,w=>Lo 32 base w v3 bs
 | 2,w=>Lo 33 base w v4 cs
 | 3,w=>Below base w0 w/\base<=w.heap.size/\B0<=w.heap.size
 | 4,w=>Tm w q k ns az
 | 5,w=>Row w base z33
 | _,_=>True
def PE:Nat->Ur->Ur->Prop
 | 5=>Gr 32 v3
 | 11=>Gr 33 v4
 | _=>Gr 0 (.slice none 0 0)
def Pk1:Nat->List Nat
 | 4=>[5]
 | 10=>[11]
 | _=>[]
def Pk2:Nat->List Nat
 | 1=>[5]
 | 2=>[11]
 | _=>[]
def FP:Flow:=⟨PR v3 v4 k6 n B0 base p bs cs,PBs w0 v3 v4 k6 n B0 base p bs cs q k ns az,PE v3 v4,Pk1,Pk2⟩
theorem Ku{i:Nat}{w w':Ur}(h:PE v3 v4 i w w'):∃m u,Gr m u w w'/\((i=5/\m=32/\u=v3)\/(i=11/\m=33/\u=v4)\/(i≠5/\i≠11/\m=0/\u=.slice none 0 0)):=by
 unfold PE at h;split at h
 ·exact⟨_,_,h,U4 ⟨rfl,rfl,rfl⟩⟩
 ·exact⟨_,_,h,UX (U4 ⟨rfl,rfl,rfl⟩)⟩
 ·rename_i h1 h2
  exact⟨_,_,h,UX (UX ⟨h1,h2,rfl,rfl⟩)⟩
variable (hv3:∀g,v3.ownBlock=some g->base<=g/\g<B0) (hv4:∀g,v4.ownBlock=some g->base<=g/\g<B0)
include hv3 hv4
theorem Kt{i m:Nat}{u:Ut}(h:(i=5/\m=32/\u=v3)\/(i=11/\m=33/\u=v4)\/(i≠5/\i≠11/\m=0/\u=.slice none 0 0)):∀g,u.ownBlock=some g->base<=g/\g<B0:=by
 rcases h with⟨-,-,rfl⟩|⟨-,-,rfl⟩|⟨-,-,-,rfl⟩
 ·exact hv3
 ·exact hv4
 ·intro g k;cases k
theorem Qn(i j:Nat)(r:j<14)(c:i≠j)(t:(Pk1 j).contains i=false)(q:¬(j=12/\i=5))(l:¬(j=13/\i=11))(v:Ut)(w w':Ur)(hE:PE v3 v4 i w w')(hR:PR v3 v4 k6 n B0 base p bs cs j v w):PR v3 v4 k6 n B0 base p bs cs j v w':=by
 obtain⟨m,u,k,o⟩:=Ku v3 v4 hE;have s:=Kt v3 v4 B0 base hv3 hv4 o;have f:m=32->i=5:=λh=>by rcases o with⟨q,-⟩|⟨-,l,-⟩|⟨-,-,l,-⟩<;>omega
 have d:m=33->i=11:=λh=>by rcases o with⟨-,l,-⟩|⟨q,-⟩|⟨-,-,l,-⟩<;>omega
 match j,r,hR with
 | 0,_,h=>exact h
 | 1,_,h=>exact h
 | 2,_,h=>exact h
 | 3,_,h=>exact El.kept h dC k
 | 4,_,h=>exact Bo.kept h dC k λg b=>(s g b).2
 | 5,_,h=>exact Lo.kept h dC k λe=>c (f e.symm)
 | 6,_,h=>exact h
 | 7,_,h=>exact h
 | 8,_,h=>exact h
 | 9,_,h=>exact El.kept h dC k
 | 10,_,h=>exact Bo.kept h dC k λg b=>(s g b).2
 | 11,_,h=>exact Lo.kept h dC k λe=>c (d e.symm)
 | 12,_,h=>exact Lo.kept h dC k λe=>q ⟨rfl,f e.symm⟩
 | 13,_,h=>exact Lo.kept h dC k λe=>l ⟨rfl,d e.symm⟩
 | _+14,r,_=>omega
theorem Nm(i b:Nat)(f:(Pk2 b).contains i=false)(w w':Ur)(hE:PE v3 v4 i w w')(hR:PBs w0 v3 v4 k6 n B0 base p bs cs q k ns az b w):PBs w0 v3 v4 k6 n B0 base p bs cs q k ns az b w':=by
 obtain⟨m,u,d,j⟩:=Ku v3 v4 hE;have t:=Kt v3 v4 B0 base hv3 hv4 j;have o:m=32->i=5:=λh=>by rcases j with⟨v,-⟩|⟨-,s,-⟩|⟨-,-,s,-⟩<;>omega
 have l:m=33->i=11:=λh=>by rcases j with⟨-,s,-⟩|⟨v,-⟩|⟨-,-,s,-⟩<;>omega
 match b,f,hR with
 | 0,_,h=>exact Row.kept h d (λp c e=>by cases e) (by rw[UA];exact Ux dC (Y8 4 _))
 | 1,f,h=>exact Lo.kept h dC d λe=>by rw[o e.symm]at f;cases f
 | 2,f,h=>exact Lo.kept h dC d λe=>by rw[l e.symm]at f;cases f
 | 3,_,h=>exact⟨d.below h.1 h.2.1 λg r=>(t g r).1,UC h.2.1 d.gr.size,UC h.2.2 d.gr.size⟩
 | 4,_,h=>exact Tm.kept h d
 | 5,_,h=>exact Row.kept h d (λp c e=>by cases e) dC
 | _+6,_,_=>trivial
end
theorem Lo.drew{n k:Nat}{W:Ur}{v:Ut}{b:List Bs}(h:Lo n k W v b):Lo n k W.drew v b:=⟨h.ex,h.nil⟩
theorem SumR.all(C:Fld P)(O:Ord N){w w':Ur}{k:Nat}(y:k<=512){ns:Nat->Nat}{X:Nat->EC.Pt P}(n:∀j,j<k->ns j<N)(t:∀j,j<k->On (X j)){L M:Nat->Bs}(v:∀j,j<k->L j=bx (ns j))(u:∀j,j<k->M j=wr (X j)){e:Ut}(h:SumR P N w k k L M e w'):
 Hb w (wr (tot X k (λj=>(ns j:Int)))) e w':=by
 have q:∀j,j<k->rq N (L j)=some (ns j):=λj b=>by
  rw[v j b];have c:=Bm (Ux (n j b) O.le);unfold rq;rw[yCj ⟨eE _,by rw[c];exact n j b⟩,c]
 have s:∀j,j<k->∃p,rd P (M j)=some p/\pt p=X j:=λj b=>by rw[u j b];exact zM C (t j b)
 rcases h with⟨h,-⟩|⟨-,h,-⟩|⟨-,-,⟨⟨j,b,c⟩,-⟩|⟨d,o,⟨⟨j,b,c⟩,-⟩|⟨xs,ys,m,h⟩⟩⟩
 ·exact absurd rfl h
 ·omega
 ·rw[q j b]at c;cases c
 ·obtain⟨p,f,-⟩:=s j b;rw[f]at c;cases c
 ·have r:∀j,j<k->d j=ns j:=λj b=>by
   have:=o j b;rw[q j b]at this;exact(UO.inj this).symm
  have f:∀j,j<k->Pair (xs j) (ys j) (X j)/\On (X j):=λj b=>by
   obtain⟨p,f,hpt⟩:=s j b;have l:=m j b;rw[f]at l;have x:=UO.inj l;have g:=QW C f;rw[hpt]at g;rw[x]at g;exact g
  have l:=BE C (ns:=d) (xs:=xs) (ys:=ys) (p:=X) (N:=k) (λi g=>by rw[r i g];exact Ux (n i g) O.le) (λi g=>(f i g).1) (λi g=>(f i g).2);have x:tot X k (λj=>(d j:Int))=tot X k (λj=>(ns j:Int)):=eJ k λj b=>by rw[r j b]
  rw[x]at l;rw[<-vM C (l.pair C) l.2];exact h
structure Pz(w W:Ur)(q:Option Wu)(k i:Nat)(ns:Nat->Nat)(az:Nat->Bs)(s3 s4:Ut):Prop where
 bl:kZ w W
 l3:Lo 32 w.heap.size W s3 ((VG i).map λj=>bx (ns j))
 l4:Lo 33 w.heap.size W s4 ((VG i).map az)
 tm:Tm W q k ns az
 r2:Row W w.heap.size z33
theorem El.of_made{w w':Ur}{k n:Nat}{b:Bs}(h:Made w k (cb b) w')(c:b.size=n):El n w' (sZ k n n) b:=⟨k,n,rfl,Uw _,c,h.lt,cb_holds h.range h.there⟩
theorem Bo.of{n k:Nat}{w:Ur}{x:Ut}{b:Bs}(h:El n w x b)(c:0<n)(d:k<=w.heap.size)(T:U8):Bo n k (w.alloc (.cells #[x] T)) (sZ w.heap.size 1 1) b:=
 ⟨w.heap.size,x,rfl,d,by rw[UB];omega,by rw[World.cell?_alloc_new];rfl,h.kept c (Gr.of (n:=0) (aC w _))⟩
theorem Lo.args{n k:Nat}{W:Ur}{v:Ut}{c:List Bs}(h:Lo n k W v c):∃q cap,v=.slice q c.length cap/\(0<c.length->∃g,q=some (aZ g)/\g<W.heap.size/\∀(j:Nat) (b:Bs),c[j]? = some b->∃x,W.cell? ⟨g,j,none⟩=some x/\El n W x b):=by
 obtain⟨xs,p,e,i⟩:=h.ex;have m:=λ{g:Nat}=>e.cells (g:=g)
 rcases e.2 with⟨rfl,o⟩|⟨g,cap,cur,rfl,-,l,-⟩
 ·exact⟨none,0,by rw[o],λh=>oM⟩
 ·refine⟨_,_,rfl,λ_=>⟨g,rfl,(UZ.1 l).1,λj b f=>?_⟩⟩;have d:j<xs.length:=by rw[p];exact(UF.1 f).1
  have:=m (g:=g) rfl j xs[j] (UG d);rw[add0]at this;exact⟨_,this,i j _ b (UG d) f⟩
theorem El.arg{W:Ur}{x:Ut}{b:Bs}(h:El 32 W x b):Arg W x b:=by
 obtain⟨k,c,rfl,g,f,d,e⟩:=h;exact⟨_,_,_,rfl,f,λ_=>⟨k,0,rfl,g,d,e⟩⟩
theorem El.arg33{W:Ur}{x:Ut}{b:Bs}(h:El 33 W x b):Arg33 W x b:=by
 obtain⟨k,c,rfl,g,f,d,e⟩:=h;exact⟨_,_,_,rfl,f,λ_=>⟨k,0,rfl,g,d,e⟩⟩
theorem Dd(C:Fld P)(O:Ord N)(v:Ut)(w:Ur)(k:Nat)(hk:k<=512)(ns:Nat->Nat)(X:Nat->EC.Pt P)(hn:∀j,j<k->ns j<N)(hX:∀j,j<k->On (X j))
 (A:∀W,kZ w W->UH prog 140 #[v] W (rZ W λe w'=>∃q cap,e=.slice q k cap/\Tm w' q k ns (λj=>wr (X j)))) :
 UH prog 67 #[v] w (rZ w λe w'=>e=pvl (wr (tot X k (λj=>(ns j:Int))))):=by
 have HM:=Hid.mk' A;have z:Hid (Fld P/\Ord N/\(∀j,j<k->ns j<N)/\∀j,j<k->On (X j)):=⟨C,O,hn,hX⟩
 obtain⟨s,M⟩:∃s:Nat->Bs,Hid ((λj=>wr (X j))=s):=⟨_,rfl⟩
 have F:Hid (∀j,s j=wr (X j)):=λj=>by rw[<-M.out]
 rw[M.out]at HM;obtain⟨Y,G⟩:∃Y,Hid (w.alloc (.cells z33.toArray 103)=Y):=⟨_,rfl⟩
 have K1:Hid (Row Y w.heap.size z33/\kZ w Y):=by rw[<-G.out];exact⟨aE w _ _,aC w _⟩
 obtain⟨d,ha,h5⟩:=Uy.1 uCP;obtain⟨d',hc,hl⟩:=Uy.1 uT;have HD:Hid ((prog.underlying 103=some d/\d.isRow=true)/\prog.underlying 226=some d'/\d'.isRow=true):=⟨⟨ha,h5⟩,hc,hl⟩
 clear ha h5 hc hl A hn hX M C O;go_enter func67,ntmps67;go_wp2_with (refine bG (v:=jZ w.heap.size) (w':=Y) rfl (.alloc 103) rfl ?_ ?_;(rw[<-G.out];kernel_rfl))
 clear G;refine(HM Y K1.2).mono ?_;rintro e w2 ⟨vv,rfl,L,q,cap,rfl,U⟩;have K2:Hid (Pz w w2 q k 0 ns s (.slice none 0 0) (.slice none 0 0)):=⟨K1.2.trans (L.mono K1.2.size),Lo.begin _ _ _,Lo.begin _ _ _,U,K1.1.below L⟩
 clear L U K1 HM;go_wp2_with fail
 go_loopg [3,4,12] k (λm s3 s4 s12 W=>∃i:Nat,i+m=k/\s12=iZ i/\Hid (Pz w W q k i ns s s3 s4))
 case atStart=>exact⟨0,oM,rfl,K2⟩
 case round =>
  clear K2;obtain⟨i,k3,rfl,l⟩:=hrel;by_cases hi:i<k
  ·have hz:(i:Int)<(k:Int):=oM;obtain⟨g,hq,B,hr⟩:=l.tm oM;subst hq;obtain⟨n,J⟩:∃n,Hid (ns i=n):=⟨_,rfl⟩
   obtain⟨p,Q⟩:∃p,Hid (s i=p):=⟨_,rfl⟩
   have B0:Hid (wr.rangeAt g (37*i) (wn n++aA p)):=by
    have h:=hr i hi;rw[J.out,Q.out]at h;exact h
   have H:Hid (p.size=33):=by rw[<-Q.out,F.out i];exact aT _
   have hy:Hid (n<N):=by rw[<-J.out];exact z.2.2.1 i hi
   obtain⟨E,h9⟩:∃E,Hid (wr.alloc (.cells zT.toArray 226)=E):=⟨_,rfl⟩
   obtain⟨r,Z⟩:∃r,Hid (E.setCells wr.heap.size 0 (wn n++aA p)=r):=⟨_,rfl⟩
   have f:(wn n++aA p).length=37:=by rw[UA,aB H.out];rfl
   have F1:Hid (Row E wr.heap.size zT/\kZ wr E/\E.heap.size=wr.heap.size+1):=by rw[<-h9.out];exact⟨aE wr _ _,aC wr _,UB _ _⟩
   have D:Hid (Row r wr.heap.size (wn n++aA p)/\kZ wr r):=by rw[<-Z.out];exact⟨F1.1.put (by rw[f];rfl),RG.below_setCells (Uw _) _ _ _ F1.2.1⟩
   have ht:Hid ((prog.info? 226).map (·.size)=some (wn n++aA p).length):=by show _=_;rw[f];exact iT
   have h8:Hid ((prog.info? 226).map (·.size)=some (wn n++aA p).toArray.size/\E.there wr.heap.size 0 (wn n++aA p).toArray.size):=by
    have e:(wn n++aA p).toArray.size=37:=by rw[VC];exact f
    rw[e];exact⟨iT,F1.1.2.2⟩
   have hs:Hid ((wn n++aA p).toArray.all (·.oneCell')=true):=by
    show _=_;rw[WX];intro u c;exact cells_one n p u (X6.1 c)
   have k1:=atT g 0 k cap i hi;obtain⟨vt,t⟩:∃v,Hid (U3 (wn n++aA p).toArray=v):=⟨_,rfl⟩
   have G2:Gr 0 (.slice none 0 0) wr r:=Gr.of D.2;have HB:Hid (∀b,PBs w u3 u4 wr.heap.size n r.heap.size w.heap.size p ((VG i).map λj=>bx (ns j)) ((VG i).map s) (some (aZ g)) k ns s b r.drew):=λb=>by
    match b with
    | 0=>exact D.1
    | 1=>exact(l.l3.kept dC G2 dC).drew
    | 2=>exact(l.l4.kept dC G2 dC).drew
    | 3=>exact⟨(l.bl.trans (D.2.mono l.bl.size)).drew,UC l.bl.size D.2.size,Uw _⟩
    | 4=>exact l.tm.kept (W':=r) G2
    | 5=>exact l.r2.below (W':=r) D.2
    | _+6=>trivial
   have H3:Hid (∀g,u3.ownBlock=some g->w.heap.size<=g/\g<r.heap.size):=λg B=>⟨(l.l3.lt g B).1,Ux (l.l3.lt g B).2 D.2.size⟩
   have H4:Hid (∀g,u4.ownBlock=some g->w.heap.size<=g/\g<r.heap.size):=λg B=>⟨(l.l4.lt g B).1,Ux (l.l4.lt g B).2 D.2.size⟩
   have HG:=Hid.mk' B;clear f hr G2 l D B;go_wp2_with (first|(refine U6 rfl 226 _ rfl g (37*i) ?_ (wn n++aA p) d' ?_ ?_ ?_ ?_ ?_;rfl;exact B0.out;exact HD.2.1;exact HD.2.2;exact ht.out;rw[t.out])|(refine bG (v:=jZ wr.heap.size) (w':=E) rfl (.alloc 226) rfl ?_ ?_;(rw[<-h9.out];kernel_rfl))|(refine U2 rfl 226 _ _ rfl wr.heap.size 0 (wn n++aA p).toArray ?_ ?_ ?_ ?_ ?_ ?_;rfl;exact t.symm;exact h8.2;exact h8.1;exact hs.out;rw[show(wn n++aA p).toArray.toList=wn n++aA p from rfl,Z.out])|fail)
   refine qG (FP w u3 u4 wr.heap.size n r.heap.size w.heap.size p ((VG i).map λj=>bx (ns j)) ((VG i).map s) (some (aZ g)) k ns s) kR ⟨kR,CB ?_,λi' j k2 hj hw K y=>Qn u3 u4 wr.heap.size n r.heap.size w.heap.size p _ _ H3.out H4.out i' j hj hw K (λh=>by rw[h.1,h.2]at y;exact absurd (show false=true from y.symm.trans kR) dC) (λh=>by rw[h.1,h.2]at y;exact absurd (show false=true from y.symm.trans kR) dC),λi' b _ K=>Nm w u3 u4 wr.heap.size n r.heap.size w.heap.size p _ _ _ k ns s H3.out H4.out i' b K⟩ HB.out ?_
   ·have o:∀W:Ur,Gr 0 (.slice none 0 0) W W:=λW=>Gr.of (UR _ _)
    refine⟨mI 3 λa W c=>⟨a.eval (.tmp 3),W,kR,kR,o W,c.o 3 kR⟩,
     mI 6 λa W c=>⟨jZ wr.heap.size,W,kR,by rw[show a.eval (.tmp 6)=jZ wr.heap.size from c.o 6 kR];kernel_rfl,o W,rfl⟩,
     Bg 49 17 rfl u40 λa W c=>⟨wr.heap.size,0,wn n,c.n 1 17 kR kR kR,kA (show Row W wr.heap.size (wn n++aA p) from c.b 0 kR).2.1,i40,o W,rfl⟩,
     FG 18 λa W c=>⟨141,#[nv n],kR,by rw[show a.eval (.tmp 18)=nv n from c.n 2 18 kR kR kR];kernel_rfl,(qO z.2.1 hy.out W).mono (by
      rintro e W' ⟨u,rfl,V,I,rfl⟩;exact⟨_,rfl,Gr.of I.bel,El.of_made I (eE n)⟩)⟩,
     mI 19 λa W c=>⟨sZ W.heap.size 1 1,W.alloc (.cells #[a.eval (.tmp 19)] 23),kR,by
      obtain⟨V,I,S,-⟩:=show El 32 W (a.eval (.tmp 19)) (bx n) from c.n 3 19 kR kR kR
      rw[S];kernel_rfl,Gr.of (aC W _),Bo.of (show El 32 W (a.eval (.tmp 19)) (bx n) from c.n 3 19 kR kR kR) dC (c.b 3 kR).2.2 _⟩,
     JS 16 20 24 rfl λa W c=>?_,
     mI 4 λa W c=>⟨a.eval (.tmp 4),W,kR,kR,o W,c.o 4 kR⟩,
     mI 6 λa W c=>⟨oZ wr.heap.size 4,W,kR,by rw[show a.eval (.tmp 6)=jZ wr.heap.size from c.o 6 kR];kernel_rfl,o W,rfl⟩,
     Bg 103 23 rfl uCP λa W c=>⟨wr.heap.size,4,aA p,c.n 7 23 kR kR kR,lT (xs:=wn n) (show Row W wr.heap.size (wn n++aA p) from c.b 0 kR).2.1,by rw[aB H.out];exact cV,o W,rfl⟩,
     FG 24 λa W c=>⟨142,#[pvl p],kR,by rw[show a.eval (.tmp 24)=pvl p from c.n 8 24 kR kR kR];kernel_rfl,(Gu H.out W).mono (by
      rintro e W' ⟨u,rfl,R,hE⟩;exact⟨_,rfl,Gr.of R,hE⟩)⟩,
     mI 25 λa W c=>⟨sZ W.heap.size 1 1,W.alloc (.cells #[a.eval (.tmp 25)] 23),kR,by
      obtain⟨V,I,S,-⟩:=show El 33 W (a.eval (.tmp 25)) p from c.n 9 25 kR kR kR
      rw[S];kernel_rfl,Gr.of (aC W _),Bo.of (show El 33 W (a.eval (.tmp 25)) p from c.n 9 25 kR kR kR) dC (c.b 3 kR).2.2 _⟩,
     JS 22 26 24 rfl λa W c=>?_,
     mI 21 λa W c=>⟨a.eval (.tmp 21),W,kR,kR,o W,c.n 5 21 kR kR kR⟩,
     mI 27 λa W c=>⟨a.eval (.tmp 27),W,kR,kR,o W,c.n 11 27 kR kR kR⟩,yCl⟩
    ·obtain⟨V,x,S,h1,h2,I,R⟩:=show Bo 32 r.heap.size W (a.eval (.tmp 20)) (bx n) from c.n 4 20 kR kR kR
     obtain⟨v',W',r1,r2,r3⟩:=Lo.app (show Lo 32 w.heap.size W u3 _ from c.b 1 kR) dC R I (by rw[UQ,XW];omega) (c.b 3 kR).2.1;refine⟨v',W',?_,r3,r2⟩;rw[S,show a.eval (.tmp 16)=u3 from c.n 0 16 kR kR kR];exact r1
    ·obtain⟨V,x,S,h1,h2,I,R⟩:=show Bo 33 r.heap.size W (a.eval (.tmp 26)) p from c.n 10 26 kR kR kR
     obtain⟨v',W',r1,r2,r3⟩:=Lo.app (show Lo 33 w.heap.size W u4 _ from c.b 2 kR) dC R I (by rw[UQ,XW];omega) (c.b 3 kR).2.1;refine⟨v',W',?_,r3,r2⟩;rw[S,show a.eval (.tmp 22)=u4 from c.n 6 22 kR kR kR];exact r1
   ·intro V S o c;have KN:Hid (Pz w S (some (aZ g)) k (i+1) ns s (V 12) (V 13)):=by
     have h1:=o 12 (Xj (VR kR)) rfl;have h2:=o 13 (Xj (VR kR)) rfl;refine⟨(c 3 rfl).1,?_,?_,c 4 rfl,c 5 rfl⟩
     ·rw[Y4,We];show Lo 32 w.heap.size S (V 12) (_++[bx (ns i)]);rw[J.out];exact h1
     ·rw[Y4,We];show Lo 33 w.heap.size S (V 13) (_++[s i]);rw[Q.out];exact h2
    clear o c HB H3 H4;dsimp only[bU,VK];generalize V 12=s3 at KN⊢;generalize V 13=s4 at KN⊢;go_wp2;go_roundg (gk-1)
    case measure=>omega
    case rel=>exact⟨i+1,oM,rfl,KN⟩
  ·have hz:¬(i:Int)<(k:Int):=oM;obtain rfl:i=k:=oM;obtain⟨V,c3,rfl,I⟩:=l.l3.args;obtain⟨q4,c4,rfl,R⟩:=l.l4.args;rw[UQ,XW]at I R;have Z:Hid (vT wr V i (λj=>bx (ns j))):=λJ=>by
    obtain⟨g,r,c,e3⟩:=I J;refine⟨g,r,c,λj hj=>?_⟩;obtain⟨x,o,y⟩:=e3 j (bx (ns j)) (by rw[Vz,yAy hj];rfl);exact⟨x,o,y.arg⟩
   have HP:Hid (ArgsPts wr q4 i s):=λJ=>by
    obtain⟨g,r,c,e3⟩:=R J;refine⟨g,r,c,λj hj=>?_⟩;obtain⟨x,o,y⟩:=e3 j (s j) (by rw[Vz,yAy hj];rfl);exact⟨x,o,y.arg33⟩
   rw[UQ,XW,UQ,XW];have E:Hid (kZ w wr/\Row wr w.heap.size z33):=⟨l.bl,l.r2⟩
   clear I R l;go_wp2_with fail
   refine(PK z.1 z.2.1.gap z.2.1.le V q4 i c3 i c4 (λj=>bx (ns j)) s wr Z.out HP.out).mono ?_;rintro e o ⟨vv,rfl,c,hS⟩;obtain⟨Q,cs,rfl,-,-,h6,K⟩:=SumR.all z.1 z.2.1 oM z.2.2.1 z.2.2.2 (λ_ _=>rfl) (λj _=>F.out j) hS;obtain⟨T,U⟩:∃T,Hid (Go.Proofs.YtdoammpgchejcaaGreat.wr (tot X i (λj=>(ns j:Int)))=T):=⟨_,rfl⟩
   have H:T.size=33:=by rw[<-U.out];exact aT _
   rw[U.out]at K;have y:Hid (Row o w.heap.size z33/\kZ w o/\Row o Q (aA T)):=⟨E.2.below c,E.1.trans (c.mono E.1.size),pW K h6⟩
   clear c hS h6 K E Z HP;have k0:=FU Q cs;obtain⟨B,r⟩:∃B,Hid (o.setCells w.heap.size 0 (aA T)=B):=⟨_,rfl⟩
   have f:(aA T).length=33:=aB H;have S:Hid (Row B w.heap.size (aA T)/\kZ w B):=by rw[<-r.out];exact⟨y.1.put (by rw[f];rfl),RG.below_setCells (Uw _) _ _ _ y.2.1⟩
   obtain⟨vt,t⟩:∃vt,Hid (U3 (aA T).toArray=vt):=⟨_,rfl⟩
   have D:Hid ((prog.info? 103).map (·.size)=some (aA T).length/\o.there w.heap.size 0 (aA T).toArray.size/\(prog.info? 103).map (·.size)=some (aA T).toArray.size):=by
    have e:(aA T).toArray.size=33:=by rw[VC];exact f
    refine⟨by rw[f];exact cV,by rw[e];exact y.1.2.2,by rw[e];exact cV⟩
   clear f;go_wp2_with (first|(refine U6 rfl 103 _ rfl Q 0 ?_ (aA T) d ?_ ?_ ?_ ?_ ?_;rfl;exact y.2.2.2.1;exact HD.1.1;exact HD.1.2;exact D.1;rw[t.out])|(refine U2 rfl 103 _ _ rfl w.heap.size 0 (aA T).toArray ?_ ?_ ?_ ?_ ?_ ?_;rfl;exact t.symm;exact D.2.1;exact D.2.2;exact bW T;rw[show(aA T).toArray.toList=aA T from rfl,r.out]))
   refine UE (aG 2 103 rfl S.1 rfl uCP D.1) rfl ?_;exact⟨_,rfl,S.2,by rw[U.out];rfl⟩
end
namespace EC
variable {P:Nat}[NeZero P]
def pts(P:Nat)[NeZero P]:List (Pt P):=
 none :: (yBx P).flatMap λx=>((yBx P).filter λy=>decide (y^2=x^3+7)).map λy=>some (x,y)
theorem mD(a:Pt P):a∈pts P↔On a:=by
 unfold pts;rcases a with _|⟨x,y⟩
 ·exact⟨λ_=>trivial,λ_=>Vu⟩
 ·rw[VX,yA0];constructor
  ·rintro(h|⟨u,-,h⟩)
   ·cases h
   ·obtain⟨v,hv,e⟩:=Vn.1 h;cases e
    have k:=(Y5.1 hv).2;exact(decide_eq_true_iff (p:=y^2=x^3+7)).1 k
  ·intro h;have h:=h;exact UX ⟨x,yAP x,Vn.2 ⟨y,Y5.2 ⟨yAP y,decide_eq_true h⟩,rfl⟩⟩
theorem zX:(pts P).Nodup:=by
 unfold pts;refine XT.2 ⟨λh=>?_,?_⟩
 ·obtain⟨u,-,h⟩:=yA0.1 h;obtain⟨v,-,e⟩:=Vn.1 h;cases e
 ·refine List.pairwise_flatMap.2 ⟨λx _=>yAO.2 ?_,?_⟩
  ·refine ZY ?_ ((Zk P).sublist yAz);intro a b h e;exact h (by cases e;rfl)
  ·refine ZY ?_ (Zk P);intro a b h u k v hv e;obtain⟨c,-,rfl⟩:=Vn.1 k;obtain⟨d,-,rfl⟩:=Vn.1 hv;exact h (by cases e;rfl)
theorem Lt{u v c:Fin P}(k:u^2=c)(hv:v^2=c):(u-v)*(u+v)=0:=by grobner
theorem Mq{a b d:Fin P}(k:a+b=0)(c:a+d=0):b=d:=by grobner
theorem Gj(C:Cur P){c:Fin P}:∀l:List (Fin P),l.Nodup->(∀y,y∈l->y^2=c)->l.length<=2
 | [],_,_=>Wy _
 | [_],_,_=>Nat.le_succ _
 | [_,_],_,_=>Uw _
 | a :: b :: d :: l,k,h=>by
  exfalso;have g:=h a (by simp);have o:=h b (by simp);have hd:=h d (by simp);have j:a≠b:=λe=>(XT.1 k).1 (by rw[e];simp)
  have p:a≠d:=λe=>(XT.1 k).1 (by rw[e];simp)
  have q:b≠d:=λe=>(XT.1 (XT.1 k).2).1 (by rw[e];simp)
  have f:∀u v:Fin P,u^2=c->v^2=c->u≠v->u+v=0:=λu v m hv k=>by
   exact Wt λi=>cI C.pr (pJ k) i (Lt m hv)
  have n:=f a b g o j;have i:=f a d g hd p;exact q (Mq n i)
theorem Cu{α β:Type}(f:α->List β)(k:Nat)(h:∀a,(f a).length<=k):∀l:List α,(l.flatMap f).length<=k*l.length
 | []=>Wy _
 | a :: l=>by
  rw[Zy,UA,Vj,Yi,yBL];exact Nat.add_le_add (Cu f k h l) (h a)
theorem MD(C:Cur P):(pts P).length<=2*P+1:=by
 unfold pts;rw[Vj];refine Nat.succ_le_succ (UC (Cu _ 2 (λx=>?_) _) (by rw[List.length_finRange];exact Uw _));rw[UQ];exact Gj C (c:=x^3+7) _ ((Zk P).sublist yAz) λy k=>of_decide_eq_true (Y5.1 k).2
theorem LY:0<(pts P).length:=Nat.succ_pos _
def uO:List (Pt P)->Pt P
 | []=>none
 | a :: l=>add a (uO l)
theorem uY(C:Cur P):∀l:List (Pt P),(∀a,a∈l->On a)->On (uO l)
 | [],_=>iN
 | a :: l,h=>C.on (h a Vu) (uY C l λb k=>h b (Vb _ k))
theorem GG(C:Cur P){l m:List (Pt P)}(p:l.Perm m):(∀a,a∈l->On a)->uO l=uO m:=by
 induction p with
 | nil=>intro _;rfl
 | cons x _ ih =>
  intro h;show add x _=add x _;rw[ih λb c=>h b (Vb _ c)]
 | swap x y l =>
  intro h;have k:=h y Vu;have hx:=h x (Vb _ Vu);have d:=uY C l λb c=>h b (Vb _ (Vb _ c))
  show add y (add x (uO l))=add x (add y (uO l));rw[<-C.assoc k hx d,C.comm k hx,C.assoc hx k d]
 | trans p _ ih1 ih2 =>
  intro h;rw[ih1 h,ih2 λa k=>h a (p.mem_iff.2 k)]
theorem xI(C:Cur P){r:Pt P}(k:On r):∀l:List (Pt P),(∀a,a∈l->On a)->uO (l.map λa=>add a r)=add (uO l) (mul l.length r)
 | [],_=>rfl
 | a :: l,h=>by
  have d:=h a Vu;have c:∀b,b∈l->On b:=λb e=>h b (Vb _ e)
  show add (add a r) (uO (l.map _))=add (add a (uO l)) (add (mul l.length r) r);rw[xI C k l c,C.comm (cG C k _) k,C.swap d k (uY C l c) (cG C k _)]
theorem yS(C:Cur P){a b r:Pt P}(c:On a)(d:On b)(k:On r)(e:add a r=add b r):a=b:=by
 have:add (add a r) (neg r)=add (add b r) (neg r):=by rw[e]
 rwa[C.assoc c k (cE k),C.assoc d k (cE k),add_neg,bK,bK]at this
theorem wK(C:Cur P){r:Pt P}(k:On r):((pts P).map λa=>add a r).Perm (pts P):=by
 refine(List.perm_ext_iff_of_nodup ?_ zX).2 λa=>?_
 ·refine yAO.2 (List.Pairwise.imp_of_mem ?_ (zX (P:=P)));intro a b c d h e;exact h (yS C ((mD a).1 c) ((mD b).1 d) k e)
 ·rw[mD,Vn];constructor
  ·rintro⟨b,d,rfl⟩;exact C.on ((mD b).1 d) k
  ·intro c;refine⟨add a (neg r),(mD _).2 (C.on c (cE k)),?_⟩;rw[C.assoc c (cE k) k,C.neg_l k,bK]
theorem EV(C:Cur P){r:Pt P}(k:On r):mul (pts P).length r=none:=by
 have c:∀a,a∈pts P->On a:=λa b=>(mD a).1 b
 have f:=xI C k (pts P) c;rw[GG C (wK C k) λa b=>(mD a).1 ((wK C k).mem_iff.1 b)]at f;have e:=uY C (pts P) c;have d:=cG C k (pts P).length;have g:add (mul (pts P).length r) (uO (pts P))=add none (uO (pts P)):=by
  rw[C.comm d e,<-f,jJ]
 exact yS C d iN e g
theorem mB(C:Cur P){a:Pt P}(k:On a)(m:Nat):∀n,mul (m*n) a=mul n (mul m a)
 | 0=>rfl
 | n+1=>by
  rw[Yi,mul_add C k,mB C k m n];rfl
theorem nG:∀n,mul n (none:Pt P)=none
 | 0=>rfl
 | n+1=>by
  show add (mul n none) none=none;rw[nG n];rfl
theorem C5(C:Cur P){a:Pt P}(k:On a)(e:add a a=none):a=none:=by
 rcases a with _|⟨x,y⟩
 ·rfl
 ·exfalso;have ho:=C.opp_ne k;rw[cD C.pr C.two k k ho (bR C.pr C.two k k ho)]at e;cases e
theorem IR(C:Cur P){n:Nat}(f:IsP n)(p:2*P+1<3*n){g:Pt P}(b:On g)(l:g≠none)(i:mul n g=none){r:Pt P}(e:On r):mul n r=none:=by
 have hd:n ∣ (pts P).length:=Wt λhd=>by
  have j:=f.fermat1 _ hd;have d:mul ((pts P).length^(n-1)) g=none:=by
   have:n-1=(n-2)+1:=by have:=f.1;omega
   rw[this,V7,Vv,mB C b,EV C b,nG]
  have k:=Z8 ((pts P).length^(n-1)) n;rw[j]at k;rw[<-k,mul_add C b,mB C b,i,nG,jJ]at d;exact l d
 obtain⟨c,j⟩:=hd;have m:=MD C;have o:=LY (P:=P);have k:=EV C e;rw[j]at m o k;have d:c<3:=Nat.lt_of_mul_lt_mul_left (a:=n) oM;match c,d with
 | 0,_=>omega
 | 1,_=>rwa[Nat.mul_one]at k
 | 2,_ =>
  rw[mB C e]at k;exact C5 C (cG C e n) k
end EC
section
variable {P:Nat}[NeZero P]{N:Nat}
def fR(P:Nat)[NeZero P](b:Bs):EC.Pt P:=match rd P b with|some p=>pt p|none=>none
theorem lM(C:Fld P){X:EC.Pt P}(h:On X):fR P (wr X)=X:=by
 obtain⟨p,b,k⟩:=zM C h;unfold fR;rw[b];exact k
def fJ(P:Nat)[NeZero P]:List (Nat × Bs)->EC.Pt P
 | []=>none
 | x :: r=>EC.add (mul x.1 (fR P x.2)) (fJ P r)
def PtsL(P:Nat)[NeZero P](l:List (Nat × Bs)):Prop:=∀x∈l,∃X:EC.Pt P,On X/\x.2=wr X
theorem PtsL.on(C:Fld P){l:List (Nat × Bs)}(h:PtsL P l){x:Nat × Bs}(hx:x∈l):On (fR P x.2):=by
 obtain⟨X,k,b⟩:=h x hx;rw[b,lM C k];exact k
theorem nT(C:Fld P):∀ {l:List (Nat × Bs)},PtsL P l->On (fJ P l)
 | [],_=>iN
 | x :: r,h=>C.cur.on (cG C.cur (h.on C Vu) _) (nT C λy k=>h y (Vb _ k))
theorem zG(C:Fld P)(y:Nat × Bs)(k:On (fR P y.2)):∀ {l:List (Nat × Bs)},PtsL P l->fJ P (l++[y])=EC.add (fJ P l) (mul y.1 (fR P y.2))
 | [],_=>bK _
 | x :: r,h=>by
  have b:PtsL P r:=λz c=>h z (Vb _ c)
  show EC.add (mul x.1 (fR P x.2)) (fJ P (r++[y]))=_;rw[zG C y k b];exact(C.cur.assoc (cG C.cur (h.on C Vu) _) (nT C b) (cG C.cur k _)).symm
theorem AE:∀l:List (Nat × Bs),fJ P (LF l)=fJ P l
 | []=>rfl
 | x :: r=>by
  unfold LF;rw[List.filter_cons];by_cases h:x.1=0
  ·rw[yCk (by simp[h])];show fJ P (LF r)=EC.add (mul x.1 (fR P x.2)) (fJ P r);rw[h,AE r];rfl
  ·rw[yCj (by simp[h])];show EC.add _ (fJ P (LF r))=EC.add _ (fJ P r);rw[AE r]
theorem mul_mod(C:Fld P)(k:∀r:EC.Pt P,On r->mul N r=none){X:EC.Pt P}(b:On X)(n:Nat):mul (n%N) X=mul n X:=by
 have h:=mul_add C.cur b (N*(n/N)) (n%N);rw[Z8,mB C.cur b N (n/N),k X b,nG,jJ]at h;exact h.symm
theorem zH(C:Fld P)(k:∀r:EC.Pt P,On r->mul N r=none)(n:Nat)(p:Bs)(d:On (fR P p)):∀ {l:List (Nat × Bs)},PtsL P l->fJ P (fA N l n p)=EC.add (fJ P l) (mul n (fR P p))
 | [],_=>bK _
 | (s,q) :: r,h=>by
  have g:PtsL P r:=λz i=>h z (Vb _ i)
  have j:=h.on C (x:=(s,q)) Vu;have f:=cG C.cur j s;have c:=nT C g;have b:=cG C.cur d n;unfold fA;by_cases e:p=q
  ·rw[yCj e];subst e;show EC.add (mul (sPl N s n) (fR P p)) (fJ P r)=EC.add (EC.add (mul s (fR P p)) (fJ P r)) (mul n (fR P p));unfold sPl;rw[mul_mod C k d,mul_add C.cur d,C.cur.assoc f b c,C.cur.assoc f c b,C.cur.comm b c]
  ·rw[yCk e];show EC.add (mul s (fR P q)) (fJ P (fA N r n p))=EC.add (EC.add (mul s (fR P q)) (fJ P r)) (mul n (fR P p));rw[zH C k n p d g,C.cur.assoc f c b]
theorem FX{n:Nat}{p:Bs}(b:∃X:EC.Pt P,On X/\p=wr X):∀ {l:List (Nat × Bs)},PtsL P l->PtsL P (fA N l n p)
 | [],_=>λx hx=>by
  have:x=(n,p):=by simpa[fA]using hx
  rw[this];exact b
 | (s,q) :: r,h=>by
  have k:PtsL P r:=λz c=>h z (Vb _ c)
  unfold fA;split
  ·intro x hx;rcases VX.1 hx with rfl|hx
   ·exact h (s,q) Vu
   ·exact k x hx
  ·intro x hx;rcases VX.1 hx with rfl|hx
   ·exact h (s,q) Vu
   ·exact FX b k x hx
theorem AU(ns:Nat->Nat)(X:Nat->EC.Pt P){k:Nat}(b:∀j,j<k->On (X j)):∀i,i<=k->PtsL P (mrg N ns (λj=>wr (X j)) i)
 | 0,_=>λx hx=>by cases hx
 | i+1,hi=>FX ⟨X i,b i oM,rfl⟩ (AU ns X b i oM)
theorem EW(C:Fld P)(b:∀r:EC.Pt P,On r->mul N r=none)(ns:Nat->Nat)(X:Nat->EC.Pt P){k:Nat}(d:∀j,j<k->On (X j)):∀i,i<=k->fJ P (mrg N ns (λj=>wr (X j)) i)=tot X i (λj=>(ns j:Int))
 | 0,_=>rfl
 | i+1,hi=>by
  have c:=d i oM;show fJ P (fA N (mrg N ns (λj=>wr (X j)) i) (ns i) (wr (X i)))=EC.add (tot X i (λj=>(ns j:Int))) (mul (ns i) (X i));rw[zH C b _ _ (by rw[lM C c];exact c) (AU ns X d i oM),EW C b ns X d i oM,lM C c]
theorem wE(C:Fld P)(l:List (Nat × Bs))(h:PtsL P l):∀i,i<=l.length->tot (λj=>fR P ((l[j]?).getD (0,#[])).2) i (λj=>(((l[j]?).getD (0,#[])).1:Int))=fJ P (l.take i)
 | 0,_=>by rw[List.take_zero];rfl
 | i+1,hi=>by
  have k:i<l.length:=oM;show EC.add (tot _ i _) (mul ((l[i]?).getD (0,#[])).1 (fR P ((l[i]?).getD (0,#[])).2))=_;rw[wE C l h i oM,ZH,UG k];exact(zG C (l[i]) (h.on C (VH k)) λx hx=>h x (yAp hx)).symm
theorem De(C:Fld P)(O:Ord N)(o:∀r:EC.Pt P,On r->mul N r=none)(g k c:Nat)(H:0<k)(T:k<=512)(ns:Nat->Nat)(X:Nat->EC.Pt P)(F:∀j,j<k->ns j<N)(D:∀j,j<k->On (X j))(w:Ur)(G:g<w.heap.size)(R:∀j,j<k->w.rangeAt g (37*j) (wn (ns j)++aA (wr (X j)))):
 UH prog 67 #[sZ g k c] w (rZ w λe w'=>e=pvl (wr (tot X k (λj=>(ns j:Int))))):=by
 have E:=AU (N:=N) ns X D k (Uw _);have m:=DF O ns (λj=>wr (X j)) F k (Uw _);have p:=xF (N:=N) ns (λj=>wr (X j)) (k:=k) (λj _=>aT _) k (Uw _);have y:=AV (N:=N) ns (λj=>wr (X j)) k;have f:=EW C o ns X D k (Uw _);have i:0<(mrg N ns (λj=>wr (X j)) k).length:=by
  obtain⟨b,rfl⟩:∃b,k=b+1:=⟨k-1,oM⟩
  show 0<(fA N _ _ _).length;cases mrg N ns (λj=>wr (X j)) b with
  | nil=>exact Nat.lt_succ_self 0
  | cons x r=>unfold fA;split<;>simp
 have l:=λW (s:kZ w W)=>I8 O (λe w'=>kZ W w'/\∃q cap,e=.slice q (LF (mrg N ns (λj=>wr (X j)) k)).length cap/\TmL w' q (LF (mrg N ns (λj=>wr (X j)) k))) g k c oM ns (λj=>wr (X j)) (λj _=>aT _) F W (Ux G s.size) (λj b=>RG.range_below (R j b) s G) (λW' v n=>by
  refine(JK _ i oM p (λx hx=>Ux (m x hx) O.le) W.heap.size v W' n.bl.size n.ow).mono ?_;rintro e w' ⟨u,rfl,d,t⟩;exact⟨_,rfl,n.bl.trans d,t⟩)
 generalize mrg N ns (λj=>wr (X j)) k=L at E m p y f i l;have a:PtsL P (LF L):=λx hx=>E x (Br hx)
 have Q:(LF L).length<=L.length:=yAl _ _;refine(Dd C O _ w (LF L).length oM (λj=>(((LF L)[j]?).getD (0,#[])).1) (λj=>fR P (((LF L)[j]?).getD (0,#[])).2) (λj b=>by rw[UG b];exact m _ (Br (VH b))) (λj b=>by rw[UG b];exact a.on C (VH b)) λW s=>?_).mono ?_
 ·refine(l W s).mono ?_;rintro e w' ⟨u,rfl,d,q,cap,rfl,t⟩;refine⟨_,rfl,d,q,cap,rfl,λM=>?_⟩;obtain⟨z,K,I,e3⟩:=t M;refine⟨z,K,I,λj b=>?_⟩;have J:=e3 j b;obtain⟨Y,S,B⟩:=a _ (VH b);show w'.rangeAt z (37*j) (wn (((LF L)[j]?).getD (0,#[])).1++aA (wr (fR P (((LF L)[j]?).getD (0,#[])).2)));rw[UG b];show w'.rangeAt z (37*j) (wn ((LF L)[j]).1++aA (wr (fR P ((LF L)[j]).2)));rw[B,lM C S,<-B];exact J
 ·rintro e w' ⟨u,rfl,d,rfl⟩;refine⟨_,rfl,d,?_⟩;rw[wE C (LF L) a _ (Uw _),yAZ,AE,f]
theorem Qx:prog.underlying 23=some (.slice 5):=kR
theorem Qz:prog.underlying 3=some (.int .i64):=kR
theorem NJ:(prog.info? 5).map (λi=>(i.size,i.bytes,i.zero.map λz=>z.cells.size))=some (1,1,some 1):=kR
theorem atB(k o n c i:Nat)(b:i<n)(w:Ur):(Vl 24 (.slice (some ⟨k,o,none⟩) n c) (iZ i)).run prog w=.ok (.pointer (some ⟨k,o+1*i,none⟩)) w:=by
 go_simp
theorem PG(n:Nat)(a:n<=10000000)(w:Ur):UH prog 216 #[.slice none 0 0,iZ n] w (rZ w λe w'=>w'.ownsRow w.heap.size 5 1 e 0 []):=by
 by_cases u:n=0
 ·subst u;go_enter func216,ntmps216;go_wp2;go_ret;exact⟨_,rfl,UR _ _,yAH _ _ _ _⟩
 ·obtain⟨i,q,p⟩:=Uy.1 NJ;simp only[V6.injEq]at p;obtain⟨v,r,o⟩:=p;obtain⟨z,m,f⟩:=Uy.1 o;have g:=Lib.run_append_nil_zeros (P:=prog) w 23 3 23 5 i z .i64 .i64 Qx Qz q m n oM oM oM (by rw[r];omega);have d:=grownCap_ge w n 0 5;have k:=grownCap_le_maxLen w n 0 5 (by unfold maxLen;omega);have b:(WE z.cells n++WE z.cells (grownCap w n 0 5-n)).size=grownCap w n 0 5*1:=by rw[VN,size_zeroCells,size_zeroCells,f];omega
  generalize grownCap w n 0 5=l at g d k b;generalize WE z.cells n++WE z.cells (l-n)=cur at g b;obtain⟨j,c⟩:∃j,Hid (w.drew.alloc (.cells cur 5)=j):=⟨_,rfl⟩
  rw[c.out]at g;have s:=Hid.mk' g;have K:Hid (kZ w j/\j.ownsRow w.heap.size 5 1 (sZ w.heap.size 0 l) 0 []):=by
   rw[<-c.out];exact⟨(UR _ _).drew.alloc (Uw _) _,World.ownsRow_made w.drew cur l (Uw _) k b⟩
  clear g c b q m f v r o;have t:(0:Int)<(n:Int):=oM;have x:¬((n:Int)<0):=oM;have y:VS.wrap (n:Int)=n:=by rw[Yj];omega
  go_enter func216,ntmps216;go_wp2_with (at_builtin;refine Lib.wpList_append_run _ rfl _ _ _ _ rfl _ _ rfl rfl _ _ s.out ?_)
  go_ret;exact⟨_,rfl,K.1,K.2⟩
def iJ(L:Nat->Bs)(k:Nat):List UInt8:=(VG k).flatMap λj=>(L j).toList
theorem oK(L:Nat->Bs)(i:Nat):iJ L (i+1)=iJ L i++(L i).toList:=by
 unfold iJ;rw[Y4,Zq];simp
theorem FH(L:Nat->Bs){k m:Nat}(b:∀j,j<k->(L j).size<=m):∀i,i<=k->(iJ L i).length<=m*i
 | 0,_=>Uw _
 | i+1,hi=>by
  have d:=FH L b i oM;have c:=b i oM;have e:(L i).toList.length=(L i).size:=rfl;rw[oK,UA,e,Yi];omega
theorem El.below{n B:Nat}{W W':Ur}{x:Ut}{b:Bs}(h:El n W x b)(d:Below B W W')(j:W.heap.size<=B):El n W' x b:=by
 obtain⟨k,c,rfl,i,g,e,f⟩:=h;exact⟨k,c,rfl,i,g,Ux e d.size,Holds.kept f (d.block k oM)⟩
theorem Mm{d n m:Nat}{W:Ur}{v x:Ut}{xs:List Ut}{b:Bs}(e:W.ownsRow d 5 1 v n xs)(hx:El m W x b)(G:n+m<=100000000)(E:d<=W.heap.size):
 ∃f W',(Vt #[23,23] 23 #[v,x]).run prog W=.ok f W'/\W'.ownsRow d 5 1 f (n+m) (xs++cb b)/\W.grownBy W' v.ownBlock:=by
 obtain⟨i,a,l⟩:=Uy.1 NJ;simp only[V6.injEq]at l;obtain⟨D,C,p⟩:=l;obtain⟨z,o,g⟩:=Uy.1 p;obtain⟨k,c,rfl,F,w,e3,A⟩:=hx;obtain⟨f,W',t,q,s,-⟩:=Y1 (P:=prog) W d 23 23 5 i z 1 1 Qx a o D C g dC v n xs e (aZ k) m c (cb b) (by rw[oJ,w];omega)
  (λj u r=>by
   have:=(rL A).1 j u r;rw[UD]at this;rw[add0];exact this) (λu B=>by
   obtain⟨y,-,rfl⟩:=Vn.1 B;rfl) (by unfold maxLen;omega) oM E
 exact⟨f,W',t,q,s⟩
theorem P5(L:Nat->Bs)(i:Nat):(iJ L (i+1)).map encB=(iJ L i).map encB++cb (L i):=by rw[oK,We];rfl
theorem JM(g k c:Nat)(L:Nat->Bs)(F:k<=1000)(J:∀j,j<k->(L j).size<=10000)(w:Ur)(O:g<w.heap.size)(K:∀j,j<k->∃x,w.cell? ⟨g,j,none⟩=some x/\El (L j).size w x (L j)):
 UH prog 156 #[sZ g k c] w (rZ w λe w'=>w'.ownsRow w.heap.size 5 1 e (iJ L k).length ((iJ L k).map encB)):=by
 have I:=Hid.mk' K;have t:Hid (∀i,i<=k->(iJ L i).length<=10000*i):=FH L J;have S:=Hid.mk' O;clear K J O;go_enter func156,ntmps156;go_wp2_with fail
 go_loopg [3,11] k (λm s3 s11 W=>∃i:Nat,i+m=k/\s11=iZ i/\s3=iZ ((iJ L i).length:Int)/\w=W)
 case atStart=>exact⟨0,oM,rfl,rfl,rfl⟩
 case round =>
  obtain⟨i,T,rfl,rfl,rfl⟩:=hrel;by_cases N:i<k
  ·have A:(i:Int)<(k:Int):=oM;obtain⟨x,C,hE⟩:=I.out i N;obtain⟨D,M,rfl,s,-⟩:=hE;have n:=atB g 0 k c i N;rw[show 0+1*i=i by omega]at n;have d:(iJ L (i+1)).length=(iJ L i).length+(L i).size:=by rw[oK,UA];rfl
   have l:=t.out i oM;have o:=t.out (i+1) oM;obtain⟨a,f⟩:∃a,Hid ((iJ L i).length=a):=⟨_,rfl⟩
   obtain⟨b,q⟩:∃b,Hid ((L i).size=b):=⟨_,rfl⟩
   rw[f.out]at d l;rw[q.out]at d s;rw[f.out];have r:VS.wrap ((a:Int)+(b:Int))=((a+b:Nat):Int):=by rw[Yj];omega
   have u:¬(((a+b:Nat):Int)<0):=oM;rw[q.out]at C;go_wp2;go_roundg (gk-1)
   case measure=>omega
   case rel=>exact⟨i+1,oM,rfl,by rw[d,Int.natCast_add],rfl⟩
  ·have A:¬(i:Int)<(k:Int):=oM;obtain rfl:i=k:=oM;go_wp2_with fail
   refine(PG (iJ L i).length (by have:=t.out i (Uw _);omega) w).mono ?_;rintro e R ⟨v,rfl,l,s⟩;have P:Hid (kZ w R/\R.ownsRow w.heap.size 5 1 v (iJ L 0).length ((iJ L 0).map encB)):=⟨l,s⟩
   clear l s;go_wp2_with fail
   go_loopg [6,27] i (λm s6 s27 W=>∃j:Nat,j+m=i/\s27=iZ j/\Hid (kZ w W/\W.ownsRow w.heap.size 5 1 s6 (iJ L j).length ((iJ L j).map encB)))
   case atStart=>exact⟨0,oM,rfl,P⟩
   case round =>
    clear P;obtain⟨j,U,rfl,f⟩:=hrel;by_cases G:j<i
    ·have z:(j:Int)<(i:Int):=oM;obtain⟨x,r,q⟩:=I.out j G;have C:wr.cell? ⟨g,j,none⟩=some x:=by rw[f.1.cell (p:=⟨g,j,none⟩) S.out];exact r
     have hE:=q.below f.1 (Uw _);have o:=t.out (j+1) oM;have d:(iJ L (j+1)).length=(iJ L j).length+(L j).size:=by rw[oK,UA];rfl
     obtain⟨Q,W',H,u,E⟩:=Mm f.2 hE oM f.1.size;rw[<-d,<-P5]at u;have V:Hid (kZ w W'/\W'.ownsRow w.heap.size 5 1 Q (iJ L (j+1)).length ((iJ L (j+1)).map encB)):=⟨f.1.grown E f.1.size (λk F=>(f.2.lt k F).1),u⟩
     have B:=Hid.mk' H;obtain⟨D,M,rfl,-⟩:=hE;have n:=atB g 0 i c j G;rw[show 0+1*j=j by omega]at n;clear H u E d o f q r;go_wp2_with (first|(refine lK (x:=u6) (y:=sZ D (L j).size M) (v:=Q) (w':=W') rfl _ _ 23 rfl ?_ ?_ ?_ ?_;rfl;rfl;exact B.out)|fail)
     go_roundg (gk-1)
     case measure=>omega
     case rel=>exact⟨j+1,oM,rfl,V⟩
    ·have z:¬(j:Int)<(i:Int):=oM;obtain rfl:j=i:=oM;go_wp2;go_ret;exact⟨_,rfl,f.1,f.2⟩
end
section
open Go.Shelf
attribute [local go_sem] Zd
variable {P:Nat}[NeZero P]
theorem A4{w w':Ur}(h:kZ w w')(row:Option Nat):w.grownBy w' row:=⟨h.os,h.tape,h.output,h.size,λk b _=>h.block k b⟩
theorem Jh{w:Ur}{g o:Nat}{k:Bs}(h:Holds encB w g o k)(b:0<k.size):g<w.heap.size:=by
 obtain⟨c,ho,-⟩:=cells_of_cell (h 0 b).1;exact(UZ.1 ho).1
noncomputable def cand (P:Nat) [NeZero P] (k:ByteArray) (b:List UInt8) (i:Nat):Option (Fin P × Fin P):=
 if beV (oR ((⟨#[112,111,105,110,116,32]⟩:ByteArray)++k).data.toList [b,[UM i]]).toList<P then
  (rt (Xh P (beV (oR ((⟨#[112,111,105,110,116,32]⟩:ByteArray)++k).data.toList [b,[UM i]]).toList)*Xh P (beV (oR ((⟨#[112,111,105,110,116,32]⟩:ByteArray)++k).data.toList [b,[UM i]]).toList)*Xh P (beV (oR ((⟨#[112,111,105,110,116,32]⟩:ByteArray)++k).data.toList [b,[UM i]]).toList)+7)).map λy=>(Xh P (beV (oR ((⟨#[112,111,105,110,116,32]⟩:ByteArray)++k).data.toList [b,[UM i]]).toList),y)
 else none
noncomputable def cands (P:Nat) [NeZero P] (k:ByteArray) (b:List UInt8) (i:Nat):List (Fin P × Fin P):=(VG i).filterMap (cand P k b)
theorem jO(k:ByteArray)(b:List UInt8)(i:Nat):cands P k b (i+1)=cands P k b i++(cand P k b i).toList:=by
 unfold cands;rw[Y4,List.filterMap_append];cases h:cand P k b i<;>simp[h]
theorem GY(k:ByteArray)(b:List UInt8){i j:Nat}(h:i<=j):cands P k b i <+: cands P k b j:=by
 induction j with
 | zero=>rw[Nat.le_zero.1 h];exact yBb
 | succ j ih =>
  rcases Wq i (j+1)with c|c
  ·rw[jO];exact(ih oM).trans (List.prefix_append _ _)
  ·rw[show i=j+1 by omega];exact yBb
theorem GZ(k:ByteArray)(b:List UInt8)(i:Nat):(cands P k b i).length<=i:=by
 unfold cands;exact UC (List.length_filterMap_le _ _) (by rw[XW];exact Uw _)
end
section
open Go.Shelf
attribute [local go_sem] Zd
section
variable {F:Fence}{n:Nat}{P:VD}{ops:Array Vk}{rest:List Vk}{op:Vk}{a:Act}{w:Ur}{Q:Yo->Act->Ur->Prop}
theorem oP(g:V2 op (yielded ops a.tmps)=true)(k:U8)(x:XG)(ho:op.op=.load k x)(b o:Nat)(hx:a.eval x=oZ b o)(cs:List Ut)(d:TypeDesc)(i:w.rangeAt b o cs)
 (m:P.underlying k=some d) (hd:d.isRow=true) (l:(P.info? k).map (·.size)=some cs.length) (h:wpListIn F n P ops Q rest (a.put op.dst (.agg cs.toArray)) w):wpListIn F n P ops Q (op :: rest) a w:=
 wpListIn_step λK j=>by
  rw[g,yCj rfl];refine⟨λf hf=>(by unfold yAI at hf;rw[ho]at hf;cases hf),?_⟩;rw[yAb _ _ _ (λc=>by rw[ho];intro e;cases e)];unfold U5;simp only[ho,hx,ZB,X4,UV,Wr,Vm,Ye w b o k cs d i m hd l];exact j _ _ h
end
variable {P:Nat}[NeZero P]
theorem Hid.mk{p:Prop}(h:p):Hid p:=h
theorem Pp(C:Fld P)(c:ByteArray)(vb:Ut)(b:List UInt8)(k1 k2:Nat)(w:Ur)(kg:c.size<=1000000)(h1:w.cell? ⟨k1,0,none⟩=some (.string c))(h2:w.cell? ⟨k2,0,none⟩=some vb)(l1:k1<w.heap.size)(l2:k2<w.heap.size)(hb:PartOk w vb b)(n:Nat):
 SeqStopsK yBP n prog 112 #[jZ k1,jZ k2] (λx:Fin P × Fin P=>#[pv x.1 x.2]) (Below w.heap.size) (λxs=>xs=cands P c b 256) (λk=>k <+: cands P c b 256) 256 w:=by
 have HP:=hb;obtain⟨a0,sb,so,cap,bs,rfl,-,-,-,-⟩:=hb;intro l J Jx W hW hJ kh hY h0;refine callsIn_of_wp func112 rfl trivial ?_ rfl;simp only[ntmps112,VC,Vj,WG,VK,yBC,yAo,yAn,yAN,yAA,Xr,Xa]
 gi_wp2
 gi_loopw [10] (λp wr=>∃i:Nat,i<=256/\p=iZ i/\J (cands P c b i) wr/\kZ w wr/\W.heap.size<=wr.heap.size) (λp wr=>256-(intOf p).toNat)
 case atStart =>
  exact⟨0,dC,rfl,h0,hW,Uw _⟩
 case round =>
  obtain⟨i,hi,rfl,S,X,hn⟩:=hrel;have k9:=X;by_cases he:i=256
  ·subst he
   gi_wp2
   go_end0
   exact⟨⟨_,rfl⟩,.inl ⟨_,rfl,S⟩⟩
  ·have k8:(i:Int)<256:=oM;have c1:wr.cell? ⟨k1,0,none⟩=some (.string c):=(UW (X.block k1 l1)).trans h1;have c2:wr.cell? ⟨k2,0,none⟩=some (.slice a0 bs.size cap):=(UW (X.block k2 l2)).trans h2;have hs:=Made.alloc wr [.int .u8 i] 5;have h9:=Made.alloc (wr.alloc (.cells #[.int .u8 i] 5)) [.slice a0 bs.size cap,sZ wr.heap.size 1 1] 23;rw[UB]at h9;have kc:ub (UM i)=(i:Int):=by
    show(((UM i).toNat:Nat):Int)=_;rw[YH,US oM]
   obtain⟨W1,V⟩:∃W1,W1=(wr.alloc (.cells #[.int .u8 i] 5)).alloc (.cells #[.slice a0 bs.size cap,sZ wr.heap.size 1 1] 23):=⟨_,rfl⟩
   have M:kZ wr W1:=by rw[V];exact((UR _ wr).alloc (Uw _) _).alloc (by rw[UB];omega) _
   have hP:PartsOk W1 (some ⟨wr.heap.size+1,0,none⟩) [b,[UM i]]:=by
    have k:W1.rangeAt (wr.heap.size+1) 0 [.slice a0 bs.size cap,sZ wr.heap.size 1 1]:=by rw[V];exact h9.range
    refine UX ⟨_,_,rfl,λj g=>?_⟩;have m:j=0\/j=1:=by simp at g;omega
    rcases m with rfl|rfl
    ·exact⟨_,k 0 _ rfl,(HP.below k9).below M⟩
    ·refine⟨_,k 1 _ rfl,some (aZ wr.heap.size),wr.heap.size,0,1,#[UM i],rfl,rfl,Uw _,VR rfl,UX ⟨rfl,?_⟩⟩;have f:=hs.range;have s:wr.heap.size<(wr.alloc (.cells #[.int .u8 i] 5)).heap.size:=by rw[UB];omega
     intro j g;have o:j=0:=by simp at g;omega
     subst o;have q:W1.heap[wr.heap.size]? = (wr.alloc (.cells #[.int .u8 i] 5)).heap[wr.heap.size]?:=by rw[V];exact Below.heap_alloc _ _ _ s
     refine⟨?_,?_⟩
     ·rw[UW (a:=⟨wr.heap.size,0+0,none⟩) q];show _=some (Value.int .u8 (ub (UM i)));rw[kc];exact f 0 _ rfl
     ·rw[VU (a:=⟨wr.heap.size,0+0,none⟩) q];exact(hs.there 0 (Uw _)).2
   have h7:=vP ((⟨#[112,111,105,110,116,32]⟩:ByteArray)++c) (some ⟨wr.heap.size+1,0,none⟩) 2 [b,[UM i]] W1 (by rw[ByteArray.size_append];show 6+c.size<=_;omega) (VR rfl) hP
   gi_wp2_with fail
   rw[<-V];refine⟨trivial,λh=>(by cases h),(callsIn_wide.2 h7).mono ?_⟩;rintro e w2 ⟨r,rfl,kb,hl,O⟩;clear h7 hP c1 c2 hs h9 k8;obtain⟨T,R⟩:∃T,Hid (oR ((⟨#[112,111,105,110,116,32]⟩:ByteArray)++c).data.toList [b,[UM i]]=T):=⟨_,rfl⟩
   rw[R.out]at O
   gi_wp2_with fail
   refine⟨trivial,λh=>(by cases h),(callsIn_wide.2 (bO _)).mono ?_⟩;rintro e w3 ⟨v,rfl,U,rfl⟩;have hk:r<w2.heap.size:=Jh O (by rw[<-R.out,fC];decide);have ha:T.size=32:=by rw[<-R.out];exact fC _ _
   have hg:Holds encB w3 r 0 T:=Holds.below O U hk;have N:r<w3.heap.size:=Ux hk U.size;have t:kZ wr w3:=(M.trans (hl.mono M.size)).trans (U.mono (UC M.size hl.size));by_cases hx:beV T.toList<P
   ·obtain⟨x,Q⟩:∃x:Fin P,Hid (beV T.toList=x.val):=⟨Xh P (beV T.toList),(US hx).symm⟩
    have Y:Hid (Xh P (beV T.toList)=x):=X8 (by show beV T.toList%P=_;rw[US hx];exact Q.out);have hx:Hid (beV T.toList<P):=hx
    gi_wp2_with fail
    refine⟨trivial,λh=>(by cases h),(callsIn_wide.2 (Kl C ha (Uw _) Q.out N hg)).mono ?_⟩;rintro e B ⟨v,rfl,K,rfl⟩;have u:=(Made.alloc B [uZ 0,uZ 0,uZ 0,uZ 0] 47).there;have g:=t.trans (K.mono t.size);have k5:=VO _ _ 0 (ws x) u;obtain⟨d,k0,ht⟩:=Uy.1 u85;clear u k5 ha hg hk N U K O kb hl M;obtain⟨w5,hr⟩:∃w5,Hid ((B.alloc (.cells #[uZ 0,uZ 0,uZ 0,uZ 0] 47)).setCells B.heap.size 0 (ws x)=w5):=⟨_,rfl⟩
    have o:Hid (kZ wr w5):=by rw[<-hr.out];exact RG.below_setCells g.size _ _ _ (g.alloc g.size _)
    have h8:w5.rangeAt B.heap.size 0 (ws x):=by rw[<-hr.out];exact VO _ _ 0 (ws x) (Made.alloc B [uZ 0,uZ 0,uZ 0,uZ 0] 47).there
    gi_wp2_with (first|(refine bL rfl 47 _ _ rfl B.heap.size 0 (ws x).toArray rfl rfl (Made.alloc B [uZ 0,uZ 0,uZ 0,uZ 0] 47).there i85 kR ?_;rw[show(ws x).toArray.toList=ws x from rfl,hr.out])|refine jS rfl 47 _ rfl B.heap.size 0 rfl (ws x) d h8 k0 ht i85 ?_)
    refine⟨trivial,λh=>(by cases h),?_⟩;clear h8 k0 ht;have ke:True:=trivial;obtain⟨d8,Z,h4⟩:=Uy.1 gU;cases F:rt (x*x*x+7) with
    | none =>
     obtain⟨z,H⟩:∃z:Fin P,Hid (z=0):=⟨_,rfl⟩
     have k:=Ap C x F w5;rw[<-H.out]at k;obtain⟨vz,D⟩:∃vz,Hid (pv z z=vz):=⟨_,rfl⟩
     rw[D.out]at k;refine(callsIn_wide.2 k).mono ?_;clear k;rintro e s ⟨v,rfl,I,rfl⟩;have f:Hid (cand P c b i=none):=by
      show cand P c b i=none;unfold cand;rw[R.out,yCj hx.out,Y.out,F];rfl
     clear F;have q:Hid (kZ wr ((s.alloc (.cells #[uZ 0,uZ 0,uZ 0,uZ 0,uZ 0,uZ 0,uZ 0,uZ 0] 93)).setCells s.heap.size 0 (ws z++ws z))):=
      have h6:=o.trans (I.mono o.size)
      RG.below_setCells h6.size _ _ _ (h6.alloc h6.size _)
     clear I;have E:(ws z++ws z).toArray.size=8:=kR;have A:Hid <| (s.alloc (.cells #[uZ 0,uZ 0,uZ 0,uZ 0,uZ 0,uZ 0,uZ 0,uZ 0] 93)).there s.heap.size 0 (ws z++ws z).toArray.size:=by show yBF _ _ _ _;rw[E];exact(Made.alloc s [uZ 0,uZ 0,uZ 0,uZ 0,uZ 0,uZ 0,uZ 0,uZ 0] 93).there
     have L:Hid ((prog.info? 93).map (·.size)=some (ws z++ws z).toArray.size):=by show _=_;rw[E];exact i109
     clear E;obtain⟨G,m⟩:∃G,Hid ((s.alloc (.cells #[uZ 0,uZ 0,uZ 0,uZ 0,uZ 0,uZ 0,uZ 0,uZ 0] 93)).setCells s.heap.size 0 (ws z++ws z)=G):=⟨_,rfl⟩
     rw[m.out]at q
     gi_wp2_with (refine bL rfl 93 _ _ rfl s.heap.size 0 (ws z++ws z).toArray ?_ ?_ ?_ ?_ ?_ ?_;rfl;exact D.symm;exact A.out;exact L.out;kernel_rfl;rw[show(ws z++ws z).toArray.toList=ws z++ws z from rfl,m.out];refine Zf ?_)
     clear A L D H m o Y Q hx R;show wpListIn _ _ _ _ _ _ _ _
     gi_wp2_with fail
     refine⟨λ_ h=>(by cases h),?_⟩
     gi_wp2_with fail
     refine⟨⟨i+1,oM,rfl,?_,X.trans (q.mono X.size),UC hn q.size⟩,?_⟩
     ·rw[jO,f.out];exact hJ _ wr _ none (by simpa using S) (A4 q.out none) (λ_ e=>by cases e)
     ·simp[intOf];omega
    | some y =>
     have k:=Ao C x y F w5;obtain⟨vz,D⟩:∃vz,Hid (pv x y=vz):=⟨_,rfl⟩
     rw[D.out]at k;refine(callsIn_wide.2 k).mono ?_;clear k;rintro e s ⟨v,rfl,I,rfl⟩;have f:Hid (cand P c b i=some (x,y)):=by
      show cand P c b i=some (x,y);unfold cand;rw[R.out,yCj hx.out,Y.out,F];rfl
     clear F;obtain⟨G,m⟩:∃G,Hid ((s.alloc (.cells #[uZ 0,uZ 0,uZ 0,uZ 0,uZ 0,uZ 0,uZ 0,uZ 0] 93)).setCells s.heap.size 0 (ws x++ws y)=G):=⟨_,rfl⟩
     have H:Hid (kZ wr G):=by
      rw[<-m.out];have h6:=o.trans (I.mono o.size);exact RG.below_setCells h6.size _ _ _ (h6.alloc h6.size _)
     clear I;have h5:G.rangeAt s.heap.size 0 (ws x++ws y):=by rw[<-m.out];exact VO _ _ 0 (ws x++ws y) (Made.alloc s [uZ 0,uZ 0,uZ 0,uZ 0,uZ 0,uZ 0,uZ 0,uZ 0] 93).there
     have kd:Hid (J (cands P c b i) G):=hJ _ wr _ none (by simpa using S) (A4 H.out none) (λ_ e=>by cases e);have E:(ws x++ws y).toArray.size=8:=kR;have A:Hid <| (s.alloc (.cells #[uZ 0,uZ 0,uZ 0,uZ 0,uZ 0,uZ 0,uZ 0,uZ 0] 93)).there s.heap.size 0 (ws x++ws y).toArray.size:=by show yBF _ _ _ _;rw[E];exact(Made.alloc s [uZ 0,uZ 0,uZ 0,uZ 0,uZ 0,uZ 0,uZ 0,uZ 0] 93).there
     have L:Hid ((prog.info? 93).map (·.size)=some (ws x++ws y).toArray.size):=by show _=_;rw[E];exact i109
     clear E;obtain⟨fn,tmps,k7,kf,hy,hR⟩:=hY (cands P c b i) (x,y) G kd.out (Nat.lt_of_le_of_lt (GZ c b i) oM);dsimp only at hy;obtain⟨va,hm⟩:∃va,Hid (U3 (ws x++ws y).toArray=va):=⟨_,rfl⟩
     rw[show pv x y=va from hm.out]at hy
     gi_wp2_with (refine bL rfl 93 _ _ rfl s.heap.size 0 (ws x++ws y).toArray ?_ ?_ ?_ ?_ ?_ ?_;rfl;exact D.symm;exact A.out;exact L.out;kernel_rfl;rw[show(ws x++ws y).toArray.toList=ws x++ws y from rfl,m.out];refine Zf ?_)
     clear A L m o Y Q hx R;have k6:=Hid.mk hR;have h3:=Hid.mk h5;have hu:=Hid.mk Z;have hw:=Hid.mk h4;clear hR h5 Z h4;show wpListIn _ _ _ _ _ _ _ _
     gi_wp2_with (refine oP rfl 93 _ rfl s.heap.size 0 ?_ (ws x++ws y) d8 ?_ ?_ ?_ ?_ ?_;rfl;exact h3.out;exact hu.out;exact hw.out;exact i109;rw[hm.out];refine Zf ?_)
     clear h3 hu hw hm D;show wpListIn _ _ _ _ _ _ _ _
     gi_wp2_with fail
     refine⟨λh=>(by cases h),k6.mono ?_⟩;clear k6 hy;rintro e W8 (⟨rfl,ka,k3⟩|⟨rfl,k4⟩)
     ·gi_wp2_with fail
      refine⟨⟨i+1,oM,rfl,?_,(X.trans (H.mono X.size)).trans k3,UC hn (UC H.size k3.size)⟩,?_⟩
      ·rw[jO,f.out];exact ka
      ·simp[intOf];omega
     ·gi_wp2_with fail
      refine UE (results_none rfl _ _ _) rfl ?_;refine⟨⟨_,rfl⟩,.inr ⟨_,?_,k4⟩⟩;have hp:=GY (P:=P) c b (i:=i+1) (j:=256) oM;rw[jO,f.out]at hp;exact hp
   ·have f:cand P c b i=none:=by
     unfold cand;rw[R.out,yCk hx]
    gi_wp2_with fail
    refine⟨trivial,λh=>(by cases h),(callsIn_wide.2 (Kn C ha (Uw _) hx N hg)).mono ?_⟩;rintro e B ⟨v,rfl,K,rfl⟩;have u:Hid ((B.alloc (.cells #[uZ 0,uZ 0,uZ 0,uZ 0] 47)).there B.heap.size 0 4):=(Made.alloc B [uZ 0,uZ 0,uZ 0,uZ 0] 47).there;have g:=t.trans (K.mono t.size);have q:Hid (kZ wr ((B.alloc (.cells #[uZ 0,uZ 0,uZ 0,uZ 0] 47)).setCells B.heap.size 0 (ws (0:Fin P)))):=RG.below_setCells g.size _ _ _ (g.alloc g.size _);have f:Hid (cand P c b i=none):=f;obtain⟨G,m⟩:∃G,Hid ((B.alloc (.cells #[uZ 0,uZ 0,uZ 0,uZ 0] 47)).setCells B.heap.size 0 (ws (0:Fin P))=G):=⟨_,rfl⟩
    rw[m.out]at q
    gi_wp2_with (refine bL rfl 47 _ _ rfl B.heap.size 0 (ws (0:Fin P)).toArray ?_ ?_ ?_ ?_ ?_ ?_;rfl;rfl;exact u.out;exact i85;kernel_rfl;rw[show(ws (0:Fin P)).toArray.toList=ws (0:Fin P) from rfl,m.out];refine Zf ?_)
    clear u g t K R m;show wpListIn _ _ _ _ _ _ _ _
    gi_wp2_with fail
    refine⟨⟨i+1,oM,rfl,?_,X.trans (q.mono X.size),UC hn q.size⟩,?_⟩
    ·rw[jO,f.out];exact hJ _ wr _ none (by simpa using S) (A4 q.out none) (λ_ e=>by cases e)
    ·simp[intOf];omega
end
end Go.Proofs.YtdoammpgchejcaaGreat
