import Derived.Deep.LoopGhost
import Derived.Deep.RegionHeld3
import Derived.Lib.LazyBuf
import Derived.RangeFuncNested
import Derived.RangeFuncBound
import Derived.RangeFuncCalls
import Derived.RangeFuncLeaves
import Derived.Shelf.Abstract
import Derived.Shelf.RegionOpen
import Derived.WalkKit
import Derived.OwnWalkIn
import Derived.TacticsInMore
import Derived.LoopNIn
import Derived.LoopIn
import Derived.Deep.RegionWith
import Derived.Deep.CutRange
import Derived.Deep.DeepCutAuto
import Derived.Deep.OwnRows
import Derived.Great.BuildSlice
import Derived.Laws.AppendOwn
import Derived.Laws.IdiomCopy
import Derived.Lib.AppendZeros
import Derived.Test.YtdoammpgchejcaaGreatsz3
set_option linter.unusedVariables false
set_option linter.constructorNameAsVariable false
set_option linter.unusedSimpArgs false
set_option maxRecDepth 1000000
set_option maxHeartbeats 4000000
namespace Go.Proofs.YtdoammpgchejcaaGreat
open EC NT RG SP
open _root_.Array renaming all_eq_true'->WW,any_eq_true'->XN,ext->yB4,ext_getElem?->yAF,getD_eq_getD_getElem?->UH,getElem?_eq_getElem->UZ,getElem?_eq_some_iff->UY,getElem?_replicate->Yg,getElem?_setIfInBounds->WA,getElem?_toList->Vo,getElem_replicate->Wv,length_toList->UJ,replicate->UI,replicate_succ->yAo,replicate_zero->yAn,size_append->VM,size_extract->Xw,size_replicate->UO,size_setIfInBounds->VE,toList_append->yAu,toList_replicate->Y3
open _root_.Bool renaming and_eq_true->UK,or_eq_false_iff->yAt,or_eq_true->Xu,true_or->X9
open _root_.Classical renaming byContradiction->Ws
open _root_.Fin renaming ext->X8,ofNat->Xg,val_mul->XI
open _root_.Go renaming Addr->Wt,Calls->UG,Exit->Yo,Oper->Vj,Operand->XF,Program->VC,Tmp->WB,TypeId->U7,Value->Us,World->Uq,bodyPost_ret->UD,execOp->U4,run_append_own->Y1,run_loadVar_mid->Ye,run_underlying->XX,undef->WO,wpList_load_mid->U5,wpList_plain->Xf,wpList_store_mid->U1,wpOp_mono->Zz,wp_block->XG,wp_cond_false->VH,wp_cond_true->VD,wp_loop_ghost->Ze,wp_region_any->yB7,wp_ret->We,wp_seq->Uy,wp_skip->WR
open _root_.Go.Addr renaming add->Zi
open _root_.Go.Builtin renaming append_->Vr,clear_->yAK,zeroCells->WC
open _root_.Go.Code renaming region->V3
open _root_.Go.Exit renaming inBlock->Yu
open _root_.Go.Fence renaming wide->yBP
open _root_.Go.Instr renaming box->Vd,build->Zg,buildSlice->Vx,findAsking->yAS,findKey->yBv,indexAt->Vk,loadAt->ZB,lookup->yAh,mapUpdate->Y2,sliceAt->Xm,sureAddr->X4
open _root_.Go.IntKind renaming i64->VR,wrap_i64->Yj
open _root_.Go.Next renaming value->Xo
open _root_.Go.Oper renaming about->yAI,semAt_eq->yAb,semAt_some->Zd,upon_enter->WX,wp->VS
open _root_.Go.OwnFrom renaming and->yBu
open _root_.Go.Region renaming binds->VO,ready->U6,wanted->V1
open _root_.Go.Result renaming andThen_ok->Vl
open _root_.Go.RowKit.Below renaming refl->UQ
open _root_.Go.RowKit.Hid renaming out->Zf
open _root_.Go.Sem renaming run->yBO,run_bind->UU,run_pure->Wq
open _root_.Go.Value renaming agg->U2
open _root_.Go.World renaming cell?->VX,cell?_of_block->UV,frozen?->WV,frozen?_of_block->VT,ownsRow_nil->yAH,putObj->yAe,rangeAt_setCells_apart->Vg,rangeAt_setCells_same->VN,size_alloc->UA,there->yBF,there_setCells->VV
open _root_.List renaming all_eq_true->U9,append_nil->Xt,append_toArray->yAA,cons_append->WY,countP_replicate->yAm,eq_nil_iff_forall_not_mem->ZJ,ext_getElem?->YX,filter_sublist->yAz,finRange->yBx,flatMap_append->Zq,flatMap_cons->Zy,getElem?_append_left->US,getElem?_append_right->U0,getElem?_eq_getElem->UF,getElem?_eq_none->Ww,getElem?_eq_some_iff->UE,getElem?_map->Vy,getElem?_of_mem->WI,getElem?_range->yAy,getElem?_take->Wz,getElem?_toArray->Vf,getElem_cons_succ->yAj,getElem_mem->VG,length->yBM,length_append->Uz,length_cons->Vh,length_filter_le->yAl,length_map->UP,length_nil->WF,length_range->XV,length_take->WE,map_append->V9,map_cons->XU,map_nil->yBD,map_toArray->yA1,mem_append->Wy,mem_cons->VW,mem_cons_of_mem->Va,mem_cons_self->Vt,mem_filter->Y5,mem_finRange->yAP,mem_flatMap->yA0,mem_map->Vm,mem_of_mem_take->yAp,mem_range->VZ,mem_toArray->X6,nil_append->Xq,nodup_cons->XR,nodup_finRange->Zk,not_mem_nil->UX,pairwise_map->yAO,prefix_rfl->yBb,push_toArray->yAN,range->VF,range_succ->Y4,set_cons_succ->Ut,size_toArray->VB,take_add_one->ZH,take_length->yAZ
open _root_.List.Pairwise renaming imp->ZY
open _root_.Nat renaming add_comm->yBL,add_mod->Zn,add_mul->XE,add_zero->XA,div_add_mod->Z8,le_add_right->Y8,le_of_ble_eq_true->VQ,le_of_lt->XJ,le_refl->Uv,le_trans->UB,lt_of_lt_of_le->Uw,lt_of_succ_le->Xi,lt_or_ge->Wp,mod_eq_of_lt->UR,mod_lt->V4,mul_comm->Vu,mul_le_mul_right->Xr,mul_mod->Xy,mul_succ->Yi,mul_zero->ZP,ne_of_gt->V7,pos_of_neZero->Yy,pow_succ->V6,pow_two->yBT,reduceAdd->VJ,reduceSub->yBC,sub_zero->YT,zero_add->UC,zero_le->Wx
open _root_.Ne renaming symm->YB
open _root_.Option renaming isSome_iff_exists->Vq,map_eq_some_iff->Ux,map_some->Yv,some->UN
open _root_.Or renaming inl->U3,inr->UW
open _root_.Prod renaming mk->V5
open _root_.UInt8 renaming ofNat->UL,toNat_inj->yAU,toNat_ofNat'->YH
open Go.Proofs.Tryz
open Go.RowKit Go.Sort Go.Deep
section
variable {P:Nat}[NeZero P]{N:Nat}
def ArgsPts(w:Uq)(q:Option Wt)(n:Nat)(L:Nat->Bs):Prop:=0<n->∃k,q=some (aZ k)/\k<w.heap.size/\∀j,j<n->∃v,w.cell? ⟨k,j,none⟩=some v/\Arg33 w v (L j)
def Ul(P:Nat)[NeZero P](w:Uq)(n:Nat)(L:Nat->Bs)(e:Us)(w':Uq):Prop:=
 (∃k,w.heap.size<=k/\k<w'.heap.size/\e=.tuple #[sZ k n n,iZ 0]/\∀j,j<n->∃p,rd P (L j)=some p/\w'.rangeAt k (8*j) (ws p.1++ws p.2)) \/
 ((∃j,j<n/\rd P (L j)=none)/\e=.tuple #[.slice none 0 0,iZ 4])
theorem S5(F:Fld P)(n cap:Nat)(hn:n<=512)(q:Option Wt)(L:Nat->Bs)(w:Uq)(hA:ArgsPts w q n L):UG prog 206 #[.slice q n cap] w (rZ w λe w'=>Ul P w n L e w'):=by
 obtain⟨C,ha,h8⟩:=Rz n hn;obtain⟨i,-⟩:∃i:Nat,i=0:=⟨_,rfl⟩
 obtain⟨b,-⟩:∃i:Nat,i=0:=⟨_,rfl⟩
 obtain⟨m,-⟩:∃i:Nat,i=0:=⟨_,rfl⟩
 obtain⟨v,-⟩:∃v:Us,v=.bool true:=⟨_,rfl⟩
 obtain⟨x,-⟩:∃x:Fin P,x=0:=⟨_,rfl⟩
 obtain⟨y,-⟩:∃x:Fin P,x=0:=⟨_,rfl⟩
 obtain⟨M,-⟩:∃c:List Us,c=C:=⟨_,rfl⟩
 go_enter func206,ntmps206;refine Hx (v0:=.slice q n cap) (n:=32) kR kR kR ?_;intro a0 hg f0;have he:=RG.St.begin w;have M0:RG.M w w.heap.size [] 32 [] [] [(0,.v (.slice q n cap))] a0 _:=⟨he,hg,⟨f0,yCl⟩⟩
 repeat refine Uy ?_
 refine M0.U [.x (.slice none 0 0),.x (iZ 0)] [0,2,3] ⟨st,st,yCl⟩ ?_;intro a1 w1 M1;repeat refine Uy ?_
 refine M1.t [.x 9 [] (.slice q n cap),.x 10 [(9,0)] (iZ n),⟨some 11,[(10,1)],.s 0 n n,.make 0⟩,.s 4 [(11,2)] (.s 0 n n)] [(2,C)] [] [C] [(0,.v (.slice q n cap)),(2,.v (.slice none 0 0)),(3,.v (iZ 0)),(4,.s 0 n n)] ⟨st,fQ rfl 9 (.v (.slice q n cap)) (iZ n) rfl sx (λa w=>kR) (λμ w=>kR),mJ 0 rfl _ rfl 100 93 10 10 n rfl rfl sx sx h8,st,yCl⟩ ?_;intro j2 a2 w2 M2;repeat refine Uy ?_
 refine M2.U [.x (.slice q n cap),.x (iZ n),.x (iZ 0)] [2,3,4,12,13,14] ⟨st,fQ rfl 12 (.v (.slice q n cap)) (iZ n) rfl sx (λa w=>kR) (λμ w=>kR),st,yCl⟩ ?_;intro U w3 G;have hm:U.tmps[2]? = some (.slice none 0 0):=G.at (s:=(.v (.slice none 0 0)));have hl:U.tmps[3]? = some (iZ 0):=G.at (s:=(.v (iZ 0)));have W:U.tmps[4]? = some (sZ j2 n n):=G.at (s:=(.s 0 n n));have T:U.tmps[12]? = some (.slice q n cap):=G.at (s:=(.v (.slice q n cap)));have J:U.tmps[13]? = some (iZ n):=G.at (s:=(.v (iZ n)));have Q:U.tmps[14]? = some (iZ 0):=G.at (s:=(.v (iZ 0)));repeat refine Uy ?_
 refine XG ?_;refine Ze (λm a wr=>∃(i:Nat) (C:List Us),i+m=n/\(∀j,j<i->(rd P (L j)).isSome=true)/\Rows 8 n (λj=>match rd P (L j) with|some p=>ws p.1++ws p.2|none=>[]) i C/\Sl a 32/\a.tmps[4]? = some (sZ j2 n n)/\a.tmps[12]? = some (.slice q n cap)/\a.tmps[13]? = some (iZ n)/\a.tmps[14]? = some (iZ i)/\RG.St w w.heap.size [] [C] [j2] wr) n ⟨0,C,oM,λj hj=>oM,⟨ha,λj r hj=>oM⟩,G.sl,W,T,J,Q,G.st⟩ ?_;intro m' a wr;rintro⟨i,C,hy,E,hR,sl,p4,t,O,R,B⟩;generalize j2=S at p4 B;by_cases o:i<n
 ·obtain⟨b,V,X,hc⟩:=hA oM;rw[V]at t;obtain⟨v,hv,H⟩:=hc i o;have l:w.cell? ⟨b,0+i,none⟩=some v:=by rw[UC];exact hv
  cases k:rd P (L i) with
  | some pp =>
   obtain⟨x,y⟩:=pp;have I:∀w',BelX w.heap.size [] w w'->UG prog 193 #[v] w' (Ret λe N=>kZ w' N/\e=.tuple #[pv x y,.bool true]):=λw' hb=>by
    have:=mZ F v (L i) w' (H.below hb.below);rw[k]at this;exact this
   have Y:=hR.len;have g:0+8*i+(ws x++ws y).length<=C.length:=by rw[Y];show 0+8*i+8<=8*n;omega
   obtain⟨M,f⟩:∃c,rep C (0+8*i) (ws x++ws y)=c:=⟨_,rfl⟩
   have h6:=f ▸ RG.rep_at g;have h7:M.length=C.length:=f ▸ cU g;have hk:Rows 8 n (λj=>match rd P (L j) with|some p=>ws p.1++ws p.2|none=>[]) (i+1) M:=by
    have:=hR.next o (by show yBM (match rd P (L i) with|some p=>_|none=>_)=_;rw[k];rfl);rw[<-f];have e:(λj=>match rd P (L j) with|some p=>ws p.1++ws p.2|none=>[]) i=(ws x++ws y):=by show(match rd P (L i) with|some p=>_|none=>_)=_;rw[k]
    rw[<-e];exact this
   have h1:RG.M w w.heap.size [] 32 [C] [S] [(4,.s 0 n n),(12,.v (sZ b n cap)),(13,.v (iZ n)),(14,.v (iZ i))] a _:=⟨B,sl,⟨p4,t,O,R,yCl⟩⟩
   repeat refine Uy ?_
   refine h1.U [.x (.bool true)] [4,12,13,14,15] ⟨aQ rfl .lss 3 3 14 13 (iZ i) (iZ n) (.bool true) rfl rfl sx sx (λw=>kR) (gA o),yCl⟩ ?_;intro k1 hq Z;repeat refine Uy ?_
   refine VD Z.ev ?_;refine WR ?_;refine Uy ?_;refine XG ?_;repeat refine Uy ?_
   refine Z.U [.x (iZ i),.x (.pointer (some ⟨b,0+i,none⟩)),.x v,.x (iZ i),.x v] [4,5,6,12,13,14] ⟨st,bD rfl 24 12 14 rfl (.v (sZ b n cap)) (iZ i) sx sx (λμ w=>Nh _ 0 _ _ i o w),bM rfl b (0+i) X UX 23 17 rfl v rfl sx l u23,st,st,yCl⟩ ?_;intro hw hp h3;repeat refine Uy ?_
   refine h3.T [.x v,.c (.tuple #[pv x y,.bool true]),.x (.tuple #[pv x y,.bool true]),.x (pv x y),.x (.bool true),.m 1,.u 1,.x (.bool true)] [(5,RG.z 8)] [(1,6,ws x++(ws y))] [C,ws x++(ws y)] [4,5,7,8,12,13,14] ⟨st,uG rfl 193 20 v (.tuple #[pv x y,.bool true]) rfl (λa w=>kR) sx I,st,st,st,mk 1 93,RG.pt i109,st,yCl⟩ ?_;intro hz k9 k0 h4;repeat refine Uy ?_
   refine h4.U [.x (.bool true),.x (.bool false)] [4,5,7,12,13,14,25] ⟨st,st,yCl⟩ ?_;intro ht hu h0;repeat refine Uy ?_
   refine VH h0.ev ?_;refine WR ?_;repeat refine Uy ?_
   refine h0.tx [.s 26 [] (.s 0 n n),.x 27 [] (iZ i),.x 28 [] (pv x y),.s 29 [(26,0),(27,1)] (.p 0 (0+8*i)),.u [(29,3),(28,2)] 0] [] [(0,4,M)] [M,ws x++(ws y)] [(4,.s 0 n n),(12,.v (sZ b n cap)),(13,.v (iZ n)),(14,.v (iZ i))] kR (congrArg (λn=>[n]) h7) ⟨st,st,ld gU i109,bD rfl 100 26 27 rfl (.s 0 n n) (iZ i) sx sx (λμ w=>NY _ 0 _ _ i o w),eZ 0 (0+8*i) rfl _ rfl 93 (.tmp 29) (.tmp 28) (ws x++ws y) rfl rfl sx sx g h6 i109 rfl,yCl⟩ ?_;intro hs k6 h9;repeat refine Uy ?_
   refine h9.U [.x (iZ ((i+1:Nat):Int)),.x (iZ ((i+1:Nat):Int))] [4,12,13,14] ⟨aP rfl .add 3 3 14 (iZ i) (iZ 1) (iZ ((i+1:Nat):Int)) rfl rfl sx (λw=>kR) (uQ i 1 oM oM),st,yCl⟩ ?_;intro u k5 d;have K:u.tmps[4]? = some (sZ S n n):=d.at (s:=(.s 0 n n));have z:u.tmps[12]? = some (sZ b n cap):=d.at (s:=(.v (sZ b n cap)));have D:u.tmps[13]? = some (iZ n):=d.at (s:=(.v (iZ n)));have A:u.tmps[14]? = some (iZ ((i+1:Nat):Int)):=d.at (s:=(.v (iZ ((i+1:Nat):Int))));show ∃n',_;exact⟨m'-1,oM,i+1,M,oM,λj hj=>(by
    by_cases h2:j=i
    ·rw[h2,k];rfl
    ·exact E j oM),hk,d.sl,K,(by rw[V];exact z),D,A,RG.St.init (cs:=[M]) (ks:=[S]) d.st⟩
  | none =>
   have I:∀w',BelX w.heap.size [] w w'->UG prog 193 #[v] w' (Ret λe N=>kZ w' N/\e=.tuple #[pv (0:Fin P) 0,.bool false]):=λw' hb=>by
    have:=mZ F v (L i) w' (H.below hb.below);rw[k]at this;exact this
   have u:RG.M w w.heap.size [] 32 [C] [S] [(4,.s 0 n n),(12,.v (sZ b n cap)),(13,.v (iZ n)),(14,.v (iZ i))] a _:=⟨B,sl,⟨p4,t,O,R,yCl⟩⟩
   repeat refine Uy ?_
   refine u.U [.x (.bool true)] [12,14,15] ⟨aQ rfl .lss 3 3 14 13 (iZ i) (iZ n) (.bool true) rfl rfl sx sx (λw=>kR) (gA o),yCl⟩ ?_;intro Y D g;repeat refine Uy ?_
   refine VD g.ev ?_;refine WR ?_;refine Uy ?_;refine XG ?_;repeat refine Uy ?_
   refine g.U [.x (iZ i),.x (.pointer (some ⟨b,0+i,none⟩)),.x v,.x (iZ i),.x v] [6] ⟨st,bD rfl 24 12 14 rfl (.v (sZ b n cap)) (iZ i) sx sx (λμ w=>Nh _ 0 _ _ i o w),bM rfl b (0+i) X UX 23 17 rfl v rfl sx l u23,st,st,yCl⟩ ?_;intro k3 kb A;repeat refine Uy ?_
   refine A.T [.x v,.c (.tuple #[pv (0:Fin P) (0:Fin P),.bool false]),.x (.tuple #[pv (0:Fin P) (0:Fin P),.bool false]),.x (pv (0:Fin P) (0:Fin P)),.x (.bool false),.m 1,.u 1,.x (.bool false)] [(5,RG.z 8)] [(1,6,ws (0:Fin P)++(ws (0:Fin P)))] [C,ws (0:Fin P)++(ws (0:Fin P))] [8] ⟨st,uG rfl 193 20 v (.tuple #[pv (0:Fin P) (0:Fin P),.bool false]) rfl (λa w=>kR) sx I,st,st,st,mk 1 93,RG.pt i109,st,yCl⟩ ?_;intro Z ka k8 z;repeat refine Uy ?_
   refine z.U [.x (.bool false),.x (.bool true)] [25] ⟨st,st,yCl⟩ ?_;intro k7 k4 f;repeat refine Uy ?_
   refine VD f.ev ?_;repeat refine Uy ?_
   refine f.U [.x (.slice none 0 0),.x (iZ 4)] [2,3] ⟨st,st,yCl⟩ ?_;intro k2 K d;refine We ?_;refine UD (v:=.tuple #[.slice none 0 0,iZ 4]) (fX 2 3 rfl _ _ (d.at (s:=(.v (.slice none 0 0)))) (d.at (s:=(.v (iZ 4))))) d.sl.defers ?_;exact⟨_,rfl,d.st.bel.below,UW ⟨⟨i,o,k⟩,rfl⟩⟩
 ·have z:i=n:=oM;have g:RG.M w w.heap.size [] 32 [C] [S] [(4,.s 0 n n),(12,.v (.slice q n cap)),(13,.v (iZ n)),(14,.v (iZ i))] a _:=⟨B,sl,⟨p4,t,O,R,yCl⟩⟩
  repeat refine Uy ?_
  refine g.U [.x (.bool false)] [4,15] ⟨aQ rfl .lss 3 3 14 13 (iZ i) (iZ n) (.bool false) rfl rfl sx sx (λw=>kR) (nH o),yCl⟩ ?_;intro I A d;repeat refine Uy ?_
  refine VH d.ev ?_;refine wp_exit ?_;dsimp only[Exit.then,Yu];rw[yCj rfl];repeat refine Uy ?_
  refine d.U [.s (.s 0 n n),.s (.s 0 n n),.x (iZ 0)] [2,3] ⟨st,st,st,yCl⟩ ?_;intro D H k;refine We ?_;refine UD (v:=.tuple #[sZ S n n,iZ 0]) (fX 2 3 rfl _ _ (k.at (s:=(.s 0 n n))) (k.at (s:=(.v (iZ 0))))) k.sl.defers ?_;refine⟨_,rfl,k.st.bel.below,U3 ⟨S,?_,?_,rfl,λj hj=>?_⟩⟩
  ·exact(k.st.has 0 C rfl).2.2.2.elim id (λh=>absurd h UX)
  ·exact(k.st.has 0 C rfl).2.2.1
  ·obtain⟨pp,f⟩:=Vq.1 (E j oM);refine⟨pp,f,rV (k.st.has 0 C rfl).1 (λr l=>?_)⟩;have u:=hR.row j r oM l;rw[u];show(match rd P (L j) with|some p=>_|none=>_)[r]? = _;rw[f]
def vT(w:Uq)(q:Option Wt)(n:Nat)(L:Nat->Bs):Prop:=0<n->∃k,q=some (aZ k)/\k<w.heap.size/\∀j,j<n->∃v,w.cell? ⟨k,j,none⟩=some v/\Arg w v (L j)
def Uk(N:Nat)(w:Uq)(n:Nat)(L:Nat->Bs)(e:Us)(w':Uq):Prop:=
 (∃k,w.heap.size<=k/\k<w'.heap.size/\e=.tuple #[sZ k n n,iZ 0]/\∀j,j<n->∃p,rq N (L j)=some p/\w'.rangeAt k (4*j) (wn p)) \/
 ((∃j,j<n/\rq N (L j)=none)/\e=.tuple #[.slice none 0 0,iZ 3])
theorem Ob{N:Nat}(hG:Gap 4624529908474429119 4994812053365940164 1 N)(n cap:Nat)(hn:n<=512)(q:Option Wt)(L:Nat->Bs)(w:Uq)(hA:vT w q n L):UG prog 47 #[.slice q n cap] w (rZ w λe w'=>Uk N w n L e w'):=by
 obtain⟨C,h9,h7⟩:=TL n hn;obtain⟨i,-⟩:∃i:Nat,i=0:=⟨_,rfl⟩
 obtain⟨d,-⟩:∃i:Nat,i=0:=⟨_,rfl⟩
 obtain⟨m,-⟩:∃i:Nat,i=0:=⟨_,rfl⟩
 obtain⟨v,-⟩:∃v:Us,v=.bool true:=⟨_,rfl⟩
 obtain⟨J,-⟩:∃c:List Us,c=C:=⟨_,rfl⟩
 go_enter func47,ntmps47;refine Hx (v0:=.slice q n cap) (n:=33) kR kR kR ?_;intro a0 he f0;have ha:=RG.St.begin w;have M0:RG.M w w.heap.size [] 33 [] [] [(0,.v (.slice q n cap))] a0 _:=⟨ha,he,⟨f0,yCl⟩⟩
 repeat refine Uy ?_
 refine M0.U [.x (.slice none 0 0),.x (iZ 0)] [0,2,3] ⟨st,st,yCl⟩ ?_;intro a1 w1 M1;repeat refine Uy ?_
 refine M1.t [.x 9 [] (.slice q n cap),.x 10 [(9,0)] (iZ n),⟨some 11,[(10,1)],.s 0 n n,.make 0⟩,.s 4 [(11,2)] (.s 0 n n)] [(2,C)] [] [C] [(0,.v (.slice q n cap)),(2,.v (.slice none 0 0)),(3,.v (iZ 0)),(4,.s 0 n n)] ⟨st,fQ rfl 9 (.v (.slice q n cap)) (iZ n) rfl sx (λa w=>kR) (λμ w=>kR),mJ 0 rfl _ rfl 89 47 10 10 n rfl rfl sx sx h7,st,yCl⟩ ?_;intro j2 a2 w2 M2;repeat refine Uy ?_
 refine M2.U [.x (.slice q n cap),.x (iZ n),.x (iZ 0)] [2,3,4,12,13,14] ⟨st,fQ rfl 12 (.v (.slice q n cap)) (iZ n) rfl sx (λa w=>kR) (λμ w=>kR),st,yCl⟩ ?_;intro S w3 E;have hl:S.tmps[2]? = some (.slice none 0 0):=E.at (s:=(.v (.slice none 0 0)));have hk:S.tmps[3]? = some (iZ 0):=E.at (s:=(.v (iZ 0)));have U:S.tmps[4]? = some (sZ j2 n n):=E.at (s:=(.s 0 n n));have R:S.tmps[12]? = some (.slice q n cap):=E.at (s:=(.v (.slice q n cap)));have H:S.tmps[13]? = some (iZ n):=E.at (s:=(.v (iZ n)));have O:S.tmps[14]? = some (iZ 0):=E.at (s:=(.v (iZ 0)));repeat refine Uy ?_
 refine XG ?_;refine Ze (λm a wr=>∃(i:Nat) (C:List Us),i+m=n/\(∀j,j<i->(rq N (L j)).isSome=true)/\Rows 4 n (λj=>match rq N (L j) with|some k=>wn k|none=>[]) i C/\Sl a 33/\a.tmps[4]? = some (sZ j2 n n)/\a.tmps[12]? = some (.slice q n cap)/\a.tmps[13]? = some (iZ n)/\a.tmps[14]? = some (iZ i)/\RG.St w w.heap.size [] [C] [j2] wr) n ⟨0,C,oM,λj hj=>oM,⟨h9,λj r hj=>oM⟩,E.sl,U,R,H,O,E.st⟩ ?_;intro m' a wr;rintro⟨i,C,hw,D,hR,sl,Z,u,M,P,A⟩;generalize j2=Q at Z A;by_cases t:i<n
 ·obtain⟨d,T,V,hc⟩:=hA oM;rw[T]at u;obtain⟨v,hv,F⟩:=hc i t;have o:w.cell? ⟨d,0+i,none⟩=some v:=by rw[UC];exact hv
  cases b:rq N (L i) with
  | some pp =>
   obtain⟨m,rfl⟩:∃m,m=pp:=⟨_,rfl⟩
   have G:∀w',BelX w.heap.size [] w w'->UG prog 59 #[gv1,v] w' (Ret λe K=>kZ w' K/\e=.tuple #[nv m,.bool true]):=λw' hb=>by
    have:=AM hG v (L i) w' (F.below hb.below);rw[b]at this;exact this
   have W:=hR.len;have l:0+4*i+(wn m).length<=C.length:=by rw[W];show 0+4*i+4<=4*n;omega
   obtain⟨J,g⟩:∃c,rep C (0+4*i) (wn m)=c:=⟨_,rfl⟩
   have h4:=g ▸ RG.rep_at l;have h6:J.length=C.length:=g ▸ cU l;have hg:Rows 4 n (λj=>match rq N (L j) with|some k=>wn k|none=>[]) (i+1) J:=by
    have:=hR.next t (by show yBM (match rq N (L i) with|some p=>_|none=>_)=_;rw[b];rfl);rw[<-g];have e:(λj=>match rq N (L j) with|some k=>wn k|none=>[]) i=(wn m):=by show(match rq N (L i) with|some p=>_|none=>_)=_;rw[b]
    rw[<-e];exact this
   have h0:RG.M w w.heap.size [] 33 [C] [Q] [(4,.s 0 n n),(12,.v (sZ d n cap)),(13,.v (iZ n)),(14,.v (iZ i))] a _:=⟨A,sl,⟨Z,u,M,P,yCl⟩⟩
   repeat refine Uy ?_
   refine h0.U [.x (.bool true)] [4,12,13,14,15] ⟨aQ rfl .lss 3 3 14 13 (iZ i) (iZ n) (.bool true) rfl rfl sx sx (λw=>kR) (gA t),yCl⟩ ?_;intro k0 hp X;repeat refine Uy ?_
   refine VD X.ev ?_;refine WR ?_;refine Uy ?_;refine XG ?_;repeat refine Uy ?_
   refine X.U [.x (iZ i),.x (.pointer (some ⟨d,0+i,none⟩)),.x v,.x (iZ i),.x v] [4,5,6,12,13,14] ⟨st,bD rfl 24 12 14 rfl (.v (sZ d n cap)) (iZ i) sx sx (λμ w=>Nh _ 0 _ _ i t w),bM rfl d (0+i) V UX 23 17 rfl v rfl sx o u23,st,st,yCl⟩ ?_;intro hu hm h2;repeat refine Uy ?_
   refine h2.T [.c gv1,.x v,.c (.tuple #[nv m,.bool true]),.x (.tuple #[nv m,.bool true]),.x (nv m),.x (.bool true),.m 1,.u 1,.x (.bool true)] [(6,RG.z 4)] [(1,7,wn m)] [C,wn m] [4,5,7,8,12,13,14] ⟨cl fH,st,kH rfl 59 20 21 gv1 v (.tuple #[nv m,.bool true]) rfl (λa w=>kR) sx sx G,st,st,st,mk 1 47,RG.pt i85,st,yCl⟩ ?_;intro hy k7 hz h3;repeat refine Uy ?_
   refine h3.U [.x (.bool true),.x (.bool false)] [4,5,7,12,13,14,26] ⟨st,st,yCl⟩ ?_;intro hs ht Y;repeat refine Uy ?_
   refine VH Y.ev ?_;refine WR ?_;repeat refine Uy ?_
   refine Y.tx [.s 27 [] (.s 0 n n),.x 28 [] (iZ i),.x 29 [] (nv m),.s 30 [(27,0),(28,1)] (.p 0 (0+4*i)),.u [(30,3),(29,2)] 0] [] [(0,4,J)] [J,wn m] [(4,.s 0 n n),(12,.v (sZ d n cap)),(13,.v (iZ n)),(14,.v (iZ i))] kR (congrArg (λn=>[n]) h6) ⟨st,st,ld u85 i85,bD rfl 89 27 28 rfl (.s 0 n n) (iZ i) sx sx (λμ w=>SR _ 0 _ _ i t w),eZ 0 (0+4*i) rfl _ rfl 47 (.tmp 30) (.tmp 29) (wn m) rfl rfl sx sx l h4 i85 rfl,yCl⟩ ?_;intro hq k4 h8;repeat refine Uy ?_
   refine h8.U [.x (iZ ((i+1:Nat):Int)),.x (iZ ((i+1:Nat):Int))] [4,12,13,14] ⟨aP rfl .add 3 3 14 (iZ i) (iZ 1) (iZ ((i+1:Nat):Int)) rfl rfl sx (λw=>kR) (uQ i 1 oM oM),st,yCl⟩ ?_;intro x k3 f;have I:x.tmps[4]? = some (sZ Q n n):=f.at (s:=(.s 0 n n));have y:x.tmps[12]? = some (sZ d n cap):=f.at (s:=(.v (sZ d n cap)));have B:x.tmps[13]? = some (iZ n):=f.at (s:=(.v (iZ n)));have z:x.tmps[14]? = some (iZ ((i+1:Nat):Int)):=f.at (s:=(.v (iZ ((i+1:Nat):Int))));show ∃n',_;exact⟨m'-1,oM,i+1,J,oM,λj hj=>(by
    by_cases h1:j=i
    ·rw[h1,b];rfl
    ·exact D j oM),hg,f.sl,I,(by rw[T];exact y),B,z,RG.St.init (cs:=[J]) (ks:=[Q]) f.st⟩
  | none =>
   have G:∀w',BelX w.heap.size [] w w'->UG prog 59 #[gv1,v] w' (Ret λe K=>kZ w' K/\e=.tuple #[nv 0,.bool false]):=λw' hb=>by
    have:=AM hG v (L i) w' (F.below hb.below);rw[b]at this;exact this
   have x:RG.M w w.heap.size [] 33 [C] [Q] [(4,.s 0 n n),(12,.v (sZ d n cap)),(13,.v (iZ n)),(14,.v (iZ i))] a _:=⟨A,sl,⟨Z,u,M,P,yCl⟩⟩
   repeat refine Uy ?_
   refine x.U [.x (.bool true)] [12,14,15] ⟨aQ rfl .lss 3 3 14 13 (iZ i) (iZ n) (.bool true) rfl rfl sx sx (λw=>kR) (gA t),yCl⟩ ?_;intro W B l;repeat refine Uy ?_
   refine VD l.ev ?_;refine WR ?_;refine Uy ?_;refine XG ?_;repeat refine Uy ?_
   refine l.U [.x (iZ i),.x (.pointer (some ⟨d,0+i,none⟩)),.x v,.x (iZ i),.x v] [6] ⟨st,bD rfl 24 12 14 rfl (.v (sZ d n cap)) (iZ i) sx sx (λμ w=>Nh _ 0 _ _ i t w),bM rfl d (0+i) V UX 23 17 rfl v rfl sx o u23,st,st,yCl⟩ ?_;intro k1 k9 z;repeat refine Uy ?_
   refine z.T [.c gv1,.x v,.c (.tuple #[nv 0,.bool false]),.x (.tuple #[nv 0,.bool false]),.x (nv 0),.x (.bool false),.m 1,.u 1,.x (.bool false)] [(6,RG.z 4)] [(1,7,wn 0)] [C,wn 0] [8] ⟨cl fH,st,kH rfl 59 20 21 gv1 v (.tuple #[nv 0,.bool false]) rfl (λa w=>kR) sx sx G,st,st,st,mk 1 47,RG.pt i85,st,yCl⟩ ?_;intro X k8 k6 y;repeat refine Uy ?_
   refine y.U [.x (.bool false),.x (.bool true)] [26] ⟨st,st,yCl⟩ ?_;intro k5 k2 g;repeat refine Uy ?_
   refine VD g.ev ?_;repeat refine Uy ?_
   refine g.U [.x (.slice none 0 0),.x (iZ 3)] [2,3] ⟨st,st,yCl⟩ ?_;intro Y I f;refine We ?_;refine UD (v:=.tuple #[.slice none 0 0,iZ 3]) (fX 2 3 rfl _ _ (f.at (s:=(.v (.slice none 0 0)))) (f.at (s:=(.v (iZ 3))))) f.sl.defers ?_;exact⟨_,rfl,f.st.bel.below,UW ⟨⟨i,t,b⟩,rfl⟩⟩
 ·have y:i=n:=oM;have l:RG.M w w.heap.size [] 33 [C] [Q] [(4,.s 0 n n),(12,.v (.slice q n cap)),(13,.v (iZ n)),(14,.v (iZ i))] a _:=⟨A,sl,⟨Z,u,M,P,yCl⟩⟩
  repeat refine Uy ?_
  refine l.U [.x (.bool false)] [4,15] ⟨aQ rfl .lss 3 3 14 13 (iZ i) (iZ n) (.bool false) rfl rfl sx sx (λw=>kR) (nH t),yCl⟩ ?_;intro G z f;repeat refine Uy ?_
  refine VH f.ev ?_;refine wp_exit ?_;dsimp only[Exit.then,Yu];rw[yCj rfl];repeat refine Uy ?_
  refine f.U [.s (.s 0 n n),.s (.s 0 n n),.x (iZ 0)] [2,3] ⟨st,st,st,yCl⟩ ?_;intro B F b;refine We ?_;refine UD (v:=.tuple #[sZ Q n n,iZ 0]) (fX 2 3 rfl _ _ (b.at (s:=(.s 0 n n))) (b.at (s:=(.v (iZ 0))))) b.sl.defers ?_;refine⟨_,rfl,b.st.bel.below,U3 ⟨Q,?_,?_,rfl,λj hj=>?_⟩⟩
  ·exact(b.st.has 0 C rfl).2.2.2.elim id (λh=>absurd h UX)
  ·exact(b.st.has 0 C rfl).2.2.1
  ·obtain⟨pp,g⟩:=Vq.1 (D j oM);refine⟨pp,g,rV (b.st.has 0 C rfl).1 (λr o=>?_)⟩;have x:=hR.row j r oM o;rw[x];show(match rq N (L j) with|some p=>_|none=>_)[r]? = _;rw[g]
omit [NeZero P] in
theorem Ht(x y:Fin P):∃a b c d p q r s:Nat,pv x y=.agg #[uZ a,uZ b,uZ c,uZ d,uZ p,uZ q,uZ r,uZ s]/\ws x++ws y=[uZ a,uZ b,uZ c,uZ d,uZ p,uZ q,uZ r,uZ s]:=
 ⟨_,_,_,_,_,_,_,_,rfl,rfl⟩
def Kv(c:Int)(e:Us):Prop:=e=.tuple #[.slice none 0 0,iZ c]
def Hb(w:Uq)(T:Bs)(e:Us)(w':Uq):Prop:=∃g cap,e=.tuple #[sZ g 33 cap,iZ 0]/\33<=cap/\w.heap.size<=g/\g<w'.heap.size/\Holds encB w' g 0 T
theorem Cq(C:Fld P)(v:Us)(g:Bs)(w:Uq)(hv:Arg33 w v g):UG prog 118 #[v] w (rZ w λe w'=>e=.bool (rd P g).isSome):=by
 have j:∃(d b1 c1 c p1 k b s1:Nat),UG prog 193 #[v] w (rZ w λe w'=>e=.tuple #[.agg #[uZ d,uZ b1,uZ c1,uZ c,uZ p1,uZ k,uZ b,uZ s1],.bool (rd P g).isSome]):=by
  have h:=mZ C v g w hv;cases f:rd P g with
  | none =>
   obtain⟨d,b1,c1,c,p1,k,b,s1,i,-⟩:=Ht (0:Fin P) 0;refine⟨d,b1,c1,c,p1,k,b,s1,?_⟩;rw[f]at h;rw[<-i];exact h
  | some p =>
   obtain⟨d,b1,c1,c,p1,k,b,s1,i,-⟩:=Ht p.1 p.2;refine⟨d,b1,c1,c,p1,k,b,s1,?_⟩;rw[f]at h;rw[<-i];exact h
 obtain⟨d,b1,c1,c,p1,k,b,s1,j⟩:=j;obtain⟨q,n,cap,rfl,-⟩:=hv;go_enter func118,ntmps118;go_wp2_with fail
 refine j.mono ?_;rintro e l ⟨v,rfl,f,rfl⟩;have i:=mk1 (f);go_wp2;go_ret;exact⟨_,rfl,i.alloc i.size _,rfl⟩
structure PS(w:Uq)(k:Nat)(a1 b1 c1 d1 p1 q1 r1 s1 a2 b2 c2 d2 p2 q2 r2 s2:Nat)(W:Uq):Prop where
 r1:W.rangeAt k 0 [uZ a1,uZ b1,uZ c1,uZ d1,uZ p1,uZ q1,uZ r1,uZ s1]
 r2:W.rangeAt k 8 [uZ a2,uZ b2,uZ c2,uZ d2,uZ p2,uZ q2,uZ r2,uZ s2]
 lt:k<W.heap.size
 bl:kZ w W
def ptP(s:T3 P):Fin P × Fin P:=(s.1*(inv s.2.2*inv s.2.2),s.2.1*(inv s.2.2*inv s.2.2)*inv s.2.2)
theorem cell_below{w c:Uq}{k j:Nat}{v:Us}(h:w.cell? ⟨k,j,none⟩=some v)(e:kZ w c)(d:k<w.heap.size):c.cell? ⟨k,j,none⟩=some v:=by
 have f:w.rangeAt k j [v]:=λi u b=>by
  cases i with
  | zero =>
   obtain rfl:v=u:=UN.inj b;exact h
  | succ i=>exact absurd b (by simp)
 exact RG.range_below f e d 0 v rfl
theorem ArgsPts.below{w c:Uq}{q:Option Wt}{n:Nat}{L:Nat->Bs}(h:ArgsPts w q n L)(b:kZ w c):ArgsPts c q n L:=λd=>by
 obtain⟨g,l,k,e⟩:=h d;refine⟨g,l,Uw k b.size,λj f=>?_⟩;obtain⟨v,hv,i⟩:=e j f;exact⟨v,cell_below hv b k,i.below b⟩
def SumR(P:Nat)[NeZero P](N:Nat)(w:Uq)(n a:Nat)(L M:Nat->Bs)(e:Us)(w':Uq):Prop:=
 (n≠a/\Kv 2 e)\/(n=a/\512<n/\Kv 1 e)\/(n=a/\n<=512/\(((∃j,j<n/\rq N (L j)=none)/\Kv 3 e) \/
  ∃ns:Nat->Nat,(∀j,j<n->rq N (L j)=some (ns j))/\(((∃j,j<n/\rd P (M j)=none)/\Kv 4 e) \/
   ∃xs ys:Nat->Fin P,(∀j,j<n->rd P (M j)=some (xs j,ys j))/\Hb w (tD (ptP (iH ns xs ys n 257)).1 (ptP (iH ns xs ys n 257)).2) e w')))
theorem yC{A:Type}[Inhabited A]{n:Nat}{p:Nat->A->Prop}(h:∀j,j<n->∃a,p j a):∃f:Nat->A,∀j,j<n->p j (f j):=
 ⟨λj=>if k:j<n then(h j k).choose else default,λj k=>by
  show p j (if k:j<n then(h j k).choose else default);rw[dif_pos k];exact(h j k).choose_spec⟩
theorem wN{N:Nat}(b:N<=top){k:Bs}{m:Nat}(h:rq N k=some m):m<top:=by
 unfold rq at h;split at h
 ·rename_i h1
  obtain rfl:beV k.toList=m:=UN.inj h;exact Uw h1.2 b
 ·exact absurd h (by simp)
theorem PK{N:Nat}(C:Fld P)(hG:Gap 4624529908474429119 4994812053365940164 1 N)(hN:N<=top)(q X:Option Wt)(n cap a m:Nat)(L M:Nat->Bs)(w:Uq)(hL:vT w q n L)(hM:ArgsPts w X a M):
 UG prog 143 #[.slice q n cap,.slice X a m] w (rZ w λe w'=>SumR P N w n a L M e w'):=by
 have HL:=mk1 (hL);have HM:=mk1 (hM);by_cases D:n=a
 ·subst D;by_cases I:512<n
  ·go_enter func143,ntmps143;go_wp2
   go_ret2
   exact⟨_,rfl,UQ _ _,UW (U3 ⟨rfl,I,rfl⟩)⟩
  ·have y:n<=512:=oM;go_enter func143,ntmps143;go_wp2_with fail
   refine(Ob hG n cap y q L w HL.out).mono ?_;rintro e Q ⟨v,rfl,J,⟨k,S,u,rfl,c⟩|⟨t,rfl⟩⟩
   ·obtain⟨ns,F⟩:=yC c;have r:=mk1 (J);have W:Hid (k<Q.heap.size/\∀j,j<n->Q.rangeAt k (4*j) (wn (ns j))):=⟨u,λj d=>(F j d).2⟩
    have Z:Hid (∀j,j<n->rq N (L j)=some (ns j)):=λj d=>(F j d).1
    go_wp2_with fail
    refine(S5 C n m y X M Q (HM.below r.out)).mono ?_;rintro e p ⟨v,rfl,f,⟨K,S,u,rfl,c⟩|⟨t,rfl⟩⟩
    ·obtain⟨b,B⟩:=yC c;have l:=mk1 (r.trans (f.mono r.size));have A:Hid (k<p.heap.size/\∀j,j<n->p.rangeAt k (4*j) (wn (ns j))):=⟨Uw W.1 f.size,λj d=>RG.range_below (W.2 j d) f W.1⟩
     have HP:Hid (K<p.heap.size/\∀j,j<n->p.rangeAt K (8*j) (ws (b j).1++ws (b j).2)):=⟨u,λj d=>(B j d).2⟩
     have h0:Hid (∀j,j<n->rd P (M j)=some ((b j).1,(b j).2)):=λj d=>(B j d).1
     have G:∀w,UG prog 52 #[pv (ptP (iH ns (λj=>(b j).1) (λj=>(b j).2) n 257)).1 (ptP (iH ns (λj=>(b j).1) (λj=>(b j).2) n 257)).2] w (rZ w λe w'=>mL w (tD (ptP (iH ns (λj=>(b j).1) (λj=>(b j).2) n 257)).1 (ptP (iH ns (λj=>(b j).1) (λj=>(b j).2) n 257)).2) e w'):=vK C _ _;have hS:UG prog 48 #[sZ k n n,sZ K n n] p (rZ p λe w'=>e=pv (ptP (iH ns (λj=>(b j).1) (λj=>(b j).2) n 257)).1 (ptP (iH ns (λj=>(b j).1) (λj=>(b j).2) n 257)).2):=by
      refine(H9 C n y ns (λj=>(b j).1) (λj=>(b j).2) (λi x=>wN hN (Z i x)) k K p A.1 HP.1 A.2 HP.2).mono ?_;rintro e w' ⟨v,rfl,o,s,rfl,rfl⟩;exact⟨_,rfl,o,rfl⟩
     generalize hz:ptP (iH ns (λj=>(b j).1) (λj=>(b j).2) n 257)=z at hS G;have HZ:Hid (ptP (iH ns (λj=>(b j).1) (λj=>(b j).2) n 257)=z):=hz;go_wp2_with fail
     refine hS.mono ?_;rintro e w3 ⟨v,rfl,V,rfl⟩;have x:=mk1 (l.trans (V.mono l.size));go_wp2_with fail
     refine(G _).mono ?_;rintro e w4 ⟨v,rfl,Y,g,o,rfl,O,U,E,T⟩;have R:=mk1 (x.trans (Y.mono x.size));have H:Hid (Hb w (tD z.1 z.2) (.tuple #[sZ g 33 o,iZ 0]) w4):=⟨g,o,rfl,O,UB x.size U,E,T⟩
     go_wp2
     go_ret2
     refine⟨_,rfl,R.out,UW (UW ⟨rfl,y,UW ⟨ns,Z.out,UW ⟨_,_,h0.out,?_⟩⟩⟩)⟩;rw[HZ.out];exact H.out
    ·have l:=mk1 (r.trans (f.mono r.size));have H:=mk1 (t);go_wp2
     go_ret2
     exact⟨_,rfl,l.out,UW (UW ⟨rfl,y,UW ⟨ns,Z.out,U3 ⟨H.out,rfl⟩⟩⟩)⟩
   ·have r:=mk1 (J);have H:=mk1 (t);go_wp2
    go_ret2
    exact⟨_,rfl,r.out,UW (UW ⟨rfl,y,U3 ⟨H.out,rfl⟩⟩)⟩
 ·go_enter func143,ntmps143;go_wp2
  go_ret2
  exact⟨_,rfl,UQ _ _,U3 ⟨D,rfl⟩⟩
def He:Bs:=UI 33 0
theorem OD(r d:Nat):d*d%(r+d)=r*r%(r+d):=by
 have h:d*d+(r+d)*r=r*r+(r+d)*d:=by
  rw[XE,XE,Vu d r];omega
 have k:=congrArg (· % (r+d)) h;simp only[Nat.add_mul_mod_self_left]at k;exact k
theorem Nv{m y:Fin P}(h:rt m=some y):y*y=m:=by
 have k:=Ix h;unfold rt at h;rw[yCj k]at h;obtain rfl:=UN.inj h;have b:=Yy P;have d:m.val^(P/4+1)%P<P:=V4 _ b;generalize m.val^(P/4+1)%P=r at k d;apply X8;rw[XI];show(even P r%P)*(even P r%P)%P=m.val;rw[UR (Ft b d),<-k];unfold even;split
 ·have c:=OD r (P-r);rw[show r+(P-r)=P by omega]at c;exact c
 ·rfl
theorem CZ{k:Bs}(g:k.size=33):tJ k↔k=He:=by
 constructor
 ·intro h;apply yB4
  ·rw[g];rfl
  ·intro i f c;have:=h i (VZ.2 oM);rw[getElem!_pos k i f]at this;have e:k[i].toNat=0:=by
    have b:ub k[i]=(k[i].toNat:Int):=rfl;rw[b]at this;omega
   have d:(He)[i]=0:=by
    have b:(UI 33 (0:UInt8))[i]'c=0:=Wv _;exact b
   rw[d];exact yAU.1 e
 ·rintro rfl i b;have b:=VZ.1 b;unfold He;rw[getElem!_pos _ i (by rw[UO];exact b),Wv];rfl
theorem IV{x y:Fin P}(h:y*y=x*x*x+7):On (.some (x,y):EC.Pt P):=by
 show y^2=x^3+7
 grobner
theorem O3{x y:Fin P}(h:y*y=x*x*x+7):On (.some (x,0-y):EC.Pt P):=by
 show(0-y)^2=x^3+7
 grobner
def wr:EC.Pt P->Bs
 | none=>He
 | some (x,y)=>#[mark y.val]++bx x.val
theorem vM(C:Fld P){x y:Fin P}{p:EC.Pt P}(h:Pair x y p)(ho:On p):tD x y=wr p:=by
 unfold tD;match p,h,ho with
 | none,h,_=>rw[yCj (show x=0/\y=0 from h)];rfl
 | some (a,b),h,ho =>
  obtain⟨rfl,rfl⟩:=h;rw[yCk (λe=>C.cur.y_ne ho e.2)];rfl
def pt(p:Fin P × Fin P):EC.Pt P:=if p.1=0/\p.2=0 then none else some p
theorem Mj(C:Fld P){x y:Fin P}{q:EC.Pt P}(h:Pair x y q)(ho:On q):q=pt (x,y):=by
 unfold pt;match q,h,ho with
 | none,h,_=>rw[yCj (show x=0/\y=0 from h)]
 | some (a,b),h,ho =>
  obtain⟨rfl,rfl⟩:=h;rw[yCk (λe=>C.cur.y_ne ho e.2)]
theorem QW(C:Fld P){b:Bs}{p:Fin P × Fin P}(h:rd P b=some p):Pair p.1 p.2 (pt p)/\On (pt p):=by
 have key:∃q:EC.Pt P,Pair p.1 p.2 q/\On q:=by
  unfold rd at h;split at h
  ·split at h
   ·obtain rfl:=UN.inj h;exact⟨none,⟨rfl,rfl⟩,iN⟩
   ·split at h
    ·split at h
     ·obtain⟨y,c,rfl⟩:=Ux.1 h;have k:=Nv c;refine⟨some (rdx P b,if ub b[0]! = 3 then 0-y else y),⟨rfl,rfl⟩,?_⟩;split
      ·exact O3 k
      ·exact IV k
     ·cases h
    ·cases h
  ·cases h
 obtain⟨q,c,k⟩:=key;have:=Mj C c k;rw[show pt p=q from this.symm];exact⟨c,k⟩
omit [NeZero P] in
theorem aT(p:EC.Pt P):(wr p).size=33:=by
 match p with
 | none=>rfl
 | some (x,y) =>
  show(#[mark y.val]++bx x.val).size=33;rw[VM,eE];rfl
theorem IA{a P:Nat}(h:IsP P)(k:P%4=3):(a*a%P)^(P/4+1)%P*((a*a%P)^(P/4+1)%P)%P=a*a%P:=by
 rw[<-Xy,<-Nat.pow_add,<-Nat.pow_mod,<-yBT,<-Nat.pow_mul,show 2*(P/4+1+(P/4+1))=P+1 by omega,V6,Xy,h.fermat a,<-Xy,yBT]
theorem LP{a R P:Nat}(h:IsP P)(f:a<P)(hR:R<P)(e:R*R%P=a*a%P):R=a\/R+a=P:=by
 have key:∀x y:Nat,x<P->y<P->y<=x->x*x%P=y*y%P->x=y\/x+y=P:=by
  intro x y hx i g d;have hd:P ∣ x*x-y*y:=by
   refine Nat.dvd_of_mod_eq_zero ?_;exact Nat.sub_mod_eq_zero_of_mod_eq d
  have hf:x*x-y*y=(x-y)*(x+y):=by
   rw[Vu (x-y),Nat.mul_self_sub_mul_self_eq]
  rw[hf]at hd;rcases h.euclid hd with b|b
  ·left;have:=Nat.eq_zero_of_dvd_of_lt b oM;omega
  ·obtain⟨k,j⟩:=b;have:k=0\/k=1\/2<=k:=oM;rcases this with rfl|rfl|c
   ·left;omega
   ·right;omega
   ·have:=Nat.mul_le_mul_left P c;omega
 rcases Nat.le_total a R with b|b
 ·exact key R a hR f b e
 ·rcases key a R f hR b e.symm with c|c
  ·left;exact c.symm
  ·right;omega
end
section
theorem AA(x:Nat)(hx:x<18446744073709551616):
 w8 (UL (x/72057594037927936)) (UL (x/281474976710656)) (UL (x/1099511627776)) (UL (x/4294967296)) (UL (x/16777216)) (UL (x/65536)) (UL (x/256)) (UL x)=x:=by
 unfold w8;simp only[YH];omega
theorem Am(a b c d:Nat):(be32 a b c d).toList=[UL (d/72057594037927936),UL (d/281474976710656),UL (d/1099511627776),UL (d/4294967296),UL (d/16777216),UL (d/65536),UL (d/256),UL d,UL (c/72057594037927936),UL (c/281474976710656),UL (c/1099511627776),UL (c/4294967296),UL (c/16777216),UL (c/65536),UL (c/256),UL c,UL (b/72057594037927936),UL (b/281474976710656),UL (b/1099511627776),UL (b/4294967296),UL (b/16777216),UL (b/65536),UL (b/256),UL b,UL (a/72057594037927936),UL (a/281474976710656),UL (a/1099511627776),UL (a/4294967296),UL (a/16777216),UL (a/65536),UL (a/256),UL a]:=by
 simp only[be32,be8,yAu,WY,Xq]
theorem val_congr{a b c d p q r s:Nat}(e:a=p)(k:b=q)(g:c=r)(f:d=s):val a b c d=val p q r s:=by subst e k g f;rfl
theorem J4(a b c d:Nat)(f:a<18446744073709551616)(e:b<18446744073709551616)(k:c<18446744073709551616)(hd:d<18446744073709551616):beV (be32 a b c d).toList=val a b c d:=
 (congrArg beV (Am a b c d)).trans ((J5 _ _ _ _ _ _ _ _ _ _ _ _ _ _ _ _ _ _ _ _ _ _ _ _ _ _ _ _ _ _ _ _).trans (val_congr (AA a f) (AA b e) (AA c k) (AA d hd)))
theorem Bm{n:Nat}(k:n<top):beV (bx n).toList=n:=by
 unfold bx;rw[J4 _ _ _ _ oM oM oM oM];unfold val;unfold top at k;omega
variable {P:Nat}[NeZero P]
theorem QQ(C:Fld P){y m:Fin P}(h:y*y=m):rt m=some (if y.val%2=1 then 0-y else y):=by
 have d:y.val*y.val%P=m.val:=by rw[<-h,XI]
 have k:=IA (a:=y.val) C.cur.pr C.p3;rw[d]at k;unfold rt;rw[yCj k];have f:=Yy P;have c:m.val^(P/4+1)%P<P:=V4 _ f;generalize m.val^(P/4+1)%P=r at k c;have b:=y.isLt;have i:=C.p3;have hor:=LP C.cur.pr b c (k.trans d.symm)
 congr 1
 apply X8;show even P r%P=_;unfold even;have g:(0-y:Fin P).val=(P-y.val)%P:=by rw[<-AH,val_zero,UC]
 by_cases ho:y.val%2=1
 ·rw[yCj ho,g];rcases hor with e|e
  ·rw[e,yCj ho]
  ·rw[yCk oM,show P-y.val=r by omega]
 ·rw[yCk ho];rcases hor with e|e
  ·rw[e,yCk ho,UR b]
  ·by_cases j:y.val=0
   ·omega
   ·rw[yCj oM,show P-r=y.val by omega,UR b]
theorem Le(n:Nat):ub (mark n)=if n%2=1 then 3 else 2:=by
 unfold mark;split<;>rfl
theorem Li{m:UInt8}{b:Bs}(h:b.size=32):uM (#[m]++b)=b:=by
 unfold uM;rw[Array.extract_append];have k:(#[m]:Bs).extract 1 33=#[]:=by rfl
 rw[k];simp[h]
theorem Pk(m:UInt8)(b:Bs):(#[m]++b)[0]! = m:=by
 rw[getElem!_pos _ 0 (by rw[VM];simp;omega),Array.getElem_append_left (by simp)];rfl
theorem QX(C:Fld P){b:Bs}(f:b.size=33){x y:Fin P}(c:ub b[0]! = if y.val%2=1 then 3 else 2)(hv:beV (uM b).toList=x.val)(h:On (some (x,y):EC.Pt P)):rd P b=some (x,y):=by
 have k:¬tJ b:=λk=>by
  have:=k 0 (VZ.2 dC);rw[c]at this;split at this<;>omega
 have hx:rdx P b=x:=by
  unfold rdx;rw[hv];exact X8 (UR x.isLt)
 have d:y*y=x*x*x+7:=by
  have:y^2=x^3+7:=h
  grobner
 unfold rd;rw[yCj f,yCk k,c,hv,yCj x.isLt,hx,QQ C d];by_cases ho:y.val%2=1
 ·rw[yCj ho,yCj (UW rfl),yCj ho,Yv,yCj rfl];have e:0-(0-y)=y:=by grobner
  rw[e]
 ·rw[yCk ho,yCj (U3 rfl),yCk ho,Yv,yCk dC]
theorem zM(C:Fld P){X:EC.Pt P}(h:On X):∃p,rd P (wr X)=some p/\pt p=X:=by
 match X,h with
 | none,_ =>
  refine⟨(0,0),?_,by unfold pt;rw[yCj ⟨rfl,rfl⟩]⟩;have k:(wr (none:EC.Pt P)).size=33:=aT _;have b:=(CZ k).2 rfl;unfold rd;rw[yCj k,yCj b]
 | some (x,y),h =>
  have c:=aT (P:=P) (some (x,y));have k:(wr (some (x,y):EC.Pt P))[0]! = mark y.val:=Pk _ _;have b:uM (wr (some (x,y):EC.Pt P))=bx x.val:=Li (eE _);refine⟨(x,y),QX C c (by rw[k,Le]) (by rw[b,Bm (C.top x)]) h,by unfold pt;rw[yCk (λe=>C.cur.y_ne h e.2)]⟩
end
section
variable {P:Nat}[NeZero P]{N:Nat}
def gxl:List Us:=[uZ 6481385041966929816,uZ 188021827762530521,uZ 6170039885052185351,uZ 8772561819708210092]
def gyl:List Us:=[uZ 11261198710074299576,uZ 18237243440184513561,uZ 6747795201694173352,uZ 5204712524664259685]
def gX(P:Nat)[NeZero P]:Fin P:=Xg P 55066263022277343669578718895168534326250603453777594175500187360389116729240
def gY(P:Nat)[NeZero P]:Fin P:=Xg P 32670510020758816978083085130507043184471273380659243275938904335757337482424
def gG(P:Nat)[NeZero P]:EC.Pt P:=some (gX P,gY P)
theorem Fld.eq(C:Fld P):P=115792089237316195423570985008687907853269984665640564039457584007908834671663:=by
 have h:=C.gap.hP;have e:val 4294968273 0 0 0=4294968273:=dC;rw[e]at h;unfold Go.Proofs.YtdoammpgchejcaaGreat.top at h;omega
theorem Jt(C:Fld P):(gX P).val=55066263022277343669578718895168534326250603453777594175500187360389116729240:=by
 have h:=C.eq;exact UR oM
theorem Js(C:Fld P):(gY P).val=32670510020758816978083085130507043184471273380659243275938904335757337482424:=by
 have h:=C.eq;exact UR oM
theorem PC(C:Fld P):gxl=ws (gX P):=by
 show _=wn (gX P).val;rw[Jt C];kernel_rfl
theorem Py(C:Fld P):gyl=ws (gY P):=by
 show _=wn (gY P).val;rw[Js C];kernel_rfl
theorem Cr(C:Fld P):On (gG P):=by
 refine IV (X8 ?_);have k:(7:Fin P).val=7:=UR C.p7;rw[XI,Fin.val_add,XI,XI,Jt C,Js C,k];have h:=C.eq;rw[h]
theorem Qb:Gives 51 #[] (.agg (gxl++gyl).toArray):=by
 intro w;go_enter func51,ntmps51;refine RG.M.enter [] 4 kR ?_;intro a0 c;repeat refine Uy ?_
 refine c.T [.m 0] [(0,RG.z 8)] [] [RG.z 8] [0] ⟨mk 0 93,yCl⟩ ?_;intro d f g b;repeat refine Uy ?_
 refine b.T [.x (.agg gxl.toArray),.x (.agg gyl.toArray),.x (.agg (gxl++gyl).toArray),.u 0] [] [(0,3,gxl++gyl)] [gxl++gyl] [0] ⟨st,st,st,RG.pt i109,yCl⟩ ?_;intro a2 e k;refine We ?_;refine UD (v:=.agg (gxl++gyl).toArray) (aI k.st 0 93 rfl 0 _ rfl (k.at (s:=.p 0 0)) gU i109) k.sl.defers ?_;exact⟨_,rfl,k.st.bel.below,rfl⟩
theorem Eg(C:Fld P):Gives 51 #[] (pv (gX P) (gY P)):=by
 unfold pv;rw[<-PC C,<-Py C];exact Qb
theorem R2(C:Fld P):tD (gX P) (gY P)=wr (gG P):=vM C ⟨rfl,rfl⟩ (Cr C)
theorem Qp(C:Fld P)(w:Uq):UG prog 137 #[] w (rZ w λe w'=>mL w (wr (gG P)) e w'):=by
 have d:Hid (Fld P):=C;clear C;go_enter func137,ntmps137;go_wp2_with fail
 refine(Eg d.out _).mono ?_;rintro e n ⟨v,rfl,k,rfl⟩;go_wp2_with fail
 refine(vK d.out (gX P) (gY P) _).mono ?_;rintro e f ⟨v,rfl,b,g,cap,rfl,l,i,j,c⟩;rw[R2 d.out]at c;have m:Hid (kZ w f/\mL w (wr (gG P)) (sZ g 33 cap) f):=⟨k.trans (b.mono k.size),g,cap,rfl,l,UB k.size i,j,c⟩
 clear k b l i j c;go_wp2;go_ret;exact⟨_,rfl,m.out⟩
end
section
open Go.Shelf
attribute [local go_sem] Zd
section
variable {F:Fence}{n:Nat}{P:VC}{ops:Array Vj}{rest:List Vj}{op:Vj}{a:Act}{w:Uq}{Q:Yo->Act->Uq->Prop}
theorem jS(g:op.guard=none)(k:U7)(x:XF)(ho:op.op=.load k x)(b o:Nat)(hx:a.eval x=oZ b o)(cs:List Us)(d:TypeDesc)(l:w.rangeAt b o cs)
 (j:P.underlying k=some d) (hd:d.isRow=true) (m:(P.info? k).map (·.size)=some cs.length) (h:wpListIn F n P ops Q rest (a.put op.dst (.agg cs.toArray)) w):wpListIn F n P ops Q (op :: rest) a w:=
 wpListIn_plain g λK i=>by
  refine⟨λf hf=>(by unfold yAI at hf;rw[ho]at hf;cases hf),?_⟩;rw[yAb _ _ _ (λc=>by rw[ho];intro e;cases e)];unfold U4;simp only[ho,hx,ZB,X4,UU,Wq,Vl,Ye w b o k cs d l j hd m];exact i _ _ h
theorem bL(d:op.guard=none)(g:U7)(x y:XF)(ho:op.op=.store g x y)(b o:Nat)(k:Array Us)(hx:a.eval x=oZ b o)(i:a.eval y=.agg k)
 (m:w.there b o k.size) (l:(P.info? g).map (·.size)=some k.size) (p:k.all (·.oneCell')=true)
 (h:wpListIn F n P ops Q rest (a.put op.dst WO) (w.setCells b o k.toList)):wpListIn F n P ops Q (op :: rest) a w:=
 wpListIn_plain d λK j=>by
  refine⟨λf hf=>(by unfold yAI at hf;rw[ho]at hf;cases hf),?_⟩;rw[yAb _ _ _ (λc=>by rw[ho];intro e;cases e)];unfold U4;simp only[ho,hx,i,Instr.storeAt,X4,UU,Wq,Vl,run_storeVar_mid w b o g k m l p];exact j _ _ h
end
def Row(W:Uq)(k:Nat)(vs:List Us):Prop:=k<W.heap.size/\W.rangeAt k 0 vs/\W.there k 0 vs.length
theorem qP(k:Nat)(vs:List Us):Own (λ(_:Unit) W=>Row W k vs):=λs A B row d c e=>by
 refine⟨Uw d.1 c.size,λj v b=>?_,λj b=>?_⟩
 ·exact cell_kept (d.2.1 j v b) c e
 ·have f:=d.2.1 j vs[j] (UF b);have g:=cell_kept f c e;exact⟨by rw[g];rfl,(frozen_kept f c e).trans (d.2.2 j b).2⟩
theorem nI(k:Nat):∀(vs:List Us) (o:Nat) (W:Uq),KeepsOthers W (W.setCells k o vs)
 | [],_,W=>KeepsOthers.refl W
 | v :: vs,o,W=>(KeepsOthers.setCell W ⟨k,o,none⟩ v).trans (nI k vs (o+1) _)
theorem Row.alloc{W:Uq}{k:Nat}{vs:List Us}(h:Row W k vs)(o:Obj):Row (W.alloc o) k vs:=
 qP k vs () W (W.alloc o) none h (World.grownBy_alloc W o none) (λ_ e=>by cases e)
theorem Row.putObj{W:Uq}{k D:Nat}{vs:List Us}(h:Row W k vs){o:Obj}(c:W.heap[D]? = some o)(ho:o.isCells=false)(b:Obj):Row (W.putObj D b) k vs:=
 qP k vs () W (W.putObj D b) (some D) h (grownBy_putObj' W D b) (λr e=>by cases e;exact⟨_,c,ho⟩)
theorem Row.below{W W':Uq}{k:Nat}{vs:List Us}(h:Row W k vs)(c:kZ W W'):Row W' k vs:=by
 have e:=c.block k h.1;refine⟨Uw h.1 c.size,λj v b=>?_,λj b=>?_⟩
 ·exact(UV e).trans (h.2.1 j v b)
 ·have d:=h.2.2 j b;exact⟨by rw[UV e];exact d.1,(VT e).trans d.2⟩
theorem aG{P:VC}{c:Func}{tmps:Array Us}{W:Uq}{k:Nat}{vs:List Us}(t:WB)(T:U7)(f:c.results=#[.cell t T])(h:Row W k vs)(j:tmps[t]? = some (jZ k))
 (b:(P.underlying T).map (·.isRow)=some true) (e:(P.info? T).map (·.size)=some vs.length):(results c tmps).run P W=.ok (.agg vs.toArray) W:=by
 obtain⟨d,b,hd⟩:=Ux.1 b;have i:=Ye (P:=P) W k 0 T vs d h.2.1 b hd e;have g:tmps.getD t WO=jZ k:=by rw[UH,j];rfl
 unfold results;rw[f];simp only[Array.mapM_eq_mapM_toList,List.mapM_cons,List.mapM_nil,g,asAddr];simp[UU,i]
theorem Row.put{W:Uq}{k:Nat}{vs us:List Us}(h:Row W k vs)(b:us.length=vs.length):Row (W.setCells k 0 us) k us:=
 ⟨by rw[setCells_size];exact h.1,VN W k 0 us (by rw[b];exact h.2.2),by rw[b];exact VV h.2.2 _ _ _⟩
theorem Row.other{W:Uq}{k j:Nat}{vs us:List Us}(h:Row W k vs)(b:k≠j):Row (W.setCells j 0 us) k vs:=
 ⟨by rw[setCells_size];exact h.1,Vg h.2.1 j 0 us (U3 b),VV h.2.2 _ _ _⟩
variable {P:Nat}[NeZero P]
theorem MN(C:Fld P)(lb:Array Us)(L:List (Fin P × Fin P))(N:Nat)(w:Uq)
 (E:∀n,SeqStopsK yBP n prog 112 lb (λx:Fin P × Fin P=>#[pv x.1 x.2]) (Below w.heap.size) (λxs=>xs=L) (λb=>b <+: L) N w) :
 UG prog 49 #[.func (.func 112) #[] lb] w (rZ w λe w'=>e=pv (L.headD (gX P,gY P)).1 (L.headD (gX P,gY P)).2):=by
 refine(callsIn_wide (n:=5)).1 ?_;refine callsIn_of_wp_marks func49 rfl trivial ?_ rfl;simp only[ntmps49,VB,Vh,WF,VJ,yBC,yAo,yAn,yAN,yAA,Xq,WY]
 gi_wp2
 have y:=Made.alloc w [uZ 0,uZ 0,uZ 0,uZ 0,uZ 0,uZ 0,uZ 0,uZ 0] 93;have z:Row (w.alloc (.cells #[uZ 0,uZ 0,uZ 0,uZ 0,uZ 0,uZ 0,uZ 0,uZ 0] 93)) w.heap.size [uZ 0,uZ 0,uZ 0,uZ 0,uZ 0,uZ 0,uZ 0,uZ 0]:=⟨y.lt,y.range,y.there⟩
 have q:kZ w (w.alloc (.cells #[uZ 0,uZ 0,uZ 0,uZ 0,uZ 0,uZ 0,uZ 0,uZ 0] 93)):=y.bel;clear y;obtain⟨u,p⟩:∃u,u=w.alloc (.cells #[uZ 0,uZ 0,uZ 0,uZ 0,uZ 0,uZ 0,uZ 0,uZ 0] 93):=⟨_,rfl⟩
 have H:u.heap.size=w.heap.size+1:=by rw[p,UA]
 rw[<-p]at z q⊢;clear p;refine wpIn_rangeFunc_ownH (α:=Fin P × Fin P) rfl dC (gf:=112) (lb:=lb) rfl trivial (enters_of func112 kR rfl) (E 4) belowK_t (belowK_b oM) q (λ_=>rfl)
  (λb W=>(b=[]/\Row W w.heap.size [uZ 0,uZ 0,uZ 0,uZ 0,uZ 0,uZ 0,uZ 0,uZ 0])/\kZ w W)
  (λc b W=>(c=.ret/\∃x:Fin P × Fin P,b=[x]/\Row W w.heap.size (ws x.1++ws x.2))/\kZ w W)
  (yBu (Own.from (λs A B row k f j=>⟨k.1,qP _ _ () A B row k.2 f j⟩) _) (ownFrom_below (Uv _) oM))
  (λc=>yBu (Own.from (λs A B row k f j=>⟨k.1,k.2.imp λx hx=>⟨hx.1,qP _ _ () A B row hx.2 f j⟩⟩) _) (ownFrom_below (Uv _) oM))
  ⟨⟨rfl,z⟩,q⟩
  (λx a W=>∃m,w.heap.size<m/\Row W m (ws x.1++ws x.2)/\a = { tmps:=#[.func (.func 112) #[] lb,WO,jZ w.heap.size,jZ m,.func (.func 112) #[] lb,pv x.1 x.2,WO,WO],defers:=[] })
  (λx a=>Own.from (λs A B row k f j=>k.imp λm hx=>⟨hx.1,qP _ _ () A B row hx.2.1 f j,hx.2.2⟩) _) ?assign ?body ?done ?stop
 case assign =>
  intro l b x W K t i;have k:=Made.alloc W [uZ 0,uZ 0,uZ 0,uZ 0,uZ 0,uZ 0,uZ 0,uZ 0] 93;have g:=k.there
  gi_wp2_with (refine bL rfl 93 _ _ rfl W.heap.size 0 (ws x.1++ws x.2).toArray rfl rfl g i109 kR ?_)
  have f:=t.1.2.1;have o:Below w.heap.size W ((W.alloc (.cells #[uZ 0,uZ 0,uZ 0,uZ 0,uZ 0,uZ 0,uZ 0,uZ 0] 93)).setCells W.heap.size 0 (ws x.1++ws x.2)):=
   RG.below_setCells (XJ f) _ _ _ ((UQ _ W).alloc (XJ f) _)
  exact i _ _ (((KeepsOthers.alloc W _).trans (nI _ _ _ _)).from _) o ⟨⟨t.1.1,(t.1.2.alloc _).other (Nat.ne_of_lt f)⟩,t.2.trans o⟩
   ⟨W.heap.size,f,Row.put (vs:=[uZ 0,uZ 0,uZ 0,uZ 0,uZ 0,uZ 0,uZ 0,uZ 0]) ⟨k.lt,k.range,k.there⟩ rfl,rfl⟩
 case body =>
  rintro l b x a W J ⟨r,j⟩ ⟨⟨rfl,k⟩,t⟩ ⟨m,G,F,rfl⟩ I;obtain⟨d,o,A⟩:=Ux.1 gU;have f:=F.2.1;have g:=k.2.2
  gi_wp2_with (first|refine jS rfl 93 _ rfl m 0 rfl (ws x.1++ws x.2) d f o A i109 ?_|refine bL rfl 93 _ _ rfl w.heap.size 0 (ws x.1++ws x.2).toArray rfl rfl g i109 kR ?_)
  exact⟨(nI _ _ _ _).from _,⟨rfl,x,rfl,k.put rfl⟩,RG.below_setCells (Uv _) _ _ _ t⟩
 case done =>
  rintro D ys W G rfl ⟨⟨rfl,k⟩,t⟩ i;have g:=k.2.2
  gi_wp2_with fail
  refine⟨trivial,(callsIn_wide.2 (Eg C _)).mono ?_⟩;rintro e A ⟨v,rfl,o,rfl⟩;have f:Row A w.heap.size [uZ 0,uZ 0,uZ 0,uZ 0,uZ 0,uZ 0,uZ 0,uZ 0]:=k.below o;have a:=f.2.2
  gi_wp2_with (refine bL rfl 93 _ _ rfl w.heap.size 0 (ws (gX P)++ws (gY P)).toArray rfl rfl a i109 kR ?_)
  have m:(A.setCells w.heap.size 0 (ws (gX P)++ws (gY P))).heap[D]? = some (.deferred (some [])):=by
   rw[aH _ _ _ _ _ oM,o.block D (UY.1 i).1];exact i
  have F:kZ w (A.setCells w.heap.size 0 (ws (gX P)++ws (gY P))):=RG.below_setCells (Uv _) _ _ _ (t.trans (o.mono t.size));have j:Row (A.setCells w.heap.size 0 (ws (gX P)++ws (gY P))) w.heap.size (ws (gX P)++ws (gY P)):=f.put rfl;refine⟨by simp,.inl ⟨_,_,rfl,run_takeDeferred m,?_⟩⟩;exact⟨_,aG 2 93 rfl (j.putObj m rfl _) rfl gU i109,_,rfl,F.trans (belowK_b (w:=u) oM _ D _ _ G m rfl rfl),rfl⟩
 case stop =>
  rintro D c b W G f ⟨⟨rfl,x,rfl,k⟩,t⟩ i
  gi_wp2
  obtain⟨j,m⟩:=f;have g:L=x :: j:=m.symm;rw[g];refine⟨by simp,.inl ⟨_,_,rfl,run_takeDeferred i,?_⟩⟩;exact⟨_,aG 2 93 rfl (k.putObj i rfl _) rfl gU i109,_,rfl,t.trans (belowK_b (w:=u) oM _ D _ _ G i rfl rfl),rfl⟩
end
section
variable {P:Nat}[NeZero P]{N:Nat}
theorem jY{w W:Uq}{k e d c b:Nat}(h:Kept w k [⟨k,0,d,c,b,0⟩,⟨e,0,0,0,0,0⟩] W):W.cell? ⟨k,0,none⟩=some (uZ d)/\W.cell? ⟨k,1,none⟩=some (uZ c)/\W.cell? ⟨k,2,none⟩=some (uZ b)/\W.cell? ⟨k,3,none⟩=some (uZ 0)/\Kept w k [⟨k,0,d,c,b,0⟩,⟨e,0,0,0,0,0⟩] W:=⟨h.head.c0,h.head.c1,h.head.c2,h.head.c3,h⟩
theorem kS{w W:Uq}{k e d c b:Nat}(h:W.cell? ⟨k,0,none⟩=some (uZ d)/\W.cell? ⟨k,1,none⟩=some (uZ c)/\W.cell? ⟨k,2,none⟩=some (uZ b)/\W.cell? ⟨k,3,none⟩=some (uZ 0)/\Kept w k [⟨k,0,d,c,b,0⟩,⟨e,0,0,0,0,0⟩] W):Kept w k [⟨k,0,d,c,b,0⟩,⟨e,0,0,0,0,0⟩] W:=h.2.2.2.2
theorem Do{w W:Uq}{k e d c b:Nat}{o:Obj}(h:W.cell? ⟨k,0,none⟩=some (uZ d)/\W.cell? ⟨k,1,none⟩=some (uZ c)/\W.cell? ⟨k,2,none⟩=some (uZ b)/\W.cell? ⟨k,3,none⟩=some (uZ 0)/\Kept w k [⟨k,0,d,c,b,0⟩,⟨e,0,0,0,0,0⟩] W):(W.alloc o).cell? ⟨k,0,none⟩=some (uZ d)/\(W.alloc o).cell? ⟨k,1,none⟩=some (uZ c)/\(W.alloc o).cell? ⟨k,2,none⟩=some (uZ b)/\(W.alloc o).cell? ⟨k,3,none⟩=some (uZ 0)/\Kept w k [⟨k,0,d,c,b,0⟩,⟨e,0,0,0,0,0⟩] (W.alloc o):=jY ((kS h).alloc o)
theorem BS{w W:Uq}{k e d c b:Nat}{o:Obj}(h:W.drew.cell? ⟨k,0,none⟩=some (uZ d)/\W.drew.cell? ⟨k,1,none⟩=some (uZ c)/\W.drew.cell? ⟨k,2,none⟩=some (uZ b)/\W.drew.cell? ⟨k,3,none⟩=some (uZ 0)/\Kept w k [⟨k,0,d,c,b,0⟩,⟨e,0,0,0,0,0⟩] W.drew):(W.alloc o).drew.cell? ⟨k,0,none⟩=some (uZ d)/\(W.alloc o).drew.cell? ⟨k,1,none⟩=some (uZ c)/\(W.alloc o).drew.cell? ⟨k,2,none⟩=some (uZ b)/\(W.alloc o).drew.cell? ⟨k,3,none⟩=some (uZ 0)/\Kept w k [⟨k,0,d,c,b,0⟩,⟨e,0,0,0,0,0⟩] (W.alloc o).drew:=jY (((kS h).undrew).alloc o).drew
theorem xN{w:Uq}{g o:Nat}{k:Bs}(p l:Nat)(h:Holds encB w g o k)(c:p+l<=k.size):Holds encB w g (o+p) (k.extract p (p+l)):=by
 refine Holds.part h (by rw[Xw];omega) (λj b=>?_);rw[Xw]at b;rw[getElem!_pos (k.extract p (p+l)) j (by rw[Xw];omega),getElem!_pos k (p+j) oM,Array.getElem_extract]
theorem Cp{w:Uq}{g o:Nat}{k:Bs}(f:Nat)(h:Holds encB w g o k)(hf:f<=k.size):Holds encB w g o (k.extract 0 f):=by
 have:=xN 0 f h oM;rwa[UC,XA]at this
def RedR(w:Uq)(e f l i g N:Nat)(s6:Us)(j:Uq):Prop:=
 ∃k a b c d:Nat,s6=jZ k/\Kept w e [⟨k,0,a,b,c,d⟩,⟨e,0,l,i,g,0⟩,⟨f,0,0,0,0,0⟩] j/\k≠e/\k≠f/\e<=k /\
  Hid (Four (.agg #[uZ a,uZ b,uZ c,uZ d]) N)
theorem RedR.made{w k:Uq}{f l j i g N a b c d:Nat}(e:Kept w f [⟨f,0,j,i,g,0⟩,⟨l,0,0,0,0,0⟩] k)(m:Hid (Four (.agg #[uZ a,uZ b,uZ c,uZ d]) N)):
 RedR w f l j i g N (jZ k.heap.size) (k.alloc (.cells #[uZ a,uZ b,uZ c,uZ d] 118)):=
 ⟨k.heap.size,a,b,c,d,rfl,(e.alloc _).cons (At4.made k 118 a b c d rfl).blk,V7 e.head.lt,V7 e.tail.head.lt,e.le,m⟩
theorem RedR.put{w l:Uq}{e g k j f i N a b c d x y z u:Nat}(p:Kept w e [⟨e,0,j,f,i,0⟩,⟨g,0,0,0,0,0⟩] l)(T:At4 l k x y z u)(n:e<=k)(m:∀x∈([⟨e,0,j,f,i,0⟩,⟨g,0,0,0,0,0⟩]:List Blk),x.k<k)(o:Hid (Four (.agg #[uZ a,uZ b,uZ c,uZ d]) N)):
 RedR w e g j f i N (jZ k) ((((l.setCell (aZ k) (uZ a)).setCell ⟨k,1,none⟩ (uZ b)).setCell ⟨k,2,none⟩ (uZ c)).setCell ⟨k,3,none⟩ (uZ d)):=
 ⟨k,a,b,c,d,rfl,(p.set4' n (λx hx=>V7 (m x hx)) _ _ _ _).cons (T.self4 a b c d).blk,V7 (m ⟨e,0,j,f,i,0⟩ (by simp)),V7 (m ⟨g,0,0,0,0,0⟩ (by simp)),n,o⟩
theorem ID{P:Nat}(k:Bs)(p:Nat)(d:p+32<=k.size):(beV (k.extract p (p+32)).toList+top*(beV (k.extract 0 p).toList%P))%P=beV (k.extract 0 (p+32)).toList%P:=by
 have e:(k.extract 0 (p+32)).toList=(k.extract 0 p).toList++(k.extract p (p+32)).toList:=by
  rw[<-yAu,Array.extract_append_extract,Nat.min_eq_left oM,Nat.max_eq_right oM]
 have b:(k.extract p (p+32)).toList.length=32:=by rw[UJ,Xw];omega
 have c:256^32=top:=by unfold top;decide
 rw[e,jP,b,c,yBL,Zn,Xy,Nat.mod_mod,<-Xy,<-Zn,Vu]
theorem CW(g0 g1 g2 P g o n cap : Nat)(bs : Bs)(hG : Gap g0 g1 g2 P)(w : Uq)(hs : bs.size = n)(hc : n <= cap)(hg : g < w.heap.size)(hB : Holds encB w g o bs):
    UG prog 229 #[.agg #[.int .u64 (g0 : Int), .int .u64 (g1 : Int), .int .u64 (g2 : Int), .int .u64 0], .slice (some ⟨g, o, none⟩) n cap] w (Ret λe w' => Below w.heap.size w w' /\ Four e (beV bs.toList % P)) := by
  obtain⟨f, hf⟩ : ∃f, f = n % 32 := ⟨_, rfl⟩;have hf32 : f < 32 := oM;have hfn : f <= n := oM;have e1 : (n : Int) % 32 = (f : Int) := oM;have e2 : (f : Int) <= (cap : Int) := oM;have e3 : (f : Int) <= (n : Int) := oM;have e4 : f <= cap := oM;have hsz0 : (bs.extract 0 f).size = f := by rw [Xw]; omega
  have Hf : Hid (f = n % 32) := hf;have HS : Hid ((bs.extract 0 f).size = f) := hsz0;have hbs : f <= bs.size := oM;have HSZ : Hid (bs.size = n) := hs;have HG : Hid (Gap g0 g1 g2 P) := hG;clear hf hsz0 hG;go_enter func229, ntmps229
  go_upto_region 2 with fail
  rw [e1];clear e1;have PR := (At4.made w 120 g0 g1 g2 0 rfl).alloc (.cells #[.int .u64 0, .int .u64 0, .int .u64 0, .int .u64 0] 47);have RE := At4.made (w.alloc (.cells #[.int .u64 (g0 : Int), .int .u64 (g1 : Int), .int .u64 (g2 : Int), .int .u64 0] 120)) 47 0 0 0 0 (UA _ _);have KP := ((Kept.mk1 (below2 w (.cells #[.int .u64 (g0 : Int), .int .u64 (g1 : Int), .int .u64 (g2 : Int), .int .u64 0] 120) (.cells #[.int .u64 0, .int .u64 0, .int .u64 0, .int .u64 0] 47)) (below2 w (.cells #[.int .u64 (g0 : Int), .int .u64 (g1 : Int), .int .u64 (g2 : Int), .int .u64 0] 120) (.cells #[.int .u64 0, .int .u64 0, .int .u64 0, .int .u64 0] 47)).size).cons RE.blk).cons PR.blk;clear PR RE;generalize World.alloc _ _ = W0 at KP⊢;generalize h1 : w.heap.size + 1 = k1 at KP⊢;have Q1 : Hid (w.heap.size <= k1) := by unfold Hid; omega
  generalize h0 : w.heap.size = k0 at KP Q1 hg⊢;have n01 : k0 ≠ k1 := oM;have H0 : Hid (w.heap.size = k0) := h0;have HBS : Hid (Holds encB w g o bs) := hB;clear h0 h1 hB hs
  go_cut [6] (λs6 wx => RedR w k0 k1 g0 g1 g2 (beV (bs.extract 0 f).toList % P) s6 wx)
  case first =>
    go_region_held3 (λw' => w'.cell? ⟨k0, 0, none⟩ = some (.int .u64 (g0 : Int)) /\ w'.cell? ⟨k0, 1, none⟩ = some (.int .u64 (g1 : Int)) /\ w'.cell? ⟨k0, 2, none⟩ = some (.int .u64 (g2 : Int)) /\ w'.cell? ⟨k0, 3, none⟩ = some (.int .u64 0) /\ Kept w k0 [⟨k0, 0, g0, g1, g2, 0⟩, ⟨k1, 0, 0, 0, 0, 0⟩] w') (first | (with_reducible exact jY KP) | (with_reducible exact jY KP.drew) | (with_reducible exact BS (by assumption)) | (with_reducible exact Do (by assumption)) | (with_reducible exact jY (KP.alloc _)) | (with_reducible exact jY (KP.set4' M7 (λx hx => V7 (N7 x hx)) _ _ _ _)) | (with_reducible exact jY (KP.alloc _).drew) | (with_reducible exact jY (KP.set4' M7 (λx hx => V7 (N7 x hx)) _ _ _ _).drew) | fail) (first | (go_at_call 125; refine(kK (some ⟨g, o, none⟩) g o f cap (bs.extract 0 f) _ (XJ hf32) e4 HS.out (UW ⟨rfl, Cp f (Holds.below HBS.out (kS (by assumption)).bl hg) hbs⟩)).mono ?_; rintro e w1 ⟨v, rfl, hb1, hF1⟩; obtain⟨a1, b1, c1, d1, rfl, ha1, hb1', hc1, hd1, es1⟩ := id hF1; clear es1; have HF1 : Hid (Four _ _) := hF1; clear hF1; (try(with_reducible have T1 := T.call hb1; clear T; have T := T1; clear T1)); (try(first | (with_reducible have T := (At4.made _ 118 0 0 0 0 rfl).call hb1) | (with_reducible have T := (At4.made _ 118 0 0 0 0 rfl).drew.call hb1)); have N7 := KP.lts; have M7 := KP.le); have KP1 := Kept.call (kS (by assumption)) hb1; clear KP; have KP := KP1; clear KP1 hb1) | (go_at_call 127; refine(jN _ _ HF1.out _).mono ?_; rintro e w1 ⟨v, rfl, hb1, rfl⟩; (try(with_reducible have T1 := T.call hb1; clear T; have T := T1; clear T1)); (try(first | (with_reducible have T := (At4.made _ 118 0 0 0 0 rfl).call hb1) | (with_reducible have T := (At4.made _ 118 0 0 0 0 rfl).drew.call hb1)); have N7 := KP.lts; have M7 := KP.le); have KP1 := Kept.call (kS (by assumption)) hb1; clear KP; have KP := KP1; clear KP1 hb1) | (go_at_call 235; refine(xU g0 g1 g2 _ _ _ _ P HG.h0 HG.h1 HG.h2 HG.hor HG.hP HG.hP2 HF1.out (Four.mk (a := 0) (b := 0) (c := 0) (d := 0) dC dC dC dC rfl) _).mono ?_; rintro e w1 ⟨v, rfl, hb1, hF3⟩; obtain⟨a', b', c', d', rfl, ha', hb', hc', hd', es3⟩ := id hF3; clear es3; have HF3 : Hid (Four _ _) := hF3; clear hF3; (try(with_reducible have T1 := T.call hb1; clear T; have T := T1; clear T1)); (try(first | (with_reducible have T := (At4.made _ 118 0 0 0 0 rfl).call hb1) | (with_reducible have T := (At4.made _ 118 0 0 0 0 rfl).drew.call hb1)); have N7 := KP.lts; have M7 := KP.le); have KP1 := Kept.call (kS (by assumption)) hb1; clear KP; have KP := KP1; clear KP1 hb1; (try(obtain⟨tc0, tc1, tc2, tc3, tf⟩ := id T; have zt := T.lt))))
    all_goals (try go_wp2)
    all_goals (rw [show val 0 0 0 0 = 0 from rfl, ZP, XA]at HF3)
    all_goals (go_meet; first | (with_reducible exact RedR.made KP HF3) | (with_reducible exact(RedR.made KP HF3).drew) | (with_reducible exact RedR.put KP T M7 N7 HF3) | (with_reducible exact(RedR.put KP T M7 N7 HF3).drew) | fail)
  case rest =>
    clear KP;obtain⟨k6, a, b, c, d, rfl, KP, n60, n61, M6, HF⟩ := hcut;have f0 : (0 : Int) <= (f : Int) := Int.natCast_nonneg _
    go_upto_region 3 with fail
    go_cut [1] (λs1 wx => ∃q : Nat, s1 = .slice (some ⟨g, q, none⟩) (n - f) (cap - f) /\ Hid (0 < n - f -> q = o + f) /\ Kept w k0 [⟨k6, 0, a, b, c, d⟩, ⟨k0, 0, g0, g1, g2, 0⟩, ⟨k1, 0, 0, 0, 0, 0⟩] wx)
    case first =>
      by_cases ec : cap = f
      · have en : n = f := oM
        have HEN : Hid (n = f /\ cap = f) := ⟨en, ec⟩;go_wp2
        go_meet
        refine⟨o, ?_, λh => ?_, KP⟩
        · rw [HEN.1, HEN.2]; try simp
        · have := HEN.1; omega
      · go_wp2
        go_meet
        exact⟨o + f, rfl, λ_ => rfl, KP⟩
    case rest =>
    clear KP;obtain⟨q0, rfl, HQ0, KP⟩ := hcut;go_wp2_with fail
    go_loopg [1] (n - f) (λgk s1 wr => ∃(l q lc a b c d : Nat), gk = l /\ l <= n /\ s1 = .slice (some ⟨g, q, none⟩) l lc /\ Hid (l % 32 = 0 /\ (0 < l -> q = o + (n - l)) /\ lc = cap - (n - l)) /\ Kept w k0 [⟨k6, 0, a, b, c, d⟩, ⟨k0, 0, g0, g1, g2, 0⟩, ⟨k1, 0, 0, 0, 0, 0⟩] wr /\
      Hid (Four (.agg #[.int .u64 (a : Int), .int .u64 (b : Int), .int .u64 (c : Int), .int .u64 (d : Int)]) (beV (bs.extract 0 (n - l)).toList % P)))
    case atStart =>
      refine⟨n - f, q0, cap - f, a, b, c, d, rfl, oM, rfl, ⟨by have := Hf.out; omega, λh => by have := HQ0.out h; omega, oM⟩, KP, ?_⟩;rw [show n - (n - f) = f by omega];exact HF
    case round =>
      clear KP HF;obtain⟨l, q, lc, a, b, c, d, hgk, hln, rfl, HQ3, KP, HF⟩ := hrel;clear e2 e3 e4 f0 hbs HS hf32 hfn HQ0;have hlcl : l <= lc := by have := HQ3.out; omega
      by_cases h0 : l = 0
      · subst h0
        obtain⟨xc0, xc1, xc2, xc3, xf⟩ := KP.head.at4;have z7 := KP.head.lt;go_wp2_with fail
        refine(jI _ _ HF.out _).mono ?_;rintro e w3 ⟨v, rfl, hb3, rfl⟩;have KP3 := KP.call hb3;clear hb3 xc0 xc1 xc2 xc3 xf z7 KP;obtain⟨rc0, rc1, rc2, rc3, rf⟩ := KP3.tail.tail.head.at4;have z3 := KP3.tail.tail.head.lt;go_wp2;have RF := KP3.tail.tail.head.at4.self4 a b c d;unfold set4 at RF;refine UD (v := ?v) ?hr rfl ?hR
        case hr => simp [results, Tryz.results229, go_sem, RF.c0, RF.c1, RF.c2, RF.c3]; rfl
        refine⟨_, rfl, ?_, ?_⟩
        · rw [H0.out]
          exact aL KP3.bl Q1.out _ _ _ _
        · have := HF.out
          rw [YT, <-HSZ.out, Array.extract_size]at this;exact this
      · have h32 : 32 <= l := by have := HQ3.out; omega
        have HQ : Hid (o + (n - l) = q) := (HQ3.2.1 oM).symm;have h32c : 32 <= lc := oM;have i1 : (32 : Int) <= (lc : Int) := oM;have i2 : (32 : Int) <= (l : Int) := oM;have i3 : (0 : Int) < (l : Int) := oM;have HSL : Hid (n - l + 32 <= bs.size) := by unfold Hid; have := HSZ.out; omega
        have HS3 : Hid ((bs.extract (n - l) (n - l + 32)).size = 32) := by unfold Hid; rw [Xw]; have := HSL.out; omega
        obtain⟨tc0, tc1, tc2, tc3, tf⟩ := KP.head.at4;have zt := KP.head.lt;obtain⟨pc0, pc1, pc2, pc3, pf⟩ := KP.tail.head.at4;have hl6 : ∀x ∈ ([⟨k0, 0, g0, g1, g2, 0⟩, ⟨k1, 0, 0, 0, 0, 0⟩] : List Blk), k6 ≠ x.k := by simp only [VW, UX, or_false]; rintro x (rfl | rfl); exact n60; exact n61
        have HFF : Hid (_ = _) := ID (P := P) bs (n - l) HSL.out;go_wp2_with fail
        go_region_with (first | (go_at_call 125; refine(kK (some ⟨g, q, none⟩) g q 32 lc (bs.extract (n - l) (n - l + 32)) _ (Uv 32) h32c HS3.out (UW ⟨rfl, HQ.out ▸ xN (n - l) 32 (by first | (with_reducible exact Holds.below HBS.out KP.bl hg) | (with_reducible exact Holds.below HBS.out KP.drew.bl hg) | fail) HSL.out⟩)).mono ?_; rintro e w1 ⟨v, rfl, hb1, hF1⟩; obtain⟨a1, b1, c1, d1, rfl, ha1, hb1', hc1, hd1, es1⟩ := id hF1; clear es1; have HF1 : Hid (Four _ _) := hF1; clear hF1; (first | (with_reducible have KP1 := KP.call hb1) | (with_reducible have KP1 := KP.drew.call hb1) | fail); clear KP; have KP := KP1; clear KP1 hb1; obtain⟨tc0, tc1, tc2, tc3, tf⟩ := KP.head.at4; have zt := KP.head.lt; obtain⟨pc0, pc1, pc2, pc3, pf⟩ := KP.tail.head.at4) | (go_at_call 127; refine(jN _ _ HF1.out _).mono ?_; rintro e w1 ⟨v, rfl, hb1, rfl⟩; (first | (with_reducible have KP1 := KP.call hb1) | (with_reducible have KP1 := KP.drew.call hb1) | fail); clear KP; have KP := KP1; clear KP1 hb1; obtain⟨tc0, tc1, tc2, tc3, tf⟩ := KP.head.at4; have zt := KP.head.lt; obtain⟨pc0, pc1, pc2, pc3, pf⟩ := KP.tail.head.at4) | (go_at_call 235; refine(xU g0 g1 g2 _ _ _ _ P HG.h0 HG.h1 HG.h2 HG.hor HG.hP HG.hP2 HF1.out HF.out _).mono ?_; rintro e w1 ⟨v, rfl, hb1, hF3⟩; obtain⟨a', b', c', d', rfl, ha', hb', hc', hd', es3⟩ := id hF3; clear es3; have HF3 : Hid (Four _ _) := hF3; clear hF3; (first | (with_reducible have KP1 := KP.call hb1) | (with_reducible have KP1 := KP.drew.call hb1) | fail); clear KP; have KP := KP1; clear KP1 hb1; obtain⟨tc0, tc1, tc2, tc3, tf⟩ := KP.head.at4; have zt := KP.head.lt; obtain⟨pc0, pc1, pc2, pc3, pf⟩ := KP.tail.head.at4))
        all_goals (rw [HFF.out]at HF3)
        all_goals (by_cases i4 : lc = 32)
        all_goals (try go_wp2)
        all_goals
          (go_roundg (l - 32)
           case measure => omega
           case rel =>
            first
              | refine⟨l - 32, q + 32, lc - 32, a', b', c', d', rfl, oM, rfl, ⟨by have := HQ3.out; omega, λ_ => by have := HQ.out; omega, by have := HQ3.out; omega⟩, ?_, ?_⟩
              | refine⟨l - 32, q, lc - 32, a', b', c', d', rfl, oM, by first | rfl | (rw [i4]), ⟨by have := HQ3.out; omega, λh => oM, by have := HQ3.out; omega⟩, ?_, ?_⟩
              | fail
            · first | (with_reducible exact KP.put M6 hl6 a' b' c' d') | (with_reducible exact(KP.put M6 hl6 a' b' c' d').drew) | fail
            · rw [show n - (l - 32) = n - l + 32 by omega]; exact HF3)
def sPl(N a b:Nat):Nat:=(a+b)%N
theorem LL(O:Ord N){a b:Nat}(c:a<N)(k:b<N):Gives 155 #[gv1,nv a,nv b] (nv (sPl N a b)):=λw =>
 (CV _ _ _ N _ _ a b O.gap (O.four c) (O.four k) c k w).mono (by rintro e w' ⟨v,rfl,k,d⟩;exact⟨_,rfl,k,d.nv⟩)
theorem mY(O:Ord N)(a b:Nat)(e:a<N)(d:b<N):Gives 80 #[(nv a),(nv b)] (nv (sPl N a b)):=by
 intro w;go_enter func80,ntmps80;refine RG.M.enter [(0,.v (nv a)),(1,.v (nv b))] 12 kR ?_;intro a0 f;repeat refine Uy ?_
 refine f.T [.m 0,.m 1,.m 2] [(0,wn a),(1,wn b),(2,RG.z 4)] [] [wn a,wn b,RG.z 4] [2,3,4] ⟨mk 0 49,mk 1 49,mk 2 49,yCl⟩ ?_;intro g m j n l c;repeat refine Uy ?_
 refine c.D [.c gv1,.s (.p 0 0),.x (nv a),.s (.p 1 0),.x (nv b),.c (nv (sPl N a b)),.x (nv (sPl N a b)),.u 2] [] [(2,7,wn (sPl N a b))] [wn a,wn b,wn (sPl N a b)] [4] ⟨cl fH,st,ld u38 i38,st,ld u38 i38,cl (LL O e d),st,RG.pt i40,yCl⟩ ?_;intro a2 i k;refine We ?_;refine UD (v:=(nv (sPl N a b))) (aI k.st 4 49 rfl 2 _ rfl (k.at (s:=(.p 2 0))) u40 i40) k.sl.defers ?_;exact⟨_,rfl,k.st.bel.below,rfl⟩
def oS(N:Nat)(k:Bs):Nat:=beV k.toList%N
def Qo(v:Us)(n:Nat):List It:=[.c 3 [] gv1,.x 4 [] v,.c 5 [(3,0),(4,1)] (nv n),.x 6 [(5,2)] (nv n),.u [(6,3)] 0]
theorem zL(O:Ord N)(g:Nat)(k:Bs)(l:k.size=64)(w:Uq)(f:g<w.heap.size)(m:Holds encB w g 0 k):UG prog 197 #[sZ g 64 64] w (rZ w λe w'=>e=nv (oS N k)):=by
 have n:∀w',BelX w.heap.size [] w w'->UG prog 229 #[gv1,sZ g 64 64] w' (Ret λe b=>kZ w' b/\e=nv (oS N k)):=λw' d =>
  (CW _ _ _ N g 0 64 64 k O.gap w' l (Uv _) (Uw f d.below.size) (Holds.below m d.below f)).mono (by rintro e b ⟨v,rfl,d,c⟩;exact⟨_,rfl,d,c.nv⟩)
 go_enter func197,ntmps197;refine RG.M.enter [(0,.v (sZ g 64 64))] 7 kR ?_;intro a0 j;repeat refine Uy ?_
 refine j.T [.m 0] [(0,RG.z 4)] [] [RG.z 4] [0,2] ⟨mk 0 49,yCl⟩ ?_;intro o r p i;repeat refine Uy ?_
 refine i.t (Qo (sZ g 64 64) (oS N k)) [] [(0,4,wn (oS N k))] [wn (oS N k)] [(2,.p 0 0)] ⟨cl fH,st,clB (λ_ _=>kR) n,st,RG.pt i40,yCl⟩ ?_;intro a2 q c;refine We ?_;refine UD (v:=(nv (oS N k))) (aI c.st 2 49 rfl 0 _ rfl (c.at (s:=(.p 0 0))) u40 i40) c.sl.defers ?_;exact⟨_,rfl,c.st.bel.below,rfl⟩
theorem uU(O:Ord N)(k:Bs):oS N k<N:=V4 _ O.pos
def chL(N:Nat)(k:List UInt8)(b:List (List UInt8)):Nat:=oS N (qM (oR k b).toList 64)
theorem aE(w:Uq)(c:List Us)(T:U7):Row (w.alloc (.cells c.toArray T)) w.heap.size c:=
 have h:=Made.alloc w c T
 ⟨h.lt,h.range,h.there⟩
theorem aM(n:Nat):(wn n).toArray.all (·.oneCell')=true:=kR
theorem Ic(O:Ord N)(g:Nat)(T:Bs)(w:Uq)(o:T.size=32)(u:Holds encB w g 0 T):
 UG prog 128 #[sZ g 32 32] w (rZ w λe w'=>e=nv (oS N (qM T.toList 64))):=by
 obtain⟨S,t⟩:∃S,Hid (qM T.toList 64=S):=⟨_,rfl⟩
 have x:S.size=64:=by rw[<-t.out];exact zI _ _
 rw[t.out];obtain⟨c,b⟩:∃c,Hid (w.alloc (.cells #[uZ 0,uZ 0,uZ 0,uZ 0] 49)=c):=⟨_,rfl⟩
 have f:Hid (Row c w.heap.size [uZ 0,uZ 0,uZ 0,uZ 0]/\kZ w c/\Holds encB c g 0 T):=by rw[<-b.out];exact⟨aE w _ _,aC w _,Holds.below u (aC w _) (Holds.lt u oM)⟩
 clear u;go_enter func128,ntmps128;go_wp2_with fail
 rw[b.out];clear b;refine(yV (some (aZ g)) g 0 32 32 64 T c dC o (Uv _) dC (UW ⟨rfl,f.2.2⟩)).mono ?_;rintro e n ⟨A,rfl,B,r,s⟩;rw[t.out]at s;have d:Hid (Row n w.heap.size [uZ 0,uZ 0,uZ 0,uZ 0]/\kZ w n/\Holds encB n A 0 S):=⟨f.1.below r,f.2.1.trans (r.mono f.2.1.size),s⟩
 clear B r s f;go_wp2_with fail
 refine(zL O A S x n (Holds.lt d.2.2 oM) d.2.2).mono ?_;rintro e q ⟨v,rfl,k,rfl⟩;have p:Hid (Row q w.heap.size [uZ 0,uZ 0,uZ 0,uZ 0]/\kZ w q):=⟨d.1.below k,d.2.1.trans (k.mono d.2.1.size)⟩
 clear k d;obtain⟨m,a⟩:∃m,Hid (oS N S=m):=⟨_,rfl⟩
 rw[a.out];obtain⟨l,j⟩:∃l,Hid (q.setCells w.heap.size 0 (wn m)=l):=⟨_,rfl⟩
 have y:Hid (Row l w.heap.size (wn m)/\kZ w l):=by rw[<-j.out];exact⟨p.1.put rfl,RG.below_setCells (Uv _) _ _ _ p.2⟩
 obtain⟨z,i⟩:∃z,Hid (nv m=z):=⟨_,rfl⟩
 rw[i.out];go_wp2_with (refine U1 rfl 49 _ _ rfl w.heap.size 0 (wn m).toArray ?_ ?_ ?_ ?_ ?_ ?_;rfl;exact i.symm;exact p.1.2.2;exact i40;exact aM m;rw[show(wn m).toArray.toList=wn m from rfl,j.out])
 refine UD (aG 2 49 rfl y.1 rfl u40 i40) rfl ?_;exact⟨_,rfl,y.2,by rw[a.out];rfl⟩
theorem Cz(O:Ord N)(k:ByteArray)(u:Option Wt)(n cap:Nat)(i:List (List UInt8))(w:Uq)(j:k.size<=1048576)(D:i.length=n)(p:n<=1048576)(B:PartsOk w u i):
 UG prog 60 #[.string k,.slice u n cap] w (rZ w λe w'=>e=nv (chL N k.data.toList i)):=by
 obtain⟨T,A⟩:∃T,Hid (oR k.data.toList i=T):=⟨_,rfl⟩
 have x:T.size=32:=by rw[<-A.out];exact fC _ _
 have E:chL N k.data.toList i=oS N (qM T.toList 64):=by unfold chL;rw[A.out]
 rw[E];clear E;obtain⟨c,g⟩:∃c,Hid (w.alloc (.cells #[uZ 0,uZ 0,uZ 0,uZ 0] 49)=c):=⟨_,rfl⟩
 have b:Hid (Row c w.heap.size [uZ 0,uZ 0,uZ 0,uZ 0]/\kZ w c):=by rw[<-g.out];exact⟨aE w _ _,aC w _⟩
 have d:Hid (UG prog 113 #[.string k,.slice u n cap] c λe w'=>∃r,e=.returned (sZ r 32 32)/\c.heap.size<=r/\kZ c w'/\Holds encB w' r 0 T):=by
  subst D;rw[<-A.out];exact vP k u cap i c j p (B.below b.2)
 clear B D p;go_enter func60,ntmps60;go_wp2_with fail
 rw[g.out];clear g;refine d.mono ?_;rintro e t ⟨I,rfl,J,a,G⟩;have q:Hid (Row t w.heap.size [uZ 0,uZ 0,uZ 0,uZ 0]/\kZ w t/\Holds encB t I 0 T):=⟨b.1.below a,b.2.trans (a.mono b.2.size),G⟩
 clear J a G d b;go_wp2_with fail
 refine(Ic O I T t x q.2.2).mono ?_;rintro e z ⟨v,rfl,f,rfl⟩;have y:Hid (Row z w.heap.size [uZ 0,uZ 0,uZ 0,uZ 0]/\kZ w z):=⟨q.1.below f,q.2.1.trans (f.mono q.2.1.size)⟩
 clear f q;obtain⟨m,H⟩:∃m,Hid (oS N (qM T.toList 64)=m):=⟨_,rfl⟩
 rw[H.out];obtain⟨s,l⟩:∃s,Hid (z.setCells w.heap.size 0 (wn m)=s):=⟨_,rfl⟩
 have C:Hid (Row s w.heap.size (wn m)/\kZ w s):=by rw[<-l.out];exact⟨y.1.put rfl,RG.below_setCells (Uv _) _ _ _ y.2⟩
 obtain⟨F,o⟩:∃F,Hid (nv m=F):=⟨_,rfl⟩
 rw[o.out];go_wp2_with (refine U1 rfl 49 _ _ rfl w.heap.size 0 (wn m).toArray ?_ ?_ ?_ ?_ ?_ ?_;rfl;exact o.symm;exact y.1.2.2;exact i40;exact aM m;rw[show(wn m).toArray.toList=wn m from rfl,l.out])
 refine UD (aG 4 49 rfl C.1 rfl u40 i40) rfl ?_;exact⟨_,rfl,C.2,by rw[H.out];rfl⟩
end
section
section
variable {P:VC}{ops:Array Vj}{rest:List Vj}{op:Vj}{a:Act}{w w':Uq}{v:Us}{Q:Yo->Act->Uq->Prop}
theorem bG(k:op.guard=none)(X:Op)(_:op.op=X)(c:(U4 a.eval op).run P w=.ok (.value v) w')(h:wpList P ops Q rest (a.put op.dst v) w'):wpList P ops Q (op :: rest) a w:=
 Xf k λK b=>by
  unfold VS;rw[c];exact b _ _ h
end
variable {N:Nat}
theorem Row.only{W W':Uq}{k b o n:Nat}{vs:List Us}(h:Row W k vs)(e:SP.Only b o n W W')(d:k≠b):Row W' k vs:=by
 refine⟨Uw h.1 e.size,λj v f=>?_,λj f=>?_⟩
 ·rw[(e.other (c:=k) (o:=0+j) d h.1).1];exact h.2.1 j v f
 ·have i:=h.2.2 j f;have g:=e.other (c:=k) (o:=0+j) d h.1;exact⟨by rw[g.1];exact i.1,by rw[g.2];exact i.2⟩
theorem dW{w W:Uq}{y o n k:Nat}{vs:List Us}(h:SP.Only y o n w W)(d:y<w.heap.size)(f:w.heap.size<=k)(q:Nat):SP.Only y o n w (W.setCells k q vs):=
 have b:=RG.below_setCells f _ _ _ (UQ _ _)
 ⟨b.os.trans h.os,b.tape.trans h.tape,b.output.trans h.output,UB h.size b.size,λj e c=>(b.block j e).trans (h.block j e c),λp g=>(UV (a:=⟨y,p,none⟩) (b.block y d)).trans (h.cell p g),λp=>(VT (a:=⟨y,p,none⟩) (b.block y d)).trans (h.froz p)⟩
theorem Hid.mk'{p:Prop}(h:p):Hid p:=h
theorem u124:(prog.underlying 143).map (·.isRow)=some true:=kR
theorem i124:(prog.info? 143).map (·.size)=some 1:=kR
theorem Gp(k:ByteArray)(w:Uq)(m:k.size<=1048576):UG prog 207 #[.string k] w (rZ w λe w'=>∃r,e=.agg #[jZ r]/\w.heap.size<=r/\r<w'.heap.size/\Holds encB w' r 0 (newL k.data.toList)):=by
 obtain⟨L,s⟩:=hE (newL k.data.toList);have x:L.size=32:=by rw[<-s.out];exact zY _
 rw[s.out];obtain⟨c,g⟩:∃c,Hid (w.alloc (.cells #[.pointer none] 143)=c):=⟨_,rfl⟩
 have l:Hid (Row c w.heap.size [.pointer none]/\kZ w c):=by rw[<-g.out];exact⟨aE w _ _,aC w _⟩
 go_enter func207,ntmps207;go_wp2_with fail
 rw[g.out];clear g;refine(Em k c m).mono ?_;rintro e f ⟨rfl,d,b⟩;rw[s.out]at b;have o:c.heap.size<f.heap.size:=Holds.lt b oM;obtain⟨r,t⟩:∃r,Hid (c.heap.size=r):=⟨_,rfl⟩
 rw[t.out]at b o⊢;have y:w.heap.size<r:=by rw[<-t.out];exact l.1.1
 have q:Hid (Row f w.heap.size [.pointer none]/\kZ w f/\Holds encB f r 0 L):=⟨l.1.below d,l.2.trans (d.mono l.2.size),b⟩
 clear d b l t;obtain⟨i,n⟩:∃i,Hid (f.setCells w.heap.size 0 [jZ r]=i):=⟨_,rfl⟩
 have p:Hid (Row i w.heap.size [jZ r]/\kZ w i/\Holds encB i r 0 L/\r<i.heap.size):=by
  rw[<-n.out];refine⟨q.1.put rfl,RG.below_setCells (Uv _) _ _ _ q.2.1,λj u=>?_,by rw[setCells_size];exact o⟩;have h:=q.2.2 j u;have e:=aH w.heap.size [jZ r] 0 f r oM;rw[UV (a:=⟨r,0+j,none⟩) e,VT (a:=⟨r,0+j,none⟩) e];exact h
 go_wp2_with (refine bG (v:=.agg #[jZ r]) (w':=f) rfl (.build 143 _) rfl ?_ ?_;kernel_rfl;refine Zf ?_)
 show wpList _ _ _ _ _ _;refine U1 rfl 143 _ _ rfl w.heap.size 0 #[jZ r] ?_ ?_ ?_ ?_ ?_ ?_
 ·kernel_rfl
 ·kernel_rfl
 ·exact q.1.2.2
 ·exact i124
 ·kernel_rfl
 rw[show(#[jZ r]).toList=[jZ r] from rfl,n.out];go_wp2;refine UD (aG 2 143 rfl p.1 rfl u124 i124) rfl ?_;exact⟨_,rfl,p.2.1,r,rfl,oM,p.2.2.2,p.2.2.1⟩
def cha(N:Nat)(L:Bs):Nat:=oS N (CN L [99,104,97,108,108,101,110,103,101] 64)
end
namespace SP
attribute [local go_sem] cY dV dZ pB
end SP
namespace SP
attribute [local go_sem] cY dV dZ pB
end SP
namespace SP
attribute [local go_sem] cY dV dZ qJ pB
end SP
namespace SP
attribute [local go_sem] cY dV dZ qJ pB En NE
end SP
namespace SP
attribute [local go_sem] Aj
end SP
section
variable {P:Nat}[NeZero P]{N:Nat}
def n12(P:Nat)[NeZero P]:List Us:=ws (0:Fin P)++(ws (1:Fin P)++ws (0:Fin P))
theorem Ef(l:List UInt8):beV l<256^l.length:=by
 induction l with
 | nil=>decide
 | cons x r ih =>
  have h:=jP [x] r;rw[show [x]++r=x :: r from rfl]at h;have hx:beV [x]=x.toNat:=by simp[beV]
  have k:=x.toNat_lt;rw[h,hx,Vh,V6,Vu (256^r.length)];have:=Xr (256^r.length) (show x.toNat+1<=256 by omega);rw[XE,Nat.one_mul]at this;omega
theorem Rx(w:Uq):(Instr.makeSlice 23 (iZ 32) (iZ 32)).run prog w=.ok (sZ w.heap.size 32 32) (w.alloc (.cells (madeCells #[.int .u8 0] 32) 5)):=
 run_make_row' (P:=prog) 23 5 (.int .u8 0) 1 Hz DL rfl .i64 .i64 32 dC dC w
theorem Nq:prog.underlying 103=some (.array 33 5):=kR
theorem dF{b:Bs}(h:b.size=33):aA b=[.int .u8 (ub b[0]!),.int .u8 (ub b[1]!),.int .u8 (ub b[2]!),.int .u8 (ub b[3]!),.int .u8 (ub b[4]!),.int .u8 (ub b[5]!),.int .u8 (ub b[6]!),.int .u8 (ub b[7]!),.int .u8 (ub b[8]!),.int .u8 (ub b[9]!),.int .u8 (ub b[10]!),.int .u8 (ub b[11]!),.int .u8 (ub b[12]!),.int .u8 (ub b[13]!),.int .u8 (ub b[14]!),.int .u8 (ub b[15]!),.int .u8 (ub b[16]!),.int .u8 (ub b[17]!),.int .u8 (ub b[18]!),.int .u8 (ub b[19]!),.int .u8 (ub b[20]!),.int .u8 (ub b[21]!),.int .u8 (ub b[22]!),.int .u8 (ub b[23]!),.int .u8 (ub b[24]!),.int .u8 (ub b[25]!),.int .u8 (ub b[26]!),.int .u8 (ub b[27]!),.int .u8 (ub b[28]!),.int .u8 (ub b[29]!),.int .u8 (ub b[30]!),.int .u8 (ub b[31]!),.int .u8 (ub b[32]!)]:=by
 apply YX;intro i;by_cases k:i<33
 ·rw[rN b i oM];match i,k with
  | 0,_=>rfl
  | 1,_=>rfl
  | 2,_=>rfl
  | 3,_=>rfl
  | 4,_=>rfl
  | 5,_=>rfl
  | 6,_=>rfl
  | 7,_=>rfl
  | 8,_=>rfl
  | 9,_=>rfl
  | 10,_=>rfl
  | 11,_=>rfl
  | 12,_=>rfl
  | 13,_=>rfl
  | 14,_=>rfl
  | 15,_=>rfl
  | 16,_=>rfl
  | 17,_=>rfl
  | 18,_=>rfl
  | 19,_=>rfl
  | 20,_=>rfl
  | 21,_=>rfl
  | 22,_=>rfl
  | 23,_=>rfl
  | 24,_=>rfl
  | 25,_=>rfl
  | 26,_=>rfl
  | 27,_=>rfl
  | 28,_=>rfl
  | 29,_=>rfl
  | 30,_=>rfl
  | 31,_=>rfl
  | 32,_=>rfl
  | n+33,h=>exact absurd h oM
 ·rw[Ww (by rw[aB h];omega),Ww (by show 33<=i;omega)]
theorem bytes_eq{a b:Bs}(e:a.size=33)(d:b.size=33):(∀i∈VF 33,ub a[i]! = ub b[i]!)↔a=b:=by
 constructor
 ·intro h;apply yB4 (by rw[e,d]);intro i g c;have k:=h i (VZ.2 oM);rw[getElem!_pos a i g,getElem!_pos b i c]at k;have f:a[i].toNat=b[i].toNat:=by unfold ub at k;omega
  exact yAU.1 f
 ·rintro rfl i _;rfl
theorem Sq{a b:Bs}(e:a.size=33)(d:b.size=33)(w:Uq):(Op.equal 103 (.agg (aA a).toArray) (.agg (aA b).toArray)).run prog w=.ok (decide (a=b)) w:=by
 have c:(prog.info? 5).isSome=true:=kR;obtain⟨f,k⟩:=Vq.1 c;show(Op.equalIn 10000 103 _ _).run prog w=_;rw[run_equalIn_array w 9999 _ _ Nq k,cells5,
  eqI _ _ (λi=>ub a[i]!) (λi=>ub b[i]!) 9998 w (VF 33) (λi c=>by
   rw[Vf];exact rN a i (by rw[e];exact VZ.1 c)) (λi c=>by
   rw[Vf];exact rN b i (by rw[d];exact VZ.1 c))]
 rw[decide_eq_decide.2 (bytes_eq e d)]
theorem FB{b:Bs}(k:b.size=33)(e:Bool)(w:Uq):(Instr.checkKey e 10000 103 (.agg (aA b).toArray)).run prog w=.ok () w:=by
 rw[dF k];kernel_rfl
def at?(b:Bs):List Bs->Nat->Option Nat
 | [],_=>none
 | k :: r,i=>if b=k then some i else at? b r (i+1)
def ents:List Bs->Nat->List MapEntry
 | [],_=>[]
 | k :: r,i=>{ key:=.agg (aA k).toArray,val:=iZ i,born:=i } :: ents r (i+1)
theorem Cv{b:Bs}(d:b.size=33)(w:Uq):∀(D:List Bs) (i:Nat),(∀k∈D,k.size=33)->(yAS 103 (.agg (aA b).toArray) (ents D i) i).run prog w=.ok ((at? b D i).map λj=>(j,iZ j)) w
 | [],i,_=>rfl
 | k :: r,i,h=>by
  have e:=Cv d w r (i+1) (λx hx=>h x (Va _ hx));have f:=Sq d (h k Vt) w;unfold ents yAS at?;simp only[UU,f,Vl];by_cases c:b=k
  ·simp only[c,decide_true,if_true,Wq,Yv]
  ·simp only[c,decide_false,Bool.false_eq_true,if_false,e]
theorem EZ{b:Bs}(d:b.size=33)(D:List Bs)(h:∀k∈D,k.size=33)(w:Uq):(yBv 103 (.agg (aA b).toArray) (ents D 0)).run prog w=.ok ((at? b D 0).map λj=>(j,iZ j)) w:=by
 have c:=XX Nq w;unfold yBv;rw[UU,c,Vl];cases D with
 | nil=>rfl
 | cons k r =>
  have e:Instr.findNow (.array 33 5) (.agg (aA b).toArray) (ents (k :: r) 0) 0=none:=rfl;simp only[e];exact Cv d w (k :: r) 0 h
theorem at?_none{b:Bs}:∀ {D:List Bs}{i:Nat},at? b D i=none↔b ∉ D
 | [],i=>by simp[at?]
 | k :: r,i=>by
  unfold at?;by_cases h:b=k
  ·simp[h]
  ·simp[h,at?_none (D:=r) (i:=i+1)]
end
section
section
variable {P:VC}{ops:Array Vj}{rest:List Vj}{op:Vj}{a:Act}{w w':Uq}{v u:Us}{Q:Yo->Act->Uq->Prop}
theorem aF(k:op.guard=none)(T:U7)(x:XF)(ho:op.op=.box T x)(hx:a.eval x=u)(c:(Vd T u).run P w=.ok v w')(h:wpList P ops Q rest (a.put op.dst v) w'):wpList P ops Q (op :: rest) a w:=
 Xf k λK b=>by
  unfold VS U4;simp only[ho,hx,UU,c,Vl,Wq];exact b _ _ h
end
variable {N:Nat}
theorem cV:(prog.info? 103).map (·.size)=some 33:=kR
theorem uCP:(prog.underlying 103).map (·.isRow)=some true:=kR
theorem rM{a:Bs}(k:a.size=33)(w:Uq):(Vd 103 (.agg (aA a).toArray)).run prog w=.ok (jZ w.heap.size) (w.alloc (.cells (aA a).toArray 103)):=by
 rw[dF k];kernel_rfl
theorem QM(k:Nat)(w:Uq):(Xm 103 (jZ k) none none none).run prog w=.ok (sZ k 33 33) w:=kR
theorem row_holds{W:Uq}{k:Nat}{a:Bs}(h:Row W k (aA a)):Holds encB W k 0 a:=cb_holds h.2.1 h.2.2
theorem wO{W:Uq}{k:Nat}{a:Bs}(b:a.size=33)(h:Row W k (aA a)):PartOk W (sZ k 33 33) a.toList:=
 ⟨_,k,0,33,a,by rw[b],rfl,oM,oM,UW ⟨rfl,row_holds h⟩⟩
theorem OG{W:Uq}{r:Nat}{L:Bs}(h:Holds encB W r 0 L):Holds SP.encB W r 0 L:=h
theorem OE{W:Uq}{r:Nat}{L:Bs}(h:Holds SP.encB W r 0 L):Holds encB W r 0 L:=h
end
section
variable {P:Nat}[NeZero P]{N:Nat}
theorem FU(g k:Nat)(w:Uq):(Instr.arrayAt 103 (sZ g 33 k)).run prog w=.ok (jZ g) w:=kR
theorem pW{W:Uq}{k:Nat}{a:Bs}(b:Holds encB W k 0 a)(c:k<W.heap.size):Row W k (aA a):=⟨c,(rL b).1,(rL b).2⟩
theorem bW(a:Bs):(aA a).toArray.all (·.oneCell')=true:=by
 rw[WW];intro v hv;obtain⟨x,-,rfl⟩:=Vm.1 (X6.1 hv);rfl
def pvl(a:Bs):Us:=.agg (aA a).toArray
theorem NP(C:Fld P):Gives 63 #[] (pvl (wr (gG P))):=by
 intro w;obtain⟨T,u⟩:∃T,Hid (wr (gG P)=T):=⟨_,rfl⟩
 have s:T.size=33:=by rw[<-u.out];exact aT _
 rw[u.out];obtain⟨f,c⟩:∃f,Hid (w.alloc (.cells z33.toArray 103)=f):=⟨_,rfl⟩
 have o:Hid (Row f w.heap.size z33/\kZ w f):=by rw[<-c.out];exact⟨aE w _ _,aC w _⟩
 obtain⟨d,i,n⟩:=Ux.1 uCP;have a:Hid (prog.underlying 103=some d/\d.isRow=true):=⟨i,n⟩
 clear i n;go_enter func63,ntmps63;go_wp2_with (refine bG (v:=jZ w.heap.size) (w':=f) rfl (.alloc 103) rfl ?_ ?_;(rw[<-c.out];kernel_rfl))
 refine(Qp C f).mono ?_;rintro e l ⟨E,rfl,b,g,D,rfl,-,B,z,t⟩;rw[u.out]at t;have r:Hid (Row l w.heap.size z33/\kZ w l/\Row l g (aA T)):=⟨o.1.below b,o.2.trans (b.mono o.2.size),pW t z⟩
 clear b B z t o c;have A:=FU g D;obtain⟨p,j⟩:∃p,Hid (l.setCells w.heap.size 0 (aA T)=p):=⟨_,rfl⟩
 have k:(aA T).length=33:=aB s;have x:Hid (Row p w.heap.size (aA T)/\kZ w p):=by rw[<-j.out];exact⟨r.1.put (by rw[k];rfl),RG.below_setCells (Uv _) _ _ _ r.2.1⟩
 obtain⟨y,m⟩:∃y,Hid (U2 (aA T).toArray=y):=⟨_,rfl⟩
 have q:Hid ((prog.info? 103).map (·.size)=some (aA T).length/\l.there w.heap.size 0 (aA T).toArray.size/\(prog.info? 103).map (·.size)=some (aA T).toArray.size):=by
  have e:(aA T).toArray.size=33:=by rw[VB];exact k
  refine⟨by rw[k];exact cV,by rw[e];exact r.1.2.2,by rw[e];exact cV⟩
 clear k;go_wp2_with (first|(refine U5 rfl 103 _ rfl g 0 ?_ (aA T) d ?_ ?_ ?_ ?_ ?_;rfl;exact r.2.2.2.1;exact a.1;exact a.2;exact q.1;rw[m.out])|(refine U1 rfl 103 _ _ rfl w.heap.size 0 (aA T).toArray ?_ ?_ ?_ ?_ ?_ ?_;rfl;exact m.symm;exact q.2.1;exact q.2.2;exact bW T;rw[show(aA T).toArray.toList=aA T from rfl,j.out]))
 refine UD (aG 0 103 rfl x.1 rfl uCP q.1) rfl ?_;exact⟨_,rfl,x.2,rfl⟩
end
section
section
variable {P:VC}{ops:Array Vj}{rest:List Vj}{op:Vj}{a:Act}{w w':Uq}{v:Us}{Q:Yo->Act->Uq->Prop}
theorem lJ(b:op.guard=none)(T:U7)(k:Array (Nat × XF))(ho:op.op=.build T k)(vs:Array (Nat × Us))(hx:(k.map λ(i,x)=>(i,a.eval x))=vs)(d:(Zg T vs).run P w=.ok v w')(h:wpList P ops Q rest (a.put op.dst v) w'):wpList P ops Q (op :: rest) a w:=
 Xf b λK c=>by
  unfold VS U4;simp only[ho,hx,UU,d,Vl,Wq];exact c _ _ h
theorem jC(b:op.guard=none)(T:U7)(n:Nat)(k:Array (Nat × XF))(ho:op.op=.buildSlice T n k)(vs:Array (Nat × Us))(hx:(k.map λ(i,x)=>(i,a.eval x))=vs)(d:(Vx T n vs).run P w=.ok v w')(h:wpList P ops Q rest (a.put op.dst v) w'):wpList P ops Q (op :: rest) a w:=
 Xf b λK c=>by
  unfold VS U4;simp only[ho,hx,UU,d,Vl,Wq];exact c _ _ h
end
theorem SQ{a:Bs}(k:a.size=33)(n:Nat)(w:Uq):(Zg 226 #[(0,nv n),(1,pvl a)]).run prog w=.ok (.agg (wn n++aA a).toArray) w:=by
 unfold pvl;rw[dF k];kernel_rfl
theorem SG{a:Bs}(k:a.size=33)(n:Nat)(w:Uq):(Vx 131 1 #[(0,.agg (wn n++aA a).toArray)]).run prog w=.ok (sZ w.heap.size 1 1) (w.alloc (.cells (wn n++aA a).toArray 226)):=by
 rw[dF k];kernel_rfl
theorem boxS(n:Nat)(w:Uq):(Vd 49 (nv n)).run prog w=.ok (jZ w.heap.size) (w.alloc (.cells (wn n).toArray 49)):=kR
theorem kU(a:Bs)(q:a.size=33)(n:Nat)(w:Uq):UG prog 64 #[pvl a,nv n] w (rZ w λe w'=>∃k,e=sZ k 1 1/\w.heap.size<=k/\Row w' k (wn n++aA a)):=by
 have H:=Hid.mk' (rM q w);obtain⟨c,i⟩:=hE (w.alloc (.cells (aA a).toArray 103));rw[i.out]at H;have z:c.heap.size=w.heap.size+1:=by rw[<-i.out,UA]
 have A:=Hid.mk' (boxS n c);obtain⟨b,f⟩:=hE (c.alloc (.cells (wn n).toArray 49));rw[f.out,z]at A;have G:b.heap.size=w.heap.size+2:=by rw[<-f.out,UA,z]
 have F:=Hid.mk' (SQ q n b);have y:=Hid.mk' (SG q n b);obtain⟨m,l⟩:=hE (b.alloc (.cells (wn n++aA a).toArray 226));rw[l.out,G]at y;have K:Hid (Row b w.heap.size (aA a)/\Row b (w.heap.size+1) (wn n)/\kZ w m/\Row m (w.heap.size+2) (wn n++aA a)):=by
  have j:Row c w.heap.size (aA a):=by rw[<-i.out];exact aE w _ _
  have o:Row b (w.heap.size+1) (wn n):=by rw[<-f.out,<-z];exact aE c _ _
  have r:Row m (w.heap.size+2) (wn n++aA a):=by rw[<-l.out,<-G];exact aE b _ _
  have b1:kZ w c:=by rw[<-i.out];exact aC w _
  have g:kZ c b:=by rw[<-f.out];exact aC c _
  have p:kZ b m:=by rw[<-l.out];exact aC b _
  exact⟨j.below g,o,(b1.trans (g.mono oM)).trans (p.mono oM),r⟩
 have I:Hid ((prog.info? 103).map (·.size)=some (aA a).length):=by show _=_;rw[aB q];exact cV
 obtain⟨d,t,C⟩:=Ux.1 uCP;obtain⟨x,s,r⟩:=Ux.1 u40;have p:Hid ((prog.underlying 103=some d/\d.isRow=true)/\prog.underlying 49=some x/\x.isRow=true):=⟨⟨t,C⟩,s,r⟩
 obtain⟨va,g⟩:=hE (pvl a);obtain⟨D,j⟩:=hE (nv n);obtain⟨E,o⟩:=hE (U2 (wn n++aA a).toArray);have B:Hid ((Vd 103 va).run prog w=.ok (jZ w.heap.size) c):=by rw[<-g.out];exact H
 rw[j.out]at A;rw[g.out,j.out,o.out]at F;rw[o.out]at y;rw[g.out,j.out];go_enter func64,ntmps64;go_wp2_with (first|(refine aF (u:=va) (v:=jZ w.heap.size) (w':=c) rfl 103 (.tmp 0) rfl ?_ ?_ ?_;rfl;exact B.out)|(refine aF (u:=D) (v:=.pointer (some ⟨w.heap.size+1,0,none⟩)) (w':=b) rfl 49 (.tmp 1) rfl ?_ ?_ ?_;rfl;exact A.out)|(refine U5 rfl 49 _ rfl (w.heap.size+1) 0 ?_ (wn n) x ?_ ?_ ?_ ?_ ?_;rfl;exact K.2.1.2.1;exact p.2.1;exact p.2.2;exact i40;rw[show U2 (wn n).toArray=D from j.out])|(refine U5 rfl 103 _ rfl w.heap.size 0 ?_ (aA a) d ?_ ?_ ?_ ?_ ?_;rfl;exact K.1.2.1;exact p.1.1;exact p.1.2;exact I.out;rw[show U2 (aA a).toArray=va from g.out])|(refine lJ (v:=E) (w':=b) rfl 226 _ rfl #[(0,D),(1,va)] ?_ ?_ ?_;kernel_rfl;exact F.out)|(refine jC (v:=.slice (some ⟨w.heap.size+2,0,none⟩) 1 1) (w':=m) rfl 131 1 _ rfl #[(0,E)] ?_ ?_ ?_;kernel_rfl;exact y.out))
 go_ret;exact⟨_,rfl,K.2.2.1,w.heap.size+2,rfl,oM,K.2.2.2⟩
end
section
variable {P:Nat}[NeZero P]{N:Nat}
theorem Uf{a:Bs}(k:a.size=33)(n:Nat)(w:Uq):(Vd 226 (.agg (wn n++aA a).toArray)).run prog w=.ok (jZ w.heap.size) (w.alloc (.cells (wn n++aA a).toArray 226)):=by
 rw[dF k];kernel_rfl
theorem Uh(w:Uq):(Zg 49 #[]).run prog w=.ok (nv 0) w:=kR
def tvl(n:Nat)(a:Bs):Us:=.agg (wn n++aA a).toArray
theorem kA{W:Uq}{k:Nat}{xs ys:List Us}(h:W.rangeAt k 0 (xs++ys)):W.rangeAt k 0 xs:=λj v b=>h j v (by rw[US (UE.1 b).1];exact b)
theorem lT{W:Uq}{k:Nat}{xs ys:List Us}(h:W.rangeAt k 0 (xs++ys)):W.rangeAt k xs.length ys:=λj v b=>by
 have:=h (xs.length+j) v (by rw[U0 (Y8 _ _),Nat.add_sub_cancel_left];exact b);rwa[UC]at this
theorem I1{n:Nat}(s:n<top){a:Bs}(t:a.size=33):Gives 205 #[tvl n a] (.bool (decide (n=0))):=by
 intro w;have j:=Hid.mk' (Uf t n w);obtain⟨k,e⟩:=hE (w.alloc (.cells (wn n++aA a).toArray 226));rw[e.out]at j;have K:Hid (Row k w.heap.size (wn n++aA a)/\kZ w k):=by rw[<-e.out];exact⟨aE w _ _,aC w _⟩
 obtain⟨r,g,f⟩:=Ux.1 u40;have m:=mk2 g f;obtain⟨va,d⟩:=hE (tvl n a);obtain⟨p,c⟩:=hE (nv n);obtain⟨v0,b⟩:=hE (nv 0);have l:Hid ((Vd 226 va).run prog w=.ok (jZ w.heap.size) k):=by rw[<-d.out];exact j
 have x:Hid ((Zg 49 #[]).run prog k=.ok v0 k):=by rw[<-b.out];exact Uh k
 have i:=Hid.mk' (eqS s (show 0<top by unfold top;omega) k);rw[c.out,b.out]at i;have q:=i.out;obtain⟨z,o⟩:=hE (decide (n=0));rw[o.out]at q;have y:(eqGuard .eql 49 (.tmp 4) (.tmp 5) p v0).run prog k=.ok () k:=by rw[<-c.out,<-b.out];kernel_rfl
 rw[d.out,o.out];clear j i;go_enter func205,ntmps205;go_wp2_with (first|(refine aF (u:=va) (v:=jZ w.heap.size) (w':=k) rfl 226 (.tmp 0) rfl ?_ ?_ ?_;rfl;exact l.out)|(refine U5 rfl 49 _ rfl w.heap.size 0 ?_ (wn n) r ?_ ?_ ?_ ?_ ?_;rfl;exact kA K.1.2.1;exact m.1;exact m.2;exact i40;rw[show U2 (wn n).toArray=p from c.out])|(refine lJ (v:=v0) (w':=k) rfl 49 _ rfl #[] ?_ ?_ ?_;kernel_rfl;exact x.out))
 go_wp2;go_ret;exact⟨_,rfl,K.2,rfl⟩
theorem uT:(prog.underlying 226).map (·.isRow)=some true:=kR
theorem iT:(prog.info? 226).map (·.size)=some 37:=kR
theorem atT(k o n c i:Nat)(b:i<n)(w:Uq):(Vk 131 (.slice (some ⟨k,o,none⟩) n c) (iZ i)).run prog w=.ok (.pointer (some ⟨k,o+37*i,none⟩)) w:=by
 go_simp
def kL(ns:Nat->Nat):Nat->Nat->Int
 | _,0=>-1
 | i,m+1=>if ns i=0 then(i:Int) else kL ns (i+1) m
def Oh(b:Bool):List It:=[.x 9 [] (.bool b)]
def Og(g k c i n:Nat)(a:Bs)(z:Bool):List It:=[.x 11 [] (.func (.func 205) #[] #[]),.x 12 [] (sZ g k c),.x 13 [] (iZ i),.x 14 [(12,1),(13,2)] (.pointer (some ⟨g,(0+37*i),none⟩)),.x 15 [(14,3)] (tvl n a),.c 16 [(11,0),(15,4)] (.bool z)]
theorem E0(g k c:Nat)(Y:k<=1000000)(ns:Nat->Nat)(D:Nat->Bs)(S:∀j,j<k->ns j<top)(U:∀j,j<k->(D j).size=33)(w:Uq)(N:g<w.heap.size)(T:∀j,j<k->w.rangeAt g (37*j) (wn (ns j)++aA (D j))):
 UG prog 230 #[sZ g k c,.func (.func 205) #[] #[]] w (rZ w λe w'=>e=iZ (kL ns 0 k)):=by
 obtain⟨R,hR⟩:∃R,kL ns 0 k=R:=⟨_,rfl⟩
 rw[hR];go_enter func230,ntmps230;refine RG.M.enter [(0,.v (sZ g k c)),(1,.v (.func (.func 205) #[] #[]))] 19 kR ?_;intro a0 Q;repeat refine Uy ?_
 refine Q.U [.x (iZ 0)] [0,1] ⟨st,yCl⟩ ?_;intro a1 X P;repeat refine Uy ?_
 refine P.U [.x (sZ g k c),.x (iZ k),.x (iZ 0)] [0,1,7,8] ⟨st,st,st,yCl⟩ ?_;intro a2 Z O;repeat refine Uy ?_
 refine XG ?_;refine Ze (λm a wr=>∃i:Nat,i+m=k/\kL ns i m=R/\RG.M w w.heap.size [] 19 [] [] [(0,.v (sZ g k c)),(1,.v (.func (.func 205) #[] #[])),(7,.v (iZ k)),(8,.v (iZ i))] a wr) k ⟨0,oM,hR,O⟩ ?_;intro E a wr;rintro⟨i,V,hf,u⟩;by_cases t:i<k
 ·obtain⟨n,y⟩:∃n,ns i=n:=⟨_,rfl⟩
  obtain⟨b,M⟩:∃b,D i=b:=⟨_,rfl⟩
  have x:=S i t;have r:=U i t;have s:=T i t;rw[y]at x s;rw[M]at r s;have q:w.rangeAt g (0+37*i) (wn n++aA b):=by rw[UC];exact s
  have p:(prog.info? 226).map (·.size)=some (wn n++aA b).length:=by rw[Uz,aB r];exact iT
  have A:=I1 x r;obtain⟨L,rfl⟩:∃L,E=L+1:=⟨E-1,oM⟩
  unfold kL at hf;rw[y]at hf;repeat refine Uy ?_
  refine u.u (Oh true) [(0,.v (sZ g k c)),(1,.v (.func (.func 205) #[] #[])),(7,.v (iZ k)),(8,.v (iZ i)),(9,.v (.bool true))] ⟨aQ rfl .lss 3 3 8 7 (iZ i) (iZ k) (.bool true) rfl rfl sx sx (λw=>kR) (gA t),yCl⟩ ?_;intro B G o;repeat refine Uy ?_
  refine VD o.ev ?_;refine WR ?_;refine Uy ?_;refine XG ?_;repeat refine Uy ?_
  refine o.U [.x (iZ i),.x (iZ i)] [0,1,7,8,5] ⟨st,st,yCl⟩ ?_;intro J I d;repeat refine Uy ?_
  by_cases z:n=0
  ·rw[decide_eq_true z]at A;rw[yCj z]at hf;refine d.u (Og g k c i n b true) [(0,.v (sZ g k c)),(1,.v (.func (.func 205) #[] #[])),(7,.v (iZ k)),(8,.v (iZ i)),(5,.v (iZ i)),(16,.v (.bool true))] ⟨st,st,st,bD rfl 131 12 13 rfl (.v (sZ g k c)) (iZ i) sx sx (λμ w=>atT _ 0 _ _ i t w),eH rfl g (0+37*i) N UX 226 14 rfl (wn n++aA b) rfl sx q uT p,clB (λ_ _=>kR) (λw' _=>A w'),yCl⟩ ?_;intro H F l;repeat refine Uy ?_
   refine VD l.ev ?_;repeat refine Uy ?_
   refine l.U [.x (iZ i),.x (iZ i)] [4] ⟨st,st,yCl⟩ ?_;intro C K f;refine We ?_;refine UD (v:=iZ i) (jA 4 rfl (iZ i) f.av) f.sl.defers ?_;exact⟨_,rfl,f.st.bel.below,by rw[hf]⟩
  ·rw[decide_eq_false z]at A;rw[yCk z]at hf;refine d.u (Og g k c i n b false) [(0,.v (sZ g k c)),(1,.v (.func (.func 205) #[] #[])),(7,.v (iZ k)),(8,.v (iZ i)),(16,.v (.bool false))] ⟨st,st,st,bD rfl 131 12 13 rfl (.v (sZ g k c)) (iZ i) sx sx (λμ w=>atT _ 0 _ _ i t w),eH rfl g (0+37*i) N UX 226 14 rfl (wn n++aA b) rfl sx q uT p,clB (λ_ _=>kR) (λw' _=>A w'),yCl⟩ ?_;intro H F l;repeat refine Uy ?_
   refine VH l.ev ?_;refine WR ?_;repeat refine Uy ?_
   refine l.U [.x (iZ ((i+1:Nat):Int)),.x (iZ ((i+1:Nat):Int))] [0,1,7,8] ⟨aP rfl .add 3 3 8 (iZ i) (iZ 1) (iZ ((i+1:Nat):Int)) rfl rfl sx (λw=>kR) (uQ i 1 oM oM),st,yCl⟩ ?_;intro C K f;show ∃W,_;exact⟨L,oM,i+1,oM,hf,f⟩
 ·have f:E=0:=oM;rw[f]at hf;unfold kL at hf;repeat refine Uy ?_
  refine u.u (Oh false) [(9,.v (.bool false))] ⟨aQ rfl .lss 3 3 8 7 (iZ i) (iZ k) (.bool false) rfl rfl sx sx (λw=>kR) (nH t),yCl⟩ ?_;intro B G o;repeat refine Uy ?_
  refine VH o.ev ?_;refine wp_exit ?_;dsimp only[Exit.then,Yu];rw[yCj rfl];repeat refine Uy ?_
  refine o.U [.x (iZ (-1))] [4] ⟨st,yCl⟩ ?_;intro J I d;refine We ?_;refine UD (v:=iZ (-1)) (jA 4 rfl (iZ (-1)) d.av) d.sl.defers ?_;exact⟨_,rfl,d.st.bel.below,by rw[<-hf]⟩
theorem uE{ns:Nat->Nat}:∀(m i:Nat),(∀j,i<=j->j<i+m->ns j≠0)->kL ns i m = -1
 | 0,_,_=>rfl
 | m+1,i,h=>by
  unfold kL;rw[yCk (h i (Uv _) oM)];exact uE m (i+1) (λj b k=>h j oM oM)
theorem Cw(g k c:Nat)(s:k<=1000000)(ns:Nat->Nat)(b:Nat->Bs)(t:∀j,j<k->ns j<top)(d:∀j,j<k->ns j≠0)(x:∀j,j<k->(b j).size=33)(w:Uq)(m:g<w.heap.size)(u:∀j,j<k->w.rangeAt g (37*j) (wn (ns j)++aA (b j))):
 UG prog 204 #[sZ g k c,.func (.func 205) #[] #[]] w (rZ w λe w'=>e=(sZ g k c)):=by
 have r:∀w',BelX w.heap.size [] w w'->UG prog 230 #[sZ g k c,.func (.func 205) #[] #[]] w' (Ret λe i=>kZ w' i/\e=iZ (-1)):=λw' l=>by
  have h:=E0 g k c s ns b t x w' (Uw m l.below.size) (λj f=>RG.range_below (u j f) l.below m);rw[uE k 0 (λj _ n=>d j oM)]at h;exact h
 go_enter func204,ntmps204;refine RG.M.enter [(0,.v (sZ g k c)),(1,.v (.func (.func 205) #[] #[]))] 42 kR ?_;intro a0 q;repeat refine Uy ?_
 refine q.U [.x (.slice none 0 0)] [0,1] ⟨st,yCl⟩ ?_;intro D z p;repeat refine Uy ?_
 refine p.U [.x (sZ g k c),.x (.func (.func 205) #[] #[]),.c (iZ (-1)),.x (iZ (-1))] [0,5] ⟨st,st,clB (λ_ _=>kR) r,st,yCl⟩ ?_;intro a2 B o;repeat refine Uy ?_
 refine o.U [.x (iZ (-1)),.x (.bool true)] [0,12] ⟨st,st,yCl⟩ ?_;intro y a n;repeat refine Uy ?_
 refine VD n.ev ?_;repeat refine Uy ?_
 refine n.U [.x (sZ g k c),.x (sZ g k c)] [4] ⟨st,st,yCl⟩ ?_;intro C A f;refine We ?_;refine UD (v:=(sZ g k c)) (jA 4 rfl _ f.av) f.sl.defers ?_;exact⟨_,rfl,f.st.bel.below,rfl⟩
theorem Qy:prog.underlying 278=some (.map 103 3):=kR
theorem zero3(w:Uq):(zeroValue 3).run prog w=.ok (iZ 0) w:=kR
theorem Af(b:Bs):∀(D:List Bs) (i:Nat),ents (D++[b]) i=ents D i++[{ key:=.agg (aA b).toArray,val:=iZ ((i+D.length:Nat):Int),born:=i+D.length }]
 | [],i=>rfl
 | k :: r,i=>by
  rw[WY];unfold ents;rw[Af b r (i+1),Vh,show i+1+r.length=i+(r.length+1) by omega];rfl
theorem Cj{b:Bs}(d:b.size=33)(D:List Bs)(i:∀k∈D,k.size=33)(m c:Nat)(w:Uq)(n:w.heap[m]? = some (.map (ents D 0).toArray c)):
 (yAh 278 (.map (some m)) (.agg (aA b).toArray) true).run prog w=.ok (.tuple #[iZ (((at? b D 0).getD 0:Nat):Int),.bool (at? b D 0).isSome]) w:=by
 have o:=XX Qy w;have f:=λe=>FB d e w
 have l:=EZ d D i w;have g:(getObj m).run prog w=.ok (.map (ents D 0).toArray c) w:=by
  simp[getObj,yBO,n]
 unfold yAh;simp only[UU,o,Vl,g,Wq,f,l];cases h:at? b D 0 with
 | none=>simp[UU,zero3]
 | some j=>simp
theorem Ld{b:Bs}(c:b.size=33)(D:List Bs)(l:∀k∈D,k.size=33)(m:Nat)(w:Uq)(f:w.heap[m]? = some (.map (ents D 0).toArray D.length))(g:at? b D 0=none):
 (Y2 278 (.map (some m)) (.agg (aA b).toArray) (iZ (D.length:Int))).run prog w=.ok () (w.putObj m (.map (ents (D++[b]) 0).toArray (D.length+1))):=by
 have n:=XX Qy w;have i:=λe=>FB c e w
 have d:=EZ c D l w;rw[g]at d;have j:(getObj m).run prog w=.ok (.map (ents D 0).toArray D.length) w:=by
  simp[getObj,yBO,f]
 unfold Y2;simp only[UU,n,Vl,j,Wq,i,d];rw[Af,UC];simp[setObj,yBO,f,yAe]
theorem C3:prog.underlying 131=some (.slice 226):=kR
theorem RO:(prog.info? 226).map (λi=>(i.size,i.bytes,i.zero.map λz=>z.cells.size))=some (37,72,some 37):=kR
theorem cells_one(n:Nat)(a:Bs):∀u∈wn n++aA a,u.oneCell'=true:=by
 intro u k;rcases Wy.1 k with h|h
 ·unfold wn at h;simp only[VW,UX,or_false]at h;rcases h with rfl|rfl|rfl|rfl<;>rfl
 ·obtain⟨x,-,rfl⟩:=Vm.1 h;rfl
theorem Kb{b k g n:Nat}{v:Us}{xs:List Us}{a:Bs}(q:a.size=33){W:Uq}(c:W.ownsRow b 226 37 v k xs)(hR:Row W g (wn n++aA a))(B:k<=1000000)(m:b<=W.heap.size):
 ∃d W',(Vr #[131,131] 131 #[v,sZ g 1 1]).run prog W=.ok d W'/\W'.ownsRow b 226 37 d (k+1) (xs++(wn n++aA a))/\W.grownBy W' v.ownBlock:=by
 obtain⟨i,w,f⟩:=Ux.1 RO;simp only[V5.injEq]at f;obtain⟨y,p,r⟩:=f;obtain⟨z,s,e⟩:=Ux.1 r;obtain⟨d,W',l,t,x,-⟩:=Y1 (P:=prog) W b 131 131 226 i z 37 72 C3 w s y p e dC v k xs c (aZ g) 1 1 (wn n++aA a) (by rw[Uz,aB q];rfl)
  (λj u o=>by
   have:=hR.2.1 j u o;rw[UC]at this;rw[show(⟨g,0,none⟩:Wt).add j=⟨g,j,none⟩ by unfold Zi;split<;>simp_all];exact this) (cells_one n a) (by unfold maxLen;omega) oM m
 exact⟨d,W',l,t,x⟩
def fA(N:Nat):List (Nat × Bs)->Nat->Bs->List (Nat × Bs)
 | [],n,p=>[(n,p)]
 | (s,q) :: r,n,p=>if p=q then(sPl N s n,q) :: r else(s,q) :: fA N r n p
def mrg(N:Nat)(ns:Nat->Nat)(k:Nat->Bs):Nat->List (Nat × Bs)
 | 0=>[]
 | i+1=>fA N (mrg N ns k i) (ns i) (k i)
def aU(l:List (Nat × Bs)):List Us:=l.flatMap λx=>wn x.1++aA x.2
theorem CP{N n:Nat}{p:Bs}:∀ {l:List (Nat × Bs)},at? p (l.map (·.2)) 0=none->fA N l n p=l++[(n,p)]
 | [],_=>rfl
 | (s,q) :: r,h=>by
  have k:=at?_none.1 h;rw[XU,VW,not_or]at k;unfold fA;rw[yCk k.1,CP (l:=r) (at?_none.2 k.2)];rfl
theorem CG(l:List (Nat × Bs))(n:Nat)(p:Bs):aU (l++[(n,p)])=aU l++(wn n++aA p):=by
 unfold aU;rw[Zq];simp
structure Mx(w W:Uq)(m:Nat)(l:List (Nat × Bs))(v:Us):Prop where
 bl:kZ w W
 mp:W.heap[m]? = some (.map (ents (l.map (·.2)) 0).toArray l.length)
 lm:w.heap.size<=m
 ow:W.ownsRow w.heap.size 226 37 v l.length (aU l)
theorem Mx.own_ne{w W:Uq}{m:Nat}{l:List (Nat × Bs)}{v:Us}(h:Mx w W m l v){g:Nat}(b:v.ownBlock=some g):g≠m/\w.heap.size<=g/\g<W.heap.size:=by
 rcases h.ow.2 with⟨rfl,-⟩|⟨c,cap,cur,rfl,d,k,-⟩
 ·cases b
 ·obtain rfl:c=g:=by simpa[Value.ownBlock]using b
  refine⟨λe=>?_,d,(UY.1 k).1⟩;have:=h.mp;rw[<-e,k]at this;cases this
theorem sJ{W W':Uq}{b k:Nat}{e:U7}{s:Nat}{v:Us}{xs:List Us}(h:W.ownsRow b e s v k xs)(f:∀g,v.ownBlock=some g->W'.heap[g]? = W.heap[g]?):W'.ownsRow b e s v k xs:=by
 refine⟨h.1,?_⟩;rcases h.2 with c|⟨g,cap,cur,rfl,i,c,d⟩
 ·exact U3 c
 ·exact UW ⟨g,cap,cur,rfl,i,by rw[f g rfl];exact c,d⟩
theorem Mx.kept{w W W':Uq}{m:Nat}{l:List (Nat × Bs)}{v:Us}(h:Mx w W m l v)(k:kZ W W'):Mx w W' m l v:=
 ⟨h.bl.trans (k.mono h.bl.size),by rw[k.block m (UY.1 h.mp).1];exact h.mp,h.lm,sJ h.ow λg b=>k.block g (h.own_ne b).2.2⟩
theorem JD(l:List (Nat × Bs))(n:Nat)(p:Bs):(l++[(n,p)]).map (·.2)=l.map (·.2)++[p]:=by simp
theorem Mx.push{w W:Uq}{m:Nat}{l:List (Nat × Bs)}{v:Us}(h:Mx w W m l v){p:Bs}(D:p.size=33)(A:l.length<=1000000)(n:Nat):
 ∃o b,(Vr #[131,131] 131 #[v,sZ W.heap.size 1 1]).run prog ((W.putObj m (.map (ents (l.map (·.2)++[p]) 0).toArray (l.length+1))).alloc (.cells (wn n++aA p).toArray 226))=.ok o b/\Mx w b m (l++[(n,p)]) o/\W.heap.size<b.heap.size/\∀j,j<W.heap.size->w.heap.size<=j->j≠m->some j≠v.ownBlock->b.heap[j]? = W.heap[j]?:=by
 obtain⟨c,d⟩:∃c,W.putObj m (.map (ents (l.map (·.2)++[p]) 0).toArray (l.length+1))=c:=⟨_,rfl⟩
 have s3:c.heap.size=W.heap.size:=by rw[<-d];simp[yAe]
 have r:=(UY.1 h.mp).1;have s:∀j,j≠m->c.heap[j]? = W.heap[j]?:=λj t=>by rw[<-d];exact World.putObj_heap_other t
 have i:=h.bl.trans ⟨by rw[<-d];rfl,by rw[<-d];rfl,by rw[<-d];rfl,oM,λj t=>s j (by have:=h.lm;omega)⟩;have B:=sJ h.ow λg u=>s g (h.own_ne u).1
 have F:c.heap[m]? = some (.map (ents (l.map (·.2)++[p]) 0).toArray (l.length+1)):=by rw[<-d];exact World.putObj_heap_same r
 rw[d];have R4:=aE c (wn n++aA p) 226;have f:=aC c (.cells (wn n++aA p).toArray 226);have s4:(c.alloc (.cells (wn n++aA p).toArray 226)).heap.size=W.heap.size+1:=by rw[UA,s3]
 have C:=sJ B λg u=>f.block g (by have:=(h.own_ne u).2.2;omega)
 rw[s3]at R4;obtain⟨o,b,a,E,q⟩:=Kb D C R4 A (by have:=i.size;omega);have z:some m≠v.ownBlock:=λe=>(h.own_ne e.symm).1 rfl
 refine⟨o,b,a,⟨?_,?_,h.lm,?_⟩,by have:=q.size;omega,λj t _ y x=>?_⟩
 ·exact(i.trans (f.mono i.size)).grown q (by have:=i.size;omega) (λk e=>(h.own_ne e).2.1)
 ·rw[q.block m oM z,f.block m oM,F,JD,Uz];rfl
 ·rw[CG,Uz];exact E
 ·rw[q.block j oM x,f.block j oM,s j y]
end
section
variable {N:Nat}
section
variable {P:VC}{ops:Array Vj}{rest:List Vj}{op:Vj}{a:Act}{w w':Uq}{v x y z:Us}{Q:Yo->Act->Uq->Prop}
theorem zA(b:op.guard=none)(T:U7)(m k:XF)(ok:Bool)(ho:op.op=.lookup T m k ok)(f:a.eval m=x)(d:a.eval k=y)(e:(yAh T x y ok).run P w=.ok v w')(h:wpList P ops Q rest (a.put op.dst v) w'):wpList P ops Q (op :: rest) a w:=
 Xf b λK c=>by
  unfold VS U4;simp only[ho,f,d,UU,e,Vl,Wq];exact c _ _ h
theorem Gi(b:op.guard=none)(T:U7)(m k u:XF)(ho:op.op=.mapUpdate T m k u)(g:a.eval m=x)(e:a.eval k=y)(c:a.eval u=z)(f:(Y2 T x y z).run P w=.ok () w')(h:wpList P ops Q rest (a.put op.dst WO) w'):wpList P ops Q (op :: rest) a w:=
 Xf b λK d=>by
  unfold VS U4;simp only[ho,g,e,c,UU,f,Vl,Wq];exact d _ _ h
theorem lK(k:op.guard=none)(s u:XF)(t:U7)(ho:op.op=.call { callee:=.builtin .append,args:=#[s,u],argTypes:=#[t,t] })(e:a.eval s=x)(b:a.eval u=y)(d:(Vr #[t,t] op.type #[x,y]).run P w=.ok v w')(h:wpList P ops Q rest (a.put op.dst v) w'):wpList P ops Q (op :: rest) a w:=
 Xf k λK c=>by
  unfold VS U4;simp only[ho,resolve,invoke,builtin,UU,Wq,Vl,yA1,XU,yBD,e,b,d];exact c _ _ h
end
def zT:List Us:=[uZ 0,uZ 0,uZ 0,uZ 0]++z33
theorem GA{W:Uq}{b k:Nat}{e:U7}{s:Nat}{v:Us}{xs:List Us}(h:W.ownsRow b e s v k xs):∃q cap,v=.slice q k cap:=by
 rcases h.2 with⟨rfl,rfl⟩|⟨g,cap,cur,rfl,-⟩
 ·exact⟨none,0,rfl⟩
 ·exact⟨some (aZ g),cap,rfl⟩
theorem AV(ns:Nat->Nat)(k:Nat->Bs):∀i,(mrg N ns k i).length<=i
 | 0=>Uv _
 | i+1=>by
  have b:=AV ns k i;have h:∀(l:List (Nat × Bs)) n p,(fA N l n p).length<=l.length+1:=by
   intro l n p;induction l with
   | nil=>exact Uv _
   | cons x r ihr =>
    unfold fA;split
    ·simp
    ·simp only[Vh];omega
  exact UB (h _ _ _) oM
theorem xF(ns:Nat->Nat)(c:Nat->Bs){k:Nat}(d:∀j,j<k->(c j).size=33):∀i,i<=k->∀x∈(mrg N ns c i).map (·.2),x.size=33
 | 0,_=>λx hx=>by cases hx
 | i+1,hi=>by
  have f:=xF ns c d i oM;have h:∀(l:List (Nat × Bs)) n p,p.size=33->(∀x∈l.map (·.2),x.size=33)->∀x∈(fA N l n p).map (·.2),x.size=33:=by
   intro l n p g;induction l with
   | nil=>intro _ x hx;simp[fA]at hx;rw[hx];exact g
   | cons y r ihr =>
    intro b x hx;unfold fA at hx;split at hx
    ·exact b x (by simpa using hx)
    ·rw[XU,VW]at hx;rcases hx with hx|hx
     ·exact b x (by rw[hx];simp)
     ·exact ihr (λz e=>b z (Va _ e)) x hx
  exact h _ _ _ (d i oM) f
theorem lD:∀(l:List (Nat × Bs)),(∀x∈l.map (·.2),x.size=33)->∀(j:Nat) (k:j<l.length) (t:Nat),t<37->(aU l)[37*j+t]? = (wn (l[j]).1++aA (l[j]).2)[t]?
 | [],_,j,k,_,_=>by cases k
 | x :: r,hs,j,k,t,ht=>by
  have hx:(wn x.1++aA x.2).length=37:=by rw[Uz,aB (hs x.2 (by simp))];rfl
  have e:aU (x :: r)=(wn x.1++aA x.2)++aU r:=by unfold aU;rw[Zy]
  rw[e];cases j with
  | zero =>
   rw[ZP,UC,US oM];rfl
  | succ j =>
   rw[U0 oM,hx,show 37*(j+1)+t-37=37*j+t by omega,lD r (λy b=>hs y (Va _ b)) j (by simpa using k) t ht];rfl
theorem sH{W:Uq}{k:Nat}{v:Us}{l:List (Nat × Bs)}(h:W.ownsRow k 226 37 v l.length (aU l))(c:∀x∈l.map (·.2),x.size=33)(p:0<l.length):
 ∃g cap,v=sZ g l.length cap/\k<=g/\g<W.heap.size/\∀j (b:j<l.length),W.rangeAt g (37*j) (wn (l[j]).1++aA (l[j]).2):=by
 have m:=h;rcases h.2 with⟨-,d⟩|⟨g,cap,cur,rfl,o,d,q⟩
 ·omega
 ·refine⟨g,cap,rfl,o,(UY.1 d).1,λj b t u f=>?_⟩;have n:t<37:=by
   have:=(UE.1 f).1;rw[Uz,aB (c _ (Vm.2 ⟨_,VG b,rfl⟩))]at this;exact this
  have i:=m.cells (g:=g) rfl (37*j+t) u (by rw[lD l c j b t n];exact f);have e:(⟨g,0,none⟩:Wt).add (37*j+t)=⟨g,37*j+t,none⟩:=by
   unfold Zi;split
   ·rename_i h;rw[h]
   ·simp
  rw[e]at i;exact i
end
section
variable {P:Nat}[NeZero P]{N:Nat}
theorem Oj(w:Uq):(zeroValue 226).run prog w=.ok (.agg zT.toArray) w:=kR
theorem Ol:∀v∈zT,v.oneCell'=true:=by
 intro v hv;unfold zT z33 at hv;rcases Wy.1 hv with h|h
 ·simp only[VW,UX,or_false]at h;rcases h with rfl|rfl|rfl|rfl<;>rfl
 ·rw[(List.mem_replicate.1 h).2];rfl
end
namespace RG
variable {P:VC}{ops:Array Vj}{Q:Yo->Act->Uq->Prop}{w:Uq}{a0:Act}{L:Array Bool}
structure Flow where
 R:Nat->Us->Uq->Prop
 B:Nat->Uq->Prop
 E:Nat->Uq->Uq->Prop
 kill:Nat->List Nat
 killB:Nat->List Nat
def aX(k:Array Vj)(i:Nat):Option WB:=(k[i]?).bind (·.dst)
def depOn(b:Array Vj)(x k:Nat):Bool:=match b[x]? with|some o=>dB o k|none=>true
def okK(b:Array Vj)(k:Nat)(l:List Nat):Bool:=l.all (λx=>x == k || depOn b x k)
def oY(b:Array Vj)(k:Nat)(t:WB):Bool:=(VF b.size).all (λi=>aX b i != some t || i == k || depOn b i k)
structure InvF(F:Flow)(ops:Array Vj)(a0:Act)(L:Array Bool)(a:Act)(w:Uq):Prop where
 size:L.size=ops.size
 cl:∀(i:Nat) (o:Vj),ops[i]? = some o->on L i=true->∀e∈o.after,VO .any e=true->on L e.on=true
 def':a.defers=a0.defers
 sz:a.tmps.size=a0.tmps.size
 rest:∀t:WB,(∀i,on L i=true->aX ops i≠some t)->a.tmps[t]? = a0.tmps[t]?
 all:∃V:Nat->Us,(∀i d,on L i=true->aX ops i=some d->a.tmps[d]? = some (V i))/\(∀i,on L i=true->(∀x∈F.kill i,on L x=false)->F.R i (V i) w)
 base:∀b,(∀x∈F.killB b,on L x=false)->F.B b w
def bF(P:VC)(Q:Yo->Act->Uq->Prop)(F:Flow)(c:Array Vj)(a0:Act)(k:Nat)(o:Vj):Prop:=
 ∀(a:Act) (w:Uq) (K:Act->Uq->Prop),
  (∀j d,dB o j=true->okK c k (F.kill j)=true->aX c j=some d->F.R j (a.eval (.tmp d)) w) ->
  (∀t,oY c k t=true->a.eval (.tmp t)=a0.eval (.tmp t)) ->
  (∀b,okK c k (F.killB b)=true->F.B b w) ->
  (∀v w',F.E k w w'->F.R k v w'->K (a.put o.dst v) w')->o.wp P a w K Q
def Aq(P:VC)(Q:Yo->Act->Uq->Prop)(F:Flow)(b:Array Vj)(a0:Act)(k:Nat)(o:Vj):Prop:=
 match o.guard with
 | none=>bF P Q F b a0 k o
 | some (j,want)=>dB o j=true/\(aX b j).isSome=true/\okK b k (F.kill j)=true /\
  (((∀v w,F.R j v w->v=.bool want)/\bF P Q F b a0 k o)\/((∀v w,F.R j v w->v=.bool (!want))/\∀w,F.E k w w/\F.R k WO w))
def Be(k:Array Vj)(n:Nat):Bool:=
 (VF k.size).all (λi=>match k[i]? with
  | some o=>o.after.all (λe=>!VO .any e || e.on<i) && (match o.dst with|none=>true|some d=>decide (d<n) && (VF k.size).all (λj=>j == i || aX k j != some d))
  | none=>false)
structure RegF(P:VC)(Q:Yo->Act->Uq->Prop)(F:Flow)(ops:Array Vj)(a0:Act)(m:Nat):Prop where
 chk:Be ops a0.tmps.size=true
 cert:∀k o,k<m->ops[k]? = some o->Aq P Q F ops a0 k o
 stab:∀i j,i<m->j<m->i≠j->(F.kill j).contains i=false->depOn ops j i=false->∀v w w',F.E i w w'->F.R j v w->F.R j v w'
 stabB:∀i b,i<m->(F.killB b).contains i=false->∀w w',F.E i w w'->F.B b w->F.B b w'
variable {F:Flow}{m:Nat}
theorem RegF.of{k:Nat}{o:Vj}(h:RegF P Q F ops a0 m)(ho:ops[k]? = some o):(∀e∈o.after,VO .any e=true->e.on<k)/\∀d,o.dst=some d->d<a0.tmps.size/\∀j,aX ops j=some d->j=k:=by
 have l:=(UY.1 ho).1;have g:=U9.1 h.chk k (VZ.2 l);rw[ho]at g;simp only[UK]at g;obtain⟨i,c⟩:=g;refine⟨λe p n=>?_,λd hd=>?_⟩
 ·have:=WW.1 i e p;simpa[n]using this
 ·rw[hd]at c;simp only[UK,decide_eq_true_eq]at c;refine⟨c.1,λj b=>?_⟩;have f:j<ops.size:=by
   unfold aX at b;cases hx:ops[j]? with
   | none=>rw[hx]at b;cases b
   | some x=>exact(UY.1 hx).1
  have:=U9.1 c.2 j (VZ.2 f);simpa[b]using this
theorem eX{i:Nat}{o:Vj}(ho:ops[i]? = some o):aX ops i=o.dst:=by unfold aX;rw[ho];rfl
theorem Ba{a:Act}{x k:Nat}{o:Vj}(h:InvF F ops a0 L a w){ho:ops[x]? = some o}(hd:dB o k=true)(hx:on L x=true):on L k=true:=by
 obtain⟨e,c,b⟩:=XN.1 hd;simp only[UK,beq_iff_eq]at b;rw[<-b.2];exact h.cl x o ho hx e c b.1
theorem zV{L:Array Bool}{x:Nat}(h:on L x=true):x<L.size:=by
 rcases Wp x L.size with k|k
 ·exact k
 ·unfold on at h;rw[UH,Array.getElem?_eq_none k]at h;cases h
theorem InvF.nt{k:Nat}{a:Act}(d:on L k=false)(h:InvF F ops a0 L a w)(x:Nat)(hx:(x == k || depOn ops x k)=true):on L x=false:=by
 cases b:on L x with
 | false=>rfl
 | true =>
  rcases Xu _ _ ▸ hx with e|e
  ·rw[show x=k by simpa using e,d]at b;cases b
  ·unfold depOn at e;have f:x<ops.size:=by rw[<-h.size];exact zV b
   have c:=UZ f;rw[c]at e;have:=Ba (ho:=c) h e b;rw[d]at this;cases this
theorem InvF.nx{k:Nat}{o:Vj}{a:Act}{v:Us}{w':Uq}(R:RegF P Q F ops a0 m)(y:k<m)(K:∀i,on L i=true->i<m)(ho:ops[k]? = some o)(I:on L k=false)(s:∀e∈o.after,VO .any e=true->on L e.on=true)(h:InvF F ops a0 L a w)(hE:F.E k w w')(hR:F.R k v w'):InvF F ops a0 (L.setIfInBounds k true) (a.put o.dst v) w':=by
 obtain⟨E,n⟩:=R.of ho;have C:=(UY.1 ho).1;have G:k<L.size:=by rw[h.size];exact C
 have z:=eX ho;have u:=λx hx=>h.nt I x hx
 obtain⟨V,J,D⟩:=h.all;have f:∀x,on (L.setIfInBounds k true) x=(on L x || k == x):=λx=>eC G
 refine⟨by rw[VE];exact h.size,λi O p j e M q=>?_,?_,?_,λt N=>?_,⟨λx=>if x=k then v else V x,λi d j hd=>?_,λi j r=>?_⟩,λb q=>?_⟩
 ·rw[f]at j⊢;by_cases c:k=i
  ·subst c;rw[ho]at p;obtain rfl:=UN.inj p;rw[s e M q,X9]
  ·rw[h.cl i O p (by simpa[c]using j) e M q,X9]
 ·rw[<-h.def'];cases o.dst<;>rfl
 ·rw[qS];exact h.sz
 ·have B:o.dst≠some t:=λhd=>N k (by rw[f];simp) (by rw[z];exact hd)
  rw[nW a v B];exact h.rest t λi j=>N i (by rw[f,j,X9])
 ·rw[f]at j;by_cases c:i=k
  ·subst c;rw[z]at hd;rw[hd];show(a.tmps.setIfInBounds d v)[d]? = some (if i=i then v else V i);rw[yCj (rfl:i=i)];rw[WA,yCj rfl,yCj (by rw[h.sz];exact(n d hd).1)]
  ·have l:o.dst≠some d:=λA=>c ((n d A).2 i hd)
   rw[nW a v l];show _=some (if i=k then v else V i);rw[yCk c];have g:¬k=i:=λe=>c e.symm
   exact J i d (by simpa[g]using j) hd
 ·rw[f]at j;by_cases c:i=k
  ·subst c;show F.R i (if i=i then v else V i) w';rw[yCj rfl];exact hR
  ·show F.R i (if i=k then v else V i) w';rw[yCk c];have g:¬k=i:=λe=>c e.symm
   have l:on L i=true:=by simpa[g]using j
   have B:∀x∈F.kill i,on L x=false:=λx hx=>by
    have:=r x hx;rw[f,yAt]at this;exact this.1
   have H:(F.kill i).contains k=false:=by
    cases A:(F.kill i).contains k with
    | false=>rfl
    | true =>
     have:=r k (by simpa using A);rw[f]at this;simp at this
   have S:depOn ops i k=false:=by
    cases A:depOn ops i k with
    | false=>rfl
    | true=>rw[u i (by rw[A,Bool.or_true])]at l;cases l
   exact R.stab k i y (K i l) (YB c) H S _ _ _ hE (D i l B)
 ·have B:∀x∈F.killB b,on L x=false:=λx hx=>by
   have:=q x hx;rw[f,yAt]at this;exact this.1
  have H:(F.killB b).contains k=false:=by
   cases A:(F.killB b).contains k with
   | false=>rfl
   | true =>
    have:=q k (by simpa using A);rw[f]at this;simp at this
  exact R.stabB k b y H _ _ hE (h.base b B)
theorem Ex{k:Nat}{o:Vj}{a:Act}(R:RegF P Q F ops a0 m)(B:k<m)(T:∀i,on L i=true->i<m)(ho:ops[k]? = some o)(A:on L k=false)(r:∀e∈o.after,VO .any e=true->on L e.on=true)(h:InvF F ops a0 L a w):
 wpOp P ops Q k (InvF F ops a0 (L.setIfInBounds k true)) a w:=by
 obtain⟨N,W⟩:=R.of ho;have H:=(UY.1 ho).1;have Y:k<L.size:=by rw[h.size];exact H
 have Z:=eX ho;have p:=λx hx=>h.nt A x hx
 obtain⟨V,O,M⟩:=h.all;have u:∀j d,dB o j=true->okK ops k (F.kill j)=true->aX ops j=some d->a.tmps[d]? = some (V j)/\F.R j (V j) w:=λj d E q hd=>by
  obtain⟨e,f,s⟩:=XN.1 E;simp only[UK,beq_iff_eq]at s;have c:on L j=true:=by rw[<-s.2];exact r e f s.1
  exact⟨O j d c hd,M j c λx hx=>p x (U9.1 q x hx)⟩
 have l:∀j d,dB o j=true->okK ops k (F.kill j)=true->aX ops j=some d->F.R j (a.eval (.tmp d)) w:=λj d E q hd=>by
  rw[A7 (u j d E q hd).1];exact(u j d E q hd).2
 have n:∀t,oY ops k t=true->a.eval (.tmp t)=a0.eval (.tmp t):=λt hf=>by
  have y:=h.rest t λi f hd=>by
   have c:i<ops.size:=by rw[<-h.size];exact zV f
   have g:=U9.1 hf i (VZ.2 c);rw[hd]at g;have z:(i == k || depOn ops i k)=true:=by simpa using g
   rw[p i z]at f;cases f
  show a.tmps.getD t WO=a0.tmps.getD t WO;rw[UH,UH,y]
 have g:∀b,okK ops k (F.killB b)=true->F.B b w:=λb s=>h.base b λx hx=>p x (U9.1 s x hx)
 have f:=λv w' hE hR=>h.nx (v:=v) (w':=w') R B T ho A r hE hR
 have D:=R.cert k o B ho;unfold Aq at D;unfold wpOp;rw[ho];dsimp only;cases G:o.guard with
 | none =>
  rw[G]at D;rw[BA G,yCj rfl];left;exact D a w _ l n g f
 | some jw =>
  obtain⟨j,c⟩:=jw;rw[G]at D;obtain⟨K,S,I,y⟩:=D;obtain⟨d,hd⟩:=Vq.1 S;obtain⟨X,C⟩:=u j d K I hd;have U:∀b,V j=.bool b->V1 o (yielded ops a.tmps)=(b == c):=λb s=>by
   have J:yielded ops a.tmps j=some b:=by
    unfold aX at hd;unfold yielded;cases z:ops[j]? with
    | none=>rw[z]at hd;cases hd
    | some oj =>
     rw[z]at hd;show(match oj.dst.bind (a.tmps[·]?) with|some (.bool b)=>some b|_=>none)=_;rw[show oj.dst=some d from hd];show(match a.tmps[d]? with|some (.bool b)=>some b|_=>none)=_;rw[X,s]
   unfold V1;rw[G];show(yielded ops a.tmps j == some c)=_;rw[J];cases b<;>cases c<;>rfl
  rcases y with⟨J,hc⟩|⟨J,z⟩
  ·rw[U _ (J _ _ C),show(c == c)=true by cases c<;>rfl,yCj rfl];left;exact hc a w _ l n g f
  ·rw[U _ (J _ _ C),show((!c) == c)=false by cases c<;>rfl];exact f WO w (z w).1 (z w).2
def bU(V:Nat->Us):List Vj->Nat->Act->Act
 | [],_,a=>a
 | o :: r,i,a=>bU V r (i+1) (a.put o.dst (V i))
theorem nF(V:Nat->Us):∀(l:List Vj) (i:Nat) (a:Act),(bU V l i a).defers=a.defers
 | [],_,_=>rfl
 | o :: r,i,a=>by
  rw[bU,nF V r];cases o.dst<;>rfl
theorem lY(V:Nat->Us):∀(l:List Vj) (i:Nat) (a:Act) (t:WB),(∀o∈l,o.dst≠some t)->(bU V l i a).tmps[t]? = a.tmps[t]?
 | [],_,_,_,_=>rfl
 | o :: r,i,a,t,h=>by
  rw[bU,lY V r _ _ t (λx hx=>h x (Va _ hx)),nW a _ (h o Vt)]
theorem rX(V:Nat->Us):∀(l:List Vj) (i:Nat) (a:Act) (j:Nat) (o:Vj) (d:WB),l[j]? = some o->o.dst=some d->(∀k b,l[k]? = some b->b.dst=some d->k=j)->d<a.tmps.size->(bU V l i a).tmps[d]? = some (V (i+j))
 | [],_,_,_,_,_,h,_,_,_=>by simp at h
 | x :: r,i,a,0,o,d,h,hd,hu,hs=>by
  obtain rfl:x=o:=by simpa using h
  rw[bU,lY V r _ _ d (λy f c=>by
   obtain⟨k,e⟩:=WI f;have:=hu (k+1) y (by simpa using e) c;omega),hd]
  show(a.tmps.setIfInBounds d _)[d]? = _;rw[WA,yCj rfl,yCj hs];rfl
 | x :: r,i,a,j+1,o,d,h,hd,hu,hs=>by
  rw[bU,rX V r (i+1) _ j o d (by simpa using h) hd (λk b e c=>by
   have:=hu (k+1) b (by simpa using e) c;omega) (by rw[qS];exact hs)]
  congr 2
  omega
theorem InvF.done{a:Act}(R:RegF P Q F ops a0 m)(h:InvF F ops a0 L a w)(k:∀i,i<ops.size->on L i=true)
 (l:∀(V:Nat->Us),(∀i,i<ops.size->F.kill i=[]->F.R i (V i) w)->(∀b,F.killB b=[]->F.B b w)->Q .normal (bU V ops.toList 0 a0) w):Q .normal a w:=by
 obtain⟨V,g,d⟩:=h.all;have e:a=bU V ops.toList 0 a0:=by
  refine Act.ext' ?_ (by rw[nF];exact h.def');apply yAF;intro t;by_cases j:∃(i:Nat) (o:Vj),ops[i]? = some o/\o.dst=some t
  ·obtain⟨i,o,ho,hd⟩:=j;rw[g i t (k i (UY.1 ho).1) (by rw[eX ho];exact hd)];rw[rX V ops.toList 0 a0 i o t (by rw[Vo];exact ho) hd (λn p c f=>((R.of ho).2 t hd).2 n (by rw[Vo]at c;rw[eX c];exact f)) ((R.of ho).2 t hd).1,UC]
  ·rw[h.rest t (λi c hd=>?_),lY V ops.toList 0 a0 t (λo f hd=>?_)]
   ·obtain⟨i,c⟩:=WI f;rw[Vo]at c;exact j ⟨i,o,c,hd⟩
   ·unfold aX at hd;cases hx:ops[i]? with
    | none=>rw[hx]at hd;cases hd
    | some x=>rw[hx]at hd;exact j ⟨i,x,hx,hd⟩
 rw[e];exact l V (λi c j=>d i (k i c) (by rw[j];simp)) (λb f=>h.base b (by rw[f];simp))
theorem InvF.full{a:Act}(R:RegF P Q F ops a0 m)(h:InvF F ops a0 L a w)(d:U6 .any ops L=[]):∀i,i<ops.size->on L i=true:=by
 intro i;induction i using Nat.strongRecOn with
 | ind i ih =>
  intro c;have ho:ops[i]? = some ops[i]:=UZ _;cases k:on L i with
  | true=>rfl
  | false =>
   have:i∈U6 .any ops L:=mem_ready.2 ⟨?_,_,ho,λe g f=>?_⟩
   ·rw[d]at this;cases this
   ·unfold on at k;rw[UH,UZ (by rw[h.size];exact c)]at k⊢;exact k
   ·have b:=(R.of ho).1 e g f;exact ih e.on b (Nat.lt_trans b c)
theorem qG{id:Nat}(F:Flow)(s:P.follows .mixedOrders=true)(R:RegF P Q F ops a0 ops.size)(q:∀b,F.B b w.drew)
 (m:∀(V:Nat->Us) (w':Uq),(∀i,i<ops.size->F.kill i=[]->F.R i (V i) w')->(∀b,F.killB b=[]->F.B b w')->Q .normal (bU V ops.toList 0 a0) w'):(V3 id ops true).wp P Q a0 w:=by
 have key:∀(c:Nat) (L:Array Bool) (a:Act) (w:Uq),unl L=c->InvF F ops a0 L a w->wpAny P .any ops Q c L a w:=by
  intro c;induction c with
  | zero =>
   intro L a w n f;have k:∀i,i<ops.size->on L i=true:=λi g=>kN n i (by rw[f.size];exact g)
   refine⟨?_,f.done R k (λV=>m V w)⟩;apply ZJ.2;intro i g;obtain⟨e,o,ho,-⟩:=mem_ready.1 g;have j:=k i (UY.1 ho).1;unfold on at j;rw[UH]at e j;cases hh:L[i]? with
   | none=>rw[hh]at e;cases e
   | some b=>rw[hh]at e j;rw[show b=false from e]at j;cases j
  | succ c ih =>
   intro L a w n f;refine⟨λp=>f.done R (f.full R p) (λV=>m V w),λi g=>?_⟩;obtain⟨e,o,ho,j⟩:=mem_ready.1 g;have k:on L i=false:=by
    unfold on;rw[UH]at e⊢;cases hh:L[i]? with
    | none=>rfl
    | some b=>rw[hh]at e;exact e
   exact Zz (λr w' l=>ih _ r w' (by have:=lN e;omega) l) (Ex R (UY.1 ho).1 (λi g=>by rw[<-f.size];exact zV g) ho k j f)
 have k:∀i,on (UI ops.size false) i=false:=λi=>by
  unfold on;rw[UH,Yg];by_cases h:i<ops.size
  ·rw[yCj h];rfl
  ·rw[yCk h];rfl
 refine yB7 s (key _ _ a0 _ ?_ ⟨UO,(λi o _ h=>by rw[k]at h;cases h),rfl,rfl,λ_ _=>rfl,⟨λ_=>WO,λi d h=>(by rw[k]at h;cases h),λi h=>(by rw[k]at h;cases h)⟩,λb _=>q b⟩);unfold unl;rw[Y3,yAm];simp
structure PreF(F:Flow)(ops:Array Vj)(a0:Act)(k:Nat)(o:Vj)(a:Act)(w:Uq):Prop where
 n:∀j d,dB o j=true->okK ops k (F.kill j)=true->aX ops j=some d->F.R j (a.eval (.tmp d)) w
 o:∀t,oY ops k t=true->a.eval (.tmp t)=a0.eval (.tmp t)
 b:∀b,okK ops k (F.killB b)=true->F.B b w
def iK(P:VC)(Q:Yo->Act->Uq->Prop)(F:Flow)(b:Array Vj)(a0:Act):Nat->List Vj->Prop
 | _,[]=>True
 | k,o :: r=>Aq P Q F b a0 k o/\iK P Q F b a0 (k+1) r
theorem yJ:∀(l:List Vj) (i:Nat),iK P Q F ops a0 i l->∀k o,l[k]? = some o->Aq P Q F ops a0 (i+k) o
 | [],_,_,k,o,h=>by simp at h
 | x :: r,i,hc,0,o,h=>by
  obtain rfl:x=o:=by simpa using h
  exact hc.1
 | x :: r,i,hc,k+1,o,h=>by
  have:=yJ r (i+1) hc.2 k o (by simpa using h);rwa[show i+1+k=i+(k+1) by omega]at this
theorem CB(h:iK P Q F ops a0 0 ops.toList):∀k o,k<ops.size->ops[k]? = some o->Aq P Q F ops a0 k o:=λk o _ ho=>by
 have:=yJ ops.toList 0 h k o (by rw[Vo];exact ho);rwa[UC]at this
def evo(ev:WB->Us):XF->Us
 | .tmp t=>ev t
 | .const v=>v
 | .global g=>jZ g
 | .func f=>.func (.func f) #[] #[]
def dA(T:List WB)(o:Vj):Bool:=
 (match o.op with | .select _ _=>false|_=>true) && o.op.operands.all (λx=>match x with | .tmp t=>T.contains t|_=>true)
theorem iU{a:Act}{o:Vj}(ev:WB->Us)(T:List WB)(h:dA T o=true)(k:∀t∈T,a.eval (.tmp t)=ev t):U4 a.eval o=U4 (evo ev) o:=by
 simp only[dA,UK]at h;refine execOp_congr o (λcs b k=>?_) (λx hx=>?_)
 ·rw[k]at h;exact absurd h.1 (by simp)
 ·have c:=WW.1 h.2 x hx;cases x with
  | tmp t=>exact k t (by simpa using c)
  | const v=>rfl
  | global g=>rfl
  | func f=>rfl
theorem mH{k:Nat}{o:Vj}(h:∀(a:Act) (w:Uq),PreF F ops a0 k o a w->∃v w',(U4 a.eval o).run P w=.ok (.value v) w'/\F.E k w w'/\F.R k v w'):bF P Q F ops a0 k o:=by
 intro a w K f c e b;obtain⟨v,w',d,hE,hR⟩:=h a w ⟨f,c,e⟩;unfold VS;rw[d];exact b v w' hE hR
theorem mI{k:Nat}{o:Vj}(t:WB)(h:∀(a:Act) (w:Uq),PreF F ops a0 k o a w->∃v w',(dA [t] o=true)/\(U4 (evo λ_=>a.eval (.tmp t)) o).run P w=.ok (.value v) w'/\F.E k w w'/\F.R k v w'):bF P Q F ops a0 k o:=by
 refine mH λa w c=>?_
 obtain⟨v,w',d,b,hE⟩:=h a w c;refine⟨v,w',?_,hE⟩;rw[iU (λ_=>a.eval (.tmp t)) [t] d (λx hx=>by rw[show x=t by simpa using hx])];exact b
theorem FG{k:Nat}{o:Vj}(t:WB)(h:∀(a:Act) (w:Uq),PreF F ops a0 k o a w->∃f args,(dA [t] o=true)/\(U4 (evo λ_=>a.eval (.tmp t)) o).run P w=.ok (.enter f args) w/\UG P f args w (Ret λe w'=>F.E k w w'/\F.R k e w')):bF P Q F ops a0 k o:=by
 intro a w K l g i d;obtain⟨f,args,b,c,j⟩:=h a w ⟨l,g,i⟩;unfold VS;rw[iU (λ_=>a.eval (.tmp t)) [t] b (λx hx=>by rw[show x=t by simpa using hx]),c,WX];refine j.mono ?_;rintro e w' ⟨v,rfl,hE,hR⟩;exact d _ _ hE hR
theorem Bg{k:Nat}{o:Vj}(T:U7)(t:WB)(ho:o.op=.load T (.tmp t))(b:(P.underlying T).map (·.isRow)=some true)
 (h:∀(a:Act) (w:Uq),PreF F ops a0 k o a w->∃g off cs,a.eval (.tmp t)=oZ g off/\w.rangeAt g off cs/\(P.info? T).map (·.size)=some cs.length/\F.E k w w/\F.R k (.agg cs.toArray) w):bF P Q F ops a0 k o:=by
 intro a w K m i j f;obtain⟨g,off,cs,c,e,l,hE,hR⟩:=h a w ⟨m,i,j⟩;obtain⟨d,b,hd⟩:=Ux.1 b;exact wp_load_mid T (.tmp t) ho g off c cs d e b hd l (f _ _ hE hR)
theorem JS{k:Nat}{o:Vj}(s u:WB)(t:U7)(ho:o.op=.call { callee:=.builtin .append,args:=#[.tmp s,.tmp u],argTypes:=#[t,t] })
 (h:∀(a:Act) (w:Uq),PreF F ops a0 k o a w->∃v w',(Vr #[t,t] o.type #[a.eval (.tmp s),a.eval (.tmp u)]).run P w=.ok v w'/\F.E k w w'/\F.R k v w'):bF P Q F ops a0 k o:=by
 intro a w K f d e c;obtain⟨v,w',b,hE,hR⟩:=h a w ⟨f,d,e⟩;unfold VS U4;simp only[ho,resolve,invoke,builtin,UU,Wq,Vl,yA1,XU,yBD,b];exact c _ _ hE hR
theorem tB(h:iK P Q F ops a0 0 (ops.toList.take m)):∀k o,k<m->ops[k]? = some o->Aq P Q F ops a0 k o:=λk o b ho=>by
 have:=yJ (ops.toList.take m) 0 h k o (by rw[Wz,yCj b,Vo];exact ho);rwa[UC]at this
theorem InvF.act{a:Act}(R:RegF P Q F ops a0 m)(h:InvF F ops a0 L a w)(l:m<=ops.size)(c:∀i,on L i=true↔i<m){V:Nat->Us}(f:∀i d,on L i=true->aX ops i=some d->a.tmps[d]? = some (V i)):a=bU V (ops.toList.take m) 0 a0:=by
 refine Act.ext' ?_ (by rw[nF];exact h.def');apply yAF;intro t;by_cases g:∃(i:Nat) (o:Vj),i<m/\ops[i]? = some o/\o.dst=some t
 ·obtain⟨i,o,b,ho,hd⟩:=g;rw[f i t ((c i).2 b) (by rw[eX ho];exact hd)];rw[rX V (ops.toList.take m) 0 a0 i o t (by rw[Wz,yCj b,Vo];exact ho) hd (λj n k e=>((R.of ho).2 t hd).2 j (by
   rw[Wz]at k;split at k
   ·rw[Vo]at k;rw[eX k];exact e
   ·cases k)) ((R.of ho).2 t hd).1,UC]
 ·rw[h.rest t (λi k hd=>?_),lY V (ops.toList.take m) 0 a0 t (λo e hd=>?_)]
  ·obtain⟨i,k⟩:=WI e;rw[Wz]at k;split at k
   ·rename_i b
    rw[Vo]at k;exact g ⟨i,o,b,k,hd⟩
   ·cases k
  ·unfold aX at hd;cases hx:ops[i]? with
   | none=>rw[hx]at hd;cases hd
   | some x=>rw[hx]at hd;exact g ⟨i,x,(c i).1 k,hx,hd⟩
theorem GM{id:Nat}(F:Flow)(n:Nat)(O:ops.size=n+1)(hd:(VF n).all (λj=>depOn ops n j || (VF n).any (λi=>depOn ops n i && depOn ops i j))=true)(X:P.follows .mixedOrders=true)(R:RegF P Q F ops a0 n)(U:∀b,F.B b w.drew)
 (S:∀(V:Nat->Us) (w':Uq),(∀i,i<n->F.kill i=[]->F.R i (V i) w')->(∀b,F.killB b=[]->F.B b w')->wpList P ops Q (ops.toList.drop n) (bU V (ops.toList.take n) 0 a0) w'):(V3 id ops true).wp P Q a0 w:=by
 have key:∀(c:Nat) (L:Array Bool) (a:Act) (w:Uq),unl L=c->on L n=false->InvF F ops a0 L a w->wpAny P .any ops Q c L a w:=by
  intro c;induction c with
  | zero =>
   intro L a w M k p;have:=kN M n (by rw[p.size];omega);rw[k]at this;cases this
  | succ c ih =>
   intro L a w M k p;refine⟨λB=>?_,λi Y=>?_⟩
   ·have:=p.full R B n oM;rw[k]at this;cases this
   ·obtain⟨r,o,ho,t⟩:=mem_ready.1 Y;have D:=(UY.1 ho).1;have J:on L i=false:=by
     unfold on;rw[UH]at r⊢;cases hh:L[i]? with
     | none=>rfl
     | some b=>rw[hh]at r;exact r
    by_cases z:i=n
    ·subst z;have q:∀j,on L j=true↔j<i:=λj=>by
      constructor
      ·intro m;have g:j<ops.size:=by rw[<-p.size];exact zV m
       rcases Wp j i with h|h
       ·exact h
       ·obtain rfl:j=i:=oM;rw[k]at m;cases m
      ·intro m;have s:∀j,depOn ops i j=true->on L j=true:=λj g=>by
        unfold depOn at g;rw[ho]at g;obtain⟨e,u,v⟩:=XN.1 g;simp only[UK,beq_iff_eq]at v;have:=t e u v.1;rw[v.2]at this;exact this
       have g:=U9.1 hd j (VZ.2 m);rw[Xu]at g;rcases g with g|g
       ·exact s j g
       ·obtain⟨x,hx,C⟩:=List.any_eq_true.1 g;rw[UK]at C;have E:=s x C.1;have y:x<ops.size:=by have:=VZ.1 hx;omega
        have u:=UZ y;have A:=C.2;unfold depOn at A;rw[u]at A;exact Ba (ho:=u) p A E
     obtain⟨V,I,G⟩:=p.all;have W:=p.act R oM q I;have y:∀l:List Nat,l=[]->∀x∈l,on L x=false:=λl T x hx=>by rw[T]at hx;cases hx
     have s:=S V w (λj m N=>G j ((q j).2 m) (y _ N)) (λb v=>p.base b (y _ v));have u:ops.toList.drop i=[o]:=by
      have A:ops.toList.length=i+1:=by rw[UJ];exact O
      rw[List.drop_eq_getElem_cons oM,List.drop_of_length_le oM];have:ops.toList[i]? = some o:=by rw[Vo];exact ho
      rw[UF oM]at this;rw[UN.inj this]
     rw[u,<-W]at s;have E:wpOp P ops Q i (λC w'=>Q .normal C w') a w:=by
      unfold wpOp;rw[ho];exact s
     refine Zz (λC w' K=>?_) E;have A:∀j,j<ops.size->on (L.setIfInBounds i true) j=true:=λj m=>by
      rw[eC (by rw[p.size];omega)];by_cases h:j<i
      ·rw[(q j).2 h,X9]
      ·rw[show j=i by omega];simp
     have B:U6 .any ops (L.setIfInBounds i true)=[]:=by
      apply ZJ.2;intro j m;obtain⟨r,Z,H,-⟩:=mem_ready.1 m;have g:=A j (UY.1 H).1;unfold on at g;rw[UH]at r g;cases hh:(L.setIfInBounds i true)[j]? with
      | none=>rw[hh]at r;cases r
      | some b=>rw[hh]at r g;rw[show b=false from r]at g;cases g
     cases c with
     | zero=>exact⟨B,K⟩
     | succ f=>exact⟨λ_=>K,λj m=>by rw[B]at m;cases m⟩
    ·refine Zz (λC w' q=>ih _ C w' (by have:=lN r;omega) ?_ q) (Ex R oM (λj m=>?_) ho J t p)
     ·rw[eC (by rw[p.size];exact D),k];simpa using z
     ·have g:j<ops.size:=by rw[<-p.size];exact zV m
      rcases Wp j n with h|h
      ·exact h
      ·obtain rfl:j=n:=oM;rw[k]at m;cases m
 have k:∀i,on (UI ops.size false) i=false:=λi=>by
  unfold on;rw[UH,Yg];by_cases h:i<ops.size
  ·rw[yCj h];rfl
  ·rw[yCk h];rfl
 refine yB7 X (key _ _ a0 _ ?_ (k n) ⟨UO,(λi o _ h=>by rw[k]at h;cases h),rfl,rfl,λ_ _=>rfl,⟨λ_=>WO,λi d h=>(by rw[k]at h;cases h),λi h=>(by rw[k]at h;cases h)⟩,λb _=>U b⟩);unfold unl;rw[Y3,yAm];simp
end RG
namespace RG
variable {P:VC}{ops:Array Vj}{Q:Yo->Act->Uq->Prop}{w:Uq}{a0:Act}
def AllE(a:Act):List (WB × Us)->Prop
 | []=>True
 | x :: r=>a.eval (.tmp x.1)=x.2/\AllE a r
def evl(k:List (WB × Us))(t:WB):Us:=match k.find? (λx=>x.1 == t) with|some x=>x.2|none=>WO
theorem AllE.mem{a:Act}:∀ {k:List (WB × Us)},AllE a k->∀x∈k,a.eval (.tmp x.1)=x.2
 | [],_,x,hx=>by cases hx
 | y :: r,h,x,hx=>by
  rcases VW.1 hx with rfl|hx
  ·exact h.1
  ·exact AllE.mem h.2 x hx
theorem AllE.ev{a:Act}{k:List (WB × Us)}(h:AllE a k):∀t∈k.map (·.1),a.eval (.tmp t)=evl k t:=λt c=>by
 obtain⟨x,hx,rfl⟩:=Vm.1 c;unfold evl;cases hf:k.find? (λy=>y.1 == x.1) with
 | none =>
  have:=List.find?_eq_none.1 hf x hx;simp at this
 | some y =>
  have d:=List.mem_of_find?_eq_some hf;have b:y.1=x.1:=by simpa using List.find?_some hf
  have:=h.mem y d;rw[b]at this;exact this
structure Gw where
 R:Nat->Us->Uq->Prop
 B:Uq->Prop
 sR:∀i v w w',kZ w w'->R i v w->R i v w'
 sB:∀w w',kZ w w'->B w->B w'
def Gw.flow(G:Gw):Flow:=⟨G.R,λ_=>G.B,λ_ w w'=>kZ w w',λ_=>[],λ_=>[]⟩
structure PreG(G:Gw)(ops:Array Vj)(a0:Act)(k:Nat)(o:Vj)(a:Act)(w:Uq):Prop where
 n:∀j d,dB o j=true->aX ops j=some d->G.R j (a.eval (.tmp d)) w
 o:∀t,oY ops k t=true->a.eval (.tmp t)=a0.eval (.tmp t)
 b:G.B w
variable {G:Gw}
theorem rY{k:Nat}{o:Vj}{a:Act}(h:PreF G.flow ops a0 k o a w):PreG G ops a0 k o a w:=⟨λj d b hd=>h.n j d b rfl hd,h.o,h.b 0 rfl⟩
theorem bN{k:Nat}{o:Vj}(h:∀(a:Act) (w:Uq),PreG G ops a0 k o a w->∃(b:List (WB × Us)) (v:Us) (w':Uq),AllE a b/\(dA (b.map (·.1)) o,(U4 (evo (evl b)) o).run P w)=(true,.ok (.value v) w')/\kZ w w'/\G.R k v w'):bF P Q G.flow ops a0 k o:=
 mH λa w e=>by
  obtain⟨b,v,w',d,c,hE⟩:=h a w (rY e);simp only[V5.injEq]at c;refine⟨v,w',?_,hE⟩;rw[iU (evl b) (b.map (·.1)) c.1 d.ev];exact c.2
theorem gK{k:Nat}{o:Vj}(h:∀(a:Act) (w:Uq),PreG G ops a0 k o a w->∃(b:List (WB × Us)) (f:FuncId) (args:Array Us),AllE a b/\(dA (b.map (·.1)) o,(U4 (evo (evl b)) o).run P w)=(true,.ok (.enter f args) w)/\UG P f args w (rZ w λe w'=>G.R k e w')):bF P Q G.flow ops a0 k o:=by
 intro a w K m i j g;obtain⟨b,f,args,d,c,l⟩:=h a w (rY ⟨m,i,j⟩);simp only[V5.injEq]at c;unfold VS;rw[iU (evl b) (b.map (·.1)) c.1 d.ev,c.2,WX];refine l.mono ?_;rintro e w' ⟨v,rfl,hE,hR⟩;exact g _ _ hE hR
theorem iQ{k:Nat}{o:Vj}(T:U7)(t:WB)(ho:o.op=.load T (.tmp t))(b:(P.underlying T).map (·.isRow)=some true)
 (h:∀(a:Act) (w:Uq),PreG G ops a0 k o a w->∃g off cs,a.eval (.tmp t)=oZ g off/\w.rangeAt g off cs/\(P.info? T).map (·.size)=some cs.length/\G.R k (.agg cs.toArray) w):bF P Q G.flow ops a0 k o:=
 Bg T t ho b λa w f=>by
  obtain⟨g,off,cs,i,c,e,d⟩:=h a w (rY f);exact⟨g,off,cs,i,c,e,UQ _ _,d⟩
theorem Jn{k:Nat}{o:Vj}(op:BinOp)(T c:U7)(t1 t2:WB)(ho:o.op=.binOp op T (.tmp t1) (.tmp t2) c)
 (h:∀(a:Act) (w:Uq),PreG G ops a0 k o a w->∃v1 v2 v,a.eval (.tmp t1)=v1/\a.eval (.tmp t2)=v2/\(eqGuard op T (.tmp t1) (.tmp t2) v1 v2).run P w=.ok () w/\(binOp op T v1 v2).run P w=.ok v w/\G.R k v w):bF P Q G.flow ops a0 k o:=
 mH λa w e=>by
  obtain⟨v1,v2,v,g,f,d,b,hR⟩:=h a w (rY e);refine⟨v,w,?_,UQ _ _,hR⟩;unfold U4;rw[ho];dsimp only;rw[g,f,UU,UU,d];dsimp only[Result.andThen];rw[b];rfl
theorem Gw.reg{m:Nat}(c:Be ops a0.tmps.size=true)(h:iK P Q G.flow ops a0 0 (ops.toList.take m)):RegF P Q G.flow ops a0 m:=
 ⟨c,tB h,λi j _ _ _ _ _ v w w' hE hR=>G.sR j v w w' hE hR,λi b _ _ w w' hE k=>G.sB w w' hE k⟩
theorem Gw.draws{id:Nat}(G:Gw)(f:P.follows .mixedOrders=true)(b:Be ops a0.tmps.size=true)(h:iK P Q G.flow ops a0 0 (ops.toList.take ops.size))(k:G.B w.drew)
 (c:∀(V:Nat->Us) (w':Uq),(∀i,i<ops.size->G.R i (V i) w')->G.B w'->Q .normal (bU V ops.toList 0 a0) w'):(V3 id ops true).wp P Q a0 w:=
 qG G.flow f (Gw.reg b h) (λ_=>k) λV w' g d=>c V w' (λi e=>g i e rfl) (d 0 rfl)
theorem Gw.last{id:Nat}(G:Gw)(n:Nat)(k:((ops.size == n+1) && (VF n).all (λj=>depOn ops n j || (VF n).any (λi=>depOn ops n i && depOn ops i j)))=true)(g:P.follows .mixedOrders=true)(c:Be ops a0.tmps.size=true)(h:iK P Q G.flow ops a0 0 (ops.toList.take n))(b:G.B w.drew)
 (d:∀(V:Nat->Us) (w':Uq),(∀i,i<n->G.R i (V i) w')->G.B w'->wpList P ops Q (ops.toList.drop n) (bU V (ops.toList.take n) 0 a0) w'):(V3 id ops true).wp P Q a0 w:=by
 rw[UK,beq_iff_eq]at k;exact GM G.flow n k.1 k.2 g (Gw.reg c h) (λ_=>b) λV w' l e=>d V w' (λi f=>l i f rfl) (e 0 rfl)
end RG
section
variable {P:Nat}[NeZero P]{N:Nat}
theorem BM{w:Uq}{g o:Nat}{v:Us}{cur:Array Us}{e:U7}{z:Nat × Nat}(h:w.heap[g]? = some (.cells cur e z)):∃k:Array Us,(w.setCell ⟨g,o,none⟩ v).heap[g]? = some (.cells k e z)/\k.size=cur.size:=by
 have b:=(UY.1 h).1;refine⟨cur.setIfInBounds o v,?_,VE ..⟩;have c:w.heap[g]=.cells cur e z:=by rw[UZ b]at h;exact UN.inj h
 simp[World.setCell,Array.getElem_modify,b,c]
theorem qN{g:Nat}{e:U7}{z:Nat × Nat}:∀(vs:List Us) (o:Nat) (w:Uq) (cur:Array Us),w.heap[g]? = some (.cells cur e z)->∃k:Array Us,(w.setCells g o vs).heap[g]? = some (.cells k e z)/\k.size=cur.size
 | [],_,_,cur,h=>⟨cur,h,rfl⟩
 | v :: r,o,w,cur,h=>by
  obtain⟨c1,c,b⟩:=BM (o:=o) (v:=v) h;obtain⟨c2,f,d⟩:=qN r (o+1) _ c1 c;exact⟨c2,f,d.trans b⟩
theorem IM{W:Uq}{k n s g o cap:Nat}{e:U7}{xs vs:List Us}(h:W.ownsRow k e s (sZ g n cap) n xs)(v:o+vs.length<=n*s):(W.setCells g o vs).ownsRow k e s (sZ g n cap) n (rep xs o vs):=by
 have hx:o+vs.length<=xs.length:=by rw[h.1];exact v
 refine⟨by rw[cU hx];exact h.1,?_⟩;rcases h.2 with⟨f,-⟩|⟨a,m,cur,f,w,t,r,y,q,z⟩
 ·cases f
 ·injection f with e1 e2 e3
  injection e1 with e1
  injection e1 with e1
  subst e1;subst e3;obtain⟨c2,p,u⟩:=qN vs o W cur t;refine UW ⟨g,cap,c2,rfl,w,p,r,y,by rw[u];exact q,?_⟩;have x:n*s<=cur.size:=by rw[q];exact Xr s r
  apply YX;intro i;rw[RG.rep_at hx,Wz,<-z];have c1:∀i,W.cell? ⟨g,i,none⟩=cur[i]?:=λi=>cell_of_row W g i cur e (0,0) t
  have l:(W.setCells g o vs).cell? ⟨g,i,none⟩=c2[i]?:=cell_of_row _ g i c2 e (0,0) p;by_cases c:i<n*s
  ·rw[yCj c];by_cases b:o<=i/\i<o+vs.length
   ·rw[yCj b];have d:i-o<vs.length:=oM;have:=World.cell?_setCells_in g vs o W (λj d=>by rw[c1 (o+j),UZ oM];rfl) (i-o) d;rw[show o+(i-o)=i by omega,l]at this;rw[Vo,this,UF d]
   ·rw[yCk b,Wz,yCj c,Vo,Vo,<-l,<-c1 i];exact World.cell?_setCells_out g vs o W ⟨g,i,none⟩ (λ_ _=>by show i<o\/o+vs.length<=i;omega)
  ·rw[yCk c,yCk oM,Wz,yCk c]
theorem LS{xs ys vs:List Us}{o:Nat}:rep (xs++ys) (xs.length+o) vs=xs++rep ys o vs:=by
 unfold rep;rw[List.take_length_add_append,Nat.add_assoc,List.drop_length_add_append,List.append_assoc]
theorem gJ{n:Nat}{p:Bs}(k:p.size=33):(wn n++aA p).length=37:=by rw[Uz,aB k];rfl
theorem fG(x:Nat × Bs)(r:List (Nat × Bs)):aU (x :: r)=(wn x.1++aA x.2)++aU r:=by unfold aU;rw[Zy]
theorem yM(s:Nat):∀(l:List (Nat × Bs)) (j:Nat) (k:j<l.length),(∀x∈l.map (·.2),x.size=33)->aU (l.set j (s,(l[j]).2))=rep (aU l) (37*j) (wn s)
 | [],j,k,_=>by cases k
 | x :: r,0,_,_=>by
  show aU ((s,x.2) :: r)=_;rw[fG,fG];rfl
 | x :: r,j+1,k,hs=>by
  have hx:=gJ (n:=x.1) (hs x.2 (by simp));show aU (x :: r.set j (s,(r[j]'(by simpa using k)).2))=_;rw[fG,fG,yM s r j (by simpa using k) (λy b=>hs y (Va _ b)),show 37*(j+1)=(wn x.1++aA x.2).length+37*j by rw[hx];omega,LS]
theorem at?_some{p:Bs}:∀ {l:List (Nat × Bs)}{i j:Nat},at? p (l.map (·.2)) i=some j->i<=j/\∃h:j-i<l.length,(l[j-i]).2=p/\∀n,fA N l n p=l.set (j-i) (sPl N (l[j-i]).1 n,p)
 | [],i,j,h=>by cases h
 | (s,q) :: r,i,j,h=>by
  rw[XU]at h;unfold at? at h;by_cases k:p=q
  ·rw[yCj k]at h;obtain rfl:=UN.inj h;refine⟨Uv _,by simp,?_,λn=>?_⟩
   ·simp[k]
   ·unfold fA;rw[yCj k];simp[k]
  ·rw[yCk k]at h;obtain⟨f,d,c,b⟩:=at?_some h;have e:j-i=(j-(i+1))+1:=oM;refine⟨oM,by simp;omega,?_,λn=>?_⟩
   ·simp only[e,yAj];exact c
   ·unfold fA;rw[yCk k,b n];simp only[e,yAj,Ut]
theorem Kk{n:Nat}{p:Bs}{l:List (Nat × Bs)}{j:Nat}(h:at? p (l.map (·.2)) 0=some j):(fA N l n p).map (·.2)=l.map (·.2)/\(fA N l n p).length=l.length:=by
 obtain⟨-,k,d,c⟩:=at?_some (N:=N) h;rw[c n];refine⟨?_,List.length_set ..⟩;rw[List.map_set];apply YX;intro i;rw[List.getElem?_set];by_cases b:j-0=i
 ·subst b;rw[yCj rfl,yCj (by rw[UP];exact k),Vy,UF k];exact congrArg some d.symm
 ·rw[yCk b]
theorem Mx.again{w W:Uq}{m g cap:Nat}{l:List (Nat × Bs)}{p:Bs}{j:Nat}(h:Mx w W m l (sZ g l.length cap))(e:∀x∈l.map (·.2),x.size=33)(b:at? p (l.map (·.2)) 0=some j)(f:j<l.length)(n:Nat):
 Mx w (W.setCells g (37*j) (wn (sPl N (l[j]).1 n))) m (fA N l n p) (sZ g l.length cap):=by
 have k:=h.own_ne (g:=g) rfl;obtain⟨o,c⟩:=Kk (N:=N) (n:=n) b;refine⟨RG.below_setCells k.2.1 _ _ _ h.bl,?_,h.lm,?_⟩
 ·rw[aH _ _ _ _ _ (YB k.1),o,c];exact h.mp
 ·obtain⟨-,q,d,i⟩:=at?_some (N:=N) b;have e3:fA N l n p=l.set j (sPl N (l[j]).1 n,(l[j]).2):=by rw[i n];simp only[YT]at d⊢;rw[d]
  rw[c,e3,yM _ l j f e];exact IM h.ow (by show 37*j+4<=_;omega)
theorem DD(O:Ord N)(ns:Nat->Nat)(c:Nat->Bs){k:Nat}(d:∀j,j<k->ns j<N):∀i,i<=k->∀x∈mrg N ns c i,x.1<N
 | 0,_=>λx hx=>by cases hx
 | i+1,hi=>by
  have g:=DD O ns c d i oM;have h:∀(l:List (Nat × Bs)) n p,n<N->(∀x∈l,x.1<N)->∀x∈fA N l n p,x.1<N:=by
   intro l n p e;induction l with
   | nil=>intro _ x hx;simp[fA]at hx;rw[hx];exact e
   | cons y r ihr =>
    intro b x hx;unfold fA at hx;split at hx
    ·rcases VW.1 hx with rfl|hx
     ·exact V4 _ O.pos
     ·exact b x (Va _ hx)
    ·rcases VW.1 hx with rfl|hx
     ·exact b _ Vt
     ·exact ihr (λz f=>b z (Va _ f)) x hx
  exact h _ _ _ (d i oM) g
end
section
variable {N:Nat}
section
variable (w:Uq) (m g4 cap k6 j s n z:Nat) (l:List (Nat × Bs)) (p:Bs)
def Ra:Nat->Us->Uq->Prop
 | 0,v,_=>v=sZ g4 l.length cap
 | 1,v,_=>v=iZ j
 | 2,v,_=>v=sZ g4 l.length cap
 | 3,v,_=>v=iZ j
 | 4,v,_=>v=.pointer (some ⟨g4,0+37*j,none⟩)
 | 5,v,_=>v=.pointer (some ⟨g4,0+37*j,none⟩)
 | 6,v,_=>v=nv s
 | 7,v,_=>v=jZ k6
 | 8,v,_=>v=nv n
 | 9,v,_=>v=nv z
 | 10,v,_=>v=.pointer (some ⟨g4,0+37*j,none⟩)
 | 11,v,_=>v=.pointer (some ⟨g4,0+37*j,none⟩)
 | _,_,_=>True
theorem Qm{i:Nat}{v:Us}{W W':Uq}(h:Ra g4 cap k6 j s n z l i v W):Ra g4 cap k6 j s n z l i v W':=by
 match i,h with
 | 0,h=>exact h
 | 1,h=>exact h
 | 2,h=>exact h
 | 3,h=>exact h
 | 4,h=>exact h
 | 5,h=>exact h
 | 6,h=>exact h
 | 7,h=>exact h
 | 8,h=>exact h
 | 9,h=>exact h
 | 10,h=>exact h
 | 11,h=>exact h
 | _+12,_=>trivial
def Ga:Gw:=⟨Ra g4 cap k6 j s n z l,λW=>Mx w W m l (sZ g4 l.length cap)/\Row W k6 (wn n++aA p),λ_ _ _ _ _ h=>Qm g4 cap k6 j s n z l h,λ_ _ k h=>⟨h.1.kept k,h.2.below k⟩⟩
end
theorem range_front'{W:Uq}{k o:Nat}{xs ys:List Us}(h:W.rangeAt k o (xs++ys)):W.rangeAt k o xs:=λj v b=>h j v (by rw[US (UE.1 b).1];exact b)
theorem Mx.drew{w W:Uq}{m:Nat}{l:List (Nat × Bs)}{v:Us}(h:Mx w W m l v):Mx w W.drew m l v:=⟨h.bl.drew,h.mp,h.lm,h.ow⟩
theorem I8(O:Ord N)(R:Us->Uq->Prop)(g k c:Nat)(hk:k<=1000)(ns:Nat->Nat)(o:Nat->Bs)(ha:∀j,j<k->(o j).size=33)(hn:∀j,j<k->ns j<N)(w:Uq)(hg:g<w.heap.size)(hr:∀j,j<k->w.rangeAt g (37*j) (wn (ns j)++aA (o j)))
 (h8:∀W v,Mx w W w.heap.size (mrg N ns o k) v->UG prog 204 #[v,.func (.func 205) #[] #[]] W (Ret R)) :
 UG prog 140 #[sZ g k c] w (Ret R):=by
 have h2:=Hid.mk' h8;have hw:(Instr.makeMap 278 none).run prog w=.ok (.map (some w.heap.size)) (w.alloc (.map #[] 0)):=kR;obtain⟨w1,h3⟩:=hE (w.alloc (.map #[] 0));rw[h3.out]at hw;have M1:Hid (Mx w w1 w.heap.size (mrg N ns o 0) (.slice none 0 0)):=by
  rw[<-h3.out];exact⟨aC w _,by show(w.heap.push (.map #[] 0))[w.heap.size]? = _;rw[Array.getElem?_push_size];rfl,Uv _,rfl,U3 ⟨rfl,rfl⟩⟩
 have J:=mk5 O ha hn hg hr;obtain⟨d,kb,k2⟩:=Ux.1 uCP;obtain⟨d',k9,hy⟩:=Ux.1 uT;have K:Hid ((prog.underlying 103=some d/\d.isRow=true)/\prog.underlying 226=some d'/\d'.isRow=true):=⟨⟨kb,k2⟩,k9,hy⟩
 go_enter func140,ntmps140;go_wp2;go_loopg [4,12] k (λq s4 s12 W=>∃i:Nat,i+q=k/\s12=iZ i/\Hid (Mx w W w.heap.size (mrg N ns o i) s4))
 case atStart=>exact⟨0,oM,rfl,M1⟩
 case round =>
  obtain⟨i,kg,rfl,KM⟩:=hrel;by_cases hi:i<k
  ·have k3:(i:Int)<(k:Int):=oM;obtain⟨n,H⟩:=hE (ns i);obtain⟨p,F⟩:=hE (o i);obtain⟨l,hl⟩:=hE (mrg N ns o i);rw[hl.out]at KM;have r:Hid (p.size=33):=by have:=J.2.1 i hi;rw[F.out]at this;exact this
   have hq:Hid (l.length<=i):=by have:=AV (N:=N) ns o i;rw[hl.out]at this;exact this
   obtain⟨q,cap,rfl⟩:=GA KM.ow;obtain⟨Q,Z⟩:=hE (wr.alloc (.cells zT.toArray 226));obtain⟨I,h0⟩:=hE (Q.setCells wr.heap.size 0 (wn n++aA p));have m:(wn n++aA p).length=37:=by rw[Uz,aB r.out];rfl
   have F1:Hid (Row Q wr.heap.size zT/\kZ wr Q/\Q.heap.size=wr.heap.size+1):=by rw[<-Z.out];exact⟨aE wr _ _,aC wr _,UA _ _⟩
   have Y:Hid (Row I wr.heap.size (wn n++aA p)/\kZ wr I/\I.heap.size=wr.heap.size+1):=by rw[<-h0.out];exact⟨F1.1.put (by rw[m];rfl),RG.below_setCells (Uv _) _ _ _ F1.2.1,by rw[setCells_size];exact F1.2.2⟩
   have T:=mk1 (KM.kept Y.2.1);have C:∀x∈l.map (·.2),x.size=33:=by have:=xF (N:=N) ns o J.2.1 i oM;rw[hl.out]at this;exact this
   cases D:at? p (l.map (·.2)) 0 with
   | none =>
    have b:=mk1 (D);have X:=Hid.mk' (Cj r.out (l.map (·.2)) C w.heap.size l.length I T.mp);rw[b.out]at X;have B2:Hid ((Y2 278 (.map (some w.heap.size)) (.agg (aA p).toArray) (iZ (l.length:Int))).run prog I=.ok () (I.putObj w.heap.size (.map (ents (l.map (·.2)++[p]) 0).toArray (l.length+1)))):=by
     have h:=Ld r.out (l.map (·.2)) C w.heap.size I (by rw[UP];exact T.mp) b.out;rw[UP]at h;exact h
    obtain⟨v',W5,f,K5,kf,-⟩:=T.push r.out (by have:=hq.out;omega) n;obtain⟨P,B⟩:=hE (I.putObj w.heap.size (.map (ents (l.map (·.2)++[p]) 0).toArray (l.length+1)));have F3:Hid (Row P wr.heap.size (wn n++aA p)/\P.heap.size=wr.heap.size+1):=by rw[<-B.out];exact⟨Y.1.putObj T.mp rfl _,by simp[yAe];exact Y.2.2⟩
    have S:=Hid.mk' (SG r.out n P);obtain⟨W4,M⟩:=hE (P.alloc (.cells (wn n++aA p).toArray 226));rw[B.out]at B2 f;rw[M.out]at S f;rw[F3.2]at S;rw[Y.2.2]at f;have k0:Hid (Mx w W5 w.heap.size (mrg N ns o (i+1)) v'):=by
     have e:mrg N ns o (i+1)=l++[(n,p)]:=by
      show fA N (mrg N ns o i) (ns i) (o i)=_;rw[hl.out,H.out,F.out];exact CP b.out
     rw[e];exact K5
    have B0:Hid (wr.rangeAt g (37*i) (wn n++aA p)):=by
     have h:=RG.range_below (J.2.2.2.2 i hi) KM.bl J.2.2.2.1;rw[H.out,F.out]at h;exact h
    have L:Hid ((prog.info? 226).map (·.size)=some (wn n++aA p).length):=by show _=_;rw[m];exact iT
    have E:Hid ((prog.info? 226).map (·.size)=some (wn n++aA p).toArray.size/\Q.there wr.heap.size 0 (wn n++aA p).toArray.size):=by
     have e:(wn n++aA p).toArray.size=37:=by rw[VB];exact m
     rw[e];exact⟨iT,F1.1.2.2⟩
    have h1:Hid ((prog.info? 103).map (·.size)=some (aA p).length):=by show _=_;rw[aB r.out];exact cV
    have HB:=mk1 (lT (xs:=wn n) Y.1.2.1);have U:Hid ((wn n++aA p).toArray.all (·.oneCell')=true):=by
     show _=_;rw[WW];intro u hu;exact cells_one n p u (X6.1 hu)
    have k4:=atT g 0 k c i hi;have V:=Hid.mk' f;obtain⟨vt,A⟩:=hE (U2 (wn n++aA p).toArray);obtain⟨vp,G⟩:=hE (U2 (aA p).toArray);rw[G.out]at X B2;rw[A.out]at S;go_wp2_with (first|(refine U5 rfl 226 _ rfl g (37*i) ?_ (wn n++aA p) d' ?_ ?_ ?_ ?_ ?_;rfl;exact B0.out;exact K.2.1;exact K.2.2;exact L.out;rw[A.out])|(refine bG (v:=jZ wr.heap.size) (w':=Q) rfl (.alloc 226) rfl ?_ ?_;(rw[<-Z.out];kernel_rfl))|(refine U1 rfl 226 _ _ rfl wr.heap.size 0 (wn n++aA p).toArray ?_ ?_ ?_ ?_ ?_ ?_;rfl;exact A.symm;exact E.2;exact E.1;exact U.out;rw[show(wn n++aA p).toArray.toList=wn n++aA p from rfl,h0.out])|(refine U5 rfl 103 _ rfl wr.heap.size 4 ?_ (aA p) d ?_ ?_ ?_ ?_ ?_;rfl;exact HB.out;exact K.1.1;exact K.1.2;exact h1.out;rw[G.out])|(refine zA (x:=.map (some w.heap.size)) (y:=vp) (w':=I) rfl 278 _ _ true rfl ?_ ?_ X.out ?_;rfl;rfl)|(refine Gi (x:=.map (some w.heap.size)) (y:=vp) (z:=iZ (l.length:Int)) (w':=P) rfl 278 _ _ _ rfl ?_ ?_ ?_ B2.out ?_;rfl;rfl;rfl)|(refine U5 rfl 226 _ rfl wr.heap.size 0 ?_ (wn n++aA p) d' ?_ ?_ ?_ ?_ ?_;rfl;exact F3.1.2.1;exact K.2.1;exact K.2.2;exact L.out;rw[A.out])|(refine jC (v:=.slice (some ⟨wr.heap.size+1,0,none⟩) 1 1) (w':=W4) rfl 131 1 _ rfl #[(0,vt)] ?_ S.out ?_;kernel_rfl)|(refine lK (x:=.slice q l.length cap) (y:=.slice (some ⟨wr.heap.size+1,0,none⟩) 1 1) (v:=v') (w':=W5) rfl _ _ 131 rfl ?_ ?_ ?_ ?_;rfl;rfl;exact V.out))
    go_roundg (gk-1)
    case measure=>omega
    case rel=>exact⟨i+1,oM,rfl,k0⟩
   | some j =>
    obtain⟨-,B,h4,-⟩:=at?_some (N:=N) D;rw[YT]at B;simp only[YT]at h4;have X:=Hid.mk' (Cj r.out (l.map (·.2)) C w.heap.size l.length I T.mp);rw[D]at X;obtain⟨f,kd,k6,-,kc,k8⟩:=sH T.ow C oM;injection k6 with q1 q2 q3
    subst q1;obtain⟨s,h5⟩:∃s,Hid ((l[j]'B).1=s):=⟨(l[j]'B).1,(rfl:(l[j]'B).1=(l[j]'B).1)⟩
    have hm:Hid (s<N):=by
     have:=DD J.1 ns o J.2.2.1 i oM;rw[hl.out]at this;rw[<-h5.out];exact this _ (VG B)
    have k5:Hid (n<N):=by rw[<-H.out];exact J.2.2.1 i hi
    have B0:Hid (wr.rangeAt g (37*i) (wn n++aA p)):=by
     have h:=RG.range_below (J.2.2.2.2 i hi) KM.bl J.2.2.2.1;rw[H.out,F.out]at h;exact h
    have L:Hid ((prog.info? 226).map (·.size)=some (wn n++aA p).length):=by show _=_;rw[m];exact iT
    have E:Hid ((prog.info? 226).map (·.size)=some (wn n++aA p).toArray.size/\Q.there wr.heap.size 0 (wn n++aA p).toArray.size):=by
     have e:(wn n++aA p).toArray.size=37:=by rw[VB];exact m
     rw[e];exact⟨iT,F1.1.2.2⟩
    have h1:Hid ((prog.info? 103).map (·.size)=some (aA p).length):=by show _=_;rw[aB r.out];exact cV
    have HB:=mk1 (lT (xs:=wn n) Y.1.2.1);have U:Hid ((wn n++aA p).toArray.all (·.oneCell')=true):=by
     show _=_;rw[WW];intro u hu;exact cells_one n p u (X6.1 hu)
    have k4:=atT g 0 k c i hi;obtain⟨vt,A⟩:=hE (U2 (wn n++aA p).toArray);obtain⟨vp,G⟩:=hE (U2 (aA p).toArray);rw[G.out]at X;have S:=mk1 (B);have HS:Hid (∀h:j<l.length,(l[j]'h).1=s):=λ_=>h5.out
    have HJ:=mk2 D C;have HK:=mk2 T.out Y.1;have KN:Hid (mrg N ns o (i+1)=fA N l n p):=by
     show fA N (mrg N ns o i) (ns i) (o i)=_;rw[hl.out,H.out,F.out]
    clear m C T KM h4 q2 q3 k8 kc;clear D;go_wp2_with (first|(refine U5 rfl 226 _ rfl g (37*i) ?_ (wn n++aA p) d' ?_ ?_ ?_ ?_ ?_;rfl;exact B0.out;exact K.2.1;exact K.2.2;exact L.out;rw[A.out])|(refine bG (v:=jZ wr.heap.size) (w':=Q) rfl (.alloc 226) rfl ?_ ?_;(rw[<-Z.out];kernel_rfl))|(refine U1 rfl 226 _ _ rfl wr.heap.size 0 (wn n++aA p).toArray ?_ ?_ ?_ ?_ ?_ ?_;rfl;exact A.symm;exact E.2;exact E.1;exact U.out;rw[show(wn n++aA p).toArray.toList=wn n++aA p from rfl,h0.out])|(refine U5 rfl 103 _ rfl wr.heap.size 4 ?_ (aA p) d ?_ ?_ ?_ ?_ ?_;rfl;exact HB.out;exact K.1.1;exact K.1.2;exact h1.out;rw[G.out])|(refine zA (x:=.map (some w.heap.size)) (y:=vp) (w':=I) rfl 278 _ _ true rfl ?_ ?_ X.out ?_;rfl;rfl)|fail)
    refine(Ga w w.heap.size f cap wr.heap.size j s n (sPl N s n) l p).last 12 kR kR kR ⟨
     bN λa W b=>⟨[(4,sZ f l.length cap)],sZ f l.length cap,W,⟨b.o 4 kR,yCl⟩,kR,UQ _ _,rfl⟩,
     bN λa W b=>⟨[(7,iZ j)],iZ j,W,⟨b.o 7 kR,yCl⟩,kR,UQ _ _,rfl⟩,
     bN λa W b=>⟨[(4,sZ f l.length cap)],sZ f l.length cap,W,⟨b.o 4 kR,yCl⟩,kR,UQ _ _,rfl⟩,
     bN λa W b=>⟨[(7,iZ j)],iZ j,W,⟨b.o 7 kR,yCl⟩,kR,UQ _ _,rfl⟩,
     bN λa W b=>⟨[(36,sZ f l.length cap),(37,iZ j)],.pointer (some ⟨f,0+37*j,none⟩),W,⟨b.n 2 36 kR kR,b.n 3 37 kR kR,yCl⟩,by
      rw[V5.injEq];refine⟨kR,?_⟩;show((Vk 131 (sZ f l.length cap) (iZ j)) >>= λv=>pure (Xo v)).run prog W=_;rw[UU,atT f 0 l.length cap j S.out];rfl,UQ _ _,rfl⟩,
     bN λa W b=>⟨[(38,.pointer (some ⟨f,0+37*j,none⟩))],.pointer (some ⟨f,0+37*j,none⟩),W,⟨b.n 4 38 kR kR,yCl⟩,kR,UQ _ _,rfl⟩,
     iQ 49 39 rfl Go.Proofs.YtdoammpgchejcaaGreat.u40 λa W b=>⟨f,0+37*j,wn s,b.n 5 39 kR kR,by
      obtain⟨g5,ke,hz,-,-,V⟩:=sH b.b.1.ow HJ.2 (by have:=S.out;omega);injection hz with q1 q2 q3
      injection q1 with q1
      injection q1 with q1
      subst q1;have:=V j S.out;rw[HS S.out]at this;rw[UC];exact range_front' this,i40,rfl⟩,
     bN λa W b=>⟨[(6,jZ wr.heap.size)],jZ wr.heap.size,W,⟨b.o 6 kR,yCl⟩,kR,UQ _ _,rfl⟩,
     iQ 49 41 rfl Go.Proofs.YtdoammpgchejcaaGreat.u40 λa W b=>⟨wr.heap.size,0,wn n,b.n 7 41 kR kR,kA b.b.2.2.1,i40,rfl⟩,
     gK λa W b=>⟨[(40,nv s),(42,nv n)],80,#[nv s,nv n],⟨b.n 6 40 kR kR,b.n 8 42 kR kR,yCl⟩,kR,(mY J.1 s n hm.out k5.out W).mono (by
      rintro e W' ⟨u,rfl,V,rfl⟩;exact⟨_,rfl,V,rfl⟩)⟩,
     bN λa W b=>⟨[(34,sZ f l.length cap),(35,iZ j)],.pointer (some ⟨f,0+37*j,none⟩),W,⟨b.n 0 34 kR kR,b.n 1 35 kR kR,yCl⟩,by
      rw[V5.injEq];refine⟨kR,?_⟩;show((Vk 131 (sZ f l.length cap) (iZ j)) >>= λv=>pure (Xo v)).run prog W=_;rw[UU,atT f 0 l.length cap j S.out];rfl,UQ _ _,rfl⟩,
     bN λa W b=>⟨[(44,.pointer (some ⟨f,0+37*j,none⟩))],.pointer (some ⟨f,0+37*j,none⟩),W,⟨b.n 10 44 kR kR,yCl⟩,kR,UQ _ _,rfl⟩,yCl⟩ ⟨HK.1.drew,HK.2⟩ ?_
    intro V P h9 h6;have k1:=h9 9 dC;have h7:=h9 11 dC;obtain⟨W4,M⟩:=hE (P.setCells f (37*j) (wn (sPl N s n)));have K4:Hid (Mx w W4 w.heap.size (mrg N ns o (i+1)) (sZ f l.length cap)):=by
     rw[<-M.out,KN.out,<-(HS S.out)];exact h6.1.again HJ.2 HJ.1 S.out n
    have ka:Hid (P.there f (37*j) 4):=by
     intro t ht;have hj:=S.out;rcases h6.1.ow.2 with⟨h,-⟩|⟨g2,b,cur,he,-,hc,hn,-,hs,-⟩
     ·cases h
     ·injection he with he1 he2 he3
      injection he1 with he1
      injection he1 with he1
      subst he1;have k7:37*j+t<cur.size:=by
       rw[hs];have:(j+1)*37<=b*37:=Xr 37 oM;omega
      refine⟨?_,?_⟩
      ·simp[VX,hc,k7]
      ·simp[WV,hc]
    dsimp only[bU,VJ,List.take,List.drop];simp only[Act.put,List.setIfInBounds_toArray,Ut,List.set_cons_zero];obtain⟨vz,b⟩:=hE (nv (sPl N s n));rw[k1,h7,b.out,UC];go_wp2_with (first|(refine U1 rfl 49 _ _ rfl f (37*j) (wn (sPl N s n)).toArray ?_ ?_ ?_ ?_ ?_ ?_;rfl;exact b.symm;exact ka.out;exact i40;exact aM (sPl N s n);rw[show(wn (sPl N s n)).toArray.toList=wn (sPl N s n) from rfl,M.out])|fail)
    go_roundg (gk-1)
    case measure=>omega
    case rel=>exact⟨i+1,oM,rfl,K4⟩
  ·have k3:¬(i:Int)<(k:Int):=oM;obtain rfl:i=k:=oM;go_wp2_with fail
   refine(h2 wr _ KM.out).mono ?_;rintro e m ⟨r,rfl,b⟩;have f:=Hid.mk' b;go_wp2;go_ret;exact⟨_,rfl,f.out⟩
end
section
variable {P:Nat}[NeZero P]{N:Nat}
def LF(l:List (Nat × Bs)):List (Nat × Bs):=l.filter λx=>x.1 != 0
theorem oO{l:List (Nat × Bs)}{j:Nat}(k:j<l.length):LF (l.take (j+1))=LF (l.take j)++(if (l[j]).1=0 then [] else [l[j]]):=by
 unfold LF;rw[ZH,UF k,List.filter_append]
 congr 1
 by_cases h:(l[j]).1=0
 ·simp[h]
 ·simp[h]
theorem Oe(l:List (Nat × Bs))(j:Nat):(LF (l.take j)).length<=j:=
 UB (yAl _ _) (by rw[WE];exact Nat.min_le_left _ _)
theorem Br{l:List (Nat × Bs)}{x:Nat × Bs}(h:x∈LF l):x∈l:=(Y5.1 h).1
theorem uD{ns:Nat->Nat}:∀(m i:Nat),(∃j,i<=j/\j<i+m/\ns j=0)->∃k,kL ns i m=((k:Nat):Int)/\i<=k/\k<i+m/\ns k=0/\∀j,i<=j->j<k->ns j≠0
 | 0,i,h=>by obtain⟨j,g,e,-⟩:=h;omega
 | m+1,i,h=>by
  unfold kL;by_cases b:ns i=0
  ·rw[yCj b];exact⟨i,rfl,Uv _,oM,b,λj g e=>oM⟩
  ·rw[yCk b];obtain⟨j,g,e,f⟩:=h;obtain⟨k,o,q,e3,l,p⟩:=uD m (i+1) ⟨j,by
    rcases Wp i j with h|h
    ·omega
    ·obtain rfl:j=i:=oM;exact absurd f b,oM,f⟩
   refine⟨k,o,oM,oM,l,λd n c=>?_⟩;rcases Wp i d with h|h
   ·exact p d h c
   ·obtain rfl:d=i:=oM;exact b
def Rw(W:Uq)(g j:Nat)(x:Nat × Bs):Prop:=W.rangeAt g (37*j) (wn x.1++aA x.2)
theorem Rw.below{W W':Uq}{g j:Nat}{x:Nat × Bs}(h:Rw W g j x)(k:kZ W W')(b:g<W.heap.size):Rw W' g j x:=RG.range_below h k b
structure Dz(base:Nat)(w W:Uq)(g:Nat)(l:List (Nat × Bs))(j:Nat):Prop where
 bl:Below base w W
 hb:base<=W.heap.size
 lt:g<W.heap.size
 th:W.there g 0 (37*l.length)
 lo:∀a (ha:a<(LF (l.take j)).length),Rw W g a ((LF (l.take j))[a])
 hi:∀b (hb:b<l.length),j<=b->Rw W g b (l[b])
theorem Dz.grow{k:Nat}{w W W':Uq}{g:Nat}{l:List (Nat × Bs)}{j:Nat}(h:Dz k w W g l j)(c:kZ W W'):Dz k w W' g l j:=
 ⟨h.bl.trans (c.mono h.hb),UB h.hb c.size,Uw h.lt c.size,dJ h.th c h.lt,λa f=>(h.lo a f).below c h.lt,λb d e=>(h.hi b d e).below c h.lt⟩
theorem Dz.skip{k:Nat}{w W:Uq}{g:Nat}{l:List (Nat × Bs)}{j:Nat}(h:Dz k w W g l j)(c:j<l.length)(m:(l[j]).1=0):Dz k w W g l (j+1):=by
 have e:LF (l.take (j+1))=LF (l.take j):=by rw[oO c,yCj m,Xt]
 exact⟨h.bl,h.hb,h.lt,h.th,λa f=>by
  have i:=h.lo a (by rw[<-e];exact f);simp only[e];exact i,λb d c=>h.hi b d oM⟩
theorem Dz.put{k:Nat}{w W:Uq}{g:Nat}{l:List (Nat × Bs)}{j:Nat}(h:Dz k w W g l j)(s:k<=g)(q:∀x∈l.map (·.2),x.size=33)(m:j<l.length)(p:(l[j]).1≠0):
 Dz k w (W.setCells g (37*(LF (l.take j)).length) (wn (l[j]).1++aA (l[j]).2)) g l (j+1):=by
 have e:LF (l.take (j+1))=LF (l.take j)++[l[j]]:=by rw[oO m,yCk p]
 have u:=Oe l j;have f:∀x∈l,(wn x.1++aA x.2).length=37:=λx hx=>gJ (q x.2 (Vm.2 ⟨x,hx,rfl⟩))
 have c:=f (l[j]) (VG m);refine⟨RG.below_setCells s _ _ _ h.bl,by rw[setCells_size];exact h.hb,by rw[setCells_size];exact h.lt,VV h.th _ _ _,λa n=>?_,λb o r=>?_⟩
 ·simp only[e]at n⊢;by_cases d:a<(LF (l.take j)).length
  ·rw[List.getElem_append_left d];have v:=h.lo a d;have i:=yAp (Br (VG d));exact Vg v g _ _ (UW (U3 (by rw[f _ i];omega)))
  ·have i:a=(LF (l.take j)).length:=by rw[Uz,List.length_singleton]at n;omega
   subst i;rw[List.getElem_append_right (Uv _)];simp only[Nat.sub_self,List.getElem_singleton];refine VN W g _ _ λt v=>?_
   rw[c]at v;have:=h.th (37*(LF (l.take j)).length+t) oM;rwa[UC]at this
 ·exact Vg (h.hi b o oM) g _ _ (UW (UW (by rw[c];omega)))
theorem Hg(n:Nat):∀v∈(WC (U2 zT.toArray).cells n).toList,v.oneCell'=true:=by
 intro v hv;have d:=Ol;have b:(U2 zT.toArray).cells.size=37:=kR;unfold WC at hv;rw[Array.toList_map]at hv;obtain⟨i,-,rfl⟩:=Vm.1 hv;have k:i%(U2 zT.toArray).cells.size<(U2 zT.toArray).cells.size:=V4 _ (by rw[b];decide);rw[getElem!_pos (U2 zT.toArray).cells _ k];exact d _ (by
  have e:(U2 zT.toArray).cells.toList=zT:=kR;have c:=Array.getElem_mem_toList k;rwa[e]at c)
theorem MS(g i n c:Nat)(w:Uq)(p:0<n)(h:w.there g 0 (37*(i+n))):∃Z:List Us,∀d,(yAK #[131] d #[.slice (some ⟨g,37*i,none⟩) n c]).run prog w=.ok (.tuple #[]) (w.setCells g (37*i) Z):=by
 have e:=Oj w;have l:=XX C3 w;have ho:=Hg n;have k:(WC (U2 zT.toArray).cells n).toList.length=n*37:=by
  have:(U2 zT.toArray).cells.size=37:=kR;rw[UJ,size_zeroCells,this]
 generalize (U2 zT.toArray)=o at e ho k;generalize m:(WC o.cells n).toList=Z at ho k;have f:(storeCells ⟨g,37*i,none⟩ Z).run prog w=.ok () (w.setCells g (37*i) Z):=
  run_storeCells_cells (P:=prog) g (37*i) Z 0 w (λj b=>by rw[k]at b;have:=(h (37*i+j) oM).1;simpa using this) (λj b=>by rw[k]at b;have:=(h (37*i+j) oM).2;simpa using this) ho
 refine⟨Z,λd=>?_⟩;obtain⟨b,rfl⟩:∃b,n=b+1:=⟨n-1,oM⟩
 unfold yAK;simp[UU,l,e,m,f]
theorem Tn(g n c i:Nat)(b:i<=n)(k:n<=c)(w:Uq):(Xm 131 (sZ g n c) none (some (iZ i)) none).run prog w=.ok (sZ g i c) w:=by
 have e:¬(i:Int)<0:=oM;have d:(i:Int)<=(c:Int):=oM;go_simp
theorem Tk(g n c i:Nat)(b:i<n)(k:n<=c)(w:Uq):(Xm 131 (sZ g n c) (some (iZ i)) none none).run prog w=.ok (.slice (some ⟨g,37*i,none⟩) (n-i) (c-i)) w:=by
 have e:¬(i:Int)<0:=oM;have d:(i:Int)<=(n:Int):=oM;go_simp;rw[yCk oM,Vu]
def TmL(W:Uq)(q:Option Wt)(l:List (Nat × Bs)):Prop:=0<l.length->∃g,q=some (aZ g)/\g<W.heap.size/\∀j (k:j<l.length),W.rangeAt g (37*j) (wn (l[j]).1++aA (l[j]).2)
def Um(k:Nat)(l:List (Nat × Bs))(w:Uq)(e:Us)(w':Uq):Prop:=Below k w w'/\∃q cap,e=.slice q (LF l).length cap/\TmL w' q (LF l)
theorem Gc{l:List (Nat × Bs)}(h:∀x∈l,x.1≠0):LF l=l:=List.filter_eq_self.2 λx hx=>by simpa using h x hx
theorem Od{l:List (Nat × Bs)}{k:Nat}(d:k<l.length)(c:(l[k]).1=0):∀j,k<j->j<=l.length->(LF (l.take j)).length<j
 | 0,h,_=>oM
 | j+1,h,hj=>by
  rw[oO oM,Uz];rcases Wp k j with b|b
  ·have:=Od d c j b oM;split<;>simp<;>omega
  ·obtain rfl:j=k:=oM;rw[yCj c];have:=Oe l j;simp;omega
theorem JK(l:List (Nat × Bs))(hl:0<l.length)(hq:l.length<=1000)(hs:∀x∈l.map (·.2),x.size=33)(hn:∀x∈l,x.1<top)(d:Nat)(v:Us)(w:Uq)(hb:d<=w.heap.size)(ho:w.ownsRow d 226 37 v l.length (aU l)):
 UG prog 204 #[v,.func (.func 205) #[] #[]] w (Ret (Um d l w)):=by
 obtain⟨g,c,rfl,Y,A,R⟩:=sH ho hs hl;have G:∀(j:Nat) (k:j<l.length),(l[j]).2.size=33:=λj k=>hs _ (Vm.2 ⟨_,VG k,rfl⟩)
 have C:l.length<=c/\w.there g 0 (37*l.length):=by
  rcases ho.2 with⟨h,-⟩|⟨z,r,cur,s,-,q,f,-,o,-⟩
  ·cases h
  ·injection s with he1 he2 he3
   injection he1 with he1
   injection he1 with he1
   subst he1;subst he3;refine⟨f,λt ht=>?_⟩;have y:0+t<cur.size:=by
    rw[o];have:l.length*37<=c*37:=Xr 37 f;omega
   exact⟨by simp only[VX,q];simp;omega,by simp[WV,q]⟩
 by_cases s:∀x∈l,x.1≠0
 ·have J:=Gc s;refine(Cw g l.length c oM (λj=>((l[j]?).getD (0,#[])).1) (λj=>((l[j]?).getD (0,#[])).2) (λj k=>by rw[UF k];exact hn _ (VG k)) (λj k=>by rw[UF k];exact s _ (VG k)) (λj k=>by rw[UF k];exact G j k) w A (λj k=>by rw[UF k];exact R j k)).mono ?_;rintro e o ⟨vv,rfl,f,rfl⟩;refine⟨_,rfl,f.mono hb,some (aZ g),c,by rw[J],?_⟩;rw[J];exact λ_=>⟨g,rfl,Uw A f.size,λj k=>RG.range_below (R j k) f A⟩
 ·have hI:=E0 g l.length c oM (λj=>((l[j]?).getD (0,#[])).1) (λj=>((l[j]?).getD (0,#[])).2) (λj k=>by rw[UF k];exact hn _ (VG k)) (λj k=>by rw[UF k];exact G j k) w A (λj k=>by rw[UF k];exact R j k);obtain⟨q,e1,-,e3,S,e5⟩:=uD (ns:=λj=>((l[j]?).getD (0,#[])).1) l.length 0 (by
   have:∃x,x∈l/\x.1=0:=Ws λh=>s λx hx L=>h ⟨x,hx,L⟩
   obtain⟨x,hx,f⟩:=this;obtain⟨j,k⟩:=WI hx;exact⟨j,Wx _,by have:=(UE.1 k).1;omega,by show((l[j]?).getD (0,#[])).1=0;rw[k];exact f⟩)
  rw[e1]at hI;have F:q<l.length:=oM;have E:(l[q]).1=0:=by
   have:((l[q]?).getD (0,#[])).1=0:=S;rw[UF F]at this;exact this
  have B:LF (l.take q)=l.take q:=Gc λx hx=>by
   obtain⟨j,k⟩:=WI hx;rw[Wz]at k;split at k
   ·rename_i hji
    have:=e5 j (Wx _) hji;have f:((l[j]?).getD (0,#[])).1≠0:=this;rw[k]at f;exact f
   ·cases k
  have D:(LF (l.take q)).length=q:=by rw[B,WE];omega
  have D0:Dz d w w g l q:=⟨UQ _ _,hb,A,C.2,λa P=>by
   simp only[B]at P⊢;rw[List.getElem_take];exact R a _,λb f _=>R b f⟩
  have D1:Dz d w w g l (q+1):=D0.skip F E;have e6:(LF (l.take (q+1))).length=q:=by rw[oO F,yCj E,Xt];exact D
  have HI:=Hid.mk' hI;have HZ:Hid (∀j,q<j->j<=l.length->(LF (l.take j)).length<j):=Od F E;have h2:=Hid.mk' D1;have H:Hid (d<=g/\l.length<=c/\(∀x∈l.map (·.2),x.size=33)/\(∀x∈l,x.1<top)/\∀(j:Nat) (k:j<l.length),(l[j]).2.size=33):=⟨Y,C.1,hs,hn,G⟩
  obtain⟨d',h9,h3⟩:=Ux.1 uT;have T:Hid (prog.underlying 226=some d'/\d'.isRow=true):=⟨h9,h3⟩
  have hy:¬((q:Int) = -1):=oM;clear h9 h3 hI D0 D1 hs hn ho R G C s e1 S e5 B D E Y A;go_enter func204,ntmps204;go_wp2_with fail
  refine HI.mono ?_;rintro e w1 ⟨vv,rfl,h5,rfl⟩;have K1:Hid (Dz d w w1 g l (q+1)):=h2.grow h5;clear h5 HI h2;go_wp2_with fail
  go_loopg [5,6] (l.length-(q+1)) (λm s5 s6 W=>∃j:Nat,q<j/\j+m=l.length/\s6=iZ j/\s5=iZ ((LF (l.take j)).length:Int)/\Hid (Dz d w W g l j))
  case atStart=>exact⟨q+1,oM,oM,rfl,by rw[e6],K1⟩
  case round =>
   clear K1;obtain⟨j,X,hz,rfl,rfl,I⟩:=hrel;by_cases k:j<l.length
   ·have hi:(j:Int)<(l.length:Int):=oM;obtain⟨n,r⟩:∃n,Hid ((l[j]'k).1=n):=⟨(l[j]'k).1,(rfl:(l[j]'k).1=(l[j]'k).1)⟩
    obtain⟨p,O⟩:∃p,Hid ((l[j]'k).2=p):=⟨(l[j]'k).2,(rfl:(l[j]'k).2=(l[j]'k).2)⟩
    obtain⟨i,o⟩:∃i,Hid ((LF (l.take j)).length=i):=⟨_,rfl⟩
    have z:i<l.length:=by have:=HZ.out j X oM;rw[o.out]at this;omega
    rw[o.out];have hg:Hid (p.size=33):=by rw[<-O.out];exact H.2.2.2.2 j k
    have hk:Hid (n<top):=by rw[<-r.out];exact H.2.2.2.1 _ (VG k)
    have B0:Hid (wr.rangeAt g (37*j) (wn n++aA p)):=by
     have h:=I.hi j k (Uv _);unfold Rw at h;rw[r.out,O.out]at h;exact h
    obtain⟨K,h4⟩:∃K,Hid (wr.alloc (.cells zT.toArray 226)=K):=⟨_,rfl⟩
    obtain⟨U,h7⟩:∃U,Hid (K.setCells wr.heap.size 0 (wn n++aA p)=U):=⟨_,rfl⟩
    have y:(wn n++aA p).length=37:=gJ hg.out;have F1:Hid (Row K wr.heap.size zT/\kZ wr K/\K.heap.size=wr.heap.size+1):=by rw[<-h4.out];exact⟨aE wr _ _,aC wr _,UA _ _⟩
    have F2:Hid (Row U wr.heap.size (wn n++aA p)/\kZ wr U):=by rw[<-h7.out];exact⟨F1.1.put (by rw[y];rfl),RG.below_setCells (Uv _) _ _ _ F1.2.1⟩
    have Q:Hid ((prog.info? 226).map (·.size)=some (wn n++aA p).length):=by show _=_;rw[y];exact iT
    have M:Hid ((prog.info? 226).map (·.size)=some (wn n++aA p).toArray.size/\K.there wr.heap.size 0 (wn n++aA p).toArray.size):=by
     have e:(wn n++aA p).toArray.size=37:=by rw[VB];exact y
     rw[e];exact⟨iT,F1.1.2.2⟩
    have Z:Hid ((wn n++aA p).toArray.all (·.oneCell')=true):=by
     show _=_;rw[WW];intro u f;exact cells_one n p u (X6.1 f)
    have hw:=atT g 0 l.length c j k;obtain⟨vt,h1⟩:∃v,Hid (tvl n p=v):=⟨_,rfl⟩
    have f:Hid (U2 (wn n++aA p).toArray=vt):=h1;have K2:Hid (Dz d w U g l j):=I.grow F2.2;have HN:=Hid.mk' (I1 hk.out hg.out U);rw[h1.out]at HN;clear I;go_wp2_with (first|(refine U5 rfl 226 _ rfl g (37*j) ?_ (wn n++aA p) d' ?_ ?_ ?_ ?_ ?_;rfl;exact B0.out;exact T.1;exact T.2;exact Q.out;rw[f.out])|(refine bG (v:=jZ wr.heap.size) (w':=K) rfl (.alloc 226) rfl ?_ ?_;(rw[<-h4.out];kernel_rfl))|(refine U1 rfl 226 _ _ rfl wr.heap.size 0 (wn n++aA p).toArray ?_ ?_ ?_ ?_ ?_ ?_;rfl;exact f.symm;exact M.2;exact M.1;exact Z.out;rw[show(wn n++aA p).toArray.toList=wn n++aA p from rfl,h7.out])|(refine U5 rfl 226 _ rfl wr.heap.size 0 ?_ (wn n++aA p) d' ?_ ?_ ?_ ?_ ?_;rfl;exact F2.1.2.1;exact T.1;exact T.2;exact Q.out;rw[f.out])|fail)
    refine HN.mono ?_;rintro e V ⟨vv,rfl,N,rfl⟩;have K3:Hid (Dz d w V g l j/\Row V wr.heap.size (wn n++aA p)):=⟨K2.grow N,F2.1.below N⟩
    clear N K2 HN F2 F1;by_cases L:n=0
    ·rw[show decide (n=0)=true by simp[L]];have K4:Hid (Dz d w V g l (j+1)):=K3.1.skip k (by rw[r.out];exact L);have S:Hid ((LF (l.take (j+1))).length=i):=by
      show _=_;rw[oO k,yCj (by rw[r.out];exact L),Xt];exact o.out
     go_wp2;go_roundg (gk-1)
     case measure=>omega
     case rel=>exact⟨j+1,oM,oM,rfl,by rw[S.out],K4⟩
    ·rw[show decide (n=0)=false by simp[L]];obtain⟨W4,h8⟩:∃W4,Hid (V.setCells g (37*i) (wn n++aA p)=W4):=⟨_,rfl⟩
     have K4:Hid (Dz d w W4 g l (j+1)):=by
      have h:=K3.1.put H.1 H.2.2.1 k (by rw[r.out];exact L);rw[o.out,r.out,O.out,h8.out]at h;exact h
     have S:Hid ((LF (l.take (j+1))).length=i+1):=by
      show _=_;rw[oO k,yCk (by rw[r.out];exact L),Uz,o.out];rfl
     have hm:Hid (V.there g (37*i) (wn n++aA p).toArray.size):=by
      have e:(wn n++aA p).toArray.size=37:=by rw[VB];exact y
      rw[e];intro t ht;have:=K3.1.th (37*i+t) oM;rwa[UC]at this
     have hp:=atT g 0 l.length c i z;go_wp2_with (first|(refine U5 rfl 226 _ rfl wr.heap.size 0 ?_ (wn n++aA p) d' ?_ ?_ ?_ ?_ ?_;rfl;exact K3.2.2.1;exact T.1;exact T.2;exact Q.out;rw[f.out])|(refine U1 rfl 226 _ _ rfl g (37*i) (wn n++aA p).toArray ?_ ?_ ?_ ?_ ?_ ?_;rfl;exact f.symm;exact hm.out;exact M.1;exact Z.out;rw[show(wn n++aA p).toArray.toList=wn n++aA p from rfl,h8.out])|fail)
     go_roundg (gk-1)
     case measure=>omega
     case rel=>exact⟨j+1,oM,oM,rfl,by rw[S.out];rfl,K4⟩
   ·have hi:¬(j:Int)<(l.length:Int):=oM;obtain rfl:j=l.length:=oM;have J:LF (l.take l.length)=LF l:=by rw[yAZ]
    rw[J];have z:(LF l).length<l.length:=by have:=HZ.out l.length X (Uv _);rw[J]at this;exact this
    have y:∀a (P:a<(LF l).length),Rw wr g a ((LF l)[a]):=λa P=>by
     have:=I.lo a (by rw[J];exact P);simp only[J]at this;exact this
    have f:∀x∈LF l,(wn x.1++aA x.2).length=37:=λx hx=>gJ (H.2.2.1 _ (Vm.2 ⟨x,Br hx,rfl⟩))
    obtain⟨Z,N⟩:=MS g (LF l).length (l.length-(LF l).length) (c-(LF l).length) wr oM (by rw[show(LF l).length+(l.length-(LF l).length)=l.length by omega];exact I.th);obtain⟨K,r⟩:∃K,Hid (wr.setCells g (37*(LF l).length) Z=K):=⟨_,rfl⟩
    rw[r.out]at N;have O:Hid (Below d w K/\TmL K (some (aZ g)) (LF l)):=by
     rw[<-r.out];refine⟨RG.below_setCells H.1 _ _ _ I.bl,λ_=>⟨g,rfl,by rw[setCells_size];exact I.lt,λa P=>?_⟩⟩;exact Vg (y a P) g _ _ (UW (U3 (by rw[f _ (VG P)];omega)))
    have M:=Tk g l.length c (LF l).length z H.2.1;have L:=Tn g l.length c (LF l).length oM H.2.1;clear I y f J r;obtain⟨i,o⟩:∃i,Hid ((LF l).length=i):=⟨_,rfl⟩
    rw[o.out]at M L N z⊢;go_wp2;go_ret;exact⟨_,rfl,O.1,some (aZ g),c,by rw[o.out];rfl,O.2⟩
theorem QD{p:Option Wt}{n c:Nat}{x:UInt8}:encB x≠.slice p n c:=λh=>by cases h
def El(n:Nat)(W:Uq)(x:Us)(b:Bs):Prop:=∃k c,x=sZ k n c/\n<=c/\b.size=n/\k<W.heap.size/\Holds encB W k 0 b
def isL(n:Nat)(W:Uq)(g:Nat):Prop:=∃p c,W.cell? ⟨g,0,none⟩=some (.slice p n c)
structure Gr(n:Nat)(v:Us)(W W':Uq):Prop where
 gr:W.grownBy W' v.ownBlock
 is:∀g,v.ownBlock=some g->isL n W g
theorem Gr.of{W W':Uq}{n:Nat}(h:kZ W W'):Gr n (.slice none 0 0) W W':=
 ⟨⟨h.os,h.tape,h.output,h.size,λk b _=>h.block k b⟩,λg c=>by cases c⟩
theorem Gr.below{n:Nat}{v:Us}{w W W':Uq}{B:Nat}(h:Gr n v W W')(c:Below B w W)(b:B<=W.heap.size)(hv:∀g,v.ownBlock=some g->B<=g):Below B w W':=
 c.grown h.gr b (λk d=>hv k d)
theorem Gr.block{n k:Nat}{v:Us}{W W':Uq}(h:Gr n v W W')(d:k<W.heap.size)(b:∀p c,W.cell? ⟨k,0,none⟩≠some (.slice p n c)):W'.heap[k]? = W.heap[k]? :=
 h.gr.block k d λe=>by
  obtain⟨p,c,f⟩:=h.is k e.symm;exact b p c f
theorem Holds.kept{W W':Uq}{k:Nat}{b:Bs}(h:Holds encB W k 0 b)(e:W'.heap[k]? = W.heap[k]?):Holds encB W' k 0 b:=λj c=>by
 rw[UV (a:=⟨k,0+j,none⟩) e,VT (a:=⟨k,0+j,none⟩) e];exact h j c
theorem El.kept{m n:Nat}{v x:Us}{W W':Uq}{b:Bs}(h:El m W x b)(o:0<m)(d:Gr n v W W'):El m W' x b:=by
 obtain⟨k,c,rfl,j,g,f,e⟩:=h;refine⟨k,c,rfl,j,g,Uw f d.gr.size,Holds.kept e (d.block f λp l i=>?_)⟩;have:=(e 0 oM).1;rw[UC,i]at this;exact QD (UN.inj this).symm
theorem Row.kept{n k:Nat}{v:Us}{W W':Uq}{vs:List Us}(h:Row W k vs)(g:Gr n v W W')(b:∀p c,vs[0]?≠some (.slice p n c))(f:0<vs.length):Row W' k vs:=by
 have e:=g.block h.1 λp c i=>by
  have d:=h.2.1 0 vs[0] (UF f);rw[UC,i]at d;exact b p c (by rw[UF f,d])
 refine⟨Uw h.1 g.gr.size,λj u d=>?_,λj d=>?_⟩
 ·rw[UV (a:=⟨k,0+j,none⟩) e];exact h.2.1 j u d
 ·rw[UV (a:=⟨k,0+j,none⟩) e,VT (a:=⟨k,0+j,none⟩) e];exact h.2.2 j d
structure Lo(n base:Nat)(W:Uq)(v:Us)(bs:List Bs):Prop where
 ex:∃xs:List Us,xs.length=bs.length/\W.ownsRow base 23 1 v bs.length xs/\∀(j:Nat) (x:Us) (b:Bs),xs[j]? = some x->bs[j]? = some b->El n W x b
 nil:bs=[]->v=.slice none 0 0
theorem Lo.begin(n k:Nat)(W:Uq):Lo n k W (.slice none 0 0) []:=⟨⟨[],rfl,yAH _ _ _ _,λj x b h=>by cases h⟩,λ_=>rfl⟩
theorem add0(g j:Nat):(⟨g,0,none⟩:Wt).add j=⟨g,j,none⟩:=by unfold Zi;split<;>simp_all
theorem Lo.isL{n d:Nat}{W:Uq}{v:Us}{j:List Bs}(h:Lo n d W v j){g:Nat}(i:v.ownBlock=some g):isL n W g:=by
 obtain⟨xs,o,m,l⟩:=h.ex;have f:j≠[]:=λe=>by rw[h.nil e]at i;cases i
 cases j with
 | nil=>exact absurd rfl f
 | cons b r =>
  cases xs with
  | nil=>cases o
  | cons x xr =>
   obtain⟨k,c,rfl,-⟩:=l 0 x b rfl rfl;have:=m.cells i 0 _ rfl;rw[add0]at this;exact⟨_,_,this⟩
theorem Lo.lt{n k:Nat}{W:Uq}{v:Us}{c:List Bs}(h:Lo n k W v c):∀g,v.ownBlock=some g->k<=g/\g<W.heap.size:=by
 obtain⟨xs,e,b,d⟩:=h.ex;exact b.lt
theorem Lo.kept{m n d:Nat}{W W':Uq}{v s:Us}{l:List Bs}(h:Lo m d W v l)(u:0<m)(f:Gr n s W W')(i:m≠n):Lo m d W' v l:=by
 have q:=λ{g}=>h.isL (g:=g)
 obtain⟨xs,y,r,t⟩:=h.ex;refine⟨⟨xs,y,r.kept f.gr ?_,λj x b hx o=>(t j x b hx o).kept u f⟩,h.nil⟩;cases hv:v.ownBlock with
 | none=>exact U3 rfl
 | some g =>
  refine UW λe=>i ?_
  obtain⟨p,c,w⟩:=q hv;obtain⟨a,z,k⟩:=f.is g e.symm;rw[w]at k;injection k with k
  injection k with _ h5 _
theorem RP:(prog.info? 23).map (λi=>(i.size,i.bytes,i.zero.map λz=>z.cells.size))=some (1,24,some 1):=kR
theorem Tc:prog.underlying 24=some (.slice 23):=kR
theorem Lo.app{n f g:Nat}{W:Uq}{v x:Us}{o:List Bs}{b:Bs}(h:Lo n f W v o)(w:0<n)(hx:El n W x b)(J:W.cell? ⟨g,0,none⟩=some x)(O:o.length<=1000000)(B:f<=W.heap.size):
 ∃q W',(Vr #[24,24] 24 #[v,sZ g 1 1]).run prog W=.ok q W'/\Lo n f W' q (o++[b])/\Gr n v W W':=by
 obtain⟨i,K,t⟩:=Ux.1 RP;simp only[V5.injEq]at t;obtain⟨N,E,F⟩:=t;obtain⟨z,H,s⟩:=Ux.1 F;obtain⟨xs,a,D,L⟩:=h.ex;obtain⟨q,W',A,I,M,Q⟩:=Y1 (P:=prog) W f 24 24 23 i z 1 24 Tc K H N E s dC v o.length xs D (aZ g) 1 1 [x] rfl
  (λj u r=>by
   cases j with
   | zero =>
    obtain rfl:x=u:=by simpa using r
    rw[add0];exact J
   | succ j=>simp at r) (λu l=>by
   obtain rfl:u=x:=by simpa using l
   obtain⟨k,c,rfl,-⟩:=hx;rfl) (by unfold maxLen;omega) oM B
 have G:Gr n v W W':=⟨M,λg C=>h.isL C⟩
 refine⟨q,W',A,⟨⟨xs++[x],by simp[a],by rw[Uz];exact I,λj y c m l=>?_⟩,λe=>by simp at e⟩,G⟩;by_cases r:j<o.length
 ·rw[US oM]at m l;exact(L j y c m l).kept w G
 ·rw[U0 oM]at m l;rw[a]at m;cases p:j-o.length with
  | zero =>
   rw[p]at m l;obtain rfl:x=y:=by simpa using m
   obtain rfl:b=c:=by simpa using l
   exact hx.kept w G
  | succ d=>rw[p]at m;simp at m
theorem Gu{a:Bs}(g:a.size=33)(w:Uq):UG prog 142 #[pvl a] w (rZ w λe w'=>El 33 w' e a):=by
 have f:=Hid.mk' (rM g w);obtain⟨c,k⟩:=hE (w.alloc (.cells (aA a).toArray 103));rw[k.out]at f;have K:Hid (Row c w.heap.size (aA a)/\kZ w c):=by rw[<-k.out];exact⟨aE w _ _,aC w _⟩
 obtain⟨va,b⟩:=hE (pvl a);have d:Hid ((Vd 103 va).run prog w=.ok (jZ w.heap.size) c):=by rw[<-b.out];exact f
 rw[b.out];have i:=QM w.heap.size;go_enter func142,ntmps142;go_wp2_with (first|(refine aF (u:=va) (v:=jZ w.heap.size) (w':=c) rfl 103 (.tmp 0) rfl ?_ ?_ ?_;rfl;exact d.out))
 go_ret;exact⟨_,rfl,K.2,w.heap.size,33,rfl,oM,g,K.1.1,row_holds K.1⟩
def Bo(n c:Nat)(W:Uq)(v:Us)(b:Bs):Prop:=∃k x,v=sZ k 1 1/\c<=k/\k<W.heap.size/\W.cell? ⟨k,0,none⟩=some x/\El n W x b
theorem Bo.kept{m n c:Nat}{W W':Uq}{v u:Us}{b:Bs}(h:Bo n c W v b)(i:0<n)(d:Gr m u W W')(o:∀g,u.ownBlock=some g->g<c):Bo n c W' v b:=by
 obtain⟨k,x,rfl,p,f,l,j⟩:=h;refine⟨k,x,rfl,p,Uw f d.gr.size,?_,j.kept i d⟩;rw[UV (a:=⟨k,0,none⟩) (d.gr.block k f λe=>by have:=o k e.symm;omega)];exact l
def Tm(W:Uq)(q:Option Wt)(k:Nat)(ns:Nat->Nat)(b:Nat->Bs):Prop:=0<k->∃g,q=some (aZ g)/\g<W.heap.size/\∀j,j<k->W.rangeAt g (37*j) (wn (ns j)++aA (b j))
theorem Tm.kept{m k:Nat}{W W':Uq}{u:Us}{q:Option Wt}{ns:Nat->Nat}{b:Nat->Bs}(h:Tm W q k ns b)(l:Gr m u W W'):Tm W' q k ns b:=λf=>by
 obtain⟨g,t,n,o⟩:=h f;refine⟨g,t,Uw n l.gr.size,λj r i v hv=>?_⟩;have e:=l.block n λp c s=>by
  have d:=o 0 f 0 _ (show(wn (ns 0)++aA (b 0))[0]? = some _ from rfl);rw[show 37*0+0=0 from rfl,s]at d;cases d
 rw[UV (a:=⟨g,37*j+i,none⟩) e];exact o j r i v hv
section
variable (w0:Uq) (v3 v4:Us) (k6 n B0 base:Nat) (p:Bs) (bs cs:List Bs) (q:Option Wt) (k:Nat) (ns:Nat->Nat) (az:Nat->Bs)
def PR:Nat->Us->Uq->Prop
 | 0,v,_=>v=v3
 | 1,v,_=>v=jZ k6
 | 2,v,_=>v=nv n
 | 3,v,w=>El 32 w v (bx n)
 | 4,v,w=>Bo 32 B0 w v (bx n)
 | 5,v,w=>Lo 32 base w v (bs++[bx n])
 | 6,v,_=>v=v4
 | 7,v,_=>v=oZ k6 4
 | 8,v,_=>v=pvl p
 | 9,v,w=>El 33 w v p
 | 10,v,w=>Bo 33 B0 w v p
 | 11,v,w=>Lo 33 base w v (cs++[p])
 | 12,v,w=>Lo 32 base w v (bs++[bx n])
 | 13,v,w=>Lo 33 base w v (cs++[p])
 | _,_,_=>True
def PBs:Nat->Uq->Prop
 | 0,w=>Row w k6 (wn n++aA p)
 | 1,w=>Lo 32 base w v3 bs
 | 2,w=>Lo 33 base w v4 cs
 | 3,w=>Below base w0 w/\base<=w.heap.size/\B0<=w.heap.size
 | 4,w=>Tm w q k ns az
 | 5,w=>Row w base z33
 | _,_=>True
def PE:Nat->Uq->Uq->Prop
 | 5=>Gr 32 v3
 | 11=>Gr 33 v4
 | _=>Gr 0 (.slice none 0 0)
def Pk1:Nat->List Nat
 | 4=>[5]
 | 10=>[11]
 | _=>[]
def Pk2:Nat->List Nat
 | 1=>[5]
 | 2=>[11]
 | _=>[]
def FP:Flow:=⟨PR v3 v4 k6 n B0 base p bs cs,PBs w0 v3 v4 k6 n B0 base p bs cs q k ns az,PE v3 v4,Pk1,Pk2⟩
theorem Ku{i:Nat}{w w':Uq}(h:PE v3 v4 i w w'):∃m u,Gr m u w w'/\((i=5/\m=32/\u=v3)\/(i=11/\m=33/\u=v4)\/(i≠5/\i≠11/\m=0/\u=.slice none 0 0)):=by
 unfold PE at h;split at h
 ·exact⟨_,_,h,U3 ⟨rfl,rfl,rfl⟩⟩
 ·exact⟨_,_,h,UW (U3 ⟨rfl,rfl,rfl⟩)⟩
 ·rename_i h1 h2
  exact⟨_,_,h,UW (UW ⟨h1,h2,rfl,rfl⟩)⟩
variable (hv3:∀g,v3.ownBlock=some g->base<=g/\g<B0) (hv4:∀g,v4.ownBlock=some g->base<=g/\g<B0)
include hv3 hv4
theorem Kt{i m:Nat}{u:Us}(h:(i=5/\m=32/\u=v3)\/(i=11/\m=33/\u=v4)\/(i≠5/\i≠11/\m=0/\u=.slice none 0 0)):∀g,u.ownBlock=some g->base<=g/\g<B0:=by
 rcases h with⟨-,-,rfl⟩|⟨-,-,rfl⟩|⟨-,-,-,rfl⟩
 ·exact hv3
 ·exact hv4
 ·intro g k;cases k
theorem Qn(i j:Nat)(r:j<14)(c:i≠j)(t:(Pk1 j).contains i=false)(q:¬(j=12/\i=5))(d:¬(j=13/\i=11))(v:Us)(w w':Uq)(hE:PE v3 v4 i w w')(hR:PR v3 v4 k6 n B0 base p bs cs j v w):PR v3 v4 k6 n B0 base p bs cs j v w':=by
 obtain⟨m,u,k,o⟩:=Ku v3 v4 hE;have s:=Kt v3 v4 B0 base hv3 hv4 o;have f:m=32->i=5:=λh=>by rcases o with⟨q,-⟩|⟨-,d,-⟩|⟨-,-,d,-⟩<;>omega
 have l:m=33->i=11:=λh=>by rcases o with⟨-,d,-⟩|⟨q,-⟩|⟨-,-,d,-⟩<;>omega
 match j,r,hR with
 | 0,_,h=>exact h
 | 1,_,h=>exact h
 | 2,_,h=>exact h
 | 3,_,h=>exact El.kept h dC k
 | 4,_,h=>exact Bo.kept h dC k λg b=>(s g b).2
 | 5,_,h=>exact Lo.kept h dC k λe=>c (f e.symm)
 | 6,_,h=>exact h
 | 7,_,h=>exact h
 | 8,_,h=>exact h
 | 9,_,h=>exact El.kept h dC k
 | 10,_,h=>exact Bo.kept h dC k λg b=>(s g b).2
 | 11,_,h=>exact Lo.kept h dC k λe=>c (l e.symm)
 | 12,_,h=>exact Lo.kept h dC k λe=>q ⟨rfl,f e.symm⟩
 | 13,_,h=>exact Lo.kept h dC k λe=>d ⟨rfl,l e.symm⟩
 | _+14,r,_=>omega
theorem Nm(i b:Nat)(f:(Pk2 b).contains i=false)(w w':Uq)(hE:PE v3 v4 i w w')(hR:PBs w0 v3 v4 k6 n B0 base p bs cs q k ns az b w):PBs w0 v3 v4 k6 n B0 base p bs cs q k ns az b w':=by
 obtain⟨m,u,d,r⟩:=Ku v3 v4 hE;have t:=Kt v3 v4 B0 base hv3 hv4 r;have o:m=32->i=5:=λh=>by rcases r with⟨v,-⟩|⟨-,l,-⟩|⟨-,-,l,-⟩<;>omega
 have s:m=33->i=11:=λh=>by rcases r with⟨-,l,-⟩|⟨v,-⟩|⟨-,-,l,-⟩<;>omega
 match b,f,hR with
 | 0,_,h=>exact Row.kept h d (λp c e=>by cases e) (by rw[Uz];exact Uw dC (Y8 4 _))
 | 1,f,h=>exact Lo.kept h dC d λe=>by rw[o e.symm]at f;cases f
 | 2,f,h=>exact Lo.kept h dC d λe=>by rw[s e.symm]at f;cases f
 | 3,_,h=>exact⟨d.below h.1 h.2.1 λg j=>(t g j).1,UB h.2.1 d.gr.size,UB h.2.2 d.gr.size⟩
 | 4,_,h=>exact Tm.kept h d
 | 5,_,h=>exact Row.kept h d (λp c e=>by cases e) dC
 | _+6,_,_=>trivial
end
theorem Lo.drew{n k:Nat}{W:Uq}{v:Us}{b:List Bs}(h:Lo n k W v b):Lo n k W.drew v b:=⟨h.ex,h.nil⟩
theorem SumR.all(C:Fld P)(O:Ord N){w w':Uq}{k:Nat}(y:k<=512){ns:Nat->Nat}{X:Nat->EC.Pt P}(m:∀j,j<k->ns j<N)(u:∀j,j<k->On (X j)){L M:Nat->Bs}(t:∀j,j<k->L j=bx (ns j))(x:∀j,j<k->M j=wr (X j)){e:Us}(h:SumR P N w k k L M e w'):
 Hb w (wr (tot X k (λj=>(ns j:Int)))) e w':=by
 have q:∀j,j<k->rq N (L j)=some (ns j):=λj b=>by
  rw[t j b];have c:=Bm (Uw (m j b) O.le);unfold rq;rw[yCj ⟨eE _,by rw[c];exact m j b⟩,c]
 have r:∀j,j<k->∃p,rd P (M j)=some p/\pt p=X j:=λj b=>by rw[x j b];exact zM C (u j b)
 rcases h with⟨h,-⟩|⟨-,h,-⟩|⟨-,-,⟨⟨j,b,c⟩,-⟩|⟨f,n,⟨⟨j,b,c⟩,-⟩|⟨xs,ys,l,h⟩⟩⟩
 ·exact absurd rfl h
 ·omega
 ·rw[q j b]at c;cases c
 ·obtain⟨p,d,-⟩:=r j b;rw[d]at c;cases c
 ·have s:∀j,j<k->f j=ns j:=λj b=>by
   have:=n j b;rw[q j b]at this;exact(UN.inj this).symm
  have d:∀j,j<k->Pair (xs j) (ys j) (X j)/\On (X j):=λj b=>by
   obtain⟨p,d,hpt⟩:=r j b;have o:=l j b;rw[d]at o;have v:=UN.inj o;have g:=QW C d;rw[hpt]at g;rw[v]at g;exact g
  have o:=BE C (ns:=f) (xs:=xs) (ys:=ys) (p:=X) (N:=k) (λi g=>by rw[s i g];exact Uw (m i g) O.le) (λi g=>(d i g).1) (λi g=>(d i g).2);have v:tot X k (λj=>(f j:Int))=tot X k (λj=>(ns j:Int)):=eJ k λj b=>by rw[s j b]
  rw[v]at o;rw[<-vM C (o.pair C) o.2];exact h
structure Pz(w W:Uq)(q:Option Wt)(k i:Nat)(ns:Nat->Nat)(az:Nat->Bs)(s3 s4:Us):Prop where
 bl:kZ w W
 l3:Lo 32 w.heap.size W s3 ((VF i).map λj=>bx (ns j))
 l4:Lo 33 w.heap.size W s4 ((VF i).map az)
 tm:Tm W q k ns az
 r2:Row W w.heap.size z33
theorem El.of_made{w w':Uq}{k n:Nat}{b:Bs}(h:Made w k (cb b) w')(c:b.size=n):El n w' (sZ k n n) b:=⟨k,n,rfl,Uv _,c,h.lt,cb_holds h.range h.there⟩
theorem Bo.of{n k:Nat}{w:Uq}{x:Us}{b:Bs}(h:El n w x b)(d:0<n)(c:k<=w.heap.size)(T:U7):Bo n k (w.alloc (.cells #[x] T)) (sZ w.heap.size 1 1) b:=
 ⟨w.heap.size,x,rfl,c,by rw[UA];omega,by rw[World.cell?_alloc_new];rfl,h.kept d (Gr.of (n:=0) (aC w _))⟩
theorem Lo.args{n k:Nat}{W:Uq}{v:Us}{c:List Bs}(h:Lo n k W v c):∃q cap,v=.slice q c.length cap/\(0<c.length->∃g,q=some (aZ g)/\g<W.heap.size/\∀(j:Nat) (b:Bs),c[j]? = some b->∃x,W.cell? ⟨g,j,none⟩=some x/\El n W x b):=by
 obtain⟨xs,p,f,m⟩:=h.ex;have l:=λ{g:Nat}=>f.cells (g:=g)
 rcases f.2 with⟨rfl,i⟩|⟨g,cap,cur,rfl,-,o,-⟩
 ·exact⟨none,0,by rw[i],λh=>oM⟩
 ·refine⟨_,_,rfl,λ_=>⟨g,rfl,(UY.1 o).1,λj b d=>?_⟩⟩;have e:j<xs.length:=by rw[p];exact(UE.1 d).1
  have:=l (g:=g) rfl j xs[j] (UF e);rw[add0]at this;exact⟨_,this,m j _ b (UF e) d⟩
theorem El.arg{W:Uq}{x:Us}{b:Bs}(h:El 32 W x b):Arg W x b:=by
 obtain⟨k,c,rfl,e,d,g,f⟩:=h;exact⟨_,_,_,rfl,d,λ_=>⟨k,0,rfl,e,g,f⟩⟩
theorem El.arg33{W:Uq}{x:Us}{b:Bs}(h:El 33 W x b):Arg33 W x b:=by
 obtain⟨k,c,rfl,e,d,g,f⟩:=h;exact⟨_,_,_,rfl,d,λ_=>⟨k,0,rfl,e,g,f⟩⟩
theorem Dc(C:Fld P)(O:Ord N)(v:Us)(w:Uq)(k:Nat)(hk:k<=512)(ns:Nat->Nat)(X:Nat->EC.Pt P)(hn:∀j,j<k->ns j<N)(hX:∀j,j<k->On (X j))
 (F:∀W,kZ w W->UG prog 140 #[v] W (rZ W λe w'=>∃q cap,e=.slice q k cap/\Tm w' q k ns (λj=>wr (X j)))) :
 UG prog 67 #[v] w (rZ w λe w'=>e=pvl (wr (tot X k (λj=>(ns j:Int))))):=by
 have HM:=Hid.mk' F;have z:Hid (Fld P/\Ord N/\(∀j,j<k->ns j<N)/\∀j,j<k->On (X j)):=⟨C,O,hn,hX⟩
 obtain⟨r,J⟩:∃r:Nat->Bs,Hid ((λj=>wr (X j))=r):=⟨_,rfl⟩
 have A:Hid (∀j,r j=wr (X j)):=λj=>by rw[<-J.out]
 rw[J.out]at HM;obtain⟨Y,K⟩:∃Y,Hid (w.alloc (.cells z33.toArray 103)=Y):=⟨_,rfl⟩
 have K1:Hid (Row Y w.heap.size z33/\kZ w Y):=by rw[<-K.out];exact⟨aE w _ _,aC w _⟩
 obtain⟨d,hl,h9⟩:=Ux.1 uCP;obtain⟨d',hc,h5⟩:=Ux.1 uT;have HD:Hid ((prog.underlying 103=some d/\d.isRow=true)/\prog.underlying 226=some d'/\d'.isRow=true):=⟨⟨hl,h9⟩,hc,h5⟩
 clear hl h9 hc h5 F hn hX J C O;go_enter func67,ntmps67;go_wp2_with (refine bG (v:=jZ w.heap.size) (w':=Y) rfl (.alloc 103) rfl ?_ ?_;(rw[<-K.out];kernel_rfl))
 clear K;refine(HM Y K1.2).mono ?_;rintro e w2 ⟨vv,rfl,H,q,cap,rfl,U⟩;have K2:Hid (Pz w w2 q k 0 ns r (.slice none 0 0) (.slice none 0 0)):=⟨K1.2.trans (H.mono K1.2.size),Lo.begin _ _ _,Lo.begin _ _ _,U,K1.1.below H⟩
 clear H U K1 HM;go_wp2_with fail
 go_loopg [3,4,12] k (λm s3 s4 s12 W=>∃i:Nat,i+m=k/\s12=iZ i/\Hid (Pz w W q k i ns r s3 s4))
 case atStart=>exact⟨0,oM,rfl,K2⟩
 case round =>
  clear K2;obtain⟨i,k1,rfl,l⟩:=hrel;by_cases hi:i<k
  ·have hy:(i:Int)<(k:Int):=oM;obtain⟨g,hq,D,hr⟩:=l.tm oM;subst hq;obtain⟨n,S⟩:∃n,Hid (ns i=n):=⟨_,rfl⟩
   obtain⟨p,I⟩:∃p,Hid (r i=p):=⟨_,rfl⟩
   have B0:Hid (wr.rangeAt g (37*i) (wn n++aA p)):=by
    have h:=hr i hi;rw[S.out,I.out]at h;exact h
   have R:Hid (p.size=33):=by rw[<-I.out,A.out i];exact aT _
   have hz:Hid (n<N):=by rw[<-S.out];exact z.2.2.1 i hi
   obtain⟨E,h8⟩:∃E,Hid (wr.alloc (.cells zT.toArray 226)=E):=⟨_,rfl⟩
   obtain⟨s,ha⟩:∃s,Hid (E.setCells wr.heap.size 0 (wn n++aA p)=s):=⟨_,rfl⟩
   have f:(wn n++aA p).length=37:=by rw[Uz,aB R.out];rfl
   have F1:Hid (Row E wr.heap.size zT/\kZ wr E/\E.heap.size=wr.heap.size+1):=by rw[<-h8.out];exact⟨aE wr _ _,aC wr _,UA _ _⟩
   have B:Hid (Row s wr.heap.size (wn n++aA p)/\kZ wr s):=by rw[<-ha.out];exact⟨F1.1.put (by rw[f];rfl),RG.below_setCells (Uv _) _ _ _ F1.2.1⟩
   have hw:Hid ((prog.info? 226).map (·.size)=some (wn n++aA p).length):=by show _=_;rw[f];exact iT
   have Z:Hid ((prog.info? 226).map (·.size)=some (wn n++aA p).toArray.size/\E.there wr.heap.size 0 (wn n++aA p).toArray.size):=by
    have e:(wn n++aA p).toArray.size=37:=by rw[VB];exact f
    rw[e];exact⟨iT,F1.1.2.2⟩
   have ht:Hid ((wn n++aA p).toArray.all (·.oneCell')=true):=by
    show _=_;rw[WW];intro u c;exact cells_one n p u (X6.1 c)
   have k2:=atT g 0 k cap i hi;obtain⟨vt,t⟩:∃v,Hid (U2 (wn n++aA p).toArray=v):=⟨_,rfl⟩
   have G2:Gr 0 (.slice none 0 0) wr s:=Gr.of B.2;have HB:Hid (∀b,PBs w u3 u4 wr.heap.size n s.heap.size w.heap.size p ((VF i).map λj=>bx (ns j)) ((VF i).map r) (some (aZ g)) k ns r b s.drew):=λb=>by
    match b with
    | 0=>exact B.1
    | 1=>exact(l.l3.kept dC G2 dC).drew
    | 2=>exact(l.l4.kept dC G2 dC).drew
    | 3=>exact⟨(l.bl.trans (B.2.mono l.bl.size)).drew,UB l.bl.size B.2.size,Uv _⟩
    | 4=>exact l.tm.kept (W':=s) G2
    | 5=>exact l.r2.below (W':=s) B.2
    | _+6=>trivial
   have H3:Hid (∀g,u3.ownBlock=some g->w.heap.size<=g/\g<s.heap.size):=λg D=>⟨(l.l3.lt g D).1,Uw (l.l3.lt g D).2 B.2.size⟩
   have H4:Hid (∀g,u4.ownBlock=some g->w.heap.size<=g/\g<s.heap.size):=λg D=>⟨(l.l4.lt g D).1,Uw (l.l4.lt g D).2 B.2.size⟩
   have HG:=Hid.mk' D;clear f hr G2 l B D;go_wp2_with (first|(refine U5 rfl 226 _ rfl g (37*i) ?_ (wn n++aA p) d' ?_ ?_ ?_ ?_ ?_;rfl;exact B0.out;exact HD.2.1;exact HD.2.2;exact hw.out;rw[t.out])|(refine bG (v:=jZ wr.heap.size) (w':=E) rfl (.alloc 226) rfl ?_ ?_;(rw[<-h8.out];kernel_rfl))|(refine U1 rfl 226 _ _ rfl wr.heap.size 0 (wn n++aA p).toArray ?_ ?_ ?_ ?_ ?_ ?_;rfl;exact t.symm;exact Z.2;exact Z.1;exact ht.out;rw[show(wn n++aA p).toArray.toList=wn n++aA p from rfl,ha.out])|fail)
   refine qG (FP w u3 u4 wr.heap.size n s.heap.size w.heap.size p ((VF i).map λj=>bx (ns j)) ((VF i).map r) (some (aZ g)) k ns r) kR ⟨kR,CB ?_,λi' j k0 hj hs Q y=>Qn u3 u4 wr.heap.size n s.heap.size w.heap.size p _ _ H3.out H4.out i' j hj hs Q (λh=>by rw[h.1,h.2]at y;exact absurd (show false=true from y.symm.trans kR) dC) (λh=>by rw[h.1,h.2]at y;exact absurd (show false=true from y.symm.trans kR) dC),λi' b _ Q=>Nm w u3 u4 wr.heap.size n s.heap.size w.heap.size p _ _ _ k ns r H3.out H4.out i' b Q⟩ HB.out ?_
   ·have o:∀W:Uq,Gr 0 (.slice none 0 0) W W:=λW=>Gr.of (UQ _ _)
    refine⟨mI 3 λa W c=>⟨a.eval (.tmp 3),W,kR,kR,o W,c.o 3 kR⟩,
     mI 6 λa W c=>⟨jZ wr.heap.size,W,kR,by rw[show a.eval (.tmp 6)=jZ wr.heap.size from c.o 6 kR];kernel_rfl,o W,rfl⟩,
     Bg 49 17 rfl u40 λa W c=>⟨wr.heap.size,0,wn n,c.n 1 17 kR kR kR,kA (show Row W wr.heap.size (wn n++aA p) from c.b 0 kR).2.1,i40,o W,rfl⟩,
     FG 18 λa W c=>⟨141,#[nv n],kR,by rw[show a.eval (.tmp 18)=nv n from c.n 2 18 kR kR kR];kernel_rfl,(qO z.2.1 hz.out W).mono (by
      rintro e W' ⟨u,rfl,V,G,rfl⟩;exact⟨_,rfl,Gr.of G.bel,El.of_made G (eE n)⟩)⟩,
     mI 19 λa W c=>⟨sZ W.heap.size 1 1,W.alloc (.cells #[a.eval (.tmp 19)] 23),kR,by
      obtain⟨V,M,G,-⟩:=show El 32 W (a.eval (.tmp 19)) (bx n) from c.n 3 19 kR kR kR
      rw[G];kernel_rfl,Gr.of (aC W _),Bo.of (show El 32 W (a.eval (.tmp 19)) (bx n) from c.n 3 19 kR kR kR) dC (c.b 3 kR).2.2 _⟩,
     JS 16 20 24 rfl λa W c=>?_,
     mI 4 λa W c=>⟨a.eval (.tmp 4),W,kR,kR,o W,c.o 4 kR⟩,
     mI 6 λa W c=>⟨oZ wr.heap.size 4,W,kR,by rw[show a.eval (.tmp 6)=jZ wr.heap.size from c.o 6 kR];kernel_rfl,o W,rfl⟩,
     Bg 103 23 rfl uCP λa W c=>⟨wr.heap.size,4,aA p,c.n 7 23 kR kR kR,lT (xs:=wn n) (show Row W wr.heap.size (wn n++aA p) from c.b 0 kR).2.1,by rw[aB R.out];exact cV,o W,rfl⟩,
     FG 24 λa W c=>⟨142,#[pvl p],kR,by rw[show a.eval (.tmp 24)=pvl p from c.n 8 24 kR kR kR];kernel_rfl,(Gu R.out W).mono (by
      rintro e W' ⟨u,rfl,L,hE⟩;exact⟨_,rfl,Gr.of L,hE⟩)⟩,
     mI 25 λa W c=>⟨sZ W.heap.size 1 1,W.alloc (.cells #[a.eval (.tmp 25)] 23),kR,by
      obtain⟨V,M,G,-⟩:=show El 33 W (a.eval (.tmp 25)) p from c.n 9 25 kR kR kR
      rw[G];kernel_rfl,Gr.of (aC W _),Bo.of (show El 33 W (a.eval (.tmp 25)) p from c.n 9 25 kR kR kR) dC (c.b 3 kR).2.2 _⟩,
     JS 22 26 24 rfl λa W c=>?_,
     mI 21 λa W c=>⟨a.eval (.tmp 21),W,kR,kR,o W,c.n 5 21 kR kR kR⟩,
     mI 27 λa W c=>⟨a.eval (.tmp 27),W,kR,kR,o W,c.n 11 27 kR kR kR⟩,yCl⟩
    ·obtain⟨V,x,G,h1,h2,M,L⟩:=show Bo 32 s.heap.size W (a.eval (.tmp 20)) (bx n) from c.n 4 20 kR kR kR
     obtain⟨v',W',r1,r2,r3⟩:=Lo.app (show Lo 32 w.heap.size W u3 _ from c.b 1 kR) dC L M (by rw[UP,XV];omega) (c.b 3 kR).2.1;refine⟨v',W',?_,r3,r2⟩;rw[G,show a.eval (.tmp 16)=u3 from c.n 0 16 kR kR kR];exact r1
    ·obtain⟨V,x,G,h1,h2,M,L⟩:=show Bo 33 s.heap.size W (a.eval (.tmp 26)) p from c.n 10 26 kR kR kR
     obtain⟨v',W',r1,r2,r3⟩:=Lo.app (show Lo 33 w.heap.size W u4 _ from c.b 2 kR) dC L M (by rw[UP,XV];omega) (c.b 3 kR).2.1;refine⟨v',W',?_,r3,r2⟩;rw[G,show a.eval (.tmp 22)=u4 from c.n 6 22 kR kR kR];exact r1
   ·intro V G o c;have KN:Hid (Pz w G (some (aZ g)) k (i+1) ns r (V 12) (V 13)):=by
     have h1:=o 12 (Xi (VQ kR)) rfl;have h2:=o 13 (Xi (VQ kR)) rfl;refine⟨(c 3 rfl).1,?_,?_,c 4 rfl,c 5 rfl⟩
     ·rw[Y4,V9];show Lo 32 w.heap.size G (V 12) (_++[bx (ns i)]);rw[S.out];exact h1
     ·rw[Y4,V9];show Lo 33 w.heap.size G (V 13) (_++[r i]);rw[I.out];exact h2
    clear o c HB H3 H4;dsimp only[bU,VJ];generalize V 12=s3 at KN⊢;generalize V 13=s4 at KN⊢;go_wp2;go_roundg (gk-1)
    case measure=>omega
    case rel=>exact⟨i+1,oM,rfl,KN⟩
  ·have hy:¬(i:Int)<(k:Int):=oM;obtain rfl:i=k:=oM;obtain⟨Z,c3,rfl,M⟩:=l.l3.args;obtain⟨q4,c4,rfl,L⟩:=l.l4.args;rw[UP,XV]at M L;have HA:Hid (vT wr Z i (λj=>bx (ns j))):=λQ=>by
    obtain⟨g,o,y,e3⟩:=M Q;refine⟨g,o,y,λj hj=>?_⟩;obtain⟨x,c,s⟩:=e3 j (bx (ns j)) (by rw[Vy,yAy hj];rfl);exact⟨x,c,s.arg⟩
   have HP:Hid (ArgsPts wr q4 i r):=λQ=>by
    obtain⟨g,o,y,e3⟩:=L Q;refine⟨g,o,y,λj hj=>?_⟩;obtain⟨x,c,s⟩:=e3 j (r j) (by rw[Vy,yAy hj];rfl);exact⟨x,c,s.arg33⟩
   rw[UP,XV,UP,XV];have D:Hid (kZ w wr/\Row wr w.heap.size z33):=⟨l.bl,l.r2⟩
   clear M L l;go_wp2_with fail
   refine(PK z.1 z.2.1.gap z.2.1.le Z q4 i c3 i c4 (λj=>bx (ns j)) r wr HA.out HP.out).mono ?_;rintro e o ⟨vv,rfl,c,V⟩;obtain⟨R,cs,rfl,-,-,h6,G⟩:=SumR.all z.1 z.2.1 oM z.2.2.1 z.2.2.2 (λ_ _=>rfl) (λj _=>A.out j) V;obtain⟨T,U⟩:∃T,Hid (Go.Proofs.YtdoammpgchejcaaGreat.wr (tot X i (λj=>(ns j:Int)))=T):=⟨_,rfl⟩
   have I:T.size=33:=by rw[<-U.out];exact aT _
   rw[U.out]at G;have y:Hid (Row o w.heap.size z33/\kZ w o/\Row o R (aA T)):=⟨D.2.below c,D.1.trans (c.mono D.1.size),pW G h6⟩
   clear c V h6 G D HA HP;have S:=FU R cs;obtain⟨B,s⟩:∃B,Hid (o.setCells w.heap.size 0 (aA T)=B):=⟨_,rfl⟩
   have f:(aA T).length=33:=aB I;have K7:Hid (Row B w.heap.size (aA T)/\kZ w B):=by rw[<-s.out];exact⟨y.1.put (by rw[f];rfl),RG.below_setCells (Uv _) _ _ _ y.2.1⟩
   obtain⟨vt,t⟩:∃vt,Hid (U2 (aA T).toArray=vt):=⟨_,rfl⟩
   have E:Hid ((prog.info? 103).map (·.size)=some (aA T).length/\o.there w.heap.size 0 (aA T).toArray.size/\(prog.info? 103).map (·.size)=some (aA T).toArray.size):=by
    have e:(aA T).toArray.size=33:=by rw[VB];exact f
    refine⟨by rw[f];exact cV,by rw[e];exact y.1.2.2,by rw[e];exact cV⟩
   clear f;go_wp2_with (first|(refine U5 rfl 103 _ rfl R 0 ?_ (aA T) d ?_ ?_ ?_ ?_ ?_;rfl;exact y.2.2.2.1;exact HD.1.1;exact HD.1.2;exact E.1;rw[t.out])|(refine U1 rfl 103 _ _ rfl w.heap.size 0 (aA T).toArray ?_ ?_ ?_ ?_ ?_ ?_;rfl;exact t.symm;exact E.2.1;exact E.2.2;exact bW T;rw[show(aA T).toArray.toList=aA T from rfl,s.out]))
   refine UD (aG 2 103 rfl K7.1 rfl uCP E.1) rfl ?_;exact⟨_,rfl,K7.2,by rw[U.out];rfl⟩
end
namespace EC
variable {P:Nat}[NeZero P]
def pts(P:Nat)[NeZero P]:List (Pt P):=
 none :: (yBx P).flatMap λx=>((yBx P).filter λy=>decide (y^2=x^3+7)).map λy=>some (x,y)
theorem mD(a:Pt P):a∈pts P↔On a:=by
 unfold pts;rcases a with _|⟨x,y⟩
 ·exact⟨λ_=>trivial,λ_=>Vt⟩
 ·rw[VW,yA0];constructor
  ·rintro(h|⟨u,-,h⟩)
   ·cases h
   ·obtain⟨v,hv,e⟩:=Vm.1 h;cases e
    have k:=(Y5.1 hv).2;exact(decide_eq_true_iff (p:=y^2=x^3+7)).1 k
  ·intro h;have h:=h;exact UW ⟨x,yAP x,Vm.2 ⟨y,Y5.2 ⟨yAP y,decide_eq_true h⟩,rfl⟩⟩
theorem zX:(pts P).Nodup:=by
 unfold pts;refine XR.2 ⟨λh=>?_,?_⟩
 ·obtain⟨u,-,h⟩:=yA0.1 h;obtain⟨v,-,e⟩:=Vm.1 h;cases e
 ·refine List.pairwise_flatMap.2 ⟨λx _=>yAO.2 ?_,?_⟩
  ·refine ZY ?_ ((Zk P).sublist yAz);intro a b h e;exact h (by cases e;rfl)
  ·refine ZY ?_ (Zk P);intro a b h u k v hv e;obtain⟨c,-,rfl⟩:=Vm.1 k;obtain⟨d,-,rfl⟩:=Vm.1 hv;exact h (by cases e;rfl)
theorem Lt{u v c:Fin P}(k:u^2=c)(hv:v^2=c):(u-v)*(u+v)=0:=by grobner
theorem Mq{a b d:Fin P}(c:a+b=0)(k:a+d=0):b=d:=by grobner
theorem Gj(C:Cur P){c:Fin P}:∀l:List (Fin P),l.Nodup->(∀y,y∈l->y^2=c)->l.length<=2
 | [],_,_=>Wx _
 | [_],_,_=>Nat.le_succ _
 | [_,_],_,_=>Uv _
 | a :: b :: d :: l,k,h=>by
  exfalso;have g:=h a (by simp);have i:=h b (by simp);have hd:=h d (by simp);have n:a≠b:=λe=>(XR.1 k).1 (by rw[e];simp)
  have m:a≠d:=λe=>(XR.1 k).1 (by rw[e];simp)
  have q:b≠d:=λe=>(XR.1 (XR.1 k).2).1 (by rw[e];simp)
  have f:∀u v:Fin P,u^2=c->v^2=c->u≠v->u+v=0:=λu v p hv k=>by
   exact Ws λj=>cI C.pr (pJ k) j (Lt p hv)
  have o:=f a b g i n;have j:=f a d g hd m;exact q (Mq o j)
theorem Cu{α β:Type}(f:α->List β)(k:Nat)(h:∀a,(f a).length<=k):∀l:List α,(l.flatMap f).length<=k*l.length
 | []=>Wx _
 | a :: l=>by
  rw[Zy,Uz,Vh,Yi,yBL];exact Nat.add_le_add (Cu f k h l) (h a)
theorem MD(C:Cur P):(pts P).length<=2*P+1:=by
 unfold pts;rw[Vh];refine Nat.succ_le_succ (UB (Cu _ 2 (λx=>?_) _) (by rw[List.length_finRange];exact Uv _));rw[UP];exact Gj C (c:=x^3+7) _ ((Zk P).sublist yAz) λy k=>of_decide_eq_true (Y5.1 k).2
theorem LY:0<(pts P).length:=Nat.succ_pos _
def uO:List (Pt P)->Pt P
 | []=>none
 | a :: l=>add a (uO l)
theorem uY(C:Cur P):∀l:List (Pt P),(∀a,a∈l->On a)->On (uO l)
 | [],_=>iN
 | a :: l,h=>C.on (h a Vt) (uY C l λb k=>h b (Va _ k))
theorem GG(C:Cur P){l m:List (Pt P)}(p:l.Perm m):(∀a,a∈l->On a)->uO l=uO m:=by
 induction p with
 | nil=>intro _;rfl
 | cons x _ ih =>
  intro h;show add x _=add x _;rw[ih λb k=>h b (Va _ k)]
 | swap x y l =>
  intro h;have c:=h y Vt;have hx:=h x (Va _ Vt);have d:=uY C l λb k=>h b (Va _ (Va _ k))
  show add y (add x (uO l))=add x (add y (uO l));rw[<-C.assoc c hx d,C.comm c hx,C.assoc hx c d]
 | trans p _ ih1 ih2 =>
  intro h;rw[ih1 h,ih2 λa k=>h a (p.mem_iff.2 k)]
theorem xI(C:Cur P){r:Pt P}(k:On r):∀l:List (Pt P),(∀a,a∈l->On a)->uO (l.map λa=>add a r)=add (uO l) (mul l.length r)
 | [],_=>rfl
 | a :: l,h=>by
  have e:=h a Vt;have c:∀b,b∈l->On b:=λb d=>h b (Va _ d)
  show add (add a r) (uO (l.map _))=add (add a (uO l)) (add (mul l.length r) r);rw[xI C k l c,C.comm (cG C k _) k,C.swap e k (uY C l c) (cG C k _)]
theorem yS(C:Cur P){a b r:Pt P}(d:On a)(c:On b)(k:On r)(e:add a r=add b r):a=b:=by
 have:add (add a r) (neg r)=add (add b r) (neg r):=by rw[e]
 rwa[C.assoc d k (cE k),C.assoc c k (cE k),add_neg,bK,bK]at this
theorem wK(C:Cur P){r:Pt P}(k:On r):((pts P).map λa=>add a r).Perm (pts P):=by
 refine(List.perm_ext_iff_of_nodup ?_ zX).2 λa=>?_
 ·refine yAO.2 (List.Pairwise.imp_of_mem ?_ (zX (P:=P)));intro a b c d h e;exact h (yS C ((mD a).1 c) ((mD b).1 d) k e)
 ·rw[mD,Vm];constructor
  ·rintro⟨b,d,rfl⟩;exact C.on ((mD b).1 d) k
  ·intro c;refine⟨add a (neg r),(mD _).2 (C.on c (cE k)),?_⟩;rw[C.assoc c (cE k) k,C.neg_l k,bK]
theorem EU(C:Cur P){r:Pt P}(k:On r):mul (pts P).length r=none:=by
 have f:∀a,a∈pts P->On a:=λa b=>(mD a).1 b
 have e:=xI C k (pts P) f;rw[GG C (wK C k) λa b=>(mD a).1 ((wK C k).mem_iff.1 b)]at e;have c:=uY C (pts P) f;have d:=cG C k (pts P).length;have g:add (mul (pts P).length r) (uO (pts P))=add none (uO (pts P)):=by
  rw[C.comm d c,<-e,jJ]
 exact yS C d iN c g
theorem mB(C:Cur P){a:Pt P}(k:On a)(m:Nat):∀n,mul (m*n) a=mul n (mul m a)
 | 0=>rfl
 | n+1=>by
  rw[Yi,mul_add C k,mB C k m n];rfl
theorem nG:∀n,mul n (none:Pt P)=none
 | 0=>rfl
 | n+1=>by
  show add (mul n none) none=none;rw[nG n];rfl
theorem C4(C:Cur P){a:Pt P}(k:On a)(e:add a a=none):a=none:=by
 rcases a with _|⟨x,y⟩
 ·rfl
 ·exfalso;have ho:=C.opp_ne k;rw[cD C.pr C.two k k ho (bR C.pr C.two k k ho)]at e;cases e
theorem IR(C:Cur P){n:Nat}(f:IsP n)(p:2*P+1<3*n){g:Pt P}(k:On g)(i:g≠none)(m:mul n g=none){r:Pt P}(e:On r):mul n r=none:=by
 have hd:n ∣ (pts P).length:=Ws λhd=>by
  have j:=f.fermat1 _ hd;have b:mul ((pts P).length^(n-1)) g=none:=by
   have:n-1=(n-2)+1:=by have:=f.1;omega
   rw[this,V6,Vu,mB C k,EU C k,nG]
  have d:=Z8 ((pts P).length^(n-1)) n;rw[j]at d;rw[<-d,mul_add C k,mB C k,m,nG,jJ]at b;exact i b
 obtain⟨c,o⟩:=hd;have l:=MD C;have j:=LY (P:=P);have b:=EU C e;rw[o]at l j b;have d:c<3:=Nat.lt_of_mul_lt_mul_left (a:=n) oM;match c,d with
 | 0,_=>omega
 | 1,_=>rwa[Nat.mul_one]at b
 | 2,_ =>
  rw[mB C e]at b;exact C4 C (cG C e n) b
end EC
section
variable {P:Nat}[NeZero P]{N:Nat}
def fR(P:Nat)[NeZero P](b:Bs):EC.Pt P:=match rd P b with|some p=>pt p|none=>none
theorem lM(C:Fld P){X:EC.Pt P}(h:On X):fR P (wr X)=X:=by
 obtain⟨p,b,k⟩:=zM C h;unfold fR;rw[b];exact k
def fJ(P:Nat)[NeZero P]:List (Nat × Bs)->EC.Pt P
 | []=>none
 | x :: r=>EC.add (mul x.1 (fR P x.2)) (fJ P r)
def PtsL(P:Nat)[NeZero P](l:List (Nat × Bs)):Prop:=∀x∈l,∃X:EC.Pt P,On X/\x.2=wr X
theorem PtsL.on(C:Fld P){l:List (Nat × Bs)}(h:PtsL P l){x:Nat × Bs}(hx:x∈l):On (fR P x.2):=by
 obtain⟨X,k,b⟩:=h x hx;rw[b,lM C k];exact k
theorem nT(C:Fld P):∀ {l:List (Nat × Bs)},PtsL P l->On (fJ P l)
 | [],_=>iN
 | x :: r,h=>C.cur.on (cG C.cur (h.on C Vt) _) (nT C λy k=>h y (Va _ k))
theorem zG(C:Fld P)(y:Nat × Bs)(k:On (fR P y.2)):∀ {l:List (Nat × Bs)},PtsL P l->fJ P (l++[y])=EC.add (fJ P l) (mul y.1 (fR P y.2))
 | [],_=>bK _
 | x :: r,h=>by
  have b:PtsL P r:=λz c=>h z (Va _ c)
  show EC.add (mul x.1 (fR P x.2)) (fJ P (r++[y]))=_;rw[zG C y k b];exact(C.cur.assoc (cG C.cur (h.on C Vt) _) (nT C b) (cG C.cur k _)).symm
theorem AE:∀l:List (Nat × Bs),fJ P (LF l)=fJ P l
 | []=>rfl
 | x :: r=>by
  unfold LF;rw[List.filter_cons];by_cases h:x.1=0
  ·rw[yCk (by simp[h])];show fJ P (LF r)=EC.add (mul x.1 (fR P x.2)) (fJ P r);rw[h,AE r];rfl
  ·rw[yCj (by simp[h])];show EC.add _ (fJ P (LF r))=EC.add _ (fJ P r);rw[AE r]
theorem mul_mod(C:Fld P)(k:∀r:EC.Pt P,On r->mul N r=none){X:EC.Pt P}(b:On X)(n:Nat):mul (n%N) X=mul n X:=by
 have h:=mul_add C.cur b (N*(n/N)) (n%N);rw[Z8,mB C.cur b N (n/N),k X b,nG,jJ]at h;exact h.symm
theorem zH(C:Fld P)(k:∀r:EC.Pt P,On r->mul N r=none)(n:Nat)(p:Bs)(d:On (fR P p)):∀ {l:List (Nat × Bs)},PtsL P l->fJ P (fA N l n p)=EC.add (fJ P l) (mul n (fR P p))
 | [],_=>bK _
 | (s,q) :: r,h=>by
  have g:PtsL P r:=λz j=>h z (Va _ j)
  have i:=h.on C (x:=(s,q)) Vt;have f:=cG C.cur i s;have c:=nT C g;have b:=cG C.cur d n;unfold fA;by_cases e:p=q
  ·rw[yCj e];subst e;show EC.add (mul (sPl N s n) (fR P p)) (fJ P r)=EC.add (EC.add (mul s (fR P p)) (fJ P r)) (mul n (fR P p));unfold sPl;rw[mul_mod C k d,mul_add C.cur d,C.cur.assoc f b c,C.cur.assoc f c b,C.cur.comm b c]
  ·rw[yCk e];show EC.add (mul s (fR P q)) (fJ P (fA N r n p))=EC.add (EC.add (mul s (fR P q)) (fJ P r)) (mul n (fR P p));rw[zH C k n p d g,C.cur.assoc f c b]
theorem FX{n:Nat}{p:Bs}(b:∃X:EC.Pt P,On X/\p=wr X):∀ {l:List (Nat × Bs)},PtsL P l->PtsL P (fA N l n p)
 | [],_=>λx hx=>by
  have:x=(n,p):=by simpa[fA]using hx
  rw[this];exact b
 | (s,q) :: r,h=>by
  have k:PtsL P r:=λz c=>h z (Va _ c)
  unfold fA;split
  ·intro x hx;rcases VW.1 hx with rfl|hx
   ·exact h (s,q) Vt
   ·exact k x hx
  ·intro x hx;rcases VW.1 hx with rfl|hx
   ·exact h (s,q) Vt
   ·exact FX b k x hx
theorem AU(ns:Nat->Nat)(X:Nat->EC.Pt P){k:Nat}(b:∀j,j<k->On (X j)):∀i,i<=k->PtsL P (mrg N ns (λj=>wr (X j)) i)
 | 0,_=>λx hx=>by cases hx
 | i+1,hi=>FX ⟨X i,b i oM,rfl⟩ (AU ns X b i oM)
theorem EV(C:Fld P)(b:∀r:EC.Pt P,On r->mul N r=none)(ns:Nat->Nat)(X:Nat->EC.Pt P){k:Nat}(d:∀j,j<k->On (X j)):∀i,i<=k->fJ P (mrg N ns (λj=>wr (X j)) i)=tot X i (λj=>(ns j:Int))
 | 0,_=>rfl
 | i+1,hi=>by
  have c:=d i oM;show fJ P (fA N (mrg N ns (λj=>wr (X j)) i) (ns i) (wr (X i)))=EC.add (tot X i (λj=>(ns j:Int))) (mul (ns i) (X i));rw[zH C b _ _ (by rw[lM C c];exact c) (AU ns X d i oM),EV C b ns X d i oM,lM C c]
theorem wE(C:Fld P)(l:List (Nat × Bs))(h:PtsL P l):∀i,i<=l.length->tot (λj=>fR P ((l[j]?).getD (0,#[])).2) i (λj=>(((l[j]?).getD (0,#[])).1:Int))=fJ P (l.take i)
 | 0,_=>by rw[List.take_zero];rfl
 | i+1,hi=>by
  have k:i<l.length:=oM;show EC.add (tot _ i _) (mul ((l[i]?).getD (0,#[])).1 (fR P ((l[i]?).getD (0,#[])).2))=_;rw[wE C l h i oM,ZH,UF k];exact(zG C (l[i]) (h.on C (VG k)) λx hx=>h x (yAp hx)).symm
theorem Dd(C:Fld P)(O:Ord N)(p:∀r:EC.Pt P,On r->mul N r=none)(g k c:Nat)(K:0<k)(T:k<=512)(ns:Nat->Nat)(X:Nat->EC.Pt P)(B:∀j,j<k->ns j<N)(D:∀j,j<k->On (X j))(w:Uq)(E:g<w.heap.size)(I:∀j,j<k->w.rangeAt g (37*j) (wn (ns j)++aA (wr (X j)))):
 UG prog 67 #[sZ g k c] w (rZ w λe w'=>e=pvl (wr (tot X k (λj=>(ns j:Int))))):=by
 have F:=AU (N:=N) ns X D k (Uv _);have n:=DD O ns (λj=>wr (X j)) B k (Uv _);have o:=xF (N:=N) ns (λj=>wr (X j)) (k:=k) (λj _=>aT _) k (Uv _);have a:=AV (N:=N) ns (λj=>wr (X j)) k;have i:=EV C p ns X D k (Uv _);have l:0<(mrg N ns (λj=>wr (X j)) k).length:=by
  obtain⟨b,rfl⟩:∃b,k=b+1:=⟨k-1,oM⟩
  show 0<(fA N _ _ _).length;cases mrg N ns (λj=>wr (X j)) b with
  | nil=>exact Nat.lt_succ_self 0
  | cons x r=>unfold fA;split<;>simp
 have f:=λW (s:kZ w W)=>I8 O (λe w'=>kZ W w'/\∃q cap,e=.slice q (LF (mrg N ns (λj=>wr (X j)) k)).length cap/\TmL w' q (LF (mrg N ns (λj=>wr (X j)) k))) g k c oM ns (λj=>wr (X j)) (λj _=>aT _) B W (Uw E s.size) (λj b=>RG.range_below (I j b) s E) (λW' v m=>by
  refine(JK _ l oM o (λx hx=>Uw (n x hx) O.le) W.heap.size v W' m.bl.size m.ow).mono ?_;rintro e w' ⟨u,rfl,d,z⟩;exact⟨_,rfl,m.bl.trans d,z⟩)
 generalize mrg N ns (λj=>wr (X j)) k=L at F n o a i l f;have y:PtsL P (LF L):=λx hx=>F x (Br hx)
 have R:(LF L).length<=L.length:=yAl _ _;refine(Dc C O _ w (LF L).length oM (λj=>(((LF L)[j]?).getD (0,#[])).1) (λj=>fR P (((LF L)[j]?).getD (0,#[])).2) (λj b=>by rw[UF b];exact n _ (Br (VG b))) (λj b=>by rw[UF b];exact y.on C (VG b)) λW s=>?_).mono ?_
 ·refine(f W s).mono ?_;rintro e w' ⟨u,rfl,d,q,cap,rfl,z⟩;refine⟨_,rfl,d,q,cap,rfl,λH=>?_⟩;obtain⟨t,Q,M,e3⟩:=z H;refine⟨t,Q,M,λj b=>?_⟩;have S:=e3 j b;obtain⟨Y,J,G⟩:=y _ (VG b);show w'.rangeAt t (37*j) (wn (((LF L)[j]?).getD (0,#[])).1++aA (wr (fR P (((LF L)[j]?).getD (0,#[])).2)));rw[UF b];show w'.rangeAt t (37*j) (wn ((LF L)[j]).1++aA (wr (fR P ((LF L)[j]).2)));rw[G,lM C J,<-G];exact S
 ·rintro e w' ⟨u,rfl,d,rfl⟩;refine⟨_,rfl,d,?_⟩;rw[wE C (LF L) y _ (Uv _),yAZ,AE,i]
theorem Qx:prog.underlying 23=some (.slice 5):=kR
theorem Qz:prog.underlying 3=some (.int .i64):=kR
theorem NJ:(prog.info? 5).map (λi=>(i.size,i.bytes,i.zero.map λz=>z.cells.size))=some (1,1,some 1):=kR
theorem atB(k o n c i:Nat)(b:i<n)(w:Uq):(Vk 24 (.slice (some ⟨k,o,none⟩) n c) (iZ i)).run prog w=.ok (.pointer (some ⟨k,o+1*i,none⟩)) w:=by
 go_simp
theorem PG(n:Nat)(a:n<=10000000)(w:Uq):UG prog 216 #[.slice none 0 0,iZ n] w (rZ w λe w'=>w'.ownsRow w.heap.size 5 1 e 0 []):=by
 by_cases s:n=0
 ·subst s;go_enter func216,ntmps216;go_wp2;go_ret;exact⟨_,rfl,UQ _ _,yAH _ _ _ _⟩
 ·obtain⟨i,r,m⟩:=Ux.1 NJ;simp only[V5.injEq]at m;obtain⟨x,o,p⟩:=m;obtain⟨z,q,f⟩:=Ux.1 p;have d:=Lib.run_append_nil_zeros (P:=prog) w 23 3 23 5 i z .i64 .i64 Qx Qz r q n oM oM oM (by rw[o];omega);have g:=grownCap_ge w n 0 5;have k:=grownCap_le_maxLen w n 0 5 (by unfold maxLen;omega);have b:(WC z.cells n++WC z.cells (grownCap w n 0 5-n)).size=grownCap w n 0 5*1:=by rw[VM,size_zeroCells,size_zeroCells,f];omega
  generalize grownCap w n 0 5=l at d g k b;generalize WC z.cells n++WC z.cells (l-n)=cur at d b;obtain⟨j,c⟩:∃j,Hid (w.drew.alloc (.cells cur 5)=j):=⟨_,rfl⟩
  rw[c.out]at d;have u:=Hid.mk' d;have K:Hid (kZ w j/\j.ownsRow w.heap.size 5 1 (sZ w.heap.size 0 l) 0 []):=by
   rw[<-c.out];exact⟨(UQ _ _).drew.alloc (Uv _) _,World.ownsRow_made w.drew cur l (Uv _) k b⟩
  clear d c b r q f x o p;have t:(0:Int)<(n:Int):=oM;have v:¬((n:Int)<0):=oM;have y:VR.wrap (n:Int)=n:=by rw[Yj];omega
  go_enter func216,ntmps216;go_wp2_with (at_builtin;refine Lib.wpList_append_run _ rfl _ _ _ _ rfl _ _ rfl rfl _ _ u.out ?_)
  go_ret;exact⟨_,rfl,K.1,K.2⟩
def iJ(L:Nat->Bs)(k:Nat):List UInt8:=(VF k).flatMap λj=>(L j).toList
theorem oK(L:Nat->Bs)(i:Nat):iJ L (i+1)=iJ L i++(L i).toList:=by
 unfold iJ;rw[Y4,Zq];simp
theorem FH(L:Nat->Bs){k m:Nat}(b:∀j,j<k->(L j).size<=m):∀i,i<=k->(iJ L i).length<=m*i
 | 0,_=>Uv _
 | i+1,hi=>by
  have d:=FH L b i oM;have c:=b i oM;have e:(L i).toList.length=(L i).size:=rfl;rw[oK,Uz,e,Yi];omega
theorem El.below{n B:Nat}{W W':Uq}{x:Us}{b:Bs}(h:El n W x b)(d:Below B W W')(j:W.heap.size<=B):El n W' x b:=by
 obtain⟨k,c,rfl,f,e,i,g⟩:=h;exact⟨k,c,rfl,f,e,Uw i d.size,Holds.kept g (d.block k oM)⟩
theorem Mm{d n m:Nat}{W:Uq}{v x:Us}{xs:List Us}{b:Bs}(e:W.ownsRow d 5 1 v n xs)(hx:El m W x b)(F:n+m<=100000000)(q:d<=W.heap.size):
 ∃f W',(Vr #[23,23] 23 #[v,x]).run prog W=.ok f W'/\W'.ownsRow d 5 1 f (n+m) (xs++cb b)/\W.grownBy W' v.ownBlock:=by
 obtain⟨i,C,l⟩:=Ux.1 NJ;simp only[V5.injEq]at l;obtain⟨E,t,w⟩:=l;obtain⟨z,a,g⟩:=Ux.1 w;obtain⟨k,c,rfl,G,s,e3,p⟩:=hx;obtain⟨f,W',o,B,D,-⟩:=Y1 (P:=prog) W d 23 23 5 i z 1 1 Qx C a E t g dC v n xs e (aZ k) m c (cb b) (by rw[oJ,s];omega)
  (λj u r=>by
   have:=(rL p).1 j u r;rw[UC]at this;rw[add0];exact this) (λu A=>by
   obtain⟨y,-,rfl⟩:=Vm.1 A;rfl) (by unfold maxLen;omega) oM q
 exact⟨f,W',o,B,D⟩
theorem P5(L:Nat->Bs)(i:Nat):(iJ L (i+1)).map encB=(iJ L i).map encB++cb (L i):=by rw[oK,V9];rfl
theorem JM(g k c:Nat)(L:Nat->Bs)(I:k<=1000)(E:∀j,j<k->(L j).size<=10000)(w:Uq)(K:g<w.heap.size)(F:∀j,j<k->∃x,w.cell? ⟨g,j,none⟩=some x/\El (L j).size w x (L j)):
 UG prog 156 #[sZ g k c] w (rZ w λe w'=>w'.ownsRow w.heap.size 5 1 e (iJ L k).length ((iJ L k).map encB)):=by
 have O:=Hid.mk' F;have t:Hid (∀i,i<=k->(iJ L i).length<=10000*i):=FH L E;have V:=Hid.mk' K;clear F E K;go_enter func156,ntmps156;go_wp2_with fail
 go_loopg [3,11] k (λm s3 s11 W=>∃i:Nat,i+m=k/\s11=iZ i/\s3=iZ ((iJ L i).length:Int)/\w=W)
 case atStart=>exact⟨0,oM,rfl,rfl,rfl⟩
 case round =>
  obtain⟨i,S,rfl,rfl,rfl⟩:=hrel;by_cases Q:i<k
  ·have u:(i:Int)<(k:Int):=oM;obtain⟨x,P,hE⟩:=O.out i Q;obtain⟨G,M,rfl,z,-⟩:=hE;have n:=atB g 0 k c i Q;rw[show 0+1*i=i by omega]at n;have d:(iJ L (i+1)).length=(iJ L i).length+(L i).size:=by rw[oK,Uz];rfl
   have l:=t.out i oM;have r:=t.out (i+1) oM;obtain⟨a,o⟩:∃a,Hid ((iJ L i).length=a):=⟨_,rfl⟩
   obtain⟨b,f⟩:∃b,Hid ((L i).size=b):=⟨_,rfl⟩
   rw[o.out]at d l;rw[f.out]at d z;rw[o.out];have q:VR.wrap ((a:Int)+(b:Int))=((a+b:Nat):Int):=by rw[Yj];omega
   have s:¬(((a+b:Nat):Int)<0):=oM;rw[f.out]at P;go_wp2;go_roundg (gk-1)
   case measure=>omega
   case rel=>exact⟨i+1,oM,rfl,by rw[d,Int.natCast_add],rfl⟩
  ·have u:¬(i:Int)<(k:Int):=oM;obtain rfl:i=k:=oM;go_wp2_with fail
   refine(PG (iJ L i).length (by have:=t.out i (Uv _);omega) w).mono ?_;rintro e D ⟨v,rfl,l,q⟩;have H:Hid (kZ w D/\D.ownsRow w.heap.size 5 1 v (iJ L 0).length ((iJ L 0).map encB)):=⟨l,q⟩
   clear l q;go_wp2_with fail
   go_loopg [6,27] i (λm s6 s27 W=>∃j:Nat,j+m=i/\s27=iZ j/\Hid (kZ w W/\W.ownsRow w.heap.size 5 1 s6 (iJ L j).length ((iJ L j).map encB)))
   case atStart=>exact⟨0,oM,rfl,H⟩
   case round =>
    clear H;obtain⟨j,U,rfl,f⟩:=hrel;by_cases J:j<i
    ·have B:(j:Int)<(i:Int):=oM;obtain⟨x,s,o⟩:=O.out j J;have P:wr.cell? ⟨g,j,none⟩=some x:=by rw[f.1.cell (p:=⟨g,j,none⟩) V.out];exact s
     have hE:=o.below f.1 (Uv _);have r:=t.out (j+1) oM;have d:(iJ L (j+1)).length=(iJ L j).length+(L j).size:=by rw[oK,Uz];rfl
     obtain⟨N,W',C,A,R⟩:=Mm f.2 hE oM f.1.size;rw[<-d,<-P5]at A;have T:Hid (kZ w W'/\W'.ownsRow w.heap.size 5 1 N (iJ L (j+1)).length ((iJ L (j+1)).map encB)):=⟨f.1.grown R f.1.size (λk I=>(f.2.lt k I).1),A⟩
     have z:=Hid.mk' C;obtain⟨G,M,rfl,-⟩:=hE;have n:=atB g 0 i c j J;rw[show 0+1*j=j by omega]at n;clear C A R d r f o s;go_wp2_with (first|(refine lK (x:=u6) (y:=sZ G (L j).size M) (v:=N) (w':=W') rfl _ _ 23 rfl ?_ ?_ ?_ ?_;rfl;rfl;exact z.out)|fail)
     go_roundg (gk-1)
     case measure=>omega
     case rel=>exact⟨j+1,oM,rfl,T⟩
    ·have B:¬(j:Int)<(i:Int):=oM;obtain rfl:j=i:=oM;go_wp2;go_ret;exact⟨_,rfl,f.1,f.2⟩
end
section
open Go.Shelf
attribute [local go_sem] Zd
variable {P:Nat}[NeZero P]
theorem A4{w w':Uq}(h:kZ w w')(row:Option Nat):w.grownBy w' row:=⟨h.os,h.tape,h.output,h.size,λk b _=>h.block k b⟩
theorem Jh{w:Uq}{g o:Nat}{k:Bs}(h:Holds encB w g o k)(b:0<k.size):g<w.heap.size:=by
 obtain⟨c,ho,-⟩:=cells_of_cell (h 0 b).1;exact(UY.1 ho).1
noncomputable def cand (P:Nat) [NeZero P] (k:ByteArray) (b:List UInt8) (i:Nat):Option (Fin P × Fin P):=
 if beV (oR ((⟨#[112,111,105,110,116,32]⟩:ByteArray)++k).data.toList [b,[UL i]]).toList<P then
  (rt (Xg P (beV (oR ((⟨#[112,111,105,110,116,32]⟩:ByteArray)++k).data.toList [b,[UL i]]).toList)*Xg P (beV (oR ((⟨#[112,111,105,110,116,32]⟩:ByteArray)++k).data.toList [b,[UL i]]).toList)*Xg P (beV (oR ((⟨#[112,111,105,110,116,32]⟩:ByteArray)++k).data.toList [b,[UL i]]).toList)+7)).map λy=>(Xg P (beV (oR ((⟨#[112,111,105,110,116,32]⟩:ByteArray)++k).data.toList [b,[UL i]]).toList),y)
 else none
noncomputable def cands (P:Nat) [NeZero P] (k:ByteArray) (b:List UInt8) (i:Nat):List (Fin P × Fin P):=(VF i).filterMap (cand P k b)
theorem jO(k:ByteArray)(b:List UInt8)(i:Nat):cands P k b (i+1)=cands P k b i++(cand P k b i).toList:=by
 unfold cands;rw[Y4,List.filterMap_append];cases h:cand P k b i<;>simp[h]
theorem GY(k:ByteArray)(b:List UInt8){i j:Nat}(h:i<=j):cands P k b i <+: cands P k b j:=by
 induction j with
 | zero=>rw[Nat.le_zero.1 h];exact yBb
 | succ j ih =>
  rcases Wp i (j+1)with c|c
  ·rw[jO];exact(ih oM).trans (List.prefix_append _ _)
  ·rw[show i=j+1 by omega];exact yBb
theorem GZ(k:ByteArray)(b:List UInt8)(i:Nat):(cands P k b i).length<=i:=by
 unfold cands;exact UB (List.length_filterMap_le _ _) (by rw[XV];exact Uv _)
end
section
open Go.Shelf
attribute [local go_sem] Zd
section
variable {F:Fence}{n:Nat}{P:VC}{ops:Array Vj}{rest:List Vj}{op:Vj}{a:Act}{w:Uq}{Q:Yo->Act->Uq->Prop}
theorem oP(g:V1 op (yielded ops a.tmps)=true)(k:U7)(x:XF)(ho:op.op=.load k x)(b o:Nat)(hx:a.eval x=oZ b o)(cs:List Us)(d:TypeDesc)(l:w.rangeAt b o cs)
 (j:P.underlying k=some d) (hd:d.isRow=true) (m:(P.info? k).map (·.size)=some cs.length) (h:wpListIn F n P ops Q rest (a.put op.dst (.agg cs.toArray)) w):wpListIn F n P ops Q (op :: rest) a w:=
 wpListIn_step λK i=>by
  rw[g,yCj rfl];refine⟨λf hf=>(by unfold yAI at hf;rw[ho]at hf;cases hf),?_⟩;rw[yAb _ _ _ (λc=>by rw[ho];intro e;cases e)];unfold U4;simp only[ho,hx,ZB,X4,UU,Wq,Vl,Ye w b o k cs d l j hd m];exact i _ _ h
end
variable {P:Nat}[NeZero P]
theorem Hid.mk{p:Prop}(h:p):Hid p:=h
theorem Pp(C:Fld P)(c:ByteArray)(vb:Us)(b:List UInt8)(k1 k2:Nat)(w:Uq)(kf:c.size<=1000000)(h1:w.cell? ⟨k1,0,none⟩=some (.string c))(h2:w.cell? ⟨k2,0,none⟩=some vb)(l1:k1<w.heap.size)(l2:k2<w.heap.size)(hb:PartOk w vb b)(n:Nat):
 SeqStopsK yBP n prog 112 #[jZ k1,jZ k2] (λx:Fin P × Fin P=>#[pv x.1 x.2]) (Below w.heap.size) (λxs=>xs=cands P c b 256) (λk=>k <+: cands P c b 256) 256 w:=by
 have HP:=hb;obtain⟨a0,sb,so,cap,bs,rfl,-,-,-,-⟩:=hb;intro l J Jx W hW hJ kh hY h0;refine callsIn_of_wp func112 rfl trivial ?_ rfl;simp only[ntmps112,VB,Vh,WF,VJ,yBC,yAo,yAn,yAN,yAA,Xq,WY]
 gi_wp2
 gi_loopw [10] (λp wr=>∃i:Nat,i<=256/\p=iZ i/\J (cands P c b i) wr/\kZ w wr/\W.heap.size<=wr.heap.size) (λp wr=>256-(intOf p).toNat)
 case atStart =>
  exact⟨0,dC,rfl,h0,hW,Uv _⟩
 case round =>
  obtain⟨i,hi,rfl,V,Y,hn⟩:=hrel;have k9:=Y;by_cases he:i=256
  ·subst he
   gi_wp2
   go_end0
   exact⟨⟨_,rfl⟩,.inl ⟨_,rfl,V⟩⟩
  ·have kc:(i:Int)<256:=oM;have c1:wr.cell? ⟨k1,0,none⟩=some (.string c):=(UV (Y.block k1 l1)).trans h1;have c2:wr.cell? ⟨k2,0,none⟩=some (.slice a0 bs.size cap):=(UV (Y.block k2 l2)).trans h2;have h9:=Made.alloc wr [.int .u8 i] 5;have hl:=Made.alloc (wr.alloc (.cells #[.int .u8 i] 5)) [.slice a0 bs.size cap,sZ wr.heap.size 1 1] 23;rw[UA]at hl;have kd:ub (UL i)=(i:Int):=by
    show(((UL i).toNat:Nat):Int)=_;rw[YH,UR oM]
   obtain⟨W1,S⟩:∃W1,W1=(wr.alloc (.cells #[.int .u8 i] 5)).alloc (.cells #[.slice a0 bs.size cap,sZ wr.heap.size 1 1] 23):=⟨_,rfl⟩
   have I:kZ wr W1:=by rw[S];exact((UQ _ wr).alloc (Uv _) _).alloc (by rw[UA];omega) _
   have hP:PartsOk W1 (some ⟨wr.heap.size+1,0,none⟩) [b,[UL i]]:=by
    have k:W1.rangeAt (wr.heap.size+1) 0 [.slice a0 bs.size cap,sZ wr.heap.size 1 1]:=by rw[S];exact hl.range
    refine UW ⟨_,_,rfl,λj f=>?_⟩;have g:j=0\/j=1:=by simp at f;omega
    rcases g with rfl|rfl
    ·exact⟨_,k 0 _ rfl,(HP.below k9).below I⟩
    ·refine⟨_,k 1 _ rfl,some (aZ wr.heap.size),wr.heap.size,0,1,#[UL i],rfl,rfl,Uv _,VQ rfl,UW ⟨rfl,?_⟩⟩;have m:=h9.range;have s:wr.heap.size<(wr.alloc (.cells #[.int .u8 i] 5)).heap.size:=by rw[UA];omega
     intro j f;have o:j=0:=by simp at f;omega
     subst o;have q:W1.heap[wr.heap.size]? = (wr.alloc (.cells #[.int .u8 i] 5)).heap[wr.heap.size]?:=by rw[S];exact Below.heap_alloc _ _ _ s
     refine⟨?_,?_⟩
     ·rw[UV (a:=⟨wr.heap.size,0+0,none⟩) q];show _=some (Value.int .u8 (ub (UL i)));rw[kd];exact m 0 _ rfl
     ·rw[VT (a:=⟨wr.heap.size,0+0,none⟩) q];exact(h9.there 0 (Uv _)).2
   have h8:=vP ((⟨#[112,111,105,110,116,32]⟩:ByteArray)++c) (some ⟨wr.heap.size+1,0,none⟩) 2 [b,[UL i]] W1 (by rw[ByteArray.size_append];show 6+c.size<=_;omega) (VQ rfl) hP
   gi_wp2_with fail
   rw[<-S];refine⟨trivial,λh=>(by cases h),(callsIn_wide.2 h8).mono ?_⟩;rintro e w2 ⟨r,rfl,ka,hk,O⟩;clear h8 hP c1 c2 h9 hl kc;obtain⟨T,R⟩:∃T,Hid (oR ((⟨#[112,111,105,110,116,32]⟩:ByteArray)++c).data.toList [b,[UL i]]=T):=⟨_,rfl⟩
   rw[R.out]at O
   gi_wp2_with fail
   refine⟨trivial,λh=>(by cases h),(callsIn_wide.2 (bO _)).mono ?_⟩;rintro e w3 ⟨v,rfl,Q,rfl⟩;have ha:r<w2.heap.size:=Jh O (by rw[<-R.out,fC];decide);have hm:T.size=32:=by rw[<-R.out];exact fC _ _
   have hg:Holds encB w3 r 0 T:=Holds.below O Q ha;have N:r<w3.heap.size:=Uw ha Q.size;have B:kZ wr w3:=(I.trans (hk.mono I.size)).trans (Q.mono (UB I.size hk.size));by_cases hx:beV T.toList<P
   ·obtain⟨x,X⟩:∃x:Fin P,Hid (beV T.toList=x.val):=⟨Xg P (beV T.toList),(UR hx).symm⟩
    have U:Hid (Xg P (beV T.toList)=x):=X8 (by show beV T.toList%P=_;rw[UR hx];exact X.out);have hx:Hid (beV T.toList<P):=hx
    gi_wp2_with fail
    refine⟨trivial,λh=>(by cases h),(callsIn_wide.2 (Kl C hm (Uv _) X.out N hg)).mono ?_⟩;rintro e A ⟨v,rfl,H,rfl⟩;have t:=(Made.alloc A [uZ 0,uZ 0,uZ 0,uZ 0] 47).there;have g:=B.trans (H.mono B.size);have hw:=VN _ _ 0 (ws x) t;obtain⟨d,k4,hu⟩:=Ux.1 u85;clear t hw hm hg ha N Q H O ka hk I;obtain⟨w5,hs⟩:∃w5,Hid ((A.alloc (.cells #[uZ 0,uZ 0,uZ 0,uZ 0] 47)).setCells A.heap.size 0 (ws x)=w5):=⟨_,rfl⟩
    have o:Hid (kZ wr w5):=by rw[<-hs.out];exact RG.below_setCells g.size _ _ _ (g.alloc g.size _)
    have h5:w5.rangeAt A.heap.size 0 (ws x):=by rw[<-hs.out];exact VN _ _ 0 (ws x) (Made.alloc A [uZ 0,uZ 0,uZ 0,uZ 0] 47).there
    gi_wp2_with (first|(refine bL rfl 47 _ _ rfl A.heap.size 0 (ws x).toArray rfl rfl (Made.alloc A [uZ 0,uZ 0,uZ 0,uZ 0] 47).there i85 kR ?_;rw[show(ws x).toArray.toList=ws x from rfl,hs.out])|refine jS rfl 47 _ rfl A.heap.size 0 rfl (ws x) d h5 k4 hu i85 ?_)
    refine⟨trivial,λh=>(by cases h),?_⟩;clear h5 k4 hu;have kg:True:=trivial;obtain⟨d8,Z,h7⟩:=Ux.1 gU;cases F:rt (x*x*x+7) with
    | none =>
     obtain⟨z,M⟩:∃z:Fin P,Hid (z=0):=⟨_,rfl⟩
     have k:=Ap C x F w5;rw[<-M.out]at k;obtain⟨vz,D⟩:∃vz,Hid (pv z z=vz):=⟨_,rfl⟩
     rw[D.out]at k;refine(callsIn_wide.2 k).mono ?_;clear k;rintro e s ⟨v,rfl,K,rfl⟩;have f:Hid (cand P c b i=none):=by
      show cand P c b i=none;unfold cand;rw[R.out,yCj hx.out,U.out,F];rfl
     clear F;have q:Hid (kZ wr ((s.alloc (.cells #[uZ 0,uZ 0,uZ 0,uZ 0,uZ 0,uZ 0,uZ 0,uZ 0] 93)).setCells s.heap.size 0 (ws z++ws z))):=
      have h6:=o.trans (K.mono o.size)
      RG.below_setCells h6.size _ _ _ (h6.alloc h6.size _)
     clear K;have E:(ws z++ws z).toArray.size=8:=kR;have u:Hid <| (s.alloc (.cells #[uZ 0,uZ 0,uZ 0,uZ 0,uZ 0,uZ 0,uZ 0,uZ 0] 93)).there s.heap.size 0 (ws z++ws z).toArray.size:=by show yBF _ _ _ _;rw[E];exact(Made.alloc s [uZ 0,uZ 0,uZ 0,uZ 0,uZ 0,uZ 0,uZ 0,uZ 0] 93).there
     have L:Hid ((prog.info? 93).map (·.size)=some (ws z++ws z).toArray.size):=by show _=_;rw[E];exact i109
     clear E;obtain⟨G,m⟩:∃G,Hid ((s.alloc (.cells #[uZ 0,uZ 0,uZ 0,uZ 0,uZ 0,uZ 0,uZ 0,uZ 0] 93)).setCells s.heap.size 0 (ws z++ws z)=G):=⟨_,rfl⟩
     rw[m.out]at q
     gi_wp2_with (refine bL rfl 93 _ _ rfl s.heap.size 0 (ws z++ws z).toArray ?_ ?_ ?_ ?_ ?_ ?_;rfl;exact D.symm;exact u.out;exact L.out;kernel_rfl;rw[show(ws z++ws z).toArray.toList=ws z++ws z from rfl,m.out];refine Zf ?_)
     clear u L D M m o U X hx R;show wpListIn _ _ _ _ _ _ _ _
     gi_wp2_with fail
     refine⟨λ_ h=>(by cases h),?_⟩
     gi_wp2_with fail
     refine⟨⟨i+1,oM,rfl,?_,Y.trans (q.mono Y.size),UB hn q.size⟩,?_⟩
     ·rw[jO,f.out];exact hJ _ wr _ none (by simpa using V) (A4 q.out none) (λ_ e=>by cases e)
     ·simp[intOf];omega
    | some y =>
     have k:=Ao C x y F w5;obtain⟨vz,D⟩:∃vz,Hid (pv x y=vz):=⟨_,rfl⟩
     rw[D.out]at k;refine(callsIn_wide.2 k).mono ?_;clear k;rintro e s ⟨v,rfl,K,rfl⟩;have f:Hid (cand P c b i=some (x,y)):=by
      show cand P c b i=some (x,y);unfold cand;rw[R.out,yCj hx.out,U.out,F];rfl
     clear F;obtain⟨G,m⟩:∃G,Hid ((s.alloc (.cells #[uZ 0,uZ 0,uZ 0,uZ 0,uZ 0,uZ 0,uZ 0,uZ 0] 93)).setCells s.heap.size 0 (ws x++ws y)=G):=⟨_,rfl⟩
     have M:Hid (kZ wr G):=by
      rw[<-m.out];have h6:=o.trans (K.mono o.size);exact RG.below_setCells h6.size _ _ _ (h6.alloc h6.size _)
     clear K;have h4:G.rangeAt s.heap.size 0 (ws x++ws y):=by rw[<-m.out];exact VN _ _ 0 (ws x++ws y) (Made.alloc s [uZ 0,uZ 0,uZ 0,uZ 0,uZ 0,uZ 0,uZ 0,uZ 0] 93).there
     have k8:Hid (J (cands P c b i) G):=hJ _ wr _ none (by simpa using V) (A4 M.out none) (λ_ e=>by cases e);have E:(ws x++ws y).toArray.size=8:=kR;have u:Hid <| (s.alloc (.cells #[uZ 0,uZ 0,uZ 0,uZ 0,uZ 0,uZ 0,uZ 0,uZ 0] 93)).there s.heap.size 0 (ws x++ws y).toArray.size:=by show yBF _ _ _ _;rw[E];exact(Made.alloc s [uZ 0,uZ 0,uZ 0,uZ 0,uZ 0,uZ 0,uZ 0,uZ 0] 93).there
     have L:Hid ((prog.info? 93).map (·.size)=some (ws x++ws y).toArray.size):=by show _=_;rw[E];exact i109
     clear E;obtain⟨fn,tmps,k7,ke,hy,hR⟩:=hY (cands P c b i) (x,y) G k8.out (Nat.lt_of_le_of_lt (GZ c b i) oM);dsimp only at hy;obtain⟨va,hr⟩:∃va,Hid (U2 (ws x++ws y).toArray=va):=⟨_,rfl⟩
     rw[show pv x y=va from hr.out]at hy
     gi_wp2_with (refine bL rfl 93 _ _ rfl s.heap.size 0 (ws x++ws y).toArray ?_ ?_ ?_ ?_ ?_ ?_;rfl;exact D.symm;exact u.out;exact L.out;kernel_rfl;rw[show(ws x++ws y).toArray.toList=ws x++ws y from rfl,m.out];refine Zf ?_)
     clear u L m o U X hx R;have k6:=Hid.mk hR;have h3:=Hid.mk h4;have k5:=Hid.mk Z;have ht:=Hid.mk h7;clear hR h4 Z h7;show wpListIn _ _ _ _ _ _ _ _
     gi_wp2_with (refine oP rfl 93 _ rfl s.heap.size 0 ?_ (ws x++ws y) d8 ?_ ?_ ?_ ?_ ?_;rfl;exact h3.out;exact k5.out;exact ht.out;exact i109;rw[hr.out];refine Zf ?_)
     clear h3 k5 ht hr D;show wpListIn _ _ _ _ _ _ _ _
     gi_wp2_with fail
     refine⟨λh=>(by cases h),k6.mono ?_⟩;clear k6 hy;rintro e W8 (⟨rfl,kb,k3⟩|⟨rfl,k0⟩)
     ·gi_wp2_with fail
      refine⟨⟨i+1,oM,rfl,?_,(Y.trans (M.mono Y.size)).trans k3,UB hn (UB M.size k3.size)⟩,?_⟩
      ·rw[jO,f.out];exact kb
      ·simp[intOf];omega
     ·gi_wp2_with fail
      refine UD (results_none rfl _ _ _) rfl ?_;refine⟨⟨_,rfl⟩,.inr ⟨_,?_,k0⟩⟩;have hp:=GY (P:=P) c b (i:=i+1) (j:=256) oM;rw[jO,f.out]at hp;exact hp
   ·have f:cand P c b i=none:=by
     unfold cand;rw[R.out,yCk hx]
    gi_wp2_with fail
    refine⟨trivial,λh=>(by cases h),(callsIn_wide.2 (Kn C hm (Uv _) hx N hg)).mono ?_⟩;rintro e A ⟨v,rfl,H,rfl⟩;have t:Hid ((A.alloc (.cells #[uZ 0,uZ 0,uZ 0,uZ 0] 47)).there A.heap.size 0 4):=(Made.alloc A [uZ 0,uZ 0,uZ 0,uZ 0] 47).there;have g:=B.trans (H.mono B.size);have q:Hid (kZ wr ((A.alloc (.cells #[uZ 0,uZ 0,uZ 0,uZ 0] 47)).setCells A.heap.size 0 (ws (0:Fin P)))):=RG.below_setCells g.size _ _ _ (g.alloc g.size _);have f:Hid (cand P c b i=none):=f;obtain⟨G,m⟩:∃G,Hid ((A.alloc (.cells #[uZ 0,uZ 0,uZ 0,uZ 0] 47)).setCells A.heap.size 0 (ws (0:Fin P))=G):=⟨_,rfl⟩
    rw[m.out]at q
    gi_wp2_with (refine bL rfl 47 _ _ rfl A.heap.size 0 (ws (0:Fin P)).toArray ?_ ?_ ?_ ?_ ?_ ?_;rfl;rfl;exact t.out;exact i85;kernel_rfl;rw[show(ws (0:Fin P)).toArray.toList=ws (0:Fin P) from rfl,m.out];refine Zf ?_)
    clear t g B H R m;show wpListIn _ _ _ _ _ _ _ _
    gi_wp2_with fail
    refine⟨⟨i+1,oM,rfl,?_,Y.trans (q.mono Y.size),UB hn q.size⟩,?_⟩
    ·rw[jO,f.out];exact hJ _ wr _ none (by simpa using V) (A4 q.out none) (λ_ e=>by cases e)
    ·simp[intOf];omega
end
end Go.Proofs.YtdoammpgchejcaaGreat
