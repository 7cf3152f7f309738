import Derived.Deep.LoopGhost
import Derived.Deep.RegionHeld3
import Derived.Lib.LazyBuf
import Derived.RangeFuncNested
import Derived.RangeFuncBound
import Derived.RangeFuncCalls
import Derived.RangeFuncLeaves
import Derived.Shelf.Abstract
import Derived.Shelf.RegionOpen
import Derived.WalkKit
import Derived.OwnWalkIn
import Derived.TacticsInMore
import Derived.LoopNIn
import Derived.LoopIn
import Derived.Deep.RegionWith
import Derived.Deep.CutRange
import Derived.Deep.DeepCutAuto
import Derived.Deep.OwnRows
import Derived.Great.BuildSlice
import Derived.Laws.AppendOwn
import Derived.Laws.IdiomCopy
import Derived.Lib.AppendZeros
import Derived.Test.YtdoammpgchejcaaGreatsz3
set_option linter.unusedVariables false
set_option linter.constructorNameAsVariable false
set_option linter.unusedSimpArgs false
set_option maxRecDepth 1000000
set_option maxHeartbeats 4000000
namespace Go.Proofs.YtdoammpgchejcaaGreat
open EC NT RG SP
open _root_.Array renaming all_eq_true'->Xa,any_eq_true'->XQ,ext->yB6,ext_getElem?->yAH,getD_eq_getD_getElem?->UI,getElem?_eq_getElem->U0,getElem?_eq_some_iff->UZ,getElem?_replicate->Yi,getElem?_setIfInBounds->WE,getElem?_toList->Vq,getElem_replicate->Wy,length_toList->UK,replicate->UJ,replicate_succ->yAq,replicate_zero->yAp,size_append->VN,size_extract->Xz,size_replicate->UP,size_setIfInBounds->VF,toList_append->yAw,toList_replicate->Y5
open _root_.Bool renaming and_eq_true->UL,or_eq_false_iff->yAv,or_eq_true->Xx,true_or->Yb
open _root_.Classical renaming byContradiction->Wv
open _root_.Fin renaming ext->Ya,ofNat->Xj,val_mul->XL
open _root_.Go renaming Addr->Ww,Calls->UH,Exit->Yq,Oper->Vk,Operand->XI,Program->VD,Tmp->WF,TypeId->U8,Value->Ut,World->Ur,bodyPost_ret->UE,execOp->U5,run_append_own->Y3,run_loadVar_mid->Yg,run_underlying->X0,undef->WR,wpList_load_mid->U6,wpList_plain->Xi,wpList_store_mid->U2,wpOp_mono->ZB,wp_block->XJ,wp_cond_false->VI,wp_cond_true->VE,wp_loop_ghost->Zg,wp_region_any->yB9,wp_ret->Wr,wp_seq->Uz,wp_skip->WU
open _root_.Go.Addr renaming add->Zk
open _root_.Go.Builtin renaming append_->Vt,clear_->yAM,zeroCells->WG
open _root_.Go.Code renaming region->V6
open _root_.Go.Exit renaming inBlock->Yw
open _root_.Go.Fence renaming wide->yBR
open _root_.Go.Instr renaming box->Ve,build->Zi,buildSlice->Vy,findAsking->yAU,findKey->yBx,indexAt->Vl,loadAt->ZD,lookup->yAj,mapUpdate->Y4,sliceAt->Xp,sureAddr->X6
open _root_.Go.IntKind renaming i64->VS,wrap_i64->Yl
open _root_.Go.Next renaming value->Xr
open _root_.Go.Oper renaming about->yAK,semAt_eq->yAd,semAt_some->Zf,upon_enter->Xb,wp->VT
open _root_.Go.OwnFrom renaming and->yBw
open _root_.Go.Region renaming binds->VP,ready->U7,wanted->V4
open _root_.Go.Result renaming andThen_ok->Vm
open _root_.Go.RowKit.Below renaming refl->UR
open _root_.Go.RowKit.Hid renaming out->Zh
open _root_.Go.Sem renaming run->yBQ,run_bind->UV,run_pure->Wt
open _root_.Go.Value renaming agg->U3
open _root_.Go.World renaming cell?->VY,cell?_of_block->UW,frozen?->WY,frozen?_of_block->VU,ownsRow_nil->yAJ,putObj->yAg,rangeAt_setCells_apart->Vh,rangeAt_setCells_same->VO,size_alloc->UB,there->yBH,there_setCells->VW
open _root_.List renaming all_eq_true->Va,append_nil->Xw,append_toArray->yAC,cons_append->Xc,countP_replicate->yAo,eq_nil_iff_forall_not_mem->ZL,ext_getElem?->YZ,filter_sublist->yAB,finRange->yBz,flatMap_append->Zs,flatMap_cons->ZA,getElem?_append_left->UT,getElem?_append_right->U1,getElem?_eq_getElem->UG,getElem?_eq_none->Wz,getElem?_eq_some_iff->UF,getElem?_map->Vz,getElem?_of_mem->WM,getElem?_range->yAA,getElem?_take->WC,getElem?_toArray->Vg,getElem_cons_succ->yAl,getElem_mem->VH,length->yBO,length_append->UA,length_cons->Vj,length_filter_le->yAn,length_map->UQ,length_nil->WI,length_range->XY,length_take->WH,map_append->Wq,map_cons->XX,map_nil->yBF,map_toArray->yA3,mem_append->WB,mem_cons->VX,mem_cons_of_mem->Vb,mem_cons_self->Vu,mem_filter->Y8,mem_finRange->yAR,mem_flatMap->yA2,mem_map->Vn,mem_of_mem_take->yAr,mem_range->V0,mem_toArray->X8,nil_append->Xt,nodup_cons->XV,nodup_finRange->Zm,not_mem_nil->UY,pairwise_map->yAQ,prefix_rfl->yBd,push_toArray->yAP,range->VG,range_succ->Y6,set_cons_succ->Uu,size_toArray->VC,take_add_one->ZJ,take_length->yA1
open _root_.List.Pairwise renaming imp->Z0
open _root_.Nat renaming add_comm->yBN,add_mod->Zp,add_mul->XH,add_zero->XD,div_add_mod->yAa,le_add_right->Za,le_of_ble_eq_true->VR,le_of_lt->XM,le_refl->Uw,le_trans->UC,lt_of_lt_of_le->Ux,lt_of_succ_le->Xl,lt_or_ge->Ws,mod_eq_of_lt->US,mod_lt->V7,mul_comm->Vv,mul_le_mul_right->Xu,mul_mod->XB,mul_succ->Yk,mul_zero->ZR,ne_of_gt->We,pos_of_neZero->YA,pow_succ->V9,pow_two->yBV,reduceAdd->VK,reduceSub->yBE,sub_zero->YV,zero_add->UD,zero_le->WA
open _root_.Ne renaming symm->YD
open _root_.Option renaming isSome_iff_exists->Vr,map_eq_some_iff->Uy,map_some->Yx,some->UO
open _root_.Or renaming inl->U4,inr->UX
open _root_.Prod renaming mk->V8
open _root_.UInt8 renaming ofNat->UM,toNat_inj->yAW,toNat_ofNat'->YJ
open Go.Proofs.Tryz
variable {b:Bs}{X:EC.Pt P}{vs xs ys:List Ut}{c d e f g i id:Nat}{r:Pt P}{W W':Ur}{o:Vk}
section
open Go.RowKit Go.Sort
variable {P:Nat}[NeZero P]{N:Nat}
def ArgsPts(w:Ur)(q:Option Ww)(n:Nat)(L:Nat->Bs):Prop:=0<n->∃k,q=some (aZ k)/\k<w.heap.size/\∀j,j<n->∃v,w.cell? ⟨k,j,none⟩=some v/\Arg33 w v (L j)
def Um(P:Nat)[NeZero P](w:Ur)(n:Nat)(L:Nat->Bs)(e:Ut)(w':Ur):Prop:=
 (∃k,w.heap.size<=k/\k<w'.heap.size/\e=.tuple #[sZ k n n,iZ 0]/\∀j,j<n->∃p,rd P (L j)=some p/\w'.rangeAt k (8*j) (ws p.1++ws p.2)) \/
 ((∃j,j<n/\rd P (L j)=none)/\e=.tuple #[.slice none 0 0,iZ 4])
theorem S6(F:Fld P)(n cap:Nat)(hn:n<=512)(q:Option Ww)(L:Nat->Bs)(w:Ur)(hA:ArgsPts w q n L):UH prog 206 #[.slice q n cap] w (rZ w λe w'=>Um P w n L e w'):=by
 obtain⟨C,h7,hk⟩:=Rz n hn;obtain⟨i,-⟩:∃i:Nat,i=0:=⟨_,rfl⟩
 obtain⟨b,-⟩:∃i:Nat,i=0:=⟨_,rfl⟩
 obtain⟨m,-⟩:∃i:Nat,i=0:=⟨_,rfl⟩
 obtain⟨v,-⟩:∃v:Ut,v=.bool true:=⟨_,rfl⟩
 obtain⟨x,-⟩:∃x:Fin P,x=0:=⟨_,rfl⟩
 obtain⟨y,-⟩:∃x:Fin P,x=0:=⟨_,rfl⟩
 obtain⟨K,-⟩:∃c:List Ut,c=C:=⟨_,rfl⟩
 go_enter func206,ntmps206;refine Hy (v0:=.slice q n cap) (n:=32) kR kR kR ?_;intro a0 h2 f0;have hg:=RG.St.begin w;have M0:RG.M w w.heap.size [] 32 [] [] [(0,.v (.slice q n cap))] a0 _:=⟨hg,h2,⟨f0,yCn⟩⟩
 repeat refine Uz ?_
 refine M0.U [.x (.slice none 0 0),.x (iZ 0)] [0,2,3] ⟨st,st,yCn⟩ ?_;intro a1 w1 M1;repeat refine Uz ?_
 refine M1.t [.x 9 [] (.slice q n cap),.x 10 [(9,0)] (iZ n),⟨some 11,[(10,1)],.s 0 n n,.make 0⟩,.s 4 [(11,2)] (.s 0 n n)] [(2,C)] [] [C] [(0,.v (.slice q n cap)),(2,.v (.slice none 0 0)),(3,.v (iZ 0)),(4,.s 0 n n)] ⟨st,fQ rfl 9 (.v (.slice q n cap)) (iZ n) rfl sx (λa w=>kR) (λμ w=>kR),mJ 0 rfl _ rfl 100 93 10 10 n rfl rfl sx sx hk,st,yCn⟩ ?_;intro j2 a2 w2 M2;repeat refine Uz ?_
 refine M2.U [.x (.slice q n cap),.x (iZ n),.x (iZ 0)] [2,3,4,12,13,14] ⟨st,fQ rfl 12 (.v (.slice q n cap)) (iZ n) rfl sx (λa w=>kR) (λμ w=>kR),st,yCn⟩ ?_;intro U w3 E;have hl:U.tmps[2]? = some (.slice none 0 0):=E.at (s:=(.v (.slice none 0 0)));have hm:U.tmps[3]? = some (iZ 0):=E.at (s:=(.v (iZ 0)));have Z:U.tmps[4]? = some (sZ j2 n n):=E.at (s:=(.s 0 n n));have S:U.tmps[12]? = some (.slice q n cap):=E.at (s:=(.v (.slice q n cap)));have J:U.tmps[13]? = some (iZ n):=E.at (s:=(.v (iZ n)));have Q:U.tmps[14]? = some (iZ 0):=E.at (s:=(.v (iZ 0)));repeat refine Uz ?_
 refine XJ ?_;refine Zg (λm a wr=>∃(i:Nat) (C:List Ut),i+m=n/\(∀j,j<i->(rd P (L j)).isSome=true)/\Rows 8 n (λj=>match rd P (L j) with|some p=>ws p.1++ws p.2|none=>[]) i C/\Sl a 32/\a.tmps[4]? = some (sZ j2 n n)/\a.tmps[12]? = some (.slice q n cap)/\a.tmps[13]? = some (iZ n)/\a.tmps[14]? = some (iZ i)/\RG.St w w.heap.size [] [C] [j2] wr) n ⟨0,C,oM,λj hj=>oM,⟨h7,λj r hj=>oM⟩,E.sl,Z,S,J,Q,E.st⟩ ?_;intro m' a wr;rintro⟨i,C,k9,H,hR,sl,p4,B,N,R,u⟩;generalize j2=T at p4 u;by_cases D:i<n
 ·obtain⟨b,h0,W,hc⟩:=hA oM;rw[h0]at B;obtain⟨v,hv,G⟩:=hc i D;have l:w.cell? ⟨b,0+i,none⟩=some v:=by rw[UD];exact hv
  cases k:rd P (L i) with
  | some pp =>
   obtain⟨x,y⟩:=pp;have O:∀w',BelX w.heap.size [] w w'->UH prog 193 #[v] w' (Ret λe M=>kZ w' M/\e=.tuple #[pv x y,.bool true]):=λw' hb=>by
    have:=mZ F v (L i) w' (G.below hb.below);rw[k]at this;exact this
   have X:=hR.len;have f:0+8*i+(ws x++ws y).length<=C.length:=by rw[X];show 0+8*i+8<=8*n;omega
   obtain⟨K,g⟩:∃c,rep C (0+8*i) (ws x++ws y)=c:=⟨_,rfl⟩
   have h6:=g ▸ RG.rep_at f;have h4:K.length=C.length:=g ▸ cU f;have h1:Rows 8 n (λj=>match rd P (L j) with|some p=>ws p.1++ws p.2|none=>[]) (i+1) K:=by
    have:=hR.next D (by show yBO (match rd P (L i) with|some p=>_|none=>_)=_;rw[k];rfl);rw[<-g];have e:(λj=>match rd P (L j) with|some p=>ws p.1++ws p.2|none=>[]) i=(ws x++ws y):=by show(match rd P (L i) with|some p=>_|none=>_)=_;rw[k]
    rw[<-e];exact this
   have h8:RG.M w w.heap.size [] 32 [C] [T] [(4,.s 0 n n),(12,.v (sZ b n cap)),(13,.v (iZ n)),(14,.v (iZ i))] a _:=⟨u,sl,⟨p4,B,N,R,yCn⟩⟩
   repeat refine Uz ?_
   refine h8.U [.x (.bool true)] [4,12,13,14,15] ⟨aQ rfl .lss 3 3 14 13 (iZ i) (iZ n) (.bool true) rfl rfl sx sx (λw=>kR) (gA D),yCn⟩ ?_;intro hq hp Y;repeat refine Uz ?_
   refine VE Y.ev ?_;refine WU ?_;refine Uz ?_;refine XJ ?_;repeat refine Uz ?_
   refine Y.U [.x (iZ i),.x (.pointer (some ⟨b,0+i,none⟩)),.x v,.x (iZ i),.x v] [4,5,6,12,13,14] ⟨st,bD rfl 24 12 14 rfl (.v (sZ b n cap)) (iZ i) sx sx (λμ w=>Ni _ 0 _ _ i D w),bM rfl b (0+i) W UY 23 17 rfl v rfl sx l u23,st,st,yCn⟩ ?_;intro k4 hu he;repeat refine Uz ?_
   refine he.T [.x v,.c (.tuple #[pv x y,.bool true]),.x (.tuple #[pv x y,.bool true]),.x (pv x y),.x (.bool true),.m 1,.u 1,.x (.bool true)] [(5,RG.z 8)] [(1,6,ws x++(ws y))] [C,ws x++(ws y)] [4,5,7,8,12,13,14] ⟨st,uG rfl 193 20 v (.tuple #[pv x y,.bool true]) rfl (λa w=>kR) sx O,st,st,st,mk 1 93,RG.pt i109,st,yCn⟩ ?_;intro hw k0 hs h9;repeat refine Uz ?_
   refine h9.U [.x (.bool true),.x (.bool false)] [4,5,7,12,13,14,25] ⟨st,st,yCn⟩ ?_;intro ka k2 V;repeat refine Uz ?_
   refine VI V.ev ?_;refine WU ?_;repeat refine Uz ?_
   refine V.tx [.s 26 [] (.s 0 n n),.x 27 [] (iZ i),.x 28 [] (pv x y),.s 29 [(26,0),(27,1)] (.p 0 (0+8*i)),.u [(29,3),(28,2)] 0] [] [(0,4,K)] [K,ws x++(ws y)] [(4,.s 0 n n),(12,.v (sZ b n cap)),(13,.v (iZ n)),(14,.v (iZ i))] kR (congrArg (λn=>[n]) h4) ⟨st,st,ld gU i109,bD rfl 100 26 27 rfl (.s 0 n n) (iZ i) sx sx (λμ w=>NZ _ 0 _ _ i D w),eZ 0 (0+8*i) rfl _ rfl 93 (.tmp 29) (.tmp 28) (ws x++ws y) rfl rfl sx sx f h6 i109 rfl,yCn⟩ ?_;intro ht k7 ha;repeat refine Uz ?_
   refine ha.U [.x (iZ ((i+1:Nat):Int)),.x (iZ ((i+1:Nat):Int))] [4,12,13,14] ⟨aP rfl .add 3 3 14 (iZ i) (iZ 1) (iZ ((i+1:Nat):Int)) rfl rfl sx (λw=>kR) (uQ i 1 oM oM),st,yCn⟩ ?_;intro o k5 d;have I:o.tmps[4]? = some (sZ T n n):=d.at (s:=(.s 0 n n));have t:o.tmps[12]? = some (sZ b n cap):=d.at (s:=(.v (sZ b n cap)));have z:o.tmps[13]? = some (iZ n):=d.at (s:=(.v (iZ n)));have A:o.tmps[14]? = some (iZ ((i+1:Nat):Int)):=d.at (s:=(.v (iZ ((i+1:Nat):Int))));show ∃n',_;exact⟨m'-1,oM,i+1,K,oM,λj hj=>(by
    by_cases h3:j=i
    ·rw[h3,k];rfl
    ·exact H j oM),h1,d.sl,I,(by rw[h0];exact t),z,A,RG.St.init (cs:=[K]) (ks:=[T]) d.st⟩
  | none =>
   have O:∀w',BelX w.heap.size [] w w'->UH prog 193 #[v] w' (Ret λe M=>kZ w' M/\e=.tuple #[pv (0:Fin P) 0,.bool false]):=λw' hb=>by
    have:=mZ F v (L i) w' (G.below hb.below);rw[k]at this;exact this
   have o:RG.M w w.heap.size [] 32 [C] [T] [(4,.s 0 n n),(12,.v (sZ b n cap)),(13,.v (iZ n)),(14,.v (iZ i))] a _:=⟨u,sl,⟨p4,B,N,R,yCn⟩⟩
   repeat refine Uz ?_
   refine o.U [.x (.bool true)] [12,14,15] ⟨aQ rfl .lss 3 3 14 13 (iZ i) (iZ n) (.bool true) rfl rfl sx sx (λw=>kR) (gA D),yCn⟩ ?_;intro k3 k1 f;repeat refine Uz ?_
   refine VE f.ev ?_;refine WU ?_;refine Uz ?_;refine XJ ?_;repeat refine Uz ?_
   refine f.U [.x (iZ i),.x (.pointer (some ⟨b,0+i,none⟩)),.x v,.x (iZ i),.x v] [6] ⟨st,bD rfl 24 12 14 rfl (.v (sZ b n cap)) (iZ i) sx sx (λμ w=>Ni _ 0 _ _ i D w),bM rfl b (0+i) W UY 23 17 rfl v rfl sx l u23,st,st,yCn⟩ ?_;intro A hy t;repeat refine Uz ?_
   refine t.T [.x v,.c (.tuple #[pv (0:Fin P) (0:Fin P),.bool false]),.x (.tuple #[pv (0:Fin P) (0:Fin P),.bool false]),.x (pv (0:Fin P) (0:Fin P)),.x (.bool false),.m 1,.u 1,.x (.bool false)] [(5,RG.z 8)] [(1,6,ws (0:Fin P)++(ws (0:Fin P)))] [C,ws (0:Fin P)++(ws (0:Fin P))] [8] ⟨st,uG rfl 193 20 v (.tuple #[pv (0:Fin P) (0:Fin P),.bool false]) rfl (λa w=>kR) sx O,st,st,st,mk 1 93,RG.pt i109,st,yCn⟩ ?_;intro hz I X z;repeat refine Uz ?_
   refine z.U [.x (.bool false),.x (.bool true)] [25] ⟨st,st,yCn⟩ ?_;intro Y k8 g;repeat refine Uz ?_
   refine VE g.ev ?_;repeat refine Uz ?_
   refine g.U [.x (.slice none 0 0),.x (iZ 4)] [2,3] ⟨st,st,yCn⟩ ?_;intro k6 V d;refine Wr ?_;refine UE (v:=.tuple #[.slice none 0 0,iZ 4]) (fX 2 3 rfl _ _ (d.at (s:=(.v (.slice none 0 0)))) (d.at (s:=(.v (iZ 4))))) d.sl.defers ?_;exact⟨_,rfl,d.st.bel.below,UX ⟨⟨i,D,k⟩,rfl⟩⟩
 ·have A:i=n:=oM;have g:RG.M w w.heap.size [] 32 [C] [T] [(4,.s 0 n n),(12,.v (.slice q n cap)),(13,.v (iZ n)),(14,.v (iZ i))] a _:=⟨u,sl,⟨p4,B,N,R,yCn⟩⟩
  repeat refine Uz ?_
  refine g.U [.x (.bool false)] [4,15] ⟨aQ rfl .lss 3 3 14 13 (iZ i) (iZ n) (.bool false) rfl rfl sx sx (λw=>kR) (nH D),yCn⟩ ?_;intro t G d;repeat refine Uz ?_
  refine VI d.ev ?_;refine wp_exit ?_;dsimp only[Exit.then,Yw];rw[yCl rfl];repeat refine Uz ?_
  refine d.U [.s (.s 0 n n),.s (.s 0 n n),.x (iZ 0)] [2,3] ⟨st,st,st,yCn⟩ ?_;intro l z k;refine Wr ?_;refine UE (v:=.tuple #[sZ T n n,iZ 0]) (fX 2 3 rfl _ _ (k.at (s:=(.s 0 n n))) (k.at (s:=(.v (iZ 0))))) k.sl.defers ?_;refine⟨_,rfl,k.st.bel.below,U4 ⟨T,?_,?_,rfl,λj hj=>?_⟩⟩
  ·exact(k.st.has 0 C rfl).2.2.2.elim id (λh=>absurd h UY)
  ·exact(k.st.has 0 C rfl).2.2.1
  ·obtain⟨pp,f⟩:=Vr.1 (H j oM);refine⟨pp,f,rV (k.st.has 0 C rfl).1 (λr o=>?_)⟩;have I:=hR.row j r oM o;rw[I];show(match rd P (L j) with|some p=>_|none=>_)[r]? = _;rw[f]
def vT(w:Ur)(q:Option Ww)(n:Nat)(L:Nat->Bs):Prop:=0<n->∃k,q=some (aZ k)/\k<w.heap.size/\∀j,j<n->∃v,w.cell? ⟨k,j,none⟩=some v/\Arg w v (L j)
def Ul(N:Nat)(w:Ur)(n:Nat)(L:Nat->Bs)(e:Ut)(w':Ur):Prop:=
 (∃k,w.heap.size<=k/\k<w'.heap.size/\e=.tuple #[sZ k n n,iZ 0]/\∀j,j<n->∃p,rq N (L j)=some p/\w'.rangeAt k (4*j) (wn p)) \/
 ((∃j,j<n/\rq N (L j)=none)/\e=.tuple #[.slice none 0 0,iZ 3])
theorem Ob{N:Nat}(hG:Gap 4624529908474429119 4994812053365940164 1 N)(n cap:Nat)(hn:n<=512)(q:Option Ww)(L:Nat->Bs)(w:Ur)(hA:vT w q n L):UH prog 47 #[.slice q n cap] w (rZ w λe w'=>Ul N w n L e w'):=by
 obtain⟨C,h6,hg⟩:=TM n hn;obtain⟨i,-⟩:∃i:Nat,i=0:=⟨_,rfl⟩
 obtain⟨d,-⟩:∃i:Nat,i=0:=⟨_,rfl⟩
 obtain⟨m,-⟩:∃i:Nat,i=0:=⟨_,rfl⟩
 obtain⟨v,-⟩:∃v:Ut,v=.bool true:=⟨_,rfl⟩
 obtain⟨I,-⟩:∃c:List Ut,c=C:=⟨_,rfl⟩
 go_enter func47,ntmps47;refine Hy (v0:=.slice q n cap) (n:=33) kR kR kR ?_;intro a0 h1 f0;have he:=RG.St.begin w;have M0:RG.M w w.heap.size [] 33 [] [] [(0,.v (.slice q n cap))] a0 _:=⟨he,h1,⟨f0,yCn⟩⟩
 repeat refine Uz ?_
 refine M0.U [.x (.slice none 0 0),.x (iZ 0)] [0,2,3] ⟨st,st,yCn⟩ ?_;intro a1 w1 M1;repeat refine Uz ?_
 refine M1.t [.x 9 [] (.slice q n cap),.x 10 [(9,0)] (iZ n),⟨some 11,[(10,1)],.s 0 n n,.make 0⟩,.s 4 [(11,2)] (.s 0 n n)] [(2,C)] [] [C] [(0,.v (.slice q n cap)),(2,.v (.slice none 0 0)),(3,.v (iZ 0)),(4,.s 0 n n)] ⟨st,fQ rfl 9 (.v (.slice q n cap)) (iZ n) rfl sx (λa w=>kR) (λμ w=>kR),mJ 0 rfl _ rfl 89 47 10 10 n rfl rfl sx sx hg,st,yCn⟩ ?_;intro Z a2 w2 M2;repeat refine Uz ?_
 refine M2.U [.x (.slice q n cap),.x (iZ n),.x (iZ 0)] [2,3,4,12,13,14] ⟨st,fQ rfl 12 (.v (.slice q n cap)) (iZ n) rfl sx (λa w=>kR) (λμ w=>kR),st,yCn⟩ ?_;intro S w3 D;have hk:S.tmps[2]? = some (.slice none 0 0):=D.at (s:=(.v (.slice none 0 0)));have hl:S.tmps[3]? = some (iZ 0):=D.at (s:=(.v (iZ 0)));have X:S.tmps[4]? = some (sZ Z n n):=D.at (s:=(.s 0 n n));have Q:S.tmps[12]? = some (.slice q n cap):=D.at (s:=(.v (.slice q n cap)));have H:S.tmps[13]? = some (iZ n):=D.at (s:=(.v (iZ n)));have O:S.tmps[14]? = some (iZ 0):=D.at (s:=(.v (iZ 0)));repeat refine Uz ?_
 refine XJ ?_;refine Zg (λm a wr=>∃(i:Nat) (C:List Ut),i+m=n/\(∀j,j<i->(rq N (L j)).isSome=true)/\Rows 4 n (λj=>match rq N (L j) with|some k=>wn k|none=>[]) i C/\Sl a 33/\a.tmps[4]? = some (sZ Z n n)/\a.tmps[12]? = some (.slice q n cap)/\a.tmps[13]? = some (iZ n)/\a.tmps[14]? = some (iZ i)/\RG.St w w.heap.size [] [C] [Z] wr) n ⟨0,C,oM,λj hj=>oM,⟨h6,λj r hj=>oM⟩,D.sl,X,Q,H,O,D.st⟩ ?_;intro m' a wr;rintro⟨i,C,k8,F,hR,sl,p4,A,K,P,x⟩;generalize Z=R at p4 x;by_cases B:i<n
 ·obtain⟨d,Y,U,hc⟩:=hA oM;rw[Y]at A;obtain⟨v,hv,E⟩:=hc i B;have o:w.cell? ⟨d,0+i,none⟩=some v:=by rw[UD];exact hv
  cases b:rq N (L i) with
  | some pp =>
   obtain⟨m,rfl⟩:∃m,m=pp:=⟨_,rfl⟩
   have M:∀w',BelX w.heap.size [] w w'->UH prog 59 #[gv1,v] w' (Ret λe J=>kZ w' J/\e=.tuple #[nv m,.bool true]):=λw' hb=>by
    have:=AM hG v (L i) w' (E.below hb.below);rw[b]at this;exact this
   have V:=hR.len;have g:0+4*i+(wn m).length<=C.length:=by rw[V];show 0+4*i+4<=4*n;omega
   obtain⟨I,l⟩:∃c,rep C (0+4*i) (wn m)=c:=⟨_,rfl⟩
   have h4:=l ▸ RG.rep_at g;have h3:I.length=C.length:=l ▸ cU g;have h0:Rows 4 n (λj=>match rq N (L j) with|some k=>wn k|none=>[]) (i+1) I:=by
    have:=hR.next B (by show yBO (match rq N (L i) with|some p=>_|none=>_)=_;rw[b];rfl);rw[<-l];have e:(λj=>match rq N (L j) with|some k=>wn k|none=>[]) i=(wn m):=by show(match rq N (L i) with|some p=>_|none=>_)=_;rw[b]
    rw[<-e];exact this
   have h7:RG.M w w.heap.size [] 33 [C] [R] [(4,.s 0 n n),(12,.v (sZ d n cap)),(13,.v (iZ n)),(14,.v (iZ i))] a _:=⟨x,sl,⟨p4,A,K,P,yCn⟩⟩
   repeat refine Uz ?_
   refine h7.U [.x (.bool true)] [4,12,13,14,15] ⟨aQ rfl .lss 3 3 14 13 (iZ i) (iZ n) (.bool true) rfl rfl sx sx (λw=>kR) (gA B),yCn⟩ ?_;intro hp hm W;repeat refine Uz ?_
   refine VE W.ev ?_;refine WU ?_;refine Uz ?_;refine XJ ?_;repeat refine Uz ?_
   refine W.U [.x (iZ i),.x (.pointer (some ⟨d,0+i,none⟩)),.x v,.x (iZ i),.x v] [4,5,6,12,13,14] ⟨st,bD rfl 24 12 14 rfl (.v (sZ d n cap)) (iZ i) sx sx (λμ w=>Ni _ 0 _ _ i B w),bM rfl d (0+i) U UY 23 17 rfl v rfl sx o u23,st,st,yCn⟩ ?_;intro k3 ht ha;repeat refine Uz ?_
   refine ha.T [.c gv1,.x v,.c (.tuple #[nv m,.bool true]),.x (.tuple #[nv m,.bool true]),.x (nv m),.x (.bool true),.m 1,.u 1,.x (.bool true)] [(6,RG.z 4)] [(1,7,wn m)] [C,wn m] [4,5,7,8,12,13,14] ⟨cl fH,st,kH rfl 59 20 21 gv1 v (.tuple #[nv m,.bool true]) rfl (λa w=>kR) sx sx M,st,st,st,mk 1 47,RG.pt i85,st,yCn⟩ ?_;intro hu hz hq h8;repeat refine Uz ?_
   refine h8.U [.x (.bool true),.x (.bool false)] [4,5,7,12,13,14,26] ⟨st,st,yCn⟩ ?_;intro k9 k1 T;repeat refine Uz ?_
   refine VI T.ev ?_;refine WU ?_;repeat refine Uz ?_
   refine T.tx [.s 27 [] (.s 0 n n),.x 28 [] (iZ i),.x 29 [] (nv m),.s 30 [(27,0),(28,1)] (.p 0 (0+4*i)),.u [(30,3),(29,2)] 0] [] [(0,4,I)] [I,wn m] [(4,.s 0 n n),(12,.v (sZ d n cap)),(13,.v (iZ n)),(14,.v (iZ i))] kR (congrArg (λn=>[n]) h3) ⟨st,st,ld u85 i85,bD rfl 89 27 28 rfl (.s 0 n n) (iZ i) sx sx (λμ w=>SS _ 0 _ _ i B w),eZ 0 (0+4*i) rfl _ rfl 47 (.tmp 30) (.tmp 29) (wn m) rfl rfl sx sx g h4 i85 rfl,yCn⟩ ?_;intro hs k6 h9;repeat refine Uz ?_
   refine h9.U [.x (iZ ((i+1:Nat):Int)),.x (iZ ((i+1:Nat):Int))] [4,12,13,14] ⟨aP rfl .add 3 3 14 (iZ i) (iZ 1) (iZ ((i+1:Nat):Int)) rfl rfl sx (λw=>kR) (uQ i 1 oM oM),st,yCn⟩ ?_;intro t k4 f;have G:t.tmps[4]? = some (sZ R n n):=f.at (s:=(.s 0 n n));have u:t.tmps[12]? = some (sZ d n cap):=f.at (s:=(.v (sZ d n cap)));have y:t.tmps[13]? = some (iZ n):=f.at (s:=(.v (iZ n)));have z:t.tmps[14]? = some (iZ ((i+1:Nat):Int)):=f.at (s:=(.v (iZ ((i+1:Nat):Int))));show ∃n',_;exact⟨m'-1,oM,i+1,I,oM,λj hj=>(by
    by_cases h2:j=i
    ·rw[h2,b];rfl
    ·exact F j oM),h0,f.sl,G,(by rw[Y];exact u),y,z,RG.St.init (cs:=[I]) (ks:=[R]) f.st⟩
  | none =>
   have M:∀w',BelX w.heap.size [] w w'->UH prog 59 #[gv1,v] w' (Ret λe J=>kZ w' J/\e=.tuple #[nv 0,.bool false]):=λw' hb=>by
    have:=AM hG v (L i) w' (E.below hb.below);rw[b]at this;exact this
   have t:RG.M w w.heap.size [] 33 [C] [R] [(4,.s 0 n n),(12,.v (sZ d n cap)),(13,.v (iZ n)),(14,.v (iZ i))] a _:=⟨x,sl,⟨p4,A,K,P,yCn⟩⟩
   repeat refine Uz ?_
   refine t.U [.x (.bool true)] [12,14,15] ⟨aQ rfl .lss 3 3 14 13 (iZ i) (iZ n) (.bool true) rfl rfl sx sx (λw=>kR) (gA B),yCn⟩ ?_;intro k2 k0 g;repeat refine Uz ?_
   refine VE g.ev ?_;refine WU ?_;refine Uz ?_;refine XJ ?_;repeat refine Uz ?_
   refine g.U [.x (iZ i),.x (.pointer (some ⟨d,0+i,none⟩)),.x v,.x (iZ i),.x v] [6] ⟨st,bD rfl 24 12 14 rfl (.v (sZ d n cap)) (iZ i) sx sx (λμ w=>Ni _ 0 _ _ i B w),bM rfl d (0+i) U UY 23 17 rfl v rfl sx o u23,st,st,yCn⟩ ?_;intro z hw u;repeat refine Uz ?_
   refine u.T [.c gv1,.x v,.c (.tuple #[nv 0,.bool false]),.x (.tuple #[nv 0,.bool false]),.x (nv 0),.x (.bool false),.m 1,.u 1,.x (.bool false)] [(6,RG.z 4)] [(1,7,wn 0)] [C,wn 0] [8] ⟨cl fH,st,kH rfl 59 20 21 gv1 v (.tuple #[nv 0,.bool false]) rfl (λa w=>kR) sx sx M,st,st,st,mk 1 47,RG.pt i85,st,yCn⟩ ?_;intro hy G V y;repeat refine Uz ?_
   refine y.U [.x (.bool false),.x (.bool true)] [26] ⟨st,st,yCn⟩ ?_;intro W k7 l;repeat refine Uz ?_
   refine VE l.ev ?_;repeat refine Uz ?_
   refine l.U [.x (.slice none 0 0),.x (iZ 3)] [2,3] ⟨st,st,yCn⟩ ?_;intro k5 T f;refine Wr ?_;refine UE (v:=.tuple #[.slice none 0 0,iZ 3]) (fX 2 3 rfl _ _ (f.at (s:=(.v (.slice none 0 0)))) (f.at (s:=(.v (iZ 3))))) f.sl.defers ?_;exact⟨_,rfl,f.st.bel.below,UX ⟨⟨i,B,b⟩,rfl⟩⟩
 ·have z:i=n:=oM;have l:RG.M w w.heap.size [] 33 [C] [R] [(4,.s 0 n n),(12,.v (.slice q n cap)),(13,.v (iZ n)),(14,.v (iZ i))] a _:=⟨x,sl,⟨p4,A,K,P,yCn⟩⟩
  repeat refine Uz ?_
  refine l.U [.x (.bool false)] [4,15] ⟨aQ rfl .lss 3 3 14 13 (iZ i) (iZ n) (.bool false) rfl rfl sx sx (λw=>kR) (nH B),yCn⟩ ?_;intro u E f;repeat refine Uz ?_
  refine VI f.ev ?_;refine wp_exit ?_;dsimp only[Exit.then,Yw];rw[yCl rfl];repeat refine Uz ?_
  refine f.U [.s (.s 0 n n),.s (.s 0 n n),.x (iZ 0)] [2,3] ⟨st,st,st,yCn⟩ ?_;intro o y b;refine Wr ?_;refine UE (v:=.tuple #[sZ R n n,iZ 0]) (fX 2 3 rfl _ _ (b.at (s:=(.s 0 n n))) (b.at (s:=(.v (iZ 0))))) b.sl.defers ?_;refine⟨_,rfl,b.st.bel.below,U4 ⟨R,?_,?_,rfl,λj hj=>?_⟩⟩
  ·exact(b.st.has 0 C rfl).2.2.2.elim id (λh=>absurd h UY)
  ·exact(b.st.has 0 C rfl).2.2.1
  ·obtain⟨pp,g⟩:=Vr.1 (F j oM);refine⟨pp,g,rV (b.st.has 0 C rfl).1 (λr t=>?_)⟩;have G:=hR.row j r oM t;rw[G];show(match rq N (L j) with|some p=>_|none=>_)[r]? = _;rw[g]
end
section
open Go.RowKit Go.Sort Go.Deep
variable {P:Nat}[NeZero P]{N:Nat}
omit [NeZero P] in
theorem Hu(x y:Fin P):∃a b c d p q r s:Nat,pv x y=.agg #[uZ a,uZ b,uZ c,uZ d,uZ p,uZ q,uZ r,uZ s]/\ws x++ws y=[uZ a,uZ b,uZ c,uZ d,uZ p,uZ q,uZ r,uZ s]:=
 ⟨_,_,_,_,_,_,_,_,rfl,rfl⟩
def Kw(c:Int)(e:Ut):Prop:=e=.tuple #[.slice none 0 0,iZ c]
def Hd(w:Ur)(T:Bs)(e:Ut)(w':Ur):Prop:=∃g cap,e=.tuple #[sZ g 33 cap,iZ 0]/\33<=cap/\w.heap.size<=g/\g<w'.heap.size/\Holds encB w' g 0 T
theorem Cr(C:Fld P)(v:Ut)(g:Bs)(w:Ur)(hv:Arg33 w v g):UH prog 118 #[v] w (rZ w λe w'=>e=.bool (rd P g).isSome):=by
 have j:∃(c b1 c1 b p1 k d s1:Nat),UH prog 193 #[v] w (rZ w λe w'=>e=.tuple #[.agg #[uZ c,uZ b1,uZ c1,uZ b,uZ p1,uZ k,uZ d,uZ s1],.bool (rd P g).isSome]):=by
  have h:=mZ C v g w hv;cases f:rd P g with
  | none =>
   obtain⟨c,b1,c1,b,p1,k,d,s1,i,-⟩:=Hu (0:Fin P) 0;refine⟨c,b1,c1,b,p1,k,d,s1,?_⟩;rw[f]at h;rw[<-i];exact h
  | some p =>
   obtain⟨c,b1,c1,b,p1,k,d,s1,i,-⟩:=Hu p.1 p.2;refine⟨c,b1,c1,b,p1,k,d,s1,?_⟩;rw[f]at h;rw[<-i];exact h
 obtain⟨c,b1,c1,b,p1,k,d,s1,j⟩:=j;obtain⟨q,n,cap,rfl,-⟩:=hv;go_enter func118,ntmps118;go_wp2_with fail
 refine j.mono ?_;rintro e l ⟨v,rfl,f,rfl⟩;have i:=mk1 (f);go_wp2;go_ret;exact⟨_,rfl,i.alloc i.size _,rfl⟩
structure PS(w:Ur)(k:Nat)(a1 b1 c1 d1 p1 q1 r1 s1 a2 b2 c2 d2 p2 q2 r2 s2:Nat)(W:Ur):Prop where
 r1:W.rangeAt k 0 [uZ a1,uZ b1,uZ c1,uZ d1,uZ p1,uZ q1,uZ r1,uZ s1]
 r2:W.rangeAt k 8 [uZ a2,uZ b2,uZ c2,uZ d2,uZ p2,uZ q2,uZ r2,uZ s2]
 lt:k<W.heap.size
 bl:kZ w W
def ptP(s:T3 P):Fin P × Fin P:=(s.1*(inv s.2.2*inv s.2.2),s.2.1*(inv s.2.2*inv s.2.2)*inv s.2.2)
theorem cell_below{w c:Ur}{k j:Nat}{v:Ut}(h:w.cell? ⟨k,j,none⟩=some v)(f:kZ w c)(d:k<w.heap.size):c.cell? ⟨k,j,none⟩=some v:=by
 have e:w.rangeAt k j [v]:=λi u b=>by
  cases i with
  | zero =>
   obtain rfl:v=u:=UO.inj b;exact h
  | succ i=>exact absurd b (by simp)
 exact RG.range_below e f d 0 v rfl
theorem ArgsPts.below{w c:Ur}{q:Option Ww}{n:Nat}{L:Nat->Bs}(h:ArgsPts w q n L)(b:kZ w c):ArgsPts c q n L:=λd=>by
 obtain⟨g,l,k,i⟩:=h d;refine⟨g,l,Ux k b.size,λj f=>?_⟩;obtain⟨v,hv,e⟩:=i j f;exact⟨v,cell_below hv b k,e.below b⟩
def SumR(P:Nat)[NeZero P](N:Nat)(w:Ur)(n a:Nat)(L M:Nat->Bs)(e:Ut)(w':Ur):Prop:=
 (n≠a/\Kw 2 e)\/(n=a/\512<n/\Kw 1 e)\/(n=a/\n<=512/\(((∃j,j<n/\rq N (L j)=none)/\Kw 3 e) \/
  ∃ns:Nat->Nat,(∀j,j<n->rq N (L j)=some (ns j))/\(((∃j,j<n/\rd P (M j)=none)/\Kw 4 e) \/
   ∃xs ys:Nat->Fin P,(∀j,j<n->rd P (M j)=some (xs j,ys j))/\Hd w (tD (ptP (iH ns xs ys n 257)).1 (ptP (iH ns xs ys n 257)).2) e w')))
theorem yC{A:Type}[Inhabited A]{n:Nat}{p:Nat->A->Prop}(h:∀j,j<n->∃a,p j a):∃f:Nat->A,∀j,j<n->p j (f j):=
 ⟨λj=>if k:j<n then(h j k).choose else default,λj k=>by
  show p j (if k:j<n then(h j k).choose else default);rw[dif_pos k];exact(h j k).choose_spec⟩
theorem wN{N:Nat}(b:N<=top){k:Bs}{m:Nat}(h:rq N k=some m):m<top:=by
 unfold rq at h;split at h
 ·rename_i h1
  obtain rfl:beV k.toList=m:=UO.inj h;exact Ux h1.2 b
 ·exact absurd h (by simp)
theorem PK{N:Nat}(C:Fld P)(hG:Gap 4624529908474429119 4994812053365940164 1 N)(hN:N<=top)(q T:Option Ww)(n cap a o:Nat)(L M:Nat->Bs)(w:Ur)(hL:vT w q n L)(hM:ArgsPts w T a M):
 UH prog 143 #[.slice q n cap,.slice T a o] w (rZ w λe w'=>SumR P N w n a L M e w'):=by
 have HL:=mk1 (hL);have HM:=mk1 (hM);by_cases J:n=a
 ·subst J;by_cases A:512<n
  ·go_enter func143,ntmps143;go_wp2
   go_ret2
   exact⟨_,rfl,UR _ _,UX (U4 ⟨rfl,A,rfl⟩)⟩
  ·have y:n<=512:=oM;go_enter func143,ntmps143;go_wp2_with fail
   refine(Ob hG n cap y q L w HL.out).mono ?_;rintro e X ⟨v,rfl,G,⟨k,W,r,rfl,c⟩|⟨u,rfl⟩⟩
   ·obtain⟨ns,F⟩:=yC c;have t:=mk1 (G);have R:Hid (k<X.heap.size/\∀j,j<n->X.rangeAt k (4*j) (wn (ns j))):=⟨r,λj f=>(F j f).2⟩
    have S:Hid (∀j,j<n->rq N (L j)=some (ns j)):=λj f=>(F j f).1
    go_wp2_with fail
    refine(S6 C n o y T M X (HM.below t.out)).mono ?_;rintro e p ⟨v,rfl,d,⟨K,W,r,rfl,c⟩|⟨u,rfl⟩⟩
    ·obtain⟨b,B⟩:=yC c;have l:=mk1 (t.trans (d.mono t.size));have I:Hid (k<p.heap.size/\∀j,j<n->p.rangeAt k (4*j) (wn (ns j))):=⟨Ux R.1 d.size,λj f=>RG.range_below (R.2 j f) d R.1⟩
     have HP:Hid (K<p.heap.size/\∀j,j<n->p.rangeAt K (8*j) (ws (b j).1++ws (b j).2)):=⟨r,λj f=>(B j f).2⟩
     have U:Hid (∀j,j<n->rd P (M j)=some ((b j).1,(b j).2)):=λj f=>(B j f).1
     have D:∀w,UH prog 52 #[pv (ptP (iH ns (λj=>(b j).1) (λj=>(b j).2) n 257)).1 (ptP (iH ns (λj=>(b j).1) (λj=>(b j).2) n 257)).2] w (rZ w λe w'=>mL w (tD (ptP (iH ns (λj=>(b j).1) (λj=>(b j).2) n 257)).1 (ptP (iH ns (λj=>(b j).1) (λj=>(b j).2) n 257)).2) e w'):=vK C _ _;have hS:UH prog 48 #[sZ k n n,sZ K n n] p (rZ p λe w'=>e=pv (ptP (iH ns (λj=>(b j).1) (λj=>(b j).2) n 257)).1 (ptP (iH ns (λj=>(b j).1) (λj=>(b j).2) n 257)).2):=by
      refine(Ia C n y ns (λj=>(b j).1) (λj=>(b j).2) (λi x=>wN hN (S i x)) k K p I.1 HP.1 I.2 HP.2).mono ?_;rintro e w' ⟨v,rfl,m,s,rfl,rfl⟩;exact⟨_,rfl,m,rfl⟩
     generalize hz:ptP (iH ns (λj=>(b j).1) (λj=>(b j).2) n 257)=z at hS D;have HZ:Hid (ptP (iH ns (λj=>(b j).1) (λj=>(b j).2) n 257)=z):=hz;go_wp2_with fail
     refine hS.mono ?_;rintro e w3 ⟨v,rfl,Y,rfl⟩;have x:=mk1 (l.trans (Y.mono l.size));go_wp2_with fail
     refine(D _).mono ?_;rintro e w4 ⟨v,rfl,Z,g,m,rfl,O,h0,E,V⟩;have Q:=mk1 (x.trans (Z.mono x.size));have H:Hid (Hd w (tD z.1 z.2) (.tuple #[sZ g 33 m,iZ 0]) w4):=⟨g,m,rfl,O,UC x.size h0,E,V⟩
     go_wp2
     go_ret2
     refine⟨_,rfl,Q.out,UX (UX ⟨rfl,y,UX ⟨ns,S.out,UX ⟨_,_,U.out,?_⟩⟩⟩)⟩;rw[HZ.out];exact H.out
    ·have l:=mk1 (t.trans (d.mono t.size));have H:=mk1 (u);go_wp2
     go_ret2
     exact⟨_,rfl,l.out,UX (UX ⟨rfl,y,UX ⟨ns,S.out,U4 ⟨H.out,rfl⟩⟩⟩)⟩
   ·have t:=mk1 (G);have H:=mk1 (u);go_wp2
    go_ret2
    exact⟨_,rfl,t.out,UX (UX ⟨rfl,y,U4 ⟨H.out,rfl⟩⟩)⟩
 ·go_enter func143,ntmps143;go_wp2
  go_ret2
  exact⟨_,rfl,UR _ _,U4 ⟨J,rfl⟩⟩
def Hg:Bs:=UJ 33 0
theorem OD(r d:Nat):d*d%(r+d)=r*r%(r+d):=by
 have h:d*d+(r+d)*r=r*r+(r+d)*d:=by
  rw[XH,XH,Vv d r];omega
 have k:=congrArg (· % (r+d)) h;simp only[Nat.add_mul_mod_self_left]at k;exact k
theorem Nx{m y:Fin P}(h:rt m=some y):y*y=m:=by
 have k:=Iy h;unfold rt at h;rw[yCl k]at h;obtain rfl:=UO.inj h;have b:=YA P;have c:m.val^(P/4+1)%P<P:=V7 _ b;generalize m.val^(P/4+1)%P=r at k c;apply Ya;rw[XL];show(even P r%P)*(even P r%P)%P=m.val;rw[US (Fu b c),<-k];unfold even;split
 ·have d:=OD r (P-r);rw[show r+(P-r)=P by omega]at d;exact d
 ·rfl
theorem C3{k:Bs}(e:k.size=33):tJ k↔k=Hg:=by
 constructor
 ·intro h;apply yB6
  ·rw[e];rfl
  ·intro i b f;have:=h i (V0.2 oM);rw[getElem!_pos k i b]at this;have d:k[i].toNat=0:=by
    have c:ub k[i]=(k[i].toNat:Int):=rfl;rw[c]at this;omega
   have g:(Hg)[i]=0:=by
    have c:(UJ 33 (0:UInt8))[i]'f=0:=Wy _;exact c
   rw[g];exact yAW.1 d
 ·rintro rfl i b;have b:=V0.1 b;unfold Hg;rw[getElem!_pos _ i (by rw[UP];exact b),Wy];rfl
theorem IW{x y:Fin P}(h:y*y=x*x*x+7):On (.some (x,y):EC.Pt P):=by
 show y^2=x^3+7
 grobner
theorem O3{x y:Fin P}(h:y*y=x*x*x+7):On (.some (x,0-y):EC.Pt P):=by
 show(0-y)^2=x^3+7
 grobner
def wr:EC.Pt P->Bs
 | none=>Hg
 | some (x,y)=>#[mark y.val]++bx x.val
theorem vM(C:Fld P){x y:Fin P}{p:EC.Pt P}(h:Pair x y p)(ho:On p):tD x y=wr p:=by
 unfold tD;match p,h,ho with
 | none,h,_=>rw[yCl (show x=0/\y=0 from h)];rfl
 | some (a,b),h,ho =>
  obtain⟨rfl,rfl⟩:=h;rw[yCm (λe=>C.cur.y_ne ho e.2)];rfl
def pt(p:Fin P × Fin P):EC.Pt P:=if p.1=0/\p.2=0 then none else some p
theorem Mk(C:Fld P){x y:Fin P}{q:EC.Pt P}(h:Pair x y q)(ho:On q):q=pt (x,y):=by
 unfold pt;match q,h,ho with
 | none,h,_=>rw[yCl (show x=0/\y=0 from h)]
 | some (a,b),h,ho =>
  obtain⟨rfl,rfl⟩:=h;rw[yCm (λe=>C.cur.y_ne ho e.2)]
theorem QW(C:Fld P){p:Fin P × Fin P}(h:rd P b=some p):Pair p.1 p.2 (pt p)/\On (pt p):=by
 have key:∃q:EC.Pt P,Pair p.1 p.2 q/\On q:=by
  unfold rd at h;split at h
  ·split at h
   ·obtain rfl:=UO.inj h;exact⟨none,⟨rfl,rfl⟩,iN⟩
   ·split at h
    ·split at h
     ·obtain⟨y,c,rfl⟩:=Uy.1 h;have k:=Nx c;refine⟨some (rdx P b,if ub b[0]! = 3 then 0-y else y),⟨rfl,rfl⟩,?_⟩;split
      ·exact O3 k
      ·exact IW k
     ·cases h
    ·cases h
  ·cases h
 obtain⟨q,k,c⟩:=key;have:=Mk C k c;rw[show pt p=q from this.symm];exact⟨k,c⟩
omit [NeZero P] in
theorem aT(p:EC.Pt P):(wr p).size=33:=by
 match p with
 | none=>rfl
 | some (x,y) =>
  show(#[mark y.val]++bx x.val).size=33;rw[VN,eE];rfl
end
section
variable {P:Nat}[NeZero P]{N:Nat}
theorem IB{a P:Nat}(h:IsP P)(k:P%4=3):(a*a%P)^(P/4+1)%P*((a*a%P)^(P/4+1)%P)%P=a*a%P:=by
 rw[<-XB,<-Nat.pow_add,<-Nat.pow_mod,<-yBV,<-Nat.pow_mul,show 2*(P/4+1+(P/4+1))=P+1 by omega,V9,XB,h.fermat a,<-XB,yBV]
theorem LQ{a R P:Nat}(h:IsP P)(f:a<P)(hR:R<P)(e:R*R%P=a*a%P):R=a\/R+a=P:=by
 have key:∀x y:Nat,x<P->y<P->y<=x->x*x%P=y*y%P->x=y\/x+y=P:=by
  intro x y hx i g d;have hd:P ∣ x*x-y*y:=by
   refine Nat.dvd_of_mod_eq_zero ?_;exact Nat.sub_mod_eq_zero_of_mod_eq d
  have hf:x*x-y*y=(x-y)*(x+y):=by
   rw[Vv (x-y),Nat.mul_self_sub_mul_self_eq]
  rw[hf]at hd;rcases h.euclid hd with b|b
  ·left;have:=Nat.eq_zero_of_dvd_of_lt b oM;omega
  ·obtain⟨k,j⟩:=b;have:k=0\/k=1\/2<=k:=oM;rcases this with rfl|rfl|c
   ·left;omega
   ·right;omega
   ·have:=Nat.mul_le_mul_left P c;omega
 rcases Nat.le_total a R with b|b
 ·exact key R a hR f b e
 ·rcases key a R f hR b e.symm with c|c
  ·left;exact c.symm
  ·right;omega
end
section
open Go.RowKit Go.Sort Go.Deep
theorem AA(x:Nat)(hx:x<18446744073709551616):
 w8 (UM (x/72057594037927936)) (UM (x/281474976710656)) (UM (x/1099511627776)) (UM (x/4294967296)) (UM (x/16777216)) (UM (x/65536)) (UM (x/256)) (UM x)=x:=by
 unfold w8;simp only[YJ];omega
theorem Am(a b c d:Nat):(be32 a b c d).toList=[UM (d/72057594037927936),UM (d/281474976710656),UM (d/1099511627776),UM (d/4294967296),UM (d/16777216),UM (d/65536),UM (d/256),UM d,UM (c/72057594037927936),UM (c/281474976710656),UM (c/1099511627776),UM (c/4294967296),UM (c/16777216),UM (c/65536),UM (c/256),UM c,UM (b/72057594037927936),UM (b/281474976710656),UM (b/1099511627776),UM (b/4294967296),UM (b/16777216),UM (b/65536),UM (b/256),UM b,UM (a/72057594037927936),UM (a/281474976710656),UM (a/1099511627776),UM (a/4294967296),UM (a/16777216),UM (a/65536),UM (a/256),UM a]:=by
 simp only[be32,be8,yAw,Xc,Xt]
theorem val_congr{a b p q r s:Nat}(k:a=p)(f:b=q)(e:c=r)(g:d=s):val a b c d=val p q r s:=by subst k f e g;rfl
theorem J5(a b c d:Nat)(k:a<18446744073709551616)(f:b<18446744073709551616)(e:c<18446744073709551616)(hd:d<18446744073709551616):beV (be32 a b c d).toList=val a b c d:=
 (congrArg beV (Am a b c d)).trans ((J6 _ _ _ _ _ _ _ _ _ _ _ _ _ _ _ _ _ _ _ _ _ _ _ _ _ _ _ _ _ _ _ _).trans (val_congr (AA a k) (AA b f) (AA c e) (AA d hd)))
theorem Bm{n:Nat}(k:n<top):beV (bx n).toList=n:=by
 unfold bx;rw[J5 _ _ _ _ oM oM oM oM];unfold val;unfold top at k;omega
variable {P:Nat}[NeZero P]
theorem QQ(C:Fld P){y m:Fin P}(h:y*y=m):rt m=some (if y.val%2=1 then 0-y else y):=by
 have d:y.val*y.val%P=m.val:=by rw[<-h,XL]
 have k:=IB (a:=y.val) C.cur.pr C.p3;rw[d]at k;unfold rt;rw[yCl k];have f:=YA P;have c:m.val^(P/4+1)%P<P:=V7 _ f;generalize m.val^(P/4+1)%P=r at k c;have b:=y.isLt;have j:=C.p3;have hor:=LQ C.cur.pr b c (k.trans d.symm)
 congr 1
 apply Ya;show even P r%P=_;unfold even;have g:(0-y:Fin P).val=(P-y.val)%P:=by rw[<-AH,val_zero,UD]
 by_cases ho:y.val%2=1
 ·rw[yCl ho,g];rcases hor with e|e
  ·rw[e,yCl ho]
  ·rw[yCm oM,show P-y.val=r by omega]
 ·rw[yCm ho];rcases hor with e|e
  ·rw[e,yCm ho,US b]
  ·by_cases i:y.val=0
   ·omega
   ·rw[yCl oM,show P-r=y.val by omega,US b]
theorem Lf(n:Nat):ub (mark n)=if n%2=1 then 3 else 2:=by
 unfold mark;split<;>rfl
theorem Lj{m:UInt8}(h:b.size=32):uM (#[m]++b)=b:=by
 unfold uM;rw[Array.extract_append];have k:(#[m]:Bs).extract 1 33=#[]:=by rfl
 rw[k];simp[h]
theorem Pk(m:UInt8)(b:Bs):(#[m]++b)[0]! = m:=by
 rw[getElem!_pos _ 0 (by rw[VN];simp;omega),Array.getElem_append_left (by simp)];rfl
theorem QX(C:Fld P)(d:b.size=33){x y:Fin P}(c:ub b[0]! = if y.val%2=1 then 3 else 2)(hv:beV (uM b).toList=x.val)(h:On (some (x,y):EC.Pt P)):rd P b=some (x,y):=by
 have k:¬tJ b:=λk=>by
  have:=k 0 (V0.2 dC);rw[c]at this;split at this<;>omega
 have hx:rdx P b=x:=by
  unfold rdx;rw[hv];exact Ya (US x.isLt)
 have f:y*y=x*x*x+7:=by
  have:y^2=x^3+7:=h
  grobner
 unfold rd;rw[yCl d,yCm k,c,hv,yCl x.isLt,hx,QQ C f];by_cases ho:y.val%2=1
 ·rw[yCl ho,yCl (UX rfl),yCl ho,Yx,yCl rfl];have e:0-(0-y)=y:=by grobner
  rw[e]
 ·rw[yCm ho,yCl (U4 rfl),yCm ho,Yx,yCm dC]
theorem zM(C:Fld P)(h:On X):∃p,rd P (wr X)=some p/\pt p=X:=by
 match X,h with
 | none,_ =>
  refine⟨(0,0),?_,by unfold pt;rw[yCl ⟨rfl,rfl⟩]⟩;have k:(wr (none:EC.Pt P)).size=33:=aT _;have b:=(C3 k).2 rfl;unfold rd;rw[yCl k,yCl b]
 | some (x,y),h =>
  have c:=aT (P:=P) (some (x,y));have k:(wr (some (x,y):EC.Pt P))[0]! = mark y.val:=Pk _ _;have b:uM (wr (some (x,y):EC.Pt P))=bx x.val:=Lj (eE _);refine⟨(x,y),QX C c (by rw[k,Lf]) (by rw[b,Bm (C.top x)]) h,by unfold pt;rw[yCm (λe=>C.cur.y_ne h e.2)]⟩
end
section
open Go.RowKit Go.Sort Go.Deep
variable {P:Nat}[NeZero P]{N:Nat}
def gxl:List Ut:=[uZ 6481385041966929816,uZ 188021827762530521,uZ 6170039885052185351,uZ 8772561819708210092]
def gyl:List Ut:=[uZ 11261198710074299576,uZ 18237243440184513561,uZ 6747795201694173352,uZ 5204712524664259685]
def gX(P:Nat)[NeZero P]:Fin P:=Xj P 55066263022277343669578718895168534326250603453777594175500187360389116729240
def gY(P:Nat)[NeZero P]:Fin P:=Xj P 32670510020758816978083085130507043184471273380659243275938904335757337482424
def gG(P:Nat)[NeZero P]:EC.Pt P:=some (gX P,gY P)
theorem Fld.eq(C:Fld P):P=115792089237316195423570985008687907853269984665640564039457584007908834671663:=by
 have h:=C.gap.hP;have e:val 4294968273 0 0 0=4294968273:=dC;rw[e]at h;unfold Go.Proofs.YtdoammpgchejcaaGreat.top at h;omega
theorem Ju(C:Fld P):(gX P).val=55066263022277343669578718895168534326250603453777594175500187360389116729240:=by
 have h:=C.eq;exact US oM
theorem Jt(C:Fld P):(gY P).val=32670510020758816978083085130507043184471273380659243275938904335757337482424:=by
 have h:=C.eq;exact US oM
theorem PC(C:Fld P):gxl=ws (gX P):=by
 show _=wn (gX P).val;rw[Ju C];kernel_rfl
theorem Py(C:Fld P):gyl=ws (gY P):=by
 show _=wn (gY P).val;rw[Jt C];kernel_rfl
theorem Cs(C:Fld P):On (gG P):=by
 refine IW (Ya ?_);have k:(7:Fin P).val=7:=US C.p7;rw[XL,Fin.val_add,XL,XL,Ju C,Jt C,k];have h:=C.eq;rw[h]
theorem Qb:Gives 51 #[] (.agg (gxl++gyl).toArray):=by
 intro w;go_enter func51,ntmps51;refine RG.M.enter [] 4 kR ?_;intro a0 b;repeat refine Uz ?_
 refine b.T [.m 0] [(0,RG.z 8)] [] [RG.z 8] [0] ⟨mk 0 93,yCn⟩ ?_;intro e g f c;repeat refine Uz ?_
 refine c.T [.x (.agg gxl.toArray),.x (.agg gyl.toArray),.x (.agg (gxl++gyl).toArray),.u 0] [] [(0,3,gxl++gyl)] [gxl++gyl] [0] ⟨st,st,st,RG.pt i109,yCn⟩ ?_;intro a2 d k;refine Wr ?_;refine UE (v:=.agg (gxl++gyl).toArray) (aI k.st 0 93 rfl 0 _ rfl (k.at (s:=.p 0 0)) gU i109) k.sl.defers ?_;exact⟨_,rfl,k.st.bel.below,rfl⟩
theorem Eh(C:Fld P):Gives 51 #[] (pv (gX P) (gY P)):=by
 unfold pv;rw[<-PC C,<-Py C];exact Qb
theorem Sg(C:Fld P):tD (gX P) (gY P)=wr (gG P):=vM C ⟨rfl,rfl⟩ (Cs C)
theorem Qp(C:Fld P)(w:Ur):UH prog 137 #[] w (rZ w λe w'=>mL w (wr (gG P)) e w'):=by
 have d:Hid (Fld P):=C;clear C;go_enter func137,ntmps137;go_wp2_with fail
 refine(Eh d.out _).mono ?_;rintro e n ⟨v,rfl,k,rfl⟩;go_wp2_with fail
 refine(vK d.out (gX P) (gY P) _).mono ?_;rintro e j ⟨v,rfl,b,g,cap,rfl,f,l,i,c⟩;rw[Sg d.out]at c;have m:Hid (kZ w j/\mL w (wr (gG P)) (sZ g 33 cap) j):=⟨k.trans (b.mono k.size),g,cap,rfl,f,UC k.size l,i,c⟩
 clear k b f l i c;go_wp2;go_ret;exact⟨_,rfl,m.out⟩
end
section
open Go.RowKit Go.Sort Go.Deep Go.Shelf
attribute [local go_sem] Zf
section
variable {F:Fence}{n:Nat}{P:VD}{ops:Array Vk}{rest:List Vk}{op:Vk}{a:Act}{w:Ur}{Q:Yq->Act->Ur->Prop}
theorem jS(g:op.guard=none)(k:U8)(x:XI)(ho:op.op=.load k x)(b o:Nat)(hx:a.eval x=oZ b o)(cs:List Ut)(d:TypeDesc)(m:w.rangeAt b o cs)
 (j:P.underlying k=some d) (hd:d.isRow=true) (l:(P.info? k).map (·.size)=some cs.length) (h:wpListIn F n P ops Q rest (a.put op.dst (.agg cs.toArray)) w):wpListIn F n P ops Q (op :: rest) a w:=
 wpListIn_plain g λK i=>by
  refine⟨λf hf=>(by unfold yAK at hf;rw[ho]at hf;cases hf),?_⟩;rw[yAd _ _ _ (λc=>by rw[ho];intro e;cases e)];unfold U5;simp only[ho,hx,ZD,X6,UV,Wt,Vm,Yg w b o k cs d m j hd l];exact i _ _ h
theorem bL(d:op.guard=none)(g:U8)(x y:XI)(ho:op.op=.store g x y)(b o:Nat)(k:Array Ut)(hx:a.eval x=oZ b o)(j:a.eval y=.agg k)
 (i:w.there b o k.size) (p:(P.info? g).map (·.size)=some k.size) (m:k.all (·.oneCell')=true)
 (h:wpListIn F n P ops Q rest (a.put op.dst WR) (w.setCells b o k.toList)):wpListIn F n P ops Q (op :: rest) a w:=
 wpListIn_plain d λK l=>by
  refine⟨λf hf=>(by unfold yAK at hf;rw[ho]at hf;cases hf),?_⟩;rw[yAd _ _ _ (λc=>by rw[ho];intro e;cases e)];unfold U5;simp only[ho,hx,j,Instr.storeAt,X6,UV,Wt,Vm,run_storeVar_mid w b o g k i p m];exact l _ _ h
end
def Row(W:Ur)(k:Nat)(vs:List Ut):Prop:=k<W.heap.size/\W.rangeAt k 0 vs/\W.there k 0 vs.length
theorem qP(k:Nat)(vs:List Ut):Own (λ(_:Unit) W=>Row W k vs):=λs A B row c d e=>by
 refine⟨Ux c.1 d.size,λj v b=>?_,λj b=>?_⟩
 ·exact cell_kept (c.2.1 j v b) d e
 ·have f:=c.2.1 j vs[j] (UG b);have g:=cell_kept f d e;exact⟨by rw[g];rfl,(frozen_kept f d e).trans (c.2.2 j b).2⟩
theorem nI(k:Nat):∀(vs:List Ut) (o:Nat) (W:Ur),KeepsOthers W (W.setCells k o vs)
 | [],_,W=>KeepsOthers.refl W
 | v :: vs,o,W=>(KeepsOthers.setCell W ⟨k,o,none⟩ v).trans (nI k vs (o+1) _)
theorem Row.alloc{k:Nat}(h:Row W k vs)(o:Obj):Row (W.alloc o) k vs:=
 qP k vs () W (W.alloc o) none h (World.grownBy_alloc W o none) (λ_ e=>by cases e)
theorem Row.putObj{k D:Nat}(h:Row W k vs){o:Obj}(c:W.heap[D]? = some o)(ho:o.isCells=false)(b:Obj):Row (W.putObj D b) k vs:=
 qP k vs () W (W.putObj D b) (some D) h (grownBy_putObj' W D b) (λr e=>by cases e;exact⟨_,c,ho⟩)
theorem Row.below{k:Nat}(h:Row W k vs)(d:kZ W W'):Row W' k vs:=by
 have e:=d.block k h.1;refine⟨Ux h.1 d.size,λj v b=>?_,λj b=>?_⟩
 ·exact(UW e).trans (h.2.1 j v b)
 ·have c:=h.2.2 j b;exact⟨by rw[UW e];exact c.1,(VU e).trans c.2⟩
theorem aG{P:VD}{c:Func}{tmps:Array Ut}{k:Nat}(t:WF)(T:U8)(i:c.results=#[.cell t T])(h:Row W k vs)(g:tmps[t]? = some (jZ k))
 (b:(P.underlying T).map (·.isRow)=some true) (e:(P.info? T).map (·.size)=some vs.length):(results c tmps).run P W=.ok (.agg vs.toArray) W:=by
 obtain⟨d,b,hd⟩:=Uy.1 b;have f:=Yg (P:=P) W k 0 T vs d h.2.1 b hd e;have j:tmps.getD t WR=jZ k:=by rw[UI,g];rfl
 unfold results;rw[i];simp only[Array.mapM_eq_mapM_toList,List.mapM_cons,List.mapM_nil,j,asAddr];simp[UV,f]
theorem Row.put{k:Nat}{us:List Ut}(h:Row W k vs)(b:us.length=vs.length):Row (W.setCells k 0 us) k us:=
 ⟨by rw[setCells_size];exact h.1,VO W k 0 us (by rw[b];exact h.2.2),by rw[b];exact VW h.2.2 _ _ _⟩
theorem Row.other{k j:Nat}{us:List Ut}(h:Row W k vs)(b:k≠j):Row (W.setCells j 0 us) k vs:=
 ⟨by rw[setCells_size];exact h.1,Vh h.2.1 j 0 us (U4 b),VW h.2.2 _ _ _⟩
variable {P:Nat}[NeZero P]
theorem MO(C:Fld P)(lb:Array Ut)(L:List (Fin P × Fin P))(N:Nat)(w:Ur)
 (a:∀n,SeqStopsK yBR n prog 112 lb (λx:Fin P × Fin P=>#[pv x.1 x.2]) (Below w.heap.size) (λxs=>xs=L) (λb=>b <+: L) N w) :
 UH prog 49 #[.func (.func 112) #[] lb] w (rZ w λe w'=>e=pv (L.headD (gX P,gY P)).1 (L.headD (gX P,gY P)).2):=by
 refine(callsIn_wide (n:=5)).1 ?_;refine callsIn_of_wp_marks func49 rfl trivial ?_ rfl;simp only[ntmps49,VC,Vj,WI,VK,yBE,yAq,yAp,yAP,yAC,Xt,Xc]
 gi_wp2
 have u:=Made.alloc w [uZ 0,uZ 0,uZ 0,uZ 0,uZ 0,uZ 0,uZ 0,uZ 0] 93;have y:Row (w.alloc (.cells #[uZ 0,uZ 0,uZ 0,uZ 0,uZ 0,uZ 0,uZ 0,uZ 0] 93)) w.heap.size [uZ 0,uZ 0,uZ 0,uZ 0,uZ 0,uZ 0,uZ 0,uZ 0]:=⟨u.lt,u.range,u.there⟩
 have p:kZ w (w.alloc (.cells #[uZ 0,uZ 0,uZ 0,uZ 0,uZ 0,uZ 0,uZ 0,uZ 0] 93)):=u.bel;clear u;obtain⟨E,o⟩:∃E,E=w.alloc (.cells #[uZ 0,uZ 0,uZ 0,uZ 0,uZ 0,uZ 0,uZ 0,uZ 0] 93):=⟨_,rfl⟩
 have H:E.heap.size=w.heap.size+1:=by rw[o,UB]
 rw[<-o]at y p⊢;clear o;refine wpIn_rangeFunc_ownH (α:=Fin P × Fin P) rfl dC (gf:=112) (lb:=lb) rfl trivial (enters_of func112 kR rfl) (a 4) belowK_t (belowK_b oM) p (λ_=>rfl)
  (λb W=>(b=[]/\Row W w.heap.size [uZ 0,uZ 0,uZ 0,uZ 0,uZ 0,uZ 0,uZ 0,uZ 0])/\kZ w W)
  (λc b W=>(c=.ret/\∃x:Fin P × Fin P,b=[x]/\Row W w.heap.size (ws x.1++ws x.2))/\kZ w W)
  (yBw (Own.from (λs A B row k f j=>⟨k.1,qP _ _ () A B row k.2 f j⟩) _) (ownFrom_below (Uw _) oM))
  (λc=>yBw (Own.from (λs A B row k f j=>⟨k.1,k.2.imp λx hx=>⟨hx.1,qP _ _ () A B row hx.2 f j⟩⟩) _) (ownFrom_below (Uw _) oM))
  ⟨⟨rfl,y⟩,p⟩
  (λx F W=>∃m,w.heap.size<m/\Row W m (ws x.1++ws x.2)/\F = { tmps:=#[.func (.func 112) #[] lb,WR,jZ w.heap.size,jZ m,.func (.func 112) #[] lb,pv x.1 x.2,WR,WR],defers:=[] })
  (λx F=>Own.from (λs A B row k f j=>k.imp λm hx=>⟨hx.1,qP _ _ () A B row hx.2.1 f j,hx.2.2⟩) _) ?assign ?body ?done ?stop
 case assign =>
  intro l b x W K t i;have k:=Made.alloc W [uZ 0,uZ 0,uZ 0,uZ 0,uZ 0,uZ 0,uZ 0,uZ 0] 93;have g:=k.there
  gi_wp2_with (refine bL rfl 93 _ _ rfl W.heap.size 0 (ws x.1++ws x.2).toArray rfl rfl g i109 kR ?_)
  have f:=t.1.2.1;have q:Below w.heap.size W ((W.alloc (.cells #[uZ 0,uZ 0,uZ 0,uZ 0,uZ 0,uZ 0,uZ 0,uZ 0] 93)).setCells W.heap.size 0 (ws x.1++ws x.2)):=
   RG.below_setCells (XM f) _ _ _ ((UR _ W).alloc (XM f) _)
  exact i _ _ (((KeepsOthers.alloc W _).trans (nI _ _ _ _)).from _) q ⟨⟨t.1.1,(t.1.2.alloc _).other (Nat.ne_of_lt f)⟩,t.2.trans q⟩
   ⟨W.heap.size,f,Row.put (vs:=[uZ 0,uZ 0,uZ 0,uZ 0,uZ 0,uZ 0,uZ 0,uZ 0]) ⟨k.lt,k.range,k.there⟩ rfl,rfl⟩
 case body =>
  rintro l b x F W J ⟨r,j⟩ ⟨⟨rfl,k⟩,t⟩ ⟨m,G,A,rfl⟩ I;obtain⟨d,q,z⟩:=Uy.1 gU;have f:=A.2.1;have g:=k.2.2
  gi_wp2_with (first|refine jS rfl 93 _ rfl m 0 rfl (ws x.1++ws x.2) d f q z i109 ?_|refine bL rfl 93 _ _ rfl w.heap.size 0 (ws x.1++ws x.2).toArray rfl rfl g i109 kR ?_)
  exact⟨(nI _ _ _ _).from _,⟨rfl,x,rfl,k.put rfl⟩,RG.below_setCells (Uw _) _ _ _ t⟩
 case done =>
  rintro D ys W F rfl ⟨⟨rfl,k⟩,t⟩ i;have g:=k.2.2
  gi_wp2_with fail
  refine⟨trivial,(callsIn_wide.2 (Eh C _)).mono ?_⟩;rintro e A ⟨v,rfl,q,rfl⟩;have f:Row A w.heap.size [uZ 0,uZ 0,uZ 0,uZ 0,uZ 0,uZ 0,uZ 0,uZ 0]:=k.below q;have z:=f.2.2
  gi_wp2_with (refine bL rfl 93 _ _ rfl w.heap.size 0 (ws (gX P)++ws (gY P)).toArray rfl rfl z i109 kR ?_)
  have j:(A.setCells w.heap.size 0 (ws (gX P)++ws (gY P))).heap[D]? = some (.deferred (some [])):=by
   rw[aH _ _ _ _ _ oM,q.block D (UZ.1 i).1];exact i
  have G:kZ w (A.setCells w.heap.size 0 (ws (gX P)++ws (gY P))):=RG.below_setCells (Uw _) _ _ _ (t.trans (q.mono t.size));have m:Row (A.setCells w.heap.size 0 (ws (gX P)++ws (gY P))) w.heap.size (ws (gX P)++ws (gY P)):=f.put rfl;refine⟨by simp,.inl ⟨_,_,rfl,run_takeDeferred j,?_⟩⟩;exact⟨_,aG 2 93 rfl (m.putObj j rfl _) rfl gU i109,_,rfl,G.trans (belowK_b (w:=E) oM _ D _ _ F j rfl rfl),rfl⟩
 case stop =>
  rintro D c b W F f ⟨⟨rfl,x,rfl,k⟩,t⟩ i
  gi_wp2
  obtain⟨j,m⟩:=f;have g:L=x :: j:=m.symm;rw[g];refine⟨by simp,.inl ⟨_,_,rfl,run_takeDeferred i,?_⟩⟩;exact⟨_,aG 2 93 rfl (k.putObj i rfl _) rfl gU i109,_,rfl,t.trans (belowK_b (w:=E) oM _ D _ _ F i rfl rfl),rfl⟩
end
section
open Go.RowKit Go.Sort Go.Deep
variable {P:Nat}[NeZero P]{N:Nat}
theorem jY{w:Ur}{k b:Nat}(h:Kept w k [⟨k,0,c,d,b,0⟩,⟨e,0,0,0,0,0⟩] W):W.cell? ⟨k,0,none⟩=some (uZ c)/\W.cell? ⟨k,1,none⟩=some (uZ d)/\W.cell? ⟨k,2,none⟩=some (uZ b)/\W.cell? ⟨k,3,none⟩=some (uZ 0)/\Kept w k [⟨k,0,c,d,b,0⟩,⟨e,0,0,0,0,0⟩] W:=⟨h.head.c0,h.head.c1,h.head.c2,h.head.c3,h⟩
theorem kS{w:Ur}{k b:Nat}(h:W.cell? ⟨k,0,none⟩=some (uZ c)/\W.cell? ⟨k,1,none⟩=some (uZ d)/\W.cell? ⟨k,2,none⟩=some (uZ b)/\W.cell? ⟨k,3,none⟩=some (uZ 0)/\Kept w k [⟨k,0,c,d,b,0⟩,⟨e,0,0,0,0,0⟩] W):Kept w k [⟨k,0,c,d,b,0⟩,⟨e,0,0,0,0,0⟩] W:=h.2.2.2.2
theorem Dp{w:Ur}{k b:Nat}{o:Obj}(h:W.cell? ⟨k,0,none⟩=some (uZ c)/\W.cell? ⟨k,1,none⟩=some (uZ d)/\W.cell? ⟨k,2,none⟩=some (uZ b)/\W.cell? ⟨k,3,none⟩=some (uZ 0)/\Kept w k [⟨k,0,c,d,b,0⟩,⟨e,0,0,0,0,0⟩] W):(W.alloc o).cell? ⟨k,0,none⟩=some (uZ c)/\(W.alloc o).cell? ⟨k,1,none⟩=some (uZ d)/\(W.alloc o).cell? ⟨k,2,none⟩=some (uZ b)/\(W.alloc o).cell? ⟨k,3,none⟩=some (uZ 0)/\Kept w k [⟨k,0,c,d,b,0⟩,⟨e,0,0,0,0,0⟩] (W.alloc o):=jY ((kS h).alloc o)
theorem BU{w:Ur}{k b:Nat}{o:Obj}(h:W.drew.cell? ⟨k,0,none⟩=some (uZ c)/\W.drew.cell? ⟨k,1,none⟩=some (uZ d)/\W.drew.cell? ⟨k,2,none⟩=some (uZ b)/\W.drew.cell? ⟨k,3,none⟩=some (uZ 0)/\Kept w k [⟨k,0,c,d,b,0⟩,⟨e,0,0,0,0,0⟩] W.drew):(W.alloc o).drew.cell? ⟨k,0,none⟩=some (uZ c)/\(W.alloc o).drew.cell? ⟨k,1,none⟩=some (uZ d)/\(W.alloc o).drew.cell? ⟨k,2,none⟩=some (uZ b)/\(W.alloc o).drew.cell? ⟨k,3,none⟩=some (uZ 0)/\Kept w k [⟨k,0,c,d,b,0⟩,⟨e,0,0,0,0,0⟩] (W.alloc o).drew:=jY (((kS h).undrew).alloc o).drew
theorem xN{w:Ur}{o:Nat}{k:Bs}(p l:Nat)(h:Holds encB w g o k)(c:p+l<=k.size):Holds encB w g (o+p) (k.extract p (p+l)):=by
 refine Holds.part h (by rw[Xz];omega) (λj b=>?_);rw[Xz]at b;rw[getElem!_pos (k.extract p (p+l)) j (by rw[Xz];omega),getElem!_pos k (p+j) oM,Array.getElem_extract]
theorem Cq{w:Ur}{o:Nat}{k:Bs}(f:Nat)(h:Holds encB w g o k)(hf:f<=k.size):Holds encB w g o (k.extract 0 f):=by
 have:=xN 0 f h oM;rwa[UD,XD]at this
def RedR(w:Ur)(e f i j g N:Nat)(s6:Ut)(l:Ur):Prop:=
 ∃k a b c d:Nat,s6=jZ k/\Kept w e [⟨k,0,a,b,c,d⟩,⟨e,0,i,j,g,0⟩,⟨f,0,0,0,0,0⟩] l/\k≠e/\k≠f/\e<=k /\
  Hid (Four (.agg #[uZ a,uZ b,uZ c,uZ d]) N)
theorem RedR.made{w k:Ur}{l j N a b:Nat}(e:Kept w f [⟨f,0,i,j,g,0⟩,⟨l,0,0,0,0,0⟩] k)(m:Hid (Four (.agg #[uZ a,uZ b,uZ c,uZ d]) N)):
 RedR w f l i j g N (jZ k.heap.size) (k.alloc (.cells #[uZ a,uZ b,uZ c,uZ d] 118)):=
 ⟨k.heap.size,a,b,c,d,rfl,(e.alloc _).cons (At4.made k 118 a b c d rfl).blk,We e.head.lt,We e.tail.head.lt,e.le,m⟩
theorem RedR.put{w l:Ur}{k j N a b x y z u:Nat}(p:Kept w e [⟨e,0,j,f,i,0⟩,⟨g,0,0,0,0,0⟩] l)(T:At4 l k x y z u)(n:e<=k)(m:∀x∈([⟨e,0,j,f,i,0⟩,⟨g,0,0,0,0,0⟩]:List Blk),x.k<k)(o:Hid (Four (.agg #[uZ a,uZ b,uZ c,uZ d]) N)):
 RedR w e g j f i N (jZ k) ((((l.setCell (aZ k) (uZ a)).setCell ⟨k,1,none⟩ (uZ b)).setCell ⟨k,2,none⟩ (uZ c)).setCell ⟨k,3,none⟩ (uZ d)):=
 ⟨k,a,b,c,d,rfl,(p.set4' n (λx hx=>We (m x hx)) _ _ _ _).cons (T.self4 a b c d).blk,We (m ⟨e,0,j,f,i,0⟩ (by simp)),We (m ⟨g,0,0,0,0,0⟩ (by simp)),n,o⟩
theorem IE{P:Nat}(k:Bs)(p:Nat)(d:p+32<=k.size):(beV (k.extract p (p+32)).toList+top*(beV (k.extract 0 p).toList%P))%P=beV (k.extract 0 (p+32)).toList%P:=by
 have e:(k.extract 0 (p+32)).toList=(k.extract 0 p).toList++(k.extract p (p+32)).toList:=by
  rw[<-yAw,Array.extract_append_extract,Nat.min_eq_left oM,Nat.max_eq_right oM]
 have b:(k.extract p (p+32)).toList.length=32:=by rw[UK,Xz];omega
 have c:256^32=top:=by unfold top;decide
 rw[e,jP,b,c,yBN,Zp,XB,Nat.mod_mod,<-XB,<-Zp,Vv]
theorem CX(g0 g1 g2 P g o n cap : Nat)(bs : Bs)(hG : Gap g0 g1 g2 P)(w : Ur)(hs : bs.size = n)(hc : n <= cap)(hg : g < w.heap.size)(hB : Holds encB w g o bs):
    UH prog 229 #[.agg #[.int .u64 (g0 : Int), .int .u64 (g1 : Int), .int .u64 (g2 : Int), .int .u64 0], .slice (some ⟨g, o, none⟩) n cap] w (Ret λe w' => Below w.heap.size w w' /\ Four e (beV bs.toList % P)) := by
  obtain⟨f, hf⟩ : ∃f, f = n % 32 := ⟨_, rfl⟩;have hf32 : f < 32 := oM;have hfn : f <= n := oM;have e1 : (n : Int) % 32 = (f : Int) := oM;have e2 : (f : Int) <= (cap : Int) := oM;have e3 : (f : Int) <= (n : Int) := oM;have e4 : f <= cap := oM;have hsz0 : (bs.extract 0 f).size = f := by rw [Xz]; omega
  have Hf : Hid (f = n % 32) := hf;have HS : Hid ((bs.extract 0 f).size = f) := hsz0;have hbs : f <= bs.size := oM;have HSZ : Hid (bs.size = n) := hs;have HG : Hid (Gap g0 g1 g2 P) := hG;clear hf hsz0 hG;go_enter func229, ntmps229
  go_upto_region 2 with fail
  rw [e1];clear e1;have PR := (At4.made w 120 g0 g1 g2 0 rfl).alloc (.cells #[.int .u64 0, .int .u64 0, .int .u64 0, .int .u64 0] 47);have RE := At4.made (w.alloc (.cells #[.int .u64 (g0 : Int), .int .u64 (g1 : Int), .int .u64 (g2 : Int), .int .u64 0] 120)) 47 0 0 0 0 (UB _ _);have KP := ((Kept.mk1 (below2 w (.cells #[.int .u64 (g0 : Int), .int .u64 (g1 : Int), .int .u64 (g2 : Int), .int .u64 0] 120) (.cells #[.int .u64 0, .int .u64 0, .int .u64 0, .int .u64 0] 47)) (below2 w (.cells #[.int .u64 (g0 : Int), .int .u64 (g1 : Int), .int .u64 (g2 : Int), .int .u64 0] 120) (.cells #[.int .u64 0, .int .u64 0, .int .u64 0, .int .u64 0] 47)).size).cons RE.blk).cons PR.blk;clear PR RE;generalize World.alloc _ _ = W0 at KP⊢;generalize h1 : w.heap.size + 1 = k1 at KP⊢;have Q1 : Hid (w.heap.size <= k1) := by unfold Hid; omega
  generalize h0 : w.heap.size = k0 at KP Q1 hg⊢;have n01 : k0 ≠ k1 := oM;have H0 : Hid (w.heap.size = k0) := h0;have HBS : Hid (Holds encB w g o bs) := hB;clear h0 h1 hB hs
  go_cut [6] (λs6 wx => RedR w k0 k1 g0 g1 g2 (beV (bs.extract 0 f).toList % P) s6 wx)
  case first =>
    go_region_held3 (λw' => w'.cell? ⟨k0, 0, none⟩ = some (.int .u64 (g0 : Int)) /\ w'.cell? ⟨k0, 1, none⟩ = some (.int .u64 (g1 : Int)) /\ w'.cell? ⟨k0, 2, none⟩ = some (.int .u64 (g2 : Int)) /\ w'.cell? ⟨k0, 3, none⟩ = some (.int .u64 0) /\ Kept w k0 [⟨k0, 0, g0, g1, g2, 0⟩, ⟨k1, 0, 0, 0, 0, 0⟩] w') (first | (with_reducible exact jY KP) | (with_reducible exact jY KP.drew) | (with_reducible exact BU (by assumption)) | (with_reducible exact Dp (by assumption)) | (with_reducible exact jY (KP.alloc _)) | (with_reducible exact jY (KP.set4' M7 (λx hx => We (N7 x hx)) _ _ _ _)) | (with_reducible exact jY (KP.alloc _).drew) | (with_reducible exact jY (KP.set4' M7 (λx hx => We (N7 x hx)) _ _ _ _).drew) | fail) (first | (go_at_call 125; refine(kK (some ⟨g, o, none⟩) g o f cap (bs.extract 0 f) _ (XM hf32) e4 HS.out (UX ⟨rfl, Cq f (Holds.below HBS.out (kS (by assumption)).bl hg) hbs⟩)).mono ?_; rintro e w1 ⟨v, rfl, hb1, hF1⟩; obtain⟨a1, b1, c1, d1, rfl, ha1, hb1', hc1, hd1, es1⟩ := id hF1; clear es1; have HF1 : Hid (Four _ _) := hF1; clear hF1; (try(with_reducible have T1 := T.call hb1; clear T; have T := T1; clear T1)); (try(first | (with_reducible have T := (At4.made _ 118 0 0 0 0 rfl).call hb1) | (with_reducible have T := (At4.made _ 118 0 0 0 0 rfl).drew.call hb1)); have N7 := KP.lts; have M7 := KP.le); have KP1 := Kept.call (kS (by assumption)) hb1; clear KP; have KP := KP1; clear KP1 hb1) | (go_at_call 127; refine(jN _ _ HF1.out _).mono ?_; rintro e w1 ⟨v, rfl, hb1, rfl⟩; (try(with_reducible have T1 := T.call hb1; clear T; have T := T1; clear T1)); (try(first | (with_reducible have T := (At4.made _ 118 0 0 0 0 rfl).call hb1) | (with_reducible have T := (At4.made _ 118 0 0 0 0 rfl).drew.call hb1)); have N7 := KP.lts; have M7 := KP.le); have KP1 := Kept.call (kS (by assumption)) hb1; clear KP; have KP := KP1; clear KP1 hb1) | (go_at_call 235; refine(xU g0 g1 g2 _ _ _ _ P HG.h0 HG.h1 HG.h2 HG.hor HG.hP HG.hP2 HF1.out (Four.mk (a := 0) (b := 0) (c := 0) (d := 0) dC dC dC dC rfl) _).mono ?_; rintro e w1 ⟨v, rfl, hb1, hF3⟩; obtain⟨a', b', c', d', rfl, ha', hb', hc', hd', es3⟩ := id hF3; clear es3; have HF3 : Hid (Four _ _) := hF3; clear hF3; (try(with_reducible have T1 := T.call hb1; clear T; have T := T1; clear T1)); (try(first | (with_reducible have T := (At4.made _ 118 0 0 0 0 rfl).call hb1) | (with_reducible have T := (At4.made _ 118 0 0 0 0 rfl).drew.call hb1)); have N7 := KP.lts; have M7 := KP.le); have KP1 := Kept.call (kS (by assumption)) hb1; clear KP; have KP := KP1; clear KP1 hb1; (try(obtain⟨tc0, tc1, tc2, tc3, tf⟩ := id T; have zt := T.lt))))
    all_goals (try go_wp2)
    all_goals (rw [show val 0 0 0 0 = 0 from rfl, ZR, XD]at HF3)
    all_goals (go_meet; first | (with_reducible exact RedR.made KP HF3) | (with_reducible exact(RedR.made KP HF3).drew) | (with_reducible exact RedR.put KP T M7 N7 HF3) | (with_reducible exact(RedR.put KP T M7 N7 HF3).drew) | fail)
  case rest =>
    clear KP;obtain⟨k6, a, b, c, d, rfl, KP, n60, n61, M6, HF⟩ := hcut;have f0 : (0 : Int) <= (f : Int) := Int.natCast_nonneg _
    go_upto_region 3 with fail
    go_cut [1] (λs1 wx => ∃q : Nat, s1 = .slice (some ⟨g, q, none⟩) (n - f) (cap - f) /\ Hid (0 < n - f -> q = o + f) /\ Kept w k0 [⟨k6, 0, a, b, c, d⟩, ⟨k0, 0, g0, g1, g2, 0⟩, ⟨k1, 0, 0, 0, 0, 0⟩] wx)
    case first =>
      by_cases ec : cap = f
      · have en : n = f := oM
        have HEN : Hid (n = f /\ cap = f) := ⟨en, ec⟩;go_wp2
        go_meet
        refine⟨o, ?_, λh => ?_, KP⟩
        · rw [HEN.1, HEN.2]; try simp
        · have := HEN.1; omega
      · go_wp2
        go_meet
        exact⟨o + f, rfl, λ_ => rfl, KP⟩
    case rest =>
    clear KP;obtain⟨q0, rfl, HQ0, KP⟩ := hcut;go_wp2_with fail
    go_loopg [1] (n - f) (λgk s1 wr => ∃(l q lc a b c d : Nat), gk = l /\ l <= n /\ s1 = .slice (some ⟨g, q, none⟩) l lc /\ Hid (l % 32 = 0 /\ (0 < l -> q = o + (n - l)) /\ lc = cap - (n - l)) /\ Kept w k0 [⟨k6, 0, a, b, c, d⟩, ⟨k0, 0, g0, g1, g2, 0⟩, ⟨k1, 0, 0, 0, 0, 0⟩] wr /\
      Hid (Four (.agg #[.int .u64 (a : Int), .int .u64 (b : Int), .int .u64 (c : Int), .int .u64 (d : Int)]) (beV (bs.extract 0 (n - l)).toList % P)))
    case atStart =>
      refine⟨n - f, q0, cap - f, a, b, c, d, rfl, oM, rfl, ⟨by have := Hf.out; omega, λh => by have := HQ0.out h; omega, oM⟩, KP, ?_⟩;rw [show n - (n - f) = f by omega];exact HF
    case round =>
      clear KP HF;obtain⟨l, q, lc, a, b, c, d, hgk, hln, rfl, HQ3, KP, HF⟩ := hrel;clear e2 e3 e4 f0 hbs HS hf32 hfn HQ0;have hlcl : l <= lc := by have := HQ3.out; omega
      by_cases h0 : l = 0
      · subst h0
        obtain⟨xc0, xc1, xc2, xc3, xf⟩ := KP.head.at4;have z7 := KP.head.lt;go_wp2_with fail
        refine(jI _ _ HF.out _).mono ?_;rintro e w3 ⟨v, rfl, hb3, rfl⟩;have KP3 := KP.call hb3;clear hb3 xc0 xc1 xc2 xc3 xf z7 KP;obtain⟨rc0, rc1, rc2, rc3, rf⟩ := KP3.tail.tail.head.at4;have z3 := KP3.tail.tail.head.lt;go_wp2;have RF := KP3.tail.tail.head.at4.self4 a b c d;unfold set4 at RF;refine UE (v := ?v) ?hr rfl ?hR
        case hr => simp [results, Tryz.results229, go_sem, RF.c0, RF.c1, RF.c2, RF.c3]; rfl
        refine⟨_, rfl, ?_, ?_⟩
        · rw [H0.out]
          exact aL KP3.bl Q1.out _ _ _ _
        · have := HF.out
          rw [YV, <-HSZ.out, Array.extract_size]at this;exact this
      · have h32 : 32 <= l := by have := HQ3.out; omega
        have HQ : Hid (o + (n - l) = q) := (HQ3.2.1 oM).symm;have h32c : 32 <= lc := oM;have i1 : (32 : Int) <= (lc : Int) := oM;have i2 : (32 : Int) <= (l : Int) := oM;have i3 : (0 : Int) < (l : Int) := oM;have HSL : Hid (n - l + 32 <= bs.size) := by unfold Hid; have := HSZ.out; omega
        have HS3 : Hid ((bs.extract (n - l) (n - l + 32)).size = 32) := by unfold Hid; rw [Xz]; have := HSL.out; omega
        obtain⟨tc0, tc1, tc2, tc3, tf⟩ := KP.head.at4;have zt := KP.head.lt;obtain⟨pc0, pc1, pc2, pc3, pf⟩ := KP.tail.head.at4;have hl6 : ∀x ∈ ([⟨k0, 0, g0, g1, g2, 0⟩, ⟨k1, 0, 0, 0, 0, 0⟩] : List Blk), k6 ≠ x.k := by simp only [VX, UY, or_false]; rintro x (rfl | rfl); exact n60; exact n61
        have HFF : Hid (_ = _) := IE (P := P) bs (n - l) HSL.out;go_wp2_with fail
        go_region_with (first | (go_at_call 125; refine(kK (some ⟨g, q, none⟩) g q 32 lc (bs.extract (n - l) (n - l + 32)) _ (Uw 32) h32c HS3.out (UX ⟨rfl, HQ.out ▸ xN (n - l) 32 (by first | (with_reducible exact Holds.below HBS.out KP.bl hg) | (with_reducible exact Holds.below HBS.out KP.drew.bl hg) | fail) HSL.out⟩)).mono ?_; rintro e w1 ⟨v, rfl, hb1, hF1⟩; obtain⟨a1, b1, c1, d1, rfl, ha1, hb1', hc1, hd1, es1⟩ := id hF1; clear es1; have HF1 : Hid (Four _ _) := hF1; clear hF1; (first | (with_reducible have KP1 := KP.call hb1) | (with_reducible have KP1 := KP.drew.call hb1) | fail); clear KP; have KP := KP1; clear KP1 hb1; obtain⟨tc0, tc1, tc2, tc3, tf⟩ := KP.head.at4; have zt := KP.head.lt; obtain⟨pc0, pc1, pc2, pc3, pf⟩ := KP.tail.head.at4) | (go_at_call 127; refine(jN _ _ HF1.out _).mono ?_; rintro e w1 ⟨v, rfl, hb1, rfl⟩; (first | (with_reducible have KP1 := KP.call hb1) | (with_reducible have KP1 := KP.drew.call hb1) | fail); clear KP; have KP := KP1; clear KP1 hb1; obtain⟨tc0, tc1, tc2, tc3, tf⟩ := KP.head.at4; have zt := KP.head.lt; obtain⟨pc0, pc1, pc2, pc3, pf⟩ := KP.tail.head.at4) | (go_at_call 235; refine(xU g0 g1 g2 _ _ _ _ P HG.h0 HG.h1 HG.h2 HG.hor HG.hP HG.hP2 HF1.out HF.out _).mono ?_; rintro e w1 ⟨v, rfl, hb1, hF3⟩; obtain⟨a', b', c', d', rfl, ha', hb', hc', hd', es3⟩ := id hF3; clear es3; have HF3 : Hid (Four _ _) := hF3; clear hF3; (first | (with_reducible have KP1 := KP.call hb1) | (with_reducible have KP1 := KP.drew.call hb1) | fail); clear KP; have KP := KP1; clear KP1 hb1; obtain⟨tc0, tc1, tc2, tc3, tf⟩ := KP.head.at4; have zt := KP.head.lt; obtain⟨pc0, pc1, pc2, pc3, pf⟩ := KP.tail.head.at4))
        all_goals (rw [HFF.out]at HF3)
        all_goals (by_cases i4 : lc = 32)
        all_goals (try go_wp2)
        all_goals
          (go_roundg (l - 32)
           case measure => omega
           case rel =>
            first
              | refine⟨l - 32, q + 32, lc - 32, a', b', c', d', rfl, oM, rfl, ⟨by have := HQ3.out; omega, λ_ => by have := HQ.out; omega, by have := HQ3.out; omega⟩, ?_, ?_⟩
              | refine⟨l - 32, q, lc - 32, a', b', c', d', rfl, oM, by first | rfl | (rw [i4]), ⟨by have := HQ3.out; omega, λh => oM, by have := HQ3.out; omega⟩, ?_, ?_⟩
              | fail
            · first | (with_reducible exact KP.put M6 hl6 a' b' c' d') | (with_reducible exact(KP.put M6 hl6 a' b' c' d').drew) | fail
            · rw [show n - (l - 32) = n - l + 32 by omega]; exact HF3)
def sPl(N a b:Nat):Nat:=(a+b)%N
theorem LM(O:Ord N){a b:Nat}(c:a<N)(k:b<N):Gives 155 #[gv1,nv a,nv b] (nv (sPl N a b)):=λw =>
 (CW _ _ _ N _ _ a b O.gap (O.four c) (O.four k) c k w).mono (by rintro e w' ⟨v,rfl,k,d⟩;exact⟨_,rfl,k,d.nv⟩)
theorem mY(O:Ord N)(a b:Nat)(d:a<N)(f:b<N):Gives 80 #[(nv a),(nv b)] (nv (sPl N a b)):=by
 intro w;go_enter func80,ntmps80;refine RG.M.enter [(0,.v (nv a)),(1,.v (nv b))] 12 kR ?_;intro a0 c;repeat refine Uz ?_
 refine c.T [.m 0,.m 1,.m 2] [(0,wn a),(1,wn b),(2,RG.z 4)] [] [wn a,wn b,RG.z 4] [2,3,4] ⟨mk 0 49,mk 1 49,mk 2 49,yCn⟩ ?_;intro l i g n m e;repeat refine Uz ?_
 refine e.D [.c gv1,.s (.p 0 0),.x (nv a),.s (.p 1 0),.x (nv b),.c (nv (sPl N a b)),.x (nv (sPl N a b)),.u 2] [] [(2,7,wn (sPl N a b))] [wn a,wn b,wn (sPl N a b)] [4] ⟨cl fH,st,ld u38 i38,st,ld u38 i38,cl (LM O d f),st,RG.pt i40,yCn⟩ ?_;intro a2 j k;refine Wr ?_;refine UE (v:=(nv (sPl N a b))) (aI k.st 4 49 rfl 2 _ rfl (k.at (s:=(.p 2 0))) u40 i40) k.sl.defers ?_;exact⟨_,rfl,k.st.bel.below,rfl⟩
def oS(N:Nat)(k:Bs):Nat:=beV k.toList%N
def Qo(v:Ut)(n:Nat):List It:=[.c 3 [] gv1,.x 4 [] v,.c 5 [(3,0),(4,1)] (nv n),.x 6 [(5,2)] (nv n),.u [(6,3)] 0]
theorem zL(O:Ord N)(g:Nat)(k:Bs)(j:k.size=64)(w:Ur)(f:g<w.heap.size)(m:Holds encB w g 0 k):UH prog 197 #[sZ g 64 64] w (rZ w λe w'=>e=nv (oS N k)):=by
 have n:∀w',BelX w.heap.size [] w w'->UH prog 229 #[gv1,sZ g 64 64] w' (Ret λe b=>kZ w' b/\e=nv (oS N k)):=λw' d =>
  (CX _ _ _ N g 0 64 64 k O.gap w' j (Uw _) (Ux f d.below.size) (Holds.below m d.below f)).mono (by rintro e b ⟨v,rfl,d,c⟩;exact⟨_,rfl,d,c.nv⟩)
 go_enter func197,ntmps197;refine RG.M.enter [(0,.v (sZ g 64 64))] 7 kR ?_;intro a0 l;repeat refine Uz ?_
 refine l.T [.m 0] [(0,RG.z 4)] [] [RG.z 4] [0,2] ⟨mk 0 49,yCn⟩ ?_;intro o q p i;repeat refine Uz ?_
 refine i.t (Qo (sZ g 64 64) (oS N k)) [] [(0,4,wn (oS N k))] [wn (oS N k)] [(2,.p 0 0)] ⟨cl fH,st,clB (λ_ _=>kR) n,st,RG.pt i40,yCn⟩ ?_;intro a2 r c;refine Wr ?_;refine UE (v:=(nv (oS N k))) (aI c.st 2 49 rfl 0 _ rfl (c.at (s:=(.p 0 0))) u40 i40) c.sl.defers ?_;exact⟨_,rfl,c.st.bel.below,rfl⟩
theorem uU(O:Ord N)(k:Bs):oS N k<N:=V7 _ O.pos
def chL(N:Nat)(k:List UInt8)(b:List (List UInt8)):Nat:=oS N (qM (oR k b).toList 64)
theorem aE(w:Ur)(c:List Ut)(T:U8):Row (w.alloc (.cells c.toArray T)) w.heap.size c:=
 have h:=Made.alloc w c T
 ⟨h.lt,h.range,h.there⟩
theorem aM(n:Nat):(wn n).toArray.all (·.oneCell')=true:=kR
theorem Ie(O:Ord N)(g:Nat)(T:Bs)(w:Ur)(t:T.size=32)(s:Holds encB w g 0 T):
 UH prog 128 #[sZ g 32 32] w (rZ w λe w'=>e=nv (oS N (qM T.toList 64))):=by
 obtain⟨S,u⟩:∃S,Hid (qM T.toList 64=S):=⟨_,rfl⟩
 have x:S.size=64:=by rw[<-u.out];exact zI _ _
 rw[u.out];obtain⟨d,k⟩:∃d,Hid (w.alloc (.cells #[uZ 0,uZ 0,uZ 0,uZ 0] 49)=d):=⟨_,rfl⟩
 have f:Hid (Row d w.heap.size [uZ 0,uZ 0,uZ 0,uZ 0]/\kZ w d/\Holds encB d g 0 T):=by rw[<-k.out];exact⟨aE w _ _,aC w _,Holds.below s (aC w _) (Holds.lt s oM)⟩
 clear s;go_enter func128,ntmps128;go_wp2_with fail
 rw[k.out];clear k;refine(yV (some (aZ g)) g 0 32 32 64 T d dC t (Uw _) dC (UX ⟨rfl,f.2.2⟩)).mono ?_;rintro e n ⟨y,rfl,B,o,r⟩;rw[u.out]at r;have c:Hid (Row n w.heap.size [uZ 0,uZ 0,uZ 0,uZ 0]/\kZ w n/\Holds encB n y 0 S):=⟨f.1.below o,f.2.1.trans (o.mono f.2.1.size),r⟩
 clear B o r f;go_wp2_with fail
 refine(zL O y S x n (Holds.lt c.2.2 oM) c.2.2).mono ?_;rintro e p ⟨v,rfl,b,rfl⟩;have q:Hid (Row p w.heap.size [uZ 0,uZ 0,uZ 0,uZ 0]/\kZ w p):=⟨c.1.below b,c.2.1.trans (b.mono c.2.1.size)⟩
 clear b c;obtain⟨m,z⟩:∃m,Hid (oS N S=m):=⟨_,rfl⟩
 rw[z.out];obtain⟨l,j⟩:∃l,Hid (p.setCells w.heap.size 0 (wn m)=l):=⟨_,rfl⟩
 have a:Hid (Row l w.heap.size (wn m)/\kZ w l):=by rw[<-j.out];exact⟨q.1.put rfl,RG.below_setCells (Uw _) _ _ _ q.2⟩
 obtain⟨A,i⟩:∃A,Hid (nv m=A):=⟨_,rfl⟩
 rw[i.out];go_wp2_with (refine U2 rfl 49 _ _ rfl w.heap.size 0 (wn m).toArray ?_ ?_ ?_ ?_ ?_ ?_;rfl;exact i.symm;exact q.1.2.2;exact i40;exact aM m;rw[show(wn m).toArray.toList=wn m from rfl,j.out])
 refine UE (aG 2 49 rfl a.1 rfl u40 i40) rfl ?_;exact⟨_,rfl,a.2,by rw[z.out];rfl⟩
theorem CB(O:Ord N)(k:ByteArray)(s:Option Ww)(n cap:Nat)(i:List (List UInt8))(w:Ur)(j:k.size<=1048576)(B:i.length=n)(q:n<=1048576)(I:PartsOk w s i):
 UH prog 60 #[.string k,.slice s n cap] w (rZ w λe w'=>e=nv (chL N k.data.toList i)):=by
 obtain⟨T,a⟩:∃T,Hid (oR k.data.toList i=T):=⟨_,rfl⟩
 have A:T.size=32:=by rw[<-a.out];exact fC _ _
 have C:chL N k.data.toList i=oS N (qM T.toList 64):=by unfold chL;rw[a.out]
 rw[C];clear C;obtain⟨c,f⟩:∃c,Hid (w.alloc (.cells #[uZ 0,uZ 0,uZ 0,uZ 0] 49)=c):=⟨_,rfl⟩
 have b:Hid (Row c w.heap.size [uZ 0,uZ 0,uZ 0,uZ 0]/\kZ w c):=by rw[<-f.out];exact⟨aE w _ _,aC w _⟩
 have d:Hid (UH prog 113 #[.string k,.slice s n cap] c λe w'=>∃r,e=.returned (sZ r 32 32)/\c.heap.size<=r/\kZ c w'/\Holds encB w' r 0 T):=by
  subst B;rw[<-a.out];exact vP k s cap i c j q (I.below b.2)
 clear I B q;go_enter func60,ntmps60;go_wp2_with fail
 rw[f.out];clear f;refine d.mono ?_;rintro e u ⟨H,rfl,J,x,F⟩;have l:Hid (Row u w.heap.size [uZ 0,uZ 0,uZ 0,uZ 0]/\kZ w u/\Holds encB u H 0 T):=⟨b.1.below x,b.2.trans (x.mono b.2.size),F⟩
 clear J x F d b;go_wp2_with fail
 refine(Ie O H T u A l.2.2).mono ?_;rintro e y ⟨v,rfl,g,rfl⟩;have z:Hid (Row y w.heap.size [uZ 0,uZ 0,uZ 0,uZ 0]/\kZ w y):=⟨l.1.below g,l.2.1.trans (g.mono l.2.1.size)⟩
 clear g l;obtain⟨m,D⟩:∃m,Hid (oS N (qM T.toList 64)=m):=⟨_,rfl⟩
 rw[D.out];obtain⟨t,p⟩:∃t,Hid (y.setCells w.heap.size 0 (wn m)=t):=⟨_,rfl⟩
 have E:Hid (Row t w.heap.size (wn m)/\kZ w t):=by rw[<-p.out];exact⟨z.1.put rfl,RG.below_setCells (Uw _) _ _ _ z.2⟩
 obtain⟨G,o⟩:∃G,Hid (nv m=G):=⟨_,rfl⟩
 rw[o.out];go_wp2_with (refine U2 rfl 49 _ _ rfl w.heap.size 0 (wn m).toArray ?_ ?_ ?_ ?_ ?_ ?_;rfl;exact o.symm;exact z.1.2.2;exact i40;exact aM m;rw[show(wn m).toArray.toList=wn m from rfl,p.out])
 refine UE (aG 4 49 rfl E.1 rfl u40 i40) rfl ?_;exact⟨_,rfl,E.2,by rw[D.out];rfl⟩
end
section
open Go.RowKit Go.Sort Go.Deep
section
variable {P:VD}{ops:Array Vk}{rest:List Vk}{op:Vk}{a:Act}{w w':Ur}{v:Ut}{Q:Yq->Act->Ur->Prop}
theorem bG(k:op.guard=none)(X:Op)(_:op.op=X)(b:(U5 a.eval op).run P w=.ok (.value v) w')(h:wpList P ops Q rest (a.put op.dst v) w'):wpList P ops Q (op :: rest) a w:=
 Xi k λK c=>by
  unfold VT;rw[b];exact c _ _ h
end
variable {N:Nat}
theorem Row.only{k b o n:Nat}(h:Row W k vs)(f:SP.Only b o n W W')(d:k≠b):Row W' k vs:=by
 refine⟨Ux h.1 f.size,λj v e=>?_,λj e=>?_⟩
 ·rw[(f.other (c:=k) (o:=0+j) d h.1).1];exact h.2.1 j v e
 ·have g:=h.2.2 j e;have i:=f.other (c:=k) (o:=0+j) d h.1;exact⟨by rw[i.1];exact g.1,by rw[i.2];exact g.2⟩
theorem dW{w:Ur}{y o n k:Nat}(h:SP.Only y o n w W)(e:y<w.heap.size)(f:w.heap.size<=k)(q:Nat):SP.Only y o n w (W.setCells k q vs):=
 have b:=RG.below_setCells f _ _ _ (UR _ _)
 ⟨b.os.trans h.os,b.tape.trans h.tape,b.output.trans h.output,UC h.size b.size,λj d c=>(b.block j d).trans (h.block j d c),λp g=>(UW (a:=⟨y,p,none⟩) (b.block y e)).trans (h.cell p g),λp=>(VU (a:=⟨y,p,none⟩) (b.block y e)).trans (h.froz p)⟩
theorem Hid.mk'{p:Prop}(h:p):Hid p:=h
theorem u124:(prog.underlying 143).map (·.isRow)=some true:=kR
theorem i124:(prog.info? 143).map (·.size)=some 1:=kR
theorem Gq(k:ByteArray)(w:Ur)(l:k.size<=1048576):UH prog 207 #[.string k] w (rZ w λe w'=>∃r,e=.agg #[jZ r]/\w.heap.size<=r/\r<w'.heap.size/\Holds encB w' r 0 (newL k.data.toList)):=by
 obtain⟨L,t⟩:=hE (newL k.data.toList);have u:L.size=32:=by rw[<-t.out];exact zY _
 rw[t.out];obtain⟨d,c⟩:∃d,Hid (w.alloc (.cells #[.pointer none] 143)=d):=⟨_,rfl⟩
 have n:Hid (Row d w.heap.size [.pointer none]/\kZ w d):=by rw[<-c.out];exact⟨aE w _ _,aC w _⟩
 go_enter func207,ntmps207;go_wp2_with fail
 rw[c.out];clear c;refine(En k d l).mono ?_;rintro e g ⟨rfl,f,b⟩;rw[t.out]at b;have m:d.heap.size<g.heap.size:=Holds.lt b oM;obtain⟨r,s⟩:∃r,Hid (d.heap.size=r):=⟨_,rfl⟩
 rw[s.out]at b m⊢;have x:w.heap.size<r:=by rw[<-s.out];exact n.1.1
 have p:Hid (Row g w.heap.size [.pointer none]/\kZ w g/\Holds encB g r 0 L):=⟨n.1.below f,n.2.trans (f.mono n.2.size),b⟩
 clear f b n s;obtain⟨i,o⟩:∃i,Hid (g.setCells w.heap.size 0 [jZ r]=i):=⟨_,rfl⟩
 have q:Hid (Row i w.heap.size [jZ r]/\kZ w i/\Holds encB i r 0 L/\r<i.heap.size):=by
  rw[<-o.out];refine⟨p.1.put rfl,RG.below_setCells (Uw _) _ _ _ p.2.1,λj y=>?_,by rw[setCells_size];exact m⟩;have h:=p.2.2 j y;have e:=aH w.heap.size [jZ r] 0 g r oM;rw[UW (a:=⟨r,0+j,none⟩) e,VU (a:=⟨r,0+j,none⟩) e];exact h
 go_wp2_with (refine bG (v:=.agg #[jZ r]) (w':=g) rfl (.build 143 _) rfl ?_ ?_;kernel_rfl;refine Zh ?_)
 show wpList _ _ _ _ _ _;refine U2 rfl 143 _ _ rfl w.heap.size 0 #[jZ r] ?_ ?_ ?_ ?_ ?_ ?_
 ·kernel_rfl
 ·kernel_rfl
 ·exact p.1.2.2
 ·exact i124
 ·kernel_rfl
 rw[show(#[jZ r]).toList=[jZ r] from rfl,o.out];go_wp2;refine UE (aG 2 143 rfl q.1 rfl u124 i124) rfl ?_;exact⟨_,rfl,q.2.1,r,rfl,oM,q.2.2.2,q.2.2.1⟩
def cha(N:Nat)(L:Bs):Nat:=oS N (CO L [99,104,97,108,108,101,110,103,101] 64)
end
namespace SP
open Go.RowKit Go.Sort Go.Deep
attribute [local go_sem] cY dV dZ pB
end SP
namespace SP
open Go.RowKit Go.Sort Go.Deep
attribute [local go_sem] cY dV dZ pB
end SP
namespace SP
open Go.RowKit Go.Sort Go.Deep
attribute [local go_sem] cY dV dZ qJ pB
end SP
namespace SP
open Go.RowKit Go.Sort Go.Deep
attribute [local go_sem] cY dV dZ qJ pB Eo NF
end SP
namespace SP
open Go.RowKit Go.Sort Go.Deep
attribute [local go_sem] Aj
end SP
section
open Go.RowKit Go.Sort Go.Deep
variable {P:Nat}[NeZero P]{N:Nat}
def n12(P:Nat)[NeZero P]:List Ut:=ws (0:Fin P)++(ws (1:Fin P)++ws (0:Fin P))
theorem Eg(l:List UInt8):beV l<256^l.length:=by
 induction l with
 | nil=>decide
 | cons x r ih =>
  have h:=jP [x] r;rw[show [x]++r=x :: r from rfl]at h;have hx:beV [x]=x.toNat:=by simp[beV]
  have k:=x.toNat_lt;rw[h,hx,Vj,V9,Vv (256^r.length)];have:=Xu (256^r.length) (show x.toNat+1<=256 by omega);rw[XH,Nat.one_mul]at this;omega
theorem Rx(w:Ur):(Instr.makeSlice 23 (iZ 32) (iZ 32)).run prog w=.ok (sZ w.heap.size 32 32) (w.alloc (.cells (madeCells #[.int .u8 0] 32) 5)):=
 run_make_row' (P:=prog) 23 5 (.int .u8 0) 1 H5 DN rfl .i64 .i64 32 dC dC w
theorem Nr:prog.underlying 103=some (.array 33 5):=kR
theorem dF(h:b.size=33):aA b=[.int .u8 (ub b[0]!),.int .u8 (ub b[1]!),.int .u8 (ub b[2]!),.int .u8 (ub b[3]!),.int .u8 (ub b[4]!),.int .u8 (ub b[5]!),.int .u8 (ub b[6]!),.int .u8 (ub b[7]!),.int .u8 (ub b[8]!),.int .u8 (ub b[9]!),.int .u8 (ub b[10]!),.int .u8 (ub b[11]!),.int .u8 (ub b[12]!),.int .u8 (ub b[13]!),.int .u8 (ub b[14]!),.int .u8 (ub b[15]!),.int .u8 (ub b[16]!),.int .u8 (ub b[17]!),.int .u8 (ub b[18]!),.int .u8 (ub b[19]!),.int .u8 (ub b[20]!),.int .u8 (ub b[21]!),.int .u8 (ub b[22]!),.int .u8 (ub b[23]!),.int .u8 (ub b[24]!),.int .u8 (ub b[25]!),.int .u8 (ub b[26]!),.int .u8 (ub b[27]!),.int .u8 (ub b[28]!),.int .u8 (ub b[29]!),.int .u8 (ub b[30]!),.int .u8 (ub b[31]!),.int .u8 (ub b[32]!)]:=by
 apply YZ;intro i;by_cases k:i<33
 ·rw[rN b i oM];match i,k with
  | 0,_=>rfl
  | 1,_=>rfl
  | 2,_=>rfl
  | 3,_=>rfl
  | 4,_=>rfl
  | 5,_=>rfl
  | 6,_=>rfl
  | 7,_=>rfl
  | 8,_=>rfl
  | 9,_=>rfl
  | 10,_=>rfl
  | 11,_=>rfl
  | 12,_=>rfl
  | 13,_=>rfl
  | 14,_=>rfl
  | 15,_=>rfl
  | 16,_=>rfl
  | 17,_=>rfl
  | 18,_=>rfl
  | 19,_=>rfl
  | 20,_=>rfl
  | 21,_=>rfl
  | 22,_=>rfl
  | 23,_=>rfl
  | 24,_=>rfl
  | 25,_=>rfl
  | 26,_=>rfl
  | 27,_=>rfl
  | 28,_=>rfl
  | 29,_=>rfl
  | 30,_=>rfl
  | 31,_=>rfl
  | 32,_=>rfl
  | n+33,h=>exact absurd h oM
 ·rw[Wz (by rw[aB h];omega),Wz (by show 33<=i;omega)]
theorem bytes_eq{a:Bs}(c:a.size=33)(g:b.size=33):(∀i∈VG 33,ub a[i]! = ub b[i]!)↔a=b:=by
 constructor
 ·intro h;apply yB6 (by rw[c,g]);intro i d f;have k:=h i (V0.2 oM);rw[getElem!_pos a i d,getElem!_pos b i f]at k;have e:a[i].toNat=b[i].toNat:=by unfold ub at k;omega
  exact yAW.1 e
 ·rintro rfl i _;rfl
theorem Sr{a:Bs}(d:a.size=33)(e:b.size=33)(w:Ur):(Op.equal 103 (.agg (aA a).toArray) (.agg (aA b).toArray)).run prog w=.ok (decide (a=b)) w:=by
 have k:(prog.info? 5).isSome=true:=kR;obtain⟨f,c⟩:=Vr.1 k;show(Op.equalIn 10000 103 _ _).run prog w=_;rw[run_equalIn_array w 9999 _ _ Nr c,cells5,
  eqI _ _ (λi=>ub a[i]!) (λi=>ub b[i]!) 9998 w (VG 33) (λi k=>by
   rw[Vg];exact rN a i (by rw[d];exact V0.1 k)) (λi k=>by
   rw[Vg];exact rN b i (by rw[e];exact V0.1 k))]
 rw[decide_eq_decide.2 (bytes_eq d e)]
theorem FC(k:b.size=33)(e:Bool)(w:Ur):(Instr.checkKey e 10000 103 (.agg (aA b).toArray)).run prog w=.ok () w:=by
 rw[dF k];kernel_rfl
def at?(b:Bs):List Bs->Nat->Option Nat
 | [],_=>none
 | k :: r,i=>if b=k then some i else at? b r (i+1)
def ents:List Bs->Nat->List MapEntry
 | [],_=>[]
 | k :: r,i=>{ key:=.agg (aA k).toArray,val:=iZ i,born:=i } :: ents r (i+1)
theorem Cw(d:b.size=33)(w:Ur):∀(D:List Bs) (i:Nat),(∀k∈D,k.size=33)->(yAU 103 (.agg (aA b).toArray) (ents D i) i).run prog w=.ok ((at? b D i).map λj=>(j,iZ j)) w
 | [],i,_=>rfl
 | k :: r,i,h=>by
  have e:=Cw d w r (i+1) (λx hx=>h x (Vb _ hx));have f:=Sr d (h k Vu) w;unfold ents yAU at?;simp only[UV,f,Vm];by_cases c:b=k
  ·simp only[c,decide_true,if_true,Wt,Yx]
  ·simp only[c,decide_false,Bool.false_eq_true,if_false,e]
theorem E0(e:b.size=33)(D:List Bs)(h:∀k∈D,k.size=33)(w:Ur):(yBx 103 (.agg (aA b).toArray) (ents D 0)).run prog w=.ok ((at? b D 0).map λj=>(j,iZ j)) w:=by
 have d:=X0 Nr w;unfold yBx;rw[UV,d,Vm];cases D with
 | nil=>rfl
 | cons k r =>
  have c:Instr.findNow (.array 33 5) (.agg (aA b).toArray) (ents (k :: r) 0) 0=none:=rfl;simp only[c];exact Cw e w (k :: r) 0 h
theorem at?_none:∀ {D:List Bs}{i:Nat},at? b D i=none↔b ∉ D
 | [],i=>by simp[at?]
 | k :: r,i=>by
  unfold at?;by_cases h:b=k
  ·simp[h]
  ·simp[h,at?_none (D:=r) (i:=i+1)]
end
section
open Go.RowKit Go.Sort Go.Deep
section
variable {P:VD}{ops:Array Vk}{rest:List Vk}{op:Vk}{a:Act}{w w':Ur}{v u:Ut}{Q:Yq->Act->Ur->Prop}
theorem aF(k:op.guard=none)(T:U8)(x:XI)(ho:op.op=.box T x)(hx:a.eval x=u)(c:(Ve T u).run P w=.ok v w')(h:wpList P ops Q rest (a.put op.dst v) w'):wpList P ops Q (op :: rest) a w:=
 Xi k λK b=>by
  unfold VT U5;simp only[ho,hx,UV,c,Vm,Wt];exact b _ _ h
end
variable {N:Nat}
theorem cV:(prog.info? 103).map (·.size)=some 33:=kR
theorem uCP:(prog.underlying 103).map (·.isRow)=some true:=kR
theorem rM{a:Bs}(k:a.size=33)(w:Ur):(Ve 103 (.agg (aA a).toArray)).run prog w=.ok (jZ w.heap.size) (w.alloc (.cells (aA a).toArray 103)):=by
 rw[dF k];kernel_rfl
theorem QM(k:Nat)(w:Ur):(Xp 103 (jZ k) none none none).run prog w=.ok (sZ k 33 33) w:=kR
theorem row_holds{k:Nat}{a:Bs}(h:Row W k (aA a)):Holds encB W k 0 a:=cb_holds h.2.1 h.2.2
theorem wO{k:Nat}{a:Bs}(b:a.size=33)(h:Row W k (aA a)):PartOk W (sZ k 33 33) a.toList:=
 ⟨_,k,0,33,a,by rw[b],rfl,oM,oM,UX ⟨rfl,row_holds h⟩⟩
theorem OG{r:Nat}{L:Bs}(h:Holds encB W r 0 L):Holds SP.encB W r 0 L:=h
theorem OE{r:Nat}{L:Bs}(h:Holds SP.encB W r 0 L):Holds encB W r 0 L:=h
end
section
open Go.RowKit Go.Sort Go.Deep
variable {P:Nat}[NeZero P]{N:Nat}
theorem FV(g k:Nat)(w:Ur):(Instr.arrayAt 103 (sZ g 33 k)).run prog w=.ok (jZ g) w:=kR
theorem pW{k:Nat}{a:Bs}(b:Holds encB W k 0 a)(c:k<W.heap.size):Row W k (aA a):=⟨c,(rL b).1,(rL b).2⟩
theorem bW(a:Bs):(aA a).toArray.all (·.oneCell')=true:=by
 rw[Xa];intro v hv;obtain⟨x,-,rfl⟩:=Vn.1 (X8.1 hv);rfl
def pvl(a:Bs):Ut:=.agg (aA a).toArray
theorem NQ(C:Fld P):Gives 63 #[] (pvl (wr (gG P))):=by
 intro w;obtain⟨T,t⟩:∃T,Hid (wr (gG P)=T):=⟨_,rfl⟩
 have u:T.size=33:=by rw[<-t.out];exact aT _
 rw[t.out];obtain⟨f,b⟩:∃f,Hid (w.alloc (.cells z33.toArray 103)=f):=⟨_,rfl⟩
 have r:Hid (Row f w.heap.size z33/\kZ w f):=by rw[<-b.out];exact⟨aE w _ _,aC w _⟩
 obtain⟨d,i,j⟩:=Uy.1 uCP;have A:Hid (prog.underlying 103=some d/\d.isRow=true):=⟨i,j⟩
 clear i j;go_enter func63,ntmps63;go_wp2_with (refine bG (v:=jZ w.heap.size) (w':=f) rfl (.alloc 103) rfl ?_ ?_;(rw[<-b.out];kernel_rfl))
 refine(Qp C f).mono ?_;rintro e n ⟨E,rfl,c,g,B,rfl,-,D,a,s⟩;rw[t.out]at s;have p:Hid (Row n w.heap.size z33/\kZ w n/\Row n g (aA T)):=⟨r.1.below c,r.2.trans (c.mono r.2.size),pW s a⟩
 clear c D a s r b;have y:=FV g B;obtain⟨q,l⟩:∃q,Hid (n.setCells w.heap.size 0 (aA T)=q):=⟨_,rfl⟩
 have k:(aA T).length=33:=aB u;have x:Hid (Row q w.heap.size (aA T)/\kZ w q):=by rw[<-l.out];exact⟨p.1.put (by rw[k];rfl),RG.below_setCells (Uw _) _ _ _ p.2.1⟩
 obtain⟨z,m⟩:∃z,Hid (U3 (aA T).toArray=z):=⟨_,rfl⟩
 have o:Hid ((prog.info? 103).map (·.size)=some (aA T).length/\n.there w.heap.size 0 (aA T).toArray.size/\(prog.info? 103).map (·.size)=some (aA T).toArray.size):=by
  have e:(aA T).toArray.size=33:=by rw[VC];exact k
  refine⟨by rw[k];exact cV,by rw[e];exact p.1.2.2,by rw[e];exact cV⟩
 clear k;go_wp2_with (first|(refine U6 rfl 103 _ rfl g 0 ?_ (aA T) d ?_ ?_ ?_ ?_ ?_;rfl;exact p.2.2.2.1;exact A.1;exact A.2;exact o.1;rw[m.out])|(refine U2 rfl 103 _ _ rfl w.heap.size 0 (aA T).toArray ?_ ?_ ?_ ?_ ?_ ?_;rfl;exact m.symm;exact o.2.1;exact o.2.2;exact bW T;rw[show(aA T).toArray.toList=aA T from rfl,l.out]))
 refine UE (aG 0 103 rfl x.1 rfl uCP o.1) rfl ?_;exact⟨_,rfl,x.2,rfl⟩
end
section
open Go.RowKit Go.Sort Go.Deep
section
variable {P:VD}{ops:Array Vk}{rest:List Vk}{op:Vk}{a:Act}{w w':Ur}{v:Ut}{Q:Yq->Act->Ur->Prop}
theorem lJ(b:op.guard=none)(T:U8)(k:Array (Nat × XI))(ho:op.op=.build T k)(vs:Array (Nat × Ut))(hx:(k.map λ(i,x)=>(i,a.eval x))=vs)(d:(Zi T vs).run P w=.ok v w')(h:wpList P ops Q rest (a.put op.dst v) w'):wpList P ops Q (op :: rest) a w:=
 Xi b λK c=>by
  unfold VT U5;simp only[ho,hx,UV,d,Vm,Wt];exact c _ _ h
theorem jC(b:op.guard=none)(T:U8)(n:Nat)(k:Array (Nat × XI))(ho:op.op=.buildSlice T n k)(vs:Array (Nat × Ut))(hx:(k.map λ(i,x)=>(i,a.eval x))=vs)(d:(Vy T n vs).run P w=.ok v w')(h:wpList P ops Q rest (a.put op.dst v) w'):wpList P ops Q (op :: rest) a w:=
 Xi b λK c=>by
  unfold VT U5;simp only[ho,hx,UV,d,Vm,Wt];exact c _ _ h
end
theorem SR{a:Bs}(k:a.size=33)(n:Nat)(w:Ur):(Zi 226 #[(0,nv n),(1,pvl a)]).run prog w=.ok (.agg (wn n++aA a).toArray) w:=by
 unfold pvl;rw[dF k];kernel_rfl
theorem SH{a:Bs}(k:a.size=33)(n:Nat)(w:Ur):(Vy 131 1 #[(0,.agg (wn n++aA a).toArray)]).run prog w=.ok (sZ w.heap.size 1 1) (w.alloc (.cells (wn n++aA a).toArray 226)):=by
 rw[dF k];kernel_rfl
theorem boxS(n:Nat)(w:Ur):(Ve 49 (nv n)).run prog w=.ok (jZ w.heap.size) (w.alloc (.cells (wn n).toArray 49)):=kR
theorem kU(a:Bs)(p:a.size=33)(n:Nat)(w:Ur):UH prog 64 #[pvl a,nv n] w (rZ w λe w'=>∃k,e=sZ k 1 1/\w.heap.size<=k/\Row w' k (wn n++aA a)):=by
 have H:=Hid.mk' (rM p w);obtain⟨c,g⟩:=hE (w.alloc (.cells (aA a).toArray 103));rw[g.out]at H;have D:c.heap.size=w.heap.size+1:=by rw[<-g.out,UB]
 have s:=Hid.mk' (boxS n c);obtain⟨b,f⟩:=hE (c.alloc (.cells (wn n).toArray 49));rw[f.out,D]at s;have F:b.heap.size=w.heap.size+2:=by rw[<-f.out,UB,D]
 have E:=Hid.mk' (SR p n b);have B:=Hid.mk' (SH p n b);obtain⟨m,l⟩:=hE (b.alloc (.cells (wn n++aA a).toArray 226));rw[l.out,F]at B;have K:Hid (Row b w.heap.size (aA a)/\Row b (w.heap.size+1) (wn n)/\kZ w m/\Row m (w.heap.size+2) (wn n++aA a)):=by
  have j:Row c w.heap.size (aA a):=by rw[<-g.out];exact aE w _ _
  have r:Row b (w.heap.size+1) (wn n):=by rw[<-f.out,<-D];exact aE c _ _
  have q:Row m (w.heap.size+2) (wn n++aA a):=by rw[<-l.out,<-F];exact aE b _ _
  have b1:kZ w c:=by rw[<-g.out];exact aC w _
  have i:kZ c b:=by rw[<-f.out];exact aC c _
  have o:kZ b m:=by rw[<-l.out];exact aC b _
  exact⟨j.below i,r,(b1.trans (i.mono oM)).trans (o.mono oM),q⟩
 have I:Hid ((prog.info? 103).map (·.size)=some (aA a).length):=by show _=_;rw[aB p];exact cV
 obtain⟨d,r,x⟩:=Uy.1 uCP;obtain⟨A,y,z⟩:=Uy.1 u40;have q:Hid ((prog.underlying 103=some d/\d.isRow=true)/\prog.underlying 49=some A/\A.isRow=true):=⟨⟨r,x⟩,y,z⟩
 obtain⟨va,j⟩:=hE (pvl a);obtain⟨t,i⟩:=hE (nv n);obtain⟨G,o⟩:=hE (U3 (wn n++aA a).toArray);have C:Hid ((Ve 103 va).run prog w=.ok (jZ w.heap.size) c):=by rw[<-j.out];exact H
 rw[i.out]at s;rw[j.out,i.out,o.out]at E;rw[o.out]at B;rw[j.out,i.out];go_enter func64,ntmps64;go_wp2_with (first|(refine aF (u:=va) (v:=jZ w.heap.size) (w':=c) rfl 103 (.tmp 0) rfl ?_ ?_ ?_;rfl;exact C.out)|(refine aF (u:=t) (v:=.pointer (some ⟨w.heap.size+1,0,none⟩)) (w':=b) rfl 49 (.tmp 1) rfl ?_ ?_ ?_;rfl;exact s.out)|(refine U6 rfl 49 _ rfl (w.heap.size+1) 0 ?_ (wn n) A ?_ ?_ ?_ ?_ ?_;rfl;exact K.2.1.2.1;exact q.2.1;exact q.2.2;exact i40;rw[show U3 (wn n).toArray=t from i.out])|(refine U6 rfl 103 _ rfl w.heap.size 0 ?_ (aA a) d ?_ ?_ ?_ ?_ ?_;rfl;exact K.1.2.1;exact q.1.1;exact q.1.2;exact I.out;rw[show U3 (aA a).toArray=va from j.out])|(refine lJ (v:=G) (w':=b) rfl 226 _ rfl #[(0,t),(1,va)] ?_ ?_ ?_;kernel_rfl;exact E.out)|(refine jC (v:=.slice (some ⟨w.heap.size+2,0,none⟩) 1 1) (w':=m) rfl 131 1 _ rfl #[(0,G)] ?_ ?_ ?_;kernel_rfl;exact B.out))
 go_ret;exact⟨_,rfl,K.2.2.1,w.heap.size+2,rfl,oM,K.2.2.2⟩
end
section
open Go.RowKit Go.Sort Go.Deep
variable {P:Nat}[NeZero P]{N:Nat}
theorem Ug{a:Bs}(k:a.size=33)(n:Nat)(w:Ur):(Ve 226 (.agg (wn n++aA a).toArray)).run prog w=.ok (jZ w.heap.size) (w.alloc (.cells (wn n++aA a).toArray 226)):=by
 rw[dF k];kernel_rfl
theorem Ui(w:Ur):(Zi 49 #[]).run prog w=.ok (nv 0) w:=kR
def tvl(n:Nat)(a:Bs):Ut:=.agg (wn n++aA a).toArray
theorem kA{k:Nat}(h:W.rangeAt k 0 (xs++ys)):W.rangeAt k 0 xs:=λj v b=>h j v (by rw[UT (UF.1 b).1];exact b)
theorem lT{k:Nat}(h:W.rangeAt k 0 (xs++ys)):W.rangeAt k xs.length ys:=λj v b=>by
 have:=h (xs.length+j) v (by rw[U1 (Za _ _),Nat.add_sub_cancel_left];exact b);rwa[UD]at this
theorem I2{n:Nat}(q:n<top){a:Bs}(x:a.size=33):Gives 205 #[tvl n a] (.bool (decide (n=0))):=by
 intro w;have j:=Hid.mk' (Ug x n w);obtain⟨k,d⟩:=hE (w.alloc (.cells (wn n++aA a).toArray 226));rw[d.out]at j;have K:Hid (Row k w.heap.size (wn n++aA a)/\kZ w k):=by rw[<-d.out];exact⟨aE w _ _,aC w _⟩
 obtain⟨t,g,f⟩:=Uy.1 u40;have p:=mk2 g f;obtain⟨va,e⟩:=hE (tvl n a);obtain⟨m,b⟩:=hE (nv n);obtain⟨v0,c⟩:=hE (nv 0);have l:Hid ((Ve 226 va).run prog w=.ok (jZ w.heap.size) k):=by rw[<-e.out];exact j
 have s:Hid ((Zi 49 #[]).run prog k=.ok v0 k):=by rw[<-c.out];exact Ui k
 have i:=Hid.mk' (eqS q (show 0<top by unfold top;omega) k);rw[b.out,c.out]at i;have r:=i.out;obtain⟨z,o⟩:=hE (decide (n=0));rw[o.out]at r;have y:(eqGuard .eql 49 (.tmp 4) (.tmp 5) m v0).run prog k=.ok () k:=by rw[<-b.out,<-c.out];kernel_rfl
 rw[e.out,o.out];clear j i;go_enter func205,ntmps205;go_wp2_with (first|(refine aF (u:=va) (v:=jZ w.heap.size) (w':=k) rfl 226 (.tmp 0) rfl ?_ ?_ ?_;rfl;exact l.out)|(refine U6 rfl 49 _ rfl w.heap.size 0 ?_ (wn n) t ?_ ?_ ?_ ?_ ?_;rfl;exact kA K.1.2.1;exact p.1;exact p.2;exact i40;rw[show U3 (wn n).toArray=m from b.out])|(refine lJ (v:=v0) (w':=k) rfl 49 _ rfl #[] ?_ ?_ ?_;kernel_rfl;exact s.out))
 go_wp2;go_ret;exact⟨_,rfl,K.2,rfl⟩
theorem uT:(prog.underlying 226).map (·.isRow)=some true:=kR
theorem iT:(prog.info? 226).map (·.size)=some 37:=kR
theorem atT(k o n c i:Nat)(b:i<n)(w:Ur):(Vl 131 (.slice (some ⟨k,o,none⟩) n c) (iZ i)).run prog w=.ok (.pointer (some ⟨k,o+37*i,none⟩)) w:=by
 go_simp
def kL(ns:Nat->Nat):Nat->Nat->Int
 | _,0=>-1
 | i,m+1=>if ns i=0 then(i:Int) else kL ns (i+1) m
def Oh(b:Bool):List It:=[.x 9 [] (.bool b)]
def Og(g k c i n:Nat)(a:Bs)(z:Bool):List It:=[.x 11 [] (.func (.func 205) #[] #[]),.x 12 [] (sZ g k c),.x 13 [] (iZ i),.x 14 [(12,1),(13,2)] (.pointer (some ⟨g,(0+37*i),none⟩)),.x 15 [(14,3)] (tvl n a),.c 16 [(11,0),(15,4)] (.bool z)]
theorem E8(g k c:Nat)(Z:k<=1000000)(ns:Nat->Nat)(H:Nat->Bs)(O:∀j,j<k->ns j<top)(U:∀j,j<k->(H j).size=33)(w:Ur)(N:g<w.heap.size)(P:∀j,j<k->w.rangeAt g (37*j) (wn (ns j)++aA (H j))):
 UH prog 230 #[sZ g k c,.func (.func 205) #[] #[]] w (rZ w λe w'=>e=iZ (kL ns 0 k)):=by
 obtain⟨R,hR⟩:∃R,kL ns 0 k=R:=⟨_,rfl⟩
 rw[hR];go_enter func230,ntmps230;refine RG.M.enter [(0,.v (sZ g k c)),(1,.v (.func (.func 205) #[] #[]))] 19 kR ?_;intro a0 S;repeat refine Uz ?_
 refine S.U [.x (iZ 0)] [0,1] ⟨st,yCn⟩ ?_;intro Y X Q;repeat refine Uz ?_
 refine Q.U [.x (sZ g k c),.x (iZ k),.x (iZ 0)] [0,1,7,8] ⟨st,st,st,yCn⟩ ?_;intro a2 w2 T;repeat refine Uz ?_
 refine XJ ?_;refine Zg (λm a wr=>∃i:Nat,i+m=k/\kL ns i m=R/\RG.M w w.heap.size [] 19 [] [] [(0,.v (sZ g k c)),(1,.v (.func (.func 205) #[] #[])),(7,.v (iZ k)),(8,.v (iZ i))] a wr) k ⟨0,oM,hR,T⟩ ?_;intro B a wr;rintro⟨i,V,hf,u⟩;by_cases t:i<k
 ·obtain⟨n,x⟩:∃n,ns i=n:=⟨_,rfl⟩
  obtain⟨b,L⟩:∃b,H i=b:=⟨_,rfl⟩
  have y:=O i t;have r:=U i t;have s:=P i t;rw[x]at y s;rw[L]at r s;have p:w.rangeAt g (0+37*i) (wn n++aA b):=by rw[UD];exact s
  have q:(prog.info? 226).map (·.size)=some (wn n++aA b).length:=by rw[UA,aB r];exact iT
  have A:=I2 y r;obtain⟨D,rfl⟩:∃D,B=D+1:=⟨B-1,oM⟩
  unfold kL at hf;rw[x]at hf;repeat refine Uz ?_
  refine u.u (Oh true) [(0,.v (sZ g k c)),(1,.v (.func (.func 205) #[] #[])),(7,.v (iZ k)),(8,.v (iZ i)),(9,.v (.bool true))] ⟨aQ rfl .lss 3 3 8 7 (iZ i) (iZ k) (.bool true) rfl rfl sx sx (λw=>kR) (gA t),yCn⟩ ?_;intro M K l;repeat refine Uz ?_
  refine VE l.ev ?_;refine WU ?_;refine Uz ?_;refine XJ ?_;repeat refine Uz ?_
  refine l.U [.x (iZ i),.x (iZ i)] [0,1,7,8,5] ⟨st,st,yCn⟩ ?_;intro C G d;repeat refine Uz ?_
  by_cases z:n=0
  ·rw[decide_eq_true z]at A;rw[yCl z]at hf;refine d.u (Og g k c i n b true) [(0,.v (sZ g k c)),(1,.v (.func (.func 205) #[] #[])),(7,.v (iZ k)),(8,.v (iZ i)),(5,.v (iZ i)),(16,.v (.bool true))] ⟨st,st,st,bD rfl 131 12 13 rfl (.v (sZ g k c)) (iZ i) sx sx (λμ w=>atT _ 0 _ _ i t w),eH rfl g (0+37*i) N UY 226 14 rfl (wn n++aA b) rfl sx p uT q,clB (λ_ _=>kR) (λw' _=>A w'),yCn⟩ ?_;intro E F f;repeat refine Uz ?_
   refine VE f.ev ?_;repeat refine Uz ?_
   refine f.U [.x (iZ i),.x (iZ i)] [4] ⟨st,st,yCn⟩ ?_;intro J I o;refine Wr ?_;refine UE (v:=iZ i) (jA 4 rfl (iZ i) o.av) o.sl.defers ?_;exact⟨_,rfl,o.st.bel.below,by rw[hf]⟩
  ·rw[decide_eq_false z]at A;rw[yCm z]at hf;refine d.u (Og g k c i n b false) [(0,.v (sZ g k c)),(1,.v (.func (.func 205) #[] #[])),(7,.v (iZ k)),(8,.v (iZ i)),(16,.v (.bool false))] ⟨st,st,st,bD rfl 131 12 13 rfl (.v (sZ g k c)) (iZ i) sx sx (λμ w=>atT _ 0 _ _ i t w),eH rfl g (0+37*i) N UY 226 14 rfl (wn n++aA b) rfl sx p uT q,clB (λ_ _=>kR) (λw' _=>A w'),yCn⟩ ?_;intro E F f;repeat refine Uz ?_
   refine VI f.ev ?_;refine WU ?_;repeat refine Uz ?_
   refine f.U [.x (iZ ((i+1:Nat):Int)),.x (iZ ((i+1:Nat):Int))] [0,1,7,8] ⟨aP rfl .add 3 3 8 (iZ i) (iZ 1) (iZ ((i+1:Nat):Int)) rfl rfl sx (λw=>kR) (uQ i 1 oM oM),st,yCn⟩ ?_;intro J I o;show ∃W,_;exact⟨D,oM,i+1,oM,hf,o⟩
 ·have f:B=0:=oM;rw[f]at hf;unfold kL at hf;repeat refine Uz ?_
  refine u.u (Oh false) [(9,.v (.bool false))] ⟨aQ rfl .lss 3 3 8 7 (iZ i) (iZ k) (.bool false) rfl rfl sx sx (λw=>kR) (nH t),yCn⟩ ?_;intro M K l;repeat refine Uz ?_
  refine VI l.ev ?_;refine wp_exit ?_;dsimp only[Exit.then,Yw];rw[yCl rfl];repeat refine Uz ?_
  refine l.U [.x (iZ (-1))] [4] ⟨st,yCn⟩ ?_;intro C G d;refine Wr ?_;refine UE (v:=iZ (-1)) (jA 4 rfl (iZ (-1)) d.av) d.sl.defers ?_;exact⟨_,rfl,d.st.bel.below,by rw[<-hf]⟩
theorem uE{ns:Nat->Nat}:∀(m i:Nat),(∀j,i<=j->j<i+m->ns j≠0)->kL ns i m = -1
 | 0,_,_=>rfl
 | m+1,i,h=>by
  unfold kL;rw[yCm (h i (Uw _) oM)];exact uE m (i+1) (λj k b=>h j oM oM)
theorem Cx(g k c:Nat)(x:k<=1000000)(ns:Nat->Nat)(b:Nat->Bs)(o:∀j,j<k->ns j<top)(d:∀j,j<k->ns j≠0)(u:∀j,j<k->(b j).size=33)(w:Ur)(m:g<w.heap.size)(p:∀j,j<k->w.rangeAt g (37*j) (wn (ns j)++aA (b j))):
 UH prog 204 #[sZ g k c,.func (.func 205) #[] #[]] w (rZ w λe w'=>e=(sZ g k c)):=by
 have t:∀w',BelX w.heap.size [] w w'->UH prog 230 #[sZ g k c,.func (.func 205) #[] #[]] w' (Ret λe i=>kZ w' i/\e=iZ (-1)):=λw' n=>by
  have h:=E8 g k c x ns b o u w' (Ux m n.below.size) (λj f=>RG.range_below (p j f) n.below m);rw[uE k 0 (λj _ l=>d j oM)]at h;exact h
 go_enter func204,ntmps204;refine RG.M.enter [(0,.v (sZ g k c)),(1,.v (.func (.func 205) #[] #[]))] 42 kR ?_;intro a0 r;repeat refine Uz ?_
 refine r.U [.x (.slice none 0 0)] [0,1] ⟨st,yCn⟩ ?_;intro A a q;repeat refine Uz ?_
 refine q.U [.x (sZ g k c),.x (.func (.func 205) #[] #[]),.c (iZ (-1)),.x (iZ (-1))] [0,5] ⟨st,st,clB (λ_ _=>kR) t,st,yCn⟩ ?_;intro a2 C s;repeat refine Uz ?_
 refine s.U [.x (iZ (-1)),.x (.bool true)] [0,12] ⟨st,st,yCn⟩ ?_;intro B z l;repeat refine Uz ?_
 refine VE l.ev ?_;repeat refine Uz ?_
 refine l.U [.x (sZ g k c),.x (sZ g k c)] [4] ⟨st,st,yCn⟩ ?_;intro D y f;refine Wr ?_;refine UE (v:=(sZ g k c)) (jA 4 rfl _ f.av) f.sl.defers ?_;exact⟨_,rfl,f.st.bel.below,rfl⟩
theorem Qy:prog.underlying 278=some (.map 103 3):=kR
theorem zero3(w:Ur):(zeroValue 3).run prog w=.ok (iZ 0) w:=kR
theorem Af(b:Bs):∀(D:List Bs) (i:Nat),ents (D++[b]) i=ents D i++[{ key:=.agg (aA b).toArray,val:=iZ ((i+D.length:Nat):Int),born:=i+D.length }]
 | [],i=>rfl
 | k :: r,i=>by
  rw[Xc];unfold ents;rw[Af b r (i+1),Vj,show i+1+r.length=i+(r.length+1) by omega];rfl
theorem Ck(d:b.size=33)(D:List Bs)(f:∀k∈D,k.size=33)(m c:Nat)(w:Ur)(l:w.heap[m]? = some (.map (ents D 0).toArray c)):
 (yAj 278 (.map (some m)) (.agg (aA b).toArray) true).run prog w=.ok (.tuple #[iZ (((at? b D 0).getD 0:Nat):Int),.bool (at? b D 0).isSome]) w:=by
 have g:=X0 Qy w;have n:=λe=>FC d e w
 have i:=E0 d D f w;have o:(getObj m).run prog w=.ok (.map (ents D 0).toArray c) w:=by
  simp[getObj,yBQ,l]
 unfold yAj;simp only[UV,g,Vm,o,Wt,n,i];cases h:at? b D 0 with
 | none=>simp[UV,zero3]
 | some j=>simp
theorem Le(f:b.size=33)(D:List Bs)(i:∀k∈D,k.size=33)(m:Nat)(w:Ur)(d:w.heap[m]? = some (.map (ents D 0).toArray D.length))(g:at? b D 0=none):
 (Y4 278 (.map (some m)) (.agg (aA b).toArray) (iZ (D.length:Int))).run prog w=.ok () (w.putObj m (.map (ents (D++[b]) 0).toArray (D.length+1))):=by
 have j:=X0 Qy w;have l:=λe=>FC f e w
 have c:=E0 f D i w;rw[g]at c;have n:(getObj m).run prog w=.ok (.map (ents D 0).toArray D.length) w:=by
  simp[getObj,yBQ,d]
 unfold Y4;simp only[UV,j,Vm,n,Wt,l,c];rw[Af,UD];simp[setObj,yBQ,d,yAg]
theorem C4:prog.underlying 131=some (.slice 226):=kR
theorem RO:(prog.info? 226).map (λi=>(i.size,i.bytes,i.zero.map λz=>z.cells.size))=some (37,72,some 37):=kR
theorem cells_one(n:Nat)(a:Bs):∀u∈wn n++aA a,u.oneCell'=true:=by
 intro u k;rcases WB.1 k with h|h
 ·unfold wn at h;simp only[VX,UY,or_false]at h;rcases h with rfl|rfl|rfl|rfl<;>rfl
 ·obtain⟨x,-,rfl⟩:=Vn.1 h;rfl
theorem Kc{b k n:Nat}{v:Ut}{a:Bs}(s:a.size=33)(c:W.ownsRow b 226 37 v k xs)(hR:Row W g (wn n++aA a))(B:k<=1000000)(r:b<=W.heap.size):
 ∃d W',(Vt #[131,131] 131 #[v,sZ g 1 1]).run prog W=.ok d W'/\W'.ownsRow b 226 37 d (k+1) (xs++(wn n++aA a))/\W.grownBy W' v.ownBlock:=by
 obtain⟨i,x,f⟩:=Uy.1 RO;simp only[V8.injEq]at f;obtain⟨o,m,p⟩:=f;obtain⟨z,t,e⟩:=Uy.1 p;obtain⟨d,W',y,q,l,-⟩:=Y3 (P:=prog) W b 131 131 226 i z 37 72 C4 x t o m e dC v k xs c (aZ g) 1 1 (wn n++aA a) (by rw[UA,aB s];rfl)
  (λj u w=>by
   have:=hR.2.1 j u w;rw[UD]at this;rw[show(⟨g,0,none⟩:Ww).add j=⟨g,j,none⟩ by unfold Zk;split<;>simp_all];exact this) (cells_one n a) (by unfold maxLen;omega) oM r
 exact⟨d,W',y,q,l⟩
def fA(N:Nat):List (Nat × Bs)->Nat->Bs->List (Nat × Bs)
 | [],n,p=>[(n,p)]
 | (s,q) :: r,n,p=>if p=q then(sPl N s n,q) :: r else(s,q) :: fA N r n p
def mrg(N:Nat)(ns:Nat->Nat)(k:Nat->Bs):Nat->List (Nat × Bs)
 | 0=>[]
 | i+1=>fA N (mrg N ns k i) (ns i) (k i)
def aU(l:List (Nat × Bs)):List Ut:=l.flatMap λx=>wn x.1++aA x.2
theorem CQ{N n:Nat}{p:Bs}:∀ {l:List (Nat × Bs)},at? p (l.map (·.2)) 0=none->fA N l n p=l++[(n,p)]
 | [],_=>rfl
 | (s,q) :: r,h=>by
  have k:=at?_none.1 h;rw[XX,VX,not_or]at k;unfold fA;rw[yCm k.1,CQ (l:=r) (at?_none.2 k.2)];rfl
theorem CJ(l:List (Nat × Bs))(n:Nat)(p:Bs):aU (l++[(n,p)])=aU l++(wn n++aA p):=by
 unfold aU;rw[Zs];simp
structure Mx(w W:Ur)(m:Nat)(l:List (Nat × Bs))(v:Ut):Prop where
 bl:kZ w W
 mp:W.heap[m]? = some (.map (ents (l.map (·.2)) 0).toArray l.length)
 lm:w.heap.size<=m
 ow:W.ownsRow w.heap.size 226 37 v l.length (aU l)
theorem Mx.own_ne{w:Ur}{m:Nat}{l:List (Nat × Bs)}{v:Ut}(h:Mx w W m l v)(b:v.ownBlock=some g):g≠m/\w.heap.size<=g/\g<W.heap.size:=by
 rcases h.ow.2 with⟨rfl,-⟩|⟨d,cap,cur,rfl,c,k,-⟩
 ·cases b
 ·obtain rfl:d=g:=by simpa[Value.ownBlock]using b
  refine⟨λe=>?_,c,(UZ.1 k).1⟩;have:=h.mp;rw[<-e,k]at this;cases this
theorem sJ{b k:Nat}{e:U8}{s:Nat}{v:Ut}(h:W.ownsRow b e s v k xs)(f:∀g,v.ownBlock=some g->W'.heap[g]? = W.heap[g]?):W'.ownsRow b e s v k xs:=by
 refine⟨h.1,?_⟩;rcases h.2 with c|⟨g,cap,cur,rfl,d,c,i⟩
 ·exact U4 c
 ·exact UX ⟨g,cap,cur,rfl,d,by rw[f g rfl];exact c,i⟩
theorem Mx.kept{w:Ur}{m:Nat}{l:List (Nat × Bs)}{v:Ut}(h:Mx w W m l v)(k:kZ W W'):Mx w W' m l v:=
 ⟨h.bl.trans (k.mono h.bl.size),by rw[k.block m (UZ.1 h.mp).1];exact h.mp,h.lm,sJ h.ow λg b=>k.block g (h.own_ne b).2.2⟩
theorem JE(l:List (Nat × Bs))(n:Nat)(p:Bs):(l++[(n,p)]).map (·.2)=l.map (·.2)++[p]:=by simp
theorem Mx.push{w:Ur}{m:Nat}{l:List (Nat × Bs)}{v:Ut}(h:Mx w W m l v){p:Bs}(F:p.size=33)(D:l.length<=1000000)(n:Nat):
 ∃q b,(Vt #[131,131] 131 #[v,sZ W.heap.size 1 1]).run prog ((W.putObj m (.map (ents (l.map (·.2)++[p]) 0).toArray (l.length+1))).alloc (.cells (wn n++aA p).toArray 226))=.ok q b/\Mx w b m (l++[(n,p)]) q/\W.heap.size<b.heap.size/\∀j,j<W.heap.size->w.heap.size<=j->j≠m->some j≠v.ownBlock->b.heap[j]? = W.heap[j]?:=by
 obtain⟨c,d⟩:∃c,W.putObj m (.map (ents (l.map (·.2)++[p]) 0).toArray (l.length+1))=c:=⟨_,rfl⟩
 have s3:c.heap.size=W.heap.size:=by rw[<-d];simp[yAg]
 have r:=(UZ.1 h.mp).1;have s:∀j,j≠m->c.heap[j]? = W.heap[j]?:=λj y=>by rw[<-d];exact World.putObj_heap_other y
 have o:=h.bl.trans ⟨by rw[<-d];rfl,by rw[<-d];rfl,by rw[<-d];rfl,oM,λj y=>s j (by have:=h.lm;omega)⟩;have A:=sJ h.ow λg x=>s g (h.own_ne x).1
 have C:c.heap[m]? = some (.map (ents (l.map (·.2)++[p]) 0).toArray (l.length+1)):=by rw[<-d];exact World.putObj_heap_same r
 rw[d];have R4:=aE c (wn n++aA p) 226;have f:=aC c (.cells (wn n++aA p).toArray 226);have s4:(c.alloc (.cells (wn n++aA p).toArray 226)).heap.size=W.heap.size+1:=by rw[UB,s3]
 have a:=sJ A λg x=>f.block g (by have:=(h.own_ne x).2.2;omega)
 rw[s3]at R4;obtain⟨q,b,E,B,i⟩:=Kc F a R4 D (by have:=o.size;omega);have z:some m≠v.ownBlock:=λe=>(h.own_ne e.symm).1 rfl
 refine⟨q,b,E,⟨?_,?_,h.lm,?_⟩,by have:=i.size;omega,λj y _ u t=>?_⟩
 ·exact(o.trans (f.mono o.size)).grown i (by have:=o.size;omega) (λk e=>(h.own_ne e).2.1)
 ·rw[i.block m oM z,f.block m oM,C,JE,UA];rfl
 ·rw[CJ,UA];exact B
 ·rw[i.block j oM t,f.block j oM,s j u]
end
section
open Go.RowKit Go.Sort Go.Deep
variable {N:Nat}
section
variable {P:VD}{ops:Array Vk}{rest:List Vk}{op:Vk}{a:Act}{w w':Ur}{v x y z:Ut}{Q:Yq->Act->Ur->Prop}
theorem zA(b:op.guard=none)(T:U8)(m k:XI)(ok:Bool)(ho:op.op=.lookup T m k ok)(f:a.eval m=x)(d:a.eval k=y)(e:(yAj T x y ok).run P w=.ok v w')(h:wpList P ops Q rest (a.put op.dst v) w'):wpList P ops Q (op :: rest) a w:=
 Xi b λK c=>by
  unfold VT U5;simp only[ho,f,d,UV,e,Vm,Wt];exact c _ _ h
theorem Gj(b:op.guard=none)(T:U8)(m k u:XI)(ho:op.op=.mapUpdate T m k u)(g:a.eval m=x)(d:a.eval k=y)(e:a.eval u=z)(f:(Y4 T x y z).run P w=.ok () w')(h:wpList P ops Q rest (a.put op.dst WR) w'):wpList P ops Q (op :: rest) a w:=
 Xi b λK c=>by
  unfold VT U5;simp only[ho,g,d,e,UV,f,Vm,Wt];exact c _ _ h
theorem lK(k:op.guard=none)(s u:XI)(t:U8)(ho:op.op=.call { callee:=.builtin .append,args:=#[s,u],argTypes:=#[t,t] })(e:a.eval s=x)(c:a.eval u=y)(d:(Vt #[t,t] op.type #[x,y]).run P w=.ok v w')(h:wpList P ops Q rest (a.put op.dst v) w'):wpList P ops Q (op :: rest) a w:=
 Xi k λK b=>by
  unfold VT U5;simp only[ho,resolve,invoke,builtin,UV,Wt,Vm,yA3,XX,yBF,e,c,d];exact b _ _ h
end
def zT:List Ut:=[uZ 0,uZ 0,uZ 0,uZ 0]++z33
theorem GB{b k:Nat}{e:U8}{s:Nat}{v:Ut}(h:W.ownsRow b e s v k xs):∃q cap,v=.slice q k cap:=by
 rcases h.2 with⟨rfl,rfl⟩|⟨g,cap,cur,rfl,-⟩
 ·exact⟨none,0,rfl⟩
 ·exact⟨some (aZ g),cap,rfl⟩
theorem AV(ns:Nat->Nat)(k:Nat->Bs):∀i,(mrg N ns k i).length<=i
 | 0=>Uw _
 | i+1=>by
  have b:=AV ns k i;have h:∀(l:List (Nat × Bs)) n p,(fA N l n p).length<=l.length+1:=by
   intro l n p;induction l with
   | nil=>exact Uw _
   | cons x r ihr =>
    unfold fA;split
    ·simp
    ·simp only[Vj];omega
  exact UC (h _ _ _) oM
theorem xF(ns:Nat->Nat)(c:Nat->Bs){k:Nat}(d:∀j,j<k->(c j).size=33):∀i,i<=k->∀x∈(mrg N ns c i).map (·.2),x.size=33
 | 0,_=>λx hx=>by cases hx
 | i+1,hi=>by
  have f:=xF ns c d i oM;have h:∀(l:List (Nat × Bs)) n p,p.size=33->(∀x∈l.map (·.2),x.size=33)->∀x∈(fA N l n p).map (·.2),x.size=33:=by
   intro l n p g;induction l with
   | nil=>intro _ x hx;simp[fA]at hx;rw[hx];exact g
   | cons y r ihr =>
    intro b x hx;unfold fA at hx;split at hx
    ·exact b x (by simpa using hx)
    ·rw[XX,VX]at hx;rcases hx with hx|hx
     ·exact b x (by rw[hx];simp)
     ·exact ihr (λz e=>b z (Vb _ e)) x hx
  exact h _ _ _ (d i oM) f
theorem lD:∀(l:List (Nat × Bs)),(∀x∈l.map (·.2),x.size=33)->∀(j:Nat) (k:j<l.length) (t:Nat),t<37->(aU l)[37*j+t]? = (wn (l[j]).1++aA (l[j]).2)[t]?
 | [],_,j,k,_,_=>by cases k
 | x :: r,hs,j,k,t,ht=>by
  have hx:(wn x.1++aA x.2).length=37:=by rw[UA,aB (hs x.2 (by simp))];rfl
  have e:aU (x :: r)=(wn x.1++aA x.2)++aU r:=by unfold aU;rw[ZA]
  rw[e];cases j with
  | zero =>
   rw[ZR,UD,UT oM];rfl
  | succ j =>
   rw[U1 oM,hx,show 37*(j+1)+t-37=37*j+t by omega,lD r (λy b=>hs y (Vb _ b)) j (by simpa using k) t ht];rfl
theorem sH{k:Nat}{v:Ut}{l:List (Nat × Bs)}(h:W.ownsRow k 226 37 v l.length (aU l))(d:∀x∈l.map (·.2),x.size=33)(q:0<l.length):
 ∃g cap,v=sZ g l.length cap/\k<=g/\g<W.heap.size/\∀j (b:j<l.length),W.rangeAt g (37*j) (wn (l[j]).1++aA (l[j]).2):=by
 have o:=h;rcases h.2 with⟨-,f⟩|⟨g,cap,cur,rfl,n,f,p⟩
 ·omega
 ·refine⟨g,cap,rfl,n,(UZ.1 f).1,λj b t u c=>?_⟩;have m:t<37:=by
   have:=(UF.1 c).1;rw[UA,aB (d _ (Vn.2 ⟨_,VH b,rfl⟩))]at this;exact this
  have i:=o.cells (g:=g) rfl (37*j+t) u (by rw[lD l d j b t m];exact c);have e:(⟨g,0,none⟩:Ww).add (37*j+t)=⟨g,37*j+t,none⟩:=by
   unfold Zk;split
   ·rename_i h;rw[h]
   ·simp
  rw[e]at i;exact i
end
section
open Go.RowKit Go.Sort Go.Deep
variable {P:Nat}[NeZero P]{N:Nat}
theorem Oj(w:Ur):(zeroValue 226).run prog w=.ok (.agg zT.toArray) w:=kR
theorem Ol:∀v∈zT,v.oneCell'=true:=by
 intro v hv;unfold zT z33 at hv;rcases WB.1 hv with h|h
 ·simp only[VX,UY,or_false]at h;rcases h with rfl|rfl|rfl|rfl<;>rfl
 ·rw[(List.mem_replicate.1 h).2];rfl
end
namespace RG
open Go Go.RowKit
variable {P:VD}{ops:Array Vk}{Q:Yq->Act->Ur->Prop}{w:Ur}{a0:Act}{L:Array Bool}
structure Flow where
 R:Nat->Ut->Ur->Prop
 B:Nat->Ur->Prop
 E:Nat->Ur->Ur->Prop
 kill:Nat->List Nat
 killB:Nat->List Nat
def aX(k:Array Vk)(i:Nat):Option WF:=(k[i]?).bind (·.dst)
def depOn(b:Array Vk)(x k:Nat):Bool:=match b[x]? with|some o=>dB o k|none=>true
def okK(b:Array Vk)(k:Nat)(l:List Nat):Bool:=l.all (λx=>x == k || depOn b x k)
def oY(b:Array Vk)(k:Nat)(t:WF):Bool:=(VG b.size).all (λi=>aX b i != some t || i == k || depOn b i k)
structure InvF(F:Flow)(ops:Array Vk)(a0:Act)(L:Array Bool)(a:Act)(w:Ur):Prop where
 size:L.size=ops.size
 cl:∀(i:Nat) (o:Vk),ops[i]? = some o->on L i=true->∀e∈o.after,VP .any e=true->on L e.on=true
 def':a.defers=a0.defers
 sz:a.tmps.size=a0.tmps.size
 rest:∀t:WF,(∀i,on L i=true->aX ops i≠some t)->a.tmps[t]? = a0.tmps[t]?
 all:∃V:Nat->Ut,(∀i d,on L i=true->aX ops i=some d->a.tmps[d]? = some (V i))/\(∀i,on L i=true->(∀x∈F.kill i,on L x=false)->F.R i (V i) w)
 base:∀b,(∀x∈F.killB b,on L x=false)->F.B b w
def bF(P:VD)(Q:Yq->Act->Ur->Prop)(F:Flow)(c:Array Vk)(a0:Act)(k:Nat)(o:Vk):Prop:=
 ∀(a:Act) (w:Ur) (K:Act->Ur->Prop),
  (∀j d,dB o j=true->okK c k (F.kill j)=true->aX c j=some d->F.R j (a.eval (.tmp d)) w) ->
  (∀t,oY c k t=true->a.eval (.tmp t)=a0.eval (.tmp t)) ->
  (∀b,okK c k (F.killB b)=true->F.B b w) ->
  (∀v w',F.E k w w'->F.R k v w'->K (a.put o.dst v) w')->o.wp P a w K Q
def Aq(P:VD)(Q:Yq->Act->Ur->Prop)(F:Flow)(b:Array Vk)(a0:Act)(k:Nat)(o:Vk):Prop:=
 match o.guard with
 | none=>bF P Q F b a0 k o
 | some (j,want)=>dB o j=true/\(aX b j).isSome=true/\okK b k (F.kill j)=true /\
  (((∀v w,F.R j v w->v=.bool want)/\bF P Q F b a0 k o)\/((∀v w,F.R j v w->v=.bool (!want))/\∀w,F.E k w w/\F.R k WR w))
def Be(k:Array Vk)(n:Nat):Bool:=
 (VG k.size).all (λi=>match k[i]? with
  | some o=>o.after.all (λe=>!VP .any e || e.on<i) && (match o.dst with|none=>true|some d=>decide (d<n) && (VG k.size).all (λj=>j == i || aX k j != some d))
  | none=>false)
structure RegF(P:VD)(Q:Yq->Act->Ur->Prop)(F:Flow)(ops:Array Vk)(a0:Act)(m:Nat):Prop where
 chk:Be ops a0.tmps.size=true
 cert:∀k o,k<m->ops[k]? = some o->Aq P Q F ops a0 k o
 stab:∀i j,i<m->j<m->i≠j->(F.kill j).contains i=false->depOn ops j i=false->∀v w w',F.E i w w'->F.R j v w->F.R j v w'
 stabB:∀i b,i<m->(F.killB b).contains i=false->∀w w',F.E i w w'->F.B b w->F.B b w'
variable {F:Flow}{m:Nat}
theorem RegF.of{k:Nat}(h:RegF P Q F ops a0 m)(ho:ops[k]? = some o):(∀e∈o.after,VP .any e=true->e.on<k)/\∀d,o.dst=some d->d<a0.tmps.size/\∀j,aX ops j=some d->j=k:=by
 have i:=(UZ.1 ho).1;have f:=Va.1 h.chk k (V0.2 i);rw[ho]at f;simp only[UL]at f;obtain⟨n,c⟩:=f;refine⟨λe l p=>?_,λd hd=>?_⟩
 ·have:=Xa.1 n e l;simpa[p]using this
 ·rw[hd]at c;simp only[UL,decide_eq_true_eq]at c;refine⟨c.1,λj b=>?_⟩;have g:j<ops.size:=by
   unfold aX at b;cases hx:ops[j]? with
   | none=>rw[hx]at b;cases b
   | some x=>exact(UZ.1 hx).1
  have:=Va.1 c.2 j (V0.2 g);simpa[b]using this
theorem eX(ho:ops[i]? = some o):aX ops i=o.dst:=by unfold aX;rw[ho];rfl
theorem Ba{a:Act}{x k:Nat}(h:InvF F ops a0 L a w){ho:ops[x]? = some o}(hd:dB o k=true)(hx:on L x=true):on L k=true:=by
 obtain⟨e,c,b⟩:=XQ.1 hd;simp only[UL,beq_iff_eq]at b;rw[<-b.2];exact h.cl x o ho hx e c b.1
theorem zV{L:Array Bool}{x:Nat}(h:on L x=true):x<L.size:=by
 rcases Ws x L.size with k|k
 ·exact k
 ·unfold on at h;rw[UI,Array.getElem?_eq_none k]at h;cases h
theorem InvF.nt{k:Nat}{a:Act}(e:on L k=false)(h:InvF F ops a0 L a w)(x:Nat)(hx:(x == k || depOn ops x k)=true):on L x=false:=by
 cases b:on L x with
 | false=>rfl
 | true =>
  rcases Xx _ _ ▸ hx with c|c
  ·rw[show x=k by simpa using c,e]at b;cases b
  ·unfold depOn at c;have f:x<ops.size:=by rw[<-h.size];exact zV b
   have d:=U0 f;rw[d]at c;have:=Ba (ho:=d) h c b;rw[e]at this;cases this
theorem InvF.nx{k:Nat}{a:Act}{v:Ut}{w':Ur}(R:RegF P Q F ops a0 m)(y:k<m)(H:∀i,on L i=true->i<m)(ho:ops[k]? = some o)(J:on L k=false)(r:∀e∈o.after,VP .any e=true->on L e.on=true)(h:InvF F ops a0 L a w)(hE:F.E k w w')(hR:F.R k v w'):InvF F ops a0 (L.setIfInBounds k true) (a.put o.dst v) w':=by
 obtain⟨E,n⟩:=R.of ho;have D:=(UZ.1 ho).1;have G:k<L.size:=by rw[h.size];exact D
 have A:=eX ho;have q:=λx hx=>h.nt J x hx
 obtain⟨V,C,K⟩:=h.all;have f:∀x,on (L.setIfInBounds k true) x=(on L x || k == x):=λx=>eC G
 refine⟨by rw[VF];exact h.size,λi O p j e N z=>?_,?_,?_,λt M=>?_,⟨λx=>if x=k then v else V x,λi d j hd=>?_,λi j s=>?_⟩,λb z=>?_⟩
 ·rw[f]at j⊢;by_cases c:k=i
  ·subst c;rw[ho]at p;obtain rfl:=UO.inj p;rw[r e N z,Yb]
  ·rw[h.cl i O p (by simpa[c]using j) e N z,Yb]
 ·rw[<-h.def'];cases o.dst<;>rfl
 ·rw[qS];exact h.sz
 ·have u:o.dst≠some t:=λhd=>M k (by rw[f];simp) (by rw[A];exact hd)
  rw[nW a v u];exact h.rest t λi j=>M i (by rw[f,j,Yb])
 ·rw[f]at j;by_cases c:i=k
  ·subst c;rw[A]at hd;rw[hd];show(a.tmps.setIfInBounds d v)[d]? = some (if i=i then v else V i);rw[yCl (rfl:i=i)];rw[WE,yCl rfl,yCl (by rw[h.sz];exact(n d hd).1)]
  ·have l:o.dst≠some d:=λB=>c ((n d B).2 i hd)
   rw[nW a v l];show _=some (if i=k then v else V i);rw[yCm c];have g:¬k=i:=λe=>c e.symm
   exact C i d (by simpa[g]using j) hd
 ·rw[f]at j;by_cases c:i=k
  ·subst c;show F.R i (if i=i then v else V i) w';rw[yCl rfl];exact hR
  ·show F.R i (if i=k then v else V i) w';rw[yCm c];have g:¬k=i:=λe=>c e.symm
   have l:on L i=true:=by simpa[g]using j
   have u:∀x∈F.kill i,on L x=false:=λx hx=>by
    have:=s x hx;rw[f,yAv]at this;exact this.1
   have I:(F.kill i).contains k=false:=by
    cases B:(F.kill i).contains k with
    | false=>rfl
    | true =>
     have:=s k (by simpa using B);rw[f]at this;simp at this
   have S:depOn ops i k=false:=by
    cases B:depOn ops i k with
    | false=>rfl
    | true=>rw[q i (by rw[B,Bool.or_true])]at l;cases l
   exact R.stab k i y (H i l) (YD c) I S _ _ _ hE (K i l u)
 ·have u:∀x∈F.killB b,on L x=false:=λx hx=>by
   have:=z x hx;rw[f,yAv]at this;exact this.1
  have I:(F.killB b).contains k=false:=by
   cases B:(F.killB b).contains k with
   | false=>rfl
   | true =>
    have:=z k (by simpa using B);rw[f]at this;simp at this
  exact R.stabB k b y I _ _ hE (h.base b u)
theorem Ey{k:Nat}{a:Act}(R:RegF P Q F ops a0 m)(D:k<m)(M:∀i,on L i=true->i<m)(ho:ops[k]? = some o)(A:on L k=false)(r:∀e∈o.after,VP .any e=true->on L e.on=true)(h:InvF F ops a0 L a w):
 wpOp P ops Q k (InvF F ops a0 (L.setIfInBounds k true)) a w:=by
 obtain⟨J,W⟩:=R.of ho;have I:=(UZ.1 ho).1;have X:k<L.size:=by rw[h.size];exact I
 have Z:=eX ho;have g:=λx hx=>h.nt A x hx
 obtain⟨V,H,S⟩:=h.all;have s:∀j d,dB o j=true->okK ops k (F.kill j)=true->aX ops j=some d->a.tmps[d]? = some (V j)/\F.R j (V j) w:=λj d G q hd=>by
  obtain⟨e,f,u⟩:=XQ.1 G;simp only[UL,beq_iff_eq]at u;have c:on L j=true:=by rw[<-u.2];exact r e f u.1
  exact⟨H j d c hd,S j c λx hx=>g x (Va.1 q x hx)⟩
 have p:∀j d,dB o j=true->okK ops k (F.kill j)=true->aX ops j=some d->F.R j (a.eval (.tmp d)) w:=λj d G q hd=>by
  rw[A7 (s j d G q hd).1];exact(s j d G q hd).2
 have n:∀t,oY ops k t=true->a.eval (.tmp t)=a0.eval (.tmp t):=λt hf=>by
  have y:=h.rest t λi c hd=>by
   have f:i<ops.size:=by rw[<-h.size];exact zV c
   have l:=Va.1 hf i (V0.2 f);rw[hd]at l;have z:(i == k || depOn ops i k)=true:=by simpa using l
   rw[g i z]at c;cases c
  show a.tmps.getD t WR=a0.tmps.getD t WR;rw[UI,UI,y]
 have l:∀b,okK ops k (F.killB b)=true->F.B b w:=λb u=>h.base b λx hx=>g x (Va.1 u x hx)
 have f:=λv w' hE hR=>h.nx (v:=v) (w':=w') R D M ho A r hE hR
 have C:=R.cert k o D ho;unfold Aq at C;unfold wpOp;rw[ho];dsimp only;cases E:o.guard with
 | none =>
  rw[E]at C;rw[BC E,yCl rfl];left;exact C a w _ p n l f
 | some jw =>
  obtain⟨j,c⟩:=jw;rw[E]at C;obtain⟨K,N,O,y⟩:=C;obtain⟨d,hd⟩:=Vr.1 N;obtain⟨Y,z⟩:=s j d K O hd;have U:∀b,V j=.bool b->V4 o (yielded ops a.tmps)=(b == c):=λb u=>by
   have T:yielded ops a.tmps j=some b:=by
    unfold aX at hd;unfold yielded;cases B:ops[j]? with
    | none=>rw[B]at hd;cases hd
    | some oj =>
     rw[B]at hd;show(match oj.dst.bind (a.tmps[·]?) with|some (.bool b)=>some b|_=>none)=_;rw[show oj.dst=some d from hd];show(match a.tmps[d]? with|some (.bool b)=>some b|_=>none)=_;rw[Y,u]
   unfold V4;rw[E];show(yielded ops a.tmps j == some c)=_;rw[T];cases b<;>cases c<;>rfl
  rcases y with⟨T,hc⟩|⟨T,B⟩
  ·rw[U _ (T _ _ z),show(c == c)=true by cases c<;>rfl,yCl rfl];left;exact hc a w _ p n l f
  ·rw[U _ (T _ _ z),show((!c) == c)=false by cases c<;>rfl];exact f WR w (B w).1 (B w).2
def bU(V:Nat->Ut):List Vk->Nat->Act->Act
 | [],_,a=>a
 | o :: r,i,a=>bU V r (i+1) (a.put o.dst (V i))
theorem nF(V:Nat->Ut):∀(l:List Vk) (i:Nat) (a:Act),(bU V l i a).defers=a.defers
 | [],_,_=>rfl
 | o :: r,i,a=>by
  rw[bU,nF V r];cases o.dst<;>rfl
theorem lY(V:Nat->Ut):∀(l:List Vk) (i:Nat) (a:Act) (t:WF),(∀o∈l,o.dst≠some t)->(bU V l i a).tmps[t]? = a.tmps[t]?
 | [],_,_,_,_=>rfl
 | o :: r,i,a,t,h=>by
  rw[bU,lY V r _ _ t (λx hx=>h x (Vb _ hx)),nW a _ (h o Vu)]
theorem rX(V:Nat->Ut):∀(l:List Vk) (i:Nat) (a:Act) (j:Nat) (o:Vk) (d:WF),l[j]? = some o->o.dst=some d->(∀k b,l[k]? = some b->b.dst=some d->k=j)->d<a.tmps.size->(bU V l i a).tmps[d]? = some (V (i+j))
 | [],_,_,_,_,_,h,_,_,_=>by simp at h
 | x :: r,i,a,0,o,d,h,hd,hu,hs=>by
  obtain rfl:x=o:=by simpa using h
  rw[bU,lY V r _ _ d (λy f e=>by
   obtain⟨k,c⟩:=WM f;have:=hu (k+1) y (by simpa using c) e;omega),hd]
  show(a.tmps.setIfInBounds d _)[d]? = _;rw[WE,yCl rfl,yCl hs];rfl
 | x :: r,i,a,j+1,o,d,h,hd,hu,hs=>by
  rw[bU,rX V r (i+1) _ j o d (by simpa using h) hd (λk b e c=>by
   have:=hu (k+1) b (by simpa using e) c;omega) (by rw[qS];exact hs)]
  congr 2
  omega
theorem InvF.done{a:Act}(R:RegF P Q F ops a0 m)(h:InvF F ops a0 L a w)(k:∀i,i<ops.size->on L i=true)
 (n:∀(V:Nat->Ut),(∀i,i<ops.size->F.kill i=[]->F.R i (V i) w)->(∀b,F.killB b=[]->F.B b w)->Q .normal (bU V ops.toList 0 a0) w):Q .normal a w:=by
 obtain⟨V,d,j⟩:=h.all;have e:a=bU V ops.toList 0 a0:=by
  refine Act.ext' ?_ (by rw[nF];exact h.def');apply yAH;intro t;by_cases f:∃(i:Nat) (o:Vk),ops[i]? = some o/\o.dst=some t
  ·obtain⟨i,o,ho,hd⟩:=f;rw[d i t (k i (UZ.1 ho).1) (by rw[eX ho];exact hd)];rw[rX V ops.toList 0 a0 i o t (by rw[Vq];exact ho) hd (λl p c g=>((R.of ho).2 t hd).2 l (by rw[Vq]at c;rw[eX c];exact g)) ((R.of ho).2 t hd).1,UD]
  ·rw[h.rest t (λi c hd=>?_),lY V ops.toList 0 a0 t (λo g hd=>?_)]
   ·obtain⟨i,c⟩:=WM g;rw[Vq]at c;exact f ⟨i,o,c,hd⟩
   ·unfold aX at hd;cases hx:ops[i]? with
    | none=>rw[hx]at hd;cases hd
    | some x=>rw[hx]at hd;exact f ⟨i,x,hx,hd⟩
 rw[e];exact n V (λi c g=>j i (k i c) (by rw[g];simp)) (λb f=>h.base b (by rw[f];simp))
theorem InvF.full{a:Act}(R:RegF P Q F ops a0 m)(h:InvF F ops a0 L a w)(d:U7 .any ops L=[]):∀i,i<ops.size->on L i=true:=by
 intro i;induction i using Nat.strongRecOn with
 | ind i ih =>
  intro c;have ho:ops[i]? = some ops[i]:=U0 _;cases k:on L i with
  | true=>rfl
  | false =>
   have:i∈U7 .any ops L:=mem_ready.2 ⟨?_,_,ho,λe f g=>?_⟩
   ·rw[d]at this;cases this
   ·unfold on at k;rw[UI,U0 (by rw[h.size];exact c)]at k⊢;exact k
   ·have b:=(R.of ho).1 e f g;exact ih e.on b (Nat.lt_trans b c)
theorem qG(F:Flow)(q:P.follows .mixedOrders=true)(R:RegF P Q F ops a0 ops.size)(r:∀b,F.B b w.drew)
 (n:∀(V:Nat->Ut) (w':Ur),(∀i,i<ops.size->F.kill i=[]->F.R i (V i) w')->(∀b,F.killB b=[]->F.B b w')->Q .normal (bU V ops.toList 0 a0) w'):(V6 id ops true).wp P Q a0 w:=by
 have key:∀(c:Nat) (L:Array Bool) (a:Act) (w:Ur),unl L=c->InvF F ops a0 L a w->wpAny P .any ops Q c L a w:=by
  intro c;induction c with
  | zero =>
   intro L a w m f;have k:∀i,i<ops.size->on L i=true:=λi g=>kN m i (by rw[f.size];exact g)
   refine⟨?_,f.done R k (λV=>n V w)⟩;apply ZL.2;intro i g;obtain⟨e,o,ho,-⟩:=mem_ready.1 g;have j:=k i (UZ.1 ho).1;unfold on at j;rw[UI]at e j;cases hh:L[i]? with
   | none=>rw[hh]at e;cases e
   | some b=>rw[hh]at e j;rw[show b=false from e]at j;cases j
  | succ c ih =>
   intro L a w m f;refine⟨λp=>f.done R (f.full R p) (λV=>n V w),λi g=>?_⟩;obtain⟨e,o,ho,j⟩:=mem_ready.1 g;have k:on L i=false:=by
    unfold on;rw[UI]at e⊢;cases hh:L[i]? with
    | none=>rfl
    | some b=>rw[hh]at e;exact e
   exact ZB (λs w' l=>ih _ s w' (by have:=lN e;omega) l) (Ey R (UZ.1 ho).1 (λi g=>by rw[<-f.size];exact zV g) ho k j f)
 have k:∀i,on (UJ ops.size false) i=false:=λi=>by
  unfold on;rw[UI,Yi];by_cases h:i<ops.size
  ·rw[yCl h];rfl
  ·rw[yCm h];rfl
 refine yB9 q (key _ _ a0 _ ?_ ⟨UP,(λi o _ h=>by rw[k]at h;cases h),rfl,rfl,λ_ _=>rfl,⟨λ_=>WR,λi d h=>(by rw[k]at h;cases h),λi h=>(by rw[k]at h;cases h)⟩,λb _=>r b⟩);unfold unl;rw[Y5,yAo];simp
structure PreF(F:Flow)(ops:Array Vk)(a0:Act)(k:Nat)(o:Vk)(a:Act)(w:Ur):Prop where
 n:∀j d,dB o j=true->okK ops k (F.kill j)=true->aX ops j=some d->F.R j (a.eval (.tmp d)) w
 o:∀t,oY ops k t=true->a.eval (.tmp t)=a0.eval (.tmp t)
 b:∀b,okK ops k (F.killB b)=true->F.B b w
def iK(P:VD)(Q:Yq->Act->Ur->Prop)(F:Flow)(b:Array Vk)(a0:Act):Nat->List Vk->Prop
 | _,[]=>True
 | k,o :: r=>Aq P Q F b a0 k o/\iK P Q F b a0 (k+1) r
theorem yJ:∀(l:List Vk) (i:Nat),iK P Q F ops a0 i l->∀k o,l[k]? = some o->Aq P Q F ops a0 (i+k) o
 | [],_,_,k,o,h=>by simp at h
 | x :: r,i,hc,0,o,h=>by
  obtain rfl:x=o:=by simpa using h
  exact hc.1
 | x :: r,i,hc,k+1,o,h=>by
  have:=yJ r (i+1) hc.2 k o (by simpa using h);rwa[show i+1+k=i+(k+1) by omega]at this
theorem CC(h:iK P Q F ops a0 0 ops.toList):∀k o,k<ops.size->ops[k]? = some o->Aq P Q F ops a0 k o:=λk o _ ho=>by
 have:=yJ ops.toList 0 h k o (by rw[Vq];exact ho);rwa[UD]at this
def evo(ev:WF->Ut):XI->Ut
 | .tmp t=>ev t
 | .const v=>v
 | .global g=>jZ g
 | .func f=>.func (.func f) #[] #[]
def dA(T:List WF)(o:Vk):Bool:=
 (match o.op with | .select _ _=>false|_=>true) && o.op.operands.all (λx=>match x with | .tmp t=>T.contains t|_=>true)
theorem iU{a:Act}(ev:WF->Ut)(T:List WF)(h:dA T o=true)(k:∀t∈T,a.eval (.tmp t)=ev t):U5 a.eval o=U5 (evo ev) o:=by
 simp only[dA,UL]at h;refine execOp_congr o (λcs b k=>?_) (λx hx=>?_)
 ·rw[k]at h;exact absurd h.1 (by simp)
 ·have c:=Xa.1 h.2 x hx;cases x with
  | tmp t=>exact k t (by simpa using c)
  | const v=>rfl
  | global g=>rfl
  | func f=>rfl
theorem mH{k:Nat}(h:∀(a:Act) (w:Ur),PreF F ops a0 k o a w->∃v w',(U5 a.eval o).run P w=.ok (.value v) w'/\F.E k w w'/\F.R k v w'):bF P Q F ops a0 k o:=by
 intro a w K b e c f;obtain⟨v,w',d,hE,hR⟩:=h a w ⟨b,e,c⟩;unfold VT;rw[d];exact f v w' hE hR
theorem mI{k:Nat}(t:WF)(h:∀(a:Act) (w:Ur),PreF F ops a0 k o a w->∃v w',(dA [t] o=true)/\(U5 (evo λ_=>a.eval (.tmp t)) o).run P w=.ok (.value v) w'/\F.E k w w'/\F.R k v w'):bF P Q F ops a0 k o:=by
 refine mH λa w d=>?_
 obtain⟨v,w',c,b,hE⟩:=h a w d;refine⟨v,w',?_,hE⟩;rw[iU (λ_=>a.eval (.tmp t)) [t] c (λx hx=>by rw[show x=t by simpa using hx])];exact b
theorem FH{k:Nat}(t:WF)(h:∀(a:Act) (w:Ur),PreF F ops a0 k o a w->∃f args,(dA [t] o=true)/\(U5 (evo λ_=>a.eval (.tmp t)) o).run P w=.ok (.enter f args) w/\UH P f args w (Ret λe w'=>F.E k w w'/\F.R k e w')):bF P Q F ops a0 k o:=by
 intro a w K i g j c;obtain⟨f,args,d,b,l⟩:=h a w ⟨i,g,j⟩;unfold VT;rw[iU (λ_=>a.eval (.tmp t)) [t] d (λx hx=>by rw[show x=t by simpa using hx]),b,Xb];refine l.mono ?_;rintro e w' ⟨v,rfl,hE,hR⟩;exact c _ _ hE hR
theorem Bg{k:Nat}(T:U8)(t:WF)(ho:o.op=.load T (.tmp t))(b:(P.underlying T).map (·.isRow)=some true)
 (h:∀(a:Act) (w:Ur),PreF F ops a0 k o a w->∃g off cs,a.eval (.tmp t)=oZ g off/\w.rangeAt g off cs/\(P.info? T).map (·.size)=some cs.length/\F.E k w w/\F.R k (.agg cs.toArray) w):bF P Q F ops a0 k o:=by
 intro a w K j i l f;obtain⟨g,off,cs,e,c,m,hE,hR⟩:=h a w ⟨j,i,l⟩;obtain⟨d,b,hd⟩:=Uy.1 b;exact wp_load_mid T (.tmp t) ho g off e cs d c b hd m (f _ _ hE hR)
theorem JU{k:Nat}(s u:WF)(t:U8)(ho:o.op=.call { callee:=.builtin .append,args:=#[.tmp s,.tmp u],argTypes:=#[t,t] })
 (h:∀(a:Act) (w:Ur),PreF F ops a0 k o a w->∃v w',(Vt #[t,t] o.type #[a.eval (.tmp s),a.eval (.tmp u)]).run P w=.ok v w'/\F.E k w w'/\F.R k v w'):bF P Q F ops a0 k o:=by
 intro a w K e d f c;obtain⟨v,w',b,hE,hR⟩:=h a w ⟨e,d,f⟩;unfold VT U5;simp only[ho,resolve,invoke,builtin,UV,Wt,Vm,yA3,XX,yBF,b];exact c _ _ hE hR
theorem tB(h:iK P Q F ops a0 0 (ops.toList.take m)):∀k o,k<m->ops[k]? = some o->Aq P Q F ops a0 k o:=λk o b ho=>by
 have:=yJ (ops.toList.take m) 0 h k o (by rw[WC,yCl b,Vq];exact ho);rwa[UD]at this
theorem InvF.act{a:Act}(R:RegF P Q F ops a0 m)(h:InvF F ops a0 L a w)(l:m<=ops.size)(c:∀i,on L i=true↔i<m){V:Nat->Ut}(e:∀i d,on L i=true->aX ops i=some d->a.tmps[d]? = some (V i)):a=bU V (ops.toList.take m) 0 a0:=by
 refine Act.ext' ?_ (by rw[nF];exact h.def');apply yAH;intro t;by_cases f:∃(i:Nat) (o:Vk),i<m/\ops[i]? = some o/\o.dst=some t
 ·obtain⟨i,o,b,ho,hd⟩:=f;rw[e i t ((c i).2 b) (by rw[eX ho];exact hd)];rw[rX V (ops.toList.take m) 0 a0 i o t (by rw[WC,yCl b,Vq];exact ho) hd (λj n k g=>((R.of ho).2 t hd).2 j (by
   rw[WC]at k;split at k
   ·rw[Vq]at k;rw[eX k];exact g
   ·cases k)) ((R.of ho).2 t hd).1,UD]
 ·rw[h.rest t (λi k hd=>?_),lY V (ops.toList.take m) 0 a0 t (λo g hd=>?_)]
  ·obtain⟨i,k⟩:=WM g;rw[WC]at k;split at k
   ·rename_i b
    rw[Vq]at k;exact f ⟨i,o,b,k,hd⟩
   ·cases k
  ·unfold aX at hd;cases hx:ops[i]? with
   | none=>rw[hx]at hd;cases hd
   | some x=>rw[hx]at hd;exact f ⟨i,x,(c i).1 k,hx,hd⟩
theorem GN(F:Flow)(n:Nat)(N:ops.size=n+1)(hd:(VG n).all (λj=>depOn ops n j || (VG n).any (λi=>depOn ops n i && depOn ops i j))=true)(O:P.follows .mixedOrders=true)(R:RegF P Q F ops a0 n)(W:∀b,F.B b w.drew)
 (Y:∀(V:Nat->Ut) (w':Ur),(∀i,i<n->F.kill i=[]->F.R i (V i) w')->(∀b,F.killB b=[]->F.B b w')->wpList P ops Q (ops.toList.drop n) (bU V (ops.toList.take n) 0 a0) w'):(V6 id ops true).wp P Q a0 w:=by
 have key:∀(c:Nat) (L:Array Bool) (a:Act) (w:Ur),unl L=c->on L n=false->InvF F ops a0 L a w->wpAny P .any ops Q c L a w:=by
  intro c;induction c with
  | zero =>
   intro L a w M k p;have:=kN M n (by rw[p.size];omega);rw[k]at this;cases this
  | succ c ih =>
   intro L a w M k p;refine⟨λB=>?_,λi U=>?_⟩
   ·have:=p.full R B n oM;rw[k]at this;cases this
   ·obtain⟨r,o,ho,s⟩:=mem_ready.1 U;have J:=(UZ.1 ho).1;have E:on L i=false:=by
     unfold on;rw[UI]at r⊢;cases hh:L[i]? with
     | none=>rfl
     | some b=>rw[hh]at r;exact r
    by_cases y:i=n
    ·subst y;have q:∀j,on L j=true↔j<i:=λj=>by
      constructor
      ·intro m;have g:j<ops.size:=by rw[<-p.size];exact zV m
       rcases Ws j i with h|h
       ·exact h
       ·obtain rfl:j=i:=oM;rw[k]at m;cases m
      ·intro m;have t:∀j,depOn ops i j=true->on L j=true:=λj g=>by
        unfold depOn at g;rw[ho]at g;obtain⟨e,u,A⟩:=XQ.1 g;simp only[UL,beq_iff_eq]at A;have:=s e u A.1;rw[A.2]at this;exact this
       have g:=Va.1 hd j (V0.2 m);rw[Xx]at g;rcases g with g|g
       ·exact t j g
       ·obtain⟨x,hx,D⟩:=List.any_eq_true.1 g;rw[UL]at D;have z:=t x D.1;have C:x<ops.size:=by have:=V0.1 hx;omega
        have u:=U0 C;have v:=D.2;unfold depOn at v;rw[u]at v;exact Ba (ho:=u) p v z
     obtain⟨V,D,I⟩:=p.all;have T:=p.act R oM q D;have z:∀l:List Nat,l=[]->∀x∈l,on L x=false:=λl S x hx=>by rw[S]at hx;cases hx
     have t:=Y V w (λj m X=>I j ((q j).2 m) (z _ X)) (λb A=>p.base b (z _ A));have u:ops.toList.drop i=[o]:=by
      have v:ops.toList.length=i+1:=by rw[UK];exact N
      rw[List.drop_eq_getElem_cons oM,List.drop_of_length_le oM];have:ops.toList[i]? = some o:=by rw[Vq];exact ho
      rw[UG oM]at this;rw[UO.inj this]
     rw[u,<-T]at t;have G:wpOp P ops Q i (λC w'=>Q .normal C w') a w:=by
      unfold wpOp;rw[ho];exact t
     refine ZB (λC w' K=>?_) G;have v:∀j,j<ops.size->on (L.setIfInBounds i true) j=true:=λj m=>by
      rw[eC (by rw[p.size];omega)];by_cases h:j<i
      ·rw[(q j).2 h,Yb]
      ·rw[show j=i by omega];simp
     have B:U7 .any ops (L.setIfInBounds i true)=[]:=by
      apply ZL.2;intro j m;obtain⟨r,Z,H,-⟩:=mem_ready.1 m;have g:=v j (UZ.1 H).1;unfold on at g;rw[UI]at r g;cases hh:(L.setIfInBounds i true)[j]? with
      | none=>rw[hh]at r;cases r
      | some b=>rw[hh]at r g;rw[show b=false from r]at g;cases g
     cases c with
     | zero=>exact⟨B,K⟩
     | succ f=>exact⟨λ_=>K,λj m=>by rw[B]at m;cases m⟩
    ·refine ZB (λC w' q=>ih _ C w' (by have:=lN r;omega) ?_ q) (Ey R oM (λj m=>?_) ho E s p)
     ·rw[eC (by rw[p.size];exact J),k];simpa using y
     ·have g:j<ops.size:=by rw[<-p.size];exact zV m
      rcases Ws j n with h|h
      ·exact h
      ·obtain rfl:j=n:=oM;rw[k]at m;cases m
 have k:∀i,on (UJ ops.size false) i=false:=λi=>by
  unfold on;rw[UI,Yi];by_cases h:i<ops.size
  ·rw[yCl h];rfl
  ·rw[yCm h];rfl
 refine yB9 O (key _ _ a0 _ ?_ (k n) ⟨UP,(λi o _ h=>by rw[k]at h;cases h),rfl,rfl,λ_ _=>rfl,⟨λ_=>WR,λi d h=>(by rw[k]at h;cases h),λi h=>(by rw[k]at h;cases h)⟩,λb _=>W b⟩);unfold unl;rw[Y5,yAo];simp
end RG
namespace RG
open Go Go.RowKit
variable {P:VD}{ops:Array Vk}{Q:Yq->Act->Ur->Prop}{w:Ur}{a0:Act}
def AllE(a:Act):List (WF × Ut)->Prop
 | []=>True
 | x :: r=>a.eval (.tmp x.1)=x.2/\AllE a r
def evl(k:List (WF × Ut))(t:WF):Ut:=match k.find? (λx=>x.1 == t) with|some x=>x.2|none=>WR
theorem AllE.mem{a:Act}:∀ {k:List (WF × Ut)},AllE a k->∀x∈k,a.eval (.tmp x.1)=x.2
 | [],_,x,hx=>by cases hx
 | y :: r,h,x,hx=>by
  rcases VX.1 hx with rfl|hx
  ·exact h.1
  ·exact AllE.mem h.2 x hx
theorem AllE.ev{a:Act}{k:List (WF × Ut)}(h:AllE a k):∀t∈k.map (·.1),a.eval (.tmp t)=evl k t:=λt c=>by
 obtain⟨x,hx,rfl⟩:=Vn.1 c;unfold evl;cases hf:k.find? (λy=>y.1 == x.1) with
 | none =>
  have:=List.find?_eq_none.1 hf x hx;simp at this
 | some y =>
  have b:=List.mem_of_find?_eq_some hf;have d:y.1=x.1:=by simpa using List.find?_some hf
  have:=h.mem y b;rw[d]at this;exact this
structure Gw where
 R:Nat->Ut->Ur->Prop
 B:Ur->Prop
 sR:∀i v w w',kZ w w'->R i v w->R i v w'
 sB:∀w w',kZ w w'->B w->B w'
def Gw.flow(G:Gw):Flow:=⟨G.R,λ_=>G.B,λ_ w w'=>kZ w w',λ_=>[],λ_=>[]⟩
structure PreG(G:Gw)(ops:Array Vk)(a0:Act)(k:Nat)(o:Vk)(a:Act)(w:Ur):Prop where
 n:∀j d,dB o j=true->aX ops j=some d->G.R j (a.eval (.tmp d)) w
 o:∀t,oY ops k t=true->a.eval (.tmp t)=a0.eval (.tmp t)
 b:G.B w
variable {G:Gw}
theorem rY{k:Nat}{a:Act}(h:PreF G.flow ops a0 k o a w):PreG G ops a0 k o a w:=⟨λj d b hd=>h.n j d b rfl hd,h.o,h.b 0 rfl⟩
theorem bN{k:Nat}(h:∀(a:Act) (w:Ur),PreG G ops a0 k o a w->∃(b:List (WF × Ut)) (v:Ut) (w':Ur),AllE a b/\(dA (b.map (·.1)) o,(U5 (evo (evl b)) o).run P w)=(true,.ok (.value v) w')/\kZ w w'/\G.R k v w'):bF P Q G.flow ops a0 k o:=
 mH λa w e=>by
  obtain⟨b,v,w',d,c,hE⟩:=h a w (rY e);simp only[V8.injEq]at c;refine⟨v,w',?_,hE⟩;rw[iU (evl b) (b.map (·.1)) c.1 d.ev];exact c.2
theorem gK{k:Nat}(h:∀(a:Act) (w:Ur),PreG G ops a0 k o a w->∃(b:List (WF × Ut)) (f:FuncId) (args:Array Ut),AllE a b/\(dA (b.map (·.1)) o,(U5 (evo (evl b)) o).run P w)=(true,.ok (.enter f args) w)/\UH P f args w (rZ w λe w'=>G.R k e w')):bF P Q G.flow ops a0 k o:=by
 intro a w K j i l g;obtain⟨b,f,args,d,c,m⟩:=h a w (rY ⟨j,i,l⟩);simp only[V8.injEq]at c;unfold VT;rw[iU (evl b) (b.map (·.1)) c.1 d.ev,c.2,Xb];refine m.mono ?_;rintro e w' ⟨v,rfl,hE,hR⟩;exact g _ _ hE hR
theorem iQ{k:Nat}(T:U8)(t:WF)(ho:o.op=.load T (.tmp t))(c:(P.underlying T).map (·.isRow)=some true)
 (h:∀(a:Act) (w:Ur),PreG G ops a0 k o a w->∃g off cs,a.eval (.tmp t)=oZ g off/\w.rangeAt g off cs/\(P.info? T).map (·.size)=some cs.length/\G.R k (.agg cs.toArray) w):bF P Q G.flow ops a0 k o:=
 Bg T t ho c λa w i=>by
  obtain⟨g,off,cs,b,e,d,f⟩:=h a w (rY i);exact⟨g,off,cs,b,e,d,UR _ _,f⟩
theorem Jo{k:Nat}(op:BinOp)(T b:U8)(t1 t2:WF)(ho:o.op=.binOp op T (.tmp t1) (.tmp t2) b)
 (h:∀(a:Act) (w:Ur),PreG G ops a0 k o a w->∃v1 v2 v,a.eval (.tmp t1)=v1/\a.eval (.tmp t2)=v2/\(eqGuard op T (.tmp t1) (.tmp t2) v1 v2).run P w=.ok () w/\(binOp op T v1 v2).run P w=.ok v w/\G.R k v w):bF P Q G.flow ops a0 k o:=
 mH λa w g=>by
  obtain⟨v1,v2,v,e,c,d,f,hR⟩:=h a w (rY g);refine⟨v,w,?_,UR _ _,hR⟩;unfold U5;rw[ho];dsimp only;rw[e,c,UV,UV,d];dsimp only[Result.andThen];rw[f];rfl
theorem Gw.reg{m:Nat}(c:Be ops a0.tmps.size=true)(h:iK P Q G.flow ops a0 0 (ops.toList.take m)):RegF P Q G.flow ops a0 m:=
 ⟨c,tB h,λi j _ _ _ _ _ v w w' hE hR=>G.sR j v w w' hE hR,λi b _ _ w w' hE k=>G.sB w w' hE k⟩
theorem Gw.draws(G:Gw)(e:P.follows .mixedOrders=true)(d:Be ops a0.tmps.size=true)(h:iK P Q G.flow ops a0 0 (ops.toList.take ops.size))(c:G.B w.drew)
 (g:∀(V:Nat->Ut) (w':Ur),(∀i,i<ops.size->G.R i (V i) w')->G.B w'->Q .normal (bU V ops.toList 0 a0) w'):(V6 id ops true).wp P Q a0 w:=
 qG G.flow e (Gw.reg d h) (λ_=>c) λV w' b f=>g V w' (λi k=>b i k rfl) (f 0 rfl)
theorem Gw.last(G:Gw)(n:Nat)(k:((ops.size == n+1) && (VG n).all (λj=>depOn ops n j || (VG n).any (λi=>depOn ops n i && depOn ops i j)))=true)(f:P.follows .mixedOrders=true)(e:Be ops a0.tmps.size=true)(h:iK P Q G.flow ops a0 0 (ops.toList.take n))(d:G.B w.drew)
 (l:∀(V:Nat->Ut) (w':Ur),(∀i,i<n->G.R i (V i) w')->G.B w'->wpList P ops Q (ops.toList.drop n) (bU V (ops.toList.take n) 0 a0) w'):(V6 id ops true).wp P Q a0 w:=by
 rw[UL,beq_iff_eq]at k;exact GN G.flow n k.1 k.2 f (Gw.reg e h) (λ_=>d) λV w' c g=>l V w' (λi b=>c i b rfl) (g 0 rfl)
end RG
section
open Go.RowKit Go.Sort Go.Deep
variable {P:Nat}[NeZero P]{N:Nat}
theorem BN{w:Ur}{o:Nat}{v:Ut}{cur:Array Ut}{e:U8}{z:Nat × Nat}(h:w.heap[g]? = some (.cells cur e z)):∃k:Array Ut,(w.setCell ⟨g,o,none⟩ v).heap[g]? = some (.cells k e z)/\k.size=cur.size:=by
 have b:=(UZ.1 h).1;refine⟨cur.setIfInBounds o v,?_,VF ..⟩;have c:w.heap[g]=.cells cur e z:=by rw[U0 b]at h;exact UO.inj h
 simp[World.setCell,Array.getElem_modify,b,c]
theorem qN{e:U8}{z:Nat × Nat}:∀(vs:List Ut) (o:Nat) (w:Ur) (cur:Array Ut),w.heap[g]? = some (.cells cur e z)->∃k:Array Ut,(w.setCells g o vs).heap[g]? = some (.cells k e z)/\k.size=cur.size
 | [],_,_,cur,h=>⟨cur,h,rfl⟩
 | v :: r,o,w,cur,h=>by
  obtain⟨c1,b,f⟩:=BN (o:=o) (v:=v) h;obtain⟨c2,d,c⟩:=qN r (o+1) _ c1 b;exact⟨c2,d,c.trans f⟩
theorem IP{k n s o cap:Nat}{e:U8}(h:W.ownsRow k e s (sZ g n cap) n xs)(y:o+vs.length<=n*s):(W.setCells g o vs).ownsRow k e s (sZ g n cap) n (rep xs o vs):=by
 have hx:o+vs.length<=xs.length:=by rw[h.1];exact y
 refine⟨by rw[cU hx];exact h.1,?_⟩;rcases h.2 with⟨d,-⟩|⟨a,q,cur,d,v,r,p,w,t,z⟩
 ·cases d
 ·injection d with e1 e2 e3
  injection e1 with e1
  injection e1 with e1
  subst e1;subst e3;obtain⟨c2,m,x⟩:=qN vs o W cur r;refine UX ⟨g,cap,c2,rfl,v,m,p,w,by rw[x];exact t,?_⟩;have u:n*s<=cur.size:=by rw[t];exact Xu s p
  apply YZ;intro i;rw[RG.rep_at hx,WC,<-z];have c1:∀i,W.cell? ⟨g,i,none⟩=cur[i]?:=λi=>cell_of_row W g i cur e (0,0) r
  have l:(W.setCells g o vs).cell? ⟨g,i,none⟩=c2[i]?:=cell_of_row _ g i c2 e (0,0) m;by_cases c:i<n*s
  ·rw[yCl c];by_cases b:o<=i/\i<o+vs.length
   ·rw[yCl b];have f:i-o<vs.length:=oM;have:=World.cell?_setCells_in g vs o W (λj f=>by rw[c1 (o+j),U0 oM];rfl) (i-o) f;rw[show o+(i-o)=i by omega,l]at this;rw[Vq,this,UG f]
   ·rw[yCm b,WC,yCl c,Vq,Vq,<-l,<-c1 i];exact World.cell?_setCells_out g vs o W ⟨g,i,none⟩ (λ_ _=>by show i<o\/o+vs.length<=i;omega)
  ·rw[yCm c,yCm oM,WC,yCm c]
theorem LU{o:Nat}:rep (xs++ys) (xs.length+o) vs=xs++rep ys o vs:=by
 unfold rep;rw[List.take_length_add_append,Nat.add_assoc,List.drop_length_add_append,List.append_assoc]
theorem gJ{n:Nat}{p:Bs}(k:p.size=33):(wn n++aA p).length=37:=by rw[UA,aB k];rfl
theorem fG(x:Nat × Bs)(r:List (Nat × Bs)):aU (x :: r)=(wn x.1++aA x.2)++aU r:=by unfold aU;rw[ZA]
theorem yM(s:Nat):∀(l:List (Nat × Bs)) (j:Nat) (k:j<l.length),(∀x∈l.map (·.2),x.size=33)->aU (l.set j (s,(l[j]).2))=rep (aU l) (37*j) (wn s)
 | [],j,k,_=>by cases k
 | x :: r,0,_,_=>by
  show aU ((s,x.2) :: r)=_;rw[fG,fG];rfl
 | x :: r,j+1,k,hs=>by
  have hx:=gJ (n:=x.1) (hs x.2 (by simp));show aU (x :: r.set j (s,(r[j]'(by simpa using k)).2))=_;rw[fG,fG,yM s r j (by simpa using k) (λy b=>hs y (Vb _ b)),show 37*(j+1)=(wn x.1++aA x.2).length+37*j by rw[hx];omega,LU]
theorem at?_some{p:Bs}:∀ {l:List (Nat × Bs)}{i j:Nat},at? p (l.map (·.2)) i=some j->i<=j/\∃h:j-i<l.length,(l[j-i]).2=p/\∀n,fA N l n p=l.set (j-i) (sPl N (l[j-i]).1 n,p)
 | [],i,j,h=>by cases h
 | (s,q) :: r,i,j,h=>by
  rw[XX]at h;unfold at? at h;by_cases k:p=q
  ·rw[yCl k]at h;obtain rfl:=UO.inj h;refine⟨Uw _,by simp,?_,λn=>?_⟩
   ·simp[k]
   ·unfold fA;rw[yCl k];simp[k]
  ·rw[yCm k]at h;obtain⟨d,f,c,b⟩:=at?_some h;have e:j-i=(j-(i+1))+1:=oM;refine⟨oM,by simp;omega,?_,λn=>?_⟩
   ·simp only[e,yAl];exact c
   ·unfold fA;rw[yCm k,b n];simp only[e,yAl,Uu]
theorem Kl{n:Nat}{p:Bs}{l:List (Nat × Bs)}{j:Nat}(h:at? p (l.map (·.2)) 0=some j):(fA N l n p).map (·.2)=l.map (·.2)/\(fA N l n p).length=l.length:=by
 obtain⟨-,b,d,c⟩:=at?_some (N:=N) h;rw[c n];refine⟨?_,List.length_set ..⟩;rw[List.map_set];apply YZ;intro i;rw[List.getElem?_set];by_cases k:j-0=i
 ·subst k;rw[yCl rfl,yCl (by rw[UQ];exact b),Vz,UG b];exact congrArg some d.symm
 ·rw[yCm k]
theorem Mx.again{w:Ur}{m cap:Nat}{l:List (Nat × Bs)}{p:Bs}{j:Nat}(h:Mx w W m l (sZ g l.length cap))(e:∀x∈l.map (·.2),x.size=33)(d:at? p (l.map (·.2)) 0=some j)(i:j<l.length)(n:Nat):
 Mx w (W.setCells g (37*j) (wn (sPl N (l[j]).1 n))) m (fA N l n p) (sZ g l.length cap):=by
 have k:=h.own_ne (g:=g) rfl;obtain⟨o,b⟩:=Kl (N:=N) (n:=n) d;refine⟨RG.below_setCells k.2.1 _ _ _ h.bl,?_,h.lm,?_⟩
 ·rw[aH _ _ _ _ _ (YD k.1),o,b];exact h.mp
 ·obtain⟨-,q,c,f⟩:=at?_some (N:=N) d;have e3:fA N l n p=l.set j (sPl N (l[j]).1 n,(l[j]).2):=by rw[f n];simp only[YV]at c⊢;rw[c]
  rw[b,e3,yM _ l j i e];exact IP h.ow (by show 37*j+4<=_;omega)
theorem DF(O:Ord N)(ns:Nat->Nat)(d:Nat->Bs){k:Nat}(c:∀j,j<k->ns j<N):∀i,i<=k->∀x∈mrg N ns d i,x.1<N
 | 0,_=>λx hx=>by cases hx
 | i+1,hi=>by
  have e:=DF O ns d c i oM;have h:∀(l:List (Nat × Bs)) n p,n<N->(∀x∈l,x.1<N)->∀x∈fA N l n p,x.1<N:=by
   intro l n p g;induction l with
   | nil=>intro _ x hx;simp[fA]at hx;rw[hx];exact g
   | cons y r ihr =>
    intro b x hx;unfold fA at hx;split at hx
    ·rcases VX.1 hx with rfl|hx
     ·exact V7 _ O.pos
     ·exact b x (Vb _ hx)
    ·rcases VX.1 hx with rfl|hx
     ·exact b _ Vu
     ·exact ihr (λz f=>b z (Vb _ f)) x hx
  exact h _ _ _ (c i oM) e
end
section
open Go.RowKit Go.Sort Go.Deep
variable {N:Nat}
section
variable (w:Ur) (m g4 cap k6 j s n z:Nat) (l:List (Nat × Bs)) (p:Bs)
def Ra:Nat->Ut->Ur->Prop
 | 0,v,_=>v=sZ g4 l.length cap
 | 1,v,_=>v=iZ j
 | 2,v,_=>v=sZ g4 l.length cap
 | 3,v,_=>v=iZ j
 | 4,v,_=>v=.pointer (some ⟨g4,0+37*j,none⟩)
 | 5,v,_=>v=.pointer (some ⟨g4,0+37*j,none⟩)
 | 6,v,_=>v=nv s
 | 7,v,_=>v=jZ k6
 | 8,v,_=>v=nv n
 | 9,v,_=>v=nv z
 | 10,v,_=>v=.pointer (some ⟨g4,0+37*j,none⟩)
 | 11,v,_=>v=.pointer (some ⟨g4,0+37*j,none⟩)
 | _,_,_=>True
theorem Qm{v:Ut}(h:Ra g4 cap k6 j s n z l i v W):Ra g4 cap k6 j s n z l i v W':=by
 match i,h with
 | 0,h=>exact h
 | 1,h=>exact h
 | 2,h=>exact h
 | 3,h=>exact h
 | 4,h=>exact h
 | 5,h=>exact h
 | 6,h=>exact h
 | 7,h=>exact h
 | 8,h=>exact h
 | 9,h=>exact h
 | 10,h=>exact h
 | 11,h=>exact h
 | _+12,_=>trivial
def Ga:Gw:=⟨Ra g4 cap k6 j s n z l,λW=>Mx w W m l (sZ g4 l.length cap)/\Row W k6 (wn n++aA p),λ_ _ _ _ _ h=>Qm g4 cap k6 j s n z l h,λ_ _ k h=>⟨h.1.kept k,h.2.below k⟩⟩
end
theorem range_front'{k o:Nat}(h:W.rangeAt k o (xs++ys)):W.rangeAt k o xs:=λj v b=>h j v (by rw[UT (UF.1 b).1];exact b)
theorem Mx.drew{w:Ur}{m:Nat}{l:List (Nat × Bs)}{v:Ut}(h:Mx w W m l v):Mx w W.drew m l v:=⟨h.bl.drew,h.mp,h.lm,h.ow⟩
theorem I9(O:Ord N)(R:Ut->Ur->Prop)(g k c:Nat)(hk:k<=1000)(ns:Nat->Nat)(o:Nat->Bs)(ha:∀j,j<k->(o j).size=33)(hn:∀j,j<k->ns j<N)(w:Ur)(hg:g<w.heap.size)(hr:∀j,j<k->w.rangeAt g (37*j) (wn (ns j)++aA (o j)))
 (hm:∀W v,Mx w W w.heap.size (mrg N ns o k) v->UH prog 204 #[v,.func (.func 205) #[] #[]] W (Ret R)) :
 UH prog 140 #[sZ g k c] w (Ret R):=by
 have h9:=Hid.mk' hm;have kd:(Instr.makeMap 278 none).run prog w=.ok (.map (some w.heap.size)) (w.alloc (.map #[] 0)):=kR;obtain⟨w1,h4⟩:=hE (w.alloc (.map #[] 0));rw[h4.out]at kd;have M1:Hid (Mx w w1 w.heap.size (mrg N ns o 0) (.slice none 0 0)):=by
  rw[<-h4.out];exact⟨aC w _,by show(w.heap.push (.map #[] 0))[w.heap.size]? = _;rw[Array.getElem?_push_size];rfl,Uw _,rfl,U4 ⟨rfl,rfl⟩⟩
 have J:=mk5 O ha hn hg hr;obtain⟨d,hq,hw⟩:=Uy.1 uCP;obtain⟨d',k7,k8⟩:=Uy.1 uT;have K:Hid ((prog.underlying 103=some d/\d.isRow=true)/\prog.underlying 226=some d'/\d'.isRow=true):=⟨⟨hq,hw⟩,k7,k8⟩
 go_enter func140,ntmps140;go_wp2;go_loopg [4,12] k (λq s4 s12 W=>∃i:Nat,i+q=k/\s12=iZ i/\Hid (Mx w W w.heap.size (mrg N ns o i) s4))
 case atStart=>exact⟨0,oM,rfl,M1⟩
 case round =>
  obtain⟨i,kg,rfl,KM⟩:=hrel;by_cases hi:i<k
  ·have k1:(i:Int)<(k:Int):=oM;obtain⟨n,G⟩:=hE (ns i);obtain⟨p,I⟩:=hE (o i);obtain⟨l,hl⟩:=hE (mrg N ns o i);rw[hl.out]at KM;have r:Hid (p.size=33):=by have:=J.2.1 i hi;rw[I.out]at this;exact this
   have kb:Hid (l.length<=i):=by have:=AV (N:=N) ns o i;rw[hl.out]at this;exact this
   obtain⟨q,cap,rfl⟩:=GB KM.ow;obtain⟨S,h1⟩:=hE (wr.alloc (.cells zT.toArray 226));obtain⟨D,h0⟩:=hE (S.setCells wr.heap.size 0 (wn n++aA p));have m:(wn n++aA p).length=37:=by rw[UA,aB r.out];rfl
   have F1:Hid (Row S wr.heap.size zT/\kZ wr S/\S.heap.size=wr.heap.size+1):=by rw[<-h1.out];exact⟨aE wr _ _,aC wr _,UB _ _⟩
   have X:Hid (Row D wr.heap.size (wn n++aA p)/\kZ wr D/\D.heap.size=wr.heap.size+1):=by rw[<-h0.out];exact⟨F1.1.put (by rw[m];rfl),RG.below_setCells (Uw _) _ _ _ F1.2.1,by rw[setCells_size];exact F1.2.2⟩
   have P:=mk1 (KM.kept X.2.1);have C:∀x∈l.map (·.2),x.size=33:=by have:=xF (N:=N) ns o J.2.1 i oM;rw[hl.out]at this;exact this
   cases H:at? p (l.map (·.2)) 0 with
   | none =>
    have b:=mk1 (H);have Z:=Hid.mk' (Ck r.out (l.map (·.2)) C w.heap.size l.length D P.mp);rw[b.out]at Z;have B2:Hid ((Y4 278 (.map (some w.heap.size)) (.agg (aA p).toArray) (iZ (l.length:Int))).run prog D=.ok () (D.putObj w.heap.size (.map (ents (l.map (·.2)++[p]) 0).toArray (l.length+1)))):=by
     have h:=Le r.out (l.map (·.2)) C w.heap.size D (by rw[UQ];exact P.mp) b.out;rw[UQ]at h;exact h
    obtain⟨v',W5,f,K5,kh,-⟩:=P.push r.out (by have:=kb.out;omega) n;obtain⟨Q,A⟩:=hE (D.putObj w.heap.size (.map (ents (l.map (·.2)++[p]) 0).toArray (l.length+1)));have F3:Hid (Row Q wr.heap.size (wn n++aA p)/\Q.heap.size=wr.heap.size+1):=by rw[<-A.out];exact⟨X.1.putObj P.mp rfl _,by simp[yAg];exact X.2.2⟩
    have T:=Hid.mk' (SH r.out n Q);obtain⟨W4,M⟩:=hE (Q.alloc (.cells (wn n++aA p).toArray 226));rw[A.out]at B2 f;rw[M.out]at T f;rw[F3.2]at T;rw[X.2.2]at f;have k0:Hid (Mx w W5 w.heap.size (mrg N ns o (i+1)) v'):=by
     have e:mrg N ns o (i+1)=l++[(n,p)]:=by
      show fA N (mrg N ns o i) (ns i) (o i)=_;rw[hl.out,G.out,I.out];exact CQ b.out
     rw[e];exact K5
    have B0:Hid (wr.rangeAt g (37*i) (wn n++aA p)):=by
     have h:=RG.range_below (J.2.2.2.2 i hi) KM.bl J.2.2.2.1;rw[G.out,I.out]at h;exact h
    have L:Hid ((prog.info? 226).map (·.size)=some (wn n++aA p).length):=by show _=_;rw[m];exact iT
    have E:Hid ((prog.info? 226).map (·.size)=some (wn n++aA p).toArray.size/\S.there wr.heap.size 0 (wn n++aA p).toArray.size):=by
     have e:(wn n++aA p).toArray.size=37:=by rw[VC];exact m
     rw[e];exact⟨iT,F1.1.2.2⟩
    have U:Hid ((prog.info? 103).map (·.size)=some (aA p).length):=by show _=_;rw[aB r.out];exact cV
    have HB:=mk1 (lT (xs:=wn n) X.1.2.1);have Y:Hid ((wn n++aA p).toArray.all (·.oneCell')=true):=by
     show _=_;rw[Xa];intro u hu;exact cells_one n p u (X8.1 hu)
    have k2:=atT g 0 k c i hi;have V:=Hid.mk' f;obtain⟨vt,B⟩:=hE (U3 (wn n++aA p).toArray);obtain⟨vp,F⟩:=hE (U3 (aA p).toArray);rw[F.out]at Z B2;rw[B.out]at T;go_wp2_with (first|(refine U6 rfl 226 _ rfl g (37*i) ?_ (wn n++aA p) d' ?_ ?_ ?_ ?_ ?_;rfl;exact B0.out;exact K.2.1;exact K.2.2;exact L.out;rw[B.out])|(refine bG (v:=jZ wr.heap.size) (w':=S) rfl (.alloc 226) rfl ?_ ?_;(rw[<-h1.out];kernel_rfl))|(refine U2 rfl 226 _ _ rfl wr.heap.size 0 (wn n++aA p).toArray ?_ ?_ ?_ ?_ ?_ ?_;rfl;exact B.symm;exact E.2;exact E.1;exact Y.out;rw[show(wn n++aA p).toArray.toList=wn n++aA p from rfl,h0.out])|(refine U6 rfl 103 _ rfl wr.heap.size 4 ?_ (aA p) d ?_ ?_ ?_ ?_ ?_;rfl;exact HB.out;exact K.1.1;exact K.1.2;exact U.out;rw[F.out])|(refine zA (x:=.map (some w.heap.size)) (y:=vp) (w':=D) rfl 278 _ _ true rfl ?_ ?_ Z.out ?_;rfl;rfl)|(refine Gj (x:=.map (some w.heap.size)) (y:=vp) (z:=iZ (l.length:Int)) (w':=Q) rfl 278 _ _ _ rfl ?_ ?_ ?_ B2.out ?_;rfl;rfl;rfl)|(refine U6 rfl 226 _ rfl wr.heap.size 0 ?_ (wn n++aA p) d' ?_ ?_ ?_ ?_ ?_;rfl;exact F3.1.2.1;exact K.2.1;exact K.2.2;exact L.out;rw[B.out])|(refine jC (v:=.slice (some ⟨wr.heap.size+1,0,none⟩) 1 1) (w':=W4) rfl 131 1 _ rfl #[(0,vt)] ?_ T.out ?_;kernel_rfl)|(refine lK (x:=.slice q l.length cap) (y:=.slice (some ⟨wr.heap.size+1,0,none⟩) 1 1) (v:=v') (w':=W5) rfl _ _ 131 rfl ?_ ?_ ?_ ?_;rfl;rfl;exact V.out))
    go_roundg (gk-1)
    case measure=>omega
    case rel=>exact⟨i+1,oM,rfl,k0⟩
   | some j =>
    obtain⟨-,A,h3,-⟩:=at?_some (N:=N) H;rw[YV]at A;simp only[YV]at h3;have Z:=Hid.mk' (Ck r.out (l.map (·.2)) C w.heap.size l.length D P.mp);rw[H]at Z;obtain⟨f,kf,hy,-,ka,k9⟩:=sH P.ow C oM;injection hy with q1 q2 q3
    subst q1;obtain⟨s,h2⟩:∃s,Hid ((l[j]'A).1=s):=⟨(l[j]'A).1,(rfl:(l[j]'A).1=(l[j]'A).1)⟩
    have k3:Hid (s<N):=by
     have:=DF J.1 ns o J.2.2.1 i oM;rw[hl.out]at this;rw[<-h2.out];exact this _ (VH A)
    have k4:Hid (n<N):=by rw[<-G.out];exact J.2.2.1 i hi
    have B0:Hid (wr.rangeAt g (37*i) (wn n++aA p)):=by
     have h:=RG.range_below (J.2.2.2.2 i hi) KM.bl J.2.2.2.1;rw[G.out,I.out]at h;exact h
    have L:Hid ((prog.info? 226).map (·.size)=some (wn n++aA p).length):=by show _=_;rw[m];exact iT
    have E:Hid ((prog.info? 226).map (·.size)=some (wn n++aA p).toArray.size/\S.there wr.heap.size 0 (wn n++aA p).toArray.size):=by
     have e:(wn n++aA p).toArray.size=37:=by rw[VC];exact m
     rw[e];exact⟨iT,F1.1.2.2⟩
    have U:Hid ((prog.info? 103).map (·.size)=some (aA p).length):=by show _=_;rw[aB r.out];exact cV
    have HB:=mk1 (lT (xs:=wn n) X.1.2.1);have Y:Hid ((wn n++aA p).toArray.all (·.oneCell')=true):=by
     show _=_;rw[Xa];intro u hu;exact cells_one n p u (X8.1 hu)
    have k2:=atT g 0 k c i hi;obtain⟨vt,B⟩:=hE (U3 (wn n++aA p).toArray);obtain⟨vp,F⟩:=hE (U3 (aA p).toArray);rw[F.out]at Z;have T:=mk1 (A);have HS:Hid (∀h:j<l.length,(l[j]'h).1=s):=λ_=>h2.out
    have HJ:=mk2 H C;have HK:=mk2 P.out X.1;have KN:Hid (mrg N ns o (i+1)=fA N l n p):=by
     show fA N (mrg N ns o i) (ns i) (o i)=_;rw[hl.out,G.out,I.out]
    clear m C P KM h3 q2 q3 k9 ka;clear H;go_wp2_with (first|(refine U6 rfl 226 _ rfl g (37*i) ?_ (wn n++aA p) d' ?_ ?_ ?_ ?_ ?_;rfl;exact B0.out;exact K.2.1;exact K.2.2;exact L.out;rw[B.out])|(refine bG (v:=jZ wr.heap.size) (w':=S) rfl (.alloc 226) rfl ?_ ?_;(rw[<-h1.out];kernel_rfl))|(refine U2 rfl 226 _ _ rfl wr.heap.size 0 (wn n++aA p).toArray ?_ ?_ ?_ ?_ ?_ ?_;rfl;exact B.symm;exact E.2;exact E.1;exact Y.out;rw[show(wn n++aA p).toArray.toList=wn n++aA p from rfl,h0.out])|(refine U6 rfl 103 _ rfl wr.heap.size 4 ?_ (aA p) d ?_ ?_ ?_ ?_ ?_;rfl;exact HB.out;exact K.1.1;exact K.1.2;exact U.out;rw[F.out])|(refine zA (x:=.map (some w.heap.size)) (y:=vp) (w':=D) rfl 278 _ _ true rfl ?_ ?_ Z.out ?_;rfl;rfl)|fail)
    refine(Ga w w.heap.size f cap wr.heap.size j s n (sPl N s n) l p).last 12 kR kR kR ⟨
     bN λa W b=>⟨[(4,sZ f l.length cap)],sZ f l.length cap,W,⟨b.o 4 kR,yCn⟩,kR,UR _ _,rfl⟩,
     bN λa W b=>⟨[(7,iZ j)],iZ j,W,⟨b.o 7 kR,yCn⟩,kR,UR _ _,rfl⟩,
     bN λa W b=>⟨[(4,sZ f l.length cap)],sZ f l.length cap,W,⟨b.o 4 kR,yCn⟩,kR,UR _ _,rfl⟩,
     bN λa W b=>⟨[(7,iZ j)],iZ j,W,⟨b.o 7 kR,yCn⟩,kR,UR _ _,rfl⟩,
     bN λa W b=>⟨[(36,sZ f l.length cap),(37,iZ j)],.pointer (some ⟨f,0+37*j,none⟩),W,⟨b.n 2 36 kR kR,b.n 3 37 kR kR,yCn⟩,by
      rw[V8.injEq];refine⟨kR,?_⟩;show((Vl 131 (sZ f l.length cap) (iZ j)) >>= λv=>pure (Xr v)).run prog W=_;rw[UV,atT f 0 l.length cap j T.out];rfl,UR _ _,rfl⟩,
     bN λa W b=>⟨[(38,.pointer (some ⟨f,0+37*j,none⟩))],.pointer (some ⟨f,0+37*j,none⟩),W,⟨b.n 4 38 kR kR,yCn⟩,kR,UR _ _,rfl⟩,
     iQ 49 39 rfl Go.Proofs.YtdoammpgchejcaaGreat.u40 λa W b=>⟨f,0+37*j,wn s,b.n 5 39 kR kR,by
      obtain⟨g5,ke,k6,-,-,V⟩:=sH b.b.1.ow HJ.2 (by have:=T.out;omega);injection k6 with q1 q2 q3
      injection q1 with q1
      injection q1 with q1
      subst q1;have:=V j T.out;rw[HS T.out]at this;rw[UD];exact range_front' this,i40,rfl⟩,
     bN λa W b=>⟨[(6,jZ wr.heap.size)],jZ wr.heap.size,W,⟨b.o 6 kR,yCn⟩,kR,UR _ _,rfl⟩,
     iQ 49 41 rfl Go.Proofs.YtdoammpgchejcaaGreat.u40 λa W b=>⟨wr.heap.size,0,wn n,b.n 7 41 kR kR,kA b.b.2.2.1,i40,rfl⟩,
     gK λa W b=>⟨[(40,nv s),(42,nv n)],80,#[nv s,nv n],⟨b.n 6 40 kR kR,b.n 8 42 kR kR,yCn⟩,kR,(mY J.1 s n k3.out k4.out W).mono (by
      rintro e W' ⟨u,rfl,V,rfl⟩;exact⟨_,rfl,V,rfl⟩)⟩,
     bN λa W b=>⟨[(34,sZ f l.length cap),(35,iZ j)],.pointer (some ⟨f,0+37*j,none⟩),W,⟨b.n 0 34 kR kR,b.n 1 35 kR kR,yCn⟩,by
      rw[V8.injEq];refine⟨kR,?_⟩;show((Vl 131 (sZ f l.length cap) (iZ j)) >>= λv=>pure (Xr v)).run prog W=_;rw[UV,atT f 0 l.length cap j T.out];rfl,UR _ _,rfl⟩,
     bN λa W b=>⟨[(44,.pointer (some ⟨f,0+37*j,none⟩))],.pointer (some ⟨f,0+37*j,none⟩),W,⟨b.n 10 44 kR kR,yCn⟩,kR,UR _ _,rfl⟩,yCn⟩ ⟨HK.1.drew,HK.2⟩ ?_
    intro V Q h5 h6;have hz:=h5 9 dC;have b:=h5 11 dC;obtain⟨W4,M⟩:=hE (Q.setCells f (37*j) (wn (sPl N s n)));have K4:Hid (Mx w W4 w.heap.size (mrg N ns o (i+1)) (sZ f l.length cap)):=by
     rw[<-M.out,KN.out,<-(HS T.out)];exact h6.1.again HJ.2 HJ.1 T.out n
    have kc:Hid (Q.there f (37*j) 4):=by
     intro t ht;have hj:=T.out;rcases h6.1.ow.2 with⟨h,-⟩|⟨g2,h7,cur,he,-,hc,hn,-,hs,-⟩
     ·cases h
     ·injection he with he1 he2 he3
      injection he1 with he1
      injection he1 with he1
      subst he1;have k5:37*j+t<cur.size:=by
       rw[hs];have:(j+1)*37<=h7*37:=Xu 37 oM;omega
      refine⟨?_,?_⟩
      ·simp[VY,hc,k5]
      ·simp[WY,hc]
    dsimp only[bU,VK,List.take,List.drop];simp only[Act.put,List.setIfInBounds_toArray,Uu,List.set_cons_zero];obtain⟨vz,h8⟩:=hE (nv (sPl N s n));rw[hz,b,h8.out,UD];go_wp2_with (first|(refine U2 rfl 49 _ _ rfl f (37*j) (wn (sPl N s n)).toArray ?_ ?_ ?_ ?_ ?_ ?_;rfl;exact h8.symm;exact kc.out;exact i40;exact aM (sPl N s n);rw[show(wn (sPl N s n)).toArray.toList=wn (sPl N s n) from rfl,M.out])|fail)
    go_roundg (gk-1)
    case measure=>omega
    case rel=>exact⟨i+1,oM,rfl,K4⟩
  ·have k1:¬(i:Int)<(k:Int):=oM;obtain rfl:i=k:=oM;go_wp2_with fail
   refine(h9 wr _ KM.out).mono ?_;rintro e m ⟨r,rfl,b⟩;have f:=Hid.mk' b;go_wp2;go_ret;exact⟨_,rfl,f.out⟩
end
section
open Go.RowKit Go.Sort Go.Deep
variable {P:Nat}[NeZero P]{N:Nat}
def LF(l:List (Nat × Bs)):List (Nat × Bs):=l.filter λx=>x.1 != 0
theorem oO{l:List (Nat × Bs)}{j:Nat}(k:j<l.length):LF (l.take (j+1))=LF (l.take j)++(if (l[j]).1=0 then [] else [l[j]]):=by
 unfold LF;rw[ZJ,UG k,List.filter_append]
 congr 1
 by_cases h:(l[j]).1=0
 ·simp[h]
 ·simp[h]
theorem Oe(l:List (Nat × Bs))(j:Nat):(LF (l.take j)).length<=j:=
 UC (yAn _ _) (by rw[WH];exact Nat.min_le_left _ _)
theorem Br{l:List (Nat × Bs)}{x:Nat × Bs}(h:x∈LF l):x∈l:=(Y8.1 h).1
theorem uD{ns:Nat->Nat}:∀(m i:Nat),(∃j,i<=j/\j<i+m/\ns j=0)->∃k,kL ns i m=((k:Nat):Int)/\i<=k/\k<i+m/\ns k=0/\∀j,i<=j->j<k->ns j≠0
 | 0,i,h=>by obtain⟨j,f,e,-⟩:=h;omega
 | m+1,i,h=>by
  unfold kL;by_cases b:ns i=0
  ·rw[yCl b];exact⟨i,rfl,Uw _,oM,b,λj f e=>oM⟩
  ·rw[yCm b];obtain⟨j,f,e,g⟩:=h;obtain⟨k,o,q,e3,p,n⟩:=uD m (i+1) ⟨j,by
    rcases Ws i j with h|h
    ·omega
    ·obtain rfl:j=i:=oM;exact absurd g b,oM,g⟩
   refine⟨k,o,oM,oM,p,λd l c=>?_⟩;rcases Ws i d with h|h
   ·exact n d h c
   ·obtain rfl:d=i:=oM;exact b
def Rw(W:Ur)(g j:Nat)(x:Nat × Bs):Prop:=W.rangeAt g (37*j) (wn x.1++aA x.2)
theorem Rw.below{j:Nat}{x:Nat × Bs}(h:Rw W g j x)(k:kZ W W')(b:g<W.heap.size):Rw W' g j x:=RG.range_below h k b
structure Dz(base:Nat)(w W:Ur)(g:Nat)(l:List (Nat × Bs))(j:Nat):Prop where
 bl:Below base w W
 hb:base<=W.heap.size
 lt:g<W.heap.size
 th:W.there g 0 (37*l.length)
 lo:∀a (ha:a<(LF (l.take j)).length),Rw W g a ((LF (l.take j))[a])
 hi:∀b (hb:b<l.length),j<=b->Rw W g b (l[b])
theorem Dz.grow{k:Nat}{w:Ur}{l:List (Nat × Bs)}{j:Nat}(h:Dz k w W g l j)(c:kZ W W'):Dz k w W' g l j:=
 ⟨h.bl.trans (c.mono h.hb),UC h.hb c.size,Ux h.lt c.size,dJ h.th c h.lt,λa e=>(h.lo a e).below c h.lt,λb d f=>(h.hi b d f).below c h.lt⟩
theorem Dz.skip{k:Nat}{w:Ur}{l:List (Nat × Bs)}{j:Nat}(h:Dz k w W g l j)(c:j<l.length)(i:(l[j]).1=0):Dz k w W g l (j+1):=by
 have e:LF (l.take (j+1))=LF (l.take j):=by rw[oO c,yCl i,Xw]
 exact⟨h.bl,h.hb,h.lt,h.th,λa d=>by
  have f:=h.lo a (by rw[<-e];exact d);simp only[e];exact f,λb m c=>h.hi b m oM⟩
theorem Dz.put{k:Nat}{w:Ur}{l:List (Nat × Bs)}{j:Nat}(h:Dz k w W g l j)(q:k<=g)(p:∀x∈l.map (·.2),x.size=33)(n:j<l.length)(u:(l[j]).1≠0):
 Dz k w (W.setCells g (37*(LF (l.take j)).length) (wn (l[j]).1++aA (l[j]).2)) g l (j+1):=by
 have e:LF (l.take (j+1))=LF (l.take j)++[l[j]]:=by rw[oO n,yCm u]
 have s:=Oe l j;have f:∀x∈l,(wn x.1++aA x.2).length=37:=λx hx=>gJ (p x.2 (Vn.2 ⟨x,hx,rfl⟩))
 have c:=f (l[j]) (VH n);refine⟨RG.below_setCells q _ _ _ h.bl,by rw[setCells_size];exact h.hb,by rw[setCells_size];exact h.lt,VW h.th _ _ _,λa m=>?_,λb v r=>?_⟩
 ·simp only[e]at m⊢;by_cases d:a<(LF (l.take j)).length
  ·rw[List.getElem_append_left d];have o:=h.lo a d;have i:=yAr (Br (VH d));exact Vh o g _ _ (UX (U4 (by rw[f _ i];omega)))
  ·have i:a=(LF (l.take j)).length:=by rw[UA,List.length_singleton]at m;omega
   subst i;rw[List.getElem_append_right (Uw _)];simp only[Nat.sub_self,List.getElem_singleton];refine VO W g _ _ λt o=>?_
   rw[c]at o;have:=h.th (37*(LF (l.take j)).length+t) oM;rwa[UD]at this
 ·exact Vh (h.hi b v oM) g _ _ (UX (UX (by rw[c];omega)))
theorem Hj(n:Nat):∀v∈(WG (U3 zT.toArray).cells n).toList,v.oneCell'=true:=by
 intro v hv;have c:=Ol;have b:(U3 zT.toArray).cells.size=37:=kR;unfold WG at hv;rw[Array.toList_map]at hv;obtain⟨i,-,rfl⟩:=Vn.1 hv;have k:i%(U3 zT.toArray).cells.size<(U3 zT.toArray).cells.size:=V7 _ (by rw[b];decide);rw[getElem!_pos (U3 zT.toArray).cells _ k];exact c _ (by
  have e:(U3 zT.toArray).cells.toList=zT:=kR;have d:=Array.getElem_mem_toList k;rwa[e]at d)
theorem MU(g i n c:Nat)(w:Ur)(p:0<n)(h:w.there g 0 (37*(i+n))):∃Z:List Ut,∀e,(yAM #[131] e #[.slice (some ⟨g,37*i,none⟩) n c]).run prog w=.ok (.tuple #[]) (w.setCells g (37*i) Z):=by
 have d:=Oj w;have m:=X0 C4 w;have ho:=Hj n;have k:(WG (U3 zT.toArray).cells n).toList.length=n*37:=by
  have:(U3 zT.toArray).cells.size=37:=kR;rw[UK,size_zeroCells,this]
 generalize (U3 zT.toArray)=f at d ho k;generalize o:(WG f.cells n).toList=Z at ho k;have l:(storeCells ⟨g,37*i,none⟩ Z).run prog w=.ok () (w.setCells g (37*i) Z):=
  run_storeCells_cells (P:=prog) g (37*i) Z 0 w (λj b=>by rw[k]at b;have:=(h (37*i+j) oM).1;simpa using this) (λj b=>by rw[k]at b;have:=(h (37*i+j) oM).2;simpa using this) ho
 refine⟨Z,λe=>?_⟩;obtain⟨b,rfl⟩:∃b,n=b+1:=⟨n-1,oM⟩
 unfold yAM;simp[UV,m,d,o,l]
theorem To(g n c i:Nat)(b:i<=n)(k:n<=c)(w:Ur):(Xp 131 (sZ g n c) none (some (iZ i)) none).run prog w=.ok (sZ g i c) w:=by
 have d:¬(i:Int)<0:=oM;have e:(i:Int)<=(c:Int):=oM;go_simp
theorem Tn(g n c i:Nat)(b:i<n)(k:n<=c)(w:Ur):(Xp 131 (sZ g n c) (some (iZ i)) none none).run prog w=.ok (.slice (some ⟨g,37*i,none⟩) (n-i) (c-i)) w:=by
 have d:¬(i:Int)<0:=oM;have e:(i:Int)<=(n:Int):=oM;go_simp;rw[yCm oM,Vv]
def TmL(W:Ur)(q:Option Ww)(l:List (Nat × Bs)):Prop:=0<l.length->∃g,q=some (aZ g)/\g<W.heap.size/\∀j (k:j<l.length),W.rangeAt g (37*j) (wn (l[j]).1++aA (l[j]).2)
def Un(k:Nat)(l:List (Nat × Bs))(w:Ur)(e:Ut)(w':Ur):Prop:=Below k w w'/\∃q cap,e=.slice q (LF l).length cap/\TmL w' q (LF l)
theorem Ge{l:List (Nat × Bs)}(h:∀x∈l,x.1≠0):LF l=l:=List.filter_eq_self.2 λx hx=>by simpa using h x hx
theorem Od{l:List (Nat × Bs)}{k:Nat}(d:k<l.length)(c:(l[k]).1=0):∀j,k<j->j<=l.length->(LF (l.take j)).length<j
 | 0,h,_=>oM
 | j+1,h,hj=>by
  rw[oO oM,UA];rcases Ws k j with b|b
  ·have:=Od d c j b oM;split<;>simp<;>omega
  ·obtain rfl:j=k:=oM;rw[yCl c];have:=Oe l j;simp;omega
theorem JL(l:List (Nat × Bs))(hg:0<l.length)(hy:l.length<=1000)(hs:∀x∈l.map (·.2),x.size=33)(hn:∀x∈l,x.1<top)(d:Nat)(v:Ut)(w:Ur)(hb:d<=w.heap.size)(ho:w.ownsRow d 226 37 v l.length (aU l)):
 UH prog 204 #[v,.func (.func 205) #[] #[]] w (Ret (Un d l w)):=by
 obtain⟨g,c,rfl,Y,A,S⟩:=sH ho hs hg;have E:∀(j:Nat) (k:j<l.length),(l[j]).2.size=33:=λj k=>hs _ (Vn.2 ⟨_,VH k,rfl⟩)
 have C:l.length<=c/\w.there g 0 (37*l.length):=by
  rcases ho.2 with⟨h,-⟩|⟨z,r,cur,s,-,q,f,-,o,-⟩
  ·cases h
  ·injection s with he1 he2 he3
   injection he1 with he1
   injection he1 with he1
   subst he1;subst he3;refine⟨f,λt ht=>?_⟩;have y:0+t<cur.size:=by
    rw[o];have:l.length*37<=c*37:=Xu 37 f;omega
   exact⟨by simp only[VY,q];simp;omega,by simp[WY,q]⟩
 by_cases z:∀x∈l,x.1≠0
 ·have H:=Ge z;refine(Cx g l.length c oM (λj=>((l[j]?).getD (0,#[])).1) (λj=>((l[j]?).getD (0,#[])).2) (λj k=>by rw[UG k];exact hn _ (VH k)) (λj k=>by rw[UG k];exact z _ (VH k)) (λj k=>by rw[UG k];exact E j k) w A (λj k=>by rw[UG k];exact S j k)).mono ?_;rintro e o ⟨vv,rfl,f,rfl⟩;refine⟨_,rfl,f.mono hb,some (aZ g),c,by rw[H],?_⟩;rw[H];exact λ_=>⟨g,rfl,Ux A f.size,λj k=>RG.range_below (S j k) f A⟩
 ·have hI:=E8 g l.length c oM (λj=>((l[j]?).getD (0,#[])).1) (λj=>((l[j]?).getD (0,#[])).2) (λj k=>by rw[UG k];exact hn _ (VH k)) (λj k=>by rw[UG k];exact E j k) w A (λj k=>by rw[UG k];exact S j k);obtain⟨q,e1,-,e3,T,e5⟩:=uD (ns:=λj=>((l[j]?).getD (0,#[])).1) l.length 0 (by
   have:∃x,x∈l/\x.1=0:=Wv λh=>z λx hx L=>h ⟨x,hx,L⟩
   obtain⟨x,hx,f⟩:=this;obtain⟨j,k⟩:=WM hx;exact⟨j,WA _,by have:=(UF.1 k).1;omega,by show((l[j]?).getD (0,#[])).1=0;rw[k];exact f⟩)
  rw[e1]at hI;have G:q<l.length:=oM;have F:(l[q]).1=0:=by
   have:((l[q]?).getD (0,#[])).1=0:=T;rw[UG G]at this;exact this
  have B:LF (l.take q)=l.take q:=Ge λx hx=>by
   obtain⟨j,k⟩:=WM hx;rw[WC]at k;split at k
   ·rename_i hji
    have:=e5 j (WA _) hji;have f:((l[j]?).getD (0,#[])).1≠0:=this;rw[k]at f;exact f
   ·cases k
  have D:(LF (l.take q)).length=q:=by rw[B,WH];omega
  have D0:Dz d w w g l q:=⟨UR _ _,hb,A,C.2,λa O=>by
   simp only[B]at O⊢;rw[List.getElem_take];exact S a _,λb f _=>S b f⟩
  have D1:Dz d w w g l (q+1):=D0.skip G F;have e6:(LF (l.take (q+1))).length=q:=by rw[oO G,yCl F,Xw];exact D
  have HI:=Hid.mk' hI;have HZ:Hid (∀j,q<j->j<=l.length->(LF (l.take j)).length<j):=Od G F;have X:=Hid.mk' D1;have K:Hid (d<=g/\l.length<=c/\(∀x∈l.map (·.2),x.size=33)/\(∀x∈l,x.1<top)/\∀(j:Nat) (k:j<l.length),(l[j]).2.size=33):=⟨Y,C.1,hs,hn,E⟩
  obtain⟨d',h5,h7⟩:=Uy.1 uT;have U:Hid (prog.underlying 226=some d'/\d'.isRow=true):=⟨h5,h7⟩
  have hp:¬((q:Int) = -1):=oM;clear h5 h7 hI D0 D1 hs hn ho S E C z e1 T e5 B D F Y A;go_enter func204,ntmps204;go_wp2_with fail
  refine HI.mono ?_;rintro e w1 ⟨vv,rfl,h8,rfl⟩;have K1:Hid (Dz d w w1 g l (q+1)):=X.grow h8;clear h8 HI X;go_wp2_with fail
  go_loopg [5,6] (l.length-(q+1)) (λm s5 s6 W=>∃j:Nat,q<j/\j+m=l.length/\s6=iZ j/\s5=iZ ((LF (l.take j)).length:Int)/\Hid (Dz d w W g l j))
  case atStart=>exact⟨q+1,oM,oM,rfl,by rw[e6],K1⟩
  case round =>
   clear K1;obtain⟨j,V,hq,rfl,rfl,I⟩:=hrel;by_cases k:j<l.length
   ·have hk:(j:Int)<(l.length:Int):=oM;obtain⟨n,r⟩:∃n,Hid ((l[j]'k).1=n):=⟨(l[j]'k).1,(rfl:(l[j]'k).1=(l[j]'k).1)⟩
    obtain⟨p,Q⟩:∃p,Hid ((l[j]'k).2=p):=⟨(l[j]'k).2,(rfl:(l[j]'k).2=(l[j]'k).2)⟩
    obtain⟨i,o⟩:∃i,Hid ((LF (l.take j)).length=i):=⟨_,rfl⟩
    have s:i<l.length:=by have:=HZ.out j V oM;rw[o.out]at this;omega
    rw[o.out];have h4:Hid (p.size=33):=by rw[<-Q.out];exact K.2.2.2.2 j k
    have hi:Hid (n<top):=by rw[<-r.out];exact K.2.2.2.1 _ (VH k)
    have B0:Hid (wr.rangeAt g (37*j) (wn n++aA p)):=by
     have h:=I.hi j k (Uw _);unfold Rw at h;rw[r.out,Q.out]at h;exact h
    obtain⟨J,h9⟩:∃J,Hid (wr.alloc (.cells zT.toArray 226)=J):=⟨_,rfl⟩
    obtain⟨R,h1⟩:∃R,Hid (J.setCells wr.heap.size 0 (wn n++aA p)=R):=⟨_,rfl⟩
    have y:(wn n++aA p).length=37:=gJ h4.out;have F1:Hid (Row J wr.heap.size zT/\kZ wr J/\J.heap.size=wr.heap.size+1):=by rw[<-h9.out];exact⟨aE wr _ _,aC wr _,UB _ _⟩
    have F2:Hid (Row R wr.heap.size (wn n++aA p)/\kZ wr R):=by rw[<-h1.out];exact⟨F1.1.put (by rw[y];rfl),RG.below_setCells (Uw _) _ _ _ F1.2.1⟩
    have P:Hid ((prog.info? 226).map (·.size)=some (wn n++aA p).length):=by show _=_;rw[y];exact iT
    have M:Hid ((prog.info? 226).map (·.size)=some (wn n++aA p).toArray.size/\J.there wr.heap.size 0 (wn n++aA p).toArray.size):=by
     have e:(wn n++aA p).toArray.size=37:=by rw[VC];exact y
     rw[e];exact⟨iT,F1.1.2.2⟩
    have Z:Hid ((wn n++aA p).toArray.all (·.oneCell')=true):=by
     show _=_;rw[Xa];intro u f;exact cells_one n p u (X8.1 f)
    have hw:=atT g 0 l.length c j k;obtain⟨vt,h2⟩:∃v,Hid (tvl n p=v):=⟨_,rfl⟩
    have f:Hid (U3 (wn n++aA p).toArray=vt):=h2;have K2:Hid (Dz d w R g l j):=I.grow F2.2;have HN:=Hid.mk' (I2 hi.out h4.out R);rw[h2.out]at HN;clear I;go_wp2_with (first|(refine U6 rfl 226 _ rfl g (37*j) ?_ (wn n++aA p) d' ?_ ?_ ?_ ?_ ?_;rfl;exact B0.out;exact U.1;exact U.2;exact P.out;rw[f.out])|(refine bG (v:=jZ wr.heap.size) (w':=J) rfl (.alloc 226) rfl ?_ ?_;(rw[<-h9.out];kernel_rfl))|(refine U2 rfl 226 _ _ rfl wr.heap.size 0 (wn n++aA p).toArray ?_ ?_ ?_ ?_ ?_ ?_;rfl;exact f.symm;exact M.2;exact M.1;exact Z.out;rw[show(wn n++aA p).toArray.toList=wn n++aA p from rfl,h1.out])|(refine U6 rfl 226 _ rfl wr.heap.size 0 ?_ (wn n++aA p) d' ?_ ?_ ?_ ?_ ?_;rfl;exact F2.1.2.1;exact U.1;exact U.2;exact P.out;rw[f.out])|fail)
    refine HN.mono ?_;rintro e W3 ⟨vv,rfl,N,rfl⟩;have K3:Hid (Dz d w W3 g l j/\Row W3 wr.heap.size (wn n++aA p)):=⟨K2.grow N,F2.1.below N⟩
    clear N K2 HN F2 F1;by_cases L:n=0
    ·rw[show decide (n=0)=true by simp[L]];have K4:Hid (Dz d w W3 g l (j+1)):=K3.1.skip k (by rw[r.out];exact L);have T:Hid ((LF (l.take (j+1))).length=i):=by
      show _=_;rw[oO k,yCl (by rw[r.out];exact L),Xw];exact o.out
     go_wp2;go_roundg (gk-1)
     case measure=>omega
     case rel=>exact⟨j+1,oM,oM,rfl,by rw[T.out],K4⟩
    ·rw[show decide (n=0)=false by simp[L]];obtain⟨W4,h3⟩:∃W4,Hid (W3.setCells g (37*i) (wn n++aA p)=W4):=⟨_,rfl⟩
     have K4:Hid (Dz d w W4 g l (j+1)):=by
      have h:=K3.1.put K.1 K.2.2.1 k (by rw[r.out];exact L);rw[o.out,r.out,Q.out,h3.out]at h;exact h
     have T:Hid ((LF (l.take (j+1))).length=i+1):=by
      show _=_;rw[oO k,yCm (by rw[r.out];exact L),UA,o.out];rfl
     have hl:Hid (W3.there g (37*i) (wn n++aA p).toArray.size):=by
      have e:(wn n++aA p).toArray.size=37:=by rw[VC];exact y
      rw[e];intro t ht;have:=K3.1.th (37*i+t) oM;rwa[UD]at this
     have hm:=atT g 0 l.length c i s;go_wp2_with (first|(refine U6 rfl 226 _ rfl wr.heap.size 0 ?_ (wn n++aA p) d' ?_ ?_ ?_ ?_ ?_;rfl;exact K3.2.2.1;exact U.1;exact U.2;exact P.out;rw[f.out])|(refine U2 rfl 226 _ _ rfl g (37*i) (wn n++aA p).toArray ?_ ?_ ?_ ?_ ?_ ?_;rfl;exact f.symm;exact hl.out;exact M.1;exact Z.out;rw[show(wn n++aA p).toArray.toList=wn n++aA p from rfl,h3.out])|fail)
     go_roundg (gk-1)
     case measure=>omega
     case rel=>exact⟨j+1,oM,oM,rfl,by rw[T.out];rfl,K4⟩
   ·have hk:¬(j:Int)<(l.length:Int):=oM;obtain rfl:j=l.length:=oM;have H:LF (l.take l.length)=LF l:=by rw[yA1]
    rw[H];have s:(LF l).length<l.length:=by have:=HZ.out l.length V (Uw _);rw[H]at this;exact this
    have y:∀a (O:a<(LF l).length),Rw wr g a ((LF l)[a]):=λa O=>by
     have:=I.lo a (by rw[H];exact O);simp only[H]at this;exact this
    have f:∀x∈LF l,(wn x.1++aA x.2).length=37:=λx hx=>gJ (K.2.2.1 _ (Vn.2 ⟨x,Br hx,rfl⟩))
    obtain⟨Z,N⟩:=MU g (LF l).length (l.length-(LF l).length) (c-(LF l).length) wr oM (by rw[show(LF l).length+(l.length-(LF l).length)=l.length by omega];exact I.th);obtain⟨J,r⟩:∃J,Hid (wr.setCells g (37*(LF l).length) Z=J):=⟨_,rfl⟩
    rw[r.out]at N;have P:Hid (Below d w J/\TmL J (some (aZ g)) (LF l)):=by
     rw[<-r.out];refine⟨RG.below_setCells K.1 _ _ _ I.bl,λ_=>⟨g,rfl,by rw[setCells_size];exact I.lt,λa O=>?_⟩⟩;exact Vh (y a O) g _ _ (UX (U4 (by rw[f _ (VH O)];omega)))
    have L:=Tn g l.length c (LF l).length s K.2.1;have M:=To g l.length c (LF l).length oM K.2.1;clear I y f H r;obtain⟨i,o⟩:∃i,Hid ((LF l).length=i):=⟨_,rfl⟩
    rw[o.out]at L M N s⊢;go_wp2;go_ret;exact⟨_,rfl,P.1,some (aZ g),c,by rw[o.out];rfl,P.2⟩
theorem QD{p:Option Ww}{n:Nat}{x:UInt8}:encB x≠.slice p n c:=λh=>by cases h
def El(n:Nat)(W:Ur)(x:Ut)(b:Bs):Prop:=∃k c,x=sZ k n c/\n<=c/\b.size=n/\k<W.heap.size/\Holds encB W k 0 b
def isL(n:Nat)(W:Ur)(g:Nat):Prop:=∃p c,W.cell? ⟨g,0,none⟩=some (.slice p n c)
structure Gr(n:Nat)(v:Ut)(W W':Ur):Prop where
 gr:W.grownBy W' v.ownBlock
 is:∀g,v.ownBlock=some g->isL n W g
theorem Gr.of{n:Nat}(h:kZ W W'):Gr n (.slice none 0 0) W W':=
 ⟨⟨h.os,h.tape,h.output,h.size,λk b _=>h.block k b⟩,λg c=>by cases c⟩
theorem Gr.below{n:Nat}{v:Ut}{w:Ur}{B:Nat}(h:Gr n v W W')(d:Below B w W)(b:B<=W.heap.size)(hv:∀g,v.ownBlock=some g->B<=g):Below B w W':=
 d.grown h.gr b (λk c=>hv k c)
theorem Gr.block{n k:Nat}{v:Ut}(h:Gr n v W W')(d:k<W.heap.size)(b:∀p c,W.cell? ⟨k,0,none⟩≠some (.slice p n c)):W'.heap[k]? = W.heap[k]? :=
 h.gr.block k d λe=>by
  obtain⟨p,c,f⟩:=h.is k e.symm;exact b p c f
theorem Holds.kept{k:Nat}(h:Holds encB W k 0 b)(e:W'.heap[k]? = W.heap[k]?):Holds encB W' k 0 b:=λj c=>by
 rw[UW (a:=⟨k,0+j,none⟩) e,VU (a:=⟨k,0+j,none⟩) e];exact h j c
theorem El.kept{m n:Nat}{v x:Ut}(h:El m W x b)(l:0<m)(d:Gr n v W W'):El m W' x b:=by
 obtain⟨k,c,rfl,i,g,f,e⟩:=h;refine⟨k,c,rfl,i,g,Ux f d.gr.size,Holds.kept e (d.block f λp o j=>?_)⟩;have:=(e 0 oM).1;rw[UD,j]at this;exact QD (UO.inj this).symm
theorem Row.kept{n k:Nat}{v:Ut}(h:Row W k vs)(g:Gr n v W W')(d:∀p c,vs[0]?≠some (.slice p n c))(f:0<vs.length):Row W' k vs:=by
 have e:=g.block h.1 λp c i=>by
  have b:=h.2.1 0 vs[0] (UG f);rw[UD,i]at b;exact d p c (by rw[UG f,b])
 refine⟨Ux h.1 g.gr.size,λj u b=>?_,λj b=>?_⟩
 ·rw[UW (a:=⟨k,0+j,none⟩) e];exact h.2.1 j u b
 ·rw[UW (a:=⟨k,0+j,none⟩) e,VU (a:=⟨k,0+j,none⟩) e];exact h.2.2 j b
structure Lo(n base:Nat)(W:Ur)(v:Ut)(bs:List Bs):Prop where
 ex:∃xs:List Ut,xs.length=bs.length/\W.ownsRow base 23 1 v bs.length xs/\∀(j:Nat) (x:Ut) (b:Bs),xs[j]? = some x->bs[j]? = some b->El n W x b
 nil:bs=[]->v=.slice none 0 0
theorem Lo.begin(n k:Nat)(W:Ur):Lo n k W (.slice none 0 0) []:=⟨⟨[],rfl,yAJ _ _ _ _,λj x b h=>by cases h⟩,λ_=>rfl⟩
theorem add0(g j:Nat):(⟨g,0,none⟩:Ww).add j=⟨g,j,none⟩:=by unfold Zk;split<;>simp_all
theorem Lo.isL{n:Nat}{v:Ut}{j:List Bs}(h:Lo n d W v j)(i:v.ownBlock=some g):isL n W g:=by
 obtain⟨xs,l,o,m⟩:=h.ex;have f:j≠[]:=λe=>by rw[h.nil e]at i;cases i
 cases j with
 | nil=>exact absurd rfl f
 | cons b r =>
  cases xs with
  | nil=>cases l
  | cons x xr =>
   obtain⟨k,c,rfl,-⟩:=m 0 x b rfl rfl;have:=o.cells i 0 _ rfl;rw[add0]at this;exact⟨_,_,this⟩
theorem Lo.lt{n k:Nat}{v:Ut}{c:List Bs}(h:Lo n k W v c):∀g,v.ownBlock=some g->k<=g/\g<W.heap.size:=by
 obtain⟨xs,d,b,e⟩:=h.ex;exact b.lt
theorem Lo.kept{m n:Nat}{v q:Ut}{l:List Bs}(h:Lo m d W v l)(o:0<m)(i:Gr n q W W')(f:m≠n):Lo m d W' v l:=by
 have r:=λ{g}=>h.isL (g:=g)
 obtain⟨xs,t,s,u⟩:=h.ex;refine⟨⟨xs,t,s.kept i.gr ?_,λj x b hx w=>(u j x b hx w).kept o i⟩,h.nil⟩;cases hv:v.ownBlock with
 | none=>exact U4 rfl
 | some g =>
  refine UX λe=>f ?_
  obtain⟨p,c,y⟩:=r hv;obtain⟨z,a,k⟩:=i.is g e.symm;rw[y]at k;injection k with k
  injection k with _ h5 _
theorem RP:(prog.info? 23).map (λi=>(i.size,i.bytes,i.zero.map λz=>z.cells.size))=some (1,24,some 1):=kR
theorem Td:prog.underlying 24=some (.slice 23):=kR
theorem Lo.app{n:Nat}{v x:Ut}{o:List Bs}(h:Lo n f W v o)(t:0<n)(hx:El n W x b)(M:W.cell? ⟨g,0,none⟩=some x)(Q:o.length<=1000000)(I:f<=W.heap.size):
 ∃q W',(Vt #[24,24] 24 #[v,sZ g 1 1]).run prog W=.ok q W'/\Lo n f W' q (o++[b])/\Gr n v W W':=by
 obtain⟨i,K,a⟩:=Uy.1 RP;simp only[V8.injEq]at a;obtain⟨E,C,F⟩:=a;obtain⟨z,J,r⟩:=Uy.1 F;obtain⟨xs,w,A,N⟩:=h.ex;obtain⟨q,W',L,H,B,O⟩:=Y3 (P:=prog) W f 24 24 23 i z 1 24 Td K J E C r dC v o.length xs A (aZ g) 1 1 [x] rfl
  (λj u s=>by
   cases j with
   | zero =>
    obtain rfl:x=u:=by simpa using s
    rw[add0];exact M
   | succ j=>simp at s) (λu l=>by
   obtain rfl:u=x:=by simpa using l
   obtain⟨k,c,rfl,-⟩:=hx;rfl) (by unfold maxLen;omega) oM I
 have G:Gr n v W W':=⟨B,λg D=>h.isL D⟩
 refine⟨q,W',L,⟨⟨xs++[x],by simp[w],by rw[UA];exact H,λj y c m l=>?_⟩,λe=>by simp at e⟩,G⟩;by_cases s:j<o.length
 ·rw[UT oM]at m l;exact(N j y c m l).kept t G
 ·rw[U1 oM]at m l;rw[w]at m;cases p:j-o.length with
  | zero =>
   rw[p]at m l;obtain rfl:x=y:=by simpa using m
   obtain rfl:b=c:=by simpa using l
   exact hx.kept t G
  | succ d=>rw[p]at m;simp at m
theorem Gv{a:Bs}(f:a.size=33)(w:Ur):UH prog 142 #[pvl a] w (rZ w λe w'=>El 33 w' e a):=by
 have g:=Hid.mk' (rM f w);obtain⟨c,b⟩:=hE (w.alloc (.cells (aA a).toArray 103));rw[b.out]at g;have K:Hid (Row c w.heap.size (aA a)/\kZ w c):=by rw[<-b.out];exact⟨aE w _ _,aC w _⟩
 obtain⟨va,k⟩:=hE (pvl a);have d:Hid ((Ve 103 va).run prog w=.ok (jZ w.heap.size) c):=by rw[<-k.out];exact g
 rw[k.out];have i:=QM w.heap.size;go_enter func142,ntmps142;go_wp2_with (first|(refine aF (u:=va) (v:=jZ w.heap.size) (w':=c) rfl 103 (.tmp 0) rfl ?_ ?_ ?_;rfl;exact d.out))
 go_ret;exact⟨_,rfl,K.2,w.heap.size,33,rfl,oM,f,K.1.1,row_holds K.1⟩
def Bo(n c:Nat)(W:Ur)(v:Ut)(b:Bs):Prop:=∃k x,v=sZ k 1 1/\c<=k/\k<W.heap.size/\W.cell? ⟨k,0,none⟩=some x/\El n W x b
theorem Bo.kept{m n:Nat}{v u:Ut}(h:Bo n d W v b)(i:0<n)(c:Gr m u W W')(j:∀g,u.ownBlock=some g->g<d):Bo n d W' v b:=by
 obtain⟨k,x,rfl,o,f,p,l⟩:=h;refine⟨k,x,rfl,o,Ux f c.gr.size,?_,l.kept i c⟩;rw[UW (a:=⟨k,0,none⟩) (c.gr.block k f λe=>by have:=j k e.symm;omega)];exact p
def Tm(W:Ur)(q:Option Ww)(k:Nat)(ns:Nat->Nat)(b:Nat->Bs):Prop:=0<k->∃g,q=some (aZ g)/\g<W.heap.size/\∀j,j<k->W.rangeAt g (37*j) (wn (ns j)++aA (b j))
theorem Tm.kept{m k:Nat}{u:Ut}{q:Option Ww}{ns:Nat->Nat}{b:Nat->Bs}(h:Tm W q k ns b)(f:Gr m u W W'):Tm W' q k ns b:=λo=>by
 obtain⟨g,r,d,l⟩:=h o;refine⟨g,r,Ux d f.gr.size,λj s i v hv=>?_⟩;have e:=f.block d λp c t=>by
  have n:=l 0 o 0 _ (show(wn (ns 0)++aA (b 0))[0]? = some _ from rfl);rw[show 37*0+0=0 from rfl,t]at n;cases n
 rw[UW (a:=⟨g,37*j+i,none⟩) e];exact l j s i v hv
section
variable (w0:Ur) (v3 v4:Ut) (k6 n B0 base:Nat) (p:Bs) (bs cs:List Bs) (q:Option Ww) (k:Nat) (ns:Nat->Nat) (az:Nat->Bs)
def PR:Nat->Ut->Ur->Prop
 | 0,v,_=>v=v3
 | 1,v,_=>v=jZ k6
 | 2,v,_=>v=nv n
 | 3,v,w=>El 32 w v (bx n)
 | 4,v,w=>Bo 32 B0 w v (bx n)
 | 5,v,w=>Lo 32 base w v (bs++[bx n])
 | 6,v,_=>v=v4
 | 7,v,_=>v=oZ k6 4
 | 8,v,_=>v=pvl p
 | 9,v,w=>El 33 w v p
 | 10,v,w=>Bo 33 B0 w v p
 | 11,v,w=>Lo 33 base w v (cs++[p])
 | 12,v,w=>Lo 32 base w v (bs++[bx n])
 | 13,v,w=>Lo 33 base w v (cs++[p])
 | _,_,_=>True
def PBs:Nat->Ur->Prop
 | 0,w=>Row w k6 (wn n++aA p)
 | 1,w=>Lo 32 base w v3 bs
 | 2,w=>Lo 33 base w v4 cs
 | 3,w=>Below base w0 w/\base<=w.heap.size/\B0<=w.heap.size
 | 4,w=>Tm w q k ns az
 | 5,w=>Row w base z33
 | _,_=>True
def PE:Nat->Ur->Ur->Prop
 | 5=>Gr 32 v3
 | 11=>Gr 33 v4
 | _=>Gr 0 (.slice none 0 0)
def Pk1:Nat->List Nat
 | 4=>[5]
 | 10=>[11]
 | _=>[]
def Pk2:Nat->List Nat
 | 1=>[5]
 | 2=>[11]
 | _=>[]
def FP:Flow:=⟨PR v3 v4 k6 n B0 base p bs cs,PBs w0 v3 v4 k6 n B0 base p bs cs q k ns az,PE v3 v4,Pk1,Pk2⟩
theorem Kv{w w':Ur}(h:PE v3 v4 i w w'):∃m u,Gr m u w w'/\((i=5/\m=32/\u=v3)\/(i=11/\m=33/\u=v4)\/(i≠5/\i≠11/\m=0/\u=.slice none 0 0)):=by
 unfold PE at h;split at h
 ·exact⟨_,_,h,U4 ⟨rfl,rfl,rfl⟩⟩
 ·exact⟨_,_,h,UX (U4 ⟨rfl,rfl,rfl⟩)⟩
 ·rename_i h1 h2
  exact⟨_,_,h,UX (UX ⟨h1,h2,rfl,rfl⟩)⟩
variable (hv3:∀g,v3.ownBlock=some g->base<=g/\g<B0) (hv4:∀g,v4.ownBlock=some g->base<=g/\g<B0)
include hv3 hv4
theorem Ku{m:Nat}{u:Ut}(h:(i=5/\m=32/\u=v3)\/(i=11/\m=33/\u=v4)\/(i≠5/\i≠11/\m=0/\u=.slice none 0 0)):∀g,u.ownBlock=some g->base<=g/\g<B0:=by
 rcases h with⟨-,-,rfl⟩|⟨-,-,rfl⟩|⟨-,-,-,rfl⟩
 ·exact hv3
 ·exact hv4
 ·intro g k;cases k
theorem Qn(i j:Nat)(s:j<14)(c:i≠j)(t:(Pk1 j).contains i=false)(o:¬(j=12/\i=5))(d:¬(j=13/\i=11))(v:Ut)(w w':Ur)(hE:PE v3 v4 i w w')(hR:PR v3 v4 k6 n B0 base p bs cs j v w):PR v3 v4 k6 n B0 base p bs cs j v w':=by
 obtain⟨m,u,k,q⟩:=Kv v3 v4 hE;have r:=Ku v3 v4 B0 base hv3 hv4 q;have f:m=32->i=5:=λh=>by rcases q with⟨o,-⟩|⟨-,d,-⟩|⟨-,-,d,-⟩<;>omega
 have l:m=33->i=11:=λh=>by rcases q with⟨-,d,-⟩|⟨o,-⟩|⟨-,-,d,-⟩<;>omega
 match j,s,hR with
 | 0,_,h=>exact h
 | 1,_,h=>exact h
 | 2,_,h=>exact h
 | 3,_,h=>exact El.kept h dC k
 | 4,_,h=>exact Bo.kept h dC k λg b=>(r g b).2
 | 5,_,h=>exact Lo.kept h dC k λe=>c (f e.symm)
 | 6,_,h=>exact h
 | 7,_,h=>exact h
 | 8,_,h=>exact h
 | 9,_,h=>exact El.kept h dC k
 | 10,_,h=>exact Bo.kept h dC k λg b=>(r g b).2
 | 11,_,h=>exact Lo.kept h dC k λe=>c (l e.symm)
 | 12,_,h=>exact Lo.kept h dC k λe=>o ⟨rfl,f e.symm⟩
 | 13,_,h=>exact Lo.kept h dC k λe=>d ⟨rfl,l e.symm⟩
 | _+14,s,_=>omega
theorem Nn(i b:Nat)(f:(Pk2 b).contains i=false)(w w':Ur)(hE:PE v3 v4 i w w')(hR:PBs w0 v3 v4 k6 n B0 base p bs cs q k ns az b w):PBs w0 v3 v4 k6 n B0 base p bs cs q k ns az b w':=by
 obtain⟨m,u,d,r⟩:=Kv v3 v4 hE;have t:=Ku v3 v4 B0 base hv3 hv4 r;have o:m=32->i=5:=λh=>by rcases r with⟨v,-⟩|⟨-,l,-⟩|⟨-,-,l,-⟩<;>omega
 have s:m=33->i=11:=λh=>by rcases r with⟨-,l,-⟩|⟨v,-⟩|⟨-,-,l,-⟩<;>omega
 match b,f,hR with
 | 0,_,h=>exact Row.kept h d (λp c e=>by cases e) (by rw[UA];exact Ux dC (Za 4 _))
 | 1,f,h=>exact Lo.kept h dC d λe=>by rw[o e.symm]at f;cases f
 | 2,f,h=>exact Lo.kept h dC d λe=>by rw[s e.symm]at f;cases f
 | 3,_,h=>exact⟨d.below h.1 h.2.1 λg j=>(t g j).1,UC h.2.1 d.gr.size,UC h.2.2 d.gr.size⟩
 | 4,_,h=>exact Tm.kept h d
 | 5,_,h=>exact Row.kept h d (λp c e=>by cases e) dC
 | _+6,_,_=>trivial
end
theorem Lo.drew{n k:Nat}{v:Ut}{b:List Bs}(h:Lo n k W v b):Lo n k W.drew v b:=⟨h.ex,h.nil⟩
theorem SumR.all(C:Fld P)(O:Ord N){w w':Ur}{k:Nat}(y:k<=512){ns:Nat->Nat}{X:Nat->EC.Pt P}(l:∀j,j<k->ns j<N)(u:∀j,j<k->On (X j)){L M:Nat->Bs}(v:∀j,j<k->L j=bx (ns j))(t:∀j,j<k->M j=wr (X j)){e:Ut}(h:SumR P N w k k L M e w'):
 Hd w (wr (tot X k (λj=>(ns j:Int)))) e w':=by
 have r:∀j,j<k->rq N (L j)=some (ns j):=λj b=>by
  rw[v j b];have c:=Bm (Ux (l j b) O.le);unfold rq;rw[yCl ⟨eE _,by rw[c];exact l j b⟩,c]
 have q:∀j,j<k->∃p,rd P (M j)=some p/\pt p=X j:=λj b=>by rw[t j b];exact zM C (u j b)
 rcases h with⟨h,-⟩|⟨-,h,-⟩|⟨-,-,⟨⟨j,b,c⟩,-⟩|⟨d,n,⟨⟨j,b,c⟩,-⟩|⟨xs,ys,o,h⟩⟩⟩
 ·exact absurd rfl h
 ·omega
 ·rw[r j b]at c;cases c
 ·obtain⟨p,f,-⟩:=q j b;rw[f]at c;cases c
 ·have s:∀j,j<k->d j=ns j:=λj b=>by
   have:=n j b;rw[r j b]at this;exact(UO.inj this).symm
  have f:∀j,j<k->Pair (xs j) (ys j) (X j)/\On (X j):=λj b=>by
   obtain⟨p,f,hpt⟩:=q j b;have m:=o j b;rw[f]at m;have x:=UO.inj m;have g:=QW C f;rw[hpt]at g;rw[x]at g;exact g
  have m:=BF C (ns:=d) (xs:=xs) (ys:=ys) (p:=X) (N:=k) (λi g=>by rw[s i g];exact Ux (l i g) O.le) (λi g=>(f i g).1) (λi g=>(f i g).2);have x:tot X k (λj=>(d j:Int))=tot X k (λj=>(ns j:Int)):=eJ k λj b=>by rw[s j b]
  rw[x]at m;rw[<-vM C (m.pair C) m.2];exact h
structure Pz(w W:Ur)(q:Option Ww)(k i:Nat)(ns:Nat->Nat)(az:Nat->Bs)(s3 s4:Ut):Prop where
 bl:kZ w W
 l3:Lo 32 w.heap.size W s3 ((VG i).map λj=>bx (ns j))
 l4:Lo 33 w.heap.size W s4 ((VG i).map az)
 tm:Tm W q k ns az
 r2:Row W w.heap.size z33
theorem El.of_made{w w':Ur}{k n:Nat}(h:Made w k (cb b) w')(c:b.size=n):El n w' (sZ k n n) b:=⟨k,n,rfl,Uw _,c,h.lt,cb_holds h.range h.there⟩
theorem Bo.of{n k:Nat}{w:Ur}{x:Ut}(h:El n w x b)(c:0<n)(d:k<=w.heap.size)(T:U8):Bo n k (w.alloc (.cells #[x] T)) (sZ w.heap.size 1 1) b:=
 ⟨w.heap.size,x,rfl,d,by rw[UB];omega,by rw[World.cell?_alloc_new];rfl,h.kept c (Gr.of (n:=0) (aC w _))⟩
theorem Lo.args{n k:Nat}{v:Ut}{c:List Bs}(h:Lo n k W v c):∃q cap,v=.slice q c.length cap/\(0<c.length->∃g,q=some (aZ g)/\g<W.heap.size/\∀(j:Nat) (b:Bs),c[j]? = some b->∃x,W.cell? ⟨g,j,none⟩=some x/\El n W x b):=by
 obtain⟨xs,l,d,m⟩:=h.ex;have i:=λ{g:Nat}=>d.cells (g:=g)
 rcases d.2 with⟨rfl,o⟩|⟨g,cap,cur,rfl,-,p,-⟩
 ·exact⟨none,0,by rw[o],λh=>oM⟩
 ·refine⟨_,_,rfl,λ_=>⟨g,rfl,(UZ.1 p).1,λj b e=>?_⟩⟩;have f:j<xs.length:=by rw[l];exact(UF.1 e).1
  have:=i (g:=g) rfl j xs[j] (UG f);rw[add0]at this;exact⟨_,this,m j _ b (UG f) e⟩
theorem El.arg{x:Ut}(h:El 32 W x b):Arg W x b:=by
 obtain⟨k,c,rfl,d,f,e,g⟩:=h;exact⟨_,_,_,rfl,f,λ_=>⟨k,0,rfl,d,e,g⟩⟩
theorem El.arg33{x:Ut}(h:El 33 W x b):Arg33 W x b:=by
 obtain⟨k,c,rfl,d,f,e,g⟩:=h;exact⟨_,_,_,rfl,f,λ_=>⟨k,0,rfl,d,e,g⟩⟩
theorem Dd(C:Fld P)(O:Ord N)(v:Ut)(w:Ur)(k:Nat)(hk:k<=512)(ns:Nat->Nat)(X:Nat->EC.Pt P)(hn:∀j,j<k->ns j<N)(hX:∀j,j<k->On (X j))
 (D:∀W,kZ w W->UH prog 140 #[v] W (rZ W λe w'=>∃q cap,e=.slice q k cap/\Tm w' q k ns (λj=>wr (X j)))) :
 UH prog 67 #[v] w (rZ w λe w'=>e=pvl (wr (tot X k (λj=>(ns j:Int))))):=by
 have HM:=Hid.mk' D;have z:Hid (Fld P/\Ord N/\(∀j,j<k->ns j<N)/\∀j,j<k->On (X j)):=⟨C,O,hn,hX⟩
 obtain⟨s,K⟩:∃s:Nat->Bs,Hid ((λj=>wr (X j))=s):=⟨_,rfl⟩
 have F:Hid (∀j,s j=wr (X j)):=λj=>by rw[<-K.out]
 rw[K.out]at HM;obtain⟨U,I⟩:∃U,Hid (w.alloc (.cells z33.toArray 103)=U):=⟨_,rfl⟩
 have K1:Hid (Row U w.heap.size z33/\kZ w U):=by rw[<-I.out];exact⟨aE w _ _,aC w _⟩
 obtain⟨d,Z,h8⟩:=Uy.1 uCP;obtain⟨d',ha,hc⟩:=Uy.1 uT;have HD:Hid ((prog.underlying 103=some d/\d.isRow=true)/\prog.underlying 226=some d'/\d'.isRow=true):=⟨⟨Z,h8⟩,ha,hc⟩
 clear Z h8 ha hc D hn hX K C O;go_enter func67,ntmps67;go_wp2_with (refine bG (v:=jZ w.heap.size) (w':=U) rfl (.alloc 103) rfl ?_ ?_;(rw[<-I.out];kernel_rfl))
 clear I;refine(HM U K1.2).mono ?_;rintro e w2 ⟨vv,rfl,S,q,cap,rfl,Y⟩;have K2:Hid (Pz w w2 q k 0 ns s (.slice none 0 0) (.slice none 0 0)):=⟨K1.2.trans (S.mono K1.2.size),Lo.begin _ _ _,Lo.begin _ _ _,Y,K1.1.below S⟩
 clear S Y K1 HM;go_wp2_with fail
 go_loopg [3,4,12] k (λm s3 s4 s12 W=>∃i:Nat,i+m=k/\s12=iZ i/\Hid (Pz w W q k i ns s s3 s4))
 case atStart=>exact⟨0,oM,rfl,K2⟩
 case round =>
  clear K2;obtain⟨i,k1,rfl,l⟩:=hrel;by_cases hi:i<k
  ·have hw:(i:Int)<(k:Int):=oM;obtain⟨g,hq,A,hr⟩:=l.tm oM;subst hq;obtain⟨n,H⟩:∃n,Hid (ns i=n):=⟨_,rfl⟩
   obtain⟨p,R⟩:∃p,Hid (s i=p):=⟨_,rfl⟩
   have B0:Hid (wr.rangeAt g (37*i) (wn n++aA p)):=by
    have h:=hr i hi;rw[H.out,R.out]at h;exact h
   have Q:Hid (p.size=33):=by rw[<-R.out,F.out i];exact aT _
   have hz:Hid (n<N):=by rw[<-H.out];exact z.2.2.1 i hi
   obtain⟨E,hl⟩:∃E,Hid (wr.alloc (.cells zT.toArray 226)=E):=⟨_,rfl⟩
   obtain⟨r,h9⟩:∃r,Hid (E.setCells wr.heap.size 0 (wn n++aA p)=r):=⟨_,rfl⟩
   have f:(wn n++aA p).length=37:=by rw[UA,aB Q.out];rfl
   have F1:Hid (Row E wr.heap.size zT/\kZ wr E/\E.heap.size=wr.heap.size+1):=by rw[<-hl.out];exact⟨aE wr _ _,aC wr _,UB _ _⟩
   have B:Hid (Row r wr.heap.size (wn n++aA p)/\kZ wr r):=by rw[<-h9.out];exact⟨F1.1.put (by rw[f];rfl),RG.below_setCells (Uw _) _ _ _ F1.2.1⟩
   have hy:Hid ((prog.info? 226).map (·.size)=some (wn n++aA p).length):=by show _=_;rw[f];exact iT
   have h5:Hid ((prog.info? 226).map (·.size)=some (wn n++aA p).toArray.size/\E.there wr.heap.size 0 (wn n++aA p).toArray.size):=by
    have e:(wn n++aA p).toArray.size=37:=by rw[VC];exact f
    rw[e];exact⟨iT,F1.1.2.2⟩
   have ht:Hid ((wn n++aA p).toArray.all (·.oneCell')=true):=by
    show _=_;rw[Xa];intro u c;exact cells_one n p u (X8.1 c)
   have k0:=atT g 0 k cap i hi;obtain⟨vt,t⟩:∃v,Hid (U3 (wn n++aA p).toArray=v):=⟨_,rfl⟩
   have G2:Gr 0 (.slice none 0 0) wr r:=Gr.of B.2;have HB:Hid (∀b,PBs w u3 u4 wr.heap.size n r.heap.size w.heap.size p ((VG i).map λj=>bx (ns j)) ((VG i).map s) (some (aZ g)) k ns s b r.drew):=λb=>by
    match b with
    | 0=>exact B.1
    | 1=>exact(l.l3.kept dC G2 dC).drew
    | 2=>exact(l.l4.kept dC G2 dC).drew
    | 3=>exact⟨(l.bl.trans (B.2.mono l.bl.size)).drew,UC l.bl.size B.2.size,Uw _⟩
    | 4=>exact l.tm.kept (W':=r) G2
    | 5=>exact l.r2.below (W':=r) B.2
    | _+6=>trivial
   have H3:Hid (∀g,u3.ownBlock=some g->w.heap.size<=g/\g<r.heap.size):=λg A=>⟨(l.l3.lt g A).1,Ux (l.l3.lt g A).2 B.2.size⟩
   have H4:Hid (∀g,u4.ownBlock=some g->w.heap.size<=g/\g<r.heap.size):=λg A=>⟨(l.l4.lt g A).1,Ux (l.l4.lt g A).2 B.2.size⟩
   have HG:=Hid.mk' A;clear f hr G2 l B A;go_wp2_with (first|(refine U6 rfl 226 _ rfl g (37*i) ?_ (wn n++aA p) d' ?_ ?_ ?_ ?_ ?_;rfl;exact B0.out;exact HD.2.1;exact HD.2.2;exact hy.out;rw[t.out])|(refine bG (v:=jZ wr.heap.size) (w':=E) rfl (.alloc 226) rfl ?_ ?_;(rw[<-hl.out];kernel_rfl))|(refine U2 rfl 226 _ _ rfl wr.heap.size 0 (wn n++aA p).toArray ?_ ?_ ?_ ?_ ?_ ?_;rfl;exact t.symm;exact h5.2;exact h5.1;exact ht.out;rw[show(wn n++aA p).toArray.toList=wn n++aA p from rfl,h9.out])|fail)
   refine qG (FP w u3 u4 wr.heap.size n r.heap.size w.heap.size p ((VG i).map λj=>bx (ns j)) ((VG i).map s) (some (aZ g)) k ns s) kR ⟨kR,CC ?_,λi' j k2 hj hs L y=>Qn u3 u4 wr.heap.size n r.heap.size w.heap.size p _ _ H3.out H4.out i' j hj hs L (λh=>by rw[h.1,h.2]at y;exact absurd (show false=true from y.symm.trans kR) dC) (λh=>by rw[h.1,h.2]at y;exact absurd (show false=true from y.symm.trans kR) dC),λi' b _ L=>Nn w u3 u4 wr.heap.size n r.heap.size w.heap.size p _ _ _ k ns s H3.out H4.out i' b L⟩ HB.out ?_
   ·have o:∀W:Ur,Gr 0 (.slice none 0 0) W W:=λW=>Gr.of (UR _ _)
    refine⟨mI 3 λa W c=>⟨a.eval (.tmp 3),W,kR,kR,o W,c.o 3 kR⟩,
     mI 6 λa W c=>⟨jZ wr.heap.size,W,kR,by rw[show a.eval (.tmp 6)=jZ wr.heap.size from c.o 6 kR];kernel_rfl,o W,rfl⟩,
     Bg 49 17 rfl u40 λa W c=>⟨wr.heap.size,0,wn n,c.n 1 17 kR kR kR,kA (show Row W wr.heap.size (wn n++aA p) from c.b 0 kR).2.1,i40,o W,rfl⟩,
     FH 18 λa W c=>⟨141,#[nv n],kR,by rw[show a.eval (.tmp 18)=nv n from c.n 2 18 kR kR kR];kernel_rfl,(qO z.2.1 hz.out W).mono (by
      rintro e W' ⟨u,rfl,V,G,rfl⟩;exact⟨_,rfl,Gr.of G.bel,El.of_made G (eE n)⟩)⟩,
     mI 19 λa W c=>⟨sZ W.heap.size 1 1,W.alloc (.cells #[a.eval (.tmp 19)] 23),kR,by
      obtain⟨V,M,G,-⟩:=show El 32 W (a.eval (.tmp 19)) (bx n) from c.n 3 19 kR kR kR
      rw[G];kernel_rfl,Gr.of (aC W _),Bo.of (show El 32 W (a.eval (.tmp 19)) (bx n) from c.n 3 19 kR kR kR) dC (c.b 3 kR).2.2 _⟩,
     JU 16 20 24 rfl λa W c=>?_,
     mI 4 λa W c=>⟨a.eval (.tmp 4),W,kR,kR,o W,c.o 4 kR⟩,
     mI 6 λa W c=>⟨oZ wr.heap.size 4,W,kR,by rw[show a.eval (.tmp 6)=jZ wr.heap.size from c.o 6 kR];kernel_rfl,o W,rfl⟩,
     Bg 103 23 rfl uCP λa W c=>⟨wr.heap.size,4,aA p,c.n 7 23 kR kR kR,lT (xs:=wn n) (show Row W wr.heap.size (wn n++aA p) from c.b 0 kR).2.1,by rw[aB Q.out];exact cV,o W,rfl⟩,
     FH 24 λa W c=>⟨142,#[pvl p],kR,by rw[show a.eval (.tmp 24)=pvl p from c.n 8 24 kR kR kR];kernel_rfl,(Gv Q.out W).mono (by
      rintro e W' ⟨u,rfl,J,hE⟩;exact⟨_,rfl,Gr.of J,hE⟩)⟩,
     mI 25 λa W c=>⟨sZ W.heap.size 1 1,W.alloc (.cells #[a.eval (.tmp 25)] 23),kR,by
      obtain⟨V,M,G,-⟩:=show El 33 W (a.eval (.tmp 25)) p from c.n 9 25 kR kR kR
      rw[G];kernel_rfl,Gr.of (aC W _),Bo.of (show El 33 W (a.eval (.tmp 25)) p from c.n 9 25 kR kR kR) dC (c.b 3 kR).2.2 _⟩,
     JU 22 26 24 rfl λa W c=>?_,
     mI 21 λa W c=>⟨a.eval (.tmp 21),W,kR,kR,o W,c.n 5 21 kR kR kR⟩,
     mI 27 λa W c=>⟨a.eval (.tmp 27),W,kR,kR,o W,c.n 11 27 kR kR kR⟩,yCn⟩
    ·obtain⟨V,x,G,h1,h2,M,J⟩:=show Bo 32 r.heap.size W (a.eval (.tmp 20)) (bx n) from c.n 4 20 kR kR kR
     obtain⟨v',W',r1,r2,r3⟩:=Lo.app (show Lo 32 w.heap.size W u3 _ from c.b 1 kR) dC J M (by rw[UQ,XY];omega) (c.b 3 kR).2.1;refine⟨v',W',?_,r3,r2⟩;rw[G,show a.eval (.tmp 16)=u3 from c.n 0 16 kR kR kR];exact r1
    ·obtain⟨V,x,G,h1,h2,M,J⟩:=show Bo 33 r.heap.size W (a.eval (.tmp 26)) p from c.n 10 26 kR kR kR
     obtain⟨v',W',r1,r2,r3⟩:=Lo.app (show Lo 33 w.heap.size W u4 _ from c.b 2 kR) dC J M (by rw[UQ,XY];omega) (c.b 3 kR).2.1;refine⟨v',W',?_,r3,r2⟩;rw[G,show a.eval (.tmp 22)=u4 from c.n 6 22 kR kR kR];exact r1
   ·intro V G o c;have KN:Hid (Pz w G (some (aZ g)) k (i+1) ns s (V 12) (V 13)):=by
     have h1:=o 12 (Xl (VR kR)) rfl;have h2:=o 13 (Xl (VR kR)) rfl;refine⟨(c 3 rfl).1,?_,?_,c 4 rfl,c 5 rfl⟩
     ·rw[Y6,Wq];show Lo 32 w.heap.size G (V 12) (_++[bx (ns i)]);rw[H.out];exact h1
     ·rw[Y6,Wq];show Lo 33 w.heap.size G (V 13) (_++[s i]);rw[R.out];exact h2
    clear o c HB H3 H4;dsimp only[bU,VK];generalize V 12=s3 at KN⊢;generalize V 13=s4 at KN⊢;go_wp2;go_roundg (gk-1)
    case measure=>omega
    case rel=>exact⟨i+1,oM,rfl,KN⟩
  ·have hw:¬(i:Int)<(k:Int):=oM;obtain rfl:i=k:=oM;obtain⟨q3,c3,rfl,M⟩:=l.l3.args;obtain⟨q4,c4,rfl,J⟩:=l.l4.args;rw[UQ,XY]at M J;have HA:Hid (vT wr q3 i (λj=>bx (ns j))):=λQ=>by
    obtain⟨g,y,c,e3⟩:=M Q;refine⟨g,y,c,λj hj=>?_⟩;obtain⟨x,o,r⟩:=e3 j (bx (ns j)) (by rw[Vz,yAA hj];rfl);exact⟨x,o,r.arg⟩
   have HP:Hid (ArgsPts wr q4 i s):=λQ=>by
    obtain⟨g,y,c,e3⟩:=J Q;refine⟨g,y,c,λj hj=>?_⟩;obtain⟨x,o,r⟩:=e3 j (s j) (by rw[Vz,yAA hj];rfl);exact⟨x,o,r.arg33⟩
   rw[UQ,XY,UQ,XY];have y:Hid (kZ w wr/\Row wr w.heap.size z33):=⟨l.bl,l.r2⟩
   clear M J l;go_wp2_with fail
   refine(PK z.1 z.2.1.gap z.2.1.le q3 q4 i c3 i c4 (λj=>bx (ns j)) s wr HA.out HP.out).mono ?_;rintro e o ⟨vv,rfl,c,hS⟩;obtain⟨H,cs,rfl,-,-,R,G⟩:=SumR.all z.1 z.2.1 oM z.2.2.1 z.2.2.2 (λ_ _=>rfl) (λj _=>F.out j) hS;obtain⟨T,Y⟩:∃T,Hid (Go.Proofs.YtdoammpgchejcaaGreat.wr (tot X i (λj=>(ns j:Int)))=T):=⟨_,rfl⟩
   have L:T.size=33:=by rw[<-Y.out];exact aT _
   rw[Y.out]at G;have E:Hid (Row o w.heap.size z33/\kZ w o/\Row o H (aA T)):=⟨y.2.below c,y.1.trans (c.mono y.1.size),pW G R⟩
   clear c hS R G y HA HP;have V:=FV H cs;obtain⟨B,r⟩:∃B,Hid (o.setCells w.heap.size 0 (aA T)=B):=⟨_,rfl⟩
   have f:(aA T).length=33:=aB L;have K7:Hid (Row B w.heap.size (aA T)/\kZ w B):=by rw[<-r.out];exact⟨E.1.put (by rw[f];rfl),RG.below_setCells (Uw _) _ _ _ E.2.1⟩
   obtain⟨vt,t⟩:∃vt,Hid (U3 (aA T).toArray=vt):=⟨_,rfl⟩
   have A:Hid ((prog.info? 103).map (·.size)=some (aA T).length/\o.there w.heap.size 0 (aA T).toArray.size/\(prog.info? 103).map (·.size)=some (aA T).toArray.size):=by
    have e:(aA T).toArray.size=33:=by rw[VC];exact f
    refine⟨by rw[f];exact cV,by rw[e];exact E.1.2.2,by rw[e];exact cV⟩
   clear f;go_wp2_with (first|(refine U6 rfl 103 _ rfl H 0 ?_ (aA T) d ?_ ?_ ?_ ?_ ?_;rfl;exact E.2.2.2.1;exact HD.1.1;exact HD.1.2;exact A.1;rw[t.out])|(refine U2 rfl 103 _ _ rfl w.heap.size 0 (aA T).toArray ?_ ?_ ?_ ?_ ?_ ?_;rfl;exact t.symm;exact A.2.1;exact A.2.2;exact bW T;rw[show(aA T).toArray.toList=aA T from rfl,r.out]))
   refine UE (aG 2 103 rfl K7.1 rfl uCP A.1) rfl ?_;exact⟨_,rfl,K7.2,by rw[Y.out];rfl⟩
end
namespace EC
variable {P:Nat}[NeZero P]
def pts(P:Nat)[NeZero P]:List (Pt P):=
 none :: (yBz P).flatMap λx=>((yBz P).filter λy=>decide (y^2=x^3+7)).map λy=>some (x,y)
theorem mD(a:Pt P):a∈pts P↔On a:=by
 unfold pts;rcases a with _|⟨x,y⟩
 ·exact⟨λ_=>trivial,λ_=>Vu⟩
 ·rw[VX,yA2];constructor
  ·rintro(h|⟨u,-,h⟩)
   ·cases h
   ·obtain⟨v,hv,e⟩:=Vn.1 h;cases e
    have k:=(Y8.1 hv).2;exact(decide_eq_true_iff (p:=y^2=x^3+7)).1 k
  ·intro h;have h:=h;exact UX ⟨x,yAR x,Vn.2 ⟨y,Y8.2 ⟨yAR y,decide_eq_true h⟩,rfl⟩⟩
theorem zX:(pts P).Nodup:=by
 unfold pts;refine XV.2 ⟨λh=>?_,?_⟩
 ·obtain⟨u,-,h⟩:=yA2.1 h;obtain⟨v,-,e⟩:=Vn.1 h;cases e
 ·refine List.pairwise_flatMap.2 ⟨λx _=>yAQ.2 ?_,?_⟩
  ·refine Z0 ?_ ((Zm P).sublist yAB);intro a b h e;exact h (by cases e;rfl)
  ·refine Z0 ?_ (Zm P);intro a b h u k v hv e;obtain⟨c,-,rfl⟩:=Vn.1 k;obtain⟨d,-,rfl⟩:=Vn.1 hv;exact h (by cases e;rfl)
theorem Lu{u v c:Fin P}(k:u^2=c)(hv:v^2=c):(u-v)*(u+v)=0:=by grobner
theorem Mr{a b d:Fin P}(c:a+b=0)(k:a+d=0):b=d:=by grobner
theorem Gl(C:Cur P){c:Fin P}:∀l:List (Fin P),l.Nodup->(∀y,y∈l->y^2=c)->l.length<=2
 | [],_,_=>WA _
 | [_],_,_=>Nat.le_succ _
 | [_,_],_,_=>Uw _
 | a :: b :: d :: l,k,h=>by
  exfalso;have g:=h a (by simp);have p:=h b (by simp);have hd:=h d (by simp);have j:a≠b:=λe=>(XV.1 k).1 (by rw[e];simp)
  have i:a≠d:=λe=>(XV.1 k).1 (by rw[e];simp)
  have m:b≠d:=λe=>(XV.1 (XV.1 k).2).1 (by rw[e];simp)
  have f:∀u v:Fin P,u^2=c->v^2=c->u≠v->u+v=0:=λu v n hv k=>by
   exact Wv λo=>cI C.pr (pJ k) o (Lu n hv)
  have q:=f a b g p j;have o:=f a d g hd i;exact m (Mr q o)
theorem Cv{α β:Type}(f:α->List β)(k:Nat)(h:∀a,(f a).length<=k):∀l:List α,(l.flatMap f).length<=k*l.length
 | []=>WA _
 | a :: l=>by
  rw[ZA,UA,Vj,Yk,yBN];exact Nat.add_le_add (Cv f k h l) (h a)
theorem ME(C:Cur P):(pts P).length<=2*P+1:=by
 unfold pts;rw[Vj];refine Nat.succ_le_succ (UC (Cv _ 2 (λx=>?_) _) (by rw[List.length_finRange];exact Uw _));rw[UQ];exact Gl C (c:=x^3+7) _ ((Zm P).sublist yAB) λy k=>of_decide_eq_true (Y8.1 k).2
theorem LZ:0<(pts P).length:=Nat.succ_pos _
def uO:List (Pt P)->Pt P
 | []=>none
 | a :: l=>add a (uO l)
theorem uY(C:Cur P):∀l:List (Pt P),(∀a,a∈l->On a)->On (uO l)
 | [],_=>iN
 | a :: l,h=>C.on (h a Vu) (uY C l λb k=>h b (Vb _ k))
theorem GH(C:Cur P){l m:List (Pt P)}(p:l.Perm m):(∀a,a∈l->On a)->uO l=uO m:=by
 induction p with
 | nil=>intro _;rfl
 | cons x _ ih =>
  intro h;show add x _=add x _;rw[ih λb k=>h b (Vb _ k)]
 | swap x y l =>
  intro h;have c:=h y Vu;have hx:=h x (Vb _ Vu);have d:=uY C l λb k=>h b (Vb _ (Vb _ k))
  show add y (add x (uO l))=add x (add y (uO l));rw[<-C.assoc c hx d,C.comm c hx,C.assoc hx c d]
 | trans p _ ih1 ih2 =>
  intro h;rw[ih1 h,ih2 λa k=>h a (p.mem_iff.2 k)]
theorem xI(C:Cur P)(k:On r):∀l:List (Pt P),(∀a,a∈l->On a)->uO (l.map λa=>add a r)=add (uO l) (mul l.length r)
 | [],_=>rfl
 | a :: l,h=>by
  have d:=h a Vu;have c:∀b,b∈l->On b:=λb e=>h b (Vb _ e)
  show add (add a r) (uO (l.map _))=add (add a (uO l)) (add (mul l.length r) r);rw[xI C k l c,C.comm (cG C k _) k,C.swap d k (uY C l c) (cG C k _)]
theorem yS(C:Cur P){a b:Pt P}(c:On a)(d:On b)(k:On r)(e:add a r=add b r):a=b:=by
 have:add (add a r) (neg r)=add (add b r) (neg r):=by rw[e]
 rwa[C.assoc c k (cE k),C.assoc d k (cE k),add_neg,bK,bK]at this
theorem wK(C:Cur P)(k:On r):((pts P).map λa=>add a r).Perm (pts P):=by
 refine(List.perm_ext_iff_of_nodup ?_ zX).2 λa=>?_
 ·refine yAQ.2 (List.Pairwise.imp_of_mem ?_ (zX (P:=P)));intro a b c d h e;exact h (yS C ((mD a).1 c) ((mD b).1 d) k e)
 ·rw[mD,Vn];constructor
  ·rintro⟨b,d,rfl⟩;exact C.on ((mD b).1 d) k
  ·intro c;refine⟨add a (neg r),(mD _).2 (C.on c (cE k)),?_⟩;rw[C.assoc c (cE k) k,C.neg_l k,bK]
theorem EV(C:Cur P)(k:On r):mul (pts P).length r=none:=by
 have f:∀a,a∈pts P->On a:=λa b=>(mD a).1 b
 have c:=xI C k (pts P) f;rw[GH C (wK C k) λa b=>(mD a).1 ((wK C k).mem_iff.1 b)]at c;have d:=uY C (pts P) f;have e:=cG C k (pts P).length;have g:add (mul (pts P).length r) (uO (pts P))=add none (uO (pts P)):=by
  rw[C.comm e d,<-c,jJ]
 exact yS C e iN d g
theorem mB(C:Cur P){a:Pt P}(k:On a)(m:Nat):∀n,mul (m*n) a=mul n (mul m a)
 | 0=>rfl
 | n+1=>by
  rw[Yk,mul_add C k,mB C k m n];rfl
theorem nG:∀n,mul n (none:Pt P)=none
 | 0=>rfl
 | n+1=>by
  show add (mul n none) none=none;rw[nG n];rfl
theorem C5(C:Cur P){a:Pt P}(k:On a)(e:add a a=none):a=none:=by
 rcases a with _|⟨x,y⟩
 ·rfl
 ·exfalso;have ho:=C.opp_ne k;rw[cD C.pr C.two k k ho (bR C.pr C.two k k ho)]at e;cases e
theorem IU(C:Cur P){n:Nat}(f:IsP n)(p:2*P+1<3*n){g:Pt P}(b:On g)(j:g≠none)(l:mul n g=none)(e:On r):mul n r=none:=by
 have hd:n ∣ (pts P).length:=Wv λhd=>by
  have i:=f.fermat1 _ hd;have k:mul ((pts P).length^(n-1)) g=none:=by
   have:n-1=(n-2)+1:=by have:=f.1;omega
   rw[this,V9,Vv,mB C b,EV C b,nG]
  have d:=yAa ((pts P).length^(n-1)) n;rw[i]at d;rw[<-d,mul_add C b,mB C b,l,nG,jJ]at k;exact j k
 obtain⟨c,m⟩:=hd;have i:=ME C;have o:=LZ (P:=P);have k:=EV C e;rw[m]at i o k;have d:c<3:=Nat.lt_of_mul_lt_mul_left (a:=n) oM;match c,d with
 | 0,_=>omega
 | 1,_=>rwa[Nat.mul_one]at k
 | 2,_ =>
  rw[mB C e]at k;exact C5 C (cG C e n) k
end EC
section
open Go.RowKit Go.Sort Go.Deep
variable {P:Nat}[NeZero P]{N:Nat}
def fR(P:Nat)[NeZero P](b:Bs):EC.Pt P:=match rd P b with|some p=>pt p|none=>none
theorem lM(C:Fld P)(h:On X):fR P (wr X)=X:=by
 obtain⟨p,k,b⟩:=zM C h;unfold fR;rw[k];exact b
def fJ(P:Nat)[NeZero P]:List (Nat × Bs)->EC.Pt P
 | []=>none
 | x :: r=>EC.add (mul x.1 (fR P x.2)) (fJ P r)
def PtsL(P:Nat)[NeZero P](l:List (Nat × Bs)):Prop:=∀x∈l,∃X:EC.Pt P,On X/\x.2=wr X
theorem PtsL.on(C:Fld P){l:List (Nat × Bs)}(h:PtsL P l){x:Nat × Bs}(hx:x∈l):On (fR P x.2):=by
 obtain⟨X,k,b⟩:=h x hx;rw[b,lM C k];exact k
theorem nT(C:Fld P):∀ {l:List (Nat × Bs)},PtsL P l->On (fJ P l)
 | [],_=>iN
 | x :: r,h=>C.cur.on (cG C.cur (h.on C Vu) _) (nT C λy k=>h y (Vb _ k))
theorem zG(C:Fld P)(y:Nat × Bs)(b:On (fR P y.2)):∀ {l:List (Nat × Bs)},PtsL P l->fJ P (l++[y])=EC.add (fJ P l) (mul y.1 (fR P y.2))
 | [],_=>bK _
 | x :: r,h=>by
  have k:PtsL P r:=λz c=>h z (Vb _ c)
  show EC.add (mul x.1 (fR P x.2)) (fJ P (r++[y]))=_;rw[zG C y b k];exact(C.cur.assoc (cG C.cur (h.on C Vu) _) (nT C k) (cG C.cur b _)).symm
theorem AE:∀l:List (Nat × Bs),fJ P (LF l)=fJ P l
 | []=>rfl
 | x :: r=>by
  unfold LF;rw[List.filter_cons];by_cases h:x.1=0
  ·rw[yCm (by simp[h])];show fJ P (LF r)=EC.add (mul x.1 (fR P x.2)) (fJ P r);rw[h,AE r];rfl
  ·rw[yCl (by simp[h])];show EC.add _ (fJ P (LF r))=EC.add _ (fJ P r);rw[AE r]
theorem mul_mod(C:Fld P)(k:∀r:EC.Pt P,On r->mul N r=none)(b:On X)(n:Nat):mul (n%N) X=mul n X:=by
 have h:=mul_add C.cur b (N*(n/N)) (n%N);rw[yAa,mB C.cur b N (n/N),k X b,nG,jJ]at h;exact h.symm
theorem zH(C:Fld P)(k:∀r:EC.Pt P,On r->mul N r=none)(n:Nat)(p:Bs)(d:On (fR P p)):∀ {l:List (Nat × Bs)},PtsL P l->fJ P (fA N l n p)=EC.add (fJ P l) (mul n (fR P p))
 | [],_=>bK _
 | (s,q) :: r,h=>by
  have g:PtsL P r:=λz i=>h z (Vb _ i)
  have j:=h.on C (x:=(s,q)) Vu;have f:=cG C.cur j s;have c:=nT C g;have b:=cG C.cur d n;unfold fA;by_cases e:p=q
  ·rw[yCl e];subst e;show EC.add (mul (sPl N s n) (fR P p)) (fJ P r)=EC.add (EC.add (mul s (fR P p)) (fJ P r)) (mul n (fR P p));unfold sPl;rw[mul_mod C k d,mul_add C.cur d,C.cur.assoc f b c,C.cur.assoc f c b,C.cur.comm b c]
  ·rw[yCm e];show EC.add (mul s (fR P q)) (fJ P (fA N r n p))=EC.add (EC.add (mul s (fR P q)) (fJ P r)) (mul n (fR P p));rw[zH C k n p d g,C.cur.assoc f c b]
theorem FY{n:Nat}{p:Bs}(b:∃X:EC.Pt P,On X/\p=wr X):∀ {l:List (Nat × Bs)},PtsL P l->PtsL P (fA N l n p)
 | [],_=>λx hx=>by
  have:x=(n,p):=by simpa[fA]using hx
  rw[this];exact b
 | (s,q) :: r,h=>by
  have k:PtsL P r:=λz c=>h z (Vb _ c)
  unfold fA;split
  ·intro x hx;rcases VX.1 hx with rfl|hx
   ·exact h (s,q) Vu
   ·exact k x hx
  ·intro x hx;rcases VX.1 hx with rfl|hx
   ·exact h (s,q) Vu
   ·exact FY b k x hx
theorem AU(ns:Nat->Nat)(X:Nat->EC.Pt P){k:Nat}(b:∀j,j<k->On (X j)):∀i,i<=k->PtsL P (mrg N ns (λj=>wr (X j)) i)
 | 0,_=>λx hx=>by cases hx
 | i+1,hi=>FY ⟨X i,b i oM,rfl⟩ (AU ns X b i oM)
theorem EW(C:Fld P)(b:∀r:EC.Pt P,On r->mul N r=none)(ns:Nat->Nat)(X:Nat->EC.Pt P){k:Nat}(d:∀j,j<k->On (X j)):∀i,i<=k->fJ P (mrg N ns (λj=>wr (X j)) i)=tot X i (λj=>(ns j:Int))
 | 0,_=>rfl
 | i+1,hi=>by
  have c:=d i oM;show fJ P (fA N (mrg N ns (λj=>wr (X j)) i) (ns i) (wr (X i)))=EC.add (tot X i (λj=>(ns j:Int))) (mul (ns i) (X i));rw[zH C b _ _ (by rw[lM C c];exact c) (AU ns X d i oM),EW C b ns X d i oM,lM C c]
theorem wE(C:Fld P)(l:List (Nat × Bs))(h:PtsL P l):∀i,i<=l.length->tot (λj=>fR P ((l[j]?).getD (0,#[])).2) i (λj=>(((l[j]?).getD (0,#[])).1:Int))=fJ P (l.take i)
 | 0,_=>by rw[List.take_zero];rfl
 | i+1,hi=>by
  have k:i<l.length:=oM;show EC.add (tot _ i _) (mul ((l[i]?).getD (0,#[])).1 (fR P ((l[i]?).getD (0,#[])).2))=_;rw[wE C l h i oM,ZJ,UG k];exact(zG C (l[i]) (h.on C (VH k)) λx hx=>h x (yAr hx)).symm
theorem De(C:Fld P)(O:Ord N)(o:∀r:EC.Pt P,On r->mul N r=none)(g k c:Nat)(H:0<k)(T:k<=512)(ns:Nat->Nat)(X:Nat->EC.Pt P)(B:∀j,j<k->ns j<N)(E:∀j,j<k->On (X j))(w:Ur)(F:g<w.heap.size)(J:∀j,j<k->w.rangeAt g (37*j) (wn (ns j)++aA (wr (X j)))):
 UH prog 67 #[sZ g k c] w (rZ w λe w'=>e=pvl (wr (tot X k (λj=>(ns j:Int))))):=by
 have D:=AU (N:=N) ns X E k (Uw _);have n:=DF O ns (λj=>wr (X j)) B k (Uw _);have p:=xF (N:=N) ns (λj=>wr (X j)) (k:=k) (λj _=>aT _) k (Uw _);have z:=AV (N:=N) ns (λj=>wr (X j)) k;have i:=EW C o ns X E k (Uw _);have l:0<(mrg N ns (λj=>wr (X j)) k).length:=by
  obtain⟨b,rfl⟩:∃b,k=b+1:=⟨k-1,oM⟩
  show 0<(fA N _ _ _).length;cases mrg N ns (λj=>wr (X j)) b with
  | nil=>exact Nat.lt_succ_self 0
  | cons x r=>unfold fA;split<;>simp
 have f:=λW (s:kZ w W)=>I9 O (λe w'=>kZ W w'/\∃q cap,e=.slice q (LF (mrg N ns (λj=>wr (X j)) k)).length cap/\TmL w' q (LF (mrg N ns (λj=>wr (X j)) k))) g k c oM ns (λj=>wr (X j)) (λj _=>aT _) B W (Ux F s.size) (λj d=>RG.range_below (J j d) s F) (λW' v m=>by
  refine(JL _ l oM p (λx hx=>Ux (n x hx) O.le) W.heap.size v W' m.bl.size m.ow).mono ?_;rintro e w' ⟨u,rfl,b,a⟩;exact⟨_,rfl,m.bl.trans b,a⟩)
 generalize mrg N ns (λj=>wr (X j)) k=L at D n p z i l f;have t:PtsL P (LF L):=λx hx=>D x (Br hx)
 have K:(LF L).length<=L.length:=yAn _ _;refine(Dd C O _ w (LF L).length oM (λj=>(((LF L)[j]?).getD (0,#[])).1) (λj=>fR P (((LF L)[j]?).getD (0,#[])).2) (λj d=>by rw[UG d];exact n _ (Br (VH d))) (λj d=>by rw[UG d];exact t.on C (VH d)) λW s=>?_).mono ?_
 ·refine(f W s).mono ?_;rintro e w' ⟨u,rfl,b,q,cap,rfl,a⟩;refine⟨_,rfl,b,q,cap,rfl,λR=>?_⟩;obtain⟨y,S,Q,e3⟩:=a R;refine⟨y,S,Q,λj d=>?_⟩;have M:=e3 j d;obtain⟨Y,I,G⟩:=t _ (VH d);show w'.rangeAt y (37*j) (wn (((LF L)[j]?).getD (0,#[])).1++aA (wr (fR P (((LF L)[j]?).getD (0,#[])).2)));rw[UG d];show w'.rangeAt y (37*j) (wn ((LF L)[j]).1++aA (wr (fR P ((LF L)[j]).2)));rw[G,lM C I,<-G];exact M
 ·rintro e w' ⟨u,rfl,b,rfl⟩;refine⟨_,rfl,b,?_⟩;rw[wE C (LF L) t _ (Uw _),yA1,AE,i]
theorem Qx:prog.underlying 23=some (.slice 5):=kR
theorem Qz:prog.underlying 3=some (.int .i64):=kR
theorem NK:(prog.info? 5).map (λi=>(i.size,i.bytes,i.zero.map λz=>z.cells.size))=some (1,1,some 1):=kR
theorem atB(k o n c i:Nat)(b:i<n)(w:Ur):(Vl 24 (.slice (some ⟨k,o,none⟩) n c) (iZ i)).run prog w=.ok (.pointer (some ⟨k,o+1*i,none⟩)) w:=by
 go_simp
theorem PG(n:Nat)(y:n<=10000000)(w:Ur):UH prog 216 #[.slice none 0 0,iZ n] w (rZ w λe w'=>w'.ownsRow w.heap.size 5 1 e 0 []):=by
 by_cases v:n=0
 ·subst v;go_enter func216,ntmps216;go_wp2;go_ret;exact⟨_,rfl,UR _ _,yAJ _ _ _ _⟩
 ·obtain⟨i,r,m⟩:=Uy.1 NK;simp only[V8.injEq]at m;obtain⟨t,o,p⟩:=m;obtain⟨z,q,f⟩:=Uy.1 p;have d:=Lib.run_append_nil_zeros (P:=prog) w 23 3 23 5 i z .i64 .i64 Qx Qz r q n oM oM oM (by rw[o];omega);have g:=grownCap_ge w n 0 5;have k:=grownCap_le_maxLen w n 0 5 (by unfold maxLen;omega);have b:(WG z.cells n++WG z.cells (grownCap w n 0 5-n)).size=grownCap w n 0 5*1:=by rw[VN,size_zeroCells,size_zeroCells,f];omega
  generalize grownCap w n 0 5=l at d g k b;generalize WG z.cells n++WG z.cells (l-n)=cur at d b;obtain⟨j,c⟩:∃j,Hid (w.drew.alloc (.cells cur 5)=j):=⟨_,rfl⟩
  rw[c.out]at d;have s:=Hid.mk' d;have K:Hid (kZ w j/\j.ownsRow w.heap.size 5 1 (sZ w.heap.size 0 l) 0 []):=by
   rw[<-c.out];exact⟨(UR _ _).drew.alloc (Uw _) _,World.ownsRow_made w.drew cur l (Uw _) k b⟩
  clear d c b r q f t o p;have x:(0:Int)<(n:Int):=oM;have u:¬((n:Int)<0):=oM;have a:VS.wrap (n:Int)=n:=by rw[Yl];omega
  go_enter func216,ntmps216;go_wp2_with (at_builtin;refine Lib.wpList_append_run _ rfl _ _ _ _ rfl _ _ rfl rfl _ _ s.out ?_)
  go_ret;exact⟨_,rfl,K.1,K.2⟩
def iJ(L:Nat->Bs)(k:Nat):List UInt8:=(VG k).flatMap λj=>(L j).toList
theorem oK(L:Nat->Bs)(i:Nat):iJ L (i+1)=iJ L i++(L i).toList:=by
 unfold iJ;rw[Y6,Zs];simp
theorem FI(L:Nat->Bs){k m:Nat}(b:∀j,j<k->(L j).size<=m):∀i,i<=k->(iJ L i).length<=m*i
 | 0,_=>Uw _
 | i+1,hi=>by
  have c:=FI L b i oM;have d:=b i oM;have e:(L i).toList.length=(L i).size:=rfl;rw[oK,UA,e,Yk];omega
theorem El.below{n B:Nat}{x:Ut}(h:El n W x b)(d:Below B W W')(j:W.heap.size<=B):El n W' x b:=by
 obtain⟨k,c,rfl,e,g,f,i⟩:=h;exact⟨k,c,rfl,e,g,Ux f d.size,Holds.kept i (d.block k oM)⟩
theorem Mn{n m:Nat}{v x:Ut}(e:W.ownsRow d 5 1 v n xs)(hx:El m W x b)(F:n+m<=100000000)(a:d<=W.heap.size):
 ∃f W',(Vt #[23,23] 23 #[v,x]).run prog W=.ok f W'/\W'.ownsRow d 5 1 f (n+m) (xs++cb b)/\W.grownBy W' v.ownBlock:=by
 obtain⟨i,C,l⟩:=Uy.1 NK;simp only[V8.injEq]at l;obtain⟨s,q,t⟩:=l;obtain⟨z,A,g⟩:=Uy.1 t;obtain⟨k,c,rfl,G,r,e3,D⟩:=hx;obtain⟨f,W',E,w,o,-⟩:=Y3 (P:=prog) W d 23 23 5 i z 1 1 Qx C A s q g dC v n xs e (aZ k) m c (cb b) (by rw[oJ,r];omega)
  (λj u B=>by
   have:=(rL D).1 j u B;rw[UD]at this;rw[add0];exact this) (λu p=>by
   obtain⟨y,-,rfl⟩:=Vn.1 p;rfl) (by unfold maxLen;omega) oM a
 exact⟨f,W',E,w,o⟩
theorem P5(L:Nat->Bs)(i:Nat):(iJ L (i+1)).map encB=(iJ L i).map encB++cb (L i):=by rw[oK,Wq];rfl
theorem JO(g k c:Nat)(L:Nat->Bs)(O:k<=1000)(H:∀j,j<k->(L j).size<=10000)(w:Ur)(I:g<w.heap.size)(G:∀j,j<k->∃x,w.cell? ⟨g,j,none⟩=some x/\El (L j).size w x (L j)):
 UH prog 156 #[sZ g k c] w (rZ w λe w'=>w'.ownsRow w.heap.size 5 1 e (iJ L k).length ((iJ L k).map encB)):=by
 have D:=Hid.mk' G;have t:Hid (∀i,i<=k->(iJ L i).length<=10000*i):=FI L H;have U:=Hid.mk' I;clear G H I;go_enter func156,ntmps156;go_wp2_with fail
 go_loopg [3,11] k (λm s3 s11 W=>∃i:Nat,i+m=k/\s11=iZ i/\s3=iZ ((iJ L i).length:Int)/\w=W)
 case atStart=>exact⟨0,oM,rfl,rfl,rfl⟩
 case round =>
  obtain⟨i,S,rfl,rfl,rfl⟩:=hrel;by_cases N:i<k
  ·have B:(i:Int)<(k:Int):=oM;obtain⟨x,Q,hE⟩:=D.out i N;obtain⟨C,J,rfl,u,-⟩:=hE;have n:=atB g 0 k c i N;rw[show 0+1*i=i by omega]at n;have d:(iJ L (i+1)).length=(iJ L i).length+(L i).size:=by rw[oK,UA];rfl
   have l:=t.out i oM;have s:=t.out (i+1) oM;obtain⟨a,o⟩:∃a,Hid ((iJ L i).length=a):=⟨_,rfl⟩
   obtain⟨b,f⟩:∃b,Hid ((L i).size=b):=⟨_,rfl⟩
   rw[o.out]at d l;rw[f.out]at d u;rw[o.out];have r:VS.wrap ((a:Int)+(b:Int))=((a+b:Nat):Int):=by rw[Yl];omega
   have q:¬(((a+b:Nat):Int)<0):=oM;rw[f.out]at Q;go_wp2;go_roundg (gk-1)
   case measure=>omega
   case rel=>exact⟨i+1,oM,rfl,by rw[d,Int.natCast_add],rfl⟩
  ·have B:¬(i:Int)<(k:Int):=oM;obtain rfl:i=k:=oM;go_wp2_with fail
   refine(PG (iJ L i).length (by have:=t.out i (Uw _);omega) w).mono ?_;rintro e K ⟨v,rfl,l,r⟩;have M:Hid (kZ w K/\K.ownsRow w.heap.size 5 1 v (iJ L 0).length ((iJ L 0).map encB)):=⟨l,r⟩
   clear l r;go_wp2_with fail
   go_loopg [6,27] i (λm s6 s27 W=>∃j:Nat,j+m=i/\s27=iZ j/\Hid (kZ w W/\W.ownsRow w.heap.size 5 1 s6 (iJ L j).length ((iJ L j).map encB)))
   case atStart=>exact⟨0,oM,rfl,M⟩
   case round =>
    clear M;obtain⟨j,V,rfl,f⟩:=hrel;by_cases R:j<i
    ·have A:(j:Int)<(i:Int):=oM;obtain⟨x,o,q⟩:=D.out j R;have Q:wr.cell? ⟨g,j,none⟩=some x:=by rw[f.1.cell (p:=⟨g,j,none⟩) U.out];exact o
     have hE:=q.below f.1 (Uw _);have s:=t.out (j+1) oM;have d:(iJ L (j+1)).length=(iJ L j).length+(L j).size:=by rw[oK,UA];rfl
     obtain⟨F,W',P,z,E⟩:=Mn f.2 hE oM f.1.size;rw[<-d,<-P5]at z;have T:Hid (kZ w W'/\W'.ownsRow w.heap.size 5 1 F (iJ L (j+1)).length ((iJ L (j+1)).map encB)):=⟨f.1.grown E f.1.size (λk O=>(f.2.lt k O).1),z⟩
     have u:=Hid.mk' P;obtain⟨C,J,rfl,-⟩:=hE;have n:=atB g 0 i c j R;rw[show 0+1*j=j by omega]at n;clear P z E d s f q o;go_wp2_with (first|(refine lK (x:=u6) (y:=sZ C (L j).size J) (v:=F) (w':=W') rfl _ _ 23 rfl ?_ ?_ ?_ ?_;rfl;rfl;exact u.out)|fail)
     go_roundg (gk-1)
     case measure=>omega
     case rel=>exact⟨j+1,oM,rfl,T⟩
    ·have A:¬(j:Int)<(i:Int):=oM;obtain rfl:j=i:=oM;go_wp2;go_ret;exact⟨_,rfl,f.1,f.2⟩
end
section
open Go.RowKit Go.Sort Go.Deep Go.Shelf
attribute [local go_sem] Zf
variable {P:Nat}[NeZero P]
theorem A4{w w':Ur}(h:kZ w w')(row:Option Nat):w.grownBy w' row:=⟨h.os,h.tape,h.output,h.size,λk b _=>h.block k b⟩
theorem Ji{w:Ur}{o:Nat}{k:Bs}(h:Holds encB w g o k)(b:0<k.size):g<w.heap.size:=by
 obtain⟨c,ho,-⟩:=cells_of_cell (h 0 b).1;exact(UZ.1 ho).1
noncomputable def cand (P:Nat) [NeZero P] (k:ByteArray) (b:List UInt8) (i:Nat):Option (Fin P × Fin P):=
 if beV (oR ((⟨#[112,111,105,110,116,32]⟩:ByteArray)++k).data.toList [b,[UM i]]).toList<P then
  (rt (Xj P (beV (oR ((⟨#[112,111,105,110,116,32]⟩:ByteArray)++k).data.toList [b,[UM i]]).toList)*Xj P (beV (oR ((⟨#[112,111,105,110,116,32]⟩:ByteArray)++k).data.toList [b,[UM i]]).toList)*Xj P (beV (oR ((⟨#[112,111,105,110,116,32]⟩:ByteArray)++k).data.toList [b,[UM i]]).toList)+7)).map λy=>(Xj P (beV (oR ((⟨#[112,111,105,110,116,32]⟩:ByteArray)++k).data.toList [b,[UM i]]).toList),y)
 else none
noncomputable def cands (P:Nat) [NeZero P] (k:ByteArray) (b:List UInt8) (i:Nat):List (Fin P × Fin P):=(VG i).filterMap (cand P k b)
theorem jO(k:ByteArray)(b:List UInt8)(i:Nat):cands P k b (i+1)=cands P k b i++(cand P k b i).toList:=by
 unfold cands;rw[Y6,List.filterMap_append];cases h:cand P k b i<;>simp[h]
theorem GZ(k:ByteArray)(b:List UInt8){j:Nat}(h:i<=j):cands P k b i <+: cands P k b j:=by
 induction j with
 | zero=>rw[Nat.le_zero.1 h];exact yBd
 | succ j ih =>
  rcases Ws i (j+1)with c|c
  ·rw[jO];exact(ih oM).trans (List.prefix_append _ _)
  ·rw[show i=j+1 by omega];exact yBd
theorem G5(k:ByteArray)(b:List UInt8)(i:Nat):(cands P k b i).length<=i:=by
 unfold cands;exact UC (List.length_filterMap_le _ _) (by rw[XY];exact Uw _)
end
section
open Go.RowKit Go.Sort Go.Deep Go.Shelf
attribute [local go_sem] Zf
section
variable {F:Fence}{n:Nat}{P:VD}{ops:Array Vk}{rest:List Vk}{op:Vk}{a:Act}{w:Ur}{Q:Yq->Act->Ur->Prop}
theorem oP(g:V4 op (yielded ops a.tmps)=true)(k:U8)(x:XI)(ho:op.op=.load k x)(b o:Nat)(hx:a.eval x=oZ b o)(cs:List Ut)(d:TypeDesc)(m:w.rangeAt b o cs)
 (j:P.underlying k=some d) (hd:d.isRow=true) (l:(P.info? k).map (·.size)=some cs.length) (h:wpListIn F n P ops Q rest (a.put op.dst (.agg cs.toArray)) w):wpListIn F n P ops Q (op :: rest) a w:=
 wpListIn_step λK i=>by
  rw[g,yCl rfl];refine⟨λf hf=>(by unfold yAK at hf;rw[ho]at hf;cases hf),?_⟩;rw[yAd _ _ _ (λc=>by rw[ho];intro e;cases e)];unfold U5;simp only[ho,hx,ZD,X6,UV,Wt,Vm,Yg w b o k cs d m j hd l];exact i _ _ h
end
variable {P:Nat}[NeZero P]
theorem Hid.mk{p:Prop}(h:p):Hid p:=h
theorem Pp(C:Fld P)(c:ByteArray)(vb:Ut)(b:List UInt8)(k1 k2:Nat)(w:Ur)(kf:c.size<=1000000)(h1:w.cell? ⟨k1,0,none⟩=some (.string c))(h2:w.cell? ⟨k2,0,none⟩=some vb)(l1:k1<w.heap.size)(l2:k2<w.heap.size)(hb:PartOk w vb b)(n:Nat):
 SeqStopsK yBR n prog 112 #[jZ k1,jZ k2] (λx:Fin P × Fin P=>#[pv x.1 x.2]) (Below w.heap.size) (λxs=>xs=cands P c b 256) (λk=>k <+: cands P c b 256) 256 w:=by
 have HP:=hb;obtain⟨a0,sb,so,cap,bs,rfl,-,-,-,-⟩:=hb;intro l J Jx W hW hJ kh hY h0;refine callsIn_of_wp func112 rfl trivial ?_ rfl;simp only[ntmps112,VC,Vj,WI,VK,yBE,yAq,yAp,yAP,yAC,Xt,Xc]
 gi_wp2
 gi_loopw [10] (λp wr=>∃i:Nat,i<=256/\p=iZ i/\J (cands P c b i) wr/\kZ w wr/\W.heap.size<=wr.heap.size) (λp wr=>256-(intOf p).toNat)
 case atStart =>
  exact⟨0,dC,rfl,h0,hW,Uw _⟩
 case round =>
  obtain⟨i,hi,rfl,Q,X,h9⟩:=hrel;have kd:=X;by_cases he:i=256
  ·subst he
   gi_wp2
   go_end0
   exact⟨⟨_,rfl⟩,.inl ⟨_,rfl,Q⟩⟩
  ·have kb:(i:Int)<256:=oM;have c1:wr.cell? ⟨k1,0,none⟩=some (.string c):=(UW (X.block k1 l1)).trans h1;have c2:wr.cell? ⟨k2,0,none⟩=some (.slice a0 bs.size cap):=(UW (X.block k2 l2)).trans h2;have ha:=Made.alloc wr [.int .u8 i] 5;have hg:=Made.alloc (wr.alloc (.cells #[.int .u8 i] 5)) [.slice a0 bs.size cap,sZ wr.heap.size 1 1] 23;rw[UB]at hg;have ka:ub (UM i)=(i:Int):=by
    show(((UM i).toNat:Nat):Int)=_;rw[YJ,US oM]
   obtain⟨W1,Y⟩:∃W1,W1=(wr.alloc (.cells #[.int .u8 i] 5)).alloc (.cells #[.slice a0 bs.size cap,sZ wr.heap.size 1 1] 23):=⟨_,rfl⟩
   have N:kZ wr W1:=by rw[Y];exact((UR _ wr).alloc (Uw _) _).alloc (by rw[UB];omega) _
   have hP:PartsOk W1 (some ⟨wr.heap.size+1,0,none⟩) [b,[UM i]]:=by
    have k:W1.rangeAt (wr.heap.size+1) 0 [.slice a0 bs.size cap,sZ wr.heap.size 1 1]:=by rw[Y];exact hg.range
    refine UX ⟨_,_,rfl,λj m=>?_⟩;have g:j=0\/j=1:=by simp at m;omega
    rcases g with rfl|rfl
    ·exact⟨_,k 0 _ rfl,(HP.below kd).below N⟩
    ·refine⟨_,k 1 _ rfl,some (aZ wr.heap.size),wr.heap.size,0,1,#[UM i],rfl,rfl,Uw _,VR rfl,UX ⟨rfl,?_⟩⟩;have f:=ha.range;have s:wr.heap.size<(wr.alloc (.cells #[.int .u8 i] 5)).heap.size:=by rw[UB];omega
     intro j m;have o:j=0:=by simp at m;omega
     subst o;have q:W1.heap[wr.heap.size]? = (wr.alloc (.cells #[.int .u8 i] 5)).heap[wr.heap.size]?:=by rw[Y];exact Below.heap_alloc _ _ _ s
     refine⟨?_,?_⟩
     ·rw[UW (a:=⟨wr.heap.size,0+0,none⟩) q];show _=some (Value.int .u8 (ub (UM i)));rw[ka];exact f 0 _ rfl
     ·rw[VU (a:=⟨wr.heap.size,0+0,none⟩) q];exact(ha.there 0 (Uw _)).2
   have h5:=vP ((⟨#[112,111,105,110,116,32]⟩:ByteArray)++c) (some ⟨wr.heap.size+1,0,none⟩) 2 [b,[UM i]] W1 (by rw[ByteArray.size_append];show 6+c.size<=_;omega) (VR rfl) hP
   gi_wp2_with fail
   rw[<-Y];refine⟨trivial,λh=>(by cases h),(callsIn_wide.2 h5).mono ?_⟩;rintro e w2 ⟨r,rfl,k9,hs,U⟩;clear h5 hP c1 c2 ha hg kb;obtain⟨T,S⟩:∃T,Hid (oR ((⟨#[112,111,105,110,116,32]⟩:ByteArray)++c).data.toList [b,[UM i]]=T):=⟨_,rfl⟩
   rw[S.out]at U
   gi_wp2_with fail
   refine⟨trivial,λh=>(by cases h),(callsIn_wide.2 (bO _)).mono ?_⟩;rintro e w3 ⟨v,rfl,R,rfl⟩;have hm:r<w2.heap.size:=Ji U (by rw[<-S.out,fC];decide);have hr:T.size=32:=by rw[<-S.out];exact fC _ _
   have hn:Holds encB w3 r 0 T:=Holds.below U R hm;have L:r<w3.heap.size:=Ux hm R.size;have t:kZ wr w3:=(N.trans (hs.mono N.size)).trans (R.mono (UC N.size hs.size));by_cases hx:beV T.toList<P
   ·obtain⟨x,O⟩:∃x:Fin P,Hid (beV T.toList=x.val):=⟨Xj P (beV T.toList),(US hx).symm⟩
    have V:Hid (Xj P (beV T.toList)=x):=Ya (by show beV T.toList%P=_;rw[US hx];exact O.out);have hx:Hid (beV T.toList<P):=hx
    gi_wp2_with fail
    refine⟨trivial,λh=>(by cases h),(callsIn_wide.2 (Kn C hr (Uw _) O.out L hn)).mono ?_⟩;rintro e u ⟨v,rfl,H,rfl⟩;have A:=(Made.alloc u [uZ 0,uZ 0,uZ 0,uZ 0] 47).there;have g:=t.trans (H.mono t.size);have k6:=VO _ _ 0 (ws x) A;obtain⟨d,hw,k0⟩:=Uy.1 u85;clear A k6 hr hn hm L R H U k9 hs N;obtain⟨w5,hl⟩:∃w5,Hid ((u.alloc (.cells #[uZ 0,uZ 0,uZ 0,uZ 0] 47)).setCells u.heap.size 0 (ws x)=w5):=⟨_,rfl⟩
    have o:Hid (kZ wr w5):=by rw[<-hl.out];exact RG.below_setCells g.size _ _ _ (g.alloc g.size _)
    have h4:w5.rangeAt u.heap.size 0 (ws x):=by rw[<-hl.out];exact VO _ _ 0 (ws x) (Made.alloc u [uZ 0,uZ 0,uZ 0,uZ 0] 47).there
    gi_wp2_with (first|(refine bL rfl 47 _ _ rfl u.heap.size 0 (ws x).toArray rfl rfl (Made.alloc u [uZ 0,uZ 0,uZ 0,uZ 0] 47).there i85 kR ?_;rw[show(ws x).toArray.toList=ws x from rfl,hl.out])|refine jS rfl 47 _ rfl u.heap.size 0 rfl (ws x) d h4 hw k0 i85 ?_)
    refine⟨trivial,λh=>(by cases h),?_⟩;clear h4 hw k0;have ke:True:=trivial;obtain⟨d8,h7,Z⟩:=Uy.1 gU;cases F:rt (x*x*x+7) with
    | none =>
     obtain⟨z,M⟩:∃z:Fin P,Hid (z=0):=⟨_,rfl⟩
     have k:=Ap C x F w5;rw[<-M.out]at k;obtain⟨vz,D⟩:∃vz,Hid (pv z z=vz):=⟨_,rfl⟩
     rw[D.out]at k;refine(callsIn_wide.2 k).mono ?_;clear k;rintro e s ⟨v,rfl,I,rfl⟩;have f:Hid (cand P c b i=none):=by
      show cand P c b i=none;unfold cand;rw[S.out,yCl hx.out,V.out,F];rfl
     clear F;have q:Hid (kZ wr ((s.alloc (.cells #[uZ 0,uZ 0,uZ 0,uZ 0,uZ 0,uZ 0,uZ 0,uZ 0] 93)).setCells s.heap.size 0 (ws z++ws z))):=
      have h6:=o.trans (I.mono o.size)
      RG.below_setCells h6.size _ _ _ (h6.alloc h6.size _)
     clear I;have E:(ws z++ws z).toArray.size=8:=kR;have B:Hid <| (s.alloc (.cells #[uZ 0,uZ 0,uZ 0,uZ 0,uZ 0,uZ 0,uZ 0,uZ 0] 93)).there s.heap.size 0 (ws z++ws z).toArray.size:=by show yBH _ _ _ _;rw[E];exact(Made.alloc s [uZ 0,uZ 0,uZ 0,uZ 0,uZ 0,uZ 0,uZ 0,uZ 0] 93).there
     have K:Hid ((prog.info? 93).map (·.size)=some (ws z++ws z).toArray.size):=by show _=_;rw[E];exact i109
     clear E;obtain⟨G,m⟩:∃G,Hid ((s.alloc (.cells #[uZ 0,uZ 0,uZ 0,uZ 0,uZ 0,uZ 0,uZ 0,uZ 0] 93)).setCells s.heap.size 0 (ws z++ws z)=G):=⟨_,rfl⟩
     rw[m.out]at q
     gi_wp2_with (refine bL rfl 93 _ _ rfl s.heap.size 0 (ws z++ws z).toArray ?_ ?_ ?_ ?_ ?_ ?_;rfl;exact D.symm;exact B.out;exact K.out;kernel_rfl;rw[show(ws z++ws z).toArray.toList=ws z++ws z from rfl,m.out];refine Zh ?_)
     clear B K D M m o V O hx S;show wpListIn _ _ _ _ _ _ _ _
     gi_wp2_with fail
     refine⟨λ_ h=>(by cases h),?_⟩
     gi_wp2_with fail
     refine⟨⟨i+1,oM,rfl,?_,X.trans (q.mono X.size),UC h9 q.size⟩,?_⟩
     ·rw[jO,f.out];exact hJ _ wr _ none (by simpa using Q) (A4 q.out none) (λ_ e=>by cases e)
     ·simp[intOf];omega
    | some y =>
     have k:=Ao C x y F w5;obtain⟨vz,D⟩:∃vz,Hid (pv x y=vz):=⟨_,rfl⟩
     rw[D.out]at k;refine(callsIn_wide.2 k).mono ?_;clear k;rintro e s ⟨v,rfl,I,rfl⟩;have f:Hid (cand P c b i=some (x,y)):=by
      show cand P c b i=some (x,y);unfold cand;rw[S.out,yCl hx.out,V.out,F];rfl
     clear F;obtain⟨G,m⟩:∃G,Hid ((s.alloc (.cells #[uZ 0,uZ 0,uZ 0,uZ 0,uZ 0,uZ 0,uZ 0,uZ 0] 93)).setCells s.heap.size 0 (ws x++ws y)=G):=⟨_,rfl⟩
     have M:Hid (kZ wr G):=by
      rw[<-m.out];have h6:=o.trans (I.mono o.size);exact RG.below_setCells h6.size _ _ _ (h6.alloc h6.size _)
     clear I;have h3:G.rangeAt s.heap.size 0 (ws x++ws y):=by rw[<-m.out];exact VO _ _ 0 (ws x++ws y) (Made.alloc s [uZ 0,uZ 0,uZ 0,uZ 0,uZ 0,uZ 0,uZ 0,uZ 0] 93).there
     have kc:Hid (J (cands P c b i) G):=hJ _ wr _ none (by simpa using Q) (A4 M.out none) (λ_ e=>by cases e);have E:(ws x++ws y).toArray.size=8:=kR;have B:Hid <| (s.alloc (.cells #[uZ 0,uZ 0,uZ 0,uZ 0,uZ 0,uZ 0,uZ 0,uZ 0] 93)).there s.heap.size 0 (ws x++ws y).toArray.size:=by show yBH _ _ _ _;rw[E];exact(Made.alloc s [uZ 0,uZ 0,uZ 0,uZ 0,uZ 0,uZ 0,uZ 0,uZ 0] 93).there
     have K:Hid ((prog.info? 93).map (·.size)=some (ws x++ws y).toArray.size):=by show _=_;rw[E];exact i109
     clear E;obtain⟨fn,tmps,k7,kg,hy,hR⟩:=hY (cands P c b i) (x,y) G kc.out (Nat.lt_of_le_of_lt (G5 c b i) oM);dsimp only at hy;obtain⟨va,hk⟩:∃va,Hid (U3 (ws x++ws y).toArray=va):=⟨_,rfl⟩
     rw[show pv x y=va from hk.out]at hy
     gi_wp2_with (refine bL rfl 93 _ _ rfl s.heap.size 0 (ws x++ws y).toArray ?_ ?_ ?_ ?_ ?_ ?_;rfl;exact D.symm;exact B.out;exact K.out;kernel_rfl;rw[show(ws x++ws y).toArray.toList=ws x++ws y from rfl,m.out];refine Zh ?_)
     clear B K m o V O hx S;have ht:=Hid.mk hR;have h8:=Hid.mk h3;have hu:=Hid.mk h7;have k3:=Hid.mk Z;clear hR h3 h7 Z;show wpListIn _ _ _ _ _ _ _ _
     gi_wp2_with (refine oP rfl 93 _ rfl s.heap.size 0 ?_ (ws x++ws y) d8 ?_ ?_ ?_ ?_ ?_;rfl;exact h8.out;exact hu.out;exact k3.out;exact i109;rw[hk.out];refine Zh ?_)
     clear h8 hu k3 hk D;show wpListIn _ _ _ _ _ _ _ _
     gi_wp2_with fail
     refine⟨λh=>(by cases h),ht.mono ?_⟩;clear ht hy;rintro e W8 (⟨rfl,k8,k5⟩|⟨rfl,k4⟩)
     ·gi_wp2_with fail
      refine⟨⟨i+1,oM,rfl,?_,(X.trans (M.mono X.size)).trans k5,UC h9 (UC M.size k5.size)⟩,?_⟩
      ·rw[jO,f.out];exact k8
      ·simp[intOf];omega
     ·gi_wp2_with fail
      refine UE (results_none rfl _ _ _) rfl ?_;refine⟨⟨_,rfl⟩,.inr ⟨_,?_,k4⟩⟩;have hp:=GZ (P:=P) c b (i:=i+1) (j:=256) oM;rw[jO,f.out]at hp;exact hp
   ·have f:cand P c b i=none:=by
     unfold cand;rw[S.out,yCm hx]
    gi_wp2_with fail
    refine⟨trivial,λh=>(by cases h),(callsIn_wide.2 (Ko C hr (Uw _) hx L hn)).mono ?_⟩;rintro e u ⟨v,rfl,H,rfl⟩;have A:Hid ((u.alloc (.cells #[uZ 0,uZ 0,uZ 0,uZ 0] 47)).there u.heap.size 0 4):=(Made.alloc u [uZ 0,uZ 0,uZ 0,uZ 0] 47).there;have g:=t.trans (H.mono t.size);have q:Hid (kZ wr ((u.alloc (.cells #[uZ 0,uZ 0,uZ 0,uZ 0] 47)).setCells u.heap.size 0 (ws (0:Fin P)))):=RG.below_setCells g.size _ _ _ (g.alloc g.size _);have f:Hid (cand P c b i=none):=f;obtain⟨G,m⟩:∃G,Hid ((u.alloc (.cells #[uZ 0,uZ 0,uZ 0,uZ 0] 47)).setCells u.heap.size 0 (ws (0:Fin P))=G):=⟨_,rfl⟩
    rw[m.out]at q
    gi_wp2_with (refine bL rfl 47 _ _ rfl u.heap.size 0 (ws (0:Fin P)).toArray ?_ ?_ ?_ ?_ ?_ ?_;rfl;rfl;exact A.out;exact i85;kernel_rfl;rw[show(ws (0:Fin P)).toArray.toList=ws (0:Fin P) from rfl,m.out];refine Zh ?_)
    clear A g t H S m;show wpListIn _ _ _ _ _ _ _ _
    gi_wp2_with fail
    refine⟨⟨i+1,oM,rfl,?_,X.trans (q.mono X.size),UC h9 q.size⟩,?_⟩
    ·rw[jO,f.out];exact hJ _ wr _ none (by simpa using Q) (A4 q.out none) (λ_ e=>by cases e)
    ·simp[intOf];omega
end
end Go.Proofs.YtdoammpgchejcaaGreat
