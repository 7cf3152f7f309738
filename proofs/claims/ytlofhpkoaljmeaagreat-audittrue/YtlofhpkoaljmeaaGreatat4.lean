import Derived.Deep.LoopGhost
import Derived.Deep.RegionHeld3
import Derived.Lib.LazyBuf
import Derived.RangeFuncNested
import Derived.RangeFuncBound
import Derived.RangeFuncCalls
import Derived.RangeFuncLeaves
import Derived.Shelf.Abstract
import Derived.Shelf.RegionOpen
import Derived.WalkKit
import Derived.OwnWalkIn
import Derived.TacticsInMore
import Derived.LoopNIn
import Derived.LoopIn
import Derived.Deep.RegionWith
import Derived.Deep.CutRange
import Derived.Deep.DeepCutAuto
import Derived.Deep.OwnRows
import Derived.Great.BuildSlice
import Derived.Laws.AppendOwn
import Derived.Laws.IdiomCopy
import Derived.Lib.AppendZeros
import Derived.Test.YtlofhpkoaljmeaaGreatat3
set_option linter.unusedVariables false
set_option linter.constructorNameAsVariable false
set_option linter.unusedSimpArgs false
set_option maxRecDepth 1000000
set_option maxHeartbeats 4000000
namespace Go.Proofs.YtlofhpkoaljmeaaGreat
open EC NT RG SP
open _root_.Array renaming all_eq_true'->ZF,any_eq_true'->yAr,ext->yEG,ext_getElem?->yDk,getD_eq_getD_getElem?->XI,getElem?_eq_getElem->X4,getElem?_eq_some_iff->XY,getElem?_replicate->yAQ,getElem?_setIfInBounds->Zv,getElem?_toList->Yz,getElem_replicate->Zo,length_toList->XP,replicate->XL,replicate_succ->yBS,replicate_zero->yBR,size_append->Yg,size_extract->Z4,size_replicate->XU,size_setIfInBounds->YJ,toList_append->yDa,toList_replicate->yBG
open _root_.Bool renaming and_eq_true->XO,or_eq_false_iff->yC9,or_eq_true->Z1,true_or->yAI
open _root_.Classical renaming byContradiction->Zm
open _root_.Fin renaming ext->yAH,ofNat->ZS,val_mul->yAk
open _root_.Go renaming Addr->YW,Calls->XH,Exit->yAL,Oper->Yo,Operand->yAf,Program->YG,Tmp->Zs,TypeId->Yd,Value->Xu,World->Xs,bodyPost_ret->XE,execOp->Yb,run_append_own->yBO,run_loadVar_mid->yAA,run_underlying->yAw,undef->Zp,wpList_load_mid->Yv,wpList_plain->ZH,wpList_store_mid->X8,wpOp_mono->yCa,wp_block->Y6,wp_cond_false->X7,wp_cond_true->Yx,wp_loop_ghost->yBN,wp_region_any->yEJ,wp_ret->Y5,wp_seq->Xy,wp_skip->YR
open _root_.Go.Addr renaming add->yB3
open _root_.Go.Builtin renaming append_->YA,clear_->yDp,zeroCells->Zw
open _root_.Go.Code renaming region->Zd
open _root_.Go.Exit renaming inBlock->yA4
open _root_.Go.Fence renaming wide->yCH
open _root_.Go.Instr renaming box->Yl,build->yBP,buildSlice->Yr,findAsking->yDv,findKey->yD6,indexAt->Yi,loadAt->yCe,lookup->yCV,mapUpdate->yBF,sliceAt->Zk,sureAddr->yAC
open _root_.Go.IntKind renaming i64->Yh,wrap_i64->Zc
open _root_.Go.KeepsOthers renaming alloc->yD5,setCell->yCk
open _root_.Go.Next renaming value->ZN
open _root_.Go.Oper renaming about->yDo,semAt_eq->yCO,semAt_some->yBM,upon_enter->ZI,wp->YV
open _root_.Go.OwnFrom renaming and->yDT
open _root_.Go.Region renaming binds->YT,ready->Yf,wanted->YS
open _root_.Go.Result renaming andThen_ok->Yu
open _root_.Go.RowKit.Below renaming refl->XM
open _root_.Go.RowKit.Hid renaming out->yBV
open _root_.Go.Sem renaming run->yEp,run_bind->XT,run_pure->Zj
open _root_.Go.Value renaming agg->X6
open _root_.Go.World renaming cell?->YO,cell?_of_block->XW,frozen?->Zi,frozen?_of_block->Y0,ownsRow_nil->yDm,putObj->yCT,rangeAt_setCells_apart->Yk,rangeAt_setCells_same->YM,size_alloc->XF,there->yEf,there_setCells->Y2
open _root_.List renaming all_eq_true->Yj,append_nil->yAh,append_toArray->yB1,cons_append->Zx,countP_replicate->yC3,eq_nil_iff_forall_not_mem->yCp,ext_getElem?->yBA,filter_sublist->yDe,finRange->yD9,flatMap_append->yB0,flatMap_cons->yB9,getElem?_append_left->XQ,getElem?_append_right->XR,getElem?_eq_getElem->XJ,getElem?_eq_none->ZG,getElem?_eq_some_iff->XG,getElem?_map->Ys,getElem?_of_mem->Zz,getElem?_range->yBg,getElem?_take->Zt,getElem?_toArray->Ye,getElem_cons_succ->yCY,getElem_mem->YL,length->yEn,length_append->XC,length_cons->Yq,length_filter_le->yC1,length_map->XV,length_nil->Zr,length_range->yAg,length_take->Z7,map_append->YU,map_cons->Z6,map_nil->yCn,map_toArray->yDE,mem_append->Y3,mem_cons->YX,mem_cons_of_mem->Ym,mem_cons_self->YC,mem_filter->yBH,mem_finRange->yDt,mem_flatMap->yDD,mem_map->Yw,mem_of_mem_take->yC5,mem_range->YZ,mem_toArray->yAE,nil_append->ZE,nodup_cons->yAu,nodup_finRange->yBT,not_mem_nil->X5,pairwise_map->yDs,prefix_rfl->yDP,push_toArray->yCm,range->Yt,range_succ->yBe,set_cons_succ->Xv,size_toArray->YD,take_add_one->yCl,take_length->yDC
open _root_.List.Pairwise renaming imp->yCE
open _root_.Nat renaming add_comm->yEm,add_mod->yBY,add_mul->yAn,add_zero->yAi,div_add_mod->yCL,le_add_right->yBI,le_of_ble_eq_true->Yy,le_of_lt->yAl,le_refl->Xx,le_trans->XB,lt_of_lt_of_le->Xz,lt_of_succ_le->ZW,lt_or_ge->Zq,mod_eq_of_lt->XX,mod_lt->Y9,mul_comm->YF,mul_le_mul_right->yAj,mul_mod->Z8,mul_succ->yAS,mul_zero->yCu,ne_of_gt->Zg,pos_of_neZero->yA9,pow_succ->Zf,pow_two->yEt,reduceAdd->YH,reduceSub->yC4,sub_zero->yBx,zero_add->XD,zero_le->Zh
open _root_.Option renaming isSome_iff_exists->YB,map_eq_some_iff->XA,map_some->yA5,some->XS
open _root_.Or renaming inl->X9,inr->X0
open _root_.Prod renaming mk->Ze
open _root_.UInt8 renaming ofNat->XN,toNat_inj->yDy,toNat_ofNat'->yBi
open Go.Proofs.Tryz
open Go.RowKit Go.Sort Go.Deep
section
variable {P:Nat}[NeZero P]{N:Nat}
def ArgsPts(w:Xs)(q:Option YW)(n:Nat)(L:Nat->Bs):Prop:=0<n->∃k,q=some (aZ k)/\k<w.heap.size/\∀j,j<n->∃v,w.cell? ⟨k,j,none⟩=some v/\Arg33 w v (L j)
def Xm(P:Nat)[NeZero P](w:Xs)(n:Nat)(L:Nat->Bs)(e:Xu)(w':Xs):Prop:=
 (∃k,w.heap.size<=k/\k<w'.heap.size/\e=.tuple #[sZ k n n,iZ 0]/\∀j,j<n->∃p,rd P (L j)=some p/\w'.rangeAt k (8*j) (ws p.1++ws p.2)) \/
 ((∃j,j<n/\rd P (L j)=none)/\e=.tuple #[.slice none 0 0,iZ 4])
theorem VI(F:Fld P)(n cap:Nat)(hn:n<=512)(q:Option YW)(L:Nat->Bs)(w:Xs)(hA:ArgsPts w q n L):XH prog 111 #[.slice q n cap] w (rZ w λe w'=>Xm P w n L e w'):=by
 obtain⟨C,hg,he⟩:=Uw n hn;obtain⟨i,-⟩:∃i:Nat,i=0:=⟨_,rfl⟩
 obtain⟨b,-⟩:∃i:Nat,i=0:=⟨_,rfl⟩
 obtain⟨m,-⟩:∃i:Nat,i=0:=⟨_,rfl⟩
 obtain⟨v,-⟩:∃v:Xu,v=.bool true:=⟨_,rfl⟩
 obtain⟨x,-⟩:∃x:Fin P,x=0:=⟨_,rfl⟩
 obtain⟨y,-⟩:∃x:Fin P,x=0:=⟨_,rfl⟩
 obtain⟨T,-⟩:∃c:List Xu,c=C:=⟨_,rfl⟩
 go_enter func111,ntmps111;refine Jf (v0:=.slice q n cap) (n:=32) kR kR kR ?_;intro a0 h6 f0;have h8:=RG.St.begin w;have M0:RG.M w w.heap.size [] 32 [] [] [(0,.v (.slice q n cap))] a0 _:=⟨h8,h6,⟨f0,yEU⟩⟩
 repeat refine Xy ?_
 refine M0.U [.x (.slice none 0 0),.x (iZ 0)] [0,2,3] ⟨st,st,yEU⟩ ?_;intro a1 w1 M1;repeat refine Xy ?_
 refine M1.t [.x 9 [] (.slice q n cap),.x 10 [(9,0)] (iZ n),⟨some 11,[(10,1)],.s 0 n n,.make 0⟩,.s 4 [(11,2)] (.s 0 n n)] [(2,C)] [] [C] [(0,.v (.slice q n cap)),(2,.v (.slice none 0 0)),(3,.v (iZ 0)),(4,.s 0 n n)] ⟨st,gJ rfl 9 (.v (.slice q n cap)) (iZ n) rfl sx (λa w=>kR) (λμ w=>kR),nD 0 rfl _ rfl 138 131 10 10 n rfl rfl sx sx he,st,yEU⟩ ?_;intro j2 a2 w2 M2;repeat refine Xy ?_
 refine M2.U [.x (.slice q n cap),.x (iZ n),.x (iZ 0)] [2,3,4,12,13,14] ⟨st,gJ rfl 12 (.v (.slice q n cap)) (iZ n) rfl sx (λa w=>kR) (λμ w=>kR),st,yEU⟩ ?_;intro U w3 H;have hl:U.tmps[2]? = some (.slice none 0 0):=H.at (s:=(.v (.slice none 0 0)));have hm:U.tmps[3]? = some (iZ 0):=H.at (s:=(.v (iZ 0)));have X:U.tmps[4]? = some (sZ j2 n n):=H.at (s:=(.s 0 n n));have J:U.tmps[12]? = some (.slice q n cap):=H.at (s:=(.v (.slice q n cap)));have S:U.tmps[13]? = some (iZ n):=H.at (s:=(.v (iZ n)));have K:U.tmps[14]? = some (iZ 0):=H.at (s:=(.v (iZ 0)));repeat refine Xy ?_
 refine Y6 ?_;refine yBN (λm a wr=>∃(i:Nat) (C:List Xu),i+m=n/\(∀j,j<i->(rd P (L j)).isSome=true)/\Rows 8 n (λj=>match rd P (L j) with|some p=>ws p.1++ws p.2|none=>[]) i C/\Sl a 32/\a.tmps[4]? = some (sZ j2 n n)/\a.tmps[12]? = some (.slice q n cap)/\a.tmps[13]? = some (iZ n)/\a.tmps[14]? = some (iZ i)/\RG.St w w.heap.size [] [C] [j2] wr) n ⟨0,C,oM,λj hj=>oM,⟨hg,λj r hj=>oM⟩,H.sl,X,J,S,K,H.st⟩ ?_;intro m' a wr;rintro⟨i,C,k8,E,hR,sl,p4,D,O,N,z⟩;generalize j2=R at p4 z;by_cases B:i<n
 ·obtain⟨b,V,h0,hc⟩:=hA oM;rw[V]at D;obtain⟨v,hv,G⟩:=hc i B;have f:w.cell? ⟨b,0+i,none⟩=some v:=by rw[XD];exact hv
  cases k:rd P (L i) with
  | some pp =>
   obtain⟨x,y⟩:=pp;have Q:∀w',BelX w.heap.size [] w w'->XH prog 156 #[v] w' (Ret λe I=>kZ w' I/\e=.tuple #[pv x y,.bool true]):=λw' hb=>by
    have:=nT F v (L i) w' (G.below hb.below);rw[k]at this;exact this
   have Y:=hR.len;have l:0+8*i+(ws x++ws y).length<=C.length:=by rw[Y];show 0+8*i+8<=8*n;omega
   obtain⟨T,g⟩:∃c,rep C (0+8*i) (ws x++ws y)=c:=⟨_,rfl⟩
   have h4:=g ▸ RG.rep_at l;have h1:T.length=C.length:=g ▸ cY l;have h2:Rows 8 n (λj=>match rd P (L j) with|some p=>ws p.1++ws p.2|none=>[]) (i+1) T:=by
    have:=hR.next B (by show yEn (match rd P (L i) with|some p=>_|none=>_)=_;rw[k];rfl);rw[<-g];have e:(λj=>match rd P (L j) with|some p=>ws p.1++ws p.2|none=>[]) i=(ws x++ws y):=by show(match rd P (L i) with|some p=>_|none=>_)=_;rw[k]
    rw[<-e];exact this
   have h7:RG.M w w.heap.size [] 32 [C] [R] [(4,.s 0 n n),(12,.v (sZ b n cap)),(13,.v (iZ n)),(14,.v (iZ i))] a _:=⟨z,sl,⟨p4,D,O,N,yEU⟩⟩
   repeat refine Xy ?_
   refine h7.U [.x (.bool true)] [4,12,13,14,15] ⟨aO rfl .lss 3 3 14 13 (iZ i) (iZ n) (.bool true) rfl rfl sx sx (λw=>kR) (gW B),yEU⟩ ?_;intro hp k4 W;repeat refine Xy ?_
   refine Yx W.ev ?_;refine YR ?_;refine Xy ?_;refine Y6 ?_;repeat refine Xy ?_
   refine W.U [.x (iZ i),.x (.pointer (some ⟨b,0+i,none⟩)),.x v,.x (iZ i),.x v] [4,5,6,12,13,14] ⟨st,aY rfl 27 12 14 rfl (.v (sZ b n cap)) (iZ i) sx sx (λμ w=>O7 _ 0 _ _ i B w),bO rfl b (0+i) h0 X5 23 17 rfl v rfl sx f u23,st,st,yEU⟩ ?_;intro hu hq ha;repeat refine Xy ?_
   refine ha.T [.x v,.c (.tuple #[pv x y,.bool true]),.x (.tuple #[pv x y,.bool true]),.x (pv x y),.x (.bool true),.m 1,.u 1,.x (.bool true)] [(5,RG.z 8)] [(1,6,ws x++(ws y))] [C,ws x++(ws y)] [4,5,7,8,12,13,14] ⟨st,vH rfl 156 20 v (.tuple #[pv x y,.bool true]) rfl (λa w=>kR) sx Q,st,st,st,mk 1 131,RG.pt i109,st,yEU⟩ ?_;intro k9 hy ht hk;repeat refine Xy ?_
   refine hk.U [.x (.bool true),.x (.bool false)] [4,5,7,12,13,14,25] ⟨st,st,yEU⟩ ?_;intro hw k5 Z;repeat refine Xy ?_
   refine X7 Z.ev ?_;refine YR ?_;repeat refine Xy ?_
   refine Z.tx [.s 26 [] (.s 0 n n),.x 27 [] (iZ i),.x 28 [] (pv x y),.s 29 [(26,0),(27,1)] (.p 0 (0+8*i)),.u [(29,3),(28,2)] 0] [] [(0,4,T)] [T,ws x++(ws y)] [(4,.s 0 n n),(12,.v (sZ b n cap)),(13,.v (iZ n)),(14,.v (iZ i))] kR (congrArg (λn=>[n]) h1) ⟨st,st,ld iI i109,aY rfl 138 26 27 rfl (.s 0 n n) (iZ i) sx sx (λμ w=>Qj _ 0 _ _ i B w),fO 0 (0+8*i) rfl _ rfl 131 (.tmp 29) (.tmp 28) (ws x++ws y) rfl rfl sx sx l h4 i109 rfl,yEU⟩ ?_;intro ka hs h3;repeat refine Xy ?_
   refine h3.U [.x (iZ ((i+1:Nat):Int)),.x (iZ ((i+1:Nat):Int))] [4,12,13,14] ⟨aN rfl .add 3 3 14 (iZ i) (iZ 1) (iZ ((i+1:Nat):Int)) rfl rfl sx (λw=>kR) (vZ i 1 oM oM),st,yEU⟩ ?_;intro u k0 d;have M:u.tmps[4]? = some (sZ R n n):=d.at (s:=(.s 0 n n));have o:u.tmps[12]? = some (sZ b n cap):=d.at (s:=(.v (sZ b n cap)));have t:u.tmps[13]? = some (iZ n):=d.at (s:=(.v (iZ n)));have A:u.tmps[14]? = some (iZ ((i+1:Nat):Int)):=d.at (s:=(.v (iZ ((i+1:Nat):Int))));show ∃n',_;exact⟨m'-1,oM,i+1,T,oM,λj hj=>(by
    by_cases h9:j=i
    ·rw[h9,k];rfl
    ·exact E j oM),h2,d.sl,M,(by rw[V];exact o),t,A,RG.St.init (cs:=[T]) (ks:=[R]) d.st⟩
  | none =>
   have Q:∀w',BelX w.heap.size [] w w'->XH prog 156 #[v] w' (Ret λe I=>kZ w' I/\e=.tuple #[pv (0:Fin P) 0,.bool false]):=λw' hb=>by
    have:=nT F v (L i) w' (G.below hb.below);rw[k]at this;exact this
   have o:RG.M w w.heap.size [] 32 [C] [R] [(4,.s 0 n n),(12,.v (sZ b n cap)),(13,.v (iZ n)),(14,.v (iZ i))] a _:=⟨z,sl,⟨p4,D,O,N,yEU⟩⟩
   repeat refine Xy ?_
   refine o.U [.x (.bool true)] [12,14,15] ⟨aO rfl .lss 3 3 14 13 (iZ i) (iZ n) (.bool true) rfl rfl sx sx (λw=>kR) (gW B),yEU⟩ ?_;intro k7 k1 l;repeat refine Xy ?_
   refine Yx l.ev ?_;refine YR ?_;refine Xy ?_;refine Y6 ?_;repeat refine Xy ?_
   refine l.U [.x (iZ i),.x (.pointer (some ⟨b,0+i,none⟩)),.x v,.x (iZ i),.x v] [6] ⟨st,aY rfl 27 12 14 rfl (.v (sZ b n cap)) (iZ i) sx sx (λμ w=>O7 _ 0 _ _ i B w),bO rfl b (0+i) h0 X5 23 17 rfl v rfl sx f u23,st,st,yEU⟩ ?_;intro W M u;repeat refine Xy ?_
   refine u.T [.x v,.c (.tuple #[pv (0:Fin P) (0:Fin P),.bool false]),.x (.tuple #[pv (0:Fin P) (0:Fin P),.bool false]),.x (pv (0:Fin P) (0:Fin P)),.x (.bool false),.m 1,.u 1,.x (.bool false)] [(5,RG.z 8)] [(1,6,ws (0:Fin P)++(ws (0:Fin P)))] [C,ws (0:Fin P)++(ws (0:Fin P))] [8] ⟨st,vH rfl 156 20 v (.tuple #[pv (0:Fin P) (0:Fin P),.bool false]) rfl (λa w=>kR) sx Q,st,st,st,mk 1 131,RG.pt i109,st,yEU⟩ ?_;intro A Z hz t;repeat refine Xy ?_
   refine t.U [.x (.bool false),.x (.bool true)] [25] ⟨st,st,yEU⟩ ?_;intro k6 Y g;repeat refine Xy ?_
   refine Yx g.ev ?_;repeat refine Xy ?_
   refine g.U [.x (.slice none 0 0),.x (iZ 4)] [2,3] ⟨st,st,yEU⟩ ?_;intro k2 k3 d;refine Y5 ?_;refine XE (v:=.tuple #[.slice none 0 0,iZ 4]) (dQ 2 3 rfl _ _ (d.at (s:=(.v (.slice none 0 0)))) (d.at (s:=(.v (iZ 4))))) d.sl.defers ?_;exact⟨_,rfl,d.st.bel.below,X0 ⟨⟨i,B,k⟩,rfl⟩⟩
 ·have l:i=n:=oM;have g:RG.M w w.heap.size [] 32 [C] [R] [(4,.s 0 n n),(12,.v (.slice q n cap)),(13,.v (iZ n)),(14,.v (iZ i))] a _:=⟨z,sl,⟨p4,D,O,N,yEU⟩⟩
  repeat refine Xy ?_
  refine g.U [.x (.bool false)] [4,15] ⟨aO rfl .lss 3 3 14 13 (iZ i) (iZ n) (.bool false) rfl rfl sx sx (λw=>kR) (oC B),yEU⟩ ?_;intro o u f;repeat refine Xy ?_
  refine X7 f.ev ?_;refine wp_exit ?_;dsimp only[Exit.then,yA4];rw[yES rfl];repeat refine Xy ?_
  refine f.U [.s (.s 0 n n),.s (.s 0 n n),.x (iZ 0)] [2,3] ⟨st,st,st,yEU⟩ ?_;intro G I k;refine Y5 ?_;refine XE (v:=.tuple #[sZ R n n,iZ 0]) (dQ 2 3 rfl _ _ (k.at (s:=(.s 0 n n))) (k.at (s:=(.v (iZ 0))))) k.sl.defers ?_;refine⟨_,rfl,k.st.bel.below,X9 ⟨R,?_,?_,rfl,λj hj=>?_⟩⟩
  ·exact(k.st.has 0 C rfl).2.2.2.elim id (λh=>absurd h X5)
  ·exact(k.st.has 0 C rfl).2.2.1
  ·obtain⟨pp,d⟩:=YB.1 (E j oM);refine⟨pp,d,tD (k.st.has 0 C rfl).1 (λr A=>?_)⟩;have t:=hR.row j r oM A;rw[t];show(match rd P (L j) with|some p=>_|none=>_)[r]? = _;rw[d]
def wX(w:Xs)(q:Option YW)(n:Nat)(L:Nat->Bs):Prop:=0<n->∃k,q=some (aZ k)/\k<w.heap.size/\∀j,j<n->∃v,w.cell? ⟨k,j,none⟩=some v/\Arg w v (L j)
def Xl(N:Nat)(w:Xs)(n:Nat)(L:Nat->Bs)(e:Xu)(w':Xs):Prop:=
 (∃k,w.heap.size<=k/\k<w'.heap.size/\e=.tuple #[sZ k n n,iZ 0]/\∀j,j<n->∃p,rq N (L j)=some p/\w'.rangeAt k (4*j) (wn p)) \/
 ((∃j,j<n/\rq N (L j)=none)/\e=.tuple #[.slice none 0 0,iZ 3])
theorem Qo{N:Nat}(hG:Gap 4624529908474429119 4994812053365940164 1 N)(n cap:Nat)(hn:n<=512)(q:Option YW)(L:Nat->Bs)(w:Xs)(hA:wX w q n L):XH prog 65 #[.slice q n cap] w (rZ w λe w'=>Xl N w n L e w'):=by
 obtain⟨C,he,ha⟩:=WC n hn;obtain⟨i,-⟩:∃i:Nat,i=0:=⟨_,rfl⟩
 obtain⟨d,-⟩:∃i:Nat,i=0:=⟨_,rfl⟩
 obtain⟨m,-⟩:∃i:Nat,i=0:=⟨_,rfl⟩
 obtain⟨v,-⟩:∃v:Xu,v=.bool true:=⟨_,rfl⟩
 obtain⟨R,-⟩:∃c:List Xu,c=C:=⟨_,rfl⟩
 go_enter func65,ntmps65;refine Jf (v0:=.slice q n cap) (n:=33) kR kR kR ?_;intro a0 h4 f0;have h7:=RG.St.begin w;have M0:RG.M w w.heap.size [] 33 [] [] [(0,.v (.slice q n cap))] a0 _:=⟨h7,h4,⟨f0,yEU⟩⟩
 repeat refine Xy ?_
 refine M0.U [.x (.slice none 0 0),.x (iZ 0)] [0,2,3] ⟨st,st,yEU⟩ ?_;intro a1 w1 M1;repeat refine Xy ?_
 refine M1.t [.x 9 [] (.slice q n cap),.x 10 [(9,0)] (iZ n),⟨some 11,[(10,1)],.s 0 n n,.make 0⟩,.s 4 [(11,2)] (.s 0 n n)] [(2,C)] [] [C] [(0,.v (.slice q n cap)),(2,.v (.slice none 0 0)),(3,.v (iZ 0)),(4,.s 0 n n)] ⟨st,gJ rfl 9 (.v (.slice q n cap)) (iZ n) rfl sx (λa w=>kR) (λμ w=>kR),nD 0 rfl _ rfl 127 42 10 10 n rfl rfl sx sx ha,st,yEU⟩ ?_;intro j2 a2 w2 M2;repeat refine Xy ?_
 refine M2.U [.x (.slice q n cap),.x (iZ n),.x (iZ 0)] [2,3,4,12,13,14] ⟨st,gJ rfl 12 (.v (.slice q n cap)) (iZ n) rfl sx (λa w=>kR) (λμ w=>kR),st,yEU⟩ ?_;intro S w3 F;have hk:S.tmps[2]? = some (.slice none 0 0):=F.at (s:=(.v (.slice none 0 0)));have hl:S.tmps[3]? = some (iZ 0):=F.at (s:=(.v (iZ 0)));have V:S.tmps[4]? = some (sZ j2 n n):=F.at (s:=(.s 0 n n));have H:S.tmps[12]? = some (.slice q n cap):=F.at (s:=(.v (.slice q n cap)));have Q:S.tmps[13]? = some (iZ n):=F.at (s:=(.v (iZ n)));have I:S.tmps[14]? = some (iZ 0):=F.at (s:=(.v (iZ 0)));repeat refine Xy ?_
 refine Y6 ?_;refine yBN (λm a wr=>∃(i:Nat) (C:List Xu),i+m=n/\(∀j,j<i->(rq N (L j)).isSome=true)/\Rows 4 n (λj=>match rq N (L j) with|some k=>wn k|none=>[]) i C/\Sl a 33/\a.tmps[4]? = some (sZ j2 n n)/\a.tmps[12]? = some (.slice q n cap)/\a.tmps[13]? = some (iZ n)/\a.tmps[14]? = some (iZ i)/\RG.St w w.heap.size [] [C] [j2] wr) n ⟨0,C,oM,λj hj=>oM,⟨he,λj r hj=>oM⟩,F.sl,V,H,Q,I,F.st⟩ ?_;intro m' a wr;rintro⟨i,C,k7,D,hR,sl,Z,B,M,K,y⟩;generalize j2=P at Z y;by_cases A:i<n
 ·obtain⟨d,T,Y,hc⟩:=hA oM;rw[T]at B;obtain⟨v,hv,E⟩:=hc i A;have g:w.cell? ⟨d,0+i,none⟩=some v:=by rw[XD];exact hv
  cases b:rq N (L i) with
  | some pp =>
   obtain⟨m,rfl⟩:∃m,m=pp:=⟨_,rfl⟩
   have O:∀w',BelX w.heap.size [] w w'->XH prog 29 #[gv1,v] w' (Ret λe G=>kZ w' G/\e=.tuple #[nv m,.bool true]):=λw' hb=>by
    have:=Bm hG v (L i) w' (E.below hb.below);rw[b]at this;exact this
   have W:=hR.len;have o:0+4*i+(wn m).length<=C.length:=by rw[W];show 0+4*i+4<=4*n;omega
   obtain⟨R,l⟩:∃c,rep C (0+4*i) (wn m)=c:=⟨_,rfl⟩
   have h3:=l ▸ RG.rep_at o;have h0:R.length=C.length:=l ▸ cY o;have h1:Rows 4 n (λj=>match rq N (L j) with|some k=>wn k|none=>[]) (i+1) R:=by
    have:=hR.next A (by show yEn (match rq N (L i) with|some p=>_|none=>_)=_;rw[b];rfl);rw[<-l];have e:(λj=>match rq N (L j) with|some k=>wn k|none=>[]) i=(wn m):=by show(match rq N (L i) with|some p=>_|none=>_)=_;rw[b]
    rw[<-e];exact this
   have h6:RG.M w w.heap.size [] 33 [C] [P] [(4,.s 0 n n),(12,.v (sZ d n cap)),(13,.v (iZ n)),(14,.v (iZ i))] a _:=⟨y,sl,⟨Z,B,M,K,yEU⟩⟩
   repeat refine Xy ?_
   refine h6.U [.x (.bool true)] [4,12,13,14,15] ⟨aO rfl .lss 3 3 14 13 (iZ i) (iZ n) (.bool true) rfl rfl sx sx (λw=>kR) (gW A),yEU⟩ ?_;intro hm k3 U;repeat refine Xy ?_
   refine Yx U.ev ?_;refine YR ?_;refine Xy ?_;refine Y6 ?_;repeat refine Xy ?_
   refine U.U [.x (iZ i),.x (.pointer (some ⟨d,0+i,none⟩)),.x v,.x (iZ i),.x v] [4,5,6,12,13,14] ⟨st,aY rfl 27 12 14 rfl (.v (sZ d n cap)) (iZ i) sx sx (λμ w=>O7 _ 0 _ _ i A w),bO rfl d (0+i) Y X5 23 17 rfl v rfl sx g u23,st,st,yEU⟩ ?_;intro ht hp h9;repeat refine Xy ?_
   refine h9.T [.c gv1,.x v,.c (.tuple #[nv m,.bool true]),.x (.tuple #[nv m,.bool true]),.x (nv m),.x (.bool true),.m 1,.u 1,.x (.bool true)] [(6,RG.z 4)] [(1,7,wn m)] [C,wn m] [4,5,7,8,12,13,14] ⟨cl fW,st,kP rfl 29 20 21 gv1 v (.tuple #[nv m,.bool true]) rfl (λa w=>kR) sx sx O,st,st,st,mk 1 42,RG.pt i85,st,yEU⟩ ?_;intro k8 hw hs hg;repeat refine Xy ?_
   refine hg.U [.x (.bool true),.x (.bool false)] [4,5,7,12,13,14,26] ⟨st,st,yEU⟩ ?_;intro hu k4 X;repeat refine Xy ?_
   refine X7 X.ev ?_;refine YR ?_;repeat refine Xy ?_
   refine X.tx [.s 27 [] (.s 0 n n),.x 28 [] (iZ i),.x 29 [] (nv m),.s 30 [(27,0),(28,1)] (.p 0 (0+4*i)),.u [(30,3),(29,2)] 0] [] [(0,4,R)] [R,wn m] [(4,.s 0 n n),(12,.v (sZ d n cap)),(13,.v (iZ n)),(14,.v (iZ i))] kR (congrArg (λn=>[n]) h0) ⟨st,st,ld u85 i85,aY rfl 127 27 28 rfl (.s 0 n n) (iZ i) sx sx (λμ w=>Vw _ 0 _ _ i A w),fO 0 (0+4*i) rfl _ rfl 42 (.tmp 30) (.tmp 29) (wn m) rfl rfl sx sx o h3 i85 rfl,yEU⟩ ?_;intro k9 hq h2;repeat refine Xy ?_
   refine h2.U [.x (iZ ((i+1:Nat):Int)),.x (iZ ((i+1:Nat):Int))] [4,12,13,14] ⟨aN rfl .add 3 3 14 (iZ i) (iZ 1) (iZ ((i+1:Nat):Int)) rfl rfl sx (λw=>kR) (vZ i 1 oM oM),st,yEU⟩ ?_;intro x hz f;have J:x.tmps[4]? = some (sZ P n n):=f.at (s:=(.s 0 n n));have t:x.tmps[12]? = some (sZ d n cap):=f.at (s:=(.v (sZ d n cap)));have u:x.tmps[13]? = some (iZ n):=f.at (s:=(.v (iZ n)));have z:x.tmps[14]? = some (iZ ((i+1:Nat):Int)):=f.at (s:=(.v (iZ ((i+1:Nat):Int))));show ∃n',_;exact⟨m'-1,oM,i+1,R,oM,λj hj=>(by
    by_cases h8:j=i
    ·rw[h8,b];rfl
    ·exact D j oM),h1,f.sl,J,(by rw[T];exact t),u,z,RG.St.init (cs:=[R]) (ks:=[P]) f.st⟩
  | none =>
   have O:∀w',BelX w.heap.size [] w w'->XH prog 29 #[gv1,v] w' (Ret λe G=>kZ w' G/\e=.tuple #[nv 0,.bool false]):=λw' hb=>by
    have:=Bm hG v (L i) w' (E.below hb.below);rw[b]at this;exact this
   have t:RG.M w w.heap.size [] 33 [C] [P] [(4,.s 0 n n),(12,.v (sZ d n cap)),(13,.v (iZ n)),(14,.v (iZ i))] a _:=⟨y,sl,⟨Z,B,M,K,yEU⟩⟩
   repeat refine Xy ?_
   refine t.U [.x (.bool true)] [12,14,15] ⟨aO rfl .lss 3 3 14 13 (iZ i) (iZ n) (.bool true) rfl rfl sx sx (λw=>kR) (gW A),yEU⟩ ?_;intro k6 k0 o;repeat refine Xy ?_
   refine Yx o.ev ?_;refine YR ?_;refine Xy ?_;refine Y6 ?_;repeat refine Xy ?_
   refine o.U [.x (iZ i),.x (.pointer (some ⟨d,0+i,none⟩)),.x v,.x (iZ i),.x v] [6] ⟨st,aY rfl 27 12 14 rfl (.v (sZ d n cap)) (iZ i) sx sx (λμ w=>O7 _ 0 _ _ i A w),bO rfl d (0+i) Y X5 23 17 rfl v rfl sx g u23,st,st,yEU⟩ ?_;intro U J x;repeat refine Xy ?_
   refine x.T [.c gv1,.x v,.c (.tuple #[nv 0,.bool false]),.x (.tuple #[nv 0,.bool false]),.x (nv 0),.x (.bool false),.m 1,.u 1,.x (.bool false)] [(6,RG.z 4)] [(1,7,wn 0)] [C,wn 0] [8] ⟨cl fW,st,kP rfl 29 20 21 gv1 v (.tuple #[nv 0,.bool false]) rfl (λa w=>kR) sx sx O,st,st,st,mk 1 42,RG.pt i85,st,yEU⟩ ?_;intro z X hy u;repeat refine Xy ?_
   refine u.U [.x (.bool false),.x (.bool true)] [26] ⟨st,st,yEU⟩ ?_;intro k5 W l;repeat refine Xy ?_
   refine Yx l.ev ?_;repeat refine Xy ?_
   refine l.U [.x (.slice none 0 0),.x (iZ 3)] [2,3] ⟨st,st,yEU⟩ ?_;intro k1 k2 f;refine Y5 ?_;refine XE (v:=.tuple #[.slice none 0 0,iZ 3]) (dQ 2 3 rfl _ _ (f.at (s:=(.v (.slice none 0 0)))) (f.at (s:=(.v (iZ 3))))) f.sl.defers ?_;exact⟨_,rfl,f.st.bel.below,X0 ⟨⟨i,A,b⟩,rfl⟩⟩
 ·have o:i=n:=oM;have l:RG.M w w.heap.size [] 33 [C] [P] [(4,.s 0 n n),(12,.v (.slice q n cap)),(13,.v (iZ n)),(14,.v (iZ i))] a _:=⟨y,sl,⟨Z,B,M,K,yEU⟩⟩
  repeat refine Xy ?_
  refine l.U [.x (.bool false)] [4,15] ⟨aO rfl .lss 3 3 14 13 (iZ i) (iZ n) (.bool false) rfl rfl sx sx (λw=>kR) (oC A),yEU⟩ ?_;intro t x g;repeat refine Xy ?_
  refine X7 g.ev ?_;refine wp_exit ?_;dsimp only[Exit.then,yA4];rw[yES rfl];repeat refine Xy ?_
  refine g.U [.s (.s 0 n n),.s (.s 0 n n),.x (iZ 0)] [2,3] ⟨st,st,st,yEU⟩ ?_;intro E G b;refine Y5 ?_;refine XE (v:=.tuple #[sZ P n n,iZ 0]) (dQ 2 3 rfl _ _ (b.at (s:=(.s 0 n n))) (b.at (s:=(.v (iZ 0))))) b.sl.defers ?_;refine⟨_,rfl,b.st.bel.below,X9 ⟨P,?_,?_,rfl,λj hj=>?_⟩⟩
  ·exact(b.st.has 0 C rfl).2.2.2.elim id (λh=>absurd h X5)
  ·exact(b.st.has 0 C rfl).2.2.1
  ·obtain⟨pp,f⟩:=YB.1 (D j oM);refine⟨pp,f,tD (b.st.has 0 C rfl).1 (λr z=>?_)⟩;have u:=hR.row j r oM z;rw[u];show(match rq N (L j) with|some p=>_|none=>_)[r]? = _;rw[f]
omit [NeZero P] in
theorem Jb(x y:Fin P):∃a b c d p q r s:Nat,pv x y=.agg #[uZ a,uZ b,uZ c,uZ d,uZ p,uZ q,uZ r,uZ s]/\ws x++ws y=[uZ a,uZ b,uZ c,uZ d,uZ p,uZ q,uZ r,uZ s]:=
 ⟨_,_,_,_,_,_,_,_,rfl,rfl⟩
def MI(c:Int)(e:Xu):Prop:=e=.tuple #[.slice none 0 0,iZ c]
def I3(w:Xs)(T:Bs)(e:Xu)(w':Xs):Prop:=∃g cap,e=.tuple #[sZ g 33 cap,iZ 0]/\33<=cap/\w.heap.size<=g/\g<w'.heap.size/\Holds encB w' g 0 T
theorem C4(C:Fld P)(v:Xu)(g:Bs)(w:Xs)(hv:Arg33 w v g):XH prog 103 #[v] w (rZ w λe w'=>e=.bool (rd P g).isSome):=by
 have i:∃(c b1 c1 d p1 b k s1:Nat),XH prog 156 #[v] w (rZ w λe w'=>e=.tuple #[.agg #[uZ c,uZ b1,uZ c1,uZ d,uZ p1,uZ b,uZ k,uZ s1],.bool (rd P g).isSome]):=by
  have h:=nT C v g w hv;cases f:rd P g with
  | none =>
   obtain⟨c,b1,c1,d,p1,b,k,s1,j,-⟩:=Jb (0:Fin P) 0;refine⟨c,b1,c1,d,p1,b,k,s1,?_⟩;rw[f]at h;rw[<-j];exact h
  | some p =>
   obtain⟨c,b1,c1,d,p1,b,k,s1,j,-⟩:=Jb p.1 p.2;refine⟨c,b1,c1,d,p1,b,k,s1,?_⟩;rw[f]at h;rw[<-j];exact h
 obtain⟨c,b1,c1,d,p1,b,k,s1,i⟩:=i;obtain⟨q,n,cap,rfl,-⟩:=hv;go_enter func103,ntmps103;go_wp2_with fail
 refine i.mono ?_;rintro e l ⟨v,rfl,f,rfl⟩;have j:=mk1 (f);go_wp2;go_ret;exact⟨_,rfl,j.alloc j.size _,rfl⟩
structure PS(w:Xs)(k:Nat)(a1 b1 c1 d1 p1 q1 r1 s1 a2 b2 c2 d2 p2 q2 r2 s2:Nat)(W:Xs):Prop where
 r1:W.rangeAt k 0 [uZ a1,uZ b1,uZ c1,uZ d1,uZ p1,uZ q1,uZ r1,uZ s1]
 r2:W.rangeAt k 8 [uZ a2,uZ b2,uZ c2,uZ d2,uZ p2,uZ q2,uZ r2,uZ s2]
 lt:k<W.heap.size
 bl:kZ w W
def ptP(s:T3 P):Fin P × Fin P:=(s.1*(inv s.2.2*inv s.2.2),s.2.1*(inv s.2.2*inv s.2.2)*inv s.2.2)
theorem cell_below{w c:Xs}{k j:Nat}{v:Xu}(h:w.cell? ⟨k,j,none⟩=some v)(f:kZ w c)(d:k<w.heap.size):c.cell? ⟨k,j,none⟩=some v:=by
 have e:w.rangeAt k j [v]:=λi u b=>by
  cases i with
  | zero =>
   obtain rfl:v=u:=XS.inj b;exact h
  | succ i=>exact absurd b (by simp)
 exact RG.range_below e f d 0 v rfl
theorem ArgsPts.below{w c:Xs}{q:Option YW}{n:Nat}{L:Nat->Bs}(h:ArgsPts w q n L)(b:kZ w c):ArgsPts c q n L:=λf=>by
 obtain⟨e,i,k,l⟩:=h f;refine⟨e,i,Xz k b.size,λj d=>?_⟩;obtain⟨v,hv,g⟩:=l j d;exact⟨v,cell_below hv b k,g.below b⟩
def SumR(P:Nat)[NeZero P](N:Nat)(w:Xs)(n a:Nat)(L M:Nat->Bs)(e:Xu)(w':Xs):Prop:=
 (n≠a/\MI 2 e)\/(n=a/\512<n/\MI 1 e)\/(n=a/\n<=512/\(((∃j,j<n/\rq N (L j)=none)/\MI 3 e) \/
  ∃ns:Nat->Nat,(∀j,j<n->rq N (L j)=some (ns j))/\(((∃j,j<n/\rd P (M j)=none)/\MI 4 e) \/
   ∃xs ys:Nat->Fin P,(∀j,j<n->rd P (M j)=some (xs j,ys j))/\I3 w (uH (ptP (iW ns xs ys n 257)).1 (ptP (iW ns xs ys n 257)).2) e w')))
theorem zB{A:Type}[Inhabited A]{n:Nat}{p:Nat->A->Prop}(h:∀j,j<n->∃a,p j a):∃f:Nat->A,∀j,j<n->p j (f j):=
 ⟨λj=>if k:j<n then(h j k).choose else default,λj k=>by
  show p j (if k:j<n then(h j k).choose else default);rw[dif_pos k];exact(h j k).choose_spec⟩
theorem xP{N:Nat}(b:N<=top){k:Bs}{m:Nat}(h:rq N k=some m):m<top:=by
 unfold rq at h;split at h
 ·rename_i h1
  obtain rfl:beV k.toList=m:=XS.inj h;exact Xz h1.2 b
 ·exact absurd h (by simp)
theorem Sx{N:Nat}(C:Fld P)(hG:Gap 4624529908474429119 4994812053365940164 1 N)(hN:N<=top)(q Q:Option YW)(n cap a o:Nat)(L M:Nat->Bs)(w:Xs)(hL:wX w q n L)(hM:ArgsPts w Q a M):
 XH prog 64 #[.slice q n cap,.slice Q a o] w (rZ w λe w'=>SumR P N w n a L M e w'):=by
 have HL:=mk1 (hL);have HM:=mk1 (hM);by_cases A:n=a
 ·subst A;by_cases E:512<n
  ·go_enter func64,ntmps64;go_wp2
   go_ret2
   exact⟨_,rfl,XM _ _,X0 (X9 ⟨rfl,E,rfl⟩)⟩
  ·have y:n<=512:=oM;go_enter func64,ntmps64;go_wp2_with fail
   refine(Qo hG n cap y q L w HL.out).mono ?_;rintro e V ⟨v,rfl,I,⟨k,S,t,rfl,c⟩|⟨x,rfl⟩⟩
   ·obtain⟨ns,F⟩:=zB c;have r:=mk1 (I);have W:Hid (k<V.heap.size/\∀j,j<n->V.rangeAt k (4*j) (wn (ns j))):=⟨t,λj l=>(F j l).2⟩
    have U:Hid (∀j,j<n->rq N (L j)=some (ns j)):=λj l=>(F j l).1
    go_wp2_with fail
    refine(VI C n o y Q M V (HM.below r.out)).mono ?_;rintro e m ⟨v,rfl,d,⟨K,S,t,rfl,c⟩|⟨x,rfl⟩⟩
    ·obtain⟨b,B⟩:=zB c;have f:=mk1 (r.trans (d.mono r.size));have J:Hid (k<m.heap.size/\∀j,j<n->m.rangeAt k (4*j) (wn (ns j))):=⟨Xz W.1 d.size,λj l=>RG.range_below (W.2 j l) d W.1⟩
     have HP:Hid (K<m.heap.size/\∀j,j<n->m.rangeAt K (8*j) (ws (b j).1++ws (b j).2)):=⟨t,λj l=>(B j l).2⟩
     have h0:Hid (∀j,j<n->rd P (M j)=some ((b j).1,(b j).2)):=λj l=>(B j l).1
     have G:∀w,XH prog 70 #[pv (ptP (iW ns (λj=>(b j).1) (λj=>(b j).2) n 257)).1 (ptP (iW ns (λj=>(b j).1) (λj=>(b j).2) n 257)).2] w (rZ w λe w'=>nF w (uH (ptP (iW ns (λj=>(b j).1) (λj=>(b j).2) n 257)).1 (ptP (iW ns (λj=>(b j).1) (λj=>(b j).2) n 257)).2) e w'):=wT C _ _;have hS:XH prog 66 #[sZ k n n,sZ K n n] m (rZ m λe w'=>e=pv (ptP (iW ns (λj=>(b j).1) (λj=>(b j).2) n 257)).1 (ptP (iW ns (λj=>(b j).1) (λj=>(b j).2) n 257)).2):=by
      refine(Jq C n y ns (λj=>(b j).1) (λj=>(b j).2) (λi u=>xP hN (U i u)) k K m J.1 HP.1 J.2 HP.2).mono ?_;rintro e w' ⟨v,rfl,p,s,rfl,rfl⟩;exact⟨_,rfl,p,rfl⟩
     generalize hz:ptP (iW ns (λj=>(b j).1) (λj=>(b j).2) n 257)=z at hS G;have HZ:Hid (ptP (iW ns (λj=>(b j).1) (λj=>(b j).2) n 257)=z):=hz;go_wp2_with fail
     refine hS.mono ?_;rintro e w3 ⟨v,rfl,O,rfl⟩;have u:=mk1 (f.trans (O.mono f.size));go_wp2_with fail
     refine(G _).mono ?_;rintro e w4 ⟨v,rfl,R,g,p,rfl,Y,T,D,Z⟩;have X:=mk1 (u.trans (R.mono u.size));have H:Hid (I3 w (uH z.1 z.2) (.tuple #[sZ g 33 p,iZ 0]) w4):=⟨g,p,rfl,Y,XB u.size T,D,Z⟩
     go_wp2
     go_ret2
     refine⟨_,rfl,X.out,X0 (X0 ⟨rfl,y,X0 ⟨ns,U.out,X0 ⟨_,_,h0.out,?_⟩⟩⟩)⟩;rw[HZ.out];exact H.out
    ·have f:=mk1 (r.trans (d.mono r.size));have H:=mk1 (x);go_wp2
     go_ret2
     exact⟨_,rfl,f.out,X0 (X0 ⟨rfl,y,X0 ⟨ns,U.out,X9 ⟨H.out,rfl⟩⟩⟩)⟩
   ·have r:=mk1 (I);have H:=mk1 (x);go_wp2
    go_ret2
    exact⟨_,rfl,r.out,X0 (X0 ⟨rfl,y,X9 ⟨H.out,rfl⟩⟩)⟩
 ·go_enter func64,ntmps64;go_wp2
  go_ret2
  exact⟨_,rfl,XM _ _,X9 ⟨A,rfl⟩⟩
def I6:Bs:=XL 33 0
theorem QL(r d:Nat):d*d%(r+d)=r*r%(r+d):=by
 have h:d*d+(r+d)*r=r*r+(r+d)*d:=by
  rw[yAn,yAn,YF d r];omega
 have k:=congrArg (· % (r+d)) h;simp only[Nat.add_mul_mod_self_left]at k;exact k
theorem Px{m y:Fin P}(h:rt m=some y):y*y=m:=by
 have k:=JM h;unfold rt at h;rw[yES k]at h;obtain rfl:=XS.inj h;have c:=yA9 P;have d:m.val^(P/4+1)%P<P:=Y9 _ c;generalize m.val^(P/4+1)%P=r at k d;apply yAH;rw[yAk];show(even P r%P)*(even P r%P)%P=m.val;rw[XX (GM c d),<-k];unfold even;split
 ·have b:=QL r (P-r);rw[show r+(P-r)=P by omega]at b;exact b
 ·rfl
theorem DD{k:Bs}(d:k.size=33):uL k↔k=I6:=by
 constructor
 ·intro h;apply yEG
  ·rw[d];rfl
  ·intro i c e;have:=h i (YZ.2 oM);rw[getElem!_pos k i c]at this;have g:k[i].toNat=0:=by
    have b:ub k[i]=(k[i].toNat:Int):=rfl;rw[b]at this;omega
   have b:(I6)[i]=0:=by
    have f:(XL 33 (0:UInt8))[i]'e=0:=Zo _;exact f
   rw[b];exact yDy.1 g
 ·rintro rfl i b;have b:=YZ.1 b;unfold I6;rw[getElem!_pos _ i (by rw[XU];exact b),Zo];rfl
theorem Kf{x y:Fin P}(h:y*y=x*x*x+7):On (.some (x,y):EC.Pt P):=by
 show y^2=x^3+7
 grobner
theorem RD{x y:Fin P}(h:y*y=x*x*x+7):On (.some (x,0-y):EC.Pt P):=by
 show(0-y)^2=x^3+7
 grobner
def wr:EC.Pt P->Bs
 | none=>I6
 | some (x,y)=>#[mark y.val]++bx x.val
theorem wU(C:Fld P){x y:Fin P}{p:EC.Pt P}(h:Pair x y p)(ho:On p):uH x y=wr p:=by
 unfold uH;match p,h,ho with
 | none,h,_=>rw[yES (show x=0/\y=0 from h)];rfl
 | some (a,b),h,ho =>
  obtain⟨rfl,rfl⟩:=h;rw[yET (λe=>C.cur.y_ne ho e.2)];rfl
def pt(p:Fin P × Fin P):EC.Pt P:=if p.1=0/\p.2=0 then none else some p
theorem N9(C:Fld P){x y:Fin P}{q:EC.Pt P}(h:Pair x y q)(ho:On q):q=pt (x,y):=by
 unfold pt;match q,h,ho with
 | none,h,_=>rw[yES (show x=0/\y=0 from h)]
 | some (a,b),h,ho =>
  obtain⟨rfl,rfl⟩:=h;rw[yET (λe=>C.cur.y_ne ho e.2)]
theorem Ua(C:Fld P){b:Bs}{p:Fin P × Fin P}(h:rd P b=some p):Pair p.1 p.2 (pt p)/\On (pt p):=by
 have key:∃q:EC.Pt P,Pair p.1 p.2 q/\On q:=by
  unfold rd at h;split at h
  ·split at h
   ·obtain rfl:=XS.inj h;exact⟨none,⟨rfl,rfl⟩,jB⟩
   ·split at h
    ·split at h
     ·obtain⟨y,c,rfl⟩:=XA.1 h;have k:=Px c;refine⟨some (rdx P b,if ub b[0]! = 3 then 0-y else y),⟨rfl,rfl⟩,?_⟩;split
      ·exact RD k
      ·exact Kf k
     ·cases h
    ·cases h
  ·cases h
 obtain⟨q,k,c⟩:=key;have:=N9 C k c;rw[show pt p=q from this.symm];exact⟨k,c⟩
omit [NeZero P] in
theorem aL(p:EC.Pt P):(wr p).size=33:=by
 match p with
 | none=>rfl
 | some (x,y) =>
  show(#[mark y.val]++bx x.val).size=33;rw[Yg,cU];rfl
theorem JR{a P:Nat}(h:IsP P)(k:P%4=3):(a*a%P)^(P/4+1)%P*((a*a%P)^(P/4+1)%P)%P=a*a%P:=by
 rw[<-Z8,<-Nat.pow_add,<-Nat.pow_mod,<-yEt,<-Nat.pow_mul,show 2*(P/4+1+(P/4+1))=P+1 by omega,Zf,Z8,h.fermat a,<-Z8,yEt]
theorem NI{a R P:Nat}(h:IsP P)(e:a<P)(hR:R<P)(f:R*R%P=a*a%P):R=a\/R+a=P:=by
 have key:∀x y:Nat,x<P->y<P->y<=x->x*x%P=y*y%P->x=y\/x+y=P:=by
  intro x y hx i g d;have hd:P ∣ x*x-y*y:=by
   refine Nat.dvd_of_mod_eq_zero ?_;exact Nat.sub_mod_eq_zero_of_mod_eq d
  have hf:x*x-y*y=(x-y)*(x+y):=by
   rw[YF (x-y),Nat.mul_self_sub_mul_self_eq]
  rw[hf]at hd;rcases h.euclid hd with b|b
  ·left;have:=Nat.eq_zero_of_dvd_of_lt b oM;omega
  ·obtain⟨k,j⟩:=b;have:k=0\/k=1\/2<=k:=oM;rcases this with rfl|rfl|c
   ·left;omega
   ·right;omega
   ·have:=Nat.mul_le_mul_left P c;omega
 rcases Nat.le_total a R with b|b
 ·exact key R a hR e b f
 ·rcases key a R e hR b f.symm with c|c
  ·left;exact c.symm
  ·right;omega
end
section
theorem A8(x:Nat)(hx:x<18446744073709551616):
 w8 (XN (x/72057594037927936)) (XN (x/281474976710656)) (XN (x/1099511627776)) (XN (x/4294967296)) (XN (x/16777216)) (XN (x/65536)) (XN (x/256)) (XN x)=x:=by
 unfold w8;simp only[yBi];omega
theorem IZ(a b c d:Nat):(be32 a b c d).toList=[XN (d/72057594037927936),XN (d/281474976710656),XN (d/1099511627776),XN (d/4294967296),XN (d/16777216),XN (d/65536),XN (d/256),XN d,XN (c/72057594037927936),XN (c/281474976710656),XN (c/1099511627776),XN (c/4294967296),XN (c/16777216),XN (c/65536),XN (c/256),XN c,XN (b/72057594037927936),XN (b/281474976710656),XN (b/1099511627776),XN (b/4294967296),XN (b/16777216),XN (b/65536),XN (b/256),XN b,XN (a/72057594037927936),XN (a/281474976710656),XN (a/1099511627776),XN (a/4294967296),XN (a/16777216),XN (a/65536),XN (a/256),XN a]:=by
 simp only[be32,be8,yDa,Zx,ZE]
theorem val_congr{a b c d p q r s:Nat}(e:a=p)(f:b=q)(g:c=r)(k:d=s):val a b c d=val p q r s:=by subst e f g k;rfl
theorem Mk(a b c d:Nat)(f:a<18446744073709551616)(e:b<18446744073709551616)(k:c<18446744073709551616)(hd:d<18446744073709551616):beV (be32 a b c d).toList=val a b c d:=
 (congrArg beV (IZ a b c d)).trans ((Ml _ _ _ _ _ _ _ _ _ _ _ _ _ _ _ _ _ _ _ _ _ _ _ _ _ _ _ _ _ _ _ _).trans (val_congr (A8 a f) (A8 b e) (A8 c k) (A8 d hd)))
theorem EZ{n:Nat}(k:n<top):beV (bx n).toList=n:=by
 unfold bx;rw[Mk _ _ _ _ oM oM oM oM];unfold val;unfold top at k;omega
variable {P:Nat}[NeZero P]
theorem TX(C:Fld P){y m:Fin P}(h:y*y=m):rt m=some (if y.val%2=1 then 0-y else y):=by
 have c:y.val*y.val%P=m.val:=by rw[<-h,yAk]
 have k:=JR (a:=y.val) C.cur.pr C.p3;rw[c]at k;unfold rt;rw[yES k];have f:=yA9 P;have d:m.val^(P/4+1)%P<P:=Y9 _ f;generalize m.val^(P/4+1)%P=r at k d;have b:=y.isLt;have j:=C.p3;have hor:=NI C.cur.pr b d (k.trans c.symm)
 congr 1
 apply yAH;show even P r%P=_;unfold even;have g:(0-y:Fin P).val=(P-y.val)%P:=by rw[<-Bg,val_zero,XD]
 by_cases ho:y.val%2=1
 ·rw[yES ho,g];rcases hor with e|e
  ·rw[e,yES ho]
  ·rw[yET oM,show P-y.val=r by omega]
 ·rw[yET ho];rcases hor with e|e
  ·rw[e,yET ho,XX b]
  ·by_cases i:y.val=0
   ·omega
   ·rw[yES oM,show P-r=y.val by omega,XX b]
theorem Nb(n:Nat):ub (mark n)=if n%2=1 then 3 else 2:=by
 unfold mark;split<;>rfl
theorem Nh{m:UInt8}{b:Bs}(h:b.size=32):vQ (#[m]++b)=b:=by
 unfold vQ;rw[Array.extract_append];have k:(#[m]:Bs).extract 1 33=#[]:=by rfl
 rw[k];simp[h]
theorem RS(m:UInt8)(b:Bs):(#[m]++b)[0]! = m:=by
 rw[getElem!_pos _ 0 (by rw[Yg];simp;omega),Array.getElem_append_left (by simp)];rfl
theorem Ub(C:Fld P){b:Bs}(d:b.size=33){x y:Fin P}(c:ub b[0]! = if y.val%2=1 then 3 else 2)(hv:beV (vQ b).toList=x.val)(h:On (some (x,y):EC.Pt P)):rd P b=some (x,y):=by
 have k:¬uL b:=λk=>by
  have:=k 0 (YZ.2 dC);rw[c]at this;split at this<;>omega
 have hx:rdx P b=x:=by
  unfold rdx;rw[hv];exact yAH (XX x.isLt)
 have f:y*y=x*x*x+7:=by
  have:y^2=x^3+7:=h
  grobner
 unfold rd;rw[yES d,yET k,c,hv,yES x.isLt,hx,TX C f];by_cases ho:y.val%2=1
 ·rw[yES ho,yES (X0 rfl),yES ho,yA5,yES rfl];have e:0-(0-y)=y:=by grobner
  rw[e]
 ·rw[yET ho,yES (X9 rfl),yET ho,yA5,yET dC]
theorem xT(C:Fld P){X:EC.Pt P}(h:On X):∃p,rd P (wr X)=some p/\pt p=X:=by
 match X,h with
 | none,_ =>
  refine⟨(0,0),?_,by unfold pt;rw[yES ⟨rfl,rfl⟩]⟩;have k:(wr (none:EC.Pt P)).size=33:=aL _;have b:=(DD k).2 rfl;unfold rd;rw[yES k,yES b]
 | some (x,y),h =>
  have b:=aL (P:=P) (some (x,y));have k:(wr (some (x,y):EC.Pt P))[0]! = mark y.val:=RS _ _;have c:vQ (wr (some (x,y):EC.Pt P))=bx x.val:=Nh (cU _);refine⟨(x,y),Ub C b (by rw[k,Nb]) (by rw[c,EZ (C.top x)]) h,by unfold pt;rw[yET (λe=>C.cur.y_ne h e.2)]⟩
end
section
variable {P:Nat}[NeZero P]{N:Nat}
def gxl:List Xu:=[uZ 6481385041966929816,uZ 188021827762530521,uZ 6170039885052185351,uZ 8772561819708210092]
def gyl:List Xu:=[uZ 11261198710074299576,uZ 18237243440184513561,uZ 6747795201694173352,uZ 5204712524664259685]
def gX(P:Nat)[NeZero P]:Fin P:=ZS P 55066263022277343669578718895168534326250603453777594175500187360389116729240
def gY(P:Nat)[NeZero P]:Fin P:=ZS P 32670510020758816978083085130507043184471273380659243275938904335757337482424
def gG(P:Nat)[NeZero P]:EC.Pt P:=some (gX P,gY P)
theorem Fld.eq(C:Fld P):P=115792089237316195423570985008687907853269984665640564039457584007908834671663:=by
 have h:=C.gap.hP;have e:val 4294968273 0 0 0=4294968273:=dC;rw[e]at h;unfold Go.Proofs.YtlofhpkoaljmeaaGreat.top at h;omega
theorem Ls(C:Fld P):(gX P).val=55066263022277343669578718895168534326250603453777594175500187360389116729240:=by
 have h:=C.eq;exact XX oM
theorem Lr(C:Fld P):(gY P).val=32670510020758816978083085130507043184471273380659243275938904335757337482424:=by
 have h:=C.eq;exact XX oM
theorem Ss(C:Fld P):gxl=ws (gX P):=by
 show _=wn (gX P).val;rw[Ls C];kernel_rfl
theorem Sr(C:Fld P):gyl=ws (gY P):=by
 show _=wn (gY P).val;rw[Lr C];kernel_rfl
theorem C5(C:Fld P):On (gG P):=by
 refine Kf (yAH ?_);have k:(7:Fin P).val=7:=XX C.p7;rw[yAk,Fin.val_add,yAk,yAk,Ls C,Lr C,k];have h:=C.eq;rw[h]
theorem SZ:Gives 69 #[] (.agg (gxl++gyl).toArray):=by
 intro w;go_enter func69,ntmps69;refine RG.M.enter [] 4 kR ?_;intro a0 b;repeat refine Xy ?_
 refine b.T [.m 0] [(0,RG.z 8)] [] [RG.z 8] [0] ⟨mk 0 131,yEU⟩ ?_;intro d f g c;repeat refine Xy ?_
 refine c.T [.x (.agg gxl.toArray),.x (.agg gyl.toArray),.x (.agg (gxl++gyl).toArray),.u 0] [] [(0,3,gxl++gyl)] [gxl++gyl] [0] ⟨st,st,st,RG.pt i109,yEU⟩ ?_;intro a2 e k;refine Y5 ?_;refine XE (v:=.agg (gxl++gyl).toArray) (aH k.st 0 131 rfl 0 _ rfl (k.at (s:=.p 0 0)) iI i109) k.sl.defers ?_;exact⟨_,rfl,k.st.bel.below,rfl⟩
theorem Ff(C:Fld P):Gives 69 #[] (pv (gX P) (gY P)):=by
 unfold pv;rw[<-Ss C,<-Sr C];exact SZ
theorem UT(C:Fld P):uH (gX P) (gY P)=wr (gG P):=wU C ⟨rfl,rfl⟩ (C5 C)
theorem To(C:Fld P)(w:Xs):XH prog 131 #[] w (rZ w λe w'=>nF w (wr (gG P)) e w'):=by
 have d:Hid (Fld P):=C;clear C;go_enter func131,ntmps131;go_wp2_with fail
 refine(Ff d.out _).mono ?_;rintro e n ⟨v,rfl,k,rfl⟩;go_wp2_with fail
 refine(wT d.out (gX P) (gY P) _).mono ?_;rintro e f ⟨v,rfl,b,g,cap,rfl,i,j,l,c⟩;rw[UT d.out]at c;have m:Hid (kZ w f/\nF w (wr (gG P)) (sZ g 33 cap) f):=⟨k.trans (b.mono k.size),g,cap,rfl,i,XB k.size j,l,c⟩
 clear k b i j l c;go_wp2;go_ret;exact⟨_,rfl,m.out⟩
end
section
open Go.Shelf
attribute [local go_sem] yBM
section
variable {F:Fence}{n:Nat}{P:YG}{ops:Array Yo}{rest:List Yo}{op:Yo}{a:Act}{w:Xs}{Q:yAL->Act->Xs->Prop}
theorem kA(g:op.guard=none)(k:Yd)(x:yAf)(ho:op.op=.load k x)(b o:Nat)(hx:a.eval x=oZ b o)(cs:List Xu)(d:TypeDesc)(i:w.rangeAt b o cs)
 (l:P.underlying k=some d) (hd:d.isRow=true) (j:(P.info? k).map (·.size)=some cs.length) (h:wpListIn F n P ops Q rest (a.put op.dst (.agg cs.toArray)) w):wpListIn F n P ops Q (op :: rest) a w:=
 wpListIn_plain g λK m=>by
  refine⟨λf hf=>(by unfold yDo at hf;rw[ho]at hf;cases hf),?_⟩;rw[yCO _ _ _ (λc=>by rw[ho];intro e;cases e)];unfold Yb;simp only[ho,hx,yCe,yAC,XT,Zj,Yu,yAA w b o k cs d i l hd j];exact m _ _ h
theorem bN(g:op.guard=none)(d:Yd)(x y:yAf)(ho:op.op=.store d x y)(b o:Nat)(k:Array Xu)(hx:a.eval x=oZ b o)(j:a.eval y=.agg k)
 (l:w.there b o k.size) (i:(P.info? d).map (·.size)=some k.size) (m:k.all (·.oneCell')=true)
 (h:wpListIn F n P ops Q rest (a.put op.dst Zp) (w.setCells b o k.toList)):wpListIn F n P ops Q (op :: rest) a w:=
 wpListIn_plain g λK p=>by
  refine⟨λf hf=>(by unfold yDo at hf;rw[ho]at hf;cases hf),?_⟩;rw[yCO _ _ _ (λc=>by rw[ho];intro e;cases e)];unfold Yb;simp only[ho,hx,j,Instr.storeAt,yAC,XT,Zj,Yu,run_storeVar_mid w b o d k l i m];exact p _ _ h
end
def Row(W:Xs)(k:Nat)(vs:List Xu):Prop:=k<W.heap.size/\W.rangeAt k 0 vs/\W.there k 0 vs.length
theorem rE(k:Nat)(vs:List Xu):Own (λ(_:Unit) W=>Row W k vs):=λs A B row c d e=>by
 refine⟨Xz c.1 d.size,λj v b=>?_,λj b=>?_⟩
 ·exact cell_kept (c.2.1 j v b) d e
 ·have f:=c.2.1 j vs[j] (XJ b);have g:=cell_kept f d e;exact⟨by rw[g];rfl,(frozen_kept f d e).trans (c.2.2 j b).2⟩
theorem oD(k:Nat):∀(vs:List Xu) (o:Nat) (W:Xs),KeepsOthers W (W.setCells k o vs)
 | [],_,W=>KeepsOthers.refl W
 | v :: vs,o,W=>(yCk W ⟨k,o,none⟩ v).trans (oD k vs (o+1) _)
theorem Row.alloc{W:Xs}{k:Nat}{vs:List Xu}(h:Row W k vs)(o:Obj):Row (W.alloc o) k vs:=
 rE k vs () W (W.alloc o) none h (World.grownBy_alloc W o none) (λ_ e=>by cases e)
theorem Row.putObj{W:Xs}{k D:Nat}{vs:List Xu}(h:Row W k vs){o:Obj}(c:W.heap[D]? = some o)(ho:o.isCells=false)(b:Obj):Row (W.putObj D b) k vs:=
 rE k vs () W (W.putObj D b) (some D) h (grownBy_putObj' W D b) (λr e=>by cases e;exact⟨_,c,ho⟩)
theorem Row.below{W W':Xs}{k:Nat}{vs:List Xu}(h:Row W k vs)(d:kZ W W'):Row W' k vs:=by
 have e:=d.block k h.1;refine⟨Xz h.1 d.size,λj v b=>?_,λj b=>?_⟩
 ·exact(XW e).trans (h.2.1 j v b)
 ·have c:=h.2.2 j b;exact⟨by rw[XW e];exact c.1,(Y0 e).trans c.2⟩
theorem aF{P:YG}{c:Func}{tmps:Array Xu}{W:Xs}{k:Nat}{vs:List Xu}(t:Zs)(T:Yd)(j:c.results=#[.cell t T])(h:Row W k vs)(g:tmps[t]? = some (jZ k))
 (b:(P.underlying T).map (·.isRow)=some true) (f:(P.info? T).map (·.size)=some vs.length):(results c tmps).run P W=.ok (.agg vs.toArray) W:=by
 obtain⟨d,b,hd⟩:=XA.1 b;have e:=yAA (P:=P) W k 0 T vs d h.2.1 b hd f;have i:tmps.getD t Zp=jZ k:=by rw[XI,g];rfl
 unfold results;rw[j];simp only[Array.mapM_eq_mapM_toList,List.mapM_cons,List.mapM_nil,i,asAddr];simp[XT,e]
theorem Row.put{W:Xs}{k:Nat}{vs us:List Xu}(h:Row W k vs)(b:us.length=vs.length):Row (W.setCells k 0 us) k us:=
 ⟨by rw[setCells_size];exact h.1,YM W k 0 us (by rw[b];exact h.2.2),by rw[b];exact Y2 h.2.2 _ _ _⟩
theorem Row.other{W:Xs}{k j:Nat}{vs us:List Xu}(h:Row W k vs)(b:k≠j):Row (W.setCells j 0 us) k vs:=
 ⟨by rw[setCells_size];exact h.1,Yk h.2.1 j 0 us (X9 b),Y2 h.2.2 _ _ _⟩
variable {P:Nat}[NeZero P]
theorem OE(C:Fld P)(lb:Array Xu)(L:List (Fin P × Fin P))(N:Nat)(w:Xs)
 (u:∀n,SeqStopsK yCH n prog 117 lb (λx:Fin P × Fin P=>#[pv x.1 x.2]) (Below w.heap.size) (λxs=>xs=L) (λb=>b <+: L) N w) :
 XH prog 67 #[.func (.func 117) #[] lb] w (rZ w λe w'=>e=pv (L.headD (gX P,gY P)).1 (L.headD (gX P,gY P)).2):=by
 refine(callsIn_wide (n:=5)).1 ?_;refine callsIn_of_wp_marks func67 rfl trivial ?_ rfl;simp only[ntmps67,YD,Yq,Zr,YH,yC4,yBS,yBR,yCm,yB1,ZE,Zx]
 gi_wp2
 have y:=Made.alloc w [uZ 0,uZ 0,uZ 0,uZ 0,uZ 0,uZ 0,uZ 0,uZ 0] 131;have a:Row (w.alloc (.cells #[uZ 0,uZ 0,uZ 0,uZ 0,uZ 0,uZ 0,uZ 0,uZ 0] 131)) w.heap.size [uZ 0,uZ 0,uZ 0,uZ 0,uZ 0,uZ 0,uZ 0,uZ 0]:=⟨y.lt,y.range,y.there⟩
 have o:kZ w (w.alloc (.cells #[uZ 0,uZ 0,uZ 0,uZ 0,uZ 0,uZ 0,uZ 0,uZ 0] 131)):=y.bel;clear y;obtain⟨z,q⟩:∃z,z=w.alloc (.cells #[uZ 0,uZ 0,uZ 0,uZ 0,uZ 0,uZ 0,uZ 0,uZ 0] 131):=⟨_,rfl⟩
 have H:z.heap.size=w.heap.size+1:=by rw[q,XF]
 rw[<-q]at a o⊢;clear q;refine wpIn_rangeFunc_ownH (α:=Fin P × Fin P) rfl dC (gf:=117) (lb:=lb) rfl trivial (enters_of func117 kR rfl) (u 4) belowK_t (belowK_b oM) o (λ_=>rfl)
  (λb W=>(b=[]/\Row W w.heap.size [uZ 0,uZ 0,uZ 0,uZ 0,uZ 0,uZ 0,uZ 0,uZ 0])/\kZ w W)
  (λc b W=>(c=.ret/\∃x:Fin P × Fin P,b=[x]/\Row W w.heap.size (ws x.1++ws x.2))/\kZ w W)
  (yDT (Own.from (λs A B row k f j=>⟨k.1,rE _ _ () A B row k.2 f j⟩) _) (ownFrom_below (Xx _) oM))
  (λc=>yDT (Own.from (λs A B row k f j=>⟨k.1,k.2.imp λx hx=>⟨hx.1,rE _ _ () A B row hx.2 f j⟩⟩) _) (ownFrom_below (Xx _) oM))
  ⟨⟨rfl,a⟩,o⟩
  (λx E W=>∃Bx,w.heap.size<Bx/\Row W Bx (ws x.1++ws x.2)/\E = { tmps:=#[.func (.func 117) #[] lb,Zp,jZ w.heap.size,jZ Bx,.func (.func 117) #[] lb,pv x.1 x.2,Zp,Zp],defers:=[] })
  (λx E=>Own.from (λs A B row k f j=>k.imp λBx hx=>⟨hx.1,rE _ _ () A B row hx.2.1 f j,hx.2.2⟩) _) ?assign ?body ?done ?stop
 case assign =>
  intro l b x W K p i;have f:=Made.alloc W [uZ 0,uZ 0,uZ 0,uZ 0,uZ 0,uZ 0,uZ 0,uZ 0] 131;have g:=f.there
  gi_wp2_with (refine bN rfl 131 _ _ rfl W.heap.size 0 (ws x.1++ws x.2).toArray rfl rfl g i109 kR ?_)
  have k:=p.1.2.1;have m:Below w.heap.size W ((W.alloc (.cells #[uZ 0,uZ 0,uZ 0,uZ 0,uZ 0,uZ 0,uZ 0,uZ 0] 131)).setCells W.heap.size 0 (ws x.1++ws x.2)):=
   RG.below_setCells (yAl k) _ _ _ ((XM _ W).alloc (yAl k) _)
  exact i _ _ (((yD5 W _).trans (oD _ _ _ _)).from _) m ⟨⟨p.1.1,(p.1.2.alloc _).other (Nat.ne_of_lt k)⟩,p.2.trans m⟩
   ⟨W.heap.size,k,Row.put (vs:=[uZ 0,uZ 0,uZ 0,uZ 0,uZ 0,uZ 0,uZ 0,uZ 0]) ⟨f.lt,f.range,f.there⟩ rfl,rfl⟩
 case body =>
  rintro l b x E W I ⟨r,j⟩ ⟨⟨rfl,k⟩,t⟩ ⟨Bx,G,A,rfl⟩ F;obtain⟨d,f,m⟩:=XA.1 iI;have p:=A.2.1;have g:=k.2.2
  gi_wp2_with (first|refine kA rfl 131 _ rfl Bx 0 rfl (ws x.1++ws x.2) d p f m i109 ?_|refine bN rfl 131 _ _ rfl w.heap.size 0 (ws x.1++ws x.2).toArray rfl rfl g i109 kR ?_)
  exact⟨(oD _ _ _ _).from _,⟨rfl,x,rfl,k.put rfl⟩,RG.below_setCells (Xx _) _ _ _ t⟩
 case done =>
  rintro D ys W F rfl ⟨⟨rfl,k⟩,t⟩ i;have g:=k.2.2
  gi_wp2_with fail
  refine⟨trivial,(callsIn_wide.2 (Ff C _)).mono ?_⟩;rintro e E ⟨v,rfl,m,rfl⟩;have f:Row E w.heap.size [uZ 0,uZ 0,uZ 0,uZ 0,uZ 0,uZ 0,uZ 0,uZ 0]:=k.below m;have A:=f.2.2
  gi_wp2_with (refine bN rfl 131 _ _ rfl w.heap.size 0 (ws (gX P)++ws (gY P)).toArray rfl rfl A i109 kR ?_)
  have j:(E.setCells w.heap.size 0 (ws (gX P)++ws (gY P))).heap[D]? = some (.deferred (some [])):=by
   rw[aE _ _ _ _ _ oM,m.block D (XY.1 i).1];exact i
  have G:kZ w (E.setCells w.heap.size 0 (ws (gX P)++ws (gY P))):=RG.below_setCells (Xx _) _ _ _ (t.trans (m.mono t.size));have p:Row (E.setCells w.heap.size 0 (ws (gX P)++ws (gY P))) w.heap.size (ws (gX P)++ws (gY P)):=f.put rfl;refine⟨by simp,.inl ⟨_,_,rfl,run_takeDeferred j,?_⟩⟩;exact⟨_,aF 2 131 rfl (p.putObj j rfl _) rfl iI i109,_,rfl,G.trans (belowK_b (w:=z) oM _ D _ _ F j rfl rfl),rfl⟩
 case stop =>
  rintro D c b W F f ⟨⟨rfl,x,rfl,k⟩,t⟩ i
  gi_wp2
  obtain⟨j,m⟩:=f;have g:L=x :: j:=m.symm;rw[g];refine⟨by simp,.inl ⟨_,_,rfl,run_takeDeferred i,?_⟩⟩;exact⟨_,aF 2 131 rfl (k.putObj i rfl _) rfl iI i109,_,rfl,t.trans (belowK_b (w:=z) oM _ D _ _ F i rfl rfl),rfl⟩
end
section
variable {P:Nat}[NeZero P]{N:Nat}
theorem kG{w W:Xs}{k e b c d:Nat}(h:Kept w k [⟨k,0,b,c,d,0⟩,⟨e,0,0,0,0,0⟩] W):W.cell? ⟨k,0,none⟩=some (uZ b)/\W.cell? ⟨k,1,none⟩=some (uZ c)/\W.cell? ⟨k,2,none⟩=some (uZ d)/\W.cell? ⟨k,3,none⟩=some (uZ 0)/\Kept w k [⟨k,0,b,c,d,0⟩,⟨e,0,0,0,0,0⟩] W:=⟨h.head.c0,h.head.c1,h.head.c2,h.head.c3,h⟩
theorem lH{w W:Xs}{k e b c d:Nat}(h:W.cell? ⟨k,0,none⟩=some (uZ b)/\W.cell? ⟨k,1,none⟩=some (uZ c)/\W.cell? ⟨k,2,none⟩=some (uZ d)/\W.cell? ⟨k,3,none⟩=some (uZ 0)/\Kept w k [⟨k,0,b,c,d,0⟩,⟨e,0,0,0,0,0⟩] W):Kept w k [⟨k,0,b,c,d,0⟩,⟨e,0,0,0,0,0⟩] W:=h.2.2.2.2
theorem D7{w W:Xs}{k e b c d:Nat}{o:Obj}(h:W.cell? ⟨k,0,none⟩=some (uZ b)/\W.cell? ⟨k,1,none⟩=some (uZ c)/\W.cell? ⟨k,2,none⟩=some (uZ d)/\W.cell? ⟨k,3,none⟩=some (uZ 0)/\Kept w k [⟨k,0,b,c,d,0⟩,⟨e,0,0,0,0,0⟩] W):(W.alloc o).cell? ⟨k,0,none⟩=some (uZ b)/\(W.alloc o).cell? ⟨k,1,none⟩=some (uZ c)/\(W.alloc o).cell? ⟨k,2,none⟩=some (uZ d)/\(W.alloc o).cell? ⟨k,3,none⟩=some (uZ 0)/\Kept w k [⟨k,0,b,c,d,0⟩,⟨e,0,0,0,0,0⟩] (W.alloc o):=kG ((lH h).alloc o)
theorem Cs{w W:Xs}{k e b c d:Nat}{o:Obj}(h:W.drew.cell? ⟨k,0,none⟩=some (uZ b)/\W.drew.cell? ⟨k,1,none⟩=some (uZ c)/\W.drew.cell? ⟨k,2,none⟩=some (uZ d)/\W.drew.cell? ⟨k,3,none⟩=some (uZ 0)/\Kept w k [⟨k,0,b,c,d,0⟩,⟨e,0,0,0,0,0⟩] W.drew):(W.alloc o).drew.cell? ⟨k,0,none⟩=some (uZ b)/\(W.alloc o).drew.cell? ⟨k,1,none⟩=some (uZ c)/\(W.alloc o).drew.cell? ⟨k,2,none⟩=some (uZ d)/\(W.alloc o).drew.cell? ⟨k,3,none⟩=some (uZ 0)/\Kept w k [⟨k,0,b,c,d,0⟩,⟨e,0,0,0,0,0⟩] (W.alloc o).drew:=kG (((lH h).undrew).alloc o).drew
theorem yN{w:Xs}{g o:Nat}{k:Bs}(p l:Nat)(h:Holds encB w g o k)(c:p+l<=k.size):Holds encB w g (o+p) (k.extract p (p+l)):=by
 refine Holds.part h (by rw[Z4];omega) (λj b=>?_);rw[Z4]at b;rw[getElem!_pos (k.extract p (p+l)) j (by rw[Z4];omega),getElem!_pos k (p+j) oM,Array.getElem_extract]
theorem CZ{w:Xs}{g o:Nat}{k:Bs}(f:Nat)(h:Holds encB w g o k)(hf:f<=k.size):Holds encB w g o (k.extract 0 f):=by
 have:=yN 0 f h oM;rwa[XD,yAi]at this
def RedR(w:Xs)(e f i j l N:Nat)(s6:Xu)(g:Xs):Prop:=
 ∃k a b c d:Nat,s6=jZ k/\Kept w e [⟨k,0,a,b,c,d⟩,⟨e,0,i,j,l,0⟩,⟨f,0,0,0,0,0⟩] g/\k≠e/\k≠f/\e<=k /\
  Hid (Four (.agg #[uZ a,uZ b,uZ c,uZ d]) N)
theorem RedR.made{w k:Xs}{f g i j l N a b c d:Nat}(e:Kept w f [⟨f,0,i,j,l,0⟩,⟨g,0,0,0,0,0⟩] k)(m:Hid (Four (.agg #[uZ a,uZ b,uZ c,uZ d]) N)):
 RedR w f g i j l N (jZ k.heap.size) (k.alloc (.cells #[uZ a,uZ b,uZ c,uZ d] 76)):=
 ⟨k.heap.size,a,b,c,d,rfl,(e.alloc _).cons (At4.made k 76 a b c d rfl).blk,Zg e.head.lt,Zg e.tail.head.lt,e.le,m⟩
theorem RedR.put{w m:Xs}{e f k j g i N a b c d x y z u:Nat}(p:Kept w e [⟨e,0,j,g,i,0⟩,⟨f,0,0,0,0,0⟩] m)(T:At4 m k x y z u)(n:e<=k)(l:∀x∈([⟨e,0,j,g,i,0⟩,⟨f,0,0,0,0,0⟩]:List Blk),x.k<k)(o:Hid (Four (.agg #[uZ a,uZ b,uZ c,uZ d]) N)):
 RedR w e f j g i N (jZ k) ((((m.setCell (aZ k) (uZ a)).setCell ⟨k,1,none⟩ (uZ b)).setCell ⟨k,2,none⟩ (uZ c)).setCell ⟨k,3,none⟩ (uZ d)):=
 ⟨k,a,b,c,d,rfl,(p.set4' n (λx hx=>Zg (l x hx)) _ _ _ _).cons (T.self4 a b c d).blk,Zg (l ⟨e,0,j,g,i,0⟩ (by simp)),Zg (l ⟨f,0,0,0,0,0⟩ (by simp)),n,o⟩
theorem JV{P:Nat}(k:Bs)(p:Nat)(d:p+32<=k.size):(beV (k.extract p (p+32)).toList+top*(beV (k.extract 0 p).toList%P))%P=beV (k.extract 0 (p+32)).toList%P:=by
 have e:(k.extract 0 (p+32)).toList=(k.extract 0 p).toList++(k.extract p (p+32)).toList:=by
  rw[<-yDa,Array.extract_append_extract,Nat.min_eq_left oM,Nat.max_eq_right oM]
 have b:(k.extract p (p+32)).toList.length=32:=by rw[XP,Z4];omega
 have c:256^32=top:=by unfold top;decide
 rw[e,rA,b,c,yEm,yBY,Z8,Nat.mod_mod,<-Z8,<-yBY,YF]
theorem Dv(g0 g1 g2 P g o n cap : Nat)(bs : Bs)(hG : Gap g0 g1 g2 P)(w : Xs)(hs : bs.size = n)(hc : n <= cap)(hg : g < w.heap.size)(hB : Holds encB w g o bs):
    XH prog 204 #[.agg #[.int .u64 (g0 : Int), .int .u64 (g1 : Int), .int .u64 (g2 : Int), .int .u64 0], .slice (some ⟨g, o, none⟩) n cap] w (Ret λe w' => Below w.heap.size w w' /\ Four e (beV bs.toList % P)) := by
  obtain⟨f, hf⟩ : ∃f, f = n % 32 := ⟨_, rfl⟩;have hf32 : f < 32 := oM;have hfn : f <= n := oM;have e1 : (n : Int) % 32 = (f : Int) := oM;have e2 : (f : Int) <= (cap : Int) := oM;have e3 : (f : Int) <= (n : Int) := oM;have e4 : f <= cap := oM;have hsz0 : (bs.extract 0 f).size = f := by rw [Z4]; omega
  have Hf : Hid (f = n % 32) := hf;have HS : Hid ((bs.extract 0 f).size = f) := hsz0;have hbs : f <= bs.size := oM;have HSZ : Hid (bs.size = n) := hs;have HG : Hid (Gap g0 g1 g2 P) := hG;clear hf hsz0 hG;go_enter func204, ntmps204
  go_upto_region 2 with fail
  rw [e1];clear e1;have PR := (At4.made w 78 g0 g1 g2 0 rfl).alloc (.cells #[.int .u64 0, .int .u64 0, .int .u64 0, .int .u64 0] 42);have RE := At4.made (w.alloc (.cells #[.int .u64 (g0 : Int), .int .u64 (g1 : Int), .int .u64 (g2 : Int), .int .u64 0] 78)) 42 0 0 0 0 (XF _ _);have KP := ((Kept.mk1 (below2 w (.cells #[.int .u64 (g0 : Int), .int .u64 (g1 : Int), .int .u64 (g2 : Int), .int .u64 0] 78) (.cells #[.int .u64 0, .int .u64 0, .int .u64 0, .int .u64 0] 42)) (below2 w (.cells #[.int .u64 (g0 : Int), .int .u64 (g1 : Int), .int .u64 (g2 : Int), .int .u64 0] 78) (.cells #[.int .u64 0, .int .u64 0, .int .u64 0, .int .u64 0] 42)).size).cons RE.blk).cons PR.blk;clear PR RE;generalize World.alloc _ _ = W0 at KP⊢;generalize h1 : w.heap.size + 1 = k1 at KP⊢;have Q1 : Hid (w.heap.size <= k1) := by unfold Hid; omega
  generalize h0 : w.heap.size = k0 at KP Q1 hg⊢;have n01 : k0 ≠ k1 := oM;have H0 : Hid (w.heap.size = k0) := h0;have HBS : Hid (Holds encB w g o bs) := hB;clear h0 h1 hB hs
  go_cut [6] (λs6 wx => RedR w k0 k1 g0 g1 g2 (beV (bs.extract 0 f).toList % P) s6 wx)
  case first =>
    go_region_held3 (λw' => w'.cell? ⟨k0, 0, none⟩ = some (.int .u64 (g0 : Int)) /\ w'.cell? ⟨k0, 1, none⟩ = some (.int .u64 (g1 : Int)) /\ w'.cell? ⟨k0, 2, none⟩ = some (.int .u64 (g2 : Int)) /\ w'.cell? ⟨k0, 3, none⟩ = some (.int .u64 0) /\ Kept w k0 [⟨k0, 0, g0, g1, g2, 0⟩, ⟨k1, 0, 0, 0, 0, 0⟩] w') (first | (with_reducible exact kG KP) | (with_reducible exact kG KP.drew) | (with_reducible exact Cs (by assumption)) | (with_reducible exact D7 (by assumption)) | (with_reducible exact kG (KP.alloc _)) | (with_reducible exact kG (KP.set4' M7 (λx hx => Zg (N7 x hx)) _ _ _ _)) | (with_reducible exact kG (KP.alloc _).drew) | (with_reducible exact kG (KP.set4' M7 (λx hx => Zg (N7 x hx)) _ _ _ _).drew) | fail) (first | (go_at_call 53; refine(kV (some ⟨g, o, none⟩) g o f cap (bs.extract 0 f) _ (yAl hf32) e4 HS.out (X0 ⟨rfl, CZ f (Holds.below HBS.out (lH (by assumption)).bl hg) hbs⟩)).mono ?_; rintro e w1 ⟨v, rfl, hb1, hF1⟩; obtain⟨a1, b1, c1, d1, rfl, ha1, hb1', hc1, hd1, es1⟩ := id hF1; clear es1; have HF1 : Hid (Four _ _) := hF1; clear hF1; (try(with_reducible have T1 := T.call hb1; clear T; have T := T1; clear T1)); (try(first | (with_reducible have T := (At4.made _ 76 0 0 0 0 rfl).call hb1) | (with_reducible have T := (At4.made _ 76 0 0 0 0 rfl).drew.call hb1)); have N7 := KP.lts; have M7 := KP.le); have KP1 := Kept.call (lH (by assumption)) hb1; clear KP; have KP := KP1; clear KP1 hb1) | (go_at_call 55; refine(jV _ _ HF1.out _).mono ?_; rintro e w1 ⟨v, rfl, hb1, rfl⟩; (try(with_reducible have T1 := T.call hb1; clear T; have T := T1; clear T1)); (try(first | (with_reducible have T := (At4.made _ 76 0 0 0 0 rfl).call hb1) | (with_reducible have T := (At4.made _ 76 0 0 0 0 rfl).drew.call hb1)); have N7 := KP.lts; have M7 := KP.le); have KP1 := Kept.call (lH (by assumption)) hb1; clear KP; have KP := KP1; clear KP1 hb1) | (go_at_call 155; refine(yS g0 g1 g2 _ _ _ _ P HG.h0 HG.h1 HG.h2 HG.hor HG.hP HG.hP2 HF1.out (Four.mk (a := 0) (b := 0) (c := 0) (d := 0) dC dC dC dC rfl) _).mono ?_; rintro e w1 ⟨v, rfl, hb1, hF3⟩; obtain⟨a', b', c', d', rfl, ha', hb', hc', hd', es3⟩ := id hF3; clear es3; have HF3 : Hid (Four _ _) := hF3; clear hF3; (try(with_reducible have T1 := T.call hb1; clear T; have T := T1; clear T1)); (try(first | (with_reducible have T := (At4.made _ 76 0 0 0 0 rfl).call hb1) | (with_reducible have T := (At4.made _ 76 0 0 0 0 rfl).drew.call hb1)); have N7 := KP.lts; have M7 := KP.le); have KP1 := Kept.call (lH (by assumption)) hb1; clear KP; have KP := KP1; clear KP1 hb1; (try(obtain⟨tc0, tc1, tc2, tc3, tf⟩ := id T; have zt := T.lt))))
    all_goals (try go_wp2)
    all_goals (rw [show val 0 0 0 0 = 0 from rfl, yCu, yAi]at HF3)
    all_goals (go_meet; first | (with_reducible exact RedR.made KP HF3) | (with_reducible exact(RedR.made KP HF3).drew) | (with_reducible exact RedR.put KP T M7 N7 HF3) | (with_reducible exact(RedR.put KP T M7 N7 HF3).drew) | fail)
  case rest =>
    clear KP;obtain⟨k6, a, b, c, d, rfl, KP, n60, n61, M6, HF⟩ := hcut;have f0 : (0 : Int) <= (f : Int) := Int.natCast_nonneg _
    go_upto_region 3 with fail
    go_cut [1] (λs1 wx => ∃q : Nat, s1 = .slice (some ⟨g, q, none⟩) (n - f) (cap - f) /\ Hid (0 < n - f -> q = o + f) /\ Kept w k0 [⟨k6, 0, a, b, c, d⟩, ⟨k0, 0, g0, g1, g2, 0⟩, ⟨k1, 0, 0, 0, 0, 0⟩] wx)
    case first =>
      by_cases ec : cap = f
      · have en : n = f := oM
        have HEN : Hid (n = f /\ cap = f) := ⟨en, ec⟩;go_wp2
        go_meet
        refine⟨o, ?_, λh => ?_, KP⟩
        · rw [HEN.1, HEN.2]; try simp
        · have := HEN.1; omega
      · go_wp2
        go_meet
        exact⟨o + f, rfl, λ_ => rfl, KP⟩
    case rest =>
    clear KP;obtain⟨q0, rfl, HQ0, KP⟩ := hcut;go_wp2_with fail
    go_loopg [1] (n - f) (λgk s1 wr => ∃(l q lc a b c d : Nat), gk = l /\ l <= n /\ s1 = .slice (some ⟨g, q, none⟩) l lc /\ Hid (l % 32 = 0 /\ (0 < l -> q = o + (n - l)) /\ lc = cap - (n - l)) /\ Kept w k0 [⟨k6, 0, a, b, c, d⟩, ⟨k0, 0, g0, g1, g2, 0⟩, ⟨k1, 0, 0, 0, 0, 0⟩] wr /\
      Hid (Four (.agg #[.int .u64 (a : Int), .int .u64 (b : Int), .int .u64 (c : Int), .int .u64 (d : Int)]) (beV (bs.extract 0 (n - l)).toList % P)))
    case atStart =>
      refine⟨n - f, q0, cap - f, a, b, c, d, rfl, oM, rfl, ⟨by have := Hf.out; omega, λh => by have := HQ0.out h; omega, oM⟩, KP, ?_⟩;rw [show n - (n - f) = f by omega];exact HF
    case round =>
      clear KP HF;obtain⟨l, q, lc, a, b, c, d, hgk, hln, rfl, HQ3, KP, HF⟩ := hrel;clear e2 e3 e4 f0 hbs HS hf32 hfn HQ0;have hlcl : l <= lc := by have := HQ3.out; omega
      by_cases h0 : l = 0
      · subst h0
        obtain⟨xc0, xc1, xc2, xc3, xf⟩ := KP.head.at4;have z7 := KP.head.lt;go_wp2_with fail
        refine(jR _ _ HF.out _).mono ?_;rintro e w3 ⟨v, rfl, hb3, rfl⟩;have KP3 := KP.call hb3;clear hb3 xc0 xc1 xc2 xc3 xf z7 KP;obtain⟨rc0, rc1, rc2, rc3, rf⟩ := KP3.tail.tail.head.at4;have z3 := KP3.tail.tail.head.lt;go_wp2;have RF := KP3.tail.tail.head.at4.self4 a b c d;unfold set4 at RF;refine XE (v := ?v) ?hr rfl ?hR
        case hr => simp [results, Tryz.results204, go_sem, RF.c0, RF.c1, RF.c2, RF.c3]; rfl
        refine⟨_, rfl, ?_, ?_⟩
        · rw [H0.out]
          exact aK KP3.bl Q1.out _ _ _ _
        · have := HF.out
          rw [yBx, <-HSZ.out, Array.extract_size]at this;exact this
      · have h32 : 32 <= l := by have := HQ3.out; omega
        have HQ : Hid (o + (n - l) = q) := (HQ3.2.1 oM).symm;have h32c : 32 <= lc := oM;have i1 : (32 : Int) <= (lc : Int) := oM;have i2 : (32 : Int) <= (l : Int) := oM;have i3 : (0 : Int) < (l : Int) := oM;have HSL : Hid (n - l + 32 <= bs.size) := by unfold Hid; have := HSZ.out; omega
        have HS3 : Hid ((bs.extract (n - l) (n - l + 32)).size = 32) := by unfold Hid; rw [Z4]; have := HSL.out; omega
        obtain⟨tc0, tc1, tc2, tc3, tf⟩ := KP.head.at4;have zt := KP.head.lt;obtain⟨pc0, pc1, pc2, pc3, pf⟩ := KP.tail.head.at4;have hl6 : ∀x ∈ ([⟨k0, 0, g0, g1, g2, 0⟩, ⟨k1, 0, 0, 0, 0, 0⟩] : List Blk), k6 ≠ x.k := by simp only [YX, X5, or_false]; rintro x (rfl | rfl); exact n60; exact n61
        have HFF : Hid (_ = _) := JV (P := P) bs (n - l) HSL.out;go_wp2_with fail
        go_region_with (first | (go_at_call 53; refine(kV (some ⟨g, q, none⟩) g q 32 lc (bs.extract (n - l) (n - l + 32)) _ (Xx 32) h32c HS3.out (X0 ⟨rfl, HQ.out ▸ yN (n - l) 32 (by first | (with_reducible exact Holds.below HBS.out KP.bl hg) | (with_reducible exact Holds.below HBS.out KP.drew.bl hg) | fail) HSL.out⟩)).mono ?_; rintro e w1 ⟨v, rfl, hb1, hF1⟩; obtain⟨a1, b1, c1, d1, rfl, ha1, hb1', hc1, hd1, es1⟩ := id hF1; clear es1; have HF1 : Hid (Four _ _) := hF1; clear hF1; (first | (with_reducible have KP1 := KP.call hb1) | (with_reducible have KP1 := KP.drew.call hb1) | fail); clear KP; have KP := KP1; clear KP1 hb1; obtain⟨tc0, tc1, tc2, tc3, tf⟩ := KP.head.at4; have zt := KP.head.lt; obtain⟨pc0, pc1, pc2, pc3, pf⟩ := KP.tail.head.at4) | (go_at_call 55; refine(jV _ _ HF1.out _).mono ?_; rintro e w1 ⟨v, rfl, hb1, rfl⟩; (first | (with_reducible have KP1 := KP.call hb1) | (with_reducible have KP1 := KP.drew.call hb1) | fail); clear KP; have KP := KP1; clear KP1 hb1; obtain⟨tc0, tc1, tc2, tc3, tf⟩ := KP.head.at4; have zt := KP.head.lt; obtain⟨pc0, pc1, pc2, pc3, pf⟩ := KP.tail.head.at4) | (go_at_call 155; refine(yS g0 g1 g2 _ _ _ _ P HG.h0 HG.h1 HG.h2 HG.hor HG.hP HG.hP2 HF1.out HF.out _).mono ?_; rintro e w1 ⟨v, rfl, hb1, hF3⟩; obtain⟨a', b', c', d', rfl, ha', hb', hc', hd', es3⟩ := id hF3; clear es3; have HF3 : Hid (Four _ _) := hF3; clear hF3; (first | (with_reducible have KP1 := KP.call hb1) | (with_reducible have KP1 := KP.drew.call hb1) | fail); clear KP; have KP := KP1; clear KP1 hb1; obtain⟨tc0, tc1, tc2, tc3, tf⟩ := KP.head.at4; have zt := KP.head.lt; obtain⟨pc0, pc1, pc2, pc3, pf⟩ := KP.tail.head.at4))
        all_goals (rw [HFF.out]at HF3)
        all_goals (by_cases i4 : lc = 32)
        all_goals (try go_wp2)
        all_goals
          (go_roundg (l - 32)
           case measure => omega
           case rel =>
            first
              | refine⟨l - 32, q + 32, lc - 32, a', b', c', d', rfl, oM, rfl, ⟨by have := HQ3.out; omega, λ_ => by have := HQ.out; omega, by have := HQ3.out; omega⟩, ?_, ?_⟩
              | refine⟨l - 32, q, lc - 32, a', b', c', d', rfl, oM, by first | rfl | (rw [i4]), ⟨by have := HQ3.out; omega, λh => oM, by have := HQ3.out; omega⟩, ?_, ?_⟩
              | fail
            · first | (with_reducible exact KP.put M6 hl6 a' b' c' d') | (with_reducible exact(KP.put M6 hl6 a' b' c' d').drew) | fail
            · rw [show n - (l - 32) = n - l + 32 by omega]; exact HF3)
def sPl(N a b:Nat):Nat:=(a+b)%N
theorem NF(O:Ord N){a b:Nat}(c:a<N)(k:b<N):Gives 50 #[gv1,nv a,nv b] (nv (sPl N a b)):=λw =>
 (Du _ _ _ N _ _ a b O.gap (O.four c) (O.four k) c k w).mono (by rintro e w' ⟨v,rfl,k,d⟩;exact⟨_,rfl,k,d.nv⟩)
theorem mM(O:Ord N)(a b:Nat)(f:a<N)(d:b<N):Gives 25 #[(nv a),(nv b)] (nv (sPl N a b)):=by
 intro w;go_enter func25,ntmps25;refine RG.M.enter [(0,.v (nv a)),(1,.v (nv b))] 12 kR ?_;intro a0 c;repeat refine Xy ?_
 refine c.T [.m 0,.m 1,.m 2] [(0,wn a),(1,wn b),(2,RG.z 4)] [] [wn a,wn b,RG.z 4] [2,3,4] ⟨mk 0 44,mk 1 44,mk 2 44,yEU⟩ ?_;intro g n j l m e;repeat refine Xy ?_
 refine e.D [.c gv1,.s (.p 0 0),.x (nv a),.s (.p 1 0),.x (nv b),.c (nv (sPl N a b)),.x (nv (sPl N a b)),.u 2] [] [(2,7,wn (sPl N a b))] [wn a,wn b,wn (sPl N a b)] [4] ⟨cl fW,st,ld u38 i38,st,ld u38 i38,cl (NF O f d),st,RG.pt i40,yEU⟩ ?_;intro a2 i k;refine Y5 ?_;refine XE (v:=(nv (sPl N a b))) (aH k.st 4 44 rfl 2 _ rfl (k.at (s:=(.p 2 0))) u40 i40) k.sl.defers ?_;exact⟨_,rfl,k.st.bel.below,rfl⟩
def mN(N:Nat)(k:Bs):Nat:=beV k.toList%N
def Tn(v:Xu)(n:Nat):List It:=[.c 3 [] gv1,.x 4 [] v,.c 5 [(3,0),(4,1)] (nv n),.x 6 [(5,2)] (nv n),.u [(6,3)] 0]
theorem Aq(O:Ord N)(g:Nat)(k:Bs)(m:k.size=64)(w:Xs)(f:g<w.heap.size)(j:Holds encB w g 0 k):XH prog 180 #[sZ g 64 64] w (rZ w λe w'=>e=nv (mN N k)):=by
 have i:∀w',BelX w.heap.size [] w w'->XH prog 204 #[gv1,sZ g 64 64] w' (Ret λe b=>kZ w' b/\e=nv (mN N k)):=λw' d =>
  (Dv _ _ _ N g 0 64 64 k O.gap w' m (Xx _) (Xz f d.below.size) (Holds.below j d.below f)).mono (by rintro e b ⟨v,rfl,d,c⟩;exact⟨_,rfl,d,c.nv⟩)
 go_enter func180,ntmps180;refine RG.M.enter [(0,.v (sZ g 64 64))] 7 kR ?_;intro a0 l;repeat refine Xy ?_
 refine l.T [.m 0] [(0,RG.z 4)] [] [RG.z 4] [0,2] ⟨mk 0 44,yEU⟩ ?_;intro q o r n;repeat refine Xy ?_
 refine n.t (Tn (sZ g 64 64) (mN N k)) [] [(0,4,wn (mN N k))] [wn (mN N k)] [(2,.p 0 0)] ⟨cl fW,st,clB (λ_ _=>kR) i,st,RG.pt i40,yEU⟩ ?_;intro a2 p c;refine Y5 ?_;refine XE (v:=(nv (mN N k))) (aH c.st 2 44 rfl 0 _ rfl (c.at (s:=(.p 0 0))) u40 i40) c.sl.defers ?_;exact⟨_,rfl,c.st.bel.below,rfl⟩
theorem oU(O:Ord N)(k:Bs):mN N k<N:=Y9 _ O.pos
def chL(N:Nat)(k:List UInt8)(b:List (List UInt8)):Nat:=mN N (lC (iU k b).toList 64)
theorem row_new(w:Xs)(c:List Xu)(T:Yd):Row (w.alloc (.cells c.toArray T)) w.heap.size c:=
 have h:=Made.alloc w c T
 ⟨h.lt,h.range,h.there⟩
theorem aI(n:Nat):(wn n).toArray.all (·.oneCell')=true:=kR
theorem Ck(O:Ord N)(j:Nat)(T:Bs)(w:Xs)(p:T.size=32)(t:Holds encB w j 0 T):
 XH prog 122 #[sZ j 32 32] w (rZ w λe w'=>e=nv (mN N (lC T.toList 64))):=by
 obtain⟨S,r⟩:∃S,Hid (lC T.toList 64=S):=⟨_,rfl⟩
 have u:S.size=64:=by rw[<-r.out];exact An _ _
 rw[r.out];obtain⟨d,k⟩:∃d,Hid (w.alloc (.cells #[uZ 0,uZ 0,uZ 0,uZ 0] 44)=d):=⟨_,rfl⟩
 have i:Hid (Row d w.heap.size [uZ 0,uZ 0,uZ 0,uZ 0]/\kZ w d/\Holds encB d j 0 T):=by rw[<-k.out];exact⟨row_new w _ _,aC w _,Holds.below t (aC w _) (Holds.lt t oM)⟩
 clear t;go_enter func122,ntmps122;go_wp2_with fail
 rw[k.out];clear k;refine(zW (some (aZ j)) j 0 32 32 64 T d dC p (Xx _) dC (X0 ⟨rfl,i.2.2⟩)).mono ?_;rintro e n ⟨a,rfl,B,s,q⟩;rw[r.out]at q;have c:Hid (Row n w.heap.size [uZ 0,uZ 0,uZ 0,uZ 0]/\kZ w n/\Holds encB n a 0 S):=⟨i.1.below s,i.2.1.trans (s.mono i.2.1.size),q⟩
 clear B s q i;go_wp2_with fail
 refine(Aq O a S u n (Holds.lt c.2.2 oM) c.2.2).mono ?_;rintro e x ⟨v,rfl,b,rfl⟩;have o:Hid (Row x w.heap.size [uZ 0,uZ 0,uZ 0,uZ 0]/\kZ w x):=⟨c.1.below b,c.2.1.trans (b.mono c.2.1.size)⟩
 clear b c;obtain⟨m,z⟩:∃m,Hid (mN N S=m):=⟨_,rfl⟩
 rw[z.out];obtain⟨l,g⟩:∃l,Hid (x.setCells w.heap.size 0 (wn m)=l):=⟨_,rfl⟩
 have y:Hid (Row l w.heap.size (wn m)/\kZ w l):=by rw[<-g.out];exact⟨o.1.put rfl,RG.below_setCells (Xx _) _ _ _ o.2⟩
 obtain⟨A,f⟩:∃A,Hid (nv m=A):=⟨_,rfl⟩
 rw[f.out];go_wp2_with (refine X8 rfl 44 _ _ rfl w.heap.size 0 (wn m).toArray ?_ ?_ ?_ ?_ ?_ ?_;rfl;exact f.symm;exact o.1.2.2;exact i40;exact aI m;rw[show(wn m).toArray.toList=wn m from rfl,g.out])
 refine XE (aF 2 44 rfl y.1 rfl u40 i40) rfl ?_;exact⟨_,rfl,y.2,by rw[z.out];rfl⟩
theorem Df(O:Ord N)(k:ByteArray)(u:Option YW)(n cap:Nat)(i:List (List UInt8))(w:Xs)(p:k.size<=1048576)(D:i.length=n)(q:n<=1048576)(F:PartsOk w u i):
 XH prog 74 #[.string k,.slice u n cap] w (rZ w λe w'=>e=nv (chL N k.data.toList i)):=by
 obtain⟨T,a⟩:∃T,Hid (iU k.data.toList i=T):=⟨_,rfl⟩
 have y:T.size=32:=by rw[<-a.out];exact bV _ _
 have G:chL N k.data.toList i=mN N (lC T.toList 64):=by unfold chL;rw[a.out]
 rw[G];clear G;obtain⟨c,f⟩:∃c,Hid (w.alloc (.cells #[uZ 0,uZ 0,uZ 0,uZ 0] 44)=c):=⟨_,rfl⟩
 have b:Hid (Row c w.heap.size [uZ 0,uZ 0,uZ 0,uZ 0]/\kZ w c):=by rw[<-f.out];exact⟨row_new w _ _,aC w _⟩
 have d:Hid (XH prog 46 #[.string k,.slice u n cap] c λe w'=>∃r,e=.returned (sZ r 32 32)/\c.heap.size<=r/\kZ c w'/\Holds encB w' r 0 T):=by
  subst D;rw[<-a.out];exact kQ k u cap i c p q (F.below b.2)
 clear F D q;go_enter func74,ntmps74;go_wp2_with fail
 rw[f.out];clear f;refine d.mono ?_;rintro e s ⟨B,rfl,J,z,H⟩;have o:Hid (Row s w.heap.size [uZ 0,uZ 0,uZ 0,uZ 0]/\kZ w s/\Holds encB s B 0 T):=⟨b.1.below z,b.2.trans (z.mono b.2.size),H⟩
 clear J z H d b;go_wp2_with fail
 refine(Ck O B T s y o.2.2).mono ?_;rintro e A ⟨v,rfl,g,rfl⟩;have x:Hid (Row A w.heap.size [uZ 0,uZ 0,uZ 0,uZ 0]/\kZ w A):=⟨o.1.below g,o.2.1.trans (g.mono o.2.1.size)⟩
 clear g o;obtain⟨m,E⟩:∃m,Hid (mN N (lC T.toList 64)=m):=⟨_,rfl⟩
 rw[E.out];obtain⟨t,l⟩:∃t,Hid (A.setCells w.heap.size 0 (wn m)=t):=⟨_,rfl⟩
 have C:Hid (Row t w.heap.size (wn m)/\kZ w t):=by rw[<-l.out];exact⟨x.1.put rfl,RG.below_setCells (Xx _) _ _ _ x.2⟩
 obtain⟨I,j⟩:∃I,Hid (nv m=I):=⟨_,rfl⟩
 rw[j.out];go_wp2_with (refine X8 rfl 44 _ _ rfl w.heap.size 0 (wn m).toArray ?_ ?_ ?_ ?_ ?_ ?_;rfl;exact j.symm;exact x.1.2.2;exact i40;exact aI m;rw[show(wn m).toArray.toList=wn m from rfl,l.out])
 refine XE (aF 4 44 rfl C.1 rfl u40 i40) rfl ?_;exact⟨_,rfl,C.2,by rw[E.out];rfl⟩
end
section
section
variable {P:YG}{ops:Array Yo}{rest:List Yo}{op:Yo}{a:Act}{w w':Xs}{v:Xu}{Q:yAL->Act->Xs->Prop}
theorem bF(k:op.guard=none)(X:Op)(_:op.op=X)(c:(Yb a.eval op).run P w=.ok (.value v) w')(h:wpList P ops Q rest (a.put op.dst v) w'):wpList P ops Q (op :: rest) a w:=
 ZH k λK b=>by
  unfold YV;rw[c];exact b _ _ h
end
variable {N:Nat}
theorem Row.only{W W':Xs}{k b o n:Nat}{vs:List Xu}(h:Row W k vs)(f:SP.Only b o n W W')(d:k≠b):Row W' k vs:=by
 refine⟨Xz h.1 f.size,λj v e=>?_,λj e=>?_⟩
 ·rw[(f.other (c:=k) (o:=0+j) d h.1).1];exact h.2.1 j v e
 ·have g:=h.2.2 j e;have i:=f.other (c:=k) (o:=0+j) d h.1;exact⟨by rw[i.1];exact g.1,by rw[i.2];exact g.2⟩
theorem dX{w W:Xs}{y o n k:Nat}{vs:List Xu}(h:SP.Only y o n w W)(e:y<w.heap.size)(f:w.heap.size<=k)(q:Nat):SP.Only y o n w (W.setCells k q vs):=
 have b:=RG.below_setCells f _ _ _ (XM _ _)
 ⟨b.os.trans h.os,b.tape.trans h.tape,b.output.trans h.output,XB h.size b.size,λj d c=>(b.block j d).trans (h.block j d c),λp g=>(XW (a:=⟨y,p,none⟩) (b.block y e)).trans (h.cell p g),λp=>(Y0 (a:=⟨y,p,none⟩) (b.block y e)).trans (h.froz p)⟩
theorem Hid.mk'{p:Prop}(h:p):Hid p:=h
theorem u124:(prog.underlying 157).map (·.isRow)=some true:=kR
theorem i124:(prog.info? 157).map (·.size)=some 1:=kR
theorem H8(k:ByteArray)(w:Xs)(n:k.size<=1048576):XH prog 185 #[.string k] w (rZ w λe w'=>∃r,e=.agg #[jZ r]/\w.heap.size<=r/\r<w'.heap.size/\Holds encB w' r 0 (newL k.data.toList)):=by
 obtain⟨L,s⟩:=hE (newL k.data.toList);have x:L.size=32:=by rw[<-s.out];exact AD _
 rw[s.out];obtain⟨g,c⟩:∃g,Hid (w.alloc (.cells #[.pointer none] 157)=g):=⟨_,rfl⟩
 have m:Hid (Row g w.heap.size [.pointer none]/\kZ w g):=by rw[<-c.out];exact⟨row_new w _ _,aC w _⟩
 go_enter func185,ntmps185;go_wp2_with fail
 rw[c.out];clear c;refine(Fu k g n).mono ?_;rintro e f ⟨rfl,d,b⟩;rw[s.out]at b;have o:g.heap.size<f.heap.size:=Holds.lt b oM;obtain⟨r,t⟩:∃r,Hid (g.heap.size=r):=⟨_,rfl⟩
 rw[t.out]at b o⊢;have y:w.heap.size<r:=by rw[<-t.out];exact m.1.1
 have q:Hid (Row f w.heap.size [.pointer none]/\kZ w f/\Holds encB f r 0 L):=⟨m.1.below d,m.2.trans (d.mono m.2.size),b⟩
 clear d b m t;obtain⟨i,l⟩:∃i,Hid (f.setCells w.heap.size 0 [jZ r]=i):=⟨_,rfl⟩
 have p:Hid (Row i w.heap.size [jZ r]/\kZ w i/\Holds encB i r 0 L/\r<i.heap.size):=by
  rw[<-l.out];refine⟨q.1.put rfl,RG.below_setCells (Xx _) _ _ _ q.2.1,λj u=>?_,by rw[setCells_size];exact o⟩;have h:=q.2.2 j u;have e:=aE w.heap.size [jZ r] 0 f r oM;rw[XW (a:=⟨r,0+j,none⟩) e,Y0 (a:=⟨r,0+j,none⟩) e];exact h
 go_wp2_with (refine bF (v:=.agg #[jZ r]) (w':=f) rfl (.build 157 _) rfl ?_ ?_;kernel_rfl;refine yBV ?_)
 show wpList _ _ _ _ _ _;refine X8 rfl 157 _ _ rfl w.heap.size 0 #[jZ r] ?_ ?_ ?_ ?_ ?_ ?_
 ·kernel_rfl
 ·kernel_rfl
 ·exact q.1.2.2
 ·exact i124
 ·kernel_rfl
 rw[show(#[jZ r]).toList=[jZ r] from rfl,l.out];go_wp2;refine XE (aF 2 157 rfl p.1 rfl u124 i124) rfl ?_;exact⟨_,rfl,p.2.1,r,rfl,oM,p.2.2.2,p.2.2.1⟩
def cha(N:Nat)(L:Bs):Nat:=mN N (Dn L [99,104,97,108,108,101,110,103,101] 64)
end
namespace SP
attribute [local go_sem] dA dW eC qH
end SP
namespace SP
attribute [local go_sem] dA dW eC qH
end SP
namespace SP
attribute [local go_sem] dA dW eC qY qH
end SP
namespace SP
attribute [local go_sem] dA dW eC qY qH Fw PP
end SP
namespace SP
attribute [local go_sem] AQ
end SP
section
variable {P:Nat}[NeZero P]{N:Nat}
def n12(P:Nat)[NeZero P]:List Xu:=ws (0:Fin P)++(ws (1:Fin P)++ws (0:Fin P))
theorem WF(w:Xs):(Instr.makeSlice 23 (iZ 32) (iZ 32)).run prog w=.ok (sZ w.heap.size 32 32) (w.alloc (.cells (madeCells #[.int .u8 0] 32) 5)):=
 run_make_row' (P:=prog) 23 5 (.int .u8 0) 1 Jh EF rfl .i64 .i64 32 dC dC w
theorem Pp:prog.underlying 51=some (.array 33 5):=kR
theorem dE{b:Bs}(h:b.size=33):aA b=[.int .u8 (ub b[0]!),.int .u8 (ub b[1]!),.int .u8 (ub b[2]!),.int .u8 (ub b[3]!),.int .u8 (ub b[4]!),.int .u8 (ub b[5]!),.int .u8 (ub b[6]!),.int .u8 (ub b[7]!),.int .u8 (ub b[8]!),.int .u8 (ub b[9]!),.int .u8 (ub b[10]!),.int .u8 (ub b[11]!),.int .u8 (ub b[12]!),.int .u8 (ub b[13]!),.int .u8 (ub b[14]!),.int .u8 (ub b[15]!),.int .u8 (ub b[16]!),.int .u8 (ub b[17]!),.int .u8 (ub b[18]!),.int .u8 (ub b[19]!),.int .u8 (ub b[20]!),.int .u8 (ub b[21]!),.int .u8 (ub b[22]!),.int .u8 (ub b[23]!),.int .u8 (ub b[24]!),.int .u8 (ub b[25]!),.int .u8 (ub b[26]!),.int .u8 (ub b[27]!),.int .u8 (ub b[28]!),.int .u8 (ub b[29]!),.int .u8 (ub b[30]!),.int .u8 (ub b[31]!),.int .u8 (ub b[32]!)]:=by
 apply yBA;intro i;by_cases k:i<33
 ·rw[sN b i oM];match i,k with
  | 0,_=>rfl
  | 1,_=>rfl
  | 2,_=>rfl
  | 3,_=>rfl
  | 4,_=>rfl
  | 5,_=>rfl
  | 6,_=>rfl
  | 7,_=>rfl
  | 8,_=>rfl
  | 9,_=>rfl
  | 10,_=>rfl
  | 11,_=>rfl
  | 12,_=>rfl
  | 13,_=>rfl
  | 14,_=>rfl
  | 15,_=>rfl
  | 16,_=>rfl
  | 17,_=>rfl
  | 18,_=>rfl
  | 19,_=>rfl
  | 20,_=>rfl
  | 21,_=>rfl
  | 22,_=>rfl
  | 23,_=>rfl
  | 24,_=>rfl
  | 25,_=>rfl
  | 26,_=>rfl
  | 27,_=>rfl
  | 28,_=>rfl
  | 29,_=>rfl
  | 30,_=>rfl
  | 31,_=>rfl
  | 32,_=>rfl
  | n+33,h=>exact absurd h oM
 ·rw[ZG (by rw[aB h];omega),ZG (by show 33<=i;omega)]
theorem bytes_eq{a b:Bs}(g:a.size=33)(f:b.size=33):(∀i∈Yt 33,ub a[i]! = ub b[i]!)↔a=b:=by
 constructor
 ·intro h;apply yEG (by rw[g,f]);intro i d e;have k:=h i (YZ.2 oM);rw[getElem!_pos a i d,getElem!_pos b i e]at k;have c:a[i].toNat=b[i].toNat:=by unfold ub at k;omega
  exact yDy.1 c
 ·rintro rfl i _;rfl
theorem U0{a b:Bs}(e:a.size=33)(d:b.size=33)(w:Xs):(Op.equal 51 (.agg (aA a).toArray) (.agg (aA b).toArray)).run prog w=.ok (decide (a=b)) w:=by
 have c:(prog.info? 5).isSome=true:=kR;obtain⟨f,k⟩:=YB.1 c;show(Op.equalIn 10000 51 _ _).run prog w=_;rw[run_equalIn_array w 9999 _ _ Pp k,cells5,
  eqI _ _ (λi=>ub a[i]!) (λi=>ub b[i]!) 9998 w (Yt 33) (λi c=>by
   rw[Ye];exact sN a i (by rw[e];exact YZ.1 c)) (λi c=>by
   rw[Ye];exact sN b i (by rw[d];exact YZ.1 c))]
 rw[decide_eq_decide.2 (bytes_eq e d)]
theorem GU{b:Bs}(k:b.size=33)(e:Bool)(w:Xs):(Instr.checkKey e 10000 51 (.agg (aA b).toArray)).run prog w=.ok () w:=by
 rw[dE k];kernel_rfl
def at?(b:Bs):List Bs->Nat->Option Nat
 | [],_=>none
 | k :: r,i=>if b=k then some i else at? b r (i+1)
def ents:List Bs->Nat->List MapEntry
 | [],_=>[]
 | k :: r,i=>{ key:=.agg (aA k).toArray,val:=iZ i,born:=i } :: ents r (i+1)
theorem Da{b:Bs}(d:b.size=33)(w:Xs):∀(D:List Bs) (i:Nat),(∀k∈D,k.size=33)->(yDv 51 (.agg (aA b).toArray) (ents D i) i).run prog w=.ok ((at? b D i).map λj=>(j,iZ j)) w
 | [],i,_=>rfl
 | k :: r,i,h=>by
  have e:=Da d w r (i+1) (λx hx=>h x (Ym _ hx));have f:=U0 d (h k YC) w;unfold ents yDv at?;simp only[XT,f,Yu];by_cases c:b=k
  ·simp only[c,decide_true,if_true,Zj,yA5]
  ·simp only[c,decide_false,Bool.false_eq_true,if_false,e]
theorem Gx{b:Bs}(e:b.size=33)(D:List Bs)(h:∀k∈D,k.size=33)(w:Xs):(yD6 51 (.agg (aA b).toArray) (ents D 0)).run prog w=.ok ((at? b D 0).map λj=>(j,iZ j)) w:=by
 have d:=yAw Pp w;unfold yD6;rw[XT,d,Yu];cases D with
 | nil=>rfl
 | cons k r =>
  have c:Instr.findNow (.array 33 5) (.agg (aA b).toArray) (ents (k :: r) 0) 0=none:=rfl;simp only[c];exact Da e w (k :: r) 0 h
theorem at?_none{b:Bs}:∀ {D:List Bs}{i:Nat},at? b D i=none↔b ∉ D
 | [],i=>by simp[at?]
 | k :: r,i=>by
  unfold at?;by_cases h:b=k
  ·simp[h]
  ·simp[h,at?_none (D:=r) (i:=i+1)]
end
section
section
variable {P:YG}{ops:Array Yo}{rest:List Yo}{op:Yo}{a:Act}{w w':Xs}{v u:Xu}{Q:yAL->Act->Xs->Prop}
theorem aG(k:op.guard=none)(T:Yd)(x:yAf)(ho:op.op=.box T x)(hx:a.eval x=u)(c:(Yl T u).run P w=.ok v w')(h:wpList P ops Q rest (a.put op.dst v) w'):wpList P ops Q (op :: rest) a w:=
 ZH k λK b=>by
  unfold YV Yb;simp only[ho,hx,XT,c,Yu,Zj];exact b _ _ h
end
variable {N:Nat}
theorem cZ:(prog.info? 51).map (·.size)=some 33:=kR
theorem uCP:(prog.underlying 51).map (·.isRow)=some true:=kR
theorem sM{a:Bs}(k:a.size=33)(w:Xs):(Yl 51 (.agg (aA a).toArray)).run prog w=.ok (jZ w.heap.size) (w.alloc (.cells (aA a).toArray 51)):=by
 rw[dE k];kernel_rfl
theorem TT(k:Nat)(w:Xs):(Zk 51 (jZ k) none none none).run prog w=.ok (sZ k 33 33) w:=kR
theorem row_holds{W:Xs}{k:Nat}{a:Bs}(h:Row W k (aA a)):Holds encB W k 0 a:=cb_holds h.2.1 h.2.2
theorem xQ{W:Xs}{k:Nat}{a:Bs}(b:a.size=33)(h:Row W k (aA a)):PartOk W (sZ k 33 33) a.toList:=
 ⟨_,k,0,33,a,by rw[b],rfl,oM,oM,X0 ⟨rfl,row_holds h⟩⟩
theorem QN{W:Xs}{r:Nat}{L:Bs}(h:Holds encB W r 0 L):Holds SP.encB W r 0 L:=h
theorem QM{W:Xs}{r:Nat}{L:Bs}(h:Holds SP.encB W r 0 L):Holds encB W r 0 L:=h
end
section
variable {P:Nat}[NeZero P]{N:Nat}
theorem He(g k:Nat)(w:Xs):(Instr.arrayAt 51 (sZ g 33 k)).run prog w=.ok (jZ g) w:=kR
theorem qP{W:Xs}{k:Nat}{a:Bs}(b:Holds encB W k 0 a)(c:k<W.heap.size):Row W k (aA a):=⟨c,(sK b).1,(sK b).2⟩
theorem bQ(a:Bs):(aA a).toArray.all (·.oneCell')=true:=by
 rw[ZF];intro v hv;obtain⟨x,-,rfl⟩:=Yw.1 (yAE.1 hv);rfl
def pvl(a:Bs):Xu:=.agg (aA a).toArray
theorem P6(C:Fld P):Gives 77 #[] (pvl (wr (gG P))):=by
 intro w;obtain⟨T,u⟩:∃T,Hid (wr (gG P)=T):=⟨_,rfl⟩
 have s:T.size=33:=by rw[<-u.out];exact aL _
 rw[u.out];obtain⟨f,b⟩:∃f,Hid (w.alloc (.cells z33.toArray 51)=f):=⟨_,rfl⟩
 have o:Hid (Row f w.heap.size z33/\kZ w f):=by rw[<-b.out];exact⟨row_new w _ _,aC w _⟩
 obtain⟨d,m,n⟩:=XA.1 uCP;have z:Hid (prog.underlying 51=some d/\d.isRow=true):=⟨m,n⟩
 clear m n;go_enter func77,ntmps77;go_wp2_with (refine bF (v:=jZ w.heap.size) (w':=f) rfl (.alloc 51) rfl ?_ ?_;(rw[<-b.out];kernel_rfl))
 refine(To C f).mono ?_;rintro e i ⟨E,rfl,c,g,B,rfl,-,D,y,t⟩;rw[u.out]at t;have p:Hid (Row i w.heap.size z33/\kZ w i/\Row i g (aA T)):=⟨o.1.below c,o.2.trans (c.mono o.2.size),qP t y⟩
 clear c D y t o b;have a:=He g B;obtain⟨q,j⟩:∃q,Hid (i.setCells w.heap.size 0 (aA T)=q):=⟨_,rfl⟩
 have k:(aA T).length=33:=aB s;have A:Hid (Row q w.heap.size (aA T)/\kZ w q):=by rw[<-j.out];exact⟨p.1.put (by rw[k];rfl),RG.below_setCells (Xx _) _ _ _ p.2.1⟩
 obtain⟨x,l⟩:∃x,Hid (X6 (aA T).toArray=x):=⟨_,rfl⟩
 have r:Hid ((prog.info? 51).map (·.size)=some (aA T).length/\i.there w.heap.size 0 (aA T).toArray.size/\(prog.info? 51).map (·.size)=some (aA T).toArray.size):=by
  have e:(aA T).toArray.size=33:=by rw[YD];exact k
  refine⟨by rw[k];exact cZ,by rw[e];exact p.1.2.2,by rw[e];exact cZ⟩
 clear k;go_wp2_with (first|(refine Yv rfl 51 _ rfl g 0 ?_ (aA T) d ?_ ?_ ?_ ?_ ?_;rfl;exact p.2.2.2.1;exact z.1;exact z.2;exact r.1;rw[l.out])|(refine X8 rfl 51 _ _ rfl w.heap.size 0 (aA T).toArray ?_ ?_ ?_ ?_ ?_ ?_;rfl;exact l.symm;exact r.2.1;exact r.2.2;exact bQ T;rw[show(aA T).toArray.toList=aA T from rfl,j.out]))
 refine XE (aF 0 51 rfl A.1 rfl uCP r.1) rfl ?_;exact⟨_,rfl,A.2,rfl⟩
end
section
section
variable {P:YG}{ops:Array Yo}{rest:List Yo}{op:Yo}{a:Act}{w w':Xs}{v:Xu}{Q:yAL->Act->Xs->Prop}
theorem mE(b:op.guard=none)(T:Yd)(k:Array (Nat × yAf))(ho:op.op=.build T k)(vs:Array (Nat × Xu))(hx:(k.map λ(i,x)=>(i,a.eval x))=vs)(d:(yBP T vs).run P w=.ok v w')(h:wpList P ops Q rest (a.put op.dst v) w'):wpList P ops Q (op :: rest) a w:=
 ZH b λK c=>by
  unfold YV Yb;simp only[ho,hx,XT,d,Yu,Zj];exact c _ _ h
theorem jK(b:op.guard=none)(T:Yd)(n:Nat)(k:Array (Nat × yAf))(ho:op.op=.buildSlice T n k)(vs:Array (Nat × Xu))(hx:(k.map λ(i,x)=>(i,a.eval x))=vs)(d:(Yr T n vs).run P w=.ok v w')(h:wpList P ops Q rest (a.put op.dst v) w'):wpList P ops Q (op :: rest) a w:=
 ZH b λK c=>by
  unfold YV Yb;simp only[ho,hx,XT,d,Yu,Zj];exact c _ _ h
end
theorem Vu{a:Bs}(k:a.size=33)(n:Nat)(w:Xs):(yBP 124 #[(0,nv n),(1,pvl a)]).run prog w=.ok (.agg (wn n++aA a).toArray) w:=by
 unfold pvl;rw[dE k];kernel_rfl
theorem Vf{a:Bs}(k:a.size=33)(n:Nat)(w:Xs):(Yr 82 1 #[(0,.agg (wn n++aA a).toArray)]).run prog w=.ok (sZ w.heap.size 1 1) (w.alloc (.cells (wn n++aA a).toArray 124)):=by
 rw[dE k];kernel_rfl
theorem boxS(n:Nat)(w:Xs):(Yl 44 (nv n)).run prog w=.ok (jZ w.heap.size) (w.alloc (.cells (wn n).toArray 44)):=kR
theorem lJ(a:Bs)(p:a.size=33)(n:Nat)(w:Xs):XH prog 32 #[pvl a,nv n] w (rZ w λe w'=>∃k,e=sZ k 1 1/\w.heap.size<=k/\Row w' k (wn n++aA a)):=by
 have E:=Hid.mk' (sM p w);obtain⟨c,f⟩:=hE (w.alloc (.cells (aA a).toArray 51));rw[f.out]at E;have r:c.heap.size=w.heap.size+1:=by rw[<-f.out,XF]
 have A:=Hid.mk' (boxS n c);obtain⟨b,i⟩:=hE (c.alloc (.cells (wn n).toArray 44));rw[i.out,r]at A;have G:b.heap.size=w.heap.size+2:=by rw[<-i.out,XF,r]
 have H:=Hid.mk' (Vu p n b);have y:=Hid.mk' (Vf p n b);obtain⟨o,l⟩:=hE (b.alloc (.cells (wn n++aA a).toArray 124));rw[l.out,G]at y;have K:Hid (Row b w.heap.size (aA a)/\Row b (w.heap.size+1) (wn n)/\kZ w o/\Row o (w.heap.size+2) (wn n++aA a)):=by
  have j:Row c w.heap.size (aA a):=by rw[<-f.out];exact row_new w _ _
  have m:Row b (w.heap.size+1) (wn n):=by rw[<-i.out,<-r];exact row_new c _ _
  have s:Row o (w.heap.size+2) (wn n++aA a):=by rw[<-l.out,<-G];exact row_new b _ _
  have b1:kZ w c:=by rw[<-f.out];exact aC w _
  have g:kZ c b:=by rw[<-i.out];exact aC c _
  have q:kZ b o:=by rw[<-l.out];exact aC b _
  exact⟨j.below g,m,(b1.trans (g.mono oM)).trans (q.mono oM),s⟩
 have HL:Hid ((prog.info? 51).map (·.size)=some (aA a).length):=by show _=_;rw[aB p];exact cZ
 obtain⟨d,z,B⟩:=XA.1 uCP;obtain⟨D,C,x⟩:=XA.1 u40;have q:Hid ((prog.underlying 51=some d/\d.isRow=true)/\prog.underlying 44=some D/\D.isRow=true):=⟨⟨z,B⟩,C,x⟩
 obtain⟨va,g⟩:=hE (pvl a);obtain⟨t,j⟩:=hE (nv n);obtain⟨F,m⟩:=hE (X6 (wn n++aA a).toArray);have s:Hid ((Yl 51 va).run prog w=.ok (jZ w.heap.size) c):=by rw[<-g.out];exact E
 rw[j.out]at A;rw[g.out,j.out,m.out]at H;rw[m.out]at y;rw[g.out,j.out];go_enter func32,ntmps32;go_wp2_with (first|(refine aG (u:=va) (v:=jZ w.heap.size) (w':=c) rfl 51 (.tmp 0) rfl ?_ ?_ ?_;rfl;exact s.out)|(refine aG (u:=t) (v:=.pointer (some ⟨w.heap.size+1,0,none⟩)) (w':=b) rfl 44 (.tmp 1) rfl ?_ ?_ ?_;rfl;exact A.out)|(refine Yv rfl 44 _ rfl (w.heap.size+1) 0 ?_ (wn n) D ?_ ?_ ?_ ?_ ?_;rfl;exact K.2.1.2.1;exact q.2.1;exact q.2.2;exact i40;rw[show X6 (wn n).toArray=t from j.out])|(refine Yv rfl 51 _ rfl w.heap.size 0 ?_ (aA a) d ?_ ?_ ?_ ?_ ?_;rfl;exact K.1.2.1;exact q.1.1;exact q.1.2;exact HL.out;rw[show X6 (aA a).toArray=va from g.out])|(refine mE (v:=F) (w':=b) rfl 124 _ rfl #[(0,t),(1,va)] ?_ ?_ ?_;kernel_rfl;exact H.out)|(refine jK (v:=.slice (some ⟨w.heap.size+2,0,none⟩) 1 1) (w':=o) rfl 82 1 _ rfl #[(0,F)] ?_ ?_ ?_;kernel_rfl;exact y.out))
 go_ret;exact⟨_,rfl,K.2.2.1,w.heap.size+2,rfl,oM,K.2.2.2⟩
end
section
variable {P:Nat}[NeZero P]{N:Nat}
theorem Xg{a:Bs}(k:a.size=33)(n:Nat)(w:Xs):(Yl 124 (.agg (wn n++aA a).toArray)).run prog w=.ok (jZ w.heap.size) (w.alloc (.cells (wn n++aA a).toArray 124)):=by
 rw[dE k];kernel_rfl
theorem Xh(w:Xs):(yBP 44 #[]).run prog w=.ok (nv 0) w:=kR
def tvl(n:Nat)(a:Bs):Xu:=.agg (wn n++aA a).toArray
theorem kH{W:Xs}{k:Nat}{xs ys:List Xu}(h:W.rangeAt k 0 (xs++ys)):W.rangeAt k 0 xs:=λj v b=>h j v (by rw[XQ (XG.1 b).1];exact b)
theorem mO{W:Xs}{k:Nat}{xs ys:List Xu}(h:W.rangeAt k 0 (xs++ys)):W.rangeAt k xs.length ys:=λj v b=>by
 have:=h (xs.length+j) v (by rw[XR (yBI _ _),Nat.add_sub_cancel_left];exact b);rwa[XD]at this
theorem Kn{n:Nat}(q:n<top){a:Bs}(r:a.size=33):Gives 110 #[tvl n a] (.bool (decide (n=0))):=by
 intro w;have g:=Hid.mk' (Xg r n w);obtain⟨k,d⟩:=hE (w.alloc (.cells (wn n++aA a).toArray 124));rw[d.out]at g;have K:Hid (Row k w.heap.size (wn n++aA a)/\kZ w k):=by rw[<-d.out];exact⟨row_new w _ _,aC w _⟩
 obtain⟨x,l,i⟩:=XA.1 u40;have p:=mk2 l i;obtain⟨va,e⟩:=hE (tvl n a);obtain⟨m,c⟩:=hE (nv n);obtain⟨v0,b⟩:=hE (nv 0);have f:Hid ((Yl 124 va).run prog w=.ok (jZ w.heap.size) k):=by rw[<-e.out];exact g
 have t:Hid ((yBP 44 #[]).run prog k=.ok v0 k):=by rw[<-b.out];exact Xh k
 have j:=Hid.mk' (eqS q (show 0<top by unfold top;omega) k);rw[c.out,b.out]at j;have s:=j.out;obtain⟨z,o⟩:=hE (decide (n=0));rw[o.out]at s;have y:(eqGuard .eql 44 (.tmp 4) (.tmp 5) m v0).run prog k=.ok () k:=by rw[<-c.out,<-b.out];kernel_rfl
 rw[e.out,o.out];clear g j;go_enter func110,ntmps110;go_wp2_with (first|(refine aG (u:=va) (v:=jZ w.heap.size) (w':=k) rfl 124 (.tmp 0) rfl ?_ ?_ ?_;rfl;exact f.out)|(refine Yv rfl 44 _ rfl w.heap.size 0 ?_ (wn n) x ?_ ?_ ?_ ?_ ?_;rfl;exact kH K.1.2.1;exact p.1;exact p.2;exact i40;rw[show X6 (wn n).toArray=m from c.out])|(refine mE (v:=v0) (w':=k) rfl 44 _ rfl #[] ?_ ?_ ?_;kernel_rfl;exact t.out))
 go_wp2;go_ret;exact⟨_,rfl,K.2,rfl⟩
theorem uT:(prog.underlying 124).map (·.isRow)=some true:=kR
theorem iT:(prog.info? 124).map (·.size)=some 37:=kR
theorem atT(k o n c i:Nat)(b:i<n)(w:Xs):(Yi 82 (.slice (some ⟨k,o,none⟩) n c) (iZ i)).run prog w=.ok (.pointer (some ⟨k,o+37*i,none⟩)) w:=by
 go_simp
def kW(ns:Nat->Nat):Nat->Nat->Int
 | _,0=>-1
 | i,m+1=>if ns i=0 then(i:Int) else kW ns (i+1) m
def Qt(b:Bool):List It:=[.x 9 [] (.bool b)]
def Qs(g k c i n:Nat)(a:Bs)(z:Bool):List It:=[.x 11 [] (.func (.func 110) #[] #[]),.x 12 [] (sZ g k c),.x 13 [] (iZ i),.x 14 [(12,1),(13,2)] (.pointer (some ⟨g,(0+37*i),none⟩)),.x 15 [(14,3)] (tvl n a),.c 16 [(11,0),(15,4)] (.bool z)]
theorem Gy(g k c:Nat)(Z:k<=1000000)(ns:Nat->Nat)(C:Nat->Bs)(Q:∀j,j<k->ns j<top)(T:∀j,j<k->(C j).size=33)(w:Xs)(N:g<w.heap.size)(S:∀j,j<k->w.rangeAt g (37*j) (wn (ns j)++aA (C j))):
 XH prog 165 #[sZ g k c,.func (.func 110) #[] #[]] w (rZ w λe w'=>e=iZ (kW ns 0 k)):=by
 obtain⟨R,hR⟩:∃R,kW ns 0 k=R:=⟨_,rfl⟩
 rw[hR];go_enter func165,ntmps165;refine RG.M.enter [(0,.v (sZ g k c)),(1,.v (.func (.func 110) #[] #[]))] 19 kR ?_;intro a0 P;repeat refine Xy ?_
 refine P.U [.x (iZ 0)] [0,1] ⟨st,yEU⟩ ?_;intro W Y U;repeat refine Xy ?_
 refine U.U [.x (sZ g k c),.x (iZ k),.x (iZ 0)] [0,1,7,8] ⟨st,st,st,yEU⟩ ?_;intro a2 X O;repeat refine Xy ?_
 refine Y6 ?_;refine yBN (λm a wr=>∃i:Nat,i+m=k/\kW ns i m=R/\RG.M w w.heap.size [] 19 [] [] [(0,.v (sZ g k c)),(1,.v (.func (.func 110) #[] #[])),(7,.v (iZ k)),(8,.v (iZ i))] a wr) k ⟨0,oM,hR,O⟩ ?_;intro K a wr;rintro⟨i,V,hf,u⟩;by_cases r:i<k
 ·obtain⟨n,y⟩:∃n,ns i=n:=⟨_,rfl⟩
  obtain⟨b,H⟩:∃b,C i=b:=⟨_,rfl⟩
  have x:=Q i r;have s:=T i r;have t:=S i r;rw[y]at x t;rw[H]at s t;have q:w.rangeAt g (0+37*i) (wn n++aA b):=by rw[XD];exact t
  have p:(prog.info? 124).map (·.size)=some (wn n++aA b).length:=by rw[XC,aB s];exact iT
  have z:=Kn x s;obtain⟨I,rfl⟩:∃I,K=I+1:=⟨K-1,oM⟩
  unfold kW at hf;rw[y]at hf;repeat refine Xy ?_
  refine u.u (Qt true) [(0,.v (sZ g k c)),(1,.v (.func (.func 110) #[] #[])),(7,.v (iZ k)),(8,.v (iZ i)),(9,.v (.bool true))] ⟨aO rfl .lss 3 3 8 7 (iZ i) (iZ k) (.bool true) rfl rfl sx sx (λw=>kR) (gW r),yEU⟩ ?_;intro G J f;repeat refine Xy ?_
  refine Yx f.ev ?_;refine YR ?_;refine Xy ?_;refine Y6 ?_;repeat refine Xy ?_
  refine f.U [.x (iZ i),.x (iZ i)] [0,1,7,8,5] ⟨st,st,yEU⟩ ?_;intro M L d;repeat refine Xy ?_
  by_cases A:n=0
  ·rw[decide_eq_true A]at z;rw[yES A]at hf;refine d.u (Qs g k c i n b true) [(0,.v (sZ g k c)),(1,.v (.func (.func 110) #[] #[])),(7,.v (iZ k)),(8,.v (iZ i)),(5,.v (iZ i)),(16,.v (.bool true))] ⟨st,st,st,aY rfl 82 12 13 rfl (.v (sZ g k c)) (iZ i) sx sx (λμ w=>atT _ 0 _ _ i r w),eK rfl g (0+37*i) N X5 124 14 rfl (wn n++aA b) rfl sx q uT p,clB (λ_ _=>kR) (λw' _=>z w'),yEU⟩ ?_;intro E F o;repeat refine Xy ?_
   refine Yx o.ev ?_;repeat refine Xy ?_
   refine o.U [.x (iZ i),.x (iZ i)] [4] ⟨st,st,yEU⟩ ?_;intro D B l;refine Y5 ?_;refine XE (v:=iZ i) (jH 4 rfl (iZ i) l.av) l.sl.defers ?_;exact⟨_,rfl,l.st.bel.below,by rw[hf]⟩
  ·rw[decide_eq_false A]at z;rw[yET A]at hf;refine d.u (Qs g k c i n b false) [(0,.v (sZ g k c)),(1,.v (.func (.func 110) #[] #[])),(7,.v (iZ k)),(8,.v (iZ i)),(16,.v (.bool false))] ⟨st,st,st,aY rfl 82 12 13 rfl (.v (sZ g k c)) (iZ i) sx sx (λμ w=>atT _ 0 _ _ i r w),eK rfl g (0+37*i) N X5 124 14 rfl (wn n++aA b) rfl sx q uT p,clB (λ_ _=>kR) (λw' _=>z w'),yEU⟩ ?_;intro E F o;repeat refine Xy ?_
   refine X7 o.ev ?_;refine YR ?_;repeat refine Xy ?_
   refine o.U [.x (iZ ((i+1:Nat):Int)),.x (iZ ((i+1:Nat):Int))] [0,1,7,8] ⟨aN rfl .add 3 3 8 (iZ i) (iZ 1) (iZ ((i+1:Nat):Int)) rfl rfl sx (λw=>kR) (vZ i 1 oM oM),st,yEU⟩ ?_;intro D B l;show ∃n',_;exact⟨I,oM,i+1,oM,hf,l⟩
 ·have l:K=0:=oM;rw[l]at hf;unfold kW at hf;repeat refine Xy ?_
  refine u.u (Qt false) [(9,.v (.bool false))] ⟨aO rfl .lss 3 3 8 7 (iZ i) (iZ k) (.bool false) rfl rfl sx sx (λw=>kR) (oC r),yEU⟩ ?_;intro G J f;repeat refine Xy ?_
  refine X7 f.ev ?_;refine wp_exit ?_;dsimp only[Exit.then,yA4];rw[yES rfl];repeat refine Xy ?_
  refine f.U [.x (iZ (-1))] [4] ⟨st,yEU⟩ ?_;intro M L d;refine Y5 ?_;refine XE (v:=iZ (-1)) (jH 4 rfl (iZ (-1)) d.av) d.sl.defers ?_;exact⟨_,rfl,d.st.bel.below,by rw[<-hf]⟩
theorem vE{ns:Nat->Nat}:∀(m i:Nat),(∀j,i<=j->j<i+m->ns j≠0)->kW ns i m = -1
 | 0,_,_=>rfl
 | m+1,i,h=>by
  unfold kW;rw[yET (h i (Xx _) oM)];exact vE m (i+1) (λj k b=>h j oM oM)
theorem Db(g k c:Nat)(u:k<=1000000)(ns:Nat->Nat)(b:Nat->Bs)(q:∀j,j<k->ns j<top)(d:∀j,j<k->ns j≠0)(s:∀j,j<k->(b j).size=33)(w:Xs)(m:g<w.heap.size)(r:∀j,j<k->w.rangeAt g (37*j) (wn (ns j)++aA (b j))):
 XH prog 109 #[sZ g k c,.func (.func 110) #[] #[]] w (rZ w λe w'=>e=(sZ g k c)):=by
 have x:∀w',BelX w.heap.size [] w w'->XH prog 165 #[sZ g k c,.func (.func 110) #[] #[]] w' (Ret λe i=>kZ w' i/\e=iZ (-1)):=λw' n=>by
  have h:=Gy g k c u ns b q s w' (Xz m n.below.size) (λj f=>RG.range_below (r j f) n.below m);rw[vE k 0 (λj _ l=>d j oM)]at h;exact h
 go_enter func109,ntmps109;refine RG.M.enter [(0,.v (sZ g k c)),(1,.v (.func (.func 110) #[] #[]))] 42 kR ?_;intro a0 p;repeat refine Xy ?_
 refine p.U [.x (.slice none 0 0)] [0,1] ⟨st,yEU⟩ ?_;intro y B t;repeat refine Xy ?_
 refine t.U [.x (sZ g k c),.x (.func (.func 110) #[] #[]),.c (iZ (-1)),.x (iZ (-1))] [0,5] ⟨st,st,clB (λ_ _=>kR) x,st,yEU⟩ ?_;intro a2 z o;repeat refine Xy ?_
 refine o.U [.x (iZ (-1)),.x (.bool true)] [0,12] ⟨st,st,yEU⟩ ?_;intro A a l;repeat refine Xy ?_
 refine Yx l.ev ?_;repeat refine Xy ?_
 refine l.U [.x (sZ g k c),.x (sZ g k c)] [4] ⟨st,st,yEU⟩ ?_;intro C D f;refine Y5 ?_;refine XE (v:=(sZ g k c)) (jH 4 rfl _ f.av) f.sl.defers ?_;exact⟨_,rfl,f.st.bel.below,rfl⟩
theorem Tx:prog.underlying 202=some (.map 51 3):=kR
theorem zero3(w:Xs):(zeroValue 3).run prog w=.ok (iZ 0) w:=kR
theorem AM(b:Bs):∀(D:List Bs) (i:Nat),ents (D++[b]) i=ents D i++[{ key:=.agg (aA b).toArray,val:=iZ ((i+D.length:Nat):Int),born:=i+D.length }]
 | [],i=>rfl
 | k :: r,i=>by
  rw[Zx];unfold ents;rw[AM b r (i+1),Yq,show i+1+r.length=i+(r.length+1) by omega];rfl
theorem CS{b:Bs}(d:b.size=33)(D:List Bs)(n:∀k∈D,k.size=33)(m c:Nat)(w:Xs)(l:w.heap[m]? = some (.map (ents D 0).toArray c)):
 (yCV 202 (.map (some m)) (.agg (aA b).toArray) true).run prog w=.ok (.tuple #[iZ (((at? b D 0).getD 0:Nat):Int),.bool (at? b D 0).isSome]) w:=by
 have g:=yAw Tx w;have i:=λe=>GU d e w
 have o:=Gx d D n w;have f:(getObj m).run prog w=.ok (.map (ents D 0).toArray c) w:=by
  simp[getObj,yEp,l]
 unfold yCV;simp only[XT,g,Yu,f,Zj,i,o];cases h:at? b D 0 with
 | none=>simp[XT,zero3]
 | some j=>simp
theorem Na{b:Bs}(d:b.size=33)(D:List Bs)(n:∀k∈D,k.size=33)(m:Nat)(w:Xs)(c:w.heap[m]? = some (.map (ents D 0).toArray D.length))(j:at? b D 0=none):
 (yBF 202 (.map (some m)) (.agg (aA b).toArray) (iZ (D.length:Int))).run prog w=.ok () (w.putObj m (.map (ents (D++[b]) 0).toArray (D.length+1))):=by
 have i:=yAw Tx w;have l:=λe=>GU d e w
 have f:=Gx d D n w;rw[j]at f;have g:(getObj m).run prog w=.ok (.map (ents D 0).toArray D.length) w:=by
  simp[getObj,yEp,c]
 unfold yBF;simp only[XT,i,Yu,g,Zj,l,f];rw[AM,XD];simp[setObj,yEp,c,yCT]
theorem DF:prog.underlying 82=some (.slice 124):=kR
theorem UF:(prog.info? 124).map (λi=>(i.size,i.bytes,i.zero.map λz=>z.cells.size))=some (37,72,some 37):=kR
theorem cells_one(n:Nat)(a:Bs):∀u∈wn n++aA a,u.oneCell'=true:=by
 intro u k;rcases Y3.1 k with h|h
 ·unfold wn at h;simp only[YX,X5,or_false]at h;rcases h with rfl|rfl|rfl|rfl<;>rfl
 ·obtain⟨x,-,rfl⟩:=Yw.1 h;rfl
theorem Mt{b k g n:Nat}{v:Xu}{xs:List Xu}{a:Bs}(s:a.size=33){W:Xs}(c:W.ownsRow b 124 37 v k xs)(hR:Row W g (wn n++aA a))(B:k<=1000000)(m:b<=W.heap.size):
 ∃d W',(YA #[82,82] 82 #[v,sZ g 1 1]).run prog W=.ok d W'/\W'.ownsRow b 124 37 d (k+1) (xs++(wn n++aA a))/\W.grownBy W' v.ownBlock:=by
 obtain⟨i,p,f⟩:=XA.1 UF;simp only[Ze.injEq]at f;obtain⟨t,w,r⟩:=f;obtain⟨z,q,e⟩:=XA.1 r;obtain⟨d,W',l,y,x,-⟩:=yBO (P:=prog) W b 82 82 124 i z 37 72 DF p q t w e dC v k xs c (aZ g) 1 1 (wn n++aA a) (by rw[XC,aB s];rfl)
  (λj u o=>by
   have:=hR.2.1 j u o;rw[XD]at this;rw[show(⟨g,0,none⟩:YW).add j=⟨g,j,none⟩ by unfold yB3;split<;>simp_all];exact this) (cells_one n a) (by unfold maxLen;omega) oM m
 exact⟨d,W',l,y,x⟩
def fR(N:Nat):List (Nat × Bs)->Nat->Bs->List (Nat × Bs)
 | [],n,p=>[(n,p)]
 | (s,q) :: r,n,p=>if p=q then(sPl N s n,q) :: r else(s,q) :: fR N r n p
def mrg(N:Nat)(ns:Nat->Nat)(k:Nat->Bs):Nat->List (Nat × Bs)
 | 0=>[]
 | i+1=>fR N (mrg N ns k i) (ns i) (k i)
def aR(l:List (Nat × Bs)):List Xu:=l.flatMap λx=>wn x.1++aA x.2
theorem Dp{N n:Nat}{p:Bs}:∀ {l:List (Nat × Bs)},at? p (l.map (·.2)) 0=none->fR N l n p=l++[(n,p)]
 | [],_=>rfl
 | (s,q) :: r,h=>by
  have k:=at?_none.1 h;rw[Z6,YX,not_or]at k;unfold fR;rw[yET k.1,Dp (l:=r) (at?_none.2 k.2)];rfl
theorem Dk(l:List (Nat × Bs))(n:Nat)(p:Bs):aR (l++[(n,p)])=aR l++(wn n++aA p):=by
 unfold aR;rw[yB0];simp
structure Mx(w W:Xs)(m:Nat)(l:List (Nat × Bs))(v:Xu):Prop where
 bl:kZ w W
 mp:W.heap[m]? = some (.map (ents (l.map (·.2)) 0).toArray l.length)
 lm:w.heap.size<=m
 ow:W.ownsRow w.heap.size 124 37 v l.length (aR l)
theorem Mx.own_ne{w W:Xs}{m:Nat}{l:List (Nat × Bs)}{v:Xu}(h:Mx w W m l v){g:Nat}(b:v.ownBlock=some g):g≠m/\w.heap.size<=g/\g<W.heap.size:=by
 rcases h.ow.2 with⟨rfl,-⟩|⟨d,cap,cur,rfl,c,k,-⟩
 ·cases b
 ·obtain rfl:d=g:=by simpa[Value.ownBlock]using b
  refine⟨λe=>?_,c,(XY.1 k).1⟩;have:=h.mp;rw[<-e,k]at this;cases this
theorem tP{W W':Xs}{b k:Nat}{e:Yd}{s:Nat}{v:Xu}{xs:List Xu}(h:W.ownsRow b e s v k xs)(d:∀g,v.ownBlock=some g->W'.heap[g]? = W.heap[g]?):W'.ownsRow b e s v k xs:=by
 refine⟨h.1,?_⟩;rcases h.2 with c|⟨g,cap,cur,rfl,f,c,i⟩
 ·exact X9 c
 ·exact X0 ⟨g,cap,cur,rfl,f,by rw[d g rfl];exact c,i⟩
theorem Mx.kept{w W W':Xs}{m:Nat}{l:List (Nat × Bs)}{v:Xu}(h:Mx w W m l v)(k:kZ W W'):Mx w W' m l v:=
 ⟨h.bl.trans (k.mono h.bl.size),by rw[k.block m (XY.1 h.mp).1];exact h.mp,h.lm,tP h.ow λg b=>k.block g (h.own_ne b).2.2⟩
theorem LI(l:List (Nat × Bs))(n:Nat)(p:Bs):(l++[(n,p)]).map (·.2)=l.map (·.2)++[p]:=by simp
theorem Mx.push{w W:Xs}{m:Nat}{l:List (Nat × Bs)}{v:Xu}(h:Mx w W m l v){p:Bs}(E:p.size=33)(D:l.length<=1000000)(n:Nat):
 ∃o b,(YA #[82,82] 82 #[v,sZ W.heap.size 1 1]).run prog ((W.putObj m (.map (ents (l.map (·.2)++[p]) 0).toArray (l.length+1))).alloc (.cells (wn n++aA p).toArray 124))=.ok o b/\Mx w b m (l++[(n,p)]) o/\W.heap.size<b.heap.size/\∀j,j<W.heap.size->w.heap.size<=j->j≠m->some j≠v.ownBlock->b.heap[j]? = W.heap[j]?:=by
 obtain⟨c,d⟩:∃c,W.putObj m (.map (ents (l.map (·.2)++[p]) 0).toArray (l.length+1))=c:=⟨_,rfl⟩
 have s3:c.heap.size=W.heap.size:=by rw[<-d];simp[yCT]
 have s:=(XY.1 h.mp).1;have x:∀j,j≠m->c.heap[j]? = W.heap[j]?:=λj t=>by rw[<-d];exact World.putObj_heap_other t
 have f:=h.bl.trans ⟨by rw[<-d];rfl,by rw[<-d];rfl,by rw[<-d];rfl,oM,λj t=>x j (by have:=h.lm;omega)⟩;have C:=tP h.ow λg r=>x g (h.own_ne r).1
 have A:c.heap[m]? = some (.map (ents (l.map (·.2)++[p]) 0).toArray (l.length+1)):=by rw[<-d];exact World.putObj_heap_same s
 rw[d];have R4:=row_new c (wn n++aA p) 124;have i:=aC c (.cells (wn n++aA p).toArray 124);have s4:(c.alloc (.cells (wn n++aA p).toArray 124)).heap.size=W.heap.size+1:=by rw[XF,s3]
 have B:=tP C λg r=>i.block g (by have:=(h.own_ne r).2.2;omega)
 rw[s3]at R4;obtain⟨o,b,a,F,q⟩:=Mt E B R4 D (by have:=f.size;omega);have u:some m≠v.ownBlock:=λe=>(h.own_ne e.symm).1 rfl
 refine⟨o,b,a,⟨?_,?_,h.lm,?_⟩,by have:=q.size;omega,λj t _ z y=>?_⟩
 ·exact(f.trans (i.mono f.size)).grown q (by have:=f.size;omega) (λk e=>(h.own_ne e).2.1)
 ·rw[q.block m oM u,i.block m oM,A,LI,XC];rfl
 ·rw[Dk,XC];exact F
 ·rw[q.block j oM y,i.block j oM,x j z]
end
section
variable {N:Nat}
section
variable {P:YG}{ops:Array Yo}{rest:List Yo}{op:Yo}{a:Act}{w w':Xs}{v x y z:Xu}{Q:yAL->Act->Xs->Prop}
theorem Af(b:op.guard=none)(T:Yd)(m k:yAf)(ok:Bool)(ho:op.op=.lookup T m k ok)(e:a.eval m=x)(c:a.eval k=y)(f:(yCV T x y ok).run P w=.ok v w')(h:wpList P ops Q rest (a.put op.dst v) w'):wpList P ops Q (op :: rest) a w:=
 ZH b λK d=>by
  unfold YV Yb;simp only[ho,e,c,XT,f,Yu,Zj];exact d _ _ h
theorem Hx(b:op.guard=none)(T:Yd)(m k u:yAf)(ho:op.op=.mapUpdate T m k u)(f:a.eval m=x)(c:a.eval k=y)(e:a.eval u=z)(g:(yBF T x y z).run P w=.ok () w')(h:wpList P ops Q rest (a.put op.dst Zp) w'):wpList P ops Q (op :: rest) a w:=
 ZH b λK d=>by
  unfold YV Yb;simp only[ho,f,c,e,XT,g,Yu,Zj];exact d _ _ h
theorem mF(k:op.guard=none)(s u:yAf)(t:Yd)(ho:op.op=.call { callee:=.builtin .append,args:=#[s,u],argTypes:=#[t,t] })(d:a.eval s=x)(c:a.eval u=y)(e:(YA #[t,t] op.type #[x,y]).run P w=.ok v w')(h:wpList P ops Q rest (a.put op.dst v) w'):wpList P ops Q (op :: rest) a w:=
 ZH k λK b=>by
  unfold YV Yb;simp only[ho,resolve,invoke,builtin,XT,Zj,Yu,yDE,Z6,yCn,d,c,e];exact b _ _ h
end
def zT:List Xu:=[uZ 0,uZ 0,uZ 0,uZ 0]++z33
theorem Ik{W:Xs}{b k:Nat}{e:Yd}{s:Nat}{v:Xu}{xs:List Xu}(h:W.ownsRow b e s v k xs):∃q cap,v=.slice q k cap:=by
 rcases h.2 with⟨rfl,rfl⟩|⟨g,cap,cur,rfl,-⟩
 ·exact⟨none,0,rfl⟩
 ·exact⟨some (aZ g),cap,rfl⟩
theorem BA(ns:Nat->Nat)(k:Nat->Bs):∀i,(mrg N ns k i).length<=i
 | 0=>Xx _
 | i+1=>by
  have b:=BA ns k i;have h:∀(l:List (Nat × Bs)) n p,(fR N l n p).length<=l.length+1:=by
   intro l n p;induction l with
   | nil=>exact Xx _
   | cons x r ihr =>
    unfold fR;split
    ·simp
    ·simp only[Yq];omega
  exact XB (h _ _ _) oM
theorem yG(ns:Nat->Nat)(c:Nat->Bs){k:Nat}(d:∀j,j<k->(c j).size=33):∀i,i<=k->∀x∈(mrg N ns c i).map (·.2),x.size=33
 | 0,_=>λx hx=>by cases hx
 | i+1,hi=>by
  have e:=yG ns c d i oM;have h:∀(l:List (Nat × Bs)) n p,p.size=33->(∀x∈l.map (·.2),x.size=33)->∀x∈(fR N l n p).map (·.2),x.size=33:=by
   intro l n p g;induction l with
   | nil=>intro _ x hx;simp[fR]at hx;rw[hx];exact g
   | cons y r ihr =>
    intro b x hx;unfold fR at hx;split at hx
    ·exact b x (by simpa using hx)
    ·rw[Z6,YX]at hx;rcases hx with hx|hx
     ·exact b x (by rw[hx];simp)
     ·exact ihr (λz f=>b z (Ym _ f)) x hx
  exact h _ _ _ (d i oM) e
theorem lY:∀(l:List (Nat × Bs)),(∀x∈l.map (·.2),x.size=33)->∀(j:Nat) (k:j<l.length) (t:Nat),t<37->(aR l)[37*j+t]? = (wn (l[j]).1++aA (l[j]).2)[t]?
 | [],_,j,k,_,_=>by cases k
 | x :: r,hs,j,k,t,ht=>by
  have hx:(wn x.1++aA x.2).length=37:=by rw[XC,aB (hs x.2 (by simp))];rfl
  have e:aR (x :: r)=(wn x.1++aA x.2)++aR r:=by unfold aR;rw[yB9]
  rw[e];cases j with
  | zero =>
   rw[yCu,XD,XQ oM];rfl
  | succ j =>
   rw[XR oM,hx,show 37*(j+1)+t-37=37*j+t by omega,lY r (λy b=>hs y (Ym _ b)) j (by simpa using k) t ht];rfl
theorem tO{W:Xs}{k:Nat}{v:Xu}{l:List (Nat × Bs)}(h:W.ownsRow k 124 37 v l.length (aR l))(f:∀x∈l.map (·.2),x.size=33)(p:0<l.length):
 ∃g cap,v=sZ g l.length cap/\k<=g/\g<W.heap.size/\∀j (b:j<l.length),W.rangeAt g (37*j) (wn (l[j]).1++aA (l[j]).2):=by
 have n:=h;rcases h.2 with⟨-,i⟩|⟨g,cap,cur,rfl,o,i,q⟩
 ·omega
 ·refine⟨g,cap,rfl,o,(XY.1 i).1,λj b t u d=>?_⟩;have m:t<37:=by
   have:=(XG.1 d).1;rw[XC,aB (f _ (Yw.2 ⟨_,YL b,rfl⟩))]at this;exact this
  have c:=n.cells (g:=g) rfl (37*j+t) u (by rw[lY l f j b t m];exact d);have e:(⟨g,0,none⟩:YW).add (37*j+t)=⟨g,37*j+t,none⟩:=by
   unfold yB3;split
   ·rename_i h;rw[h]
   ·simp
  rw[e]at c;exact c
end
section
variable {P:Nat}[NeZero P]{N:Nat}
theorem Qv(w:Xs):(zeroValue 124).run prog w=.ok (.agg zT.toArray) w:=kR
theorem Qw:∀v∈zT,v.oneCell'=true:=by
 intro v hv;unfold zT z33 at hv;rcases Y3.1 hv with h|h
 ·simp only[YX,X5,or_false]at h;rcases h with rfl|rfl|rfl|rfl<;>rfl
 ·rw[(List.mem_replicate.1 h).2];rfl
end
namespace RG
variable {P:YG}{ops:Array Yo}{Q:yAL->Act->Xs->Prop}{w:Xs}{a0:Act}{L:Array Bool}
structure Flow where
 R:Nat->Xu->Xs->Prop
 B:Nat->Xs->Prop
 E:Nat->Xs->Xs->Prop
 kill:Nat->List Nat
 killB:Nat->List Nat
def aV(k:Array Yo)(i:Nat):Option Zs:=(k[i]?).bind (·.dst)
def depOn(b:Array Yo)(x k:Nat):Bool:=match b[x]? with|some o=>cQ o k|none=>true
def okK(b:Array Yo)(k:Nat)(l:List Nat):Bool:=l.all (λx=>x == k || depOn b x k)
def qG(b:Array Yo)(k:Nat)(t:Zs):Bool:=(Yt b.size).all (λi=>aV b i != some t || i == k || depOn b i k)
structure InvF(F:Flow)(ops:Array Yo)(a0:Act)(L:Array Bool)(a:Act)(w:Xs):Prop where
 size:L.size=ops.size
 cl:∀(i:Nat) (o:Yo),ops[i]? = some o->on L i=true->∀e∈o.after,YT .any e=true->on L e.on=true
 def':a.defers=a0.defers
 sz:a.tmps.size=a0.tmps.size
 rest:∀t:Zs,(∀i,on L i=true->aV ops i≠some t)->a.tmps[t]? = a0.tmps[t]?
 all:∃V:Nat->Xu,(∀i d,on L i=true->aV ops i=some d->a.tmps[d]? = some (V i))/\(∀i,on L i=true->(∀x∈F.kill i,on L x=false)->F.R i (V i) w)
 base:∀b,(∀x∈F.killB b,on L x=false)->F.B b w
def bE(P:YG)(Q:yAL->Act->Xs->Prop)(F:Flow)(c:Array Yo)(a0:Act)(k:Nat)(o:Yo):Prop:=
 ∀(a:Act) (w:Xs) (K:Act->Xs->Prop),
  (∀j d,cQ o j=true->okK c k (F.kill j)=true->aV c j=some d->F.R j (a.eval (.tmp d)) w) ->
  (∀t,qG c k t=true->a.eval (.tmp t)=a0.eval (.tmp t)) ->
  (∀b,okK c k (F.killB b)=true->F.B b w) ->
  (∀v w',F.E k w w'->F.R k v w'->K (a.put o.dst v) w')->o.wp P a w K Q
def AZ(P:YG)(Q:yAL->Act->Xs->Prop)(F:Flow)(b:Array Yo)(a0:Act)(k:Nat)(o:Yo):Prop:=
 match o.guard with
 | none=>bE P Q F b a0 k o
 | some (j,want)=>cQ o j=true/\(aV b j).isSome=true/\okK b k (F.kill j)=true /\
  (((∀v w,F.R j v w->v=.bool want)/\bE P Q F b a0 k o)\/((∀v w,F.R j v w->v=.bool (!want))/\∀w,F.E k w w/\F.R k Zp w))
def BQ(k:Array Yo)(n:Nat):Bool:=
 (Yt k.size).all (λi=>match k[i]? with
  | some o=>o.after.all (λe=>!YT .any e || e.on<i) && (match o.dst with|none=>true|some d=>decide (d<n) && (Yt k.size).all (λj=>j == i || aV k j != some d))
  | none=>false)
structure RegF(P:YG)(Q:yAL->Act->Xs->Prop)(F:Flow)(ops:Array Yo)(a0:Act)(m:Nat):Prop where
 chk:BQ ops a0.tmps.size=true
 cert:∀k o,k<m->ops[k]? = some o->AZ P Q F ops a0 k o
 stab:∀i j,i<m->j<m->i≠j->(F.kill j).contains i=false->depOn ops j i=false->∀v w w',F.E i w w'->F.R j v w->F.R j v w'
 stabB:∀i b,i<m->(F.killB b).contains i=false->∀w w',F.E i w w'->F.B b w->F.B b w'
variable {F:Flow}{m:Nat}
theorem RegF.of{k:Nat}{o:Yo}(h:RegF P Q F ops a0 m)(ho:ops[k]? = some o):(∀e∈o.after,YT .any e=true->e.on<k)/\∀d,o.dst=some d->d<a0.tmps.size/\∀j,aV ops j=some d->j=k:=by
 have i:=(XY.1 ho).1;have f:=Yj.1 h.chk k (YZ.2 i);rw[ho]at f;simp only[XO]at f;obtain⟨l,c⟩:=f;refine⟨λe p n=>?_,λd hd=>?_⟩
 ·have:=ZF.1 l e p;simpa[n]using this
 ·rw[hd]at c;simp only[XO,decide_eq_true_eq]at c;refine⟨c.1,λj b=>?_⟩;have g:j<ops.size:=by
   unfold aV at b;cases hx:ops[j]? with
   | none=>rw[hx]at b;cases b
   | some x=>exact(XY.1 hx).1
  have:=Yj.1 c.2 j (YZ.2 g);simpa[b]using this
theorem fM{i:Nat}{o:Yo}(ho:ops[i]? = some o):aV ops i=o.dst:=by unfold aV;rw[ho];rfl
theorem BO{a:Act}{x k:Nat}{o:Yo}(h:InvF F ops a0 L a w){ho:ops[x]? = some o}(hd:cQ o k=true)(hx:on L x=true):on L k=true:=by
 obtain⟨e,c,b⟩:=yAr.1 hd;simp only[XO,beq_iff_eq]at b;rw[<-b.2];exact h.cl x o ho hx e c b.1
theorem AB{L:Array Bool}{x:Nat}(h:on L x=true):x<L.size:=by
 rcases Zq x L.size with k|k
 ·exact k
 ·unfold on at h;rw[XI,Array.getElem?_eq_none k]at h;cases h
theorem InvF.nt{k:Nat}{a:Act}(e:on L k=false)(h:InvF F ops a0 L a w)(x:Nat)(hx:(x == k || depOn ops x k)=true):on L x=false:=by
 cases b:on L x with
 | false=>rfl
 | true =>
  rcases Z1 _ _ ▸ hx with c|c
  ·rw[show x=k by simpa using c,e]at b;cases b
  ·unfold depOn at c;have f:x<ops.size:=by rw[<-h.size];exact AB b
   have d:=X4 f;rw[d]at c;have:=BO (ho:=d) h c b;rw[e]at this;cases this
theorem InvF.nx{k:Nat}{o:Yo}{a:Act}{v:Xu}{w':Xs}(R:RegF P Q F ops a0 m)(q:k<m)(J:∀i,on L i=true->i<m)(ho:ops[k]? = some o)(I:on L k=false)(B:∀e∈o.after,YT .any e=true->on L e.on=true)(h:InvF F ops a0 L a w)(hE:F.E k w w')(hR:F.R k v w'):InvF F ops a0 (L.setIfInBounds k true) (a.put o.dst v) w':=by
 obtain⟨G,n⟩:=R.of ho;have K:=(XY.1 ho).1;have C:k<L.size:=by rw[h.size];exact K
 have z:=fM ho;have y:=λx hx=>h.nt I x hx
 obtain⟨V,E,D⟩:=h.all;have f:∀x,on (L.setIfInBounds k true) x=(on L x || k == x):=λx=>eD C
 refine⟨by rw[YJ];exact h.size,λi O p j e N s=>?_,?_,?_,λt M=>?_,⟨λx=>if x=k then v else V x,λi d j hd=>?_,λi j u=>?_⟩,λb s=>?_⟩
 ·rw[f]at j⊢;by_cases c:k=i
  ·subst c;rw[ho]at p;obtain rfl:=XS.inj p;rw[B e N s,yAI]
  ·rw[h.cl i O p (by simpa[c]using j) e N s,yAI]
 ·rw[<-h.def'];cases o.dst<;>rfl
 ·rw[rH];exact h.sz
 ·have A:o.dst≠some t:=λhd=>M k (by rw[f];simp) (by rw[z];exact hd)
  rw[oW a v A];exact h.rest t λi j=>M i (by rw[f,j,yAI])
 ·rw[f]at j;by_cases c:i=k
  ·subst c;rw[z]at hd;rw[hd];show(a.tmps.setIfInBounds d v)[d]? = some (if i=i then v else V i);rw[yES (rfl:i=i)];rw[Zv,yES rfl,yES (by rw[h.sz];exact(n d hd).1)]
  ·have r:o.dst≠some d:=λl=>c ((n d l).2 i hd)
   rw[oW a v r];show _=some (if i=k then v else V i);rw[yET c];have g:¬k=i:=λe=>c e.symm
   exact E i d (by simpa[g]using j) hd
 ·rw[f]at j;by_cases c:i=k
  ·subst c;show F.R i (if i=i then v else V i) w';rw[yES rfl];exact hR
  ·show F.R i (if i=k then v else V i) w';rw[yET c];have g:¬k=i:=λe=>c e.symm
   have l:on L i=true:=by simpa[g]using j
   have A:∀x∈F.kill i,on L x=false:=λx hx=>by
    have:=u x hx;rw[f,yC9]at this;exact this.1
   have H:(F.kill i).contains k=false:=by
    cases r:(F.kill i).contains k with
    | false=>rfl
    | true =>
     have:=u k (by simpa using r);rw[f]at this;simp at this
   have S:depOn ops i k=false:=by
    cases r:depOn ops i k with
    | false=>rfl
    | true=>rw[y i (by rw[r,Bool.or_true])]at l;cases l
   exact R.stab k i q (J i l) (Ne.symm c) H S _ _ _ hE (D i l A)
 ·have A:∀x∈F.killB b,on L x=false:=λx hx=>by
   have:=s x hx;rw[f,yC9]at this;exact this.1
  have H:(F.killB b).contains k=false:=by
   cases r:(F.killB b).contains k with
   | false=>rfl
   | true =>
    have:=s k (by simpa using r);rw[f]at this;simp at this
  exact R.stabB k b q H _ _ hE (h.base b A)
theorem FM{k:Nat}{o:Yo}{a:Act}(R:RegF P Q F ops a0 m)(z:k<m)(S:∀i,on L i=true->i<m)(ho:ops[k]? = some o)(D:on L k=false)(r:∀e∈o.after,YT .any e=true->on L e.on=true)(h:InvF F ops a0 L a w):
 wpOp P ops Q k (InvF F ops a0 (L.setIfInBounds k true)) a w:=by
 obtain⟨O,W⟩:=R.of ho;have T:=(XY.1 ho).1;have Y:k<L.size:=by rw[h.size];exact T
 have h0:=fM ho;have n:=λx hx=>h.nt D x hx
 obtain⟨V,J,H⟩:=h.all;have u:∀j d,cQ o j=true->okK ops k (F.kill j)=true->aV ops j=some d->a.tmps[d]? = some (V j)/\F.R j (V j) w:=λj d G q hd=>by
  obtain⟨e,f,s⟩:=yAr.1 G;simp only[XO,beq_iff_eq]at s;have c:on L j=true:=by rw[<-s.2];exact r e f s.1
  exact⟨J j d c hd,H j c λx hx=>n x (Yj.1 q x hx)⟩
 have l:∀j d,cQ o j=true->okK ops k (F.kill j)=true->aV ops j=some d->F.R j (a.eval (.tmp d)) w:=λj d G q hd=>by
  rw[BK (u j d G q hd).1];exact(u j d G q hd).2
 have g:∀t,qG ops k t=true->a.eval (.tmp t)=a0.eval (.tmp t):=λt hf=>by
  have A:=h.rest t λi f hd=>by
   have c:i<ops.size:=by rw[<-h.size];exact AB f
   have p:=Yj.1 hf i (YZ.2 c);rw[hd]at p;have y:(i == k || depOn ops i k)=true:=by simpa using p
   rw[n i y]at f;cases f
  show a.tmps.getD t Zp=a0.tmps.getD t Zp;rw[XI,XI,A]
 have p:∀b,okK ops k (F.killB b)=true->F.B b w:=λb s=>h.base b λx hx=>n x (Yj.1 s x hx)
 have f:=λv w' hE hR=>h.nx (v:=v) (w':=w') R z S ho D r hE hR
 have C:=R.cert k o z ho;unfold AZ at C;unfold wpOp;rw[ho];dsimp only;cases E:o.guard with
 | none =>
  rw[E]at C;rw[Ce E,yES rfl];left;exact C a w _ l g p f
 | some jw =>
  obtain⟨j,c⟩:=jw;rw[E]at C;obtain⟨I,K,N,y⟩:=C;obtain⟨d,hd⟩:=YB.1 K;obtain⟨Z,B⟩:=u j d I N hd;have U:∀b,V j=.bool b->YS o (yielded ops a.tmps)=(b == c):=λb s=>by
   have M:yielded ops a.tmps j=some b:=by
    unfold aV at hd;unfold yielded;cases A:ops[j]? with
    | none=>rw[A]at hd;cases hd
    | some oj =>
     rw[A]at hd;show(match oj.dst.bind (a.tmps[·]?) with|some (.bool b)=>some b|_=>none)=_;rw[show oj.dst=some d from hd];show(match a.tmps[d]? with|some (.bool b)=>some b|_=>none)=_;rw[Z,s]
   unfold YS;rw[E];show(yielded ops a.tmps j == some c)=_;rw[M];cases b<;>cases c<;>rfl
  rcases y with⟨M,X⟩|⟨M,A⟩
  ·rw[U _ (M _ _ B),show(c == c)=true by cases c<;>rfl,yES rfl];left;exact X a w _ l g p f
  ·rw[U _ (M _ _ B),show((!c) == c)=false by cases c<;>rfl];exact f Zp w (A w).1 (A w).2
def bY(V:Nat->Xu):List Yo->Nat->Act->Act
 | [],_,a=>a
 | o :: r,i,a=>bY V r (i+1) (a.put o.dst (V i))
theorem nX(V:Nat->Xu):∀(l:List Yo) (i:Nat) (a:Act),(bY V l i a).defers=a.defers
 | [],_,_=>rfl
 | o :: r,i,a=>by
  rw[bY,nX V r];cases o.dst<;>rfl
theorem mR(V:Nat->Xu):∀(l:List Yo) (i:Nat) (a:Act) (t:Zs),(∀o∈l,o.dst≠some t)->(bY V l i a).tmps[t]? = a.tmps[t]?
 | [],_,_,_,_=>rfl
 | o :: r,i,a,t,h=>by
  rw[bY,mR V r _ _ t (λx hx=>h x (Ym _ hx)),oW a _ (h o YC)]
theorem tI(V:Nat->Xu):∀(l:List Yo) (i:Nat) (a:Act) (j:Nat) (o:Yo) (d:Zs),l[j]? = some o->o.dst=some d->(∀k b,l[k]? = some b->b.dst=some d->k=j)->d<a.tmps.size->(bY V l i a).tmps[d]? = some (V (i+j))
 | [],_,_,_,_,_,h,_,_,_=>by simp at h
 | x :: r,i,a,0,o,d,h,hd,hu,hs=>by
  obtain rfl:x=o:=by simpa using h
  rw[bY,mR V r _ _ d (λy f e=>by
   obtain⟨k,c⟩:=Zz f;have:=hu (k+1) y (by simpa using c) e;omega),hd]
  show(a.tmps.setIfInBounds d _)[d]? = _;rw[Zv,yES rfl,yES hs];rfl
 | x :: r,i,a,j+1,o,d,h,hd,hu,hs=>by
  rw[bY,tI V r (i+1) _ j o d (by simpa using h) hd (λk b e c=>by
   have:=hu (k+1) b (by simpa using e) c;omega) (by rw[rH];exact hs)]
  congr 2
  omega
theorem InvF.done{a:Act}(R:RegF P Q F ops a0 m)(h:InvF F ops a0 L a w)(k:∀i,i<ops.size->on L i=true)
 (n:∀(V:Nat->Xu),(∀i,i<ops.size->F.kill i=[]->F.R i (V i) w)->(∀b,F.killB b=[]->F.B b w)->Q .normal (bY V ops.toList 0 a0) w):Q .normal a w:=by
 obtain⟨V,g,j⟩:=h.all;have e:a=bY V ops.toList 0 a0:=by
  refine Act.ext' ?_ (by rw[nX];exact h.def');apply yDk;intro t;by_cases f:∃(i:Nat) (o:Yo),ops[i]? = some o/\o.dst=some t
  ·obtain⟨i,o,ho,hd⟩:=f;rw[g i t (k i (XY.1 ho).1) (by rw[fM ho];exact hd)];rw[tI V ops.toList 0 a0 i o t (by rw[Yz];exact ho) hd (λl p c d=>((R.of ho).2 t hd).2 l (by rw[Yz]at c;rw[fM c];exact d)) ((R.of ho).2 t hd).1,XD]
  ·rw[h.rest t (λi c hd=>?_),mR V ops.toList 0 a0 t (λo d hd=>?_)]
   ·obtain⟨i,c⟩:=Zz d;rw[Yz]at c;exact f ⟨i,o,c,hd⟩
   ·unfold aV at hd;cases hx:ops[i]? with
    | none=>rw[hx]at hd;cases hd
    | some x=>rw[hx]at hd;exact f ⟨i,x,hx,hd⟩
 rw[e];exact n V (λi c f=>j i (k i c) (by rw[f];simp)) (λb d=>h.base b (by rw[d];simp))
theorem InvF.full{a:Act}(R:RegF P Q F ops a0 m)(h:InvF F ops a0 L a w)(d:Yf .any ops L=[]):∀i,i<ops.size->on L i=true:=by
 intro i;induction i using Nat.strongRecOn with
 | ind i ih =>
  intro c;have ho:ops[i]? = some ops[i]:=X4 _;cases k:on L i with
  | true=>rfl
  | false =>
   have:i∈Yf .any ops L:=mem_ready.2 ⟨?_,_,ho,λe g f=>?_⟩
   ·rw[d]at this;cases this
   ·unfold on at k;rw[XI,X4 (by rw[h.size];exact c)]at k⊢;exact k
   ·have b:=(R.of ho).1 e g f;exact ih e.on b (Nat.lt_trans b c)
theorem qV{id:Nat}(F:Flow)(q:P.follows .mixedOrders=true)(R:RegF P Q F ops a0 ops.size)(p:∀b,F.B b w.drew)
 (n:∀(V:Nat->Xu) (w':Xs),(∀i,i<ops.size->F.kill i=[]->F.R i (V i) w')->(∀b,F.killB b=[]->F.B b w')->Q .normal (bY V ops.toList 0 a0) w'):(Zd id ops true).wp P Q a0 w:=by
 have key:∀(c:Nat) (L:Array Bool) (a:Act) (w:Xs),unl L=c->InvF F ops a0 L a w->wpAny P .any ops Q c L a w:=by
  intro c;induction c with
  | zero =>
   intro L a w m g;have k:∀i,i<ops.size->on L i=true:=λi f=>kY m i (by rw[g.size];exact f)
   refine⟨?_,g.done R k (λV=>n V w)⟩;apply yCp.2;intro i f;obtain⟨e,o,ho,-⟩:=mem_ready.1 f;have j:=k i (XY.1 ho).1;unfold on at j;rw[XI]at e j;cases hh:L[i]? with
   | none=>rw[hh]at e;cases e
   | some b=>rw[hh]at e j;rw[show b=false from e]at j;cases j
  | succ c ih =>
   intro L a w m g;refine⟨λr=>g.done R (g.full R r) (λV=>n V w),λi f=>?_⟩;obtain⟨e,o,ho,j⟩:=mem_ready.1 f;have k:on L i=false:=by
    unfold on;rw[XI]at e⊢;cases hh:L[i]? with
    | none=>rfl
    | some b=>rw[hh]at e;exact e
   exact yCa (λs w' l=>ih _ s w' (by have:=mH e;omega) l) (FM R (XY.1 ho).1 (λi f=>by rw[<-g.size];exact AB f) ho k j g)
 have k:∀i,on (XL ops.size false) i=false:=λi=>by
  unfold on;rw[XI,yAQ];by_cases h:i<ops.size
  ·rw[yES h];rfl
  ·rw[yET h];rfl
 refine yEJ q (key _ _ a0 _ ?_ ⟨XU,(λi o _ h=>by rw[k]at h;cases h),rfl,rfl,λ_ _=>rfl,⟨λ_=>Zp,λi d h=>(by rw[k]at h;cases h),λi h=>(by rw[k]at h;cases h)⟩,λb _=>p b⟩);unfold unl;rw[yBG,yC3];simp
structure PreF(F:Flow)(ops:Array Yo)(a0:Act)(k:Nat)(o:Yo)(a:Act)(w:Xs):Prop where
 n:∀j d,cQ o j=true->okK ops k (F.kill j)=true->aV ops j=some d->F.R j (a.eval (.tmp d)) w
 o:∀t,qG ops k t=true->a.eval (.tmp t)=a0.eval (.tmp t)
 b:∀b,okK ops k (F.killB b)=true->F.B b w
def iY(P:YG)(Q:yAL->Act->Xs->Prop)(F:Flow)(b:Array Yo)(a0:Act):Nat->List Yo->Prop
 | _,[]=>True
 | k,o :: r=>AZ P Q F b a0 k o/\iY P Q F b a0 (k+1) r
theorem zI:∀(l:List Yo) (i:Nat),iY P Q F ops a0 i l->∀k o,l[k]? = some o->AZ P Q F ops a0 (i+k) o
 | [],_,_,k,o,h=>by simp at h
 | x :: r,i,hc,0,o,h=>by
  obtain rfl:x=o:=by simpa using h
  exact hc.1
 | x :: r,i,hc,k+1,o,h=>by
  have:=zI r (i+1) hc.2 k o (by simpa using h);rwa[show i+1+k=i+(k+1) by omega]at this
theorem Dg(h:iY P Q F ops a0 0 ops.toList):∀k o,k<ops.size->ops[k]? = some o->AZ P Q F ops a0 k o:=λk o _ ho=>by
 have:=zI ops.toList 0 h k o (by rw[Yz];exact ho);rwa[XD]at this
def evo(ev:Zs->Xu):yAf->Xu
 | .tmp t=>ev t
 | .const v=>v
 | .global g=>jZ g
 | .func f=>.func (.func f) #[] #[]
def cN(T:List Zs)(o:Yo):Bool:=
 (match o.op with | .select _ _=>false|_=>true) && o.op.operands.all (λx=>match x with | .tmp t=>T.contains t|_=>true)
theorem jE{a:Act}{o:Yo}(ev:Zs->Xu)(T:List Zs)(h:cN T o=true)(k:∀t∈T,a.eval (.tmp t)=ev t):Yb a.eval o=Yb (evo ev) o:=by
 simp only[cN,XO]at h;refine execOp_congr o (λcs b k=>?_) (λx hx=>?_)
 ·rw[k]at h;exact absurd h.1 (by simp)
 ·have c:=ZF.1 h.2 x hx;cases x with
  | tmp t=>exact k t (by simpa using c)
  | const v=>rfl
  | global g=>rfl
  | func f=>rfl
theorem nA{k:Nat}{o:Yo}(h:∀(a:Act) (w:Xs),PreF F ops a0 k o a w->∃v w',(Yb a.eval o).run P w=.ok (.value v) w'/\F.E k w w'/\F.R k v w'):bE P Q F ops a0 k o:=by
 intro a w K b d f c;obtain⟨v,w',e,hE,hR⟩:=h a w ⟨b,d,f⟩;unfold YV;rw[e];exact c v w' hE hR
theorem nC{k:Nat}{o:Yo}(t:Zs)(h:∀(a:Act) (w:Xs),PreF F ops a0 k o a w->∃v w',(cN [t] o=true)/\(Yb (evo λ_=>a.eval (.tmp t)) o).run P w=.ok (.value v) w'/\F.E k w w'/\F.R k v w'):bE P Q F ops a0 k o:=by
 refine nA λa w c=>?_
 obtain⟨v,w',b,d,hE⟩:=h a w c;refine⟨v,w',?_,hE⟩;rw[jE (λ_=>a.eval (.tmp t)) [t] b (λx hx=>by rw[show x=t by simpa using hx])];exact d
theorem GX{k:Nat}{o:Yo}(t:Zs)(h:∀(a:Act) (w:Xs),PreF F ops a0 k o a w->∃f args,(cN [t] o=true)/\(Yb (evo λ_=>a.eval (.tmp t)) o).run P w=.ok (.enter f args) w/\XH P f args w (Ret λe w'=>F.E k w w'/\F.R k e w')):bE P Q F ops a0 k o:=by
 intro a w K i l d j;obtain⟨f,args,g,c,b⟩:=h a w ⟨i,l,d⟩;unfold YV;rw[jE (λ_=>a.eval (.tmp t)) [t] g (λx hx=>by rw[show x=t by simpa using hx]),c,ZI];refine b.mono ?_;rintro e w' ⟨v,rfl,hE,hR⟩;exact j _ _ hE hR
theorem BS{k:Nat}{o:Yo}(T:Yd)(t:Zs)(ho:o.op=.load T (.tmp t))(b:(P.underlying T).map (·.isRow)=some true)
 (h:∀(a:Act) (w:Xs),PreF F ops a0 k o a w->∃g off cs,a.eval (.tmp t)=oZ g off/\w.rangeAt g off cs/\(P.info? T).map (·.size)=some cs.length/\F.E k w w/\F.R k (.agg cs.toArray) w):bE P Q F ops a0 k o:=by
 intro a w K i l f j;obtain⟨g,off,cs,m,e,c,hE,hR⟩:=h a w ⟨i,l,f⟩;obtain⟨d,b,hd⟩:=XA.1 b;exact wp_load_mid T (.tmp t) ho g off m cs d e b hd c (j _ _ hE hR)
theorem LZ{k:Nat}{o:Yo}(s u:Zs)(t:Yd)(ho:o.op=.call { callee:=.builtin .append,args:=#[.tmp s,.tmp u],argTypes:=#[t,t] })
 (h:∀(a:Act) (w:Xs),PreF F ops a0 k o a w->∃v w',(YA #[t,t] o.type #[a.eval (.tmp s),a.eval (.tmp u)]).run P w=.ok v w'/\F.E k w w'/\F.R k v w'):bE P Q F ops a0 k o:=by
 intro a w K d f c e;obtain⟨v,w',b,hE,hR⟩:=h a w ⟨d,f,c⟩;unfold YV Yb;simp only[ho,resolve,invoke,builtin,XT,Zj,Yu,yDE,Z6,yCn,b];exact e _ _ hE hR
theorem uF(h:iY P Q F ops a0 0 (ops.toList.take m)):∀k o,k<m->ops[k]? = some o->AZ P Q F ops a0 k o:=λk o b ho=>by
 have:=zI (ops.toList.take m) 0 h k o (by rw[Zt,yES b,Yz];exact ho);rwa[XD]at this
theorem InvF.act{a:Act}(R:RegF P Q F ops a0 m)(h:InvF F ops a0 L a w)(l:m<=ops.size)(c:∀i,on L i=true↔i<m){V:Nat->Xu}(g:∀i d,on L i=true->aV ops i=some d->a.tmps[d]? = some (V i)):a=bY V (ops.toList.take m) 0 a0:=by
 refine Act.ext' ?_ (by rw[nX];exact h.def');apply yDk;intro t;by_cases f:∃(i:Nat) (o:Yo),i<m/\ops[i]? = some o/\o.dst=some t
 ·obtain⟨i,o,b,ho,hd⟩:=f;rw[g i t ((c i).2 b) (by rw[fM ho];exact hd)];rw[tI V (ops.toList.take m) 0 a0 i o t (by rw[Zt,yES b,Yz];exact ho) hd (λj n k e=>((R.of ho).2 t hd).2 j (by
   rw[Zt]at k;split at k
   ·rw[Yz]at k;rw[fM k];exact e
   ·cases k)) ((R.of ho).2 t hd).1,XD]
 ·rw[h.rest t (λi k hd=>?_),mR V (ops.toList.take m) 0 a0 t (λo e hd=>?_)]
  ·obtain⟨i,k⟩:=Zz e;rw[Zt]at k;split at k
   ·rename_i b
    rw[Yz]at k;exact f ⟨i,o,b,k,hd⟩
   ·cases k
  ·unfold aV at hd;cases hx:ops[i]? with
   | none=>rw[hx]at hd;cases hd
   | some x=>rw[hx]at hd;exact f ⟨i,x,(c i).1 k,hx,hd⟩
theorem Iz{id:Nat}(F:Flow)(n:Nat)(S:ops.size=n+1)(hd:(Yt n).all (λj=>depOn ops n j || (Yt n).any (λi=>depOn ops n i && depOn ops i j))=true)(U:P.follows .mixedOrders=true)(R:RegF P Q F ops a0 n)(O:∀b,F.B b w.drew)
 (Y:∀(V:Nat->Xu) (w':Xs),(∀i,i<n->F.kill i=[]->F.R i (V i) w')->(∀b,F.killB b=[]->F.B b w')->wpList P ops Q (ops.toList.drop n) (bY V (ops.toList.take n) 0 a0) w'):(Zd id ops true).wp P Q a0 w:=by
 have key:∀(c:Nat) (L:Array Bool) (a:Act) (w:Xs),unl L=c->on L n=false->InvF F ops a0 L a w->wpAny P .any ops Q c L a w:=by
  intro c;induction c with
  | zero =>
   intro L a w K k p;have:=kY K n (by rw[p.size];omega);rw[k]at this;cases this
  | succ c ih =>
   intro L a w K k p;refine⟨λB=>?_,λi T=>?_⟩
   ·have:=p.full R B n oM;rw[k]at this;cases this
   ·obtain⟨r,o,ho,t⟩:=mem_ready.1 T;have D:=(XY.1 ho).1;have J:on L i=false:=by
     unfold on;rw[XI]at r⊢;cases hh:L[i]? with
     | none=>rfl
     | some b=>rw[hh]at r;exact r
    by_cases y:i=n
    ·subst y;have q:∀j,on L j=true↔j<i:=λj=>by
      constructor
      ·intro m;have g:j<ops.size:=by rw[<-p.size];exact AB m
       rcases Zq j i with h|h
       ·exact h
       ·obtain rfl:j=i:=oM;rw[k]at m;cases m
      ·intro m;have s:∀j,depOn ops i j=true->on L j=true:=λj g=>by
        unfold depOn at g;rw[ho]at g;obtain⟨e,u,v⟩:=yAr.1 g;simp only[XO,beq_iff_eq]at v;have:=t e u v.1;rw[v.2]at this;exact this
       have g:=Yj.1 hd j (YZ.2 m);rw[Z1]at g;rcases g with g|g
       ·exact s j g
       ·obtain⟨x,hx,A⟩:=List.any_eq_true.1 g;rw[XO]at A;have E:=s x A.1;have z:x<ops.size:=by have:=YZ.1 hx;omega
        have u:=X4 z;have C:=A.2;unfold depOn at C;rw[u]at C;exact BO (ho:=u) p C E
     obtain⟨V,I,H⟩:=p.all;have W:=p.act R oM q I;have z:∀l:List Nat,l=[]->∀x∈l,on L x=false:=λl N x hx=>by rw[N]at hx;cases hx
     have s:=Y V w (λj m X=>H j ((q j).2 m) (z _ X)) (λb v=>p.base b (z _ v));have u:ops.toList.drop i=[o]:=by
      have A:ops.toList.length=i+1:=by rw[XP];exact S
      rw[List.drop_eq_getElem_cons oM,List.drop_of_length_le oM];have:ops.toList[i]? = some o:=by rw[Yz];exact ho
      rw[XJ oM]at this;rw[XS.inj this]
     rw[u,<-W]at s;have E:wpOp P ops Q i (λC w'=>Q .normal C w') a w:=by
      unfold wpOp;rw[ho];exact s
     refine yCa (λC w' M=>?_) E;have A:∀j,j<ops.size->on (L.setIfInBounds i true) j=true:=λj m=>by
      rw[eD (by rw[p.size];omega)];by_cases h:j<i
      ·rw[(q j).2 h,yAI]
      ·rw[show j=i by omega];simp
     have B:Yf .any ops (L.setIfInBounds i true)=[]:=by
      apply yCp.2;intro j m;obtain⟨r,Z,G,-⟩:=mem_ready.1 m;have g:=A j (XY.1 G).1;unfold on at g;rw[XI]at r g;cases hh:(L.setIfInBounds i true)[j]? with
      | none=>rw[hh]at r;cases r
      | some b=>rw[hh]at r g;rw[show b=false from r]at g;cases g
     cases c with
     | zero=>exact⟨B,M⟩
     | succ f=>exact⟨λ_=>M,λj m=>by rw[B]at m;cases m⟩
    ·refine yCa (λC w' q=>ih _ C w' (by have:=mH r;omega) ?_ q) (FM R oM (λj m=>?_) ho J t p)
     ·rw[eD (by rw[p.size];exact D),k];simpa using y
     ·have g:j<ops.size:=by rw[<-p.size];exact AB m
      rcases Zq j n with h|h
      ·exact h
      ·obtain rfl:j=n:=oM;rw[k]at m;cases m
 have k:∀i,on (XL ops.size false) i=false:=λi=>by
  unfold on;rw[XI,yAQ];by_cases h:i<ops.size
  ·rw[yES h];rfl
  ·rw[yET h];rfl
 refine yEJ U (key _ _ a0 _ ?_ (k n) ⟨XU,(λi o _ h=>by rw[k]at h;cases h),rfl,rfl,λ_ _=>rfl,⟨λ_=>Zp,λi d h=>(by rw[k]at h;cases h),λi h=>(by rw[k]at h;cases h)⟩,λb _=>O b⟩);unfold unl;rw[yBG,yC3];simp
end RG
namespace RG
variable {P:YG}{ops:Array Yo}{Q:yAL->Act->Xs->Prop}{w:Xs}{a0:Act}
def AllE(a:Act):List (Zs × Xu)->Prop
 | []=>True
 | x :: r=>a.eval (.tmp x.1)=x.2/\AllE a r
def evl(k:List (Zs × Xu))(t:Zs):Xu:=match k.find? (λx=>x.1 == t) with|some x=>x.2|none=>Zp
theorem AllE.mem{a:Act}:∀ {k:List (Zs × Xu)},AllE a k->∀x∈k,a.eval (.tmp x.1)=x.2
 | [],_,x,hx=>by cases hx
 | y :: r,h,x,hx=>by
  rcases YX.1 hx with rfl|hx
  ·exact h.1
  ·exact AllE.mem h.2 x hx
theorem AllE.ev{a:Act}{k:List (Zs × Xu)}(h:AllE a k):∀t∈k.map (·.1),a.eval (.tmp t)=evl k t:=λt d=>by
 obtain⟨x,hx,rfl⟩:=Yw.1 d;unfold evl;cases hf:k.find? (λy=>y.1 == x.1) with
 | none =>
  have:=List.find?_eq_none.1 hf x hx;simp at this
 | some y =>
  have b:=List.mem_of_find?_eq_some hf;have c:y.1=x.1:=by simpa using List.find?_some hf
  have:=h.mem y b;rw[c]at this;exact this
structure Gw where
 R:Nat->Xu->Xs->Prop
 B:Xs->Prop
 sR:∀i v w w',kZ w w'->R i v w->R i v w'
 sB:∀w w',kZ w w'->B w->B w'
def Gw.flow(G:Gw):Flow:=⟨G.R,λ_=>G.B,λ_ w w'=>kZ w w',λ_=>[],λ_=>[]⟩
structure PreG(G:Gw)(ops:Array Yo)(a0:Act)(k:Nat)(o:Yo)(a:Act)(w:Xs):Prop where
 n:∀j d,cQ o j=true->aV ops j=some d->G.R j (a.eval (.tmp d)) w
 o:∀t,qG ops k t=true->a.eval (.tmp t)=a0.eval (.tmp t)
 b:G.B w
variable {G:Gw}
theorem tJ{k:Nat}{o:Yo}{a:Act}(h:PreF G.flow ops a0 k o a w):PreG G ops a0 k o a w:=⟨λj d b hd=>h.n j d b rfl hd,h.o,h.b 0 rfl⟩
theorem bL{k:Nat}{o:Yo}(h:∀(a:Act) (w:Xs),PreG G ops a0 k o a w->∃(b:List (Zs × Xu)) (v:Xu) (w':Xs),AllE a b/\(cN (b.map (·.1)) o,(Yb (evo (evl b)) o).run P w)=(true,.ok (.value v) w')/\kZ w w'/\G.R k v w'):bE P Q G.flow ops a0 k o:=
 nA λa w d=>by
  obtain⟨b,v,w',e,c,hE⟩:=h a w (tJ d);simp only[Ze.injEq]at c;refine⟨v,w',?_,hE⟩;rw[jE (evl b) (b.map (·.1)) c.1 e.ev];exact c.2
theorem gC{k:Nat}{o:Yo}(h:∀(a:Act) (w:Xs),PreG G ops a0 k o a w->∃(b:List (Zs × Xu)) (f:FuncId) (args:Array Xu),AllE a b/\(cN (b.map (·.1)) o,(Yb (evo (evl b)) o).run P w)=(true,.ok (.enter f args) w)/\XH P f args w (rZ w λe w'=>G.R k e w')):bE P Q G.flow ops a0 k o:=by
 intro a w K i l g j;obtain⟨b,f,args,m,c,d⟩:=h a w (tJ ⟨i,l,g⟩);simp only[Ze.injEq]at c;unfold YV;rw[jE (evl b) (b.map (·.1)) c.1 m.ev,c.2,ZI];refine d.mono ?_;rintro e w' ⟨v,rfl,hE,hR⟩;exact j _ _ hE hR
theorem jD{k:Nat}{o:Yo}(T:Yd)(t:Zs)(ho:o.op=.load T (.tmp t))(d:(P.underlying T).map (·.isRow)=some true)
 (h:∀(a:Act) (w:Xs),PreG G ops a0 k o a w->∃g off cs,a.eval (.tmp t)=oZ g off/\w.rangeAt g off cs/\(P.info? T).map (·.size)=some cs.length/\G.R k (.agg cs.toArray) w):bE P Q G.flow ops a0 k o:=
 BS T t ho d λa w f=>by
  obtain⟨g,off,cs,c,e,i,b⟩:=h a w (tJ f);exact⟨g,off,cs,c,e,i,XM _ _,b⟩
theorem Lh{k:Nat}{o:Yo}(op:BinOp)(T f:Yd)(t1 t2:Zs)(ho:o.op=.binOp op T (.tmp t1) (.tmp t2) f)
 (h:∀(a:Act) (w:Xs),PreG G ops a0 k o a w->∃v1 v2 v,a.eval (.tmp t1)=v1/\a.eval (.tmp t2)=v2/\(eqGuard op T (.tmp t1) (.tmp t2) v1 v2).run P w=.ok () w/\(binOp op T v1 v2).run P w=.ok v w/\G.R k v w):bE P Q G.flow ops a0 k o:=
 nA λa w g=>by
  obtain⟨v1,v2,v,d,e,b,c,hR⟩:=h a w (tJ g);refine⟨v,w,?_,XM _ _,hR⟩;unfold Yb;rw[ho];dsimp only;rw[d,e,XT,XT,b];dsimp only[Result.andThen];rw[c];rfl
theorem Gw.reg{m:Nat}(k:BQ ops a0.tmps.size=true)(h:iY P Q G.flow ops a0 0 (ops.toList.take m)):RegF P Q G.flow ops a0 m:=
 ⟨k,uF h,λi j _ _ _ _ _ v w w' hE hR=>G.sR j v w w' hE hR,λi b _ _ w w' hE c=>G.sB w w' hE c⟩
theorem Gw.draws{id:Nat}(G:Gw)(d:P.follows .mixedOrders=true)(e:BQ ops a0.tmps.size=true)(h:iY P Q G.flow ops a0 0 (ops.toList.take ops.size))(g:G.B w.drew)
 (f:∀(V:Nat->Xu) (w':Xs),(∀i,i<ops.size->G.R i (V i) w')->G.B w'->Q .normal (bY V ops.toList 0 a0) w'):(Zd id ops true).wp P Q a0 w:=
 qV G.flow d (Gw.reg e h) (λ_=>g) λV w' k c=>f V w' (λi b=>k i b rfl) (c 0 rfl)
theorem Gw.last{id:Nat}(G:Gw)(n:Nat)(k:((ops.size == n+1) && (Yt n).all (λj=>depOn ops n j || (Yt n).any (λi=>depOn ops n i && depOn ops i j)))=true)(e:P.follows .mixedOrders=true)(f:BQ ops a0.tmps.size=true)(h:iY P Q G.flow ops a0 0 (ops.toList.take n))(l:G.B w.drew)
 (g:∀(V:Nat->Xu) (w':Xs),(∀i,i<n->G.R i (V i) w')->G.B w'->wpList P ops Q (ops.toList.drop n) (bY V (ops.toList.take n) 0 a0) w'):(Zd id ops true).wp P Q a0 w:=by
 rw[XO,beq_iff_eq]at k;exact Iz G.flow n k.1 k.2 e (Gw.reg f h) (λ_=>l) λV w' b c=>g V w' (λi d=>b i d rfl) (c 0 rfl)
end RG
section
variable {P:Nat}[NeZero P]{N:Nat}
theorem Cn{w:Xs}{g o:Nat}{v:Xu}{cur:Array Xu}{e:Yd}{z:Nat × Nat}(h:w.heap[g]? = some (.cells cur e z)):∃k:Array Xu,(w.setCell ⟨g,o,none⟩ v).heap[g]? = some (.cells k e z)/\k.size=cur.size:=by
 have b:=(XY.1 h).1;refine⟨cur.setIfInBounds o v,?_,YJ ..⟩;have c:w.heap[g]=.cells cur e z:=by rw[X4 b]at h;exact XS.inj h
 simp[World.setCell,Array.getElem_modify,b,c]
theorem rD{g:Nat}{e:Yd}{z:Nat × Nat}:∀(vs:List Xu) (o:Nat) (w:Xs) (cur:Array Xu),w.heap[g]? = some (.cells cur e z)->∃k:Array Xu,(w.setCells g o vs).heap[g]? = some (.cells k e z)/\k.size=cur.size
 | [],_,_,cur,h=>⟨cur,h,rfl⟩
 | v :: r,o,w,cur,h=>by
  obtain⟨c1,c,d⟩:=Cn (o:=o) (v:=v) h;obtain⟨c2,f,b⟩:=rD r (o+1) _ c1 c;exact⟨c2,f,b.trans d⟩
theorem J7{W:Xs}{k n s g o cap:Nat}{e:Yd}{xs vs:List Xu}(h:W.ownsRow k e s (sZ g n cap) n xs)(u:o+vs.length<=n*s):(W.setCells g o vs).ownsRow k e s (sZ g n cap) n (rep xs o vs):=by
 have hx:o+vs.length<=xs.length:=by rw[h.1];exact u
 refine⟨by rw[cY hx];exact h.1,?_⟩;rcases h.2 with⟨f,-⟩|⟨a,m,cur,f,x,q,r,y,p,v⟩
 ·cases f
 ·injection f with e1 e2 e3
  injection e1 with e1
  injection e1 with e1
  subst e1;subst e3;obtain⟨c2,l,z⟩:=rD vs o W cur q;refine X0 ⟨g,cap,c2,rfl,x,l,r,y,by rw[z];exact p,?_⟩;have w:n*s<=cur.size:=by rw[p];exact yAj s r
  apply yBA;intro i;rw[RG.rep_at hx,Zt,<-v];have c1:∀i,W.cell? ⟨g,i,none⟩=cur[i]?:=λi=>cell_of_row W g i cur e (0,0) q
  have t:(W.setCells g o vs).cell? ⟨g,i,none⟩=c2[i]?:=cell_of_row _ g i c2 e (0,0) l;by_cases c:i<n*s
  ·rw[yES c];by_cases b:o<=i/\i<o+vs.length
   ·rw[yES b];have d:i-o<vs.length:=oM;have:=World.cell?_setCells_in g vs o W (λj d=>by rw[c1 (o+j),X4 oM];rfl) (i-o) d;rw[show o+(i-o)=i by omega,t]at this;rw[Yz,this,XJ d]
   ·rw[yET b,Zt,yES c,Yz,Yz,<-t,<-c1 i];exact World.cell?_setCells_out g vs o W ⟨g,i,none⟩ (λ_ _=>by show i<o\/o+vs.length<=i;omega)
  ·rw[yET c,yET oM,Zt,yET c]
theorem NP{xs ys vs:List Xu}{o:Nat}:rep (xs++ys) (xs.length+o) vs=xs++rep ys o vs:=by
 unfold rep;rw[List.take_length_add_append,Nat.add_assoc,List.drop_length_add_append,List.append_assoc]
theorem iF{n:Nat}{p:Bs}(k:p.size=33):(wn n++aA p).length=37:=by rw[XC,aB k];rfl
theorem fV(x:Nat × Bs)(r:List (Nat × Bs)):aR (x :: r)=(wn x.1++aA x.2)++aR r:=by unfold aR;rw[yB9]
theorem zL(s:Nat):∀(l:List (Nat × Bs)) (j:Nat) (k:j<l.length),(∀x∈l.map (·.2),x.size=33)->aR (l.set j (s,(l[j]).2))=rep (aR l) (37*j) (wn s)
 | [],j,k,_=>by cases k
 | x :: r,0,_,_=>by
  show aR ((s,x.2) :: r)=_;rw[fV,fV];rfl
 | x :: r,j+1,k,hs=>by
  have hx:=iF (n:=x.1) (hs x.2 (by simp));show aR (x :: r.set j (s,(r[j]'(by simpa using k)).2))=_;rw[fV,fV,zL s r j (by simpa using k) (λy b=>hs y (Ym _ b)),show 37*(j+1)=(wn x.1++aA x.2).length+37*j by rw[hx];omega,NP]
theorem at?_some{p:Bs}:∀ {l:List (Nat × Bs)}{i j:Nat},at? p (l.map (·.2)) i=some j->i<=j/\∃h:j-i<l.length,(l[j-i]).2=p/\∀n,fR N l n p=l.set (j-i) (sPl N (l[j-i]).1 n,p)
 | [],i,j,h=>by cases h
 | (s,q) :: r,i,j,h=>by
  rw[Z6]at h;unfold at? at h;by_cases k:p=q
  ·rw[yES k]at h;obtain rfl:=XS.inj h;refine⟨Xx _,by simp,?_,λn=>?_⟩
   ·simp[k]
   ·unfold fR;rw[yES k];simp[k]
  ·rw[yET k]at h;obtain⟨d,f,c,b⟩:=at?_some h;have e:j-i=(j-(i+1))+1:=oM;refine⟨oM,by simp;omega,?_,λn=>?_⟩
   ·simp only[e,yCY];exact c
   ·unfold fR;rw[yET k,b n];simp only[e,yCY,Xv]
theorem MA{n:Nat}{p:Bs}{l:List (Nat × Bs)}{j:Nat}(h:at? p (l.map (·.2)) 0=some j):(fR N l n p).map (·.2)=l.map (·.2)/\(fR N l n p).length=l.length:=by
 obtain⟨-,b,d,c⟩:=at?_some (N:=N) h;rw[c n];refine⟨?_,List.length_set ..⟩;rw[List.map_set];apply yBA;intro i;rw[List.getElem?_set];by_cases k:j-0=i
 ·subst k;rw[yES rfl,yES (by rw[XV];exact b),Ys,XJ b];exact congrArg some d.symm
 ·rw[yET k]
theorem Mx.again{w W:Xs}{m g cap:Nat}{l:List (Nat × Bs)}{p:Bs}{j:Nat}(h:Mx w W m l (sZ g l.length cap))(o:∀x∈l.map (·.2),x.size=33)(b:at? p (l.map (·.2)) 0=some j)(e:j<l.length)(n:Nat):
 Mx w (W.setCells g (37*j) (wn (sPl N (l[j]).1 n))) m (fR N l n p) (sZ g l.length cap):=by
 have k:=h.own_ne (g:=g) rfl;obtain⟨f,d⟩:=MA (N:=N) (n:=n) b;refine⟨RG.below_setCells k.2.1 _ _ _ h.bl,?_,h.lm,?_⟩
 ·rw[aE _ _ _ _ _ (Ne.symm k.1),f,d];exact h.mp
 ·obtain⟨-,q,c,i⟩:=at?_some (N:=N) b;have e3:fR N l n p=l.set j (sPl N (l[j]).1 n,(l[j]).2):=by rw[i n];simp only[yBx]at c⊢;rw[c]
  rw[d,e3,zL _ l j e o];exact J7 h.ow (by show 37*j+4<=_;omega)
theorem Eu(O:Ord N)(ns:Nat->Nat)(c:Nat->Bs){k:Nat}(d:∀j,j<k->ns j<N):∀i,i<=k->∀x∈mrg N ns c i,x.1<N
 | 0,_=>λx hx=>by cases hx
 | i+1,hi=>by
  have f:=Eu O ns c d i oM;have h:∀(l:List (Nat × Bs)) n p,n<N->(∀x∈l,x.1<N)->∀x∈fR N l n p,x.1<N:=by
   intro l n p g;induction l with
   | nil=>intro _ x hx;simp[fR]at hx;rw[hx];exact g
   | cons y r ihr =>
    intro b x hx;unfold fR at hx;split at hx
    ·rcases YX.1 hx with rfl|hx
     ·exact Y9 _ O.pos
     ·exact b x (Ym _ hx)
    ·rcases YX.1 hx with rfl|hx
     ·exact b _ YC
     ·exact ihr (λz e=>b z (Ym _ e)) x hx
  exact h _ _ _ (d i oM) f
end
section
variable {N:Nat}
section
variable (w:Xs) (m g4 cap k6 j s n z:Nat) (l:List (Nat × Bs)) (p:Bs)
def Ra:Nat->Xu->Xs->Prop
 | 0,v,_=>v=sZ g4 l.length cap
 | 1,v,_=>v=iZ j
 | 2,v,_=>v=sZ g4 l.length cap
 | 3,v,_=>v=iZ j
 | 4,v,_=>v=.pointer (some ⟨g4,0+37*j,none⟩)
 | 5,v,_=>v=.pointer (some ⟨g4,0+37*j,none⟩)
 | 6,v,_=>v=nv s
 | 7,v,_=>v=jZ k6
 | 8,v,_=>v=nv n
 | 9,v,_=>v=nv z
 | 10,v,_=>v=.pointer (some ⟨g4,0+37*j,none⟩)
 | 11,v,_=>v=.pointer (some ⟨g4,0+37*j,none⟩)
 | _,_,_=>True
theorem Tj{i:Nat}{v:Xu}{W W':Xs}(h:Ra g4 cap k6 j s n z l i v W):Ra g4 cap k6 j s n z l i v W':=by
 match i,h with
 | 0,h=>exact h
 | 1,h=>exact h
 | 2,h=>exact h
 | 3,h=>exact h
 | 4,h=>exact h
 | 5,h=>exact h
 | 6,h=>exact h
 | 7,h=>exact h
 | 8,h=>exact h
 | 9,h=>exact h
 | 10,h=>exact h
 | 11,h=>exact h
 | _+12,_=>trivial
def Ga:Gw:=⟨Ra g4 cap k6 j s n z l,λW=>Mx w W m l (sZ g4 l.length cap)/\Row W k6 (wn n++aA p),λ_ _ _ _ _ h=>Tj g4 cap k6 j s n z l h,λ_ _ k h=>⟨h.1.kept k,h.2.below k⟩⟩
end
theorem range_front'{W:Xs}{k o:Nat}{xs ys:List Xu}(h:W.rangeAt k o (xs++ys)):W.rangeAt k o xs:=λj v b=>h j v (by rw[XQ (XG.1 b).1];exact b)
theorem Mx.drew{w W:Xs}{m:Nat}{l:List (Nat × Bs)}{v:Xu}(h:Mx w W m l v):Mx w W.drew m l v:=⟨h.bl.drew,h.mp,h.lm,h.ow⟩
theorem Kw(O:Ord N)(R:Xu->Xs->Prop)(g k c:Nat)(hk:k<=1000)(ns:Nat->Nat)(o:Nat->Bs)(ha:∀j,j<k->(o j).size=33)(hn:∀j,j<k->ns j<N)(w:Xs)(hg:g<w.heap.size)(hr:∀j,j<k->w.rangeAt g (37*j) (wn (ns j)++aA (o j)))
 (h2:∀W v,Mx w W w.heap.size (mrg N ns o k) v->XH prog 109 #[v,.func (.func 110) #[] #[]] W (Ret R)) :
 XH prog 63 #[sZ g k c] w (Ret R):=by
 have h8:=Hid.mk' h2;have k4:(Instr.makeMap 202 none).run prog w=.ok (.map (some w.heap.size)) (w.alloc (.map #[] 0)):=kR;obtain⟨w1,h4⟩:=hE (w.alloc (.map #[] 0));rw[h4.out]at k4;have M1:Hid (Mx w w1 w.heap.size (mrg N ns o 0) (.slice none 0 0)):=by
  rw[<-h4.out];exact⟨aC w _,by show(w.heap.push (.map #[] 0))[w.heap.size]? = _;rw[Array.getElem?_push_size];rfl,Xx _,rfl,X9 ⟨rfl,rfl⟩⟩
 have J:=mk5 O ha hn hg hr;obtain⟨d,hq,hw⟩:=XA.1 uCP;obtain⟨d',k7,hm⟩:=XA.1 uT;have K:Hid ((prog.underlying 51=some d/\d.isRow=true)/\prog.underlying 124=some d'/\d'.isRow=true):=⟨⟨hq,hw⟩,k7,hm⟩
 go_enter func63,ntmps63;go_wp2;go_loopg [4,12] k (λq s4 s12 W=>∃i:Nat,i+q=k/\s12=iZ i/\Hid (Mx w W w.heap.size (mrg N ns o i) s4))
 case atStart=>exact⟨0,oM,rfl,M1⟩
 case round =>
  obtain⟨i,kg,rfl,KM⟩:=hrel;by_cases hi:i<k
  ·have k3:(i:Int)<(k:Int):=oM;obtain⟨n,I⟩:=hE (ns i);obtain⟨p,E⟩:=hE (o i);obtain⟨l,hl⟩:=hE (mrg N ns o i);rw[hl.out]at KM;have r:Hid (p.size=33):=by have:=J.2.1 i hi;rw[E.out]at this;exact this
   have hz:Hid (l.length<=i):=by have:=BA (N:=N) ns o i;rw[hl.out]at this;exact this
   obtain⟨q,cap,rfl⟩:=Ik KM.ow;obtain⟨S,X⟩:=hE (wr.alloc (.cells zT.toArray 124));obtain⟨F,Z⟩:=hE (S.setCells wr.heap.size 0 (wn n++aA p));have m:(wn n++aA p).length=37:=by rw[XC,aB r.out];rfl
   have F1:Hid (Row S wr.heap.size zT/\kZ wr S/\S.heap.size=wr.heap.size+1):=by rw[<-X.out];exact⟨row_new wr _ _,aC wr _,XF _ _⟩
   have F2:Hid (Row F wr.heap.size (wn n++aA p)/\kZ wr F/\F.heap.size=wr.heap.size+1):=by rw[<-Z.out];exact⟨F1.1.put (by rw[m];rfl),RG.below_setCells (Xx _) _ _ _ F1.2.1,by rw[setCells_size];exact F1.2.2⟩
   have Q:=mk1 (KM.kept F2.2.1);have C:∀x∈l.map (·.2),x.size=33:=by have:=yG (N:=N) ns o J.2.1 i oM;rw[hl.out]at this;exact this
   cases H:at? p (l.map (·.2)) 0 with
   | none =>
    have b:=mk1 (H);have T:=Hid.mk' (CS r.out (l.map (·.2)) C w.heap.size l.length F Q.mp);rw[b.out]at T;have B2:Hid ((yBF 202 (.map (some w.heap.size)) (.agg (aA p).toArray) (iZ (l.length:Int))).run prog F=.ok () (F.putObj w.heap.size (.map (ents (l.map (·.2)++[p]) 0).toArray (l.length+1)))):=by
     have h:=Na r.out (l.map (·.2)) C w.heap.size F (by rw[XV];exact Q.mp) b.out;rw[XV]at h;exact h
    obtain⟨v',W5,f,K5,kf,-⟩:=Q.push r.out (by have:=hz.out;omega) n;obtain⟨P,A⟩:=hE (F.putObj w.heap.size (.map (ents (l.map (·.2)++[p]) 0).toArray (l.length+1)));have F3:Hid (Row P wr.heap.size (wn n++aA p)/\P.heap.size=wr.heap.size+1):=by rw[<-A.out];exact⟨F2.1.putObj Q.mp rfl _,by simp[yCT];exact F2.2.2⟩
    have V:=Hid.mk' (Vf r.out n P);obtain⟨W4,M⟩:=hE (P.alloc (.cells (wn n++aA p).toArray 124));rw[A.out]at B2 f;rw[M.out]at V f;rw[F3.2]at V;rw[F2.2.2]at f;have k2:Hid (Mx w W5 w.heap.size (mrg N ns o (i+1)) v'):=by
     have e:mrg N ns o (i+1)=l++[(n,p)]:=by
      show fR N (mrg N ns o i) (ns i) (o i)=_;rw[hl.out,I.out,E.out];exact Dp b.out
     rw[e];exact K5
    have B0:Hid (wr.rangeAt g (37*i) (wn n++aA p)):=by
     have h:=RG.range_below (J.2.2.2.2 i hi) KM.bl J.2.2.2.1;rw[I.out,E.out]at h;exact h
    have L:Hid ((prog.info? 124).map (·.size)=some (wn n++aA p).length):=by show _=_;rw[m];exact iT
    have G:Hid ((prog.info? 124).map (·.size)=some (wn n++aA p).toArray.size/\S.there wr.heap.size 0 (wn n++aA p).toArray.size):=by
     have e:(wn n++aA p).toArray.size=37:=by rw[YD];exact m
     rw[e];exact⟨iT,F1.1.2.2⟩
    have U:Hid ((prog.info? 51).map (·.size)=some (aA p).length):=by show _=_;rw[aB r.out];exact cZ
    have HB:=mk1 (mO (xs:=wn n) F2.1.2.1);have Y:Hid ((wn n++aA p).toArray.all (·.oneCell')=true):=by
     show _=_;rw[ZF];intro u hu;exact cells_one n p u (yAE.1 hu)
    have k5:=atT g 0 k c i hi;have k8:=Hid.mk' f;obtain⟨vt,B⟩:=hE (X6 (wn n++aA p).toArray);obtain⟨vp,D⟩:=hE (X6 (aA p).toArray);rw[D.out]at T B2;rw[B.out]at V;go_wp2_with (first|(refine Yv rfl 124 _ rfl g (37*i) ?_ (wn n++aA p) d' ?_ ?_ ?_ ?_ ?_;rfl;exact B0.out;exact K.2.1;exact K.2.2;exact L.out;rw[B.out])|(refine bF (v:=jZ wr.heap.size) (w':=S) rfl (.alloc 124) rfl ?_ ?_;(rw[<-X.out];kernel_rfl))|(refine X8 rfl 124 _ _ rfl wr.heap.size 0 (wn n++aA p).toArray ?_ ?_ ?_ ?_ ?_ ?_;rfl;exact B.symm;exact G.2;exact G.1;exact Y.out;rw[show(wn n++aA p).toArray.toList=wn n++aA p from rfl,Z.out])|(refine Yv rfl 51 _ rfl wr.heap.size 4 ?_ (aA p) d ?_ ?_ ?_ ?_ ?_;rfl;exact HB.out;exact K.1.1;exact K.1.2;exact U.out;rw[D.out])|(refine Af (x:=.map (some w.heap.size)) (y:=vp) (w':=F) rfl 202 _ _ true rfl ?_ ?_ T.out ?_;rfl;rfl)|(refine Hx (x:=.map (some w.heap.size)) (y:=vp) (z:=iZ (l.length:Int)) (w':=P) rfl 202 _ _ _ rfl ?_ ?_ ?_ B2.out ?_;rfl;rfl;rfl)|(refine Yv rfl 124 _ rfl wr.heap.size 0 ?_ (wn n++aA p) d' ?_ ?_ ?_ ?_ ?_;rfl;exact F3.1.2.1;exact K.2.1;exact K.2.2;exact L.out;rw[B.out])|(refine jK (v:=.slice (some ⟨wr.heap.size+1,0,none⟩) 1 1) (w':=W4) rfl 82 1 _ rfl #[(0,vt)] ?_ V.out ?_;kernel_rfl)|(refine mF (x:=.slice q l.length cap) (y:=.slice (some ⟨wr.heap.size+1,0,none⟩) 1 1) (v:=v') (w':=W5) rfl _ _ 82 rfl ?_ ?_ ?_ ?_;rfl;rfl;exact k8.out))
    go_roundg (gk-1)
    case measure=>omega
    case rel=>exact⟨i+1,oM,rfl,k2⟩
   | some j =>
    obtain⟨-,A,h7,-⟩:=at?_some (N:=N) H;rw[yBx]at A;simp only[yBx]at h7;have T:=Hid.mk' (CS r.out (l.map (·.2)) C w.heap.size l.length F Q.mp);rw[H]at T;obtain⟨f,ke,k0,-,kb,hy⟩:=tO Q.ow C oM;injection k0 with q1 q2 q3
    subst q1;obtain⟨s,h0⟩:∃s,Hid ((l[j]'A).1=s):=⟨(l[j]'A).1,(rfl:(l[j]'A).1=(l[j]'A).1)⟩
    have ka:Hid (s<N):=by
     have:=Eu J.1 ns o J.2.2.1 i oM;rw[hl.out]at this;rw[<-h0.out];exact this _ (YL A)
    have h9:Hid (n<N):=by rw[<-I.out];exact J.2.2.1 i hi
    have B0:Hid (wr.rangeAt g (37*i) (wn n++aA p)):=by
     have h:=RG.range_below (J.2.2.2.2 i hi) KM.bl J.2.2.2.1;rw[I.out,E.out]at h;exact h
    have L:Hid ((prog.info? 124).map (·.size)=some (wn n++aA p).length):=by show _=_;rw[m];exact iT
    have G:Hid ((prog.info? 124).map (·.size)=some (wn n++aA p).toArray.size/\S.there wr.heap.size 0 (wn n++aA p).toArray.size):=by
     have e:(wn n++aA p).toArray.size=37:=by rw[YD];exact m
     rw[e];exact⟨iT,F1.1.2.2⟩
    have U:Hid ((prog.info? 51).map (·.size)=some (aA p).length):=by show _=_;rw[aB r.out];exact cZ
    have HB:=mk1 (mO (xs:=wn n) F2.1.2.1);have Y:Hid ((wn n++aA p).toArray.all (·.oneCell')=true):=by
     show _=_;rw[ZF];intro u hu;exact cells_one n p u (yAE.1 hu)
    have k5:=atT g 0 k c i hi;obtain⟨vt,B⟩:=hE (X6 (wn n++aA p).toArray);obtain⟨vp,D⟩:=hE (X6 (aA p).toArray);rw[D.out]at T;have HL:=mk1 (A);have HS:Hid (∀h:j<l.length,(l[j]'h).1=s):=λ_=>h0.out
    have HJ:=mk2 H C;have HK:=mk2 Q.out F2.1;have KN:Hid (mrg N ns o (i+1)=fR N l n p):=by
     show fR N (mrg N ns o i) (ns i) (o i)=_;rw[hl.out,I.out,E.out]
    clear m C Q KM h7 q2 q3 hy kb;clear H;go_wp2_with (first|(refine Yv rfl 124 _ rfl g (37*i) ?_ (wn n++aA p) d' ?_ ?_ ?_ ?_ ?_;rfl;exact B0.out;exact K.2.1;exact K.2.2;exact L.out;rw[B.out])|(refine bF (v:=jZ wr.heap.size) (w':=S) rfl (.alloc 124) rfl ?_ ?_;(rw[<-X.out];kernel_rfl))|(refine X8 rfl 124 _ _ rfl wr.heap.size 0 (wn n++aA p).toArray ?_ ?_ ?_ ?_ ?_ ?_;rfl;exact B.symm;exact G.2;exact G.1;exact Y.out;rw[show(wn n++aA p).toArray.toList=wn n++aA p from rfl,Z.out])|(refine Yv rfl 51 _ rfl wr.heap.size 4 ?_ (aA p) d ?_ ?_ ?_ ?_ ?_;rfl;exact HB.out;exact K.1.1;exact K.1.2;exact U.out;rw[D.out])|(refine Af (x:=.map (some w.heap.size)) (y:=vp) (w':=F) rfl 202 _ _ true rfl ?_ ?_ T.out ?_;rfl;rfl)|fail)
    refine(Ga w w.heap.size f cap wr.heap.size j s n (sPl N s n) l p).last 12 kR kR kR ⟨
     bL λa W b=>⟨[(4,sZ f l.length cap)],sZ f l.length cap,W,⟨b.o 4 kR,yEU⟩,kR,XM _ _,rfl⟩,
     bL λa W b=>⟨[(7,iZ j)],iZ j,W,⟨b.o 7 kR,yEU⟩,kR,XM _ _,rfl⟩,
     bL λa W b=>⟨[(4,sZ f l.length cap)],sZ f l.length cap,W,⟨b.o 4 kR,yEU⟩,kR,XM _ _,rfl⟩,
     bL λa W b=>⟨[(7,iZ j)],iZ j,W,⟨b.o 7 kR,yEU⟩,kR,XM _ _,rfl⟩,
     bL λa W b=>⟨[(36,sZ f l.length cap),(37,iZ j)],.pointer (some ⟨f,0+37*j,none⟩),W,⟨b.n 2 36 kR kR,b.n 3 37 kR kR,yEU⟩,by
      rw[Ze.injEq];refine⟨kR,?_⟩;show((Yi 82 (sZ f l.length cap) (iZ j)) >>= λv=>pure (ZN v)).run prog W=_;rw[XT,atT f 0 l.length cap j HL.out];rfl,XM _ _,rfl⟩,
     bL λa W b=>⟨[(38,.pointer (some ⟨f,0+37*j,none⟩))],.pointer (some ⟨f,0+37*j,none⟩),W,⟨b.n 4 38 kR kR,yEU⟩,kR,XM _ _,rfl⟩,
     jD 44 39 rfl Go.Proofs.YtlofhpkoaljmeaaGreat.u40 λa W b=>⟨f,0+37*j,wn s,b.n 5 39 kR kR,by
      obtain⟨g5,kd,k9,-,-,V⟩:=tO b.b.1.ow HJ.2 (by have:=HL.out;omega);injection k9 with q1 q2 q3
      injection q1 with q1
      injection q1 with q1
      subst q1;have:=V j HL.out;rw[HS HL.out]at this;rw[XD];exact range_front' this,i40,rfl⟩,
     bL λa W b=>⟨[(6,jZ wr.heap.size)],jZ wr.heap.size,W,⟨b.o 6 kR,yEU⟩,kR,XM _ _,rfl⟩,
     jD 44 41 rfl Go.Proofs.YtlofhpkoaljmeaaGreat.u40 λa W b=>⟨wr.heap.size,0,wn n,b.n 7 41 kR kR,kH b.b.2.2.1,i40,rfl⟩,
     gC λa W b=>⟨[(40,nv s),(42,nv n)],25,#[nv s,nv n],⟨b.n 6 40 kR kR,b.n 8 42 kR kR,yEU⟩,kR,(mM J.1 s n ka.out h9.out W).mono (by
      rintro e W' ⟨u,rfl,V,rfl⟩;exact⟨_,rfl,V,rfl⟩)⟩,
     bL λa W b=>⟨[(34,sZ f l.length cap),(35,iZ j)],.pointer (some ⟨f,0+37*j,none⟩),W,⟨b.n 0 34 kR kR,b.n 1 35 kR kR,yEU⟩,by
      rw[Ze.injEq];refine⟨kR,?_⟩;show((Yi 82 (sZ f l.length cap) (iZ j)) >>= λv=>pure (ZN v)).run prog W=_;rw[XT,atT f 0 l.length cap j HL.out];rfl,XM _ _,rfl⟩,
     bL λa W b=>⟨[(44,.pointer (some ⟨f,0+37*j,none⟩))],.pointer (some ⟨f,0+37*j,none⟩),W,⟨b.n 10 44 kR kR,yEU⟩,kR,XM _ _,rfl⟩,yEU⟩ ⟨HK.1.drew,HK.2⟩ ?_
    intro V P h3 b;have k1:=h3 9 dC;have h1:=h3 11 dC;obtain⟨W4,M⟩:=hE (P.setCells f (37*j) (wn (sPl N s n)));have K4:Hid (Mx w W4 w.heap.size (mrg N ns o (i+1)) (sZ f l.length cap)):=by
     rw[<-M.out,KN.out,<-(HS HL.out)];exact b.1.again HJ.2 HJ.1 HL.out n
    have k6:Hid (P.there f (37*j) 4):=by
     intro t ht;have hj:=HL.out;rcases b.1.ow.2 with⟨h,-⟩|⟨g2,h6,cur,he,-,hc,hn,-,hs,-⟩
     ·cases h
     ·injection he with he1 he2 he3
      injection he1 with he1
      injection he1 with he1
      subst he1;have kc:37*j+t<cur.size:=by
       rw[hs];have:(j+1)*37<=h6*37:=yAj 37 oM;omega
      refine⟨?_,?_⟩
      ·simp[YO,hc,kc]
      ·simp[Zi,hc]
    dsimp only[bY,YH,List.take,List.drop];simp only[Act.put,List.setIfInBounds_toArray,Xv,List.set_cons_zero];obtain⟨vz,h5⟩:=hE (nv (sPl N s n));rw[k1,h1,h5.out,XD];go_wp2_with (first|(refine X8 rfl 44 _ _ rfl f (37*j) (wn (sPl N s n)).toArray ?_ ?_ ?_ ?_ ?_ ?_;rfl;exact h5.symm;exact k6.out;exact i40;exact aI (sPl N s n);rw[show(wn (sPl N s n)).toArray.toList=wn (sPl N s n) from rfl,M.out])|fail)
    go_roundg (gk-1)
    case measure=>omega
    case rel=>exact⟨i+1,oM,rfl,K4⟩
  ·have k3:¬(i:Int)<(k:Int):=oM;obtain rfl:i=k:=oM;go_wp2_with fail
   refine(h8 wr _ KM.out).mono ?_;rintro e r ⟨m,rfl,f⟩;have b:=Hid.mk' f;go_wp2;go_ret;exact⟨_,rfl,b.out⟩
end
section
variable {P:Nat}[NeZero P]{N:Nat}
def LF(l:List (Nat × Bs)):List (Nat × Bs):=l.filter λx=>x.1 != 0
theorem qB{l:List (Nat × Bs)}{j:Nat}(k:j<l.length):LF (l.take (j+1))=LF (l.take j)++(if (l[j]).1=0 then [] else [l[j]]):=by
 unfold LF;rw[yCl,XJ k,List.filter_append]
 congr 1
 by_cases h:(l[j]).1=0
 ·simp[h]
 ·simp[h]
theorem Qr(l:List (Nat × Bs))(j:Nat):(LF (l.take j)).length<=j:=
 XB (yC1 _ _) (by rw[Z7];exact Nat.min_le_left _ _)
theorem B9{l:List (Nat × Bs)}{x:Nat × Bs}(h:x∈LF l):x∈l:=(yBH.1 h).1
theorem uY{ns:Nat->Nat}:∀(m i:Nat),(∃j,i<=j/\j<i+m/\ns j=0)->∃k,kW ns i m=((k:Nat):Int)/\i<=k/\k<i+m/\ns k=0/\∀j,i<=j->j<k->ns j≠0
 | 0,i,h=>by obtain⟨j,f,g,-⟩:=h;omega
 | m+1,i,h=>by
  unfold kW;by_cases b:ns i=0
  ·rw[yES b];exact⟨i,rfl,Xx _,oM,b,λj f g=>oM⟩
  ·rw[yET b];obtain⟨j,f,g,e⟩:=h;obtain⟨k,l,q,e3,o,p⟩:=uY m (i+1) ⟨j,by
    rcases Zq i j with h|h
    ·omega
    ·obtain rfl:j=i:=oM;exact absurd e b,oM,e⟩
   refine⟨k,l,oM,oM,o,λc n d=>?_⟩;rcases Zq i c with h|h
   ·exact p c h d
   ·obtain rfl:c=i:=oM;exact b
def Rw(W:Xs)(g j:Nat)(x:Nat × Bs):Prop:=W.rangeAt g (37*j) (wn x.1++aA x.2)
theorem Rw.below{W W':Xs}{g j:Nat}{x:Nat × Bs}(h:Rw W g j x)(b:kZ W W')(k:g<W.heap.size):Rw W' g j x:=RG.range_below h b k
structure Dz(base:Nat)(w W:Xs)(g:Nat)(l:List (Nat × Bs))(j:Nat):Prop where
 bl:Below base w W
 hb:base<=W.heap.size
 lt:g<W.heap.size
 th:W.there g 0 (37*l.length)
 lo:∀a (ha:a<(LF (l.take j)).length),Rw W g a ((LF (l.take j))[a])
 hi:∀b (hb:b<l.length),j<=b->Rw W g b (l[b])
theorem Dz.grow{k:Nat}{w W W':Xs}{g:Nat}{l:List (Nat × Bs)}{j:Nat}(h:Dz k w W g l j)(c:kZ W W'):Dz k w W' g l j:=
 ⟨h.bl.trans (c.mono h.hb),XB h.hb c.size,Xz h.lt c.size,dH h.th c h.lt,λa f=>(h.lo a f).below c h.lt,λb d e=>(h.hi b d e).below c h.lt⟩
theorem Dz.skip{k:Nat}{w W:Xs}{g:Nat}{l:List (Nat × Bs)}{j:Nat}(h:Dz k w W g l j)(c:j<l.length)(m:(l[j]).1=0):Dz k w W g l (j+1):=by
 have e:LF (l.take (j+1))=LF (l.take j):=by rw[qB c,yES m,yAh]
 exact⟨h.bl,h.hb,h.lt,h.th,λa f=>by
  have d:=h.lo a (by rw[<-e];exact f);simp only[e];exact d,λb i c=>h.hi b i oM⟩
theorem Dz.put{k:Nat}{w W:Xs}{g:Nat}{l:List (Nat × Bs)}{j:Nat}(h:Dz k w W g l j)(p:k<=g)(r:∀x∈l.map (·.2),x.size=33)(m:j<l.length)(u:(l[j]).1≠0):
 Dz k w (W.setCells g (37*(LF (l.take j)).length) (wn (l[j]).1++aA (l[j]).2)) g l (j+1):=by
 have e:LF (l.take (j+1))=LF (l.take j)++[l[j]]:=by rw[qB m,yET u]
 have v:=Qr l j;have f:∀x∈l,(wn x.1++aA x.2).length=37:=λx hx=>iF (r x.2 (Yw.2 ⟨x,hx,rfl⟩))
 have c:=f (l[j]) (YL m);refine⟨RG.below_setCells p _ _ _ h.bl,by rw[setCells_size];exact h.hb,by rw[setCells_size];exact h.lt,Y2 h.th _ _ _,λa n=>?_,λb q o=>?_⟩
 ·simp only[e]at n⊢;by_cases d:a<(LF (l.take j)).length
  ·rw[List.getElem_append_left d];have s:=h.lo a d;have i:=yC5 (B9 (YL d));exact Yk s g _ _ (X0 (X9 (by rw[f _ i];omega)))
  ·have i:a=(LF (l.take j)).length:=by rw[XC,List.length_singleton]at n;omega
   subst i;rw[List.getElem_append_right (Xx _)];simp only[Nat.sub_self,List.getElem_singleton];refine YM W g _ _ λt s=>?_
   rw[c]at s;have:=h.th (37*(LF (l.take j)).length+t) oM;rwa[XD]at this
 ·exact Yk (h.hi b q oM) g _ _ (X0 (X0 (by rw[c];omega)))
theorem I7(n:Nat):∀v∈(Zw (X6 zT.toArray).cells n).toList,v.oneCell'=true:=by
 intro v hv;have c:=Qw;have d:(X6 zT.toArray).cells.size=37:=kR;unfold Zw at hv;rw[Array.toList_map]at hv;obtain⟨i,-,rfl⟩:=Yw.1 hv;have k:i%(X6 zT.toArray).cells.size<(X6 zT.toArray).cells.size:=Y9 _ (by rw[d];decide);rw[getElem!_pos (X6 zT.toArray).cells _ k];exact c _ (by
  have e:(X6 zT.toArray).cells.toList=zT:=kR;have b:=Array.getElem_mem_toList k;rwa[e]at b)
theorem OO(g i n c:Nat)(w:Xs)(p:0<n)(h:w.there g 0 (37*(i+n))):∃Z:List Xu,∀d,(yDp #[82] d #[.slice (some ⟨g,37*i,none⟩) n c]).run prog w=.ok (.tuple #[]) (w.setCells g (37*i) Z):=by
 have e:=Qv w;have f:=yAw DF w;have ho:=I7 n;have k:(Zw (X6 zT.toArray).cells n).toList.length=n*37:=by
  have:(X6 zT.toArray).cells.size=37:=kR;rw[XP,size_zeroCells,this]
 generalize (X6 zT.toArray)=l at e ho k;generalize o:(Zw l.cells n).toList=Z at ho k;have m:(storeCells ⟨g,37*i,none⟩ Z).run prog w=.ok () (w.setCells g (37*i) Z):=
  run_storeCells_cells (P:=prog) g (37*i) Z 0 w (λj b=>by rw[k]at b;have:=(h (37*i+j) oM).1;simpa using this) (λj b=>by rw[k]at b;have:=(h (37*i+j) oM).2;simpa using this) ho
 refine⟨Z,λd=>?_⟩;obtain⟨b,rfl⟩:∃b,n=b+1:=⟨n-1,oM⟩
 unfold yDp;simp[XT,f,e,o,m]
theorem VZ(g n c i:Nat)(b:i<=n)(d:n<=c)(w:Xs):(Zk 82 (sZ g n c) none (some (iZ i)) none).run prog w=.ok (sZ g i c) w:=by
 have k:¬(i:Int)<0:=oM;have e:(i:Int)<=(c:Int):=oM;go_simp
theorem VY(g n c i:Nat)(b:i<n)(d:n<=c)(w:Xs):(Zk 82 (sZ g n c) (some (iZ i)) none none).run prog w=.ok (.slice (some ⟨g,37*i,none⟩) (n-i) (c-i)) w:=by
 have k:¬(i:Int)<0:=oM;have e:(i:Int)<=(n:Int):=oM;go_simp;rw[yET oM,YF]
def TmL(W:Xs)(q:Option YW)(l:List (Nat × Bs)):Prop:=0<l.length->∃g,q=some (aZ g)/\g<W.heap.size/\∀j (k:j<l.length),W.rangeAt g (37*j) (wn (l[j]).1++aA (l[j]).2)
def Xn(k:Nat)(l:List (Nat × Bs))(w:Xs)(e:Xu)(w':Xs):Prop:=Below k w w'/\∃q cap,e=.slice q (LF l).length cap/\TmL w' q (LF l)
theorem Hp{l:List (Nat × Bs)}(h:∀x∈l,x.1≠0):LF l=l:=List.filter_eq_self.2 λx hx=>by simpa using h x hx
theorem Qq{l:List (Nat × Bs)}{k:Nat}(d:k<l.length)(c:(l[k]).1=0):∀j,k<j->j<=l.length->(LF (l.take j)).length<j
 | 0,h,_=>oM
 | j+1,h,hj=>by
  rw[qB oM,XC];rcases Zq k j with b|b
  ·have:=Qq d c j b oM;split<;>simp<;>omega
  ·obtain rfl:j=k:=oM;rw[yES c];have:=Qr l j;simp;omega
theorem LP(l:List (Nat × Bs))(hi:0<l.length)(hw:l.length<=1000)(hs:∀x∈l.map (·.2),x.size=33)(hn:∀x∈l,x.1<top)(d:Nat)(v:Xu)(w:Xs)(hb:d<=w.heap.size)(ho:w.ownsRow d 124 37 v l.length (aR l)):
 XH prog 109 #[v,.func (.func 110) #[] #[]] w (Ret (Xn d l w)):=by
 obtain⟨g,c,rfl,h4,A,S⟩:=tO ho hs hi;have G:∀(j:Nat) (k:j<l.length),(l[j]).2.size=33:=λj k=>hs _ (Yw.2 ⟨_,YL k,rfl⟩)
 have B:l.length<=c/\w.there g 0 (37*l.length):=by
  rcases ho.2 with⟨h,-⟩|⟨z,r,cur,s,-,q,f,-,o,-⟩
  ·cases h
  ·injection s with he1 he2 he3
   injection he1 with he1
   injection he1 with he1
   subst he1;subst he3;refine⟨f,λt ht=>?_⟩;have y:0+t<cur.size:=by
    rw[o];have:l.length*37<=c*37:=yAj 37 f;omega
   exact⟨by simp only[YO,q];simp;omega,by simp[Zi,q]⟩
 by_cases s:∀x∈l,x.1≠0
 ·have I:=Hp s;refine(Db g l.length c oM (λj=>((l[j]?).getD (0,#[])).1) (λj=>((l[j]?).getD (0,#[])).2) (λj k=>by rw[XJ k];exact hn _ (YL k)) (λj k=>by rw[XJ k];exact s _ (YL k)) (λj k=>by rw[XJ k];exact G j k) w A (λj k=>by rw[XJ k];exact S j k)).mono ?_;rintro e o ⟨vv,rfl,f,rfl⟩;refine⟨_,rfl,f.mono hb,some (aZ g),c,by rw[I],?_⟩;rw[I];exact λ_=>⟨g,rfl,Xz A f.size,λj k=>RG.range_below (S j k) f A⟩
 ·have hI:=Gy g l.length c oM (λj=>((l[j]?).getD (0,#[])).1) (λj=>((l[j]?).getD (0,#[])).2) (λj k=>by rw[XJ k];exact hn _ (YL k)) (λj k=>by rw[XJ k];exact G j k) w A (λj k=>by rw[XJ k];exact S j k);obtain⟨q,e1,-,e3,T,e5⟩:=uY (ns:=λj=>((l[j]?).getD (0,#[])).1) l.length 0 (by
   have:∃x,x∈l/\x.1=0:=Zm λh=>s λx hx J=>h ⟨x,hx,J⟩
   obtain⟨x,hx,f⟩:=this;obtain⟨j,k⟩:=Zz hx;exact⟨j,Zh _,by have:=(XG.1 k).1;omega,by show((l[j]?).getD (0,#[])).1=0;rw[k];exact f⟩)
  rw[e1]at hI;have E:q<l.length:=oM;have F:(l[q]).1=0:=by
   have:((l[q]?).getD (0,#[])).1=0:=T;rw[XJ E]at this;exact this
  have D:LF (l.take q)=l.take q:=Hp λx hx=>by
   obtain⟨j,k⟩:=Zz hx;rw[Zt]at k;split at k
   ·rename_i hji
    have:=e5 j (Zh _) hji;have f:((l[j]?).getD (0,#[])).1≠0:=this;rw[k]at f;exact f
   ·cases k
  have C:(LF (l.take q)).length=q:=by rw[D,Z7];omega
  have D0:Dz d w w g l q:=⟨XM _ _,hb,A,B.2,λa Q=>by
   simp only[D]at Q⊢;rw[List.getElem_take];exact S a _,λb f _=>S b f⟩
  have D1:Dz d w w g l (q+1):=D0.skip E F;have e6:(LF (l.take (q+1))).length=q:=by rw[qB E,yES F,yAh];exact C
  have HI:=Hid.mk' hI;have HZ:Hid (∀j,q<j->j<=l.length->(LF (l.take j)).length<j):=Qq E F;have hg:=Hid.mk' D1;have H:Hid (d<=g/\l.length<=c/\(∀x∈l.map (·.2),x.size=33)/\(∀x∈l,x.1<top)/\∀(j:Nat) (k:j<l.length),(l[j]).2.size=33):=⟨h4,B.1,hs,hn,G⟩
  obtain⟨d',h7,V⟩:=XA.1 uT;have U:Hid (prog.underlying 124=some d'/\d'.isRow=true):=⟨h7,V⟩
  have hz:¬((q:Int) = -1):=oM;clear h7 V hI D0 D1 hs hn ho S G B s e1 T e5 D C F h4 A;go_enter func109,ntmps109;go_wp2_with fail
  refine HI.mono ?_;rintro e w1 ⟨vv,rfl,h8,rfl⟩;have K1:Hid (Dz d w w1 g l (q+1)):=hg.grow h8;clear h8 HI hg;go_wp2_with fail
  go_loopg [5,6] (l.length-(q+1)) (λm s5 s6 W=>∃j:Nat,q<j/\j+m=l.length/\s6=iZ j/\s5=iZ ((LF (l.take j)).length:Int)/\Hid (Dz d w W g l j))
  case atStart=>exact⟨q+1,oM,oM,rfl,by rw[e6],K1⟩
  case round =>
   clear K1;obtain⟨j,h1,hq,rfl,rfl,K⟩:=hrel;by_cases k:j<l.length
   ·have hm:(j:Int)<(l.length:Int):=oM;obtain⟨n,r⟩:∃n,Hid ((l[j]'k).1=n):=⟨(l[j]'k).1,(rfl:(l[j]'k).1=(l[j]'k).1)⟩
    obtain⟨p,M⟩:∃p,Hid ((l[j]'k).2=p):=⟨(l[j]'k).2,(rfl:(l[j]'k).2=(l[j]'k).2)⟩
    obtain⟨i,o⟩:∃i,Hid ((LF (l.take j)).length=i):=⟨_,rfl⟩
    have z:i<l.length:=by have:=HZ.out j h1 oM;rw[o.out]at this;omega
    rw[o.out];have X:Hid (p.size=33):=by rw[<-M.out];exact H.2.2.2.2 j k
    have hk:Hid (n<top):=by rw[<-r.out];exact H.2.2.2.1 _ (YL k)
    have B0:Hid (wr.rangeAt g (37*j) (wn n++aA p)):=by
     have h:=K.hi j k (Xx _);unfold Rw at h;rw[r.out,M.out]at h;exact h
    obtain⟨L,Z⟩:∃L,Hid (wr.alloc (.cells zT.toArray 124)=L):=⟨_,rfl⟩
    obtain⟨R,h5⟩:∃R,Hid (L.setCells wr.heap.size 0 (wn n++aA p)=R):=⟨_,rfl⟩
    have y:(wn n++aA p).length=37:=iF X.out;have F1:Hid (Row L wr.heap.size zT/\kZ wr L/\L.heap.size=wr.heap.size+1):=by rw[<-Z.out];exact⟨row_new wr _ _,aC wr _,XF _ _⟩
    have F2:Hid (Row R wr.heap.size (wn n++aA p)/\kZ wr R):=by rw[<-h5.out];exact⟨F1.1.put (by rw[y];rfl),RG.below_setCells (Xx _) _ _ _ F1.2.1⟩
    have O:Hid ((prog.info? 124).map (·.size)=some (wn n++aA p).length):=by show _=_;rw[y];exact iT
    have N:Hid ((prog.info? 124).map (·.size)=some (wn n++aA p).toArray.size/\L.there wr.heap.size 0 (wn n++aA p).toArray.size):=by
     have e:(wn n++aA p).toArray.size=37:=by rw[YD];exact y
     rw[e];exact⟨iT,F1.1.2.2⟩
    have h3:Hid ((wn n++aA p).toArray.all (·.oneCell')=true):=by
     show _=_;rw[ZF];intro u f;exact cells_one n p u (yAE.1 f)
    have hy:=atT g 0 l.length c j k;obtain⟨vt,h2⟩:∃v,Hid (tvl n p=v):=⟨_,rfl⟩
    have f:Hid (X6 (wn n++aA p).toArray=vt):=h2;have K2:Hid (Dz d w R g l j):=K.grow F2.2;have HN:=Hid.mk' (Kn hk.out X.out R);rw[h2.out]at HN;clear K;go_wp2_with (first|(refine Yv rfl 124 _ rfl g (37*j) ?_ (wn n++aA p) d' ?_ ?_ ?_ ?_ ?_;rfl;exact B0.out;exact U.1;exact U.2;exact O.out;rw[f.out])|(refine bF (v:=jZ wr.heap.size) (w':=L) rfl (.alloc 124) rfl ?_ ?_;(rw[<-Z.out];kernel_rfl))|(refine X8 rfl 124 _ _ rfl wr.heap.size 0 (wn n++aA p).toArray ?_ ?_ ?_ ?_ ?_ ?_;rfl;exact f.symm;exact N.2;exact N.1;exact h3.out;rw[show(wn n++aA p).toArray.toList=wn n++aA p from rfl,h5.out])|(refine Yv rfl 124 _ rfl wr.heap.size 0 ?_ (wn n++aA p) d' ?_ ?_ ?_ ?_ ?_;rfl;exact F2.1.2.1;exact U.1;exact U.2;exact O.out;rw[f.out])|fail)
    refine HN.mono ?_;rintro e Y ⟨vv,rfl,P,rfl⟩;have K3:Hid (Dz d w Y g l j/\Row Y wr.heap.size (wn n++aA p)):=⟨K2.grow P,F2.1.below P⟩
    clear P K2 HN F2 F1;by_cases J:n=0
    ·rw[show decide (n=0)=true by simp[J]];have K4:Hid (Dz d w Y g l (j+1)):=K3.1.skip k (by rw[r.out];exact J);have T:Hid ((LF (l.take (j+1))).length=i):=by
      show _=_;rw[qB k,yES (by rw[r.out];exact J),yAh];exact o.out
     go_wp2;go_roundg (gk-1)
     case measure=>omega
     case rel=>exact⟨j+1,oM,oM,rfl,by rw[T.out],K4⟩
    ·rw[show decide (n=0)=false by simp[J]];obtain⟨W4,h9⟩:∃W4,Hid (Y.setCells g (37*i) (wn n++aA p)=W4):=⟨_,rfl⟩
     have K4:Hid (Dz d w W4 g l (j+1)):=by
      have h:=K3.1.put H.1 H.2.2.1 k (by rw[r.out];exact J);rw[o.out,r.out,M.out,h9.out]at h;exact h
     have T:Hid ((LF (l.take (j+1))).length=i+1):=by
      show _=_;rw[qB k,yET (by rw[r.out];exact J),XC,o.out];rfl
     have hl:Hid (Y.there g (37*i) (wn n++aA p).toArray.size):=by
      have e:(wn n++aA p).toArray.size=37:=by rw[YD];exact y
      rw[e];intro t ht;have:=K3.1.th (37*i+t) oM;rwa[XD]at this
     have hp:=atT g 0 l.length c i z;go_wp2_with (first|(refine Yv rfl 124 _ rfl wr.heap.size 0 ?_ (wn n++aA p) d' ?_ ?_ ?_ ?_ ?_;rfl;exact K3.2.2.1;exact U.1;exact U.2;exact O.out;rw[f.out])|(refine X8 rfl 124 _ _ rfl g (37*i) (wn n++aA p).toArray ?_ ?_ ?_ ?_ ?_ ?_;rfl;exact f.symm;exact hl.out;exact N.1;exact h3.out;rw[show(wn n++aA p).toArray.toList=wn n++aA p from rfl,h9.out])|fail)
     go_roundg (gk-1)
     case measure=>omega
     case rel=>exact⟨j+1,oM,oM,rfl,by rw[T.out];rfl,K4⟩
   ·have hm:¬(j:Int)<(l.length:Int):=oM;obtain rfl:j=l.length:=oM;have I:LF (l.take l.length)=LF l:=by rw[yDC]
    rw[I];have z:(LF l).length<l.length:=by have:=HZ.out l.length h1 (Xx _);rw[I]at this;exact this
    have y:∀a (Q:a<(LF l).length),Rw wr g a ((LF l)[a]):=λa Q=>by
     have:=K.lo a (by rw[I];exact Q);simp only[I]at this;exact this
    have f:∀x∈LF l,(wn x.1++aA x.2).length=37:=λx hx=>iF (H.2.2.1 _ (Yw.2 ⟨x,B9 hx,rfl⟩))
    obtain⟨Z,N⟩:=OO g (LF l).length (l.length-(LF l).length) (c-(LF l).length) wr oM (by rw[show(LF l).length+(l.length-(LF l).length)=l.length by omega];exact K.th);obtain⟨J,r⟩:∃J,Hid (wr.setCells g (37*(LF l).length) Z=J):=⟨_,rfl⟩
    rw[r.out]at N;have O:Hid (Below d w J/\TmL J (some (aZ g)) (LF l)):=by
     rw[<-r.out];refine⟨RG.below_setCells H.1 _ _ _ K.bl,λ_=>⟨g,rfl,by rw[setCells_size];exact K.lt,λa Q=>?_⟩⟩;exact Yk (y a Q) g _ _ (X0 (X9 (by rw[f _ (YL Q)];omega)))
    have M:=VY g l.length c (LF l).length z H.2.1;have L:=VZ g l.length c (LF l).length oM H.2.1;clear K y f I r;obtain⟨i,o⟩:∃i,Hid ((LF l).length=i):=⟨_,rfl⟩
    rw[o.out]at M L N z⊢;go_wp2;go_ret;exact⟨_,rfl,O.1,some (aZ g),c,by rw[o.out];rfl,O.2⟩
theorem TJ{p:Option YW}{n c:Nat}{x:UInt8}:encB x≠.slice p n c:=λh=>by cases h
def El(n:Nat)(W:Xs)(x:Xu)(b:Bs):Prop:=∃k c,x=sZ k n c/\n<=c/\b.size=n/\k<W.heap.size/\Holds encB W k 0 b
def isL(n:Nat)(W:Xs)(g:Nat):Prop:=∃p c,W.cell? ⟨g,0,none⟩=some (.slice p n c)
structure Gr(n:Nat)(v:Xu)(W W':Xs):Prop where
 gr:W.grownBy W' v.ownBlock
 is:∀g,v.ownBlock=some g->isL n W g
theorem Gr.of{W W':Xs}{n:Nat}(h:kZ W W'):Gr n (.slice none 0 0) W W':=
 ⟨⟨h.os,h.tape,h.output,h.size,λk b _=>h.block k b⟩,λg c=>by cases c⟩
theorem Gr.below{n:Nat}{v:Xu}{w W W':Xs}{B:Nat}(h:Gr n v W W')(d:Below B w W)(c:B<=W.heap.size)(hv:∀g,v.ownBlock=some g->B<=g):Below B w W':=
 d.grown h.gr c (λk b=>hv k b)
theorem Gr.block{n k:Nat}{v:Xu}{W W':Xs}(h:Gr n v W W')(d:k<W.heap.size)(b:∀p c,W.cell? ⟨k,0,none⟩≠some (.slice p n c)):W'.heap[k]? = W.heap[k]? :=
 h.gr.block k d λe=>by
  obtain⟨p,c,f⟩:=h.is k e.symm;exact b p c f
theorem Holds.kept{W W':Xs}{k:Nat}{b:Bs}(h:Holds encB W k 0 b)(e:W'.heap[k]? = W.heap[k]?):Holds encB W' k 0 b:=λj c=>by
 rw[XW (a:=⟨k,0+j,none⟩) e,Y0 (a:=⟨k,0+j,none⟩) e];exact h j c
theorem El.kept{m n:Nat}{v x:Xu}{W W':Xs}{b:Bs}(h:El m W x b)(l:0<m)(d:Gr n v W W'):El m W' x b:=by
 obtain⟨k,c,rfl,i,j,e,f⟩:=h;refine⟨k,c,rfl,i,j,Xz e d.gr.size,Holds.kept f (d.block e λp o g=>?_)⟩;have:=(f 0 oM).1;rw[XD,g]at this;exact TJ (XS.inj this).symm
theorem Row.kept{n k:Nat}{v:Xu}{W W':Xs}{vs:List Xu}(h:Row W k vs)(f:Gr n v W W')(d:∀p c,vs[0]?≠some (.slice p n c))(g:0<vs.length):Row W' k vs:=by
 have e:=f.block h.1 λp c i=>by
  have b:=h.2.1 0 vs[0] (XJ g);rw[XD,i]at b;exact d p c (by rw[XJ g,b])
 refine⟨Xz h.1 f.gr.size,λj u b=>?_,λj b=>?_⟩
 ·rw[XW (a:=⟨k,0+j,none⟩) e];exact h.2.1 j u b
 ·rw[XW (a:=⟨k,0+j,none⟩) e,Y0 (a:=⟨k,0+j,none⟩) e];exact h.2.2 j b
structure Lo(n base:Nat)(W:Xs)(v:Xu)(bs:List Bs):Prop where
 ex:∃xs:List Xu,xs.length=bs.length/\W.ownsRow base 23 1 v bs.length xs/\∀(j:Nat) (x:Xu) (b:Bs),xs[j]? = some x->bs[j]? = some b->El n W x b
 nil:bs=[]->v=.slice none 0 0
theorem Lo.begin(n k:Nat)(W:Xs):Lo n k W (.slice none 0 0) []:=⟨⟨[],rfl,yDm _ _ _ _,λj x b h=>by cases h⟩,λ_=>rfl⟩
theorem add0(g j:Nat):(⟨g,0,none⟩:YW).add j=⟨g,j,none⟩:=by unfold yB3;split<;>simp_all
theorem Lo.isL{n d:Nat}{W:Xs}{v:Xu}{j:List Bs}(h:Lo n d W v j){g:Nat}(i:v.ownBlock=some g):isL n W g:=by
 obtain⟨xs,l,m,o⟩:=h.ex;have f:j≠[]:=λe=>by rw[h.nil e]at i;cases i
 cases j with
 | nil=>exact absurd rfl f
 | cons b r =>
  cases xs with
  | nil=>cases l
  | cons x xr =>
   obtain⟨k,c,rfl,-⟩:=o 0 x b rfl rfl;have:=m.cells i 0 _ rfl;rw[add0]at this;exact⟨_,_,this⟩
theorem Lo.lt{n k:Nat}{W:Xs}{v:Xu}{c:List Bs}(h:Lo n k W v c):∀g,v.ownBlock=some g->k<=g/\g<W.heap.size:=by
 obtain⟨xs,d,b,e⟩:=h.ex;exact b.lt
theorem Lo.kept{m n d:Nat}{W W':Xs}{v u:Xu}{l:List Bs}(h:Lo m d W v l)(s:0<m)(f:Gr n u W W')(i:m≠n):Lo m d W' v l:=by
 have r:=λ{g}=>h.isL (g:=g)
 obtain⟨xs,w,y,t⟩:=h.ex;refine⟨⟨xs,w,y.kept f.gr ?_,λj x b hx q=>(t j x b hx q).kept s f⟩,h.nil⟩;cases hv:v.ownBlock with
 | none=>exact X9 rfl
 | some g =>
  refine X0 λe=>i ?_
  obtain⟨p,c,o⟩:=r hv;obtain⟨z,a,k⟩:=f.is g e.symm;rw[o]at k;injection k with k
  injection k with _ h5 _
theorem UH:(prog.info? 23).map (λi=>(i.size,i.bytes,i.zero.map λz=>z.cells.size))=some (1,24,some 1):=kR
theorem VQ:prog.underlying 27=some (.slice 23):=kR
theorem Lo.app{n f g:Nat}{W:Xs}{v x:Xu}{o:List Bs}{b:Bs}(h:Lo n f W v o)(t:0<n)(hx:El n W x b)(C:W.cell? ⟨g,0,none⟩=some x)(Q:o.length<=1000000)(E:f<=W.heap.size):
 ∃q W',(YA #[27,27] 27 #[v,sZ g 1 1]).run prog W=.ok q W'/\Lo n f W' q (o++[b])/\Gr n v W W':=by
 obtain⟨i,H,a⟩:=XA.1 UH;simp only[Ze.injEq]at a;obtain⟨K,L,J⟩:=a;obtain⟨z,I,s⟩:=XA.1 J;obtain⟨xs,w,N,F⟩:=h.ex;obtain⟨q,W',A,D,M,O⟩:=yBO (P:=prog) W f 27 27 23 i z 1 24 VQ H I K L s dC v o.length xs N (aZ g) 1 1 [x] rfl
  (λj u r=>by
   cases j with
   | zero =>
    obtain rfl:x=u:=by simpa using r
    rw[add0];exact C
   | succ j=>simp at r) (λu l=>by
   obtain rfl:u=x:=by simpa using l
   obtain⟨k,c,rfl,-⟩:=hx;rfl) (by unfold maxLen;omega) oM E
 have G:Gr n v W W':=⟨M,λg B=>h.isL B⟩
 refine⟨q,W',A,⟨⟨xs++[x],by simp[w],by rw[XC];exact D,λj y c m l=>?_⟩,λe=>by simp at e⟩,G⟩;by_cases r:j<o.length
 ·rw[XQ oM]at m l;exact(F j y c m l).kept t G
 ·rw[XR oM]at m l;rw[w]at m;cases p:j-o.length with
  | zero =>
   rw[p]at m l;obtain rfl:x=y:=by simpa using m
   obtain rfl:b=c:=by simpa using l
   exact hx.kept t G
  | succ d=>rw[p]at m;simp at m
theorem Ib{a:Bs}(g:a.size=33)(w:Xs):XH prog 19 #[pvl a] w (rZ w λe w'=>El 33 w' e a):=by
 have f:=Hid.mk' (sM g w);obtain⟨c,b⟩:=hE (w.alloc (.cells (aA a).toArray 51));rw[b.out]at f;have K:Hid (Row c w.heap.size (aA a)/\kZ w c):=by rw[<-b.out];exact⟨row_new w _ _,aC w _⟩
 obtain⟨va,k⟩:=hE (pvl a);have d:Hid ((Yl 51 va).run prog w=.ok (jZ w.heap.size) c):=by rw[<-k.out];exact f
 rw[k.out];have i:=TT w.heap.size;go_enter func19,ntmps19;go_wp2_with (first|(refine aG (u:=va) (v:=jZ w.heap.size) (w':=c) rfl 51 (.tmp 0) rfl ?_ ?_ ?_;rfl;exact d.out))
 go_ret;exact⟨_,rfl,K.2,w.heap.size,33,rfl,oM,g,K.1.1,row_holds K.1⟩
def Bo(n c:Nat)(W:Xs)(v:Xu)(b:Bs):Prop:=∃k x,v=sZ k 1 1/\c<=k/\k<W.heap.size/\W.cell? ⟨k,0,none⟩=some x/\El n W x b
theorem Bo.kept{m n c:Nat}{W W':Xs}{v u:Xu}{b:Bs}(h:Bo n c W v b)(i:0<n)(d:Gr m u W W')(o:∀g,u.ownBlock=some g->g<c):Bo n c W' v b:=by
 obtain⟨k,x,rfl,p,f,j,l⟩:=h;refine⟨k,x,rfl,p,Xz f d.gr.size,?_,l.kept i d⟩;rw[XW (a:=⟨k,0,none⟩) (d.gr.block k f λe=>by have:=o k e.symm;omega)];exact j
def Tm(W:Xs)(q:Option YW)(k:Nat)(ns:Nat->Nat)(b:Nat->Bs):Prop:=0<k->∃g,q=some (aZ g)/\g<W.heap.size/\∀j,j<k->W.rangeAt g (37*j) (wn (ns j)++aA (b j))
theorem Tm.kept{m k:Nat}{W W':Xs}{u:Xu}{q:Option YW}{ns:Nat->Nat}{b:Nat->Bs}(h:Tm W q k ns b)(d:Gr m u W W'):Tm W' q k ns b:=λn=>by
 obtain⟨g,t,o,f⟩:=h n;refine⟨g,t,Xz o d.gr.size,λj s i v hv=>?_⟩;have e:=d.block o λp c r=>by
  have l:=f 0 n 0 _ (show(wn (ns 0)++aA (b 0))[0]? = some _ from rfl);rw[show 37*0+0=0 from rfl,r]at l;cases l
 rw[XW (a:=⟨g,37*j+i,none⟩) e];exact f j s i v hv
section
variable (w0:Xs) (v3 v4:Xu) (k6 n B0 base:Nat) (p:Bs) (bs cs:List Bs) (q:Option YW) (k:Nat) (ns:Nat->Nat) (az:Nat->Bs)
def PR:Nat->Xu->Xs->Prop
 | 0,v,_=>v=v3
 | 1,v,_=>v=jZ k6
 | 2,v,_=>v=nv n
 | 3,v,w=>El 32 w v (bx n)
 | 4,v,w=>Bo 32 B0 w v (bx n)
 | 5,v,w=>Lo 32 base w v (bs++[bx n])
 | 6,v,_=>v=v4
 | 7,v,_=>v=oZ k6 4
 | 8,v,_=>v=pvl p
 | 9,v,w=>El 33 w v p
 | 10,v,w=>Bo 33 B0 w v p
 | 11,v,w=>Lo 33 base w v (cs++[p])
 | 12,v,w=>Lo 32 base w v (bs++[bx n])
 | 13,v,w=>Lo 33 base w v (cs++[p])
 | _,_,_=>True
def PBs:Nat->Xs->Prop
 | 0,w=>Row w k6 (wn n++aA p)
 | 1,w=>Lo 32 base w v3 bs
 | 2,w=>Lo 33 base w v4 cs
 | 3,w=>Below base w0 w/\base<=w.heap.size/\B0<=w.heap.size
 | 4,w=>Tm w q k ns az
 | 5,w=>Row w base z33
 | _,_=>True
def PE:Nat->Xs->Xs->Prop
 | 5=>Gr 32 v3
 | 11=>Gr 33 v4
 | _=>Gr 0 (.slice none 0 0)
def Pk1:Nat->List Nat
 | 4=>[5]
 | 10=>[11]
 | _=>[]
def Pk2:Nat->List Nat
 | 1=>[5]
 | 2=>[11]
 | _=>[]
def FP:Flow:=⟨PR v3 v4 k6 n B0 base p bs cs,PBs w0 v3 v4 k6 n B0 base p bs cs q k ns az,PE v3 v4,Pk1,Pk2⟩
theorem MH{i:Nat}{w w':Xs}(h:PE v3 v4 i w w'):∃m u,Gr m u w w'/\((i=5/\m=32/\u=v3)\/(i=11/\m=33/\u=v4)\/(i≠5/\i≠11/\m=0/\u=.slice none 0 0)):=by
 unfold PE at h;split at h
 ·exact⟨_,_,h,X9 ⟨rfl,rfl,rfl⟩⟩
 ·exact⟨_,_,h,X0 (X9 ⟨rfl,rfl,rfl⟩)⟩
 ·rename_i h1 h2
  exact⟨_,_,h,X0 (X0 ⟨h1,h2,rfl,rfl⟩)⟩
variable (hv3:∀g,v3.ownBlock=some g->base<=g/\g<B0) (hv4:∀g,v4.ownBlock=some g->base<=g/\g<B0)
include hv3 hv4
theorem MG{i m:Nat}{u:Xu}(h:(i=5/\m=32/\u=v3)\/(i=11/\m=33/\u=v4)\/(i≠5/\i≠11/\m=0/\u=.slice none 0 0)):∀g,u.ownBlock=some g->base<=g/\g<B0:=by
 rcases h with⟨-,-,rfl⟩|⟨-,-,rfl⟩|⟨-,-,-,rfl⟩
 ·exact hv3
 ·exact hv4
 ·intro g k;cases k
theorem Tk(i j:Nat)(r:j<14)(c:i≠j)(t:(Pk1 j).contains i=false)(q:¬(j=12/\i=5))(l:¬(j=13/\i=11))(v:Xu)(w w':Xs)(hE:PE v3 v4 i w w')(hR:PR v3 v4 k6 n B0 base p bs cs j v w):PR v3 v4 k6 n B0 base p bs cs j v w':=by
 obtain⟨m,u,k,o⟩:=MH v3 v4 hE;have s:=MG v3 v4 B0 base hv3 hv4 o;have f:m=32->i=5:=λh=>by rcases o with⟨q,-⟩|⟨-,l,-⟩|⟨-,-,l,-⟩<;>omega
 have d:m=33->i=11:=λh=>by rcases o with⟨-,l,-⟩|⟨q,-⟩|⟨-,-,l,-⟩<;>omega
 match j,r,hR with
 | 0,_,h=>exact h
 | 1,_,h=>exact h
 | 2,_,h=>exact h
 | 3,_,h=>exact El.kept h dC k
 | 4,_,h=>exact Bo.kept h dC k λg b=>(s g b).2
 | 5,_,h=>exact Lo.kept h dC k λe=>c (f e.symm)
 | 6,_,h=>exact h
 | 7,_,h=>exact h
 | 8,_,h=>exact h
 | 9,_,h=>exact El.kept h dC k
 | 10,_,h=>exact Bo.kept h dC k λg b=>(s g b).2
 | 11,_,h=>exact Lo.kept h dC k λe=>c (d e.symm)
 | 12,_,h=>exact Lo.kept h dC k λe=>q ⟨rfl,f e.symm⟩
 | 13,_,h=>exact Lo.kept h dC k λe=>l ⟨rfl,d e.symm⟩
 | _+14,r,_=>omega
theorem Pj(i b:Nat)(f:(Pk2 b).contains i=false)(w w':Xs)(hE:PE v3 v4 i w w')(hR:PBs w0 v3 v4 k6 n B0 base p bs cs q k ns az b w):PBs w0 v3 v4 k6 n B0 base p bs cs q k ns az b w':=by
 obtain⟨m,u,d,j⟩:=MH v3 v4 hE;have t:=MG v3 v4 B0 base hv3 hv4 j;have r:m=32->i=5:=λh=>by rcases j with⟨v,-⟩|⟨-,s,-⟩|⟨-,-,s,-⟩<;>omega
 have l:m=33->i=11:=λh=>by rcases j with⟨-,s,-⟩|⟨v,-⟩|⟨-,-,s,-⟩<;>omega
 match b,f,hR with
 | 0,_,h=>exact Row.kept h d (λp c e=>by cases e) (by rw[XC];exact Xz dC (yBI 4 _))
 | 1,f,h=>exact Lo.kept h dC d λe=>by rw[r e.symm]at f;cases f
 | 2,f,h=>exact Lo.kept h dC d λe=>by rw[l e.symm]at f;cases f
 | 3,_,h=>exact⟨d.below h.1 h.2.1 λg o=>(t g o).1,XB h.2.1 d.gr.size,XB h.2.2 d.gr.size⟩
 | 4,_,h=>exact Tm.kept h d
 | 5,_,h=>exact Row.kept h d (λp c e=>by cases e) dC
 | _+6,_,_=>trivial
end
theorem Lo.drew{n k:Nat}{W:Xs}{v:Xu}{b:List Bs}(h:Lo n k W v b):Lo n k W.drew v b:=⟨h.ex,h.nil⟩
theorem SumR.all(C:Fld P)(O:Ord N){w w':Xs}{k:Nat}(y:k<=512){ns:Nat->Nat}{X:Nat->EC.Pt P}(n:∀j,j<k->ns j<N)(t:∀j,j<k->On (X j)){L M:Nat->Bs}(u:∀j,j<k->L j=bx (ns j))(v:∀j,j<k->M j=wr (X j)){e:Xu}(h:SumR P N w k k L M e w'):
 I3 w (wr (tot X k (λj=>(ns j:Int)))) e w':=by
 have s:∀j,j<k->rq N (L j)=some (ns j):=λj b=>by
  rw[u j b];have c:=EZ (Xz (n j b) O.le);unfold rq;rw[yES ⟨cU _,by rw[c];exact n j b⟩,c]
 have r:∀j,j<k->∃p,rd P (M j)=some p/\pt p=X j:=λj b=>by rw[v j b];exact xT C (t j b)
 rcases h with⟨h,-⟩|⟨-,h,-⟩|⟨-,-,⟨⟨j,b,c⟩,-⟩|⟨d,o,⟨⟨j,b,c⟩,-⟩|⟨xs,ys,m,h⟩⟩⟩
 ·exact absurd rfl h
 ·omega
 ·rw[s j b]at c;cases c
 ·obtain⟨p,f,-⟩:=r j b;rw[f]at c;cases c
 ·have q:∀j,j<k->d j=ns j:=λj b=>by
   have:=o j b;rw[s j b]at this;exact(XS.inj this).symm
  have f:∀j,j<k->Pair (xs j) (ys j) (X j)/\On (X j):=λj b=>by
   obtain⟨p,f,hpt⟩:=r j b;have l:=m j b;rw[f]at l;have x:=XS.inj l;have g:=Ua C f;rw[hpt]at g;rw[x]at g;exact g
  have l:=Ch C (ns:=d) (xs:=xs) (ys:=ys) (p:=X) (N:=k) (λi g=>by rw[q i g];exact Xz (n i g) O.le) (λi g=>(f i g).1) (λi g=>(f i g).2);have x:tot X k (λj=>(d j:Int))=tot X k (λj=>(ns j:Int)):=eM k λj b=>by rw[q j b]
  rw[x]at l;rw[<-wU C (l.pair C) l.2];exact h
structure Pz(w W:Xs)(q:Option YW)(k i:Nat)(ns:Nat->Nat)(az:Nat->Bs)(s3 s4:Xu):Prop where
 bl:kZ w W
 l3:Lo 32 w.heap.size W s3 ((Yt i).map λj=>bx (ns j))
 l4:Lo 33 w.heap.size W s4 ((Yt i).map az)
 tm:Tm W q k ns az
 r2:Row W w.heap.size z33
theorem El.of_made{w w':Xs}{k n:Nat}{b:Bs}(h:Made w k (cb b) w')(c:b.size=n):El n w' (sZ k n n) b:=⟨k,n,rfl,Xx _,c,h.lt,cb_holds h.range h.there⟩
theorem Xf(x:Xu)(hx:∃p n c,x=.slice p n c)(w:Xs):(Yr 27 1 #[(0,x)]).run prog w=.ok (sZ w.heap.size 1 1) (w.alloc (.cells #[x] 23)):=by
 obtain⟨p,n,c,rfl⟩:=hx;kernel_rfl
theorem Bo.of{n k:Nat}{w:Xs}{x:Xu}{b:Bs}(h:El n w x b)(c:0<n)(d:k<=w.heap.size)(T:Yd):Bo n k (w.alloc (.cells #[x] T)) (sZ w.heap.size 1 1) b:=
 ⟨w.heap.size,x,rfl,d,by rw[XF];omega,by rw[World.cell?_alloc_new];rfl,h.kept c (Gr.of (n:=0) (aC w _))⟩
theorem Lo.args{n k:Nat}{W:Xs}{v:Xu}{c:List Bs}(h:Lo n k W v c):∃q cap,v=.slice q c.length cap/\(0<c.length->∃g,q=some (aZ g)/\g<W.heap.size/\∀(j:Nat) (b:Bs),c[j]? = some b->∃x,W.cell? ⟨g,j,none⟩=some x/\El n W x b):=by
 obtain⟨xs,p,f,l⟩:=h.ex;have m:=λ{g:Nat}=>f.cells (g:=g)
 rcases f.2 with⟨rfl,o⟩|⟨g,cap,cur,rfl,-,i,-⟩
 ·exact⟨none,0,by rw[o],λh=>oM⟩
 ·refine⟨_,_,rfl,λ_=>⟨g,rfl,(XY.1 i).1,λj b d=>?_⟩⟩;have e:j<xs.length:=by rw[p];exact(XG.1 d).1
  have:=m (g:=g) rfl j xs[j] (XJ e);rw[add0]at this;exact⟨_,this,l j _ b (XJ e) d⟩
theorem El.arg{W:Xs}{x:Xu}{b:Bs}(h:El 32 W x b):Arg W x b:=by
 obtain⟨k,c,rfl,e,f,g,d⟩:=h;exact⟨_,_,_,rfl,f,λ_=>⟨k,0,rfl,e,g,d⟩⟩
theorem El.arg33{W:Xs}{x:Xu}{b:Bs}(h:El 33 W x b):Arg33 W x b:=by
 obtain⟨k,c,rfl,e,f,g,d⟩:=h;exact⟨_,_,_,rfl,f,λ_=>⟨k,0,rfl,e,g,d⟩⟩
theorem xI(C:Fld P)(O:Ord N)(v:Xu)(w:Xs)(k:Nat)(hk:k<=512)(ns:Nat->Nat)(X:Nat->EC.Pt P)(hn:∀j,j<k->ns j<N)(hX:∀j,j<k->On (X j))
 (A:∀W,kZ w W->XH prog 63 #[v] W (rZ W λe w'=>∃q cap,e=.slice q k cap/\Tm w' q k ns (λj=>wr (X j)))) :
 XH prog 33 #[v] w (rZ w λe w'=>e=pvl (wr (tot X k (λj=>(ns j:Int))))):=by
 have HM:=Hid.mk' A;have y:Hid (Fld P/\Ord N/\(∀j,j<k->ns j<N)/\∀j,j<k->On (X j)):=⟨C,O,hn,hX⟩
 obtain⟨s,J⟩:∃s:Nat->Bs,Hid ((λj=>wr (X j))=s):=⟨_,rfl⟩
 have D:Hid (∀j,s j=wr (X j)):=λj=>by rw[<-J.out]
 rw[J.out]at HM;obtain⟨Y,L⟩:∃Y,Hid (w.alloc (.cells z33.toArray 51)=Y):=⟨_,rfl⟩
 have K1:Hid (Row Y w.heap.size z33/\kZ w Y):=by rw[<-L.out];exact⟨row_new w _ _,aC w _⟩
 obtain⟨d,h5,h8⟩:=XA.1 uCP;obtain⟨d',hl,Z⟩:=XA.1 uT;have HD:Hid ((prog.underlying 51=some d/\d.isRow=true)/\prog.underlying 124=some d'/\d'.isRow=true):=⟨⟨h5,h8⟩,hl,Z⟩
 clear h5 h8 hl Z A hn hX J C O;go_enter func33,ntmps33;go_wp2_with (refine bF (v:=jZ w.heap.size) (w':=Y) rfl (.alloc 51) rfl ?_ ?_;(rw[<-L.out];kernel_rfl))
 clear L;refine(HM Y K1.2).mono ?_;rintro e w2 ⟨vv,rfl,G,q,cap,rfl,U⟩;have K2:Hid (Pz w w2 q k 0 ns s (.slice none 0 0) (.slice none 0 0)):=⟨K1.2.trans (G.mono K1.2.size),Lo.begin _ _ _,Lo.begin _ _ _,U,K1.1.below G⟩
 clear G U K1 HM;go_wp2_with fail
 go_loopg [3,4,12] k (λm s3 s4 s12 W=>∃i:Nat,i+m=k/\s12=iZ i/\Hid (Pz w W q k i ns s s3 s4))
 case atStart=>exact⟨0,oM,rfl,K2⟩
 case round =>
  clear K2;obtain⟨i,k2,rfl,l⟩:=hrel;by_cases hi:i<k
  ·have hz:(i:Int)<(k:Int):=oM;obtain⟨g,hq,B,hr⟩:=l.tm oM;subst hq;obtain⟨n,S⟩:∃n,Hid (ns i=n):=⟨_,rfl⟩
   obtain⟨p,I⟩:∃p,Hid (s i=p):=⟨_,rfl⟩
   have B0:Hid (wr.rangeAt g (37*i) (wn n++aA p)):=by
    have h:=hr i hi;rw[S.out,I.out]at h;exact h
   have H:Hid (p.size=33):=by rw[<-I.out,D.out i];exact aL _
   have hs:Hid (n<N):=by rw[<-S.out];exact y.2.2.1 i hi
   obtain⟨F,ha⟩:∃F,Hid (wr.alloc (.cells zT.toArray 124)=F):=⟨_,rfl⟩
   obtain⟨r,hc⟩:∃r,Hid (F.setCells wr.heap.size 0 (wn n++aA p)=r):=⟨_,rfl⟩
   have f:(wn n++aA p).length=37:=by rw[XC,aB H.out];rfl
   have F1:Hid (Row F wr.heap.size zT/\kZ wr F/\F.heap.size=wr.heap.size+1):=by rw[<-ha.out];exact⟨row_new wr _ _,aC wr _,XF _ _⟩
   have E:Hid (Row r wr.heap.size (wn n++aA p)/\kZ wr r):=by rw[<-hc.out];exact⟨F1.1.put (by rw[f];rfl),RG.below_setCells (Xx _) _ _ _ F1.2.1⟩
   have hw:Hid ((prog.info? 124).map (·.size)=some (wn n++aA p).length):=by show _=_;rw[f];exact iT
   have h9:Hid ((prog.info? 124).map (·.size)=some (wn n++aA p).toArray.size/\F.there wr.heap.size 0 (wn n++aA p).toArray.size):=by
    have e:(wn n++aA p).toArray.size=37:=by rw[YD];exact f
    rw[e];exact⟨iT,F1.1.2.2⟩
   have hy:Hid ((wn n++aA p).toArray.all (·.oneCell')=true):=by
    show _=_;rw[ZF];intro u c;exact cells_one n p u (yAE.1 c)
   have k3:=atT g 0 k cap i hi;obtain⟨vt,t⟩:∃v,Hid (X6 (wn n++aA p).toArray=v):=⟨_,rfl⟩
   have G2:Gr 0 (.slice none 0 0) wr r:=Gr.of E.2;have HB:Hid (∀b,PBs w u3 u4 wr.heap.size n r.heap.size w.heap.size p ((Yt i).map λj=>bx (ns j)) ((Yt i).map s) (some (aZ g)) k ns s b r.drew):=λb=>by
    match b with
    | 0=>exact E.1
    | 1=>exact(l.l3.kept dC G2 dC).drew
    | 2=>exact(l.l4.kept dC G2 dC).drew
    | 3=>exact⟨(l.bl.trans (E.2.mono l.bl.size)).drew,XB l.bl.size E.2.size,Xx _⟩
    | 4=>exact l.tm.kept (W':=r) G2
    | 5=>exact l.r2.below (W':=r) E.2
    | _+6=>trivial
   have H3:Hid (∀g,u3.ownBlock=some g->w.heap.size<=g/\g<r.heap.size):=λg B=>⟨(l.l3.lt g B).1,Xz (l.l3.lt g B).2 E.2.size⟩
   have H4:Hid (∀g,u4.ownBlock=some g->w.heap.size<=g/\g<r.heap.size):=λg B=>⟨(l.l4.lt g B).1,Xz (l.l4.lt g B).2 E.2.size⟩
   have HG:=Hid.mk' B;clear f hr G2 l E B;go_wp2_with (first|(refine Yv rfl 124 _ rfl g (37*i) ?_ (wn n++aA p) d' ?_ ?_ ?_ ?_ ?_;rfl;exact B0.out;exact HD.2.1;exact HD.2.2;exact hw.out;rw[t.out])|(refine bF (v:=jZ wr.heap.size) (w':=F) rfl (.alloc 124) rfl ?_ ?_;(rw[<-ha.out];kernel_rfl))|(refine X8 rfl 124 _ _ rfl wr.heap.size 0 (wn n++aA p).toArray ?_ ?_ ?_ ?_ ?_ ?_;rfl;exact t.symm;exact h9.2;exact h9.1;exact hy.out;rw[show(wn n++aA p).toArray.toList=wn n++aA p from rfl,hc.out])|fail)
   refine qV (FP w u3 u4 wr.heap.size n r.heap.size w.heap.size p ((Yt i).map λj=>bx (ns j)) ((Yt i).map s) (some (aZ g)) k ns s) kR ⟨kR,Dg ?_,λi' j k1 hj ht R z=>Tk u3 u4 wr.heap.size n r.heap.size w.heap.size p _ _ H3.out H4.out i' j hj ht R (λh=>by rw[h.1,h.2]at z;exact absurd (show false=true from z.symm.trans kR) dC) (λh=>by rw[h.1,h.2]at z;exact absurd (show false=true from z.symm.trans kR) dC),λi' b _ R=>Pj w u3 u4 wr.heap.size n r.heap.size w.heap.size p _ _ _ k ns s H3.out H4.out i' b R⟩ HB.out ?_
   ·have o:∀W:Xs,Gr 0 (.slice none 0 0) W W:=λW=>Gr.of (XM _ _)
    refine⟨nC 3 λa W c=>⟨a.eval (.tmp 3),W,kR,kR,o W,c.o 3 kR⟩,
     nC 6 λa W c=>⟨jZ wr.heap.size,W,kR,by rw[show a.eval (.tmp 6)=jZ wr.heap.size from c.o 6 kR];kernel_rfl,o W,rfl⟩,
     BS 44 17 rfl u40 λa W c=>⟨wr.heap.size,0,wn n,c.n 1 17 kR kR kR,kH (show Row W wr.heap.size (wn n++aA p) from c.b 0 kR).2.1,i40,o W,rfl⟩,
     GX 18 λa W c=>⟨10,#[nv n],kR,by rw[show a.eval (.tmp 18)=nv n from c.n 2 18 kR kR kR];kernel_rfl,(nS y.2.1 hs.out W).mono (by
      rintro e W' ⟨u,rfl,V,K,rfl⟩;exact⟨_,rfl,Gr.of K.bel,El.of_made K (cU n)⟩)⟩,
     nC 19 λa W c=>⟨sZ W.heap.size 1 1,W.alloc (.cells #[a.eval (.tmp 19)] 23),kR,by
      obtain⟨V,Q,K,-⟩:=show El 32 W (a.eval (.tmp 19)) (bx n) from c.n 3 19 kR kR kR
      rw[K];kernel_rfl,Gr.of (aC W _),Bo.of (show El 32 W (a.eval (.tmp 19)) (bx n) from c.n 3 19 kR kR kR) dC (c.b 3 kR).2.2 _⟩,
     LZ 16 20 27 rfl λa W c=>?_,
     nC 4 λa W c=>⟨a.eval (.tmp 4),W,kR,kR,o W,c.o 4 kR⟩,
     nC 6 λa W c=>⟨oZ wr.heap.size 4,W,kR,by rw[show a.eval (.tmp 6)=jZ wr.heap.size from c.o 6 kR];kernel_rfl,o W,rfl⟩,
     BS 51 23 rfl uCP λa W c=>⟨wr.heap.size,4,aA p,c.n 7 23 kR kR kR,mO (xs:=wn n) (show Row W wr.heap.size (wn n++aA p) from c.b 0 kR).2.1,by rw[aB H.out];exact cZ,o W,rfl⟩,
     GX 24 λa W c=>⟨19,#[pvl p],kR,by rw[show a.eval (.tmp 24)=pvl p from c.n 8 24 kR kR kR];kernel_rfl,(Ib H.out W).mono (by
      rintro e W' ⟨u,rfl,M,hE⟩;exact⟨_,rfl,Gr.of M,hE⟩)⟩,
     nC 25 λa W c=>⟨sZ W.heap.size 1 1,W.alloc (.cells #[a.eval (.tmp 25)] 23),kR,by
      obtain⟨V,Q,K,-⟩:=show El 33 W (a.eval (.tmp 25)) p from c.n 9 25 kR kR kR
      rw[K];kernel_rfl,Gr.of (aC W _),Bo.of (show El 33 W (a.eval (.tmp 25)) p from c.n 9 25 kR kR kR) dC (c.b 3 kR).2.2 _⟩,
     LZ 22 26 27 rfl λa W c=>?_,
     nC 21 λa W c=>⟨a.eval (.tmp 21),W,kR,kR,o W,c.n 5 21 kR kR kR⟩,
     nC 27 λa W c=>⟨a.eval (.tmp 27),W,kR,kR,o W,c.n 11 27 kR kR kR⟩,yEU⟩
    ·obtain⟨V,x,K,h1,h2,M,Q⟩:=show Bo 32 r.heap.size W (a.eval (.tmp 20)) (bx n) from c.n 4 20 kR kR kR
     obtain⟨v',W',r1,r2,r3⟩:=Lo.app (show Lo 32 w.heap.size W u3 _ from c.b 1 kR) dC Q M (by rw[XV,yAg];omega) (c.b 3 kR).2.1;refine⟨v',W',?_,r3,r2⟩;rw[K,show a.eval (.tmp 16)=u3 from c.n 0 16 kR kR kR];exact r1
    ·obtain⟨V,x,K,h1,h2,M,Q⟩:=show Bo 33 r.heap.size W (a.eval (.tmp 26)) p from c.n 10 26 kR kR kR
     obtain⟨v',W',r1,r2,r3⟩:=Lo.app (show Lo 33 w.heap.size W u4 _ from c.b 2 kR) dC Q M (by rw[XV,yAg];omega) (c.b 3 kR).2.1;refine⟨v',W',?_,r3,r2⟩;rw[K,show a.eval (.tmp 22)=u4 from c.n 6 22 kR kR kR];exact r1
   ·intro V K o c;have KN:Hid (Pz w K (some (aZ g)) k (i+1) ns s (V 12) (V 13)):=by
     have h1:=o 12 (ZW (Yy kR)) rfl;have h2:=o 13 (ZW (Yy kR)) rfl;refine⟨(c 3 rfl).1,?_,?_,c 4 rfl,c 5 rfl⟩
     ·rw[yBe,YU];show Lo 32 w.heap.size K (V 12) (_++[bx (ns i)]);rw[S.out];exact h1
     ·rw[yBe,YU];show Lo 33 w.heap.size K (V 13) (_++[s i]);rw[I.out];exact h2
    clear o c HB H3 H4;dsimp only[bY,YH];generalize V 12=s3 at KN⊢;generalize V 13=s4 at KN⊢;go_wp2;go_roundg (gk-1)
    case measure=>omega
    case rel=>exact⟨i+1,oM,rfl,KN⟩
  ·have hz:¬(i:Int)<(k:Int):=oM;obtain rfl:i=k:=oM;obtain⟨q3,c3,rfl,M⟩:=l.l3.args;obtain⟨q4,c4,rfl,Q⟩:=l.l4.args;rw[XV,yAg]at M Q;have HA:Hid (wX wr q3 i (λj=>bx (ns j))):=λI=>by
    obtain⟨g,c,o,e3⟩:=M I;refine⟨g,c,o,λj hj=>?_⟩;obtain⟨x,z,r⟩:=e3 j (bx (ns j)) (by rw[Ys,yBg hj];rfl);exact⟨x,z,r.arg⟩
   have S:Hid (ArgsPts wr q4 i s):=λI=>by
    obtain⟨g,c,o,e3⟩:=Q I;refine⟨g,c,o,λj hj=>?_⟩;obtain⟨x,z,r⟩:=e3 j (s j) (by rw[Ys,yBg hj];rfl);exact⟨x,z,r.arg33⟩
   rw[XV,yAg,XV,yAg];have E:Hid (kZ w wr/\Row wr w.heap.size z33):=⟨l.bl,l.r2⟩
   clear M Q l;go_wp2_with fail
   refine(Sx y.1 y.2.1.gap y.2.1.le q3 q4 i c3 i c4 (λj=>bx (ns j)) s wr HA.out S.out).mono ?_;rintro e o ⟨vv,rfl,c,hS⟩;obtain⟨H,cs,rfl,-,-,h6,K⟩:=SumR.all y.1 y.2.1 oM y.2.2.1 y.2.2.2 (λ_ _=>rfl) (λj _=>D.out j) hS;obtain⟨T,U⟩:∃T,Hid (Go.Proofs.YtlofhpkoaljmeaaGreat.wr (tot X i (λj=>(ns j:Int)))=T):=⟨_,rfl⟩
   have R:T.size=33:=by rw[<-U.out];exact aL _
   rw[U.out]at K;have B:Hid (Row o w.heap.size z33/\kZ w o/\Row o H (aA T)):=⟨E.2.below c,E.1.trans (c.mono E.1.size),qP K h6⟩
   clear c hS h6 K E HA S;have k0:=He H cs;obtain⟨F,r⟩:∃F,Hid (o.setCells w.heap.size 0 (aA T)=F):=⟨_,rfl⟩
   have f:(aA T).length=33:=aB R;have V:Hid (Row F w.heap.size (aA T)/\kZ w F):=by rw[<-r.out];exact⟨B.1.put (by rw[f];rfl),RG.below_setCells (Xx _) _ _ _ B.2.1⟩
   obtain⟨vt,t⟩:∃vt,Hid (X6 (aA T).toArray=vt):=⟨_,rfl⟩
   have z:Hid ((prog.info? 51).map (·.size)=some (aA T).length/\o.there w.heap.size 0 (aA T).toArray.size/\(prog.info? 51).map (·.size)=some (aA T).toArray.size):=by
    have e:(aA T).toArray.size=33:=by rw[YD];exact f
    refine⟨by rw[f];exact cZ,by rw[e];exact B.1.2.2,by rw[e];exact cZ⟩
   clear f;go_wp2_with (first|(refine Yv rfl 51 _ rfl H 0 ?_ (aA T) d ?_ ?_ ?_ ?_ ?_;rfl;exact B.2.2.2.1;exact HD.1.1;exact HD.1.2;exact z.1;rw[t.out])|(refine X8 rfl 51 _ _ rfl w.heap.size 0 (aA T).toArray ?_ ?_ ?_ ?_ ?_ ?_;rfl;exact t.symm;exact z.2.1;exact z.2.2;exact bQ T;rw[show(aA T).toArray.toList=aA T from rfl,r.out]))
   refine XE (aF 2 51 rfl V.1 rfl uCP z.1) rfl ?_;exact⟨_,rfl,V.2,by rw[U.out];rfl⟩
end
namespace EC
variable {P:Nat}[NeZero P]
def pts(P:Nat)[NeZero P]:List (Pt P):=
 none :: (yD9 P).flatMap λx=>((yD9 P).filter λy=>decide (y^2=x^3+7)).map λy=>some (x,y)
theorem mW(a:Pt P):a∈pts P↔On a:=by
 unfold pts;rcases a with _|⟨x,y⟩
 ·exact⟨λ_=>trivial,λ_=>YC⟩
 ·rw[YX,yDD];constructor
  ·rintro(h|⟨u,-,h⟩)
   ·cases h
   ·obtain⟨v,hv,e⟩:=Yw.1 h;cases e
    have k:=(yBH.1 hv).2;exact(decide_eq_true_iff (p:=y^2=x^3+7)).1 k
  ·intro h;have h:=h;exact X0 ⟨x,yDt x,Yw.2 ⟨y,yBH.2 ⟨yDt y,decide_eq_true h⟩,rfl⟩⟩
theorem AC:(pts P).Nodup:=by
 unfold pts;refine yAu.2 ⟨λh=>?_,?_⟩
 ·obtain⟨u,-,h⟩:=yDD.1 h;obtain⟨v,-,e⟩:=Yw.1 h;cases e
 ·refine List.pairwise_flatMap.2 ⟨λx _=>yDs.2 ?_,?_⟩
  ·refine yCE ?_ ((yBT P).sublist yDe);intro a b h e;exact h (by cases e;rfl)
  ·refine yCE ?_ (yBT P);intro a b h u k v hv e;obtain⟨c,-,rfl⟩:=Yw.1 k;obtain⟨d,-,rfl⟩:=Yw.1 hv;exact h (by cases e;rfl)
theorem Nr{u v c:Fin P}(k:u^2=c)(hv:v^2=c):(u-v)*(u+v)=0:=by grobner
theorem Od{a b d:Fin P}(k:a+b=0)(c:a+d=0):b=d:=by grobner
theorem Hy(C:Cur P){c:Fin P}:∀l:List (Fin P),l.Nodup->(∀y,y∈l->y^2=c)->l.length<=2
 | [],_,_=>Zh _
 | [_],_,_=>Nat.le_succ _
 | [_,_],_,_=>Xx _
 | a :: b :: d :: l,k,h=>by
  exfalso;have g:=h a (by simp);have m:=h b (by simp);have hd:=h d (by simp);have o:a≠b:=λe=>(yAu.1 k).1 (by rw[e];simp)
  have n:a≠d:=λe=>(yAu.1 k).1 (by rw[e];simp)
  have i:b≠d:=λe=>(yAu.1 (yAu.1 k).2).1 (by rw[e];simp)
  have f:∀u v:Fin P,u^2=c->v^2=c->u≠v->u+v=0:=λu v q hv k=>by
   exact Zm λj=>cI C.pr (qL k) j (Nr q hv)
  have j:=f a b g m o;have p:=f a d g hd n;exact i (Od j p)
theorem C9{α β:Type}(f:α->List β)(k:Nat)(h:∀a,(f a).length<=k):∀l:List α,(l.flatMap f).length<=k*l.length
 | []=>Zh _
 | a :: l=>by
  rw[yB9,XC,Yq,yAS,yEm];exact Nat.add_le_add (C9 f k h l) (h a)
theorem Ou(C:Cur P):(pts P).length<=2*P+1:=by
 unfold pts;rw[Yq];refine Nat.succ_le_succ (XB (C9 _ 2 (λx=>?_) _) (by rw[List.length_finRange];exact Xx _));rw[XV];exact Hy C (c:=x^3+7) _ ((yBT P).sublist yDe) λy k=>of_decide_eq_true (yBH.1 k).2
theorem NV:0<(pts P).length:=Nat.succ_pos _
def vU:List (Pt P)->Pt P
 | []=>none
 | a :: l=>add a (vU l)
theorem wN(C:Cur P):∀l:List (Pt P),(∀a,a∈l->On a)->On (vU l)
 | [],_=>jB
 | a :: l,h=>C.on (h a YC) (wN C l λb k=>h b (Ym _ k))
theorem Ir(C:Cur P){l m:List (Pt P)}(p:l.Perm m):(∀a,a∈l->On a)->vU l=vU m:=by
 induction p with
 | nil=>intro _;rfl
 | cons x _ ih =>
  intro h;show add x _=add x _;rw[ih λb k=>h b (Ym _ k)]
 | swap x y l =>
  intro h;have c:=h y YC;have hx:=h x (Ym _ YC);have d:=wN C l λb k=>h b (Ym _ (Ym _ k))
  show add y (add x (vU l))=add x (add y (vU l));rw[<-C.assoc c hx d,C.comm c hx,C.assoc hx c d]
 | trans p _ ih1 ih2 =>
  intro h;rw[ih1 h,ih2 λa k=>h a (p.mem_iff.2 k)]
theorem yJ(C:Cur P){r:Pt P}(k:On r):∀l:List (Pt P),(∀a,a∈l->On a)->vU (l.map λa=>add a r)=add (vU l) (mul l.length r)
 | [],_=>rfl
 | a :: l,h=>by
  have e:=h a YC;have c:∀b,b∈l->On b:=λb d=>h b (Ym _ d)
  show add (add a r) (vU (l.map _))=add (add a (vU l)) (add (mul l.length r) r);rw[yJ C k l c,C.comm (cG C k _) k,C.swap e k (wN C l c) (cG C k _)]
theorem zS(C:Cur P){a b r:Pt P}(d:On a)(c:On b)(k:On r)(e:add a r=add b r):a=b:=by
 have:add (add a r) (neg r)=add (add b r) (neg r):=by rw[e]
 rwa[C.assoc d k (cE k),C.assoc c k (cE k),add_neg,bM,bM]at this
theorem xN(C:Cur P){r:Pt P}(k:On r):((pts P).map λa=>add a r).Perm (pts P):=by
 refine(List.perm_ext_iff_of_nodup ?_ AC).2 λa=>?_
 ·refine yDs.2 (List.Pairwise.imp_of_mem ?_ (AC (P:=P)));intro a b c d h e;exact h (zS C ((mW a).1 c) ((mW b).1 d) k e)
 ·rw[mW,Yw];constructor
  ·rintro⟨b,d,rfl⟩;exact C.on ((mW b).1 d) k
  ·intro c;refine⟨add a (neg r),(mW _).2 (C.on c (cE k)),?_⟩;rw[C.assoc c (cE k) k,C.neg_l k,bM]
theorem Gp(C:Cur P){r:Pt P}(k:On r):mul (pts P).length r=none:=by
 have f:∀a,a∈pts P->On a:=λa b=>(mW a).1 b
 have c:=yJ C k (pts P) f;rw[Ir C (xN C k) λa b=>(mW a).1 ((xN C k).mem_iff.1 b)]at c;have d:=wN C (pts P) f;have e:=cG C k (pts P).length;have g:add (mul (pts P).length r) (vU (pts P))=add none (vU (pts P)):=by
  rw[C.comm e d,<-c,jS]
 exact zS C e jB d g
theorem mU(C:Cur P){a:Pt P}(k:On a)(m:Nat):∀n,mul (m*n) a=mul n (mul m a)
 | 0=>rfl
 | n+1=>by
  rw[yAS,mul_add C k,mU C k m n];rfl
theorem nZ:∀n,mul n (none:Pt P)=none
 | 0=>rfl
 | n+1=>by
  show add (mul n none) none=none;rw[nZ n];rfl
theorem DJ(C:Cur P){a:Pt P}(k:On a)(e:add a a=none):a=none:=by
 rcases a with _|⟨x,y⟩
 ·rfl
 ·exfalso;have ho:=C.opp_ne k;rw[cD C.pr C.two k k ho (bW C.pr C.two k k ho)]at e;cases e
theorem Ka(C:Cur P){n:Nat}(f:IsP n)(p:2*P+1<3*n){g:Pt P}(k:On g)(m:g≠none)(l:mul n g=none){r:Pt P}(d:On r):mul n r=none:=by
 have hd:n ∣ (pts P).length:=Zm λhd=>by
  have i:=f.fermat1 _ hd;have e:mul ((pts P).length^(n-1)) g=none:=by
   have:n-1=(n-2)+1:=by have:=f.1;omega
   rw[this,Zf,YF,mU C k,Gp C k,nZ]
  have b:=yCL ((pts P).length^(n-1)) n;rw[i]at b;rw[<-b,mul_add C k,mU C k,l,nZ,jS]at e;exact m e
 obtain⟨c,j⟩:=hd;have i:=Ou C;have o:=NV (P:=P);have b:=Gp C d;rw[j]at i o b;have e:c<3:=Nat.lt_of_mul_lt_mul_left (a:=n) oM;match c,e with
 | 0,_=>omega
 | 1,_=>rwa[Nat.mul_one]at b
 | 2,_ =>
  rw[mU C d]at b;exact DJ C (cG C d n) b
end EC
section
variable {P:Nat}[NeZero P]{N:Nat}
def gK(P:Nat)[NeZero P](b:Bs):EC.Pt P:=match rd P b with|some p=>pt p|none=>none
theorem mG(C:Fld P){X:EC.Pt P}(h:On X):gK P (wr X)=X:=by
 obtain⟨p,k,b⟩:=xT C h;unfold gK;rw[k];exact b
def fX(P:Nat)[NeZero P]:List (Nat × Bs)->EC.Pt P
 | []=>none
 | x :: r=>EC.add (mul x.1 (gK P x.2)) (fX P r)
def PtsL(P:Nat)[NeZero P](l:List (Nat × Bs)):Prop:=∀x∈l,∃X:EC.Pt P,On X/\x.2=wr X
theorem PtsL.on(C:Fld P){l:List (Nat × Bs)}(h:PtsL P l){x:Nat × Bs}(hx:x∈l):On (gK P x.2):=by
 obtain⟨X,k,b⟩:=h x hx;rw[b,mG C k];exact k
theorem oR(C:Fld P):∀ {l:List (Nat × Bs)},PtsL P l->On (fX P l)
 | [],_=>jB
 | x :: r,h=>C.cur.on (cG C.cur (h.on C YC) _) (oR C λy k=>h y (Ym _ k))
theorem Al(C:Fld P)(y:Nat × Bs)(b:On (gK P y.2)):∀ {l:List (Nat × Bs)},PtsL P l->fX P (l++[y])=EC.add (fX P l) (mul y.1 (gK P y.2))
 | [],_=>bM _
 | x :: r,h=>by
  have k:PtsL P r:=λz c=>h z (Ym _ c)
  show EC.add (mul x.1 (gK P x.2)) (fX P (r++[y]))=_;rw[Al C y b k];exact(C.cur.assoc (cG C.cur (h.on C YC) _) (oR C k) (cG C.cur b _)).symm
theorem Bf:∀l:List (Nat × Bs),fX P (LF l)=fX P l
 | []=>rfl
 | x :: r=>by
  unfold LF;rw[List.filter_cons];by_cases h:x.1=0
  ·rw[yET (by simp[h])];show fX P (LF r)=EC.add (mul x.1 (gK P x.2)) (fX P r);rw[h,Bf r];rfl
  ·rw[yES (by simp[h])];show EC.add _ (fX P (LF r))=EC.add _ (fX P r);rw[Bf r]
theorem mul_mod(C:Fld P)(k:∀r:EC.Pt P,On r->mul N r=none){X:EC.Pt P}(b:On X)(n:Nat):mul (n%N) X=mul n X:=by
 have h:=mul_add C.cur b (N*(n/N)) (n%N);rw[yCL,mU C.cur b N (n/N),k X b,nZ,jS]at h;exact h.symm
theorem Am(C:Fld P)(k:∀r:EC.Pt P,On r->mul N r=none)(n:Nat)(p:Bs)(c:On (gK P p)):∀ {l:List (Nat × Bs)},PtsL P l->fX P (fR N l n p)=EC.add (fX P l) (mul n (gK P p))
 | [],_=>bM _
 | (s,q) :: r,h=>by
  have g:PtsL P r:=λz i=>h z (Ym _ i)
  have j:=h.on C (x:=(s,q)) YC;have f:=cG C.cur j s;have b:=oR C g;have d:=cG C.cur c n;unfold fR;by_cases e:p=q
  ·rw[yES e];subst e;show EC.add (mul (sPl N s n) (gK P p)) (fX P r)=EC.add (EC.add (mul s (gK P p)) (fX P r)) (mul n (gK P p));unfold sPl;rw[mul_mod C k c,mul_add C.cur c,C.cur.assoc f d b,C.cur.assoc f b d,C.cur.comm d b]
  ·rw[yET e];show EC.add (mul s (gK P q)) (fX P (fR N r n p))=EC.add (EC.add (mul s (gK P q)) (fX P r)) (mul n (gK P p));rw[Am C k n p c g,C.cur.assoc f b d]
theorem Hj{n:Nat}{p:Bs}(k:∃X:EC.Pt P,On X/\p=wr X):∀ {l:List (Nat × Bs)},PtsL P l->PtsL P (fR N l n p)
 | [],_=>λx hx=>by
  have:x=(n,p):=by simpa[fR]using hx
  rw[this];exact k
 | (s,q) :: r,h=>by
  have b:PtsL P r:=λz c=>h z (Ym _ c)
  unfold fR;split
  ·intro x hx;rcases YX.1 hx with rfl|hx
   ·exact h (s,q) YC
   ·exact b x hx
  ·intro x hx;rcases YX.1 hx with rfl|hx
   ·exact h (s,q) YC
   ·exact Hj k b x hx
theorem Bz(ns:Nat->Nat)(X:Nat->EC.Pt P){k:Nat}(b:∀j,j<k->On (X j)):∀i,i<=k->PtsL P (mrg N ns (λj=>wr (X j)) i)
 | 0,_=>λx hx=>by cases hx
 | i+1,hi=>Hj ⟨X i,b i oM,rfl⟩ (Bz ns X b i oM)
theorem Gq(C:Fld P)(b:∀r:EC.Pt P,On r->mul N r=none)(ns:Nat->Nat)(X:Nat->EC.Pt P){k:Nat}(d:∀j,j<k->On (X j)):∀i,i<=k->fX P (mrg N ns (λj=>wr (X j)) i)=tot X i (λj=>(ns j:Int))
 | 0,_=>rfl
 | i+1,hi=>by
  have c:=d i oM;show fX P (fR N (mrg N ns (λj=>wr (X j)) i) (ns i) (wr (X i)))=EC.add (tot X i (λj=>(ns j:Int))) (mul (ns i) (X i));rw[Am C b _ _ (by rw[mG C c];exact c) (Bz ns X d i oM),Gq C b ns X d i oM,mG C c]
theorem xF(C:Fld P)(l:List (Nat × Bs))(h:PtsL P l):∀i,i<=l.length->tot (λj=>gK P ((l[j]?).getD (0,#[])).2) i (λj=>(((l[j]?).getD (0,#[])).1:Int))=fX P (l.take i)
 | 0,_=>by rw[List.take_zero];rfl
 | i+1,hi=>by
  have k:i<l.length:=oM;show EC.add (tot _ i _) (mul ((l[i]?).getD (0,#[])).1 (gK P ((l[i]?).getD (0,#[])).2))=_;rw[xF C l h i oM,yCl,XJ k];exact(Al C (l[i]) (h.on C (YL k)) λx hx=>h x (yC5 hx)).symm
theorem DU(C:Fld P)(O:Ord N)(p:∀r:EC.Pt P,On r->mul N r=none)(g k c:Nat)(R:0<k)(T:k<=512)(ns:Nat->Nat)(X:Nat->EC.Pt P)(F:∀j,j<k->ns j<N)(D:∀j,j<k->On (X j))(w:Xs)(E:g<w.heap.size)(J:∀j,j<k->w.rangeAt g (37*j) (wn (ns j)++aA (wr (X j)))):
 XH prog 33 #[sZ g k c] w (rZ w λe w'=>e=pvl (wr (tot X k (λj=>(ns j:Int))))):=by
 have G:=Bz (N:=N) ns X D k (Xx _);have n:=Eu O ns (λj=>wr (X j)) F k (Xx _);have o:=yG (N:=N) ns (λj=>wr (X j)) (k:=k) (λj _=>aL _) k (Xx _);have z:=BA (N:=N) ns (λj=>wr (X j)) k;have i:=Gq C p ns X D k (Xx _);have f:0<(mrg N ns (λj=>wr (X j)) k).length:=by
  obtain⟨b,rfl⟩:∃b,k=b+1:=⟨k-1,oM⟩
  show 0<(fR N _ _ _).length;cases mrg N ns (λj=>wr (X j)) b with
  | nil=>exact Nat.lt_succ_self 0
  | cons x r=>unfold fR;split<;>simp
 have l:=λW (s:kZ w W)=>Kw O (λe w'=>kZ W w'/\∃q cap,e=.slice q (LF (mrg N ns (λj=>wr (X j)) k)).length cap/\TmL w' q (LF (mrg N ns (λj=>wr (X j)) k))) g k c oM ns (λj=>wr (X j)) (λj _=>aL _) F W (Xz E s.size) (λj b=>RG.range_below (J j b) s E) (λW' v m=>by
  refine(LP _ f oM o (λx hx=>Xz (n x hx) O.le) W.heap.size v W' m.bl.size m.ow).mono ?_;rintro e w' ⟨u,rfl,d,a⟩;exact⟨_,rfl,m.bl.trans d,a⟩)
 generalize mrg N ns (λj=>wr (X j)) k=L at G n o z i f l;have t:PtsL P (LF L):=λx hx=>G x (B9 hx)
 have S:(LF L).length<=L.length:=yC1 _ _;refine(xI C O _ w (LF L).length oM (λj=>(((LF L)[j]?).getD (0,#[])).1) (λj=>gK P (((LF L)[j]?).getD (0,#[])).2) (λj b=>by rw[XJ b];exact n _ (B9 (YL b))) (λj b=>by rw[XJ b];exact t.on C (YL b)) λW s=>?_).mono ?_
 ·refine(l W s).mono ?_;rintro e w' ⟨u,rfl,d,q,cap,rfl,a⟩;refine⟨_,rfl,d,q,cap,rfl,λM=>?_⟩;obtain⟨y,I,K,e3⟩:=a M;refine⟨y,I,K,λj b=>?_⟩;have Q:=e3 j b;obtain⟨Y,H,B⟩:=t _ (YL b);show w'.rangeAt y (37*j) (wn (((LF L)[j]?).getD (0,#[])).1++aA (wr (gK P (((LF L)[j]?).getD (0,#[])).2)));rw[XJ b];show w'.rangeAt y (37*j) (wn ((LF L)[j]).1++aA (wr (gK P ((LF L)[j]).2)));rw[B,mG C H,<-B];exact Q
 ·rintro e w' ⟨u,rfl,d,rfl⟩;refine⟨_,rfl,d,?_⟩;rw[xF C (LF L) t _ (Xx _),yDC,Bf,i]
theorem Tw:prog.underlying 23=some (.slice 5):=kR
theorem Ty:prog.underlying 3=some (.int .i64):=kR
theorem PY:(prog.info? 5).map (λi=>(i.size,i.bytes,i.zero.map λz=>z.cells.size))=some (1,1,some 1):=kR
theorem atB(k o n c i:Nat)(b:i<n)(w:Xs):(Yi 27 (.slice (some ⟨k,o,none⟩) n c) (iZ i)).run prog w=.ok (.pointer (some ⟨k,o+1*i,none⟩)) w:=by
 go_simp
theorem Sw(n:Nat)(y:n<=10000000)(w:Xs):XH prog 45 #[.slice none 0 0,iZ n] w (rZ w λe w'=>w'.ownsRow w.heap.size 5 1 e 0 []):=by
 by_cases t:n=0
 ·subst t;go_enter func45,ntmps45;go_wp2;go_ret;exact⟨_,rfl,XM _ _,yDm _ _ _ _⟩
 ·obtain⟨i,m,r⟩:=XA.1 PY;simp only[Ze.injEq]at r;obtain⟨u,q,p⟩:=r;obtain⟨z,o,f⟩:=XA.1 p;have d:=Lib.run_append_nil_zeros (P:=prog) w 23 3 23 5 i z .i64 .i64 Tw Ty m o n oM oM oM (by rw[q];omega);have g:=grownCap_ge w n 0 5;have k:=grownCap_le_maxLen w n 0 5 (by unfold maxLen;omega);have b:(Zw z.cells n++Zw z.cells (grownCap w n 0 5-n)).size=grownCap w n 0 5*1:=by rw[Yg,size_zeroCells,size_zeroCells,f];omega
  generalize grownCap w n 0 5=l at d g k b;generalize Zw z.cells n++Zw z.cells (l-n)=cur at d b;obtain⟨j,c⟩:∃j,Hid (w.drew.alloc (.cells cur 5)=j):=⟨_,rfl⟩
  rw[c.out]at d;have v:=Hid.mk' d;have K:Hid (kZ w j/\j.ownsRow w.heap.size 5 1 (sZ w.heap.size 0 l) 0 []):=by
   rw[<-c.out];exact⟨(XM _ _).drew.alloc (Xx _) _,World.ownsRow_made w.drew cur l (Xx _) k b⟩
  clear d c b m o f u q p;have s:(0:Int)<(n:Int):=oM;have x:¬((n:Int)<0):=oM;have a:Yh.wrap (n:Int)=n:=by rw[Zc];omega
  go_enter func45,ntmps45;go_wp2_with (at_builtin;refine Lib.wpList_append_run _ rfl _ _ _ _ rfl _ _ rfl rfl _ _ v.out ?_)
  go_ret;exact⟨_,rfl,K.1,K.2⟩
def iD(L:Nat->Bs)(k:Nat):List UInt8:=(Yt k).flatMap λj=>(L j).toList
theorem hZ(L:Nat->Bs)(i:Nat):iD L (i+1)=iD L i++(L i).toList:=by
 unfold iD;rw[yBe,yB0];simp
theorem GZ(L:Nat->Bs){k m:Nat}(b:∀j,j<k->(L j).size<=m):∀i,i<=k->(iD L i).length<=m*i
 | 0,_=>Xx _
 | i+1,hi=>by
  have c:=GZ L b i oM;have d:=b i oM;have e:(L i).toList.length=(L i).size:=rfl;rw[hZ,XC,e,yAS];omega
theorem El.below{n B:Nat}{W W':Xs}{x:Xu}{b:Bs}(h:El n W x b)(d:Below B W W')(j:W.heap.size<=B):El n W' x b:=by
 obtain⟨k,c,rfl,f,g,i,e⟩:=h;exact⟨k,c,rfl,f,g,Xz i d.size,Holds.kept e (d.block k oM)⟩
theorem Ob{d n m:Nat}{W:Xs}{v x:Xu}{xs:List Xu}{b:Bs}(e:W.ownsRow d 5 1 v n xs)(hx:El m W x b)(G:n+m<=100000000)(p:d<=W.heap.size):
 ∃f W',(YA #[23,23] 23 #[v,x]).run prog W=.ok f W'/\W'.ownsRow d 5 1 f (n+m) (xs++cb b)/\W.grownBy W' v.ownBlock:=by
 obtain⟨i,r,l⟩:=XA.1 PY;simp only[Ze.injEq]at l;obtain⟨A,B,t⟩:=l;obtain⟨z,s,g⟩:=XA.1 t;obtain⟨k,c,rfl,F,w,e3,C⟩:=hx;obtain⟨f,W',o,E,D,-⟩:=yBO (P:=prog) W d 23 23 5 i z 1 1 Tw r s A B g dC v n xs e (aZ k) m c (cb b) (by rw[lZ,w];omega)
  (λj u q=>by
   have:=(sK C).1 j u q;rw[XD]at this;rw[add0];exact this) (λu a=>by
   obtain⟨y,-,rfl⟩:=Yw.1 a;rfl) (by unfold maxLen;omega) oM p
 exact⟨f,W',o,E,D⟩
theorem SS(L:Nat->Bs)(i:Nat):(iD L (i+1)).map encB=(iD L i).map encB++cb (L i):=by rw[hZ,YU];rfl
theorem Dc(g k c:Nat)(L:Nat->Bs)(N:k<=1000)(J:∀j,j<k->(L j).size<=10000)(w:Xs)(D:g<w.heap.size)(G:∀j,j<k->∃x,w.cell? ⟨g,j,none⟩=some x/\El (L j).size w x (L j)):
 XH prog 23 #[sZ g k c] w (rZ w λe w'=>w'.ownsRow w.heap.size 5 1 e (iD L k).length ((iD L k).map encB)):=by
 have HL:=Hid.mk' G;have t:Hid (∀i,i<=k->(iD L i).length<=10000*i):=GZ L J;have R:=Hid.mk' D;clear G J D;go_enter func23,ntmps23;go_wp2_with fail
 go_loopg [3,11] k (λm s3 s11 W=>∃i:Nat,i+m=k/\s11=iZ i/\s3=iZ ((iD L i).length:Int)/\w=W)
 case atStart=>exact⟨0,oM,rfl,rfl,rfl⟩
 case round =>
  obtain⟨i,U,rfl,rfl,rfl⟩:=hrel;by_cases I:i<k
  ·have u:(i:Int)<(k:Int):=oM;obtain⟨x,E,hE⟩:=HL.out i I;obtain⟨Q,O,rfl,s,-⟩:=hE;have n:=atB g 0 k c i I;rw[show 0+1*i=i by omega]at n;have d:(iD L (i+1)).length=(iD L i).length+(L i).size:=by rw[hZ,XC];rfl
   have l:=t.out i oM;have o:=t.out (i+1) oM;obtain⟨a,q⟩:∃a,Hid ((iD L i).length=a):=⟨_,rfl⟩
   obtain⟨b,f⟩:∃b,Hid ((L i).size=b):=⟨_,rfl⟩
   rw[q.out]at d l;rw[f.out]at d s;rw[q.out];have z:Yh.wrap ((a:Int)+(b:Int))=((a+b:Nat):Int):=by rw[Zc];omega
   have r:¬(((a+b:Nat):Int)<0):=oM;rw[f.out]at E;go_wp2;go_roundg (gk-1)
   case measure=>omega
   case rel=>exact⟨i+1,oM,rfl,by rw[d,Int.natCast_add],rfl⟩
  ·have u:¬(i:Int)<(k:Int):=oM;obtain rfl:i=k:=oM;go_wp2_with fail
   refine(Sw (iD L i).length (by have:=t.out i (Xx _);omega) w).mono ?_;rintro e M ⟨v,rfl,l,r⟩;have F:Hid (kZ w M/\M.ownsRow w.heap.size 5 1 v (iD L 0).length ((iD L 0).map encB)):=⟨l,r⟩
   clear l r;go_wp2_with fail
   go_loopg [6,27] i (λm s6 s27 W=>∃j:Nat,j+m=i/\s27=iZ j/\Hid (kZ w W/\W.ownsRow w.heap.size 5 1 s6 (iD L j).length ((iD L j).map encB)))
   case atStart=>exact⟨0,oM,rfl,F⟩
   case round =>
    clear F;obtain⟨j,S,rfl,f⟩:=hrel;by_cases H:j<i
    ·have z:(j:Int)<(i:Int):=oM;obtain⟨x,s,q⟩:=HL.out j H;have E:wr.cell? ⟨g,j,none⟩=some x:=by rw[f.1.cell (p:=⟨g,j,none⟩) R.out];exact s
     have hE:=q.below f.1 (Xx _);have o:=t.out (j+1) oM;have d:(iD L (j+1)).length=(iD L j).length+(L j).size:=by rw[hZ,XC];rfl
     obtain⟨K,W',C,B,P⟩:=Ob f.2 hE oM f.1.size;rw[<-d,<-SS]at B;have T:Hid (kZ w W'/\W'.ownsRow w.heap.size 5 1 K (iD L (j+1)).length ((iD L (j+1)).map encB)):=⟨f.1.grown P f.1.size (λk N=>(f.2.lt k N).1),B⟩
     have A:=Hid.mk' C;obtain⟨Q,O,rfl,-⟩:=hE;have n:=atB g 0 i c j H;rw[show 0+1*j=j by omega]at n;clear C B P d o f q s;go_wp2_with (first|(refine mF (x:=u6) (y:=sZ Q (L j).size O) (v:=K) (w':=W') rfl _ _ 23 rfl ?_ ?_ ?_ ?_;rfl;rfl;exact A.out)|fail)
     go_roundg (gk-1)
     case measure=>omega
     case rel=>exact⟨j+1,oM,rfl,T⟩
    ·have z:¬(j:Int)<(i:Int):=oM;obtain rfl:j=i:=oM;go_wp2;go_ret;exact⟨_,rfl,f.1,f.2⟩
end
section
open Go.Shelf
attribute [local go_sem] yBM
variable {P:Nat}[NeZero P]
theorem BG{w w':Xs}(h:kZ w w')(row:Option Nat):w.grownBy w' row:=⟨h.os,h.tape,h.output,h.size,λk b _=>h.block k b⟩
theorem KW{w:Xs}{g o:Nat}{k:Bs}(h:Holds encB w g o k)(b:0<k.size):g<w.heap.size:=by
 obtain⟨c,ho,-⟩:=cells_of_cell (h 0 b).1;exact(XY.1 ho).1
noncomputable def cand (P:Nat) [NeZero P] (k:ByteArray) (b:List UInt8) (i:Nat):Option (Fin P × Fin P):=
 if beV (iU ((⟨#[112,111,105,110,116,32]⟩:ByteArray)++k).data.toList [b,[XN i]]).toList<P then
  (rt (ZS P (beV (iU ((⟨#[112,111,105,110,116,32]⟩:ByteArray)++k).data.toList [b,[XN i]]).toList)*ZS P (beV (iU ((⟨#[112,111,105,110,116,32]⟩:ByteArray)++k).data.toList [b,[XN i]]).toList)*ZS P (beV (iU ((⟨#[112,111,105,110,116,32]⟩:ByteArray)++k).data.toList [b,[XN i]]).toList)+7)).map λy=>(ZS P (beV (iU ((⟨#[112,111,105,110,116,32]⟩:ByteArray)++k).data.toList [b,[XN i]]).toList),y)
 else none
noncomputable def cands (P:Nat) [NeZero P] (k:ByteArray) (b:List UInt8) (i:Nat):List (Fin P × Fin P):=(Yt i).filterMap (cand P k b)
theorem jW(k:ByteArray)(b:List UInt8)(i:Nat):cands P k b (i+1)=cands P k b i++(cand P k b i).toList:=by
 unfold cands;rw[yBe,List.filterMap_append];cases h:cand P k b i<;>simp[h]
theorem IP(k:ByteArray)(b:List UInt8){i j:Nat}(h:i<=j):cands P k b i <+: cands P k b j:=by
 induction j with
 | zero=>rw[Nat.le_zero.1 h];exact yDP
 | succ j ih =>
  rcases Zq i (j+1)with c|c
  ·rw[jW];exact(ih oM).trans (List.prefix_append _ _)
  ·rw[show i=j+1 by omega];exact yDP
theorem IQ(k:ByteArray)(b:List UInt8)(i:Nat):(cands P k b i).length<=i:=by
 unfold cands;exact XB (List.length_filterMap_le _ _) (by rw[yAg];exact Xx _)
end
section
open Go.Shelf
attribute [local go_sem] yBM
section
variable {F:Fence}{n:Nat}{P:YG}{ops:Array Yo}{rest:List Yo}{op:Yo}{a:Act}{w:Xs}{Q:yAL->Act->Xs->Prop}
theorem qC(g:YS op (yielded ops a.tmps)=true)(k:Yd)(x:yAf)(ho:op.op=.load k x)(b o:Nat)(hx:a.eval x=oZ b o)(cs:List Xu)(d:TypeDesc)(i:w.rangeAt b o cs)
 (l:P.underlying k=some d) (hd:d.isRow=true) (j:(P.info? k).map (·.size)=some cs.length) (h:wpListIn F n P ops Q rest (a.put op.dst (.agg cs.toArray)) w):wpListIn F n P ops Q (op :: rest) a w:=
 wpListIn_step λK m=>by
  rw[g,yES rfl];refine⟨λf hf=>(by unfold yDo at hf;rw[ho]at hf;cases hf),?_⟩;rw[yCO _ _ _ (λc=>by rw[ho];intro e;cases e)];unfold Yb;simp only[ho,hx,yCe,yAC,XT,Zj,Yu,yAA w b o k cs d i l hd j];exact m _ _ h
end
variable {P:Nat}[NeZero P]
theorem Hid.mk{p:Prop}(h:p):Hid p:=h
theorem RZ(C:Fld P)(c:ByteArray)(vb:Xu)(b:List UInt8)(k1 k2:Nat)(w:Xs)(kf:c.size<=1000000)(h1:w.cell? ⟨k1,0,none⟩=some (.string c))(h2:w.cell? ⟨k2,0,none⟩=some vb)(l1:k1<w.heap.size)(l2:k2<w.heap.size)(hb:PartOk w vb b)(n:Nat):
 SeqStopsK yCH n prog 117 #[jZ k1,jZ k2] (λx:Fin P × Fin P=>#[pv x.1 x.2]) (Below w.heap.size) (λxs=>xs=cands P c b 256) (λk=>k <+: cands P c b 256) 256 w:=by
 have HP:=hb;obtain⟨a0,sb,so,cap,bs,rfl,-,-,-,-⟩:=hb;intro l J Jx W hW hJ kh hY h0;refine callsIn_of_wp func117 rfl trivial ?_ rfl;simp only[ntmps117,YD,Yq,Zr,YH,yC4,yBS,yBR,yCm,yB1,ZE,Zx]
 gi_wp2
 gi_loopw [10] (λp wr=>∃i:Nat,i<=256/\p=iZ i/\J (cands P c b i) wr/\kZ w wr/\W.heap.size<=wr.heap.size) (λp wr=>256-(intOf p).toNat)
 case atStart =>
  exact⟨0,dC,rfl,h0,hW,Xx _⟩
 case round =>
  obtain⟨i,hi,rfl,U,X,hm⟩:=hrel;have ka:=X;by_cases he:i=256
  ·subst he
   gi_wp2
   go_end0
   exact⟨⟨_,rfl⟩,.inl ⟨_,rfl,U⟩⟩
  ·have kd:(i:Int)<256:=oM;have c1:wr.cell? ⟨k1,0,none⟩=some (.string c):=(XW (X.block k1 l1)).trans h1;have c2:wr.cell? ⟨k2,0,none⟩=some (.slice a0 bs.size cap):=(XW (X.block k2 l2)).trans h2;have hk:=Made.alloc wr [.int .u8 i] 5;have ha:=Made.alloc (wr.alloc (.cells #[.int .u8 i] 5)) [.slice a0 bs.size cap,sZ wr.heap.size 1 1] 23;rw[XF]at ha;have k8:ub (XN i)=(i:Int):=by
    show(((XN i).toNat:Nat):Int)=_;rw[yBi,XX oM]
   obtain⟨W1,S⟩:∃W1,W1=(wr.alloc (.cells #[.int .u8 i] 5)).alloc (.cells #[.slice a0 bs.size cap,sZ wr.heap.size 1 1] 23):=⟨_,rfl⟩
   have M:kZ wr W1:=by rw[S];exact((XM _ wr).alloc (Xx _) _).alloc (by rw[XF];omega) _
   have hP:PartsOk W1 (some ⟨wr.heap.size+1,0,none⟩) [b,[XN i]]:=by
    have k:W1.rangeAt (wr.heap.size+1) 0 [.slice a0 bs.size cap,sZ wr.heap.size 1 1]:=by rw[S];exact ha.range
    refine X0 ⟨_,_,rfl,λj g=>?_⟩;have f:j=0\/j=1:=by simp at g;omega
    rcases f with rfl|rfl
    ·exact⟨_,k 0 _ rfl,(HP.below ka).below M⟩
    ·refine⟨_,k 1 _ rfl,some (aZ wr.heap.size),wr.heap.size,0,1,#[XN i],rfl,rfl,Xx _,Yy rfl,X0 ⟨rfl,?_⟩⟩;have o:=hk.range;have s:wr.heap.size<(wr.alloc (.cells #[.int .u8 i] 5)).heap.size:=by rw[XF];omega
     intro j g;have m:j=0:=by simp at g;omega
     subst m;have q:W1.heap[wr.heap.size]? = (wr.alloc (.cells #[.int .u8 i] 5)).heap[wr.heap.size]?:=by rw[S];exact Below.heap_alloc _ _ _ s
     refine⟨?_,?_⟩
     ·rw[XW (a:=⟨wr.heap.size,0+0,none⟩) q];show _=some (Value.int .u8 (ub (XN i)));rw[k8];exact o 0 _ rfl
     ·rw[Y0 (a:=⟨wr.heap.size,0+0,none⟩) q];exact(hk.there 0 (Xx _)).2
   have Z:=kQ ((⟨#[112,111,105,110,116,32]⟩:ByteArray)++c) (some ⟨wr.heap.size+1,0,none⟩) 2 [b,[XN i]] W1 (by rw[ByteArray.size_append];show 6+c.size<=_;omega) (Yy rfl) hP
   gi_wp2_with fail
   rw[<-S];refine⟨trivial,λh=>(by cases h),(callsIn_wide.2 Z).mono ?_⟩;rintro e w2 ⟨r,rfl,kb,h9,Y⟩;clear Z hP c1 c2 hk ha kd;obtain⟨T,Q⟩:∃T,Hid (iU ((⟨#[112,111,105,110,116,32]⟩:ByteArray)++c).data.toList [b,[XN i]]=T):=⟨_,rfl⟩
   rw[Q.out]at Y
   gi_wp2_with fail
   refine⟨trivial,λh=>(by cases h),(callsIn_wide.2 (bP _)).mono ?_⟩;rintro e w3 ⟨v,rfl,V,rfl⟩;have hg:r<w2.heap.size:=KW Y (by rw[<-Q.out,bV];decide);have hr:T.size=32:=by rw[<-Q.out];exact bV _ _
   have hn:Holds encB w3 r 0 T:=Holds.below Y V hg;have I:r<w3.heap.size:=Xz hg V.size;have B:kZ wr w3:=(M.trans (h9.mono M.size)).trans (V.mono (XB M.size h9.size));by_cases hx:beV T.toList<P
   ·obtain⟨x,R⟩:∃x:Fin P,Hid (beV T.toList=x.val):=⟨ZS P (beV T.toList),(XX hx).symm⟩
    have O:Hid (ZS P (beV T.toList)=x):=yAH (by show beV T.toList%P=_;rw[XX hx];exact R.out);have hx:Hid (beV T.toList<P):=hx
    gi_wp2_with fail
    refine⟨trivial,λh=>(by cases h),(callsIn_wide.2 (MC C hr (Xx _) R.out I hn)).mono ?_⟩;rintro e t ⟨v,rfl,K,rfl⟩;have A:=(Made.alloc t [uZ 0,uZ 0,uZ 0,uZ 0] 42).there;have g:=B.trans (K.mono B.size);have k6:=YM _ _ 0 (ws x) A;obtain⟨d,hu,hw⟩:=XA.1 u85;clear A k6 hr hn hg I V K Y kb h9 M;obtain⟨w5,hl⟩:∃w5,Hid ((t.alloc (.cells #[uZ 0,uZ 0,uZ 0,uZ 0] 42)).setCells t.heap.size 0 (ws x)=w5):=⟨_,rfl⟩
    have o:Hid (kZ wr w5):=by rw[<-hl.out];exact RG.below_setCells g.size _ _ _ (g.alloc g.size _)
    have h4:w5.rangeAt t.heap.size 0 (ws x):=by rw[<-hl.out];exact YM _ _ 0 (ws x) (Made.alloc t [uZ 0,uZ 0,uZ 0,uZ 0] 42).there
    gi_wp2_with (first|(refine bN rfl 42 _ _ rfl t.heap.size 0 (ws x).toArray rfl rfl (Made.alloc t [uZ 0,uZ 0,uZ 0,uZ 0] 42).there i85 kR ?_;rw[show(ws x).toArray.toList=ws x from rfl,hl.out])|refine kA rfl 42 _ rfl t.heap.size 0 rfl (ws x) d h4 hu hw i85 ?_)
    refine⟨trivial,λh=>(by cases h),?_⟩;clear h4 hu hw;have ke:True:=trivial;obtain⟨d8,h5,h7⟩:=XA.1 iI;cases F:rt (x*x*x+7) with
    | none =>
     obtain⟨z,N⟩:∃z:Fin P,Hid (z=0):=⟨_,rfl⟩
     have k:=AY C x F w5;rw[<-N.out]at k;obtain⟨vz,E⟩:∃vz,Hid (pv z z=vz):=⟨_,rfl⟩
     rw[E.out]at k;refine(callsIn_wide.2 k).mono ?_;clear k;rintro e s ⟨v,rfl,H,rfl⟩;have f:Hid (cand P c b i=none):=by
      show cand P c b i=none;unfold cand;rw[Q.out,yES hx.out,O.out,F];rfl
     clear F;have q:Hid (kZ wr ((s.alloc (.cells #[uZ 0,uZ 0,uZ 0,uZ 0,uZ 0,uZ 0,uZ 0,uZ 0] 131)).setCells s.heap.size 0 (ws z++ws z))):=
      have h6:=o.trans (H.mono o.size)
      RG.below_setCells h6.size _ _ _ (h6.alloc h6.size _)
     clear H;have D:(ws z++ws z).toArray.size=8:=kR;have u:Hid <| (s.alloc (.cells #[uZ 0,uZ 0,uZ 0,uZ 0,uZ 0,uZ 0,uZ 0,uZ 0] 131)).there s.heap.size 0 (ws z++ws z).toArray.size:=by show yEf _ _ _ _;rw[D];exact(Made.alloc s [uZ 0,uZ 0,uZ 0,uZ 0,uZ 0,uZ 0,uZ 0,uZ 0] 131).there
     have L:Hid ((prog.info? 131).map (·.size)=some (ws z++ws z).toArray.size):=by show _=_;rw[D];exact i109
     clear D;obtain⟨G,m⟩:∃G,Hid ((s.alloc (.cells #[uZ 0,uZ 0,uZ 0,uZ 0,uZ 0,uZ 0,uZ 0,uZ 0] 131)).setCells s.heap.size 0 (ws z++ws z)=G):=⟨_,rfl⟩
     rw[m.out]at q
     gi_wp2_with (refine bN rfl 131 _ _ rfl s.heap.size 0 (ws z++ws z).toArray ?_ ?_ ?_ ?_ ?_ ?_;rfl;exact E.symm;exact u.out;exact L.out;kernel_rfl;rw[show(ws z++ws z).toArray.toList=ws z++ws z from rfl,m.out];refine yBV ?_)
     clear u L E N m o O R hx Q;show wpListIn _ _ _ _ _ _ _ _
     gi_wp2_with fail
     refine⟨λ_ h=>(by cases h),?_⟩
     gi_wp2_with fail
     refine⟨⟨i+1,oM,rfl,?_,X.trans (q.mono X.size),XB hm q.size⟩,?_⟩
     ·rw[jW,f.out];exact hJ _ wr _ none (by simpa using U) (BG q.out none) (λ_ e=>by cases e)
     ·simp[intOf];omega
    | some y =>
     have k:=AX C x y F w5;obtain⟨vz,E⟩:∃vz,Hid (pv x y=vz):=⟨_,rfl⟩
     rw[E.out]at k;refine(callsIn_wide.2 k).mono ?_;clear k;rintro e s ⟨v,rfl,H,rfl⟩;have f:Hid (cand P c b i=some (x,y)):=by
      show cand P c b i=some (x,y);unfold cand;rw[Q.out,yES hx.out,O.out,F];rfl
     clear F;obtain⟨G,m⟩:∃G,Hid ((s.alloc (.cells #[uZ 0,uZ 0,uZ 0,uZ 0,uZ 0,uZ 0,uZ 0,uZ 0] 131)).setCells s.heap.size 0 (ws x++ws y)=G):=⟨_,rfl⟩
     have N:Hid (kZ wr G):=by
      rw[<-m.out];have h6:=o.trans (H.mono o.size);exact RG.below_setCells h6.size _ _ _ (h6.alloc h6.size _)
     clear H;have h8:G.rangeAt s.heap.size 0 (ws x++ws y):=by rw[<-m.out];exact YM _ _ 0 (ws x++ws y) (Made.alloc s [uZ 0,uZ 0,uZ 0,uZ 0,uZ 0,uZ 0,uZ 0,uZ 0] 131).there
     have kc:Hid (J (cands P c b i) G):=hJ _ wr _ none (by simpa using U) (BG N.out none) (λ_ e=>by cases e);have D:(ws x++ws y).toArray.size=8:=kR;have u:Hid <| (s.alloc (.cells #[uZ 0,uZ 0,uZ 0,uZ 0,uZ 0,uZ 0,uZ 0,uZ 0] 131)).there s.heap.size 0 (ws x++ws y).toArray.size:=by show yEf _ _ _ _;rw[D];exact(Made.alloc s [uZ 0,uZ 0,uZ 0,uZ 0,uZ 0,uZ 0,uZ 0,uZ 0] 131).there
     have L:Hid ((prog.info? 131).map (·.size)=some (ws x++ws y).toArray.size):=by show _=_;rw[D];exact i109
     clear D;obtain⟨fn,tmps,k7,kg,hy,hR⟩:=hY (cands P c b i) (x,y) G kc.out (Nat.lt_of_le_of_lt (IQ c b i) oM);dsimp only at hy;obtain⟨va,hs⟩:∃va,Hid (X6 (ws x++ws y).toArray=va):=⟨_,rfl⟩
     rw[show pv x y=va from hs.out]at hy
     gi_wp2_with (refine bN rfl 131 _ _ rfl s.heap.size 0 (ws x++ws y).toArray ?_ ?_ ?_ ?_ ?_ ?_;rfl;exact E.symm;exact u.out;exact L.out;kernel_rfl;rw[show(ws x++ws y).toArray.toList=ws x++ws y from rfl,m.out];refine yBV ?_)
     clear u L m o O R hx Q;have k3:=Hid.mk hR;have h3:=Hid.mk h8;have k5:=Hid.mk h5;have ht:=Hid.mk h7;clear hR h8 h5 h7;show wpListIn _ _ _ _ _ _ _ _
     gi_wp2_with (refine qC rfl 131 _ rfl s.heap.size 0 ?_ (ws x++ws y) d8 ?_ ?_ ?_ ?_ ?_;rfl;exact h3.out;exact k5.out;exact ht.out;exact i109;rw[hs.out];refine yBV ?_)
     clear h3 k5 ht hs E;show wpListIn _ _ _ _ _ _ _ _
     gi_wp2_with fail
     refine⟨λh=>(by cases h),k3.mono ?_⟩;clear k3 hy;rintro e W8 (⟨rfl,k9,k0⟩|⟨rfl,k4⟩)
     ·gi_wp2_with fail
      refine⟨⟨i+1,oM,rfl,?_,(X.trans (N.mono X.size)).trans k0,XB hm (XB N.size k0.size)⟩,?_⟩
      ·rw[jW,f.out];exact k9
      ·simp[intOf];omega
     ·gi_wp2_with fail
      refine XE (results_none rfl _ _ _) rfl ?_;refine⟨⟨_,rfl⟩,.inr ⟨_,?_,k4⟩⟩;have hp:=IP (P:=P) c b (i:=i+1) (j:=256) oM;rw[jW,f.out]at hp;exact hp
   ·have f:cand P c b i=none:=by
     unfold cand;rw[Q.out,yET hx]
    gi_wp2_with fail
    refine⟨trivial,λh=>(by cases h),(callsIn_wide.2 (MD C hr (Xx _) hx I hn)).mono ?_⟩;rintro e t ⟨v,rfl,K,rfl⟩;have A:Hid ((t.alloc (.cells #[uZ 0,uZ 0,uZ 0,uZ 0] 42)).there t.heap.size 0 4):=(Made.alloc t [uZ 0,uZ 0,uZ 0,uZ 0] 42).there;have g:=B.trans (K.mono B.size);have q:Hid (kZ wr ((t.alloc (.cells #[uZ 0,uZ 0,uZ 0,uZ 0] 42)).setCells t.heap.size 0 (ws (0:Fin P)))):=RG.below_setCells g.size _ _ _ (g.alloc g.size _);have f:Hid (cand P c b i=none):=f;obtain⟨G,m⟩:∃G,Hid ((t.alloc (.cells #[uZ 0,uZ 0,uZ 0,uZ 0] 42)).setCells t.heap.size 0 (ws (0:Fin P))=G):=⟨_,rfl⟩
    rw[m.out]at q
    gi_wp2_with (refine bN rfl 42 _ _ rfl t.heap.size 0 (ws (0:Fin P)).toArray ?_ ?_ ?_ ?_ ?_ ?_;rfl;rfl;exact A.out;exact i85;kernel_rfl;rw[show(ws (0:Fin P)).toArray.toList=ws (0:Fin P) from rfl,m.out];refine yBV ?_)
    clear A g B K Q m;show wpListIn _ _ _ _ _ _ _ _
    gi_wp2_with fail
    refine⟨⟨i+1,oM,rfl,?_,X.trans (q.mono X.size),XB hm q.size⟩,?_⟩
    ·rw[jW,f.out];exact hJ _ wr _ none (by simpa using U) (BG q.out none) (λ_ e=>by cases e)
    ·simp[intOf];omega
end
end Go.Proofs.YtlofhpkoaljmeaaGreat
