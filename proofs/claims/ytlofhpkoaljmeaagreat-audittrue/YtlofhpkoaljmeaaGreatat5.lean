import Derived.Deep.AppendSrc
import Derived.Lib.ConvBytes
import Derived.Laws.MathBits
import Derived.Deep.LoopGhost
import Derived.Test.YtlofhpkoaljmeaaGreatat4
set_option linter.unusedVariables false
set_option linter.constructorNameAsVariable false
set_option linter.unusedSimpArgs false
set_option maxRecDepth 1000000
set_option maxHeartbeats 4000000
namespace Go.Proofs.YtlofhpkoaljmeaaGreat
open EC NT RG SP
open _root_.And renaming intro->YP
open _root_.Array renaming all_eq_true'->ZF,getD_eq_getD_getElem?->XI,getElem?_eq_getElem->X4,getElem?_eq_some_iff->XY,getElem?_toList->Yz,length_toList->XP,mapM_eq_mapM_toList->ZP,replicate->XL,size_append->Yg,size_replicate->XU,toArray_toList->yAc
open _root_.Bool renaming and_eq_true->XO,or_eq_true->Z1
open _root_.Fin renaming ext->yAH,val_add->yDi,val_mul->yAk
open _root_.Go renaming Addr->YW,Calls->XH,FuncId->ZY,Oper->Yo,Program->YG,Tmp->Zs,TypeId->Yd,Value->Xu,World->Xs,bodyPost_ret->XE,execOp->Yb,run_loadVar_mid->yAA,run_storeVar_mid->yCb,size_madeCells->yBk,undef->Zp,wpList_load_mid->Yv,wpList_plain->ZH,wpList_store_mid->X8,wpOp_mono->yCa,wp_block->Y6,wp_cond_false->X7,wp_cond_true->Yx,wp_ret->Y5,wp_seq->Xy,wp_skip->YR
open _root_.Go.Act renaming put->XK
open _root_.Go.Builtin renaming append_->YA,zeroCells->Zw
open _root_.Go.Code renaming region->Zd
open _root_.Go.Ending renaming returned->yBD
open _root_.Go.Instr renaming box->Yl,build->yBP,index->yBs,indexAt->Yi,makeSlice->yAb,sliceAt->Zk,storeAt->yA6,sureAddr->yAC
open _root_.Go.IntKind renaming i64->Yh,wrap_i64->Zc
open _root_.Go.Lib renaming bytesCells->yAG,bytesWorld->yBv,bytesWorld_size->yCc
open _root_.Go.Next renaming value->ZN
open _root_.Go.Oper renaming wp->YV
open _root_.Go.Region renaming binds->YT,ready->Yf
open _root_.Go.Result renaming andThen_ok->Yu
open _root_.Go.RowKit.Below renaming refl->XM
open _root_.Go.RowKit.Hid renaming out->yBV
open _root_.Go.Sem renaming run_bind->XT,run_pure->Zj
open _root_.Go.Value renaming agg->X6,func->yCG,int->YQ,slice->yAe
open _root_.Go.World renaming cell?_of_block->XW,freeze->yBE,frozen?_of_block->Y0,rangeAt_setCells_apart->Yk,rangeAt_setCells_same->YM,setCells->yBl,size_alloc->XF,there_setCells->Y2
open _root_.Int renaming natCast_add->yD3,natCast_mul->Z2,tdiv_eq_ediv_of_nonneg->yAF,toNat_natCast->yAz
open _root_.List renaming all_eq_true->Yj,any_eq_true->yDH,append_nil->yAh,drop->ZR,drop_length->yDF,flatMap_append->yB0,getElem?_eq_getElem->XJ,getElem?_eq_some_iff->XG,getElem_mem->YL,length_append->XC,length_map->XV,mapM_cons->yA3,mapM_nil->yBc,mem_append->Y3,mem_cons_of_mem->Ym,mem_cons_self->YC,mem_map->Yw,mem_range->YZ,mem_singleton->YY,mem_toArray->yAE,not_mem_nil->X5,range->Yt,setIfInBounds_toArray->Xt,set_cons_succ->Xv,set_cons_zero->Xw,size_toArray->YD,take->ZQ
open _root_.Nat renaming div_eq_of_lt->yAm,le_of_ble_eq_true->Yy,le_of_eq->yBp,le_refl->Xx,le_trans->XB,log2->yD7,lt_irrefl->yEe,lt_of_lt_of_le->Xz,lt_of_succ_le->ZW,lt_or_ge->Zq,mod_eq_of_lt->XX,mod_lt->Y9,mul_comm->YF,mul_le_mul->ZB,mul_le_mul_left->yAR,mul_pos->yDd,mul_succ->yAS,not_lt_zero->ZV,one_mul->ZU,pos_of_neZero->yA9,pow_succ->Zf,reduceAdd->YH,succ_le_of_lt->yDz,zero_add->XD,zero_le->Zh,zero_mod->yBw
open _root_.Option renaming isSome_iff_exists->YB,map_eq_some_iff->XA,some->XS
open _root_.Or renaming inl->X9,inr->X0
open _root_.Prod renaming fst->yB7,mk->Ze,snd->yB6
open _root_.Subtype renaming ext->yA0
open Go.Proofs.Tryz
open Go.RowKit Go.Sort Go.Deep
section
open Go.Shelf
variable {P:Nat}[NeZero P]{N:Nat}
theorem xZ(k:ByteArray)(a:Option YW)(m c:Nat)(w:Xs):
 XH prog 68 #[.string k,.slice a m c] w (Ret λe w'=>e=.func (.func 117) #[] #[jZ w.heap.size,.pointer (some ⟨w.heap.size+1,0,none⟩)]/\w'=(w.alloc (.cells #[.string k] 9)).alloc (.cells #[.slice a m c] 23)):=by
 go_enter func68,ntmps68;go_wp2;go_ret;exact⟨_,rfl,rfl,rfl⟩
noncomputable def hpt (P:Nat) [NeZero P] (k:ByteArray) (b:List UInt8):Fin P × Fin P:=(cands P k b 256).headD (gX P,gY P)
theorem OW{k:ByteArray}{b:List UInt8}{i:Nat}{x:Fin P × Fin P}(h:cand P k b i=some x):x.2*x.2=x.1*x.1*x.1+7:=by
 unfold cand at h;split at h
 ·obtain⟨y,c,rfl⟩:=XA.1 h;exact Px c
 ·cases h
theorem Me{k:ByteArray}{b:List UInt8}{n:Nat}{x:Fin P × Fin P}(h:x∈cands P k b n):x.2*x.2=x.1*x.1*x.1+7:=by
 unfold cands at h;obtain⟨i,-,c⟩:=List.mem_filterMap.1 h;exact OW c
theorem BD(C:Fld P)(k:ByteArray)(b:List UInt8):On (.some (hpt P k b):EC.Pt P):=by
 unfold hpt;cases h:cands P k b 256 with
 | nil=>exact C5 C
 | cons x r=>exact Kf (x:=x.1) (y:=x.2) (Me (by rw[h];exact YC))
theorem Nt(C:Fld P)(q:Fin P × Fin P)(h:On (.some q:EC.Pt P)):uH q.1 q.2=wr (.some q:EC.Pt P):=wU C ⟨rfl,rfl⟩ h
theorem Sj(C:Fld P)(k:ByteArray)(b:List UInt8):uH (hpt P k b).1 (hpt P k b).2=wr (.some (hpt P k b):EC.Pt P):=Nt C _ (BD C k b)
theorem AL(C:Fld P)(k:ByteArray)(a:Option YW)(m c:Nat)(b:List UInt8)(w:Xs)(f:k.size<=1000000)(l:PartOk w (.slice a m c) b):
 XH prog 67 #[.func (.func 117) #[] #[jZ w.heap.size,.pointer (some ⟨w.heap.size+1,0,none⟩)]] ((w.alloc (.cells #[.string k] 9)).alloc (.cells #[.slice a m c] 23)) (rZ w λe w'=>e=pv (hpt P k b).1 (hpt P k b).2):=by
 have j:=Made.alloc w [.string k] 9;have i:=Made.alloc (w.alloc (.cells #[.string k] 9)) [.slice a m c] 23;have d:kZ w ((w.alloc (.cells #[.string k] 9)).alloc (.cells #[.slice a m c] 23)):=((XM _ w).alloc (Xx _) _).alloc (by rw[XF];omega) _;have q:((w.alloc (.cells #[.string k] 9)).alloc (.cells #[.slice a m c] 23)).heap.size=w.heap.size+2:=by rw[XF,XF]
 have o:((w.alloc (.cells #[.string k] 9)).alloc (.cells #[.slice a m c] 23)).cell? ⟨w.heap.size,0,none⟩=some (.string k):=by
  rw[XW (a:=⟨w.heap.size,0,none⟩) (Below.heap_alloc _ _ _ (by rw[XF];exact Nat.lt_succ_self _))];exact j.range 0 _ rfl
 have p:((w.alloc (.cells #[.string k] 9)).alloc (.cells #[.slice a m c] 23)).cell? ⟨w.heap.size+1,0,none⟩=some (.slice a m c):=by
  have:=i.range 0 _ rfl;rwa[XF]at this
 refine(OE C _ (cands P k b 256) 256 _ (λn=>RZ C k (.slice a m c) b w.heap.size (w.heap.size+1) _ f o p oM oM (l.below d) n)).mono ?_;rintro e w' ⟨v,rfl,g,rfl⟩;exact⟨_,rfl,d.trans (g.mono d.size),rfl⟩
theorem MJ(C:Fld P)(k:ByteArray)(a:Option YW)(m c:Nat)(b:List UInt8)(w:Xs)(i:k.size<=1000000)(t:PartOk w (.slice a m c) b):
 XH prog 184 #[.string k,.slice a m c] w (rZ w λe w'=>I3 w (wr (.some (hpt P k b):EC.Pt P)) e w'):=by
 have x:=AL C k a m c b w i t;have l:∀w,XH prog 70 #[pv (hpt P k b).1 (hpt P k b).2] w (rZ w λe w'=>nF w (uH (hpt P k b).1 (hpt P k b).2) e w'):=wT C _ _;rw[Sj C]at l;go_enter func184,ntmps184;go_wp2_with fail
 refine(xZ k a m c w).mono ?_;rintro e A ⟨v,rfl,rfl,rfl⟩;go_wp2_with fail
 refine x.mono ?_;rintro e z ⟨v,rfl,o,rfl⟩;have f:=mk1 (o);go_wp2_with fail
 refine(l _).mono ?_;rintro e u ⟨v,rfl,n,g,d,rfl,r,q,j,s⟩;have p:=mk1 (f.trans (n.mono f.size));have y:Hid (I3 w (wr (.some (hpt P k b):EC.Pt P)) (.tuple #[sZ g 33 d,iZ 0]) u):=⟨g,d,rfl,r,XB f.size q,j,s⟩
 go_wp2
 go_ret2
 exact⟨_,rfl,p.out,y.out⟩
end
section
variable {P:Nat}[NeZero P]{N:Nat}
theorem G6(C:Fld P)(lb:ByteArray)(p:lb.size<=1000000)(s:Option YW)(x u:Nat)(tx:List UInt8)(w:Xs)(G:PartOk w (.slice s x u) tx):
 XH prog 130 #[.string lb,.slice s x u] w (rZ w λe w'=>e=pvl (wr (.some (hpt P lb tx):EC.Pt P))):=by
 obtain⟨T,t⟩:=hE (wr (.some (hpt P lb tx):EC.Pt P));have o:T.size=33:=by rw[<-t.out];exact aL _
 rw[t.out];have I:=mk1 (C);have H:=Hid.mk' G;have HL:=Hid.mk' p;obtain⟨n,b⟩:=hE (w.alloc (.cells z33.toArray 51));have j:Hid (Row n w.heap.size z33/\kZ w n):=by rw[<-b.out];exact⟨row_new w _ _,aC w _⟩
 obtain⟨d,q,r⟩:=XA.1 uCP;have a:=mk2 q r;go_enter func130,ntmps130;go_wp2_with (refine bF (v:=jZ w.heap.size) (w':=n) rfl (.alloc 51) rfl ?_ ?_;(rw[<-b.out];kernel_rfl))
 refine(MJ I.out lb s x u tx n HL.out (H.below j.2)).mono ?_;rintro e y ⟨K,rfl,c,g,E,rfl,-,-,F,D⟩;rw[t.out]at D;have l:=mk3 (j.1.below c) (j.2.trans (c.mono j.2.size)) (qP D F);have A:=He g E;obtain⟨z,f⟩:=hE (y.setCells w.heap.size 0 (aA T));have k:=aB o;have B:Hid (Row z w.heap.size (aA T)/\kZ w z):=by rw[<-f.out];exact⟨l.1.put (by rw[k];rfl),RG.below_setCells (Xx _) _ _ _ l.2.1⟩
 obtain⟨J,i⟩:=hE (X6 (aA T).toArray);have m:Hid ((prog.info? 51).map (·.size)=some (aA T).length/\y.there w.heap.size 0 (aA T).toArray.size/\(prog.info? 51).map (·.size)=some (aA T).toArray.size):=by
  have e:(aA T).toArray.size=33:=by rw[YD];exact k
  refine⟨by rw[k];exact cZ,by rw[e];exact l.1.2.2,by rw[e];exact cZ⟩
 go_wp2_with (first|(refine Yv rfl 51 _ rfl g 0 ?_ (aA T) d ?_ ?_ ?_ ?_ ?_;rfl;exact l.2.2.2.1;exact a.1;exact a.2;exact m.1;rw[i.out])|(refine X8 rfl 51 _ _ rfl w.heap.size 0 (aA T).toArray ?_ ?_ ?_ ?_ ?_ ?_;rfl;exact i.symm;exact m.2.1;exact m.2.2;exact bQ T;rw[show(aA T).toArray.toList=aA T from rfl,f.out]))
 refine XE (aF 4 51 rfl B.1 rfl uCP m.1) rfl ?_;exact⟨_,rfl,B.2,rfl⟩
theorem Kh:Gives 15 #[uZ 1] (nv 1):=by
 intro w;go_enter func15,ntmps15;refine RG.M.enter [(0,.v (uZ 1))] 6 kR ?_;intro a0 c;repeat refine Xy ?_
 refine c.T [.m 0] [(0,RG.z 4)] [] [RG.z 4] [0,2] ⟨mk 0 44,yEU⟩ ?_;intro k f g d;repeat refine Xy ?_
 refine d.T [.x (uZ 1),.x (nv 1),.x (nv 1),.u 0] [] [(0,3,wn 1)] [wn 1] [2] ⟨st,st,st,RG.pt i40,yEU⟩ ?_;intro a2 e b;refine Y5 ?_;refine XE (v:=nv 1) (aH b.st 2 44 rfl 0 _ rfl (b.at (s:=(.p 0 0))) u40 i40) b.sl.defers ?_;exact⟨_,rfl,b.st.bel.below,rfl⟩
def Sm(B:Nat)(W:Xs)(v:Xu)(l:List (Nat × Bs)):Prop:=∃g c,v=sZ g l.length c/\l.length<=c/\B<=g/\g<W.heap.size/\W.rangeAt g 0 (aR l)
theorem Sm.grow{B:Nat}{W W':Xs}{v:Xu}{l:List (Nat × Bs)}(h:Sm B W v l)(b:kZ W W'):Sm B W' v l:=by
 obtain⟨g,c,d,e,i,k,f⟩:=h;exact⟨g,c,d,e,i,Xz k b.size,RG.range_below f b k⟩
theorem cellsT_one'(n:Nat)(a:Bs):aR [(n,a)]=wn n++aA a:=by rw[fV];exact yAh _
theorem Sm.one{B W k n}{w:Xs}{a:Bs}(h:Row w k (wn n++aA a))(c:B<=k)(b:w=W):Sm B W (sZ k 1 1) [(n,a)]:=by
 subst b;exact⟨k,1,rfl,Xx _,c,h.1,by rw[cellsT_one'];exact h.2.1⟩
theorem infoT':(prog.info? 124).map (λi=>(i.size,i.bytes,i.zero.map λz=>z.cells.size))=some (37,72,some 37):=kR
theorem GG(n:Nat)(u:n<=10000000)(w:Xs):XH prog 108 #[.slice none 0 0,iZ n] w (rZ w λe w'=>w'.ownsRow w.heap.size 124 37 e 0 []):=by
 by_cases r:n=0
 ·subst r;go_enter func108,ntmps108;go_wp2;go_ret;exact⟨_,rfl,XM _ _,World.ownsRow_nil _ _ _ _⟩
 ·obtain⟨i,o,m⟩:=XA.1 infoT';simp only[Ze.injEq]at m;obtain⟨v,s,q⟩:=m;obtain⟨z,p,j⟩:=XA.1 q;have f:=Lib.run_append_nil_zeros (P:=prog) w 82 3 82 124 i z .i64 .i64 DF Ty o p n oM oM oM (by rw[s];omega);have d:=grownCap_ge w n 0 124;have k:=grownCap_le_maxLen w n 0 124 (by unfold maxLen;omega);have b:(Zw z.cells n++Zw z.cells (grownCap w n 0 124-n)).size=grownCap w n 0 124*37:=by rw[Yg,size_zeroCells,size_zeroCells,j];omega
  generalize grownCap w n 0 124=l at f d k b;generalize Zw z.cells n++Zw z.cells (l-n)=cur at f b;obtain⟨g,c⟩:∃g,Hid (w.drew.alloc (.cells cur 124)=g):=⟨_,rfl⟩
  rw[c.out]at f;have t:=Hid.mk' f;have K:Hid (kZ w g/\g.ownsRow w.heap.size 124 37 (sZ w.heap.size 0 l) 0 []):=by
   rw[<-c.out];exact⟨(XM _ _).drew.alloc (Xx _) _,World.ownsRow_made w.drew cur l (Xx _) k b⟩
  go_enter func108,ntmps108;go_wp2_with (at_builtin;refine Lib.wpList_append_run _ rfl _ _ _ _ rfl _ _ rfl rfl _ _ t.out ?_)
  go_ret;exact⟨_,rfl,K.1,K.2⟩
theorem EU(l m:List (Nat × Bs)):aR (l++m)=aR l++aR m:=by unfold aR;rw[yB0]
theorem IM(l:List (Nat × Bs)):∀u∈aR l,u.oneCell'=true:=λu k=>by
 unfold aR at k;obtain⟨x,-,hx⟩:=List.mem_flatMap.1 k;exact cells_one x.1 x.2 u hx
theorem qX:∀ {l:List (Nat × Bs)},(∀x∈l,x.2.size=33)->(aR l).length=l.length*37
 | [],_=>rfl
 | x :: r,h=>by
  rw[fV,XC,iF (h x YC),qX λy k=>h y (Ym _ k),List.length_cons];omega
theorem CE{b B:Nat}{W:Xs}{v x:Xu}{l m:List (Nat × Bs)}(d:W.ownsRow b 124 37 v l.length (aR l))(s:∀y∈m,y.2.size=33)(hx:Sm B W x m)(F:l.length+m.length<=1000000)(o:b<=W.heap.size):
 ∃e W',(YA #[82,82] 82 #[v,x]).run prog W=.ok e W'/\W'.ownsRow b 124 37 e (l++m).length (aR (l++m))/\W.grownBy W' v.ownBlock:=by
 obtain⟨i,q,g⟩:=XA.1 infoT';simp only[Ze.injEq]at g;obtain⟨w,a,t⟩:=g;obtain⟨z,r,f⟩:=XA.1 t;obtain⟨k,c,rfl,E,G,e3,A⟩:=hx;obtain⟨e,W',n,D,C,-⟩:=run_append_own (P:=prog) W b 82 82 124 i z 37 72 DF q r w a f dC v l.length (aR l) d (aZ k) m.length c (aR m) (qX s)
  (λj u p=>by
   have:=A j u p;rw[XD]at this;rw[add0];exact this) (IM m) (by unfold maxLen;omega) oM o
 exact⟨e,W',n,by rw[XC,EU];exact D,C⟩
theorem atS(k o n c i:Nat)(b:i<n)(w:Xs):(Yi 148 (.slice (some ⟨k,o,none⟩) n c) (iZ i)).run prog w=.ok (.pointer (some ⟨k,o+1*i,none⟩)) w:=by
 go_simp
def eZ(L:Nat->List (Nat × Bs))(k:Nat):List (Nat × Bs):=(Yt k).flatMap L
theorem dD(L:Nat->List (Nat × Bs))(i:Nat):eZ L (i+1)=eZ L i++L i:=by
 unfold eZ;rw[List.range_succ,yB0];simp
theorem BV(L:Nat->List (Nat × Bs)){k m:Nat}(b:∀j,j<k->(L j).length<=m):∀i,i<=k->(eZ L i).length<=m*i
 | 0,_=>Xx _
 | i+1,hi=>by
  have c:=BV L b i oM;have d:=b i oM;rw[dD,XC,yAS];omega
theorem IF(g k c:Nat)(L:Nat->List (Nat × Bs))(I:k<=1000)(U:∀j,j<k->(L j).length<=600)(z:∀j,j<k->∀x∈L j,x.2.size=33)(w:Xs)(O:g<w.heap.size)(R:∀j,j<k->∃x,w.cell? ⟨g,j,none⟩=some x/\Sm 0 w x (L j)):
 XH prog 62 #[sZ g k c] w (rZ w λe w'=>w'.ownsRow w.heap.size 124 37 e (eZ L k).length (aR (eZ L k))):=by
 have HL:=Hid.mk' R;have s:=mk1 (BV L U);have N:=Hid.mk' O;have T:=Hid.mk' z;go_enter func62,ntmps62;go_wp2_with fail
 go_loopg [3,11] k (λm s3 s11 W=>∃i:Nat,i+m=k/\s11=iZ i/\s3=iZ ((eZ L i).length:Int)/\w=W)
 case atStart=>exact⟨0,oM,rfl,rfl,rfl⟩
 case round =>
  obtain⟨i,V,rfl,rfl,rfl⟩:=hrel;by_cases G:i<k
  ·have t:(i:Int)<(k:Int):=oM;obtain⟨x,F,hE⟩:=HL.out i G;obtain⟨M,J,rfl,r,-⟩:=hE;have l:=atS g 0 k c i G;rw[show 0+1*i=i by omega]at l;have d:(eZ L (i+1)).length=(eZ L i).length+(L i).length:=by rw[dD,XC]
   have n:=s.out i oM;have o:=s.out (i+1) oM;obtain⟨a,q⟩:=hE ((eZ L i).length);obtain⟨b,f⟩:=hE ((L i).length);rw[q.out]at d n;rw[f.out]at d r;rw[q.out];rw[f.out]at F;go_wp2;go_roundg (gk-1)
   case measure=>omega
   case rel=>exact⟨i+1,oM,rfl,by rw[d,yD3],rfl⟩
  ·have t:¬(i:Int)<(k:Int):=oM;obtain rfl:i=k:=oM;go_wp2_with fail
   refine(GG (eZ L i).length (by have:=s.out i (Xx _);omega) w).mono ?_;rintro e X ⟨v,rfl,n,A⟩;have Q:=mk2 n A;go_wp2_with fail
   go_loopg [6,27] i (λm s6 s27 W=>∃j:Nat,j+m=i/\s27=iZ j/\Hid (kZ w W/\W.ownsRow w.heap.size 124 37 s6 (eZ L j).length (aR (eZ L j))))
   case atStart=>exact⟨0,oM,rfl,Q⟩
   case round =>
    obtain⟨j,P,rfl,f⟩:=hrel;by_cases u:j<i
    ·have B:(j:Int)<(i:Int):=oM;obtain⟨x,r,q⟩:=HL.out j u;have F:wr.cell? ⟨g,j,none⟩=some x:=by rw[f.1.cell (p:=⟨g,j,none⟩) N.out];exact r
     have hE:=q.grow f.1;have o:=s.out (j+1) oM;have d:(eZ L (j+1)).length=(eZ L j).length+(L j).length:=by rw[dD,XC]
     obtain⟨H,W',E,D,K⟩:=CE f.2 (T j u) hE (by rw[<-d];omega) f.1.size;rw[<-dD]at D;have S:Hid (kZ w W'/\W'.ownsRow w.heap.size 124 37 H (eZ L (j+1)).length (aR (eZ L (j+1)))):=⟨f.1.grown K f.1.size (λk I=>(f.2.lt k I).1),D⟩
     have C:=Hid.mk' E;obtain⟨M,J,rfl,-⟩:=hE;have l:=atS g 0 i c j u;rw[show 0+1*j=j by omega]at l;clear E D K d o f q r;go_wp2_with (first|(refine mF (x:=u6) (y:=sZ M (L j).length J) (v:=H) (w':=W') rfl _ _ 82 rfl ?_ ?_ ?_ ?_;rfl;rfl;exact C.out)|fail)
     go_roundg (gk-1)
     case measure=>omega
     case rel=>exact⟨j+1,oM,rfl,S⟩
    ·have B:¬(j:Int)<(i:Int):=oM;obtain rfl:j=i:=oM;go_wp2;go_ret;exact⟨_,rfl,f.1,f.2⟩
theorem Gc{W:Xs}{k:Nat}{v:Xu}{l:List (Nat × Bs)}(h:W.ownsRow k 124 37 v l.length (aR l))(m:0<l.length):Sm k W v l:=by
 have f:=λ{g:Nat}=>h.cells (g:=g)
 rcases h.2 with⟨-,i⟩|⟨g,cap,cur,rfl,b,e,d,-⟩
 ·omega
 ·refine⟨g,cap,rfl,d,b,(XY.1 e).1,λj u c=>?_⟩;have:=f (g:=g) rfl j u c;rw[add0]at this;rw[XD];exact this
theorem tB(B:Nat)(s t:Xu)(l m:List (Nat × Bs))(n:0<l.length)(P:l.length<=500)(Q:m.length<=500)(a:∀x∈l,x.2.size=33)(o:∀x∈m,x.2.size=33)(w:Xs)(H:Sm B w s l)(I:Sm B w t m):
 XH prog 31 #[s,t] w (rZ w λe w'=>Sm w.heap.size w' e (l++m)):=by
 have N:=n;obtain⟨p,c1,J,-⟩:=id H;obtain⟨z,c2,L,-⟩:=id I;subst J;subst L;obtain⟨b,k⟩:=hE (w.alloc (.cells #[sZ p l.length c1,sZ z m.length c2] 82));have C:kZ w b:=by rw[<-k.out];exact aC _ _
 have A:w.heap.size<b.heap.size:=by rw[<-k.out,XF];omega
 have G:b.rangeAt w.heap.size 0 [sZ p l.length c1,sZ z m.length c2]:=by rw[<-k.out];exact(Made.alloc w [sZ p l.length c1,sZ z m.length c2] 82).range
 have M:=Hid.mk' (IF w.heap.size 2 2 (λj=>if j=0 then l else m) dC (λj _=>by show(if j=0 then l else m).length<=600;split<;>omega) (λj _=>by
  show ∀x∈(if j=0 then l else m),x.2.size=33;split
  ·exact a
  ·exact o) b A (λj d=>by
  have i:∀ {v:Xu}{l:List (Nat × Bs)},Sm B w v l->Sm 0 b v l:=λh=>by
   obtain⟨g,c,q,r,-,y,f⟩:=h.grow C;exact⟨g,c,q,r,Zh _,y,f⟩
  have d:j=0\/j=1:=oM;rcases d with rfl|rfl
  ·exact⟨_,G 0 _ rfl,i H⟩
  ·exact⟨_,G 1 _ rfl,i I⟩))
 have d:eZ (λj=>if j=0 then l else m) 2=l++m:=by rw[dD,dD];rfl
 have i:=Hid.mk' C;have D:Hid (eZ (λj=>if j=0 then l else m) 2=l++m/\0<(l++m).length):=⟨d,by rw[XC];omega⟩
 go_enter func31,ntmps31;go_wp2_with fail
 rw[k.out];refine M.mono ?_;rintro e E ⟨K,rfl,u,ho⟩;rw[D.1]at ho;have F:Hid (kZ w E/\Sm w.heap.size E K (l++m)):=by
  obtain⟨g,c,q,r,O,y,f⟩:=Gc ho D.2;exact⟨i.trans (u.mono i.size),g,c,q,r,XB i.size O,y,f⟩
 go_wp2;go_ret;exact⟨_,rfl,F.1,F.2⟩
theorem Sm.point(C:Fld P)(O:Ord N)(d:∀r:EC.Pt P,On r->mul N r=none){B:Nat}{w:Xs}{v:Xu}{l:List (Nat × Bs)}(h:Sm B w v l)(i:0<l.length)(q:l.length<=512)(z:∀x∈l,x.1<N)(f:PtsL P l):
 XH prog 33 #[v] w (rZ w λe w'=>e=pvl (wr (fX P l))):=by
 obtain⟨g,c,rfl,-,-,s,a⟩:=h;have b:∀x∈l.map (·.2),x.size=33:=λx hx=>by
  obtain⟨y,k,rfl⟩:=Yw.1 hx;obtain⟨X,-,e⟩:=f y k;rw[e];exact aL _
 have m:∀j (k:j<l.length),((l[j]?).getD (0,#[]))=l[j]:=λj k=>by rw[XJ k];rfl
 have p:∀j,j<l.length->On (gK P ((l[j]?).getD (0,#[])).2):=λj k=>by rw[m j k];exact f.on C (YL k)
 refine(DU C O d g l.length c i q (λj=>((l[j]?).getD (0,#[])).1) (λj=>gK P ((l[j]?).getD (0,#[])).2) (λj k=>by rw[m j k];exact z _ (YL k)) p w s (λj k=>?_)).mono ?_
 ·rw[m j k];obtain⟨X,E,o⟩:=f _ (YL k);rw[o,mG C E,<-o];intro t u n;have D:t<37:=by
   have:=(XG.1 n).1;rw[iF (b _ (Yw.2 ⟨_,YL k,rfl⟩))]at this;exact this
  have:=a (37*j+t) u (by rw[lY l b j k t D];exact n);rw[XD]at this;exact this
 ·rintro e w' ⟨u,rfl,n,rfl⟩;refine⟨_,rfl,n,?_⟩;rw[xF C l f _ (Xx _),List.take_length]
theorem yF(C:Fld P){a b:EC.Pt P}(c:On a)(k:On b):∀n,mul n (EC.add a b)=EC.add (mul n a) (mul n b)
 | 0=>rfl
 | n+1=>by
  show EC.add (mul n (EC.add a b)) (EC.add a b)=EC.add (EC.add (mul n a) a) (EC.add (mul n b) b);rw[yF C c k n];exact C.cur.swap (cG C.cur c n) (cG C.cur k n) c k
def SmZ(B:Nat)(W:Xs)(v:Xu)(l:List (Nat × Bs)):Prop:=(v=.slice none 0 0/\l=[])\/Sm B W v l
theorem SmZ.grow{B:Nat}{W W':Xs}{v:Xu}{l:List (Nat × Bs)}(h:SmZ B W v l)(k:kZ W W'):SmZ B W' v l:=by
 rcases h with h|h
 ·exact X9 h
 ·exact X0 (h.grow k)
theorem SmZ.form{B:Nat}{W:Xs}{v:Xu}{l:List (Nat × Bs)}(h:SmZ B W v l):∃q c,v=.slice q l.length c/\l.length<=c:=by
 rcases h with⟨rfl,rfl⟩|⟨g,c,k,b,-⟩
 ·exact⟨none,0,rfl,Xx _⟩
 ·exact⟨_,_,k,b⟩
theorem Tb:∀W:Xs,(YA #[82,82] 82 #[.slice none 0 0,.slice none 0 0]).run prog W=.ok (.slice none 0 0) W:=λW=>kR
theorem J9{b B:Nat}{W:Xs}{v x:Xu}{l m:List (Nat × Bs)}(k:W.ownsRow b 124 37 v l.length (aR l))(n:∀y∈m,y.2.size=33)(hx:SmZ B W x m)(e:l.length+m.length<=1000000)(d:b<=W.heap.size):
 ∃c W',(YA #[82,82] 82 #[v,x]).run prog W=.ok c W'/\W'.ownsRow b 124 37 c (l++m).length (aR (l++m))/\W.grownBy W' v.ownBlock:=by
 rcases hx with⟨rfl,rfl⟩|hx
 ·rw[yAh];rcases id k.2 with⟨rfl,p⟩|⟨g,cap,cur,rfl,q,r,o,-⟩
  ·exact⟨_,_,Tb W,k,⟨rfl,rfl,rfl,Xx _,λ_ _ _=>rfl⟩⟩
  ·obtain⟨i,f,s⟩:=XA.1 infoT';have:=run_append_room_src (P:=prog) W 82 82 82 124 i DF f g 0 l.length cap (.slice none 0 0) 0 [] (Src.ofNil (e':=124) _ DF 0) oM (λj c=>by cases c) (λj c=>by cases c);exact⟨_,_,this,k,⟨rfl,rfl,rfl,Xx _,λ_ _ _=>rfl⟩⟩
 ·exact CE k n hx e d
theorem IE(g k c:Nat)(L:Nat->List (Nat × Bs))(I:k<=1000)(U:∀j,j<k->(L j).length<=600)(z:∀j,j<k->∀x∈L j,x.2.size=33)(w:Xs)(O:g<w.heap.size)(R:∀j,j<k->∃x,w.cell? ⟨g,j,none⟩=some x/\SmZ 0 w x (L j)):
 XH prog 62 #[sZ g k c] w (rZ w λe w'=>w'.ownsRow w.heap.size 124 37 e (eZ L k).length (aR (eZ L k))):=by
 have HL:=Hid.mk' R;have s:=mk1 (BV L U);have N:=Hid.mk' O;have T:=Hid.mk' z;go_enter func62,ntmps62;go_wp2_with fail
 go_loopg [3,11] k (λm s3 s11 W=>∃i:Nat,i+m=k/\s11=iZ i/\s3=iZ ((eZ L i).length:Int)/\w=W)
 case atStart=>exact⟨0,oM,rfl,rfl,rfl⟩
 case round =>
  obtain⟨i,V,rfl,rfl,rfl⟩:=hrel;by_cases G:i<k
  ·have t:(i:Int)<(k:Int):=oM;obtain⟨x,F,hE⟩:=HL.out i G;obtain⟨M,J,rfl,r⟩:=hE.form;have l:=atS g 0 k c i G;rw[show 0+1*i=i by omega]at l;have d:(eZ L (i+1)).length=(eZ L i).length+(L i).length:=by rw[dD,XC]
   have n:=s.out i oM;have o:=s.out (i+1) oM;obtain⟨a,q⟩:∃a,Hid ((eZ L i).length=a):=⟨_,rfl⟩
   obtain⟨b,f⟩:∃b,Hid ((L i).length=b):=⟨_,rfl⟩
   rw[q.out]at d n;rw[f.out]at d r;rw[q.out];rw[f.out]at F;go_wp2;go_roundg (gk-1)
   case measure=>omega
   case rel=>exact⟨i+1,oM,rfl,by rw[d,yD3],rfl⟩
  ·have t:¬(i:Int)<(k:Int):=oM;obtain rfl:i=k:=oM;go_wp2_with fail
   refine(GG (eZ L i).length (by have:=s.out i (Xx _);omega) w).mono ?_;rintro e X ⟨v,rfl,n,A⟩;have Q:=mk2 n A;go_wp2_with fail
   go_loopg [6,27] i (λm s6 s27 W=>∃j:Nat,j+m=i/\s27=iZ j/\Hid (kZ w W/\W.ownsRow w.heap.size 124 37 s6 (eZ L j).length (aR (eZ L j))))
   case atStart=>exact⟨0,oM,rfl,Q⟩
   case round =>
    obtain⟨j,P,rfl,f⟩:=hrel;by_cases u:j<i
    ·have B:(j:Int)<(i:Int):=oM;obtain⟨x,r,q⟩:=HL.out j u;have F:wr.cell? ⟨g,j,none⟩=some x:=by rw[f.1.cell (p:=⟨g,j,none⟩) N.out];exact r
     have hE:=q.grow f.1;have o:=s.out (j+1) oM;have d:(eZ L (j+1)).length=(eZ L j).length+(L j).length:=by rw[dD,XC]
     obtain⟨H,W',E,D,K⟩:=J9 f.2 (T j u) hE (by rw[<-d];omega) f.1.size;rw[<-dD]at D;have S:Hid (kZ w W'/\W'.ownsRow w.heap.size 124 37 H (eZ L (j+1)).length (aR (eZ L (j+1)))):=⟨f.1.grown K f.1.size (λk I=>(f.2.lt k I).1),D⟩
     have C:=Hid.mk' E;obtain⟨M,J,rfl,-⟩:=hE.form;have l:=atS g 0 i c j u;rw[show 0+1*j=j by omega]at l;clear E D K d o f q r;go_wp2_with (first|(refine mF (x:=u6) (y:=.slice M (L j).length J) (v:=H) (w':=W') rfl _ _ 82 rfl ?_ ?_ ?_ ?_;rfl;rfl;exact C.out)|fail)
     go_roundg (gk-1)
     case measure=>omega
     case rel=>exact⟨j+1,oM,rfl,S⟩
    ·have B:¬(j:Int)<(i:Int):=oM;obtain rfl:j=i:=oM;go_wp2;go_ret;exact⟨_,rfl,f.1,f.2⟩
theorem cA(B:Nat)(s t:Xu)(l m:List (Nat × Bs))(n:0<(l++m).length)(O:l.length<=500)(P:m.length<=500)(a:∀x∈l,x.2.size=33)(o:∀x∈m,x.2.size=33)(w:Xs)(H:SmZ B w s l)(I:SmZ B w t m):
 XH prog 31 #[s,t] w (rZ w λe w'=>Sm w.heap.size w' e (l++m)):=by
 obtain⟨p,c1,J,-⟩:=H.form;obtain⟨z,c2,L,-⟩:=I.form;subst J;subst L;obtain⟨b,k⟩:=hE (w.alloc (.cells #[.slice p l.length c1,.slice z m.length c2] 82));have C:kZ w b:=by rw[<-k.out];exact aC _ _
 have A:w.heap.size<b.heap.size:=by rw[<-k.out,XF];omega
 have G:b.rangeAt w.heap.size 0 [.slice p l.length c1,.slice z m.length c2]:=by rw[<-k.out];exact(Made.alloc w [.slice p l.length c1,.slice z m.length c2] 82).range
 have M:=Hid.mk' (IE w.heap.size 2 2 (λj=>if j=0 then l else m) dC (λj _=>by show(if j=0 then l else m).length<=600;split<;>omega) (λj _=>by
  show ∀x∈(if j=0 then l else m),x.2.size=33;split
  ·exact a
  ·exact o) b A (λj d=>by
  have i:∀ {v:Xu}{l:List (Nat × Bs)},SmZ B w v l->SmZ 0 b v l:=λh=>by
   rcases h.grow C with h|⟨g,c,q,u,-,y,f⟩
   ·exact X9 h
   ·exact X0 ⟨g,c,q,u,Zh _,y,f⟩
  have d:j=0\/j=1:=oM;rcases d with rfl|rfl
  ·exact⟨_,G 0 _ rfl,i H⟩
  ·exact⟨_,G 1 _ rfl,i I⟩))
 have d:eZ (λj=>if j=0 then l else m) 2=l++m:=by rw[dD,dD];rfl
 have i:=Hid.mk' C;have D:=mk2 d n;go_enter func31,ntmps31;go_wp2_with fail
 rw[k.out];refine M.mono ?_;rintro e E ⟨K,rfl,r,ho⟩;rw[D.1]at ho;have F:Hid (kZ w E/\Sm w.heap.size E K (l++m)):=by
  obtain⟨g,c,q,u,N,y,f⟩:=Gc ho D.2;exact⟨i.trans (r.mono i.size),g,c,q,u,XB i.size N,y,f⟩
 go_wp2;go_ret;exact⟨_,rfl,F.1,F.2⟩
theorem Iu(w:Xs):XH prog 165 #[.slice none 0 0,.func (.func 110) #[] #[]] w (rZ w λe w'=>e=iZ (-1)):=by
 go_enter func165,ntmps165;go_wp2;go_loopg [8] 0 (λq s8 W=>q=0/\s8=iZ 0/\W=w)
 case atStart=>exact⟨rfl,rfl,rfl⟩
 case round =>
  obtain⟨rfl,rfl,rfl⟩:=hrel;go_wp2;go_ret;exact⟨_,rfl,XM _ _,rfl⟩
theorem EP(w:Xs):XH prog 109 #[.slice none 0 0,.func (.func 110) #[] #[]] w (rZ w λe w'=>e=.slice none 0 0):=by
 have b:=Iu;go_enter func109,ntmps109;go_wp2_with fail
 refine(b w).mono ?_;rintro e d ⟨v1,rfl,k,rfl⟩;have c:=Hid.mk' k;clear k b;go_wp2;go_ret;exact⟨_,rfl,c.out,rfl⟩
theorem Ev(w:Xs):XH prog 63 #[.slice none 0 0] w (rZ w λe w'=>e=.slice none 0 0):=by
 have b:(Instr.makeMap 202 none).run prog w=.ok (.map (some w.heap.size)) (w.alloc (.map #[] 0)):=kR;obtain⟨d,k⟩:∃d,Hid (w.alloc (.map #[] 0)=d):=⟨_,rfl⟩
 rw[k.out]at b;have f:Hid (kZ w d):=by rw[<-k.out];exact aC w _
 have g:=Hid.mk' EP;clear k;go_enter func63,ntmps63;go_wp2;clear b;go_loopg [4,12] 0 (λq s4 s12 W=>q=0/\s4=.slice none 0 0/\s12=iZ 0/\W=d)
 case atStart=>exact⟨rfl,rfl,rfl,rfl⟩
 case round =>
  obtain⟨rfl,rfl,rfl,rfl⟩:=hrel;go_wp2_with fail
  refine(g wr).mono ?_;rintro e i ⟨v2,rfl,c,rfl⟩;have j:Hid (kZ w i):=f.trans (c.mono f.size);clear c g f;go_wp2;go_ret;exact⟨_,rfl,j.out,rfl⟩
theorem Ig(C:Fld P)(O:Ord N)(w:Xs):XH prog 33 #[.slice none 0 0] w (rZ w λe w'=>e=pvl (wr (none:EC.Pt P))):=by
 refine(xI C O (.slice none 0 0) w 0 dC (λ_=>0) (λ_=>none) (λj k=>absurd k (ZV _)) (λj k=>absurd k (ZV _)) λW _=>(Ev W).mono ?_).mono ?_
 ·rintro e w' ⟨v,rfl,b,rfl⟩;exact⟨_,rfl,b,_,_,rfl,λh=>absurd h (yEe _)⟩
 ·rintro e w' ⟨v,rfl,b,rfl⟩;exact⟨_,rfl,b,rfl⟩
structure Kp(w:Xs)(W:Xs)(rs:List (Nat × List Xu)):Prop where
 bl:kZ w W
 rw:∀x∈rs,Row W x.1 x.2
theorem Kp.grow{w W W':Xs}{rs:List (Nat × List Xu)}(h:Kp w W rs)(k:kZ W W'):Kp w W' rs:=⟨h.bl.trans (k.mono h.bl.size),λx hx=>(h.rw x hx).below k⟩
theorem Kp.drew{w W:Xs}{rs:List (Nat × List Xu)}(h:Kp w W rs):Kp w W.drew rs:=⟨h.bl.drew,h.rw⟩
theorem Kp.at{w W:Xs}{rs:List (Nat × List Xu)}(h:Kp w W rs){k:Nat}{c:List Xu}(i:Nat)(b:rs[i]? = some (k,c)):Row W k c:=h.rw _ (List.mem_of_getElem? b)
def Nw(B:Nat)(c:List Xu)(v:Xu)(W:Xs):Prop:=∃k,v=jZ k/\B<=k/\Row W k c
section
variable (w:Xs) (k6 k8 k9 k10 x kk c z B0:Nat) (A F:Bs) (v1:Xu)
def R5:Nat->Xu->Xs->Prop
 | 0,v,_=>v=nv kk
 | 1,v,_=>v=pvl A
 | 2,v,_=>v=pvl F
 | 3,v,W=>Nw B0 z33 v W
 | _,_,_=>True
def Two(v:Xu)(W:Xs):Prop:=∃k y,v=sZ k 2 2/\k<W.heap.size/\W.cell? ⟨k,0,none⟩=some (sZ k9 33 33)/\W.cell? ⟨k,1,none⟩=some y/\El 32 W y (bx z)
def Ans(v:Xu)(W:Xs):Prop:=W.ownsRow B0 5 1 v 65 ((F.toList++(bx z).toList).map encB)
def R7:Nat->Xu->Xs->Prop
 | 0,v,_=>v=sZ k9 33 33
 | 1,v,_=>v=nv c
 | 2,v,_=>v=nv kk
 | 3,v,_=>v=nv x
 | 4,v,_=>v=nv z
 | 5,v,W=>El 32 W v (bx z)
 | 6,v,W=>Two k9 z v W
 | 7,v,W=>Ans z B0 F v W
 | 8,v,W=>Ans z B0 F v W
 | 9,v,_=>v=iZ 0
 | _,_,_=>True
end
theorem results_ct{P:YG}{c:Func}{tmps:Array Xu}{W:Xs}{k:Nat}{vs:List Xu}{v:Xu}(t u:Zs)(T:Yd)(f:c.results=#[.cell t T,.tmp u])(h:Row W k vs)(i:tmps[t]? = some (jZ k))(hv:tmps[u]? = some v)
 (b:(P.underlying T).map (·.isRow)=some true) (e:(P.info? T).map (·.size)=some vs.length):(results c tmps).run P W=.ok (.tuple #[.agg vs.toArray,v]) W:=by
 obtain⟨d,b,hd⟩:=XA.1 b;have j:=yAA (P:=P) W k 0 T vs d h.2.1 b hd e;have l:tmps.getD t Zp=jZ k:=by rw[XI,i];rfl
 have g:tmps.getD u Zp=v:=by rw[XI,hv];rfl
 unfold results;rw[f];simp only[ZP,yA3,yBc,l,g,asAddr];simp[XT,j]
theorem Qg(w:Xs):(yBP 51 #[]).run prog w=.ok (.agg z33.toArray) w:=kR
theorem Ta(g o k:Nat)(w:Xs):(Instr.arrayAt 51 (.slice (some ⟨g,o,none⟩) 33 k)).run prog w=.ok (oZ g o) w:=kR
theorem FT{k:Bs}{p:Fin P × Fin P}(h:rd P k=some p):k.size=33:=by
 unfold rd at h;split at h
 ·assumption
 ·cases h
theorem Iw{W:Xs}{g o:Nat}{b:Bs}(h:Holds encB W g o b):W.rangeAt g o (aA b):=λj u c=>by
 unfold aA at c;rw[List.getElem?_map]at c;obtain⟨x,hx,rfl⟩:=XA.1 c;have k:j<b.size:=by have:=(XG.1 hx).1;simpa using this
 rw[(h j k).1,getElem!_pos b j k];rw[Yz,X4 k]at hx;rw[XS.inj hx]
theorem G5(C:Fld P)(v:Xu)(k:Bs)(p:Fin P × Fin P)(w:Xs)(hv:Arg33 w v k)(z:rd P k=some p):XH prog 57 #[v] w (rZ w λe w'=>e=.tuple #[pvl k,.bool true]):=by
 have A:=FT z;have H:Hid (∀W,kZ w W->XH prog 103 #[v] W (rZ W λe w'=>e=.bool true)):=λW J=>by
  have h:=C4 C v k W (hv.below J);rw[z]at h;exact h
 obtain⟨q,n,cap,rfl,x,K⟩:=hv;rw[A]at x;subst x;obtain⟨g,o,rfl,-,I,G⟩:=K rfl;have F:=mk2 (Iw G) I;obtain⟨s,i⟩:=hE (w.alloc (.cells z33.toArray 51));have f:Hid (Row s w.heap.size z33/\kZ w s):=by rw[<-i.out];exact⟨row_new w _ _,aC w _⟩
 obtain⟨d,t,u⟩:=XA.1 uCP;have B:=mk2 t u;have L:=Hid.mk' A;have D:=Ta g o cap;go_enter func57,ntmps57;go_wp2_with (first|(refine bF (v:=jZ w.heap.size) (w':=s) rfl (.alloc 51) rfl ?_ ?_;(rw[<-i.out];kernel_rfl))|fail)
 refine(H s f.2).mono ?_;rintro e y ⟨N,rfl,c,rfl⟩;have m:=mk3 (f.1.below c) (f.2.trans (c.mono f.2.size)) (RG.range_below F.1 (f.2.trans (c.mono f.2.size)) F.2);obtain⟨a,j⟩:=hE (y.setCells w.heap.size 0 (aA k));have b:=aB L.out;have E:Hid (Row a w.heap.size (aA k)/\kZ w a):=by rw[<-j.out];exact⟨m.1.put (by rw[b];rfl),RG.below_setCells (Xx _) _ _ _ m.2.1⟩
 obtain⟨M,l⟩:=hE (X6 (aA k).toArray);have r:Hid ((prog.info? 51).map (·.size)=some (aA k).length/\y.there w.heap.size 0 (aA k).toArray.size/\(prog.info? 51).map (·.size)=some (aA k).toArray.size):=by
  have e:(aA k).toArray.size=33:=by rw[YD];exact b
  refine⟨by rw[b];exact cZ,by rw[e];exact m.1.2.2,by rw[e];exact cZ⟩
 go_wp2_with (first|(refine Yv rfl 51 _ rfl g o ?_ (aA k) d ?_ ?_ ?_ ?_ ?_;rfl;exact m.2.2;exact B.1;exact B.2;exact r.1;rw[l.out])|(refine X8 rfl 51 _ _ rfl w.heap.size 0 (aA k).toArray ?_ ?_ ?_ ?_ ?_ ?_;rfl;exact l.symm;exact r.2.1;exact r.2.2;exact bQ k;rw[show(aA k).toArray.toList=aA k from rfl,j.out])|fail)
 refine XE (results_ct 2 3 51 rfl E.1 rfl rfl uCP r.1) rfl ?_;exact⟨_,rfl,E.2,rfl⟩
theorem OX(C:Fld P)(v:Xu)(l:Bs)(w:Xs)(hv:Arg33 w v l)(s:rd P l=none):XH prog 57 #[v] w (rZ w λe w'=>e=.tuple #[.agg z33.toArray,.bool false]):=by
 have p:Hid (∀W,kZ w W->XH prog 103 #[v] W (rZ W λe w'=>e=.bool false)):=λW q=>by
  have h:=C4 C v l W (hv.below q);rw[s]at h;exact h
 obtain⟨g,k⟩:=hE (w.alloc (.cells z33.toArray 51));have f:Hid (Row g w.heap.size z33/\kZ w g):=by rw[<-k.out];exact⟨row_new w _ _,aC w _⟩
 obtain⟨r,d⟩:=hE (X6 z33.toArray);have t:Hid (z33.toArray.all (·.oneCell')=true):=by show _=_;decide +kernel
 go_enter func57,ntmps57;go_wp2_with (first|(refine bF (v:=jZ w.heap.size) (w':=g) rfl (.alloc 51) rfl ?_ ?_;(rw[<-k.out];kernel_rfl))|fail)
 refine(p g f.2).mono ?_;rintro e i ⟨u,rfl,b,rfl⟩;have j:=mk2 (f.1.below b) (f.2.trans (b.mono f.2.size));obtain⟨n,c⟩:=hE (i.setCells w.heap.size 0 z33);have o:Hid (Row n w.heap.size z33/\kZ w n):=by rw[<-c.out];exact⟨j.1.put rfl,RG.below_setCells (Xx _) _ _ _ j.2⟩
 have m:=Hid.mk' (Qg i);rw[d.out]at m;go_wp2_with (first|(refine mE (v:=r) (w':=i) rfl 51 _ rfl #[] ?_ ?_ ?_;kernel_rfl;exact m.out)|(refine X8 rfl 51 _ _ rfl w.heap.size 0 z33.toArray ?_ ?_ ?_ ?_ ?_ ?_;rfl;exact d.symm;exact j.1.2.2;exact cZ;exact t.out;rw[show z33.toArray.toList=z33 from rfl,c.out])|fail)
 refine XE (results_ct 2 3 51 rfl o.1 rfl rfl uCP cZ) rfl ?_;exact⟨_,rfl,o.2,rfl⟩
theorem atP(k o n c i:Nat)(b:i<n)(w:Xs):(Yi 83 (.slice (some ⟨k,o,none⟩) n c) (iZ i)).run prog w=.ok (.pointer (some ⟨k,o+33*i,none⟩)) w:=by
 go_simp
theorem Uu(N:Nat)(l:N<=512):∃C0:List Xu,C0.length=33*N/\∀w:Xs,(yAb 83 (iZ N) (iZ N)).run prog w=.ok (sZ w.heap.size N N) (w.alloc (.cells C0.toArray 51)):=by
 have d:prog.underlying 83=some (.slice 51):=kR;have e:(prog.info? 51).map (λi=>(i.size,decide (i.bytes<=4000),i.zero.isSome))=some (33,true,true):=kR;obtain⟨i,b,k⟩:=XA.1 e;simp only[Ze.injEq,decide_eq_true_eq]at k;obtain⟨c,f,n⟩:=k;obtain⟨z,g⟩:=YB.1 n;refine⟨(madeCells z.cells (N*33)).toList,by rw[XP,yBk,YF],λw=>?_⟩;have m:(i.bytes:Int)*(N:Int)<=281474976710656:=by
  have:i.bytes*N<=4000*512:=ZB f l;have j:((i.bytes*N:Nat):Int)<=281474976710656:=oM;rwa[Z2]at j
 have:=run_make (P:=prog) w 83 51 i z d b g .i64 .i64 (N:Int) (N:Int) oM oM m oM;rw[yAz,c]at this;rw[yAc];exact this
structure Az(w W:Xs)(K k i:Nat)(L:Nat->Bs):Prop where
 bl:kZ w W
 lt:K<W.heap.size
 th:W.there K 0 (33*k)
 rw:∀j,j<i->W.rangeAt K (33*j) (aA (L j))
theorem Az.grow{w W W':Xs}{K k i:Nat}{L:Nat->Bs}(h:Az w W K k i L)(b:kZ W W'):Az w W' K k i L:=
 ⟨h.bl.trans (b.mono h.bl.size),Xz h.lt b.size,dH h.th b h.lt,λj c=>RG.range_below (h.rw j c) b h.lt⟩
theorem Az.put{w W:Xs}{K k i:Nat}{L:Nat->Bs}(h:Az w W K k i L)(d:w.heap.size<=K)(g:i<k)(c:∀j,j<=i->(L j).size=33):Az w (W.setCells K (33*i) (aA (L i))) K k (i+1) L:=by
 refine⟨RG.below_setCells d _ _ _ h.bl,by rw[setCells_size];exact h.lt,Y2 h.th _ _ _,λj f=>?_⟩;by_cases b:j=i
 ·subst b;refine YM W K _ _ λt e=>?_
  rw[aB (c j (Xx _))]at e;have:=h.th (33*j+t) oM;rwa[XD]at this
 ·exact Yk (h.rw j oM) K _ _ (X0 (X9 (by rw[aB (c j oM)];omega)))
def Xo(P:Nat)[NeZero P](w:Xs)(k:Nat)(L:Nat->Bs)(e:Xu)(w':Xs):Prop:=
 kZ w w'/\(((∀j,j<k->∃p,rd P (L j)=some p)/\∃K,e=.tuple #[sZ K k k,.bool true]/\w.heap.size<=K/\K<w'.heap.size/\∀j,j<k->w'.rangeAt K (33*j) (aA (L j)))\/((∃j,j<k/\rd P (L j)=none)/\e=.tuple #[.slice none 0 0,.bool false]))
def Qu(P:Nat)[NeZero P](w:Xs)(k:Nat)(L:Nat->Bs)(e:Xu)(w':Xs):Prop:=
 kZ w w'/\(((∀j,j<k->∃p,rd P (L j)=some p)/\∃K,e=.tuple #[sZ K k k,.bool true]/\w.heap.size<=K/\K<w'.heap.size/\w'.there K 0 (33*k)/\∀j,j<k->w'.rangeAt K (33*j) (aA (L j)))\/((∃j,j<k/\rd P (L j)=none)/\e=.tuple #[.slice none 0 0,.bool false]))
theorem Te(C:Fld P)(D o k c:Nat)(hk:k<=512)(L:Nat->Bs)(w:Xs)(hg:D<w.heap.size)(hL:∀j,j<k->∃v,w.cell? ⟨D,o+j,none⟩=some v/\Arg33 w v (L j)):
 XH prog 56 #[.func (.func 57) #[] #[],.slice (some ⟨D,o,none⟩) k c] w (Ret (Qu P w k L)):=by
 obtain⟨C0,J,M⟩:=Uu k hk;have u:=M w;obtain⟨w1,a⟩:=hE (w.alloc (.cells C0.toArray 51));rw[a.out]at u;have HM:=Hid.mk' u;have K1:Hid (Az w w1 w.heap.size k 0 L):=by
  have hR:Row w1 w.heap.size C0:=by rw[<-a.out];exact row_new w _ _
  refine⟨by rw[<-a.out];exact aC _ _,hR.1,by rw[<-J];exact hR.2.2,λj V=>oM⟩
 have S:Hid (Fld P/\(∀j,j<k->∃v,w.cell? ⟨D,o+j,none⟩=some v/\Arg33 w v (L j))/\D<w.heap.size):=⟨C,hL,hg⟩
 obtain⟨d,H,I⟩:=XA.1 uCP;have HD:=mk2 H I;have HO:Hid (z33.toArray.all (·.oneCell')=true):=by show _=_;decide +kernel
 clear H I C hL hg M J a;go_enter func56,ntmps56;go_wp2;clear u;go_loopg [16] k (λm s16 W=>∃i:Nat,i+m=k/\s16=iZ i/\Hid (Az w W w.heap.size k i L/\∀j,j<i->∃p,rd P (L j)=some p))
 case atStart=>exact⟨0,oM,rfl,K1.out,λj V=>oM⟩
 case round =>
  obtain⟨i,h0,rfl,x⟩:=hrel;by_cases O:i<k
  ·have T:(i:Int)<(k:Int):=oM;obtain⟨v,R,N⟩:=S.2.1 i O;have hc:wr.cell? ⟨D,o+i,none⟩=some v:=by rw[x.1.bl.cell (p:=⟨D,o+i,none⟩) S.2.2];exact R
   have HA:Hid (Arg33 wr v (L i)):=N.below x.1.bl;have Y:=atB D o k c i O;rw[show o+1*i=o+i by omega]at Y;clear R N;obtain⟨b,z⟩:∃b,Hid (L i=b):=⟨_,rfl⟩
   rw[z.out]at HA;obtain⟨g,f⟩:∃g:Nat,True:=⟨0,yEU⟩
   clear f g;cases K:rd P b with
   | none =>
    go_wp2_with fail
    refine(OX S.1 v b wr HA.out K).mono ?_;rintro e A ⟨vv,rfl,E,rfl⟩;obtain⟨vz,l⟩:=hE (X6 z33.toArray);rw[l.out];obtain⟨g,f⟩:=hE (A.heap.size);obtain⟨y,s⟩:=hE (A.alloc (.cells z33.toArray 51));obtain⟨G,r⟩:=hE (y.setCells g 0 z33);have F:Hid (Row y g z33/\kZ w y/\w.heap.size<=g):=by
     have n:=x.1.bl.trans (E.mono x.1.bl.size);rw[<-s.out,<-f.out];exact⟨row_new A _ _,n.alloc n.size _,n.size⟩
    have n:Hid (kZ w G):=by rw[<-r.out];exact RG.below_setCells F.2.2 _ _ _ F.2.1
    have B:Hid (i<k/\rd P (L i)=none):=⟨O,by rw[z.out];exact K⟩
    go_wp2_with (first|(refine bF (v:=jZ g) (w':=y) rfl (.alloc 51) rfl ?_ ?_;(rw[<-s.out,<-f.out];kernel_rfl))|(refine X8 rfl 51 _ _ rfl g 0 z33.toArray ?_ ?_ ?_ ?_ ?_ ?_;rfl;exact l.symm;exact F.1.2.2;exact cZ;exact HO.out;rw[show z33.toArray.toList=z33 from rfl,r.out])|fail)
    go_ret2
    exact⟨_,rfl,n.out,X0 ⟨⟨i,B.out⟩,rfl⟩⟩
   | some p =>
    have hs:=FT K;go_wp2_with fail
    refine(G5 S.1 v b p wr HA.out K).mono ?_;rintro e A ⟨vv,rfl,E,rfl⟩;obtain⟨vz,l⟩:=hE (pvl b);rw[l.out];have n:=aB hs;have U:(aA b).toArray.size=33:=by rw[YD];exact n
    obtain⟨g,f⟩:=hE (A.heap.size);obtain⟨y,s⟩:=hE (A.alloc (.cells z33.toArray 51));obtain⟨G,r⟩:=hE (y.setCells g 0 (aA b));obtain⟨W4,Q⟩:=hE (G.setCells w.heap.size (33*i) (aA b));have A1:=x.1.grow E;have F:Hid (Row y g z33/\kZ A y):=by
     rw[<-s.out,<-f.out];exact⟨row_new A _ _,aC _ _⟩
    have Z:Hid (Row G g (aA b)/\Az w G w.heap.size k i L):=by
     rw[<-r.out];exact⟨F.1.put (by rw[n];rfl),A1.grow (RG.below_setCells (by rw[f.out];exact Xx _) _ _ _ F.2)⟩
    have K4:Hid (Az w W4 w.heap.size k (i+1) L/\∀j,j<i+1->∃p,rd P (L j)=some p):=by
     have B:∀j,j<i+1->∃p,rd P (L j)=some p:=λj V=>by
      by_cases X:j=i
      ·subst X;exact⟨p,by rw[z.out];exact K⟩
      ·exact x.2 j oM
     have h:=Z.2.put (Xx _) O (λj V=>by obtain⟨q,X⟩:=B j oM;exact FT X);rw[z.out,Q.out]at h;exact⟨h,B⟩
    have B:Hid ((prog.info? 51).map (·.size)=some (aA b).length/\(prog.info? 51).map (·.size)=some (aA b).toArray.size/\y.there g 0 (aA b).toArray.size/\G.there w.heap.size (33*i) (aA b).toArray.size):=by
     rw[n,U];refine⟨cZ,cZ,F.1.2.2,λt X=>?_⟩;have:=Z.2.th (33*i+t) oM;rwa[XD]at this
    have X:=atP w.heap.size 0 k k i O;go_wp2_with (first|(refine bF (v:=jZ g) (w':=y) rfl (.alloc 51) rfl ?_ ?_;(rw[<-s.out,<-f.out];kernel_rfl))|(refine X8 rfl 51 _ _ rfl g 0 (aA b).toArray ?_ ?_ ?_ ?_ ?_ ?_;rfl;exact l.symm;exact B.2.2.1;exact B.2.1;exact bQ b;rw[show(aA b).toArray.toList=aA b from rfl,r.out])|(refine Yv rfl 51 _ rfl g 0 ?_ (aA b) d ?_ ?_ ?_ ?_ ?_;rfl;exact Z.1.2.1;exact HD.1;exact HD.2;exact B.1;rw[show X6 (aA b).toArray=vz from l.out])|(refine X8 rfl 51 _ _ rfl w.heap.size (33*i) (aA b).toArray ?_ ?_ ?_ ?_ ?_ ?_;rfl;exact l.symm;exact B.2.2.2;exact B.2.1;exact bQ b;rw[show(aA b).toArray.toList=aA b from rfl,Q.out])|fail)
    go_roundg (gk-1)
    case measure=>omega
    case rel=>exact⟨i+1,oM,rfl,K4⟩
  ·have T:¬(i:Int)<(k:Int):=oM;obtain rfl:i=k:=oM;go_wp2
   go_ret2
   exact⟨_,rfl,x.1.bl,X9 ⟨x.2,w.heap.size,rfl,Xx _,x.1.lt,x.1.th,x.1.rw⟩⟩
theorem Tf(C:Fld P)(b k c:Nat)(d:k<=512)(L:Nat->Bs)(w:Xs)(g:b<w.heap.size)(e:∀j,j<k->∃v,w.cell? ⟨b,j,none⟩=some v/\Arg33 w v (L j)):
 XH prog 56 #[.func (.func 57) #[] #[],sZ b k c] w (Ret (Qu P w k L)):=Te C b 0 k c d L w g λj f=>by rw[XD];exact e j f
theorem Fp(C:Fld P)(b k c:Nat)(m:k<=512)(L:Nat->Bs)(w:Xs)(d:b<w.heap.size)(g:∀j,j<k->∃v,w.cell? ⟨b,j,none⟩=some v/\Arg33 w v (L j)):
 XH prog 56 #[.func (.func 57) #[] #[],sZ b k c] w (Ret (Xo P w k L)):=by
 refine(Tf C b k c m L w d g).mono ?_;rintro e w' ⟨v,rfl,f,h⟩;refine⟨_,rfl,f,?_⟩;rcases h with⟨n,K,o,i,l,-,p⟩|h
 ·exact X9 ⟨n,K,o,i,l,p⟩
 ·exact X0 h
theorem Em(O:Ord N){a:Nat}(d:a<N):Gives 37 #[nv a] (nv (sMi N 0 a)):=by
 intro w;have h:=D3 O 0 a O.pos d;generalize sMi N 0 a=m at h⊢;go_enter func37,ntmps37;refine RG.M.enter [(0,.v (nv a))] 6 kR ?_;intro a0 b;repeat refine Xy ?_
 refine b.T [.m 0,.m 1] [(0,wn a),(1,RG.z 4)] [] [wn a,RG.z 4] [1,2] ⟨mk 0 44,mk 1 44,yEU⟩ ?_;intro e g i j c;repeat refine Xy ?_
 refine c.T [.x (nv 0),.x (nv a),.c (nv m),.u 1] [] [(1,3,wn m)] [wn a,wn m] [2] ⟨st,ld u40 i40,cl h,RG.pt i40,yEU⟩ ?_;intro a2 f k;refine Y5 ?_;refine XE (v:=nv m) (aH k.st 2 44 rfl 1 _ rfl (k.at (s:=(.p 1 0))) u40 i40) k.sl.defers ?_;exact⟨_,rfl,k.st.bel.below,rfl⟩
theorem Wz(N:Nat)(j:N<=512):∃C0:List Xu,C0.length=37*N/\∀w:Xs,(yAb 82 (iZ N) (iZ N)).run prog w=.ok (sZ w.heap.size N N) (w.alloc (.cells C0.toArray 124)):=by
 have d:(prog.info? 124).map (λi=>(i.size,decide (i.bytes<=4000),i.zero.isSome))=some (37,true,true):=kR;obtain⟨i,b,k⟩:=XA.1 d;simp only[Ze.injEq,decide_eq_true_eq]at k;obtain⟨c,e,m⟩:=k;obtain⟨z,f⟩:=YB.1 m;refine⟨(madeCells z.cells (N*37)).toList,by rw[XP,yBk,YF],λw=>?_⟩;have l:(i.bytes:Int)*(N:Int)<=281474976710656:=by
  have:i.bytes*N<=4000*512:=ZB e j;have g:((i.bytes*N:Nat):Int)<=281474976710656:=oM;rwa[Z2]at g
 have:=run_make (P:=prog) w 82 124 i z DF b f .i64 .i64 (N:Int) (N:Int) oM oM l oM;rw[yAz,c]at this;rw[yAc];exact this
theorem IL{W:Xs}{g:Nat}{l:List (Nat × Bs)}(k:∀x∈l.map (·.2),x.size=33)(e:W.rangeAt g 0 (aR l))(j:Nat)(b:j<l.length):W.rangeAt g (37*j) (wn (l[j]).1++aA (l[j]).2):=λt u c=>by
 have d:t<37:=by
  have:=(XG.1 c).1;rw[iF (k _ (Yw.2 ⟨_,YL b,rfl⟩))]at this;exact this
 have:=e (37*j+t) u (by rw[lY l k j b t d];exact c);rw[XD]at this;exact this
theorem D5{W:Xs}{g:Nat}{l:List (Nat × Bs)}(k:∀x∈l.map (·.2),x.size=33)(m:∀j (b:j<l.length),W.rangeAt g (37*j) (wn (l[j]).1++aA (l[j]).2)):W.rangeAt g 0 (aR l):=λt u c=>by
 have f:t<l.length*37:=by
  have:=(XG.1 c).1;rwa[qX λx hx=>k _ (Yw.2 ⟨x,hx,rfl⟩)]at this
 have b:t/37<l.length:=Nat.div_lt_of_lt_mul oM;have i:t%37<37:=Y9 _ dC;have e:37*(t/37)+t%37=t:=Nat.div_add_mod _ _;have d:=lY l k (t/37) b (t%37) i;rw[e,c]at d;have:=m (t/37) b (t%37) u d.symm;rw[e]at this;rw[XD];exact this
def tmT(N n:Nat)(x:Nat × Bs):Nat × Bs:=(sTi N n x.1,x.2)
structure Tz(w W:Xs)(N n K k3 i:Nat)(l:List (Nat × Bs)):Prop where
 bl:kZ w W
 lt:K<W.heap.size
 ne:k3≠K
 th:W.there K 0 (37*l.length)
 r3:Row W k3 (wn n)
 rw:∀j (hj:j<l.length),j<i->W.rangeAt K (37*j) (wn (tmT N n (l[j])).1++aA (tmT N n (l[j])).2)
theorem Tz.grow{w W W':Xs}{n K c i:Nat}{l:List (Nat × Bs)}(h:Tz w W N n K c i l)(k:kZ W W'):Tz w W' N n K c i l:=
 ⟨h.bl.trans (k.mono h.bl.size),Xz h.lt k.size,h.ne,dH h.th k h.lt,h.r3.below k,λj d b=>RG.range_below (h.rw j d b) k h.lt⟩
theorem Tz.drew{w W:Xs}{n K k i:Nat}{l:List (Nat × Bs)}(h:Tz w W N n K k i l):Tz w W.drew N n K k i l:=⟨h.bl.drew,h.lt,h.ne,h.th,h.r3,h.rw⟩
theorem Tz.put{w W:Xs}{n K d i:Nat}{l:List (Nat × Bs)}(h:Tz w W N n K d i l)(m:w.heap.size<=K)(o:i<l.length)(c:∀x∈l.map (·.2),x.size=33):Tz w (W.setCells K (37*i) (wn (tmT N n (l[i])).1++aA (tmT N n (l[i])).2)) N n K d (i+1) l:=by
 have b:∀(j:Nat) (k:j<l.length),(wn (tmT N n (l[j])).1++aA (tmT N n (l[j])).2).length=37:=λj k=>iF (c _ (Yw.2 ⟨_,YL k,rfl⟩))
 refine⟨RG.below_setCells m _ _ _ h.bl,by rw[setCells_size];exact h.lt,h.ne,Y2 h.th _ _ _,⟨by rw[setCells_size];exact h.r3.1,Yk h.r3.2.1 K _ _ (X9 h.ne),Y2 h.r3.2.2 _ _ _⟩,λj k f=>?_⟩;by_cases e:j=i
 ·subst e;refine YM W K _ _ λt g=>?_
  rw[b j k]at g;have:=h.th (37*j+t) oM;rwa[XD]at this
 ·exact Yk (h.rw j k oM) K _ _ (X0 (X9 (by rw[b j k];omega)))
section
variable (w:Xs) (n K k3 k7 i s m:Nat) (p:Bs) (l:List (Nat × Bs))
def Rt:Nat->Xu->Xs->Prop
 | 0,v,_=>v=sZ K l.length l.length
 | 1,v,_=>v=iZ i
 | 2,v,_=>v=nv n
 | 3,v,_=>v=jZ k7
 | 4,v,_=>v=nv s
 | 5,v,_=>v=nv m
 | 6,v,_=>v=oZ k7 4
 | 7,v,_=>v=pvl p
 | 8,v,_=>v=tvl m p
 | 9,v,_=>v=.pointer (some ⟨K,0+37*i,none⟩)
 | _,_,_=>True
def Gt(N:Nat):Gw:=⟨Rt n K k7 i s m p l,λW=>Tz w W N n K k3 i l/\Row W k7 (wn s++aA p),λj v W W' k h=>by
 match j,h with
 | 0,h=>exact h
 | 1,h=>exact h
 | 2,h=>exact h
 | 3,h=>exact h
 | 4,h=>exact h
 | 5,h=>exact h
 | 6,h=>exact h
 | 7,h=>exact h
 | 8,h=>exact h
 | 9,h=>exact h
 | _+10,_=>trivial,λW W' k h=>⟨h.1.grow k,h.2.below k⟩⟩
end
theorem eH(O:Ord N){n:Nat}(hn:n<N)(B:Nat)(s:Xu)(l:List (Nat × Bs))(hl:l.length<=512)(Y:∀x∈l.map (·.2),x.size=33)(h8:∀x∈l,x.1<N)(w:Xs)(hS:Sm B w s l):
 XH prog 149 #[s,nv n] w (rZ w λe w'=>Sm w.heap.size w' e (l.map (tmT N n))):=by
 obtain⟨g,c,rfl,hc,-,hg,hr⟩:=hS;have HB:=Hid.mk' (boxS n w);obtain⟨C,A⟩:∃C,Hid (w.alloc (.cells (wn n).toArray 44)=C):=⟨_,rfl⟩
 rw[A.out]at HB;obtain⟨G,D⟩:∃k,Hid (w.heap.size=k):=⟨_,rfl⟩
 obtain⟨K,hK⟩:∃k,Hid (C.heap.size=k):=⟨_,rfl⟩
 have e1:K=G+1:=by rw[<-hK.out,<-D.out,<-A.out,XF]
 obtain⟨C0,Z,h6⟩:=Wz l.length hl;have I:=h6 C;obtain⟨w2,H⟩:∃w2,Hid (C.alloc (.cells C0.toArray 124)=w2):=⟨_,rfl⟩
 rw[H.out,hK.out]at I;rw[D.out]at HB;have K2:Hid (Tz w w2 N n K G 0 l):=by
  have f:Row C G (wn n):=by rw[<-A.out,<-D.out];exact row_new w _ _
  have b1:kZ w C:=by rw[<-A.out];exact aC _ _
  have o:kZ C w2:=by rw[<-H.out];exact aC _ _
  have d:Row w2 K C0:=by rw[<-H.out,<-hK.out];exact row_new C _ _
  exact⟨b1.trans (o.mono b1.size),d.1,oM,by rw[<-Z];exact d.2.2,f.below o,λj hj q=>oM⟩
 have r:Hid (Ord N/\n<N/\(∀x∈l.map (·.2),x.size=33)/\(∀x∈l,x.1<N)/\g<w.heap.size/\w.rangeAt g 0 (aR l)/\w.heap.size<=K):=⟨O,hn,Y,h8,hg,hr,by rw[D.out];omega⟩
 obtain⟨d',h7,X⟩:=XA.1 uT;have HD:Hid (prog.underlying 124=some d'/\d'.isRow=true):=⟨h7,X⟩
 obtain⟨vn,hm⟩:∃v,Hid (nv n=v):=⟨_,rfl⟩
 rw[hm.out]at HB⊢;clear h7 X O hn Y h8 hg hr h6 Z A H hK D e1;go_enter func149,ntmps149;go_wp2_with (first|(refine aG (u:=vn) (v:=jZ G) (w':=C) rfl 44 (.tmp 1) rfl ?_ ?_ ?_;rfl;exact HB.out)|fail)
 clear I;go_loopg [13] l.length (λm s13 W=>∃i:Nat,i+m=l.length/\s13=iZ i/\Hid (Tz w W N n K G i l))
 case atStart=>exact⟨0,oM,rfl,K2⟩
 case round =>
  clear K2 HB;obtain⟨i,hs,rfl,S⟩:=hrel;by_cases q:i<l.length
  ·have hk:(i:Int)<(l.length:Int):=oM;obtain⟨s,M⟩:∃s,Hid ((l[i]'q).1=s):=⟨(l[i]'q).1,(rfl:(l[i]'q).1=(l[i]'q).1)⟩
   obtain⟨p,J⟩:∃p,Hid ((l[i]'q).2=p):=⟨(l[i]'q).2,(rfl:(l[i]'q).2=(l[i]'q).2)⟩
   have E:Hid (p.size=33):=by rw[<-J.out];exact r.2.2.1 _ (Yw.2 ⟨_,YL q,rfl⟩)
   have hq:Hid (s<N):=by rw[<-M.out];exact r.2.2.2.1 _ (YL q)
   have B0:Hid (wr.rangeAt g (37*i) (wn s++aA p)):=by
    have h:=RG.range_below (IL r.2.2.1 r.2.2.2.2.2.1 i q) S.bl r.2.2.2.2.1;rw[M.out,J.out]at h;exact h
   obtain⟨o,F⟩:∃k,Hid (wr.heap.size=k):=⟨_,rfl⟩
   obtain⟨T,P⟩:∃T,Hid (wr.alloc (.cells zT.toArray 124)=T):=⟨_,rfl⟩
   obtain⟨W2,R⟩:∃W2,Hid (T.setCells o 0 (wn s++aA p)=W2):=⟨_,rfl⟩
   have f:(wn s++aA p).length=37:=iF E.out;have F1:Hid (Row T o zT/\kZ wr T):=by rw[<-P.out,<-F.out];exact⟨row_new wr _ _,aC wr _⟩
   have F2:Hid (Row W2 o (wn s++aA p)/\Tz w W2 N n K G i l):=by
    rw[<-R.out];exact⟨F1.1.put (by rw[f];rfl),S.grow (RG.below_setCells (by rw[F.out];exact Xx _) _ _ _ F1.2)⟩
   have ha:Hid ((prog.info? 124).map (·.size)=some (wn s++aA p).length):=by show _=_;rw[f];exact iT
   have h0:Hid ((prog.info? 124).map (·.size)=some (wn s++aA p).toArray.size/\T.there o 0 (wn s++aA p).toArray.size):=by
    have e:(wn s++aA p).toArray.size=37:=by rw[YD];exact f
    rw[e];exact⟨iT,F1.1.2.2⟩
   have he:Hid ((wn s++aA p).toArray.all (·.oneCell')=true):=by
    show _=_;rw[ZF];intro u hu;exact cells_one s p u (yAE.1 hu)
   have hw:=atT g 0 l.length c i q;obtain⟨vt,h3⟩:∃v,Hid (X6 (wn s++aA p).toArray=v):=⟨_,rfl⟩
   have HL:Hid (i<l.length):=q;clear f S F1;go_wp2_with (first|(refine Yv rfl 124 _ rfl g (37*i) ?_ (wn s++aA p) d' ?_ ?_ ?_ ?_ ?_;rfl;exact B0.out;exact HD.1;exact HD.2;exact ha.out;rw[h3.out])|(refine bF (v:=jZ o) (w':=T) rfl (.alloc 124) rfl ?_ ?_;(rw[<-P.out,<-F.out];kernel_rfl))|(refine X8 rfl 124 _ _ rfl o 0 (wn s++aA p).toArray ?_ ?_ ?_ ?_ ?_ ?_;rfl;exact h3.symm;exact h0.2;exact h0.1;exact he.out;rw[show(wn s++aA p).toArray.toList=wn s++aA p from rfl,R.out])|fail)
   clear P R F;refine(Gt w n K G o i s (sTi N n s) p l N).last 10 kR kR kR ⟨
    bL λa W d=>⟨[(5,sZ K l.length l.length)],sZ K l.length l.length,W,⟨d.o 5 kR,yEU⟩,kR,XM _ _,rfl⟩,
    bL λa W d=>⟨[(6,iZ i)],iZ i,W,⟨d.o 6 kR,yEU⟩,kR,XM _ _,rfl⟩,
    jD 44 3 rfl Go.Proofs.YtlofhpkoaljmeaaGreat.u40 λa W d=>⟨G,0,wn n,d.o 3 kR,d.b.1.r3.2.1,i40,rfl⟩,
    bL λa W d=>⟨[(7,jZ o)],jZ o,W,⟨d.o 7 kR,yEU⟩,kR,XM _ _,rfl⟩,
    jD 44 21 rfl Go.Proofs.YtlofhpkoaljmeaaGreat.u40 λa W d=>⟨o,0,wn s,d.n 3 21 kR kR,kH d.b.2.2.1,i40,rfl⟩,
    gC λa W d=>⟨[(20,nv n),(22,nv s)],26,#[nv n,nv s],⟨d.n 2 20 kR kR,d.n 4 22 kR kR,yEU⟩,kR,(gV r.1 n s r.2.1 hq.out W).mono (by
     rintro e W' ⟨u,rfl,L,rfl⟩;exact⟨_,rfl,L,rfl⟩)⟩,
    bL λa W d=>⟨[(7,jZ o)],oZ o 4,W,⟨d.o 7 kR,yEU⟩,kR,XM _ _,rfl⟩,
    jD 51 24 rfl uCP λa W d=>⟨o,4,aA p,d.n 6 24 kR kR,mO (xs:=wn s) d.b.2.2.1,by rw[aB E.out];exact cZ,rfl⟩,
    bL λa W d=>⟨[(23,nv (sTi N n s)),(25,pvl p)],tvl (sTi N n s) p,W,⟨d.n 5 23 kR kR,d.n 7 25 kR kR,yEU⟩,by
     rw[Ze.injEq];refine⟨kR,?_⟩;refine Eq.trans (b:=((yBP 124 #[(0,nv (sTi N n s)),(1,pvl p)]) >>= λv=>pure (ZN v)).run prog W) kR ?_;rw[XT,Vu E.out];rfl,XM _ _,rfl⟩,
    bL λa W d=>⟨[(18,sZ K l.length l.length),(19,iZ i)],.pointer (some ⟨K,0+37*i,none⟩),W,⟨d.n 0 18 kR kR,d.n 1 19 kR kR,yEU⟩,by
     rw[Ze.injEq];refine⟨kR,?_⟩;show((Yi 82 (sZ K l.length l.length) (iZ i)) >>= λv=>pure (ZN v)).run prog W=_;rw[XT,atT K 0 l.length l.length i HL.out];rfl,XM _ _,rfl⟩,yEU⟩ ⟨F2.2.drew,F2.1⟩ ?_
   intro V W3 Q L;have U:V 8=tvl (sTi N n s) p:=Q 8 dC;have h4:V 9=.pointer (some ⟨K,0+37*i,none⟩):=Q 9 dC;have d:(wn (sTi N n s)++aA p).length=37:=iF E.out;obtain⟨W4,h9⟩:∃W4,Hid (W3.setCells K (37*i) (wn (sTi N n s)++aA p)=W4):=⟨_,rfl⟩
   have K4:Hid (Tz w W4 N n K G (i+1) l):=by
    have h:=L.1.put r.2.2.2.2.2.2 HL.out r.2.2.1;have e:tmT N n (l[i]'HL.out)=(sTi N n s,p):=by
     have h1:=M.out;have h2:=J.out;unfold tmT;rw[h1,h2]
    rw[e]at h;rw[<-h9.out];exact h
   have HT:Hid (W3.there K (37*i) (wn (sTi N n s)++aA p).toArray.size/\(prog.info? 124).map (·.size)=some (wn (sTi N n s)++aA p).toArray.size/\(wn (sTi N n s)++aA p).toArray.all (·.oneCell')=true):=by
    have e:(wn (sTi N n s)++aA p).toArray.size=37:=by rw[YD];exact d
    refine⟨λt ht=>?_,by rw[e];exact iT,?_⟩
    ·rw[e]at ht;have:=L.1.th (37*i+t) (by have:=HL.out;omega);rwa[XD]at this
    ·rw[ZF];intro u hu;exact cells_one _ p u (yAE.1 hu)
   dsimp only[bY,YH,ZQ,ZR];simp only[XK,Xt,Xv,Xw];obtain⟨vz,h5⟩:∃v,Hid (tvl (sTi N n s) p=v):=⟨_,rfl⟩
   rw[U,h4,h5.out,XD];clear Q L U h4 d F2;generalize V 0=s0;generalize V 1=s1;generalize V 2=s2;generalize V 3=s3;generalize V 4=s4;generalize V 5=s5;generalize V 6=s6;generalize V 7=s7;go_wp2_with (first|(refine X8 rfl 124 _ _ rfl K (37*i) (wn (sTi N n s)++aA p).toArray ?_ ?_ ?_ ?_ ?_ ?_;rfl;exact h5.symm;exact HT.1;exact HT.2.1;exact HT.2.2;rw[show(wn (sTi N n s)++aA p).toArray.toList=wn (sTi N n s)++aA p from rfl,h9.out])|fail)
   go_roundg (gk-1)
   case measure=>omega
   case rel=>exact⟨i+1,oM,rfl,K4⟩
  ·have hk:¬(i:Int)<(l.length:Int):=oM;obtain rfl:i=l.length:=oM;have d:Hid (kZ w wr/\Sm w.heap.size wr (sZ K l.length l.length) (l.map (tmT N n))):=by
    refine⟨S.bl,K,l.length,by rw[XV],by rw[XV];exact Xx _,r.2.2.2.2.2.2,S.lt,D5 (λx hx=>?_) λj hj=>?_⟩
    ·obtain⟨y,o,rfl⟩:=Yw.1 hx;obtain⟨z,f,rfl⟩:=Yw.1 o;exact r.2.2.1 _ (Yw.2 ⟨z,f,rfl⟩)
    ·rw[List.getElem_map];rw[XV]at hj;exact S.rw j hj hj
   clear S;go_wp2;go_ret;exact⟨_,rfl,d.1,d.2⟩
end
namespace SPA
structure Md(N:Nat)[NeZero N](M:Type) where
 ad:M->M->M
 zo:M
 ac:(Fin N)->M->M
 comm:∀a b,ad a b=ad b a
 assoc:∀a b c,ad (ad a b) c=ad a (ad b c)
 zadd:∀a,ad zo a=a
 acAd:∀r a b,ac r (ad a b)=ad (ac r a) (ac r b)
 adAc:∀r s a,ac (r+s) a=ad (ac r a) (ac s a)
 acAc:∀r s a,ac r (ac s a)=ac (r*s) a
 acOne:∀a,ac 1 a=a
 zac:∀a,ac 0 a=zo
variable {N:Nat}[NeZero N]{M:Type}
namespace Md
variable (D:Md N M)
theorem VE(a:M):D.ad a D.zo=a:=by rw[D.comm,D.zadd]
theorem swap(a b c d:M):D.ad (D.ad a b) (D.ad c d)=D.ad (D.ad a c) (D.ad b d):=by
 rw[D.assoc,<-D.assoc b,D.comm b c,D.assoc c,<-D.assoc]
theorem acz(r:(Fin N)):D.ac r D.zo=D.zo:=by
 have h:=D.zac D.zo;rw[<-h,D.acAc,show r*0=(0:(Fin N)) by grind]
def sm(f:Nat->M):Nat->M
 | 0=>D.zo
 | n+1=>D.ad (sm f n) (f n)
theorem nP{f g:Nat->M}:∀n,(∀i,i<n->f i=g i)->D.sm f n=D.sm g n
 | 0,_=>rfl
 | n+1,h=>by
  show D.ad _ _=D.ad _ _;rw[nP n λi k=>h i oM,h n oM]
theorem Cl(f g:Nat->M):∀n,D.sm (λi=>D.ad (f i) (g i)) n=D.ad (D.sm f n) (D.sm g n)
 | 0=>(D.zadd _).symm
 | n+1=>by
  show D.ad _ _=D.ad (D.ad _ _) (D.ad _ _);rw[Cl f g n,D.swap]
theorem FO(r:(Fin N))(f:Nat->M):∀n,D.sm (λi=>D.ac r (f i)) n=D.ac r (D.sm f n)
 | 0=>(D.acz r).symm
 | n+1=>by
  show D.ad _ _=D.ac r (D.ad _ _);rw[FO r f n,D.acAd]
theorem JA(f:Nat->M)(n:Nat):∀m,D.sm f (n+m)=D.ad (D.sm f n) (D.sm (λi=>f (n+i)) m)
 | 0=>(D.VE _).symm
 | m+1=>by
  show D.ad (D.sm f (n+m)) _=D.ad _ (D.ad _ _);rw[JA f n m,D.assoc];rfl
instance:Std.Associative D.ad:=⟨D.assoc⟩
instance:Std.Commutative D.ad:=⟨D.comm⟩
def dt(a:Nat->(Fin N))(g:Nat->M)(n:Nat):M:=D.sm (λi=>D.ac (a i) (g i)) n
theorem EM(a:Nat->(Fin N))(g:Nat->M)(n m:Nat):D.dt a g (n+m)=D.ad (D.dt a g n) (D.dt (λi=>a (n+i)) (λi=>g (n+i)) m):=D.JA _ n m
theorem EN(x y:(Fin N))(b:x*y=1)(a c:Nat->(Fin N))(g k:Nat->M)(n:Nat):
 D.dt (λi=>x*a i+y*c i) (λi=>D.ad (D.ac y (g i)) (D.ac x (k i))) n
  = D.ad (D.ad (D.ac (x*x) (D.dt a k n)) (D.ad (D.dt a g n) (D.dt c k n))) (D.ac (y*y) (D.dt c g n)):=by
 unfold dt;rw[<-D.FO,<-D.FO,<-D.Cl,<-D.Cl,<-D.Cl];refine D.nP n λi _=>?_
 rw[D.acAd,D.acAc,D.acAc,D.acAc,D.acAc,show(x*a i+y*c i)*y=a i+y*y*c i by grind,show(x*a i+y*c i)*x=x*x*a i+c i by grind,D.adAc,D.adAc]
 ac_rfl
theorem GQ(a c:Nat->(Fin N))(g:Nat->M)(n:Nat):D.dt (λi=>a i+c i) g n=D.ad (D.dt a g n) (D.dt c g n):=by
 unfold dt;rw[<-D.Cl];exact D.nP n λi _=>D.adAc _ _ _
theorem P8(r:(Fin N))(a:Nat->(Fin N))(g:Nat->M)(n:Nat):D.dt (λi=>r*a i) g n=D.ac r (D.dt a g n):=by
 unfold dt;rw[<-D.FO];exact D.nP n λi _=>(D.acAc _ _ _).symm
end Md
def own(N:Nat)[NeZero N]:Md N (Fin N) where
 ad:=(·+·)
 zo:=0
 ac:=(·*·)
 comm:=by grind
 assoc:=by grind
 zadd:=by grind
 acAd:=by grind
 adAc:=by grind
 acAc:=by grind
 acOne:=by grind
 zac:=by grind
namespace Md
variable (D:Md N M)
def pr(a b:Nat->(Fin N))(n:Nat):(Fin N):=(own N).dt a b n
def hd(a b:Nat->(Fin N))(g h:Nat->M)(u:M)(n:Nat):M:=D.ad (D.ad (D.dt a g n) (D.dt b h n)) (D.ac (pr a b n) u)
def lf(a b:Nat->(Fin N))(g h:Nat->M)(u:M)(n:Nat):M:=D.hd a (λi=>b (n+i)) (λi=>g (n+i)) h u n
def rt(a b:Nat->(Fin N))(g h:Nat->M)(u:M)(n:Nat):M:=D.hd (λi=>a (n+i)) b g (λi=>h (n+i)) u n
def fS(x y:(Fin N))(n:Nat)(a:Nat->(Fin N))(i:Nat):(Fin N):=x*a i+y*a (n+i)
def fP(x y:(Fin N))(n:Nat)(g:Nat->M)(i:Nat):M:=D.ad (D.ac x (g i)) (D.ac y (g (n+i)))
theorem halved(x y:(Fin N))(k:x*y=1)(a b:Nat->(Fin N))(g h:Nat->M)(u:M)(n:Nat):
 D.hd (fS x y n a) (fS y x n b) (D.fP y x n g) (D.fP x y n h) u n
  = D.ad (D.ad (D.ac (x*x) (D.lf a b g h u n)) (D.hd a b g h u (n+n))) (D.ac (y*y) (D.rt a b g h u n)):=by
 have c:=D.EN x y k a (λi=>a (n+i)) g (λi=>g (n+i)) n;have d:=D.EN y x (by rw[<-k];grind) b (λi=>b (n+i)) h (λi=>h (n+i)) n;have e3:=(own N).EN x y k a (λi=>a (n+i)) b (λi=>b (n+i)) n;unfold lf rt hd pr;rw[show D.dt (fS x y n a) (D.fP y x n g) n=_ from c,show D.dt (fS y x n b) (D.fP x y n h) n=_ from d,show(own N).dt (fS x y n a) (fS y x n b) n=_ from e3,D.EM,D.EM,(own N).EM];simp only[D.acAd,D.acAc];rw[show(own N).ad ((own N).ad ((own N).ac (x*x) ((own N).dt a (λi=>b (n+i)) n)) ((own N).ad ((own N).dt a b n) ((own N).dt (λi=>a (n+i)) (λi=>b (n+i)) n))) ((own N).ac (y*y) ((own N).dt (λi=>a (n+i)) b n))
  = (x*x*(own N).dt a (λi=>b (n+i)) n+(own N).ad ((own N).dt a b n) ((own N).dt (λi=>a (n+i)) (λi=>b (n+i)) n))+y*y*(own N).dt (λi=>a (n+i)) b n from rfl,D.adAc,D.adAc]
 ac_rfl
def pv{S:Type}(ch:S->M->M->S × (Fin N))(iv:(Fin N)->(Fin N))(u:M):Nat->S->(Nat->(Fin N))->(Nat->(Fin N))->(Nat->M)->(Nat->M)->List (M × M) × (Fin N) × (Fin N)
 | 0,_,a,b,_,_=>([],a 0,b 0)
 | t+1,s,a,b,g,h =>
  let L:=D.lf a b g h u (2^t)
  let T:=D.rt a b g h u (2^t)
  let c:=ch s L T
  let r:=pv ch iv u t c.1 (fS c.2 (iv c.2) (2^t) a) (fS (iv c.2) c.2 (2^t) b) (D.fP (iv c.2) c.2 (2^t) g) (D.fP c.2 (iv c.2) (2^t) h)
  ((L,T) :: r.1,r.2)
def vf{S:Type}(ch:S->M->M->S × (Fin N))(iv:(Fin N)->(Fin N))(u:M)(a b:(Fin N)):List (M × M)->S->M->(Nat->M)->(Nat->M)->Prop
 | [],_,p,g,h=>p=D.ad (D.ad (D.ac a (g 0)) (D.ac b (h 0))) (D.ac (a*b) u)
 | (L,T) :: l,s,p,g,h =>
  let c:=ch s L T
  let x:=c.2
  let y:=iv x
  vf ch iv u a b l c.1 (D.ad (D.ad (D.ac (x*x) L) p) (D.ac (y*y) T)) (D.fP y x (2^l.length) g) (D.fP x y (2^l.length) h)
theorem Ld(a b:Nat->(Fin N))(g h:Nat->M)(u:M):D.hd a b g h u 1=D.ad (D.ad (D.ac (a 0) (g 0)) (D.ac (b 0) (h 0))) (D.ac (a 0*b 0) u):=by
 show D.ad (D.ad (D.ad D.zo _) (D.ad D.zo _)) (D.ac ((0:(Fin N))+a 0*b 0) u)=_;rw[D.zadd,D.zadd,show(0:(Fin N))+a 0*b 0=a 0*b 0 by grind]
structure Rg(R:Type) where
 l:Nat->R
 m:Nat->R
 s:Nat->R
 q:Nat->R
 Y:Nat->R
 W:Nat->R
 T:Nat->R
 z:R
 x:R
def Rg.Ok(r:Rg (Fin N))(n:Nat):Prop:=∀i,i<n->r.l i*r.m i=0/\r.m i=r.l i-1/\r.Y i*r.W i=1
def Rg.a0(r:Rg (Fin N))(i:Nat):(Fin N):=r.l i-r.z
def Rg.b0(r:Rg (Fin N))(i:Nat):(Fin N):=r.Y i*(r.m i+r.z)+r.z*r.z*r.T i
def Rg.b1(r:Rg (Fin N))(i:Nat):(Fin N):=r.Y i*r.q i
def Rg.a(r:Rg (Fin N))(i:Nat):(Fin N):=r.a0 i+r.s i*r.x
def Rg.b(r:Rg (Fin N))(i:Nat):(Fin N):=r.b0 i+r.b1 i*r.x
def Rg.sY(r:Rg (Fin N))(n:Nat):(Fin N):=(own N).sm r.Y n
def Rg.sT(r:Rg (Fin N))(n:Nat):(Fin N):=(own N).sm r.T n
def Rg.v(r:Rg (Fin N))(n:Nat):(Fin N):=pr r.l r.T n
def Rg.d(r:Rg (Fin N))(n:Nat):(Fin N):=(r.z-r.z*r.z)*r.sY n-r.z*r.z*r.z*r.sT n
def Rg.t1(r:Rg (Fin N))(n:Nat):(Fin N):=pr r.a0 r.b1 n+pr r.s r.b0 n
def Rg.t2(r:Rg (Fin N))(n:Nat):(Fin N):=pr r.s r.b1 n
theorem wI(a b:Nat->(Fin N))(n:Nat):pr a b (n+1)=pr a b n+a n*b n:=rfl
theorem Rg.t0(r:Rg (Fin N)):∀n,r.Ok n->pr r.a0 r.b0 n=r.z*r.z*r.v n+r.d n
 | 0,_=>by
  show(0:(Fin N))=r.z*r.z*0+((r.z-r.z*r.z)*0-r.z*r.z*r.z*0);grind
 | n+1,h=>by
  have c:=t0 r n λi f=>h i oM
  obtain⟨k,b,_⟩:=h n oM;have d:r.v (n+1)=r.v n+r.l n*r.T n:=rfl;have e:r.d (n+1)=(r.z-r.z*r.z)*(r.sY n+r.Y n)-r.z*r.z*r.z*(r.sT n+r.T n):=rfl;have e3:r.d n=(r.z-r.z*r.z)*r.sY n-r.z*r.z*r.z*r.sT n:=rfl;rw[wI,c,d,e,e3];unfold Rg.a0 Rg.b0;rw[b]at k⊢;generalize r.v n=A,r.sY n=B,r.sT n=C,r.l n=l,r.Y n=y,r.T n=t,r.z=z at *;grind
theorem Rg.tt(r:Rg (Fin N)):∀n,pr r.a r.b n=pr r.a0 r.b0 n+r.t1 n*r.x+r.t2 n*r.x*r.x
 | 0=>by
  show(0:(Fin N))=0+(0+0)*r.x+0*r.x*r.x;grind
 | n+1=>by
  have k:=tt r n;have c:r.t1 (n+1)=(pr r.a0 r.b1 n+r.a0 n*r.b1 n)+(pr r.s r.b0 n+r.s n*r.b0 n):=rfl;have d:r.t2 (n+1)=pr r.s r.b1 n+r.s n*r.b1 n:=rfl;have e3:r.t1 n=pr r.a0 r.b1 n+pr r.s r.b0 n:=rfl;have b:r.t2 n=pr r.s r.b1 n:=rfl;rw[wI,k,c,d,e3,b,wI];show _+(r.a0 n+r.s n*r.x)*(r.b0 n+r.b1 n*r.x)=_;generalize pr r.a0 r.b0 n=A,pr r.a0 r.b1 n=B,pr r.s r.b0 n=C,pr r.s r.b1 n=E,r.a0 n=a0,r.b0 n=b0,r.s n=s,r.b1 n=b1,r.x=x;grind
def cm(H G:M)(c r:(Fin N)):M:=D.ad (D.ac c H) (D.ac r G)
theorem DT(r:Rg (Fin N))(n:Nat)(h:r.Ok n)(H G:M)(k t1 t2:(Fin N)):
 D.cm H G (pr r.a r.b n) (t1*r.x+t2*(r.x*r.x)+r.z*r.z*k)
  = D.ad (D.ad (D.ac (r.z*r.z) (D.cm H G (r.v n) k)) (D.ac (r.d n) H)) (D.ad (D.ac r.x (D.cm H G (r.t1 n) t1)) (D.ac (r.x*r.x) (D.cm H G (r.t2 n) t2))):=by
 rw[r.tt,r.t0 n h];unfold cm;simp only[D.acAd,D.acAc];rw[show r.z*r.z*r.v n+r.d n+r.t1 n*r.x+r.t2 n*r.x*r.x=r.z*r.z*r.v n+r.d n+r.x*r.t1 n+r.x*r.x*r.t2 n by grind,
  show t1*r.x+t2*(r.x*r.x)+r.z*r.z*k=r.x*t1+r.x*r.x*t2+r.z*r.z*k by grind]
 simp only[D.adAc]
 ac_rfl
theorem yU{a c:Nat->(Fin N)}{g k:Nat->M}(n:Nat)(h:∀i,i<n->D.ac (a i) (g i)=D.ac (c i) (k i)):D.dt a g n=D.dt c k n:=D.nP n h
theorem Xk(r:Rg (Fin N))(g:Nat->M)(n:Nat):D.dt r.a g n=D.ad (D.ad (D.dt r.l g n) (D.ac r.x (D.dt r.s g n))) (D.dt (λ_=>-r.z) g n):=by
 rw[<-D.P8,<-D.GQ,<-D.GQ];refine D.yU n λi _=>?_
 show D.ac (r.l i-r.z+r.s i*r.x) _=_;rw[show r.l i-r.z+r.s i*r.x=r.l i+r.x*r.s i+-r.z by grind]
theorem Xj(r:Rg (Fin N))(k:Nat->M)(n:Nat)(h:r.Ok n):D.dt r.b (λi=>D.ac (r.W i) (k i)) n
 = D.ad (D.ad (D.dt r.m k n) (D.ac r.x (D.dt r.q k n))) (D.dt (λi=>r.z+r.z*r.z*(r.T i*r.W i)) k n):=by
 rw[<-D.P8,<-D.GQ,<-D.GQ];refine D.yU n λi b=>?_
 obtain⟨_,_,c⟩:=h i b;rw[D.acAc];show D.ac ((r.Y i*(r.m i+r.z)+r.z*r.z*r.T i+r.Y i*r.q i*r.x)*r.W i) _=_;rw[show(r.Y i*(r.m i+r.z)+r.z*r.z*r.T i+r.Y i*r.q i*r.x)*r.W i=r.m i+r.x*r.q i+(r.z+r.z*r.z*(r.T i*r.W i)) by
  generalize r.Y i=y,r.W i=w,r.m i=m,r.q i=q,r.T i=t,r.z=z,r.x=x at *;grind]
theorem Cy(r:Rg (Fin N))(n:Nat)(h:r.Ok n)(G:M)(g k:Nat->M)(U:M)(al b w:(Fin N)):
 D.ad (D.ad (D.ad (D.ad (D.ad (D.ac al G) (D.ad (D.dt r.l g n) (D.dt r.m k n))) (D.ac r.x (D.ad (D.ac b G) (D.ad (D.dt r.s g n) (D.dt r.q k n))))) (D.ac (-(al+b*r.x)) G))
  (D.ad (D.dt (λ_=>-r.z) g n) (D.dt (λi=>r.z+r.z*r.z*(r.T i*r.W i)) k n))) (D.ac (pr r.a r.b n*w) U)
  = D.hd r.a r.b g (λi=>D.ac (r.W i) (k i)) (D.ac w U) n:=by
 unfold hd;rw[D.Xk,D.Xj r k n h,D.acAc];simp only[D.acAd,D.acAc];have e:D.ad (D.ac al G) (D.ad (D.ac (r.x*b) G) (D.ac (-(al+b*r.x)) G))=D.zo:=by
  rw[<-D.adAc,<-D.adAc,show al+(r.x*b+-(al+b*r.x))=(0:(Fin N)) by grind,D.zac]
 generalize D.ac al G=A at *;generalize D.ac (r.x*b) G=B at *;generalize D.ac (-(al+b*r.x)) G=E at *;refine Eq.trans ?_ (D.zadd _);rw[<-e]
 ac_rfl
end Md
end SPA
section
open SPA
variable {P:Nat}[NeZero P]{N:Nat}[NeZero N]
abbrev OnP(P:Nat)[NeZero P]:={p:EC.Pt P // On p}
def aD(C:Fld P)(k:∀r:EC.Pt P,On r->mul N r=none):Md N (OnP P) where
 ad a b:=⟨EC.add a.1 b.1,C.cur.on a.2 b.2⟩
 zo:=⟨none,jB⟩
 ac r a:=⟨mul r.val a.1,cG C.cur a.2 _⟩
 comm a b:=yA0 (C.cur.comm a.2 b.2)
 assoc a b c:=yA0 (C.cur.assoc a.2 b.2 c.2)
 zadd _:=rfl
 acAd r a b:=yA0 (yF C a.2 b.2 _)
 adAc r s a:=yA0 (by
  show mul (r+s).val a.1=_;rw[yDi,mul_mod C k a.2,mul_add C.cur a.2])
 acAc r s a:=yA0 (by
  show _=mul (r*s).val a.1;rw[yAk,mul_mod C k a.2,YF,mU C.cur a.2])
 acOne a:=yA0 (by
  show mul (1:Fin N).val a.1=_;rw[show(1:Fin N).val=1%N from rfl,mul_mod C k a.2];rfl)
 zac a:=yA0 (by
  show mul (0:Fin N).val a.1=_;rw[show(0:Fin N).val=0%N from rfl,mul_mod C k a.2];rfl)
omit [NeZero N] in
theorem jP(a b:Fin N):(a+b).val=sPl N a.val b.val:=yDi a b
omit [NeZero N] in
theorem eX(a b:Fin N):(a*b).val=sTi N a.val b.val:=yAk a b
omit [NeZero N] in
theorem Kv(a b:Fin N):(a-b).val=sMi N a.val b.val:=by
 rw[Fin.sub_def];show(N-b.val+a.val)%N=(a.val+N-b.val)%N;have:=b.isLt;rw[show N-b.val+a.val=a.val+N-b.val by omega]
omit [NeZero N] in
theorem Es(a:Fin N):(-a).val=sMi N 0 a.val:=by
 rw[Fin.neg_def];show(N-a.val)%N=(0+N-a.val)%N;rw[XD]
def ivF(a:Fin N):Fin N:=⟨sIn N a.val,Y9 _ (yA9 N)⟩
theorem tX(h:IsP N)(a:Fin N)(b:a.val≠0):a*ivF a=1:=by
 apply yAH;have k:=h.1;have hd:¬N ∣ a.val:=λhd=>by
  have:=Nat.le_of_dvd oM hd;have:=a.isLt;omega
 rw[yAk,show(ivF a).val=a.val^(N-2)%N from rfl,Nat.mul_mod_mod,<-Nat.pow_succ',show(N-2).succ=N-1 by omega,h.fermat1 a.val hd];show 1=1%N;rw[XX oM]
structure Tl(N:Nat)(l:List (Nat × Bs))(X:OnP P):Prop where
 pts:PtsL P l
 lt:∀x∈l,x.1<N
 sum:fX P l=X.1
omit [NeZero N] in
theorem Cg(C:Fld P):∀ {l m:List (Nat × Bs)},PtsL P l->PtsL P m->fX P (l++m)=EC.add (fX P l) (fX P m)
 | [],_,_,_=>rfl
 | x :: r,m,h,hm=>by
  have k:PtsL P r:=λz b=>h z (Ym _ b)
  show EC.add (mul x.1 (gK P x.2)) (fX P (r++m))=EC.add (EC.add _ _) _;rw[Cg C k hm];exact(C.cur.assoc (cG C.cur (h.on C YC) _) (oR C k) (oR C hm)).symm
omit [NeZero N] in
theorem FI(C:Fld P)(k:∀r:EC.Pt P,On r->mul N r=none)(n:Nat):∀ {l:List (Nat × Bs)},PtsL P l->fX P (l.map (tmT N n))=mul n (fX P l)
 | [],_=>(nZ n).symm
 | x :: r,h=>by
  have b:PtsL P r:=λz c=>h z (Ym _ c)
  have hx:=h.on C (x:=x) YC;show EC.add (mul (sTi N n x.1) (gK P x.2)) (fX P (r.map (tmT N n)))=mul n (EC.add (mul x.1 (gK P x.2)) (fX P r));rw[FI C k n b,yF C (cG C.cur hx _) (oR C b)];unfold sTi;rw[mul_mod C k hx,YF,mU C.cur hx]
section
variable (C:Fld P) (hord:∀r:EC.Pt P,EC.On r->EC.mul N r=none)
theorem Tl.nil:Tl N [] (aD C hord).zo:=⟨λ_ h=>(X5 h).elim,λ_ h=>(X5 h).elim,rfl⟩
theorem Tl.app{l m:List (Nat × Bs)}{X Y:OnP P}(h:Tl N l X)(k:Tl N m Y):Tl N (l++m) ((aD C hord).ad X Y):=
 ⟨λx hx=>(Y3.1 hx).elim (h.pts x) (k.pts x),λx hx=>(Y3.1 hx).elim (h.lt x) (k.lt x),by
  rw[Cg C h.pts k.pts,h.sum,k.sum];rfl⟩
theorem Tl.tm{l:List (Nat × Bs)}{X:OnP P}(h:Tl N l X)(n:Fin N):Tl N (l.map (tmT N n.val)) ((aD C hord).ac n X):=
 ⟨λx hx=>by
  obtain⟨y,k,rfl⟩:=Yw.1 hx;exact h.pts y k,λx hx=>by
  obtain⟨y,k,rfl⟩:=Yw.1 hx;exact Y9 _ (yA9 N),by
  rw[FI C hord n.val h.pts,h.sum];rfl⟩
omit [NeZero N] in
theorem Tl.one(C:Fld P)(k:1<N)(X:OnP P):Tl N [(1,wr X.1)] X:=
 ⟨λx hx=>⟨X.1,X.2,by rw[YY.1 hx]⟩,λx hx=>by rw[YY.1 hx];exact k,by
  show EC.add (mul 1 (gK P (wr X.1))) none=_;rw[mG C X.2,bM];rfl⟩
def dF(N:Nat)(a:Nat->Nat)(T:Nat->List (Nat × Bs)):Nat->List (Nat × Bs)
 | 0=>[]
 | n+1=>dF N a T n++(T n).map (tmT N (a n))
theorem GT{a:Nat->Fin N}{T:Nat->List (Nat × Bs)}{g:Nat->OnP P}:∀n,(∀i,i<n->Tl N (T i) (g i))->Tl N (dF N (λi=>(a i).val) T n) ((aD C hord).dt a g n)
 | 0,_=>Tl.nil C hord
 | n+1,h=>(GT n λi k=>h i oM).app C hord ((h n oM).tm C hord (a n))
theorem fG(N:Nat)(a:Nat->Nat){T:Nat->List (Nat × Bs)}{c:Nat}:∀n,(∀i,i<n->(T i).length=c)->(dF N a T n).length=c*n
 | 0,_=>rfl
 | n+1,h=>by
  show(dF N a T n++_).length=_;rw[XC,XV,fG N a n (λi k=>h i oM),h n oM,yAS]
def lT(N x y n:Nat)(T:Nat->List (Nat × Bs))(i:Nat):List (Nat × Bs):=(T i).map (tmT N x)++(T (n+i)).map (tmT N y)
theorem OD{T:Nat->List (Nat × Bs)}{g:Nat->OnP P}(x y:Fin N)(n:Nat)(h:∀i,i<n+n->Tl N (T i) (g i))(i:Nat)(k:i<n):Tl N (lT N x.val y.val n T i) ((aD C hord).fP x y n g i):=
 ((h i oM).tm C hord x).app C hord ((h (n+i) oM).tm C hord y)
theorem Ly(N x y n:Nat){T:Nat->List (Nat × Bs)}{c:Nat}(h:∀i,i<n+n->(T i).length=c)(i:Nat)(k:i<n):(lT N x y n T i).length=c+c:=by
 unfold lT;rw[XC,XV,XV,h i oM,h (n+i) oM]
end
end
section
open SPA
variable {N:Nat}[NeZero N]
def pwF(x:Fin N):Nat->Fin N
 | 0=>1
 | i+1=>pwF x i*x
theorem Ec{x y:Fin N}(h:x*y=1):∀i,pwF x i*pwF y i=1
 | 0=>by
  show(1:Fin N)*1=1
  grobner
 | i+1=>by
  have k:=Ec h i;show pwF x i*x*(pwF y i*y)=1;generalize pwF x i=a at *;generalize pwF y i=b at *
  grobner
def ofF(N:Nat)[NeZero N](n:Nat):Fin N:=⟨n%N,Y9 _ (yA9 N)⟩
theorem rS(a b:Nat):ofF N (a+b)=ofF N a+ofF N b:=yAH (by
 rw[yDi];show(a+b)%N=(a%N+b%N)%N;rw[Nat.add_mod])
theorem Gj(a b:Nat):ofF N (a*b)=ofF N a*ofF N b:=yAH (by
 rw[yAk];show(a*b)%N=(a%N*(b%N))%N;rw[Nat.mul_mod])
theorem nY:ofF N 0=0:=yAH rfl
theorem Gi:ofF N 1=1:=yAH rfl
theorem Eb:∀i,pwF (ofF N 2) i=ofF N (2^i)
 | 0=>Gi.symm
 | i+1=>by
  show pwF (ofF N 2) i*ofF N 2=_;rw[Eb i,<-Gj,Zf]
def btF(N:Nat)[NeZero N](v i:Nat):Fin N:=ofF N (v/2^i%2)
theorem Mh(v:Nat):∀n,Md.pr (btF N v) (pwF (ofF N 2)) n=ofF N (v%2^n)
 | 0=>by
  rw[Nat.pow_zero,Nat.mod_one];exact nY.symm
 | n+1=>by
  rw[Md.wI,Mh v n,Eb];show _+ofF N _*_=_;rw[<-Gj,<-rS,Zf,Nat.mod_mul,YF (2^n)]
theorem two_sum:∀n,(SPA.own N).sm (pwF (ofF N 2)) n=ofF N (2^n-1)
 | 0=>nY.symm
 | n+1=>by
  show(SPA.own N).sm _ n+_=_;rw[two_sum n,Eb,<-rS];have:=Nat.pow_pos (n:=n) (show 0<2 by decide);rw[show 2^n-1+2^n=2^(n+1)-1 by rw[Zf];omega]
theorem Vb(v i:Nat):btF N v i=0\/btF N v i=1:=by
 unfold btF;rcases Nat.mod_two_eq_zero_or_one (v/2^i)with h|h<;>rw[h]
 ·exact X9 nY
 ·exact X0 Gi
def rgF(v:Nat)(s q:Nat->Fin N)(y k z x:Fin N):Md.Rg (Fin N):=⟨btF N v,λi=>btF N v i-1,s,q,pwF y,pwF k,pwF (ofF N 2),z,x⟩
theorem JS(v:Nat)(s q:Nat->Fin N){y k:Fin N}(z x:Fin N)(h:y*k=1)(n:Nat):(rgF v s q y k z x).Ok n:=λi _=>⟨by
 show btF N v i*(btF N v i-1)=0;rcases Vb (N:=N) v i with e|e<;>rw[e]<;>grobner,rfl,Ec h i⟩
theorem TZ(v:Nat)(s q:Nat->Fin N)(y k z x:Fin N)(n:Nat)(hv:v<2^n):(rgF v s q y k z x).v n=ofF N v:=by
 show Md.pr (btF N v) (pwF (ofF N 2)) n=_;rw[Mh,XX hv]
theorem T0(v:Nat)(s q:Nat->Fin N)(y k z x:Fin N)(n:Nat):(rgF v s q y k z x).d n=(z-z*z)*(SPA.own N).sm (pwF y) n-z*z*z*ofF N (2^n-1):=by
 show _-z*z*z*(SPA.own N).sm (pwF (ofF N 2)) n=_;rw[two_sum];rfl
end
namespace SPA
variable {N:Nat}[NeZero N]{M:Type}
namespace Md
variable (D:Md N M)
theorem Bu(p:M):D.ad p (D.ac (-1) p)=D.zo:=by
 have h:=D.adAc 1 (-1) p;rw[show(1:(Fin N))+-1=0 by grind,D.zac,D.acOne]at h;exact h.symm
theorem QG(e p:M):D.ad e (D.ac (-1) p)=D.zo↔p=e:=by
 constructor
 ·intro h;have k:D.ad (D.ad e (D.ac (-1) p)) p=D.ad D.zo p:=by rw[h]
  rw[D.assoc,D.comm _ p,D.Bu,D.VE,D.zadd]at k;exact k.symm
 ·rintro rfl;exact D.Bu p
theorem KQ{a b c:(Fin N)}(d:a*b=1)(k:a*c=1):b=c:=by
 have:b=(a*b)*c+b*(1-a*c):=by grind
 rw[d,k]at this;grind
structure Vs(S M:Type) where
 s:S
 p:M
 g:Nat->M
 h:Nat->M
structure Ps(S R M:Type) where
 s:S
 a:Nat->R
 b:Nat->R
 g:Nat->M
 h:Nat->M
section
variable {S:Type}(ch:S->M->M->S × (Fin N)) (iv:(Fin N)->(Fin N)) (u:M)
def Fy(n:Nat)(L T:M)(v:Vs S M):Vs S M:=
 let c:=ch v.s L T
 ⟨c.1,D.ad (D.ad (D.ac (c.2*c.2) L) v.p) (D.ac (iv c.2*iv c.2) T),D.fP (iv c.2) c.2 n v.g,D.fP c.2 (iv c.2) n v.h⟩
def vst(t:Nat)(L T:Nat->M)(v:Vs S M):Nat->Vs S M
 | 0=>v
 | i+1=>D.Fy ch iv (2^(t-(i+1))) (L i) (T i) (vst t L T v i)
def pL(n:Nat)(q:Ps S (Fin N) M):M:=D.lf q.a q.b q.g q.h u n
def pT(n:Nat)(q:Ps S (Fin N) M):M:=D.rt q.a q.b q.g q.h u n
def rI(n:Nat)(q:Ps S (Fin N) M):Ps S (Fin N) M:=
 let c:=ch q.s (D.pL u n q) (D.pT u n q)
 ⟨c.1,fS c.2 (iv c.2) n q.a,fS (iv c.2) c.2 n q.b,D.fP (iv c.2) c.2 n q.g,D.fP c.2 (iv c.2) n q.h⟩
def pst(t:Nat)(q:Ps S (Fin N) M):Nat->Ps S (Fin N) M
 | 0=>q
 | i+1=>D.rI ch iv u (2^(t-(i+1))) (pst t q i)
def pLi(t:Nat)(q:Ps S (Fin N) M)(i:Nat):M:=D.pL u (2^(t-(i+1))) (D.pst ch iv u t q i)
def pTi(t:Nat)(q:Ps S (Fin N) M)(i:Nat):M:=D.pT u (2^(t-(i+1))) (D.pst ch iv u t q i)
def hdP(n:Nat)(q:Ps S (Fin N) M):M:=D.hd q.a q.b q.g q.h u n
theorem beside(k:∀s L T,(ch s L T).2*iv (ch s L T).2=1)(t:Nat)(q:Ps S (Fin N) M):∀i,i<=t ->
 D.vst ch iv t (D.pLi ch iv u t q) (D.pTi ch iv u t q) ⟨q.s,D.hdP u (2^t) q,q.g,q.h⟩ i
  = ⟨(D.pst ch iv u t q i).s,D.hdP u (2^(t-i)) (D.pst ch iv u t q i),(D.pst ch iv u t q i).g,(D.pst ch iv u t q i).h⟩
 | 0,_=>rfl
 | i+1,hi=>by
  have b:=beside k t q i oM;show D.Fy ch iv _ _ _ (D.vst ch iv t _ _ _ i)=_;rw[b];have e:2^(t-i)=2^(t-(i+1))+2^(t-(i+1)):=by
   rw[show t-i=t-(i+1)+1 by omega,Zf];omega
  show(⟨_,_,_,_⟩:Vs S M)=⟨(D.rI ch iv u _ (D.pst ch iv u t q i)).s,D.hdP u _ (D.rI ch iv u _ (D.pst ch iv u t q i)),(D.rI ch iv u _ (D.pst ch iv u t q i)).g,(D.rI ch iv u _ (D.pst ch iv u t q i)).h⟩;unfold pLi pTi;generalize D.pst ch iv u t q i=r;rw[e];have h:=D.halved _ _ (k r.s (D.pL u (2^(t-(i+1))) r) (D.pT u (2^(t-(i+1))) r)) r.a r.b r.g r.h u (2^(t-(i+1)))
  congr 1
  exact h.symm
def MW(a b:(Fin N))(v:Vs S M):Prop:=v.p=D.ad (D.ad (D.ac a (v.g 0)) (D.ac b (v.h 0))) (D.ac (a*b) u)
theorem found(k:∀s L T,(ch s L T).2*iv (ch s L T).2=1)(t:Nat)(q:Ps S (Fin N) M):
 D.MW u ((D.pst ch iv u t q t).a 0) ((D.pst ch iv u t q t).b 0) (D.vst ch iv t (D.pLi ch iv u t q) (D.pTi ch iv u t q) ⟨q.s,D.hdP u (2^t) q,q.g,q.h⟩ t):=by
 rw[D.beside ch iv u k t q t (Xx _),Nat.sub_self];exact D.Ld _ _ _ _ u
end
end Md
end SPA
section
open SPA
variable {N:Nat}[NeZero N]
theorem UE(h:IsP N)(x:Fin N)(hx:x.val≠0)(k:(x*x).val≠0):ivF (x*x)=ivF x*ivF x:=by
 refine Md.KQ (tX h _ k) ?_;have e:=tX h x hx
 grobner
end
section
open SPA
variable {P:Nat}[NeZero P]{N:Nat}[NeZero N]
def Og(a:Fin N):Fin N:=if a=0 then 1 else a
theorem Oe(h:1<N)(a:Fin N):(Og a).val≠0:=by
 unfold Og;split
 ·show 1%N≠0;rw[XX h];decide
 ·rename_i h0
  exact λe=>h0 (yAH (e.trans (yBw N).symm))
def kE(k b:List UInt8)(L X Y:Bs):Bs:=vT (vT L k X.toList) b Y.toList
def kX(N:Nat)[NeZero N](L:Bs):Fin N:=Og (ofF N (cha N L))
def aX(L:Bs):Bs:=uK L [99,104,97,108,108,101,110,103,101]
def chF(N:Nat)[NeZero N](L:Bs)(X Y:OnP P):Bs × Fin N:=
 let k:=kE [108,101,102,116] [114,105,103,104,116] L (wr X.1) (wr Y.1)
 (aX k,kX N k)
theorem Hd(h:1<N)(L:Bs):(kX N L).val≠0:=by
 unfold kX;exact Oe h _
theorem OS(L:Bs)(X Y:OnP P):∃k,(chF N L X Y).2=kX N k:=by
 unfold chF;dsimp only;exact⟨_,rfl⟩
theorem LY(h:IsP N)(L:Bs)(X Y:OnP P):(chF N L X Y).2*ivF (chF N L X Y).2=1:=by
 obtain⟨k,e⟩:=OS (N:=N) L X Y;rw[e];have:=Hd h.1 k;generalize kX N k=a at *;exact tX h a this
theorem SR(h:IsP N)(L:Bs)(X Y:OnP P):((chF N L X Y).2*(chF N L X Y).2).val≠0:=λe=>by
 have c:=LY h L X Y;have d:(chF N L X Y).2*(chF N L X Y).2=0:=yAH (e.trans (yBw N).symm);generalize (chF N L X Y).2=x at *;generalize ivF x=y at *;have b:(1:Fin N)=0:=by grobner
 have k:1%N=0%N:=congrArg Fin.val b;have:=h.1;rw[XX oM,yBw]at k;exact absurd k dC
theorem SA(C:Fld P)(k:∀r:EC.Pt P,On r->mul N r=none)(h:IsP N)(u:OnP P)(t:Nat)(q:Md.Ps Bs (Fin N) (OnP P)):
 (aD C k).MW u (((aD C k).pst (chF N) ivF u t q t).a 0) (((aD C k).pst (chF N) ivF u t q t).b 0)
  ((aD C k).vst (chF N) ivF t ((aD C k).pLi (chF N) ivF u t q) ((aD C k).pTi (chF N) ivF u t q) ⟨q.s,(aD C k).hdP u (2^t) q,q.g,q.h⟩ t):=
 (aD C k).found (chF N) ivF u (LY h) t q
end
namespace SPA
variable {N:Nat}[NeZero N]{M:Type}
namespace Md
variable (D:Md N M)
theorem Jt(a b p:M):D.ad (D.ad p a) b=D.ad (D.ad a p) b:=by ac_rfl
end Md
end SPA
section
open SPA
variable {P:Nat}[NeZero P]{N:Nat}[NeZero N]
theorem Tl.pt(C:Fld P)(k:∀r:EC.Pt P,On r->mul N r=none)(n:Fin N)(X:OnP P):Tl N [(n.val,wr X.1)] ((aD C k).ac n X):=
 ⟨λx hx=>⟨X.1,X.2,by rw[YY.1 hx]⟩,λx hx=>by rw[YY.1 hx];exact n.isLt,by
  show EC.add (mul n.val (gK P (wr X.1))) none=_;rw[mG C X.2,bM];rfl⟩
structure Gd(N n c:Nat)(T:Nat->List (Nat × Bs))(g:Nat->OnP P):Prop where
 tl:∀i,i<n->Tl N (T i) (g i)
 len:∀i,i<n->(T i).length=c
section
variable (C:Fld P) (hord:∀r:EC.Pt P,EC.On r->EC.mul N r=none)
theorem Gd.fold{n c:Nat}{T:Nat->List (Nat × Bs)}{g:Nat->OnP P}(h:Gd N (n+n) c T g)(x y:Fin N):Gd N n (c+c) (lT N x.val y.val n T) ((aD C hord).fP x y n g):=
 ⟨λi k=>OD C hord x y n h.tl i k,λi k=>Ly N x.val y.val n h.len i k⟩
theorem Gd.cmb{n c:Nat}{T:Nat->List (Nat × Bs)}{g:Nat->OnP P}(h:Gd N n c T g)(a:Nat->Fin N):Tl N (dF N (λi=>(a i).val) T n) ((aD C hord).dt a g n)/\(dF N (λi=>(a i).val) T n).length=c*n:=
 ⟨GT C hord n h.tl,fG N _ n h.len⟩
omit [NeZero N] in
theorem Gd.low{n m c:Nat}{T:Nat->List (Nat × Bs)}{g:Nat->OnP P}(h:Gd N (n+m) c T g):Gd N n c T g:=⟨λi k=>h.tl i oM,λi k=>h.len i oM⟩
omit [NeZero N] in
theorem Gd.high{n m c:Nat}{T:Nat->List (Nat × Bs)}{g:Nat->OnP P}(h:Gd N (n+m) c T g):Gd N m c (λi=>T (n+i)) (λi=>g (n+i)):=⟨λi k=>h.tl (n+i) oM,λi k=>h.len (n+i) oM⟩
def KY(N:Nat)(a b:Nat->Nat)(p:Nat)(G H:Nat->List (Nat × Bs))(U:List (Nat × Bs))(n:Nat):List (Nat × Bs):=dF N a G n++dF N b H n++U.map (tmT N p)
theorem KX{n c d:Nat}{G H:Nat->List (Nat × Bs)}{U:List (Nat × Bs)}{g h:Nat->OnP P}{u:OnP P}(hG:Gd N n c G g)(k:Gd N n c H h)(e:Tl N U u)(hd:U.length=d)(a b:Nat->Fin N):
 Tl N (KY N (λi=>(a i).val) (λi=>(b i).val) (Md.pr a b n).val G H U n) ((aD C hord).hd a b g h u n)/\(KY N (λi=>(a i).val) (λi=>(b i).val) (Md.pr a b n).val G H U n).length=c*n+c*n+d:=by
 refine⟨((hG.cmb C hord a).1.app C hord (k.cmb C hord b).1).app C hord (e.tm C hord _),?_⟩;unfold KY;rw[XC,XC,XV,fG N _ n hG.len,fG N _ n k.len,hd]
end
end
section
variable {P:Nat}[NeZero P]{N:Nat}
def BL(W:Xs)(q:Option YW)(n:Nat)(X:Nat->List UInt8):Prop:=0<n->∃g,q=some (aZ g)/\g<W.heap.size/\∀i,i<n->∃a l c,W.cell? ⟨g,i,none⟩=some (.slice a l c)/\PartOk W (.slice a l c) (X i)
structure Ar(w W:Xs)(K e n i:Nat)(R:Nat->List Xu):Prop where
 bl:kZ w W
 lt:K<W.heap.size
 th:W.there K 0 (e*n)
 rw:∀j,j<i->W.rangeAt K (e*j) (R j)
theorem Ar.grow{w W W':Xs}{K e n i:Nat}{R:Nat->List Xu}(h:Ar w W K e n i R)(k:kZ W W'):Ar w W' K e n i R:=
 ⟨h.bl.trans (k.mono h.bl.size),Xz h.lt k.size,dH h.th k h.lt,λj b=>RG.range_below (h.rw j b) k h.lt⟩
theorem Ar.put{w W:Xs}{K e n i:Nat}{R:Nat->List Xu}(h:Ar w W K e n i R)(c:w.heap.size<=K)(d:i<n)(b:∀j,j<=i->(R j).length=e):Ar w (W.setCells K (e*i) (R i)) K e n (i+1) R:=by
 refine⟨RG.below_setCells c _ _ _ h.bl,by rw[setCells_size];exact h.lt,Y2 h.th _ _ _,λj l=>?_⟩;by_cases k:j=i
 ·subst k;refine YM W K _ _ λt g=>?_
  rw[b j (Xx _)]at g;have f:e*j+e<=e*n:=by
   have:=yAR e (yDz d);rwa[yAS]at this
  have:=h.th (e*j+t) oM;rwa[XD]at this
 ·have f:e*j+e<=e*i:=by
   have:=yAR e (show j+1<=i by omega);rwa[yAS]at this
  exact Yk (h.rw j oM) K _ _ (X0 (X9 (by rw[b j oM];omega)))
theorem CO{T E:Yd}{e:Nat}(j:prog.underlying T=some (.slice E))(d:(prog.info? E).map (λi=>(i.size,decide (i.bytes<=4000),i.zero.isSome))=some (e,true,true))(n:Nat)(p:n<=512):∃C0:List Xu,C0.length=e*n/\∀w:Xs,(yAb T (iZ n) (iZ n)).run prog w=.ok (sZ w.heap.size n n) (w.alloc (.cells C0.toArray E)):=by
 obtain⟨i,b,k⟩:=XA.1 d;simp only[Ze.injEq,decide_eq_true_eq]at k;obtain⟨l,m,g⟩:=k;obtain⟨z,f⟩:=YB.1 g;refine⟨(madeCells z.cells (n*e)).toList,by rw[XP,yBk,YF],λw=>?_⟩;have c:(i.bytes:Int)*(n:Int)<=281474976710656:=by
  have:i.bytes*n<=4000*512:=ZB m p;have o:((i.bytes*n:Nat):Int)<=281474976710656:=oM;rwa[Z2]at o
 have:=run_make (P:=prog) w T E i z j b f .i64 .i64 (n:Int) (n:Int) oM oM c oM;rw[yAz,l]at this;rw[yAc];exact this
theorem Ar.new{w k:Xs}{K e n:Nat}{C0:List Xu}{E:Yd}(R:Nat->List Xu)(f:C0.length=e*n)(b:w.alloc (.cells C0.toArray E)=k)(c:w.heap.size=K):Ar w k K e n 0 R:=by
 subst c;have hR:Row k w.heap.size C0:=by rw[<-b];exact row_new w _ _
 exact⟨by rw[<-b];exact aC _ _,hR.1,by rw[<-f];exact hR.2.2,λj d=>absurd d (ZV _)⟩
theorem D2(O:Ord N)(r:Nat)(L:Bs)(k:ByteArray)(w:Xs)(o:k.size<=1048576)(z:Holds encB w r 0 L)(H:L.size=32):
 XH prog 206 #[.agg #[jZ r],.string k] w (Ret λe w'=>SP.Only r 0 32 w w'/\Holds encB w' r 0 (uK L k.data.toList)/\e=nv (mN N (Dn L k.data.toList 64))):=by
 obtain⟨A,C⟩:=hE (Dn L k.data.toList 64);obtain⟨q,d⟩:∃q,Hid (uK L k.data.toList=q):=⟨_,rfl⟩
 rw[d.out];have J:q.size=32:=by rw[<-d.out];exact bD _ _
 have D:A.size=64:=by rw[<-C.out];exact I2 _ _ _
 rw[C.out];have t:=Holds.lt z oM;obtain⟨i,b⟩:∃i,Hid ((w.alloc (.cells #[jZ r] 157)).alloc (.cells #[uZ 0,uZ 0,uZ 0,uZ 0] 44)=i):=⟨_,rfl⟩
 have y:Hid (Row i (w.heap.size+1) [uZ 0,uZ 0,uZ 0,uZ 0]/\kZ w i/\Holds encB i r 0 L):=by
  rw[<-b.out];have c:kZ w ((w.alloc (.cells #[jZ r] 157)).alloc (.cells #[uZ 0,uZ 0,uZ 0,uZ 0] 44)):=(aC w _).alloc (by rw[XF];omega) _;have hR:=row_new (w.alloc (.cells #[jZ r] 157)) [uZ 0,uZ 0,uZ 0,uZ 0] 44;rw[XF]at hR;exact⟨hR,c,Holds.below z c t⟩
 clear z;go_enter func206,ntmps206;go_wp2_with fail
 rw[b.out];clear b;refine(Pk r L k 64 i o dC y.2.2 H).mono ?_;rintro e I ⟨K,rfl,M,E,f,p⟩;rw[C.out]at p;rw[d.out]at f;have u:=Holds.lt f oM;have g:=mk4 (y.1.only E oM) ((SP.Only.of_below y.2.1 rfl t).trans E) p f;go_wp2_with fail
 refine(Aq O K A D I (Holds.lt g.2.2.1 oM) g.2.2.1).mono ?_;rintro e G ⟨v,rfl,c,rfl⟩;have s:=mk3 (g.1.below c) (g.2.1.trans (SP.Only.of_below c rfl (Xz t g.2.1.size))) (Holds.below g.2.2.2 c u);obtain⟨m,F⟩:=hE (mN N A);rw[F.out];obtain⟨B,n⟩:=hE (G.setCells (w.heap.size+1) 0 (wn m));have x:Hid (Row B (w.heap.size+1) (wn m)/\SP.Only r 0 32 w B/\Holds encB B r 0 q):=by
  rw[<-n.out];refine⟨s.1.put rfl,dX s.2.1 t oM _,λj l=>?_⟩;have e:=aE (w.heap.size+1) (wn m) 0 G r oM;rw[XW (a:=⟨r,0+j,none⟩) e,Y0 (a:=⟨r,0+j,none⟩) e];exact s.2.2 j l
 obtain⟨P,l⟩:=hE (nv m);rw[l.out];go_wp2_with (refine X8 rfl 44 _ _ rfl (w.heap.size+1) 0 (wn m).toArray ?_ ?_ ?_ ?_ ?_ ?_;rfl;exact l.symm;exact s.1.2.2;exact i40;exact aI m;rw[show(wn m).toArray.toList=wn m from rfl,n.out])
 refine XE (aF 4 44 rfl x.1 rfl u40 i40) rfl ?_;exact⟨_,rfl,x.2.1,x.2.2,by rw[F.out];rfl⟩
theorem aS{W W':Xs}{k:Nat}{vs:List Xu}(h:Row W k vs)(c:W.heap.size<=W'.heap.size)(e:W'.heap[k]? = W.heap[k]?):Row W' k vs:=
 ⟨Xz h.1 c,λj v b=>by rw[XW (a:=⟨k,0+j,none⟩) e];exact h.2.1 j v b,λj b=>by rw[XW (a:=⟨k,0+j,none⟩) e,Y0 (a:=⟨k,0+j,none⟩) e];exact h.2.2 j b⟩
structure Wk(w W:Xs)(k7 r:Nat)(L:Bs):Prop where
 bl:kZ w W
 r7:Row W k7 [jZ r]
 lg:Holds encB W r 0 L
 lr:w.heap.size<=r
 n7:k7≠r
theorem uS4:prog.underlying 143=some (.slice 44):=kR
theorem iS4:(prog.info? 44).map (λi=>(i.size,decide (i.bytes<=4000),i.zero.isSome))=some (4,true,true):=kR
end
section
variable {Q Q':Nat->Prop}{W W':Xs}{v:Xu}{l:List (Nat × Bs)}{n:Nat}
structure Kq(Q:Nat->Prop)(W W':Xs):Prop where
 size:W.heap.size<=W'.heap.size
 block:∀g,Q g->g<W.heap.size->W'.heap[g]? = W.heap[g]?
theorem Kq.of_below(k:kZ W W'):Kq Q W W':=⟨k.size,λg _ h=>k.block g h⟩
theorem Kq.of_only{r o m:Nat}(k:SP.Only r o m W W')(d:∀g,Q g->g≠r):Kq Q W W':=⟨k.size,λg b c=>k.block g c (d g b)⟩
theorem Kq.range{g o:Nat}{vs:List Xu}(h:Kq Q W W')(c:Q g)(b:g<W.heap.size)(d:W.rangeAt g o vs):W'.rangeAt g o vs:=λj v k=>by
 rw[XW (a:=⟨g,o+j,none⟩) (h.block g c b)];exact d j v k
theorem Kq.cell{g o:Nat}{x:Xu}(h:Kq Q W W')(b:Q g)(k:g<W.heap.size)(c:W.cell? ⟨g,o,none⟩=some x):W'.cell? ⟨g,o,none⟩=some x:=by
 rw[XW (a:=⟨g,o,none⟩) (h.block g b k)];exact c
def SmQ(Q:Nat->Prop)(W:Xs)(v:Xu)(l:List (Nat × Bs)):Prop:=∃g c,v=sZ g l.length c/\l.length<=c/\Q g/\g<W.heap.size/\W.rangeAt g 0 (aR l)
theorem SmQ.sm(h:SmQ Q W v l):Sm 0 W v l:=by
 obtain⟨g,c,k,b,-,d⟩:=h;exact⟨g,c,k,b,Zh _,d⟩
theorem Sm.q{B:Nat}(h:Sm B W v l):SmQ (B<=·) W v l:=h
theorem SmQ.mono(h:SmQ Q W v l)(e:∀g,Q g->Q' g):SmQ Q' W v l:=by
 obtain⟨g,c,b,d,f,k⟩:=h;exact⟨g,c,b,d,e g f,k⟩
theorem SmQ.keep(h:SmQ Q W v l)(k:Kq Q W W'):SmQ Q W' v l:=by
 obtain⟨g,c,e,f,d,b,i⟩:=h;exact⟨g,c,e,f,d,Xz b k.size,k.range d b i⟩
def SLq(Q:Nat->Prop)(W:Xs)(v:Xu)(n:Nat)(a:Nat->Nat):Prop:=∃g o c,v=.slice (some ⟨g,o,none⟩) n c/\n<=c/\Q g/\g<W.heap.size/\∀j,j<n->W.rangeAt g (o+4*j) (wn (a j))
theorem SLq.mono{a:Nat->Nat}(h:SLq Q W v n a)(e:∀g,Q g->Q' g):SLq Q' W v n a:=by
 obtain⟨g,o,c,b,d,f,k⟩:=h;exact⟨g,o,c,b,d,e g f,k⟩
theorem SLq.keep{a:Nat->Nat}(h:SLq Q W v n a)(k:Kq Q W W'):SLq Q W' v n a:=by
 obtain⟨g,o,c,f,i,d,b,l⟩:=h;exact⟨g,o,c,f,i,d,Xz b k.size,λj e=>k.range d b (l j e)⟩
theorem SLq.congr{a b:Nat->Nat}(h:SLq Q W v n a)(e:∀j,j<n->a j=b j):SLq Q W v n b:=by
 obtain⟨g,o,c,f,i,m,d,l⟩:=h;exact⟨g,o,c,f,i,m,d,λj k=>by rw[<-e j k];exact l j k⟩
def GLq(Q:Nat->Prop)(W:Xs)(v:Xu)(n:Nat)(T:Nat->List (Nat × Bs)):Prop:=∃g o c,v=.slice (some ⟨g,o,none⟩) n c/\n<=c/\Q g/\g<W.heap.size/\∀j,j<n->∃x,W.cell? ⟨g,o+j,none⟩=some x/\SmQ Q W x (T j)
theorem GLq.mono{T:Nat->List (Nat × Bs)}(h:GLq Q W v n T)(k:∀g,Q g->Q' g):GLq Q' W v n T:=by
 obtain⟨g,o,c,e,f,p,b,i⟩:=h;refine⟨g,o,c,e,f,k g p,b,λj d=>?_⟩;obtain⟨x,m,l⟩:=i j d;exact⟨x,m,l.mono k⟩
theorem GLq.keep{T:Nat->List (Nat × Bs)}(h:GLq Q W v n T)(k:Kq Q W W'):GLq Q W' v n T:=by
 obtain⟨g,o,c,f,i,d,b,l⟩:=h;refine⟨g,o,c,f,i,d,Xz b k.size,λj e=>?_⟩;obtain⟨x,p,m⟩:=l j e;exact⟨x,k.cell d b p,m.keep k⟩
structure GRq(Q:Nat->Prop)(W:Xs)(v:Xu)(n:Nat)(G H:Nat->List (Nat × Bs))(U:List (Nat × Bs)):Prop where
 ex:∃vg vh vu,v=.agg #[vg,vh,vu]/\GLq Q W vg n G/\GLq Q W vh n H/\SmQ Q W vu U
theorem GRq.mono{G H:Nat->List (Nat × Bs)}{U:List (Nat × Bs)}(h:GRq Q W v n G H U)(k:∀g,Q g->Q' g):GRq Q' W v n G H U:=by
 obtain⟨i,b,e,d,f,j,c⟩:=h.ex;exact⟨i,b,e,d,f.mono k,j.mono k,c.mono k⟩
theorem GRq.keep{G H:Nat->List (Nat × Bs)}{U:List (Nat × Bs)}(h:GRq Q W v n G H U)(k:Kq Q W W'):GRq Q W' v n G H U:=by
 obtain⟨g,b,e,d,f,i,c⟩:=h.ex;exact⟨g,b,e,d,f.keep k,i.keep k,c.keep k⟩
structure TOk(N:Nat)(l:List (Nat × Bs)):Prop where
 sz:∀x∈l,x.2.size=33
 lt:∀x∈l,x.1<N
theorem TOk.szm{N:Nat}(h:TOk N l):∀x∈l.map (·.2),x.size=33:=λx hx=>by
 obtain⟨y,k,rfl⟩:=Yw.1 hx;exact h.sz y k
theorem TOk.app{N:Nat}{m:List (Nat × Bs)}(h:TOk N l)(k:TOk N m):TOk N (l++m):=⟨λx hx=>(Y3.1 hx).elim (h.sz x) (k.sz x),λx hx=>(Y3.1 hx).elim (h.lt x) (k.lt x)⟩
theorem TOk.tm{N:Nat}(c:0<N)(h:TOk N l)(k:Nat):TOk N (l.map (tmT N k)):=⟨λx hx=>by
 obtain⟨y,b,rfl⟩:=Yw.1 hx;exact h.sz y b,λx hx=>by
 obtain⟨y,b,rfl⟩:=Yw.1 hx;exact Y9 _ c⟩
theorem TOk.nil{N:Nat}:TOk N []:=⟨λ_ h=>(X5 h).elim,λ_ h=>(X5 h).elim⟩
theorem Tl.ok{P:Nat}[NeZero P]{N:Nat}{X:OnP P}(h:Tl N l X):TOk N l:=⟨λx hx=>by
 obtain⟨X,-,e⟩:=h.pts x hx;rw[e];exact aL _,h.lt⟩
theorem pU{N:Nat}(k:0<N){a:Nat->Nat}{T:Nat->List (Nat × Bs)}:∀n,(∀i,i<n->TOk N (T i))->TOk N (dF N a T n)
 | 0,_=>TOk.nil
 | n+1,h=>(pU k n λi b=>h i oM).app ((h n oM).tm k _)
end
namespace RG
variable {P:YG}{ops:Array Yo}{Q:Exit->Act->Xs->Prop}{w:Xs}{a0:Act}{F:Flow}
theorem gZ{L:Array Bool}{i j:Nat}{o:Yo}(ho:ops[i]? = some o)(k:∀e∈o.after,YT .any e=true->on L e.on=true)(b:depOn ops i j=true):on L j=true:=by
 unfold depOn at b;rw[ho]at b;obtain⟨e,d,c⟩:=Array.any_eq_true'.1 b;simp only[XO,beq_iff_eq]at c;have:=k e d c.1;rw[c.2]at this;exact this
end RG
namespace RG
structure S1 where
 p:Xu->Xs->Prop
 st:∀v w w',kZ w w'->p v w->p v w'
def pE(v:Xu):S1:=⟨λx _=>x=v,λ_ _ _ _ h=>h⟩
def pA:S1:=⟨λ_ _=>True,λ_ _ _ _ h=>h⟩
def pM(Q:Nat->Prop)(l:List (Nat × Bs)):S1:=⟨λv w=>SmQ Q w v l,λ_ _ _ k h=>h.keep (Kq.of_below k)⟩
def pS(Q:Nat->Prop)(n:Nat)(a:Nat->Nat):S1:=⟨λv w=>SLq Q w v n a,λ_ _ _ k h=>h.keep (Kq.of_below k)⟩
def pG(Q:Nat->Prop)(n:Nat)(T:Nat->List (Nat × Bs)):S1:=⟨λv w=>GLq Q w v n T,λ_ _ _ k h=>h.keep (Kq.of_below k)⟩
def pR(Q:Nat->Prop)(n:Nat)(G H:Nat->List (Nat × Bs))(U:List (Nat × Bs)):S1:=⟨λv w=>GRq Q w v n G H U,λ_ _ _ k h=>h.keep (Kq.of_below k)⟩
def pI(T:Yd)(p:S1):S1:=⟨λv w=>∃x,v=.iface T x/\p.p x w,λ_ w w' c ⟨x,k,b⟩=>⟨x,k,p.st x w w' c b⟩⟩
def pN(B:Nat)(cs:List Xu):S1:=⟨λv w=>∃k,v=jZ k/\B<=k/\Row w k cs,λ_ _ _ d ⟨k,b,c,e⟩=>⟨k,b,c,e.below d⟩⟩
def nth:List S1->Nat->S1
 | [],_=>pA
 | x :: _,0=>x
 | _ :: r,k+1=>nth r k
def gwL(L:List S1)(B:Xs->Prop)(k:∀w w',kZ w w'->B w->B w'):Gw:=⟨λi=>(nth L i).p,B,λi=>(nth L i).st,k⟩
variable {P:YG}{ops:Array Yo}{Q:Exit->Act->Xs->Prop}{w:Xs}{a0:Act}{G:Gw}{k:Nat}{o:Yo}
theorem Lg(b:List (Zs × Xu))(v:Xu)(c:∀a W,PreG G ops a0 k o a W->AllE a b)(hR:∀W,G.R k v W)(d:∀W,(cN (b.map (·.1)) o,(Yb (evo (evl b)) o).run P W)=(true,.ok (.value v) W):=by intro _;kernel_rfl):bE P Q G.flow ops a0 k o:=
 bL λa W e=>⟨b,v,W,c a W e,d W,XM _ _,hR W⟩
theorem UO(t:Zs)(v b:Xu)(e:a0.eval (.tmp t)=v)(hR:∀W,G.R k b W)(hf:qG ops k t=true:=by kernel_rfl)(c:∀W,(cN [t] o,(Yb (evo (evl [(t,v)])) o).run P W)=(true,.ok (.value b) W):=by intro _;kernel_rfl):bE P Q G.flow ops a0 k o:=
 Lg [(t,v)] b (λa W d=>⟨(d.o t hf).trans e,yEU⟩) hR c
theorem rX(j:Nat)(t:Zs)(v b:Xu)(c:∀x W,G.R j x W->x=v)(hR:∀W,G.R k b W)(hd:(cQ o j,aV ops j)=(true,some t):=by kernel_rfl)(d:∀W,(cN [t] o,(Yb (evo (evl [(t,v)])) o).run P W)=(true,.ok (.value b) W):=by intro _;kernel_rfl):bE P Q G.flow ops a0 k o:=
 Lg [(t,v)] b (λa W e=>⟨c _ W (e.n j t (congrArg yB7 hd) (congrArg yB6 hd)),yEU⟩) hR d
theorem C3(j:Nat)(t:Zs)(f:Xu->Xu)(hR:∀x W,G.R j x W->G.R k (f x) W)(hd:(cQ o j,aV ops j)=(true,some t):=by kernel_rfl)(b:∀v W,(cN [t] o,(Yb (evo (evl [(t,v)])) o).run P W)=(true,.ok (.value (f v)) W):=by intro _ _;kernel_rfl):bE P Q G.flow ops a0 k o:=
 bL λa W c=>⟨[(t,a.eval (.tmp t))],_,W,⟨rfl,yEU⟩,b _ W,XM _ _,hR _ W (c.n j t (congrArg yB7 hd) (congrArg yB6 hd))⟩
theorem BF(j:Nat)(t:Zs)(c:Nat)(b:Zs)(v u e:Xu)(I:Sem Xu)(l:∀W,I.run P W=.ok e W)(i:∀x W,G.R j x W->x=v)(f:∀x W,G.R c x W->x=u)(hR:∀W,G.R k e W)(hd:((cQ o j,aV ops j),(cQ o c,aV ops c))=((true,some t),(true,some b)):=by kernel_rfl)(d:(cN [t,b] o,Yb (evo (evl [(t,v),(b,u)])) o)=(true,I >>= λv=>pure (ZN v)):=by kernel_rfl):bE P Q G.flow ops a0 k o:=
 bL λa W g=>⟨[(t,v),(b,u)],e,W,⟨i _ W (g.n j t (congrArg (·.1.1) hd) (congrArg (·.1.2) hd)),f _ W (g.n c b (congrArg (·.2.1) hd) (congrArg (·.2.2) hd)),yEU⟩,by
  rw[Ze.injEq]at d⊢;refine⟨d.1,?_⟩;rw[d.2,XT,l W];rfl,XM _ _,hR W⟩
theorem EH(j:Nat)(t:Zs)(v c:Xu)(I:Sem Xu)(e:∀W,I.run P W=.ok c W)(d:∀x W,G.R j x W->x=v)(hR:∀W,G.R k c W)(hd:(cQ o j,aV ops j)=(true,some t):=by kernel_rfl)(b:(cN [t] o,Yb (evo (evl [(t,v)])) o)=(true,I >>= λv=>pure (ZN v)):=by kernel_rfl):bE P Q G.flow ops a0 k o:=
 bL λa W f=>⟨[(t,v)],c,W,⟨d _ W (f.n j t (congrArg yB7 hd) (congrArg yB6 hd)),yEU⟩,by
  rw[Ze.injEq]at b⊢;refine⟨b.1,?_⟩;rw[b.2,XT,e W];rfl,XM _ _,hR W⟩
theorem fF(T:Yd)(j:Nat)(t:Zs)(g off:Nat)(x:Xu)(e:(P.underlying T).map (·.isRow)=some false)(d:∀x W,G.R j x W->x=oZ g off)(f:∀W,G.B W->W.cell? ⟨g,off,none⟩=some x)(hR:∀W,G.R k x W)(hd:(cQ o j,aV ops j)=(true,some t):=by kernel_rfl)(ho:o.op=.load T (.tmp t):=by rfl):bE P Q G.flow ops a0 k o:=
 nA λa W b=>by
  have c:=tJ b;refine⟨x,W,?_,XM _ _,hR W⟩;unfold Yb;rw[ho];dsimp only;rw[d _ W (c.n j t (congrArg yB7 hd) (congrArg yB6 hd)),XT,eN (f W c.b) e];rfl
theorem UP(T:Yd)(j:Nat)(t:Zs)(g off:Nat)(cs:List Xu)(d:(P.underlying T).map (·.isRow)=some true)(e:(P.info? T).map (·.size)=some cs.length)(c:∀x W,G.R j x W->x=oZ g off)(f:∀W,G.B W->W.rangeAt g off cs)(hR:∀W,G.R k (.agg cs.toArray) W)(hd:(cQ o j,aV ops j)=(true,some t):=by kernel_rfl)(ho:o.op=.load T (.tmp t):=by rfl):bE P Q G.flow ops a0 k o:=
 jD T t ho d λa W b=>⟨g,off,cs,c _ W (b.n j t (congrArg yB7 hd) (congrArg yB6 hd)),f W b.b,e,hR W⟩
theorem iN(T:Yd)(t:Zs)(g off:Nat)(cs:List Xu)(c:(P.underlying T).map (·.isRow)=some true)(d:(P.info? T).map (·.size)=some cs.length)(f:a0.eval (.tmp t)=oZ g off)(e:∀W,G.B W->W.rangeAt g off cs)(hR:∀W,G.R k (.agg cs.toArray) W)(hf:qG ops k t=true:=by kernel_rfl)(ho:o.op=.load T (.tmp t):=by rfl):bE P Q G.flow ops a0 k o:=
 jD T t ho c λa W b=>⟨g,off,cs,(b.o t hf).trans f,e W b.b,d,hR W⟩
theorem Su(T:Yd)(t:Zs)(g off:Nat)(x:Xu)(d:(P.underlying T).map (·.isRow)=some false)(f:a0.eval (.tmp t)=oZ g off)(e:∀W,G.B W->W.cell? ⟨g,off,none⟩=some x)(hR:∀W,G.R k x W)(hf:qG ops k t=true:=by kernel_rfl)(ho:o.op=.load T (.tmp t):=by rfl):bE P Q G.flow ops a0 k o:=
 nA λa W b=>by
  have c:=tJ b;refine⟨x,W,?_,XM _ _,hR W⟩;unfold Yb;rw[ho];dsimp only;rw[c.o t hf,f,XT,eN (e W c.b) d];rfl
theorem tY(cs:List Xu)(T:Yd)(hR:∀W W':Xs,Row W' W.heap.size cs->G.B W->G.R k (jZ W.heap.size) W')(b:∀W,(cN [] o,(Yb (evo (evl [])) o).run P W)=(true,.ok (.value (jZ W.heap.size)) (W.alloc (.cells cs.toArray T))):=by intro _;kernel_rfl):bE P Q G.flow ops a0 k o:=
 bL λa W c=>⟨[],_,_,trivial,b W,aC W _,hR W _ (row_new W cs T) c.b⟩
theorem P5(f:ZY)(args:Array Xu)(c:∀W,G.B W->XH P f args W (rZ W λe W'=>G.R k e W'))(b:∀W,(cN [] o,(Yb (evo (evl [])) o).run P W)=(true,.ok (.enter f args) W):=by intro _;kernel_rfl):bE P Q G.flow ops a0 k o:=
 gC λa W d=>⟨[],f,args,trivial,b W,c W d.b⟩
theorem oG(j:Nat)(t:Zs)(f:ZY)(args:Xu->Array Xu)(d:∀x W,G.R j x W->G.B W->XH P f (args x) W (rZ W λe W'=>G.R k e W'))(hd:(cQ o j,aV ops j)=(true,some t):=by kernel_rfl)(c:∀x W,(cN [t] o,(Yb (evo (evl [(t,x)])) o).run P W)=(true,.ok (.enter f (args x)) W):=by intro _ _;kernel_rfl):bE P Q G.flow ops a0 k o:=
 gC λa W b=>⟨[(t,a.eval (.tmp t))],f,_,⟨rfl,yEU⟩,c _ W,d _ W (b.n j t (congrArg yB7 hd) (congrArg yB6 hd)) b.b⟩
theorem eF(j:Nat)(t:Zs)(c:Nat)(b:Zs)(f:ZY)(args:Xu->Xu->Array Xu)(i:∀x y W,G.R j x W->G.R c y W->G.B W->XH P f (args x y) W (rZ W λe W'=>G.R k e W'))(hd:((cQ o j,aV ops j),(cQ o c,aV ops c))=((true,some t),(true,some b)):=by kernel_rfl)(g:∀x y W,(cN [t,b] o,(Yb (evo (evl [(t,x),(b,y)])) o).run P W)=(true,.ok (.enter f (args x y)) W):=by intro _ _ _;kernel_rfl):bE P Q G.flow ops a0 k o:=
 gC λa W d=>⟨[(t,a.eval (.tmp t)),(b,a.eval (.tmp b))],f,_,⟨rfl,rfl,yEU⟩,g _ _ W,i _ _ W (d.n j t (congrArg (·.1.1) hd) (congrArg (·.1.2) hd)) (d.n c b (congrArg (·.2.1) hd) (congrArg (·.2.2) hd)) d.b⟩
theorem nG(j:Nat)(t:Zs)(g:Nat)(d:Zs)(c:Nat)(b:Zs)(f:ZY)(args:Xu->Xu->Xu->Array Xu)(l:∀x y z W,G.R j x W->G.R g y W->G.R c z W->G.B W->XH P f (args x y z) W (rZ W λe W'=>G.R k e W'))(hd:((cQ o j,aV ops j),(cQ o g,aV ops g),(cQ o c,aV ops c))=((true,some t),(true,some d),(true,some b)):=by kernel_rfl)(m:∀x y z W,(cN [t,d,b] o,(Yb (evo (evl [(t,x),(d,y),(b,z)])) o).run P W)=(true,.ok (.enter f (args x y z)) W):=by intro _ _ _ _;kernel_rfl):bE P Q G.flow ops a0 k o:=
 gC λa W i=>⟨[(t,a.eval (.tmp t)),(d,a.eval (.tmp d)),(b,a.eval (.tmp b))],f,_,⟨rfl,rfl,rfl,yEU⟩,m _ _ _ W,l _ _ _ W (i.n j t (congrArg (·.1.1) hd) (congrArg (·.1.2) hd)) (i.n g d (congrArg (·.2.1.1) hd) (congrArg (·.2.1.2) hd)) (i.n c b (congrArg (·.2.2.1) hd) (congrArg (·.2.2.2) hd)) i.b⟩
theorem qF(T:Yd)(j:Nat)(t:Zs)(c:Nat)(b:Zs)(p:S1)(f:ZY)(i:∀x W,G.R j x W->(pI T p).p x W)(g:∀x y W,p.p x W->G.R c y W->G.B W->XH P f #[x,y] W (rZ W λe W'=>G.R k e W'))(hd:((cQ o j,aV ops j),(cQ o c,aV ops c))=((true,some t),(true,some b)):=by kernel_rfl)(l:∀x y W,(cN [t,b] o,(Yb (evo (evl [(t,.iface T x),(b,y)])) o).run P W)=(true,.ok (.enter f #[x,y]) W):=by intro _ _ _;kernel_rfl):bE P Q G.flow ops a0 k o:=
 gC λa W d=>by
  obtain⟨x,e,hx⟩:=i _ W (d.n j t (congrArg (·.1.1) hd) (congrArg (·.1.2) hd));exact⟨[(t,.iface T x),(b,a.eval (.tmp b))],f,_,⟨e,rfl,yEU⟩,l _ _ W,g _ _ W hx (d.n c b (congrArg (·.2.1) hd) (congrArg (·.2.2) hd)) d.b⟩
end RG
namespace RG
variable {P:YG}{ops:Array Yo}{Q:Exit->Act->Xs->Prop}{w:Xs}{a0:Act}{G:Gw}{k:Nat}{o:Yo}{T:Yd}{g off:Nat}{cs:List Xu}{v u v' z:Xu}{I:Sem Xu}{f:ZY}{t:Zs}
theorem gO(t:Zs)(v:Xu)(c:a0.eval (.tmp t)=v:=by kernel_rfl)(hR:∀W,G.R k v W:=by exact λ_=>rfl)(hf:qG ops k t=true:=by kernel_rfl)(b:∀W,(cN [t] o,(Yb (evo (evl [(t,v)])) o).run P W)=(true,.ok (.value v) W):=by intro _;kernel_rfl):bE P Q G.flow ops a0 k o:=UO t v v c hR hf b
theorem gP(t:Zs)(v b:Xu)(d:a0.eval (.tmp t)=v:=by kernel_rfl)(hR:∀W,G.R k b W:=by exact λ_=>rfl)(hf:qG ops k t=true:=by kernel_rfl)(c:∀W,(cN [t] o,(Yb (evo (evl [(t,v)])) o).run P W)=(true,.ok (.value b) W):=by intro _;kernel_rfl):bE P Q G.flow ops a0 k o:=UO t v b d hR hf c
theorem gLo(t:Zs)(d:∀W,G.B W->W.rangeAt g off cs)(b:(P.underlying T).map (·.isRow)=some true)(c:(P.info? T).map (·.size)=some cs.length)(e:a0.eval (.tmp t)=oZ g off:=by kernel_rfl)(hR:∀W,G.R k (.agg cs.toArray) W:=by exact λ_=>rfl)(hf:qG ops k t=true:=by kernel_rfl)(ho:o.op=.load T (.tmp t):=by rfl):bE P Q G.flow ops a0 k o:=iN T t g off cs b c e d hR hf ho
theorem gLr(j:Nat)(t:Zs)(e:∀W,G.B W->W.rangeAt g off cs)(c:(P.underlying T).map (·.isRow)=some true)(d:(P.info? T).map (·.size)=some cs.length)(b:∀x W,G.R j x W->x=oZ g off:=by exact λ_ _ h=>h)(hR:∀W,G.R k (.agg cs.toArray) W:=by exact λ_=>rfl)(hd:(cQ o j,aV ops j)=(true,some t):=by kernel_rfl)(ho:o.op=.load T (.tmp t):=by rfl):bE P Q G.flow ops a0 k o:=UP T j t g off cs c d b e hR hd ho
theorem gX(j:Nat)(t:Zs)(c:Nat)(b:Zs)(f:∀W,I.run P W=.ok v' W)(e:∀x W,G.R j x W->x=v:=by exact λ_ _ h=>h)(d:∀x W,G.R c x W->x=u:=by exact λ_ _ h=>h)(hR:∀W,G.R k v' W:=by exact λ_=>rfl)(hd:((cQ o j,aV ops j),(cQ o c,aV ops c))=((true,some t),(true,some b)):=by kernel_rfl)(g:(cN [t,b] o,Yb (evo (evl [(t,v),(b,u)])) o)=(true,I >>= λv=>pure (ZN v)):=by kernel_rfl):bE P Q G.flow ops a0 k o:=BF j t c b v u v' I f e d hR hd g
theorem gC2(j:Nat)(t:Zs)(b:Nat)(c:Zs)(g:∀W,XH P f #[v,u] W (rZ W λe W'=>e=v'))(l:∀x W,G.R j x W->x=v:=by exact λ_ _ h=>h)(d:∀x W,G.R b x W->x=u:=by exact λ_ _ h=>h)(hR:∀W,G.R k v' W:=by exact λ_=>rfl)(hd:((cQ o j,aV ops j),(cQ o b,aV ops b))=((true,some t),(true,some c)):=by kernel_rfl)(m:∀x y W,(cN [t,c] o,(Yb (evo (evl [(t,x),(c,y)])) o).run P W)=(true,.ok (.enter f #[x,y]) W):=by intro _ _ _;kernel_rfl):bE P Q G.flow ops a0 k o:=
 eF j t b c f (λx y=>#[x,y]) (λx y W n p _=>by
  rw[l x W n,d y W p];refine(g W).mono ?_;rintro e W' ⟨a,rfl,i,rfl⟩;exact⟨_,rfl,i,hR W'⟩) hd m
end RG
section
variable {P:Nat}[NeZero P]{N:Nat}
theorem OK(s:ByteArray)(w:Xs):
 ∃cap w',(convert 9 23 (.string s)).run prog w=.ok (sZ w.heap.size s.size cap) w'/\s.size<=cap/\kZ w w'/\Holds encB w' w.heap.size 0 s.data/\w.heap.size<w'.heap.size:=by
 have h:=Lib.run_convert_string_bytes (P:=prog) w 9 23 5 s str9 slice22 int5;have c:s.size<=grownCap w s.size 0 5:=by
  unfold grownCap Question.cut;exact Nat.le_add_right _ _
 have l:s.data.size=s.size:=rfl;refine⟨_,_,h,c,?_,?_,by rw[yCc];omega⟩
 ·refine⟨?_,?_,?_,?_,λk b=>Lib.bytesWorld_at_old w 5 s k b⟩
  ·unfold yBv yBE;rw[yET dC];rfl
  ·unfold yBv yBE;rw[yET dC];rfl
  ·unfold yBv yBE;rw[yET dC];rfl
  ·rw[yCc];omega
 ·intro j f;have g:=Lib.bytesWorld_at_new w 5 s;have d:(yAG w 5 s).size=grownCap w s.size 0 5:=by
   unfold yAG;rw[Yg,Array.size_map,XU];omega
  have i:(yAG w 5 s)=(s.data++XL (grownCap w s.size 0 5-s.size) 0).map encB:=by
   unfold yAG;rw[Array.map_append,Array.map_replicate];rfl
  have e:j<(s.data++XL (grownCap w s.size 0 5-s.size) 0).size:=by rw[Yg,XU];omega
  have b:(s.data++XL (grownCap w s.size 0 5-s.size) 0)[j]=s.data[j]!:=by
   rw[Array.getElem_append_left f,getElem!_pos s.data j f]
  constructor
  ·unfold World.cell?;rw[g];simp only[XD];rw[yET dC,i,Array.getElem?_map,X4 e,Option.map_some,b]
  ·unfold World.frozen?;rw[g];simp only[XD,d];simp;omega
end
section
def hf(n:Nat):Nat:=2^yD7 (n-1)
theorem Lc{n:Nat}(h:2<=n):1<=hf n/\hf n<n/\n<=2*hf n:=by
 unfold hf;have b:n-1≠0:=oM;have c:=Nat.log2_self_le b;have k:=Nat.lt_log2_self (n:=n-1);rw[Zf]at k;have d:=Nat.two_pow_pos (yD7 (n-1));omega
def yL(b:Bs):Bs:=iU [108,101,97,102] [b.toList]
def lP(x y:Bs):Bs:=iU [110,111,100,101] [x.toList,y.toList]
section
variable {P:YG}{ops:Array Yo}{rest:List Yo}{op:Yo}{a:Act}{w:Xs}{Q:Exit->Act->Xs->Prop}
theorem qJ(v:Xu)(k:op.guard=none)(c:Xu)(t:Zs)(T:Yd)(ho:op.op=.index T (.const c) (.tmp t))(d:(yBs T c (a.eval (.tmp t))).run P w=.ok v w)(h:wpList P ops Q rest (a.put op.dst v) w):wpList P ops Q (op :: rest) a w:=
 ZH k λK b=>by
  unfold YV;have:(Yb a.eval op).run P w=.ok (.value v) w:=by
   unfold Yb;rw[ho];show((yBs T c (a.eval (.tmp t))) >>= λv=>pure (ZN v)).run P w=_;rw[XT,d];rfl
  rw[this];exact b _ _ h
end
theorem BC(s:ByteArray)(y n:Nat)(b:y<s.size)(c:((s[y]'b).toNat)=n)(w:Xs):(yBs 9 (.string s) (.int .u8 y)).run prog w=.ok (.int .u8 n) w:=by
 rw[run_index_string (t:=9) (s:=s) (k:=.u8) (i:=(y:Int)) (h:=str9)];subst c;simp[b]
theorem Ov(x:Nat)(hx:x<1048576)(w:Xs):XH prog 194 #[uZ x] w λe w'=>e=.returned (iZ (k x:Int))/\w'=w:=by
 have s:¬(4294967296:Int)<=(x:Int):=oM;by_cases q:65536<=x
 ·have r:(65536:Int)<=(x:Int):=oM;obtain⟨y,j⟩:∃y,Hid (x/65536=y):=⟨_,rfl⟩
  have c:=j.out;have l:(x:Int)/65536=(y:Int):=oM;have b:y<256:=oM;have o:¬(256:Int)<=(y:Int):=oM;have n:(y:Int)%256=(y:Int):=oM;have i:=bitLen_shift x 16 (by show x/65536≠0;omega);have d:k x=16+k y:=by rw[i];show 16+k (x/65536)=_;rw[c]
  have g:=bitLen_le8 y b;have f:Hid (k x=16+k y/\k y<=8):=⟨d,g⟩
  clear i d g c;go_enter func194,ntmps194;go_wp2_with (refine qJ (.int .u8 (k y:Int)) rfl _ 21 9 rfl ?_ ?_;(refine BC _ y (k y) ?_ ?_ w;exact b;exact len8tab_get y b))
  go_ret;refine⟨congrArg yBD (congrArg (YQ Yh) ?_),rfl⟩;have m:=f.1;have p:=f.2;rw[m];simp only[wrap64];omega
 ·have r:¬(65536:Int)<=(x:Int):=oM;by_cases g:256<=x
  ·have o:(256:Int)<=(x:Int):=oM;obtain⟨y,j⟩:∃y,Hid (x/256=y):=⟨_,rfl⟩
   have c:=j.out;have l:(x:Int)/256=(y:Int):=oM;have b:y<256:=oM;have n:(y:Int)%256=(y:Int):=oM;have i:=bitLen_shift x 8 (by show x/256≠0;omega);have d:k x=8+k y:=by rw[i];show 8+k (x/256)=_;rw[c]
   have g:=bitLen_le8 y b;have f:Hid (k x=8+k y/\k y<=8):=⟨d,g⟩
   clear i d g c;go_enter func194,ntmps194;go_wp2_with (refine qJ (.int .u8 (k y:Int)) rfl _ 21 9 rfl ?_ ?_;(refine BC _ y (k y) ?_ ?_ w;exact b;exact len8tab_get y b))
   go_ret;refine⟨congrArg yBD (congrArg (YQ Yh) ?_),rfl⟩;have m:=f.1;have p:=f.2;rw[m];simp only[wrap64];omega
  ·have b:x<256:=oM;have o:¬(256:Int)<=(x:Int):=oM;have n:(x:Int)%256=(x:Int):=oM;have f:Hid (k x<=8):=bitLen_le8 x b;go_enter func194,ntmps194;go_wp2_with (refine qJ (.int .u8 (k x:Int)) rfl _ 21 9 rfl ?_ ?_;(refine BC _ x (k x) ?_ ?_ w;exact b;exact len8tab_get x b))
   go_ret;refine⟨congrArg yBD (congrArg (YQ Yh) ?_),rfl⟩;have p:=f.out;simp only[wrap64];omega
theorem UA(x:Nat)(hx:x<1048576)(w:Xs):XH prog 153 #[uZ x] w λe w'=>e=.returned (iZ (k x:Int))/\w'=w:=by
 go_enter func153,ntmps153;go_wp2_with fail
 refine(Ov x hx w).mono ?_;rintro e w' ⟨rfl,rfl⟩;go_wp2_with fail
 go_ret;exact⟨rfl,rfl⟩
theorem Sq(n:Nat)(i:2<=n)(p:n<=1048576)(w:Xs):XH prog 97 #[iZ n] w λe w'=>e=.returned (iZ (hf n:Int))/\w'=w:=by
 obtain⟨x,hx⟩:∃x,Hid (n-1=x):=⟨_,rfl⟩
 have c:=hx.out;have o:(n:Int)-1=(x:Int):=oM;have f:=UA x oM w;obtain⟨k,d⟩:∃k,Hid (yD7 x=k):=⟨_,rfl⟩
 have b:bitLen x=k+1:=by unfold bitLen;rw[yET oM,d.out]
 have g:k<20:=by rw[<-d.out];exact(Nat.log2_lt oM).2 oM
 rw[b]at f;have j:Hid (hf n=2^k):=by show _=_;unfold hf;rw[c,d.out]
 clear c b;go_enter func97,ntmps97;go_wp2_with fail
 refine f.mono ?_;rintro e w' ⟨rfl,rfl⟩;go_wp2;go_ret;refine⟨congrArg yBD (congrArg (YQ Yh) ?_),rfl⟩;have l:2^k<=2^19:=Nat.pow_le_pow_right dC oM;have i:((2^k:Nat):Int)=(2:Int)^k:=by simp
 rw[j.out,<-i];generalize 2^k=m at l⊢;show wrap64 _=_;unfold wrap64;omega
end
section
variable {P:Nat}[NeZero P]{N:Nat}
theorem J4{w:Xs}{r:Nat}{l:List UInt8}{k:List (List UInt8)}(h:Holds encB w r 0 (iU l k)):PartOk w (sZ r 32 32) (iU l k).toList:=
 ⟨_,r,0,32,iU l k,by rw[bV],rfl,by rw[bV];exact Xx _,by rw[bV];decide,X0 ⟨rfl,h⟩⟩
def zY(w:Xs)(v:Xu)(b:List UInt8):Prop:=(∃q n c,v=.slice q n c)/\PartOk w v b
def Lists(w:Xs)(q:Option YW)(n:Nat)(S:Nat->Bs):Prop:=0<n->∃k b,q=some ⟨k,b,none⟩/\k<w.heap.size/\∀j,j<n->∃v,w.cell? ⟨k,b+j,none⟩=some v/\zY w v (S j).toList
theorem Lists.below{w f:Xs}{q:Option YW}{n:Nat}{S:Nat->Bs}(h:Lists w q n S)(k:kZ w f):Lists f q n S:=λm=>by
 obtain⟨b,e,l,c,o⟩:=h m;refine⟨b,e,l,Xz c k.size,λj i=>?_⟩;obtain⟨v,g,d⟩:=o j i;exact⟨v,by rw[k.cell (p:=⟨b,e+j,none⟩) c];exact g,d.1,d.2.below k⟩
theorem Lists.less{w:Xs}{q:Option YW}{n m:Nat}{S:Nat->Bs}(h:Lists w q n S)(i:m<=n):Lists w q m S:=λg=>by
 obtain⟨e,c,k,b,d⟩:=h oM;exact⟨e,c,k,b,λj f=>d j oM⟩
theorem Hid.mk2{p:Prop}(h:p):Hid p:=h
theorem Ij(w:Xs):PartOk w (.slice none 0 0) (#[]:Bs).toList:=⟨none,0,0,0,#[],rfl,rfl,Xx _,dC,X9 rfl⟩
def gB(n:Nat):Bs:=#[bH n 16777216,bH n 65536,bH n 256,bH n 1]
def LW(k:Bs)(n:Nat):Bs:=iU [99,104,105,108,100] [k.toList,(gB n).toList]
def UD(k:Bs)(l:List UInt8):Bs:=iU [107,101,121] [k.toList,l]
def yX(S:Nat->Nat)(k:Bs):Nat->Bs
 | 0=>k
 | j+1=>LW (yX S k j) (S j)
def yY(S:Nat->Nat)(k:Bs)(n:Nat)(l:List UInt8):Bs:=UD (yX S k n) l
theorem Ip(n:Nat)(l:n<4294967296)(w:Xs):XH prog 150 #[.int .u32 n] w (rZ w λe w'=>∃r,e=sZ r 4 4/\Holds encB w' r 0 (gB n)):=by
 have k:(n:Int)/16777216%256=SP.ub (bH n 16777216):=fE n 16777216;have b0:(n:Int)/16777216=SP.ub (bH n 16777216):=oM;clear k;have b1:(n:Int)/65536%256=SP.ub (bH n 65536):=fE n 65536;have o:(n:Int)/256%256=SP.ub (bH n 256):=fE n 256;have m:(n:Int)%256=SP.ub (bH n 1):=rT n;have d:=qT w (bH n 16777216) (bH n 65536) (bH n 256) (bH n 1);have g:Hid (gB n=#[bH n 16777216,bH n 65536,bH n 256,bH n 1]):=rfl;generalize bH n 16777216=c at *;generalize bH n 65536=i at *;generalize bH n 256=j at *;generalize bH n 1=f at *;have b:kZ w (w.alloc (.cells #[.int .u8 (SP.ub c),.int .u8 (SP.ub i),.int .u8 (SP.ub j),.int .u8 (SP.ub f)] 5)):=(XM _ _).alloc (Xx _) _;go_enter func150,ntmps150;go_wp2;go_ret;refine⟨_,rfl,b,_,rfl,?_⟩;rw[g.out];exact d
def Dw(w:Xs)(q:Option YW)(n:Nat)(S:Nat->Nat):Prop:=(∀j,j<n->S j<4294967296)/\(0<n->∃k b,q=some ⟨k,b,none⟩/\k<w.heap.size/\∀j,j<n->w.cell? ⟨k,b+j,none⟩=some (.int .u32 (S j:Int)))
theorem Eg{w:Xs}{r n:Nat}(h:Holds encB w r 0 (gB n)):PartOk w (sZ r 4 4) (gB n).toList:=
 ⟨_,r,0,4,gB n,rfl,rfl,Xx _,Yy rfl,X0 ⟨rfl,h⟩⟩
theorem TO(k:ByteArray)(d:k.size<=1048576)(q f:Option YW)(n c m l:Nat)(x y:List UInt8)(w:Xs)(hv:PartOk w (.slice q n c) x)(g:PartOk w (.slice f m l) y):
 XH prog 46 #[.string k,sZ w.heap.size 2 2] (w.alloc (.cells #[.slice q n c,.slice f m l] 23)) λe w'=>∃r,e=.returned (sZ r 32 32)/\w.heap.size<=r/\kZ w w'/\Holds encB w' r 0 (iU k.data.toList [x,y]):=by
 have b:=Made.alloc w [.slice q n c,.slice f m l] 23;refine(kQ k (some (aZ w.heap.size)) 2 [x,y] _ d (Yy rfl) (X0 ⟨_,_,rfl,λj s=>?_⟩)).mono ?_
 ·have i:j=0\/j=1:=by simp at s;omega
  rcases i with rfl|rfl
  ·exact⟨_,b.range 0 _ rfl,hv.below b.bel⟩
  ·exact⟨_,b.range 1 _ rfl,g.below b.bel⟩
 ·rintro e u ⟨r,rfl,t,p,o⟩;have i:=b.bel.size;exact⟨r,rfl,XB i t,b.bel.trans (p.mono i),o⟩
theorem IB(F:Option YW)(G sc:Nat)(k:Bs)(b:ByteArray)(u:b.size<=65536)(q:Option YW)(n c:Nat)(S:Nat->Nat)(w:Xs)(X:n<=1048576)(P:PartOk w (.slice F G sc) k.toList)(Q:Dw w q n S):
 XH prog 93 #[.slice F G sc,.string b,.slice q n c] w (rZ w λe w'=>∃r,e=sZ r 32 32/\w.heap.size<=r/\Holds encB w' r 0 (yY S k n b.data.toList)):=by
 have M:Hid (Dw w q n S):=Q;have R:Hid (zY w (.slice F G sc) (yX S k 0).toList):=⟨⟨_,_,_,rfl⟩,P⟩
 clear Q P;go_enter func93,ntmps93;go_wp2;go_loopg [7,13] n (λg s7 s13 W=>∃(i:Nat) (v:Xu),i+g=n/\v=s7/\s13=iZ i/\Hid (kZ w W/\zY W v (yX S k i).toList))
 case atStart=>exact⟨0,_,oM,rfl,rfl,XM _ _,R.out⟩
 case round =>
  obtain⟨i,v,U,rfl,rfl,j⟩:=hrel;obtain⟨N,J,H,rfl⟩:=j.2.1;by_cases L:i<n
  ·have D:(i:Int)<(n:Int):=oM;obtain⟨a,B,rfl,s,I⟩:=M.2 oM;have hv:wr.cell? ⟨a,B+i,none⟩=some (.int .u32 (S i:Int)):=by rw[j.1.cell (p:=⟨a,B+i,none⟩) s];exact I i L
   have T:∀w:Xs,(Yi 93 (.slice (some ⟨a,B,none⟩) n c) (iZ i)).run prog w=.ok (.pointer (some ⟨a,B+i,none⟩)) w:=λw=>by
    have d:¬(i:Int)<0:=oM;have f:(i:Int)<(n:Int):=oM;go_simp
   have o:=Ip (S i) (M.1 i L) wr;have O:Hid (LW (yX S k i) (S i)=yX S k (i+1)):=rfl;clear I s;generalize S i=x at hv o O;go_wp2_with fail
   refine o.mono ?_;rintro e K ⟨v2,rfl,m,V,rfl,t⟩;have A:=TO ⟨#[99,104,105,108,100]⟩ dC N (some (aZ V)) J H 4 4 _ _ K (j.2.2.below m) (Eg t);have E:Hid (kZ w K):=j.1.trans (m.mono j.1.size);clear m t o;go_wp2_with fail
   refine A.mono ?_;rintro e y ⟨C,rfl,l,d,f⟩;have z:Hid (kZ w y/\zY y (sZ C 32 32) (yX S k (i+1)).toList):=by
    refine⟨E.trans (d.mono E.size),⟨_,_,_,rfl⟩,?_⟩;rw[<-O.out];exact J4 f
   clear l d f A E j;go_wp2;go_roundg (gk-1)
   case measure=>omega
   case rel=>exact⟨i+1,_,oM,rfl,rfl,z.out⟩
  ·have D:¬(i:Int)<(n:Int):=oM;obtain rfl:i=n:=oM;obtain⟨m,E,K,o,s,t,a⟩:=OK b wr;have I:PartOk E (sZ wr.heap.size b.size m) b.data.toList:=⟨_,wr.heap.size,0,m,b.data,rfl,rfl,o,XB u dC,X0 ⟨rfl,t⟩⟩
   have A:=TO ⟨#[107,101,121]⟩ dC N _ J H _ _ _ _ E (j.2.2.below s) I;have B:Hid (kZ w E):=j.1.trans (s.mono j.1.size);clear s t a o I j;go_wp2_with fail
   refine A.mono ?_;rintro e y ⟨C,rfl,l,d,f⟩;have z:Hid (kZ w y/\w.heap.size<=C/\Holds encB y C 0 (yY S k i b.data.toList)):=⟨B.trans (d.mono B.size),XB B.size l,f⟩
   clear l d f A B;go_wp2;go_ret;exact⟨_,rfl,z.1,_,rfl,z.2.1,z.2.2⟩
theorem AN(S:Nat->Nat)(k:Bs)(n:Nat)(l:List UInt8):(yY S k n l).size=32:=by unfold yY UD;exact bV _ _
theorem KO(q:Option YW)(n c:Nat)(w:Xs):XH prog 92 #[.slice q n c] w λe w'=>e=.returned (.bool (decide (n=32)))/\w'=w:=by
 by_cases h:n=32
 ·subst h;go_enter func92,ntmps92;go_wp2;go_ret;exact⟨rfl,rfl⟩
 ·have k:¬(n:Int)=32:=oM;have b:((n:Int) == 32)=false:=by simpa using k
  rw[decide_eq_false h];go_enter func92,ntmps92;go_wp2;go_ret;exact⟨rfl,rfl⟩
def kdE(k:Bs)(n:Nat):Nat:=if k.size=32 then(if n<=16 then 0 else 1) else 2
theorem Dx(p:Option YW)(j sc:Nat)(k:Bs)(d:ByteArray)(m:d.size<=65536)(q:Option YW)(n c:Nat)(S:Nat->Nat)(w:Xs)(a:n<=1048576)(y:PartOk w (.slice p j sc) k.toList)(f:j=k.size)(z:Dw w q n S):
 XH prog 43 #[.slice p j sc,.string d,.slice q n c] w (rZ w λe w'=>((¬(k.size=32/\n<=16)/\e=.tuple #[.slice none 0 0,iZ (kdE k n:Int)])\/((k.size=32/\n<=16)/\∃r,e=.tuple #[sZ r 32 32,iZ 0]/\w.heap.size<=r/\Holds encB w' r 0 (yY S k n d.data.toList)))):=by
 have i:=KO p j sc w;have hd:=IB p j sc k d m q n c S w a y z;clear y z;have A:=Hid.mk2 f;by_cases s:j=32
 ·have b:k.size=32:=oM;clear f;rw[decide_eq_true s]at i;subst s;have o:=Hid.mk2 b;clear b;by_cases t:n<=16
  ·have g:¬(16:Int)<(n:Int):=oM;go_enter func43,ntmps43;go_wp2_with fail
   refine i.mono ?_;rintro e w' ⟨rfl,rfl⟩;go_wp2_with fail
   refine hd.mono ?_;rintro e v ⟨v2,rfl,l,r,rfl,x,u⟩;have K:Hid (kZ w' v/\w'.heap.size<=r/\Holds encB v r 0 (yY S k n d.data.toList)):=⟨l,x,u⟩
   clear l x u hd i;go_wp2
   go_ret2
   exact⟨_,rfl,K.1,X0 ⟨⟨o.out,t⟩,_,rfl,K.2.1,K.2.2⟩⟩
  ·have g:(16:Int)<(n:Int):=oM;have hE:kdE k n=1:=by unfold kdE;rw[yES o.out,yET t]
   clear hd;go_enter func43,ntmps43;go_wp2_with fail
   refine i.mono ?_;rintro e w' ⟨rfl,rfl⟩;go_wp2
   go_ret2
   exact⟨_,rfl,XM _ _,X9 ⟨λh=>t h.2,by rw[hE];rfl⟩⟩
 ·rw[decide_eq_false s]at i;have b:¬k.size=32:=oM;have hE:kdE k n=2:=by unfold kdE;rw[yET b]
  have o:=Hid.mk2 b;clear hd f b;go_enter func43,ntmps43;go_wp2_with fail
  refine i.mono ?_;rintro e w' ⟨rfl,rfl⟩;go_wp2
  go_ret2
  exact⟨_,rfl,XM _ _,X9 ⟨λh=>o.out h.1,by rw[hE];rfl⟩⟩
theorem Oi:Gives 15 #[uZ 1] (nv 1):=by
 intro w;go_enter func15,ntmps15;refine RG.M.enter [(0,.v (uZ 1))] 6 kR ?_;intro a0 c;repeat refine Xy ?_
 refine c.T [.m 0] [(0,RG.z 4)] [] [RG.z 4] [0,2] ⟨mk 0 44,yEU⟩ ?_;intro k f g d;repeat refine Xy ?_
 refine d.T [.x (uZ 1),.x (nv 1),.x (nv 1),.u 0] [] [(0,3,wn 1)] [wn 1] [2] ⟨st,st,st,RG.pt i40,yEU⟩ ?_;intro a2 e b;refine Y5 ?_;refine XE (v:=nv 1) (aH b.st 2 44 rfl 0 _ rfl (b.at (s:=(.p 0 0))) u40 i40) b.sl.defers ?_;exact⟨_,rfl,b.st.bel.below,rfl⟩
def lN(a:Nat):Nat:=if a=0 then 1 else a
theorem Kb(O:Ord N){a:Nat}(k:a<N):lN a<N:=by
 unfold lN;by_cases h:a=0
 ·rw[yES h];have:=O.n2;omega
 ·rw[yET h];exact k
theorem Gf(O:Ord N){a:Nat}(j:a<N):Gives 123 #[nv a] (nv (lN a)):=by
 intro w;have e:=Xz j O.le;have g:∀w:Xs,(binOp .eql 44 (nv a) (nv 0)).run prog w=.ok (.bool (decide (a=0))) w:=λw=>eqS e (show 0<top by unfold top;omega) w
 obtain⟨d,hd⟩:=hE (decide (a=0));rw[hd.out]at g;go_enter func123,ntmps123;refine RG.M.enter [(0,.v (nv a))] 8 kR ?_;intro a0 i;repeat refine Xy ?_
 refine i.T [.m 0,.m 1] [(0,wn a),(1,RG.z 4)] [] [wn a,RG.z 4] [1,2] ⟨mk 0 44,mk 1 44,yEU⟩ ?_;intro r p o t n;repeat refine Xy ?_
 refine n.U [.x (nv a),.x (nv 0),.x (.bool d)] [1,2,5] ⟨ld u40 i40,st,aO rfl .eql 44 44 3 4 (nv a) (nv 0) (.bool d) rfl rfl sx sx (λw=>kR) g,yEU⟩ ?_;intro a2 q b;cases d with
 | true =>
  refine Yx b.ev ?_;have f:=of_decide_eq_true hd.out;have c:lN a=1:=by unfold lN;rw[yES f]
  rw[c];repeat refine Xy ?_
  refine b.T [.c (nv 1),.u 1] [] [(1,1,wn 1)] [wn a,wn 1] [2] ⟨cl Oi,RG.pt i40,yEU⟩ ?_;intro m l k;refine Y5 ?_;refine XE (v:=nv 1) (aH k.st 2 44 rfl 1 _ rfl (k.at (s:=(.p 1 0))) u40 i40) k.sl.defers ?_;exact⟨_,rfl,k.st.bel.below,rfl⟩
 | false =>
  refine X7 b.ev ?_;have f:=of_decide_eq_false hd.out;have c:lN a=a:=by unfold lN;rw[yET f]
  rw[c];refine YR ?_;repeat refine Xy ?_
  refine b.T [.x (nv a),.u 1] [] [(1,1,wn a)] [wn a,wn a] [2] ⟨ld u40 i40,RG.pt i40,yEU⟩ ?_;intro m l k;refine Y5 ?_;refine XE (v:=nv a) (aH k.st 2 44 rfl 1 _ rfl (k.at (s:=(.p 1 0))) u40 i40) k.sl.defers ?_;exact⟨_,rfl,k.st.bel.below,rfl⟩
end
section
section
variable {P:YG}{ops:Array Yo}{rest:List Yo}{op:Yo}{a:Act}{w w':Xs}{v:Xu}{Q:Exit->Act->Xs->Prop}
theorem qI(c:op.guard=none)(k:Yd)(x y:Operand)(ho:op.op=.store k x y)(b o:Nat)(v:Xu)(hx:a.eval x=oZ b o)(g:a.eval y=v)(hv:v.cells=#[v])(j:v.oneCell'=true)(i:w.there b o 1)(d:(P.info? k).map (·.size)=some 1)
 (h:wpList P ops Q rest (a.put op.dst Zp) (w.setCells b o [v])):wpList P ops Q (op :: rest) a w:=
 ZH c λ_ l=>by
  have f:=yCb (P:=P) w b o k #[v] i d (by simp[j]);have e:storeVar k ⟨b,o,none⟩ v=storeVar k ⟨b,o,none⟩ (.agg #[v]):=by
   unfold storeVar;rw[hv];rfl
  unfold YV Yb;simp only[ho,hx,g,yA6,yAC,XT,Zj,Yu,e,f];exact l _ _ h
theorem sU(k:op.guard=none)(s t:Zs)(c:Array Yd)(ho:op.op=.call ⟨.value (.tmp s),#[.tmp t],c⟩)(f:ZY)(cap:Array Xu)(x:Xu)(g:a.eval (.tmp s)=.func (.func f) #[] cap)(hx:a.eval (.tmp t)=x)(hf:∀args W,(callFunc f args).run P W=.ok (.enter f args) W)
 {R:Xu->Xs->Prop}(b:XH P f (#[x]++cap) w (Ret R)) (h:∀v w',R v w'->wpList P ops Q rest (a.put op.dst v) w'):wpList P ops Q (op :: rest) a w:=
 ZH k λK i=>by
  have d:(Yb a.eval op).run P w=.ok (.enter f (#[x]++cap)) w:=by
   unfold Yb;rw[ho];have e:(#[Operand.tmp t].map a.eval)=#[x]:=by simp[hx]
   simp only[resolve,g,Deferred.ofValue,XT,Zj,Yu,invoke,e];exact hf _ w
  unfold YV;rw[d,Oper.upon_enter];refine b.mono ?_;rintro e w' ⟨v,rfl,hR⟩;exact i _ _ (h v w' hR)
end
end
section
variable {P:Nat}[NeZero P]{N:Nat}
theorem yE(n:Nat)(l:n<4294967296)(w:Xs):XH prog 182 #[iZ n] w (rZ w λe w'=>∃r,e=sZ r 4 4/\r<w'.heap.size/\Holds encB w' r 0 (gB n)):=by
 have k:(n:Int)/16777216%256=SP.ub (bH n 16777216):=fE n 16777216;have b0:(n:Int)/16777216=SP.ub (bH n 16777216):=oM;clear k;have b1:(n:Int)/65536%256=SP.ub (bH n 65536):=fE n 65536;have o:(n:Int)/256%256=SP.ub (bH n 256):=fE n 256;have m:(n:Int)%256=SP.ub (bH n 1):=rT n;have d:=qT w (bH n 16777216) (bH n 65536) (bH n 256) (bH n 1);have g:Hid (gB n=#[bH n 16777216,bH n 65536,bH n 256,bH n 1]):=rfl;generalize bH n 16777216=c at *;generalize bH n 65536=i at *;generalize bH n 256=j at *;generalize bH n 1=f at *;have b:kZ w (w.alloc (.cells #[.int .u8 (SP.ub c),.int .u8 (SP.ub i),.int .u8 (SP.ub j),.int .u8 (SP.ub f)] 5)):=(XM _ _).alloc (Xx _) _;go_enter func182,ntmps182;go_wp2;go_ret;refine⟨_,rfl,b,_,rfl,by rw[XF];omega,?_⟩;rw[g.out];exact d
theorem Bw(a:Bs)(j:a.size=33)(w:Xs):XH prog 129 #[pvl a] w (rZ w λe w'=>Sm w.heap.size w' e [(1,a)]):=by
 have l:=Hid.mk' (sM j w);obtain⟨g,d⟩:=hE (w.alloc (.cells (aA a).toArray 51));rw[d.out]at l;have K:Hid (Row g w.heap.size (aA a)/\kZ w g):=by rw[<-d.out];exact⟨row_new w _ _,aC w _⟩
 obtain⟨va,f⟩:=hE (pvl a);have i:Hid ((Yl 51 va).run prog w=.ok (jZ w.heap.size) g):=by rw[<-f.out];exact l
 rw[f.out];go_enter func129,ntmps129;go_wp2_with (first|(refine aG (u:=va) (v:=jZ w.heap.size) (w':=g) rfl 51 (.tmp 0) rfl ?_ ?_ ?_;rfl;exact i.out)|fail)
 refine(gwL [pE (pvl a),pE (nv 1),pM (w.heap.size<=·) [(1,a)],pM (w.heap.size<=·) [(1,a)]] (λW=>Row W w.heap.size (aA a)/\kZ w W) (λW W' c h=>⟨h.1.below c,h.2.trans (c.mono h.2.size)⟩)).draws kR kR ⟨
  iN 51 1 w.heap.size 0 (aA a) uCP (by rw[aB j];exact cZ) rfl (λW b=>b.1.2.1) (λ_=>rfl),
  P5 15 #[uZ 1] λW b=>(Kh W).mono (by
   rintro e W' ⟨u,rfl,c,rfl⟩;exact⟨_,rfl,c,rfl⟩),
  eF 0 3 1 4 32 (λx y=>#[x,y]) λx y W hx m b=>by
   obtain rfl:x=pvl a:=hx;obtain rfl:y=nv 1:=m;refine(lJ a j 1 W).mono ?_;rintro e W' ⟨u,rfl,c,k,rfl,n,hR⟩;exact⟨_,rfl,c,Sm.one hR (XB b.2.size n) rfl⟩,
  C3 2 5 id λx W h=>h,yEU⟩ ⟨K.1,K.2.drew⟩ ?_
 intro V o hR b;have n:=mk1 (hR 3 (ZW (Yy kR)));have m:=mk1 (b.2);dsimp only[bY,YH];go_wp2;go_ret;exact⟨_,rfl,m.out,n.out⟩
theorem u9s:(prog.underlying 9).map (·.isRow)=some false:=kR
def pH(n:Nat)(b:Bs):S1:=⟨λv W=>∃r,v=sZ r n n/\r<W.heap.size/\Holds encB W r 0 b,λ_ _ _ c ⟨r,d,k,e⟩=>⟨r,d,Xz k c.size,Holds.below e c k⟩⟩
noncomputable def hpN (P:Nat) [NeZero P] (lb:ByteArray) (i:Nat):Bs:=wr (.some (hpt P lb (gB i).toList):EC.Pt P)
theorem KV(lb:ByteArray)(i:Nat):(hpN P lb i).size=33:=aL _
theorem Ro(C:Fld P)(lb:ByteArray)(f:lb.size<=1000000)(i:Nat)(z:i<4294967296)(k:Nat)(w:Xs)(D:k<w.heap.size)(v:w.cell? ⟨k,0,none⟩=some (.string lb)):
 XH prog 183 #[iZ i,jZ k] w (rZ w λe w'=>Sm w.heap.size w' e [(1,hpN P lb i)]):=by
 obtain⟨T,m⟩:=hE (hpN P lb i);have d:T.size=33:=by rw[<-m.out];exact KV _ _
 rw[m.out];have n:=λ(W:Xs) (q:Option YW) (t s:Nat) (F:PartOk W (.slice q t s) (gB i).toList)=>G6 C lb f q t s (gB i).toList W F
 have A:wr (.some (hpt P lb (gB i).toList):EC.Pt P)=T:=m.out;rw[A]at n;have E:=Hid.mk' n;have B:=mk1 (v);have j:=Hid.mk' (λW=>yE i z W);go_enter func183,ntmps183;go_wp2_with fail
 refine(gwL [pE (.string lb),pE (iZ i),pH 4 (gB i),pE (pvl T),pM (w.heap.size<=·) [(1,T)],pM (w.heap.size<=·) [(1,T)]] (λW=>W.cell? ⟨k,0,none⟩=some (.string lb)/\kZ w W) (λW W' b h=>⟨by rw[b.cell (p:=⟨k,0,none⟩) (Xz D h.2.size)];exact h.1,h.2.trans (b.mono h.2.size)⟩)).draws kR kR ⟨
  Su 9 1 k 0 (.string lb) u9s rfl (λW c=>c.1) (λ_=>rfl),
  gO 0 (iZ i),
  oG 1 5 182 (λx=>#[x]) (λx W hx c=>by
   obtain rfl:x=iZ i:=hx;refine(j W).mono ?_;rintro e W' ⟨u,rfl,b,r,rfl,o,l⟩;exact⟨_,rfl,b,r,rfl,o,l⟩),
  eF 0 4 2 6 130 (λx y=>#[x,y]) (λx y W hx a c=>by
   obtain rfl:x=.string lb:=hx;obtain⟨r,rfl,o,l⟩:=a;refine(E W _ _ _ (Eg l)).mono ?_;rintro e W' ⟨u,rfl,b,rfl⟩;exact⟨_,rfl,b,rfl⟩),
  oG 3 7 129 (λx=>#[x]) (λx W hx c=>by
   obtain rfl:x=pvl T:=hx;refine(Bw T d W).mono ?_;rintro e W' ⟨u,rfl,b,o⟩;exact⟨_,rfl,b,o.q.mono λg l=>XB c.2.size l⟩),
  C3 4 8 id (λx W h=>h),yEU⟩ ⟨B.out,(XM _ w).drew⟩ ?_
 intro V a hR c;have o:=mk1 (hR 5 (ZW (Yy kR)));have l:=mk1 (c.2);dsimp only[bY,YH];simp only[XK,Xt,Xv,Xw];go_wp2;go_ret;exact⟨_,rfl,l.out,o.out⟩
theorem uSu:prog.underlying 148=some (.slice 82):=kR
theorem iSu:(prog.info? 82).map (λi=>(i.size,decide (i.bytes<=4000),i.zero.isSome))=some (1,true,true):=kR
theorem UL:(prog.info? 82).map (·.size)=some 1:=kR
structure LsI(w W:Xs)(K n i:Nat)(T:Nat->List (Nat × Bs)):Prop where
 bl:kZ w W
 lt:K<W.heap.size
 th:W.there K 0 n
 ge:w.heap.size<=K
 el:∀j,j<i->∃x,W.cell? ⟨K,j,none⟩=some x/\SmQ (λg=>w.heap.size<=g/\g≠K) W x (T j)
theorem LsI.grow{w W W':Xs}{K n i:Nat}{T:Nat->List (Nat × Bs)}(h:LsI w W K n i T)(k:kZ W W'):LsI w W' K n i T:=
 ⟨h.bl.trans (k.mono h.bl.size),Xz h.lt k.size,dH h.th k h.lt,h.ge,λj b=>by
  obtain⟨x,c,d⟩:=h.el j b;exact⟨x,by rw[k.cell (p:=⟨K,j,none⟩) h.lt];exact c,d.keep (Kq.of_below k)⟩⟩
theorem Kq.set{Q:Nat->Prop}{W:Xs}{K o:Nat}{vs:List Xu}(k:∀g,Q g->g≠K):Kq Q W (W.setCells K o vs):=⟨by rw[setCells_size];exact Xx _,λg b _=>aE K vs o W g (k g b)⟩
theorem LsI.put{w W:Xs}{K n i:Nat}{T:Nat->List (Nat × Bs)}{x:Xu}(h:LsI w W K n i T)(f:i<n)(hx:SmQ (λg=>w.heap.size<=g/\g≠K) W x (T i)):LsI w (W.setCells K i [x]) K n (i+1) T:=by
 have c:Kq (λg=>w.heap.size<=g/\g≠K) W (W.setCells K i [x]):=Kq.set λg d=>d.2
 refine⟨RG.below_setCells h.ge _ _ _ h.bl,by rw[setCells_size];exact h.lt,Y2 h.th _ _ _,h.ge,λj p=>?_⟩;by_cases e:j=i
 ·subst e;refine⟨x,?_,hx.keep c⟩;have:=YM W K j [x] (λt b=>by
   have k:t=0:=by simp at b;omega
   subst k;have:=h.th j f;rwa[XD]at this) 0 x rfl
  exact this
 ·obtain⟨y,m,o⟩:=h.el j oM;refine⟨y,?_,o.keep c⟩;have l:W.rangeAt K j [y]:=λt u b=>by
   have k:t=0:=by have:=(XG.1 b).1;simp at this;omega
   subst k;obtain rfl:y=u:=by simpa using b
   exact m
  exact Yk l K i [x] (X0 (by simp;omega)) 0 y rfl
theorem LsI.gl{w W:Xs}{K n:Nat}{T:Nat->List (Nat × Bs)}(h:LsI w W K n n T):GLq (w.heap.size<=·) W (sZ K n n) n T:=
 ⟨K,0,n,rfl,Xx _,h.ge,h.lt,λj k=>by
  obtain⟨x,b,c⟩:=h.el j k;exact⟨x,by rw[XD];exact b,c.mono λg d=>d.1⟩⟩
theorem SmQ.one{Q:Nat->Prop}{W:Xs}{v:Xu}{l:List (Nat × Bs)}(h:SmQ Q W v l):v.cells=#[v]/\v.oneCell'=true:=by
 obtain⟨g,c,rfl,-⟩:=h;exact⟨rfl,rfl⟩
theorem AH(n:Nat)(G:n<=512)(f:ZY)(cap:Array Xu)(hf:∀args W,(callFunc f args).run prog W=.ok (.enter f args) W)(T:Nat->List (Nat × Bs))(w:Xs)
 (z:∀i W,i<n->kZ w W->XH prog f (#[iZ i]++cap) W (rZ W λe W'=>Sm W.heap.size W' e (T i))) :
 XH prog 147 #[iZ n,.func (.func f) #[] cap] w (rZ w λe w'=>GLq (w.heap.size<=·) w' e n T):=by
 obtain⟨C0,d,p⟩:=CO uSu iSu n G;have k:=p w;obtain⟨K,v⟩:∃K,Hid (w.heap.size=K):=⟨_,rfl⟩
 obtain⟨u,b⟩:∃u,Hid (w.alloc (.cells C0.toArray 82)=u):=⟨_,rfl⟩
 have r:Ar w u K 1 n 0 (λ_=>[]):=Ar.new _ d b.out v.out;rw[b.out,v.out]at k;have E:Hid (LsI w u K n 0 T):=⟨r.bl,r.lt,by have:=r.th;rwa[ZU]at this,by rw[v.out];exact Xx _,λj F=>absurd F (ZV _)⟩
 have J:=Hid.mk' z;have I:=Hid.mk' hf;obtain⟨fv,o⟩:=hE (yCG (.func f) #[] cap);rw[o.out];clear r d p z hf b v;go_enter func147,ntmps147;go_wp2;clear k;go_loopg [11] n (λm s11 W=>∃i:Nat,i+m=n/\s11=iZ i/\Hid (LsI w W K n i T))
 case atStart=>exact⟨0,oM,rfl,E⟩
 case round =>
  obtain⟨i,N,rfl,c⟩:=hrel;by_cases s:i<n
  ·have x:(i:Int)<(n:Int):=oM;have y:=atS K 0 n n i s;rw[show 0+1*i=i by omega]at y;have L:=Hid.mk' s;go_wp2_with (first|(refine sU rfl 16 17 _ rfl f cap (iZ i) ?_ ?_ I.out (J i wr L.out c.bl) ?_;exact o.symm;rfl;intro e W' hR;refine yBV ?_)|fail)
   obtain⟨D,M⟩:=hR;have A:=c.grow D;have l:SmQ (λg=>w.heap.size<=g/\g≠K) W' e (T i):=M.q.mono λg C=>⟨XB (XB c.bl.size (Xx _)) C,by have:=c.lt;omega⟩
   have a:=mk1 (A.put s l);have H:Hid (W'.there K i 1):=λt O=>by
    have q:t=0:=oM;subst q;have:=A.th i s;rwa[XD]at this
   have B:=Hid.mk' l.one;obtain⟨P,q⟩:=hE (W'.setCells K i [e]);rw[q.out]at a;show wpList _ _ _ _ _ _;go_wp2_with (first|(refine qI rfl 82 _ _ rfl K i e ?_ ?_ B.1 B.2 H.out UL ?_;rfl;rfl;rw[q.out])|fail)
   go_roundg (gk-1)
   case measure=>omega
   case rel=>exact⟨i+1,oM,rfl,a⟩
  ·have x:¬(i:Int)<(n:Int):=oM;obtain rfl:i=n:=oM;have l:=mk2 c.bl c.gl;go_wp2;go_ret;exact⟨_,rfl,l.1,l.2⟩
theorem uQ(C:Fld P)(lb:ByteArray)(f:lb.size<=1000000)(n:Nat)(s:n<=512)(w:Xs):
 XH prog 128 #[.string lb,iZ n] w (rZ w λe w'=>GLq (w.heap.size<=·) w' e n (λi=>[(1,hpN P lb i)])):=by
 obtain⟨j,b⟩:=hE (w.alloc (.cells #[.string lb] 9));obtain⟨k,m⟩:=hE (w.heap.size);have q:kZ w j:=by rw[<-b.out];exact aC _ _
 have hR:Row j k [.string lb]:=by rw[<-b.out,<-m.out];exact row_new w _ _
 have HL:=Hid.mk' (AH n s 183 #[jZ k] (λ_ _=>kR) (λi=>[(1,hpN P lb i)]) j (λi W u l=>Ro C lb f i oM k W (Xz hR.1 l.size) (by rw[l.cell (p:=⟨k,0,none⟩) hR.1];exact hR.2.1 0 _ rfl)));have c:=Hid.mk' q;go_enter func128,ntmps128;go_wp2_with fail
 rw[b.out,m.out];refine HL.mono ?_;rintro e t ⟨v,rfl,d,hG⟩;have r:=mk2 (c.trans (d.mono c.size)) (hG.mono λg o=>XB c.size o);go_wp2;go_ret;exact⟨_,rfl,r.out⟩
noncomputable def hpU (P:Nat) [NeZero P]:Bs:=wr (.some (hpt P ⟨#[105,110,110,101,114]⟩ []):EC.Pt P)
theorem iGr:(prog.info? 150).map (·.size)=some 3:=kR
theorem uGr:(prog.underlying 150).map (·.isRow)=some true:=kR
noncomputable def gGT (P:Nat) [NeZero P] (i:Nat):List (Nat × Bs):=[(1,hpN P ⟨#[108,101,102,116]⟩ i)]
noncomputable def hGT (P:Nat) [NeZero P] (i:Nat):List (Nat × Bs):=[(1,hpN P ⟨#[114,105,103,104,116]⟩ i)]
noncomputable def uGT (P:Nat) [NeZero P]:List (Nat × Bs):=[(1,hpU P)]
theorem yO(C:Fld P)(n:Nat)(S:n<=512)(w:Xs):
 XH prog 76 #[iZ n] w (rZ w λe w'=>GRq (w.heap.size<=·) w' e n (gGT P) (hGT P) (uGT P)):=by
 have I:=λW=>uQ C ⟨#[108,101,102,116]⟩ dC n S W
 have K:=λW=>uQ C ⟨#[114,105,103,104,116]⟩ dC n S W
 have Q:=λW:Xs=>G6 C ⟨#[105,110,110,101,114]⟩ dC none 0 0 [] W ⟨none,0,0,0,#[],rfl,rfl,Xx _,Zh _,X9 rfl⟩
 have Y:wr (.some (hpt P ⟨#[105,110,110,101,114]⟩ []):EC.Pt P)=hpU P:=rfl;rw[Y]at Q;have R:=λW=>Bw (hpU P) (aL _) W
 obtain⟨U,x⟩:∃U,Hid (hpU P=U):=⟨_,rfl⟩
 have X:uGT P=[(1,U)]:=by unfold uGT;rw[x.out]
 rw[X];rw[x.out]at Q R;have u:=Hid.mk' (YP I (YP K (YP Q R)));have Z:(λi=>[(1,hpN P ⟨#[108,101,102,116]⟩ i)])=gGT P:=rfl;have e3:(λi=>[(1,hpN P ⟨#[114,105,103,104,116]⟩ i)])=hGT P:=rfl;rw[Z,e3]at u;generalize gGT P=G at u⊢;generalize hGT P=H at u⊢;clear I K Q R Y X Z e3 C S;obtain⟨F,y⟩:∃F,Hid (w.alloc (.cells #[.slice none 0 0,.slice none 0 0,.slice none 0 0] 150)=F):=⟨_,rfl⟩
 obtain⟨k,O⟩:∃k,Hid (w.heap.size=k):=⟨_,rfl⟩
 have M:Hid (kZ w F/\Row F k [.slice none 0 0,.slice none 0 0,.slice none 0 0]):=by rw[<-y.out,<-O.out];exact⟨aC _ _,row_new w _ _⟩
 go_enter func76,ntmps76;go_wp2_with fail
 rw[y.out,O.out];refine(u.1 F).mono ?_;rintro e N ⟨v1,rfl,z,hG⟩;have a:Hid (kZ w N/\Row N k [.slice none 0 0,.slice none 0 0,.slice none 0 0]/\GLq (k < ·) N v1 n G):=⟨M.1.trans (z.mono M.1.size),M.2.below z,hG.mono λg j=>Xz M.2.1 j⟩
 go_wp2_with fail
 refine(u.2.1 N).mono ?_;rintro e D ⟨v2,rfl,s,hG⟩;have J:Hid (kZ w D/\Row D k [.slice none 0 0,.slice none 0 0,.slice none 0 0]/\GLq (k < ·) D v1 n G/\GLq (k < ·) D v2 n H):=⟨a.1.trans (s.mono a.1.size),a.2.1.below s,a.2.2.keep (Kq.of_below s),hG.mono λg j=>Xz a.2.1.1 j⟩
 go_wp2_with fail
 refine(u.2.2.1 D).mono ?_;rintro e L ⟨v,rfl,f,rfl⟩;have t:Hid (kZ w L/\Row L k [.slice none 0 0,.slice none 0 0,.slice none 0 0]/\GLq (k < ·) L v1 n G/\GLq (k < ·) L v2 n H):=⟨J.1.trans (f.mono J.1.size),J.2.1.below f,J.2.2.1.keep (Kq.of_below f),J.2.2.2.keep (Kq.of_below f)⟩
 obtain⟨vu,B⟩:=hE (pvl U);have HO:Hid (∀W:Xs,XH prog 129 #[vu] W (rZ W λe w'=>Sm W.heap.size w' e [(1,U)])):=by rw[<-B.out];exact u.2.2.2
 rw[B.out];go_wp2_with fail
 refine(HO L).mono ?_;rintro e d ⟨v3,rfl,b,hS⟩;have c:Hid (kZ w d/\Row d k [.slice none 0 0,.slice none 0 0,.slice none 0 0]/\GLq (k < ·) d v1 n G/\GLq (k < ·) d v2 n H/\SmQ (k < ·) d v3 [(1,U)]):=⟨t.1.trans (b.mono t.1.size),t.2.1.below b,t.2.2.1.keep (Kq.of_below b),t.2.2.2.keep (Kq.of_below b),hS.q.mono λg j=>Xz t.2.1.1 j⟩
 clear b hS t HO;obtain⟨l,p,c1,rfl,-⟩:=c.2.2.1;obtain⟨o,m,c2,rfl,-⟩:=c.2.2.2.1;obtain⟨q,r,rfl,-⟩:=c.2.2.2.2;obtain⟨A,E⟩:∃A,Hid (d.setCells k 0 [.slice (some ⟨l,p,none⟩) n c1,.slice (some ⟨o,m,none⟩) n c2,sZ q [(1,U)].length r]=A):=⟨_,Hid.mk' rfl⟩
 have V:Hid (kZ w A/\Row A k [.slice (some ⟨l,p,none⟩) n c1,.slice (some ⟨o,m,none⟩) n c2,sZ q [(1,U)].length r]/\GRq (w.heap.size<=·) A (.agg #[.slice (some ⟨l,p,none⟩) n c1,.slice (some ⟨o,m,none⟩) n c2,sZ q [(1,U)].length r]) n G H [(1,U)]):=by
  rw[<-E.out];have T:∀g,k<g->w.heap.size<=g:=λg j=>by rw[O.out];omega
  have kq:Kq (k < ·) d (d.setCells k 0 [.slice (some ⟨l,p,none⟩) n c1,.slice (some ⟨o,m,none⟩) n c2,sZ q [(1,U)].length r]):=Kq.set λg j=>Nat.ne_of_gt j
  exact⟨RG.below_setCells (by rw[O.out];exact Xx _) _ _ _ c.1,c.2.1.put rfl,_,_,_,rfl,(c.2.2.1.keep kq).mono T,(c.2.2.2.1.keep kq).mono T,(c.2.2.2.2.keep kq).mono T⟩
 have T:=mk1 (c.2.1.2.2);go_wp2_with (refine bF (v:=.agg #[.slice (some ⟨l,p,none⟩) n c1,.slice (some ⟨o,m,none⟩) n c2,sZ q [(1,U)].length r]) (w':=d) rfl (.build 150 _) rfl ?_ ?_;kernel_rfl;refine yBV ?_)
 show wpList _ _ _ _ _ _;refine X8 rfl 150 _ _ rfl k 0 #[.slice (some ⟨l,p,none⟩) n c1,.slice (some ⟨o,m,none⟩) n c2,sZ q [(1,U)].length r] ?_ ?_ T.out iGr ?_ ?_
 ·kernel_rfl
 ·kernel_rfl
 ·kernel_rfl
 rw[show(#[.slice (some ⟨l,p,none⟩) n c1,.slice (some ⟨o,m,none⟩) n c2,sZ q [(1,U)].length r]:Array Xu).toList=[.slice (some ⟨l,p,none⟩) n c1,.slice (some ⟨o,m,none⟩) n c2,sZ q [(1,U)].length r] from rfl,E.out];go_wp2;refine XE (aF 2 150 rfl V.2.1 rfl uGr iGr) rfl ?_;exact⟨_,rfl,V.1,V.2.2⟩
theorem u22:(prog.underlying 23).map (·.isRow)=some false:=kR
theorem Vx(k o n c i:Nat)(b:i<n)(w:Xs):(Yi 27 (.slice (some ⟨k,o,none⟩) n c) (iZ i)).run prog w=.ok (.pointer (some ⟨k,o+i,none⟩)) w:=by
 go_simp
theorem mC(k o n c i:Nat)(b:i<n)(w:Xs):(Yi 143 (.slice (some ⟨k,o,none⟩) n c) (iZ i)).run prog w=.ok (.pointer (some ⟨k,o+4*i,none⟩)) w:=by
 go_simp
theorem WA(N:Nat)(l:N<=512):∃C0:List Xu,C0.length=4*N/\∀w:Xs,(yAb 143 (iZ N) (iZ N)).run prog w=.ok (sZ w.heap.size N N) (w.alloc (.cells C0.toArray 44)):=by
 have d:prog.underlying 143=some (.slice 44):=kR;have e:(prog.info? 44).map (λi=>(i.size,decide (i.bytes<=4000),i.zero.isSome))=some (4,true,true):=kR;obtain⟨i,b,k⟩:=XA.1 e;simp only[Ze.injEq,decide_eq_true_eq]at k;obtain⟨c,f,n⟩:=k;obtain⟨z,g⟩:=YB.1 n;refine⟨(madeCells z.cells (N*4)).toList,by rw[XP,yBk,YF],λw=>?_⟩;have m:(i.bytes:Int)*(N:Int)<=281474976710656:=by
  have:i.bytes*N<=4000*512:=ZB f l;have j:((i.bytes*N:Nat):Int)<=281474976710656:=oM;rwa[Z2]at j
 have:=run_make (P:=prog) w 143 44 i z d b g .i64 .i64 (N:Int) (N:Int) oM oM m oM;rw[yAz,c]at this;rw[yAc];exact this
def Xp(N:Nat)(w:Xs)(n:Nat)(L:Nat->Bs)(e:Xu)(w':Xs):Prop:=
 ((∃j,j<n/\rq N (L j)=none)/\kZ w w'/\e=.tuple #[.slice none 0 0,.bool false]) \/
 ((∀j,j<n->(rq N (L j)).isSome=true)/\∃k C,Made w k C w'/\Rows 4 n (λj=>wn ((rq N (L j)).getD 0)) n C/\e=.tuple #[sZ k n n,.bool true])
theorem Pi(O:Ord N)(n cap:Nat)(hn:n<=512)(q:Option YW)(L:Nat->Bs)(w:Xs)(hA:Args w q n L):XH prog 161 #[(.func (.func 11) #[] #[]),.slice q n cap] w (Ret λe w'=>Xp N w n L e w'):=by
 obtain⟨C,h6,M⟩:=WA n hn;go_enter func161,ntmps161;refine RG.M.enter [(0,.v (.func (.func 11) #[] #[])),(1,.v (.slice q n cap))] 35 kR ?_;intro a0 M0;repeat refine Xy ?_
 refine M0.U [.x (.slice none 0 0),.x (.bool false)] [0,1] ⟨st,st,yEU⟩ ?_;intro a1 w1 M1;repeat refine Xy ?_
 refine M1.t [.x 11 [] (.slice q n cap),.x 12 [(11,0)] (iZ n),⟨some 13,[(12,1)],.s 0 n n,.make 0⟩,.s 6 [(13,2)] (.s 0 n n)] [(2,C)] [] [C] [(0,.v (.func (.func 11) #[] #[])),(1,.v (.slice q n cap)),(6,.s 0 n n)] ⟨st,st,nD 0 rfl _ rfl 143 44 12 12 n rfl rfl sx sx M,st,yEU⟩ ?_;intro j2 a2 w2 M2;repeat refine Xy ?_
 refine M2.U [.x (.slice q n cap),.x (iZ n),.x (iZ 0)] [0,6,14,15,16] ⟨st,st,st,yEU⟩ ?_;intro a3 w3 M3;repeat refine Xy ?_
 refine Y6 ?_;refine wp_loop_ghost (λm a wr=>∃(i:Nat) (C:List Xu) (S:Nat),i+m=n/\(∀j,j<i->(rq N (L j)).isSome=true)/\Rows 4 n (λj=>wn ((rq N (L j)).getD 0)) i C/\RG.M w w.heap.size [] 35 [C] [S] [(0,.v (.func (.func 11) #[] #[])),(6,.s 0 n n),(14,.v (.slice q n cap)),(15,.v (iZ n)),(16,.v (iZ i))] a wr) n ⟨0,C,_,oM,λj hj=>oM,⟨h6,λj r hj=>oM⟩,M3⟩ ?_;clear M;intro m' a wr;rintro⟨i,C,S,ha,g,hR,A⟩;by_cases x:i<n
 ·obtain⟨z,U,Q,hc⟩:=hA oM;subst U;obtain⟨v,hv,G⟩:=hc i x;have l:w.cell? ⟨z,0+i,none⟩=some v:=by rw[XD];exact hv
  have y:=λw' (K:BelX w.heap.size [] w w')=>wE O v (L i) w' (G.below K.below)
  obtain⟨m,Y⟩:∃m,m=(rq N (L i)).getD 0:=⟨_,rfl⟩
  cases u:(rq N (L i)).isSome with
  | true =>
   have E:∀w',BelX w.heap.size [] w w'->XH prog 11 #[v] w' (Ret λe D=>kZ w' D/\e=.tuple #[nv m,.bool true]):=λw' K=>by
    have h:=y w' K;rw[u,<-Y]at h;exact h
   have H:=hR.len;have t:0+4*i+(wn m).length<=C.length:=by rw[H];show 0+4*i+4<=4*n;omega
   obtain⟨F,p⟩:∃c,rep C (0+4*i) (wn m)=c:=⟨_,rfl⟩
   have Z:=p ▸ RG.rep_at t;have T:F.length=C.length:=p ▸ cY t;have W:Rows 4 n (λj=>wn ((rq N (L j)).getD 0)) (i+1) F:=by
    have:=hR.next x rfl;rw[<-p,Y];exact this
   repeat refine Xy ?_
   refine A.U [.x (.bool true)] [0,6,14,15,16,17] ⟨aO rfl .lss 3 3 16 15 (iZ i) (iZ n) (.bool true) rfl rfl sx sx (λw=>kR) (gW x),yEU⟩ ?_;intro R P k;repeat refine Xy ?_
   refine Yx k.ev ?_;refine YR ?_;refine Xy ?_;refine Y6 ?_;repeat refine Xy ?_
   refine k.U [.x (iZ i),.x (.pointer (some ⟨z,0+i,none⟩)),.x v,.x (iZ i),.x v] [0,6,7,8,14,15,16] ⟨st,aY rfl 27 14 16 rfl (.v (sZ z n cap)) (iZ i) sx sx (λμ w=>Vx _ 0 _ _ i x w),bO rfl z (0+i) Q X5 23 19 rfl v rfl sx l u22,st,st,yEU⟩ ?_;intro J I d;repeat refine Xy ?_
   refine d.T [.x (.func (.func 11) #[] #[]),.x v,.c (.tuple #[nv m,.bool true]),.x (.tuple #[nv m,.bool true]),.x (nv m),.x (.bool true),.m 1,.u 1,.x (.bool true)] [(6,RG.z 4)] [(1,7,wn m)] [C,wn m] [0,6,7,9,10,14,15,16] ⟨st,st,clB (λ_ _=>kR) E,st,st,st,mk 1 44,RG.pt i40,st,yEU⟩ ?_;intro X h1 h3 B;repeat refine Xy ?_
   refine B.U [.x (.bool true),.x (.bool false)] [0,6,7,9,14,15,16,28] ⟨st,st,yEU⟩ ?_;intro h7 h0 o;repeat refine Xy ?_
   refine X7 o.ev ?_;refine YR ?_;repeat refine Xy ?_
   refine o.tx [.s 29 [] (.s 0 n n),.x 30 [] (iZ i),.x 31 [] (nv m),.s 32 [(29,0),(30,1)] (.p 0 (0+4*i)),.u [(32,3),(31,2)] 0] [] [(0,4,F)] [F,wn m] [(0,.v (.func (.func 11) #[] #[])),(6,.s 0 n n),(14,.v (sZ z n cap)),(15,.v (iZ n)),(16,.v (iZ i))] kR (congrArg (λn=>[n]) T) ⟨st,st,ld u40 i40,aY rfl 143 29 30 rfl (.s 0 n n) (iZ i) sx sx (λμ w=>mC _ 0 _ _ i x w),fO 0 (0+4*i) rfl _ rfl 44 (.tmp 32) (.tmp 31) (wn m) rfl rfl sx sx t Z i40 rfl,yEU⟩ ?_;intro h4 h5 f;repeat refine Xy ?_
   refine f.U [.x (iZ ((i+1:Nat):Int)),.x (iZ ((i+1:Nat):Int))] [0,6,14,15,16] ⟨aN rfl .add 3 3 16 (iZ i) (iZ 1) (iZ ((i+1:Nat):Int)) rfl rfl sx (λw=>kR) (vZ i 1 oM oM),st,yEU⟩ ?_;intro h9 h8 V;show ∃n',_;exact⟨m'-1,oM,i+1,F,S,oM,λj hj=>(by
    by_cases h2:j=i
    ·rw[h2];exact u
    ·exact g j oM),W,RG.M.drop (cs:=[F]) (cs2:=[_]) (ks:=[S]) (ks2:=[_]) V rfl rfl⟩
  | false =>
   have E:∀w',BelX w.heap.size [] w w'->XH prog 11 #[v] w' (Ret λe D=>kZ w' D/\e=.tuple #[nv m,.bool false]):=λw' K=>by
    have h:=y w' K;rw[u,<-Y]at h;exact h
   repeat refine Xy ?_
   refine A.U [.x (.bool true)] [0,14,16,17] ⟨aO rfl .lss 3 3 16 15 (iZ i) (iZ n) (.bool true) rfl rfl sx sx (λw=>kR) (gW x),yEU⟩ ?_;intro R P k;repeat refine Xy ?_
   refine Yx k.ev ?_;refine YR ?_;refine Xy ?_;refine Y6 ?_;repeat refine Xy ?_
   refine k.U [.x (iZ i),.x (.pointer (some ⟨z,0+i,none⟩)),.x v,.x (iZ i),.x v] [0,8] ⟨st,aY rfl 27 14 16 rfl (.v (sZ z n cap)) (iZ i) sx sx (λμ w=>Vx _ 0 _ _ i x w),bO rfl z (0+i) Q X5 23 19 rfl v rfl sx l u22,st,st,yEU⟩ ?_;intro J I d;repeat refine Xy ?_
   refine d.T [.x (.func (.func 11) #[] #[]),.x v,.c (.tuple #[nv m,.bool false]),.x (.tuple #[nv m,.bool false]),.x (nv m),.x (.bool false),.m 1,.u 1,.x (.bool false)] [(6,RG.z 4)] [(1,7,wn m)] [C,wn m] [10] ⟨st,st,clB (λ_ _=>kR) E,st,st,st,mk 1 44,RG.pt i40,st,yEU⟩ ?_;intro X h1 h3 B;repeat refine Xy ?_
   refine B.U [.x (.bool false),.x (.bool true)] [28] ⟨st,st,yEU⟩ ?_;intro h7 h0 o;repeat refine Xy ?_
   refine Yx o.ev ?_;repeat refine Xy ?_
   refine o.U [.x (.slice none 0 0),.x (.bool false)] [4,5] ⟨st,st,yEU⟩ ?_;intro h4 h5 f;refine Y5 ?_;refine XE (v:=.tuple #[.slice none 0 0,.bool false]) (dQ 4 5 rfl (.slice none 0 0) (.bool false) f.av f.av) f.sl.defers ?_;exact⟨_,rfl,X9 ⟨⟨i,x,by simpa using u⟩,f.st.bel.below,rfl⟩⟩
 ·have f:i=n:=oM;rw[f]at g hR;repeat refine Xy ?_
  refine A.U [.x (.bool false)] [6,17] ⟨aO rfl .lss 3 3 16 15 (iZ i) (iZ n) (.bool false) rfl rfl sx sx (λw=>kR) (oC x),yEU⟩ ?_;intro R P k;repeat refine Xy ?_
  refine X7 k.ev ?_;refine wp_exit ?_;dsimp only[Exit.then,Exit.inBlock];rw[yES rfl];repeat refine Xy ?_
  refine k.U [.s (.s 0 n n),.s (.s 0 n n),.x (.bool true)] [4,5] ⟨st,st,st,yEU⟩ ?_;intro J I d;refine Y5 ?_;refine XE (v:=_) (dQ 4 5 rfl _ (.bool true) (d.at (s:=.s 0 n n)) d.av) d.sl.defers ?_;exact⟨_,rfl,X0 ⟨g,_,C,d.st.made (b:=0) rfl,hR,rfl⟩⟩
def prS(N:Nat)(a b:Nat->Nat):Nat->Nat
 | 0=>0
 | i+1=>sPl N (prS N a b i) (sTi N (b i) (a i))
theorem Bp(k:0<N)(a b:Nat->Nat):∀i,prS N a b i<N
 | 0=>k
 | _+1=>Y9 _ k
structure CbS(w W:Xs)(N k4 k5 i:Nat)(a b:Nat->Nat):Prop where
 bl:kZ w W
 r4:Row W k4 [uZ 0,uZ 0,uZ 0,uZ 0]
 r5:Row W k5 (wn (prS N a b i))
theorem CbS.grow{w W W':Xs}{c d i:Nat}{a b:Nat->Nat}(h:CbS w W N c d i a b)(k:kZ W W'):CbS w W' N c d i a b:=
 ⟨h.bl.trans (k.mono h.bl.size),h.r4.below k,h.r5.below k⟩
theorem CbS.drew{w W:Xs}{k c i:Nat}{a b:Nat->Nat}(h:CbS w W N k c i a b):CbS w W.drew N k c i a b:=⟨h.bl.drew,h.r4,h.r5⟩
theorem wn0:wn 0=[uZ 0,uZ 0,uZ 0,uZ 0]:=kR
theorem aP{W:Xs}{k K o:Nat}{vs us:List Xu}(h:Row W k vs)(b:k≠K):Row (W.setCells K o us) k vs:=aS h (by rw[setCells_size];exact Xx _) (aE K us o W k b)
theorem CbS.put{w W:Xs}{c k i:Nat}{a b:Nat->Nat}(h:CbS w W N c k i a b)(e:w.heap.size<=k)(d:c≠k):CbS w (W.setCells k 0 (wn (prS N a b (i+1)))) N c k (i+1) a b:=
 ⟨RG.below_setCells e _ _ _ h.bl,aP h.r4 d,h.r5.put rfl⟩
theorem BP(O:Ord N){Q:Nat->Prop}(n:Nat)(hn:n<=512)(a b:Nat->Nat)(ha:∀i,i<n->a i<N)(B:∀i,i<n->b i<N)(va vb:Xu)(w:Xs)(h1:SLq Q w va n a)(h2:SLq Q w vb n b):
 XH prog 87 #[va,vb] w (rZ w λe w'=>e=nv (prS N a b n)):=by
 obtain⟨S,o1,c1,rfl,-,-,h6,h0⟩:=h1;obtain⟨r,t,c2,rfl,-,-,T,Z⟩:=h2;obtain⟨c,A⟩:∃k,Hid (w.heap.size=k):=⟨_,rfl⟩
 obtain⟨w1,J⟩:∃w1,Hid ((w.alloc (.cells #[uZ 0,uZ 0,uZ 0,uZ 0] 44)).alloc (.cells #[uZ 0,uZ 0,uZ 0,uZ 0] 44)=w1):=⟨_,rfl⟩
 have K1:Hid (CbS w w1 N c (c+1) 0 a b):=by
  rw[<-J.out,<-A.out];have hR:=row_new (w.alloc (.cells #[uZ 0,uZ 0,uZ 0,uZ 0] 44)) [uZ 0,uZ 0,uZ 0,uZ 0] 44;rw[XF]at hR;exact⟨(aC w _).alloc (by rw[XF];omega) _,(row_new w _ _).alloc _,by show Row _ _ (wn 0);rw[wn0];exact hR⟩
 have f:Hid (Ord N/\(∀i,i<n->a i<N)/\(∀i,i<n->b i<N)/\(∀j,j<n->w.rangeAt S (o1+4*j) (wn (a j)))/\(∀j,j<n->w.rangeAt r (t+4*j) (wn (b j)))/\S<w.heap.size/\r<w.heap.size/\w.heap.size<=c):=⟨O,ha,B,h0,Z,h6,T,by rw[A.out];exact Xx _⟩
 obtain⟨d,U,X⟩:=XA.1 u40;have HD:Hid (prog.underlying 44=some d/\d.isRow=true):=⟨U,X⟩
 clear O ha B h0 Z h6 T U X;go_enter func87,ntmps87;go_wp2;rw[J.out,A.out];clear J A;go_loopg [10] n (λm s10 W=>∃i:Nat,i+m=n/\s10=iZ i/\Hid (CbS w W N c (c+1) i a b))
 case atStart=>exact⟨0,oM,rfl,K1⟩
 case round =>
  clear K1;obtain⟨i,h9,rfl,E⟩:=hrel;by_cases P:i<n
  ·have h8:(i:Int)<(n:Int):=oM;have hc:(i:Int)<=600:=oM;have HL:=Hid.mk' P;have he:=mC S o1 n c1 i P;have B0:Hid (wr.rangeAt S (o1+4*i) (wn (a i))):=RG.range_below (f.2.2.2.1 i P) E.bl f.2.2.2.2.2.1;obtain⟨M,z⟩:∃k,Hid (wr.heap.size=k):=⟨_,rfl⟩
   obtain⟨R,I⟩:∃R,Hid (wr.alloc (.cells #[uZ 0,uZ 0,uZ 0,uZ 0] 44)=R):=⟨_,rfl⟩
   obtain⟨W2,K⟩:∃W2,Hid (R.setCells M 0 (wn (a i))=W2):=⟨_,rfl⟩
   have F1:Hid (Row R M [uZ 0,uZ 0,uZ 0,uZ 0]/\kZ wr R):=by rw[<-I.out,<-z.out];exact⟨row_new wr _ _,aC wr _⟩
   have F2:Hid (Row W2 M (wn (a i))/\CbS w W2 N c (c+1) i a b):=by
    rw[<-K.out];exact⟨F1.1.put rfl,E.grow (RG.below_setCells (by rw[z.out];exact Xx _) _ _ _ F1.2)⟩
   obtain⟨va,h7⟩:∃v,Hid (X6 (wn (a i)).toArray=v):=⟨_,rfl⟩
   have HO:Hid ((wn (a i)).toArray.all (·.oneCell')=true):=aI _;clear E;go_wp2_with (first|(refine Yv rfl 44 _ rfl S (o1+4*i) ?_ (wn (a i)) d ?_ ?_ ?_ ?_ ?_;rfl;exact B0.out;exact HD.1;exact HD.2;exact i40;rw[h7.out])|(refine bF (v:=jZ M) (w':=R) rfl (.alloc 44) rfl ?_ ?_;(rw[<-I.out,<-z.out];kernel_rfl))|(refine X8 rfl 44 _ _ rfl M 0 (wn (a i)).toArray ?_ ?_ ?_ ?_ ?_ ?_;rfl;exact h7.symm;exact F1.1.2.2;exact i40;exact HO.out;rw[show(wn (a i)).toArray.toList=wn (a i) from rfl,K.out])|fail)
   clear I K z F1 HO;obtain⟨s,H⟩:∃s,Hid (prS N a b i=s):=⟨_,rfl⟩
   have HN:Hid (s<N/\a i<N/\b i<N):=⟨by rw[<-H.out];exact Bp f.1.pos a b i,f.2.1 i P,f.2.2.1 i P⟩
   obtain⟨p,F⟩:∃p,Hid (sTi N (b i) (a i)=p):=⟨_,rfl⟩
   obtain⟨q,g⟩:∃q,Hid (sPl N s p=q):=⟨_,rfl⟩
   have HP:Hid (p<N):=by show p<N;rw[<-F.out];exact Y9 _ f.1.pos
   have HQ:Hid (prS N a b (i+1)=q):=by show _=_;rw[<-g.out,<-F.out,<-H.out];rfl
   have hT:=λW=>gV f.1 (b i) (a i) HN.2.2 HN.2.1 W
   have L:=λW=>mM f.1 s p HN.1 HP.out W
   rw[F.out]at hT;rw[g.out]at L;have Y:∀W,kZ w W->W.rangeAt r (t+4*i) (wn (b i)):=λW C=>RG.range_below (f.2.2.2.2.1 i P) C f.2.2.2.2.2.2.1
   have h4:∀W,CbS w W N c (c+1) i a b->W.rangeAt (c+1) 0 (wn s):=λW h=>by rw[<-H.out];exact h.r5.2.1
   refine(gwL [pE (nv s),pE (.iface 44 (nv s)),pE (.slice (some ⟨r,t,none⟩) n c2),pE (iZ i),pE (.pointer (some ⟨r,t+4*i,none⟩)),pE (nv (b i)),pE (.iface 44 (nv (b i))),pE (nv (a i)),pE (nv p),pE (nv q)] (λW=>CbS w W N c (c+1) i a b/\Row W M (wn (a i))) (λW W' B h=>⟨h.1.grow B,h.2.below B⟩)).last 10 kR kR kR ⟨
    iN 44 5 (c+1) 0 (wn s) u40 i40 rfl (λW C=>h4 W C.1) (λ_=>rfl),
    rX 0 15 (nv s) (.iface 44 (nv s)) (λx W h=>h) (λ_=>rfl),
    gO 1 (.slice (some ⟨r,t,none⟩) n c2),
    gO 6 (iZ i),
    BF 2 17 3 18 (.slice (some ⟨r,t,none⟩) n c2) (iZ i) (.pointer (some ⟨r,t+4*i,none⟩)) (Yi 143 (.slice (some ⟨r,t,none⟩) n c2) (iZ i)) (mC r t n c2 i HL.out) (λx W h=>h) (λx W h=>h) (λ_=>rfl),
    gLr 4 19 (λW C=>Y W C.1.bl) u40 i40,
    rX 5 20 (nv (b i)) (.iface 44 (nv (b i))) (λx W h=>h) (λ_=>rfl),
    iN 44 7 M 0 (wn (a i)) u40 i40 rfl (λW C=>C.2.2.1) (λ_=>rfl),
    qF 44 6 21 7 22 (pE (nv (b i))) 26 (λx W h=>⟨_,h,rfl⟩) (λx y W hx l C=>by
     obtain rfl:x=nv (b i):=hx;obtain rfl:y=nv (a i):=l;refine(hT W).mono ?_;rintro e W' ⟨u,rfl,B,rfl⟩;exact⟨_,rfl,B,rfl⟩),
    qF 44 1 16 8 23 (pE (nv s)) 25 (λx W h=>⟨_,h,rfl⟩) (λx y W hx l C=>by
     obtain rfl:x=nv s:=hx;obtain rfl:y=nv p:=l;refine(L W).mono ?_;rintro e W' ⟨u,rfl,B,rfl⟩;exact⟨_,rfl,B,rfl⟩),yEU⟩ ⟨F2.2.drew,F2.1⟩ ?_
   intro V W3 h5 G;have h3:V 9=nv q:=h5 9 dC;obtain⟨D,o⟩:∃D,Hid (W3.setCells (c+1) 0 (wn q)=D):=⟨_,rfl⟩
   have K4:Hid (CbS w D N c (c+1) (i+1) a b):=by
    have h:=G.1.put (by have:=f.2.2.2.2.2.2.2;omega) oM;rw[HQ.out,o.out]at h;exact h
   have HT:Hid (W3.there (c+1) 0 4):=G.1.r5.2.2;dsimp only[bY,YH,ZQ,ZR];simp only[XK,Xt,Xv,Xw];obtain⟨vq,l⟩:∃v,Hid (nv q=v):=⟨_,rfl⟩
   rw[h3,l.out];clear h5 G h3 F2 hT L Y h4;generalize V 0=s0;generalize V 1=s1;generalize V 2=s2;generalize V 3=s3;generalize V 4=s4;generalize V 5=s5;generalize V 6=s6;generalize V 7=s7;generalize V 8=s8;go_wp2_with (first|(refine X8 rfl 44 _ _ rfl (c+1) 0 (wn q).toArray ?_ ?_ ?_ ?_ ?_ ?_;rfl;exact l.symm;exact HT.out;exact i40;exact aI q;rw[show(wn q).toArray.toList=wn q from rfl,o.out])|fail)
   go_roundg (gk-1)
   case measure=>omega
   case rel=>exact⟨i+1,oM,rfl,K4⟩
  ·have h8:¬(i:Int)<(n:Int):=oM;obtain rfl:i=n:=oM;obtain⟨q,g⟩:∃q,Hid (prS N a b i=q):=⟨_,rfl⟩
   obtain⟨D,o⟩:∃D,Hid (wr.setCells c 0 (wn q)=D):=⟨_,rfl⟩
   have R5:Hid (wr.rangeAt (c+1) 0 (wn q)/\wr.there c 0 4):=⟨by rw[<-g.out];exact E.r5.2.1,E.r4.2.2⟩
   have K4:Hid (kZ w D/\Row D c (wn q)):=by
    rw[<-o.out];exact⟨RG.below_setCells f.2.2.2.2.2.2.2 _ _ _ E.bl,E.r4.put rfl⟩
   obtain⟨vq,l⟩:∃v,Hid (nv q=v):=⟨_,rfl⟩
   clear E;go_wp2_with (first|(refine Yv rfl 44 _ rfl (c+1) 0 ?_ (wn q) d ?_ ?_ ?_ ?_ ?_;rfl;exact R5.1;exact HD.1;exact HD.2;exact i40;rw[show X6 (wn q).toArray=vq from l.out])|(refine X8 rfl 44 _ _ rfl c 0 (wn q).toArray ?_ ?_ ?_ ?_ ?_ ?_;rfl;exact l.symm;exact R5.2;exact i40;exact aI q;rw[show(wn q).toArray.toList=wn q from rfl,o.out])|fail)
   refine XE (aF 4 44 rfl K4.2 rfl u40 i40) rfl ?_;exact⟨_,rfl,K4.1,by rw[g.out];rfl⟩
theorem A9:(prog.underlying 82).map (·.isRow)=some false:=kR
structure CbM(w W:Xs)(v:Xu)(l:List (Nat × Bs)):Prop where
 bl:kZ w W
 sm:SmZ w.heap.size W v l
theorem CbM.grow{w W W':Xs}{v:Xu}{l:List (Nat × Bs)}(h:CbM w W v l)(k:kZ W W'):CbM w W' v l:=⟨h.bl.trans (k.mono h.bl.size),h.sm.grow k⟩
theorem CbM.drew{w W:Xs}{v:Xu}{l:List (Nat × Bs)}(h:CbM w W v l):CbM w W.drew v l:=⟨h.bl.drew,h.sm.grow ⟨rfl,rfl,rfl,Xx _,λ_ _=>rfl⟩⟩
theorem Jz{B:Nat}{W:Xs}{v:Xu}{l:List (Nat × Bs)}(h:SmZ B W v l):SmZ 0 W v l:=by
 rcases h with h|⟨g,c,k,b,-,d⟩
 ·exact X9 h
 ·exact X0 ⟨g,c,k,b,Zh _,d⟩
theorem LR(O:Ord N){Q:Nat->Prop}(n c:Nat)(h5:0<n)(h6:0<c)(hn:n<=512)(Y:c*n<=400)(a:Nat->Nat)(T:Nat->List (Nat × Bs))(ha:∀i,i<n->a i<N)(hT:∀i,i<n->TOk N (T i))(hl:∀i,i<n->(T i).length=c)(va vb:Xu)(w:Xs)(h1:SLq Q w va n a)(I:GLq Q w vb n T):
 XH prog 132 #[va,vb] w (rZ w λe w'=>Sm w.heap.size w' e (dF N a T n)):=by
 obtain⟨H,Z,c1,rfl,-,-,h0,X⟩:=h1;obtain⟨b,f,c2,rfl,-,-,M,S⟩:=I;have K1:Hid (CbM w w (.slice none 0 0) (dF N a T 0)):=⟨XM _ _,X9 ⟨rfl,rfl⟩⟩
 have k:Hid (Ord N/\(∀i,i<n->a i<N)/\(∀i,i<n->TOk N (T i))/\(∀i,i<n->(T i).length=c)/\(∀j,j<n->w.rangeAt H (Z+4*j) (wn (a j)))/\(∀j,j<n->∃x,w.cell? ⟨b,f+j,none⟩=some x/\SmQ Q w x (T j))/\H<w.heap.size/\b<w.heap.size/\0<c/\c*n<=400/\0<n):=⟨O,ha,hT,hl,X,S,h0,M,h6,Y,h5⟩
 obtain⟨d,P,R⟩:=XA.1 u40;have HD:Hid (prog.underlying 44=some d/\d.isRow=true):=⟨P,R⟩
 go_enter func132,ntmps132;go_wp2;go_loopg [5,10] n (λm s5 s10 W=>∃i:Nat,i+m=n/\s10=iZ i/\Hid (CbM w W s5 (dF N a T i)))
 case atStart=>exact⟨0,oM,rfl,K1⟩
 case round =>
  obtain⟨i,h8,rfl,J⟩:=hrel;by_cases t:i<n
  ·have h3:(i:Int)<(n:Int):=oM;have HL:=Hid.mk' t;have h9:=mC H Z n c1 i t;have B0:=mk1 (RG.range_below (k.2.2.2.2.1 i t) J.bl k.2.2.2.2.2.2.1);obtain⟨s,r⟩:=hE (wr.heap.size);obtain⟨K,C⟩:=hE (wr.alloc (.cells #[uZ 0,uZ 0,uZ 0,uZ 0] 44));obtain⟨W2,E⟩:=hE (K.setCells s 0 (wn (a i)));have F1:Hid (Row K s [uZ 0,uZ 0,uZ 0,uZ 0]/\kZ wr K):=by rw[<-C.out,<-r.out];exact⟨row_new wr _ _,aC wr _⟩
   have F2:Hid (Row W2 s (wn (a i))/\CbM w W2 u5 (dF N a T i)):=by
    rw[<-E.out];exact⟨F1.1.put rfl,J.grow (RG.below_setCells (by rw[r.out];exact Xx _) _ _ _ F1.2)⟩
   obtain⟨va,F⟩:=hE (X6 (wn (a i)).toArray);have HO:Hid ((wn (a i)).toArray.all (·.oneCell')=true):=aI _;go_wp2_with (first|(refine Yv rfl 44 _ rfl H (Z+4*i) ?_ (wn (a i)) d ?_ ?_ ?_ ?_ ?_;rfl;exact B0.out;exact HD.1;exact HD.2;exact i40;rw[F.out])|(refine bF (v:=jZ s) (w':=K) rfl (.alloc 44) rfl ?_ ?_;(rw[<-C.out,<-r.out];kernel_rfl))|(refine X8 rfl 44 _ _ rfl s 0 (wn (a i)).toArray ?_ ?_ ?_ ?_ ?_ ?_;rfl;exact F.symm;exact F1.1.2.2;exact i40;exact HO.out;rw[show(wn (a i)).toArray.toList=wn (a i) from rfl,E.out])|fail)
   obtain⟨x,h4,L⟩:=k.2.2.2.2.2.1 i t;have HX:=mk2 h4 L;obtain⟨l,o⟩:=hE (dF N a T i);have B:dF N a T (i+1)=l++(T i).map (tmT N (a i)):=by rw[<-o.out];rfl
   have h7:l.length=c*i:=by rw[<-o.out];exact fG N a i λj hj=>k.2.2.2.1 j oM
   have hc:c*i+c<=c*n:=by have:=yAR c (yDz t);rwa[yAS]at this
   have D:Hid (l.length<=500/\(T i).length<=500/\0<(T i).length/\TOk N l):=⟨by have:=k.2.2.2.2.2.2.2.2.2.1;omega,by rw[k.2.2.2.1 i t];have:=k.2.2.2.2.2.2.2.2.2.1;omega,by rw[k.2.2.2.1 i t];exact k.2.2.2.2.2.2.2.2.1,by rw[<-o.out];exact pU k.1.pos i λj hj=>k.2.2.1 j oM⟩
   have HE:Hid (dF N a T (i+1)=l++(T i).map (tmT N (a i))):=B;rw[o.out]at F2;refine(gwL [pE u5,pE (.iface 82 u5),pE (.slice (some ⟨b,f,none⟩) n c2),pE (iZ i),pE (.pointer (some ⟨b,f+1*i,none⟩)),pE x,pE (.iface 82 x),pE (nv (a i)),pM (w.heap.size<=·) ((T i).map (tmT N (a i))),pM (w.heap.size<=·) (l++(T i).map (tmT N (a i))),pM (w.heap.size<=·) (l++(T i).map (tmT N (a i)))] (λW=>CbM w W u5 l/\Row W s (wn (a i))) (λW W' A h=>⟨h.1.grow A,h.2.below A⟩)).draws kR kR ⟨
    gO 5 u5,
    rX 0 15 u5 (.iface 82 u5) (λx W h=>h) (λ_=>rfl),
    gO 1 (.slice (some ⟨b,f,none⟩) n c2),
    gO 6 (iZ i),
    BF 2 17 3 18 (.slice (some ⟨b,f,none⟩) n c2) (iZ i) (.pointer (some ⟨b,f+1*i,none⟩)) (Yi 148 (.slice (some ⟨b,f,none⟩) n c2) (iZ i)) (atS b f n c2 i HL.out) (λx W h=>h) (λx W h=>h) (λ_=>rfl),
    fF 82 4 19 b (f+1*i) x A9 (λx W h=>h) (λW q=>by rw[ZU,q.1.bl.cell (p:=⟨b,f+i,none⟩) k.2.2.2.2.2.2.2.1];exact HX.1) (λ_=>rfl),
    rX 5 20 x (.iface 82 x) (λx W h=>h) (λ_=>rfl),
    iN 44 7 s 0 (wn (a i)) u40 i40 rfl (λW q=>q.2.2.1) (λ_=>rfl),
    qF 82 6 21 7 22 (pE x) 149 (λx W h=>⟨_,h,rfl⟩) (λz y W hx G q=>by
     obtain rfl:z=x:=hx;obtain rfl:y=nv (a i):=G;refine(eH k.1 (k.2.1 i HL.out) 0 z (T i) (by have:=D.2.1;omega) (k.2.2.1 i HL.out).szm (k.2.2.1 i HL.out).lt W (HX.2.sm.grow q.1.bl)).mono ?_;rintro e W' ⟨u,rfl,A,V⟩;exact⟨_,rfl,A,V.q.mono λg U=>XB q.1.bl.size U⟩),
    qF 82 1 16 8 23 (pE u5) 31 (λx W h=>⟨_,h,rfl⟩) (λz y W hx G q=>by
     obtain rfl:z=u5:=hx;have G:=G;refine(cA 0 z y l ((T i).map (tmT N (a i))) (by rw[XC,XV];have:=D.2.2.1;omega) D.1 (by rw[XV];exact D.2.1) D.2.2.2.sz ((k.2.2.1 i HL.out).tm k.1.pos (a i)).sz W (Jz q.1.sm) (X0 G.sm)).mono ?_;rintro e W' ⟨u,rfl,A,V⟩;exact⟨_,rfl,A,V.q.mono λg U=>XB q.1.bl.size U⟩),
    C3 9 24 id (λx W h=>h),yEU⟩ ⟨F2.2.drew,F2.1⟩ ?_
   intro V W3 U G;have q:Hid (CbM w W3 (V 10) (dF N a T (i+1))):=⟨G.1.bl,X0 (by rw[HE.out];exact U 10 (ZW (Yy kR)))⟩
   dsimp only[bY,YH];go_wp2;go_roundg (gk-1)
   case measure=>omega
   case rel=>exact⟨i+1,oM,rfl,q⟩
  ·have h3:¬(i:Int)<(n:Int):=oM;obtain rfl:i=n:=oM;have q:Hid (kZ w wr/\Sm w.heap.size wr u5 (dF N a T i)):=⟨J.bl,by
    rcases J.sm with⟨-,h⟩|h
    ·exfalso;have:=fG N a i k.2.2.2.1;rw[h]at this;have I:=yDd k.2.2.2.2.2.2.2.2.1 k.2.2.2.2.2.2.2.2.2.2;rw[<-this]at I;exact absurd I (yEe _)
    ·exact h⟩
   go_wp2;go_ret;exact⟨_,rfl,q.1,q.2⟩
theorem rSc:(prog.underlying 44).map (·.isRow)=some true:=u40
theorem nSc:(prog.info? 44).map (·.size)=some 4:=i40
def oI(N x y n:Nat)(a:Nat->Nat)(i:Nat):Nat:=sPl N (sTi N (a i) x) (sTi N (a (n+i)) y)
structure FdS(w W:Xs)(K k4 k5 n i x y:Nat)(f:Nat->Nat):Prop where
 ar:Ar w W K 4 n i (λj=>wn (f j))
 r4:Row W k4 (wn x)
 r5:Row W k5 (wn y)
theorem FdS.grow{w W W':Xs}{K b c n i x y:Nat}{f:Nat->Nat}(h:FdS w W K b c n i x y f)(k:kZ W W'):FdS w W' K b c n i x y f:=⟨h.ar.grow k,h.r4.below k,h.r5.below k⟩
theorem FdS.drew{w W:Xs}{K k b n i x y:Nat}{f:Nat->Nat}(h:FdS w W K k b n i x y f):FdS w W.drew K k b n i x y f:=h.grow ⟨rfl,rfl,rfl,Xx _,λ_ _=>rfl⟩
theorem FdS.put{w W:Xs}{K k b n i x y:Nat}{f:Nat->Nat}(h:FdS w W K k b n i x y f)(d:w.heap.size<=K)(e:i<n)(c:k≠K)(g:b≠K):FdS w (W.setCells K (4*i) (wn (f i))) K k b n (i+1) x y f:=
 ⟨h.ar.put d e (λ_ _=>rfl),aP h.r4 c,aP h.r5 g⟩
theorem Qn(a b:Nat)(h:a+b<4611686018427387904)(w:Xs):(binOp .add 3 (iZ a) (iZ b)).run prog w=.ok (iZ ((a+b:Nat):Int)) w:=by
 have k:(a:Int)+(b:Int)<4611686018427387904:=oM;have c:-4611686018427387904<(a:Int)+(b:Int):=oM;have d:Yh.wrap ((a:Int)+(b:Int))=((a+b:Nat):Int):=by rw[Zc];omega
 go_simp
theorem Vt(w:Xs)(x y:Nat):∃k,Hid ((w.alloc (.cells (wn x).toArray 44)).alloc (.cells (wn y).toArray 44)=k)/\kZ w k/\Row k w.heap.size (wn x)/\Row k (w.heap.size+1) (wn y)/\k.heap.size=w.heap.size+2:=by
 have hR:=row_new (w.alloc (.cells (wn x).toArray 44)) (wn y) 44;rw[XF]at hR;exact⟨_,Hid.mk' rfl,(aC w _).alloc (by rw[XF];omega) _,(row_new w _ _).alloc _,hR,by rw[XF,XF]⟩
theorem Lz(O:Ord N){Q:Nat->Prop}(n:Nat)(hn:n<=500)(a:Nat->Nat)(x y:Nat)(hx:x<N)(B:y<N)(ha:∀i,i<n+n->a i<N)(va:Xu)(w:Xs)(h1:SLq Q w va (n+n) a):
 XH prog 145 #[va,nv x,nv y] w (rZ w λe w'=>SLq (w.heap.size<=·) w' e n (oI N x y n a)):=by
 obtain⟨b,d,c1,rfl,-,-,h8,h5⟩:=h1;obtain⟨m,hm⟩:∃m,Hid (n+n=m):=⟨_,rfl⟩
 have hq:(m:Int).tdiv 2=(n:Int):=by rw[<-hm.out,yAF oM];omega
 obtain⟨T,he,C,U,H,F⟩:=Vt w x y;obtain⟨C0,h4,h9⟩:=CO uS4 iS4 n oM;have s:=h9 T;obtain⟨K,hK⟩:∃K,Hid (T.heap.size=K):=⟨_,rfl⟩
 obtain⟨w3,E⟩:∃w3,Hid (T.alloc (.cells C0.toArray 44)=w3):=⟨_,rfl⟩
 have X:Ar T w3 K 4 n 0 (λj=>wn (oI N x y n a j)):=Ar.new _ h4 E.out hK.out;rw[E.out,hK.out]at s;obtain⟨c,l⟩:∃k,Hid (w.heap.size=k):=⟨_,rfl⟩
 rw[l.out]at U H F;have HK:Hid (K=c+2/\w.heap.size<=c):=⟨by rw[<-hK.out,F],by rw[l.out];exact Xx _⟩
 have K1:Hid (FdS w w3 K c (c+1) n 0 x y (oI N x y n a)):=⟨⟨C.trans (X.bl.mono C.size),X.lt,X.th,λj hj=>absurd hj (ZV _)⟩,U.below X.bl,H.below X.bl⟩
 have g:Hid (Ord N/\x<N/\y<N/\(∀i,i<n+n->a i<N)/\(∀j,j<n+n->w.rangeAt b (d+4*j) (wn (a j)))/\b<w.heap.size):=⟨O,hx,B,ha,h5,h8⟩
 obtain⟨vx,h0⟩:∃v,Hid (nv x=v):=⟨_,rfl⟩
 obtain⟨vy,h7⟩:∃v,Hid (nv y=v):=⟨_,rfl⟩
 obtain⟨A,M⟩:∃A,Hid (w.alloc (.cells (wn x).toArray 44)=A):=⟨_,rfl⟩
 have B1:Hid ((Yl 44 vx).run prog w=.ok (jZ c) A):=by rw[<-h0.out,<-M.out,<-l.out];exact boxS x w
 have B2:Hid ((Yl 44 vy).run prog A=.ok (.pointer (some ⟨c+1,0,none⟩)) T):=by
  have h:=boxS y A;rw[show A.heap.size=c+1 by rw[<-M.out,XF,l.out]]at h;have e:A.alloc (.cells (wn y).toArray 44)=T:=by rw[<-M.out];exact he.out
  rw[e]at h;rw[<-h7.out];exact h
 rw[h0.out,h7.out,hm.out];clear O hx B ha h5 h8 C U H F X h4 h9 hK E l he;go_enter func145,ntmps145;go_wp2_with (first|(refine aG (u:=vx) (v:=jZ c) (w':=A) rfl 44 (.tmp 1) rfl ?_ ?_ ?_;rfl;exact B1.out)|(refine aG (u:=vy) (v:=.pointer (some ⟨c+1,0,none⟩)) (w':=T) rfl 44 (.tmp 2) rfl ?_ ?_ ?_;rfl;exact B2.out)|fail)
 clear s B1 B2 hq;go_loopg [15] n (λm s15 W=>∃i:Nat,i+m=n/\s15=iZ i/\Hid (FdS w W K c (c+1) n i x y (oI N x y n a)))
 case atStart=>exact⟨0,oM,rfl,K1⟩
 case round =>
  clear K1;obtain⟨i,hr,rfl,Y⟩:=hrel;by_cases hi:i<n
  ·have hk:(i:Int)<(n:Int):=oM;have hs:(i:Int)<=600:=oM;have HL:=Hid.mk' hi;have KP:=Y;clear Y;go_wp2_with fail
   obtain⟨p1,S⟩:∃p,Hid (sTi N (a i) x=p):=⟨_,rfl⟩
   obtain⟨p2,J⟩:∃p,Hid (sTi N (a (n+i)) y=p):=⟨_,rfl⟩
   obtain⟨q,Z⟩:∃q,Hid (sPl N p1 p2=q):=⟨_,rfl⟩
   have HP:Hid (p1<N/\p2<N):=⟨by rw[<-S.out];exact Y9 _ g.1.pos,by rw[<-J.out];exact Y9 _ g.1.pos⟩
   have HQ:Hid (oI N x y n a i=q):=by show _=_;rw[<-Z.out,<-S.out,<-J.out];rfl
   have D:=λW=>gV g.1 (a i) x (g.2.2.2.1 i oM) g.2.1 W
   have R:=λW=>gV g.1 (a (n+i)) y (g.2.2.2.1 (n+i) oM) g.2.2.1 W
   have P:=λW=>mM g.1 p1 p2 HP.1 HP.2 W
   rw[S.out]at D;rw[J.out]at R;rw[Z.out]at P;have h6:∀W,kZ w W->W.rangeAt b (d+4*i) (wn (a i)):=λW f=>RG.range_below (g.2.2.2.2.1 i oM) f g.2.2.2.2.2
   have h3:∀W,kZ w W->W.rangeAt b (d+4*(n+i)) (wn (a (n+i))):=λW f=>RG.range_below (g.2.2.2.2.1 (n+i) oM) f g.2.2.2.2.2
   have hl:i<m:=by rw[<-hm.out];omega
   have h2:n+i<m:=by rw[<-hm.out];omega
   refine(gwL [pE (sZ K n n),pE (iZ i),pE (.slice (some ⟨b,d,none⟩) m c1),pE (iZ i),pE (.pointer (some ⟨b,d+4*i,none⟩)),pE (nv (a i)),pE (.iface 44 (nv (a i))),pE (nv x),pE (nv p1),pE (.iface 44 (nv p1)),pE (.slice (some ⟨b,d,none⟩) m c1),pE (sZ K n n),pE (iZ n),pE (iZ i),pE (iZ ((n+i:Nat):Int)),pE (.pointer (some ⟨b,d+4*(n+i),none⟩)),pE (nv (a (n+i))),pE (.iface 44 (nv (a (n+i)))),pE (nv y),pE (nv p2),pE (nv q),pE (.pointer (some ⟨K,0+4*i,none⟩))] (λW=>FdS w W K c (c+1) n i x y (oI N x y n a)) (λW W' L h=>h.grow L)).last 22 kR kR kR ⟨
    gO 7 (sZ K n n),
    gO 8 (iZ i),
    gO 0 (.slice (some ⟨b,d,none⟩) m c1),
    gO 8 (iZ i),
    BF 2 20 3 21 (.slice (some ⟨b,d,none⟩) m c1) (iZ i) (.pointer (some ⟨b,d+4*i,none⟩)) (Yi 143 (.slice (some ⟨b,d,none⟩) m c1) (iZ i)) (mC b d m c1 i hl) (λx W h=>h) (λx W h=>h) (λ_=>rfl),
    gLr 4 22 (λW f=>h6 W f.ar.bl) rSc nSc,
    rX 5 23 (nv (a i)) (.iface 44 (nv (a i))) (λx W h=>h) (λ_=>rfl),
    iN 44 4 c 0 (wn x) rSc nSc rfl (λW f=>f.r4.2.1) (λ_=>rfl),
    qF 44 6 24 7 25 (pE (nv (a i))) 26 (λx W h=>⟨_,h,rfl⟩) (λz u W hx B f=>by
     obtain rfl:z=nv (a i):=hx;obtain rfl:u=nv x:=B;refine(D W).mono ?_;rintro e W' ⟨u,rfl,L,rfl⟩;exact⟨_,rfl,L,rfl⟩),
    rX 8 26 (nv p1) (.iface 44 (nv p1)) (λx W h=>h) (λ_=>rfl),
    gO 0 (.slice (some ⟨b,d,none⟩) m c1),
    gO 7 (sZ K n n),
    rX 11 29 (sZ K n n) (iZ n) (λx W h=>h) (λ_=>rfl),
    gO 8 (iZ i),
    Lh .add 3 3 30 31 rfl (λa W o=>⟨_,_,iZ ((n+i:Nat):Int),o.n 12 30 kR kR,o.n 13 31 kR kR,kR,Qn n i oM W,rfl⟩),
    BF 10 28 14 32 (.slice (some ⟨b,d,none⟩) m c1) (iZ ((n+i:Nat):Int)) (.pointer (some ⟨b,d+4*(n+i),none⟩)) (Yi 143 (.slice (some ⟨b,d,none⟩) m c1) (iZ ((n+i:Nat):Int))) (mC b d m c1 (n+i) h2) (λx W h=>h) (λx W h=>h) (λ_=>rfl),
    gLr 15 33 (λW f=>h3 W f.ar.bl) rSc nSc,
    rX 16 34 (nv (a (n+i))) (.iface 44 (nv (a (n+i)))) (λx W h=>h) (λ_=>rfl),
    iN 44 5 (c+1) 0 (wn y) rSc nSc rfl (λW f=>f.r5.2.1) (λ_=>rfl),
    qF 44 17 35 18 36 (pE (nv (a (n+i)))) 26 (λx W h=>⟨_,h,rfl⟩) (λz u W hx B f=>by
     obtain rfl:z=nv (a (n+i)):=hx;obtain rfl:u=nv y:=B;refine(R W).mono ?_;rintro e W' ⟨u,rfl,L,rfl⟩;exact⟨_,rfl,L,rfl⟩),
    qF 44 9 27 19 37 (pE (nv p1)) 25 (λx W h=>⟨_,h,rfl⟩) (λz u W hx B f=>by
     obtain rfl:z=nv p1:=hx;obtain rfl:u=nv p2:=B;refine(P W).mono ?_;rintro e W' ⟨u,rfl,L,rfl⟩;exact⟨_,rfl,L,rfl⟩),
    BF 0 18 1 19 (sZ K n n) (iZ i) (.pointer (some ⟨K,0+4*i,none⟩)) (Yi 143 (sZ K n n) (iZ i)) (mC K 0 n n i HL.out) (λx W h=>h) (λx W h=>h) (λ_=>rfl),yEU⟩ KP.drew ?_
   intro V W3 I G;have o:V 20=nv q:=I 20 dC;have r:V 21=.pointer (some ⟨K,0+4*i,none⟩):=I 21 dC;obtain⟨W4,hg⟩:∃W4,Hid (W3.setCells K (4*i) (wn q)=W4):=⟨_,rfl⟩
   have K4:Hid (FdS w W4 K c (c+1) n (i+1) x y (oI N x y n a)):=by
    have h:=G.put (by have:=HK.out;omega) hi (by have:=HK.out;omega) (by have:=HK.out;omega);rw[HQ.out,hg.out]at h;exact h
   have HT:Hid (W3.there K (4*i) 4):=λt ht=>by
    have:=G.ar.th (4*i+t) oM;rwa[XD]at this
   dsimp only[bY,YH,ZQ,ZR];simp only[XK,Xt,Xv,Xw];obtain⟨vq,hc⟩:∃v,Hid (nv q=v):=⟨_,rfl⟩
   rw[o,r,hc.out,XD];clear I G o r KP D R P h3 h6;generalize V 0=s0;generalize V 1=s1;generalize V 2=s2;generalize V 3=s3;generalize V 4=s4;generalize V 5=s5;generalize V 6=s6;generalize V 7=s7;generalize V 8=s8;generalize V 9=s9;generalize V 10=s10;generalize V 11=s11;generalize V 12=s12;generalize V 13=s13;generalize V 14=s14;generalize V 15=s15;generalize V 16=s16;generalize V 17=s17;generalize V 18=s18;generalize V 19=s19;go_wp2_with (first|(refine X8 rfl 44 _ _ rfl K (4*i) (wn q).toArray ?_ ?_ ?_ ?_ ?_ ?_;rfl;exact hc.symm;exact HT.out;exact i40;exact aI q;rw[show(wn q).toArray.toList=wn q from rfl,hg.out])|fail)
   go_roundg (gk-1)
   case measure=>omega
   case rel=>exact⟨i+1,oM,rfl,K4⟩
  ·have hk:¬(i:Int)<(n:Int):=oM;obtain rfl:i=n:=oM;have K4:Hid (kZ w wr/\SLq (w.heap.size<=·) wr (sZ K i i) i (oI N x y i a)):=⟨Y.ar.bl,K,0,i,rfl,Xx _,by have:=HK.out;omega,Y.ar.lt,λj hj=>by rw[XD];exact Y.ar.rw j hj⟩
   clear Y;go_wp2;go_ret;exact⟨_,rfl,K4.1,K4.2⟩
end
section
theorem aM{w k:Xs}{g:Nat}{z:List Xu}{T:Yd}(c:Hid (w.heap.size=g))(b:Hid (w.alloc (.cells z.toArray T)=k)):Hid (kZ w k/\Row k g z):=by
 rw[<-b.out,<-c.out];exact⟨aC _ _,row_new w _ _⟩
theorem Gm{w b k:Xs}{g:Nat}{z vs:List Xu}{T:Yd}(c:Hid (w.heap.size=g))(e:Hid (w.alloc (.cells z.toArray T)=b))(f:Hid (b.setCells g 0 vs=k))(d:vs.length=z.length):Hid (b.there g 0 vs.toArray.size/\kZ w k/\Row k g vs):=by
 have h:=(aM c e).out;rw[<-f.out];exact⟨by rw[YD,d];exact h.2.2.2,RG.below_setCells (by rw[c.out];exact Xx _) _ _ _ h.1,h.2.put d⟩
structure Kz(Z:Nat->Prop)(w w':Xs):Prop where
 os:w'.os=w.os
 tape:w'.tape=w.tape
 output:w'.output=w.output
 size:w.heap.size<=w'.heap.size
 block:∀g,g<w.heap.size->Z g->w'.heap[g]? = w.heap[g]?
section
variable {Z:Nat->Prop}{w w' W:Xs}{k o:Nat}{vs:List Xu}
theorem Kz.of(h:kZ w w'):Kz Z w w':=⟨h.os,h.tape,h.output,h.size,λg k _=>h.block g k⟩
theorem Kz.trans(h:Kz Z w w')(k:Kz Z w' W):Kz Z w W:=⟨k.os.trans h.os,k.tape.trans h.tape,k.output.trans h.output,XB h.size k.size,λg c b=>(k.block g (Xz c h.size) b).trans (h.block g c b)⟩
theorem Kz.bel(h:Kz Z w w')(b:∀g,Z g):kZ w w':=⟨h.os,h.tape,h.output,h.size,λg k=>h.block g k (b g)⟩
theorem Kz.kq{Q:Nat->Prop}(h:Kz Z w w')(k:∀g,Q g->Z g):Kq Q w w':=⟨h.size,λg c b=>h.block g b (k g c)⟩
theorem Kz.set(h:Kz Z w W)(b:w.heap.size<=k\/¬Z k):Kz Z w (W.setCells k o vs):=by
 obtain⟨d,e,i⟩:=nR k vs o W;refine⟨d.trans h.os,e.trans h.tape,i.trans h.output,by rw[setCells_size];exact h.size,λg f c=>?_⟩;rw[aE k vs o W g (by rintro rfl;rcases b with b|b;omega;exact b c)];exact h.block g f c
theorem Kz.range(h:Kz Z w w')(c:Z k)(b:k<w.heap.size)(d:w.rangeAt k o vs):w'.rangeAt k o vs:=(h.kq λ_ h=>h).range c b d
end
structure LsS(Z:Nat->Prop)(w W:Xs)(K n i:Nat)(a:Nat->Nat):Prop where
 kz:Kz Z w W
 lt:K<W.heap.size
 th:W.there K 0 (4*n)
 rw:∀j,j<i->W.rangeAt K (4*j) (wn (a j))
theorem DO{w w':Xs}{k o n:Nat}(h:w.there k o n)(e:w'.heap[k]? = w.heap[k]?):w'.there k o n:=λj b=>by
 have:=h j b;rw[XW (a:=⟨k,o+j,none⟩) e,Y0 (a:=⟨k,o+j,none⟩) e];exact this
theorem LsS.grow{Z:Nat->Prop}{w W W':Xs}{K n i:Nat}{a:Nat->Nat}(h:LsS Z w W K n i a)(b:Z K)(k:Kz Z W W'):LsS Z w W' K n i a:=
 ⟨h.kz.trans k,Xz h.lt k.size,DO h.th (k.block K h.lt b),λj c=>k.range b h.lt (h.rw j c)⟩
theorem LsS.put{Z:Nat->Prop}{w W:Xs}{K n i:Nat}{a:Nat->Nat}(h:LsS Z w W K n i a)(b:w.heap.size<=K)(d:i<n):LsS Z w (W.setCells K (4*i) (wn (a i))) K n (i+1) a:=by
 refine⟨h.kz.set (X9 b),by rw[setCells_size];exact h.lt,Y2 h.th _ _ _,λj c=>?_⟩;by_cases e:j=i
 ·subst e;exact YM W K _ _ λt k=>by
   have k:t<4:=k;have:=h.th (4*j+t) oM;rwa[XD]at this
 ·exact Yk (h.rw j oM) K _ _ (X0 (by
   show 4*j+4<=4*i\/4*i+4<=4*j;omega))
theorem AE(n:Nat)(P:n<=512)(f:ZY)(cap:Array Xu)(hf:∀args W,(callFunc f args).run prog W=.ok (.enter f args) W)(a:Nat->Nat)(Z:Nat->Prop)(I:Nat->Xs->Prop)(w:Xs)(J:∀g,w.heap.size<=g->Z g)(s:∀W,kZ w W->I 0 W)(v:∀i W K o vs,w.heap.size<=K->I i W->I i (yBl W K o vs))
 (G:∀i W,i<n->Kz Z w W->I i W->XH prog f (#[iZ i]++cap) W (Ret λe W'=>Kz Z W W'/\I (i+1) W'/\e=nv (a i))) :
 XH prog 126 #[iZ n,.func (.func f) #[] cap] w (Ret λe w'=>Kz Z w w'/\I n w'/\SLq (w.heap.size<=·) w' e n a/\∃g c,e=sZ g n c):=by
 obtain⟨C0,p,x⟩:=CO uS4 iS4 n P;have b:=x w;obtain⟨K,l⟩:=hE (w.heap.size);obtain⟨z,d⟩:=hE (w.alloc (.cells C0.toArray 44));have u:Ar w z K 4 n 0 (λ_=>[]):=Ar.new _ p d.out l.out;rw[d.out,l.out]at b;have N:Hid (LsS Z w z K n 0 a/\I 0 z):=⟨⟨Kz.of u.bl,u.lt,u.th,λj C=>absurd C (ZV _)⟩,s z u.bl⟩
 have S:=mk1 G;have R:=mk1 hf;have A:Hid (Z K/\w.heap.size<=K/\∀i W o vs,I i W->I i (yBl W K o vs)):=⟨J K (yBp l.out),yBp l.out,λi W o vs=>v i W K o vs (yBp l.out)⟩
 obtain⟨fv,r⟩:=hE (yCG (.func f) #[] cap);rw[r.out];clear u p x G hf d l s v J;go_enter func126,ntmps126;go_wp2;clear b;go_loopg [11] n (λm s11 W=>∃i:Nat,i+m=n/\s11=iZ i/\Hid (LsS Z w W K n i a/\I i W))
 case atStart=>exact⟨0,oM,rfl,N⟩
 case round =>
  obtain⟨i,U,rfl,k⟩:=hrel;by_cases D:i<n
  ·have B:(i:Int)<(n:Int):=oM;have F:=mC K 0 n n i D;rw[XD]at F;have T:=mk1 D;go_wp2_with (first|(refine sU rfl 16 17 _ rfl f cap (iZ i) ?_ ?_ R.out (S i wr T.out k.1.kz k.2) ?_;exact r.symm;rfl;intro e W' hR;refine yBV ?_)|fail)
   obtain⟨H,L,rfl⟩:=hR;have E:=k.1.grow A.1 H;obtain⟨M,y⟩:=hE (W'.setCells K (4*i) (wn (a i)));have O:Hid (LsS Z w M K n (i+1) a/\I (i+1) M):=by rw[<-y.out];exact⟨E.put A.2.1 D,A.2.2 _ _ _ _ L⟩
   have Q:Hid (W'.there K (4*i) 4):=λt X=>by
    have:=E.th (4*i+t) oM;rwa[XD]at this
   obtain⟨V,q⟩:=hE (nv (a i));rw[q.out];clear H L E k;show wpList _ _ _ _ _ _;go_wp2_with (first|(refine X8 rfl 44 _ _ rfl K (4*i) (wn (a i)).toArray ?_ ?_ ?_ ?_ ?_ ?_;rfl;exact q.symm;exact Q.out;exact i40;exact aI _;rw[show(wn (a i)).toArray.toList=wn (a i) from rfl,y.out])|fail)
   go_roundg (gk-1)
   case measure=>omega
   case rel=>exact⟨i+1,oM,rfl,O⟩
  ·have B:¬(i:Int)<(n:Int):=oM;obtain rfl:i=n:=oM;have q:Hid (Kz Z w wr/\I i wr/\SLq (w.heap.size<=·) wr (sZ K i i) i a):=⟨k.1.kz,k.2,K,0,i,rfl,Xx _,A.2.1,k.1.lt,λj C=>by rw[XD];exact k.1.rw j C⟩
   go_wp2;go_ret;exact⟨_,rfl,q.1,q.2.1,q.2.2,_,_,rfl⟩
theorem Is(n:Nat)(d:n<=512)(f:ZY)(cap:Array Xu)(hf:∀args W,(callFunc f args).run prog W=.ok (.enter f args) W)(a:Nat->Nat)(Z:Nat->Prop)(I:Nat->Xs->Prop)(w:Xs)(l:∀g,w.heap.size<=g->Z g)(k:∀W,kZ w W->I 0 W)(b:∀i W K o vs,w.heap.size<=K->I i W->I i (yBl W K o vs))
 (c:∀i W,i<n->Kz Z w W->I i W->XH prog f (#[iZ i]++cap) W (Ret λe W'=>Kz Z W W'/\I (i+1) W'/\e=nv (a i))) :
 XH prog 126 #[iZ n,.func (.func f) #[] cap] w (Ret λe w'=>Kz Z w w'/\I n w'/\SLq (w.heap.size<=·) w' e n a):=
 (AE n d f cap hf a Z I w l k b c).mono λ_ _ ⟨v,h,m,p,j,_⟩=>⟨v,h,m,p,j⟩
theorem jJ(n:Nat)(g:n<=512)(f:ZY)(cap:Array Xu)(hf:∀args W,(callFunc f args).run prog W=.ok (.enter f args) W)(a:Nat->Nat)(w:Xs)
 (c:∀i W,i<n->kZ w W->XH prog f (#[iZ i]++cap) W (rZ W λe W'=>e=nv (a i))) :
 XH prog 126 #[iZ n,.func (.func f) #[] cap] w (rZ w λe w'=>SLq (w.heap.size<=·) w' e n a):=by
 refine(Is n g f cap hf a (λ_=>True) (λ_ _=>True) w (λ_ _=>trivial) (λ_ _=>trivial) (λ_ _ _ _ _ _ _=>trivial) λi W j d _=>?_).mono ?_
 ·refine(c i W j (d.bel λ_=>trivial)).mono ?_;rintro e w' ⟨v,rfl,k,b⟩;exact⟨v,rfl,Kz.of k,trivial,b⟩
 ·rintro e w' ⟨v,rfl,k,-,b⟩;exact⟨v,rfl,k.bel λ_=>trivial,b⟩
end
section
variable {P:Nat}[NeZero P]{N:Nat}
abbrev w1c(x:Nat):List Xu:=[uZ x,uZ 0,uZ 0,uZ 0]
theorem Qy{x:Nat}(hx:x<18446744073709551616):wn x=w1c x:=by
 unfold wn;rw[XX hx,yAm hx,yAm (by omega:x<340282366920938463463374607431768211456),yAm (by omega:x<6277101735386680763835789423207666416102355444464034512896)];rfl
theorem rQ(x:Nat)(hx:x<18446744073709551616):Gives 15 #[uZ x] (nv x):=by
 unfold nv;rw[Qy hx];intro w;go_enter func15,ntmps15;refine RG.M.enter [(0,.v (uZ x))] 6 kR ?_;intro a0 c;repeat refine Xy ?_
 refine c.T [.m 0] [(0,RG.z 4)] [] [RG.z 4] [0,2] ⟨mk 0 44,yEU⟩ ?_;intro k f g d;repeat refine Xy ?_
 refine d.T [.x (uZ x),.x (.agg (w1c x).toArray),.x (.agg (w1c x).toArray),.u 0] [] [(0,3,w1c x)] [w1c x] [2] ⟨st,st,st,RG.pt i40,yEU⟩ ?_;intro a2 e b;refine Y5 ?_;refine XE (v:=.agg (w1c x).toArray) (aH b.st 2 44 rfl 0 _ rfl (b.at (s:=(.p 0 0))) u40 i40) b.sl.defers ?_;exact⟨_,rfl,b.st.bel.below,rfl⟩
theorem Oz(v i:Nat)(hv:v<18446744073709551616):v/2^i<18446744073709551616:=Nat.lt_of_le_of_lt (Nat.div_le_self _ _) hv
theorem tC{w b W W':Xs}{k x:Nat}(c:Hid (w.heap.size=k))(f:Hid (w.alloc (.cells (RG.z 4).toArray 44)=b))(e:kZ b W)(g:Hid (W.setCells k 0 (wn x)=W')):Hid (W.there k 0 4/\kZ w W'/\Row W' k (wn x)):=by
 have h:=(aM c f).out;have d:=h.2.below e;rw[<-g.out];exact⟨d.2.2,RG.below_setCells (yBp c.out) _ _ _ (h.1.trans (e.mono h.1.size)),d.put rfl⟩
theorem KI(v i k:Nat)(hv:v<18446744073709551616)(z:i<64)(w:Xs)(n:k<w.heap.size)(l:w.cell? ⟨k,0,none⟩=some (uZ v)):XH prog 124 #[iZ i,jZ k] w (rZ w λe w'=>e=nv (v/2^i%2)):=by
 obtain⟨q,g⟩:=hE (w.heap.size);obtain⟨m,b⟩:=hE (w.alloc (.cells (RG.z 4).toArray 44));have t:=aM g b;have s:m.cell? ⟨k,0,none⟩=some (uZ v):=by rw[t.1.cell (p:=⟨k,0,none⟩) n];exact l
 have j:bits .and .u64 ((v:Int)/2^i) 1=((v/2^i%2:Nat):Int):=by
  rw[<-and_one _ (Oz v i hv),Int.natCast_ediv,Int.natCast_pow];rfl
 have o:=mk1 (rQ (v/2^i%2) oM);generalize v/2^i%2=x at j o⊢;have u:=mk1 j;clear l n j;go_enter func124,ntmps124;go_wp2_with (first|(refine alR 3 g b ?_)|fail)
 rw[u.out];refine(o m).mono ?_;rintro e r ⟨y,rfl,f,rfl⟩;obtain⟨B,c⟩:=hE (r.setCells q 0 (wn x));have R:=tC g b f c;obtain⟨a,d⟩:=hE (nv x);rw[d.out];go_wp2_with (first|(refine stR 3 c d R.1 i40 (aI x) ?_)|fail)
 refine XE (aF 3 44 rfl R.2.2 rfl u40 i40) rfl ?_;exact⟨_,rfl,R.2.1,rfl⟩
theorem RX(O:Ord N)(v i k n:Nat)(hv:v<18446744073709551616)(D:i<64)(w:Xs)(u:k<w.heap.size)(j:n<w.heap.size)(y:w.cell? ⟨k,0,none⟩=some (uZ v))(c:w.cell? ⟨n,0,none⟩=some (.func (.func 124) #[] #[jZ k])):XH prog 125 #[iZ i,jZ n] w (rZ w λe w'=>e=nv (sMi N (v/2^i%2) 1)):=by
 obtain⟨q,t⟩:=hE (w.heap.size);obtain⟨a,b⟩:=hE (w.alloc (.cells (RG.z 4).toArray 44));have s:=aM t b;have r:a.cell? ⟨n,0,none⟩=some (.func (.func 124) #[] #[jZ k]):=by rw[s.1.cell (p:=⟨n,0,none⟩) j];exact c
 have B:=mk1 (KI v i k hv D a (Xz u s.1.size) (by rw[s.1.cell (p:=⟨k,0,none⟩) u];exact y));have z:=mk1 (D3 O (v/2^i%2) 1 (by have:=O.n2;omega) (by have:=O.n2;omega));have F:=mk1 (rQ 1 dC);generalize v/2^i%2=x at B z⊢;obtain⟨vf,l⟩:=hE (yCG (.func 124) #[] #[jZ k]);rw[l.out]at r;clear y u c j;go_enter func125,ntmps125;go_wp2_with (first|(refine alR 3 t b ?_)|(refine sU rfl 4 5 _ rfl 124 #[jZ k] (iZ i) ?_ ?_ (λ_ _=>kR) B.out ?_;exact l.symm;rfl;intro e W' hR;refine yBV ?_)|fail)
 obtain⟨g,rfl⟩:=hR;show wpList _ _ _ _ _ _;go_wp2_with fail
 refine(F W').mono ?_;rintro e E ⟨C,rfl,d,rfl⟩;go_wp2_with fail
 refine(z E).mono ?_;rintro e G ⟨C,rfl,o,rfl⟩;obtain⟨H,f⟩:=hE (G.setCells q 0 (wn (sMi N x 1)));have R:=tC t b (g.trans ((d.trans (o.mono d.size)).mono g.size)) f;obtain⟨I,m⟩:=hE (nv (sMi N x 1));rw[m.out];go_wp2_with (first|(refine stR 3 f m R.1 i40 (aI _) ?_)|fail)
 refine XE (aF 3 44 rfl R.2.2 rfl u40 i40) rfl ?_;exact⟨_,rfl,R.2.1,rfl⟩
end
namespace RG
variable {P:YG}{ops:Array Yo}{Q:Exit->Act->Xs->Prop}{w:Xs}{a0:Act}{F:Flow}
def nU(k:Array Yo):Nat->Nat->Nat->Bool
 | 0,i,j=>depOn k i j
 | f+1,i,j=>depOn k i j || (Yt i).any (λx=>depOn k i x && nU k f x j)
def mZ(k:Array Yo)(n:Nat):Bool:=(Yt n).all (λj=>nU k 5 n j) && (Yt k.size).all (λi=>decide (i<=n) || depOn k i (i-1))
theorem zH{n i:Nat}(h:mZ ops n=true)(c:n<i)(b:i<ops.size):depOn ops i (i-1)=true:=by
 unfold mZ at h;rw[XO]at h;have k:=Yj.1 h.2 i (YZ.2 b);rw[Z1,decide_eq_true_eq]at k;rcases k with k|k
 ·omega
 ·exact k
theorem xR{L:Array Bool}{a:Act}(b:InvF F ops a0 L a w):∀(f i j:Nat),i<ops.size->on L i=true->nU ops f i j=true->on L j=true
 | 0,i,j,his,hi,h=>by
  have k:=X4 his;unfold nU depOn at h;rw[k]at h;exact BO (ho:=k) b h hi
 | f+1,i,j,his,hi,h=>by
  have k:=X4 his;unfold nU at h;rw[Z1]at h;have hd:∀x,depOn ops i x=true->on L x=true:=λx hx=>by
   unfold depOn at hx;rw[k]at hx;exact BO (ho:=k) b hx hi
  rcases h with h|h
  ·exact hd j h
  ·obtain⟨x,hx,c⟩:=yDH.1 h;rw[XO]at c;exact xR b f x j (by have:=YZ.1 hx;omega) (hd x c.1) c.2
theorem Ah{n:Nat}(B:∀i,n<i->i<ops.size->depOn ops i (i-1)=true)(z:∀(i:Nat) (o:Yo),ops[i]? = some o->∀e∈o.after,YT .any e=true->e.on<i):∀(c:Nat) (L:Array Bool) (a:Act) (w:Xs) (m:Nat),n<=m->m<=ops.size->L.size=ops.size->(∀j,on L j=true↔j<m)->unl L=c->wpList P ops Q (ops.toList.drop m) a w->wpAny P .any ops Q c L a w:=by
 intro c;induction c with
 | zero =>
  intro L a w m x v t k A h;have q:m=ops.size:=by
   rcases Zq m ops.size with d|d
   ·have:=kY A m oM;rw[k]at this;omega
   ·omega
  rw[q,<-XP,yDF]at h;refine⟨?_,h⟩;apply List.eq_nil_iff_forall_not_mem.2;intro i r;obtain⟨d,o,ho,-⟩:=mem_ready.1 r;have f:=(k i).2 (by rw[q];exact(XY.1 ho).1);unfold on at f;rw[XI]at d f;cases hh:L[i]? with
  | none=>rw[hh]at d;cases d
  | some b=>rw[hh]at d f;rw[show b=false from d]at f;cases f
 | succ c ih =>
  intro L a w m x v t k A h;have s:∀i,i∈Yf .any ops L->i=m:=λi r=>by
   obtain⟨d,o,ho,p⟩:=mem_ready.1 r;have g:on L i=false:=by
    unfold on;rw[XI]at d⊢;cases hh:L[i]? with
    | none=>rfl
    | some b=>rw[hh]at d;exact d
   have l:=(XY.1 ho).1;rcases Nat.lt_trichotomy i m with f|f|f
   ·rw[(k i).2 f]at g;cases g
   ·exact f
   ·have:=(k (i-1)).1 (gZ ho p (B i oM l));omega
  refine⟨λC=>?_,λi r=>?_⟩
  ·rcases Zq m ops.size with d|d
   ·exfalso;have ho:ops[m]? = some ops[m]:=X4 _;have g:on L m=false:=by
     cases u:on L m with
     | false=>rfl
     | true=>have:=(k m).1 u;omega
    have:m∈Yf .any ops L:=mem_ready.2 ⟨?_,_,ho,λe y u=>(k e.on).2 (z m _ ho e y u)⟩
    ·rw[C]at this;cases this
    ·unfold on at g;rw[XI,X4 (by rw[t];exact d)]at g⊢;exact g
   ·have q:m=ops.size:=oM;rw[q,<-XP,yDF]at h;exact h
  ·obtain rfl:=s i r;obtain⟨d,o,ho,p⟩:=mem_ready.1 r;have l:=(XY.1 ho).1;have q:ops.toList.drop i=o :: ops.toList.drop (i+1):=by
    rw[List.drop_eq_getElem_cons (by rw[XP];exact l)];have:ops.toList[i]? = some o:=by rw[Yz];exact ho
    rw[XJ (by rw[XP];exact l)]at this;rw[XS.inj this]
   rw[q]at h;have u:wpOp P ops Q i (λy w'=>wpList P ops Q (ops.toList.drop (i+1)) y w') a w:=by
    unfold wpOp;rw[ho];exact h
   refine yCa (λy w' D=>ih _ y w' (i+1) oM oM (by rw[Array.size_setIfInBounds];exact t) (λj=>?_) (by have:=mH d;omega) D) u;rw[eD (by rw[t];omega)];constructor
   ·intro g;rw[Z1]at g;rcases g with g|g
    ·have:=(k j).1 g;omega
    ·have:i=j:=by simpa using g
     omega
   ·intro g;by_cases f:j<i
    ·rw[(k j).2 f,Bool.true_or]
    ·rw[show j=i by omega];simp
theorem yT{id:Nat}(F:Flow)(n:Nat)(Z:Array Bool->Act->Prop)(T:n<ops.size)(t:mZ ops n=true)(K:P.follows .mixedOrders=true)(R:RegF P Q F ops a0 n)(I:∀b,F.B b w.drew)(N:∀L,(∀i,on L i=false)->Z L a0)
 (H:∀(k:Nat) (o:Yo) (L:Array Bool) (a:Act) (w:Xs),k<n->(∀i,on L i=true->i<n)->ops[k]? = some o->on L k=false->(∀e∈o.after,YT .any e=true->on L e.on=true)->InvF F ops a0 L a w->Z L a->wpOp P ops Q k (λA w'=>InvF F ops a0 (L.setIfInBounds k true) A w'/\Z (L.setIfInBounds k true) A) a w)
 (S:∀(V:Nat->Xu) (w':Xs),(∀i,i<n->F.kill i=[]->F.R i (V i) w')->(∀b,F.killB b=[]->F.B b w')->(∃L a,Z L a/\∀i,i<n->on L i=true/\∀d,aV ops i=some d->a.tmps[d]? = some (V i))->wpList P ops Q (ops.toList.drop n) (bY V (ops.toList.take n) 0 a0) w'):(Zd id ops true).wp P Q a0 w:=by
 have B:∀(i:Nat) (o:Yo),ops[i]? = some o->∀e∈o.after,YT .any e=true->e.on<i:=λi o ho=>(R.of ho).1
 have key:∀(g:Nat) (L:Array Bool) (a:Act) (w:Xs),unl L=g->(∀j,n<=j->on L j=false)->InvF F ops a0 L a w->Z L a->wpAny P .any ops Q g L a w:=by
  intro g;induction g with
  | zero =>
   intro L a w D c q E;have:=kY D n (by rw[q.size];omega);rw[c n (Xx _)]at this;cases this
  | succ g ih =>
   intro L a w D c q E;by_cases f:∀j,j<n->on L j=true
   ·have m:∀j,on L j=true↔j<n:=λj=>⟨λp=>(by
     rcases Zq j n with h|h
     ·exact h
     ·rw[c j h]at p;cases p),f j⟩
    obtain⟨V,v,C⟩:=q.all;have M:=q.act R oM m v;have u:∀l:List Nat,l=[]->∀x∈l,on L x=false:=λl G x hx=>by rw[G]at hx;cases hx
    have r:=S V w (λj p O=>C j (f j p) (u _ O)) (λb J=>q.base b (u _ J)) ⟨L,a,E,λi y=>⟨f i y,λd hd=>v i d (f i y) hd⟩⟩;rw[<-M]at r;exact Ah (λi s z=>zH t s z) B _ L a w n (Xx _) oM q.size m D r
   ·refine⟨λJ=>?_,λi y=>?_⟩
    ·exact absurd (λj p=>q.full R J j oM) f
    ·obtain⟨s,o,ho,m⟩:=mem_ready.1 y;have u:=(XY.1 ho).1;have G:on L i=false:=by
      unfold on;rw[XI]at s⊢;cases hh:L[i]? with
      | none=>rfl
      | some b=>rw[hh]at s;exact s
     have v:i<n:=by
      rcases Zq i n with h|h
      ·exact h
      ·exfalso;rcases Zq n i with z|z
       ·have:=gZ ho m (zH t z u);rw[c (i-1) oM]at this;cases this
       ·obtain rfl:i=n:=oM;refine f λj p=>?_
        unfold mZ at t;rw[XO]at t;have r:=Yj.1 t.1 j (YZ.2 p);unfold nU at r;rw[Z1]at r;rcases r with r|r
        ·exact gZ ho m r
        ·obtain⟨x,hx,C⟩:=yDH.1 r;rw[XO]at C;exact xR q 4 x j (by have:=YZ.1 hx;omega) (gZ ho m C.1) C.2
     refine yCa (λA w' r=>ih _ A w' (by have:=mH s;omega) (λj p=>?_) r.1 r.2) (H i o L a w v (λj p=>?_) ho G m q E)
     ·rw[eD (by rw[q.size];exact u),c j p];simp only[Bool.false_or,beq_eq_false_iff_ne];omega
     ·rcases Zq j n with h|h
      ·exact h
      ·rw[c j h]at p;cases p
 have c:∀i,on (XL ops.size false) i=false:=λi=>by
  unfold on;rw[XI,Array.getElem?_replicate];by_cases h:i<ops.size
  ·rw[yES h];rfl
  ·rw[yET h];rfl
 refine wp_region_any K (key _ _ a0 _ ?_ (λj _=>c j) ⟨XU,(λi o _ h=>by rw[c]at h;cases h),rfl,rfl,λ_ _=>rfl,⟨λ_=>Zp,λi d h=>(by rw[c]at h;cases h),λi h=>(by rw[c]at h;cases h)⟩,λb _=>I b⟩ (N _ c));unfold unl;rw[Array.toList_replicate,List.countP_replicate];simp
theorem qU{id:Nat}(F:Flow)(n:Nat)(g:n<ops.size)(e:mZ ops n=true)(j:P.follows .mixedOrders=true)(R:RegF P Q F ops a0 n)(f:∀b,F.B b w.drew)
 (r:∀(V:Nat->Xu) (w':Xs),(∀i,i<n->F.kill i=[]->F.R i (V i) w')->(∀b,F.killB b=[]->F.B b w')->wpList P ops Q (ops.toList.drop n) (bY V (ops.toList.take n) 0 a0) w'):(Zd id ops true).wp P Q a0 w:=
 yT F n (λ_ _=>True) g e j R f (λ_ _=>trivial) (λk o L a w c d m p q l _=>yCa (λ_ _ h=>⟨h,yEU⟩) (FM R c d m p q l)) λV w' c d _=>r V w' c d
theorem Gw.tail2{id:Nat}(G:Gw)(n:Nat)(k:(decide (n<ops.size) && mZ ops n)=true)(e:P.follows .mixedOrders=true)(f:BQ ops a0.tmps.size=true)(h:iY P Q G.flow ops a0 0 (ops.toList.take n))(j:G.B w.drew)
 (g:∀(V:Nat->Xu) (w':Xs),(∀i,i<n->G.R i (V i) w')->G.B w'->wpList P ops Q (ops.toList.drop n) (bY V (ops.toList.take n) 0 a0) w'):(Zd id ops true).wp P Q a0 w:=by
 rw[XO,decide_eq_true_eq]at k;exact qU G.flow n k.1 k.2 e (Gw.reg f h) (λ_=>j) λV w' b c=>g V w' (λi d=>b i d rfl) (c 0 rfl)
end RG
section
variable {P:Nat}[NeZero P]{N:Nat}
structure FdM(w W:Xs)(K k4 k5 n i x y:Nat)(f:Nat->List (Nat × Bs)):Prop where
 ls:LsI w W K n i f
 r4:Row W k4 (wn x)
 r5:Row W k5 (wn y)
theorem FdM.grow{w W W':Xs}{K b c n i x y:Nat}{f:Nat->List (Nat × Bs)}(h:FdM w W K b c n i x y f)(k:kZ W W'):FdM w W' K b c n i x y f:=⟨h.ls.grow k,h.r4.below k,h.r5.below k⟩
theorem FdM.drew{w W:Xs}{K k b n i x y:Nat}{f:Nat->List (Nat × Bs)}(h:FdM w W K k b n i x y f):FdM w W.drew K k b n i x y f:=h.grow ⟨rfl,rfl,rfl,Xx _,λ_ _=>rfl⟩
theorem FdM.put{w W:Xs}{K k b n i x y:Nat}{f:Nat->List (Nat × Bs)}{v:Xu}(h:FdM w W K k b n i x y f)(d:i<n)(c:k≠K)(e:b≠K)(hv:SmQ (λg=>w.heap.size<=g/\g≠K) W v (f i)):FdM w (W.setCells K i [v]) K k b n (i+1) x y f:=
 ⟨h.ls.put d hv,aP h.r4 c,aP h.r5 e⟩
theorem LA(O:Ord N){Q:Nat->Prop}(n:Nat)(hn:n<=500)(c:Nat)(hc:c<=200)(hk:0<c)(a:Nat->List (Nat × Bs))(x y:Nat)(hx:x<N)(r:y<N)(ha:∀i,i<n+n->TOk N (a i)/\(a i).length=c)(va:Xu)(w:Xs)(h1:GLq Q w va (n+n) a):
 XH prog 190 #[va,nv x,nv y] w (rZ w λe w'=>GLq (w.heap.size<=·) w' e n (lT N x y n a)):=by
 obtain⟨b,d,c1,rfl,-,-,h5,h2⟩:=h1;obtain⟨m,hm⟩:=hE (n+n);have hq:(m:Int).tdiv 2=(n:Int):=by rw[<-hm.out,yAF oM];omega
 obtain⟨M,h9,G,P,I,o⟩:=Vt w x y;obtain⟨C0,h0,h7⟩:=CO uSu iSu n oM;have h6:=h7 M;obtain⟨K,hK⟩:=hE (M.heap.size);obtain⟨w3,H⟩:=hE (M.alloc (.cells C0.toArray 82));have R:Ar M w3 K 1 n 0 (λ_=>[]):=Ar.new _ h0 H.out hK.out;rw[H.out,hK.out]at h6;obtain⟨f,q⟩:=hE (w.heap.size);rw[q.out]at P I o;have HK:Hid (K=f+2/\w.heap.size<=f):=⟨by rw[<-hK.out,o],by rw[q.out];exact Xx _⟩
 have K1:Hid (FdM w w3 K f (f+1) n 0 x y (lT N x y n a)):=⟨⟨G.trans (R.bl.mono G.size),R.lt,by have:=R.th;rwa[ZU]at this,by have:=HK.out;omega,λj hj=>absurd hj (ZV _)⟩,P.below R.bl,I.below R.bl⟩
 have l:=mk8 O hx r ha h2 h5 hc hk;obtain⟨vx,X⟩:=hE (nv x);obtain⟨vy,h3⟩:=hE (nv y);obtain⟨S,L⟩:=hE (w.alloc (.cells (wn x).toArray 44));have B1:Hid ((Yl 44 vx).run prog w=.ok (jZ f) S):=by rw[<-X.out,<-L.out,<-q.out];exact boxS x w
 have B2:Hid ((Yl 44 vy).run prog S=.ok (.pointer (some ⟨f+1,0,none⟩)) M):=by
  have h:=boxS y S;rw[show S.heap.size=f+1 by rw[<-L.out,XF,q.out]]at h;have e:S.alloc (.cells (wn y).toArray 44)=M:=by rw[<-L.out];exact h9.out
  rw[e]at h;rw[<-h3.out];exact h
 rw[X.out,h3.out,hm.out];clear O hx r ha h2 h5 hc hk G P I o R h0 h7 hK H q h9;go_enter func190,ntmps190;go_wp2_with (first|(refine aG (u:=vx) (v:=jZ f) (w':=S) rfl 44 (.tmp 1) rfl ?_ ?_ ?_;rfl;exact B1.out)|(refine aG (u:=vy) (v:=.pointer (some ⟨f+1,0,none⟩)) (w':=M) rfl 44 (.tmp 2) rfl ?_ ?_ ?_;rfl;exact B2.out)|fail)
 go_loopg [15] n (λm s15 W=>∃i:Nat,i+m=n/\s15=iZ i/\Hid (FdM w W K f (f+1) n i x y (lT N x y n a)))
 case atStart=>exact⟨0,oM,rfl,K1⟩
 case round =>
  obtain⟨i,k6,rfl,KM⟩:=hrel;by_cases hi:i<n
  ·have k1:(i:Int)<(n:Int):=oM;have HL:=Hid.mk' hi;have KP:=KM;go_wp2_with fail
   obtain⟨E,hl,k0⟩:=l.2.2.2.2.1 i oM;obtain⟨B,hw,o⟩:=l.2.2.2.2.1 (n+i) oM;have HX:=mk4 hl k0 hw o;have s:=mk2 (l.2.2.2.1 i oM) (l.2.2.2.1 (n+i) oM);have HZ:=mk1 (l.2.2.2.2.2.2);obtain⟨D,A⟩:=hE ((a i).map (tmT N x));obtain⟨F,C⟩:=hE ((a (n+i)).map (tmT N y));have HQ:Hid (lT N x y n a i=D++F):=by show _=_;rw[<-A.out,<-C.out];rfl
   have HY:Hid (D.length=c/\F.length=c/\TOk N D/\TOk N F):=⟨by rw[<-A.out,XV];exact s.1.2,by rw[<-C.out,XV];exact s.2.2,by rw[<-A.out];exact s.1.1.tm l.1.pos x,by rw[<-C.out];exact s.2.1.tm l.1.pos y⟩
   have U:=λ(W:Xs) (k:kZ w W)=>eH l.1 l.2.1 0 E (a i) (by rw[s.1.2];have:=HZ.out;omega) s.1.1.szm s.1.1.lt W (HX.2.1.sm.grow k)
   have h8:=λ(W:Xs) (k:kZ w W)=>eH l.1 l.2.2.1 0 B (a (n+i)) (by rw[s.2.2];have:=HZ.out;omega) s.2.1.szm s.2.1.lt W (HX.2.2.2.sm.grow k)
   have k2:=λ(W:Xs) (u v:Xu) (hu:Sm 0 W u D) (hv:Sm 0 W v F)=>cA 0 u v D F (by rw[XC];have:=HY.1;have:=HZ.out;omega) (by have:=HY.1;have:=HZ.out;omega) (by have:=HY.2.1;have:=HZ.out;omega) HY.2.2.1.sz HY.2.2.2.sz W (X0 hu) (X0 hv)
   rw[A.out]at U;rw[C.out]at h8;have hz:∀W,kZ w W->W.cell? ⟨b,d+1*i,none⟩=some E:=λW k=>by rw[ZU,k.cell (p:=⟨b,d+i,none⟩) l.2.2.2.2.2.1];exact HX.1
   have hr:∀W,kZ w W->W.cell? ⟨b,d+1*(n+i),none⟩=some B:=λW k=>by rw[ZU,k.cell (p:=⟨b,d+(n+i),none⟩) l.2.2.2.2.2.1];exact HX.2.2.1
   have k5:i<m:=by rw[<-hm.out];omega
   have Y:n+i<m:=by rw[<-hm.out];omega
   refine(gwL [pE (sZ K n n),pE (iZ i),pE (.slice (some ⟨b,d,none⟩) m c1),pE (iZ i),pE (.pointer (some ⟨b,d+1*i,none⟩)),pE E,pE (.iface 82 E),pE (nv x),pM (λg=>w.heap.size<=g/\g≠K) D,pI 82 (pM (λg=>w.heap.size<=g/\g≠K) D),pE (.slice (some ⟨b,d,none⟩) m c1),pE (sZ K n n),pE (iZ n),pE (iZ i),pE (iZ ((n+i:Nat):Int)),pE (.pointer (some ⟨b,d+1*(n+i),none⟩)),pE B,pE (.iface 82 B),pE (nv y),pM (λg=>w.heap.size<=g/\g≠K) F,pM (λg=>w.heap.size<=g/\g≠K) (D++F),pE (.pointer (some ⟨K,0+1*i,none⟩))] (λW=>FdM w W K f (f+1) n i x y (lT N x y n a)) (λW W' J h=>h.grow J)).last 22 kR kR kR ⟨
    gO 7 (sZ K n n),
    gO 8 (iZ i),
    gO 0 (.slice (some ⟨b,d,none⟩) m c1),
    gO 8 (iZ i),
    BF 2 20 3 21 (.slice (some ⟨b,d,none⟩) m c1) (iZ i) (.pointer (some ⟨b,d+1*i,none⟩)) (Yi 148 (.slice (some ⟨b,d,none⟩) m c1) (iZ i)) (atS b d m c1 i k5) (λx W h=>h) (λx W h=>h) (λ_=>rfl),
    fF 82 4 22 b (d+1*i) E A9 (λx W h=>h) (λW k=>hz W k.ls.bl) (λ_=>rfl),
    rX 5 23 E (.iface 82 E) (λx W h=>h) (λ_=>rfl),
    iN 44 4 f 0 (wn x) rSc nSc rfl (λW k=>k.r4.2.1) (λ_=>rfl),
    qF 82 6 24 7 25 (pE E) 149 (λx W h=>⟨_,h,rfl⟩) (λz u W hx r k=>by
     obtain rfl:z=E:=hx;obtain rfl:u=nv x:=r;refine(U W k.ls.bl).mono ?_;rintro e W' ⟨u,rfl,J,V⟩;exact⟨_,rfl,J,V.q.mono λg T=>⟨XB k.ls.bl.size T,by have:=k.ls.lt;omega⟩⟩),
    C3 8 26 (λv=>.iface 82 v) (λx W h=>⟨x,rfl,h⟩),
    gO 0 (.slice (some ⟨b,d,none⟩) m c1),
    gO 7 (sZ K n n),
    rX 11 29 (sZ K n n) (iZ n) (λx W h=>h) (λ_=>rfl),
    gO 8 (iZ i),
    Lh .add 3 3 30 31 rfl (λa W Z=>⟨_,_,iZ ((n+i:Nat):Int),Z.n 12 30 kR kR,Z.n 13 31 kR kR,kR,Qn n i oM W,rfl⟩),
    BF 10 28 14 32 (.slice (some ⟨b,d,none⟩) m c1) (iZ ((n+i:Nat):Int)) (.pointer (some ⟨b,d+1*(n+i),none⟩)) (Yi 148 (.slice (some ⟨b,d,none⟩) m c1) (iZ ((n+i:Nat):Int))) (atS b d m c1 (n+i) Y) (λx W h=>h) (λx W h=>h) (λ_=>rfl),
    fF 82 15 33 b (d+1*(n+i)) B A9 (λx W h=>h) (λW k=>hr W k.ls.bl) (λ_=>rfl),
    rX 16 34 B (.iface 82 B) (λx W h=>h) (λ_=>rfl),
    iN 44 5 (f+1) 0 (wn y) rSc nSc rfl (λW k=>k.r5.2.1) (λ_=>rfl),
    qF 82 17 35 18 36 (pE B) 149 (λx W h=>⟨_,h,rfl⟩) (λz u W hx r k=>by
     obtain rfl:z=B:=hx;obtain rfl:u=nv y:=r;refine(h8 W k.ls.bl).mono ?_;rintro e W' ⟨u,rfl,J,V⟩;exact⟨_,rfl,J,V.q.mono λg T=>⟨XB k.ls.bl.size T,by have:=k.ls.lt;omega⟩⟩),
    qF 82 9 27 19 37 (pM (λg=>w.heap.size<=g/\g≠K) D) 31 (λx W h=>h) (λz u W hx r k=>by
     have hx:=hx;have r:=r;refine(k2 W z u hx.sm r.sm).mono ?_;rintro e W' ⟨u,rfl,J,V⟩;exact⟨_,rfl,J,V.q.mono λg T=>⟨XB k.ls.bl.size T,by have:=k.ls.lt;omega⟩⟩),
    BF 0 18 1 19 (sZ K n n) (iZ i) (.pointer (some ⟨K,0+1*i,none⟩)) (Yi 148 (sZ K n n) (iZ i)) (atS K 0 n n i HL.out) (λx W h=>h) (λx W h=>h) (λ_=>rfl),yEU⟩ KP.drew ?_
   intro V W3 h4 Z;have hS:=h4 20 dC;have T:=h4 21 dC;dsimp only[bY,YH,ZQ,ZR];simp only[XK,Xt,Xv,Xw];generalize V 20=vq at hS⊢;obtain⟨W4,he⟩:=hE (W3.setCells K i [vq]);have K4:Hid (FdM w W4 K f (f+1) n (i+1) x y (lT N x y n a)):=by
    have h:=Z.put (v:=vq) hi (by have:=HK.out;omega) (by have:=HK.out;omega) (by rw[HQ.out];exact hS);rw[he.out]at h;exact h
   have HT:Hid (W3.there K i 1):=λt ht=>by
    have k3:t=0:=oM;subst k3;have:=Z.ls.th i hi;rwa[XD]at this
   have HE:=Hid.mk' hS.one;rw[T,XD,ZU];go_wp2_with (first|(refine qI rfl 82 _ _ rfl K i vq ?_ ?_ HE.1 HE.2 HT.out UL ?_;rfl;rfl;rw[he.out])|fail)
   go_roundg (gk-1)
   case measure=>omega
   case rel=>exact⟨i+1,oM,rfl,K4⟩
  ·have k1:¬(i:Int)<(n:Int):=oM;obtain rfl:i=n:=oM;have K4:=mk2 KM.ls.bl KM.ls.gl;go_wp2;go_ret;exact⟨_,rfl,K4.1,K4.2⟩
structure GOk(N n c:Nat)(G H:Nat->List (Nat × Bs))(U:List (Nat × Bs)):Prop where
 n0:0<n
 c0:0<c
 cn:c*n<=64
 g:∀i,i<n->TOk N (G i)/\(G i).length=c
 h:∀i,i<n->TOk N (H i)/\(H i).length=c
 u:TOk N U
 u0:0<U.length
 u9:U.length<=16
theorem GOk.nle{n c:Nat}{G H:Nat->List (Nat × Bs)}{U:List (Nat × Bs)}(h:GOk N n c G H U):n<=64:=by
 have k:=h.cn;have:=Nat.mul_le_mul_right n h.c0;omega
theorem GOk.cle{n c:Nat}{G H:Nat->List (Nat × Bs)}{U:List (Nat × Bs)}(h:GOk N n c G H U):c<=64:=by
 have k:=h.cn;have:=yAR c h.n0;omega
theorem Dl(c b k:Xu)(w:Xs):(Yl 150 (.agg #[c,b,k])).run prog w=.ok (jZ w.heap.size) (w.alloc (.cells #[c,b,k] 150)):=kR
theorem uGL:(prog.underlying 148).map (·.isRow)=some false:=kR
theorem yK(O:Ord N){Q:Nat->Prop}(n c:Nat)(G H:Nat->List (Nat × Bs))(U:List (Nat × Bs))(hG:GOk N n c G H U)(a b:Nat->Nat)(X:∀i,i<n->a i<N)(j:∀i,i<n->b i<N)(v va p:Xu)(w:Xs)(h0:GRq Q w v n G H U)(h1:SLq Q w va n a)(h2:SLq Q w p n b):
 XH prog 78 #[v,va,p] w (rZ w λe w'=>Sm w.heap.size w' e (dF N a G n++dF N b H n)):=by
 obtain⟨m,l,D,rfl,T,Y,-⟩:=h0.ex;have q:=λ(W:Xs) (d:kZ w W)=>LR O n c hG.n0 hG.c0 (by have:=hG.nle;omega) (by have:=hG.cn;omega) a G X (λi f=>(hG.g i f).1) (λi f=>(hG.g i f).2) va m W (h1.keep (Kq.of_below d)) (T.keep (Kq.of_below d))
 have C:=λ(W:Xs) (d:kZ w W)=>LR O n c hG.n0 hG.c0 (by have:=hG.nle;omega) (by have:=hG.cn;omega) b H j (λi f=>(hG.h i f).1) (λi f=>(hG.h i f).2) p l W (h2.keep (Kq.of_below d)) (Y.keep (Kq.of_below d))
 have M:(dF N a G n).length=c*n:=fG N a n λi f=>(hG.g i f).2
 have L:(dF N b H n).length=c*n:=fG N b n λi f=>(hG.h i f).2
 have t1:TOk N (dF N a G n):=pU O.pos n λi f=>(hG.g i f).1
 have t2:TOk N (dF N b H n):=pU O.pos n λi f=>(hG.h i f).1
 have h5:=yDd hG.c0 hG.n0;have R:=hG.cn;generalize dF N a G n=B at q M t1⊢;generalize dF N b H n=lb at C L t2⊢;have I:=λ(W:Xs) (u z:Xu) (Z:Sm 0 W u B) (S:Sm 0 W z lb)=>cA 0 u z B lb (by rw[XC];omega) oM oM t1.sz t2.sz W (X0 Z) (X0 S)
 have F:=Hid.mk' (YP q (YP C I));obtain⟨E,s⟩:=hE (w.alloc (.cells #[m,l,D] 150));obtain⟨k,K⟩:=hE (w.heap.size);have J:Hid (Row E k [m,l,D]/\kZ w E):=by rw[<-s.out,<-K.out];exact⟨row_new w _ _,aC w _⟩
 obtain⟨v0,t⟩:=hE (X6 #[m,l,D]);have P:Hid ((Yl 150 v0).run prog w=.ok (jZ k) E):=by rw[<-t.out,<-s.out,<-K.out];exact Dl _ _ _ _
 rw[t.out];go_enter func78,ntmps78;go_wp2_with (first|(refine aG (u:=v0) (v:=jZ k) (w':=E) rfl 150 (.tmp 0) rfl ?_ ?_ ?_;rfl;exact P.out)|fail)
 refine(gwL [pE va,pE (jZ k),pE m,pM (w.heap.size<=·) B,pE p,pE (oZ k 1),pE l,pM (w.heap.size<=·) lb,pM (w.heap.size<=·) (B++lb),pM (w.heap.size<=·) (B++lb)] (λW=>Row W k [m,l,D]/\kZ w W) (λW W' j h=>⟨h.1.below j,h.2.trans (j.mono h.2.size)⟩)).draws kR kR ⟨
  gO 1 va,
  gO 3 (jZ k),
  fF 148 1 8 k 0 m uGL (λx W h=>h) (λW d=>d.1.2.1 0 _ rfl) (λ_=>rfl),
  eF 0 7 2 9 132 (λx y=>#[x,y]) (λx y W hx o d=>by
   obtain rfl:x=va:=hx;obtain rfl:y=m:=o;refine(F.1 W d.2).mono ?_;rintro e W' ⟨u,rfl,j,A⟩;exact⟨_,rfl,j,A.q.mono λg r=>XB d.2.size r⟩),
  gO 2 p,
  gP 3 (jZ k) (oZ k 1),
  fF 148 5 12 k 1 l uGL (λx W h=>h) (λW d=>d.1.2.1 1 _ rfl) (λ_=>rfl),
  eF 4 11 6 13 132 (λx y=>#[x,y]) (λx y W hx o d=>by
   obtain rfl:x=p:=hx;obtain rfl:y=l:=o;refine(F.2.1 W d.2).mono ?_;rintro e W' ⟨u,rfl,j,A⟩;exact⟨_,rfl,j,A.q.mono λg r=>XB d.2.size r⟩),
  eF 3 10 7 14 31 (λx y=>#[x,y]) (λx y W hx o d=>by
   have hx:=hx;have o:=o;refine(F.2.2 W x y hx.sm o.sm).mono ?_;rintro e W' ⟨u,rfl,j,A⟩;exact⟨_,rfl,j,A.q.mono λg r=>XB d.2.size r⟩),
  C3 8 15 id (λx W h=>h),yEU⟩ ⟨J.1,J.2.drew⟩ ?_
 intro V A hR d;have r:=mk1 (hR 9 (ZW (Yy kR)));have o:=mk1 (d.2);dsimp only[bY,YH];simp only[XK,Xt,Xv,Xw];go_wp2;go_ret;exact⟨_,rfl,o.out,r.out⟩
theorem GF(O:Ord N){Q:Nat->Prop}(n c:Nat)(G H:Nat->List (Nat × Bs))(U:List (Nat × Bs))(hG:GOk N n c G H U)(a b:Nat->Nat)(X:∀i,i<n->a i<N)(f:∀i,i<n->b i<N)(v va m:Xu)(w:Xs)(Y:GRq Q w v n G H U)(h1:SLq Q w va n a)(h2:SLq Q w m n b):
 XH prog 143 #[v,va,m] w (rZ w λe w'=>Sm w.heap.size w' e (KY N a b (prS N a b n) G H U n)):=by
 have B:=λ(W:Xs) (d:kZ w W)=>yK O n c G H U hG a b X f v va m W (Y.keep (Kq.of_below d)) (h1.keep (Kq.of_below d)) (h2.keep (Kq.of_below d))
 have E:=λ(W:Xs) (d:kZ w W)=>BP O n (by have:=hG.nle;omega) a b X f va m W (h1.keep (Kq.of_below d)) (h2.keep (Kq.of_below d))
 obtain⟨s,r,j,rfl,-,-,h5⟩:=Y.ex;have l1:(dF N a G n).length=c*n:=fG N a n λi q=>(hG.g i q).2
 have l2:(dF N b H n).length=c*n:=fG N b n λi q=>(hG.h i q).2
 have t1:TOk N (dF N a G n):=pU O.pos n λi q=>(hG.g i q).1
 have t2:TOk N (dF N b H n):=pU O.pos n λi q=>(hG.h i q).1
 have h4:=yDd hG.c0 hG.n0;have h3:=hG.cn;unfold KY;have pl:=Bp O.pos a b n;have P:=hG.u.tm O.pos (prS N a b n);have T:(U.map (tmT N (prS N a b n))).length<=16:=by rw[XV];exact hG.u9
 generalize prS N a b n=p at E pl P T⊢;have F:=λ(W:Xs) (d:kZ w W)=>eH O pl 0 j U (by have:=hG.u9;omega) hG.u.szm hG.u.lt W (h5.sm.grow d)
 generalize U.map (tmT N p)=I at F P T⊢;have R:=t1.app t2;have l4:(dF N a G n++dF N b H n).length=c*n+c*n:=by rw[XC,l1,l2]
 generalize dF N a G n++dF N b H n=l at B R l4⊢;have M:=λ(W:Xs) (u z:Xu) (hu:Sm 0 W u l) (L:Sm 0 W z I)=>cA 0 u z l I (by rw[XC];omega) oM oM R.sz P.sz W (X0 hu) (X0 L)
 have J:=Hid.mk' (YP B (YP E (YP F M)));obtain⟨K,A⟩:=hE (w.alloc (.cells #[s,r,j] 150));obtain⟨k,Z⟩:=hE (w.heap.size);have S:Hid (Row K k [s,r,j]/\kZ w K):=by rw[<-A.out,<-Z.out];exact⟨row_new w _ _,aC w _⟩
 obtain⟨v0,C⟩:=hE (X6 #[s,r,j]);have B1:Hid ((Yl 150 v0).run prog w=.ok (jZ k) K):=by rw[<-C.out,<-A.out,<-Z.out];exact Dl _ _ _ _
 rw[C.out];go_enter func143,ntmps143;go_wp2_with (first|(refine aG (u:=v0) (v:=jZ k) (w':=K) rfl 150 (.tmp 0) rfl ?_ ?_ ?_;rfl;exact B1.out)|fail)
 refine(gwL [pE (.agg #[s,r,j]),pE va,pE m,pM (w.heap.size<=·) l,pE (oZ k 2),pE j,pE va,pE m,pE (nv p),pM (w.heap.size<=·) I,pM (w.heap.size<=·) (l++I),pM (w.heap.size<=·) (l++I)] (λW=>Row W k [s,r,j]/\kZ w W) (λW W' f h=>⟨h.1.below f,h.2.trans (f.mono h.2.size)⟩)).draws kR kR ⟨
  iN 150 3 k 0 [s,r,j] uGr iGr rfl (λW d=>d.1.2.1) (λ_=>rfl),
  gO 1 va,
  gO 2 m,
  nG 0 7 1 8 2 9 78 (λx y z=>#[x,y,z]) (λx y z W hx o L d=>by
   obtain rfl:x=.agg #[s,r,j]:=hx;obtain rfl:y=va:=o;obtain rfl:z=m:=L;refine(J.1 W d.2).mono ?_;rintro e W' ⟨u,rfl,f,D⟩;exact⟨_,rfl,f,D.q.mono λg t=>XB d.2.size t⟩),
  gP 3 (jZ k) (oZ k 2),
  fF 82 4 11 k 2 j A9 (λx W h=>h) (λW d=>d.1.2.1 2 _ rfl) (λ_=>rfl),
  gO 1 va,
  gO 2 m,
  eF 6 13 7 14 87 (λx y=>#[x,y]) (λx y W hx o d=>by
   obtain rfl:x=va:=hx;obtain rfl:y=m:=o;refine(J.2.1 W d.2).mono ?_;rintro e W' ⟨u,rfl,f,rfl⟩;exact⟨_,rfl,f,rfl⟩),
  eF 5 12 8 15 149 (λx y=>#[x,y]) (λx y W hx o d=>by
   obtain rfl:x=j:=hx;obtain rfl:y=nv p:=o;refine(J.2.2.1 W d.2).mono ?_;rintro e W' ⟨u,rfl,f,D⟩;exact⟨_,rfl,f,D.q.mono λg t=>XB d.2.size t⟩),
  eF 3 10 9 16 31 (λx y=>#[x,y]) (λx y W hx o d=>by
   have hx:=hx;have o:=o;refine(J.2.2.2 W x y hx.sm o.sm).mono ?_;rintro e W' ⟨u,rfl,f,D⟩;exact⟨_,rfl,f,D.q.mono λg t=>XB d.2.size t⟩),
  C3 10 17 id (λx W h=>h),yEU⟩ ⟨S.1,S.2.drew⟩ ?_
 intro V D hR d;have t:=mk1 (hR 11 (ZW (Yy kR)));have o:=mk1 (d.2);dsimp only[bY,YH];simp only[XK,Xt,Xv,Xw];go_wp2;go_ret;exact⟨_,rfl,o.out,t.out⟩
end
namespace RG
variable {P:YG}{ops:Array Yo}{Q:Exit->Act->Xs->Prop}{w:Xs}{a0:Act}{G:Gw}{S:Xs->Xs->Prop}{m k:Nat}{o:Yo}
def Gw.st(G:Gw)(m:Nat)(S:Xs->Xs->Prop):Flow:=⟨G.R,λ_=>G.B,λi w w'=>(i=m/\S w w')\/kZ w w',λ_=>[],λ_=>[]⟩
theorem jX(h:bE P Q G.flow ops a0 k o):bE P Q (G.st m S) ops a0 k o:=λa w K c d e b=>h a w K c d e λv w' hE hR=>b v w' (X0 hE) hR
theorem VX(h:∀(a:Act) (w:Xs),PreG G ops a0 m o a w->∃w',(Yb a.eval o).run P w=.ok .skip w'/\S w w'/\G.R m Zp w'):bE P Q (G.st m S) ops a0 m o:=by
 intro a w K c f i e;obtain⟨w',g,k,hR⟩:=h a w ⟨λj d b hd=>c j d b rfl hd,f,i 0 rfl⟩;unfold YV;rw[g];exact e _ _ (X9 ⟨rfl,k⟩) hR
theorem Gw.tailS{id:Nat}(G:Gw)(m:Nat)(S:Xs->Xs->Prop)(n:Nat)(o:∀j v w w',j≠m->S w w'->G.R j v w->G.R j v w')(c:∀w w',S w w'->G.B w->G.B w')(d:(decide (n<ops.size) && mZ ops n)=true)(q:P.follows .mixedOrders=true)(p:BQ ops a0.tmps.size=true)(h:iY P Q (G.st m S) ops a0 0 (ops.toList.take n))(k:G.B w.drew)
 (t:∀(V:Nat->Xu) (w':Xs),(∀i,i<n->G.R i (V i) w')->G.B w'->wpList P ops Q (ops.toList.drop n) (bY V (ops.toList.take n) 0 a0) w'):(Zd id ops true).wp P Q a0 w:=by
 rw[XO,decide_eq_true_eq]at d;refine qU (G.st m S) n d.1 d.2 q ⟨p,uF h,λi j _ _ l _ _ v w w' hE hR=>?_,λi b _ _ w w' hE k=>?_⟩ (λ_=>k) λV w' r s=>t V w' (λi f=>r i f rfl) (s 0 rfl)
 ·rcases hE with⟨f,g⟩|hE
  ·exact o j v w w' (λe=>l (f.trans e.symm)) g hR
  ·exact G.sR j v w w' hE hR
 ·rcases hE with⟨-,g⟩|hE
  ·exact c w w' g k
  ·exact G.sB w w' hE k
end RG
section
variable {P:Nat}[NeZero P]{N:Nat}
theorem qR{P:YG}{m:Func}{tmps:Array Xu}{W:Xs}{k c:Nat}{vs us:List Xu}(t l:Zs)(T e:Yd)(p:m.results=#[.cell t T,.cell l e])(h:Row W k vs)(n:Row W c us)(s:tmps[t]? = some (jZ k))(f:tmps[l]? = some (jZ c))
 (j:(P.underlying T).map (·.isRow)=some true) (o:(P.info? T).map (·.size)=some vs.length) (b:(P.underlying e).map (·.isRow)=some true) (g:(P.info? e).map (·.size)=some us.length):(results m tmps).run P W=.ok (.tuple #[.agg vs.toArray,.agg us.toArray]) W:=by
 obtain⟨d,j,hd⟩:=XA.1 j;obtain⟨w,b,i⟩:=XA.1 b;have u:=yAA (P:=P) W k 0 T vs d h.2.1 j hd o;have q:=yAA (P:=P) W c 0 e us w n.2.1 b i g;have v:tmps.getD t Zp=jZ k:=by rw[XI,s];rfl
 have r:tmps.getD l Zp=jZ c:=by rw[XI,f];rfl
 unfold results;rw[p];simp only[ZP,yA3,yBc,v,r,asAddr];simp[XT,u,q]
section
variable {P:YG}{ops:Array Yo}{rest:List Yo}{op:Yo}{a:Act}{w w':Xs}{v:Xu}{Q:Exit->Act->Xs->Prop}
theorem fU(k:op.guard=none)(T:Yd)(t:Zs)(_:op.op=.alloc T)(_:op.dst=some t)(c:(Yb a.eval op).run P w=.ok (.value v) w')(h:wpList P ops Q rest (a.put op.dst v) w'):wpList P ops Q (op :: rest) a w:=
 ZH k λK b=>by
  unfold YV;rw[c];exact b _ _ h
end
theorem Qm(g o j:Nat):(⟨g,o,none⟩:YW).add j=⟨g,o+j,none⟩:=by
 unfold Addr.add;by_cases k:j=0
 ·subst k;rw[yES rfl];rfl
 ·rw[yET k]
theorem JD(b o n c k:Nat)(d:k<=c)(w:Xs):(Zk 148 (.slice (some ⟨b,o,none⟩) n c) none (some (iZ k)) none).run prog w=.ok (.slice (some ⟨b,o,none⟩) k c) w:=by
 have e:¬(k:Int)<0:=oM;have f:(k:Int)<=(c:Int):=oM;go_simp
theorem JC(b o n c k:Nat)(d:k<n)(i:n<=c)(w:Xs):(Zk 148 (.slice (some ⟨b,o,none⟩) n c) (some (iZ k)) none none).run prog w=.ok (.slice (some ⟨b,o+k,none⟩) (n-k) (c-k)) w:=by
 have f:¬(k:Int)<0:=oM;have g:(k:Int)<=(n:Int):=oM;have j:¬c=k:=oM;have e:=Qm b o (1*k);rw[ZU]at e;go_simp
theorem DY(b o n c k:Nat)(d:k<=c)(w:Xs):(Zk 143 (.slice (some ⟨b,o,none⟩) n c) none (some (iZ k)) none).run prog w=.ok (.slice (some ⟨b,o,none⟩) k c) w:=by
 have e:¬(k:Int)<0:=oM;have f:(k:Int)<=(c:Int):=oM;go_simp
theorem DX(b o n c k:Nat)(d:k<n)(i:n<=c)(w:Xs):(Zk 143 (.slice (some ⟨b,o,none⟩) n c) (some (iZ k)) none none).run prog w=.ok (.slice (some ⟨b,o+k*4,none⟩) (n-k) (c-k)) w:=by
 have f:¬(k:Int)<0:=oM;have g:(k:Int)<=(n:Int):=oM;have j:¬c=k:=oM;have e:=Qm b o (k*4);rw[YF]at e;rw[YF k 4];go_simp
theorem GLq.high{Q:Nat->Prop}{W:Xs}{g o n c:Nat}{T:Nat->List (Nat × Bs)}(h:GLq Q W (.slice (some ⟨g,o,none⟩) (n+n) c) (n+n) T):GLq Q W (.slice (some ⟨g,o+n,none⟩) n (c-n)) n (λi=>T (n+i)):=by
 obtain⟨r,p,q,e,s,f,b,d⟩:=h;injection e with e1 e2 e3
 injection e1 with e1
 injection e1 with e1 e4
 subst e1 e3 e4;refine⟨g,o+n,c-n,rfl,oM,f,b,λj m=>?_⟩;obtain⟨x,l,k⟩:=d (n+j) oM;exact⟨x,by rw[Nat.add_assoc];exact l,k⟩
theorem GLq.low{Q:Nat->Prop}{W:Xs}{g o n c:Nat}{T:Nat->List (Nat × Bs)}(h:GLq Q W (.slice (some ⟨g,o,none⟩) (n+n) c) (n+n) T):GLq Q W (.slice (some ⟨g,o,none⟩) n c) n T:=by
 obtain⟨l,p,m,e,i,d,b,k⟩:=h;injection e with e1 e2 e3
 injection e1 with e1
 injection e1 with e1 e4
 subst e1 e3 e4;exact⟨g,o,c,rfl,oM,d,b,λj f=>k j oM⟩
theorem SLq.high{Q:Nat->Prop}{W:Xs}{g o n c:Nat}{T:Nat->Nat}(h:SLq Q W (.slice (some ⟨g,o,none⟩) (n+n) c) (n+n) T):SLq Q W (.slice (some ⟨g,o+n*4,none⟩) n (c-n)) n (λi=>T (n+i)):=by
 obtain⟨p,l,m,e,q,d,k,b⟩:=h;injection e with e1 e2 e3
 injection e1 with e1
 injection e1 with e1 e4
 subst e1 e3 e4;refine⟨g,o+n*4,c-n,rfl,oM,d,k,λj f=>?_⟩;have:=b (n+j) oM;rw[show o+4*(n+j)=o+n*4+4*j by omega]at this;exact this
theorem SLq.low{Q:Nat->Prop}{W:Xs}{g o n c:Nat}{T:Nat->Nat}(h:SLq Q W (.slice (some ⟨g,o,none⟩) (n+n) c) (n+n) T):SLq Q W (.slice (some ⟨g,o,none⟩) n c) n T:=by
 obtain⟨l,p,m,e,i,d,b,k⟩:=h;injection e with e1 e2 e3
 injection e1 with e1
 injection e1 with e1 e4
 subst e1 e3 e4;exact⟨g,o,c,rfl,oM,d,b,λj f=>k j oM⟩
def CrR(Q:Nat->Prop)(w:Xs)(n:Nat)(G H:Nat->List (Nat × Bs))(U:List (Nat × Bs))(e:Xu)(w':Xs):Prop:=kZ w w'/\∃k b,e=.tuple #[.agg k,.agg b]/\k.size=3/\b.size=3/\k.all (·.oneCell')=true/\b.all (·.oneCell')=true/\GRq Q w' (.agg k) n (λi=>G (n+i)) H U/\GRq Q w' (.agg b) n G (λi=>H (n+i)) U
theorem IC{Q:Nat->Prop}(n:Nat)(he:0<n)(hn:n<=500)(G H:Nat->List (Nat × Bs))(U:List (Nat × Bs))(v:Xu)(w:Xs)(h0:GRq Q w v (n+n) G H U):
 XH prog 142 #[v] w (Ret (CrR Q w n G H U)):=by
 obtain⟨vg,vh,b,rfl,h3,h4,h5⟩:=h0.ex;obtain⟨c,d,c1,rfl,h6,-⟩:=id h3;obtain⟨g,f,c2,rfl,S,-⟩:=id h4;obtain⟨g3,c3,rfl,-⟩:=id h5;have N:Hid (GLq Q w (.slice (some ⟨c,d+n,none⟩) n (c1-n)) n (λi=>G (n+i))/\GLq Q w (.slice (some ⟨g,f,none⟩) n c2) n H/\GLq Q w (.slice (some ⟨c,d,none⟩) n c1) n G/\GLq Q w (.slice (some ⟨g,f+n,none⟩) n (c2-n)) n (λi=>H (n+i))/\SmQ Q w (sZ g3 U.length c3) U):=⟨h3.high,h4.low,h3.low,h4.high,h5⟩
 have y:=JC c d (n+n) c1 n oM h6;have C:=JD g f (n+n) c2 n oM;have D:=JD c d (n+n) c1 n oM;have A:=JC g f (n+n) c2 n oM S;rw[Nat.add_sub_cancel]at y A;obtain⟨m,hm⟩:∃m,Hid (n+n=m):=⟨_,rfl⟩
 have hq:(m:Int).tdiv 2=(n:Int):=by rw[<-hm.out,yAF oM];omega
 rw[hm.out]at y C D A;rw[hm.out];obtain⟨b,r⟩:∃v,Hid (sZ g3 U.length c3=v):=⟨_,rfl⟩
 have h9:b.oneCell'=true:=by rw[<-r.out];rfl
 rw[r.out]at N;rw[r.out];obtain⟨k,R⟩:∃k,Hid (w.heap.size=k):=⟨_,rfl⟩
 obtain⟨B,z⟩:∃B,Hid (w.alloc (.cells #[.slice (some ⟨c,d,none⟩) m c1,.slice (some ⟨g,f,none⟩) m c2,b] 150)=B):=⟨_,rfl⟩
 obtain⟨P,O⟩:∃P,Hid (B.alloc (.cells #[.slice none 0 0,.slice none 0 0,.slice none 0 0] 150)=P):=⟨_,rfl⟩
 obtain⟨I,h8⟩:∃I,Hid (P.alloc (.cells #[.slice none 0 0,.slice none 0 0,.slice none 0 0] 150)=I):=⟨_,rfl⟩
 have X:P.heap.size=k+2:=by rw[<-O.out,XF,<-z.out,XF,R.out]
 have E:B.heap.size=k+1:=by rw[<-z.out,XF,R.out]
 have J:Hid (kZ w I/\Row I k [.slice (some ⟨c,d,none⟩) m c1,.slice (some ⟨g,f,none⟩) m c2,b]/\Row I (k+1) [.slice none 0 0,.slice none 0 0,.slice none 0 0]/\Row I (k+2) [.slice none 0 0,.slice none 0 0,.slice none 0 0]):=by
  have b1:kZ w B:=by rw[<-z.out];exact aC _ _
  have p:Row B k [.slice (some ⟨c,d,none⟩) m c1,.slice (some ⟨g,f,none⟩) m c2,b]:=by rw[<-z.out,<-R.out];exact row_new w _ _
  have o:=row_new B [.slice none 0 0,.slice none 0 0,.slice none 0 0] 150;have l:=row_new (B.alloc (.cells #[.slice none 0 0,.slice none 0 0,.slice none 0 0] 150)) [.slice none 0 0,.slice none 0 0,.slice none 0 0] 150;rw[XF,E]at l;rw[E]at o;rw[<-h8.out,<-O.out];exact⟨(b1.alloc b1.size _).alloc (by rw[XF];have:=b1.size;omega) _,(p.alloc _).alloc _,o.alloc _,l⟩
 obtain⟨v0,h7⟩:∃v,Hid (X6 #[.slice (some ⟨c,d,none⟩) m c1,.slice (some ⟨g,f,none⟩) m c2,b]=v):=⟨_,rfl⟩
 have B1:Hid ((Yl 150 v0).run prog w=.ok (jZ k) B):=by rw[<-h7.out,<-z.out,<-R.out];exact Dl _ _ _ _
 rw[h7.out];have HK:Hid (w.heap.size=k):=R;have HV:Hid (b.oneCell'=true):=h9;have HZ:Hid (B.heap.size=k+1/\P.heap.size=k+2):=⟨E,X⟩
 have cK:I.cell? ⟨k,0,none⟩=some (.slice (some ⟨c,d,none⟩) m c1):=J.2.1.2.1 0 _ rfl;clear h0 h3 h4 h5 h6 S h9 R E X;go_enter func142,ntmps142;go_wp2_with (first|(refine aG (u:=v0) (v:=jZ k) (w':=B) rfl 150 (.tmp 0) rfl ?_ ?_ ?_;rfl;exact B1.out)|(refine fU (v:=.pointer (some ⟨k+1,0,none⟩)) (w':=P) rfl 150 2 rfl rfl ?_ ?_;(rw[<-O.out,<-HZ.1];kernel_rfl))|(refine fU (v:=.pointer (some ⟨k+2,0,none⟩)) (w':=I) rfl 150 3 rfl rfl ?_ ?_;(rw[<-h8.out,<-HZ.2];kernel_rfl))|fail)
 clear cK hq;obtain⟨Z,hc⟩:∃s,Hid (yAe (some ⟨c,d,none⟩) m c1=s):=⟨_,rfl⟩
 obtain⟨sh,ha⟩:∃s,Hid (yAe (some ⟨g,f,none⟩) m c2=s):=⟨_,rfl⟩
 rw[hc.out]at y D J;rw[ha.out]at C A J;obtain⟨o,K⟩:∃e,Hid ((#[.slice (some ⟨c,d+n,none⟩) n (c1-n),.slice (some ⟨g,f,none⟩) n c2,b]:Array Xu)=e):=⟨_,rfl⟩
 obtain⟨t,M⟩:∃e,Hid ((#[.slice (some ⟨c,d,none⟩) n c1,.slice (some ⟨g,f+n,none⟩) n (c2-n),b]:Array Xu)=e):=⟨_,rfl⟩
 have q:Hid (o.size=3/\t.size=3/\o.all (·.oneCell')=true/\t.all (·.oneCell')=true):=by
  rw[<-K.out,<-M.out,<-r.out];exact⟨rfl,rfl,kR,kR⟩
 have HI:Hid ((prog.info? 150).map (·.size)=some o.size/\(prog.info? 150).map (·.size)=some t.size/\(prog.info? 150).map (·.size)=some o.toList.length/\(prog.info? 150).map (·.size)=some t.toList.length):=by
  rw[XP,XP,q.1,q.2.1];exact⟨iGr,iGr,iGr,iGr⟩
 refine(gwL [pE (jZ k),pE Z,pE (iZ n),pE (.slice (some ⟨c,d+n,none⟩) n (c1-n)),pE (oZ k 1),pE sh,pE (iZ n),pE (.slice (some ⟨g,f,none⟩) n c2),pE (oZ k 2),pE b,pE (.agg #[.slice (some ⟨c,d+n,none⟩) n (c1-n),.slice (some ⟨g,f,none⟩) n c2,b]),
  pE (jZ k),pE Z,pE (iZ n),pE (.slice (some ⟨c,d,none⟩) n c1),pE (oZ k 1),pE sh,pE (iZ n),pE (.slice (some ⟨g,f+n,none⟩) n (c2-n)),pE (oZ k 2),pE b,pE (.agg #[.slice (some ⟨c,d,none⟩) n c1,.slice (some ⟨g,f+n,none⟩) n (c2-n),b]),⟨λ_ W=>Row W (k+1) o.toList,λ_ _ _ F h=>h.below F⟩] (λW=>kZ w W/\Row W k [Z,sh,b]/\(k+1<W.heap.size/\W.there (k+1) 0 3)/\Row W (k+2) [.slice none 0 0,.slice none 0 0,.slice none 0 0]) (λW W' F h=>⟨h.1.trans (F.mono h.1.size),h.2.1.below F,⟨Xz h.2.2.1.1 F.size,dH h.2.2.1.2 F h.2.2.1.1⟩,h.2.2.2.below F⟩)).tailS 22 (λW W'=>W'=W.setCells (k+1) 0 o.toList) 23 (λj v W W' L T hR=>by
  subst T;match j,hR,L with
  | 0,hR,_=>exact hR
  | 1,hR,_=>exact hR
  | 2,hR,_=>exact hR
  | 3,hR,_=>exact hR
  | 4,hR,_=>exact hR
  | 5,hR,_=>exact hR
  | 6,hR,_=>exact hR
  | 7,hR,_=>exact hR
  | 8,hR,_=>exact hR
  | 9,hR,_=>exact hR
  | 10,hR,_=>exact hR
  | 11,hR,_=>exact hR
  | 12,hR,_=>exact hR
  | 13,hR,_=>exact hR
  | 14,hR,_=>exact hR
  | 15,hR,_=>exact hR
  | 16,hR,_=>exact hR
  | 17,hR,_=>exact hR
  | 18,hR,_=>exact hR
  | 19,hR,_=>exact hR
  | 20,hR,_=>exact hR
  | 21,hR,_=>exact hR
  | 22,_,L=>exact absurd rfl L
  | _+23,_,_=>trivial) (λW W' T h=>by subst T;exact⟨RG.below_setCells (by rw[HK.out];omega) _ _ _ h.1,aP h.2.1 oM,⟨by rw[setCells_size];exact h.2.2.1.1,Y2 h.2.2.1.2 _ _ _⟩,aP h.2.2.2 oM⟩) kR kR kR ⟨
  jX (gO 1 (jZ k)),
  jX (fF 148 0 9 k 0 Z uGL (λx W h=>h) (λW l=>l.2.1.2.1 0 _ rfl) (λ_=>rfl)),
  jX (gO 4 (iZ n)),
  jX (RG.gX 1 10 2 11 y),
  jX (gP 1 (jZ k) (oZ k 1)),
  jX (fF 148 4 13 k 1 sh uGL (λx W h=>h) (λW l=>l.2.1.2.1 1 _ rfl) (λ_=>rfl)),
  jX (gO 4 (iZ n)),
  jX (RG.gX 5 14 6 15 C),
  jX (gP 1 (jZ k) (oZ k 2)),
  jX (fF 82 8 17 k 2 b A9 (λx W h=>h) (λW l=>l.2.1.2.1 2 _ rfl) (λ_=>rfl)),
  jX (Lg [(12,.slice (some ⟨c,d+n,none⟩) n (c1-n)),(16,.slice (some ⟨g,f,none⟩) n c2),(18,b)] (.agg #[.slice (some ⟨c,d+n,none⟩) n (c1-n),.slice (some ⟨g,f,none⟩) n c2,b]) (λa W p=>⟨p.n 3 12 kR kR,p.n 7 16 kR kR,p.n 9 18 kR kR,yEU⟩) (λ_=>rfl) (λW=>by
   rw[<-r.out];kernel_rfl)),
  jX (gO 1 (jZ k)),
  jX (fF 148 11 20 k 0 Z uGL (λx W h=>h) (λW l=>l.2.1.2.1 0 _ rfl) (λ_=>rfl)),
  jX (gO 4 (iZ n)),
  jX (RG.gX 12 21 13 22 D),
  jX (gP 1 (jZ k) (oZ k 1)),
  jX (fF 148 15 24 k 1 sh uGL (λx W h=>h) (λW l=>l.2.1.2.1 1 _ rfl) (λ_=>rfl)),
  jX (gO 4 (iZ n)),
  jX (RG.gX 16 25 17 26 A),
  jX (gP 1 (jZ k) (oZ k 2)),
  jX (fF 82 19 28 k 2 b A9 (λx W h=>h) (λW l=>l.2.1.2.1 2 _ rfl) (λ_=>rfl)),
  jX (Lg [(23,.slice (some ⟨c,d,none⟩) n c1),(27,.slice (some ⟨g,f+n,none⟩) n (c2-n)),(29,b)] (.agg #[.slice (some ⟨c,d,none⟩) n c1,.slice (some ⟨g,f+n,none⟩) n (c2-n),b]) (λa W p=>⟨p.n 14 23 kR kR,p.n 18 27 kR kR,p.n 20 29 kR kR,yEU⟩) (λ_=>rfl) (λW=>by
   rw[<-r.out];kernel_rfl)),
  VX λa W p=>⟨_,by
   have h1:a.eval (.tmp 19)=.agg o:=by
    have:=p.n 10 19 kR kR;rw[<-K.out];exact this
   have Y:a.eval (.tmp 2)=.pointer (some ⟨k+1,0,none⟩):=(p.o 2 kR).trans rfl;have V:W.there (k+1) 0 o.size:=by rw[q.1];exact p.b.2.2.1.2
   unfold Yb;simp only[h1,Y,yA6,yAC,XT,Zj,Yu,yCb W (k+1) 0 150 o V HI.1 q.2.2.1],rfl,⟨by rw[setCells_size];exact p.b.2.2.1.1,YM W (k+1) 0 o.toList (by rw[XP,q.1];exact p.b.2.2.1.2),Y2 (by rw[XP,q.1];exact p.b.2.2.1.2) _ _ _⟩⟩,yEU⟩ ⟨J.1.drew,J.2.1,⟨J.2.2.1.1,J.2.2.1.2.2⟩,J.2.2.2⟩ ?_
 intro V w3 hR l;have p:V 21=.agg #[.slice (some ⟨c,d,none⟩) n c1,.slice (some ⟨g,f+n,none⟩) n (c2-n),b]:=hR 21 dC;have F:Row w3 (k+1) o.toList:=hR 22 dC;rw[M.out]at p;obtain⟨L,Y⟩:∃L,Hid (w3.setCells (k+2) 0 t.toList=L):=⟨_,rfl⟩
 have K5:Hid (Row L (k+1) o.toList/\Row L (k+2) t.toList/\kZ w L):=by
  rw[<-Y.out];exact⟨aP F oM,l.2.2.2.put (by rw[XP,q.2.1];rfl),RG.below_setCells (by rw[HK.out];omega) _ _ _ l.1⟩
 have HT:Hid (w3.there (k+2) 0 t.size):=by
  rw[q.2.1];exact l.2.2.2.2.2
 have HP:Hid (CrR Q w n G H U (.tuple #[.agg o.toList.toArray,.agg t.toList.toArray]) L):=by
  have kq:∀ {Q:Nat->Prop},Kq Q w L:=Kq.of_below K5.2.2;refine⟨K5.2.2,o,t,rfl,q.1,q.2.1,q.2.2.1,q.2.2.2,?_,?_⟩
  ·rw[<-K.out];exact⟨_,_,_,rfl,N.1.keep kq,N.2.1.keep kq,N.2.2.2.2.keep kq⟩
  ·rw[<-M.out];exact⟨_,_,_,rfl,N.2.2.1.keep kq,N.2.2.2.1.keep kq,N.2.2.2.2.keep kq⟩
 dsimp only[bY,YH,ZQ,ZR];simp only[XK,Xt,Xv,Xw];obtain⟨x2,T⟩:∃x,Hid (X6 t=x):=⟨_,rfl⟩
 rw[p,T.out];clear hR l p F y C D A;generalize V 0=s0;generalize V 1=s1;generalize V 2=s2;generalize V 3=s3;generalize V 4=s4;generalize V 5=s5;generalize V 6=s6;generalize V 7=s7;generalize V 8=s8;generalize V 9=s9;generalize V 10=s10;generalize V 11=s11;generalize V 12=s12;generalize V 13=s13;generalize V 14=s14;generalize V 15=s15;generalize V 16=s16;generalize V 17=s17;generalize V 18=s18;generalize V 19=s19;generalize V 20=s20;go_wp2_with (first|(refine X8 rfl 150 (.tmp 3) _ rfl (k+2) 0 t ?_ ?_ ?_ ?_ ?_ ?_;rfl;exact T.symm;exact HT.out;exact HI.2.1;exact q.2.2.2;rw[Y.out])|fail)
 refine XE (qR 2 3 150 150 rfl K5.1 K5.2.1 rfl rfl uGr HI.2.2.1 uGr HI.2.2.2) rfl ?_;exact⟨_,rfl,HP.out⟩
theorem GRq.ar{Q:Nat->Prop}{W:Xs}{v:Xu}{n:Nat}{G H:Nat->List (Nat × Bs)}{U:List (Nat × Bs)}(h:GRq Q W v n G H U):∃e:Array Xu,v=.agg e/\e.size=3/\e.all (·.oneCell')=true:=by
 obtain⟨i,f,k,rfl,⟨b,j,c1,rfl,-⟩,⟨d,c,c2,rfl,-⟩,⟨g,l,rfl,-⟩⟩:=h.ex;exact⟨_,rfl,rfl,kR⟩
structure FgI(w W:Xs)(k x xi:Nat)(vg vh vu:Xu):Prop where
 bl:kZ w W
 r2:Row W k [vg,vh,vu]
 r3:Row W (k+1) (wn x)
 r4:Row W (k+2) [.slice none 0 0,.slice none 0 0,.slice none 0 0]
theorem FgI.grow{w W W':Xs}{k x c:Nat}{f d e:Xu}(h:FgI w W k x c f d e)(b:kZ W W'):FgI w W' k x c f d e:=⟨h.bl.trans (b.mono h.bl.size),h.r2.below b,h.r3.below b,h.r4.below b⟩
theorem FgI.drew{w W:Xs}{k x b:Nat}{e c d:Xu}(h:FgI w W k x b e c d):FgI w W.drew k x b e c d:=h.grow ⟨rfl,rfl,rfl,Xx _,λ_ _=>rfl⟩
theorem GK(O:Ord N){Q:Nat->Prop}(n c:Nat)(hz:0<n)(G H:Nat->List (Nat × Bs))(U:List (Nat × Bs))(hG:GOk N (n+n) c G H U)(x:Nat)(hx:x<N)(v:Xu)(w:Xs)(hQ:∀g,w.heap.size<=g->Q g)(h0:GRq Q w v (n+n) G H U):
 XH prog 146 #[v,nv x] w (rZ w λe w'=>GRq Q w' e n (lT N (sIn N x) x n G) (lT N x (sIn N x) n H) U):=by
 obtain⟨r,q,i,rfl,h3,h4,h5⟩:=h0.ex;have P:sIn N x<N:=Y9 _ O.pos;have h8:=λW=>wH O x hx W
 have J:=λ(W:Xs) (f:kZ w W)=>LA O n (by have:=hG.nle;omega) c (by have:=hG.cle;omega) hG.c0 G (sIn N x) x P hx hG.g r W (h3.keep (Kq.of_below f))
 have F:=λ(W:Xs) (f:kZ w W)=>LA O n (by have:=hG.nle;omega) c (by have:=hG.cle;omega) hG.c0 H x (sIn N x) hx P hG.h q W (h4.keep (Kq.of_below f))
 generalize lT N (sIn N x) x n G=S at J⊢;generalize lT N x (sIn N x) n H=T at F⊢;generalize sIn N x=j at h8 J F;have HX:=mk3 h8 J F;have HU:=mk2 h5 hQ;obtain⟨k,hk⟩:=hE (w.heap.size);obtain⟨o,t⟩:=hE (w.alloc (.cells #[r,q,i] 150));obtain⟨B,C⟩:=hE (o.alloc (.cells (wn x).toArray 44));obtain⟨X,D⟩:=hE (B.alloc (.cells #[.slice none 0 0,.slice none 0 0,.slice none 0 0] 150));have K:o.heap.size=k+1:=by rw[<-t.out,XF,hk.out]
 have hm:B.heap.size=k+2:=by rw[<-C.out,XF,K]
 have K3:Hid (FgI w X k x j r q i):=by
  have b1:kZ w o:=by rw[<-t.out];exact aC _ _
  have l:kZ o B:=by rw[<-C.out];exact aC _ _
  have m:kZ B X:=by rw[<-D.out];exact aC _ _
  have A:Row o k [r,q,i]:=by rw[<-t.out,<-hk.out];exact row_new w _ _
  have s:Row B (k+1) (wn x):=by rw[<-C.out,<-K];exact row_new o _ _
  have p:Row X (k+2) [.slice none 0 0,.slice none 0 0,.slice none 0 0]:=by rw[<-D.out,<-hm];exact row_new B _ _
  exact⟨(b1.trans (l.mono b1.size)).trans (m.mono (XB b1.size l.size)),(A.below l).below m,s.below m,p⟩
 obtain⟨v0,hl⟩:=hE (X6 #[r,q,i]);obtain⟨vx,s⟩:=hE (nv x);have B1:Hid ((Yl 150 v0).run prog w=.ok (jZ k) o):=by rw[<-hl.out,<-t.out,<-hk.out];exact Dl _ _ _ _
 have B2:Hid ((Yl 44 vx).run prog o=.ok (.pointer (some ⟨k+1,0,none⟩)) B):=by rw[<-s.out,<-C.out,<-K];exact boxS x o
 have HZ:=mk1 (hm);obtain⟨d,hq,hr⟩:=XA.1 u40;have HD:=mk2 hq hr;rw[hl.out,s.out];go_enter func146,ntmps146;go_wp2_with (first|(refine aG (u:=v0) (v:=jZ k) (w':=o) rfl 150 (.tmp 0) rfl ?_ ?_ ?_;rfl;exact B1.out)|(refine aG (u:=vx) (v:=.pointer (some ⟨k+1,0,none⟩)) (w':=B) rfl 44 (.tmp 1) rfl ?_ ?_ ?_;rfl;exact B2.out)|(refine fU (v:=.pointer (some ⟨k+2,0,none⟩)) (w':=X) rfl 150 4 rfl rfl ?_ ?_;(rw[<-D.out,<-HZ.out];kernel_rfl))|(refine ldR 3 K3.r3.2.1 s u40 nSc ?_)|fail)
 rw[<-s.out];refine(HX.1 X).mono ?_;rintro e R ⟨u,rfl,hu,rfl⟩;obtain⟨M,E⟩:=hE (R.heap.size);obtain⟨w5,Z⟩:=hE (R.alloc (.cells #[uZ 0,uZ 0,uZ 0,uZ 0] 44));obtain⟨w6,h9⟩:=hE (w5.setCells M 0 (wn j));have F5:Hid (Row w5 M [uZ 0,uZ 0,uZ 0,uZ 0]/\kZ R w5):=by rw[<-Z.out,<-E.out];exact⟨row_new R _ _,aC _ _⟩
 have K6:Hid (FgI w w6 k x j r q i/\Row w6 M (wn j)):=by
  rw[<-h9.out];exact⟨(K3.grow hu).grow (RG.below_setCells (by rw[E.out];exact Xx _) _ _ _ F5.2),F5.1.put rfl⟩
 obtain⟨vi,h6⟩:=hE (nv j);rw[h6.out];go_wp2_with (first|(refine alR 5 E Z ?_)|(refine stR 5 h9 h6 F5.1.2.2 nSc (aI j) ?_)|fail)
 refine(gwL [pE (jZ k),pE r,pE (nv j),pE (nv x),pG (λg=>w.heap.size<=g/\g≠k+2) n S,pE (oZ k 1),pE q,pE (nv x),pE (nv j),pG (λg=>w.heap.size<=g/\g≠k+2) n T,pE (oZ k 2),pE i,⟨λv W=>∃x y,v=.agg #[x,y,i]/\GLq (λg=>w.heap.size<=g/\g≠k+2) W x n S/\GLq (λg=>w.heap.size<=g/\g≠k+2) W y n T,λ_ _ _ l ⟨x,y,h1,h2,h3⟩=>⟨x,y,h1,h2.keep (Kq.of_below l),h3.keep (Kq.of_below l)⟩⟩] (λW=>FgI w W k x j r q i/\Row W M (wn j)) (λW W' l h=>⟨h.1.grow l,h.2.below l⟩)).last 13 kR kR kR ⟨
  gO 2 (jZ k),
  fF 148 0 8 k 0 r uGL (λx W h=>h) (λW f=>f.1.r2.2.1 0 _ rfl) (λ_=>rfl),
  iN 44 5 M 0 (wn j) rSc nSc rfl (λW f=>f.2.2.1) (λ_=>rfl),
  iN 44 3 (k+1) 0 (wn x) rSc nSc rfl (λW f=>f.1.r3.2.1) (λ_=>rfl),
  nG 1 9 2 10 3 11 190 (λx y z=>#[x,y,z]) (λa b c W A l p f=>by
   obtain rfl:a=r:=A;obtain rfl:b=nv j:=l;obtain rfl:c=nv x:=p;refine(HX.2.1 W f.1.bl).mono ?_;rintro e W' ⟨u,rfl,l,m⟩;exact⟨_,rfl,l,m.mono λg I=>⟨XB f.1.bl.size I,by have:=f.1.r4.1;omega⟩⟩),
  gP 2 (jZ k) (oZ k 1),
  fF 148 5 13 k 1 q uGL (λx W h=>h) (λW f=>f.1.r2.2.1 1 _ rfl) (λ_=>rfl),
  iN 44 3 (k+1) 0 (wn x) rSc nSc rfl (λW f=>f.1.r3.2.1) (λ_=>rfl),
  iN 44 5 M 0 (wn j) rSc nSc rfl (λW f=>f.2.2.1) (λ_=>rfl),
  nG 6 14 7 15 8 16 190 (λx y z=>#[x,y,z]) (λa b c W A l p f=>by
   obtain rfl:a=q:=A;obtain rfl:b=nv x:=l;obtain rfl:c=nv j:=p;refine(HX.2.2 W f.1.bl).mono ?_;rintro e W' ⟨u,rfl,l,m⟩;exact⟨_,rfl,l,m.mono λg I=>⟨XB f.1.bl.size I,by have:=f.1.r4.1;omega⟩⟩),
  gP 2 (jZ k) (oZ k 2),
  fF 82 10 18 k 2 i A9 (λx W h=>h) (λW f=>f.1.r2.2.1 2 _ rfl) (λ_=>rfl),
  bL (λa W m=>by
   have h1:=m.n 4 12 kR kR;have h2:=m.n 9 17 kR kR;have h3:=m.n 11 19 kR kR;obtain⟨V,o1,c1,L,-⟩:=id h1;obtain⟨g2,Y,c2,e2,-⟩:=id h2;obtain⟨g3,c3,e3,-⟩:=HU.1;rw[L]at h1;rw[e2]at h2;refine⟨[(12,.slice (some ⟨V,o1,none⟩) n c1),(17,.slice (some ⟨g2,Y,none⟩) n c2),(19,i)],.agg #[.slice (some ⟨V,o1,none⟩) n c1,.slice (some ⟨g2,Y,none⟩) n c2,i],W,⟨L,e2,h3,yEU⟩,?_,XM _ _,⟨_,_,rfl,h1,h2⟩⟩;rw[e3];kernel_rfl),yEU⟩ ⟨K6.1.drew,K6.2⟩ ?_
 intro V L hR f;obtain⟨p,m,hV,Y,hj⟩:∃x y,V 12=.agg #[x,y,i]/\GLq (λg=>w.heap.size<=g/\g≠k+2) L x n S/\GLq (λg=>w.heap.size<=g/\g≠k+2) L y n T:=hR 12 dC;have hw:=HU.1.keep (Kq.of_below f.1.bl);have A:∀g,w.heap.size<=g/\g≠k+2->Q g:=λg I=>HU.2 g I.1
 have gr:GRq Q L (.agg #[p,m,i]) n S T U:=⟨_,_,_,rfl,Y.mono A,hj.mono A,hw⟩
 obtain⟨e,he,hy,ht⟩:=gr.ar;obtain rfl:#[p,m,i]=e:=by injection he
 obtain⟨w8,h7⟩:=hE (L.setCells (k+2) 0 [p,m,i]);have K8:Hid (kZ w w8/\Row w8 (k+2) [p,m,i]/\GRq Q w8 (.agg #[p,m,i]) n S T U):=by
  rw[<-h7.out];have kq:Kq (λg=>w.heap.size<=g/\g≠k+2) L (L.setCells (k+2) 0 [p,m,i]):=Kq.set λg I=>I.2
  have hn:kZ w (L.setCells (k+2) 0 [p,m,i]):=RG.below_setCells (by rw[hk.out];omega) _ _ _ f.1.bl;exact⟨hn,f.1.r4.put rfl,_,_,_,rfl,(Y.keep kq).mono A,(hj.keep kq).mono A,HU.1.keep (Kq.of_below hn)⟩
 have HT:=mk2 f.1.r4.2.2 ht;dsimp only[bY,YH,ZQ,ZR];simp only[XK,Xt,Xv,Xw];obtain⟨ve,hi⟩:=hE (X6 #[p,m,i]);rw[hV,hi.out];go_wp2_with (first|(refine X8 rfl 150 (.tmp 4) _ rfl (k+2) 0 #[p,m,i] ?_ ?_ ?_ ?_ ?_ ?_;rfl;exact hi.symm;exact HT.1;exact iGr;exact HT.2;rw[show(#[p,m,i]:Array Xu).toList=[p,m,i] from rfl,h7.out])|fail)
 refine XE (aF 4 150 rfl K8.2.1 rfl uGr iGr) rfl ?_;exact⟨_,rfl,K8.1,K8.2.2⟩
end
end Go.Proofs.YtlofhpkoaljmeaaGreat
