import Derived.Deep.LoopGhost
import Derived.Deep.RegionHeld3
import Derived.Deep.CutRange
import Derived.Deep.DeepCutAuto
import Derived.Laws.MakeOwn
import Derived.ChangeKeysEq
import Derived.Deep.AppendSrc
import Derived.Lib.AppendZeros
import Derived.LoopN
import Derived.Deep.RegionWith
import Derived.WalkKit
import Derived.Sort.Row
import Derived.Deep.Draws
import Derived.Below
import Derived.Deep.OwnRows
import Derived.Test.YtlofhpkoaljmeaaGreatRows
import Derived.Deep.QuietTactic
import Derived.StillTailTactics
import Derived.BigRegion
import Derived.BigQuiet
import Derived.WalkSpells
import Derived.WalkLawsBesides
import Derived.KernelRfl
import Derived.Lib.LazyBuf
import Derived.Lib.SliceRun
import Derived.Lib.ConvBytes
import Derived.Test.YtlofhpkoaljmeaaGreatat2
set_option linter.unusedVariables false
set_option linter.constructorNameAsVariable false
set_option linter.unusedSimpArgs false
set_option maxRecDepth 1000000
set_option maxHeartbeats 4000000
namespace Go.Proofs.YtlofhpkoaljmeaaGreat
open EC RG
open _root_.Array renaming append_assoc->yDl,getElem?_append_left->yAv,getElem?_append_right->yBd,getElem?_eq_getElem->X4,getElem?_map->yDj,getElem?_toList->Yz,getElem_append_left->yBq,getElem_append_right->yCB,getElem_replicate->Zo,getElem_toList->yAd,length_toList->XP,map->yEF,map_replicate->yDb,replicate->XL,size->Y8,size_append->Yg,size_extract->Z4,size_replicate->XU,size_setIfInBounds->YJ,toArray_toList->yAc
open _root_.BitVec renaming eq_of_toNat_eq->yCW,ofInt->yAa,ofInt_natCast->yC0,ofNat->yAU,toNat_ofNat->yBU
open _root_.Bool renaming and_eq_true->XO
open _root_.Classical renaming byContradiction->Zm
open _root_.Fin renaming ofNat->ZS
open _root_.Go renaming Addr->YW,Calls->XH,TypeId->Yd,Value->Xu,World->Xs,bodyPost_ret->XE,sizeOf->yCN,size_madeCells->yBk,undef->Zp,wp_block->Y6,wp_cond_false->X7,wp_cond_true->Yx,wp_loop_ghost->yBN,wp_ret->Y5,wp_seq->Xy,wp_skip->YR
open _root_.Go.Addr renaming add->yB3,add_mid->yC8
open _root_.Go.Builtin renaming append_->YA,copy_->yAy
open _root_.Go.Exit renaming inBlock->yA4
open _root_.Go.Instr renaming indexAt->Yi,makeSlice->yAb
open _root_.Go.IntKind renaming bits->yDV,i64->Yh,signed->yDu,u64->Yn,u8->yAV,wrap->yDU,wrap_u64->ZK
open _root_.Go.IntWalk renaming i64_in->Zl
open _root_.Go.Lib renaming bytesCells->yAG,bytesWorld->yBv,bytesWorld_size->yCc,wpList_append_run->yAx
open _root_.Go.Op renaming eqItems->yDL
open _root_.Go.Result renaming andThen_ok->Yu
open _root_.Go.RowKit.Below renaming heap_setCell->yB2,refl->XM
open _root_.Go.Value renaming int->YQ
open _root_.Go.World renaming alloc->Z0,block_lt_of_cell?->ZZ,cell?->YO,cell?_alloc_new->Yp,cell?_of_block->XW,cell?_setCell_other->XZ,cell?_setCell_same->Y1,cell?_setCells_out->yCI,freeze->yBE,frozen?_alloc_new->Zn,frozen?_of_block->Y0,frozen?_setCell->YN,frozen?_setCells->yCU,setCell->yAK,size_alloc->XF
open _root_.Int renaming emod_eq_of_lt->yDI,natCast_ediv->yBK,natCast_mul->Z2,natCast_pow->yCM,neg_neg->yEz,toNat_natCast->yAz
open _root_.List renaming cons->yEI,forall_mem_cons->yC6,getElem?_eq_some_iff->XG,getElem?_map->Ys,getElem?_toArray->Ye,getElem_map->Z9,length_cons->Yq,length_map->XV,length_replicate->ZO,mem_cons_of_mem->Ym,mem_cons_self->YC,mem_map->Yw,mem_range->YZ,not_mem_nil->X5,range->Yt,replicate->YE,size_toArray->YD,take_of_length_le->yCX
open _root_.Nat renaming add_assoc->Zu,add_sub_cancel_left->ZM,add_zero->yAi,le_add_right->yBI,le_refl->Xx,le_trans->XB,lt_of_lt_of_le->Xz,lt_succ_self->yCD,min_le_left->yCK,min_le_right->yCC,mod_eq_of_lt->XX,mod_lt->Y9,mul_comm->YF,mul_le_mul->ZB,mul_le_mul_left->yAR,mul_one->Z5,mul_succ->yAS,ne_of_gt->Zg,pos_of_neZero->yA9,sub_self->yA8,sub_sub->yAT,zero_add->XD,zero_le->Zh
open _root_.Option renaming isSome_iff_exists->YB,map_eq_some_iff->XA,map_some->yA5
open _root_.Or renaming inl->X9,inr->X0
open _root_.Prod renaming mk->Ze
open _root_.UInt8 renaming ofNat->XN,toNat_ofNat'->yBi
open Go.Proofs.Tryz
open Go.RowKit Go.Sort Go.Deep
section
variable {P:Nat}[NeZero P]{N:Nat}
theorem Nj(F:Fld P)(b o k:Nat)(p:k<8)(s:T3 P)(w:Xs)(x:b<w.heap.size)(t:w.rangeAt b (o+0+12*k) (tw s)):XH prog 115 #[(oZ b o),(.int .i8 (-(2*(k:Int)+1)))] w (rZ w λe w'=>e=tv (opJ s)):=by
 obtain⟨s2,c⟩:∃s2,opJ s=s2:=⟨_,rfl⟩
 have j:=c ▸ Un F s;have d:∀w,(binOp .lss 213 (.int .i8 (-(2*(k:Int)+1))) (.int .i8 0)).run prog w=.ok (.bool true) w:=λw=>by
  go_simp;try omega
 have f:∀w,(Op.unary .neg (.int .i8 (-(2*(k:Int)+1)))).run prog w=.ok (.int .i8 (2*(k:Int)+1)) w:=λw=>by
  rw[P4 _ oM,yEz]
 go_enter func115,ntmps115;refine QA (v0:=(oZ b o)) (v1:=(.int .i8 (-(2*(k:Int)+1)))) (n:=23) kR kR kR kR ?_;intro a0 l y r;have i:=RG.St.begin w;have q:RG.M w w.heap.size [] 23 [] [] [(0,.v (oZ b o)),(1,.v (.int .i8 (-(2*(k:Int)+1))))] a0 _:=⟨i,l,⟨y,r,yEU⟩⟩
 repeat refine Xy ?_
 refine q.T [.m 0] [(0,RG.z 12)] [] [RG.z 12] [0,1,4] ⟨mk 0 211,yEU⟩ ?_;intro A z D u;repeat refine Xy ?_
 refine u.U [.x (.int .i8 (-(2*(k:Int)+1))),.x (.bool true)] [0,1,4,6] ⟨st,aN rfl .lss 213 213 5 (.int .i8 (-(2*(k:Int)+1))) (.int .i8 0) (.bool true) rfl rfl sx (λw=>kR) d,yEU⟩ ?_;intro a2 a m;repeat refine Xy ?_
 refine Yx m.ev ?_;repeat refine Xy ?_
 refine m.T [.x (oZ b o),.x (.int .i8 (-(2*(k:Int)+1))),.x (.int .i8 (2*(k:Int)+1)),.x (.int .i8 k),.x (oZ b o),.x (.pointer (some ⟨b,o+0,none⟩)),.x (.pointer (some ⟨b,(o+0)+12*k,none⟩)),.x (tv s),.c (tv s2),.u 0] [] [(0,9,tw s2)] [tw s2] [4] ⟨st,st,OV rfl .neg 213 8 (.int .i8 (-(2*(k:Int)+1))) (.int .i8 (2*(k:Int)+1)) rfl rfl sx f,aN rfl .quo 213 213 9 (.int .i8 (2*(k:Int)+1)) (.int .i8 2) (.int .i8 k) rfl rfl sx (λw=>kR) (P3 k p),st,st,aY rfl 212 12 10 rfl (.v (.pointer (some ⟨b,o+0,none⟩))) (.int .i8 k) sx sx (λμ w=>Mo _ _ k p w),eK rfl b ((o+0)+12*k) x X5 211 13 rfl (tw s) rfl sx t iQ i117,cl j,RG.pt i117,yEU⟩ ?_;intro C B g;refine Y5 ?_;refine XE (v:=tv s2) (aH g.st 4 211 rfl 0 _ rfl (g.at (s:=(.p 0 0))) iQ i117) g.sl.defers ?_;exact⟨_,rfl,g.st.bel.below,by rw[c]⟩
theorem Ni(F:Fld P)(b o k:Nat)(l:k<8)(s:T3 P)(w:Xs)(u:b<w.heap.size)(r:w.rangeAt b (o+0+12*k) (tw s)):XH prog 115 #[(oZ b o),(.int .i8 (2*(k:Int)+1))] w (rZ w λe w'=>e=tv s):=by
 obtain⟨s2,j⟩:∃s2,opJ s=s2:=⟨_,rfl⟩
 have c:∀w,(binOp .lss 213 (.int .i8 (2*(k:Int)+1)) (.int .i8 0)).run prog w=.ok (.bool false) w:=λw=>by
  go_simp;try omega
 have m:∀w,(Op.unary .neg (.int .i8 (-(2*(k:Int)+1)))).run prog w=.ok (.int .i8 (2*(k:Int)+1)) w:=λw=>by
  rw[P4 _ oM,yEz]
 go_enter func115,ntmps115;refine QA (v0:=(oZ b o)) (v1:=(.int .i8 (2*(k:Int)+1))) (n:=23) kR kR kR kR ?_;intro a0 g x q;have f:=RG.St.begin w;have p:RG.M w w.heap.size [] 23 [] [] [(0,.v (oZ b o)),(1,.v (.int .i8 (2*(k:Int)+1)))] a0 _:=⟨f,g,⟨x,q,yEU⟩⟩
 repeat refine Xy ?_
 refine p.T [.m 0] [(0,RG.z 12)] [] [RG.z 12] [0,1,4] ⟨mk 0 211,yEU⟩ ?_;intro a y C t;repeat refine Xy ?_
 refine t.U [.x (.int .i8 (2*(k:Int)+1)),.x (.bool false)] [0,1,4,6] ⟨st,aN rfl .lss 213 213 5 (.int .i8 (2*(k:Int)+1)) (.int .i8 0) (.bool false) rfl rfl sx (λw=>kR) c,yEU⟩ ?_;intro a2 z i;repeat refine Xy ?_
 refine X7 i.ev ?_;refine YR ?_;repeat refine Xy ?_
 refine i.T [.x (oZ b o),.x (.int .i8 (2*(k:Int)+1)),.x (.int .i8 k),.x (oZ b o),.x (.pointer (some ⟨b,o+0,none⟩)),.x (.pointer (some ⟨b,(o+0)+12*k,none⟩)),.x (tv s),.u 0] [] [(0,7,tw s)] [tw s] [4] ⟨st,st,aN rfl .quo 213 213 17 (.int .i8 (2*(k:Int)+1)) (.int .i8 2) (.int .i8 k) rfl rfl sx (λw=>kR) (P3 k l),st,st,aY rfl 212 20 18 rfl (.v (.pointer (some ⟨b,o+0,none⟩))) (.int .i8 k) sx sx (λμ w=>Mo _ _ k l w),eK rfl b ((o+0)+12*k) u X5 211 21 rfl (tw s) rfl sx r iQ i117,RG.pt i117,yEU⟩ ?_;intro B A d;refine Y5 ?_;refine XE (v:=tv s) (aH d.st 4 211 rfl 0 _ rfl (d.at (s:=(.p 0 0))) iQ i117) d.sl.defers ?_;exact⟨_,rfl,d.st.bel.below,rfl⟩
def tmJ(x y:Fin P)(d:Int):T3 P:=if d<0 then opJ (od x y ((-d).toNat/2)) else od x y (d.toNat/2)
theorem TL(C:Fld P){x y:Fin P}{p:EC.Pt P}(h:Pair x y p)(b:On p){d:Int}(hd:d%2=1):JacT (tmJ x y d) (eG d p):=by
 unfold tmJ;by_cases c:d<0
 ·rw[yES c];have k:=(RH C h b ((-d).toNat/2)).neg;rw[<-Cc C.cur b]at k;rw[show -((2*((-d).toNat/2)+1:Nat):Int)=d by omega]at k;exact k
 ·rw[yET c];have k:=RH C h b (d.toNat/2);rw[show((2*(d.toNat/2)+1:Nat):Int)=d by omega]at k;exact k
def inn(ns:Nat->Nat)(xs ys:Nat->Fin P)(st:T3 P)(place:Nat):Nat->T3 P
 | 0=>st
 | i+1=>if fN (ns i) place=0 then inn ns xs ys st place i else plJ (inn ns xs ys st place i) (tmJ (xs i) (ys i) (fN (ns i) place))
def iW(ns:Nat->Nat)(xs ys:Nat->Fin P)(N:Nat):Nat->T3 P
 | 0=>(0,0,0)
 | m+1=>inn ns xs ys (twJ (iW ns xs ys N m)) (256-m) N
theorem PX(C:Fld P){ns:Nat->Nat}{xs ys:Nat->Fin P}{p:Nat->EC.Pt P}{N:Nat}(b:∀i,i<N->ns i<2^256)(l:∀i,i<N->Pair (xs i) (ys i) (p i))(ho:∀i,i<N->On (p i)){st:T3 P}{g:Nat->Int}{place:Nat}
 (h:JacT st (tot p N g)):∀i,i<=N->JacT (inn ns xs ys st place i) (tot p N (λj=>if j<i then g j+fN (ns j) place else g j))
 | 0,_=>by
  have:tot p N (λj=>if j<0 then g j+fN (ns j) place else g j)=tot p N g:=eM N λj _=>yET oM
  rw[this];exact h
 | i+1,hi=>by
  have f:=PX C b l ho (place:=place) h i oM;have e:tot p N (λj=>if j<i+1 then g j+fN (ns j) place else g j)=EC.add (tot p N (λj=>if j<i then g j+fN (ns j) place else g j)) (eG (fN (ns i) place) (p i)):=by
   rw[<-Ng C.cur _ i (fN (ns i) place) N oM ho];refine eM N λj _=>?_
   by_cases k:j=i
   ·subst k;rw[yES oM,yES rfl,yET oM]
   ·rw[yET k];by_cases d:j<i
    ·rw[yES oM,yES d]
    ·rw[yET oM,yET d]
  rw[e];unfold inn;by_cases d:fN (ns i) place=0
  ·rw[yES d,d,Hu,bM];exact f
  ·rw[yET d];obtain⟨q,c,-,m⟩:=BM (b i oM);rcases m.ho place with k|k
   ·exact absurd k d
   ·exact f.plus C (TL C (l i oM) (ho i oM) k.1)
theorem Js(C:Fld P){ns:Nat->Nat}{xs ys:Nat->Fin P}{p:Nat->EC.Pt P}{N:Nat}(k:∀i,i<N->ns i<2^256)(c:∀i,i<N->Pair (xs i) (ys i) (p i))(ho:∀i,i<N->On (p i)):
 ∀m,m<=257->JacT (iW ns xs ys N m) (tot p N (λj=>DG.hor (fN (ns j)) m))
 | 0,_=>by
  rw[show tot p N (λj=>DG.hor (fN (ns j)) 0)=.none from xE p N (λ_ _=>rfl)];exact JacT.none
 | m+1,hm=>by
  have b:=(Js C k c ho m oM).twice C;rw[<-Hz C.cur _ N ho]at b;have f:=PX C k c ho (place:=256-m) b N (Xx _);have e:tot p N (λj=>DG.hor (fN (ns j)) (m+1))=tot p N (λj=>if j<N then 2*DG.hor (fN (ns j)) m+fN (ns j) (256-m) else 2*DG.hor (fN (ns j)) m):=
   eM N λj d=>by rw[yES d];rfl
  rw[e];exact f
theorem Ch(C:Fld P){ns:Nat->Nat}{xs ys:Nat->Fin P}{p:Nat->EC.Pt P}{N:Nat}(k:∀i,i<N->ns i<2^256)(d:∀i,i<N->Pair (xs i) (ys i) (p i))(ho:∀i,i<N->On (p i)):
 JacT (iW ns xs ys N 257) (tot p N (λj=>(ns j:Int))):=by
 have h:=Js C k d ho 257 (Xx _);have e:tot p N (λj=>(ns j:Int))=tot p N (λj=>DG.hor (fN (ns j)) 257):=eM N λj b=>by
  obtain⟨q,c,f,g⟩:=BM (k j b);exact(DG.Ox g f).symm
 rw[e];exact h
def cc(ns:Nat->Nat)(xs ys:Nat->Fin P)(C0:List Xu):Nat->List Xu
 | 0=>C0
 | i+1=>fc (xs i) (ys i) (fN (ns i)) (cc ns xs ys C0 i) (353*i) 8
theorem Qd{ns:Nat->Nat}{xs ys:Nat->Fin P}{C0:List Xu}{N:Nat}(e:C0.length=353*N):∀i,i<=N->(cc ns xs ys C0 i).length=353*N /\
 ∀j,j<i->(∀q,q<257->(cc ns xs ys C0 i)[353*j+96+q]? = some (.int .i8 (fN (ns j) q)))/\∀q r,q<8->r<12->(cc ns xs ys C0 i)[353*j+12*q+r]? = (tw (od (xs j) (ys j) q))[r]?
 | 0,_=>⟨e,λj l=>oM⟩
 | i+1,hi=>by
  obtain⟨f,n⟩:=Qd e i oM;have k:=GL (x:=xs i) (y:=ys i) (D:=fN (ns i)) (C0:=cc ns xs ys C0 i) (off:=353*i) (by rw[f];omega) 8 (Xx _);refine⟨by rw[<-f];exact k.len,λj l=>?_⟩;by_cases d:j=i
  ·subst d;exact⟨k.dig,λq r b c=>k.odd q r b c⟩
  ·obtain⟨g,m⟩:=n j oM;exact⟨λq b=>(k.out _ oM).trans (g q b),λq r b c=>(k.out _ oM).trans (m q r b c)⟩
theorem Uv(N:Nat)(l:N<=512):∃C0:List Xu,C0.length=353*N/\∀w:Xs,(yAb 208 (iZ N) (iZ N)).run prog w=.ok (sZ w.heap.size N N) (w.alloc (.cells C0.toArray 216)):=by
 have d:prog.underlying 208=some (.slice 216):=kR;have e:(prog.info? 216).map (λi=>(i.size,decide (i.bytes<=4000),i.zero.isSome))=some (353,true,true):=kR;obtain⟨i,b,k⟩:=XA.1 e;simp only[Ze.injEq,decide_eq_true_eq]at k;obtain⟨c,f,n⟩:=k;obtain⟨z,g⟩:=YB.1 n;refine⟨(madeCells z.cells (N*353)).toList,by rw[XP,yBk,YF],λw=>?_⟩;have m:(i.bytes:Int)*(N:Int)<=281474976710656:=by
  have:i.bytes*N<=4000*512:=ZB f l;have j:((i.bytes*N:Nat):Int)<=281474976710656:=oM;rwa[Z2]at j
 have:=run_make (P:=prog) w 208 216 i z d b g .i64 .i64 (N:Int) (N:Int) oM oM m oM;rw[yAz,c]at this;rw[yAc];exact this
theorem LC(F:Fld P){n:Nat}(c:n<top)(x y:Fin P)(C0:List Xu)(b off:Nat)(k:off+353<=C0.length)(w:Xs)(d:w.there b 0 C0.length)(g:w.rangeAt b 0 C0):
 XH prog 112 #[oZ b off,nv n,pv x y] w (Ret λr w'=>PutTo b C0.length (fc x y (fN n) C0 off 8) w w'/\r=.tuple #[]):=by
 have j:b<w.heap.size:=by
  have f:=(d 0 oM).1;exact Zm λc=>by
   have i:w.heap[b]? = none:=Array.getElem?_eq_none oM;simp[YO,i]at f
 refine(SD F c x y C0 b off k w j d g).mono ?_;rintro e w' ⟨v,rfl,⟨C,i,f⟩,rfl⟩;refine⟨_,rfl,?_,rfl⟩;rw[(GL k 8 (Xx _)).uniq i];exact f
theorem Nl(F:Fld P)(k o:Nat)(x y:Fin P){d:Int}(hd:d%2=1)(i:-15<=d/\d<=15)(w:Xs)(c:k<w.heap.size)(g:∀q,q<8->w.rangeAt k (o+0+12*q) (tw (od x y q))):
 XH prog 115 #[oZ k o,.int .i8 d] w (rZ w λe w'=>e=tv (tmJ x y d)):=by
 unfold tmJ;by_cases f:d<0
 ·rw[yES f];have b:=Nj F k o ((-d).toNat/2) oM (od x y ((-d).toNat/2)) w c (g _ oM);rw[show -(2*(((-d).toNat/2:Nat):Int)+1)=d by omega]at b;exact b
 ·rw[yET f];have b:=Ni F k o (d.toNat/2) oM (od x y (d.toNat/2)) w c (g _ oM);rw[show 2*((d.toNat/2:Nat):Int)+1=d by omega]at b;exact b
theorem VD{P:Nat}[NeZero P](w:Xs):(Instr.alloc 211 true (.tuple #[])).run prog w=.ok (jZ w.heap.size) (w.alloc (.cells (tw ((0,0,0):T3 P)).toArray 211)):=by
 show _=Result.ok _ (w.alloc (.cells (ws (0:Fin P)++(ws (0:Fin P)++ws (0:Fin P))).toArray 211));rw[<-A4];kernel_rfl
theorem Ur(w:Xs):(binOp .neq 213 (.int .i8 0) (.int .i8 0)).run prog w=.ok (.bool false) w:=kR
theorem Uq{d:Int}(h:¬d=0)(w:Xs):(binOp .neq 213 (.int .i8 d) (.int .i8 0)).run prog w=.ok (.bool true) w:=by
 go_simp
theorem sub1'(q:Nat)(k:q<1000)(w:Xs):(binOp .sub 3 (iZ q) (iZ 1)).run prog w=.ok (iZ ((q:Int)-1)) w:=DV _ _ oM oM w
theorem geq0'(i:Nat)(w:Xs):(binOp .geq 3 (iZ i) (iZ 0)).run prog w=.ok (.bool true) w:=by
 go_simp
theorem Jq(F:Fld P)(N:Nat)(hN:N<=512)(ns:Nat->Nat)(xs ys:Nat->Fin P)(kf:∀i,i<N->ns i<top)(g o:Nat)(w:Xs)(b7:g<w.heap.size)(kw:o<w.heap.size)
 (Z:∀i,i<N->w.rangeAt g (4*i) (wn (ns i))) (ha:∀i,i<N->w.rangeAt o (8*i) (ws (xs i)++ws (ys i))) :
 XH prog 66 #[sZ g N N,sZ o N N] w (rZ w λe w'=>∃s,s=iW ns xs ys N 257/\e=pv (s.1*(inv s.2.2*inv s.2.2)) (s.2.1*(inv s.2.2*inv s.2.2)*inv s.2.2)):=by
 obtain⟨C,bb,b8⟩:=Uv N hN;have h3:∀(i:Nat) (c2:List Xu),fc (xs i) (ys i) (fN (ns i)) (cc ns xs ys C i) (353*i) 8=c2->cc ns xs ys C (i+1)=c2:=λi c2 h=>h
 obtain⟨i,-⟩:∃i:Nat,i=0:=⟨_,rfl⟩
 obtain⟨q,-⟩:∃i:Nat,i=0:=⟨_,rfl⟩
 obtain⟨d,-⟩:∃i:Int,i=0:=⟨_,rfl⟩
 obtain⟨C2,-⟩:∃c:List Xu,c=C:=⟨_,rfl⟩
 obtain⟨s,-⟩:∃s:T3 P,s=(0,0,0):=⟨_,rfl⟩
 obtain⟨s2,-⟩:∃s:T3 P,s=(0,0,0):=⟨_,rfl⟩
 obtain⟨s3,-⟩:∃s:T3 P,s=(0,0,0):=⟨_,rfl⟩
 obtain⟨s4,-⟩:∃s:T3 P,s=(0,0,0):=⟨_,rfl⟩
 go_enter func66,ntmps66;refine QA (v0:=(sZ g N N)) (v1:=(sZ o N N)) (n:=62) kR kR kR kR ?_;intro a0 b3 f0 f1;have b6:=RG.St.begin w;have M0:RG.M w w.heap.size [] 62 [] [] [(0,.v (sZ g N N)),(1,.v (sZ o N N))] a0 _:=⟨b6,b3,⟨f0,f1,yEU⟩⟩
 repeat refine Xy ?_
 refine M0.T [.m 0] [(0,RG.z 8)] [] [RG.z 8] [0,1,4] ⟨mk 0 131,yEU⟩ ?_;intro j1 a1 w1 M1;repeat refine Xy ?_
 refine M1.t [.x 11 [] (sZ g N N),.x 12 [(11,0)] (iZ N),⟨some 13,[(12,1)],.s 1 N N,.make 1⟩,.s 5 [(13,2)] (.s 1 N N)] [(2,C)] [] [RG.z 8,C] [(0,.v (sZ g N N)),(1,.v (sZ o N N)),(4,.p 0 0),(5,.s 1 N N)] ⟨st,gJ rfl 11 (.v (sZ g N N)) (iZ N) rfl sx (λa w=>kR) (λμ w=>kR),nD 1 rfl _ rfl 208 216 12 12 N rfl rfl sx sx b8,st,yEU⟩ ?_;intro j2 a2 w2 M2;repeat refine Xy ?_
 refine M2.U [.s (.s 1 N N),.x (iZ N),.x (iZ 0)] [0,1,4,5,15,16] ⟨st,gJ rfl 14 (.s 1 N N) (iZ N) rfl sx (λa w=>kR) (λμ w=>kR),st,yEU⟩ ?_;intro a3 w3 M3;have ke:a3.tmps[0]? = some (sZ g N N):=M3.at (s:=(.v (sZ g N N)));have km:a3.tmps[1]? = some (sZ o N N):=M3.at (s:=(.v (sZ o N N)));have kc:a3.tmps[4]? = some (jZ j1):=M3.at (s:=(.p 0 0));have kj:a3.tmps[5]? = some (sZ j2 N N):=M3.at (s:=(.s 1 N N));have k2:a3.tmps[15]? = some (iZ N):=M3.at (s:=(.v (iZ N)));have h8:a3.tmps[16]? = some (iZ 0):=M3.at (s:=(.v (iZ 0)));repeat refine Xy ?_
 refine Y6 ?_;refine yBN (λm a wr=>∃i,i+m=N/\Sl a 62/\a.tmps[0]? = some (sZ g N N)/\a.tmps[1]? = some (sZ o N N)/\a.tmps[4]? = some (jZ j1)/\a.tmps[5]? = some (sZ j2 N N)/\a.tmps[15]? = some (iZ N)/\a.tmps[16]? = some (iZ i)/\RG.St w w.heap.size [] [[uZ 0,uZ 0,uZ 0,uZ 0,uZ 0,uZ 0,uZ 0,uZ 0],cc ns xs ys C i] [j1,j2] wr) N ⟨0,oM,M3.sl,ke,km,kc,kj,k2,h8,M3.st⟩ ?_;intro m a wr;rintro⟨i,bg,sl,p0,p1,p4,p5,kd,kg,M⟩;generalize j1=x at p4 M;generalize j2=y at p5 M;obtain⟨C,ki⟩:∃c,cc ns xs ys C i=c:=⟨_,rfl⟩
 have W:=Qd (ns:=ns) (xs:=xs) (ys:=ys) bb i oM;rw[ki]at M W;by_cases z:i<N
 ·obtain⟨C2,p⟩:∃c,fc (xs i) (ys i) (fN (ns i)) C (353*i) 8=c:=⟨_,rfl⟩
  have B:353*i+353<=C.length:=by rw[W.1];omega
  have K:C2.length=C.length:=p ▸ (GL B 8 (Xx _)).len;have G:∀(k:Nat) (w:Xs),w.there k 0 C.length->w.rangeAt k 0 C->XH prog 112 #[.pointer (some ⟨k,353*i,none⟩),nv (ns i),pv (xs i) (ys i)] w (Ret λr w'=>PutTo k C.length C2 w w'/\r=.tuple #[]):=λk w T hr=>p ▸ LC F (kf i z) (xs i) (ys i) C k (353*i) B w T hr
  have O:w.rangeAt g (0+4*i) (wn (ns i)):=by rw[XD];exact Z i z
  have L:w.rangeAt o (0+8*i) (ws (xs i)++ws (ys i)):=by rw[XD];exact ha i z
  have Q:RG.M w w.heap.size [] 62 [RG.z 8,C] [x,y] [(0,.v (sZ g N N)),(1,.v (sZ o N N)),(4,.p 0 0),(5,.s 1 N N),(15,.v (iZ N)),(16,.v (iZ i))] a _:=⟨M,sl,⟨p0,p1,p4,p5,kd,kg,yEU⟩⟩
  repeat refine Xy ?_
  refine Q.U [.x (.bool true)] [0,1,4,5,15,16,17] ⟨aO rfl .lss 3 3 16 15 (iZ i) (iZ N) (.bool true) rfl rfl sx sx (λw=>kR) (gW z),yEU⟩ ?_;intro U bu J;repeat refine Xy ?_
  refine Yx J.ev ?_;refine YR ?_;refine Xy ?_;refine Y6 ?_;repeat refine Xy ?_
  refine J.U [.x (iZ i),.x (iZ i)] [0,1,4,5,6,15,16] ⟨st,st,yEU⟩ ?_;intro Y V R;repeat refine Xy ?_
  refine R.dr kR [.s 19 [] (.s 1 N N),.x 20 [] (iZ i),.s 21 [(19,0),(20,1)] (.p 1 (353*i)),.x 22 [] (sZ g N N),.x 23 [] (iZ i),.x 24 [(22,3),(23,4)] (.pointer (some ⟨g,0+4*i,none⟩)),.x 25 [(24,5)] (nv (ns i)),.x 26 [] (sZ o N N),.x 27 [] (iZ i),.x 28 [(26,7),(27,8)] (.pointer (some ⟨o,0+8*i,none⟩)),.x 29 [(28,9)] (pv (xs i) (ys i)),⟨some 30,[(21,2),(25,6),(29,10)],.v (.tuple #[]),.put 1⟩] [] [(1,11,C2)] [RG.z 8,C2] [(0,.v (sZ g N N)),(1,.v (sZ o N N)),(4,.p 0 0),(5,.s 1 N N),(15,.v (iZ N)),(16,.v (iZ i))] kR (congrArg (λn=>[n]) K) ⟨st,st,aY rfl 208 19 20 rfl (.s 1 N N) (iZ i) sx sx (λμ w=>Hb _ _ _ i z w),st,st,aY rfl 127 22 23 rfl (.v (sZ g N N)) (iZ i) sx sx (λμ w=>Vw _ _ _ _ i z w),eK rfl g (0+4*i) b7 X5 42 24 rfl (wn (ns i)) rfl sx O u85 i85,st,st,aY rfl 138 26 27 rfl (.v (sZ o N N)) (iZ i) sx sx (λμ w=>Qj _ _ _ _ i z w),eK rfl o (0+8*i) kw X5 131 28 rfl (ws (xs i)++ws (ys i)) rfl sx L iI i109,Ae 1 rfl _ rfl 112 21 25 29 (.p 1 (353*i)) (nv (ns i)) (pv (xs i) (ys i)) (.tuple #[]) rfl (λa w=>kR) sx sx sx (λμ w T hr=>G (μ 1) w T hr),yEU⟩ ?_;intro bq X S;repeat refine Xy ?_
  refine S.U [.x (iZ ((i+1:Nat):Int)),.x (iZ ((i+1:Nat):Int))] [0,1,4,5,15,16] ⟨aN rfl .add 3 3 16 (iZ i) (iZ 1) (iZ ((i+1:Nat):Int)) rfl rfl sx (λw=>kR) (vZ i 1 oM oM),st,yEU⟩ ?_;intro l bv f;have H:l.tmps[0]? = some (sZ g N N):=f.at (s:=(.v (sZ g N N)));have E:l.tmps[1]? = some (sZ o N N):=f.at (s:=(.v (sZ o N N)));have D:l.tmps[4]? = some (jZ x):=f.at (s:=(.p 0 0));have I:l.tmps[5]? = some (sZ y N N):=f.at (s:=(.s 1 N N));have u:l.tmps[15]? = some (iZ N):=f.at (s:=(.v (iZ N)));have A:l.tmps[16]? = some (iZ ((i+1:Nat):Int)):=f.at (s:=(.v (iZ ((i+1:Nat):Int))));show ∃n',_;refine⟨m-1,oM,i+1,oM,f.sl,H,E,D,I,u,A,?_⟩;rw[h3 i C2 (by rw[ki];exact p)];exact f.st
 ·have ku:i=N:=oM;rw[ku]at W;have kp:=W.2;have kv:RG.M w w.heap.size [] 62 [RG.z 8,C] [x,y] [(0,.v (sZ g N N)),(1,.v (sZ o N N)),(4,.p 0 0),(5,.s 1 N N),(15,.v (iZ N)),(16,.v (iZ i))] a _:=⟨M,sl,⟨p0,p1,p4,p5,kd,kg,yEU⟩⟩
  repeat refine Xy ?_
  refine kv.U [.x (.bool false)] [4,5,17] ⟨aO rfl .lss 3 3 16 15 (iZ i) (iZ N) (.bool false) rfl rfl sx sx (λw=>kR) (oC z),yEU⟩ ?_;intro bz bt kh;repeat refine Xy ?_
  refine X7 kh.ev ?_;refine wp_exit ?_;dsimp only[Exit.then,yA4];rw[yES rfl];repeat refine Xy ?_
  refine kh.T [.m 2] [(0,tw ((0,0,0):T3 P))] [] [RG.z 8,C,tw ((0,0,0):T3 P)] [4,5,7] ⟨qW 2 rfl rfl _ rfl 211 rfl VD,yEU⟩ ?_;intro h0 bo bn bd;repeat refine Xy ?_
  refine bd.U [.x (iZ 256)] [4,5,7,8] ⟨st,yEU⟩ ?_;intro X bs E;have k6:X.tmps[4]? = some (jZ x):=E.at (s:=(.p 0 0));have hp:X.tmps[5]? = some (sZ y N N):=E.at (s:=(.s 1 N N));have hu:X.tmps[7]? = some (jZ h0):=E.at (s:=(.p 2 0));have hy:X.tmps[8]? = some (iZ 256):=E.at (s:=(.v (iZ 256)));repeat refine Xy ?_
  refine Y6 ?_;refine yBN (λm a wr=>m<=257/\Sl a 62/\a.tmps[4]? = some (jZ x)/\a.tmps[5]? = some (sZ y N N)/\a.tmps[7]? = some (jZ h0)/\a.tmps[8]? = some (iZ ((m:Int)-1))/\RG.St w w.heap.size [] [[uZ 0,uZ 0,uZ 0,uZ 0,uZ 0,uZ 0,uZ 0,uZ 0],C,tw (iW ns xs ys N (257-m))] [x,y,h0] wr) 257 ⟨Xx _,E.sl,k6,hp,hu,hy,?_⟩ ?_
  ·rw[yA8,iW];exact E.st
  intro m b wr;rintro⟨hm,ko,q4,q5,q7,q8,G⟩;generalize h0=K at q7 G;by_cases hz:m=0
  ·subst hz;rw[show 257-0=257 from rfl]at G;obtain⟨s,J⟩:∃s,iW ns xs ys N 257=s:=⟨_,rfl⟩
   rw[J]at G;have p:RG.M w w.heap.size [] 62 [RG.z 8,C,tw s] [x,y,K] [(4,.p 0 0),(5,.s 1 N N),(7,.p 2 0),(8,.v (iZ (-1)))] b _:=⟨G,ko,⟨q4,q5,q7,q8,yEU⟩⟩
   repeat refine Xy ?_
   refine p.U [.x (iZ (-1)),.x (.bool false)] [4,7,33] ⟨st,st,yEU⟩ ?_;intro u D l;repeat refine Xy ?_
   refine X7 l.ev ?_;refine wp_exit ?_;dsimp only[Exit.then,yA4];rw[yES rfl];repeat refine Xy ?_
   refine l.T [.x (tv s),.c (pv (s.1*(inv s.2.2*inv s.2.2)) (s.2.1*(inv s.2.2*inv s.2.2)*inv s.2.2)),.u 0] [] [(0,2,ws (s.1*(inv s.2.2*inv s.2.2))++(ws (s.2.1*(inv s.2.2*inv s.2.2)*inv s.2.2)))] [ws (s.1*(inv s.2.2*inv s.2.2))++(ws (s.2.1*(inv s.2.2*inv s.2.2)*inv s.2.2)),C,tw s] [4] ⟨ld iQ i117,cl (Ud F s),RG.pt i109,yEU⟩ ?_;intro A B f;refine Y5 ?_;refine XE (v:=pv (s.1*(inv s.2.2*inv s.2.2)) (s.2.1*(inv s.2.2*inv s.2.2)*inv s.2.2)) (aH f.st 4 131 rfl 0 _ rfl (f.at (s:=(.p 0 0))) iI i109) f.sl.defers ?_;exact⟨_,rfl,f.st.bel.below,s,J.symm,rfl⟩
  ·obtain⟨q,rfl⟩:∃q,m=q+1:=⟨m-1,oM⟩
   have hq:q<257:=oM;replace q8:b.tmps[8]? = some (iZ q):=by rw[q8];congr 2;omega
   obtain⟨s,J⟩:∃s,iW ns xs ys N (257-(q+1))=s:=⟨_,rfl⟩
   rw[J]at G;obtain⟨s2,h4⟩:∃t,twJ s=t:=⟨_,rfl⟩
   have kz:=h4 ▸ Pu F s;have O:iW ns xs ys N (257-q)=inn ns xs ys s2 q N:=by
    rw[show 257-q=257-(q+1)+1 by omega];show inn ns xs ys (twJ (iW ns xs ys N (257-(q+1)))) (256-(257-(q+1))) N=_;rw[J,h4,show 256-(257-(q+1))=q by omega]
   have b4:RG.M w w.heap.size [] 62 [RG.z 8,C,tw s] [x,y,K] [(4,.p 0 0),(5,.s 1 N N),(7,.p 2 0),(8,.v (iZ q))] b _:=⟨G,ko,⟨q4,q5,q7,q8,yEU⟩⟩
   repeat refine Xy ?_
   refine b4.U [.x (iZ q),.x (.bool true)] [4,5,7,8,33] ⟨st,aN rfl .geq 3 3 32 (iZ q) (iZ 0) (.bool true) rfl rfl sx (λw=>kR) (geq0' q),yEU⟩ ?_;intro bk bp kk;repeat refine Xy ?_
   refine Yx kk.ev ?_;refine YR ?_;refine Xy ?_;refine Y6 ?_;repeat refine Xy ?_
   refine kk.T [.x (tv s),.c (tv s2),.u 2] [] [(2,2,tw s2)] [RG.z 8,C,tw s2] [4,5,7,8] ⟨ld iQ i117,cl kz,RG.pt i117,yEU⟩ ?_;intro br c0 b2;repeat refine Xy ?_
   refine b2.U [.s (.s 1 N N),.x (iZ N),.x (iZ 0)] [4,5,7,8,39,40] ⟨st,gJ rfl 38 (.s 1 N N) (iZ N) rfl sx (λa w=>kR) (λμ w=>kR),st,yEU⟩ ?_;intro H bl A;have hl:H.tmps[4]? = some (jZ x):=A.at (s:=(.p 0 0));have k4:H.tmps[5]? = some (sZ y N N):=A.at (s:=(.s 1 N N));have hw:H.tmps[7]? = some (jZ K):=A.at (s:=(.p 2 0));have hb:H.tmps[8]? = some (iZ q):=A.at (s:=(.v (iZ q)));have T:H.tmps[39]? = some (iZ N):=A.at (s:=(.v (iZ N)));have S:H.tmps[40]? = some (iZ 0):=A.at (s:=(.v (iZ 0)));repeat refine Xy ?_
   refine Y6 ?_;refine yBN (λm a wr=>∃i,i+m=N/\Sl a 62/\a.tmps[4]? = some (jZ x)/\a.tmps[5]? = some (sZ y N N)/\a.tmps[7]? = some (jZ K)/\a.tmps[8]? = some (iZ q)/\a.tmps[39]? = some (iZ N)/\a.tmps[40]? = some (iZ i)/\RG.St w w.heap.size [] [[uZ 0,uZ 0,uZ 0,uZ 0,uZ 0,uZ 0,uZ 0,uZ 0],C,tw (inn ns xs ys s2 q i)] [x,y,K] wr) N ⟨0,oM,A.sl,hl,k4,hw,hb,T,S,A.st⟩ ?_;intro m' c wr;rintro⟨i,bg,k8,r4,r5,r7,r8,he,hc,V⟩;obtain⟨s,D⟩:∃s,inn ns xs ys s2 q i=s:=⟨_,rfl⟩
   rw[D]at V;by_cases z:i<N
   ·obtain⟨h1,h2⟩:=kp i z;obtain⟨d,U⟩:∃d,fN (ns i) q=d:=⟨_,rfl⟩
    have u:=U ▸ h1 q hq;have kb:C≠[]:=by intro h;rw[h]at u;simp at u
    have f:inn ns xs ys s2 q (i+1)=if d=0 then s else plJ s (tmJ (xs i) (ys i) d):=by rw[<-D,<-U];rfl
    by_cases L:d=0
    ·rw[yES L]at f;rw[L]at u;have k7:RG.M w w.heap.size [] 62 [RG.z 8,C,tw s] [x,y,K] [(4,.p 0 0),(5,.s 1 N N),(7,.p 2 0),(8,.v (iZ q)),(39,.v (iZ N)),(40,.v (iZ i))] c _:=⟨V,k8,⟨r4,r5,r7,r8,he,hc,yEU⟩⟩
     repeat refine Xy ?_
     refine k7.U [.x (.bool true)] [4,5,7,8,39,40,41] ⟨aO rfl .lss 3 3 40 39 (iZ i) (iZ N) (.bool true) rfl rfl sx sx (λw=>kR) (gW z),yEU⟩ ?_;intro bh b9 R;repeat refine Xy ?_
     refine Yx R.ev ?_;refine YR ?_;refine Xy ?_;refine Y6 ?_;repeat refine Xy ?_
     refine R.U [.x (iZ i),.x (iZ i)] [4,5,7,8,9,39,40] ⟨st,st,yEU⟩ ?_;intro kx ky hg;repeat refine Xy ?_
     refine hg.U [.s (.s 1 N N),.x (iZ i),.x (iZ q),.s (.p 1 (353*i)),.s (.p 1 ((353*i)+96)),.s (.p 1 (((353*i)+96)+q)),.x (.int .i8 0),.x (.int .i8 0)] [4,5,7,8,10,39,40] ⟨st,st,st,aY rfl 208 43 44 rfl (.s 1 N N) (iZ i) sx sx (λμ w=>Hb _ _ _ i z w),st,aY rfl 214 47 45 rfl (.p 1 ((353*i)+96)) (iZ q) sx sx (λμ w=>Mn _ _ q hq w),zJ rfl 1 (((353*i)+96)+q) _ rfl rfl kR 213 48 rfl (.int .i8 0) rfl sx u TK,st,yEU⟩ ?_;intro bf bj h9;repeat refine Xy ?_
     refine h9.U [.x (.int .i8 0),.x (.bool false)] [4,5,7,8,39,40,51] ⟨st,aN rfl .neq 213 213 50 (.int .i8 0) (.int .i8 0) (.bool false) rfl rfl sx (λw=>kR) Ur,yEU⟩ ?_;intro bi bc Q;repeat refine Xy ?_
     refine X7 Q.ev ?_;refine YR ?_;repeat refine Xy ?_
     refine Q.U [.x (iZ ((i+1:Nat):Int)),.x (iZ ((i+1:Nat):Int))] [4,5,7,8,39,40] ⟨aN rfl .add 3 3 40 (iZ i) (iZ 1) (iZ ((i+1:Nat):Int)) rfl rfl sx (λw=>kR) (vZ i 1 oM oM),st,yEU⟩ ?_;intro B be l;have k0:B.tmps[4]? = some (jZ x):=l.at (s:=(.p 0 0));have k5:B.tmps[5]? = some (sZ y N N):=l.at (s:=(.s 1 N N));have Y:B.tmps[7]? = some (jZ K):=l.at (s:=(.p 2 0));have Z:B.tmps[8]? = some (iZ q):=l.at (s:=(.v (iZ q)));have p:B.tmps[39]? = some (iZ N):=l.at (s:=(.v (iZ N)));have I:B.tmps[40]? = some (iZ ((i+1:Nat):Int)):=l.at (s:=(.v (iZ ((i+1:Nat):Int))));show ∃n',_;exact⟨m'-1,oM,i+1,oM,l.sl,k0,k5,Y,Z,p,I,by rw[f];exact l.st⟩
    ·rw[yET L]at f;have h5:d%2=1/\-15<=d/\d<=15:=by
      obtain⟨_,_,-,p⟩:=BM (show ns i<2^256 from kf i z);rcases p.ho q with h|h
      ·exact absurd (U ▸ h) L
      ·exact U ▸ h
     obtain⟨s3,h6⟩:∃t,tmJ (xs i) (ys i) d=t:=⟨_,rfl⟩
     obtain⟨s4,h7⟩:∃t,plJ s s3=t:=⟨_,rfl⟩
     have b5:=h7 ▸ PD F s s3;have ba:∀(k:Nat) (w:Xs),k<w.heap.size->w.rangeAt k 0 C->XH prog 115 #[.pointer (some ⟨k,353*i,none⟩),.int .i8 d] w (rZ w λr w'=>r=tv s3):=λk w k9 hr =>
      h6 ▸ Nl F k (353*i) (xs i) (ys i) h5.1 h5.2 w k9 (λY p=>tD hr (λj I=>by rw[yAi];exact h2 Y j p (by rw[cJ]at I;exact I)))
     rw[h6,h7]at f;have k7:RG.M w w.heap.size [] 62 [RG.z 8,C,tw s] [x,y,K] [(4,.p 0 0),(5,.s 1 N N),(7,.p 2 0),(8,.v (iZ q)),(39,.v (iZ N)),(40,.v (iZ i))] c _:=⟨V,k8,⟨r4,r5,r7,r8,he,hc,yEU⟩⟩
     repeat refine Xy ?_
     refine k7.U [.x (.bool true)] [4,5,7,8,39,40,41] ⟨aO rfl .lss 3 3 40 39 (iZ i) (iZ N) (.bool true) rfl rfl sx sx (λw=>kR) (gW z),yEU⟩ ?_;intro bh b9 R;repeat refine Xy ?_
     refine Yx R.ev ?_;refine YR ?_;refine Xy ?_;refine Y6 ?_;repeat refine Xy ?_
     refine R.U [.x (iZ i),.x (iZ i)] [4,5,7,8,9,39,40] ⟨st,st,yEU⟩ ?_;intro kx ky hg;repeat refine Xy ?_
     refine hg.U [.s (.s 1 N N),.x (iZ i),.x (iZ q),.s (.p 1 (353*i)),.s (.p 1 ((353*i)+96)),.s (.p 1 (((353*i)+96)+q)),.x (.int .i8 d),.x (.int .i8 d)] [4,5,7,8,9,10,39,40] ⟨st,st,st,aY rfl 208 43 44 rfl (.s 1 N N) (iZ i) sx sx (λμ w=>Hb _ _ _ i z w),st,aY rfl 214 47 45 rfl (.p 1 ((353*i)+96)) (iZ q) sx sx (λμ w=>Mn _ _ q hq w),zJ rfl 1 (((353*i)+96)+q) _ rfl rfl kR 213 48 rfl (.int .i8 d) rfl sx u TK,st,yEU⟩ ?_;intro bf bj h9;repeat refine Xy ?_
     refine h9.U [.x (.int .i8 d),.x (.bool true)] [4,5,7,8,9,10,39,40,51] ⟨st,aN rfl .neq 213 213 50 (.int .i8 d) (.int .i8 0) (.bool true) rfl rfl sx (λw=>kR) (Uq L),yEU⟩ ?_;intro bi bc Q;repeat refine Xy ?_
     refine Yx Q.ev ?_;repeat refine Xy ?_
     refine Q.D [.x (tv s),.s (.s 1 N N),.x (iZ i),.s (.p 1 (353*i)),.x (.int .i8 d),.c (tv s3),.c (tv s4),.u 2] [] [(2,7,tw s4)] [RG.z 8,C,tw s4] [4,5,7,8,39,40] ⟨ld iQ i117,st,st,aY rfl 208 53 54 rfl (.s 1 N N) (iZ i) sx sx (λμ w=>Hb _ _ _ i z w),st,Di rfl 1 _ rfl rfl kR kb 115 55 56 (.p 1 (353*i)) (.int .i8 d) (tv s3) rfl (λa w=>kR) sx sx (λμ w k9 hr=>ba (μ 1) w k9 hr),cl b5,RG.pt i117,yEU⟩ ?_;intro B be l;repeat refine Xy ?_
     refine l.U [.x (iZ ((i+1:Nat):Int)),.x (iZ ((i+1:Nat):Int))] [4,5,7,8,39,40] ⟨aN rfl .add 3 3 40 (iZ i) (iZ 1) (iZ ((i+1:Nat):Int)) rfl rfl sx (λw=>kR) (vZ i 1 oM oM),st,yEU⟩ ?_;intro I bm p;have k3:I.tmps[4]? = some (jZ x):=p.at (s:=(.p 0 0));have hs:I.tmps[5]? = some (sZ y N N):=p.at (s:=(.s 1 N N));have hk:I.tmps[7]? = some (jZ K):=p.at (s:=(.p 2 0));have k1:I.tmps[8]? = some (iZ q):=p.at (s:=(.v (iZ q)));have Z:I.tmps[39]? = some (iZ N):=p.at (s:=(.v (iZ N)));have Y:I.tmps[40]? = some (iZ ((i+1:Nat):Int)):=p.at (s:=(.v (iZ ((i+1:Nat):Int))));show ∃n',_;exact⟨m'-1,oM,i+1,oM,p.sl,k3,hs,hk,k1,Z,Y,by rw[f];exact p.st⟩
   ·have Q:i=N:=oM;rw[Q]at D;rw[D]at O;have R:RG.M w w.heap.size [] 62 [RG.z 8,C,tw s] [x,y,K] [(4,.p 0 0),(5,.s 1 N N),(7,.p 2 0),(8,.v (iZ q)),(39,.v (iZ N)),(40,.v (iZ i))] c _:=⟨V,k8,⟨r4,r5,r7,r8,he,hc,yEU⟩⟩
    repeat refine Xy ?_
    refine R.U [.x (.bool false)] [4,5,7,8,41] ⟨aO rfl .lss 3 3 40 39 (iZ i) (iZ N) (.bool false) rfl rfl sx sx (λw=>kR) (oC z),yEU⟩ ?_;intro Z U L;repeat refine Xy ?_
    refine X7 L.ev ?_;refine wp_exit ?_;dsimp only[Exit.then,yA4];rw[yES rfl];repeat refine Xy ?_
    refine L.U [.x (iZ q),.x (iZ ((q:Int)-1)),.x (iZ ((q:Int)-1))] [4,5,7,8] ⟨st,aN rfl .sub 3 3 34 (iZ q) (iZ 1) (iZ ((q:Int)-1)) rfl rfl sx (λw=>kR) (sub1' q oM),st,yEU⟩ ?_;intro l Y f;have I:l.tmps[4]? = some (jZ x):=f.at (s:=(.p 0 0));have u:l.tmps[5]? = some (sZ y N N):=f.at (s:=(.s 1 N N));have B:l.tmps[7]? = some (jZ K):=f.at (s:=(.p 2 0));have p:l.tmps[8]? = some (iZ ((q:Int)-1)):=f.at (s:=(.v (iZ ((q:Int)-1))));show ∃n',_;exact⟨q,yCD q,oM,f.sl,I,u,B,p,by rw[O];exact f.st⟩
def rt(m:Fin P):Option (Fin P):=if m.val^(P/4+1)%P*(m.val^(P/4+1)%P)%P=m.val then some (ZS P (even P (m.val^(P/4+1)%P))) else none
omit [NeZero P] in
theorem GM{r:Nat}(k:0<P)(h:r<P):even P r<P:=by unfold even;split<;>omega
theorem NG{m y:Fin P}{v:Xu}(h:rt m=some y)(k:Four v (even P (m.val^(P/4+1)%P))):v=fv y:=by
 unfold rt at h;split at h
 ·obtain rfl:=Option.some.inj h;have:(ZS P (even P (m.val^(P/4+1)%P))).val=even P (m.val^(P/4+1)%P):=XX (GM (yA9 P) (Y9 _ (yA9 P)));show v=nv _;rw[this];exact k.nv
 ·cases h
theorem JM{m y:Fin P}(h:rt m=some y):m.val^(P/4+1)%P*(m.val^(P/4+1)%P)%P=m.val:=by
 unfold rt at h;split at h
 ·assumption
 ·cases h
theorem TY{m:Fin P}(h:rt m=none):¬m.val^(P/4+1)%P*(m.val^(P/4+1)%P)%P=m.val:=by
 unfold rt at h;split at h
 ·cases h
 ·assumption
theorem RootR.val{m:Fin P}{e:Xu}(h:RootR P m.val (m.val^(P/4+1)%P) e):(∀y,rt m=some y->e=.tuple #[fv y,.bool true])/\(rt m=none->e=.tuple #[fv (0:Fin P),.bool false]):=by
 obtain⟨i,j,l,g,ok,rfl,k,d,f⟩:=h;refine⟨λy b=>?_,λc=>?_⟩
 ·cases ok with
  | true=>rw[NG b (k rfl).2]
  | false=>exact absurd (JM b) (d rfl)
 ·cases ok with
  | true=>exact absurd (k rfl).1 (TY c)
  | false =>
   obtain⟨rfl,rfl,rfl,rfl⟩:=f rfl;rw[<-mD];rfl
theorem Tg(h:Fld P){m y:Fin P}(e:rt m=some y):Gives 177 #[gv0,fv m] (.tuple #[fv y,.bool true]):=λw =>
 (Dt 4294968273 0 0 P _ m.val h.gap h.p4 (h.four m) w).mono (by rintro e' w' ⟨v,rfl,b,k⟩;exact⟨_,rfl,b,k.val.1 y e⟩)
theorem Ti(h:Fld P){m:Fin P}(e:rt m=none):Gives 177 #[gv0,fv m] (.tuple #[fv (0:Fin P),.bool false]):=λw =>
 (Dt 4294968273 0 0 P _ m.val h.gap h.p4 (h.four m) w).mono (by rintro e' w' ⟨v,rfl,b,k⟩;exact⟨_,rfl,b,k.val.2 e⟩)
def gl0:List Xu:=[uZ 4294968273,uZ 0,uZ 0,uZ 0]
theorem AX(C:Fld P)(x y:Fin P)(o:rt (x*x*x+7)=some y):Gives 119 #[(fv x)] (.tuple #[pv x y,.bool true]):=by
 intro w;obtain⟨c1,g⟩:∃c,c=x*x:=⟨_,rfl⟩
 obtain⟨c2,e⟩:∃c,c=c1*x:=⟨_,rfl⟩
 obtain⟨k,i⟩:∃c,c=c2+(7:Fin P):=⟨_,rfl⟩
 have b:((.tuple #[pv x y,.bool true]):Xu)=(.tuple #[pv x y,.bool true]):=by
  subst_vars;rfl
 rw[<-b];go_enter func119,ntmps119;refine RG.M.enter [(0,.v (fv x))] 31 kR ?_;intro a0 n;repeat refine Xy ?_
 refine n.T [.m 0,.m 1,.x (.bool false)] [(0,ws x),(1,RG.z 8)] [] [ws x,RG.z 8] [1,2,3] ⟨mk 0 42,mk 1 131,st,yEU⟩ ?_;intro E u t H p;repeat refine Xy ?_
 refine p.T [.c gv0,.m 2,.u 2] [(1,RG.z 4)] [(2,2,gl0)] [ws x,RG.z 8,gl0] [1,2,3,4] ⟨cl bP,mk 2 78,RG.pt i79,yEU⟩ ?_;intro J a2 z l;repeat refine Xy ?_
 refine l.D [.x gv0,.x gv0,.x gv0,.x (fv x),.x (fv x),.c (fv c1),.x (fv x),.c (fv c2),.x (fv (7:Fin P)),.c (fv k),.m 3,.u 3] [(10,RG.z 4)] [(3,11,ws k)] [ws x,RG.z 8,gl0,ws k] [1,2,3,4,5] ⟨ld u79 i79,ld u79 i79,ld u79 i79,ld u85 i85,ld u85 i85,cl ((sO C x x).e g),ld u85 i85,cl ((sO C c1 x).e e),se (Cm C),cl ((Hn C c2 (7:Fin P)).e i),mk 3 42,RG.pt i85,yEU⟩ ?_;intro A G F m;repeat refine Xy ?_
 refine m.T [.x gv0,.x (fv k),.c (.tuple #[fv y,.bool true]),.x (.tuple #[fv y,.bool true]),.x (fv y),.x (.bool true),.m 4,.u 4,.x (.bool true)] [(6,RG.z 4)] [(4,7,ws y)] [ws x,RG.z 8,gl0,ws k,ws y] [1,2,3,6,7] ⟨ld u79 i79,ld u85 i85,cl (f:=177) (args:=#[gv0,fv k]) (v:=(.tuple #[fv y,.bool true])) (Tg C (by subst_vars;exact o)),st,st,st,mk 4 42,RG.pt i85,st,yEU⟩ ?_;intro L I K q;repeat refine Xy ?_
 refine q.U [.x (.bool true),.x (.bool false)] [1,2,3,6,26] ⟨st,st,yEU⟩ ?_;intro D a j;repeat refine Xy ?_
 refine X7 j.ev ?_;refine YR ?_;repeat refine Xy ?_
 refine j.T [.x (fv x),.x (fv y),.x (pv x y),.u 1,.x (.bool true)] [] [(1,3,ws x++(ws y))] [ws x,ws x++(ws y),gl0,ws k,ws y] [2,3] ⟨ld u85 i85,ld u85 i85,st,RG.pt i109,st,yEU⟩ ?_;intro r B d;refine Y5 ?_;refine XE (v:=(.tuple #[pv x y,.bool true])) (cV d.st 2 3 131 rfl 1 _ rfl (d.at (s:=(.p 1 0))) _ (d.at (s:=(.v (.bool true)))) iI i109) d.sl.defers ?_;exact⟨_,rfl,d.st.bel.below,rfl⟩
theorem AY(C:Fld P)(x:Fin P)(o:rt (x*x*x+7)=none):Gives 119 #[(fv x)] (.tuple #[pv (0:Fin P) 0,.bool false]):=by
 intro w;obtain⟨c1,g⟩:∃c,c=x*x:=⟨_,rfl⟩
 obtain⟨c2,e⟩:∃c,c=c1*x:=⟨_,rfl⟩
 obtain⟨k,i⟩:∃c,c=c2+(7:Fin P):=⟨_,rfl⟩
 have b:((.tuple #[pv (0:Fin P) (0:Fin P),.bool false]):Xu)=(.tuple #[pv (0:Fin P) 0,.bool false]):=by
  subst_vars;rfl
 rw[<-b];go_enter func119,ntmps119;refine RG.M.enter [(0,.v (fv x))] 31 kR ?_;intro a0 n;repeat refine Xy ?_
 refine n.T [.m 0,.m 1,.x (.bool false)] [(0,ws x),(1,RG.z 8)] [] [ws x,RG.z 8] [1,2,3] ⟨mk 0 42,mk 1 131,st,yEU⟩ ?_;intro D u t G p;repeat refine Xy ?_
 refine p.T [.c gv0,.m 2,.u 2] [(1,RG.z 4)] [(2,2,gl0)] [ws x,RG.z 8,gl0] [1,2,3,4] ⟨cl bP,mk 2 78,RG.pt i79,yEU⟩ ?_;intro I a2 y l;repeat refine Xy ?_
 refine l.D [.x gv0,.x gv0,.x gv0,.x (fv x),.x (fv x),.c (fv c1),.x (fv x),.c (fv c2),.x (fv (7:Fin P)),.c (fv k),.m 3,.u 3] [(10,RG.z 4)] [(3,11,ws k)] [ws x,RG.z 8,gl0,ws k] [2,3,4,5] ⟨ld u79 i79,ld u79 i79,ld u79 i79,ld u85 i85,ld u85 i85,cl ((sO C x x).e g),ld u85 i85,cl ((sO C c1 x).e e),se (Cm C),cl ((Hn C c2 (7:Fin P)).e i),mk 3 42,RG.pt i85,yEU⟩ ?_;intro a F E m;repeat refine Xy ?_
 refine m.T [.x gv0,.x (fv k),.c (.tuple #[fv (0:Fin P),.bool false]),.x (.tuple #[fv (0:Fin P),.bool false]),.x (fv (0:Fin P)),.x (.bool false),.m 4,.u 4,.x (.bool false)] [(6,RG.z 4)] [(4,7,ws (0:Fin P))] [ws x,RG.z 8,gl0,ws k,ws (0:Fin P)] [2,3,7] ⟨ld u79 i79,ld u85 i85,cl (f:=177) (args:=#[gv0,fv k]) (v:=(.tuple #[fv (0:Fin P),.bool false])) (Ti C (by subst_vars;exact o)),st,st,st,mk 4 42,RG.pt i85,st,yEU⟩ ?_;intro K H J q;repeat refine Xy ?_
 refine q.U [.x (.bool false),.x (.bool true)] [2,3,26] ⟨st,st,yEU⟩ ?_;intro B z j;repeat refine Xy ?_
 refine Yx j.ev ?_;repeat refine Xy ?_
 refine j.T [.x (pv (0:Fin P) (0:Fin P)),.u 1,.x (.bool false)] [] [(1,1,ws (0:Fin P)++(ws (0:Fin P)))] [ws x,ws (0:Fin P)++(ws (0:Fin P)),gl0,ws k,ws (0:Fin P)] [2,3] ⟨se (iE (P:=P)),RG.pt i109,st,yEU⟩ ?_;intro r A d;refine Y5 ?_;refine XE (v:=(.tuple #[pv (0:Fin P) (0:Fin P),.bool false])) (cV d.st 2 3 131 rfl 1 _ rfl (d.at (s:=(.p 1 0))) _ (d.at (s:=(.v (.bool false)))) iI i109) d.sl.defers ?_;exact⟨_,rfl,d.st.bel.below,rfl⟩
theorem Rn(C:Fld P)(x y:Fin P):Gives 196 #[(pv x y)] (pv x (0-y)):=by
 intro w;obtain⟨c1,d⟩:∃c,c=(0:Fin P)-y:=⟨_,rfl⟩
 have k:((pv x c1):Xu)=(pv x (0-y)):=by
  subst_vars;rfl
 rw[<-k];go_enter func196,ntmps196;refine RG.M.enter [(0,.v (pv x y))] 11 kR ?_;intro a0 e;repeat refine Xy ?_
 refine e.T [.m 0,.m 1] [(0,ws x++(ws y)),(1,RG.z 8)] [] [ws x++(ws y),RG.z 8] [1,2] ⟨mk 0 131,mk 1 131,yEU⟩ ?_;intro g m j l f;repeat refine Xy ?_
 refine f.D [.s (.p 0 0),.x (fv x),.c gv0,.x (fv (0:Fin P)),.s (.p 0 4),.x (fv y),.c (fv c1),.x (pv x c1),.u 1] [] [(1,8,ws x++(ws c1))] [ws x++(ws y),ws x++(ws c1)] [2] ⟨st,ld u85 i85,cl bP,se (mD (P:=P)),st,ld u85 i85,cl ((MF C (0:Fin P) y).e d),st,RG.pt i109,yEU⟩ ?_;intro a2 i b;refine Y5 ?_;refine XE (v:=(pv x c1)) (aH b.st 2 131 rfl 1 _ rfl (b.at (s:=(.p 1 0))) iI i109) b.sl.defers ?_;exact⟨_,rfl,b.st.bel.below,rfl⟩
theorem iJ{w W:Xs}{k j e a b c d f g i:Nat}(h:Kept w k [⟨e,0,a,b,c,d⟩,⟨k,0,f,g,i,0⟩,⟨j,0,0,0,0,0⟩] W):W.cell? ⟨e,0,none⟩=some (uZ a)/\W.cell? ⟨e,1,none⟩=some (uZ b)/\W.cell? ⟨e,2,none⟩=some (uZ c)/\W.cell? ⟨e,3,none⟩=some (uZ d)/\W.cell? ⟨k,0,none⟩=some (uZ f)/\W.cell? ⟨k,1,none⟩=some (uZ g)/\W.cell? ⟨k,2,none⟩=some (uZ i)/\W.cell? ⟨k,3,none⟩=some (uZ 0)/\Kept w k [⟨e,0,a,b,c,d⟩,⟨k,0,f,g,i,0⟩,⟨j,0,0,0,0,0⟩] W:=⟨h.head.c0,h.head.c1,h.head.c2,h.head.c3,h.tail.head.c0,h.tail.head.c1,h.tail.head.c2,h.tail.head.c3,h⟩
theorem oV{w W:Xs}{k j e a b c d f g i:Nat}(h:W.cell? ⟨e,0,none⟩=some (uZ a)/\W.cell? ⟨e,1,none⟩=some (uZ b)/\W.cell? ⟨e,2,none⟩=some (uZ c)/\W.cell? ⟨e,3,none⟩=some (uZ d)/\W.cell? ⟨k,0,none⟩=some (uZ f)/\W.cell? ⟨k,1,none⟩=some (uZ g)/\W.cell? ⟨k,2,none⟩=some (uZ i)/\W.cell? ⟨k,3,none⟩=some (uZ 0)/\Kept w k [⟨e,0,a,b,c,d⟩,⟨k,0,f,g,i,0⟩,⟨j,0,0,0,0,0⟩] W):Kept w k [⟨e,0,a,b,c,d⟩,⟨k,0,f,g,i,0⟩,⟨j,0,0,0,0,0⟩] W:=h.2.2.2.2.2.2.2.2
theorem Ct{w W:Xs}{k j e a b c d f g i:Nat}{o:Obj}(h:W.cell? ⟨e,0,none⟩=some (uZ a)/\W.cell? ⟨e,1,none⟩=some (uZ b)/\W.cell? ⟨e,2,none⟩=some (uZ c)/\W.cell? ⟨e,3,none⟩=some (uZ d)/\W.cell? ⟨k,0,none⟩=some (uZ f)/\W.cell? ⟨k,1,none⟩=some (uZ g)/\W.cell? ⟨k,2,none⟩=some (uZ i)/\W.cell? ⟨k,3,none⟩=some (uZ 0)/\Kept w k [⟨e,0,a,b,c,d⟩,⟨k,0,f,g,i,0⟩,⟨j,0,0,0,0,0⟩] W):(W.alloc o).cell? ⟨e,0,none⟩=some (uZ a)/\(W.alloc o).cell? ⟨e,1,none⟩=some (uZ b)/\(W.alloc o).cell? ⟨e,2,none⟩=some (uZ c)/\(W.alloc o).cell? ⟨e,3,none⟩=some (uZ d)/\(W.alloc o).cell? ⟨k,0,none⟩=some (uZ f)/\(W.alloc o).cell? ⟨k,1,none⟩=some (uZ g)/\(W.alloc o).cell? ⟨k,2,none⟩=some (uZ i)/\(W.alloc o).cell? ⟨k,3,none⟩=some (uZ 0)/\Kept w k [⟨e,0,a,b,c,d⟩,⟨k,0,f,g,i,0⟩,⟨j,0,0,0,0,0⟩] (W.alloc o):=iJ ((oV h).alloc o)
theorem Bj{w W:Xs}{k j e a b c d f g i:Nat}{o:Obj}(h:W.drew.cell? ⟨e,0,none⟩=some (uZ a)/\W.drew.cell? ⟨e,1,none⟩=some (uZ b)/\W.drew.cell? ⟨e,2,none⟩=some (uZ c)/\W.drew.cell? ⟨e,3,none⟩=some (uZ d)/\W.drew.cell? ⟨k,0,none⟩=some (uZ f)/\W.drew.cell? ⟨k,1,none⟩=some (uZ g)/\W.drew.cell? ⟨k,2,none⟩=some (uZ i)/\W.drew.cell? ⟨k,3,none⟩=some (uZ 0)/\Kept w k [⟨e,0,a,b,c,d⟩,⟨k,0,f,g,i,0⟩,⟨j,0,0,0,0,0⟩] W.drew):(W.alloc o).drew.cell? ⟨e,0,none⟩=some (uZ a)/\(W.alloc o).drew.cell? ⟨e,1,none⟩=some (uZ b)/\(W.alloc o).drew.cell? ⟨e,2,none⟩=some (uZ c)/\(W.alloc o).drew.cell? ⟨e,3,none⟩=some (uZ d)/\(W.alloc o).drew.cell? ⟨k,0,none⟩=some (uZ f)/\(W.alloc o).drew.cell? ⟨k,1,none⟩=some (uZ g)/\(W.alloc o).drew.cell? ⟨k,2,none⟩=some (uZ i)/\(W.alloc o).drew.cell? ⟨k,3,none⟩=some (uZ 0)/\Kept w k [⟨e,0,a,b,c,d⟩,⟨k,0,f,g,i,0⟩,⟨j,0,0,0,0,0⟩] (W.alloc o).drew:=iJ (((oV h).undrew).alloc o).drew
theorem ME(pv:Xu)(p:Option YW)(n cap:Nat)(w:Xs)(k c d:Nat)(b:pv=.agg #[uZ k,uZ c,uZ d,uZ 0])(f:n≠32):
 XH prog 29 #[pv,.slice p n cap] w (rZ w λe w'=>e=.tuple #[.agg #[uZ 0,uZ 0,uZ 0,uZ 0],.bool false]):=by
 subst b;go_enter func29,ntmps29;go_wp2;refine XE (v:=?v) ?hr rfl ?hR
 case hr=>simp[results,Tryz.results29,go_sem];rfl
 exact⟨_,rfl,below2 _ _ _,rfl⟩
theorem zX(m j l P g o cap:Nat)(p:Bs)(hG:Gap m j l P)(w:Xs)(U:p.size=32)(hc:32<=cap)(S:g<w.heap.size)(X:Holds encB w g o p):
 XH prog 29 #[.agg #[.int .u64 m,.int .u64 j,.int .u64 l,.int .u64 0],.slice (some ⟨g,o,none⟩) 32 cap] w
  (Ret λe w'=>Below w.heap.size w w'/\((beV p.toList<P/\∃v,e=.tuple #[v,.bool true]/\Four v (beV p.toList))\/(P<=beV p.toList/\e=.tuple #[.agg #[.int .u64 0,.int .u64 0,.int .u64 0,.int .u64 0],.bool false]))):=by
 have C:Hid (Gap m j l P):=hG;have N:Hid (Holds encB w g o p):=X;have HS:Hid (p.size=32):=U;clear hG X U;go_enter func29,ntmps29;go_wp2_with fail
 have PR:=(At4.made w 78 m j l 0 rfl).alloc (.cells #[.int .u64 0,.int .u64 0,.int .u64 0,.int .u64 0] 42);have Y:=At4.made (w.alloc (.cells #[.int .u64 m,.int .u64 j,.int .u64 l,.int .u64 0] 78)) 42 0 0 0 0 (XF _ _);have s:=((Kept.mk1 (below2 w (.cells #[.int .u64 m,.int .u64 j,.int .u64 l,.int .u64 0] 78) (.cells #[.int .u64 0,.int .u64 0,.int .u64 0,.int .u64 0] 42)) (below2 w (.cells #[.int .u64 m,.int .u64 j,.int .u64 l,.int .u64 0] 78) (.cells #[.int .u64 0,.int .u64 0,.int .u64 0,.int .u64 0] 42)).size).cons Y.blk).cons PR.blk;have u:=Holds.below N.out (below2 w (.cells #[.int .u64 m,.int .u64 j,.int .u64 l,.int .u64 0] 78) (.cells #[.int .u64 0,.int .u64 0,.int .u64 0,.int .u64 0] 42)) S;clear PR Y;generalize Z0 _ _=W0 at s u⊢;refine(kV (some ⟨g,o,none⟩) g o 32 cap p _ (Xx 32) hc HS.out (X0 ⟨rfl,u⟩)).mono ?_;rintro e L ⟨v,rfl,i,I⟩;obtain⟨a,b,c,d,rfl,ha,hb,K,hd,M⟩:=id I;have H:Hid (Four _ _):=I;have J:=s.call i;clear M I i s u;go_wp2_with fail
 have f:=(J.alloc (.cells #[.int .u64 a,.int .u64 b,.int .u64 c,.int .u64 d] 42)).cons (At4.made L 42 a b c d rfl).blk;have B:L.heap.size≠w.heap.size:=Zg J.head.lt;clear J;generalize Z0 _ _=W1 at f⊢;generalize L.heap.size=y at f B⊢;generalize Q:w.heap.size+1=z at f⊢;have O:Hid (w.heap.size<=z):=by unfold Hid;omega
 generalize V:w.heap.size=q at f O S B⊢;have W:Hid (w.heap.size=q):=V;clear V Q
 go_cut [8] (λs8 wx=>∃k:Nat,s8=.int .u64 k/\k<=1/\Hid (∃t,t<top/\t+top*k=beV p.toList+val m j l 0)/\Kept w q [⟨y,0,a,b,c,d⟩,⟨q,0,m,j,l,0⟩,⟨z,0,0,0,0,0⟩] wx)
 case first =>
  go_region_held3 (λw'=>w'.cell? ⟨y,0,none⟩=some (.int .u64 a)/\w'.cell? ⟨y,1,none⟩=some (.int .u64 b)/\w'.cell? ⟨y,2,none⟩=some (.int .u64 c)/\w'.cell? ⟨y,3,none⟩=some (.int .u64 d)/\w'.cell? ⟨q,0,none⟩=some (.int .u64 m)/\w'.cell? ⟨q,1,none⟩=some (.int .u64 j)/\w'.cell? ⟨q,2,none⟩=some (.int .u64 l)/\w'.cell? ⟨q,3,none⟩=some (.int .u64 0)/\Kept w q [⟨y,0,a,b,c,d⟩,⟨q,0,m,j,l,0⟩,⟨z,0,0,0,0,0⟩] w') (first|(with_reducible exact iJ f)|(with_reducible exact iJ f.drew)|(with_reducible exact Bj (by assumption))|(with_reducible exact Ct (by assumption))|(with_reducible exact iJ (f.alloc _))|(with_reducible exact iJ (f.set4' D (λx hx=>Zg (A x hx)) _ _ _ _))|(with_reducible exact iJ (f.alloc _).drew)|(with_reducible exact iJ (f.set4' D (λx hx=>Zg (A x hx)) _ _ _ _).drew)|fail) (first|(go_at_call 55;refine(jV _ _ H.out _).mono ?_;rintro e w2 ⟨v,rfl,i,rfl⟩;(try(with_reducible have E:=T.call i;clear T;have T:=E;clear E));(try(first|(with_reducible have T:=(At4.made _ 76 0 0 0 0 rfl).call i)|(with_reducible have T:=(At4.made _ 76 0 0 0 0 rfl).drew.call i));have A:=f.lts;have D:=f.le);have n:=Kept.call (oV (by assumption)) i;clear f;have f:=n;clear n i)|(go_at_call 54;refine(rL _ _ _ _ H.out (Four.mk C.h0 C.h1 C.h2 dC rfl) _).mono ?_;rintro e w2 ⟨v,rfl,i,v2,t,k,rfl,r,F,R⟩;obtain⟨a',b',c',d',rfl,h8,hi,K,h3,M⟩:=id r;have HT:Hid (t<top/\t+top*k=beV p.toList+val m j l 0):=⟨r.lt,R⟩;clear M R r;(try(with_reducible have E:=T.call i;clear T;have T:=E;clear E));(try(first|(with_reducible have T:=(At4.made _ 76 0 0 0 0 rfl).call i)|(with_reducible have T:=(At4.made _ 76 0 0 0 0 rfl).drew.call i));have A:=f.lts;have D:=f.le);have n:=Kept.call (oV (by assumption)) i;clear f;have f:=n;clear n i;(try(obtain⟨Z,h9,hj,h6,tf⟩:=id T;have zt:=T.lt))))
  all_goals (try go_wp2)
  all_goals (have G:Hid (∃t,t<top/\t+top*k=beV p.toList+val m j l 0):=⟨t,HT.out⟩)
  all_goals (go_meet;first|(with_reducible exact⟨k,rfl,F,G,f.alloc _⟩)|(with_reducible exact⟨k,rfl,F,G,(f.alloc _).drew⟩)|(with_reducible exact⟨k,rfl,F,G,f.set4' D (λx hx=>Zg (A x hx)) _ _ _ _⟩)|(with_reducible exact⟨k,rfl,F,G,(f.set4' D (λx hx=>Zg (A x hx)) _ _ _ _).drew⟩)|fail)
 case rest =>
  clear f;obtain⟨k,rfl,F,R,f⟩:=hcut;have G:k=0\/k=1:=oM;rcases G with rfl|rfl
  ·obtain⟨h4,Z,h7,h5,xf⟩:=f.head.at4;obtain⟨D,E,A,r,rf⟩:=f.tail.tail.head.at4;have z1:=f.tail.tail.head.lt;go_wp2;have n:=f.tail.tail.head.at4.self4 a b c d;unfold set4 at n;refine XE (v:=?v0) ?hr0 rfl ?hR0
   case hr0=>simp[results,Tryz.results29,go_sem,n.c0,n.c1,n.c2,n.c3];rfl
   refine⟨_,rfl,?_,X9 ⟨?_,_,rfl,H.out⟩⟩
   ·rw[W.out];exact aK f.bl O.out _ _ _ _
   ·obtain⟨t,Q,h2⟩:=R.out;have:=C.hP;omega
  ·obtain⟨D,E,A,r,rf⟩:=f.tail.tail.head.at4;have z1:=f.tail.tail.head.lt;go_wp2;have n:At4 (set4 wc z (.int .u64 0) (.int .u64 0) (.int .u64 0) (.int .u64 0)) z 0 0 0 0:=f.tail.tail.head.at4.self4 0 0 0 0;unfold set4 at n;refine XE (v:=?v1) ?hr1 rfl ?hR1
   case hr1=>simp[results,Tryz.results29,go_sem,n.c0,n.c1,n.c2,n.c3];rfl
   refine⟨_,rfl,?_,X0 ⟨?_,rfl⟩⟩
   ·rw[W.out];exact aK f.bl O.out _ _ _ _
   ·obtain⟨t,Q,h2⟩:=R.out;have:=C.hP;omega
def Arg(w:Xs)(v:Xu)(k:Bs):Prop:=∃(p:Option YW) (n cap:Nat),v=.slice p n cap/\k.size=n/\(n=32->∃g o,p=some ⟨g,o,none⟩/\32<=cap/\g<w.heap.size/\Holds encB w g o k)
theorem Arg.below{w d:Xs}{v:Xu}{b:Bs}(h:Arg w v b)(k:kZ w d):Arg d v b:=by
 obtain⟨p,n,cap,rfl,j,l⟩:=h;refine⟨p,n,cap,rfl,j,λm=>?_⟩;obtain⟨g,o,f,i,c,e⟩:=l m;exact⟨g,o,f,i,Xz c k.size,Holds.below e k c⟩
def Args(w:Xs)(q:Option YW)(n:Nat)(L:Nat->Bs):Prop:=0<n->∃k,q=some (aZ k)/\k<w.heap.size/\∀j,j<n->∃v,w.cell? ⟨k,j,none⟩=some v/\Arg w v (L j)
end
section
theorem u131:(prog.underlying 50).map (·.isRow)=some true:=kR
theorem i131:(prog.info? 50).map (·.size)=some 33:=kR
theorem u5:(prog.underlying 5).map (·.isRow)=some false:=kR
theorem QB:prog.underlying 50=some (.array 33 5):=kR
theorem VR:prog.underlying 5=some (.int .u8):=kR
theorem cells5:prog.cellsOf 5=1:=kR
theorem TU(g o cap:Nat)(k:33<=cap)(w:Xs):(Instr.sliceAt 23 (.slice (some ⟨g,o,none⟩) 33 cap) (some (iZ 1)) none none).run prog w=.ok (.slice (some ⟨g,o+1,none⟩) 32 (cap-1)) w:=by
 go_simp;omega
theorem Qk(g o cap:Nat)(w:Xs):(Instr.arrayAt 50 (.slice (some ⟨g,o,none⟩) 33 cap)).run prog w=.ok (oZ g o) w:=kR
theorem Fg(g o n cap:Nat)(k:0<n)(w:Xs):(Yi 23 (.slice (some ⟨g,o,none⟩) n cap) (iZ 0)).run prog w=.ok (oZ g o) w:=by
 go_simp
theorem PG(xs:Array Xu)(i:Nat)(v:Xu)(h:xs[i]? = some v)(w:Xs):(part 5 xs i).run prog w=.ok v w:=by
 go_simp
theorem eqI(xs ys:Array Xu)(a b:Nat->Int)(D:Nat)(w:Xs):∀(k:List Nat),(∀i∈k,xs[i]? = some (.int .u8 (a i)))->(∀i∈k,ys[i]? = some (.int .u8 (b i))) ->
 (yDL (D+1) 5 1 xs ys k).run prog w=.ok (decide (∀i∈k,a i=b i)) w
 | [],_,_=>by
  rw[yDL];simp
 | i :: k,hx,hy=>by
  have d:=eqI xs ys a b D w k (λj c=>hx j (Ym _ c)) (λj c=>hy j (Ym _ c));have p1:=PG xs (i*1) _ (by rw[Z5];exact hx i YC) w;have p2:=PG ys (i*1) _ (by rw[Z5];exact hy i YC) w;have f:=run_equalIn_int (P:=prog) w D 5 .u8 .u8 (a i) (b i) VR;rw[yDL];simp only[Sem.run_bind,p1,p2,f,Yu];by_cases h:a i=b i
  ·simp only[h,beq_self_eq_true,Bool.not_true,Bool.false_eq_true,if_false,d,yC6,true_and]
  ·have e:(a i == b i)=false:=by simpa using h
   simp only[e,Bool.not_false,if_true,Sem.run_pure,yC6,h,false_and,decide_false]
def aA(k:Bs):List Xu:=k.toList.map encB
def z33:List Xu:=YE 33 (.int .u8 0)
theorem sN(k:Bs)(i:Nat)(h:i<k.size):(aA k)[i]? = some (.int .u8 (ub k[i]!)):=by
 unfold aA;rw[Ys,Yz,X4 h,getElem!_pos k i h];rfl
theorem eqz(c:Bs)(h:c.size=33)(w:Xs):(binOp .eql 50 (.agg (aA c).toArray) (.agg z33.toArray)).run prog w=.ok (.bool (decide (∀i∈Yt 33,ub c[i]! = 0))) w:=by
 have b:(prog.info? 5).isSome=true:=kR;obtain⟨d,k⟩:=YB.1 b;rw[run_eql_struct,run_equalIn_array w 9999 _ _ QB k,cells5,
  eqI _ _ (λi=>ub c[i]!) (λ_=>0) 9998 w (Yt 33) (λi b=>by
   rw[Ye];exact sN c i (by rw[h];exact YZ.1 b)) (λi b=>by
   rw[Ye];unfold z33;rw[List.getElem?_replicate,yES (YZ.1 b)])]
 rfl
@[reducible] def uL (bs:Bs):Prop:=∀i∈Yt 33,ub bs[i]! = 0
theorem UX{k:Bs}(h:k.size=33)(b:uL k)(w:Xs):(binOp .eql 50 (.agg (aA k).toArray) (.agg z33.toArray)).run prog w=.ok (.bool true) w:=by rw[eqz k h,decide_eq_true (show ∀i∈Yt 33,ub k[i]! = 0 from b)]
theorem UY{k:Bs}(h:k.size=33)(b:¬uL k)(w:Xs):(binOp .eql 50 (.agg (aA k).toArray) (.agg z33.toArray)).run prog w=.ok (.bool false) w:=by rw[eqz k h,decide_eq_false (show ¬ ∀i∈Yt 33,ub k[i]! = 0 from b)]
theorem aB{k:Bs}(h:k.size=33):(aA k).length=33:=by unfold aA;rw[XV,XP,h]
theorem E8{k:Bs}{w:Xs}{g o:Nat}(c:Holds encB w g o k):w.rangeAt g o (aA k):=λj v hv=>by
 have b:j<k.size:=by
  have:=(XG.1 hv).1;unfold aA at this;rwa[XV,XP]at this
 rw[sN k j b]at hv;rw[(c j b).1];exact hv
def vQ(k:Bs):Bs:=k.extract 1 33
theorem oP{k:Bs}(h:k.size=33):(vQ k).size=32:=by unfold vQ;rw[Z4,h];rfl
theorem tl33_holds{k:Bs}{w:Xs}{g o:Nat}(h:k.size=33)(c:Holds encB w g o k):Holds encB w g (o+1) (vQ k):=
 Holds.part c (by rw[oP h,h];decide) (λj b=>by
  rw[oP h]at b;unfold vQ;rw[getElem!_pos _ j (by rw[Z4,h];omega),getElem!_pos _ (1+j) (by rw[h];omega),Array.getElem_extract])
variable {P:Nat}[NeZero P]
theorem MC(C:Fld P){g o cap:Nat}{k:Bs}(l:k.size=32)(f:32<=cap){x:Fin P}(hx:beV k.toList=x.val){w:Xs}(c:g<w.heap.size)(i:Holds encB w g o k):
 XH prog 29 #[gv0,.slice (some ⟨g,o,none⟩) 32 cap] w (rZ w λe w'=>e=.tuple #[fv x,.bool true]):=
 (zX 4294968273 0 0 P g o cap k C.gap w l f c i).mono (by
  rintro e w' ⟨v,rfl,j,⟨d,m,rfl,b⟩|⟨d,rfl⟩⟩
  ·refine⟨_,rfl,j,?_⟩;rw[hx]at b;rw[b.nv]
  ·have:=x.isLt;omega)
theorem MD(C:Fld P){g o cap:Nat}{k:Bs}(j:k.size=32)(d:32<=cap)(hx:¬beV k.toList<P){w:Xs}(c:g<w.heap.size)(f:Holds encB w g o k):
 XH prog 29 #[gv0,.slice (some ⟨g,o,none⟩) 32 cap] w (rZ w λe w'=>e=.tuple #[fv (0:Fin P),.bool false]):=
 (zX 4294968273 0 0 P g o cap k C.gap w j d c f).mono (by
  rintro e w' ⟨v,rfl,i,⟨b,m,rfl,l⟩|⟨b,rfl⟩⟩
  ·exact absurd b hx
  ·refine⟨_,rfl,i,?_⟩;rw[<-mD])
def rdx(P:Nat)[NeZero P](k:Bs):Fin P:=ZS P (beV (vQ k).toList)
def rd(P:Nat)[NeZero P](k:Bs):Option (Fin P × Fin P):=
 if k.size=33 then
  if uL k then some (0,0) else
  if ub k[0]! = 2\/ub k[0]! = 3 then
   if beV (vQ k).toList<P then
    (rt (rdx P k*rdx P k*rdx P k+7)).map (λy=>(rdx P k,if ub k[0]! = 3 then 0-y else y))
   else none
  else none
 else none
def rdV:Option (Fin P × Fin P)->Xu
 | none=>.tuple #[pv (0:Fin P) 0,.bool false]
 | some p=>.tuple #[pv p.1 p.2,.bool true]
end
section
variable {P:Nat}[NeZero P]{N:Nat}
theorem Q9(C:Fld P)(q:Option YW)(n cap:Nat)(x:Fin P)(w:Xs)(o:¬n=33):XH prog 156 #[(.slice q n cap)] w (rZ w λe w'=>e=(.tuple #[pv (0:Fin P) 0,.bool false])):=by
 have d:∀w,(binOp .neq 3 (iZ n) (iZ 33)).run prog w=.ok (.bool true) w:=λw=>by
  have h:¬(n:Int)=33:=oM;go_simp
 go_enter func156,ntmps156;refine Jf (v0:=(.slice q n cap)) (n:=54) kR kR kR ?_;intro a0 c j;have b:=RG.St.begin w;have g:RG.M w w.heap.size [] 54 [] [] [(0,.v (.slice q n cap))] a0 _:=⟨b,c,⟨j,yEU⟩⟩
 repeat refine Xy ?_
 refine g.T [.m 0,.x (.bool false)] [(0,RG.z 8)] [] [RG.z 8] [0,2,3] ⟨mk 0 131,st,yEU⟩ ?_;intro p l u i;repeat refine Xy ?_
 refine i.U [.x (.slice q n cap),.x (iZ n),.x (.bool true)] [2,3,9] ⟨st,gJ rfl 7 (.v (.slice q n cap)) (iZ n) rfl sx (λa w=>kR) (λμ w=>kR),aN rfl .neq 3 3 8 (iZ n) (iZ 33) (.bool true) rfl rfl sx (λw=>kR) d,yEU⟩ ?_;intro a2 m f;repeat refine Xy ?_
 refine Yx f.ev ?_;repeat refine Xy ?_
 refine f.T [.x (pv (0:Fin P) (0:Fin P)),.u 0,.x (.bool false)] [] [(0,1,ws (0:Fin P)++(ws (0:Fin P)))] [ws (0:Fin P)++(ws (0:Fin P))] [2,3] ⟨se (iE (P:=P)),RG.pt i109,st,yEU⟩ ?_;intro t r k;refine Y5 ?_;refine XE (v:=(.tuple #[pv (0:Fin P) (0:Fin P),.bool false])) (cV k.st 2 3 131 rfl 0 _ rfl (k.at (s:=(.p 0 0))) _ (k.at (s:=(.v (.bool false)))) iI i109) k.sl.defers ?_;exact⟨_,rfl,k.st.bel.below,rfl⟩
abbrev v33(g o cap:Nat):Xu:=.slice (some ⟨g,o,none⟩) 33 cap
theorem Wp(C:Fld P)(g o cap:Nat)(k:Bs)(w:Xs)(p:k.size=33)(Q:33<=cap)(c:g<w.heap.size)(H:Holds encB w g o k):XH prog 156 #[v33 g o cap] w (rZ w λe w'=>e=rdV (rd P k)):=by
 have G:=E8 H;have b:w.cell? ⟨g,o,none⟩=some (.int .u8 (ub k[0]!)):=by
  have:=(H 0 (by rw[p];decide)).1;rw[yAi]at this;exact this
 go_enter func156,ntmps156;refine Jf (v0:=(v33 g o cap)) (n:=54) kR kR kR ?_;intro a0 N f0;have L:=RG.St.begin w;have M0:RG.M w w.heap.size [] 54 [] [] [(0,.v (v33 g o cap))] a0 _:=⟨L,N,⟨f0,yEU⟩⟩
 repeat refine Xy ?_
 refine M0.T [.m 0,.x (.bool false)] [(0,RG.z 8)] [] [RG.z 8] [0,2,3] ⟨mk 0 131,st,yEU⟩ ?_;intro j1 a1 w1 M1;repeat refine Xy ?_
 refine M1.U [.x (v33 g o cap),.x (iZ 33),.x (.bool false)] [0,2,3,9] ⟨st,gJ rfl 7 (.v (v33 g o cap)) (iZ 33) rfl sx (λa w=>kR) (λμ w=>kR),st,yEU⟩ ?_;intro a2 w2 K;repeat refine Xy ?_
 refine X7 K.ev ?_;refine YR ?_;repeat refine Xy ?_
 unfold rd;rw[yES p];by_cases I:uL k
 ·rw[yES I];refine K.U [.x (v33 g o cap),.x (oZ g o),.x (.agg (aA k).toArray),.x (.agg z33.toArray),.x (.bool true)] [2,3,15] ⟨st,Dh rfl 50 11 (v33 g o cap) (oZ g o) rfl rfl sx (Qk g o cap),eK rfl g o c X5 50 12 rfl (aA k) rfl sx G u131 (by rw[aB p];exact i131),st,aO rfl .eql 50 50 13 14 (.agg (aA k).toArray) (.agg z33.toArray) (.bool true) rfl rfl sx sx (λw=>kR) (UX p I),yEU⟩ ?_;intro a3 w3 z;repeat refine Xy ?_
  refine Yx z.ev ?_;repeat refine Xy ?_
  refine z.T [.x (pv (0:Fin P) (0:Fin P)),.u 0,.x (.bool true)] [] [(0,1,ws (0:Fin P)++(ws (0:Fin P)))] [ws (0:Fin P)++(ws (0:Fin P))] [2,3] ⟨se (iE (P:=P)),RG.pt i109,st,yEU⟩ ?_;intro W w4 f;refine Y5 ?_;refine XE (v:=(.tuple #[pv (0:Fin P) (0:Fin P),.bool true])) (cV f.st 2 3 131 rfl 0 _ rfl (f.at (s:=(.p 0 0))) _ (f.at (s:=(.v (.bool true)))) iI i109) f.sl.defers ?_;exact⟨_,rfl,f.st.bel.below,rfl⟩
 rw[yET I];refine K.U [.x (v33 g o cap),.x (oZ g o),.x (.agg (aA k).toArray),.x (.agg z33.toArray),.x (.bool false)] [0,2,3,15] ⟨st,Dh rfl 50 11 (v33 g o cap) (oZ g o) rfl rfl sx (Qk g o cap),eK rfl g o c X5 50 12 rfl (aA k) rfl sx G u131 (by rw[aB p];exact i131),st,aO rfl .eql 50 50 13 14 (.agg (aA k).toArray) (.agg z33.toArray) (.bool false) rfl rfl sx sx (λw=>kR) (UY p I),yEU⟩ ?_;intro a3 w3 z;repeat refine Xy ?_
 refine X7 z.ev ?_;refine YR ?_;repeat refine Xy ?_
 by_cases j:ub k[0]! = 2\/ub k[0]! = 3
 rotate_left
 ·rw[yET j];generalize ub k[0]! = m at b j;have X:¬m=2:=λh=>j (.inl h)
  have J:¬m=3:=λh=>j (.inr h)
  have i:∀w,(binOp .neq 5 (.int .u8 m) (.int .u8 2)).run prog w=.ok (.bool true) w:=λw=>by
   go_simp
  have d:∀w,(binOp .neq 5 (.int .u8 m) (.int .u8 3)).run prog w=.ok (.bool true) w:=λw=>by
   go_simp
  refine z.U [.x (v33 g o cap),.x (oZ g o),.x (.int .u8 m),.x (.bool true),.x (.bool true),.x (v33 g o cap),.x (oZ g o),.x (.int .u8 m),.x (.bool true),.x (.bool true)] [2,3,26] ⟨st,eW rfl 23 17 (iZ 0) rfl (.v (v33 g o cap)) sx (λμ w=>Fg g o 33 cap dC w),bO rfl g o c X5 5 18 rfl (.int .u8 m) rfl sx b u5,aN rfl .neq 5 5 19 (.int .u8 m) (.int .u8 2) (.bool true) rfl rfl sx (λw=>kR) i,st,st,eW rfl 23 22 (iZ 0) rfl (.v (v33 g o cap)) sx (λμ w=>Fg g o 33 cap dC w),bO rfl g o c X5 5 23 rfl (.int .u8 m) rfl sx b u5,aN rfl .neq 5 5 24 (.int .u8 m) (.int .u8 3) (.bool true) rfl rfl sx (λw=>kR) d,st,yEU⟩ ?_;intro W w4 f;repeat refine Xy ?_
  refine Yx f.ev ?_;repeat refine Xy ?_
  refine f.T [.x (pv (0:Fin P) (0:Fin P)),.u 0,.x (.bool false)] [] [(0,1,ws (0:Fin P)++(ws (0:Fin P)))] [ws (0:Fin P)++(ws (0:Fin P))] [2,3] ⟨se (iE (P:=P)),RG.pt i109,st,yEU⟩ ?_;intro V S r;refine Y5 ?_;refine XE (v:=(.tuple #[pv (0:Fin P) (0:Fin P),.bool false])) (cV r.st 2 3 131 rfl 0 _ rfl (r.at (s:=(.p 0 0))) _ (r.at (s:=(.v (.bool false)))) iI i109) r.sl.defers ?_;exact⟨_,rfl,r.st.bel.below,rfl⟩
 rw[yES j];rcases j with j|j
 case' inl=>refine z.u [.x 17 [] (v33 g o cap),.x 18 [(17,0)] (oZ g o),.x 19 [(18,1)] (.int .u8 2),.x 20 [(19,2)] (.bool false),.x 21 [(20,3)] (.bool false),⟨some 22,[],.v Zp,.pass⟩,⟨some 23,[],.v Zp,.pass⟩,⟨some 24,[],.v Zp,.pass⟩,⟨some 25,[],.v Zp,.pass⟩,.x 26 [(21,4),(25,8)] (.bool false)] [(0,.v (v33 g o cap)),(2,.p 0 0),(3,.v (.bool false)),(26,.v (.bool false))] ⟨st,eW rfl 23 17 (iZ 0) rfl (.v (v33 g o cap)) sx (λμ w=>Fg g o 33 cap dC w),bO rfl g o c X5 5 18 rfl (.int .u8 2) rfl sx (b.trans (by rw[j])) u5,st,st,dB rfl rfl,dB rfl rfl,dB rfl rfl,dB rfl rfl,st,yEU⟩ ?_
 case' inr=>refine z.U [.x (v33 g o cap),.x (oZ g o),.x (.int .u8 3),.x (.bool true),.x (.bool true),.x (v33 g o cap),.x (oZ g o),.x (.int .u8 3),.x (.bool false),.x (.bool false)] [0,2,3,26] ⟨st,eW rfl 23 17 (iZ 0) rfl (.v (v33 g o cap)) sx (λμ w=>Fg g o 33 cap dC w),bO rfl g o c X5 5 18 rfl (.int .u8 3) rfl sx (b.trans (by rw[j])) u5,st,st,st,eW rfl 23 22 (iZ 0) rfl (.v (v33 g o cap)) sx (λμ w=>Fg g o 33 cap dC w),bO rfl g o c X5 5 23 rfl (.int .u8 3) rfl sx (b.trans (by rw[j])) u5,st,st,yEU⟩ ?_
 all_goals
  intro W w4 f;repeat refine Xy ?_
  refine X7 f.ev ?_;refine YR ?_;repeat refine Xy ?_
  by_cases hx:beV (vQ k).toList<P
  rotate_left
  ·rw[yET hx];have A:∀w',BelX w.heap.size [] w w'->XH prog 29 #[gv0,.slice (some ⟨g,o+1,none⟩) 32 (cap-1)] w' (Ret λe B=>kZ w' B/\e=.tuple #[fv (0:Fin P),.bool false]):=λw' E=>MD C (oP p) oM hx (Xz c E.size) (Holds.below (tl33_holds p H) E.below c)
   refine f.D [.c gv0,.x (v33 g o cap),.x (.slice (some ⟨g,o+1,none⟩) 32 (cap-1)),.c (.tuple #[fv (0:Fin P),.bool false]),.x (.tuple #[fv (0:Fin P),.bool false]),.x (fv (0:Fin P)),.x (.bool false),.m 1,.u 1,.x (.bool false)] [(7,RG.z 4)] [(1,8,ws (0:Fin P))] [RG.z 8,ws (0:Fin P)] [2,3,5] ⟨cl bP,st,vF rfl 23 30 (iZ 1) (v33 g o cap) (.slice (some ⟨g,o+1,none⟩) 32 (cap-1)) rfl rfl sx (TU g o cap Q),kP rfl 29 29 31 gv0 (.slice (some ⟨g,o+1,none⟩) 32 (cap-1)) (.tuple #[fv (0:Fin P),.bool false]) rfl (λa w=>kR) sx sx A,st,st,st,mk 1 42,RG.pt i85,st,yEU⟩ ?_;intro j5 V S r;repeat refine Xy ?_
   refine r.U [.x (.bool false),.x (.bool true)] [2,3,36] ⟨st,st,yEU⟩ ?_;intro a6 w6 D;repeat refine Xy ?_
   refine Yx D.ev ?_;repeat refine Xy ?_
   refine D.T [.x (pv (0:Fin P) (0:Fin P)),.u 0,.x (.bool false)] [] [(0,1,ws (0:Fin P)++(ws (0:Fin P)))] [ws (0:Fin P)++(ws (0:Fin P)),ws (0:Fin P)] [2,3] ⟨se (iE (P:=P)),RG.pt i109,st,yEU⟩ ?_;intro Z Y l;refine Y5 ?_;refine XE (v:=(.tuple #[pv (0:Fin P) (0:Fin P),.bool false])) (cV l.st 2 3 131 rfl 0 _ rfl (l.at (s:=(.p 0 0))) _ (l.at (s:=(.v (.bool false)))) iI i109) l.sl.defers ?_;exact⟨_,rfl,l.st.bel.below,rfl⟩
  rw[yES hx];have F:beV (vQ k).toList=(rdx P k).val:=(XX hx).symm;generalize rdx P k=x at F;have A:∀w',BelX w.heap.size [] w w'->XH prog 29 #[gv0,.slice (some ⟨g,o+1,none⟩) 32 (cap-1)] w' (Ret λe B=>kZ w' B/\e=.tuple #[fv x,.bool true]):=λw' E=>MC C (oP p) oM F (Xz c E.size) (Holds.below (tl33_holds p H) E.below c)
  refine f.D [.c gv0,.x (v33 g o cap),.x (.slice (some ⟨g,o+1,none⟩) 32 (cap-1)),.c (.tuple #[fv x,.bool true]),.x (.tuple #[fv x,.bool true]),.x (fv x),.x (.bool true),.m 1,.u 1,.x (.bool true)] [(7,RG.z 4)] [(1,8,ws x)] [RG.z 8,ws x] [0,2,3,4,5] ⟨cl bP,st,vF rfl 23 30 (iZ 1) (v33 g o cap) (.slice (some ⟨g,o+1,none⟩) 32 (cap-1)) rfl rfl sx (TU g o cap Q),kP rfl 29 29 31 gv0 (.slice (some ⟨g,o+1,none⟩) 32 (cap-1)) (.tuple #[fv x,.bool true]) rfl (λa w=>kR) sx sx A,st,st,st,mk 1 42,RG.pt i85,st,yEU⟩ ?_;intro j5 V S r;repeat refine Xy ?_
  refine r.U [.x (.bool true),.x (.bool false)] [0,2,3,4,5,36] ⟨st,st,yEU⟩ ?_;intro a6 w6 D;repeat refine Xy ?_
  refine X7 D.ev ?_;refine YR ?_;repeat refine Xy ?_
  cases U:rt (x*x*x+7) with
  | none =>
   refine D.T [.x (fv x),.c (.tuple #[pv (0:Fin P) (0:Fin P),.bool false]),.x (.tuple #[pv (0:Fin P) (0:Fin P),.bool false]),.x (pv (0:Fin P) (0:Fin P)),.x (.bool false),.m 2,.u 2,.x (.bool false)] [(5,RG.z 8)] [(2,6,ws (0:Fin P)++(ws (0:Fin P)))] [RG.z 8,ws x,ws (0:Fin P)++(ws (0:Fin P))] [2,3,5,6] ⟨ld u85 i85,zK rfl 119 39 (fv x) (.tuple #[pv (0:Fin P) (0:Fin P),.bool false]) rfl (λa w=>kR) sx (AY C x U),st,st,st,mk 2 131,RG.pt i109,st,yEU⟩ ?_;intro j7 Z Y l;repeat refine Xy ?_
   refine l.u [.x 43 [] (.bool false),.x 44 [(43,0)] (.bool false),⟨some 45,[],.v Zp,.pass⟩,⟨some 46,[],.v Zp,.pass⟩,⟨some 47,[],.v Zp,.pass⟩,⟨some 48,[],.v Zp,.pass⟩,.x 49 [(44,1),(48,5)] (.bool false)] [(2,.p 0 0),(3,.v (.bool false)),(5,.v (.bool false)),(6,.p 2 0),(49,.v (.bool false))] ⟨st,st,dB rfl rfl,dB rfl rfl,dB rfl rfl,dB rfl rfl,st,yEU⟩ ?_;intro R w8 u;repeat refine Xy ?_
   refine X7 u.ev ?_;refine YR ?_;repeat refine Xy ?_
   refine u.T [.x (pv (0:Fin P) (0:Fin P)),.x (.bool false),.u 0,.x (.bool false)] [] [(0,2,ws (0:Fin P)++(ws (0:Fin P)))] [ws (0:Fin P)++(ws (0:Fin P)),ws x,ws (0:Fin P)++(ws (0:Fin P))] [2,3] ⟨ld iI i109,st,RG.pt i109,st,yEU⟩ ?_;intro T O d;refine Y5 ?_;refine XE (v:=(.tuple #[pv (0:Fin P) (0:Fin P),.bool false])) (cV d.st 2 3 131 rfl 0 _ rfl (d.at (s:=(.p 0 0))) _ (d.at (s:=(.v (.bool false)))) iI i109) d.sl.defers ?_;exact⟨_,rfl,d.st.bel.below,rfl⟩
  | some y =>
   refine D.T [.x (fv x),.c (.tuple #[pv x y,.bool true]),.x (.tuple #[pv x y,.bool true]),.x (pv x y),.x (.bool true),.m 2,.u 2,.x (.bool true)] [(5,RG.z 8)] [(2,6,ws x++(ws y))] [RG.z 8,ws x,ws x++(ws y)] [0,2,3,5,6] ⟨ld u85 i85,zK rfl 119 39 (fv x) (.tuple #[pv x y,.bool true]) rfl (λa w=>kR) sx (AX C x y U),st,st,st,mk 2 131,RG.pt i109,st,yEU⟩ ?_;intro j7 Z Y l;repeat refine Xy ?_
   rw[yA5];by_cases J:ub k[0]! = 3
   ·rw[yES J];generalize M:0-y=q;have t:Gives 196 #[pv x y] (pv x q):=M ▸ Rn C x y;refine l.U [.x (.bool true),.x (.bool true),.x (v33 g o cap),.x (oZ g o),.x (.int .u8 3),.x (.bool true),.x (.bool true)] [2,3,5,6,49] ⟨st,st,st,eW rfl 23 45 (iZ 0) rfl (.v (v33 g o cap)) sx (λμ w=>Fg g o 33 cap dC w),bO rfl g o c X5 5 46 rfl (.int .u8 3) rfl sx (b.trans (by rw[J])) u5,st,st,yEU⟩ ?_;intro R w8 u;repeat refine Xy ?_
    refine Yx u.ev ?_;repeat refine Xy ?_
    refine u.T [.x (pv x y),.c (pv x q),.u 2] [] [(2,2,ws x++(ws q))] [RG.z 8,ws x,ws x++(ws q)] [2,3,5,6] ⟨ld iI i109,cl t,RG.pt i109,yEU⟩ ?_;intro T O d;repeat refine Xy ?_
    refine d.T [.x (pv x q),.x (.bool true),.u 0,.x (.bool true)] [] [(0,2,ws x++(ws q))] [ws x++(ws q),ws x,ws x++(ws q)] [2,3] ⟨ld iI i109,st,RG.pt i109,st,yEU⟩ ?_;intro h1 h0 i;refine Y5 ?_;refine XE (v:=(.tuple #[pv x q,.bool true])) (cV i.st 2 3 131 rfl 0 _ rfl (i.at (s:=(.p 0 0))) _ (i.at (s:=(.v (.bool true)))) iI i109) i.sl.defers ?_;exact⟨_,rfl,i.st.bel.below,rfl⟩
   ·rw[yET J];have X:ub k[0]! = 2:=oM;refine l.U [.x (.bool true),.x (.bool true),.x (v33 g o cap),.x (oZ g o),.x (.int .u8 2),.x (.bool false),.x (.bool false)] [2,3,5,6,49] ⟨st,st,st,eW rfl 23 45 (iZ 0) rfl (.v (v33 g o cap)) sx (λμ w=>Fg g o 33 cap dC w),bO rfl g o c X5 5 46 rfl (.int .u8 2) rfl sx (b.trans (by rw[X])) u5,st,st,yEU⟩ ?_;intro R w8 u;repeat refine Xy ?_
    refine X7 u.ev ?_;refine YR ?_;repeat refine Xy ?_
    refine u.T [.x (pv x y),.x (.bool true),.u 0,.x (.bool true)] [] [(0,2,ws x++(ws y))] [ws x++(ws y),ws x,ws x++(ws y)] [2,3] ⟨ld iI i109,st,RG.pt i109,st,yEU⟩ ?_;intro T O d;refine Y5 ?_;refine XE (v:=(.tuple #[pv x y,.bool true])) (cV d.st 2 3 131 rfl 0 _ rfl (d.at (s:=(.p 0 0))) _ (d.at (s:=(.v (.bool true)))) iI i109) d.sl.defers ?_;exact⟨_,rfl,d.st.bel.below,rfl⟩
def Arg33(w:Xs)(v:Xu)(k:Bs):Prop:=∃(p:Option YW) (n cap:Nat),v=.slice p n cap/\k.size=n/\(n=33->∃g o,p=some ⟨g,o,none⟩/\33<=cap/\g<w.heap.size/\Holds encB w g o k)
theorem Arg33.below{w d:Xs}{v:Xu}{b:Bs}(h:Arg33 w v b)(k:kZ w d):Arg33 d v b:=by
 obtain⟨p,n,cap,rfl,j,l⟩:=h;refine⟨p,n,cap,rfl,j,λm=>?_⟩;obtain⟨g,o,f,i,c,e⟩:=l m;exact⟨g,o,f,i,Xz c k.size,Holds.below e k c⟩
theorem nT(C:Fld P)(v:Xu)(b:Bs)(w:Xs)(hv:Arg33 w v b):XH prog 156 #[v] w (rZ w λe w'=>e=rdV (rd P b)):=by
 obtain⟨p,n,cap,rfl,c,j⟩:=hv;by_cases k:n=33
 ·subst k;obtain⟨g,o,rfl,f,d,i⟩:=j rfl;exact Wp C g o cap b w c f d i
 ·unfold rd;rw[yET (by rw[c];exact k)];exact Q9 C p n cap 0 w k
def bx(n:Nat):Bs:=be32 (n%18446744073709551616) (n/18446744073709551616%18446744073709551616) (n/340282366920938463463374607431768211456%18446744073709551616) (n/6277101735386680763835789423207666416102355444464034512896%18446744073709551616)
theorem cU(n:Nat):(bx n).size=32:=by unfold bx;exact AU _ _ _ _
def mark(n:Nat):UInt8:=if n%2=1 then 3 else 2
def uH(x y:Fin P):Bs:=if x=0/\y=0 then XL 33 0 else #[mark y.val]++bx x.val
theorem Ht(C:Fld P)(x:Fin P)(w:Xs):XH prog 27 #[fv x] w (rZ w λe w'=>∃g,e=sZ g 32 32/\w.heap.size<=g/\Holds encB w' g 0 (bx x.val)):=
 (A0 _ _ w (C.four x)).mono (by
  rintro e w' ⟨v,rfl,l,g,a,b,c,d,rfl,j,k,f⟩;refine⟨_,rfl,l,g,rfl,j,?_⟩;have i:fv x=.agg #[uZ ((x.val%18446744073709551616:Nat):Int),uZ ((x.val/18446744073709551616%18446744073709551616:Nat):Int),uZ ((x.val/340282366920938463463374607431768211456%18446744073709551616:Nat):Int),uZ ((x.val/6277101735386680763835789423207666416102355444464034512896%18446744073709551616:Nat):Int)]:=rfl;rw[i]at k;simp only[Value.agg.injEq,Array.mk.injEq,yEI.injEq,YQ.injEq,true_and,and_true,Int.ofNat_inj]at k;obtain⟨rfl,rfl,rfl,rfl⟩:=k;exact f)
theorem Qp(C:Fld P)(y:Fin P):Gives 120 #[fv y] (.bool (decide (y.val%2=1))):=λw =>
 (Ho _ _ (C.four y) w).mono (by rintro e w' ⟨v,rfl,k,rfl⟩;exact⟨_,rfl,k,rfl⟩)
theorem EF:(prog.info? 5).map (λi=>(i.zero,i.size,i.bytes))=some (some (.int .u8 0),1,1):=kR
theorem Jh:prog.underlying 23=some (.slice 5):=kR
def nF(w:Xs)(T:Bs)(e:Xu)(w':Xs):Prop:=∃g cap,e=sZ g 33 cap/\33<=cap/\w.heap.size<=g/\g<w'.heap.size/\Holds encB w' g 0 T
theorem WE(w:Xs):(yAb 23 (iZ 33) (iZ 33)).run prog w=.ok (sZ w.heap.size 33 33) (w.alloc (.cells (madeCells #[.int .u8 0] 33) 5)):=
 run_make_row' (P:=prog) 23 5 (.int .u8 0) 1 Jh EF rfl .i64 .i64 33 dC dC w
theorem RU(w:Xs)(o:Obj):Holds encB ((w.alloc o).alloc (.cells (madeCells #[.int .u8 0] 33) 5)) (w.heap.size+1) 0 (XL 33 0):=by
 have h:=Holds.made (enc:=encB) (w.alloc o) 5 33 (0:UInt8);rw[XF]at h;exact h
omit [NeZero P] in
theorem lI(x y:Fin P):pv x y=.agg #[uZ ((x.val%18446744073709551616:Nat):Int),uZ ((x.val/18446744073709551616%18446744073709551616:Nat):Int),uZ ((x.val/340282366920938463463374607431768211456%18446744073709551616:Nat):Int),uZ ((x.val/6277101735386680763835789423207666416102355444464034512896%18446744073709551616:Nat):Int),uZ ((y.val%18446744073709551616:Nat):Int),uZ ((y.val/18446744073709551616%18446744073709551616:Nat):Int),uZ ((y.val/340282366920938463463374607431768211456%18446744073709551616:Nat):Int),uZ ((y.val/6277101735386680763835789423207666416102355444464034512896%18446744073709551616:Nat):Int)]:=rfl
theorem EX(C:Fld P)(x y:Fin P)(g:x=0/\y=0)(w:Xs):XH prog 70 #[pv x y] w (rZ w λe w'=>nF w (XL 33 0) e w'):=by
 have k:=LD C (x:=x) (y:=y) (z:=0) (t:=0) g;rw[<-iE,lI]at k;rw[lI];generalize ((x.val%18446744073709551616:Nat):Int)=a at k⊢;generalize ((x.val/18446744073709551616%18446744073709551616:Nat):Int)=b at k⊢;generalize ((x.val/340282366920938463463374607431768211456%18446744073709551616:Nat):Int)=c at k⊢;generalize ((x.val/6277101735386680763835789423207666416102355444464034512896%18446744073709551616:Nat):Int)=d at k⊢;generalize ((y.val%18446744073709551616:Nat):Int)=p at k⊢;generalize ((y.val/18446744073709551616%18446744073709551616:Nat):Int)=q at k⊢;generalize ((y.val/340282366920938463463374607431768211456%18446744073709551616:Nat):Int)=r at k⊢;generalize ((y.val/6277101735386680763835789423207666416102355444464034512896%18446744073709551616:Nat):Int)=s at k⊢;have i:=WE;generalize j:(XL 33 0:Bs)=T;go_enter func70,ntmps70;go_wp2;go_ret;have f:=RU w (.cells #[uZ a,uZ b,uZ c,uZ d,uZ p,uZ q,uZ r,uZ s] 131);rw[j]at f;exact⟨_,rfl,below2 _ _ _,_,33,rfl,oM,oM,by simp,f⟩
theorem Ll(w:Xs)(k g m:Nat)(B:Bs)(f:B.size=32)(o:w.cell? ⟨k,0,none⟩=some (.int .u8 m))(n:Holds encB w g 0 B)(s:m<256:=by decide):
 ∃(w':Xs) (cap:Nat),(YA #[23,23] 23 #[sZ k 1 1,sZ g 32 32]).run prog w=.ok (sZ w.heap.size 33 cap) w'/\kZ w w'/\33<=cap/\w.heap.size<w'.heap.size/\Holds encB w' w.heap.size 0 (#[XN m]++B):=by
 obtain⟨i,q,d⟩:=XA.1 EF;simp only[Ze.injEq]at d;obtain⟨r,l,p⟩:=d;have e:=run_append_grow (P:=prog) w 23 23 5 i (.int .u8 0) Jh q r (aZ k) 1 1 [.int .u8 m] (by rw[l];rfl) (λj v b=>by
  cases j with
  | zero =>
   obtain rfl:YQ .u8 m=v:=by simpa using b
   rw[yC8];exact o
  | succ j=>simp at b) ⟨g,0,none⟩ 32 32 (B.toList.map encB) (by rw[l,XV,XP,f]) (λj v b=>by
  have c:j<B.size:=by
   have:=(XG.1 b).1;rwa[XV,XP]at this
  rw[yC8,(n j c).1];rw[Ys,Yz,X4 c]at b;rw[getElem!_pos B j c];exact b) dC dC (by rw[p];decide)
 refine⟨_,_,e,?_,?_,?_,?_⟩
 ·exact(XM _ w).drew.trans (aC w.drew _)
 ·exact grownCap_ge w (1+32) 1 5
 ·show w.drew.heap.size<(w.drew.alloc _).heap.size;rw[XF];exact yCD _
 ·intro j b;have c:(#[XN m]++B).size=33:=by rw[Yg,f];rfl
  refine⟨?_,Zn w.drew _ _ _⟩;show(w.drew.alloc _).cell? ⟨w.drew.heap.size,0+j,none⟩=_;rw[XD,Yp,getElem!_pos _ j b,yAv (by
   rw[Yg,YD,YD,XV,XP];show j<1+B.size;omega)]
  cases j with
  | zero =>
   rw[yAv (by simp),yBq (by simp)];show some (YQ .u8 m)=some (encB (XN m));unfold encB;rw[nK,XX s]
  | succ i =>
   rw[yBd (by simp),yCB (by simp),Ye,Ys,Yz];show Option.map encB B[i]? = some (encB B[i]);rw[X4 oM];rfl
theorem PQ(w:Xs)(a b c d p q r s:Nat):Kept w w.heap.size [⟨w.heap.size,0,a,b,c,d⟩,⟨w.heap.size,4,p,q,r,s⟩] (w.alloc (.cells #[uZ a,uZ b,uZ c,uZ d,uZ p,uZ q,uZ r,uZ s] 131)):=by
 have F:=At8.made w 131 a b c d p q r s rfl;refine((Kept.mk1 (aC w _) (aC w _).size).cons ?_).cons ?_
 ·exact⟨F.c4,F.c5,F.c6,F.c7,F.fz⟩
 ·exact⟨F.c0,F.c1,F.c2,F.c3,F.fz⟩
theorem IR(C:Fld P)(x y:Fin P)(M:¬(x=0/\y=0))(ho:y.val%2=1)(w:Xs):XH prog 70 #[pv x y] w (rZ w λe w'=>nF w (#[3]++bx x.val) e w'):=by
 have k:=EK C (x:=x) (y:=y) (z:=0) (t:=0) M;rw[<-iE,lI]at k;rw[lI];have i:∀w,XH prog 120 #[.agg #[uZ ((y.val%18446744073709551616:Nat):Int),uZ ((y.val/18446744073709551616%18446744073709551616:Nat):Int),uZ ((y.val/340282366920938463463374607431768211456%18446744073709551616:Nat):Int),uZ ((y.val/6277101735386680763835789423207666416102355444464034512896%18446744073709551616:Nat):Int)]] w (rZ w λe w'=>e=.bool true):=λw=>by
  have h:=Qp C y w;rw[decide_eq_true ho]at h;exact h
 have f:∀w,XH prog 27 #[.agg #[uZ ((x.val%18446744073709551616:Nat):Int),uZ ((x.val/18446744073709551616%18446744073709551616:Nat):Int),uZ ((x.val/340282366920938463463374607431768211456%18446744073709551616:Nat):Int),uZ ((x.val/6277101735386680763835789423207666416102355444464034512896%18446744073709551616:Nat):Int)]] w (rZ w λe w'=>∃g,e=sZ g 32 32/\w.heap.size<=g/\Holds encB w' g 0 (bx x.val)):=Ht C x;have m:=cU x.val;generalize bx x.val=B at f m⊢;generalize x.val%18446744073709551616=a at k i f⊢;generalize x.val/18446744073709551616%18446744073709551616=b at k i f⊢;generalize x.val/340282366920938463463374607431768211456%18446744073709551616=c at k i f⊢;generalize x.val/6277101735386680763835789423207666416102355444464034512896%18446744073709551616=d at k i f⊢;generalize y.val%18446744073709551616=p at k i f⊢;generalize y.val/18446744073709551616%18446744073709551616=q at k i f⊢;generalize y.val/340282366920938463463374607431768211456%18446744073709551616=r at k i f⊢;generalize y.val/6277101735386680763835789423207666416102355444464034512896%18446744073709551616=s at k i f⊢;have W:=mk1 (k);go_enter func70,ntmps70;go_wp2_with fail
 have l:=PQ w a b c d p q r s;generalize J:w.heap.size=U at l⊢;refine(i _).mono ?_;rintro e u ⟨v,rfl,G,rfl⟩;replace l:=l.call G;obtain⟨O,N,Q,S,V⟩:=l.head;have zx:=l.head.lt;go_wp2_with fail
 refine(f _).mono ?_;rintro e I ⟨v,rfl,j,g,rfl,T,K⟩;have L:I.cell? ⟨u.heap.size,0,none⟩=some (.int .u8 3):=by
  rw[j.cell (p:=⟨u.heap.size,0,none⟩) (by show u.heap.size<_;rw[XF];omega),Yp];rfl
 have n:=XB l.le (XB (by rw[XF];omega) j.size);have E:=mk1 (((l.alloc _).call j).bl);obtain⟨X,R,F,D,A,o,H⟩:=Ll I u.heap.size g 3 B m L K;go_wp2_with (at_builtin;refine yAx _ rfl _ _ 23 23 rfl _ _ rfl rfl _ _ F ?_)
 go_ret;refine⟨_,rfl,?_,_,R,rfl,A,?_,o,H⟩
 ·rw[J];exact E.trans (D.mono n)
 ·rw[J];exact n
theorem EY(C:Fld P)(x y:Fin P)(M:¬(x=0/\y=0))(ho:¬y.val%2=1)(w:Xs):XH prog 70 #[pv x y] w (rZ w λe w'=>nF w (#[2]++bx x.val) e w'):=by
 have k:=EK C (x:=x) (y:=y) (z:=0) (t:=0) M;rw[<-iE,lI]at k;rw[lI];have i:∀w,XH prog 120 #[.agg #[uZ ((y.val%18446744073709551616:Nat):Int),uZ ((y.val/18446744073709551616%18446744073709551616:Nat):Int),uZ ((y.val/340282366920938463463374607431768211456%18446744073709551616:Nat):Int),uZ ((y.val/6277101735386680763835789423207666416102355444464034512896%18446744073709551616:Nat):Int)]] w (rZ w λe w'=>e=.bool false):=λw=>by
  have h:=Qp C y w;rw[decide_eq_false ho]at h;exact h
 have f:∀w,XH prog 27 #[.agg #[uZ ((x.val%18446744073709551616:Nat):Int),uZ ((x.val/18446744073709551616%18446744073709551616:Nat):Int),uZ ((x.val/340282366920938463463374607431768211456%18446744073709551616:Nat):Int),uZ ((x.val/6277101735386680763835789423207666416102355444464034512896%18446744073709551616:Nat):Int)]] w (rZ w λe w'=>∃g,e=sZ g 32 32/\w.heap.size<=g/\Holds encB w' g 0 (bx x.val)):=Ht C x;have m:=cU x.val;generalize bx x.val=B at f m⊢;generalize x.val%18446744073709551616=a at k i f⊢;generalize x.val/18446744073709551616%18446744073709551616=b at k i f⊢;generalize x.val/340282366920938463463374607431768211456%18446744073709551616=c at k i f⊢;generalize x.val/6277101735386680763835789423207666416102355444464034512896%18446744073709551616=d at k i f⊢;generalize y.val%18446744073709551616=p at k i f⊢;generalize y.val/18446744073709551616%18446744073709551616=q at k i f⊢;generalize y.val/340282366920938463463374607431768211456%18446744073709551616=r at k i f⊢;generalize y.val/6277101735386680763835789423207666416102355444464034512896%18446744073709551616=s at k i f⊢;have W:=mk1 (k);go_enter func70,ntmps70;go_wp2_with fail
 have l:=PQ w a b c d p q r s;generalize J:w.heap.size=U at l⊢;refine(i _).mono ?_;rintro e u ⟨v,rfl,G,rfl⟩;replace l:=l.call G;obtain⟨O,N,Q,S,V⟩:=l.head;have zx:=l.head.lt;go_wp2_with fail
 refine(f _).mono ?_;rintro e I ⟨v,rfl,j,g,rfl,T,K⟩;have L:I.cell? ⟨u.heap.size,0,none⟩=some (.int .u8 2):=by
  rw[j.cell (p:=⟨u.heap.size,0,none⟩) (by show u.heap.size<_;rw[XF];omega),Yp];rfl
 have n:=XB l.le (XB (by rw[XF];omega) j.size);have E:=mk1 (((l.alloc _).call j).bl);obtain⟨X,R,F,D,A,o,H⟩:=Ll I u.heap.size g 2 B m L K;go_wp2_with (at_builtin;refine yAx _ rfl _ _ 23 23 rfl _ _ rfl rfl _ _ F ?_)
 go_ret;refine⟨_,rfl,?_,_,R,rfl,A,?_,o,H⟩
 ·rw[J];exact E.trans (D.mono n)
 ·rw[J];exact n
theorem wT(C:Fld P)(x y:Fin P)(w:Xs):XH prog 70 #[pv x y] w (rZ w λe w'=>nF w (uH x y) e w'):=by
 unfold uH mark;by_cases k:x=0/\y=0
 ·rw[yES k];exact EX C x y k w
 ·rw[yET k];by_cases ho:y.val%2=1
  ·rw[yES ho];exact IR C x y k ho w
  ·rw[yET ho];exact EY C x y k ho w
theorem u23:(prog.underlying 23).map (·.isRow)=some false:=kR
theorem O7(k o n c i:Nat)(b:i<n)(w:Xs):(Yi 27 (.slice (some ⟨k,o,none⟩) n c) (iZ i)).run prog w=.ok (.pointer (some ⟨k,o+i,none⟩)) w:=by
 go_simp
theorem Uw(N:Nat)(l:N<=512):∃C0:List Xu,C0.length=8*N/\∀w:Xs,(yAb 138 (iZ N) (iZ N)).run prog w=.ok (sZ w.heap.size N N) (w.alloc (.cells C0.toArray 131)):=by
 have d:prog.underlying 138=some (.slice 131):=kR;have e:(prog.info? 131).map (λi=>(i.size,decide (i.bytes<=4000),i.zero.isSome))=some (8,true,true):=kR;obtain⟨i,b,k⟩:=XA.1 e;simp only[Ze.injEq,decide_eq_true_eq]at k;obtain⟨c,f,n⟩:=k;obtain⟨z,g⟩:=YB.1 n;refine⟨(madeCells z.cells (N*8)).toList,by rw[XP,yBk,YF],λw=>?_⟩;have m:(i.bytes:Int)*(N:Int)<=281474976710656:=by
  have:i.bytes*N<=4000*512:=ZB f l;have j:((i.bytes*N:Nat):Int)<=281474976710656:=oM;rwa[Z2]at j
 have:=run_make (P:=prog) w 138 131 i z d b g .i64 .i64 (N:Int) (N:Int) oM oM m oM;rw[yAz,c]at this;rw[yAc];exact this
theorem WC(N:Nat)(l:N<=512):∃C0:List Xu,C0.length=4*N/\∀w:Xs,(yAb 127 (iZ N) (iZ N)).run prog w=.ok (sZ w.heap.size N N) (w.alloc (.cells C0.toArray 42)):=by
 have d:prog.underlying 127=some (.slice 42):=kR;have e:(prog.info? 42).map (λi=>(i.size,decide (i.bytes<=4000),i.zero.isSome))=some (4,true,true):=kR;obtain⟨i,b,k⟩:=XA.1 e;simp only[Ze.injEq,decide_eq_true_eq]at k;obtain⟨c,f,n⟩:=k;obtain⟨z,g⟩:=YB.1 n;refine⟨(madeCells z.cells (N*4)).toList,by rw[XP,yBk,YF],λw=>?_⟩;have m:(i.bytes:Int)*(N:Int)<=281474976710656:=by
  have:i.bytes*N<=4000*512:=ZB f l;have j:((i.bytes*N:Nat):Int)<=281474976710656:=oM;rwa[Z2]at j
 have:=run_make (P:=prog) w 127 42 i z d b g .i64 .i64 (N:Int) (N:Int) oM oM m oM;rw[yAz,c]at this;rw[yAc];exact this
structure Rows(sz N:Nat)(cell:Nat->List Xu)(m:Nat)(C:List Xu):Prop where
 len:C.length=sz*N
 row:∀j r,j<m->r<sz->C[sz*j+r]? = (cell j)[r]?
theorem Rows.next{sz N m:Nat}{cell:Nat->List Xu}{C:List Xu}(h:Rows sz N cell m C)(e:m<N)(c:(cell m).length=sz):Rows sz N cell (m+1) (rep C (0+sz*m) (cell m)):=by
 have k:=h.len;have l:sz*m+sz<=sz*N:=by rw[<-yAS];exact yAR _ e
 have d:0+sz*m+(cell m).length<=C.length:=by rw[c];omega
 refine⟨by rw[cY d];exact k,λj r g f=>?_⟩;rw[RG.rep_at d];by_cases b:j=m
 ·subst b;rw[yES (by rw[c];omega),show sz*j+r-(0+sz*j)=r by omega]
 ·have i:sz*j+sz<=sz*m:=by rw[<-yAS];exact yAR _ oM
  rw[yET (by rw[c];omega)];exact h.row j r oM f
def rq(N:Nat)(k:Bs):Option Nat:=if k.size=32/\beV k.toList<N then some (beV k.toList) else none
def rqV:Option Nat->Xu
 | none=>.tuple #[nv 0,.bool false]
 | some n=>.tuple #[nv n,.bool true]
theorem fW:Gives 28 #[] gv1:=λw=>(Dq w).mono (by rintro e w' ⟨rfl,rfl⟩;exact⟨_,rfl,aC _ _,rfl⟩)
theorem Bm{N:Nat}(hG:Gap 4624529908474429119 4994812053365940164 1 N)(v:Xu)(c:Bs)(w:Xs)(hv:Arg w v c):XH prog 29 #[gv1,v] w (rZ w λe w'=>e=rqV (rq N c)):=by
 obtain⟨p,n,cap,rfl,d,q⟩:=hv;unfold rq;by_cases b:n=32
 ·subst b;obtain⟨g,o,rfl,l,j,i⟩:=q rfl;refine(zX _ _ _ N g o cap c hG w d l j i).mono ?_;rintro e w' ⟨v,rfl,k,⟨f,r,rfl,m⟩|⟨f,rfl⟩⟩
  ·rw[yES ⟨d,f⟩];exact⟨_,rfl,k,by rw[m.nv];rfl⟩
  ·rw[yET (λh=>oM)];exact⟨_,rfl,k,rfl⟩
 ·refine(ME _ p n cap w _ _ _ rfl b).mono ?_;rintro e w' ⟨v,rfl,k,rfl⟩;rw[yET (λh=>b (d.symm.trans h.1))];exact⟨_,rfl,k,rfl⟩
structure RefP(p0 p1 p2 p3 c0 c1 c2 c3 P:Nat):Prop where
 hp0:p0<18446744073709551616
 hp1:p1<18446744073709551616
 hp2:p2<18446744073709551616
 hp3:p3<18446744073709551616
 hc0:c0<18446744073709551616
 hc1:c1<18446744073709551616
 hc2:c2<18446744073709551616
 hc3:c3<18446744073709551616
 eP:P=val p0 p1 p2 p3
 hP:P+val c0 c1 c2 c3=top
 hP2:top<2*P
theorem T8:RefP 13822214165235122497 13451932020343611451 18446744073709551614 18446744073709551615 4624529908474429119 4994812053365940164 1 0 Go.Proofs.YtlofhpkoaljmeaaGreat.p1:=
 ⟨dC,dC,dC,dC,dC,dC,dC,dC,dK,dK,dK⟩
def Xr(v:Xu)(n:Nat):Prop:=∃a b c d k f g e:Nat,v=.agg #[uZ a,uZ b,uZ c,uZ d,uZ k,uZ f,uZ g,uZ e] /\
 a<18446744073709551616/\b<18446744073709551616/\c<18446744073709551616/\d<18446744073709551616/\k<18446744073709551616/\f<18446744073709551616/\g<18446744073709551616/\e<18446744073709551616 /\
 n=val a b c d+top*val k f g e
def wordOf(a b c d k:Nat):Nat:=if k<8 then a else if k<16 then b else if k<24 then c else d
end
section
structure Ord(N:Nat):Prop where
 gap:Gap 4624529908474429119 4994812053365940164 1 N
 ref:RefP 13822214165235122497 13451932020343611451 18446744073709551614 18446744073709551615 4624529908474429119 4994812053365940164 1 0 N
 le:N<=top
 n2:2<=N%18446744073709551616
variable {N:Nat}
theorem Ord.pos(O:Ord N):0<N:=by have:=O.n2;omega
theorem Ord.four(O:Ord N){a:Nat}(h:a<N):Four (nv a) a:=wR (Xz h O.le)
def sMi(N a b:Nat):Nat:=(a+N-b)%N
def sTi(N a b:Nat):Nat:=a*b%N
def sIn(N a:Nat):Nat:=a^(N-2)%N
theorem JK(O:Ord N){a b:Nat}(c:a<N)(k:b<N):Gives 121 #[gv1,nv a,nv b] (nv (sMi N a b)):=λw =>
 (uM _ _ _ N _ _ a b O.gap (O.four c) (O.four k) c k w).mono (by rintro e w' ⟨v,rfl,k,d⟩;exact⟨_,rfl,k,d.nv⟩)
theorem JH(O:Ord N){a b:Nat}(d:a<N)(k:b<N):Gives 51 #[gv1,nv a,nv b] (nv (sTi N a b)):=λw =>
 (qA _ _ _ N _ _ a b O.gap (O.four d) (O.four k) w).mono (by rintro e w' ⟨v,rfl,k,c⟩;exact⟨_,rfl,k,c.nv⟩)
theorem QZ(O:Ord N){a:Nat}(c:a<N):Gives 174 #[gv1,nv a] (nv (sIn N a)):=λw =>
 (vM _ _ _ N _ a O.gap O.n2 (O.four c) w).mono (by rintro e w' ⟨v,rfl,b,k⟩;exact⟨_,rfl,b,k.nv⟩)
theorem Ki{a x y z u:Nat}(h:nv a=.agg #[uZ x,uZ y,uZ z,uZ u]):be32 x y z u=bx a:=by
 have k:wn a=[uZ x,uZ y,uZ z,uZ u]:=by
  unfold nv at h;injection h with h
  exact congrArg Array.toList h
 unfold wn at k;simp only[yEI.injEq,YQ.injEq,true_and,and_true,Int.natCast_inj]at k;obtain⟨rfl,rfl,rfl,rfl⟩:=k;rfl
def cb(b:Bs):List Xu:=b.toList.map encB
theorem lZ(b:Bs):(cb b).length=b.size:=by unfold cb;rw[XV,XP]
theorem sK{w:Xs}{g:Nat}{b:Bs}(h:Holds encB w g 0 b):w.rangeAt g 0 (cb b)/\w.there g 0 (cb b).length:=by
 refine⟨λj v hv=>?_,λj k=>?_⟩
 ·have k:j<b.size:=by rw[<-lZ];exact(XG.1 hv).1
  rw[(h j k).1];unfold cb at hv;rw[Ys,Yz,X4 k]at hv;rw[getElem!_pos b j k];exact hv
 ·rw[lZ]at k;exact⟨by rw[(h j k).1];rfl,(h j k).2⟩
theorem cb_holds{w:Xs}{g:Nat}{b:Bs}(c:w.rangeAt g 0 (cb b))(d:w.there g 0 (cb b).length):Holds encB w g 0 b:=λj k=>by
 refine⟨c j _ ?_,(d j (by rw[lZ];exact k)).2⟩;unfold cb;rw[Ys,Yz,X4 k,getElem!_pos b j k];rfl
def MK(f:FuncId)(args:Array Xu)(b:Bs)(n:Nat):Prop:=∀w,XH prog f args w (Ret λe w'=>∃k,Made w k (cb b) w'/\e=sZ k n n)
theorem JL(O:Ord N){a:Nat}(d:a<N):MK 27 #[nv a] (bx a) 32:=λw =>
 (A0 _ a w (O.four d)).mono (by
  rintro e w' ⟨v,rfl,c,g,x,y,z,u,rfl,b,j,k⟩;rw[Ki j]at k;obtain⟨f,i⟩:=sK k;exact⟨_,rfl,g,⟨c,b,Holds.lt k (by rw[cU];omega),f,i⟩,rfl⟩)
end
section
variable {P:Nat}[NeZero P]{N:Nat}
theorem WU(a b c d p q r s:Nat)(w:Xs):(binOp .eql 44 (.agg #[uZ a,uZ b,uZ c,uZ d]) (.agg #[uZ p,uZ q,uZ r,uZ s])).run prog w=.ok (.bool (decide (a=p/\b=q/\c=r/\d=s))) w:=by
 go_simp;rw[GN 9997,Yu];by_cases k:a=p/\b=q/\c=r/\d=s
 ·rw[decide_eq_true k];obtain⟨rfl,rfl,rfl,rfl⟩:=k;simp
 ·have e:(decide (a=p) && (decide (b=q) && (decide (c=r) && decide (d=s))))=false:=by
   rw[<-Bool.not_eq_true,XO,XO,XO];simpa using k
  rw[decide_eq_false k,e];simp
theorem eqS{a b:Nat}(c:a<top)(k:b<top)(w:Xs):(binOp .eql 44 (nv a) (nv b)).run prog w=.ok (.bool (decide (a=b))) w:=by
 refine(WU (a%18446744073709551616) (a/18446744073709551616%18446744073709551616) (a/340282366920938463463374607431768211456%18446744073709551616) (a/6277101735386680763835789423207666416102355444464034512896%18446744073709551616) (b%18446744073709551616) (b/18446744073709551616%18446744073709551616) (b/340282366920938463463374607431768211456%18446744073709551616) (b/6277101735386680763835789423207666416102355444464034512896%18446744073709551616) w).trans ?_;simp only[A7 c k]
theorem u40:(prog.underlying 44).map (·.isRow)=some true:=kR
theorem i40:(prog.info? 44).map (·.size)=some 4:=kR
theorem u38:(prog.underlying 42).map (·.isRow)=some true:=kR
theorem i38:(prog.info? 42).map (·.size)=some 4:=kR
theorem D3(O:Ord N)(a b:Nat)(f:a<N)(d:b<N):Gives 71 #[(nv a),(nv b)] (nv (sMi N a b)):=by
 intro w;go_enter func71,ntmps71;refine RG.M.enter [(0,.v (nv a)),(1,.v (nv b))] 12 kR ?_;intro a0 c;repeat refine Xy ?_
 refine c.T [.m 0,.m 1,.m 2] [(0,wn a),(1,wn b),(2,RG.z 4)] [] [wn a,wn b,RG.z 4] [2,3,4] ⟨mk 0 44,mk 1 44,mk 2 44,yEU⟩ ?_;intro g n j l m e;repeat refine Xy ?_
 refine e.D [.c gv1,.s (.p 0 0),.x (nv a),.s (.p 1 0),.x (nv b),.c (nv (sMi N a b)),.x (nv (sMi N a b)),.u 2] [] [(2,7,wn (sMi N a b))] [wn a,wn b,wn (sMi N a b)] [4] ⟨cl fW,st,ld u38 i38,st,ld u38 i38,cl (JK O f d),st,RG.pt i40,yEU⟩ ?_;intro a2 i k;refine Y5 ?_;refine XE (v:=(nv (sMi N a b))) (aH k.st 4 44 rfl 2 _ rfl (k.at (s:=(.p 2 0))) u40 i40) k.sl.defers ?_;exact⟨_,rfl,k.st.bel.below,rfl⟩
theorem gV(O:Ord N)(a b:Nat)(f:a<N)(d:b<N):Gives 26 #[(nv a),(nv b)] (nv (sTi N a b)):=by
 intro w;go_enter func26,ntmps26;refine RG.M.enter [(0,.v (nv a)),(1,.v (nv b))] 12 kR ?_;intro a0 c;repeat refine Xy ?_
 refine c.T [.m 0,.m 1,.m 2] [(0,wn a),(1,wn b),(2,RG.z 4)] [] [wn a,wn b,RG.z 4] [2,3,4] ⟨mk 0 44,mk 1 44,mk 2 44,yEU⟩ ?_;intro g n j l m e;repeat refine Xy ?_
 refine e.D [.c gv1,.s (.p 0 0),.x (nv a),.s (.p 1 0),.x (nv b),.c (nv (sTi N a b)),.x (nv (sTi N a b)),.u 2] [] [(2,7,wn (sTi N a b))] [wn a,wn b,wn (sTi N a b)] [4] ⟨cl fW,st,ld u38 i38,st,ld u38 i38,cl (JH O f d),st,RG.pt i40,yEU⟩ ?_;intro a2 i k;refine Y5 ?_;refine XE (v:=(nv (sTi N a b))) (aH k.st 4 44 rfl 2 _ rfl (k.at (s:=(.p 2 0))) u40 i40) k.sl.defers ?_;exact⟨_,rfl,k.st.bel.below,rfl⟩
theorem wH(O:Ord N)(a:Nat)(d:a<N):Gives 144 #[(nv a)] (nv (sIn N a)):=by
 intro w;go_enter func144,ntmps144;refine RG.M.enter [(0,.v (nv a))] 8 kR ?_;intro a0 b;repeat refine Xy ?_
 refine b.T [.m 0,.m 1] [(0,wn a),(1,RG.z 4)] [] [wn a,RG.z 4] [1,2] ⟨mk 0 44,mk 1 44,yEU⟩ ?_;intro e j g i c;repeat refine Xy ?_
 refine c.D [.c gv1,.s (.p 0 0),.x (nv a),.c (nv (sIn N a)),.x (nv (sIn N a)),.u 1] [] [(1,5,wn (sIn N a))] [wn a,wn (sIn N a)] [2] ⟨cl fW,st,ld u38 i38,cl (QZ O d),st,RG.pt i40,yEU⟩ ?_;intro a2 f k;refine Y5 ?_;refine XE (v:=(nv (sIn N a))) (aH k.st 2 44 rfl 1 _ rfl (k.at (s:=(.p 1 0))) u40 i40) k.sl.defers ?_;exact⟨_,rfl,k.st.bel.below,rfl⟩
theorem Nq(v:Xu)(m:Nat)(ok:Bool)(w:Xs)(b:∀w',BelX w.heap.size [] w w'->XH prog 29 #[gv1,v] w' (Ret λe c=>kZ w' c/\e=.tuple #[nv m,.bool ok])):
 XH prog 11 #[v] w (rZ w λe w'=>e=.tuple #[nv m,.bool ok]):=by
 go_enter func11,ntmps11;refine RG.M.enter [(0,.v v)] 15 kR ?_;intro a0 f;repeat refine Xy ?_
 refine f.T [.m 0,.x (.bool false)] [(0,RG.z 4)] [] [RG.z 4] [0,2,3] ⟨mk 0 44,st,yEU⟩ ?_;intro l i p g;repeat refine Xy ?_
 refine g.T [.c gv1,.x v,.c (.tuple #[nv m,.bool ok]),.x (.tuple #[nv m,.bool ok]),.x (nv m),.x (.bool ok),.m 1,.u 1,.x (.bool ok)] [(6,RG.z 4)] [(1,7,wn m)] [RG.z 4,wn m] [2,3,4,5] ⟨cl fW,st,clB (λ_ _=>kR) b,st,st,st,mk 1 42,RG.pt i38,st,yEU⟩ ?_;intro q a2 j d;repeat refine Xy ?_
 refine d.T [.x (nv m),.x (nv m),.x (.bool ok),.u 0,.x (.bool ok)] [] [(0,3,wn m)] [wn m,wn m] [2,3] ⟨ld u38 i38,st,st,RG.pt i40,st,yEU⟩ ?_;intro o n k;refine Y5 ?_;refine XE (v:=.tuple #[nv m,.bool ok]) (cV k.st 2 3 44 rfl 0 _ rfl (k.at (s:=.p 0 0)) _ (k.av (v:=.bool ok) kR) u40 i40) k.sl.defers ?_;exact⟨_,rfl,k.st.bel.below,rfl⟩
theorem wE(O:Ord N)(v:Xu)(k:Bs)(w:Xs)(hv:Arg w v k):XH prog 11 #[v] w (rZ w λe w'=>e=.tuple #[nv ((rq N k).getD 0),.bool (rq N k).isSome]):=by
 refine Nq v _ _ w λw' c=>?_
 have h:=Bm O.gap v k w' (hv.below c.below);cases b:rq N k with
 | none=>rw[b]at h;exact h
 | some n=>rw[b]at h;exact h
theorem nS(O:Ord N){a:Nat}(e:a<N):MK 10 #[nv a] (bx a) 32:=by
 intro w;go_enter func10,ntmps10;refine RG.M.enter [(0,.v (nv a))] 6 kR ?_;intro a0 c;repeat refine Xy ?_
 refine c.T [.m 0,.x (.slice none 0 0)] [(0,wn a)] [] [wn a] [1,2] ⟨mk 0 44,st,yEU⟩ ?_;intro f j l d;repeat refine Xy ?_
 refine d.t [.s 3 [] (.p 0 0),.x 4 [(3,0)] (nv a),⟨some 5,[(4,1)],.s 1 32 32,.make 1⟩,.s 2 [(5,2)] (.s 1 32 32)] [(2,cb (bx a))] [] [wn a,cb (bx a)] [(2,.s 1 32 32)] ⟨st,ld u38 i38,RG.cm 1 (λw _=>JL O e w) λ_ _=>kR,st,yEU⟩ ?_;intro i a2 g k;refine Y5 ?_;refine XE (v:=_) (jH 2 rfl _ (k.at (s:=.s 1 32 32))) k.sl.defers ?_;exact⟨_,rfl,_,k.st.made (b:=1) rfl,rfl⟩
end
namespace SP
theorem WH(x:BitVec 64):(x.toNat:Int)<18446744073709551616:=by
 have:=x.isLt;omega
theorem dY(x:BitVec 64):yAa 64 (x.toNat:Int)=x:=by
 apply yCW;rw[yC0,yBU];exact XX x.isLt
theorem fY(x:BitVec 64):Yn.wrap (x.toNat:Int)=x.toNat:=by
 rw[ZK];have:=WH x;exact yDI oM this
def u(v:BitVec 64):Int:=(v.toNat:Int)
theorem dA(a b:BitVec 64):bits .xor .u64 (u a) (u b)=u (a ^^^ b):=by
 show Yn.wrap ((yAa 64 (a.toNat:Int) ^^^ yAa 64 (b.toNat:Int)).toNat:Int)=_;rw[dY,dY,fY];rfl
theorem dW(a b:BitVec 64):bits .and .u64 (u a) (u b)=u (a &&& b):=by
 show Yn.wrap ((yAa 64 (a.toNat:Int) &&& yAa 64 (b.toNat:Int)).toNat:Int)=_;rw[dY,dY,fY];rfl
theorem eC(a b:BitVec 64):bits .or .u64 (u a) (u b)=u (a ||| b):=by
 show Yn.wrap ((yAa 64 (a.toNat:Int) ||| yAa 64 (b.toNat:Int)).toNat:Int)=_;rw[dY,dY,fY];rfl
theorem qY(a:BitVec 64):bits .xor .u64 Yn.max (u a)=u (~~~a):=by
 have e:Yn.max=u (BitVec.allOnes 64):=dK;rw[e,dA,BitVec.allOnes_xor]
theorem Vz(k:Nat)(b:k<64):bits .and .u64 (k:Int) 63=k:=by
 have h:∀j:Fin 64,bits .and .u64 ((j.val:Nat):Int) 63=(j.val:Int):=dK;exact h ⟨k,b⟩
theorem JF(x:BitVec 64)(k:Nat):Yn.wrap (u x*2^k)=u (x <<< k):=by
 unfold u;rw[ZK,BitVec.toNat_shiftLeft,Nat.shiftLeft_eq,Int.natCast_emod,Z2,yCM];rfl
theorem Pw(x:BitVec 64)(k:Nat):u x/2^k=u (x >>> k):=by
 unfold u;rw[BitVec.toNat_ushiftRight,Nat.shiftRight_eq_div_pow,yBK,yCM];rfl
def rol(w:BitVec 64)(n:Nat):BitVec 64:=w <<< n ||| w >>> (64-n)
abbrev St:=Array (BitVec 64)
def enc(v:BitVec 64):Xu:=uZ (u v)
def ER(d:St)(x:Nat):BitVec 64:=d[x]! ^^^ d[x+5]! ^^^ d[x+10]! ^^^ d[x+15]! ^^^ d[x+20]!
def qK(d:St):Nat->St
 | 0=>#[0,0,0,0,0]
 | k+1=>(qK d k).setIfInBounds k (ER d k)
def bX(d:St)(i:Nat)(v:BitVec 64):St:=d.setIfInBounds i (d[i]! ^^^ v)
def mX(v:BitVec 64)(x:Nat)(d:St):Nat->St
 | 0=>d
 | m+1=>bX (mX v x d m) (x+5*m) v
def SJ(s:St)(x:Nat):BitVec 64:=s[(x+4)%5]! ^^^ rol s[(x+1)%5]! 1
def oQ(s d:St):Nat->St
 | 0=>d
 | k+1=>mX (SJ s k) k (oQ s d k) 5
def xG(d:St):St:=oQ (qK d 5) d 5
theorem dN(d:St)(i:Nat)(v:BitVec 64):(bX d i v).size=d.size:=by simp[bX]
theorem uO(d:St)(k:Nat):(qK d k).size=5:=by
 induction k with
 | zero=>rfl
 | succ k ih=>simp[qK,ih]
theorem rV(v:BitVec 64)(x:Nat)(d:St)(m:Nat):(mX v x d m).size=d.size:=by
 induction m with
 | zero=>rfl
 | succ k ih=>simp[mX,dN,ih]
theorem rB(s d:St)(m:Nat):(oQ s d m).size=d.size:=by
 induction m with
 | zero=>rfl
 | succ k ih=>simp[oQ,rV,ih]
structure Tm where
 x:Nat
 y:Nat
 m:BitVec 64
 d:St
def offs(t:Nat):Nat:=(t+1)*(t+2)/2%64
def DL(t:Nat)(s:Tm):Tm:=
 { x:=s.y,y:=(2*s.x+3*s.y)%5,m:=s.d[s.y+5*((2*s.x+3*s.y)%5)]!,d:=s.d.setIfInBounds (s.y+5*((2*s.x+3*s.y)%5)) (rol s.m (offs t)) }
def vP(d:St):Nat->Tm
 | 0=>{ x:=1,y:=0,m:=d[1]!,d:=d }
 | t+1=>DL t (vP d t)
def Ap(d:St):St:=(vP d 24).d
theorem FG(d:St)(hd:d.size=25)(t:Nat):(vP d t).x<5/\(vP d t).y<5/\(vP d t).d.size=25:=by
 induction t with
 | zero=>exact⟨show 1<5 by decide,show 0<5 by decide,hd⟩
 | succ t ih =>
  obtain⟨c,k,b⟩:=ih;refine⟨k,?_,?_⟩
  ·show(2*(vP d t).x+3*(vP d t).y)%5<5;omega
  ·show((vP d t).d.setIfInBounds _ _).size=25;rw[YJ,b]
def rowAt(d:St)(i:Nat):St:=
 bX (bX (bX (bX (bX d i (~~~d[i+1]! &&& d[i+2]!)) (i+1) (~~~d[i+2]! &&& d[i+3]!)) (i+2) (~~~d[i+3]! &&& d[i+4]!)) (i+3) (~~~d[i+4]! &&& d[i]!)) (i+4) (~~~d[i]! &&& d[i+1]!)
def zD(d:St):Nat->St
 | 0=>d
 | k+1=>rowAt (zD d k) (5*k)
def chi(d:St):St:=zD d 5
theorem D6(d:St)(i:Nat):(rowAt d i).size=d.size:=by simp[rowAt,dN]
theorem zC(d:St)(k:Nat):(zD d k).size=d.size:=by
 induction k with
 | zero=>rfl
 | succ k ih=>simp[zD,D6,ih]
def xW(r:Nat):Nat:=if 255<2*r then(2*r) ^^^ 369 else 2*r
def xU(r:Nat):Nat->BitVec 64 × Nat
 | 0=>(0,r)
 | j+1=>((xU r j).1 ||| yAU 64 ((xU r j).2%2) <<< (2^j-1),xW (xU r j).2)
theorem Cu(r:Nat)(h:r<256):xW r<256:=by
 have H:∀j:Fin 256,xW j.val<256:=dK;exact H ⟨r,h⟩
theorem NR(r:Nat)(h:r<256)(j:Nat):(xU r j).2<256:=by
 induction j with
 | zero=>exact h
 | succ j ih=>exact Cu _ ih
theorem Rh(r:Nat)(h:r<256):bits .xor .i64 ((r:Int)*2) 369=(((2*r) ^^^ 369:Nat):Int):=by
 have H:∀j:Fin 256,bits .xor .i64 ((j.val:Int)*2) 369=(((2*j.val) ^^^ 369:Nat):Int):=dK;exact H ⟨r,h⟩
theorem Ri(r:Nat)(h:r<256):bits .and .i64 (r:Int) 1=u (yAU 64 (r%2)):=by
 have H:∀j:Fin 256,bits .and .i64 (j.val:Int) 1=u (yAU 64 (j.val%2)):=dK;exact H ⟨r,h⟩
theorem qH(x:BitVec 64):Yn.wrap (u x)=u x:=fY x
def yM(d:St)(c:BitVec 64):St:=bX (chi (Ap (xG d))) 0 c
def rcC(r:Nat):BitVec 64:=(xU r 7).1
def rcN(r:Nat):Nat:=(xU r 7).2
theorem Rj(r:Nat)(h:r<256):rcN r<256:=by
 unfold rcN;exact NR r h 7
def Cv:Nat->Nat
 | 0=>1
 | k+1=>rcN (Cv k)
theorem NS(k:Nat):Cv k<256:=by
 induction k with
 | zero=>decide
 | succ k ih=>exact Rj _ ih
def tN(d:St):Nat->St
 | 0=>d
 | k+1=>yM (tN d k) (rcC (Cv k))
def perm(d:St):St:=tN d 24
theorem mI(d:St):(xG d).size=d.size:=rB _ _ _
theorem qQ(d:St)(hd:d.size=25):(Ap d).size=25:=(FG d hd 24).2.2
theorem De(d:St):(chi d).size=d.size:=zC _ _
theorem CW(d:St)(c:BitVec 64)(hd:d.size=25):(yM d c).size=25:=by
 unfold yM;rw[dN,De,qQ];rw[mI,hd]
theorem uS(d:St)(hd:d.size=25)(k:Nat):(tN d k).size=25:=by
 induction k with
 | zero=>exact hd
 | succ k ih=>exact CW _ _ ih
theorem tK(d:St)(hd:d.size=25):(perm d).size=25:=uS d hd 24
abbrev Bs:=Array UInt8
def ub(x:UInt8):Int:=(x.toNat:Int)
def encB(x:UInt8):Xu:=.int .u8 (ub x)
def wide(x:UInt8):BitVec 64:=yAU 64 x.toNat
def low(v:BitVec 64):UInt8:=XN v.toNat
theorem MV(x:UInt8):ub x=u (wide x):=by
 unfold ub u wide;rw[yBU,XX];have:=x.toNat_lt;omega
theorem Fw(x:UInt8):Yn.wrap (ub x)=u (wide x):=by rw[MV,qH]
theorem PP(v:BitVec 64):yAV.wrap (u v)=ub (low v):=by
 have e:yAV.wrap (u v)=u v%256:=by simp[yDU,yDV,yDu]
 rw[e];unfold u ub low;rw[yBi];omega
def xB(b:Bs)(o:Nat):Nat->BitVec 64
 | 0=>0
 | i+1=>xB b o i ||| wide b[o+i]! <<< (8*i)
def wordOf(k:Bs)(o:Nat):BitVec 64:=xB k o 8
def lQ(k:Bs)(d:St):Nat->St
 | 0=>d
 | i+1=>bX (lQ k d i) i (wordOf k (8*i))
theorem mV(b:Bs)(d:St)(k:Nat):(lQ b d k).size=d.size:=by
 induction k with
 | zero=>rfl
 | succ k ih=>simp[lQ,dN,ih]
def byteOf(d:St)(k:Nat):UInt8:=low (d[k/8]! >>> (8*(k%8)))
def iH(d:St)(n:Nat):Nat->Bs
 | 0=>XL n 0
 | k+1=>(iH d n k).setIfInBounds k (byteOf d k)
def front(d:St)(n:Nat):Bs:=iH d n n
theorem mY(d:St)(n k:Nat):(iH d n k).size=n:=by
 induction k with
 | zero=>simp[iH]
 | succ k ih=>simp[iH,ih]
theorem dV(d:St)(n:Nat):(front d n).size=n:=mY d n n
end SP
namespace SP
structure Only(b off n:Nat)(w w':Xs):Prop where
 os:w'.os=w.os
 tape:w'.tape=w.tape
 output:w'.output=w.output
 size:w.heap.size<=w'.heap.size
 block:∀k,k<w.heap.size->k≠b->w'.heap[k]? = w.heap[k]?
 cell:∀o,(o<off\/off+n<=o)->w'.cell? ⟨b,o,none⟩=w.cell? ⟨b,o,none⟩
 froz:∀o,w'.frozen? ⟨b,o,none⟩=w.frozen? ⟨b,o,none⟩
variable {b off n:Nat}{w w1 w2:Xs}
theorem Only.refl(b off n:Nat)(w:Xs):Only b off n w w:=⟨rfl,rfl,rfl,Xx _,λ_ _ _=>rfl,λ_ _=>rfl,λ_=>rfl⟩
theorem Only.trans(h:Only b off n w w1)(k:Only b off n w1 w2):Only b off n w w2:=
 ⟨k.os.trans h.os,k.tape.trans h.tape,k.output.trans h.output,XB h.size k.size,
  λi d c=>(k.block i (Xz d h.size) c).trans (h.block i d c),
  λo ho=>(k.cell o ho).trans (h.cell o ho),λo=>(k.froz o).trans (h.froz o)⟩
theorem Only.drewN(h:Only b off n w w1)(q:Nat):Only b off n w (w1.drewN q):=⟨h.os,h.tape,h.output,h.size,h.block,h.cell,h.froz⟩
theorem Only.drew(h:Only b off n w w1):Only b off n w w1.drew:=⟨h.os,h.tape,h.output,h.size,h.block,h.cell,h.froz⟩
theorem Only.setCell(h:Only b off n w w1){o:Nat}(f:off<=o)(g:o<off+n)(v:Xu):Only b off n w (w1.setCell ⟨b,o,none⟩ v):=by
 refine h.trans ⟨rfl,rfl,rfl,by simp,λk _ c=>yB2 _ _ _ _ c,λd ho=>?_,λd=>by simp⟩;exact XZ _ _ _ _ (by intro e;simp only[Addr.mk.injEq,and_true,true_and]at e;omega)
theorem Only.alloc(h:Only b off n w w1)(d:b<w1.heap.size)(o:Obj):Only b off n w (w1.alloc o):=by
 refine h.trans ⟨rfl,rfl,rfl,by simp,λk c _=>Below.heap_alloc _ _ _ c,λe _=>?_,λe=>?_⟩
 ·exact World.cell?_alloc_lt _ _ _ d
 ·exact World.frozen?_alloc_old _ _ _ (by show b≠_;omega)
theorem Only.below(h:Only b off n w w1){B:Nat}(d:B<=w.heap.size)(e:B<=b):Below B w w1:=
 ⟨h.os,h.tape,h.output,h.size,λk c=>h.block k oM oM⟩
theorem Only.of_below{B:Nat}(h:Below B w w1)(e:B=w.heap.size)(c:b<B):Only b off n w w1:=
 ⟨h.os,h.tape,h.output,h.size,λk d _=>h.block k oM,λo _=>h.cell (p:=⟨b,o,none⟩) c,λo=>h.frozen (p:=⟨b,o,none⟩) c⟩
theorem Only.other(h:Only b off n w w1){c o:Nat}(d:c≠b)(k:c<w.heap.size):w1.cell? ⟨c,o,none⟩=w.cell? ⟨c,o,none⟩/\w1.frozen? ⟨c,o,none⟩=w.frozen? ⟨c,o,none⟩:=
 ⟨XW (w:=w) (h.block c k d),Y0 (w:=w) (h.block c k d)⟩
theorem Only.fresh{o m:Nat}{x:Obj}(h:Only w.heap.size o m (w.alloc x) w1):kZ w w1:=
 ((XM _ _).alloc (Xx _) x).trans (h.below (by simp) (Xx _))
section
variable {α:Type}[Inhabited α]{enc:α->Xu}{d:Array α}
theorem Holds.lt(h:Holds enc w b off d)(hd:0<d.size):b<w.heap.size:=ZZ _ _ (h 0 hd).1
theorem Holds.other{c o:Nat}(h:Holds enc w c o d)(k:Only b off n w w1)(f:c≠b)(hd:0<d.size):Holds enc w1 c o d:=by
 intro j e;have:=h j e;have:=k.other (o:=o+j) f (Holds.lt h hd);rw[this.1,this.2];exact h j e
theorem Holds.same{o:Nat}(h:Holds enc w b o d)(k:Only b off n w w1)(hd:o+d.size<=off\/off+n<=o):Holds enc w1 b o d:=by
 intro j c;rw[k.cell _ oM,k.froz];exact h j c
theorem Holds.below{B:Nat}(h:Holds enc w b off d)(k:Below B w w1)(c:b<B):Holds enc w1 b off d:=by
 intro j e;rw[k.cell (p:=⟨b,off+j,none⟩) c,k.frozen (p:=⟨b,off+j,none⟩) c];exact h j e
theorem Holds.drewN(h:Holds enc w b off d)(q:Nat):Holds enc (w.drewN q) b off d:=h
theorem Holds.drew(h:Holds enc w b off d):Holds enc w.drew b off d:=h
theorem Holds.set(h:Holds enc w b off d){i:Nat}(c:i<d.size)(x:α):Holds enc (w.setCell ⟨b,off+i,none⟩ (enc x)) b off (d.setIfInBounds i x):=by
 intro j k;rw[YJ]at k;rw[YN];by_cases e:j=i
 ·subst e;rw[getElem!_set_same d j x c];exact⟨Y1 _ _ _ (h j k).1,(h j k).2⟩
 ·rw[getElem!_set_other d i j x e,XZ _ _ _ _ (by intro e';simp only[Addr.mk.injEq,and_true,true_and]at e';omega)];exact h j k
theorem Holds.new(w:Xs)(t:Yd)(d:Array α):Holds enc (w.alloc (.cells (d.map enc) t)) w.heap.size 0 d:=by
 intro j k;rw[Yp,Zn];refine⟨?_,rfl⟩;simp only[XD,yDj,X4 k,yA5,getElem!_pos d j k]
theorem Holds.made(w:Xs)(t:Yd)(n:Nat)(x:α):Holds enc (w.alloc (.cells (madeCells #[enc x] n) t)) w.heap.size 0 (XL n x):=by
 intro j k;rw[XU]at k;rw[Yp,Zn];refine⟨?_,rfl⟩;rw[getElem!_pos _ j (by simpa using k),Zo];simp[madeCells,k,Nat.mod_one]
end
theorem Holds.xor{d:St}(h:Holds enc w b off d){i:Nat}(k:i<d.size){x:BitVec 64}(hx:d[i]! = x)(v:BitVec 64):Holds enc (w.setCell ⟨b,off+i,none⟩ (uZ (u (x ^^^ v)))) b off (bX d i v):=by
 unfold bX;rw[hx];exact Holds.set h k (x ^^^ v)
theorem bZ(d:St)(i j:Nat)(v:BitVec 64)(h:j≠i):(bX d i v)[j]! = d[j]!:=getElem!_set_other d i j _ h
end SP
namespace SP
theorem mixed:prog.follows .mixedOrders=true:=kR
theorem bR{w:Xs}{b off:Nat}{d:St}(h:Holds enc w b off d)(i:Nat)(k:i<d.size){x:BitVec 64}(hx:d[i]! = x):
 w.cell? ⟨b,off+i,none⟩=some (uZ (u x))/\w.frozen? ⟨b,off+i,none⟩=false:=by
 rw[<-hx];exact h i k
theorem ret_int{k:IntKind}{a b:Int}(h:a=b):Ending.returned (.int k a)=.returned (.int k b):=by rw[h]
theorem Co(x:BitVec 64)(k:Nat)(w:Xs)(b:k<64):
 XH prog 216 #[uZ (u x),iZ k] w λe w'=>e=.returned (uZ (u (rol x k)))/\w'=w:=by
 have c:=Vz k b;go_enter func216,ntmps216;go_wp2;go_ret;refine⟨ret_int ?_,rfl⟩;rw[JF,Pw,eC];rfl
end SP
namespace SP
theorem CY(w:Xs)(t:Yd):Holds enc (w.alloc (.cells #[uZ 0,uZ 0,uZ 0,uZ 0,uZ 0] t)) w.heap.size 0 (#[0,0,0,0,0]:St):=by
 have h:=Holds.new (enc:=enc) w t (#[0,0,0,0,0]:St);have e:yEF enc (#[0,0,0,0,0]:St)=#[uZ 0,uZ 0,uZ 0,uZ 0,uZ 0]:=by simp[enc,u]
 rw[e]at h;exact h
attribute [local go_sem] dA dW eC
theorem yI(b off:Nat)(d:St)(w:Xs)(hd:d.size=25)(T:Holds enc w b off d):
 XH prog 210 #[.pointer (some ⟨b,off,none⟩)] w λe w'=>e=.returned (.tuple #[])/\Only b off 25 w w'/\Holds enc w' b off (xG d):=by
 have S:=Holds.lt T oM;go_enter func210,ntmps210;go_wp2;generalize o:(w.alloc _)=W1;go_loopg [7] 5 (λg s7 wr=>∃k l,k+g=5/\s7=.int .i64 (k:Nat)/\Holds enc wr w.heap.size 0 l/\Only w.heap.size 0 5 W1 wr/\Hid (l=qK d k))
 case atStart =>
  refine⟨0,#[0,0,0,0,0],rfl,rfl,?_,Only.refl _ _ _ _,rfl⟩;rw[<-o];exact CY w 289
 case round =>
  obtain⟨k,l,V,rfl,J,n,p⟩:=hrel;have j:Holds enc wr b off d:=Holds.other (by rw[<-o];exact Holds.below T ((XM _ _).alloc (Xx _) _) S) n oM oM;by_cases C:k<5
  ·obtain⟨y,t⟩:∃x,d[k]! = x:=⟨_,rfl⟩
   obtain⟨D,q⟩:∃x,d[k+5]! = x:=⟨_,rfl⟩
   obtain⟨a,r⟩:∃x,d[k+10]! = x:=⟨_,rfl⟩
   obtain⟨B,s⟩:∃x,d[k+15]! = x:=⟨_,rfl⟩
   obtain⟨A,u⟩:∃x,d[k+20]! = x:=⟨_,rfl⟩
   obtain⟨M,v⟩:∃x,l[k]! = x:=⟨_,rfl⟩
   have I:l.size=5:=by rw[p.out,uO]
   obtain⟨F,P⟩:=bR j k oM t;obtain⟨c1,O⟩:=bR j (k+5) oM q;obtain⟨c2,f2⟩:=bR j (k+10) oM r;obtain⟨Z,L⟩:=bR j (k+15) oM s;obtain⟨c4,W⟩:=bR j (k+20) oM u;obtain⟨G,H⟩:=bR J k oM v;rw[XD]at G H;have E:Hid (ER d k=y ^^^ D ^^^ a ^^^ B ^^^ A):=by rw[<-t,<-q,<-r,<-s,<-u];rfl
   clear t q r s u v j;have k5:(k:Int)<5:=oM;have b0:(k:Int)<25:=oM;have b1:(k:Int)+5<25:=oM;have X:(k:Int)+10<25:=oM;have b3:(k:Int)+15<25:=oM;have b4:(k:Int)+20<25:=oM;have p1:0<=(k:Int)+5:=oM;have p2:0<=(k:Int)+10:=oM;have R:0<=(k:Int)+15:=oM;have Q:0<=(k:Int)+20:=oM;have K:((k:Int)+5).toNat=k+5:=oM;have N:((k:Int)+10).toNat=k+10:=oM;have e3:((k:Int)+15).toNat=k+15:=oM;have Y:((k:Int)+20).toNat=k+20:=oM;have v1:Yh.wrap ((k:Int)+5)=(k:Int)+5:=Zl _ oM;have v2:Yh.wrap ((k:Int)+10)=(k:Int)+10:=Zl _ oM;have U:Yh.wrap ((k:Int)+15)=(k:Int)+15:=Zl _ oM;have v4:Yh.wrap ((k:Int)+20)=(k:Int)+20:=Zl _ oM;go_wp2_with fail
   go_still_tail 35,mixed;go_wp2;go_roundg (gk-1)
   case measure=>omega
   case rel =>
    refine⟨k+1,l.setIfInBounds k (y ^^^ D ^^^ a ^^^ B ^^^ A),oM,by go_num,?_,?_,?_⟩
    ·have:=Holds.set J (i:=k) oM (y ^^^ D ^^^ a ^^^ B ^^^ A);rw[XD]at this;exact Holds.drew this
    ·exact(n.setCell (Zh _) oM _).drew
    ·show _=(qK d k).setIfInBounds k (ER d k);rw[E.out,p.out]
  ·have s:k=5:=oM;subst s;have Q:Hid (l=qK d 5):=p;have G:Only b off 25 w wr:=by
    rw[<-o]at n;exact Only.of_below n.fresh rfl S
   clear V C p n o;go_wp2;go_loopg [46] 5 (λg s46 A=>∃k q,k+g=5/\s46=.int .i64 (k:Nat)/\Holds enc A b off q/\Only b off 25 wr A/\Hid (q=oQ l d k))
   case atStart=>exact⟨0,d,rfl,rfl,j,Only.refl _ _ _ _,rfl⟩
   case round =>
    obtain⟨k,q,V,rfl,U,n,p⟩:=hrel;by_cases C:k<5
    ·have I:l.size=5:=by rw[Q.out,uO]
     have B:=Holds.other J n oM oM;obtain⟨v,u⟩:∃x,l[(k+4)%5]! = x:=⟨_,rfl⟩
     obtain⟨y,t⟩:∃x,l[(k+1)%5]! = x:=⟨_,rfl⟩
     obtain⟨F,P⟩:=bR B ((k+4)%5) oM u;obtain⟨c1,O⟩:=bR B ((k+1)%5) oM t;rw[XD]at F c1;have HD:Hid (SJ l k=v ^^^ rol y 1):=by rw[<-u,<-t];rfl
     clear u t P O;have k5:(k:Int)<5:=oM;go_wp2_with fail
     go_quiet ((go_at_call 216;exact Calls.quiet_of_same (Co _ 1 _ dC)));clear F c1;go_wp2;have X:=n.drewN nq;have M:=Holds.drewN U nq;have K:q.size=25:=by rw[p.out,rB,hd]
     go_loopg [6] 5 (λg s6 A=>∃m r,m+g=5/\s6=.int .i64 ((k+5*m:Nat):Int)/\Holds enc A b off r/\Only b off 25 wr A/\Hid (r=mX (v ^^^ rol y 1) k q m))
     case atStart=>exact⟨0,q,rfl,rfl,M,(Only.refl _ _ _ _).drewN _,rfl⟩
     case round =>
      obtain⟨m,r,hm,rfl,H,a,E⟩:=hrel;by_cases R:m<5
      ·have Z:r.size=25:=by rw[E.out,rV,K]
       obtain⟨z,D⟩:∃x,r[k+5*m]! = x:=⟨_,rfl⟩
       obtain⟨c,f⟩:=bR H (k+5*m) oM D;have Y:Hid (r[k+5*m]! = z):=D;clear D;have W:((k+5*m:Nat):Int)<25:=oM;generalize L:k+5*m=i at *;have N:Hid (k+5*m=i):=L;clear L;go_wp2_with fail
       go_still_tail 9,mixed;go_wp2;go_roundg (gk-1)
       case measure=>omega
       case rel =>
        refine⟨m+1,r.setIfInBounds i (z ^^^ (v ^^^ rol y 1)),oM,?_,?_,?_,?_⟩
        ·rw[<-N.out];go_num
        ·exact Holds.drew (Holds.set H oM _)
        ·exact(a.setCell (yBI _ _) oM _).drew
        ·show _=bX (mX (v ^^^ rol y 1) k q m) (k+5*m) (v ^^^ rol y 1);rw[<-E.out,N.out,<-Y.out];rfl
      ·have D:m=5:=oM;subst D;have W:(25:Int)<=((k+5*5:Nat):Int):=oM;generalize L:k+5*5=i at *;go_wp2;go_roundg (4-k)
       case measure=>omega
       case rel =>
        refine⟨k+1,r,oM,by go_num,H,n.trans a,?_⟩;show _=mX (SJ l k) k (oQ l d k) 5;rw[<-p.out,HD.out];exact E.out
    ·have s:k=5:=oM;subst s;go_wp2
     go_end0
     refine⟨rfl,G.trans n,?_⟩;have:xG d=q:=by rw[p.out,Q.out];rfl
     rw[this];exact U
end SP
namespace SP
attribute [local go_sem] dA dW eC
theorem Kg(t:Nat)(h:t<24):(wrap64 ((wrap64 (((t:Int)+1)*((t:Int)+2))).tdiv 2)).tmod 64=(offs t:Int):=by
 have H:∀j:Fin 24,(wrap64 ((wrap64 (((j.val:Int)+1)*((j.val:Int)+2))).tdiv 2)).tmod 64=(offs j.val:Int):=dK;exact H ⟨t,h⟩
theorem vN(b off:Nat)(d:St)(w:Xs)(hd:d.size=25)(a:Holds enc w b off d):
 XH prog 211 #[oZ b off] w λe w'=>e=.returned (.tuple #[])/\Only b off 25 w w'/\Holds enc w' b off (Ap d):=by
 obtain⟨L,j⟩:∃x,d[1]! = x:=⟨_,rfl⟩
 obtain⟨c1,J⟩:=bR a 1 oM j;go_enter func211,ntmps211;go_wp2;go_loopg [2,3,4,12] 24 (λg sx H sm st wr=>∃t T,t+g=24/\st=iZ (t:Nat)/\sx=iZ (T.x:Nat)/\H=iZ (T.y:Nat)/\sm=uZ (u T.m)/\Holds enc wr b off T.d/\Only b off 25 w wr/\Hid (T=vP d t))
 case atStart=>exact⟨0,vP d 0,rfl,rfl,rfl,rfl,by rw[<-j];rfl,a,Only.refl _ _ _ _,rfl⟩
 case round =>
  obtain⟨t,⟨x,y,m,D⟩,K,rfl,rfl,rfl,rfl,q,B,r⟩:=hrel;have l:=FG d hd t;rw[<-r.out]at l;obtain⟨hx,G,I⟩:=l;dsimp only at hx G I q;by_cases v:t<24
  ·obtain⟨i,F⟩:∃i,y+5*((2*x+3*y)%5)=i:=⟨_,rfl⟩
   obtain⟨z,C⟩:∃z,D[i]! = z:=⟨_,rfl⟩
   obtain⟨c,f⟩:=bR q i oM C;have E:=mk1 (C);have A:=mk1 (F);go_wp2_with fail
   rw[Kg t v];refine(Co m (offs t) _ (Y9 _ dC)).mono ?_;rintro e w' ⟨rfl,rfl⟩;go_wp2_with fail
   obtain⟨p,s⟩:∃n,(2*x+3*y)%5=n:=⟨_,rfl⟩
   have o:(2*(x:Int)+3*(y:Int))%5=(p:Int):=oM;rw[o];have k:=mk1 (s);have M:((y:Int)+5*(p:Int)).toNat=i:=by have:=A.out;have:=k.out;omega
   go_region
   go_wp2;go_roundg (gk-1)
   case measure=>omega
   case rel =>
    refine⟨t+1,⟨y,p,z,D.setIfInBounds i (rol m (offs t))⟩,oM,by go_num,rfl,rfl,rfl,?_,?_,?_⟩
    ·exact Holds.drew (Holds.set q oM _)
    ·exact(B.setCell (yBI _ _) oM _).drew
    ·show _=DL t (vP d t);rw[<-r.out];simp only[DL,k.out];have e:y+5*p=i:=by have:=A.out;have:=k.out;omega
     rw[e,E.out]
  ·have k:t=24:=oM;subst k;go_wp2
   go_end0
   refine⟨rfl,B,?_⟩;show Holds enc _ b off (vP d 24).d;rw[<-r.out];exact q
end SP
namespace SP
attribute [local go_sem] dA dW eC qY
theorem CP(b off:Nat)(d:St)(w:Xs)(hd:d.size=25)(hH:Holds enc w b off d):
 XH prog 212 #[.pointer (some ⟨b,off,none⟩)] w λe w'=>e=.returned (.tuple #[])/\Only b off 25 w w'/\Holds enc w' b off (chi d):=by
 go_enter func212,ntmps212;go_wp2;go_loopg [2] 5 (λg si wr=>∃k j,k+g=5/\si=.int .i64 ((5*k:Nat):Int)/\Holds enc wr b off j/\Only b off 25 w wr/\Hid (j=zD d k))
 case atStart=>exact⟨0,d,rfl,rfl,hH,Only.refl _ _ _ _,rfl⟩
 case round =>
  obtain⟨k,j,hk,rfl,B,hO,X⟩:=hrel;have hs:j.size=25:=by rw[X.out,zC,hd]
  by_cases he:k<5
  ·obtain⟨i,hi⟩:∃i,5*k=i:=⟨_,rfl⟩
   rw[hi];have Hi:Hid (5*k=i):=hi;obtain⟨u,J⟩:∃x,j[i]! = x:=⟨_,rfl⟩
   obtain⟨s,D⟩:∃x,j[i+1]! = x:=⟨_,rfl⟩
   obtain⟨q,F⟩:∃x,j[i+2]! = x:=⟨_,rfl⟩
   obtain⟨p,G⟩:∃x,j[i+3]! = x:=⟨_,rfl⟩
   obtain⟨m,O⟩:∃x,j[i+4]! = x:=⟨_,rfl⟩
   obtain⟨c0,f0⟩:=bR B i oM J;obtain⟨c1,f1⟩:=bR B (i+1) oM D;obtain⟨c2,f2⟩:=bR B (i+2) oM F;obtain⟨c3,f3⟩:=bR B (i+3) oM G;obtain⟨c4,f4⟩:=bR B (i+4) oM O;have E:Hid (j[i]! = u):=J;have r:Hid (j[i+1]! = s):=D;have l:Hid (j[i+2]! = q):=F;have f:Hid (j[i+3]! = p):=G;have c:Hid (j[i+4]! = m):=O;have Q0:=E;have Q1:=r;have Q2:=l;have Q3:=f;have Q4:=c;have b1:(i:Int)+1<25:=oM;have p1:0<=(i:Int)+1:=oM;have T:((i:Int)+1).toNat=i+1:=oM;have v1:Yh.wrap ((i:Int)+1)=(i:Int)+1:=Zl _ oM;have b2:(i:Int)+2<25:=oM;have p2:0<=(i:Int)+2:=oM;have W:((i:Int)+2).toNat=i+2:=oM;have v2:Yh.wrap ((i:Int)+2)=(i:Int)+2:=Zl _ oM;have b3:(i:Int)+3<25:=oM;have Z:0<=(i:Int)+3:=oM;have e3:((i:Int)+3).toNat=i+3:=oM;have v3:Yh.wrap ((i:Int)+3)=(i:Int)+3:=Zl _ oM;have b4:(i:Int)+4<25:=oM;have p4:0<=(i:Int)+4:=oM;have e4:((i:Int)+4).toNat=i+4:=oM;have v4:Yh.wrap ((i:Int)+4)=(i:Int)+4:=Zl _ oM;go_wp2_with fail
   go_quiet (fail);clear c1 c2 c3 c4 f1 f2 f3 f4 b1 p1 T v1 b2 p2 W v2 b3 Z e3 v3 b4 p4 e4 v4;go_wp2_with fail
   go_region
   go_wp2_with fail
   generalize z:yAK _ _ _=W0;have hc:(bX j i (~~~s &&& q)).size=25:=by rw[dN];omega
   have I:Holds enc W0 b off (bX j i (~~~s &&& q)):=by rw[<-z];exact Holds.xor (Holds.drewN B _) oM E.out _
   have h1:Only b off 25 w W0:=by rw[<-z];exact(hO.drewN _).setCell (o:=off+i) oM oM _
   generalize n:bX j i (~~~s &&& q)=t at *;have h4:Hid (bX j i (~~~s &&& q)=t):=n;have r:Hid (t[i+1]! = s):=by show _=_;rw[<-n,bZ _ _ _ _ oM];exact r.out
   have l:Hid (t[i+2]! = q):=by show _=_;rw[<-n,bZ _ _ _ _ oM];exact l.out
   have f:Hid (t[i+3]! = p):=by show _=_;rw[<-n,bZ _ _ _ _ oM];exact f.out
   have c:Hid (t[i+4]! = m):=by show _=_;rw[<-n,bZ _ _ _ _ oM];exact c.out
   obtain⟨c1,f1⟩:=bR I (i+1) oM r.out;clear n z c0 f0;have b1:(i:Int)+1<25:=oM;have p1:0<=(i:Int)+1:=oM;have T:((i:Int)+1).toNat=i+1:=oM;have v1:Yh.wrap ((i:Int)+1)=(i:Int)+1:=Zl _ oM;go_region
   go_wp2_with fail
   generalize H:yAK _ _ _=W1;have ha:(bX t (i+1) (~~~q &&& p)).size=25:=by rw[dN];omega
   have Q:Holds enc W1 b off (bX t (i+1) (~~~q &&& p)):=by rw[<-H];exact Holds.xor I oM r.out _
   have h2:Only b off 25 w W1:=by rw[<-H];exact(h1).setCell (o:=off+(i+1)) oM oM _
   generalize v:bX t (i+1) (~~~q &&& p)=y at *;have h6:Hid (bX t (i+1) (~~~q &&& p)=y):=v;have l:Hid (y[i+2]! = q):=by show _=_;rw[<-v,bZ _ _ _ _ oM];exact l.out
   have f:Hid (y[i+3]! = p):=by show _=_;rw[<-v,bZ _ _ _ _ oM];exact f.out
   have c:Hid (y[i+4]! = m):=by show _=_;rw[<-v,bZ _ _ _ _ oM];exact c.out
   obtain⟨c2,f2⟩:=bR Q (i+2) oM l.out;clear b1 p1 T v1;have b2:(i:Int)+2<25:=oM;have p2:0<=(i:Int)+2:=oM;have W:((i:Int)+2).toNat=i+2:=oM;have v2:Yh.wrap ((i:Int)+2)=(i:Int)+2:=Zl _ oM;go_region
   go_wp2_with fail
   generalize L:yAK _ _ _=W2;have h8:(bX y (i+2) (~~~p &&& m)).size=25:=by rw[dN];omega
   have P:Holds enc W2 b off (bX y (i+2) (~~~p &&& m)):=by rw[<-L];exact Holds.xor Q oM l.out _
   have h0:Only b off 25 w W2:=by rw[<-L];exact(h2).setCell (o:=off+(i+2)) oM oM _
   generalize a:bX y (i+2) (~~~p &&& m)=A at *;have S:Hid (bX y (i+2) (~~~p &&& m)=A):=a;have f:Hid (A[i+3]! = p):=by show _=_;rw[<-a,bZ _ _ _ _ oM];exact f.out
   have c:Hid (A[i+4]! = m):=by show _=_;rw[<-a,bZ _ _ _ _ oM];exact c.out
   obtain⟨c3,f3⟩:=bR P (i+3) oM f.out;clear b2 p2 W v2;have b3:(i:Int)+3<25:=oM;have Z:0<=(i:Int)+3:=oM;have e3:((i:Int)+3).toNat=i+3:=oM;have v3:Yh.wrap ((i:Int)+3)=(i:Int)+3:=Zl _ oM;go_region
   go_wp2_with fail
   generalize K:yAK _ _ _=W3;have h9:(bX A (i+3) (~~~m &&& u)).size=25:=by rw[dN];omega
   have N:Holds enc W3 b off (bX A (i+3) (~~~m &&& u)):=by rw[<-K];exact Holds.xor P oM f.out _
   have Y:Only b off 25 w W3:=by rw[<-K];exact(h0).setCell (o:=off+(i+3)) oM oM _
   generalize M:bX A (i+3) (~~~m &&& u)=C at *;have h5:Hid (bX A (i+3) (~~~m &&& u)=C):=M;have c:Hid (C[i+4]! = m):=by show _=_;rw[<-M,bZ _ _ _ _ oM];exact c.out
   obtain⟨c4,f4⟩:=bR N (i+4) oM c.out;clear b3 Z e3 v3;have b4:(i:Int)+4<25:=oM;have p4:0<=(i:Int)+4:=oM;have e4:((i:Int)+4).toNat=i+4:=oM;have v4:Yh.wrap ((i:Int)+4)=(i:Int)+4:=Zl _ oM;go_region
   go_wp2;generalize R:yAK _ _ _=W4;have hb:(bX C (i+4) (~~~u &&& s)).size=25:=by rw[dN];omega
   have h7:Holds enc W4 b off (bX C (i+4) (~~~u &&& s)):=by rw[<-R];exact Holds.xor N oM c.out _
   have V:Only b off 25 w W4:=by rw[<-R];exact(Y).setCell (o:=off+(i+4)) oM oM _
   generalize U:bX C (i+4) (~~~u &&& s)=d4 at *;have h3:Hid (bX C (i+4) (~~~u &&& s)=d4):=U;go_roundg (gk-1)
   case measure=>omega
   case rel =>
    refine⟨k+1,d4,oM,?_,?_,?_,?_⟩
    ·rw[<-Hi.out];go_num
    ·exact h7
    ·exact V.drewN 4
    ·show d4=rowAt (zD d k) (5*k);rw[<-X.out,Hi.out];unfold rowAt;rw[Q0.out,Q1.out,Q2.out,Q3.out,Q4.out,h4.out,h6.out,S.out,h5.out,h3.out]
  ·have c:k=5:=oM;subst c;go_wp2
   go_end0
   refine⟨rfl,hO,?_⟩;show Holds enc _ b off (zD d 5);rw[<-X.out];exact B
end SP
namespace SP
attribute [local go_sem] dA dW eC qH
theorem Ii(j:Nat)(k:j<7):∃p:Nat,wrap64 (wrap64 ((2:Int)^j)-1)=(p:Int)/\p<=63/\Hid (2^j-1=p):=by
 have H:∀j:Fin 7,wrap64 (wrap64 ((2:Int)^j.val)-1)=((2^j.val-1:Nat):Int)/\2^j.val-1<=63:=dK;exact⟨_,(H ⟨j,k⟩).1,(H ⟨j,k⟩).2,rfl⟩
theorem rF(r:Nat)(w:Xs)(n:r<256):
 XH prog 213 #[iZ r] w λe w'=>e=.returned (.tuple #[uZ (u (rcC r)),iZ (rcN r:Int)])/\w'=w:=by
 go_enter func213,ntmps213;go_wp2
 go_loop [0,2,6] (λs0 s2 s6=>∃j:Nat,j<=7/\∃(c:BitVec 64) (q:Nat),s6=iZ j/\s2=uZ (u c)/\s0=iZ q/\q<256/\Hid (xU r j=(c,q))) (λ_ _ s6=>7-(intOf s6).toNat)
 case atStart=>exact⟨0,dC,0,r,rfl,rfl,rfl,n,rfl⟩
 case round =>
  obtain⟨j,t,c,q,rfl,rfl,rfl,f,i⟩:=hrel;by_cases g:j<7
  ·have s:=Ri q f;have a2:=Rh q f;obtain⟨p,x,y,o⟩:=Ii j g;have l:Hid (xU r (j+1)=(c ||| yAU 64 (q%2) <<< p,xW q)):=by
    show((xU r j).1 ||| yAU 64 ((xU r j).2%2) <<< (2^j-1),xW (xU r j).2)=_;rw[i.out,o.out]
   have v:=JF (yAU 64 (q%2)) p;have b:=Cu q f;by_cases k:255<2*q
   ·have d:Hid (xW q=2*q ^^^ 369):=yES k;rw[d.out]at b;generalize 2*q ^^^ 369=m at *;go_wp2
    go_round
    case rel=>exact⟨j+1,oM,_,m,by go_num,rfl,rfl,b,by rw[l.out,d.out];rfl⟩
    case measure=>simp[intOf];omega
   ·have d:Hid (xW q=2*q):=yET k;go_wp2
    go_round
    case rel=>exact⟨j+1,oM,_,2*q,by go_num,rfl,by go_num,oM,by rw[l.out,d.out];rfl⟩
    case measure=>simp[intOf];omega
  ·have k:j=7:=oM;subst k;go_wp2
   go_ret2
   unfold rcC rcN;rw[i.out];exact⟨rfl,rfl⟩
theorem uR(b off:Nat)(d:St)(w:Xs)(hd:d.size=25)(a:Holds enc w b off d):
 XH prog 192 #[oZ b off] w λe w'=>e=.returned (.tuple #[])/\Only b off 25 w w'/\Holds enc w' b off (perm d):=by
 go_enter func192,ntmps192;go_wp2;go_loopg [2,3,4] 24 (λg sc E G wr=>∃(k:Nat) (c:BitVec 64) (f:St),k+g=24/\G=iZ k/\sc=uZ (u c)/\E=iZ (Cv k:Nat)/\Holds enc wr b off f/\Only b off 25 w wr/\Hid (f=tN d k))
 case atStart=>exact⟨0,0,d,rfl,rfl,rfl,rfl,a,Only.refl _ _ _ _,rfl⟩
 case round =>
  obtain⟨k,c,f,N,rfl,rfl,rfl,z,y,q⟩:=hrel;have l:f.size=25:=by rw[q.out,uS d hd]
  by_cases A:k<24
  ·have H:(k:Int)<24:=oM;go_wp2_with fail
   refine(yI b off f _ l z).mono ?_;rintro e M ⟨rfl,v,t⟩;go_wp2_with fail
   refine(vN b off _ _ (by rw[mI,l]) t).mono ?_;rintro e K ⟨rfl,n,s⟩;go_wp2_with fail
   refine(CP b off _ _ (qQ _ (by rw[mI,l])) s).mono ?_;rintro e L ⟨rfl,m,j⟩;have D:Hid (Cv (k+1)=rcN (Cv k)):=rfl;have B:Hid (tN d (k+1)=yM (tN d k) (rcC (Cv k))):=rfl;have p:=NS k;generalize Cv k=r at *;go_wp2_with fail
   refine(rF r _ p).mono ?_;rintro e O ⟨rfl,rfl⟩;have C:(chi (Ap (xG f))).size=25:=by rw[De,qQ _ (by rw[mI,l])]
   obtain⟨x,hx⟩:∃x,(chi (Ap (xG f)))[0]! = x:=⟨_,rfl⟩
   obtain⟨J,I⟩:=bR j 0 oM hx;rw[yAi]at J I;have F:Hid ((chi (Ap (xG f)))[0]! = x):=hx;clear hx;go_wp2_with fail
   go_region
   go_wp2;go_roundg (gk-1)
   case measure=>omega
   case rel =>
    refine⟨k+1,rcC r,yM f (rcC r),oM,by go_num,rfl,by rw[D.out],?_,?_,?_⟩
    ·exact Holds.drew (Holds.xor (i:=0) j oM F.out (rcC r))
    ·exact((((y.trans v).trans n).trans m).setCell (o:=off) oM oM _).drew
    ·rw[B.out,q.out];rfl
  ·have j:k=24:=oM;subst j;go_wp2
   go_end0
   refine⟨rfl,y,?_⟩;unfold perm;rw[<-q.out];exact z
end SP
namespace SP
attribute [local go_sem] dA dW eC qH Fw
theorem G9{w:Xs}{b off:Nat}{d:Bs}(h:Holds encB w b off d)(i:Nat)(k:i<d.size){x:UInt8}(hx:d[i]! = x):
 w.cell? ⟨b,off+i,none⟩=some (.int .u8 (ub x))/\w.frozen? ⟨b,off+i,none⟩=false:=by
 rw[<-hx];exact h i k
theorem word_any(f i o len cap:Nat)(b:Bs)(w:Xs)(j:Holds encB w f i b)(s:8<=len)(ho:o+8<=b.size)(p:len<=4611686018427387904):
 XH prog 209 #[.slice (some ⟨f,i+o,none⟩) len cap] w λe w'=>e=.returned (uZ (u (wordOf b o)))/\w'=w:=by
 go_enter func209,ntmps209;go_wp2
 go_loop [3,5] (λs3 s5=>∃(k:Nat) (c:BitVec 64),k<=8/\s5=iZ k/\s3=uZ (u c)/\Hid (xB b o k=c)) (λ_ s5=>8-(intOf s5).toNat)
 case atStart=>exact⟨0,0,dC,rfl,rfl,rfl⟩
 case round =>
  obtain⟨k,c,t,rfl,rfl,g⟩:=hrel;by_cases l:k<8
  ·obtain⟨x,hx⟩:∃x,b[o+k]! = x:=⟨_,rfl⟩
   obtain⟨n,m⟩:=G9 j (o+k) oM hx;rw[<-Zu]at n;have d:Hid (xB b o (k+1)=c ||| wide x <<< (8*k)):=by
    show xB b o k ||| wide b[o+k]! <<< (8*k)=_
    rw[g.out,hx]
   clear hx m;have r:=JF (wide x) (8*k);have q:(k:Int)<(len:Int):=oM;go_wp2
   go_round
   case rel=>exact⟨k+1,_,oM,by go_num,rfl,d⟩
   case measure=>simp[intOf];omega
  ·have d:k=8:=oM;subst d;go_wp2;go_ret;unfold wordOf;rw[g.out];exact⟨rfl,rfl⟩
theorem Oq(b off f i len cap:Nat)(c:Bs)(d:St)(w:Xs)(hd:d.size=25)(u:Holds enc w b off d)(s:Holds encB w f i c)(B:c.size=len)(r:len<=200)(t:len<=cap)
 (j:f≠b\/i+len<=off\/off+25<=i) :
 XH prog 191 #[.pointer (some ⟨b,off,none⟩),.slice (some ⟨f,i,none⟩) len cap] w λe w'=>e=.returned (.tuple #[])/\Only b off 25 w w'/\Holds enc w' b off (lQ c d (len/8)):=by
 go_enter func191,ntmps191;go_wp2;go_loopg [8] (len/8) (λg s8 wr=>∃(k:Nat) (j:St),k+g=len/8/\s8=.int .i64 k/\Holds enc wr b off j/\Only b off 25 w wr/\Hid (j=lQ c d k))
 case atStart=>exact⟨0,d,oM,rfl,u,Only.refl _ _ _ _,rfl⟩
 case round =>
  obtain⟨k,j,G,rfl,p,n,q⟩:=hrel;have E:j.size=25:=by rw[q.out,mV,hd]
  by_cases a:k<len/8
  ·have l:Holds encB wr f i c:=by
    by_cases m:f=b
    ·subst m;exact Holds.same s n oM
    ·exact Holds.other s n m oM
   obtain⟨x,hx⟩:∃x,j[k]! = x:=⟨_,rfl⟩
   obtain⟨J,H⟩:=bR p k oM hx;have y:Hid (j[k]! = x):=hx;clear hx;have F:(k:Int)<25:=oM;have A:(0:Int)<=(k:Int)*8:=oM;have C:(k:Int)*8<=(len:Int):=oM;have I:((k:Int)*8).toNat=8*k:=oM;have s1:Yh.wrap ((k:Int)*8)=(k:Int)*8:=Zl _ oM;have lt:(k:Int)<(len:Int)/8:=oM;go_wp2_with fail
   have z:(cap=8*k)=False:=eq_false oM;have m:Hid (Holds encB wr.drew f i c):=Holds.drew l;have v:Hid (8*k+8<=c.size):=by show _<=_;omega
   clear l;go_region_with (go_at_call 209;refine(word_any f i (8*k) (len-8*k) (cap-8*k) c _ m.out oM v.out oM).mono ?_;rintro e D ⟨rfl,rfl⟩)
   all_goals
    go_wp2;go_roundg (gk-1)
    case measure=>omega
    case rel =>
     refine⟨k+1,bX j k (wordOf c (8*k)),oM,by go_num,?_,?_,?_⟩
     ·exact Holds.drew (Holds.xor p oM y.out _)
     ·exact(n.setCell (o:=off+k) oM oM _).drew
     ·rw[q.out];rfl
  ·have l:k=len/8:=oM;have lt:(len:Int)/8<=(k:Int):=oM;go_wp2
   go_end0
   refine⟨rfl,n,?_⟩;rw[<-l,<-q.out];exact p
theorem slice22:prog.underlying 23=some (.slice 5):=kR
theorem info5:(prog.info? 5).map (λi=>(i.zero,i.size,i.bytes))=some (some (.int .u8 0),1,1):=kR
attribute [local go_sem] PP
theorem uA(b off n:Nat)(d:St)(w:Xs)(hd:d.size=25)(q:Holds enc w b off d)(a:n<=200):
 XH prog 96 #[oZ b off,iZ n] w λe w'=>e=.returned (sZ w.heap.size n n)/\kZ w w'/\Holds encB w' w.heap.size 0 (front d n):=by
 have r:=Holds.lt q oM;have u:=run_make_row' (P:=prog) 23 5 (.int .u8 0) 1 slice22 info5 rfl .i64 .i64 n oM oM;go_enter func96,ntmps96;go_wp2;generalize c:(w.alloc _)=t;go_loopg [11] n (λg s11 wr=>∃(k:Nat) (f:Bs),k+g=n/\s11=iZ k/\Holds encB wr w.heap.size 0 f/\Only w.heap.size 0 n t wr/\Hid (f=iH d n k))
 case atStart =>
  refine⟨0,_,oM,rfl,?_,Only.refl _ _ _ _,rfl⟩;rw[<-c];exact Holds.made (enc:=encB) w 5 n 0
 case round =>
  obtain⟨k,f,B,rfl,j,l,m⟩:=hrel;have A:f.size=n:=by rw[m.out,mY]
  have s:Holds enc wr b off d:=Holds.other (by rw[<-c];exact Holds.below q ((XM _ _).alloc (Xx _) _) r) l oM oM;by_cases y:k<n
  ·obtain⟨x,hx⟩:∃x,d[k/8]! = x:=⟨_,rfl⟩
   obtain⟨D,C⟩:=bR s (k/8) oM hx;obtain⟨c1,p⟩:=j k oM;rw[XD]at c1 p;have v:Hid (byteOf d k=low (x >>> (8*(k%8)))):=by show low _=_;rw[hx]
   have z:=Pw x (8*(k%8));go_wp2;go_roundg (gk-1)
   case measure=>omega
   case rel =>
    refine⟨k+1,f.setIfInBounds k (low (x >>> (8*(k%8)))),oM,by go_num,?_,?_,?_⟩
    ·have:=Holds.set j (i:=k) oM (low (x >>> (8*(k%8))));rw[XD]at this;exact this
    ·exact l.setCell (o:=k) oM oM _
    ·show _=(iH d n k).setIfInBounds k (byteOf d k);rw[v.out,m.out]
  ·have p:k=n:=oM;go_wp2;go_ret;refine⟨rfl,?_,?_⟩
   ·rw[<-c]at l;exact l.fresh
   ·unfold front;rw[m.out,p]at j;exact j
end SP
namespace SP
structure Of where
 x:Nat
 y:Nat
 o:Array Nat
theorem zx(x:BitVec 64):0 ^^^ x=x:=BitVec.zero_xor
end SP
namespace SP
open Go.Sort
def wZ:St:=XL 25 0
theorem Hv(j:Nat)(h:j<25):wZ[j]! = 0:=by
 have k:j<(XL 25 (0:BitVec 64)).size:=by rw[XU];exact h
 unfold wZ;rw[getElem!_pos (XL 25 (0:BitVec 64)) j k,Zo]
end SP
namespace SP
def fill(i:Nat):UInt8:=XN (i%251) ^^^ 165
def lentTo(s:ByteArray):Nat->Bs
 | 0=>s.data++XL 160 0
 | k+1=>(lentTo s k).setIfInBounds (s.size+k) (fill (s.size+k))
def lent(s:ByteArray):Bs:=lentTo s 160
variable {w w1:Xs}{b o n:Nat}
theorem heap_setCells(b:Nat){k:Nat}(c:k≠b):∀(vs:List Xu) (p:Nat) (w:Xs),(w.setCells b p vs).heap[k]? = w.heap[k]?
 | [],_,_=>rfl
 | v :: r,p,w=>by rw[World.setCells,heap_setCells b c r (p+1) _,yB2 _ _ _ _ c]
theorem Only.setCells(h:Only b o n w w1)(vs:List Xu)(p:Nat)(f:o<=p)(e:p+vs.length<=o+n):Only b o n w (w1.setCells b p vs):=by
 have c:=below_setCells (B:=0) (b:=b) (Zh _) vs p w1 (XM 0 w1);exact h.trans ⟨c.os,c.tape,c.output,c.size,λk _ d=>heap_setCells b d vs p w1,
  λq g=>yCI b vs p w1 ⟨b,q,none⟩ (λ_ _=>by simp only;omega),λq=>yCU b vs p w1 _⟩
theorem Holds.setCells{d r:Bs}(h:Holds encB w b o d)(vs:List Xu)(p:Nat)(g:r.size=d.size)(m:p+vs.length<=d.size)
 (f:∀j (k:j<vs.length),vs[j]=encB r[p+j]!) (c:∀j,j<d.size->j<p\/p+vs.length<=j->r[j]! = d[j]!):Holds encB (w.setCells b (o+p) vs) b o r:=by
 intro j k;rw[g]at k;rw[yCU];refine⟨?_,(h j k).2⟩;by_cases e:j<p\/p+vs.length<=j
 ·rw[yCI b vs (o+p) w ⟨b,o+j,none⟩ (λ_ _=>by simp only;omega),c j k e];exact(h j k).1
 ·have c:j-p<vs.length:=oM;have:=World.cell?_setCells_in b vs (o+p) w (λi l=>by
   have:=(h (p+i) oM).1;rw[<-Zu]at this;rw[this];rfl) (j-p) c
  rw[show o+p+(j-p)=o+j by omega]at this;rw[this,f (j-p) c,show p+(j-p)=j by omega]
theorem app_front(a r:Bs)(j:Nat)(k:j<a.size):(a++r)[j]! = a[j]:=by
 have h:j<(a++r).size:=by rw[Yg];omega
 rw[getElem!_pos (a++r) j h,yBq k]
theorem app_back(a r:Bs)(j:Nat)(k:a.size<=j)(c:j<a.size+r.size):(a++r)[j]! = r[j-a.size]!:=by
 have h:j<(a++r).size:=by rw[Yg];omega
 have b:j-a.size<r.size:=oM;rw[getElem!_pos (a++r) j h,yCB k,getElem!_pos r (j-a.size) b]
theorem rep_at(n j:Nat)(h:j<n):(XL n (0:UInt8))[j]! = 0:=by
 have k:j<(XL n (0:UInt8)).size:=by rw[XU];exact h
 rw[getElem!_pos (XL n (0:UInt8)) j k,Zo]
theorem size_of5(P:Program)(e:Yd)(h:(P.info? e).map (·.size)=some 1):∀w,(yCN e).run P w=.ok 1 w:=by
 intro w;cases k:P.info? e with
 | none=>simp[k]at h
 | some i =>
  simp[k]at h;simp[yCN,typeInfo,k,h]
theorem conv_str(P:Program)(src k e:Yd)(q:P.underlying src=some (.slice e))(r:P.underlying e=some (.int .u8))(hd:P.underlying k=some .string)
 (w:Xs) (b o n cap:Nat) (c:Bs) (i:Holds encB w b o c) (p:c.size=n):(convert src k (.slice (some ⟨b,o,none⟩) n cap)).run P w=.ok (.string ⟨c⟩) w:=by
 have h:=run_convert_bytes_back (P:=P) w src k e ⟨b,o,none⟩ cap c.toList q r hd (λj m=>by
  have d:j<c.size:=by simpa using m
  have f:=(i j d).1;rw[getElem!_pos c j d]at f;have l:(⟨b,o,none⟩:YW).add j=⟨b,o+j,none⟩:=by
   unfold yB3;by_cases g:j=0
   ·subst g;rfl
   ·rw[yET g]
  rw[l,f];simp[encB,ub])
 simpa[p]using h
end SP
namespace SP
theorem int5:prog.underlying 5=some (.int .u8):=kR
theorem str9:prog.underlying 9=some .string:=kR
theorem size5:∀w,(yCN 5).run prog w=.ok 1 w:=size_of5 prog 5 kR
end SP
namespace SP
open Go.Sort
theorem low_bit(v:BitVec 64)(i:Nat)(h:i<8):(low v).toNat.testBit i=v.getLsbD i:=by
 unfold low;rw[yBi,Nat.testBit_mod_two_pow,BitVec.getLsbD];simp[h]
theorem EI(d:St)(n k j:Nat)(e:k<=n)(b:j<n):(iH d n k)[j]! = if j<k then byteOf d j else 0:=by
 induction k with
 | zero =>
  have c:j<(XL n (0:UInt8)).size:=by rw[XU];exact b
  rw[iH,getElem!_pos (XL n (0:UInt8)) j c,Zo,yET oM]
 | succ k ih =>
  rw[iH];by_cases h:j=k
  ·subst h;rw[getElem!_set_same _ _ _ (by rw[mY];exact b),yES oM]
  ·rw[getElem!_set_other _ _ _ _ h,ih oM];by_cases c:j<k
   ·rw[yES c,yES oM]
   ·rw[yET c,yET oM]
theorem Lt(d:St)(n j:Nat)(k:j<n):(front d n)[j]! = byteOf d j:=by
 unfold front;rw[EI d n n j (Xx _) k,yES k]
/-! ### The sponge, byte by byte -/
structure Sp where
  d : St
  p : Bs
  h : Nat
structure Ok(S:Sp):Prop where
 d25:S.d.size=25
 p136:S.p.size=136
 hlt:S.h<136
def kD(S:Sp):Sp:={ d:=perm (lQ S.p S.d 17),p:=S.p,h:=0 }
def Ee(S:Sp)(x:UInt8):Sp:=
 if S.h+1=136 then kD { d:=S.d,p:=S.p.setIfInBounds S.h x,h:=S.h } else { d:=S.d,p:=S.p.setIfInBounds S.h x,h:=S.h+1 }
def gQ(S:Sp)(l:List UInt8):Sp:=l.foldl Ee S
def splice(p:Bs):Nat->List UInt8->Bs
 | _,[]=>p
 | i,x :: r=>splice (p.setIfInBounds i x) (i+1) r
theorem mJ(S:Sp)(a b:List UInt8):gQ S (a++b)=gQ (gQ S a) b:=List.foldl_append
theorem dJ(p:Bs)(i:Nat)(l:List UInt8):(splice p i l).size=p.size:=by
 induction l generalizing p i with
 | nil=>rfl
 | cons x r ih=>rw[splice,ih,YJ]
theorem lD(p:Bs)(i:Nat)(l:List UInt8)(j:Nat)(c:i+l.length<=p.size)(k:j<p.size):(splice p i l)[j]! = if i<=j/\j<i+l.length then l[j-i]! else p[j]!:=by
 induction l generalizing p i with
 | nil=>simp[splice];omega
 | cons x r ih =>
  simp only[Yq]at c;rw[splice,ih _ _ (by rw[YJ];omega) (by rw[YJ];exact k)];by_cases h:j=i
  ·subst h;rw[yET oM,getElem!_set_same _ _ _ k,yES (by simp),yA8];rfl
  ·rw[getElem!_set_other _ _ _ _ h];by_cases b:i+1<=j/\j<i+1+r.length
   ·rw[yES b,yES (by simp;omega),show j-i=(j-(i+1))+1 by omega];rfl
   ·rw[yET b,yET (by simp;omega)]
theorem oS(d:St)(p:Bs)(h:Nat):kD ⟨d,p,h⟩=⟨perm (lQ p d 17),p,0⟩:=by unfold kD;rfl
theorem Ny(S:Sp):(kD S).d=perm (lQ S.p S.d 17):=by
 obtain⟨d,p,h⟩:=S;rw[oS]
theorem Nv(S:Sp):(kD S).p=S.p:=by
 obtain⟨d,p,h⟩:=S;rw[oS]
theorem Nx(S:Sp):(kD S).h=0:=by
 obtain⟨d,p,h⟩:=S;rw[oS]
theorem Nu{S:Sp}(b:S.d.size=25)(k:S.p.size=136):Ok (kD S):=by
 have hd:(lQ S.p S.d 17).size=25:=by rw[mV,b]
 refine⟨?_,by rw[Nv,k],?_⟩
 ·rw[Ny];exact tK _ hd
 ·rw[Nx];decide
theorem NU{S:Sp}(h:Ok S)(x:UInt8):Ok (Ee S x):=by
 have:=h.hlt;unfold Ee;by_cases e:S.h+1=136
 ·rw[yES e];exact Nu h.d25 (by show(S.p.setIfInBounds _ _).size=136;rw[YJ];exact h.p136)
 ·rw[yET e];exact⟨h.d25,by show(S.p.setIfInBounds _ _).size=136;rw[YJ];exact h.p136,by show S.h+1<136;omega⟩
theorem jL{S:Sp}(h:Ok S)(l:List UInt8):Ok (gQ S l):=by
 induction l generalizing S with
 | nil=>exact h
 | cons x r ih=>exact ih (NU h x)
theorem uN(S:Sp)(l:List UInt8)(c:l≠[])(k:S.h+l.length<=136):
 gQ S l=if S.h+l.length=136 then kD { d:=S.d,p:=splice S.p S.h l,h:=S.h } else { d:=S.d,p:=splice S.p S.h l,h:=S.h+l.length }:=by
 induction l generalizing S with
 | nil=>exact absurd rfl c
 | cons x r ih =>
  show gQ (Ee S x) r=_;simp only[Yq]at k⊢;cases r with
  | nil =>
   unfold Ee gQ splice;simp only[List.foldl_nil,List.length_nil];by_cases e:S.h+1=136
   ·rw[yES e,yES oM];rfl
   ·rw[yET e,yET oM];rfl
  | cons y r' =>
   have e:¬S.h+1=136:=by simp only[Yq]at k;omega
   have f:Ee S x = { d:=S.d,p:=S.p.setIfInBounds S.h x,h:=S.h+1 }:=by unfold Ee;rw[yET e]
   rw[f,ih _ (by simp) (by simp only[Yq]at k⊢;omega)];simp only[splice,Yq];by_cases b:S.h+(r'.length+1+1)=136
   ·rw[yES oM,yES b];rfl
   ·rw[yET oM,yET b,show S.h+1+(r'.length+1)=S.h+(r'.length+1+1) by omega]
/-! ### The end -/
def ended(p : Bs)(h : Nat)(e : UInt8): Bs:=
  let q:=(splice p h (YE (136-h) 0)).setIfInBounds h e
  q.setIfInBounds 135 (q[135]! ^^^ 128)
def uC(S:Sp)(e:UInt8):Sp:=kD { d:=S.d,p:=ended S.p S.h e,h:=S.h }
def kB(h:Nat)(e:UInt8):List UInt8:=
 (e :: YE (135-h) 0).set (135-h) ((e :: YE (135-h) 0)[135-h]! ^^^ 128)
theorem fZ(h:Nat)(e:UInt8)(hh:h<136):(kB h e).length=136-h:=by
 unfold kB;rw[List.length_set,Yq,ZO];omega
theorem SX(a b:Bs)(n:Nat)(e:a.size=n)(d:b.size=n)(h:∀j,j<n->a[j]! = b[j]!):a=b:=by
 apply Array.ext oM;intro i k c;have:=h i oM;rwa[getElem!_pos a i k,getElem!_pos b i c]at this
theorem Ru(h:Nat)(e:UInt8)(j:Nat)(b:j<136-h)(hh:h<136):(kB h e)[j]! = (if j=0 then e else 0) ^^^ (if j=135-h then 128 else 0):=by
 have f:∀j,j<136-h->(e :: YE (135-h) (0:UInt8))[j]! = if j=0 then e else 0:=by
  intro j b;cases j with
  | zero=>rfl
  | succ j =>
   have d:j+1<(e :: YE (135-h) (0:UInt8)).length:=by rw[Yq,ZO];omega
   rw[getElem!_pos (e :: YE (135-h) (0:UInt8)) (j+1) d];simp
 have k:=fZ h e hh;have d:j<(e :: YE (135-h) (0:UInt8)).length:=by rw[Yq,ZO];omega
 rw[getElem!_pos (kB h e) j (by rw[k];exact b)];unfold kB;rw[List.getElem_set];by_cases c:135-h=j
 ·rw[yES c,f (135-h) oM,c,yES (rfl:j=j)]
 ·rw[yET c,yET (show ¬j=135-h by omega)];have:=f j b;rw[getElem!_pos (e :: YE (135-h) (0:UInt8)) j d]at this;rw[this];simp
theorem EL(p:Bs)(h:Nat)(e:UInt8):(ended p h e).size=p.size:=by
 unfold ended;simp only[YJ,dJ]
theorem Cr(n j:Nat)(h:j<n):(YE n (0:UInt8))[j]! = 0:=by
 rw[getElem!_pos _ j (by simpa using h)];simp
theorem LJ(p:Bs)(h:Nat)(e:UInt8)(c:p.size=136)(hh:h<136):ended p h e=splice p h (kB h e):=by
 have i:(splice p h (YE (136-h) 0)).size=136:=by rw[dJ,c]
 refine SX _ _ 136 (by rw[EL,c]) (by rw[dJ,c]) (λj d=>?_);have f:∀j,j<136->((splice p h (YE (136-h) 0)).setIfInBounds h e)[j]! = if j<h then p[j]! else if j=h then e else 0:=by
  intro j d;by_cases k:j=h
  ·rw[k,getElem!_set_same _ _ _ oM,yET oM,yES rfl]
  ·rw[getElem!_set_other _ _ _ _ k,lD _ _ _ _ (by rw[ZO,c];omega) oM,ZO];by_cases b:j<h
   ·rw[yET oM,yES b]
   ·rw[yES oM,yET b,yET k,Cr _ _ oM]
 have hR:(splice p h (kB h e))[j]! = if j<h then p[j]! else(if j=h then e else 0) ^^^ (if j=135 then 128 else 0):=by
  rw[lD _ _ _ _ (by rw[fZ h e hh,c];omega) oM,fZ h e hh];by_cases b:j<h
  ·rw[yET (show ¬(h<=j/\j<h+(136-h)) by omega),yES b]
  ·rw[yES (show h<=j/\j<h+(136-h) by omega),yET b,Ru h e _ oM hh];have k:(j-h=0)=(j=h):=by apply propext;omega
   have g:(j-h=135-h)=(j=135):=by apply propext;omega
   simp only[k,g]
 have g:(ended p h e)[j]! = if j<h then p[j]! else(if j=h then e else 0) ^^^ (if j=135 then 128 else 0):=by
  unfold ended;by_cases k:j=135
  ·rw[k,getElem!_set_same _ _ _ (by rw[YJ,i];decide),f 135 dC,yET (show ¬135<h by omega),yET (show ¬135<h by omega),yES (rfl:135=135)]
  ·rw[getElem!_set_other _ _ _ _ k,f j d];by_cases b:j<h
   ·rw[yES b,yES b]
   ·rw[yET b,yET b,yET k];simp
 rw[g,hR]
theorem IA{S:Sp}(h:Ok S)(e:UInt8):uC S e=gQ S (kB S.h e):=by
 have:=h.hlt;have k:=fZ S.h e h.hlt;rw[uN S _ (by intro c;rw[c]at k;simp at k;omega) oM,yES oM];unfold uC;rw[LJ _ _ _ h.p136 h.hlt]
end SP
namespace SP
theorem Only.widen{b o n k c:Nat}{w w':Xs}(h:Only b o n w w')(d:k<=o)(e:o+n<=k+c):Only b k c w w':=
 ⟨h.os,h.tape,h.output,h.size,h.block,λq f=>h.cell q oM,h.froz⟩
structure HSp(w:Xs)(b:Nat)(S:Sp):Prop where
 d:Holds enc w b 0 S.d
 p:Holds encB w b 25 S.p
 h:w.cell? ⟨b,161,none⟩=some (iZ (S.h:Int))
 f:w.frozen? ⟨b,161,none⟩=false
theorem HSp.drew{w:Xs}{b:Nat}{S:Sp}(h:HSp w b S):HSp w.drew b S:=⟨h.d,h.p,h.h,h.f⟩
theorem HSp.lt{w:Xs}{b:Nat}{S:Sp}(h:HSp w b S):b<w.heap.size:=ZZ _ _ h.h
theorem HSp.below{w w':Xs}{b B:Nat}{S:Sp}(h:HSp w b S)(k:Below B w w')(c:b<B):HSp w' b S:=
 ⟨Holds.below h.d k c,Holds.below h.p k c,by rw[k.cell (p:=⟨b,161,none⟩) c];exact h.h,by rw[k.frozen (p:=⟨b,161,none⟩) c];exact h.f⟩
theorem xK(b:Nat)(S:Sp)(w:Xs)(c:S.d.size=25)(g:S.p.size=136)(q:HSp w b S):
 XH prog 152 #[.pointer (some ⟨b,0,none⟩)] w λe w'=>e=.returned (.tuple #[])/\Only b 0 162 w w'/\HSp w' b (kD S):=by
 obtain⟨d,p,h⟩:=S;dsimp only at c g;have B:Holds enc w b 0 d:=q.d;have A:Holds encB w b 25 p:=q.p;have a:=q.h;have hf:=q.f;dsimp only at a;rw[oS];clear q;have v:(perm (lQ p d 17)).size=25:=tK _ (by rw[mV,c]);generalize o:perm (lQ p d 17)=D at v⊢;have y:Hid (perm (lQ p d 17)=D):=o;clear o;go_enter func152,ntmps152;go_wp2;go_still_tail 7,mixed;go_wp2_with fail
 refine(Oq b 0 b 25 136 136 p d _ c (Holds.drew B) (Holds.drew A) g dC (Xx _) oM).mono ?_;rintro e s ⟨rfl,n,m⟩;have k:Only b 0 25 w s:=((Only.refl b 0 25 w).drew).trans n;have r:Holds enc s b 0 (lQ p d 17):=m;have z:=Holds.same A k oM;have c1:s.cell? ⟨b,161,none⟩=some (.int .i64 h):=by rw[k.cell 161 oM];exact a
 have C:s.frozen? ⟨b,161,none⟩=false:=by rw[k.froz];exact hf
 clear n m;go_wp2_with fail
 refine(uR b 0 _ _ (by rw[mV,c]) r).mono ?_;rintro e j ⟨rfl,f,l⟩;rw[y.out]at l;have u:=Holds.same z f oM;have c2:j.cell? ⟨b,161,none⟩=some (.int .i64 h):=by rw[f.cell 161 oM];exact c1
 have f2:j.frozen? ⟨b,161,none⟩=false:=by rw[f.froz];exact C
 go_wp2
 go_end0
 have i:Only b 161 1 j (j.setCell ⟨b,161,none⟩ (.int .i64 0)):=(Only.refl b 161 1 j).setCell oM oM _;have t:=Holds.same l i (X9 oM);have x:=Holds.same u i (X9 oM);exact⟨rfl,((k.trans f).widen (Xx _) oM).trans (i.widen oM oM),⟨t,x,Y1 _ _ _ c2,by rw[YN];exact f2⟩⟩
theorem ints5:(prog.info? 5).map (·.size)=some 1:=kR
theorem jC{w:Xs}{b o:Nat}{p:Bs}(h:Holds encB w b o p)(i:Nat)(l:List UInt8)(d:i+l.length<=p.size):Holds encB (w.setCells b (o+i) (l.map encB)) b o (splice p i l):=by
 refine Holds.setCells h _ i (dJ p i l) (by rw[XV];exact d) (λj c=>?_) (λj c k=>?_)
 ·rw[XV]at c;rw[lD p i l (i+j) d oM,yES oM,ZM,getElem!_pos l j c,Z9]
 ·rw[XV]at k;rw[lD p i l j d c,yET oM]
def piece(b:Bs)(k n:Nat):List UInt8:=(b.toList.drop k).take n
theorem rM(b:Bs)(k n:Nat)(h:k+n<=b.size):(piece b k n).length=n:=by
 unfold piece;rw[List.length_take,List.length_drop,XP];omega
theorem piece_at(b:Bs)(k n j:Nat)(h:k+n<=b.size)(c:j<n)(d:j<(piece b k n).length):(piece b k n)[j]=b[k+j]!:=by
 have e:(piece b k n)[j]? = some b[k+j]!:=by
  unfold piece;rw[List.getElem?_take_of_lt c,List.getElem?_drop,Yz,X4 oM,getElem!_pos b (k+j) oM]
 exact(XG.1 e).2
theorem DR(b:Bs)(k n:Nat):b.toList.take (k+n)=b.toList.take k++piece b k n:=List.take_add
theorem EQ{w:Xs}{b h f o len cap n:Nat}{p d:Bs}{k:Nat}(i:Holds encB w b 25 p)(a:p.size=136)(s:Holds encB w f o d)(hh:h<136)(z:k+len<=d.size)(g:Nat.min len (136-h)=n):
 (yAy #[23,23] 3 #[.slice (some ⟨b,25+h,none⟩) (136-h) (136-h),.slice (some ⟨f,o+k,none⟩) len cap]).run prog w=.ok (goInt n) (w.setCells b (25+h) ((piece d k n).map encB)):=by
 have y:n<=len:=by rw[<-g];exact yCK _ _
 have u:n<=136-h:=by rw[<-g];exact yCC _ _
 have c:((piece d k n).map encB).length=n:=by rw[XV,rM d k n oM]
 have:=run_copy_cells (P:=prog) w 23 23 3 5 b (25+h) (136-h) (136-h) ⟨f,o+k,none⟩ len cap ((piece d k n).map encB) slice22 ints5 (by rw[c,g])
  (λj v e=>by
   obtain⟨m,q⟩:=XG.1 e;rw[c]at m;have r:=(s (k+j) oM).1;rw[Z9,piece_at d k n j oM m]at q;have t:(⟨f,o+k,none⟩:YW).add j=⟨f,o+(k+j),none⟩:=by
    unfold yB3;by_cases l:j=0
    ·subst l;rw[yES rfl];rfl
    ·rw[yET l,Zu]
   rw[t,r,q])
  (λj e=>by
   rw[c]at e;have:=(i (h+j) oM).1;rw[<-Zu]at this;rw[this];rfl)
  (λj e=>by
   rw[c]at e;have:=(i (h+j) oM).2;rw[<-Zu]at this;exact this)
  (λv hv=>by
   obtain⟨x,_,rfl⟩:=Yw.1 hv;rfl)
 rw[c]at this;exact this
theorem rW{w:Xs}{b:Nat}{d:St}{p:Bs}{v:Xu}(l:Holds enc w b 0 d)(g:d.size=25)(j:Holds encB w b 25 p)(e:p.size=136)(i:w.cell? ⟨b,161,none⟩=some v)(hf:w.frozen? ⟨b,161,none⟩=false)(m:Nat):
 HSp (w.setCell ⟨b,161,none⟩ (iZ ((m:Nat):Int))) b ⟨d,p,m⟩:=by
 have f:Only b 161 1 w (w.setCell ⟨b,161,none⟩ (iZ ((m:Nat):Int))):=(Only.refl b 161 1 w).setCell oM oM _;have k:=Holds.same l f (X9 oM);have c:=Holds.same j f (X9 oM);exact⟨k,c,Y1 _ _ _ i,by rw[YN];exact hf⟩
theorem take_any(b:Nat)(S:Sp)(a:Option YW)(v z len cap:Nat)(d:Bs)(w:Xs)(P:Ok S)(hS:HSp w b S)(hl:d.size=len)(h3:len<=cap)(h2:len<=1099511627776)
 (c:len=0\/(a=some ⟨v,z,none⟩/\v≠b/\Holds encB w v z d)) :
 XH prog 151 #[.pointer (some ⟨b,0,none⟩),.slice a len cap] w λe w'=>e=.returned (.tuple #[])/\Only b 0 162 w w'/\HSp w' b (gQ S d.toList):=by
 go_enter func151,ntmps151;go_wp2;go_loopg [1] len (λg s1 wr=>∃(k:Nat) (U:Option YW) (j:Sp),k+g=len/\s1=.slice U (len-k) (cap-k)/\(k<len->U=some ⟨v,z+k,none⟩)/\HSp wr b j/\Only b 0 162 w wr/\Hid (j=gQ S (d.toList.take k)))
 case atStart =>
  refine⟨0,a,S,oM,rfl,λf=>?_,hS,Only.refl _ _ _ _,rfl⟩;rcases c with h|⟨h,_,_⟩
  ·omega
  ·exact h
 case round =>
  obtain⟨k,U,j,hk,rfl,W,p,X,R⟩:=hrel;by_cases h1:k<len
  ·have O:=W h1;subst O;obtain⟨_,Z,hB⟩:a=some ⟨v,z,none⟩/\v≠b/\Holds encB w v z d:=by
    rcases c with h|h
    ·omega
    ·exact h
   have I:=Holds.other hB X Z oM;have i:Ok j:=by rw[R.out];exact jL P _
   obtain⟨q,hh⟩:∃q,j.h=q:=⟨_,rfl⟩
   have r:=i.hlt;have D:=i.p136;rw[hh]at r;have hc:=p.h;have hf:=p.f;rw[hh]at hc;have Q:=p.p;obtain⟨n,J⟩:∃n,Nat.min (len-k) (136-q)=n:=⟨_,rfl⟩
   have l0:(0:Int)<((len-k:Nat):Int):=oM;have Y:(q:Int)<=136:=oM;have Hh:Hid (j.h=q):=hh;clear hh;have M:=eq_false oM;have h5:1<=n:=by rw[<-J];exact(Nat.le_min).2 ⟨oM,oM⟩
   have h6:n<=len-k:=by rw[<-J];exact yCK _ _
   have h4:n<=136-q:=by rw[<-J];exact yCC _ _
   have N:=EQ (w:=wr.drew) (cap:=cap-k) (k:=k) Q D I r oM J;have u:=rM d k n oM;have s:=jC (Holds.drew Q) q (piece d k n) oM;have y:Only b 0 162 w (wr.drew.setCells b (25+q) ((piece d k n).map encB)):=X.drew.setCells _ _ oM (by rw[XV];omega);have B:Only b 25 136 wr (wr.drew.setCells b (25+q) ((piece d k n).map encB)):=((Only.refl b 25 136 wr).drew).setCells _ _ oM (by rw[XV];omega);have t:=Holds.same p.d B (X9 (by rw[i.d25];omega));have c1:(wr.drew.setCells b (25+q) ((piece d k n).map encB)).cell? ⟨b,161,none⟩=some (.int .i64 q):=by rw[B.cell 161 oM];exact hc
   have G:(wr.drew.setCells b (25+q) ((piece d k n).map encB)).frozen? ⟨b,161,none⟩=false:=by rw[B.froz];exact hf
   have L:Hid (gQ S (d.toList.take (k+n))=gQ j (piece d k n)):=by
    show _=_;rw[DR,mJ,<-R.out]
   have f:Hid (gQ j (piece d k n)=if q+n=136 then kD ⟨j.d,splice j.p q (piece d k n),q⟩ else⟨j.d,splice j.p q (piece d k n),q+n⟩):=by
    show _=_;have:=uN j (piece d k n) (by intro e;rw[e]at u;simp at u;omega) (by rw[u,Hh.out];omega);rw[u,Hh.out]at this;exact this
   have l:(splice j.p q (piece d k n)).size=136:=by rw[dJ,D]
   have m:=i.d25;generalize T:wr.drew.setCells b (25+q) ((piece d k n).map encB)=W1 at N s y t c1 G;generalize splice j.p q (piece d k n)=F at s l f;generalize j.d=E at t m f;clear B T Q I i u p D J;have z1:(n:Int)<=((len-k:Nat):Int):=oM;by_cases A:cap-k=n
   ·have H:(cap-k=n)=True:=eq_true A;have K:Hid (cap-k=n):=A;clear A;by_cases c:q+n=136
    ·have V:((q:Int)+(n:Int) == 136)=true:=beq_iff_eq.2 oM;rw[yES c]at f;go_wp2_with fail
     go_still_tail 9,mixed;go_wp2_with fail
     refine(xK b ⟨E,F,q+n⟩ _ m l (rW t m s l c1 G (q+n))).mono ?_;rintro e w2 ⟨rfl,C,x⟩;go_wp2;go_roundg (gk-n)
     case measure=>omega
     case rel =>
      refine⟨k+n,some ⟨v,z+k,none⟩,kD ⟨E,F,q⟩,oM,by rw[yAT,yAT],λhx=>by have:=K.out;omega,?_,?_,?_⟩
      ·rw[oS]at x⊢;exact x
      ·exact(y.setCell (o:=161) oM oM _).trans C
      ·rw[L.out,f.out];rfl
    ·have V:=beq_eq_false_iff_ne.2 oM;rw[yET c]at f;go_wp2_with fail
     go_still_tail 9,mixed;go_wp2;go_roundg (gk-n)
     case measure=>omega
     case rel =>
      refine⟨k+n,some ⟨v,z+k,none⟩,⟨E,F,q+n⟩,oM,by rw[yAT,yAT],λhx=>by have:=K.out;omega,?_,?_,?_⟩
      ·exact rW t m s l c1 G (q+n)
      ·exact y.setCell (o:=161) oM oM _
      ·rw[L.out,f.out];rfl
   ·have H:=eq_false A;by_cases c:q+n=136
    ·have V:=beq_iff_eq.2 oM;rw[yES c]at f;go_wp2_with fail
     go_still_tail 9,mixed;go_wp2_with fail
     refine(xK b ⟨E,F,q+n⟩ _ m l (rW t m s l c1 G (q+n))).mono ?_;rintro e w2 ⟨rfl,C,x⟩;go_wp2;go_roundg (gk-n)
     case measure=>omega
     case rel =>
      refine⟨k+n,some ⟨v,z+k+n,none⟩,kD ⟨E,F,q⟩,oM,by rw[yAT,yAT],λ_=>by rw[Zu],?_,?_,?_⟩
      ·rw[oS]at x⊢;exact x
      ·exact(y.setCell (o:=161) oM oM _).trans C
      ·rw[L.out,f.out];rfl
    ·have V:=beq_eq_false_iff_ne.2 oM;rw[yET c]at f;go_wp2_with fail
     go_still_tail 9,mixed;go_wp2;go_roundg (gk-n)
     case measure=>omega
     case rel =>
      refine⟨k+n,some ⟨v,z+k+n,none⟩,⟨E,F,q+n⟩,oM,by rw[yAT,yAT],λ_=>by rw[Zu],?_,?_,?_⟩
      ·exact rW t m s l c1 G (q+n)
      ·exact y.setCell (o:=161) oM oM _
      ·rw[L.out,f.out];rfl
  ·have c:k=len:=oM;go_wp2
   go_end0
   refine⟨rfl,X,?_⟩;have O:d.toList.take k=d.toList:=yCX (by rw[XP];omega);rw[R.out,O]at p;exact p
theorem rR(x:UInt8):yAa 8 (x.toNat:Int)=x.toBitVec:=by
 apply yCW;rw[yC0,yBU];exact XX x.toNat_lt
theorem AQ(x y:UInt8):bits .xor .u8 (ub x) (ub y)=ub (x ^^^ y):=by
 show yAV.wrap ((yAa 8 (x.toNat:Int) ^^^ yAa 8 (y.toNat:Int)).toNat:Int)=_;rw[rR,rR,<-UInt8.toBitVec_xor];have h:((x ^^^ y).toNat:Int)<256:=by have:=(x ^^^ y).toNat_lt;omega
 have e:∀n:Int,yAV.wrap n=n%256:=λn=>by simp[yDU,yDV,yDu]
 rw[e];exact yDI (Int.natCast_nonneg _) h
theorem Ts(x:UInt8):bits .xor .u8 (ub x) 128=ub (x ^^^ 128):=AQ x 128
theorem Tr:∀w:Xs,(zeroValue 5).run prog w=.ok (.int .u8 0) w:=λ_=>kR
theorem Dd{w:Xs}{b q:Nat}{p:Bs}(k:Holds encB w b 25 p)(e:p.size=136)(f:q<136)(c:Yd):
 (Builtin.clear_ #[23] c #[.slice (some ⟨b,25+q,none⟩) (136-q) (136-q)]).run prog w=.ok (.tuple #[]) (w.setCells b (25+q) ((YE (136-q) (0:UInt8)).map encB)):=by
 have h:=Lib.run_clear_slice (P:=prog) w 23 5 c (.int .u8 0) slice22 Tr rfl rfl b (25+q) (136-q) (136-q) oM
  (λj d=>by
   have:=(k (q+j) oM).1;rw[<-Zu]at this;rw[this];rfl)
  (λj d=>by
   have:=(k (q+j) oM).2;rw[<-Zu]at this;exact this)
 rw[List.map_replicate];exact h
theorem GP(b:Nat)(S:Sp)(e:UInt8)(w:Xs)(l:Ok S)(a:HSp w b S):
 XH prog 95 #[.pointer (some ⟨b,0,none⟩),.int .u8 (ub e)] w λr w'=>r=.returned (.tuple #[])/\Only b 0 162 w w'/\HSp w' b (uC S e):=by
 obtain⟨d,p,q⟩:=S;have F:d.size=25:=l.d25;have n:p.size=136:=l.p136;have V:q<136:=l.hlt;have T:Holds enc w b 0 d:=a.d;have L:Holds encB w b 25 p:=a.p;have Q:w.cell? ⟨b,161,none⟩=some (.int .i64 q):=a.h;have hf:=a.f;have v:=Dd (Holds.drew L) n V 0;have u:Only b 25 136 w (w.drew.setCells b (25+q) ((YE (136-q) (0:UInt8)).map encB)):=((Only.refl b 25 136 w).drew).setCells _ _ oM (by rw[XV,ZO];omega);have j:=jC (Holds.drew L) q (YE (136-q) (0:UInt8)) (by rw[ZO];omega);have A:(splice p q (YE (136-q) 0)).size=136:=by rw[dJ,n]
 have z:Hid (uC ⟨d,p,q⟩ e=kD ⟨d,((splice p q (YE (136-q) 0)).setIfInBounds q e).setIfInBounds 135 (((splice p q (YE (136-q) 0)).setIfInBounds q e)[135]! ^^^ 128),q⟩):=by
  show _=_;unfold uC ended;rfl
 generalize w.drew.setCells b (25+q) ((YE (136-q) (0:UInt8)).map encB)=B at v u j;generalize splice p q (YE (136-q) 0)=U at j A z;have D:(136=q)=False:=eq_false oM;have H:(q:Int)<=136:=oM;have C:(q:Int)<136:=oM;have c1:B.cell? ⟨b,161,none⟩=some (.int .i64 q):=by rw[u.cell 161 oM];exact Q
 obtain⟨c2,f2⟩:=j q oM;obtain⟨k,c⟩:∃s,U.setIfInBounds q e=s:=⟨_,rfl⟩
 rw[c]at z;have N:k.size=136:=by rw[<-c,YJ,A]
 obtain⟨x,hx⟩:∃x,k[135]! = x:=⟨_,rfl⟩
 rw[hx]at z;have P:=Ts x;have t:=Holds.set j (i:=q) oM e;rw[c]at t;have y:Only b 25 136 w (B.setCell ⟨b,25+q,none⟩ (.int .u8 (ub e))):=u.setCell (o:=25+q) oM oM _;have g:Holds encB (B.setCell ⟨b,25+q,none⟩ (.int .u8 (ub e))) b 25 k:=t;have W:Hid (k[135]! = x):=hx;rw[z.out];clear a l L c hx t z;have J:(k.setIfInBounds 135 (x ^^^ 128)).size=136:=by rw[YJ,N]
 go_enter func95,ntmps95;go_wp2;go_still_tail 8,mixed;go_wp2_with fail
 go_region
 go_wp2_with fail
 generalize B.setCell ⟨b,25+q,none⟩ (.int .u8 (ub e))=K at g y⊢;obtain⟨Z,X⟩:=G9 g 135 oM W.out;clear c1 c2 f2 v j;go_region
 go_wp2_with fail
 have M:=Holds.set g (i:=135) oM (x ^^^ 128);have f:Only b 25 136 w (K.setCell ⟨b,160,none⟩ (.int .u8 (ub (x ^^^ 128)))):=y.setCell (o:=160) oM oM _;have m:Holds encB (K.setCell ⟨b,160,none⟩ (.int .u8 (ub (x ^^^ 128)))) b 25 (k.setIfInBounds 135 (x ^^^ 128)):=M;generalize K.setCell ⟨b,160,none⟩ (.int .u8 (ub (x ^^^ 128)))=R at m f⊢;have E:Holds enc R b 0 d:=Holds.same T f (X9 oM);have O:HSp R b ⟨d,k.setIfInBounds 135 (x ^^^ 128),q⟩:=⟨E,m,by rw[f.cell 161 oM];exact Q,by rw[f.froz];exact hf⟩
 refine(xK b ⟨d,k.setIfInBounds 135 (x ^^^ 128),q⟩ _ F J O.drew.drew).mono ?_;rintro r Y ⟨rfl,I,G⟩;go_wp2
 go_end0
 exact⟨rfl,(f.drew.drew.widen oM oM).trans I,G⟩
end SP
namespace SP
open Go.Sort
def iK(d:St):Nat->St
 | 0=>d
 | m+1=>perm (iK d m)
theorem dT(d:St)(hd:d.size=25)(m:Nat):(iK d m).size=25:=by
 induction m with
 | zero=>exact hd
 | succ m ih=>exact tK _ ih
def jM(d:St)(j:Nat):UInt8:=byteOf (iK d (j/136)) (j%136)
def mL(d:St)(n:Nat):Bs:=Array.ofFn (λi:Fin n=>jM d i.val)
theorem mK(d:St)(n:Nat):(mL d n).size=n:=by simp[mL]
theorem DW(d:St)(n j:Nat)(k:j<n):(mL d n)[j]! = jM d j:=by
 rw[getElem!_pos (mL d n) j (by rw[mK];exact k)];simp[mL]
def S0:Sp:=⟨wZ,XL 136 0,0⟩
theorem Ds:Ok S0:=⟨by simp[S0,wZ],by simp[S0],dC⟩
def zV(l:List UInt8)(e:UInt8):St:=(uC (gQ S0 l) e).d
theorem vK(l:List UInt8)(e:UInt8):(zV l e).size=25:=by
 unfold zV;have h:=jL Ds l;rw[IA h];exact(jL h _).d25
def Le(l:List UInt8):Bs:=front (zV l 6) 32
def lC(l:List UInt8)(n:Nat):Bs:=mL (zV l 31) n
end SP
namespace SP
theorem vJ{w:Xs}{g l cap r k n c:Nat}{cur f:Bs}(y:Holds encB w g 0 cur)(D:cur.size=cap)(z:Holds encB w r 0 f)(B:f.size=n)(p:k=n)(e:l+n<=cap)(s:Yd):
 (YA #[23,23] s #[sZ g l cap,sZ r k c]).run prog w=.ok (sZ g (l+n) cap) (w.setCells g l (f.toList.map encB)):=by
 subst p;obtain⟨i,A,_,d,_⟩:=info_parts info5;have b:(f.toList.map encB).length=k:=by rw[XV,XP,B]
 have o:Src prog i.size 23 (sZ r k c) k (f.toList.map encB) w:=by
  rw[d];refine Src.ofSlice w slice22 (aZ r) k c _ (by rw[b,Z5]) (λj v m=>?_) (λv hv=>?_)
  ·obtain⟨C,u⟩:=XG.1 m;rw[b]at C;have q:=(z j oM).1;rw[getElem!_pos f j oM]at q;rw[Z9,yAd]at u;have a:(⟨r,0,none⟩:YW).add j=⟨r,0+j,none⟩:=by
    unfold yB3;by_cases t:j=0
    ·subst t;rw[yES rfl]
    ·rw[yET t]
   rw[a,q,u]
  ·obtain⟨x,_,rfl⟩:=Yw.1 hv;rfl
 have h:=run_append_room_src (P:=prog) w 23 23 s 5 i slice22 A g 0 l cap (sZ r k c) k _ o e
  (λj m=>by
   rw[b]at m;rw[d,Z5,Zu,(y (l+j) oM).1];rfl)
  (λj m=>by
   rw[b]at m;rw[d,Z5,Zu];exact(y (l+j) oM).2)
 rw[d,Z5,XD]at h;exact h
theorem Only.with_new{b o n g m p:Nat}{w c d:Xs}(h:Only b o n w c)(k:Only g p m c d)(r:w.heap.size<=g)(s:b<w.heap.size):Only b o n w d:=by
 have t:=h.size;have e:=k.block b oM oM;exact⟨k.os.trans h.os,k.tape.trans h.tape,k.output.trans h.output,XB h.size k.size,
  λj f i=>(k.block j oM oM).trans (h.block j f i),
  λq l=>(XW (w:=c) (a:=⟨b,q,none⟩) e).trans (h.cell q l),λq=>(Y0 (w:=c) (a:=⟨b,q,none⟩) e).trans (h.froz q)⟩
theorem Ef(d:St)(m:Nat)(h:¬m=0):perm (iK d (m-1))=iK d m:=by
 obtain⟨k,rfl⟩:∃k,m=k+1:=⟨m-1,oM⟩
 rw[Nat.add_sub_cancel,iK]
theorem Ci(d:St)(m:Nat)(cur:Bs)(c:136*m+136<=cur.size)(h:∀j,j<136*m->cur[j]! = jM d j):∀j,j<136*(m+1)->(splice cur (136*m) (front (iK d m) 136).toList)[j]! = jM d j:=by
 intro j e;have k:(front (iK d m) 136).toList.length=136:=by rw[XP,dV]
 rw[lD _ _ _ _ (by rw[k];exact c) oM,k];by_cases b:j<136*m
 ·rw[yET oM,h j b]
 ·rw[yES oM,getElem!_pos _ (j-136*m) (by rw[k];omega),yAd,<-getElem!_pos (front (iK d m) 136) (j-136*m) (by rw[dV];omega),Lt _ _ _ oM];unfold jM;rw[show j/136=m by omega,show j%136=j-136*m by omega]
theorem Lm(b:Nat)(d:St)(n:Nat)(w:Xs)(f:d.size=25)(Z:Holds enc w b 0 d)(hn:n<=16384):
 XH prog 203 #[jZ b,iZ n] w λe w'=>e=.returned (sZ w.heap.size n n)/\Only b 0 25 w w'/\Holds encB w' w.heap.size 0 (mL d n):=by
 have K:=Holds.lt Z oM;obtain⟨i,hi,G,R,W⟩:=info_parts info5;obtain⟨r,N⟩:∃c,n+136=c:=⟨_,rfl⟩
 have h2:∀w:Xs,(yAb 23 (iZ 0) (iZ ((n:Int)+136))).run prog w=.ok (sZ w.heap.size 0 r) (w.alloc (.cells (madeCells #[.int .u8 0] r) 5)):=by
  intro w;have h:=run_make (P:=prog) w 23 5 i (.int .u8 0) slice22 hi G .i64 .i64 0 ((n:Int)+136) oM oM (by rw[W];omega) oM;rw[R,Z5,show((n:Int)+136).toNat=r by omega]at h;exact h
 have M:Holds encB (w.alloc (.cells (madeCells #[.int .u8 0] r) 5)) w.heap.size 0 (XL r 0):=Holds.made (enc:=encB) w 5 r 0;have V:Only b 0 25 w (w.alloc (.cells (madeCells #[.int .u8 0] r) 5)):=(Only.refl _ _ _ _).alloc K _;have Y:=Holds.below Z ((XM w.heap.size w).alloc (Xx _) (.cells (madeCells #[.int .u8 0] r) 5)) K;have X:w.heap.size<(w.alloc (.cells (madeCells #[.int .u8 0] r) 5)).heap.size:=by simp
 have O:=mk1 (N);go_enter func203,ntmps203;go_wp2;go_loopg [5] r (λg s5 wr=>∃(m l:Nat) (cur:Bs),Hid (l=136*m)/\l+g=r/\1<=g/\s5=sZ w.heap.size l r/\Holds encB wr w.heap.size 0 cur/\cur.size=r/\Holds enc wr b 0 (iK d (m-1))/\Only b 0 25 w wr/\w.heap.size<wr.heap.size/\Hid (∀j,j<136*m->cur[j]! = jM d j))
 case atStart=>exact⟨0,0,_,rfl,oM,by have:=O.out;omega,rfl,M,by rw[XU],Y,V,X,λj S=>oM⟩
 case round =>
  obtain⟨m,l,cur,C,hg,h4,rfl,L,z,a,Q,hs,HE⟩:=hrel;have T:=dT d f (m-1);by_cases h3:l<n
  ·have h0:(l:Int)<(n:Int):=oM;have HN:Hid (∀j,j<136*(m+1)->(splice cur l (front (iK d m) 136).toList)[j]! = jM d j):=by
    rw[C.out];exact Ci d m cur (by rw[<-C.out];omega) HE
   by_cases I:m=0
   ·have G:¬(0:Int)<(l:Int):=by have:=C.out;omega
    have s:Holds enc wr b 0 (iK d m):=by rw[I]at a⊢;exact a
    go_wp2_with fail
    refine(uA b 0 136 _ _ (dT d f m) s dC).mono ?_;rintro e E ⟨rfl,p,U⟩;have q:=Holds.below L p (Holds.lt L oM);have B:=Holds.below s p (Holds.lt s (by rw[dT d f];decide));have v:=vJ (l:=l) (k:=136) (n:=136) (c:=136) q z U (dV _ _) rfl oM 23;have t:=jC q l (front (iK d m) 136).toList (by rw[XP,dV];omega);rw[XD]at t;have A:=Q.trans (Only.of_below p rfl (Holds.lt s (by rw[dT d f];decide)));have o:Only w.heap.size 0 r E (E.setCells w.heap.size l ((front (iK d m) 136).toList.map encB)):=(Only.refl _ _ _ _).setCells _ _ oM (by rw[XV,XP,dV];omega);have y:=A.with_new o (Xx _) K;have u:=Holds.other B o oM (by rw[dT d f];decide);have x:=Xz (Holds.lt q oM) o.size;generalize E.setCells w.heap.size l ((front (iK d m) 136).toList.map encB)=F at v t y u x;have D:Hid _:=v;go_wp2_with (at_builtin;refine yAx _ rfl _ _ 23 23 rfl _ _ rfl rfl _ _ D.out ?_)
    go_roundg (gk-136)
    case measure=>omega
    case rel =>
     exact⟨m+1,l+136,_,by have:=C.out;show _=_;omega,oM,oM,rfl,t,by rw[dJ,z],u,y,x,HN⟩
   ·have h1:(0:Int)<(l:Int):=by have:=C.out;omega
    go_wp2_with fail
    refine(uR b 0 _ _ T a).mono ?_;rintro e w1 ⟨rfl,H,s⟩;rw[Ef d m I]at s;have J:=Holds.other L H oM oM;have F:=Q.trans H;go_wp2_with fail
    refine(uA b 0 136 _ _ (dT d f m) s dC).mono ?_;rintro e E ⟨rfl,p,U⟩;have q:=Holds.below J p (Holds.lt J oM);have B:=Holds.below s p (Holds.lt s (by rw[dT d f];decide));have v:=vJ (l:=l) (k:=136) (n:=136) (c:=136) q z U (dV _ _) rfl oM 23;have t:=jC q l (front (iK d m) 136).toList (by rw[XP,dV];omega);rw[XD]at t;have A:=F.trans (Only.of_below p rfl (Holds.lt s (by rw[dT d f];decide)));have o:Only w.heap.size 0 r E (E.setCells w.heap.size l ((front (iK d m) 136).toList.map encB)):=(Only.refl _ _ _ _).setCells _ _ oM (by rw[XV,XP,dV];omega);have y:=A.with_new o (Xx _) K;have u:=Holds.other B o oM (by rw[dT d f];decide);have x:=Xz (Holds.lt q oM) o.size;have D:Hid _:=v;go_wp2_with (at_builtin;refine yAx _ rfl _ _ 23 23 rfl _ _ rfl rfl _ _ D.out ?_)
    go_roundg (gk-136)
    case measure=>omega
    case rel =>
     exact⟨m+1,l+136,_,by have:=C.out;show _=_;omega,oM,oM,rfl,t,by rw[dJ,z],u,y,x,HN⟩
  ·have o:(n:Int)<=(l:Int):=oM;go_wp2;go_ret;refine⟨rfl,Q,λj S=>?_⟩;rw[mK]at S;have:=L j oM;rw[HE.out j (by have:=C.out;omega)]at this;rw[DW d n j S];exact this
def eY:Array Xu:=XL 25 (uZ 0)++XL 136 (.int .u8 0)++#[iZ 0]
theorem I8:∀w:Xs,(zeroValue 182).run prog w=.ok (.agg eY) w:=λ_=>kR
theorem Jy(j:Nat)(b:j<25):eY[j]? = some (uZ 0):=by
 have k:j<(XL 25 (uZ 0)).size:=by rw[XU];exact b
 unfold eY;rw[yDl,yAv k,X4 k,Zo]
theorem Jv(j:Nat)(b:j<136):eY[25+j]? = some (.int .u8 0):=by
 have k:j<(XL 136 (YQ .u8 0)).size:=by rw[XU];exact b
 unfold eY;rw[yDl,yBd (by rw[XU];omega),XU,ZM,yAv k,X4 k,Zo]
theorem Jw:eY[161]? = some (iZ 0):=by
 unfold eY;rw[yBd (by rw[Yg,XU,XU];decide),Yg,XU,XU];rfl
theorem GB(w:Xs)(t:Yd):HSp (w.alloc (.cells eY t)) w.heap.size S0:=by
 refine⟨λj b=>?_,λj b=>?_,?_,?_⟩
 ·have k:j<25:=by simpa[S0,wZ]using b
  rw[Yp,Zn,XD,Jy j k];refine⟨?_,rfl⟩;have e:S0.d[j]! = 0:=Hv j k;rw[e];rfl
 ·have k:j<136:=by simpa[S0]using b
  rw[Yp,Zn,Jv j k];refine⟨?_,rfl⟩;have e:S0.p[j]! = 0:=rep_at 136 j k;rw[e];rfl
 ·rw[Yp,Jw];rfl
 ·rw[Zn]
theorem zW(a:Option YW)(d m len cap n:Nat)(c:Bs)(w:Xs)(y:n<=16384)(v:c.size=len)(o:len<=cap)(f:len<=1099511627776)(i:len=0\/(a=some ⟨d,m,none⟩/\Holds encB w d m c)):
 XH prog 179 #[.slice a len cap,iZ n] w λe w'=>∃r,e=.returned (.tuple #[sZ r n n,iZ 0])/\w.heap.size<=r/\kZ w w'/\Holds encB w' r 0 (lC c.toList n):=by
 have j:=GB w 182;have b:kZ w (w.alloc (.cells eY 182)):=(XM _ _).alloc (Xx _) _;have u:w.heap.size<(w.alloc (.cells eY 182)).heap.size:=by simp
 have k:len=0\/(a=some ⟨d,m,none⟩/\d≠w.heap.size/\Holds encB (w.alloc (.cells eY 182)) d m c):=by
  by_cases p:len=0
  ·exact X9 p
  ·rcases i with h|⟨q,l⟩
   ·exact X9 h
   ·have g:=Holds.lt l oM;exact X0 ⟨q,oM,Holds.below l b g⟩
 have C:=I8;go_enter func179,ntmps179;go_wp2_with fail
 generalize w.alloc (.cells eY 182)=z at j b u k⊢;refine(take_any w.heap.size S0 a d m len cap c z Ds j v o f k).mono ?_;rintro e B ⟨rfl,l,s⟩;go_wp2_with fail
 refine(GP w.heap.size (gQ S0 c.toList) 31 B (jL Ds _) s).mono ?_;rintro e x ⟨rfl,g,p⟩;have t:=p.d;go_wp2_with fail
 refine(Lm w.heap.size _ n _ (vK _ _) t y).mono ?_;rintro e D ⟨rfl,q,A⟩;go_wp2
 go_ret2
 have s1:=l.size;have s2:=g.size;exact⟨x.heap.size,rfl,oM,(b.trans ((l.trans g).below oM (Xx _))).trans (q.below oM (Xx _)),A⟩
end SP
namespace SP
def Own(B:Nat)(w:Xs)(v:Xu)(T:List UInt8):Prop:=
 ∃g cap cur,v=sZ g T.length cap/\B<=g/\g<w.heap.size/\Y8 cur=cap/\T.length<=cap/\Holds encB w g 0 cur/\∀j,j<T.length->cur[j]! = T[j]!
theorem Holds.front{α:Type}[Inhabited α]{f:α->Xu}{w:Xs}{b o:Nat}{d e:Array α}(h:Holds f w b o d)(g:e.size<=d.size)(c:∀j,j<e.size->e[j]! = d[j]!):Holds f w b o e:=by
 intro j k;rw[c j k];exact h j oM
theorem CU(T:List UInt8)(j:Nat):T.toArray[j]! = T[j]!:=by
 by_cases h:j<T.length
 ·rw[getElem!_pos T.toArray j (by simpa using h),getElem!_pos T j h];simp
 ·rw[getElem!_neg T.toArray j (by simpa using h),getElem!_neg T j h]
variable {B:Nat}{w w1:Xs}{v:Xu}{T:List UInt8}
theorem Own.holds{g cap n:Nat}(h:Own B w (sZ g n cap) T):B<=g/\n=T.length/\T.length<=cap/\Holds encB w g 0 T.toArray:=by
 obtain⟨l,k,cur,hv,d,_,i,e,b,f⟩:=h;injection hv with e1 e2 e3
 injection e1 with e1
 injection e1 with e1 _ _
 subst e1 e3;exact⟨d,e2,e,Holds.front b (by simp;omega) (λj c=>by rw[CU];exact(f j (by simpa using c)).symm)⟩
theorem yZ(s:ByteArray)(i:B<=w.heap.size):
 ∃b w',(convert 9 23 (.string s)).run prog w=.ok b w'/\Own B w' b s.data.toList/\kZ w w'/\b=sZ w.heap.size s.size (grownCap w s.size 0 5):=by
 have h:=Lib.run_convert_string_bytes (P:=prog) w 9 23 5 s str9 slice22 int5;have f:s.size<=grownCap w s.size 0 5:=by
  unfold grownCap Question.cut;exact yBI _ _
 have l:s.data.size=s.size:=rfl;refine⟨_,_,h,⟨w.heap.size,grownCap w s.size 0 5,s.data++XL (grownCap w s.size 0 5-s.size) 0,?_,i,by rw[yCc];omega,?_,?_,?_,?_⟩,?_,rfl⟩
 ·rw[XP];rfl
 ·rw[Yg,XU];omega
 ·rw[XP];omega
 ·intro j b;rw[Yg,XU]at b;have e:=Lib.bytesWorld_at_new w 5 s;have d:(yAG w 5 s).size=grownCap w s.size 0 5:=by
   unfold yAG;rw[Yg,Array.size_map,XU];omega
  have g:(yAG w 5 s)=(s.data++XL (grownCap w s.size 0 5-s.size) 0).map encB:=by
   unfold yAG;rw[Array.map_append,yDb];rfl
  have c:j<(s.data++XL (grownCap w s.size 0 5-s.size) 0).size:=by rw[Yg,XU];exact b
  constructor
  ·unfold YO;rw[e];simp only[XD];rw[yET dC,g,yDj,X4 c,yA5,getElem!_pos _ j c]
  ·unfold World.frozen?;rw[e];simp only[XD,d];simp;omega
 ·intro j b;rw[XP]at b;rw[app_front _ _ j b,getElem!_pos s.data.toList j (by rw[XP];exact b),yAd]
 ·refine⟨?_,?_,?_,?_,λk b=>Lib.bytesWorld_at_old w 5 s k b⟩
  ·unfold yBv yBE;rw[yET dC];rfl
  ·unfold yBv yBE;rw[yET dC];rfl
  ·unfold yBv yBE;rw[yET dC];rfl
  ·rw[yCc];omega
theorem Holds.below'{α:Type}[Inhabited α]{f:α->Xu}{w e:Xs}{b o:Nat}{d:Array α}(h:Holds f w b o d)(k:kZ w e):Holds f e b o d:=by
 intro j g;have c:=Holds.lt h oM;exact Holds.below h k c j g
theorem EG(l:List UInt8):(Le l).size=32:=by rw[Le,dV]
end SP
namespace SP
def bH(n d:Nat):UInt8:=XN (n/d)
theorem fE(n d:Nat):(n:Int)/(d:Int)%256=ub (bH n d):=by
 have k:((n:Int)/(d:Int))=((n/d:Nat):Int):=by rw[yBK]
 rw[k];unfold ub bH;rw[yBi];omega
theorem rT(n:Nat):(n:Int)%256=ub (bH n 1):=by
 have:=fE n 1;rw[show((1:Nat):Int)=1 from rfl,Int.ediv_one]at this;exact this
def uB(l:List UInt8):List UInt8:=[bH l.length 16777216,bH l.length 65536,bH l.length 256,bH l.length 1]++l
theorem qT(w:Xs)(x y z t:UInt8):Holds encB (w.alloc (.cells #[.int .u8 (ub x),.int .u8 (ub y),.int .u8 (ub z),.int .u8 (ub t)] 5)) w.heap.size 0 #[x,y,z,t]:=by
 have h:=Holds.new (enc:=encB) w 5 #[x,y,z,t];have e:yEF encB #[x,y,z,t]=#[.int .u8 (ub x),.int .u8 (ub y),.int .u8 (ub z),.int .u8 (ub t)]:=by simp[encB]
 rw[e]at h;exact h
theorem qE(b:Nat)(S:Sp)(a:Option YW)(c g len cap:Nat)(f:Bs)(w:Xs)(m:Ok S)(E:HSp w b S)(A:f.size=len)(s:len<=cap)(j:len<=1099511627776)
 (i:len=0\/(a=some ⟨c,g,none⟩/\c≠b/\Holds encB w c g f)) :
 XH prog 94 #[jZ b,.slice a len cap] w λe w'=>e=.returned (.tuple #[])/\Only b 0 162 w w'/\HSp w' b (gQ S (uB f.toList)):=by
 have B:=E.lt;have b0:(len:Int)/16777216%256=ub (bH len 16777216):=fE len 16777216;have b1:(len:Int)/65536%256=ub (bH len 65536):=fE len 65536;have I:(len:Int)/256%256=ub (bH len 256):=fE len 256;have H:(len:Int)%256=ub (bH len 1):=rT len;have G:Hid (uB f.toList=(#[bH len 16777216,bH len 65536,bH len 256,bH len 1]:Bs).toList++f.toList):=by
  unfold uB;rw[XP,A];rfl
 have D:=qT w (bH len 16777216) (bH len 65536) (bH len 256) (bH len 1);generalize bH len 16777216=o at *;generalize bH len 65536=q at *;generalize bH len 256=t at *;generalize bH len 1=p at *;have d:kZ w (w.alloc (.cells #[.int .u8 (ub o),.int .u8 (ub q),.int .u8 (ub t),.int .u8 (ub p)] 5)):=(XM _ _).alloc (Xx _) _;have l:=E.below d B;have r:Only b 0 162 w (w.alloc (.cells #[.int .u8 (ub o),.int .u8 (ub q),.int .u8 (ub t),.int .u8 (ub p)] 5)):=Only.of_below d rfl B;have k:len=0\/(a=some ⟨c,g,none⟩/\c≠b/\Holds encB (w.alloc (.cells #[.int .u8 (ub o),.int .u8 (ub q),.int .u8 (ub t),.int .u8 (ub p)] 5)) c g f):=by
  by_cases y:len=0
  ·exact X9 y
  ·rcases i with h|⟨z,v,u⟩
   ·exact X9 h
   ·exact X0 ⟨z,v,Holds.below u d (Holds.lt u oM)⟩
 go_enter func94,ntmps94;go_wp2_with fail
 generalize w.alloc (.cells #[.int .u8 (ub o),.int .u8 (ub q),.int .u8 (ub t),.int .u8 (ub p)] 5)=F at D d l r k⊢;refine(take_any b S (some (aZ w.heap.size)) w.heap.size 0 4 4 #[o,q,t,p] F m l rfl (Xx _) dC (X0 ⟨rfl,oM,D⟩)).mono ?_;rintro e C ⟨rfl,n,x⟩;have i:len=0\/(a=some ⟨c,g,none⟩/\c≠b/\Holds encB C c g f):=by
  by_cases y:len=0
  ·exact X9 y
  ·rcases k with h|⟨z,v,u⟩
   ·exact X9 h
   ·exact X0 ⟨z,v,Holds.other u n v oM⟩
 go_wp2_with fail
 refine(take_any b _ a c g len cap f C (jL m _) x A s j i).mono ?_;rintro e y ⟨rfl,u,v⟩;go_wp2
 go_end0
 refine⟨rfl,(r.trans n).trans u,?_⟩;rw[G.out,mJ];exact v
def kO(k:List UInt8)(b:List (List UInt8)):List UInt8:=uB k++b.flatMap uB
def iU(k:List UInt8)(b:List (List UInt8)):Bs:=Le (kO k b)
theorem bV(k:List UInt8)(b:List (List UInt8)):(iU k b).size=32:=EG _
theorem BH(k:List UInt8)(b:List (List UInt8))(x:List UInt8):kO k (b++[x])=kO k b++uB x:=by
 unfold kO;rw[List.flatMap_append,<-List.append_assoc];simp
def PartOk(w:Xs)(v:Xu)(x:List UInt8):Prop:=
 ∃a b c cap k,v=.slice a (Y8 k) cap/\k.toList=x/\k.size<=cap/\k.size<=1099511627776/\(k.size=0\/(a=some ⟨b,c,none⟩/\Holds encB w b c k))
theorem PartOk.below{w c:Xs}{v:Xu}{x:List UInt8}(h:PartOk w v x)(k:kZ w c):PartOk c v x:=by
 obtain⟨a,e,l,cap,i,f,g,m,d,b⟩:=h;refine⟨a,e,l,cap,i,f,g,m,d,?_⟩;rcases b with b|⟨b,j⟩
 ·exact X9 b
 ·exact X0 ⟨b,Holds.below' j k⟩
def PartsOk(w:Xs)(d:Option YW)(k:List (List UInt8)):Prop:=
 k.length=0\/∃c b,d=some ⟨c,b,none⟩/\∀j,j<k.length->∃v,w.cell? ⟨c,b+j,none⟩=some v/\PartOk w v k[j]!
theorem PartsOk.below{w e:Xs}{f:Option YW}{g:List (List UInt8)}(h:PartsOk w f g)(k:kZ w e):PartsOk e f g:=by
 rcases h with h|⟨c,b,m,n⟩
 ·exact X9 h
 ·refine X0 ⟨c,b,m,λj l=>?_⟩;obtain⟨v,d,i⟩:=n j l;exact⟨v,by rw[k.cell (p:=⟨c,b+j,none⟩) (ZZ _ _ d)];exact d,i.below k⟩
theorem xH{α:Type}[Inhabited α](l:List α)(k:Nat)(h:k<l.length):l.take (k+1)=l.take k++[l[k]!]:=by
 rw[List.take_succ_eq_append_getElem h,getElem!_pos l k h]
theorem kQ(b:ByteArray)(pa:Option YW)(F:Nat)(c:List (List UInt8))(w:Xs)(ha:b.size<=1048576)(he:c.length<=1048576)(hP:PartsOk w pa c):
 XH prog 46 #[.string b,.slice pa c.length F] w λe w'=>∃r,e=.returned (sZ r 32 32)/\w.heap.size<=r/\kZ w w'/\Holds encB w' r 0 (iU b.data.toList c):=by
 have t:=GB w 182;have J:kZ w (w.alloc (.cells eY 182)):=(XM _ _).alloc (Xx _) _;have I:(w.alloc (.cells eY 182)).heap.size=w.heap.size+1:=by simp
 have zv:=I8;generalize Y:w.alloc (.cells eY 182)=W1 at t J I;obtain⟨v2,X,l,f,m,W⟩:=yZ (w:=W1) (B:=0) b (Zh _);rw[W]at l f;obtain⟨Z,D,A,h5⟩:=f.holds;rw[<-D]at A;clear Z D;have i:Holds encB X W1.heap.size 0 b.data:=by simpa using h5
 have h3:=t.below m t.lt;have h7:=m.size;obtain⟨n,hn⟩:∃n,c.length=n:=⟨_,rfl⟩
 rw[hn];have M:=mk1 (hn);rw[I]at l i;generalize hg:grownCap W1 b.size 0 5=c2 at *;have h8:(convert 9 23 (.string b)).run prog (w.alloc (.cells eY 182))=.ok (.slice (some ⟨w.heap.size+1,0,none⟩) b.size c2) X:=by rw[Y];exact l
 go_enter func46,ntmps46;go_wp2_with fail
 refine(qE w.heap.size S0 (some ⟨w.heap.size+1,0,none⟩) (w.heap.size+1) 0 b.size c2 b.data X Ds h3 rfl oM oM (X0 ⟨rfl,oM,i⟩)).mono ?_;rintro e w3 ⟨rfl,U,E⟩;have h4:=(J.trans (m.mono oM)).trans (U.below oM (Xx _));have hc:=E.lt;go_wp2;go_loopg [13] n (λg s13 wr=>∃(k:Nat) (q:Sp),k+g=n/\s13=iZ k/\HSp wr w.heap.size q/\kZ w wr/\Ok q/\Hid (q=gQ S0 (kO b.data.toList (c.take k))))
 case atStart =>
  refine⟨0,_,oM,rfl,E,h4,jL Ds _,?_⟩;rw[List.take_zero];unfold kO;rw[List.flatMap_nil,List.append_nil];rfl
 case round =>
  obtain⟨k,q,hk,rfl,H,s,o,R⟩:=hrel;by_cases hi:k<n
  ·obtain⟨C,K,rfl,G⟩:∃C K,pa=some ⟨C,K,none⟩/\∀j,j<c.length->∃v,w.cell? ⟨C,K+j,none⟩=some v/\PartOk w v c[j]!:=by
    rcases hP with h|h
    ·have:=M.out;omega
    ·exact h
   obtain⟨v,x,N⟩:=G k (by have:=M.out;omega);have h6:=ZZ _ _ x;have h9:wr.cell? ⟨C,K+k,none⟩=some v:=by rw[s.cell (p:=⟨C,K+k,none⟩) h6];exact x
   obtain⟨a,L,S,cap,y,rfl,z,P,Q,d⟩:=N;have u:y.size=0\/(a=some ⟨L,S,none⟩/\L≠w.heap.size/\Holds encB wr L S y):=by
    by_cases T:y.size=0
    ·exact X9 T
    ·rcases d with h|⟨V,O⟩
     ·exact X9 h
     ·have:=Holds.lt O oM;exact X0 ⟨V,oM,Holds.below O s this⟩
   have HB:Hid (y.toList=c[k]!):=z;have l1:(k:Int)<(n:Int):=oM;generalize T:y.size=bz at *;clear x d G z;go_wp2_with fail
   refine(qE w.heap.size q a L S bz cap y wr o H T P Q u).mono ?_;rintro e w4 ⟨rfl,O,V⟩;go_wp2;go_roundg (gk-1)
   case measure=>omega
   case rel =>
    refine⟨k+1,_,oM,by go_num,V,s.trans (O.below s.size (Xx _)),jL o _,?_⟩;rw[xH c k (by have:=M.out;omega),BH,mJ,<-R.out,HB.out];rfl
  ·have N:k=n:=oM;have C:Hid (q=gQ S0 (kO b.data.toList c)):=by
    have d:c.take k=c:=yCX (by have:=M.out;omega);rw[d]at R;exact R
   go_wp2_with fail
   refine(GP w.heap.size q 6 wr o H).mono ?_;rintro e G ⟨rfl,d,y⟩;have z:Holds enc G w.heap.size 0 (zV (kO b.data.toList c) 6):=by
    have:=y.d;rw[C.out]at this;exact this
   go_wp2_with fail
   refine(uA w.heap.size 0 32 _ _ (vK _ _) z dC).mono ?_;rintro e O ⟨rfl,u,x⟩;have K:=d.size;have L:=s.size;go_wp2;go_ret;exact⟨G.heap.size,rfl,oM,(s.trans (d.below s.size (Xx _))).trans (u.mono oM),x⟩
end SP
namespace SP
variable {B:Nat}{w w1:Xs}{v:Xu}{T:List UInt8}
set_option maxRecDepth 4000
end SP
namespace SP
theorem LQ{w:Xs}{b r:Nat}{L T:Bs}(e:Holds encB w b 0 L)(o:L.size=32)(n:Holds encB w r 0 T)(l:T.size=32):
 (yAy #[23,23] 3 #[sZ b 32 32,sZ r 32 32]).run prog w=.ok (goInt 32) (w.setCells b 0 (T.toList.map encB)):=by
 have k:(T.toList.map encB).length=32:=by rw[XV,XP,l]
 have:=run_copy_cells (P:=prog) w 23 23 3 5 b 0 32 32 (aZ r) 32 32 (T.toList.map encB) slice22 ints5 (by rw[k];rfl)
  (λj u c=>by
   obtain⟨m,g⟩:=XG.1 c;rw[k]at m;have d:=(n j oM).1;rw[getElem!_pos T j oM]at d;rw[Z9,yAd]at g;have i:(⟨r,0,none⟩:YW).add j=⟨r,0+j,none⟩:=by
    unfold yB3;by_cases f:j=0
    ·subst f;rw[yES rfl]
    ·rw[yET f]
   rw[i,d,g])
  (λj c=>by rw[(e j oM).1];rfl) (λj c=>(e j oM).2)
  (λu d=>by obtain⟨x,_,rfl⟩:=Yw.1 d;rfl)
 rw[k]at this;exact this
theorem BE{w:Xs}{b:Nat}{L T:Bs}(c:Holds encB w b 0 L)(i:L.size=32)(e:T.size=32):Holds encB (w.setCells b 0 (T.toList.map encB)) b 0 T:=by
 have k:(T.toList.map encB).length=32:=by rw[XV,XP,e]
 refine Holds.setCells c (T.toList.map encB) 0 oM oM (λj d=>?_) (λj f g=>oM);rw[k]at d;rw[Z9,yAd,XD,getElem!_pos T j oM]
theorem Fc{w c:Xs}{b:Nat}{L T:Bs}(g:Holds encB w b 0 L)(i:L.size=32)(d:T.size=32)(f:b<w.heap.size)(k:Below w.drew.heap.size w.drew c):
 Only b 0 32 w (c.setCells b 0 (T.toList.map encB))/\Holds encB (c.setCells b 0 (T.toList.map encB)) b 0 T:=by
 have e:(T.toList.map encB).length=32:=by rw[XV,XP,d]
 refine⟨?_,BE (Holds.below (Holds.drew g) k f) i d⟩;exact Only.setCells (((Only.refl b 0 32 w).drew).trans (Only.of_below k rfl f)) _ 0 (Xx _) oM
theorem qZ(b:Nat)(L:Bs)(k:ByteArray)(p:Option YW)(c n:Nat)(i:List (List UInt8))(w:Xs)(j:k.size<=1048576)(m:i.length=n)(v:n<=1048576)(x:PartsOk w p i)(l:Holds encB w b 0 L)(q:L.size=32):
 XH prog 186 #[.pointer (some ⟨b,0,none⟩),.string k,.slice p n c] w λe w'=>e=.returned (.tuple #[])/\Only b 0 32 w w'/\Holds encB w' b 0 (iU k.data.toList i):=by
 subst m;have r:=Holds.lt l oM;have s:=kQ k p c i w.drew j v (x.below ((XM _ _).drew));generalize z:iU k.data.toList i=T at s⊢;have g:T.size=32:=by rw[<-z,bV]
 have y:=mk1 (s);go_enter func186,ntmps186;go_wp2;go_region_with (go_at_call 46;refine Calls.mono y.out ?_;rintro e a ⟨A,rfl,t,f,o⟩;have u:=LQ (Holds.below (Holds.drew l) f r) q o g;have d:=Fc l q g r f)
 all_goals (try go_wp2)
 all_goals go_end0
 all_goals exact⟨rfl,d⟩
def encV(v:Xu):Xu:=v
theorem An(l:List UInt8)(n:Nat):(lC l n).size=n:=by rw[lC,mK]
def newL(k:List UInt8):Bs:=iU [108,111,103] [k]
def vT(L:Bs)(k b:List UInt8):Bs:=iU [115,97,121] [L.toList,k,b]
def Dn(L:Bs)(k:List UInt8)(n:Nat):Bs:=lC (iU [97,115,107] [L.toList,k]).toList n
def uK(L:Bs)(k:List UInt8):Bs:=iU [97,115,107,101,100] [L.toList,k]
theorem AD(l:List UInt8):(newL l).size=32:=bV _ _
theorem lE(L:Bs)(l t:List UInt8):(vT L l t).size=32:=bV _ _
theorem bD(L:Bs)(l:List UInt8):(uK L l).size=32:=bV _ _
theorem I2(L:Bs)(l:List UInt8)(n:Nat):(Dn L l n).size=n:=An _ _
theorem pQ(s:ByteArray)(w:Xs)(q:s.size<=1099511627776):
 ∃c w',(convert 9 23 (.string s)).run prog w=.ok (sZ w.heap.size s.size c) w'/\s.size<=c/\Holds encB w' w.heap.size 0 s.data/\PartOk w' (sZ w.heap.size s.size c) s.data.toList/\kZ w w'/\w.heap.size<w'.heap.size:=by
 obtain⟨v2,l,e,k,j,i⟩:=yZ (w:=w) (B:=0) s (Zh _);rw[i]at e k;have o:w.heap.size<l.heap.size:=by
  obtain⟨g,cap,cur,b,_,d,_⟩:=k;injection b with b
  injection b with b
  injection b with b
  omega
 obtain⟨p,m,b,n⟩:=k.holds;rw[<-m]at b;have d:Holds encB l w.heap.size 0 s.data:=by simpa using n
 have f:=b;exact⟨_,l,e,f,d,⟨_,w.heap.size,0,_,s.data,rfl,rfl,f,q,X0 ⟨rfl,d⟩⟩,j,o⟩
theorem pB(W:Xs)(vs:Array Xu)(k:List (List UInt8))(t:Yd)(d:vs.size=k.length)(h:∀j,j<k.length->PartOk W vs[j]! k[j]!):
 PartsOk (W.alloc (.cells vs t)) (some (aZ W.heap.size)) k:=by
 refine X0 ⟨W.heap.size,0,rfl,λj b=>⟨vs[j]!,?_,(h j b).below ((XM _ _).alloc (Xx _) _)⟩⟩;have c:vs.map encV=vs:=by
  have:encV=id:=rfl;rw[this,Array.map_id]
 have:=(Holds.new (enc:=encV) W t vs j oM).1;rw[c]at this;exact this
theorem rN{w:Xs}{b:Nat}{L:Bs}(k:Holds encB w b 0 L)(c:L.size=32):PartOk w (sZ b 32 32) L.toList:=
 ⟨_,b,0,32,L,by rw[c],rfl,oM,oM,X0 ⟨rfl,k⟩⟩
theorem MO:∀w:Xs,(zeroValue 272).run prog w=.ok (.agg (XL 32 (.int .u8 0))) w:=λ_=>kR
theorem Fu(k:ByteArray)(w:Xs)(v:k.size<=1048576):
 XH prog 205 #[.string k] w λe w'=>e=.returned (jZ w.heap.size)/\kZ w w'/\Holds encB w' w.heap.size 0 (newL k.data.toList):=by
 have a:=MO;have s:Holds encB (w.alloc (.cells (XL 32 (.int .u8 0)) 272)) w.heap.size 0 (XL 32 0):=by
  have:=Holds.new (enc:=encB) w 272 (XL 32 0);rw[yDb]at this;exact this
 have t:kZ w (w.alloc (.cells (XL 32 (.int .u8 0)) 272)):=(XM _ _).alloc (Xx _) _;have r:(w.alloc (.cells (XL 32 (.int .u8 0)) 272)).heap.size=w.heap.size+1:=by simp
 obtain⟨c,g,p,z,y,u,m,l⟩:=pQ k (w.alloc (.cells (XL 32 (.int .u8 0)) 272)) oM;have i:=Holds.below' s m;have n:=pB g #[.slice (some ⟨(w.alloc (.cells (XL 32 (.int .u8 0)) 272)).heap.size,0,none⟩) k.size c] [k.data.toList] 23 rfl (λj x=>by
  have b:j=0:=by simpa using x
  subst b;exact u)
 have d:kZ g (g.alloc (.cells #[.slice (some ⟨(w.alloc (.cells (XL 32 (.int .u8 0)) 272)).heap.size,0,none⟩) k.size c] 23)):=(XM _ _).alloc (Xx _) _;have b:=Holds.below' i d;rw[r]at p n d b l;have f:=(t.trans (m.mono oM)).trans (d.mono oM);go_enter func205,ntmps205;go_wp2_with fail
 refine(qZ w.heap.size (XL 32 0) ⟨#[108,111,103]⟩ (some (aZ g.heap.size)) 1 1 [k.data.toList] _ dC rfl dC n b (by simp)).mono ?_;rintro e A ⟨rfl,q,o⟩;go_wp2;go_ret;exact⟨rfl,f.trans (q.below f.size (Xx _)),o⟩
theorem B8(b:Nat)(L:Bs)(k:ByteArray)(l:Option YW)(n m:Nat)(d:List UInt8)(w:Xs)(a:k.size<=1048576)(z:Holds encB w b 0 L)(x:L.size=32)(E:PartOk w (.slice l n m) d):
 XH prog 134 #[jZ b,.string k,.slice l n m] w λe w'=>e=.returned (.tuple #[])/\Only b 0 32 w w'/\Holds encB w' b 0 (vT L k.data.toList d):=by
 have y:=Holds.lt z oM;obtain⟨c,g,B,F,D,v,f,A⟩:=pQ k w oM;have i:=Holds.below z f y;have s:=E.below f;have u:=pB g #[sZ b 32 32,sZ w.heap.size k.size c,.slice l n m] [L.toList,k.data.toList,d] 23 rfl (λj C=>by
  have o:j<3:=C;match j,o with
  | 0,_=>exact rN i x
  | 1,_=>exact v
  | 2,_=>exact s)
 have p:kZ g (g.alloc (.cells #[sZ b 32 32,sZ w.heap.size k.size c,.slice l n m] 23)):=(XM _ _).alloc (Xx _) _;have t:=Holds.below' i p;have q:Only b 0 32 w (g.alloc (.cells #[sZ b 32 32,sZ w.heap.size k.size c,.slice l n m] 23)):=(Only.of_below f rfl y).alloc oM _;go_enter func134,ntmps134;go_wp2_with fail
 refine(qZ b L ⟨#[115,97,121]⟩ (some (aZ g.heap.size)) 3 3 [L.toList,k.data.toList,d] _ dC rfl dC u t x).mono ?_;rintro e G ⟨rfl,r,o⟩;go_wp2
 go_end0
 exact⟨rfl,q.trans r,o⟩
theorem Pk(b:Nat)(L:Bs)(k:ByteArray)(n:Nat)(w:Xs)(Z:k.size<=1048576)(hn:n<=1024)(W:Holds encB w b 0 L)(I:L.size=32):
 XH prog 215 #[jZ b,.string k,iZ n] w λe w'=>∃r,e=.returned (.tuple #[sZ r n n,iZ 0])/\w.heap.size<=r/\Only b 0 32 w w'/\Holds encB w' b 0 (uK L k.data.toList)/\Holds encB w' r 0 (Dn L k.data.toList n):=by
 have N:=Holds.lt W oM;obtain⟨c,l,h5,hc,Q,D,A,h4⟩:=pQ k w oM;have f:=Holds.below W A N;have B:=pB l #[sZ b 32 32,sZ w.heap.size k.size c] [L.toList,k.data.toList] 23 rfl (λj s=>by
  have g:j<2:=s;match j,g with
  | 0,_=>exact rN f I
  | 1,_=>exact D)
 have p:kZ l (l.alloc (.cells #[sZ b 32 32,sZ w.heap.size k.size c] 23)):=(XM _ _).alloc (Xx _) _;have z:=Holds.below' f p;have q:Only b 0 32 w (l.alloc (.cells #[sZ b 32 32,sZ w.heap.size k.size c] 23)):=(Only.of_below A rfl N).alloc oM _;have d0:decide ((n:Int)<0)=false:=decide_eq_false oM;have d1:¬(1024:Int)<(n:Int):=oM;clear Q D p;go_enter func215,ntmps215;go_wp2_with fail
 refine(kQ ⟨#[97,115,107]⟩ (some (aZ l.heap.size)) 2 [L.toList,k.data.toList] _ dC (by show 2<=1048576;omega) B).mono ?_;rintro e w3 ⟨r3,rfl,h7,m,U⟩;have F:=Holds.below' z m;have x:=q.trans (Only.of_below m rfl (Xz N q.size));clear B z f;go_wp2_with fail
 refine(zW (some (aZ r3)) r3 0 32 32 n _ _ oM (bV _ _) oM oM (X0 ⟨rfl,U⟩)).mono ?_;rintro e C ⟨E,rfl,he,t,K⟩;have S:=Holds.below' F t;have h8:=x.size;have u:=x.trans (Only.of_below t rfl oM);have H:Holds encB C E 0 (Dn L k.data.toList n):=K;have h6:=u.size;obtain⟨J,i,Y,ha,h9,P,d,h0⟩:=pQ k C oM;have v:=Holds.below' S d;have T:=Holds.below' H d;have a:=pB i #[sZ b 32 32,sZ C.heap.size k.size J] [L.toList,k.data.toList] 23 rfl (λj s=>by
  have g:j<2:=s;match j,g with
  | 0,_=>exact rN v I
  | 1,_=>exact P)
 have g:kZ i (i.alloc (.cells #[sZ b 32 32,sZ C.heap.size k.size J] 23)):=(XM _ _).alloc (Xx _) _;have G:=Holds.below' v g;have O:=Holds.below' T g;have R:Only b 0 32 w (i.alloc (.cells #[sZ b 32 32,sZ C.heap.size k.size J] 23)):=u.trans ((Only.of_below d rfl oM).alloc oM _);go_wp2_with fail
 refine(qZ b L ⟨#[97,115,107,101,100]⟩ (some (aZ i.heap.size)) 2 2 [L.toList,k.data.toList] _ dC rfl dC a G I).mono ?_;rintro e w7 ⟨rfl,y,M⟩;have V:Holds encB w7 E 0 (Dn L k.data.toList n):=by
  intro j s;have h1:=O j s;have h2:=ZZ _ _ h1.1;have X:=y.other (c:=E) (o:=0+j) oM h2;rw[X.1,X.2];exact h1
 go_wp2
 go_ret2
 exact⟨E,rfl,oM,R.trans y,M,V⟩
end SP
end Go.Proofs.YtlofhpkoaljmeaaGreat
