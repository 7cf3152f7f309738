import Derived.Deep.LoopGhost
import Derived.Deep.RegionHeld3
import Derived.Deep.CutRange
import Derived.Deep.DeepCutAuto
import Derived.Laws.MakeOwn
import Derived.ChangeKeysEq
import Derived.Deep.AppendSrc
import Derived.Lib.AppendZeros
import Derived.LoopN
import Derived.Deep.RegionWith
import Derived.WalkKit
import Derived.Sort.Row
import Derived.Deep.Draws
import Derived.Below
import Derived.Deep.OwnRows
import Derived.Test.YtdoammpgchejcaaGreatRows
import Derived.Deep.QuietTactic
import Derived.StillTailTactics
import Derived.BigRegion
import Derived.BigQuiet
import Derived.WalkSpells
import Derived.WalkLawsBesides
import Derived.KernelRfl
import Derived.Lib.LazyBuf
import Derived.Lib.SliceRun
import Derived.Lib.ConvBytes
import Derived.Test.YtdoammpgchejcaaGreatsz2
set_option linter.unusedVariables false
set_option linter.constructorNameAsVariable false
set_option linter.unusedSimpArgs false
set_option maxRecDepth 1000000
set_option maxHeartbeats 4000000
namespace Go.Proofs.YtdoammpgchejcaaGreat
open EC RG
open _root_.Array renaming append_assoc->yAI,getElem?_append_left->XZ,getElem?_append_right->YE,getElem?_eq_getElem->U0,getElem?_map->yAG,getElem?_toList->Vq,getElem_append_left->Z4,getElem_append_right->ZY,getElem_replicate->Wy,getElem_toList->XG,length_toList->UK,map->yB5,map_replicate->yAx,replicate->UJ,size->V5,size_append->VN,size_extract->Xz,size_replicate->UP,size_setIfInBounds->VF,toArray_toList->XF
open _root_.BitVec renaming eq_of_toNat_eq->yAk,ofInt->Xd,ofInt_natCast->Ze,ofNat->Yn,toNat_ofNat->YG
open _root_.Bool renaming and_eq_true->UL
open _root_.Classical renaming byContradiction->Wv
open _root_.Fin renaming ofNat->Xj
open _root_.Go renaming Addr->Ww,Calls->UH,TypeId->U8,Value->Ut,World->Ur,bodyPost_ret->UE,run_make_row'->yBG,sizeOf->yAc,size_madeCells->YK,undef->WR,wp_block->XJ,wp_cond_false->VI,wp_cond_true->VE,wp_loop_ghost->Zg,wp_ret->Wr,wp_seq->Uz,wp_skip->WU
open _root_.Go.Addr renaming add->Zk,add_mid->yBJ
open _root_.Go.Builtin renaming append_->Vt,copy_->X1
open _root_.Go.Exit renaming inBlock->Yw
open _root_.Go.Instr renaming indexAt->Vl,makeSlice->XE
open _root_.Go.IntKind renaming bits->yBk,i64->VS,signed->yAT,u64->Vo,u8->XA,wrap->yBj,wrap_u64->XW
open _root_.Go.IntWalk renaming i64_in->Wu
open _root_.Go.Lib renaming bytesCells->Zl,bytesWorld->Z7,bytesWorld_size->yAL,wpList_append_run->WL
open _root_.Go.Op renaming eqItems->yA9
open _root_.Go.Result renaming andThen_ok->Vm
open _root_.Go.RowKit.Below renaming heap_setCell->Zt,refl->UR
open _root_.Go.Value renaming int->VZ
open _root_.Go.World renaming alloc->Xv,block_lt_of_cell?->Xq,cell?->VY,cell?_alloc_new->Vd,cell?_of_block->UW,cell?_setCell_other->UU,cell?_setCell_same->VV,cell?_setCells_out->Z6,freeze->yAi,frozen?_alloc_new->Wx,frozen?_of_block->VU,frozen?_setCell->VM,frozen?_setCells->yAh,setCell->Yd,size_alloc->UB
open _root_.Int renaming emod_eq_of_lt->yA7,natCast_ediv->Zd,natCast_mul->Xy,natCast_pow->yAb,neg_neg->yB0,toNat_natCast->X4
open _root_.List renaming cons->yB8,forall_mem_cons->yAs,getElem?_eq_some_iff->UF,getElem?_map->Vz,getElem?_toArray->Vg,getElem_map->Xf,length_cons->Vj,length_map->UQ,length_replicate->Xh,mem_cons_of_mem->Vb,mem_cons_self->Vu,mem_map->Vn,mem_range->V0,not_mem_nil->UY,range->VG,replicate->VB,size_toArray->VC,take_of_length_le->Zb
open _root_.Nat renaming add_assoc->WT,add_sub_cancel_left->WN,add_zero->XD,le_add_right->Za,le_refl->Uw,le_trans->UC,lt_of_lt_of_le->Ux,lt_succ_self->YI,min->XR,min_le_left->Z9,min_le_right->ZZ,mod_eq_of_lt->US,mod_lt->V7,mul_comm->Vv,mul_le_mul->WS,mul_le_mul_left->Yj,mul_one->XU,mul_succ->Yk,ne_of_gt->We,pos_of_neZero->YA,sub_self->YW,sub_sub->Ym,zero_add->UD,zero_le->WA
open _root_.Option renaming isSome_iff_exists->Vr,map_eq_some_iff->Uy,map_some->Yx
open _root_.Or renaming inl->U4,inr->UX
open _root_.Prod renaming mk->V8
open _root_.UInt8 renaming ofNat->UM,toNat_ofNat'->YJ
open Go.Proofs.Tryz
variable {L p:Bs}{m y:Fin P}{a c cap e f g i j k r:Nat}{xs ys:Nat->Fin P}{ns:Nat->Nat}{S:Sp}{W:Ur}
section
open Go.RowKit Go.Sort
variable {P:Nat}[NeZero P]{N:Nat}
theorem Lm(F:Fld P)(b o k:Nat)(m:k<8)(s:T3 P)(w:Ur)(u:b<w.heap.size)(q:w.rangeAt b (o+0+12*k) (tw s)):UH prog 110 #[(oZ b o),(.int .i8 (-(2*(k:Int)+1)))] w (rZ w λe w'=>e=tv (opJ s)):=by
 obtain⟨s2,c⟩:∃s2,opJ s=s2:=⟨_,rfl⟩
 have l:=c ▸ Ri F s;have d:∀w,(binOp .lss 187 (.int .i8 (-(2*(k:Int)+1))) (.int .i8 0)).run prog w=.ok (.bool true) w:=λw=>by
  go_simp;try omega
 have f:∀w,(Op.unary .neg (.int .i8 (-(2*(k:Int)+1)))).run prog w=.ok (.int .i8 (2*(k:Int)+1)) w:=λw=>by
  rw[NN _ oM,yB0]
 go_enter func110,ntmps110;refine Ot (v0:=(oZ b o)) (v1:=(.int .i8 (-(2*(k:Int)+1)))) (n:=23) kR kR kR kR ?_;intro a0 j x y;have i:=RG.St.begin w;have t:RG.M w w.heap.size [] 23 [] [] [(0,.v (oZ b o)),(1,.v (.int .i8 (-(2*(k:Int)+1))))] a0 _:=⟨i,j,⟨x,y,yCn⟩⟩
 repeat refine Uz ?_
 refine t.T [.m 0] [(0,RG.z 12)] [] [RG.z 12] [0,1,4] ⟨mk 0 185,yCn⟩ ?_;intro a B A r;repeat refine Uz ?_
 refine r.U [.x (.int .i8 (-(2*(k:Int)+1))),.x (.bool true)] [0,1,4,6] ⟨st,aP rfl .lss 187 187 5 (.int .i8 (-(2*(k:Int)+1))) (.int .i8 0) (.bool true) rfl rfl sx (λw=>kR) d,yCn⟩ ?_;intro a2 D p;repeat refine Uz ?_
 refine VE p.ev ?_;repeat refine Uz ?_
 refine p.T [.x (oZ b o),.x (.int .i8 (-(2*(k:Int)+1))),.x (.int .i8 (2*(k:Int)+1)),.x (.int .i8 k),.x (oZ b o),.x (.pointer (some ⟨b,o+0,none⟩)),.x (.pointer (some ⟨b,(o+0)+12*k,none⟩)),.x (tv s),.c (tv s2),.u 0] [] [(0,9,tw s2)] [tw s2] [4] ⟨st,st,MZ rfl .neg 187 8 (.int .i8 (-(2*(k:Int)+1))) (.int .i8 (2*(k:Int)+1)) rfl rfl sx f,aP rfl .quo 187 187 9 (.int .i8 (2*(k:Int)+1)) (.int .i8 2) (.int .i8 k) rfl rfl sx (λw=>kR) (NM k m),st,st,bD rfl 186 12 10 rfl (.v (.pointer (some ⟨b,o+0,none⟩))) (.int .i8 k) sx sx (λμ w=>J8 _ _ k m w),eH rfl b ((o+0)+12*k) u UY 185 13 rfl (tw s) rfl sx q iF i117,cl l,RG.pt i117,yCn⟩ ?_;intro C z g;refine Wr ?_;refine UE (v:=tv s2) (aI g.st 4 185 rfl 0 _ rfl (g.at (s:=(.p 0 0))) iF i117) g.sl.defers ?_;exact⟨_,rfl,g.st.bel.below,by rw[c]⟩
theorem Ll(F:Fld P)(b o k:Nat)(i:k<8)(s:T3 P)(w:Ur)(t:b<w.heap.size)(p:w.rangeAt b (o+0+12*k) (tw s)):UH prog 110 #[(oZ b o),(.int .i8 (2*(k:Int)+1))] w (rZ w λe w'=>e=tv s):=by
 obtain⟨s2,j⟩:∃s2,opJ s=s2:=⟨_,rfl⟩
 have c:∀w,(binOp .lss 187 (.int .i8 (2*(k:Int)+1)) (.int .i8 0)).run prog w=.ok (.bool false) w:=λw=>by
  go_simp;try omega
 have m:∀w,(Op.unary .neg (.int .i8 (-(2*(k:Int)+1)))).run prog w=.ok (.int .i8 (2*(k:Int)+1)) w:=λw=>by
  rw[NN _ oM,yB0]
 go_enter func110,ntmps110;refine Ot (v0:=(oZ b o)) (v1:=(.int .i8 (2*(k:Int)+1))) (n:=23) kR kR kR kR ?_;intro a0 g u x;have f:=RG.St.begin w;have r:RG.M w w.heap.size [] 23 [] [] [(0,.v (oZ b o)),(1,.v (.int .i8 (2*(k:Int)+1)))] a0 _:=⟨f,g,⟨u,x,yCn⟩⟩
 repeat refine Uz ?_
 refine r.T [.m 0] [(0,RG.z 12)] [] [RG.z 12] [0,1,4] ⟨mk 0 185,yCn⟩ ?_;intro z A a q;repeat refine Uz ?_
 refine q.U [.x (.int .i8 (2*(k:Int)+1)),.x (.bool false)] [0,1,4,6] ⟨st,aP rfl .lss 187 187 5 (.int .i8 (2*(k:Int)+1)) (.int .i8 0) (.bool false) rfl rfl sx (λw=>kR) c,yCn⟩ ?_;intro a2 C l;repeat refine Uz ?_
 refine VI l.ev ?_;refine WU ?_;repeat refine Uz ?_
 refine l.T [.x (oZ b o),.x (.int .i8 (2*(k:Int)+1)),.x (.int .i8 k),.x (oZ b o),.x (.pointer (some ⟨b,o+0,none⟩)),.x (.pointer (some ⟨b,(o+0)+12*k,none⟩)),.x (tv s),.u 0] [] [(0,7,tw s)] [tw s] [4] ⟨st,st,aP rfl .quo 187 187 17 (.int .i8 (2*(k:Int)+1)) (.int .i8 2) (.int .i8 k) rfl rfl sx (λw=>kR) (NM k i),st,st,bD rfl 186 20 18 rfl (.v (.pointer (some ⟨b,o+0,none⟩))) (.int .i8 k) sx sx (λμ w=>J8 _ _ k i w),eH rfl b ((o+0)+12*k) t UY 185 21 rfl (tw s) rfl sx p iF i117,RG.pt i117,yCn⟩ ?_;intro B y d;refine Wr ?_;refine UE (v:=tv s) (aI d.st 4 185 rfl 0 _ rfl (d.at (s:=(.p 0 0))) iF i117) d.sl.defers ?_;exact⟨_,rfl,d.st.bel.below,rfl⟩
def tmJ(x y:Fin P)(d:Int):T3 P:=if d<0 then opJ (od x y ((-d).toNat/2)) else od x y (d.toNat/2)
theorem QF(C:Fld P){x:Fin P}{p:EC.Pt P}(h:Pair x y p)(b:On p){d:Int}(hd:d%2=1):JacT (tmJ x y d) (eF d p):=by
 unfold tmJ;by_cases c:d<0
 ·rw[yCl c];have k:=(O4 C h b ((-d).toNat/2)).neg;rw[<-Bw C.cur b]at k;rw[show -((2*((-d).toNat/2)+1:Nat):Int)=d by omega]at k;exact k
 ·rw[yCm c];have k:=O4 C h b (d.toNat/2);rw[show((2*(d.toNat/2)+1:Nat):Int)=d by omega]at k;exact k
def inn(ns:Nat->Nat)(xs ys:Nat->Fin P)(st:T3 P)(place:Nat):Nat->T3 P
 | 0=>st
 | i+1=>if eY (ns i) place=0 then inn ns xs ys st place i else plJ (inn ns xs ys st place i) (tmJ (xs i) (ys i) (eY (ns i) place))
def iH(ns:Nat->Nat)(xs ys:Nat->Fin P)(N:Nat):Nat->T3 P
 | 0=>(0,0,0)
 | m+1=>inn ns xs ys (twJ (iH ns xs ys N m)) (256-m) N
theorem NJ(C:Fld P){p:Nat->EC.Pt P}{N:Nat}(b:∀i,i<N->ns i<2^256)(l:∀i,i<N->Pair (xs i) (ys i) (p i))(ho:∀i,i<N->On (p i)){st:T3 P}{g:Nat->Int}{place:Nat}
 (h:JacT st (tot p N g)):∀i,i<=N->JacT (inn ns xs ys st place i) (tot p N (λj=>if j<i then g j+eY (ns j) place else g j))
 | 0,_=>by
  have:tot p N (λj=>if j<0 then g j+eY (ns j) place else g j)=tot p N g:=eJ N λj _=>yCm oM
  rw[this];exact h
 | i+1,hi=>by
  have f:=NJ C b l ho (place:=place) h i oM;have e:tot p N (λj=>if j<i+1 then g j+eY (ns j) place else g j)=EC.add (tot p N (λj=>if j<i then g j+eY (ns j) place else g j)) (eF (eY (ns i) place) (p i)):=by
   rw[<-Li C.cur _ i (eY (ns i) place) N oM ho];refine eJ N λj _=>?_
   by_cases k:j=i
   ·subst k;rw[yCl oM,yCl rfl,yCm oM]
   ·rw[yCm k];by_cases d:j<i
    ·rw[yCl oM,yCl d]
    ·rw[yCm oM,yCm d]
  rw[e];unfold inn;by_cases d:eY (ns i) place=0
  ·rw[yCl d,d,Gh,bK];exact f
  ·rw[yCm d];obtain⟨q,c,-,m⟩:=A8 (b i oM);rcases m.ho place with k|k
   ·exact absurd k d
   ·exact f.plus C (QF C (l i oM) (ho i oM) k.1)
theorem Ib(C:Fld P){p:Nat->EC.Pt P}{N:Nat}(k:∀i,i<N->ns i<2^256)(c:∀i,i<N->Pair (xs i) (ys i) (p i))(ho:∀i,i<N->On (p i)):
 ∀m,m<=257->JacT (iH ns xs ys N m) (tot p N (λj=>DG.hor (eY (ns j)) m))
 | 0,_=>by
  rw[show tot p N (λj=>DG.hor (eY (ns j)) 0)=.none from v9 p N (λ_ _=>rfl)];exact JacT.none
 | m+1,hm=>by
  have b:=(Ib C k c ho m oM).twice C;rw[<-Gm C.cur _ N ho]at b;have f:=NJ C k c ho (place:=256-m) b N (Uw _);have e:tot p N (λj=>DG.hor (eY (ns j)) (m+1))=tot p N (λj=>if j<N then 2*DG.hor (eY (ns j)) m+eY (ns j) (256-m) else 2*DG.hor (eY (ns j)) m):=
   eJ N λj d=>by rw[yCl d];rfl
  rw[e];exact f
theorem BF(C:Fld P){p:Nat->EC.Pt P}{N:Nat}(k:∀i,i<N->ns i<2^256)(g:∀i,i<N->Pair (xs i) (ys i) (p i))(ho:∀i,i<N->On (p i)):
 JacT (iH ns xs ys N 257) (tot p N (λj=>(ns j:Int))):=by
 have h:=Ib C k g ho 257 (Uw _);have e:tot p N (λj=>(ns j:Int))=tot p N (λj=>DG.hor (eY (ns j)) 257):=eJ N λj b=>by
  obtain⟨q,c,f,d⟩:=A8 (k j b);exact(DG.MH d f).symm
 rw[e];exact h
def cc(ns:Nat->Nat)(xs ys:Nat->Fin P)(C0:List Ut):Nat->List Ut
 | 0=>C0
 | i+1=>fc (xs i) (ys i) (eY (ns i)) (cc ns xs ys C0 i) (353*i) 8
theorem NV{C0:List Ut}{N:Nat}(f:C0.length=353*N):∀i,i<=N->(cc ns xs ys C0 i).length=353*N /\
 ∀j,j<i->(∀q,q<257->(cc ns xs ys C0 i)[353*j+96+q]? = some (.int .i8 (eY (ns j) q)))/\∀q r,q<8->r<12->(cc ns xs ys C0 i)[353*j+12*q+r]? = (tw (od (xs j) (ys j) q))[r]?
 | 0,_=>⟨f,λj n=>oM⟩
 | i+1,hi=>by
  obtain⟨e,l⟩:=NV f i oM;have k:=Ft (x:=xs i) (y:=ys i) (D:=eY (ns i)) (C0:=cc ns xs ys C0 i) (off:=353*i) (by rw[e];omega) 8 (Uw _);refine⟨by rw[<-e];exact k.len,λj n=>?_⟩;by_cases d:j=i
  ·subst d;exact⟨k.dig,λq r b c=>k.odd q r b c⟩
  ·obtain⟨g,m⟩:=l j oM;exact⟨λq b=>(k.out _ oM).trans (g q b),λq r b c=>(k.out _ oM).trans (m q r b c)⟩
theorem Ry(N:Nat)(j:N<=512):∃C0:List Ut,C0.length=353*N/\∀w:Ur,(XE 182 (iZ N) (iZ N)).run prog w=.ok (sZ w.heap.size N N) (w.alloc (.cells C0.toArray 190)):=by
 have g:prog.underlying 182=some (.slice 190):=kR;have d:(prog.info? 190).map (λi=>(i.size,decide (i.bytes<=4000),i.zero.isSome))=some (353,true,true):=kR;obtain⟨i,b,k⟩:=Uy.1 d;simp only[V8.injEq,decide_eq_true_eq]at k;obtain⟨e,l,f⟩:=k;obtain⟨z,c⟩:=Vr.1 f;refine⟨(madeCells z.cells (N*353)).toList,by rw[UK,YK,Vv],λw=>?_⟩;have m:(i.bytes:Int)*(N:Int)<=281474976710656:=by
  have:i.bytes*N<=4000*512:=WS l j;have n:((i.bytes*N:Nat):Int)<=281474976710656:=oM;rwa[Xy]at n
 have:=run_make (P:=prog) w 182 190 i z g b c .i64 .i64 (N:Int) (N:Int) oM oM m oM;rw[X4,e]at this;rw[XF];exact this
theorem JB(F:Fld P){n:Nat}(c:n<top)(x y:Fin P)(C0:List Ut)(b off:Nat)(k:off+353<=C0.length)(w:Ur)(d:w.there b 0 C0.length)(f:w.rangeAt b 0 C0):
 UH prog 107 #[oZ b off,nv n,pv x y] w (Ret λr w'=>PutTo b C0.length (fc x y (eY n) C0 off 8) w w'/\r=.tuple #[]):=by
 have j:b<w.heap.size:=by
  have i:=(d 0 oM).1;exact Wv λc=>by
   have g:w.heap[b]? = none:=Array.getElem?_eq_none oM;simp[VY,g]at i
 refine(PP F c x y C0 b off k w j d f).mono ?_;rintro e w' ⟨v,rfl,⟨C,g,i⟩,rfl⟩;refine⟨_,rfl,?_,rfl⟩;rw[(Ft k 8 (Uw _)).uniq g];exact i
theorem Lq(F:Fld P)(b o:Nat)(x y:Fin P){d:Int}(hd:d%2=1)(i:-15<=d/\d<=15)(w:Ur)(f:b<w.heap.size)(g:∀q,q<8->w.rangeAt b (o+0+12*q) (tw (od x y q))):
 UH prog 110 #[oZ b o,.int .i8 d] w (rZ w λe w'=>e=tv (tmJ x y d)):=by
 unfold tmJ;by_cases c:d<0
 ·rw[yCl c];have k:=Lm F b o ((-d).toNat/2) oM (od x y ((-d).toNat/2)) w f (g _ oM);rw[show -(2*(((-d).toNat/2:Nat):Int)+1)=d by omega]at k;exact k
 ·rw[yCm c];have k:=Ll F b o (d.toNat/2) oM (od x y (d.toNat/2)) w f (g _ oM);rw[show 2*((d.toNat/2:Nat):Int)+1=d by omega]at k;exact k
theorem SZ{P:Nat}[NeZero P](w:Ur):(Instr.alloc 185 true (.tuple #[])).run prog w=.ok (jZ w.heap.size) (w.alloc (.cells (tw ((0,0,0):T3 P)).toArray 185)):=by
 show _=Result.ok _ (w.alloc (.cells (ws (0:Fin P)++(ws (0:Fin P)++ws (0:Fin P))).toArray 185));rw[<-Av];kernel_rfl
theorem Ro(w:Ur):(binOp .neq 187 (.int .i8 0) (.int .i8 0)).run prog w=.ok (.bool false) w:=kR
theorem Rn{d:Int}(h:¬d=0)(w:Ur):(binOp .neq 187 (.int .i8 d) (.int .i8 0)).run prog w=.ok (.bool true) w:=by
 go_simp
theorem sub1'(q:Nat)(k:q<1000)(w:Ur):(binOp .sub 3 (iZ q) (iZ 1)).run prog w=.ok (iZ ((q:Int)-1)) w:=Df _ _ oM oM w
theorem geq0'(i:Nat)(w:Ur):(binOp .geq 3 (iZ i) (iZ 0)).run prog w=.ok (.bool true) w:=by
 go_simp
theorem Ia(F:Fld P)(N:Nat)(hN:N<=512)(ns:Nat->Nat)(xs ys:Nat->Fin P)(kf:∀i,i<N->ns i<top)(g o:Nat)(w:Ur)(kx:g<w.heap.size)(bf:o<w.heap.size)
 (hn:∀i,i<N->w.rangeAt g (4*i) (wn (ns i))) (Z:∀i,i<N->w.rangeAt o (8*i) (ws (xs i)++ws (ys i))) :
 UH prog 48 #[sZ g N N,sZ o N N] w (rZ w λe w'=>∃s,s=iH ns xs ys N 257/\e=pv (s.1*(inv s.2.2*inv s.2.2)) (s.2.1*(inv s.2.2*inv s.2.2)*inv s.2.2)):=by
 obtain⟨C,b6,bj⟩:=Ry N hN;have V:∀(i:Nat) (c2:List Ut),fc (xs i) (ys i) (eY (ns i)) (cc ns xs ys C i) (353*i) 8=c2->cc ns xs ys C (i+1)=c2:=λi c2 h=>h
 obtain⟨i,-⟩:∃i:Nat,i=0:=⟨_,rfl⟩
 obtain⟨q,-⟩:∃i:Nat,i=0:=⟨_,rfl⟩
 obtain⟨d,-⟩:∃i:Int,i=0:=⟨_,rfl⟩
 obtain⟨C2,-⟩:∃c:List Ut,c=C:=⟨_,rfl⟩
 obtain⟨s,-⟩:∃s:T3 P,s=(0,0,0):=⟨_,rfl⟩
 obtain⟨s2,-⟩:∃s:T3 P,s=(0,0,0):=⟨_,rfl⟩
 obtain⟨s3,-⟩:∃s:T3 P,s=(0,0,0):=⟨_,rfl⟩
 obtain⟨s4,-⟩:∃s:T3 P,s=(0,0,0):=⟨_,rfl⟩
 go_enter func48,ntmps48;refine Ot (v0:=(sZ g N N)) (v1:=(sZ o N N)) (n:=62) kR kR kR kR ?_;intro a0 ky f0 f1;have be:=RG.St.begin w;have M0:RG.M w w.heap.size [] 62 [] [] [(0,.v (sZ g N N)),(1,.v (sZ o N N))] a0 _:=⟨be,ky,⟨f0,f1,yCn⟩⟩
 repeat refine Uz ?_
 refine M0.T [.m 0] [(0,RG.z 8)] [] [RG.z 8] [0,1,4] ⟨mk 0 93,yCn⟩ ?_;intro j1 a1 w1 M1;repeat refine Uz ?_
 refine M1.t [.x 11 [] (sZ g N N),.x 12 [(11,0)] (iZ N),⟨some 13,[(12,1)],.s 1 N N,.make 1⟩,.s 5 [(13,2)] (.s 1 N N)] [(2,C)] [] [RG.z 8,C] [(0,.v (sZ g N N)),(1,.v (sZ o N N)),(4,.p 0 0),(5,.s 1 N N)] ⟨st,fQ rfl 11 (.v (sZ g N N)) (iZ N) rfl sx (λa w=>kR) (λμ w=>kR),mJ 1 rfl _ rfl 182 190 12 12 N rfl rfl sx sx bj,st,yCn⟩ ?_;intro j2 a2 w2 M2;repeat refine Uz ?_
 refine M2.U [.s (.s 1 N N),.x (iZ N),.x (iZ 0)] [0,1,4,5,15,16] ⟨st,fQ rfl 14 (.s 1 N N) (iZ N) rfl sx (λa w=>kR) (λμ w=>kR),st,yCn⟩ ?_;intro a3 w3 M3;have ku:a3.tmps[0]? = some (sZ g N N):=M3.at (s:=(.v (sZ g N N)));have kh:a3.tmps[1]? = some (sZ o N N):=M3.at (s:=(.v (sZ o N N)));have kp:a3.tmps[4]? = some (jZ j1):=M3.at (s:=(.p 0 0));have km:a3.tmps[5]? = some (sZ j2 N N):=M3.at (s:=(.s 1 N N));have k0:a3.tmps[15]? = some (iZ N):=M3.at (s:=(.v (iZ N)));have hw:a3.tmps[16]? = some (iZ 0):=M3.at (s:=(.v (iZ 0)));repeat refine Uz ?_
 refine XJ ?_;refine Zg (λm a wr=>∃i,i+m=N/\Sl a 62/\a.tmps[0]? = some (sZ g N N)/\a.tmps[1]? = some (sZ o N N)/\a.tmps[4]? = some (jZ j1)/\a.tmps[5]? = some (sZ j2 N N)/\a.tmps[15]? = some (iZ N)/\a.tmps[16]? = some (iZ i)/\RG.St w w.heap.size [] [[uZ 0,uZ 0,uZ 0,uZ 0,uZ 0,uZ 0,uZ 0,uZ 0],cc ns xs ys C i] [j1,j2] wr) N ⟨0,oM,M3.sl,ku,kh,kp,km,k0,hw,M3.st⟩ ?_;intro m a wr;rintro⟨i,bl,sl,p0,p1,p4,p5,kk,kg,M⟩;generalize j1=p at p4 M;generalize j2=A at p5 M;obtain⟨C,ko⟩:∃c,cc ns xs ys C i=c:=⟨_,rfl⟩
 have W:=NV (ns:=ns) (xs:=xs) (ys:=ys) b6 i oM;rw[ko]at M W;by_cases y:i<N
 ·obtain⟨C2,u⟩:∃c,fc (xs i) (ys i) (eY (ns i)) C (353*i) 8=c:=⟨_,rfl⟩
  have B:353*i+353<=C.length:=by rw[W.1];omega
  have K:C2.length=C.length:=u ▸ (Ft B 8 (Uw _)).len;have G:∀(k:Nat) (w:Ur),w.there k 0 C.length->w.rangeAt k 0 C->UH prog 107 #[.pointer (some ⟨k,353*i,none⟩),nv (ns i),pv (xs i) (ys i)] w (Ret λr w'=>PutTo k C.length C2 w w'/\r=.tuple #[]):=λk w Q hr=>u ▸ JB F (kf i y) (xs i) (ys i) C k (353*i) B w Q hr
  have S:w.rangeAt g (0+4*i) (wn (ns i)):=by rw[UD];exact hn i y
  have T:w.rangeAt o (0+8*i) (ws (xs i)++ws (ys i)):=by rw[UD];exact Z i y
  have L:RG.M w w.heap.size [] 62 [RG.z 8,C] [p,A] [(0,.v (sZ g N N)),(1,.v (sZ o N N)),(4,.p 0 0),(5,.s 1 N N),(15,.v (iZ N)),(16,.v (iZ i))] a _:=⟨M,sl,⟨p0,p1,p4,p5,kk,kg,yCn⟩⟩
  repeat refine Uz ?_
  refine L.U [.x (.bool true)] [0,1,4,5,15,16,17] ⟨aQ rfl .lss 3 3 16 15 (iZ i) (iZ N) (.bool true) rfl rfl sx sx (λw=>kR) (gA y),yCn⟩ ?_;intro X U J;repeat refine Uz ?_
  refine VE J.ev ?_;refine WU ?_;refine Uz ?_;refine XJ ?_;repeat refine Uz ?_
  refine J.U [.x (iZ i),.x (iZ i)] [0,1,4,5,6,15,16] ⟨st,st,yCn⟩ ?_;intro c7 bt R;repeat refine Uz ?_
  refine R.dr kR [.s 19 [] (.s 1 N N),.x 20 [] (iZ i),.s 21 [(19,0),(20,1)] (.p 1 (353*i)),.x 22 [] (sZ g N N),.x 23 [] (iZ i),.x 24 [(22,3),(23,4)] (.pointer (some ⟨g,0+4*i,none⟩)),.x 25 [(24,5)] (nv (ns i)),.x 26 [] (sZ o N N),.x 27 [] (iZ i),.x 28 [(26,7),(27,8)] (.pointer (some ⟨o,0+8*i,none⟩)),.x 29 [(28,9)] (pv (xs i) (ys i)),⟨some 30,[(21,2),(25,6),(29,10)],.v (.tuple #[]),.put 1⟩] [] [(1,11,C2)] [RG.z 8,C2] [(0,.v (sZ g N N)),(1,.v (sZ o N N)),(4,.p 0 0),(5,.s 1 N N),(15,.v (iZ N)),(16,.v (iZ i))] kR (congrArg (λn=>[n]) K) ⟨st,st,bD rfl 182 19 20 rfl (.s 1 N N) (iZ i) sx sx (λμ w=>FT _ _ _ i y w),st,st,bD rfl 89 22 23 rfl (.v (sZ g N N)) (iZ i) sx sx (λμ w=>SS _ _ _ _ i y w),eH rfl g (0+4*i) kx UY 47 24 rfl (wn (ns i)) rfl sx S u85 i85,st,st,bD rfl 100 26 27 rfl (.v (sZ o N N)) (iZ i) sx sx (λμ w=>NZ _ _ _ _ i y w),eH rfl o (0+8*i) bf UY 93 28 rfl (ws (xs i)++ws (ys i)) rfl sx T gU i109,yZ 1 rfl _ rfl 107 21 25 29 (.p 1 (353*i)) (nv (ns i)) (pv (xs i) (ys i)) (.tuple #[]) rfl (λa w=>kR) sx sx sx (λμ w Q hr=>G (μ 1) w Q hr),yCn⟩ ?_;intro bv Y O;repeat refine Uz ?_
  refine O.U [.x (iZ ((i+1:Nat):Int)),.x (iZ ((i+1:Nat):Int))] [0,1,4,5,15,16] ⟨aP rfl .add 3 3 16 (iZ i) (iZ 1) (iZ ((i+1:Nat):Int)) rfl rfl sx (λw=>kR) (uQ i 1 oM oM),st,yCn⟩ ?_;intro l c3 f;have I:l.tmps[0]? = some (sZ g N N):=f.at (s:=(.v (sZ g N N)));have D:l.tmps[1]? = some (sZ o N N):=f.at (s:=(.v (sZ o N N)));have H:l.tmps[4]? = some (jZ p):=f.at (s:=(.p 0 0));have E:l.tmps[5]? = some (sZ A N N):=f.at (s:=(.s 1 N N));have x:l.tmps[15]? = some (iZ N):=f.at (s:=(.v (iZ N)));have z:l.tmps[16]? = some (iZ ((i+1:Nat):Int)):=f.at (s:=(.v (iZ ((i+1:Nat):Int))));show ∃n',_;refine⟨m-1,oM,i+1,oM,f.sl,I,D,H,E,x,z,?_⟩;rw[V i C2 (by rw[ko];exact u)];exact f.st
 ·have b5:i=N:=oM;rw[b5]at W;have kz:=W.2;have b8:RG.M w w.heap.size [] 62 [RG.z 8,C] [p,A] [(0,.v (sZ g N N)),(1,.v (sZ o N N)),(4,.p 0 0),(5,.s 1 N N),(15,.v (iZ N)),(16,.v (iZ i))] a _:=⟨M,sl,⟨p0,p1,p4,p5,kk,kg,yCn⟩⟩
  repeat refine Uz ?_
  refine b8.U [.x (.bool false)] [4,5,17] ⟨aQ rfl .lss 3 3 16 15 (iZ i) (iZ N) (.bool false) rfl rfl sx sx (λw=>kR) (nH y),yCn⟩ ?_;intro c6 c0 ki;repeat refine Uz ?_
  refine VI ki.ev ?_;refine wp_exit ?_;dsimp only[Exit.then,Yw];rw[yCl rfl];repeat refine Uz ?_
  refine ki.T [.m 2] [(0,tw ((0,0,0):T3 P))] [] [RG.z 8,C,tw ((0,0,0):T3 P)] [4,5,7] ⟨qH 2 rfl rfl _ rfl 185 rfl SZ,yCn⟩ ?_;intro Z bm bu bc;repeat refine Uz ?_
  refine bc.U [.x (iZ 256)] [4,5,7,8] ⟨st,yCn⟩ ?_;intro T bo I;have k5:T.tmps[4]? = some (jZ p):=I.at (s:=(.p 0 0));have k9:T.tmps[5]? = some (sZ A N N):=I.at (s:=(.s 1 N N));have hy:T.tmps[7]? = some (jZ Z):=I.at (s:=(.p 2 0));have hc:T.tmps[8]? = some (iZ 256):=I.at (s:=(.v (iZ 256)));repeat refine Uz ?_
  refine XJ ?_;refine Zg (λm a wr=>m<=257/\Sl a 62/\a.tmps[4]? = some (jZ p)/\a.tmps[5]? = some (sZ A N N)/\a.tmps[7]? = some (jZ Z)/\a.tmps[8]? = some (iZ ((m:Int)-1))/\RG.St w w.heap.size [] [[uZ 0,uZ 0,uZ 0,uZ 0,uZ 0,uZ 0,uZ 0,uZ 0],C,tw (iH ns xs ys N (257-m))] [p,A,Z] wr) 257 ⟨Uw _,I.sl,k5,k9,hy,hc,?_⟩ ?_
  ·rw[YW,iH];exact I.st
  intro m b wr;rintro⟨hm,ke,q4,q5,q7,q8,E⟩;generalize Z=R at q7 E;by_cases hz:m=0
  ·subst hz;rw[show 257-0=257 from rfl]at E;obtain⟨s,J⟩:∃s,iH ns xs ys N 257=s:=⟨_,rfl⟩
   rw[J]at E;have u:RG.M w w.heap.size [] 62 [RG.z 8,C,tw s] [p,A,R] [(4,.p 0 0),(5,.s 1 N N),(7,.p 2 0),(8,.v (iZ (-1)))] b _:=⟨E,ke,⟨q4,q5,q7,q8,yCn⟩⟩
   repeat refine Uz ?_
   refine u.U [.x (iZ (-1)),.x (.bool false)] [4,7,33] ⟨st,st,yCn⟩ ?_;intro D z l;repeat refine Uz ?_
   refine VI l.ev ?_;refine wp_exit ?_;dsimp only[Exit.then,Yw];rw[yCl rfl];repeat refine Uz ?_
   refine l.T [.x (tv s),.c (pv (s.1*(inv s.2.2*inv s.2.2)) (s.2.1*(inv s.2.2*inv s.2.2)*inv s.2.2)),.u 0] [] [(0,2,ws (s.1*(inv s.2.2*inv s.2.2))++(ws (s.2.1*(inv s.2.2*inv s.2.2)*inv s.2.2)))] [ws (s.1*(inv s.2.2*inv s.2.2))++(ws (s.2.1*(inv s.2.2*inv s.2.2)*inv s.2.2)),C,tw s] [4] ⟨ld iF i117,cl (QZ F s),RG.pt i109,yCn⟩ ?_;intro x B f;refine Wr ?_;refine UE (v:=pv (s.1*(inv s.2.2*inv s.2.2)) (s.2.1*(inv s.2.2*inv s.2.2)*inv s.2.2)) (aI f.st 4 93 rfl 0 _ rfl (f.at (s:=(.p 0 0))) gU i109) f.sl.defers ?_;exact⟨_,rfl,f.st.bel.below,s,J.symm,rfl⟩
  ·obtain⟨q,rfl⟩:∃q,m=q+1:=⟨m-1,oM⟩
   have hq:q<257:=oM;replace q8:b.tmps[8]? = some (iZ q):=by rw[q8];congr 2;omega
   obtain⟨s,J⟩:∃s,iH ns xs ys N (257-(q+1))=s:=⟨_,rfl⟩
   rw[J]at E;obtain⟨s2,h6⟩:∃t,twJ s=t:=⟨_,rfl⟩
   have bk:=h6 ▸ Nt F s;have O:iH ns xs ys N (257-q)=inn ns xs ys s2 q N:=by
    rw[show 257-q=257-(q+1)+1 by omega];show inn ns xs ys (twJ (iH ns xs ys N (257-(q+1)))) (256-(257-(q+1))) N=_;rw[J,h6,show 256-(257-(q+1))=q by omega]
   have bi:RG.M w w.heap.size [] 62 [RG.z 8,C,tw s] [p,A,R] [(4,.p 0 0),(5,.s 1 N N),(7,.p 2 0),(8,.v (iZ q))] b _:=⟨E,ke,⟨q4,q5,q7,q8,yCn⟩⟩
   repeat refine Uz ?_
   refine bi.U [.x (iZ q),.x (.bool true)] [4,5,7,8,33] ⟨st,aP rfl .geq 3 3 32 (iZ q) (iZ 0) (.bool true) rfl rfl sx (λw=>kR) (geq0' q),yCn⟩ ?_;intro bq bs kd;repeat refine Uz ?_
   refine VE kd.ev ?_;refine WU ?_;refine Uz ?_;refine XJ ?_;repeat refine Uz ?_
   refine kd.T [.x (tv s),.c (tv s2),.u 2] [] [(2,2,tw s2)] [RG.z 8,C,tw s2] [4,5,7,8] ⟨ld iF i117,cl bk,RG.pt i117,yCn⟩ ?_;intro bn br bd;repeat refine Uz ?_
   refine bd.U [.s (.s 1 N N),.x (iZ N),.x (iZ 0)] [4,5,7,8,39,40] ⟨st,fQ rfl 38 (.s 1 N N) (iZ N) rfl sx (λa w=>kR) (λμ w=>kR),st,yCn⟩ ?_;intro G bz x;have hk:G.tmps[4]? = some (jZ p):=x.at (s:=(.p 0 0));have hs:G.tmps[5]? = some (sZ A N N):=x.at (s:=(.s 1 N N));have he:G.tmps[7]? = some (jZ R):=x.at (s:=(.p 2 0));have k4:G.tmps[8]? = some (iZ q):=x.at (s:=(.v (iZ q)));have Y:G.tmps[39]? = some (iZ N):=x.at (s:=(.v (iZ N)));have S:G.tmps[40]? = some (iZ 0):=x.at (s:=(.v (iZ 0)));repeat refine Uz ?_
   refine XJ ?_;refine Zg (λm a wr=>∃i,i+m=N/\Sl a 62/\a.tmps[4]? = some (jZ p)/\a.tmps[5]? = some (sZ A N N)/\a.tmps[7]? = some (jZ R)/\a.tmps[8]? = some (iZ q)/\a.tmps[39]? = some (iZ N)/\a.tmps[40]? = some (iZ i)/\RG.St w w.heap.size [] [[uZ 0,uZ 0,uZ 0,uZ 0,uZ 0,uZ 0,uZ 0,uZ 0],C,tw (inn ns xs ys s2 q i)] [p,A,R] wr) N ⟨0,oM,x.sl,hk,hs,he,k4,Y,S,x.st⟩ ?_;intro m' c wr;rintro⟨i,bl,kb,r4,r5,r7,r8,k6,hl,X⟩;obtain⟨s,D⟩:∃s,inn ns xs ys s2 q i=s:=⟨_,rfl⟩
   rw[D]at X;by_cases y:i<N
   ·obtain⟨h1,h2⟩:=kz i y;obtain⟨d,U⟩:∃d,eY (ns i) q=d:=⟨_,rfl⟩
    have u:=U ▸ h1 q hq;have kj:C≠[]:=by intro h;rw[h]at u;simp at u
    have f:inn ns xs ys s2 q (i+1)=if d=0 then s else plJ s (tmJ (xs i) (ys i) d):=by rw[<-D,<-U];rfl
    by_cases K:d=0
    ·rw[yCl K]at f;rw[K]at u;have h8:RG.M w w.heap.size [] 62 [RG.z 8,C,tw s] [p,A,R] [(4,.p 0 0),(5,.s 1 N N),(7,.p 2 0),(8,.v (iZ q)),(39,.v (iZ N)),(40,.v (iZ i))] c _:=⟨X,kb,⟨r4,r5,r7,r8,k6,hl,yCn⟩⟩
     repeat refine Uz ?_
     refine h8.U [.x (.bool true)] [4,5,7,8,39,40,41] ⟨aQ rfl .lss 3 3 40 39 (iZ i) (iZ N) (.bool true) rfl rfl sx sx (λw=>kR) (gA y),yCn⟩ ?_;intro bg b3 Q;repeat refine Uz ?_
     refine VE Q.ev ?_;refine WU ?_;refine Uz ?_;refine XJ ?_;repeat refine Uz ?_
     refine Q.U [.x (iZ i),.x (iZ i)] [4,5,7,8,9,39,40] ⟨st,st,yCn⟩ ?_;intro kv bh hg;repeat refine Uz ?_
     refine hg.U [.s (.s 1 N N),.x (iZ i),.x (iZ q),.s (.p 1 (353*i)),.s (.p 1 ((353*i)+96)),.s (.p 1 (((353*i)+96)+q)),.x (.int .i8 0),.x (.int .i8 0)] [4,5,7,8,10,39,40] ⟨st,st,st,bD rfl 182 43 44 rfl (.s 1 N N) (iZ i) sx sx (λμ w=>FT _ _ _ i y w),st,bD rfl 188 47 45 rfl (.p 1 ((353*i)+96)) (iZ q) sx sx (λμ w=>J7 _ _ q hq w),yK rfl 1 (((353*i)+96)+q) _ rfl rfl kR 187 48 rfl (.int .i8 0) rfl sx u QE,st,yCn⟩ ?_;intro b9 b4 hb;repeat refine Uz ?_
     refine hb.U [.x (.int .i8 0),.x (.bool false)] [4,5,7,8,39,40,51] ⟨st,aP rfl .neq 187 187 50 (.int .i8 0) (.int .i8 0) (.bool false) rfl rfl sx (λw=>kR) Ro,yCn⟩ ?_;intro ba b7 L;repeat refine Uz ?_
     refine VI L.ev ?_;refine WU ?_;repeat refine Uz ?_
     refine L.U [.x (iZ ((i+1:Nat):Int)),.x (iZ ((i+1:Nat):Int))] [4,5,7,8,39,40] ⟨aP rfl .add 3 3 40 (iZ i) (iZ 1) (iZ ((i+1:Nat):Int)) rfl rfl sx (λw=>kR) (uQ i 1 oM oM),st,yCn⟩ ?_;intro B bb l;have k3:B.tmps[4]? = some (jZ p):=l.at (s:=(.p 0 0));have k8:B.tmps[5]? = some (sZ A N N):=l.at (s:=(.s 1 N N));have hp:B.tmps[7]? = some (jZ R):=l.at (s:=(.p 2 0));have kc:B.tmps[8]? = some (iZ q):=l.at (s:=(.v (iZ q)));have H:B.tmps[39]? = some (iZ N):=l.at (s:=(.v (iZ N)));have z:B.tmps[40]? = some (iZ ((i+1:Nat):Int)):=l.at (s:=(.v (iZ ((i+1:Nat):Int))));show ∃n',_;exact⟨m'-1,oM,i+1,oM,l.sl,k3,k8,hp,kc,H,z,by rw[f];exact l.st⟩
    ·rw[yCm K]at f;have h5:d%2=1/\-15<=d/\d<=15:=by
      obtain⟨_,_,-,z⟩:=A8 (show ns i<2^256 from kf i y);rcases z.ho q with h|h
      ·exact absurd (U ▸ h) K
      ·exact U ▸ h
     obtain⟨s3,h7⟩:∃t,tmJ (xs i) (ys i) d=t:=⟨_,rfl⟩
     obtain⟨s4,h4⟩:∃t,plJ s s3=t:=⟨_,rfl⟩
     have kw:=h4 ▸ NA F s s3;have b2:∀(k:Nat) (w:Ur),k<w.heap.size->w.rangeAt k 0 C->UH prog 110 #[.pointer (some ⟨k,353*i,none⟩),.int .i8 d] w (rZ w λr w'=>r=tv s3):=λk w k1 hr =>
      h7 ▸ Lq F k (353*i) (xs i) (ys i) h5.1 h5.2 w k1 (λqq z=>rV hr (λj H=>by rw[XD];exact h2 qq j z (by rw[cJ]at H;exact H)))
     rw[h7,h4]at f;have h8:RG.M w w.heap.size [] 62 [RG.z 8,C,tw s] [p,A,R] [(4,.p 0 0),(5,.s 1 N N),(7,.p 2 0),(8,.v (iZ q)),(39,.v (iZ N)),(40,.v (iZ i))] c _:=⟨X,kb,⟨r4,r5,r7,r8,k6,hl,yCn⟩⟩
     repeat refine Uz ?_
     refine h8.U [.x (.bool true)] [4,5,7,8,39,40,41] ⟨aQ rfl .lss 3 3 40 39 (iZ i) (iZ N) (.bool true) rfl rfl sx sx (λw=>kR) (gA y),yCn⟩ ?_;intro bg b3 Q;repeat refine Uz ?_
     refine VE Q.ev ?_;refine WU ?_;refine Uz ?_;refine XJ ?_;repeat refine Uz ?_
     refine Q.U [.x (iZ i),.x (iZ i)] [4,5,7,8,9,39,40] ⟨st,st,yCn⟩ ?_;intro kv bh hg;repeat refine Uz ?_
     refine hg.U [.s (.s 1 N N),.x (iZ i),.x (iZ q),.s (.p 1 (353*i)),.s (.p 1 ((353*i)+96)),.s (.p 1 (((353*i)+96)+q)),.x (.int .i8 d),.x (.int .i8 d)] [4,5,7,8,9,10,39,40] ⟨st,st,st,bD rfl 182 43 44 rfl (.s 1 N N) (iZ i) sx sx (λμ w=>FT _ _ _ i y w),st,bD rfl 188 47 45 rfl (.p 1 ((353*i)+96)) (iZ q) sx sx (λμ w=>J7 _ _ q hq w),yK rfl 1 (((353*i)+96)+q) _ rfl rfl kR 187 48 rfl (.int .i8 d) rfl sx u QE,st,yCn⟩ ?_;intro b9 b4 hb;repeat refine Uz ?_
     refine hb.U [.x (.int .i8 d),.x (.bool true)] [4,5,7,8,9,10,39,40,51] ⟨st,aP rfl .neq 187 187 50 (.int .i8 d) (.int .i8 0) (.bool true) rfl rfl sx (λw=>kR) (Rn K),yCn⟩ ?_;intro ba b7 L;repeat refine Uz ?_
     refine VE L.ev ?_;repeat refine Uz ?_
     refine L.D [.x (tv s),.s (.s 1 N N),.x (iZ i),.s (.p 1 (353*i)),.x (.int .i8 d),.c (tv s3),.c (tv s4),.u 2] [] [(2,7,tw s4)] [RG.z 8,C,tw s4] [4,5,7,8,39,40] ⟨ld iF i117,st,st,bD rfl 182 53 54 rfl (.s 1 N N) (iZ i) sx sx (λμ w=>FT _ _ _ i y w),st,CG rfl 1 _ rfl rfl kR kj 110 55 56 (.p 1 (353*i)) (.int .i8 d) (tv s3) rfl (λa w=>kR) sx sx (λμ w k1 hr=>b2 (μ 1) w k1 hr),cl kw,RG.pt i117,yCn⟩ ?_;intro B bb l;repeat refine Uz ?_
     refine l.U [.x (iZ ((i+1:Nat):Int)),.x (iZ ((i+1:Nat):Int))] [4,5,7,8,39,40] ⟨aP rfl .add 3 3 40 (iZ i) (iZ 1) (iZ ((i+1:Nat):Int)) rfl rfl sx (λw=>kR) (uQ i 1 oM oM),st,yCn⟩ ?_;intro H c4 z;have k7:H.tmps[4]? = some (jZ p):=z.at (s:=(.p 0 0));have hu:H.tmps[5]? = some (sZ A N N):=z.at (s:=(.s 1 N N));have h9:H.tmps[7]? = some (jZ R):=z.at (s:=(.p 2 0));have k2:H.tmps[8]? = some (iZ q):=z.at (s:=(.v (iZ q)));have h3:H.tmps[39]? = some (iZ N):=z.at (s:=(.v (iZ N)));have h0:H.tmps[40]? = some (iZ ((i+1:Nat):Int)):=z.at (s:=(.v (iZ ((i+1:Nat):Int))));show ∃n',_;exact⟨m'-1,oM,i+1,oM,z.sl,k7,hu,h9,k2,h3,h0,by rw[f];exact z.st⟩
   ·have L:i=N:=oM;rw[L]at D;rw[D]at O;have Q:RG.M w w.heap.size [] 62 [RG.z 8,C,tw s] [p,A,R] [(4,.p 0 0),(5,.s 1 N N),(7,.p 2 0),(8,.v (iZ q)),(39,.v (iZ N)),(40,.v (iZ i))] c _:=⟨X,kb,⟨r4,r5,r7,r8,k6,hl,yCn⟩⟩
    repeat refine Uz ?_
    refine Q.U [.x (.bool false)] [4,5,7,8,41] ⟨aQ rfl .lss 3 3 40 39 (iZ i) (iZ N) (.bool false) rfl rfl sx sx (λw=>kR) (nH y),yCn⟩ ?_;intro c5 bp K;repeat refine Uz ?_
    refine VI K.ev ?_;refine wp_exit ?_;dsimp only[Exit.then,Yw];rw[yCl rfl];repeat refine Uz ?_
    refine K.U [.x (iZ q),.x (iZ ((q:Int)-1)),.x (iZ ((q:Int)-1))] [4,5,7,8] ⟨st,aP rfl .sub 3 3 34 (iZ q) (iZ 1) (iZ ((q:Int)-1)) rfl rfl sx (λw=>kR) (sub1' q oM),st,yCn⟩ ?_;intro l U f;have H:l.tmps[4]? = some (jZ p):=f.at (s:=(.p 0 0));have B:l.tmps[5]? = some (sZ A N N):=f.at (s:=(.s 1 N N));have u:l.tmps[7]? = some (jZ R):=f.at (s:=(.p 2 0));have z:l.tmps[8]? = some (iZ ((q:Int)-1)):=f.at (s:=(.v (iZ ((q:Int)-1))));show ∃n',_;exact⟨q,YI q,oM,f.sl,H,B,u,z,by rw[O];exact f.st⟩
def rt(m:Fin P):Option (Fin P):=if m.val^(P/4+1)%P*(m.val^(P/4+1)%P)%P=m.val then some (Xj P (even P (m.val^(P/4+1)%P))) else none
omit [NeZero P] in
theorem Fu(k:0<P)(h:r<P):even P r<P:=by unfold even;split<;>omega
theorem LO{v:Ut}(h:rt m=some y)(k:Four v (even P (m.val^(P/4+1)%P))):v=fv y:=by
 unfold rt at h;split at h
 ·obtain rfl:=Option.some.inj h;have:(Xj P (even P (m.val^(P/4+1)%P))).val=even P (m.val^(P/4+1)%P):=US (Fu (YA P) (V7 _ (YA P)));show v=nv _;rw[this];exact k.nv
 ·cases h
theorem Iy(h:rt m=some y):m.val^(P/4+1)%P*(m.val^(P/4+1)%P)%P=m.val:=by
 unfold rt at h;split at h
 ·assumption
 ·cases h
theorem QS(h:rt m=none):¬m.val^(P/4+1)%P*(m.val^(P/4+1)%P)%P=m.val:=by
 unfold rt at h;split at h
 ·cases h
 ·assumption
theorem RootR.val{e:Ut}(h:RootR P m.val (m.val^(P/4+1)%P) e):(∀y,rt m=some y->e=.tuple #[fv y,.bool true])/\(rt m=none->e=.tuple #[fv (0:Fin P),.bool false]):=by
 obtain⟨j,l,g,i,ok,rfl,k,f,d⟩:=h;refine⟨λy b=>?_,λc=>?_⟩
 ·cases ok with
  | true=>rw[LO b (k rfl).2]
  | false=>exact absurd (Iy b) (f rfl)
 ·cases ok with
  | true=>exact absurd (k rfl).1 (QS c)
  | false =>
   obtain⟨rfl,rfl,rfl,rfl⟩:=d rfl;rw[<-lI];rfl
theorem Qk(h:Fld P)(e:rt m=some y):Gives 191 #[gv0,fv m] (.tuple #[fv y,.bool true]):=λw =>
 (CV 4294968273 0 0 P _ m.val h.gap h.p4 (h.four m) w).mono (by rintro e' w' ⟨v,rfl,b,k⟩;exact⟨_,rfl,b,k.val.1 y e⟩)
theorem Ql(h:Fld P)(e:rt m=none):Gives 191 #[gv0,fv m] (.tuple #[fv (0:Fin P),.bool false]):=λw =>
 (CV 4294968273 0 0 P _ m.val h.gap h.p4 (h.four m) w).mono (by rintro e' w' ⟨v,rfl,b,k⟩;exact⟨_,rfl,b,k.val.2 e⟩)
def gl0:List Ut:=[uZ 4294968273,uZ 0,uZ 0,uZ 0]
theorem Ao(C:Fld P)(x y:Fin P)(l:rt (x*x*x+7)=some y):Gives 115 #[(fv x)] (.tuple #[pv x y,.bool true]):=by
 intro w;obtain⟨c1,i⟩:∃c,c=x*x:=⟨_,rfl⟩
 obtain⟨c2,g⟩:∃c,c=c1*x:=⟨_,rfl⟩
 obtain⟨k,e⟩:∃c,c=c2+(7:Fin P):=⟨_,rfl⟩
 have d:((.tuple #[pv x y,.bool true]):Ut)=(.tuple #[pv x y,.bool true]):=by
  subst_vars;rfl
 rw[<-d];go_enter func115,ntmps115;refine RG.M.enter [(0,.v (fv x))] 31 kR ?_;intro a0 o;repeat refine Uz ?_
 refine o.T [.m 0,.m 1,.x (.bool false)] [(0,ws x),(1,RG.z 8)] [] [ws x,RG.z 8] [1,2,3] ⟨mk 0 47,mk 1 93,st,yCn⟩ ?_;intro E J G F n;repeat refine Uz ?_
 refine n.T [.c gv0,.m 2,.u 2] [(1,RG.z 4)] [(2,2,gl0)] [ws x,RG.z 8,gl0] [1,2,3,4] ⟨cl bO,mk 2 120,RG.pt i79,yCn⟩ ?_;intro u a2 K p;repeat refine Uz ?_
 refine p.D [.x gv0,.x gv0,.x gv0,.x (fv x),.x (fv x),.c (fv c1),.x (fv x),.c (fv c2),.x (fv (7:Fin P)),.c (fv k),.m 3,.u 3] [(10,RG.z 4)] [(3,11,ws k)] [ws x,RG.z 8,gl0,ws k] [1,2,3,4,5] ⟨ld u79 i79,ld u79 i79,ld u79 i79,ld u85 i85,ld u85 i85,cl ((rO C x x).e i),ld u85 i85,cl ((rO C c1 x).e g),se (BM C),cl ((F6 C c2 (7:Fin P)).e e),mk 3 47,RG.pt i85,yCn⟩ ?_;intro z I B m;repeat refine Uz ?_
 refine m.T [.x gv0,.x (fv k),.c (.tuple #[fv y,.bool true]),.x (.tuple #[fv y,.bool true]),.x (fv y),.x (.bool true),.m 4,.u 4,.x (.bool true)] [(6,RG.z 4)] [(4,7,ws y)] [ws x,RG.z 8,gl0,ws k,ws y] [1,2,3,6,7] ⟨ld u79 i79,ld u85 i85,cl (f:=191) (args:=#[gv0,fv k]) (v:=(.tuple #[fv y,.bool true])) (Qk C (by subst_vars;exact l)),st,st,st,mk 4 47,RG.pt i85,st,yCn⟩ ?_;intro r L a q;repeat refine Uz ?_
 refine q.U [.x (.bool true),.x (.bool false)] [1,2,3,6,26] ⟨st,st,yCn⟩ ?_;intro t A j;repeat refine Uz ?_
 refine VI j.ev ?_;refine WU ?_;repeat refine Uz ?_
 refine j.T [.x (fv x),.x (fv y),.x (pv x y),.u 1,.x (.bool true)] [] [(1,3,ws x++(ws y))] [ws x,ws x++(ws y),gl0,ws k,ws y] [2,3] ⟨ld u85 i85,ld u85 i85,st,RG.pt i109,st,yCn⟩ ?_;intro D H b;refine Wr ?_;refine UE (v:=(.tuple #[pv x y,.bool true])) (cQ b.st 2 3 93 rfl 1 _ rfl (b.at (s:=(.p 1 0))) _ (b.at (s:=(.v (.bool true)))) gU i109) b.sl.defers ?_;exact⟨_,rfl,b.st.bel.below,rfl⟩
theorem Ap(C:Fld P)(x:Fin P)(l:rt (x*x*x+7)=none):Gives 115 #[(fv x)] (.tuple #[pv (0:Fin P) 0,.bool false]):=by
 intro w;obtain⟨c1,i⟩:∃c,c=x*x:=⟨_,rfl⟩
 obtain⟨c2,g⟩:∃c,c=c1*x:=⟨_,rfl⟩
 obtain⟨k,e⟩:∃c,c=c2+(7:Fin P):=⟨_,rfl⟩
 have d:((.tuple #[pv (0:Fin P) (0:Fin P),.bool false]):Ut)=(.tuple #[pv (0:Fin P) 0,.bool false]):=by
  subst_vars;rfl
 rw[<-d];go_enter func115,ntmps115;refine RG.M.enter [(0,.v (fv x))] 31 kR ?_;intro a0 o;repeat refine Uz ?_
 refine o.T [.m 0,.m 1,.x (.bool false)] [(0,ws x),(1,RG.z 8)] [] [ws x,RG.z 8] [1,2,3] ⟨mk 0 47,mk 1 93,st,yCn⟩ ?_;intro D I F E n;repeat refine Uz ?_
 refine n.T [.c gv0,.m 2,.u 2] [(1,RG.z 4)] [(2,2,gl0)] [ws x,RG.z 8,gl0] [1,2,3,4] ⟨cl bO,mk 2 120,RG.pt i79,yCn⟩ ?_;intro u a2 J p;repeat refine Uz ?_
 refine p.D [.x gv0,.x gv0,.x gv0,.x (fv x),.x (fv x),.c (fv c1),.x (fv x),.c (fv c2),.x (fv (7:Fin P)),.c (fv k),.m 3,.u 3] [(10,RG.z 4)] [(3,11,ws k)] [ws x,RG.z 8,gl0,ws k] [2,3,4,5] ⟨ld u79 i79,ld u79 i79,ld u79 i79,ld u85 i85,ld u85 i85,cl ((rO C x x).e i),ld u85 i85,cl ((rO C c1 x).e g),se (BM C),cl ((F6 C c2 (7:Fin P)).e e),mk 3 47,RG.pt i85,yCn⟩ ?_;intro y H A m;repeat refine Uz ?_
 refine m.T [.x gv0,.x (fv k),.c (.tuple #[fv (0:Fin P),.bool false]),.x (.tuple #[fv (0:Fin P),.bool false]),.x (fv (0:Fin P)),.x (.bool false),.m 4,.u 4,.x (.bool false)] [(6,RG.z 4)] [(4,7,ws (0:Fin P))] [ws x,RG.z 8,gl0,ws k,ws (0:Fin P)] [2,3,7] ⟨ld u79 i79,ld u85 i85,cl (f:=191) (args:=#[gv0,fv k]) (v:=(.tuple #[fv (0:Fin P),.bool false])) (Ql C (by subst_vars;exact l)),st,st,st,mk 4 47,RG.pt i85,st,yCn⟩ ?_;intro r K z q;repeat refine Uz ?_
 refine q.U [.x (.bool false),.x (.bool true)] [2,3,26] ⟨st,st,yCn⟩ ?_;intro t a j;repeat refine Uz ?_
 refine VE j.ev ?_;repeat refine Uz ?_
 refine j.T [.x (pv (0:Fin P) (0:Fin P)),.u 1,.x (.bool false)] [] [(1,1,ws (0:Fin P)++(ws (0:Fin P)))] [ws x,ws (0:Fin P)++(ws (0:Fin P)),gl0,ws k,ws (0:Fin P)] [2,3] ⟨se (gI (P:=P)),RG.pt i109,st,yCn⟩ ?_;intro B G b;refine Wr ?_;refine UE (v:=(.tuple #[pv (0:Fin P) (0:Fin P),.bool false])) (cQ b.st 2 3 93 rfl 1 _ rfl (b.at (s:=(.p 1 0))) _ (b.at (s:=(.v (.bool false)))) gU i109) b.sl.defers ?_;exact⟨_,rfl,b.st.bel.below,rfl⟩
theorem OV(C:Fld P)(x y:Fin P):Gives 227 #[(pv x y)] (pv x (0-y)):=by
 intro w;obtain⟨c1,d⟩:∃c,c=(0:Fin P)-y:=⟨_,rfl⟩
 have k:((pv x c1):Ut)=(pv x (0-y)):=by
  subst_vars;rfl
 rw[<-k];go_enter func227,ntmps227;refine RG.M.enter [(0,.v (pv x y))] 11 kR ?_;intro a0 e;repeat refine Uz ?_
 refine e.T [.m 0,.m 1] [(0,ws x++(ws y)),(1,RG.z 8)] [] [ws x++(ws y),RG.z 8] [1,2] ⟨mk 0 93,mk 1 93,yCn⟩ ?_;intro j g m l f;repeat refine Uz ?_
 refine f.D [.s (.p 0 0),.x (fv x),.c gv0,.x (fv (0:Fin P)),.s (.p 0 4),.x (fv y),.c (fv c1),.x (pv x c1),.u 1] [] [(1,8,ws x++(ws c1))] [ws x++(ws y),ws x++(ws c1)] [2] ⟨st,ld u85 i85,cl bO,se (lI (P:=P)),st,ld u85 i85,cl ((Kt C (0:Fin P) y).e d),st,RG.pt i109,yCn⟩ ?_;intro a2 i b;refine Wr ?_;refine UE (v:=(pv x c1)) (aI b.st 2 93 rfl 1 _ rfl (b.at (s:=(.p 1 0))) gU i109) b.sl.defers ?_;exact⟨_,rfl,b.st.bel.below,rfl⟩
end
section
open Go.RowKit Go.Sort Go.Deep
variable {P:Nat}[NeZero P]{N:Nat}
theorem gV{w:Ur}{b d:Nat}(h:Kept w k [⟨e,0,a,b,c,d⟩,⟨k,0,g,i,f,0⟩,⟨j,0,0,0,0,0⟩] W):W.cell? ⟨e,0,none⟩=some (uZ a)/\W.cell? ⟨e,1,none⟩=some (uZ b)/\W.cell? ⟨e,2,none⟩=some (uZ c)/\W.cell? ⟨e,3,none⟩=some (uZ d)/\W.cell? ⟨k,0,none⟩=some (uZ g)/\W.cell? ⟨k,1,none⟩=some (uZ i)/\W.cell? ⟨k,2,none⟩=some (uZ f)/\W.cell? ⟨k,3,none⟩=some (uZ 0)/\Kept w k [⟨e,0,a,b,c,d⟩,⟨k,0,g,i,f,0⟩,⟨j,0,0,0,0,0⟩] W:=⟨h.head.c0,h.head.c1,h.head.c2,h.head.c3,h.tail.head.c0,h.tail.head.c1,h.tail.head.c2,h.tail.head.c3,h⟩
theorem nV{w:Ur}{b d:Nat}(h:W.cell? ⟨e,0,none⟩=some (uZ a)/\W.cell? ⟨e,1,none⟩=some (uZ b)/\W.cell? ⟨e,2,none⟩=some (uZ c)/\W.cell? ⟨e,3,none⟩=some (uZ d)/\W.cell? ⟨k,0,none⟩=some (uZ g)/\W.cell? ⟨k,1,none⟩=some (uZ i)/\W.cell? ⟨k,2,none⟩=some (uZ f)/\W.cell? ⟨k,3,none⟩=some (uZ 0)/\Kept w k [⟨e,0,a,b,c,d⟩,⟨k,0,g,i,f,0⟩,⟨j,0,0,0,0,0⟩] W):Kept w k [⟨e,0,a,b,c,d⟩,⟨k,0,g,i,f,0⟩,⟨j,0,0,0,0,0⟩] W:=h.2.2.2.2.2.2.2.2
theorem BV{w:Ur}{b d:Nat}{o:Obj}(h:W.cell? ⟨e,0,none⟩=some (uZ a)/\W.cell? ⟨e,1,none⟩=some (uZ b)/\W.cell? ⟨e,2,none⟩=some (uZ c)/\W.cell? ⟨e,3,none⟩=some (uZ d)/\W.cell? ⟨k,0,none⟩=some (uZ g)/\W.cell? ⟨k,1,none⟩=some (uZ i)/\W.cell? ⟨k,2,none⟩=some (uZ f)/\W.cell? ⟨k,3,none⟩=some (uZ 0)/\Kept w k [⟨e,0,a,b,c,d⟩,⟨k,0,g,i,f,0⟩,⟨j,0,0,0,0,0⟩] W):(W.alloc o).cell? ⟨e,0,none⟩=some (uZ a)/\(W.alloc o).cell? ⟨e,1,none⟩=some (uZ b)/\(W.alloc o).cell? ⟨e,2,none⟩=some (uZ c)/\(W.alloc o).cell? ⟨e,3,none⟩=some (uZ d)/\(W.alloc o).cell? ⟨k,0,none⟩=some (uZ g)/\(W.alloc o).cell? ⟨k,1,none⟩=some (uZ i)/\(W.alloc o).cell? ⟨k,2,none⟩=some (uZ f)/\(W.alloc o).cell? ⟨k,3,none⟩=some (uZ 0)/\Kept w k [⟨e,0,a,b,c,d⟩,⟨k,0,g,i,f,0⟩,⟨j,0,0,0,0,0⟩] (W.alloc o):=gV ((nV h).alloc o)
theorem AL{w:Ur}{b d:Nat}{o:Obj}(h:W.drew.cell? ⟨e,0,none⟩=some (uZ a)/\W.drew.cell? ⟨e,1,none⟩=some (uZ b)/\W.drew.cell? ⟨e,2,none⟩=some (uZ c)/\W.drew.cell? ⟨e,3,none⟩=some (uZ d)/\W.drew.cell? ⟨k,0,none⟩=some (uZ g)/\W.drew.cell? ⟨k,1,none⟩=some (uZ i)/\W.drew.cell? ⟨k,2,none⟩=some (uZ f)/\W.drew.cell? ⟨k,3,none⟩=some (uZ 0)/\Kept w k [⟨e,0,a,b,c,d⟩,⟨k,0,g,i,f,0⟩,⟨j,0,0,0,0,0⟩] W.drew):(W.alloc o).drew.cell? ⟨e,0,none⟩=some (uZ a)/\(W.alloc o).drew.cell? ⟨e,1,none⟩=some (uZ b)/\(W.alloc o).drew.cell? ⟨e,2,none⟩=some (uZ c)/\(W.alloc o).drew.cell? ⟨e,3,none⟩=some (uZ d)/\(W.alloc o).drew.cell? ⟨k,0,none⟩=some (uZ g)/\(W.alloc o).drew.cell? ⟨k,1,none⟩=some (uZ i)/\(W.alloc o).drew.cell? ⟨k,2,none⟩=some (uZ f)/\(W.alloc o).drew.cell? ⟨k,3,none⟩=some (uZ 0)/\Kept w k [⟨e,0,a,b,c,d⟩,⟨k,0,g,i,f,0⟩,⟨j,0,0,0,0,0⟩] (W.alloc o).drew:=gV (((nV h).undrew).alloc o).drew
theorem Ks(pv:Ut)(p:Option Ww)(n cap:Nat)(w:Ur)(b c k:Nat)(d:pv=.agg #[uZ b,uZ c,uZ k,uZ 0])(f:n≠32):
 UH prog 59 #[pv,.slice p n cap] w (rZ w λe w'=>e=.tuple #[.agg #[uZ 0,uZ 0,uZ 0,uZ 0],.bool false]):=by
 subst d;go_enter func59,ntmps59;go_wp2;refine UE (v:=?v) ?hr rfl ?hR
 case hr=>simp[results,Tryz.results59,go_sem];rfl
 exact⟨_,rfl,below2 _ _ _,rfl⟩
theorem yW(j l m P g o cap:Nat)(n:Bs)(hG:Gap j l m P)(w:Ur)(W:n.size=32)(hc:32<=cap)(R:g<w.heap.size)(Y:Holds encB w g o n):
 UH prog 59 #[.agg #[.int .u64 j,.int .u64 l,.int .u64 m,.int .u64 0],.slice (some ⟨g,o,none⟩) 32 cap] w
  (Ret λe w'=>Below w.heap.size w w'/\((beV n.toList<P/\∃v,e=.tuple #[v,.bool true]/\Four v (beV n.toList))\/(P<=beV n.toList/\e=.tuple #[.agg #[.int .u64 0,.int .u64 0,.int .u64 0,.int .u64 0],.bool false]))):=by
 have z:Hid (Gap j l m P):=hG;have O:Hid (Holds encB w g o n):=Y;have HS:Hid (n.size=32):=W;clear hG Y W;go_enter func59,ntmps59;go_wp2_with fail
 have PR:=(At4.made w 120 j l m 0 rfl).alloc (.cells #[.int .u64 0,.int .u64 0,.int .u64 0,.int .u64 0] 47);have S:=At4.made (w.alloc (.cells #[.int .u64 j,.int .u64 l,.int .u64 m,.int .u64 0] 120)) 47 0 0 0 0 (UB _ _);have r:=((Kept.mk1 (below2 w (.cells #[.int .u64 j,.int .u64 l,.int .u64 m,.int .u64 0] 120) (.cells #[.int .u64 0,.int .u64 0,.int .u64 0,.int .u64 0] 47)) (below2 w (.cells #[.int .u64 j,.int .u64 l,.int .u64 m,.int .u64 0] 120) (.cells #[.int .u64 0,.int .u64 0,.int .u64 0,.int .u64 0] 47)).size).cons S.blk).cons PR.blk;have s:=Holds.below O.out (below2 w (.cells #[.int .u64 j,.int .u64 l,.int .u64 m,.int .u64 0] 120) (.cells #[.int .u64 0,.int .u64 0,.int .u64 0,.int .u64 0] 47)) R;clear PR S;generalize Xv _ _=W0 at r s⊢;refine(kK (some ⟨g,o,none⟩) g o 32 cap n _ (Uw 32) hc HS.out (UX ⟨rfl,s⟩)).mono ?_;rintro e M ⟨v,rfl,i,H⟩;obtain⟨a,b,c,d,rfl,ha,hb,I,hd,K⟩:=id H;have Q:Hid (Four _ _):=H;have N:=r.call i;clear K H i r s;go_wp2_with fail
 have f:=(N.alloc (.cells #[.int .u64 a,.int .u64 b,.int .u64 c,.int .u64 d] 47)).cons (At4.made M 47 a b c d rfl).blk;have E:M.heap.size≠w.heap.size:=We N.head.lt;clear N;generalize Xv _ _=W1 at f⊢;generalize M.heap.size=y at f E⊢;generalize J:w.heap.size+1=C at f⊢;have L:Hid (w.heap.size<=C):=by unfold Hid;omega
 generalize X:w.heap.size=q at f L R E⊢;have U:Hid (w.heap.size=q):=X;clear X J
 go_cut [8] (λs8 wx=>∃k:Nat,s8=.int .u64 k/\k<=1/\Hid (∃t,t<top/\t+top*k=beV n.toList+val j l m 0)/\Kept w q [⟨y,0,a,b,c,d⟩,⟨q,0,j,l,m,0⟩,⟨C,0,0,0,0,0⟩] wx)
 case first =>
  go_region_held3 (λw'=>w'.cell? ⟨y,0,none⟩=some (.int .u64 a)/\w'.cell? ⟨y,1,none⟩=some (.int .u64 b)/\w'.cell? ⟨y,2,none⟩=some (.int .u64 c)/\w'.cell? ⟨y,3,none⟩=some (.int .u64 d)/\w'.cell? ⟨q,0,none⟩=some (.int .u64 j)/\w'.cell? ⟨q,1,none⟩=some (.int .u64 l)/\w'.cell? ⟨q,2,none⟩=some (.int .u64 m)/\w'.cell? ⟨q,3,none⟩=some (.int .u64 0)/\Kept w q [⟨y,0,a,b,c,d⟩,⟨q,0,j,l,m,0⟩,⟨C,0,0,0,0,0⟩] w') (first|(with_reducible exact gV f)|(with_reducible exact gV f.drew)|(with_reducible exact AL (by assumption))|(with_reducible exact BV (by assumption))|(with_reducible exact gV (f.alloc _))|(with_reducible exact gV (f.set4' F (λx hx=>We (D x hx)) _ _ _ _))|(with_reducible exact gV (f.alloc _).drew)|(with_reducible exact gV (f.set4' F (λx hx=>We (D x hx)) _ _ _ _).drew)|fail) (first|(go_at_call 127;refine(jN _ _ Q.out _).mono ?_;rintro e w2 ⟨v,rfl,i,rfl⟩;(try(with_reducible have B:=T.call i;clear T;have T:=B;clear B));(try(first|(with_reducible have T:=(At4.made _ 118 0 0 0 0 rfl).call i)|(with_reducible have T:=(At4.made _ 118 0 0 0 0 rfl).drew.call i));have D:=f.lts;have F:=f.le);have p:=Kept.call (nV (by assumption)) i;clear f;have f:=p;clear p i)|(go_at_call 126;refine(qV _ _ _ _ Q.out (Four.mk z.h0 z.h1 z.h2 dC rfl) _).mono ?_;rintro e w2 ⟨v,rfl,i,v2,t,k,rfl,u,A,V⟩;obtain⟨a',b',c',d',rfl,hi,h6,I,h8,K⟩:=id u;have HT:Hid (t<top/\t+top*k=beV n.toList+val j l m 0):=⟨u.lt,V⟩;clear K V u;(try(with_reducible have B:=T.call i;clear T;have T:=B;clear B));(try(first|(with_reducible have T:=(At4.made _ 118 0 0 0 0 rfl).call i)|(with_reducible have T:=(At4.made _ 118 0 0 0 0 rfl).drew.call i));have D:=f.lts;have F:=f.le);have p:=Kept.call (nV (by assumption)) i;clear f;have f:=p;clear p i;(try(obtain⟨hj,Z,h7,h5,tf⟩:=id T;have zt:=T.lt))))
  all_goals (try go_wp2)
  all_goals (have G:Hid (∃t,t<top/\t+top*k=beV n.toList+val j l m 0):=⟨t,HT.out⟩)
  all_goals (go_meet;first|(with_reducible exact⟨k,rfl,A,G,f.alloc _⟩)|(with_reducible exact⟨k,rfl,A,G,(f.alloc _).drew⟩)|(with_reducible exact⟨k,rfl,A,G,f.set4' F (λx hx=>We (D x hx)) _ _ _ _⟩)|(with_reducible exact⟨k,rfl,A,G,(f.set4' F (λx hx=>We (D x hx)) _ _ _ _).drew⟩)|fail)
 case rest =>
  clear f;obtain⟨k,rfl,A,V,f⟩:=hcut;have F:k=0\/k=1:=oM;rcases F with rfl|rfl
  ·obtain⟨hl,h9,h4,h3,xf⟩:=f.head.at4;obtain⟨D,B,u,G,rf⟩:=f.tail.tail.head.at4;have Z:=f.tail.tail.head.lt;go_wp2;have p:=f.tail.tail.head.at4.self4 a b c d;unfold set4 at p;refine UE (v:=?v0) ?hr0 rfl ?hR0
   case hr0=>simp[results,Tryz.results59,go_sem,p.c0,p.c1,p.c2,p.c3];rfl
   refine⟨_,rfl,?_,U4 ⟨?_,_,rfl,Q.out⟩⟩
   ·rw[U.out];exact aL f.bl L.out _ _ _ _
   ·obtain⟨t,J,h2⟩:=V.out;have:=z.hP;omega
  ·obtain⟨D,B,u,G,rf⟩:=f.tail.tail.head.at4;have Z:=f.tail.tail.head.lt;go_wp2;have p:At4 (set4 wc C (.int .u64 0) (.int .u64 0) (.int .u64 0) (.int .u64 0)) C 0 0 0 0:=f.tail.tail.head.at4.self4 0 0 0 0;unfold set4 at p;refine UE (v:=?v1) ?hr1 rfl ?hR1
   case hr1=>simp[results,Tryz.results59,go_sem,p.c0,p.c1,p.c2,p.c3];rfl
   refine⟨_,rfl,?_,UX ⟨?_,rfl⟩⟩
   ·rw[U.out];exact aL f.bl L.out _ _ _ _
   ·obtain⟨t,J,h2⟩:=V.out;have:=z.hP;omega
def Arg(w:Ur)(v:Ut)(k:Bs):Prop:=∃(p:Option Ww) (n cap:Nat),v=.slice p n cap/\k.size=n/\(n=32->∃g o,p=some ⟨g,o,none⟩/\32<=cap/\g<w.heap.size/\Holds encB w g o k)
theorem Arg.below{w k:Ur}{v:Ut}{d:Bs}(h:Arg w v d)(b:kZ w k):Arg k v d:=by
 obtain⟨p,n,cap,rfl,e,j⟩:=h;refine⟨p,n,cap,rfl,e,λf=>?_⟩;obtain⟨g,o,l,i,c,m⟩:=j f;exact⟨g,o,l,i,Ux c b.size,Holds.below m b c⟩
def Args(w:Ur)(q:Option Ww)(n:Nat)(L:Nat->Bs):Prop:=0<n->∃k,q=some (aZ k)/\k<w.heap.size/\∀j,j<n->∃v,w.cell? ⟨k,j,none⟩=some v/\Arg w v (L j)
end
section
open Go.RowKit Go.Sort
theorem u131:(prog.underlying 102).map (·.isRow)=some true:=kR
theorem i131:(prog.info? 102).map (·.size)=some 33:=kR
theorem u5:(prog.underlying 5).map (·.isRow)=some false:=kR
theorem Ou:prog.underlying 102=some (.array 33 5):=kR
theorem Te:prog.underlying 5=some (.int .u8):=kR
theorem cells5:prog.cellsOf 5=1:=kR
theorem QN(g o cap:Nat)(k:33<=cap)(w:Ur):(Instr.sliceAt 23 (.slice (some ⟨g,o,none⟩) 33 cap) (some (iZ 1)) none none).run prog w=.ok (.slice (some ⟨g,o+1,none⟩) 32 (cap-1)) w:=by
 go_simp;omega
theorem N3(g o cap:Nat)(w:Ur):(Instr.arrayAt 102 (.slice (some ⟨g,o,none⟩) 33 cap)).run prog w=.ok (oZ g o) w:=kR
theorem Ei(g o n cap:Nat)(k:0<n)(w:Ur):(Vl 23 (.slice (some ⟨g,o,none⟩) n cap) (iZ 0)).run prog w=.ok (oZ g o) w:=by
 go_simp
theorem NB(xs:Array Ut)(i:Nat)(v:Ut)(h:xs[i]? = some v)(w:Ur):(part 5 xs i).run prog w=.ok v w:=by
 go_simp
theorem eqI(xs ys:Array Ut)(a b:Nat->Int)(D:Nat)(w:Ur):∀(k:List Nat),(∀i∈k,xs[i]? = some (.int .u8 (a i)))->(∀i∈k,ys[i]? = some (.int .u8 (b i))) ->
 (yA9 (D+1) 5 1 xs ys k).run prog w=.ok (decide (∀i∈k,a i=b i)) w
 | [],_,_=>by
  rw[yA9];simp
 | i :: k,hx,hy=>by
  have d:=eqI xs ys a b D w k (λj c=>hx j (Vb _ c)) (λj c=>hy j (Vb _ c));have p1:=NB xs (i*1) _ (by rw[XU];exact hx i Vu) w;have p2:=NB ys (i*1) _ (by rw[XU];exact hy i Vu) w;have f:=run_equalIn_int (P:=prog) w D 5 .u8 .u8 (a i) (b i) Te;rw[yA9];simp only[Sem.run_bind,p1,p2,f,Vm];by_cases h:a i=b i
  ·simp only[h,beq_self_eq_true,Bool.not_true,Bool.false_eq_true,if_false,d,yAs,true_and]
  ·have e:(a i == b i)=false:=by simpa using h
   simp only[e,Bool.not_false,if_true,Sem.run_pure,yAs,h,false_and,decide_false]
def aA(k:Bs):List Ut:=k.toList.map encB
def z33:List Ut:=VB 33 (.int .u8 0)
theorem rN(k:Bs)(i:Nat)(h:i<k.size):(aA k)[i]? = some (.int .u8 (ub k[i]!)):=by
 unfold aA;rw[Vz,Vq,U0 h,getElem!_pos k i h];rfl
theorem eqz(c:Bs)(h:c.size=33)(w:Ur):(binOp .eql 102 (.agg (aA c).toArray) (.agg z33.toArray)).run prog w=.ok (.bool (decide (∀i∈VG 33,ub c[i]! = 0))) w:=by
 have k:(prog.info? 5).isSome=true:=kR;obtain⟨d,b⟩:=Vr.1 k;rw[run_eql_struct,run_equalIn_array w 9999 _ _ Ou b,cells5,
  eqI _ _ (λi=>ub c[i]!) (λ_=>0) 9998 w (VG 33) (λi k=>by
   rw[Vg];exact rN c i (by rw[h];exact V0.1 k)) (λi k=>by
   rw[Vg];unfold z33;rw[List.getElem?_replicate,yCl (V0.1 k)])]
 rfl
@[reducible] def tJ (bs:Bs):Prop:=∀i∈VG 33,ub bs[i]! = 0
theorem Sk{k:Bs}(h:k.size=33)(b:tJ k)(w:Ur):(binOp .eql 102 (.agg (aA k).toArray) (.agg z33.toArray)).run prog w=.ok (.bool true) w:=by rw[eqz k h,decide_eq_true (show ∀i∈VG 33,ub k[i]! = 0 from b)]
theorem So{k:Bs}(h:k.size=33)(b:¬tJ k)(w:Ur):(binOp .eql 102 (.agg (aA k).toArray) (.agg z33.toArray)).run prog w=.ok (.bool false) w:=by rw[eqz k h,decide_eq_false (show ¬ ∀i∈VG 33,ub k[i]! = 0 from b)]
theorem aB{k:Bs}(h:k.size=33):(aA k).length=33:=by unfold aA;rw[UQ,UK,h]
theorem Ec{k:Bs}{w:Ur}{o:Nat}(c:Holds encB w g o k):w.rangeAt g o (aA k):=λj v hv=>by
 have b:j<k.size:=by
  have:=(UF.1 hv).1;unfold aA at this;rwa[UQ,UK]at this
 rw[rN k j b]at hv;rw[(c j b).1];exact hv
def uM(k:Bs):Bs:=k.extract 1 33
theorem nR{k:Bs}(h:k.size=33):(uM k).size=32:=by unfold uM;rw[Xz,h];rfl
theorem tl33_holds{k:Bs}{w:Ur}{o:Nat}(h:k.size=33)(c:Holds encB w g o k):Holds encB w g (o+1) (uM k):=
 Holds.part c (by rw[nR h,h];decide) (λj b=>by
  rw[nR h]at b;unfold uM;rw[getElem!_pos _ j (by rw[Xz,h];omega),getElem!_pos _ (1+j) (by rw[h];omega),Array.getElem_extract])
variable {P:Nat}[NeZero P]
theorem Kn(C:Fld P){o:Nat}{k:Bs}(c:k.size=32)(l:32<=cap){x:Fin P}(hx:beV k.toList=x.val){w:Ur}(d:g<w.heap.size)(j:Holds encB w g o k):
 UH prog 59 #[gv0,.slice (some ⟨g,o,none⟩) 32 cap] w (rZ w λe w'=>e=.tuple #[fv x,.bool true]):=
 (yW 4294968273 0 0 P g o cap k C.gap w c l d j).mono (by
  rintro e w' ⟨v,rfl,f,⟨i,m,rfl,b⟩|⟨i,rfl⟩⟩
  ·refine⟨_,rfl,f,?_⟩;rw[hx]at b;rw[b.nv]
  ·have:=x.isLt;omega)
theorem Ko(C:Fld P){o:Nat}{k:Bs}(c:k.size=32)(j:32<=cap)(hx:¬beV k.toList<P){w:Ur}(d:g<w.heap.size)(i:Holds encB w g o k):
 UH prog 59 #[gv0,.slice (some ⟨g,o,none⟩) 32 cap] w (rZ w λe w'=>e=.tuple #[fv (0:Fin P),.bool false]):=
 (yW 4294968273 0 0 P g o cap k C.gap w c j d i).mono (by
  rintro e w' ⟨v,rfl,f,⟨b,m,rfl,l⟩|⟨b,rfl⟩⟩
  ·exact absurd b hx
  ·refine⟨_,rfl,f,?_⟩;rw[<-lI])
def rdx(P:Nat)[NeZero P](k:Bs):Fin P:=Xj P (beV (uM k).toList)
def rd(P:Nat)[NeZero P](k:Bs):Option (Fin P × Fin P):=
 if k.size=33 then
  if tJ k then some (0,0) else
  if ub k[0]! = 2\/ub k[0]! = 3 then
   if beV (uM k).toList<P then
    (rt (rdx P k*rdx P k*rdx P k+7)).map (λy=>(rdx P k,if ub k[0]! = 3 then 0-y else y))
   else none
  else none
 else none
def rdV:Option (Fin P × Fin P)->Ut
 | none=>.tuple #[pv (0:Fin P) 0,.bool false]
 | some p=>.tuple #[pv p.1 p.2,.bool true]
end
section
open Go.RowKit Go.Sort
variable {P:Nat}[NeZero P]{N:Nat}
theorem OP(C:Fld P)(q:Option Ww)(n cap:Nat)(x:Fin P)(w:Ur)(l:¬n=33):UH prog 193 #[(.slice q n cap)] w (rZ w λe w'=>e=(.tuple #[pv (0:Fin P) 0,.bool false])):=by
 have c:∀w,(binOp .neq 3 (iZ n) (iZ 33)).run prog w=.ok (.bool true) w:=λw=>by
  have h:¬(n:Int)=33:=oM;go_simp
 go_enter func193,ntmps193;refine Hy (v0:=(.slice q n cap)) (n:=54) kR kR kR ?_;intro a0 d j;have b:=RG.St.begin w;have i:RG.M w w.heap.size [] 54 [] [] [(0,.v (.slice q n cap))] a0 _:=⟨b,d,⟨j,yCn⟩⟩
 repeat refine Uz ?_
 refine i.T [.m 0,.x (.bool false)] [(0,RG.z 8)] [] [RG.z 8] [0,2,3] ⟨mk 0 93,st,yCn⟩ ?_;intro o r p g;repeat refine Uz ?_
 refine g.U [.x (.slice q n cap),.x (iZ n),.x (.bool true)] [2,3,9] ⟨st,fQ rfl 7 (.v (.slice q n cap)) (iZ n) rfl sx (λa w=>kR) (λμ w=>kR),aP rfl .neq 3 3 8 (iZ n) (iZ 33) (.bool true) rfl rfl sx (λw=>kR) c,yCn⟩ ?_;intro a2 u f;repeat refine Uz ?_
 refine VE f.ev ?_;repeat refine Uz ?_
 refine f.T [.x (pv (0:Fin P) (0:Fin P)),.u 0,.x (.bool false)] [] [(0,1,ws (0:Fin P)++(ws (0:Fin P)))] [ws (0:Fin P)++(ws (0:Fin P))] [2,3] ⟨se (gI (P:=P)),RG.pt i109,st,yCn⟩ ?_;intro t m k;refine Wr ?_;refine UE (v:=(.tuple #[pv (0:Fin P) (0:Fin P),.bool false])) (cQ k.st 2 3 93 rfl 0 _ rfl (k.at (s:=(.p 0 0))) _ (k.at (s:=(.v (.bool false)))) gU i109) k.sl.defers ?_;exact⟨_,rfl,k.st.bel.below,rfl⟩
abbrev v33(g o cap:Nat):Ut:=.slice (some ⟨g,o,none⟩) 33 cap
theorem TA(C:Fld P)(g o cap:Nat)(k:Bs)(w:Ur)(l:k.size=33)(Y:33<=cap)(c:g<w.heap.size)(J:Holds encB w g o k):UH prog 193 #[v33 g o cap] w (rZ w λe w'=>e=rdV (rd P k)):=by
 have G:=Ec J;have b:w.cell? ⟨g,o,none⟩=some (.int .u8 (ub k[0]!)):=by
  have:=(J 0 (by rw[l];decide)).1;rw[XD]at this;exact this
 go_enter func193,ntmps193;refine Hy (v0:=(v33 g o cap)) (n:=54) kR kR kR ?_;intro a0 L f0;have K:=RG.St.begin w;have M0:RG.M w w.heap.size [] 54 [] [] [(0,.v (v33 g o cap))] a0 _:=⟨K,L,⟨f0,yCn⟩⟩
 repeat refine Uz ?_
 refine M0.T [.m 0,.x (.bool false)] [(0,RG.z 8)] [] [RG.z 8] [0,2,3] ⟨mk 0 93,st,yCn⟩ ?_;intro j1 a1 w1 M1;repeat refine Uz ?_
 refine M1.U [.x (v33 g o cap),.x (iZ 33),.x (.bool false)] [0,2,3,9] ⟨st,fQ rfl 7 (.v (v33 g o cap)) (iZ 33) rfl sx (λa w=>kR) (λμ w=>kR),st,yCn⟩ ?_;intro a2 w2 M;repeat refine Uz ?_
 refine VI M.ev ?_;refine WU ?_;repeat refine Uz ?_
 unfold rd;rw[yCl l];by_cases I:tJ k
 ·rw[yCl I];refine M.U [.x (v33 g o cap),.x (oZ g o),.x (.agg (aA k).toArray),.x (.agg z33.toArray),.x (.bool true)] [2,3,15] ⟨st,CE rfl 102 11 (v33 g o cap) (oZ g o) rfl rfl sx (N3 g o cap),eH rfl g o c UY 102 12 rfl (aA k) rfl sx G u131 (by rw[aB l];exact i131),st,aQ rfl .eql 102 102 13 14 (.agg (aA k).toArray) (.agg z33.toArray) (.bool true) rfl rfl sx sx (λw=>kR) (Sk l I),yCn⟩ ?_;intro a3 w3 z;repeat refine Uz ?_
  refine VE z.ev ?_;repeat refine Uz ?_
  refine z.T [.x (pv (0:Fin P) (0:Fin P)),.u 0,.x (.bool true)] [] [(0,1,ws (0:Fin P)++(ws (0:Fin P)))] [ws (0:Fin P)++(ws (0:Fin P))] [2,3] ⟨se (gI (P:=P)),RG.pt i109,st,yCn⟩ ?_;intro a4 U f;refine Wr ?_;refine UE (v:=(.tuple #[pv (0:Fin P) (0:Fin P),.bool true])) (cQ f.st 2 3 93 rfl 0 _ rfl (f.at (s:=(.p 0 0))) _ (f.at (s:=(.v (.bool true)))) gU i109) f.sl.defers ?_;exact⟨_,rfl,f.st.bel.below,rfl⟩
 rw[yCm I];refine M.U [.x (v33 g o cap),.x (oZ g o),.x (.agg (aA k).toArray),.x (.agg z33.toArray),.x (.bool false)] [0,2,3,15] ⟨st,CE rfl 102 11 (v33 g o cap) (oZ g o) rfl rfl sx (N3 g o cap),eH rfl g o c UY 102 12 rfl (aA k) rfl sx G u131 (by rw[aB l];exact i131),st,aQ rfl .eql 102 102 13 14 (.agg (aA k).toArray) (.agg z33.toArray) (.bool false) rfl rfl sx sx (λw=>kR) (So l I),yCn⟩ ?_;intro a3 w3 z;repeat refine Uz ?_
 refine VI z.ev ?_;refine WU ?_;repeat refine Uz ?_
 by_cases i:ub k[0]! = 2\/ub k[0]! = 3
 rotate_left
 ·rw[yCm i];generalize ub k[0]! = m at b i;have T:¬m=2:=λh=>i (.inl h)
  have H:¬m=3:=λh=>i (.inr h)
  have j:∀w,(binOp .neq 5 (.int .u8 m) (.int .u8 2)).run prog w=.ok (.bool true) w:=λw=>by
   go_simp
  have d:∀w,(binOp .neq 5 (.int .u8 m) (.int .u8 3)).run prog w=.ok (.bool true) w:=λw=>by
   go_simp
  refine z.U [.x (v33 g o cap),.x (oZ g o),.x (.int .u8 m),.x (.bool true),.x (.bool true),.x (v33 g o cap),.x (oZ g o),.x (.int .u8 m),.x (.bool true),.x (.bool true)] [2,3,26] ⟨st,eM rfl 23 17 (iZ 0) rfl (.v (v33 g o cap)) sx (λμ w=>Ei g o 33 cap dC w),bM rfl g o c UY 5 18 rfl (.int .u8 m) rfl sx b u5,aP rfl .neq 5 5 19 (.int .u8 m) (.int .u8 2) (.bool true) rfl rfl sx (λw=>kR) j,st,st,eM rfl 23 22 (iZ 0) rfl (.v (v33 g o cap)) sx (λμ w=>Ei g o 33 cap dC w),bM rfl g o c UY 5 23 rfl (.int .u8 m) rfl sx b u5,aP rfl .neq 5 5 24 (.int .u8 m) (.int .u8 3) (.bool true) rfl rfl sx (λw=>kR) d,st,yCn⟩ ?_;intro a4 U f;repeat refine Uz ?_
  refine VE f.ev ?_;repeat refine Uz ?_
  refine f.T [.x (pv (0:Fin P) (0:Fin P)),.u 0,.x (.bool false)] [] [(0,1,ws (0:Fin P)++(ws (0:Fin P)))] [ws (0:Fin P)++(ws (0:Fin P))] [2,3] ⟨se (gI (P:=P)),RG.pt i109,st,yCn⟩ ?_;intro R V q;refine Wr ?_;refine UE (v:=(.tuple #[pv (0:Fin P) (0:Fin P),.bool false])) (cQ q.st 2 3 93 rfl 0 _ rfl (q.at (s:=(.p 0 0))) _ (q.at (s:=(.v (.bool false)))) gU i109) q.sl.defers ?_;exact⟨_,rfl,q.st.bel.below,rfl⟩
 rw[yCl i];rcases i with i|i
 case' inl=>refine z.u [.x 17 [] (v33 g o cap),.x 18 [(17,0)] (oZ g o),.x 19 [(18,1)] (.int .u8 2),.x 20 [(19,2)] (.bool false),.x 21 [(20,3)] (.bool false),⟨some 22,[],.v WR,.pass⟩,⟨some 23,[],.v WR,.pass⟩,⟨some 24,[],.v WR,.pass⟩,⟨some 25,[],.v WR,.pass⟩,.x 26 [(21,4),(25,8)] (.bool false)] [(0,.v (v33 g o cap)),(2,.p 0 0),(3,.v (.bool false)),(26,.v (.bool false))] ⟨st,eM rfl 23 17 (iZ 0) rfl (.v (v33 g o cap)) sx (λμ w=>Ei g o 33 cap dC w),bM rfl g o c UY 5 18 rfl (.int .u8 2) rfl sx (b.trans (by rw[i])) u5,st,st,dD rfl rfl,dD rfl rfl,dD rfl rfl,dD rfl rfl,st,yCn⟩ ?_
 case' inr=>refine z.U [.x (v33 g o cap),.x (oZ g o),.x (.int .u8 3),.x (.bool true),.x (.bool true),.x (v33 g o cap),.x (oZ g o),.x (.int .u8 3),.x (.bool false),.x (.bool false)] [0,2,3,26] ⟨st,eM rfl 23 17 (iZ 0) rfl (.v (v33 g o cap)) sx (λμ w=>Ei g o 33 cap dC w),bM rfl g o c UY 5 18 rfl (.int .u8 3) rfl sx (b.trans (by rw[i])) u5,st,st,st,eM rfl 23 22 (iZ 0) rfl (.v (v33 g o cap)) sx (λμ w=>Ei g o 33 cap dC w),bM rfl g o c UY 5 23 rfl (.int .u8 3) rfl sx (b.trans (by rw[i])) u5,st,st,yCn⟩ ?_
 all_goals
  intro a4 U f;repeat refine Uz ?_
  refine VI f.ev ?_;refine WU ?_;repeat refine Uz ?_
  by_cases hx:beV (uM k).toList<P
  rotate_left
  ·rw[yCm hx];have A:∀w',BelX w.heap.size [] w w'->UH prog 59 #[gv0,.slice (some ⟨g,o+1,none⟩) 32 (cap-1)] w' (Ret λe B=>kZ w' B/\e=.tuple #[fv (0:Fin P),.bool false]):=λw' F=>Ko C (nR l) oM hx (Ux c F.size) (Holds.below (tl33_holds l J) F.below c)
   refine f.D [.c gv0,.x (v33 g o cap),.x (.slice (some ⟨g,o+1,none⟩) 32 (cap-1)),.c (.tuple #[fv (0:Fin P),.bool false]),.x (.tuple #[fv (0:Fin P),.bool false]),.x (fv (0:Fin P)),.x (.bool false),.m 1,.u 1,.x (.bool false)] [(7,RG.z 4)] [(1,8,ws (0:Fin P))] [RG.z 8,ws (0:Fin P)] [2,3,5] ⟨cl bO,st,uF rfl 23 30 (iZ 1) (v33 g o cap) (.slice (some ⟨g,o+1,none⟩) 32 (cap-1)) rfl rfl sx (QN g o cap Y),kH rfl 59 29 31 gv0 (.slice (some ⟨g,o+1,none⟩) 32 (cap-1)) (.tuple #[fv (0:Fin P),.bool false]) rfl (λa w=>kR) sx sx A,st,st,st,mk 1 47,RG.pt i85,st,yCn⟩ ?_;intro j5 R V q;repeat refine Uz ?_
   refine q.U [.x (.bool false),.x (.bool true)] [2,3,36] ⟨st,st,yCn⟩ ?_;intro a6 w6 D;repeat refine Uz ?_
   refine VE D.ev ?_;repeat refine Uz ?_
   refine D.T [.x (pv (0:Fin P) (0:Fin P)),.u 0,.x (.bool false)] [] [(0,1,ws (0:Fin P)++(ws (0:Fin P)))] [ws (0:Fin P)++(ws (0:Fin P)),ws (0:Fin P)] [2,3] ⟨se (gI (P:=P)),RG.pt i109,st,yCn⟩ ?_;intro S Z p;refine Wr ?_;refine UE (v:=(.tuple #[pv (0:Fin P) (0:Fin P),.bool false])) (cQ p.st 2 3 93 rfl 0 _ rfl (p.at (s:=(.p 0 0))) _ (p.at (s:=(.v (.bool false)))) gU i109) p.sl.defers ?_;exact⟨_,rfl,p.st.bel.below,rfl⟩
  rw[yCl hx];have E:beV (uM k).toList=(rdx P k).val:=(US hx).symm;generalize rdx P k=x at E;have A:∀w',BelX w.heap.size [] w w'->UH prog 59 #[gv0,.slice (some ⟨g,o+1,none⟩) 32 (cap-1)] w' (Ret λe B=>kZ w' B/\e=.tuple #[fv x,.bool true]):=λw' F=>Kn C (nR l) oM E (Ux c F.size) (Holds.below (tl33_holds l J) F.below c)
  refine f.D [.c gv0,.x (v33 g o cap),.x (.slice (some ⟨g,o+1,none⟩) 32 (cap-1)),.c (.tuple #[fv x,.bool true]),.x (.tuple #[fv x,.bool true]),.x (fv x),.x (.bool true),.m 1,.u 1,.x (.bool true)] [(7,RG.z 4)] [(1,8,ws x)] [RG.z 8,ws x] [0,2,3,4,5] ⟨cl bO,st,uF rfl 23 30 (iZ 1) (v33 g o cap) (.slice (some ⟨g,o+1,none⟩) 32 (cap-1)) rfl rfl sx (QN g o cap Y),kH rfl 59 29 31 gv0 (.slice (some ⟨g,o+1,none⟩) 32 (cap-1)) (.tuple #[fv x,.bool true]) rfl (λa w=>kR) sx sx A,st,st,st,mk 1 47,RG.pt i85,st,yCn⟩ ?_;intro j5 R V q;repeat refine Uz ?_
  refine q.U [.x (.bool true),.x (.bool false)] [0,2,3,4,5,36] ⟨st,st,yCn⟩ ?_;intro a6 w6 D;repeat refine Uz ?_
  refine VI D.ev ?_;refine WU ?_;repeat refine Uz ?_
  cases Q:rt (x*x*x+7) with
  | none =>
   refine D.T [.x (fv x),.c (.tuple #[pv (0:Fin P) (0:Fin P),.bool false]),.x (.tuple #[pv (0:Fin P) (0:Fin P),.bool false]),.x (pv (0:Fin P) (0:Fin P)),.x (.bool false),.m 2,.u 2,.x (.bool false)] [(5,RG.z 8)] [(2,6,ws (0:Fin P)++(ws (0:Fin P)))] [RG.z 8,ws x,ws (0:Fin P)++(ws (0:Fin P))] [2,3,5,6] ⟨ld u85 i85,yL rfl 115 39 (fv x) (.tuple #[pv (0:Fin P) (0:Fin P),.bool false]) rfl (λa w=>kR) sx (Ap C x Q),st,st,st,mk 2 93,RG.pt i109,st,yCn⟩ ?_;intro j7 S Z p;repeat refine Uz ?_
   refine p.u [.x 43 [] (.bool false),.x 44 [(43,0)] (.bool false),⟨some 45,[],.v WR,.pass⟩,⟨some 46,[],.v WR,.pass⟩,⟨some 47,[],.v WR,.pass⟩,⟨some 48,[],.v WR,.pass⟩,.x 49 [(44,1),(48,5)] (.bool false)] [(2,.p 0 0),(3,.v (.bool false)),(5,.v (.bool false)),(6,.p 2 0),(49,.v (.bool false))] ⟨st,st,dD rfl rfl,dD rfl rfl,dD rfl rfl,dD rfl rfl,st,yCn⟩ ?_;intro X w8 u;repeat refine Uz ?_
   refine VI u.ev ?_;refine WU ?_;repeat refine Uz ?_
   refine u.T [.x (pv (0:Fin P) (0:Fin P)),.x (.bool false),.u 0,.x (.bool false)] [] [(0,2,ws (0:Fin P)++(ws (0:Fin P)))] [ws (0:Fin P)++(ws (0:Fin P)),ws x,ws (0:Fin P)++(ws (0:Fin P))] [2,3] ⟨ld gU i109,st,RG.pt i109,st,yCn⟩ ?_;intro W O d;refine Wr ?_;refine UE (v:=(.tuple #[pv (0:Fin P) (0:Fin P),.bool false])) (cQ d.st 2 3 93 rfl 0 _ rfl (d.at (s:=(.p 0 0))) _ (d.at (s:=(.v (.bool false)))) gU i109) d.sl.defers ?_;exact⟨_,rfl,d.st.bel.below,rfl⟩
  | some y =>
   refine D.T [.x (fv x),.c (.tuple #[pv x y,.bool true]),.x (.tuple #[pv x y,.bool true]),.x (pv x y),.x (.bool true),.m 2,.u 2,.x (.bool true)] [(5,RG.z 8)] [(2,6,ws x++(ws y))] [RG.z 8,ws x,ws x++(ws y)] [0,2,3,5,6] ⟨ld u85 i85,yL rfl 115 39 (fv x) (.tuple #[pv x y,.bool true]) rfl (λa w=>kR) sx (Ao C x y Q),st,st,st,mk 2 93,RG.pt i109,st,yCn⟩ ?_;intro j7 S Z p;repeat refine Uz ?_
   rw[Yx];by_cases H:ub k[0]! = 3
   ·rw[yCl H];generalize N:0-y=t;have r:Gives 227 #[pv x y] (pv x t):=N ▸ OV C x y;refine p.U [.x (.bool true),.x (.bool true),.x (v33 g o cap),.x (oZ g o),.x (.int .u8 3),.x (.bool true),.x (.bool true)] [2,3,5,6,49] ⟨st,st,st,eM rfl 23 45 (iZ 0) rfl (.v (v33 g o cap)) sx (λμ w=>Ei g o 33 cap dC w),bM rfl g o c UY 5 46 rfl (.int .u8 3) rfl sx (b.trans (by rw[H])) u5,st,st,yCn⟩ ?_;intro X w8 u;repeat refine Uz ?_
    refine VE u.ev ?_;repeat refine Uz ?_
    refine u.T [.x (pv x y),.c (pv x t),.u 2] [] [(2,2,ws x++(ws t))] [RG.z 8,ws x,ws x++(ws t)] [2,3,5,6] ⟨ld gU i109,cl r,RG.pt i109,yCn⟩ ?_;intro W O d;repeat refine Uz ?_
    refine d.T [.x (pv x t),.x (.bool true),.u 0,.x (.bool true)] [] [(0,2,ws x++(ws t))] [ws x++(ws t),ws x,ws x++(ws t)] [2,3] ⟨ld gU i109,st,RG.pt i109,st,yCn⟩ ?_;intro h0 h1 j;refine Wr ?_;refine UE (v:=(.tuple #[pv x t,.bool true])) (cQ j.st 2 3 93 rfl 0 _ rfl (j.at (s:=(.p 0 0))) _ (j.at (s:=(.v (.bool true)))) gU i109) j.sl.defers ?_;exact⟨_,rfl,j.st.bel.below,rfl⟩
   ·rw[yCm H];have T:ub k[0]! = 2:=oM;refine p.U [.x (.bool true),.x (.bool true),.x (v33 g o cap),.x (oZ g o),.x (.int .u8 2),.x (.bool false),.x (.bool false)] [2,3,5,6,49] ⟨st,st,st,eM rfl 23 45 (iZ 0) rfl (.v (v33 g o cap)) sx (λμ w=>Ei g o 33 cap dC w),bM rfl g o c UY 5 46 rfl (.int .u8 2) rfl sx (b.trans (by rw[T])) u5,st,st,yCn⟩ ?_;intro X w8 u;repeat refine Uz ?_
    refine VI u.ev ?_;refine WU ?_;repeat refine Uz ?_
    refine u.T [.x (pv x y),.x (.bool true),.u 0,.x (.bool true)] [] [(0,2,ws x++(ws y))] [ws x++(ws y),ws x,ws x++(ws y)] [2,3] ⟨ld gU i109,st,RG.pt i109,st,yCn⟩ ?_;intro W O d;refine Wr ?_;refine UE (v:=(.tuple #[pv x y,.bool true])) (cQ d.st 2 3 93 rfl 0 _ rfl (d.at (s:=(.p 0 0))) _ (d.at (s:=(.v (.bool true)))) gU i109) d.sl.defers ?_;exact⟨_,rfl,d.st.bel.below,rfl⟩
def Arg33(w:Ur)(v:Ut)(k:Bs):Prop:=∃(p:Option Ww) (n cap:Nat),v=.slice p n cap/\k.size=n/\(n=33->∃g o,p=some ⟨g,o,none⟩/\33<=cap/\g<w.heap.size/\Holds encB w g o k)
theorem Arg33.below{w k:Ur}{v:Ut}{d:Bs}(h:Arg33 w v d)(b:kZ w k):Arg33 k v d:=by
 obtain⟨p,n,cap,rfl,e,j⟩:=h;refine⟨p,n,cap,rfl,e,λf=>?_⟩;obtain⟨g,o,l,i,c,m⟩:=j f;exact⟨g,o,l,i,Ux c b.size,Holds.below m b c⟩
theorem mZ(C:Fld P)(v:Ut)(b:Bs)(w:Ur)(hv:Arg33 w v b):UH prog 193 #[v] w (rZ w λe w'=>e=rdV (rd P b)):=by
 obtain⟨p,n,cap,rfl,c,f⟩:=hv;by_cases k:n=33
 ·subst k;obtain⟨g,o,rfl,j,d,i⟩:=f rfl;exact TA C g o cap b w c j d i
 ·unfold rd;rw[yCm (by rw[c];exact k)];exact OP C p n cap 0 w k
end
section
open Go.RowKit Go.Sort Go.Deep
variable {P:Nat}[NeZero P]{N:Nat}
def bx(n:Nat):Bs:=be32 (n%18446744073709551616) (n/18446744073709551616%18446744073709551616) (n/340282366920938463463374607431768211456%18446744073709551616) (n/6277101735386680763835789423207666416102355444464034512896%18446744073709551616)
theorem eE(n:Nat):(bx n).size=32:=by unfold bx;exact Al _ _ _ _
def mark(n:Nat):UInt8:=if n%2=1 then 3 else 2
def tD(x y:Fin P):Bs:=if x=0/\y=0 then UJ 33 0 else #[mark y.val]++bx x.val
theorem Gg(C:Fld P)(x:Fin P)(w:Ur):UH prog 117 #[fv x] w (rZ w λe w'=>∃g,e=sZ g 32 32/\w.heap.size<=g/\Holds encB w' g 0 (bx x.val)):=
 (As _ _ w (C.four x)).mono (by
  rintro e w' ⟨v,rfl,j,g,a,b,c,d,rfl,l,k,f⟩;refine⟨_,rfl,j,g,rfl,l,?_⟩;have i:fv x=.agg #[uZ ((x.val%18446744073709551616:Nat):Int),uZ ((x.val/18446744073709551616%18446744073709551616:Nat):Int),uZ ((x.val/340282366920938463463374607431768211456%18446744073709551616:Nat):Int),uZ ((x.val/6277101735386680763835789423207666416102355444464034512896%18446744073709551616:Nat):Int)]:=rfl;rw[i]at k;simp only[Value.agg.injEq,Array.mk.injEq,yB8.injEq,VZ.injEq,true_and,and_true,Int.ofNat_inj]at k;obtain⟨rfl,rfl,rfl,rfl⟩:=k;exact f)
theorem Oc(C:Fld P)(y:Fin P):Gives 116 #[fv y] (.bool (decide (y.val%2=1))):=λw =>
 (Gc _ _ (C.four y) w).mono (by rintro e w' ⟨v,rfl,k,rfl⟩;exact⟨_,rfl,k,rfl⟩)
theorem DN:(prog.info? 5).map (λi=>(i.zero,i.size,i.bytes))=some (some (.int .u8 0),1,1):=kR
theorem H5:prog.underlying 23=some (.slice 5):=kR
def mL(w:Ur)(T:Bs)(e:Ut)(w':Ur):Prop:=∃g cap,e=sZ g 33 cap/\33<=cap/\w.heap.size<=g/\g<w'.heap.size/\Holds encB w' g 0 T
theorem TO(w:Ur):(XE 23 (iZ 33) (iZ 33)).run prog w=.ok (sZ w.heap.size 33 33) (w.alloc (.cells (madeCells #[.int .u8 0] 33) 5)):=
 yBG (P:=prog) 23 5 (.int .u8 0) 1 H5 DN rfl .i64 .i64 33 dC dC w
theorem Pl(w:Ur)(o:Obj):Holds encB ((w.alloc o).alloc (.cells (madeCells #[.int .u8 0] 33) 5)) (w.heap.size+1) 0 (UJ 33 0):=by
 have h:=Holds.made (enc:=encB) (w.alloc o) 5 33 (0:UInt8);rw[UB]at h;exact h
omit [NeZero P] in
theorem kT(x y:Fin P):pv x y=.agg #[uZ ((x.val%18446744073709551616:Nat):Int),uZ ((x.val/18446744073709551616%18446744073709551616:Nat):Int),uZ ((x.val/340282366920938463463374607431768211456%18446744073709551616:Nat):Int),uZ ((x.val/6277101735386680763835789423207666416102355444464034512896%18446744073709551616:Nat):Int),uZ ((y.val%18446744073709551616:Nat):Int),uZ ((y.val/18446744073709551616%18446744073709551616:Nat):Int),uZ ((y.val/340282366920938463463374607431768211456%18446744073709551616:Nat):Int),uZ ((y.val/6277101735386680763835789423207666416102355444464034512896%18446744073709551616:Nat):Int)]:=rfl
theorem D9(C:Fld P)(x y:Fin P)(i:x=0/\y=0)(w:Ur):UH prog 52 #[pv x y] w (rZ w λe w'=>mL w (UJ 33 0) e w'):=by
 have k:=JC C (x:=x) (y:=y) (z:=0) (t:=0) i;rw[<-gI,kT]at k;rw[kT];generalize ((x.val%18446744073709551616:Nat):Int)=a at k⊢;generalize ((x.val/18446744073709551616%18446744073709551616:Nat):Int)=b at k⊢;generalize ((x.val/340282366920938463463374607431768211456%18446744073709551616:Nat):Int)=c at k⊢;generalize ((x.val/6277101735386680763835789423207666416102355444464034512896%18446744073709551616:Nat):Int)=d at k⊢;generalize ((y.val%18446744073709551616:Nat):Int)=p at k⊢;generalize ((y.val/18446744073709551616%18446744073709551616:Nat):Int)=q at k⊢;generalize ((y.val/340282366920938463463374607431768211456%18446744073709551616:Nat):Int)=r at k⊢;generalize ((y.val/6277101735386680763835789423207666416102355444464034512896%18446744073709551616:Nat):Int)=s at k⊢;have j:=TO;generalize g:(UJ 33 0:Bs)=T;go_enter func52,ntmps52;go_wp2;go_ret;have f:=Pl w (.cells #[uZ a,uZ b,uZ c,uZ d,uZ p,uZ q,uZ r,uZ s] 93);rw[g]at f;exact⟨_,rfl,below2 _ _ _,_,33,rfl,oM,oM,by simp,f⟩
theorem Jq(w:Ur)(k g m:Nat)(B:Bs)(l:B.size=32)(s:w.cell? ⟨k,0,none⟩=some (.int .u8 m))(p:Holds encB w g 0 B)(n:m<256:=by decide):
 ∃(w':Ur) (cap:Nat),(Vt #[23,23] 23 #[sZ k 1 1,sZ g 32 32]).run prog w=.ok (sZ w.heap.size 33 cap) w'/\kZ w w'/\33<=cap/\w.heap.size<w'.heap.size/\Holds encB w' w.heap.size 0 (#[UM m]++B):=by
 obtain⟨i,r,d⟩:=Uy.1 DN;simp only[V8.injEq]at d;obtain⟨q,f,o⟩:=d;have e:=run_append_grow (P:=prog) w 23 23 5 i (.int .u8 0) H5 r q (aZ k) 1 1 [.int .u8 m] (by rw[f];rfl) (λj v b=>by
  cases j with
  | zero =>
   obtain rfl:VZ .u8 m=v:=by simpa using b
   rw[yBJ];exact s
  | succ j=>simp at b) ⟨g,0,none⟩ 32 32 (B.toList.map encB) (by rw[f,UQ,UK,l]) (λj v b=>by
  have c:j<B.size:=by
   have:=(UF.1 b).1;rwa[UQ,UK]at this
  rw[yBJ,(p j c).1];rw[Vz,Vq,U0 c]at b;rw[getElem!_pos B j c];exact b) dC dC (by rw[o];decide)
 refine⟨_,_,e,?_,?_,?_,?_⟩
 ·exact(UR _ w).drew.trans (aC w.drew _)
 ·exact grownCap_ge w (1+32) 1 5
 ·show w.drew.heap.size<(w.drew.alloc _).heap.size;rw[UB];exact YI _
 ·intro j b;have c:(#[UM m]++B).size=33:=by rw[VN,l];rfl
  refine⟨?_,Wx w.drew _ _ _⟩;show(w.drew.alloc _).cell? ⟨w.drew.heap.size,0+j,none⟩=_;rw[UD,Vd,getElem!_pos _ j b,XZ (by
   rw[VN,VC,VC,UQ,UK];show j<1+B.size;omega)]
  cases j with
  | zero =>
   rw[XZ (by simp),Z4 (by simp)];show some (VZ .u8 m)=some (encB (UM m));unfold encB;rw[mQ,US n]
  | succ i =>
   rw[YE (by simp),ZY (by simp),Vg,Vz,Vq];show Option.map encB B[i]? = some (encB B[i]);rw[U0 oM];rfl
theorem NG(w:Ur)(a b c d p q r s:Nat):Kept w w.heap.size [⟨w.heap.size,0,a,b,c,d⟩,⟨w.heap.size,4,p,q,r,s⟩] (w.alloc (.cells #[uZ a,uZ b,uZ c,uZ d,uZ p,uZ q,uZ r,uZ s] 93)):=by
 have F:=At8.made w 93 a b c d p q r s rfl;refine((Kept.mk1 (aC w _) (aC w _).size).cons ?_).cons ?_
 ·exact⟨F.c4,F.c5,F.c6,F.c7,F.fz⟩
 ·exact⟨F.c0,F.c1,F.c2,F.c3,F.fz⟩
theorem G6(C:Fld P)(x y:Fin P)(O:¬(x=0/\y=0))(ho:y.val%2=1)(w:Ur):UH prog 52 #[pv x y] w (rZ w λe w'=>mL w (#[3]++bx x.val) e w'):=by
 have f:=DW C (x:=x) (y:=y) (z:=0) (t:=0) O;rw[<-gI,kT]at f;rw[kT];have i:∀w,UH prog 116 #[.agg #[uZ ((y.val%18446744073709551616:Nat):Int),uZ ((y.val/18446744073709551616%18446744073709551616:Nat):Int),uZ ((y.val/340282366920938463463374607431768211456%18446744073709551616:Nat):Int),uZ ((y.val/6277101735386680763835789423207666416102355444464034512896%18446744073709551616:Nat):Int)]] w (rZ w λe w'=>e=.bool true):=λw=>by
  have h:=Oc C y w;rw[decide_eq_true ho]at h;exact h
 have k:∀w,UH prog 117 #[.agg #[uZ ((x.val%18446744073709551616:Nat):Int),uZ ((x.val/18446744073709551616%18446744073709551616:Nat):Int),uZ ((x.val/340282366920938463463374607431768211456%18446744073709551616:Nat):Int),uZ ((x.val/6277101735386680763835789423207666416102355444464034512896%18446744073709551616:Nat):Int)]] w (rZ w λe w'=>∃g,e=sZ g 32 32/\w.heap.size<=g/\Holds encB w' g 0 (bx x.val)):=Gg C x;have m:=eE x.val;generalize bx x.val=B at k m⊢;generalize x.val%18446744073709551616=a at f i k⊢;generalize x.val/18446744073709551616%18446744073709551616=b at f i k⊢;generalize x.val/340282366920938463463374607431768211456%18446744073709551616=c at f i k⊢;generalize x.val/6277101735386680763835789423207666416102355444464034512896%18446744073709551616=d at f i k⊢;generalize y.val%18446744073709551616=p at f i k⊢;generalize y.val/18446744073709551616%18446744073709551616=q at f i k⊢;generalize y.val/340282366920938463463374607431768211456%18446744073709551616=r at f i k⊢;generalize y.val/6277101735386680763835789423207666416102355444464034512896%18446744073709551616=s at f i k⊢;have T:=mk1 (f);go_enter func52,ntmps52;go_wp2_with fail
 have j:=NG w a b c d p q r s;generalize I:w.heap.size=V at j⊢;refine(i _).mono ?_;rintro e u ⟨v,rfl,F,rfl⟩;replace j:=j.call F;obtain⟨M,S,Q,K,W⟩:=j.head;have zx:=j.head.lt;go_wp2_with fail
 refine(k _).mono ?_;rintro e J ⟨v,rfl,l,g,rfl,U,N⟩;have R:J.cell? ⟨u.heap.size,0,none⟩=some (.int .u8 3):=by
  rw[l.cell (p:=⟨u.heap.size,0,none⟩) (by show u.heap.size<_;rw[UB];omega),Vd];rfl
 have n:=UC j.le (UC (by rw[UB];omega) l.size);have H:=mk1 (((j.alloc _).call l).bl);obtain⟨X,L,A,G,D,o,E⟩:=Jq J u.heap.size g 3 B m R N;go_wp2_with (at_builtin;refine WL _ rfl _ _ 23 23 rfl _ _ rfl rfl _ _ A ?_)
 go_ret;refine⟨_,rfl,?_,_,L,rfl,D,?_,o,E⟩
 ·rw[I];exact H.trans (G.mono n)
 ·rw[I];exact n
theorem Eb(C:Fld P)(x y:Fin P)(O:¬(x=0/\y=0))(ho:¬y.val%2=1)(w:Ur):UH prog 52 #[pv x y] w (rZ w λe w'=>mL w (#[2]++bx x.val) e w'):=by
 have f:=DW C (x:=x) (y:=y) (z:=0) (t:=0) O;rw[<-gI,kT]at f;rw[kT];have i:∀w,UH prog 116 #[.agg #[uZ ((y.val%18446744073709551616:Nat):Int),uZ ((y.val/18446744073709551616%18446744073709551616:Nat):Int),uZ ((y.val/340282366920938463463374607431768211456%18446744073709551616:Nat):Int),uZ ((y.val/6277101735386680763835789423207666416102355444464034512896%18446744073709551616:Nat):Int)]] w (rZ w λe w'=>e=.bool false):=λw=>by
  have h:=Oc C y w;rw[decide_eq_false ho]at h;exact h
 have k:∀w,UH prog 117 #[.agg #[uZ ((x.val%18446744073709551616:Nat):Int),uZ ((x.val/18446744073709551616%18446744073709551616:Nat):Int),uZ ((x.val/340282366920938463463374607431768211456%18446744073709551616:Nat):Int),uZ ((x.val/6277101735386680763835789423207666416102355444464034512896%18446744073709551616:Nat):Int)]] w (rZ w λe w'=>∃g,e=sZ g 32 32/\w.heap.size<=g/\Holds encB w' g 0 (bx x.val)):=Gg C x;have m:=eE x.val;generalize bx x.val=B at k m⊢;generalize x.val%18446744073709551616=a at f i k⊢;generalize x.val/18446744073709551616%18446744073709551616=b at f i k⊢;generalize x.val/340282366920938463463374607431768211456%18446744073709551616=c at f i k⊢;generalize x.val/6277101735386680763835789423207666416102355444464034512896%18446744073709551616=d at f i k⊢;generalize y.val%18446744073709551616=p at f i k⊢;generalize y.val/18446744073709551616%18446744073709551616=q at f i k⊢;generalize y.val/340282366920938463463374607431768211456%18446744073709551616=r at f i k⊢;generalize y.val/6277101735386680763835789423207666416102355444464034512896%18446744073709551616=s at f i k⊢;have T:=mk1 (f);go_enter func52,ntmps52;go_wp2_with fail
 have j:=NG w a b c d p q r s;generalize I:w.heap.size=V at j⊢;refine(i _).mono ?_;rintro e u ⟨v,rfl,F,rfl⟩;replace j:=j.call F;obtain⟨M,S,Q,K,W⟩:=j.head;have zx:=j.head.lt;go_wp2_with fail
 refine(k _).mono ?_;rintro e J ⟨v,rfl,l,g,rfl,U,N⟩;have R:J.cell? ⟨u.heap.size,0,none⟩=some (.int .u8 2):=by
  rw[l.cell (p:=⟨u.heap.size,0,none⟩) (by show u.heap.size<_;rw[UB];omega),Vd];rfl
 have n:=UC j.le (UC (by rw[UB];omega) l.size);have H:=mk1 (((j.alloc _).call l).bl);obtain⟨X,L,A,G,D,o,E⟩:=Jq J u.heap.size g 2 B m R N;go_wp2_with (at_builtin;refine WL _ rfl _ _ 23 23 rfl _ _ rfl rfl _ _ A ?_)
 go_ret;refine⟨_,rfl,?_,_,L,rfl,D,?_,o,E⟩
 ·rw[I];exact H.trans (G.mono n)
 ·rw[I];exact n
theorem vK(C:Fld P)(x y:Fin P)(w:Ur):UH prog 52 #[pv x y] w (rZ w λe w'=>mL w (tD x y) e w'):=by
 unfold tD mark;by_cases k:x=0/\y=0
 ·rw[yCl k];exact D9 C x y k w
 ·rw[yCm k];by_cases ho:y.val%2=1
  ·rw[yCl ho];exact G6 C x y k ho w
  ·rw[yCm ho];exact Eb C x y k ho w
theorem u23:(prog.underlying 23).map (·.isRow)=some false:=kR
theorem Ni(k o n c i:Nat)(b:i<n)(w:Ur):(Vl 24 (.slice (some ⟨k,o,none⟩) n c) (iZ i)).run prog w=.ok (.pointer (some ⟨k,o+i,none⟩)) w:=by
 go_simp
theorem Rz(N:Nat)(j:N<=512):∃C0:List Ut,C0.length=8*N/\∀w:Ur,(XE 100 (iZ N) (iZ N)).run prog w=.ok (sZ w.heap.size N N) (w.alloc (.cells C0.toArray 93)):=by
 have g:prog.underlying 100=some (.slice 93):=kR;have d:(prog.info? 93).map (λi=>(i.size,decide (i.bytes<=4000),i.zero.isSome))=some (8,true,true):=kR;obtain⟨i,b,k⟩:=Uy.1 d;simp only[V8.injEq,decide_eq_true_eq]at k;obtain⟨e,l,f⟩:=k;obtain⟨z,c⟩:=Vr.1 f;refine⟨(madeCells z.cells (N*8)).toList,by rw[UK,YK,Vv],λw=>?_⟩;have m:(i.bytes:Int)*(N:Int)<=281474976710656:=by
  have:i.bytes*N<=4000*512:=WS l j;have n:((i.bytes*N:Nat):Int)<=281474976710656:=oM;rwa[Xy]at n
 have:=run_make (P:=prog) w 100 93 i z g b c .i64 .i64 (N:Int) (N:Int) oM oM m oM;rw[X4,e]at this;rw[XF];exact this
theorem TM(N:Nat)(j:N<=512):∃C0:List Ut,C0.length=4*N/\∀w:Ur,(XE 89 (iZ N) (iZ N)).run prog w=.ok (sZ w.heap.size N N) (w.alloc (.cells C0.toArray 47)):=by
 have g:prog.underlying 89=some (.slice 47):=kR;have d:(prog.info? 47).map (λi=>(i.size,decide (i.bytes<=4000),i.zero.isSome))=some (4,true,true):=kR;obtain⟨i,b,k⟩:=Uy.1 d;simp only[V8.injEq,decide_eq_true_eq]at k;obtain⟨e,l,f⟩:=k;obtain⟨z,c⟩:=Vr.1 f;refine⟨(madeCells z.cells (N*4)).toList,by rw[UK,YK,Vv],λw=>?_⟩;have m:(i.bytes:Int)*(N:Int)<=281474976710656:=by
  have:i.bytes*N<=4000*512:=WS l j;have n:((i.bytes*N:Nat):Int)<=281474976710656:=oM;rwa[Xy]at n
 have:=run_make (P:=prog) w 89 47 i z g b c .i64 .i64 (N:Int) (N:Int) oM oM m oM;rw[X4,e]at this;rw[XF];exact this
structure Rows(sz N:Nat)(cell:Nat->List Ut)(m:Nat)(C:List Ut):Prop where
 len:C.length=sz*N
 row:∀j r,j<m->r<sz->C[sz*j+r]? = (cell j)[r]?
theorem Rows.next{sz N m:Nat}{cell:Nat->List Ut}{C:List Ut}(h:Rows sz N cell m C)(e:m<N)(b:(cell m).length=sz):Rows sz N cell (m+1) (rep C (0+sz*m) (cell m)):=by
 have k:=h.len;have i:sz*m+sz<=sz*N:=by rw[<-Yk];exact Yj _ e
 have d:0+sz*m+(cell m).length<=C.length:=by rw[b];omega
 refine⟨by rw[cU d];exact k,λj r g f=>?_⟩;rw[RG.rep_at d];by_cases c:j=m
 ·subst c;rw[yCl (by rw[b];omega),show sz*j+r-(0+sz*j)=r by omega]
 ·have l:sz*j+sz<=sz*m:=by rw[<-Yk];exact Yj _ oM
  rw[yCm (by rw[b];omega)];exact h.row j r oM f
def rq(N:Nat)(k:Bs):Option Nat:=if k.size=32/\beV k.toList<N then some (beV k.toList) else none
def rqV:Option Nat->Ut
 | none=>.tuple #[nv 0,.bool false]
 | some n=>.tuple #[nv n,.bool true]
theorem fH:Gives 58 #[] gv1:=λw=>(CS w).mono (by rintro e w' ⟨rfl,rfl⟩;exact⟨_,rfl,aC _ _,rfl⟩)
theorem AM{N:Nat}(hG:Gap 4624529908474429119 4994812053365940164 1 N)(v:Ut)(d:Bs)(w:Ur)(hv:Arg w v d):UH prog 59 #[gv1,v] w (rZ w λe w'=>e=rqV (rq N d)):=by
 obtain⟨p,n,cap,rfl,c,l⟩:=hv;unfold rq;by_cases b:n=32
 ·subst b;obtain⟨g,o,rfl,j,m,q⟩:=l rfl;refine(yW _ _ _ N g o cap d hG w c j m q).mono ?_;rintro e w' ⟨v,rfl,k,⟨f,r,rfl,i⟩|⟨f,rfl⟩⟩
  ·rw[yCl ⟨c,f⟩];exact⟨_,rfl,k,by rw[i.nv];rfl⟩
  ·rw[yCm (λh=>oM)];exact⟨_,rfl,k,rfl⟩
 ·refine(Ks _ p n cap w _ _ _ rfl b).mono ?_;rintro e w' ⟨v,rfl,k,rfl⟩;rw[yCm (λh=>b (c.symm.trans h.1))];exact⟨_,rfl,k,rfl⟩
end
section
open Go.RowKit Go.Sort
variable {P:Nat}[NeZero P]{N:Nat}
structure RefP(p0 p1 p2 p3 c0 c1 c2 c3 P:Nat):Prop where
 hp0:p0<18446744073709551616
 hp1:p1<18446744073709551616
 hp2:p2<18446744073709551616
 hp3:p3<18446744073709551616
 hc0:c0<18446744073709551616
 hc1:c1<18446744073709551616
 hc2:c2<18446744073709551616
 hc3:c3<18446744073709551616
 eP:P=val p0 p1 p2 p3
 hP:P+val c0 c1 c2 c3=top
 hP2:top<2*P
theorem QV:RefP 13822214165235122497 13451932020343611451 18446744073709551614 18446744073709551615 4624529908474429119 4994812053365940164 1 0 Go.Proofs.YtdoammpgchejcaaGreat.p1:=
 ⟨dC,dC,dC,dC,dC,dC,dC,dC,dK,dK,dK⟩
def Uq(v:Ut)(n:Nat):Prop:=∃a b c d f e g k:Nat,v=.agg #[uZ a,uZ b,uZ c,uZ d,uZ f,uZ e,uZ g,uZ k] /\
 a<18446744073709551616/\b<18446744073709551616/\c<18446744073709551616/\d<18446744073709551616/\f<18446744073709551616/\e<18446744073709551616/\g<18446744073709551616/\k<18446744073709551616 /\
 n=val a b c d+top*val f e g k
end
section
open Go.RowKit Go.Sort Go.Deep
variable {P:Nat}[NeZero P]{N:Nat}
def wordOf(a b c d k:Nat):Nat:=if k<8 then a else if k<16 then b else if k<24 then c else d
end
section
open Go.RowKit Go.Sort Go.Deep
structure Ord(N:Nat):Prop where
 gap:Gap 4624529908474429119 4994812053365940164 1 N
 ref:RefP 13822214165235122497 13451932020343611451 18446744073709551614 18446744073709551615 4624529908474429119 4994812053365940164 1 0 N
 le:N<=top
 n2:2<=N%18446744073709551616
variable {N:Nat}
theorem Ord.pos(O:Ord N):0<N:=by have:=O.n2;omega
theorem Ord.four(O:Ord N)(h:a<N):Four (nv a) a:=vF (Ux h O.le)
def sMi(N a b:Nat):Nat:=(a+N-b)%N
def sTi(N a b:Nat):Nat:=a*b%N
def sIn(N a:Nat):Nat:=a^(N-2)%N
theorem Iw(O:Ord N){b:Nat}(c:a<N)(k:b<N):Gives 198 #[gv1,nv a,nv b] (nv (sMi N a b)):=λw =>
 (tK _ _ _ N _ _ a b O.gap (O.four c) (O.four k) c k w).mono (by rintro e w' ⟨v,rfl,k,d⟩;exact⟨_,rfl,k,d.nv⟩)
theorem Iu(O:Ord N){b:Nat}(c:a<N)(k:b<N):Gives 154 #[gv1,nv a,nv b] (nv (sTi N a b)):=λw =>
 (oN _ _ _ N _ _ a b O.gap (O.four c) (O.four k) w).mono (by rintro e w' ⟨v,rfl,k,d⟩;exact⟨_,rfl,k,d.nv⟩)
theorem OM(O:Ord N)(k:a<N):Gives 185 #[gv1,nv a] (nv (sIn N a)):=λw =>
 (uJ _ _ _ N _ a O.gap O.n2 (O.four k) w).mono (by rintro e w' ⟨v,rfl,c,b⟩;exact⟨_,rfl,c,b.nv⟩)
theorem IZ{x y z u:Nat}(h:nv a=.agg #[uZ x,uZ y,uZ z,uZ u]):be32 x y z u=bx a:=by
 have k:wn a=[uZ x,uZ y,uZ z,uZ u]:=by
  unfold nv at h;injection h with h
  exact congrArg Array.toList h
 unfold wn at k;simp only[yB8.injEq,VZ.injEq,true_and,and_true,Int.natCast_inj]at k;obtain⟨rfl,rfl,rfl,rfl⟩:=k;rfl
def cb(b:Bs):List Ut:=b.toList.map encB
theorem oJ(b:Bs):(cb b).length=b.size:=by unfold cb;rw[UQ,UK]
theorem rL{w:Ur}{b:Bs}(h:Holds encB w g 0 b):w.rangeAt g 0 (cb b)/\w.there g 0 (cb b).length:=by
 refine⟨λj v hv=>?_,λj k=>?_⟩
 ·have k:j<b.size:=by rw[<-oJ];exact(UF.1 hv).1
  rw[(h j k).1];unfold cb at hv;rw[Vz,Vq,U0 k]at hv;rw[getElem!_pos b j k];exact hv
 ·rw[oJ]at k;exact⟨by rw[(h j k).1];rfl,(h j k).2⟩
theorem cb_holds{w:Ur}{b:Bs}(c:w.rangeAt g 0 (cb b))(d:w.there g 0 (cb b).length):Holds encB w g 0 b:=λj k=>by
 refine⟨c j _ ?_,(d j (by rw[oJ];exact k)).2⟩;unfold cb;rw[Vz,Vq,U0 k,getElem!_pos b j k];rfl
def Ky(f:FuncId)(args:Array Ut)(b:Bs)(n:Nat):Prop:=∀w,UH prog f args w (Ret λe w'=>∃k,Made w k (cb b) w'/\e=sZ k n n)
theorem Ix(O:Ord N)(j:a<N):Ky 117 #[nv a] (bx a) 32:=λw =>
 (As _ a w (O.four j)).mono (by
  rintro e w' ⟨v,rfl,i,g,x,y,z,u,rfl,k,c,b⟩;rw[IZ c]at b;obtain⟨f,d⟩:=rL b;exact⟨_,rfl,g,⟨i,k,Holds.lt b (by rw[eE];omega),f,d⟩,rfl⟩)
end
section
open Go.RowKit Go.Sort Go.Deep
variable {P:Nat}[NeZero P]{N:Nat}
theorem T9(a b c d p q r s:Nat)(w:Ur):(binOp .eql 49 (.agg #[uZ a,uZ b,uZ c,uZ d]) (.agg #[uZ p,uZ q,uZ r,uZ s])).run prog w=.ok (.bool (decide (a=p/\b=q/\c=r/\d=s))) w:=by
 go_simp;rw[Fv 9997,Vm];by_cases k:a=p/\b=q/\c=r/\d=s
 ·rw[decide_eq_true k];obtain⟨rfl,rfl,rfl,rfl⟩:=k;simp
 ·have e:(decide (a=p) && (decide (b=q) && (decide (c=r) && decide (d=s))))=false:=by
   rw[<-Bool.not_eq_true,UL,UL,UL];simpa using k
  rw[decide_eq_false k,e];simp
theorem eqS{b:Nat}(k:a<top)(c:b<top)(w:Ur):(binOp .eql 49 (nv a) (nv b)).run prog w=.ok (.bool (decide (a=b))) w:=by
 refine(T9 (a%18446744073709551616) (a/18446744073709551616%18446744073709551616) (a/340282366920938463463374607431768211456%18446744073709551616) (a/6277101735386680763835789423207666416102355444464034512896%18446744073709551616) (b%18446744073709551616) (b/18446744073709551616%18446744073709551616) (b/340282366920938463463374607431768211456%18446744073709551616) (b/6277101735386680763835789423207666416102355444464034512896%18446744073709551616) w).trans ?_;simp only[Ay k c]
theorem u40:(prog.underlying 49).map (·.isRow)=some true:=kR
theorem i40:(prog.info? 49).map (·.size)=some 4:=kR
theorem u38:(prog.underlying 47).map (·.isRow)=some true:=kR
theorem i38:(prog.info? 47).map (·.size)=some 4:=kR
theorem Dl(O:Ord N)(a b:Nat)(d:a<N)(f:b<N):Gives 131 #[(nv a),(nv b)] (nv (sMi N a b)):=by
 intro w;go_enter func131,ntmps131;refine RG.M.enter [(0,.v (nv a)),(1,.v (nv b))] 12 kR ?_;intro a0 c;repeat refine Uz ?_
 refine c.T [.m 0,.m 1,.m 2] [(0,wn a),(1,wn b),(2,RG.z 4)] [] [wn a,wn b,RG.z 4] [2,3,4] ⟨mk 0 49,mk 1 49,mk 2 49,yCn⟩ ?_;intro l i g n m e;repeat refine Uz ?_
 refine e.D [.c gv1,.s (.p 0 0),.x (nv a),.s (.p 1 0),.x (nv b),.c (nv (sMi N a b)),.x (nv (sMi N a b)),.u 2] [] [(2,7,wn (sMi N a b))] [wn a,wn b,wn (sMi N a b)] [4] ⟨cl fH,st,ld u38 i38,st,ld u38 i38,cl (Iw O d f),st,RG.pt i40,yCn⟩ ?_;intro a2 j k;refine Wr ?_;refine UE (v:=(nv (sMi N a b))) (aI k.st 4 49 rfl 2 _ rfl (k.at (s:=(.p 2 0))) u40 i40) k.sl.defers ?_;exact⟨_,rfl,k.st.bel.below,rfl⟩
theorem iI(O:Ord N)(a b:Nat)(d:a<N)(f:b<N):Gives 79 #[(nv a),(nv b)] (nv (sTi N a b)):=by
 intro w;go_enter func79,ntmps79;refine RG.M.enter [(0,.v (nv a)),(1,.v (nv b))] 12 kR ?_;intro a0 c;repeat refine Uz ?_
 refine c.T [.m 0,.m 1,.m 2] [(0,wn a),(1,wn b),(2,RG.z 4)] [] [wn a,wn b,RG.z 4] [2,3,4] ⟨mk 0 49,mk 1 49,mk 2 49,yCn⟩ ?_;intro l i g n m e;repeat refine Uz ?_
 refine e.D [.c gv1,.s (.p 0 0),.x (nv a),.s (.p 1 0),.x (nv b),.c (nv (sTi N a b)),.x (nv (sTi N a b)),.u 2] [] [(2,7,wn (sTi N a b))] [wn a,wn b,wn (sTi N a b)] [4] ⟨cl fH,st,ld u38 i38,st,ld u38 i38,cl (Iu O d f),st,RG.pt i40,yCn⟩ ?_;intro a2 j k;refine Wr ?_;refine UE (v:=(nv (sTi N a b))) (aI k.st 4 49 rfl 2 _ rfl (k.at (s:=(.p 2 0))) u40 i40) k.sl.defers ?_;exact⟨_,rfl,k.st.bel.below,rfl⟩
theorem uS(O:Ord N)(a:Nat)(c:a<N):Gives 159 #[(nv a)] (nv (sIn N a)):=by
 intro w;go_enter func159,ntmps159;refine RG.M.enter [(0,.v (nv a))] 8 kR ?_;intro a0 b;repeat refine Uz ?_
 refine b.T [.m 0,.m 1] [(0,wn a),(1,RG.z 4)] [] [wn a,RG.z 4] [1,2] ⟨mk 0 49,mk 1 49,yCn⟩ ?_;intro g e j i d;repeat refine Uz ?_
 refine d.D [.c gv1,.s (.p 0 0),.x (nv a),.c (nv (sIn N a)),.x (nv (sIn N a)),.u 1] [] [(1,5,wn (sIn N a))] [wn a,wn (sIn N a)] [2] ⟨cl fH,st,ld u38 i38,cl (OM O c),st,RG.pt i40,yCn⟩ ?_;intro a2 f k;refine Wr ?_;refine UE (v:=(nv (sIn N a))) (aI k.st 2 49 rfl 1 _ rfl (k.at (s:=(.p 1 0))) u40 i40) k.sl.defers ?_;exact⟨_,rfl,k.st.bel.below,rfl⟩
theorem Lt(v:Ut)(m:Nat)(ok:Bool)(w:Ur)(b:∀w',BelX w.heap.size [] w w'->UH prog 59 #[gv1,v] w' (Ret λe c=>kZ w' c/\e=.tuple #[nv m,.bool ok])):
 UH prog 16 #[v] w (rZ w λe w'=>e=.tuple #[nv m,.bool ok]):=by
 go_enter func16,ntmps16;refine RG.M.enter [(0,.v v)] 15 kR ?_;intro a0 f;repeat refine Uz ?_
 refine f.T [.m 0,.x (.bool false)] [(0,RG.z 4)] [] [RG.z 4] [0,2,3] ⟨mk 0 49,st,yCn⟩ ?_;intro l o n d;repeat refine Uz ?_
 refine d.T [.c gv1,.x v,.c (.tuple #[nv m,.bool ok]),.x (.tuple #[nv m,.bool ok]),.x (nv m),.x (.bool ok),.m 1,.u 1,.x (.bool ok)] [(6,RG.z 4)] [(1,7,wn m)] [RG.z 4,wn m] [2,3,4,5] ⟨cl fH,st,clB (λ_ _=>kR) b,st,st,st,mk 1 47,RG.pt i38,st,yCn⟩ ?_;intro i a2 q g;repeat refine Uz ?_
 refine g.T [.x (nv m),.x (nv m),.x (.bool ok),.u 0,.x (.bool ok)] [] [(0,3,wn m)] [wn m,wn m] [2,3] ⟨ld u38 i38,st,st,RG.pt i40,st,yCn⟩ ?_;intro p j k;refine Wr ?_;refine UE (v:=.tuple #[nv m,.bool ok]) (cQ k.st 2 3 49 rfl 0 _ rfl (k.at (s:=.p 0 0)) _ (k.av (v:=.bool ok) kR) u40 i40) k.sl.defers ?_;exact⟨_,rfl,k.st.bel.below,rfl⟩
theorem EA(O:Ord N)(v:Ut)(k:Bs)(w:Ur)(hv:Arg w v k):UH prog 16 #[v] w (rZ w λe w'=>e=.tuple #[nv ((rq N k).getD 0),.bool (rq N k).isSome]):=by
 refine Lt v _ _ w λw' c=>?_
 have h:=AM O.gap v k w' (hv.below c.below);cases b:rq N k with
 | none=>rw[b]at h;exact h
 | some n=>rw[b]at h;exact h
theorem qO(O:Ord N)(d:a<N):Ky 141 #[nv a] (bx a) 32:=by
 intro w;go_enter func141,ntmps141;refine RG.M.enter [(0,.v (nv a))] 6 kR ?_;intro a0 c;repeat refine Uz ?_
 refine c.T [.m 0,.x (.slice none 0 0)] [(0,wn a)] [] [wn a] [1,2] ⟨mk 0 49,st,yCn⟩ ?_;intro i l j e;repeat refine Uz ?_
 refine e.t [.s 3 [] (.p 0 0),.x 4 [(3,0)] (nv a),⟨some 5,[(4,1)],.s 1 32 32,.make 1⟩,.s 2 [(5,2)] (.s 1 32 32)] [(2,cb (bx a))] [] [wn a,cb (bx a)] [(2,.s 1 32 32)] ⟨st,ld u38 i38,RG.cm 1 (λw _=>Ix O d w) λ_ _=>kR,st,yCn⟩ ?_;intro f a2 g k;refine Wr ?_;refine UE (v:=_) (jA 2 rfl _ (k.at (s:=.s 1 32 32))) k.sl.defers ?_;exact⟨_,rfl,_,k.st.made (b:=1) rfl,rfl⟩
end
namespace SP
open Go.RowKit
theorem TQ(x:BitVec 64):(x.toNat:Int)<18446744073709551616:=by
 have:=x.isLt;omega
theorem dX(x:BitVec 64):Xd 64 (x.toNat:Int)=x:=by
 apply yAk;rw[Ze,YG];exact US x.isLt
theorem fK(x:BitVec 64):Vo.wrap (x.toNat:Int)=x.toNat:=by
 rw[XW];have:=TQ x;exact yA7 oM this
def u(v:BitVec 64):Int:=(v.toNat:Int)
theorem cY(a b:BitVec 64):bits .xor .u64 (u a) (u b)=u (a ^^^ b):=by
 show Vo.wrap ((Xd 64 (a.toNat:Int) ^^^ Xd 64 (b.toNat:Int)).toNat:Int)=_;rw[dX,dX,fK];rfl
theorem dV(a b:BitVec 64):bits .and .u64 (u a) (u b)=u (a &&& b):=by
 show Vo.wrap ((Xd 64 (a.toNat:Int) &&& Xd 64 (b.toNat:Int)).toNat:Int)=_;rw[dX,dX,fK];rfl
theorem dZ(a b:BitVec 64):bits .or .u64 (u a) (u b)=u (a ||| b):=by
 show Vo.wrap ((Xd 64 (a.toNat:Int) ||| Xd 64 (b.toNat:Int)).toNat:Int)=_;rw[dX,dX,fK];rfl
theorem qJ(a:BitVec 64):bits .xor .u64 Vo.max (u a)=u (~~~a):=by
 have e:Vo.max=u (BitVec.allOnes 64):=dK;rw[e,cY,BitVec.allOnes_xor]
theorem SY(k:Nat)(b:k<64):bits .and .u64 (k:Int) 63=k:=by
 have h:∀j:Fin 64,bits .and .u64 ((j.val:Nat):Int) 63=(j.val:Int):=dK;exact h ⟨k,b⟩
theorem Ir(x:BitVec 64)(k:Nat):Vo.wrap (u x*2^k)=u (x <<< k):=by
 unfold u;rw[XW,BitVec.toNat_shiftLeft,Nat.shiftLeft_eq,Int.natCast_emod,Xy,yAb];rfl
theorem Nv(x:BitVec 64)(k:Nat):u x/2^k=u (x >>> k):=by
 unfold u;rw[BitVec.toNat_ushiftRight,Nat.shiftRight_eq_div_pow,Zd,yAb];rfl
def rol(w:BitVec 64)(n:Nat):BitVec 64:=w <<< n ||| w >>> (64-n)
abbrev St:=Array (BitVec 64)
def enc(v:BitVec 64):Ut:=uZ (u v)
def D4(d:St)(x:Nat):BitVec 64:=d[x]! ^^^ d[x+5]! ^^^ d[x+10]! ^^^ d[x+15]! ^^^ d[x+20]!
def pD(d:St):Nat->St
 | 0=>#[0,0,0,0,0]
 | k+1=>(pD d k).setIfInBounds k (D4 d k)
def bT(d:St)(i:Nat)(v:BitVec 64):St:=d.setIfInBounds i (d[i]! ^^^ v)
def mE(v:BitVec 64)(x:Nat)(d:St):Nat->St
 | 0=>d
 | m+1=>bT (mE v x d m) (x+5*m) v
def PV(s:St)(x:Nat):BitVec 64:=s[(x+4)%5]! ^^^ rol s[(x+1)%5]! 1
def nS(s d:St):Nat->St
 | 0=>d
 | k+1=>mE (PV s k) k (nS s d k) 5
def wF(d:St):St:=nS (pD d 5) d 5
theorem dO(d:St)(i:Nat)(v:BitVec 64):(bT d i v).size=d.size:=by simp[bT]
theorem tO(d:St)(k:Nat):(pD d k).size=5:=by
 induction k with
 | zero=>rfl
 | succ k ih=>simp[pD,ih]
theorem rD(v:BitVec 64)(x:Nat)(d:St)(m:Nat):(mE v x d m).size=d.size:=by
 induction m with
 | zero=>rfl
 | succ k ih=>simp[mE,dO,ih]
theorem qL(s d:St)(m:Nat):(nS s d m).size=d.size:=by
 induction m with
 | zero=>rfl
 | succ k ih=>simp[nS,rD,ih]
structure Tm where
 x:Nat
 y:Nat
 m:BitVec 64
 d:St
def offs(t:Nat):Nat:=(t+1)*(t+2)/2%64
def C7(t:Nat)(s:Tm):Tm:=
 { x:=s.y,y:=(2*s.x+3*s.y)%5,m:=s.d[s.y+5*((2*s.x+3*s.y)%5)]!,d:=s.d.setIfInBounds (s.y+5*((2*s.x+3*s.y)%5)) (rol s.m (offs t)) }
def uL(d:St):Nat->Tm
 | 0=>{ x:=1,y:=0,m:=d[1]!,d:=d }
 | t+1=>C7 t (uL d t)
def zK(d:St):St:=(uL d 24).d
theorem Ev(d:St)(hd:d.size=25)(t:Nat):(uL d t).x<5/\(uL d t).y<5/\(uL d t).d.size=25:=by
 induction t with
 | zero=>exact⟨show 1<5 by decide,show 0<5 by decide,hd⟩
 | succ t ih =>
  obtain⟨c,b,k⟩:=ih;refine⟨b,?_,?_⟩
  ·show(2*(uL d t).x+3*(uL d t).y)%5<5;omega
  ·show((uL d t).d.setIfInBounds _ _).size=25;rw[VF,k]
def rowAt(d:St)(i:Nat):St:=
 bT (bT (bT (bT (bT d i (~~~d[i+1]! &&& d[i+2]!)) (i+1) (~~~d[i+2]! &&& d[i+3]!)) (i+2) (~~~d[i+3]! &&& d[i+4]!)) (i+3) (~~~d[i+4]! &&& d[i]!)) (i+4) (~~~d[i]! &&& d[i+1]!)
def yE(d:St):Nat->St
 | 0=>d
 | k+1=>rowAt (yE d k) (5*k)
def chi(d:St):St:=yE d 5
theorem Do(d:St)(i:Nat):(rowAt d i).size=d.size:=by simp[rowAt,dO]
theorem yD(d:St)(k:Nat):(yE d k).size=d.size:=by
 induction k with
 | zero=>rfl
 | succ k ih=>simp[yE,Do,ih]
def wS(r:Nat):Nat:=if 255<2*r then(2*r) ^^^ 369 else 2*r
def wR(r:Nat):Nat->BitVec 64 × Nat
 | 0=>(0,r)
 | j+1=>((wR r j).1 ||| Yn 64 ((wR r j).2%2) <<< (2^j-1),wS (wR r j).2)
theorem BW(r:Nat)(h:r<256):wS r<256:=by
 have H:∀j:Fin 256,wS j.val<256:=dK;exact H ⟨r,h⟩
theorem LW(r:Nat)(h:r<256)(j:Nat):(wR r j).2<256:=by
 induction j with
 | zero=>exact h
 | succ j ih=>exact BW _ ih
theorem OQ(r:Nat)(h:r<256):bits .xor .i64 ((r:Int)*2) 369=(((2*r) ^^^ 369:Nat):Int):=by
 have H:∀j:Fin 256,bits .xor .i64 ((j.val:Int)*2) 369=(((2*j.val) ^^^ 369:Nat):Int):=dK;exact H ⟨r,h⟩
theorem OR(r:Nat)(h:r<256):bits .and .i64 (r:Int) 1=u (Yn 64 (r%2)):=by
 have H:∀j:Fin 256,bits .and .i64 (j.val:Int) 1=u (Yn 64 (j.val%2)):=dK;exact H ⟨r,h⟩
theorem pB(x:BitVec 64):Vo.wrap (u x)=u x:=fK x
def xM(d:St)(c:BitVec 64):St:=bT (chi (zK (wF d))) 0 c
def rcC(r:Nat):BitVec 64:=(wR r 7).1
def rcN(r:Nat):Nat:=(wR r 7).2
theorem OS(r:Nat)(h:r<256):rcN r<256:=by
 unfold rcN;exact LW r h 7
def BX:Nat->Nat
 | 0=>1
 | k+1=>rcN (BX k)
theorem LX(k:Nat):BX k<256:=by
 induction k with
 | zero=>decide
 | succ k ih=>exact OS _ ih
def sF(d:St):Nat->St
 | 0=>d
 | k+1=>xM (sF d k) (rcC (BX k))
def perm(d:St):St:=sF d 24
theorem lO(d:St):(wF d).size=d.size:=qL _ _ _
theorem qC(d:St)(hd:d.size=25):(zK d).size=25:=(Ev d hd 24).2.2
theorem Cz(d:St):(chi d).size=d.size:=yD _ _
theorem Cn(d:St)(c:BitVec 64)(hd:d.size=25):(xM d c).size=25:=by
 unfold xM;rw[dO,Cz,qC];rw[lO,hd]
theorem tX(d:St)(hd:d.size=25)(k:Nat):(sF d k).size=25:=by
 induction k with
 | zero=>exact hd
 | succ k ih=>exact Cn _ _ ih
theorem sE(d:St)(hd:d.size=25):(perm d).size=25:=tX d hd 24
abbrev Bs:=Array UInt8
def ub(x:UInt8):Int:=(x.toNat:Int)
def encB(x:UInt8):Ut:=.int .u8 (ub x)
def wide(x:UInt8):BitVec 64:=Yn 64 x.toNat
def low(v:BitVec 64):UInt8:=UM v.toNat
theorem KV(x:UInt8):ub x=u (wide x):=by
 unfold ub u wide;rw[YG,US];have:=x.toNat_lt;omega
theorem Eo(x:UInt8):Vo.wrap (ub x)=u (wide x):=by rw[KV,pB]
theorem NF(v:BitVec 64):XA.wrap (u v)=ub (low v):=by
 have e:XA.wrap (u v)=u v%256:=by simp[yBj,yBk,yAT]
 rw[e];unfold u ub low;rw[YJ];omega
def vZ(b:Bs)(o:Nat):Nat->BitVec 64
 | 0=>0
 | i+1=>vZ b o i ||| wide b[o+i]! <<< (8*i)
def wordOf(k:Bs)(o:Nat):BitVec 64:=vZ k o 8
def kX(k:Bs)(d:St):Nat->St
 | 0=>d
 | i+1=>bT (kX k d i) i (wordOf k (8*i))
theorem mC(b:Bs)(d:St)(k:Nat):(kX b d k).size=d.size:=by
 induction k with
 | zero=>rfl
 | succ k ih=>simp[kX,dO,ih]
def byteOf(d:St)(k:Nat):UInt8:=low (d[k/8]! >>> (8*(k%8)))
def gQ(d:St)(n:Nat):Nat->Bs
 | 0=>UJ n 0
 | k+1=>(gQ d n k).setIfInBounds k (byteOf d k)
def front(d:St)(n:Nat):Bs:=gQ d n n
theorem mF(d:St)(n k:Nat):(gQ d n k).size=n:=by
 induction k with
 | zero=>simp[gQ]
 | succ k ih=>simp[gQ,ih]
theorem dU(d:St)(n:Nat):(front d n).size=n:=mF d n n
end SP
namespace SP
open Go.RowKit Go.Sort
structure Only(b off n:Nat)(w w':Ur):Prop where
 os:w'.os=w.os
 tape:w'.tape=w.tape
 output:w'.output=w.output
 size:w.heap.size<=w'.heap.size
 block:∀k,k<w.heap.size->k≠b->w'.heap[k]? = w.heap[k]?
 cell:∀o,(o<off\/off+n<=o)->w'.cell? ⟨b,o,none⟩=w.cell? ⟨b,o,none⟩
 froz:∀o,w'.frozen? ⟨b,o,none⟩=w.frozen? ⟨b,o,none⟩
variable {b off n:Nat}{w w1 w2:Ur}
theorem Only.refl(b off n:Nat)(w:Ur):Only b off n w w:=⟨rfl,rfl,rfl,Uw _,λ_ _ _=>rfl,λ_ _=>rfl,λ_=>rfl⟩
theorem Only.trans(h:Only b off n w w1)(k:Only b off n w1 w2):Only b off n w w2:=
 ⟨k.os.trans h.os,k.tape.trans h.tape,k.output.trans h.output,UC h.size k.size,
  λi d c=>(k.block i (Ux d h.size) c).trans (h.block i d c),
  λo ho=>(k.cell o ho).trans (h.cell o ho),λo=>(k.froz o).trans (h.froz o)⟩
theorem Only.drewN(h:Only b off n w w1)(q:Nat):Only b off n w (w1.drewN q):=⟨h.os,h.tape,h.output,h.size,h.block,h.cell,h.froz⟩
theorem Only.drew(h:Only b off n w w1):Only b off n w w1.drew:=⟨h.os,h.tape,h.output,h.size,h.block,h.cell,h.froz⟩
theorem Only.setCell(h:Only b off n w w1){o:Nat}(f:off<=o)(g:o<off+n)(v:Ut):Only b off n w (w1.setCell ⟨b,o,none⟩ v):=by
 refine h.trans ⟨rfl,rfl,rfl,by simp,λk _ c=>Zt _ _ _ _ c,λd ho=>?_,λd=>by simp⟩;exact UU _ _ _ _ (by intro e;simp only[Addr.mk.injEq,and_true,true_and]at e;omega)
theorem Only.alloc(h:Only b off n w w1)(e:b<w1.heap.size)(o:Obj):Only b off n w (w1.alloc o):=by
 refine h.trans ⟨rfl,rfl,rfl,by simp,λk d _=>Below.heap_alloc _ _ _ d,λc _=>?_,λc=>?_⟩
 ·exact World.cell?_alloc_lt _ _ _ e
 ·exact World.frozen?_alloc_old _ _ _ (by show b≠_;omega)
theorem Only.below(h:Only b off n w w1){B:Nat}(c:B<=w.heap.size)(e:B<=b):Below B w w1:=
 ⟨h.os,h.tape,h.output,h.size,λk d=>h.block k oM oM⟩
theorem Only.of_below{B:Nat}(h:Below B w w1)(d:B=w.heap.size)(c:b<B):Only b off n w w1:=
 ⟨h.os,h.tape,h.output,h.size,λk e _=>h.block k oM,λo _=>h.cell (p:=⟨b,o,none⟩) c,λo=>h.frozen (p:=⟨b,o,none⟩) c⟩
theorem Only.other(h:Only b off n w w1){o:Nat}(k:c≠b)(d:c<w.heap.size):w1.cell? ⟨c,o,none⟩=w.cell? ⟨c,o,none⟩/\w1.frozen? ⟨c,o,none⟩=w.frozen? ⟨c,o,none⟩:=
 ⟨UW (w:=w) (h.block c d k),VU (w:=w) (h.block c d k)⟩
theorem Only.fresh{o m:Nat}{x:Obj}(h:Only w.heap.size o m (w.alloc x) w1):kZ w w1:=
 ((UR _ _).alloc (Uw _) x).trans (h.below (by simp) (Uw _))
section
variable {α:Type}[Inhabited α]{enc:α->Ut}{d:Array α}
theorem Holds.lt(h:Holds enc w b off d)(hd:0<d.size):b<w.heap.size:=Xq _ _ (h 0 hd).1
theorem Holds.other{o:Nat}(h:Holds enc w c o d)(k:Only b off n w w1)(f:c≠b)(hd:0<d.size):Holds enc w1 c o d:=by
 intro j e;have:=h j e;have:=k.other (o:=o+j) f (Holds.lt h hd);rw[this.1,this.2];exact h j e
theorem Holds.same{o:Nat}(h:Holds enc w b o d)(k:Only b off n w w1)(hd:o+d.size<=off\/off+n<=o):Holds enc w1 b o d:=by
 intro j c;rw[k.cell _ oM,k.froz];exact h j c
theorem Holds.below{B:Nat}(h:Holds enc w b off d)(k:Below B w w1)(c:b<B):Holds enc w1 b off d:=by
 intro j e;rw[k.cell (p:=⟨b,off+j,none⟩) c,k.frozen (p:=⟨b,off+j,none⟩) c];exact h j e
theorem Holds.drewN(h:Holds enc w b off d)(q:Nat):Holds enc (w.drewN q) b off d:=h
theorem Holds.drew(h:Holds enc w b off d):Holds enc w.drew b off d:=h
theorem Holds.set(h:Holds enc w b off d)(c:i<d.size)(x:α):Holds enc (w.setCell ⟨b,off+i,none⟩ (enc x)) b off (d.setIfInBounds i x):=by
 intro j k;rw[VF]at k;rw[VM];by_cases e:j=i
 ·subst e;rw[getElem!_set_same d j x c];exact⟨VV _ _ _ (h j k).1,(h j k).2⟩
 ·rw[getElem!_set_other d i j x e,UU _ _ _ _ (by intro e';simp only[Addr.mk.injEq,and_true,true_and]at e';omega)];exact h j k
theorem Holds.new(w:Ur)(t:U8)(d:Array α):Holds enc (w.alloc (.cells (d.map enc) t)) w.heap.size 0 d:=by
 intro j k;rw[Vd,Wx];refine⟨?_,rfl⟩;simp only[UD,yAG,U0 k,Yx,getElem!_pos d j k]
theorem Holds.made(w:Ur)(t:U8)(n:Nat)(x:α):Holds enc (w.alloc (.cells (madeCells #[enc x] n) t)) w.heap.size 0 (UJ n x):=by
 intro j k;rw[UP]at k;rw[Vd,Wx];refine⟨?_,rfl⟩;rw[getElem!_pos _ j (by simpa using k),Wy];simp[madeCells,k,Nat.mod_one]
end
theorem Holds.xor{d:St}(h:Holds enc w b off d)(k:i<d.size){x:BitVec 64}(hx:d[i]! = x)(v:BitVec 64):Holds enc (w.setCell ⟨b,off+i,none⟩ (uZ (u (x ^^^ v)))) b off (bT d i v):=by
 unfold bT;rw[hx];exact Holds.set h k (x ^^^ v)
theorem bX(d:St)(i j:Nat)(v:BitVec 64)(h:j≠i):(bT d i v)[j]! = d[j]!:=getElem!_set_other d i j _ h
end SP
namespace SP
open Go.RowKit Go.Sort
theorem mixed:prog.follows .mixedOrders=true:=kR
theorem bP{w:Ur}{b off:Nat}{d:St}(h:Holds enc w b off d)(i:Nat)(k:i<d.size){x:BitVec 64}(hx:d[i]! = x):
 w.cell? ⟨b,off+i,none⟩=some (uZ (u x))/\w.frozen? ⟨b,off+i,none⟩=false:=by
 rw[<-hx];exact h i k
theorem ret_int{k:IntKind}{a b:Int}(h:a=b):Ending.returned (.int k a)=.returned (.int k b):=by rw[h]
theorem BQ(x:BitVec 64)(k:Nat)(w:Ur)(b:k<64):
 UH prog 252 #[uZ (u x),iZ k] w λe w'=>e=.returned (uZ (u (rol x k)))/\w'=w:=by
 have c:=SY k b;go_enter func252,ntmps252;go_wp2;go_ret;refine⟨ret_int ?_,rfl⟩;rw[Ir,Nv,dZ];rfl
end SP
namespace SP
open Go.RowKit Go.Sort
theorem Cp(w:Ur)(t:U8):Holds enc (w.alloc (.cells #[uZ 0,uZ 0,uZ 0,uZ 0,uZ 0] t)) w.heap.size 0 (#[0,0,0,0,0]:St):=by
 have h:=Holds.new (enc:=enc) w t (#[0,0,0,0,0]:St);have e:yB5 enc (#[0,0,0,0,0]:St)=#[uZ 0,uZ 0,uZ 0,uZ 0,uZ 0]:=by simp[enc,u]
 rw[e]at h;exact h
attribute [local go_sem] cY dV dZ
theorem xH(b off:Nat)(d:St)(w:Ur)(hd:d.size=25)(Q:Holds enc w b off d):
 UH prog 248 #[.pointer (some ⟨b,off,none⟩)] w λe w'=>e=.returned (.tuple #[])/\Only b off 25 w w'/\Holds enc w' b off (wF d):=by
 have O:=Holds.lt Q oM;go_enter func248,ntmps248;go_wp2;generalize o:(w.alloc _)=W1;go_loopg [7] 5 (λg s7 wr=>∃k l,k+g=5/\s7=.int .i64 (k:Nat)/\Holds enc wr w.heap.size 0 l/\Only w.heap.size 0 5 W1 wr/\Hid (l=pD d k))
 case atStart =>
  refine⟨0,#[0,0,0,0,0],rfl,rfl,?_,Only.refl _ _ _ _,rfl⟩;rw[<-o];exact Cp w 314
 case round =>
  obtain⟨k,l,P,rfl,L,n,r⟩:=hrel;have j:Holds enc wr b off d:=Holds.other (by rw[<-o];exact Holds.below Q ((UR _ _).alloc (Uw _) _) O) n oM oM;by_cases A:k<5
  ·obtain⟨D,p⟩:∃x,d[k]! = x:=⟨_,rfl⟩
   obtain⟨y,u⟩:∃x,d[k+5]! = x:=⟨_,rfl⟩
   obtain⟨C,q⟩:∃x,d[k+10]! = x:=⟨_,rfl⟩
   obtain⟨B,t⟩:∃x,d[k+15]! = x:=⟨_,rfl⟩
   obtain⟨a,s⟩:∃x,d[k+20]! = x:=⟨_,rfl⟩
   obtain⟨x5,v⟩:∃x,l[k]! = x:=⟨_,rfl⟩
   have G:l.size=5:=by rw[r.out,tO]
   obtain⟨M,V⟩:=bP j k oM p;obtain⟨c1,R⟩:=bP j (k+5) oM u;obtain⟨c2,f2⟩:=bP j (k+10) oM q;obtain⟨c3,W⟩:=bP j (k+15) oM t;obtain⟨S,X⟩:=bP j (k+20) oM s;obtain⟨F,H⟩:=bP L k oM v;rw[UD]at F H;have E:Hid (D4 d k=D ^^^ y ^^^ C ^^^ B ^^^ a):=by rw[<-p,<-u,<-q,<-t,<-s];rfl
   clear p u q t s v j;have Z:(k:Int)<5:=oM;have b0:(k:Int)<25:=oM;have b1:(k:Int)+5<25:=oM;have b2:(k:Int)+10<25:=oM;have I:(k:Int)+15<25:=oM;have N:(k:Int)+20<25:=oM;have p1:0<=(k:Int)+5:=oM;have p2:0<=(k:Int)+10:=oM;have K:0<=(k:Int)+15:=oM;have p4:0<=(k:Int)+20:=oM;have Y:((k:Int)+5).toNat=k+5:=oM;have J:((k:Int)+10).toNat=k+10:=oM;have e3:((k:Int)+15).toNat=k+15:=oM;have T:((k:Int)+20).toNat=k+20:=oM;have v1:VS.wrap ((k:Int)+5)=(k:Int)+5:=Wu _ oM;have v2:VS.wrap ((k:Int)+10)=(k:Int)+10:=Wu _ oM;have v3:VS.wrap ((k:Int)+15)=(k:Int)+15:=Wu _ oM;have U:VS.wrap ((k:Int)+20)=(k:Int)+20:=Wu _ oM;go_wp2_with fail
   go_still_tail 35,mixed;go_wp2;go_roundg (gk-1)
   case measure=>omega
   case rel =>
    refine⟨k+1,l.setIfInBounds k (D ^^^ y ^^^ C ^^^ B ^^^ a),oM,by go_num,?_,?_,?_⟩
    ·have:=Holds.set L (i:=k) oM (D ^^^ y ^^^ C ^^^ B ^^^ a);rw[UD]at this;exact Holds.drew this
    ·exact(n.setCell (WA _) oM _).drew
    ·show _=(pD d k).setIfInBounds k (D4 d k);rw[E.out,r.out]
  ·have s:k=5:=oM;subst s;have T:Hid (l=pD d 5):=r;have H:Only b off 25 w wr:=by
    rw[<-o]at n;exact Only.of_below n.fresh rfl O
   clear P A r n o;go_wp2;go_loopg [46] 5 (λg s46 a=>∃k p,k+g=5/\s46=.int .i64 (k:Nat)/\Holds enc a b off p/\Only b off 25 wr a/\Hid (p=nS l d k))
   case atStart=>exact⟨0,d,rfl,rfl,j,Only.refl _ _ _ _,rfl⟩
   case round =>
    obtain⟨k,p,P,rfl,N,n,r⟩:=hrel;by_cases A:k<5
    ·have G:l.size=5:=by rw[T.out,tO]
     have y:=Holds.other L n oM oM;obtain⟨v,u⟩:∃x,l[(k+4)%5]! = x:=⟨_,rfl⟩
     obtain⟨B,t⟩:∃x,l[(k+1)%5]! = x:=⟨_,rfl⟩
     obtain⟨M,V⟩:=bP y ((k+4)%5) oM u;obtain⟨c1,R⟩:=bP y ((k+1)%5) oM t;rw[UD]at M c1;have Y:Hid (PV l k=v ^^^ rol B 1):=by rw[<-u,<-t];rfl
     clear u t V R;have Z:(k:Int)<5:=oM;go_wp2_with fail
     go_quiet ((go_at_call 252;exact Calls.quiet_of_same (BQ _ 1 _ dC)));clear M c1;go_wp2;have h0:=n.drewN nq;have F:=Holds.drewN N nq;have J:p.size=25:=by rw[r.out,qL,hd]
     go_loopg [6] 5 (λg s6 a=>∃m q,m+g=5/\s6=.int .i64 ((k+5*m:Nat):Int)/\Holds enc a b off q/\Only b off 25 wr a/\Hid (q=mE (v ^^^ rol B 1) k p m))
     case atStart=>exact⟨0,p,rfl,rfl,F,(Only.refl _ _ _ _).drewN _,rfl⟩
     case round =>
      obtain⟨m,q,hm,rfl,I,C,E⟩:=hrel;by_cases S:m<5
      ·have W:q.size=25:=by rw[E.out,rD,J]
       obtain⟨z,D⟩:∃x,q[k+5*m]! = x:=⟨_,rfl⟩
       obtain⟨c,f⟩:=bP I (k+5*m) oM D;have HZ:Hid (q[k+5*m]! = z):=D;clear D;have X:((k+5*m:Nat):Int)<25:=oM;generalize K:k+5*m=i at *;have U:Hid (k+5*m=i):=K;clear K;go_wp2_with fail
       go_still_tail 9,mixed;go_wp2;go_roundg (gk-1)
       case measure=>omega
       case rel =>
        refine⟨m+1,q.setIfInBounds i (z ^^^ (v ^^^ rol B 1)),oM,?_,?_,?_,?_⟩
        ·rw[<-U.out];go_num
        ·exact Holds.drew (Holds.set I oM _)
        ·exact(C.setCell (Za _ _) oM _).drew
        ·show _=bT (mE (v ^^^ rol B 1) k p m) (k+5*m) (v ^^^ rol B 1);rw[<-E.out,U.out,<-HZ.out];rfl
      ·have D:m=5:=oM;subst D;have X:(25:Int)<=((k+5*5:Nat):Int):=oM;generalize K:k+5*5=i at *;go_wp2;go_roundg (4-k)
       case measure=>omega
       case rel =>
        refine⟨k+1,q,oM,by go_num,I,n.trans C,?_⟩;show _=mE (PV l k) k (nS l d k) 5;rw[<-r.out,Y.out];exact E.out
    ·have s:k=5:=oM;subst s;go_wp2
     go_end0
     refine⟨rfl,H.trans n,?_⟩;have:wF d=p:=by rw[r.out,T.out];rfl
     rw[this];exact N
end SP
namespace SP
open Go.RowKit Go.Sort
attribute [local go_sem] cY dV dZ
theorem IX(t:Nat)(h:t<24):(wrap64 ((wrap64 (((t:Int)+1)*((t:Int)+2))).tdiv 2)).tmod 64=(offs t:Int):=by
 have H:∀j:Fin 24,(wrap64 ((wrap64 (((j.val:Int)+1)*((j.val:Int)+2))).tdiv 2)).tmod 64=(offs j.val:Int):=dK;exact H ⟨t,h⟩
theorem uK(b off:Nat)(d:St)(w:Ur)(hd:d.size=25)(B:Holds enc w b off d):
 UH prog 249 #[oZ b off] w λe w'=>e=.returned (.tuple #[])/\Only b off 25 w w'/\Holds enc w' b off (zK d):=by
 obtain⟨J,o⟩:∃x,d[1]! = x:=⟨_,rfl⟩
 obtain⟨c1,M⟩:=bP B 1 oM o;go_enter func249,ntmps249;go_wp2;go_loopg [2,3,4,12] 24 (λg sx E sm st wr=>∃t T,t+g=24/\st=iZ (t:Nat)/\sx=iZ (T.x:Nat)/\E=iZ (T.y:Nat)/\sm=uZ (u T.m)/\Holds enc wr b off T.d/\Only b off 25 w wr/\Hid (T=uL d t))
 case atStart=>exact⟨0,uL d 0,rfl,rfl,rfl,rfl,by rw[<-o];rfl,B,Only.refl _ _ _ _,rfl⟩
 case round =>
  obtain⟨t,⟨x,y,m,D⟩,L,rfl,rfl,rfl,rfl,p,a,s⟩:=hrel;have j:=Ev d hd t;rw[<-s.out]at j;obtain⟨hx,F,G⟩:=j;dsimp only at hx F G p;by_cases r:t<24
  ·obtain⟨i,H⟩:∃i,y+5*((2*x+3*y)%5)=i:=⟨_,rfl⟩
   obtain⟨z,C⟩:∃z,D[i]! = z:=⟨_,rfl⟩
   obtain⟨c,f⟩:=bP p i oM C;have I:=mk1 (C);have A:=mk1 (H);go_wp2_with fail
   rw[IX t r];refine(BQ m (offs t) _ (V7 _ dC)).mono ?_;rintro e w' ⟨rfl,rfl⟩;go_wp2_with fail
   obtain⟨q,v⟩:∃n,(2*x+3*y)%5=n:=⟨_,rfl⟩
   have l:(2*(x:Int)+3*(y:Int))%5=(q:Int):=oM;rw[l];have k:=mk1 (v);have K:((y:Int)+5*(q:Int)).toNat=i:=by have:=A.out;have:=k.out;omega
   go_region
   go_wp2;go_roundg (gk-1)
   case measure=>omega
   case rel =>
    refine⟨t+1,⟨y,q,z,D.setIfInBounds i (rol m (offs t))⟩,oM,by go_num,rfl,rfl,rfl,?_,?_,?_⟩
    ·exact Holds.drew (Holds.set p oM _)
    ·exact(a.setCell (Za _ _) oM _).drew
    ·show _=C7 t (uL d t);rw[<-s.out];simp only[C7,k.out];have e:y+5*q=i:=by have:=A.out;have:=k.out;omega
     rw[e,I.out]
  ·have k:t=24:=oM;subst k;go_wp2
   go_end0
   refine⟨rfl,a,?_⟩;show Holds enc _ b off (uL d 24).d;rw[<-s.out];exact p
end SP
namespace SP
open Go.RowKit Go.Sort
attribute [local go_sem] cY dV dZ qJ
theorem Ci(b off:Nat)(d:St)(w:Ur)(hd:d.size=25)(hH:Holds enc w b off d):
 UH prog 250 #[.pointer (some ⟨b,off,none⟩)] w λe w'=>e=.returned (.tuple #[])/\Only b off 25 w w'/\Holds enc w' b off (chi d):=by
 go_enter func250,ntmps250;go_wp2;go_loopg [2] 5 (λg si wr=>∃k j,k+g=5/\si=.int .i64 ((5*k:Nat):Int)/\Holds enc wr b off j/\Only b off 25 w wr/\Hid (j=yE d k))
 case atStart=>exact⟨0,d,rfl,rfl,hH,Only.refl _ _ _ _,rfl⟩
 case round =>
  obtain⟨k,j,hk,rfl,z,hO,HE⟩:=hrel;have hs:j.size=25:=by rw[HE.out,yD,hd]
  by_cases ha:k<5
  ·obtain⟨i,hi⟩:∃i,5*k=i:=⟨_,rfl⟩
   rw[hi];have Hi:Hid (5*k=i):=hi;obtain⟨u,D⟩:∃x,j[i]! = x:=⟨_,rfl⟩
   obtain⟨s,J⟩:∃x,j[i+1]! = x:=⟨_,rfl⟩
   obtain⟨q,E⟩:∃x,j[i+2]! = x:=⟨_,rfl⟩
   obtain⟨p,G⟩:∃x,j[i+3]! = x:=⟨_,rfl⟩
   obtain⟨n,F⟩:∃x,j[i+4]! = x:=⟨_,rfl⟩
   obtain⟨c0,f0⟩:=bP z i oM D;obtain⟨c1,f1⟩:=bP z (i+1) oM J;obtain⟨c2,f2⟩:=bP z (i+2) oM E;obtain⟨c3,f3⟩:=bP z (i+3) oM G;obtain⟨c4,f4⟩:=bP z (i+4) oM F;have P:Hid (j[i]! = u):=D;have r:Hid (j[i+1]! = s):=J;have l:Hid (j[i+2]! = q):=E;have f:Hid (j[i+3]! = p):=G;have c:Hid (j[i+4]! = n):=F;have Q0:=P;have Q1:=r;have Q2:=l;have Q3:=f;have Q4:=c;have b1:(i:Int)+1<25:=oM;have p1:0<=(i:Int)+1:=oM;have e1:((i:Int)+1).toNat=i+1:=oM;have v1:VS.wrap ((i:Int)+1)=(i:Int)+1:=Wu _ oM;have b2:(i:Int)+2<25:=oM;have p2:0<=(i:Int)+2:=oM;have T:((i:Int)+2).toNat=i+2:=oM;have v2:VS.wrap ((i:Int)+2)=(i:Int)+2:=Wu _ oM;have S:(i:Int)+3<25:=oM;have W:0<=(i:Int)+3:=oM;have e3:((i:Int)+3).toNat=i+3:=oM;have v3:VS.wrap ((i:Int)+3)=(i:Int)+3:=Wu _ oM;have b4:(i:Int)+4<25:=oM;have p4:0<=(i:Int)+4:=oM;have e4:((i:Int)+4).toNat=i+4:=oM;have v4:VS.wrap ((i:Int)+4)=(i:Int)+4:=Wu _ oM;go_wp2_with fail
   go_quiet (fail);clear c1 c2 c3 c4 f1 f2 f3 f4 b1 p1 e1 v1 b2 p2 T v2 S W e3 v3 b4 p4 e4 v4;go_wp2_with fail
   go_region
   go_wp2_with fail
   generalize A:Yd _ _ _=W0;have hc:(bT j i (~~~s &&& q)).size=25:=by rw[dO];omega
   have I:Holds enc W0 b off (bT j i (~~~s &&& q)):=by rw[<-A];exact Holds.xor (Holds.drewN z _) oM P.out _
   have h5:Only b off 25 w W0:=by rw[<-A];exact(hO.drewN _).setCell (o:=off+i) oM oM _
   generalize m:bT j i (~~~s &&& q)=v at *;have V:Hid (bT j i (~~~s &&& q)=v):=m;have r:Hid (v[i+1]! = s):=by show _=_;rw[<-m,bX _ _ _ _ oM];exact r.out
   have l:Hid (v[i+2]! = q):=by show _=_;rw[<-m,bX _ _ _ _ oM];exact l.out
   have f:Hid (v[i+3]! = p):=by show _=_;rw[<-m,bX _ _ _ _ oM];exact f.out
   have c:Hid (v[i+4]! = n):=by show _=_;rw[<-m,bX _ _ _ _ oM];exact c.out
   obtain⟨c1,f1⟩:=bP I (i+1) oM r.out;clear m A c0 f0;have b1:(i:Int)+1<25:=oM;have p1:0<=(i:Int)+1:=oM;have e1:((i:Int)+1).toNat=i+1:=oM;have v1:VS.wrap ((i:Int)+1)=(i:Int)+1:=Wu _ oM;go_region
   go_wp2_with fail
   generalize R:Yd _ _ _=W1;have hb:(bT v (i+1) (~~~q &&& p)).size=25:=by rw[dO];omega
   have H:Holds enc W1 b off (bT v (i+1) (~~~q &&& p)):=by rw[<-R];exact Holds.xor I oM r.out _
   have h3:Only b off 25 w W1:=by rw[<-R];exact(h5).setCell (o:=off+(i+1)) oM oM _
   generalize t:bT v (i+1) (~~~q &&& p)=y at *;have h6:Hid (bT v (i+1) (~~~q &&& p)=y):=t;have l:Hid (y[i+2]! = q):=by show _=_;rw[<-t,bX _ _ _ _ oM];exact l.out
   have f:Hid (y[i+3]! = p):=by show _=_;rw[<-t,bX _ _ _ _ oM];exact f.out
   have c:Hid (y[i+4]! = n):=by show _=_;rw[<-t,bX _ _ _ _ oM];exact c.out
   obtain⟨c2,f2⟩:=bP H (i+2) oM l.out;clear b1 p1 e1 v1;have b2:(i:Int)+2<25:=oM;have p2:0<=(i:Int)+2:=oM;have T:((i:Int)+2).toNat=i+2:=oM;have v2:VS.wrap ((i:Int)+2)=(i:Int)+2:=Wu _ oM;go_region
   go_wp2_with fail
   generalize K:Yd _ _ _=W2;have he:(bT y (i+2) (~~~p &&& n)).size=25:=by rw[dO];omega
   have M:Holds enc W2 b off (bT y (i+2) (~~~p &&& n)):=by rw[<-K];exact Holds.xor H oM l.out _
   have h4:Only b off 25 w W2:=by rw[<-K];exact(h3).setCell (o:=off+(i+2)) oM oM _
   generalize a:bT y (i+2) (~~~p &&& n)=B at *;have X:Hid (bT y (i+2) (~~~p &&& n)=B):=a;have f:Hid (B[i+3]! = p):=by show _=_;rw[<-a,bX _ _ _ _ oM];exact f.out
   have c:Hid (B[i+4]! = n):=by show _=_;rw[<-a,bX _ _ _ _ oM];exact c.out
   obtain⟨c3,f3⟩:=bP M (i+3) oM f.out;clear b2 p2 T v2;have S:(i:Int)+3<25:=oM;have W:0<=(i:Int)+3:=oM;have e3:((i:Int)+3).toNat=i+3:=oM;have v3:VS.wrap ((i:Int)+3)=(i:Int)+3:=Wu _ oM;go_region
   go_wp2_with fail
   generalize Q:Yd _ _ _=W3;have h9:(bT B (i+3) (~~~n &&& u)).size=25:=by rw[dO];omega
   have N:Holds enc W3 b off (bT B (i+3) (~~~n &&& u)):=by rw[<-Q];exact Holds.xor M oM f.out _
   have h2:Only b off 25 w W3:=by rw[<-Q];exact(h4).setCell (o:=off+(i+3)) oM oM _
   generalize O:bT B (i+3) (~~~n &&& u)=C at *;have Z:Hid (bT B (i+3) (~~~n &&& u)=C):=O;have c:Hid (C[i+4]! = n):=by show _=_;rw[<-O,bX _ _ _ _ oM];exact c.out
   obtain⟨c4,f4⟩:=bP N (i+4) oM c.out;clear S W e3 v3;have b4:(i:Int)+4<25:=oM;have p4:0<=(i:Int)+4:=oM;have e4:((i:Int)+4).toNat=i+4:=oM;have v4:VS.wrap ((i:Int)+4)=(i:Int)+4:=Wu _ oM;go_region
   go_wp2;generalize L:Yd _ _ _=W4;have h8:(bT C (i+4) (~~~u &&& s)).size=25:=by rw[dO];omega
   have h1:Holds enc W4 b off (bT C (i+4) (~~~u &&& s)):=by rw[<-L];exact Holds.xor N oM c.out _
   have Y:Only b off 25 w W4:=by rw[<-L];exact(h2).setCell (o:=off+(i+4)) oM oM _
   generalize h7:bT C (i+4) (~~~u &&& s)=U at *;have h0:Hid (bT C (i+4) (~~~u &&& s)=U):=h7;go_roundg (gk-1)
   case measure=>omega
   case rel =>
    refine⟨k+1,U,oM,?_,?_,?_,?_⟩
    ·rw[<-Hi.out];go_num
    ·exact h1
    ·exact Y.drewN 4
    ·show U=rowAt (yE d k) (5*k);rw[<-HE.out,Hi.out];unfold rowAt;rw[Q0.out,Q1.out,Q2.out,Q3.out,Q4.out,V.out,h6.out,X.out,Z.out,h0.out]
  ·have c:k=5:=oM;subst c;go_wp2
   go_end0
   refine⟨rfl,hO,?_⟩;show Holds enc _ b off (yE d 5);rw[<-HE.out];exact z
end SP
namespace SP
open Go.RowKit Go.Sort
attribute [local go_sem] cY dV dZ pB
theorem GA(j:Nat)(k:j<7):∃p:Nat,wrap64 (wrap64 ((2:Int)^j)-1)=(p:Int)/\p<=63/\Hid (2^j-1=p):=by
 have H:∀j:Fin 7,wrap64 (wrap64 ((2:Int)^j.val)-1)=((2^j.val-1:Nat):Int)/\2^j.val-1<=63:=dK;exact⟨_,(H ⟨j,k⟩).1,(H ⟨j,k⟩).2,rfl⟩
theorem qQ(r:Nat)(w:Ur)(m:r<256):
 UH prog 251 #[iZ r] w λe w'=>e=.returned (.tuple #[uZ (u (rcC r)),iZ (rcN r:Int)])/\w'=w:=by
 go_enter func251,ntmps251;go_wp2
 go_loop [0,2,6] (λs0 s2 s6=>∃j:Nat,j<=7/\∃(c:BitVec 64) (q:Nat),s6=iZ j/\s2=uZ (u c)/\s0=iZ q/\q<256/\Hid (wR r j=(c,q))) (λ_ _ s6=>7-(intOf s6).toNat)
 case atStart=>exact⟨0,dC,0,r,rfl,rfl,rfl,m,rfl⟩
 case round =>
  obtain⟨j,x,c,q,rfl,rfl,rfl,f,i⟩:=hrel;by_cases g:j<7
  ·have t:=OR q f;have a2:=OQ q f;obtain⟨p,v,y,n⟩:=GA j g;have l:Hid (wR r (j+1)=(c ||| Yn 64 (q%2) <<< p,wS q)):=by
    show((wR r j).1 ||| Yn 64 ((wR r j).2%2) <<< (2^j-1),wS (wR r j).2)=_;rw[i.out,n.out]
   have s:=Ir (Yn 64 (q%2)) p;have k:=BW q f;by_cases b:255<2*q
   ·have d:Hid (wS q=2*q ^^^ 369):=yCl b;rw[d.out]at k;generalize 2*q ^^^ 369=o at *;go_wp2
    go_round
    case rel=>exact⟨j+1,oM,_,o,by go_num,rfl,rfl,k,by rw[l.out,d.out];rfl⟩
    case measure=>simp[intOf];omega
   ·have d:Hid (wS q=2*q):=yCm b;go_wp2
    go_round
    case rel=>exact⟨j+1,oM,_,2*q,by go_num,rfl,by go_num,oM,by rw[l.out,d.out];rfl⟩
    case measure=>simp[intOf];omega
  ·have k:j=7:=oM;subst k;go_wp2
   go_ret2
   unfold rcC rcN;rw[i.out];exact⟨rfl,rfl⟩
theorem tW(b off:Nat)(d:St)(w:Ur)(hd:d.size=25)(E:Holds enc w b off d):
 UH prog 241 #[oZ b off] w λe w'=>e=.returned (.tuple #[])/\Only b off 25 w w'/\Holds enc w' b off (perm d):=by
 go_enter func241,ntmps241;go_wp2;go_loopg [2,3,4] 24 (λg sc B J wr=>∃(k:Nat) (c:BitVec 64) (f:St),k+g=24/\J=iZ k/\sc=uZ (u c)/\B=iZ (BX k:Nat)/\Holds enc wr b off f/\Only b off 25 w wr/\Hid (f=sF d k))
 case atStart=>exact⟨0,0,d,rfl,rfl,rfl,rfl,E,Only.refl _ _ _ _,rfl⟩
 case round =>
  obtain⟨k,c,f,N,rfl,rfl,rfl,y,z,q⟩:=hrel;have l:f.size=25:=by rw[q.out,tX d hd]
  by_cases A:k<24
  ·have C:(k:Int)<24:=oM;go_wp2_with fail
   refine(xH b off f _ l y).mono ?_;rintro e M ⟨rfl,t,p⟩;go_wp2_with fail
   refine(uK b off _ _ (by rw[lO,l]) p).mono ?_;rintro e O ⟨rfl,v,m⟩;go_wp2_with fail
   refine(Ci b off _ _ (qC _ (by rw[lO,l])) m).mono ?_;rintro e L ⟨rfl,s,j⟩;have a:Hid (BX (k+1)=rcN (BX k)):=rfl;have F:Hid (sF d (k+1)=xM (sF d k) (rcC (BX k))):=rfl;have n:=LX k;generalize BX k=r at *;go_wp2_with fail
   refine(qQ r _ n).mono ?_;rintro e K ⟨rfl,rfl⟩;have G:(chi (zK (wF f))).size=25:=by rw[Cz,qC _ (by rw[lO,l])]
   obtain⟨x,hx⟩:∃x,(chi (zK (wF f)))[0]! = x:=⟨_,rfl⟩
   obtain⟨I,H⟩:=bP j 0 oM hx;rw[XD]at I H;have D:Hid ((chi (zK (wF f)))[0]! = x):=hx;clear hx;go_wp2_with fail
   go_region
   go_wp2;go_roundg (gk-1)
   case measure=>omega
   case rel =>
    refine⟨k+1,rcC r,xM f (rcC r),oM,by go_num,rfl,by rw[a.out],?_,?_,?_⟩
    ·exact Holds.drew (Holds.xor (i:=0) j oM D.out (rcC r))
    ·exact((((z.trans t).trans v).trans s).setCell (o:=off) oM oM _).drew
    ·rw[F.out,q.out];rfl
  ·have j:k=24:=oM;subst j;go_wp2
   go_end0
   refine⟨rfl,z,?_⟩;unfold perm;rw[<-q.out];exact y
end SP
namespace SP
open Go.RowKit Go.Sort Go.Deep
attribute [local go_sem] cY dV dZ pB Eo
theorem FQ{w:Ur}{b off:Nat}{d:Bs}(h:Holds encB w b off d)(i:Nat)(k:i<d.size){x:UInt8}(hx:d[i]! = x):
 w.cell? ⟨b,off+i,none⟩=some (.int .u8 (ub x))/\w.frozen? ⟨b,off+i,none⟩=false:=by
 rw[<-hx];exact h i k
theorem word_any(g i o len cap:Nat)(b:Bs)(w:Ur)(l:Holds encB w g i b)(p:8<=len)(ho:o+8<=b.size)(s:len<=4611686018427387904):
 UH prog 247 #[.slice (some ⟨g,i+o,none⟩) len cap] w λe w'=>e=.returned (uZ (u (wordOf b o)))/\w'=w:=by
 go_enter func247,ntmps247;go_wp2
 go_loop [3,5] (λs3 s5=>∃(k:Nat) (c:BitVec 64),k<=8/\s5=iZ k/\s3=uZ (u c)/\Hid (vZ b o k=c)) (λ_ s5=>8-(intOf s5).toNat)
 case atStart=>exact⟨0,0,dC,rfl,rfl,rfl⟩
 case round =>
  obtain⟨k,c,t,rfl,rfl,f⟩:=hrel;by_cases j:k<8
  ·obtain⟨x,hx⟩:∃x,b[o+k]! = x:=⟨_,rfl⟩
   obtain⟨n,m⟩:=FQ l (o+k) oM hx;rw[<-WT]at n;have d:Hid (vZ b o (k+1)=c ||| wide x <<< (8*k)):=by
    show vZ b o k ||| wide b[o+k]! <<< (8*k)=_
    rw[f.out,hx]
   clear hx m;have q:=Ir (wide x) (8*k);have r:(k:Int)<(len:Int):=oM;go_wp2
   go_round
   case rel=>exact⟨k+1,_,oM,by go_num,rfl,d⟩
   case measure=>simp[intOf];omega
  ·have d:k=8:=oM;subst d;go_wp2;go_ret;unfold wordOf;rw[f.out];exact⟨rfl,rfl⟩
theorem MB(b off f i len cap:Nat)(c:Bs)(d:St)(w:Ur)(hd:d.size=25)(z:Holds enc w b off d)(t:Holds encB w f i c)(D:c.size=len)(r:len<=200)(s:len<=cap)
 (j:f≠b\/i+len<=off\/off+25<=i) :
 UH prog 240 #[.pointer (some ⟨b,off,none⟩),.slice (some ⟨f,i,none⟩) len cap] w λe w'=>e=.returned (.tuple #[])/\Only b off 25 w w'/\Holds enc w' b off (kX c d (len/8)):=by
 go_enter func240,ntmps240;go_wp2;go_loopg [8] (len/8) (λg s8 wr=>∃(k:Nat) (j:St),k+g=len/8/\s8=.int .i64 k/\Holds enc wr b off j/\Only b off 25 w wr/\Hid (j=kX c d k))
 case atStart=>exact⟨0,d,oM,rfl,z,Only.refl _ _ _ _,rfl⟩
 case round =>
  obtain⟨k,j,F,rfl,p,n,q⟩:=hrel;have B:j.size=25:=by rw[q.out,mC,hd]
  by_cases u:k<len/8
  ·have l:Holds encB wr f i c:=by
    by_cases m:f=b
    ·subst m;exact Holds.same t n oM
    ·exact Holds.other t n m oM
   obtain⟨x,hx⟩:∃x,j[k]! = x:=⟨_,rfl⟩
   obtain⟨J,I⟩:=bP p k oM hx;have y:Hid (j[k]! = x):=hx;clear hx;have E:(k:Int)<25:=oM;have G:(0:Int)<=(k:Int)*8:=oM;have C:(k:Int)*8<=(len:Int):=oM;have A:((k:Int)*8).toNat=8*k:=oM;have s1:VS.wrap ((k:Int)*8)=(k:Int)*8:=Wu _ oM;have lt:(k:Int)<(len:Int)/8:=oM;go_wp2_with fail
   have m:(cap=8*k)=False:=eq_false oM;have v:Hid (Holds encB wr.drew f i c):=Holds.drew l;have a:Hid (8*k+8<=c.size):=by show _<=_;omega
   clear l;go_region_with (go_at_call 247;refine(word_any f i (8*k) (len-8*k) (cap-8*k) c _ v.out oM a.out oM).mono ?_;rintro e H ⟨rfl,rfl⟩)
   all_goals
    go_wp2;go_roundg (gk-1)
    case measure=>omega
    case rel =>
     refine⟨k+1,bT j k (wordOf c (8*k)),oM,by go_num,?_,?_,?_⟩
     ·exact Holds.drew (Holds.xor p oM y.out _)
     ·exact(n.setCell (o:=off+k) oM oM _).drew
     ·rw[q.out];rfl
  ·have l:k=len/8:=oM;have lt:(len:Int)/8<=(k:Int):=oM;go_wp2
   go_end0
   refine⟨rfl,n,?_⟩;rw[<-l,<-q.out];exact p
theorem slice22:prog.underlying 23=some (.slice 5):=kR
theorem info5:(prog.info? 5).map (λi=>(i.zero,i.size,i.bytes))=some (some (.int .u8 0),1,1):=kR
attribute [local go_sem] NF
theorem sO(b off n:Nat)(d:St)(w:Ur)(hd:d.size=25)(q:Holds enc w b off d)(a:n<=200):
 UH prog 190 #[oZ b off,iZ n] w λe w'=>e=.returned (sZ w.heap.size n n)/\kZ w w'/\Holds encB w' w.heap.size 0 (front d n):=by
 have u:=Holds.lt q oM;have y:=yBG (P:=prog) 23 5 (.int .u8 0) 1 slice22 info5 rfl .i64 .i64 n oM oM;go_enter func190,ntmps190;go_wp2;generalize c:(w.alloc _)=s;go_loopg [11] n (λg s11 wr=>∃(k:Nat) (f:Bs),k+g=n/\s11=iZ k/\Holds encB wr w.heap.size 0 f/\Only w.heap.size 0 n s wr/\Hid (f=gQ d n k))
 case atStart =>
  refine⟨0,_,oM,rfl,?_,Only.refl _ _ _ _,rfl⟩;rw[<-c];exact Holds.made (enc:=encB) w 5 n 0
 case round =>
  obtain⟨k,f,B,rfl,l,j,p⟩:=hrel;have A:f.size=n:=by rw[p.out,mF]
  have r:Holds enc wr b off d:=Holds.other (by rw[<-c];exact Holds.below q ((UR _ _).alloc (Uw _) _) u) j oM oM;by_cases t:k<n
  ·obtain⟨x,hx⟩:∃x,d[k/8]! = x:=⟨_,rfl⟩
   obtain⟨D,C⟩:=bP r (k/8) oM hx;obtain⟨c1,z⟩:=l k oM;rw[UD]at c1 z;have v:Hid (byteOf d k=low (x >>> (8*(k%8)))):=by show low _=_;rw[hx]
   have m:=Nv x (8*(k%8));go_wp2;go_roundg (gk-1)
   case measure=>omega
   case rel =>
    refine⟨k+1,f.setIfInBounds k (low (x >>> (8*(k%8)))),oM,by go_num,?_,?_,?_⟩
    ·have:=Holds.set l (i:=k) oM (low (x >>> (8*(k%8))));rw[UD]at this;exact this
    ·exact j.setCell (o:=k) oM oM _
    ·show _=(gQ d n k).setIfInBounds k (byteOf d k);rw[v.out,p.out]
  ·have m:k=n:=oM;go_wp2;go_ret;refine⟨rfl,?_,?_⟩
   ·rw[<-c]at j;exact j.fresh
   ·unfold front;rw[p.out,m]at l;exact l
end SP
namespace SP
open Go.RowKit
structure Of where
 x:Nat
 y:Nat
 o:Array Nat
end SP
namespace SP
theorem zx(x:BitVec 64):0 ^^^ x=x:=BitVec.zero_xor
end SP
namespace SP
open Go.Sort
def vW:St:=UJ 25 0
theorem Gi(j:Nat)(h:j<25):vW[j]! = 0:=by
 have k:j<(UJ 25 (0:BitVec 64)).size:=by rw[UP];exact h
 unfold vW;rw[getElem!_pos (UJ 25 (0:BitVec 64)) j k,Wy]
end SP
namespace SP
open Go.RowKit Go.Sort
def fill(i:Nat):UInt8:=UM (i%251) ^^^ 165
def lentTo(s:ByteArray):Nat->Bs
 | 0=>s.data++UJ 160 0
 | k+1=>(lentTo s k).setIfInBounds (s.size+k) (fill (s.size+k))
def lent(s:ByteArray):Bs:=lentTo s 160
variable {w w1:Ur}{b o n:Nat}
theorem heap_setCells(b:Nat)(c:k≠b):∀(vs:List Ut) (p:Nat) (w:Ur),(w.setCells b p vs).heap[k]? = w.heap[k]?
 | [],_,_=>rfl
 | v :: r,p,w=>by rw[World.setCells,heap_setCells b c r (p+1) _,Zt _ _ _ _ c]
theorem Only.setCells(h:Only b o n w w1)(vs:List Ut)(p:Nat)(g:o<=p)(e:p+vs.length<=o+n):Only b o n w (w1.setCells b p vs):=by
 have c:=below_setCells (B:=0) (b:=b) (WA _) vs p w1 (UR 0 w1);exact h.trans ⟨c.os,c.tape,c.output,c.size,λk _ d=>heap_setCells b d vs p w1,
  λq f=>Z6 b vs p w1 ⟨b,q,none⟩ (λ_ _=>by simp only;omega),λq=>yAh b vs p w1 _⟩
theorem Holds.setCells{c r:Bs}(h:Holds encB w b o c)(vs:List Ut)(p:Nat)(g:r.size=c.size)(m:p+vs.length<=c.size)
 (f:∀j (k:j<vs.length),vs[j]=encB r[p+j]!) (d:∀j,j<c.size->j<p\/p+vs.length<=j->r[j]! = c[j]!):Holds encB (w.setCells b (o+p) vs) b o r:=by
 intro j k;rw[g]at k;rw[yAh];refine⟨?_,(h j k).2⟩;by_cases e:j<p\/p+vs.length<=j
 ·rw[Z6 b vs (o+p) w ⟨b,o+j,none⟩ (λ_ _=>by simp only;omega),d j k e];exact(h j k).1
 ·have d:j-p<vs.length:=oM;have:=World.cell?_setCells_in b vs (o+p) w (λi l=>by
   have:=(h (p+i) oM).1;rw[<-WT]at this;rw[this];rfl) (j-p) d
  rw[show o+p+(j-p)=o+j by omega]at this;rw[this,f (j-p) d,show p+(j-p)=j by omega]
theorem app_front(a r:Bs)(j:Nat)(k:j<a.size):(a++r)[j]! = a[j]:=by
 have h:j<(a++r).size:=by rw[VN];omega
 rw[getElem!_pos (a++r) j h,Z4 k]
theorem app_back(a r:Bs)(j:Nat)(k:a.size<=j)(c:j<a.size+r.size):(a++r)[j]! = r[j-a.size]!:=by
 have h:j<(a++r).size:=by rw[VN];omega
 have b:j-a.size<r.size:=oM;rw[getElem!_pos (a++r) j h,ZY k,getElem!_pos r (j-a.size) b]
theorem rep_at(n j:Nat)(h:j<n):(UJ n (0:UInt8))[j]! = 0:=by
 have k:j<(UJ n (0:UInt8)).size:=by rw[UP];exact h
 rw[getElem!_pos (UJ n (0:UInt8)) j k,Wy]
theorem size_of5(P:Program)(e:U8)(h:(P.info? e).map (·.size)=some 1):∀w,(yAc e).run P w=.ok 1 w:=by
 intro w;cases k:P.info? e with
 | none=>simp[k]at h
 | some i =>
  simp[k]at h;simp[yAc,typeInfo,k,h]
theorem conv_str(P:Program)(src k e:U8)(m:P.underlying src=some (.slice e))(l:P.underlying e=some (.int .u8))(hd:P.underlying k=some .string)
 (w:Ur) (b o n cap:Nat) (c:Bs) (r:Holds encB w b o c) (i:c.size=n):(convert src k (.slice (some ⟨b,o,none⟩) n cap)).run P w=.ok (.string ⟨c⟩) w:=by
 have h:=run_convert_bytes_back (P:=P) w src k e ⟨b,o,none⟩ cap c.toList m l hd (λj p=>by
  have d:j<c.size:=by simpa using p
  have g:=(r j d).1;rw[getElem!_pos c j d]at g;have q:(⟨b,o,none⟩:Ww).add j=⟨b,o+j,none⟩:=by
   unfold Zk;by_cases f:j=0
   ·subst f;rfl
   ·rw[yCm f]
  rw[q,g];simp[encB,ub])
 simpa[i]using h
end SP
namespace SP
open Go.RowKit Go.Sort Go.Deep
theorem int5:prog.underlying 5=some (.int .u8):=kR
theorem str9:prog.underlying 9=some .string:=kR
theorem size5:∀w,(yAc 5).run prog w=.ok 1 w:=size_of5 prog 5 kR
end SP
namespace SP
open Go.Sort
theorem low_bit(v:BitVec 64)(i:Nat)(h:i<8):(low v).toNat.testBit i=v.getLsbD i:=by
 unfold low;rw[YJ,Nat.testBit_mod_two_pow,BitVec.getLsbD];simp[h]
theorem DU(d:St)(n k j:Nat)(e:k<=n)(b:j<n):(gQ d n k)[j]! = if j<k then byteOf d j else 0:=by
 induction k with
 | zero =>
  have c:j<(UJ n (0:UInt8)).size:=by rw[UP];exact b
  rw[gQ,getElem!_pos (UJ n (0:UInt8)) j c,Wy,yCm oM]
 | succ k ih =>
  rw[gQ];by_cases h:j=k
  ·subst h;rw[getElem!_set_same _ _ _ (by rw[mF];exact b),yCl oM]
  ·rw[getElem!_set_other _ _ _ _ h,ih oM];by_cases c:j<k
   ·rw[yCl c,yCl oM]
   ·rw[yCm c,yCm oM]
theorem Jv(d:St)(n j:Nat)(k:j<n):(front d n)[j]! = byteOf d j:=by
 unfold front;rw[DU d n n j (Uw _) k,yCl k]
/-! ### The sponge, byte by byte -/
structure Sp where
  d : St
  p : Bs
  h : Nat
structure Ok(S:Sp):Prop where
 d25:S.d.size=25
 p136:S.p.size=136
 hlt:S.h<136
def jV(S:Sp):Sp:={ d:=perm (kX S.p S.d 17),p:=S.p,h:=0 }
def Du(S:Sp)(x:UInt8):Sp:=
 if S.h+1=136 then jV { d:=S.d,p:=S.p.setIfInBounds S.h x,h:=S.h } else { d:=S.d,p:=S.p.setIfInBounds S.h x,h:=S.h+1 }
def fU(S:Sp)(l:List UInt8):Sp:=l.foldl Du S
def splice(p:Bs):Nat->List UInt8->Bs
 | _,[]=>p
 | i,x :: r=>splice (p.setIfInBounds i x) (i+1) r
theorem lP(S:Sp)(a b:List UInt8):fU S (a++b)=fU (fU S a) b:=List.foldl_append
theorem dM(p:Bs)(i:Nat)(l:List UInt8):(splice p i l).size=p.size:=by
 induction l generalizing p i with
 | nil=>rfl
 | cons x r ih=>rw[splice,ih,VF]
theorem kO(p:Bs)(i:Nat)(l:List UInt8)(j:Nat)(c:i+l.length<=p.size)(k:j<p.size):(splice p i l)[j]! = if i<=j/\j<i+l.length then l[j-i]! else p[j]!:=by
 induction l generalizing p i with
 | nil=>simp[splice];omega
 | cons x r ih =>
  simp only[Vj]at c;rw[splice,ih _ _ (by rw[VF];omega) (by rw[VF];exact k)];by_cases h:j=i
  ·subst h;rw[yCm oM,getElem!_set_same _ _ _ k,yCl (by simp),YW];rfl
  ·rw[getElem!_set_other _ _ _ _ h];by_cases b:i+1<=j/\j<i+1+r.length
   ·rw[yCl b,yCl (by simp;omega),show j-i=(j-(i+1))+1 by omega];rfl
   ·rw[yCm b,yCm (by simp;omega)]
theorem nU(d:St)(p:Bs)(h:Nat):jV ⟨d,p,h⟩=⟨perm (kX p d 17),p,0⟩:=by unfold jV;rfl
theorem LD(S:Sp):(jV S).d=perm (kX S.p S.d 17):=by
 obtain⟨d,p,h⟩:=S;rw[nU]
theorem LA(S:Sp):(jV S).p=S.p:=by
 obtain⟨d,p,h⟩:=S;rw[nU]
theorem LC(S:Sp):(jV S).h=0:=by
 obtain⟨d,p,h⟩:=S;rw[nU]
theorem Lz(k:S.d.size=25)(b:S.p.size=136):Ok (jV S):=by
 have hd:(kX S.p S.d 17).size=25:=by rw[mC,k]
 refine⟨?_,by rw[LA,b],?_⟩
 ·rw[LD];exact sE _ hd
 ·rw[LC];decide
theorem LY(h:Ok S)(x:UInt8):Ok (Du S x):=by
 have:=h.hlt;unfold Du;by_cases e:S.h+1=136
 ·rw[yCl e];exact Lz h.d25 (by show(S.p.setIfInBounds _ _).size=136;rw[VF];exact h.p136)
 ·rw[yCm e];exact⟨h.d25,by show(S.p.setIfInBounds _ _).size=136;rw[VF];exact h.p136,by show S.h+1<136;omega⟩
theorem jD(h:Ok S)(l:List UInt8):Ok (fU S l):=by
 induction l generalizing S with
 | nil=>exact h
 | cons x r ih=>exact ih (LY h x)
theorem tN(S:Sp)(l:List UInt8)(c:l≠[])(k:S.h+l.length<=136):
 fU S l=if S.h+l.length=136 then jV { d:=S.d,p:=splice S.p S.h l,h:=S.h } else { d:=S.d,p:=splice S.p S.h l,h:=S.h+l.length }:=by
 induction l generalizing S with
 | nil=>exact absurd rfl c
 | cons x r ih =>
  show fU (Du S x) r=_;simp only[Vj]at k⊢;cases r with
  | nil =>
   unfold Du fU splice;simp only[List.foldl_nil,List.length_nil];by_cases e:S.h+1=136
   ·rw[yCl e,yCl oM];rfl
   ·rw[yCm e,yCm oM];rfl
  | cons y r' =>
   have e:¬S.h+1=136:=by simp only[Vj]at k;omega
   have f:Du S x = { d:=S.d,p:=S.p.setIfInBounds S.h x,h:=S.h+1 }:=by unfold Du;rw[yCm e]
   rw[f,ih _ (by simp) (by simp only[Vj]at k⊢;omega)];simp only[splice,Vj];by_cases b:S.h+(r'.length+1+1)=136
   ·rw[yCl oM,yCl b];rfl
   ·rw[yCm oM,yCm b,show S.h+1+(r'.length+1)=S.h+(r'.length+1+1) by omega]
/-! ### The end -/
def ended(p : Bs)(h : Nat)(e : UInt8): Bs:=
  let q:=(splice p h (VB (136-h) 0)).setIfInBounds h e
  q.setIfInBounds 135 (q[135]! ^^^ 128)
def sQ(S:Sp)(e:UInt8):Sp:=jV { d:=S.d,p:=ended S.p S.h e,h:=S.h }
def jT(h:Nat)(e:UInt8):List UInt8:=
 (e :: VB (135-h) 0).set (135-h) ((e :: VB (135-h) 0)[135-h]! ^^^ 128)
theorem fM(h:Nat)(e:UInt8)(hh:h<136):(jT h e).length=136-h:=by
 unfold jT;rw[List.length_set,Vj,Xh];omega
theorem P7(a b:Bs)(n:Nat)(d:a.size=n)(e:b.size=n)(h:∀j,j<n->a[j]! = b[j]!):a=b:=by
 apply Array.ext oM;intro i k c;have:=h i oM;rwa[getElem!_pos a i k,getElem!_pos b i c]at this
theorem OZ(h:Nat)(e:UInt8)(j:Nat)(c:j<136-h)(hh:h<136):(jT h e)[j]! = (if j=0 then e else 0) ^^^ (if j=135-h then 128 else 0):=by
 have f:∀j,j<136-h->(e :: VB (135-h) (0:UInt8))[j]! = if j=0 then e else 0:=by
  intro j c;cases j with
  | zero=>rfl
  | succ j =>
   have b:j+1<(e :: VB (135-h) (0:UInt8)).length:=by rw[Vj,Xh];omega
   rw[getElem!_pos (e :: VB (135-h) (0:UInt8)) (j+1) b];simp
 have k:=fM h e hh;have b:j<(e :: VB (135-h) (0:UInt8)).length:=by rw[Vj,Xh];omega
 rw[getElem!_pos (jT h e) j (by rw[k];exact c)];unfold jT;rw[List.getElem_set];by_cases d:135-h=j
 ·rw[yCl d,f (135-h) oM,d,yCl (rfl:j=j)]
 ·rw[yCm d,yCm (show ¬j=135-h by omega)];have:=f j c;rw[getElem!_pos (e :: VB (135-h) (0:UInt8)) j b]at this;rw[this];simp
theorem DX(p:Bs)(h:Nat)(e:UInt8):(ended p h e).size=p.size:=by
 unfold ended;simp only[VF,dM]
theorem BS(n j:Nat)(h:j<n):(VB n (0:UInt8))[j]! = 0:=by
 rw[getElem!_pos _ j (by simpa using h)];simp
theorem JF(p:Bs)(h:Nat)(e:UInt8)(c:p.size=136)(hh:h<136):ended p h e=splice p h (jT h e):=by
 have i:(splice p h (VB (136-h) 0)).size=136:=by rw[dM,c]
 refine P7 _ _ 136 (by rw[DX,c]) (by rw[dM,c]) (λj d=>?_);have f:∀j,j<136->((splice p h (VB (136-h) 0)).setIfInBounds h e)[j]! = if j<h then p[j]! else if j=h then e else 0:=by
  intro j d;by_cases k:j=h
  ·rw[k,getElem!_set_same _ _ _ oM,yCm oM,yCl rfl]
  ·rw[getElem!_set_other _ _ _ _ k,kO _ _ _ _ (by rw[Xh,c];omega) oM,Xh];by_cases b:j<h
   ·rw[yCm oM,yCl b]
   ·rw[yCl oM,yCm b,yCm k,BS _ _ oM]
 have hR:(splice p h (jT h e))[j]! = if j<h then p[j]! else(if j=h then e else 0) ^^^ (if j=135 then 128 else 0):=by
  rw[kO _ _ _ _ (by rw[fM h e hh,c];omega) oM,fM h e hh];by_cases b:j<h
  ·rw[yCm (show ¬(h<=j/\j<h+(136-h)) by omega),yCl b]
  ·rw[yCl (show h<=j/\j<h+(136-h) by omega),yCm b,OZ h e _ oM hh];have k:(j-h=0)=(j=h):=by apply propext;omega
   have g:(j-h=135-h)=(j=135):=by apply propext;omega
   simp only[k,g]
 have g:(ended p h e)[j]! = if j<h then p[j]! else(if j=h then e else 0) ^^^ (if j=135 then 128 else 0):=by
  unfold ended;by_cases k:j=135
  ·rw[k,getElem!_set_same _ _ _ (by rw[VF,i];decide),f 135 dC,yCm (show ¬135<h by omega),yCm (show ¬135<h by omega),yCl (rfl:135=135)]
  ·rw[getElem!_set_other _ _ _ _ k,f j d];by_cases b:j<h
   ·rw[yCl b,yCl b]
   ·rw[yCm b,yCm b,yCm k];simp
 rw[g,hR]
theorem GO(h:Ok S)(e:UInt8):sQ S e=fU S (jT S.h e):=by
 have:=h.hlt;have k:=fM S.h e h.hlt;rw[tN S _ (by intro c;rw[c]at k;simp at k;omega) oM,yCl oM];unfold sQ;rw[JF _ _ _ h.p136 h.hlt]
end SP
namespace SP
open Go.RowKit Go.Sort Go.Deep
theorem Only.widen{b o n:Nat}{w w':Ur}(h:Only b o n w w')(d:k<=o)(e:o+n<=k+c):Only b k c w w':=
 ⟨h.os,h.tape,h.output,h.size,h.block,λq f=>h.cell q oM,h.froz⟩
structure HSp(w:Ur)(b:Nat)(S:Sp):Prop where
 d:Holds enc w b 0 S.d
 p:Holds encB w b 25 S.p
 h:w.cell? ⟨b,161,none⟩=some (iZ (S.h:Int))
 f:w.frozen? ⟨b,161,none⟩=false
theorem HSp.drew{w:Ur}{b:Nat}(h:HSp w b S):HSp w.drew b S:=⟨h.d,h.p,h.h,h.f⟩
theorem HSp.lt{w:Ur}{b:Nat}(h:HSp w b S):b<w.heap.size:=Xq _ _ h.h
theorem HSp.below{w w':Ur}{b B:Nat}(h:HSp w b S)(k:Below B w w')(c:b<B):HSp w' b S:=
 ⟨Holds.below h.d k c,Holds.below h.p k c,by rw[k.cell (p:=⟨b,161,none⟩) c];exact h.h,by rw[k.frozen (p:=⟨b,161,none⟩) c];exact h.f⟩
theorem wI(b:Nat)(S:Sp)(w:Ur)(c:S.d.size=25)(g:S.p.size=136)(o:HSp w b S):
 UH prog 225 #[.pointer (some ⟨b,0,none⟩)] w λe w'=>e=.returned (.tuple #[])/\Only b 0 162 w w'/\HSp w' b (jV S):=by
 obtain⟨d,p,h⟩:=S;dsimp only at c g;have B:Holds enc w b 0 d:=o.d;have a:Holds encB w b 25 p:=o.p;have A:=o.h;have hf:=o.f;dsimp only at A;rw[nU];clear o;have x:(perm (kX p d 17)).size=25:=sE _ (by rw[mC,c]);generalize l:perm (kX p d 17)=D at x⊢;have t:Hid (perm (kX p d 17)=D):=l;clear l;go_enter func225,ntmps225;go_wp2;go_still_tail 7,mixed;go_wp2_with fail
 refine(MB b 0 b 25 136 136 p d _ c (Holds.drew B) (Holds.drew a) g dC (Uw _) oM).mono ?_;rintro e s ⟨rfl,r,n⟩;have k:Only b 0 25 w s:=((Only.refl b 0 25 w).drew).trans r;have m:Holds enc s b 0 (kX p d 17):=n;have y:=Holds.same a k oM;have c1:s.cell? ⟨b,161,none⟩=some (.int .i64 h):=by rw[k.cell 161 oM];exact A
 have C:s.frozen? ⟨b,161,none⟩=false:=by rw[k.froz];exact hf
 clear r n;go_wp2_with fail
 refine(tW b 0 _ _ (by rw[mC,c]) m).mono ?_;rintro e q ⟨rfl,f,j⟩;rw[t.out]at j;have z:=Holds.same y f oM;have c2:q.cell? ⟨b,161,none⟩=some (.int .i64 h):=by rw[f.cell 161 oM];exact c1
 have f2:q.frozen? ⟨b,161,none⟩=false:=by rw[f.froz];exact C
 go_wp2
 go_end0
 have i:Only b 161 1 q (q.setCell ⟨b,161,none⟩ (.int .i64 0)):=(Only.refl b 161 1 q).setCell oM oM _;have v:=Holds.same j i (U4 oM);have u:=Holds.same z i (U4 oM);exact⟨rfl,((k.trans f).widen (Uw _) oM).trans (i.widen oM oM),⟨v,u,VV _ _ _ c2,by rw[VM];exact f2⟩⟩
theorem ints5:(prog.info? 5).map (·.size)=some 1:=kR
theorem iO{w:Ur}{b o:Nat}(h:Holds encB w b o p)(i:Nat)(l:List UInt8)(d:i+l.length<=p.size):Holds encB (w.setCells b (o+i) (l.map encB)) b o (splice p i l):=by
 refine Holds.setCells h _ i (dM p i l) (by rw[UQ];exact d) (λj c=>?_) (λj c k=>?_)
 ·rw[UQ]at c;rw[kO p i l (i+j) d oM,yCl oM,WN,getElem!_pos l j c,Xf]
 ·rw[UQ]at k;rw[kO p i l j d c,yCm oM]
def piece(b:Bs)(k n:Nat):List UInt8:=(b.toList.drop k).take n
theorem qW(b:Bs)(k n:Nat)(h:k+n<=b.size):(piece b k n).length=n:=by
 unfold piece;rw[List.length_take,List.length_drop,UK];omega
theorem piece_at(b:Bs)(k n j:Nat)(h:k+n<=b.size)(c:j<n)(d:j<(piece b k n).length):(piece b k n)[j]=b[k+j]!:=by
 have e:(piece b k n)[j]? = some b[k+j]!:=by
  unfold piece;rw[List.getElem?_take_of_lt c,List.getElem?_drop,Vq,U0 oM,getElem!_pos b (k+j) oM]
 exact(UF.1 e).2
theorem Db(b:Bs)(k n:Nat):b.toList.take (k+n)=b.toList.take k++piece b k n:=List.take_add
theorem D3{w:Ur}{b h o len n:Nat}{d:Bs}(q:Holds encB w b 25 p)(a:p.size=136)(u:Holds encB w e o d)(hh:h<136)(z:k+len<=d.size)(g:XR len (136-h)=n):
 (X1 #[23,23] 3 #[.slice (some ⟨b,25+h,none⟩) (136-h) (136-h),.slice (some ⟨e,o+k,none⟩) len cap]).run prog w=.ok (goInt n) (w.setCells b (25+h) ((piece d k n).map encB)):=by
 have r:n<=len:=by rw[<-g];exact Z9 _ _
 have s:n<=136-h:=by rw[<-g];exact ZZ _ _
 have c:((piece d k n).map encB).length=n:=by rw[UQ,qW d k n oM]
 have:=run_copy_cells (P:=prog) w 23 23 3 5 b (25+h) (136-h) (136-h) ⟨e,o+k,none⟩ len cap ((piece d k n).map encB) slice22 ints5 (by rw[c,g])
  (λj v f=>by
   obtain⟨l,i⟩:=UF.1 f;rw[c]at l;have y:=(u (k+j) oM).1;rw[Xf,piece_at d k n j oM l]at i;have t:(⟨e,o+k,none⟩:Ww).add j=⟨e,o+(k+j),none⟩:=by
    unfold Zk;by_cases m:j=0
    ·subst m;rw[yCl rfl];rfl
    ·rw[yCm m,WT]
   rw[t,y,i])
  (λj f=>by
   rw[c]at f;have:=(q (h+j) oM).1;rw[<-WT]at this;rw[this];rfl)
  (λj f=>by
   rw[c]at f;have:=(q (h+j) oM).2;rw[<-WT]at this;exact this)
  (λv hv=>by
   obtain⟨x,_,rfl⟩:=Vn.1 hv;rfl)
 rw[c]at this;exact this
theorem rE{w:Ur}{b:Nat}{d:St}{v:Ut}(i:Holds enc w b 0 d)(g:d.size=25)(j:Holds encB w b 25 p)(e:p.size=136)(l:w.cell? ⟨b,161,none⟩=some v)(hf:w.frozen? ⟨b,161,none⟩=false)(m:Nat):
 HSp (w.setCell ⟨b,161,none⟩ (iZ ((m:Nat):Int))) b ⟨d,p,m⟩:=by
 have f:Only b 161 1 w (w.setCell ⟨b,161,none⟩ (iZ ((m:Nat):Int))):=(Only.refl b 161 1 w).setCell oM oM _;have c:=Holds.same i f (U4 oM);have k:=Holds.same j f (U4 oM);exact⟨c,k,VV _ _ _ l,by rw[VM];exact hf⟩
theorem take_any(b:Nat)(S:Sp)(a:Option Ww)(v z len cap:Nat)(d:Bs)(w:Ur)(Y:Ok S)(hS:HSp w b S)(hl:d.size=len)(h3:len<=cap)(h2:len<=1099511627776)
 (c:len=0\/(a=some ⟨v,z,none⟩/\v≠b/\Holds encB w v z d)) :
 UH prog 224 #[.pointer (some ⟨b,0,none⟩),.slice a len cap] w λe w'=>e=.returned (.tuple #[])/\Only b 0 162 w w'/\HSp w' b (fU S d.toList):=by
 go_enter func224,ntmps224;go_wp2;go_loopg [1] len (λg s1 wr=>∃(k:Nat) (X:Option Ww) (j:Sp),k+g=len/\s1=.slice X (len-k) (cap-k)/\(k<len->X=some ⟨v,z+k,none⟩)/\HSp wr b j/\Only b 0 162 w wr/\Hid (j=fU S (d.toList.take k)))
 case atStart =>
  refine⟨0,a,S,oM,rfl,λf=>?_,hS,Only.refl _ _ _ _,rfl⟩;rcases c with h|⟨h,_,_⟩
  ·omega
  ·exact h
 case round =>
  obtain⟨k,X,j,hk,rfl,R,m,U,Z⟩:=hrel;by_cases T:k<len
  ·have V:=R T;subst V;obtain⟨_,P,hB⟩:a=some ⟨v,z,none⟩/\v≠b/\Holds encB w v z d:=by
    rcases c with h|h
    ·omega
    ·exact h
   have K:=Holds.other hB U P oM;have i:Ok j:=by rw[Z.out];exact jD Y _
   obtain⟨q,hh⟩:∃q,j.h=q:=⟨_,rfl⟩
   have r:=i.hlt;have C:=i.p136;rw[hh]at r;have hc:=m.h;have hf:=m.f;rw[hh]at hc;have W:=m.p;obtain⟨n,I⟩:∃n,XR (len-k) (136-q)=n:=⟨_,rfl⟩
   have l0:(0:Int)<((len-k:Nat):Int):=oM;have Q:(q:Int)<=136:=oM;have Hh:Hid (j.h=q):=hh;clear hh;have L:=eq_false oM;have h6:1<=n:=by rw[<-I];exact(Nat.le_min).2 ⟨oM,oM⟩
   have h4:n<=len-k:=by rw[<-I];exact Z9 _ _
   have h5:n<=136-q:=by rw[<-I];exact ZZ _ _
   have N:=D3 (w:=wr.drew) (cap:=cap-k) (k:=k) W C K r oM I;have x:=qW d k n oM;have s:=iO (Holds.drew W) q (piece d k n) oM;have y:Only b 0 162 w (wr.drew.setCells b (25+q) ((piece d k n).map encB)):=U.drew.setCells _ _ oM (by rw[UQ];omega);have A:Only b 25 136 wr (wr.drew.setCells b (25+q) ((piece d k n).map encB)):=((Only.refl b 25 136 wr).drew).setCells _ _ oM (by rw[UQ];omega);have t:=Holds.same m.d A (U4 (by rw[i.d25];omega));have c1:(wr.drew.setCells b (25+q) ((piece d k n).map encB)).cell? ⟨b,161,none⟩=some (.int .i64 q):=by rw[A.cell 161 oM];exact hc
   have H:(wr.drew.setCells b (25+q) ((piece d k n).map encB)).frozen? ⟨b,161,none⟩=false:=by rw[A.froz];exact hf
   have M:Hid (fU S (d.toList.take (k+n))=fU j (piece d k n)):=by
    show _=_;rw[Db,lP,<-Z.out]
   have f:Hid (fU j (piece d k n)=if q+n=136 then jV ⟨j.d,splice j.p q (piece d k n),q⟩ else⟨j.d,splice j.p q (piece d k n),q+n⟩):=by
    show _=_;have:=tN j (piece d k n) (by intro e;rw[e]at x;simp at x;omega) (by rw[x,Hh.out];omega);rw[x,Hh.out]at this;exact this
   have l:(splice j.p q (piece d k n)).size=136:=by rw[dM,C]
   have p:=i.d25;generalize h1:wr.drew.setCells b (25+q) ((piece d k n).map encB)=W1 at N s y t c1 H;generalize splice j.p q (piece d k n)=F at s l f;generalize j.d=E at t p f;clear A h1 W K i x m C I;have z1:(n:Int)<=((len-k:Nat):Int):=oM;by_cases B:cap-k=n
   ·have G:(cap-k=n)=True:=eq_true B;have J:Hid (cap-k=n):=B;clear B;by_cases c:q+n=136
    ·have O:((q:Int)+(n:Int) == 136)=true:=beq_iff_eq.2 oM;rw[yCl c]at f;go_wp2_with fail
     go_still_tail 9,mixed;go_wp2_with fail
     refine(wI b ⟨E,F,q+n⟩ _ p l (rE t p s l c1 H (q+n))).mono ?_;rintro e w2 ⟨rfl,D,u⟩;go_wp2;go_roundg (gk-n)
     case measure=>omega
     case rel =>
      refine⟨k+n,some ⟨v,z+k,none⟩,jV ⟨E,F,q⟩,oM,by rw[Ym,Ym],λhx=>by have:=J.out;omega,?_,?_,?_⟩
      ·rw[nU]at u⊢;exact u
      ·exact(y.setCell (o:=161) oM oM _).trans D
      ·rw[M.out,f.out];rfl
    ·have O:=beq_eq_false_iff_ne.2 oM;rw[yCm c]at f;go_wp2_with fail
     go_still_tail 9,mixed;go_wp2;go_roundg (gk-n)
     case measure=>omega
     case rel =>
      refine⟨k+n,some ⟨v,z+k,none⟩,⟨E,F,q+n⟩,oM,by rw[Ym,Ym],λhx=>by have:=J.out;omega,?_,?_,?_⟩
      ·exact rE t p s l c1 H (q+n)
      ·exact y.setCell (o:=161) oM oM _
      ·rw[M.out,f.out];rfl
   ·have G:=eq_false B;by_cases c:q+n=136
    ·have O:=beq_iff_eq.2 oM;rw[yCl c]at f;go_wp2_with fail
     go_still_tail 9,mixed;go_wp2_with fail
     refine(wI b ⟨E,F,q+n⟩ _ p l (rE t p s l c1 H (q+n))).mono ?_;rintro e w2 ⟨rfl,D,u⟩;go_wp2;go_roundg (gk-n)
     case measure=>omega
     case rel =>
      refine⟨k+n,some ⟨v,z+k+n,none⟩,jV ⟨E,F,q⟩,oM,by rw[Ym,Ym],λ_=>by rw[WT],?_,?_,?_⟩
      ·rw[nU]at u⊢;exact u
      ·exact(y.setCell (o:=161) oM oM _).trans D
      ·rw[M.out,f.out];rfl
    ·have O:=beq_eq_false_iff_ne.2 oM;rw[yCm c]at f;go_wp2_with fail
     go_still_tail 9,mixed;go_wp2;go_roundg (gk-n)
     case measure=>omega
     case rel =>
      refine⟨k+n,some ⟨v,z+k+n,none⟩,⟨E,F,q+n⟩,oM,by rw[Ym,Ym],λ_=>by rw[WT],?_,?_,?_⟩
      ·exact rE t p s l c1 H (q+n)
      ·exact y.setCell (o:=161) oM oM _
      ·rw[M.out,f.out];rfl
  ·have c:k=len:=oM;go_wp2
   go_end0
   refine⟨rfl,U,?_⟩;have V:d.toList.take k=d.toList:=Zb (by rw[UK];omega);rw[Z.out,V]at m;exact m
theorem rA(x:UInt8):Xd 8 (x.toNat:Int)=x.toBitVec:=by
 apply yAk;rw[Ze,YG];exact US x.toNat_lt
theorem Aj(x y:UInt8):bits .xor .u8 (ub x) (ub y)=ub (x ^^^ y):=by
 show XA.wrap ((Xd 8 (x.toNat:Int) ^^^ Xd 8 (y.toNat:Int)).toNat:Int)=_;rw[rA,rA,<-UInt8.toBitVec_xor];have h:((x ^^^ y).toNat:Int)<256:=by have:=(x ^^^ y).toNat_lt;omega
 have e:∀n:Int,XA.wrap n=n%256:=λn=>by simp[yBj,yBk,yAT]
 rw[e];exact yA7 (Int.natCast_nonneg _) h
theorem Qs(x:UInt8):bits .xor .u8 (ub x) 128=ub (x ^^^ 128):=Aj x 128
theorem Qr:∀w:Ur,(zeroValue 5).run prog w=.ok (.int .u8 0) w:=λ_=>kR
theorem Cy{w:Ur}{b q:Nat}(c:Holds encB w b 25 p)(f:p.size=136)(e:q<136)(k:U8):
 (Builtin.clear_ #[23] k #[.slice (some ⟨b,25+q,none⟩) (136-q) (136-q)]).run prog w=.ok (.tuple #[]) (w.setCells b (25+q) ((VB (136-q) (0:UInt8)).map encB)):=by
 have h:=Lib.run_clear_slice (P:=prog) w 23 5 k (.int .u8 0) slice22 Qr rfl rfl b (25+q) (136-q) (136-q) oM
  (λj d=>by
   have:=(c (q+j) oM).1;rw[<-WT]at this;rw[this];rfl)
  (λj d=>by
   have:=(c (q+j) oM).2;rw[<-WT]at this;exact this)
 rw[List.map_replicate];exact h
theorem Fx(b:Nat)(S:Sp)(e:UInt8)(w:Ur)(l:Ok S)(A:HSp w b S):
 UH prog 189 #[.pointer (some ⟨b,0,none⟩),.int .u8 (ub e)] w λr w'=>r=.returned (.tuple #[])/\Only b 0 162 w w'/\HSp w' b (sQ S e):=by
 obtain⟨d,p,q⟩:=S;have F:d.size=25:=l.d25;have n:p.size=136:=l.p136;have V:q<136:=l.hlt;have T:Holds enc w b 0 d:=A.d;have O:Holds encB w b 25 p:=A.p;have Q:w.cell? ⟨b,161,none⟩=some (.int .i64 q):=A.h;have hf:=A.f;have a:=Cy (Holds.drew O) n V 0;have t:Only b 25 136 w (w.drew.setCells b (25+q) ((VB (136-q) (0:UInt8)).map encB)):=((Only.refl b 25 136 w).drew).setCells _ _ oM (by rw[UQ,Xh];omega);have f:=iO (Holds.drew O) q (VB (136-q) (0:UInt8)) (by rw[Xh];omega);have v:(splice p q (VB (136-q) 0)).size=136:=by rw[dM,n]
 have y:Hid (sQ ⟨d,p,q⟩ e=jV ⟨d,((splice p q (VB (136-q) 0)).setIfInBounds q e).setIfInBounds 135 (((splice p q (VB (136-q) 0)).setIfInBounds q e)[135]! ^^^ 128),q⟩):=by
  show _=_;unfold sQ ended;rfl
 generalize w.drew.setCells b (25+q) ((VB (136-q) (0:UInt8)).map encB)=D at a t f;generalize splice p q (VB (136-q) 0)=U at f v y;have C:(136=q)=False:=eq_false oM;have J:(q:Int)<=136:=oM;have B:(q:Int)<136:=oM;have c1:D.cell? ⟨b,161,none⟩=some (.int .i64 q):=by rw[t.cell 161 oM];exact Q
 obtain⟨c2,f2⟩:=f q oM;obtain⟨k,c⟩:∃s,U.setIfInBounds q e=s:=⟨_,rfl⟩
 rw[c]at y;have N:k.size=136:=by rw[<-c,VF,v]
 obtain⟨x,hx⟩:∃x,k[135]! = x:=⟨_,rfl⟩
 rw[hx]at y;have R:=Qs x;have u:=Holds.set f (i:=q) oM e;rw[c]at u;have z:Only b 25 136 w (D.setCell ⟨b,25+q,none⟩ (.int .u8 (ub e))):=t.setCell (o:=25+q) oM oM _;have j:Holds encB (D.setCell ⟨b,25+q,none⟩ (.int .u8 (ub e))) b 25 k:=u;have W:Hid (k[135]! = x):=hx;rw[y.out];clear A l O c hx u y;have M:(k.setIfInBounds 135 (x ^^^ 128)).size=136:=by rw[VF,N]
 go_enter func189,ntmps189;go_wp2;go_still_tail 8,mixed;go_wp2_with fail
 go_region
 go_wp2_with fail
 generalize D.setCell ⟨b,25+q,none⟩ (.int .u8 (ub e))=H at j z⊢;obtain⟨Y,X⟩:=FQ j 135 oM W.out;clear c1 c2 f2 a f;go_region
 go_wp2_with fail
 have E:=Holds.set j (i:=135) oM (x ^^^ 128);have g:Only b 25 136 w (H.setCell ⟨b,160,none⟩ (.int .u8 (ub (x ^^^ 128)))):=z.setCell (o:=160) oM oM _;have m:Holds encB (H.setCell ⟨b,160,none⟩ (.int .u8 (ub (x ^^^ 128)))) b 25 (k.setIfInBounds 135 (x ^^^ 128)):=E;generalize H.setCell ⟨b,160,none⟩ (.int .u8 (ub (x ^^^ 128)))=P at m g⊢;have G:Holds enc P b 0 d:=Holds.same T g (U4 oM);have K:HSp P b ⟨d,k.setIfInBounds 135 (x ^^^ 128),q⟩:=⟨G,m,by rw[g.cell 161 oM];exact Q,by rw[g.froz];exact hf⟩
 refine(wI b ⟨d,k.setIfInBounds 135 (x ^^^ 128),q⟩ _ F M K.drew.drew).mono ?_;rintro r Z ⟨rfl,I,L⟩;go_wp2
 go_end0
 exact⟨rfl,(g.drew.drew.widen oM oM).trans I,L⟩
end SP
namespace SP
open Go.Sort
def gW(d:St):Nat->St
 | 0=>d
 | m+1=>perm (gW d m)
theorem dQ(d:St)(hd:d.size=25)(m:Nat):(gW d m).size=25:=by
 induction m with
 | zero=>exact hd
 | succ m ih=>exact sE _ ih
def jE(d:St)(j:Nat):UInt8:=byteOf (gW d (j/136)) (j%136)
def lS(d:St)(n:Nat):Bs:=Array.ofFn (λi:Fin n=>jE d i.val)
theorem lQ(d:St)(n:Nat):(lS d n).size=n:=by simp[lS]
theorem Dg(d:St)(n j:Nat)(k:j<n):(lS d n)[j]! = jE d j:=by
 rw[getElem!_pos (lS d n) j (by rw[lQ];exact k)];simp[lS]
def S0:Sp:=⟨vW,UJ 136 0,0⟩
theorem CU:Ok S0:=⟨by simp[S0,vW],by simp[S0],dC⟩
def yU(l:List UInt8)(e:UInt8):St:=(sQ (fU S0 l) e).d
theorem uI(l:List UInt8)(e:UInt8):(yU l e).size=25:=by
 unfold yU;have h:=jD CU l;rw[GO h];exact(jD h _).d25
def Jm(l:List UInt8):Bs:=front (yU l 6) 32
def qM(l:List UInt8)(n:Nat):Bs:=lS (yU l 31) n
end SP
namespace SP
open Go.RowKit Go.Sort Go.Deep
theorem uH{w:Ur}{l n:Nat}{cur f:Bs}(s:Holds encB w g 0 cur)(D:cur.size=cap)(B:Holds encB w r 0 f)(C:f.size=n)(p:k=n)(e:l+n<=cap)(u:U8):
 (Vt #[23,23] u #[sZ g l cap,sZ r k c]).run prog w=.ok (sZ g (l+n) cap) (w.setCells g l (f.toList.map encB)):=by
 subst p;obtain⟨i,A,_,d,_⟩:=info_parts info5;have b:(f.toList.map encB).length=k:=by rw[UQ,UK,C]
 have m:Src prog i.size 23 (sZ r k c) k (f.toList.map encB) w:=by
  rw[d];refine Src.ofSlice w slice22 (aZ r) k c _ (by rw[b,XU]) (λj v o=>?_) (λv hv=>?_)
  ·obtain⟨z,q⟩:=UF.1 o;rw[b]at z;have y:=(B j oM).1;rw[getElem!_pos f j oM]at y;rw[Xf,XG]at q;have a:(⟨r,0,none⟩:Ww).add j=⟨r,0+j,none⟩:=by
    unfold Zk;by_cases t:j=0
    ·subst t;rw[yCl rfl]
    ·rw[yCm t]
   rw[a,y,q]
  ·obtain⟨x,_,rfl⟩:=Vn.1 hv;rfl
 have h:=run_append_room_src (P:=prog) w 23 23 u 5 i slice22 A g 0 l cap (sZ r k c) k _ m e
  (λj o=>by
   rw[b]at o;rw[d,XU,WT,(s (l+j) oM).1];rfl)
  (λj o=>by
   rw[b]at o;rw[d,XU,WT];exact(s (l+j) oM).2)
 rw[d,XU,UD]at h;exact h
theorem Only.with_new{b o n m p:Nat}{w c d:Ur}(h:Only b o n w c)(k:Only g p m c d)(s:w.heap.size<=g)(t:b<w.heap.size):Only b o n w d:=by
 have r:=h.size;have e:=k.block b oM oM;exact⟨k.os.trans h.os,k.tape.trans h.tape,k.output.trans h.output,UC h.size k.size,
  λj l f=>(k.block j oM oM).trans (h.block j l f),
  λq i=>(UW (w:=c) (a:=⟨b,q,none⟩) e).trans (h.cell q i),λq=>(VU (w:=c) (a:=⟨b,q,none⟩) e).trans (h.froz q)⟩
theorem Dv(d:St)(m:Nat)(h:¬m=0):perm (gW d (m-1))=gW d m:=by
 obtain⟨k,rfl⟩:∃k,m=k+1:=⟨m-1,oM⟩
 rw[Nat.add_sub_cancel,gW]
theorem BG(d:St)(m:Nat)(cur:Bs)(c:136*m+136<=cur.size)(h:∀j,j<136*m->cur[j]! = jE d j):∀j,j<136*(m+1)->(splice cur (136*m) (front (gW d m) 136).toList)[j]! = jE d j:=by
 intro j e;have k:(front (gW d m) 136).toList.length=136:=by rw[UK,dU]
 rw[kO _ _ _ _ (by rw[k];exact c) oM,k];by_cases b:j<136*m
 ·rw[yCm oM,h j b]
 ·rw[yCl oM,getElem!_pos _ (j-136*m) (by rw[k];omega),XG,<-getElem!_pos (front (gW d m) 136) (j-136*m) (by rw[dU];omega),Jv _ _ _ oM];unfold jE;rw[show j/136=m by omega,show j%136=j-136*m by omega]
theorem Jr(b:Nat)(d:St)(n:Nat)(w:Ur)(f:d.size=25)(Z:Holds enc w b 0 d)(hn:n<=16384):
 UH prog 228 #[jZ b,iZ n] w λe w'=>e=.returned (sZ w.heap.size n n)/\Only b 0 25 w w'/\Holds encB w' w.heap.size 0 (lS d n):=by
 have L:=Holds.lt Z oM;obtain⟨i,hi,F,O,M⟩:=info_parts info5;obtain⟨o,U⟩:∃c,n+136=c:=⟨_,rfl⟩
 have h4:∀w:Ur,(XE 23 (iZ 0) (iZ ((n:Int)+136))).run prog w=.ok (sZ w.heap.size 0 o) (w.alloc (.cells (madeCells #[.int .u8 0] o) 5)):=by
  intro w;have h:=run_make (P:=prog) w 23 5 i (.int .u8 0) slice22 hi F .i64 .i64 0 ((n:Int)+136) oM oM (by rw[M];omega) oM;rw[O,XU,show((n:Int)+136).toNat=o by omega]at h;exact h
 have R:Holds encB (w.alloc (.cells (madeCells #[.int .u8 0] o) 5)) w.heap.size 0 (UJ o 0):=Holds.made (enc:=encB) w 5 o 0;have S:Only b 0 25 w (w.alloc (.cells (madeCells #[.int .u8 0] o) 5)):=(Only.refl _ _ _ _).alloc L _;have N:=Holds.below Z ((UR w.heap.size w).alloc (Uw _) (.cells (madeCells #[.int .u8 0] o) 5)) L;have X:w.heap.size<(w.alloc (.cells (madeCells #[.int .u8 0] o) 5)).heap.size:=by simp
 have W:=mk1 (U);go_enter func228,ntmps228;go_wp2;go_loopg [5] o (λg s5 wr=>∃(m l:Nat) (cur:Bs),Hid (l=136*m)/\l+g=o/\1<=g/\s5=sZ w.heap.size l o/\Holds encB wr w.heap.size 0 cur/\cur.size=o/\Holds enc wr b 0 (gW d (m-1))/\Only b 0 25 w wr/\w.heap.size<wr.heap.size/\Hid (∀j,j<136*m->cur[j]! = jE d j))
 case atStart=>exact⟨0,0,_,rfl,oM,by have:=W.out;omega,rfl,R,by rw[UP],N,S,X,λj Y=>oM⟩
 case round =>
  obtain⟨m,l,cur,C,hg,h2,rfl,K,x,B,V,hs,HE⟩:=hrel;have T:=dQ d f (m-1);by_cases h3:l<n
  ·have h1:(l:Int)<(n:Int):=oM;have HN:Hid (∀j,j<136*(m+1)->(splice cur l (front (gW d m) 136).toList)[j]! = jE d j):=by
    rw[C.out];exact BG d m cur (by rw[<-C.out];omega) HE
   by_cases H:m=0
   ·have F:¬(0:Int)<(l:Int):=by have:=C.out;omega
    have s:Holds enc wr b 0 (gW d m):=by rw[H]at B⊢;exact B
    go_wp2_with fail
    refine(sO b 0 136 _ _ (dQ d f m) s dC).mono ?_;rintro e E ⟨rfl,r,Q⟩;have p:=Holds.below K r (Holds.lt K oM);have a:=Holds.below s r (Holds.lt s (by rw[dQ d f];decide));have u:=uH (l:=l) (k:=136) (n:=136) (c:=136) p x Q (dU _ _) rfl oM 23;have t:=iO p l (front (gW d m) 136).toList (by rw[UK,dU];omega);rw[UD]at t;have D:=V.trans (Only.of_below r rfl (Holds.lt s (by rw[dQ d f];decide)));have q:Only w.heap.size 0 o E (E.setCells w.heap.size l ((front (gW d m) 136).toList.map encB)):=(Only.refl _ _ _ _).setCells _ _ oM (by rw[UQ,UK,dU];omega);have y:=D.with_new q (Uw _) L;have v:=Holds.other a q oM (by rw[dQ d f];decide);have z:=Ux (Holds.lt p oM) q.size;generalize E.setCells w.heap.size l ((front (gW d m) 136).toList.map encB)=G at u t y v z;have A:Hid _:=u;go_wp2_with (at_builtin;refine WL _ rfl _ _ 23 23 rfl _ _ rfl rfl _ _ A.out ?_)
    go_roundg (gk-136)
    case measure=>omega
    case rel =>
     exact⟨m+1,l+136,_,by have:=C.out;show _=_;omega,oM,oM,rfl,t,by rw[dM,x],v,y,z,HN⟩
   ·have h0:(0:Int)<(l:Int):=by have:=C.out;omega
    go_wp2_with fail
    refine(tW b 0 _ _ T B).mono ?_;rintro e w1 ⟨rfl,J,s⟩;rw[Dv d m H]at s;have G:=Holds.other K J oM oM;have I:=V.trans J;go_wp2_with fail
    refine(sO b 0 136 _ _ (dQ d f m) s dC).mono ?_;rintro e E ⟨rfl,r,Q⟩;have p:=Holds.below G r (Holds.lt G oM);have a:=Holds.below s r (Holds.lt s (by rw[dQ d f];decide));have u:=uH (l:=l) (k:=136) (n:=136) (c:=136) p x Q (dU _ _) rfl oM 23;have t:=iO p l (front (gW d m) 136).toList (by rw[UK,dU];omega);rw[UD]at t;have D:=I.trans (Only.of_below r rfl (Holds.lt s (by rw[dQ d f];decide)));have q:Only w.heap.size 0 o E (E.setCells w.heap.size l ((front (gW d m) 136).toList.map encB)):=(Only.refl _ _ _ _).setCells _ _ oM (by rw[UQ,UK,dU];omega);have y:=D.with_new q (Uw _) L;have v:=Holds.other a q oM (by rw[dQ d f];decide);have z:=Ux (Holds.lt p oM) q.size;have A:Hid _:=u;go_wp2_with (at_builtin;refine WL _ rfl _ _ 23 23 rfl _ _ rfl rfl _ _ A.out ?_)
    go_roundg (gk-136)
    case measure=>omega
    case rel =>
     exact⟨m+1,l+136,_,by have:=C.out;show _=_;omega,oM,oM,rfl,t,by rw[dM,x],v,y,z,HN⟩
  ·have p:(n:Int)<=(l:Int):=oM;go_wp2;go_ret;refine⟨rfl,V,λj Y=>?_⟩;rw[lQ]at Y;have:=K j oM;rw[HE.out j (by have:=C.out;omega)]at this;rw[Dg d n j Y];exact this
def eN:Array Ut:=UJ 25 (uZ 0)++UJ 136 (.int .u8 0)++#[iZ 0]
theorem Hk:∀w:Ur,(zeroValue 266).run prog w=.ok (.agg eN) w:=λ_=>kR
theorem Ij(j:Nat)(b:j<25):eN[j]? = some (uZ 0):=by
 have k:j<(UJ 25 (uZ 0)).size:=by rw[UP];exact b
 unfold eN;rw[yAI,XZ k,U0 k,Wy]
theorem Ih(j:Nat)(b:j<136):eN[25+j]? = some (.int .u8 0):=by
 have k:j<(UJ 136 (VZ .u8 0)).size:=by rw[UP];exact b
 unfold eN;rw[yAI,YE (by rw[UP];omega),UP,WN,XZ k,U0 k,Wy]
theorem Ii:eN[161]? = some (iZ 0):=by
 unfold eN;rw[YE (by rw[VN,UP,UP];decide),VN,UP,UP];rfl
theorem Fc(w:Ur)(t:U8):HSp (w.alloc (.cells eN t)) w.heap.size S0:=by
 refine⟨λj b=>?_,λj b=>?_,?_,?_⟩
 ·have k:j<25:=by simpa[S0,vW]using b
  rw[Vd,Wx,UD,Ij j k];refine⟨?_,rfl⟩;have e:S0.d[j]! = 0:=Gi j k;rw[e];rfl
 ·have k:j<136:=by simpa[S0]using b
  rw[Vd,Wx,Ih j k];refine⟨?_,rfl⟩;have e:S0.p[j]! = 0:=rep_at 136 j k;rw[e];rfl
 ·rw[Vd,Ii];rfl
 ·rw[Wx]
theorem yV(a:Option Ww)(c j len cap n:Nat)(d:Bs)(w:Ur)(v:n<=16384)(A:d.size=len)(l:len<=cap)(i:len<=1099511627776)(g:len=0\/(a=some ⟨c,j,none⟩/\Holds encB w c j d)):
 UH prog 196 #[.slice a len cap,iZ n] w λe w'=>∃r,e=.returned (.tuple #[sZ r n n,iZ 0])/\w.heap.size<=r/\kZ w w'/\Holds encB w' r 0 (qM d.toList n):=by
 have f:=Fc w 266;have b:kZ w (w.alloc (.cells eN 266)):=(UR _ _).alloc (Uw _) _;have t:w.heap.size<(w.alloc (.cells eN 266)).heap.size:=by simp
 have k:len=0\/(a=some ⟨c,j,none⟩/\c≠w.heap.size/\Holds encB (w.alloc (.cells eN 266)) c j d):=by
  by_cases q:len=0
  ·exact U4 q
  ·rcases g with h|⟨p,o⟩
   ·exact U4 h
   ·have m:=Holds.lt o oM;exact UX ⟨p,oM,Holds.below o b m⟩
 have C:=Hk;go_enter func196,ntmps196;go_wp2_with fail
 generalize w.alloc (.cells eN 266)=y at f b t k⊢;refine(take_any w.heap.size S0 a c j len cap d y CU f A l i k).mono ?_;rintro e z ⟨rfl,m,p⟩;go_wp2_with fail
 refine(Fx w.heap.size (fU S0 d.toList) 31 z (jD CU _) p).mono ?_;rintro e B ⟨rfl,o,s⟩;have q:=s.d;go_wp2_with fail
 refine(Jr w.heap.size _ n _ (uI _ _) q v).mono ?_;rintro e D ⟨rfl,u,x⟩;go_wp2
 go_ret2
 have s1:=m.size;have s2:=o.size;exact⟨B.heap.size,rfl,oM,(b.trans ((m.trans o).below oM (Uw _))).trans (u.below oM (Uw _)),x⟩
end SP
namespace SP
open Go.RowKit Go.Sort Go.Deep
def Own(B:Nat)(w:Ur)(v:Ut)(T:List UInt8):Prop:=
 ∃g cap cur,v=sZ g T.length cap/\B<=g/\g<w.heap.size/\V5 cur=cap/\T.length<=cap/\Holds encB w g 0 cur/\∀j,j<T.length->cur[j]! = T[j]!
theorem Holds.front{α:Type}[Inhabited α]{f:α->Ut}{w:Ur}{b o:Nat}{d e:Array α}(h:Holds f w b o d)(g:e.size<=d.size)(c:∀j,j<e.size->e[j]! = d[j]!):Holds f w b o e:=by
 intro j k;rw[c j k];exact h j oM
theorem Cl(T:List UInt8)(j:Nat):T.toArray[j]! = T[j]!:=by
 by_cases h:j<T.length
 ·rw[getElem!_pos T.toArray j (by simpa using h),getElem!_pos T j h];simp
 ·rw[getElem!_neg T.toArray j (by simpa using h),getElem!_neg T j h]
variable {B:Nat}{w w1:Ur}{v:Ut}{T:List UInt8}
theorem Own.holds{n:Nat}(h:Own B w (sZ g n cap) T):B<=g/\n=T.length/\T.length<=cap/\Holds encB w g 0 T.toArray:=by
 obtain⟨l,k,cur,hv,f,_,i,b,d,c⟩:=h;injection hv with e1 e2 e3
 injection e1 with e1
 injection e1 with e1 _ _
 subst e1 e3;exact⟨f,e2,b,Holds.front d (by simp;omega) (λj e=>by rw[Cl];exact(c j (by simpa using e)).symm)⟩
theorem yA(s:ByteArray)(g:B<=w.heap.size):
 ∃b w',(convert 9 23 (.string s)).run prog w=.ok b w'/\Own B w' b s.data.toList/\kZ w w'/\b=sZ w.heap.size s.size (grownCap w s.size 0 5):=by
 have h:=Lib.run_convert_string_bytes (P:=prog) w 9 23 5 s str9 slice22 int5;have e:s.size<=grownCap w s.size 0 5:=by
  unfold grownCap Question.cut;exact Za _ _
 have l:s.data.size=s.size:=rfl;refine⟨_,_,h,⟨w.heap.size,grownCap w s.size 0 5,s.data++UJ (grownCap w s.size 0 5-s.size) 0,?_,g,by rw[yAL];omega,?_,?_,?_,?_⟩,?_,rfl⟩
 ·rw[UK];rfl
 ·rw[VN,UP];omega
 ·rw[UK];omega
 ·intro j b;rw[VN,UP]at b;have f:=Lib.bytesWorld_at_new w 5 s;have d:(Zl w 5 s).size=grownCap w s.size 0 5:=by
   unfold Zl;rw[VN,Array.size_map,UP];omega
  have i:(Zl w 5 s)=(s.data++UJ (grownCap w s.size 0 5-s.size) 0).map encB:=by
   unfold Zl;rw[Array.map_append,yAx];rfl
  have c:j<(s.data++UJ (grownCap w s.size 0 5-s.size) 0).size:=by rw[VN,UP];exact b
  constructor
  ·unfold VY;rw[f];simp only[UD];rw[yCm dC,i,yAG,U0 c,Yx,getElem!_pos _ j c]
  ·unfold World.frozen?;rw[f];simp only[UD,d];simp;omega
 ·intro j b;rw[UK]at b;rw[app_front _ _ j b,getElem!_pos s.data.toList j (by rw[UK];exact b),XG]
 ·refine⟨?_,?_,?_,?_,λk b=>Lib.bytesWorld_at_old w 5 s k b⟩
  ·unfold Z7 yAi;rw[yCm dC];rfl
  ·unfold Z7 yAi;rw[yCm dC];rfl
  ·unfold Z7 yAi;rw[yCm dC];rfl
  ·rw[yAL];omega
theorem Holds.below'{α:Type}[Inhabited α]{f:α->Ut}{w e:Ur}{b o:Nat}{d:Array α}(h:Holds f w b o d)(k:kZ w e):Holds f e b o d:=by
 intro j g;have c:=Holds.lt h oM;exact Holds.below h k c j g
theorem DO(l:List UInt8):(Jm l).size=32:=by rw[Jm,dU]
end SP
namespace SP
open Go.RowKit Go.Sort Go.Deep
def bV(n d:Nat):UInt8:=UM (n/d)
theorem jL(n d:Nat):(n:Int)/(d:Int)%256=ub (bV n d):=by
 have k:((n:Int)/(d:Int))=((n/d:Nat):Int):=by rw[Zd]
 rw[k];unfold ub bV;rw[YJ];omega
theorem xK(n:Nat):(n:Int)%256=ub (bV n 1):=by
 have:=jL n 1;rw[show((1:Nat):Int)=1 from rfl,Int.ediv_one]at this;exact this
def sP(l:List UInt8):List UInt8:=[bV l.length 16777216,bV l.length 65536,bV l.length 256,bV l.length 1]++l
theorem xO(w:Ur)(x y z t:UInt8):Holds encB (w.alloc (.cells #[.int .u8 (ub x),.int .u8 (ub y),.int .u8 (ub z),.int .u8 (ub t)] 5)) w.heap.size 0 #[x,y,z,t]:=by
 have h:=Holds.new (enc:=encB) w 5 #[x,y,z,t];have e:yB5 encB #[x,y,z,t]=#[.int .u8 (ub x),.int .u8 (ub y),.int .u8 (ub z),.int .u8 (ub t)]:=by simp[encB]
 rw[e]at h;exact h
theorem oU(b:Nat)(S:Sp)(a:Option Ww)(c i len cap:Nat)(f:Bs)(w:Ur)(l:Ok S)(D:HSp w b S)(C:f.size=len)(r:len<=cap)(q:len<=1099511627776)
 (g:len=0\/(a=some ⟨c,i,none⟩/\c≠b/\Holds encB w c i f)) :
 UH prog 188 #[jZ b,.slice a len cap] w λe w'=>e=.returned (.tuple #[])/\Only b 0 162 w w'/\HSp w' b (fU S (sP f.toList)):=by
 have B:=D.lt;have b0:(len:Int)/16777216%256=ub (bV len 16777216):=jL len 16777216;have b1:(len:Int)/65536%256=ub (bV len 65536):=jL len 65536;have I:(len:Int)/256%256=ub (bV len 256):=jL len 256;have H:(len:Int)%256=ub (bV len 1):=xK len;have F:Hid (sP f.toList=(#[bV len 16777216,bV len 65536,bV len 256,bV len 1]:Bs).toList++f.toList):=by
  unfold sP;rw[UK,C];rfl
 have A:=xO w (bV len 16777216) (bV len 65536) (bV len 256) (bV len 1);generalize bV len 16777216=p at *;generalize bV len 65536=m at *;generalize bV len 256=n at *;generalize bV len 1=s at *;have d:kZ w (w.alloc (.cells #[.int .u8 (ub p),.int .u8 (ub m),.int .u8 (ub n),.int .u8 (ub s)] 5)):=(UR _ _).alloc (Uw _) _;have j:=D.below d B;have o:Only b 0 162 w (w.alloc (.cells #[.int .u8 (ub p),.int .u8 (ub m),.int .u8 (ub n),.int .u8 (ub s)] 5)):=Only.of_below d rfl B;have k:len=0\/(a=some ⟨c,i,none⟩/\c≠b/\Holds encB (w.alloc (.cells #[.int .u8 (ub p),.int .u8 (ub m),.int .u8 (ub n),.int .u8 (ub s)] 5)) c i f):=by
  by_cases z:len=0
  ·exact U4 z
  ·rcases g with h|⟨y,u,v⟩
   ·exact U4 h
   ·exact UX ⟨y,u,Holds.below v d (Holds.lt v oM)⟩
 go_enter func188,ntmps188;go_wp2_with fail
 generalize w.alloc (.cells #[.int .u8 (ub p),.int .u8 (ub m),.int .u8 (ub n),.int .u8 (ub s)] 5)=G at A d j o k⊢;refine(take_any b S (some (aZ w.heap.size)) w.heap.size 0 4 4 #[p,m,n,s] G l j rfl (Uw _) dC (UX ⟨rfl,oM,A⟩)).mono ?_;rintro e E ⟨rfl,t,x⟩;have g:len=0\/(a=some ⟨c,i,none⟩/\c≠b/\Holds encB E c i f):=by
  by_cases z:len=0
  ·exact U4 z
  ·rcases k with h|⟨y,u,v⟩
   ·exact U4 h
   ·exact UX ⟨y,u,Holds.other v t u oM⟩
 go_wp2_with fail
 refine(take_any b _ a c i len cap f E (jD l _) x C r q g).mono ?_;rintro e y ⟨rfl,v,u⟩;go_wp2
 go_end0
 refine⟨rfl,(o.trans t).trans v,?_⟩;rw[F.out,lP];exact u
def kG(k:List UInt8)(b:List (List UInt8)):List UInt8:=sP k++b.flatMap sP
def oR(k:List UInt8)(b:List (List UInt8)):Bs:=Jm (kG k b)
theorem fC(k:List UInt8)(b:List (List UInt8)):(oR k b).size=32:=DO _
theorem A5(k:List UInt8)(b:List (List UInt8))(x:List UInt8):kG k (b++[x])=kG k b++sP x:=by
 unfold kG;rw[List.flatMap_append,<-List.append_assoc];simp
def PartOk(w:Ur)(v:Ut)(x:List UInt8):Prop:=
 ∃a c b cap k,v=.slice a (V5 k) cap/\k.toList=x/\k.size<=cap/\k.size<=1099511627776/\(k.size=0\/(a=some ⟨c,b,none⟩/\Holds encB w c b k))
theorem PartOk.below{w c:Ur}{v:Ut}{x:List UInt8}(h:PartOk w v x)(k:kZ w c):PartOk c v x:=by
 obtain⟨a,f,d,cap,l,g,j,i,m,b⟩:=h;refine⟨a,f,d,cap,l,g,j,i,m,?_⟩;rcases b with b|⟨b,e⟩
 ·exact U4 b
 ·exact UX ⟨b,Holds.below' e k⟩
def PartsOk(w:Ur)(d:Option Ww)(k:List (List UInt8)):Prop:=
 k.length=0\/∃b c,d=some ⟨b,c,none⟩/\∀j,j<k.length->∃v,w.cell? ⟨b,c+j,none⟩=some v/\PartOk w v k[j]!
theorem PartsOk.below{w f:Ur}{c:Option Ww}{g:List (List UInt8)}(h:PartsOk w c g)(k:kZ w f):PartsOk f c g:=by
 rcases h with h|⟨b,e,l,m⟩
 ·exact U4 h
 ·refine UX ⟨b,e,l,λj i=>?_⟩;obtain⟨v,d,n⟩:=m j i;exact⟨v,by rw[k.cell (p:=⟨b,e+j,none⟩) (Xq _ _ d)];exact d,n.below k⟩
theorem wG{α:Type}[Inhabited α](l:List α)(k:Nat)(h:k<l.length):l.take (k+1)=l.take k++[l[k]!]:=by
 rw[List.take_succ_eq_append_getElem h,getElem!_pos l k h]
theorem vP(b:ByteArray)(V:Option Ww)(z:Nat)(c:List (List UInt8))(w:Ur)(h7:b.size<=1048576)(hg:c.length<=1048576)(hP:PartsOk w V c):
 UH prog 113 #[.string b,.slice V c.length z] w λe w'=>∃r,e=.returned (sZ r 32 32)/\w.heap.size<=r/\kZ w w'/\Holds encB w' r 0 (oR b.data.toList c):=by
 have t:=Fc w 266;have E:kZ w (w.alloc (.cells eN 266)):=(UR _ _).alloc (Uw _) _;have H:(w.alloc (.cells eN 266)).heap.size=w.heap.size+1:=by simp
 have zv:=Hk;generalize h6:w.alloc (.cells eN 266)=W1 at t E H;obtain⟨v2,N,q,i,u,Q⟩:=yA (w:=W1) (B:=0) b (WA _);rw[Q]at q i;obtain⟨S,A,C,Y⟩:=i.holds;rw[<-A]at C;clear S A;have f:Holds encB N W1.heap.size 0 b.data:=by simpa using Y
 have Z:=t.below u t.lt;have h9:=u.size;obtain⟨n,hn⟩:∃n,c.length=n:=⟨_,rfl⟩
 rw[hn];have L:=mk1 (hn);rw[H]at q f;generalize hi:grownCap W1 b.size 0 5=c2 at *;have ha:(convert 9 23 (.string b)).run prog (w.alloc (.cells eN 266))=.ok (.slice (some ⟨w.heap.size+1,0,none⟩) b.size c2) N:=by rw[h6];exact q
 go_enter func113,ntmps113;go_wp2_with fail
 refine(oU w.heap.size S0 (some ⟨w.heap.size+1,0,none⟩) (w.heap.size+1) 0 b.size c2 b.data N CU Z rfl oM oM (UX ⟨rfl,oM,f⟩)).mono ?_;rintro e w3 ⟨rfl,h4,F⟩;have X:=(E.trans (u.mono oM)).trans (h4.below oM (Uw _));have hc:=F.lt;go_wp2;go_loopg [13] n (λg s13 wr=>∃(k:Nat) (x:Sp),k+g=n/\s13=iZ k/\HSp wr w.heap.size x/\kZ w wr/\Ok x/\Hid (x=fU S0 (kG b.data.toList (c.take k))))
 case atStart =>
  refine⟨0,_,oM,rfl,F,X,jD CU _,?_⟩;rw[List.take_zero];unfold kG;rw[List.flatMap_nil,List.append_nil];rfl
 case round =>
  obtain⟨k,x,hk,rfl,D,l,s,HE⟩:=hrel;by_cases he:k<n
  ·obtain⟨I,K,rfl,G⟩:∃I K,V=some ⟨I,K,none⟩/\∀j,j<c.length->∃v,w.cell? ⟨I,K+j,none⟩=some v/\PartOk w v c[j]!:=by
    rcases hP with h|h
    ·have:=L.out;omega
    ·exact h
   obtain⟨v,o,O⟩:=G k (by have:=L.out;omega);have P:=Xq _ _ o;have h8:wr.cell? ⟨I,K+k,none⟩=some v:=by rw[l.cell (p:=⟨I,K+k,none⟩) P];exact o
   obtain⟨a,M,T,cap,y,rfl,J,R,h5,d⟩:=O;have m:y.size=0\/(a=some ⟨M,T,none⟩/\M≠w.heap.size/\Holds encB wr M T y):=by
    by_cases h0:y.size=0
    ·exact U4 h0
    ·rcases d with h|⟨W,U⟩
     ·exact U4 h
     ·have:=Holds.lt U oM;exact UX ⟨W,oM,Holds.below U l this⟩
   have HB:Hid (y.toList=c[k]!):=J;have l1:(k:Int)<(n:Int):=oM;generalize U:y.size=bz at *;clear o d G J;go_wp2_with fail
   refine(oU w.heap.size x a M T bz cap y wr s D U R h5 m).mono ?_;rintro e w4 ⟨rfl,W,h3⟩;go_wp2;go_roundg (gk-1)
   case measure=>omega
   case rel =>
    refine⟨k+1,_,oM,by go_num,h3,l.trans (W.below l.size (Uw _)),jD s _,?_⟩;rw[wG c k (by have:=L.out;omega),A5,lP,<-HE.out,HB.out];rfl
  ·have M:k=n:=oM;have o:Hid (x=fU S0 (kG b.data.toList c)):=by
    have d:c.take k=c:=Zb (by have:=L.out;omega);rw[d]at HE;exact HE
   go_wp2_with fail
   refine(Fx w.heap.size x 6 wr s D).mono ?_;rintro e J ⟨rfl,d,m⟩;have I:Holds enc J w.heap.size 0 (yU (kG b.data.toList c) 6):=by
    have:=m.d;rw[o.out]at this;exact this
   go_wp2_with fail
   refine(sO w.heap.size 0 32 _ _ (uI _ _) I dC).mono ?_;rintro e P ⟨rfl,y,G⟩;have O:=d.size;have K:=l.size;go_wp2;go_ret;exact⟨J.heap.size,rfl,oM,(l.trans (d.below l.size (Uw _))).trans (y.mono oM),G⟩
end SP
namespace SP
open Go.RowKit Go.Sort Go.Deep
variable {B:Nat}{w w1:Ur}{v:Ut}{T:List UInt8}
set_option maxRecDepth 4000
end SP
namespace SP
open Go.RowKit Go.Sort Go.Deep
theorem JM{w:Ur}{b:Nat}{T:Bs}(d:Holds encB w b 0 L)(o:L.size=32)(m:Holds encB w r 0 T)(i:T.size=32):
 (X1 #[23,23] 3 #[sZ b 32 32,sZ r 32 32]).run prog w=.ok (goInt 32) (w.setCells b 0 (T.toList.map encB)):=by
 have k:(T.toList.map encB).length=32:=by rw[UQ,UK,i]
 have:=run_copy_cells (P:=prog) w 23 23 3 5 b 0 32 32 (aZ r) 32 32 (T.toList.map encB) slice22 ints5 (by rw[k];rfl)
  (λj u c=>by
   obtain⟨l,e⟩:=UF.1 c;rw[k]at l;have g:=(m j oM).1;rw[getElem!_pos T j oM]at g;rw[Xf,XG]at e;have n:(⟨r,0,none⟩:Ww).add j=⟨r,0+j,none⟩:=by
    unfold Zk;by_cases f:j=0
    ·subst f;rw[yCl rfl]
    ·rw[yCm f]
   rw[n,g,e])
  (λj c=>by rw[(d j oM).1];rfl) (λj c=>(d j oM).2)
  (λu e=>by obtain⟨x,_,rfl⟩:=Vn.1 e;rfl)
 rw[k]at this;exact this
theorem AZ{w:Ur}{b:Nat}{T:Bs}(d:Holds encB w b 0 L)(f:L.size=32)(e:T.size=32):Holds encB (w.setCells b 0 (T.toList.map encB)) b 0 T:=by
 have k:(T.toList.map encB).length=32:=by rw[UQ,UK,e]
 refine Holds.setCells d (T.toList.map encB) 0 oM oM (λj c=>?_) (λj g i=>oM);rw[k]at c;rw[Xf,XG,UD,getElem!_pos T j oM]
theorem Ef{w c:Ur}{b:Nat}{T:Bs}(i:Holds encB w b 0 L)(g:L.size=32)(e:T.size=32)(f:b<w.heap.size)(k:Below w.drew.heap.size w.drew c):
 Only b 0 32 w (c.setCells b 0 (T.toList.map encB))/\Holds encB (c.setCells b 0 (T.toList.map encB)) b 0 T:=by
 have d:(T.toList.map encB).length=32:=by rw[UQ,UK,e]
 refine⟨?_,AZ (Holds.below (Holds.drew i) k f) g e⟩;exact Only.setCells (((Only.refl b 0 32 w).drew).trans (Only.of_below k rfl f)) _ 0 (Uw _) oM
theorem qK(b:Nat)(L:Bs)(k:ByteArray)(l:Option Ww)(c n:Nat)(f:List (List UInt8))(w:Ur)(d:k.size<=1048576)(o:f.length=n)(t:n<=1048576)(z:PartsOk w l f)(m:Holds encB w b 0 L)(s:L.size=32):
 UH prog 208 #[.pointer (some ⟨b,0,none⟩),.string k,.slice l n c] w λe w'=>e=.returned (.tuple #[])/\Only b 0 32 w w'/\Holds encB w' b 0 (oR k.data.toList f):=by
 subst o;have r:=Holds.lt m oM;have q:=vP k l c f w.drew d t (z.below ((UR _ _).drew));generalize y:oR k.data.toList f=T at q⊢;have j:T.size=32:=by rw[<-y,fC]
 have x:=mk1 (q);go_enter func208,ntmps208;go_wp2;go_region_with (go_at_call 113;refine Calls.mono x.out ?_;rintro e A ⟨a,rfl,v,g,p⟩;have u:=JM (Holds.below (Holds.drew m) g r) s p j;have i:=Ef m s j r g)
 all_goals (try go_wp2)
 all_goals go_end0
 all_goals exact⟨rfl,i⟩
def encV(v:Ut):Ut:=v
theorem zI(l:List UInt8)(n:Nat):(qM l n).size=n:=by rw[qM,lQ]
def newL(k:List UInt8):Bs:=oR [108,111,103] [k]
def uN(L:Bs)(k b:List UInt8):Bs:=oR [115,97,121] [L.toList,k,b]
def CO(L:Bs)(k:List UInt8)(n:Nat):Bs:=qM (oR [97,115,107] [L.toList,k]).toList n
def tI(L:Bs)(k:List UInt8):Bs:=oR [97,115,107,101,100] [L.toList,k]
theorem zY(l:List UInt8):(newL l).size=32:=fC _ _
theorem kP(L:Bs)(l t:List UInt8):(uN L l t).size=32:=fC _ _
theorem bE(L:Bs)(l:List UInt8):(tI L l).size=32:=fC _ _
theorem Hb(L:Bs)(l:List UInt8)(n:Nat):(CO L l n).size=n:=zI _ _
theorem oG(s:ByteArray)(w:Ur)(p:s.size<=1099511627776):
 ∃c w',(convert 9 23 (.string s)).run prog w=.ok (sZ w.heap.size s.size c) w'/\s.size<=c/\Holds encB w' w.heap.size 0 s.data/\PartOk w' (sZ w.heap.size s.size c) s.data.toList/\kZ w w'/\w.heap.size<w'.heap.size:=by
 obtain⟨v2,j,e,k,n,m⟩:=yA (w:=w) (B:=0) s (WA _);rw[m]at e k;have l:w.heap.size<j.heap.size:=by
  obtain⟨g,cap,cur,b,_,d,_⟩:=k;injection b with b
  injection b with b
  injection b with b
  omega
 obtain⟨q,i,b,o⟩:=k.holds;rw[<-i]at b;have d:Holds encB j w.heap.size 0 s.data:=by simpa using o
 have f:=b;exact⟨_,j,e,f,d,⟨_,w.heap.size,0,_,s.data,rfl,rfl,f,p,UX ⟨rfl,d⟩⟩,n,l⟩
theorem nY(W:Ur)(vs:Array Ut)(k:List (List UInt8))(t:U8)(d:vs.size=k.length)(h:∀j,j<k.length->PartOk W vs[j]! k[j]!):
 PartsOk (W.alloc (.cells vs t)) (some (aZ W.heap.size)) k:=by
 refine UX ⟨W.heap.size,0,rfl,λj b=>⟨vs[j]!,?_,(h j b).below ((UR _ _).alloc (Uw _) _)⟩⟩;have c:vs.map encV=vs:=by
  have:encV=id:=rfl;rw[this,Array.map_id]
 have:=(Holds.new (enc:=encV) W t vs j oM).1;rw[c]at this;exact this
theorem qX{w:Ur}{b:Nat}(c:Holds encB w b 0 L)(k:L.size=32):PartOk w (sZ b 32 32) L.toList:=
 ⟨_,b,0,32,L,by rw[k],rfl,oM,oM,UX ⟨rfl,c⟩⟩
theorem KL:∀w:Ur,(zeroValue 286).run prog w=.ok (.agg (UJ 32 (.int .u8 0))) w:=λ_=>kR
theorem En(k:ByteArray)(w:Ur)(v:k.size<=1048576):
 UH prog 231 #[.string k] w λe w'=>e=.returned (jZ w.heap.size)/\kZ w w'/\Holds encB w' w.heap.size 0 (newL k.data.toList):=by
 have a:=KL;have u:Holds encB (w.alloc (.cells (UJ 32 (.int .u8 0)) 286)) w.heap.size 0 (UJ 32 0):=by
  have:=Holds.new (enc:=encB) w 286 (UJ 32 0);rw[yAx]at this;exact this
 have t:kZ w (w.alloc (.cells (UJ 32 (.int .u8 0)) 286)):=(UR _ _).alloc (Uw _) _;have s:(w.alloc (.cells (UJ 32 (.int .u8 0)) 286)).heap.size=w.heap.size+1:=by simp
 obtain⟨c,f,o,A,x,q,g,m⟩:=oG k (w.alloc (.cells (UJ 32 (.int .u8 0)) 286)) oM;have l:=Holds.below' u g;have n:=nY f #[.slice (some ⟨(w.alloc (.cells (UJ 32 (.int .u8 0)) 286)).heap.size,0,none⟩) k.size c] [k.data.toList] 23 rfl (λj y=>by
  have b:j=0:=by simpa using y
  subst b;exact q)
 have d:kZ f (f.alloc (.cells #[.slice (some ⟨(w.alloc (.cells (UJ 32 (.int .u8 0)) 286)).heap.size,0,none⟩) k.size c] 23)):=(UR _ _).alloc (Uw _) _;have b:=Holds.below' l d;rw[s]at o n d b m;have i:=(t.trans (g.mono oM)).trans (d.mono oM);go_enter func231,ntmps231;go_wp2_with fail
 refine(qK w.heap.size (UJ 32 0) ⟨#[108,111,103]⟩ (some (aZ f.heap.size)) 1 1 [k.data.toList] _ dC rfl dC n b (by simp)).mono ?_;rintro e z ⟨rfl,p,r⟩;go_wp2;go_ret;exact⟨rfl,i.trans (p.below i.size (Uw _)),r⟩
theorem Bq(b:Nat)(L:Bs)(k:ByteArray)(l:Option Ww)(m n:Nat)(d:List UInt8)(w:Ur)(x:k.size<=1048576)(y:Holds encB w b 0 L)(a:L.size=32)(D:PartOk w (.slice l m n) d):
 UH prog 145 #[jZ b,.string k,.slice l m n] w λe w'=>e=.returned (.tuple #[])/\Only b 0 32 w w'/\Holds encB w' b 0 (uN L k.data.toList d):=by
 have z:=Holds.lt y oM;obtain⟨c,g,B,G,C,p,f,A⟩:=oG k w oM;have i:=Holds.below y f z;have v:=D.below f;have t:=nY g #[sZ b 32 32,sZ w.heap.size k.size c,.slice l m n] [L.toList,k.data.toList,d] 23 rfl (λj E=>by
  have o:j<3:=E;match j,o with
  | 0,_=>exact qX i a
  | 1,_=>exact p
  | 2,_=>exact v)
 have s:kZ g (g.alloc (.cells #[sZ b 32 32,sZ w.heap.size k.size c,.slice l m n] 23)):=(UR _ _).alloc (Uw _) _;have u:=Holds.below' i s;have r:Only b 0 32 w (g.alloc (.cells #[sZ b 32 32,sZ w.heap.size k.size c,.slice l m n] 23)):=(Only.of_below f rfl z).alloc oM _;go_enter func145,ntmps145;go_wp2_with fail
 refine(qK b L ⟨#[115,97,121]⟩ (some (aZ g.heap.size)) 3 3 [L.toList,k.data.toList,d] _ dC rfl dC t u a).mono ?_;rintro e F ⟨rfl,o,q⟩;go_wp2
 go_end0
 exact⟨rfl,r.trans o,q⟩
theorem Np(b:Nat)(L:Bs)(k:ByteArray)(n:Nat)(w:Ur)(X:k.size<=1048576)(hn:n<=1024)(Z:Holds encB w b 0 L)(U:L.size=32):
 UH prog 242 #[jZ b,.string k,iZ n] w λe w'=>∃r,e=.returned (.tuple #[sZ r n n,iZ 0])/\w.heap.size<=r/\Only b 0 32 w w'/\Holds encB w' b 0 (tI L k.data.toList)/\Holds encB w' r 0 (CO L k.data.toList n):=by
 have S:=Holds.lt Z oM;obtain⟨c,i,h6,hc,P,q,v,h0⟩:=oG k w oM;have d:=Holds.below Z v S;have B:=nY i #[sZ b 32 32,sZ w.heap.size k.size c] [L.toList,k.data.toList] 23 rfl (λj a=>by
  have g:j<2:=a;match j,g with
  | 0,_=>exact qX d U
  | 1,_=>exact q)
 have z:kZ i (i.alloc (.cells #[sZ b 32 32,sZ w.heap.size k.size c] 23)):=(UR _ _).alloc (Uw _) _;have C:=Holds.below' d z;have D:Only b 0 32 w (i.alloc (.cells #[sZ b 32 32,sZ w.heap.size k.size c] 23)):=(Only.of_below v rfl S).alloc oM _;have d0:decide ((n:Int)<0)=false:=decide_eq_false oM;have d1:¬(1024:Int)<(n:Int):=oM;clear P q z;go_enter func242,ntmps242;go_wp2_with fail
 refine(vP ⟨#[97,115,107]⟩ (some (aZ i.heap.size)) 2 [L.toList,k.data.toList] _ dC (by show 2<=1048576;omega) B).mono ?_;rintro e w3 ⟨W,rfl,h7,x,O⟩;have R:=Holds.below' C x;have y:=D.trans (Only.of_below x rfl (Ux S D.size));clear B C d;go_wp2_with fail
 refine(yV (some (aZ W)) W 0 32 32 n _ _ oM (fC _ _) oM oM (UX ⟨rfl,O⟩)).mono ?_;rintro e s ⟨E,rfl,h9,u,N⟩;have M:=Holds.below' R u;have he:=y.size;have p:=y.trans (Only.of_below u rfl oM);have J:Holds encB s E 0 (CO L k.data.toList n):=N;have h8:=p.size;obtain⟨F,l,Y,h5,ha,Q,f,h4⟩:=oG k s oM;have t:=Holds.below' M f;have K:=Holds.below' J f;have m:=nY l #[sZ b 32 32,sZ s.heap.size k.size F] [L.toList,k.data.toList] 23 rfl (λj a=>by
  have g:j<2:=a;match j,g with
  | 0,_=>exact qX t U
  | 1,_=>exact Q)
 have g:kZ l (l.alloc (.cells #[sZ b 32 32,sZ s.heap.size k.size F] 23)):=(UR _ _).alloc (Uw _) _;have I:=Holds.below' t g;have T:=Holds.below' K g;have V:Only b 0 32 w (l.alloc (.cells #[sZ b 32 32,sZ s.heap.size k.size F] 23)):=p.trans ((Only.of_below f rfl oM).alloc oM _);go_wp2_with fail
 refine(qK b L ⟨#[97,115,107,101,100]⟩ (some (aZ l.heap.size)) 2 2 [L.toList,k.data.toList] _ dC rfl dC m I U).mono ?_;rintro e w7 ⟨rfl,A,H⟩;have G:Holds encB w7 E 0 (CO L k.data.toList n):=by
  intro j a;have h1:=T j a;have h2:=Xq _ _ h1.1;have h3:=A.other (c:=E) (o:=0+j) oM h2;rw[h3.1,h3.2];exact h1
 go_wp2
 go_ret2
 exact⟨E,rfl,oM,V.trans A,H,G⟩
end SP
end Go.Proofs.YtdoammpgchejcaaGreat
