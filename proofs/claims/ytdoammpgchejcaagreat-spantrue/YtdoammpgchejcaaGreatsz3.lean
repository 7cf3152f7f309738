import Derived.Deep.LoopGhost
import Derived.Deep.RegionHeld3
import Derived.Deep.CutRange
import Derived.Deep.DeepCutAuto
import Derived.Laws.MakeOwn
import Derived.ChangeKeysEq
import Derived.Deep.AppendSrc
import Derived.Lib.AppendZeros
import Derived.LoopN
import Derived.Deep.RegionWith
import Derived.WalkKit
import Derived.Sort.Row
import Derived.Deep.Draws
import Derived.Below
import Derived.Deep.OwnRows
import Derived.Test.YtdoammpgchejcaaGreatRows
import Derived.Deep.QuietTactic
import Derived.StillTailTactics
import Derived.BigRegion
import Derived.BigQuiet
import Derived.WalkSpells
import Derived.WalkLawsBesides
import Derived.KernelRfl
import Derived.Lib.LazyBuf
import Derived.Lib.SliceRun
import Derived.Lib.ConvBytes
import Derived.Test.YtdoammpgchejcaaGreatsz2
set_option linter.unusedVariables false
set_option linter.constructorNameAsVariable false
set_option linter.unusedSimpArgs false
set_option maxRecDepth 1000000
set_option maxHeartbeats 4000000
namespace Go.Proofs.YtdoammpgchejcaaGreat
open EC RG
open _root_.Array renaming append_assoc->yAG,getElem?_append_left->XX,getElem?_append_right->YC,getElem?_eq_getElem->U0,getElem?_map->yAE,getElem?_toList->Vq,getElem_append_left->Z1,getElem_append_right->ZW,getElem_replicate->Ww,getElem_toList->XE,length_toList->UK,map->yB3,map_replicate->yAv,replicate->UJ,size->V3,size_append->VN,size_extract->Xx,size_replicate->UP,size_setIfInBounds->VF,toArray_toList->XD
open _root_.BitVec renaming eq_of_toNat_eq->yAi,ofInt->Xb,ofInt_natCast->Zc,ofNat->Yl,toNat_ofNat->YE
open _root_.Bool renaming and_eq_true->UL
open _root_.Classical renaming byContradiction->Wt
open _root_.Fin renaming ofNat->Xh
open _root_.Go renaming Addr->Wu,Calls->UH,TypeId->U8,Value->Ut,World->Ur,bodyPost_ret->UE,run_make_row'->yBE,sizeOf->yAa,size_madeCells->YI,undef->WP,wp_block->XH,wp_cond_false->VI,wp_cond_true->VE,wp_loop_ghost->Ze,wp_ret->Wp,wp_seq->Uz,wp_skip->WS
open _root_.Go.Addr renaming add->Zi,add_mid->yBH
open _root_.Go.Builtin renaming append_->Vt,copy_->XZ
open _root_.Go.Exit renaming inBlock->Yu
open _root_.Go.Instr renaming indexAt->Vl,makeSlice->XC
open _root_.Go.IntKind renaming bits->yBi,i64->VS,signed->yAR,u64->Vo,u8->Xy,wrap->yBh,wrap_u64->XU
open _root_.Go.IntWalk renaming i64_in->Ws
open _root_.Go.Lib renaming bytesCells->Zj,bytesWorld->Z5,bytesWorld_size->yAJ,wpList_append_run->WI
open _root_.Go.Op renaming eqItems->yA7
open _root_.Go.Result renaming andThen_ok->Vm
open _root_.Go.RowKit.Below renaming heap_setCell->Zr,refl->UR
open _root_.Go.Value renaming int->VZ
open _root_.Go.World renaming alloc->Xt,block_lt_of_cell?->Xo,cell?->VY,cell?_alloc_new->Vd,cell?_of_block->UW,cell?_setCell_other->UU,cell?_setCell_same->VV,cell?_setCells_out->Z4,freeze->yAg,frozen?_alloc_new->Wv,frozen?_of_block->VU,frozen?_setCell->VM,frozen?_setCells->yAf,setCell->Yb,size_alloc->UB
open _root_.Int renaming emod_eq_of_lt->yA5,natCast_ediv->Zb,natCast_mul->Xw,natCast_pow->Z9,neg_neg->yBY,toNat_natCast->X0
open _root_.List renaming cons->yB6,forall_mem_cons->yAq,getElem?_eq_some_iff->UF,getElem?_map->Vz,getElem?_toArray->Vg,getElem_map->Xd,length_cons->Vj,length_map->UQ,length_replicate->Xf,mem_cons_of_mem->Vb,mem_cons_self->Vu,mem_map->Vn,mem_range->V0,not_mem_nil->UY,range->VG,replicate->VB,size_toArray->VC,take_of_length_le->Y9
open _root_.Nat renaming add_assoc->WR,add_sub_cancel_left->WL,add_zero->XB,le_add_right->Y8,le_refl->Uw,le_trans->UC,lt_of_lt_of_le->Ux,lt_succ_self->YG,min->XP,min_le_left->Z7,min_le_right->ZX,mod_eq_of_lt->US,mod_lt->V5,mul_comm->Vv,mul_le_mul->WQ,mul_le_mul_left->Yh,mul_one->XR,mul_succ->Yi,ne_of_gt->V8,pos_of_neZero->Yy,sub_self->YU,sub_sub->Yk,zero_add->UD,zero_le->Wy
open _root_.Option renaming isSome_iff_exists->Vr,map_eq_some_iff->Uy,map_some->Yv
open _root_.Or renaming inl->U4,inr->UX
open _root_.Prod renaming mk->V6
open _root_.UInt8 renaming ofNat->UM,toNat_ofNat'->YH
open Go.Proofs.Tryz
open Go.RowKit Go.Sort Go.Deep
section
variable {P:Nat}[NeZero P]{N:Nat}
theorem Ll(F:Fld P)(b o k:Nat)(m:k<8)(s:T3 P)(w:Ur)(q:b<w.heap.size)(y:w.rangeAt b (o+0+12*k) (tw s)):UH prog 110 #[(oZ b o),(.int .i8 (-(2*(k:Int)+1)))] w (rZ w λe w'=>e=tv (opJ s)):=by
 obtain⟨s2,c⟩:∃s2,opJ s=s2:=⟨_,rfl⟩
 have l:=c ▸ Ri F s;have d:∀w,(binOp .lss 187 (.int .i8 (-(2*(k:Int)+1))) (.int .i8 0)).run prog w=.ok (.bool true) w:=λw=>by
  go_simp;try omega
 have f:∀w,(Op.unary .neg (.int .i8 (-(2*(k:Int)+1)))).run prog w=.ok (.int .i8 (2*(k:Int)+1)) w:=λw=>by
  rw[NM _ oM,yBY]
 go_enter func110,ntmps110;refine Ot (v0:=(oZ b o)) (v1:=(.int .i8 (-(2*(k:Int)+1)))) (n:=23) kR kR kR kR ?_;intro a0 j t r;have i:=RG.St.begin w;have u:RG.M w w.heap.size [] 23 [] [] [(0,.v (oZ b o)),(1,.v (.int .i8 (-(2*(k:Int)+1))))] a0 _:=⟨i,j,⟨t,r,yCl⟩⟩
 repeat refine Uz ?_
 refine u.T [.m 0] [(0,RG.z 12)] [] [RG.z 12] [0,1,4] ⟨mk 0 185,yCl⟩ ?_;intro z a D x;repeat refine Uz ?_
 refine x.U [.x (.int .i8 (-(2*(k:Int)+1))),.x (.bool true)] [0,1,4,6] ⟨st,aP rfl .lss 187 187 5 (.int .i8 (-(2*(k:Int)+1))) (.int .i8 0) (.bool true) rfl rfl sx (λw=>kR) d,yCl⟩ ?_;intro a2 C p;repeat refine Uz ?_
 refine VE p.ev ?_;repeat refine Uz ?_
 refine p.T [.x (oZ b o),.x (.int .i8 (-(2*(k:Int)+1))),.x (.int .i8 (2*(k:Int)+1)),.x (.int .i8 k),.x (oZ b o),.x (.pointer (some ⟨b,o+0,none⟩)),.x (.pointer (some ⟨b,(o+0)+12*k,none⟩)),.x (tv s),.c (tv s2),.u 0] [] [(0,9,tw s2)] [tw s2] [4] ⟨st,st,MY rfl .neg 187 8 (.int .i8 (-(2*(k:Int)+1))) (.int .i8 (2*(k:Int)+1)) rfl rfl sx f,aP rfl .quo 187 187 9 (.int .i8 (2*(k:Int)+1)) (.int .i8 2) (.int .i8 k) rfl rfl sx (λw=>kR) (NL k m),st,st,bD rfl 186 12 10 rfl (.v (.pointer (some ⟨b,o+0,none⟩))) (.int .i8 k) sx sx (λμ w=>J7 _ _ k m w),eH rfl b ((o+0)+12*k) q UY 185 13 rfl (tw s) rfl sx y iF i117,cl l,RG.pt i117,yCl⟩ ?_;intro A B g;refine Wp ?_;refine UE (v:=tv s2) (aI g.st 4 185 rfl 0 _ rfl (g.at (s:=(.p 0 0))) iF i117) g.sl.defers ?_;exact⟨_,rfl,g.st.bel.below,by rw[c]⟩
theorem Lj(F:Fld P)(b o k:Nat)(i:k<8)(s:T3 P)(w:Ur)(p:b<w.heap.size)(x:w.rangeAt b (o+0+12*k) (tw s)):UH prog 110 #[(oZ b o),(.int .i8 (2*(k:Int)+1))] w (rZ w λe w'=>e=tv s):=by
 obtain⟨s2,j⟩:∃s2,opJ s=s2:=⟨_,rfl⟩
 have c:∀w,(binOp .lss 187 (.int .i8 (2*(k:Int)+1)) (.int .i8 0)).run prog w=.ok (.bool false) w:=λw=>by
  go_simp;try omega
 have m:∀w,(Op.unary .neg (.int .i8 (-(2*(k:Int)+1)))).run prog w=.ok (.int .i8 (2*(k:Int)+1)) w:=λw=>by
  rw[NM _ oM,yBY]
 go_enter func110,ntmps110;refine Ot (v0:=(oZ b o)) (v1:=(.int .i8 (2*(k:Int)+1))) (n:=23) kR kR kR kR ?_;intro a0 g r q;have f:=RG.St.begin w;have t:RG.M w w.heap.size [] 23 [] [] [(0,.v (oZ b o)),(1,.v (.int .i8 (2*(k:Int)+1)))] a0 _:=⟨f,g,⟨r,q,yCl⟩⟩
 repeat refine Uz ?_
 refine t.T [.m 0] [(0,RG.z 12)] [] [RG.z 12] [0,1,4] ⟨mk 0 185,yCl⟩ ?_;intro y z C u;repeat refine Uz ?_
 refine u.U [.x (.int .i8 (2*(k:Int)+1)),.x (.bool false)] [0,1,4,6] ⟨st,aP rfl .lss 187 187 5 (.int .i8 (2*(k:Int)+1)) (.int .i8 0) (.bool false) rfl rfl sx (λw=>kR) c,yCl⟩ ?_;intro a2 B l;repeat refine Uz ?_
 refine VI l.ev ?_;refine WS ?_;repeat refine Uz ?_
 refine l.T [.x (oZ b o),.x (.int .i8 (2*(k:Int)+1)),.x (.int .i8 k),.x (oZ b o),.x (.pointer (some ⟨b,o+0,none⟩)),.x (.pointer (some ⟨b,(o+0)+12*k,none⟩)),.x (tv s),.u 0] [] [(0,7,tw s)] [tw s] [4] ⟨st,st,aP rfl .quo 187 187 17 (.int .i8 (2*(k:Int)+1)) (.int .i8 2) (.int .i8 k) rfl rfl sx (λw=>kR) (NL k i),st,st,bD rfl 186 20 18 rfl (.v (.pointer (some ⟨b,o+0,none⟩))) (.int .i8 k) sx sx (λμ w=>J7 _ _ k i w),eH rfl b ((o+0)+12*k) p UY 185 21 rfl (tw s) rfl sx x iF i117,RG.pt i117,yCl⟩ ?_;intro a A d;refine Wp ?_;refine UE (v:=tv s) (aI d.st 4 185 rfl 0 _ rfl (d.at (s:=(.p 0 0))) iF i117) d.sl.defers ?_;exact⟨_,rfl,d.st.bel.below,rfl⟩
def tmJ(x y:Fin P)(d:Int):T3 P:=if d<0 then opJ (od x y ((-d).toNat/2)) else od x y (d.toNat/2)
theorem QF(C:Fld P){x y:Fin P}{p:EC.Pt P}(h:Pair x y p)(b:On p){d:Int}(hd:d%2=1):JacT (tmJ x y d) (eF d p):=by
 unfold tmJ;by_cases c:d<0
 ·rw[yCj c];have k:=(O4 C h b ((-d).toNat/2)).neg;rw[<-Bw C.cur b]at k;rw[show -((2*((-d).toNat/2)+1:Nat):Int)=d by omega]at k;exact k
 ·rw[yCk c];have k:=O4 C h b (d.toNat/2);rw[show((2*(d.toNat/2)+1:Nat):Int)=d by omega]at k;exact k
def inn(ns:Nat->Nat)(xs ys:Nat->Fin P)(st:T3 P)(place:Nat):Nat->T3 P
 | 0=>st
 | i+1=>if eY (ns i) place=0 then inn ns xs ys st place i else plJ (inn ns xs ys st place i) (tmJ (xs i) (ys i) (eY (ns i) place))
def iH(ns:Nat->Nat)(xs ys:Nat->Fin P)(N:Nat):Nat->T3 P
 | 0=>(0,0,0)
 | m+1=>inn ns xs ys (twJ (iH ns xs ys N m)) (256-m) N
theorem NI(C:Fld P){ns:Nat->Nat}{xs ys:Nat->Fin P}{p:Nat->EC.Pt P}{N:Nat}(b:∀i,i<N->ns i<2^256)(l:∀i,i<N->Pair (xs i) (ys i) (p i))(ho:∀i,i<N->On (p i)){st:T3 P}{g:Nat->Int}{place:Nat}
 (h:JacT st (tot p N g)):∀i,i<=N->JacT (inn ns xs ys st place i) (tot p N (λj=>if j<i then g j+eY (ns j) place else g j))
 | 0,_=>by
  have:tot p N (λj=>if j<0 then g j+eY (ns j) place else g j)=tot p N g:=eJ N λj _=>yCk oM
  rw[this];exact h
 | i+1,hi=>by
  have f:=NI C b l ho (place:=place) h i oM;have e:tot p N (λj=>if j<i+1 then g j+eY (ns j) place else g j)=EC.add (tot p N (λj=>if j<i then g j+eY (ns j) place else g j)) (eF (eY (ns i) place) (p i)):=by
   rw[<-Lh C.cur _ i (eY (ns i) place) N oM ho];refine eJ N λj _=>?_
   by_cases k:j=i
   ·subst k;rw[yCj oM,yCj rfl,yCk oM]
   ·rw[yCk k];by_cases d:j<i
    ·rw[yCj oM,yCj d]
    ·rw[yCk oM,yCk d]
  rw[e];unfold inn;by_cases d:eY (ns i) place=0
  ·rw[yCj d,d,Gg,bK];exact f
  ·rw[yCk d];obtain⟨q,c,-,m⟩:=A8 (b i oM);rcases m.ho place with k|k
   ·exact absurd k d
   ·exact f.plus C (QF C (l i oM) (ho i oM) k.1)
theorem Ia(C:Fld P){ns:Nat->Nat}{xs ys:Nat->Fin P}{p:Nat->EC.Pt P}{N:Nat}(k:∀i,i<N->ns i<2^256)(c:∀i,i<N->Pair (xs i) (ys i) (p i))(ho:∀i,i<N->On (p i)):
 ∀m,m<=257->JacT (iH ns xs ys N m) (tot p N (λj=>DG.hor (eY (ns j)) m))
 | 0,_=>by
  rw[show tot p N (λj=>DG.hor (eY (ns j)) 0)=.none from v9 p N (λ_ _=>rfl)];exact JacT.none
 | m+1,hm=>by
  have b:=(Ia C k c ho m oM).twice C;rw[<-Gl C.cur _ N ho]at b;have d:=NI C k c ho (place:=256-m) b N (Uw _);have e:tot p N (λj=>DG.hor (eY (ns j)) (m+1))=tot p N (λj=>if j<N then 2*DG.hor (eY (ns j)) m+eY (ns j) (256-m) else 2*DG.hor (eY (ns j)) m):=
   eJ N λj f=>by rw[yCj f];rfl
  rw[e];exact d
theorem BE(C:Fld P){ns:Nat->Nat}{xs ys:Nat->Fin P}{p:Nat->EC.Pt P}{N:Nat}(k:∀i,i<N->ns i<2^256)(f:∀i,i<N->Pair (xs i) (ys i) (p i))(ho:∀i,i<N->On (p i)):
 JacT (iH ns xs ys N 257) (tot p N (λj=>(ns j:Int))):=by
 have h:=Ia C k f ho 257 (Uw _);have e:tot p N (λj=>(ns j:Int))=tot p N (λj=>DG.hor (eY (ns j)) 257):=eJ N λj b=>by
  obtain⟨q,c,d,g⟩:=A8 (k j b);exact(DG.MG g d).symm
 rw[e];exact h
def cc(ns:Nat->Nat)(xs ys:Nat->Fin P)(C0:List Ut):Nat->List Ut
 | 0=>C0
 | i+1=>fc (xs i) (ys i) (eY (ns i)) (cc ns xs ys C0 i) (353*i) 8
theorem NU{ns:Nat->Nat}{xs ys:Nat->Fin P}{C0:List Ut}{N:Nat}(e:C0.length=353*N):∀i,i<=N->(cc ns xs ys C0 i).length=353*N /\
 ∀j,j<i->(∀q,q<257->(cc ns xs ys C0 i)[353*j+96+q]? = some (.int .i8 (eY (ns j) q)))/\∀q r,q<8->r<12->(cc ns xs ys C0 i)[353*j+12*q+r]? = (tw (od (xs j) (ys j) q))[r]?
 | 0,_=>⟨e,λj g=>oM⟩
 | i+1,hi=>by
  obtain⟨f,m⟩:=NU e i oM;have b:=Fq (x:=xs i) (y:=ys i) (D:=eY (ns i)) (C0:=cc ns xs ys C0 i) (off:=353*i) (by rw[f];omega) 8 (Uw _);refine⟨by rw[<-f];exact b.len,λj g=>?_⟩;by_cases c:j=i
  ·subst c;exact⟨b.dig,λq r k d=>b.odd q r k d⟩
  ·obtain⟨n,l⟩:=m j oM;exact⟨λq k=>(b.out _ oM).trans (n q k),λq r k d=>(b.out _ oM).trans (l q r k d)⟩
theorem Ry(N:Nat)(g:N<=512):∃C0:List Ut,C0.length=353*N/\∀w:Ur,(XC 182 (iZ N) (iZ N)).run prog w=.ok (sZ w.heap.size N N) (w.alloc (.cells C0.toArray 190)):=by
 have e:prog.underlying 182=some (.slice 190):=kR;have n:(prog.info? 190).map (λi=>(i.size,decide (i.bytes<=4000),i.zero.isSome))=some (353,true,true):=kR;obtain⟨i,b,k⟩:=Uy.1 n;simp only[V6.injEq,decide_eq_true_eq]at k;obtain⟨j,f,d⟩:=k;obtain⟨z,c⟩:=Vr.1 d;refine⟨(madeCells z.cells (N*353)).toList,by rw[UK,YI,Vv],λw=>?_⟩;have l:(i.bytes:Int)*(N:Int)<=281474976710656:=by
  have:i.bytes*N<=4000*512:=WQ f g;have m:((i.bytes*N:Nat):Int)<=281474976710656:=oM;rwa[Xw]at m
 have:=run_make (P:=prog) w 182 190 i z e b c .i64 .i64 (N:Int) (N:Int) oM oM l oM;rw[X0,j]at this;rw[XD];exact this
theorem JA(F:Fld P){n:Nat}(d:n<top)(x y:Fin P)(C0:List Ut)(b off:Nat)(k:off+353<=C0.length)(w:Ur)(c:w.there b 0 C0.length)(j:w.rangeAt b 0 C0):
 UH prog 107 #[oZ b off,nv n,pv x y] w (Ret λr w'=>PutTo b C0.length (fc x y (eY n) C0 off 8) w w'/\r=.tuple #[]):=by
 have f:b<w.heap.size:=by
  have i:=(c 0 oM).1;exact Wt λd=>by
   have g:w.heap[b]? = none:=Array.getElem?_eq_none oM;simp[VY,g]at i
 refine(PP F d x y C0 b off k w f c j).mono ?_;rintro e w' ⟨v,rfl,⟨C,g,i⟩,rfl⟩;refine⟨_,rfl,?_,rfl⟩;rw[(Fq k 8 (Uw _)).uniq g];exact i
theorem Lm(F:Fld P)(k o:Nat)(x y:Fin P){d:Int}(hd:d%2=1)(i:-15<=d/\d<=15)(w:Ur)(f:k<w.heap.size)(g:∀q,q<8->w.rangeAt k (o+0+12*q) (tw (od x y q))):
 UH prog 110 #[oZ k o,.int .i8 d] w (rZ w λe w'=>e=tv (tmJ x y d)):=by
 unfold tmJ;by_cases c:d<0
 ·rw[yCj c];have b:=Ll F k o ((-d).toNat/2) oM (od x y ((-d).toNat/2)) w f (g _ oM);rw[show -(2*(((-d).toNat/2:Nat):Int)+1)=d by omega]at b;exact b
 ·rw[yCk c];have b:=Lj F k o (d.toNat/2) oM (od x y (d.toNat/2)) w f (g _ oM);rw[show 2*((d.toNat/2:Nat):Int)+1=d by omega]at b;exact b
theorem SZ{P:Nat}[NeZero P](w:Ur):(Instr.alloc 185 true (.tuple #[])).run prog w=.ok (jZ w.heap.size) (w.alloc (.cells (tw ((0,0,0):T3 P)).toArray 185)):=by
 show _=Result.ok _ (w.alloc (.cells (ws (0:Fin P)++(ws (0:Fin P)++ws (0:Fin P))).toArray 185));rw[<-Av];kernel_rfl
theorem Ro(w:Ur):(binOp .neq 187 (.int .i8 0) (.int .i8 0)).run prog w=.ok (.bool false) w:=kR
theorem Rn{d:Int}(h:¬d=0)(w:Ur):(binOp .neq 187 (.int .i8 d) (.int .i8 0)).run prog w=.ok (.bool true) w:=by
 go_simp
theorem sub1'(q:Nat)(k:q<1000)(w:Ur):(binOp .sub 3 (iZ q) (iZ 1)).run prog w=.ok (iZ ((q:Int)-1)) w:=Df _ _ oM oM w
theorem geq0'(i:Nat)(w:Ur):(binOp .geq 3 (iZ i) (iZ 0)).run prog w=.ok (.bool true) w:=by
 go_simp
theorem H9(F:Fld P)(N:Nat)(hN:N<=512)(ns:Nat->Nat)(xs ys:Nat->Fin P)(kk:∀i,i<N->ns i<top)(g o:Nat)(w:Ur)(bf:g<w.heap.size)(ba:o<w.heap.size)
 (W:∀i,i<N->w.rangeAt g (4*i) (wn (ns i))) (Z:∀i,i<N->w.rangeAt o (8*i) (ws (xs i)++ws (ys i))) :
 UH prog 48 #[sZ g N N,sZ o N N] w (rZ w λe w'=>∃s,s=iH ns xs ys N 257/\e=pv (s.1*(inv s.2.2*inv s.2.2)) (s.2.1*(inv s.2.2*inv s.2.2)*inv s.2.2)):=by
 obtain⟨C,b4,be⟩:=Ry N hN;have Y:∀(i:Nat) (c2:List Ut),fc (xs i) (ys i) (eY (ns i)) (cc ns xs ys C i) (353*i) 8=c2->cc ns xs ys C (i+1)=c2:=λi c2 h=>h
 obtain⟨i,-⟩:∃i:Nat,i=0:=⟨_,rfl⟩
 obtain⟨q,-⟩:∃i:Nat,i=0:=⟨_,rfl⟩
 obtain⟨d,-⟩:∃i:Int,i=0:=⟨_,rfl⟩
 obtain⟨C2,-⟩:∃c:List Ut,c=C:=⟨_,rfl⟩
 obtain⟨s,-⟩:∃s:T3 P,s=(0,0,0):=⟨_,rfl⟩
 obtain⟨s2,-⟩:∃s:T3 P,s=(0,0,0):=⟨_,rfl⟩
 obtain⟨s3,-⟩:∃s:T3 P,s=(0,0,0):=⟨_,rfl⟩
 obtain⟨s4,-⟩:∃s:T3 P,s=(0,0,0):=⟨_,rfl⟩
 go_enter func48,ntmps48;refine Ot (v0:=(sZ g N N)) (v1:=(sZ o N N)) (n:=62) kR kR kR kR ?_;intro a0 kz f0 f1;have bd:=RG.St.begin w;have M0:RG.M w w.heap.size [] 62 [] [] [(0,.v (sZ g N N)),(1,.v (sZ o N N))] a0 _:=⟨bd,kz,⟨f0,f1,yCl⟩⟩
 repeat refine Uz ?_
 refine M0.T [.m 0] [(0,RG.z 8)] [] [RG.z 8] [0,1,4] ⟨mk 0 93,yCl⟩ ?_;intro j1 a1 w1 M1;repeat refine Uz ?_
 refine M1.t [.x 11 [] (sZ g N N),.x 12 [(11,0)] (iZ N),⟨some 13,[(12,1)],.s 1 N N,.make 1⟩,.s 5 [(13,2)] (.s 1 N N)] [(2,C)] [] [RG.z 8,C] [(0,.v (sZ g N N)),(1,.v (sZ o N N)),(4,.p 0 0),(5,.s 1 N N)] ⟨st,fQ rfl 11 (.v (sZ g N N)) (iZ N) rfl sx (λa w=>kR) (λμ w=>kR),mJ 1 rfl _ rfl 182 190 12 12 N rfl rfl sx sx be,st,yCl⟩ ?_;intro j2 a2 w2 M2;repeat refine Uz ?_
 refine M2.U [.s (.s 1 N N),.x (iZ N),.x (iZ 0)] [0,1,4,5,15,16] ⟨st,fQ rfl 14 (.s 1 N N) (iZ N) rfl sx (λa w=>kR) (λμ w=>kR),st,yCl⟩ ?_;intro a3 w3 M3;have kj:a3.tmps[0]? = some (sZ g N N):=M3.at (s:=(.v (sZ g N N)));have ki:a3.tmps[1]? = some (sZ o N N):=M3.at (s:=(.v (sZ o N N)));have kh:a3.tmps[4]? = some (jZ j1):=M3.at (s:=(.p 0 0));have kf:a3.tmps[5]? = some (sZ j2 N N):=M3.at (s:=(.s 1 N N));have hk:a3.tmps[15]? = some (iZ N):=M3.at (s:=(.v (iZ N)));have k7:a3.tmps[16]? = some (iZ 0):=M3.at (s:=(.v (iZ 0)));repeat refine Uz ?_
 refine XH ?_;refine Ze (λm a wr=>∃i,i+m=N/\Sl a 62/\a.tmps[0]? = some (sZ g N N)/\a.tmps[1]? = some (sZ o N N)/\a.tmps[4]? = some (jZ j1)/\a.tmps[5]? = some (sZ j2 N N)/\a.tmps[15]? = some (iZ N)/\a.tmps[16]? = some (iZ i)/\RG.St w w.heap.size [] [[uZ 0,uZ 0,uZ 0,uZ 0,uZ 0,uZ 0,uZ 0,uZ 0],cc ns xs ys C i] [j1,j2] wr) N ⟨0,oM,M3.sl,kj,ki,kh,kf,hk,k7,M3.st⟩ ?_;intro m a wr;rintro⟨i,bk,sl,p0,p1,p4,p5,km,kc,L⟩;generalize j1=z at p4 L;generalize j2=x at p5 L;obtain⟨C,kg⟩:∃c,cc ns xs ys C i=c:=⟨_,rfl⟩
 have V:=NU (ns:=ns) (xs:=xs) (ys:=ys) b4 i oM;rw[kg]at L V;by_cases p:i<N
 ·obtain⟨C2,u⟩:∃c,fc (xs i) (ys i) (eY (ns i)) C (353*i) 8=c:=⟨_,rfl⟩
  have B:353*i+353<=C.length:=by rw[V.1];omega
  have K:C2.length=C.length:=u ▸ (Fq B 8 (Uw _)).len;have D:∀(k:Nat) (w:Ur),w.there k 0 C.length->w.rangeAt k 0 C->UH prog 107 #[.pointer (some ⟨k,353*i,none⟩),nv (ns i),pv (xs i) (ys i)] w (Ret λr w'=>PutTo k C.length C2 w w'/\r=.tuple #[]):=λk w O hr=>u ▸ JA F (kk i p) (xs i) (ys i) C k (353*i) B w O hr
  have M:w.rangeAt g (0+4*i) (wn (ns i)):=by rw[UD];exact W i p
  have Q:w.rangeAt o (0+8*i) (ws (xs i)++ws (ys i)):=by rw[UD];exact Z i p
  have R:RG.M w w.heap.size [] 62 [RG.z 8,C] [z,x] [(0,.v (sZ g N N)),(1,.v (sZ o N N)),(4,.p 0 0),(5,.s 1 N N),(15,.v (iZ N)),(16,.v (iZ i))] a _:=⟨L,sl,⟨p0,p1,p4,p5,km,kc,yCl⟩⟩
  repeat refine Uz ?_
  refine R.U [.x (.bool true)] [0,1,4,5,15,16,17] ⟨aQ rfl .lss 3 3 16 15 (iZ i) (iZ N) (.bool true) rfl rfl sx sx (λw=>kR) (gA p),yCl⟩ ?_;intro bv bt J;repeat refine Uz ?_
  refine VE J.ev ?_;refine WS ?_;refine Uz ?_;refine XH ?_;repeat refine Uz ?_
  refine J.U [.x (iZ i),.x (iZ i)] [0,1,4,5,6,15,16] ⟨st,st,yCl⟩ ?_;intro X c0 S;repeat refine Uz ?_
  refine S.dr kR [.s 19 [] (.s 1 N N),.x 20 [] (iZ i),.s 21 [(19,0),(20,1)] (.p 1 (353*i)),.x 22 [] (sZ g N N),.x 23 [] (iZ i),.x 24 [(22,3),(23,4)] (.pointer (some ⟨g,0+4*i,none⟩)),.x 25 [(24,5)] (nv (ns i)),.x 26 [] (sZ o N N),.x 27 [] (iZ i),.x 28 [(26,7),(27,8)] (.pointer (some ⟨o,0+8*i,none⟩)),.x 29 [(28,9)] (pv (xs i) (ys i)),⟨some 30,[(21,2),(25,6),(29,10)],.v (.tuple #[]),.put 1⟩] [] [(1,11,C2)] [RG.z 8,C2] [(0,.v (sZ g N N)),(1,.v (sZ o N N)),(4,.p 0 0),(5,.s 1 N N),(15,.v (iZ N)),(16,.v (iZ i))] kR (congrArg (λn=>[n]) K) ⟨st,st,bD rfl 182 19 20 rfl (.s 1 N N) (iZ i) sx sx (λμ w=>FS _ _ _ i p w),st,st,bD rfl 89 22 23 rfl (.v (sZ g N N)) (iZ i) sx sx (λμ w=>SS _ _ _ _ i p w),eH rfl g (0+4*i) bf UY 47 24 rfl (wn (ns i)) rfl sx M u85 i85,st,st,bD rfl 100 26 27 rfl (.v (sZ o N N)) (iZ i) sx sx (λμ w=>NY _ _ _ _ i p w),eH rfl o (0+8*i) ba UY 93 28 rfl (ws (xs i)++ws (ys i)) rfl sx Q gU i109,yZ 1 rfl _ rfl 107 21 25 29 (.p 1 (353*i)) (nv (ns i)) (pv (xs i) (ys i)) (.tuple #[]) rfl (λa w=>kR) sx sx sx (λμ w O hr=>D (μ 1) w O hr),yCl⟩ ?_;intro U c3 T;repeat refine Uz ?_
  refine T.U [.x (iZ ((i+1:Nat):Int)),.x (iZ ((i+1:Nat):Int))] [0,1,4,5,15,16] ⟨aP rfl .add 3 3 16 (iZ i) (iZ 1) (iZ ((i+1:Nat):Int)) rfl rfl sx (λw=>kR) (uQ i 1 oM oM),st,yCl⟩ ?_;intro l bz f;have G:l.tmps[0]? = some (sZ g N N):=f.at (s:=(.v (sZ g N N)));have H:l.tmps[1]? = some (sZ o N N):=f.at (s:=(.v (sZ o N N)));have E:l.tmps[4]? = some (jZ z):=f.at (s:=(.p 0 0));have I:l.tmps[5]? = some (sZ x N N):=f.at (s:=(.s 1 N N));have y:l.tmps[15]? = some (iZ N):=f.at (s:=(.v (iZ N)));have A:l.tmps[16]? = some (iZ ((i+1:Nat):Int)):=f.at (s:=(.v (iZ ((i+1:Nat):Int))));show ∃n',_;refine⟨m-1,oM,i+1,oM,f.sl,G,H,E,I,y,A,?_⟩;rw[Y i C2 (by rw[kg];exact u)];exact f.st
 ·have bj:i=N:=oM;rw[bj]at V;have b2:=V.2;have ku:RG.M w w.heap.size [] 62 [RG.z 8,C] [z,x] [(0,.v (sZ g N N)),(1,.v (sZ o N N)),(4,.p 0 0),(5,.s 1 N N),(15,.v (iZ N)),(16,.v (iZ i))] a _:=⟨L,sl,⟨p0,p1,p4,p5,km,kc,yCl⟩⟩
  repeat refine Uz ?_
  refine ku.U [.x (.bool false)] [4,5,17] ⟨aQ rfl .lss 3 3 16 15 (iZ i) (iZ N) (.bool false) rfl rfl sx sx (λw=>kR) (nH p),yCl⟩ ?_;intro br bm ke;repeat refine Uz ?_
  refine VI ke.ev ?_;refine wp_exit ?_;dsimp only[Exit.then,Yu];rw[yCj rfl];repeat refine Uz ?_
  refine ke.T [.m 2] [(0,tw ((0,0,0):T3 P))] [] [RG.z 8,C,tw ((0,0,0):T3 P)] [4,5,7] ⟨qH 2 rfl rfl _ rfl 185 rfl SZ,yCl⟩ ?_;intro U bo c5 bh;repeat refine Uz ?_
  refine bh.U [.x (iZ 256)] [4,5,7,8] ⟨st,yCl⟩ ?_;intro h0 c4 G;have k4:h0.tmps[4]? = some (jZ z):=G.at (s:=(.p 0 0));have h8:h0.tmps[5]? = some (sZ x N N):=G.at (s:=(.s 1 N N));have k8:h0.tmps[7]? = some (jZ U):=G.at (s:=(.p 2 0));have hy:h0.tmps[8]? = some (iZ 256):=G.at (s:=(.v (iZ 256)));repeat refine Uz ?_
  refine XH ?_;refine Ze (λm a wr=>m<=257/\Sl a 62/\a.tmps[4]? = some (jZ z)/\a.tmps[5]? = some (sZ x N N)/\a.tmps[7]? = some (jZ U)/\a.tmps[8]? = some (iZ ((m:Int)-1))/\RG.St w w.heap.size [] [[uZ 0,uZ 0,uZ 0,uZ 0,uZ 0,uZ 0,uZ 0,uZ 0],C,tw (iH ns xs ys N (257-m))] [z,x,U] wr) 257 ⟨Uw _,G.sl,k4,h8,k8,hy,?_⟩ ?_
  ·rw[YU,iH];exact G.st
  intro m b wr;rintro⟨hm,ko,q4,q5,q7,q8,I⟩;generalize U=M at q7 I;by_cases hz:m=0
  ·subst hz;rw[show 257-0=257 from rfl]at I;obtain⟨s,J⟩:∃s,iH ns xs ys N 257=s:=⟨_,rfl⟩
   rw[J]at I;have u:RG.M w w.heap.size [] 62 [RG.z 8,C,tw s] [z,x,M] [(4,.p 0 0),(5,.s 1 N N),(7,.p 2 0),(8,.v (iZ (-1)))] b _:=⟨I,ko,⟨q4,q5,q7,q8,yCl⟩⟩
   repeat refine Uz ?_
   refine u.U [.x (iZ (-1)),.x (.bool false)] [4,7,33] ⟨st,st,yCl⟩ ?_;intro y D l;repeat refine Uz ?_
   refine VI l.ev ?_;refine wp_exit ?_;dsimp only[Exit.then,Yu];rw[yCj rfl];repeat refine Uz ?_
   refine l.T [.x (tv s),.c (pv (s.1*(inv s.2.2*inv s.2.2)) (s.2.1*(inv s.2.2*inv s.2.2)*inv s.2.2)),.u 0] [] [(0,2,ws (s.1*(inv s.2.2*inv s.2.2))++(ws (s.2.1*(inv s.2.2*inv s.2.2)*inv s.2.2)))] [ws (s.1*(inv s.2.2*inv s.2.2))++(ws (s.2.1*(inv s.2.2*inv s.2.2)*inv s.2.2)),C,tw s] [4] ⟨ld iF i117,cl (QZ F s),RG.pt i109,yCl⟩ ?_;intro A B f;refine Wp ?_;refine UE (v:=pv (s.1*(inv s.2.2*inv s.2.2)) (s.2.1*(inv s.2.2*inv s.2.2)*inv s.2.2)) (aI f.st 4 93 rfl 0 _ rfl (f.at (s:=(.p 0 0))) gU i109) f.sl.defers ?_;exact⟨_,rfl,f.st.bel.below,s,J.symm,rfl⟩
  ·obtain⟨q,rfl⟩:∃q,m=q+1:=⟨m-1,oM⟩
   have hq:q<257:=oM;replace q8:b.tmps[8]? = some (iZ q):=by rw[q8];congr 2;omega
   obtain⟨s,J⟩:∃s,iH ns xs ys N (257-(q+1))=s:=⟨_,rfl⟩
   rw[J]at I;obtain⟨s2,h6⟩:∃t,twJ s=t:=⟨_,rfl⟩
   have kw:=h6 ▸ Ns F s;have O:iH ns xs ys N (257-q)=inn ns xs ys s2 q N:=by
    rw[show 257-q=257-(q+1)+1 by omega];show inn ns xs ys (twJ (iH ns xs ys N (257-(q+1)))) (256-(257-(q+1))) N=_;rw[J,h6,show 256-(257-(q+1))=q by omega]
   have b9:RG.M w w.heap.size [] 62 [RG.z 8,C,tw s] [z,x,M] [(4,.p 0 0),(5,.s 1 N N),(7,.p 2 0),(8,.v (iZ q))] b _:=⟨I,ko,⟨q4,q5,q7,q8,yCl⟩⟩
   repeat refine Uz ?_
   refine b9.U [.x (iZ q),.x (.bool true)] [4,5,7,8,33] ⟨st,aP rfl .geq 3 3 32 (iZ q) (iZ 0) (.bool true) rfl rfl sx (λw=>kR) (geq0' q),yCl⟩ ?_;intro bu c6 kp;repeat refine Uz ?_
   refine VE kp.ev ?_;refine WS ?_;refine Uz ?_;refine XH ?_;repeat refine Uz ?_
   refine kp.T [.x (tv s),.c (tv s2),.u 2] [] [(2,2,tw s2)] [RG.z 8,C,tw s2] [4,5,7,8] ⟨ld iF i117,cl kw,RG.pt i117,yCl⟩ ?_;intro bs bp bc;repeat refine Uz ?_
   refine bc.U [.s (.s 1 N N),.x (iZ N),.x (iZ 0)] [4,5,7,8,39,40] ⟨st,fQ rfl 38 (.s 1 N N) (iZ N) rfl sx (λa w=>kR) (λμ w=>kR),st,yCl⟩ ?_;intro H bn A;have k1:H.tmps[4]? = some (jZ z):=A.at (s:=(.p 0 0));have hg:H.tmps[5]? = some (sZ x N N):=A.at (s:=(.s 1 N N));have he:H.tmps[7]? = some (jZ M):=A.at (s:=(.p 2 0));have k2:H.tmps[8]? = some (iZ q):=A.at (s:=(.v (iZ q)));have S:H.tmps[39]? = some (iZ N):=A.at (s:=(.v (iZ N)));have Z:H.tmps[40]? = some (iZ 0):=A.at (s:=(.v (iZ 0)));repeat refine Uz ?_
   refine XH ?_;refine Ze (λm a wr=>∃i,i+m=N/\Sl a 62/\a.tmps[4]? = some (jZ z)/\a.tmps[5]? = some (sZ x N N)/\a.tmps[7]? = some (jZ M)/\a.tmps[8]? = some (iZ q)/\a.tmps[39]? = some (iZ N)/\a.tmps[40]? = some (iZ i)/\RG.St w w.heap.size [] [[uZ 0,uZ 0,uZ 0,uZ 0,uZ 0,uZ 0,uZ 0,uZ 0],C,tw (inn ns xs ys s2 q i)] [z,x,M] wr) N ⟨0,oM,A.sl,k1,hg,he,k2,S,Z,A.st⟩ ?_;intro m' c wr;rintro⟨i,bk,hc,r4,r5,r7,r8,hl,k3,T⟩;obtain⟨s,D⟩:∃s,inn ns xs ys s2 q i=s:=⟨_,rfl⟩
   rw[D]at T;by_cases p:i<N
   ·obtain⟨h1,h2⟩:=b2 i p;obtain⟨d,W⟩:∃d,eY (ns i) q=d:=⟨_,rfl⟩
    have y:=W ▸ h1 q hq;have kd:C≠[]:=by intro h;rw[h]at y;simp at y
    have f:inn ns xs ys s2 q (i+1)=if d=0 then s else plJ s (tmJ (xs i) (ys i) d):=by rw[<-D,<-W];rfl
    by_cases R:d=0
    ·rw[yCj R]at f;rw[R]at y;have k9:RG.M w w.heap.size [] 62 [RG.z 8,C,tw s] [z,x,M] [(4,.p 0 0),(5,.s 1 N N),(7,.p 2 0),(8,.v (iZ q)),(39,.v (iZ N)),(40,.v (iZ i))] c _:=⟨T,hc,⟨r4,r5,r7,r8,hl,k3,yCl⟩⟩
     repeat refine Uz ?_
     refine k9.U [.x (.bool true)] [4,5,7,8,39,40,41] ⟨aQ rfl .lss 3 3 40 39 (iZ i) (iZ N) (.bool true) rfl rfl sx sx (λw=>kR) (gA p),yCl⟩ ?_;intro ky bi K;repeat refine Uz ?_
     refine VE K.ev ?_;refine WS ?_;refine Uz ?_;refine XH ?_;repeat refine Uz ?_
     refine K.U [.x (iZ i),.x (iZ i)] [4,5,7,8,9,39,40] ⟨st,st,yCl⟩ ?_;intro b3 kx hw;repeat refine Uz ?_
     refine hw.U [.s (.s 1 N N),.x (iZ i),.x (iZ q),.s (.p 1 (353*i)),.s (.p 1 ((353*i)+96)),.s (.p 1 (((353*i)+96)+q)),.x (.int .i8 0),.x (.int .i8 0)] [4,5,7,8,10,39,40] ⟨st,st,st,bD rfl 182 43 44 rfl (.s 1 N N) (iZ i) sx sx (λμ w=>FS _ _ _ i p w),st,bD rfl 188 47 45 rfl (.p 1 ((353*i)+96)) (iZ q) sx sx (λμ w=>J6 _ _ q hq w),yK rfl 1 (((353*i)+96)+q) _ rfl rfl kR 187 48 rfl (.int .i8 0) rfl sx y QE,st,yCl⟩ ?_;intro kv b7 k5;repeat refine Uz ?_
     refine k5.U [.x (.int .i8 0),.x (.bool false)] [4,5,7,8,39,40,51] ⟨st,aP rfl .neq 187 187 50 (.int .i8 0) (.int .i8 0) (.bool false) rfl rfl sx (λw=>kR) Ro,yCl⟩ ?_;intro bb b5 Q;repeat refine Uz ?_
     refine VI Q.ev ?_;refine WS ?_;repeat refine Uz ?_
     refine Q.U [.x (iZ ((i+1:Nat):Int)),.x (iZ ((i+1:Nat):Int))] [4,5,7,8,39,40] ⟨aP rfl .add 3 3 40 (iZ i) (iZ 1) (iZ ((i+1:Nat):Int)) rfl rfl sx (λw=>kR) (uQ i 1 oM oM),st,yCl⟩ ?_;intro B b6 l;have X:B.tmps[4]? = some (jZ z):=l.at (s:=(.p 0 0));have hb:B.tmps[5]? = some (sZ x N N):=l.at (s:=(.s 1 N N));have k0:B.tmps[7]? = some (jZ M):=l.at (s:=(.p 2 0));have kb:B.tmps[8]? = some (iZ q):=l.at (s:=(.v (iZ q)));have u:B.tmps[39]? = some (iZ N):=l.at (s:=(.v (iZ N)));have E:B.tmps[40]? = some (iZ ((i+1:Nat):Int)):=l.at (s:=(.v (iZ ((i+1:Nat):Int))));show ∃n',_;exact⟨m'-1,oM,i+1,oM,l.sl,X,hb,k0,kb,u,E,by rw[f];exact l.st⟩
    ·rw[yCk R]at f;have h7:d%2=1/\-15<=d/\d<=15:=by
      obtain⟨_,_,-,u⟩:=A8 (show ns i<2^256 from kk i p);rcases u.ho q with h|h
      ·exact absurd (W ▸ h) R
      ·exact W ▸ h
     obtain⟨s3,h4⟩:∃t,tmJ (xs i) (ys i) d=t:=⟨_,rfl⟩
     obtain⟨s4,h5⟩:∃t,plJ s s3=t:=⟨_,rfl⟩
     have bg:=h5 ▸ Nz F s s3;have b8:∀(k:Nat) (w:Ur),k<w.heap.size->w.rangeAt k 0 C->UH prog 110 #[.pointer (some ⟨k,353*i,none⟩),.int .i8 d] w (rZ w λr w'=>r=tv s3):=λk w h9 hr =>
      h4 ▸ Lm F k (353*i) (xs i) (ys i) h7.1 h7.2 w h9 (λX u=>rV hr (λj E=>by rw[XB];exact h2 X j u (by rw[cJ]at E;exact E)))
     rw[h4,h5]at f;have k9:RG.M w w.heap.size [] 62 [RG.z 8,C,tw s] [z,x,M] [(4,.p 0 0),(5,.s 1 N N),(7,.p 2 0),(8,.v (iZ q)),(39,.v (iZ N)),(40,.v (iZ i))] c _:=⟨T,hc,⟨r4,r5,r7,r8,hl,k3,yCl⟩⟩
     repeat refine Uz ?_
     refine k9.U [.x (.bool true)] [4,5,7,8,39,40,41] ⟨aQ rfl .lss 3 3 40 39 (iZ i) (iZ N) (.bool true) rfl rfl sx sx (λw=>kR) (gA p),yCl⟩ ?_;intro ky bi K;repeat refine Uz ?_
     refine VE K.ev ?_;refine WS ?_;refine Uz ?_;refine XH ?_;repeat refine Uz ?_
     refine K.U [.x (iZ i),.x (iZ i)] [4,5,7,8,9,39,40] ⟨st,st,yCl⟩ ?_;intro b3 kx hw;repeat refine Uz ?_
     refine hw.U [.s (.s 1 N N),.x (iZ i),.x (iZ q),.s (.p 1 (353*i)),.s (.p 1 ((353*i)+96)),.s (.p 1 (((353*i)+96)+q)),.x (.int .i8 d),.x (.int .i8 d)] [4,5,7,8,9,10,39,40] ⟨st,st,st,bD rfl 182 43 44 rfl (.s 1 N N) (iZ i) sx sx (λμ w=>FS _ _ _ i p w),st,bD rfl 188 47 45 rfl (.p 1 ((353*i)+96)) (iZ q) sx sx (λμ w=>J6 _ _ q hq w),yK rfl 1 (((353*i)+96)+q) _ rfl rfl kR 187 48 rfl (.int .i8 d) rfl sx y QE,st,yCl⟩ ?_;intro kv b7 k5;repeat refine Uz ?_
     refine k5.U [.x (.int .i8 d),.x (.bool true)] [4,5,7,8,9,10,39,40,51] ⟨st,aP rfl .neq 187 187 50 (.int .i8 d) (.int .i8 0) (.bool true) rfl rfl sx (λw=>kR) (Rn R),yCl⟩ ?_;intro bb b5 Q;repeat refine Uz ?_
     refine VE Q.ev ?_;repeat refine Uz ?_
     refine Q.D [.x (tv s),.s (.s 1 N N),.x (iZ i),.s (.p 1 (353*i)),.x (.int .i8 d),.c (tv s3),.c (tv s4),.u 2] [] [(2,7,tw s4)] [RG.z 8,C,tw s4] [4,5,7,8,39,40] ⟨ld iF i117,st,st,bD rfl 182 53 54 rfl (.s 1 N N) (iZ i) sx sx (λμ w=>FS _ _ _ i p w),st,CE rfl 1 _ rfl rfl kR kd 110 55 56 (.p 1 (353*i)) (.int .i8 d) (tv s3) rfl (λa w=>kR) sx sx (λμ w h9 hr=>b8 (μ 1) w h9 hr),cl bg,RG.pt i117,yCl⟩ ?_;intro B b6 l;repeat refine Uz ?_
     refine l.U [.x (iZ ((i+1:Nat):Int)),.x (iZ ((i+1:Nat):Int))] [4,5,7,8,39,40] ⟨aP rfl .add 3 3 40 (iZ i) (iZ 1) (iZ ((i+1:Nat):Int)) rfl rfl sx (λw=>kR) (uQ i 1 oM oM),st,yCl⟩ ?_;intro E bl u;have hp:E.tmps[4]? = some (jZ z):=u.at (s:=(.p 0 0));have hu:E.tmps[5]? = some (sZ x N N):=u.at (s:=(.s 1 N N));have k6:E.tmps[7]? = some (jZ M):=u.at (s:=(.p 2 0));have hs:E.tmps[8]? = some (iZ q):=u.at (s:=(.v (iZ q)));have h3:E.tmps[39]? = some (iZ N):=u.at (s:=(.v (iZ N)));have X:E.tmps[40]? = some (iZ ((i+1:Nat):Int)):=u.at (s:=(.v (iZ ((i+1:Nat):Int))));show ∃n',_;exact⟨m'-1,oM,i+1,oM,u.sl,hp,hu,k6,hs,h3,X,by rw[f];exact u.st⟩
   ·have Q:i=N:=oM;rw[Q]at D;rw[D]at O;have R:RG.M w w.heap.size [] 62 [RG.z 8,C,tw s] [z,x,M] [(4,.p 0 0),(5,.s 1 N N),(7,.p 2 0),(8,.v (iZ q)),(39,.v (iZ N)),(40,.v (iZ i))] c _:=⟨T,hc,⟨r4,r5,r7,r8,hl,k3,yCl⟩⟩
    repeat refine Uz ?_
    refine R.U [.x (.bool false)] [4,5,7,8,41] ⟨aQ rfl .lss 3 3 40 39 (iZ i) (iZ N) (.bool false) rfl rfl sx sx (λw=>kR) (nH p),yCl⟩ ?_;intro W X K;repeat refine Uz ?_
    refine VI K.ev ?_;refine wp_exit ?_;dsimp only[Exit.then,Yu];rw[yCj rfl];repeat refine Uz ?_
    refine K.U [.x (iZ q),.x (iZ ((q:Int)-1)),.x (iZ ((q:Int)-1))] [4,5,7,8] ⟨st,aP rfl .sub 3 3 34 (iZ q) (iZ 1) (iZ ((q:Int)-1)) rfl rfl sx (λw=>kR) (sub1' q oM),st,yCl⟩ ?_;intro l bq f;have E:l.tmps[4]? = some (jZ z):=f.at (s:=(.p 0 0));have B:l.tmps[5]? = some (sZ x N N):=f.at (s:=(.s 1 N N));have u:l.tmps[7]? = some (jZ M):=f.at (s:=(.p 2 0));have y:l.tmps[8]? = some (iZ ((q:Int)-1)):=f.at (s:=(.v (iZ ((q:Int)-1))));show ∃n',_;exact⟨q,YG q,oM,f.sl,E,B,u,y,by rw[O];exact f.st⟩
def rt(m:Fin P):Option (Fin P):=if m.val^(P/4+1)%P*(m.val^(P/4+1)%P)%P=m.val then some (Xh P (even P (m.val^(P/4+1)%P))) else none
omit [NeZero P] in
theorem Ft{r:Nat}(k:0<P)(h:r<P):even P r<P:=by unfold even;split<;>omega
theorem LN{m y:Fin P}{v:Ut}(h:rt m=some y)(k:Four v (even P (m.val^(P/4+1)%P))):v=fv y:=by
 unfold rt at h;split at h
 ·obtain rfl:=Option.some.inj h;have:(Xh P (even P (m.val^(P/4+1)%P))).val=even P (m.val^(P/4+1)%P):=US (Ft (Yy P) (V5 _ (Yy P)));show v=nv _;rw[this];exact k.nv
 ·cases h
theorem Ix{m y:Fin P}(h:rt m=some y):m.val^(P/4+1)%P*(m.val^(P/4+1)%P)%P=m.val:=by
 unfold rt at h;split at h
 ·assumption
 ·cases h
theorem QS{m:Fin P}(h:rt m=none):¬m.val^(P/4+1)%P*(m.val^(P/4+1)%P)%P=m.val:=by
 unfold rt at h;split at h
 ·cases h
 ·assumption
theorem RootR.val{m:Fin P}{e:Ut}(h:RootR P m.val (m.val^(P/4+1)%P) e):(∀y,rt m=some y->e=.tuple #[fv y,.bool true])/\(rt m=none->e=.tuple #[fv (0:Fin P),.bool false]):=by
 obtain⟨j,l,i,g,ok,rfl,b,f,c⟩:=h;refine⟨λy k=>?_,λd=>?_⟩
 ·cases ok with
  | true=>rw[LN k (b rfl).2]
  | false=>exact absurd (Ix k) (f rfl)
 ·cases ok with
  | true=>exact absurd (b rfl).1 (QS d)
  | false =>
   obtain⟨rfl,rfl,rfl,rfl⟩:=c rfl;rw[<-lI];rfl
theorem Qk(h:Fld P){m y:Fin P}(e:rt m=some y):Gives 191 #[gv0,fv m] (.tuple #[fv y,.bool true]):=λw =>
 (CU 4294968273 0 0 P _ m.val h.gap h.p4 (h.four m) w).mono (by rintro e' w' ⟨v,rfl,b,k⟩;exact⟨_,rfl,b,k.val.1 y e⟩)
theorem Ql(h:Fld P){m:Fin P}(e:rt m=none):Gives 191 #[gv0,fv m] (.tuple #[fv (0:Fin P),.bool false]):=λw =>
 (CU 4294968273 0 0 P _ m.val h.gap h.p4 (h.four m) w).mono (by rintro e' w' ⟨v,rfl,b,k⟩;exact⟨_,rfl,b,k.val.2 e⟩)
def gl0:List Ut:=[uZ 4294968273,uZ 0,uZ 0,uZ 0]
theorem Ao(C:Fld P)(x y:Fin P)(p:rt (x*x*x+7)=some y):Gives 115 #[(fv x)] (.tuple #[pv x y,.bool true]):=by
 intro w;obtain⟨c1,g⟩:∃c,c=x*x:=⟨_,rfl⟩
 obtain⟨c2,i⟩:∃c,c=c1*x:=⟨_,rfl⟩
 obtain⟨k,e⟩:∃c,c=c2+(7:Fin P):=⟨_,rfl⟩
 have d:((.tuple #[pv x y,.bool true]):Ut)=(.tuple #[pv x y,.bool true]):=by
  subst_vars;rfl
 rw[<-d];go_enter func115,ntmps115;refine RG.M.enter [(0,.v (fv x))] 31 kR ?_;intro a0 n;repeat refine Uz ?_
 refine n.T [.m 0,.m 1,.x (.bool false)] [(0,ws x),(1,RG.z 8)] [] [ws x,RG.z 8] [1,2,3] ⟨mk 0 47,mk 1 93,st,yCl⟩ ?_;intro r J t K o;repeat refine Uz ?_
 refine o.T [.c gv0,.m 2,.u 2] [(1,RG.z 4)] [(2,2,gl0)] [ws x,RG.z 8,gl0] [1,2,3,4] ⟨cl bO,mk 2 120,RG.pt i79,yCl⟩ ?_;intro A a2 I q;repeat refine Uz ?_
 refine q.D [.x gv0,.x gv0,.x gv0,.x (fv x),.x (fv x),.c (fv c1),.x (fv x),.c (fv c2),.x (fv (7:Fin P)),.c (fv k),.m 3,.u 3] [(10,RG.z 4)] [(3,11,ws k)] [ws x,RG.z 8,gl0,ws k] [1,2,3,4,5] ⟨ld u79 i79,ld u79 i79,ld u79 i79,ld u85 i85,ld u85 i85,cl ((rO C x x).e g),ld u85 i85,cl ((rO C c1 x).e i),se (BK C),cl ((FZ C c2 (7:Fin P)).e e),mk 3 47,RG.pt i85,yCl⟩ ?_;intro D E G m;repeat refine Uz ?_
 refine m.T [.x gv0,.x (fv k),.c (.tuple #[fv y,.bool true]),.x (.tuple #[fv y,.bool true]),.x (fv y),.x (.bool true),.m 4,.u 4,.x (.bool true)] [(6,RG.z 4)] [(4,7,ws y)] [ws x,RG.z 8,gl0,ws k,ws y] [1,2,3,6,7] ⟨ld u79 i79,ld u85 i85,cl (f:=191) (args:=#[gv0,fv k]) (v:=(.tuple #[fv y,.bool true])) (Qk C (by subst_vars;exact p)),st,st,st,mk 4 47,RG.pt i85,st,yCl⟩ ?_;intro B a L l;repeat refine Uz ?_
 refine l.U [.x (.bool true),.x (.bool false)] [1,2,3,6,26] ⟨st,st,yCl⟩ ?_;intro z H j;repeat refine Uz ?_
 refine VI j.ev ?_;refine WS ?_;repeat refine Uz ?_
 refine j.T [.x (fv x),.x (fv y),.x (pv x y),.u 1,.x (.bool true)] [] [(1,3,ws x++(ws y))] [ws x,ws x++(ws y),gl0,ws k,ws y] [2,3] ⟨ld u85 i85,ld u85 i85,st,RG.pt i109,st,yCl⟩ ?_;intro F u b;refine Wp ?_;refine UE (v:=(.tuple #[pv x y,.bool true])) (cQ b.st 2 3 93 rfl 1 _ rfl (b.at (s:=(.p 1 0))) _ (b.at (s:=(.v (.bool true)))) gU i109) b.sl.defers ?_;exact⟨_,rfl,b.st.bel.below,rfl⟩
theorem Ap(C:Fld P)(x:Fin P)(p:rt (x*x*x+7)=none):Gives 115 #[(fv x)] (.tuple #[pv (0:Fin P) 0,.bool false]):=by
 intro w;obtain⟨c1,g⟩:∃c,c=x*x:=⟨_,rfl⟩
 obtain⟨c2,i⟩:∃c,c=c1*x:=⟨_,rfl⟩
 obtain⟨k,e⟩:∃c,c=c2+(7:Fin P):=⟨_,rfl⟩
 have d:((.tuple #[pv (0:Fin P) (0:Fin P),.bool false]):Ut)=(.tuple #[pv (0:Fin P) 0,.bool false]):=by
  subst_vars;rfl
 rw[<-d];go_enter func115,ntmps115;refine RG.M.enter [(0,.v (fv x))] 31 kR ?_;intro a0 n;repeat refine Uz ?_
 refine n.T [.m 0,.m 1,.x (.bool false)] [(0,ws x),(1,RG.z 8)] [] [ws x,RG.z 8] [1,2,3] ⟨mk 0 47,mk 1 93,st,yCl⟩ ?_;intro r I t J o;repeat refine Uz ?_
 refine o.T [.c gv0,.m 2,.u 2] [(1,RG.z 4)] [(2,2,gl0)] [ws x,RG.z 8,gl0] [1,2,3,4] ⟨cl bO,mk 2 120,RG.pt i79,yCl⟩ ?_;intro a a2 H q;repeat refine Uz ?_
 refine q.D [.x gv0,.x gv0,.x gv0,.x (fv x),.x (fv x),.c (fv c1),.x (fv x),.c (fv c2),.x (fv (7:Fin P)),.c (fv k),.m 3,.u 3] [(10,RG.z 4)] [(3,11,ws k)] [ws x,RG.z 8,gl0,ws k] [2,3,4,5] ⟨ld u79 i79,ld u79 i79,ld u79 i79,ld u85 i85,ld u85 i85,cl ((rO C x x).e g),ld u85 i85,cl ((rO C c1 x).e i),se (BK C),cl ((FZ C c2 (7:Fin P)).e e),mk 3 47,RG.pt i85,yCl⟩ ?_;intro B D F m;repeat refine Uz ?_
 refine m.T [.x gv0,.x (fv k),.c (.tuple #[fv (0:Fin P),.bool false]),.x (.tuple #[fv (0:Fin P),.bool false]),.x (fv (0:Fin P)),.x (.bool false),.m 4,.u 4,.x (.bool false)] [(6,RG.z 4)] [(4,7,ws (0:Fin P))] [ws x,RG.z 8,gl0,ws k,ws (0:Fin P)] [2,3,7] ⟨ld u79 i79,ld u85 i85,cl (f:=191) (args:=#[gv0,fv k]) (v:=(.tuple #[fv (0:Fin P),.bool false])) (Ql C (by subst_vars;exact p)),st,st,st,mk 4 47,RG.pt i85,st,yCl⟩ ?_;intro A z K l;repeat refine Uz ?_
 refine l.U [.x (.bool false),.x (.bool true)] [2,3,26] ⟨st,st,yCl⟩ ?_;intro y G j;repeat refine Uz ?_
 refine VE j.ev ?_;repeat refine Uz ?_
 refine j.T [.x (pv (0:Fin P) (0:Fin P)),.u 1,.x (.bool false)] [] [(1,1,ws (0:Fin P)++(ws (0:Fin P)))] [ws x,ws (0:Fin P)++(ws (0:Fin P)),gl0,ws k,ws (0:Fin P)] [2,3] ⟨se (gI (P:=P)),RG.pt i109,st,yCl⟩ ?_;intro E u b;refine Wp ?_;refine UE (v:=(.tuple #[pv (0:Fin P) (0:Fin P),.bool false])) (cQ b.st 2 3 93 rfl 1 _ rfl (b.at (s:=(.p 1 0))) _ (b.at (s:=(.v (.bool false)))) gU i109) b.sl.defers ?_;exact⟨_,rfl,b.st.bel.below,rfl⟩
theorem OV(C:Fld P)(x y:Fin P):Gives 227 #[(pv x y)] (pv x (0-y)):=by
 intro w;obtain⟨c1,d⟩:∃c,c=(0:Fin P)-y:=⟨_,rfl⟩
 have k:((pv x c1):Ut)=(pv x (0-y)):=by
  subst_vars;rfl
 rw[<-k];go_enter func227,ntmps227;refine RG.M.enter [(0,.v (pv x y))] 11 kR ?_;intro a0 e;repeat refine Uz ?_
 refine e.T [.m 0,.m 1] [(0,ws x++(ws y)),(1,RG.z 8)] [] [ws x++(ws y),RG.z 8] [1,2] ⟨mk 0 93,mk 1 93,yCl⟩ ?_;intro g i j l f;repeat refine Uz ?_
 refine f.D [.s (.p 0 0),.x (fv x),.c gv0,.x (fv (0:Fin P)),.s (.p 0 4),.x (fv y),.c (fv c1),.x (pv x c1),.u 1] [] [(1,8,ws x++(ws c1))] [ws x++(ws y),ws x++(ws c1)] [2] ⟨st,ld u85 i85,cl bO,se (lI (P:=P)),st,ld u85 i85,cl ((Ks C (0:Fin P) y).e d),st,RG.pt i109,yCl⟩ ?_;intro a2 m b;refine Wp ?_;refine UE (v:=(pv x c1)) (aI b.st 2 93 rfl 1 _ rfl (b.at (s:=(.p 1 0))) gU i109) b.sl.defers ?_;exact⟨_,rfl,b.st.bel.below,rfl⟩
theorem gV{w W:Ur}{k j e a b c d f i g:Nat}(h:Kept w k [⟨e,0,a,b,c,d⟩,⟨k,0,f,i,g,0⟩,⟨j,0,0,0,0,0⟩] W):W.cell? ⟨e,0,none⟩=some (uZ a)/\W.cell? ⟨e,1,none⟩=some (uZ b)/\W.cell? ⟨e,2,none⟩=some (uZ c)/\W.cell? ⟨e,3,none⟩=some (uZ d)/\W.cell? ⟨k,0,none⟩=some (uZ f)/\W.cell? ⟨k,1,none⟩=some (uZ i)/\W.cell? ⟨k,2,none⟩=some (uZ g)/\W.cell? ⟨k,3,none⟩=some (uZ 0)/\Kept w k [⟨e,0,a,b,c,d⟩,⟨k,0,f,i,g,0⟩,⟨j,0,0,0,0,0⟩] W:=⟨h.head.c0,h.head.c1,h.head.c2,h.head.c3,h.tail.head.c0,h.tail.head.c1,h.tail.head.c2,h.tail.head.c3,h⟩
theorem nV{w W:Ur}{k j e a b c d f i g:Nat}(h:W.cell? ⟨e,0,none⟩=some (uZ a)/\W.cell? ⟨e,1,none⟩=some (uZ b)/\W.cell? ⟨e,2,none⟩=some (uZ c)/\W.cell? ⟨e,3,none⟩=some (uZ d)/\W.cell? ⟨k,0,none⟩=some (uZ f)/\W.cell? ⟨k,1,none⟩=some (uZ i)/\W.cell? ⟨k,2,none⟩=some (uZ g)/\W.cell? ⟨k,3,none⟩=some (uZ 0)/\Kept w k [⟨e,0,a,b,c,d⟩,⟨k,0,f,i,g,0⟩,⟨j,0,0,0,0,0⟩] W):Kept w k [⟨e,0,a,b,c,d⟩,⟨k,0,f,i,g,0⟩,⟨j,0,0,0,0,0⟩] W:=h.2.2.2.2.2.2.2.2
theorem BU{w W:Ur}{k j e a b c d f i g:Nat}{o:Obj}(h:W.cell? ⟨e,0,none⟩=some (uZ a)/\W.cell? ⟨e,1,none⟩=some (uZ b)/\W.cell? ⟨e,2,none⟩=some (uZ c)/\W.cell? ⟨e,3,none⟩=some (uZ d)/\W.cell? ⟨k,0,none⟩=some (uZ f)/\W.cell? ⟨k,1,none⟩=some (uZ i)/\W.cell? ⟨k,2,none⟩=some (uZ g)/\W.cell? ⟨k,3,none⟩=some (uZ 0)/\Kept w k [⟨e,0,a,b,c,d⟩,⟨k,0,f,i,g,0⟩,⟨j,0,0,0,0,0⟩] W):(W.alloc o).cell? ⟨e,0,none⟩=some (uZ a)/\(W.alloc o).cell? ⟨e,1,none⟩=some (uZ b)/\(W.alloc o).cell? ⟨e,2,none⟩=some (uZ c)/\(W.alloc o).cell? ⟨e,3,none⟩=some (uZ d)/\(W.alloc o).cell? ⟨k,0,none⟩=some (uZ f)/\(W.alloc o).cell? ⟨k,1,none⟩=some (uZ i)/\(W.alloc o).cell? ⟨k,2,none⟩=some (uZ g)/\(W.alloc o).cell? ⟨k,3,none⟩=some (uZ 0)/\Kept w k [⟨e,0,a,b,c,d⟩,⟨k,0,f,i,g,0⟩,⟨j,0,0,0,0,0⟩] (W.alloc o):=gV ((nV h).alloc o)
theorem AL{w W:Ur}{k j e a b c d f i g:Nat}{o:Obj}(h:W.drew.cell? ⟨e,0,none⟩=some (uZ a)/\W.drew.cell? ⟨e,1,none⟩=some (uZ b)/\W.drew.cell? ⟨e,2,none⟩=some (uZ c)/\W.drew.cell? ⟨e,3,none⟩=some (uZ d)/\W.drew.cell? ⟨k,0,none⟩=some (uZ f)/\W.drew.cell? ⟨k,1,none⟩=some (uZ i)/\W.drew.cell? ⟨k,2,none⟩=some (uZ g)/\W.drew.cell? ⟨k,3,none⟩=some (uZ 0)/\Kept w k [⟨e,0,a,b,c,d⟩,⟨k,0,f,i,g,0⟩,⟨j,0,0,0,0,0⟩] W.drew):(W.alloc o).drew.cell? ⟨e,0,none⟩=some (uZ a)/\(W.alloc o).drew.cell? ⟨e,1,none⟩=some (uZ b)/\(W.alloc o).drew.cell? ⟨e,2,none⟩=some (uZ c)/\(W.alloc o).drew.cell? ⟨e,3,none⟩=some (uZ d)/\(W.alloc o).drew.cell? ⟨k,0,none⟩=some (uZ f)/\(W.alloc o).drew.cell? ⟨k,1,none⟩=some (uZ i)/\(W.alloc o).drew.cell? ⟨k,2,none⟩=some (uZ g)/\(W.alloc o).drew.cell? ⟨k,3,none⟩=some (uZ 0)/\Kept w k [⟨e,0,a,b,c,d⟩,⟨k,0,f,i,g,0⟩,⟨j,0,0,0,0,0⟩] (W.alloc o).drew:=gV (((nV h).undrew).alloc o).drew
theorem Ko(pv:Ut)(p:Option Wu)(n cap:Nat)(w:Ur)(b d k:Nat)(c:pv=.agg #[uZ b,uZ d,uZ k,uZ 0])(f:n≠32):
 UH prog 59 #[pv,.slice p n cap] w (rZ w λe w'=>e=.tuple #[.agg #[uZ 0,uZ 0,uZ 0,uZ 0],.bool false]):=by
 subst c;go_enter func59,ntmps59;go_wp2;refine UE (v:=?v) ?hr rfl ?hR
 case hr=>simp[results,Tryz.results59,go_sem];rfl
 exact⟨_,rfl,below2 _ _ _,rfl⟩
theorem yW(m j l P g o cap:Nat)(n:Bs)(hG:Gap m j l P)(w:Ur)(X:n.size=32)(hc:32<=cap)(S:g<w.heap.size)(W:Holds encB w g o n):
 UH prog 59 #[.agg #[.int .u64 m,.int .u64 j,.int .u64 l,.int .u64 0],.slice (some ⟨g,o,none⟩) 32 cap] w
  (Ret λe w'=>Below w.heap.size w w'/\((beV n.toList<P/\∃v,e=.tuple #[v,.bool true]/\Four v (beV n.toList))\/(P<=beV n.toList/\e=.tuple #[.agg #[.int .u64 0,.int .u64 0,.int .u64 0,.int .u64 0],.bool false]))):=by
 have D:Hid (Gap m j l P):=hG;have M:Hid (Holds encB w g o n):=W;have HS:Hid (n.size=32):=X;clear hG W X;go_enter func59,ntmps59;go_wp2_with fail
 have PR:=(At4.made w 120 m j l 0 rfl).alloc (.cells #[.int .u64 0,.int .u64 0,.int .u64 0,.int .u64 0] 47);have R:=At4.made (w.alloc (.cells #[.int .u64 m,.int .u64 j,.int .u64 l,.int .u64 0] 120)) 47 0 0 0 0 (UB _ _);have r:=((Kept.mk1 (below2 w (.cells #[.int .u64 m,.int .u64 j,.int .u64 l,.int .u64 0] 120) (.cells #[.int .u64 0,.int .u64 0,.int .u64 0,.int .u64 0] 47)) (below2 w (.cells #[.int .u64 m,.int .u64 j,.int .u64 l,.int .u64 0] 120) (.cells #[.int .u64 0,.int .u64 0,.int .u64 0,.int .u64 0] 47)).size).cons R.blk).cons PR.blk;have u:=Holds.below M.out (below2 w (.cells #[.int .u64 m,.int .u64 j,.int .u64 l,.int .u64 0] 120) (.cells #[.int .u64 0,.int .u64 0,.int .u64 0,.int .u64 0] 47)) S;clear PR R;generalize Xt _ _=W0 at r u⊢;refine(kK (some ⟨g,o,none⟩) g o 32 cap n _ (Uw 32) hc HS.out (UX ⟨rfl,u⟩)).mono ?_;rintro e L ⟨v,rfl,i,Q⟩;obtain⟨a,b,c,d,rfl,ha,hb,O,hd,I⟩:=id Q;have H:Hid (Four _ _):=Q;have N:=r.call i;clear I Q i r u;go_wp2_with fail
 have f:=(N.alloc (.cells #[.int .u64 a,.int .u64 b,.int .u64 c,.int .u64 d] 47)).cons (At4.made L 47 a b c d rfl).blk;have C:L.heap.size≠w.heap.size:=V8 N.head.lt;clear N;generalize Xt _ _=W1 at f⊢;generalize L.heap.size=y at f C⊢;generalize J:w.heap.size+1=F at f⊢;have K:Hid (w.heap.size<=F):=by unfold Hid;omega
 generalize V:w.heap.size=q at f K S C⊢;have Y:Hid (w.heap.size=q):=V;clear V J
 go_cut [8] (λs8 wx=>∃k:Nat,s8=.int .u64 k/\k<=1/\Hid (∃t,t<top/\t+top*k=beV n.toList+val m j l 0)/\Kept w q [⟨y,0,a,b,c,d⟩,⟨q,0,m,j,l,0⟩,⟨F,0,0,0,0,0⟩] wx)
 case first =>
  go_region_held3 (λw'=>w'.cell? ⟨y,0,none⟩=some (.int .u64 a)/\w'.cell? ⟨y,1,none⟩=some (.int .u64 b)/\w'.cell? ⟨y,2,none⟩=some (.int .u64 c)/\w'.cell? ⟨y,3,none⟩=some (.int .u64 d)/\w'.cell? ⟨q,0,none⟩=some (.int .u64 m)/\w'.cell? ⟨q,1,none⟩=some (.int .u64 j)/\w'.cell? ⟨q,2,none⟩=some (.int .u64 l)/\w'.cell? ⟨q,3,none⟩=some (.int .u64 0)/\Kept w q [⟨y,0,a,b,c,d⟩,⟨q,0,m,j,l,0⟩,⟨F,0,0,0,0,0⟩] w') (first|(with_reducible exact gV f)|(with_reducible exact gV f.drew)|(with_reducible exact AL (by assumption))|(with_reducible exact BU (by assumption))|(with_reducible exact gV (f.alloc _))|(with_reducible exact gV (f.set4' B (λx hx=>V8 (E x hx)) _ _ _ _))|(with_reducible exact gV (f.alloc _).drew)|(with_reducible exact gV (f.set4' B (λx hx=>V8 (E x hx)) _ _ _ _).drew)|fail) (first|(go_at_call 127;refine(jN _ _ H.out _).mono ?_;rintro e w2 ⟨v,rfl,i,rfl⟩;(try(with_reducible have A:=T.call i;clear T;have T:=A;clear A));(try(first|(with_reducible have T:=(At4.made _ 118 0 0 0 0 rfl).call i)|(with_reducible have T:=(At4.made _ 118 0 0 0 0 rfl).drew.call i));have E:=f.lts;have B:=f.le);have p:=Kept.call (nV (by assumption)) i;clear f;have f:=p;clear p i)|(go_at_call 126;refine(qV _ _ _ _ H.out (Four.mk D.h0 D.h1 D.h2 dC rfl) _).mono ?_;rintro e w2 ⟨v,rfl,i,v2,t,k,rfl,s,z,U⟩;obtain⟨a',b',c',d',rfl,Z,h7,O,h9,I⟩:=id s;have HT:Hid (t<top/\t+top*k=beV n.toList+val m j l 0):=⟨s.lt,U⟩;clear I U s;(try(with_reducible have A:=T.call i;clear T;have T:=A;clear A));(try(first|(with_reducible have T:=(At4.made _ 118 0 0 0 0 rfl).call i)|(with_reducible have T:=(At4.made _ 118 0 0 0 0 rfl).drew.call i));have E:=f.lts;have B:=f.le);have p:=Kept.call (nV (by assumption)) i;clear f;have f:=p;clear p i;(try(obtain⟨h5,h3,hi,hj,tf⟩:=id T;have zt:=T.lt))))
  all_goals (try go_wp2)
  all_goals (have G:Hid (∃t,t<top/\t+top*k=beV n.toList+val m j l 0):=⟨t,HT.out⟩)
  all_goals (go_meet;first|(with_reducible exact⟨k,rfl,z,G,f.alloc _⟩)|(with_reducible exact⟨k,rfl,z,G,(f.alloc _).drew⟩)|(with_reducible exact⟨k,rfl,z,G,f.set4' B (λx hx=>V8 (E x hx)) _ _ _ _⟩)|(with_reducible exact⟨k,rfl,z,G,(f.set4' B (λx hx=>V8 (E x hx)) _ _ _ _).drew⟩)|fail)
 case rest =>
  clear f;obtain⟨k,rfl,z,U,f⟩:=hcut;have B:k=0\/k=1:=oM;rcases B with rfl|rfl
  ·obtain⟨h8,Z,h6,h4,xf⟩:=f.head.at4;obtain⟨s,G,E,A,rf⟩:=f.tail.tail.head.at4;have z1:=f.tail.tail.head.lt;go_wp2;have p:=f.tail.tail.head.at4.self4 a b c d;unfold set4 at p;refine UE (v:=?v0) ?hr0 rfl ?hR0
   case hr0=>simp[results,Tryz.results59,go_sem,p.c0,p.c1,p.c2,p.c3];rfl
   refine⟨_,rfl,?_,U4 ⟨?_,_,rfl,H.out⟩⟩
   ·rw[Y.out];exact aL f.bl K.out _ _ _ _
   ·obtain⟨t,J,h2⟩:=U.out;have:=D.hP;omega
  ·obtain⟨s,G,E,A,rf⟩:=f.tail.tail.head.at4;have z1:=f.tail.tail.head.lt;go_wp2;have p:At4 (set4 wc F (.int .u64 0) (.int .u64 0) (.int .u64 0) (.int .u64 0)) F 0 0 0 0:=f.tail.tail.head.at4.self4 0 0 0 0;unfold set4 at p;refine UE (v:=?v1) ?hr1 rfl ?hR1
   case hr1=>simp[results,Tryz.results59,go_sem,p.c0,p.c1,p.c2,p.c3];rfl
   refine⟨_,rfl,?_,UX ⟨?_,rfl⟩⟩
   ·rw[Y.out];exact aL f.bl K.out _ _ _ _
   ·obtain⟨t,J,h2⟩:=U.out;have:=D.hP;omega
def Arg(w:Ur)(v:Ut)(k:Bs):Prop:=∃(p:Option Wu) (n cap:Nat),v=.slice p n cap/\k.size=n/\(n=32->∃g o,p=some ⟨g,o,none⟩/\32<=cap/\g<w.heap.size/\Holds encB w g o k)
theorem Arg.below{w c:Ur}{v:Ut}{k:Bs}(h:Arg w v k)(d:kZ w c):Arg c v k:=by
 obtain⟨p,n,cap,rfl,i,m⟩:=h;refine⟨p,n,cap,rfl,i,λl=>?_⟩;obtain⟨g,o,e,f,b,j⟩:=m l;exact⟨g,o,e,f,Ux b d.size,Holds.below j d b⟩
def Args(w:Ur)(q:Option Wu)(n:Nat)(L:Nat->Bs):Prop:=0<n->∃k,q=some (aZ k)/\k<w.heap.size/\∀j,j<n->∃v,w.cell? ⟨k,j,none⟩=some v/\Arg w v (L j)
end
section
theorem u131:(prog.underlying 102).map (·.isRow)=some true:=kR
theorem i131:(prog.info? 102).map (·.size)=some 33:=kR
theorem u5:(prog.underlying 5).map (·.isRow)=some false:=kR
theorem Ou:prog.underlying 102=some (.array 33 5):=kR
theorem Te:prog.underlying 5=some (.int .u8):=kR
theorem cells5:prog.cellsOf 5=1:=kR
theorem QN(g o cap:Nat)(k:33<=cap)(w:Ur):(Instr.sliceAt 23 (.slice (some ⟨g,o,none⟩) 33 cap) (some (iZ 1)) none none).run prog w=.ok (.slice (some ⟨g,o+1,none⟩) 32 (cap-1)) w:=by
 go_simp;omega
theorem NZ(g o cap:Nat)(w:Ur):(Instr.arrayAt 102 (.slice (some ⟨g,o,none⟩) 33 cap)).run prog w=.ok (oZ g o) w:=kR
theorem Ei(g o n cap:Nat)(k:0<n)(w:Ur):(Vl 23 (.slice (some ⟨g,o,none⟩) n cap) (iZ 0)).run prog w=.ok (oZ g o) w:=by
 go_simp
theorem NA(xs:Array Ut)(i:Nat)(v:Ut)(h:xs[i]? = some v)(w:Ur):(part 5 xs i).run prog w=.ok v w:=by
 go_simp
theorem eqI(xs ys:Array Ut)(a b:Nat->Int)(D:Nat)(w:Ur):∀(k:List Nat),(∀i∈k,xs[i]? = some (.int .u8 (a i)))->(∀i∈k,ys[i]? = some (.int .u8 (b i))) ->
 (yA7 (D+1) 5 1 xs ys k).run prog w=.ok (decide (∀i∈k,a i=b i)) w
 | [],_,_=>by
  rw[yA7];simp
 | i :: k,hx,hy=>by
  have d:=eqI xs ys a b D w k (λj c=>hx j (Vb _ c)) (λj c=>hy j (Vb _ c));have p1:=NA xs (i*1) _ (by rw[XR];exact hx i Vu) w;have p2:=NA ys (i*1) _ (by rw[XR];exact hy i Vu) w;have e:=run_equalIn_int (P:=prog) w D 5 .u8 .u8 (a i) (b i) Te;rw[yA7];simp only[Sem.run_bind,p1,p2,e,Vm];by_cases h:a i=b i
  ·simp only[h,beq_self_eq_true,Bool.not_true,Bool.false_eq_true,if_false,d,yAq,true_and]
  ·have f:(a i == b i)=false:=by simpa using h
   simp only[f,Bool.not_false,if_true,Sem.run_pure,yAq,h,false_and,decide_false]
def aA(k:Bs):List Ut:=k.toList.map encB
def z33:List Ut:=VB 33 (.int .u8 0)
theorem rN(k:Bs)(i:Nat)(h:i<k.size):(aA k)[i]? = some (.int .u8 (ub k[i]!)):=by
 unfold aA;rw[Vz,Vq,U0 h,getElem!_pos k i h];rfl
theorem eqz(k:Bs)(h:k.size=33)(w:Ur):(binOp .eql 102 (.agg (aA k).toArray) (.agg z33.toArray)).run prog w=.ok (.bool (decide (∀i∈VG 33,ub k[i]! = 0))) w:=by
 have c:(prog.info? 5).isSome=true:=kR;obtain⟨d,b⟩:=Vr.1 c;rw[run_eql_struct,run_equalIn_array w 9999 _ _ Ou b,cells5,
  eqI _ _ (λi=>ub k[i]!) (λ_=>0) 9998 w (VG 33) (λi c=>by
   rw[Vg];exact rN k i (by rw[h];exact V0.1 c)) (λi c=>by
   rw[Vg];unfold z33;rw[List.getElem?_replicate,yCj (V0.1 c)])]
 rfl
@[reducible] def tJ (bs:Bs):Prop:=∀i∈VG 33,ub bs[i]! = 0
theorem Sk{k:Bs}(h:k.size=33)(b:tJ k)(w:Ur):(binOp .eql 102 (.agg (aA k).toArray) (.agg z33.toArray)).run prog w=.ok (.bool true) w:=by rw[eqz k h,decide_eq_true (show ∀i∈VG 33,ub k[i]! = 0 from b)]
theorem So{k:Bs}(h:k.size=33)(b:¬tJ k)(w:Ur):(binOp .eql 102 (.agg (aA k).toArray) (.agg z33.toArray)).run prog w=.ok (.bool false) w:=by rw[eqz k h,decide_eq_false (show ¬ ∀i∈VG 33,ub k[i]! = 0 from b)]
theorem aB{k:Bs}(h:k.size=33):(aA k).length=33:=by unfold aA;rw[UQ,UK,h]
theorem Ec{k:Bs}{w:Ur}{g o:Nat}(c:Holds encB w g o k):w.rangeAt g o (aA k):=λj v hv=>by
 have b:j<k.size:=by
  have:=(UF.1 hv).1;unfold aA at this;rwa[UQ,UK]at this
 rw[rN k j b]at hv;rw[(c j b).1];exact hv
def uM(k:Bs):Bs:=k.extract 1 33
theorem nR{k:Bs}(h:k.size=33):(uM k).size=32:=by unfold uM;rw[Xx,h];rfl
theorem tl33_holds{k:Bs}{w:Ur}{g o:Nat}(h:k.size=33)(b:Holds encB w g o k):Holds encB w g (o+1) (uM k):=
 Holds.part b (by rw[nR h,h];decide) (λj c=>by
  rw[nR h]at c;unfold uM;rw[getElem!_pos _ j (by rw[Xx,h];omega),getElem!_pos _ (1+j) (by rw[h];omega),Array.getElem_extract])
variable {P:Nat}[NeZero P]
theorem Kl(C:Fld P){g o cap:Nat}{k:Bs}(d:k.size=32)(c:32<=cap){x:Fin P}(hx:beV k.toList=x.val){w:Ur}(i:g<w.heap.size)(j:Holds encB w g o k):
 UH prog 59 #[gv0,.slice (some ⟨g,o,none⟩) 32 cap] w (rZ w λe w'=>e=.tuple #[fv x,.bool true]):=
 (yW 4294968273 0 0 P g o cap k C.gap w d c i j).mono (by
  rintro e w' ⟨v,rfl,l,⟨f,m,rfl,b⟩|⟨f,rfl⟩⟩
  ·refine⟨_,rfl,l,?_⟩;rw[hx]at b;rw[b.nv]
  ·have:=x.isLt;omega)
theorem Kn(C:Fld P){g o cap:Nat}{k:Bs}(d:k.size=32)(c:32<=cap)(hx:¬beV k.toList<P){w:Ur}(f:g<w.heap.size)(i:Holds encB w g o k):
 UH prog 59 #[gv0,.slice (some ⟨g,o,none⟩) 32 cap] w (rZ w λe w'=>e=.tuple #[fv (0:Fin P),.bool false]):=
 (yW 4294968273 0 0 P g o cap k C.gap w d c f i).mono (by
  rintro e w' ⟨v,rfl,j,⟨b,m,rfl,l⟩|⟨b,rfl⟩⟩
  ·exact absurd b hx
  ·refine⟨_,rfl,j,?_⟩;rw[<-lI])
def rdx(P:Nat)[NeZero P](k:Bs):Fin P:=Xh P (beV (uM k).toList)
def rd(P:Nat)[NeZero P](k:Bs):Option (Fin P × Fin P):=
 if k.size=33 then
  if tJ k then some (0,0) else
  if ub k[0]! = 2\/ub k[0]! = 3 then
   if beV (uM k).toList<P then
    (rt (rdx P k*rdx P k*rdx P k+7)).map (λy=>(rdx P k,if ub k[0]! = 3 then 0-y else y))
   else none
  else none
 else none
def rdV:Option (Fin P × Fin P)->Ut
 | none=>.tuple #[pv (0:Fin P) 0,.bool false]
 | some p=>.tuple #[pv p.1 p.2,.bool true]
end
section
variable {P:Nat}[NeZero P]{N:Nat}
theorem OP(C:Fld P)(q:Option Wu)(n cap:Nat)(x:Fin P)(w:Ur)(p:¬n=33):UH prog 193 #[(.slice q n cap)] w (rZ w λe w'=>e=(.tuple #[pv (0:Fin P) 0,.bool false])):=by
 have c:∀w,(binOp .neq 3 (iZ n) (iZ 33)).run prog w=.ok (.bool true) w:=λw=>by
  have h:¬(n:Int)=33:=oM;go_simp
 go_enter func193,ntmps193;refine Hx (v0:=(.slice q n cap)) (n:=54) kR kR kR ?_;intro a0 d g;have b:=RG.St.begin w;have i:RG.M w w.heap.size [] 54 [] [] [(0,.v (.slice q n cap))] a0 _:=⟨b,d,⟨g,yCl⟩⟩
 repeat refine Uz ?_
 refine i.T [.m 0,.x (.bool false)] [(0,RG.z 8)] [] [RG.z 8] [0,2,3] ⟨mk 0 93,st,yCl⟩ ?_;intro l m u j;repeat refine Uz ?_
 refine j.U [.x (.slice q n cap),.x (iZ n),.x (.bool true)] [2,3,9] ⟨st,fQ rfl 7 (.v (.slice q n cap)) (iZ n) rfl sx (λa w=>kR) (λμ w=>kR),aP rfl .neq 3 3 8 (iZ n) (iZ 33) (.bool true) rfl rfl sx (λw=>kR) c,yCl⟩ ?_;intro a2 t f;repeat refine Uz ?_
 refine VE f.ev ?_;repeat refine Uz ?_
 refine f.T [.x (pv (0:Fin P) (0:Fin P)),.u 0,.x (.bool false)] [] [(0,1,ws (0:Fin P)++(ws (0:Fin P)))] [ws (0:Fin P)++(ws (0:Fin P))] [2,3] ⟨se (gI (P:=P)),RG.pt i109,st,yCl⟩ ?_;intro o r k;refine Wp ?_;refine UE (v:=(.tuple #[pv (0:Fin P) (0:Fin P),.bool false])) (cQ k.st 2 3 93 rfl 0 _ rfl (k.at (s:=(.p 0 0))) _ (k.at (s:=(.v (.bool false)))) gU i109) k.sl.defers ?_;exact⟨_,rfl,k.st.bel.below,rfl⟩
abbrev v33(g o cap:Nat):Ut:=.slice (some ⟨g,o,none⟩) 33 cap
theorem TA(C:Fld P)(g o cap:Nat)(k:Bs)(w:Ur)(l:k.size=33)(O:33<=cap)(c:g<w.heap.size)(J:Holds encB w g o k):UH prog 193 #[v33 g o cap] w (rZ w λe w'=>e=rdV (rd P k)):=by
 have E:=Ec J;have b:w.cell? ⟨g,o,none⟩=some (.int .u8 (ub k[0]!)):=by
  have:=(J 0 (by rw[l];decide)).1;rw[XB]at this;exact this
 go_enter func193,ntmps193;refine Hx (v0:=(v33 g o cap)) (n:=54) kR kR kR ?_;intro a0 L f0;have K:=RG.St.begin w;have M0:RG.M w w.heap.size [] 54 [] [] [(0,.v (v33 g o cap))] a0 _:=⟨K,L,⟨f0,yCl⟩⟩
 repeat refine Uz ?_
 refine M0.T [.m 0,.x (.bool false)] [(0,RG.z 8)] [] [RG.z 8] [0,2,3] ⟨mk 0 93,st,yCl⟩ ?_;intro j1 a1 w1 M1;repeat refine Uz ?_
 refine M1.U [.x (v33 g o cap),.x (iZ 33),.x (.bool false)] [0,2,3,9] ⟨st,fQ rfl 7 (.v (v33 g o cap)) (iZ 33) rfl sx (λa w=>kR) (λμ w=>kR),st,yCl⟩ ?_;intro a2 w2 N;repeat refine Uz ?_
 refine VI N.ev ?_;refine WS ?_;repeat refine Uz ?_
 unfold rd;rw[yCj l];by_cases H:tJ k
 ·rw[yCj H];refine N.U [.x (v33 g o cap),.x (oZ g o),.x (.agg (aA k).toArray),.x (.agg z33.toArray),.x (.bool true)] [2,3,15] ⟨st,CC rfl 102 11 (v33 g o cap) (oZ g o) rfl rfl sx (NZ g o cap),eH rfl g o c UY 102 12 rfl (aA k) rfl sx E u131 (by rw[aB l];exact i131),st,aQ rfl .eql 102 102 13 14 (.agg (aA k).toArray) (.agg z33.toArray) (.bool true) rfl rfl sx sx (λw=>kR) (Sk l H),yCl⟩ ?_;intro a3 w3 B;repeat refine Uz ?_
  refine VE B.ev ?_;repeat refine Uz ?_
  refine B.T [.x (pv (0:Fin P) (0:Fin P)),.u 0,.x (.bool true)] [] [(0,1,ws (0:Fin P)++(ws (0:Fin P)))] [ws (0:Fin P)++(ws (0:Fin P))] [2,3] ⟨se (gI (P:=P)),RG.pt i109,st,yCl⟩ ?_;intro R Z f;refine Wp ?_;refine UE (v:=(.tuple #[pv (0:Fin P) (0:Fin P),.bool true])) (cQ f.st 2 3 93 rfl 0 _ rfl (f.at (s:=(.p 0 0))) _ (f.at (s:=(.v (.bool true)))) gU i109) f.sl.defers ?_;exact⟨_,rfl,f.st.bel.below,rfl⟩
 rw[yCk H];refine N.U [.x (v33 g o cap),.x (oZ g o),.x (.agg (aA k).toArray),.x (.agg z33.toArray),.x (.bool false)] [0,2,3,15] ⟨st,CC rfl 102 11 (v33 g o cap) (oZ g o) rfl rfl sx (NZ g o cap),eH rfl g o c UY 102 12 rfl (aA k) rfl sx E u131 (by rw[aB l];exact i131),st,aQ rfl .eql 102 102 13 14 (.agg (aA k).toArray) (.agg z33.toArray) (.bool false) rfl rfl sx sx (λw=>kR) (So l H),yCl⟩ ?_;intro a3 w3 B;repeat refine Uz ?_
 refine VI B.ev ?_;refine WS ?_;repeat refine Uz ?_
 by_cases i:ub k[0]! = 2\/ub k[0]! = 3
 rotate_left
 ·rw[yCk i];generalize ub k[0]! = m at b i;have Y:¬m=2:=λh=>i (.inl h)
  have I:¬m=3:=λh=>i (.inr h)
  have d:∀w,(binOp .neq 5 (.int .u8 m) (.int .u8 2)).run prog w=.ok (.bool true) w:=λw=>by
   go_simp
  have j:∀w,(binOp .neq 5 (.int .u8 m) (.int .u8 3)).run prog w=.ok (.bool true) w:=λw=>by
   go_simp
  refine B.U [.x (v33 g o cap),.x (oZ g o),.x (.int .u8 m),.x (.bool true),.x (.bool true),.x (v33 g o cap),.x (oZ g o),.x (.int .u8 m),.x (.bool true),.x (.bool true)] [2,3,26] ⟨st,eM rfl 23 17 (iZ 0) rfl (.v (v33 g o cap)) sx (λμ w=>Ei g o 33 cap dC w),bM rfl g o c UY 5 18 rfl (.int .u8 m) rfl sx b u5,aP rfl .neq 5 5 19 (.int .u8 m) (.int .u8 2) (.bool true) rfl rfl sx (λw=>kR) d,st,st,eM rfl 23 22 (iZ 0) rfl (.v (v33 g o cap)) sx (λμ w=>Ei g o 33 cap dC w),bM rfl g o c UY 5 23 rfl (.int .u8 m) rfl sx b u5,aP rfl .neq 5 5 24 (.int .u8 m) (.int .u8 3) (.bool true) rfl rfl sx (λw=>kR) j,st,yCl⟩ ?_;intro R Z f;repeat refine Uz ?_
  refine VE f.ev ?_;repeat refine Uz ?_
  refine f.T [.x (pv (0:Fin P) (0:Fin P)),.u 0,.x (.bool false)] [] [(0,1,ws (0:Fin P)++(ws (0:Fin P)))] [ws (0:Fin P)++(ws (0:Fin P))] [2,3] ⟨se (gI (P:=P)),RG.pt i109,st,yCl⟩ ?_;intro Q X t;refine Wp ?_;refine UE (v:=(.tuple #[pv (0:Fin P) (0:Fin P),.bool false])) (cQ t.st 2 3 93 rfl 0 _ rfl (t.at (s:=(.p 0 0))) _ (t.at (s:=(.v (.bool false)))) gU i109) t.sl.defers ?_;exact⟨_,rfl,t.st.bel.below,rfl⟩
 rw[yCj i];rcases i with i|i
 case' inl=>refine B.u [.x 17 [] (v33 g o cap),.x 18 [(17,0)] (oZ g o),.x 19 [(18,1)] (.int .u8 2),.x 20 [(19,2)] (.bool false),.x 21 [(20,3)] (.bool false),⟨some 22,[],.v WP,.pass⟩,⟨some 23,[],.v WP,.pass⟩,⟨some 24,[],.v WP,.pass⟩,⟨some 25,[],.v WP,.pass⟩,.x 26 [(21,4),(25,8)] (.bool false)] [(0,.v (v33 g o cap)),(2,.p 0 0),(3,.v (.bool false)),(26,.v (.bool false))] ⟨st,eM rfl 23 17 (iZ 0) rfl (.v (v33 g o cap)) sx (λμ w=>Ei g o 33 cap dC w),bM rfl g o c UY 5 18 rfl (.int .u8 2) rfl sx (b.trans (by rw[i])) u5,st,st,dD rfl rfl,dD rfl rfl,dD rfl rfl,dD rfl rfl,st,yCl⟩ ?_
 case' inr=>refine B.U [.x (v33 g o cap),.x (oZ g o),.x (.int .u8 3),.x (.bool true),.x (.bool true),.x (v33 g o cap),.x (oZ g o),.x (.int .u8 3),.x (.bool false),.x (.bool false)] [0,2,3,26] ⟨st,eM rfl 23 17 (iZ 0) rfl (.v (v33 g o cap)) sx (λμ w=>Ei g o 33 cap dC w),bM rfl g o c UY 5 18 rfl (.int .u8 3) rfl sx (b.trans (by rw[i])) u5,st,st,st,eM rfl 23 22 (iZ 0) rfl (.v (v33 g o cap)) sx (λμ w=>Ei g o 33 cap dC w),bM rfl g o c UY 5 23 rfl (.int .u8 3) rfl sx (b.trans (by rw[i])) u5,st,st,yCl⟩ ?_
 all_goals
  intro R Z f;repeat refine Uz ?_
  refine VI f.ev ?_;refine WS ?_;repeat refine Uz ?_
  by_cases hx:beV (uM k).toList<P
  rotate_left
  ·rw[yCk hx];have A:∀w',BelX w.heap.size [] w w'->UH prog 59 #[gv0,.slice (some ⟨g,o+1,none⟩) 32 (cap-1)] w' (Ret λe z=>kZ w' z/\e=.tuple #[fv (0:Fin P),.bool false]):=λw' G=>Kn C (nR l) oM hx (Ux c G.size) (Holds.below (tl33_holds l J) G.below c)
   refine f.D [.c gv0,.x (v33 g o cap),.x (.slice (some ⟨g,o+1,none⟩) 32 (cap-1)),.c (.tuple #[fv (0:Fin P),.bool false]),.x (.tuple #[fv (0:Fin P),.bool false]),.x (fv (0:Fin P)),.x (.bool false),.m 1,.u 1,.x (.bool false)] [(7,RG.z 4)] [(1,8,ws (0:Fin P))] [RG.z 8,ws (0:Fin P)] [2,3,5] ⟨cl bO,st,uF rfl 23 30 (iZ 1) (v33 g o cap) (.slice (some ⟨g,o+1,none⟩) 32 (cap-1)) rfl rfl sx (QN g o cap O),kH rfl 59 29 31 gv0 (.slice (some ⟨g,o+1,none⟩) 32 (cap-1)) (.tuple #[fv (0:Fin P),.bool false]) rfl (λa w=>kR) sx sx A,st,st,st,mk 1 47,RG.pt i85,st,yCl⟩ ?_;intro j5 Q X t;repeat refine Uz ?_
   refine t.U [.x (.bool false),.x (.bool true)] [2,3,36] ⟨st,st,yCl⟩ ?_;intro a6 w6 D;repeat refine Uz ?_
   refine VE D.ev ?_;repeat refine Uz ?_
   refine D.T [.x (pv (0:Fin P) (0:Fin P)),.u 0,.x (.bool false)] [] [(0,1,ws (0:Fin P)++(ws (0:Fin P)))] [ws (0:Fin P)++(ws (0:Fin P)),ws (0:Fin P)] [2,3] ⟨se (gI (P:=P)),RG.pt i109,st,yCl⟩ ?_;intro V T p;refine Wp ?_;refine UE (v:=(.tuple #[pv (0:Fin P) (0:Fin P),.bool false])) (cQ p.st 2 3 93 rfl 0 _ rfl (p.at (s:=(.p 0 0))) _ (p.at (s:=(.v (.bool false)))) gU i109) p.sl.defers ?_;exact⟨_,rfl,p.st.bel.below,rfl⟩
  rw[yCj hx];have F:beV (uM k).toList=(rdx P k).val:=(US hx).symm;generalize rdx P k=x at F;have A:∀w',BelX w.heap.size [] w w'->UH prog 59 #[gv0,.slice (some ⟨g,o+1,none⟩) 32 (cap-1)] w' (Ret λe z=>kZ w' z/\e=.tuple #[fv x,.bool true]):=λw' G=>Kl C (nR l) oM F (Ux c G.size) (Holds.below (tl33_holds l J) G.below c)
  refine f.D [.c gv0,.x (v33 g o cap),.x (.slice (some ⟨g,o+1,none⟩) 32 (cap-1)),.c (.tuple #[fv x,.bool true]),.x (.tuple #[fv x,.bool true]),.x (fv x),.x (.bool true),.m 1,.u 1,.x (.bool true)] [(7,RG.z 4)] [(1,8,ws x)] [RG.z 8,ws x] [0,2,3,4,5] ⟨cl bO,st,uF rfl 23 30 (iZ 1) (v33 g o cap) (.slice (some ⟨g,o+1,none⟩) 32 (cap-1)) rfl rfl sx (QN g o cap O),kH rfl 59 29 31 gv0 (.slice (some ⟨g,o+1,none⟩) 32 (cap-1)) (.tuple #[fv x,.bool true]) rfl (λa w=>kR) sx sx A,st,st,st,mk 1 47,RG.pt i85,st,yCl⟩ ?_;intro j5 Q X t;repeat refine Uz ?_
  refine t.U [.x (.bool true),.x (.bool false)] [0,2,3,4,5,36] ⟨st,st,yCl⟩ ?_;intro a6 w6 D;repeat refine Uz ?_
  refine VI D.ev ?_;refine WS ?_;repeat refine Uz ?_
  cases hr:rt (x*x*x+7) with
  | none =>
   refine D.T [.x (fv x),.c (.tuple #[pv (0:Fin P) (0:Fin P),.bool false]),.x (.tuple #[pv (0:Fin P) (0:Fin P),.bool false]),.x (pv (0:Fin P) (0:Fin P)),.x (.bool false),.m 2,.u 2,.x (.bool false)] [(5,RG.z 8)] [(2,6,ws (0:Fin P)++(ws (0:Fin P)))] [RG.z 8,ws x,ws (0:Fin P)++(ws (0:Fin P))] [2,3,5,6] ⟨ld u85 i85,yL rfl 115 39 (fv x) (.tuple #[pv (0:Fin P) (0:Fin P),.bool false]) rfl (λa w=>kR) sx (Ap C x hr),st,st,st,mk 2 93,RG.pt i109,st,yCl⟩ ?_;intro j7 V T p;repeat refine Uz ?_
   refine p.u [.x 43 [] (.bool false),.x 44 [(43,0)] (.bool false),⟨some 45,[],.v WP,.pass⟩,⟨some 46,[],.v WP,.pass⟩,⟨some 47,[],.v WP,.pass⟩,⟨some 48,[],.v WP,.pass⟩,.x 49 [(44,1),(48,5)] (.bool false)] [(2,.p 0 0),(3,.v (.bool false)),(5,.v (.bool false)),(6,.p 2 0),(49,.v (.bool false))] ⟨st,st,dD rfl rfl,dD rfl rfl,dD rfl rfl,dD rfl rfl,st,yCl⟩ ?_;intro S w8 u;repeat refine Uz ?_
   refine VI u.ev ?_;refine WS ?_;repeat refine Uz ?_
   refine u.T [.x (pv (0:Fin P) (0:Fin P)),.x (.bool false),.u 0,.x (.bool false)] [] [(0,2,ws (0:Fin P)++(ws (0:Fin P)))] [ws (0:Fin P)++(ws (0:Fin P)),ws x,ws (0:Fin P)++(ws (0:Fin P))] [2,3] ⟨ld gU i109,st,RG.pt i109,st,yCl⟩ ?_;intro W U d;refine Wp ?_;refine UE (v:=(.tuple #[pv (0:Fin P) (0:Fin P),.bool false])) (cQ d.st 2 3 93 rfl 0 _ rfl (d.at (s:=(.p 0 0))) _ (d.at (s:=(.v (.bool false)))) gU i109) d.sl.defers ?_;exact⟨_,rfl,d.st.bel.below,rfl⟩
  | some y =>
   refine D.T [.x (fv x),.c (.tuple #[pv x y,.bool true]),.x (.tuple #[pv x y,.bool true]),.x (pv x y),.x (.bool true),.m 2,.u 2,.x (.bool true)] [(5,RG.z 8)] [(2,6,ws x++(ws y))] [RG.z 8,ws x,ws x++(ws y)] [0,2,3,5,6] ⟨ld u85 i85,yL rfl 115 39 (fv x) (.tuple #[pv x y,.bool true]) rfl (λa w=>kR) sx (Ao C x y hr),st,st,st,mk 2 93,RG.pt i109,st,yCl⟩ ?_;intro j7 V T p;repeat refine Uz ?_
   rw[Yv];by_cases I:ub k[0]! = 3
   ·rw[yCj I];generalize M:0-y=r;have q:Gives 227 #[pv x y] (pv x r):=M ▸ OV C x y;refine p.U [.x (.bool true),.x (.bool true),.x (v33 g o cap),.x (oZ g o),.x (.int .u8 3),.x (.bool true),.x (.bool true)] [2,3,5,6,49] ⟨st,st,st,eM rfl 23 45 (iZ 0) rfl (.v (v33 g o cap)) sx (λμ w=>Ei g o 33 cap dC w),bM rfl g o c UY 5 46 rfl (.int .u8 3) rfl sx (b.trans (by rw[I])) u5,st,st,yCl⟩ ?_;intro S w8 u;repeat refine Uz ?_
    refine VE u.ev ?_;repeat refine Uz ?_
    refine u.T [.x (pv x y),.c (pv x r),.u 2] [] [(2,2,ws x++(ws r))] [RG.z 8,ws x,ws x++(ws r)] [2,3,5,6] ⟨ld gU i109,cl q,RG.pt i109,yCl⟩ ?_;intro W U d;repeat refine Uz ?_
    refine d.T [.x (pv x r),.x (.bool true),.u 0,.x (.bool true)] [] [(0,2,ws x++(ws r))] [ws x++(ws r),ws x,ws x++(ws r)] [2,3] ⟨ld gU i109,st,RG.pt i109,st,yCl⟩ ?_;intro h1 h0 j;refine Wp ?_;refine UE (v:=(.tuple #[pv x r,.bool true])) (cQ j.st 2 3 93 rfl 0 _ rfl (j.at (s:=(.p 0 0))) _ (j.at (s:=(.v (.bool true)))) gU i109) j.sl.defers ?_;exact⟨_,rfl,j.st.bel.below,rfl⟩
   ·rw[yCk I];have Y:ub k[0]! = 2:=oM;refine p.U [.x (.bool true),.x (.bool true),.x (v33 g o cap),.x (oZ g o),.x (.int .u8 2),.x (.bool false),.x (.bool false)] [2,3,5,6,49] ⟨st,st,st,eM rfl 23 45 (iZ 0) rfl (.v (v33 g o cap)) sx (λμ w=>Ei g o 33 cap dC w),bM rfl g o c UY 5 46 rfl (.int .u8 2) rfl sx (b.trans (by rw[Y])) u5,st,st,yCl⟩ ?_;intro S w8 u;repeat refine Uz ?_
    refine VI u.ev ?_;refine WS ?_;repeat refine Uz ?_
    refine u.T [.x (pv x y),.x (.bool true),.u 0,.x (.bool true)] [] [(0,2,ws x++(ws y))] [ws x++(ws y),ws x,ws x++(ws y)] [2,3] ⟨ld gU i109,st,RG.pt i109,st,yCl⟩ ?_;intro W U d;refine Wp ?_;refine UE (v:=(.tuple #[pv x y,.bool true])) (cQ d.st 2 3 93 rfl 0 _ rfl (d.at (s:=(.p 0 0))) _ (d.at (s:=(.v (.bool true)))) gU i109) d.sl.defers ?_;exact⟨_,rfl,d.st.bel.below,rfl⟩
def Arg33(w:Ur)(v:Ut)(k:Bs):Prop:=∃(p:Option Wu) (n cap:Nat),v=.slice p n cap/\k.size=n/\(n=33->∃g o,p=some ⟨g,o,none⟩/\33<=cap/\g<w.heap.size/\Holds encB w g o k)
theorem Arg33.below{w c:Ur}{v:Ut}{k:Bs}(h:Arg33 w v k)(d:kZ w c):Arg33 c v k:=by
 obtain⟨p,n,cap,rfl,i,m⟩:=h;refine⟨p,n,cap,rfl,i,λl=>?_⟩;obtain⟨g,o,e,f,b,j⟩:=m l;exact⟨g,o,e,f,Ux b d.size,Holds.below j d b⟩
theorem mZ(C:Fld P)(v:Ut)(k:Bs)(w:Ur)(hv:Arg33 w v k):UH prog 193 #[v] w (rZ w λe w'=>e=rdV (rd P k)):=by
 obtain⟨p,n,cap,rfl,c,j⟩:=hv;by_cases b:n=33
 ·subst b;obtain⟨g,o,rfl,d,f,i⟩:=j rfl;exact TA C g o cap k w c d f i
 ·unfold rd;rw[yCk (by rw[c];exact b)];exact OP C p n cap 0 w b
def bx(n:Nat):Bs:=be32 (n%18446744073709551616) (n/18446744073709551616%18446744073709551616) (n/340282366920938463463374607431768211456%18446744073709551616) (n/6277101735386680763835789423207666416102355444464034512896%18446744073709551616)
theorem eE(n:Nat):(bx n).size=32:=by unfold bx;exact Al _ _ _ _
def mark(n:Nat):UInt8:=if n%2=1 then 3 else 2
def tD(x y:Fin P):Bs:=if x=0/\y=0 then UJ 33 0 else #[mark y.val]++bx x.val
theorem Gf(C:Fld P)(x:Fin P)(w:Ur):UH prog 117 #[fv x] w (rZ w λe w'=>∃g,e=sZ g 32 32/\w.heap.size<=g/\Holds encB w' g 0 (bx x.val)):=
 (As _ _ w (C.four x)).mono (by
  rintro e w' ⟨v,rfl,j,g,a,b,c,d,rfl,i,k,l⟩;refine⟨_,rfl,j,g,rfl,i,?_⟩;have f:fv x=.agg #[uZ ((x.val%18446744073709551616:Nat):Int),uZ ((x.val/18446744073709551616%18446744073709551616:Nat):Int),uZ ((x.val/340282366920938463463374607431768211456%18446744073709551616:Nat):Int),uZ ((x.val/6277101735386680763835789423207666416102355444464034512896%18446744073709551616:Nat):Int)]:=rfl;rw[f]at k;simp only[Value.agg.injEq,Array.mk.injEq,yB6.injEq,VZ.injEq,true_and,and_true,Int.ofNat_inj]at k;obtain⟨rfl,rfl,rfl,rfl⟩:=k;exact l)
theorem Oc(C:Fld P)(y:Fin P):Gives 116 #[fv y] (.bool (decide (y.val%2=1))):=λw =>
 (F6 _ _ (C.four y) w).mono (by rintro e w' ⟨v,rfl,k,rfl⟩;exact⟨_,rfl,k,rfl⟩)
theorem DN:(prog.info? 5).map (λi=>(i.zero,i.size,i.bytes))=some (some (.int .u8 0),1,1):=kR
theorem Hz:prog.underlying 23=some (.slice 5):=kR
def mL(w:Ur)(T:Bs)(e:Ut)(w':Ur):Prop:=∃g cap,e=sZ g 33 cap/\33<=cap/\w.heap.size<=g/\g<w'.heap.size/\Holds encB w' g 0 T
theorem TO(w:Ur):(XC 23 (iZ 33) (iZ 33)).run prog w=.ok (sZ w.heap.size 33 33) (w.alloc (.cells (madeCells #[.int .u8 0] 33) 5)):=
 yBE (P:=prog) 23 5 (.int .u8 0) 1 Hz DN rfl .i64 .i64 33 dC dC w
theorem Pl(w:Ur)(o:Obj):Holds encB ((w.alloc o).alloc (.cells (madeCells #[.int .u8 0] 33) 5)) (w.heap.size+1) 0 (UJ 33 0):=by
 have h:=Holds.made (enc:=encB) (w.alloc o) 5 33 (0:UInt8);rw[UB]at h;exact h
omit [NeZero P] in
theorem kT(x y:Fin P):pv x y=.agg #[uZ ((x.val%18446744073709551616:Nat):Int),uZ ((x.val/18446744073709551616%18446744073709551616:Nat):Int),uZ ((x.val/340282366920938463463374607431768211456%18446744073709551616:Nat):Int),uZ ((x.val/6277101735386680763835789423207666416102355444464034512896%18446744073709551616:Nat):Int),uZ ((y.val%18446744073709551616:Nat):Int),uZ ((y.val/18446744073709551616%18446744073709551616:Nat):Int),uZ ((y.val/340282366920938463463374607431768211456%18446744073709551616:Nat):Int),uZ ((y.val/6277101735386680763835789423207666416102355444464034512896%18446744073709551616:Nat):Int)]:=rfl
theorem D9(C:Fld P)(x y:Fin P)(g:x=0/\y=0)(w:Ur):UH prog 52 #[pv x y] w (rZ w λe w'=>mL w (UJ 33 0) e w'):=by
 have k:=JB C (x:=x) (y:=y) (z:=0) (t:=0) g;rw[<-gI,kT]at k;rw[kT];generalize ((x.val%18446744073709551616:Nat):Int)=a at k⊢;generalize ((x.val/18446744073709551616%18446744073709551616:Nat):Int)=b at k⊢;generalize ((x.val/340282366920938463463374607431768211456%18446744073709551616:Nat):Int)=c at k⊢;generalize ((x.val/6277101735386680763835789423207666416102355444464034512896%18446744073709551616:Nat):Int)=d at k⊢;generalize ((y.val%18446744073709551616:Nat):Int)=p at k⊢;generalize ((y.val/18446744073709551616%18446744073709551616:Nat):Int)=q at k⊢;generalize ((y.val/340282366920938463463374607431768211456%18446744073709551616:Nat):Int)=r at k⊢;generalize ((y.val/6277101735386680763835789423207666416102355444464034512896%18446744073709551616:Nat):Int)=s at k⊢;have j:=TO;generalize i:(UJ 33 0:Bs)=T;go_enter func52,ntmps52;go_wp2;go_ret;have f:=Pl w (.cells #[uZ a,uZ b,uZ c,uZ d,uZ p,uZ q,uZ r,uZ s] 93);rw[i]at f;exact⟨_,rfl,below2 _ _ _,_,33,rfl,oM,oM,by simp,f⟩
theorem Jp(w:Ur)(k g m:Nat)(B:Bs)(l:B.size=32)(o:w.cell? ⟨k,0,none⟩=some (.int .u8 m))(r:Holds encB w g 0 B)(q:m<256:=by decide):
 ∃(w':Ur) (cap:Nat),(Vt #[23,23] 23 #[sZ k 1 1,sZ g 32 32]).run prog w=.ok (sZ w.heap.size 33 cap) w'/\kZ w w'/\33<=cap/\w.heap.size<w'.heap.size/\Holds encB w' w.heap.size 0 (#[UM m]++B):=by
 obtain⟨i,p,d⟩:=Uy.1 DN;simp only[V6.injEq]at d;obtain⟨n,f,s⟩:=d;have e:=run_append_grow (P:=prog) w 23 23 5 i (.int .u8 0) Hz p n (aZ k) 1 1 [.int .u8 m] (by rw[f];rfl) (λj v b=>by
  cases j with
  | zero =>
   obtain rfl:VZ .u8 m=v:=by simpa using b
   rw[yBH];exact o
  | succ j=>simp at b) ⟨g,0,none⟩ 32 32 (B.toList.map encB) (by rw[f,UQ,UK,l]) (λj v b=>by
  have c:j<B.size:=by
   have:=(UF.1 b).1;rwa[UQ,UK]at this
  rw[yBH,(r j c).1];rw[Vz,Vq,U0 c]at b;rw[getElem!_pos B j c];exact b) dC dC (by rw[s];decide)
 refine⟨_,_,e,?_,?_,?_,?_⟩
 ·exact(UR _ w).drew.trans (aC w.drew _)
 ·exact grownCap_ge w (1+32) 1 5
 ·show w.drew.heap.size<(w.drew.alloc _).heap.size;rw[UB];exact YG _
 ·intro j b;have c:(#[UM m]++B).size=33:=by rw[VN,l];rfl
  refine⟨?_,Wv w.drew _ _ _⟩;show(w.drew.alloc _).cell? ⟨w.drew.heap.size,0+j,none⟩=_;rw[UD,Vd,getElem!_pos _ j b,XX (by
   rw[VN,VC,VC,UQ,UK];show j<1+B.size;omega)]
  cases j with
  | zero =>
   rw[XX (by simp),Z1 (by simp)];show some (VZ .u8 m)=some (encB (UM m));unfold encB;rw[mQ,US q]
  | succ i =>
   rw[YC (by simp),ZW (by simp),Vg,Vz,Vq];show Option.map encB B[i]? = some (encB B[i]);rw[U0 oM];rfl
theorem NF(w:Ur)(a b c d p q r s:Nat):Kept w w.heap.size [⟨w.heap.size,0,a,b,c,d⟩,⟨w.heap.size,4,p,q,r,s⟩] (w.alloc (.cells #[uZ a,uZ b,uZ c,uZ d,uZ p,uZ q,uZ r,uZ s] 93)):=by
 have F:=At8.made w 93 a b c d p q r s rfl;refine((Kept.mk1 (aC w _) (aC w _).size).cons ?_).cons ?_
 ·exact⟨F.c4,F.c5,F.c6,F.c7,F.fz⟩
 ·exact⟨F.c0,F.c1,F.c2,F.c3,F.fz⟩
theorem G5(C:Fld P)(x y:Fin P)(K:¬(x=0/\y=0))(ho:y.val%2=1)(w:Ur):UH prog 52 #[pv x y] w (rZ w λe w'=>mL w (#[3]++bx x.val) e w'):=by
 have k:=DW C (x:=x) (y:=y) (z:=0) (t:=0) K;rw[<-gI,kT]at k;rw[kT];have i:∀w,UH prog 116 #[.agg #[uZ ((y.val%18446744073709551616:Nat):Int),uZ ((y.val/18446744073709551616%18446744073709551616:Nat):Int),uZ ((y.val/340282366920938463463374607431768211456%18446744073709551616:Nat):Int),uZ ((y.val/6277101735386680763835789423207666416102355444464034512896%18446744073709551616:Nat):Int)]] w (rZ w λe w'=>e=.bool true):=λw=>by
  have h:=Oc C y w;rw[decide_eq_true ho]at h;exact h
 have f:∀w,UH prog 117 #[.agg #[uZ ((x.val%18446744073709551616:Nat):Int),uZ ((x.val/18446744073709551616%18446744073709551616:Nat):Int),uZ ((x.val/340282366920938463463374607431768211456%18446744073709551616:Nat):Int),uZ ((x.val/6277101735386680763835789423207666416102355444464034512896%18446744073709551616:Nat):Int)]] w (rZ w λe w'=>∃g,e=sZ g 32 32/\w.heap.size<=g/\Holds encB w' g 0 (bx x.val)):=Gf C x;have n:=eE x.val;generalize bx x.val=B at f n⊢;generalize x.val%18446744073709551616=a at k i f⊢;generalize x.val/18446744073709551616%18446744073709551616=b at k i f⊢;generalize x.val/340282366920938463463374607431768211456%18446744073709551616=c at k i f⊢;generalize x.val/6277101735386680763835789423207666416102355444464034512896%18446744073709551616=d at k i f⊢;generalize y.val%18446744073709551616=p at k i f⊢;generalize y.val/18446744073709551616%18446744073709551616=q at k i f⊢;generalize y.val/340282366920938463463374607431768211456%18446744073709551616=r at k i f⊢;generalize y.val/6277101735386680763835789423207666416102355444464034512896%18446744073709551616=s at k i f⊢;have U:=mk1 (k);go_enter func52,ntmps52;go_wp2_with fail
 have l:=NF w a b c d p q r s;generalize I:w.heap.size=X at l⊢;refine(i _).mono ?_;rintro e u ⟨v,rfl,H,rfl⟩;replace l:=l.call H;obtain⟨N,S,M,R,T⟩:=l.head;have zx:=l.head.lt;go_wp2_with fail
 refine(f _).mono ?_;rintro e J ⟨v,rfl,j,g,rfl,V,O⟩;have L:J.cell? ⟨u.heap.size,0,none⟩=some (.int .u8 3):=by
  rw[j.cell (p:=⟨u.heap.size,0,none⟩) (by show u.heap.size<_;rw[UB];omega),Vd];rfl
 have m:=UC l.le (UC (by rw[UB];omega) j.size);have A:=mk1 (((l.alloc _).call j).bl);obtain⟨W,Q,E,G,D,o,F⟩:=Jp J u.heap.size g 3 B n L O;go_wp2_with (at_builtin;refine WI _ rfl _ _ 23 23 rfl _ _ rfl rfl _ _ E ?_)
 go_ret;refine⟨_,rfl,?_,_,Q,rfl,D,?_,o,F⟩
 ·rw[I];exact A.trans (G.mono m)
 ·rw[I];exact m
theorem Eb(C:Fld P)(x y:Fin P)(K:¬(x=0/\y=0))(ho:¬y.val%2=1)(w:Ur):UH prog 52 #[pv x y] w (rZ w λe w'=>mL w (#[2]++bx x.val) e w'):=by
 have k:=DW C (x:=x) (y:=y) (z:=0) (t:=0) K;rw[<-gI,kT]at k;rw[kT];have i:∀w,UH prog 116 #[.agg #[uZ ((y.val%18446744073709551616:Nat):Int),uZ ((y.val/18446744073709551616%18446744073709551616:Nat):Int),uZ ((y.val/340282366920938463463374607431768211456%18446744073709551616:Nat):Int),uZ ((y.val/6277101735386680763835789423207666416102355444464034512896%18446744073709551616:Nat):Int)]] w (rZ w λe w'=>e=.bool false):=λw=>by
  have h:=Oc C y w;rw[decide_eq_false ho]at h;exact h
 have f:∀w,UH prog 117 #[.agg #[uZ ((x.val%18446744073709551616:Nat):Int),uZ ((x.val/18446744073709551616%18446744073709551616:Nat):Int),uZ ((x.val/340282366920938463463374607431768211456%18446744073709551616:Nat):Int),uZ ((x.val/6277101735386680763835789423207666416102355444464034512896%18446744073709551616:Nat):Int)]] w (rZ w λe w'=>∃g,e=sZ g 32 32/\w.heap.size<=g/\Holds encB w' g 0 (bx x.val)):=Gf C x;have n:=eE x.val;generalize bx x.val=B at f n⊢;generalize x.val%18446744073709551616=a at k i f⊢;generalize x.val/18446744073709551616%18446744073709551616=b at k i f⊢;generalize x.val/340282366920938463463374607431768211456%18446744073709551616=c at k i f⊢;generalize x.val/6277101735386680763835789423207666416102355444464034512896%18446744073709551616=d at k i f⊢;generalize y.val%18446744073709551616=p at k i f⊢;generalize y.val/18446744073709551616%18446744073709551616=q at k i f⊢;generalize y.val/340282366920938463463374607431768211456%18446744073709551616=r at k i f⊢;generalize y.val/6277101735386680763835789423207666416102355444464034512896%18446744073709551616=s at k i f⊢;have U:=mk1 (k);go_enter func52,ntmps52;go_wp2_with fail
 have l:=NF w a b c d p q r s;generalize I:w.heap.size=X at l⊢;refine(i _).mono ?_;rintro e u ⟨v,rfl,H,rfl⟩;replace l:=l.call H;obtain⟨N,S,M,R,T⟩:=l.head;have zx:=l.head.lt;go_wp2_with fail
 refine(f _).mono ?_;rintro e J ⟨v,rfl,j,g,rfl,V,O⟩;have L:J.cell? ⟨u.heap.size,0,none⟩=some (.int .u8 2):=by
  rw[j.cell (p:=⟨u.heap.size,0,none⟩) (by show u.heap.size<_;rw[UB];omega),Vd];rfl
 have m:=UC l.le (UC (by rw[UB];omega) j.size);have A:=mk1 (((l.alloc _).call j).bl);obtain⟨W,Q,E,G,D,o,F⟩:=Jp J u.heap.size g 2 B n L O;go_wp2_with (at_builtin;refine WI _ rfl _ _ 23 23 rfl _ _ rfl rfl _ _ E ?_)
 go_ret;refine⟨_,rfl,?_,_,Q,rfl,D,?_,o,F⟩
 ·rw[I];exact A.trans (G.mono m)
 ·rw[I];exact m
theorem vK(C:Fld P)(x y:Fin P)(w:Ur):UH prog 52 #[pv x y] w (rZ w λe w'=>mL w (tD x y) e w'):=by
 unfold tD mark;by_cases k:x=0/\y=0
 ·rw[yCj k];exact D9 C x y k w
 ·rw[yCk k];by_cases ho:y.val%2=1
  ·rw[yCj ho];exact G5 C x y k ho w
  ·rw[yCk ho];exact Eb C x y k ho w
theorem u23:(prog.underlying 23).map (·.isRow)=some false:=kR
theorem Nh(k o n c i:Nat)(b:i<n)(w:Ur):(Vl 24 (.slice (some ⟨k,o,none⟩) n c) (iZ i)).run prog w=.ok (.pointer (some ⟨k,o+i,none⟩)) w:=by
 go_simp
theorem Rz(N:Nat)(g:N<=512):∃C0:List Ut,C0.length=8*N/\∀w:Ur,(XC 100 (iZ N) (iZ N)).run prog w=.ok (sZ w.heap.size N N) (w.alloc (.cells C0.toArray 93)):=by
 have e:prog.underlying 100=some (.slice 93):=kR;have n:(prog.info? 93).map (λi=>(i.size,decide (i.bytes<=4000),i.zero.isSome))=some (8,true,true):=kR;obtain⟨i,b,k⟩:=Uy.1 n;simp only[V6.injEq,decide_eq_true_eq]at k;obtain⟨j,f,d⟩:=k;obtain⟨z,c⟩:=Vr.1 d;refine⟨(madeCells z.cells (N*8)).toList,by rw[UK,YI,Vv],λw=>?_⟩;have l:(i.bytes:Int)*(N:Int)<=281474976710656:=by
  have:i.bytes*N<=4000*512:=WQ f g;have m:((i.bytes*N:Nat):Int)<=281474976710656:=oM;rwa[Xw]at m
 have:=run_make (P:=prog) w 100 93 i z e b c .i64 .i64 (N:Int) (N:Int) oM oM l oM;rw[X0,j]at this;rw[XD];exact this
theorem TM(N:Nat)(g:N<=512):∃C0:List Ut,C0.length=4*N/\∀w:Ur,(XC 89 (iZ N) (iZ N)).run prog w=.ok (sZ w.heap.size N N) (w.alloc (.cells C0.toArray 47)):=by
 have e:prog.underlying 89=some (.slice 47):=kR;have n:(prog.info? 47).map (λi=>(i.size,decide (i.bytes<=4000),i.zero.isSome))=some (4,true,true):=kR;obtain⟨i,b,k⟩:=Uy.1 n;simp only[V6.injEq,decide_eq_true_eq]at k;obtain⟨j,f,d⟩:=k;obtain⟨z,c⟩:=Vr.1 d;refine⟨(madeCells z.cells (N*4)).toList,by rw[UK,YI,Vv],λw=>?_⟩;have l:(i.bytes:Int)*(N:Int)<=281474976710656:=by
  have:i.bytes*N<=4000*512:=WQ f g;have m:((i.bytes*N:Nat):Int)<=281474976710656:=oM;rwa[Xw]at m
 have:=run_make (P:=prog) w 89 47 i z e b c .i64 .i64 (N:Int) (N:Int) oM oM l oM;rw[X0,j]at this;rw[XD];exact this
structure Rows(sz N:Nat)(cell:Nat->List Ut)(m:Nat)(C:List Ut):Prop where
 len:C.length=sz*N
 row:∀j r,j<m->r<sz->C[sz*j+r]? = (cell j)[r]?
theorem Rows.next{sz N m:Nat}{cell:Nat->List Ut}{C:List Ut}(h:Rows sz N cell m C)(e:m<N)(b:(cell m).length=sz):Rows sz N cell (m+1) (rep C (0+sz*m) (cell m)):=by
 have k:=h.len;have l:sz*m+sz<=sz*N:=by rw[<-Yi];exact Yh _ e
 have d:0+sz*m+(cell m).length<=C.length:=by rw[b];omega
 refine⟨by rw[cU d];exact k,λj r i f=>?_⟩;rw[RG.rep_at d];by_cases c:j=m
 ·subst c;rw[yCj (by rw[b];omega),show sz*j+r-(0+sz*j)=r by omega]
 ·have g:sz*j+sz<=sz*m:=by rw[<-Yi];exact Yh _ oM
  rw[yCk (by rw[b];omega)];exact h.row j r oM f
def rq(N:Nat)(k:Bs):Option Nat:=if k.size=32/\beV k.toList<N then some (beV k.toList) else none
def rqV:Option Nat->Ut
 | none=>.tuple #[nv 0,.bool false]
 | some n=>.tuple #[nv n,.bool true]
theorem fH:Gives 58 #[] gv1:=λw=>(CQ w).mono (by rintro e w' ⟨rfl,rfl⟩;exact⟨_,rfl,aC _ _,rfl⟩)
theorem AM{N:Nat}(hG:Gap 4624529908474429119 4994812053365940164 1 N)(v:Ut)(b:Bs)(w:Ur)(hv:Arg w v b):UH prog 59 #[gv1,v] w (rZ w λe w'=>e=rqV (rq N b)):=by
 obtain⟨p,n,cap,rfl,c,q⟩:=hv;unfold rq;by_cases d:n=32
 ·subst d;obtain⟨g,o,rfl,i,j,m⟩:=q rfl;refine(yW _ _ _ N g o cap b hG w c i j m).mono ?_;rintro e w' ⟨v,rfl,k,⟨f,r,rfl,l⟩|⟨f,rfl⟩⟩
  ·rw[yCj ⟨c,f⟩];exact⟨_,rfl,k,by rw[l.nv];rfl⟩
  ·rw[yCk (λh=>oM)];exact⟨_,rfl,k,rfl⟩
 ·refine(Ko _ p n cap w _ _ _ rfl d).mono ?_;rintro e w' ⟨v,rfl,k,rfl⟩;rw[yCk (λh=>d (c.symm.trans h.1))];exact⟨_,rfl,k,rfl⟩
structure RefP(p0 p1 p2 p3 c0 c1 c2 c3 P:Nat):Prop where
 hp0:p0<18446744073709551616
 hp1:p1<18446744073709551616
 hp2:p2<18446744073709551616
 hp3:p3<18446744073709551616
 hc0:c0<18446744073709551616
 hc1:c1<18446744073709551616
 hc2:c2<18446744073709551616
 hc3:c3<18446744073709551616
 eP:P=val p0 p1 p2 p3
 hP:P+val c0 c1 c2 c3=top
 hP2:top<2*P
theorem QV:RefP 13822214165235122497 13451932020343611451 18446744073709551614 18446744073709551615 4624529908474429119 4994812053365940164 1 0 Go.Proofs.YtdoammpgchejcaaGreat.p1:=
 ⟨dC,dC,dC,dC,dC,dC,dC,dC,dK,dK,dK⟩
def Uq(v:Ut)(n:Nat):Prop:=∃a b c d e k f g:Nat,v=.agg #[uZ a,uZ b,uZ c,uZ d,uZ e,uZ k,uZ f,uZ g] /\
 a<18446744073709551616/\b<18446744073709551616/\c<18446744073709551616/\d<18446744073709551616/\e<18446744073709551616/\k<18446744073709551616/\f<18446744073709551616/\g<18446744073709551616 /\
 n=val a b c d+top*val e k f g
def wordOf(a b c d k:Nat):Nat:=if k<8 then a else if k<16 then b else if k<24 then c else d
end
section
structure Ord(N:Nat):Prop where
 gap:Gap 4624529908474429119 4994812053365940164 1 N
 ref:RefP 13822214165235122497 13451932020343611451 18446744073709551614 18446744073709551615 4624529908474429119 4994812053365940164 1 0 N
 le:N<=top
 n2:2<=N%18446744073709551616
variable {N:Nat}
theorem Ord.pos(O:Ord N):0<N:=by have:=O.n2;omega
theorem Ord.four(O:Ord N){a:Nat}(h:a<N):Four (nv a) a:=vF (Ux h O.le)
def sMi(N a b:Nat):Nat:=(a+N-b)%N
def sTi(N a b:Nat):Nat:=a*b%N
def sIn(N a:Nat):Nat:=a^(N-2)%N
theorem Iu(O:Ord N){a b:Nat}(c:a<N)(k:b<N):Gives 198 #[gv1,nv a,nv b] (nv (sMi N a b)):=λw =>
 (tK _ _ _ N _ _ a b O.gap (O.four c) (O.four k) c k w).mono (by rintro e w' ⟨v,rfl,k,d⟩;exact⟨_,rfl,k,d.nv⟩)
theorem Is(O:Ord N){a b:Nat}(d:a<N)(k:b<N):Gives 154 #[gv1,nv a,nv b] (nv (sTi N a b)):=λw =>
 (oN _ _ _ N _ _ a b O.gap (O.four d) (O.four k) w).mono (by rintro e w' ⟨v,rfl,k,c⟩;exact⟨_,rfl,k,c.nv⟩)
theorem OM(O:Ord N){a:Nat}(b:a<N):Gives 185 #[gv1,nv a] (nv (sIn N a)):=λw =>
 (uJ _ _ _ N _ a O.gap O.n2 (O.four b) w).mono (by rintro e w' ⟨v,rfl,c,k⟩;exact⟨_,rfl,c,k.nv⟩)
theorem IY{a x y z u:Nat}(h:nv a=.agg #[uZ x,uZ y,uZ z,uZ u]):be32 x y z u=bx a:=by
 have k:wn a=[uZ x,uZ y,uZ z,uZ u]:=by
  unfold nv at h;injection h with h
  exact congrArg Array.toList h
 unfold wn at k;simp only[yB6.injEq,VZ.injEq,true_and,and_true,Int.natCast_inj]at k;obtain⟨rfl,rfl,rfl,rfl⟩:=k;rfl
def cb(b:Bs):List Ut:=b.toList.map encB
theorem oJ(b:Bs):(cb b).length=b.size:=by unfold cb;rw[UQ,UK]
theorem rL{w:Ur}{g:Nat}{b:Bs}(h:Holds encB w g 0 b):w.rangeAt g 0 (cb b)/\w.there g 0 (cb b).length:=by
 refine⟨λj v hv=>?_,λj k=>?_⟩
 ·have k:j<b.size:=by rw[<-oJ];exact(UF.1 hv).1
  rw[(h j k).1];unfold cb at hv;rw[Vz,Vq,U0 k]at hv;rw[getElem!_pos b j k];exact hv
 ·rw[oJ]at k;exact⟨by rw[(h j k).1];rfl,(h j k).2⟩
theorem cb_holds{w:Ur}{g:Nat}{b:Bs}(d:w.rangeAt g 0 (cb b))(c:w.there g 0 (cb b).length):Holds encB w g 0 b:=λj k=>by
 refine⟨d j _ ?_,(c j (by rw[oJ];exact k)).2⟩;unfold cb;rw[Vz,Vq,U0 k,getElem!_pos b j k];rfl
def Kx(f:FuncId)(args:Array Ut)(b:Bs)(n:Nat):Prop:=∀w,UH prog f args w (Ret λe w'=>∃k,Made w k (cb b) w'/\e=sZ k n n)
theorem Iw(O:Ord N){a:Nat}(c:a<N):Kx 117 #[nv a] (bx a) 32:=λw =>
 (As _ a w (O.four c)).mono (by
  rintro e w' ⟨v,rfl,j,g,x,y,z,u,rfl,k,d,b⟩;rw[IY d]at b;obtain⟨i,f⟩:=rL b;exact⟨_,rfl,g,⟨j,k,Holds.lt b (by rw[eE];omega),i,f⟩,rfl⟩)
end
section
variable {P:Nat}[NeZero P]{N:Nat}
theorem T9(a b c d p q r s:Nat)(w:Ur):(binOp .eql 49 (.agg #[uZ a,uZ b,uZ c,uZ d]) (.agg #[uZ p,uZ q,uZ r,uZ s])).run prog w=.ok (.bool (decide (a=p/\b=q/\c=r/\d=s))) w:=by
 go_simp;rw[Fu 9997,Vm];by_cases k:a=p/\b=q/\c=r/\d=s
 ·rw[decide_eq_true k];obtain⟨rfl,rfl,rfl,rfl⟩:=k;simp
 ·have e:(decide (a=p) && (decide (b=q) && (decide (c=r) && decide (d=s))))=false:=by
   rw[<-Bool.not_eq_true,UL,UL,UL];simpa using k
  rw[decide_eq_false k,e];simp
theorem eqS{a b:Nat}(k:a<top)(c:b<top)(w:Ur):(binOp .eql 49 (nv a) (nv b)).run prog w=.ok (.bool (decide (a=b))) w:=by
 refine(T9 (a%18446744073709551616) (a/18446744073709551616%18446744073709551616) (a/340282366920938463463374607431768211456%18446744073709551616) (a/6277101735386680763835789423207666416102355444464034512896%18446744073709551616) (b%18446744073709551616) (b/18446744073709551616%18446744073709551616) (b/340282366920938463463374607431768211456%18446744073709551616) (b/6277101735386680763835789423207666416102355444464034512896%18446744073709551616) w).trans ?_;simp only[Ay k c]
theorem u40:(prog.underlying 49).map (·.isRow)=some true:=kR
theorem i40:(prog.info? 49).map (·.size)=some 4:=kR
theorem u38:(prog.underlying 47).map (·.isRow)=some true:=kR
theorem i38:(prog.info? 47).map (·.size)=some 4:=kR
theorem Dl(O:Ord N)(a b:Nat)(c:a<N)(f:b<N):Gives 131 #[(nv a),(nv b)] (nv (sMi N a b)):=by
 intro w;go_enter func131,ntmps131;refine RG.M.enter [(0,.v (nv a)),(1,.v (nv b))] 12 kR ?_;intro a0 d;repeat refine Uz ?_
 refine d.T [.m 0,.m 1,.m 2] [(0,wn a),(1,wn b),(2,RG.z 4)] [] [wn a,wn b,RG.z 4] [2,3,4] ⟨mk 0 49,mk 1 49,mk 2 49,yCl⟩ ?_;intro g j i l m e;repeat refine Uz ?_
 refine e.D [.c gv1,.s (.p 0 0),.x (nv a),.s (.p 1 0),.x (nv b),.c (nv (sMi N a b)),.x (nv (sMi N a b)),.u 2] [] [(2,7,wn (sMi N a b))] [wn a,wn b,wn (sMi N a b)] [4] ⟨cl fH,st,ld u38 i38,st,ld u38 i38,cl (Iu O c f),st,RG.pt i40,yCl⟩ ?_;intro a2 n k;refine Wp ?_;refine UE (v:=(nv (sMi N a b))) (aI k.st 4 49 rfl 2 _ rfl (k.at (s:=(.p 2 0))) u40 i40) k.sl.defers ?_;exact⟨_,rfl,k.st.bel.below,rfl⟩
theorem iI(O:Ord N)(a b:Nat)(c:a<N)(f:b<N):Gives 79 #[(nv a),(nv b)] (nv (sTi N a b)):=by
 intro w;go_enter func79,ntmps79;refine RG.M.enter [(0,.v (nv a)),(1,.v (nv b))] 12 kR ?_;intro a0 d;repeat refine Uz ?_
 refine d.T [.m 0,.m 1,.m 2] [(0,wn a),(1,wn b),(2,RG.z 4)] [] [wn a,wn b,RG.z 4] [2,3,4] ⟨mk 0 49,mk 1 49,mk 2 49,yCl⟩ ?_;intro g j i l m e;repeat refine Uz ?_
 refine e.D [.c gv1,.s (.p 0 0),.x (nv a),.s (.p 1 0),.x (nv b),.c (nv (sTi N a b)),.x (nv (sTi N a b)),.u 2] [] [(2,7,wn (sTi N a b))] [wn a,wn b,wn (sTi N a b)] [4] ⟨cl fH,st,ld u38 i38,st,ld u38 i38,cl (Is O c f),st,RG.pt i40,yCl⟩ ?_;intro a2 n k;refine Wp ?_;refine UE (v:=(nv (sTi N a b))) (aI k.st 4 49 rfl 2 _ rfl (k.at (s:=(.p 2 0))) u40 i40) k.sl.defers ?_;exact⟨_,rfl,k.st.bel.below,rfl⟩
theorem uS(O:Ord N)(a:Nat)(b:a<N):Gives 159 #[(nv a)] (nv (sIn N a)):=by
 intro w;go_enter func159,ntmps159;refine RG.M.enter [(0,.v (nv a))] 8 kR ?_;intro a0 c;repeat refine Uz ?_
 refine c.T [.m 0,.m 1] [(0,wn a),(1,RG.z 4)] [] [wn a,RG.z 4] [1,2] ⟨mk 0 49,mk 1 49,yCl⟩ ?_;intro e f g i d;repeat refine Uz ?_
 refine d.D [.c gv1,.s (.p 0 0),.x (nv a),.c (nv (sIn N a)),.x (nv (sIn N a)),.u 1] [] [(1,5,wn (sIn N a))] [wn a,wn (sIn N a)] [2] ⟨cl fH,st,ld u38 i38,cl (OM O b),st,RG.pt i40,yCl⟩ ?_;intro a2 j k;refine Wp ?_;refine UE (v:=(nv (sIn N a))) (aI k.st 2 49 rfl 1 _ rfl (k.at (s:=(.p 1 0))) u40 i40) k.sl.defers ?_;exact⟨_,rfl,k.st.bel.below,rfl⟩
theorem Ls(v:Ut)(m:Nat)(ok:Bool)(w:Ur)(c:∀w',BelX w.heap.size [] w w'->UH prog 59 #[gv1,v] w' (Ret λe b=>kZ w' b/\e=.tuple #[nv m,.bool ok])):
 UH prog 16 #[v] w (rZ w λe w'=>e=.tuple #[nv m,.bool ok]):=by
 go_enter func16,ntmps16;refine RG.M.enter [(0,.v v)] 15 kR ?_;intro a0 d;repeat refine Uz ?_
 refine d.T [.m 0,.x (.bool false)] [(0,RG.z 4)] [] [RG.z 4] [0,2,3] ⟨mk 0 49,st,yCl⟩ ?_;intro i j q f;repeat refine Uz ?_
 refine f.T [.c gv1,.x v,.c (.tuple #[nv m,.bool ok]),.x (.tuple #[nv m,.bool ok]),.x (nv m),.x (.bool ok),.m 1,.u 1,.x (.bool ok)] [(6,RG.z 4)] [(1,7,wn m)] [RG.z 4,wn m] [2,3,4,5] ⟨cl fH,st,clB (λ_ _=>kR) c,st,st,st,mk 1 47,RG.pt i38,st,yCl⟩ ?_;intro l a2 p g;repeat refine Uz ?_
 refine g.T [.x (nv m),.x (nv m),.x (.bool ok),.u 0,.x (.bool ok)] [] [(0,3,wn m)] [wn m,wn m] [2,3] ⟨ld u38 i38,st,st,RG.pt i40,st,yCl⟩ ?_;intro n o k;refine Wp ?_;refine UE (v:=.tuple #[nv m,.bool ok]) (cQ k.st 2 3 49 rfl 0 _ rfl (k.at (s:=.p 0 0)) _ (k.av (v:=.bool ok) kR) u40 i40) k.sl.defers ?_;exact⟨_,rfl,k.st.bel.below,rfl⟩
theorem EA(O:Ord N)(v:Ut)(k:Bs)(w:Ur)(hv:Arg w v k):UH prog 16 #[v] w (rZ w λe w'=>e=.tuple #[nv ((rq N k).getD 0),.bool (rq N k).isSome]):=by
 refine Ls v _ _ w λw' c=>?_
 have h:=AM O.gap v k w' (hv.below c.below);cases b:rq N k with
 | none=>rw[b]at h;exact h
 | some n=>rw[b]at h;exact h
theorem qO(O:Ord N){a:Nat}(c:a<N):Kx 141 #[nv a] (bx a) 32:=by
 intro w;go_enter func141,ntmps141;refine RG.M.enter [(0,.v (nv a))] 6 kR ?_;intro a0 d;repeat refine Uz ?_
 refine d.T [.m 0,.x (.slice none 0 0)] [(0,wn a)] [] [wn a] [1,2] ⟨mk 0 49,st,yCl⟩ ?_;intro f g i e;repeat refine Uz ?_
 refine e.t [.s 3 [] (.p 0 0),.x 4 [(3,0)] (nv a),⟨some 5,[(4,1)],.s 1 32 32,.make 1⟩,.s 2 [(5,2)] (.s 1 32 32)] [(2,cb (bx a))] [] [wn a,cb (bx a)] [(2,.s 1 32 32)] ⟨st,ld u38 i38,RG.cm 1 (λw _=>Iw O c w) λ_ _=>kR,st,yCl⟩ ?_;intro j a2 l k;refine Wp ?_;refine UE (v:=_) (jA 2 rfl _ (k.at (s:=.s 1 32 32))) k.sl.defers ?_;exact⟨_,rfl,_,k.st.made (b:=1) rfl,rfl⟩
end
namespace SP
theorem TQ(x:BitVec 64):(x.toNat:Int)<18446744073709551616:=by
 have:=x.isLt;omega
theorem dX(x:BitVec 64):Xb 64 (x.toNat:Int)=x:=by
 apply yAi;rw[Zc,YE];exact US x.isLt
theorem fK(x:BitVec 64):Vo.wrap (x.toNat:Int)=x.toNat:=by
 rw[XU];have:=TQ x;exact yA5 oM this
def u(v:BitVec 64):Int:=(v.toNat:Int)
theorem cY(a b:BitVec 64):bits .xor .u64 (u a) (u b)=u (a ^^^ b):=by
 show Vo.wrap ((Xb 64 (a.toNat:Int) ^^^ Xb 64 (b.toNat:Int)).toNat:Int)=_;rw[dX,dX,fK];rfl
theorem dV(a b:BitVec 64):bits .and .u64 (u a) (u b)=u (a &&& b):=by
 show Vo.wrap ((Xb 64 (a.toNat:Int) &&& Xb 64 (b.toNat:Int)).toNat:Int)=_;rw[dX,dX,fK];rfl
theorem dZ(a b:BitVec 64):bits .or .u64 (u a) (u b)=u (a ||| b):=by
 show Vo.wrap ((Xb 64 (a.toNat:Int) ||| Xb 64 (b.toNat:Int)).toNat:Int)=_;rw[dX,dX,fK];rfl
theorem qJ(a:BitVec 64):bits .xor .u64 Vo.max (u a)=u (~~~a):=by
 have e:Vo.max=u (BitVec.allOnes 64):=dK;rw[e,cY,BitVec.allOnes_xor]
theorem SY(k:Nat)(b:k<64):bits .and .u64 (k:Int) 63=k:=by
 have h:∀j:Fin 64,bits .and .u64 ((j.val:Nat):Int) 63=(j.val:Int):=dK;exact h ⟨k,b⟩
theorem Iq(x:BitVec 64)(k:Nat):Vo.wrap (u x*2^k)=u (x <<< k):=by
 unfold u;rw[XU,BitVec.toNat_shiftLeft,Nat.shiftLeft_eq,Int.natCast_emod,Xw,Z9];rfl
theorem Nu(x:BitVec 64)(k:Nat):u x/2^k=u (x >>> k):=by
 unfold u;rw[BitVec.toNat_ushiftRight,Nat.shiftRight_eq_div_pow,Zb,Z9];rfl
def rol(w:BitVec 64)(n:Nat):BitVec 64:=w <<< n ||| w >>> (64-n)
abbrev St:=Array (BitVec 64)
def enc(v:BitVec 64):Ut:=uZ (u v)
def D4(d:St)(x:Nat):BitVec 64:=d[x]! ^^^ d[x+5]! ^^^ d[x+10]! ^^^ d[x+15]! ^^^ d[x+20]!
def pD(d:St):Nat->St
 | 0=>#[0,0,0,0,0]
 | k+1=>(pD d k).setIfInBounds k (D4 d k)
def bT(d:St)(i:Nat)(v:BitVec 64):St:=d.setIfInBounds i (d[i]! ^^^ v)
def mE(v:BitVec 64)(x:Nat)(d:St):Nat->St
 | 0=>d
 | m+1=>bT (mE v x d m) (x+5*m) v
def PV(s:St)(x:Nat):BitVec 64:=s[(x+4)%5]! ^^^ rol s[(x+1)%5]! 1
def nS(s d:St):Nat->St
 | 0=>d
 | k+1=>mE (PV s k) k (nS s d k) 5
def wF(d:St):St:=nS (pD d 5) d 5
theorem dO(d:St)(i:Nat)(v:BitVec 64):(bT d i v).size=d.size:=by simp[bT]
theorem tO(d:St)(k:Nat):(pD d k).size=5:=by
 induction k with
 | zero=>rfl
 | succ k ih=>simp[pD,ih]
theorem rD(v:BitVec 64)(x:Nat)(d:St)(m:Nat):(mE v x d m).size=d.size:=by
 induction m with
 | zero=>rfl
 | succ k ih=>simp[mE,dO,ih]
theorem qL(s d:St)(m:Nat):(nS s d m).size=d.size:=by
 induction m with
 | zero=>rfl
 | succ k ih=>simp[nS,rD,ih]
structure Tm where
 x:Nat
 y:Nat
 m:BitVec 64
 d:St
def offs(t:Nat):Nat:=(t+1)*(t+2)/2%64
def C7(t:Nat)(s:Tm):Tm:=
 { x:=s.y,y:=(2*s.x+3*s.y)%5,m:=s.d[s.y+5*((2*s.x+3*s.y)%5)]!,d:=s.d.setIfInBounds (s.y+5*((2*s.x+3*s.y)%5)) (rol s.m (offs t)) }
def uL(d:St):Nat->Tm
 | 0=>{ x:=1,y:=0,m:=d[1]!,d:=d }
 | t+1=>C7 t (uL d t)
def zK(d:St):St:=(uL d 24).d
theorem Ev(d:St)(hd:d.size=25)(t:Nat):(uL d t).x<5/\(uL d t).y<5/\(uL d t).d.size=25:=by
 induction t with
 | zero=>exact⟨show 1<5 by decide,show 0<5 by decide,hd⟩
 | succ t ih =>
  obtain⟨c,b,k⟩:=ih;refine⟨b,?_,?_⟩
  ·show(2*(uL d t).x+3*(uL d t).y)%5<5;omega
  ·show((uL d t).d.setIfInBounds _ _).size=25;rw[VF,k]
def rowAt(d:St)(i:Nat):St:=
 bT (bT (bT (bT (bT d i (~~~d[i+1]! &&& d[i+2]!)) (i+1) (~~~d[i+2]! &&& d[i+3]!)) (i+2) (~~~d[i+3]! &&& d[i+4]!)) (i+3) (~~~d[i+4]! &&& d[i]!)) (i+4) (~~~d[i]! &&& d[i+1]!)
def yE(d:St):Nat->St
 | 0=>d
 | k+1=>rowAt (yE d k) (5*k)
def chi(d:St):St:=yE d 5
theorem Do(d:St)(i:Nat):(rowAt d i).size=d.size:=by simp[rowAt,dO]
theorem yD(d:St)(k:Nat):(yE d k).size=d.size:=by
 induction k with
 | zero=>rfl
 | succ k ih=>simp[yE,Do,ih]
def wS(r:Nat):Nat:=if 255<2*r then(2*r) ^^^ 369 else 2*r
def wR(r:Nat):Nat->BitVec 64 × Nat
 | 0=>(0,r)
 | j+1=>((wR r j).1 ||| Yl 64 ((wR r j).2%2) <<< (2^j-1),wS (wR r j).2)
theorem BV(r:Nat)(h:r<256):wS r<256:=by
 have H:∀j:Fin 256,wS j.val<256:=dK;exact H ⟨r,h⟩
theorem LV(r:Nat)(h:r<256)(j:Nat):(wR r j).2<256:=by
 induction j with
 | zero=>exact h
 | succ j ih=>exact BV _ ih
theorem OQ(r:Nat)(h:r<256):bits .xor .i64 ((r:Int)*2) 369=(((2*r) ^^^ 369:Nat):Int):=by
 have H:∀j:Fin 256,bits .xor .i64 ((j.val:Int)*2) 369=(((2*j.val) ^^^ 369:Nat):Int):=dK;exact H ⟨r,h⟩
theorem OR(r:Nat)(h:r<256):bits .and .i64 (r:Int) 1=u (Yl 64 (r%2)):=by
 have H:∀j:Fin 256,bits .and .i64 (j.val:Int) 1=u (Yl 64 (j.val%2)):=dK;exact H ⟨r,h⟩
theorem pB(x:BitVec 64):Vo.wrap (u x)=u x:=fK x
def xM(d:St)(c:BitVec 64):St:=bT (chi (zK (wF d))) 0 c
def rcC(r:Nat):BitVec 64:=(wR r 7).1
def rcN(r:Nat):Nat:=(wR r 7).2
theorem OS(r:Nat)(h:r<256):rcN r<256:=by
 unfold rcN;exact LV r h 7
def BW:Nat->Nat
 | 0=>1
 | k+1=>rcN (BW k)
theorem LW(k:Nat):BW k<256:=by
 induction k with
 | zero=>decide
 | succ k ih=>exact OS _ ih
def sF(d:St):Nat->St
 | 0=>d
 | k+1=>xM (sF d k) (rcC (BW k))
def perm(d:St):St:=sF d 24
theorem lO(d:St):(wF d).size=d.size:=qL _ _ _
theorem qC(d:St)(hd:d.size=25):(zK d).size=25:=(Ev d hd 24).2.2
theorem Cy(d:St):(chi d).size=d.size:=yD _ _
theorem Cm(d:St)(c:BitVec 64)(hd:d.size=25):(xM d c).size=25:=by
 unfold xM;rw[dO,Cy,qC];rw[lO,hd]
theorem tX(d:St)(hd:d.size=25)(k:Nat):(sF d k).size=25:=by
 induction k with
 | zero=>exact hd
 | succ k ih=>exact Cm _ _ ih
theorem sE(d:St)(hd:d.size=25):(perm d).size=25:=tX d hd 24
abbrev Bs:=Array UInt8
def ub(x:UInt8):Int:=(x.toNat:Int)
def encB(x:UInt8):Ut:=.int .u8 (ub x)
def wide(x:UInt8):BitVec 64:=Yl 64 x.toNat
def low(v:BitVec 64):UInt8:=UM v.toNat
theorem KU(x:UInt8):ub x=u (wide x):=by
 unfold ub u wide;rw[YE,US];have:=x.toNat_lt;omega
theorem Eo(x:UInt8):Vo.wrap (ub x)=u (wide x):=by rw[KU,pB]
theorem NE(v:BitVec 64):Xy.wrap (u v)=ub (low v):=by
 have e:Xy.wrap (u v)=u v%256:=by simp[yBh,yBi,yAR]
 rw[e];unfold u ub low;rw[YH];omega
def vZ(b:Bs)(o:Nat):Nat->BitVec 64
 | 0=>0
 | i+1=>vZ b o i ||| wide b[o+i]! <<< (8*i)
def wordOf(k:Bs)(o:Nat):BitVec 64:=vZ k o 8
def kX(k:Bs)(d:St):Nat->St
 | 0=>d
 | i+1=>bT (kX k d i) i (wordOf k (8*i))
theorem mC(b:Bs)(d:St)(k:Nat):(kX b d k).size=d.size:=by
 induction k with
 | zero=>rfl
 | succ k ih=>simp[kX,dO,ih]
def byteOf(d:St)(k:Nat):UInt8:=low (d[k/8]! >>> (8*(k%8)))
def gQ(d:St)(n:Nat):Nat->Bs
 | 0=>UJ n 0
 | k+1=>(gQ d n k).setIfInBounds k (byteOf d k)
def front(d:St)(n:Nat):Bs:=gQ d n n
theorem mF(d:St)(n k:Nat):(gQ d n k).size=n:=by
 induction k with
 | zero=>simp[gQ]
 | succ k ih=>simp[gQ,ih]
theorem dU(d:St)(n:Nat):(front d n).size=n:=mF d n n
end SP
namespace SP
structure Only(b off n:Nat)(w w':Ur):Prop where
 os:w'.os=w.os
 tape:w'.tape=w.tape
 output:w'.output=w.output
 size:w.heap.size<=w'.heap.size
 block:∀k,k<w.heap.size->k≠b->w'.heap[k]? = w.heap[k]?
 cell:∀o,(o<off\/off+n<=o)->w'.cell? ⟨b,o,none⟩=w.cell? ⟨b,o,none⟩
 froz:∀o,w'.frozen? ⟨b,o,none⟩=w.frozen? ⟨b,o,none⟩
variable {b off n:Nat}{w w1 w2:Ur}
theorem Only.refl(b off n:Nat)(w:Ur):Only b off n w w:=⟨rfl,rfl,rfl,Uw _,λ_ _ _=>rfl,λ_ _=>rfl,λ_=>rfl⟩
theorem Only.trans(h:Only b off n w w1)(k:Only b off n w1 w2):Only b off n w w2:=
 ⟨k.os.trans h.os,k.tape.trans h.tape,k.output.trans h.output,UC h.size k.size,
  λi d c=>(k.block i (Ux d h.size) c).trans (h.block i d c),
  λo ho=>(k.cell o ho).trans (h.cell o ho),λo=>(k.froz o).trans (h.froz o)⟩
theorem Only.drewN(h:Only b off n w w1)(q:Nat):Only b off n w (w1.drewN q):=⟨h.os,h.tape,h.output,h.size,h.block,h.cell,h.froz⟩
theorem Only.drew(h:Only b off n w w1):Only b off n w w1.drew:=⟨h.os,h.tape,h.output,h.size,h.block,h.cell,h.froz⟩
theorem Only.setCell(h:Only b off n w w1){o:Nat}(g:off<=o)(f:o<off+n)(v:Ut):Only b off n w (w1.setCell ⟨b,o,none⟩ v):=by
 refine h.trans ⟨rfl,rfl,rfl,by simp,λk _ c=>Zr _ _ _ _ c,λd ho=>?_,λd=>by simp⟩;exact UU _ _ _ _ (by intro e;simp only[Addr.mk.injEq,and_true,true_and]at e;omega)
theorem Only.alloc(h:Only b off n w w1)(d:b<w1.heap.size)(o:Obj):Only b off n w (w1.alloc o):=by
 refine h.trans ⟨rfl,rfl,rfl,by simp,λk e _=>Below.heap_alloc _ _ _ e,λc _=>?_,λc=>?_⟩
 ·exact World.cell?_alloc_lt _ _ _ d
 ·exact World.frozen?_alloc_old _ _ _ (by show b≠_;omega)
theorem Only.below(h:Only b off n w w1){B:Nat}(c:B<=w.heap.size)(d:B<=b):Below B w w1:=
 ⟨h.os,h.tape,h.output,h.size,λk e=>h.block k oM oM⟩
theorem Only.of_below{B:Nat}(h:Below B w w1)(d:B=w.heap.size)(c:b<B):Only b off n w w1:=
 ⟨h.os,h.tape,h.output,h.size,λk e _=>h.block k oM,λo _=>h.cell (p:=⟨b,o,none⟩) c,λo=>h.frozen (p:=⟨b,o,none⟩) c⟩
theorem Only.other(h:Only b off n w w1){c o:Nat}(k:c≠b)(d:c<w.heap.size):w1.cell? ⟨c,o,none⟩=w.cell? ⟨c,o,none⟩/\w1.frozen? ⟨c,o,none⟩=w.frozen? ⟨c,o,none⟩:=
 ⟨UW (w:=w) (h.block c d k),VU (w:=w) (h.block c d k)⟩
theorem Only.fresh{o m:Nat}{x:Obj}(h:Only w.heap.size o m (w.alloc x) w1):kZ w w1:=
 ((UR _ _).alloc (Uw _) x).trans (h.below (by simp) (Uw _))
section
variable {α:Type}[Inhabited α]{enc:α->Ut}{d:Array α}
theorem Holds.lt(h:Holds enc w b off d)(hd:0<d.size):b<w.heap.size:=Xo _ _ (h 0 hd).1
theorem Holds.other{c o:Nat}(h:Holds enc w c o d)(k:Only b off n w w1)(f:c≠b)(hd:0<d.size):Holds enc w1 c o d:=by
 intro j e;have:=h j e;have:=k.other (o:=o+j) f (Holds.lt h hd);rw[this.1,this.2];exact h j e
theorem Holds.same{o:Nat}(h:Holds enc w b o d)(k:Only b off n w w1)(hd:o+d.size<=off\/off+n<=o):Holds enc w1 b o d:=by
 intro j c;rw[k.cell _ oM,k.froz];exact h j c
theorem Holds.below{B:Nat}(h:Holds enc w b off d)(k:Below B w w1)(c:b<B):Holds enc w1 b off d:=by
 intro j e;rw[k.cell (p:=⟨b,off+j,none⟩) c,k.frozen (p:=⟨b,off+j,none⟩) c];exact h j e
theorem Holds.drewN(h:Holds enc w b off d)(q:Nat):Holds enc (w.drewN q) b off d:=h
theorem Holds.drew(h:Holds enc w b off d):Holds enc w.drew b off d:=h
theorem Holds.set(h:Holds enc w b off d){i:Nat}(c:i<d.size)(x:α):Holds enc (w.setCell ⟨b,off+i,none⟩ (enc x)) b off (d.setIfInBounds i x):=by
 intro j k;rw[VF]at k;rw[VM];by_cases e:j=i
 ·subst e;rw[getElem!_set_same d j x c];exact⟨VV _ _ _ (h j k).1,(h j k).2⟩
 ·rw[getElem!_set_other d i j x e,UU _ _ _ _ (by intro e';simp only[Addr.mk.injEq,and_true,true_and]at e';omega)];exact h j k
theorem Holds.new(w:Ur)(t:U8)(d:Array α):Holds enc (w.alloc (.cells (d.map enc) t)) w.heap.size 0 d:=by
 intro j k;rw[Vd,Wv];refine⟨?_,rfl⟩;simp only[UD,yAE,U0 k,Yv,getElem!_pos d j k]
theorem Holds.made(w:Ur)(t:U8)(n:Nat)(x:α):Holds enc (w.alloc (.cells (madeCells #[enc x] n) t)) w.heap.size 0 (UJ n x):=by
 intro j k;rw[UP]at k;rw[Vd,Wv];refine⟨?_,rfl⟩;rw[getElem!_pos _ j (by simpa using k),Ww];simp[madeCells,k,Nat.mod_one]
end
theorem Holds.xor{d:St}(h:Holds enc w b off d){i:Nat}(k:i<d.size){x:BitVec 64}(hx:d[i]! = x)(v:BitVec 64):Holds enc (w.setCell ⟨b,off+i,none⟩ (uZ (u (x ^^^ v)))) b off (bT d i v):=by
 unfold bT;rw[hx];exact Holds.set h k (x ^^^ v)
theorem bX(d:St)(i j:Nat)(v:BitVec 64)(h:j≠i):(bT d i v)[j]! = d[j]!:=getElem!_set_other d i j _ h
end SP
namespace SP
theorem mixed:prog.follows .mixedOrders=true:=kR
theorem bP{w:Ur}{b off:Nat}{d:St}(h:Holds enc w b off d)(i:Nat)(k:i<d.size){x:BitVec 64}(hx:d[i]! = x):
 w.cell? ⟨b,off+i,none⟩=some (uZ (u x))/\w.frozen? ⟨b,off+i,none⟩=false:=by
 rw[<-hx];exact h i k
theorem ret_int{k:IntKind}{a b:Int}(h:a=b):Ending.returned (.int k a)=.returned (.int k b):=by rw[h]
theorem BP(x:BitVec 64)(k:Nat)(w:Ur)(c:k<64):
 UH prog 252 #[uZ (u x),iZ k] w λe w'=>e=.returned (uZ (u (rol x k)))/\w'=w:=by
 have b:=SY k c;go_enter func252,ntmps252;go_wp2;go_ret;refine⟨ret_int ?_,rfl⟩;rw[Iq,Nu,dZ];rfl
end SP
namespace SP
theorem Co(w:Ur)(t:U8):Holds enc (w.alloc (.cells #[uZ 0,uZ 0,uZ 0,uZ 0,uZ 0] t)) w.heap.size 0 (#[0,0,0,0,0]:St):=by
 have h:=Holds.new (enc:=enc) w t (#[0,0,0,0,0]:St);have e:yB3 enc (#[0,0,0,0,0]:St)=#[uZ 0,uZ 0,uZ 0,uZ 0,uZ 0]:=by simp[enc,u]
 rw[e]at h;exact h
attribute [local go_sem] cY dV dZ
theorem xH(b off:Nat)(d:St)(w:Ur)(hd:d.size=25)(T:Holds enc w b off d):
 UH prog 248 #[.pointer (some ⟨b,off,none⟩)] w λe w'=>e=.returned (.tuple #[])/\Only b off 25 w w'/\Holds enc w' b off (wF d):=by
 have V:=Holds.lt T oM;go_enter func248,ntmps248;go_wp2;generalize o:(w.alloc _)=W1;go_loopg [7] 5 (λg s7 wr=>∃k l,k+g=5/\s7=.int .i64 (k:Nat)/\Holds enc wr w.heap.size 0 l/\Only w.heap.size 0 5 W1 wr/\Hid (l=pD d k))
 case atStart =>
  refine⟨0,#[0,0,0,0,0],rfl,rfl,?_,Only.refl _ _ _ _,rfl⟩;rw[<-o];exact Co w 314
 case round =>
  obtain⟨k,l,O,rfl,H,n,q⟩:=hrel;have j:Holds enc wr b off d:=Holds.other (by rw[<-o];exact Holds.below T ((UR _ _).alloc (Uw _) _) V) n oM oM;by_cases v:k<5
  ·obtain⟨A,s⟩:∃x,d[k]! = x:=⟨_,rfl⟩
   obtain⟨B,t⟩:∃x,d[k+5]! = x:=⟨_,rfl⟩
   obtain⟨C,p⟩:∃x,d[k+10]! = x:=⟨_,rfl⟩
   obtain⟨D,u⟩:∃x,d[k+15]! = x:=⟨_,rfl⟩
   obtain⟨a,r⟩:∃x,d[k+20]! = x:=⟨_,rfl⟩
   obtain⟨W,y⟩:∃x,l[k]! = x:=⟨_,rfl⟩
   have J:l.size=5:=by rw[q.out,tO]
   obtain⟨L,R⟩:=bP j k oM s;obtain⟨c1,U⟩:=bP j (k+5) oM t;obtain⟨c2,f2⟩:=bP j (k+10) oM p;obtain⟨c3,f3⟩:=bP j (k+15) oM u;obtain⟨c4,I⟩:=bP j (k+20) oM r;obtain⟨F,G⟩:=bP H k oM y;rw[UD]at F G;have E:Hid (D4 d k=A ^^^ B ^^^ C ^^^ D ^^^ a):=by rw[<-s,<-t,<-p,<-u,<-r];rfl
   clear s t p u r y j;have k5:(k:Int)<5:=oM;have b0:(k:Int)<25:=oM;have b1:(k:Int)+5<25:=oM;have Q:(k:Int)+10<25:=oM;have N:(k:Int)+15<25:=oM;have K:(k:Int)+20<25:=oM;have p1:0<=(k:Int)+5:=oM;have p2:0<=(k:Int)+10:=oM;have p3:0<=(k:Int)+15:=oM;have X:0<=(k:Int)+20:=oM;have Z:((k:Int)+5).toNat=k+5:=oM;have M:((k:Int)+10).toNat=k+10:=oM;have e3:((k:Int)+15).toNat=k+15:=oM;have Y:((k:Int)+20).toNat=k+20:=oM;have v1:VS.wrap ((k:Int)+5)=(k:Int)+5:=Ws _ oM;have v2:VS.wrap ((k:Int)+10)=(k:Int)+10:=Ws _ oM;have S:VS.wrap ((k:Int)+15)=(k:Int)+15:=Ws _ oM;have P:VS.wrap ((k:Int)+20)=(k:Int)+20:=Ws _ oM;go_wp2_with fail
   go_still_tail 35,mixed;go_wp2;go_roundg (gk-1)
   case measure=>omega
   case rel =>
    refine⟨k+1,l.setIfInBounds k (A ^^^ B ^^^ C ^^^ D ^^^ a),oM,by go_num,?_,?_,?_⟩
    ·have:=Holds.set H (i:=k) oM (A ^^^ B ^^^ C ^^^ D ^^^ a);rw[UD]at this;exact Holds.drew this
    ·exact(n.setCell (Wy _) oM _).drew
    ·show _=(pD d k).setIfInBounds k (D4 d k);rw[E.out,q.out]
  ·have t:k=5:=oM;subst t;have Q:Hid (l=pD d 5):=q;have I:Only b off 25 w wr:=by
    rw[<-o]at n;exact Only.of_below n.fresh rfl V
   clear O v q n o;go_wp2;go_loopg [46] 5 (λg s46 B=>∃k r,k+g=5/\s46=.int .i64 (k:Nat)/\Holds enc B b off r/\Only b off 25 wr B/\Hid (r=nS l d k))
   case atStart=>exact⟨0,d,rfl,rfl,j,Only.refl _ _ _ _,rfl⟩
   case round =>
    obtain⟨k,r,O,rfl,P,n,q⟩:=hrel;by_cases v:k<5
    ·have J:l.size=5:=by rw[Q.out,tO]
     have a:=Holds.other H n oM oM;obtain⟨A,u⟩:∃x,l[(k+4)%5]! = x:=⟨_,rfl⟩
     obtain⟨C,s⟩:∃x,l[(k+1)%5]! = x:=⟨_,rfl⟩
     obtain⟨L,R⟩:=bP a ((k+4)%5) oM u;obtain⟨c1,U⟩:=bP a ((k+1)%5) oM s;rw[UD]at L c1;have X:Hid (PV l k=A ^^^ rol C 1):=by rw[<-u,<-s];rfl
     clear u s R U;have k5:(k:Int)<5:=oM;go_wp2_with fail
     go_quiet ((go_at_call 252;exact Calls.quiet_of_same (BP _ 1 _ dC)));clear L c1;go_wp2;have h0:=n.drewN nq;have M:=Holds.drewN P nq;have D:r.size=25:=by rw[q.out,qL,hd]
     go_loopg [6] 5 (λg s6 B=>∃m p,m+g=5/\s6=.int .i64 ((k+5*m:Nat):Int)/\Holds enc B b off p/\Only b off 25 wr B/\Hid (p=mE (A ^^^ rol C 1) k r m))
     case atStart=>exact⟨0,r,rfl,rfl,M,(Only.refl _ _ _ _).drewN _,rfl⟩
     case round =>
      obtain⟨m,p,hm,rfl,G,y,F⟩:=hrel;by_cases S:m<5
      ·have Y:p.size=25:=by rw[F.out,rD,D]
       obtain⟨z,K⟩:∃x,p[k+5*m]! = x:=⟨_,rfl⟩
       obtain⟨c,f⟩:=bP G (k+5*m) oM K;have W:Hid (p[k+5*m]! = z):=K;clear K;have Z:((k+5*m:Nat):Int)<25:=oM;generalize E:k+5*m=i at *;have N:Hid (k+5*m=i):=E;clear E;go_wp2_with fail
       go_still_tail 9,mixed;go_wp2;go_roundg (gk-1)
       case measure=>omega
       case rel =>
        refine⟨m+1,p.setIfInBounds i (z ^^^ (A ^^^ rol C 1)),oM,?_,?_,?_,?_⟩
        ·rw[<-N.out];go_num
        ·exact Holds.drew (Holds.set G oM _)
        ·exact(y.setCell (Y8 _ _) oM _).drew
        ·show _=bT (mE (A ^^^ rol C 1) k r m) (k+5*m) (A ^^^ rol C 1);rw[<-F.out,N.out,<-W.out];rfl
      ·have K:m=5:=oM;subst K;have Z:(25:Int)<=((k+5*5:Nat):Int):=oM;generalize E:k+5*5=i at *;go_wp2;go_roundg (4-k)
       case measure=>omega
       case rel =>
        refine⟨k+1,p,oM,by go_num,G,n.trans y,?_⟩;show _=mE (PV l k) k (nS l d k) 5;rw[<-q.out,X.out];exact F.out
    ·have t:k=5:=oM;subst t;go_wp2
     go_end0
     refine⟨rfl,I.trans n,?_⟩;have:wF d=r:=by rw[q.out,Q.out];rfl
     rw[this];exact P
end SP
namespace SP
attribute [local go_sem] cY dV dZ
theorem IW(t:Nat)(h:t<24):(wrap64 ((wrap64 (((t:Int)+1)*((t:Int)+2))).tdiv 2)).tmod 64=(offs t:Int):=by
 have H:∀j:Fin 24,(wrap64 ((wrap64 (((j.val:Int)+1)*((j.val:Int)+2))).tdiv 2)).tmod 64=(offs j.val:Int):=dK;exact H ⟨t,h⟩
theorem uK(b off:Nat)(d:St)(w:Ur)(hd:d.size=25)(C:Holds enc w b off d):
 UH prog 249 #[oZ b off] w λe w'=>e=.returned (.tuple #[])/\Only b off 25 w w'/\Holds enc w' b off (zK d):=by
 obtain⟨M,l⟩:∃x,d[1]! = x:=⟨_,rfl⟩
 obtain⟨c1,L⟩:=bP C 1 oM l;go_enter func249,ntmps249;go_wp2;go_loopg [2,3,4,12] 24 (λg sx G sm st wr=>∃t T,t+g=24/\st=iZ (t:Nat)/\sx=iZ (T.x:Nat)/\G=iZ (T.y:Nat)/\sm=uZ (u T.m)/\Holds enc wr b off T.d/\Only b off 25 w wr/\Hid (T=uL d t))
 case atStart=>exact⟨0,uL d 0,rfl,rfl,rfl,rfl,by rw[<-l];rfl,C,Only.refl _ _ _ _,rfl⟩
 case round =>
  obtain⟨t,⟨x,y,m,B⟩,K,rfl,rfl,rfl,rfl,q,D,r⟩:=hrel;have o:=Ev d hd t;rw[<-r.out]at o;obtain⟨hx,E,F⟩:=o;dsimp only at hx E F q;by_cases s:t<24
  ·obtain⟨i,H⟩:∃i,y+5*((2*x+3*y)%5)=i:=⟨_,rfl⟩
   obtain⟨z,a⟩:∃z,B[i]! = z:=⟨_,rfl⟩
   obtain⟨c,f⟩:=bP q i oM a;have I:=mk1 (a);have A:=mk1 (H);go_wp2_with fail
   rw[IW t s];refine(BP m (offs t) _ (V5 _ dC)).mono ?_;rintro e w' ⟨rfl,rfl⟩;go_wp2_with fail
   obtain⟨p,v⟩:∃n,(2*x+3*y)%5=n:=⟨_,rfl⟩
   have j:(2*(x:Int)+3*(y:Int))%5=(p:Int):=oM;rw[j];have k:=mk1 (v);have J:((y:Int)+5*(p:Int)).toNat=i:=by have:=A.out;have:=k.out;omega
   go_region
   go_wp2;go_roundg (gk-1)
   case measure=>omega
   case rel =>
    refine⟨t+1,⟨y,p,z,B.setIfInBounds i (rol m (offs t))⟩,oM,by go_num,rfl,rfl,rfl,?_,?_,?_⟩
    ·exact Holds.drew (Holds.set q oM _)
    ·exact(D.setCell (Y8 _ _) oM _).drew
    ·show _=C7 t (uL d t);rw[<-r.out];simp only[C7,k.out];have e:y+5*p=i:=by have:=A.out;have:=k.out;omega
     rw[e,I.out]
  ·have k:t=24:=oM;subst k;go_wp2
   go_end0
   refine⟨rfl,D,?_⟩;show Holds enc _ b off (uL d 24).d;rw[<-r.out];exact q
end SP
namespace SP
attribute [local go_sem] cY dV dZ qJ
theorem Ch(b off:Nat)(d:St)(w:Ur)(hd:d.size=25)(hH:Holds enc w b off d):
 UH prog 250 #[.pointer (some ⟨b,off,none⟩)] w λe w'=>e=.returned (.tuple #[])/\Only b off 25 w w'/\Holds enc w' b off (chi d):=by
 go_enter func250,ntmps250;go_wp2;go_loopg [2] 5 (λg si wr=>∃k j,k+g=5/\si=.int .i64 ((5*k:Nat):Int)/\Holds enc wr b off j/\Only b off 25 w wr/\Hid (j=yE d k))
 case atStart=>exact⟨0,d,rfl,rfl,hH,Only.refl _ _ _ _,rfl⟩
 case round =>
  obtain⟨k,j,hk,rfl,a,hO,HE⟩:=hrel;have hs:j.size=25:=by rw[HE.out,yD,hd]
  by_cases h8:k<5
  ·obtain⟨i,hi⟩:∃i,5*k=i:=⟨_,rfl⟩
   rw[hi];have Hi:Hid (5*k=i):=hi;obtain⟨t,O⟩:∃x,j[i]! = x:=⟨_,rfl⟩
   obtain⟨s,P⟩:∃x,j[i+1]! = x:=⟨_,rfl⟩
   obtain⟨q,K⟩:∃x,j[i+2]! = x:=⟨_,rfl⟩
   obtain⟨p,Q⟩:∃x,j[i+3]! = x:=⟨_,rfl⟩
   obtain⟨m,M⟩:∃x,j[i+4]! = x:=⟨_,rfl⟩
   obtain⟨c0,f0⟩:=bP a i oM O;obtain⟨c1,f1⟩:=bP a (i+1) oM P;obtain⟨c2,f2⟩:=bP a (i+2) oM K;obtain⟨c3,f3⟩:=bP a (i+3) oM Q;obtain⟨c4,f4⟩:=bP a (i+4) oM M;have F:Hid (j[i]! = t):=O;have r:Hid (j[i+1]! = s):=P;have l:Hid (j[i+2]! = q):=K;have f:Hid (j[i+3]! = p):=Q;have c:Hid (j[i+4]! = m):=M;have Q0:=F;have Q1:=r;have Q2:=l;have Q3:=f;have Q4:=c;have b1:(i:Int)+1<25:=oM;have p1:0<=(i:Int)+1:=oM;have e1:((i:Int)+1).toNat=i+1:=oM;have v1:VS.wrap ((i:Int)+1)=(i:Int)+1:=Ws _ oM;have b2:(i:Int)+2<25:=oM;have p2:0<=(i:Int)+2:=oM;have W:((i:Int)+2).toNat=i+2:=oM;have v2:VS.wrap ((i:Int)+2)=(i:Int)+2:=Ws _ oM;have Z:(i:Int)+3<25:=oM;have p3:0<=(i:Int)+3:=oM;have e3:((i:Int)+3).toNat=i+3:=oM;have v3:VS.wrap ((i:Int)+3)=(i:Int)+3:=Ws _ oM;have b4:(i:Int)+4<25:=oM;have p4:0<=(i:Int)+4:=oM;have e4:((i:Int)+4).toNat=i+4:=oM;have v4:VS.wrap ((i:Int)+4)=(i:Int)+4:=Ws _ oM;go_wp2_with fail
   go_quiet (fail);clear c1 c2 c3 c4 f1 f2 f3 f4 b1 p1 e1 v1 b2 p2 W v2 Z p3 e3 v3 b4 p4 e4 v4;go_wp2_with fail
   go_region
   go_wp2_with fail
   generalize z:Yb _ _ _=W0;have h7:(bT j i (~~~s &&& q)).size=25:=by rw[dO];omega
   have E:Holds enc W0 b off (bT j i (~~~s &&& q)):=by rw[<-z];exact Holds.xor (Holds.drewN a _) oM F.out _
   have U:Only b off 25 w W0:=by rw[<-z];exact(hO.drewN _).setCell (o:=off+i) oM oM _
   generalize n:bT j i (~~~s &&& q)=v at *;have T:Hid (bT j i (~~~s &&& q)=v):=n;have r:Hid (v[i+1]! = s):=by show _=_;rw[<-n,bX _ _ _ _ oM];exact r.out
   have l:Hid (v[i+2]! = q):=by show _=_;rw[<-n,bX _ _ _ _ oM];exact l.out
   have f:Hid (v[i+3]! = p):=by show _=_;rw[<-n,bX _ _ _ _ oM];exact f.out
   have c:Hid (v[i+4]! = m):=by show _=_;rw[<-n,bX _ _ _ _ oM];exact c.out
   obtain⟨c1,f1⟩:=bP E (i+1) oM r.out;clear n z c0 f0;have b1:(i:Int)+1<25:=oM;have p1:0<=(i:Int)+1:=oM;have e1:((i:Int)+1).toNat=i+1:=oM;have v1:VS.wrap ((i:Int)+1)=(i:Int)+1:=Ws _ oM;go_region
   go_wp2_with fail
   generalize H:Yb _ _ _=W1;have ha:(bT v (i+1) (~~~q &&& p)).size=25:=by rw[dO];omega
   have R:Holds enc W1 b off (bT v (i+1) (~~~q &&& p)):=by rw[<-H];exact Holds.xor E oM r.out _
   have h1:Only b off 25 w W1:=by rw[<-H];exact(U).setCell (o:=off+(i+1)) oM oM _
   generalize u:bT v (i+1) (~~~q &&& p)=y at *;have X:Hid (bT v (i+1) (~~~q &&& p)=y):=u;have l:Hid (y[i+2]! = q):=by show _=_;rw[<-u,bX _ _ _ _ oM];exact l.out
   have f:Hid (y[i+3]! = p):=by show _=_;rw[<-u,bX _ _ _ _ oM];exact f.out
   have c:Hid (y[i+4]! = m):=by show _=_;rw[<-u,bX _ _ _ _ oM];exact c.out
   obtain⟨c2,f2⟩:=bP R (i+2) oM l.out;clear b1 p1 e1 v1;have b2:(i:Int)+2<25:=oM;have p2:0<=(i:Int)+2:=oM;have W:((i:Int)+2).toNat=i+2:=oM;have v2:VS.wrap ((i:Int)+2)=(i:Int)+2:=Ws _ oM;go_region
   go_wp2_with fail
   generalize D:Yb _ _ _=W2;have h9:(bT y (i+2) (~~~p &&& m)).size=25:=by rw[dO];omega
   have J:Holds enc W2 b off (bT y (i+2) (~~~p &&& m)):=by rw[<-D];exact Holds.xor R oM l.out _
   have h0:Only b off 25 w W2:=by rw[<-D];exact(h1).setCell (o:=off+(i+2)) oM oM _
   generalize A:bT y (i+2) (~~~p &&& m)=B at *;have Y:Hid (bT y (i+2) (~~~p &&& m)=B):=A;have f:Hid (B[i+3]! = p):=by show _=_;rw[<-A,bX _ _ _ _ oM];exact f.out
   have c:Hid (B[i+4]! = m):=by show _=_;rw[<-A,bX _ _ _ _ oM];exact c.out
   obtain⟨c3,f3⟩:=bP J (i+3) oM f.out;clear b2 p2 W v2;have Z:(i:Int)+3<25:=oM;have p3:0<=(i:Int)+3:=oM;have e3:((i:Int)+3).toNat=i+3:=oM;have v3:VS.wrap ((i:Int)+3)=(i:Int)+3:=Ws _ oM;go_region
   go_wp2_with fail
   generalize I:Yb _ _ _=W3;have hc:(bT B (i+3) (~~~m &&& t)).size=25:=by rw[dO];omega
   have G:Holds enc W3 b off (bT B (i+3) (~~~m &&& t)):=by rw[<-I];exact Holds.xor J oM f.out _
   have h6:Only b off 25 w W3:=by rw[<-I];exact(h0).setCell (o:=off+(i+3)) oM oM _
   generalize L:bT B (i+3) (~~~m &&& t)=C at *;have h5:Hid (bT B (i+3) (~~~m &&& t)=C):=L;have c:Hid (C[i+4]! = m):=by show _=_;rw[<-L,bX _ _ _ _ oM];exact c.out
   obtain⟨c4,f4⟩:=bP G (i+4) oM c.out;clear Z p3 e3 v3;have b4:(i:Int)+4<25:=oM;have p4:0<=(i:Int)+4:=oM;have e4:((i:Int)+4).toNat=i+4:=oM;have v4:VS.wrap ((i:Int)+4)=(i:Int)+4:=Ws _ oM;go_region
   go_wp2;generalize N:Yb _ _ _=W4;have hb:(bT C (i+4) (~~~t &&& s)).size=25:=by rw[dO];omega
   have h4:Holds enc W4 b off (bT C (i+4) (~~~t &&& s)):=by rw[<-N];exact Holds.xor G oM c.out _
   have h2:Only b off 25 w W4:=by rw[<-N];exact(h6).setCell (o:=off+(i+4)) oM oM _
   generalize h3:bT C (i+4) (~~~t &&& s)=V at *;have S:Hid (bT C (i+4) (~~~t &&& s)=V):=h3;go_roundg (gk-1)
   case measure=>omega
   case rel =>
    refine⟨k+1,V,oM,?_,?_,?_,?_⟩
    ·rw[<-Hi.out];go_num
    ·exact h4
    ·exact h2.drewN 4
    ·show V=rowAt (yE d k) (5*k);rw[<-HE.out,Hi.out];unfold rowAt;rw[Q0.out,Q1.out,Q2.out,Q3.out,Q4.out,T.out,X.out,Y.out,h5.out,S.out]
  ·have c:k=5:=oM;subst c;go_wp2
   go_end0
   refine⟨rfl,hO,?_⟩;show Holds enc _ b off (yE d 5);rw[<-HE.out];exact a
end SP
namespace SP
attribute [local go_sem] cY dV dZ pB
theorem Gz(j:Nat)(k:j<7):∃p:Nat,wrap64 (wrap64 ((2:Int)^j)-1)=(p:Int)/\p<=63/\Hid (2^j-1=p):=by
 have H:∀j:Fin 7,wrap64 (wrap64 ((2:Int)^j.val)-1)=((2^j.val-1:Nat):Int)/\2^j.val-1<=63:=dK;exact⟨_,(H ⟨j,k⟩).1,(H ⟨j,k⟩).2,rfl⟩
theorem qQ(r:Nat)(w:Ur)(o:r<256):
 UH prog 251 #[iZ r] w λe w'=>e=.returned (.tuple #[uZ (u (rcC r)),iZ (rcN r:Int)])/\w'=w:=by
 go_enter func251,ntmps251;go_wp2
 go_loop [0,2,6] (λs0 s2 s6=>∃j:Nat,j<=7/\∃(c:BitVec 64) (q:Nat),s6=iZ j/\s2=uZ (u c)/\s0=iZ q/\q<256/\Hid (wR r j=(c,q))) (λ_ _ s6=>7-(intOf s6).toNat)
 case atStart=>exact⟨0,dC,0,r,rfl,rfl,rfl,o,rfl⟩
 case round =>
  obtain⟨j,t,c,q,rfl,rfl,rfl,f,i⟩:=hrel;by_cases g:j<7
  ·have s:=OR q f;have a2:=OQ q f;obtain⟨p,x,y,n⟩:=Gz j g;have l:Hid (wR r (j+1)=(c ||| Yl 64 (q%2) <<< p,wS q)):=by
    show((wR r j).1 ||| Yl 64 ((wR r j).2%2) <<< (2^j-1),wS (wR r j).2)=_;rw[i.out,n.out]
   have v:=Iq (Yl 64 (q%2)) p;have k:=BV q f;by_cases b:255<2*q
   ·have d:Hid (wS q=2*q ^^^ 369):=yCj b;rw[d.out]at k;generalize 2*q ^^^ 369=m at *;go_wp2
    go_round
    case rel=>exact⟨j+1,oM,_,m,by go_num,rfl,rfl,k,by rw[l.out,d.out];rfl⟩
    case measure=>simp[intOf];omega
   ·have d:Hid (wS q=2*q):=yCk b;go_wp2
    go_round
    case rel=>exact⟨j+1,oM,_,2*q,by go_num,rfl,by go_num,oM,by rw[l.out,d.out];rfl⟩
    case measure=>simp[intOf];omega
  ·have k:j=7:=oM;subst k;go_wp2
   go_ret2
   unfold rcC rcN;rw[i.out];exact⟨rfl,rfl⟩
theorem tW(b off:Nat)(d:St)(w:Ur)(hd:d.size=25)(I:Holds enc w b off d):
 UH prog 241 #[oZ b off] w λe w'=>e=.returned (.tuple #[])/\Only b off 25 w w'/\Holds enc w' b off (perm d):=by
 go_enter func241,ntmps241;go_wp2;go_loopg [2,3,4] 24 (λg sc B A wr=>∃(k:Nat) (c:BitVec 64) (f:St),k+g=24/\A=iZ k/\sc=uZ (u c)/\B=iZ (BW k:Nat)/\Holds enc wr b off f/\Only b off 25 w wr/\Hid (f=sF d k))
 case atStart=>exact⟨0,0,d,rfl,rfl,rfl,rfl,I,Only.refl _ _ _ _,rfl⟩
 case round =>
  obtain⟨k,c,f,K,rfl,rfl,rfl,y,z,p⟩:=hrel;have l:f.size=25:=by rw[p.out,tX d hd]
  by_cases C:k<24
  ·have G:(k:Int)<24:=oM;go_wp2_with fail
   refine(xH b off f _ l y).mono ?_;rintro e N ⟨rfl,s,v⟩;go_wp2_with fail
   refine(uK b off _ _ (by rw[lO,l]) v).mono ?_;rintro e M ⟨rfl,m,q⟩;go_wp2_with fail
   refine(Ch b off _ _ (qC _ (by rw[lO,l])) q).mono ?_;rintro e L ⟨rfl,t,j⟩;have D:Hid (BW (k+1)=rcN (BW k)):=rfl;have J:Hid (sF d (k+1)=xM (sF d k) (rcC (BW k))):=rfl;have n:=LW k;generalize BW k=r at *;go_wp2_with fail
   refine(qQ r _ n).mono ?_;rintro e O ⟨rfl,rfl⟩;have H:(chi (zK (wF f))).size=25:=by rw[Cy,qC _ (by rw[lO,l])]
   obtain⟨x,hx⟩:∃x,(chi (zK (wF f)))[0]! = x:=⟨_,rfl⟩
   obtain⟨E,F⟩:=bP j 0 oM hx;rw[XB]at E F;have a:Hid ((chi (zK (wF f)))[0]! = x):=hx;clear hx;go_wp2_with fail
   go_region
   go_wp2;go_roundg (gk-1)
   case measure=>omega
   case rel =>
    refine⟨k+1,rcC r,xM f (rcC r),oM,by go_num,rfl,by rw[D.out],?_,?_,?_⟩
    ·exact Holds.drew (Holds.xor (i:=0) j oM a.out (rcC r))
    ·exact((((z.trans s).trans m).trans t).setCell (o:=off) oM oM _).drew
    ·rw[J.out,p.out];rfl
  ·have j:k=24:=oM;subst j;go_wp2
   go_end0
   refine⟨rfl,z,?_⟩;unfold perm;rw[<-p.out];exact y
end SP
namespace SP
attribute [local go_sem] cY dV dZ pB Eo
theorem FO{w:Ur}{b off:Nat}{d:Bs}(h:Holds encB w b off d)(i:Nat)(k:i<d.size){x:UInt8}(hx:d[i]! = x):
 w.cell? ⟨b,off+i,none⟩=some (.int .u8 (ub x))/\w.frozen? ⟨b,off+i,none⟩=false:=by
 rw[<-hx];exact h i k
theorem word_any(i f o len cap:Nat)(b:Bs)(w:Ur)(l:Holds encB w i f b)(s:8<=len)(ho:o+8<=b.size)(t:len<=4611686018427387904):
 UH prog 247 #[.slice (some ⟨i,f+o,none⟩) len cap] w λe w'=>e=.returned (uZ (u (wordOf b o)))/\w'=w:=by
 go_enter func247,ntmps247;go_wp2
 go_loop [3,5] (λs3 s5=>∃(k:Nat) (c:BitVec 64),k<=8/\s5=iZ k/\s3=uZ (u c)/\Hid (vZ b o k=c)) (λ_ s5=>8-(intOf s5).toNat)
 case atStart=>exact⟨0,0,dC,rfl,rfl,rfl⟩
 case round =>
  obtain⟨k,c,p,rfl,rfl,g⟩:=hrel;by_cases j:k<8
  ·obtain⟨x,hx⟩:∃x,b[o+k]! = x:=⟨_,rfl⟩
   obtain⟨d,m⟩:=FO l (o+k) oM hx;rw[<-WR]at d;have n:Hid (vZ b o (k+1)=c ||| wide x <<< (8*k)):=by
    show vZ b o k ||| wide b[o+k]! <<< (8*k)=_
    rw[g.out,hx]
   clear hx m;have q:=Iq (wide x) (8*k);have r:(k:Int)<(len:Int):=oM;go_wp2
   go_round
   case rel=>exact⟨k+1,_,oM,by go_num,rfl,n⟩
   case measure=>simp[intOf];omega
  ·have d:k=8:=oM;subst d;go_wp2;go_ret;unfold wordOf;rw[g.out];exact⟨rfl,rfl⟩
theorem MA(b off j f len cap:Nat)(c:Bs)(d:St)(w:Ur)(hd:d.size=25)(a:Holds enc w b off d)(s:Holds encB w j f c)(G:c.size=len)(t:len<=200)(r:len<=cap)
 (i:j≠b\/f+len<=off\/off+25<=f) :
 UH prog 240 #[.pointer (some ⟨b,off,none⟩),.slice (some ⟨j,f,none⟩) len cap] w λe w'=>e=.returned (.tuple #[])/\Only b off 25 w w'/\Holds enc w' b off (kX c d (len/8)):=by
 go_enter func240,ntmps240;go_wp2;go_loopg [8] (len/8) (λg s8 wr=>∃(k:Nat) (i:St),k+g=len/8/\s8=.int .i64 k/\Holds enc wr b off i/\Only b off 25 w wr/\Hid (i=kX c d k))
 case atStart=>exact⟨0,d,oM,rfl,a,Only.refl _ _ _ _,rfl⟩
 case round =>
  obtain⟨k,i,C,rfl,q,n,p⟩:=hrel;have E:i.size=25:=by rw[p.out,mC,hd]
  by_cases y:k<len/8
  ·have m:Holds encB wr j f c:=by
    by_cases l:j=b
    ·subst l;exact Holds.same s n oM
    ·exact Holds.other s n l oM
   obtain⟨x,hx⟩:∃x,i[k]! = x:=⟨_,rfl⟩
   obtain⟨F,H⟩:=bP q k oM hx;have l:Hid (i[k]! = x):=hx;clear hx;have I:(k:Int)<25:=oM;have D:(0:Int)<=(k:Int)*8:=oM;have A:(k:Int)*8<=(len:Int):=oM;have B:((k:Int)*8).toNat=8*k:=oM;have s1:VS.wrap ((k:Int)*8)=(k:Int)*8:=Ws _ oM;have lt:(k:Int)<(len:Int)/8:=oM;go_wp2_with fail
   have v:(cap=8*k)=False:=eq_false oM;have u:Hid (Holds encB wr.drew j f c):=Holds.drew m;have z:Hid (8*k+8<=c.size):=by show _<=_;omega
   clear m;go_region_with (go_at_call 247;refine(word_any j f (8*k) (len-8*k) (cap-8*k) c _ u.out oM z.out oM).mono ?_;rintro e J ⟨rfl,rfl⟩)
   all_goals
    go_wp2;go_roundg (gk-1)
    case measure=>omega
    case rel =>
     refine⟨k+1,bT i k (wordOf c (8*k)),oM,by go_num,?_,?_,?_⟩
     ·exact Holds.drew (Holds.xor q oM l.out _)
     ·exact(n.setCell (o:=off+k) oM oM _).drew
     ·rw[p.out];rfl
  ·have l:k=len/8:=oM;have lt:(len:Int)/8<=(k:Int):=oM;go_wp2
   go_end0
   refine⟨rfl,n,?_⟩;rw[<-l,<-p.out];exact q
theorem slice22:prog.underlying 23=some (.slice 5):=kR
theorem info5:(prog.info? 5).map (λi=>(i.zero,i.size,i.bytes))=some (some (.int .u8 0),1,1):=kR
attribute [local go_sem] NE
theorem sO(b off n:Nat)(d:St)(w:Ur)(hd:d.size=25)(q:Holds enc w b off d)(C:n<=200):
 UH prog 190 #[oZ b off,iZ n] w λe w'=>e=.returned (sZ w.heap.size n n)/\kZ w w'/\Holds encB w' w.heap.size 0 (front d n):=by
 have z:=Holds.lt q oM;have s:=yBE (P:=prog) 23 5 (.int .u8 0) 1 slice22 info5 rfl .i64 .i64 n oM oM;go_enter func190,ntmps190;go_wp2;generalize c:(w.alloc _)=v;go_loopg [11] n (λg s11 wr=>∃(k:Nat) (f:Bs),k+g=n/\s11=iZ k/\Holds encB wr w.heap.size 0 f/\Only w.heap.size 0 n v wr/\Hid (f=gQ d n k))
 case atStart =>
  refine⟨0,_,oM,rfl,?_,Only.refl _ _ _ _,rfl⟩;rw[<-c];exact Holds.made (enc:=encB) w 5 n 0
 case round =>
  obtain⟨k,f,a,rfl,j,l,p⟩:=hrel;have A:f.size=n:=by rw[p.out,mF]
  have y:Holds enc wr b off d:=Holds.other (by rw[<-c];exact Holds.below q ((UR _ _).alloc (Uw _) _) z) l oM oM;by_cases t:k<n
  ·obtain⟨x,hx⟩:∃x,d[k/8]! = x:=⟨_,rfl⟩
   obtain⟨B,D⟩:=bP y (k/8) oM hx;obtain⟨c1,u⟩:=j k oM;rw[UD]at c1 u;have m:Hid (byteOf d k=low (x >>> (8*(k%8)))):=by show low _=_;rw[hx]
   have r:=Nu x (8*(k%8));go_wp2;go_roundg (gk-1)
   case measure=>omega
   case rel =>
    refine⟨k+1,f.setIfInBounds k (low (x >>> (8*(k%8)))),oM,by go_num,?_,?_,?_⟩
    ·have:=Holds.set j (i:=k) oM (low (x >>> (8*(k%8))));rw[UD]at this;exact this
    ·exact l.setCell (o:=k) oM oM _
    ·show _=(gQ d n k).setIfInBounds k (byteOf d k);rw[m.out,p.out]
  ·have m:k=n:=oM;go_wp2;go_ret;refine⟨rfl,?_,?_⟩
   ·rw[<-c]at l;exact l.fresh
   ·unfold front;rw[p.out,m]at j;exact j
end SP
namespace SP
structure Of where
 x:Nat
 y:Nat
 o:Array Nat
theorem zx(x:BitVec 64):0 ^^^ x=x:=BitVec.zero_xor
end SP
namespace SP
open Go.Sort
def vW:St:=UJ 25 0
theorem Gh(j:Nat)(h:j<25):vW[j]! = 0:=by
 have k:j<(UJ 25 (0:BitVec 64)).size:=by rw[UP];exact h
 unfold vW;rw[getElem!_pos (UJ 25 (0:BitVec 64)) j k,Ww]
end SP
namespace SP
def fill(i:Nat):UInt8:=UM (i%251) ^^^ 165
def lentTo(s:ByteArray):Nat->Bs
 | 0=>s.data++UJ 160 0
 | k+1=>(lentTo s k).setIfInBounds (s.size+k) (fill (s.size+k))
def lent(s:ByteArray):Bs:=lentTo s 160
variable {w w1:Ur}{b o n:Nat}
theorem heap_setCells(b:Nat){k:Nat}(c:k≠b):∀(vs:List Ut) (p:Nat) (w:Ur),(w.setCells b p vs).heap[k]? = w.heap[k]?
 | [],_,_=>rfl
 | v :: r,p,w=>by rw[World.setCells,heap_setCells b c r (p+1) _,Zr _ _ _ _ c]
theorem Only.setCells(h:Only b o n w w1)(vs:List Ut)(p:Nat)(g:o<=p)(e:p+vs.length<=o+n):Only b o n w (w1.setCells b p vs):=by
 have c:=below_setCells (B:=0) (b:=b) (Wy _) vs p w1 (UR 0 w1);exact h.trans ⟨c.os,c.tape,c.output,c.size,λk _ d=>heap_setCells b d vs p w1,
  λq f=>Z4 b vs p w1 ⟨b,q,none⟩ (λ_ _=>by simp only;omega),λq=>yAf b vs p w1 _⟩
theorem Holds.setCells{k r:Bs}(h:Holds encB w b o k)(vs:List Ut)(p:Nat)(g:r.size=k.size)(l:p+vs.length<=k.size)
 (f:∀j (d:j<vs.length),vs[j]=encB r[p+j]!) (c:∀j,j<k.size->j<p\/p+vs.length<=j->r[j]! = k[j]!):Holds encB (w.setCells b (o+p) vs) b o r:=by
 intro j d;rw[g]at d;rw[yAf];refine⟨?_,(h j d).2⟩;by_cases e:j<p\/p+vs.length<=j
 ·rw[Z4 b vs (o+p) w ⟨b,o+j,none⟩ (λ_ _=>by simp only;omega),c j d e];exact(h j d).1
 ·have c:j-p<vs.length:=oM;have:=World.cell?_setCells_in b vs (o+p) w (λi m=>by
   have:=(h (p+i) oM).1;rw[<-WR]at this;rw[this];rfl) (j-p) c
  rw[show o+p+(j-p)=o+j by omega]at this;rw[this,f (j-p) c,show p+(j-p)=j by omega]
theorem app_front(a r:Bs)(j:Nat)(k:j<a.size):(a++r)[j]! = a[j]:=by
 have h:j<(a++r).size:=by rw[VN];omega
 rw[getElem!_pos (a++r) j h,Z1 k]
theorem app_back(a r:Bs)(j:Nat)(b:a.size<=j)(c:j<a.size+r.size):(a++r)[j]! = r[j-a.size]!:=by
 have h:j<(a++r).size:=by rw[VN];omega
 have k:j-a.size<r.size:=oM;rw[getElem!_pos (a++r) j h,ZW b,getElem!_pos r (j-a.size) k]
theorem rep_at(n j:Nat)(h:j<n):(UJ n (0:UInt8))[j]! = 0:=by
 have k:j<(UJ n (0:UInt8)).size:=by rw[UP];exact h
 rw[getElem!_pos (UJ n (0:UInt8)) j k,Ww]
theorem size_of5(P:Program)(e:U8)(h:(P.info? e).map (·.size)=some 1):∀w,(yAa e).run P w=.ok 1 w:=by
 intro w;cases k:P.info? e with
 | none=>simp[k]at h
 | some i =>
  simp[k]at h;simp[yAa,typeInfo,k,h]
theorem conv_str(P:Program)(src k e:U8)(l:P.underlying src=some (.slice e))(m:P.underlying e=some (.int .u8))(hd:P.underlying k=some .string)
 (w:Ur) (b o n cap:Nat) (c:Bs) (r:Holds encB w b o c) (q:c.size=n):(convert src k (.slice (some ⟨b,o,none⟩) n cap)).run P w=.ok (.string ⟨c⟩) w:=by
 have h:=run_convert_bytes_back (P:=P) w src k e ⟨b,o,none⟩ cap c.toList l m hd (λj i=>by
  have d:j<c.size:=by simpa using i
  have f:=(r j d).1;rw[getElem!_pos c j d]at f;have p:(⟨b,o,none⟩:Wu).add j=⟨b,o+j,none⟩:=by
   unfold Zi;by_cases g:j=0
   ·subst g;rfl
   ·rw[yCk g]
  rw[p,f];simp[encB,ub])
 simpa[q]using h
end SP
namespace SP
theorem int5:prog.underlying 5=some (.int .u8):=kR
theorem str9:prog.underlying 9=some .string:=kR
theorem size5:∀w,(yAa 5).run prog w=.ok 1 w:=size_of5 prog 5 kR
end SP
namespace SP
open Go.Sort
theorem low_bit(v:BitVec 64)(i:Nat)(h:i<8):(low v).toNat.testBit i=v.getLsbD i:=by
 unfold low;rw[YH,Nat.testBit_mod_two_pow,BitVec.getLsbD];simp[h]
theorem DU(d:St)(n k j:Nat)(e:k<=n)(c:j<n):(gQ d n k)[j]! = if j<k then byteOf d j else 0:=by
 induction k with
 | zero =>
  have b:j<(UJ n (0:UInt8)).size:=by rw[UP];exact c
  rw[gQ,getElem!_pos (UJ n (0:UInt8)) j b,Ww,yCk oM]
 | succ k ih =>
  rw[gQ];by_cases h:j=k
  ·subst h;rw[getElem!_set_same _ _ _ (by rw[mF];exact c),yCj oM]
  ·rw[getElem!_set_other _ _ _ _ h,ih oM];by_cases b:j<k
   ·rw[yCj b,yCj oM]
   ·rw[yCk b,yCk oM]
theorem Ju(d:St)(n j:Nat)(k:j<n):(front d n)[j]! = byteOf d j:=by
 unfold front;rw[DU d n n j (Uw _) k,yCj k]
/-! ### The sponge, byte by byte -/
structure Sp where
  d : St
  p : Bs
  h : Nat
structure Ok(S:Sp):Prop where
 d25:S.d.size=25
 p136:S.p.size=136
 hlt:S.h<136
def jV(S:Sp):Sp:={ d:=perm (kX S.p S.d 17),p:=S.p,h:=0 }
def Du(S:Sp)(x:UInt8):Sp:=
 if S.h+1=136 then jV { d:=S.d,p:=S.p.setIfInBounds S.h x,h:=S.h } else { d:=S.d,p:=S.p.setIfInBounds S.h x,h:=S.h+1 }
def fU(S:Sp)(l:List UInt8):Sp:=l.foldl Du S
def splice(p:Bs):Nat->List UInt8->Bs
 | _,[]=>p
 | i,x :: r=>splice (p.setIfInBounds i x) (i+1) r
theorem lP(S:Sp)(a b:List UInt8):fU S (a++b)=fU (fU S a) b:=List.foldl_append
theorem dM(p:Bs)(i:Nat)(l:List UInt8):(splice p i l).size=p.size:=by
 induction l generalizing p i with
 | nil=>rfl
 | cons x r ih=>rw[splice,ih,VF]
theorem kO(p:Bs)(i:Nat)(l:List UInt8)(j:Nat)(c:i+l.length<=p.size)(b:j<p.size):(splice p i l)[j]! = if i<=j/\j<i+l.length then l[j-i]! else p[j]!:=by
 induction l generalizing p i with
 | nil=>simp[splice];omega
 | cons x r ih =>
  simp only[Vj]at c;rw[splice,ih _ _ (by rw[VF];omega) (by rw[VF];exact b)];by_cases h:j=i
  ·subst h;rw[yCk oM,getElem!_set_same _ _ _ b,yCj (by simp),YU];rfl
  ·rw[getElem!_set_other _ _ _ _ h];by_cases k:i+1<=j/\j<i+1+r.length
   ·rw[yCj k,yCj (by simp;omega),show j-i=(j-(i+1))+1 by omega];rfl
   ·rw[yCk k,yCk (by simp;omega)]
theorem nU(d:St)(p:Bs)(h:Nat):jV ⟨d,p,h⟩=⟨perm (kX p d 17),p,0⟩:=by unfold jV;rfl
theorem LC(S:Sp):(jV S).d=perm (kX S.p S.d 17):=by
 obtain⟨d,p,h⟩:=S;rw[nU]
theorem Lz(S:Sp):(jV S).p=S.p:=by
 obtain⟨d,p,h⟩:=S;rw[nU]
theorem LA(S:Sp):(jV S).h=0:=by
 obtain⟨d,p,h⟩:=S;rw[nU]
theorem Ly{S:Sp}(k:S.d.size=25)(b:S.p.size=136):Ok (jV S):=by
 have hd:(kX S.p S.d 17).size=25:=by rw[mC,k]
 refine⟨?_,by rw[Lz,b],?_⟩
 ·rw[LC];exact sE _ hd
 ·rw[LA];decide
theorem LX{S:Sp}(h:Ok S)(x:UInt8):Ok (Du S x):=by
 have:=h.hlt;unfold Du;by_cases e:S.h+1=136
 ·rw[yCj e];exact Ly h.d25 (by show(S.p.setIfInBounds _ _).size=136;rw[VF];exact h.p136)
 ·rw[yCk e];exact⟨h.d25,by show(S.p.setIfInBounds _ _).size=136;rw[VF];exact h.p136,by show S.h+1<136;omega⟩
theorem jD{S:Sp}(h:Ok S)(l:List UInt8):Ok (fU S l):=by
 induction l generalizing S with
 | nil=>exact h
 | cons x r ih=>exact ih (LX h x)
theorem tN(S:Sp)(l:List UInt8)(c:l≠[])(k:S.h+l.length<=136):
 fU S l=if S.h+l.length=136 then jV { d:=S.d,p:=splice S.p S.h l,h:=S.h } else { d:=S.d,p:=splice S.p S.h l,h:=S.h+l.length }:=by
 induction l generalizing S with
 | nil=>exact absurd rfl c
 | cons x r ih =>
  show fU (Du S x) r=_;simp only[Vj]at k⊢;cases r with
  | nil =>
   unfold Du fU splice;simp only[List.foldl_nil,List.length_nil];by_cases e:S.h+1=136
   ·rw[yCj e,yCj oM];rfl
   ·rw[yCk e,yCk oM];rfl
  | cons y r' =>
   have e:¬S.h+1=136:=by simp only[Vj]at k;omega
   have f:Du S x = { d:=S.d,p:=S.p.setIfInBounds S.h x,h:=S.h+1 }:=by unfold Du;rw[yCk e]
   rw[f,ih _ (by simp) (by simp only[Vj]at k⊢;omega)];simp only[splice,Vj];by_cases b:S.h+(r'.length+1+1)=136
   ·rw[yCj oM,yCj b];rfl
   ·rw[yCk oM,yCk b,show S.h+1+(r'.length+1)=S.h+(r'.length+1+1) by omega]
/-! ### The end -/
def ended(p : Bs)(h : Nat)(e : UInt8): Bs:=
  let q:=(splice p h (VB (136-h) 0)).setIfInBounds h e
  q.setIfInBounds 135 (q[135]! ^^^ 128)
def sQ(S:Sp)(e:UInt8):Sp:=jV { d:=S.d,p:=ended S.p S.h e,h:=S.h }
def jT(h:Nat)(e:UInt8):List UInt8:=
 (e :: VB (135-h) 0).set (135-h) ((e :: VB (135-h) 0)[135-h]! ^^^ 128)
theorem fM(h:Nat)(e:UInt8)(hh:h<136):(jT h e).length=136-h:=by
 unfold jT;rw[List.length_set,Vj,Xf];omega
theorem P7(a b:Bs)(n:Nat)(d:a.size=n)(e:b.size=n)(h:∀j,j<n->a[j]! = b[j]!):a=b:=by
 apply Array.ext oM;intro i c k;have:=h i oM;rwa[getElem!_pos a i c,getElem!_pos b i k]at this
theorem OZ(h:Nat)(e:UInt8)(j:Nat)(d:j<136-h)(hh:h<136):(jT h e)[j]! = (if j=0 then e else 0) ^^^ (if j=135-h then 128 else 0):=by
 have f:∀j,j<136-h->(e :: VB (135-h) (0:UInt8))[j]! = if j=0 then e else 0:=by
  intro j d;cases j with
  | zero=>rfl
  | succ j =>
   have b:j+1<(e :: VB (135-h) (0:UInt8)).length:=by rw[Vj,Xf];omega
   rw[getElem!_pos (e :: VB (135-h) (0:UInt8)) (j+1) b];simp
 have k:=fM h e hh;have b:j<(e :: VB (135-h) (0:UInt8)).length:=by rw[Vj,Xf];omega
 rw[getElem!_pos (jT h e) j (by rw[k];exact d)];unfold jT;rw[List.getElem_set];by_cases c:135-h=j
 ·rw[yCj c,f (135-h) oM,c,yCj (rfl:j=j)]
 ·rw[yCk c,yCk (show ¬j=135-h by omega)];have:=f j d;rw[getElem!_pos (e :: VB (135-h) (0:UInt8)) j b]at this;rw[this];simp
theorem DX(p:Bs)(h:Nat)(e:UInt8):(ended p h e).size=p.size:=by
 unfold ended;simp only[VF,dM]
theorem BR(n j:Nat)(h:j<n):(VB n (0:UInt8))[j]! = 0:=by
 rw[getElem!_pos _ j (by simpa using h)];simp
theorem JE(p:Bs)(h:Nat)(e:UInt8)(c:p.size=136)(hh:h<136):ended p h e=splice p h (jT h e):=by
 have g:(splice p h (VB (136-h) 0)).size=136:=by rw[dM,c]
 refine P7 _ _ 136 (by rw[DX,c]) (by rw[dM,c]) (λj d=>?_);have f:∀j,j<136->((splice p h (VB (136-h) 0)).setIfInBounds h e)[j]! = if j<h then p[j]! else if j=h then e else 0:=by
  intro j d;by_cases k:j=h
  ·rw[k,getElem!_set_same _ _ _ oM,yCk oM,yCj rfl]
  ·rw[getElem!_set_other _ _ _ _ k,kO _ _ _ _ (by rw[Xf,c];omega) oM,Xf];by_cases b:j<h
   ·rw[yCk oM,yCj b]
   ·rw[yCj oM,yCk b,yCk k,BR _ _ oM]
 have hR:(splice p h (jT h e))[j]! = if j<h then p[j]! else(if j=h then e else 0) ^^^ (if j=135 then 128 else 0):=by
  rw[kO _ _ _ _ (by rw[fM h e hh,c];omega) oM,fM h e hh];by_cases b:j<h
  ·rw[yCk (show ¬(h<=j/\j<h+(136-h)) by omega),yCj b]
  ·rw[yCj (show h<=j/\j<h+(136-h) by omega),yCk b,OZ h e _ oM hh];have k:(j-h=0)=(j=h):=by apply propext;omega
   have i:(j-h=135-h)=(j=135):=by apply propext;omega
   simp only[k,i]
 have i:(ended p h e)[j]! = if j<h then p[j]! else(if j=h then e else 0) ^^^ (if j=135 then 128 else 0):=by
  unfold ended;by_cases k:j=135
  ·rw[k,getElem!_set_same _ _ _ (by rw[VF,g];decide),f 135 dC,yCk (show ¬135<h by omega),yCk (show ¬135<h by omega),yCj (rfl:135=135)]
  ·rw[getElem!_set_other _ _ _ _ k,f j d];by_cases b:j<h
   ·rw[yCj b,yCj b]
   ·rw[yCk b,yCk b,yCk k];simp
 rw[i,hR]
theorem GN{S:Sp}(h:Ok S)(e:UInt8):sQ S e=fU S (jT S.h e):=by
 have:=h.hlt;have k:=fM S.h e h.hlt;rw[tN S _ (by intro c;rw[c]at k;simp at k;omega) oM,yCj oM];unfold sQ;rw[JE _ _ _ h.p136 h.hlt]
end SP
namespace SP
theorem Only.widen{b o n k c:Nat}{w w':Ur}(h:Only b o n w w')(e:k<=o)(d:o+n<=k+c):Only b k c w w':=
 ⟨h.os,h.tape,h.output,h.size,h.block,λq f=>h.cell q oM,h.froz⟩
structure HSp(w:Ur)(b:Nat)(S:Sp):Prop where
 d:Holds enc w b 0 S.d
 p:Holds encB w b 25 S.p
 h:w.cell? ⟨b,161,none⟩=some (iZ (S.h:Int))
 f:w.frozen? ⟨b,161,none⟩=false
theorem HSp.drew{w:Ur}{b:Nat}{S:Sp}(h:HSp w b S):HSp w.drew b S:=⟨h.d,h.p,h.h,h.f⟩
theorem HSp.lt{w:Ur}{b:Nat}{S:Sp}(h:HSp w b S):b<w.heap.size:=Xo _ _ h.h
theorem HSp.below{w w':Ur}{b B:Nat}{S:Sp}(h:HSp w b S)(k:Below B w w')(c:b<B):HSp w' b S:=
 ⟨Holds.below h.d k c,Holds.below h.p k c,by rw[k.cell (p:=⟨b,161,none⟩) c];exact h.h,by rw[k.frozen (p:=⟨b,161,none⟩) c];exact h.f⟩
theorem wI(b:Nat)(S:Sp)(w:Ur)(f:S.d.size=25)(g:S.p.size=136)(n:HSp w b S):
 UH prog 225 #[.pointer (some ⟨b,0,none⟩)] w λe w'=>e=.returned (.tuple #[])/\Only b 0 162 w w'/\HSp w' b (jV S):=by
 obtain⟨d,p,h⟩:=S;dsimp only at f g;have D:Holds enc w b 0 d:=n.d;have A:Holds encB w b 25 p:=n.p;have a:=n.h;have hf:=n.f;dsimp only at a;rw[nU];clear n;have u:(perm (kX p d 17)).size=25:=sE _ (by rw[mC,f]);generalize l:perm (kX p d 17)=C at u⊢;have y:Hid (perm (kX p d 17)=C):=l;clear l;go_enter func225,ntmps225;go_wp2;go_still_tail 7,mixed;go_wp2_with fail
 refine(MA b 0 b 25 136 136 p d _ f (Holds.drew D) (Holds.drew A) g dC (Uw _) oM).mono ?_;rintro e s ⟨rfl,o,r⟩;have k:Only b 0 25 w s:=((Only.refl b 0 25 w).drew).trans o;have j:Holds enc s b 0 (kX p d 17):=r;have x:=Holds.same A k oM;have c1:s.cell? ⟨b,161,none⟩=some (.int .i64 h):=by rw[k.cell 161 oM];exact a
 have B:s.frozen? ⟨b,161,none⟩=false:=by rw[k.froz];exact hf
 clear o r;go_wp2_with fail
 refine(tW b 0 _ _ (by rw[mC,f]) j).mono ?_;rintro e q ⟨rfl,c,m⟩;rw[y.out]at m;have z:=Holds.same x c oM;have c2:q.cell? ⟨b,161,none⟩=some (.int .i64 h):=by rw[c.cell 161 oM];exact c1
 have f2:q.frozen? ⟨b,161,none⟩=false:=by rw[c.froz];exact B
 go_wp2
 go_end0
 have i:Only b 161 1 q (q.setCell ⟨b,161,none⟩ (.int .i64 0)):=(Only.refl b 161 1 q).setCell oM oM _;have t:=Holds.same m i (U4 oM);have v:=Holds.same z i (U4 oM);exact⟨rfl,((k.trans c).widen (Uw _) oM).trans (i.widen oM oM),⟨t,v,VV _ _ _ c2,by rw[VM];exact f2⟩⟩
theorem ints5:(prog.info? 5).map (·.size)=some 1:=kR
theorem iO{w:Ur}{b o:Nat}{p:Bs}(h:Holds encB w b o p)(i:Nat)(l:List UInt8)(d:i+l.length<=p.size):Holds encB (w.setCells b (o+i) (l.map encB)) b o (splice p i l):=by
 refine Holds.setCells h _ i (dM p i l) (by rw[UQ];exact d) (λj c=>?_) (λj c k=>?_)
 ·rw[UQ]at c;rw[kO p i l (i+j) d oM,yCj oM,WL,getElem!_pos l j c,Xd]
 ·rw[UQ]at k;rw[kO p i l j d c,yCk oM]
def piece(b:Bs)(k n:Nat):List UInt8:=(b.toList.drop k).take n
theorem qW(b:Bs)(k n:Nat)(h:k+n<=b.size):(piece b k n).length=n:=by
 unfold piece;rw[List.length_take,List.length_drop,UK];omega
theorem piece_at(b:Bs)(k n j:Nat)(h:k+n<=b.size)(c:j<n)(d:j<(piece b k n).length):(piece b k n)[j]=b[k+j]!:=by
 have e:(piece b k n)[j]? = some b[k+j]!:=by
  unfold piece;rw[List.getElem?_take_of_lt c,List.getElem?_drop,Vq,U0 oM,getElem!_pos b (k+j) oM]
 exact(UF.1 e).2
theorem Db(b:Bs)(k n:Nat):b.toList.take (k+n)=b.toList.take k++piece b k n:=List.take_add
theorem D3{w:Ur}{b h f o len cap n:Nat}{p d:Bs}{k:Nat}(m:Holds encB w b 25 p)(a:p.size=136)(u:Holds encB w f o d)(hh:h<136)(z:k+len<=d.size)(g:XP len (136-h)=n):
 (XZ #[23,23] 3 #[.slice (some ⟨b,25+h,none⟩) (136-h) (136-h),.slice (some ⟨f,o+k,none⟩) len cap]).run prog w=.ok (goInt n) (w.setCells b (25+h) ((piece d k n).map encB)):=by
 have y:n<=len:=by rw[<-g];exact Z7 _ _
 have s:n<=136-h:=by rw[<-g];exact ZX _ _
 have c:((piece d k n).map encB).length=n:=by rw[UQ,qW d k n oM]
 have:=run_copy_cells (P:=prog) w 23 23 3 5 b (25+h) (136-h) (136-h) ⟨f,o+k,none⟩ len cap ((piece d k n).map encB) slice22 ints5 (by rw[c,g])
  (λj v e=>by
   obtain⟨q,l⟩:=UF.1 e;rw[c]at q;have r:=(u (k+j) oM).1;rw[Xd,piece_at d k n j oM q]at l;have t:(⟨f,o+k,none⟩:Wu).add j=⟨f,o+(k+j),none⟩:=by
    unfold Zi;by_cases i:j=0
    ·subst i;rw[yCj rfl];rfl
    ·rw[yCk i,WR]
   rw[t,r,l])
  (λj e=>by
   rw[c]at e;have:=(m (h+j) oM).1;rw[<-WR]at this;rw[this];rfl)
  (λj e=>by
   rw[c]at e;have:=(m (h+j) oM).2;rw[<-WR]at this;exact this)
  (λv hv=>by
   obtain⟨x,_,rfl⟩:=Vn.1 hv;rfl)
 rw[c]at this;exact this
theorem rE{w:Ur}{b:Nat}{d:St}{p:Bs}{v:Ut}(l:Holds enc w b 0 d)(j:d.size=25)(i:Holds encB w b 25 p)(f:p.size=136)(g:w.cell? ⟨b,161,none⟩=some v)(hf:w.frozen? ⟨b,161,none⟩=false)(m:Nat):
 HSp (w.setCell ⟨b,161,none⟩ (iZ ((m:Nat):Int))) b ⟨d,p,m⟩:=by
 have e:Only b 161 1 w (w.setCell ⟨b,161,none⟩ (iZ ((m:Nat):Int))):=(Only.refl b 161 1 w).setCell oM oM _;have k:=Holds.same l e (U4 oM);have c:=Holds.same i e (U4 oM);exact⟨k,c,VV _ _ _ g,by rw[VM];exact hf⟩
theorem take_any(b:Nat)(S:Sp)(a:Option Wu)(y A len cap:Nat)(d:Bs)(w:Ur)(X:Ok S)(hS:HSp w b S)(hl:d.size=len)(h2:len<=cap)(h1:len<=1099511627776)
 (c:len=0\/(a=some ⟨y,A,none⟩/\y≠b/\Holds encB w y A d)) :
 UH prog 224 #[.pointer (some ⟨b,0,none⟩),.slice a len cap] w λe w'=>e=.returned (.tuple #[])/\Only b 0 162 w w'/\HSp w' b (fU S d.toList):=by
 go_enter func224,ntmps224;go_wp2;go_loopg [1] len (λg s1 wr=>∃(k:Nat) (U:Option Wu) (j:Sp),k+g=len/\s1=.slice U (len-k) (cap-k)/\(k<len->U=some ⟨y,A+k,none⟩)/\HSp wr b j/\Only b 0 162 w wr/\Hid (j=fU S (d.toList.take k)))
 case atStart =>
  refine⟨0,a,S,oM,rfl,λf=>?_,hS,Only.refl _ _ _ _,rfl⟩;rcases c with h|⟨h,_,_⟩
  ·omega
  ·exact h
 case round =>
  obtain⟨k,U,j,hk,rfl,N,p,Z,W⟩:=hrel;by_cases P:k<len
  ·have Y:=N P;subst Y;obtain⟨_,T,hB⟩:a=some ⟨y,A,none⟩/\y≠b/\Holds encB w y A d:=by
    rcases c with h|h
    ·omega
    ·exact h
   have H:=Holds.other hB Z T oM;have i:Ok j:=by rw[W.out];exact jD X _
   obtain⟨q,hh⟩:∃q,j.h=q:=⟨_,rfl⟩
   have r:=i.hlt;have D:=i.p136;rw[hh]at r;have hc:=p.h;have hf:=p.f;rw[hh]at hc;have R:=p.p;obtain⟨n,G⟩:∃n,XP (len-k) (136-q)=n:=⟨_,rfl⟩
   have l0:(0:Int)<((len-k:Nat):Int):=oM;have Q:(q:Int)<=136:=oM;have Hh:Hid (j.h=q):=hh;clear hh;have M:=eq_false oM;have h5:1<=n:=by rw[<-G];exact(Nat.le_min).2 ⟨oM,oM⟩
   have h3:n<=len-k:=by rw[<-G];exact Z7 _ _
   have h4:n<=136-q:=by rw[<-G];exact ZX _ _
   have O:=D3 (w:=wr.drew) (cap:=cap-k) (k:=k) R D H r oM G;have u:=qW d k n oM;have s:=iO (Holds.drew R) q (piece d k n) oM;have x:Only b 0 162 w (wr.drew.setCells b (25+q) ((piece d k n).map encB)):=Z.drew.setCells _ _ oM (by rw[UQ];omega);have z:Only b 25 136 wr (wr.drew.setCells b (25+q) ((piece d k n).map encB)):=((Only.refl b 25 136 wr).drew).setCells _ _ oM (by rw[UQ];omega);have t:=Holds.same p.d z (U4 (by rw[i.d25];omega));have c1:(wr.drew.setCells b (25+q) ((piece d k n).map encB)).cell? ⟨b,161,none⟩=some (.int .i64 q):=by rw[z.cell 161 oM];exact hc
   have K:(wr.drew.setCells b (25+q) ((piece d k n).map encB)).frozen? ⟨b,161,none⟩=false:=by rw[z.froz];exact hf
   have L:Hid (fU S (d.toList.take (k+n))=fU j (piece d k n)):=by
    show _=_;rw[Db,lP,<-W.out]
   have f:Hid (fU j (piece d k n)=if q+n=136 then jV ⟨j.d,splice j.p q (piece d k n),q⟩ else⟨j.d,splice j.p q (piece d k n),q+n⟩):=by
    show _=_;have:=tN j (piece d k n) (by intro e;rw[e]at u;simp at u;omega) (by rw[u,Hh.out];omega);rw[u,Hh.out]at this;exact this
   have m:(splice j.p q (piece d k n)).size=136:=by rw[dM,D]
   have l:=i.d25;generalize V:wr.drew.setCells b (25+q) ((piece d k n).map encB)=W1 at O s x t c1 K;generalize splice j.p q (piece d k n)=E at s m f;generalize j.d=F at t l f;clear z V R H i u p D G;have z1:(n:Int)<=((len-k:Nat):Int):=oM;by_cases B:cap-k=n
   ·have I:(cap-k=n)=True:=eq_true B;have J:Hid (cap-k=n):=B;clear B;by_cases c:q+n=136
    ·have hb:((q:Int)+(n:Int) == 136)=true:=beq_iff_eq.2 oM;rw[yCj c]at f;go_wp2_with fail
     go_still_tail 9,mixed;go_wp2_with fail
     refine(wI b ⟨F,E,q+n⟩ _ l m (rE t l s m c1 K (q+n))).mono ?_;rintro e w2 ⟨rfl,C,v⟩;go_wp2;go_roundg (gk-n)
     case measure=>omega
     case rel =>
      refine⟨k+n,some ⟨y,A+k,none⟩,jV ⟨F,E,q⟩,oM,by rw[Yk,Yk],λhx=>by have:=J.out;omega,?_,?_,?_⟩
      ·rw[nU]at v⊢;exact v
      ·exact(x.setCell (o:=161) oM oM _).trans C
      ·rw[L.out,f.out];rfl
    ·have hb:=beq_eq_false_iff_ne.2 oM;rw[yCk c]at f;go_wp2_with fail
     go_still_tail 9,mixed;go_wp2;go_roundg (gk-n)
     case measure=>omega
     case rel =>
      refine⟨k+n,some ⟨y,A+k,none⟩,⟨F,E,q+n⟩,oM,by rw[Yk,Yk],λhx=>by have:=J.out;omega,?_,?_,?_⟩
      ·exact rE t l s m c1 K (q+n)
      ·exact x.setCell (o:=161) oM oM _
      ·rw[L.out,f.out];rfl
   ·have I:=eq_false B;by_cases c:q+n=136
    ·have hb:=beq_iff_eq.2 oM;rw[yCj c]at f;go_wp2_with fail
     go_still_tail 9,mixed;go_wp2_with fail
     refine(wI b ⟨F,E,q+n⟩ _ l m (rE t l s m c1 K (q+n))).mono ?_;rintro e w2 ⟨rfl,C,v⟩;go_wp2;go_roundg (gk-n)
     case measure=>omega
     case rel =>
      refine⟨k+n,some ⟨y,A+k+n,none⟩,jV ⟨F,E,q⟩,oM,by rw[Yk,Yk],λ_=>by rw[WR],?_,?_,?_⟩
      ·rw[nU]at v⊢;exact v
      ·exact(x.setCell (o:=161) oM oM _).trans C
      ·rw[L.out,f.out];rfl
    ·have hb:=beq_eq_false_iff_ne.2 oM;rw[yCk c]at f;go_wp2_with fail
     go_still_tail 9,mixed;go_wp2;go_roundg (gk-n)
     case measure=>omega
     case rel =>
      refine⟨k+n,some ⟨y,A+k+n,none⟩,⟨F,E,q+n⟩,oM,by rw[Yk,Yk],λ_=>by rw[WR],?_,?_,?_⟩
      ·exact rE t l s m c1 K (q+n)
      ·exact x.setCell (o:=161) oM oM _
      ·rw[L.out,f.out];rfl
  ·have c:k=len:=oM;go_wp2
   go_end0
   refine⟨rfl,Z,?_⟩;have Y:d.toList.take k=d.toList:=Y9 (by rw[UK];omega);rw[W.out,Y]at p;exact p
theorem rA(x:UInt8):Xb 8 (x.toNat:Int)=x.toBitVec:=by
 apply yAi;rw[Zc,YE];exact US x.toNat_lt
theorem Aj(x y:UInt8):bits .xor .u8 (ub x) (ub y)=ub (x ^^^ y):=by
 show Xy.wrap ((Xb 8 (x.toNat:Int) ^^^ Xb 8 (y.toNat:Int)).toNat:Int)=_;rw[rA,rA,<-UInt8.toBitVec_xor];have h:((x ^^^ y).toNat:Int)<256:=by have:=(x ^^^ y).toNat_lt;omega
 have e:∀n:Int,Xy.wrap n=n%256:=λn=>by simp[yBh,yBi,yAR]
 rw[e];exact yA5 (Int.natCast_nonneg _) h
theorem Qs(x:UInt8):bits .xor .u8 (ub x) 128=ub (x ^^^ 128):=Aj x 128
theorem Qr:∀w:Ur,(zeroValue 5).run prog w=.ok (.int .u8 0) w:=λ_=>kR
theorem Cx{w:Ur}{b q:Nat}{p:Bs}(c:Holds encB w b 25 p)(f:p.size=136)(e:q<136)(k:U8):
 (Builtin.clear_ #[23] k #[.slice (some ⟨b,25+q,none⟩) (136-q) (136-q)]).run prog w=.ok (.tuple #[]) (w.setCells b (25+q) ((VB (136-q) (0:UInt8)).map encB)):=by
 have h:=Lib.run_clear_slice (P:=prog) w 23 5 k (.int .u8 0) slice22 Qr rfl rfl b (25+q) (136-q) (136-q) oM
  (λj d=>by
   have:=(c (q+j) oM).1;rw[<-WR]at this;rw[this];rfl)
  (λj d=>by
   have:=(c (q+j) oM).2;rw[<-WR]at this;exact this)
 rw[List.map_replicate];exact h
theorem Fw(b:Nat)(S:Sp)(e:UInt8)(w:Ur)(l:Ok S)(A:HSp w b S):
 UH prog 189 #[.pointer (some ⟨b,0,none⟩),.int .u8 (ub e)] w λr w'=>r=.returned (.tuple #[])/\Only b 0 162 w w'/\HSp w' b (sQ S e):=by
 obtain⟨d,p,q⟩:=S;have O:d.size=25:=l.d25;have n:p.size=136:=l.p136;have U:q<136:=l.hlt;have V:Holds enc w b 0 d:=A.d;have N:Holds encB w b 25 p:=A.p;have P:w.cell? ⟨b,161,none⟩=some (.int .i64 q):=A.h;have hf:=A.f;have v:=Cx (Holds.drew N) n U 0;have t:Only b 25 136 w (w.drew.setCells b (25+q) ((VB (136-q) (0:UInt8)).map encB)):=((Only.refl b 25 136 w).drew).setCells _ _ oM (by rw[UQ,Xf];omega);have g:=iO (Holds.drew N) q (VB (136-q) (0:UInt8)) (by rw[Xf];omega);have a:(splice p q (VB (136-q) 0)).size=136:=by rw[dM,n]
 have z:Hid (sQ ⟨d,p,q⟩ e=jV ⟨d,((splice p q (VB (136-q) 0)).setIfInBounds q e).setIfInBounds 135 (((splice p q (VB (136-q) 0)).setIfInBounds q e)[135]! ^^^ 128),q⟩):=by
  show _=_;unfold sQ ended;rfl
 generalize w.drew.setCells b (25+q) ((VB (136-q) (0:UInt8)).map encB)=C at v t g;generalize splice p q (VB (136-q) 0)=W at g a z;have B:(136=q)=False:=eq_false oM;have J:(q:Int)<=136:=oM;have D:(q:Int)<136:=oM;have c1:C.cell? ⟨b,161,none⟩=some (.int .i64 q):=by rw[t.cell 161 oM];exact P
 obtain⟨c2,f2⟩:=g q oM;obtain⟨k,c⟩:∃s,W.setIfInBounds q e=s:=⟨_,rfl⟩
 rw[c]at z;have M:k.size=136:=by rw[<-c,VF,a]
 obtain⟨x,hx⟩:∃x,k[135]! = x:=⟨_,rfl⟩
 rw[hx]at z;have Q:=Qs x;have u:=Holds.set g (i:=q) oM e;rw[c]at u;have y:Only b 25 136 w (C.setCell ⟨b,25+q,none⟩ (.int .u8 (ub e))):=t.setCell (o:=25+q) oM oM _;have f:Holds encB (C.setCell ⟨b,25+q,none⟩ (.int .u8 (ub e))) b 25 k:=u;have T:Hid (k[135]! = x):=hx;rw[z.out];clear A l N c hx u z;have I:(k.setIfInBounds 135 (x ^^^ 128)).size=136:=by rw[VF,M]
 go_enter func189,ntmps189;go_wp2;go_still_tail 8,mixed;go_wp2_with fail
 go_region
 go_wp2_with fail
 generalize C.setCell ⟨b,25+q,none⟩ (.int .u8 (ub e))=F at f y⊢;obtain⟨X,Y⟩:=FO f 135 oM T.out;clear c1 c2 f2 v g;go_region
 go_wp2_with fail
 have K:=Holds.set f (i:=135) oM (x ^^^ 128);have j:Only b 25 136 w (F.setCell ⟨b,160,none⟩ (.int .u8 (ub (x ^^^ 128)))):=y.setCell (o:=160) oM oM _;have m:Holds encB (F.setCell ⟨b,160,none⟩ (.int .u8 (ub (x ^^^ 128)))) b 25 (k.setIfInBounds 135 (x ^^^ 128)):=K;generalize F.setCell ⟨b,160,none⟩ (.int .u8 (ub (x ^^^ 128)))=R at m j⊢;have E:Holds enc R b 0 d:=Holds.same V j (U4 oM);have G:HSp R b ⟨d,k.setIfInBounds 135 (x ^^^ 128),q⟩:=⟨E,m,by rw[j.cell 161 oM];exact P,by rw[j.froz];exact hf⟩
 refine(wI b ⟨d,k.setIfInBounds 135 (x ^^^ 128),q⟩ _ O I G.drew.drew).mono ?_;rintro r Z ⟨rfl,L,H⟩;go_wp2
 go_end0
 exact⟨rfl,(j.drew.drew.widen oM oM).trans L,H⟩
end SP
namespace SP
open Go.Sort
def gW(d:St):Nat->St
 | 0=>d
 | m+1=>perm (gW d m)
theorem dQ(d:St)(hd:d.size=25)(m:Nat):(gW d m).size=25:=by
 induction m with
 | zero=>exact hd
 | succ m ih=>exact sE _ ih
def jE(d:St)(j:Nat):UInt8:=byteOf (gW d (j/136)) (j%136)
def lS(d:St)(n:Nat):Bs:=Array.ofFn (λi:Fin n=>jE d i.val)
theorem lQ(d:St)(n:Nat):(lS d n).size=n:=by simp[lS]
theorem Dg(d:St)(n j:Nat)(k:j<n):(lS d n)[j]! = jE d j:=by
 rw[getElem!_pos (lS d n) j (by rw[lQ];exact k)];simp[lS]
def S0:Sp:=⟨vW,UJ 136 0,0⟩
theorem CS:Ok S0:=⟨by simp[S0,vW],by simp[S0],dC⟩
def yU(l:List UInt8)(e:UInt8):St:=(sQ (fU S0 l) e).d
theorem uI(l:List UInt8)(e:UInt8):(yU l e).size=25:=by
 unfold yU;have h:=jD CS l;rw[GN h];exact(jD h _).d25
def Jl(l:List UInt8):Bs:=front (yU l 6) 32
def qM(l:List UInt8)(n:Nat):Bs:=lS (yU l 31) n
end SP
namespace SP
theorem uH{w:Ur}{g l cap r k n c:Nat}{cur f:Bs}(s:Holds encB w g 0 cur)(D:cur.size=cap)(B:Holds encB w r 0 f)(z:f.size=n)(p:k=n)(e:l+n<=cap)(u:U8):
 (Vt #[23,23] u #[sZ g l cap,sZ r k c]).run prog w=.ok (sZ g (l+n) cap) (w.setCells g l (f.toList.map encB)):=by
 subst p;obtain⟨i,a,_,d,_⟩:=info_parts info5;have b:(f.toList.map encB).length=k:=by rw[UQ,UK,z]
 have o:Src prog i.size 23 (sZ r k c) k (f.toList.map encB) w:=by
  rw[d];refine Src.ofSlice w slice22 (aZ r) k c _ (by rw[b,XR]) (λj v m=>?_) (λv hv=>?_)
  ·obtain⟨C,y⟩:=UF.1 m;rw[b]at C;have q:=(B j oM).1;rw[getElem!_pos f j oM]at q;rw[Xd,XE]at y;have A:(⟨r,0,none⟩:Wu).add j=⟨r,0+j,none⟩:=by
    unfold Zi;by_cases t:j=0
    ·subst t;rw[yCj rfl]
    ·rw[yCk t]
   rw[A,q,y]
  ·obtain⟨x,_,rfl⟩:=Vn.1 hv;rfl
 have h:=run_append_room_src (P:=prog) w 23 23 u 5 i slice22 a g 0 l cap (sZ r k c) k _ o e
  (λj m=>by
   rw[b]at m;rw[d,XR,WR,(s (l+j) oM).1];rfl)
  (λj m=>by
   rw[b]at m;rw[d,XR,WR];exact(s (l+j) oM).2)
 rw[d,XR,UD]at h;exact h
theorem Only.with_new{b o n g m p:Nat}{w c d:Ur}(h:Only b o n w c)(k:Only g p m c d)(s:w.heap.size<=g)(t:b<w.heap.size):Only b o n w d:=by
 have r:=h.size;have e:=k.block b oM oM;exact⟨k.os.trans h.os,k.tape.trans h.tape,k.output.trans h.output,UC h.size k.size,
  λj f l=>(k.block j oM oM).trans (h.block j f l),
  λq i=>(UW (w:=c) (a:=⟨b,q,none⟩) e).trans (h.cell q i),λq=>(VU (w:=c) (a:=⟨b,q,none⟩) e).trans (h.froz q)⟩
theorem Dv(d:St)(m:Nat)(h:¬m=0):perm (gW d (m-1))=gW d m:=by
 obtain⟨k,rfl⟩:∃k,m=k+1:=⟨m-1,oM⟩
 rw[Nat.add_sub_cancel,gW]
theorem BF(d:St)(m:Nat)(cur:Bs)(b:136*m+136<=cur.size)(h:∀j,j<136*m->cur[j]! = jE d j):∀j,j<136*(m+1)->(splice cur (136*m) (front (gW d m) 136).toList)[j]! = jE d j:=by
 intro j e;have k:(front (gW d m) 136).toList.length=136:=by rw[UK,dU]
 rw[kO _ _ _ _ (by rw[k];exact b) oM,k];by_cases c:j<136*m
 ·rw[yCk oM,h j c]
 ·rw[yCj oM,getElem!_pos _ (j-136*m) (by rw[k];omega),XE,<-getElem!_pos (front (gW d m) 136) (j-136*m) (by rw[dU];omega),Ju _ _ _ oM];unfold jE;rw[show j/136=m by omega,show j%136=j-136*m by omega]
theorem Jq(b:Nat)(d:St)(n:Nat)(w:Ur)(f:d.size=25)(hD:Holds enc w b 0 d)(hn:n<=16384):
 UH prog 228 #[jZ b,iZ n] w λe w'=>e=.returned (sZ w.heap.size n n)/\Only b 0 25 w w'/\Holds encB w' w.heap.size 0 (lS d n):=by
 have L:=Holds.lt hD oM;obtain⟨i,hi,J,W,Y⟩:=info_parts info5;obtain⟨r,R⟩:∃c,n+136=c:=⟨_,rfl⟩
 have h1:∀w:Ur,(XC 23 (iZ 0) (iZ ((n:Int)+136))).run prog w=.ok (sZ w.heap.size 0 r) (w.alloc (.cells (madeCells #[.int .u8 0] r) 5)):=by
  intro w;have h:=run_make (P:=prog) w 23 5 i (.int .u8 0) slice22 hi J .i64 .i64 0 ((n:Int)+136) oM oM (by rw[Y];omega) oM;rw[W,XR,show((n:Int)+136).toNat=r by omega]at h;exact h
 have Q:Holds encB (w.alloc (.cells (madeCells #[.int .u8 0] r) 5)) w.heap.size 0 (UJ r 0):=Holds.made (enc:=encB) w 5 r 0;have S:Only b 0 25 w (w.alloc (.cells (madeCells #[.int .u8 0] r) 5)):=(Only.refl _ _ _ _).alloc L _;have M:=Holds.below hD ((UR w.heap.size w).alloc (Uw _) (.cells (madeCells #[.int .u8 0] r) 5)) L;have O:w.heap.size<(w.alloc (.cells (madeCells #[.int .u8 0] r) 5)).heap.size:=by simp
 have T:=mk1 (R);go_enter func228,ntmps228;go_wp2;go_loopg [5] r (λg s5 wr=>∃(m l:Nat) (cur:Bs),Hid (l=136*m)/\l+g=r/\1<=g/\s5=sZ w.heap.size l r/\Holds encB wr w.heap.size 0 cur/\cur.size=r/\Holds enc wr b 0 (gW d (m-1))/\Only b 0 25 w wr/\w.heap.size<wr.heap.size/\Hid (∀j,j<136*m->cur[j]! = jE d j))
 case atStart=>exact⟨0,0,_,rfl,oM,by have:=T.out;omega,rfl,Q,by rw[UP],M,S,O,λj N=>oM⟩
 case round =>
  obtain⟨m,l,cur,a,hg,h3,rfl,K,y,C,X,hs,HE⟩:=hrel;have U:=dQ d f (m-1);by_cases h2:l<n
  ·have Z:(l:Int)<(n:Int):=oM;have HN:Hid (∀j,j<136*(m+1)->(splice cur l (front (gW d m) 136).toList)[j]! = jE d j):=by
    rw[a.out];exact BF d m cur (by rw[<-a.out];omega) HE
   by_cases H:m=0
   ·have J:¬(0:Int)<(l:Int):=by have:=a.out;omega
    have s:Holds enc wr b 0 (gW d m):=by rw[H]at C⊢;exact C
    go_wp2_with fail
    refine(sO b 0 136 _ _ (dQ d f m) s dC).mono ?_;rintro e E ⟨rfl,p,V⟩;have q:=Holds.below K p (Holds.lt K oM);have B:=Holds.below s p (Holds.lt s (by rw[dQ d f];decide));have v:=uH (l:=l) (k:=136) (n:=136) (c:=136) q y V (dU _ _) rfl oM 23;have t:=iO q l (front (gW d m) 136).toList (by rw[UK,dU];omega);rw[UD]at t;have A:=X.trans (Only.of_below p rfl (Holds.lt s (by rw[dQ d f];decide)));have o:Only w.heap.size 0 r E (E.setCells w.heap.size l ((front (gW d m) 136).toList.map encB)):=(Only.refl _ _ _ _).setCells _ _ oM (by rw[UQ,UK,dU];omega);have z:=A.with_new o (Uw _) L;have u:=Holds.other B o oM (by rw[dQ d f];decide);have x:=Ux (Holds.lt q oM) o.size;generalize E.setCells w.heap.size l ((front (gW d m) 136).toList.map encB)=F at v t z u x;have D:Hid _:=v;go_wp2_with (at_builtin;refine WI _ rfl _ _ 23 23 rfl _ _ rfl rfl _ _ D.out ?_)
    go_roundg (gk-136)
    case measure=>omega
    case rel =>
     exact⟨m+1,l+136,_,by have:=a.out;show _=_;omega,oM,oM,rfl,t,by rw[dM,y],u,z,x,HN⟩
   ·have h0:(0:Int)<(l:Int):=by have:=a.out;omega
    go_wp2_with fail
    refine(tW b 0 _ _ U C).mono ?_;rintro e w1 ⟨rfl,G,s⟩;rw[Dv d m H]at s;have I:=Holds.other K G oM oM;have F:=X.trans G;go_wp2_with fail
    refine(sO b 0 136 _ _ (dQ d f m) s dC).mono ?_;rintro e E ⟨rfl,p,V⟩;have q:=Holds.below I p (Holds.lt I oM);have B:=Holds.below s p (Holds.lt s (by rw[dQ d f];decide));have v:=uH (l:=l) (k:=136) (n:=136) (c:=136) q y V (dU _ _) rfl oM 23;have t:=iO q l (front (gW d m) 136).toList (by rw[UK,dU];omega);rw[UD]at t;have A:=F.trans (Only.of_below p rfl (Holds.lt s (by rw[dQ d f];decide)));have o:Only w.heap.size 0 r E (E.setCells w.heap.size l ((front (gW d m) 136).toList.map encB)):=(Only.refl _ _ _ _).setCells _ _ oM (by rw[UQ,UK,dU];omega);have z:=A.with_new o (Uw _) L;have u:=Holds.other B o oM (by rw[dQ d f];decide);have x:=Ux (Holds.lt q oM) o.size;have D:Hid _:=v;go_wp2_with (at_builtin;refine WI _ rfl _ _ 23 23 rfl _ _ rfl rfl _ _ D.out ?_)
    go_roundg (gk-136)
    case measure=>omega
    case rel =>
     exact⟨m+1,l+136,_,by have:=a.out;show _=_;omega,oM,oM,rfl,t,by rw[dM,y],u,z,x,HN⟩
  ·have o:(n:Int)<=(l:Int):=oM;go_wp2;go_ret;refine⟨rfl,X,λj N=>?_⟩;rw[lQ]at N;have:=K j oM;rw[HE.out j (by have:=a.out;omega)]at this;rw[Dg d n j N];exact this
def eN:Array Ut:=UJ 25 (uZ 0)++UJ 136 (.int .u8 0)++#[iZ 0]
theorem Hj:∀w:Ur,(zeroValue 266).run prog w=.ok (.agg eN) w:=λ_=>kR
theorem Ii(j:Nat)(b:j<25):eN[j]? = some (uZ 0):=by
 have k:j<(UJ 25 (uZ 0)).size:=by rw[UP];exact b
 unfold eN;rw[yAG,XX k,U0 k,Ww]
theorem Ig(j:Nat)(b:j<136):eN[25+j]? = some (.int .u8 0):=by
 have k:j<(UJ 136 (VZ .u8 0)).size:=by rw[UP];exact b
 unfold eN;rw[yAG,YC (by rw[UP];omega),UP,WL,XX k,U0 k,Ww]
theorem Ih:eN[161]? = some (iZ 0):=by
 unfold eN;rw[YC (by rw[VN,UP,UP];decide),VN,UP,UP];rfl
theorem Fb(w:Ur)(t:U8):HSp (w.alloc (.cells eN t)) w.heap.size S0:=by
 refine⟨λj b=>?_,λj b=>?_,?_,?_⟩
 ·have k:j<25:=by simpa[S0,vW]using b
  rw[Vd,Wv,UD,Ii j k];refine⟨?_,rfl⟩;have e:S0.d[j]! = 0:=Gh j k;rw[e];rfl
 ·have k:j<136:=by simpa[S0]using b
  rw[Vd,Wv,Ig j k];refine⟨?_,rfl⟩;have e:S0.p[j]! = 0:=rep_at 136 j k;rw[e];rfl
 ·rw[Vd,Ih];rfl
 ·rw[Wv]
theorem yV(a:Option Wu)(d g len cap n:Nat)(c:Bs)(w:Ur)(v:n<=16384)(x:c.size=len)(j:len<=cap)(m:len<=1099511627776)(o:len=0\/(a=some ⟨d,g,none⟩/\Holds encB w d g c)):
 UH prog 196 #[.slice a len cap,iZ n] w λe w'=>∃r,e=.returned (.tuple #[sZ r n n,iZ 0])/\w.heap.size<=r/\kZ w w'/\Holds encB w' r 0 (qM c.toList n):=by
 have i:=Fb w 266;have b:kZ w (w.alloc (.cells eN 266)):=(UR _ _).alloc (Uw _) _;have p:w.heap.size<(w.alloc (.cells eN 266)).heap.size:=by simp
 have k:len=0\/(a=some ⟨d,g,none⟩/\d≠w.heap.size/\Holds encB (w.alloc (.cells eN 266)) d g c):=by
  by_cases q:len=0
  ·exact U4 q
  ·rcases o with h|⟨s,l⟩
   ·exact U4 h
   ·have f:=Holds.lt l oM;exact UX ⟨s,oM,Holds.below l b f⟩
 have C:=Hj;go_enter func196,ntmps196;go_wp2_with fail
 generalize w.alloc (.cells eN 266)=y at i b p k⊢;refine(take_any w.heap.size S0 a d g len cap c y CS i x j m k).mono ?_;rintro e B ⟨rfl,l,t⟩;go_wp2_with fail
 refine(Fw w.heap.size (fU S0 c.toList) 31 B (jD CS _) t).mono ?_;rintro e z ⟨rfl,f,q⟩;have s:=q.d;go_wp2_with fail
 refine(Jq w.heap.size _ n _ (uI _ _) s v).mono ?_;rintro e D ⟨rfl,u,A⟩;go_wp2
 go_ret2
 have s1:=l.size;have s2:=f.size;exact⟨z.heap.size,rfl,oM,(b.trans ((l.trans f).below oM (Uw _))).trans (u.below oM (Uw _)),A⟩
end SP
namespace SP
def Own(B:Nat)(w:Ur)(v:Ut)(T:List UInt8):Prop:=
 ∃g cap cur,v=sZ g T.length cap/\B<=g/\g<w.heap.size/\V3 cur=cap/\T.length<=cap/\Holds encB w g 0 cur/\∀j,j<T.length->cur[j]! = T[j]!
theorem Holds.front{α:Type}[Inhabited α]{f:α->Ut}{w:Ur}{b o:Nat}{d e:Array α}(h:Holds f w b o d)(g:e.size<=d.size)(k:∀j,j<e.size->e[j]! = d[j]!):Holds f w b o e:=by
 intro j c;rw[k j c];exact h j oM
theorem Ck(T:List UInt8)(j:Nat):T.toArray[j]! = T[j]!:=by
 by_cases h:j<T.length
 ·rw[getElem!_pos T.toArray j (by simpa using h),getElem!_pos T j h];simp
 ·rw[getElem!_neg T.toArray j (by simpa using h),getElem!_neg T j h]
variable {B:Nat}{w w1:Ur}{v:Ut}{T:List UInt8}
theorem Own.holds{g cap n:Nat}(h:Own B w (sZ g n cap) T):B<=g/\n=T.length/\T.length<=cap/\Holds encB w g 0 T.toArray:=by
 obtain⟨l,k,cur,hv,c,_,i,b,e,d⟩:=h;injection hv with e1 e2 e3
 injection e1 with e1
 injection e1 with e1 _ _
 subst e1 e3;exact⟨c,e2,b,Holds.front e (by simp;omega) (λj f=>by rw[Ck];exact(d j (by simpa using f)).symm)⟩
theorem yA(s:ByteArray)(i:B<=w.heap.size):
 ∃b w',(convert 9 23 (.string s)).run prog w=.ok b w'/\Own B w' b s.data.toList/\kZ w w'/\b=sZ w.heap.size s.size (grownCap w s.size 0 5):=by
 have h:=Lib.run_convert_string_bytes (P:=prog) w 9 23 5 s str9 slice22 int5;have e:s.size<=grownCap w s.size 0 5:=by
  unfold grownCap Question.cut;exact Y8 _ _
 have l:s.data.size=s.size:=rfl;refine⟨_,_,h,⟨w.heap.size,grownCap w s.size 0 5,s.data++UJ (grownCap w s.size 0 5-s.size) 0,?_,i,by rw[yAJ];omega,?_,?_,?_,?_⟩,?_,rfl⟩
 ·rw[UK];rfl
 ·rw[VN,UP];omega
 ·rw[UK];omega
 ·intro j b;rw[VN,UP]at b;have f:=Lib.bytesWorld_at_new w 5 s;have d:(Zj w 5 s).size=grownCap w s.size 0 5:=by
   unfold Zj;rw[VN,Array.size_map,UP];omega
  have g:(Zj w 5 s)=(s.data++UJ (grownCap w s.size 0 5-s.size) 0).map encB:=by
   unfold Zj;rw[Array.map_append,yAv];rfl
  have c:j<(s.data++UJ (grownCap w s.size 0 5-s.size) 0).size:=by rw[VN,UP];exact b
  constructor
  ·unfold VY;rw[f];simp only[UD];rw[yCk dC,g,yAE,U0 c,Yv,getElem!_pos _ j c]
  ·unfold World.frozen?;rw[f];simp only[UD,d];simp;omega
 ·intro j b;rw[UK]at b;rw[app_front _ _ j b,getElem!_pos s.data.toList j (by rw[UK];exact b),XE]
 ·refine⟨?_,?_,?_,?_,λk b=>Lib.bytesWorld_at_old w 5 s k b⟩
  ·unfold Z5 yAg;rw[yCk dC];rfl
  ·unfold Z5 yAg;rw[yCk dC];rfl
  ·unfold Z5 yAg;rw[yCk dC];rfl
  ·rw[yAJ];omega
theorem Holds.below'{α:Type}[Inhabited α]{f:α->Ut}{w e:Ur}{b o:Nat}{d:Array α}(h:Holds f w b o d)(k:kZ w e):Holds f e b o d:=by
 intro j g;have c:=Holds.lt h oM;exact Holds.below h k c j g
theorem DO(l:List UInt8):(Jl l).size=32:=by rw[Jl,dU]
end SP
namespace SP
def bV(n d:Nat):UInt8:=UM (n/d)
theorem jL(n d:Nat):(n:Int)/(d:Int)%256=ub (bV n d):=by
 have k:((n:Int)/(d:Int))=((n/d:Nat):Int):=by rw[Zb]
 rw[k];unfold ub bV;rw[YH];omega
theorem xK(n:Nat):(n:Int)%256=ub (bV n 1):=by
 have:=jL n 1;rw[show((1:Nat):Int)=1 from rfl,Int.ediv_one]at this;exact this
def sP(l:List UInt8):List UInt8:=[bV l.length 16777216,bV l.length 65536,bV l.length 256,bV l.length 1]++l
theorem xO(w:Ur)(x y z t:UInt8):Holds encB (w.alloc (.cells #[.int .u8 (ub x),.int .u8 (ub y),.int .u8 (ub z),.int .u8 (ub t)] 5)) w.heap.size 0 #[x,y,z,t]:=by
 have h:=Holds.new (enc:=encB) w 5 #[x,y,z,t];have e:yB3 encB #[x,y,z,t]=#[.int .u8 (ub x),.int .u8 (ub y),.int .u8 (ub z),.int .u8 (ub t)]:=by simp[encB]
 rw[e]at h;exact h
theorem oU(b:Nat)(S:Sp)(a:Option Wu)(c i len cap:Nat)(f:Bs)(w:Ur)(r:Ok S)(C:HSp w b S)(B:f.size=len)(l:len<=cap)(t:len<=1099511627776)
 (g:len=0\/(a=some ⟨c,i,none⟩/\c≠b/\Holds encB w c i f)) :
 UH prog 188 #[jZ b,.slice a len cap] w λe w'=>e=.returned (.tuple #[])/\Only b 0 162 w w'/\HSp w' b (fU S (sP f.toList)):=by
 have E:=C.lt;have b0:(len:Int)/16777216%256=ub (bV len 16777216):=jL len 16777216;have b1:(len:Int)/65536%256=ub (bV len 65536):=jL len 65536;have I:(len:Int)/256%256=ub (bV len 256):=jL len 256;have H:(len:Int)%256=ub (bV len 1):=xK len;have G:Hid (sP f.toList=(#[bV len 16777216,bV len 65536,bV len 256,bV len 1]:Bs).toList++f.toList):=by
  unfold sP;rw[UK,B];rfl
 have A:=xO w (bV len 16777216) (bV len 65536) (bV len 256) (bV len 1);generalize bV len 16777216=n at *;generalize bV len 65536=o at *;generalize bV len 256=p at *;generalize bV len 1=s at *;have d:kZ w (w.alloc (.cells #[.int .u8 (ub n),.int .u8 (ub o),.int .u8 (ub p),.int .u8 (ub s)] 5)):=(UR _ _).alloc (Uw _) _;have q:=C.below d E;have m:Only b 0 162 w (w.alloc (.cells #[.int .u8 (ub n),.int .u8 (ub o),.int .u8 (ub p),.int .u8 (ub s)] 5)):=Only.of_below d rfl E;have k:len=0\/(a=some ⟨c,i,none⟩/\c≠b/\Holds encB (w.alloc (.cells #[.int .u8 (ub n),.int .u8 (ub o),.int .u8 (ub p),.int .u8 (ub s)] 5)) c i f):=by
  by_cases y:len=0
  ·exact U4 y
  ·rcases g with h|⟨z,v,u⟩
   ·exact U4 h
   ·exact UX ⟨z,v,Holds.below u d (Holds.lt u oM)⟩
 go_enter func188,ntmps188;go_wp2_with fail
 generalize w.alloc (.cells #[.int .u8 (ub n),.int .u8 (ub o),.int .u8 (ub p),.int .u8 (ub s)] 5)=F at A d q m k⊢;refine(take_any b S (some (aZ w.heap.size)) w.heap.size 0 4 4 #[n,o,p,s] F r q rfl (Uw _) dC (UX ⟨rfl,oM,A⟩)).mono ?_;rintro e D ⟨rfl,j,x⟩;have g:len=0\/(a=some ⟨c,i,none⟩/\c≠b/\Holds encB D c i f):=by
  by_cases y:len=0
  ·exact U4 y
  ·rcases k with h|⟨z,v,u⟩
   ·exact U4 h
   ·exact UX ⟨z,v,Holds.other u j v oM⟩
 go_wp2_with fail
 refine(take_any b _ a c i len cap f D (jD r _) x B l t g).mono ?_;rintro e y ⟨rfl,v,u⟩;go_wp2
 go_end0
 refine⟨rfl,(m.trans j).trans v,?_⟩;rw[G.out,lP];exact u
def kG(k:List UInt8)(b:List (List UInt8)):List UInt8:=sP k++b.flatMap sP
def oR(k:List UInt8)(b:List (List UInt8)):Bs:=Jl (kG k b)
theorem fC(k:List UInt8)(b:List (List UInt8)):(oR k b).size=32:=DO _
theorem A5(k:List UInt8)(b:List (List UInt8))(x:List UInt8):kG k (b++[x])=kG k b++sP x:=by
 unfold kG;rw[List.flatMap_append,<-List.append_assoc];simp
def PartOk(w:Ur)(v:Ut)(x:List UInt8):Prop:=
 ∃a b c cap k,v=.slice a (V3 k) cap/\k.toList=x/\k.size<=cap/\k.size<=1099511627776/\(k.size=0\/(a=some ⟨b,c,none⟩/\Holds encB w b c k))
theorem PartOk.below{w c:Ur}{v:Ut}{x:List UInt8}(h:PartOk w v x)(k:kZ w c):PartOk c v x:=by
 obtain⟨a,i,m,cap,d,l,g,e,f,b⟩:=h;refine⟨a,i,m,cap,d,l,g,e,f,?_⟩;rcases b with b|⟨b,j⟩
 ·exact U4 b
 ·exact UX ⟨b,Holds.below' j k⟩
def PartsOk(w:Ur)(d:Option Wu)(k:List (List UInt8)):Prop:=
 k.length=0\/∃b c,d=some ⟨b,c,none⟩/\∀j,j<k.length->∃v,w.cell? ⟨b,c+j,none⟩=some v/\PartOk w v k[j]!
theorem PartsOk.below{w e:Ur}{f:Option Wu}{c:List (List UInt8)}(h:PartsOk w f c)(k:kZ w e):PartsOk e f c:=by
 rcases h with h|⟨d,g,m,l⟩
 ·exact U4 h
 ·refine UX ⟨d,g,m,λj n=>?_⟩;obtain⟨v,b,i⟩:=l j n;exact⟨v,by rw[k.cell (p:=⟨d,g+j,none⟩) (Xo _ _ b)];exact b,i.below k⟩
theorem wG{α:Type}[Inhabited α](l:List α)(k:Nat)(h:k<l.length):l.take (k+1)=l.take k++[l[k]!]:=by
 rw[List.take_succ_eq_append_getElem h,getElem!_pos l k h]
theorem vP(b:ByteArray)(Q:Option Wu)(J:Nat)(c:List (List UInt8))(w:Ur)(hc:b.size<=1048576)(he:c.length<=1048576)(hP:PartsOk w Q c):
 UH prog 113 #[.string b,.slice Q c.length J] w λe w'=>∃r,e=.returned (sZ r 32 32)/\w.heap.size<=r/\kZ w w'/\Holds encB w' r 0 (oR b.data.toList c):=by
 have t:=Fb w 266;have F:kZ w (w.alloc (.cells eN 266)):=(UR _ _).alloc (Uw _) _;have z:(w.alloc (.cells eN 266)).heap.size=w.heap.size+1:=by simp
 have zv:=Hj;generalize Y:w.alloc (.cells eN 266)=W1 at t F z;obtain⟨v2,S,l,f,q,V⟩:=yA (w:=W1) (B:=0) b (Wy _);rw[V]at l f;obtain⟨P,A,H,N⟩:=f.holds;rw[<-A]at H;clear P A;have i:Holds encB S W1.heap.size 0 b.data:=by simpa using N
 have O:=t.below q t.lt;have ha:=q.size;obtain⟨n,hn⟩:∃n,c.length=n:=⟨_,rfl⟩
 rw[hn];have L:=mk1 (hn);rw[z]at l i;generalize hj:grownCap W1 b.size 0 5=c2 at *;have h8:(convert 9 23 (.string b)).run prog (w.alloc (.cells eN 266))=.ok (.slice (some ⟨w.heap.size+1,0,none⟩) b.size c2) S:=by rw[Y];exact l
 go_enter func113,ntmps113;go_wp2_with fail
 refine(oU w.heap.size S0 (some ⟨w.heap.size+1,0,none⟩) (w.heap.size+1) 0 b.size c2 b.data S CS O rfl oM oM (UX ⟨rfl,oM,i⟩)).mono ?_;rintro e w3 ⟨rfl,h6,G⟩;have T:=(F.trans (q.mono oM)).trans (h6.below oM (Uw _));have hi:=G.lt;go_wp2;go_loopg [13] n (λg s13 wr=>∃(k:Nat) (o:Sp),k+g=n/\s13=iZ k/\HSp wr w.heap.size o/\kZ w wr/\Ok o/\Hid (o=fU S0 (kG b.data.toList (c.take k))))
 case atStart =>
  refine⟨0,_,oM,rfl,G,T,jD CS _,?_⟩;rw[List.take_zero];unfold kG;rw[List.flatMap_nil,List.append_nil];rfl
 case round =>
  obtain⟨k,o,hk,rfl,I,x,s,Z⟩:=hrel;by_cases hg:k<n
  ·obtain⟨E,K,rfl,C⟩:∃E K,Q=some ⟨E,K,none⟩/\∀j,j<c.length->∃v,w.cell? ⟨E,K+j,none⟩=some v/\PartOk w v c[j]!:=by
    rcases hP with h|h
    ·have:=L.out;omega
    ·exact h
   obtain⟨v,u,R⟩:=C k (by have:=L.out;omega);have h5:=Xo _ _ u;have h9:wr.cell? ⟨E,K+k,none⟩=some v:=by rw[x.cell (p:=⟨E,K+k,none⟩) h5];exact u
   obtain⟨a,M,X,cap,y,rfl,D,U,h7,d⟩:=R;have m:y.size=0\/(a=some ⟨M,X,none⟩/\M≠w.heap.size/\Holds encB wr M X y):=by
    by_cases h0:y.size=0
    ·exact U4 h0
    ·rcases d with h|⟨h1,W⟩
     ·exact U4 h
     ·have:=Holds.lt W oM;exact UX ⟨h1,oM,Holds.below W x this⟩
   have HB:Hid (y.toList=c[k]!):=D;have l1:(k:Int)<(n:Int):=oM;generalize W:y.size=bz at *;clear u d C D;go_wp2_with fail
   refine(oU w.heap.size o a M X bz cap y wr s I W U h7 m).mono ?_;rintro e w4 ⟨rfl,h4,h3⟩;go_wp2;go_roundg (gk-1)
   case measure=>omega
   case rel =>
    refine⟨k+1,_,oM,by go_num,h3,x.trans (h4.below x.size (Uw _)),jD s _,?_⟩;rw[wG c k (by have:=L.out;omega),A5,lP,<-Z.out,HB.out];rfl
  ·have M:k=n:=oM;have y:Hid (o=fU S0 (kG b.data.toList c)):=by
    have d:c.take k=c:=Y9 (by have:=L.out;omega);rw[d]at Z;exact Z
   go_wp2_with fail
   refine(Fw w.heap.size o 6 wr s I).mono ?_;rintro e E ⟨rfl,d,C⟩;have m:Holds enc E w.heap.size 0 (yU (kG b.data.toList c) 6):=by
    have:=C.d;rw[y.out]at this;exact this
   go_wp2_with fail
   refine(sO w.heap.size 0 32 _ _ (uI _ _) m dC).mono ?_;rintro e U ⟨rfl,u,D⟩;have K:=d.size;have R:=x.size;go_wp2;go_ret;exact⟨E.heap.size,rfl,oM,(x.trans (d.below x.size (Uw _))).trans (u.mono oM),D⟩
end SP
namespace SP
variable {B:Nat}{w w1:Ur}{v:Ut}{T:List UInt8}
set_option maxRecDepth 4000
end SP
namespace SP
theorem JL{w:Ur}{b r:Nat}{L T:Bs}(e:Holds encB w b 0 L)(o:L.size=32)(i:Holds encB w r 0 T)(l:T.size=32):
 (XZ #[23,23] 3 #[sZ b 32 32,sZ r 32 32]).run prog w=.ok (goInt 32) (w.setCells b 0 (T.toList.map encB)):=by
 have k:(T.toList.map encB).length=32:=by rw[UQ,UK,l]
 have:=run_copy_cells (P:=prog) w 23 23 3 5 b 0 32 32 (aZ r) 32 32 (T.toList.map encB) slice22 ints5 (by rw[k];rfl)
  (λj u c=>by
   obtain⟨n,g⟩:=UF.1 c;rw[k]at n;have d:=(i j oM).1;rw[getElem!_pos T j oM]at d;rw[Xd,XE]at g;have m:(⟨r,0,none⟩:Wu).add j=⟨r,0+j,none⟩:=by
    unfold Zi;by_cases f:j=0
    ·subst f;rw[yCj rfl]
    ·rw[yCk f]
   rw[m,d,g])
  (λj c=>by rw[(e j oM).1];rfl) (λj c=>(e j oM).2)
  (λu d=>by obtain⟨x,_,rfl⟩:=Vn.1 d;rfl)
 rw[k]at this;exact this
theorem AZ{w:Ur}{b:Nat}{L T:Bs}(c:Holds encB w b 0 L)(g:L.size=32)(d:T.size=32):Holds encB (w.setCells b 0 (T.toList.map encB)) b 0 T:=by
 have k:(T.toList.map encB).length=32:=by rw[UQ,UK,d]
 refine Holds.setCells c (T.toList.map encB) 0 oM oM (λj e=>?_) (λj i f=>oM);rw[k]at e;rw[Xd,XE,UD,getElem!_pos T j oM]
theorem Ef{w c:Ur}{b:Nat}{L T:Bs}(i:Holds encB w b 0 L)(g:L.size=32)(d:T.size=32)(e:b<w.heap.size)(k:Below w.drew.heap.size w.drew c):
 Only b 0 32 w (c.setCells b 0 (T.toList.map encB))/\Holds encB (c.setCells b 0 (T.toList.map encB)) b 0 T:=by
 have f:(T.toList.map encB).length=32:=by rw[UQ,UK,d]
 refine⟨?_,AZ (Holds.below (Holds.drew i) k e) g d⟩;exact Only.setCells (((Only.refl b 0 32 w).drew).trans (Only.of_below k rfl e)) _ 0 (Uw _) oM
theorem qK(b:Nat)(L:Bs)(k:ByteArray)(p:Option Wu)(c n:Nat)(d:List (List UInt8))(w:Ur)(j:k.size<=1048576)(m:d.length=n)(y:n<=1048576)(z:PartsOk w p d)(o:Holds encB w b 0 L)(r:L.size=32):
 UH prog 208 #[.pointer (some ⟨b,0,none⟩),.string k,.slice p n c] w λe w'=>e=.returned (.tuple #[])/\Only b 0 32 w w'/\Holds encB w' b 0 (oR k.data.toList d):=by
 subst m;have s:=Holds.lt o oM;have q:=vP k p c d w.drew j y (z.below ((UR _ _).drew));generalize t:oR k.data.toList d=T at q⊢;have g:T.size=32:=by rw[<-t,fC]
 have v:=mk1 (q);go_enter func208,ntmps208;go_wp2;go_region_with (go_at_call 113;refine Calls.mono v.out ?_;rintro e A ⟨a,rfl,u,f,l⟩;have x:=JL (Holds.below (Holds.drew o) f s) r l g;have i:=Ef o r g s f)
 all_goals (try go_wp2)
 all_goals go_end0
 all_goals exact⟨rfl,i⟩
def encV(v:Ut):Ut:=v
theorem zI(l:List UInt8)(n:Nat):(qM l n).size=n:=by rw[qM,lQ]
def newL(k:List UInt8):Bs:=oR [108,111,103] [k]
def uN(L:Bs)(k b:List UInt8):Bs:=oR [115,97,121] [L.toList,k,b]
def CN(L:Bs)(k:List UInt8)(n:Nat):Bs:=qM (oR [97,115,107] [L.toList,k]).toList n
def tI(L:Bs)(k:List UInt8):Bs:=oR [97,115,107,101,100] [L.toList,k]
theorem zY(l:List UInt8):(newL l).size=32:=fC _ _
theorem kP(L:Bs)(l t:List UInt8):(uN L l t).size=32:=fC _ _
theorem bE(L:Bs)(l:List UInt8):(tI L l).size=32:=fC _ _
theorem Ha(L:Bs)(l:List UInt8)(n:Nat):(CN L l n).size=n:=zI _ _
theorem oG(s:ByteArray)(w:Ur)(p:s.size<=1099511627776):
 ∃c w',(convert 9 23 (.string s)).run prog w=.ok (sZ w.heap.size s.size c) w'/\s.size<=c/\Holds encB w' w.heap.size 0 s.data/\PartOk w' (sZ w.heap.size s.size c) s.data.toList/\kZ w w'/\w.heap.size<w'.heap.size:=by
 obtain⟨v2,o,e,k,l,i⟩:=yA (w:=w) (B:=0) s (Wy _);rw[i]at e k;have n:w.heap.size<o.heap.size:=by
  obtain⟨g,cap,cur,b,_,d,_⟩:=k;injection b with b
  injection b with b
  injection b with b
  omega
 obtain⟨q,m,d,j⟩:=k.holds;rw[<-m]at d;have b:Holds encB o w.heap.size 0 s.data:=by simpa using j
 have f:=d;exact⟨_,o,e,f,b,⟨_,w.heap.size,0,_,s.data,rfl,rfl,f,p,UX ⟨rfl,b⟩⟩,l,n⟩
theorem nY(W:Ur)(vs:Array Ut)(k:List (List UInt8))(t:U8)(d:vs.size=k.length)(h:∀j,j<k.length->PartOk W vs[j]! k[j]!):
 PartsOk (W.alloc (.cells vs t)) (some (aZ W.heap.size)) k:=by
 refine UX ⟨W.heap.size,0,rfl,λj c=>⟨vs[j]!,?_,(h j c).below ((UR _ _).alloc (Uw _) _)⟩⟩;have b:vs.map encV=vs:=by
  have:encV=id:=rfl;rw[this,Array.map_id]
 have:=(Holds.new (enc:=encV) W t vs j oM).1;rw[b]at this;exact this
theorem qX{w:Ur}{b:Nat}{L:Bs}(c:Holds encB w b 0 L)(k:L.size=32):PartOk w (sZ b 32 32) L.toList:=
 ⟨_,b,0,32,L,by rw[k],rfl,oM,oM,UX ⟨rfl,c⟩⟩
theorem KJ:∀w:Ur,(zeroValue 286).run prog w=.ok (.agg (UJ 32 (.int .u8 0))) w:=λ_=>kR
theorem En(k:ByteArray)(w:Ur)(v:k.size<=1048576):
 UH prog 231 #[.string k] w λe w'=>e=.returned (jZ w.heap.size)/\kZ w w'/\Holds encB w' w.heap.size 0 (newL k.data.toList):=by
 have a:=KJ;have s:Holds encB (w.alloc (.cells (UJ 32 (.int .u8 0)) 286)) w.heap.size 0 (UJ 32 0):=by
  have:=Holds.new (enc:=encB) w 286 (UJ 32 0);rw[yAv]at this;exact this
 have p:kZ w (w.alloc (.cells (UJ 32 (.int .u8 0)) 286)):=(UR _ _).alloc (Uw _) _;have q:(w.alloc (.cells (UJ 32 (.int .u8 0)) 286)).heap.size=w.heap.size+1:=by simp
 obtain⟨c,g,o,z,y,t,n,f⟩:=oG k (w.alloc (.cells (UJ 32 (.int .u8 0)) 286)) oM;have l:=Holds.below' s n;have m:=nY g #[.slice (some ⟨(w.alloc (.cells (UJ 32 (.int .u8 0)) 286)).heap.size,0,none⟩) k.size c] [k.data.toList] 23 rfl (λj x=>by
  have b:j=0:=by simpa using x
  subst b;exact t)
 have d:kZ g (g.alloc (.cells #[.slice (some ⟨(w.alloc (.cells (UJ 32 (.int .u8 0)) 286)).heap.size,0,none⟩) k.size c] 23)):=(UR _ _).alloc (Uw _) _;have b:=Holds.below' l d;rw[q]at o m d b f;have i:=(p.trans (n.mono oM)).trans (d.mono oM);go_enter func231,ntmps231;go_wp2_with fail
 refine(qK w.heap.size (UJ 32 0) ⟨#[108,111,103]⟩ (some (aZ g.heap.size)) 1 1 [k.data.toList] _ dC rfl dC m b (by simp)).mono ?_;rintro e A ⟨rfl,u,r⟩;go_wp2;go_ret;exact⟨rfl,i.trans (u.below i.size (Uw _)),r⟩
theorem Bq(b:Nat)(L:Bs)(k:ByteArray)(i:Option Wu)(m l:Nat)(d:List UInt8)(w:Ur)(a:k.size<=1048576)(x:Holds encB w b 0 L)(z:L.size=32)(C:PartOk w (.slice i m l) d):
 UH prog 145 #[jZ b,.string k,.slice i m l] w λe w'=>e=.returned (.tuple #[])/\Only b 0 32 w w'/\Holds encB w' b 0 (uN L k.data.toList d):=by
 have A:=Holds.lt x oM;obtain⟨c,g,B,F,E,s,f,y⟩:=oG k w oM;have n:=Holds.below x f A;have u:=C.below f;have v:=nY g #[sZ b 32 32,sZ w.heap.size k.size c,.slice i m l] [L.toList,k.data.toList,d] 23 rfl (λj D=>by
  have o:j<3:=D;match j,o with
  | 0,_=>exact qX n z
  | 1,_=>exact s
  | 2,_=>exact u)
 have p:kZ g (g.alloc (.cells #[sZ b 32 32,sZ w.heap.size k.size c,.slice i m l] 23)):=(UR _ _).alloc (Uw _) _;have q:=Holds.below' n p;have o:Only b 0 32 w (g.alloc (.cells #[sZ b 32 32,sZ w.heap.size k.size c,.slice i m l] 23)):=(Only.of_below f rfl A).alloc oM _;go_enter func145,ntmps145;go_wp2_with fail
 refine(qK b L ⟨#[115,97,121]⟩ (some (aZ g.heap.size)) 3 3 [L.toList,k.data.toList,d] _ dC rfl dC v q z).mono ?_;rintro e G ⟨rfl,t,r⟩;go_wp2
 go_end0
 exact⟨rfl,o.trans t,r⟩
theorem Nn(b:Nat)(L:Bs)(k:ByteArray)(n:Nat)(w:Ur)(h5:k.size<=1048576)(hn:n<=1024)(Y:Holds encB w b 0 L)(O:L.size=32):
 UH prog 242 #[jZ b,.string k,iZ n] w λe w'=>∃r,e=.returned (.tuple #[sZ r n n,iZ 0])/\w.heap.size<=r/\Only b 0 32 w w'/\Holds encB w' b 0 (tI L k.data.toList)/\Holds encB w' r 0 (CN L k.data.toList n):=by
 have U:=Holds.lt Y oM;obtain⟨c,i,h7,hc,V,y,D,Z⟩:=oG k w oM;have f:=Holds.below Y D U;have B:=nY i #[sZ b 32 32,sZ w.heap.size k.size c] [L.toList,k.data.toList] 23 rfl (λj q=>by
  have d:j<2:=q;match j,d with
  | 0,_=>exact qX f O
  | 1,_=>exact y)
 have s:kZ i (i.alloc (.cells #[sZ b 32 32,sZ w.heap.size k.size c] 23)):=(UR _ _).alloc (Uw _) _;have u:=Holds.below' f s;have p:Only b 0 32 w (i.alloc (.cells #[sZ b 32 32,sZ w.heap.size k.size c] 23)):=(Only.of_below D rfl U).alloc oM _;have d0:decide ((n:Int)<0)=false:=decide_eq_false oM;have d1:¬(1024:Int)<(n:Int):=oM;clear V y s;go_enter func242,ntmps242;go_wp2_with fail
 refine(vP ⟨#[97,115,107]⟩ (some (aZ i.heap.size)) 2 [L.toList,k.data.toList] _ dC (by show 2<=1048576;omega) B).mono ?_;rintro e w3 ⟨X,rfl,h8,x,P⟩;have T:=Holds.below' u x;have A:=p.trans (Only.of_below x rfl (Ux U p.size));clear B u f;go_wp2_with fail
 refine(yV (some (aZ X)) X 0 32 32 n _ _ oM (fC _ _) oM oM (UX ⟨rfl,P⟩)).mono ?_;rintro e a ⟨E,rfl,he,t,N⟩;have I:=Holds.below' T t;have ha:=A.size;have z:=A.trans (Only.of_below t rfl oM);have G:Holds encB a E 0 (CN L k.data.toList n):=N;have h9:=z.size;obtain⟨M,l,h4,hg,h6,Q,g,h0⟩:=oG k a oM;have m:=Holds.below' I g;have S:=Holds.below' G g;have C:=nY l #[sZ b 32 32,sZ a.heap.size k.size M] [L.toList,k.data.toList] 23 rfl (λj q=>by
  have d:j<2:=q;match j,d with
  | 0,_=>exact qX m O
  | 1,_=>exact Q)
 have d:kZ l (l.alloc (.cells #[sZ b 32 32,sZ a.heap.size k.size M] 23)):=(UR _ _).alloc (Uw _) _;have F:=Holds.below' m d;have K:=Holds.below' S d;have H:Only b 0 32 w (l.alloc (.cells #[sZ b 32 32,sZ a.heap.size k.size M] 23)):=z.trans ((Only.of_below g rfl oM).alloc oM _);go_wp2_with fail
 refine(qK b L ⟨#[97,115,107,101,100]⟩ (some (aZ l.heap.size)) 2 2 [L.toList,k.data.toList] _ dC rfl dC C F O).mono ?_;rintro e w7 ⟨rfl,v,R⟩;have J:Holds encB w7 E 0 (CN L k.data.toList n):=by
  intro j q;have h1:=K j q;have h2:=Xo _ _ h1.1;have W:=v.other (c:=E) (o:=0+j) oM h2;rw[W.1,W.2];exact h1
 go_wp2
 go_ret2
 exact⟨E,rfl,oM,H.trans v,R,J⟩
end SP
end Go.Proofs.YtdoammpgchejcaaGreat
